import Derived.Deep.RegionLaw
import Derived.Deep.AppendLies
import Derived.Test.YtngnoopnloojjaaGreatDoorQ22
import Derived.Deep.Cut
import Derived.Test.YtngnoopnloojjaaGreatDoorQ84
set_option linter.all false
set_option maxRecDepth 100000
set_option maxHeartbeats 0
namespace Go.Proofs.YtngnoopnloojjaaGreatDoor
open Go.Proofs.Tryz Go.RowKit
variable[Inhabited Pick]
section
variable{g C:Nat}{w:World}{L:List Nat}{c:Mc}{d s i o:Value}{v:Int}
theorem H_{v:Value}(h:∀x∈blk v,x=g):(blk v).Sublist [g]:=by unfold blk at*;split;rename_i a n c;have:=h a.block i_;rw[this];exact List.Sublist.refl _;exact List.nil_sublist _
theorem az.inn1{off cap J:Nat}{H:Value}{is:List Int}(Jj:c.regs.length=32)
  (hb:Bx w C (.slice (some ⟨g,off,none⟩) c.regs.length cap) (.int .u32 c.pc) d s i o (.int .u32 c.low) (V c.st)) (hR:Row .u32 w g off c.regs) (hd:dy .u8 w d c.data) (hs:dy .u8 w s c.stack)
  (ho:w.ownsRow 0 2 1 o c.out.length (c.out.map (Value.int .i64))) (X:L=C::(blk (.slice (some ⟨g,off,none⟩) c.regs.length cap)++blk d++blk s++blk i++fy o)) (Jg:L.Nodup)
  (Jf:blk (.slice (some ⟨g,off,none⟩) c.regs.length cap)=[g]) (Z:dU d/\dU s/\dU i) (Je:blk i=[J]) (Jh:dy .i64 w H is) (Ja:∀x∈blk H,x=J) (Ji:dU H):
  ∃L',az (((w.setCell ⟨g,off+10,none⟩ (.int .u32 0)).setCell ⟨g,off+10,none⟩ (.int .u32 v)).setCell ⟨C,4,none⟩ H) C L' {c with regs:=c.regs.set 10 v,inn:=is}/\(∀x∈L',x∈L)/\aA (λx=>x∈L) w (((w.setCell ⟨g,off+10,none⟩ (.int .u32 0)).setCell ⟨g,off+10,none⟩ (.int .u32 v)).setCell ⟨C,4,none⟩ H):=by
 have T:=(((aA.refl (λk=>k=g\/k=C) w).setCell (p:=⟨g,off+10,none⟩) (.inl rfl) (.int .u32 0)).setCell (p:=⟨g,off+10,none⟩) (.inl rfl) (.int .u32 v)).setCell (p:=⟨C,4,none⟩) (.inr rfl) H;have Jd:(C::(blk (.slice (some ⟨g,off,none⟩) c.regs.length cap)++blk d++blk s++blk H++fy o)).Sublist L:=by rw[X];refine List.Sublist.cons_cons _ (List.Sublist.append (List.Sublist.append (List.Sublist.refl _) ?_) (List.Sublist.refl _));rw[Je];exact H_ Ja
 have Jb:=List.Nodup.sublist Jd Jg;have Jc:=Jg;rw[X,Jf,Je]at Jc;have U:=(List.nodup_cons.mp Jc).1;have h2:=(List.nodup_cons.mp Jc).2;rw[List.append_assoc,List.append_assoc,List.append_assoc]at h2;have O:C≠g:=λe=>U (by simp[e]);have I:∀x∈blk d++(blk s++([J]++fy o)),x≠g:=by intro x h e;subst e;exact mN h2 (List.mem_singleton.mpr rfl) h
 have kd:g∉blk d:=λhm=>I g (by simp[hm]) rfl;have ks:g∉blk s:=λhm=>I g (by simp[hm]) rfl;have ki:g≠J:=λe=>I g (by simp[e]) rfl;have ko:g∉fy o:=λhm=>I g (by simp[hm]) rfl;simp only[List.mem_append,List.mem_singleton,not_or]at U;obtain⟨⟨⟨⟨_,d1⟩,d2⟩,d3⟩,d4⟩:=U;have mm:∀k,k=g\/k=C->k∈L:=by rintro k (rfl|rfl) <;> (rw[X,Jf];simp)
 refine⟨_,⟨.slice (some ⟨g,off,none⟩) c.regs.length cap,d,s,H,o,?_,?_,hd.tcs T ?_,hs.tcs T ?_,Jh.tcs T ?_,fJ ho T ?_,⟨Z.1,Z.2.1,Ji⟩,rfl,Jb⟩,λx h=>Jd.subset h,T.mono mm⟩;exact((hb.other (p:=⟨g,off+10,none⟩) O _).other (p:=⟨g,off+10,none⟩) O _).s4 _;refine⟨_,cap,i_,λ_=>⟨g,off,rfl,?_⟩⟩;have Y:=(hR.set (i:=10) (z:=0) o_).set (i:=10) (z:=v) (by simp;omega);rw[List.set_set]at Y;exact Y.keep i_ (Below.heap_setCell _ ⟨C,4,none⟩ _ g (λe=>O e.symm));rintro x h (rfl|rfl);exact kd h;exact d1 h;rintro x h (rfl|rfl);exact ks h;exact d2 h;intro x h;have:=Ja x h;subst this;rintro(e|e);exact ki e.symm;exact d3 e.symm;rintro x h (rfl|rfl);exact ko h;exact d4 h
theorem KP(C:Nat)(L:List Nat)(c:Mc)(w:World)(hG:Good c)(h:az w C L c)(z:Int)(I:List Int)(Jm:c.regs.getD 17 0=2)(Jc:c.inn=z::I):
  Calls prog 101 #[pV C] w λe w'=>e=rW (.bool true)/\∃L',az w' C L' {c with regs:=c.regs.set 10 (z%4294967296),inn:=I}/\(∀g∈L',g∈L)/\aA (λg=>g∈L) w w':=by
 have⟨rv,d,s,i,o,J,hr,hd,hs,hi,ho,Y,hL,Jg⟩:=id h;obtain⟨g,Jh,Jk,rfl,O,Jf⟩:=aZ hr (by have:=hG.r32;omega);have Ji:=hG.r32;have c0:=J.c0;rw[Ji]at c0;have Jj:=O.cell 17 o_;have Jq:=O.cell 10 o_;have Jp:=O.froz (Jh+10);obtain⟨H,oi,U,rfl,Jb,Jd⟩:=aZ hi (by rw[Jc];simp);have Je:c.inn.length<=U:=Y.2.2;have Jl:c.inn.length=I.length+1:=by rw[Jc];simp
 have Jr:I.length<=1000:=by have:=hG.il;omega
 have c4:=J.c4;rw[Jl]at c4 Je;have f4:=J.fz 4;have ri:=Jb.cell 0 o_;rw[Jc]at ri;simp only[List.getD_cons_zero,Nat.add_zero]at ri;rw[Jm]at Jj;have Ja:=Jg;rw[hL,Jf,Jd]at Ja;have q1:¬C=g:=by intro e;rw[e]at Ja;simp at Ja
 have q2:¬H=g:=by intro e;rw[e]at Ja;simp at Ja
 have q3:¬C=H:=by intro e;rw[e]at Ja;simp at Ja
 have Jn:¬g=C:=λe=>q1 e.symm;have Js:¬g=H:=λe=>q2 e.symm;have Jo:¬H=C:=λe=>q3 e.symm;have HF:Hid (∀(i':Value) (v:Int),dy .i64 w i' I->(∀x∈blk i',x=H)->dU i'->_):=λi' v a1 a2 a3=>az.inn1 (v:=v) Ji J O hd hs ho hL Jg Jf Y Jd a1 a2 a3;have HT:Hid (dy .i64 w (.slice (some ⟨H,oi+1,none⟩) I.length (U-1)) I):=by refine⟨_,_,rfl,λhn=>⟨H,oi+1,rfl,Jb.lt,λj hj=>?_,Jb.froz⟩⟩;have:=Jb.cell (j+1) o_;rw[Jc]at this;rw[show oi+1+j=oi+(j+1) by omega,this];simp
 have hj:∀ {a:Addr} {n k:Nat},a.block=H->∀x∈blk (.slice (some a) n k),x=H:=λ{a n k} e x hx=>by
  have:=fI hx
  simp[fy]at this;omega
 have HJ:Hid (∀ {a:Addr} {n k:Nat},a.block=H->∀x∈blk (.slice (some a) n k),x=H):=λ{a n k}=>hj;clear J hr O hd hs hi ho Y hL Jg Jf h Jb Jd Ja hj;go_in;go_wp2
 go_region_held3 (λW=>W.cell? ⟨C,0,none⟩=some (.slice (some ⟨g,Jh,none⟩) 32 Jk)/\W.cell? ⟨C,4,none⟩=some (.slice (some ⟨H,oi,none⟩) (I.length+1) U)/\W.cell? ⟨H,oi,none⟩=some (V z)) (go_simp) (fail)
 go_wp2;go_ret;have⟨L',X,k2,Z⟩:=HF.out (.slice (some ⟨H,oi,none⟩) I.length 0) (z%4294967296) ⟨_,_,rfl,λhn=>absurd hn o_⟩ (HJ.out rfl) (show I.length<=0 by omega);exact⟨rfl,L',X.below (r_.drew),k2,Z.drewN 1⟩;go_ret;have⟨L',X,k2,Z⟩:=HF.out _ (z%4294967296) HT.out (HJ.out rfl) (show I.length<=U-1 by omega);exact⟨rfl,L',X.below (r_.drew),k2,Z.drewN 1⟩
end
theorem KQ(C:Nat)(L:List Nat)(c:Mc) (rd s1 s2:Nat)(im:Int)(w:World)(J:Good c)(h:az w C L c)(z:Int)(I:List Int)(Jk:c.regs.getD 17 0=2)(Jj:c.inn=z::I)(Jr:rd<32)(h1:s1<32)(h2:s2<32)
  (Ji:c.st=0)  :
  Calls prog 59 #[pV C,.agg #[V 34,V rd,V s1,V s2,V im]] w λe w'=>e=rW (.bool true)/\∃L',az w' C L' {c with regs:=c.regs.set 10 (z%4294967296),inn:=I,pc:=(c.pc+4)%4294967296}/\(∀g∈L',g∈L)/\aA (λg=>g∈L) w w':=by
 have T0:=(aA.refl (λg=>g∈L) w).alloc (.cells #[V 34,V rd,V s1,V s2,V im] 84);have O:=h.below ((Below.refl w.heap.size w).alloc n_ (.cells #[V 34,V rd,V s1,V s2,V im] 84));have⟨rv,d,s,i,o,Y,hr,hd,hs,hi,ho,hk,hL,Jq⟩:=id O;obtain⟨g,Jo,Jm,rfl,hR,Jp⟩:=aZ hr (by have:=J.r32;omega);have Jh:=J.r32;have c0:=Y.c0;rw[Jh]at c0;have c1:=Y.c1;have Je:=hR.cell s1 o_;have Jc:=hR.cell s2 o_;have X0:∀ {W:World},aA (λg=>g∈L) (w.alloc (.cells #[V 34,V rd,V s1,V s2,V im] 84)) W->W.cell? ⟨w.heap.size,0,none⟩=some (V 34)/\W.cell? ⟨w.heap.size,1,none⟩=some (V rd):=by intro W H;have Jf:=H.block w.heap.size i_ (λhm=>by have:=h.lt _ hm;omega);constructor <;> (rw[c_ (w:=w.alloc _) Jf];simp)
 have HS:Hid (∀W v,Below (w.alloc (.cells #[V 34,V rd,V s1,V s2,V im] 84)).heap.size (w.alloc (.cells #[V 34,V rd,V s1,V s2,V im] 84)) W ->
   Calls prog 96 #[pV C,V rd,.int .u32 v] W λe w'=>e=rW (.tuple #[])/\az w' C L (dR c rd v)/\aA (λg=>g∈L) w w'/\(w'.cell? ⟨w.heap.size,0,none⟩=some (V 34)/\w'.cell? ⟨w.heap.size,1,none⟩=some (V rd))):=by
  intro W v H;refine(bH C L c rd v W J.r32 o_ (O.below H)).mono ?_;rintro e w' ⟨rfl,hc,ht⟩;have Z:=(Below.tcs (S:=λg=>g∈L) H).trans ht;exact⟨rfl,hc,T0.trans Z,X0 Z⟩
 have Jn:=X0 (aA.refl _ _);have HM:Hid (∀W,Below (w.alloc (.cells #[V 34,V rd,V s1,V s2,V im] 84)).heap.size (w.alloc (.cells #[V 34,V rd,V s1,V s2,V im] 84)) W->Calls prog 101 #[pV C] W λe w'=>e=rW (.bool true)/\(∃L',az w' C L' {c with regs:=c.regs.set 10 (z%4294967296),inn:=I}/\(∀g∈L',g∈L)/\aA (λg=>g∈L) w w')):=by intro W H;refine(KP C L c W J (O.below H) z I Jk Jj).mono ?_;rintro e w' ⟨rfl,L',k1,k3,k2⟩;exact⟨rfl,L',k1,k3,(T0.trans (Below.tcs H)).trans k2⟩
 generalize hx1:c.regs.getD s1 0=a at Je;generalize hx2:c.regs.getD s2 0=b at Jc;go_in;go_wp2_with fail;go_quiet (fail);go_wp2_with fail;refine(HM.out _ ?_).mono ?_;exact below_drewN r_ _;rintro e w2 ⟨rfl,L',Jb,Jd,Jg⟩;have⟨rv,d2,Jl,i2,o2,Ja,_,_,_,_,_,_,_⟩:=id Jb;have q1:=Ja.c1;have X:=Ja.c7;have qf:=Ja.fz 1;dsimp only at q1 X;rw[Ji]at X;have U:Hid _:=And.intro Jb Jg;have HK:=ah Jd;go_wp2;go_ret;exact⟨rfl,L',U.out.1.pc _,HK,U.out.2.setCell (HK.out C U.out.1.mem) _⟩
theorem H0(C:Nat)(L:List Nat)(c:Mc) (rd s1 s2:Nat)(im:Int)(w:World)(I:Good c)(h:az w C L c)(Jh:c.regs.getD 17 0=10)(Jp:rd<32)(h1:s1<32)(h2:s2<32)
  (Jo:c.st=0)  :
  Calls prog 59 #[pV C,.agg #[V 34,V rd,V s1,V s2,V im]] w λe w'=>e=rW (.bool true)/\az w' C L {c with st:=1}/\aA (λg=>g∈L) w w':=by
 have Y:=(aA.refl (λg=>g∈L) w).alloc (.cells #[V 34,V rd,V s1,V s2,V im] 84);have J:=h.below ((Below.refl w.heap.size w).alloc n_ (.cells #[V 34,V rd,V s1,V s2,V im] 84));have⟨rv,d,s,i,o,O,hr,hd,hs,hi,ho,hk,hL,Jn⟩:=id J;obtain⟨g,Jl,Jj,rfl,Z,Jm⟩:=aZ hr (by have:=I.r32;omega);have Jg:=I.r32;have c0:=O.c0;rw[Jg]at c0;have c1:=O.c1;have Jc:=Z.cell s1 o_;have Jb:=Z.cell s2 o_;have X:∀ {W:World},aA (λg=>g∈L) (w.alloc (.cells #[V 34,V rd,V s1,V s2,V im] 84)) W->W.cell? ⟨w.heap.size,0,none⟩=some (V 34)/\W.cell? ⟨w.heap.size,1,none⟩=some (V rd):=by intro W H;have Jd:=H.block w.heap.size i_ (λhm=>by have:=h.lt _ hm;omega);constructor <;> (rw[c_ (w:=w.alloc _) Jd];simp)
 have HS:Hid (∀W v,Below (w.alloc (.cells #[V 34,V rd,V s1,V s2,V im] 84)).heap.size (w.alloc (.cells #[V 34,V rd,V s1,V s2,V im] 84)) W ->
   Calls prog 96 #[pV C,V rd,.int .u32 v] W λe w'=>e=rW (.tuple #[])/\az w' C L (dR c rd v)/\aA (λg=>g∈L) w w'/\(w'.cell? ⟨w.heap.size,0,none⟩=some (V 34)/\w'.cell? ⟨w.heap.size,1,none⟩=some (V rd))):=by
  intro W v H;refine(bH C L c rd v W I.r32 o_ (J.below H)).mono ?_;rintro e w' ⟨rfl,hc,ht⟩;have U:=(Below.tcs (S:=λg=>g∈L) H).trans ht;exact⟨rfl,hc,Y.trans U,X U⟩
 have Jk:=X (aA.refl _ _);have HM:Hid (∀W,Below (w.alloc (.cells #[V 34,V rd,V s1,V s2,V im] 84)).heap.size (w.alloc (.cells #[V 34,V rd,V s1,V s2,V im] 84)) W->Calls prog 101 #[pV C] W λe w'=>e=rW (.bool true)/\(az w' C L {c with st:=1}/\aA (λg=>g∈L) w w')):=by intro W H;refine(Hz C L c W I (J.below H) Jh).mono ?_;rintro e w' ⟨rfl,k1,k2⟩;exact⟨rfl,k1,(Y.trans (Below.tcs H)).trans k2⟩
 generalize hx1:c.regs.getD s1 0=a at Jc;generalize hx2:c.regs.getD s2 0=b at Jb;go_in;go_wp2_with fail;go_quiet (fail);go_wp2_with fail;refine(HM.out _ ?_).mono ?_;exact below_drewN r_ _;rintro e w2 ⟨rfl,Ja,Je⟩;have⟨rv,d2,Ji,i2,o2,Jf,_,_,_,_,_,_,_⟩:=id Ja;have q7:=Jf.c7;dsimp only at q7;have HE:Hid _:=And.intro Ja Je;go_wp2;go_ret;exact⟨rfl,HE⟩
def KR(c:Mc)(mb k a b s d:Int)(ok:Bool)(c':Mc):Prop:=
 (∀C L w,az w C L c->Calls prog 59 #[pV C,.agg #[V k,V a,V b,V s,V d]] w λe w'=>e=rW (.bool ok)/\∃L',az w' C L' c'/\(∀g∈L',g∈L\/w.heap.size<=g)/\aA (λg=>g∈L) w w')/\True/\True/\Good c'/\True
def lowM(c:Mc):Mc:= {c with low:=if c.regs.getD 2 0<c.low then c.regs.getD 2 0 else c.low}
theorem KS(C:Nat)(L:List Nat)(c c':Mc)(mb k a b s d:Int)(w:World)(h:az w C L c)(Z:KR c mb k a b s d true c'):
  Calls prog 30 #[pV C,.agg #[.bool true,V k,V a,V b,V s,V d]] w λe w'=>e=rW (.tuple #[])/\∃L',az w' C L' (lowM c')/\(∀g∈L',g∈L\/w.heap.size<=g)/\aA (λg=>g∈L) w w':=by
 have h0:=h.below ((Below.refl w.heap.size w).alloc n_ (.cells #[.bool true,V k,V a,V b,V s,V d] 86));have X:=h.mem;have Jb:=h.lt C X;have Jc:¬C=w.heap.size:=o_;have U:=Z.2.2.2.1;have HD:Hid (∀W,_):=λW (hW:az W C L c)=>Z.1 C L W hW;have Y:Hid _:=And.intro h0 X;go_in;go_wp2_with fail;refine(HD.out _ Y.out.1).mono ?_;rintro e w1 ⟨rfl,L',H,I,J⟩;have Ja:=H.mem;have⟨rv,dv,sv,iv,ov,O,hr,hd,hs,hi,ho,hk,hL,Jg⟩:=id H;obtain⟨g,Je,Jd,rfl,hR,Jf⟩:=aZ hr (by have:=U.r32;omega);have c0:=O.c0;rw[U.r32]at c0;have c6:=O.c6;have cf:=O.fz;have r2:=hR.cell 2 (by have:=U.r32;omega);have HY:Hid _:=And.intro H (And.intro I (And.intro J Ja));generalize hx:c'.regs.getD 2 0=q at*;go_wp2_with fail;go_region_law (fail)
 all_goals go_wp2_with fail
 all_goals go_end0
 all_goals
  have⟨H,I,J,Ja⟩:=HY.out;simp only[Bl,World.size_alloc]at I;refine⟨rfl,L',?_,λg hg=>?_,?_⟩
  unfold lowM;rw[hx];have e:(if q<c'.low then q else c'.low)=min c'.low q:=by split<;>omega
  refine Eq.mp (congrArg (λl=>az (w1.setCell ⟨C,6,none⟩ (.int .u32 (min c'.low q))).drew C L' {c' with low:=l}) e.symm) ((H.low _).below r_.drew);rcases I g hg with h|h;exact .inl h;exact .inr o_;exact((((aA.refl (λg=>g∈L) w).alloc _).trans J).setCell (p:=⟨C,6,none⟩) Y.out.2 _).drewN 1
theorem EE(a:Option Addr)(Ja cap n:Nat)(d bd pc:Int)(w:World)(X:(Ja:Int)<=20000)(Y:(n:Int)<(Ja:Int))(H:pc=4096+4*(n:Int)):
  Calls prog 60 #[.agg #[.slice a Ja cap,V d,V bd],.int .u32 pc] w λe w'=>e=rW (.tuple #[V n,.bool true])/\Below w.heap.size w w':=by
 have J:(pc-4096)%4294967296=4*(n:Int):=o_;have U:(4*(n:Int)) / 4=(n:Int):=o_;have O:(4*(n:Int))%4=0:=o_;have I:wrap64 (n:Int)=(n:Int):=by unfold wrap64;omega
 have Jb:(0:Int)<=(n:Int):=o_;clear H;go_in;go_wp2_with fail;go_quiet (fail);go_wp2;go_ret2;exact⟨rfl,below_drewN (aq _ _) _⟩
theorem Nt(a:Option Addr)(Ja cap:Nat)(d bd pc:Int)(w:World)(J:(Ja:Int)<=20000)(Jd:0<=pc/\pc<=4294967295)(I:¬(4096<=pc/\(pc-4096)%4=0/\(pc-4096) / 4<(Ja:Int))):
  Calls prog 60 #[.agg #[.slice a Ja cap,V d,V bd],.int .u32 pc] w λe w'=>∃i,e=rW (.tuple #[V i,.bool false])/\Below w.heap.size w w':=by
 generalize ho:(pc-4096)%4294967296=o at*;have Jb:0<=o/\o<=4294967295:=o_;have Jc:¬o%4=0\/(Ja:Int)<=o / 4:=o_;have H:wrap64 (o / 4)=o / 4:=by unfold wrap64;omega
 go_in;go_wp2_with fail;by_cases h1:o%4=0
 ·have h2:¬o / 4<(Ja:Int):=o_
  go_quiet (fail)
  go_wp2;go_ret2;first
   | exact⟨_,rfl,below_drewN (aq _ _) _⟩
   | exact⟨⟨_,rfl⟩,below_drewN (aq _ _) _⟩
 have h3:(o%4 == 0)=false:=by simpa using h1
 go_quiet (fail)
 go_wp2;go_ret2;first
  | exact⟨_,rfl,below_drewN (aq _ _) _⟩
  | exact⟨⟨_,rfl⟩,below_drewN (aq _ _) _⟩
section
variable{k:IntKind}{w w':World}{zs:List Int}
theorem Fi(v:Int)(hv:0<=v/\v<=4294967295)(H I:Nat)
  (hM:∀n:Nat,1<=n->n<35->∃a b c d R:Int,(R == v)=false/\tU n v a b c d R) (w:World) (Jk:H<w.heap.size) (hT:∀j,j<35->w.cell? ⟨H,I+j,none⟩=dq[j]?):
  Calls prog 61 #[.pointer (some ⟨H,I,none⟩),.int .u32 v] w λe w'=>e=rW (.agg #[.bool false,V 0,V 0,V 0,V 0,V 0])/\Below w.heap.size w w':=by
 have HM:=ah hM;have HT:=ah hT;go_in;go_wp2;go_loopw[5] (λi wr=>∃n:Nat,1<=n/\n<=35/\i=V n/\Below (w.heap.size+1) (w.alloc (.cells #[.bool false,V 0,V 0,V 0,V 0,V 0] 86)) wr)
  (λi _=>35-(RowKit.intOf i).toNat)
 case atStart=>exact⟨1,o_,o_,rfl,r_⟩
 case round=>
  obtain⟨n,Jg,Jn,rfl,X⟩:=hrel;have Y:=X.size;simp only[Bl,World.size_alloc]at Y;by_cases hlt:n<35
  ·have Je:n<=34:=o_
   have Jm:(0:Int)<=(n:Int):=o_;have Jl:(n:Int)<35:=o_
   have Jh:wr.cell? ⟨H,I+n,none⟩=dq[n]? := (X.cell (p:=⟨H,I+n,none⟩) (by simp;omega)).trans (((r_.alloc (Nat.le_refl w.heap.size) _).cell (p:=⟨H,I+n,none⟩) Jk).trans (HT.out n o_));have⟨O,J,c',U,R,hR,T,cv,fw,fi,Ja,mw,mi,hi,hw,cw,ci⟩:=HM.out n Jg hlt;have tc:=Jh.trans Ja;have GI:=ah hi;have GW:=ah hw;go_wp2_with fail;refine(GI.out _).mono ?_;rintro e w1 ⟨rfl,Jc⟩;have Jf:=X.trans (Jc.mono Y);have z1:=Jc.size;have hA:=(Below.refl w1.heap.size w1).alloc (Nat.le_refl w1.heap.size) (.cells #[V 0,V O,V J,V c',V U] 84);have t1:=later hA (later Jc tc);have k1:=pK (Below.refl (w1.heap.size+1) (w1.alloc (.cells #[V 0,V O,V J,V c',V U] 84)));go_wp2_with fail;go_region_held3 (λW=>W.cell? ⟨w1.heap.size,0,none⟩=some (V 0)/\W.cell? ⟨w1.heap.size,1,none⟩=some (V O)/\W.cell? ⟨w1.heap.size,2,none⟩=some (V J)/\W.cell? ⟨w1.heap.size,3,none⟩=some (V c')/\W.cell? ⟨w1.heap.size,4,none⟩=some (V U) /\
     W.cell? ⟨H,I+n,none⟩=some (.iface T cv)) (go_simp)
    (first
    | (refine(GW.out _).mono ?_;rintro e w2 ⟨rfl,Jd⟩;have Z:=je (W:=(w1.alloc (.cells #[.int .i64 0,.int .i64 O,.int .i64 J,.int .i64 c',.int .i64 U] 84)).drew) Jd k1 t1))
   have Jb:Below (w1.heap.size+1) (w1.alloc (.cells #[V 0,V O,V J,V c',V U] 84)) w2:=(r_.drew).trans (Jd.mono i_);have Ji:=Jf.trans ((r_.alloc (Nat.le_refl w1.heap.size) _ |>.trans (Jb.mono (Nat.le_succ _))).mono (by omega:w.heap.size+1<=w1.heap.size));have Jj:=ah Ji;go_wp2;go_roundw
   case rel=>exact⟨n+1,o_,o_,by go_num,Jj⟩
   case measure=>simp[RowKit.intOf];omega
  obtain rfl:n=35:=(by omega);have⟨Z,f2⟩:=JN X;have HB:Hid (Bl w wr):=(aq _ _).trans (X.mono o_);go_wp2;refine bodyPost_ret (v:=.agg #[.bool false,V 0,V 0,V 0,V 0,V 0]) (by simp[results,results61,go_sem,Z,f2]) rfl ⟨rfl,?_⟩;exact(((((HB.out.setCell i_ _).setCell i_ _).setCell i_ _).setCell i_ _).setCell i_ _).setCell i_ _
structure kW where
 o:Bool
 k:Int
 a:Int
 b:Int
 s:Int
 d:Int
def kW.t:kW->Bool×List Int|⟨o,k,a,b,s,d⟩=>(o,[k,a,b,s,d])
theorem tI:∀ {x y:kW},x.t=y.t->x=y|⟨_,_,_,_,_,_⟩,⟨_,_,_,_,_,_⟩,h=>by simp only[kW.t,Prod.mk.injEq,List.cons.injEq,and_true]at h;simp only[h]
def kW.no:kW:=⟨false,0,0,0,0,0⟩
def kW.val(x:kW):Value:=.agg #[.bool x.o,V x.k,V x.a,V x.b,V x.s,V x.d]
def ID(v:Int)(n:Nat):Bool:=wF n (iF n v).1 (iF n v).2.1 (iF n v).2.2.1 (iF n v).2.2.2 == v
def kX(v:Int):kW:=match (List.range 34).find? (λn=>ID v (n+1))with
 | some n=>⟨true,((n+1:Nat):Int),(iF ((n+1:Nat):Int) v).1,(iF ((n+1:Nat):Int) v).2.1,(iF ((n+1:Nat):Int) v).2.2.1,(iF ((n+1:Nat):Int) v).2.2.2⟩
 | none=>kW.no
def NO(v:Int)(x:kW):Prop:=True/\True/\(∀(tb ot:Nat) (W:World),tb<W.heap.size->(∀j,j<35->W.cell? ⟨tb,ot+j,none⟩=dq[j]?) ->
   Calls prog 61 #[.pointer (some ⟨tb,ot,none⟩),.int .u32 v] W λe w'=>e=rW (.agg #[.bool x.o,V x.k,V x.a,V x.b,V x.s,V x.d])/\Below W.heap.size W w')/\True /\
  (x.o=false->x.k=0/\x.a=0/\x.b=0/\x.s=0/\x.d=0)
theorem Fj(v:Int)(h:0<=v/\v<=4294967295):NO v (kX v):=by
 unfold kX;cases hf:(List.range 34).find? (λn=>ID v (n+1))with
 | some n=>
  have H:=List.find?_some hf;have h2:n<34:=List.mem_range.1 (List.mem_of_find?_eq_some hf);refine⟨trivial,trivial,λtb ot W h3 h4=>?_,trivial,λe=>by cases e⟩;refine Ib v h tb ot (n+1) o_ _ _ _ _ ?_ (λm m1 m2=>?_) W h3 h4
  ·have:=pL (n+1) o_ v h
   rw[eq_of_beq H]at this;exact this
  ·refine⟨_,_,_,_,_,?_,pL m o_ v h⟩;have h5:=List.find?_range_eq_some.1 hf;have h6:=h5.2.2 (m-1) o_;have e:m-1+1=m:=o_
   rw[e]at h6;simpa[ID]using h6
 | none=>
  refine⟨trivial,trivial,λtb ot W h3 h4=>?_,trivial,λ_=>⟨rfl,rfl,rfl,rfl,rfl⟩⟩;refine Fi v h tb ot (λm m1 m2=>⟨_,_,_,_,_,?_,pL m o_ v h⟩) W h3 h4;have h5:=List.find?_eq_none.1 hf (m-1) (List.mem_range.2 o_);have e:m-1+1=m:=o_;rw[e]at h5;simpa[ID]using h5
theorem Row.below{g off:Nat}(h:Row k w g off zs)(hb:Below w.heap.size w w'):Row k w' g off zs:=h.keep hb.size (hb.block g h.lt)
theorem aA.join{S T:Nat->Prop}{a:World}(h:aA S a w)(k:aA T w w')(hT:∀g,T g->S g\/a.heap.size<=g):aA S a w':=h.next k hT
theorem cell_of{W:World}{k j t:Nat}{H:Array Value}{v:Value}(h:W.heap[k]? =some (.cells H t))(I:H[j]? =some v):W.cell? ⟨k,j,none⟩=some v:=by simp[World.cell?,h,I]
def zl(codes:List Int)(pc:Int):Option Int:=if 4096<=pc/\(pc-4096)%4=0/\(pc-4096) / 4<codes.length then some (codes.getD ((pc-4096) / 4).toNat 0)else none
def dG(codes:List Int)(pc:Int):kW:=match zl codes pc with|some v=>kX v|none=>kW.no
def mq(codes:List Int):Prop:=codes.length<=20000/\∀j,j<codes.length->0<=codes.getD j 0/\codes.getD j 0<=4294967295
theorem IE{a:Option Addr}{n m:Nat}(h:dy k w (.slice a n m) zs):n=zs.length:=by have⟨x,y,e⟩:=h.len0;simp only[Value.slice.injEq]at e;exact e.2.1
theorem Good.lowM{c:Mc}(h:Good c):Good (lowM c):=by refine⟨h.r32,h.ru,h.r0,h.pcu,?_,h.dl,h.du,h.sl,h.su,h.il,h.iu,h.ol,h.ou,h.st⟩;have H:=h.ru 2 d_;have h2:=h.lou;show 0<=(if c.regs.getD 2 0<c.low then c.regs.getD 2 0 else c.low)/\(if c.regs.getD 2 0<c.low then c.regs.getD 2 0 else c.low)<=4294967295;split <;> omega
end
section
variable{W W':World}{g p Fb gk len cap:Nat}{a:Option Addr}{d bd:Int}{codes:List Int}
structure Ll (W:World) (g p:Nat) (x:kW):Prop where
 c0:W.cell? ⟨g,p,none⟩=some (.bool x.o)
 c1:W.cell? ⟨g,p+1,none⟩=some (V x.k)
 c2:W.cell? ⟨g,p+2,none⟩=some (V x.a)
 c3:W.cell? ⟨g,p+3,none⟩=some (V x.b)
 c4:W.cell? ⟨g,p+4,none⟩=some (V x.s)
 c5:W.cell? ⟨g,p+5,none⟩=some (V x.d)
theorem Ll.keep{x:kW}(h:Ll W g p x)(H:W'.heap[g]? =W.heap[g]?):Ll W' g p x:=by
 have k:=λj=>c_ (w:=W) (w':=W') (a:=⟨g,j,none⟩) H;exact⟨(k _).trans h.c0,(k _).trans h.c1,(k _).trans h.c2,(k _).trans h.c3,(k _).trans h.c4,(k _).trans h.c5⟩
structure qO (W:World) (Fb gk:Nat) (a:Option Addr) (len cap:Nat) (d bd:Int) (codes:List Int):Prop where
 lt:Fb<W.heap.size
 i0:W.cell? ⟨Fb,0,none⟩=some (.slice a len cap)
 i1:W.cell? ⟨Fb,1,none⟩=some (V d)
 i2:W.cell? ⟨Fb,2,none⟩=some (V bd)
 tab:∀j,j<35->W.cell? ⟨Fb,3+j,none⟩=dq[j]?
 kn:W.cell? ⟨Fb,38,none⟩=some (rV gk len len)
 kl:gk<W.heap.size
 kf:∀j,W.frozen? ⟨gk,j,none⟩=false
 ks:∀i,i<len->∃x:kW,(x=kW.no\/x=kX (codes.getD i 0))/\Ll W gk (i*6) x
 ne:Fb≠gk
theorem qO.keep(h:qO W Fb gk a len cap d bd codes)(H:W.heap.size<=W'.heap.size)(O:W'.heap[Fb]? =W.heap[Fb]?)(I:W'.heap[gk]? =W.heap[gk]?):qO W' Fb gk a len cap d bd codes:=by have k:=λj=>c_ (w:=W) (w':=W') (a:=⟨Fb,j,none⟩) O;exact⟨l_ h.lt H,(k _).trans h.i0,(k _).trans h.i1,(k _).trans h.i2,λj hj=>(k _).trans (h.tab j hj),(k _).trans h.kn,l_ h.kl H,λj=>(World.frozen?_of_block (w:=W) (a:=⟨gk,j,none⟩) I).trans (h.kf j),λi hi=>by have⟨x,J,H⟩:=h.ks i hi;exact⟨x,J,H.keep I⟩,h.ne⟩
theorem qO.below(h:qO W Fb gk a len cap d bd codes)(hb:Below W.heap.size W W'):qO W' Fb gk a len cap d bd codes:=
 h.keep hb.size (hb.block _ h.lt) (hb.block _ h.kl)
theorem qO.tcs{S:Nat->Prop}(h:qO W Fb gk a len cap d bd codes)(ht:aA S W W')(h1:¬S Fb)(h2:¬S gk):qO W' Fb gk a len cap d bd codes:=
 h.keep ht.size (ht.block _ h.lt h1) (ht.block _ h.kl h2)
theorem jH{B:Nat}{w w1:World}(h:Below B w w1)(hg:B<=g)(u0 u1 u2 u3 u4 u5:Value):Below B w ((((((w1.setCell ⟨g,0,none⟩ u0).setCell ⟨g,1,none⟩ u1).setCell ⟨g,2,none⟩ u2).setCell ⟨g,3,none⟩ u3).setCell ⟨g,4,none⟩ u4).setCell ⟨g,5,none⟩ u5):=
 (((((h.setCell (p:=⟨g,0,none⟩) hg u0).setCell (p:=⟨g,1,none⟩) hg u1).setCell (p:=⟨g,2,none⟩) hg u2).setCell (p:=⟨g,3,none⟩) hg u3).setCell (p:=⟨g,4,none⟩) hg u4).setCell (p:=⟨g,5,none⟩) hg u5
theorem NP(J O:Nat)(a:Option Addr)(Jb cap:Nat)(d bd pc:Int)(codes:List Int)(w:World)(I:qO w J O a Jb cap d bd codes)(Jd:mq codes)(Jf:Jb=codes.length)(Je:0<=pc/\pc<=4294967295)(Y:¬(4096<=pc/\(pc-4096)%4=0/\(pc-4096) / 4<(Jb:Int))):
  Calls prog 31 #[pV J,.int .u32 pc] w λe w'=>e=rW (kW.no.val)/\qO w' J O a Jb cap d bd codes/\aA (λk=>k=O) w w':=by
 have U:Bl w (w.alloc (.cells #[.bool false,V 0,V 0,V 0,V 0,V 0] 86)):=aq _ _;have Ja:=I.below U;have i0:=Ja.i0;have i1:=Ja.i1;have i2:=Ja.i2;have kn:=Ja.kn;have e1:¬J=w.heap.size:=by have:=I.lt;omega
 have e2:¬O=w.heap.size:=by have:=I.kl;omega
 have Jh:(Jb:Int)<=20000:=by have:=Jd.1;omega
 have HF:Hid _:=And.intro I (And.intro Jd (And.intro Jf (And.intro Je Ja)));have Jg:Hid (∀W,_):=λW=>Nt a Jb cap d bd pc W Jh Je Y;clear I Jd Jf Je Y U Ja;go_in;go_wp2_with fail;refine(Jg.out _).mono ?_;rintro e w1 ⟨i,rfl,Jc⟩;have H:w1.heap[w.heap.size]? =some (.cells #[.bool false,V 0,V 0,V 0,V 0,V 0] 86):=(Jc.block _ i_).trans (heap_alloc_new w _);have z0:=cell_of H (j:=0) rfl;have z1:=cell_of H (j:=1) rfl;have z2:=cell_of H (j:=2) rfl;have z3:=cell_of H (j:=3) rfl;have z4:=cell_of H (j:=4) rfl;have Z:=cell_of H (j:=5) rfl;have zf:∀j,w1.frozen? ⟨w.heap.size,j,none⟩=false:=λj=>by simp[World.frozen?,H]
 have X:Hid (Bl w w1):=(aq _ _).trans (Jc.mono i_);clear H Jc;dsimp only;go_wp2;refine bodyPost_ret (v:=.agg #[.bool false,V 0,V 0,V 0,V 0,V 0]) (by simp[results,results31,go_sem,z0,z1,z2,z3,z4,Z]) rfl ?_;exact⟨rfl,HF.out.1.below (jH X.out n_ _ _ _ _ _ _),Below.tcs (jH X.out n_ _ _ _ _ _ _)⟩
theorem Lm(X J:Nat)(a:Option Addr)(Ja cap:Nat)(d bd pc:Int)(codes:List Int)(w:World)(O:qO w X J a Ja cap d bd codes)(Je:mq codes)(Jf:Ja=codes.length)(Jg:0<=pc/\pc<=4294967295)(n:Nat)(hn:n<Ja)(hp:pc=4096+4*(n:Int))(x:kW)(hx:Ll w J (n*6) x)(Z:x.o=true):
  Calls prog 31 #[pV X,.int .u32 pc] w λe w'=>e=rW (x.val)/\qO w' X J a Ja cap d bd codes/\aA (λk=>k=J) w w':=by
 have A1:Bl w (w.alloc (.cells #[.bool false,V 0,V 0,V 0,V 0,V 0] 86)):=aq _ _;have Jb:=O.below A1;have i0:=Jb.i0;have i1:=Jb.i1;have i2:=Jb.i2;have kn:=Jb.kn;have e1:¬X=w.heap.size:=by have:=O.lt;omega
 have e2:¬J=w.heap.size:=by have:=O.kl;omega
 have Jj:(Ja:Int)<=20000:=by have:=Je.1;omega
 have Y:Hid _:=And.intro O (And.intro Je (And.intro Jf (And.intro Jg Jb)));have HX:=ah hx;have Ji:Hid (∀W,_):=λW=>EE a Ja cap n d bd pc W Jj o_ hp;have Jl:(n:Int)<(Ja:Int):=o_
 have Jh:(0:Int)<=(n:Int):=o_;clear O Je Jf Jg hp A1 Jb hx;go_in;go_wp2_with fail;refine(Ji.out _).mono ?_;rintro e w1 ⟨rfl,Jd⟩;have H:w1.heap[w.heap.size]? =some (.cells #[.bool false,V 0,V 0,V 0,V 0,V 0] 86):=(Jd.block _ i_).trans (heap_alloc_new w _);have z0:=cell_of H (j:=0) rfl;have z1:=cell_of H (j:=1) rfl;have z2:=cell_of H (j:=2) rfl;have z3:=cell_of H (j:=3) rfl;have z4:=cell_of H (j:=4) rfl;have z5:=cell_of H (j:=5) rfl;have zf:∀j,w1.frozen? ⟨w.heap.size,j,none⟩=false:=λj=>by simp[World.frozen?,H]
 have U:Hid (Bl w w1):=(aq _ _).trans (Jd.mono i_);have Jc:=Y.out.1.below U;clear i0 i1 i2 kn;have i0:=Jc.i0;have kn:=Jc.kn;have I:=HX.out.keep (U.out.block J Y.out.1.kl);have s0:=I.c0;have s1:=I.c1;have s2:=I.c2;have s3:=I.c3;have s4:=I.c4;have s5:=I.c5;have kf:=Jc.kf;have Jk:=ah (And.intro (by have:=Jd.size;simp at this;omega) H);clear H Jd Jc I;dsimp only;rw[Z]at s0;have HO:=ah Z;clear Z;go_wp2;refine bodyPost_ret (v:=.agg #[.bool true,V x.k,V x.a,V x.b,V x.s,V x.d]) (by simp[results,results31,go_sem,z0,z1,z2,z3,z4,z5]) rfl ?_;refine⟨?_,Y.out.1.below (jH U.out n_ _ _ _ _ _ _),Below.tcs (jH U.out n_ _ _ _ _ _ _)⟩;unfold kW.val;rw[HO.out]
theorem aA.six(W:World)(g p:Nat)(u0 u1 u2 u3 u4 u5:Value):aA (λk=>k=g) W ((((((W.setCell ⟨g,p,none⟩ u0).setCell ⟨g,p+1,none⟩ u1).setCell ⟨g,p+2,none⟩ u2).setCell ⟨g,p+3,none⟩ u3).setCell ⟨g,p+4,none⟩ u4).setCell ⟨g,p+5,none⟩ u5):=
 ((((((aA.refl (λk=>k=g) W).setCell (p:=⟨g,p,none⟩) rfl u0).setCell (p:=⟨g,p+1,none⟩) rfl u1).setCell (p:=⟨g,p+2,none⟩) rfl u2).setCell (p:=⟨g,p+3,none⟩) rfl u3).setCell (p:=⟨g,p+4,none⟩) rfl u4).setCell (p:=⟨g,p+5,none⟩) rfl u5
theorem aA.six0(W:World)(g:Nat)(u0 u1 u2 u3 u4 u5:Value):aA (λk=>k=g) W ((((((W.setCell ⟨g,0,none⟩ u0).setCell ⟨g,1,none⟩ u1).setCell ⟨g,2,none⟩ u2).setCell ⟨g,3,none⟩ u3).setCell ⟨g,4,none⟩ u4).setCell ⟨g,5,none⟩ u5):=
 ((((((aA.refl (λk=>k=g) W).setCell (p:=⟨g,0,none⟩) rfl u0).setCell (p:=⟨g,1,none⟩) rfl u1).setCell (p:=⟨g,2,none⟩) rfl u2).setCell (p:=⟨g,3,none⟩) rfl u3).setCell (p:=⟨g,4,none⟩) rfl u4).setCell (p:=⟨g,5,none⟩) rfl u5
theorem zm(W:World)(g p j:Nat)(u0 u1 u2 u3 u4 u5:Value)(h:∀j,W.frozen? ⟨g,j,none⟩=false):((((((W.setCell ⟨g,p,none⟩ u0).setCell ⟨g,p+1,none⟩ u1).setCell ⟨g,p+2,none⟩ u2).setCell ⟨g,p+3,none⟩ u3).setCell ⟨g,p+4,none⟩ u4).setCell ⟨g,p+5,none⟩ u5).frozen? ⟨g,j,none⟩=false:=by simp[h]
theorem ao(W:World)(g p q:Nat)(u:Value)(h:q≠p):(W.setCell ⟨g,p,none⟩ u).cell? ⟨g,q,none⟩=W.cell? ⟨g,q,none⟩:=s_ _ _ _ _ (by intro e;simp only[Addr.mk.injEq]at e;omega)
theorem kL{u v:Value}(h:W.cell? ⟨g,p,none⟩=some v):(W.setCell ⟨g,p,none⟩ u).cell? ⟨g,p,none⟩=some u:=World.cell?_setCell_same _ _ _ h
theorem qO.put(h:qO W Fb gk a len cap d bd codes)(n:Nat)(hn:n<len)(x:kW)(hx:x=kW.no\/x=kX (codes.getD n 0)):qO ((((((W.setCell ⟨gk,n*6,none⟩ (.bool x.o)).setCell ⟨gk,n*6+1,none⟩ (V x.k)).setCell ⟨gk,n*6+2,none⟩ (V x.a)).setCell ⟨gk,n*6+3,none⟩ (V x.b)).setCell ⟨gk,n*6+4,none⟩ (V x.s)).setCell ⟨gk,n*6+5,none⟩ (V x.d)) Fb gk a len cap d bd codes:=by
 have I:=aA.six W gk (n*6) (.bool x.o) (V x.k) (V x.a) (V x.b) (V x.s) (V x.d);have Y:=I.block Fb h.lt h.ne;have k:=λj=>c_ (w:=W) (a:=⟨Fb,j,none⟩) Y;refine⟨l_ h.lt I.size,(k _).trans h.i0,(k _).trans h.i1,(k _).trans h.i2,λj hj=>(k _).trans (h.tab j hj),(k _).trans h.kn,l_ h.kl I.size,λj=>zm W gk (n*6) j _ _ _ _ _ _ h.kf,λi hi=>?_,h.ne⟩;obtain⟨y,_,H⟩:=h.ks n hn;have Z:=H.c0;have s1:=H.c1;have s2:=H.c2;have s3:=H.c3;have U:=H.c4;have s5:=H.c5;by_cases e:i=n
 ·subst e;refine⟨x,hx,?_⟩;exact⟨(by rw[ao _ _ _ _ _ o_,ao _ _ _ _ _ o_,ao _ _ _ _ _ o_,ao _ _ _ _ _ o_,ao _ _ _ _ _ o_];exact kL (Z)),(by rw[ao _ _ _ _ _ o_,ao _ _ _ _ _ o_,ao _ _ _ _ _ o_,ao _ _ _ _ _ o_];exact kL (by rw[ao _ _ _ _ _ o_];exact s1)),(by rw[ao _ _ _ _ _ o_,ao _ _ _ _ _ o_,ao _ _ _ _ _ o_];exact kL (by rw[ao _ _ _ _ _ o_,ao _ _ _ _ _ o_];exact s2)),(by rw[ao _ _ _ _ _ o_,ao _ _ _ _ _ o_];exact kL (by rw[ao _ _ _ _ _ o_,ao _ _ _ _ _ o_,ao _ _ _ _ _ o_];exact s3)),(by rw[ao _ _ _ _ _ o_];exact kL (by rw[ao _ _ _ _ _ o_,ao _ _ _ _ _ o_,ao _ _ _ _ _ o_,ao _ _ _ _ _ o_];exact U)),(by exact kL (by rw[ao _ _ _ _ _ o_,ao _ _ _ _ _ o_,ao _ _ _ _ _ o_,ao _ _ _ _ _ o_,ao _ _ _ _ _ o_];exact s5))⟩
 ·obtain⟨z,hz,sz⟩:=h.ks i hi;refine⟨z,hz,?_⟩;have t0:=sz.c0;have t1:=sz.c1;have J:=sz.c2;have O:=sz.c3;have X:=sz.c4;have t5:=sz.c5;exact⟨(by rw[ao _ _ _ _ _ o_,ao _ _ _ _ _ o_,ao _ _ _ _ _ o_,ao _ _ _ _ _ o_,ao _ _ _ _ _ o_,ao _ _ _ _ _ o_];exact t0),(by rw[ao _ _ _ _ _ o_,ao _ _ _ _ _ o_,ao _ _ _ _ _ o_,ao _ _ _ _ _ o_,ao _ _ _ _ _ o_,ao _ _ _ _ _ o_];exact t1),(by rw[ao _ _ _ _ _ o_,ao _ _ _ _ _ o_,ao _ _ _ _ _ o_,ao _ _ _ _ _ o_,ao _ _ _ _ _ o_,ao _ _ _ _ _ o_];exact J),(by rw[ao _ _ _ _ _ o_,ao _ _ _ _ _ o_,ao _ _ _ _ _ o_,ao _ _ _ _ _ o_,ao _ _ _ _ _ o_,ao _ _ _ _ _ o_];exact O),(by rw[ao _ _ _ _ _ o_,ao _ _ _ _ _ o_,ao _ _ _ _ _ o_,ao _ _ _ _ _ o_,ao _ _ _ _ _ o_,ao _ _ _ _ _ o_];exact X),(by rw[ao _ _ _ _ _ o_,ao _ _ _ _ _ o_,ao _ _ _ _ _ o_,ao _ _ _ _ _ o_,ao _ _ _ _ _ o_,ao _ _ _ _ _ o_];exact t5)⟩
end
theorem Ln(I H:Nat)(a:Option Addr)(Jb cap:Nat)(d bd pc:Int)(codes:List Int)(w:World)(Y:qO w I H a Jb cap d bd codes)(Jh:mq codes)(Jp:Jb=codes.length)(Jr:0<=pc/\pc<=4294967295)(n:Nat)(hn:n<Jb)(hp:pc=4096+4*(n:Int))(x:kW)(hx:Ll w H (n*6) x)(ho:x.o=false)(hc:dy .u32 w (.slice a Jb cap) codes)(Jq:∀g∈blk (.slice a Jb cap),g≠H):
  Calls prog 31 #[pV I,.int .u32 pc] w λe w'=>e=rW ((kX (codes.getD n 0)).val)/\qO w' I H a Jb cap d bd codes/\aA (λk=>k=H) w w':=by
 have A1:Bl w (w.alloc (.cells #[.bool false,V 0,V 0,V 0,V 0,V 0] 86)):=aq _ _;have Jc:=Y.below A1;have i0:=Jc.i0;have i1:=Jc.i1;have i2:=Jc.i2;have kn:=Jc.kn;have e1:¬I=w.heap.size:=by have:=Y.lt;omega
 have e2:¬H=w.heap.size:=by have:=Y.kl;omega
 have Jy:(Jb:Int)<=20000:=by have:=Jh.1;omega
 have HF:Hid _:=And.intro Y (And.intro Jh (And.intro Jp (And.intro Jr Jc)));have HX:=ah hx;obtain⟨X,om,cm,em,Jm,Jl⟩:=aZ hc o_;simp only[Value.slice.injEq]at em;obtain⟨rfl,rfl,rfl⟩:=em;have HM:=ah Jm;have Jj:X≠H:=Jq X (by rw[Jl];simp);have Jd:=Fj (codes.getD n 0) (Jh.2 n o_);generalize hDD:kX (codes.getD n 0)=D at*;have Jv:=ah hDD;clear hDD;generalize hcw:codes.getD n 0=cwd at*;have Jn:=ah hcw;clear hcw;have HD:Hid (∀W:World,I<W.heap.size->(∀j,j<35->W.cell? ⟨I,3+j,none⟩=dq[j]?)->Calls prog 61 #[.pointer (some ⟨I,3,none⟩),.int .u32 cwd] W λe w'=>e=rW (.agg #[.bool D.o,V D.k,V D.a,V D.b,V D.s,V D.d])/\Bl W w'):=λW h1 h2=>Jd.2.2.1 I 3 W h1 h2;have Jt:Hid (∀W,_):=λW=>EE (some ⟨X,om,none⟩) codes.length cap n d bd pc W Jy o_ hp;have Xb:(n:Int)<(codes.length:Int):=o_
 have Js:(0:Int)<=(n:Int):=o_;clear Y Jh Jp Jr hp A1 Jc hx hc Jm Jl Jd Jq;go_in;go_wp2_with fail;refine(Jt.out _).mono ?_;rintro e w1 ⟨rfl,Jg⟩;have J:w1.heap[w.heap.size]? =some (.cells #[.bool false,V 0,V 0,V 0,V 0,V 0] 86):=(Jg.block _ i_).trans (heap_alloc_new w _);have z0:=cell_of J (j:=0) rfl;have z1:=cell_of J (j:=1) rfl;have z2:=cell_of J (j:=2) rfl;have z3:=cell_of J (j:=3) rfl;have z4:=cell_of J (j:=4) rfl;have z5:=cell_of J (j:=5) rfl;have zf:∀j,w1.frozen? ⟨w.heap.size,j,none⟩=false:=λj=>by simp[World.frozen?,J]
 have Z:Hid (Bl w w1):=(aq _ _).trans (Jg.mono i_);have Je:=HF.out.1.below Z;clear i0 i1 i2 kn;have i0:=Je.i0;have kn:=Je.kn;have U:=HX.out.keep (Z.out.block H HF.out.1.kl);have s0:=U.c0;have s1:=U.c1;have s2:=U.c2;have s3:=U.c3;have s4:=U.c4;have s5:=U.c5;have kf:=Je.kf;have Jf:Hid _:=And.intro Je U;have Jk:=ah (And.intro (by have:=Jg.size;simp at this;omega) J);clear J Jg Je U;dsimp only;rw[ho]at s0;have cw:=(HM.out.below Z).cell n (by have:=hn;omega);rw[Jn.out]at cw;have Ji:Hid (kX (codes.getD n 0)=D):=by rw[Jn.out];exact Jv
 have Jz:¬X=H:=Jj;have Xa:¬I=H:=HF.out.1.ne;clear ho;go_wp2_with fail;have Jw:=ah (HD.out w1.drew Jf.out.1.lt Jf.out.1.tab);have Ju:Hid (∀w2,Bl w1.drew w2->∀j,w2.frozen? ⟨H,j,none⟩=false):=λw2 hb j=>(Jf.out.1.below ((Below.refl w1.heap.size w1).drew |>.trans hb)).kf j;clear HD kf zf z0 z1 z2 z3 z4 z5;go_region_held3 (λW=>W.cell? ⟨I,38,none⟩=some (rV H codes.length codes.length)/\W.cell? ⟨I,0,none⟩=some (.slice (some ⟨X,om,none⟩) codes.length cap)/\W.cell? ⟨X,om+n,none⟩=some (.int .u32 cwd)) (go_simp)
  (first
  | (go_at_call 61;refine(Jw).mono ?_;rintro e w2 ⟨rfl,Ja⟩;have Xe:=later (W:=w1.drew) Ja kn;have Xc:=later (W:=w1.drew) Ja i0;have J_:=later (W:=w1.drew) Ja cw;have y0:=later (W:=w1.drew) Ja s0;have y1:=later (W:=w1.drew) Ja s1;have y2:=later (W:=w1.drew) Ja s2;have y3:=later (W:=w1.drew) Ja s3;have y4:=later (W:=w1.drew) Ja s4;have y5:=later (W:=w1.drew) Ja s5;have Xd:=Ju.out w2 Ja))
 have O:w2.heap[w.heap.size]? =_:=(Ja.block w.heap.size Jk.out.1).trans Jk.out.2;have z0:=cell_of O (j:=0) rfl;have z1:=cell_of O (j:=1) rfl;have z2:=cell_of O (j:=2) rfl;have z3:=cell_of O (j:=3) rfl;have z4:=cell_of O (j:=4) rfl;have z5:=cell_of O (j:=5) rfl;have zf:∀j,w2.frozen? ⟨w.heap.size,j,none⟩=false:=λj=>by simp[World.frozen?,O]
 have Jo:Hid (Bl w1 w2):=(Below.refl w1.heap.size w1).drew |>.trans Ja;clear O Ja;go_wp2;refine bodyPost_ret (v:=.agg #[.bool D.o,V D.k,V D.a,V D.b,V D.s,V D.d]) (by simp[results,results31,go_sem,z0,z1,z2,z3,z4,z5]) rfl ?_;have Jx:=(Jf.out.1.below Jo).put n hn D (.inr Ji.out.symm);have T6:=aA.six w2 H (n*6) (.bool D.o) (V D.k) (V D.a) (V D.b) (V D.s) (V D.d);have TR:=aA.six0 (((((((w2.setCell ⟨H,n*6,none⟩ (.bool D.o)).setCell ⟨H,n*6+1,none⟩ (V D.k)).setCell ⟨H,n*6+2,none⟩ (V D.a)).setCell ⟨H,n*6+3,none⟩ (V D.b)).setCell ⟨H,n*6+4,none⟩ (V D.s)).setCell ⟨H,n*6+5,none⟩ (V D.d))) w.heap.size (.bool D.o) (V D.k) (V D.a) (V D.b) (V D.s) (V D.d);refine⟨rfl,Jx.tcs TR e1 e2,?_⟩;exact(((Below.tcs (S:=λk=>k=H) Z).trans (Below.tcs Jo)).trans T6).join TR (λg hg=>.inr o_)
section
variable{W:World}
theorem Lp(I H:Nat)(a:Option Addr)(Ja cap:Nat)(d bd pc:Int)(codes:List Int)(w:World)(J:qO w I H a Ja cap d bd codes)(Je:mq codes)(Jb:Ja=codes.length)(Jf:0<=pc/\pc<=4294967295)
  (Z:dy .u32 w (.slice a Ja cap) codes) (Jh:∀g∈blk (.slice a Ja cap),g≠H):
  Calls prog 31 #[pV I,.int .u32 pc] w λe w'=>e=rW (dG codes pc).val/\qO w' I H a Ja cap d bd codes/\aA (λk=>k=H) w w':=by
 by_cases hw:4096<=pc/\(pc-4096)%4=0/\(pc-4096) / 4<(Ja:Int)
 have⟨n,Y⟩:=Int.eq_ofNat_of_zero_le (show 0<=(pc-4096) / 4 by omega);have Jc:n<Ja:=o_
 have O:pc=4096+4*(n:Int):=o_;have Jd:dG codes pc=kX (codes.getD n 0):=by unfold dG zl;rw[if_pos (by rw[<-Jb];exact hw),Y];rfl
 rw[Jd];have⟨x,X,U⟩:=J.ks n Jc;cases ho:x.o with
 | true=>
  have Jg:x=kX (codes.getD n 0):=by rcases X with rfl|h;simp[kW.no]at ho;exact h
  rw[<-Jg];exact Lm I H a Ja cap d bd pc codes w J Je Jb Jf n Jc O x U ho
 | false=>exact Ln I H a Ja cap d bd pc codes w J Je Jb Jf n Jc O x U ho Z Jh
 have Jd:dG codes pc=kW.no:=by unfold dG zl;rw[if_neg (by rw[<-Jb];exact hw)]
 rw[Jd];exact NP I H a Ja cap d bd pc codes w J Je Jb Jf hw
theorem Du{i:Nat}(h:i<8):i=0\/i=1\/i=2\/i=3\/i=4\/i=5\/i=6\/i=7:=by omega
def iX(a:Option Addr)(len cap:Nat)(d bd:Int)(g:Nat):Array Value:=(#[Value.slice a len cap,Value.int .i64 d,Value.int .i64 bd]++dq).push (Value.slice (some ⟨g,0,none⟩) len len)
theorem CD(a:Option Addr)(Ja cap:Nat)(d bd:Int)(g:Nat)(W:World):(Instr.build 80 #[(0,.agg #[.slice a Ja cap,V d,V bd]),(1,.agg dq),(2,rV g Ja Ja)]).run prog W=.ok (.agg (iX a Ja cap d bd g)) W:=by kernel_rfl
def Fk:Array Value:=#[nV,V 0,V 0,.nilIface,.nilIface,.nilIface,.nilIface,.nilIface,.nilIface,.nilIface,.nilIface,.nilIface,.nilIface,.nilIface,.nilIface,.nilIface,.nilIface,.nilIface,.nilIface,.nilIface,.nilIface,.nilIface,.nilIface,.nilIface,.nilIface,.nilIface,.nilIface,.nilIface,.nilIface,.nilIface,.nilIface,.nilIface,.nilIface,.nilIface,.nilIface,.nilIface,.nilIface,.nilIface,nV]
theorem Tryz.infRes:(prog.info? 86).map (λi=>(i.zero,i.size,i.bytes))=some (some (.agg #[.bool false,V 0,V 0,V 0,V 0,V 0]),6,48):=by kernel_rfl
theorem NQ(a:Array Value)(h:a.size=48):∃t0 t1 t2 t3 t4 t5 t6 t7 t8 t9 t10 t11 t12 t13 t14 t15 t16 t17 t18 t19 t20 t21 t22 t23 t24 t25 t26 t27 t28 t29 t30 t31 t32 t33 t34 t35 t36 t37 t38 t39 t40 t41 t42 t43 t44 t45 t46 t47,a=#[t0,t1,t2,t3,t4,t5,t6,t7,t8,t9,t10,t11,t12,t13,t14,t15,t16,t17,t18,t19,t20,t21,t22,t23,t24,t25,t26,t27,t28,t29,t30,t31,t32,t33,t34,t35,t36,t37,t38,t39,t40,t41,t42,t43,t44,t45,t46,t47]:=by obtain⟨l⟩:=a;simp only[List.size_toArray]at h;obtain⟨t0,l0,rfl,Z⟩:=am h;obtain⟨t1,l1,rfl,h1⟩:=am Z;obtain⟨t2,l2,rfl,h2⟩:=am h1;obtain⟨t3,l3,rfl,h3⟩:=am h2;obtain⟨t4,l4,rfl,h4⟩:=am h3;obtain⟨t5,l5,rfl,h5⟩:=am h4;obtain⟨t6,l6,rfl,h6⟩:=am h5;obtain⟨t7,l7,rfl,h7⟩:=am h6;obtain⟨t8,l8,rfl,h8⟩:=am h7;obtain⟨t9,l9,rfl,h9⟩:=am h8;obtain⟨t10,Xi,rfl,h10⟩:=am h9;obtain⟨t11,Ym,rfl,h11⟩:=am h10;obtain⟨t12,Yn,rfl,h12⟩:=am h11;obtain⟨t13,Xx,rfl,Jb⟩:=am h12;obtain⟨t14,Xk,rfl,Jc⟩:=am Jb;obtain⟨t15,Yf,rfl,Jd⟩:=am Jc;obtain⟨t16,Yb,rfl,Jf⟩:=am Jd;obtain⟨t17,Yi,rfl,Ju⟩:=am Jf;obtain⟨t18,Yk,rfl,Jz⟩:=am Ju;obtain⟨t19,Xl,rfl,Jt⟩:=am Jz;obtain⟨t20,Xt,rfl,Jl⟩:=am Jt;obtain⟨t21,Yc,rfl,Jy⟩:=am Jl;obtain⟨t22,Xw,rfl,Xa⟩:=am Jy;obtain⟨t23,Xp,rfl,J_⟩:=am Xa;obtain⟨t24,Xj,rfl,Jn⟩:=am J_;obtain⟨t25,Yq,rfl,Y⟩:=am Jn;obtain⟨t26,Xu,rfl,Jr⟩:=am Y;obtain⟨t27,Yo,rfl,Je⟩:=am Jr;obtain⟨t28,Ys,rfl,Jv⟩:=am Je;obtain⟨t29,Yh,rfl,Jm⟩:=am Jv;obtain⟨t30,Yl,rfl,O⟩:=am Jm;obtain⟨t31,Xr,rfl,X⟩:=am O;obtain⟨t32,Xv,rfl,Jw⟩:=am X;obtain⟨t33,Ya,rfl,H⟩:=am Jw;obtain⟨t34,Xo,rfl,Ji⟩:=am H;obtain⟨t35,Ye,rfl,Xb⟩:=am Ji;obtain⟨t36,X_,rfl,Ja⟩:=am Xb;obtain⟨t37,Xz,rfl,Js⟩:=am Ja;obtain⟨t38,Xq,rfl,Jk⟩:=am Js;obtain⟨t39,Xn,rfl,Jp⟩:=am Jk;obtain⟨t40,Yd,rfl,U⟩:=am Jp;obtain⟨t41,Xy,rfl,Jq⟩:=am U;obtain⟨t42,Yr,rfl,I⟩:=am Jq;obtain⟨t43,Xm,rfl,Jg⟩:=am I;obtain⟨t44,Xs,rfl,Jj⟩:=am Jg;obtain⟨t45,Yp,rfl,J⟩:=am Jj;obtain⟨t46,Yj,rfl,Jo⟩:=am J;obtain⟨t47,Yg,rfl,Jh⟩:=am Jo;obtain rfl:=List.eq_nil_of_length_eq_zero Jh;exact⟨_,_,_,_,_,_,_,_,_,_,_,_,_,_,_,_,_,_,_,_,_,_,_,_,_,_,_,_,_,_,_,_,_,_,_,_,_,_,_,_,_,_,_,_,_,_,_,_,rfl⟩
theorem jO.toIn{C:Nat}{L:List Nat}{c:Mc}{r d s i o:Value}(Z:Bx W C r (.int .u32 c.pc) d s i o (.int .u32 c.low) (V c.st))(h:jO W (.agg #[r,.int .u32 c.pc,d,s,i,o,.int .u32 c.low,V c.st]) L c)(hn:C∉L):az W C (C::L) c:=by obtain⟨r',d',s',i',o',H,U,I,Y,X,O,J,rfl,Ja⟩:=h;simp only[Value.agg.injEq,Array.mk.injEq,List.cons.injEq,and_true,true_and]at H;obtain⟨rfl,rfl,rfl,rfl,rfl⟩:=H;exact⟨_,_,_,_,_,Z,U,I,Y,X,O,J,rfl,List.nodup_cons.mpr ⟨hn,Ja⟩⟩
def NR(w wr:World)(Cb gF gk:Nat)(mo ro:Obj)(a:Option Addr)(len cap:Nat)(d bd:Int)(codes:List Int)(c:Mc):Prop:=
 ∃L,az wr Cb (Cb::L) c/\(∀g∈L,w.heap.size+1<g/\g≠Cb/\g≠gF/\g≠gk)/\wr.heap[w.heap.size]? =some mo/\wr.heap[w.heap.size+1]? =some ro/\dy .u32 wr (.slice a len cap) codes/\(∀g∈blk (.slice a len cap),g<w.heap.size)/\Below w.heap.size w wr /\
  qO wr gF gk a len cap d bd codes/\w.heap.size+1<Cb/\Cb<gF/\Cb<gk
theorem p_(a:Option Addr)(Ja cap:Nat)(d bd:Int)(g:Nat):(iX a Ja cap d bd g).size=39:=by kernel_rfl
theorem IG(a:Option Addr)(Ja cap:Nat)(d bd:Int)(g:Nat):((iX a Ja cap d bd g).all λx=>x.oneCell')=true:=by kernel_rfl
theorem qb:Fk.size=39:=by kernel_rfl
theorem Tryz.infFet:(prog.info? 80).map (·.size)=some 39:=by kernel_rfl
theorem II(a:Option Addr)(Ja cap:Nat)(d bd:Int)(g:Nat):(iX a Ja cap d bd g).toList[0]? =some (.slice a Ja cap)/\(iX a Ja cap d bd g).toList[1]? =some (V d)/\(iX a Ja cap d bd g).toList[2]? =some (V bd)/\(iX a Ja cap d bd g).toList[38]? =some (rV g Ja Ja) /\
  ∀j,j<35->(iX a Ja cap d bd g).toList[3+j]? =dq[j]? := by
 refine⟨k_,k_,k_,k_,λj hj=>?_⟩;have e:(iX a Ja cap d bd g).toList=[Value.slice a Ja cap,Value.int .i64 d,Value.int .i64 bd]++(dq.toList++[Value.slice (some ⟨g,0,none⟩) Ja Ja]):=by simp[iX]
 rw[e,List.getElem?_append_right i_];rw[show(3+j - [Value.slice a Ja cap,Value.int .i64 d,Value.int .i64 bd].length)=j by simp];rw[List.getElem?_append_left (by simp[vU];omega)];simp
theorem NT{g n:Nat}{t:TypeId}(h:W.heap[g]? =some (.cells (madeCells #[.bool false,V 0,V 0,V 0,V 0,V 0] (n*6)) t))(i:Nat)(J:i<n):Ll W g (i*6) kW.no:=by
 have k:∀j,j<6->W.cell? ⟨g,i*6+j,none⟩=some ((#[.bool false,V 0,V 0,V 0,V 0,V 0]:Array Value)[j]!):=by
  intro j I;have H:(i*6+j)%6=j:=o_;have Ja:i*6+j<n*6:=o_;simp[World.cell?,h,madeCells,H,Ja]
 exact⟨k 0 o_,k 1 o_,k 2 o_,k 3 o_,k 4 o_,k 5 o_⟩
theorem IJ{Y:World}{H I:Nat}{a:Option Addr}{Ja cap:Nat}{d bd:Int}{codes:List Int}(J:Y.heap[H]? =some (.cells Fk 80))(X:Y.heap[I]? =some (.cells (madeCells #[.bool false,V 0,V 0,V 0,V 0,V 0] (Ja*6)) 86)):
  qO (Y.setCells H 0 (iX a Ja cap d bd I).toList) H I a Ja cap d bd codes/\aA (λk=>k=H) Y (Y.setCells H 0 (iX a Ja cap d bd I).toList)/\H≠I:=by
 have Jb:H≠I:=by intro e;rw[e,X]at J;simp at J
 have hT:∀(Z:List Value) (o:Nat) (w w':World),aA (λk=>k=H) w w'->aA (λk=>k=H) w (w'.setCells H o Z):=by
  intro Z;induction Z with
  | nil=>intro o w w' h;exact h
  | cons v r ih=>intro o w w' h;exact ih (o+1) w _ (h.setCell (p:=⟨H,o,none⟩) rfl v)
 have O:=hT (iX a Ja cap d bd I).toList 0 Y Y (aA.refl _ _);have Jf:Y.there H 0 (iX a Ja cap d bd I).toList.length:=by
  intro j U;have Jh:j<39:=by simpa[p_]using U
  rw[Nat.zero_add];refine⟨?_,frozen_of_row _ _ _ _ _ J⟩;rw[cell_of_row _ _ _ _ _ _ J];simp[qb];omega
 have hR:=World.rangeAt_setCells_same Y H 0 (iX a Ja cap d bd I).toList Jf;have Je:H<Y.heap.size:=(Array.getElem?_eq_some_iff.mp J).1;have Jd:I<Y.heap.size:=(Array.getElem?_eq_some_iff.mp X).1;have bk:=O.block I Jd (λe=>Jb e.symm);have⟨g0,g1,g2,Jg,gt⟩:=II a Ja cap d bd I;have c:=λj v h=>(by have:=hR j v h;rwa[Nat.zero_add]at this:(Y.setCells H 0 (iX a Ja cap d bd I).toList).cell? ⟨H,j,none⟩=some v);refine⟨⟨l_ Je O.size,c 0 _ g0,c 1 _ g1,c 2 _ g2,λj U=>?_,c 38 _ Jg,l_ Jd O.size,λj=>?_,λi hi=>⟨kW.no,.inl rfl,(NT X i hi).keep bk⟩,Jb⟩,O,Jb⟩
 have Jc:j<dq.size:=by rw[vU];exact U
 rw[Array.getElem?_eq_getElem Jc];refine c (3+j) _ ?_;rw[gt j U,Array.getElem?_eq_getElem Jc];rw[World.frozen?_of_block (w:=Y) (a:=⟨I,j,none⟩) bk];simp[World.frozen?,X]
end
section
variable{B:Nat}{v:Value}{w:World}{c:Mc}
theorem CE{W:World}{B' e n:Nat}{H:List Value}(h:W.ownsRow B e 1 v n H)(O:∀g∈fy v,B'<=g):W.ownsRow B' e 1 v n H:=by refine⟨h.1,?_⟩;rcases h.2 with J|⟨g,Jb,Ja,rfl,Jc,I⟩;exact .inl J;exact .inr ⟨g,Jb,Ja,rfl,O g (by simp[fy]),I⟩
theorem pF.toV(h:pF w B v c):∃L,jO w v L c/\∀g∈L,B<=g:=by obtain⟨r,d,s,i,o,rfl,O,H,X,Y,J,Ja,U,I⟩:=h;exact⟨_,⟨r,d,s,i,o,rfl,O,H,X,Y,vL J y_,I,rfl,Ja⟩,U⟩
theorem jO.toAt{L:List Nat}(h:jO w v L c)(H:∀g∈L,B<=g):pF w B v c:=by obtain⟨r,d,s,i,o,rfl,U,I,X,Y,O,J,rfl,Ja⟩:=h;exact⟨r,d,s,i,o,rfl,U,I,X,Y,CE O (λg hg=>H g (by simp[hg])),Ja,H,J⟩
theorem wG(n j:Nat):(List.replicate n (0:Int)).getD j 0=0:=by simp only[List.getD_eq_getElem?_getD,List.getElem?_replicate];split <;> rfl
theorem CF(n:Nat)(d b:Int)(zs:List Int)(I:oA n d b=true)(H:pA zs=true):
  Good (j7 n d b zs)/\(j7 n d b zs).st=0/\b=((j7 n d b zs).stack.length:Int)/\n<=20000:=by
 unfold j7;rw[I,H];simp only[Bool.and_self,if_true];unfold oA at I;simp only[decide_eq_true_eq]at I;unfold pA at H;simp only[Bool.and_eq_true,decide_eq_true_eq]at H;have J:=H.2;unfold vE at J;rw[List.all_eq_true]at J;refine⟨{r32:=rfl,ru:= ?_,r0:=rfl,pcu:=by dsimp only;omega,lou:=by dsimp only;omega,dl:=by simp;omega,du:= ?_,sl:=by simp;omega,su:= ?_,il:=H.1,iu:= ?_,ol:=by simp,ou:=(λj h=>absurd h i_),st:=by dsimp only;omega},by trivial,by simp;omega,I.2.1⟩;intro j h;have:∀j,j<32->0<=regs0.getD j 0/\regs0.getD j 0<=4294967295:=d_;exact this j h;intro j h;dsimp only;rw[wG];omega;intro j h;dsimp only;rw[wG];omega;intro j h;dsimp only at h⊢;have:=J (zs.getD j 0) (by simp[List.getD,h]);unfold Hr at this;simpa using this
def AN(w wr:World)(Cb:Nat)(mo ro:Obj)(cv:Value)(codes:List Int)(c:Mc):Prop:=
 ∃r d s i o L,Bx wr Cb r (.int .u32 c.pc) d s i o (.int .u32 c.low) (V c.st)/\jO wr (.agg #[r,.int .u32 c.pc,d,s,i,o,.int .u32 c.low,V c.st]) L c/\(∀g∈L,w.heap.size+1<g/\g≠Cb) /\
  wr.heap[w.heap.size]? =some mo/\wr.heap[w.heap.size+1]? =some ro/\dy .u32 wr cv codes/\(∀g∈blk cv,g<w.heap.size)/\Below w.heap.size w wr/\w.heap.size+1<Cb
theorem AN.below{wr Jc:World}{U:Nat}{J O:Obj}{X:Value}{codes:List Int}(h:AN w wr U J O X codes c)(H:Below wr.heap.size wr Jc):AN w Jc U J O X codes c:=by obtain⟨r,d,s,i,o,L,I,Je,Z,Y,Jf,Jd,Ja,Jb,Jg⟩:=h;have h1:=I.lt;have h2:=Jb.size;exact⟨r,d,s,i,o,L,I.below H,Je.below H,Z,(H.block _ o_).trans Y,(H.block _ o_).trans Jf,Jd.below H,Ja,Jb.trans (H.mono h2),Jg⟩
def eO(codes:List Int)(mb:Int)(c nx:Mc):Prop:=
 (∀C L w,az w C L c->Calls prog 30 #[pV C,(dG codes c.pc).val] w λe w'=>e=rW (.tuple #[])/\∃L',az w' C L' nx/\(∀g∈L',g∈L\/w.heap.size<=g)/\aA (λg=>g∈L) w w')/\True/\Good nx
end
theorem CG(a:Option Addr)(Ja cap:Nat)(d bd:Int)(v:Value)(zs codes:List Int)(w:World)(hl:Ja<=1048576)(hz:zs.length<=2097152)(h:dy .i64 w v zs)(hc:dy .u32 w (.slice a Ja cap) codes)(Yq:∀j,j<codes.length->0<=codes.getD j 0/\codes.getD j 0<=4294967295)(N:Nat)(hN:N<=1000000)(hv:oA Ja d bd=true)(H:pA zs=true)(F:Nat->Mc)(Yn:F 0=j7 Ja d bd zs)(Yp:∀n,n<N->(F n).st=0->eO codes bd (F n) (F (n+1)))(Yo:∀n,n<=N->(F n).st≠0->F N=F n)(Yr:∀n,n<=N->Good (F n)):
  Calls prog 18 #[.agg #[.slice a Ja cap,V d,V bd],v,V N] w λe w'=>∃u,e=rW u/\pF w' w.heap.size u (F N)/\Below w.heap.size w w':=by
 have B2:Bl w ((w.alloc (.cells #[.slice a Ja cap,V d,V bd] 47)).alloc (.cells #[nV,.int .u32 0,nV,nV,nV,nV,.int .u32 0,V 0] 31)):=(aq _ _).alloc i_ _;have Xz:=yG a Ja cap d bd v zs ((w.alloc (.cells #[.slice a Ja cap,V d,V bd] 47)).alloc (.cells #[nV,.int .u32 0,nV,nV,nV,nV,.int .u32 0,V 0] 31)) hl hz (h.below B2) hv H;have Xc:=hc.below B2;have Yi:=IE hc;have Xg:∀g∈blk (.slice a Ja cap),g<w.heap.size:=hc.lt;have⟨Yb,Jx,Xf,Yc⟩:=CF Ja d bd zs hv H;have Jh:mq codes:=⟨o_,Yq⟩;have Jm:1<=Ja:=by unfold oA at hv;simp only[decide_eq_true_eq]at hv;exact hv.1
 have Xk:Hid _:=And.intro Yp (And.intro Yo Yr);clear Yp Yo Yr;generalize hc0:j7 Ja d bd zs=c0 at*;have Zc:=ah Yn;clear Yn hc0;have Zz:(N:Int)<=1000000:=o_;have Vd:(Ja:Int)<=20000:=o_;have⟨i1,Xx,Xv,Ym,X_⟩:=info_parts Tryz.infRes;have Yl:∀W:World,(Instr.makeSlice 78 (V Ja) (V Ja)).run prog W=.ok (rV W.heap.size Ja Ja) (W.alloc (.cells (madeCells #[.bool false,V 0,V 0,V 0,V 0,V 0] (Ja*6)) 86)):=λW=>by
  have:=run_make (P:=prog) W 78 86 i1 _ underlying78 Xx Xv .i64 .i64 Ja Ja o_ o_ (by rw[X_];omega) o_
  rw[Ym]at this;rw[show((Ja:Nat):Int).toNat=Ja from Int.toNat_natCast Ja]at this;exact this
 clear Xx Xv Ym X_;have HQ:Hid _:=And.intro Xz (And.intro Xc (And.intro B2 Xg));clear Xz Xc B2 h hc hz Yq hl Xg;have HG:Hid _:=And.intro Yb (And.intro Jx (And.intro Xf (And.intro Yc (And.intro hN (And.intro Yi (And.intro Jh Jm))))));clear Yb Jx Xf Yc Yi hN Jh hv H Jm;go_in;go_wp2_with fail;refine HQ.out.1.mono ?_;rintro e w1 ⟨u1,rfl,hA,Jw⟩;have⟨L,cv,Jt⟩:=hA.toV;obtain⟨g2,o2,q1,m2,m3,m4,m5,p2,q2,p3,q3,p4,q4,p5,q5,rfl,Xn⟩:=cv.shape32 HG.out.1.r32;have zz:=Jw.size;simp only[Bl,World.size_alloc]at zz Jt;have M1:w1.heap[w.heap.size]? =some (.cells #[.slice a Ja cap,V d,V bd] 47):=by rw[Jw.block _ (by simp;omega),Below.heap_alloc _ _ _ i_];exact heap_alloc_new _ _
 have R1:w1.heap[w.heap.size+1]? =some (.cells #[nV,.int .u32 0,nV,nV,nV,nV,.int .u32 0,V 0] 31):=by rw[Jw.block _ i_];have:=heap_alloc_new (w.alloc (.cells #[.slice a Ja cap,V d,V bd] 47)) (.cells #[nV,.int .u32 0,nV,nV,nV,nV,.int .u32 0,V 0] 31);simpa only[World.size_alloc]using this
 have Jb:=HQ.out.2.1.below Jw;have Jz:Bl w w1:=HQ.out.2.2.1.trans (Jw.mono (by simp;omega));have Jp:=cv.lt;have HV:Hid _:=And.intro cv (And.intro Jt (And.intro M1 (And.intro R1 (And.intro Jb (And.intro Jz (And.intro Jp HQ.out.2.2.2))))));clear cv Jt M1 R1 Jb Jz Jp hA Jw HQ Xn;dsimp only;go_upto_region 2 with fail;have⟨W,hW⟩:=q_ (w1.alloc (.cells #[.slice (some ⟨g2,o2,none⟩) 32 q1,.int .u32 c0.pc,.slice p2 m2 q2,.slice p3 m3 q3,.slice p4 m4 q4,.slice p5 m5 q5,.int .u32 c0.low,V c0.st] 31));rw[<-hW];have⟨cv,Jt,M1,R1,Jb,Jz,Jp,Xg⟩:=HV.out;have X1:W.heap[w1.heap.size]? =some (.cells #[.slice (some ⟨g2,o2,none⟩) 32 q1,.int .u32 c0.pc,.slice p2 m2 q2,.slice p3 m3 q3,.slice p4 m4 q4,.slice p5 m5 q5,.int .u32 c0.low,V c0.st] 31):=by rw[hW];exact heap_alloc_new w1 _
 have AW:Bl w1 W:=by rw[hW];exact r_.alloc n_ _
 have zW:W.heap.size=w1.heap.size+1:=by rw[hW];simp
 have B9:=Bx.of_heap X1;have⟨t0,t1,t2,t3,t4,t5,t6,t7,tf⟩:=id B9;have MW:=(AW.block _ o_).trans M1;have Xu:=cell_of MW (j:=0) rfl;have Xy:=cell_of MW (j:=1) rfl;have Ya:=cell_of MW (j:=2) rfl;have HI:Hid (AN w W w1.heap.size (.cells #[.slice a Ja cap,V d,V bd] 47) (.cells #[nV,.int .u32 0,nV,nV,nV,nV,.int .u32 0,V 0] 31) (.slice a Ja cap) codes c0):=
  ⟨_,_,_,_,_,L,B9,cv.below AW,λg hg=>⟨by have:=Jt g hg;omega,by have:=Jp g hg;omega⟩,MW,(AW.block _ o_).trans R1,Jb.below AW,Xg,Jz.trans (AW.mono o_),o_⟩
 clear cv Jt M1 R1 Jb Jz Jp X1 AW hW B9 HV MW Xg;go_wp2_with fail;have Jy:Hid _:=And.intro Xu (And.intro Xy Ya);clear Xu Xy Ya t0 t1 t2 t3 t4 t5 t6 t7 tf;refine j6 k_ (n:=8) (d:=λi=>[26,27,28,29,30,31,32,8].getD i 0) ?G
  (λi x Y=>match i with
   | 0=>x=.agg #[.slice a Ja cap,.int .i64 d,.int .i64 bd]
   | 1=>x=.agg dq
   | 2=>x=.pointer (some ⟨w.heap.size,0,none⟩)
   | 3=>x=.slice a Ja cap
   | 4=>x=.int .i64 Ja
   | 5=>∃g,x=.slice (some ⟨g,0,none⟩) Ja Ja/\Y.heap[g]? =some (.cells (madeCells #[.bool false,.int .i64 0,.int .i64 0,.int .i64 0,.int .i64 0,.int .i64 0] (Ja*6)) 86)
   | 6=>∃g,x=.agg (iX a Ja cap d bd g)/\Y.heap[g]? =some (.cells (madeCells #[.bool false,.int .i64 0,.int .i64 0,.int .i64 0,.int .i64 0,.int .i64 0] (Ja*6)) 86)/\W.heap.size<=g
   | _=>∃g,x=.pointer (some ⟨g,0,none⟩)/\W.heap.size<=g/\Y.heap[g]? =some (.cells Fk 80))
  (λi x=>match i with
   | 5=>fy x
   | _=>[]) ?stab ?hd ?step ?fin
 case G=>
  refine⟨rfl,?_,?_,?_⟩;intro i O;rcases Du O with rfl|rfl|rfl|rfl|rfl|rfl|rfl|rfl <;> exact⟨_,rfl,rfl,rfl,by simp[Region.binds]⟩
  intro i j O I;rcases Du O with rfl|rfl|rfl|rfl|rfl|rfl|rfl|rfl <;> rcases Du I with rfl|rfl|rfl|rfl|rfl|rfl|rfl|rfl <;> simp
  refine⟨_,rfl,rfl,?_,i_⟩;intro i O;rcases Du O with rfl|rfl|rfl|rfl|rfl|rfl|rfl|rfl <;> simp[Region.binds]
 case stab=>intro i x Y Y' U hO J;by_cases O:i<8;rcases Du O with rfl|rfl|rfl|rfl|rfl|rfl|rfl|rfl;exact U;exact U;exact U;exact U;exact U;obtain⟨g,rfl,hg⟩:=U;exact⟨g,rfl,bL hg J⟩;obtain⟨g,rfl,hg,J_⟩:=U;exact⟨g,rfl,bL hg J,J_⟩;obtain⟨g,rfl,hg,J_⟩:=U;exact⟨g,rfl,hg,bL J_ J⟩;obtain⟨k,rfl⟩:∃k,i=k+8:=⟨i-8,o_⟩;obtain⟨g,rfl,hg,J_⟩:=U;exact⟨g,rfl,hg,bL J_ J⟩
 case hd=>intro i O;rcases Du O with rfl|rfl|rfl|rfl|rfl|rfl|rfl|rfl <;> simp
 case step=>
  intro i o O H x Y Xl Yh Ju J Je Xj Vg;have t3:=Ju 3 (by intro j I;rcases Du I with rfl|rfl|rfl|rfl|rfl|rfl|rfl|rfl <;> decide);simp at t3;have Xh:w.heap.size<W.heap.size:=o_;rcases Du O with rfl|rfl|rfl|rfl|rfl|rfl|rfl|rfl
  ·simp at H;subst H;have c0:=(J.cell (p:=⟨w.heap.size,0,none⟩) Xh).trans Jy.out.1;have c1:=(J.cell (p:=⟨w.heap.size,1,none⟩) Xh).trans Jy.out.2.1;have c2:=(J.cell (p:=⟨w.heap.size,2,none⟩) Xh).trans Jy.out.2.2;simp at c0 c1 c2;simp[Oper.wp,execOp,Oper.upon,Act.eval,t3,c0,c1,c2,go_sem];exact⟨_,rfl,rfl,r_⟩
  ·simp at H;subst H;simp[Oper.wp,execOp,Oper.upon,Act.eval,go_sem];refine(lX Y).mono ?_;rintro e w3 ⟨rfl,h3⟩;exact⟨_,rfl,rfl,h3⟩
  ·simp at H;subst H;simp[Oper.wp,execOp,Oper.upon,Act.eval,t3,go_sem];exact⟨_,rfl,rfl,r_⟩
  ·simp at H;subst H;have Z:x.tmps[28]?.getD undef=pV w.heap.size:=(by have:=Je ⟨2,.data⟩ i_;simpa[Act.eval]using this);have c0:=(J.cell (p:=⟨w.heap.size,0,none⟩) Xh).trans Jy.out.1;simp at c0;simp[Oper.wp,execOp,Oper.upon,Z,c0,go_sem];exact⟨_,rfl,rfl,r_⟩
  ·simp at H;subst H;have Z:x.tmps[29]?.getD undef=.slice a Ja cap:=(by have:=Je ⟨3,.data⟩ i_;simpa[Act.eval]using this);simp[Oper.wp,execOp,Oper.upon,Z,go_sem];exact⟨_,rfl,rfl,r_⟩
  simp at H;subst H;have Z:=Je ⟨4,.data⟩ i_;simp at Z;simp[Oper.wp,execOp,Oper.upon,Z,Yl];exact⟨_,rfl,⟨_,rfl,heap_alloc_new _ _⟩,r_.alloc n_ _,by intro g hg;simp[fy]at hg;omega⟩;simp at H;subst H;have o5:=Xj ⟨5,.data⟩ i_;have e0:x.tmps[26]?.getD undef=.agg #[.slice a Ja cap,V d,V bd]:=(by have:=Je ⟨0,.data⟩ i_;simpa[Act.eval]using this);have Z:x.tmps[27]?.getD undef=.agg dq:=(by have:=Je ⟨1,.data⟩ i_;simpa[Act.eval]using this);have⟨g,e5,b5⟩:=Je ⟨5,.data⟩ i_;simp only[List.getD_cons_succ,List.getD_cons_zero]at e5 o5;rw[e5]at o5;simp only[fy,List.mem_singleton,forall_eq]at o5;simp only[Act.eval]at e5;have Za:x.tmps[31]?.getD undef=rV g Ja Ja:=(by simpa using e5);simp[Oper.wp,execOp,Oper.upon,Act.eval,e0,Z,Za,CD];exact⟨_,rfl,⟨g,rfl,b5,o5.1⟩,r_⟩;simp at H;subst H;simp[Oper.wp,execOp,Oper.upon,go_sem];exact⟨_,rfl,⟨_,rfl,J.size,heap_alloc_new _ _⟩,r_.alloc n_ _⟩
 case fin=>
  intro o H x Y hG;obtain⟨Xl,Yh,Ju,J,hrel,Zi,Ys⟩:=hG;simp at H;subst H;have⟨gk,e6,b6,Vu⟩:=hrel 6 o_ trivial;have⟨gF,e7,Ze,b7⟩:=hrel 7 o_ trivial;have f2:=Ju 2 (by intro j I;rcases Du I with rfl|rfl|rfl|rfl|rfl|rfl|rfl|rfl <;> decide);have f3:=Ju 3 (by intro j I;rcases Du I with rfl|rfl|rfl|rfl|rfl|rfl|rfl|rfl <;> decide);have f6:=Ju 6 (by intro j I;rcases Du I with rfl|rfl|rfl|rfl|rfl|rfl|rfl|rfl <;> decide);have f7:=Ju 7 (by intro j I;rcases Du I with rfl|rfl|rfl|rfl|rfl|rfl|rfl|rfl <;> decide);have⟨Jj,T1,Yw⟩:=IJ (a:=a) (cap:=cap) (d:=d) (bd:=bd) (codes:=codes) b7 b6;have Yj:Y.there gF 0 (iX a Ja cap d bd gk).size:=by intro j I;rw[p_]at I;rw[Nat.zero_add];refine⟨?_,frozen_of_row _ _ _ _ _ b7⟩;rw[cell_of_row _ _ _ _ _ _ b7];simp[qb];omega
  refine wp_store_mid 80 (.tmp 8) (.tmp 32) rfl gF 0 (iX a Ja cap d bd gk) e7 e6 Yj (by rw[p_];exact Tryz.infFet) (IG _ _ _ _ _ _) ?_;have⟨W5,Yd⟩:=q_ (Y.setCells gF 0 (iX a Ja cap d bd gk).toList);rw[<-Yd]at Jj T1⊢;have Jk:Bl W W5:=T1.below J J.size (by rintro k rfl;exact Ze);have Yx:=HI.out.below Jk;have Yg:NR w W5 w1.heap.size gF gk (.cells #[.slice a Ja cap,V d,V bd] 47) (.cells #[nV,.int .u32 0,nV,nV,nV,nV,.int .u32 0,V 0] 31) a Ja cap d bd codes c0:=by
   have⟨r,dd,s,i,o,L5,Zd,Xd,Xm,Y_,Xr,Xq,Xa,Xb,Xp⟩:=HI.out;have Xe:=Xd.lt;refine⟨L5,jO.toIn (Zd.below Jk) (Xd.below Jk) (λh=>(Xm _ h).2 rfl),λg hg=>⟨(Xm g hg).1,(Xm g hg).2,?_,?_⟩,(Jk.block _ o_).trans Y_,(Jk.block _ o_).trans Xr,Xq.below Jk,Xa,Xb.trans (Jk.mono Xb.size),Jj,Xp,o_,o_⟩
   have:=Xe g hg
   omega
   have:=Xe g hg
   omega
  have Yk:=ah Yg;clear Jj T1 Jk Yx Yg Yd Yj b6 b7 hrel Zi Ys HI Jy Yl;obtain⟨tm,df⟩:=x;obtain⟨t0,t1,t2,t3,t4,t5,t6,t7,t8,t9,Zx,Zt,Vk,Zq,Vw,Vh,Zn,Zy,Vy,Vi,Vv,Vs,Vj,V_,Zr,Zm,Zo,Zu,Vm,Va,Vt,Vr,Zb,Zp,Vq,Ve,Ua,Vx,Vf,Vp,Zv,Zs,Vc,Vb,Vn,Zw,Vl,Vz,rfl⟩:=NQ tm (by simpa using Yh);simp[Act.eval]at e6 e7 f2 f3 f6 f7 Xl;subst e6 e7 f2 f3 f6 f7 Xl;rename_i hK;refine hK _ _ ?_;simp only[Act.put];go_wp2_with fail;generalize Value.agg (iX a Ja cap d bd gk)=Zb;go_loopw[9] (λi wr=>∃n:Nat,n<=N/\i=V n/\NR w wr w1.heap.size gF gk (.cells #[.slice a Ja cap,V d,V bd] 47) (.cells #[nV,.int .u32 0,nV,nV,nV,nV,.int .u32 0,V 0] 31) a Ja cap d bd codes (F n)) (λi _=>N-(RowKit.intOf i).toNat)
  case atStart=>exact⟨0,y_,rfl,by rw[Zc.out];exact Yk⟩
  case round=>
   obtain⟨n,hn,rfl,U⟩:=hrel;have hG:=Xk.out.2.2 n hn;have hE:F N=F n\/(n<N/\(F n).st=0):=by by_cases h1:n<N;by_cases h2:(F n).st=0;exact .inr ⟨h1,h2⟩;exact .inl (Xk.out.2.1 n hn h2);obtain rfl:n=N:=(by omega);exact .inl rfl
   have hx:¬(n<N/\(F n).st=0)\/eO codes bd (F n) (F (n+1)):=by by_cases h2:n<N/\(F n).st=0;exact .inr (Xk.out.1 n h2.1 h2.2);exact .inl h2
   have HP:Hid _:=And.intro hE (And.intro hx hG);clear hE hx Yk hG;generalize hnx:F (n+1)=nx at*;generalize hcc:F n=c at*;obtain⟨L,Jv,X,hM,Jr,Jh,Jc,Jg,Jj,Yf,Ye,Xt⟩:=U;obtain⟨r,dd,s,i,o,Js,L0,Xw,Jq,n1,n2,n3,n4,n5,a1,b1,a2,b2,a3,b3,a4,b4,a5,b5,rfl,rfl,rfl,rfl,rfl⟩:=Jv.value;obtain rfl:L=L0:=(List.cons.inj Xw).2;have⟨Zk,Yu,Zl,Zf,Yt,Yz,Zg,Yy,Zh⟩:=id Js;have RB:=Bx.of_heap Jr;have HS:Hid _:=And.intro Jv (And.intro Jq (And.intro X (And.intro hM (And.intro Jr (And.intro Jh (And.intro Jc (And.intro Jg (And.intro Jj (And.intro Yf (And.intro Ye (And.intro Xt Js)))))))))));clear Jv Jq X hM Jr Jh Jc Jg Jj Js Xw;have Z_:(n:Int)<=(N:Int):=o_;by_cases Jn:n<N/\c.st=0
   ·have Jp:(n:Int)<(N:Int):=o_
    have Yv:(c.st == 0)=true:=(by rw[Jn.2];rfl);have HN:Hid _:=And.intro Jn (HP.out.2.1.resolve_left (λh=>h Jn));clear Jn RB;go_wp2_with fail;refine(Lp gF gk a Ja cap d bd c.pc codes wr HS.out.2.2.2.2.2.2.2.2.1 HG.out.2.2.2.2.2.2.1 HG.out.2.2.2.2.2.1 HP.out.2.2.pcu HS.out.2.2.2.2.2.1 (λg hg e=>by have:=HS.out.2.2.2.2.2.2.1 g hg;omega)).mono ?_;rintro e w2 ⟨rfl,Jd,Ji⟩;have Jo:az w2 w1.heap.size (w1.heap.size::L) c:=HS.out.1.tcs Ji (λg hg e=>by rw[List.mem_cons]at hg;rcases hg with rfl|hg;omega;exact(HS.out.2.2.1 g hg).2.2.2 e);have H2:Hid _:=And.intro Jd (And.intro Ji Jo);clear Jd Ji Jo Zk Yu Zl Zf Yt Yz Zg Yy Zh;go_wp2_with fail;refine((HN.out.2).1 w1.heap.size (w1.heap.size::L) w2 H2.out.2.2).mono ?_;rintro e w3 ⟨rfl,L3,Jf,Xi,Jl⟩;have H3:Hid _:=And.intro Jf (And.intro Xi Jl);clear Jf Xi Jl;go_wp2;go_roundw
    case rel=>
     have⟨Jv,Jq,X,hM,Jr,Jh,Jc,Jg,Jj,_,_,_,Js⟩:=HS.out;have⟨Jd,Ji,Jo⟩:=H2.out;have⟨Jf,Xi,Jl⟩:=H3.out;obtain⟨_,_,_,_,_,_,L4,rfl,_⟩:=Jf.value;have z1:=Jg.size;have z2:=Ji.size;have z3:=Js.lt;have z4:=Jd.lt;have z5:=Jd.kl;have hS:∀k,k∈w1.heap.size::L->w.heap.size+1<k/\k≠gF/\k≠gk:=λk hk=>by
      rw[List.mem_cons]at hk;rcases hk with rfl|hk;omega
      have:=X k hk
      exact⟨this.1,this.2.2.1,this.2.2.2⟩
     have Xo:w1.heap.size∉L4:=(List.nodup_cons.mp (by obtain⟨_,_,_,_,_,_,_,_,_,_,_,_,hl,Zj⟩:=Jf;exact Zj)).1;refine⟨n+1,by have:=HN.out.1;omega,by go_num,?_⟩;rw[hnx];refine⟨L4,Jf,λg hg=>?_,?_,?_,?_,Jc,?_,Jd.tcs Jl (λe=>(hS _ e).2.1 rfl) (λe=>(hS _ e).2.2 rfl),Yf,Ye,Xt⟩;have Xs:g≠w1.heap.size:=λe=>Xo (e ▸ hg);rcases Xi g (m_ _ hg)with h|h
     have:=hS g h
     exact⟨this.1,Xs,this.2.1,this.2.2⟩;exact⟨o_,Xs,o_,o_⟩;exact(Jl.block _ o_ (λe=>by have:=hS _ e;omega)).trans ((Ji.block _ o_ o_).trans hM);exact(Jl.block _ o_ (λe=>by have:=hS _ e;omega)).trans ((Ji.block _ o_ o_).trans Jr);exact(Jh.tcs Ji (λg hg e=>by have:=Jc g hg;omega)).tcs Jl (λg hg e=>by have:=Jc g hg;have:=hS _ e;omega);exact Jl.below (Ji.below Jg Jg.size (by rintro k rfl;omega)) o_ (λk hk=>by have:=hS k hk;omega)
    case measure=>have:=HN.out.1;simp[RowKit.intOf];omega
   have HN:Hid _:=HP.out.1.resolve_right Jn;have⟨z0,z1,z2,z3,z4,z5,z6,z7,zf⟩:=id RB;by_cases h1:n<N
   ·have Jp:(n:Int)<(N:Int):=o_
    have Yv:(c.st == 0)=false:=(by simp;intro h;exact Jn ⟨h1,h⟩);clear Jn RB h1;go_wp2;refine bodyPost_ret (v:=.agg #[.slice a1 n1 b1,.int .u32 c.pc,.slice a2 n2 b2,.slice a3 n3 b3,.slice a4 n4 b4,.slice a5 n5 b5,.int .u32 c.low,V c.st]) (by simp[results,results18,go_sem,z0,z1,z2,z3,z4,z5,z6,z7]) rfl ?_;have⟨Jv,Jq,X,hM,Jr,Jh,Jc,Jg,Jj,_,_,_,Js⟩:=HS.out;rw[HN.out];have TR:=(aA.refl (λk=>k=w.heap.size+1) wr).set8 _ rfl (.slice a1 n1 b1) (.int .u32 c.pc) (.slice a2 n2 b2) (.slice a3 n3 b3) (.slice a4 n4 b4) (.slice a5 n5 b5) (.int .u32 c.low) (V c.st);exact⟨_,rfl,(Jq.tcs TR (λg hg e=>by have:=X g hg;omega)).toAt (λg hg=>by have:=X g hg;omega),TR.below Jg Jg.size (by rintro k rfl;omega)⟩
   have Vo:¬(n:Int)<(N:Int):=o_;clear Jn RB h1;go_wp2;refine bodyPost_ret (v:=.agg #[.slice a1 n1 b1,.int .u32 c.pc,.slice a2 n2 b2,.slice a3 n3 b3,.slice a4 n4 b4,.slice a5 n5 b5,.int .u32 c.low,V c.st]) (by simp[results,results18,go_sem,z0,z1,z2,z3,z4,z5,z6,z7]) rfl ?_;have⟨Jv,Jq,X,hM,Jr,Jh,Jc,Jg,Jj,_,_,_,Js⟩:=HS.out;rw[HN.out];have TR:=(aA.refl (λk=>k=w.heap.size+1) wr).set8 _ rfl (.slice a1 n1 b1) (.int .u32 c.pc) (.slice a2 n2 b2) (.slice a3 n3 b3) (.slice a4 n4 b4) (.slice a5 n5 b5) (.int .u32 c.low) (V c.st);exact⟨_,rfl,(Jq.tcs TR (λg hg e=>by have:=X g hg;omega)).toAt (λg hg=>by have:=X g hg;omega),TR.below Jg Jg.size (by rintro k rfl;omega)⟩
section
variable{c c':Mc}{mb:Int}
def cM(pc x1 x2 x5 x6 x10 x17:Int)(sk inn:List Int)(low st:Int):Mc:=⟨[0,x1,x2,0,0,x5,x6,0,0,0,x10,0,0,0,0,0,0,x17,0,0,0,0,0,0,0,0,0,0,0,0,0,0],pc,[],sk,inn,[],low,st⟩
def cJ(x:Int):Prop:=0<=x/\x<=4294967295
theorem dJ{pc O H I J Ja Jc Jb st:Int}{h inn:List Int}(X:cJ pc)(Z:cJ O)(h2:cJ H)(h5:cJ I)(h6:cJ J)(Je:cJ Ja)(Jd:cJ Jc)(hs:h.length<=1000000)(Jg:∀j,j<h.length->0<=h.getD j 0/\h.getD j 0<=255)(hi:inn.length<=1000)(Jf:∀j,j<inn.length -> -2147483648<=inn.getD j 0/\inn.getD j 0<=2147483647)(hl:cJ Jb)(Y:0<=st/\st<=2):Good (cM pc O H I J Ja Jc h inn Jb st):=by
 refine⟨rfl,λj hj=>?_,rfl,X,hl,by show 0<=65536;decide,λj hj=>absurd hj (Nat.not_lt_zero j),hs,Jg,hi,Jf,by show 0<=1000000;decide,λj hj=>absurd hj (Nat.not_lt_zero j),Y⟩;have U:(0:Int)<=0/\(0:Int)<=4294967295:=d_
 have:j=0\/j=1\/j=2\/j=3\/j=4\/j=5\/j=6\/j=7\/j=8\/j=9\/j=10\/j=11\/j=12\/j=13\/j=14\/j=15\/j=16\/j=17\/j=18\/j=19\/j=20\/j=21\/j=22\/j=23\/j=24\/j=25\/j=26\/j=27\/j=28\/j=29\/j=30\/j=31:=by omega
 rcases this with rfl|rfl|rfl|rfl|rfl|rfl|rfl|rfl|rfl|rfl|rfl|rfl|rfl|rfl|rfl|rfl|rfl|rfl|rfl|rfl|rfl|rfl|rfl|rfl|rfl|rfl|rfl|rfl|rfl|rfl|rfl|rfl;all_goals first|exact U|exact Z|exact h2|exact h5|exact h6|exact Je|exact Jd
theorem qH{k a b s d:Int}(h:∀C L w,az w C L c->Calls prog 59 #[pV C,.agg #[V k,V a,V b,V s,V d]] w λe w'=>e=rW (.bool true)/\az w' C L c'/\aA (λg=>g∈L) w w')(hG:Good c'):KR c mb k a b s d true c':=
 ⟨λC L w hc=>(h C L w hc).mono λe w' ⟨h1,h2,h3⟩=>⟨h1,L,h2,λg hg=>.inl hg,h3⟩,trivial,trivial,hG,trivial⟩
theorem iK{codes:List Int}{H:Mc}{x:kW}(J:dG codes c.pc=x)(O:x.o=true)(I:KR c mb x.k x.a x.b x.s x.d true c')(h:H=lowM c'):eO codes mb c H:=by
 refine⟨λC L w hc=>?_,trivial,by rw[h];exact I.2.2.2.1.lowM⟩;rw[J,h];have e:x.val=.agg #[.bool true,V x.k,V x.a,V x.b,V x.s,V x.d]:=by unfold kW.val;rw[O]
 rw[e];exact KS C L c c' mb x.k x.a x.b x.s x.d w hc I
def dA:List kW:=[⟨true,2,1,0,0,12⟩,⟨true,12,17,0,0,10⟩,⟨true,34,0,0,0,0⟩,⟨true,12,2,2,0,-16⟩,⟨true,11,0,2,1,12⟩,⟨true,12,17,0,0,2⟩,⟨true,34,0,0,0,0⟩,⟨true,12,5,10,0,0⟩,⟨true,12,17,0,0,2⟩,⟨true,34,0,0,0,0⟩,⟨true,12,6,10,0,0⟩]
def dZ:List kW:=[⟨true,12,10,5,0,0⟩,⟨true,2,0,0,0,8⟩,⟨true,12,10,0,0,0⟩,⟨true,10,1,2,0,12⟩,⟨true,12,2,2,0,16⟩,⟨true,3,0,1,0,0⟩]
def dB(op:Int):List kW:=(jX op 5 5 6).map λit=>⟨true,it.ins.op,it.ins.rd,it.ins.s1,it.ins.s2,it.ins.im⟩
end
section
section
variable{codes:List Int}{mb:Int}{c c' nx:Mc}{op im:Int}{rd s1 s2:Nat}
theorem GQ(Jc:op=12\/op=14\/op=15)(I:Good c)(Ja:c.st=0)(Jb:rd<32)(H:s1<32)(U:dG codes c.pc=⟨true,op,rd,s1,(0:Nat),im⟩)(X:c'={dR c rd (lW op (c.regs.getD s1 0) (im%4294967296))with pc:=(c.pc+4)%4294967296})(Jd:Good c')(Y:nx=lowM c'):eO codes mb c nx:=by
 subst X;have O:op∈yH:=by rcases Jc with rfl|rfl|rfl <;> decide
 refine iK U rfl (qH (λC L w h=>?_) Jd) Y;have J:=EC O (c.regs.getD s1 0) (im%4294967296) (I.ru s1 H) (iV _);rcases Jc with rfl|rfl|rfl;exact Nl C L c rd s1 0 im w I h _ Jb H d_ Ja J;exact Nm C L c rd s1 0 im w I h _ Jb H d_ Ja J;exact Nn C L c rd s1 0 im w I h _ Jb H d_ Ja J
theorem OK(Ja:op∈yH)(Jc:21<=op)(H:Good c)(Jd:c.st=0)(Jf:rd<32)(I:s1<32)(h2:s2<32)(J:dG codes c.pc=⟨true,op,rd,s1,s2,im⟩)(O:c'={dR c rd (lW op (c.regs.getD s1 0) (c.regs.getD s2 0))with pc:=(c.pc+4)%4294967296})(Je:Good c')(U:nx=lowM c'):eO codes mb c nx:=by
 subst O;have Jb:op<=33:=by have:∀x∈yH,x<=33:=d_;exact this op Ja
 exact iK J rfl (qH (λC L w h=>P6 C L c op _ rd s1 s2 im w H h ⟨Jc,Jb⟩ Jf I h2 Jd (EC Ja _ _ (H.ru s1 I) (H.ru s2 h2))) Je) U
theorem PQ(J:Good c)(Ja:c.st=0)(Jc:rd<32)(H:dG codes c.pc=⟨true,2,rd,(0:Nat),(0:Nat),im⟩)(I:c'={dR c rd ((c.pc+4)%4294967296)with pc:=(c.pc+im)%4294967296})(Jb:Good c')(O:nx=lowM c'):eO codes mb c nx:=by subst I;exact iK H rfl (qH (λC L w h=>P7 C L c rd 0 0 im w J h Jc d_ d_ Ja) Jb) O
theorem Pz(O:Good c)(Ja:c.st=0)(Jc:rd<32)(I:s1<32)(H:dG codes c.pc=⟨true,3,rd,s1,(0:Nat),im⟩)(J:c'={dR c rd ((c.pc+4)%4294967296)with pc:=bits .andNot .u32 ((c.regs.getD s1 0+im)%4294967296) 1})(Jb:Good c')(U:nx=lowM c'):eO codes mb c nx:=by subst J;exact iK H rfl (qH (λC L w h=>Pb C L c rd s1 0 im w O h Jc I d_ Ja) Jb) U
theorem PA(m:Nat)(U:Good c)(Ja:c.st=0)(Jc:rd<32)(J:s1<32)(H:ED c ((c.regs.getD s1 0+im)%4294967296) m)(I:dG codes c.pc=⟨true,10,rd,s1,(0:Nat),im⟩)(O:c'={dR c rd (vP c.stack m)with pc:=(c.pc+4)%4294967296})(Jb:Good c')(X:nx=lowM c'):eO codes mb c nx:=by subst O;exact iK I rfl (qH (λC L w h=>Nq C L c rd s1 0 im w U h m Jc J d_ Ja H) Jb) X
theorem PB(m:Nat)(U:Good c)(Ja:c.st=0)(J:s1<32)(h2:s2<32)(H:ED c ((c.regs.getD s1 0+im)%4294967296) m)(I:dG codes c.pc=⟨true,11,(0:Nat),s1,s2,im⟩)(O:c'={c with stack:=put4 c.stack m (c.regs.getD s2 0),pc:=(c.pc+4)%4294967296})(Jb:Good c')(X:nx=lowM c'):eO codes mb c nx:=by subst O;exact iK I rfl (qH (λC L w h=>Nr C L c 0 s1 s2 im w U h m d_ J h2 Ja H) Jb) X
theorem Mb(J:Good c)(Ja:c.st=0)(Jc:c.regs.getD 17 0=10)(H:dG codes c.pc=⟨true,34,(0:Nat),(0:Nat),(0:Nat),0⟩)(I:c'={c with st:=1})(Jb:Good c')(O:nx=lowM c'):eO codes mb c nx:=by subst I;exact iK H rfl (qH (λC L w h=>H0 C L c 0 0 0 0 w J h Jc d_ d_ d_ Ja) Jb) O
theorem Ol(z:Int)(H:List Int)(U:Good c)(Ja:c.st=0)(Jc:c.regs.getD 17 0=2)(O:c.inn=z::H)(I:dG codes c.pc=⟨true,34,(0:Nat),(0:Nat),(0:Nat),0⟩)(J:c'={c with regs:=c.regs.set 10 (z%4294967296),inn:=H,pc:=(c.pc+4)%4294967296})(Jb:Good c')(X:nx=lowM c'):eO codes mb c nx:=by subst J;refine iK I rfl ⟨λC L w h=>(KQ C L c 0 0 0 0 w U h z H Jc O d_ d_ d_ Ja).mono λe w' ⟨h1,L',h2,h3,h4⟩=>⟨h1,L',h2,λg hg=>.inl (h3 g hg),h4⟩,trivial,trivial,Jb,trivial⟩ X
end
end
section
variable{op:Int}
theorem fA(h:0<=op/\op<=15):∀j:Nat,j<11->dG (kw op) (4096+4*(j:Int))=dA.getD j kW.no:=
 λj hj=>tI ((by rcases mA h with rfl|rfl|rfl|rfl|rfl|rfl|rfl|rfl|rfl|rfl|rfl|rfl|rfl|rfl|rfl|rfl;all_goals decide:∀j:Nat,j<11->(dG (kw op) (4096+4*(j:Int))).t=(dA.getD j kW.no).t) j hj)
def nB(op:Int):Nat:=(dB op).length
theorem fZ(h:0<=op/\op<=15):∀j:Nat,j<6->dG (kw op) (4140+4*(nB op:Int)+4*(j:Int))=dZ.getD j kW.no:=
 λj hj=>tI ((by rcases mA h with rfl|rfl|rfl|rfl|rfl|rfl|rfl|rfl|rfl|rfl|rfl|rfl|rfl|rfl|rfl|rfl;all_goals decide:∀j:Nat,j<6->(dG (kw op) (4140+4*(nB op:Int)+4*(j:Int))).t=(dZ.getD j kW.no).t) j hj)
theorem fB(h:0<=op/\op<=15):∀j:Nat,j<nB op->dG (kw op) (4140+4*(j:Int))=(dB op).getD j kW.no:=
 λj hj=>tI ((by rcases mA h with rfl|rfl|rfl|rfl|rfl|rfl|rfl|rfl|rfl|rfl|rfl|rfl|rfl|rfl|rfl|rfl;all_goals decide:∀j:Nat,j<nB op->(dG (kw op) (4140+4*(j:Int))).t=((dB op).getD j kW.no).t) j hj)
def Jo:List Int:=[0,0,0,0,0,0,0,0,0,0,0,0,0,0,0,0]
def kz:List Int:=[0,0,0,0,0,0,0,0,0,0,0,0,4,16,0,0]
theorem aP{x:Int}(h:0<=x:=by decide)(h1:x<=4294967295:=by decide):cJ x:=⟨h,h1⟩
theorem OL:Jo.length<=1000000/\∀j,j<Jo.length->0<=Jo.getD j 0/\Jo.getD j 0<=255:=by unfold Jo;decide
theorem oo:kz.length<=1000000/\∀j,j<kz.length->0<=kz.getD j 0/\kz.getD j 0<=255:=by unfold kz;decide
def iB(x:Int):Prop:= -2147483648<=x/\x<=2147483647
section
variable{op a b:Int}
theorem MA(h:iB a)(H:iB b):([a,b]:List Int).length<=1000/\∀j,j<([a,b]:List Int).length -> -2147483648<=([a,b]:List Int).getD j 0/\([a,b]:List Int).getD j 0<=2147483647:=by
 refine⟨by show 2<=1000;decide,λj hj=>?_⟩;have:j=0\/j=1:=by have:j<2:=hj;omega
 rcases this with rfl|rfl;exact h;exact H
theorem OM(h:iB b):([b]:List Int).length<=1000/\∀j,j<([b]:List Int).length -> -2147483648<=([b]:List Int).getD j 0/\([b]:List Int).getD j 0<=2147483647:=by
 refine⟨by show 1<=1000;decide,λj hj=>?_⟩;obtain rfl:j=0:=by have:j<1:=hj;omega
 exact h
theorem tp:([]:List Int).length<=1000/\∀j,j<([]:List Int).length -> -2147483648<=([]:List Int).getD j 0/\([]:List Int).getD j 0<=2147483647:=⟨d_,λj hj=>absurd hj (Nat.not_lt_zero j)⟩
def pS(a b:Int):Nat->Mc
 | 0=>cM 4096 0 1073741824 0 0 0 0 Jo [a,b] 1073741824 0
 | 1=>cM 4108 4100 1073741824 0 0 0 0 Jo [a,b] 1073741824 0
 | 2=>cM 4112 4100 1073741808 0 0 0 0 Jo [a,b] 1073741808 0
 | 3=>cM 4116 4100 1073741808 0 0 0 0 kz [a,b] 1073741808 0
 | 4=>cM 4120 4100 1073741808 0 0 0 2 kz [a,b] 1073741808 0
 | 5=>cM 4124 4100 1073741808 0 0 (a%4294967296) 2 kz [b] 1073741808 0
 | 6=>cM 4128 4100 1073741808 (a%4294967296) 0 (a%4294967296) 2 kz [b] 1073741808 0
 | 7=>cM 4132 4100 1073741808 (a%4294967296) 0 (a%4294967296) 2 kz [b] 1073741808 0
 | 8=>cM 4136 4100 1073741808 (a%4294967296) 0 (b%4294967296) 2 kz [] 1073741808 0
 | _=>cM 4140 4100 1073741808 (a%4294967296) (b%4294967296) (b%4294967296) 2 kz [] 1073741808 0
theorem GR(I:iB a)(h:iB b)(i:Nat):Good (pS a b i):=by
 have H:cJ (a%4294967296):=iV _;have J:cJ (b%4294967296):=iV _;have O:cJ 0:=aP;unfold pS;split;all_goals first
  | exact dJ aP aP aP aP aP aP aP OL.1 OL.2 (MA I h).1 (MA I h).2 aP d_
  | exact dJ aP aP aP aP aP aP aP oo.1 oo.2 (MA I h).1 (MA I h).2 aP d_
  | exact dJ aP aP aP O aP H aP oo.1 oo.2 (OM h).1 (OM h).2 aP d_
  | exact dJ aP aP aP H aP H aP oo.1 oo.2 (OM h).1 (OM h).2 aP d_
  | exact dJ aP aP aP H aP J aP oo.1 oo.2 tp.1 tp.2 aP d_
  | exact dJ aP aP aP H J J aP oo.1 oo.2 tp.1 tp.2 aP d_
end
end
section
theorem Md(x:Int)(h:cJ x):lW 12 x (0%4294967296)=x:=by
 have:lW 12 x (0%4294967296)=(x+0%4294967296)%4294967296:=rfl
 rw[this];unfold cJ at h;omega
section
variable{op a b:Int}
theorem Me(h:0<=op/\op<=15)(I:iB a)(J:iB b)(i:Nat)(X:i<9):eO (kw op) 16 (pS a b i) (pS a b (i+1)):=by
 have H:=λi=>GR I J i;have O:cJ (a%4294967296):=iV _;have U:cJ (b%4294967296):=iV _;have:i=0\/i=1\/i=2\/i=3\/i=4\/i=5\/i=6\/i=7\/i=8:=o_
 rcases this with rfl|rfl|rfl|rfl|rfl|rfl|rfl|rfl|rfl;exact PQ (c':=pS a b 1) (rd:=1) (im:=12) (H 0) rfl d_ (fA h 0 d_) rfl (H 1) rfl;exact GQ (c':=cM 4112 4100 1073741808 0 0 0 0 Jo [a,b] 1073741824 0) (op:=12) (rd:=2) (s1:=2) (im:= -16) (.inl rfl) (H 1) rfl d_ d_ (fA h 3 d_) rfl (dJ aP aP aP aP aP aP aP OL.1 OL.2 (MA I J).1 (MA I J).2 aP d_) rfl;exact PB (c':=pS a b 3) (s1:=2) (s2:=1) (im:=12) 12 (H 2) rfl d_ d_ ⟨rfl,rfl,by show 12+4<=16;decide⟩ (fA h 4 d_) rfl (H 3) rfl;exact GQ (c':=pS a b 4) (op:=12) (rd:=17) (s1:=0) (im:=2) (.inl rfl) (H 3) rfl d_ d_ (fA h 5 d_) rfl (H 4) rfl;exact Ol (c':=pS a b 5) a [b] (H 4) rfl rfl rfl (fA h 6 d_) rfl (H 5) rfl;exact GQ (c':=pS a b 6) (op:=12) (rd:=5) (s1:=10) (im:=0) (.inl rfl) (H 5) rfl d_ d_ (fA h 7 d_) (by show cM 4128 4100 1073741808 (a%4294967296) 0 (a%4294967296) 2 kz [b] 1073741808 0=cM 4128 4100 1073741808 (lW 12 (a%4294967296) (0%4294967296)) 0 (a%4294967296) 2 kz [b] 1073741808 0;rw[Md _ O]) (H 6) rfl;exact GQ (c':=pS a b 7) (op:=12) (rd:=17) (s1:=0) (im:=2) (.inl rfl) (H 6) rfl d_ d_ (fA h 8 d_) rfl (H 7) rfl;exact Ol (c':=pS a b 8) b [] (H 7) rfl rfl rfl (fA h 9 d_) rfl (H 8) rfl;exact GQ (c':=pS a b 9) (op:=12) (rd:=6) (s1:=10) (im:=0) (.inl rfl) (H 8) rfl d_ d_ (fA h 10 d_) (by show cM 4140 4100 1073741808 (a%4294967296) (b%4294967296) (b%4294967296) 2 kz [] 1073741808 0=cM 4140 4100 1073741808 (a%4294967296) (lW 12 (b%4294967296) (0%4294967296)) (b%4294967296) 2 kz [] 1073741808 0;rw[Md _ U]) (H 9) rfl
def qS(P R B:Int):Nat->Mc
 | 0=>cM P 4100 1073741808 R B B 2 kz [] 1073741808 0
 | 1=>cM (P+4) 4100 1073741808 R B R 2 kz [] 1073741808 0
 | 2=>cM (P+12) 4100 1073741808 R B R 2 kz [] 1073741808 0
 | 3=>cM (P+16) 4100 1073741808 R B R 2 kz [] 1073741808 0
 | 4=>cM (P+20) 4100 1073741824 R B R 2 kz [] 1073741808 0
 | 5=>cM 4100 4100 1073741824 R B R 2 kz [] 1073741808 0
 | 6=>cM 4104 4100 1073741824 R B R 10 kz [] 1073741808 0
 | _=>cM 4104 4100 1073741824 R B R 10 kz [] 1073741808 1
theorem zX{P R B:Int}(O:4140<=P/\P<=4148)(h:cJ R)(H:cJ B)(i:Nat):Good (qS P R B i):=by have J:cJ P:=⟨o_,o_⟩;have I:cJ (P+4):=⟨o_,o_⟩;have h2:cJ (P+12):=⟨o_,o_⟩;have h3:cJ (P+16):=⟨o_,o_⟩;have h4:cJ (P+20):=⟨o_,o_⟩;unfold qS;split;exact dJ J aP aP h H H aP oo.1 oo.2 tp.1 tp.2 aP d_;exact dJ I aP aP h H h aP oo.1 oo.2 tp.1 tp.2 aP d_;exact dJ h2 aP aP h H h aP oo.1 oo.2 tp.1 tp.2 aP d_;exact dJ h3 aP aP h H h aP oo.1 oo.2 tp.1 tp.2 aP d_;exact dJ h4 aP aP h H h aP oo.1 oo.2 tp.1 tp.2 aP d_;exact dJ aP aP aP h H h aP oo.1 oo.2 tp.1 tp.2 aP d_;exact dJ aP aP aP h H h aP oo.1 oo.2 tp.1 tp.2 aP d_;exact dJ aP aP aP h H h aP oo.1 oo.2 tp.1 tp.2 aP d_
end
end
section
section
variable{op P R B:Int}
theorem Mf(h:0<=op/\op<=15)(Y:P=4140+4*(nB op:Int))(hn:nB op<=2)(J:cJ R)(Z:cJ B)(i:Nat)(hi:i<7):eO (kw op) 16 (qS P R B i) (qS P R B (i+1)):=by
 have X:4140<=P/\P<=4148:=o_;have H:=λi=>zX X J Z i;have I:∀j:Nat,j<6->∀x,x=P+4*(j:Int)->dG (kw op) x=dZ.getD j kW.no:=λj hj x hx=>by rw[hx,Y];exact fZ h j hj
 have O:bits .andNot .u32 4100 1=4100:=by first|decide|kernel_rfl|simp[bits]
 have U:(P+4)%4294967296=P+4:=o_;have Jc:(P+4+8)%4294967296=P+12:=o_;have Ja:(P+12+4)%4294967296=P+16:=o_;have Jb:(P+16+4)%4294967296=P+20:=o_
 have:i=0\/i=1\/i=2\/i=3\/i=4\/i=5\/i=6:=by omega
 rcases this with rfl|rfl|rfl|rfl|rfl|rfl|rfl;exact GQ (c':=qS P R B 1) (op:=12) (rd:=10) (s1:=5) (im:=0) (.inl rfl) (H 0) rfl d_ d_ (I 0 d_ _ (by show P=_;omega)) (by show cM (P+4) 4100 1073741808 R B R 2 kz [] 1073741808 0=cM ((P+4)%4294967296) 4100 1073741808 R B (lW 12 R (0%4294967296)) 2 kz [] 1073741808 0;rw[Md _ J,U]) (H 1) rfl;exact PQ (c':=qS P R B 2) (rd:=0) (im:=8) (H 1) rfl d_ (I 1 d_ _ (by show P+4=_;omega)) (by show cM (P+12) 4100 1073741808 R B R 2 kz [] 1073741808 0=cM ((P+4+8)%4294967296) 4100 1073741808 R B R 2 kz [] 1073741808 0;rw[Jc]) (H 2) rfl;exact PA (c':=qS P R B 3) (rd:=1) (s1:=2) (im:=12) 12 (H 2) rfl d_ d_ ⟨rfl,rfl,by show 12+4<=16;decide⟩ (I 3 d_ _ (by show P+12=_;omega)) (by show cM (P+16) 4100 1073741808 R B R 2 kz [] 1073741808 0=cM ((P+12+4)%4294967296) 4100 1073741808 R B R 2 kz [] 1073741808 0;rw[Ja]) (H 3) rfl;exact GQ (c':=qS P R B 4) (op:=12) (rd:=2) (s1:=2) (im:=16) (.inl rfl) (H 3) rfl d_ d_ (I 4 d_ _ (by show P+16=_;omega)) (by show cM (P+20) 4100 1073741824 R B R 2 kz [] 1073741808 0=cM ((P+16+4)%4294967296) 4100 1073741824 R B R 2 kz [] 1073741808 0;rw[Jb]) (H 4) rfl;exact Pz (c':=qS P R B 5) (rd:=0) (s1:=1) (im:=0) (H 4) rfl d_ d_ (I 5 d_ _ (by show P+20=_;omega)) (by show cM 4100 4100 1073741824 R B R 2 kz [] 1073741808 0=cM (bits .andNot .u32 4100 1) 4100 1073741824 R B R 2 kz [] 1073741808 0;rw[O]) (H 5) rfl;exact GQ (c':=qS P R B 6) (op:=12) (rd:=17) (s1:=0) (im:=10) (.inl rfl) (H 5) rfl d_ d_ (fA h 1 d_) rfl (H 6) rfl;exact Mb (c':=qS P R B 7) (H 6) rfl rfl (fA h 2 d_) rfl (H 7) rfl
end
end
section
variable{P R B op:Int}
def mS(P R B:Int):Mc:=cM P 4100 1073741808 R B B 2 kz [] 1073741808 0
theorem qI(hP:4140<=P/\P<=4148)(hR:cJ R)(hB:cJ B):Good (mS P R B):=zX hP hR hB 0
def o1(op:Int):Int:=if op=7\/op=8\/op=9\/op=10 then 24 else if op=11\/op=12 then 22 else JB op
def DA(op A B:Int):Int:=lW (o1 op) (if op=8\/op=9 then B else A) (if op=8\/op=9 then A else B)
def MB(op A B:Int):Int:=if op=8\/op=10 then lW 15 (DA op A B) 1 else if op=11 then lW 14 (DA op A B) 1 else if op=12 then lW 25 0 (DA op A B)else DA op A B
theorem uF(hop:op∈yH){A:Int}(hA:cJ A)(hB:cJ B):cJ (lW op A B):=(EC hop A B hA hB).1
theorem JW(h:0<=op/\op<=15):o1 op∈yH/\21<=o1 op:=by rcases mA h with rfl|rfl|rfl|rfl|rfl|rfl|rfl|rfl|rfl|rfl|rfl|rfl|rfl|rfl|rfl|rfl;all_goals decide
section
variable{op A B:Int}
theorem A8(h:0<=op/\op<=15)(H:cJ A)(I:cJ B):cJ (DA op A B):=by
 unfold DA;refine uF (JW h).1 ?_ ?_;all_goals split
 all_goals first|exact H|exact I
theorem GS(h:0<=op/\op<=15)(O:cJ A)(U:cJ B):cJ (MB op A B):=by have H:=A8 h O U;have I:cJ 1:=aP;have J:cJ 0:=aP;unfold MB;split;exact uF d_ H I;split;exact uF d_ H I;split;exact uF d_ J H;exact H
theorem mC(h:0<=op/\op<=15):(nB op=1/\¬(op=8\/op=10\/op=11\/op=12))\/(nB op=2/\(op=8\/op=10\/op=11\/op=12)):=by rcases mA h with rfl|rfl|rfl|rfl|rfl|rfl|rfl|rfl|rfl|rfl|rfl|rfl|rfl|rfl|rfl|rfl;all_goals decide
theorem Mg(h:0<=op/\op<=15)(U:cJ A)(O:cJ B):eO (kw op) 16 (mS 4140 A B) (mS 4144 (DA op A B) B):=by
 have J:Good (mS 4140 A B):=qI d_ U O;have Jb:Good (mS 4144 (DA op A B) B):=qI d_ (A8 h U O) O;have H:=fB h 0 (by have:=mC h;omega);have⟨I,Ja⟩:=JW h;rcases mA h with rfl|rfl|rfl|rfl|rfl|rfl|rfl|rfl|rfl|rfl|rfl|rfl|rfl|rfl|rfl|rfl;all_goals first
  | exact OK (op:=o1 8) (rd:=5) (s1:=6) (s2:=5) (im:=0) I Ja J rfl d_ d_ d_ H rfl Jb rfl
  | exact OK (op:=o1 9) (rd:=5) (s1:=6) (s2:=5) (im:=0) I Ja J rfl d_ d_ d_ H rfl Jb rfl
  | exact OK (op:=o1 _) (rd:=5) (s1:=5) (s2:=6) (im:=0) I Ja J rfl d_ d_ d_ H rfl Jb rfl
theorem Mh(h:op=8\/op=10\/op=11\/op=12)(U:cJ A)(O:cJ B):eO (kw op) 16 (mS 4144 (DA op A B) B) (mS 4148 (MB op A B) B):=by have I:0<=op/\op<=15:=o_;have J:Good (mS 4144 (DA op A B) B):=qI d_ (A8 I U O) O;have Ja:Good (mS 4148 (MB op A B) B):=qI d_ (GS I U O) O;have H:=fB I 1 (by have:=mC I;omega);rcases h with rfl|rfl|rfl|rfl;exact GQ (op:=15) (rd:=5) (s1:=5) (im:=1) (.inr (.inr rfl)) J rfl d_ d_ H rfl Ja rfl;exact GQ (op:=15) (rd:=5) (s1:=5) (im:=1) (.inr (.inr rfl)) J rfl d_ d_ H rfl Ja rfl;exact GQ (op:=14) (rd:=5) (s1:=5) (im:=1) (.inr (.inl rfl)) J rfl d_ d_ H rfl Ja rfl;exact OK (op:=25) (rd:=5) (s1:=0) (s2:=5) (im:=0) d_ d_ J rfl d_ d_ d_ H rfl Ja rfl
end
theorem uG(i:Nat)(h:7<=i):qS P R B i=qS P R B 7:=by obtain⟨k,rfl⟩:∃k,i=k+7:=⟨i-7,o_⟩;rfl
theorem Om(i:Nat)(h:i<7):(qS P R B i).st=0:=by
 have:i=0\/i=1\/i=2\/i=3\/i=4\/i=5\/i=6:=by omega
 rcases this with rfl|rfl|rfl|rfl|rfl|rfl|rfl <;> rfl
theorem On{a b:Int}(i:Nat):(pS a b i).st=0:=by unfold pS;split <;> rfl
section
variable{op a b:Int}
def pE(op:Int):Int:=4140+4*(nB op:Int)
def rE(op a b:Int):Int:=MB op (a%4294967296) (b%4294967296)
def fS(op a b:Int)(n:Nat):Mc:=if n<=9 then pS a b n else if n=10 then mS 4144 (DA op (a%4294967296) (b%4294967296)) (b%4294967296)else qS (pE op) (rE op a b) (b%4294967296) (n-9-nB op)
theorem xJ(h:0<=op/\op<=15)(n:Nat)(J:9+nB op<=n):fS op a b n=qS (pE op) (rE op a b) (b%4294967296) (n-9-nB op):=by
 unfold fS;rcases mC h with⟨H,h2⟩|⟨H,h2⟩;rw[if_neg o_];by_cases h10:n=10;rw[if_pos h10,h10];have e:rE op a b=DA op (a%4294967296) (b%4294967296):=by unfold rE MB;rw[if_neg o_,if_neg o_,if_neg o_]
 have I:pE op=4144:=(by unfold pE;rw[H];rfl);rw[e,I,H];rfl;rw[if_neg h10];rw[if_neg o_,if_neg o_]
theorem Mi(h:0<=op/\op<=15)(J:iB a)(O:iB b)(n:Nat):Good (fS op a b n):=by have I:cJ (a%4294967296):=iV _;have H:cJ (b%4294967296):=iV _;unfold fS;split;exact GR J O n;split;exact qI d_ (A8 h I H) H;exact zX (by unfold pE;have:=mC h;omega) (GS h I H) H _
theorem Mj(h:0<=op/\op<=15)(Z:iB a)(hb:iB b)(n:Nat)(U:(fS op a b n).st=0):eO (kw op) 16 (fS op a b n) (fS op a b (n+1)):=by
 have J:cJ (a%4294967296):=iV _;have H:cJ (b%4294967296):=iV _;have Jb:nB op<=2:=by have:=mC h;omega
 by_cases h9:n<9;have X:fS op a b n=pS a b n:=by unfold fS;rw[if_pos o_]
 have O:fS op a b (n+1)=pS a b (n+1):=by unfold fS;rw[if_pos o_]
 rw[X,O];exact Me h Z hb n h9;by_cases hq:9+nB op<=n;rw[xJ h n hq]at U;rw[xJ h n hq,xJ h (n+1) o_,show n+1-9-nB op=n-9-nB op+1 by omega];have Y:n-9-nB op<7:=by apply Classical.byContradiction;intro hc;rw[uG _ o_]at U;exact absurd U (by show ¬((1:Int)=0);decide)
 exact Mf h rfl Jb (GS h J H) H _ Y;by_cases e9:n=9;subst e9;exact Mg h J H;have Ja:n=10:=o_;subst Ja;rw[xJ h 11 o_];rcases mC h with⟨I,h2⟩|⟨I,h2⟩;omega;have O:pE op=4148:=(by unfold pE;rw[I];rfl);rw[O,I];exact Mh h2 J H
theorem Mk(h:0<=op/\op<=15)(n:Nat)(I:(fS op a b n).st≠0)(N:Nat)(O:n<=N):fS op a b N=fS op a b n:=by
 have H:16+nB op<=n:=by
  apply Classical.byContradiction;intro J;apply I;by_cases H:9+nB op<=n;rw[xJ h n H];exact Om _ o_;unfold fS;split;exact On n;split;rfl
  have:=mC h
  omega
 rw[xJ h n o_,xJ h N o_,uG _ o_,uG (n-9-nB op) o_]
theorem Jp(h:0<=op/\op<=15)(J:iB a)(O:iB b)(n:Nat)(U:1<=n/\n<=20000):oA n 0 16=true/\pA [a,b]=true/\fS op a b 0=j7 n 0 16 [a,b]:=by
 have H:oA n 0 16=true:=by unfold oA;simp only[decide_eq_true_eq];omega
 have I:pA [a,b]=true:=by unfold pA vE Hr;unfold iB at J O;simp;omega
 refine⟨H,I,?_⟩;unfold j7;rw[H,I];rfl
def eS(op a b:Int):Mc:=qS (pE op) (rE op a b) (b%4294967296) 7
theorem Ml(h:0<=op/\op<=15)(H:iB a)(I:iB b)(v:Value)(g:Option Addr)(cap:Nat)(w:World)(O:dy .i64 w v [a,b])(U:dy .u32 w (.slice g (kw op).length cap) (kw op))(X:18<=(kw op).length/\(kw op).length<=19)(Ja:∀j,j<(kw op).length->0<=(kw op).getD j 0/\(kw op).getD j 0<=4294967295):
  Calls prog 18 #[.agg #[.slice g (kw op).length cap,V 0,V 16],v,V 100] w λe w'=>∃u,e=rW u/\pF w' w.heap.size u (eS op a b)/\Below w.heap.size w w':=by
 have⟨J,h2,h3⟩:=Jp h H I (kw op).length o_;have:=CG g (kw op).length cap 0 16 v [a,b] (kw op) w o_ (by show 2<=2097152;decide) O U Ja 100 d_ J h2 (fS op a b) h3 (λn _ hs=>Mj h H I n hs) (λn hn hs=>Mk h n hs 100 hn) (λn _=>Mi h H I n);have e:fS op a b 100=eS op a b:=by rw[xJ h 100 (by have:=mC h;omega),uG _ (by have:=mC h;omega)];rfl
 rw[e]at this;exact this
end
end
theorem A9(a:Int)(h: -2147483648<=a/\a<=2147483647):wrap32 a=a:=by unfold wrap32;omega
theorem w32m(x:Int):wrap32 (x%4294967296)=wrap32 x:=by unfold wrap32;omega
theorem GT{x y:Int}(h:x%4294967296=y%4294967296):wrap32 x=wrap32 y:=by unfold wrap32;omega
theorem w32_emod(x:Int):wrap32 x%4294967296=x%4294967296:=by unfold wrap32;omega
theorem PC(b:Int):b%4294967296%32=wrap32 b%32:=by unfold wrap32;omega
theorem Oo(x y:Int)(h:x%4294967296=y%4294967296):BitVec.ofInt 32 x=BitVec.ofInt 32 y:=by apply BitVec.eq_of_toNat_eq;rw[BitVec.toNat_ofInt,BitVec.toNat_ofInt];rw[show((2 ^ 32:Nat):Int)=4294967296 by decide,h]
theorem qJ(op:BinOp)(a b:Int):wrap32 (bits op .u32 (a%4294967296) (b%4294967296))=bits op .i32 (wrap32 a) (wrap32 b):=by
 have h:BitVec.ofInt 32 (a%4294967296)=BitVec.ofInt 32 (wrap32 a):=Oo _ _ (by unfold wrap32;omega);have H:BitVec.ofInt 32 (b%4294967296)=BitVec.ofInt 32 (wrap32 b):=Oo _ _ (by unfold wrap32;omega);have I:∀n:Int,wrap32 (IntKind.u32.wrap n)=IntKind.i32.wrap n:=λn=>by rw[IntKind.wrap_u32,IntKind.wrap_i32];unfold wrap32;omega
 unfold bits;rw[I];show IntKind.i32.wrap ((match op with
  | .and=>BitVec.ofInt 32 (a%4294967296) &&& BitVec.ofInt 32 (b%4294967296)
  | .or=>BitVec.ofInt 32 (a%4294967296) ||| BitVec.ofInt 32 (b%4294967296)
  | .xor=>BitVec.ofInt 32 (a%4294967296) ^^^ BitVec.ofInt 32 (b%4294967296)
  | _=>BitVec.ofInt 32 (a%4294967296) &&& ~~~BitVec.ofInt 32 (b%4294967296)).toNat:Int)=_
 rw[h,H];rfl
theorem Op(p:Prop)[Decidable p]:bits .xor .u32 (if p then 1 else 0) 1=if p then 0 else 1:=by by_cases h:p;rw[if_pos h,if_pos h];decide;rw[if_neg h,if_neg h];decide
theorem ON(p:Prop)[Decidable p]:wrap32 (if p then 1 else 0)=if p then 1 else 0:=by by_cases h:p;rw[if_pos h];unfold wrap32;omega;rw[if_neg h];unfold wrap32;omega
theorem zY(a c:Int):wrap32 (a%4294967296*c%4294967296)=wrap32 (wrap32 a*c):=by apply GT;rw[Int.emod_emod_of_dvd _ (Int.dvd_refl _),Int.mul_emod (wrap32 a),w32_emod,Int.mul_emod (a%4294967296),Int.emod_emod_of_dvd _ (Int.dvd_refl _)]
theorem Oq{op:Int}(h:0<=op/\op<=15)(a b:Int):wrap32 (rE op a b)=cL op a b:=by
 have H:=w32m a;have I:=w32m b;have O:=PC b;rcases mA h with rfl|rfl|rfl|rfl|rfl|rfl|rfl|rfl|rfl|rfl|rfl|rfl|rfl|rfl|rfl|rfl;show wrap32 (a%4294967296*(b%4294967296)%4294967296)=wrap32 (wrap32 a*wrap32 b);rw[zY a,Int.mul_comm (wrap32 a),Int.mul_comm (wrap32 a),<-zY b (wrap32 a)];apply GT;rw[Int.emod_emod_of_dvd _ (Int.dvd_refl _)];show wrap32 (if wrap32 (b%4294967296)=0 then 4294967295 else wrap32 ((wrap32 (a%4294967296)).tdiv (wrap32 (b%4294967296)))%4294967296)=if wrap32 b=0 then -1 else wrap32 ((wrap32 a).tdiv (wrap32 b));rw[H,I];split
 unfold wrap32;omega;rw[w32m,Ey];have J:=Am 2 a b;have e:cL 2 a b=if wrap32 b=0 then wrap32 a else(wrap32 a).tmod (wrap32 b):=rfl;rw[e]at J;show wrap32 (if wrap32 (b%4294967296)=0 then wrap32 (a%4294967296)%4294967296 else(wrap32 (a%4294967296)).tmod (wrap32 (b%4294967296))%4294967296)=if wrap32 b=0 then wrap32 a else(wrap32 a).tmod (wrap32 b);rw[H,I];split
 rw[w32m,Ey];rename_i h0;rw[if_neg h0]at J;rw[w32m,A9 _ J];show wrap32 ((a%4294967296+b%4294967296)%4294967296)=wrap32 (wrap32 a+wrap32 b);unfold wrap32;omega;show wrap32 ((a%4294967296-b%4294967296)%4294967296)=wrap32 (wrap32 a-wrap32 b);unfold wrap32;omega;show wrap32 (a%4294967296*2 ^ (b%4294967296%32).toNat%4294967296)=wrap32 (wrap32 a*2 ^ (wrap32 b%32).toNat);rw[O];exact zY a _;have J:=Am 6 a b;have e:cL 6 a b=wrap32 a / 2 ^ (wrap32 b%32).toNat:=rfl;rw[e]at J;show wrap32 (wrap32 (a%4294967296) / 2 ^ (b%4294967296%32).toNat%4294967296)=wrap32 a / 2 ^ (wrap32 b%32).toNat;rw[O,H,w32m,A9 _ J];show wrap32 (if wrap32 (a%4294967296)<wrap32 (b%4294967296)then 1 else 0)=if wrap32 a<wrap32 b then 1 else 0;rw[H,I,ON]
 show wrap32 (bits .xor .u32 (if wrap32 (b%4294967296)<wrap32 (a%4294967296)then 1 else 0) 1)=if wrap32 a<=wrap32 b then 1 else 0;rw[H,I,Op];by_cases h:wrap32 b<wrap32 a
 rw[if_pos h,if_neg o_];unfold wrap32;omega;rw[if_neg h,if_pos o_];unfold wrap32;omega;show wrap32 (if wrap32 (b%4294967296)<wrap32 (a%4294967296)then 1 else 0)=if wrap32 b<wrap32 a then 1 else 0;rw[H,I,ON]
 show wrap32 (bits .xor .u32 (if wrap32 (a%4294967296)<wrap32 (b%4294967296)then 1 else 0) 1)=if wrap32 b<=wrap32 a then 1 else 0;rw[H,I,Op];by_cases h:wrap32 a<wrap32 b
 rw[if_pos h,if_neg o_];unfold wrap32;omega;rw[if_neg h,if_pos o_];unfold wrap32;omega;show wrap32 (if (a%4294967296-b%4294967296)%4294967296<1 then 1 else 0)=if wrap32 a=wrap32 b then 1 else 0;rw[ON];by_cases h:wrap32 a=wrap32 b
 rw[if_pos h,if_pos (by unfold wrap32 at h;omega)];rw[if_neg h,if_neg (by unfold wrap32 at h;omega)];show wrap32 (if 0<(a%4294967296-b%4294967296)%4294967296 then 1 else 0)=if wrap32 a≠wrap32 b then 1 else 0;rw[ON];by_cases h:wrap32 a=wrap32 b
 rw[if_neg (by unfold wrap32 at h;omega),if_neg (by simp[h])];rw[if_pos (by unfold wrap32 at h;omega),if_pos h];exact qJ .and a b;exact qJ .xor a b;exact qJ .or a b
