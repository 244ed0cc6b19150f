import Derived.Test.YtffnkkpmlplfeaaGreatDoorF20
import Derived.Test.YtffnkkpmlplfeaaGreatDoorF02
namespace Go.Proofs.YtffnkkpmlplfeaaGreatDoor
open Go.Value Go.World List
open Go.Proofs.Tryz Go.RowKit
set_option linter.all false
set_option maxRecDepth 100000
set_option maxHeartbeats 0
variable[Inhabited Pick]
section
variable{fs:List Fu}{s:GA}
def jG(fs:List Fu)(s:GA):Int:=match bO fs s with|some i=>(i:Int)|none=> -1
def ed{i:Nat}(h:bO fs s=some i):jG fs s=i:=by unfold jG;rw[h]
def gP(h:bO fs s=none):jG fs s= -1:=by unfold jG;rw[h]
def iW{a b:GA}(h:a≠b):(a.toList == b.toList)=false:=by
 rw[beq_eq_false_iff_ne];intro e;rw[ByteArray.toList_eq,ByteArray.toList_eq]at e;exact h (ByteArray.ext (Array.ext' e))
def fg(I:List Fu)(vg vf:BY)(s:GA)(w:AT)(hl:I.length<=1048576)(hf:bC w vf I):
  Calls prog 32 #[.agg #[vg,vf],sV s] w λe w'=>e=rW (V (jG I s))/\Bl w w':=by
 obtain⟨af,cf,rfl,-,-,Jc⟩:=hf;have Jd:=ah Jc;go_in;go_wp2;go_loopw[5] (λi wr=>∃k:Nat,k<=I.length/\i=V k/\(∀j (hj:j<I.length),j<k->I[j].name≠s)/\Below (w.heap.size+1) (w.alloc (.cells #[vg,.slice af I.length cf] 34)) wr) (λi _=>I.length-(RowKit.intOf i).toNat)
 case atStart=>exact⟨0,y_,rfl,λj hj h=>absurd h (Nat.not_lt_zero _),r_⟩
 case round=>
  obtain⟨k,hk,rfl,hn,Z⟩:=hrel;have U:=ah hn;have Y:=ay Z;obtain⟨x0,x1⟩:=iy Z;by_cases hlt:k<I.length
  ·obtain⟨b,Je,rfl,hc⟩:=Jd o_;obtain⟨vp,vb,⟨d0,d1,d2⟩,-,-⟩:=(hc.below Y) k hlt;by_cases hs:I[k].name=s
   ·have J:Hid (jG I s=k):=ed (A3 hlt (λj hj=>U j o_ hj) hs);rw[hs]at d0;go_wp2;go_ret;exact⟨bE J.o.symm,Y⟩
   ·have HS:Hid (∀j (hj:j<I.length),j<k+1->I[j].name≠s):=λj hj h=>by
     by_cases e:j=k
     ·subst e;exact hs
     ·exact U j hj o_
    have Jb:=iW hs;generalize I[k].name=fn at d0 hs Jb;go_wp2;go_roundw
    case rel=>exact⟨k+1,o_,by go_num,HS,Z⟩
    case measure=>exact FW
  ·have J:Hid (jG I s= -1):=gP (A4 (λj hj=>U j hj o_));go_wp2;go_ret;exact⟨bE J.o.symm,Y⟩
end
section
variable{b nn:Nat}{D:DataW Unit}{W:AT}{fs:List Fu}{s:GA}
def dJ{P:Program}{k:GC}{R:BY->Option (DataW Unit×List MemPlace)}{w w':AT}{n:Nat}(h:w.ownsMap P k R b n D)(hb:Bl w w'):w'.ownsMap P k R b n D:=by
 have U:=h.lt;obtain⟨J,I,Y,F,Z,hD⟩:=h;exact⟨J,I,(hb.block b U).trans Y,F,Z,hD⟩
def jH(Jb:W.ownsMap prog 9 (plainElem (H:=Unit) prog 2) b nn D)(Z:cR D fs)(hs:s.size<=maxLen){g:Nat}(h:bO fs s=some g):
  (Instr.lookup 77 (.map (some b)) (sV s) true).run prog W=.ok (.tuple #[V (g:Int),.bool true]) W:=by
 obtain⟨v,ps,Y,J⟩:=Jb.look_ok (Maps.string_keyed underlying9) underlying77 (zeroValue2 _) (plainElem_int underlying2 d_) (WideMaps.keyOf_string_mk underlying9 hs);rw[Z.val s g h]at J;obtain⟨c,rfl,I,_⟩:=plainElem_int_inv underlying2 J;simp only[Prod.mk.injEq,DataW.lit.injEq,Lit.int.injEq,true_and]at I;obtain⟨I,-⟩:=I;subst I;have U:=Z.has s;rw[h]at U;rw[U]at Y;exact Y
def kU(Jb:W.ownsMap prog 9 (plainElem (H:=Unit) prog 2) b nn D)(hN:cR D fs)(Z:s.size<=maxLen)(h:bO fs s=none):
  (Instr.lookup 77 (.map (some b)) (sV s) true).run prog W=.ok (.tuple #[V 0,.bool false]) W:=by
 obtain⟨v,ps,Y,U⟩:=Jb.look_ok (Maps.string_keyed underlying9) underlying77 (zeroValue2 _) (plainElem_int underlying2 d_) (WideMaps.keyOf_string_mk underlying9 Z);have J:=hN.has s;rw[h]at J;rw[Maps.atKey_of_not_has J]at U;obtain⟨c,rfl,I,_⟩:=plainElem_int_inv underlying2 U;simp only[Prod.mk.injEq,DataW.lit.injEq,Lit.int.injEq,true_and]at I;obtain⟨I,-⟩:=I;subst I;rw[J]at Y;exact Y
theorem j6(h:List Fu)(vg vf:BY)(w:AT)(hl:h.length<=1048576)(hw:uR h)(hf:bC w vf h):
  Calls prog 68 #[.agg #[vg,vf]] w λe w'=>∃b D,e=rW (.map (some b))/\w.heap.size<=b/\w'.ownsMap prog 9 (plainElem (H:=Unit) prog 2) b h.length D/\cR D h/\Bl w w':=by
 obtain⟨af,cf,rfl,-,-,Jh⟩:=hf;obtain⟨Jl,HW⟩:=h2 Jh hw;have Jm:= @run_makeMap prog;go_in;go_wp2;go_loopw[12] (λi wr=>∃(k:Nat) (D:DataW Unit),k<=h.length/\i=.int .i64 k/\wr.ownsMap prog 9 (plainElem (H:=Unit) prog 2) (w.heap.size+1) k D/\cR D (h.take k)/\Bl w wr) (λi _=>h.length-(RowKit.intOf i).toNat)
 case atStart=>exact⟨0,.map [],y_,rfl,by simpa using ownsMap_made (w.alloc _) prog 9 _,cR.nil,(au _ _).alloc i_ _⟩
 case round=>
  obtain⟨k,D,hk,rfl,hM,hN,J⟩:=hrel;have HM:Hid (wr.ownsMap prog 9 (plainElem (H:=Unit) prog 2) (w.heap.size+1) k D):=hM;have I:=ah hN;have Jj:=hM.lt;by_cases hlt:k<h.length
  ·obtain⟨b,Jn,rfl,hc⟩:=Jl o_;obtain⟨vp,vb,⟨d0,d1,d2⟩,⟨ap,cp,rfl,-⟩,⟨ab,cb,rfl,-⟩⟩:=(hc.below J) k hlt;generalize h[k].params.length=np at d1;generalize h[k].body.length=nb at d2;have HE:Hid (h.take (k+1)=h.take k++[h[k]]):=aR h k hlt;have Y:Hid (h[k].name.size<=maxLen):=by
    have:=(HW.o.2 h[k] (g_ hlt)).1
    show _<=_;unfold maxLen;omega
   have Ji:Hid ((h.take k).length=k):=by show _=_;simp;omega
   generalize h[k]=f at d0 d1 d2 HE Y;have U:Hid ((wr.alloc (.cells #[sV f.name,.slice ap np cp,.slice ab nb cb] 97)).ownsMap prog 9 (plainElem (H:=Unit) prog 2) (w.heap.size+1) k D):=HM.o.alloc _;cases hv:bO (h.take k) f.name with
   | none=>
    have Jc:=kU U I Y hv;have Z:Hid (Maps.has D (kS f.name)=false):=by show _=_;rw[I.o.has,hv];rfl
    go_wp2_with(first
     | (at_mapUpdate;refine wpList_mapUpdate_own _ rfl _ _ _ 77 rfl 9 2 (Maps.string_keyed underlying9) underlying77 _ (w.heap.size+1) k D rfl U (by unfold maxLen;omega) _ _ _ rfl rfl (WideMaps.keyOf_string_mk underlying9 Y) _ [] (plainElem_int underlying2 (WalkArith.wf_i64 o_)) ?_;intro w1 Jb Ja)
     | go_in)
    have Jk:=ah Jb;have Jg:Hid (cR (D.put (kS f.name) (.lit (.int .i64 (k:Int)))) (h.take (k+1))):=by
     have:=I.o.new Z.o
     rw[Ji.o]at this;rw[HE.o];exact this
    have Je:Bl w w1:=(J.alloc J.size _).grown Ja (by have:=J.size;simp;omega) (λj hj=>by cases hj;omega);go_wp2;go_roundw
    case rel=>exact⟨k+1,_,o_,by go_num,Jk,Jg,Je⟩
    case measure=>exact FW
   | some g=>
    have Jc:=jH U I Y hv;have Z:Hid (Maps.has D (kS f.name)=true):=by show _=_;rw[I.o.has,hv];rfl
    go_wp2;go_roundw
    case rel=>exact⟨k+1,D,o_,by go_num,U.o.mono o_,by rw[HE.o];exact I.o.old Z,J.alloc J.size _⟩
    case measure=>exact FW
  ·have Jf:k=h.length:=o_
   have HR:Hid (cR D h):=by have:=I.o;rw[take_of_length_le o_]at this;exact this
   go_wp2;go_ret;exact⟨_,D,rfl,o_,by rw[<-Jf];exact HM,HR,J⟩
end
section
variable{α:Type}{w:AT}
def lW(l:List α)(j:Nat)(h:j<l.length):l.drop j=l[j]::l.drop (j+1):=(getElem_cons_drop h).symm
def drop_take_2(l:List α)(i j:Nat):(l.take (i+j)).drop i=(l.drop i).take j:=by
 rw[drop_take];congr 1;omega
def qA(l:List α)(k i j:Nat):(l.take (k+i+j)).drop (k+i)=((l.drop k).take (i+j)).drop i:=by
 rw[drop_take_2,drop_take_2,drop_drop]
structure D8 (w:AT) (t:Tr) (vg vf:BY):Prop where
 g:cK w vg t.globals
 f:bC w vf t.funcs
def D8.below{w':AT}{t:Tr}{vg vf:BY}(h:D8 w t vg vf)(hb:Bl w w'):D8 w' t vg vf:=⟨h.g.below hb,h.f.below hb⟩
def pt(n:Nat):Prop:=∀(t:Tr) (vg vf vb vs vt:BY) (ss:List St) (a:Int) (sc tk:List GA) (w:AT),ss.length<=n->D8 w t vg vf->aW w vb ss->cM ss=true->(∀s∈ss,fP s)->a_ w vs sc->a_ w vt tk->t.globals.length<=1048576->t.funcs.length<=1048576 ->
 sc.length+ss.length<=800000->tk.length+ss.length<=800000->0<=a->a+ss.length<=800000 ->
 Calls prog 91 #[.agg #[vg,vf],vb,V a,vs,vt] w λe w'=>∃vt',e=rW (.tuple #[V (aQ t ss a sc tk).1,V (aQ t ss a sc tk).2.1,vt'])/\a_ w' vt' (aQ t ss a sc tk).2.2/\Bl w w'
def a_.shape{v:BY}{us:List GA}(h:a_ w v us):∃a c,v=.slice a us.length c:=by
 obtain⟨a,c,rfl,-⟩:=h;exact⟨a,c,rfl⟩
end
def fw(I:List GA)(v:BY)(s:GA)(w:AT)(hl:I.length<=10000000)(hx:a_ w v I):
  Calls prog 89 #[v,sV s] w λe w'=>e=rW (.bool (du I s))/\Bl w w':=by
 obtain⟨a,c,rfl,-,-,J⟩:=hx;have HC:=ah J;clear J;go_in;go_wp2;go_loopw[5] (λi wr=>∃k:Nat,k<=I.length/\i=V k/\(∀j (hj:j<I.length),j<k->I[j]≠s)/\Bl w wr) (λi _=>I.length-(RowKit.intOf i).toNat)
 case atStart=>exact⟨0,y_,rfl,λj hj h=>absurd h (Nat.not_lt_zero _),r_⟩
 case round=>
  obtain⟨k,hk,rfl,hn,U⟩:=hrel;have HN:=ah hn;by_cases hlt:k<I.length
  ·obtain⟨b,Jb,rfl,J⟩:=HC o_;have Z:=(J.below U) k hlt;by_cases hs:I[k]=s
   ·have Y:Hid (du I s=true):=rP hlt hs;rw[hs]at Z;clear J hs;go_wp2;go_ret;exact⟨aj Y.o.symm,U⟩
   ·have HS:Hid (∀j (hj:j<I.length),j<k+1->I[j]≠s):=λj hj h=>by
     by_cases e:j=k
     ·subst e;exact hs
     ·exact HN j hj o_
    have Ja:=iW hs;generalize I[k]=fn at Z hs Ja;go_wp2;go_roundw
    case rel=>exact⟨k+1,o_,by go_num,HS,U⟩
    case measure=>exact FW
  ·have Y:Hid (du I s=false):=oO (λj hj=>HN j hj o_);go_wp2;go_ret;exact⟨aj Y.o.symm,U⟩
def gQ(gs:List Gl)(vg vf:BY)(s:GA)(w:AT)(hl:gs.length<=1048576)(hg:cK w vg gs):
  Calls prog 90 #[.agg #[vg,vf],sV s] w λe w'=>e=rW (V (globI gs s))/\Bl w w':=by
 obtain⟨ag,cg,rfl,-,-,Jc⟩:=hg;have Jd:=ah Jc;go_in;go_wp2;go_loopw[5] (λi wr=>∃k:Nat,k<=gs.length/\i=V k/\(∀j (hj:j<gs.length),j<k->gs[j].name≠s)/\Below (w.heap.size+1) (w.alloc (.cells #[.slice ag gs.length cg,vf] 34)) wr) (λi _=>gs.length-(RowKit.intOf i).toNat)
 case atStart=>exact⟨0,y_,rfl,λj hj h=>absurd h (Nat.not_lt_zero _),r_⟩
 case round=>
  obtain⟨k,hk,rfl,hn,Y⟩:=hrel;have J:=ah hn;have U:=ay Y;obtain⟨x0,x1⟩:=iy Y;by_cases hlt:k<gs.length
  ·obtain⟨b,Je,rfl,hc⟩:=Jd o_;obtain⟨Z,d1⟩:=(hc.below U) k hlt;by_cases hs:gs[k].name=s
   ·have I:Hid (globI gs s=gs[k].size):=xS hlt (λj hj=>J j o_ hj) hs;rw[hs]at Z;generalize gs[k].size=z at d1 I;go_wp2;go_ret;exact⟨bE I.o.symm,U⟩
   ·have HS:Hid (∀j (hj:j<gs.length),j<k+1->gs[j].name≠s):=λj hj h=>by
     by_cases e:j=k
     ·subst e;exact hs
     ·exact J j hj o_
    have Jb:=iW hs;generalize gs[k].name=fn at Z hs Jb;go_wp2;go_roundw
    case rel=>exact⟨k+1,o_,by go_num,HS,Y⟩
    case measure=>exact FW
  ·have I:Hid (globI gs s= -1):=xT (λj hj=>J j hj o_);go_wp2;go_ret;exact⟨bE I.o.symm,U⟩
def uk{gs:List Gl}{I:List GA}{s:GA}{J:Bool}{z:Int}(h:(if du I s then 0 else globI gs s)=z):dR gs I s J=if z<0 then 4 else if decide (z>0)=J then 0 else 5:=by
 unfold dR;rw[h]
def nQ(gs:List Gl)(I:List GA)(vg vf vs:BY)(s:GA)(h:Bool)(w:AT)(hl:gs.length<=1048576)(Ji:I.length<=10000000)(hf:∃a n c,vf=.slice a n c)(hg:cK w vg gs)(hs:a_ w vs I):
  Calls prog 129 #[.agg #[vg,vf],vs,sV s,.bool h] w λe w'=>e=rW (V (dR gs I s h))/\Bl w w':=by
 obtain⟨HG,HS⟩:=h2 hg hs;obtain⟨af,nf,cf,rfl⟩:=hf;obtain⟨ag,cg,rfl,-,-,-⟩:=hg;obtain⟨az,cz,rfl,-,-,-⟩:=hs;go_in;go_wp2_with fail;have hA:Bl w (w.alloc (.cells #[.slice ag gs.length cg,.slice af nf cf] 34)):=au _ _;refine(fw I _ s _ Ji (HS.o.below hA)).mono ?_;rintro e w1 ⟨rfl,Jg⟩;simp only[Bl,GO]at Jg;have Y:=ay Jg;obtain⟨x0,x1⟩:=iy Jg;by_cases hin:du I s=true
 ·have U:Hid (dR gs I s h=if h=false then 0 else 5):=by
   show _=_;rw[uk (show(if du I s=true then(0:Int)else globI gs s)=0 by rw[if_pos hin])];cases h <;> rfl
  rw[hin];cases h
  ·go_wp2;go_ret;exact⟨bE U.o.symm,Y⟩
  ·go_wp2;go_ret;exact⟨bE U.o.symm,Y⟩
 ·have Jf:du I s=false:=Fc hin
  have U:Hid (dR gs I s h=if globI gs s<0 then 4 else if decide (globI gs s>0)=h then 0 else 5):=uk (by rw[if_neg hin]);rw[Jf];go_wp2_with fail;refine(gQ gs _ _ s _ hl (HG.o.below Y)).mono ?_;rintro e w2 ⟨rfl,Jh⟩;have Z:=Y.trans (Jh.mono Y.size);generalize globI gs s=z at U⊢;by_cases h0:z<0
  ·have J:Hid (dR gs I s h=4):=by show _=_;rw[U.o,if_pos h0]
   go_wp2;go_ret;exact⟨bE J.o.symm,Z⟩
  ·by_cases h1:z>0
   ·have J:Hid (dR gs I s h=if h=true then 0 else 5):=by show _=_;rw[U.o,if_neg h0,decide_eq_true h1];cases h <;> rfl
    cases h
    ·go_wp2;go_ret;exact⟨bE J.o.symm,Z⟩
    ·go_wp2;go_ret;exact⟨bE J.o.symm,Z⟩
   ·obtain rfl:z=0:=by omega
    have J:Hid (dR gs I s h=if h=false then 0 else 5):=by show _=_;rw[U.o];cases h <;> rfl
    cases h
    ·go_wp2;go_ret;exact⟨bE J.o.symm,Z⟩
    ·go_wp2;go_ret;exact⟨bE J.o.symm,Z⟩
def lX{w J:AT}{U Y:BY}(h:J=(w.alloc (.cells #[U,Y] 34)).alloc (.cells #[V 0,V 0,V 0] 52)):
  ∀W,Below (w.heap.size+2) J W->(W.cell? ⟨w.heap.size,0,none⟩=some U/\W.cell? ⟨w.heap.size,1,none⟩=some Y)/\(W.cell? ⟨w.heap.size+1,0,none⟩=some (V 0)/\W.cell? ⟨w.heap.size+1,1,none⟩=some (V 0)/\W.cell? ⟨w.heap.size+1,2,none⟩=some (V 0))/\(∀o,W.frozen? ⟨w.heap.size+1,o,none⟩=false)/\Bl w W/\w.heap.size+2<=W.heap.size:=by
 intro W I;have Z:Bl w J:=by rw[h];exact(au _ _).alloc i_ _
 have hs:J.heap.size=w.heap.size+2:=by rw[h];simp
 have c:∀o,W.cell? ⟨w.heap.size+1,o,none⟩=(#[V 0,V 0,V 0]:Array BY)[o]? := λo=>(I.cell (p:=⟨w.heap.size+1,o,none⟩) i_).trans (by rw[h];exact cell?_alloc_at _ _ _ _ i_);have d:∀o,W.cell? ⟨w.heap.size,o,none⟩=(#[U,Y]:Array BY)[o]? := λo=>(I.cell (p:=⟨w.heap.size,o,none⟩) i_).trans (by rw[h,cell?_alloc_lt _ _ ⟨w.heap.size,o,none⟩ i_];exact cell?_alloc_at _ _ _ _ rfl);refine⟨⟨d 0,d 1⟩,⟨c 0,c 1,c 2⟩,λo=>?_,Z.trans (I.mono o_),Ft I.size⟩;refine(I.frozen (p:=⟨w.heap.size+1,o,none⟩) i_).trans ?_;rw[h];exact frozen?_alloc_at _ _ _ _ i_
theorem qB(t:Tr)(vg vf:BY)(w:AT)(Xt:t.globals.length<=1000)(Xs:t.funcs.length<=1000)(hg:cK w vg t.globals)(hf:bC w vf t.funcs):
  Calls prog 55 #[.agg #[vg,vf]] w λe w'=>e=rW (xY (bP t))/\Bl w w':=by
 obtain⟨Jj,Jo⟩:=q_ (bP t);rw[<-Jo];have Jf:=ah Jo;have HF:Hid (bC w vf t.funcs):=hf;obtain⟨ag,cg,rfl,-,-,Xm⟩:=hg;obtain⟨af,cf,rfl,-,-,Xk⟩:=hf;obtain⟨Xn,Xh⟩:=h2 Xm Xk;obtain⟨i0,hi,Xc,Xg,Xf⟩:=info_parts gy;obtain⟨W1,Jw⟩:=q_ ((w.alloc (.cells #[.slice ag t.globals.length cg,.slice af t.funcs.length cf] 34)).alloc (.cells #[V 0,V 0,V 0] 52));have Jm:=ah (lX Jw);have Xq:W1.heap.size=w.heap.size+2:=by rw[Jw];simp
 have Xj:Hid (dI (w.heap.size+2) (W1.alloc (.cells #[] 9)) (.slice (some ⟨w.heap.size+1+1,0,none⟩) 0 0) []):=by
  have:=jF W1 (w.heap.size+2) o_
  rw[Xq]at this;exact this
 have Xp:Hid (Below (w.heap.size+2) W1 (W1.alloc (.cells #[] 9))):=r_.alloc o_ _;go_in;go_wp2_with fail;rw[<-Jw];go_loopw[3,4] (λsv i wr=>∃(k:Nat),k<=t.globals.length/\i=V k/\dI (w.heap.size+2) wr sv ((t.globals.take k).map (·.name))/\fd [] t.globals=fd ((t.globals.take k).map (·.name)) (t.globals.drop k)/\Below (w.heap.size+2) W1 wr) (λ_ i _=>t.globals.length-(RowKit.intOf i).toNat)
 case atStart=>exact⟨0,y_,rfl,Fc Xj.o,i_,Xp.o⟩
 case round=>
  obtain⟨k,hk,rfl,hR,hd,hB⟩:=hrel;obtain⟨a3,c3,rfl⟩:=hR.shape;obtain⟨U,HD⟩:=h2 hR hd;obtain⟨⟨x0,x1⟩,⟨Z,r1,r2⟩,h,J,Jq⟩:=Jm wr hB;have z0:=h 0;have z1:=h 1;have z2:=h 2;have I:((t.globals.take k).map (·.name)).length=k:=by simp;omega
  rw[I]at U⊢;by_cases hlt:k<t.globals.length
  ·obtain⟨b,Js,rfl,hc⟩:=Xn o_;obtain⟨c0,-⟩:=(hc.below J) k hlt;have Xa:b<wr.heap.size:=b_ c0;have Y:Hid (fd [] t.globals=fd ((t.globals.take k).map (·.name)) (t.globals[k]::t.globals.drop (k+1))):=by show _=_;rw[HD.o,dC _ _ hlt]
   obtain⟨Jl,Jp⟩:=h2 (aR _ _ hlt) (U.o.strs (by rw[I];omega));generalize t.globals[k]=p at c0 Y Jl;generalize hsn:(t.globals.take k).map (·.name)=seen at U Y Jp I;obtain⟨Jt,Jy⟩:=h2 hsn (fw _ _ p.name wr (by rw[I];omega) Jp);go_wp2_with fail;refine Jy.o.mono ?_;rintro e w2 ⟨rfl,Jd⟩;have Jh:Below (w.heap.size+2) W1 w2:=hB.trans (Jd.mono Jq);have d0:=(Jd.cell (p:=⟨b,Js+k*2,none⟩) Xa).trans c0;have Jn:Hid (dI (w.heap.size+2) w2 (.slice a3 k c3) seen):=U.o.below Jd;obtain⟨⟨x0,x1⟩,⟨Z,r1,r2⟩,h,J,Je⟩:=Jm w2 Jh;have z0:=h 0;have z1:=h 1;have z2:=h 2;cases hx:du seen p.name with
   | true=>
    have HE:Hid (Jj=(2,-1,-1)):=by
     show _=_;rw[Jf.o];unfold bP;rw[if_pos (by rw[Y.o];exact qb hx)]
    go_wp2_with fail;obtain⟨t0,t1,t2⟩:=set3 (u0:=V 2) (u1:=V (-1)) (u2:=V (-1)) Z r1 r2;refine bodyPost_ret (v:=.agg #[V 2,V (-1),V (-1)]) (by simp[results,results55,go_sem,t0,t1,t2]) rfl ⟨aG (by rw[HE.o];rfl),?_⟩;exact F3 J
   | false=>
    have Jv:Hid (fd [] t.globals=fd ((t.globals.take (k+1)).map (·.name)) (t.globals.drop (k+1))):=by show _=_;rw[Y.o,mY hx,Jl.o,<-Jt.o];simp
    have Jr:Hid (seen++[p.name]=(t.globals.take (k+1)).map (·.name)):=by show _=_;rw[Jl.o,<-Jt.o];simp
    go_wp2_with(at_builtin;refine cD rfl _ _ _ rfl (w.heap.size+2) 9 i0 _ 1 16 underlying94 hi Xc Xg Xf rfl d_ _ k (seen.map Value.string) rfl (by have:=Jn.o.below (r_.alloc n_ (.cells #[sV p.name] 9));unfold dI at this;rw[I]at this;exact this) ⟨w2.heap.size,0,none⟩ 1 1 [sV p.name] rfl rfl (cell_one_new _ _ _) (by simp[oneCell']) o_ d_ ZFs ?_);intro v9 w9 Jx Jz Xi;have Jg:Hid (dI (w.heap.size+2) w9 v9 ((t.globals.take (k+1)).map (·.name))):=by
     show ownsRow _ _ _ _ _ _ _;rw[<-Jr.o,l_a,I,map_append];exact Jx
    have J_:Below (w.heap.size+2) W1 w9:=(Jh.alloc Je _).grown Jz ZFs (λg hg=>(ownsRow.lt Jn g hg).1);obtain⟨a9,c9,rfl⟩:=Jg.o.shape;have Jk:((t.globals.take (k+1)).map (·.name)).length=k+1:=by simp;omega
    rw[Jk]at Jg⊢;go_wp2;go_roundw
    case rel=>exact⟨k+1,o_,by go_num,Jg,Jv,J_⟩
    case measure=>exact FW
  ·have Ju:k=t.globals.length:=o_
   subst Ju;have Xb:Hid (fd [] t.globals=false):=by show _=_;rw[HD.o];simp[fd]
   have Xl:Hid (dI (w.heap.size+2) wr (.slice a3 t.globals.length c3) (t.globals.map (·.name))):=by
    have:=U.o
    rw[take_length]at this;exact this
   go_wp2;go_loopw[3,5] (λsv i w2=>∃(k:Nat),k<=t.funcs.length/\i=V k/\dI (w.heap.size+2) w2 sv (t.globals.map (·.name)++(t.funcs.take k).map (·.name))/\fG (t.globals.map (·.name)) 0 t.funcs=fG (t.globals.map (·.name)++(t.funcs.take k).map (·.name)) k (t.funcs.drop k)/\Below (w.heap.size+2) W1 w2) (λ_ i _=>t.funcs.length-(RowKit.intOf i).toNat)
   case atStart=>exact⟨0,y_,rfl,Fc Xl.o,i_,hB⟩
   case round=>
    obtain⟨k,hk,rfl,hR,hd,hB⟩:=hrel;obtain⟨a3,c3,rfl⟩:=hR.shape;obtain⟨U,HD⟩:=h2 hR hd;obtain⟨⟨x0,x1⟩,⟨Z,r1,r2⟩,h,J,Jq⟩:=Jm wr hB;have z0:=h 0;have z1:=h 1;have z2:=h 2;have I:(t.globals.map (·.name)++(t.funcs.take k).map (·.name)).length=t.globals.length+k:=by simp;omega
    rw[I]at U⊢;by_cases hlt:k<t.funcs.length
    ·obtain⟨b,Js,rfl,hc⟩:=Xh o_;obtain⟨vp,vb,⟨c0,-⟩,-⟩:=(hc.below J) k hlt;have Xa:b<wr.heap.size:=b_ c0;have Y:Hid (fG (t.globals.map (·.name)) 0 t.funcs=fG (t.globals.map (·.name)++(t.funcs.take k).map (·.name)) k (t.funcs[k]::t.funcs.drop (k+1))):=by show _=_;rw[HD.o,dC _ _ hlt]
     obtain⟨Jl,Jp⟩:=h2 (aR _ _ hlt) (U.o.strs (by rw[I];omega));generalize t.funcs[k]=p at c0 Y Jl;generalize hsn:t.globals.map (·.name)++(t.funcs.take k).map (·.name)=seen at U Y Jp I;obtain⟨Jt,Jy⟩:=h2 hsn (fw _ _ p.name wr (by rw[I];omega) Jp);go_wp2_with fail;refine Jy.o.mono ?_;rintro e w2 ⟨rfl,Jd⟩;have Jh:Below (w.heap.size+2) W1 w2:=hB.trans (Jd.mono Jq);have d0:=(Jd.cell (p:=⟨b,Js+k*3,none⟩) Xa).trans c0;have Jn:=ah (U.o.below Jd);obtain⟨⟨x0,x1⟩,⟨Z,r1,r2⟩,h,J,Je⟩:=Jm w2 Jh;have z0:=h 0;have z1:=h 1;have z2:=h 2;cases hx:du seen p.name with
     | true=>
      have HE:Hid (Jj=(2,(k:Int),-1)):=by
       show _=_;rw[Jf.o];unfold bP;rw[if_neg (by rw[Xb.o];simp),Y.o,qc hx]
      go_wp2_with fail;obtain⟨t0,t1,t2⟩:=set3 (u0:=V 2) (u1:=V (k:Int)) (u2:=V (-1)) Z r1 r2;refine bodyPost_ret (v:=.agg #[V 2,V (k:Int),V (-1)]) (by simp[results,results55,go_sem,t0,t1,t2]) rfl ⟨aG (by rw[HE.o];rfl),?_⟩;exact F3 J
     | false=>
      have Jr:Hid (seen++[p.name]=t.globals.map (·.name)++(t.funcs.take (k+1)).map (·.name)):=by show _=_;rw[Jl.o,<-Jt.o];simp
      have Jv:Hid (fG (t.globals.map (·.name)) 0 t.funcs=fG (t.globals.map (·.name)++(t.funcs.take (k+1)).map (·.name)) ((k+1:Nat):Int) (t.funcs.drop (k+1))):=by show _=_;rw[Y.o,mZ hx,Jr.o];simp
      go_wp2_with(at_builtin;refine cD rfl _ _ _ rfl (w.heap.size+2) 9 i0 _ 1 16 underlying94 hi Xc Xg Xf rfl d_ _ (t.globals.length+k) (seen.map Value.string) rfl (by have:=Jn.o.below (r_.alloc n_ (.cells #[sV p.name] 9));unfold dI at this;rw[I]at this;exact this) ⟨w2.heap.size,0,none⟩ 1 1 [sV p.name] rfl rfl (cell_one_new _ _ _) (by simp[oneCell']) o_ d_ ZFs ?_);intro v9 w9 Jx Jz Xi;have Jg:Hid (dI (w.heap.size+2) w9 v9 (t.globals.map (·.name)++(t.funcs.take (k+1)).map (·.name))):=by
       show ownsRow _ _ _ _ _ _ _;rw[<-Jr.o,l_a,I,map_append];exact Jx
      have J_:Below (w.heap.size+2) W1 w9:=(Jh.alloc Je _).grown Jz ZFs (λg hg=>(ownsRow.lt Jn g hg).1);obtain⟨a9,c9,rfl⟩:=Jg.o.shape;have Jk:(t.globals.map (·.name)++(t.funcs.take (k+1)).map (·.name)).length=t.globals.length+k+1:=by simp;omega
      rw[Jk]at Jg⊢;go_wp2;go_roundw
      case rel=>exact⟨k+1,o_,by go_num,Jg,Jv,J_⟩
      case measure=>exact FW
    ·have Xo:Hid (fG (t.globals.map (·.name)) 0 t.funcs=none):=by
      show _=_;have Ju:k=t.funcs.length:=o_;rw[HD.o,Ju,drop_length];rfl
     have Xe:Hid (Jj=match bO t.funcs di with|none=>(3,-1,-1)|some m=>if (t.funcs.getD m ⟨⟨#[]⟩,[],[]⟩).params.length>0 then(3,-1,-1)else(0,-1,-1)):=by
      show _=_;rw[Jf.o];unfold bP;rw[if_neg (by rw[Xb.o];simp),Xo.o];rfl
     have Xr:Hid (Calls prog 32 #[.agg #[.slice ag t.globals.length cg,.slice af t.funcs.length cf],sV ⟨#[109,97,105,110]⟩] wr λe w'=>e=rW (V (jG t.funcs di))/\Bl wr w'):=fg t.funcs _ _ di wr o_ (HF.o.below J);go_wp2_with fail;refine Xr.o.mono ?_;rintro e w2 ⟨rfl,Jd⟩;have Jh:Below (w.heap.size+2) W1 w2:=hB.trans (Jd.mono Jq);obtain⟨⟨x0,x1⟩,⟨Z,r1,r2⟩,h,J,Je⟩:=Jm w2 Jh;have z0:=h 0;have z1:=h 1;have z2:=h 2;cases hm:bO t.funcs di with
     | none=>
      have HE:Hid (Jj=(3,-1,-1)):=by show _=_;rw[Xe.o,hm]
      rw[gP hm];go_wp2_with fail;obtain⟨t0,t1,t2⟩:=set3 (u0:=V 3) (u1:=V (-1)) (u2:=V (-1)) Z r1 r2;refine bodyPost_ret (v:=.agg #[V 3,V (-1),V (-1)]) (by simp[results,results55,go_sem,t0,t1,t2]) rfl ⟨aG (by rw[HE.o];rfl),?_⟩;exact F3 J
     | some m=>
      have Xd:=de hm;obtain⟨b,Js,rfl,hc⟩:=Xh o_;obtain⟨vp,vb,⟨-,c1,-⟩,⟨ap,cp,rfl,-⟩,-⟩:=(hc.below J) m Xd;have he:t.funcs.getD m ⟨⟨#[]⟩,[],[]⟩=t.funcs[m]:=by simp[List.getD,Xd]
      rw[ed hm];have Ji:Hid (Jj=if t.funcs[m].params.length>0 then(3,-1,-1)else(0,-1,-1)):=by show _=_;rw[Xe.o,hm];simp only;rw[he]
      generalize t.funcs[m].params.length=np at c1 Ji;by_cases hnp:0<np
      ·have HE:Hid (Jj=(3,-1,-1)):=by show _=_;rw[Ji.o,if_pos hnp]
       go_wp2_with fail;obtain⟨t0,t1,t2⟩:=set3 (u0:=V 3) (u1:=V (-1)) (u2:=V (-1)) Z r1 r2;refine bodyPost_ret (v:=.agg #[V 3,V (-1),V (-1)]) (by simp[results,results55,go_sem,t0,t1,t2]) rfl ⟨aG (by rw[HE.o];rfl),?_⟩;exact F3 J
      ·have HE:Hid (Jj=(0,-1,-1)):=by show _=_;rw[Ji.o,if_neg hnp]
       obtain rfl:np=0:=by omega
       go_wp2_with fail;obtain⟨t0,t1,t2⟩:=set3 (u0:=V 0) (u1:=V (-1)) (u2:=V (-1)) Z r1 r2;refine bodyPost_ret (v:=.agg #[V 0,V (-1),V (-1)]) (by simp[results,results55,go_sem,t0,t1,t2]) rfl ⟨aG (by rw[HE.o];rfl),?_⟩;exact F3 J
section
variable{t:Tr}{scope:List GA}{vl:Int}{nm:GA}
def Cq{w w':AT}{t:GC}{a b c:BY}(h:Below (w.heap.size+1) (w.alloc (.cells #[a,b,c] t)) w'):
  w'.cell? ⟨w.heap.size,0,none⟩=some a/\w'.cell? ⟨w.heap.size,1,none⟩=some b/\w'.cell? ⟨w.heap.size,2,none⟩=some c:=by
 refine⟨?_,?_,?_⟩ <;> (rw[h.cell i_];simp)
def lY{i:Nat}(h:bO t.funcs nm=some i)(I:i<t.funcs.length):aS t scope ⟨4,vl,nm⟩=if ((t.funcs[i].params.length:Nat):Int)=vl then 0 else 6:=by
 unfold aS;simp only;rw[if_neg o_,if_pos trivial,h];simp[List.getD,I]
def jI(h:bO t.funcs nm=none):aS t scope ⟨4,vl,nm⟩=4:=by
 unfold aS;simp only;rw[if_neg o_,if_pos trivial,h]
theorem lZ(t:Tr)(I:List GA)(U:List Nd)(vg vf vs ve:BY)(w:AT)(Jl:t.globals.length<=1048576)(Jk:t.funcs.length<=1048576)(Jj:I.length<=10000000)(Jp:U.length<=1048576)
  (hg:cK w vg t.globals) (hf:bC w vf t.funcs) (hs:a_ w vs I) (hn:aw w ve U):
  Calls prog 128 #[.agg #[vg,vf],vs,ve] w λe w'=>e=rW (V (bQ t I U))/\Bl w w':=by
 obtain⟨HG,HF,HS⟩:=h3 hg hf hs;obtain⟨ag,cg,rfl,-,-,-⟩:=hg;obtain⟨af,cf,rfl,-,-,Jf⟩:=hf;obtain⟨az,cz,rfl,-,-,-⟩:=hs;obtain⟨an,cn,rfl,-,-,Jg⟩:=hn;obtain⟨Ji,Jh⟩:=h2 Jf Jg;clear Jf Jg;obtain⟨ng,Jn⟩:=q_ t.globals.length;go_in;go_wp2;go_loopw[7] (λi wr=>∃k:Nat,k<=U.length/\i=V k/\(∀j (hj:j<U.length),j<k->aS t I U[j]=0)/\Below (w.heap.size+1) (w.alloc (.cells #[.slice ag t.globals.length cg,.slice af t.funcs.length cf] 34)) wr) (λi _=>U.length-(RowKit.intOf i).toNat)
 case atStart=>exact⟨0,y_,rfl,λj hj h=>absurd h (Nat.not_lt_zero _),r_⟩
 case round=>
  obtain⟨k,hk,rfl,hz,hB⟩:=hrel;have HN:=ah hz;clear hz;have Je:=ay hB;obtain⟨x0,x1⟩:=iy hB;have Jm:w.heap.size<wr.heap.size:=by have:=hB.size;simp at this;omega
  by_cases hlt:k<U.length
  ·obtain⟨b,Jo,rfl,hc⟩:=Jh o_;obtain⟨d0,d1,d2⟩:=(hc.below Je) k hlt;have HZ:=ah λ(h:aS t I U[k]≠0)=>xU hlt (λj hj=>HN j o_ hj) h;have HX:Hid (aS t I U[k]=0->∀j (hj:j<U.length),j<k+1->aS t I U[j]=0):=λh j hj hjk=>by
    by_cases e:j=k
    ·subst e;exact h
    ·exact HN j hj o_
   generalize U[k]=n at d0 d1 d2 HZ HX;obtain⟨Y,vl,nm⟩:=n;simp only at d0 d1 d2;have hA:Bl w (wr.alloc (.cells #[V Y,V vl,sV nm] 134)):=Je.trans ((au _ _).mono Je.size);by_cases hk23:Y=2∨Y=3
   ·have J:Hid (aS t I ⟨Y,vl,nm⟩=dR t.globals I nm (decide (Y=3))):=by
     show _=_;unfold aS;simp only;rw[if_pos hk23]
    rcases hk23 with rfl|rfl;all_goals
     go_wp2_with fail;refine(nQ t.globals I _ _ _ nm _ _ Jl Jj ⟨_,_,_,rfl⟩ (HG.o.below hA) (HS.o.below hA)).mono ?_;rintro e w2 ⟨rfl,Jd⟩;simp only[Bl,GO]at Jd;obtain⟨y0,y1,y2⟩:=Cq Jd;have Jc:Below (w.heap.size+1) (w.alloc (.cells #[.slice ag t.globals.length cg,.slice af t.funcs.length cf] 34)) w2:=hB.trans ((ay Jd).mono o_);clear d0 d1 d2 x0 x1 hA;first
      | (have Z:Hid (aS t I ⟨2,vl,nm⟩=dR t.globals I nm false):=J;clear J;generalize dR t.globals I nm false=z at Z⊢)
      | (have Z:Hid (aS t I ⟨3,vl,nm⟩=dR t.globals I nm true):=J;clear J;generalize dR t.globals I nm true=z at Z⊢)
     by_cases hz:z=0
     ·subst hz;go_wp2;go_roundw
      case rel=>exact⟨k+1,o_,by go_num,HX Z,Jc⟩
      case measure=>exact FW
     ·go_wp2;go_ret;exact⟨bE (by rw[HZ.o (by rw[Z.o];exact hz),Z]),ay Jc⟩
   ·by_cases hk4:Y=4
    ·subst hk4;go_wp2_with fail;refine(fg t.funcs _ _ nm _ Jk (HF.o.below hA)).mono ?_;rintro e w2 ⟨rfl,Jd⟩;simp only[Bl,GO]at Jd;obtain⟨y0,y1,y2⟩:=Cq Jd;have Jc:Below (w.heap.size+1) (w.alloc (.cells #[.slice ag t.globals.length cg,.slice af t.funcs.length cf] 34)) w2:=hB.trans ((ay Jd).mono o_);clear d0 d1 d2 x0 x1 hA;obtain⟨x0,x1⟩:=iy Jc;cases hfn:bO t.funcs nm with
     | none=>
      have J:Hid (aS t I ⟨4,vl,nm⟩=4):=jI hfn;rw[gP hfn];go_wp2;go_ret;exact⟨bE (by rw[HZ.o (by rw[J.o];omega),J]),ay Jc⟩
     | some i=>
      have hi:=de hfn;have J:Hid (aS t I ⟨4,vl,nm⟩=if ((t.funcs[i].params.length:Nat):Int)=vl then 0 else 6):=lY hfn hi;rw[ed hfn];clear hfn;obtain⟨bf,of,rfl,Jf⟩:=Ji o_;obtain⟨vp,vb,⟨f0,f1,f2⟩,⟨ap,cp,rfl,-⟩,-⟩:=(Jf.below (ay Jc)) i hi;generalize t.funcs[i].params.length=np at J f1;by_cases hv:(np:Int)=vl
      ·have Z:Hid (aS t I ⟨4,vl,nm⟩=0):=by show _=_;rw[J.o,if_pos hv]
       clear J;subst hv;go_wp2_with fail;go_region;go_wp2;go_roundw
       case rel=>exact⟨k+1,o_,by go_num,HX Z,Jc.drew⟩
       case measure=>exact FW
      ·have Z:Hid (aS t I ⟨4,vl,nm⟩=6):=by show _=_;rw[J.o,if_neg hv]
       go_wp2_with fail;go_region;go_wp2;go_ret;exact⟨bE (by rw[HZ.o (by rw[Z.o];omega),Z]),ay Jc.drew⟩
    ·have J:Hid (aS t I ⟨Y,vl,nm⟩=0):=by
      show _=_;unfold aS;simp only;rw[if_neg hk23,if_neg hk4]
     have h2:¬Y=2:=λh=>hk23 (.inl h);have h3:¬Y=3:=λh=>hk23 (.inr h);have b2:(Y == 2)=false:=Fc h2
     have b3:(Y == 3)=false:=Fc h3
     have b4:(Y == 4)=false:=Fc hk4
     clear hk23;go_wp2;go_roundw
     case rel=>exact⟨k+1,o_,by go_num,HX J,hB.trans ((au _ _).mono o_)⟩
     case measure=>exact FW
  ·have HR:Hid (bQ t I U=0):=rQ (λj hj=>HN j hj o_);go_wp2;go_ret;exact⟨bE HR.o.symm,Je⟩
end
end Go.Proofs.YtffnkkpmlplfeaaGreatDoor
