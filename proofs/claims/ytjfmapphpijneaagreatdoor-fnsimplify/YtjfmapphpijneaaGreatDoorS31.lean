import Derived.Test.YtjfmapphpijneaaGreatDoorS27
import Derived.Test.YtjfmapphpijneaaGreatDoorS02
namespace Go.Proofs.YtjfmapphpijneaaGreatDoor
set_option linter.all false
set_option maxRecDepth 100000
set_option maxHeartbeats 0
open Go.World List Go.Proofs.Tryz Go.RowKit
variable[Inhabited Pick]
section
variable{w:AT}{v:BY}{us:List Io}{B:Nat}
def iJ:(prog.info? 9).map (λi=>(i.zero,i.size,i.bytes))=some (some (sV ⟨#[]⟩),1,16):=by kernel_rfl
def uz(w:AT)(v:BY)(us:List Io):Prop:=∃a cap,v=.slice a us.length cap/\(a=none->us=[])/\∀ad,a=some ad->∀j u,(us.map Value.string)[j]? =some u->w.cell? (ad.add j)=some u
def jZ(b o j:Nat):(⟨b,o,none⟩:Addr).add j=⟨b,o+j,none⟩:=by simp only[Addr.add];split <;> simp_all
def be.src(h:be w v us):uz w v us:=by
 obtain⟨a,Ja,rfl,-,-,h⟩:=h;by_cases hp:0<us.length
 ·obtain⟨b,Jb,rfl,U⟩:=h hp;refine⟨_,Ja,rfl,(λh=>by cases h),λad had j u hj=>?_⟩;obtain rfl:=Option.some.inj had;have I:j<us.length:=by
   have:=(List.getElem?_eq_some_iff.1 hj).1
   simpa using this
  have e:u=sV us[j]:=by simpa[I]using hj.symm
  rw[jZ,e];exact U j I
 have J:us=[]:=J3 o_;subst J;exact⟨a,Ja,rfl,λ_=>rfl,λad _ j u hj=>by simp at hj⟩
def wY(w:AT)(x:Io)(t:JZ):uz (w.alloc (.cells #[sV x] t)) (rV w.heap.size 1 1) [x]:=by
 refine⟨_,1,rfl,(λh=>by cases h),λad h j u hj=>?_⟩;obtain rfl:=Option.some.inj h;have I:j=0:=by
  have:=(List.getElem?_eq_some_iff.1 hj).1
  simp at this;omega
 subst I;simp at hj;rw[jZ,<-hj];simp
def eF(B:Nat)(w:AT)(v:BY)(us:List Io):Prop:=w.ownsRow B 9 1 v us.length (us.map (Value.string))
def eF.shape(h:eF B w v us):∃a c,v=.slice a us.length c:=by rcases h.2 with⟨rfl,I⟩|⟨g,Ja,Jb,rfl,_⟩;exact⟨none,0,by rw[I]⟩;exact⟨_,Ja,rfl⟩
def eF.below{w':AT}(h:eF B w v us)(hb:Bl w w'):eF B w' v us:=by obtain⟨Z,I⟩:=h;refine⟨Z,?_⟩;rcases I with I|⟨g,Jb,Ja,rfl,g3,J,U⟩;exact .inl I;refine .inr ⟨g,Jb,Ja,rfl,g3,?_,U⟩;rw[hb.block g (Array.getElem?_eq_some_iff.1 J).1];exact J
def kW(W:AT)(B:Nat)(hB:B<=W.heap.size):eF B (W.alloc (.cells #[] 9)) (rV W.heap.size 0 0) []:=ownsRow_lit W #[] 0 hB d_ rfl
theorem CC(base:Nat)(J:JZ)(v:BY)(h:List Io)(Ja:eF base w v h)(x:BY)(us:List Io)(hx:uz w x us)(hm:h.length+us.length<=10000000)(Jb:base<=w.heap.size):
  ∃v' w',(Builtin.append_ #[49,49] J #[v,x]).run prog w=.ok v' w'/\eF base w' v' (h++us)/\w.grownBy w' v.ownBlock/\∀k,v'.ownBlock=some k->v.ownBlock=some k\/w.heap.size<=k:=by
 have⟨i0,I,Jd,Jf,Jg⟩:=info_parts iJ;obtain⟨a,Jc,rfl,h2,h3⟩:=hx;cases a with
 | none=>
  obtain rfl:=h2 rfl;have hr:(Builtin.append_ #[49,49] J #[v,.slice none ([]:List Io).length Jc]).run prog w=.ok v w:=by rcases Ja.2 with⟨rfl,hn⟩|⟨g,Je,Ji,rfl,_,_,Jh,_⟩;simp[Builtin.append_,run_underlying underlying49,sizeOf,typeInfo,I,Builtin.lenOf,Builtin.firstCells];simp[Builtin.append_,run_underlying underlying49,sizeOf,typeInfo,I,Builtin.lenOf,Builtin.firstCells,Jh,storeCells]
  exact⟨v,w,hr,IN Ja,⟨rfl,rfl,rfl,n_,λ_ _ _=>rfl⟩,λk hk=>.inl hk⟩
 | some ad=>have⟨v',w',r1,r2,Z,r4⟩:=gW (P:=prog) (w:=w) base 49 J 9 i0 _ 1 16 underlying49 I Jd Jf Jg rfl d_ v h.length (h.map (Value.string)) Ja ad us.length Jc (us.map (Value.string)) i_ (h3 ad rfl) (by intro u U;simp at U;obtain⟨y,_,rfl⟩:=U;rfl) hm d_ Jb;refine⟨v',w',r1,?_,Z,r4⟩;unfold eF;rw[l_a,map_append];exact r2
def bU{ops:Array Oper}{o:Oper}{a:Act}{K:Act->AT->Prop}{Q:Exit->Act->AT->Prop}{E:Prop}(Jc:o.guard=none)(s x:Operand)
  (ho:o.op=.call {callee:=.builtin .append,args:=#[s,x],argTypes:=#[49,49]})
  (base:Nat) (v:BY) (I:List Io) (hs:a.eval s=v) (Jb:eF base w v I) (J:BY) (us:List Io) (Jd:a.eval x=J) (hx:uz w J us)
  (hm:I.length+us.length<=10000000) (Ja:base<=w.heap.size)
  (h:∀v' w',eF base w' v' (I++us)->w.grownBy w' v.ownBlock->(∀k,v'.ownBlock=some k->v.ownBlock=some k\/w.heap.size<=k)->K (a.put o.dst v') w'):
  if Region.wanted o (yielded ops a.tmps)=true then Oper.wp prog o a w K Q else E:=by
 have U:Region.wanted o (yielded ops a.tmps)=true:=by simp[Region.wanted,Jc]
 rw[if_pos U];have⟨v',w',Z,h2,h3,h4⟩:=CC (w:=w) base o.type v I Jb J us hx hm Ja;unfold Oper.wp execOp;simp only[ho,resolve,invoke,builtin,Sem.run_bind,Sem.run_pure,Result.andThen_ok,map_toArray,map_cons,map_nil,hs,Jd,Z];exact h v' w' h2 h3 h4
def eF.strs(h:eF B w v us)(Z:us.length<=10000000):be w v us:=by
 have I:=h;rcases h.2 with⟨rfl,J⟩|⟨g,Ja,Jc,rfl,Jd,U,Jb,Jf,Jg,Je⟩;exact⟨none,0,by rw[J],o_,o_,λh=>absurd h o_⟩;refine⟨_,Ja,rfl,?_,?_,λ_=>⟨g,0,rfl,λj hj=>?_⟩⟩
 first|omega|exact Jb
 first|omega|(unfold maxLen at*;omega)
 have:=ownsRow.cells I (g:=g) rfl j (sV us[j]) (by simp[hj])
 rw[jZ]at this;exact this
end
def Am(t:Tr)(vg vf:BY)(w:AT)(ht:eQ t)(U:cD w vg t.gl)(hf:bj w vf t.fc):
  Calls prog 19 #[.agg #[vg,vf]] w λe w'=>e=rW (.bool (cM t))/\Bl w w':=by
 obtain⟨gs,fs⟩:=t;simp only at U hf⊢;have HS:=ah ht;have Jo:gs.length<=1048576:=HS.o.1;have Jn:fs.length<=1048576:=HS.o.2.1;obtain⟨ag,cg,rfl,-,-,Jk⟩:=U;obtain⟨af,cf,rfl,-,-,Jh⟩:=hf;have⟨Jm,Jl⟩:=h2 Jk Jh;by_cases h5:50<gs.length
 ·go_in;go_wp2;go_ret;exact⟨ak (by simp only[cM,decide_eq_false (show ¬gs.length<=50 by omega),Bool.false_and]),r_.alloc n_ _⟩
 by_cases h6:50<fs.length
 ·go_in;go_wp2;go_ret;exact⟨ak (by simp only[cM,decide_eq_false (show ¬fs.length<=50 by omega),Bool.false_and,Bool.and_false]),r_.alloc n_ _⟩
 have Jb:Hid (cM ⟨gs,fs⟩=(gs.all dD&&fs.all cC)):=by show _=_;simp only[cM,decide_eq_true (show gs.length<=50 by omega),decide_eq_true (show fs.length<=50 by omega),Bool.true_and]
 go_in;go_wp2;go_loopw[3] (λi wr=>∃k:Nat,k<=gs.length/\i=V k/\(∀g∈gs.take k,dD g=true)/\Below (w.heap.size+1) (w.alloc (.cells #[.slice ag gs.length cg,.slice af fs.length cf] 26)) wr) (λi _=>gs.length-(RowKit.intOf i).toNat)
 case atStart=>exact⟨0,y_,rfl,i_,r_⟩
 case round=>
  obtain⟨k,hk,rfl,U,I⟩:=hrel;have Z:=ah U;have Ja:=aw I;by_cases hlt:k<gs.length
  ·obtain⟨b,Jg,rfl,hc⟩:=Jm o_;have⟨d0,d1⟩:=(hc.below Ja) k hlt;have HE:Hid (gs.take (k+1)=gs.take k++[gs[k]]):=aU gs k hlt;have J:Hid (dD gs[k]=false->gs.all dD=false):=tT hlt;generalize gs[k]=g at d0 d1 HE J;have⟨x0,x1⟩:=jc I;obtain⟨s,z⟩:=g;simp only at d0 d1;cases hv:bh s
   ·have Jd:dD ⟨s,z⟩=false:=(by simp only[dD,hv,Bool.false_and]);have HV:=ah Jd;go_wp2_with(go_at_call 44;refine(cK _ _).mono ?_;rintro e w' ⟨rfl,rfl⟩;rw[hv]);go_ret;exact⟨ak (by rw[Jb.o,J.o HV.o];rfl),Ja⟩
   cases hz:decide (0<=z/\z<=4000)
   ·have Jd:dD ⟨s,z⟩=false:=(by simp only[dD,hv,hz,Bool.and_false]);have⟨HV,HZ⟩:=h2 Jd hz;go_wp2_with(first|(go_at_call 44;refine(cK _ _).mono ?_;rintro e w' ⟨rfl,rfl⟩;rw[hv])|(go_at_call 45;refine(ja _ _ _ _).mono ?_;rintro e w' ⟨rfl,rfl⟩;rw[HZ.o]));go_ret;exact⟨ak (by rw[Jb.o,J.o HV.o];rfl),Ja⟩
   have HV:Hid (dD ⟨s,z⟩=true):=by show _=_;simp only[dD,hv,hz,Bool.and_self]
   have HZ:=ah hz;go_wp2_with(first|(go_at_call 44;refine(cK _ _).mono ?_;rintro e w' ⟨rfl,rfl⟩;rw[hv])|(go_at_call 45;refine(ja _ _ _ _).mono ?_;rintro e w' ⟨rfl,rfl⟩;rw[HZ.o]));go_roundw
   case rel=>refine⟨k+1,o_,by go_num,λm hm=>?_,I⟩;rw[HE.o]at hm;rcases J5.1 hm with hm|hm;exact Z m hm;rw[J7.1 hm];exact HV.o
   case measure=>exact IF
  have HA:Hid (gs.all dD=true):=by show _=_;rw[all_eq_true];have:=Z.o;rw[take_of_length_le o_]at this;exact this
  have⟨x0,x1⟩:=jc I;go_wp2;go_loopw[4] (λi wr=>∃k:Nat,k<=fs.length/\i=V k/\(∀f∈fs.take k,cC f=true)/\Below (w.heap.size+1) (w.alloc (.cells #[.slice ag gs.length cg,.slice af fs.length cf] 26)) wr) (λi _=>fs.length-(RowKit.intOf i).toNat)
  case atStart=>exact⟨0,y_,rfl,i_,I⟩
  case round=>
   obtain⟨k,hk,rfl,U,I⟩:=hrel;have Z:=ah U;have Ja:=aw I;by_cases hlt:k<fs.length
   ·obtain⟨b,Jg,rfl,hc⟩:=Jl o_;have⟨vp,vb,⟨d0,d1,d2⟩,hp,hs⟩:=(hc.below Ja) k hlt;have HE:Hid (fs.take (k+1)=fs.take k++[fs[k]]):=aU fs k hlt;have J:Hid (cC fs[k]=false->fs.all cC=false):=tU hlt;have Je:Hid (fk fs[k]):=HS.o.2.2 fs[k] (g_ hlt);generalize fs[k]=f at d0 d1 d2 HE J Je hp hs;have⟨HP,HB⟩:=h2 hp hs;obtain⟨a2,k2,rfl,-,-,-⟩:=hp;obtain⟨a3,k3,rfl,-,-,-⟩:=hs;have⟨x0,x1⟩:=jc I;go_wp2_with fail;refine(Aj f _ _ _ Je HP HB).mono ?_;rintro e w2 ⟨rfl,Ji⟩;have Jc:=Ji;have Jf:=I.trans (Jc.mono (by have:=I.size;simp at this;omega));cases hv:cC f
    ·go_wp2;go_ret;exact⟨ak (by rw[Jb.o,J.o hv];simp),aw Jf⟩
    go_wp2;go_roundw
    case rel=>refine⟨k+1,o_,by go_num,λm hm=>?_,Jf⟩;rw[HE.o]at hm;rcases J5.1 hm with hm|hm;exact Z m hm;rw[J7.1 hm];exact hv
    case measure=>exact IF
   have Jj:Hid (fs.all cC=true):=by show _=_;rw[all_eq_true];have:=Z.o;rw[take_of_length_le o_]at this;exact this
   have⟨x0,x1⟩:=jc I;go_wp2;go_ret;exact⟨ak (by rw[Jb.o,HA.o,Jj.o];rfl),Ja⟩
section
variable{s:St}{f:Fu}
def fE{s:Io}(h:bh s=true):s.size<=20:=by simp only[bh,J2]at h;exact h.2.1
def iK{s:Io}(h:(s.toList == [])=true):s.size<=20:=by
 have e:s.toList=[]:=IN h;rw[ByteArray.toList_eq]at e;have I:s.data.size=0:=by rw[<-Array.length_toList,e];rfl
 show s.data.size<=20;omega
def mB{n:Nd}(h:aJ n=true):n.nm.size<=20:=by unfold aJ at h;split at h;rw[J1]at h;exact iK h.2;split at h;rw[J1]at h;exact fE h.2;split at h;rw[J1]at h;exact fE h.2;split at h;rw[J1]at h;exact iK h.2;split at h;rw[J1]at h;exact iK h.2;split at h;rw[J1]at h;exact iK h.2;cases h
structure EA (s:St):Prop where
 e:s.e.length<=2000
 f:s.f.length<=2000
 nm:s.nm.size<=20
 ne:∀n∈s.e,n.nm.size<=20
 nf:∀n∈s.f,n.nm.size<=20
def EA.of(h:stmtB s=true)(he:s.e.length<=2000)(Z:s.f.length<=2000):EA s:=by unfold stmtB at h;simp only[J1]at h;obtain⟨⟨⟨⟨⟨⟨a1,J⟩,U⟩,I⟩,a5⟩,a6⟩,a7⟩:=h;refine⟨he,Z,?_,λn hn=>mB (iG U n hn),λn hn=>?_⟩;split at J;exact fE J;exact iK J;split at I;exact mB (iG I n hn);have e:s.f=[]:=J3 (IN I);rw[e]at hn;cases hn
theorem wZ{l:List St}(h:s∈l):s.e.length+s.f.length<=aK l:=by
 induction l with
 | nil=>cases h
 | cons a r ih=>
  simp only[aK];rcases mem_cons.1 h with rfl|h;omega
  have:=ih h;omega
def je(h:cC f=true):f.nm.size<=20/\f.pm.length<=6/\f.bd.length<=500/\(∀p∈f.pm,p.size<=20)/\bw f.bd=true/\∀s∈f.bd,stmtB s=true/\s.e.length<=2000/\s.f.length<=2000:=by unfold cC stmtsB at h;simp only[J1,J2]at h;obtain⟨I,h2,h3,h4,⟨h5,h6⟩,h7⟩:=h;refine⟨fE I,h2,h3,λp hp=>fE (all_eq_true.1 h4 p hp),h7,λs hs=>⟨all_eq_true.1 h6 s hs,?_⟩⟩;have:=wZ hs;omega
structure Gj (f:Fu):Prop where
 nm:f.nm.size<=20
 ps:f.pm.length<=6
 bd:f.bd.length<=500
 pn:∀p∈f.pm,p.size<=20
 ok:∀s∈f.bd,EA s
def EA.wf(h:EA s):tV s:=by obtain⟨I,h2,h3,h4,h5⟩:=h;exact⟨o_,⟨o_,λn hn=>Ka (h4 n hn)⟩,⟨o_,λn hn=>Ka (h5 n hn)⟩⟩
def Gj.wf(h:Gj f):EE f:=by obtain⟨I,h2,h3,h4,h5⟩:=h;exact⟨o_,⟨o_,λp hp=>Ka (h4 p hp)⟩,⟨o_,λs hs=>(h5 s hs).wf⟩⟩
def Gj.small(h:Gj f):fk f:=by obtain⟨I,h2,h3,h4,h5⟩:=h;exact⟨o_,o_,λs hs=>⟨by have:=(h5 s hs).e;omega,by have:=(h5 s hs).f;omega⟩⟩
end
def gT{w:AT}{b:Nat}{x:Io}(h:w.cell? ⟨b,0,none⟩=some (sV x)):uz w (rV b 1 1) [x]:=by
 refine⟨_,1,rfl,(λh=>by cases h),λad had j u hj=>?_⟩;obtain rfl:=Option.some.inj had;have I:j=0:=by
  have:=(List.getElem?_eq_some_iff.1 hj).1
  simp at this;omega
 subst I;simp at hj;rw[jZ,<-hj];exact h
def GW(W:AT)(v:BY)(us:List Io)(h:be W v us):eF W.heap.size (W.drew.alloc (.cells #[] 9)) (rV W.heap.size 0 0) []/\uz (W.drew.alloc (.cells #[] 9)) v us/\Bl W (W.drew.alloc (.cells #[] 9)):=by have I:Bl W (W.drew.alloc (.cells #[] 9)):=((Below.refl W.heap.size W).drew).alloc n_ _;exact⟨kW W.drew _ n_,(h.below I).src,I⟩
def GX(W:AT)(v:BY)(us:List Io)(x:Io)(h:be W v us):eF W.heap.size ((W.drew.alloc (.cells #[] 9)).alloc (.cells #[sV x] 9)) (rV W.heap.size 0 0) []/\uz ((W.drew.alloc (.cells #[] 9)).alloc (.cells #[sV x] 9)) v us/\Bl W ((W.drew.alloc (.cells #[] 9)).alloc (.cells #[sV x] 9))/\DO ((W.drew.alloc (.cells #[] 9)).alloc (.cells #[sV x] 9)) (W.heap.size+1) 0 (sV x):=by have Ja:Bl W (W.drew.alloc (.cells #[] 9)):=((Below.refl W.heap.size W).drew).alloc n_ _;have I:Bl W ((W.drew.alloc (.cells #[] 9)).alloc (.cells #[sV x] 9)):=Ja.alloc Ja.size _;exact⟨(kW W.drew _ n_).below (ao _ _),(h.below I).src,I,(cell?_alloc_at _ _ _ _ i_).trans rfl⟩
def GY(W:AT)(v:BY)(us:List Io)(x:Io)(h:be W v us):eF W.heap.size ((W.drew.alloc (.cells #[sV x] 9)).alloc (.cells #[] 9)) (.slice (some ⟨W.heap.size+1,0,none⟩) 0 0) []/\uz ((W.drew.alloc (.cells #[sV x] 9)).alloc (.cells #[] 9)) v us/\Bl W ((W.drew.alloc (.cells #[sV x] 9)).alloc (.cells #[] 9))/\((W.drew.alloc (.cells #[sV x] 9)).alloc (.cells #[] 9)).cell? ⟨W.heap.size,0,none⟩=some (sV x):=by have Ja:Bl W (W.drew.alloc (.cells #[sV x] 9)):=((Below.refl W.heap.size W).drew).alloc n_ _;have J:Bl W ((W.drew.alloc (.cells #[sV x] 9)).alloc (.cells #[] 9)):=Ja.alloc Ja.size _;have I:=kW (W.drew.alloc (.cells #[sV x] 9)) W.heap.size i_;have e:(W.drew.alloc (.cells #[sV x] 9)).heap.size=W.heap.size+1:=i_;rw[e]at I;refine⟨I,(h.below J).src,J,?_⟩;rw[cell?_alloc_lt _ _ ⟨W.heap.size,0,none⟩ i_];exact(cell?_alloc_at _ _ _ _ i_).trans rfl
def jv{W W1 w1:AT}{v:BY}{xs:List Io}(hb:Bl W W1)(hr:eF W.heap.size W1 v xs)(hg:W1.grownBy w1 v.ownBlock):Bl W w1:=hb.grown hg hb.size (λj hj=>(ownsRow.lt hr j hj).1)
section
variable{α:Type}{w:AT}
def pd(l:List α)(j:Nat)(h:j<l.length):l.drop j=l[j]::l.drop (j+1):=(getElem_cons_drop h).symm
def drop_take_2(l:List α)(i j:Nat):(l.take (i+j)).drop i=(l.drop i).take j:=by rw[drop_take];congr 1;omega
def uI(l:List α)(k i j:Nat):(l.take (k+i+j)).drop (k+i)=((l.drop k).take (i+j)).drop i:=by rw[drop_take_2,drop_take_2,drop_drop]
structure Iv (w:AT) (t:Tr) (vg vf:BY):Prop where
 g:cD w vg t.gl
 f:bj w vf t.fc
def Iv.below{w':AT}{t:Tr}{vg vf:BY}(h:Iv w t vg vf)(hb:Bl w w'):Iv w' t vg vf:=⟨h.g.below hb,h.f.below hb⟩
def sI(n:Nat):Prop:=∀(t:Tr) (vg vf vb vs vt:BY) (ss:List St) (a:Int) (sc tk:List Io) (w:AT),ss.length<=n->Iv w t vg vf->aZ w vb ss->bw ss=true->(∀s∈ss,gE s)->be w vs sc->be w vt tk->t.gl.length<=1048576->t.fc.length<=1048576 ->
 sc.length+ss.length<=800000->tk.length+ss.length<=800000->0<=a->a+ss.length<=800000 ->
 Calls prog 49 #[.agg #[vg,vf],vb,V a,vs,vt] w λe w'=>∃vt',e=rW (.tuple #[V (aL t ss a sc tk).1,V (aL t ss a sc tk).2.1,vt'])/\be w' vt' (aL t ss a sc tk).2.2/\Bl w w'
def be.shape{v:BY}{us:List Io}(h:be w v us):∃a c,v=.slice a us.length c:=by obtain⟨a,c,rfl,-⟩:=h;exact⟨a,c,rfl⟩
end
section
variable{fs:List Fu}{s:Io}
def mG(fs:List Fu)(s:Io):Int:=match a_ fs s with|some i=>(i:Int)|none=> -1
def ie{i:Nat}(h:a_ fs s=some i):mG fs s=i:=by unfold mG;rw[h]
def jg(h:a_ fs s=none):mG fs s= -1:=by unfold mG;rw[h]
def nB{a b:Io}(h:a≠b):(a.toList == b.toList)=false:=by rw[beq_eq_false_iff_ne];intro e;rw[ByteArray.toList_eq,ByteArray.toList_eq]at e;exact h (ByteArray.ext (Array.ext' e))
def jh(I:List Fu)(vg vf:BY)(s:Io)(w:AT)(hl:I.length<=1048576)(hf:bj w vf I):
  Calls prog 22 #[.agg #[vg,vf],sV s] w λe w'=>e=rW (V (mG I s))/\Bl w w':=by
 obtain⟨af,cf,rfl,-,-,Jc⟩:=hf;have Jd:=ah Jc;go_in;go_wp2;go_loopw[5] (λi wr=>∃k:Nat,k<=I.length/\i=V k/\(∀j (hj:j<I.length),j<k->I[j].nm≠s)/\Below (w.heap.size+1) (w.alloc (.cells #[vg,.slice af I.length cf] 26)) wr) (λi _=>I.length-(RowKit.intOf i).toNat)
 case atStart=>exact⟨0,y_,rfl,λj hj h=>absurd h (Nat.not_lt_zero _),r_⟩
 case round=>
  obtain⟨k,hk,rfl,hn,Z⟩:=hrel;have U:=ah hn;have Ja:=aw Z;have⟨x0,x1⟩:=jc Z;by_cases hlt:k<I.length
  ·obtain⟨b,Je,rfl,hc⟩:=Jd o_;obtain⟨vp,vb,⟨d0,d1,d2⟩,-,-⟩:=(hc.below Ja) k hlt;by_cases hs:I[k].nm=s
   ·have J:Hid (mG I s=k):=ie (yu hlt (λj hj=>U j o_ hj) hs);rw[hs]at d0;go_wp2;go_ret;exact⟨dx J.o.symm,Ja⟩
   have HS:Hid (∀j (hj:j<I.length),j<k+1->I[j].nm≠s):=λj hj h=>by by_cases e:j=k;subst e;exact hs;exact U j hj o_
   have Jb:=nB hs;generalize I[k].nm=fn at d0 hs Jb;go_wp2;go_roundw
   case rel=>exact⟨k+1,o_,by go_num,HS,Z⟩
   case measure=>exact IF
  have J:Hid (mG I s= -1):=jg (EF (λj hj=>U j hj o_));go_wp2;go_ret;exact⟨dx J.o.symm,Ja⟩
end
section
variable{b nn:Nat}{D:DataW Unit}{W:AT}{fs:List Fu}{s:Io}
def eH{P:Program}{k:JZ}{R:BY->Option (DataW Unit×List MemPlace)}{w w':AT}{n:Nat}(h:w.ownsMap P k R b n D)(hb:Bl w w'):w'.ownsMap P k R b n D:=by have Jb:=h.lt;obtain⟨I,Ja,J,F,U,Z⟩:=h;exact⟨I,Ja,(hb.block b Jb).trans J,F,U,Z⟩
def kY(Jb:W.ownsMap prog 9 (plainElem (H:=Unit) prog 2) b nn D)(Z:dj D fs)(hs:s.size<=maxLen){g:Nat}(h:a_ fs s=some g):
  (Instr.lookup 67 (.map (some b)) (sV s) true).run prog W=.ok (.tuple #[V (g:Int),.bool true]) W:=by
 have⟨v,ps,Ja,J⟩:=Jb.look_ok (Maps.string_keyed underlying9) underlying67 (zeroValue2 _) (plainElem_int underlying2 d_) (WideMaps.keyOf_string_mk underlying9 hs);rw[Z.val s g h]at J;obtain⟨c,rfl,I,_⟩:=plainElem_int_inv underlying2 J;simp only[Prod.mk.injEq,DataW.lit.injEq,Lit.int.injEq,true_and]at I;obtain⟨I,-⟩:=I;subst I;have U:=Z.has s;rw[h]at U;rw[U]at Ja;exact Ja
def nC(Jb:W.ownsMap prog 9 (plainElem (H:=Unit) prog 2) b nn D)(hN:dj D fs)(Z:s.size<=maxLen)(h:a_ fs s=none):
  (Instr.lookup 67 (.map (some b)) (sV s) true).run prog W=.ok (.tuple #[V 0,.bool false]) W:=by
 have⟨v,ps,Ja,U⟩:=Jb.look_ok (Maps.string_keyed underlying9) underlying67 (zeroValue2 _) (plainElem_int underlying2 d_) (WideMaps.keyOf_string_mk underlying9 Z);have J:=hN.has s;rw[h]at J;rw[Maps.atKey_of_not_has J]at U;obtain⟨c,rfl,I,_⟩:=plainElem_int_inv underlying2 U;simp only[Prod.mk.injEq,DataW.lit.injEq,Lit.int.injEq,true_and]at I;obtain⟨I,-⟩:=I;subst I;rw[J]at Ja;exact Ja
theorem j6(I:List Fu)(vg vf:BY)(w:AT)(hl:I.length<=1048576)(hw:wJ I)(hf:bj w vf I):
  Calls prog 41 #[.agg #[vg,vf]] w λe w'=>∃b D,e=rW (.map (some b))/\w.heap.size<=b/\w'.ownsMap prog 9 (plainElem (H:=Unit) prog 2) b I.length D/\dj D I/\Bl w w':=by
 obtain⟨af,cf,rfl,-,-,Jh⟩:=hf;have⟨Jl,HW⟩:=h2 Jh hw;have Jm:= @run_makeMap prog;go_in;go_wp2;go_loopw[12] (λi wr=>∃(k:Nat) (D:DataW Unit),k<=I.length/\i=.int .i64 k/\wr.ownsMap prog 9 (plainElem (H:=Unit) prog 2) (w.heap.size+1) k D/\dj D (I.take k)/\Bl w wr) (λi _=>I.length-(RowKit.intOf i).toNat)
 case atStart=>exact⟨0,.map [],y_,rfl,by simpa using ownsMap_made (w.alloc _) prog 9 _,dj.nil,(ao _ _).alloc i_ _⟩
 case round=>
  obtain⟨k,D,hk,rfl,hM,hN,U⟩:=hrel;have HM:Hid (wr.ownsMap prog 9 (plainElem (H:=Unit) prog 2) (w.heap.size+1) k D):=hM;have J:=ah hN;have Jj:=hM.lt;by_cases hlt:k<I.length
  ·obtain⟨b,Jn,rfl,hc⟩:=Jl o_;obtain⟨vp,vb,⟨d0,d1,d2⟩,⟨ap,cp,rfl,-⟩,⟨ab,cb,rfl,-⟩⟩:=(hc.below U) k hlt;generalize I[k].pm.length=np at d1;generalize I[k].bd.length=nb at d2;have HE:Hid (I.take (k+1)=I.take k++[I[k]]):=aU I k hlt;have Z:Hid (I[k].nm.size<=maxLen):=by
    have:=(HW.o.2 I[k] (g_ hlt)).1
    show _<=_;unfold maxLen;omega
   have Ji:Hid ((I.take k).length=k):=(by show _=_;simp;omega);generalize I[k]=f at d0 d1 d2 HE Z;have Jd:Hid ((wr.alloc (.cells #[sV f.nm,.slice ap np cp,.slice ab nb cb] 52)).ownsMap prog 9 (plainElem (H:=Unit) prog 2) (w.heap.size+1) k D):=HM.o.alloc _;cases hv:a_ (I.take k) f.nm with
   | none=>
    have Jc:=nC Jd J Z hv;have HV:Hid (Maps.has D (kS f.nm)=false):=(by show _=_;rw[J.o.has,hv];rfl);go_wp2_with(first
     | (at_mapUpdate;refine wpList_mapUpdate_own _ rfl _ _ _ 67 rfl 9 2 (Maps.string_keyed underlying9) underlying67 _ (w.heap.size+1) k D rfl Jd (by unfold maxLen;omega) _ _ _ rfl rfl (WideMaps.keyOf_string_mk underlying9 Z) _ [] (plainElem_int underlying2 (WalkArith.wf_i64 o_)) ?_;intro w1 Jb Ja)
     | go_in)
    have Jk:=ah Jb;have Jg:Hid (dj (D.put (kS f.nm) (.lit (.int .i64 (k:Int)))) (I.take (k+1))):=by
     have:=J.o.new HV.o
     rw[Ji.o]at this;rw[HE.o];exact this
    have Je:Bl w w1:=(U.alloc U.size _).grown Ja (by have:=U.size;simp;omega) (λj hj=>by cases hj;omega);go_wp2;go_roundw
    case rel=>exact⟨k+1,_,o_,by go_num,Jk,Jg,Je⟩
    case measure=>exact IF
   | some g=>
    have Jc:=kY Jd J Z hv;have HV:Hid (Maps.has D (kS f.nm)=true):=(by show _=_;rw[J.o.has,hv];rfl);go_wp2;go_roundw
    case rel=>exact⟨k+1,D,o_,by go_num,Jd.o.mono o_,by rw[HE.o];exact J.o.old HV,U.alloc U.size _⟩
    case measure=>exact IF
  have Jf:k=I.length:=o_;have HR:Hid (dj D I):=(by have:=J.o;rw[take_of_length_le o_]at this;exact this);go_wp2;go_ret;exact⟨_,D,rfl,o_,by rw[<-Jf];exact HM,HR,U⟩
end
def gz(I:List Io)(v:BY)(s:Io)(w:AT)(hl:I.length<=10000000)(hx:be w v I):
  Calls prog 47 #[v,sV s] w λe w'=>e=rW (.bool (dF I s))/\Bl w w':=by
 obtain⟨a,c,rfl,-,-,J⟩:=hx;have HC:=ah J;clear J;go_in;go_wp2;go_loopw[5] (λi wr=>∃k:Nat,k<=I.length/\i=V k/\(∀j (hj:j<I.length),j<k->I[j]≠s)/\Bl w wr) (λi _=>I.length-(RowKit.intOf i).toNat)
 case atStart=>exact⟨0,y_,rfl,λj hj h=>absurd h (Nat.not_lt_zero _),r_⟩
 case round=>
  obtain⟨k,hk,rfl,hn,U⟩:=hrel;have HN:=ah hn;by_cases hlt:k<I.length
  ·obtain⟨b,Jb,rfl,J⟩:=HC o_;have d0:=(J.below U) k hlt;by_cases hs:I[k]=s
   ·have Z:Hid (dF I s=true):=wK hlt hs;rw[hs]at d0;clear J hs;go_wp2;go_ret;exact⟨ak Z.o.symm,U⟩
   have HS:Hid (∀j (hj:j<I.length),j<k+1->I[j]≠s):=λj hj h=>by by_cases e:j=k;subst e;exact hs;exact HN j hj o_
   have Ja:=nB hs;generalize I[k]=fn at d0 hs Ja;go_wp2;go_roundw
   case rel=>exact⟨k+1,o_,by go_num,HS,U⟩
   case measure=>exact IF
  have Z:Hid (dF I s=false):=rU (λj hj=>HN j hj o_);go_wp2;go_ret;exact⟨ak Z.o.symm,U⟩
def ji(gs:List Gl)(vg vf:BY)(s:Io)(w:AT)(hl:gs.length<=1048576)(hg:cD w vg gs):
  Calls prog 48 #[.agg #[vg,vf],sV s] w λe w'=>e=rW (V (globI gs s))/\Bl w w':=by
 obtain⟨ag,cg,rfl,-,-,Jc⟩:=hg;have Jd:=ah Jc;go_in;go_wp2;go_loopw[5] (λi wr=>∃k:Nat,k<=gs.length/\i=V k/\(∀j (hj:j<gs.length),j<k->gs[j].nm≠s)/\Below (w.heap.size+1) (w.alloc (.cells #[.slice ag gs.length cg,vf] 26)) wr) (λi _=>gs.length-(RowKit.intOf i).toNat)
 case atStart=>exact⟨0,y_,rfl,λj hj h=>absurd h (Nat.not_lt_zero _),r_⟩
 case round=>
  obtain⟨k,hk,rfl,hn,U⟩:=hrel;have J:=ah hn;have Ja:=aw U;have⟨x0,x1⟩:=jc U;by_cases hlt:k<gs.length
  ·obtain⟨b,Je,rfl,hc⟩:=Jd o_;have⟨Z,d1⟩:=(hc.below Ja) k hlt;by_cases hs:gs[k].nm=s
   ·have I:Hid (globI gs s=gs[k].size):=tY hlt (λj hj=>J j o_ hj) hs;rw[hs]at Z;generalize gs[k].size=z at d1 I;go_wp2;go_ret;exact⟨dx I.o.symm,Ja⟩
   have HS:Hid (∀j (hj:j<gs.length),j<k+1->gs[j].nm≠s):=λj hj h=>by by_cases e:j=k;subst e;exact hs;exact J j hj o_
   have Jb:=nB hs;generalize gs[k].nm=fn at Z hs Jb;go_wp2;go_roundw
   case rel=>exact⟨k+1,o_,by go_num,HS,U⟩
   case measure=>exact IF
  have I:Hid (globI gs s= -1):=BS (λj hj=>J j hj o_);go_wp2;go_ret;exact⟨dx I.o.symm,Ja⟩
def yR{gs:List Gl}{Ja:List Io}{s:Io}{Jb:Bool}{z:Int}(h:(if dF Ja s then 0 else globI gs s)=z):dU gs Ja s Jb=if z<0 then 4 else if decide (z>0)=Jb then 0 else 5:=by unfold dU;rw[h]
def rh(gs:List Gl)(Ja:List Io)(vg vf vs:BY)(s:Io)(Jb:Bool)(w:AT)(hl:gs.length<=1048576)(Ji:Ja.length<=10000000)(hf:∃a n c,vf=.slice a n c)(U:cD w vg gs)(J:be w vs Ja):
  Calls prog 76 #[.agg #[vg,vf],vs,sV s,.bool Jb] w λe w'=>e=rW (V (dU gs Ja s Jb))/\Bl w w':=by
 have⟨Z,HS⟩:=h2 U J;obtain⟨af,nf,cf,rfl⟩:=hf;obtain⟨ag,cg,rfl,-,-,-⟩:=U;obtain⟨az,cz,rfl,-,-,-⟩:=J;go_in;go_wp2_with fail;have hA:Bl w (w.alloc (.cells #[.slice ag gs.length cg,.slice af nf cf] 26)):=ao _ _;refine(gz Ja _ s _ Ji (HS.o.below hA)).mono ?_;rintro e w1 ⟨rfl,Jg⟩;simp only[Bl,J9]at Jg;have Jd:=aw Jg;have⟨x0,x1⟩:=jc Jg;by_cases hin:dF Ja s=true
 ·have I:Hid (dU gs Ja s Jb=if Jb=false then 0 else 5):=by show _=_;rw[yR (show(if dF Ja s=true then(0:Int)else globI gs s)=0 by rw[if_pos hin])];cases Jb <;> rfl
  rw[hin];cases Jb
  ·go_wp2;go_ret;exact⟨dx I.o.symm,Jd⟩
  go_wp2;go_ret;exact⟨dx I.o.symm,Jd⟩
 have Jf:dF Ja s=false:=IN hin;have I:Hid (dU gs Ja s Jb=if globI gs s<0 then 4 else if decide (globI gs s>0)=Jb then 0 else 5):=yR (by rw[if_neg hin]);rw[Jf];go_wp2_with fail;refine(ji gs _ _ s _ hl (Z.o.below Jd)).mono ?_;rintro e w2 ⟨rfl,Jh⟩;have Je:=Jd.trans (Jh.mono Jd.size);generalize globI gs s=z at I⊢;by_cases h0:z<0
 ·have Jc:Hid (dU gs Ja s Jb=4):=(by show _=_;rw[I.o,if_pos h0]);go_wp2;go_ret;exact⟨dx Jc.o.symm,Je⟩
 by_cases h1:z>0
 ·have Jc:Hid (dU gs Ja s Jb=if Jb=true then 0 else 5):=by show _=_;rw[I.o,if_neg h0,decide_eq_true h1];cases Jb <;> rfl
  cases Jb
  ·go_wp2;go_ret;exact⟨dx Jc.o.symm,Je⟩
  go_wp2;go_ret;exact⟨dx Jc.o.symm,Je⟩
 obtain rfl:z=0:=(by omega);have Jc:Hid (dU gs Ja s Jb=if Jb=false then 0 else 5):=by show _=_;rw[I.o];cases Jb <;> rfl
 cases Jb
 ·go_wp2;go_ret;exact⟨dx Jc.o.symm,Je⟩
 go_wp2;go_ret;exact⟨dx Jc.o.symm,Je⟩
section
variable{t:Tr}{scope:List Io}{vl:Int}{nm:Io}
def Gk{w w':AT}{t:JZ}{a b c:BY}(h:Below (w.heap.size+1) (w.alloc (.cells #[a,b,c] t)) w'):
  w'.cell? ⟨w.heap.size,0,none⟩=some a/\w'.cell? ⟨w.heap.size,1,none⟩=some b/\w'.cell? ⟨w.heap.size,2,none⟩=some c:=by
 refine⟨?_,?_,?_⟩ <;> (rw[h.cell i_];simp)
def po{i:Nat}(h:a_ t.fc nm=some i)(I:i<t.fc.length):aO t scope ⟨4,vl,nm⟩=if ((t.fc[i].pm.length:Nat):Int)=vl then 0 else 6:=by unfold aO;simp only;rw[if_neg o_,if_pos trivial,h];simp[List.getD,I]
def kZ(h:a_ t.fc nm=none):aO t scope ⟨4,vl,nm⟩=4:=by unfold aO;simp only;rw[if_neg o_,if_pos trivial,h]
theorem pq(t:Tr)(Ja:List Io)(J:List Nd)(vg vf vs ve:BY)(w:AT)(Jl:t.gl.length<=1048576)(Jk:t.fc.length<=1048576)(Jj:Ja.length<=10000000)(Jp:J.length<=1048576)
  (hg:cD w vg t.gl) (hf:bj w vf t.fc) (hs:be w vs Ja) (hn:aC w ve J):
  Calls prog 75 #[.agg #[vg,vf],vs,ve] w λe w'=>e=rW (V (bK t Ja J))/\Bl w w':=by
 have⟨HG,HF,HS⟩:=h3 hg hf hs;obtain⟨ag,cg,rfl,-,-,-⟩:=hg;obtain⟨af,cf,rfl,-,-,Jf⟩:=hf;obtain⟨az,cz,rfl,-,-,-⟩:=hs;obtain⟨an,cn,rfl,-,-,Jg⟩:=hn;have⟨Ji,Jh⟩:=h2 Jf Jg;clear Jf Jg;have⟨ng,Jn⟩:=q_ t.gl.length;go_in;go_wp2;go_loopw[7] (λi wr=>∃k:Nat,k<=J.length/\i=V k/\(∀j (hj:j<J.length),j<k->aO t Ja J[j]=0)/\Below (w.heap.size+1) (w.alloc (.cells #[.slice ag t.gl.length cg,.slice af t.fc.length cf] 26)) wr) (λi _=>J.length-(RowKit.intOf i).toNat)
 case atStart=>exact⟨0,y_,rfl,λj hj h=>absurd h (Nat.not_lt_zero _),r_⟩
 case round=>
  obtain⟨k,hk,rfl,hz,Z⟩:=hrel;have HN:=ah hz;clear hz;have Je:=aw Z;have⟨x0,x1⟩:=jc Z;have Jm:w.heap.size<wr.heap.size:=by have:=Z.size;simp at this;omega
  by_cases hlt:k<J.length
  ·obtain⟨b,Jo,rfl,hc⟩:=Jh o_;have⟨d0,d1,d2⟩:=(hc.below Je) k hlt;have HZ:=ah λ(h:aO t Ja J[k]≠0)=>BT hlt (λj hj=>HN j o_ hj) h;have HX:Hid (aO t Ja J[k]=0->∀j (hj:j<J.length),j<k+1->aO t Ja J[j]=0):=λh j hj hjk=>by by_cases e:j=k;subst e;exact h;exact HN j hj o_
   generalize J[k]=n at d0 d1 d2 HZ HX;obtain⟨U,vl,nm⟩:=n;simp only at d0 d1 d2;have hA:Bl w (wr.alloc (.cells #[V U,V vl,sV nm] 81)):=Je.trans ((ao _ _).mono Je.size);by_cases hk23:U=2\/U=3
   ·have I:Hid (aO t Ja ⟨U,vl,nm⟩=dU t.gl Ja nm (decide (U=3))):=by show _=_;unfold aO;simp only;rw[if_pos hk23]
    rcases hk23 with rfl|rfl;all_goals
     go_wp2_with fail;refine(rh t.gl Ja _ _ _ nm _ _ Jl Jj ⟨_,_,_,rfl⟩ (HG.o.below hA) (HS.o.below hA)).mono ?_;rintro e w2 ⟨rfl,Jd⟩;simp only[Bl,J9]at Jd;have⟨y0,y1,y2⟩:=Gk Jd;have Jc:Below (w.heap.size+1) (w.alloc (.cells #[.slice ag t.gl.length cg,.slice af t.fc.length cf] 26)) w2:=Z.trans ((aw Jd).mono o_);clear d0 d1 d2 x0 x1 hA;first
      | (have Jb:Hid (aO t Ja ⟨2,vl,nm⟩=dU t.gl Ja nm false):=I;clear I;generalize dU t.gl Ja nm false=z at Jb⊢)
      | (have Jb:Hid (aO t Ja ⟨3,vl,nm⟩=dU t.gl Ja nm true):=I;clear I;generalize dU t.gl Ja nm true=z at Jb⊢)
     by_cases hz:z=0
     ·subst hz;go_wp2;go_roundw
      case rel=>exact⟨k+1,o_,by go_num,HX Jb,Jc⟩
      case measure=>exact IF
     go_wp2;go_ret;exact⟨dx (by rw[HZ.o (by rw[Jb.o];exact hz),Jb]),aw Jc⟩
   by_cases hk4:U=4
   ·subst hk4;go_wp2_with fail;refine(jh t.fc _ _ nm _ Jk (HF.o.below hA)).mono ?_;rintro e w2 ⟨rfl,Jd⟩;simp only[Bl,J9]at Jd;have⟨y0,y1,y2⟩:=Gk Jd;have Jc:Below (w.heap.size+1) (w.alloc (.cells #[.slice ag t.gl.length cg,.slice af t.fc.length cf] 26)) w2:=Z.trans ((aw Jd).mono o_);clear d0 d1 d2 x0 x1 hA;have⟨x0,x1⟩:=jc Jc;cases hfn:a_ t.fc nm with
    | none=>have I:Hid (aO t Ja ⟨4,vl,nm⟩=4):=kZ hfn;rw[jg hfn];go_wp2;go_ret;exact⟨dx (by rw[HZ.o (by rw[I.o];omega),I]),aw Jc⟩
    | some i=>
     have hi:=dE hfn;have I:Hid (aO t Ja ⟨4,vl,nm⟩=if ((t.fc[i].pm.length:Nat):Int)=vl then 0 else 6):=po hfn hi;rw[ie hfn];clear hfn;obtain⟨bf,of,rfl,Jf⟩:=Ji o_;obtain⟨vp,vb,⟨f0,f1,f2⟩,⟨ap,cp,rfl,-⟩,-⟩:=(Jf.below (aw Jc)) i hi;generalize t.fc[i].pm.length=np at I f1;by_cases hv:(np:Int)=vl
     ·have Jb:Hid (aO t Ja ⟨4,vl,nm⟩=0):=(by show _=_;rw[I.o,if_pos hv]);clear I;subst hv;go_wp2_with fail;go_region;go_wp2;go_roundw
      case rel=>exact⟨k+1,o_,by go_num,HX Jb,Jc.drew⟩
      case measure=>exact IF
     have Jb:Hid (aO t Ja ⟨4,vl,nm⟩=6):=(by show _=_;rw[I.o,if_neg hv]);go_wp2_with fail;go_region;go_wp2;go_ret;exact⟨dx (by rw[HZ.o (by rw[Jb.o];omega),Jb]),aw Jc.drew⟩
   have I:Hid (aO t Ja ⟨U,vl,nm⟩=0):=by show _=_;unfold aO;simp only;rw[if_neg hk23,if_neg hk4]
   have h2:¬U=2:=λh=>hk23 (.inl h);have h3:¬U=3:=λh=>hk23 (.inr h);have b2:(U == 2)=false:=(IN h2);have b3:(U == 3)=false:=(IN h3);have b4:(U == 4)=false:=(IN hk4);clear hk23;go_wp2;go_roundw
   case rel=>exact⟨k+1,o_,by go_num,HX I,Z.trans ((ao _ _).mono o_)⟩
   case measure=>exact IF
  have HR:Hid (bK t Ja J=0):=oD (λj hj=>HN j hj o_);go_wp2;go_ret;exact⟨dx HR.o.symm,Je⟩
end
open Go.Value
def pr{w J:AT}{U Z:BY}(h:J=(w.alloc (.cells #[U,Z] 26)).alloc (.cells #[V 0,V 0,V 0] 30)):
  ∀W,Below (w.heap.size+2) J W->(W.cell? ⟨w.heap.size,0,none⟩=some U/\W.cell? ⟨w.heap.size,1,none⟩=some Z)/\(W.cell? ⟨w.heap.size+1,0,none⟩=some (V 0)/\W.cell? ⟨w.heap.size+1,1,none⟩=some (V 0)/\W.cell? ⟨w.heap.size+1,2,none⟩=some (V 0))/\(∀o,W.frozen? ⟨w.heap.size+1,o,none⟩=false)/\Bl w W/\w.heap.size+2<=W.heap.size:=by
 intro W I;have hA:Bl w J:=by rw[h];exact(ao _ _).alloc i_ _
 have hs:J.heap.size=w.heap.size+2:=by rw[h];simp
 have c:∀o,W.cell? ⟨w.heap.size+1,o,none⟩=(#[V 0,V 0,V 0]:Array BY)[o]? := λo=>(I.cell (p:=⟨w.heap.size+1,o,none⟩) i_).trans (by rw[h];exact cell?_alloc_at _ _ _ _ i_);have d:∀o,W.cell? ⟨w.heap.size,o,none⟩=(#[U,Z]:Array BY)[o]? := λo=>(I.cell (p:=⟨w.heap.size,o,none⟩) i_).trans (by rw[h,cell?_alloc_lt _ _ ⟨w.heap.size,o,none⟩ i_];exact cell?_alloc_at _ _ _ _ rfl);refine⟨⟨d 0,d 1⟩,⟨c 0,c 1,c 2⟩,λo=>?_,hA.trans (I.mono o_),Ka I.size⟩;refine(I.frozen (p:=⟨w.heap.size+1,o,none⟩) i_).trans ?_;rw[h];exact frozen?_alloc_at _ _ _ _ i_
theorem uJ(t:Tr)(vg vf:BY)(w:AT)(Xt:t.gl.length<=1000)(Xs:t.fc.length<=1000)(hg:cD w vg t.gl)(hf:bj w vf t.fc):
  Calls prog 20 #[.agg #[vg,vf]] w λe w'=>e=rW (BX (bJ t))/\Bl w w':=by
 have⟨Jj,Jo⟩:=q_ (bJ t);rw[<-Jo];have Jf:=ah Jo;have HF:Hid (bj w vf t.fc):=hf;obtain⟨ag,cg,rfl,-,-,Xm⟩:=hg;obtain⟨af,cf,rfl,-,-,Xk⟩:=hf;have⟨Xn,Xh⟩:=h2 Xm Xk;have⟨i0,hi,Xc,Xg,Xf⟩:=info_parts iJ;have⟨W1,Jw⟩:=q_ ((w.alloc (.cells #[.slice ag t.gl.length cg,.slice af t.fc.length cf] 26)).alloc (.cells #[V 0,V 0,V 0] 30));have Jm:=ah (pr Jw);have Xq:W1.heap.size=w.heap.size+2:=by rw[Jw];simp
 have Xj:Hid (eF (w.heap.size+2) (W1.alloc (.cells #[] 9)) (.slice (some ⟨w.heap.size+1+1,0,none⟩) 0 0) []):=by
  have:=kW W1 (w.heap.size+2) o_
  rw[Xq]at this;exact this
 have Xp:Hid (Below (w.heap.size+2) W1 (W1.alloc (.cells #[] 9))):=r_.alloc o_ _;go_in;go_wp2_with fail;rw[<-Jw];go_loopw[3,4] (λsv i wr=>∃(k:Nat),k<=t.gl.length/\i=V k/\eF (w.heap.size+2) wr sv ((t.gl.take k).map (·.nm))/\fU [] t.gl=fU ((t.gl.take k).map (·.nm)) (t.gl.drop k)/\Below (w.heap.size+2) W1 wr) (λ_ i _=>t.gl.length-(RowKit.intOf i).toNat)
 case atStart=>exact⟨0,y_,rfl,IN Xj.o,i_,Xp.o⟩
 case round=>
  obtain⟨k,hk,rfl,hR,hd,hB⟩:=hrel;obtain⟨a3,c3,rfl⟩:=hR.shape;have⟨J,HD⟩:=h2 hR hd;have⟨⟨x0,x1⟩,⟨U,r1,r2⟩,I,Ja,Jq⟩:=Jm wr hB;have z0:=I 0;have z1:=I 1;have z2:=I 2;have Jb:((t.gl.take k).map (·.nm)).length=k:=by simp;omega
  rw[Jb]at J⊢;by_cases hlt:k<t.gl.length
  ·obtain⟨b,Js,rfl,hc⟩:=Xn o_;obtain⟨c0,-⟩:=(hc.below Ja) k hlt;have Xa:b<wr.heap.size:=b_ c0;have Jc:Hid (fU [] t.gl=fU ((t.gl.take k).map (·.nm)) (t.gl[k]::t.gl.drop (k+1))):=(by show _=_;rw[HD.o,eh _ _ hlt]);have⟨Jl,Jp⟩:=h2 (aU _ _ hlt) (J.o.strs (by rw[Jb];omega));generalize t.gl[k]=p at c0 Jc Jl;generalize hsn:(t.gl.take k).map (·.nm)=seen at J Jc Jp Jb;have⟨Jt,Jy⟩:=h2 hsn (gz _ _ p.nm wr (by rw[Jb];omega) Jp);go_wp2_with fail;refine Jy.o.mono ?_;rintro e w2 ⟨rfl,Jd⟩;have Jh:Below (w.heap.size+2) W1 w2:=hB.trans (Jd.mono Jq);have d0:=(Jd.cell (p:=⟨b,Js+k*2,none⟩) Xa).trans c0;have Jn:Hid (eF (w.heap.size+2) w2 (.slice a3 k c3) seen):=J.o.below Jd;have⟨⟨x0,x1⟩,⟨U,r1,r2⟩,I,Ja,Je⟩:=Jm w2 Jh;have z0:=I 0;have z1:=I 1;have z2:=I 2;cases hx:dF seen p.nm with
   | true=>
    have HE:Hid (Jj=(2,-1,-1)):=by show _=_;rw[Jf.o];unfold bJ;rw[if_pos (by rw[Jc.o];exact tZ hx)]
    go_wp2_with fail;have⟨Z,t1,t2⟩:=set3 (u0:=V 2) (u1:=V (-1)) (u2:=V (-1)) U r1 r2;refine bodyPost_ret (v:=.agg #[V 2,V (-1),V (-1)]) (by simp[results,results20,go_sem,Z,t1,t2]) rfl ⟨aD (by rw[HE.o];rfl),?_⟩;exact If Ja
   | false=>
    have Jv:Hid (fU [] t.gl=fU ((t.gl.take (k+1)).map (·.nm)) (t.gl.drop (k+1))):=(by show _=_;rw[Jc.o,qJ hx,Jl.o,<-Jt.o];simp);have Jr:Hid (seen++[p.nm]=(t.gl.take (k+1)).map (·.nm)):=(by show _=_;rw[Jl.o,<-Jt.o];simp);go_wp2_with(at_builtin;refine cQ rfl _ _ _ rfl (w.heap.size+2) 9 i0 _ 1 16 underlying49 hi Xc Xg Xf rfl d_ _ k (seen.map Value.string) rfl (by have:=Jn.o.below (r_.alloc n_ (.cells #[sV p.nm] 9));unfold eF at this;rw[Jb]at this;exact this) ⟨w2.heap.size,0,none⟩ 1 1 [sV p.nm] rfl rfl (cell_one_new _ _ _) (by simp[oneCell']) o_ d_ H6 ?_);intro v9 w9 Jx Jz Xi;have Jg:Hid (eF (w.heap.size+2) w9 v9 ((t.gl.take (k+1)).map (·.nm))):=by show ownsRow _ _ _ _ _ _ _;rw[<-Jr.o,l_a,Jb,map_append];exact Jx
    have J_:Below (w.heap.size+2) W1 w9:=(Jh.alloc Je _).grown Jz H6 (λg hg=>(ownsRow.lt Jn g hg).1);obtain⟨a9,c9,rfl⟩:=Jg.o.shape;have Jk:((t.gl.take (k+1)).map (·.nm)).length=k+1:=H6;rw[Jk]at Jg⊢;go_wp2;go_roundw
    case rel=>exact⟨k+1,o_,by go_num,Jg,Jv,J_⟩
    case measure=>exact IF
  have Ju:k=t.gl.length:=o_;subst Ju;have Xb:Hid (fU [] t.gl=false):=(by show _=_;rw[HD.o];simp[fU]);have Xl:Hid (eF (w.heap.size+2) wr (.slice a3 t.gl.length c3) (t.gl.map (·.nm))):=by
   have:=J.o
   rw[take_length]at this;exact this
  go_wp2;go_loopw[3,5] (λsv i w2=>∃(k:Nat),k<=t.fc.length/\i=V k/\eF (w.heap.size+2) w2 sv (t.gl.map (·.nm)++(t.fc.take k).map (·.nm))/\fL (t.gl.map (·.nm)) 0 t.fc=fL (t.gl.map (·.nm)++(t.fc.take k).map (·.nm)) k (t.fc.drop k)/\Below (w.heap.size+2) W1 w2) (λ_ i _=>t.fc.length-(RowKit.intOf i).toNat)
  case atStart=>exact⟨0,y_,rfl,IN Xl.o,i_,hB⟩
  case round=>
   obtain⟨k,hk,rfl,hR,hd,hB⟩:=hrel;obtain⟨a3,c3,rfl⟩:=hR.shape;have⟨J,HD⟩:=h2 hR hd;have⟨⟨x0,x1⟩,⟨U,r1,r2⟩,I,Ja,Jq⟩:=Jm wr hB;have z0:=I 0;have z1:=I 1;have z2:=I 2;have Jb:(t.gl.map (·.nm)++(t.fc.take k).map (·.nm)).length=t.gl.length+k:=H6;rw[Jb]at J⊢;by_cases hlt:k<t.fc.length
   ·obtain⟨b,Js,rfl,hc⟩:=Xh o_;obtain⟨vp,vb,⟨c0,-⟩,-⟩:=(hc.below Ja) k hlt;have Xa:b<wr.heap.size:=b_ c0;have Jc:Hid (fL (t.gl.map (·.nm)) 0 t.fc=fL (t.gl.map (·.nm)++(t.fc.take k).map (·.nm)) k (t.fc[k]::t.fc.drop (k+1))):=(by show _=_;rw[HD.o,eh _ _ hlt]);have⟨Jl,Jp⟩:=h2 (aU _ _ hlt) (J.o.strs (by rw[Jb];omega));generalize t.fc[k]=p at c0 Jc Jl;generalize hsn:t.gl.map (·.nm)++(t.fc.take k).map (·.nm)=seen at J Jc Jp Jb;have⟨Jt,Jy⟩:=h2 hsn (gz _ _ p.nm wr (by rw[Jb];omega) Jp);go_wp2_with fail;refine Jy.o.mono ?_;rintro e w2 ⟨rfl,Jd⟩;have Jh:Below (w.heap.size+2) W1 w2:=hB.trans (Jd.mono Jq);have d0:=(Jd.cell (p:=⟨b,Js+k*3,none⟩) Xa).trans c0;have Jn:=ah (J.o.below Jd);have⟨⟨x0,x1⟩,⟨U,r1,r2⟩,I,Ja,Je⟩:=Jm w2 Jh;have z0:=I 0;have z1:=I 1;have z2:=I 2;cases hx:dF seen p.nm with
    | true=>
     have HE:Hid (Jj=(2,(k:Int),-1)):=by show _=_;rw[Jf.o];unfold bJ;rw[if_neg (by rw[Xb.o];simp),Jc.o,ub hx]
     go_wp2_with fail;have⟨Z,t1,t2⟩:=set3 (u0:=V 2) (u1:=V (k:Int)) (u2:=V (-1)) U r1 r2;refine bodyPost_ret (v:=.agg #[V 2,V (k:Int),V (-1)]) (by simp[results,results20,go_sem,Z,t1,t2]) rfl ⟨aD (by rw[HE.o];rfl),?_⟩;exact If Ja
    | false=>
     have Jr:Hid (seen++[p.nm]=t.gl.map (·.nm)++(t.fc.take (k+1)).map (·.nm)):=(by show _=_;rw[Jl.o,<-Jt.o];simp);have Jv:Hid (fL (t.gl.map (·.nm)) 0 t.fc=fL (t.gl.map (·.nm)++(t.fc.take (k+1)).map (·.nm)) ((k+1:Nat):Int) (t.fc.drop (k+1))):=(by show _=_;rw[Jc.o,qK hx,Jr.o];simp);go_wp2_with(at_builtin;refine cQ rfl _ _ _ rfl (w.heap.size+2) 9 i0 _ 1 16 underlying49 hi Xc Xg Xf rfl d_ _ (t.gl.length+k) (seen.map Value.string) rfl (by have:=Jn.o.below (r_.alloc n_ (.cells #[sV p.nm] 9));unfold eF at this;rw[Jb]at this;exact this) ⟨w2.heap.size,0,none⟩ 1 1 [sV p.nm] rfl rfl (cell_one_new _ _ _) (by simp[oneCell']) o_ d_ H6 ?_);intro v9 w9 Jx Jz Xi;have Jg:Hid (eF (w.heap.size+2) w9 v9 (t.gl.map (·.nm)++(t.fc.take (k+1)).map (·.nm))):=by show ownsRow _ _ _ _ _ _ _;rw[<-Jr.o,l_a,Jb,map_append];exact Jx
     have J_:Below (w.heap.size+2) W1 w9:=(Jh.alloc Je _).grown Jz H6 (λg hg=>(ownsRow.lt Jn g hg).1);obtain⟨a9,c9,rfl⟩:=Jg.o.shape;have Jk:(t.gl.map (·.nm)++(t.fc.take (k+1)).map (·.nm)).length=t.gl.length+k+1:=H6;rw[Jk]at Jg⊢;go_wp2;go_roundw
     case rel=>exact⟨k+1,o_,by go_num,Jg,Jv,J_⟩
     case measure=>exact IF
   have Xo:Hid (fL (t.gl.map (·.nm)) 0 t.fc=none):=by show _=_;have Ju:k=t.fc.length:=o_;rw[HD.o,Ju,drop_length];rfl
   have Xe:Hid (Jj=match a_ t.fc dt with|none=>(3,-1,-1)|some m=>if (t.fc.getD m ⟨⟨#[]⟩,[],[]⟩).pm.length>0 then(3,-1,-1)else(0,-1,-1)):=by show _=_;rw[Jf.o];unfold bJ;rw[if_neg (by rw[Xb.o];simp),Xo.o];rfl
   have Xr:Hid (Calls prog 22 #[.agg #[.slice ag t.gl.length cg,.slice af t.fc.length cf],sV ⟨#[109,97,105,110]⟩] wr λe w'=>e=rW (V (mG t.fc dt))/\Bl wr w'):=jh t.fc _ _ dt wr o_ (HF.o.below Ja);go_wp2_with fail;refine Xr.o.mono ?_;rintro e w2 ⟨rfl,Jd⟩;have Jh:Below (w.heap.size+2) W1 w2:=hB.trans (Jd.mono Jq);have⟨⟨x0,x1⟩,⟨U,r1,r2⟩,I,Ja,Je⟩:=Jm w2 Jh;have z0:=I 0;have z1:=I 1;have z2:=I 2;cases hm:a_ t.fc dt with
   | none=>have HE:Hid (Jj=(3,-1,-1)):=(by show _=_;rw[Xe.o,hm]);rw[jg hm];go_wp2_with fail;have⟨Z,t1,t2⟩:=set3 (u0:=V 3) (u1:=V (-1)) (u2:=V (-1)) U r1 r2;refine bodyPost_ret (v:=.agg #[V 3,V (-1),V (-1)]) (by simp[results,results20,go_sem,Z,t1,t2]) rfl ⟨aD (by rw[HE.o];rfl),?_⟩;exact If Ja
   | some m=>
    have Xd:=dE hm;obtain⟨b,Js,rfl,hc⟩:=Xh o_;obtain⟨vp,vb,⟨-,c1,-⟩,⟨ap,cp,rfl,-⟩,-⟩:=(hc.below Ja) m Xd;have he:t.fc.getD m ⟨⟨#[]⟩,[],[]⟩=t.fc[m]:=(by simp[List.getD,Xd]);rw[ie hm];have Ji:Hid (Jj=if t.fc[m].pm.length>0 then(3,-1,-1)else(0,-1,-1)):=(by show _=_;rw[Xe.o,hm];simp only;rw[he]);generalize t.fc[m].pm.length=np at c1 Ji;by_cases hnp:0<np
    ·have HE:Hid (Jj=(3,-1,-1)):=(by show _=_;rw[Ji.o,if_pos hnp]);go_wp2_with fail;have⟨Z,t1,t2⟩:=set3 (u0:=V 3) (u1:=V (-1)) (u2:=V (-1)) U r1 r2;refine bodyPost_ret (v:=.agg #[V 3,V (-1),V (-1)]) (by simp[results,results20,go_sem,Z,t1,t2]) rfl ⟨aD (by rw[HE.o];rfl),?_⟩;exact If Ja
    have HE:Hid (Jj=(0,-1,-1)):=(by show _=_;rw[Ji.o,if_neg hnp]);obtain rfl:np=0:=(by omega);go_wp2_with fail;have⟨Z,t1,t2⟩:=set3 (u0:=V 0) (u1:=V (-1)) (u2:=V (-1)) U r1 r2;refine bodyPost_ret (v:=.agg #[V 0,V (-1),V (-1)]) (by simp[results,results20,go_sem,Z,t1,t2]) rfl ⟨aD (by rw[HE.o];rfl),?_⟩;exact If Ja
