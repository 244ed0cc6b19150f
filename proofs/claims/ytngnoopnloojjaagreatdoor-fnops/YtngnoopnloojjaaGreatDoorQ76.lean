import Derived.Deep.CutRange
import Derived.Deep.RegionHeld
import Derived.Deep.RegionHeldLaw
import Derived.Shelf.SlicesQ.Reverse
import Derived.Lib.OwnBridge
import Derived.Test.YtngnoopnloojjaaGreatDoorQ70
variable [Inhabited Go.Proofs.YtngnoopnloojjaaGreatDoor.Pick]
set_option linter.all false
set_option maxRecDepth 100000
set_option maxHeartbeats 0
namespace Go.Proofs.YtngnoopnloojjaaGreatDoor
open Go.Value Go.World List
section
open Go.RowKit
variable{e r:List Nd}{x:Int}{n:Nd}{w w3:AT}{F:Nat->List Nd}{k:Nat}{ov fv:BY}
theorem Fd.pos{ap:Int->Int->Int->Int}(h:Fd ap e r):0<r.length:=by
 cases h using Fd_i with
 | mk e A b F hc hk=>
  unfold eH;repeat' split
  all_goals first|(simp[iQ];done)|(simp[eX];split <;> simp[iQ];done)|(simp only[l_a,l_c];omega)
def JP(op a:Int):xM (Dl op a):=by
 unfold Dl MD;split;exact Ap.w32_bd _;split;unfold boolN;split <;> exact⟨d_,d_⟩
 exact Ap.w32_bd _
def AM(b:Bool):xM (boolN b):=by cases b <;> exact⟨d_,d_⟩
def mj{v:Int}(h:gI (iQ v)=some x):x=v:=by simpa[gI,iQ]using h.symm
theorem kc(H:0<r.length)(h:gI (r++[n])=some x):False:=by
 cases r with
 | nil=>simp at H
 | cons a l=>cases l  <;>  simp[gI]at h
theorem wy(H:0<r.length)(h:gI (eX r)=some x):xM x:=by
 unfold eX at h;split at h;rw[mj h];exact AM _;cases r with
 | nil=>simp at H
 | cons a l=>cases l  <;>  simp[gI]at h
theorem Fd.bd(h:Fd cL e r)(H:gI r=some x):xM x:=by
 cases h using Fd_i with
 | mk e A b F hc hk=>
  have I:∀i,i<A->0<(F i).length:=λi hi=>(hk i hi).pos;unfold eH at H;split at H
  rename_i h6;have J:=hc.ar1 (.inr h6);split at H;rw[mj H];exact JP _ _;exact absurd H (λh=>kc (I 0 o_) h);split at H;rename_i h7;have J:=hc.ar2 (.inl h7);split at H;rw[mj H];exact Am _ _ _;exact absurd H (λh=>kc (by have:=I 0 o_;simp;omega) h);split at H;rename_i h8;have J:=hc.ar2 (.inr (.inl h8));split at H;split at H;rw[mj H];exact⟨d_,d_⟩;exact wy (I 1 o_) H;exact absurd H (λh=>kc (by have:=I 0 o_;simp;omega) h);split at H;rename_i h9;have J:=hc.ar2 (.inr (.inr h9));split at H;split at H;exact wy (I 1 o_) H;rw[mj H];exact⟨d_,d_⟩;exact absurd H (λh=>kc (by have:=I 0 o_;simp;omega) h);have hj:joinF F A=[]\/0<(joinF F A).length:=by cases joinF F A <;> simp
  rcases hj with hj|hj;rw[hj]at H;have O:=hc.root_good;simp only[nil_append,gI]at H;split at H;rename_i h1;have: -2147483648<=(d6 e).val/\(d6 e).val<=2147483647:=by unfold aD at O;simp[h1]at O;omega
  simp only[If]at H;rw[<-H];exact this;cases H;exact absurd H (λh=>kc hj h)
def NI(h:aD n=true)(h6:n.kd=6):0<=n.val/\n.val<=2:=by unfold aD at h;simp[h6]at h;omega
end
section
open Go.RowKit
variable{a e:List Nd}{n:Nd}
theorem lD(F:Nat->List Nd):∀A,joinF F A=((List.range A).map F).flatten
 | 0=>rfl
 | A+1=>by simp[joinF,lD F A,range_succ]
def jl{x:Int}(h:xM x):oneB (iQ x)=true:=by
 have:=ja [] ⟨1,x,⟨#[]⟩⟩ (by unfold aD;simp only[if_true,Io,K0];exact⟨h,i_⟩) rfl (λs hs=>by simp at hs)
 exact this
def E4{b:List Nd}(I:oneB a=true)(J:oneB b=true)(H:aD n=true)(h:arity n=2):oneB (a++b++[n])=true:=by
 have:=ja [a,b] n H (D4 h) (λs hs=>by simp at hs;rcases hs with rfl|rfl <;> assumption)
 simpa using this
def pZ(h:oneB e=true):oneB (eX e)=true:=by
 unfold eX;split;exact jl (AM _)
 have:=E4 (n:=⟨7,12,⟨#[]⟩⟩) h (jl (x:=0) ⟨d_,d_⟩) (by unfold aD;simp) rfl
 simpa[iQ]using this
theorem Fd.oneB{r:List Nd}(h:Fd cL e r):oneB r=true:=by
 induction h using Fd_i with
 | mk e A b F hc hk ih=>
  have J:=hc.root_good;have Ja:=hc.ar;have I:Go.Proofs.YtngnoopnloojjaaGreatDoor.oneB (joinF F A++[d6 e])=true:=by rw[lD];refine ja _ _ J (D4 Ja) (λs hs=>?_);simp only[mem_map,mem_range]at hs;obtain⟨i,O,rfl⟩:=hs;exact ih i O
  unfold eH;split;rename_i h6;have H:=hc.ar1 (.inr h6);subst H;split;exact jl (JP _ _);exact I;split;rename_i h7;have H:=hc.ar2 (.inl h7);subst H;split;exact jl (Am _ _ _);exact I;split;rename_i h8;have H:=hc.ar2 (.inr (.inl h8));subst H;split;split;exact jl ⟨d_,d_⟩;exact pZ (ih 1 o_);exact I;split;rename_i h9;have H:=hc.ar2 (.inr (.inr h9));subst H;split;split;exact pZ (ih 1 o_);exact jl ⟨d_,d_⟩;exact I;exact I
end
end Go.Proofs.YtngnoopnloojjaaGreatDoor
namespace Go.Proofs.YtngnoopnloojjaaGreatDoor
open Go.Value Go.World List
open Go.Proofs.Tryz Go.RowKit
def Lf(n:Nd)(hn:aD n=true)(A:Nat)(O:arity n=A)(S:DO)(ar:BY)(Y:Nat->BY)(F:Nat->List Nd)(w:AT)(ha:gx w S ar A Y)(J:∀i,i<A->Tv w S (Y i) (F i))(Z:∀i,i<A->∀x,gI (F i)=some x->xM x)(U:∀B,S B->B<w.heap.size):
  Calls prog 22 #[j8 n ar Y] w λe w'=>∃u,e=rW u/\Tv w' S u (eH cL n A F)/\Bl w w':=by
 have Jd:=fb hn;have⟨Jb,Jc⟩:=sC hn;have h6:=λh=>NI hn h;obtain⟨I,X,nm⟩:=n;simp only at Jd Jb Jc h6;have hk:I=1\/I=2\/I=3\/I=4\/I=5\/I=6\/I=7\/I=8\/I=9:=o_
 rcases hk with rfl|rfl|rfl|rfl|rfl|rfl|rfl|rfl|rfl;obtain rfl:=Jb o_;have H:A=0:=by simp[arity]at O;omega
 subst H;refine(ji 100 _ d_ d_ d_ d_ w).mono ?_;rintro e w' ⟨rfl,Ja⟩;exact⟨_,rfl,.num X,Ja⟩;obtain rfl:=Jc o_;have H:A=0:=by simp[arity]at O;omega
 subst H;refine(ji 169 _ d_ d_ d_ d_ w).mono ?_;rintro e w' ⟨rfl,Ja⟩;exact⟨_,rfl,.var nm,Ja⟩;obtain rfl:=Jc o_;have H:A=1:=by simp[arity]at O;omega
 subst H;refine(ji 171 _ d_ d_ d_ d_ w).mono ?_;rintro e w' ⟨rfl,Ja⟩;exact⟨_,rfl,.index nm _ _ ((J 0 o_).bel U Ja),Ja⟩;have H:X=A:=by simp[arity]at O;omega
 subst H;refine(ji 173 _ d_ d_ d_ d_ w).mono ?_;rintro e w' ⟨rfl,Ja⟩;exact⟨_,rfl,.call nm _ A Y F (ha.keep (λ_ h=>h) (λB hB=>Ja.block B (U B hB))) (λi hi=>(J i hi).bel U Ja),Ja⟩;obtain rfl:=Jb o_;obtain rfl:=Jc o_;have H:A=0:=by simp[arity]at O;omega
 subst H;refine(ji 176 _ d_ d_ d_ d_ w).mono ?_;rintro e w' ⟨rfl,Ja⟩;exact⟨_,rfl,.inn,Ja⟩;obtain rfl:=Jb o_;have H:A=1:=by simp[arity]at O;omega
 subst H;exact NG X (h6 rfl).1 (h6 rfl).2 (J 0 o_) (Z 0 o_) U;obtain rfl:=Jb o_;have H:A=2:=by simp[arity]at O;omega
 subst H;exact Ld X (J 0 o_) (J 1 o_) U;obtain rfl:=Jb o_;obtain rfl:=Jc o_;have H:A=2:=by simp[arity]at O;omega
 subst H;exact Le (J 0 o_) (J 1 o_) (Z 1 o_) U;obtain rfl:=Jb o_;obtain rfl:=Jc o_;have H:A=2:=by simp[arity]at O;omega
 subst H;exact NH (J 0 o_) (J 1 o_) (Z 1 o_) U
theorem Cl(n:Nd)(hn:aD n=true)(A:Nat)(hA:arity n=A)(S:Nat->Prop)(X:Value)(U:Nat->Value)(F:Nat->List Nd)(C:Nat)(w:World)(hC:w.cell? ⟨C,0,none⟩=some (.func (Fn.func 22) #[] #[]))(ha:gx w S X A U)(O:∀i,i<A->Tv w S (U i) (F i))(hb:∀i,i<A->∀x,gI (F i)=some x->xM x)(hS:∀B,S B->B<w.heap.size):
  Calls prog 37 #[.agg #[V n.kd,V n.val,sV n.nm],X,pV C] w λe w'=>∃u,e=rW u/\Tv w' S u (eH cL n A F)/\Below w.heap.size w w':=by
 have Jc:=b_ hC;have bx:∀o,Bl w (w.alloc o).drew:=λo=>(r_.alloc n_ o).drew;have HN:=ah λW (J:Bl w W)=>pP n hn A hA S X U W (ha.keep (λ_ h=>h) (λB hB=>J.block B (hS B hB))) (λi hi=>(O i hi).isI);have Y:=ah λW (J:Bl w W)=>Lf n hn A hA S X U F W (ha.keep (λ_ h=>h) (λB hB=>J.block B (hS B hB))) (λi hi=>(O i hi).bel hS J) hb (λB hB=>l_ (hS B hB) J.size);have q0:∀o,(w.alloc o).cell? ⟨C,0,none⟩=some (.func (Fn.func 22) #[] #[]):=λo=>((r_.alloc n_ o:Bl w (w.alloc o)).cell (p:=⟨C,0,none⟩) Jc).trans hC;obtain⟨I,H,nm⟩:=n;simp only at HN Y⊢;generalize j8 ⟨I,H,nm⟩ X U=NV at HN Y;generalize eH cL ⟨I,H,nm⟩ A F=T at Y⊢;go_in;go_wp2_with fail;have Jf:=ah λo=>HN.out _ (bx o);have HK:Hid (∀w2,Below (w.alloc (.cells #[V I,V H,sV nm] 36)).drew.heap.size (w.alloc (.cells #[V I,V H,sV nm] 36)).drew w2->w2.cell? ⟨C,0,none⟩=some (.func (Fn.func 22) #[] #[])/\w2.cell? ⟨w.heap.size,0,none⟩=some (V I)/\w2.cell? ⟨w.heap.size,1,none⟩=some (V H)/\w2.cell? ⟨w.heap.size,2,none⟩=some (sV nm)/\Bl w w2):=by intro w2 h;have Z:Below (w.alloc (.cells #[V I,V H,sV nm] 36)).heap.size (w.alloc (.cells #[V I,V H,sV nm] 36)) w2:=r_.drew.trans h;have g:∀i v,(w.alloc (.cells #[V I,V H,sV nm] 36)).cell? ⟨w.heap.size,i,none⟩=some v->w2.cell? ⟨w.heap.size,i,none⟩=some v:=λi v O=>(Z.cell (p:=⟨w.heap.size,i,none⟩) i_).trans O;exact⟨(Z.cell (p:=⟨C,0,none⟩) (by simp;omega)).trans (q0 _),g _ _ (by go_simp),g _ _ (by go_simp),g _ _ (by go_simp),(bx _).trans (h.mono i_)⟩
 have Jb:∀w2 w3:World,Bl w2 w3->∀B i v,w2.cell? ⟨B,i,none⟩=some v->w3.cell? ⟨B,i,none⟩=some v:=by intro w2 w3 h B i v O;exact(h.cell (p:=⟨B,i,none⟩) (b_ O)).trans O
 have Jg:Hid (∀W:World,Bl w W->W.cell? ⟨C,0,none⟩=some (.func (Fn.func 22) #[] #[])->W.cell? ⟨w.heap.size,0,none⟩=some (V I)->W.cell? ⟨w.heap.size,1,none⟩=some (V H)->W.cell? ⟨w.heap.size,2,none⟩=some (sV nm)->Calls prog 22 #[NV] W λe w'=>∃u,e=rW u/\(Tv w' S u T/\Bl w w')/\w'.cell? ⟨C,0,none⟩=some (.func (Fn.func 22) #[] #[])/\w'.cell? ⟨w.heap.size,0,none⟩=some (V I)/\w'.cell? ⟨w.heap.size,1,none⟩=some (V H)/\w'.cell? ⟨w.heap.size,2,none⟩=some (sV nm)):=by intro W J Z h2 h3 h4;refine(Y.out W J).mono ?_;rintro e w' ⟨u,rfl,h5,h6⟩;exact⟨u,rfl,⟨h5,J.trans (h6.mono J.size)⟩,Jb _ _ h6 _ _ _ Z,Jb _ _ h6 _ _ _ h2,Jb _ _ h6 _ _ _ h3,Jb _ _ h6 _ _ _ h4⟩
 have q1:=q0 (.cells #[V I,V H,sV nm] 36);go_region_held (λW=>W.cell? ⟨C,0,none⟩=some (.func (Fn.func 22) #[] #[])/\W.cell? ⟨w.heap.size,0,none⟩=some (V I)/\W.cell? ⟨w.heap.size,1,none⟩=some (V H)/\W.cell? ⟨w.heap.size,2,none⟩=some (sV nm)) (first|go_keep|(exact⟨q1,by go_simp,by go_simp,by go_simp⟩))
  (first
  | ((with_reducible refine Calls.mono (Jf.out _) ?_);intro x w2 hx;obtain⟨Jd,Ja⟩:=hx;subst Jd;have⟨qa,Je,Jh,Ji,qw⟩:=HK.out w2 Ja;clear Ja)
  | ((with_reducible refine Calls.mono (Jg.out _ qw qa Je Jh Ji) ?_);intro x w3 hx;obtain⟨u,Jd,Ja,r0,r1,r2,r3⟩:=hx;subst Jd;have HT:Hid (Tv w3 S u T/\Bl w w3):=Ja;clear Ja))
 go_wp2;go_ret;exact⟨_,rfl,HT.out.1,HT.out.2⟩
abbrev Iv:=List Nd×List Nd×BY
def vsL(L:List Iv)(i:Nat):BY:=(L.getD i ([],[],.nilIface)).2.2
def fsL(L:List Iv)(i:Nat):List Nd:=(L.getD i ([],[],.nilIface)).2.1
structure RI (w wr:AT) (e:List Nd) (k:Nat) (v:BY) (T:List Iv) (S:DO):Prop where
 flat:(T.map (·.1)).flatten=e.take k
 each:∀t∈T,oneB t.1=true/\Fd cL t.1 t.2.1/\Tv wr S t.2.2 t.2.1
 row:eT w.heap.size wr v (T.map (·.2.2))
 sep:∀B,S B->w.heap.size<=B/\B<wr.heap.size/\v.ownBlock≠some B
 bel:Bl w wr
def RI.below{w wr w':AT}{e:List Nd}{k:Nat}{v:BY}{T:List Iv}{S:DO}(h:RI w wr e k v T S)(H:Bl wr w'):RI w w' e k v T S:=by refine⟨h.flat,λt ht=>⟨(h.each t ht).1,(h.each t ht).2.1,(h.each t ht).2.2.bel (λB hB=>(h.sep B hB).2.1) H⟩,ownB h.row H,λB hB=>?_,h.bel.trans (H.mono h.bel.size)⟩;have:=h.sep B hB;exact⟨this.1,l_ this.2.1 H.size,this.2.2⟩
def RI.one{w wr:AT}{e:List Nd}{k:Nat}{v:BY}{T:List Iv}{S:DO}(h:RI w wr e k v T S):∀u∈T.map (·.2.2),u.oneCell'=true:=by intro u H;simp only[mem_map]at H;obtain⟨t,I,rfl⟩:=H;have⟨a,b,Ja⟩:=(h.each t I).2.2.isI;rw[Ja];rfl
def RI.segs{w wr:AT}{e:List Nd}{k:Nat}{v:BY}{T:List Iv}{S:DO}(h:RI w wr e k v T S):∀s∈T.map (·.1),oneB s=true:=by intro s H;simp only[mem_map]at H;obtain⟨t,I,rfl⟩:=H;exact(h.each t I).1
def um(S:DO)(u:BY)(B:Nat):Prop:=S B\/u.ownBlock=some B
theorem RI.kids{w wr w3:AT}{e:List Nd}{k:Nat}{v:BY}{T:List Iv}{S:DO}(h:RI w wr e k v T S)(H A:Nat)(Jf:H+A=T.length)(U:Bl wr w3){u:BY}(O:eT wr.heap.size w3 u ((T.drop H).map (·.2.2))):
  gx w3 (um S u) u A (vsL (T.drop H))/\(∀i,i<A->Tv w3 (um S u) (vsL (T.drop H) i) (fsL (T.drop H) i))/\(∀i,i<A->∀x,gI (fsL (T.drop H) i)=some x->xM x)/\∀B,um S u B->B<w3.heap.size:=by
 have Jb:(T.drop H).length=A:=by simp;omega
 have Ja:∀i (I:i<A),(T.drop H).getD i ([],[],.nilIface)=(T.drop H)[i]'(by omega)/\(T.drop H)[i]'(by omega)∈T:=by intro i I;refine⟨by simp[List.getD,K3 (show i<(T.drop H).length by omega)],K6 (g_ _)⟩
 refine⟨?_,λi I=>?_,λi I x hx=>?_,λB hB=>?_⟩;obtain⟨a,Jc,rfl,J,h2,h3,h4⟩:=O.form;simp only[K8,Jb]at J⊢;refine⟨a,Jc,rfl,J,h2,λh0=>?_⟩;cases a with
 | none=>
  have:=h3 rfl
  have h5:=congrArg List.length this;simp only[K8,l_n]at h5;omega
 | some ad=>obtain⟨g,rfl,Jd,Je,X⟩:=h4 ad rfl;refine⟨g,rfl,.inr rfl,λi I=>?_⟩;refine X i _ ?_;rw[getElem?_map,K3 (show i<(T.drop H).length by omega),Option.map_some,vsL,(Ja i I).1]
 ·have:=(h.each _ (Ja i I).2).2.2
  rw[vsL,fsL,(Ja i I).1];exact this.keep (λB hB=>.inl hB) (λB hB=>U.block B (h.sep B hB).2.1)
 ·have:=(h.each _ (Ja i I).2).2.1
  rw[fsL,(Ja i I).1]at hx;exact this.bd hx
 rcases hB with hB|hB;exact l_ (h.sep B hB).2.1 U.size;exact(O.own B hB).2
def RI.step{w wr w3 w4 w5 U:AT}{e:List Nd}{k:Nat}{v v' u J:BY}{T:List Iv}{S:DO}(h:RI w wr e k v T S)(hk:k<e.length)(H A:Nat)(Jl:H+A=T.length)(hn:aD e[k]=true)(Z:arity e[k]=A)
  (X:Bl wr w3) (hu:eT wr.heap.size w3 u ((T.drop H).map (·.2.2))) (Jf:Bl w3 w4) (hT:Tv w4 (um S u) J (eH cL e[k] A (fsL (T.drop H)))) (Jg:Bl w4 w5)
  (hr:eT w.heap.size U v' ((T.take H).map (·.2.2)++[J])) (I:w5.grownBy U v.ownBlock) (hf:∀g,v'.ownBlock=some g->v.ownBlock=some g\/w5.heap.size<=g):
  ∃T' S',RI w U e (k+1) v' T' S':=by
 have Ji:∀g,v.ownBlock=some g->w.heap.size<=g/\g<wr.heap.size:=λg I=>h.row.own g I;have Je:Bl wr w5:=(X.trans (Jf.mono X.size)).trans (Jg.mono (t_ X.size Jf.size));have Ja:∀B,um S u B->B<w3.heap.size/\w.heap.size<=B/\v.ownBlock≠some B:=by intro B hB;rcases hB with hB|hB;exact⟨l_ (h.sep B hB).2.1 X.size,(h.sep B hB).1,(h.sep B hB).2.2⟩;have O:=hu.own B hB;have h2:=h.bel.size;refine⟨O.2,o_,λhh=>?_⟩;have:=Ji B hh;omega
 have Jk:w3.heap.size<=w5.heap.size:=t_ Jf.size Jg.size;have Jb:∀B,um S u B->U.heap[B]? =w5.heap[B]? :=λB hB=>I.block B (by have:=(Ja B hB).1;omega) (λhh=>(Ja B hB).2.2 hh.symm);refine⟨T.take H++[(((T.drop H).map (·.1)).flatten++[e[k]],eH cL e[k] A (fsL (T.drop H)),J)],um S u,?_,?_,?_,?_,?_⟩
 simp only[map_append,map_cons,map_nil,flatten_append,flatten_cons,flatten_nil,append_nil];rw[<-append_assoc,<-flatten_append,<-map_append,take_append_drop,h.flat,take_succ_eq_append_getElem hk]
 ·intro t ht;rw[K5]at ht;rcases ht with ht|ht
  ·have:=h.each t (mem_of_mem_take ht)
   refine⟨this.1,this.2.1,this.2.2.keep (λB hB=>.inl hB) (λB hB=>?_)⟩;rw[Jb B (.inl hB)];exact Je.block B (h.sep B hB).2.1
  simp only[K7]at ht;subst ht;have Jc:∀s∈(T.drop H).map (·.1),oneB s=true:=by intro s Y;simp only[mem_map]at Y;obtain⟨t,ht,rfl⟩:=Y;exact(h.each t (K6 ht)).1
  have Jd:((T.drop H).map (·.1)).length=A:=Do;refine⟨ja _ _ hn (by rw[Jd,Z]) Jc,?_,hT.keep (λ_ hB=>hB) (λB hB=>?_)⟩
  have:=G2 cL ((T.drop H).map (·.1)) e[k] hn (by rw[Jd,Z]) Jc (fsL (T.drop H)) (λi hi=>by have Jj:i<(T.drop H).length:=(D4 hi);rw[fsL];simp only[getElem_map,List.getD,K3 Jj,Option.getD_some];exact(h.each _ (K6 (g_ _))).2.1)
  rw[Jd]at this;exact this;rw[Jb B hB];exact Jg.block B (by have:=(Ja B hB).1;have:=Jf.size;omega)
 have e1:(T.take H++[(((T.drop H).map (·.1)).flatten++[e[k]],eH cL e[k] A (fsL (T.drop H)),J)]).map (·.2.2)=(T.take H).map (·.2.2)++[J]:=i_;rw[e1];exact hr;intro B hB;have O:=Ja B hB;refine⟨O.2.1,Ft I.size,λhh=>?_⟩;rcases hf B hh with h2|h2;exact O.2.2 h2;omega;have Jh:Bl w w5:=h.bel.trans (Je.mono h.bel.size);exact Jh.grown I Jh.size (λg I=>(Ji g I).1)
theorem RI.fin{w wr:AT}{e r:List Nd}{v:BY}{T:List Iv}{S:DO}(h:RI w wr e e.length v T S)(O:oneB e=true)(U:Fd cL e r):∃u g,(∃cap,v=rV g 1 cap)/\Bo wr g 0 u/\Tv wr S u r:=by
 have H:T.map (·.1)=[e]:=uV O h.segs (by rw[h.flat,take_length]);have J:T.length=1:=by have:=congrArg List.length H;simpa using this
 obtain⟨t,rfl⟩:=length_eq_one_iff.1 J;simp only[map_cons,map_nil,List.cons.injEq,and_true]at H;have h2:=h.each t i_;rw[H]at h2;have h3:=h2.2.1.one U;rw[h3]at h2;have⟨a,cap,I,_,_,h5,h6⟩:=h.row.form;cases a with
 | none=>have:=h5 rfl;simp at this
 | some ad=>obtain⟨g,rfl,_,_,h7⟩:=h6 ad rfl;exact⟨t.2.2,g,⟨cap,I⟩,h7 0 _ i_,h2.2.2⟩
theorem zh(v:Value)(e r:List Nd)(C:Nat)(w:World)(Jn:eG w)(hN:a_ w v e)(Jo:oneB e=true)(hl:e.length<=2000)(hr:Fd cL e r)(hC:w.cell? ⟨C,0,none⟩=some (.func (Fn.func 22) #[] #[])):
    Calls prog 36 #[v,.func (Fn.func 37) #[] #[pV C]] w λx w'=>∃u S,x=rW u/\Tv w' S u r/\(∀B,S B->w.heap.size<=B/\B<w'.heap.size)/\Below w.heap.size w w':=by
  obtain⟨i0,Xw,Xo,Xy,Xu⟩:=info_parts oL;obtain⟨a,Yh,rfl,Yj,Yf,hc⟩:=hN;have HC:Hid (0<e.length->∃b Jj,a=some ⟨b,Jj,none⟩/\iq w b Jj e):=hc;have Ya:Hid (w.cell? ⟨C,0,none⟩=some (.func (Fn.func 22) #[] #[])):=hC;have Ju:=b_ hC;have Jm:Hid (oneB e=true):=Jo;have Xq:Hid (Fd cL e r):=hr;have Jk:Hid (eG w):=Jn;clear hc hC Jo hr Jn;go_in;go_wp2;go_loopw[5,12] (λst ix wr=>∃k:Nat,k<=e.length/\ix=V k/\∃T S,RI w wr e k st T S) (λ_ ix _=>e.length-(RowKit.intOf ix).toNat)
  case atStart=>exact⟨0,y_,rfl,[],λ_=>False,i_,i_,World.ownsRow_nil _ _ _ _,λB h=>h.elim,r_⟩
  case round=>
    obtain⟨k,hk,rfl,T,S,J⟩:=hrel;have O:Hid (RI w wr e k u5 T S):=J;obtain⟨pa,I,rfl,Jw,Yg,Xb,Xc⟩:=J.row.form;simp only[List.length_map]at Jw O⊢;by_cases hlt:k<e.length
    · obtain⟨b,Jj,rfl,Xl⟩:=HC.out o_
      obtain⟨d0,d1,d2⟩:=(Xl.below J.bel) k hlt;obtain⟨hn,hA⟩:=rH Jm.out J.segs hlt J.flat;rw[List.length_map]at hA;have Xh:=dC hn;obtain⟨A,Jp⟩:∃A:Nat,arity e[k]=A:=⟨(arity e[k]).toNat,o_⟩;obtain⟨H,Xd⟩:∃H,H+A=T.length:=⟨T.length-A,o_⟩;have Jx:Hid (arity e[k]=A):=Jp;have Jv:Hid (aD e[k]=true):=hn;have Jt:=fb hn;have Jr:Hid (∀W,Below wr.heap.size wr W->Calls prog 33 #[.agg #[V e[k].kd,V e[k].val,sV e[k].nm]] W λx w'=>x=rW (V A)/\Below W.heap.size W w'):=λW hW=>by
        have:=oK e[k] W (Jk.out.below Jk.out.size (J.bel.trans (hW.mono J.bel.size))) Jt
        rw[Jp]at this;exact this
      have Yb:T.length<=2000:=by have U:=fF _ J.segs 0 (Int.le_refl _);have h2:=(li _ _ _ U (Int.le_refl 0)).2;rw[J.flat]at h2;simp only[List.length_map,List.length_take]at h2;omega
      have Xp:∀W:World,(Instr.slice 90 (.slice pa T.length I) (some (V H)) none none).run prog W=.ok (.slice (if I=H then pa else pa.map (·.add (H*1))) (T.length-H) (I-H)) W:=Fa pa T.length I H o_ Jw;have Yi:∀W:World,(Instr.slice 90 (.slice pa T.length I) none (some (V H)) none).run prog W=.ok (.slice pa H I) W:=zg pa T.length I H o_ Jw;have Ye:IntKind.i64.wrap ((T.length:Int)-(A:Int))=(H:Int):=(by rw[oS];omega);have Yc:((T.length:Int)-(A:Int))=(H:Int):=o_
      have Je:Hid (∀W,Below wr.heap.size wr W->Src W (.slice (if I=H then pa else pa.map (·.add (H*1))) (T.length-H) (I-H)) ((T.drop H).map (·.2.2))):=λW hW=>by
        have:=(J.row.tail H (by rw[List.length_map];omega)).below hW
        rw[List.length_map,<-List.map_drop]at this;exact this
      have Xf:Hid (∀u∈(T.drop H).map (·.2.2),u.oneCell'=true):=λu hu=>J.one u (by simp only[List.mem_map]at hu⊢;obtain⟨t,ht,rfl⟩:=hu;exact⟨t,List.mem_of_mem_drop ht,rfl⟩)
      clear Xl Xb Xc hn J;have Yd:Jj+k*3=Jj+k*3:=rfl;generalize Jg:e[k]=n at d0 d1 d2 Jr Jt hA Xh Jp Jx Jv;have Xr:Hid (e[k]=n):=Jg;clear Jg Jp Jt hA Xh;obtain⟨Y,X,nm⟩:=n;simp only at d0 d1 d2 Jr;generalize (Value.slice (if I=H then pa else pa.map (·.add (H*1))) (T.length-H) (I-H))=sv at Xp Je;go_wp2_with fail;have Jy:∀o,Below wr.heap.size wr (wr.alloc o):=λo=>r_.alloc n_ o;refine(Jr.out _ (Jy _)).mono ?_;rintro x w2 ⟨rfl,Jq⟩;have Jf:Below wr.heap.size wr w2:=(Jy _).trans (Jq.mono i_);simp only[Bl,World.size_alloc]at Jq;obtain⟨f0,f1,f2⟩:=yO Jq;have Xg:Hid (Src w2 sv ((T.drop H).map (·.2.2))):=Je.out w2 Jf;have Js:Hid (Below wr.heap.size wr w2):=Jf;clear Jy Jq d0 d1 d2 Jf Je;go_wp2_with fail;refine(wk sv _ w2 (by simp;omega) Xg.out Xf).mono ?_;rintro x w3 ⟨Z,rfl,Xk,Jl⟩;have Jb:Below wr.heap.size wr w3:=Js.out.trans (Jl.mono Js.out.size);have g0:=(Jl.cell (p:=⟨wr.heap.size,0,none⟩) (b_ f0)).trans f0;have g1:=(Jl.cell (p:=⟨wr.heap.size,1,none⟩) (b_ f1)).trans f1;have g2:=(Jl.cell (p:=⟨wr.heap.size,2,none⟩) (b_ f2)).trans f2;have Xa:Hid (eT wr.heap.size w3 Z ((T.drop H).map (·.2.2))):=eT.mono Xk Js.out.size;have Xt:Hid (Below wr.heap.size wr w3):=Jb;have Jd:wr.heap.size<w3.heap.size:=b_ g0;have Xm:Hid (Calls prog 37 #[.agg #[V Y,V X,sV nm],Z,pV C] w3.drew λx w'=>∃ta tb,x=rW (.iface ta tb)/\(Tv w' (um S Z) (.iface ta tb) (eH cL ⟨Y,X,nm⟩ A (fsL (T.drop H)))/\Below w3.heap.size w3 w')/\w'.cell? ⟨wr.heap.size,0,none⟩=some (V Y)/\w'.cell? ⟨wr.heap.size,1,none⟩=some (V X)/\w'.cell? ⟨wr.heap.size,2,none⟩=some (sV nm)):=by have hd:Below wr.heap.size wr w3.drew:=Jb.drew;obtain⟨k1,k2,k3,k4⟩:=O.out.kids H A Xd hd (u:=Z) (World.ownsRow.drew Xa);have Xv:w3.drew.cell? ⟨C,0,none⟩=some (.func (Fn.func 22) #[] #[]):=((O.out.bel.trans (hd.mono O.out.bel.size)).cell (p:=⟨C,0,none⟩) Ju).trans Ya;refine(Cl ⟨Y,X,nm⟩ Jv.out A Jx.out _ Z _ _ C w3.drew Xv k1 k2 k3 k4).mono ?_;rintro x w' ⟨u,rfl,U,h2⟩;have h3:Below w3.heap.size w3 w':=r_.drew.trans h2;obtain⟨ta,tb,rfl⟩:=U.isI;refine⟨ta,tb,rfl,⟨U,h3⟩,(h3.cell (p:=⟨wr.heap.size,0,none⟩) Jd).trans g0,(h3.cell (p:=⟨wr.heap.size,1,none⟩) Jd).trans g1,(h3.cell (p:=⟨wr.heap.size,2,none⟩) Jd).trans g2⟩
      have J_:Hid (∀w4 u' o,(Tv w4 (um S Z) u' (eH cL ⟨Y,X,nm⟩ A (fsL (T.drop H)))/\Below w3.heap.size w3 w4)->(w4.alloc o).ownsRow w.heap.size 55 1 (.slice pa H I) ((T.take H).map (·.2.2)).length ((T.take H).map (·.2.2))/\w.heap.size<=(w4.alloc o).heap.size):=by intro w4 u' o ⟨_,h⟩;have U:=(O.out.below (Jb.trans (h.mono Jb.size))).below (r_.alloc n_ o);have h2:=U.row.head H (by rw[List.length_map];omega);rw[<-List.map_take]at h2;exact⟨h2,U.bel.size⟩
      have Xe:Hid (∀(W W':World) (o:Obj),W.cell? ⟨wr.heap.size,0,none⟩=some (V Y)->W.cell? ⟨wr.heap.size,1,none⟩=some (V X)->W.cell? ⟨wr.heap.size,2,none⟩=some (sV nm)->(W.alloc o).grownBy W' (Value.slice pa H I).ownBlock->W'.cell? ⟨wr.heap.size,0,none⟩=some (V Y)/\W'.cell? ⟨wr.heap.size,1,none⟩=some (V X)/\W'.cell? ⟨wr.heap.size,2,none⟩=some (sV nm)):=by
        intro W W' o h0 U h2 hg;have Xn:some wr.heap.size≠(Value.slice pa H I).ownBlock:=λh=>by
          have:=(O.out.row.own wr.heap.size (by cases pa <;> exact h.symm)).2
          omega
        have Jz:∀i v,W.cell? ⟨wr.heap.size,i,none⟩=some v->W'.cell? ⟨wr.heap.size,i,none⟩=some v:=λi v h=>hg.cell ((((Below.refl W.heap.size W).alloc n_ o).cell (p:=⟨wr.heap.size,i,none⟩) (b_ h)).trans h) Xn;exact⟨Jz _ _ h0,Jz _ _ U,Jz _ _ h2⟩
      clear Xk Jl f0 f1 f2 Jb Xg Xf Jr;go_wp2_with fail;go_region_held_law (λW=>W.cell? ⟨wr.heap.size,0,none⟩=some (V Y)/\W.cell? ⟨wr.heap.size,1,none⟩=some (V X)/\W.cell? ⟨wr.heap.size,2,none⟩=some (sV nm)) (first|go_keep|(go_split_ands;exact⟨y0,y1,y2⟩))
        (first
        | ((with_reducible refine Calls.mono Xm.out ?_);intro x w4 hx;obtain⟨ta,tb,X_,Jh,q0,q1,q2⟩:=hx;subst X_)
        | (refine kK (by rfl) _ _ 90 (by rfl) w.heap.size 55 i0 .nilIface underlying90 Xw Xo Xy Xu (by rfl) (.slice pa H I) ((T.take H).map (·.2.2)) (by rfl) (J_.out _ _ _ Jh).1 (.slice (some ⟨w4.heap.size,0,none⟩) 1 1) [.iface ta tb] (by rfl) (Src.lit _ _ _) (λy hy=>by simp at hy;subst hy;rfl) (by simp;omega) (J_.out _ _ _ Jh).2 ?_;intro v' w6 Jc Ja Ji;obtain⟨y0,y1,y2⟩:=Xe.out _ _ _ q0 q1 q2 Ja))
      have Xs:Hid (∃T' S',RI w w6 e (k+1) v' T' S'):=by
        have Jg:=Xr.out;refine O.out.step (w3:=w3) (w4:=w4) (w5:=w4.alloc (.cells #[.iface ta tb] 55)) (u:=Z) hlt H A Xd (by rw[Jg];exact Jv) (by rw[Jg];exact Jx) Xt.out Xa.out Jh.2 (by rw[Jg];exact Jh.1) (r_.alloc n_ _) Jc ?_ ?_
        · have e1:(Value.slice pa H I).ownBlock=(Value.slice pa T.length I).ownBlock:=by cases pa <;> rfl
          rw[<-e1];exact Ja
        · have e1:(Value.slice pa H I).ownBlock=(Value.slice pa T.length I).ownBlock:=by cases pa <;> rfl
          rw[<-e1];exact Ji
      obtain⟨va,vn,vc,rfl⟩:∃va vn vc,v'=.slice va vn vc:=by obtain⟨va,vc,h,_⟩:=eT.form Jc;exact⟨_,_,_,h⟩
      clear Jc Ja Ji Jh Xm J_ Xe;go_wp2;go_roundw
      case rel=>exact⟨k+1,o_,by go_num,Xs⟩
      case measure=>simp[RowKit.intOf];omega
    · obtain rfl:k=e.length:=by omega
      obtain⟨u,g,⟨cp,hv⟩,Xi,Xx⟩:=J.fin Jm.out Xq;simp only[Value.slice.injEq]at hv;obtain⟨rfl,Xj,rfl⟩:=hv;have Xz:T.length=1:=(by simpa using Xj);clear Xb Xc Xj;rw[Xz];go_wp2;go_ret;exact⟨_,S,rfl,Xx,λB hB=>⟨(O.out.sep B hB).1,(O.out.sep B hB).2.1⟩,O.out.bel⟩
def jG(n:Nd):BY:=.agg #[V n.kd,V n.val,sV n.nm]
def Cv(v:Int)(w:AT):Calls prog 34 #[.iface 100 (.agg #[V v])] w λe w'=>e=rW (jG ⟨1,v,⟨#[]⟩⟩)/\Bl w w':=by
 have y:=bD;have H:Bl w w:=r_;unfold jG;go_in;go_wp2_with fail;try simp only[Exit.inBlock,Exit.then]
 refine bodyPost_ret (by simp[results,results34,go_sem];try rfl) rfl ?_;exact⟨rfl,(H.alloc n_ _).alloc i_ _⟩
def Cw(s:IF)(w:AT):Calls prog 34 #[.iface 169 (.agg #[sV s])] w λe w'=>e=rW (jG ⟨2,0,s⟩)/\Bl w w':=by
 have I:=λW v=>aY W 169 v d_;have y:=yl;have H:Bl w w:=r_;unfold jG;go_in;go_wp2_with fail;try simp only[Exit.inBlock,Exit.then]
 refine bodyPost_ret (by simp[results,results34,go_sem];try rfl) rfl ?_;exact⟨rfl,(H.alloc n_ _).alloc i_ _⟩
def wE(s:IF)(tx:IN)(x:BY)(w:AT):Calls prog 34 #[.iface 171 (.agg #[sV s,.iface tx x])] w λe w'=>e=rW (jG ⟨3,0,s⟩)/\Bl w w':=by
 have I:=λW v=>aY W 171 v d_;have J:=λW v=>fg W 171 v d_;have y:=lS;have H:Bl w w:=r_;unfold jG;go_in;go_wp2_with fail;try simp only[Exit.inBlock,Exit.then]
 refine bodyPost_ret (by simp[results,results34,go_sem];try rfl) rfl ?_;exact⟨rfl,(H.alloc n_ _).alloc i_ _⟩
def zi(s:IF)(a:Option Addr)(A I:Nat)(w:AT):Calls prog 34 #[.iface 173 (.agg #[sV s,.slice a A I])] w λe w'=>e=rW (jG ⟨4,A,s⟩)/\Bl w w':=by
 have O:=λW v=>aY W 173 v d_;have J:=λW v=>fg W 173 v d_;have U:=λW v=>bE W 173 v d_;have y:=nN;have H:Bl w w:=r_;unfold jG;go_in;go_wp2_with fail;try simp only[Exit.inBlock,Exit.then]
 refine bodyPost_ret (by simp[results,results34,go_sem];try rfl) rfl ?_;exact⟨rfl,(H.alloc n_ _).alloc i_ _⟩
def Cx (w:AT):Calls prog 34 #[.iface 176 (.agg #[])] w λe w'=>e=rW (jG ⟨5,0,⟨#[]⟩⟩)/\Bl w w':=by
 have U:=λW v=>aY W 176 v d_;have X:=λW v=>fg W 176 v d_;have Y:=λW v=>bE W 176 v d_;have n4:=λW v=>d8 W 176 v d_;have O:=λW v=>bu W 176 v d_;have I:=λW v=>bj W 176 v d_;have J:=λW v=>bK W 176 v d_;have Z:=λW v=>cZ W 176 v d_;have H:Bl w w:=r_;unfold jG;go_in;go_wp2_with fail;try simp only[Exit.inBlock,Exit.then]
 refine bodyPost_ret (by simp[results,results34,go_sem];try rfl) rfl ?_;exact⟨rfl,H.alloc n_ _⟩
def Fc(v:Int)(tx:IN)(x:BY)(w:AT):Calls prog 34 #[.iface 98 (.agg #[V v,.iface tx x])] w λe w'=>e=rW (jG ⟨6,v,⟨#[]⟩⟩)/\Bl w w':=by
 have J:=λW v=>aY W 98 v d_;have I:=λW v=>fg W 98 v d_;have O:=λW v=>bE W 98 v d_;have U:=λW v=>d8 W 98 v d_;have y:=cA;have H:Bl w w:=r_;unfold jG;go_in;go_wp2_with fail;try simp only[Exit.inBlock,Exit.then]
 refine bodyPost_ret (by simp[results,results34,go_sem];try rfl) rfl ?_;exact⟨rfl,(H.alloc n_ _).alloc i_ _⟩
def Cy(v:Int)(tx:IN)(x:BY)(I:IN)(y:BY)(w:AT):Calls prog 34 #[.iface 104 (.agg #[V v,.iface tx x,.iface I y])] w λe w'=>e=rW (jG ⟨7,v,⟨#[]⟩⟩)/\Bl w w':=by
 have O:=λW v=>aY W 104 v d_;have U:=λW v=>fg W 104 v d_;have X:=λW v=>bE W 104 v d_;have Y:=λW v=>d8 W 104 v d_;have J:=λW v=>bu W 104 v d_;have y:=bQ;have H:Bl w w:=r_;unfold jG;go_in;go_wp2_with fail;try simp only[Exit.inBlock,Exit.then]
 refine bodyPost_ret (by simp[results,results34,go_sem];try rfl) rfl ?_;exact⟨rfl,(H.alloc n_ _).alloc i_ _⟩
def Cz(tx:IN)(x:BY)(I:IN)(y:BY)(w:AT):Calls prog 34 #[.iface 107 (.agg #[.iface tx x,.iface I y])] w λe w'=>e=rW (jG ⟨8,0,⟨#[]⟩⟩)/\Bl w w':=by
 have U:=λW v=>aY W 107 v d_;have X:=λW v=>fg W 107 v d_;have Y:=λW v=>bE W 107 v d_;have Z:=λW v=>d8 W 107 v d_;have O:=λW v=>bu W 107 v d_;have J:=λW v=>bj W 107 v d_;have y:=cl;have H:Bl w w:=r_;unfold jG;go_in;go_wp2_with fail;try simp only[Exit.inBlock,Exit.then]
 refine bodyPost_ret (by simp[results,results34,go_sem];try rfl) rfl ?_;exact⟨rfl,(H.alloc n_ _).alloc i_ _⟩
def Fe(tx:IN)(x:BY)(I:IN)(y:BY)(w:AT):Calls prog 34 #[.iface 109 (.agg #[.iface tx x,.iface I y])] w λe w'=>e=rW (jG ⟨9,0,⟨#[]⟩⟩)/\Bl w w':=by
 have X:=λW v=>aY W 109 v d_;have Y:=λW v=>fg W 109 v d_;have Z:=λW v=>bE W 109 v d_;have n4:=λW v=>d8 W 109 v d_;have U:=λW v=>bu W 109 v d_;have J:=λW v=>bj W 109 v d_;have O:=λW v=>bK W 109 v d_;have y:=cT;have H:Bl w w:=r_;unfold jG;go_in;go_wp2_with fail;try simp only[Exit.inBlock,Exit.then]
 refine bodyPost_ret (by simp[results,results34,go_sem];try rfl) rfl ?_;exact⟨rfl,(H.alloc n_ _).alloc i_ _⟩
def Src.nil(w:AT):Src w nV []:=⟨_,_,rfl,λ_=>rfl,λad had=>by cases had⟩
theorem Src.lit2(w:AT)(x y:BY)(t:IN):Src (w.alloc (.cells #[x,y] t)) (rV w.heap.size 2 2) [x,y]:=by
 refine⟨_,_,rfl,λh=>(by cases h),λad had j z hz=>?_⟩;simp only[If]at had;subst had;cases j with
 | zero=>simp at hz;subst hz;simp[Addr.add]
 | succ j=>cases j with
  | zero=>simp at hz;subst hz;simp[Addr.add]
  | succ j=>simp at hz
def Iw(v:Int)(w:AT):Calls prog 292 #[.agg #[V v]] w λe w'=>∃sl,e=rW sl/\Src w' sl []/\Bl w w':=by go_in;go_wp2;go_ret;exact⟨_,rfl,Src.nil _,r_.alloc n_ _⟩
def Iy(s:IF)(w:AT):Calls prog 322 #[.agg #[sV s]] w λe w'=>∃sl,e=rW sl/\Src w' sl []/\Bl w w':=by go_in;go_wp2;go_ret;exact⟨_,rfl,Src.nil _,r_.alloc n_ _⟩
def CA(s:IF)(tx:IN)(x:BY)(w:AT):Calls prog 323 #[.agg #[sV s,.iface tx x]] w λe w'=>∃sl,e=rW sl/\Src w' sl [.iface tx x]/\Bl w w':=by go_in;go_wp2;go_ret;have H:=Src.lit (w.alloc (.cells #[sV s,.iface tx x] 171)) (.iface tx x) 55;simp only[Bl,K9]at H;exact⟨_,rfl,H,(aq _ _).alloc i_ _⟩
def Iz (w:AT):Calls prog 325 #[.agg #[]] w λe w'=>∃sl,e=rW sl/\Src w' sl []/\Bl w w':=by go_in;go_wp2;go_ret;exact⟨_,rfl,Src.nil _,r_.alloc n_ _⟩
def Lj(v:Int)(tx:IN)(x:BY)(w:AT):Calls prog 291 #[.agg #[V v,.iface tx x]] w λe w'=>∃sl,e=rW sl/\Src w' sl [.iface tx x]/\Bl w w':=by go_in;go_wp2;go_ret;have H:=Src.lit (w.alloc (.cells #[V v,.iface tx x] 98)) (.iface tx x) 55;simp only[Bl,K9]at H;exact⟨_,rfl,H,(aq _ _).alloc i_ _⟩
def IA(v:Int)(tx:IN)(x:BY)(H:IN)(y:BY)(w:AT):Calls prog 293 #[.agg #[V v,.iface tx x,.iface H y]] w λe w'=>∃sl,e=rW sl/\Src w' sl [.iface tx x,.iface H y]/\Bl w w':=by go_in;go_wp2;go_ret;have I:=Src.lit2 (w.alloc (.cells #[V v,.iface tx x,.iface H y] 104)) (.iface tx x) (.iface H y) 55;simp only[Bl,K9]at I;exact⟨_,rfl,I,(aq _ _).alloc i_ _⟩
def IB(tx:IN)(x:BY)(H:IN)(y:BY)(w:AT):Calls prog 294 #[.agg #[.iface tx x,.iface H y]] w λe w'=>∃sl,e=rW sl/\Src w' sl [.iface tx x,.iface H y]/\Bl w w':=by go_in;go_wp2;go_ret;have I:=Src.lit2 (w.alloc (.cells #[.iface tx x,.iface H y] 107)) (.iface tx x) (.iface H y) 55;simp only[Bl,K9]at I;exact⟨_,rfl,I,(aq _ _).alloc i_ _⟩
def Lk(tx:IN)(x:BY)(H:IN)(y:BY)(w:AT):Calls prog 295 #[.agg #[.iface tx x,.iface H y]] w λe w'=>∃sl,e=rW sl/\Src w' sl [.iface tx x,.iface H y]/\Bl w w':=by go_in;go_wp2;go_ret;have I:=Src.lit2 (w.alloc (.cells #[.iface tx x,.iface H y] 109)) (.iface tx x) (.iface H y) 55;simp only[Bl,K9]at I;exact⟨_,rfl,I,(aq _ _).alloc i_ _⟩
def Ff(s:IF)(a:Option Addr)(A H:Nat)(w:AT):Calls prog 324 #[.agg #[sV s,.slice a A H]] w λe w'=>e=rW (.slice a A H)/\Bl w w':=by go_in;go_wp2;go_ret;exact⟨rfl,r_.alloc n_ _⟩
section
variable{w:AT}{S:DO}
def NM(w:AT)(S:DO)(v:BY)(l:List Nd):Prop:=∃(t:IN) (x:BY) (f:Nat) (n:Nd) (Ls:List (BY×List Nd)),
 v=.iface t x/\l=(Ls.map (·.2)).flatten++[n]/\(∀q∈Ls,Tv w S q.1 q.2) /\
 (∀W:AT,(method 541 t x "loop.example/s01725/impl.operands").run prog W=.ok (f,x) W) /\
 (∀(y:BY) (W:AT),(callFunc f #[y]).run prog W=.ok (.enter f #[y]) W) /\
 (∀W:AT,Bl w W->Calls prog f #[x] W λe w'=>∃sl,e=rW sl/\Src w' sl (Ls.map (·.1))/\Bl W w') /\
 (∀W:AT,Calls prog 34 #[v] W λe w'=>e=rW (jG n)/\Bl W w')
theorem zj(F:Nat->List Nd)(h:Nat->BY)(A:Nat):joinF F A=(((List.range A).map (λi=>(h i,F i))).map (·.2)).flatten:=by
 induction A with
 | zero=>rfl
 | succ A ih=>rw[range_succ];simp only[joinF,map_append,flatten_append,map_cons,map_nil,flatten_cons,flatten_nil,append_nil];rw[ih]
theorem Fg{I:Value}{A:Nat}{J:Nat->Value}(F:Nat->List Nd)(h:gx w S I A J):∃a cap,I=.slice a A cap/\Src w I (((List.range A).map (λi=>(J i,F i))).map (·.1)):=by
 obtain⟨a,cap,rfl,_,_,h⟩:=h;refine⟨a,cap,rfl,a,cap,i_,λha=>?_,λad had j u hj=>?_⟩;rcases Nat.eq_zero_or_pos A with h0|h0;subst h0;rfl
 have⟨B,H,_⟩:=h h0;rw[ha]at H;cases H
 have Ja:j<A:=by
  have:=(List.getElem?_eq_some_iff.mp hj).1
  simpa using this
 have⟨B,H,_,O⟩:=h o_;rw[had]at H;simp only[Option.some.injEq]at H;subst H;rw[gB];have:=O j Ja;simp only[List.map_map,List.getElem?_map,List.getElem?_range Ja,Option.map_some,Option.some.injEq,Function.comp]at hj;rw[<-hj];simpa using this
theorem Tv.low{v:BY}{l:List Nd}(h:Tv w S v l):NM w S v l:=by
 cases h using Tv_i with
 | num v=>exact⟨_,_,292,_,[],rfl,rfl,i_,λW=>by kernel_rfl,λy W=>by kernel_rfl,λW _=>Iw v W,λW=>Cv v W⟩
 | var s=>exact⟨_,_,322,_,[],rfl,rfl,i_,λW=>by kernel_rfl,λy W=>by kernel_rfl,λW _=>Iy s W,λW=>Cw s W⟩
 | index s x r hx=>obtain⟨tx,H,rfl⟩:=hx.isI;exact⟨_,_,323,_,[(_,r)],rfl,i_,D4 hx,λW=>by kernel_rfl,λy W=>by kernel_rfl,λW _=>CA s tx H W,λW=>wE s tx H W⟩
 | call s ar A vs F ha hv=>obtain⟨a,Ja,rfl,U⟩:=Fg F ha;refine⟨_,_,324,_,(List.range A).map (λi=>(vs i,F i)),rfl,by rw[<-zj],λq hq=>?_,λW=>by kernel_rfl,λy W=>by kernel_rfl,λW hW=>?_,λW=>zi s a A Ja W⟩;simp only[mem_map,mem_range]at hq;obtain⟨i,X,rfl⟩:=hq;exact hv i X;refine(Ff s a A Ja W).mono ?_;rintro e w' ⟨rfl,O⟩;exact⟨_,rfl,U.below (hW.trans (O.mono hW.size)),O⟩
 | inn=>exact⟨_,_,325,_,[],rfl,rfl,i_,λW=>by kernel_rfl,λy W=>by kernel_rfl,λW _=>Iz W,λW=>Cx W⟩
 | un op x r hx=>obtain⟨tx,H,rfl⟩:=hx.isI;exact⟨_,_,291,_,[(_,r)],rfl,i_,D4 hx,λW=>by kernel_rfl,λy W=>by kernel_rfl,λW _=>Lj op tx H W,λW=>Fc op tx H W⟩
 | bin op x y r t hx hy=>obtain⟨tx,H,rfl⟩:=hx.isI;obtain⟨J,I,rfl⟩:=hy.isI;exact⟨_,_,293,_,[(_,r),(_,t)],rfl,i_,by simpa using⟨hx,hy⟩,λW=>by kernel_rfl,λy W=>by kernel_rfl,λW _=>IA op tx H J I W,λW=>Cy op tx H J I W⟩
 | and x y r t hx hy=>obtain⟨tx,H,rfl⟩:=hx.isI;obtain⟨J,I,rfl⟩:=hy.isI;exact⟨_,_,294,_,[(_,r),(_,t)],rfl,i_,by simpa using⟨hx,hy⟩,λW=>by kernel_rfl,λy W=>by kernel_rfl,λW _=>IB tx H J I W,λW=>Cz tx H J I W⟩
 | or x y r t hx hy=>obtain⟨tx,H,rfl⟩:=hx.isI;obtain⟨J,I,rfl⟩:=hy.isI;exact⟨_,_,295,_,[(_,r),(_,t)],rfl,i_,by simpa using⟨hx,hy⟩,λW=>by kernel_rfl,λy W=>by kernel_rfl,λW _=>Lk tx H J I W,λW=>Fe tx H J I W⟩
theorem zk(v:Value)(e r:List Nd)(w:World)(Ja:eG w)(J:a_ w v e)(Jb:oneB e=true)(X:e.length<=2000)(Y:Fd cL e r):
  Calls prog 21 #[v,.func (Fn.func 22) #[] #[]] w λx w'=>∃u S,x=rW u/\Tv w' S u r/\(∀B,S B->w.heap.size<=B/\B<w'.heap.size)/\Below w.heap.size w w':=by
 have H:=(Below.refl w.heap.size w).alloc n_ (.cells #[.func (Fn.func 22) #[] #[]] 94);have O:Hid (Calls prog 36 #[v,.func (Fn.func 37) #[] #[pV w.heap.size]] (w.alloc (.cells #[.func (Fn.func 22) #[] #[]] 94)) λx w'=>∃u S,x=rW u/\Tv w' S u r/\(∀B,S B->w.heap.size+1<=B/\B<w'.heap.size)/\Below (w.heap.size+1) (w.alloc (.cells #[.func (Fn.func 22) #[] #[]] 94)) w'):=by
  have:=zh v e r w.heap.size (w.alloc (.cells #[.func (Fn.func 22) #[] #[]] 94)) (Ja.below Ja.size H) (J.below H) Jb X Y i_
  simp only[Bl,World.size_alloc]at this;exact this
 obtain⟨a,Jc,rfl,-⟩:=J;go_in;go_wp2_with fail;refine O.out.mono ?_;rintro x w1 ⟨u,S,rfl,I,h2,h3⟩;obtain⟨ta,Z,rfl⟩:=I.isI;have U:=ah I;go_wp2;go_ret;exact⟨_,S,rfl,U,λB hB=>⟨by have:=(h2 B hB).1;omega,(h2 B hB).2⟩,H.trans (h3.mono o_)⟩
end
end Go.Proofs.YtngnoopnloojjaaGreatDoor
namespace Go.Proofs.YtngnoopnloojjaaGreatDoor
open Go.Value Go.World List
open Go.Proofs.Tryz
section
open Go.Shelf
open Go.RowKit Go.Sort
def Tryz.lrev_ren:Go.Shelf.Ren:=⟨fun|35=>35|n=>n,fun|22=>33|23=>36|3=>3|4=>4|0=>0|n=>n,fun|n=>n⟩
theorem Tryz.lrev:Go.Proofs.SlLaysE0.n35 prog Tryz.lrev_ren:={
  mixed:=by kernel_rfl
  f35:=⟨Tryz.f35.name,by decide,func35.trans (congrArg some k_)⟩
  t0:=underlying0
  a0:=Tryz.isAgg0
  z0:=Tryz.sizeOf0
  v0:=zeroValue0
  t3:=underlying3
  a3:=Tryz.isAgg3
  z3:=Tryz.sizeOf3
  v3:=zeroValue3
  t4:=underlying4
  a4:=Tryz.isAgg4
  z4:=Tryz.sizeOf4
  v4:=zeroValue4
  t22:=underlying33
  a22:=Tryz.isAgg33
  z22:=Tryz.sizeOf33
  v22:=zeroValue33 }
def dg(B:Nat)(w:AT)(v:BY)(ns:List Nd):Prop:=∃ g cap,v=.slice (some ⟨g,0,none⟩) ns.length cap/\ns.length<=cap/\cap<=9223372036854775807/\B<=g/\g<w.heap.size/\iq w g 0 ns/\∀ j,j<ns.length*3->w.frozen? ⟨g,j,none⟩=false
def dg.nodes{B:Nat}{w:AT}{v:BY}{ns:List Nd}(h:dg B w v ns):a_ w v ns:=by obtain⟨g,cap,rfl,h1,h2,_,_,h3,_⟩:=h;exact⟨_,cap,rfl,h1,h2,λ_=>⟨g,0,rfl,h3⟩⟩
def wz[Inhabited Nd]{w:AT}{g:Nat}{ns:List Nd}(h:iq w g 0 ns)(hf:∀ j,j<ns.length*3->By w g ( j)):HoldsK eQ 3 w g 0 ns.toArray:=by
  intro j hj;rw[size_flatK]at hj;simp only[size_toArray]at hj;refine⟨?_,by rw[Nat.zero_add];exact hf j hj⟩;rw[get_flatK _ _ _ _ (D4 hj),id];have hq:j / 3<ns.length:=by omega
  have e:ns.toArray[j / 3]! =ns[j / 3]:=by simp[hq]
  rw[e];have⟨h0,h1,h2⟩:=h (j / 3) hq;have hm:j%3=0\/j%3=1\/j%3=2:=by omega
  rcases hm with hm|hm|hm;rw[hm,show 0+j=0+j / 3*3 by omega,h0];simp[eQ];rw[hm,show 0+j=0+j / 3*3+1 by omega,h1];simp[eQ];rw[hm,show 0+j=0+j / 3*3+2 by omega,h2];simp[eQ]
def wC[Inhabited Nd]{w:AT}{g:Nat}{ns:List Nd}(h:HoldsK eQ 3 w g 0 ns.toArray):iq w g 0 ns/\∀ j,j<ns.length*3->By w g ( j):=by
  refine⟨λj hj=>?_,λj hj=>?_⟩
  · have e:ns.toArray[j]! =ns[j]:=by simp[hj]
    refine⟨?_,?_,?_⟩
    · have:=(h.cell (i:=j) (c:=0) (D4 hj) o_).1
      rw[e]at this;simpa[eQ]using this
    · have:=(h.cell (i:=j) (c:=1) (D4 hj) o_).1
      rw[e]at this;simpa[eQ]using this
    · have:=(h.cell (i:=j) (c:=2) (D4 hj) o_).1
      rw[e]at this;simpa[eQ]using this
  · have:=(h j (by rw[size_flatK];simpa using hj)).2
    rwa[Nat.zero_add]at this
def Ci(n:Nd):(eQ n).length=3:=rfl
def Cj(n:Nd):∀ v∈eQ n,v.oneCell'=true:=by intro v hv;simp only[eQ,mem_cons,not_mem_nil,or_false]at hv;rcases hv with rfl|rfl|rfl <;> rfl
def Iu(B:Nat)(v:BY)(ns:List Nd)(w:AT)(hl:ns.length<=1048576)(h:dg B w v ns):
    Calls prog 35 #[v] w λe w'=>e=rW (.tuple #[])/\dg B w' v ns.reverse/\∀ W b,b<=B->Below b W w->Below b W w':=by
  haveI:Inhabited Nd:=⟨⟨1,0,⟨#[]⟩⟩⟩;obtain⟨g,cap,rfl,h1,h2,h3,h4,h5,h6⟩:=h;have hH:=wz h5 h6;have:=AnyQ.slices_Reverse Tryz.lrev 3 Tryz.isAgg36 Tryz.sizeOf36 eQ Ci Cj g 0 cap ns.toArray w hH (by simp;omega);simp only[size_toArray]at this;refine this.mono ?_;rintro e w' ⟨rfl,n,rfl⟩;refine⟨rfl,⟨g,cap,by simp,D4 h1,h2,h3,?_,?_⟩,λW b hb hW=>Lib.below_putRow hW o_⟩
  simpa[putRowK,Sort.ahead]using h4
  · have hh:=holdsK_putRowK eQ 3 (Sort.ahead w n) g 0 ns.toArray ns.toArray.reverse (holdsK_ahead eQ 3 w n g 0 ns.toArray hH) i_
    have e:ns.toArray.reverse=ns.reverse.toArray:=by simp
    rw[e]at hh⊢;exact wC hh
end
section
open Go.RowKit
def dg.one{B:Nat}{w:AT}{v:BY}{ns:List Nd}(h:dg B w v ns):∃g,b9 B w v ns [g]/\B<=g/\g<w.heap.size:=by obtain⟨g,Ja,e,H,h2,h3,h4,h5,h6⟩:=h;exact⟨g,.inr ⟨g,Ja,e,rfl,H,h2,h3,h4,h5,h6⟩,h3,h4⟩
end
end Go.Proofs.YtngnoopnloojjaaGreatDoor
namespace Go.Proofs.YtngnoopnloojjaaGreatDoor
open Go.Value Go.World List
open Go.Proofs.Tryz Go.RowKit
section
variable{w wr w1 w2:AT}{S:DO}{r L:List Nd}{left list:BY}{Ls:List (BY×List Nd)}
structure Fh (w wr:AT) (S:DO) (r:List Nd) (left list:BY) (Ls:List (BY×List Nd)) (L:List Nd):Prop where
 sum:(Ls.map (·.2)).flatten++L.reverse=r
 each:∀q∈Ls,Tv w S q.1 q.2
 row:eT w.heap.size wr left (Ls.map (·.1))
 out:dW w.heap.size wr list L
 ne:∀g,left.ownBlock=some g->list.ownBlock≠some g
 bel:Bl w wr
theorem Fh.len(h:Fh w wr S r left list Ls L):Ls.length+L.length<=r.length:=by
 have H:Ls.length<=(Ls.map (·.2)).flatten.length:=by
  have h2:=h.each;clear h;induction Ls with
  | nil=>simp
  | cons q Ls ih=>have h3:=(h2 q i_).pos;have h4:=ih (λq hq=>h2 q (by simp[hq]));simp only[map_cons,flatten_cons,l_a,l_c];omega
 have h3:=congrArg List.length h.sum;simp only[l_a,length_reverse]at h3;omega
theorem Fh.mid(h:Fh w wr S r left list Ls L)(Jb:Below wr.heap.size wr w1)(Ja:w1.grownBy w2 left.ownBlock):dW w.heap.size w2 list L/\w.heap.size<=w2.heap.size:=by
 refine⟨Ik (ownB h.out Jb) Ja (λg hg h'=>h.ne g h' hg),?_⟩;have:=h.bel.size
 have:=Jb.size
 have:=Ja.size
 omega
theorem Fh.step{w4 w5:World}{l:List Nd}{v Ja Jb:Value}{Jc I:List (Value×List Nd)}{n:Nd}(h:Fh w wr S r left list (Jc++[(v,l)]) L)(Y:l=(I.map (·.2)).flatten++[n])(Z:∀q∈I,Tv w S q.1 q.2)
  (Ji:Below wr.heap.size wr w1) (Jh:eT w.heap.size w2 Ja (Jc.map (·.1)++I.map (·.1))) (Jm:w1.grownBy w2 left.ownBlock) (Jo:∀k,Ja.ownBlock=some k->left.ownBlock=some k\/w1.heap.size<=k)
  (Jd:Below w2.heap.size w2 w4) (X:dW w.heap.size w5 Jb (L++[n])) (Jj:w4.grownBy w5 list.ownBlock) (Jn:∀k,Jb.ownBlock=some k->list.ownBlock=some k\/w4.heap.size<=k):
  Fh w w5 S r Ja Jb (Jc++I) (L++[n]):=by
 have Jf:∀g,list.ownBlock=some g->w.heap.size<=g/\g<wr.heap.size:=λg H=>World.ownsRow.lt h.out g H;have Jl:∀g,left.ownBlock=some g->w.heap.size<=g/\g<wr.heap.size:=λg H=>World.ownsRow.lt h.row g H;have Jk:∀g,Ja.ownBlock=some g->g<w2.heap.size:=λg H=>(World.ownsRow.lt Jh g H).2;have s1:=Ji.size;have s3:=Jd.size;have O:∀g,Ja.ownBlock=some g->list.ownBlock≠some g:=by
  intro g H J;rcases Jo g H with h2|h2;exact h.ne g h2 J
  have:=(Jf g J).2;omega
 have U:(Jc++I).map (·.1)=Jc.map (·.1)++I.map (·.1):=i_;have Jg:Bl w w2:=(h.bel.trans (Ji.mono h.bel.size)).grown Jm (t_ h.bel.size s1) (λg H=>(Jl g H).1);have Je:Bl w w4:=Jg.trans (Jd.mono Jg.size);refine⟨?_,λq hq=>?_,?_,X,λg H J=>?_,Je.grown Jj Je.size (λg H=>(Jf g H).1)⟩
 have:=h.sum
 rw[<-this,Y];simp;rcases List.mem_append.1 hq with hq|hq;exact h.each q (by simp[hq]);exact Z q hq;rw[U];exact Ik (ownB Jh Jd) Jj (λg H=>O g H);rcases Jn g J with h2|h2;exact O g H h2
 have:=Jk g H;omega
end
def JQ:BY->Nat
 | .slice _ n _=>n
 | _=>0
def dW.free{B:Nat}{w:AT}{v:BY}{ns:List Nd}(h:dW B w v ns)(X:0<ns.length):dg B w v ns:=by have U:=h.nodes;have I:=h;rcases h.2 with⟨rfl,Z⟩|⟨g,Jc,Jf,rfl,Jd,Y,Jh,Je,Ji,Ja⟩;omega;obtain⟨a,Jb,H,O,h2,h3⟩:=U;simp only[Value.slice.injEq,true_and]at H;obtain⟨rfl,rfl⟩:=H;have⟨b,Jg,H,J⟩:=h3 X;simp only[If,Addr.mk.injEq,and_true]at H;obtain⟨rfl,rfl⟩:=H;exact⟨g,Jc,rfl,O,h2,Jd,(ownsRow.lt I g rfl).2,J,λj hj=>ownsRow.frozenAt I j⟩
def CC(w:AT)(n:Nd)(t:IN):a_ (w.alloc (.cells #[V n.kd,V n.val,sV n.nm] t)) (rV w.heap.size 1 1) [n]:=by
 refine⟨_,_,rfl,i_,o_,λ_=>⟨_,_,rfl,λj hj=>?_⟩⟩;have:j=0:=by simp at hj;omega
 subst this;refine⟨i_,i_,i_⟩
theorem cy(u:Value)(r:List Nd)(S:Nat->Prop)(w:World)(hS:∀B,S B->B<w.heap.size)(hT:Tv w S u r)(hl:r.length<=2000):
    Calls prog 20 #[u] w λx w'=>∃v,x=rW v/\dg w.heap.size w' v r/\Below w.heap.size w w':=by
  obtain⟨i0,Xl,Xf,Xn,Xk⟩:=info_parts oL;have HT:Hid (Tv w S u r):=hT;have Xr:Hid (Fh w (w.alloc (.cells #[u] 55)) S r (rV w.heap.size 1 1) nV [(u,r)] []):=by refine⟨i_,by simpa using hT,?_,World.ownsRow_nil _ _ _ _,λg _ h=>(by simp[Value.ownBlock]at h),r_.alloc n_ _⟩;exact World.ownsRow_lit w #[u] 1 n_ d_ rfl
  obtain⟨ta,tb,rfl⟩:=hT.isI;clear hT;go_in;go_wp2;go_loopw[3,4] (λlist left wr=>∃Ls L,Fh w wr S r left list Ls L) (λlist _ _=>r.length-JQ list)
  case atStart=>exact⟨_,_,Xr⟩
  case round=>
    obtain⟨Ls,L,H⟩:=hrel;obtain⟨pa,O,rfl,Jk,Yb,Jh,Ji⟩:=H.row.form;obtain⟨Y,Z,rfl,Yc,Xz,-⟩:=H.out.nodes;have Jd:=H.len;rcases List.eq_nil_or_concat Ls with rfl|⟨Ja,q,rfl⟩
    · have hL:L.reverse=r:=by simpa using H.sum
      have HL:Hid (L.reverse=r):=hL;have HO:Hid (dW w.heap.size wr (.slice Y L.length Z) L):=H.out;have HB:Hid (Bl w wr):=H.bel;have Jt:0<L.length:=(by have:=HT.out.pos;rw[<-hL,List.length_reverse]at this;exact this);have HR:Hid (Calls prog 35 #[.slice Y L.length Z] wr λe w'=>e=rW (.tuple #[])/\dg w.heap.size w' (.slice Y L.length Z) r/\Bl w w'):=by refine(Iu w.heap.size _ L wr o_ (HO.out.free Jt)).mono ?_;rintro e w' ⟨rfl,X,h2⟩;exact⟨rfl,by rw[<-HL.out];exact X,h2 w _ n_ HB⟩
      clear H Jh Ji hL;simp only[List.map_nil,l_n]at Jk⊢;go_wp2_with fail;refine HR.out.mono ?_;rintro x w1 ⟨rfl,X,h2⟩;have HF:Hid (dg w.heap.size w1 (.slice Y L.length Z) r):=X;clear X;go_wp2;go_ret;exact⟨_,rfl,HF,h2⟩
    · obtain⟨v,l⟩:=q
      simp only[List.concat_eq_append]at Jk Jh Ji H Jd⊢;have e0:((Ja++[(v,l)]).map (·.1)).length=Ja.length+1:=i_;rw[e0]at Jk H⊢;have e1:(Ja++[(v,l)]).length=Ja.length+1:=i_;rw[e1]at Jd;cases pa with
      | none=>have:=Jh rfl;simp at this
      | some ad=>
      obtain⟨g,rfl,Xx,Yd,Js⟩:=Ji ad rfl;have Jj:=Js Ja.length v i_;obtain⟨t,x,f,n,I,rfl,Jp,Jf,hm,Xw,Je,J_⟩:=(H.each (v,l) i_).low;have HI:Hid (Fh w wr S r (rV g (Ja.length+1) O) (.slice Y L.length Z) (Ja++[(.iface t x,l)]) L):=H;have Jo:Hid (Calls prog f #[x] wr.drew λe w'=>∃J,e=rW J/\(Src w' J (I.map (·.1))/\Bl wr w')):=by refine(Je wr.drew H.bel.drew).mono ?_;rintro e w' ⟨J,rfl,X,h2⟩;exact⟨J,rfl,X,r_.drew.trans h2⟩
      have Xh:Hid (∀W:World,Calls prog 34 #[.iface t x] W λe w'=>e=rW (.agg #[V n.kd,V n.val,sV n.nm])/\Bl W w'):=J_;have Jm:Hid (l=(I.map (·.2)).flatten++[n]):=Jp;have Jv:Hid (∀q∈I,Tv w S q.1 q.2):=Jf;have Jr:Hid (∀y∈I.map (·.1),y.oneCell'=true):=λy hy=>by simp only[List.mem_map]at hy;obtain⟨q,U,rfl⟩:=hy;obtain⟨a,b,Xm⟩:=(Jf q U).isI;rw[Xm];rfl
      have Ye:Ja.length+I.length<=2000:=by
        have X:I.length<=(I.map (·.2)).flatten.length:=by
          have h2:=Jf;clear Jv Jr Jf Jo Jm Jp Je;induction I with
          | nil=>simp
          | cons q Ls ih=>have h3:=(h2 q i_).pos;have h4:=ih (λq U=>h2 q (by simp[U]));simp only[List.map_cons,List.flatten_cons,l_a,l_c];omega
        have h2:Ja.length<=(Ja.map (·.2)).flatten.length:=by
          have h2:∀q∈Ja,Tv w S q.1 q.2:=λq U=>H.each q (by simp[U]);clear Jv Jr Jf Jo Jm Jp HI H Jd Jj Js e0 e1 Jk Jh Ji;induction Ja with
          | nil=>simp
          | cons q Ls ih=>have h3:=(h2 q i_).pos;have h4:=ih (λq U=>h2 q (by simp[U]));simp only[List.map_cons,List.flatten_cons,l_a,l_c];omega
        have h3:=congrArg List.length H.sum;rw[Jm.out]at h3;simp only[List.map_append,List.map_cons,List.map_nil,List.flatten_append,List.flatten_cons,List.flatten_nil,l_a,l_n,l_c]at h3;omega
      have Jw:Hid (∀w1 J,(Src w1 J (I.map (·.1))/\Bl wr w1)->w1.ownsRow w.heap.size 55 1 (rV g Ja.length O) (Ja.map (·.1)).length (Ja.map (·.1))/\w.heap.size<=w1.heap.size):=by intro w1 J ⟨_,hb⟩;have h2:eT w.heap.size w1 (rV g (Ja.length+1) O) ((Ja++[(Value.iface t x,l)]).map (·.1)):=ownB H.row hb;have h3:=h2.head Ja.length i_;have e2:((Ja++[(Value.iface t x,l)]).map (·.1)).take Ja.length=Ja.map (·.1):=i_;rw[e2]at h3;exact⟨h3,t_ H.bel.size hb.size⟩
      have Yg:∀W:World,(Instr.slice 90 (rV g (Ja.length+1) O) none (some (V (Ja.length:Int))) none).run prog W=.ok (rV g Ja.length O) W:=zg _ _ _ _ o_ Jk;have Xv:IntKind.i64.wrap (((Ja.length+1:Nat):Int)-1)=(Ja.length:Int):=(by rw[oS];omega);have Xu:((Ja.length+1:Nat):Int)-1=(Ja.length:Int):=o_;have Ya:(Ja.length:Int)+1-1=(Ja.length:Int):=o_;have Xt:IntKind.i64.wrap ((Ja.length:Int)+1-1)=(Ja.length:Int):=(by rw[oS];omega);have Xy:((Ja.length+1:Nat):Int)=(Ja.length:Int)+1:=o_;have Xs:(0:Int)<(Ja.length:Int)+1:=o_;have Yf:(Ja.length:Int)<(Ja.length:Int)+1:=o_;have X_:(0:Int)<=(Ja.length:Int):=o_
      clear H Jh Ji Js Je J_ Jp Jf;go_wp2_with fail;go_region_held_law (λ_=>True) (exact trivial)
        (first
        | ((with_reducible refine Calls.mono Jo.out ?_);intro e w1 hx;obtain⟨J,Xp,Jg⟩:=hx;subst Xp)
        | (refine kK (by rfl) _ _ 90 (by rfl) w.heap.size 55 i0 .nilIface underlying90 Xl Xf Xn Xk (by rfl) (.slice (some ⟨g,0,none⟩) Ja.length O) (Ja.map (·.1)) (by rfl) (Jw.out _ _ Jg).1 J (I.map (·.1)) (by rfl) Jg.1 Jr.out (by simp;omega) (Jw.out _ _ Jg).2 ?_;intro v' w2 Jb Jc Jl))
      have Jy:Hid (Src w1 J (I.map (·.1))/\Bl wr w1):=Jg;have Xg:Hid (eT w.heap.size w2 v' (Ja.map (·.1)++I.map (·.1))):=Jb;have Xb:Hid (w1.grownBy w2 (Value.slice (some ⟨g,0,none⟩) Ja.length O).ownBlock):=Jc;have Xq:Hid (∀k,v'.ownBlock=some k->(Value.slice (some ⟨g,0,none⟩) Ja.length O).ownBlock=some k\/w1.heap.size<=k):=Jl;obtain⟨va,vn,vc,rfl⟩:∃va vn vc,v'=.slice va vn vc:=by obtain⟨va,vc,h,_⟩:=eT.form Jb;exact⟨_,_,_,h⟩
      clear Jg Jb Jc Jl Jw Jo;go_wp2_with fail;refine(Xh.out _).mono ?_;rintro e w3 ⟨rfl,Jn⟩;obtain⟨Jx,Xe⟩:=HI.out.mid Jy.out.2 Xb;have Xj:Hid (dW w.heap.size (w3.alloc (.cells #[V n.kd,V n.val,sV n.nm] 36)) (.slice Y L.length Z) L):=(Jx.below Jn).below (aq _ _);have Xd:w.heap.size<=(w3.alloc (.cells #[V n.kd,V n.val,sV n.nm] 36)).heap.size:=(by have:=Jn.size;simp;omega);have Ju:Hid (a_ (w3.alloc (.cells #[V n.kd,V n.val,sV n.nm] 36)) (rV w3.heap.size 1 1) [n]):=CC w3 n _;have Xa:Hid (Bl w2 w3):=Jn;clear Jx Xe Jn;go_wp2_with(at_builtin;refine wi rfl _ _ rfl w.heap.size _ L rfl Xj.out _ [n] rfl Ju.out i_ (by simp;omega) Xd ?_);intro Xi w5 Jq Xc Jz;have Xo:Hid (Fh w w5 S r (.slice va vn vc) Xi (Ja++I) (L++[n])):=HI.out.step Jm.out Jv.out Jy.out.2 Xg.out Xb.out Xq.out (Xa.out.alloc Xa.out.size _) Jq Xc (by simpa only[World.size_alloc]using Jz);obtain⟨la,lc,rfl,-⟩:=Jq.nodes;clear Jq Xc Jz;go_wp2;go_roundw
      case rel=>exact⟨_,_,Xo⟩
      case measure=>simp[JQ];omega
section
variable{e r:List Nd}
def fq(e r:List Nd):Prop:=if e.length<=2000/\oneB e=true then Fd cL e r else r=[]
def fq.yes(h:fq e r)(H:e.length<=2000)(h2:oneB e=true):Fd cL e r:=by unfold fq at h;rw[if_pos ⟨H,h2⟩]at h;exact h
def fq.no(h:fq e r)(H:e.length<=2000->oneB e=false):r=[]:=by unfold fq at h;rw[if_neg (by rintro⟨a,b⟩;rw[H a]at b;cases b)]at h;exact h
def fq.len(h:fq e r):r.length<=2000:=by unfold fq at h;split at h;rename_i h1;have:=h.len;omega;subst h;simp
def dg.mono{B B':Nat}{w:AT}{v:BY}{ns:List Nd}(h:dg B w v ns)(I:B'<=B):dg B' w v ns:=by obtain⟨g,Ja,e,H,h2,h3,h4⟩:=h;exact⟨g,Ja,e,H,h2,t_ I h3,h4⟩
def sM(w:AT)(B:Nat)(hB:B<=w.heap.size)(t:IN):dg B (w.alloc (.cells #[] t)) (rV w.heap.size 0 0) []:=
 ⟨w.heap.size,0,rfl,n_,o_,hB,i_,λj hj=>absurd hj i_,λj hj=>absurd hj i_⟩
def m6(v:BY)(e r:List Nd)(w:AT)(O:eG w)(hl:e.length<=1048576)(U:a_ w v e)(Z:fq e r):
  Calls prog 8 #[v] w λx w'=>∃u,x=rW u/\dg w.heap.size w' u r/\Bl w w':=by
 have I:=ah U;have J:=ah O;have H:=ah Z;have Jg:=O.size;obtain⟨a,Jo,rfl,Jp,Jn,-⟩:=U;by_cases h2:2000<e.length
 ·obtain rfl:=H.o.no (λh=>absurd h o_);go_in;go_wp2;go_ret;exact⟨_,rfl,sM w _ n_ _,r_.alloc n_ _⟩
 go_in;go_wp2_with fail;refine(tY _ e _ J.o o_ I).mono ?_;rintro x w1 ⟨rfl,Jk⟩;have Ja:=ah Jk;cases ho:oneB e
 ·obtain rfl:=H.o.no (λ_=>ho);go_wp2;go_ret;exact⟨_,rfl,sM w1 _ Ja.o.size _,Ja.o.alloc Ja.o.size _⟩
 have Y:=ah ho;have X:Hid (Fd cL e r):=H.o.yes o_ ho;have Jc:Hid (r.length<=2000):=H.o.len;go_wp2_with fail;refine(zk _ e r _ (J.o.below Jg Ja) (I.o.below Ja) Y.o o_ X).mono ?_;rintro x w2 ⟨u,S,rfl,Jd,Jh,Jj⟩;have Jl:=ah Jd;have Jf:Hid (∀B,S B->B<w2.heap.size):=λB hB=>(Jh B hB).2;have Jb:Hid (Bl w w2):=Ja.o.trans (Jj.mono Ja.o.size);obtain⟨ta,tb,rfl⟩:=Jd.isI;go_wp2_with fail;refine(cy _ r S _ Jf.o Jl.o Jc).mono ?_;rintro x w3 ⟨v3,rfl,h3,Jm⟩;have Ji:=ah h3;have Je:Hid (Bl w w3):=Jb.o.trans (Jm.mono Jb.o.size);obtain⟨g3,c3,rfl,-⟩:=h3;go_wp2;go_ret;exact⟨_,rfl,Ji.o.mono Jb.o.size,Je⟩
end
def Jd(w:AT)(B:Nat)(q:SV)(hb:B<=w.heap.size):(w.alloc (.cells #[V q.s.kd,sV q.s.nm,q.ve,q.vf,V q.s.th,V q.s.el] 254)).ownsRow B 254 6 (rV w.heap.size 1 1) 1 (cQ [q]):=
 ownsRow_lit w #[V q.s.kd,sV q.s.nm,q.ve,q.vf,V q.s.th,V q.s.el] 1 hb d_ rfl
def gH{w w1:AT}(q:SV)(J:w.heap.size<=w1.heap.size)(I:b9 w.heap.size w1 q.ve q.s.e q.ke)(H:b9 w.heap.size w1 q.vf q.s.f q.kf)(O:(q.ke++q.kf).Nodup):
  aM w.heap.size (w1.alloc (.cells #[V q.s.kd,sV q.s.nm,q.ve,q.vf,V q.s.th,V q.s.el] 254)) (rV w1.heap.size 1 1) [q]:=by
 have h:Bl w1 (w1.alloc (.cells #[V q.s.kd,sV q.s.nm,q.ve,q.vf,V q.s.th,V q.s.el] 254)):=aq _ _;refine⟨Jd w1 _ q J,λx hx=>?_,?_,λg hg hm=>?_⟩;simp only[K7]at hx;subst hx;exact⟨I.keep h.size λg hg=>h.block g (I.rng g hg).2,H.keep h.size λg hg=>h.block g (H.rng g hg).2⟩;simpa[cC]using O;simp only[ownBlock,If]at hg;subst hg;simp only[cC,flatMap_cons,flatMap_nil,append_nil,K5]at hm;rcases hm with hm|hm
 ·have:=(I.rng _ hm).2;omega
 have:=(H.rng _ hm).2;omega
def uC(w w':AT)(u:BY)(ss:List St):Prop:=∃R,aM w.heap.size w' u R/\R.map (·.s)=ss
def xy(W:AT)(v:BY):(Instr.typeAssert (.iface 326 v) 289 326 true).run prog W=.ok (.tuple #[v,.bool true]) W:=by kernel_rfl
def rA(e:List Nd)(x:BY)(S:DO)(w:AT)(U:Tv w S x e)(hl:e.length<=2000)(O:∀B,S B->B<w.heap.size):
  Calls prog 151 #[.iface 292 (.agg #[x])] w λr w'=>∃u,r=rW u/\uC w w' u [⟨6,⟨#[]⟩,e,[],0,0⟩]/\Bl w w':=by
 have HX:=ah U;obtain⟨tx,Y,rfl⟩:=U.isI;have HL:Hid (∀W,Bl w W->Calls prog 20 #[.iface tx Y] W λr w'=>∃a n c,r=rW (.slice a n c)/\(∃g,b9 w.heap.size w' (.slice a n c) e [g])/\Bl W w'):=λW hbW=>by refine(cy _ e S W (λB hB=>l_ (O B hB) hbW.size) (HX.o.keep (λ_ h=>h) (λB hB=>hbW.block B (O B hB))) hl).mono ?_;rintro r w' ⟨v,rfl,J,X⟩;obtain⟨g,H,-⟩:=J.one;obtain⟨g',Jk,rfl,-⟩:=J;exact⟨_,_,_,rfl,⟨g,H.base hbW.size⟩,X⟩
 have I:∀o,Bl w (w.alloc o):=λo=>r_.alloc n_ o;have Jd:=λW v=>d9 W 292 v d_;have Jf:=λW v=>f_ W 292 v d_;have Jb:=λW v=>fh W 292 v d_;have Jh:=λW v=>ib W 292 v d_;have Jc:=λW v=>gw W 292 v d_;have Ja:=λW v=>iU W v;go_in;go_wp2_with fail;refine(HL.o _ (I _)).mono ?_;rintro r wt ⟨a1,n1,Z,rfl,Jg,Jj⟩;have Ji:=ah Jg;have Je:Bl w wt:=(I _).trans (Jj.mono (I _).size);go_wp2;go_ret;have⟨g,H⟩:=Ji.o;exact⟨_,rfl,⟨_,gH ⟨⟨6,⟨#[]⟩,e,[],0,0⟩,.slice a1 n1 Z,nV,[g],[]⟩ Je.size H (b9.nil _ _) i_,rfl⟩,Je.alloc Je.size _⟩
def zP(e:List Nd)(x:BY)(S:DO)(w:AT)(U:Tv w S x e)(hl:e.length<=2000)(O:∀B,S B->B<w.heap.size):
  Calls prog 151 #[.iface 325 (.agg #[x])] w λr w'=>∃u,r=rW u/\uC w w' u [⟨7,⟨#[]⟩,e,[],0,0⟩]/\Bl w w':=by
 have HX:=ah U;obtain⟨tx,Y,rfl⟩:=U.isI;have HL:Hid (∀W,Bl w W->Calls prog 20 #[.iface tx Y] W λr w'=>∃a n c,r=rW (.slice a n c)/\(∃g,b9 w.heap.size w' (.slice a n c) e [g])/\Bl W w'):=λW hbW=>by refine(cy _ e S W (λB hB=>l_ (O B hB) hbW.size) (HX.o.keep (λ_ h=>h) (λB hB=>hbW.block B (O B hB))) hl).mono ?_;rintro r w' ⟨v,rfl,J,X⟩;obtain⟨g,H,-⟩:=J.one;obtain⟨g',Jl,rfl,-⟩:=J;exact⟨_,_,_,rfl,⟨g,H.base hbW.size⟩,X⟩
 have I:∀o,Bl w (w.alloc o):=λo=>r_.alloc n_ o;have Jd:=λW v=>d9 W 325 v d_;have Jg:=λW v=>f_ W 325 v d_;have Jb:=λW v=>fh W 325 v d_;have Ji:=λW v=>ib W 325 v d_;have Jc:=λW v=>gw W 325 v d_;have Ja:=λW v=>jz W 325 v d_;have Jf:=λW v=>yn W v;go_in;go_wp2_with fail;refine(HL.o _ (I _)).mono ?_;rintro r wt ⟨a1,n1,Z,rfl,Jh,Jk⟩;have Jj:=ah Jh;have Je:Bl w wt:=(I _).trans (Jk.mono (I _).size);go_wp2;go_ret;have⟨g,H⟩:=Jj.o;exact⟨_,rfl,⟨_,gH ⟨⟨7,⟨#[]⟩,e,[],0,0⟩,.slice a1 n1 Z,nV,[g],[]⟩ Je.size H (b9.nil _ _) i_,rfl⟩,Je.alloc Je.size _⟩
def xz(e:List Nd)(x:BY)(S:DO)(w:AT)(U:Tv w S x e)(hl:e.length<=2000)(O:∀B,S B->B<w.heap.size):
  Calls prog 151 #[.iface 326 (.agg #[x])] w λr w'=>∃u,r=rW u/\uC w w' u [⟨8,⟨#[]⟩,e,[],0,0⟩]/\Bl w w':=by
 have HX:=ah U;obtain⟨tx,Y,rfl⟩:=U.isI;have HL:Hid (∀W,Bl w W->Calls prog 20 #[.iface tx Y] W λr w'=>∃a n c,r=rW (.slice a n c)/\(∃g,b9 w.heap.size w' (.slice a n c) e [g])/\Bl W w'):=λW hbW=>by refine(cy _ e S W (λB hB=>l_ (O B hB) hbW.size) (HX.o.keep (λ_ h=>h) (λB hB=>hbW.block B (O B hB))) hl).mono ?_;rintro r w' ⟨v,rfl,J,X⟩;obtain⟨g,H,-⟩:=J.one;obtain⟨g',Jm,rfl,-⟩:=J;exact⟨_,_,_,rfl,⟨g,H.base hbW.size⟩,X⟩
 have I:∀o,Bl w (w.alloc o):=λo=>r_.alloc n_ o;have Jd:=λW v=>d9 W 326 v d_;have Jh:=λW v=>f_ W 326 v d_;have Jb:=λW v=>fh W 326 v d_;have Jj:=λW v=>ib W 326 v d_;have Jc:=λW v=>gw W 326 v d_;have Ja:=λW v=>jz W 326 v d_;have Jg:=λW v=>BD W 326 v d_;have Jf:=λW v=>xy W v;go_in;go_wp2_with fail;refine(HL.o _ (I _)).mono ?_;rintro r wt ⟨a1,n1,Z,rfl,Ji,Jl⟩;have Jk:=ah Ji;have Je:Bl w wt:=(I _).trans (Jl.mono (I _).size);go_wp2;go_ret;have⟨g,H⟩:=Jk.o;exact⟨_,rfl,⟨_,gH ⟨⟨8,⟨#[]⟩,e,[],0,0⟩,.slice a1 n1 Z,nV,[g],[]⟩ Je.size H (b9.nil _ _) i_,rfl⟩,Je.alloc Je.size _⟩
theorem xA(H:ByteArray)(e:List Nd)(x:Value)(S:Nat->Prop)(w:World)(U:Tv w S x e)(hl:e.length<=2000)(O:∀B,S B->B<w.heap.size):
  Calls prog 151 #[.iface 321 (.agg #[sV H,x])] w λr w'=>∃u,r=rW u/\uC w w' u [⟨1,H,e,[],0,0⟩]/\Below w.heap.size w w':=by
 have HX:=ah U;obtain⟨tx,I,rfl⟩:=U.isI;have⟨W0,Ja⟩:=q_ (w.alloc (.cells #[sV H,.iface tx I] 321));have Jb:Bl w W0:=by rw[Ja];exact r_.alloc n_ _
 have Jl:W0.heap.size=w.heap.size+1:=by rw[Ja];simp
 have Jd:Bl W0 W0.drew:=r_.drew;have X:Hid (∀W,Bl W0 W->W.cell? ⟨w.heap.size,0,none⟩=some (sV H)/\W.cell? ⟨w.heap.size,1,none⟩=some (.iface tx I)):=λW hW=>⟨(hW.cell (p:=⟨w.heap.size,0,none⟩) (by simp;omega)).trans (by rw[Ja];simp),(hW.cell (p:=⟨w.heap.size,1,none⟩) (by simp;omega)).trans (by rw[Ja];simp)⟩;have HL:Hid (∀W,Bl W0 W->Calls prog 20 #[.iface tx I] W λr w'=>∃a n c,r=rW (.slice a n c)/\(∃g,b9 w.heap.size w' (.slice a n c) e [g])/\Bl W w'):=λW hW=>by have Jg:=Jb.trans (hW.mono Jb.size);refine(cy _ e S W (λB hB=>l_ (O B hB) Jg.size) (HX.out.keep (λ_ h=>h) (λB hB=>Jg.block B (O B hB))) hl).mono ?_;rintro r w' ⟨v,rfl,Y,Z⟩;obtain⟨g,J,-⟩:=Y.one;obtain⟨g',Jo,rfl,-⟩:=Y;exact⟨_,_,_,rfl,⟨g,J.base Jg.size⟩,Z⟩
 have Jm:=ah Ja;have Jn:w.heap.size<=W0.heap.size:=Jb.size;have Je:=λW v=>vh W v;have y:=X.out _ Jd;clear U O Ja Jl;go_in;go_upto_region 4 with fail;rw[<-Jm.out];go_region_held (λW=>W.cell? ⟨w.heap.size,0,none⟩=some (sV H)/\W.cell? ⟨w.heap.size,1,none⟩=some (.iface tx I)) (go_keep)
  (first|((with_reducible refine Calls.mono (HL.out _ Jd) ?_);intro r wt hr;obtain⟨a1,n1,c1,Jj,Jh,Jc⟩:=hr;subst Jj;have Ji:Bl W0 wt:=Jd.trans (Jc.mono Jd.size);have q:=X.out wt Ji))
 have Jk:=ah Jh;have Jf:Bl w wt:=Jb.trans (Ji.mono Jb.size);clear Jh Jc q y;go_wp2;go_ret;have⟨g,J⟩:=Jk.out;exact⟨_,rfl,⟨_,gH ⟨⟨1,H,e,[],0,0⟩,.slice a1 n1 c1,nV,[g],[]⟩ Jf.size J (b9.nil _ _) i_,rfl⟩,Jf.alloc Jf.size _⟩
theorem zQ(H:ByteArray)(e:List Nd)(x:Value)(S:Nat->Prop)(w:World)(U:Tv w S x e)(hl:e.length<=2000)(O:∀B,S B->B<w.heap.size):
  Calls prog 151 #[.iface 322 (.agg #[sV H,x])] w λr w'=>∃u,r=rW u/\uC w w' u [⟨2,H,e,[],0,0⟩]/\Below w.heap.size w w':=by
 have HX:=ah U;obtain⟨tx,I,rfl⟩:=U.isI;have⟨W0,Ja⟩:=q_ (w.alloc (.cells #[sV H,.iface tx I] 322));have Jb:Bl w W0:=by rw[Ja];exact r_.alloc n_ _
 have Jm:W0.heap.size=w.heap.size+1:=by rw[Ja];simp
 have Jd:Bl W0 W0.drew:=r_.drew;have X:Hid (∀W,Bl W0 W->W.cell? ⟨w.heap.size,0,none⟩=some (sV H)/\W.cell? ⟨w.heap.size,1,none⟩=some (.iface tx I)):=λW hW=>⟨(hW.cell (p:=⟨w.heap.size,0,none⟩) (by simp;omega)).trans (by rw[Ja];simp),(hW.cell (p:=⟨w.heap.size,1,none⟩) (by simp;omega)).trans (by rw[Ja];simp)⟩;have HL:Hid (∀W,Bl W0 W->Calls prog 20 #[.iface tx I] W λr w'=>∃a n c,r=rW (.slice a n c)/\(∃g,b9 w.heap.size w' (.slice a n c) e [g])/\Bl W w'):=λW hW=>by have Jg:=Jb.trans (hW.mono Jb.size);refine(cy _ e S W (λB hB=>l_ (O B hB) Jg.size) (HX.out.keep (λ_ h=>h) (λB hB=>Jg.block B (O B hB))) hl).mono ?_;rintro r w' ⟨v,rfl,Y,Z⟩;obtain⟨g,J,-⟩:=Y.one;obtain⟨g',Jp,rfl,-⟩:=Y;exact⟨_,_,_,rfl,⟨g,J.base Jg.size⟩,Z⟩
 have Jn:=ah Ja;have Jo:w.heap.size<=W0.heap.size:=Jb.size;have Je:=λW v=>d9 W 322 v d_;have Jj:=λW v=>ym W v;have y:=X.out _ Jd;clear U O Ja Jm;go_in;go_upto_region 7 with fail;rw[<-Jn.out];go_region_held (λW=>W.cell? ⟨w.heap.size,0,none⟩=some (sV H)/\W.cell? ⟨w.heap.size,1,none⟩=some (.iface tx I)) (go_keep)
  (first|((with_reducible refine Calls.mono (HL.out _ Jd) ?_);intro r wt hr;obtain⟨a1,n1,c1,Jk,Jh,Jc⟩:=hr;subst Jk;have Ji:Bl W0 wt:=Jd.trans (Jc.mono Jd.size);have q:=X.out wt Ji))
 have Jl:=ah Jh;have Jf:Bl w wt:=Jb.trans (Ji.mono Jb.size);clear Jh Jc q y;go_wp2;go_ret;have⟨g,J⟩:=Jl.out;exact⟨_,rfl,⟨_,gH ⟨⟨2,H,e,[],0,0⟩,.slice a1 n1 c1,nV,[g],[]⟩ Jf.size J (b9.nil _ _) i_,rfl⟩,Jf.alloc Jf.size _⟩
