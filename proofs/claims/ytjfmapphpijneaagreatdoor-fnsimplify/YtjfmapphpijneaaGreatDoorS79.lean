import Derived.Deep.RegionHeld
import Derived.Deep.RegionHeldLaw
import Derived.Shelf.SlicesQ.Reverse
import Derived.Lib.OwnBridge
import Derived.Test.YtjfmapphpijneaaGreatDoorS32
import Derived.Test.YtjfmapphpijneaaGreatDoorS77
namespace Go.Proofs.YtjfmapphpijneaaGreatDoor
set_option linter.all false
set_option maxRecDepth 100000
set_option maxHeartbeats 0
open Go.Value Go.World List Go.Proofs.Tryz
variable[Inhabited Pick]
section
open Go.RowKit
def G3(n:Nd)(hn:aJ n=true)(A:Nat)(Z:arity n=A)(S:Ft)(ar:BY)(vs:Nat->BY)(F:Nat->List Nd)(w:AT)(ha:gy w S ar A vs)(U:∀i,i<A->Tv w S (vs i) (F i))(hb:∀i,i<A->∀x,dY (F i)=some x->d7 x)(hS:∀B,S B->B<w.heap.size):
  Calls prog 95 #[jC n ar vs] w λe w'=>∃u,e=rW u/\Tv w' S u (cj cJ n A F)/\Bl w w':=by
 have Jd:=gO hn;obtain⟨Jb,Jc⟩:=qX hn;have h6:=λh=>IW hn h;obtain⟨J,nv,nm⟩:=n;simp only at Jd Jb Jc h6;have hk:J=1∨J=2∨J=3∨J=4∨J=5∨J=6∨J=7∨J=8∨J=9:=o_
 rcases hk with rfl|rfl|rfl|rfl|rfl|rfl|rfl|rfl|rfl;obtain rfl:=Jb o_;have I:A=0:=by simp[arity]at Z;omega
 subst I;refine(iL 157 _ d_ d_ d_ d_ w).mono ?_;rintro e w' ⟨rfl,Ja⟩;exact⟨_,rfl,.num nv,Ja⟩;obtain rfl:=Jc o_;have I:A=0:=by simp[arity]at Z;omega
 subst I;refine(iL 199 _ d_ d_ d_ d_ w).mono ?_;rintro e w' ⟨rfl,Ja⟩;exact⟨_,rfl,.var nm,Ja⟩;obtain rfl:=Jc o_;have I:A=1:=by simp[arity]at Z;omega
 subst I;refine(iL 201 _ d_ d_ d_ d_ w).mono ?_;rintro e w' ⟨rfl,Ja⟩;exact⟨_,rfl,.index nm _ _ ((U 0 o_).bel hS Ja),Ja⟩;have I:nv=A:=by simp[arity]at Z;omega
 subst I;refine(iL 203 _ d_ d_ d_ d_ w).mono ?_;rintro e w' ⟨rfl,Ja⟩;exact⟨_,rfl,.call nm _ A vs F (ha.keep (λ_ h=>h) (λB hB=>Ja.block B (hS B hB))) (λi hi=>(U i hi).bel hS Ja),Ja⟩;obtain rfl:=Jb o_;obtain rfl:=Jc o_;have I:A=0:=by simp[arity]at Z;omega
 subst I;refine(iL 212 _ d_ d_ d_ d_ w).mono ?_;rintro e w' ⟨rfl,Ja⟩;exact⟨_,rfl,.inn,Ja⟩;obtain rfl:=Jb o_;have I:A=1:=by simp[arity]at Z;omega
 subst I;exact IU nv (h6 rfl).1 (h6 rfl).2 (U 0 o_) (hb 0 o_) hS;obtain rfl:=Jb o_;have I:A=2:=by simp[arity]at Z;omega
 subst I;exact G_ nv (U 0 o_) (U 1 o_) hS;obtain rfl:=Jb o_;obtain rfl:=Jc o_;have I:A=2:=by simp[arity]at Z;omega
 subst I;exact G0 (U 0 o_) (U 1 o_) (hb 1 o_) hS;obtain rfl:=Jb o_;obtain rfl:=Jc o_;have I:A=2:=by simp[arity]at Z;omega
 subst I;exact IV (U 0 o_) (U 1 o_) (hb 1 o_) hS
theorem Au(n:Nd)(hn:aJ n=true)(A:Nat)(hA:arity n=A)(S:Ft)(ar:BY)(vs:Nat->BY)(F:Nat->List Nd)(C:Nat)(w:AT)(hC:w.cell? ⟨C,0,none⟩=some (.func (Fn.func 95) #[] #[]))(ha:gy w S ar A vs)(Z:∀i,i<A->Tv w S (vs i) (F i))(hb:∀i,i<A->∀x,dY (F i)=some x->d7 x)(hS:∀B,S B->B<w.heap.size):
  Calls prog 122 #[.agg #[V n.kd,V n.val,sV n.nm],ar,pV C] w λe w'=>∃u,e=rW u/\Tv w' S u (cj cJ n A F)/\Bl w w':=by
 have Jc:=b_ hC;have bx:∀o,Bl w (w.alloc o).drew:=λo=>(r_.alloc n_ o).drew;have HN:=ah λW (U:Bl w W)=>oY n hn A hA S ar vs W (ha.keep (λ_ h=>h) (λB hB=>U.block B (hS B hB))) (λi hi=>(Z i hi).isI);have HF:=ah λW (U:Bl w W)=>G3 n hn A hA S ar vs F W (ha.keep (λ_ h=>h) (λB hB=>U.block B (hS B hB))) (λi hi=>(Z i hi).bel hS U) hb (λB hB=>l_ (hS B hB) U.size);have q0:∀o,(w.alloc o).cell? ⟨C,0,none⟩=some (.func (Fn.func 95) #[] #[]):=λo=>((r_.alloc n_ o:Bl w (w.alloc o)).cell (p:=⟨C,0,none⟩) Jc).trans hC;obtain⟨J,I,nm⟩:=n;simp only at HN HF⊢;generalize jC ⟨J,I,nm⟩ ar vs=NV at HN HF;generalize cj cJ ⟨J,I,nm⟩ A F=T at HF⊢;go_in;go_wp2_with fail;have Jf:=ah λo=>HN.o _ (bx o);have HK:Hid (∀w2,Below (w.alloc (.cells #[V J,V I,sV nm] 81)).drew.heap.size (w.alloc (.cells #[V J,V I,sV nm] 81)).drew w2->w2.cell? ⟨C,0,none⟩=some (.func (Fn.func 95) #[] #[])/\w2.cell? ⟨w.heap.size,0,none⟩=some (V J)/\w2.cell? ⟨w.heap.size,1,none⟩=some (V I)/\w2.cell? ⟨w.heap.size,2,none⟩=some (sV nm)/\Bl w w2):=by intro w2 h;have h1:Below (w.alloc (.cells #[V J,V I,sV nm] 81)).heap.size (w.alloc (.cells #[V J,V I,sV nm] 81)) w2:=r_.drew.trans h;have g:∀i v,(w.alloc (.cells #[V J,V I,sV nm] 81)).cell? ⟨w.heap.size,i,none⟩=some v->w2.cell? ⟨w.heap.size,i,none⟩=some v:=λi v Z=>(h1.cell (p:=⟨w.heap.size,i,none⟩) i_).trans Z;exact⟨(h1.cell (p:=⟨C,0,none⟩) H6).trans (q0 _),g _ _ (by go_simp),g _ _ (by go_simp),g _ _ (by go_simp),(bx _).trans (h.mono i_)⟩
 have Jb:∀w2 w3:AT,Bl w2 w3->∀B i v,w2.cell? ⟨B,i,none⟩=some v->w3.cell? ⟨B,i,none⟩=some v:=by intro w2 w3 h B i v Z;exact(h.cell (p:=⟨B,i,none⟩) (b_ Z)).trans Z
 have Jg:Hid (∀W:AT,Bl w W->W.cell? ⟨C,0,none⟩=some (.func (Fn.func 95) #[] #[])->W.cell? ⟨w.heap.size,0,none⟩=some (V J)->W.cell? ⟨w.heap.size,1,none⟩=some (V I)->W.cell? ⟨w.heap.size,2,none⟩=some (sV nm)->Calls prog 95 #[NV] W λe w'=>∃u,e=rW u/\(Tv w' S u T/\Bl w w')/\w'.cell? ⟨C,0,none⟩=some (.func (Fn.func 95) #[] #[])/\w'.cell? ⟨w.heap.size,0,none⟩=some (V J)/\w'.cell? ⟨w.heap.size,1,none⟩=some (V I)/\w'.cell? ⟨w.heap.size,2,none⟩=some (sV nm)):=by intro W U h1 h2 h3 h4;refine(HF.o W U).mono ?_;rintro e w' ⟨u,rfl,h5,h6⟩;exact⟨u,rfl,⟨h5,U.trans (h6.mono U.size)⟩,Jb _ _ h6 _ _ _ h1,Jb _ _ h6 _ _ _ h2,Jb _ _ h6 _ _ _ h3,Jb _ _ h6 _ _ _ h4⟩
 have q1:=q0 (.cells #[V J,V I,sV nm] 81);go_region_held (λW=>W.cell? ⟨C,0,none⟩=some (.func (Fn.func 95) #[] #[])/\W.cell? ⟨w.heap.size,0,none⟩=some (V J)/\W.cell? ⟨w.heap.size,1,none⟩=some (V I)/\W.cell? ⟨w.heap.size,2,none⟩=some (sV nm)) (first|go_keep|(exact⟨q1,by go_simp,by go_simp,by go_simp⟩))
  (first
  | ((with_reducible refine Calls.mono (Jf.o _) ?_);intro x w2 hx;obtain⟨Jd,Ja⟩:=hx;subst Jd;obtain⟨qa,Je,Jh,Ji,qw⟩:=HK.o w2 Ja;clear Ja)
  | ((with_reducible refine Calls.mono (Jg.o _ qw qa Je Jh Ji) ?_);intro x w3 hx;obtain⟨u,Jd,Ja,r0,r1,r2,r3⟩:=hx;subst Jd;have HT:Hid (Tv w3 S u T/\Bl w w3):=Ja;clear Ja))
 go_wp2;go_ret;exact⟨_,rfl,HT.o.1,HT.o.2⟩
abbrev EY:=List Nd×List Nd×BY
def vsL(L:List EY)(i:Nat):BY:=(L.getD i ([],[],.nilIface)).2.2
def fsL(L:List EY)(i:Nat):List Nd:=(L.getD i ([],[],.nilIface)).2.1
structure RI (w wr:AT) (e:List Nd) (k:Nat) (v:BY) (T:List EY) (S:Ft):Prop where
 flat:(T.map (·.1)).flatten=e.take k
 each:∀t∈T,oneB t.1=true/\Fd cJ t.1 t.2.1/\Tv wr S t.2.2 t.2.1
 row:ff w.heap.size wr v (T.map (·.2.2))
 sep:∀B,S B->w.heap.size<=B/\B<wr.heap.size/\v.ownBlock≠some B
 bel:Bl w wr
def RI.below{w wr w':AT}{e:List Nd}{k:Nat}{v:BY}{T:List EY}{S:Ft}(h:RI w wr e k v T S)(I:Bl wr w'):RI w w' e k v T S:=by refine⟨h.flat,λt ht=>⟨(h.each t ht).1,(h.each t ht).2.1,(h.each t ht).2.2.bel (λB hB=>(h.sep B hB).2.1) I⟩,ownB h.row I,λB hB=>?_,h.bel.trans (I.mono h.bel.size)⟩;have:=h.sep B hB;exact⟨this.1,l_ this.2.1 I.size,this.2.2⟩
def RI.one{w wr:AT}{e:List Nd}{k:Nat}{v:BY}{T:List EY}{S:Ft}(h:RI w wr e k v T S):∀u∈T.map (·.2.2),u.oneCell'=true:=by intro u I;simp only[mem_map]at I;obtain⟨t,J,rfl⟩:=I;obtain⟨a,b,Ja⟩:=(h.each t J).2.2.isI;rw[Ja];rfl
def RI.segs{w wr:AT}{e:List Nd}{k:Nat}{v:BY}{T:List EY}{S:Ft}(h:RI w wr e k v T S):∀s∈T.map (·.1),oneB s=true:=by intro s I;simp only[mem_map]at I;obtain⟨t,J,rfl⟩:=I;exact(h.each t J).1
def sJ(S:Ft)(u:BY)(B:Nat):Prop:=S B∨u.ownBlock=some B
theorem RI.kids{w wr w3:AT}{e:List Nd}{k:Nat}{v:BY}{T:List EY}{S:Ft}(h:RI w wr e k v T S)(I A:Nat)(Jf:I+A=T.length)(hb:Bl wr w3){u:BY}(Z:ff wr.heap.size w3 u ((T.drop I).map (·.2.2))):
  gy w3 (sJ S u) u A (vsL (T.drop I))/\(∀i,i<A->Tv w3 (sJ S u) (vsL (T.drop I) i) (fsL (T.drop I) i))/\(∀i,i<A->∀x,dY (fsL (T.drop I) i)=some x->d7 x)/\∀B,sJ S u B->B<w3.heap.size:=by
 have Jb:(T.drop I).length=A:=by simp;omega
 have Ja:∀i (J:i<A),(T.drop I).getD i ([],[],.nilIface)=(T.drop I)[i]'(by omega)/\(T.drop I)[i]'(by omega)∈T:=by intro i J;refine⟨by simp[List.getD,J4 (show i<(T.drop I).length by omega)],J6 (g_ _)⟩
 refine⟨?_,λi J=>?_,λi J x hx=>?_,λB hB=>?_⟩;obtain⟨a,Jc,rfl,U,h2,h3,h4⟩:=Z.form;simp only[J8,Jb]at U⊢;refine⟨a,Jc,rfl,U,h2,λh0=>?_⟩;cases a with
 | none=>
  have:=h3 rfl
  have h5:=congrArg List.length this;simp only[J8,l_n]at h5;omega
 | some ad=>obtain⟨g,rfl,Jd,Je,hc⟩:=h4 ad rfl;refine⟨g,rfl,.inr rfl,λi J=>?_⟩;refine hc i _ ?_;rw[getElem?_map,J4 (show i<(T.drop I).length by omega),Option.map_some,vsL,(Ja i J).1]
 ·have:=(h.each _ (Ja i J).2).2.2
  rw[vsL,fsL,(Ja i J).1];exact this.keep (λB hB=>.inl hB) (λB hB=>hb.block B (h.sep B hB).2.1)
 ·have:=(h.each _ (Ja i J).2).2.1
  rw[fsL,(Ja i J).1]at hx;exact this.bd hx
 rcases hB with hB|hB;exact l_ (h.sep B hB).2.1 hb.size;exact(Z.own B hB).2
def RI.step{w wr w3 w4 w5 w6:AT}{e:List Nd}{k:Nat}{v v' u U:BY}{T:List EY}{S:Ft}(h:RI w wr e k v T S)(hk:k<e.length)(I A:Nat)(Jl:I+A=T.length)(hn:aJ e[k]=true)(hA:arity e[k]=A)
  (hb:Bl wr w3) (hu:ff wr.heap.size w3 u ((T.drop I).map (·.2.2))) (Jf:Bl w3 w4) (hT:Tv w4 (sJ S u) U (cj cJ e[k] A (fsL (T.drop I)))) (Jg:Bl w4 w5)
  (hr:ff w.heap.size w6 v' ((T.take I).map (·.2.2)++[U])) (J:w5.grownBy w6 v.ownBlock) (hf:∀g,v'.ownBlock=some g->v.ownBlock=some g∨w5.heap.size<=g):
  ∃T' S',RI w w6 e (k+1) v' T' S':=by
 have Ji:∀g,v.ownBlock=some g->w.heap.size<=g/\g<wr.heap.size:=λg J=>h.row.own g J;have Je:Bl wr w5:=(hb.trans (Jf.mono hb.size)).trans (Jg.mono (t_ hb.size Jf.size));have Ja:∀B,sJ S u B->B<w3.heap.size/\w.heap.size<=B/\v.ownBlock≠some B:=by intro B hB;rcases hB with hB|hB;exact⟨l_ (h.sep B hB).2.1 hb.size,(h.sep B hB).1,(h.sep B hB).2.2⟩;have Z:=hu.own B hB;have h2:=h.bel.size;refine⟨Z.2,o_,λhh=>?_⟩;have:=Ji B hh;omega
 have Jk:w3.heap.size<=w5.heap.size:=t_ Jf.size Jg.size;have Jb:∀B,sJ S u B->w6.heap[B]? =w5.heap[B]? := λB hB=>J.block B (by have:=(Ja B hB).1;omega) (λhh=>(Ja B hB).2.2 hh.symm);refine⟨T.take I++[(((T.drop I).map (·.1)).flatten++[e[k]],cj cJ e[k] A (fsL (T.drop I)),U)],sJ S u,?_,?_,?_,?_,?_⟩
 simp only[map_append,map_cons,map_nil,flatten_append,flatten_cons,flatten_nil,append_nil];rw[<-append_assoc,<-flatten_append,<-map_append,take_append_drop,h.flat,take_succ_eq_append_getElem hk]
 ·intro t ht;rw[J5]at ht;rcases ht with ht|ht
  ·have:=h.each t (mem_of_mem_take ht)
   refine⟨this.1,this.2.1,this.2.2.keep (λB hB=>.inl hB) (λB hB=>?_)⟩;rw[Jb B (.inl hB)];exact Je.block B (h.sep B hB).2.1
  simp only[J7]at ht;subst ht;have Jc:∀s∈(T.drop I).map (·.1),oneB s=true:=by intro s hs;simp only[mem_map]at hs;obtain⟨t,ht,rfl⟩:=hs;exact(h.each t (J6 ht)).1
  have Jd:((T.drop I).map (·.1)).length=A:=H6;refine⟨d9 _ _ hn (by rw[Jd,hA]) Jc,?_,hT.keep (λ_ hB=>hB) (λB hB=>?_)⟩
  have:=nr cJ ((T.drop I).map (·.1)) e[k] hn (by rw[Jd,hA]) Jc (fsL (T.drop I)) (λi hi=>by have Jj:i<(T.drop I).length:=(IN hi);rw[fsL];simp only[getElem_map,List.getD,J4 Jj,Option.getD_some];exact(h.each _ (J6 (g_ _))).2.1)
  rw[Jd]at this;exact this;rw[Jb B hB];exact Jg.block B (by have:=(Ja B hB).1;have:=Jf.size;omega)
 have e1:(T.take I++[(((T.drop I).map (·.1)).flatten++[e[k]],cj cJ e[k] A (fsL (T.drop I)),U)]).map (·.2.2)=(T.take I).map (·.2.2)++[U]:=i_;rw[e1];exact hr;intro B hB;have Z:=Ja B hB;refine⟨Z.2.1,Ka J.size,λhh=>?_⟩;rcases hf B hh with h2|h2;exact Z.2.2 h2;omega;have Jh:Bl w w5:=h.bel.trans (Je.mono h.bel.size);exact Jh.grown J Jh.size (λg J=>(Ji g J).1)
theorem RI.fin{w wr:AT}{e r:List Nd}{v:BY}{T:List EY}{S:Ft}(h:RI w wr e e.length v T S)(Z:oneB e=true)(hr:Fd cJ e r):∃u g,(∃cap,v=rV g 1 cap)/\DO wr g 0 u/\Tv wr S u r:=by
 have I:T.map (·.1)=[e]:=tQ Z h.segs (by rw[h.flat,take_length]);have U:T.length=1:=by have:=congrArg List.length I;simpa using this
 obtain⟨t,rfl⟩:=length_eq_one_iff.1 U;simp only[map_cons,map_nil,List.cons.injEq,and_true]at I;have h2:=h.each t i_;rw[I]at h2;have h3:=h2.2.1.one hr;rw[h3]at h2;obtain⟨a,cap,J,_,_,h5,h6⟩:=h.row.form;cases a with
 | none=>have:=h5 rfl;simp at this
 | some ad=>obtain⟨g,rfl,_,_,h7⟩:=h6 ad rfl;exact⟨t.2.2,g,⟨cap,J⟩,h7 0 _ i_,h2.2.2⟩
theorem xl(v:BY)(e r:List Nd)(C:Nat)(w:AT)(Jn:gF w)(hN:aC w v e)(Jo:oneB e=true)(hl:e.length<=2000)(hr:Fd cJ e r)(hC:w.cell? ⟨C,0,none⟩=some (.func (Fn.func 95) #[] #[])):
    Calls prog 90 #[v,.func (Fn.func 122) #[] #[pV C]] w λx w'=>∃u S,x=rW u/\Tv w' S u r/\(∀B,S B->w.heap.size<=B/\B<w'.heap.size)/\Bl w w':=by
  obtain⟨i0,Xw,Xo,Xy,Xu⟩:=info_parts nA;obtain⟨a,Yh,rfl,Yj,Yf,hc⟩:=hN;have HC:Hid (0<e.length->∃b Jj,a=some ⟨b,Jj,none⟩/\fZ w b Jj e):=hc;have Ya:Hid (w.cell? ⟨C,0,none⟩=some (.func (Fn.func 95) #[] #[])):=hC;have Ju:=b_ hC;have Jm:Hid (oneB e=true):=Jo;have Xq:Hid (Fd cJ e r):=hr;have Jk:Hid (gF w):=Jn;clear hc hC Jo hr Jn;go_in;go_wp2;go_loopw[5,12] (λst ix wr=>∃k:Nat,k<=e.length/\ix=V k/\∃T S,RI w wr e k st T S) (λ_ ix _=>e.length-(RowKit.intOf ix).toNat)
  case atStart=>exact⟨0,y_,rfl,[],λ_=>False,i_,i_,ownsRow_nil _ _ _ _,λB h=>h.elim,r_⟩
  case round=>
    obtain⟨k,hk,rfl,T,S,Z⟩:=hrel;have HI:Hid (RI w wr e k u5 T S):=Z;obtain⟨J,U,rfl,Jw,Yg,Xb,Xc⟩:=Z.row.form;simp only[J8]at Jw HI⊢;by_cases hlt:k<e.length
    · obtain⟨b,Jj,rfl,Xl⟩:=HC.o o_
      obtain⟨d0,d1,d2⟩:=(Xl.below Z.bel) k hlt;obtain⟨hn,hA⟩:=qH Jm.o Z.segs hlt Z.flat;rw[J8]at hA;have Xh:=dM hn;obtain⟨A,Jp⟩:∃A:Nat,arity e[k]=A:=⟨(arity e[k]).toNat,o_⟩;obtain⟨I,Xd⟩:∃I,I+A=T.length:=⟨T.length-A,o_⟩;have Jx:Hid (arity e[k]=A):=Jp;have Jv:Hid (aJ e[k]=true):=hn;have Jt:=gO hn;have Jr:Hid (∀W,Bl wr W->Calls prog 117 #[.agg #[V e[k].kd,V e[k].val,sV e[k].nm]] W λx w'=>x=rW (V A)/\Bl W w'):=λW hW=>by
        have:=nz e[k] W (Jk.o.below Jk.o.size (Z.bel.trans (hW.mono Z.bel.size))) Jt
        rw[Jp]at this;exact this
      have Yb:T.length<=2000:=by have h1:=fK _ Z.segs 0 (Int.le_refl _);have h2:=(ks _ _ _ h1 (Int.le_refl 0)).2;rw[Z.flat]at h2;simp only[J8,length_take]at h2;omega
      have Xp:∀W:AT,(Instr.slice 186 (.slice J T.length U) (some (V I)) none none).run prog W=.ok (.slice (if U=I then J else J.map (·.add (I*1))) (T.length-I) (U-I)) W:=CJ J T.length U I o_ Jw;have Yi:∀W:AT,(Instr.slice 186 (.slice J T.length U) none (some (V I)) none).run prog W=.ok (.slice J I U) W:=xk J T.length U I o_ Jw;have Ye:IntKind.i64.wrap ((T.length:Int)-(A:Int))=(I:Int):=(by rw[nJ];omega);have Yc:((T.length:Int)-(A:Int))=(I:Int):=o_
      have Je:Hid (∀W,Bl wr W->Src W (.slice (if U=I then J else J.map (·.add (I*1))) (T.length-I) (U-I)) ((T.drop I).map (·.2.2))):=λW hW=>by
        have:=(Z.row.tail I (by rw[J8];omega)).below hW
        rw[J8,<-map_drop]at this;exact this
      have Xf:Hid (∀u∈(T.drop I).map (·.2.2),u.oneCell'=true):=λu hu=>Z.one u (by simp only[mem_map]at hu⊢;obtain⟨t,ht,rfl⟩:=hu;exact⟨t,J6 ht,rfl⟩)
      clear Xl Xb Xc hn Z;have Yd:Jj+k*3=Jj+k*3:=rfl;generalize Jg:e[k]=n at d0 d1 d2 Jr Jt hA Xh Jp Jx Jv;have Xr:Hid (e[k]=n):=Jg;clear Jg Jp Jt hA Xh;obtain⟨nk,nv,nm⟩:=n;simp only at d0 d1 d2 Jr;generalize (Value.slice (if U=I then J else J.map (·.add (I*1))) (T.length-I) (U-I))=sv at Xp Je;go_wp2_with fail;have Jy:∀o,Bl wr (wr.alloc o):=λo=>r_.alloc n_ o;refine(Jr.o _ (Jy _)).mono ?_;rintro x w2 ⟨rfl,Jq⟩;have Jf:Bl wr w2:=(Jy _).trans (Jq.mono i_);simp only[Bl,J9]at Jq;obtain⟨f0,f1,f2⟩:=mY Jq;have Xg:Hid (Src w2 sv ((T.drop I).map (·.2.2))):=Je.o w2 Jf;have Js:Hid (Bl wr w2):=Jf;clear Jy Jq d0 d1 d2 Jf Je;go_wp2_with fail;refine(uD sv _ w2 H6 Xg.o Xf).mono ?_;rintro x w3 ⟨uc,rfl,Xk,Jl⟩;have Jb:Bl wr w3:=Js.o.trans (Jl.mono Js.o.size);have g0:=(Jl.cell (p:=⟨wr.heap.size,0,none⟩) (b_ f0)).trans f0;have g1:=(Jl.cell (p:=⟨wr.heap.size,1,none⟩) (b_ f1)).trans f1;have g2:=(Jl.cell (p:=⟨wr.heap.size,2,none⟩) (b_ f2)).trans f2;have Xa:Hid (ff wr.heap.size w3 uc ((T.drop I).map (·.2.2))):=ff.mono Xk Js.o.size;have Xt:Hid (Bl wr w3):=Jb;have Jd:wr.heap.size<w3.heap.size:=b_ g0;have Xm:Hid (Calls prog 122 #[.agg #[V nk,V nv,sV nm],uc,pV C] w3.drew λx w'=>∃ta tb,x=rW (.iface ta tb)/\(Tv w' (sJ S uc) (.iface ta tb) (cj cJ ⟨nk,nv,nm⟩ A (fsL (T.drop I)))/\Bl w3 w')/\w'.cell? ⟨wr.heap.size,0,none⟩=some (V nk)/\w'.cell? ⟨wr.heap.size,1,none⟩=some (V nv)/\w'.cell? ⟨wr.heap.size,2,none⟩=some (sV nm)):=by have hd:Bl wr w3.drew:=Jb.drew;obtain⟨k1,k2,k3,k4⟩:=HI.o.kids I A Xd hd (u:=uc) (ownsRow.drew Xa);have Xv:w3.drew.cell? ⟨C,0,none⟩=some (.func (Fn.func 95) #[] #[]):=((HI.o.bel.trans (hd.mono HI.o.bel.size)).cell (p:=⟨C,0,none⟩) Ju).trans Ya;refine(Au ⟨nk,nv,nm⟩ Jv.o A Jx.o _ uc _ _ C w3.drew Xv k1 k2 k3 k4).mono ?_;rintro x w' ⟨u,rfl,h1,h2⟩;have h3:Bl w3 w':=r_.drew.trans h2;obtain⟨ta,tb,rfl⟩:=h1.isI;refine⟨ta,tb,rfl,⟨h1,h3⟩,(h3.cell (p:=⟨wr.heap.size,0,none⟩) Jd).trans g0,(h3.cell (p:=⟨wr.heap.size,1,none⟩) Jd).trans g1,(h3.cell (p:=⟨wr.heap.size,2,none⟩) Jd).trans g2⟩
      have J_:Hid (∀w4 u' o,(Tv w4 (sJ S uc) u' (cj cJ ⟨nk,nv,nm⟩ A (fsL (T.drop I)))/\Bl w3 w4)->(w4.alloc o).ownsRow w.heap.size 127 1 (.slice J I U) ((T.take I).map (·.2.2)).length ((T.take I).map (·.2.2))/\w.heap.size<=(w4.alloc o).heap.size):=by intro w4 u' o ⟨_,h⟩;have h1:=(HI.o.below (Jb.trans (h.mono Jb.size))).below (r_.alloc n_ o);have h2:=h1.row.head I (by rw[J8];omega);rw[<-map_take]at h2;exact⟨h2,h1.bel.size⟩
      have Xe:Hid (∀(W W':AT) (o:Obj),W.cell? ⟨wr.heap.size,0,none⟩=some (V nk)->W.cell? ⟨wr.heap.size,1,none⟩=some (V nv)->W.cell? ⟨wr.heap.size,2,none⟩=some (sV nm)->(W.alloc o).grownBy W' (Value.slice J I U).ownBlock->W'.cell? ⟨wr.heap.size,0,none⟩=some (V nk)/\W'.cell? ⟨wr.heap.size,1,none⟩=some (V nv)/\W'.cell? ⟨wr.heap.size,2,none⟩=some (sV nm)):=by
        intro W W' o h0 h1 h2 hg;have Xn:some wr.heap.size≠(Value.slice J I U).ownBlock:=λh=>by
          have:=(HI.o.row.own wr.heap.size (by cases J <;> exact h.symm)).2
          omega
        have Jz:∀i v,W.cell? ⟨wr.heap.size,i,none⟩=some v->W'.cell? ⟨wr.heap.size,i,none⟩=some v:=λi v h=>hg.cell ((((Below.refl W.heap.size W).alloc n_ o).cell (p:=⟨wr.heap.size,i,none⟩) (b_ h)).trans h) Xn;exact⟨Jz _ _ h0,Jz _ _ h1,Jz _ _ h2⟩
      clear Xk Jl f0 f1 f2 Jb Xg Xf Jr;go_wp2_with fail;go_region_held_law (λW=>W.cell? ⟨wr.heap.size,0,none⟩=some (V nk)/\W.cell? ⟨wr.heap.size,1,none⟩=some (V nv)/\W.cell? ⟨wr.heap.size,2,none⟩=some (sV nm)) (first|go_keep|(go_split_ands;exact⟨y0,y1,y2⟩))
        (first
        | ((with_reducible refine Calls.mono Xm.o ?_);intro x w4 hx;obtain⟨ta,tb,X_,Jh,q0,q1,q2⟩:=hx;subst X_)
        | (refine j_ Ic _ _ 186 Ic w.heap.size 127 i0 .nilIface underlying186 Xw Xo Xy Xu Ic (.slice J I U) ((T.take I).map (·.2.2)) Ic (J_.o _ _ _ Jh).1 (.slice (some ⟨w4.heap.size,0,none⟩) 1 1) [.iface ta tb] Ic (Src.lit _ _ _) (λy hy=>by simp at hy;subst hy;rfl) H6 (J_.o _ _ _ Jh).2 ?_;intro v' w6 Jc Ja Ji;obtain⟨y0,y1,y2⟩:=Xe.o _ _ _ q0 q1 q2 Ja))
      have Xs:Hid (∃T' S',RI w w6 e (k+1) v' T' S'):=by
        have Jg:=Xr.o;refine HI.o.step (w3:=w3) (w4:=w4) (w5:=w4.alloc (.cells #[.iface ta tb] 127)) (u:=uc) hlt I A Xd (by rw[Jg];exact Jv) (by rw[Jg];exact Jx) Xt.o Xa.o Jh.2 (by rw[Jg];exact Jh.1) (r_.alloc n_ _) Jc ?_ ?_
        · have e1:(Value.slice J I U).ownBlock=(Value.slice J T.length U).ownBlock:=by cases J <;> rfl
          rw[<-e1];exact Ja
        · have e1:(Value.slice J I U).ownBlock=(Value.slice J T.length U).ownBlock:=by cases J <;> rfl
          rw[<-e1];exact Ji
      obtain⟨va,vn,vc,rfl⟩:∃va vn vc,v'=.slice va vn vc:=by obtain⟨va,vc,h,_⟩:=ff.form Jc;exact⟨_,_,_,h⟩
      clear Jc Ja Ji Jh Xm J_ Xe;go_wp2;go_roundw
      case rel=>exact⟨k+1,o_,by go_num,Xs⟩
      case measure=>exact IF
    · obtain rfl:k=e.length:=by omega
      obtain⟨u,g,⟨cp,hv⟩,Xi,Xx⟩:=Z.fin Jm.o Xq;simp only[Value.slice.injEq]at hv;obtain⟨rfl,Xj,rfl⟩:=hv;have Xz:T.length=1:=(IN Xj);clear Xb Xc Xj;rw[Xz];go_wp2;go_ret;exact⟨_,S,rfl,Xx,λB hB=>⟨(HI.o.sep B hB).1,(HI.o.sep B hB).2.1⟩,HI.o.bel⟩
def jk(n:Nd):BY:=.agg #[V n.kd,V n.val,sV n.nm]
def AB(v:Int)(w:AT):Calls prog 120 #[.iface 157 (.agg #[V v])] w λe w'=>e=rW (jk ⟨1,v,⟨#[]⟩⟩)/\Bl w w':=by
 have y:=bQ;have I:Bl w w:=r_;unfold jk;go_in;go_wp2_with fail;try simp only[Exit.inBlock,Exit.then]
 refine bodyPost_ret (by simp[results,results120,go_sem];try rfl) rfl ?_;exact⟨rfl,(I.alloc n_ _).alloc i_ _⟩
def AC(s:Io)(w:AT):Calls prog 120 #[.iface 199 (.agg #[sV s])] w λe w'=>e=rW (jk ⟨2,0,s⟩)/\Bl w w':=by
 have J:=λW v=>aS W 199 v d_;have y:=oP;have I:Bl w w:=r_;unfold jk;go_in;go_wp2_with fail;try simp only[Exit.inBlock,Exit.then]
 refine bodyPost_ret (by simp[results,results120,go_sem];try rfl) rfl ?_;exact⟨rfl,(I.alloc n_ _).alloc i_ _⟩
def uQ(s:Io)(tx:JZ)(x:BY)(w:AT):Calls prog 120 #[.iface 201 (.agg #[sV s,.iface tx x])] w λe w'=>e=rW (jk ⟨3,0,s⟩)/\Bl w w':=by
 have J:=λW v=>aS W 201 v d_;have U:=λW v=>cW W 201 v d_;have y:=i9;have I:Bl w w:=r_;unfold jk;go_in;go_wp2_with fail;try simp only[Exit.inBlock,Exit.then]
 refine bodyPost_ret (by simp[results,results120,go_sem];try rfl) rfl ?_;exact⟨rfl,(I.alloc n_ _).alloc i_ _⟩
def xm(s:Io)(a:Option Addr)(A J:Nat)(w:AT):Calls prog 120 #[.iface 203 (.agg #[sV s,.slice a A J])] w λe w'=>e=rW (jk ⟨4,A,s⟩)/\Bl w w':=by
 have Z:=λW v=>aS W 203 v d_;have U:=λW v=>cW W 203 v d_;have n3:=λW v=>cR W 203 v d_;have y:=mz;have I:Bl w w:=r_;unfold jk;go_in;go_wp2_with fail;try simp only[Exit.inBlock,Exit.then]
 refine bodyPost_ret (by simp[results,results120,go_sem];try rfl) rfl ?_;exact⟨rfl,(I.alloc n_ _).alloc i_ _⟩
def AD (w:AT):Calls prog 120 #[.iface 212 (.agg #[])] w λe w'=>e=rW (jk ⟨5,0,⟨#[]⟩⟩)/\Bl w w':=by
 have n1:=λW v=>aS W 212 v d_;have n2:=λW v=>cW W 212 v d_;have n3:=λW v=>cR W 212 v d_;have n4:=λW v=>dN W 212 v d_;have Z:=λW v=>df W 212 v d_;have J:=λW v=>cX W 212 v d_;have U:=λW v=>cL W 212 v d_;have n8:=λW v=>dK W 212 v d_;have I:Bl w w:=r_;unfold jk;go_in;go_wp2_with fail;try simp only[Exit.inBlock,Exit.then]
 refine bodyPost_ret (by simp[results,results120,go_sem];try rfl) rfl ?_;exact⟨rfl,I.alloc n_ _⟩
def CK(v:Int)(tx:JZ)(x:BY)(w:AT):Calls prog 120 #[.iface 205 (.agg #[V v,.iface tx x])] w λe w'=>e=rW (jk ⟨6,v,⟨#[]⟩⟩)/\Bl w w':=by
 have U:=λW v=>aS W 205 v d_;have J:=λW v=>cW W 205 v d_;have Z:=λW v=>cR W 205 v d_;have n4:=λW v=>dN W 205 v d_;have y:=dm;have I:Bl w w:=r_;unfold jk;go_in;go_wp2_with fail;try simp only[Exit.inBlock,Exit.then]
 refine bodyPost_ret (by simp[results,results120,go_sem];try rfl) rfl ?_;exact⟨rfl,(I.alloc n_ _).alloc i_ _⟩
def AE(v:Int)(tx:JZ)(x:BY)(J:JZ)(y:BY)(w:AT):Calls prog 120 #[.iface 207 (.agg #[V v,.iface tx x,.iface J y])] w λe w'=>e=rW (jk ⟨7,v,⟨#[]⟩⟩)/\Bl w w':=by
 have Z:=λW v=>aS W 207 v d_;have n2:=λW v=>cW W 207 v d_;have n3:=λW v=>cR W 207 v d_;have n4:=λW v=>dN W 207 v d_;have U:=λW v=>df W 207 v d_;have y:=cY;have I:Bl w w:=r_;unfold jk;go_in;go_wp2_with fail;try simp only[Exit.inBlock,Exit.then]
 refine bodyPost_ret (by simp[results,results120,go_sem];try rfl) rfl ?_;exact⟨rfl,(I.alloc n_ _).alloc i_ _⟩
def AF(tx:JZ)(x:BY)(J:JZ)(y:BY)(w:AT):Calls prog 120 #[.iface 209 (.agg #[.iface tx x,.iface J y])] w λe w'=>e=rW (jk ⟨8,0,⟨#[]⟩⟩)/\Bl w w':=by
 have n1:=λW v=>aS W 209 v d_;have n2:=λW v=>cW W 209 v d_;have n3:=λW v=>cR W 209 v d_;have n4:=λW v=>dN W 209 v d_;have Z:=λW v=>df W 209 v d_;have U:=λW v=>cX W 209 v d_;have y:=cZ;have I:Bl w w:=r_;unfold jk;go_in;go_wp2_with fail;try simp only[Exit.inBlock,Exit.then]
 refine bodyPost_ret (by simp[results,results120,go_sem];try rfl) rfl ?_;exact⟨rfl,(I.alloc n_ _).alloc i_ _⟩
def CL(tx:JZ)(x:BY)(J:JZ)(y:BY)(w:AT):Calls prog 120 #[.iface 210 (.agg #[.iface tx x,.iface J y])] w λe w'=>e=rW (jk ⟨9,0,⟨#[]⟩⟩)/\Bl w w':=by
 have n1:=λW v=>aS W 210 v d_;have n2:=λW v=>cW W 210 v d_;have n3:=λW v=>cR W 210 v d_;have n4:=λW v=>dN W 210 v d_;have n5:=λW v=>df W 210 v d_;have U:=λW v=>cX W 210 v d_;have Z:=λW v=>cL W 210 v d_;have y:=dC;have I:Bl w w:=r_;unfold jk;go_in;go_wp2_with fail;try simp only[Exit.inBlock,Exit.then]
 refine bodyPost_ret (by simp[results,results120,go_sem];try rfl) rfl ?_;exact⟨rfl,(I.alloc n_ _).alloc i_ _⟩
def Src.nil(w:AT):Src w nV []:=⟨_,_,rfl,λ_=>rfl,λad had=>by cases had⟩
theorem Src.lit2(w:AT)(x y:BY)(t:JZ):Src (w.alloc (.cells #[x,y] t)) (rV w.heap.size 2 2) [x,y]:=by
 refine⟨_,_,rfl,λh=>(by cases h),λad had j z hz=>?_⟩;simp only[J0]at had;subst had;cases j with
 | zero=>simp at hz;subst hz;simp[Addr.add]
 | succ j=>cases j with
  | zero=>simp at hz;subst hz;simp[Addr.add]
  | succ j=>simp at hz
def E_(v:Int)(w:AT):Calls prog 197 #[.agg #[V v]] w λe w'=>∃sl,e=rW sl/\Src w' sl []/\Bl w w':=by go_in;go_wp2;go_ret;exact⟨_,rfl,Src.nil _,r_.alloc n_ _⟩
def Fa(s:Io)(w:AT):Calls prog 204 #[.agg #[sV s]] w λe w'=>∃sl,e=rW sl/\Src w' sl []/\Bl w w':=by go_in;go_wp2;go_ret;exact⟨_,rfl,Src.nil _,r_.alloc n_ _⟩
def AG(s:Io)(tx:JZ)(x:BY)(w:AT):Calls prog 205 #[.agg #[sV s,.iface tx x]] w λe w'=>∃sl,e=rW sl/\Src w' sl [.iface tx x]/\Bl w w':=by go_in;go_wp2;go_ret;have I:=Src.lit (w.alloc (.cells #[sV s,.iface tx x] 201)) (.iface tx x) 127;simp only[Bl,J9]at I;exact⟨_,rfl,I,(ao _ _).alloc i_ _⟩
def Fb (w:AT):Calls prog 211 #[.agg #[]] w λe w'=>∃sl,e=rW sl/\Src w' sl []/\Bl w w':=by go_in;go_wp2;go_ret;exact⟨_,rfl,Src.nil _,r_.alloc n_ _⟩
def G9(v:Int)(tx:JZ)(x:BY)(w:AT):Calls prog 207 #[.agg #[V v,.iface tx x]] w λe w'=>∃sl,e=rW sl/\Src w' sl [.iface tx x]/\Bl w w':=by go_in;go_wp2;go_ret;have I:=Src.lit (w.alloc (.cells #[V v,.iface tx x] 205)) (.iface tx x) 127;simp only[Bl,J9]at I;exact⟨_,rfl,I,(ao _ _).alloc i_ _⟩
def Fc(v:Int)(tx:JZ)(x:BY)(I:JZ)(y:BY)(w:AT):Calls prog 208 #[.agg #[V v,.iface tx x,.iface I y]] w λe w'=>∃sl,e=rW sl/\Src w' sl [.iface tx x,.iface I y]/\Bl w w':=by go_in;go_wp2;go_ret;have J:=Src.lit2 (w.alloc (.cells #[V v,.iface tx x,.iface I y] 207)) (.iface tx x) (.iface I y) 127;simp only[Bl,J9]at J;exact⟨_,rfl,J,(ao _ _).alloc i_ _⟩
def Fe(tx:JZ)(x:BY)(I:JZ)(y:BY)(w:AT):Calls prog 209 #[.agg #[.iface tx x,.iface I y]] w λe w'=>∃sl,e=rW sl/\Src w' sl [.iface tx x,.iface I y]/\Bl w w':=by go_in;go_wp2;go_ret;have J:=Src.lit2 (w.alloc (.cells #[.iface tx x,.iface I y] 209)) (.iface tx x) (.iface I y) 127;simp only[Bl,J9]at J;exact⟨_,rfl,J,(ao _ _).alloc i_ _⟩
def Ha(tx:JZ)(x:BY)(I:JZ)(y:BY)(w:AT):Calls prog 210 #[.agg #[.iface tx x,.iface I y]] w λe w'=>∃sl,e=rW sl/\Src w' sl [.iface tx x,.iface I y]/\Bl w w':=by go_in;go_wp2;go_ret;have J:=Src.lit2 (w.alloc (.cells #[.iface tx x,.iface I y] 210)) (.iface tx x) (.iface I y) 127;simp only[Bl,J9]at J;exact⟨_,rfl,J,(ao _ _).alloc i_ _⟩
def CM(s:Io)(a:Option Addr)(A I:Nat)(w:AT):Calls prog 206 #[.agg #[sV s,.slice a A I]] w λe w'=>e=rW (.slice a A I)/\Bl w w':=by go_in;go_wp2;go_ret;exact⟨rfl,r_.alloc n_ _⟩
section
variable{w:AT}{S:Ft}
def IX(w:AT)(S:Ft)(v:BY)(l:List Nd):Prop:=∃(t:JZ) (x:BY) (f:Nat) (n:Nd) (Ls:List (BY×List Nd)),
 v=.iface t x/\l=(Ls.map (·.2)).flatten++[n]/\(∀q∈Ls,Tv w S q.1 q.2) /\
 (∀W:AT,(method 392 t x "loop.example/s01725/impl.operands").run prog W=.ok (f,x) W) /\
 (∀(y:BY) (W:AT),(callFunc f #[y]).run prog W=.ok (.enter f #[y]) W) /\
 (∀W:AT,Bl w W->Calls prog f #[x] W λe w'=>∃sl,e=rW sl/\Src w' sl (Ls.map (·.1))/\Bl W w') /\
 (∀W:AT,Calls prog 120 #[v] W λe w'=>e=rW (jk n)/\Bl W w')
theorem xo(F:Nat->List Nd)(vs:Nat->BY)(A:Nat):joinF F A=(((List.range A).map (λi=>(vs i,F i))).map (·.2)).flatten:=by
 induction A with
 | zero=>rfl
 | succ A ih=>rw[range_succ];simp only[joinF,map_append,flatten_append,map_cons,map_nil,flatten_cons,flatten_nil,append_nil];rw[ih]
def CN{J:BY}{A:Nat}{vs:Nat->BY}(F:Nat->List Nd)(h:gy w S J A vs):∃a cap,J=.slice a A cap/\Src w J (((List.range A).map (λi=>(vs i,F i))).map (·.1)):=by
 obtain⟨a,cap,rfl,_,_,h⟩:=h;refine⟨a,cap,rfl,a,cap,i_,λha=>?_,λad had j u hj=>?_⟩;rcases Nat.eq_zero_or_pos A with h0|h0;subst h0;rfl;obtain⟨B,I,_⟩:=h h0;rw[ha]at I;cases I;have Ja:j<A:=by
  have:=(List.getElem?_eq_some_iff.mp hj).1
  simpa using this
 obtain⟨B,I,_,U⟩:=h o_;rw[had]at I;simp only[J0]at I;subst I;rw[dk];have:=U j Ja;simp only[List.map_map,List.getElem?_map,List.getElem?_range Ja,Option.map_some,J0,Function.comp]at hj;rw[<-hj];simpa using this
theorem Tv.low{v:BY}{l:List Nd}(h:Tv w S v l):IX w S v l:=by
 cases h using Tv_i with
 | num v=>exact⟨_,_,197,_,[],rfl,rfl,i_,λW=>by kernel_rfl,λy W=>by kernel_rfl,λW _=>E_ v W,λW=>AB v W⟩
 | var s=>exact⟨_,_,204,_,[],rfl,rfl,i_,λW=>by kernel_rfl,λy W=>by kernel_rfl,λW _=>Fa s W,λW=>AC s W⟩
 | index s x r hx=>obtain⟨tx,xx,rfl⟩:=hx.isI;exact⟨_,_,205,_,[(_,r)],rfl,i_,IN hx,λW=>by kernel_rfl,λy W=>by kernel_rfl,λW _=>AG s tx xx W,λW=>uQ s tx xx W⟩
 | call s ar A vs F ha hv=>obtain⟨a,Ja,rfl,U⟩:=CN F ha;refine⟨_,_,206,_,(List.range A).map (λi=>(vs i,F i)),rfl,by rw[<-xo],λq hq=>?_,λW=>by kernel_rfl,λy W=>by kernel_rfl,λW hW=>?_,λW=>xm s a A Ja W⟩;simp only[mem_map,mem_range]at hq;obtain⟨i,Z,rfl⟩:=hq;exact hv i Z;refine(CM s a A Ja W).mono ?_;rintro e w' ⟨rfl,J⟩;exact⟨_,rfl,U.below (hW.trans (J.mono hW.size)),J⟩
 | inn=>exact⟨_,_,211,_,[],rfl,rfl,i_,λW=>by kernel_rfl,λy W=>by kernel_rfl,λW _=>Fb W,λW=>AD W⟩
 | un op x r hx=>obtain⟨tx,xx,rfl⟩:=hx.isI;exact⟨_,_,207,_,[(_,r)],rfl,i_,IN hx,λW=>by kernel_rfl,λy W=>by kernel_rfl,λW _=>G9 op tx xx W,λW=>CK op tx xx W⟩
 | bin op x y r t hx hy=>obtain⟨tx,xx,rfl⟩:=hx.isI;obtain⟨ty,I,rfl⟩:=hy.isI;exact⟨_,_,208,_,[(_,r),(_,t)],rfl,i_,by simpa using⟨hx,hy⟩,λW=>by kernel_rfl,λy W=>by kernel_rfl,λW _=>Fc op tx xx ty I W,λW=>AE op tx xx ty I W⟩
 | and x y r t hx hy=>obtain⟨tx,xx,rfl⟩:=hx.isI;obtain⟨ty,I,rfl⟩:=hy.isI;exact⟨_,_,209,_,[(_,r),(_,t)],rfl,i_,by simpa using⟨hx,hy⟩,λW=>by kernel_rfl,λy W=>by kernel_rfl,λW _=>Fe tx xx ty I W,λW=>AF tx xx ty I W⟩
 | or x y r t hx hy=>obtain⟨tx,xx,rfl⟩:=hx.isI;obtain⟨ty,I,rfl⟩:=hy.isI;exact⟨_,_,210,_,[(_,r),(_,t)],rfl,i_,by simpa using⟨hx,hy⟩,λW=>by kernel_rfl,λy W=>by kernel_rfl,λW _=>Ha tx xx ty I W,λW=>CL tx xx ty I W⟩
def xp(v:BY)(e r:List Nd)(w:AT)(Ja:gF w)(U:aC w v e)(Jb:oneB e=true)(hl:e.length<=2000)(hr:Fd cJ e r):
  Calls prog 94 #[v,.func (Fn.func 95) #[] #[]] w λx w'=>∃u S,x=rW u/\Tv w' S u r/\(∀B,S B->w.heap.size<=B/\B<w'.heap.size)/\Bl w w':=by
 have I:=(Below.refl w.heap.size w).alloc n_ (.cells #[.func (Fn.func 95) #[] #[]] 216);have Z:Hid (Calls prog 90 #[v,.func (Fn.func 122) #[] #[pV w.heap.size]] (w.alloc (.cells #[.func (Fn.func 95) #[] #[]] 216)) λx w'=>∃u S,x=rW u/\Tv w' S u r/\(∀B,S B->w.heap.size+1<=B/\B<w'.heap.size)/\Below (w.heap.size+1) (w.alloc (.cells #[.func (Fn.func 95) #[] #[]] 216)) w'):=by
  have:=xl v e r w.heap.size (w.alloc (.cells #[.func (Fn.func 95) #[] #[]] 216)) (Ja.below Ja.size I) (U.below I) Jb hl hr i_
  simp only[Bl,J9]at this;exact this
 obtain⟨a,Jc,rfl,-⟩:=U;go_in;go_wp2_with fail;refine Z.o.mono ?_;rintro x w1 ⟨u,S,rfl,J,h2,h3⟩;obtain⟨ta,tb,rfl⟩:=J.isI;have HT:=ah J;go_wp2;go_ret;exact⟨_,S,rfl,HT,λB hB=>⟨by have:=(h2 B hB).1;omega,(h2 B hB).2⟩,I.trans (h3.mono o_)⟩
end
end
section
open Go.Shelf
open Go.RowKit Go.Sort
def Tryz.lrev_ren:Go.Shelf.Ren:= ⟨fun|35=>121|n=>n, fun|22=>77|23=>81|3=>3|4=>4|0=>0|n=>n, fun|n=>n⟩
def Tryz.lrev:Go.Proofs.SlLaysE0.n35 prog Tryz.lrev_ren:= {
  mixed:= by kernel_rfl
  f35:= ⟨Tryz.f121.name, by decide, func121.trans (congrArg some k_)⟩
  t0:= underlying0
  a0:= Tryz.isAgg0
  z0:= Tryz.sizeOf0
  v0:= zeroValue0
  t3:= underlying3
  a3:= Tryz.isAgg3
  z3:= Tryz.sizeOf3
  v3:= zeroValue3
  t4:= underlying4
  a4:= Tryz.isAgg4
  z4:= Tryz.sizeOf4
  v4:= zeroValue4
  t22:= underlying77
  a22:= Tryz.isAgg77
  z22:= Tryz.sizeOf77
  v22:= zeroValue77 }
/-- A slice of nodes in a block of the call's own, from its first cell on, each of its cells free. -/
def dG(B:Nat)(w:AT)(v:BY)(ns:List Nd):Prop:= ∃ g cap, v=.slice (some ⟨g, 0, none⟩) ns.length cap ∧ ns.length ≤ cap ∧ cap ≤ 9223372036854775807 ∧ B ≤ g ∧ g<w.heap.size ∧ fZ w g 0 ns ∧ ∀ j, j<ns.length*3 → w.frozen? ⟨g, j, none⟩=false
def dG.nodes{B:Nat}{w:AT}{v:BY}{ns:List Nd}(h:dG B w v ns):aC w v ns:= by obtain⟨g, cap, rfl, h1, h2, _, _, h3, _⟩:= h;exact⟨_, cap, rfl, h1, h2, λ_=>⟨g, 0, rfl, h3⟩⟩
def uN[Inhabited Nd]{w:AT}{g:Nat}{ns:List Nd}(h:fZ w g 0 ns)(hf:∀ j, j<ns.length*3 → D4 w g ( j)):HoldsK fe 3 w g 0 ns.toArray:= by
  intro j hj;rw[size_flatK]at hj;simp only[size_toArray]at hj;refine⟨?_, by rw[Nat.zero_add]; exact hf j hj⟩;rw[get_flatK _ _ _ _ (IN hj), id];have hq:j / 3<ns.length:= by omega
  have e:ns.toArray[j / 3]! =ns[j / 3]:= by simp[hq]
  rw[e];obtain⟨h0, h1, h2⟩:= h (j / 3) hq;have hm:j%3=0∨j%3=1∨j%3=2:= by omega
  rcases hm with hm|hm|hm;rw[hm, show 0+j=0+j / 3*3 by omega, h0]; simp[fe];rw[hm, show 0+j=0+j / 3*3+1 by omega, h1]; simp[fe];rw[hm, show 0+j=0+j / 3*3+2 by omega, h2]; simp[fe]
def uO[Inhabited Nd]{w:AT}{g:Nat}{ns:List Nd}(h:HoldsK fe 3 w g 0 ns.toArray):fZ w g 0 ns ∧ ∀ j, j<ns.length*3 → D4 w g ( j):= by
  refine⟨λj hj=>?_, λj hj=>?_⟩
  · have e:ns.toArray[j]! =ns[j]:= by simp[hj]
    refine⟨?_, ?_, ?_⟩
    · have:= (h.cell (i:= j) (c:= 0) (IN hj) o_).1
      rw[e]at this; simpa[fe]using this
    · have:= (h.cell (i:= j) (c:= 1) (IN hj) o_).1
      rw[e]at this; simpa[fe]using this
    · have:= (h.cell (i:= j) (c:= 2) (IN hj) o_).1
      rw[e]at this; simpa[fe]using this
  · have:= (h j (by rw[size_flatK]; simpa using hj)).2
    rwa[Nat.zero_add]at this
def Ar(n:Nd):(fe n).length=3:= rfl
def As(n:Nd):∀ v∈fe n, v.oneCell'=true:= by intro v hv;simp only[fe, mem_cons, not_mem_nil, or_false]at hv;rcases hv with rfl|rfl|rfl <;> rfl
/-- slices.Reverse of a row of nodes. -/
def EX(B:Nat)(v:BY)(ns:List Nd)(w:AT)(hl:ns.length ≤ 1048576)(h:dG B w v ns):
    Calls prog 121 #[v] w λe w'=>e=rW (.tuple #[]) ∧ dG B w' v ns.reverse ∧ ∀ W b, b ≤ B → Below b W w → Below b W w':= by
  haveI:Inhabited Nd:=⟨⟨1,0,⟨#[]⟩⟩⟩;obtain⟨g, cap, rfl, h1, h2, h3, h4, h5, h6⟩:= h;have hH:= uN h5 h6;have:= AnyQ.slices_Reverse Tryz.lrev 3 Tryz.isAgg81 Tryz.sizeOf81 fe Ar As g 0 cap ns.toArray w hH (by simp; omega);simp only[size_toArray]at this;refine this.mono ?_;rintro e w' ⟨rfl, n, rfl⟩;refine⟨rfl, ⟨g, cap, by simp, IN h1, h2, h3, ?_, ?_⟩, λW b hb hW=>Lib.below_putRow hW o_⟩
  simpa[putRowK, Sort.ahead]using h4
  · have hh:= holdsK_putRowK fe 3 (Sort.ahead w n) g 0 ns.toArray ns.toArray.reverse (holdsK_ahead fe 3 w n g 0 ns.toArray hH) i_
    have e:ns.toArray.reverse=ns.reverse.toArray:= by simp
    rw[e]at hh⊢;exact uO hh
end
section
open Go.RowKit
def dG.one{B:Nat}{w:AT}{v:BY}{I:List Nd}(h:dG B w v I):∃g,dH B w v I [g]/\B<=g/\g<w.heap.size:=by obtain⟨g,Ja,e,J,h2,h3,h4,h5,h6⟩:=h;exact⟨g,.inr ⟨g,Ja,e,rfl,J,h2,h3,h4,h5,h6⟩,h3,h4⟩
end
section
open Go.RowKit
section
variable{w wr w1 w2:AT}{S:Ft}{r L:List Nd}{left list:BY}{Ls:List (BY×List Nd)}
structure CO (w wr:AT) (S:Ft) (r:List Nd) (left list:BY) (Ls:List (BY×List Nd)) (L:List Nd):Prop where
 sum:(Ls.map (·.2)).flatten++L.reverse=r
 each:∀q∈Ls,Tv w S q.1 q.2
 row:ff w.heap.size wr left (Ls.map (·.1))
 out:aW w.heap.size wr list L
 ne:∀g,left.ownBlock=some g->list.ownBlock≠some g
 bel:Bl w wr
theorem CO.len(h:CO w wr S r left list Ls L):Ls.length+L.length<=r.length:=by
 have I:Ls.length<=(Ls.map (·.2)).flatten.length:=by
  have h2:=h.each;clear h;induction Ls with
  | nil=>simp
  | cons q Ls ih=>have h3:=(h2 q i_).pos;have h4:=ih (λq hq=>h2 q (by simp[hq]));simp only[map_cons,flatten_cons,l_a,l_c];omega
 have h3:=congrArg List.length h.sum;simp only[l_a,length_reverse]at h3;omega
def CO.mid(h:CO w wr S r left list Ls L)(Jb:Bl wr w1)(Ja:w1.grownBy w2 left.ownBlock):aW w.heap.size w2 list L/\w.heap.size<=w2.heap.size:=by
 refine⟨An (ownB h.out Jb) Ja (λg hg h'=>h.ne g h' hg),?_⟩;have:=h.bel.size
 have:=Jb.size
 have:=Ja.size
 omega
def CO.step{w4 w5:AT}{l:List Nd}{v Ja Jb:BY}{Jc J:List (BY×List Nd)}{n:Nd}(h:CO w wr S r left list (Jc++[(v,l)]) L)(hl:l=(J.map (·.2)).flatten++[n])(hN:∀q∈J,Tv w S q.1 q.2)
  (Ji:Bl wr w1) (Jh:ff w.heap.size w2 Ja (Jc.map (·.1)++J.map (·.1))) (Jm:w1.grownBy w2 left.ownBlock) (Jo:∀k,Ja.ownBlock=some k->left.ownBlock=some k∨w1.heap.size<=k)
  (Jd:Bl w2 w4) (ho:aW w.heap.size w5 Jb (L++[n])) (Jj:w4.grownBy w5 list.ownBlock) (Jn:∀k,Jb.ownBlock=some k->list.ownBlock=some k∨w4.heap.size<=k):
  CO w w5 S r Ja Jb (Jc++J) (L++[n]):=by
 have Jf:∀g,list.ownBlock=some g->w.heap.size<=g/\g<wr.heap.size:=λg I=>World.ownsRow.lt h.out g I;have Jl:∀g,left.ownBlock=some g->w.heap.size<=g/\g<wr.heap.size:=λg I=>World.ownsRow.lt h.row g I;have Jk:∀g,Ja.ownBlock=some g->g<w2.heap.size:=λg I=>(World.ownsRow.lt Jh g I).2;have s1:=Ji.size;have s3:=Jd.size;have Z:∀g,Ja.ownBlock=some g->list.ownBlock≠some g:=by
  intro g I U;rcases Jo g I with h2|h2;exact h.ne g h2 U
  have:=(Jf g U).2;omega
 have e1:(Jc++J).map (·.1)=Jc.map (·.1)++J.map (·.1):=i_;have Jg:Bl w w2:=(h.bel.trans (Ji.mono h.bel.size)).grown Jm (t_ h.bel.size s1) (λg I=>(Jl g I).1);have Je:Bl w w4:=Jg.trans (Jd.mono Jg.size);refine⟨?_,λq hq=>?_,?_,ho,λg I U=>?_,Je.grown Jj Je.size (λg I=>(Jf g I).1)⟩
 have:=h.sum
 rw[<-this,hl];simp;rcases J5.1 hq with hq|hq;exact h.each q (by simp[hq]);exact hN q hq;rw[e1];exact An (ownB Jh Jd) Jj (λg I=>Z g I);rcases Jn g U with h2|h2;exact Z g I h2
 have:=Jk g I;omega
end
def Gp:BY->Nat
 | .slice _ n _=>n
 | _=>0
def aW.free{B:Nat}{w:AT}{v:BY}{J:List Nd}(h:aW B w v J)(hp:0<J.length):dG B w v J:=by have hn:=h.nodes;have U:=h;rcases h.2 with⟨rfl,hz⟩|⟨g,Jc,Jf,rfl,Jd,hg,Jh,Je,Ji,Ja⟩;omega;obtain⟨a,Jb,I,h1,h2,h3⟩:=hn;simp only[Value.slice.injEq,true_and]at I;obtain⟨rfl,rfl⟩:=I;obtain⟨b,Jg,I,Z⟩:=h3 hp;simp only[J0,Addr.mk.injEq,and_true]at I;obtain⟨rfl,rfl⟩:=I;exact⟨g,Jc,rfl,h1,h2,Jd,(ownsRow.lt U g rfl).2,Z,λj hj=>ownsRow.frozenAt U j⟩
def AH(w:AT)(n:Nd)(t:JZ):aC (w.alloc (.cells #[V n.kd,V n.val,sV n.nm] t)) (rV w.heap.size 1 1) [n]:=by
 refine⟨_,_,rfl,i_,o_,λ_=>⟨_,_,rfl,λj hj=>?_⟩⟩;have:j=0:=by simp at hj;omega
 subst this;refine⟨i_,i_,i_⟩
theorem dl(u:BY)(r:List Nd)(S:Ft)(w:AT)(hS:∀B,S B->B<w.heap.size)(hT:Tv w S u r)(hl:r.length<=2000):
    Calls prog 93 #[u] w λx w'=>∃v,x=rW v/\dG w.heap.size w' v r/\Bl w w':=by
  obtain⟨i0,Xl,Xf,Xn,Xk⟩:=info_parts nA;have HT:Hid (Tv w S u r):=hT;have Xr:Hid (CO w (w.alloc (.cells #[u] 127)) S r (rV w.heap.size 1 1) nV [(u,r)] []):=by refine⟨i_,IN hT,?_,World.ownsRow_nil _ _ _ _,λg _ h=>(by simp[Value.ownBlock]at h),r_.alloc n_ _⟩;exact World.ownsRow_lit w #[u] 1 n_ d_ rfl
  obtain⟨ta,tb,rfl⟩:=hT.isI;clear hT;go_in;go_wp2;go_loopw[3,4] (λlist left wr=>∃Ls L,CO w wr S r left list Ls L) (λlist _ _=>r.length-Gp list)
  case atStart=>exact⟨_,_,Xr⟩
  case round=>
    obtain⟨Ls,L,I⟩:=hrel;obtain⟨pa,Z,rfl,Jk,Yb,Jh,Ji⟩:=I.row.form;obtain⟨qa,qc,rfl,Yc,Xz,-⟩:=I.out.nodes;have Jd:=I.len;rcases List.eq_nil_or_concat Ls with rfl|⟨Ja,q,rfl⟩
    · have hL:L.reverse=r:=IN I.sum
      have HL:Hid (L.reverse=r):=hL;have HO:Hid (aW w.heap.size wr (.slice qa L.length qc) L):=I.out;have HB:Hid (Bl w wr):=I.bel;have Jt:0<L.length:=(by have:=HT.out.pos;rw[<-hL,List.length_reverse]at this;exact this);have HR:Hid (Calls prog 121 #[.slice qa L.length qc] wr λe w'=>e=rW (.tuple #[])/\dG w.heap.size w' (.slice qa L.length qc) r/\Bl w w'):=by refine(EX w.heap.size _ L wr o_ (HO.out.free Jt)).mono ?_;rintro e w' ⟨rfl,h1,h2⟩;exact⟨rfl,by rw[<-HL.out];exact h1,h2 w _ n_ HB⟩
      clear I Jh Ji hL;simp only[List.map_nil,l_n]at Jk⊢;go_wp2_with fail;refine HR.out.mono ?_;rintro x w1 ⟨rfl,h1,h2⟩;have HF:Hid (dG w.heap.size w1 (.slice qa L.length qc) r):=h1;clear h1;go_wp2;go_ret;exact⟨_,rfl,HF,h2⟩
    · obtain⟨v,l⟩:=q
      simp only[List.concat_eq_append]at Jk Jh Ji I Jd⊢;have e0:((Ja++[(v,l)]).map (·.1)).length=Ja.length+1:=i_;rw[e0]at Jk I⊢;have e1:(Ja++[(v,l)]).length=Ja.length+1:=i_;rw[e1]at Jd;cases pa with
      | none=>have:=Jh rfl;simp at this
      | some ad=>
      obtain⟨g,rfl,Xx,Yd,Js⟩:=Ji ad rfl;have Jj:=Js Ja.length v i_;obtain⟨t,x,f,n,J,rfl,Jp,Jf,hm,Xw,Je,J_⟩:=(I.each (v,l) i_).low;have HI:Hid (CO w wr S r (rV g (Ja.length+1) Z) (.slice qa L.length qc) (Ja++[(.iface t x,l)]) L):=I;have Jo:Hid (Calls prog f #[x] wr.drew λe w'=>∃U,e=rW U/\(Src w' U (J.map (·.1))/\Bl wr w')):=by refine(Je wr.drew I.bel.drew).mono ?_;rintro e w' ⟨U,rfl,h1,h2⟩;exact⟨U,rfl,h1,r_.drew.trans h2⟩
      have Xh:Hid (∀W:AT,Calls prog 120 #[.iface t x] W λe w'=>e=rW (.agg #[V n.kd,V n.val,sV n.nm])/\Bl W w'):=J_;have Jm:Hid (l=(J.map (·.2)).flatten++[n]):=Jp;have Jv:Hid (∀q∈J,Tv w S q.1 q.2):=Jf;have Jr:Hid (∀y∈J.map (·.1),y.oneCell'=true):=λy hy=>by simp only[List.mem_map]at hy;obtain⟨q,hq,rfl⟩:=hy;obtain⟨a,b,Xm⟩:=(Jf q hq).isI;rw[Xm];rfl
      have Ye:Ja.length+J.length<=2000:=by
        have h1:J.length<=(J.map (·.2)).flatten.length:=by
          have h2:=Jf;clear Jv Jr Jf Jo Jm Jp Je;induction J with
          | nil=>simp
          | cons q Ls ih=>have h3:=(h2 q i_).pos;have h4:=ih (λq hq=>h2 q (by simp[hq]));simp only[List.map_cons,List.flatten_cons,l_a,l_c];omega
        have h2:Ja.length<=(Ja.map (·.2)).flatten.length:=by
          have h2:∀q∈Ja,Tv w S q.1 q.2:=λq hq=>I.each q (by simp[hq]);clear Jv Jr Jf Jo Jm Jp HI I Jd Jj Js e0 e1 Jk Jh Ji;induction Ja with
          | nil=>simp
          | cons q Ls ih=>have h3:=(h2 q i_).pos;have h4:=ih (λq hq=>h2 q (by simp[hq]));simp only[List.map_cons,List.flatten_cons,l_a,l_c];omega
        have h3:=congrArg List.length I.sum;rw[Jm.out]at h3;simp only[List.map_append,List.map_cons,List.map_nil,List.flatten_append,List.flatten_cons,List.flatten_nil,l_a,l_n,l_c]at h3;omega
      have Jw:Hid (∀w1 U,(Src w1 U (J.map (·.1))/\Bl wr w1)->w1.ownsRow w.heap.size 127 1 (rV g Ja.length Z) (Ja.map (·.1)).length (Ja.map (·.1))/\w.heap.size<=w1.heap.size):=by intro w1 U ⟨_,hb⟩;have h2:ff w.heap.size w1 (rV g (Ja.length+1) Z) ((Ja++[(Value.iface t x,l)]).map (·.1)):=ownB I.row hb;have h3:=h2.head Ja.length i_;have e2:((Ja++[(Value.iface t x,l)]).map (·.1)).take Ja.length=Ja.map (·.1):=i_;rw[e2]at h3;exact⟨h3,t_ I.bel.size hb.size⟩
      have Yg:∀W:AT,(Instr.slice 186 (rV g (Ja.length+1) Z) none (some (V (Ja.length:Int))) none).run prog W=.ok (rV g Ja.length Z) W:=xk _ _ _ _ o_ Jk;have Xv:IntKind.i64.wrap (((Ja.length+1:Nat):Int)-1)=(Ja.length:Int):=(by rw[nJ];omega);have Xu:((Ja.length+1:Nat):Int)-1=(Ja.length:Int):=o_;have Ya:(Ja.length:Int)+1-1=(Ja.length:Int):=o_;have Xt:IntKind.i64.wrap ((Ja.length:Int)+1-1)=(Ja.length:Int):=(by rw[nJ];omega);have Xy:((Ja.length+1:Nat):Int)=(Ja.length:Int)+1:=o_;have Xs:(0:Int)<(Ja.length:Int)+1:=o_;have Yf:(Ja.length:Int)<(Ja.length:Int)+1:=o_;have X_:(0:Int)<=(Ja.length:Int):=o_
      clear I Jh Ji Js Je J_ Jp Jf;go_wp2_with fail;go_region_held_law (λ_=>True) (exact trivial)
        (first
        | ((with_reducible refine Calls.mono Jo.out ?_);intro e w1 hx;obtain⟨U,Xp,Jg⟩:=hx;subst Xp)
        | (refine j_ Ic _ _ 186 Ic w.heap.size 127 i0 .nilIface underlying186 Xl Xf Xn Xk Ic (.slice (some ⟨g,0,none⟩) Ja.length Z) (Ja.map (·.1)) Ic (Jw.out _ _ Jg).1 U (J.map (·.1)) Ic Jg.1 Jr.out H6 (Jw.out _ _ Jg).2 ?_;intro v' w2 Jb Jc Jl))
      have Jy:Hid (Src w1 U (J.map (·.1))/\Bl wr w1):=Jg;have Xg:Hid (ff w.heap.size w2 v' (Ja.map (·.1)++J.map (·.1))):=Jb;have Xb:Hid (w1.grownBy w2 (Value.slice (some ⟨g,0,none⟩) Ja.length Z).ownBlock):=Jc;have Xq:Hid (∀k,v'.ownBlock=some k->(Value.slice (some ⟨g,0,none⟩) Ja.length Z).ownBlock=some k∨w1.heap.size<=k):=Jl;obtain⟨va,vn,vc,rfl⟩:∃va vn vc,v'=.slice va vn vc:=by obtain⟨va,vc,h,_⟩:=ff.form Jb;exact⟨_,_,_,h⟩
      clear Jg Jb Jc Jl Jw Jo;go_wp2_with fail;refine(Xh.out _).mono ?_;rintro e w3 ⟨rfl,Jn⟩;obtain⟨Jx,Xe⟩:=HI.out.mid Jy.out.2 Xb;have Xj:Hid (aW w.heap.size (w3.alloc (.cells #[V n.kd,V n.val,sV n.nm] 81)) (.slice qa L.length qc) L):=(Jx.below Jn).below (ao _ _);have Xd:w.heap.size<=(w3.alloc (.cells #[V n.kd,V n.val,sV n.nm] 81)).heap.size:=(by have:=Jn.size;simp;omega);have Ju:Hid (aC (w3.alloc (.cells #[V n.kd,V n.val,sV n.nm] 81)) (rV w3.heap.size 1 1) [n]):=AH w3 n _;have Xa:Hid (Bl w2 w3):=Jn;clear Jx Xe Jn;go_wp2_with(at_builtin;refine jF rfl _ _ rfl w.heap.size _ L rfl Xj.out _ [n] rfl Ju.out i_ H6 Xd ?_);intro Xi w5 Jq Xc Jz;have Xo:Hid (CO w w5 S r (.slice va vn vc) Xi (Ja++J) (L++[n])):=HI.out.step Jm.out Jv.out Jy.out.2 Xg.out Xb.out Xq.out (Xa.out.alloc Xa.out.size _) Jq Xc (by simpa only[J9]using Jz);obtain⟨la,lc,rfl,-⟩:=Jq.nodes;clear Jq Xc Jz;go_wp2;go_roundw
      case rel=>exact⟨_,_,Xo⟩
      case measure=>simp[Gp];omega
section
variable{e r:List Nd}
def eP(e r:List Nd):Prop:=if e.length<=2000/\oneB e=true then Fd cJ e r else r=[]
def eP.exists(e:List Nd):∃r,eP e r:=by unfold eP;split;rename_i h;exact Fd.exists cJ e.length e n_ h.2;exact⟨[],rfl⟩
def eP.yes(h:eP e r)(I:e.length<=2000)(h2:oneB e=true):Fd cJ e r:=by unfold eP at h;rw[if_pos ⟨I,h2⟩]at h;exact h
def eP.no(h:eP e r)(I:e.length<=2000->oneB e=false):r=[]:=by unfold eP at h;rw[if_neg (by rintro⟨a,b⟩;rw[I a]at b;cases b)]at h;exact h
def eP.len(h:eP e r):r.length<=2000:=by unfold eP at h;split at h;rename_i h1;have:=h.len;omega;subst h;simp
def dG.mono{B I:Nat}{w:AT}{v:BY}{J:List Nd}(h:dG B w v J)(Z:I<=B):dG I w v J:=by obtain⟨g,Ja,e,U,h2,h3,h4⟩:=h;exact⟨g,Ja,e,U,h2,t_ Z h3,h4⟩
def rk(w:AT)(B:Nat)(hB:B<=w.heap.size)(t:JZ):dG B (w.alloc (.cells #[] t)) (rV w.heap.size 0 0) []:=
 ⟨w.heap.size,0,rfl,n_,o_,hB,i_,λj hj=>absurd hj i_,λj hj=>absurd hj i_⟩
def ro(v:BY)(e r:List Nd)(w:AT)(Z:gF w)(hl:e.length<=1048576)(hN:aC w v e)(hr:eP e r):
  Calls prog 67 #[v] w λx w'=>∃u,x=rW u/\dG w.heap.size w' u r/\Bl w w':=by
 have J:=ah hN;have U:=ah Z;have I:=ah hr;have Jg:=Z.size;obtain⟨a,Jo,rfl,Jp,Jn,-⟩:=hN;by_cases h2:2000<e.length
 ·obtain rfl:=I.o.no (λh=>absurd h o_);go_in;go_wp2;go_ret;exact⟨_,rfl,rk w _ n_ _,r_.alloc n_ _⟩
 go_in;go_wp2_with fail;refine(sy _ e _ U.o o_ J).mono ?_;rintro x w1 ⟨rfl,Jk⟩;have Ja:=ah Jk;cases ho:oneB e
 ·obtain rfl:=I.o.no (λ_=>ho);go_wp2;go_ret;exact⟨_,rfl,rk w1 _ Ja.o.size _,Ja.o.alloc Ja.o.size _⟩
 have HO:=ah ho;have HF:Hid (Fd cJ e r):=I.o.yes o_ ho;have Jc:Hid (r.length<=2000):=I.o.len;go_wp2_with fail;refine(xp _ e r _ (U.o.below Jg Ja) (J.o.below Ja) HO.o o_ HF).mono ?_;rintro x w2 ⟨u,S,rfl,Jd,Jh,Jj⟩;have Jl:=ah Jd;have Jf:Hid (∀B,S B->B<w2.heap.size):=λB hB=>(Jh B hB).2;have Jb:Hid (Bl w w2):=Ja.o.trans (Jj.mono Ja.o.size);obtain⟨ta,tb,rfl⟩:=Jd.isI;go_wp2_with fail;refine(dl _ r S _ Jf.o Jl.o Jc).mono ?_;rintro x w3 ⟨v3,rfl,h3,Jm⟩;have Ji:=ah h3;have Je:Hid (Bl w w3):=Jb.o.trans (Jm.mono Jb.o.size);obtain⟨g3,c3,rfl,-⟩:=h3;go_wp2;go_ret;exact⟨_,rfl,Ji.o.mono Jb.o.size,Je⟩
end
end
open Go.RowKit
def FD(w:AT)(B:Nat)(q:SV)(hb:B<=w.heap.size):(w.alloc (.cells #[V q.s.kd,sV q.s.nm,q.ve,q.vf,V q.s.th,V q.s.el] 79)).ownsRow B 79 6 (rV w.heap.size 1 1) 1 (bO [q]):=
 ownsRow_lit w #[V q.s.kd,sV q.s.nm,q.ve,q.vf,V q.s.th,V q.s.el] 1 hb d_ rfl
def gC{w w1:AT}(q:SV)(U:w.heap.size<=w1.heap.size)(J:dH w.heap.size w1 q.ve q.s.e q.ke)(I:dH w.heap.size w1 q.vf q.s.f q.kf)(Z:(q.ke++q.kf).Nodup):
  bP w.heap.size (w1.alloc (.cells #[V q.s.kd,sV q.s.nm,q.ve,q.vf,V q.s.th,V q.s.el] 79)) (rV w1.heap.size 1 1) [q]:=by
 have h:Bl w1 (w1.alloc (.cells #[V q.s.kd,sV q.s.nm,q.ve,q.vf,V q.s.th,V q.s.el] 79)):=ao _ _;refine⟨FD w1 _ q U,λx hx=>?_,?_,λg hg hm=>?_⟩;simp only[J7]at hx;subst hx;exact⟨J.keep h.size λg hg=>h.block g (J.rng g hg).2,I.keep h.size λg hg=>h.block g (I.rng g hg).2⟩;simpa[dP]using Z;simp only[ownBlock,J0]at hg;subst hg;simp only[dP,flatMap_cons,flatMap_nil,append_nil,J5]at hm;rcases hm with hm|hm
 ·have:=(J.rng _ hm).2;omega
 have:=(I.rng _ hm).2;omega
def te(w w':AT)(u:BY)(ss:List St):Prop:=∃R,bP w.heap.size w' u R/\R.map (·.s)=ss
def vA(W:AT)(v:BY):(Instr.typeAssert (.iface 169 v) 124 169 true).run prog W=.ok (.tuple #[v,.bool true]) W:=by kernel_rfl
def qA(e:List Nd)(x:BY)(S:Ft)(w:AT)(hx:Tv w S x e)(hl:e.length<=2000)(Z:∀B,S B->B<w.heap.size):
  Calls prog 68 #[.iface 129 (.agg #[x])] w λr w'=>∃u,r=rW u/\te w w' u [⟨6,⟨#[]⟩,e,[],0,0⟩]/\Bl w w':=by
 have HX:=ah hx;obtain⟨tx,yx,rfl⟩:=hx.isI;have HL:Hid (∀W,Bl w W->Calls prog 93 #[.iface tx yx] W λr w'=>∃a n c,r=rW (.slice a n c)/\(∃g,dH w.heap.size w' (.slice a n c) e [g])/\Bl W w'):=λW hbW=>by refine(dl _ e S W (λB hB=>l_ (Z B hB) hbW.size) (HX.o.keep (λ_ h=>h) (λB hB=>hbW.block B (Z B hB))) hl).mono ?_;rintro r w' ⟨v,rfl,U,hb⟩;obtain⟨g,I,-⟩:=U.one;obtain⟨g',Jk,rfl,-⟩:=U;exact⟨_,_,_,rfl,⟨g,I.base hbW.size⟩,hb⟩
 have J:∀o,Bl w (w.alloc o):=λo=>r_.alloc n_ o;have Jd:=λW v=>ch W 129 v d_;have Jf:=λW v=>dq W 129 v d_;have Jb:=λW v=>cT W 129 v d_;have Jh:=λW v=>em W 129 v d_;have Jc:=λW v=>eo W 129 v d_;have Ja:=λW v=>iB W v;go_in;go_wp2_with fail;refine(HL.o _ (J _)).mono ?_;rintro r wt ⟨a1,n1,c1,rfl,Jg,Jj⟩;have Ji:=ah Jg;have Je:Bl w wt:=(J _).trans (Jj.mono (J _).size);go_wp2;go_ret;obtain⟨g,I⟩:=Ji.o;exact⟨_,rfl,⟨_,gC ⟨⟨6,⟨#[]⟩,e,[],0,0⟩,.slice a1 n1 c1,nV,[g],[]⟩ Je.size I (dH.nil _ _) i_,rfl⟩,Je.alloc Je.size _⟩
def xR(e:List Nd)(x:BY)(S:Ft)(w:AT)(hx:Tv w S x e)(hl:e.length<=2000)(Z:∀B,S B->B<w.heap.size):
  Calls prog 68 #[.iface 168 (.agg #[x])] w λr w'=>∃u,r=rW u/\te w w' u [⟨7,⟨#[]⟩,e,[],0,0⟩]/\Bl w w':=by
 have HX:=ah hx;obtain⟨tx,yx,rfl⟩:=hx.isI;have HL:Hid (∀W,Bl w W->Calls prog 93 #[.iface tx yx] W λr w'=>∃a n c,r=rW (.slice a n c)/\(∃g,dH w.heap.size w' (.slice a n c) e [g])/\Bl W w'):=λW hbW=>by refine(dl _ e S W (λB hB=>l_ (Z B hB) hbW.size) (HX.o.keep (λ_ h=>h) (λB hB=>hbW.block B (Z B hB))) hl).mono ?_;rintro r w' ⟨v,rfl,U,hb⟩;obtain⟨g,I,-⟩:=U.one;obtain⟨g',Jl,rfl,-⟩:=U;exact⟨_,_,_,rfl,⟨g,I.base hbW.size⟩,hb⟩
 have J:∀o,Bl w (w.alloc o):=λo=>r_.alloc n_ o;have Jd:=λW v=>ch W 168 v d_;have Jg:=λW v=>dq W 168 v d_;have Jb:=λW v=>cT W 168 v d_;have Ji:=λW v=>em W 168 v d_;have Jc:=λW v=>eo W 168 v d_;have Ja:=λW v=>fN W 168 v d_;have Jf:=λW v=>oR W v;go_in;go_wp2_with fail;refine(HL.o _ (J _)).mono ?_;rintro r wt ⟨a1,n1,c1,rfl,Jh,Jk⟩;have Jj:=ah Jh;have Je:Bl w wt:=(J _).trans (Jk.mono (J _).size);go_wp2;go_ret;obtain⟨g,I⟩:=Jj.o;exact⟨_,rfl,⟨_,gC ⟨⟨7,⟨#[]⟩,e,[],0,0⟩,.slice a1 n1 c1,nV,[g],[]⟩ Je.size I (dH.nil _ _) i_,rfl⟩,Je.alloc Je.size _⟩
def vC(e:List Nd)(x:BY)(S:Ft)(w:AT)(hx:Tv w S x e)(hl:e.length<=2000)(Z:∀B,S B->B<w.heap.size):
  Calls prog 68 #[.iface 169 (.agg #[x])] w λr w'=>∃u,r=rW u/\te w w' u [⟨8,⟨#[]⟩,e,[],0,0⟩]/\Bl w w':=by
 have HX:=ah hx;obtain⟨tx,yx,rfl⟩:=hx.isI;have HL:Hid (∀W,Bl w W->Calls prog 93 #[.iface tx yx] W λr w'=>∃a n c,r=rW (.slice a n c)/\(∃g,dH w.heap.size w' (.slice a n c) e [g])/\Bl W w'):=λW hbW=>by refine(dl _ e S W (λB hB=>l_ (Z B hB) hbW.size) (HX.o.keep (λ_ h=>h) (λB hB=>hbW.block B (Z B hB))) hl).mono ?_;rintro r w' ⟨v,rfl,U,hb⟩;obtain⟨g,I,-⟩:=U.one;obtain⟨g',Jm,rfl,-⟩:=U;exact⟨_,_,_,rfl,⟨g,I.base hbW.size⟩,hb⟩
 have J:∀o,Bl w (w.alloc o):=λo=>r_.alloc n_ o;have Jd:=λW v=>ch W 169 v d_;have Jh:=λW v=>dq W 169 v d_;have Jb:=λW v=>cT W 169 v d_;have Jj:=λW v=>em W 169 v d_;have Jc:=λW v=>eo W 169 v d_;have Ja:=λW v=>fN W 169 v d_;have Jg:=λW v=>qS W 169 v d_;have Jf:=λW v=>vA W v;go_in;go_wp2_with fail;refine(HL.o _ (J _)).mono ?_;rintro r wt ⟨a1,n1,c1,rfl,Ji,Jl⟩;have Jk:=ah Ji;have Je:Bl w wt:=(J _).trans (Jl.mono (J _).size);go_wp2;go_ret;obtain⟨g,I⟩:=Jk.o;exact⟨_,rfl,⟨_,gC ⟨⟨8,⟨#[]⟩,e,[],0,0⟩,.slice a1 n1 c1,nV,[g],[]⟩ Je.size I (dH.nil _ _) i_,rfl⟩,Je.alloc Je.size _⟩
def vD(nm:Io)(e:List Nd)(x:BY)(S:Ft)(w:AT)(Z:Tv w S x e)(hl:e.length<=2000)(U:∀B,S B->B<w.heap.size):
  Calls prog 68 #[.iface 164 (.agg #[sV nm,x])] w λr w'=>∃u,r=rW u/\te w w' u [⟨1,nm,e,[],0,0⟩]/\Bl w w':=by
 have HX:=ah Z;obtain⟨tx,I,rfl⟩:=Z.isI;obtain⟨W0,Ja⟩:=q_ (w.alloc (.cells #[sV nm,.iface tx I] 164));have Jb:Bl w W0:=by rw[Ja];exact r_.alloc n_ _
 have Jl:W0.heap.size=w.heap.size+1:=by rw[Ja];simp
 have Jd:Bl W0 W0.drew:=r_.drew;have HY:Hid (∀W,Bl W0 W->W.cell? ⟨w.heap.size,0,none⟩=some (sV nm)/\W.cell? ⟨w.heap.size,1,none⟩=some (.iface tx I)):=λW hW=>⟨(hW.cell (p:=⟨w.heap.size,0,none⟩) H6).trans (by rw[Ja];simp),(hW.cell (p:=⟨w.heap.size,1,none⟩) H6).trans (by rw[Ja];simp)⟩;have HL:Hid (∀W,Bl W0 W->Calls prog 93 #[.iface tx I] W λr w'=>∃a n c,r=rW (.slice a n c)/\(∃g,dH w.heap.size w' (.slice a n c) e [g])/\Bl W w'):=λW hW=>by have Jg:=Jb.trans (hW.mono Jb.size);refine(dl _ e S W (λB hB=>l_ (U B hB) Jg.size) (HX.o.keep (λ_ h=>h) (λB hB=>Jg.block B (U B hB))) hl).mono ?_;rintro r w' ⟨v,rfl,hv,hb⟩;obtain⟨g,J,-⟩:=hv.one;obtain⟨g',Jo,rfl,-⟩:=hv;exact⟨_,_,_,rfl,⟨g,J.base Jg.size⟩,hb⟩
 have Jm:=ah Ja;have Jn:w.heap.size<=W0.heap.size:=Jb.size;have Je:=λW v=>mA W v;have y:=HY.o _ Jd;clear Z U Ja Jl;go_in;go_upto_region 4 with fail;rw[<-Jm.o];go_region_held (λW=>W.cell? ⟨w.heap.size,0,none⟩=some (sV nm)/\W.cell? ⟨w.heap.size,1,none⟩=some (.iface tx I)) (go_keep)
  (first|((with_reducible refine Calls.mono (HL.o _ Jd) ?_);intro r wt hr;obtain⟨a1,n1,c1,Jj,Jh,Jc⟩:=hr;subst Jj;have Ji:Bl W0 wt:=Jd.trans (Jc.mono Jd.size);have q:=HY.o wt Ji))
 have Jk:=ah Jh;have Jf:Bl w wt:=Jb.trans (Ji.mono Jb.size);clear Jh Jc q y;go_wp2;go_ret;obtain⟨g,J⟩:=Jk.o;exact⟨_,rfl,⟨_,gC ⟨⟨1,nm,e,[],0,0⟩,.slice a1 n1 c1,nV,[g],[]⟩ Jf.size J (dH.nil _ _) i_,rfl⟩,Jf.alloc Jf.size _⟩
def xS(nm:Io)(e:List Nd)(x:BY)(S:Ft)(w:AT)(Z:Tv w S x e)(hl:e.length<=2000)(U:∀B,S B->B<w.heap.size):
  Calls prog 68 #[.iface 165 (.agg #[sV nm,x])] w λr w'=>∃u,r=rW u/\te w w' u [⟨2,nm,e,[],0,0⟩]/\Bl w w':=by
 have HX:=ah Z;obtain⟨tx,I,rfl⟩:=Z.isI;obtain⟨W0,Ja⟩:=q_ (w.alloc (.cells #[sV nm,.iface tx I] 165));have Jb:Bl w W0:=by rw[Ja];exact r_.alloc n_ _
 have Jm:W0.heap.size=w.heap.size+1:=by rw[Ja];simp
 have Jd:Bl W0 W0.drew:=r_.drew;have HY:Hid (∀W,Bl W0 W->W.cell? ⟨w.heap.size,0,none⟩=some (sV nm)/\W.cell? ⟨w.heap.size,1,none⟩=some (.iface tx I)):=λW hW=>⟨(hW.cell (p:=⟨w.heap.size,0,none⟩) H6).trans (by rw[Ja];simp),(hW.cell (p:=⟨w.heap.size,1,none⟩) H6).trans (by rw[Ja];simp)⟩;have HL:Hid (∀W,Bl W0 W->Calls prog 93 #[.iface tx I] W λr w'=>∃a n c,r=rW (.slice a n c)/\(∃g,dH w.heap.size w' (.slice a n c) e [g])/\Bl W w'):=λW hW=>by have Jg:=Jb.trans (hW.mono Jb.size);refine(dl _ e S W (λB hB=>l_ (U B hB) Jg.size) (HX.o.keep (λ_ h=>h) (λB hB=>Jg.block B (U B hB))) hl).mono ?_;rintro r w' ⟨v,rfl,hv,hb⟩;obtain⟨g,J,-⟩:=hv.one;obtain⟨g',Jp,rfl,-⟩:=hv;exact⟨_,_,_,rfl,⟨g,J.base Jg.size⟩,hb⟩
 have Jn:=ah Ja;have Jo:w.heap.size<=W0.heap.size:=Jb.size;have Je:=λW v=>ch W 165 v d_;have Jj:=λW v=>oQ W v;have y:=HY.o _ Jd;clear Z U Ja Jm;go_in;go_upto_region 7 with fail;rw[<-Jn.o];go_region_held (λW=>W.cell? ⟨w.heap.size,0,none⟩=some (sV nm)/\W.cell? ⟨w.heap.size,1,none⟩=some (.iface tx I)) (go_keep)
  (first|((with_reducible refine Calls.mono (HL.o _ Jd) ?_);intro r wt hr;obtain⟨a1,n1,c1,Jk,Jh,Jc⟩:=hr;subst Jk;have Ji:Bl W0 wt:=Jd.trans (Jc.mono Jd.size);have q:=HY.o wt Ji))
 have Jl:=ah Jh;have Jf:Bl w wt:=Jb.trans (Ji.mono Jb.size);clear Jh Jc q y;go_wp2;go_ret;obtain⟨g,J⟩:=Jl.o;exact⟨_,rfl,⟨_,gC ⟨⟨2,nm,e,[],0,0⟩,.slice a1 n1 c1,nV,[g],[]⟩ Jf.size J (dH.nil _ _) i_,rfl⟩,Jf.alloc Jf.size _⟩
