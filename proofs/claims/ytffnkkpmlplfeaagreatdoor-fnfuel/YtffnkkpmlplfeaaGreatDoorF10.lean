import Derived.ProofKit
import Derived.Test.YtffnkkpmlplfeaaGreatDoorF00
namespace Go.Proofs.YtffnkkpmlplfeaaGreatDoor
open List
open Go.RowKit
set_option linter.all false
set_option maxRecDepth 100000
set_option maxHeartbeats 0
variable[Inhabited Pick]
variable{listed l:Array Bool}{i id n:Nat}{md:Region.Mode}{ops:Array Oper}{P:Program}{a a0:Act}{w w0:AT}{t:Tmp}{v:BY}
def CR(listed:Array Bool):Nat:=listed.toList.countP (λb=> !b)
def tY(h:listed.getD i true=false):CR (listed.setIfInBounds i true)+1=CR listed:=by
 have J:i<listed.size:=by
  by_cases hlt:i<listed.size
  ·exact hlt
  ·simp[Array.getD,hlt]at h
 have I:listed[i]=false:=by simpa[Array.getD,J]using h
 unfold CR;have e:(listed.setIfInBounds i true).toList=listed.toList.set i true:=i_;rw[e,countP_set (Fc J)];have U:0<listed.toList.countP (λb=> !b):=by
  rw[countP_pos_iff];exact⟨listed[i],i_,by simp[I]⟩
 simp only[Array.getElem_toList,I,Bool.not_false,Bool.not_true,if_true,Bool.false_eq_true,if_false];omega
def oX(h:CR listed=0):Region.ready md ops listed=[]:=by
 rw[eq_nil_iff_forall_not_mem];intro i I;have:=tY (mem_ready.1 I).1;omega
def mN(n:Nat):CR (Array.replicate n false)=n:=by simp[CR,countP_replicate]
theorem nA{P:Program}{md:Region.Mode}{ops:Array Oper}{Q:Exit->Act->AT->Prop}(I:Array Bool->Act->AT->Prop)
  (step:∀listed a w,I listed a w->∀i∈Region.ready md ops listed,wpOp P ops Q i (I (listed.setIfInBounds i true)) a w)
  (fin:∀listed a w,I listed a w->Region.ready md ops listed=[]->Q .normal a w):
  ∀(fuel:Nat) (listed:Array Bool) (a:Act) (w:AT),CR listed<=fuel->I listed a w->wpAny P md ops Q fuel listed a w
 | 0,listed,a,w,hu,hI=>by
  have hr:=oX (md:=md) (ops:=ops) (listed:=listed) o_;exact⟨hr,fin listed a w hI hr⟩
 | fuel+1,listed,a,w,hu,hI=>
  ⟨λhr=>fin listed a w hI hr,λi hi=>wpOp_mono (λa' w' h'=>nA I step fin fuel _ a' w' (by have:=tY (mem_ready.1 hi).1;omega) h') (step listed a w hI i hi)⟩
def mO{Q:Exit->Act->AT->Prop}(hm:P.follows .mixedOrders=true)(I:Array Bool->Act->AT->Prop)
  (step:∀listed a w,I listed a w->∀i∈Region.ready .any ops listed,wpOp P ops Q i (I (listed.setIfInBounds i true)) a w)
  (fin:∀listed a w,I listed a w->Region.ready .any ops listed=[]->Q .normal a w) (h0:I (Array.replicate ops.size false) a w.drew):(Code.region id ops true).wp P Q a w:=
 wp_region_any hm (nA I step fin ops.size _ a _ (by rw[mN];exact n_) h0)
structure Gr (ops:Array Oper) (n:Nat) (d:Nat->Tmp):Prop where
 size:ops.size=n+1
 op:∀i,i<n->∃o,ops[i]? =some o/\o.dst=some (d i)/\o.guard=none/\∀e∈o.after,e.on<i/\Region.binds .any e=true
 inj:∀i j,i<n->j<n->d i=d j->i=j
 last:∃o,ops[n]? =some o/\o.guard=none/\(∀i,i<n->∃e∈o.after,e.on=i/\Region.binds .any e=true)/\∀e∈o.after,e.on<n
def cT(h:l.getD i false=true):l.getD i true=true:=by
 by_cases hi:i<l.size
 ·simp[Array.getD,hi]at h⊢;exact h
 ·simp[Array.getD,hi]
def fS(I:i<l.size)(h:l.getD i true=true):l.getD i false=true:=by
 simp[Array.getD,I]at h⊢;exact h
def mP:(l.setIfInBounds i true).getD i true=true:=by
 by_cases hi:i<l.size <;> simp[Array.getD,hi]
def fT{j:Nat}(h:i≠j):(l.setIfInBounds i true).getD j true=l.getD j true:=by
 by_cases hj:j<l.size
 ·simp[Array.getD,hj,h]
 ·simp[Array.getD,hj]
def mQ(h:t<a.tmps.size):(a.put (some t) v).eval (.tmp t)=v:=by
 simp[Act.eval,Act.put,h]
def lM{s:Tmp}(h:t≠s):(a.put (some t) v).eval (.tmp s)=a.eval (.tmp s):=
 Act.eval_put λd hd he=>by simp at hd he;exact h (hd.trans he.symm)
structure En (n:Nat) (d:Nat->Tmp) (R:Nat->BY->AT->Prop) (O:Nat->BY->List Nat) (a0:Act) (w0:AT) (done:D6) (a:Act) (w:AT):Prop where
 defers:a.defers=a0.defers
 tsize:a.tmps.size=a0.tmps.size
 frame:∀t,(∀j,j<n->d j≠t)->a.tmps[t]? =a0.tmps[t]?
 below:Bl w0 w
 rel:∀i,i<n->done i->R i (a.eval (.tmp (d i))) w
 own:∀i,i<n->done i->∀g∈O i (a.eval (.tmp (d i))),w0.heap.size<=g/\g<w.heap.size
 apart:∀i j,i<n->j<n->i≠j->done i->done j->∀g∈O i (a.eval (.tmp (d i))),g∉O j (a.eval (.tmp (d j)))
def En.step{d:Nat->Tmp}{R:Nat->BY->AT->Prop}{O:Nat->BY->List Nat}{Jd Jc:D6}{w':AT} 
  (Jg:∀i v w w',R i v w->(∀g∈O i v,g<w.heap.size)->Bl w w'->R i v w')
  (Ji:∀i j,i<n->j<n->d i=d j->i=j) (hd:∀j,j<n->d j<a0.tmps.size) (h:En n d R O a0 w0 Jd a w) (hi:i<n) (Y:∀j,Jc j->j=i∨Jd j)
  (hR:R i v w') (hB:Bl w w') (hO:∀g∈O i v,w.heap.size<=g/\g<w'.heap.size):En n d R O a0 w0 Jc (a.put (some (d i)) v) w':=by
 have hs:d i<a.tmps.size:=by rw[h.tsize];exact hd i hi
 have Jh:=h.below.size;have U:∀j,j<n->j≠i->(a.put (some (d i)) v).eval (.tmp (d j))=a.eval (.tmp (d j)):=λj hj hne=>lM λe=>hne (Ji j i hj hi e.symm);have Z:(a.put (some (d i)) v).eval (.tmp (d i))=v:=mQ hs;refine⟨h.defers,by simp[Act.put];exact h.tsize,λt ht=>?_,h.below.trans (hB.mono Jh),λj hj hdj=>?_,λj hj hdj=>?_,λj k hj hk hne hdj hdk=>?_⟩
 ·rw[<-h.frame t ht];have:d i≠t:=ht i hi
  simp[Act.put,Array.getElem?_setIfInBounds_ne this]
 ·by_cases hji:j=i
  ·subst hji;rw[Z];exact hR
  ·rw[U j hj hji];have J:=(Y j hdj).resolve_left hji;exact Jg j _ w w' (h.rel j hj J) (λg I=>(h.own j hj J g I).2) hB
 ·by_cases hji:j=i
  ·subst hji;rw[Z];exact λg I=>⟨t_ Jh (hO g I).1,(hO g I).2⟩
  ·rw[U j hj hji];have J:=(Y j hdj).resolve_left hji;exact λg I=>⟨(h.own j hj J g I).1,l_ (h.own j hj J g I).2 hB.size⟩
 ·by_cases hji:j=i
  ·subst hji;rw[Z,U k hk (λe=>hne e.symm)];have J:=(Y k hdk).resolve_left (λe=>hne e.symm);intro g I Jf;have h1:=(hO g I).1;have h2:=(h.own k hk J g Jf).2;omega
  ·by_cases hki:k=i
   ·subst hki;rw[Z,U j hj hji];have J:=(Y j hdj).resolve_left hji;intro g I Jf;have h1:=(hO g Jf).1;have h2:=(h.own j hj J g I).2;omega
   ·rw[U j hj hji,U k hk hki];exact h.apart j k hj hk hne ((Y j hdj).resolve_left hji) ((Y k hdk).resolve_left hki)
theorem lN{Q:Exit->Act->AT->Prop}(hm:P.follows .mixedOrders=true){d:Nat->Tmp}(G:Gr ops n d)
  (R:Nat->BY->AT->Prop) (O:Nat->BY->List Nat) (Jh:∀i v w w',R i v w->(∀g∈O i v,g<w.heap.size)->Bl w w'->R i v w') (hd:∀j,j<n->d j<a0.tmps.size)
  (step:∀i o,i<n->ops[i]? =some o->∀a w,a.defers=a0.defers->a.tmps.size=a0.tmps.size->(∀t,(∀j,j<n->d j≠t)->a.tmps[t]? =a0.tmps[t]?)->Bl w0 w->(∀e∈o.after,R e.on (a.eval (.tmp (d e.on))) w)->(∀e∈o.after,∀g∈O e.on (a.eval (.tmp (d e.on))),w0.heap.size<=g/\g<w.heap.size) ->
   (∀e∈o.after,∀f∈o.after,e.on≠f.on->∀g∈O e.on (a.eval (.tmp (d e.on))),g∉O f.on (a.eval (.tmp (d f.on)))) ->
   o.wp P a w (λa' w'=>∃v,a'=a.put (some (d i)) v/\R i v w'/\Bl w w'/\∀g∈O i v,w.heap.size<=g/\g<w'.heap.size) Q)
  (Jl:∀o,ops[n]? =some o->∀a w,En n d R O a0 w0 (λ_=>True) a w->o.wp P a w (λa' w'=>Q .normal a' w') Q):(Code.region id ops true).wp P Q a0 w0:=by
 refine mO hm (λlisted a w=>(listed.size=n+1/\listed.getD n true=false/\En n d R O a0 w0 (λi=>listed.getD i true=true) a w)∨(Q .normal a w/\∀i,listed.getD i true=true)) ?_ ?_ ?_
 ·rintro listed a w (⟨hsz,hn,hI⟩|⟨_,Z⟩) i hi
  ·obtain⟨hu,o,Y,Jc⟩:=mem_ready.1 hi;have Jm:i<n+1:=by
    rw[<-G.size];exact(Array.getElem?_eq_some_iff.mp Y).1
   by_cases hlt:i<n
   ·obtain⟨o',Jf,Ji,hg,U⟩:=G.op i hlt;obtain rfl:o=o':=by rw[Y]at Jf;exact Option.some.inj Jf
    unfold wpOp;simp only[Y];rw[if_pos (by simp[Region.wanted,hg])];refine .inl (Oper.wp_mono ?_ (step i o hlt Y a w hI.defers hI.tsize hI.frame hI.below (λe I=>?_) (λe I=>?_) (λe I f hf hne=>?_)))
    ·rintro a' w' ⟨v,rfl,hR,hB,hO⟩;refine .inl ⟨Fc hsz,by rw[fT o_];exact hn,hI.step Jh G.inj hd hlt (λj J=>?_) hR hB hO⟩;by_cases hji:j=i
     ·exact .inl hji
     ·exact .inr (by rwa[fT (λe=>hji e.symm)]at J)
    ·exact hI.rel e.on (Nat.lt_trans (U e I).1 hlt) (cT (Jc e I (U e I).2))
    ·exact hI.own e.on (Nat.lt_trans (U e I).1 hlt) (cT (Jc e I (U e I).2))
    ·exact hI.apart e.on f.on (Nat.lt_trans (U e I).1 hlt) (Nat.lt_trans (U f hf).1 hlt) hne (cT (Jc e I (U e I).2)) (cT (Jc f hf (U f hf).2))
   ·obtain rfl:i=n:=by omega
    obtain⟨o',Jf,hg,Je,_⟩:=G.last;obtain rfl:o=o':=by rw[Y]at Jf;exact Option.some.inj Jf
    have Z:∀j,j<i->listed.getD j true=true:=λj J=>by
     obtain⟨e,I,rfl,hb⟩:=Je j J;exact cT (Jc e I hb)
    unfold wpOp;simp only[Y];rw[if_pos (by simp[Region.wanted,hg])];refine .inl (Oper.wp_mono ?_ (Jl o Y a w ⟨hI.defers,hI.tsize,hI.frame,hI.below,λj J _=>hI.rel j J (Z j J),λj J _=>hI.own j J (Z j J),λj k J hk hne _ _=>hI.apart j k J hk hne (Z j J) (Z k hk)⟩));intro a' w' hq;refine .inr ⟨hq,λj=>?_⟩;by_cases hji:j=i
    ·subst hji;exact mP
    ·rw[fT (λe=>hji e.symm)];by_cases J:j<i
     ·exact Z j J
     ·have:¬j<listed.size:=o_
      simp[Array.getD,this]
  ·have:=(mem_ready.1 hi).1
   rw[Z i]at this;cases this
 ·rintro listed a w (⟨hsz,hn,hI⟩|⟨hq,_⟩) hr
  ·exfalso
   have Jj:∀m,∀j,j<m->j<=n->listed.getD j true=true:=by
    intro m;induction m with
    | zero=>intro j J;omega
    | succ m ih=>
     intro j J Jk;by_cases hjm:j<m
     ·exact ih j hjm Jk
     ·obtain rfl:j=m:=by omega
      cases hb:listed.getD j true with
      | true=>rfl
      | false=>
       exfalso
       have Jg:j∈Region.ready .any ops listed:=by
        rw[mem_ready];refine⟨hb,?_⟩;by_cases hlt:j<n
        ·obtain⟨o,Y,_,_,U⟩:=G.op j hlt;exact⟨o,Y,λe I _=>fS (by have:=(U e I).1;omega) (ih e.on (U e I).1 (by have:=(U e I).1;omega))⟩
        ·obtain rfl:j=n:=by omega
         obtain⟨o,Y,_,_,Jd⟩:=G.last;exact⟨o,Y,λe I _=>fS (Ft (Jd e I)) (ih e.on (Jd e I) (Ft (Jd e I)))⟩
       rw[hr]at Jg;cases Jg
   rw[Jj (n+1) n (Nat.lt_succ_self _) n_]at hn;cases hn
  ·exact hq
 ·refine .inl ⟨by simp[G.size],by simp[Array.getD,G.size],⟨rfl,rfl,λ_ _=>rfl,r_.drew,λi hi h=>?_,λi hi h=>?_,λi j hi J hne h=>?_⟩⟩ <;>
   (exfalso;simp[Array.getD,G.size]at h;omega)
end Go.Proofs.YtffnkkpmlplfeaaGreatDoor
