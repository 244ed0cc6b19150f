import Derived.ProofKit
import Derived.Test.YtlamjfhhefcohaaGreatDoorP00
set_option linter.unusedSectionVars false
variable [Inhabited Go.Proofs.YtlamjfhhefcohaaGreatDoor.Pick]
namespace Go.Proofs.YtlamjfhhefcohaaGreatDoor
open Go.RowKit
set_option linter.all false
set_option maxRecDepth 100000
set_option maxHeartbeats 16000000
variable{listed l:Array Bool}{i id n:Nat}{md:Region.Mode}{ops:Array Oper}{P:Program}{a a0:Act}{w w0:World}{t:Tmp}{v:Value}
def Cq(listed:Array Bool):Nat:=listed.toList.countP (fun b=> !b)
theorem sj(h:listed.getD i true=false):Cq (listed.setIfInBounds i true)+1=Cq listed:=by
 have hi:i<listed.size:=by
  by_cases hlt:i<listed.size
  ·exact hlt
  ·simp[Array.getD,hlt]at h
 have hv:listed[i]=false:=by simpa[Array.getD,hi]using h
 unfold Cq;have e:(listed.setIfInBounds i true).toList=listed.toList.set i true:=i_;rw[e,List.countP_set (by simpa using hi)];have hp:0<listed.toList.countP (fun b=> !b):=by
  rw[List.countP_pos_iff];exact⟨listed[i],i_,by simp[hv]⟩
 simp only[Array.getElem_toList,hv,Bool.not_false,Bool.not_true,if_true,Bool.false_eq_true,if_false];omega
theorem nL(h:Cq listed=0):Region.ready md ops listed=[]:=by
 rw[List.eq_nil_iff_forall_not_mem];intro i hi;have:=sj (mem_ready.1 hi).1;omega
theorem lY(n:Nat):Cq (Array.replicate n false)=n:=by simp[Cq,List.countP_replicate]
theorem mH{P:Program}{md:Region.Mode}{ops:Array Oper}{Q:Exit->Act->World->Prop}(I:Array Bool->Act->World->Prop)
  (step:∀listed a w,I listed a w->∀i∈Region.ready md ops listed,wpOp P ops Q i (I (listed.setIfInBounds i true)) a w)
  (fin:∀listed a w,I listed a w->Region.ready md ops listed=[]->Q .normal a w):
  ∀(fuel:Nat) (listed:Array Bool) (a:Act) (w:World),Cq listed<=fuel->I listed a w->wpAny P md ops Q fuel listed a w
 | 0,listed,a,w,hu,hI=>by
  have hr:=nL (md:=md) (ops:=ops) (listed:=listed) o_;exact⟨hr,fin listed a w hI hr⟩
 | fuel+1,listed,a,w,hu,hI=>
  ⟨fun hr=>fin listed a w hI hr,fun i hi=>wpOp_mono (fun a' w' h'=>mH I step fin fuel _ a' w' (by have:=sj (mem_ready.1 hi).1;omega) h') (step listed a w hI i hi)⟩
theorem lZ{Q:Exit->Act->World->Prop}(hm:P.follows .mixedOrders=true)(I:Array Bool->Act->World->Prop)
  (step:∀listed a w,I listed a w->∀i∈Region.ready .any ops listed,wpOp P ops Q i (I (listed.setIfInBounds i true)) a w)
  (fin:∀listed a w,I listed a w->Region.ready .any ops listed=[]->Q .normal a w) (h0:I (Array.replicate ops.size false) a w.drew):(Code.region id ops true).wp P Q a w:=
 wp_region_any hm (mH I step fin ops.size _ a _ (by rw[lY];exact n_) h0)
structure Gr (ops:Array Oper) (n:Nat) (d:Nat->Tmp):Prop where
 size:ops.size=n+1
 op:∀i,i<n->∃o,ops[i]? =some o/\o.dst=some (d i)/\o.guard=none/\∀e∈o.after,e.on<i/\Region.binds .any e=true
 inj:∀i j,i<n->j<n->d i=d j->i=j
 last:∃o,ops[n]? =some o/\o.guard=none/\(∀i,i<n->∃e∈o.after,e.on=i/\Region.binds .any e=true)/\∀e∈o.after,e.on<n
theorem cx(h:l.getD i false=true):l.getD i true=true:=by
 by_cases hi:i<l.size
 ·simp[Array.getD,hi]at h⊢;exact h
 ·simp[Array.getD,hi]
theorem fG(hi:i<l.size)(h:l.getD i true=true):l.getD i false=true:=by
 simp[Array.getD,hi]at h⊢;exact h
theorem l7:(l.setIfInBounds i true).getD i true=true:=by
 by_cases hi:i<l.size <;> simp[Array.getD,hi]
theorem fH{j:Nat}(h:i≠j):(l.setIfInBounds i true).getD j true=l.getD j true:=by
 by_cases hj:j<l.size
 ·simp[Array.getD,hj,h]
 ·simp[Array.getD,hj]
theorem l8(h:t<a.tmps.size):(a.put (some t) v).eval (.tmp t)=v:=by
 simp[Act.eval,Act.put,h]
theorem lA{s:Tmp}(h:t≠s):(a.put (some t) v).eval (.tmp s)=a.eval (.tmp s):=
 Act.eval_put fun d hd he=>by simp at hd he;exact h (hd.trans he.symm)
structure DR (n:Nat) (d:Nat->Tmp) (R:Nat->Value->World->Prop) (O:Nat->Value->List Nat) (a0:Act) (w0:World) (done:Nat->Prop) (a:Act) (w:World):Prop where
 defers:a.defers=a0.defers
 tsize:a.tmps.size=a0.tmps.size
 frame:∀t,(∀j,j<n->d j≠t)->a.tmps[t]? =a0.tmps[t]?
 below:Below w0.heap.size w0 w
 rel:∀i,i<n->done i->R i (a.eval (.tmp (d i))) w
 own:∀i,i<n->done i->∀g∈O i (a.eval (.tmp (d i))),w0.heap.size<=g/\g<w.heap.size
 apart:∀i j,i<n->j<n->i≠j->done i->done j->∀g∈O i (a.eval (.tmp (d i))),g∉O j (a.eval (.tmp (d j)))
theorem DR.step{d:Nat->Tmp}{R:Nat->Value->World->Prop}{O:Nat->Value->List Nat}{Jd Jc:Nat->Prop}{w':World} 
  (Jg:∀i v w w',R i v w->(∀g∈O i v,g<w.heap.size)->Below w.heap.size w w'->R i v w')
  (Ji:∀i j,i<n->j<n->d i=d j->i=j) (hd:∀j,j<n->d j<a0.tmps.size) (h:DR n d R O a0 w0 Jd a w) (hi:i<n) (Ja:∀j,Jc j->j=i∨Jd j)
  (hR:R i v w') (hB:Below w.heap.size w w') (hO:∀g∈O i v,w.heap.size<=g/\g<w'.heap.size):DR n d R O a0 w0 Jc (a.put (some (d i)) v) w':=by
 have hs:d i<a.tmps.size:=by rw[h.tsize];exact hd i hi
 have Jh:=h.below.size;have ev:∀j,j<n->j≠i->(a.put (some (d i)) v).eval (.tmp (d j))=a.eval (.tmp (d j)):=fun j hj hne=>lA fun e=>hne (Ji j i hj hi e.symm);have Je:(a.put (some (d i)) v).eval (.tmp (d i))=v:=l8 hs;refine⟨h.defers,by simp[Act.put];exact h.tsize,fun t ht=>?_,h.below.trans (hB.mono Jh),fun j hj hdj=>?_,fun j hj hdj=>?_,fun j k hj hk hne hdj hdk=>?_⟩
 ·rw[<-h.frame t ht];have:d i≠t:=ht i hi
  simp[Act.put,Array.getElem?_setIfInBounds_ne this]
 ·by_cases hji:j=i
  ·subst hji;rw[Je];exact hR
  ·rw[ev j hj hji];have Jb:=(Ja j hdj).resolve_left hji;exact Jg j _ w w' (h.rel j hj Jb) (fun g hg=>(h.own j hj Jb g hg).2) hB
 ·by_cases hji:j=i
  ·subst hji;rw[Je];exact fun g hg=>⟨t_ Jh (hO g hg).1,(hO g hg).2⟩
  ·rw[ev j hj hji];have Jb:=(Ja j hdj).resolve_left hji;exact fun g hg=>⟨(h.own j hj Jb g hg).1,l_ (h.own j hj Jb g hg).2 hB.size⟩
 ·by_cases hji:j=i
  ·subst hji;rw[Je,ev k hk (fun e=>hne e.symm)];have Jb:=(Ja k hdk).resolve_left (fun e=>hne e.symm);intro g hg Jf;have h1:=(hO g hg).1;have h2:=(h.own k hk Jb g Jf).2;omega
  ·by_cases hki:k=i
   ·subst hki;rw[Je,ev j hj hji];have Jb:=(Ja j hdj).resolve_left hji;intro g hg Jf;have h1:=(hO g Jf).1;have h2:=(h.own j hj Jb g hg).2;omega
   ·rw[ev j hj hji,ev k hk hki];exact h.apart j k hj hk hne ((Ja j hdj).resolve_left hji) ((Ja k hdk).resolve_left hki)
theorem iu{Q:Exit->Act->World->Prop}(hm:P.follows .mixedOrders=true){d:Nat->Tmp}(G:Gr ops n d)
  (R:Nat->Value->World->Prop) (O:Nat->Value->List Nat) (Jh:∀i v w w',R i v w->(∀g∈O i v,g<w.heap.size)->Below w.heap.size w w'->R i v w') (hd:∀j,j<n->d j<a0.tmps.size)
  (step:∀i o,i<n->ops[i]? =some o->∀a w,a.defers=a0.defers->a.tmps.size=a0.tmps.size->(∀t,(∀j,j<n->d j≠t)->a.tmps[t]? =a0.tmps[t]?)->Below w0.heap.size w0 w->(∀e∈o.after,R e.on (a.eval (.tmp (d e.on))) w)->(∀e∈o.after,∀g∈O e.on (a.eval (.tmp (d e.on))),w0.heap.size<=g/\g<w.heap.size) ->
   (∀e∈o.after,∀f∈o.after,e.on≠f.on->∀g∈O e.on (a.eval (.tmp (d e.on))),g∉O f.on (a.eval (.tmp (d f.on)))) ->
   o.wp P a w (fun a' w'=>∃v,a'=a.put (some (d i)) v/\R i v w'/\Below w.heap.size w w'/\∀g∈O i v,w.heap.size<=g/\g<w'.heap.size) Q)
  (Jl:∀o,ops[n]? =some o->∀a w,DR n d R O a0 w0 (fun _=>True) a w->o.wp P a w (fun a' w'=>Q .normal a' w') Q):(Code.region id ops true).wp P Q a0 w0:=by
 refine lZ hm (fun listed a w=>(listed.size=n+1/\listed.getD n true=false/\DR n d R O a0 w0 (fun i=>listed.getD i true=true) a w)∨(Q .normal a w/\∀i,listed.getD i true=true)) ?_ ?_ ?_
 ·rintro listed a w (⟨hsz,hn,hI⟩|⟨_,Ja⟩) i hi
  ·obtain⟨hu,o,ho,Jc⟩:=mem_ready.1 hi;have Jm:i<n+1:=by
    rw[<-G.size];exact(Array.getElem?_eq_some_iff.mp ho).1
   by_cases hlt:i<n
   ·obtain⟨o',Je,Ji,hg,Jb⟩:=G.op i hlt;obtain rfl:o=o':=by rw[ho]at Je;exact Option.some.inj Je
    unfold wpOp;simp only[ho];rw[if_pos (by simp[Region.wanted,hg])];refine .inl (Oper.wp_mono ?_ (step i o hlt ho a w hI.defers hI.tsize hI.frame hI.below (fun e he=>?_) (fun e he=>?_) (fun e he f hf hne=>?_)))
    ·rintro a' w' ⟨v,rfl,hR,hB,hO⟩;refine .inl ⟨by simpa using hsz,by rw[fH o_];exact hn,hI.step Jh G.inj hd hlt (fun j hj=>?_) hR hB hO⟩;by_cases hji:j=i
     ·exact .inl hji
     ·exact .inr (by rwa[fH (fun e=>hji e.symm)]at hj)
    ·exact hI.rel e.on (Nat.lt_trans (Jb e he).1 hlt) (cx (Jc e he (Jb e he).2))
    ·exact hI.own e.on (Nat.lt_trans (Jb e he).1 hlt) (cx (Jc e he (Jb e he).2))
    ·exact hI.apart e.on f.on (Nat.lt_trans (Jb e he).1 hlt) (Nat.lt_trans (Jb f hf).1 hlt) hne (cx (Jc e he (Jb e he).2)) (cx (Jc f hf (Jb f hf).2))
   ·obtain rfl:i=n:=by omega
    obtain⟨o',Je,hg,Jg,_⟩:=G.last;obtain rfl:o=o':=by rw[ho]at Je;exact Option.some.inj Je
    have Ja:∀j,j<i->listed.getD j true=true:=fun j hj=>by
     obtain⟨e,he,rfl,hb⟩:=Jg j hj;exact cx (Jc e he hb)
    unfold wpOp;simp only[ho];rw[if_pos (by simp[Region.wanted,hg])];refine .inl (Oper.wp_mono ?_ (Jl o ho a w ⟨hI.defers,hI.tsize,hI.frame,hI.below,fun j hj _=>hI.rel j hj (Ja j hj),fun j hj _=>hI.own j hj (Ja j hj),fun j k hj hk hne _ _=>hI.apart j k hj hk hne (Ja j hj) (Ja k hk)⟩));intro a' w' hq;refine .inr ⟨hq,fun j=>?_⟩;by_cases hji:j=i
    ·subst hji;exact l7
    ·rw[fH (fun e=>hji e.symm)];by_cases hj:j<i
     ·exact Ja j hj
     ·have:¬j<listed.size:=o_
      simp[Array.getD,this]
  ·have:=(mem_ready.1 hi).1
   rw[Ja i]at this;cases this
 ·rintro listed a w (⟨hsz,hn,hI⟩|⟨hq,_⟩) hr
  ·exfalso
   have Jj:∀m,∀j,j<m->j<=n->listed.getD j true=true:=by
    intro m;induction m with
    | zero=>intro j hj;omega
    | succ m ih=>
     intro j hj Jk;by_cases hjm:j<m
     ·exact ih j hjm Jk
     ·obtain rfl:j=m:=by omega
      cases hb:listed.getD j true with
      | true=>rfl
      | false=>
       exfalso
       have Jf:j∈Region.ready .any ops listed:=by
        rw[mem_ready];refine⟨hb,?_⟩;by_cases hlt:j<n
        ·obtain⟨o,ho,_,_,Jb⟩:=G.op j hlt;exact⟨o,ho,fun e he _=>fG (by have:=(Jb e he).1;omega) (ih e.on (Jb e he).1 (by have:=(Jb e he).1;omega))⟩
        ·obtain rfl:j=n:=by omega
         obtain⟨o,ho,_,_,Jd⟩:=G.last;exact⟨o,ho,fun e he _=>fG (by have:=Jd e he;omega) (ih e.on (Jd e he) (by have:=Jd e he;omega))⟩
       rw[hr]at Jf;cases Jf
   rw[Jj (n+1) n (Nat.lt_succ_self _) n_]at hn;cases hn
  ·exact hq
 ·refine .inl ⟨by simp[G.size],by simp[Array.getD,G.size],⟨rfl,rfl,fun _ _=>rfl,r_.drew,fun i hi h=>?_,fun i hi h=>?_,fun i j hi hj hne h=>?_⟩⟩ <;>
   (exfalso;simp[Array.getD,G.size]at h;omega)
end Go.Proofs.YtlamjfhhefcohaaGreatDoor
