import Derived.Test.YtffnkkpmlplfeaaGreatDoorN21
import Derived.Deep.CutRange
namespace Go.Proofs.YtffnkkpmlplfeaaGreatDoor
open Go.RowKit
set_option linter.all false
set_option maxRecDepth 100000
set_option maxHeartbeats 16000000
variable[Inhabited Pick]
section
variable {r:List Nd} {x:Int} {w w3:World} {F:Nat->List Nd} {k:Nat} {ov fv:Value}
end
section
variable {a e:List Nd} {n:Nd}
theorem joinF_flat (F:Nat->List Nd) : ∀A,joinF F A=((List.range A).map F).flatten
 | 0=>rfl
 | A+1=>by simp[joinF,joinF_flat F A,List.range_succ]
theorem oneB_two {b:List Nd} (ha:oneB a=true) (hb:oneB b=true) (hn:nodeB n=true) (hA:arity n=2):oneB (a++b++[n])=true:=by
 have:=push_one [a,b] n hn (by simpa using hA) (λs hs=>by simp at hs;rcases hs with rfl|rfl <;> assumption)
 simpa using this
theorem oneB_one (ha:oneB a=true) (hn:nodeB n=true) (hA:arity n=1):oneB (a++[n])=true:=by
 have:=push_one [a] n hn (by simpa using hA) (λs hs=>by simp at hs;rcases hs with rfl;assumption)
 simpa using this
end
section
variable {A:Nat} {n:Nd} {w:World} {S:Nat->Prop} {v:Value} {e:List Nd} {b:Nat->Nat}
theorem joinF_in {F:Nat->List Nd} {i:Nat} (hi:i<A) (h:n∈F i):n∈joinF F A:=by
 rw[joinF_flat];exact List.mem_flatten.2 ⟨F i,List.mem_map.2 ⟨i,List.mem_range.2 hi,rfl⟩,h⟩
theorem Tv.one (h:Tv w S v e):(∀n∈e,nodeB n=true)->oneB e=true:=by
 induction h using Tv_i with
 | num x=>intro hg;exact push_one [] _ (hg _ (by simp)) rfl (λs hs=>by simp at hs)
 | var s=>intro hg;exact push_one [] _ (hg _ (by simp)) rfl (λs hs=>by simp at hs)
 | index s x r _ ih=>intro hg;exact oneB_one (ih λn hn=>hg n (by simp[hn])) (hg _ (by simp)) rfl
 | call s ar A vs F _ _ ih=>
  intro hg;rw[joinF_flat];refine push_one _ _ (hg _ (by simp)) (by simp[arity]) (λq hq => ?_);obtain⟨i,hi,rfl⟩:=List.mem_map.1 hq;exact ih i (List.mem_range.1 hi) λn hn=>hg n (List.mem_append_left _ (joinF_in (List.mem_range.1 hi) hn))
 | inn=>intro hg;exact push_one [] _ (hg _ (by simp)) rfl (λs hs=>by simp at hs)
 | un op x r _ ih=>intro hg;exact oneB_one (ih λn hn=>hg n (by simp[hn])) (hg _ (by simp)) rfl
 | bin op x y r q _ _ i1 i2=>intro hg;exact oneB_two (i1 λn hn=>hg n (by simp[hn])) (i2 λn hn=>hg n (by simp[hn])) (hg _ (by simp)) rfl
 | and x y r q _ _ i1 i2=>intro hg;exact oneB_two (i1 λn hn=>hg n (by simp[hn])) (i2 λn hn=>hg n (by simp[hn])) (hg _ (by simp)) rfl
 | or x y r q _ _ i1 i2=>intro hg;exact oneB_two (i1 λn hn=>hg n (by simp[hn])) (i2 λn hn=>hg n (by simp[hn])) (hg _ (by simp)) rfl
theorem cut_kids {T:List (List Nd)} (hn:nodeB n=true) (hA:arity n=T.length) (h : ∀s∈T,oneB s=true) (hc:Cut (T.flatten++[n]) A b):A=T.length/\∀i (hi:i<T.length),kid (T.flatten++[n]) b i=T[i]:=by
 obtain⟨rfl,hb⟩:=hc.one (push_cut T n hn hA h);refine⟨rfl,λi hi => ?_⟩;have:=seg_kid T n i hi
 rw[kid,hb i o_,hb (i+1) o_,this]
def NdV (w:World) (S:Nat->Prop) (v:Value) (n:Nd) (A:Nat) (us:Nat->Value):Prop:=
 (n.kind=1/\v=.iface 236 (.agg #[.int .i64 n.val])) ∨
 (n.kind=2/\v=.iface 264 (.agg #[.string n.name])) ∨
 (n.kind=3/\v=.iface 266 (.agg #[.string n.name,us 0])) ∨
 (n.kind=4/\∃ar,v=.iface 268 (.agg #[.string n.name,ar])/\Args w S ar A us) ∨
 (n.kind=5/\v=.iface 277 (.agg #[])) ∨
 (n.kind=6/\v=.iface 270 (.agg #[.int .i64 n.val,us 0])) ∨
 (n.kind=7/\v=.iface 272 (.agg #[.int .i64 n.val,us 0,us 1])) ∨
 (n.kind=8/\v=.iface 274 (.agg #[us 0,us 1])) ∨
 (n.kind=9/\v=.iface 275 (.agg #[us 0,us 1]))
theorem Tv.kids (h:Tv w S v e) (h1:oneB e=true) (hc:Cut e A b) : ∃us,(∀i,i<A->Tv w S (us i) (kid e b i))/\NdV w S v (rootN e) A us:=by
 have hg:=one_good h1;have two : ∀ {x y:Value} {r q:List Nd} {n:Nd} {A:Nat} {b:Nat->Nat},Tv w S x r->Tv w S y q->(∀m∈r++q++[n],nodeB m=true)->arity n=2->Cut (r++q++[n]) A b->A=2/\∀i,i<A->Tv w S (if i=0 then x else y) (kid (r++q++[n]) b i):=by
  intro x y r q n A b hx hy hg hA hc;have e0:r++q++[n] = [r,q].flatten++[n]:=by simp
  rw[e0] at hc hg ⊢;obtain⟨rfl,hk⟩:=cut_kids (T:=[r,q]) (hg n (by simp)) hA (λs hs=>by
   simp at hs;rcases hs with rfl|rfl
   ·exact hx.one λm hm=>hg m (by simp[hm])
   ·exact hy.one λm hm=>hg m (by simp[hm])) hc
  refine⟨rfl,λi hi => ?_⟩;rw[hk i hi];have:i=0∨i=1:=by simp at hi;omega
  rcases this with rfl|rfl
  ·exact hx
  ·exact hy
 have one : ∀ {x:Value} {r:List Nd} {n:Nd} {A:Nat} {b:Nat->Nat},Tv w S x r->(∀m∈r++[n],nodeB m=true)->arity n=1->Cut (r++[n]) A b->A=1/\∀i,i<A->Tv w S x (kid (r++[n]) b i):=by
  intro x r n A b hx hg hA hc;have e0:r++[n] = [r].flatten++[n]:=by simp
  rw[e0] at hc hg ⊢;obtain⟨rfl,hk⟩:=cut_kids (T:=[r]) (hg n (by simp)) hA (λs hs=>by
   simp at hs;subst hs;exact hx.one λm hm=>hg m (by simp[hm])) hc
  refine⟨rfl,λi hi => ?_⟩;rw[hk i hi];have:i=0:=by simp at hi;omega
  subst this;exact hx
 have non : ∀ {n:Nd} {A:Nat} {b:Nat->Nat},arity n=0->Cut [n] A b->A=0:=λ{n A b} hA hc=>by
  have:=hc.ar
  rw[show rootN [n]=n from root_snoc [] n] at this;omega
 cases h using Tv_i with
 | num x=>obtain rfl:=non rfl hc;exact⟨λ_=>.nilFunc,(λi hi=>by omega),.inl ⟨rfl,rfl⟩⟩
 | var s=>obtain rfl:=non rfl hc;exact⟨λ_=>.nilFunc,(λi hi=>by omega),.inr (.inl ⟨rfl,rfl⟩)⟩
 | index s x r hx=>
  obtain⟨rfl,hk⟩:=one hx hg rfl hc;exact⟨λ_=>x,hk,.inr (.inr (.inl ⟨by rw[root_snoc],by rw[root_snoc]⟩))⟩
 | call s ar B vs F ha hF=>
  have e0:joinF F B++[⟨4,(B:Int),s⟩]=((List.range B).map F).flatten++[⟨4,(B:Int),s⟩]:=by rw[joinF_flat]
  have hA:A=B/\∀i,i<A->kid (joinF F B++[⟨4,(B:Int),s⟩]) b i=F i:=by
   rw[e0] at hc hg ⊢;obtain⟨rfl,hk⟩:=cut_kids (T:=(List.range B).map F) (hg _ (by simp)) (by simp[arity]) (λq hq=>by
    obtain⟨i,hi,rfl⟩:=List.mem_map.1 hq;exact (hF i (List.mem_range.1 hi)).one λm hm=>hg m (List.mem_append_left _ (List.mem_flatten.2 ⟨F i,hq,hm⟩))) hc
   refine⟨by simp,λi hi => ?_⟩;rw[hk i hi];simp
  obtain⟨rfl,hk⟩:=hA;refine⟨vs,λi hi=>by rw[hk i hi];exact hF i hi,.inr (.inr (.inr (.inl ⟨by rw[root_snoc],ar,by rw[root_snoc],ha⟩)))⟩
 | inn=>obtain rfl:=non rfl hc;exact⟨λ_=>.nilFunc,(λi hi=>by omega),.inr (.inr (.inr (.inr (.inl ⟨rfl,rfl⟩))))⟩
 | un op x r hx=>
  obtain⟨rfl,hk⟩:=one hx hg rfl hc;exact⟨λ_=>x,hk,.inr (.inr (.inr (.inr (.inr (.inl ⟨by rw[root_snoc],by rw[root_snoc]⟩)))))⟩
 | bin op x y r q hx hy=>
  obtain⟨rfl,hk⟩:=two hx hy hg rfl hc;exact⟨_,hk,.inr (.inr (.inr (.inr (.inr (.inr (.inl ⟨by rw[root_snoc],by rw[root_snoc];rfl⟩))))))⟩
 | and x y r q hx hy=>
  obtain⟨rfl,hk⟩:=two hx hy hg rfl hc;exact⟨_,hk,.inr (.inr (.inr (.inr (.inr (.inr (.inr (.inl ⟨by rw[root_snoc],rfl⟩)))))))⟩
 | or x y r q hx hy=>
  obtain⟨rfl,hk⟩:=two hx hy hg rfl hc;exact⟨_,hk,.inr (.inr (.inr (.inr (.inr (.inr (.inr (.inr ⟨by rw[root_snoc],rfl⟩)))))))⟩
end
end Go.Proofs.YtffnkkpmlplfeaaGreatDoor
