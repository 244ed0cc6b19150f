import Derived.Test.YtffnkkpmlplfeaaGreatDoorF22
import Derived.Deep.CutRange
namespace Go.Proofs.YtffnkkpmlplfeaaGreatDoor
open List
open Go.RowKit
set_option linter.all false
set_option maxRecDepth 100000
set_option maxHeartbeats 0
variable[Inhabited Pick]
section
variable{r:List Nd}{x:Int}{w w3:AT}{F:Nat->List Nd}{k:Nat}{ov fv:BY}
structure Gg (w wr:AT) (F:Nat->List Nd) (i:Nat) (ov fv:BY):Prop where
 out:aV w.heap.size wr ov (eU F i)
 us:∃us:List BY,us.length=i/\wr.ownsRow w.heap.size 130 1 fv i us/\∀j (h:j<us.length),aw wr us[j] (F j)/\∀g,us[j].ownBlock=some g->ov.ownBlock≠some g/\fv.ownBlock≠some g
 ne:∀g,ov.ownBlock=some g->fv.ownBlock≠some g
 bel:Bl w wr
end
section
variable{a e:List Nd}{n:Nd}
theorem gR(F:Nat->List Nd):∀A,eU F A=((List.range A).map F).flatten
 | 0=>rfl
 | A+1=>by simp[eU,gR F A,range_succ]
def ml{b:List Nd}(J:aP a=true)(U:aP b=true)(I:aD n=true)(h:arity n=2):aP (a++b++[n])=true:=by
 have:=fk [a,b] n I (Fc h) (λs hs=>by simp at hs;rcases hs with rfl|rfl <;> assumption)
 simpa using this
def qS(J:aP a=true)(I:aD n=true)(h:arity n=1):aP (a++[n])=true:=by
 have:=fk [a] n I (Fc h) (λs hs=>by simp at hs;rcases hs with rfl;assumption)
 simpa using this
end
section
variable{A:Nat}{n:Nd}{w:AT}{S:D6}{v:BY}{e:List Nd}{b:Nat->Nat}
def zu{F:Nat->List Nd}{i:Nat}(I:i<A)(h:n∈F i):n∈eU F A:=by
 rw[gR];exact mem_flatten.2 ⟨F i,mem_map.2 ⟨i,mem_range.2 I,rfl⟩,h⟩
theorem Tv.one(h:Tv w S v e):(∀n∈e,aD n=true)->aP e=true:=by
 induction h using Tv_i with
 | num x=>intro I;exact fk [] _ (I _ i_) rfl (λs hs=>by simp at hs)
 | var s=>intro I;exact fk [] _ (I _ i_) rfl (λs hs=>by simp at hs)
 | index s x r _ ih=>intro I;exact qS (ih λn hn=>I n (by simp[hn])) (I _ i_) rfl
 | call s ar A vs F _ _ ih=>
  intro I;rw[gR];refine fk _ _ (I _ i_) (by simp[arity]) (λq hq=>?_);obtain⟨i,J,rfl⟩:=mem_map.1 hq;exact ih i (mem_range.1 J) λn hn=>I n (mem_append_left _ (zu (mem_range.1 J) hn))
 | inn=>intro I;exact fk [] _ (I _ i_) rfl (λs hs=>by simp at hs)
 | un op x r _ ih=>intro I;exact qS (ih λn hn=>I n (by simp[hn])) (I _ i_) rfl
 | bin op x y r q _ _ i1 i2=>intro I;exact ml (i1 λn hn=>I n (by simp[hn])) (i2 λn hn=>I n (by simp[hn])) (I _ i_) rfl
 | and x y r q _ _ i1 i2=>intro I;exact ml (i1 λn hn=>I n (by simp[hn])) (i2 λn hn=>I n (by simp[hn])) (I _ i_) rfl
 | or x y r q _ _ i1 i2=>intro I;exact ml (i1 λn hn=>I n (by simp[hn])) (i2 λn hn=>I n (by simp[hn])) (I _ i_) rfl
def mo{T:List (List Nd)}(Y:aD n=true)(U:arity n=T.length)(h:∀s∈T,aP s=true)(J:Cut (T.flatten++[n]) A b):A=T.length/\∀i (hi:i<T.length),kid (T.flatten++[n]) b i=T[i]:=by
 obtain⟨rfl,I⟩:=J.one (xO T n Y U h);refine⟨rfl,λi hi=>?_⟩;have:=oN T n i hi;rw[kid,I i o_,I (i+1) o_,this]
def FO(w:AT)(S:D6)(v:BY)(n:Nd)(A:Nat)(us:Nat->BY):Prop:=
 (n.kind=1/\v=.iface 236 (.agg #[V n.val])) ∨
 (n.kind=2/\v=.iface 264 (.agg #[sV n.name])) ∨
 (n.kind=3/\v=.iface 266 (.agg #[sV n.name,us 0])) ∨
 (n.kind=4/\∃ar,v=.iface 268 (.agg #[sV n.name,ar])/\fY w S ar A us) ∨
 (n.kind=5/\v=.iface 277 (.agg #[])) ∨
 (n.kind=6/\v=.iface 270 (.agg #[V n.val,us 0])) ∨
 (n.kind=7/\v=.iface 272 (.agg #[V n.val,us 0,us 1])) ∨
 (n.kind=8/\v=.iface 274 (.agg #[us 0,us 1])) ∨
 (n.kind=9/\v=.iface 275 (.agg #[us 0,us 1]))
theorem Tv.kids(h:Tv w S v e)(h1:aP e=true)(I:Cut e A b):∃us,(∀i,i<A->Tv w S (us i) (kid e b i))/\FO w S v (aB e) A us:=by
 have J:=jq h1;have Jb:∀ {x y:BY} {r q:List Nd} {n:Nd} {A:Nat} {b:Nat->Nat},Tv w S x r->Tv w S y q->(∀m∈r++q++[n],aD m=true)->arity n=2->Cut (r++q++[n]) A b->A=2/\∀i,i<A->Tv w S (if i=0 then x else y) (kid (r++q++[n]) b i):=by
  intro x y r q n A b Z hy J hA I;have e0:r++q++[n]=[r,q].flatten++[n]:=i_;rw[e0]at I J⊢;obtain⟨rfl,U⟩:=mo (T:=[r,q]) (J n i_) hA (λs hs=>by
   simp at hs;rcases hs with rfl|rfl
   ·exact Z.one λm hm=>J m (by simp[hm])
   ·exact hy.one λm hm=>J m (by simp[hm])) I
  refine⟨rfl,λi Y=>?_⟩;rw[U i Y];have:i=0∨i=1:=by simp at Y;omega
  rcases this with rfl|rfl
  ·exact Z
  ·exact hy
 have one:∀ {x:BY} {r:List Nd} {n:Nd} {A:Nat} {b:Nat->Nat},Tv w S x r->(∀m∈r++[n],aD m=true)->arity n=1->Cut (r++[n]) A b->A=1/\∀i,i<A->Tv w S x (kid (r++[n]) b i):=by
  intro x r n A b Z J hA I;have e0:r++[n]=[r].flatten++[n]:=i_;rw[e0]at I J⊢;obtain⟨rfl,U⟩:=mo (T:=[r]) (J n i_) hA (λs hs=>by
   simp at hs;subst hs;exact Z.one λm hm=>J m (by simp[hm])) I
  refine⟨rfl,λi Y=>?_⟩;rw[U i Y];have:i=0:=by simp at Y;omega
  subst this;exact Z
 have Ja:∀ {n:Nd} {A:Nat} {b:Nat->Nat},arity n=0->Cut [n] A b->A=0:=λ{n A b} hA I=>by
  have:=I.ar
  rw[show aB [n]=n from cW [] n]at this;omega
 cases h using Tv_i with
 | num x=>obtain rfl:=Ja rfl I;exact⟨λ_=>.nilFunc,(λi Y=>by omega),.inl ⟨rfl,rfl⟩⟩
 | var s=>obtain rfl:=Ja rfl I;exact⟨λ_=>.nilFunc,(λi Y=>by omega),.inr (.inl ⟨rfl,rfl⟩)⟩
 | index s x r Z=>
  obtain⟨rfl,U⟩:=one Z J rfl I;exact⟨λ_=>x,U,.inr (.inr (.inl ⟨by rw[cW],by rw[cW]⟩))⟩
 | call s ar B vs F ha hF=>
  have e0:eU F B++[⟨4,(B:Int),s⟩]=((List.range B).map F).flatten++[⟨4,(B:Int),s⟩]:=by rw[gR]
  have hA:A=B/\∀i,i<A->kid (eU F B++[⟨4,(B:Int),s⟩]) b i=F i:=by
   rw[e0]at I J⊢;obtain⟨rfl,U⟩:=mo (T:=(List.range B).map F) (J _ i_) (by simp[arity]) (λq hq=>by
    obtain⟨i,Y,rfl⟩:=mem_map.1 hq;exact(hF i (mem_range.1 Y)).one λm hm=>J m (mem_append_left _ (mem_flatten.2 ⟨F i,hq,hm⟩))) I
   refine⟨i_,λi Y=>?_⟩;rw[U i Y];simp
  obtain⟨rfl,U⟩:=hA;refine⟨vs,λi Y=>by rw[U i Y];exact hF i Y,.inr (.inr (.inr (.inl ⟨by rw[cW],ar,by rw[cW],ha⟩)))⟩
 | inn=>obtain rfl:=Ja rfl I;exact⟨λ_=>.nilFunc,(λi Y=>by omega),.inr (.inr (.inr (.inr (.inl ⟨rfl,rfl⟩))))⟩
 | un op x r Z=>
  obtain⟨rfl,U⟩:=one Z J rfl I;exact⟨λ_=>x,U,.inr (.inr (.inr (.inr (.inr (.inl ⟨by rw[cW],by rw[cW]⟩)))))⟩
 | bin op x y r q Z hy=>
  obtain⟨rfl,U⟩:=Jb Z hy J rfl I;exact⟨_,U,.inr (.inr (.inr (.inr (.inr (.inr (.inl ⟨by rw[cW],by rw[cW];rfl⟩))))))⟩
 | and x y r q Z hy=>
  obtain⟨rfl,U⟩:=Jb Z hy J rfl I;exact⟨_,U,.inr (.inr (.inr (.inr (.inr (.inr (.inr (.inl ⟨by rw[cW],rfl⟩)))))))⟩
 | or x y r q Z hy=>
  obtain⟨rfl,U⟩:=Jb Z hy J rfl I;exact⟨_,U,.inr (.inr (.inr (.inr (.inr (.inr (.inr (.inr ⟨by rw[cW],rfl⟩)))))))⟩
end
end Go.Proofs.YtffnkkpmlplfeaaGreatDoor
