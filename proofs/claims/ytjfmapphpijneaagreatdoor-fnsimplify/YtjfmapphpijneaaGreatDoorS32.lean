import Derived.Deep.CutRange
import Derived.Test.YtjfmapphpijneaaGreatDoorS29
namespace Go.Proofs.YtjfmapphpijneaaGreatDoor
set_option linter.all false
set_option maxRecDepth 100000
set_option maxHeartbeats 0
open List
variable[Inhabited Pick]
section
open Go.RowKit
variable{e r:List Nd}{x:Int}{n:Nd}{w w3:AT}{F:Nat->List Nd}{k:Nat}{ov fv:BY}
theorem Fd.pos{ap:Int->Int->Int->Int}(h:Fd ap e r):0<r.length:=by
 cases h using Fd_i with
 | mk e A b F hc hk=>
  unfold cj;repeat' split
  all_goals first|(simp[dL];done)|(simp[di];split <;> simp[dL];done)|(simp only[l_a,l_c];omega)
def yS(h a:Int):d7 (rT h a):=by
 unfold rT Ge;split;exact Ap.w32_bd _;split;unfold boolN;split <;> exact⟨d_,d_⟩
 exact Ap.w32_bd _
def k9(b:Bool):d7 (boolN b):=by cases b <;> exact⟨d_,d_⟩
def ld{v:Int}(h:dY (dL v)=some x):x=v:=by simpa[dY,dL]using h.symm
theorem jH(I:0<r.length)(h:dY (r++[n])=some x):False:=by
 cases r with
 | nil=>simp at I
 | cons a l=>cases l <;> simp[dY]at h
theorem uK(I:0<r.length)(h:dY (di r)=some x):d7 x:=by
 unfold di at h;split at h;rw[ld h];exact k9 _;cases r with
 | nil=>simp at I
 | cons a l=>cases l <;> simp[dY]at h
theorem Fd.bd(h:Fd cJ e r)(I:dY r=some x):d7 x:=by
 cases h using Fd_i with
 | mk e A b F hc hk=>
  have J:∀i,i<A->0<(F i).length:=λi hi=>(hk i hi).pos;unfold cj at I;split at I
  rename_i h6;have U:=hc.ar1 (.inr h6);split at I;rw[ld I];exact yS _ _;exact absurd I (λh=>jH (J 0 o_) h);split at I;rename_i h7;have U:=hc.ar2 (.inl h7);split at I;rw[ld I];exact ud _ _ _;exact absurd I (λh=>jH (by have:=J 0 o_;simp;omega) h);split at I;rename_i h8;have U:=hc.ar2 (.inr (.inl h8));split at I;split at I;rw[ld I];exact⟨d_,d_⟩;exact uK (J 1 o_) I;exact absurd I (λh=>jH (by have:=J 0 o_;simp;omega) h);split at I;rename_i h9;have U:=hc.ar2 (.inr (.inr h9));split at I;split at I;exact uK (J 1 o_) I;rw[ld I];exact⟨d_,d_⟩;exact absurd I (λh=>jH (by have:=J 0 o_;simp;omega) h);have hj:joinF F A=[]\/0<(joinF F A).length:=by cases joinF F A <;> simp
  rcases hj with hj|hj;rw[hj]at I;have Z:=hc.root_good;simp only[nil_append,dY]at I;split at I;rename_i h1;have: -2147483648<=(aq e).val/\(aq e).val<=2147483647:=by unfold aJ at Z;simp[h1]at Z;omega
  simp only[J0]at I;rw[<-I];exact this;cases I;exact absurd I (λh=>jH hj h)
def IW(h:aJ n=true)(h6:n.kd=6):0<=n.val/\n.val<=2:=by unfold aJ at h;simp[h6]at h;omega
end
section
open Go.RowKit
variable{a e:List Nd}{n:Nd}
theorem fw(F:Nat->List Nd):∀A,joinF F A=((List.range A).map F).flatten
 | 0=>rfl
 | A+1=>by simp[joinF,fw F A,range_succ]
def fQ{x:Int}(h:d7 x):oneB (dL x)=true:=by
 have:=d9 [] ⟨1,x,⟨#[]⟩⟩ (by unfold aJ;simp only[if_true,J1,J2];exact⟨h,i_⟩) rfl (λs hs=>by simp at hs)
 exact this
def lf{b:List Nd}(J:oneB a=true)(U:oneB b=true)(I:aJ n=true)(h:arity n=2):oneB (a++b++[n])=true:=by
 have:=d9 [a,b] n I (IN h) (λs hs=>by simp at hs;rcases hs with rfl|rfl <;> assumption)
 simpa using this
def uL(J:oneB a=true)(I:aJ n=true)(h:arity n=1):oneB (a++[n])=true:=by
 have:=d9 [a] n I (IN h) (λs hs=>by simp at hs;rcases hs with rfl;assumption)
 simpa using this
def pt(h:oneB e=true):oneB (di e)=true:=by
 unfold di;split;exact fQ (k9 _)
 have:=lf (n:=⟨7,12,⟨#[]⟩⟩) h (fQ (x:=0) ⟨d_,d_⟩) (by unfold aJ;simp) rfl
 simpa[dL]using this
theorem Fd.oneB{r:List Nd}(h:Fd cJ e r):oneB r=true:=by
 induction h using Fd_i with
 | mk e A b F hc hk ih=>
  have U:=hc.root_good;have Ja:=hc.ar;have J:Go.Proofs.YtjfmapphpijneaaGreatDoor.oneB (joinF F A++[aq e])=true:=by rw[fw];refine d9 _ _ U (IN Ja) (λs hs=>?_);simp only[mem_map,mem_range]at hs;obtain⟨i,Z,rfl⟩:=hs;exact ih i Z
  unfold cj;split;rename_i h6;have I:=hc.ar1 (.inr h6);subst I;split;exact fQ (yS _ _);exact J;split;rename_i h7;have I:=hc.ar2 (.inl h7);subst I;split;exact fQ (ud _ _ _);exact J;split;rename_i h8;have I:=hc.ar2 (.inr (.inl h8));subst I;split;split;exact fQ ⟨d_,d_⟩;exact pt (ih 1 o_);exact J;split;rename_i h9;have I:=hc.ar2 (.inr (.inr h9));subst I;split;split;exact pt (ih 1 o_);exact fQ ⟨d_,d_⟩;exact J;exact J
end
section
open Go.RowKit
variable{A:Nat}{n:Nd}{w:AT}{S:Ft}{v:BY}{e:List Nd}{b:Nat->Nat}
def CE{F:Nat->List Nd}{i:Nat}(I:i<A)(h:n∈F i):n∈joinF F A:=by rw[fw];exact mem_flatten.2 ⟨F i,mem_map.2 ⟨i,mem_range.2 I,rfl⟩,h⟩
theorem Tv.one(h:Tv w S v e):(∀n∈e,aJ n=true)->oneB e=true:=by
 induction h using Tv_i with
 | num x=>intro I;exact d9 [] _ (I _ i_) rfl (λs hs=>by simp at hs)
 | var s=>intro I;exact d9 [] _ (I _ i_) rfl (λs hs=>by simp at hs)
 | index s x r _ ih=>intro I;exact uL (ih λn hn=>I n (by simp[hn])) (I _ i_) rfl
 | call s ar A vs F _ _ ih=>intro I;rw[fw];refine d9 _ _ (I _ i_) (by simp[arity]) (λq hq=>?_);obtain⟨i,J,rfl⟩:=mem_map.1 hq;exact ih i (mem_range.1 J) λn hn=>I n (mem_append_left _ (CE (mem_range.1 J) hn))
 | inn=>intro I;exact d9 [] _ (I _ i_) rfl (λs hs=>by simp at hs)
 | un op x r _ ih=>intro I;exact uL (ih λn hn=>I n (by simp[hn])) (I _ i_) rfl
 | bin op x y r q _ _ i1 i2=>intro I;exact lf (i1 λn hn=>I n (by simp[hn])) (i2 λn hn=>I n (by simp[hn])) (I _ i_) rfl
 | and x y r q _ _ i1 i2=>intro I;exact lf (i1 λn hn=>I n (by simp[hn])) (i2 λn hn=>I n (by simp[hn])) (I _ i_) rfl
 | or x y r q _ _ i1 i2=>intro I;exact lf (i1 λn hn=>I n (by simp[hn])) (i2 λn hn=>I n (by simp[hn])) (I _ i_) rfl
def pu{T:List (List Nd)}(Z:aJ n=true)(U:arity n=T.length)(h:∀s∈T,oneB s=true)(J:Cut (T.flatten++[n]) A b):A=T.length/\∀i (hi:i<T.length),kid (T.flatten++[n]) b i=T[i]:=by obtain⟨rfl,I⟩:=J.one (oy T n Z U h);refine⟨rfl,λi hi=>?_⟩;have:=kL T n i hi;rw[kid,I i o_,I (i+1) o_,this]
def JE(w:AT)(S:Ft)(v:BY)(n:Nd)(A:Nat)(us:Nat->BY):Prop:=
 (n.kd=1/\v=.iface 157 (.agg #[V n.val])) \/
 (n.kd=2/\v=.iface 199 (.agg #[sV n.nm])) \/
 (n.kd=3/\v=.iface 201 (.agg #[sV n.nm,us 0])) \/
 (n.kd=4/\∃ar,v=.iface 203 (.agg #[sV n.nm,ar])/\gy w S ar A us) \/
 (n.kd=5/\v=.iface 212 (.agg #[])) \/
 (n.kd=6/\v=.iface 205 (.agg #[V n.val,us 0])) \/
 (n.kd=7/\v=.iface 207 (.agg #[V n.val,us 0,us 1])) \/
 (n.kd=8/\v=.iface 209 (.agg #[us 0,us 1])) \/
 (n.kd=9/\v=.iface 210 (.agg #[us 0,us 1]))
theorem Tv.kids(h:Tv w S v e)(h1:oneB e=true)(I:Cut e A b):∃us,(∀i,i<A->Tv w S (us i) (kid e b i))/\JE w S v (aq e) A us:=by
 have J:=iG h1;have Jb:∀ {x y:BY} {r q:List Nd} {n:Nd} {A:Nat} {b:Nat->Nat},Tv w S x r->Tv w S y q->(∀m∈r++q++[n],aJ m=true)->arity n=2->Cut (r++q++[n]) A b->A=2/\∀i,i<A->Tv w S (if i=0 then x else y) (kid (r++q++[n]) b i):=by
  intro x y r q n A b hx hy J hA I;have e0:r++q++[n]=[r,q].flatten++[n]:=i_;rw[e0]at I J⊢;obtain⟨rfl,U⟩:=pu (T:=[r,q]) (J n i_) hA (λs hs=>by
   simp at hs;rcases hs with rfl|rfl;exact hx.one λm hm=>J m (by simp[hm])
   exact hy.one λm hm=>J m (by simp[hm])) I
  refine⟨rfl,λi Z=>?_⟩;rw[U i Z];have:i=0\/i=1:=by simp at Z;omega
  rcases this with rfl|rfl;exact hx;exact hy
 have one:∀ {x:BY} {r:List Nd} {n:Nd} {A:Nat} {b:Nat->Nat},Tv w S x r->(∀m∈r++[n],aJ m=true)->arity n=1->Cut (r++[n]) A b->A=1/\∀i,i<A->Tv w S x (kid (r++[n]) b i):=by
  intro x r n A b hx J hA I;have e0:r++[n]=[r].flatten++[n]:=i_;rw[e0]at I J⊢;obtain⟨rfl,U⟩:=pu (T:=[r]) (J n i_) hA (λs hs=>by simp at hs;subst hs;exact hx.one λm hm=>J m (by simp[hm])) I;refine⟨rfl,λi Z=>?_⟩;rw[U i Z];have:i=0:=by simp at Z;omega
  subst this;exact hx
 have Ja:∀ {n:Nd} {A:Nat} {b:Nat->Nat},arity n=0->Cut [n] A b->A=0:=λ{n A b} hA I=>by
  have:=I.ar
  rw[show aq [n]=n from bR [] n]at this;omega
 cases h using Tv_i with
 | num x=>obtain rfl:=Ja rfl I;exact⟨λ_=>.nilFunc,(λi Z=>by omega),.inl ⟨rfl,rfl⟩⟩
 | var s=>obtain rfl:=Ja rfl I;exact⟨λ_=>.nilFunc,(λi Z=>by omega),.inr (.inl ⟨rfl,rfl⟩)⟩
 | index s x r hx=>obtain⟨rfl,U⟩:=one hx J rfl I;exact⟨λ_=>x,U,.inr (.inr (.inl ⟨by rw[bR],by rw[bR]⟩))⟩
 | call s ar B vs F ha hF=>
  have e0:joinF F B++[⟨4,(B:Int),s⟩]=((List.range B).map F).flatten++[⟨4,(B:Int),s⟩]:=by rw[fw]
  have hA:A=B/\∀i,i<A->kid (joinF F B++[⟨4,(B:Int),s⟩]) b i=F i:=by rw[e0]at I J⊢;obtain⟨rfl,U⟩:=pu (T:=(List.range B).map F) (J _ i_) (by simp[arity]) (λq hq=>by obtain⟨i,Z,rfl⟩:=mem_map.1 hq;exact(hF i (mem_range.1 Z)).one λm hm=>J m (mem_append_left _ (mem_flatten.2 ⟨F i,hq,hm⟩))) I;refine⟨i_,λi Z=>?_⟩;rw[U i Z];simp
  obtain⟨rfl,U⟩:=hA;refine⟨vs,λi Z=>by rw[U i Z];exact hF i Z,.inr (.inr (.inr (.inl ⟨by rw[bR],ar,by rw[bR],ha⟩)))⟩
 | inn=>obtain rfl:=Ja rfl I;exact⟨λ_=>.nilFunc,(λi Z=>by omega),.inr (.inr (.inr (.inr (.inl ⟨rfl,rfl⟩))))⟩
 | un op x r hx=>obtain⟨rfl,U⟩:=one hx J rfl I;exact⟨λ_=>x,U,.inr (.inr (.inr (.inr (.inr (.inl ⟨by rw[bR],by rw[bR]⟩)))))⟩
 | bin op x y r q hx hy=>obtain⟨rfl,U⟩:=Jb hx hy J rfl I;exact⟨_,U,.inr (.inr (.inr (.inr (.inr (.inr (.inl ⟨by rw[bR],by rw[bR];rfl⟩))))))⟩
 | and x y r q hx hy=>obtain⟨rfl,U⟩:=Jb hx hy J rfl I;exact⟨_,U,.inr (.inr (.inr (.inr (.inr (.inr (.inr (.inl ⟨by rw[bR],rfl⟩)))))))⟩
 | or x y r q hx hy=>obtain⟨rfl,U⟩:=Jb hx hy J rfl I;exact⟨_,U,.inr (.inr (.inr (.inr (.inr (.inr (.inr (.inr ⟨by rw[bR],rfl⟩)))))))⟩
end
