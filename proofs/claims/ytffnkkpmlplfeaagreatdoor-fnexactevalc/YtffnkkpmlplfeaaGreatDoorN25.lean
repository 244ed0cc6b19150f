import Derived.Deep.RegionHeldLaw
import Derived.Test.YtffnkkpmlplfeaaGreatDoorProg
import Derived.Test.YtffnkkpmlplfeaaGreatDoorN00
namespace Go.Proofs.YtffnkkpmlplfeaaGreatDoor
set_option linter.all false
set_option maxRecDepth 100000
set_option maxHeartbeats 16000000
variable[Inhabited Pick]
section
variable {listed:Array Bool} {i fuel:Nat} {oi:Oper} {v:Value} {a:Act} {w:World}
variable {P:Program} {ops:Array Oper} {Q:Exit->Act->World->Prop} {md:Region.Mode} {S:World->Prop} {l:Nat}
def wpAnyE (P:Program) (md:Region.Mode) (ops:Array Oper) (Q:Exit->Act->World->Prop) (S:World->Prop) (l:Nat):Nat->Array Bool->Act->World->Prop
 | 0,listed,a,w=>Region.ready md ops listed = []/\Q .normal a w
 | fuel+1,listed,a,w=>
  (Region.ready md ops listed = []->Q .normal a w) /\
  ∀i∈Region.ready md ops listed,wpOp P ops Q i (λa' w'=>(i≠l->S w')/\wpAnyE P md ops Q S l fuel (listed.setIfInBounds i true) a' w') a w
theorem wpAny_of_E : ∀(fuel:Nat) (listed:Array Bool) (a:Act) (w:World),wpAnyE P md ops Q S l fuel listed a w->wpAny P md ops Q fuel listed a w
 | 0,_,_,_,h=>h
 | fuel+1,_,_,_,h=>⟨h.1,λi hi=>wpOp_mono (λa' w' h'=>wpAny_of_E fuel _ a' w' h'.2) (h.2 i hi)⟩
def chnB (md:Region.Mode) (ops:Array Oper):Nat->List Nat->Bool
 | _,[]=>true
 | x,y::r=>((ops[y]?).map λo=>o.after.toList.any λe=>Region.binds md e && e.on == x).getD false && chnB md ops y r
def dclB (listed:Array Bool):Nat->List Nat->Bool
 | _,[]=>true
 | x,y::r=>(!(listed.getD y false) || listed.getD x false) && dclB listed y r
def lastOf:Nat->List Nat->Nat
 | x,[]=>x
 | _,y::r=>lastOf y r
theorem chn_edge {x y:Nat} {r:List Nat} (h:chnB md ops x (y::r)=true) (hy:y∈Region.ready md ops listed):listed.getD x false=true:=by
 simp only[chnB,Bool.and_eq_true] at h;obtain⟨h,-⟩:=h;obtain⟨-,o,ho,hall⟩:=mem_ready.1 hy;rw[ho] at h;simp only[Option.map_some,Option.getD_some,List.any_eq_true] at h;obtain⟨e,he,hb⟩:=h;have he:e∈o.after:=by simpa using he
 simp only[Bool.and_eq_true,beq_iff_eq] at hb;have:=hall e he hb.1
 rwa [hb.2] at this
theorem chn_last : ∀(c:List Nat) (x:Nat) (listed:Array Bool),c ≠ []->chnB md ops x c=true->dclB listed x c=true->lastOf x c∈Region.ready md ops listed->listed.getD x false=true
 | [],_,_,h,_,_,_=>absurd rfl h
 | [y],x,listed,_,hc,_,hr=>chn_edge hc hr
 | y::z::r,x,listed,_,hc,hd,hr=>by
  simp only[dclB,Bool.and_eq_true] at hd;have hc':chnB md ops y (z::r)=true:=by
   simp only[chnB,Bool.and_eq_true] at hc ⊢;exact hc.2
  have:=chn_last (z::r) y listed (by simp) hc' (by simp only[dclB,Bool.and_eq_true];exact hd.2) hr
  have h1:=hd.1;rw[this] at h1;simpa using h1
theorem dcl_set : ∀(c:List Nat) (x:Nat) (listed:Array Bool) (j:Nat),chnB md ops x c=true->dclB listed x c=true->j∈Region.ready md ops listed->dclB (listed.setIfInBounds j true) x c=true
 | [],_,_,_,_,_,_=>rfl
 | y::r,x,listed,j,hc,hd,hj=>by
  simp only[dclB,Bool.and_eq_true] at hd ⊢;have hc':chnB md ops y r=true:=by
   simp only[chnB,Bool.and_eq_true] at hc;exact hc.2
  refine⟨?_,dcl_set r y listed j hc' hd.2 hj⟩;by_cases e:j=y
  ·subst e;rw[getD_set_true (chn_edge hc hj)];simp
  ·rw[getD_set_ne false e];rcases Bool.or_eq_true_iff.1 hd.1 with h|h
   ·rw[h];rfl
   ·rw[getD_set_true h];simp
theorem wpAnyE_first {c:List Nat} (hi:ops[i]? = some oi) (hsel : ∀(j:Nat) (o:Oper) cs b,ops[j]? = some o->o.op ≠ .select cs b)
  (hQ : ∀c a w,Q (.panic c) (a.put oi.dst v) w->Q (.panic c) a w) (hne:c ≠ []) (hc:chnB md ops i c=true) (hl:lastOf i c=l) :
  ∀(fuel:Nat) (listed:Array Bool) (a:Act) (w:World),
   (∀j oj,ops[j]? = some oj->j≠i->listed.getD j true=false->(∀e∈oj.after,Region.binds md e=true->e.on≠i)->oi.apart ops oj=true) ->
   i∈Region.ready md ops listed->dclB listed i c=true->YieldsIf P ops S oi v a->S w ->
   wpAnyE P md ops Q S l fuel (listed.setIfInBounds i true) (a.put oi.dst v) w->wpAnyE P md ops Q S l (fuel+1) listed a w:=by
 have hnl : ∀(listed:Array Bool),i∈Region.ready md ops listed->dclB listed i c=true->l∉Region.ready md ops listed:=λlisted hr hd h=>by
  have h1:=chn_last c i listed hne hc hd (by rw[hl];exact h);have h0:=(mem_ready.1 hr).1;rcases Nat.lt_or_ge i listed.size with h'|h'
  ·simp[h'] at h0 h1;rw[h0] at h1;cases h1
  ·simp[Array.getElem?_eq_none h'] at h1
 intro fuel;induction fuel with
 | zero=>
  intro listed a w _ hr hd hy hS H;refine⟨λh=>(by rw[h] at hr;cases hr),λj hj => ?_⟩;by_cases hji:j=i
  ·subst hji;exact hy.wpOp hi hS ⟨λ_=>hS,H⟩
  ·have:=ready_mono hj hji
   rw[H.1] at this;cases this
 | succ fuel ih=>
  intro listed a w hfree hr hd hy hS H;refine⟨λh=>(by rw[h] at hr;cases hr),λj hj => ?_⟩;by_cases hji:j=i
  ·subst hji;exact hy.wpOp hi hS ⟨λ_=>hS,H⟩
  ·have hjl:j≠l:=λe=>hnl listed hr hd (e ▸ hj);have h1:=H.2 j (ready_mono hj hji);obtain⟨hjun,oj,hoj,hall⟩:=mem_ready.1 hj;have hnot : ∀e∈oj.after,Region.binds md e=true->e.on≠i:=λe he hb heq=>by
    have h1:=hall e he hb;have h0:=(mem_ready.1 hr).1;rw[heq] at h1;rcases Nat.lt_or_ge i listed.size with h'|h'
    ·simp[h'] at h0 h1;rw[h0] at h1;cases h1
    ·simp[Array.getElem?_eq_none h'] at h1
   have h2:=wpOp_putIf hoj (hfree j oj hoj hji hjun hnot) (λcs b=>hsel i oi cs b hi) (λcs b=>hsel j oj cs b hoj) hQ hy h1;have hfree' : ∀k ok,ops[k]? = some ok->k≠i->(listed.setIfInBounds j true).getD k true=false ->
     (∀e∈ok.after,Region.binds md e=true->e.on≠i)->oi.apart ops ok=true:=λk ok hk hki hun hno=>by
    refine hfree k ok hk hki ?_ hno;by_cases hjk:j=k
    ·subst hjk;exact hjun
    ·rw[getD_set_ne true hjk] at hun;exact hun
   refine wpOp_mono (λa' w' h3=>⟨h3.2.1,ih (listed.setIfInBounds j true) a' w' hfree' (ready_mono hr (Ne.symm hji)) (dcl_set c i listed j hc hd hj) h3.1 (h3.2.1 hjl) ?_⟩) h2;rw[Array.setIfInBounds_comm _ _ hji];exact h3.2.2
theorem wpAnyE_take (c:List Nat) (hi:ops[i]? = some oi)
  (hs:Region.noSelect ops=true) (hf:Region.free md ops listed i=true) (hr:(Region.ready md ops listed).contains i=true)
  (hc:(!c.isEmpty && chnB md ops i c && lastOf i c == l && dclB listed i c)=true)
  (hQ : ∀c a w,Q (.panic c) (a.put oi.dst v) w->Q (.panic c) a w) (hy:YieldsIf P ops S oi v a) (hS:S w)
  (h:wpAnyE P md ops Q S l fuel (listed.setIfInBounds i true) (a.put oi.dst v) w):wpAnyE P md ops Q S l (fuel+1) listed a w:=by
 simp only[Bool.and_eq_true,Bool.not_eq_true',beq_iff_eq] at hc;obtain⟨⟨⟨h1,h2⟩,h3⟩,h4⟩:=hc;exact wpAnyE_first hi (Region.noSelect_spec hs) hQ (by intro e;rw[e] at h1;cases h1) h2 h3 fuel listed a w (Region.free_spec hi hf) (by simpa using hr) h4 hy hS h
theorem tA {α:Type _} {l:List α} {a:α}:l.toArray.setIfInBounds i a=(l.set i a).toArray:=List.setIfInBounds_toArray ..
theorem tB {α:Type _} {x:α} {l:List α} {a:α}:(x::l).set 0 a=a::l:=rfl
theorem tC {α:Type _} {x:α} {l:List α} {n:Nat} {a:α}:(x::l).set (n+1) a=x::l.set n a:=rfl
theorem tk {a':Act} (i:Nat) (c:List Nat) (hS:S w)
  (h:wpAnyE P md ops Q S l fuel (listed.setIfInBounds i true) a' w) (hi:ops[i]? = some oi:=by rfl) (hw:Region.wanted oi (yielded ops a.tmps)=true:=by rfl)
  (hy : ∀w,S w->(execOp a.eval oi).run P w=.ok (.value v) w:=by (intro W hSW;(try dsimp only at hSW);go_simp;try with_reducible rfl))
  (ha:a.put oi.dst v=a':=by first|(simp only[Act.put,tA,tB,tC];try rfl)|rfl)
  (hs:Region.noSelect ops=true:=by kernel_rfl) (hf:Region.free md ops listed i=true:=by kernel_rfl) (hr:(Region.ready md ops listed).contains i=true:=by kernel_rfl)
  (hc:(!c.isEmpty && chnB md ops i c && lastOf i c == l && dclB listed i c)=true:=by kernel_rfl)
  (hQ : ∀c a w,Q (.panic c) (a.put oi.dst v) w->Q (.panic c) a w:=by exact λ_ _ _ h=>h):wpAnyE P md ops Q S l (fuel+1) listed a w:=
 wpAnyE_take c hi hs hf hr hc hQ (.inl ⟨hw,hy⟩) hS (by rw[ha];exact h)
theorem wpAnyE_one {o:Oper} (hr:Region.ready md ops listed = [i]) (ho:ops[i]? = some o)
  (h : ∀K:Act->World->Prop,Shut (∀a' w',(i≠l->S w')->wpAnyE P md ops Q S l fuel (listed.setIfInBounds i true) a' w'->K a' w')->if Region.wanted o (yielded ops a.tmps)=true then o.wp P a w K Q else K (a.put o.dst undef) w):wpAnyE P md ops Q S l (fuel+1) listed a w:=by
 refine⟨λh0=>(by rw[hr] at h0;cases h0),λj hj => ?_⟩;rw[hr] at hj;obtain rfl:j=i:=by simpa using hj
 unfold wpOp;simp only[ho];have:=h (λa' w'=>(j≠l->S w')/\wpAnyE P md ops Q S l fuel (listed.setIfInBounds j true) a' w') (λa' w' h1 h2=>⟨h1,h2⟩)
 split
 ·rename_i hw;rw[if_pos hw] at this;exact .inl this
 ·rename_i hw;rw[if_neg hw] at this;exact this
theorem wpAnyE_done (hr:Region.ready md ops listed = []) (h:Q .normal a w) : ∀fuel,wpAnyE P md ops Q S l fuel listed a w
 | 0=>⟨hr,h⟩
 | _+1=>⟨λ_=>h,by rw[hr];simp⟩
theorem wp_region_E {id:Nat} (l:Nat) (S:World->Prop) (hm:P.follows .mixedOrders=true)
  (h:wpAnyE P .any ops Q S l ops.size (Array.replicate ops.size false) a w.drew):(Code.region id ops true).wp P Q a w:=
 wp_region_any hm (wpAny_of_E _ _ _ _ h)
end
end Go.Proofs.YtffnkkpmlplfeaaGreatDoor
