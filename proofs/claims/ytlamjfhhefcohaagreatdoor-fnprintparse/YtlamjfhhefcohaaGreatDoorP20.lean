import Derived.Deep.RegionHeldLaw
import Derived.Test.YtlamjfhhefcohaaGreatDoorProg
import Derived.Test.YtlamjfhhefcohaaGreatDoorP00
set_option linter.unusedSectionVars false
variable [Inhabited Go.Proofs.YtlamjfhhefcohaaGreatDoor.Pick]
namespace Go.Proofs.YtlamjfhhefcohaaGreatDoor
set_option linter.all false
set_option maxRecDepth 100000
set_option maxHeartbeats 16000000
section
variable{listed:Array Bool}{i fuel:Nat}{oi:Oper}{v:Value}{a:Act}{w:World}
variable{P:Program}{ops:Array Oper}{Q:Exit->Act->World->Prop}{md:Region.Mode}{S:World->Prop}{l:Nat}
def cA(P:Program)(md:Region.Mode)(ops:Array Oper)(Q:Exit->Act->World->Prop)(S:World->Prop)(l:Nat):Nat->Array Bool->Act->World->Prop
 | 0,listed,a,w=>Region.ready md ops listed=[]/\Q .normal a w
 | fuel+1,listed,a,w=>
  (Region.ready md ops listed=[]->Q .normal a w) /\
  ∀i∈Region.ready md ops listed,wpOp P ops Q i (fun a' w'=>(i≠l->S w')/\cA P md ops Q S l fuel (listed.setIfInBounds i true) a' w') a w
theorem ly:∀(fuel:Nat) (listed:Array Bool) (a:Act) (w:World),cA P md ops Q S l fuel listed a w->wpAny P md ops Q fuel listed a w
 | 0,_,_,_,h=>h
 | fuel+1,_,_,_,h=>⟨h.1,fun i hi=>wpOp_mono (fun a' w' h'=>ly fuel _ a' w' h'.2) (h.2 i hi)⟩
def ks(md:Region.Mode)(ops:Array Oper):Nat->List Nat->Bool
 | _,[]=>true
 | x,y::r=>((ops[y]?).map fun o=>o.after.toList.any fun e=>Region.binds md e&&e.on == x).getD false&&ks md ops y r
def lz(listed:Array Bool):Nat->List Nat->Bool
 | _,[]=>true
 | x,y::r=>(!(listed.getD y false) || listed.getD x false)&&lz listed y r
def lastOf:Nat->List Nat->Nat
 | x,[]=>x
 | _,y::r=>lastOf y r
theorem pz{x y:Nat}{r:List Nat}(h:ks md ops x (y::r)=true)(hy:y∈Region.ready md ops listed):listed.getD x false=true:=by
 simp only[ks,Bool.and_eq_true]at h;obtain⟨h,-⟩:=h;obtain⟨-,o,ho,Ja⟩:=mem_ready.1 hy;rw[ho]at h;simp only[Option.map_some,Option.getD_some,List.any_eq_true]at h;obtain⟨e,he,hb⟩:=h;have he:e∈o.after:=by simpa using he
 simp only[Bool.and_eq_true,beq_iff_eq]at hb;have:=Ja e he hb.1
 rwa[hb.2]at this
theorem pA:∀(c:List Nat) (x:Nat) (listed:Array Bool),c≠[]->ks md ops x c=true->lz listed x c=true->lastOf x c∈Region.ready md ops listed->listed.getD x false=true
 | [],_,_,h,_,_,_=>absurd rfl h
 | [y],x,listed,_,hc,_,hr=>pz hc hr
 | y::z::r,x,listed,_,hc,hd,hr=>by
  simp only[lz,Bool.and_eq_true]at hd;have hc':ks md ops y (z::r)=true:=by
   simp only[ks,Bool.and_eq_true]at hc⊢;exact hc.2
  have:=pA (z::r) y listed i_ hc' (by simp only[lz,Bool.and_eq_true];exact hd.2) hr
  have h1:=hd.1;rw[this]at h1;simpa using h1
theorem si:∀(c:List Nat) (x:Nat) (listed:Array Bool) (j:Nat),ks md ops x c=true->lz listed x c=true->j∈Region.ready md ops listed->lz (listed.setIfInBounds j true) x c=true
 | [],_,_,_,_,_,_=>rfl
 | y::r,x,listed,j,hc,hd,hj=>by
  simp only[lz,Bool.and_eq_true]at hd⊢;have hc':ks md ops y r=true:=by
   simp only[ks,Bool.and_eq_true]at hc;exact hc.2
  refine⟨?_,si r y listed j hc' hd.2 hj⟩;by_cases e:j=y
  ·subst e;rw[getD_set_true (pz hc hj)];simp
  ·rw[getD_set_ne false e];rcases Bool.or_eq_true_iff.1 hd.1 with h|h
   ·rw[h];rfl
   ·rw[getD_set_true h];simp
theorem nK{c:List Nat}(hi:ops[i]? =some oi)(Jd:∀(j:Nat) (o:Oper) cs b,ops[j]? =some o->o.op ≠ .select cs b)
  (hQ:∀c a w,Q (.panic c) (a.put oi.dst v) w->Q (.panic c) a w) (Jj:c≠[]) (hc:ks md ops i c=true) (hl:lastOf i c=l):
  ∀(fuel:Nat) (listed:Array Bool) (a:Act) (w:World),
   (∀j oj,ops[j]? =some oj->j≠i->listed.getD j true=false->(∀e∈oj.after,Region.binds md e=true->e.on≠i)->oi.apart ops oj=true) ->
   i∈Region.ready md ops listed->lz listed i c=true->YieldsIf P ops S oi v a->S w ->
   cA P md ops Q S l fuel (listed.setIfInBounds i true) (a.put oi.dst v) w->cA P md ops Q S l (fuel+1) listed a w:=by
 have Jh:∀(listed:Array Bool),i∈Region.ready md ops listed->lz listed i c=true->l∉Region.ready md ops listed:=fun listed hr hd h=>by
  have h1:=pA c i listed Jj hc hd (by rw[hl];exact h);have h0:=(mem_ready.1 hr).1;rcases Nat.lt_or_ge i listed.size with h'|h'
  ·simp[h']at h0 h1;rw[h0]at h1;cases h1
  ·simp[Array.getElem?_eq_none h']at h1
 intro fuel;induction fuel with
 | zero=>
  intro listed a w _ hr hd hy hS H;refine⟨fun h=>(by rw[h]at hr;cases hr),fun j hj=>?_⟩;by_cases hji:j=i
  ·subst hji;exact hy.wpOp hi hS ⟨fun _=>hS,H⟩
  ·have:=ready_mono hj hji
   rw[H.1]at this;cases this
 | succ fuel ih=>
  intro listed a w Ja hr hd hy hS H;refine⟨fun h=>(by rw[h]at hr;cases hr),fun j hj=>?_⟩;by_cases hji:j=i
  ·subst hji;exact hy.wpOp hi hS ⟨fun _=>hS,H⟩
  ·have Ji:j≠l:=fun e=>Jh listed hr hd (e ▸ hj);have h1:=H.2 j (ready_mono hj hji);obtain⟨Jc,oj,Jf,Jg⟩:=mem_ready.1 hj;have Je:∀e∈oj.after,Region.binds md e=true->e.on≠i:=fun e he hb heq=>by
    have h1:=Jg e he hb;have h0:=(mem_ready.1 hr).1;rw[heq]at h1;rcases Nat.lt_or_ge i listed.size with h'|h'
    ·simp[h']at h0 h1;rw[h0]at h1;cases h1
    ·simp[Array.getElem?_eq_none h']at h1
   have h2:=wpOp_putIf Jf (Ja j oj Jf hji Jc Je) (fun cs b=>Jd i oi cs b hi) (fun cs b=>Jd j oj cs b Jf) hQ hy h1;have Jb:∀k ok,ops[k]? =some ok->k≠i->(listed.setIfInBounds j true).getD k true=false ->
     (∀e∈ok.after,Region.binds md e=true->e.on≠i)->oi.apart ops ok=true:=fun k ok hk hki hun hno=>by
    refine Ja k ok hk hki ?_ hno;by_cases hjk:j=k
    ·subst hjk;exact Jc
    ·rw[getD_set_ne true hjk]at hun;exact hun
   refine wpOp_mono (fun a' w' h3=>⟨h3.2.1,ih (listed.setIfInBounds j true) a' w' Jb (ready_mono hr (Ne.symm hji)) (si c i listed j hc hd hj) h3.1 (h3.2.1 Ji) ?_⟩) h2;rw[Array.setIfInBounds_comm _ _ hji];exact h3.2.2
theorem pB(c:List Nat)(hi:ops[i]? =some oi)
  (hs:Region.noSelect ops=true) (hf:Region.free md ops listed i=true) (hr:(Region.ready md ops listed).contains i=true)
  (hc:(!c.isEmpty&&ks md ops i c&&lastOf i c == l&&lz listed i c)=true)
  (hQ:∀c a w,Q (.panic c) (a.put oi.dst v) w->Q (.panic c) a w) (hy:YieldsIf P ops S oi v a) (hS:S w)
  (h:cA P md ops Q S l fuel (listed.setIfInBounds i true) (a.put oi.dst v) w):cA P md ops Q S l (fuel+1) listed a w:=by
 simp only[Bool.and_eq_true,Bool.not_eq_true',beq_iff_eq]at hc;obtain⟨⟨⟨h1,h2⟩,h3⟩,h4⟩:=hc;exact nK hi (Region.noSelect_spec hs) hQ (by intro e;rw[e]at h1;cases h1) h2 h3 fuel listed a w (Region.free_spec hi hf) (by simpa using hr) h4 hy hS h
theorem tA{α:Type _}{l:List α}{a:α}:l.toArray.setIfInBounds i a=(l.set i a).toArray:=List.setIfInBounds_toArray ..
theorem tB{α:Type _}{x:α}{l:List α}{a:α}:(x::l).set 0 a=a::l:=rfl
theorem tC{α:Type _}{x:α}{l:List α}{n:Nat}{a:α}:(x::l).set (n+1) a=x::l.set n a:=rfl
theorem tk{a':Act}(i:Nat)(c:List Nat)(hS:S w)
  (h:cA P md ops Q S l fuel (listed.setIfInBounds i true) a' w) (hi:ops[i]? =some oi:=by rfl) (hw:Region.wanted oi (yielded ops a.tmps)=true:=by rfl)
  (hy:∀w,S w->(execOp a.eval oi).run P w=.ok (.value v) w:=by(intro W Ja;(try dsimp only at Ja);go_simp;try with_reducible rfl))
  (ha:a.put oi.dst v=a':=by first|(simp only[Act.put,tA,tB,tC];try rfl)|rfl)
  (hs:Region.noSelect ops=true:=by kernel_rfl) (hf:Region.free md ops listed i=true:=by kernel_rfl) (hr:(Region.ready md ops listed).contains i=true:=by kernel_rfl)
  (hc:(!c.isEmpty&&ks md ops i c&&lastOf i c == l&&lz listed i c)=true:=by kernel_rfl)
  (hQ:∀c a w,Q (.panic c) (a.put oi.dst v) w->Q (.panic c) a w:=by exact fun _ _ _ h=>h):cA P md ops Q S l (fuel+1) listed a w:=
 pB c hi hs hf hr hc hQ (.inl ⟨hw,hy⟩) hS (by rw[ha];exact h)
theorem aw{o:Oper}(hr:Region.ready md ops listed=[i])(ho:ops[i]? =some o)
  (h:∀K:Act->World->Prop,Shut (∀a' w',(i≠l->S w')->cA P md ops Q S l fuel (listed.setIfInBounds i true) a' w'->K a' w')->if Region.wanted o (yielded ops a.tmps)=true then o.wp P a w K Q else K (a.put o.dst undef) w):cA P md ops Q S l (fuel+1) listed a w:=by
 refine⟨fun h0=>(by rw[hr]at h0;cases h0),fun j hj=>?_⟩;rw[hr]at hj;obtain rfl:j=i:=by simpa using hj
 unfold wpOp;simp only[ho];have:=h (fun a' w'=>(j≠l->S w')/\cA P md ops Q S l fuel (listed.setIfInBounds j true) a' w') (fun a' w' h1 h2=>⟨h1,h2⟩)
 split
 ·rename_i hw;rw[if_pos hw]at this;exact .inl this
 ·rename_i hw;rw[if_neg hw]at this;exact this
theorem aP(hr:Region.ready md ops listed=[])(h:Q .normal a w):∀fuel,cA P md ops Q S l fuel listed a w
 | 0=>⟨hr,h⟩
 | _+1=>⟨fun _=>h,by rw[hr];simp⟩
theorem aX{id:Nat}(l:Nat)(S:World->Prop)(hm:P.follows .mixedOrders=true)
  (h:cA P .any ops Q S l ops.size (Array.replicate ops.size false) a w.drew):(Code.region id ops true).wp P Q a w:=
 wp_region_any hm (ly _ _ _ _ h)
end
end Go.Proofs.YtlamjfhhefcohaaGreatDoor
