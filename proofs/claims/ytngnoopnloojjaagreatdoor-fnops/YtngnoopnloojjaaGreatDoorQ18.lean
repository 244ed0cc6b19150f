import Derived.Deep.RegionHeldLaw
import Derived.Test.YtngnoopnloojjaaGreatDoorProg
import Derived.Test.YtngnoopnloojjaaGreatDoorQ00
namespace Go.Proofs.YtngnoopnloojjaaGreatDoor
open List
set_option linter.all false
set_option maxRecDepth 100000
set_option maxHeartbeats 0
variable[Inhabited Pick]
section
variable{listed:Array Bool}{i fuel:Nat}{oi:Oper}{v:BY}{a:Act}{w:AT}
variable{P:Program}{ops:Array Oper}{Q:Exit->Act->AT->Prop}{md:Region.Mode}{S:AT->Prop}{l:Nat}
def eL(P:Program)(md:Region.Mode)(ops:Array Oper)(Q:Exit->Act->AT->Prop)(S:AT->Prop)(l:Nat):Nat->Array Bool->Act->AT->Prop
 | 0,listed,a,w=>Region.ready md ops listed=[]/\Q .normal a w
 | fuel+1,listed,a,w=>
  (Region.ready md ops listed=[]->Q .normal a w) /\
  ∀i∈Region.ready md ops listed,wpOp P ops Q i (λa' w'=>(i≠l->S w')/\eL P md ops Q S l fuel (listed.setIfInBounds i true) a' w') a w
theorem pC:∀(fuel:Nat) (listed:Array Bool) (a:Act) (w:AT),eL P md ops Q S l fuel listed a w->wpAny P md ops Q fuel listed a w
 | 0,_,_,_,h=>h
 | fuel+1,_,_,_,h=>⟨h.1,λi hi=>wpOp_mono (λa' w' h'=>pC fuel _ a' w' h'.2) (h.2 i hi)⟩
def oB(md:Region.Mode)(ops:Array Oper):Nat->List Nat->Bool
 | _,[]=>true
 | x,y::r=>((ops[y]?).map λo=>o.after.toList.any λe=>Region.binds md e&&e.on == x).getD false&&oB md ops y r
def pD(listed:Array Bool):Nat->List Nat->Bool
 | _,[]=>true
 | x,y::r=>(!(listed.getD y false) || listed.getD x false)&&pD listed y r
def lastOf:Nat->List Nat->Nat
 | x,[]=>x
 | _,y::r=>lastOf y r
def vH{x y:Nat}{r:List Nat}(h:oB md ops x (y::r)=true)(O:y∈Region.ready md ops listed):listed.getD x false=true:=by simp only[oB,Io]at h;obtain⟨h,-⟩:=h;obtain⟨-,o,J,Ja⟩:=mem_ready.1 O;rw[J]at h;simp only[Option.map_some,Option.getD_some,any_eq_true]at h;obtain⟨e,H,I⟩:=h;have H:e∈o.after:=D4 H;simp only[Io,beq_iff_eq]at I;have:=Ja e H I.1;rwa[I.2]at this
theorem vI:∀(c:List Nat) (x:Nat) (listed:Array Bool),c≠[]->oB md ops x c=true->pD listed x c=true->lastOf x c∈Region.ready md ops listed->listed.getD x false=true
 | [],_,_,h,_,_,_=>absurd rfl h
 | [y],x,listed,_,hc,_,hr=>vH hc hr
 | y::z::r,x,listed,_,hc,hd,hr=>by
  simp only[pD,Io]at hd;have hc':oB md ops y (z::r)=true:=by simp only[oB,Io]at hc⊢;exact hc.2
  have:=vI (z::r) y listed i_ hc' (by simp only[pD,Io];exact hd.2) hr
  have H:=hd.1;rw[this]at H;simpa using H
theorem AA:∀(c:List Nat) (x:Nat) (listed:Array Bool) (j:Nat),oB md ops x c=true->pD listed x c=true->j∈Region.ready md ops listed->pD (listed.setIfInBounds j true) x c=true
 | [],_,_,_,_,_,_=>rfl
 | y::r,x,listed,j,hc,hd,hj=>by
  simp only[pD,Io]at hd⊢;have hc':oB md ops y r=true:=by simp only[oB,Io]at hc;exact hc.2
  refine⟨?_,AA r y listed j hc' hd.2 hj⟩;by_cases e:j=y;subst e;rw[getD_set_true (vH hc hj)];simp;rw[getD_set_ne false e];rcases Bool.or_eq_true_iff.1 hd.1 with h|h;rw[h];rfl;rw[getD_set_true h];simp
theorem tS{c:List Nat}(hi:ops[i]? =some oi)(Jd:∀(j:Nat) (o:Oper) cs b,ops[j]? =some o->o.op ≠ .select cs b)
  (hQ:∀c a w,Q (.panic c) (a.put oi.dst v) w->Q (.panic c) a w) (Jj:c≠[]) (hc:oB md ops i c=true) (hl:lastOf i c=l):
  ∀(fuel:Nat) (listed:Array Bool) (a:Act) (w:AT),
   (∀j oj,ops[j]? =some oj->j≠i->listed.getD j true=false->(∀e∈oj.after,Region.binds md e=true->e.on≠i)->oi.apart ops oj=true) ->
   i∈Region.ready md ops listed->pD listed i c=true->YieldsIf P ops S oi v a->S w ->
   eL P md ops Q S l fuel (listed.setIfInBounds i true) (a.put oi.dst v) w->eL P md ops Q S l (fuel+1) listed a w:=by
 have Jh:∀(listed:Array Bool),i∈Region.ready md ops listed->pD listed i c=true->l∉Region.ready md ops listed:=λlisted J U h=>by have I:=vI c i listed Jj hc U (by rw[hl];exact h);have X:=(mem_ready.1 J).1;rcases Nat.lt_or_ge i listed.size with O|O;simp[O]at X I;rw[X]at I;cases I;simp[Array.getElem?_eq_none O]at I
 intro fuel;induction fuel with
 | zero=>
  intro listed a w _ J U Z Y H;refine⟨λh=>(by rw[h]at J;cases J),λj hj=>?_⟩;by_cases hji:j=i;subst hji;exact Z.wpOp hi Y ⟨λ_=>Y,H⟩
  have:=ready_mono hj hji
  rw[H.1]at this;cases this
 | succ fuel ih=>
  intro listed a w Ja J U Z Y H;refine⟨λh=>(by rw[h]at J;cases J),λj hj=>?_⟩;by_cases hji:j=i;subst hji;exact Z.wpOp hi Y ⟨λ_=>Y,H⟩;have Ji:j≠l:=λe=>Jh listed J U (e ▸ hj);have I:=H.2 j (ready_mono hj hji);have⟨Jc,oj,Je,Jf⟩:=mem_ready.1 hj;have Jg:∀e∈oj.after,Region.binds md e=true->e.on≠i:=λe he hb heq=>by have I:=Jf e he hb;have X:=(mem_ready.1 J).1;rw[heq]at I;rcases Nat.lt_or_ge i listed.size with O|O;simp[O]at X I;rw[X]at I;cases I;simp[Array.getElem?_eq_none O]at I
  have h2:=wpOp_putIf Je (Ja j oj Je hji Jc Jg) (λcs b=>Jd i oi cs b hi) (λcs b=>Jd j oj cs b Je) hQ Z I;have Jb:∀k ok,ops[k]? =some ok->k≠i->(listed.setIfInBounds j true).getD k true=false ->
    (∀e∈ok.after,Region.binds md e=true->e.on≠i)->oi.apart ops ok=true:=λk ok hk hki hun hno=>by
   refine Ja k ok hk hki ?_ hno;by_cases hjk:j=k;subst hjk;exact Jc;rw[getD_set_ne true hjk]at hun;exact hun
  refine wpOp_mono (λa' w' h3=>⟨h3.2.1,ih (listed.setIfInBounds j true) a' w' Jb (ready_mono J (Ne.symm hji)) (AA c i listed j hc U hj) h3.1 (h3.2.1 Ji) ?_⟩) h2;rw[Array.setIfInBounds_comm _ _ hji];exact h3.2.2
def vJ(c:List Nat)(J:ops[i]? =some oi)
  (Z:Region.noSelect ops=true) (O:Region.free md ops listed i=true) (Y:(Region.ready md ops listed).contains i=true)
  (I:(!c.isEmpty&&oB md ops i c&&lastOf i c == l&&pD listed i c)=true)
  (hQ:∀c a w,Q (.panic c) (a.put oi.dst v) w->Q (.panic c) a w) (U:YieldsIf P ops S oi v a) (X:S w)
  (h:eL P md ops Q S l fuel (listed.setIfInBounds i true) (a.put oi.dst v) w):eL P md ops Q S l (fuel+1) listed a w:=by
 simp only[Io,Bool.not_eq_true',beq_iff_eq]at I;obtain⟨⟨⟨H,h2⟩,h3⟩,h4⟩:=I;exact tS J (Region.noSelect_spec Z) hQ (by intro e;rw[e]at H;cases H) h2 h3 fuel listed a w (Region.free_spec J O) (D4 Y) h4 U X h
def tA{α:Type _}{l:List α}{a:α}:l.toArray.setIfInBounds i a=(l.set i a).toArray:=setIfInBounds_toArray ..
def tB{α:Type _}{x:α}{l:List α}{a:α}:(x::l).set 0 a=a::l:=rfl
def tC{α:Type _}{x:α}{l:List α}{n:Nat}{a:α}:(x::l).set (n+1) a=x::l.set n a:=rfl
def tk{H:Act}(i:Nat)(c:List Nat)(I:S w)
  (h:eL P md ops Q S l fuel (listed.setIfInBounds i true) H w) (J:ops[i]? =some oi:=by rfl) (hw:Region.wanted oi (yielded ops a.tmps)=true:=by rfl)
  (hy:∀w,S w->(execOp a.eval oi).run P w=.ok (.value v) w:=by(intro W Ja;(try dsimp only at Ja);go_simp;try with_reducible rfl))
  (ha:a.put oi.dst v=H:=by first|(simp only[Act.put,tA,tB,tC];try rfl)|rfl)
  (hs:Region.noSelect ops=true:=by kernel_rfl) (hf:Region.free md ops listed i=true:=by kernel_rfl) (hr:(Region.ready md ops listed).contains i=true:=by kernel_rfl)
  (hc:(!c.isEmpty&&oB md ops i c&&lastOf i c == l&&pD listed i c)=true:=by kernel_rfl)
  (hQ:∀c a w,Q (.panic c) (a.put oi.dst v) w->Q (.panic c) a w:=by exact λ_ _ _ h=>h):eL P md ops Q S l (fuel+1) listed a w:=
 vJ c J hs hf hr hc hQ (.inl ⟨hw,hy⟩) I (by rw[ha];exact h)
def aE{o:Oper}(H:Region.ready md ops listed=[i])(I:ops[i]? =some o)
  (h:∀K:Act->AT->Prop,Shut (∀a' w',(i≠l->S w')->eL P md ops Q S l fuel (listed.setIfInBounds i true) a' w'->K a' w')->if Region.wanted o (yielded ops a.tmps)=true then o.wp P a w K Q else K (a.put o.dst undef) w):eL P md ops Q S l (fuel+1) listed a w:=by
 refine⟨λh0=>(by rw[H]at h0;cases h0),λj hj=>?_⟩;rw[H]at hj;obtain rfl:j=i:=D4 hj;unfold wpOp;simp only[I];have:=h (λa' w'=>(j≠l->S w')/\eL P md ops Q S l fuel (listed.setIfInBounds j true) a' w') (λa' w' h1 h2=>⟨h1,h2⟩);split;rename_i hw;rw[if_pos hw]at this;exact .inl this;rename_i hw;rw[if_neg hw]at this;exact this
theorem ct(hr:Region.ready md ops listed=[])(h:Q .normal a w):∀fuel,eL P md ops Q S l fuel listed a w
 | 0=>⟨hr,h⟩
 | _+1=>⟨λ_=>h,by rw[hr];simp⟩
def db{id:Nat}(l:Nat)(S:AT->Prop)(hm:P.follows .mixedOrders=true)
  (h:eL P .any ops Q S l ops.size (Array.replicate ops.size false) a w.drew):(Code.region id ops true).wp P Q a w:=
 wp_region_any hm (pC _ _ _ _ h)
end
end Go.Proofs.YtngnoopnloojjaaGreatDoor
