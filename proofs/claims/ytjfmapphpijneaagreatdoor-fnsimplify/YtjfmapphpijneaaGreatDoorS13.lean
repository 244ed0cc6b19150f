import Derived.Deep.RegionHeldLaw
import Derived.Test.YtjfmapphpijneaaGreatDoorProg
import Derived.Test.YtjfmapphpijneaaGreatDoorS00
namespace Go.Proofs.YtjfmapphpijneaaGreatDoor
open List
set_option linter.all false
set_option maxRecDepth 100000
set_option maxHeartbeats 0
variable[Inhabited Pick]
section
variable{listed:Array Bool}{i fuel:Nat}{oi:Oper}{v:BY}{a:Act}{w:AT}
variable{P:Program}{ops:Array Oper}{Q:Exit->Act->AT->Prop}{md:Region.Mode}{S:AT->Prop}{l:Nat}
def db(P:Program)(md:Region.Mode)(ops:Array Oper)(Q:Exit->Act->AT->Prop)(S:AT->Prop)(l:Nat):Nat->Array Bool->Act->AT->Prop
 | 0,listed,a,w=>Region.ready md ops listed=[]/\Q .normal a w
 | fuel+1,listed,a,w=>
  (Region.ready md ops listed=[]->Q .normal a w) /\
  ∀i∈Region.ready md ops listed,wpOp P ops Q i (λa' w'=>(i≠l->S w')/\db P md ops Q S l fuel (listed.setIfInBounds i true) a' w') a w
theorem oU:∀(fuel:Nat) (listed:Array Bool) (a:Act) (w:AT),db P md ops Q S l fuel listed a w->wpAny P md ops Q fuel listed a w
 | 0,_,_,_,h=>h
 | fuel+1,_,_,_,h=>⟨h.1,λi hi=>wpOp_mono (λa' w' h'=>oU fuel _ a' w' h'.2) (h.2 i hi)⟩
def mX(md:Region.Mode)(ops:Array Oper):Nat->List Nat->Bool
 | _,[]=>true
 | x,y::r=>((ops[y]?).map λo=>o.after.toList.any λe=>Region.binds md e&&e.on == x).getD false&&mX md ops y r
def oV(listed:Array Bool):Nat->List Nat->Bool
 | _,[]=>true
 | x,y::r=>(!(listed.getD y false) || listed.getD x false)&&oV listed y r
def lastOf:Nat->List Nat->Nat
 | x,[]=>x
 | _,y::r=>lastOf y r
def uk{x y:Nat}{r:List Nat}(h:mX md ops x (y::r)=true)(Z:y∈Region.ready md ops listed):listed.getD x false=true:=by simp only[mX,J1]at h;obtain⟨h,-⟩:=h;obtain⟨-,o,U,Ja⟩:=mem_ready.1 Z;rw[U]at h;simp only[Option.map_some,Option.getD_some,any_eq_true]at h;obtain⟨e,I,J⟩:=h;have I:e∈o.after:=IN I;simp only[J1,beq_iff_eq]at J;have:=Ja e I J.1;rwa[J.2]at this
theorem ul:∀(c:List Nat) (x:Nat) (listed:Array Bool),c≠[]->mX md ops x c=true->oV listed x c=true->lastOf x c∈Region.ready md ops listed->listed.getD x false=true
 | [],_,_,h,_,_,_=>absurd rfl h
 | [y],x,listed,_,hc,_,hr=>uk hc hr
 | y::z::r,x,listed,_,hc,hd,hr=>by
  simp only[oV,J1]at hd;have hc':mX md ops y (z::r)=true:=by simp only[mX,J1]at hc⊢;exact hc.2
  have:=ul (z::r) y listed i_ hc' (by simp only[oV,J1];exact hd.2) hr
  have I:=hd.1;rw[this]at I;simpa using I
theorem yJ:∀(c:List Nat) (x:Nat) (listed:Array Bool) (j:Nat),mX md ops x c=true->oV listed x c=true->j∈Region.ready md ops listed->oV (listed.setIfInBounds j true) x c=true
 | [],_,_,_,_,_,_=>rfl
 | y::r,x,listed,j,hc,hd,hj=>by
  simp only[oV,J1]at hd⊢;have hc':mX md ops y r=true:=by simp only[mX,J1]at hc;exact hc.2
  refine⟨?_,yJ r y listed j hc' hd.2 hj⟩;by_cases e:j=y;subst e;rw[getD_set_true (uk hc hj)];simp;rw[getD_set_ne false e];rcases Bool.or_eq_true_iff.1 hd.1 with h|h;rw[h];rfl;rw[getD_set_true h];simp
theorem sr{c:List Nat}(hi:ops[i]? =some oi)(Jd:∀(j:Nat) (o:Oper) cs b,ops[j]? =some o->o.op ≠ .select cs b)
  (hQ:∀c a w,Q (.panic c) (a.put oi.dst v) w->Q (.panic c) a w) (Jj:c≠[]) (hc:mX md ops i c=true) (hl:lastOf i c=l):
  ∀(fuel:Nat) (listed:Array Bool) (a:Act) (w:AT),
   (∀j oj,ops[j]? =some oj->j≠i->listed.getD j true=false->(∀e∈oj.after,Region.binds md e=true->e.on≠i)->oi.apart ops oj=true) ->
   i∈Region.ready md ops listed->oV listed i c=true->YieldsIf P ops S oi v a->S w ->
   db P md ops Q S l fuel (listed.setIfInBounds i true) (a.put oi.dst v) w->db P md ops Q S l (fuel+1) listed a w:=by
 have Jh:∀(listed:Array Bool),i∈Region.ready md ops listed->oV listed i c=true->l∉Region.ready md ops listed:=λlisted J Z h=>by have I:=ul c i listed Jj hc Z (by rw[hl];exact h);have h0:=(mem_ready.1 J).1;rcases Nat.lt_or_ge i listed.size with U|U;simp[U]at h0 I;rw[h0]at I;cases I;simp[Array.getElem?_eq_none U]at I
 intro fuel;induction fuel with
 | zero=>
  intro listed a w _ J Z hy hS H;refine⟨λh=>(by rw[h]at J;cases J),λj hj=>?_⟩;by_cases hji:j=i;subst hji;exact hy.wpOp hi hS ⟨λ_=>hS,H⟩
  have:=ready_mono hj hji
  rw[H.1]at this;cases this
 | succ fuel ih=>
  intro listed a w Ja J Z hy hS H;refine⟨λh=>(by rw[h]at J;cases J),λj hj=>?_⟩;by_cases hji:j=i;subst hji;exact hy.wpOp hi hS ⟨λ_=>hS,H⟩;have Ji:j≠l:=λe=>Jh listed J Z (e ▸ hj);have I:=H.2 j (ready_mono hj hji);have⟨Jc,oj,Je,Jf⟩:=mem_ready.1 hj;have Jg:∀e∈oj.after,Region.binds md e=true->e.on≠i:=λe he hb heq=>by have I:=Jf e he hb;have h0:=(mem_ready.1 J).1;rw[heq]at I;rcases Nat.lt_or_ge i listed.size with U|U;simp[U]at h0 I;rw[h0]at I;cases I;simp[Array.getElem?_eq_none U]at I
  have h2:=wpOp_putIf Je (Ja j oj Je hji Jc Jg) (λcs b=>Jd i oi cs b hi) (λcs b=>Jd j oj cs b Je) hQ hy I;have Jb:∀k ok,ops[k]? =some ok->k≠i->(listed.setIfInBounds j true).getD k true=false ->
    (∀e∈ok.after,Region.binds md e=true->e.on≠i)->oi.apart ops ok=true:=λk ok hk hki hun hno=>by
   refine Ja k ok hk hki ?_ hno;by_cases hjk:j=k;subst hjk;exact Jc;rw[getD_set_ne true hjk]at hun;exact hun
  refine wpOp_mono (λa' w' h3=>⟨h3.2.1,ih (listed.setIfInBounds j true) a' w' Jb (ready_mono J (Ne.symm hji)) (yJ c i listed j hc Z hj) h3.1 (h3.2.1 Ji) ?_⟩) h2;rw[Array.setIfInBounds_comm _ _ hji];exact h3.2.2
def um(c:List Nat)(U:ops[i]? =some oi)
  (hs:Region.noSelect ops=true) (Z:Region.free md ops listed i=true) (hr:(Region.ready md ops listed).contains i=true)
  (J:(!c.isEmpty&&mX md ops i c&&lastOf i c == l&&oV listed i c)=true)
  (hQ:∀c a w,Q (.panic c) (a.put oi.dst v) w->Q (.panic c) a w) (hy:YieldsIf P ops S oi v a) (hS:S w)
  (h:db P md ops Q S l fuel (listed.setIfInBounds i true) (a.put oi.dst v) w):db P md ops Q S l (fuel+1) listed a w:=by
 simp only[J1,Bool.not_eq_true',beq_iff_eq]at J;obtain⟨⟨⟨I,h2⟩,h3⟩,h4⟩:=J;exact sr U (Region.noSelect_spec hs) hQ (by intro e;rw[e]at I;cases I) h2 h3 fuel listed a w (Region.free_spec U Z) (IN hr) h4 hy hS h
def tA{α:Type _}{l:List α}{a:α}:l.toArray.setIfInBounds i a=(l.set i a).toArray:=setIfInBounds_toArray ..
def tB{α:Type _}{x:α}{l:List α}{a:α}:(x::l).set 0 a=a::l:=rfl
def tC{α:Type _}{x:α}{l:List α}{n:Nat}{a:α}:(x::l).set (n+1) a=x::l.set n a:=rfl
def tk{I:Act}(i:Nat)(c:List Nat)(J:S w)
  (h:db P md ops Q S l fuel (listed.setIfInBounds i true) I w) (U:ops[i]? =some oi:=by rfl) (hw:Region.wanted oi (yielded ops a.tmps)=true:=by rfl)
  (hy:∀w,S w->(execOp a.eval oi).run P w=.ok (.value v) w:=by(intro W Ja;(try dsimp only at Ja);go_simp;try with_reducible rfl))
  (ha:a.put oi.dst v=I:=by first|(simp only[Act.put,tA,tB,tC];try rfl)|rfl)
  (hs:Region.noSelect ops=true:=by kernel_rfl) (hf:Region.free md ops listed i=true:=by kernel_rfl) (hr:(Region.ready md ops listed).contains i=true:=by kernel_rfl)
  (hc:(!c.isEmpty&&mX md ops i c&&lastOf i c == l&&oV listed i c)=true:=by kernel_rfl)
  (hQ:∀c a w,Q (.panic c) (a.put oi.dst v) w->Q (.panic c) a w:=by exact λ_ _ _ h=>h):db P md ops Q S l (fuel+1) listed a w:=
 um c U hs hf hr hc hQ (.inl ⟨hw,hy⟩) J (by rw[ha];exact h)
def aB{o:Oper}(I:Region.ready md ops listed=[i])(J:ops[i]? =some o)
  (h:∀K:Act->AT->Prop,Shut (∀a' w',(i≠l->S w')->db P md ops Q S l fuel (listed.setIfInBounds i true) a' w'->K a' w')->if Region.wanted o (yielded ops a.tmps)=true then o.wp P a w K Q else K (a.put o.dst undef) w):db P md ops Q S l (fuel+1) listed a w:=by
 refine⟨λh0=>(by rw[I]at h0;cases h0),λj hj=>?_⟩;rw[I]at hj;obtain rfl:j=i:=IN hj;unfold wpOp;simp only[J];have:=h (λa' w'=>(j≠l->S w')/\db P md ops Q S l fuel (listed.setIfInBounds j true) a' w') (λa' w' h1 h2=>⟨h1,h2⟩);split;rename_i hw;rw[if_pos hw]at this;exact .inl this;rename_i hw;rw[if_neg hw]at this;exact this
theorem co(hr:Region.ready md ops listed=[])(h:Q .normal a w):∀fuel,db P md ops Q S l fuel listed a w
 | 0=>⟨hr,h⟩
 | _+1=>⟨λ_=>h,by rw[hr];simp⟩
def cq{id:Nat}(l:Nat)(S:AT->Prop)(hm:P.follows .mixedOrders=true)
  (h:db P .any ops Q S l ops.size (Array.replicate ops.size false) a w.drew):(Code.region id ops true).wp P Q a w:=
 wp_region_any hm (oU _ _ _ _ h)
end
end Go.Proofs.YtjfmapphpijneaaGreatDoor
