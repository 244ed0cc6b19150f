import Derived.Test.YtjfmapphpijneaaGreatDoorS02
import Derived.Test.YtjfmapphpijneaaGreatDoorS03
namespace Go.Proofs.YtjfmapphpijneaaGreatDoor
open List
set_option linter.all false
set_option maxRecDepth 100000
set_option maxHeartbeats 0
variable[Inhabited Pick]
structure ES where
 g:List (List Int)
 l:List (Io×Int)
 i:List Int
 o:List Int
 u:Nat
 n:Int
 d:Int
abbrev ER : Type := Int ⊕ Unit ⊕ Int ⊕ Int
abbrev ER.val (v : Int) : ER := .inl v
abbrev ER.on : ER := .inr (.inl ())
abbrev ER.ret (v : Int) : ER := .inr (.inr (.inl v))
abbrev ER.out (c : Int) : ER := .inr (.inr (.inr c))
theorem ER.cs {motive : ER -> Prop} (val : ∀ (v : Int), motive (ER.val v)) (on : motive (ER.on)) (ret : ∀ (v : Int), motive (ER.ret v)) (out : ∀ (c : Int), motive (ER.out c)) (t_ : ER) : motive t_ :=
  match t_ with
  | .inl x0_ => val x0_
  | .inr (.inl ()) => on
  | .inr (.inr (.inl x0_)) => ret x0_
  | .inr (.inr (.inr x0_)) => out x0_
abbrev Tk : Type := (List Nd) ⊕ (St × (List St) × (List St)) ⊕ (List St) ⊕ (List St) ⊕ (Nat × (List Int))
abbrev Tk.e (e : List Nd) : Tk := .inl e
abbrev Tk.p (s : St) (a : List St) (b : List St) : Tk := .inr (.inl (s, a, b))
abbrev Tk.sq (ss : List St) : Tk := .inr (.inr (.inl ss))
abbrev Tk.bl (ss : List St) : Tk := .inr (.inr (.inr (.inl ss)))
abbrev Tk.c (f : Nat) (vs : List Int) : Tk := .inr (.inr (.inr (.inr (f, vs))))
theorem Tk.cs {motive : Tk -> Prop} (e : ∀ (e : List Nd), motive (Tk.e e)) (p : ∀ (s : St) (a : List St) (b : List St), motive (Tk.p s a b)) (sq : ∀ (ss : List St), motive (Tk.sq ss)) (bl : ∀ (ss : List St), motive (Tk.bl ss)) (c : ∀ (f : Nat) (vs : List Int), motive (Tk.c f vs)) (t_ : Tk) : motive t_ :=
  match t_ with
  | .inl x0_ => e x0_
  | .inr (.inl (x0_, x1_, x2_)) => p x0_ x1_ x2_
  | .inr (.inr (.inl x0_)) => sq x0_
  | .inr (.inr (.inr (.inl x0_))) => bl x0_
  | .inr (.inr (.inr (.inr (x0_, x1_)))) => c x0_ x1_
def ES.sp(s:ES):ES:= {s with u:=s.u-1}
def qN(l:List (Io×Int))(x:Io):Option Nat:=l.findIdx? (λy=>decide (y.1=x))
def i7(gs:List Gl)(x:Io):Option Nat:=gs.findIdx? (λy=>decide (y.nm=x))
def ES.rd(t:Tr)(s:ES)(x:Io):Int:=
 match qN s.l x with
 | some j=>(s.l.getD j (⟨#[]⟩,0)).2
 | none=>match i7 t.gl x with
  | some k=>(s.g.getD k []).getD 0 0
  | none=>0
def ES.wr(t:Tr)(s:ES)(x:Io)(v:Int):ES:=
 match qN s.l x with
 | some j=> {s with l:=s.l.set j (x,v)}
 | none=>match i7 t.gl x with
  | some k=> {s with g:=s.g.set k ((s.g.getD k []).set 0 v)}
  | none=>s
def ES.ws(t:Tr)(s:ES)(x:Io):List Int:=match i7 t.gl x with
 | some k=>s.g.getD k []
 | none=>[]
def ES.st(t:Tr)(s:ES)(x:Io)(j:Nat)(v:Int):ES:=match i7 t.gl x with
 | some k=> {s with g:=s.g.set k ((s.g.getD k []).set j v)}
 | none=>s
def gv(t:Tr)(n:Nd)(v:Nat->Int)(s:ES):ER×ES:=
 if n.kd=1 then(.val n.val,s)
 else if n.kd=2 then(.val (s.rd t n.nm),s)
 else if n.kd=3 then(if 0<=v 0/\v 0<(s.ws t n.nm).length then(.val ((s.ws t n.nm).getD (v 0).toNat 0),s)else(.out 3,s))
 else if n.kd=5 then(match s.i with|[]=>(.val 0,s)|x::r=>(.val x,{s with i:=r}))
 else if n.kd=6 then(.val (rT n.val (v 0)),s)
 else(.val (cJ n.val (v 0) (v 1)),s)
def e_(A:Nat)(v:Nat->Int):List Int:=(List.range A).map v
def eU(f:Fu)(vs:List Int):List (Io×Int):=f.pm.zip vs
def ER.back:ER->ER
 | .inr (.inl ()) =>.val 0
 | .inr (.inr (.inl v)) =>.val v
 | .inl v =>.val v
 | .inr (.inr (.inr c)) =>.out c
structure EvC (t:Tr)(fr:List Int)(P:Nat->Tk->ES->ER->ES->Prop):Prop where
 c_::
 dry:∀n e A(b:Nat->Nat)(st:Nat->ES)(v:Nat->Int),Cut e A b->(aq e).kd≠8->(aq e).kd≠9->(∀i,i<A->P n (.e (kid e b i)) (st i) (.val (v i)) (st (i+1)))->(st A).u=0->P (n+1) (.e e) (st 0) (.out 2) (st A)
 work:∀n e A(b:Nat->Nat)(st:Nat->ES)(v:Nat->Int),Cut e A b->(aq e).kd≠8->(aq e).kd≠9->(aq e).kd≠4->(∀i,i<A->P n (.e (kid e b i)) (st i) (.val (v i)) (st (i+1)))->0<(st A).u->P (n+1) (.e e) (st 0) (gv t (aq e) v (st A).sp).1 (gv t (aq e) v (st A).sp).2
 call:∀n e A(b:Nat->Nat)(st:Nat->ES)(v:Nat->Int)f r s',Cut e A b->(aq e).kd=4->a_ t.fc (aq e).nm=some f->(∀i,i<A->P n (.e (kid e b i)) (st i) (.val (v i)) (st (i+1)))->0<(st A).u->P n (.c f (e_ A v)) (st A).sp r s'->P (n+1) (.e e) (st 0) r s'
 left:∀n e(b:Nat->Nat)s c s',Cut e 2 b->(aq e).kd=8\/(aq e).kd=9->P n (.e (kid e b 0)) s (.out c) s'->P (n+1) (.e e) s (.out c) s'
 ldry:∀n e(b:Nat->Nat)s x(s':ES),Cut e 2 b->(aq e).kd=8\/(aq e).kd=9->P n (.e (kid e b 0)) s (.val x) s'->s'.u=0->P (n+1) (.e e) s (.out 2) s'
 lone:∀n e(b:Nat->Nat)s x(s':ES),Cut e 2 b->(aq e).kd=8/\x=0\/(aq e).kd=9/\x≠0->P n (.e (kid e b 0)) s (.val x) s'->0<s'.u->P (n+1) (.e e) s (.val (boolN (decide (x≠0)))) s'.sp
 rigt:∀n e(b:Nat->Nat)s x(s1:ES)c s',Cut e 2 b->(aq e).kd=8/\x≠0\/(aq e).kd=9/\x=0->P n (.e (kid e b 0)) s (.val x) s1->0<s1.u->P n (.e (kid e b 1)) s1.sp (.out c) s'->P (n+1) (.e e) s (.out c) s'
 rdry:∀n e(b:Nat->Nat)s x(s1:ES)y(s':ES),Cut e 2 b->(aq e).kd=8/\x≠0\/(aq e).kd=9/\x=0->P n (.e (kid e b 0)) s (.val x) s1->0<s1.u->P n (.e (kid e b 1)) s1.sp (.val y) s'->s'.u=0->P (n+1) (.e e) s (.out 2) s'
 both:∀n e(b:Nat->Nat)s x(s1:ES)y(s':ES),Cut e 2 b->(aq e).kd=8/\x≠0\/(aq e).kd=9/\x=0->P n (.e (kid e b 0)) s (.val x) s1->0<s1.u->P n (.e (kid e b 1)) s1.sp (.val y) s'->0<s'.u->P (n+1) (.e e) s (.val (boolN (decide (y≠0)))) s'.sp
 pbad:∀n(s:St)a b z c z',P n (.e s.e) z (.out c) z'->P (n+1) (.p s a b) z (.out c) z'
 decl:∀n(s:St)a b z v(z':ES),s.kd=1->P n (.e s.e) z (.val v) z'->P (n+1) (.p s a b) z .on {z' with l:=z'.l++[(s.nm,v)]}
 set:∀n(s:St)a b z v(z':ES),s.kd=2->P n (.e s.e) z (.val v) z'->P (n+1) (.p s a b) z .on (z'.wr t s.nm v)
 sbad:∀n(s:St)a b z v z1 c z',s.kd=3->P n (.e s.e) z (.val v) z1->P n (.e s.f) z1 (.out c) z'->P (n+1) (.p s a b) z (.out c) z'
 smis:∀n(s:St)a b z v z1 x(z':ES),s.kd=3->P n (.e s.e) z (.val v) z1->P n (.e s.f) z1 (.val x) z'->¬(0<=v/\v<(z'.ws t s.nm).length)->P (n+1) (.p s a b) z (.out 3) z'
 stor:∀n(s:St)a b z(v:Int)z1 x(z':ES),s.kd=3->P n (.e s.e) z (.val v) z1->P n (.e s.f) z1 (.val x) z'->0<=v/\v<(z'.ws t s.nm).length->P (n+1) (.p s a b) z .on (z'.st t s.nm v.toNat x)
 ifth:∀n(s:St)a b z v z1 r z',s.kd=4->P n (.e s.e) z (.val v) z1->v≠0->P n (.bl a) z1 r z'->P (n+1) (.p s a b) z r z'
 ifel:∀n(s:St)a b z z1 r z',s.kd=4->P n (.e s.e) z (.val 0) z1->P n (.bl b) z1 r z'->P (n+1) (.p s a b) z r z'
 whno:∀n(s:St)a b z z',s.kd=5->P n (.e s.e) z (.val 0) z'->P (n+1) (.p s a b) z .on z'
 whn:∀n(s:St)a b z v z1 r z',s.kd=5->P n (.e s.e) z (.val v) z1->v≠0->P n (.bl a) z1 r z'->r ≠ .on->P (n+1) (.p s a b) z r z'
 whdr:∀n(s:St)a b z v z1(z':ES),s.kd=5->P n (.e s.e) z (.val v) z1->v≠0->P n (.bl a) z1 .on z'->z'.u=0->P (n+1) (.p s a b) z (.out 2) z'
 whag:∀n(s:St)a b z v z1(z2:ES)r z',s.kd=5->P n (.e s.e) z (.val v) z1->v≠0->P n (.bl a) z1 .on z2->0<z2.u->P n (.p s a b) z2.sp r z'->P (n+1) (.p s a b) z r z'
 retn:∀n(s:St)a b z v z',s.kd=6->P n (.e s.e) z (.val v) z'->P (n+1) (.p s a b) z (.ret v) z'
 tell:∀n(s:St)a b z v(z':ES),s.kd=7->P n (.e s.e) z (.val v) z'->P (n+1) (.p s a b) z .on {z' with o:=z'.o++[v]}
 only:∀n(s:St)a b z v z',s.kd=8->P n (.e s.e) z (.val v) z'->P (n+1) (.p s a b) z .on z'
 nil:∀n z,P (n+1) (.sq []) z .on z
 sdry:∀n s q(z:ES),z.u=0->P (n+1) (.sq (s::q)) z (.out 2) z
 send:∀n(s:St)(q:List St)(z:ES)r z',0<z.u->P n (.p s (q.take s.th.toNat) ((q.drop s.th.toNat).take s.el.toNat)) z.sp r z'->r ≠ .on->P (n+1) (.sq (s::q)) z r z'
 next:∀n(s:St)(q:List St)(z:ES)z1 r z',0<z.u->P n (.p s (q.take s.th.toNat) ((q.drop s.th.toNat).take s.el.toNat)) z.sp .on z1->P n (.sq (q.drop (s.th.toNat+s.el.toNat))) z1 r z'->P (n+1) (.sq (s::q)) z r z'
 blk:∀n ss(z:ES)r(z':ES),P n (.sq ss) z r z'->P (n+1) (.bl ss) z r {z' with l:=z'.l.take z.l.length}
 run:∀n(f:Nat)vs(z:ES)(hf:f<t.fc.length)(r:ER)(z':ES),P n (.bl t.fc[f].bd) {z with l:=eU t.fc[f] vs,n:=z.n+fr.getD f 0,d:=max z.d (z.n+fr.getD f 0)} r z'->P (n+1) (.c f vs) z r.back {z' with l:=z.l,n:=z'.n-fr.getD f 0}
 kid:∀n e A(b:Nat->Nat)(st:Nat->ES)(v:Nat->Int)j c s',Cut e A b->(aq e).kd≠8->(aq e).kd≠9->j<A->(∀i,i<j->P n (.e (kid e b i)) (st i) (.val (v i)) (st (i+1)))->P n (.e (kid e b j)) (st j) (.out c) s'->P (n+1) (.e e) (st 0) (.out c) s'
structure Ev (t:Tr)(fr:List Int)(a0:Nat)(a1:Tk)(a2:ES)(a3:ER)(a4:ES):Prop where
 c_::
 out:∀P,EvC t fr P->P a0 a1 a2 a3 a4
theorem Ev.C{t:Tr}{fr:List Int}:EvC t fr (Ev t fr):=⟨λn e A b st v q0 q1 q2 q3 q4=>⟨λP h=>h.dry n e A b st v q0 q1 q2 (λi k0=>(q3 i k0).out P h) q4⟩,
 λn e A b st v q0 q1 q2 q3 q4 q5=>⟨λP h=>h.work n e A b st v q0 q1 q2 q3 (λi k0=>(q4 i k0).out P h) q5⟩,
 λn e A b st v f r s' q0 q1 q2 q3 q4 q5=>⟨λP h=>h.call n e A b st v f r s' q0 q1 q2 (λi k0=>(q3 i k0).out P h) q4 (q5.out P h)⟩,
 λn e b s c s' q0 q1 q2=>⟨λP h=>h.left n e b s c s' q0 q1 (q2.out P h)⟩,
 λn e b s x s' q0 q1 q2 q3=>⟨λP h=>h.ldry n e b s x s' q0 q1 (q2.out P h) q3⟩,
 λn e b s x s' q0 q1 q2 q3=>⟨λP h=>h.lone n e b s x s' q0 q1 (q2.out P h) q3⟩,
 λn e b s x s1 c s' q0 q1 q2 q3 q4=>⟨λP h=>h.rigt n e b s x s1 c s' q0 q1 (q2.out P h) q3 (q4.out P h)⟩,
 λn e b s x s1 y s' q0 q1 q2 q3 q4 q5=>⟨λP h=>h.rdry n e b s x s1 y s' q0 q1 (q2.out P h) q3 (q4.out P h) q5⟩,
 λn e b s x s1 y s' q0 q1 q2 q3 q4 q5=>⟨λP h=>h.both n e b s x s1 y s' q0 q1 (q2.out P h) q3 (q4.out P h) q5⟩,
 λn s a b z c z' q0=>⟨λP h=>h.pbad n s a b z c z' (q0.out P h)⟩,
 λn s a b z v z' q0 q1=>⟨λP h=>h.decl n s a b z v z' q0 (q1.out P h)⟩,
 λn s a b z v z' q0 q1=>⟨λP h=>h.set n s a b z v z' q0 (q1.out P h)⟩,
 λn s a b z v z1 c z' q0 q1 q2=>⟨λP h=>h.sbad n s a b z v z1 c z' q0 (q1.out P h) (q2.out P h)⟩,
 λn s a b z v z1 x z' q0 q1 q2 q3=>⟨λP h=>h.smis n s a b z v z1 x z' q0 (q1.out P h) (q2.out P h) q3⟩,
 λn s a b z v z1 x z' q0 q1 q2 q3=>⟨λP h=>h.stor n s a b z v z1 x z' q0 (q1.out P h) (q2.out P h) q3⟩,
 λn s a b z v z1 r z' q0 q1 q2 q3=>⟨λP h=>h.ifth n s a b z v z1 r z' q0 (q1.out P h) q2 (q3.out P h)⟩,
 λn s a b z z1 r z' q0 q1 q2=>⟨λP h=>h.ifel n s a b z z1 r z' q0 (q1.out P h) (q2.out P h)⟩,
 λn s a b z z' q0 q1=>⟨λP h=>h.whno n s a b z z' q0 (q1.out P h)⟩,
 λn s a b z v z1 r z' q0 q1 q2 q3 q4=>⟨λP h=>h.whn n s a b z v z1 r z' q0 (q1.out P h) q2 (q3.out P h) q4⟩,
 λn s a b z v z1 z' q0 q1 q2 q3 q4=>⟨λP h=>h.whdr n s a b z v z1 z' q0 (q1.out P h) q2 (q3.out P h) q4⟩,
 λn s a b z v z1 z2 r z' q0 q1 q2 q3 q4 q5=>⟨λP h=>h.whag n s a b z v z1 z2 r z' q0 (q1.out P h) q2 (q3.out P h) q4 (q5.out P h)⟩,
 λn s a b z v z' q0 q1=>⟨λP h=>h.retn n s a b z v z' q0 (q1.out P h)⟩,
 λn s a b z v z' q0 q1=>⟨λP h=>h.tell n s a b z v z' q0 (q1.out P h)⟩,
 λn s a b z v z' q0 q1=>⟨λP h=>h.only n s a b z v z' q0 (q1.out P h)⟩,
 λn z=>⟨λP h=>h.nil n z⟩,
 λn s q z q0=>⟨λP h=>h.sdry n s q z q0⟩,
 λn s q z r z' q0 q1 q2=>⟨λP h=>h.send n s q z r z' q0 (q1.out P h) q2⟩,
 λn s q z z1 r z' q0 q1 q2=>⟨λP h=>h.next n s q z z1 r z' q0 (q1.out P h) (q2.out P h)⟩,
 λn ss z r z' q0=>⟨λP h=>h.blk n ss z r z' (q0.out P h)⟩,
 λn f vs z hf r z' q0=>⟨λP h=>h.run n f vs z hf r z' (q0.out P h)⟩,
 λn e A b st v j c s' q0 q1 q2 q3 q4 q5=>⟨λP h=>h.kid n e A b st v j c s' q0 q1 q2 q3 (λi k0=>(q4 i k0).out P h) (q5.out P h)⟩⟩
abbrev Ev.dry {t fr}:=(Ev.C:EvC t fr _).dry
abbrev Ev.work {t fr}:=(Ev.C:EvC t fr _).work
abbrev Ev.call {t fr}:=(Ev.C:EvC t fr _).call
abbrev Ev.left {t fr}:=(Ev.C:EvC t fr _).left
abbrev Ev.ldry {t fr}:=(Ev.C:EvC t fr _).ldry
abbrev Ev.lone {t fr}:=(Ev.C:EvC t fr _).lone
abbrev Ev.rigt {t fr}:=(Ev.C:EvC t fr _).rigt
abbrev Ev.rdry {t fr}:=(Ev.C:EvC t fr _).rdry
abbrev Ev.both {t fr}:=(Ev.C:EvC t fr _).both
abbrev Ev.pbad {t fr}:=(Ev.C:EvC t fr _).pbad
abbrev Ev.decl {t fr}:=(Ev.C:EvC t fr _).decl
abbrev Ev.set {t fr}:=(Ev.C:EvC t fr _).set
abbrev Ev.sbad {t fr}:=(Ev.C:EvC t fr _).sbad
abbrev Ev.smis {t fr}:=(Ev.C:EvC t fr _).smis
abbrev Ev.stor {t fr}:=(Ev.C:EvC t fr _).stor
abbrev Ev.ifth {t fr}:=(Ev.C:EvC t fr _).ifth
abbrev Ev.ifel {t fr}:=(Ev.C:EvC t fr _).ifel
abbrev Ev.whno {t fr}:=(Ev.C:EvC t fr _).whno
abbrev Ev.whn {t fr}:=(Ev.C:EvC t fr _).whn
abbrev Ev.whdr {t fr}:=(Ev.C:EvC t fr _).whdr
abbrev Ev.whag {t fr}:=(Ev.C:EvC t fr _).whag
abbrev Ev.retn {t fr}:=(Ev.C:EvC t fr _).retn
abbrev Ev.tell {t fr}:=(Ev.C:EvC t fr _).tell
abbrev Ev.only {t fr}:=(Ev.C:EvC t fr _).only
abbrev Ev.nil {t fr}:=(Ev.C:EvC t fr _).nil
abbrev Ev.sdry {t fr}:=(Ev.C:EvC t fr _).sdry
abbrev Ev.send {t fr}:=(Ev.C:EvC t fr _).send
abbrev Ev.next {t fr}:=(Ev.C:EvC t fr _).next
abbrev Ev.blk {t fr}:=(Ev.C:EvC t fr _).blk
abbrev Ev.run {t fr}:=(Ev.C:EvC t fr _).run
abbrev Ev.kid {t fr}:=(Ev.C:EvC t fr _).kid
theorem Ev_i{t:Tr}{fr:List Int}{M:∀(a0:Nat)(a1:Tk)(a2:ES)(a3:ER)(a4:ES),Ev t fr a0 a1 a2 a3 a4->Prop}
 (dry:∀n e A(b:Nat->Nat)(st:Nat->ES)(v:Nat->Int),Cut e A b->(aq e).kd≠8->(aq e).kd≠9->∀q3:∀i,i<A->Ev t fr n (.e (kid e b i)) (st i) (.val (v i)) (st (i+1)),(st A).u=0->(∀ i (k0 : i<A),M n (.e (kid e b i)) (st i) (.val (v i)) (st (i+1)) (q3 i k0))->∀w,M (n+1) (.e e) (st 0) (.out 2) (st A) w)
 (work:∀n e A(b:Nat->Nat)(st:Nat->ES)(v:Nat->Int),Cut e A b->(aq e).kd≠8->(aq e).kd≠9->(aq e).kd≠4->∀q4:∀i,i<A->Ev t fr n (.e (kid e b i)) (st i) (.val (v i)) (st (i+1)),0<(st A).u->(∀ i (k0 : i<A),M n (.e (kid e b i)) (st i) (.val (v i)) (st (i+1)) (q4 i k0))->∀w,M (n+1) (.e e) (st 0) (gv t (aq e) v (st A).sp).1 (gv t (aq e) v (st A).sp).2 w)
 (call:∀n e A(b:Nat->Nat)(st:Nat->ES)(v:Nat->Int)f r s',Cut e A b->(aq e).kd=4->a_ t.fc (aq e).nm=some f->∀q3:∀i,i<A->Ev t fr n (.e (kid e b i)) (st i) (.val (v i)) (st (i+1)),0<(st A).u->∀q5:Ev t fr n (.c f (e_ A v)) (st A).sp r s',(∀ i (k0 : i<A),M n (.e (kid e b i)) (st i) (.val (v i)) (st (i+1)) (q3 i k0))->M n (.c f (e_ A v)) (st A).sp r s' q5->∀w,M (n+1) (.e e) (st 0) r s' w)
 (left:∀n e(b:Nat->Nat)s c s',Cut e 2 b->(aq e).kd=8\/(aq e).kd=9->∀q2:Ev t fr n (.e (kid e b 0)) s (.out c) s',M n (.e (kid e b 0)) s (.out c) s' q2->∀w,M (n+1) (.e e) s (.out c) s' w)
 (ldry:∀n e(b:Nat->Nat)s x(s':ES),Cut e 2 b->(aq e).kd=8\/(aq e).kd=9->∀q2:Ev t fr n (.e (kid e b 0)) s (.val x) s',s'.u=0->M n (.e (kid e b 0)) s (.val x) s' q2->∀w,M (n+1) (.e e) s (.out 2) s' w)
 (lone:∀n e(b:Nat->Nat)s x(s':ES),Cut e 2 b->(aq e).kd=8/\x=0\/(aq e).kd=9/\x≠0->∀q2:Ev t fr n (.e (kid e b 0)) s (.val x) s',0<s'.u->M n (.e (kid e b 0)) s (.val x) s' q2->∀w,M (n+1) (.e e) s (.val (boolN (decide (x≠0)))) s'.sp w)
 (rigt:∀n e(b:Nat->Nat)s x(s1:ES)c s',Cut e 2 b->(aq e).kd=8/\x≠0\/(aq e).kd=9/\x=0->∀q2:Ev t fr n (.e (kid e b 0)) s (.val x) s1,0<s1.u->∀q4:Ev t fr n (.e (kid e b 1)) s1.sp (.out c) s',M n (.e (kid e b 0)) s (.val x) s1 q2->M n (.e (kid e b 1)) s1.sp (.out c) s' q4->∀w,M (n+1) (.e e) s (.out c) s' w)
 (rdry:∀n e(b:Nat->Nat)s x(s1:ES)y(s':ES),Cut e 2 b->(aq e).kd=8/\x≠0\/(aq e).kd=9/\x=0->∀q2:Ev t fr n (.e (kid e b 0)) s (.val x) s1,0<s1.u->∀q4:Ev t fr n (.e (kid e b 1)) s1.sp (.val y) s',s'.u=0->M n (.e (kid e b 0)) s (.val x) s1 q2->M n (.e (kid e b 1)) s1.sp (.val y) s' q4->∀w,M (n+1) (.e e) s (.out 2) s' w)
 (both:∀n e(b:Nat->Nat)s x(s1:ES)y(s':ES),Cut e 2 b->(aq e).kd=8/\x≠0\/(aq e).kd=9/\x=0->∀q2:Ev t fr n (.e (kid e b 0)) s (.val x) s1,0<s1.u->∀q4:Ev t fr n (.e (kid e b 1)) s1.sp (.val y) s',0<s'.u->M n (.e (kid e b 0)) s (.val x) s1 q2->M n (.e (kid e b 1)) s1.sp (.val y) s' q4->∀w,M (n+1) (.e e) s (.val (boolN (decide (y≠0)))) s'.sp w)
 (pbad:∀n(s:St)a b z c z',∀q0:Ev t fr n (.e s.e) z (.out c) z',M n (.e s.e) z (.out c) z' q0->∀w,M (n+1) (.p s a b) z (.out c) z' w)
 (decl:∀n(s:St)a b z v(z':ES),s.kd=1->∀q1:Ev t fr n (.e s.e) z (.val v) z',M n (.e s.e) z (.val v) z' q1->∀w,M (n+1) (.p s a b) z .on {z' with l:=z'.l++[(s.nm,v)]} w)
 (set:∀n(s:St)a b z v(z':ES),s.kd=2->∀q1:Ev t fr n (.e s.e) z (.val v) z',M n (.e s.e) z (.val v) z' q1->∀w,M (n+1) (.p s a b) z .on (z'.wr t s.nm v) w)
 (sbad:∀n(s:St)a b z v z1 c z',s.kd=3->∀q1:Ev t fr n (.e s.e) z (.val v) z1,∀q2:Ev t fr n (.e s.f) z1 (.out c) z',M n (.e s.e) z (.val v) z1 q1->M n (.e s.f) z1 (.out c) z' q2->∀w,M (n+1) (.p s a b) z (.out c) z' w)
 (smis:∀n(s:St)a b z v z1 x(z':ES),s.kd=3->∀q1:Ev t fr n (.e s.e) z (.val v) z1,∀q2:Ev t fr n (.e s.f) z1 (.val x) z',¬(0<=v/\v<(z'.ws t s.nm).length)->M n (.e s.e) z (.val v) z1 q1->M n (.e s.f) z1 (.val x) z' q2->∀w,M (n+1) (.p s a b) z (.out 3) z' w)
 (stor:∀n(s:St)a b z(v:Int)z1 x(z':ES),s.kd=3->∀q1:Ev t fr n (.e s.e) z (.val v) z1,∀q2:Ev t fr n (.e s.f) z1 (.val x) z',0<=v/\v<(z'.ws t s.nm).length->M n (.e s.e) z (.val v) z1 q1->M n (.e s.f) z1 (.val x) z' q2->∀w,M (n+1) (.p s a b) z .on (z'.st t s.nm v.toNat x) w)
 (ifth:∀n(s:St)a b z v z1 r z',s.kd=4->∀q1:Ev t fr n (.e s.e) z (.val v) z1,v≠0->∀q3:Ev t fr n (.bl a) z1 r z',M n (.e s.e) z (.val v) z1 q1->M n (.bl a) z1 r z' q3->∀w,M (n+1) (.p s a b) z r z' w)
 (ifel:∀n(s:St)a b z z1 r z',s.kd=4->∀q1:Ev t fr n (.e s.e) z (.val 0) z1,∀q2:Ev t fr n (.bl b) z1 r z',M n (.e s.e) z (.val 0) z1 q1->M n (.bl b) z1 r z' q2->∀w,M (n+1) (.p s a b) z r z' w)
 (whno:∀n(s:St)a b z z',s.kd=5->∀q1:Ev t fr n (.e s.e) z (.val 0) z',M n (.e s.e) z (.val 0) z' q1->∀w,M (n+1) (.p s a b) z .on z' w)
 (whn:∀n(s:St)a b z v z1 r z',s.kd=5->∀q1:Ev t fr n (.e s.e) z (.val v) z1,v≠0->∀q3:Ev t fr n (.bl a) z1 r z',r ≠ .on->M n (.e s.e) z (.val v) z1 q1->M n (.bl a) z1 r z' q3->∀w,M (n+1) (.p s a b) z r z' w)
 (whdr:∀n(s:St)a b z v z1(z':ES),s.kd=5->∀q1:Ev t fr n (.e s.e) z (.val v) z1,v≠0->∀q3:Ev t fr n (.bl a) z1 .on z',z'.u=0->M n (.e s.e) z (.val v) z1 q1->M n (.bl a) z1 .on z' q3->∀w,M (n+1) (.p s a b) z (.out 2) z' w)
 (whag:∀n(s:St)a b z v z1(z2:ES)r z',s.kd=5->∀q1:Ev t fr n (.e s.e) z (.val v) z1,v≠0->∀q3:Ev t fr n (.bl a) z1 .on z2,0<z2.u->∀q5:Ev t fr n (.p s a b) z2.sp r z',M n (.e s.e) z (.val v) z1 q1->M n (.bl a) z1 .on z2 q3->M n (.p s a b) z2.sp r z' q5->∀w,M (n+1) (.p s a b) z r z' w)
 (retn:∀n(s:St)a b z v z',s.kd=6->∀q1:Ev t fr n (.e s.e) z (.val v) z',M n (.e s.e) z (.val v) z' q1->∀w,M (n+1) (.p s a b) z (.ret v) z' w)
 (tell:∀n(s:St)a b z v(z':ES),s.kd=7->∀q1:Ev t fr n (.e s.e) z (.val v) z',M n (.e s.e) z (.val v) z' q1->∀w,M (n+1) (.p s a b) z .on {z' with o:=z'.o++[v]} w)
 (only:∀n(s:St)a b z v z',s.kd=8->∀q1:Ev t fr n (.e s.e) z (.val v) z',M n (.e s.e) z (.val v) z' q1->∀w,M (n+1) (.p s a b) z .on z' w)
 (nil:∀n z,∀w,M (n+1) (.sq []) z .on z w)
 (sdry:∀n s q(z:ES),z.u=0->∀w,M (n+1) (.sq (s::q)) z (.out 2) z w)
 (send:∀n(s:St)(q:List St)(z:ES)r z',0<z.u->∀q1:Ev t fr n (.p s (q.take s.th.toNat) ((q.drop s.th.toNat).take s.el.toNat)) z.sp r z',r ≠ .on->M n (.p s (q.take s.th.toNat) ((q.drop s.th.toNat).take s.el.toNat)) z.sp r z' q1->∀w,M (n+1) (.sq (s::q)) z r z' w)
 (next:∀n(s:St)(q:List St)(z:ES)z1 r z',0<z.u->∀q1:Ev t fr n (.p s (q.take s.th.toNat) ((q.drop s.th.toNat).take s.el.toNat)) z.sp .on z1,∀q2:Ev t fr n (.sq (q.drop (s.th.toNat+s.el.toNat))) z1 r z',M n (.p s (q.take s.th.toNat) ((q.drop s.th.toNat).take s.el.toNat)) z.sp .on z1 q1->M n (.sq (q.drop (s.th.toNat+s.el.toNat))) z1 r z' q2->∀w,M (n+1) (.sq (s::q)) z r z' w)
 (blk:∀n ss(z:ES)r(z':ES),∀q0:Ev t fr n (.sq ss) z r z',M n (.sq ss) z r z' q0->∀w,M (n+1) (.bl ss) z r {z' with l:=z'.l.take z.l.length} w)
 (run:∀n(f:Nat)vs(z:ES)(hf:f<t.fc.length)(r:ER)(z':ES),∀q0:Ev t fr n (.bl t.fc[f].bd) {z with l:=eU t.fc[f] vs,n:=z.n+fr.getD f 0,d:=max z.d (z.n+fr.getD f 0)} r z',M n (.bl t.fc[f].bd) {z with l:=eU t.fc[f] vs,n:=z.n+fr.getD f 0,d:=max z.d (z.n+fr.getD f 0)} r z' q0->∀w,M (n+1) (.c f vs) z r.back {z' with l:=z.l,n:=z'.n-fr.getD f 0} w)
 (kid:∀n e A(b:Nat->Nat)(st:Nat->ES)(v:Nat->Int)j c s',Cut e A b->(aq e).kd≠8->(aq e).kd≠9->j<A->∀q4:∀i,i<j->Ev t fr n (.e (kid e b i)) (st i) (.val (v i)) (st (i+1)),∀q5:Ev t fr n (.e (kid e b j)) (st j) (.out c) s',(∀ i (k0 : i<j),M n (.e (kid e b i)) (st i) (.val (v i)) (st (i+1)) (q4 i k0))->M n (.e (kid e b j)) (st j) (.out c) s' q5->∀w,M (n+1) (.e e) (st 0) (.out c) s' w)
 {a0:Nat}{a1:Tk}{a2:ES}{a3:ER}{a4:ES}(w:Ev t fr a0 a1 a2 a3 a4):M a0 a1 a2 a3 a4 w:=
 (w.out (λa0 a1 a2 a3 a4=>∃z_,M a0 a1 a2 a3 a4 z_) ⟨λn e A b st v q0 q1 q2 q3 q4=>⟨.dry n e A b st v q0 q1 q2 (λi k0=>(q3 i k0).1) q4,dry n e A b st v q0 q1 q2 _ q4 (λi k0=>(q3 i k0).2) _⟩,
 λn e A b st v q0 q1 q2 q3 q4 q5=>⟨.work n e A b st v q0 q1 q2 q3 (λi k0=>(q4 i k0).1) q5,work n e A b st v q0 q1 q2 q3 _ q5 (λi k0=>(q4 i k0).2) _⟩,
 λn e A b st v f r s' q0 q1 q2 q3 q4 q5=>⟨.call n e A b st v f r s' q0 q1 q2 (λi k0=>(q3 i k0).1) q4 q5.1,call n e A b st v f r s' q0 q1 q2 _ q4 _ (λi k0=>(q3 i k0).2) q5.2 _⟩,
 λn e b s c s' q0 q1 q2=>⟨.left n e b s c s' q0 q1 q2.1,left n e b s c s' q0 q1 _ q2.2 _⟩,
 λn e b s x s' q0 q1 q2 q3=>⟨.ldry n e b s x s' q0 q1 q2.1 q3,ldry n e b s x s' q0 q1 _ q3 q2.2 _⟩,
 λn e b s x s' q0 q1 q2 q3=>⟨.lone n e b s x s' q0 q1 q2.1 q3,lone n e b s x s' q0 q1 _ q3 q2.2 _⟩,
 λn e b s x s1 c s' q0 q1 q2 q3 q4=>⟨.rigt n e b s x s1 c s' q0 q1 q2.1 q3 q4.1,rigt n e b s x s1 c s' q0 q1 _ q3 _ q2.2 q4.2 _⟩,
 λn e b s x s1 y s' q0 q1 q2 q3 q4 q5=>⟨.rdry n e b s x s1 y s' q0 q1 q2.1 q3 q4.1 q5,rdry n e b s x s1 y s' q0 q1 _ q3 _ q5 q2.2 q4.2 _⟩,
 λn e b s x s1 y s' q0 q1 q2 q3 q4 q5=>⟨.both n e b s x s1 y s' q0 q1 q2.1 q3 q4.1 q5,both n e b s x s1 y s' q0 q1 _ q3 _ q5 q2.2 q4.2 _⟩,
 λn s a b z c z' q0=>⟨.pbad n s a b z c z' q0.1,pbad n s a b z c z' _ q0.2 _⟩,
 λn s a b z v z' q0 q1=>⟨.decl n s a b z v z' q0 q1.1,decl n s a b z v z' q0 _ q1.2 _⟩,
 λn s a b z v z' q0 q1=>⟨.set n s a b z v z' q0 q1.1,set n s a b z v z' q0 _ q1.2 _⟩,
 λn s a b z v z1 c z' q0 q1 q2=>⟨.sbad n s a b z v z1 c z' q0 q1.1 q2.1,sbad n s a b z v z1 c z' q0 _ _ q1.2 q2.2 _⟩,
 λn s a b z v z1 x z' q0 q1 q2 q3=>⟨.smis n s a b z v z1 x z' q0 q1.1 q2.1 q3,smis n s a b z v z1 x z' q0 _ _ q3 q1.2 q2.2 _⟩,
 λn s a b z v z1 x z' q0 q1 q2 q3=>⟨.stor n s a b z v z1 x z' q0 q1.1 q2.1 q3,stor n s a b z v z1 x z' q0 _ _ q3 q1.2 q2.2 _⟩,
 λn s a b z v z1 r z' q0 q1 q2 q3=>⟨.ifth n s a b z v z1 r z' q0 q1.1 q2 q3.1,ifth n s a b z v z1 r z' q0 _ q2 _ q1.2 q3.2 _⟩,
 λn s a b z z1 r z' q0 q1 q2=>⟨.ifel n s a b z z1 r z' q0 q1.1 q2.1,ifel n s a b z z1 r z' q0 _ _ q1.2 q2.2 _⟩,
 λn s a b z z' q0 q1=>⟨.whno n s a b z z' q0 q1.1,whno n s a b z z' q0 _ q1.2 _⟩,
 λn s a b z v z1 r z' q0 q1 q2 q3 q4=>⟨.whn n s a b z v z1 r z' q0 q1.1 q2 q3.1 q4,whn n s a b z v z1 r z' q0 _ q2 _ q4 q1.2 q3.2 _⟩,
 λn s a b z v z1 z' q0 q1 q2 q3 q4=>⟨.whdr n s a b z v z1 z' q0 q1.1 q2 q3.1 q4,whdr n s a b z v z1 z' q0 _ q2 _ q4 q1.2 q3.2 _⟩,
 λn s a b z v z1 z2 r z' q0 q1 q2 q3 q4 q5=>⟨.whag n s a b z v z1 z2 r z' q0 q1.1 q2 q3.1 q4 q5.1,whag n s a b z v z1 z2 r z' q0 _ q2 _ q4 _ q1.2 q3.2 q5.2 _⟩,
 λn s a b z v z' q0 q1=>⟨.retn n s a b z v z' q0 q1.1,retn n s a b z v z' q0 _ q1.2 _⟩,
 λn s a b z v z' q0 q1=>⟨.tell n s a b z v z' q0 q1.1,tell n s a b z v z' q0 _ q1.2 _⟩,
 λn s a b z v z' q0 q1=>⟨.only n s a b z v z' q0 q1.1,only n s a b z v z' q0 _ q1.2 _⟩,
 λn z=>⟨.nil n z,nil n z _⟩,
 λn s q z q0=>⟨.sdry n s q z q0,sdry n s q z q0 _⟩,
 λn s q z r z' q0 q1 q2=>⟨.send n s q z r z' q0 q1.1 q2,send n s q z r z' q0 _ q2 q1.2 _⟩,
 λn s q z z1 r z' q0 q1 q2=>⟨.next n s q z z1 r z' q0 q1.1 q2.1,next n s q z z1 r z' q0 _ _ q1.2 q2.2 _⟩,
 λn ss z r z' q0=>⟨.blk n ss z r z' q0.1,blk n ss z r z' _ q0.2 _⟩,
 λn f vs z hf r z' q0=>⟨.run n f vs z hf r z' q0.1,run n f vs z hf r z' _ q0.2 _⟩,
 λn e A b st v j c s' q0 q1 q2 q3 q4 q5=>⟨.kid n e A b st v j c s' q0 q1 q2 q3 (λi k0=>(q4 i k0).1) q5.1,kid n e A b st v j c s' q0 q1 q2 q3 _ _ (λi k0=>(q4 i k0).2) q5.2 _⟩⟩).2
theorem cA_{p:Prop}(h:p:=by intro _ h;cases h):p:=h
theorem cB_{p:Prop}(h:p:=by simp only[ES.sp];omega):p:=h
theorem cD_{p:Prop}(h:p:=by simp only[Tk.sz];omega):p:=h
theorem cE_{p:Prop}(h:p:=by intro v hv;rcases hv with hv|hv <;> cases hv):p:=h
theorem Ev.up{t:Tr}{fr:List Int}{n:Nat}{k:Tk}{s:ES}{r:ER}{s':ES}(h:Ev t fr n k s r s'):Ev t fr (n+1) k s r s':=⟨λP c=>h.out (λn=>P (n+1)) ⟨λn=>c.dry (n+1),λn=>c.work (n+1),λn=>c.call (n+1),λn=>c.left (n+1),λn=>c.ldry (n+1),λn=>c.lone (n+1),λn=>c.rigt (n+1),λn=>c.rdry (n+1),λn=>c.both (n+1),λn=>c.pbad (n+1),λn=>c.decl (n+1),λn=>c.set (n+1),λn=>c.sbad (n+1),λn=>c.smis (n+1),λn=>c.stor (n+1),λn=>c.ifth (n+1),λn=>c.ifel (n+1),λn=>c.whno (n+1),λn=>c.whn (n+1),λn=>c.whdr (n+1),λn=>c.whag (n+1),λn=>c.retn (n+1),λn=>c.tell (n+1),λn=>c.only (n+1),λn=>c.nil (n+1),λn=>c.sdry (n+1),λn=>c.send (n+1),λn=>c.next (n+1),λn=>c.blk (n+1),λn=>c.run (n+1),λn=>c.kid (n+1)⟩⟩
theorem Ev.ups{t:Tr}{fr:List Int}{k:Tk}{s:ES}{r:ER}{s':ES}:∀ {n m:Nat},n<=m->Ev t fr n k s r s'->Ev t fr m k s r s'
 | n,m,hm,h=>by
  obtain⟨d,rfl⟩:∃d,m=n+d:=⟨m-n,o_⟩;clear hm;induction d with
  | zero=>exact h
  | succ d ih=>exact ih.up
section
variable{e:List Nd}
def EH(t:Tr)(e:List Nd):Prop:=∀n∈e,n.kd=4->∃f,a_ t.fc n.nm=some f
structure Gf (t:Tr) (s:St):Prop where
 k:1<=s.kd/\s.kd<=8
 e:oneB s.e=true/\EH t s.e
 f:s.kd=3->oneB s.f=true/\EH t s.f
def rZ(ss:List St):Nat:=(ss.map (λs=>s.e.length+s.f.length+10)).sum
def Tk.sz(t:Tr):Tk->Nat
 | .inl x =>x.length
 | .inr (.inl (z, y, x)) =>z.e.length+z.f.length+rZ y+rZ x+6
 | .inr (.inr (.inl ss)) =>rZ ss+1
 | .inr (.inr (.inr (.inl ss))) =>rZ ss+2
 | .inr (.inr (.inr (.inr (f, _)))) =>rZ (t.fc.getD f ⟨⟨#[]⟩,[],[]⟩).bd+3
def Tk.wf(t:Tr):Tk->Prop
 | .inl x =>oneB x=true/\EH t x
 | .inr (.inl (z, y, w)) =>Gf t z/\(∀x∈y,Gf t x)/\∀x∈w,Gf t x
 | .inr (.inr (.inl ss)) =>∀x∈ss,Gf t x
 | .inr (.inr (.inr (.inl ss))) =>∀x∈ss,Gf t x
 | .inr (.inr (.inr (.inr (f, _)))) =>f<t.fc.length
def B5(s:St)(q:List St):rZ (s::q)=s.e.length+s.f.length+10+rZ q:=by simp[rZ]
def wgt_append(a b:List St):rZ (a++b)=rZ a+rZ b:=by simp[rZ]
def zS(q:List St)(i j:Nat):rZ (q.take i)+rZ ((q.drop i).take j)+rZ (q.drop (i+j))=rZ q:=by
 have e:q=q.take i++((q.drop i).take j++q.drop (i+j)):=by rw[<-drop_drop,take_append_drop,take_append_drop]
 have h:rZ q=rZ (q.take i++((q.drop i).take j++q.drop (i+j))):=congrArg rZ e;rw[h,wgt_append,wgt_append];omega
def sb{b:Nat->Nat}{i:Nat}{n:Nd}(h:n∈kid e b i):n∈e:=by unfold kid at h;first|exact mem_of_mem_take (J6 h)|exact J6 (mem_of_mem_take h)
def jS(h:0<e.length):aq e∈e:=by rw[iE e h];exact g_ _
def wL(t:Tr)(n:Nd)(v:Nat->Int)(s:ES):(gv t n v s).2.u=s.u:=by
 unfold gv
 (repeat' split) <;> rfl
def GG(t:Tr)(s:ES)(x:Io)(v:Int):(s.wr t x v).u=s.u:=by
 unfold ES.wr
 (repeat' split) <;> rfl
def GH(t:Tr)(s:ES)(x:Io)(j:Nat)(v:Int):(s.st t x j v).u=s.u:=by unfold ES.st;split <;> rfl
theorem EI(t:Tr)(fr:List Int)(hw:∀f∈t.fc,∀s∈f.bd,Gf t s):∀(u m:Nat) (k:Tk) (s:ES),s.u=u->k.sz t<=m->k.wf t->(∃n r s',Ev t fr n k s r s'/\s'.u<=s.u/\(∀e,k=.e e->(∃v,r=.val v)\/∃c,r=.out c)):=by
 intro u;induction u using Nat.strongRecOn with
 | ind u ihu=>
  intro m;induction m with
  | zero=>
   intro k s _ hm Jb;cases k using Tk.cs with
   | e e=>have:=kK Jb.1;simp[Tk.sz]at hm;simp[hm]at this
   | p s a b=>simp[Tk.sz]at hm
   | sq ss=>simp[Tk.sz]at hm
   | bl ss=>simp[Tk.sz]at hm
   | c f vs=>simp[Tk.sz]at hm
  | succ m ihm=>
   intro k s hu hm Jb;have Ja:∀k' s',s'.u<=u->k'.wf t->(k'.sz t<=m\/s'.u<u)->∃n r Jd,Ev t fr n k' s' r Jd/\Jd.u<=s'.u/\(∀e,k'=.e e->(∃v,r=.val v)\/∃c,r=.out c):=λk' s' h1 h2 h3=>by by_cases hlt:s'.u<u;exact ihu s'.u hlt (k'.sz t) k' s' rfl n_ h2;exact ihm k' s' o_ o_ h2
   cases k using Tk.cs with
   | e e=>
    obtain⟨h1,Jg⟩:=Jb;have⟨A,b,Z,hk⟩:=jz h1;simp only[Tk.sz]at hm;have Jc:∀i,i<A->∀s',s'.u<=u->∃n r Jd,Ev t fr n (.e (kid e b i)) s' r Jd/\Jd.u<=s'.u/\((∃v,r=.val v)\/∃c,r=.out c):=λi hi s' hs'=>by have⟨n,r,Jd,h2,h3,h4⟩:=Ja (.e (kid e b i)) s' hs' ⟨hk i hi,λn hn=>Jg n (sb hn)⟩ (.inl (by have:=Z.kid_lt i hi;simp only[Tk.sz];omega));exact⟨n,r,Jd,h2,h3,h4 _ rfl⟩
    by_cases hao:(aq e).kd=8\/(aq e).kd=9;have Jj:A=2:=by have:=Z.ar;rcases hao with h|h <;> simp[arity,h]at this <;> omega
    subst Jj;obtain⟨I,r1,s1,h2,h3,⟨x,rfl⟩|⟨c,rfl⟩⟩:=Jc 0 o_ s o_;by_cases hz:s1.u=0;exact⟨_,_,_,.ldry I e b s x s1 Z hao h2 hz,h3,λ_ _=>.inr ⟨_,rfl⟩⟩;by_cases hd:(aq e).kd=8/\x=0\/(aq e).kd=9/\x≠0;exact⟨_,_,_,.lone I e b s x s1 Z hd h2 o_,cB_,λ_ _=>.inl ⟨_,rfl⟩⟩;have Jh:(aq e).kd=8/\x≠0\/(aq e).kd=9/\x=0:=by by_cases hx:x=0 <;> rcases hao with h|h <;> simp[hx,h]at hd⊢
    obtain⟨J,U,s2,h4,h5,⟨y,rfl⟩|⟨c,rfl⟩⟩:=Jc 1 o_ s1.sp cB_;simp only[ES.sp]at h5;by_cases hz2:s2.u=0;exact⟨_,_,_,.rdry (max I J) e b s x s1 y s2 Z Jh (h2.ups o_) o_ (h4.ups o_) hz2,o_,λ_ _=>.inr ⟨_,rfl⟩⟩;exact⟨_,_,_,.both (max I J) e b s x s1 y s2 Z Jh (h2.ups o_) o_ (h4.ups o_) o_,cB_,λ_ _=>.inl ⟨_,rfl⟩⟩;simp only[ES.sp]at h5;exact⟨_,_,_,.rigt (max I J) e b s x s1 c s2 Z Jh (h2.ups o_) o_ (h4.ups o_),o_,λ_ _=>.inr ⟨_,rfl⟩⟩;exact⟨_,_,_,.left I e b s c s1 Z hao h2,h3,λ_ _=>.inr ⟨_,rfl⟩⟩;have h8:(aq e).kd≠8:=λh=>hao (.inl h);have h9:(aq e).kd≠9:=λh=>hao (.inr h);have Jf:∀j,j<=A->(∃(n:Nat) (st:Nat->ES) (v:Nat->Int),st 0=s/\(st j).u<=s.u/\∀i,i<j->Ev t fr n (.e (kid e b i)) (st i) (.val (v i)) (st (i+1)))\/(∃n c s',Ev t fr n (.e e) s (.out c) s'/\s'.u<=s.u):=by
     intro j;induction j with
     | zero=>exact λ_=>.inl ⟨0,λ_=>s,λ_=>0,rfl,n_,λi hi=>absurd hi o_⟩
     | succ j ihj=>intro hj;rcases ihj o_ with⟨n,st,v,h0,Ji,Je⟩|h;subst h0;obtain⟨J,U,s2,h4,h5,⟨y,rfl⟩|⟨c,rfl⟩⟩:=Jc j o_ (st j) o_;refine .inl ⟨max n J,λi=>if i<=j then st i else s2,λi=>if i<j then v i else y,i_,by show(if j+1<=j then st (j+1)else s2).u<=_;rw[if_neg (show ¬j+1<=j by omega)];omega,λi hi=>?_⟩;by_cases hij:i<j;have e1:i<=j:=o_;have e2:i+1<=j:=o_;simp only[if_pos hij,if_pos e1,if_pos e2];exact(Je i hij).ups o_;have e0:i=j:=o_;subst e0;simp only[if_neg (Nat.lt_irrefl i),if_pos (Nat.le_refl i),if_neg (show ¬i+1<=i by omega)];exact h4.ups o_;refine .inr ⟨_,c,s2,Ev.kid (max n J) e A b st v j c s2 Z h8 h9 o_ (λi hi=>(Je i hi).ups o_) (h4.ups o_),o_⟩;exact .inr h
    rcases Jf A n_ with⟨n,st,v,h0,Ji,Je⟩|⟨n,c,s',h2,h3⟩;subst h0;by_cases hz:(st A).u=0;exact⟨_,_,_,Ev.dry n e A b st v Z h8 h9 Je hz,Ji,λ_ _=>.inr ⟨_,rfl⟩⟩;by_cases h4:(aq e).kd=4
    have⟨f,hf⟩:=Jg _ (jS Z.len) h4;obtain⟨J,U,s2,h5,h6,-⟩:=Ja (.c f (e_ A v)) (st A).sp cB_ (dE hf) (.inr cB_);simp only[ES.sp]at h6;have hr:(∃v,U=.val v)\/∃c,U=.out c:=by
     cases h5 using Ev_i with
     | run n f vs z hf r z' h1=>cases r using ER.cs <;> simp[ER.back]
    exact⟨_,_,_,Ev.call (max n J) e A b st v f U s2 Z h4 hf (λi hi=>(Je i hi).ups o_) o_ (h5.ups o_),o_,λ_ _=>hr⟩;refine⟨_,_,_,Ev.work n e A b st v Z h8 h9 h4 Je o_,by rw[wL];simp only[ES.sp];omega,λ_ _=>?_⟩;unfold gv
    (repeat' split) <;> simp
    exact⟨n,_,s',h2,h3,λ_ _=>.inr ⟨_,rfl⟩⟩
   | p x a b=>
    obtain⟨hx,ha,hb⟩:=Jb;simp only[Tk.sz]at hm;have⟨I,r1,s1,h2,h3,h4⟩:=Ja (.e x.e) s o_ hx.e (.inl cD_);rcases h4 _ rfl with⟨v,rfl⟩|⟨c,rfl⟩;have hk:=hx.k;have hkk:x.kd=1\/x.kd=2\/x.kd=3\/x.kd=4\/x.kd=5\/x.kd=6\/x.kd=7\/x.kd=8:=o_;rcases hkk with hkk|hkk|hkk|hkk|hkk|hkk|hkk|hkk;exact⟨_,_,_,.decl I x a b s v s1 hkk h2,h3,cA_⟩;exact⟨_,_,_,.set I x a b s v s1 hkk h2,by rw[GG];exact h3,cA_⟩
    have⟨J,U,s2,h5,h6,h7⟩:=Ja (.e x.f) s1 o_ (hx.f hkk) (.inl cD_);rcases h7 _ rfl with⟨y,rfl⟩|⟨c,rfl⟩
    by_cases hin:0<=v/\v<(s2.ws t x.nm).length;exact⟨_,_,_,.stor (max I J) x a b s v s1 y s2 hkk (h2.ups o_) (h5.ups o_) hin,by rw[GH];omega,cA_⟩;exact⟨_,_,_,.smis (max I J) x a b s v s1 y s2 hkk (h2.ups o_) (h5.ups o_) hin,o_,cA_⟩;exact⟨_,_,_,.sbad (max I J) x a b s v s1 c s2 hkk (h2.ups o_) (h5.ups o_),o_,cA_⟩;by_cases hv:v=0;subst hv;obtain⟨J,U,s2,h5,h6,-⟩:=Ja (.bl b) s1 o_ hb (.inl cD_);exact⟨_,_,_,.ifel (max I J) x a b s s1 U s2 hkk (h2.ups o_) (h5.ups o_),o_,cA_⟩;obtain⟨J,U,s2,h5,h6,-⟩:=Ja (.bl a) s1 o_ ha (.inl cD_);exact⟨_,_,_,.ifth (max I J) x a b s v s1 U s2 hkk (h2.ups o_) hv (h5.ups o_),o_,cA_⟩;by_cases hv:v=0;subst hv;exact⟨_,_,_,.whno I x a b s s1 hkk h2,h3,cA_⟩;obtain⟨J,U,s2,h5,h6,-⟩:=Ja (.bl a) s1 o_ ha (.inl cD_);by_cases hon:U=.on;subst hon;by_cases hz:s2.u=0;exact⟨_,_,_,.whdr (max I J) x a b s v s1 s2 hkk (h2.ups o_) hv (h5.ups o_) hz,o_,cA_⟩;obtain⟨n3,r3,s3,h7,h8,-⟩:=Ja (.p x a b) s2.sp cB_ ⟨hx,ha,hb⟩ (.inr cB_);simp only[ES.sp]at h8;exact⟨_,_,_,.whag (max I (max J n3)) x a b s v s1 s2 r3 s3 hkk (h2.ups o_) hv (h5.ups o_) o_ (h7.ups o_),o_,cA_⟩;exact⟨_,_,_,.whn (max I J) x a b s v s1 U s2 hkk (h2.ups o_) hv (h5.ups o_) hon,o_,cA_⟩;exact⟨_,_,_,.retn I x a b s v s1 hkk h2,h3,cA_⟩;exact⟨_,_,_,.tell I x a b s v s1 hkk h2,h3,cA_⟩;exact⟨_,_,_,.only I x a b s v s1 hkk h2,h3,cA_⟩;exact⟨_,_,_,.pbad I x a b s c s1 h2,h3,cA_⟩
   | sq ss=>
    cases ss with
    | nil=>exact⟨1,_,_,.nil 0 s,n_,cA_⟩
    | cons x q=>
     simp only[Tk.sz,B5]at hm;have hp:=zS q x.th.toNat x.el.toNat;have hq:∀y∈q,Gf t y:=λy hy=>Jb y (m_ _ hy);by_cases hz:s.u=0
     exact⟨_,_,_,.sdry 0 x q s hz,n_,cA_⟩;obtain⟨I,r1,s1,h2,h3,-⟩:=Ja (.p x (q.take x.th.toNat) ((q.drop x.th.toNat).take x.el.toNat)) s.sp cB_ ⟨Jb x i_,λy hy=>hq y (mem_of_mem_take hy),λy hy=>hq y (J6 (mem_of_mem_take hy))⟩ (.inr cB_);simp only[ES.sp]at h3;by_cases hon:r1=.on;subst hon;obtain⟨J,U,s2,h5,h6,-⟩:=Ja (.sq (q.drop (x.th.toNat+x.el.toNat))) s1 o_ (λy hy=>hq y (J6 hy)) (.inl cD_);exact⟨_,_,_,.next (max I J) x q s s1 U s2 o_ (h2.ups o_) (h5.ups o_),o_,cA_⟩;exact⟨_,_,_,.send I x q s r1 s1 o_ h2 hon,o_,cA_⟩
   | bl ss=>simp only[Tk.sz]at hm;obtain⟨I,r1,s1,h2,h3,-⟩:=Ja (.sq ss) s o_ Jb (.inl cD_);exact⟨_,_,_,.blk I ss s r1 s1 h2,h3,cA_⟩
   | c f vs=>have hf:f<t.fc.length:=Jb;have eg:t.fc.getD f ⟨⟨#[]⟩,[],[]⟩=t.fc[f]:=(by simp[List.getD,hf]);simp only[Tk.sz,eg]at hm;obtain⟨I,r1,s1,h2,h3,-⟩:=Ja (.bl t.fc[f].bd) {s with l:=eU t.fc[f] vs,n:=s.n+fr.getD f 0,d:=max s.d (s.n+fr.getD f 0)} (by simp only;omega) (hw _ (g_ hf)) (.inl cD_);exact⟨_,_,_,.run I f vs s hf r1 s1 h2,h3,cA_⟩
end
structure OkW (s:ES):Prop where
 g:∀ws∈s.g,∀x∈ws,d7 x
 l:∀x∈s.l,d7 x.2
 i:∀x∈s.i,d7 x
def B6(a:Int):d7 (Ge a):=by unfold d7 Ge RowKit.wrap32;omega
def wM:d7 0:=by unfold d7;omega
def oK(b:Bool):d7 (boolN b):=by unfold d7 boolN;cases b <;> simp
def GI(h a:Int):d7 (rT h a):=by unfold rT;split;exact B6 _;split;exact oK _;exact B6 _
def yw{l:List Int}(h:∀x∈l,d7 x)(j:Nat):d7 (l.getD j 0):=by unfold List.getD;by_cases hj:j<l.length;rw[J4 hj];exact h _ (g_ hj);rw[getElem?_eq_none o_];exact wM
def kT{g:List (List Int)}(h:∀ws∈g,∀x∈ws,d7 x)(k:Nat):∀x∈g.getD k [],d7 x:=by unfold List.getD;by_cases hk:k<g.length;rw[J4 hk];exact h _ (g_ hk);rw[getElem?_eq_none o_];intro x I;cases I
def II{t:Tr}{s:ES}(h:OkW s)(x:Io):d7 (s.rd t x):=by unfold ES.rd;split;rename_i j _;unfold List.getD;by_cases hj:j<s.l.length;rw[J4 hj];exact h.l _ (g_ hj);rw[getElem?_eq_none o_];exact wM;split;exact yw (kT h.g _) 0;exact wM
def IJ{t:Tr}{s:ES}(h:OkW s)(x:Io):∀y∈s.ws t x,d7 y:=by unfold ES.ws;split;exact kT h.g _;intro y I;cases I
def wN{l:List Int}(h:∀x∈l,d7 x)(j:Nat){v:Int}(hv:d7 v):∀x∈l.set j v,d7 x:=λx hx=>by rcases mem_or_eq_of_mem_set hx with hx|rfl;exact h x hx;exact hv
def se{g:List (List Int)}(h:∀ws∈g,∀x∈ws,d7 x)(k:Nat){l:List Int}(hl:∀x∈l,d7 x):∀ws∈g.set k l,∀x∈ws,d7 x:=λws hw=>by rcases mem_or_eq_of_mem_set hw with hw|rfl;exact h ws hw;exact hl
def lens_set{g:List (List Int)}{k j:Nat}{v:Int}:(g.set k ((g.getD k []).set j v)).map List.length=g.map List.length:=by
 apply ext_getElem
 simp
 intro i I h2;simp only[getElem_map,getElem_set];split;rename_i e;subst e;have h:k<g.length:=(IN h2);simp[List.getD,h];rfl
def oL{t:Tr}{s:ES}{x:Io}{v:Int}:(s.wr t x v).g.map List.length=s.g.map List.length/\(s.wr t x v).n=s.n/\(s.wr t x v).l.map Prod.fst=s.l.map Prod.fst/\(s.wr t x v).o=s.o/\(s.wr t x v).i=s.i/\(s.wr t x v).d=s.d:=by
 unfold ES.wr;split;rename_i j hj;refine⟨rfl,rfl,?_,rfl,rfl,rfl⟩;apply ext_getElem
 simp
 intro i J h2;simp only[getElem_map,getElem_set];split;rename_i e;subst e;have Ja:j<s.l.length:=(IN h2);obtain⟨h,I,-⟩:=findIdx?_eq_some_iff_getElem.1 hj;simp only[J2]at I;exact I.symm;rfl;split;exact⟨lens_set,rfl,rfl,rfl,rfl,rfl⟩;exact⟨rfl,rfl,rfl,rfl,rfl,rfl⟩
def IK{t:Tr}{s:ES}(h:OkW s)(x:Io){v:Int}(J:d7 v):OkW (s.wr t x v):=by unfold ES.wr;split;refine⟨h.g,λy I=>?_,h.i⟩;rcases mem_or_eq_of_mem_set I with I|rfl;exact h.l y I;exact J;split;exact⟨se h.g _ (wN (kT h.g _) _ J),h.l,h.i⟩;exact h
def ue{t:Tr}{s:ES}{x:Io}{j:Nat}{v:Int}:(s.st t x j v).g.map List.length=s.g.map List.length/\(s.st t x j v).n=s.n/\(s.st t x j v).l=s.l/\(s.st t x j v).o=s.o/\(s.st t x j v).i=s.i/\(s.st t x j v).d=s.d:=by unfold ES.st;split;exact⟨lens_set,rfl,rfl,rfl,rfl,rfl⟩;exact⟨rfl,rfl,rfl,rfl,rfl,rfl⟩
def IL{t:Tr}{s:ES}(h:OkW s)(x:Io)(j:Nat){v:Int}(I:d7 v):OkW (s.st t x j v):=by unfold ES.st;split;exact⟨se h.g _ (wN (kT h.g _) _ I),h.l,h.i⟩;exact h
def yz(t:Tr)(n:Nd)(v:Nat->Int)(s:ES):(gv t n v s).2.g=s.g/\(gv t n v s).2.n=s.n/\(gv t n v s).2.l=s.l/\(gv t n v s).2.o=s.o/\(gv t n v s).2.d=s.d:=by
 unfold gv
 (repeat' split) <;> exact⟨rfl,rfl,rfl,rfl,rfl⟩
def EJ{t:Tr}{n:Nd}{v:Nat->Int}{s:ES}(h:OkW s)(I:n.kd=1->d7 n.val):OkW (gv t n v s).2/\∀x,(gv t n v s).1=.val x->d7 x:=by unfold gv;split;rename_i hk;exact⟨h,λx hx=>by cases hx;exact I hk⟩;split;exact⟨h,λx hx=>by cases hx;exact II h _⟩;split;split;exact⟨h,λx hx=>by cases hx;exact yw (IJ h _) _⟩;exact⟨h,λx hx=>by cases hx⟩;split;split;exact⟨h,λx hx=>by cases hx;exact wM⟩;rename_i y r hi;exact⟨⟨h.g,h.l,λz hz=>h.i z (by rw[hi];exact m_ _ hz)⟩,λx hx=>by cases hx;exact h.i _ (by rw[hi];exact mem_cons_self ..)⟩;split;exact⟨h,λx hx=>by cases hx;exact GI _ _⟩;exact⟨h,λx hx=>by cases hx;exact ud _ _ _⟩
def Sh(k:Tk)(s s':ES):Prop:=s'.g.map List.length=s.g.map List.length/\s'.n=s.n/\s'.u<=s.u /\
 (match k with
 | .inl _ =>s'.l=s.l
 | .inr (.inr (.inr (.inr (_, _)))) =>s'.l=s.l
 | .inr (.inr (.inr (.inl _))) =>s'.l.map Prod.fst=s.l.map Prod.fst
 | _=>∃m,s'.l.map Prod.fst=s.l.map Prod.fst++m)
def Tk.ok:Tk->Prop
 | .inr (.inr (.inr (.inr (_, vs)))) =>∀x∈vs,d7 x
 | _=>True
theorem IM{t:Tr}{fr:List Int}{n:Nat}{e:List Nd}{b:Nat->Nat}{st:Nat->ES}{v:Nat->Int}{j:Nat}(h:∀i,i<j->OkW (st i)->OkW (st (i+1))/\d7 (v i)/\Sh (.e (kid e b i)) (st i) (st (i+1)))(h0:OkW (st 0)):∀i,i<=j->OkW (st i)/\Sh (.e []) (st 0) (st i)/\∀k,k<i->d7 (v k):=by
 intro i;induction i with
 | zero=>exact λ_=>⟨h0,⟨rfl,rfl,n_,rfl⟩,λk hk=>absurd hk o_⟩
 | succ i ih=>intro hi;have⟨Z,⟨a2,a3,I,a5⟩,a6⟩:=ih o_;have⟨J,b2,⟨b3,b4,U,b6⟩⟩:=h i o_ Z;refine⟨J,⟨b3.trans a2,b4.trans a3,t_ U I,b6.trans a5⟩,λk hk=>?_⟩;by_cases e:k=i;subst e;exact b2;exact a6 k o_
theorem Ev.inv{t:Tr}{fr:List Int}{n:Nat}{k:Tk}{s:ES}{r:ER}{s':ES}(h:Ev t fr n k s r s'):OkW s->k.ok->OkW s'/\(∀v,r=.val v\/r=.ret v->d7 v)/\Sh k s s':=by
 have sp:∀ {s:ES},OkW s->OkW s.sp:=λh=>⟨h.g,h.l,h.i⟩;have Ja:∀(s:ES),s.sp.u<=s.u:=λs=>by simp only[ES.sp];omega
 induction h using Ev_i with
 | kid n e A b st v j c s' h1 h2 h3 h4 h5 h6 i5 i6=>intro U _;obtain⟨a1,a2,a3⟩:=IM (t:=t) (fr:=fr) (n:=n) (e:=e) (b:=b) (λi hi h0=>by obtain⟨J,Z,I⟩:=i5 i hi h0 trivial;exact⟨J,Z _ (.inl rfl),I⟩) U j n_;obtain⟨J,Z,I⟩:=i6 a1 trivial;exact⟨J,cE_,⟨I.1.trans a2.1,I.2.1.trans a2.2.1,t_ I.2.2.1 a2.2.2.1,I.2.2.2.trans a2.2.2.2⟩⟩
 | dry n e A b st v h1 h2 h3 h4 h5 i4=>intro U _;obtain⟨a1,a2,a3⟩:=IM (t:=t) (fr:=fr) (n:=n) (e:=e) (b:=b) (λi hi h0=>by obtain⟨J,Z,I⟩:=i4 i hi h0 trivial;exact⟨J,Z _ (.inl rfl),I⟩) U A n_;exact⟨a1,cE_,a2⟩
 | work n e A b st v h1 h2 h3 h4 h5 h6 i5=>
  intro U _;obtain⟨a1,a2,a3⟩:=IM (t:=t) (fr:=fr) (n:=n) (e:=e) (b:=b) (λi hi h0=>by obtain⟨J,Z,I⟩:=i5 i hi h0 trivial;exact⟨J,Z _ (.inl rfl),I⟩) U A n_;have hg:=h1.root_good;obtain⟨w1,w2⟩:=EJ (t:=t) (n:=aq e) (v:=v) (sp a1) (λhk=>by unfold aJ at hg;unfold d7;simp[hk]at hg;omega);obtain⟨y1,y2,y3,y4,y5⟩:=yz t (aq e) v (st A).sp;refine⟨w1,λx hx=>?_,⟨by rw[y1];exact a2.1,by rw[y2];exact a2.2.1,by rw[wL];exact t_ (Ja _) a2.2.2.1,by show(gv t (aq e) v (st A).sp).2.l=_;rw[y3];exact a2.2.2.2⟩⟩;rcases hx with hx|hx;exact w2 x hx;exfalso
  revert hx
  unfold gv
  (repeat' split) <;> simp
 | call n e A b st v f r s' h1 h2 h3 h4 h5 h6 i4 i6=>intro U _;obtain⟨a1,a2,a3⟩:=IM (t:=t) (fr:=fr) (n:=n) (e:=e) (b:=b) (λi hi h0=>by obtain⟨J,Z,I⟩:=i4 i hi h0 trivial;exact⟨J,Z _ (.inl rfl),I⟩) U A n_;obtain⟨J,Z,I⟩:=i6 (sp a1) (λx hx=>by obtain⟨k,hk,rfl⟩:=mem_map.1 hx;exact a3 k (mem_range.1 hk));exact⟨J,Z,⟨I.1.trans a2.1,I.2.1.trans a2.2.1,t_ I.2.2.1 (t_ (Ja _) a2.2.2.1),I.2.2.2.trans a2.2.2.2⟩⟩
 | lone n e b s x s' h1 h2 h3 h4 i3=>intro U _;obtain⟨J,Z,I⟩:=i3 U trivial;exact⟨sp J,(λv hv=>by rcases hv with hv|hv <;> cases hv;exact oK _),⟨I.1,I.2.1,t_ (Ja _) I.2.2.1,I.2.2.2⟩⟩
 | both n e b s x s1 y s' h1 h2 h3 h4 h5 h6 i3 i5=>intro U _;obtain⟨J,Z,I⟩:=i3 U trivial;obtain⟨y1,y2,y3⟩:=i5 (sp J) trivial;exact⟨sp y1,(λv hv=>by rcases hv with hv|hv <;> cases hv;exact oK _),⟨y3.1.trans I.1,y3.2.1.trans I.2.1,t_ (Ja _) (t_ y3.2.2.1 (t_ (Ja _) I.2.2.1)),y3.2.2.2.trans I.2.2.2⟩⟩
 | decl n s a b z v z' h1 h2 i2=>intro U _;obtain⟨J,Z,⟨I,x4,x5,x6⟩⟩:=i2 U trivial;refine⟨⟨J.g,λy hy=>?_,J.i⟩,cE_,⟨I,x4,x5,⟨[s.nm],by simp[x6]⟩⟩⟩;rcases J5.1 hy with hy|hy;exact J.l y hy;simp only[J7]at hy;subst hy;exact Z v (.inl rfl)
 | set n s a b z v z' h1 h2 i2=>intro U _;obtain⟨J,Z,⟨I,x4,x5,x6⟩⟩:=i2 U trivial;obtain⟨y1,y2,y3,-⟩:= @oL t z' s.nm v;exact⟨IK J _ (Z v (.inl rfl)),cE_,⟨y1.trans I,y2.trans x4,by rw[GG];exact x5,⟨[],by rw[y3,x6];simp⟩⟩⟩
 | stor n s a b z v z1 x z' h1 h2 h3 h4 i2 i3=>intro U _;obtain⟨J,Z,⟨I,x4,x5,x6⟩⟩:=i2 U trivial;obtain⟨y1,y2,⟨y3,y4,y5,y6⟩⟩:=i3 J trivial;obtain⟨w1,w2,w3,-⟩:= @ue t z' s.nm v.toNat x;exact⟨IL y1 _ _ (y2 x (.inl rfl)),cE_,⟨w1.trans (y3.trans I),w2.trans (y4.trans x4),by rw[GH];exact t_ y5 x5,⟨[],by rw[w3,y6,x6];simp⟩⟩⟩
 | whag n s a b z v z1 z2 r z' h1 h2 h3 h4 h5 h6 i2 i4 i6=>intro U _;obtain⟨J,Z,⟨I,x4,x5,x6⟩⟩:=i2 U trivial;obtain⟨y1,y2,⟨y3,y4,y5,y6⟩⟩:=i4 J trivial;obtain⟨w1,w2,⟨w3,w4,w5,m,w6⟩⟩:=i6 (sp y1) trivial;refine⟨w1,w2,⟨w3.trans (y3.trans I),w4.trans (y4.trans x4),t_ w5 (t_ (Ja _) (t_ y5 x5)),⟨m,?_⟩⟩⟩;have e1:z2.sp.l=z2.l:=rfl;rw[w6,e1,y6,x6]
 | retn n s a b z v z' h1 h2 i2=>intro U _;obtain⟨J,Z,⟨I,x4,x5,x6⟩⟩:=i2 U trivial;exact⟨J,(λy hy=>by rcases hy with hy|hy <;> cases hy;exact Z v (.inl rfl)),⟨I,x4,x5,⟨[],by rw[x6];simp⟩⟩⟩
 | tell n s a b z v z' h1 h2 i2=>intro U _;obtain⟨J,Z,⟨I,x4,x5,x6⟩⟩:=i2 U trivial;exact⟨⟨J.g,J.l,J.i⟩,cE_,⟨I,x4,x5,⟨[],by rw[x6];simp⟩⟩⟩
 | send n s q z r z' h1 h2 h3 i2=>intro U _;obtain⟨J,Z,⟨I,x4,x5,m,x6⟩⟩:=i2 (sp U) trivial;exact⟨J,Z,⟨I,x4,t_ x5 (Ja _),⟨m,x6⟩⟩⟩
 | next n s q z z1 r z' h1 h2 h3 i2 i3=>intro U _;obtain⟨J,Z,⟨I,x4,x5,m,x6⟩⟩:=i2 (sp U) trivial;obtain⟨y1,y2,⟨y3,y4,y5,m2,y6⟩⟩:=i3 J trivial;have e1:z.sp.l=z.l:=rfl;exact⟨y1,y2,⟨y3.trans I,y4.trans x4,t_ y5 (t_ x5 (Ja _)),⟨m++m2,by rw[y6,x6,e1];simp⟩⟩⟩
 | blk n ss z r z' h1 i1=>intro U _;obtain⟨J,Z,⟨I,x4,x5,m,x6⟩⟩:=i1 U trivial;refine⟨⟨J.g,λy hy=>J.l y (mem_of_mem_take hy),J.i⟩,Z,⟨I,x4,x5,?_⟩⟩;show(z'.l.take z.l.length).map Prod.fst=_;rw[map_take,x6];simp
 | run n f vs z hf r z' h1 i1=>
  intro U Jb;obtain⟨J,Z,⟨I,x4,x5,x6⟩⟩:=i1 ⟨U.g,λy hy=>Jb y.2 (of_mem_zip hy).2,U.i⟩ trivial;refine⟨⟨J.g,U.l,J.i⟩,λv hv=>?_,⟨I,?_,x5,rfl⟩⟩;cases r using ER.cs with
  | val y=>rcases hv with hv|hv <;> cases hv;exact Z v (.inl rfl)
  | on=>rcases hv with hv|hv <;> cases hv;exact wM
  | ret y=>rcases hv with hv|hv <;> cases hv;exact Z v (.inr rfl)
  | out c=>rcases hv with hv|hv <;> cases hv
  show z'.n-fr.getD f 0=z.n;rw[x4];show z.n+fr.getD f 0-fr.getD f 0=z.n;omega
 | _=>intro U _;first|exact⟨U,cE_,⟨rfl,rfl,n_,⟨[],i_⟩⟩⟩|(rename_i i w _;obtain⟨J,Z,I⟩:=i U trivial;first|exact⟨J,cE_,I⟩|(obtain⟨I,x4,x5,x6⟩:=I;exact⟨J,cE_,⟨I,x4,x5,⟨[],by rw[x6];simp⟩⟩⟩))|(rename_i i j w _;obtain⟨J,Z,I⟩:=i U trivial;first|(obtain⟨y1,y2,y3⟩:=j (sp J) trivial;exact⟨y1,cE_,⟨y3.1.trans I.1,y3.2.1.trans I.2.1,t_ y3.2.2.1 (t_ (Ja _) I.2.2.1),y3.2.2.2.trans I.2.2.2⟩⟩)|(obtain⟨I,x4,x5,x6⟩:=I;obtain⟨y1,y2,⟨y3,y4,y5,y6⟩⟩:=j J trivial;exact⟨y1,by first|exact y2|exact cE_,⟨y3.trans I,y4.trans x4,t_ y5 x5,⟨[],by rw[y6,x6];simp⟩⟩⟩))
section
variable{s:St}{sc tk:List Io}{t:Tr}{e:List Nd}{gs:List Gl}{n:Nd}
def dI{I:List Io}{s:Io}:dF I s=true↔s∈I:=by unfold dF;rw[any_eq_true];constructor;rintro⟨x,U,J⟩;exact(of_decide_eq_true J) ▸ U;exact λh=>⟨s,h,decide_eq_true rfl⟩
def Gg(t:Tr)(ss:List St)(sc:List Io):Prop:=∃a tk,(∀x∈sc,x∈tk)/\(aL t ss a sc tk).1=0
def i8(h:∀x∈sc,x∈tk):∀x∈aP s sc,x∈aP s tk:=by unfold aP;split;intro x hx;rcases J5.1 hx with hx|hx;exact mem_append_left _ (h x hx);exact mem_append_right _ hx;exact h
def sh{x:Io}(h:x∈tk):x∈aP s tk:=by unfold aP;split;exact mem_append_left _ h;exact h
theorem sj(t:Tr)(n:Nat):∀(ss:List St) (a:Int) (sc tk:List Io),ss.length<=n->∀x∈tk,x∈(aL t ss a sc tk).2.2:=by
 induction n with
 | zero=>intro ss a sc tk h x I;obtain rfl:ss=[]:=J3 o_;rw[ee];exact I
 | succ n ih=>
  intro ss a sc tk h x I;cases ss with
  | nil=>rw[ee];exact I
  | cons s r=>simp only[l_c]at h;by_cases h1:bC t sc tk s=0;have J:=ih (r.take s.th.toNat) (a+1) (aP s sc) (aP s tk) H6 x (sh I);by_cases h2:(aL t (r.take s.th.toNat) (a+1) (aP s sc) (aP s tk)).1=0;have U:=ih ((r.drop s.th.toNat).take s.el.toNat) (a+1+s.th) (aP s sc) _ H6 x J;by_cases h3:(aL t ((r.drop s.th.toNat).take s.el.toNat) (a+1+s.th) (aP s sc) (aL t (r.take s.th.toNat) (a+1) (aP s sc) (aP s tk)).2.2).1=0;rw[ey h1 h2 rfl h3 rfl];exact ih _ _ _ _ H6 x U;rw[fA h1 h2 rfl h3];exact U;rw[fy h1 h2];exact J;rw[eZ h1];exact I
def Gg.cons{q:List St}(h:Gg t (s::q) sc):(∃tk,(∀x∈sc,x∈tk)/\bC t sc tk s=0)/\Gg t (q.take s.th.toNat) (aP s sc)/\Gg t ((q.drop s.th.toNat).take s.el.toNat) (aP s sc)/\Gg t (q.drop (s.th.toNat+s.el.toNat)) (aP s sc):=by
 obtain⟨a,tk,I,h⟩:=h;by_cases h1:bC t sc tk s=0;by_cases h2:(aL t (q.take s.th.toNat) (a+1) (aP s sc) (aP s tk)).1=0;have s2:∀x∈aP s sc,x∈(aL t (q.take s.th.toNat) (a+1) (aP s sc) (aP s tk)).2.2:=λx hx=>sj t _ _ _ _ _ n_ x (i8 I x hx);by_cases h3:(aL t ((q.drop s.th.toNat).take s.el.toNat) (a+1+s.th) (aP s sc) (aL t (q.take s.th.toNat) (a+1) (aP s sc) (aP s tk)).2.2).1=0
 rw[ey h1 h2 rfl h3 rfl]at h;exact⟨⟨tk,I,h1⟩,⟨_,_,i8 I,h2⟩,⟨_,_,s2,h3⟩,⟨_,_,λx hx=>sj t _ _ _ _ _ n_ x (s2 x hx),h⟩⟩;rw[fA h1 h2 rfl h3]at h;exact absurd h h3;rw[fy h1 h2]at h;exact absurd h h2;rw[eZ h1]at h;exact absurd h h1
def wB(t:Tr)(sc:List Io)(e:List Nd):Prop:=∀n∈e,aO t sc n=0
theorem jT{t:Tr}{sc:List Io}:∀ {e:List Nd},bK t sc e=0->wB t sc e
 | [],_,n,hn=>by cases hn
 | m::r,h,n,hn=>by simp only[bK]at h;by_cases hm:aO t sc m=0;rw[if_pos hm]at h;rcases mem_cons.1 hn with rfl|hn;exact hm;exact jT h n hn;rw[if_neg hm]at h;exact absurd h hm
def wB.kid{b:Nat->Nat}{i:Nat}(h:wB t sc e):wB t sc (kid e b i):=λn hn=>h n (sb hn)
def yC{s:Io}(h:dU gs sc s false=0):s∈sc\/(s∉sc/\globI gs s=0):=by unfold dU at h;by_cases hi:dF sc s=true;exact .inl (dI.1 hi);rw[if_neg hi]at h;refine .inr ⟨λhm=>hi (dI.2 hm),?_⟩;split at h;omega;split at h;rename_i h1 h2;simp at h2;omega;omega
def yD{s:Io}(h:dU gs sc s true=0):s∉sc/\0<globI gs s:=by unfold dU at h;by_cases hi:dF sc s=true;simp[hi]at h;rw[if_neg hi]at h;refine⟨λhm=>hi (dI.2 hm),?_⟩;split at h;omega;split at h;rename_i h1 h2;simpa using h2;omega
def uf(h:aO t sc n=0)(I:n.kd=2):n.nm∈sc\/(n.nm∉sc/\globI t.gl n.nm=0):=by
 unfold aO at h;rw[if_pos (.inl I)]at h;have:decide (n.kd=3)=false:=by simp[I]
 rw[this]at h;exact yC h
def B7(h:aO t sc n=0)(I:n.kd=3):n.nm∉sc/\0<globI t.gl n.nm:=by
 unfold aO at h;rw[if_pos (.inr I)]at h;have:decide (n.kd=3)=true:=by simp[I]
 rw[this]at h;exact yD h
theorem jU(h:aO t sc n=0)(I:n.kd=4):∃f,a_ t.fc n.nm=some f/\((t.fc.getD f ⟨⟨#[]⟩,[],[]⟩).pm.length:Int)=n.val:=by
 unfold aO at h;rw[if_neg o_,if_pos I]at h;cases e:a_ t.fc n.nm with
 | none=>rw[e]at h;simp at h
 | some f=>rw[e]at h;simp only at h;refine⟨f,rfl,?_⟩;by_cases hh:((t.fc.getD f ⟨⟨#[]⟩,[],[]⟩).pm.length:Int)=n.val;exact hh;rw[if_neg hh]at h;cases h
structure GJ (t:Tr) (sc:List Io) (s:St):Prop where
 e:wB t sc s.e
 f:wB t sc s.f
 decl:s.kd=1->s.nm∉sc/\globI t.gl s.nm<0
 set:s.kd=2->s.nm∈sc\/(s.nm∉sc/\globI t.gl s.nm=0)
 store:s.kd=3->s.nm∉sc/\0<globI t.gl s.nm
theorem nu(h:bC t sc tk s=0)(J:∀x∈sc,x∈tk):GJ t sc s:=by
 unfold bC at h;by_cases he:bK t sc (s.e++s.f)≠0;rw[if_pos he]at h;exact absurd h he;rw[if_neg he]at h;have I:=jT (show bK t sc (s.e++s.f)=0 by simpa using he);refine⟨λn hn=>I n (List.mem_append_left _ hn),λn hn=>I n (List.mem_append_right _ hn),λI=>?_,λI=>?_,λI=>?_⟩;rw[if_pos I]at h;by_cases hc:dF tk s.nm=true\/0<=globI t.gl s.nm;rw[if_pos hc]at h;cases h;exact⟨λhm=>hc (.inl (dI.2 (J _ hm))),by have:=λh=>hc (.inr h);omega⟩;rw[if_neg o_,if_pos (.inl I)]at h;have:decide (s.kd=3)=false:=by simp[I]
 rw[this]at h;exact yC h;rw[if_neg o_,if_pos (.inr I)]at h;have:decide (s.kd=3)=true:=by simp[I]
 rw[this]at h;exact yD h
def qO(t:Tr)(sc:List Io):Prop:=sc.Nodup/\∀x∈sc,globI t.gl x<0
def qO.add(h:qO t sc)(I:GJ t sc s):qO t (aP s sc):=by unfold aP;split;rename_i h1;have⟨a,b⟩:=I.decl h1;refine⟨?_,λx hx=>?_⟩;rw[nodup_append];exact⟨h.1,i_,λx hx y hy e=>by simp only[J7]at hy;subst hy;subst e;exact a hx⟩;rcases J5.1 hx with hx|hx;exact h.2 x hx;simp only[J7]at hx;subst hx;exact b;exact h
theorem ug(gs:List Gl):∀(ps seen:List Io),seen.Nodup->(∀x∈seen,globI gs x<0)->fY gs seen ps=false->(seen++ps).Nodup/\∀x∈seen++ps,globI gs x<0
 | [],seen,hn,hg,_=>by simpa using⟨hn,hg⟩
 | p::r,seen,hn,hg,h=>by
  unfold fY at h;by_cases hc:dF seen p=true\/0<=globI gs p;rw[if_pos hc]at h;cases h;rw[if_neg hc]at h;have hni:p∉seen:=λhm=>hc (.inl (dI.2 hm));have:=ug gs r (seen++[p]) (by
   rw[nodup_append];exact⟨hn,i_,λx hx y hy e=>by simp only[J7]at hy;subst hy;subst e;exact hni hx⟩) (λx hx=>by
   rcases J5.1 hx with hx|hx;exact hg x hx;simp only[J7]at hx;subst hx;have:=λh=>hc (.inr h)
   omega) h
  simpa using this
theorem kx{t:Tr}:∀(fs:List Fu) (i:Nat),(bodiesE t i fs).1=0->∀f∈fs,∃j,(du t j f).1=0
 | [],i,_,f,hf=>by cases hf
 | g::r,i,h,f,hf=>by unfold bodiesE at h;by_cases hg:(du t i g).1≠0;rw[if_pos hg]at h;exact absurd h hg;rw[if_neg hg]at h;rcases mem_cons.1 hf with rfl|hf;exact⟨i,IN hg⟩;exact kx r (i+1) h f hf
def dA(h:(aQ t).1=0):cM t=true/\(bJ t).1=0/\∀f∈t.fc,Gg t f.bd f.pm/\qO t f.pm:=by unfold aQ at h;by_cases h1:cM t=false;rw[if_pos h1]at h;simp at h;rw[if_neg h1]at h;by_cases h2:(bJ t).1≠0;rw[if_pos h2]at h;exact absurd h h2;rw[if_neg h2]at h;by_cases h3:(bodiesE t 0 t.fc).1≠0;rw[if_pos h3]at h;exact absurd h h3;refine⟨IN h1,IN h2,λf hf=>?_⟩;obtain⟨j,I⟩:=kx t.fc 0 (IN h3) f hf;unfold du at I;by_cases hd:fY t.gl [] f.pm=true;rw[if_pos hd]at I;cases I;rw[if_neg hd]at I;by_cases hb:(aL t f.bd 0 f.pm f.pm).1≠0;rw[if_pos hb]at I;exact absurd I hb;obtain⟨J,U⟩:=ug t.gl f.pm [] nodup_nil i_ (IN hd);exact⟨⟨0,f.pm,λx hx=>hx,IN hb⟩,IN J,IN U⟩
end
section
open Go.RowKit
variable{l:List (Io×Int)}{x:Io}{gs:List Gl}{t:Tr}{fr:List Int}{n:Nat}{s s':ES}{r:ER}
def B9(h:∀j (hj:j<l.length),(l[j]).1≠x):qN l x=none:=by unfold qN;rw[findIdx?_eq_none_iff];intro y I;obtain⟨j,hj,rfl⟩:=getElem_of_mem I;simpa using h j hj
def Ca{k:Nat}(J:k<gs.length)(I:∀j (hj:j<gs.length),j<k->gs[j].nm≠x)(h:gs[k].nm=x):i7 gs x=some k:=by unfold i7;rw[findIdx?_eq_some_iff_getElem];exact⟨J,IN h,λj hj=>by simpa using I j o_ hj⟩
theorem hU:∀ {gs:List Gl} {x:Io},0<=globI gs x->∃k,∃hk:k<gs.length,i7 gs x=some k/\gs[k].size=globI gs x
 | [],x,h=>by simp[globI]at h
 | g::r,x,h=>by unfold globI at h⊢;by_cases e:g.nm=x;refine⟨0,i_,?_,by rw[if_pos e];rfl⟩;exact Ca i_ (λj hj h0=>by omega) e;rw[if_neg e]at h⊢;have⟨k,hk,h1,h2⟩:=hU h;refine⟨k+1,IN hk,?_,IN h2⟩;unfold i7 at h1⊢;rw[findIdx?_cons,h1];simp[e]
def nw:x∈l.map Prod.fst ↔ ∃j,∃hj:j<l.length,qN l x=some j/\(l[j]).1=x:=by
 constructor;intro h;have Z:qN l x≠none:=λe=>by unfold qN at e;rw[findIdx?_eq_none_iff]at e;obtain⟨y,U,rfl⟩:=mem_map.1 h;have:=e y U;simp at this
 have⟨j,hj⟩:=Option.ne_none_iff_exists'.1 Z;have h2:=hj;unfold qN at h2;obtain⟨J,I,-⟩:=findIdx?_eq_some_iff_getElem.1 h2;exact⟨j,J,hj,IN I⟩
 rintro⟨j,hj,-,rfl⟩;exact mem_map.2 ⟨l[j],g_ hj,rfl⟩
def oM(h:x∉l.map Prod.fst):qN l x=none:=B9 (λj hj e=>h (mem_map.2 ⟨l[j],g_ hj,e⟩))
theorem oN{e:List Nd}(h:Ev t fr (n+1) (.e e) s r s')(h8:(aq e).kd≠8)(h9:(aq e).kd≠9):∃(A:Nat) (b:Nat->Nat) (st:Nat->ES) (v:Nat->Int) (j:Nat),Cut e A b/\st 0=s/\j<=A/\(∀i,i<j->Ev t fr n (.e (kid e b i)) (st i) (.val (v i)) (st (i+1))) /\
  ((j<A/\∃c,r=.out c/\Ev t fr n (.e (kid e b j)) (st j) (.out c) s')\/(j=A/\(st A).u=0/\r=.out 2/\s'=st A)\/(j=A/\0<(st A).u/\(aq e).kd≠4/\r=(gv t (aq e) v (st A).sp).1/\s'=(gv t (aq e) v (st A).sp).2)\/(j=A/\0<(st A).u/\(aq e).kd=4/\∃f,a_ t.fc (aq e).nm=some f/\Ev t fr n (.c f (e_ A v)) (st A).sp r s')):=by
 cases h using Ev_i with
 | kid _ _ A b st v j c _ h1 h2 h3 h4 h5 h6=>exact⟨A,b,st,v,j,h1,rfl,o_,h5,.inl ⟨h4,c,rfl,h6⟩⟩
 | dry _ _ A b st v h1 h2 h3 h4 h5=>exact⟨A,b,st,v,A,h1,rfl,n_,h4,.inr (.inl ⟨rfl,h5,rfl,rfl⟩)⟩
 | work _ _ A b st v h1 h2 h3 h4 h5 h6=>exact⟨A,b,st,v,A,h1,rfl,n_,h5,.inr (.inr (.inl ⟨rfl,h6,h4,rfl,rfl⟩))⟩
 | call _ _ A b st v f _ _ h1 h2 h3 h4 h5 h6=>exact⟨A,b,st,v,A,h1,rfl,n_,h4,.inr (.inr (.inr ⟨rfl,h5,h2,f,h3,h6⟩))⟩
 | left _ _ b _ c _ h1 h2 h3=>rcases h2 with h2|h2 <;> contradiction
 | ldry _ _ b _ x _ h1 h2 h3 h4=>rcases h2 with h2|h2 <;> contradiction
 | lone _ _ b _ x _ h1 h2 h3 h4=>rcases h2 with h2|h2 <;> exact absurd h2.1 (by assumption)
 | rigt _ _ b _ x s1 c _ h1 h2 h3 h4 h5=>rcases h2 with h2|h2 <;> exact absurd h2.1 (by assumption)
 | rdry _ _ b _ x s1 y _ h1 h2 h3 h4 h5 h6=>rcases h2 with h2|h2 <;> exact absurd h2.1 (by assumption)
 | both _ _ b _ x s1 y _ h1 h2 h3 h4 h5 h6=>rcases h2 with h2|h2 <;> exact absurd h2.1 (by assumption)
def Tk.va:Tk->Bool
 | .inl _ =>true
 | .inr (.inr (.inr (.inr (_, _)))) =>true
 | _=>false
theorem Ev.nov{k:Tk}(h:Ev t fr n k s r s'):k.va=false->∀v,r ≠ .val v:=by induction h using Ev_i <;> first|(intro h;cases h;done)|(intro _ v I;cases I;done)|(rename_i i w;exact λ_=>i rfl)
end
end Go.Proofs.YtjfmapphpijneaaGreatDoor
