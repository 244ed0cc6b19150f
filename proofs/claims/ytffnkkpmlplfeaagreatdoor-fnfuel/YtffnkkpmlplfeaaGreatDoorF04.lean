import Derived.Test.YtffnkkpmlplfeaaGreatDoorF02
import Derived.Test.YtffnkkpmlplfeaaGreatDoorF03
namespace Go.Proofs.YtffnkkpmlplfeaaGreatDoor
open List
set_option linter.all false
set_option maxRecDepth 100000
set_option maxHeartbeats 0
variable[Inhabited Pick]
structure ES where
 g:List (List Int)
 l:List (GA×Int)
 i:List Int
 o:List Int
 u:Nat
 n:Int
 d:Int
abbrev ER : Type := Int ⊕ Unit ⊕ Int ⊕ Int
abbrev ER.val (v : Int) : ER := .inl v
abbrev ER.on : ER := .inr (.inl ())
abbrev ER.ret (v : Int) : ER := .inr (.inr (.inl v))
abbrev ER.out (c : Int) : ER := .inr (.inr (.inr c))
theorem ER.cs {motive : ER → Prop} (val : ∀ (v : Int), motive (ER.val v)) (on : motive (ER.on)) (ret : ∀ (v : Int), motive (ER.ret v)) (out : ∀ (c : Int), motive (ER.out c)) (t_ : ER) : motive t_ :=
  match t_ with
  | .inl x0_ => val x0_
  | .inr (.inl ()) => on
  | .inr (.inr (.inl x0_)) => ret x0_
  | .inr (.inr (.inr x0_)) => out x0_
abbrev Tk : Type := (List Nd) ⊕ (St × (List St) × (List St)) ⊕ (List St) ⊕ (List St) ⊕ (Nat × (List Int))
abbrev Tk.e (e : List Nd) : Tk := .inl e
abbrev Tk.p (s : St) (a : List St) (b : List St) : Tk := .inr (.inl (s, a, b))
abbrev Tk.sq (ss : List St) : Tk := .inr (.inr (.inl ss))
abbrev Tk.bl (ss : List St) : Tk := .inr (.inr (.inr (.inl ss)))
abbrev Tk.c (f : Nat) (vs : List Int) : Tk := .inr (.inr (.inr (.inr (f, vs))))
theorem Tk.cs {motive : Tk → Prop} (e : ∀ (e : List Nd), motive (Tk.e e)) (p : ∀ (s : St) (a : List St) (b : List St), motive (Tk.p s a b)) (sq : ∀ (ss : List St), motive (Tk.sq ss)) (bl : ∀ (ss : List St), motive (Tk.bl ss)) (c : ∀ (f : Nat) (vs : List Int), motive (Tk.c f vs)) (t_ : Tk) : motive t_ :=
  match t_ with
  | .inl x0_ => e x0_
  | .inr (.inl (x0_, x1_, x2_)) => p x0_ x1_ x2_
  | .inr (.inr (.inl x0_)) => sq x0_
  | .inr (.inr (.inr (.inl x0_))) => bl x0_
  | .inr (.inr (.inr (.inr (x0_, x1_)))) => c x0_ x1_
def ES.sp(s:ES):ES:= {s with u:=s.u-1}
def rG(l:List (GA×Int))(x:GA):Option Nat:=l.findIdx? (λy=>decide (y.1=x))
def gV(gs:List Gl)(x:GA):Option Nat:=gs.findIdx? (λy=>decide (y.name=x))
def ES.rd(t:Tr)(s:ES)(x:GA):Int:=
 match rG s.l x with
 | some j=>(s.l.getD j (⟨#[]⟩,0)).2
 | none=>match gV t.globals x with
  | some k=>(s.g.getD k []).getD 0 0
  | none=>0
def ES.wr(t:Tr)(s:ES)(x:GA)(v:Int):ES:=
 match rG s.l x with
 | some j=> {s with l:=s.l.set j (x,v)}
 | none=>match gV t.globals x with
  | some k=> {s with g:=s.g.set k ((s.g.getD k []).set 0 v)}
  | none=>s
def ES.ws(t:Tr)(s:ES)(x:GA):List Int:=match gV t.globals x with
 | some k=>s.g.getD k []
 | none=>[]
def ES.st(t:Tr)(s:ES)(x:GA)(j:Nat)(v:Int):ES:=match gV t.globals x with
 | some k=> {s with g:=s.g.set k ((s.g.getD k []).set j v)}
 | none=>s
def d7(t:Tr)(n:Nd)(v:Nat->Int)(s:ES):ER×ES:=
 if n.kind=1 then(.val n.val,s)
 else if n.kind=2 then(.val (s.rd t n.name),s)
 else if n.kind=3 then(if 0<=v 0/\v 0<(s.ws t n.name).length then(.val ((s.ws t n.name).getD (v 0).toNat 0),s)else(.out 3,s))
 else if n.kind=5 then(match s.i with|[]=>(.val 0,s)|x::r=>(.val x,{s with i:=r}))
 else if n.kind=6 then(.val (kM n.val (v 0)),s)
 else(.val (dZ n.val (v 0) (v 1)),s)
def cX(A:Nat)(v:Nat->Int):List Int:=(List.range A).map v
def cP(f:Fu)(vs:List Int):List (GA×Int):=f.params.zip vs
def ER.back:ER->ER
 | .inr (.inl ()) =>.val 0
 | .inr (.inr (.inl v)) =>.val v
 | .inl v =>.val v
 | .inr (.inr (.inr c)) =>.out c
structure EvC (t:Tr)(fr:List Int)(P:Nat→Tk→ES→ER→ES→Prop):Prop where
 c_::
 dry(n:Nat)(e:List Nd)(A:Nat)(b:Nat->Nat)(st:Nat->ES)(v:Nat->Int):Cut e A b→((aB e).kind≠8)→((aB e).kind≠9)→(∀i,i<A->P n (.e (kid e b i)) (st i) (.val (v i)) (st (i+1)))→((st A).u=0)→P (n+1) (.e e) (st 0) (.out 2) (st A)
 work(n:Nat)(e:List Nd)(A:Nat)(b:Nat->Nat)(st:Nat->ES)(v:Nat->Int):Cut e A b→((aB e).kind≠8)→((aB e).kind≠9)→((aB e).kind≠4)→(∀i,i<A->P n (.e (kid e b i)) (st i) (.val (v i)) (st (i+1)))→(0<(st A).u)→P (n+1) (.e e) (st 0) (d7 t (aB e) v (st A).sp).1 (d7 t (aB e) v (st A).sp).2
 call(n:Nat)(e:List Nd)(A:Nat)(b:Nat->Nat)(st:Nat->ES)(v:Nat->Int)(f:Nat)(r:ER)(s':ES):Cut e A b→((aB e).kind=4)→(bO t.funcs (aB e).name=some f)→(∀i,i<A->P n (.e (kid e b i)) (st i) (.val (v i)) (st (i+1)))→(0<(st A).u)→P n (.c f (cX A v)) (st A).sp r s'→P (n+1) (.e e) (st 0) r s'
 left(n:Nat)(e:List Nd)(b:Nat->Nat)(s:ES)(c:Int)(s':ES):Cut e 2 b→((aB e).kind=8∨(aB e).kind=9)→P n (.e (kid e b 0)) s (.out c) s'→P (n+1) (.e e) s (.out c) s'
 ldry(n:Nat)(e:List Nd)(b:Nat->Nat)(s:ES)(x:Int)(s':ES):Cut e 2 b→((aB e).kind=8∨(aB e).kind=9)→P n (.e (kid e b 0)) s (.val x) s'→(s'.u=0)→P (n+1) (.e e) s (.out 2) s'
 lone(n:Nat)(e:List Nd)(b:Nat->Nat)(s:ES)(x:Int)(s':ES):Cut e 2 b→((aB e).kind=8/\x=0∨(aB e).kind=9/\x≠0)→P n (.e (kid e b 0)) s (.val x) s'→(0<s'.u)→P (n+1) (.e e) s (.val (boolN (decide (x≠0)))) s'.sp
 rigt(n:Nat)(e:List Nd)(b:Nat->Nat)(s:ES)(x:Int)(s1:ES)(c:Int)(s':ES):Cut e 2 b→((aB e).kind=8/\x≠0∨(aB e).kind=9/\x=0)→P n (.e (kid e b 0)) s (.val x) s1→(0<s1.u)→P n (.e (kid e b 1)) s1.sp (.out c) s'→P (n+1) (.e e) s (.out c) s'
 rdry(n:Nat)(e:List Nd)(b:Nat->Nat)(s:ES)(x:Int)(s1:ES)(y:Int)(s':ES):Cut e 2 b→((aB e).kind=8/\x≠0∨(aB e).kind=9/\x=0)→P n (.e (kid e b 0)) s (.val x) s1→(0<s1.u)→P n (.e (kid e b 1)) s1.sp (.val y) s'→(s'.u=0)→P (n+1) (.e e) s (.out 2) s'
 both(n:Nat)(e:List Nd)(b:Nat->Nat)(s:ES)(x:Int)(s1:ES)(y:Int)(s':ES):Cut e 2 b→((aB e).kind=8/\x≠0∨(aB e).kind=9/\x=0)→P n (.e (kid e b 0)) s (.val x) s1→(0<s1.u)→P n (.e (kid e b 1)) s1.sp (.val y) s'→(0<s'.u)→P (n+1) (.e e) s (.val (boolN (decide (y≠0)))) s'.sp
 pbad(n:Nat)(s:St)(a b:List St)(z:ES)(c:Int)(z':ES):P n (.e s.e) z (.out c) z'→P (n+1) (.p s a b) z (.out c) z'
 decl(n:Nat)(s:St)(a b:List St)(z:ES)(v:Int)(z':ES):(s.kind=1)→P n (.e s.e) z (.val v) z'→P (n+1) (.p s a b) z .on {z' with l:=z'.l++[(s.name,v)]}
 set(n:Nat)(s:St)(a b:List St)(z:ES)(v:Int)(z':ES):(s.kind=2)→P n (.e s.e) z (.val v) z'→P (n+1) (.p s a b) z .on (z'.wr t s.name v)
 sbad(n:Nat)(s:St)(a b:List St)(z:ES)(v:Int)(z1:ES)(c:Int)(z':ES):(s.kind=3)→P n (.e s.e) z (.val v) z1→P n (.e s.f) z1 (.out c) z'→P (n+1) (.p s a b) z (.out c) z'
 smis(n:Nat)(s:St)(a b:List St)(z:ES)(v:Int)(z1:ES)(x:Int)(z':ES):(s.kind=3)→P n (.e s.e) z (.val v) z1→P n (.e s.f) z1 (.val x) z'→(¬(0<=v/\v<(z'.ws t s.name).length))→P (n+1) (.p s a b) z (.out 3) z'
 stor(n:Nat)(s:St)(a b:List St)(z:ES)(v:Int)(z1:ES)(x:Int)(z':ES):(s.kind=3)→P n (.e s.e) z (.val v) z1→P n (.e s.f) z1 (.val x) z'→(0<=v/\v<(z'.ws t s.name).length)→P (n+1) (.p s a b) z .on (z'.st t s.name v.toNat x)
 ifth(n:Nat)(s:St)(a b:List St)(z:ES)(v:Int)(z1:ES)(r:ER)(z':ES):(s.kind=4)→P n (.e s.e) z (.val v) z1→(v≠0)→P n (.bl a) z1 r z'→P (n+1) (.p s a b) z r z'
 ifel(n:Nat)(s:St)(a b:List St)(z:ES)(z1:ES)(r:ER)(z':ES):(s.kind=4)→P n (.e s.e) z (.val 0) z1→P n (.bl b) z1 r z'→P (n+1) (.p s a b) z r z'
 whno(n:Nat)(s:St)(a b:List St)(z:ES)(z':ES):(s.kind=5)→P n (.e s.e) z (.val 0) z'→P (n+1) (.p s a b) z .on z'
 whn(n:Nat)(s:St)(a b:List St)(z:ES)(v:Int)(z1:ES)(r:ER)(z':ES):(s.kind=5)→P n (.e s.e) z (.val v) z1→(v≠0)→P n (.bl a) z1 r z'→(r ≠ .on)→P (n+1) (.p s a b) z r z'
 whdr(n:Nat)(s:St)(a b:List St)(z:ES)(v:Int)(z1:ES)(z':ES):(s.kind=5)→P n (.e s.e) z (.val v) z1→(v≠0)→P n (.bl a) z1 .on z'→(z'.u=0)→P (n+1) (.p s a b) z (.out 2) z'
 whag(n:Nat)(s:St)(a b:List St)(z:ES)(v:Int)(z1:ES)(z2:ES)(r:ER)(z':ES):(s.kind=5)→P n (.e s.e) z (.val v) z1→(v≠0)→P n (.bl a) z1 .on z2→(0<z2.u)→P n (.p s a b) z2.sp r z'→P (n+1) (.p s a b) z r z'
 retn(n:Nat)(s:St)(a b:List St)(z:ES)(v:Int)(z':ES):(s.kind=6)→P n (.e s.e) z (.val v) z'→P (n+1) (.p s a b) z (.ret v) z'
 tell(n:Nat)(s:St)(a b:List St)(z:ES)(v:Int)(z':ES):(s.kind=7)→P n (.e s.e) z (.val v) z'→P (n+1) (.p s a b) z .on {z' with o:=z'.o++[v]}
 only(n:Nat)(s:St)(a b:List St)(z:ES)(v:Int)(z':ES):(s.kind=8)→P n (.e s.e) z (.val v) z'→P (n+1) (.p s a b) z .on z'
 nil(n:Nat)(z:ES):P (n+1) (.sq []) z .on z
 sdry(n:Nat)(s:St)(q:List St)(z:ES):(z.u=0)→P (n+1) (.sq (s::q)) z (.out 2) z
 send(n:Nat)(s:St)(q:List St)(z:ES)(r:ER)(z':ES):(0<z.u)→P n (.p s (q.take s.thn.toNat) ((q.drop s.thn.toNat).take s.els.toNat)) z.sp r z'→(r ≠ .on)→P (n+1) (.sq (s::q)) z r z'
 next(n:Nat)(s:St)(q:List St)(z:ES)(z1:ES)(r:ER)(z':ES):(0<z.u)→P n (.p s (q.take s.thn.toNat) ((q.drop s.thn.toNat).take s.els.toNat)) z.sp .on z1→P n (.sq (q.drop (s.thn.toNat+s.els.toNat))) z1 r z'→P (n+1) (.sq (s::q)) z r z'
 blk(n:Nat)(ss:List St)(z:ES)(r:ER)(z':ES):P n (.sq ss) z r z'→P (n+1) (.bl ss) z r {z' with l:=z'.l.take z.l.length}
 run(n:Nat)(f:Nat)(vs:List Int)(z:ES)(hf:f<t.funcs.length)(r:ER)(z':ES):(P n (.bl t.funcs[f].body) {z with l:=cP t.funcs[f] vs,n:=z.n+fr.getD f 0,d:=max z.d (z.n+fr.getD f 0)} r z')→P (n+1) (.c f vs) z r.back {z' with l:=z.l,n:=z'.n-fr.getD f 0}
 kid(n:Nat)(e:List Nd)(A:Nat)(b:Nat->Nat)(st:Nat->ES)(v:Nat->Int)(j:Nat)(c:Int)(s':ES):Cut e A b→((aB e).kind≠8)→((aB e).kind≠9)→(j<A)→(∀i,i<j->P n (.e (kid e b i)) (st i) (.val (v i)) (st (i+1)))→P n (.e (kid e b j)) (st j) (.out c) s'→P (n+1) (.e e) (st 0) (.out c) s'
structure Ev (t:Tr)(fr:List Int)(a0:Nat)(a1:Tk)(a2:ES)(a3:ER)(a4:ES):Prop where
 c_::
 out:∀P,EvC t fr P→P a0 a1 a2 a3 a4
theorem Ev.C{t:Tr}{fr:List Int}:EvC t fr (Ev t fr):=⟨fun n e A b st v q0 q1 q2 q3 q4=>⟨fun P h=>h.dry n e A b st v q0 q1 q2 (fun i k0=>(q3 i k0).out P h) q4⟩,
 fun n e A b st v q0 q1 q2 q3 q4 q5=>⟨fun P h=>h.work n e A b st v q0 q1 q2 q3 (fun i k0=>(q4 i k0).out P h) q5⟩,
 fun n e A b st v f r s' q0 q1 q2 q3 q4 q5=>⟨fun P h=>h.call n e A b st v f r s' q0 q1 q2 (fun i k0=>(q3 i k0).out P h) q4 (q5.out P h)⟩,
 fun n e b s c s' q0 q1 q2=>⟨fun P h=>h.left n e b s c s' q0 q1 (q2.out P h)⟩,
 fun n e b s x s' q0 q1 q2 q3=>⟨fun P h=>h.ldry n e b s x s' q0 q1 (q2.out P h) q3⟩,
 fun n e b s x s' q0 q1 q2 q3=>⟨fun P h=>h.lone n e b s x s' q0 q1 (q2.out P h) q3⟩,
 fun n e b s x s1 c s' q0 q1 q2 q3 q4=>⟨fun P h=>h.rigt n e b s x s1 c s' q0 q1 (q2.out P h) q3 (q4.out P h)⟩,
 fun n e b s x s1 y s' q0 q1 q2 q3 q4 q5=>⟨fun P h=>h.rdry n e b s x s1 y s' q0 q1 (q2.out P h) q3 (q4.out P h) q5⟩,
 fun n e b s x s1 y s' q0 q1 q2 q3 q4 q5=>⟨fun P h=>h.both n e b s x s1 y s' q0 q1 (q2.out P h) q3 (q4.out P h) q5⟩,
 fun n s a b z c z' q0=>⟨fun P h=>h.pbad n s a b z c z' (q0.out P h)⟩,
 fun n s a b z v z' q0 q1=>⟨fun P h=>h.decl n s a b z v z' q0 (q1.out P h)⟩,
 fun n s a b z v z' q0 q1=>⟨fun P h=>h.set n s a b z v z' q0 (q1.out P h)⟩,
 fun n s a b z v z1 c z' q0 q1 q2=>⟨fun P h=>h.sbad n s a b z v z1 c z' q0 (q1.out P h) (q2.out P h)⟩,
 fun n s a b z v z1 x z' q0 q1 q2 q3=>⟨fun P h=>h.smis n s a b z v z1 x z' q0 (q1.out P h) (q2.out P h) q3⟩,
 fun n s a b z v z1 x z' q0 q1 q2 q3=>⟨fun P h=>h.stor n s a b z v z1 x z' q0 (q1.out P h) (q2.out P h) q3⟩,
 fun n s a b z v z1 r z' q0 q1 q2 q3=>⟨fun P h=>h.ifth n s a b z v z1 r z' q0 (q1.out P h) q2 (q3.out P h)⟩,
 fun n s a b z z1 r z' q0 q1 q2=>⟨fun P h=>h.ifel n s a b z z1 r z' q0 (q1.out P h) (q2.out P h)⟩,
 fun n s a b z z' q0 q1=>⟨fun P h=>h.whno n s a b z z' q0 (q1.out P h)⟩,
 fun n s a b z v z1 r z' q0 q1 q2 q3 q4=>⟨fun P h=>h.whn n s a b z v z1 r z' q0 (q1.out P h) q2 (q3.out P h) q4⟩,
 fun n s a b z v z1 z' q0 q1 q2 q3 q4=>⟨fun P h=>h.whdr n s a b z v z1 z' q0 (q1.out P h) q2 (q3.out P h) q4⟩,
 fun n s a b z v z1 z2 r z' q0 q1 q2 q3 q4 q5=>⟨fun P h=>h.whag n s a b z v z1 z2 r z' q0 (q1.out P h) q2 (q3.out P h) q4 (q5.out P h)⟩,
 fun n s a b z v z' q0 q1=>⟨fun P h=>h.retn n s a b z v z' q0 (q1.out P h)⟩,
 fun n s a b z v z' q0 q1=>⟨fun P h=>h.tell n s a b z v z' q0 (q1.out P h)⟩,
 fun n s a b z v z' q0 q1=>⟨fun P h=>h.only n s a b z v z' q0 (q1.out P h)⟩,
 fun n z=>⟨fun P h=>h.nil n z⟩,
 fun n s q z q0=>⟨fun P h=>h.sdry n s q z q0⟩,
 fun n s q z r z' q0 q1 q2=>⟨fun P h=>h.send n s q z r z' q0 (q1.out P h) q2⟩,
 fun n s q z z1 r z' q0 q1 q2=>⟨fun P h=>h.next n s q z z1 r z' q0 (q1.out P h) (q2.out P h)⟩,
 fun n ss z r z' q0=>⟨fun P h=>h.blk n ss z r z' (q0.out P h)⟩,
 fun n f vs z hf r z' q0=>⟨fun P h=>h.run n f vs z hf r z' (q0.out P h)⟩,
 fun n e A b st v j c s' q0 q1 q2 q3 q4 q5=>⟨fun P h=>h.kid n e A b st v j c s' q0 q1 q2 q3 (fun i k0=>(q4 i k0).out P h) (q5.out P h)⟩⟩
abbrev Ev.dry {t fr}:=(Ev.C:EvC t fr _).dry
abbrev Ev.work {t fr}:=(Ev.C:EvC t fr _).work
abbrev Ev.call {t fr}:=(Ev.C:EvC t fr _).call
abbrev Ev.left {t fr}:=(Ev.C:EvC t fr _).left
abbrev Ev.ldry {t fr}:=(Ev.C:EvC t fr _).ldry
abbrev Ev.lone {t fr}:=(Ev.C:EvC t fr _).lone
abbrev Ev.rigt {t fr}:=(Ev.C:EvC t fr _).rigt
abbrev Ev.rdry {t fr}:=(Ev.C:EvC t fr _).rdry
abbrev Ev.both {t fr}:=(Ev.C:EvC t fr _).both
abbrev Ev.pbad {t fr}:=(Ev.C:EvC t fr _).pbad
abbrev Ev.decl {t fr}:=(Ev.C:EvC t fr _).decl
abbrev Ev.set {t fr}:=(Ev.C:EvC t fr _).set
abbrev Ev.sbad {t fr}:=(Ev.C:EvC t fr _).sbad
abbrev Ev.smis {t fr}:=(Ev.C:EvC t fr _).smis
abbrev Ev.stor {t fr}:=(Ev.C:EvC t fr _).stor
abbrev Ev.ifth {t fr}:=(Ev.C:EvC t fr _).ifth
abbrev Ev.ifel {t fr}:=(Ev.C:EvC t fr _).ifel
abbrev Ev.whno {t fr}:=(Ev.C:EvC t fr _).whno
abbrev Ev.whn {t fr}:=(Ev.C:EvC t fr _).whn
abbrev Ev.whdr {t fr}:=(Ev.C:EvC t fr _).whdr
abbrev Ev.whag {t fr}:=(Ev.C:EvC t fr _).whag
abbrev Ev.retn {t fr}:=(Ev.C:EvC t fr _).retn
abbrev Ev.tell {t fr}:=(Ev.C:EvC t fr _).tell
abbrev Ev.only {t fr}:=(Ev.C:EvC t fr _).only
abbrev Ev.nil {t fr}:=(Ev.C:EvC t fr _).nil
abbrev Ev.sdry {t fr}:=(Ev.C:EvC t fr _).sdry
abbrev Ev.send {t fr}:=(Ev.C:EvC t fr _).send
abbrev Ev.next {t fr}:=(Ev.C:EvC t fr _).next
abbrev Ev.blk {t fr}:=(Ev.C:EvC t fr _).blk
abbrev Ev.run {t fr}:=(Ev.C:EvC t fr _).run
abbrev Ev.kid {t fr}:=(Ev.C:EvC t fr _).kid
theorem Ev_i{t:Tr}{fr:List Int}{M:∀(a0:Nat)(a1:Tk)(a2:ES)(a3:ER)(a4:ES),Ev t fr a0 a1 a2 a3 a4→Prop}
 (dry:∀(n:Nat)(e:List Nd)(A:Nat)(b:Nat->Nat)(st:Nat->ES)(v:Nat->Int),Cut e A b→((aB e).kind≠8)→((aB e).kind≠9)→∀q3:∀i,i<A->Ev t fr n (.e (kid e b i)) (st i) (.val (v i)) (st (i+1)),((st A).u=0)→(∀ i (k0 : i<A),M n (.e (kid e b i)) (st i) (.val (v i)) (st (i+1)) (q3 i k0))→∀w,M (n+1) (.e e) (st 0) (.out 2) (st A) w)
 (work:∀(n:Nat)(e:List Nd)(A:Nat)(b:Nat->Nat)(st:Nat->ES)(v:Nat->Int),Cut e A b→((aB e).kind≠8)→((aB e).kind≠9)→((aB e).kind≠4)→∀q4:∀i,i<A->Ev t fr n (.e (kid e b i)) (st i) (.val (v i)) (st (i+1)),(0<(st A).u)→(∀ i (k0 : i<A),M n (.e (kid e b i)) (st i) (.val (v i)) (st (i+1)) (q4 i k0))→∀w,M (n+1) (.e e) (st 0) (d7 t (aB e) v (st A).sp).1 (d7 t (aB e) v (st A).sp).2 w)
 (call:∀(n:Nat)(e:List Nd)(A:Nat)(b:Nat->Nat)(st:Nat->ES)(v:Nat->Int)(f:Nat)(r:ER)(s':ES),Cut e A b→((aB e).kind=4)→(bO t.funcs (aB e).name=some f)→∀q3:∀i,i<A->Ev t fr n (.e (kid e b i)) (st i) (.val (v i)) (st (i+1)),(0<(st A).u)→∀q5:Ev t fr n (.c f (cX A v)) (st A).sp r s',(∀ i (k0 : i<A),M n (.e (kid e b i)) (st i) (.val (v i)) (st (i+1)) (q3 i k0))→M n (.c f (cX A v)) (st A).sp r s' q5→∀w,M (n+1) (.e e) (st 0) r s' w)
 (left:∀(n:Nat)(e:List Nd)(b:Nat->Nat)(s:ES)(c:Int)(s':ES),Cut e 2 b→((aB e).kind=8∨(aB e).kind=9)→∀q2:Ev t fr n (.e (kid e b 0)) s (.out c) s',M n (.e (kid e b 0)) s (.out c) s' q2→∀w,M (n+1) (.e e) s (.out c) s' w)
 (ldry:∀(n:Nat)(e:List Nd)(b:Nat->Nat)(s:ES)(x:Int)(s':ES),Cut e 2 b→((aB e).kind=8∨(aB e).kind=9)→∀q2:Ev t fr n (.e (kid e b 0)) s (.val x) s',(s'.u=0)→M n (.e (kid e b 0)) s (.val x) s' q2→∀w,M (n+1) (.e e) s (.out 2) s' w)
 (lone:∀(n:Nat)(e:List Nd)(b:Nat->Nat)(s:ES)(x:Int)(s':ES),Cut e 2 b→((aB e).kind=8/\x=0∨(aB e).kind=9/\x≠0)→∀q2:Ev t fr n (.e (kid e b 0)) s (.val x) s',(0<s'.u)→M n (.e (kid e b 0)) s (.val x) s' q2→∀w,M (n+1) (.e e) s (.val (boolN (decide (x≠0)))) s'.sp w)
 (rigt:∀(n:Nat)(e:List Nd)(b:Nat->Nat)(s:ES)(x:Int)(s1:ES)(c:Int)(s':ES),Cut e 2 b→((aB e).kind=8/\x≠0∨(aB e).kind=9/\x=0)→∀q2:Ev t fr n (.e (kid e b 0)) s (.val x) s1,(0<s1.u)→∀q4:Ev t fr n (.e (kid e b 1)) s1.sp (.out c) s',M n (.e (kid e b 0)) s (.val x) s1 q2→M n (.e (kid e b 1)) s1.sp (.out c) s' q4→∀w,M (n+1) (.e e) s (.out c) s' w)
 (rdry:∀(n:Nat)(e:List Nd)(b:Nat->Nat)(s:ES)(x:Int)(s1:ES)(y:Int)(s':ES),Cut e 2 b→((aB e).kind=8/\x≠0∨(aB e).kind=9/\x=0)→∀q2:Ev t fr n (.e (kid e b 0)) s (.val x) s1,(0<s1.u)→∀q4:Ev t fr n (.e (kid e b 1)) s1.sp (.val y) s',(s'.u=0)→M n (.e (kid e b 0)) s (.val x) s1 q2→M n (.e (kid e b 1)) s1.sp (.val y) s' q4→∀w,M (n+1) (.e e) s (.out 2) s' w)
 (both:∀(n:Nat)(e:List Nd)(b:Nat->Nat)(s:ES)(x:Int)(s1:ES)(y:Int)(s':ES),Cut e 2 b→((aB e).kind=8/\x≠0∨(aB e).kind=9/\x=0)→∀q2:Ev t fr n (.e (kid e b 0)) s (.val x) s1,(0<s1.u)→∀q4:Ev t fr n (.e (kid e b 1)) s1.sp (.val y) s',(0<s'.u)→M n (.e (kid e b 0)) s (.val x) s1 q2→M n (.e (kid e b 1)) s1.sp (.val y) s' q4→∀w,M (n+1) (.e e) s (.val (boolN (decide (y≠0)))) s'.sp w)
 (pbad:∀(n:Nat)(s:St)(a b:List St)(z:ES)(c:Int)(z':ES),∀q0:Ev t fr n (.e s.e) z (.out c) z',M n (.e s.e) z (.out c) z' q0→∀w,M (n+1) (.p s a b) z (.out c) z' w)
 (decl:∀(n:Nat)(s:St)(a b:List St)(z:ES)(v:Int)(z':ES),(s.kind=1)→∀q1:Ev t fr n (.e s.e) z (.val v) z',M n (.e s.e) z (.val v) z' q1→∀w,M (n+1) (.p s a b) z .on {z' with l:=z'.l++[(s.name,v)]} w)
 (set:∀(n:Nat)(s:St)(a b:List St)(z:ES)(v:Int)(z':ES),(s.kind=2)→∀q1:Ev t fr n (.e s.e) z (.val v) z',M n (.e s.e) z (.val v) z' q1→∀w,M (n+1) (.p s a b) z .on (z'.wr t s.name v) w)
 (sbad:∀(n:Nat)(s:St)(a b:List St)(z:ES)(v:Int)(z1:ES)(c:Int)(z':ES),(s.kind=3)→∀q1:Ev t fr n (.e s.e) z (.val v) z1,∀q2:Ev t fr n (.e s.f) z1 (.out c) z',M n (.e s.e) z (.val v) z1 q1→M n (.e s.f) z1 (.out c) z' q2→∀w,M (n+1) (.p s a b) z (.out c) z' w)
 (smis:∀(n:Nat)(s:St)(a b:List St)(z:ES)(v:Int)(z1:ES)(x:Int)(z':ES),(s.kind=3)→∀q1:Ev t fr n (.e s.e) z (.val v) z1,∀q2:Ev t fr n (.e s.f) z1 (.val x) z',(¬(0<=v/\v<(z'.ws t s.name).length))→M n (.e s.e) z (.val v) z1 q1→M n (.e s.f) z1 (.val x) z' q2→∀w,M (n+1) (.p s a b) z (.out 3) z' w)
 (stor:∀(n:Nat)(s:St)(a b:List St)(z:ES)(v:Int)(z1:ES)(x:Int)(z':ES),(s.kind=3)→∀q1:Ev t fr n (.e s.e) z (.val v) z1,∀q2:Ev t fr n (.e s.f) z1 (.val x) z',(0<=v/\v<(z'.ws t s.name).length)→M n (.e s.e) z (.val v) z1 q1→M n (.e s.f) z1 (.val x) z' q2→∀w,M (n+1) (.p s a b) z .on (z'.st t s.name v.toNat x) w)
 (ifth:∀(n:Nat)(s:St)(a b:List St)(z:ES)(v:Int)(z1:ES)(r:ER)(z':ES),(s.kind=4)→∀q1:Ev t fr n (.e s.e) z (.val v) z1,(v≠0)→∀q3:Ev t fr n (.bl a) z1 r z',M n (.e s.e) z (.val v) z1 q1→M n (.bl a) z1 r z' q3→∀w,M (n+1) (.p s a b) z r z' w)
 (ifel:∀(n:Nat)(s:St)(a b:List St)(z:ES)(z1:ES)(r:ER)(z':ES),(s.kind=4)→∀q1:Ev t fr n (.e s.e) z (.val 0) z1,∀q2:Ev t fr n (.bl b) z1 r z',M n (.e s.e) z (.val 0) z1 q1→M n (.bl b) z1 r z' q2→∀w,M (n+1) (.p s a b) z r z' w)
 (whno:∀(n:Nat)(s:St)(a b:List St)(z:ES)(z':ES),(s.kind=5)→∀q1:Ev t fr n (.e s.e) z (.val 0) z',M n (.e s.e) z (.val 0) z' q1→∀w,M (n+1) (.p s a b) z .on z' w)
 (whn:∀(n:Nat)(s:St)(a b:List St)(z:ES)(v:Int)(z1:ES)(r:ER)(z':ES),(s.kind=5)→∀q1:Ev t fr n (.e s.e) z (.val v) z1,(v≠0)→∀q3:Ev t fr n (.bl a) z1 r z',(r ≠ .on)→M n (.e s.e) z (.val v) z1 q1→M n (.bl a) z1 r z' q3→∀w,M (n+1) (.p s a b) z r z' w)
 (whdr:∀(n:Nat)(s:St)(a b:List St)(z:ES)(v:Int)(z1:ES)(z':ES),(s.kind=5)→∀q1:Ev t fr n (.e s.e) z (.val v) z1,(v≠0)→∀q3:Ev t fr n (.bl a) z1 .on z',(z'.u=0)→M n (.e s.e) z (.val v) z1 q1→M n (.bl a) z1 .on z' q3→∀w,M (n+1) (.p s a b) z (.out 2) z' w)
 (whag:∀(n:Nat)(s:St)(a b:List St)(z:ES)(v:Int)(z1:ES)(z2:ES)(r:ER)(z':ES),(s.kind=5)→∀q1:Ev t fr n (.e s.e) z (.val v) z1,(v≠0)→∀q3:Ev t fr n (.bl a) z1 .on z2,(0<z2.u)→∀q5:Ev t fr n (.p s a b) z2.sp r z',M n (.e s.e) z (.val v) z1 q1→M n (.bl a) z1 .on z2 q3→M n (.p s a b) z2.sp r z' q5→∀w,M (n+1) (.p s a b) z r z' w)
 (retn:∀(n:Nat)(s:St)(a b:List St)(z:ES)(v:Int)(z':ES),(s.kind=6)→∀q1:Ev t fr n (.e s.e) z (.val v) z',M n (.e s.e) z (.val v) z' q1→∀w,M (n+1) (.p s a b) z (.ret v) z' w)
 (tell:∀(n:Nat)(s:St)(a b:List St)(z:ES)(v:Int)(z':ES),(s.kind=7)→∀q1:Ev t fr n (.e s.e) z (.val v) z',M n (.e s.e) z (.val v) z' q1→∀w,M (n+1) (.p s a b) z .on {z' with o:=z'.o++[v]} w)
 (only:∀(n:Nat)(s:St)(a b:List St)(z:ES)(v:Int)(z':ES),(s.kind=8)→∀q1:Ev t fr n (.e s.e) z (.val v) z',M n (.e s.e) z (.val v) z' q1→∀w,M (n+1) (.p s a b) z .on z' w)
 (nil:∀(n:Nat)(z:ES),∀w,M (n+1) (.sq []) z .on z w)
 (sdry:∀(n:Nat)(s:St)(q:List St)(z:ES),(z.u=0)→∀w,M (n+1) (.sq (s::q)) z (.out 2) z w)
 (send:∀(n:Nat)(s:St)(q:List St)(z:ES)(r:ER)(z':ES),(0<z.u)→∀q1:Ev t fr n (.p s (q.take s.thn.toNat) ((q.drop s.thn.toNat).take s.els.toNat)) z.sp r z',(r ≠ .on)→M n (.p s (q.take s.thn.toNat) ((q.drop s.thn.toNat).take s.els.toNat)) z.sp r z' q1→∀w,M (n+1) (.sq (s::q)) z r z' w)
 (next:∀(n:Nat)(s:St)(q:List St)(z:ES)(z1:ES)(r:ER)(z':ES),(0<z.u)→∀q1:Ev t fr n (.p s (q.take s.thn.toNat) ((q.drop s.thn.toNat).take s.els.toNat)) z.sp .on z1,∀q2:Ev t fr n (.sq (q.drop (s.thn.toNat+s.els.toNat))) z1 r z',M n (.p s (q.take s.thn.toNat) ((q.drop s.thn.toNat).take s.els.toNat)) z.sp .on z1 q1→M n (.sq (q.drop (s.thn.toNat+s.els.toNat))) z1 r z' q2→∀w,M (n+1) (.sq (s::q)) z r z' w)
 (blk:∀(n:Nat)(ss:List St)(z:ES)(r:ER)(z':ES),∀q0:Ev t fr n (.sq ss) z r z',M n (.sq ss) z r z' q0→∀w,M (n+1) (.bl ss) z r {z' with l:=z'.l.take z.l.length} w)
 (run:∀(n:Nat)(f:Nat)(vs:List Int)(z:ES)(hf:f<t.funcs.length)(r:ER)(z':ES),∀q0:Ev t fr n (.bl t.funcs[f].body) {z with l:=cP t.funcs[f] vs,n:=z.n+fr.getD f 0,d:=max z.d (z.n+fr.getD f 0)} r z',M n (.bl t.funcs[f].body) {z with l:=cP t.funcs[f] vs,n:=z.n+fr.getD f 0,d:=max z.d (z.n+fr.getD f 0)} r z' q0→∀w,M (n+1) (.c f vs) z r.back {z' with l:=z.l,n:=z'.n-fr.getD f 0} w)
 (kid:∀(n:Nat)(e:List Nd)(A:Nat)(b:Nat->Nat)(st:Nat->ES)(v:Nat->Int)(j:Nat)(c:Int)(s':ES),Cut e A b→((aB e).kind≠8)→((aB e).kind≠9)→(j<A)→∀q4:∀i,i<j->Ev t fr n (.e (kid e b i)) (st i) (.val (v i)) (st (i+1)),∀q5:Ev t fr n (.e (kid e b j)) (st j) (.out c) s',(∀ i (k0 : i<j),M n (.e (kid e b i)) (st i) (.val (v i)) (st (i+1)) (q4 i k0))→M n (.e (kid e b j)) (st j) (.out c) s' q5→∀w,M (n+1) (.e e) (st 0) (.out c) s' w)
 {a0:Nat}{a1:Tk}{a2:ES}{a3:ER}{a4:ES}(w:Ev t fr a0 a1 a2 a3 a4):M a0 a1 a2 a3 a4 w:=
 (w.out (fun a0 a1 a2 a3 a4=>∃z_,M a0 a1 a2 a3 a4 z_) ⟨fun n e A b st v q0 q1 q2 q3 q4=>⟨.dry n e A b st v q0 q1 q2 (fun i k0=>(q3 i k0).1) q4,dry n e A b st v q0 q1 q2 _ q4 (fun i k0=>(q3 i k0).2) _⟩,
 fun n e A b st v q0 q1 q2 q3 q4 q5=>⟨.work n e A b st v q0 q1 q2 q3 (fun i k0=>(q4 i k0).1) q5,work n e A b st v q0 q1 q2 q3 _ q5 (fun i k0=>(q4 i k0).2) _⟩,
 fun n e A b st v f r s' q0 q1 q2 q3 q4 q5=>⟨.call n e A b st v f r s' q0 q1 q2 (fun i k0=>(q3 i k0).1) q4 q5.1,call n e A b st v f r s' q0 q1 q2 _ q4 _ (fun i k0=>(q3 i k0).2) q5.2 _⟩,
 fun n e b s c s' q0 q1 q2=>⟨.left n e b s c s' q0 q1 q2.1,left n e b s c s' q0 q1 _ q2.2 _⟩,
 fun n e b s x s' q0 q1 q2 q3=>⟨.ldry n e b s x s' q0 q1 q2.1 q3,ldry n e b s x s' q0 q1 _ q3 q2.2 _⟩,
 fun n e b s x s' q0 q1 q2 q3=>⟨.lone n e b s x s' q0 q1 q2.1 q3,lone n e b s x s' q0 q1 _ q3 q2.2 _⟩,
 fun n e b s x s1 c s' q0 q1 q2 q3 q4=>⟨.rigt n e b s x s1 c s' q0 q1 q2.1 q3 q4.1,rigt n e b s x s1 c s' q0 q1 _ q3 _ q2.2 q4.2 _⟩,
 fun n e b s x s1 y s' q0 q1 q2 q3 q4 q5=>⟨.rdry n e b s x s1 y s' q0 q1 q2.1 q3 q4.1 q5,rdry n e b s x s1 y s' q0 q1 _ q3 _ q5 q2.2 q4.2 _⟩,
 fun n e b s x s1 y s' q0 q1 q2 q3 q4 q5=>⟨.both n e b s x s1 y s' q0 q1 q2.1 q3 q4.1 q5,both n e b s x s1 y s' q0 q1 _ q3 _ q5 q2.2 q4.2 _⟩,
 fun n s a b z c z' q0=>⟨.pbad n s a b z c z' q0.1,pbad n s a b z c z' _ q0.2 _⟩,
 fun n s a b z v z' q0 q1=>⟨.decl n s a b z v z' q0 q1.1,decl n s a b z v z' q0 _ q1.2 _⟩,
 fun n s a b z v z' q0 q1=>⟨.set n s a b z v z' q0 q1.1,set n s a b z v z' q0 _ q1.2 _⟩,
 fun n s a b z v z1 c z' q0 q1 q2=>⟨.sbad n s a b z v z1 c z' q0 q1.1 q2.1,sbad n s a b z v z1 c z' q0 _ _ q1.2 q2.2 _⟩,
 fun n s a b z v z1 x z' q0 q1 q2 q3=>⟨.smis n s a b z v z1 x z' q0 q1.1 q2.1 q3,smis n s a b z v z1 x z' q0 _ _ q3 q1.2 q2.2 _⟩,
 fun n s a b z v z1 x z' q0 q1 q2 q3=>⟨.stor n s a b z v z1 x z' q0 q1.1 q2.1 q3,stor n s a b z v z1 x z' q0 _ _ q3 q1.2 q2.2 _⟩,
 fun n s a b z v z1 r z' q0 q1 q2 q3=>⟨.ifth n s a b z v z1 r z' q0 q1.1 q2 q3.1,ifth n s a b z v z1 r z' q0 _ q2 _ q1.2 q3.2 _⟩,
 fun n s a b z z1 r z' q0 q1 q2=>⟨.ifel n s a b z z1 r z' q0 q1.1 q2.1,ifel n s a b z z1 r z' q0 _ _ q1.2 q2.2 _⟩,
 fun n s a b z z' q0 q1=>⟨.whno n s a b z z' q0 q1.1,whno n s a b z z' q0 _ q1.2 _⟩,
 fun n s a b z v z1 r z' q0 q1 q2 q3 q4=>⟨.whn n s a b z v z1 r z' q0 q1.1 q2 q3.1 q4,whn n s a b z v z1 r z' q0 _ q2 _ q4 q1.2 q3.2 _⟩,
 fun n s a b z v z1 z' q0 q1 q2 q3 q4=>⟨.whdr n s a b z v z1 z' q0 q1.1 q2 q3.1 q4,whdr n s a b z v z1 z' q0 _ q2 _ q4 q1.2 q3.2 _⟩,
 fun n s a b z v z1 z2 r z' q0 q1 q2 q3 q4 q5=>⟨.whag n s a b z v z1 z2 r z' q0 q1.1 q2 q3.1 q4 q5.1,whag n s a b z v z1 z2 r z' q0 _ q2 _ q4 _ q1.2 q3.2 q5.2 _⟩,
 fun n s a b z v z' q0 q1=>⟨.retn n s a b z v z' q0 q1.1,retn n s a b z v z' q0 _ q1.2 _⟩,
 fun n s a b z v z' q0 q1=>⟨.tell n s a b z v z' q0 q1.1,tell n s a b z v z' q0 _ q1.2 _⟩,
 fun n s a b z v z' q0 q1=>⟨.only n s a b z v z' q0 q1.1,only n s a b z v z' q0 _ q1.2 _⟩,
 fun n z=>⟨.nil n z,nil n z _⟩,
 fun n s q z q0=>⟨.sdry n s q z q0,sdry n s q z q0 _⟩,
 fun n s q z r z' q0 q1 q2=>⟨.send n s q z r z' q0 q1.1 q2,send n s q z r z' q0 _ q2 q1.2 _⟩,
 fun n s q z z1 r z' q0 q1 q2=>⟨.next n s q z z1 r z' q0 q1.1 q2.1,next n s q z z1 r z' q0 _ _ q1.2 q2.2 _⟩,
 fun n ss z r z' q0=>⟨.blk n ss z r z' q0.1,blk n ss z r z' _ q0.2 _⟩,
 fun n f vs z hf r z' q0=>⟨.run n f vs z hf r z' q0.1,run n f vs z hf r z' _ q0.2 _⟩,
 fun n e A b st v j c s' q0 q1 q2 q3 q4 q5=>⟨.kid n e A b st v j c s' q0 q1 q2 q3 (fun i k0=>(q4 i k0).1) q5.1,kid n e A b st v j c s' q0 q1 q2 q3 _ _ (fun i k0=>(q4 i k0).2) q5.2 _⟩⟩).2
theorem Ev.up{t:Tr}{fr:List Int}{n:Nat}{k:Tk}{s:ES}{r:ER}{s':ES}(h:Ev t fr n k s r s'):Ev t fr (n+1) k s r s':=by
 induction h using Ev_i with
 | kid n e A b st v j c s' h1 h2 h3 h4 h5 h6 i5 i6=>exact .kid _ e A b st v j c s' h1 h2 h3 h4 i5 i6
 | dry n e A b st v h1 h2 h3 h4 h5 i4=>exact .dry _ e A b st v h1 h2 h3 i4 h5
 | work n e A b st v h1 h2 h3 h4 h5 h6 i5=>exact .work _ e A b st v h1 h2 h3 h4 i5 h6
 | call n e A b st v f r s' h1 h2 h3 h4 h5 h6 i4 i6=>exact .call _ e A b st v f r s' h1 h2 h3 i4 h5 i6
 | left n e b s c s' h1 h2 h3 i3=>exact .left _ e b s c s' h1 h2 i3
 | ldry n e b s x s' h1 h2 h3 h4 i3=>exact .ldry _ e b s x s' h1 h2 i3 h4
 | lone n e b s x s' h1 h2 h3 h4 i3=>exact .lone _ e b s x s' h1 h2 i3 h4
 | rigt n e b s x s1 c s' h1 h2 h3 h4 h5 i3 i5=>exact .rigt _ e b s x s1 c s' h1 h2 i3 h4 i5
 | rdry n e b s x s1 y s' h1 h2 h3 h4 h5 h6 i3 i5=>exact .rdry _ e b s x s1 y s' h1 h2 i3 h4 i5 h6
 | both n e b s x s1 y s' h1 h2 h3 h4 h5 h6 i3 i5=>exact .both _ e b s x s1 y s' h1 h2 i3 h4 i5 h6
 | pbad n s a b z c z' h1 i1=>exact .pbad _ s a b z c z' i1
 | decl n s a b z v z' h1 h2 i2=>exact .decl _ s a b z v z' h1 i2
 | set n s a b z v z' h1 h2 i2=>exact .set _ s a b z v z' h1 i2
 | sbad n s a b z v z1 c z' h1 h2 h3 i2 i3=>exact .sbad _ s a b z v z1 c z' h1 i2 i3
 | smis n s a b z v z1 x z' h1 h2 h3 h4 i2 i3=>exact .smis _ s a b z v z1 x z' h1 i2 i3 h4
 | stor n s a b z v z1 x z' h1 h2 h3 h4 i2 i3=>exact .stor _ s a b z v z1 x z' h1 i2 i3 h4
 | ifth n s a b z v z1 r z' h1 h2 h3 h4 i2 i4=>exact .ifth _ s a b z v z1 r z' h1 i2 h3 i4
 | ifel n s a b z z1 r z' h1 h2 h3 i2 i3=>exact .ifel _ s a b z z1 r z' h1 i2 i3
 | whno n s a b z z' h1 h2 i2=>exact .whno _ s a b z z' h1 i2
 | whn n s a b z v z1 r z' h1 h2 h3 h4 h5 i2 i4=>exact .whn _ s a b z v z1 r z' h1 i2 h3 i4 h5
 | whdr n s a b z v z1 z' h1 h2 h3 h4 h5 i2 i4=>exact .whdr _ s a b z v z1 z' h1 i2 h3 i4 h5
 | whag n s a b z v z1 z2 r z' h1 h2 h3 h4 h5 h6 i2 i4 i6=>exact .whag _ s a b z v z1 z2 r z' h1 i2 h3 i4 h5 i6
 | retn n s a b z v z' h1 h2 i2=>exact .retn _ s a b z v z' h1 i2
 | tell n s a b z v z' h1 h2 i2=>exact .tell _ s a b z v z' h1 i2
 | only n s a b z v z' h1 h2 i2=>exact .only _ s a b z v z' h1 i2
 | nil n z=>exact .nil _ z
 | sdry n s q z h1=>exact .sdry _ s q z h1
 | send n s q z r z' h1 h2 h3 i2=>exact .send _ s q z r z' h1 i2 h3
 | next n s q z z1 r z' h1 h2 h3 i2 i3=>exact .next _ s q z z1 r z' h1 i2 i3
 | blk n ss z r z' h1 i1=>exact .blk _ ss z r z' i1
 | run n f vs z hf r z' h1 i1=>exact .run _ f vs z hf r z' i1
theorem Ev.ups{t:Tr}{fr:List Int}{k:Tk}{s:ES}{r:ER}{s':ES}:∀ {n m:Nat},n<=m->Ev t fr n k s r s'->Ev t fr m k s r s'
 | n,m,hm,h=>by
  obtain⟨d,rfl⟩:∃d,m=n+d:=⟨m-n,o_⟩;clear hm;induction d with
  | zero=>exact h
  | succ d ih=>exact ih.up
section
variable{e:List Nd}
def A6(t:Tr)(e:List Nd):Prop:=∀n∈e,n.kind=4->∃f,bO t.funcs n.name=some f
structure Cj (t:Tr) (s:St):Prop where
 k:1<=s.kind/\s.kind<=8
 e:aP s.e=true/\A6 t s.e
 f:s.kind=3->aP s.f=true/\A6 t s.f
def oR(ss:List St):Nat:=(ss.map (λs=>s.e.length+s.f.length+10)).sum
def Tk.sz(t:Tr):Tk->Nat
 | .inl x =>x.length
 | .inr (.inl (z, y, x)) =>z.e.length+z.f.length+oR y+oR x+6
 | .inr (.inr (.inl ss)) =>oR ss+1
 | .inr (.inr (.inr (.inl ss))) =>oR ss+2
 | .inr (.inr (.inr (.inr (f, _)))) =>oR (t.funcs.getD f ⟨⟨#[]⟩,[],[]⟩).body+3
def Tk.wf(t:Tr):Tk->Prop
 | .inl x =>aP x=true/\A6 t x
 | .inr (.inl (z, y, w)) =>Cj t z/\(∀x∈y,Cj t x)/\∀x∈w,Cj t x
 | .inr (.inr (.inl ss)) =>∀x∈ss,Cj t x
 | .inr (.inr (.inr (.inl ss))) =>∀x∈ss,Cj t x
 | .inr (.inr (.inr (.inr (f, _)))) =>f<t.funcs.length
def yb(s:St)(q:List St):oR (s::q)=s.e.length+s.f.length+10+oR q:=by simp[oR]
def wgt_append(a b:List St):oR (a++b)=oR a+oR b:=by simp[oR]
def uU(q:List St)(i j:Nat):oR (q.take i)+oR ((q.drop i).take j)+oR (q.drop (i+j))=oR q:=by
 have e:q=q.take i++((q.drop i).take j++q.drop (i+j)):=by rw[<-drop_drop,take_append_drop,take_append_drop]
 have h:oR q=oR (q.take i++((q.drop i).take j++q.drop (i+j))):=congrArg oR e;rw[h,wgt_append,wgt_append];omega
def tK{b:Nat->Nat}{i:Nat}{n:Nd}(h:n∈kid e b i):n∈e:=by
 unfold kid at h;first|exact mem_of_mem_take (GK h)|exact GK (mem_of_mem_take h)
def jY(h:0<e.length):aB e∈e:=by rw[eF e h];exact g_ _
def rR(t:Tr)(n:Nd)(v:Nat->Int)(s:ES):(d7 t n v s).2.u=s.u:=by
 unfold d7
 (repeat' split) <;> rfl
def CM(t:Tr)(s:ES)(x:GA)(v:Int):(s.wr t x v).u=s.u:=by
 unfold ES.wr
 (repeat' split) <;> rfl
def CN(t:Tr)(s:ES)(x:GA)(j:Nat)(v:Int):(s.st t x j v).u=s.u:=by
 unfold ES.st;split <;> rfl
theorem A7(t:Tr)(fr:List Int)(hw:∀f∈t.funcs,∀s∈f.body,Cj t s):∀(u m:Nat) (k:Tk) (s:ES),s.u=u->k.sz t<=m->k.wf t->(∃n r s',Ev t fr n k s r s'/\s'.u<=s.u/\(∀e,k=.e e->(∃v,r=.val v)∨∃c,r=.out c)):=by
 intro u;induction u using Nat.strongRecOn with
 | ind u ihu=>
  intro m;induction m with
  | zero=>
   intro k s _ Z Jb;cases k using Tk.cs with
   | e e=>have:=jo Jb.1;simp[Tk.sz]at Z;simp[Z]at this
   | p s a b=>simp[Tk.sz]at Z
   | sq ss=>simp[Tk.sz]at Z
   | bl ss=>simp[Tk.sz]at Z
   | c f vs=>simp[Tk.sz]at Z
  | succ m ihm=>
   intro k s hu Z Jb;have Ja:∀k' s',s'.u<=u->k'.wf t->(k'.sz t<=m∨s'.u<u)->∃n r Jd,Ev t fr n k' s' r Jd/\Jd.u<=s'.u/\(∀e,k'=.e e->(∃v,r=.val v)∨∃c,r=.out c):=λk' s' h1 h2 h3=>by
    by_cases hlt:s'.u<u
    ·exact ihu s'.u hlt (k'.sz t) k' s' rfl n_ h2
    ·exact ihm k' s' o_ o_ h2
   cases k using Tk.cs with
   | e e=>
    obtain⟨h1,Jg⟩:=Jb;obtain⟨A,b,Y,hk⟩:=gZ h1;simp only[Tk.sz]at Z;have Jc:∀i,i<A->∀s',s'.u<=u->∃n r Jd,Ev t fr n (.e (kid e b i)) s' r Jd/\Jd.u<=s'.u/\((∃v,r=.val v)∨∃c,r=.out c):=λi hi s' hs'=>by
     obtain⟨n,r,Jd,h2,h3,h4⟩:=Ja (.e (kid e b i)) s' hs' ⟨hk i hi,λn hn=>Jg n (tK hn)⟩ (.inl (by have:=Y.kid_lt i hi;simp only[Tk.sz];omega));exact⟨n,r,Jd,h2,h3,h4 _ rfl⟩
    by_cases hao:(aB e).kind=8∨(aB e).kind=9
    ·have Jj:A=2:=by have:=Y.ar;rcases hao with h|h <;> simp[arity,h]at this <;> omega
     subst Jj;obtain⟨I,r1,s1,h2,h3,⟨x,rfl⟩|⟨c,rfl⟩⟩:=Jc 0 o_ s o_
     ·by_cases hz:s1.u=0
      ·exact⟨_,_,_,.ldry I e b s x s1 Y hao h2 hz,h3,λ_ _=>.inr ⟨_,rfl⟩⟩
      ·by_cases hd:(aB e).kind=8/\x=0∨(aB e).kind=9/\x≠0
       ·exact⟨_,_,_,.lone I e b s x s1 Y hd h2 o_,by simp only[ES.sp];omega,λ_ _=>.inl ⟨_,rfl⟩⟩
       ·have Jh:(aB e).kind=8/\x≠0∨(aB e).kind=9/\x=0:=by
         by_cases hx:x=0 <;> rcases hao with h|h <;> simp[hx,h]at hd⊢
        obtain⟨J,U,s2,h4,h5,⟨y,rfl⟩|⟨c,rfl⟩⟩:=Jc 1 o_ s1.sp (by simp only[ES.sp];omega)
        ·simp only[ES.sp]at h5;by_cases hz2:s2.u=0
         ·exact⟨_,_,_,.rdry (max I J) e b s x s1 y s2 Y Jh (h2.ups o_) o_ (h4.ups o_) hz2,o_,λ_ _=>.inr ⟨_,rfl⟩⟩
         ·exact⟨_,_,_,.both (max I J) e b s x s1 y s2 Y Jh (h2.ups o_) o_ (h4.ups o_) o_,by simp only[ES.sp];omega,λ_ _=>.inl ⟨_,rfl⟩⟩
        ·simp only[ES.sp]at h5;exact⟨_,_,_,.rigt (max I J) e b s x s1 c s2 Y Jh (h2.ups o_) o_ (h4.ups o_),o_,λ_ _=>.inr ⟨_,rfl⟩⟩
     ·exact⟨_,_,_,.left I e b s c s1 Y hao h2,h3,λ_ _=>.inr ⟨_,rfl⟩⟩
    ·have h8:(aB e).kind≠8:=λh=>hao (.inl h);have h9:(aB e).kind≠9:=λh=>hao (.inr h);have Jf:∀j,j<=A->(∃(n:Nat) (st:Nat->ES) (v:Nat->Int),st 0=s/\(st j).u<=s.u/\∀i,i<j->Ev t fr n (.e (kid e b i)) (st i) (.val (v i)) (st (i+1)))∨(∃n c s',Ev t fr n (.e e) s (.out c) s'/\s'.u<=s.u):=by
      intro j;induction j with
      | zero=>exact λ_=>.inl ⟨0,λ_=>s,λ_=>0,rfl,n_,λi hi=>absurd hi o_⟩
      | succ j ihj=>
       intro hj;rcases ihj o_ with⟨n,st,v,h0,Ji,Je⟩|h
       ·subst h0;obtain⟨J,U,s2,h4,h5,⟨y,rfl⟩|⟨c,rfl⟩⟩:=Jc j o_ (st j) o_
        ·refine .inl ⟨max n J,λi=>if i<=j then st i else s2,λi=>if i<j then v i else y,i_,by show(if j+1<=j then st (j+1)else s2).u<=_;rw[if_neg (show ¬j+1<=j by omega)];omega,λi hi=>?_⟩;by_cases hij:i<j
         ·have e1:i<=j:=o_
          have e2:i+1<=j:=o_;simp only[if_pos hij,if_pos e1,if_pos e2];exact(Je i hij).ups o_
         ·have e0:i=j:=o_
          subst e0;simp only[if_neg (Nat.lt_irrefl i),if_pos (Nat.le_refl i),if_neg (show ¬i+1<=i by omega)];exact h4.ups o_
        ·refine .inr ⟨_,c,s2,Ev.kid (max n J) e A b st v j c s2 Y h8 h9 o_ (λi hi=>(Je i hi).ups o_) (h4.ups o_),o_⟩
       ·exact .inr h
     rcases Jf A n_ with⟨n,st,v,h0,Ji,Je⟩|⟨n,c,s',h2,h3⟩
     ·subst h0;by_cases hz:(st A).u=0
      ·exact⟨_,_,_,Ev.dry n e A b st v Y h8 h9 Je hz,Ji,λ_ _=>.inr ⟨_,rfl⟩⟩
      ·by_cases h4:(aB e).kind=4
       ·obtain⟨f,hf⟩:=Jg _ (jY Y.len) h4;obtain⟨J,U,s2,h5,h6,-⟩:=Ja (.c f (cX A v)) (st A).sp (by simp only[ES.sp];omega) (de hf) (.inr (by simp only[ES.sp];omega));simp only[ES.sp]at h6;have hr:(∃v,U=.val v)∨∃c,U=.out c:=by
         cases h5 using Ev_i with
         | run n f vs z hf r z' h1=>cases r using ER.cs <;> simp[ER.back]
        exact⟨_,_,_,Ev.call (max n J) e A b st v f U s2 Y h4 hf (λi hi=>(Je i hi).ups o_) o_ (h5.ups o_),o_,λ_ _=>hr⟩
       ·refine⟨_,_,_,Ev.work n e A b st v Y h8 h9 h4 Je o_,by rw[rR];simp only[ES.sp];omega,λ_ _=>?_⟩;unfold d7
        (repeat' split) <;> simp
     ·exact⟨n,_,s',h2,h3,λ_ _=>.inr ⟨_,rfl⟩⟩
   | p x a b=>
    obtain⟨hx,ha,hb⟩:=Jb;simp only[Tk.sz]at Z;obtain⟨I,r1,s1,h2,h3,h4⟩:=Ja (.e x.e) s o_ hx.e (.inl (by simp only[Tk.sz];omega));rcases h4 _ rfl with⟨v,rfl⟩|⟨c,rfl⟩
    ·have hk:=hx.k;have hkk:x.kind=1∨x.kind=2∨x.kind=3∨x.kind=4∨x.kind=5∨x.kind=6∨x.kind=7∨x.kind=8:=o_
     rcases hkk with hkk|hkk|hkk|hkk|hkk|hkk|hkk|hkk
     ·exact⟨_,_,_,.decl I x a b s v s1 hkk h2,h3,λ_ h=>by cases h⟩
     ·exact⟨_,_,_,.set I x a b s v s1 hkk h2,by rw[CM];exact h3,λ_ h=>by cases h⟩
     ·obtain⟨J,U,s2,h5,h6,h7⟩:=Ja (.e x.f) s1 o_ (hx.f hkk) (.inl (by simp only[Tk.sz];omega));rcases h7 _ rfl with⟨y,rfl⟩|⟨c,rfl⟩
      ·by_cases hin:0<=v/\v<(s2.ws t x.name).length
       ·exact⟨_,_,_,.stor (max I J) x a b s v s1 y s2 hkk (h2.ups o_) (h5.ups o_) hin,by rw[CN];omega,λ_ h=>by cases h⟩
       ·exact⟨_,_,_,.smis (max I J) x a b s v s1 y s2 hkk (h2.ups o_) (h5.ups o_) hin,o_,λ_ h=>by cases h⟩
      ·exact⟨_,_,_,.sbad (max I J) x a b s v s1 c s2 hkk (h2.ups o_) (h5.ups o_),o_,λ_ h=>by cases h⟩
     ·by_cases hv:v=0
      ·subst hv;obtain⟨J,U,s2,h5,h6,-⟩:=Ja (.bl b) s1 o_ hb (.inl (by simp only[Tk.sz];omega));exact⟨_,_,_,.ifel (max I J) x a b s s1 U s2 hkk (h2.ups o_) (h5.ups o_),o_,λ_ h=>by cases h⟩
      ·obtain⟨J,U,s2,h5,h6,-⟩:=Ja (.bl a) s1 o_ ha (.inl (by simp only[Tk.sz];omega));exact⟨_,_,_,.ifth (max I J) x a b s v s1 U s2 hkk (h2.ups o_) hv (h5.ups o_),o_,λ_ h=>by cases h⟩
     ·by_cases hv:v=0
      ·subst hv;exact⟨_,_,_,.whno I x a b s s1 hkk h2,h3,λ_ h=>by cases h⟩
      ·obtain⟨J,U,s2,h5,h6,-⟩:=Ja (.bl a) s1 o_ ha (.inl (by simp only[Tk.sz];omega));by_cases hon:U=.on
       ·subst hon;by_cases hz:s2.u=0
        ·exact⟨_,_,_,.whdr (max I J) x a b s v s1 s2 hkk (h2.ups o_) hv (h5.ups o_) hz,o_,λ_ h=>by cases h⟩
        ·obtain⟨n3,r3,s3,h7,h8,-⟩:=Ja (.p x a b) s2.sp (by simp only[ES.sp];omega) ⟨hx,ha,hb⟩ (.inr (by simp only[ES.sp];omega));simp only[ES.sp]at h8;exact⟨_,_,_,.whag (max I (max J n3)) x a b s v s1 s2 r3 s3 hkk (h2.ups o_) hv (h5.ups o_) o_ (h7.ups o_),o_,λ_ h=>by cases h⟩
       ·exact⟨_,_,_,.whn (max I J) x a b s v s1 U s2 hkk (h2.ups o_) hv (h5.ups o_) hon,o_,λ_ h=>by cases h⟩
     ·exact⟨_,_,_,.retn I x a b s v s1 hkk h2,h3,λ_ h=>by cases h⟩
     ·exact⟨_,_,_,.tell I x a b s v s1 hkk h2,h3,λ_ h=>by cases h⟩
     ·exact⟨_,_,_,.only I x a b s v s1 hkk h2,h3,λ_ h=>by cases h⟩
    ·exact⟨_,_,_,.pbad I x a b s c s1 h2,h3,λ_ h=>by cases h⟩
   | sq ss=>
    cases ss with
    | nil=>exact⟨1,_,_,.nil 0 s,n_,λ_ h=>by cases h⟩
    | cons x q=>
     simp only[Tk.sz,yb]at Z;have hp:=uU q x.thn.toNat x.els.toNat;have hq:∀y∈q,Cj t y:=λy hy=>Jb y (m_ _ hy);by_cases hz:s.u=0
     ·exact⟨_,_,_,.sdry 0 x q s hz,n_,λ_ h=>by cases h⟩
     ·obtain⟨I,r1,s1,h2,h3,-⟩:=Ja (.p x (q.take x.thn.toNat) ((q.drop x.thn.toNat).take x.els.toNat)) s.sp (by simp only[ES.sp];omega) ⟨Jb x i_,λy hy=>hq y (mem_of_mem_take hy),λy hy=>hq y (GK (mem_of_mem_take hy))⟩ (.inr (by simp only[ES.sp];omega));simp only[ES.sp]at h3;by_cases hon:r1=.on
      ·subst hon;obtain⟨J,U,s2,h5,h6,-⟩:=Ja (.sq (q.drop (x.thn.toNat+x.els.toNat))) s1 o_ (λy hy=>hq y (GK hy)) (.inl (by simp only[Tk.sz];omega));exact⟨_,_,_,.next (max I J) x q s s1 U s2 o_ (h2.ups o_) (h5.ups o_),o_,λ_ h=>by cases h⟩
      ·exact⟨_,_,_,.send I x q s r1 s1 o_ h2 hon,o_,λ_ h=>by cases h⟩
   | bl ss=>
    simp only[Tk.sz]at Z;obtain⟨I,r1,s1,h2,h3,-⟩:=Ja (.sq ss) s o_ Jb (.inl (by simp only[Tk.sz];omega));exact⟨_,_,_,.blk I ss s r1 s1 h2,h3,λ_ h=>by cases h⟩
   | c f vs=>
    have hf:f<t.funcs.length:=Jb;have eg:t.funcs.getD f ⟨⟨#[]⟩,[],[]⟩=t.funcs[f]:=by simp[List.getD,hf]
    simp only[Tk.sz,eg]at Z;obtain⟨I,r1,s1,h2,h3,-⟩:=Ja (.bl t.funcs[f].body) {s with l:=cP t.funcs[f] vs,n:=s.n+fr.getD f 0,d:=max s.d (s.n+fr.getD f 0)} (by simp only;omega) (hw _ (g_ hf)) (.inl (by simp only[Tk.sz];omega));exact⟨_,_,_,.run I f vs s hf r1 s1 h2,h3,λ_ h=>by cases h⟩
end
section
variable{t:Tr}{fr:List Int}{n d:Nat}{k:Tk}{s s':ES}{r:ER}
def mL(s s':ES):Prop:=s.o <+:s'.o/\s.d<=s'.d
def mL.refl(s:ES):mL s s:=⟨prefix_refl _,Int.le_refl _⟩
def mL.trans{a b c:ES}(h:mL a b)(h':mL b c):mL a c:=⟨h.1.trans h'.1,Int.le_trans h.2 h'.2⟩
def oS(t:Tr)(n:Nd)(v:Nat->Int)(s:ES):mL s (d7 t n v s).2:=by
 unfold d7
 (repeat' split) <;> exact⟨prefix_refl _,Int.le_refl _⟩
def tL(t:Tr)(s:ES)(x:GA)(v:Int):mL s (s.wr t x v):=by
 unfold ES.wr
 (repeat' split) <;> exact⟨prefix_refl _,Int.le_refl _⟩
def oT(t:Tr)(s:ES)(x:GA)(j:Nat)(v:Int):mL s (s.st t x j v):=by
 unfold ES.st;split <;> exact⟨prefix_refl _,Int.le_refl _⟩
theorem lH{st:Nat → ES}:∀ {j:Nat}, (∀ i, i<j → mL (st i) (st (i+1))) → ∀ i, i ≤ j → mL (st i) (st j)
  | 0, _, i, hi=>by obtain rfl:i=0:= by omega
                    exact mL.refl _
  | j+1, h, i, hi=>by
    by_cases e:i=j+1
    · subst e; exact mL.refl _
    · exact(lH (λi hi=>h i o_) i o_).trans (h j o_)
theorem Ev.gr(h:Ev t fr n k s r s'):mL s s':=by
 induction h using Ev_i with
 | kid n e A b st v j c s' h1 h2 h3 h4 h5 h6 i5 i6=>exact(lH i5 0 y_).trans i6
 | dry n e A b st v h1 h2 h3 h4 h5 i4=>exact lH i4 0 y_
 | work n e A b st v h1 h2 h3 h4 h5 h6 i5=>exact(lH i5 0 y_).trans (oS t _ v (st A).sp)
 | call n e A b st v f r s' h1 h2 h3 h4 h5 h6 i4 i6=>exact(lH i4 0 y_).trans i6
 | left n e b s c s' h1 h2 h3 i3=>exact i3
 | ldry n e b s x s' h1 h2 h3 h4 i3=>exact i3
 | lone n e b s x s' h1 h2 h3 h4 i3=>exact i3
 | rigt n e b s x s1 c s' h1 h2 h3 h4 h5 i3 i5=>exact i3.trans i5
 | rdry n e b s x s1 y s' h1 h2 h3 h4 h5 h6 i3 i5=>exact i3.trans i5
 | both n e b s x s1 y s' h1 h2 h3 h4 h5 h6 i3 i5=>exact i3.trans i5
 | pbad n s a b z c z' h1 i1=>exact i1
 | decl n s a b z v z' h1 h2 i2=>exact i2
 | set n s a b z v z' h1 h2 i2=>exact i2.trans (tL ..)
 | sbad n s a b z v z1 c z' h1 h2 h3 i2 i3=>exact i2.trans i3
 | smis n s a b z v z1 x z' h1 h2 h3 h4 i2 i3=>exact i2.trans i3
 | stor n s a b z v z1 x z' h1 h2 h3 h4 i2 i3=>exact(i2.trans i3).trans (oT ..)
 | ifth n s a b z v z1 r z' h1 h2 h3 h4 i2 i4=>exact i2.trans i4
 | ifel n s a b z z1 r z' h1 h2 h3 i2 i3=>exact i2.trans i3
 | whno n s a b z z' h1 h2 i2=>exact i2
 | whn n s a b z v z1 r z' h1 h2 h3 h4 h5 i2 i4=>exact i2.trans i4
 | whdr n s a b z v z1 z' h1 h2 h3 h4 h5 i2 i4=>exact i2.trans i4
 | whag n s a b z v z1 z2 r z' h1 h2 h3 h4 h5 h6 i2 i4 i6=>exact(i2.trans i4).trans i6
 | retn n s a b z v z' h1 h2 i2=>exact i2
 | tell n s a b z v z' h1 h2 i2=>exact⟨i2.1.trans (prefix_append _ _),i2.2⟩
 | only n s a b z v z' h1 h2 i2=>exact i2
 | nil n z=>exact mL.refl _
 | sdry n s q z h1=>exact mL.refl _
 | send n s q z r z' h1 h2 h3 i2=>exact i2
 | next n s q z z1 r z' h1 h2 h3 i2 i3=>exact i2.trans i3
 | blk n ss z r z' h1 i1=>exact i1
 | run n f vs z hf r z' h1 i1=>exact⟨i1.1,Int.le_trans (Int.le_max_left ..) i1.2⟩
theorem Ev.empty(h:Ev t fr n k s r s'):r=.out 2->s'.u=0:=by
 induction h using Ev_i with
 | kid n e A b st v j c s' h1 h2 h3 h4 h5 h6 i5 i6=>exact i6
 | dry n e A b st v h1 h2 h3 h4 h5 i4=>exact λ_=>h5
 | work n e A b st v h1 h2 h3 h4 h5 h6 i5=>
  intro I;unfold d7 at I
  (repeat' split at I) <;> simp at I
 | call n e A b st v f r s' h1 h2 h3 h4 h5 h6 i4 i6=>exact i6
 | left n e b s c s' h1 h2 h3 i3=>exact i3
 | ldry n e b s x s' h1 h2 h3 h4 i3=>exact λ_=>h4
 | lone n e b s x s' h1 h2 h3 h4 i3=>exact λI=>by cases I
 | rigt n e b s x s1 c s' h1 h2 h3 h4 h5 i3 i5=>exact i5
 | rdry n e b s x s1 y s' h1 h2 h3 h4 h5 h6 i3 i5=>exact λ_=>h6
 | both n e b s x s1 y s' h1 h2 h3 h4 h5 h6 i3 i5=>exact λI=>by cases I
 | pbad n s a b z c z' h1 i1=>exact i1
 | sbad n s a b z v z1 c z' h1 h2 h3 i2 i3=>exact i3
 | smis n s a b z v z1 x z' h1 h2 h3 h4 i2 i3=>exact λI=>by cases I
 | ifth n s a b z v z1 r z' h1 h2 h3 h4 i2 i4=>exact i4
 | ifel n s a b z z1 r z' h1 h2 h3 i2 i3=>exact i3
 | whn n s a b z v z1 r z' h1 h2 h3 h4 h5 i2 i4=>exact i4
 | whdr n s a b z v z1 z' h1 h2 h3 h4 h5 i2 i4=>exact λ_=>h5
 | whag n s a b z v z1 z2 r z' h1 h2 h3 h4 h5 h6 i2 i4 i6=>exact i6
 | sdry n s q z h1=>exact λ_=>h1
 | send n s q z r z' h1 h2 h3 i2=>exact i2
 | next n s q z z1 r z' h1 h2 h3 i2 i3=>exact i3
 | blk n ss z r z' h1 i1=>exact i1
 | run n f vs z hf r z' h1 i1=>exact λI=>i1 (by cases r using ER.cs <;> simp[ER.back]at I⊢ <;> exact I)
 | _=>exact λI=>by cases I
def ES.ad(s:ES)(d:Nat):ES:= {s with u:=s.u+d}
def ij(h:0<s.u):(s.ad d).sp=s.sp.ad d:=by
 unfold ES.ad ES.sp;have:s.u+d-1=s.u-1+d:=by omega
 simp only[this]
def Cl(t:Tr)(n:Nd)(v:Nat->Int)(s:ES)(d:Nat):d7 t n v (s.ad d)=((d7 t n v s).1,(d7 t n v s).2.ad d):=by
 have J:(s.ad d).rd t n.name=s.rd t n.name:=rfl;have I:(s.ad d).ws t n.name=s.ws t n.name:=rfl;have h:(s.ad d).i=s.i:=rfl;unfold d7;rw[J,I,h]
 (repeat' split) <;> rfl
def Eh(t:Tr)(s:ES)(d:Nat)(x:GA)(v:Int):(s.ad d).wr t x v=(s.wr t x v).ad d:=by
 unfold ES.wr;have h:(s.ad d).l=s.l:=rfl;rw[h]
 (repeat' split) <;> rfl
def Ei(t:Tr)(s:ES)(d:Nat)(x:GA)(j:Nat)(v:Int):(s.ad d).st t x j v=(s.st t x j v).ad d:=by
 unfold ES.st;split <;> rfl
def Ls(t:Tr)(fr:List Int)(n:Nat)(k:Tk)(d:Nat)(s:ES)(r:ER)(z':ES):Prop:=(∃s',z'=s'.ad d/\Ev t fr n k s r s')∨∃s',Ev t fr n k s (.out 2) s'/\mL s' z'
theorem jx{t:Tr}{fr:List Int}{n:Nat}{F:Nat->List Nd}{d:Nat}{st:Nat->ES}{v:Nat->Int}{s:ES}(h0:st 0=s.ad d):∀j,(∀i,i<j->Ev t fr n (.e (F i)) (st i) (.val (v i)) (st (i+1)))->(∀i,i<j->∀s d,st i=ES.ad s d->Ls t fr n (.e (F i)) d s (.val (v i)) (st (i+1))) ->
  (∃ss:Nat->ES,ss 0=s/\st j=(ss j).ad d/\∀i,i<j->Ev t fr n (.e (F i)) (ss i) (.val (v i)) (ss (i+1))) ∨
  ∃(q:Nat) (ss:Nat->ES) (s':ES),q<j/\ss 0=s/\(∀i,i<q->Ev t fr n (.e (F i)) (ss i) (.val (v i)) (ss (i+1)))/\Ev t fr n (.e (F q)) (ss q) (.out 2) s'/\mL s' (st j)
 | 0,_,_=>.inl ⟨λ_=>s,rfl,h0,λi hi=>by omega⟩
 | j+1,hE,hL=>by
  rcases jx h0 j (λi hi=>hE i o_) (λi hi=>hL i o_)with⟨ss,e0,ej,h1⟩|⟨q,ss,s',hq,e0,h1,h2,h3⟩
  ·rcases hL j o_ (ss j) d ej with⟨s',e1,h2⟩|⟨s',h2,h3⟩
   ·refine .inl ⟨λi=>if i<=j then ss i else s',by simp[e0],?_,λi hi=>?_⟩
    ·show _=ES.ad (if j+1<=j then ss (j+1)else s') d;rw[if_neg o_];exact e1
    ·by_cases e:i=j
     ·subst e;simp only[Nat.le_refl,if_true];rw[if_neg o_];exact h2
     ·simp only[show i<=j by omega,if_true];rw[if_pos o_];exact h1 i o_
   ·exact .inr ⟨j,ss,s',o_,e0,h1,h2,h3⟩
  ·exact .inr ⟨q,ss,s',o_,e0,h1,h2,h3.trans (hE j o_).gr⟩
def Ej:ER.out 2 ≠ .on:=λh=>by cases h
theorem Ev.less{z:ES}{z':ES}(h:Ev t fr n k z r z'):∀(s:ES) (d:Nat),z=s.ad d->Ls t fr n k d s r z':=by
 induction h using Ev_i with
 | kid n e A b st v j c s' h1 h2 h3 h4 h5 h6 i5 i6=>
  intro s d U;rcases jx U j h5 i5 with⟨ss,rfl,ej,I⟩|⟨q,ss,s1,hq,rfl,I,J,Z⟩
  ·rcases i6 _ _ ej with⟨s2,e2,J⟩|⟨s2,J,Z⟩
   ·exact .inl ⟨s2,e2,.kid n e A b ss v j c s2 h1 h2 h3 h4 I J⟩
   ·exact .inr ⟨s2,.kid n e A b ss v j 2 s2 h1 h2 h3 h4 I J,Z⟩
  ·exact .inr ⟨s1,.kid n e A b ss v q 2 s1 h1 h2 h3 o_ I J,Z.trans h6.gr⟩
 | dry n e A b st v h1 h2 h3 h4 h5 i4=>
  intro s d U;rcases jx U A h4 i4 with⟨ss,rfl,ej,I⟩|⟨q,ss,s1,hq,rfl,I,J,Z⟩
  ·refine .inl ⟨ss A,ej,.dry n e A b ss v h1 h2 h3 I ?_⟩;rw[ej]at h5;simp only[ES.ad]at h5;omega
  ·exact .inr ⟨s1,.kid n e A b ss v q 2 s1 h1 h2 h3 hq I J,Z⟩
 | work n e A b st v h1 h2 h3 h4 h5 h6 i5=>
  intro s d U;rcases jx U A h5 i5 with⟨ss,rfl,ej,I⟩|⟨q,ss,s1,hq,rfl,I,J,Z⟩
  ·by_cases hu:(ss A).u=0
   ·exact .inr ⟨ss A,.dry n e A b ss v h1 h2 h3 I hu,by rw[ej];exact oS t _ v ((ss A).ad d).sp⟩
   ·refine .inl ⟨(d7 t (aB e) v (ss A).sp).2,?_,?_⟩
    ·rw[ej,ij o_,Cl]
    ·have:=Ev.work (t:=t) (fr:=fr) n e A b ss v h1 h2 h3 h4 I o_
     rw[ej,ij o_,Cl];exact this
  ·exact .inr ⟨s1,.kid n e A b ss v q 2 s1 h1 h2 h3 hq I J,Z.trans (oS t _ v (st A).sp)⟩
 | call n e A b st v f r s' h1 h2 h3 h4 h5 h6 i4 i6=>
  intro s d U;have k8:(aB e).kind≠8:=by rw[h2];decide
  have k9:(aB e).kind≠9:=by rw[h2];decide
  rcases jx U A h4 i4 with⟨ss,rfl,ej,I⟩|⟨q,ss,s1,hq,rfl,I,J,Z⟩
  ·by_cases hu:(ss A).u=0
   ·refine .inr ⟨ss A,.dry n e A b ss v h1 k8 k9 I hu,?_⟩;have:=h6.gr
    rw[ej]at this;exact this
   ·rcases i6 (ss A).sp d (by rw[ej,ij o_])with⟨s2,e2,J⟩|⟨s2,J,Z⟩
    ·exact .inl ⟨s2,e2,.call n e A b ss v f r s2 h1 h2 h3 I o_ J⟩
    ·exact .inr ⟨s2,.call n e A b ss v f _ s2 h1 h2 h3 I o_ J,Z⟩
  ·exact .inr ⟨s1,.kid n e A b ss v q 2 s1 h1 k8 k9 hq I J,Z.trans h6.gr⟩
 | left n e b z c z' h1 h2 h3 i3=>
  intro s d U;rcases i3 s d U with⟨s1,Y,I⟩|⟨s1,I,J⟩
  ·exact .inl ⟨s1,Y,.left n e b s c s1 h1 h2 I⟩
  ·exact .inr ⟨s1,.left n e b s 2 s1 h1 h2 I,J⟩
 | ldry n e b z x z' h1 h2 h3 h4 i3=>
  intro s d U;rcases i3 s d U with⟨s1,Y,I⟩|⟨s1,I,J⟩
  ·refine .inl ⟨s1,Y,.ldry n e b s x s1 h1 h2 I ?_⟩;rw[Y]at h4;simp only[ES.ad]at h4;omega
  ·exact .inr ⟨s1,.left n e b s 2 s1 h1 h2 I,J⟩
 | lone n e b z x z' h1 h2 h3 h4 i3=>
  intro s d U;have Ja:(aB e).kind=8∨(aB e).kind=9:=by rcases h2 with h|h <;> simp[h.1]
  rcases i3 s d U with⟨s1,Y,I⟩|⟨s1,I,J⟩
  ·by_cases hu:s1.u=0
   ·exact .inr ⟨s1,.ldry n e b s x s1 h1 Ja I hu,by rw[Y];exact mL.refl s1⟩
   ·exact .inl ⟨s1.sp,by rw[Y,ij o_],.lone n e b s x s1 h1 h2 I o_⟩
  ·exact .inr ⟨s1,.left n e b s 2 s1 h1 Ja I,J⟩
 | rigt n e b z x z1 c z' h1 h2 h3 h4 h5 i3 i5=>
  intro s d U;have Ja:(aB e).kind=8∨(aB e).kind=9:=by rcases h2 with h|h <;> simp[h.1]
  rcases i3 s d U with⟨s1,Y,I⟩|⟨s1,I,J⟩
  ·by_cases hu:s1.u=0
   ·refine .inr ⟨s1,.ldry n e b s x s1 h1 Ja I hu,?_⟩;have:=h5.gr
    rw[Y]at this;exact this
   ·rcases i5 s1.sp d (by rw[Y,ij o_])with⟨s2,e2,J⟩|⟨s2,J,Z⟩
    ·exact .inl ⟨s2,e2,.rigt n e b s x s1 c s2 h1 h2 I o_ J⟩
    ·exact .inr ⟨s2,.rigt n e b s x s1 2 s2 h1 h2 I o_ J,Z⟩
  ·exact .inr ⟨s1,.left n e b s 2 s1 h1 Ja I,J.trans h5.gr⟩
 | rdry n e b z x z1 y z' h1 h2 h3 h4 h5 h6 i3 i5=>
  intro s d U;have Ja:(aB e).kind=8∨(aB e).kind=9:=by rcases h2 with h|h <;> simp[h.1]
  rcases i3 s d U with⟨s1,Y,I⟩|⟨s1,I,J⟩
  ·by_cases hu:s1.u=0
   ·refine .inr ⟨s1,.ldry n e b s x s1 h1 Ja I hu,?_⟩;have:=h5.gr
    rw[Y]at this;exact this
   ·rcases i5 s1.sp d (by rw[Y,ij o_])with⟨s2,e2,J⟩|⟨s2,J,Z⟩
    ·refine .inl ⟨s2,e2,.rdry n e b s x s1 y s2 h1 h2 I o_ J ?_⟩;rw[e2]at h6;simp only[ES.ad]at h6;omega
    ·exact .inr ⟨s2,.rigt n e b s x s1 2 s2 h1 h2 I o_ J,Z⟩
  ·exact .inr ⟨s1,.left n e b s 2 s1 h1 Ja I,J.trans h5.gr⟩
 | both n e b z x z1 y z' h1 h2 h3 h4 h5 h6 i3 i5=>
  intro s d U;have Ja:(aB e).kind=8∨(aB e).kind=9:=by rcases h2 with h|h <;> simp[h.1]
  rcases i3 s d U with⟨s1,Y,I⟩|⟨s1,I,J⟩
  ·by_cases hu:s1.u=0
   ·refine .inr ⟨s1,.ldry n e b s x s1 h1 Ja I hu,?_⟩;have:=h5.gr
    rw[Y]at this;exact this
   ·rcases i5 s1.sp d (by rw[Y,ij o_])with⟨s2,e2,J⟩|⟨s2,J,Z⟩
    ·by_cases hv:s2.u=0
     ·exact .inr ⟨s2,.rdry n e b s x s1 y s2 h1 h2 I o_ J hv,by rw[e2];exact mL.refl s2⟩
     ·exact .inl ⟨s2.sp,by rw[e2,ij o_],.both n e b s x s1 y s2 h1 h2 I o_ J o_⟩
    ·exact .inr ⟨s2,.rigt n e b s x s1 2 s2 h1 h2 I o_ J,Z⟩
  ·exact .inr ⟨s1,.left n e b s 2 s1 h1 Ja I,J.trans h5.gr⟩
 | pbad n s a b z c z' h1 i1=>
  intro z0 d U;rcases i1 z0 d U with⟨s1,Y,I⟩|⟨s1,I,J⟩
  ·exact .inl ⟨s1,Y,.pbad n s a b z0 c s1 I⟩
  ·exact .inr ⟨s1,.pbad n s a b z0 2 s1 I,J⟩
 | decl n s a b z v z' h1 h2 i2=>
  intro z0 d U;rcases i2 z0 d U with⟨s1,rfl,I⟩|⟨s1,I,J⟩
  ·exact .inl ⟨_,rfl,.decl n s a b z0 v s1 h1 I⟩
  ·exact .inr ⟨s1,.pbad n s a b z0 2 s1 I,J⟩
 | set n s a b z v z' h1 h2 i2=>
  intro z0 d U;rcases i2 z0 d U with⟨s1,rfl,I⟩|⟨s1,I,J⟩
  ·exact .inl ⟨_,Eh ..,.set n s a b z0 v s1 h1 I⟩
  ·exact .inr ⟨s1,.pbad n s a b z0 2 s1 I,J.trans (tL ..)⟩
 | sbad n s a b z v z1 c z' h1 h2 h3 i2 i3=>
  intro z0 d U;rcases i2 z0 d U with⟨s1,Y,I⟩|⟨s1,I,J⟩
  ·rcases i3 s1 d Y with⟨s2,e2,J⟩|⟨s2,J,Z⟩
   ·exact .inl ⟨s2,e2,.sbad n s a b z0 v s1 c s2 h1 I J⟩
   ·exact .inr ⟨s2,.sbad n s a b z0 v s1 2 s2 h1 I J,Z⟩
  ·exact .inr ⟨s1,.pbad n s a b z0 2 s1 I,J.trans h3.gr⟩
 | smis n s a b z v z1 x z' h1 h2 h3 h4 i2 i3=>
  intro z0 d U;rcases i2 z0 d U with⟨s1,Y,I⟩|⟨s1,I,J⟩
  ·rcases i3 s1 d Y with⟨s2,rfl,J⟩|⟨s2,J,Z⟩
   ·exact .inl ⟨s2,rfl,.smis n s a b z0 v s1 x s2 h1 I J h4⟩
   ·exact .inr ⟨s2,.sbad n s a b z0 v s1 2 s2 h1 I J,Z⟩
  ·exact .inr ⟨s1,.pbad n s a b z0 2 s1 I,J.trans h3.gr⟩
 | stor n s a b z v z1 x z' h1 h2 h3 h4 i2 i3=>
  intro z0 d U;rcases i2 z0 d U with⟨s1,Y,I⟩|⟨s1,I,J⟩
  ·rcases i3 s1 d Y with⟨s2,rfl,J⟩|⟨s2,J,Z⟩
   ·exact .inl ⟨_,Ei ..,.stor n s a b z0 v s1 x s2 h1 I J h4⟩
   ·exact .inr ⟨s2,.sbad n s a b z0 v s1 2 s2 h1 I J,Z.trans (oT ..)⟩
  ·exact .inr ⟨s1,.pbad n s a b z0 2 s1 I,(J.trans h3.gr).trans (oT ..)⟩
 | ifth n s a b z v z1 r z' h1 h2 h3 h4 i2 i4=>
  intro z0 d U;rcases i2 z0 d U with⟨s1,Y,I⟩|⟨s1,I,J⟩
  ·rcases i4 s1 d Y with⟨s2,e2,J⟩|⟨s2,J,Z⟩
   ·exact .inl ⟨s2,e2,.ifth n s a b z0 v s1 r s2 h1 I h3 J⟩
   ·exact .inr ⟨s2,.ifth n s a b z0 v s1 _ s2 h1 I h3 J,Z⟩
  ·exact .inr ⟨s1,.pbad n s a b z0 2 s1 I,J.trans h4.gr⟩
 | ifel n s a b z z1 r z' h1 h2 h3 i2 i3=>
  intro z0 d U;rcases i2 z0 d U with⟨s1,Y,I⟩|⟨s1,I,J⟩
  ·rcases i3 s1 d Y with⟨s2,e2,J⟩|⟨s2,J,Z⟩
   ·exact .inl ⟨s2,e2,.ifel n s a b z0 s1 r s2 h1 I J⟩
   ·exact .inr ⟨s2,.ifel n s a b z0 s1 _ s2 h1 I J,Z⟩
  ·exact .inr ⟨s1,.pbad n s a b z0 2 s1 I,J.trans h3.gr⟩
 | whno n s a b z z' h1 h2 i2=>
  intro z0 d U;rcases i2 z0 d U with⟨s1,Y,I⟩|⟨s1,I,J⟩
  ·exact .inl ⟨s1,Y,.whno n s a b z0 s1 h1 I⟩
  ·exact .inr ⟨s1,.pbad n s a b z0 2 s1 I,J⟩
 | whn n s a b z v z1 r z' h1 h2 h3 h4 h5 i2 i4=>
  intro z0 d U;rcases i2 z0 d U with⟨s1,Y,I⟩|⟨s1,I,J⟩
  ·rcases i4 s1 d Y with⟨s2,e2,J⟩|⟨s2,J,Z⟩
   ·exact .inl ⟨s2,e2,.whn n s a b z0 v s1 r s2 h1 I h3 J h5⟩
   ·exact .inr ⟨s2,.whn n s a b z0 v s1 _ s2 h1 I h3 J Ej,Z⟩
  ·exact .inr ⟨s1,.pbad n s a b z0 2 s1 I,J.trans h4.gr⟩
 | whdr n s a b z v z1 z' h1 h2 h3 h4 h5 i2 i4=>
  intro z0 d U;rcases i2 z0 d U with⟨s1,Y,I⟩|⟨s1,I,J⟩
  ·rcases i4 s1 d Y with⟨s2,e2,J⟩|⟨s2,J,Z⟩
   ·refine .inl ⟨s2,e2,.whdr n s a b z0 v s1 s2 h1 I h3 J ?_⟩;rw[e2]at h5;simp only[ES.ad]at h5;omega
   ·exact .inr ⟨s2,.whn n s a b z0 v s1 _ s2 h1 I h3 J Ej,Z⟩
  ·exact .inr ⟨s1,.pbad n s a b z0 2 s1 I,J.trans h4.gr⟩
 | whag n s a b z v z1 z2 r z' h1 h2 h3 h4 h5 h6 i2 i4 i6=>
  intro z0 d U;rcases i2 z0 d U with⟨s1,Y,I⟩|⟨s1,I,J⟩
  ·rcases i4 s1 d Y with⟨s2,e2,J⟩|⟨s2,J,Z⟩
   ·by_cases hu:s2.u=0
    ·refine .inr ⟨s2,.whdr n s a b z0 v s1 s2 h1 I h3 J hu,?_⟩;have:=h6.gr
     rw[e2]at this;exact this
    ·rcases i6 s2.sp d (by rw[e2,ij o_])with⟨s3,e3,Z⟩|⟨s3,Z,g4⟩
     ·exact .inl ⟨s3,e3,.whag n s a b z0 v s1 s2 r s3 h1 I h3 J o_ Z⟩
     ·exact .inr ⟨s3,.whag n s a b z0 v s1 s2 _ s3 h1 I h3 J o_ Z,g4⟩
   ·exact .inr ⟨s2,.whn n s a b z0 v s1 _ s2 h1 I h3 J Ej,Z.trans h6.gr⟩
  ·exact .inr ⟨s1,.pbad n s a b z0 2 s1 I,(J.trans h4.gr).trans h6.gr⟩
 | retn n s a b z v z' h1 h2 i2=>
  intro z0 d U;rcases i2 z0 d U with⟨s1,Y,I⟩|⟨s1,I,J⟩
  ·exact .inl ⟨s1,Y,.retn n s a b z0 v s1 h1 I⟩
  ·exact .inr ⟨s1,.pbad n s a b z0 2 s1 I,J⟩
 | tell n s a b z v z' h1 h2 i2=>
  intro z0 d U;rcases i2 z0 d U with⟨s1,rfl,I⟩|⟨s1,I,J⟩
  ·exact .inl ⟨_,rfl,.tell n s a b z0 v s1 h1 I⟩
  ·exact .inr ⟨s1,.pbad n s a b z0 2 s1 I,J.trans ⟨prefix_append _ _,Int.le_refl _⟩⟩
 | only n s a b z v z' h1 h2 i2=>
  intro z0 d U;rcases i2 z0 d U with⟨s1,Y,I⟩|⟨s1,I,J⟩
  ·exact .inl ⟨s1,Y,.only n s a b z0 v s1 h1 I⟩
  ·exact .inr ⟨s1,.pbad n s a b z0 2 s1 I,J⟩
 | nil n z=>exact λs d U=>.inl ⟨s,U,.nil n s⟩
 | sdry n s q z h1=>
  intro z0 d U;refine .inl ⟨z0,U,.sdry n s q z0 ?_⟩;rw[U]at h1;simp only[ES.ad]at h1;omega
 | send n s q z r z' h1 h2 h3 i2=>
  intro z0 d U;subst U;by_cases hu:z0.u=0
  ·exact .inr ⟨z0,.sdry n s q z0 hu,h2.gr⟩
  ·rcases i2 z0.sp d (ij o_)with⟨s1,Y,I⟩|⟨s1,I,J⟩
   ·exact .inl ⟨s1,Y,.send n s q z0 r s1 o_ I h3⟩
   ·exact .inr ⟨s1,.send n s q z0 _ s1 o_ I Ej,J⟩
 | next n s q z z1 r z' h1 h2 h3 i2 i3=>
  intro z0 d U;subst U;by_cases hu:z0.u=0
  ·exact .inr ⟨z0,.sdry n s q z0 hu,mL.trans h2.gr h3.gr⟩
  ·rcases i2 z0.sp d (ij o_)with⟨s1,Y,I⟩|⟨s1,I,J⟩
   ·rcases i3 s1 d Y with⟨s2,e2,J⟩|⟨s2,J,Z⟩
    ·exact .inl ⟨s2,e2,.next n s q z0 s1 r s2 o_ I J⟩
    ·exact .inr ⟨s2,.next n s q z0 s1 _ s2 o_ I J,Z⟩
   ·exact .inr ⟨s1,.send n s q z0 _ s1 o_ I Ej,J.trans h3.gr⟩
 | blk n ss z r z' h1 i1=>
  intro z0 d U;rcases i1 z0 d U with⟨s1,rfl,I⟩|⟨s1,I,J⟩
  ·subst U;exact .inl ⟨_,rfl,.blk n ss z0 r s1 I⟩
  ·exact .inr ⟨_,.blk n ss z0 _ s1 I,J⟩
 | run n f vs z hf r z' h1 i1=>
  intro z0 d U;subst U;rcases i1 {z0 with l:=cP t.funcs[f] vs,n:=z0.n+fr.getD f 0,d:=max z0.d (z0.n+fr.getD f 0)} d rfl with⟨s1,rfl,I⟩|⟨s1,I,J⟩
  ·exact .inl ⟨_,rfl,.run n f vs z0 hf r s1 I⟩
  ·exact .inr ⟨_,.run n f vs z0 hf _ s1 I,J⟩
end
structure OkW (s:ES):Prop where
 g:∀ws∈s.g,∀x∈ws,et x
 l:∀x∈s.l,et x.2
 i:∀x∈s.i,et x
def ye(a:Int):et (A1 a):=by unfold et A1 RowKit.wrap32;omega
def rS:et 0:=by unfold et;omega
def lJ(b:Bool):et (boolN b):=by unfold et boolN;cases b <;> simp
def CO(h a:Int):et (kM h a):=by
 unfold kM;split
 ·exact ye _
 ·split
  ·exact lJ _
  ·exact ye _
def tM{l:List Int}(h:∀x∈l,et x)(j:Nat):et (l.getD j 0):=by
 unfold List.getD;by_cases hj:j<l.length
 ·rw[GH hj];exact h _ (g_ hj)
 ·rw[getElem?_eq_none o_];exact rS
def jy{g:List (List Int)}(h:∀ws∈g,∀x∈ws,et x)(k:Nat):∀x∈g.getD k [],et x:=by
 unfold List.getD;by_cases hk:k<g.length
 ·rw[GH hk];exact h _ (g_ hk)
 ·rw[getElem?_eq_none o_];intro x I;cases I
def Ek{t:Tr}{s:ES}(h:OkW s)(x:GA):et (s.rd t x):=by
 unfold ES.rd;split
 ·rename_i j _;unfold List.getD;by_cases hj:j<s.l.length
  ·rw[GH hj];exact h.l _ (g_ hj)
  ·rw[getElem?_eq_none o_];exact rS
 ·split
  ·exact tM (jy h.g _) 0
  ·exact rS
def El{t:Tr}{s:ES}(h:OkW s)(x:GA):∀y∈s.ws t x,et y:=by
 unfold ES.ws;split
 ·exact jy h.g _
 ·intro y I;cases I
def rT{l:List Int}(h:∀x∈l,et x)(j:Nat){v:Int}(hv:et v):∀x∈l.set j v,et x:=λx hx=>by
 rcases mem_or_eq_of_mem_set hx with hx|rfl
 ·exact h x hx
 ·exact hv
def oU{g:List (List Int)}(h:∀ws∈g,∀x∈ws,et x)(k:Nat){l:List Int}(hl:∀x∈l,et x):∀ws∈g.set k l,∀x∈ws,et x:=λws hw=>by
 rcases mem_or_eq_of_mem_set hw with hw|rfl
 ·exact h ws hw
 ·exact hl
def lens_set{g:List (List Int)}{k j:Nat}{v:Int}:(g.set k ((g.getD k []).set j v)).map List.length=g.map List.length:=by
 apply ext_getElem
 ·simp
 ·intro i I h2;simp only[getElem_map,getElem_set];split
  ·rename_i e;subst e;have h:k<g.length:=Fc h2
   simp[List.getD,h]
  ·rfl
def yf{t:Tr}{s:ES}{x:GA}{v:Int}:(s.wr t x v).g.map List.length=s.g.map List.length/\(s.wr t x v).n=s.n/\(s.wr t x v).l.map Prod.fst=s.l.map Prod.fst/\(s.wr t x v).o=s.o/\(s.wr t x v).i=s.i/\(s.wr t x v).d=s.d:=by
 unfold ES.wr;split
 ·rename_i j hj;refine⟨rfl,rfl,?_,rfl,rfl,rfl⟩;apply ext_getElem
  ·simp
  ·intro i J h2;simp only[getElem_map,getElem_set];split
   ·rename_i e;subst e;have U:j<s.l.length:=Fc h2
    obtain⟨h,I,-⟩:=findIdx?_eq_some_iff_getElem.1 hj;simp only[GF]at I;exact I.symm
   ·rfl
 ·split
  ·exact⟨lens_set,rfl,rfl,rfl,rfl,rfl⟩
  ·exact⟨rfl,rfl,rfl,rfl,rfl,rfl⟩
def yg{t:Tr}{s:ES}(h:OkW s)(x:GA){v:Int}(J:et v):OkW (s.wr t x v):=by
 unfold ES.wr;split
 ·refine⟨h.g,λy I=>?_,h.i⟩;rcases mem_or_eq_of_mem_set I with I|rfl
  ·exact h.l y I
  ·exact J
 ·split
  ·exact⟨oU h.g _ (rT (jy h.g _) _ J),h.l,h.i⟩
  ·exact h
def yh{t:Tr}{s:ES}{x:GA}{j:Nat}{v:Int}:(s.st t x j v).g.map List.length=s.g.map List.length/\(s.st t x j v).n=s.n/\(s.st t x j v).l=s.l/\(s.st t x j v).o=s.o/\(s.st t x j v).i=s.i/\(s.st t x j v).d=s.d:=by
 unfold ES.st;split
 ·exact⟨lens_set,rfl,rfl,rfl,rfl,rfl⟩
 ·exact⟨rfl,rfl,rfl,rfl,rfl,rfl⟩
def Cm{t:Tr}{s:ES}(h:OkW s)(x:GA)(j:Nat){v:Int}(I:et v):OkW (s.st t x j v):=by
 unfold ES.st;split
 ·exact⟨oU h.g _ (rT (jy h.g _) _ I),h.l,h.i⟩
 ·exact h
def tN(t:Tr)(n:Nd)(v:Nat->Int)(s:ES):(d7 t n v s).2.g=s.g/\(d7 t n v s).2.n=s.n/\(d7 t n v s).2.l=s.l/\(d7 t n v s).2.o=s.o/\(d7 t n v s).2.d=s.d:=by
 unfold d7
 (repeat' split) <;> exact⟨rfl,rfl,rfl,rfl,rfl⟩
def A8{t:Tr}{n:Nd}{v:Nat->Int}{s:ES}(h:OkW s)(I:n.kind=1->et n.val):OkW (d7 t n v s).2/\∀x,(d7 t n v s).1=.val x->et x:=by
 unfold d7;split
 ·rename_i hk;exact⟨h,λx hx=>by cases hx;exact I hk⟩
 split
 ·exact⟨h,λx hx=>by cases hx;exact Ek h _⟩
 split
 ·split
  ·exact⟨h,λx hx=>by cases hx;exact tM (El h _) _⟩
  ·exact⟨h,λx hx=>by cases hx⟩
 split
 ·split
  ·exact⟨h,λx hx=>by cases hx;exact rS⟩
  ·rename_i y r hi;exact⟨⟨h.g,h.l,λz hz=>h.i z (by rw[hi];exact m_ _ hz)⟩,λx hx=>by cases hx;exact h.i _ (by rw[hi];exact mem_cons_self ..)⟩
 split
 ·exact⟨h,λx hx=>by cases hx;exact CO _ _⟩
 ·exact⟨h,λx hx=>by cases hx;exact Eg _ _ _⟩
def Sh(k:Tk)(s s':ES):Prop:=s'.g.map List.length=s.g.map List.length/\s'.n=s.n/\s'.u<=s.u /\
 (match k with
 | .inl _ =>s'.l=s.l
 | .inr (.inr (.inr (.inr (_, _)))) =>s'.l=s.l
 | .inr (.inr (.inr (.inl _))) =>s'.l.map Prod.fst=s.l.map Prod.fst
 | _=>∃m,s'.l.map Prod.fst=s.l.map Prod.fst++m)
def Tk.ok:Tk->Prop
 | .inr (.inr (.inr (.inr (_, vs)))) =>∀x∈vs,et x
 | _=>True
theorem Em{t:Tr}{fr:List Int}{n:Nat}{e:List Nd}{b:Nat->Nat}{st:Nat->ES}{v:Nat->Int}{j:Nat}(h:∀i,i<j->OkW (st i)->OkW (st (i+1))/\et (v i)/\Sh (.e (kid e b i)) (st i) (st (i+1)))(h0:OkW (st 0)):∀i,i<=j->OkW (st i)/\Sh (.e []) (st 0) (st i)/\∀k,k<i->et (v k):=by
 intro i;induction i with
 | zero=>exact λ_=>⟨h0,⟨rfl,rfl,n_,rfl⟩,λk hk=>absurd hk o_⟩
 | succ i ih=>
  intro hi;obtain⟨Y,⟨Z,a3,I,a5⟩,a6⟩:=ih o_;obtain⟨J,b2,⟨b3,b4,U,b6⟩⟩:=h i o_ Y;refine⟨J,⟨b3.trans Z,b4.trans a3,t_ U I,b6.trans a5⟩,λk hk=>?_⟩;by_cases e:k=i
  ·subst e;exact b2
  ·exact a6 k o_
theorem Ev.inv{t:Tr}{fr:List Int}{n:Nat}{k:Tk}{s:ES}{r:ER}{s':ES}(h:Ev t fr n k s r s'):OkW s->k.ok->OkW s'/\(∀v,r=.val v∨r=.ret v->et v)/\Sh k s s':=by
 have sp:∀ {s:ES},OkW s->OkW s.sp:=λh=>⟨h.g,h.l,h.i⟩;have Ja:∀(s:ES),s.sp.u<=s.u:=λs=>by simp only[ES.sp];omega
 induction h using Ev_i with
 | kid n e A b st v j c s' h1 h2 h3 h4 h5 h6 i5 i6=>
  intro U _;obtain⟨a1,a2,a3⟩:=Em (t:=t) (fr:=fr) (n:=n) (e:=e) (b:=b) (λi hi h0=>by obtain⟨J,Y,I⟩:=i5 i hi h0 trivial;exact⟨J,Y _ (.inl rfl),I⟩) U j n_;obtain⟨J,Y,I⟩:=i6 a1 trivial;exact⟨J,(λv hv=>by rcases hv with hv|hv <;> cases hv),⟨I.1.trans a2.1,I.2.1.trans a2.2.1,t_ I.2.2.1 a2.2.2.1,I.2.2.2.trans a2.2.2.2⟩⟩
 | dry n e A b st v h1 h2 h3 h4 h5 i4=>
  intro U _;obtain⟨a1,a2,a3⟩:=Em (t:=t) (fr:=fr) (n:=n) (e:=e) (b:=b) (λi hi h0=>by obtain⟨J,Y,I⟩:=i4 i hi h0 trivial;exact⟨J,Y _ (.inl rfl),I⟩) U A n_;exact⟨a1,(λv hv=>by rcases hv with hv|hv <;> cases hv),a2⟩
 | work n e A b st v h1 h2 h3 h4 h5 h6 i5=>
  intro U _;obtain⟨a1,a2,a3⟩:=Em (t:=t) (fr:=fr) (n:=n) (e:=e) (b:=b) (λi hi h0=>by obtain⟨J,Y,I⟩:=i5 i hi h0 trivial;exact⟨J,Y _ (.inl rfl),I⟩) U A n_;have hg:=h1.root_good;obtain⟨w1,w2⟩:=A8 (t:=t) (n:=aB e) (v:=v) (sp a1) (λhk=>by
   unfold aD at hg;unfold et;simp[hk]at hg;omega)
  obtain⟨y1,y2,y3,y4,y5⟩:=tN t (aB e) v (st A).sp;refine⟨w1,λx hx=>?_,⟨by rw[y1];exact a2.1,by rw[y2];exact a2.2.1,by rw[rR];exact t_ (Ja _) a2.2.2.1,by show(d7 t (aB e) v (st A).sp).2.l=_;rw[y3];exact a2.2.2.2⟩⟩;rcases hx with hx|hx
  ·exact w2 x hx
  ·exfalso
   revert hx
   unfold d7
   (repeat' split) <;> simp
 | call n e A b st v f r s' h1 h2 h3 h4 h5 h6 i4 i6=>
  intro U _;obtain⟨a1,a2,a3⟩:=Em (t:=t) (fr:=fr) (n:=n) (e:=e) (b:=b) (λi hi h0=>by obtain⟨J,Y,I⟩:=i4 i hi h0 trivial;exact⟨J,Y _ (.inl rfl),I⟩) U A n_;obtain⟨J,Y,I⟩:=i6 (sp a1) (λx hx=>by obtain⟨k,hk,rfl⟩:=mem_map.1 hx;exact a3 k (mem_range.1 hk));exact⟨J,Y,⟨I.1.trans a2.1,I.2.1.trans a2.2.1,t_ I.2.2.1 (t_ (Ja _) a2.2.2.1),I.2.2.2.trans a2.2.2.2⟩⟩
 | left n e b s c s' h1 h2 h3 i3=>intro U _;obtain⟨J,Y,I⟩:=i3 U trivial;exact⟨J,(λv hv=>by rcases hv with hv|hv <;> cases hv),I⟩
 | ldry n e b s x s' h1 h2 h3 h4 i3=>intro U _;obtain⟨J,Y,I⟩:=i3 U trivial;exact⟨J,(λv hv=>by rcases hv with hv|hv <;> cases hv),I⟩
 | lone n e b s x s' h1 h2 h3 h4 i3=>
  intro U _;obtain⟨J,Y,I⟩:=i3 U trivial;exact⟨sp J,(λv hv=>by rcases hv with hv|hv <;> cases hv;exact lJ _),⟨I.1,I.2.1,t_ (Ja _) I.2.2.1,I.2.2.2⟩⟩
 | rigt n e b s x s1 c s' h1 h2 h3 h4 h5 i3 i5=>
  intro U _;obtain⟨J,Y,I⟩:=i3 U trivial;obtain⟨y1,y2,y3⟩:=i5 (sp J) trivial;exact⟨y1,(λv hv=>by rcases hv with hv|hv <;> cases hv),⟨y3.1.trans I.1,y3.2.1.trans I.2.1,t_ y3.2.2.1 (t_ (Ja _) I.2.2.1),y3.2.2.2.trans I.2.2.2⟩⟩
 | rdry n e b s x s1 y s' h1 h2 h3 h4 h5 h6 i3 i5=>
  intro U _;obtain⟨J,Y,I⟩:=i3 U trivial;obtain⟨y1,y2,y3⟩:=i5 (sp J) trivial;exact⟨y1,(λv hv=>by rcases hv with hv|hv <;> cases hv),⟨y3.1.trans I.1,y3.2.1.trans I.2.1,t_ y3.2.2.1 (t_ (Ja _) I.2.2.1),y3.2.2.2.trans I.2.2.2⟩⟩
 | both n e b s x s1 y s' h1 h2 h3 h4 h5 h6 i3 i5=>
  intro U _;obtain⟨J,Y,I⟩:=i3 U trivial;obtain⟨y1,y2,y3⟩:=i5 (sp J) trivial;exact⟨sp y1,(λv hv=>by rcases hv with hv|hv <;> cases hv;exact lJ _),⟨y3.1.trans I.1,y3.2.1.trans I.2.1,t_ (Ja _) (t_ y3.2.2.1 (t_ (Ja _) I.2.2.1)),y3.2.2.2.trans I.2.2.2⟩⟩
 | pbad n s a b z c z' h1 i1=>
  intro U _;obtain⟨J,Y,⟨I,Z,x5,x6⟩⟩:=i1 U trivial;exact⟨J,(λv hv=>by rcases hv with hv|hv <;> cases hv),⟨I,Z,x5,⟨[],by rw[x6];simp⟩⟩⟩
 | decl n s a b z v z' h1 h2 i2=>
  intro U _;obtain⟨J,Y,⟨I,Z,x5,x6⟩⟩:=i2 U trivial;refine⟨⟨J.g,λy hy=>?_,J.i⟩,(λv hv=>by rcases hv with hv|hv <;> cases hv),⟨I,Z,x5,⟨[s.name],by simp[x6]⟩⟩⟩;rcases GJ.1 hy with hy|hy
  ·exact J.l y hy
  ·simp only[GM]at hy;subst hy;exact Y v (.inl rfl)
 | set n s a b z v z' h1 h2 i2=>
  intro U _;obtain⟨J,Y,⟨I,Z,x5,x6⟩⟩:=i2 U trivial;obtain⟨y1,y2,y3,-⟩:= @yf t z' s.name v;exact⟨yg J _ (Y v (.inl rfl)),(λv hv=>by rcases hv with hv|hv <;> cases hv),⟨y1.trans I,y2.trans Z,by rw[CM];exact x5,⟨[],by rw[y3,x6];simp⟩⟩⟩
 | sbad n s a b z v z1 c z' h1 h2 h3 i2 i3=>
  intro U _;obtain⟨J,Y,⟨I,Z,x5,x6⟩⟩:=i2 U trivial;obtain⟨y1,y2,⟨y3,y4,y5,y6⟩⟩:=i3 J trivial;exact⟨y1,(λv hv=>by rcases hv with hv|hv <;> cases hv),⟨y3.trans I,y4.trans Z,t_ y5 x5,⟨[],by rw[y6,x6];simp⟩⟩⟩
 | smis n s a b z v z1 x z' h1 h2 h3 h4 i2 i3=>
  intro U _;obtain⟨J,Y,⟨I,Z,x5,x6⟩⟩:=i2 U trivial;obtain⟨y1,y2,⟨y3,y4,y5,y6⟩⟩:=i3 J trivial;exact⟨y1,(λv hv=>by rcases hv with hv|hv <;> cases hv),⟨y3.trans I,y4.trans Z,t_ y5 x5,⟨[],by rw[y6,x6];simp⟩⟩⟩
 | stor n s a b z v z1 x z' h1 h2 h3 h4 i2 i3=>
  intro U _;obtain⟨J,Y,⟨I,Z,x5,x6⟩⟩:=i2 U trivial;obtain⟨y1,y2,⟨y3,y4,y5,y6⟩⟩:=i3 J trivial;obtain⟨w1,w2,w3,-⟩:= @yh t z' s.name v.toNat x;exact⟨Cm y1 _ _ (y2 x (.inl rfl)),(λv hv=>by rcases hv with hv|hv <;> cases hv),⟨w1.trans (y3.trans I),w2.trans (y4.trans Z),by rw[CN];exact t_ y5 x5,⟨[],by rw[w3,y6,x6];simp⟩⟩⟩
 | ifth n s a b z v z1 r z' h1 h2 h3 h4 i2 i4=>
  intro U _;obtain⟨J,Y,⟨I,Z,x5,x6⟩⟩:=i2 U trivial;obtain⟨y1,y2,⟨y3,y4,y5,y6⟩⟩:=i4 J trivial;exact⟨y1,y2,⟨y3.trans I,y4.trans Z,t_ y5 x5,⟨[],by rw[y6,x6];simp⟩⟩⟩
 | ifel n s a b z z1 r z' h1 h2 h3 i2 i3=>
  intro U _;obtain⟨J,Y,⟨I,Z,x5,x6⟩⟩:=i2 U trivial;obtain⟨y1,y2,⟨y3,y4,y5,y6⟩⟩:=i3 J trivial;exact⟨y1,y2,⟨y3.trans I,y4.trans Z,t_ y5 x5,⟨[],by rw[y6,x6];simp⟩⟩⟩
 | whno n s a b z z' h1 h2 i2=>
  intro U _;obtain⟨J,Y,⟨I,Z,x5,x6⟩⟩:=i2 U trivial;exact⟨J,(λv hv=>by rcases hv with hv|hv <;> cases hv),⟨I,Z,x5,⟨[],by rw[x6];simp⟩⟩⟩
 | whn n s a b z v z1 r z' h1 h2 h3 h4 h5 i2 i4=>
  intro U _;obtain⟨J,Y,⟨I,Z,x5,x6⟩⟩:=i2 U trivial;obtain⟨y1,y2,⟨y3,y4,y5,y6⟩⟩:=i4 J trivial;exact⟨y1,y2,⟨y3.trans I,y4.trans Z,t_ y5 x5,⟨[],by rw[y6,x6];simp⟩⟩⟩
 | whdr n s a b z v z1 z' h1 h2 h3 h4 h5 i2 i4=>
  intro U _;obtain⟨J,Y,⟨I,Z,x5,x6⟩⟩:=i2 U trivial;obtain⟨y1,y2,⟨y3,y4,y5,y6⟩⟩:=i4 J trivial;exact⟨y1,(λv hv=>by rcases hv with hv|hv <;> cases hv),⟨y3.trans I,y4.trans Z,t_ y5 x5,⟨[],by rw[y6,x6];simp⟩⟩⟩
 | whag n s a b z v z1 z2 r z' h1 h2 h3 h4 h5 h6 i2 i4 i6=>
  intro U _;obtain⟨J,Y,⟨I,Z,x5,x6⟩⟩:=i2 U trivial;obtain⟨y1,y2,⟨y3,y4,y5,y6⟩⟩:=i4 J trivial;obtain⟨w1,w2,⟨w3,w4,w5,m,w6⟩⟩:=i6 (sp y1) trivial;refine⟨w1,w2,⟨w3.trans (y3.trans I),w4.trans (y4.trans Z),t_ w5 (t_ (Ja _) (t_ y5 x5)),⟨m,?_⟩⟩⟩;have e1:z2.sp.l=z2.l:=rfl;rw[w6,e1,y6,x6]
 | retn n s a b z v z' h1 h2 i2=>
  intro U _;obtain⟨J,Y,⟨I,Z,x5,x6⟩⟩:=i2 U trivial;exact⟨J,(λy hy=>by rcases hy with hy|hy <;> cases hy;exact Y v (.inl rfl)),⟨I,Z,x5,⟨[],by rw[x6];simp⟩⟩⟩
 | tell n s a b z v z' h1 h2 i2=>
  intro U _;obtain⟨J,Y,⟨I,Z,x5,x6⟩⟩:=i2 U trivial;exact⟨⟨J.g,J.l,J.i⟩,(λv hv=>by rcases hv with hv|hv <;> cases hv),⟨I,Z,x5,⟨[],by rw[x6];simp⟩⟩⟩
 | only n s a b z v z' h1 h2 i2=>
  intro U _;obtain⟨J,Y,⟨I,Z,x5,x6⟩⟩:=i2 U trivial;exact⟨J,(λv hv=>by rcases hv with hv|hv <;> cases hv),⟨I,Z,x5,⟨[],by rw[x6];simp⟩⟩⟩
 | nil n z=>intro U _;exact⟨U,(λv hv=>by rcases hv with hv|hv <;> cases hv),⟨rfl,rfl,n_,⟨[],i_⟩⟩⟩
 | sdry n s q z h1=>intro U _;exact⟨U,(λv hv=>by rcases hv with hv|hv <;> cases hv),⟨rfl,rfl,n_,⟨[],i_⟩⟩⟩
 | send n s q z r z' h1 h2 h3 i2=>
  intro U _;obtain⟨J,Y,⟨I,Z,x5,m,x6⟩⟩:=i2 (sp U) trivial;exact⟨J,Y,⟨I,Z,t_ x5 (Ja _),⟨m,x6⟩⟩⟩
 | next n s q z z1 r z' h1 h2 h3 i2 i3=>
  intro U _;obtain⟨J,Y,⟨I,Z,x5,m,x6⟩⟩:=i2 (sp U) trivial;obtain⟨y1,y2,⟨y3,y4,y5,m2,y6⟩⟩:=i3 J trivial;have e1:z.sp.l=z.l:=rfl;exact⟨y1,y2,⟨y3.trans I,y4.trans Z,t_ y5 (t_ x5 (Ja _)),⟨m++m2,by rw[y6,x6,e1];simp⟩⟩⟩
 | blk n ss z r z' h1 i1=>
  intro U _;obtain⟨J,Y,⟨I,Z,x5,m,x6⟩⟩:=i1 U trivial;refine⟨⟨J.g,λy hy=>J.l y (mem_of_mem_take hy),J.i⟩,Y,⟨I,Z,x5,?_⟩⟩;show(z'.l.take z.l.length).map Prod.fst=_;rw[map_take,x6];simp
 | run n f vs z hf r z' h1 i1=>
  intro U Jb;obtain⟨J,Y,⟨I,Z,x5,x6⟩⟩:=i1 ⟨U.g,λy hy=>Jb y.2 (of_mem_zip hy).2,U.i⟩ trivial;refine⟨⟨J.g,U.l,J.i⟩,λv hv=>?_,⟨I,?_,x5,rfl⟩⟩
  ·cases r using ER.cs with
   | val y=>rcases hv with hv|hv <;> cases hv;exact Y v (.inl rfl)
   | on=>rcases hv with hv|hv <;> cases hv;exact rS
   | ret y=>rcases hv with hv|hv <;> cases hv;exact Y v (.inr rfl)
   | out c=>rcases hv with hv|hv <;> cases hv
  ·show z'.n-fr.getD f 0=z.n;rw[Z];show z.n+fr.getD f 0-fr.getD f 0=z.n;omega
section
variable{s:St}{sc tk:List GA}{t:Tr}{e:List Nd}{gs:List Gl}{n:Nd}
def iP{I:List GA}{s:GA}:du I s=true↔s∈I:=by
 unfold du;rw[any_eq_true];constructor
 ·rintro⟨x,U,J⟩;exact(of_decide_eq_true J) ▸ U
 ·exact λh=>⟨s,h,decide_eq_true rfl⟩
def Cn(t:Tr)(ss:List St)(sc:List GA):Prop:=∃a tk,(∀x∈sc,x∈tk)/\(aQ t ss a sc tk).1=0
def tP(h:∀x∈sc,x∈tk):∀x∈be s sc,x∈be s tk:=by
 unfold be;split
 ·intro x hx;rcases GJ.1 hx with hx|hx
  ·exact mem_append_left _ (h x hx)
  ·exact mem_append_right _ hx
 ·exact h
def A9{x:GA}(h:x∈tk):x∈be s tk:=by
 unfold be;split
 ·exact mem_append_left _ h
 ·exact h
theorem tQ(t:Tr)(n:Nat):∀(ss:List St) (a:Int) (sc tk:List GA),ss.length<=n->∀x∈tk,x∈(aQ t ss a sc tk).2.2:=by
 induction n with
 | zero=>
  intro ss a sc tk h x I;obtain rfl:ss=[]:=GG o_;rw[fm];exact I
 | succ n ih=>
  intro ss a sc tk h x I;cases ss with
  | nil=>rw[fm];exact I
  | cons s r=>
   simp only[l_c]at h;by_cases h1:bX t sc tk s=0
   ·have J:=ih (r.take s.thn.toNat) (a+1) (be s sc) (be s tk) ZFs x (A9 I);by_cases h2:(aQ t (r.take s.thn.toNat) (a+1) (be s sc) (be s tk)).1=0
    ·have U:=ih ((r.drop s.thn.toNat).take s.els.toNat) (a+1+s.thn) (be s sc) _ ZFs x J;by_cases h3:(aQ t ((r.drop s.thn.toNat).take s.els.toNat) (a+1+s.thn) (be s sc) (aQ t (r.take s.thn.toNat) (a+1) (be s sc) (be s tk)).2.2).1=0
     ·rw[gq h1 h2 rfl h3 rfl];exact ih _ _ _ _ ZFs x U
     ·rw[gm h1 h2 rfl h3];exact U
    ·rw[gj h1 h2];exact J
   ·rw[fQ h1];exact I
def Cn.cons{q:List St}(h:Cn t (s::q) sc):(∃tk,(∀x∈sc,x∈tk)/\bX t sc tk s=0)/\Cn t (q.take s.thn.toNat) (be s sc)/\Cn t ((q.drop s.thn.toNat).take s.els.toNat) (be s sc)/\Cn t (q.drop (s.thn.toNat+s.els.toNat)) (be s sc):=by
 obtain⟨a,tk,I,h⟩:=h;by_cases h1:bX t sc tk s=0
 ·by_cases h2:(aQ t (q.take s.thn.toNat) (a+1) (be s sc) (be s tk)).1=0
  ·have s2:∀x∈be s sc,x∈(aQ t (q.take s.thn.toNat) (a+1) (be s sc) (be s tk)).2.2:=λx hx=>tQ t _ _ _ _ _ n_ x (tP I x hx);by_cases h3:(aQ t ((q.drop s.thn.toNat).take s.els.toNat) (a+1+s.thn) (be s sc) (aQ t (q.take s.thn.toNat) (a+1) (be s sc) (be s tk)).2.2).1=0
   ·rw[gq h1 h2 rfl h3 rfl]at h;exact⟨⟨tk,I,h1⟩,⟨_,_,tP I,h2⟩,⟨_,_,s2,h3⟩,⟨_,_,λx hx=>tQ t _ _ _ _ _ n_ x (s2 x hx),h⟩⟩
   ·rw[gm h1 h2 rfl h3]at h;exact absurd h h3
  ·rw[gj h1 h2]at h;exact absurd h h2
 ·rw[fQ h1]at h;exact absurd h h1
def rU(t:Tr)(sc:List GA)(e:List Nd):Prop:=∀n∈e,aS t sc n=0
theorem nl{t:Tr}{sc:List GA}:∀ {e:List Nd},bQ t sc e=0->rU t sc e
 | [],_,n,hn=>by cases hn
 | m::r,h,n,hn=>by
  simp only[bQ]at h;by_cases hm:aS t sc m=0
  ·rw[if_pos hm]at h;rcases mem_cons.1 hn with rfl|hn
   ·exact hm
   ·exact nl h n hn
  ·rw[if_neg hm]at h;exact absurd h hm
def rU.kid{b:Nat->Nat}{i:Nat}(h:rU t sc e):rU t sc (kid e b i):=λn hn=>h n (tK hn)
def tT{s:GA}(h:dR gs sc s false=0):s∈sc∨(s∉sc/\globI gs s=0):=by
 unfold dR at h;by_cases hi:du sc s=true
 ·exact .inl (iP.1 hi)
 ·rw[if_neg hi]at h;refine .inr ⟨λhm=>hi (iP.2 hm),?_⟩;split at h
  ·omega
  ·split at h
   ·rename_i h1 h2;simp at h2;omega
   ·omega
def tU{s:GA}(h:dR gs sc s true=0):s∉sc/\0<globI gs s:=by
 unfold dR at h;by_cases hi:du sc s=true
 ·simp[hi]at h
 ·rw[if_neg hi]at h;refine⟨λhm=>hi (iP.2 hm),?_⟩;split at h
  ·omega
  ·split at h
   ·rename_i h1 h2;simpa using h2
   ·omega
def qd(h:aS t sc n=0)(I:n.kind=2):n.name∈sc∨(n.name∉sc/\globI t.globals n.name=0):=by
 unfold aS at h;rw[if_pos (.inl I)]at h;have:decide (n.kind=3)=false:=by simp[I]
 rw[this]at h;exact tT h
def qe(h:aS t sc n=0)(I:n.kind=3):n.name∉sc/\0<globI t.globals n.name:=by
 unfold aS at h;rw[if_pos (.inr I)]at h;have:decide (n.kind=3)=true:=by simp[I]
 rw[this]at h;exact tU h
theorem jZ(h:aS t sc n=0)(I:n.kind=4):∃f,bO t.funcs n.name=some f/\((t.funcs.getD f ⟨⟨#[]⟩,[],[]⟩).params.length:Int)=n.val:=by
 unfold aS at h;rw[if_neg o_,if_pos I]at h;cases e:bO t.funcs n.name with
 | none=>rw[e]at h;simp at h
 | some f=>
  rw[e]at h;simp only at h;refine⟨f,rfl,?_⟩;by_cases hh:((t.funcs.getD f ⟨⟨#[]⟩,[],[]⟩).params.length:Int)=n.val
  ·exact hh
  ·rw[if_neg hh]at h;cases h
structure yi (t:Tr) (sc:List GA) (s:St):Prop where
 e:rU t sc s.e
 f:rU t sc s.f
 decl:s.kind=1->s.name∉sc/\globI t.globals s.name<0
 set:s.kind=2->s.name∈sc∨(s.name∉sc/\globI t.globals s.name=0)
 store:s.kind=3->s.name∉sc/\0<globI t.globals s.name
def tV(h:bX t sc tk s=0)(J:∀x∈sc,x∈tk):yi t sc s:=by
 unfold bX at h;by_cases he:bQ t sc (s.e++s.f)≠0
 ·rw[if_pos he]at h;exact absurd h he
 rw[if_neg he]at h;have I:=nl (show bQ t sc (s.e++s.f)=0 by simpa using he);refine⟨λn hn=>I n (mem_append_left _ hn),λn hn=>I n (mem_append_right _ hn),λI=>?_,λI=>?_,λI=>?_⟩
 ·rw[if_pos I]at h;by_cases hc:du tk s.name=true∨0<=globI t.globals s.name
  ·rw[if_pos hc]at h;cases h
  ·exact⟨λhm=>hc (.inl (iP.2 (J _ hm))),by have:=λh=>hc (.inr h);omega⟩
 ·rw[if_neg o_,if_pos (.inl I)]at h;have:decide (s.kind=3)=false:=by simp[I]
  rw[this]at h;exact tT h
 ·rw[if_neg o_,if_pos (.inr I)]at h;have:decide (s.kind=3)=true:=by simp[I]
  rw[this]at h;exact tU h
def jd(t:Tr)(sc:List GA):Prop:=sc.Nodup/\∀x∈sc,globI t.globals x<0
def jd.add(h:jd t sc)(I:yi t sc s):jd t (be s sc):=by
 unfold be;split
 ·rename_i h1;obtain⟨a,b⟩:=I.decl h1;refine⟨?_,λx hx=>?_⟩
  ·rw[nodup_append];exact⟨h.1,i_,λx hx y hy e=>by simp only[GM]at hy;subst hy;subst e;exact a hx⟩
  ·rcases GJ.1 hx with hx|hx
   ·exact h.2 x hx
   ·simp only[GM]at hx;subst hx;exact b
 ·exact h
theorem qg(gs:List Gl):∀(ps seen:List GA),seen.Nodup->(∀x∈seen,globI gs x<0)->fD gs seen ps=false->(seen++ps).Nodup/\∀x∈seen++ps,globI gs x<0
 | [],seen,hn,hg,_=>by simpa using⟨hn,hg⟩
 | p::r,seen,hn,hg,h=>by
  unfold fD at h;by_cases hc:du seen p=true∨0<=globI gs p
  ·rw[if_pos hc]at h;cases h
  ·rw[if_neg hc]at h;have hni:p∉seen:=λhm=>hc (.inl (iP.2 hm));have:=qg gs r (seen++[p]) (by
    rw[nodup_append];exact⟨hn,i_,λx hx y hy e=>by simp only[GM]at hy;subst hy;subst e;exact hni hx⟩) (λx hx=>by
    rcases GJ.1 hx with hx|hx
    ·exact hg x hx
    ·simp only[GM]at hx;subst hx;have:=λh=>hc (.inr h)
     omega) h
   simpa using this
theorem lL{t:Tr}:∀(fs:List Fu) (i:Nat),(bodiesE t i fs).1=0->∀f∈fs,∃j,(cZ t j f).1=0
 | [],i,_,f,hf=>by cases hf
 | g::r,i,h,f,hf=>by
  unfold bodiesE at h;by_cases hg:(cZ t i g).1≠0
  ·rw[if_pos hg]at h;exact absurd h hg
  ·rw[if_neg hg]at h;rcases mem_cons.1 hf with rfl|hf
   ·exact⟨i,Fc hg⟩
   ·exact lL r (i+1) h f hf
def dH(h:(aU t).1=0):df t=true/\(bP t).1=0/\∀f∈t.funcs,Cn t f.body f.params/\jd t f.params:=by
 unfold aU at h;by_cases h1:df t=false
 ·rw[if_pos h1]at h;simp at h
 rw[if_neg h1]at h;by_cases h2:(bP t).1≠0
 ·rw[if_pos h2]at h;exact absurd h h2
 rw[if_neg h2]at h;by_cases h3:(bodiesE t 0 t.funcs).1≠0
 ·rw[if_pos h3]at h;exact absurd h h3
 refine⟨Fc h1,Fc h2,λf hf=>?_⟩;obtain⟨j,I⟩:=lL t.funcs 0 (Fc h3) f hf;unfold cZ at I;by_cases hd:fD t.globals [] f.params=true
 ·rw[if_pos hd]at I;cases I
 ·rw[if_neg hd]at I;by_cases hb:(aQ t f.body 0 f.params f.params).1≠0
  ·rw[if_pos hb]at I;exact absurd I hb
  ·obtain⟨J,U⟩:=qg t.globals f.params [] nodup_nil i_ (Fc hd);exact⟨⟨0,f.params,λx hx=>hx,Fc hb⟩,Fc J,Fc U⟩
end
end Go.Proofs.YtffnkkpmlplfeaaGreatDoor

