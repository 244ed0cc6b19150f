import Derived.Test.YtffnkkpmlplfeaaGreatDoorN02
import Derived.Test.YtffnkkpmlplfeaaGreatDoorN03
namespace Go.Proofs.YtffnkkpmlplfeaaGreatDoor
set_option linter.all false
set_option maxRecDepth 100000
set_option maxHeartbeats 16000000
variable[Inhabited Pick]
structure ES where
 g:List (List Int)
 l:List (ByteArray × Int)
 i:List Int
 o:List Int
 u:Nat
 n:Int
 d:Int
abbrev ER : Type := Int ⊕ Unit ⊕ Int ⊕ Int
abbrev ER.val (v : Int) : ER := .inl v
abbrev ER.on : ER := .inr (.inl ())
abbrev ER.ret (v : Int) : ER := .inr (.inr (.inl v))
abbrev ER.out (c : Int) : ER := .inr (.inr (.inr c))
theorem ER.cs {motive : ER → Prop} (val : ∀ (v : Int), motive (ER.val v)) (on : motive (ER.on)) (ret : ∀ (v : Int), motive (ER.ret v)) (out : ∀ (c : Int), motive (ER.out c)) (t_ : ER) : motive t_ :=
  match t_ with
  | .inl x0_ => val x0_
  | .inr (.inl ()) => on
  | .inr (.inr (.inl x0_)) => ret x0_
  | .inr (.inr (.inr x0_)) => out x0_
abbrev Tk : Type := (List Nd) ⊕ (St × (List St) × (List St)) ⊕ (List St) ⊕ (List St) ⊕ (Nat × (List Int))
abbrev Tk.e (e : List Nd) : Tk := .inl e
abbrev Tk.p (s : St) (a : List St) (b : List St) : Tk := .inr (.inl (s, a, b))
abbrev Tk.sq (ss : List St) : Tk := .inr (.inr (.inl ss))
abbrev Tk.bl (ss : List St) : Tk := .inr (.inr (.inr (.inl ss)))
abbrev Tk.c (f : Nat) (vs : List Int) : Tk := .inr (.inr (.inr (.inr (f, vs))))
theorem Tk.cs {motive : Tk → Prop} (e : ∀ (e : List Nd), motive (Tk.e e)) (p : ∀ (s : St) (a : List St) (b : List St), motive (Tk.p s a b)) (sq : ∀ (ss : List St), motive (Tk.sq ss)) (bl : ∀ (ss : List St), motive (Tk.bl ss)) (c : ∀ (f : Nat) (vs : List Int), motive (Tk.c f vs)) (t_ : Tk) : motive t_ :=
  match t_ with
  | .inl x0_ => e x0_
  | .inr (.inl (x0_, x1_, x2_)) => p x0_ x1_ x2_
  | .inr (.inr (.inl x0_)) => sq x0_
  | .inr (.inr (.inr (.inl x0_))) => bl x0_
  | .inr (.inr (.inr (.inr (x0_, x1_)))) => c x0_ x1_
def ES.sp (s:ES):ES := {s with u:=s.u-1}
def lix (l:List (ByteArray × Int)) (x:ByteArray):Option Nat:=l.findIdx? (λy=>decide (y.1=x))
def gix (gs:List Gl) (x:ByteArray):Option Nat:=gs.findIdx? (λy=>decide (y.name=x))
def ES.rd (t:Tr) (s:ES) (x:ByteArray):Int:=
 match lix s.l x with
 | some j=>(s.l.getD j (⟨#[]⟩,0)).2
 | none=>match gix t.globals x with
  | some k=>(s.g.getD k []).getD 0 0
  | none=>0
def ES.wr (t:Tr) (s:ES) (x:ByteArray) (v:Int):ES:=
 match lix s.l x with
 | some j => {s with l:=s.l.set j (x,v)}
 | none=>match gix t.globals x with
  | some k => {s with g:=s.g.set k ((s.g.getD k []).set 0 v)}
  | none=>s
def ES.ws (t:Tr) (s:ES) (x:ByteArray):List Int:=match gix t.globals x with
 | some k=>s.g.getD k []
 | none=>[]
def ES.st (t:Tr) (s:ES) (x:ByteArray) (j:Nat) (v:Int):ES:=match gix t.globals x with
 | some k => {s with g:=s.g.set k ((s.g.getD k []).set j v)}
 | none=>s
def wkN (t:Tr) (n:Nd) (v:Nat->Int) (s:ES):ER × ES:=
 if n.kind=1 then (.val n.val,s)
 else if n.kind=2 then (.val (s.rd t n.name),s)
 else if n.kind=3 then (if 0<=v 0/\v 0<(s.ws t n.name).length then (.val ((s.ws t n.name).getD (v 0).toNat 0),s) else (.out 3,s))
 else if n.kind=5 then (match s.i with|[]=>(.val 0,s)|x::r=>(.val x,{s with i:=r}))
 else if n.kind=6 then (.val (unN n.val (v 0)),s)
 else (.val (apN n.val (v 0) (v 1)),s)
def argL (A:Nat) (v:Nat->Int):List Int:=(List.range A).map v
def parL (f:Fu) (vs:List Int):List (ByteArray × Int):=f.params.zip vs
def ER.back:ER->ER
 | .inr (.inl ()) =>.val 0
 | .inr (.inr (.inl v)) =>.val v
 | .inl v =>.val v
 | .inr (.inr (.inr c)) =>.out c
structure EvC (t:Tr)(fr:List Int)(P:Nat→Tk→ES→ER→ES→Prop):Prop where
 c_::
 dry(n:Nat)(e:List Nd)(A:Nat)(b:Nat->Nat)(st:Nat->ES)(v:Nat->Int):Cut e A b→((rootN e).kind≠8)→((rootN e).kind≠9)→(∀i,i<A->P n (.e (kid e b i)) (st i) (.val (v i)) (st (i+1)))→((st A).u=0)→P (n+1) (.e e) (st 0) (.out 2) (st A)
 work(n:Nat)(e:List Nd)(A:Nat)(b:Nat->Nat)(st:Nat->ES)(v:Nat->Int):Cut e A b→((rootN e).kind≠8)→((rootN e).kind≠9)→((rootN e).kind≠4)→(∀i,i<A->P n (.e (kid e b i)) (st i) (.val (v i)) (st (i+1)))→(0<(st A).u)→P (n+1) (.e e) (st 0) (wkN t (rootN e) v (st A).sp).1 (wkN t (rootN e) v (st A).sp).2
 call(n:Nat)(e:List Nd)(A:Nat)(b:Nat->Nat)(st:Nat->ES)(v:Nat->Int)(f:Nat)(r:ER)(s':ES):Cut e A b→((rootN e).kind=4)→(fnum t.funcs (rootN e).name=some f)→(∀i,i<A->P n (.e (kid e b i)) (st i) (.val (v i)) (st (i+1)))→(0<(st A).u)→P n (.c f (argL A v)) (st A).sp r s'→P (n+1) (.e e) (st 0) r s'
 left(n:Nat)(e:List Nd)(b:Nat->Nat)(s:ES)(c:Int)(s':ES):Cut e 2 b→((rootN e).kind=8∨(rootN e).kind=9)→P n (.e (kid e b 0)) s (.out c) s'→P (n+1) (.e e) s (.out c) s'
 ldry(n:Nat)(e:List Nd)(b:Nat->Nat)(s:ES)(x:Int)(s':ES):Cut e 2 b→((rootN e).kind=8∨(rootN e).kind=9)→P n (.e (kid e b 0)) s (.val x) s'→(s'.u=0)→P (n+1) (.e e) s (.out 2) s'
 lone(n:Nat)(e:List Nd)(b:Nat->Nat)(s:ES)(x:Int)(s':ES):Cut e 2 b→((rootN e).kind=8/\x=0∨(rootN e).kind=9/\x≠0)→P n (.e (kid e b 0)) s (.val x) s'→(0<s'.u)→P (n+1) (.e e) s (.val (boolN (decide (x≠0)))) s'.sp
 rigt(n:Nat)(e:List Nd)(b:Nat->Nat)(s:ES)(x:Int)(s1:ES)(c:Int)(s':ES):Cut e 2 b→((rootN e).kind=8/\x≠0∨(rootN e).kind=9/\x=0)→P n (.e (kid e b 0)) s (.val x) s1→(0<s1.u)→P n (.e (kid e b 1)) s1.sp (.out c) s'→P (n+1) (.e e) s (.out c) s'
 rdry(n:Nat)(e:List Nd)(b:Nat->Nat)(s:ES)(x:Int)(s1:ES)(y:Int)(s':ES):Cut e 2 b→((rootN e).kind=8/\x≠0∨(rootN e).kind=9/\x=0)→P n (.e (kid e b 0)) s (.val x) s1→(0<s1.u)→P n (.e (kid e b 1)) s1.sp (.val y) s'→(s'.u=0)→P (n+1) (.e e) s (.out 2) s'
 both(n:Nat)(e:List Nd)(b:Nat->Nat)(s:ES)(x:Int)(s1:ES)(y:Int)(s':ES):Cut e 2 b→((rootN e).kind=8/\x≠0∨(rootN e).kind=9/\x=0)→P n (.e (kid e b 0)) s (.val x) s1→(0<s1.u)→P n (.e (kid e b 1)) s1.sp (.val y) s'→(0<s'.u)→P (n+1) (.e e) s (.val (boolN (decide (y≠0)))) s'.sp
 pbad(n:Nat)(s:St)(a b:List St)(z:ES)(c:Int)(z':ES):P n (.e s.e) z (.out c) z'→P (n+1) (.p s a b) z (.out c) z'
 decl(n:Nat)(s:St)(a b:List St)(z:ES)(v:Int)(z':ES):(s.kind=1)→P n (.e s.e) z (.val v) z'→P (n+1) (.p s a b) z .on {z' with l:=z'.l++[(s.name,v)]}
 set(n:Nat)(s:St)(a b:List St)(z:ES)(v:Int)(z':ES):(s.kind=2)→P n (.e s.e) z (.val v) z'→P (n+1) (.p s a b) z .on (z'.wr t s.name v)
 sbad(n:Nat)(s:St)(a b:List St)(z:ES)(v:Int)(z1:ES)(c:Int)(z':ES):(s.kind=3)→P n (.e s.e) z (.val v) z1→P n (.e s.f) z1 (.out c) z'→P (n+1) (.p s a b) z (.out c) z'
 smis(n:Nat)(s:St)(a b:List St)(z:ES)(v:Int)(z1:ES)(x:Int)(z':ES):(s.kind=3)→P n (.e s.e) z (.val v) z1→P n (.e s.f) z1 (.val x) z'→(¬(0<=v/\v<(z'.ws t s.name).length))→P (n+1) (.p s a b) z (.out 3) z'
 stor(n:Nat)(s:St)(a b:List St)(z:ES)(v:Int)(z1:ES)(x:Int)(z':ES):(s.kind=3)→P n (.e s.e) z (.val v) z1→P n (.e s.f) z1 (.val x) z'→(0<=v/\v<(z'.ws t s.name).length)→P (n+1) (.p s a b) z .on (z'.st t s.name v.toNat x)
 ifth(n:Nat)(s:St)(a b:List St)(z:ES)(v:Int)(z1:ES)(r:ER)(z':ES):(s.kind=4)→P n (.e s.e) z (.val v) z1→(v≠0)→P n (.bl a) z1 r z'→P (n+1) (.p s a b) z r z'
 ifel(n:Nat)(s:St)(a b:List St)(z:ES)(z1:ES)(r:ER)(z':ES):(s.kind=4)→P n (.e s.e) z (.val 0) z1→P n (.bl b) z1 r z'→P (n+1) (.p s a b) z r z'
 whno(n:Nat)(s:St)(a b:List St)(z:ES)(z':ES):(s.kind=5)→P n (.e s.e) z (.val 0) z'→P (n+1) (.p s a b) z .on z'
 whn(n:Nat)(s:St)(a b:List St)(z:ES)(v:Int)(z1:ES)(r:ER)(z':ES):(s.kind=5)→P n (.e s.e) z (.val v) z1→(v≠0)→P n (.bl a) z1 r z'→(r ≠ .on)→P (n+1) (.p s a b) z r z'
 whdr(n:Nat)(s:St)(a b:List St)(z:ES)(v:Int)(z1:ES)(z':ES):(s.kind=5)→P n (.e s.e) z (.val v) z1→(v≠0)→P n (.bl a) z1 .on z'→(z'.u=0)→P (n+1) (.p s a b) z (.out 2) z'
 whag(n:Nat)(s:St)(a b:List St)(z:ES)(v:Int)(z1:ES)(z2:ES)(r:ER)(z':ES):(s.kind=5)→P n (.e s.e) z (.val v) z1→(v≠0)→P n (.bl a) z1 .on z2→(0<z2.u)→P n (.p s a b) z2.sp r z'→P (n+1) (.p s a b) z r z'
 retn(n:Nat)(s:St)(a b:List St)(z:ES)(v:Int)(z':ES):(s.kind=6)→P n (.e s.e) z (.val v) z'→P (n+1) (.p s a b) z (.ret v) z'
 tell(n:Nat)(s:St)(a b:List St)(z:ES)(v:Int)(z':ES):(s.kind=7)→P n (.e s.e) z (.val v) z'→P (n+1) (.p s a b) z .on {z' with o:=z'.o++[v]}
 only(n:Nat)(s:St)(a b:List St)(z:ES)(v:Int)(z':ES):(s.kind=8)→P n (.e s.e) z (.val v) z'→P (n+1) (.p s a b) z .on z'
 nil(n:Nat)(z:ES):P (n+1) (.sq []) z .on z
 sdry(n:Nat)(s:St)(q:List St)(z:ES):(z.u=0)→P (n+1) (.sq (s::q)) z (.out 2) z
 send(n:Nat)(s:St)(q:List St)(z:ES)(r:ER)(z':ES):(0<z.u)→P n (.p s (q.take s.thn.toNat) ((q.drop s.thn.toNat).take s.els.toNat)) z.sp r z'→(r ≠ .on)→P (n+1) (.sq (s::q)) z r z'
 next(n:Nat)(s:St)(q:List St)(z:ES)(z1:ES)(r:ER)(z':ES):(0<z.u)→P n (.p s (q.take s.thn.toNat) ((q.drop s.thn.toNat).take s.els.toNat)) z.sp .on z1→P n (.sq (q.drop (s.thn.toNat+s.els.toNat))) z1 r z'→P (n+1) (.sq (s::q)) z r z'
 blk(n:Nat)(ss:List St)(z:ES)(r:ER)(z':ES):P n (.sq ss) z r z'→P (n+1) (.bl ss) z r {z' with l:=z'.l.take z.l.length}
 run(n:Nat)(f:Nat)(vs:List Int)(z:ES)(hf:f<t.funcs.length)(r:ER)(z':ES):(P n (.bl t.funcs[f].body) {z with l:=parL t.funcs[f] vs,n:=z.n+fr.getD f 0,d:=max z.d (z.n+fr.getD f 0)} r z')→P (n+1) (.c f vs) z r.back {z' with l:=z.l,n:=z'.n-fr.getD f 0}
 kid(n:Nat)(e:List Nd)(A:Nat)(b:Nat->Nat)(st:Nat->ES)(v:Nat->Int)(j:Nat)(c:Int)(s':ES):Cut e A b→((rootN e).kind≠8)→((rootN e).kind≠9)→(j<A)→(∀i,i<j->P n (.e (kid e b i)) (st i) (.val (v i)) (st (i+1)))→P n (.e (kid e b j)) (st j) (.out c) s'→P (n+1) (.e e) (st 0) (.out c) s'
structure Ev (t:Tr)(fr:List Int)(a0:Nat)(a1:Tk)(a2:ES)(a3:ER)(a4:ES):Prop where
 c_::
 out:∀P,EvC t fr P→P a0 a1 a2 a3 a4
theorem Ev.C{t:Tr}{fr:List Int}:EvC t fr (Ev t fr):=⟨λn e A b st v q0 q1 q2 q3 q4=>⟨λP h=>h.dry n e A b st v q0 q1 q2 (λi k0=>(q3 i k0).out P h) q4⟩,
 λn e A b st v q0 q1 q2 q3 q4 q5=>⟨λP h=>h.work n e A b st v q0 q1 q2 q3 (λi k0=>(q4 i k0).out P h) q5⟩,
 λn e A b st v f r s' q0 q1 q2 q3 q4 q5=>⟨λP h=>h.call n e A b st v f r s' q0 q1 q2 (λi k0=>(q3 i k0).out P h) q4 (q5.out P h)⟩,
 λn e b s c s' q0 q1 q2=>⟨λP h=>h.left n e b s c s' q0 q1 (q2.out P h)⟩,
 λn e b s x s' q0 q1 q2 q3=>⟨λP h=>h.ldry n e b s x s' q0 q1 (q2.out P h) q3⟩,
 λn e b s x s' q0 q1 q2 q3=>⟨λP h=>h.lone n e b s x s' q0 q1 (q2.out P h) q3⟩,
 λn e b s x s1 c s' q0 q1 q2 q3 q4=>⟨λP h=>h.rigt n e b s x s1 c s' q0 q1 (q2.out P h) q3 (q4.out P h)⟩,
 λn e b s x s1 y s' q0 q1 q2 q3 q4 q5=>⟨λP h=>h.rdry n e b s x s1 y s' q0 q1 (q2.out P h) q3 (q4.out P h) q5⟩,
 λn e b s x s1 y s' q0 q1 q2 q3 q4 q5=>⟨λP h=>h.both n e b s x s1 y s' q0 q1 (q2.out P h) q3 (q4.out P h) q5⟩,
 λn s a b z c z' q0=>⟨λP h=>h.pbad n s a b z c z' (q0.out P h)⟩,
 λn s a b z v z' q0 q1=>⟨λP h=>h.decl n s a b z v z' q0 (q1.out P h)⟩,
 λn s a b z v z' q0 q1=>⟨λP h=>h.set n s a b z v z' q0 (q1.out P h)⟩,
 λn s a b z v z1 c z' q0 q1 q2=>⟨λP h=>h.sbad n s a b z v z1 c z' q0 (q1.out P h) (q2.out P h)⟩,
 λn s a b z v z1 x z' q0 q1 q2 q3=>⟨λP h=>h.smis n s a b z v z1 x z' q0 (q1.out P h) (q2.out P h) q3⟩,
 λn s a b z v z1 x z' q0 q1 q2 q3=>⟨λP h=>h.stor n s a b z v z1 x z' q0 (q1.out P h) (q2.out P h) q3⟩,
 λn s a b z v z1 r z' q0 q1 q2 q3=>⟨λP h=>h.ifth n s a b z v z1 r z' q0 (q1.out P h) q2 (q3.out P h)⟩,
 λn s a b z z1 r z' q0 q1 q2=>⟨λP h=>h.ifel n s a b z z1 r z' q0 (q1.out P h) (q2.out P h)⟩,
 λn s a b z z' q0 q1=>⟨λP h=>h.whno n s a b z z' q0 (q1.out P h)⟩,
 λn s a b z v z1 r z' q0 q1 q2 q3 q4=>⟨λP h=>h.whn n s a b z v z1 r z' q0 (q1.out P h) q2 (q3.out P h) q4⟩,
 λn s a b z v z1 z' q0 q1 q2 q3 q4=>⟨λP h=>h.whdr n s a b z v z1 z' q0 (q1.out P h) q2 (q3.out P h) q4⟩,
 λn s a b z v z1 z2 r z' q0 q1 q2 q3 q4 q5=>⟨λP h=>h.whag n s a b z v z1 z2 r z' q0 (q1.out P h) q2 (q3.out P h) q4 (q5.out P h)⟩,
 λn s a b z v z' q0 q1=>⟨λP h=>h.retn n s a b z v z' q0 (q1.out P h)⟩,
 λn s a b z v z' q0 q1=>⟨λP h=>h.tell n s a b z v z' q0 (q1.out P h)⟩,
 λn s a b z v z' q0 q1=>⟨λP h=>h.only n s a b z v z' q0 (q1.out P h)⟩,
 λn z=>⟨λP h=>h.nil n z⟩,
 λn s q z q0=>⟨λP h=>h.sdry n s q z q0⟩,
 λn s q z r z' q0 q1 q2=>⟨λP h=>h.send n s q z r z' q0 (q1.out P h) q2⟩,
 λn s q z z1 r z' q0 q1 q2=>⟨λP h=>h.next n s q z z1 r z' q0 (q1.out P h) (q2.out P h)⟩,
 λn ss z r z' q0=>⟨λP h=>h.blk n ss z r z' (q0.out P h)⟩,
 λn f vs z hf r z' q0=>⟨λP h=>h.run n f vs z hf r z' (q0.out P h)⟩,
 λn e A b st v j c s' q0 q1 q2 q3 q4 q5=>⟨λP h=>h.kid n e A b st v j c s' q0 q1 q2 q3 (λi k0=>(q4 i k0).out P h) (q5.out P h)⟩⟩
abbrev Ev.dry {t fr}:=(Ev.C:EvC t fr _).dry
abbrev Ev.work {t fr}:=(Ev.C:EvC t fr _).work
abbrev Ev.call {t fr}:=(Ev.C:EvC t fr _).call
abbrev Ev.left {t fr}:=(Ev.C:EvC t fr _).left
abbrev Ev.ldry {t fr}:=(Ev.C:EvC t fr _).ldry
abbrev Ev.lone {t fr}:=(Ev.C:EvC t fr _).lone
abbrev Ev.rigt {t fr}:=(Ev.C:EvC t fr _).rigt
abbrev Ev.rdry {t fr}:=(Ev.C:EvC t fr _).rdry
abbrev Ev.both {t fr}:=(Ev.C:EvC t fr _).both
abbrev Ev.pbad {t fr}:=(Ev.C:EvC t fr _).pbad
abbrev Ev.decl {t fr}:=(Ev.C:EvC t fr _).decl
abbrev Ev.set {t fr}:=(Ev.C:EvC t fr _).set
abbrev Ev.sbad {t fr}:=(Ev.C:EvC t fr _).sbad
abbrev Ev.smis {t fr}:=(Ev.C:EvC t fr _).smis
abbrev Ev.stor {t fr}:=(Ev.C:EvC t fr _).stor
abbrev Ev.ifth {t fr}:=(Ev.C:EvC t fr _).ifth
abbrev Ev.ifel {t fr}:=(Ev.C:EvC t fr _).ifel
abbrev Ev.whno {t fr}:=(Ev.C:EvC t fr _).whno
abbrev Ev.whn {t fr}:=(Ev.C:EvC t fr _).whn
abbrev Ev.whdr {t fr}:=(Ev.C:EvC t fr _).whdr
abbrev Ev.whag {t fr}:=(Ev.C:EvC t fr _).whag
abbrev Ev.retn {t fr}:=(Ev.C:EvC t fr _).retn
abbrev Ev.tell {t fr}:=(Ev.C:EvC t fr _).tell
abbrev Ev.only {t fr}:=(Ev.C:EvC t fr _).only
abbrev Ev.nil {t fr}:=(Ev.C:EvC t fr _).nil
abbrev Ev.sdry {t fr}:=(Ev.C:EvC t fr _).sdry
abbrev Ev.send {t fr}:=(Ev.C:EvC t fr _).send
abbrev Ev.next {t fr}:=(Ev.C:EvC t fr _).next
abbrev Ev.blk {t fr}:=(Ev.C:EvC t fr _).blk
abbrev Ev.run {t fr}:=(Ev.C:EvC t fr _).run
abbrev Ev.kid {t fr}:=(Ev.C:EvC t fr _).kid
theorem Ev_i{t:Tr}{fr:List Int}{M:∀(a0:Nat)(a1:Tk)(a2:ES)(a3:ER)(a4:ES),Ev t fr a0 a1 a2 a3 a4→Prop}
 (dry:∀(n:Nat)(e:List Nd)(A:Nat)(b:Nat->Nat)(st:Nat->ES)(v:Nat->Int),Cut e A b→((rootN e).kind≠8)→((rootN e).kind≠9)→∀q3:∀i,i<A->Ev t fr n (.e (kid e b i)) (st i) (.val (v i)) (st (i+1)),((st A).u=0)→(∀ i (k0 : i<A),M n (.e (kid e b i)) (st i) (.val (v i)) (st (i+1)) (q3 i k0))→∀w,M (n+1) (.e e) (st 0) (.out 2) (st A) w)
 (work:∀(n:Nat)(e:List Nd)(A:Nat)(b:Nat->Nat)(st:Nat->ES)(v:Nat->Int),Cut e A b→((rootN e).kind≠8)→((rootN e).kind≠9)→((rootN e).kind≠4)→∀q4:∀i,i<A->Ev t fr n (.e (kid e b i)) (st i) (.val (v i)) (st (i+1)),(0<(st A).u)→(∀ i (k0 : i<A),M n (.e (kid e b i)) (st i) (.val (v i)) (st (i+1)) (q4 i k0))→∀w,M (n+1) (.e e) (st 0) (wkN t (rootN e) v (st A).sp).1 (wkN t (rootN e) v (st A).sp).2 w)
 (call:∀(n:Nat)(e:List Nd)(A:Nat)(b:Nat->Nat)(st:Nat->ES)(v:Nat->Int)(f:Nat)(r:ER)(s':ES),Cut e A b→((rootN e).kind=4)→(fnum t.funcs (rootN e).name=some f)→∀q3:∀i,i<A->Ev t fr n (.e (kid e b i)) (st i) (.val (v i)) (st (i+1)),(0<(st A).u)→∀q5:Ev t fr n (.c f (argL A v)) (st A).sp r s',(∀ i (k0 : i<A),M n (.e (kid e b i)) (st i) (.val (v i)) (st (i+1)) (q3 i k0))→M n (.c f (argL A v)) (st A).sp r s' q5→∀w,M (n+1) (.e e) (st 0) r s' w)
 (left:∀(n:Nat)(e:List Nd)(b:Nat->Nat)(s:ES)(c:Int)(s':ES),Cut e 2 b→((rootN e).kind=8∨(rootN e).kind=9)→∀q2:Ev t fr n (.e (kid e b 0)) s (.out c) s',M n (.e (kid e b 0)) s (.out c) s' q2→∀w,M (n+1) (.e e) s (.out c) s' w)
 (ldry:∀(n:Nat)(e:List Nd)(b:Nat->Nat)(s:ES)(x:Int)(s':ES),Cut e 2 b→((rootN e).kind=8∨(rootN e).kind=9)→∀q2:Ev t fr n (.e (kid e b 0)) s (.val x) s',(s'.u=0)→M n (.e (kid e b 0)) s (.val x) s' q2→∀w,M (n+1) (.e e) s (.out 2) s' w)
 (lone:∀(n:Nat)(e:List Nd)(b:Nat->Nat)(s:ES)(x:Int)(s':ES),Cut e 2 b→((rootN e).kind=8/\x=0∨(rootN e).kind=9/\x≠0)→∀q2:Ev t fr n (.e (kid e b 0)) s (.val x) s',(0<s'.u)→M n (.e (kid e b 0)) s (.val x) s' q2→∀w,M (n+1) (.e e) s (.val (boolN (decide (x≠0)))) s'.sp w)
 (rigt:∀(n:Nat)(e:List Nd)(b:Nat->Nat)(s:ES)(x:Int)(s1:ES)(c:Int)(s':ES),Cut e 2 b→((rootN e).kind=8/\x≠0∨(rootN e).kind=9/\x=0)→∀q2:Ev t fr n (.e (kid e b 0)) s (.val x) s1,(0<s1.u)→∀q4:Ev t fr n (.e (kid e b 1)) s1.sp (.out c) s',M n (.e (kid e b 0)) s (.val x) s1 q2→M n (.e (kid e b 1)) s1.sp (.out c) s' q4→∀w,M (n+1) (.e e) s (.out c) s' w)
 (rdry:∀(n:Nat)(e:List Nd)(b:Nat->Nat)(s:ES)(x:Int)(s1:ES)(y:Int)(s':ES),Cut e 2 b→((rootN e).kind=8/\x≠0∨(rootN e).kind=9/\x=0)→∀q2:Ev t fr n (.e (kid e b 0)) s (.val x) s1,(0<s1.u)→∀q4:Ev t fr n (.e (kid e b 1)) s1.sp (.val y) s',(s'.u=0)→M n (.e (kid e b 0)) s (.val x) s1 q2→M n (.e (kid e b 1)) s1.sp (.val y) s' q4→∀w,M (n+1) (.e e) s (.out 2) s' w)
 (both:∀(n:Nat)(e:List Nd)(b:Nat->Nat)(s:ES)(x:Int)(s1:ES)(y:Int)(s':ES),Cut e 2 b→((rootN e).kind=8/\x≠0∨(rootN e).kind=9/\x=0)→∀q2:Ev t fr n (.e (kid e b 0)) s (.val x) s1,(0<s1.u)→∀q4:Ev t fr n (.e (kid e b 1)) s1.sp (.val y) s',(0<s'.u)→M n (.e (kid e b 0)) s (.val x) s1 q2→M n (.e (kid e b 1)) s1.sp (.val y) s' q4→∀w,M (n+1) (.e e) s (.val (boolN (decide (y≠0)))) s'.sp w)
 (pbad:∀(n:Nat)(s:St)(a b:List St)(z:ES)(c:Int)(z':ES),∀q0:Ev t fr n (.e s.e) z (.out c) z',M n (.e s.e) z (.out c) z' q0→∀w,M (n+1) (.p s a b) z (.out c) z' w)
 (decl:∀(n:Nat)(s:St)(a b:List St)(z:ES)(v:Int)(z':ES),(s.kind=1)→∀q1:Ev t fr n (.e s.e) z (.val v) z',M n (.e s.e) z (.val v) z' q1→∀w,M (n+1) (.p s a b) z .on {z' with l:=z'.l++[(s.name,v)]} w)
 (set:∀(n:Nat)(s:St)(a b:List St)(z:ES)(v:Int)(z':ES),(s.kind=2)→∀q1:Ev t fr n (.e s.e) z (.val v) z',M n (.e s.e) z (.val v) z' q1→∀w,M (n+1) (.p s a b) z .on (z'.wr t s.name v) w)
 (sbad:∀(n:Nat)(s:St)(a b:List St)(z:ES)(v:Int)(z1:ES)(c:Int)(z':ES),(s.kind=3)→∀q1:Ev t fr n (.e s.e) z (.val v) z1,∀q2:Ev t fr n (.e s.f) z1 (.out c) z',M n (.e s.e) z (.val v) z1 q1→M n (.e s.f) z1 (.out c) z' q2→∀w,M (n+1) (.p s a b) z (.out c) z' w)
 (smis:∀(n:Nat)(s:St)(a b:List St)(z:ES)(v:Int)(z1:ES)(x:Int)(z':ES),(s.kind=3)→∀q1:Ev t fr n (.e s.e) z (.val v) z1,∀q2:Ev t fr n (.e s.f) z1 (.val x) z',(¬(0<=v/\v<(z'.ws t s.name).length))→M n (.e s.e) z (.val v) z1 q1→M n (.e s.f) z1 (.val x) z' q2→∀w,M (n+1) (.p s a b) z (.out 3) z' w)
 (stor:∀(n:Nat)(s:St)(a b:List St)(z:ES)(v:Int)(z1:ES)(x:Int)(z':ES),(s.kind=3)→∀q1:Ev t fr n (.e s.e) z (.val v) z1,∀q2:Ev t fr n (.e s.f) z1 (.val x) z',(0<=v/\v<(z'.ws t s.name).length)→M n (.e s.e) z (.val v) z1 q1→M n (.e s.f) z1 (.val x) z' q2→∀w,M (n+1) (.p s a b) z .on (z'.st t s.name v.toNat x) w)
 (ifth:∀(n:Nat)(s:St)(a b:List St)(z:ES)(v:Int)(z1:ES)(r:ER)(z':ES),(s.kind=4)→∀q1:Ev t fr n (.e s.e) z (.val v) z1,(v≠0)→∀q3:Ev t fr n (.bl a) z1 r z',M n (.e s.e) z (.val v) z1 q1→M n (.bl a) z1 r z' q3→∀w,M (n+1) (.p s a b) z r z' w)
 (ifel:∀(n:Nat)(s:St)(a b:List St)(z:ES)(z1:ES)(r:ER)(z':ES),(s.kind=4)→∀q1:Ev t fr n (.e s.e) z (.val 0) z1,∀q2:Ev t fr n (.bl b) z1 r z',M n (.e s.e) z (.val 0) z1 q1→M n (.bl b) z1 r z' q2→∀w,M (n+1) (.p s a b) z r z' w)
 (whno:∀(n:Nat)(s:St)(a b:List St)(z:ES)(z':ES),(s.kind=5)→∀q1:Ev t fr n (.e s.e) z (.val 0) z',M n (.e s.e) z (.val 0) z' q1→∀w,M (n+1) (.p s a b) z .on z' w)
 (whn:∀(n:Nat)(s:St)(a b:List St)(z:ES)(v:Int)(z1:ES)(r:ER)(z':ES),(s.kind=5)→∀q1:Ev t fr n (.e s.e) z (.val v) z1,(v≠0)→∀q3:Ev t fr n (.bl a) z1 r z',(r ≠ .on)→M n (.e s.e) z (.val v) z1 q1→M n (.bl a) z1 r z' q3→∀w,M (n+1) (.p s a b) z r z' w)
 (whdr:∀(n:Nat)(s:St)(a b:List St)(z:ES)(v:Int)(z1:ES)(z':ES),(s.kind=5)→∀q1:Ev t fr n (.e s.e) z (.val v) z1,(v≠0)→∀q3:Ev t fr n (.bl a) z1 .on z',(z'.u=0)→M n (.e s.e) z (.val v) z1 q1→M n (.bl a) z1 .on z' q3→∀w,M (n+1) (.p s a b) z (.out 2) z' w)
 (whag:∀(n:Nat)(s:St)(a b:List St)(z:ES)(v:Int)(z1:ES)(z2:ES)(r:ER)(z':ES),(s.kind=5)→∀q1:Ev t fr n (.e s.e) z (.val v) z1,(v≠0)→∀q3:Ev t fr n (.bl a) z1 .on z2,(0<z2.u)→∀q5:Ev t fr n (.p s a b) z2.sp r z',M n (.e s.e) z (.val v) z1 q1→M n (.bl a) z1 .on z2 q3→M n (.p s a b) z2.sp r z' q5→∀w,M (n+1) (.p s a b) z r z' w)
 (retn:∀(n:Nat)(s:St)(a b:List St)(z:ES)(v:Int)(z':ES),(s.kind=6)→∀q1:Ev t fr n (.e s.e) z (.val v) z',M n (.e s.e) z (.val v) z' q1→∀w,M (n+1) (.p s a b) z (.ret v) z' w)
 (tell:∀(n:Nat)(s:St)(a b:List St)(z:ES)(v:Int)(z':ES),(s.kind=7)→∀q1:Ev t fr n (.e s.e) z (.val v) z',M n (.e s.e) z (.val v) z' q1→∀w,M (n+1) (.p s a b) z .on {z' with o:=z'.o++[v]} w)
 (only:∀(n:Nat)(s:St)(a b:List St)(z:ES)(v:Int)(z':ES),(s.kind=8)→∀q1:Ev t fr n (.e s.e) z (.val v) z',M n (.e s.e) z (.val v) z' q1→∀w,M (n+1) (.p s a b) z .on z' w)
 (nil:∀(n:Nat)(z:ES),∀w,M (n+1) (.sq []) z .on z w)
 (sdry:∀(n:Nat)(s:St)(q:List St)(z:ES),(z.u=0)→∀w,M (n+1) (.sq (s::q)) z (.out 2) z w)
 (send:∀(n:Nat)(s:St)(q:List St)(z:ES)(r:ER)(z':ES),(0<z.u)→∀q1:Ev t fr n (.p s (q.take s.thn.toNat) ((q.drop s.thn.toNat).take s.els.toNat)) z.sp r z',(r ≠ .on)→M n (.p s (q.take s.thn.toNat) ((q.drop s.thn.toNat).take s.els.toNat)) z.sp r z' q1→∀w,M (n+1) (.sq (s::q)) z r z' w)
 (next:∀(n:Nat)(s:St)(q:List St)(z:ES)(z1:ES)(r:ER)(z':ES),(0<z.u)→∀q1:Ev t fr n (.p s (q.take s.thn.toNat) ((q.drop s.thn.toNat).take s.els.toNat)) z.sp .on z1,∀q2:Ev t fr n (.sq (q.drop (s.thn.toNat+s.els.toNat))) z1 r z',M n (.p s (q.take s.thn.toNat) ((q.drop s.thn.toNat).take s.els.toNat)) z.sp .on z1 q1→M n (.sq (q.drop (s.thn.toNat+s.els.toNat))) z1 r z' q2→∀w,M (n+1) (.sq (s::q)) z r z' w)
 (blk:∀(n:Nat)(ss:List St)(z:ES)(r:ER)(z':ES),∀q0:Ev t fr n (.sq ss) z r z',M n (.sq ss) z r z' q0→∀w,M (n+1) (.bl ss) z r {z' with l:=z'.l.take z.l.length} w)
 (run:∀(n:Nat)(f:Nat)(vs:List Int)(z:ES)(hf:f<t.funcs.length)(r:ER)(z':ES),∀q0:Ev t fr n (.bl t.funcs[f].body) {z with l:=parL t.funcs[f] vs,n:=z.n+fr.getD f 0,d:=max z.d (z.n+fr.getD f 0)} r z',M n (.bl t.funcs[f].body) {z with l:=parL t.funcs[f] vs,n:=z.n+fr.getD f 0,d:=max z.d (z.n+fr.getD f 0)} r z' q0→∀w,M (n+1) (.c f vs) z r.back {z' with l:=z.l,n:=z'.n-fr.getD f 0} w)
 (kid:∀(n:Nat)(e:List Nd)(A:Nat)(b:Nat->Nat)(st:Nat->ES)(v:Nat->Int)(j:Nat)(c:Int)(s':ES),Cut e A b→((rootN e).kind≠8)→((rootN e).kind≠9)→(j<A)→∀q4:∀i,i<j->Ev t fr n (.e (kid e b i)) (st i) (.val (v i)) (st (i+1)),∀q5:Ev t fr n (.e (kid e b j)) (st j) (.out c) s',(∀ i (k0 : i<j),M n (.e (kid e b i)) (st i) (.val (v i)) (st (i+1)) (q4 i k0))→M n (.e (kid e b j)) (st j) (.out c) s' q5→∀w,M (n+1) (.e e) (st 0) (.out c) s' w)
 {a0:Nat}{a1:Tk}{a2:ES}{a3:ER}{a4:ES}(w:Ev t fr a0 a1 a2 a3 a4):M a0 a1 a2 a3 a4 w:=
 (w.out (λa0 a1 a2 a3 a4=>∃z_,M a0 a1 a2 a3 a4 z_) ⟨λn e A b st v q0 q1 q2 q3 q4=>⟨.dry n e A b st v q0 q1 q2 (λi k0=>(q3 i k0).1) q4,dry n e A b st v q0 q1 q2 _ q4 (λi k0=>(q3 i k0).2) _⟩,
 λn e A b st v q0 q1 q2 q3 q4 q5=>⟨.work n e A b st v q0 q1 q2 q3 (λi k0=>(q4 i k0).1) q5,work n e A b st v q0 q1 q2 q3 _ q5 (λi k0=>(q4 i k0).2) _⟩,
 λn e A b st v f r s' q0 q1 q2 q3 q4 q5=>⟨.call n e A b st v f r s' q0 q1 q2 (λi k0=>(q3 i k0).1) q4 q5.1,call n e A b st v f r s' q0 q1 q2 _ q4 _ (λi k0=>(q3 i k0).2) q5.2 _⟩,
 λn e b s c s' q0 q1 q2=>⟨.left n e b s c s' q0 q1 q2.1,left n e b s c s' q0 q1 _ q2.2 _⟩,
 λn e b s x s' q0 q1 q2 q3=>⟨.ldry n e b s x s' q0 q1 q2.1 q3,ldry n e b s x s' q0 q1 _ q3 q2.2 _⟩,
 λn e b s x s' q0 q1 q2 q3=>⟨.lone n e b s x s' q0 q1 q2.1 q3,lone n e b s x s' q0 q1 _ q3 q2.2 _⟩,
 λn e b s x s1 c s' q0 q1 q2 q3 q4=>⟨.rigt n e b s x s1 c s' q0 q1 q2.1 q3 q4.1,rigt n e b s x s1 c s' q0 q1 _ q3 _ q2.2 q4.2 _⟩,
 λn e b s x s1 y s' q0 q1 q2 q3 q4 q5=>⟨.rdry n e b s x s1 y s' q0 q1 q2.1 q3 q4.1 q5,rdry n e b s x s1 y s' q0 q1 _ q3 _ q5 q2.2 q4.2 _⟩,
 λn e b s x s1 y s' q0 q1 q2 q3 q4 q5=>⟨.both n e b s x s1 y s' q0 q1 q2.1 q3 q4.1 q5,both n e b s x s1 y s' q0 q1 _ q3 _ q5 q2.2 q4.2 _⟩,
 λn s a b z c z' q0=>⟨.pbad n s a b z c z' q0.1,pbad n s a b z c z' _ q0.2 _⟩,
 λn s a b z v z' q0 q1=>⟨.decl n s a b z v z' q0 q1.1,decl n s a b z v z' q0 _ q1.2 _⟩,
 λn s a b z v z' q0 q1=>⟨.set n s a b z v z' q0 q1.1,set n s a b z v z' q0 _ q1.2 _⟩,
 λn s a b z v z1 c z' q0 q1 q2=>⟨.sbad n s a b z v z1 c z' q0 q1.1 q2.1,sbad n s a b z v z1 c z' q0 _ _ q1.2 q2.2 _⟩,
 λn s a b z v z1 x z' q0 q1 q2 q3=>⟨.smis n s a b z v z1 x z' q0 q1.1 q2.1 q3,smis n s a b z v z1 x z' q0 _ _ q3 q1.2 q2.2 _⟩,
 λn s a b z v z1 x z' q0 q1 q2 q3=>⟨.stor n s a b z v z1 x z' q0 q1.1 q2.1 q3,stor n s a b z v z1 x z' q0 _ _ q3 q1.2 q2.2 _⟩,
 λn s a b z v z1 r z' q0 q1 q2 q3=>⟨.ifth n s a b z v z1 r z' q0 q1.1 q2 q3.1,ifth n s a b z v z1 r z' q0 _ q2 _ q1.2 q3.2 _⟩,
 λn s a b z z1 r z' q0 q1 q2=>⟨.ifel n s a b z z1 r z' q0 q1.1 q2.1,ifel n s a b z z1 r z' q0 _ _ q1.2 q2.2 _⟩,
 λn s a b z z' q0 q1=>⟨.whno n s a b z z' q0 q1.1,whno n s a b z z' q0 _ q1.2 _⟩,
 λn s a b z v z1 r z' q0 q1 q2 q3 q4=>⟨.whn n s a b z v z1 r z' q0 q1.1 q2 q3.1 q4,whn n s a b z v z1 r z' q0 _ q2 _ q4 q1.2 q3.2 _⟩,
 λn s a b z v z1 z' q0 q1 q2 q3 q4=>⟨.whdr n s a b z v z1 z' q0 q1.1 q2 q3.1 q4,whdr n s a b z v z1 z' q0 _ q2 _ q4 q1.2 q3.2 _⟩,
 λn s a b z v z1 z2 r z' q0 q1 q2 q3 q4 q5=>⟨.whag n s a b z v z1 z2 r z' q0 q1.1 q2 q3.1 q4 q5.1,whag n s a b z v z1 z2 r z' q0 _ q2 _ q4 _ q1.2 q3.2 q5.2 _⟩,
 λn s a b z v z' q0 q1=>⟨.retn n s a b z v z' q0 q1.1,retn n s a b z v z' q0 _ q1.2 _⟩,
 λn s a b z v z' q0 q1=>⟨.tell n s a b z v z' q0 q1.1,tell n s a b z v z' q0 _ q1.2 _⟩,
 λn s a b z v z' q0 q1=>⟨.only n s a b z v z' q0 q1.1,only n s a b z v z' q0 _ q1.2 _⟩,
 λn z=>⟨.nil n z,nil n z _⟩,
 λn s q z q0=>⟨.sdry n s q z q0,sdry n s q z q0 _⟩,
 λn s q z r z' q0 q1 q2=>⟨.send n s q z r z' q0 q1.1 q2,send n s q z r z' q0 _ q2 q1.2 _⟩,
 λn s q z z1 r z' q0 q1 q2=>⟨.next n s q z z1 r z' q0 q1.1 q2.1,next n s q z z1 r z' q0 _ _ q1.2 q2.2 _⟩,
 λn ss z r z' q0=>⟨.blk n ss z r z' q0.1,blk n ss z r z' _ q0.2 _⟩,
 λn f vs z hf r z' q0=>⟨.run n f vs z hf r z' q0.1,run n f vs z hf r z' _ q0.2 _⟩,
 λn e A b st v j c s' q0 q1 q2 q3 q4 q5=>⟨.kid n e A b st v j c s' q0 q1 q2 q3 (λi k0=>(q4 i k0).1) q5.1,kid n e A b st v j c s' q0 q1 q2 q3 _ _ (λi k0=>(q4 i k0).2) q5.2 _⟩⟩).2
theorem Ev.up {t:Tr} {fr:List Int} {n:Nat} {k:Tk} {s:ES} {r:ER} {s':ES} (h:Ev t fr n k s r s'):Ev t fr (n+1) k s r s':=by
 induction h using Ev_i with
 | kid n e A b st v j c s' h1 h2 h3 h4 h5 h6 i5 i6=>exact .kid _ e A b st v j c s' h1 h2 h3 h4 i5 i6
 | dry n e A b st v h1 h2 h3 h4 h5 i4=>exact .dry _ e A b st v h1 h2 h3 i4 h5
 | work n e A b st v h1 h2 h3 h4 h5 h6 i5=>exact .work _ e A b st v h1 h2 h3 h4 i5 h6
 | call n e A b st v f r s' h1 h2 h3 h4 h5 h6 i4 i6=>exact .call _ e A b st v f r s' h1 h2 h3 i4 h5 i6
 | left n e b s c s' h1 h2 h3 i3=>exact .left _ e b s c s' h1 h2 i3
 | ldry n e b s x s' h1 h2 h3 h4 i3=>exact .ldry _ e b s x s' h1 h2 i3 h4
 | lone n e b s x s' h1 h2 h3 h4 i3=>exact .lone _ e b s x s' h1 h2 i3 h4
 | rigt n e b s x s1 c s' h1 h2 h3 h4 h5 i3 i5=>exact .rigt _ e b s x s1 c s' h1 h2 i3 h4 i5
 | rdry n e b s x s1 y s' h1 h2 h3 h4 h5 h6 i3 i5=>exact .rdry _ e b s x s1 y s' h1 h2 i3 h4 i5 h6
 | both n e b s x s1 y s' h1 h2 h3 h4 h5 h6 i3 i5=>exact .both _ e b s x s1 y s' h1 h2 i3 h4 i5 h6
 | pbad n s a b z c z' h1 i1=>exact .pbad _ s a b z c z' i1
 | decl n s a b z v z' h1 h2 i2=>exact .decl _ s a b z v z' h1 i2
 | set n s a b z v z' h1 h2 i2=>exact .set _ s a b z v z' h1 i2
 | sbad n s a b z v z1 c z' h1 h2 h3 i2 i3=>exact .sbad _ s a b z v z1 c z' h1 i2 i3
 | smis n s a b z v z1 x z' h1 h2 h3 h4 i2 i3=>exact .smis _ s a b z v z1 x z' h1 i2 i3 h4
 | stor n s a b z v z1 x z' h1 h2 h3 h4 i2 i3=>exact .stor _ s a b z v z1 x z' h1 i2 i3 h4
 | ifth n s a b z v z1 r z' h1 h2 h3 h4 i2 i4=>exact .ifth _ s a b z v z1 r z' h1 i2 h3 i4
 | ifel n s a b z z1 r z' h1 h2 h3 i2 i3=>exact .ifel _ s a b z z1 r z' h1 i2 i3
 | whno n s a b z z' h1 h2 i2=>exact .whno _ s a b z z' h1 i2
 | whn n s a b z v z1 r z' h1 h2 h3 h4 h5 i2 i4=>exact .whn _ s a b z v z1 r z' h1 i2 h3 i4 h5
 | whdr n s a b z v z1 z' h1 h2 h3 h4 h5 i2 i4=>exact .whdr _ s a b z v z1 z' h1 i2 h3 i4 h5
 | whag n s a b z v z1 z2 r z' h1 h2 h3 h4 h5 h6 i2 i4 i6=>exact .whag _ s a b z v z1 z2 r z' h1 i2 h3 i4 h5 i6
 | retn n s a b z v z' h1 h2 i2=>exact .retn _ s a b z v z' h1 i2
 | tell n s a b z v z' h1 h2 i2=>exact .tell _ s a b z v z' h1 i2
 | only n s a b z v z' h1 h2 i2=>exact .only _ s a b z v z' h1 i2
 | nil n z=>exact .nil _ z
 | sdry n s q z h1=>exact .sdry _ s q z h1
 | send n s q z r z' h1 h2 h3 i2=>exact .send _ s q z r z' h1 i2 h3
 | next n s q z z1 r z' h1 h2 h3 i2 i3=>exact .next _ s q z z1 r z' h1 i2 i3
 | blk n ss z r z' h1 i1=>exact .blk _ ss z r z' i1
 | run n f vs z hf r z' h1 i1=>exact .run _ f vs z hf r z' i1
theorem Ev.ups {t:Tr} {fr:List Int} {k:Tk} {s:ES} {r:ER} {s':ES} : ∀ {n m:Nat},n<=m->Ev t fr n k s r s'->Ev t fr m k s r s'
 | n,m,hm,h=>by
  obtain⟨d,rfl⟩ : ∃d,m=n+d:=⟨m-n,by omega⟩;clear hm;induction d with
  | zero=>exact h
  | succ d ih=>exact ih.up
section
variable {e:List Nd}
def calE (t:Tr) (e:List Nd):Prop:=∀n∈e,n.kind=4->∃f,fnum t.funcs n.name=some f
structure WfS (t:Tr) (s:St):Prop where
 k:1<=s.kind/\s.kind<=8
 e:oneB s.e=true/\calE t s.e
 f:s.kind=3->oneB s.f=true/\calE t s.f
def wgt (ss:List St):Nat:=(ss.map (λs=>s.e.length+s.f.length+10)).sum
def Tk.sz (t:Tr):Tk->Nat
 | .inl x =>x.length
 | .inr (.inl (z, y, x)) =>z.e.length+z.f.length+wgt y+wgt x+6
 | .inr (.inr (.inl ss)) =>wgt ss+1
 | .inr (.inr (.inr (.inl ss))) =>wgt ss+2
 | .inr (.inr (.inr (.inr (f, _)))) =>wgt (t.funcs.getD f ⟨⟨#[]⟩,[],[]⟩).body+3
def Tk.wf (t:Tr):Tk->Prop
 | .inl x =>oneB x=true/\calE t x
 | .inr (.inl (z, y, w)) =>WfS t z/\(∀x∈y,WfS t x)/\∀x∈w,WfS t x
 | .inr (.inr (.inl ss)) =>∀x∈ss,WfS t x
 | .inr (.inr (.inr (.inl ss))) =>∀x∈ss,WfS t x
 | .inr (.inr (.inr (.inr (f, _)))) =>f<t.funcs.length
theorem wgt_cons (s:St) (q:List St):wgt (s::q)=s.e.length+s.f.length+10+wgt q:=by simp[wgt]
theorem wgt_append (a b:List St):wgt (a++b)=wgt a+wgt b:=by simp[wgt]
theorem wgt_parts (q:List St) (i j:Nat):wgt (q.take i)+wgt ((q.drop i).take j)+wgt (q.drop (i+j))=wgt q:=by
 have e:q=q.take i++((q.drop i).take j++q.drop (i+j)):=by rw[<-List.drop_drop,List.take_append_drop,List.take_append_drop]
 have h:wgt q=wgt (q.take i++((q.drop i).take j++q.drop (i+j))):=congrArg wgt e;rw[h,wgt_append,wgt_append];omega
theorem mem_kid {b:Nat->Nat} {i:Nat} {n:Nd} (h:n∈kid e b i):n∈e:=by
 unfold kid at h;first|exact List.mem_of_mem_take (List.mem_of_mem_drop h)|exact List.mem_of_mem_drop (List.mem_of_mem_take h)
theorem rootN_mem (h:0<e.length):rootN e∈e:=by rw[rootN_eq e h];exact g_ _
theorem work_u (t:Tr) (n:Nd) (v:Nat->Int) (s:ES):(wkN t n v s).2.u=s.u:=by
 unfold wkN
 (repeat' split) <;> rfl
theorem wr_u (t:Tr) (s:ES) (x:ByteArray) (v:Int):(s.wr t x v).u=s.u:=by
 unfold ES.wr
 (repeat' split) <;> rfl
theorem st_u (t:Tr) (s:ES) (x:ByteArray) (j:Nat) (v:Int):(s.st t x j v).u=s.u:=by
 unfold ES.st;split <;> rfl
theorem ev_ends (t:Tr) (fr:List Int) (hw : ∀f∈t.funcs,∀s∈f.body,WfS t s) : ∀(u m:Nat) (k:Tk) (s:ES),s.u=u->k.sz t<=m->k.wf t->(∃n r s',Ev t fr n k s r s'/\s'.u<=s.u/\(∀e,k=.e e->(∃v,r=.val v)∨∃c,r=.out c)):=by
 intro u;induction u using Nat.strongRecOn with
 | ind u ihu=>
  intro m;induction m with
  | zero=>
   intro k s _ hm hwf;cases k using Tk.cs with
   | e e=>have:=one_pos hwf.1;simp[Tk.sz] at hm;simp[hm] at this
   | p s a b=>simp[Tk.sz] at hm
   | sq ss=>simp[Tk.sz] at hm
   | bl ss=>simp[Tk.sz] at hm
   | c f vs=>simp[Tk.sz] at hm
  | succ m ihm=>
   intro k s hu hm hwf;have sub : ∀k' s',s'.u<=u->k'.wf t->(k'.sz t<=m∨s'.u<u)->∃n r s'',Ev t fr n k' s' r s''/\s''.u<=s'.u/\(∀e,k' = .e e->(∃v,r=.val v)∨∃c,r=.out c):=λk' s' h1 h2 h3=>by
    by_cases hlt:s'.u<u
    ·exact ihu s'.u hlt (k'.sz t) k' s' rfl n_ h2
    ·exact ihm k' s' o_ o_ h2
   cases k using Tk.cs with
   | e e=>
    obtain⟨h1,hcal⟩:=hwf;obtain⟨A,b,hc,hk⟩:=one_cuts h1;simp only[Tk.sz] at hm;have hkid : ∀i,i<A->∀s',s'.u<=u->∃n r s'',Ev t fr n (.e (kid e b i)) s' r s''/\s''.u<=s'.u/\((∃v,r=.val v)∨∃c,r=.out c):=λi hi s' hs'=>by
     obtain⟨n,r,s'',h2,h3,h4⟩:=sub (.e (kid e b i)) s' hs' ⟨hk i hi,λn hn=>hcal n (mem_kid hn)⟩ (.inl (by have:=hc.kid_lt i hi;simp only[Tk.sz];omega));exact⟨n,r,s'',h2,h3,h4 _ rfl⟩
    by_cases hao:(rootN e).kind=8∨(rootN e).kind=9
    ·have hA2:A=2:=by have:=hc.ar;rcases hao with h|h <;> simp[arity,h] at this <;> omega
     subst hA2;obtain⟨n1,r1,s1,h2,h3,⟨x,rfl⟩|⟨c,rfl⟩⟩:=hkid 0 o_ s o_
     ·by_cases hz:s1.u=0
      ·exact⟨_,_,_,.ldry n1 e b s x s1 hc hao h2 hz,h3,λ_ _=>.inr ⟨_,rfl⟩⟩
      ·by_cases hd:(rootN e).kind=8/\x=0∨(rootN e).kind=9/\x≠0
       ·exact⟨_,_,_,.lone n1 e b s x s1 hc hd h2 o_,by simp only[ES.sp];omega,λ_ _=>.inl ⟨_,rfl⟩⟩
       ·have hd':(rootN e).kind=8/\x≠0∨(rootN e).kind=9/\x=0:=by
         by_cases hx:x=0 <;> rcases hao with h|h <;> simp[hx,h] at hd ⊢
        obtain⟨n2,r2,s2,h4,h5,⟨y,rfl⟩|⟨c,rfl⟩⟩:=hkid 1 o_ s1.sp (by simp only[ES.sp];omega)
        ·simp only[ES.sp] at h5;by_cases hz2:s2.u=0
         ·exact⟨_,_,_,.rdry (max n1 n2) e b s x s1 y s2 hc hd' (h2.ups o_) o_ (h4.ups o_) hz2,by omega,λ_ _=>.inr ⟨_,rfl⟩⟩
         ·exact⟨_,_,_,.both (max n1 n2) e b s x s1 y s2 hc hd' (h2.ups o_) o_ (h4.ups o_) o_,by simp only[ES.sp];omega,λ_ _=>.inl ⟨_,rfl⟩⟩
        ·simp only[ES.sp] at h5;exact⟨_,_,_,.rigt (max n1 n2) e b s x s1 c s2 hc hd' (h2.ups o_) o_ (h4.ups o_),by omega,λ_ _=>.inr ⟨_,rfl⟩⟩
     ·exact⟨_,_,_,.left n1 e b s c s1 hc hao h2,h3,λ_ _=>.inr ⟨_,rfl⟩⟩
    ·have h8:(rootN e).kind≠8:=λh=>hao (.inl h);have h9:(rootN e).kind≠9:=λh=>hao (.inr h);have chain : ∀j,j<=A->(∃(n:Nat) (st:Nat->ES) (v:Nat->Int),st 0=s/\(st j).u<=s.u/\∀i,i<j->Ev t fr n (.e (kid e b i)) (st i) (.val (v i)) (st (i+1)))∨(∃n c s',Ev t fr n (.e e) s (.out c) s'/\s'.u<=s.u):=by
      intro j;induction j with
      | zero=>exact λ_=>.inl ⟨0,λ_=>s,λ_=>0,rfl,n_,λi hi=>absurd hi o_⟩
      | succ j ihj=>
       intro hj;rcases ihj o_ with ⟨n,st,v,h0,hu',hch⟩|h
       ·subst h0;obtain⟨n2,r2,s2,h4,h5,⟨y,rfl⟩|⟨c,rfl⟩⟩:=hkid j o_ (st j) o_
        ·refine .inl ⟨max n n2,λi=>if i<=j then st i else s2,λi=>if i<j then v i else y,by simp,by show (if j+1<=j then st (j+1) else s2).u<=_;rw[if_neg (show ¬j+1<=j by omega)];omega,λi hi => ?_⟩;by_cases hij:i<j
         ·have e1:i<=j:=by omega
          have e2:i+1<=j:=by omega
          simp only[if_pos hij,if_pos e1,if_pos e2];exact (hch i hij).ups o_
         ·have e0:i=j:=by omega
          subst e0;simp only[if_neg (Nat.lt_irrefl i),if_pos (Nat.le_refl i),if_neg (show ¬i+1<=i by omega)];exact h4.ups o_
        ·refine .inr ⟨_,c,s2,Ev.kid (max n n2) e A b st v j c s2 hc h8 h9 o_ (λi hi=>(hch i hi).ups o_) (h4.ups o_),by omega⟩
       ·exact .inr h
     rcases chain A n_ with ⟨n,st,v,h0,hu',hch⟩|⟨n,c,s',h2,h3⟩
     ·subst h0;by_cases hz:(st A).u=0
      ·exact⟨_,_,_,Ev.dry n e A b st v hc h8 h9 hch hz,hu',λ_ _=>.inr ⟨_,rfl⟩⟩
      ·by_cases h4:(rootN e).kind=4
       ·obtain⟨f,hf⟩:=hcal _ (rootN_mem hc.len) h4;obtain⟨n2,r2,s2,h5,h6,-⟩:=sub (.c f (argL A v)) (st A).sp (by simp only[ES.sp];omega) (fnum_lt hf) (.inr (by simp only[ES.sp];omega));simp only[ES.sp] at h6;have hr:(∃v,r2=.val v)∨∃c,r2=.out c:=by
         cases h5 using Ev_i with
         | run n f vs z hf r z' h1=>cases r using ER.cs <;> simp[ER.back]
        exact⟨_,_,_,Ev.call (max n n2) e A b st v f r2 s2 hc h4 hf (λi hi=>(hch i hi).ups o_) o_ (h5.ups o_),by omega,λ_ _=>hr⟩
       ·refine⟨_,_,_,Ev.work n e A b st v hc h8 h9 h4 hch o_,by rw[work_u];simp only[ES.sp];omega,λ_ _ => ?_⟩;unfold wkN
        (repeat' split) <;> simp
     ·exact⟨n,_,s',h2,h3,λ_ _=>.inr ⟨_,rfl⟩⟩
   | p x a b=>
    obtain⟨hx,ha,hb⟩:=hwf;simp only[Tk.sz] at hm;obtain⟨n1,r1,s1,h2,h3,h4⟩:=sub (.e x.e) s o_ hx.e (.inl (by simp only[Tk.sz];omega));rcases h4 _ rfl with ⟨v,rfl⟩|⟨c,rfl⟩
    ·have hk:=hx.k;have hkk:x.kind=1∨x.kind=2∨x.kind=3∨x.kind=4∨x.kind=5∨x.kind=6∨x.kind=7∨x.kind=8:=by omega
     rcases hkk with hkk|hkk|hkk|hkk|hkk|hkk|hkk|hkk
     ·exact⟨_,_,_,.decl n1 x a b s v s1 hkk h2,h3,λ_ h=>by cases h⟩
     ·exact⟨_,_,_,.set n1 x a b s v s1 hkk h2,by rw[wr_u];exact h3,λ_ h=>by cases h⟩
     ·obtain⟨n2,r2,s2,h5,h6,h7⟩:=sub (.e x.f) s1 o_ (hx.f hkk) (.inl (by simp only[Tk.sz];omega));rcases h7 _ rfl with ⟨y,rfl⟩|⟨c,rfl⟩
      ·by_cases hin:0<=v/\v<(s2.ws t x.name).length
       ·exact⟨_,_,_,.stor (max n1 n2) x a b s v s1 y s2 hkk (h2.ups o_) (h5.ups o_) hin,by rw[st_u];omega,λ_ h=>by cases h⟩
       ·exact⟨_,_,_,.smis (max n1 n2) x a b s v s1 y s2 hkk (h2.ups o_) (h5.ups o_) hin,by omega,λ_ h=>by cases h⟩
      ·exact⟨_,_,_,.sbad (max n1 n2) x a b s v s1 c s2 hkk (h2.ups o_) (h5.ups o_),by omega,λ_ h=>by cases h⟩
     ·by_cases hv:v=0
      ·subst hv;obtain⟨n2,r2,s2,h5,h6,-⟩:=sub (.bl b) s1 o_ hb (.inl (by simp only[Tk.sz];omega));exact⟨_,_,_,.ifel (max n1 n2) x a b s s1 r2 s2 hkk (h2.ups o_) (h5.ups o_),by omega,λ_ h=>by cases h⟩
      ·obtain⟨n2,r2,s2,h5,h6,-⟩:=sub (.bl a) s1 o_ ha (.inl (by simp only[Tk.sz];omega));exact⟨_,_,_,.ifth (max n1 n2) x a b s v s1 r2 s2 hkk (h2.ups o_) hv (h5.ups o_),by omega,λ_ h=>by cases h⟩
     ·by_cases hv:v=0
      ·subst hv;exact⟨_,_,_,.whno n1 x a b s s1 hkk h2,h3,λ_ h=>by cases h⟩
      ·obtain⟨n2,r2,s2,h5,h6,-⟩:=sub (.bl a) s1 o_ ha (.inl (by simp only[Tk.sz];omega));by_cases hon:r2=.on
       ·subst hon;by_cases hz:s2.u=0
        ·exact⟨_,_,_,.whdr (max n1 n2) x a b s v s1 s2 hkk (h2.ups o_) hv (h5.ups o_) hz,by omega,λ_ h=>by cases h⟩
        ·obtain⟨n3,r3,s3,h7,h8,-⟩:=sub (.p x a b) s2.sp (by simp only[ES.sp];omega) ⟨hx,ha,hb⟩ (.inr (by simp only[ES.sp];omega));simp only[ES.sp] at h8;exact⟨_,_,_,.whag (max n1 (max n2 n3)) x a b s v s1 s2 r3 s3 hkk (h2.ups o_) hv (h5.ups o_) o_ (h7.ups o_),by omega,λ_ h=>by cases h⟩
       ·exact⟨_,_,_,.whn (max n1 n2) x a b s v s1 r2 s2 hkk (h2.ups o_) hv (h5.ups o_) hon,by omega,λ_ h=>by cases h⟩
     ·exact⟨_,_,_,.retn n1 x a b s v s1 hkk h2,h3,λ_ h=>by cases h⟩
     ·exact⟨_,_,_,.tell n1 x a b s v s1 hkk h2,h3,λ_ h=>by cases h⟩
     ·exact⟨_,_,_,.only n1 x a b s v s1 hkk h2,h3,λ_ h=>by cases h⟩
    ·exact⟨_,_,_,.pbad n1 x a b s c s1 h2,h3,λ_ h=>by cases h⟩
   | sq ss=>
    cases ss with
    | nil=>exact⟨1,_,_,.nil 0 s,n_,λ_ h=>by cases h⟩
    | cons x q=>
     simp only[Tk.sz,wgt_cons] at hm;have hp:=wgt_parts q x.thn.toNat x.els.toNat;have hq : ∀y∈q,WfS t y:=λy hy=>hwf y (m_ _ hy);by_cases hz:s.u=0
     ·exact⟨_,_,_,.sdry 0 x q s hz,n_,λ_ h=>by cases h⟩
     ·obtain⟨n1,r1,s1,h2,h3,-⟩:=sub (.p x (q.take x.thn.toNat) ((q.drop x.thn.toNat).take x.els.toNat)) s.sp (by simp only[ES.sp];omega) ⟨hwf x (by simp),λy hy=>hq y (List.mem_of_mem_take hy),λy hy=>hq y (List.mem_of_mem_drop (List.mem_of_mem_take hy))⟩ (.inr (by simp only[ES.sp];omega));simp only[ES.sp] at h3;by_cases hon:r1=.on
      ·subst hon;obtain⟨n2,r2,s2,h5,h6,-⟩:=sub (.sq (q.drop (x.thn.toNat+x.els.toNat))) s1 o_ (λy hy=>hq y (List.mem_of_mem_drop hy)) (.inl (by simp only[Tk.sz];omega));exact⟨_,_,_,.next (max n1 n2) x q s s1 r2 s2 o_ (h2.ups o_) (h5.ups o_),by omega,λ_ h=>by cases h⟩
      ·exact⟨_,_,_,.send n1 x q s r1 s1 o_ h2 hon,by omega,λ_ h=>by cases h⟩
   | bl ss=>
    simp only[Tk.sz] at hm;obtain⟨n1,r1,s1,h2,h3,-⟩:=sub (.sq ss) s o_ hwf (.inl (by simp only[Tk.sz];omega));exact⟨_,_,_,.blk n1 ss s r1 s1 h2,h3,λ_ h=>by cases h⟩
   | c f vs=>
    have hf:f<t.funcs.length:=hwf;have eg:t.funcs.getD f ⟨⟨#[]⟩,[],[]⟩=t.funcs[f]:=by simp[List.getD,hf]
    simp only[Tk.sz,eg] at hm;obtain⟨n1,r1,s1,h2,h3,-⟩:=sub (.bl t.funcs[f].body) {s with l:=parL t.funcs[f] vs,n:=s.n+fr.getD f 0,d:=max s.d (s.n+fr.getD f 0)} (by simp only;omega) (hw _ (g_ hf)) (.inl (by simp only[Tk.sz];omega));exact⟨_,_,_,.run n1 f vs s hf r1 s1 h2,h3,λ_ h=>by cases h⟩
end
structure OkW (s:ES):Prop where
 g : ∀ws∈s.g,∀x∈ws,inB x
 l : ∀x∈s.l,inB x.2
 i : ∀x∈s.i,inB x
theorem inB_w (a:Int):inB (w32 a):=by unfold inB w32 RowKit.wrap32;omega
theorem inB0:inB 0:=by unfold inB;omega
theorem inB_bool (b:Bool):inB (boolN b):=by unfold inB boolN;cases b <;> simp
theorem inB_un (op a:Int):inB (unN op a):=by
 unfold unN;split
 ·exact inB_w _
 ·split
  ·exact inB_bool _
  ·exact inB_w _
theorem getD_ok {l:List Int} (h : ∀x∈l,inB x) (j:Nat):inB (l.getD j 0):=by
 unfold List.getD;by_cases hj:j<l.length
 ·rw[List.getElem?_eq_getElem hj];exact h _ (g_ hj)
 ·rw[List.getElem?_eq_none o_];exact inB0
theorem getDg_ok {g:List (List Int)} (h : ∀ws∈g,∀x∈ws,inB x) (k:Nat) : ∀x∈g.getD k [],inB x:=by
 unfold List.getD;by_cases hk:k<g.length
 ·rw[List.getElem?_eq_getElem hk];exact h _ (g_ hk)
 ·rw[List.getElem?_eq_none o_];intro x hx;cases hx
theorem rd_ok {t:Tr} {s:ES} (h:OkW s) (x:ByteArray):inB (s.rd t x):=by
 unfold ES.rd;split
 ·rename_i j _;unfold List.getD;by_cases hj:j<s.l.length
  ·rw[List.getElem?_eq_getElem hj];exact h.l _ (g_ hj)
  ·rw[List.getElem?_eq_none o_];exact inB0
 ·split
  ·exact getD_ok (getDg_ok h.g _) 0
  ·exact inB0
theorem ws_ok {t:Tr} {s:ES} (h:OkW s) (x:ByteArray) : ∀y∈s.ws t x,inB y:=by
 unfold ES.ws;split
 ·exact getDg_ok h.g _
 ·intro y hy;cases hy
theorem set_ok {l:List Int} (h : ∀x∈l,inB x) (j:Nat) {v:Int} (hv:inB v) : ∀x∈l.set j v,inB x:=λx hx=>by
 rcases List.mem_or_eq_of_mem_set hx with hx|rfl
 ·exact h x hx
 ·exact hv
theorem setg_ok {g:List (List Int)} (h : ∀ws∈g,∀x∈ws,inB x) (k:Nat) {l:List Int} (hl : ∀x∈l,inB x) : ∀ws∈g.set k l,∀x∈ws,inB x:=λws hw=>by
 rcases List.mem_or_eq_of_mem_set hw with hw|rfl
 ·exact h ws hw
 ·exact hl
theorem lens_set {g:List (List Int)} {k j:Nat} {v:Int}:(g.set k ((g.getD k []).set j v)).map List.length=g.map List.length:=by
 apply List.ext_getElem
 ·simp
 ·intro i h1 h2;simp only[List.getElem_map,List.getElem_set];split
  ·rename_i e;subst e;have hk:k<g.length:=by simpa using h2
   simp[List.getD,hk]
  ·rfl
theorem wr_sh {t:Tr} {s:ES} {x:ByteArray} {v:Int}:(s.wr t x v).g.map List.length=s.g.map List.length/\(s.wr t x v).n=s.n/\(s.wr t x v).l.map Prod.fst=s.l.map Prod.fst/\(s.wr t x v).o=s.o/\(s.wr t x v).i=s.i/\(s.wr t x v).d=s.d:=by
 unfold ES.wr;split
 ·rename_i j hj;refine⟨rfl,rfl,?_,rfl,rfl,rfl⟩;apply List.ext_getElem
  ·simp
  ·intro i h1 h2;simp only[List.getElem_map,List.getElem_set];split
   ·rename_i e;subst e;have hjl:j<s.l.length:=by simpa using h2
    obtain⟨h,hp,-⟩:=List.findIdx?_eq_some_iff_getElem.1 hj;simp only[decide_eq_true_eq] at hp;exact hp.symm
   ·rfl
 ·split
  ·exact⟨lens_set,rfl,rfl,rfl,rfl,rfl⟩
  ·exact⟨rfl,rfl,rfl,rfl,rfl,rfl⟩
theorem wr_ok {t:Tr} {s:ES} (h:OkW s) (x:ByteArray) {v:Int} (hv:inB v):OkW (s.wr t x v):=by
 unfold ES.wr;split
 ·refine⟨h.g,λy hy => ?_,h.i⟩;rcases List.mem_or_eq_of_mem_set hy with hy|rfl
  ·exact h.l y hy
  ·exact hv
 ·split
  ·exact⟨setg_ok h.g _ (set_ok (getDg_ok h.g _) _ hv),h.l,h.i⟩
  ·exact h
theorem st_sh {t:Tr} {s:ES} {x:ByteArray} {j:Nat} {v:Int}:(s.st t x j v).g.map List.length=s.g.map List.length/\(s.st t x j v).n=s.n/\(s.st t x j v).l=s.l/\(s.st t x j v).o=s.o/\(s.st t x j v).i=s.i/\(s.st t x j v).d=s.d:=by
 unfold ES.st;split
 ·exact⟨lens_set,rfl,rfl,rfl,rfl,rfl⟩
 ·exact⟨rfl,rfl,rfl,rfl,rfl,rfl⟩
theorem st_ok {t:Tr} {s:ES} (h:OkW s) (x:ByteArray) (j:Nat) {v:Int} (hv:inB v):OkW (s.st t x j v):=by
 unfold ES.st;split
 ·exact⟨setg_ok h.g _ (set_ok (getDg_ok h.g _) _ hv),h.l,h.i⟩
 ·exact h
theorem work_sh (t:Tr) (n:Nd) (v:Nat->Int) (s:ES):(wkN t n v s).2.g=s.g/\(wkN t n v s).2.n=s.n/\(wkN t n v s).2.l=s.l/\(wkN t n v s).2.o=s.o/\(wkN t n v s).2.d=s.d:=by
 unfold wkN
 (repeat' split) <;> exact⟨rfl,rfl,rfl,rfl,rfl⟩
theorem work_ok {t:Tr} {n:Nd} {v:Nat->Int} {s:ES} (h:OkW s) (hn:n.kind=1->inB n.val):OkW (wkN t n v s).2/\∀x,(wkN t n v s).1=.val x->inB x:=by
 unfold wkN;split
 ·rename_i hk;exact⟨h,λx hx=>by cases hx;exact hn hk⟩
 split
 ·exact⟨h,λx hx=>by cases hx;exact rd_ok h _⟩
 split
 ·split
  ·exact⟨h,λx hx=>by cases hx;exact getD_ok (ws_ok h _) _⟩
  ·exact⟨h,λx hx=>by cases hx⟩
 split
 ·split
  ·exact⟨h,λx hx=>by cases hx;exact inB0⟩
  ·rename_i y r hi;exact⟨⟨h.g,h.l,λz hz=>h.i z (by rw[hi];exact m_ _ hz)⟩,λx hx=>by cases hx;exact h.i _ (by rw[hi];exact List.mem_cons_self ..)⟩
 split
 ·exact⟨h,λx hx=>by cases hx;exact inB_un _ _⟩
 ·exact⟨h,λx hx=>by cases hx;exact ap_bd _ _ _⟩
def Sh (k:Tk) (s s':ES):Prop:=s'.g.map List.length=s.g.map List.length/\s'.n=s.n/\s'.u<=s.u /\
 (match k with
 | .inl _ =>s'.l=s.l
 | .inr (.inr (.inr (.inr (_, _)))) =>s'.l=s.l
 | .inr (.inr (.inr (.inl _))) =>s'.l.map Prod.fst=s.l.map Prod.fst
 | _=>∃m,s'.l.map Prod.fst=s.l.map Prod.fst++m)
def Tk.ok:Tk->Prop
 | .inr (.inr (.inr (.inr (_, vs)))) =>∀x∈vs,inB x
 | _=>True
theorem chn {t:Tr} {fr:List Int} {n:Nat} {e:List Nd} {b:Nat->Nat} {st:Nat->ES} {v:Nat->Int} {j:Nat} (h : ∀i,i<j->OkW (st i)->OkW (st (i+1))/\inB (v i)/\Sh (.e (kid e b i)) (st i) (st (i+1))) (h0:OkW (st 0)) : ∀i,i<=j->OkW (st i)/\Sh (.e []) (st 0) (st i)/\∀k,k<i->inB (v k):=by
 intro i;induction i with
 | zero=>exact λ_=>⟨h0,⟨rfl,rfl,n_,rfl⟩,λk hk=>absurd hk o_⟩
 | succ i ih=>
  intro hi;obtain⟨a1,⟨a2,a3,a4,a5⟩,a6⟩:=ih o_;obtain⟨b1,b2,⟨b3,b4,b5,b6⟩⟩:=h i o_ a1;refine⟨b1,⟨b3.trans a2,b4.trans a3,t_ b5 a4,b6.trans a5⟩,λk hk => ?_⟩;by_cases e:k=i
  ·subst e;exact b2
  ·exact a6 k o_
theorem Ev.inv {t:Tr} {fr:List Int} {n:Nat} {k:Tk} {s:ES} {r:ER} {s':ES} (h:Ev t fr n k s r s'):OkW s->k.ok->OkW s'/\(∀v,r=.val v∨r=.ret v->inB v)/\Sh k s s':=by
 have sp : ∀ {s:ES},OkW s->OkW s.sp:=λh=>⟨h.g,h.l,h.i⟩;have spu : ∀(s:ES),s.sp.u<=s.u:=λs=>by simp only[ES.sp];omega
 induction h using Ev_i with
 | kid n e A b st v j c s' h1 h2 h3 h4 h5 h6 i5 i6=>
  intro ho _;obtain⟨a1,a2,a3⟩:=chn (t:=t) (fr:=fr) (n:=n) (e:=e) (b:=b) (λi hi h0=>by obtain⟨x1,x2,x3⟩:=i5 i hi h0 trivial;exact⟨x1,x2 _ (.inl rfl),x3⟩) ho j n_;obtain⟨x1,x2,x3⟩:=i6 a1 trivial;exact⟨x1,(λv hv=>by rcases hv with hv|hv <;> cases hv),⟨x3.1.trans a2.1,x3.2.1.trans a2.2.1,t_ x3.2.2.1 a2.2.2.1,x3.2.2.2.trans a2.2.2.2⟩⟩
 | dry n e A b st v h1 h2 h3 h4 h5 i4=>
  intro ho _;obtain⟨a1,a2,a3⟩:=chn (t:=t) (fr:=fr) (n:=n) (e:=e) (b:=b) (λi hi h0=>by obtain⟨x1,x2,x3⟩:=i4 i hi h0 trivial;exact⟨x1,x2 _ (.inl rfl),x3⟩) ho A n_;exact⟨a1,(λv hv=>by rcases hv with hv|hv <;> cases hv),a2⟩
 | work n e A b st v h1 h2 h3 h4 h5 h6 i5=>
  intro ho _;obtain⟨a1,a2,a3⟩:=chn (t:=t) (fr:=fr) (n:=n) (e:=e) (b:=b) (λi hi h0=>by obtain⟨x1,x2,x3⟩:=i5 i hi h0 trivial;exact⟨x1,x2 _ (.inl rfl),x3⟩) ho A n_;have hg:=h1.root_good;obtain⟨w1,w2⟩:=work_ok (t:=t) (n:=rootN e) (v:=v) (sp a1) (λhk=>by
   unfold nodeB at hg;unfold inB;simp[hk] at hg;omega)
  obtain⟨y1,y2,y3,y4,y5⟩:=work_sh t (rootN e) v (st A).sp;refine⟨w1,λx hx => ?_,⟨by rw[y1];exact a2.1,by rw[y2];exact a2.2.1,by rw[work_u];exact t_ (spu _) a2.2.2.1,by show (wkN t (rootN e) v (st A).sp).2.l=_;rw[y3];exact a2.2.2.2⟩⟩;rcases hx with hx|hx
  ·exact w2 x hx
  ·exfalso
   revert hx
   unfold wkN
   (repeat' split) <;> simp
 | call n e A b st v f r s' h1 h2 h3 h4 h5 h6 i4 i6=>
  intro ho _;obtain⟨a1,a2,a3⟩:=chn (t:=t) (fr:=fr) (n:=n) (e:=e) (b:=b) (λi hi h0=>by obtain⟨x1,x2,x3⟩:=i4 i hi h0 trivial;exact⟨x1,x2 _ (.inl rfl),x3⟩) ho A n_;obtain⟨x1,x2,x3⟩:=i6 (sp a1) (λx hx=>by obtain⟨k,hk,rfl⟩:=List.mem_map.1 hx;exact a3 k (List.mem_range.1 hk));exact⟨x1,x2,⟨x3.1.trans a2.1,x3.2.1.trans a2.2.1,t_ x3.2.2.1 (t_ (spu _) a2.2.2.1),x3.2.2.2.trans a2.2.2.2⟩⟩
 | left n e b s c s' h1 h2 h3 i3=>intro ho _;obtain⟨x1,x2,x3⟩:=i3 ho trivial;exact⟨x1,(λv hv=>by rcases hv with hv|hv <;> cases hv),x3⟩
 | ldry n e b s x s' h1 h2 h3 h4 i3=>intro ho _;obtain⟨x1,x2,x3⟩:=i3 ho trivial;exact⟨x1,(λv hv=>by rcases hv with hv|hv <;> cases hv),x3⟩
 | lone n e b s x s' h1 h2 h3 h4 i3=>
  intro ho _;obtain⟨x1,x2,x3⟩:=i3 ho trivial;exact⟨sp x1,(λv hv=>by rcases hv with hv|hv <;> cases hv;exact inB_bool _),⟨x3.1,x3.2.1,t_ (spu _) x3.2.2.1,x3.2.2.2⟩⟩
 | rigt n e b s x s1 c s' h1 h2 h3 h4 h5 i3 i5=>
  intro ho _;obtain⟨x1,x2,x3⟩:=i3 ho trivial;obtain⟨y1,y2,y3⟩:=i5 (sp x1) trivial;exact⟨y1,(λv hv=>by rcases hv with hv|hv <;> cases hv),⟨y3.1.trans x3.1,y3.2.1.trans x3.2.1,t_ y3.2.2.1 (t_ (spu _) x3.2.2.1),y3.2.2.2.trans x3.2.2.2⟩⟩
 | rdry n e b s x s1 y s' h1 h2 h3 h4 h5 h6 i3 i5=>
  intro ho _;obtain⟨x1,x2,x3⟩:=i3 ho trivial;obtain⟨y1,y2,y3⟩:=i5 (sp x1) trivial;exact⟨y1,(λv hv=>by rcases hv with hv|hv <;> cases hv),⟨y3.1.trans x3.1,y3.2.1.trans x3.2.1,t_ y3.2.2.1 (t_ (spu _) x3.2.2.1),y3.2.2.2.trans x3.2.2.2⟩⟩
 | both n e b s x s1 y s' h1 h2 h3 h4 h5 h6 i3 i5=>
  intro ho _;obtain⟨x1,x2,x3⟩:=i3 ho trivial;obtain⟨y1,y2,y3⟩:=i5 (sp x1) trivial;exact⟨sp y1,(λv hv=>by rcases hv with hv|hv <;> cases hv;exact inB_bool _),⟨y3.1.trans x3.1,y3.2.1.trans x3.2.1,t_ (spu _) (t_ y3.2.2.1 (t_ (spu _) x3.2.2.1)),y3.2.2.2.trans x3.2.2.2⟩⟩
 | pbad n s a b z c z' h1 i1=>
  intro ho _;obtain⟨x1,x2,⟨x3,x4,x5,x6⟩⟩:=i1 ho trivial;exact⟨x1,(λv hv=>by rcases hv with hv|hv <;> cases hv),⟨x3,x4,x5,⟨[],by rw[x6];simp⟩⟩⟩
 | decl n s a b z v z' h1 h2 i2=>
  intro ho _;obtain⟨x1,x2,⟨x3,x4,x5,x6⟩⟩:=i2 ho trivial;refine⟨⟨x1.g,λy hy => ?_,x1.i⟩,(λv hv=>by rcases hv with hv|hv <;> cases hv),⟨x3,x4,x5,⟨[s.name],by simp[x6]⟩⟩⟩;rcases List.mem_append.1 hy with hy|hy
  ·exact x1.l y hy
  ·simp only[List.mem_singleton] at hy;subst hy;exact x2 v (.inl rfl)
 | set n s a b z v z' h1 h2 i2=>
  intro ho _;obtain⟨x1,x2,⟨x3,x4,x5,x6⟩⟩:=i2 ho trivial;obtain⟨y1,y2,y3,-⟩ := @wr_sh _ t z' s.name v;exact⟨wr_ok x1 _ (x2 v (.inl rfl)),(λv hv=>by rcases hv with hv|hv <;> cases hv),⟨y1.trans x3,y2.trans x4,by rw[wr_u];exact x5,⟨[],by rw[y3,x6];simp⟩⟩⟩
 | sbad n s a b z v z1 c z' h1 h2 h3 i2 i3=>
  intro ho _;obtain⟨x1,x2,⟨x3,x4,x5,x6⟩⟩:=i2 ho trivial;obtain⟨y1,y2,⟨y3,y4,y5,y6⟩⟩:=i3 x1 trivial;exact⟨y1,(λv hv=>by rcases hv with hv|hv <;> cases hv),⟨y3.trans x3,y4.trans x4,t_ y5 x5,⟨[],by rw[y6,x6];simp⟩⟩⟩
 | smis n s a b z v z1 x z' h1 h2 h3 h4 i2 i3=>
  intro ho _;obtain⟨x1,x2,⟨x3,x4,x5,x6⟩⟩:=i2 ho trivial;obtain⟨y1,y2,⟨y3,y4,y5,y6⟩⟩:=i3 x1 trivial;exact⟨y1,(λv hv=>by rcases hv with hv|hv <;> cases hv),⟨y3.trans x3,y4.trans x4,t_ y5 x5,⟨[],by rw[y6,x6];simp⟩⟩⟩
 | stor n s a b z v z1 x z' h1 h2 h3 h4 i2 i3=>
  intro ho _;obtain⟨x1,x2,⟨x3,x4,x5,x6⟩⟩:=i2 ho trivial;obtain⟨y1,y2,⟨y3,y4,y5,y6⟩⟩:=i3 x1 trivial;obtain⟨w1,w2,w3,-⟩ := @st_sh _ t z' s.name v.toNat x;exact⟨st_ok y1 _ _ (y2 x (.inl rfl)),(λv hv=>by rcases hv with hv|hv <;> cases hv),⟨w1.trans (y3.trans x3),w2.trans (y4.trans x4),by rw[st_u];exact t_ y5 x5,⟨[],by rw[w3,y6,x6];simp⟩⟩⟩
 | ifth n s a b z v z1 r z' h1 h2 h3 h4 i2 i4=>
  intro ho _;obtain⟨x1,x2,⟨x3,x4,x5,x6⟩⟩:=i2 ho trivial;obtain⟨y1,y2,⟨y3,y4,y5,y6⟩⟩:=i4 x1 trivial;exact⟨y1,y2,⟨y3.trans x3,y4.trans x4,t_ y5 x5,⟨[],by rw[y6,x6];simp⟩⟩⟩
 | ifel n s a b z z1 r z' h1 h2 h3 i2 i3=>
  intro ho _;obtain⟨x1,x2,⟨x3,x4,x5,x6⟩⟩:=i2 ho trivial;obtain⟨y1,y2,⟨y3,y4,y5,y6⟩⟩:=i3 x1 trivial;exact⟨y1,y2,⟨y3.trans x3,y4.trans x4,t_ y5 x5,⟨[],by rw[y6,x6];simp⟩⟩⟩
 | whno n s a b z z' h1 h2 i2=>
  intro ho _;obtain⟨x1,x2,⟨x3,x4,x5,x6⟩⟩:=i2 ho trivial;exact⟨x1,(λv hv=>by rcases hv with hv|hv <;> cases hv),⟨x3,x4,x5,⟨[],by rw[x6];simp⟩⟩⟩
 | whn n s a b z v z1 r z' h1 h2 h3 h4 h5 i2 i4=>
  intro ho _;obtain⟨x1,x2,⟨x3,x4,x5,x6⟩⟩:=i2 ho trivial;obtain⟨y1,y2,⟨y3,y4,y5,y6⟩⟩:=i4 x1 trivial;exact⟨y1,y2,⟨y3.trans x3,y4.trans x4,t_ y5 x5,⟨[],by rw[y6,x6];simp⟩⟩⟩
 | whdr n s a b z v z1 z' h1 h2 h3 h4 h5 i2 i4=>
  intro ho _;obtain⟨x1,x2,⟨x3,x4,x5,x6⟩⟩:=i2 ho trivial;obtain⟨y1,y2,⟨y3,y4,y5,y6⟩⟩:=i4 x1 trivial;exact⟨y1,(λv hv=>by rcases hv with hv|hv <;> cases hv),⟨y3.trans x3,y4.trans x4,t_ y5 x5,⟨[],by rw[y6,x6];simp⟩⟩⟩
 | whag n s a b z v z1 z2 r z' h1 h2 h3 h4 h5 h6 i2 i4 i6=>
  intro ho _;obtain⟨x1,x2,⟨x3,x4,x5,x6⟩⟩:=i2 ho trivial;obtain⟨y1,y2,⟨y3,y4,y5,y6⟩⟩:=i4 x1 trivial;obtain⟨w1,w2,⟨w3,w4,w5,m,w6⟩⟩:=i6 (sp y1) trivial;refine⟨w1,w2,⟨w3.trans (y3.trans x3),w4.trans (y4.trans x4),t_ w5 (t_ (spu _) (t_ y5 x5)),⟨m,?_⟩⟩⟩;have e1:z2.sp.l=z2.l:=rfl;rw[w6,e1,y6,x6]
 | retn n s a b z v z' h1 h2 i2=>
  intro ho _;obtain⟨x1,x2,⟨x3,x4,x5,x6⟩⟩:=i2 ho trivial;exact⟨x1,(λy hy=>by rcases hy with hy|hy <;> cases hy;exact x2 v (.inl rfl)),⟨x3,x4,x5,⟨[],by rw[x6];simp⟩⟩⟩
 | tell n s a b z v z' h1 h2 i2=>
  intro ho _;obtain⟨x1,x2,⟨x3,x4,x5,x6⟩⟩:=i2 ho trivial;exact⟨⟨x1.g,x1.l,x1.i⟩,(λv hv=>by rcases hv with hv|hv <;> cases hv),⟨x3,x4,x5,⟨[],by rw[x6];simp⟩⟩⟩
 | only n s a b z v z' h1 h2 i2=>
  intro ho _;obtain⟨x1,x2,⟨x3,x4,x5,x6⟩⟩:=i2 ho trivial;exact⟨x1,(λv hv=>by rcases hv with hv|hv <;> cases hv),⟨x3,x4,x5,⟨[],by rw[x6];simp⟩⟩⟩
 | nil n z=>intro ho _;exact⟨ho,(λv hv=>by rcases hv with hv|hv <;> cases hv),⟨rfl,rfl,n_,⟨[],by simp⟩⟩⟩
 | sdry n s q z h1=>intro ho _;exact⟨ho,(λv hv=>by rcases hv with hv|hv <;> cases hv),⟨rfl,rfl,n_,⟨[],by simp⟩⟩⟩
 | send n s q z r z' h1 h2 h3 i2=>
  intro ho _;obtain⟨x1,x2,⟨x3,x4,x5,m,x6⟩⟩:=i2 (sp ho) trivial;exact⟨x1,x2,⟨x3,x4,t_ x5 (spu _),⟨m,x6⟩⟩⟩
 | next n s q z z1 r z' h1 h2 h3 i2 i3=>
  intro ho _;obtain⟨x1,x2,⟨x3,x4,x5,m,x6⟩⟩:=i2 (sp ho) trivial;obtain⟨y1,y2,⟨y3,y4,y5,m2,y6⟩⟩:=i3 x1 trivial;have e1:z.sp.l=z.l:=rfl;exact⟨y1,y2,⟨y3.trans x3,y4.trans x4,t_ y5 (t_ x5 (spu _)),⟨m++m2,by rw[y6,x6,e1];simp⟩⟩⟩
 | blk n ss z r z' h1 i1=>
  intro ho _;obtain⟨x1,x2,⟨x3,x4,x5,m,x6⟩⟩:=i1 ho trivial;refine⟨⟨x1.g,λy hy=>x1.l y (List.mem_of_mem_take hy),x1.i⟩,x2,⟨x3,x4,x5,?_⟩⟩;show (z'.l.take z.l.length).map Prod.fst=_;rw[List.map_take,x6];simp
 | run n f vs z hf r z' h1 i1=>
  intro ho hok;obtain⟨x1,x2,⟨x3,x4,x5,x6⟩⟩:=i1 ⟨ho.g,λy hy=>hok y.2 (List.of_mem_zip hy).2,ho.i⟩ trivial;refine⟨⟨x1.g,ho.l,x1.i⟩,λv hv => ?_,⟨x3,?_,x5,rfl⟩⟩
  ·cases r using ER.cs with
   | val y=>rcases hv with hv|hv <;> cases hv;exact x2 v (.inl rfl)
   | on=>rcases hv with hv|hv <;> cases hv;exact inB0
   | ret y=>rcases hv with hv|hv <;> cases hv;exact x2 v (.inr rfl)
   | out c=>rcases hv with hv|hv <;> cases hv
  ·show z'.n-fr.getD f 0=z.n;rw[x4];show z.n+fr.getD f 0-fr.getD f 0=z.n;omega
section
variable {s:St} {sc tk:List ByteArray} {t:Tr} {e:List Nd} {gs:List Gl} {n:Nd}
theorem inS_iff {xs:List ByteArray} {s:ByteArray} :inS xs s=true↔s∈xs:=by
 unfold inS;rw[List.any_eq_true];constructor
 ·rintro ⟨x,hx,he⟩;exact (of_decide_eq_true he) ▸ hx
 ·exact λh=>⟨s,h,decide_eq_true rfl⟩
def Snd (t:Tr) (ss:List St) (sc:List ByteArray):Prop:=∃a tk,(∀x∈sc,x∈tk)/\(blkE t ss a sc tk).1=0
theorem scp_sub (h : ∀x∈sc,x∈tk) : ∀x∈scp s sc,x∈scp s tk:=by
 unfold scp;split
 ·intro x hx;rcases List.mem_append.1 hx with hx|hx
  ·exact List.mem_append_left _ (h x hx)
  ·exact List.mem_append_right _ hx
 ·exact h
theorem scp_mem {x:ByteArray} (h:x∈tk):x∈scp s tk:=by
 unfold scp;split
 ·exact List.mem_append_left _ h
 ·exact h
theorem blkE_tk (t:Tr) (n:Nat) : ∀(ss:List St) (a:Int) (sc tk:List ByteArray),ss.length<=n->∀x∈tk,x∈(blkE t ss a sc tk).2.2:=by
 induction n with
 | zero=>
  intro ss a sc tk h x hx;obtain rfl:ss = []:=List.eq_nil_of_length_eq_zero o_;rw[blkE_nil];exact hx
 | succ n ih=>
  intro ss a sc tk h x hx;cases ss with
  | nil=>rw[blkE_nil];exact hx
  | cons s r=>
   simp only[l_c] at h;by_cases h1:stmtE t sc tk s=0
   ·have l1:=ih (r.take s.thn.toNat) (a+1) (scp s sc) (scp s tk) (by simp;omega) x (scp_mem hx);by_cases h2:(blkE t (r.take s.thn.toNat) (a+1) (scp s sc) (scp s tk)).1=0
    ·have l2:=ih ((r.drop s.thn.toNat).take s.els.toNat) (a+1+s.thn) (scp s sc) _ (by simp;omega) x l1;by_cases h3:(blkE t ((r.drop s.thn.toNat).take s.els.toNat) (a+1+s.thn) (scp s sc) (blkE t (r.take s.thn.toNat) (a+1) (scp s sc) (scp s tk)).2.2).1=0
     ·rw[blkE_next h1 h2 rfl h3 rfl];exact ih _ _ _ _ (by simp;omega) x l2
     ·rw[blkE_else h1 h2 rfl h3];exact l2
    ·rw[blkE_then h1 h2];exact l1
   ·rw[blkE_bad h1];exact hx
theorem Snd.cons {q:List St} (h:Snd t (s::q) sc):(∃tk,(∀x∈sc,x∈tk)/\stmtE t sc tk s=0)/\Snd t (q.take s.thn.toNat) (scp s sc)/\Snd t ((q.drop s.thn.toNat).take s.els.toNat) (scp s sc)/\Snd t (q.drop (s.thn.toNat+s.els.toNat)) (scp s sc):=by
 obtain⟨a,tk,hs,h⟩:=h;by_cases h1:stmtE t sc tk s=0
 ·by_cases h2:(blkE t (q.take s.thn.toNat) (a+1) (scp s sc) (scp s tk)).1=0
  ·have s2 : ∀x∈scp s sc,x∈(blkE t (q.take s.thn.toNat) (a+1) (scp s sc) (scp s tk)).2.2:=λx hx=>blkE_tk t _ _ _ _ _ n_ x (scp_sub hs x hx);by_cases h3:(blkE t ((q.drop s.thn.toNat).take s.els.toNat) (a+1+s.thn) (scp s sc) (blkE t (q.take s.thn.toNat) (a+1) (scp s sc) (scp s tk)).2.2).1=0
   ·rw[blkE_next h1 h2 rfl h3 rfl] at h;exact⟨⟨tk,hs,h1⟩,⟨_,_,scp_sub hs,h2⟩,⟨_,_,s2,h3⟩,⟨_,_,λx hx=>blkE_tk t _ _ _ _ _ n_ x (s2 x hx),h⟩⟩
   ·rw[blkE_else h1 h2 rfl h3] at h;exact absurd h h3
  ·rw[blkE_then h1 h2] at h;exact absurd h h2
 ·rw[blkE_bad h1] at h;exact absurd h h1
def KnE (t:Tr) (sc:List ByteArray) (e:List Nd):Prop:=∀n∈e,nodeE t sc n=0
theorem exprE_all {t:Tr} {sc:List ByteArray} : ∀ {e:List Nd},exprE t sc e=0->KnE t sc e
 | [],_,n,hn=>by cases hn
 | m::r,h,n,hn=>by
  simp only[exprE] at h;by_cases hm:nodeE t sc m=0
  ·rw[if_pos hm] at h;rcases List.mem_cons.1 hn with rfl|hn
   ·exact hm
   ·exact exprE_all h n hn
  ·rw[if_neg hm] at h;exact absurd h hm
theorem KnE.kid {b:Nat->Nat} {i:Nat} (h:KnE t sc e):KnE t sc (kid e b i):=λn hn=>h n (mem_kid hn)
theorem use_var {s:ByteArray} (h:useE gs sc s false=0):s∈sc∨(s∉sc/\globI gs s=0):=by
 unfold useE at h;by_cases hi:inS sc s=true
 ·exact .inl (inS_iff.1 hi)
 ·rw[if_neg hi] at h;refine .inr ⟨λhm=>hi (inS_iff.2 hm),?_⟩;split at h
  ·omega
  ·split at h
   ·rename_i h1 h2;simp at h2;omega
   ·omega
theorem use_arr {s:ByteArray} (h:useE gs sc s true=0):s∉sc/\0<globI gs s:=by
 unfold useE at h;by_cases hi:inS sc s=true
 ·simp[hi] at h
 ·rw[if_neg hi] at h;refine⟨λhm=>hi (inS_iff.2 hm),?_⟩;split at h
  ·omega
  ·split at h
   ·rename_i h1 h2;simpa using h2
   ·omega
theorem node_var (h:nodeE t sc n=0) (hk:n.kind=2):n.name∈sc∨(n.name∉sc/\globI t.globals n.name=0):=by
 unfold nodeE at h;rw[if_pos (.inl hk)] at h;have:decide (n.kind=3)=false:=by simp[hk]
 rw[this] at h;exact use_var h
theorem node_arr (h:nodeE t sc n=0) (hk:n.kind=3):n.name∉sc/\0<globI t.globals n.name:=by
 unfold nodeE at h;rw[if_pos (.inr hk)] at h;have:decide (n.kind=3)=true:=by simp[hk]
 rw[this] at h;exact use_arr h
theorem node_call (h:nodeE t sc n=0) (hk:n.kind=4) : ∃f,fnum t.funcs n.name=some f/\((t.funcs.getD f ⟨⟨#[]⟩,[],[]⟩).params.length:Int)=n.val:=by
 unfold nodeE at h;rw[if_neg o_,if_pos hk] at h;cases e:fnum t.funcs n.name with
 | none=>rw[e] at h;simp at h
 | some f=>
  rw[e] at h;simp only at h;refine⟨f,rfl,?_⟩;by_cases hh:((t.funcs.getD f ⟨⟨#[]⟩,[],[]⟩).params.length:Int)=n.val
  ·exact hh
  ·rw[if_neg hh] at h;cases h
structure KnP (t:Tr) (sc:List ByteArray) (s:St):Prop where
 e:KnE t sc s.e
 f:KnE t sc s.f
 decl:s.kind=1->s.name∉sc/\globI t.globals s.name<0
 set:s.kind=2->s.name∈sc∨(s.name∉sc/\globI t.globals s.name=0)
 store:s.kind=3->s.name∉sc/\0<globI t.globals s.name
theorem stmt_kn (h:stmtE t sc tk s=0) (hs : ∀x∈sc,x∈tk):KnP t sc s:=by
 unfold stmtE at h;by_cases he:exprE t sc (s.e++s.f)≠0
 ·rw[if_pos he] at h;exact absurd h he
 rw[if_neg he] at h;have hk:=exprE_all (show exprE t sc (s.e++s.f)=0 by simpa using he);refine⟨λn hn=>hk n (List.mem_append_left _ hn),λn hn=>hk n (List.mem_append_right _ hn),λhk => ?_,λhk => ?_,λhk => ?_⟩
 ·rw[if_pos hk] at h;by_cases hc:inS tk s.name=true∨0<=globI t.globals s.name
  ·rw[if_pos hc] at h;cases h
  ·exact⟨λhm=>hc (.inl (inS_iff.2 (hs _ hm))),by have:=λh=>hc (.inr h);omega⟩
 ·rw[if_neg o_,if_pos (.inl hk)] at h;have:decide (s.kind=3)=false:=by simp[hk]
  rw[this] at h;exact use_var h
 ·rw[if_neg o_,if_pos (.inr hk)] at h;have:decide (s.kind=3)=true:=by simp[hk]
  rw[this] at h;exact use_arr h
def Scp (t:Tr) (sc:List ByteArray):Prop:=sc.Nodup/\∀x∈sc,globI t.globals x<0
theorem Scp.add (h:Scp t sc) (hk:KnP t sc s):Scp t (scp s sc):=by
 unfold scp;split
 ·rename_i h1;obtain⟨a,b⟩:=hk.decl h1;refine⟨?_,λx hx => ?_⟩
  ·rw[List.nodup_append];exact⟨h.1,by simp,λx hx y hy e=>by simp only[List.mem_singleton] at hy;subst hy;subst e;exact a hx⟩
  ·rcases List.mem_append.1 hx with hx|hx
   ·exact h.2 x hx
   ·simp only[List.mem_singleton] at hx;subst hx;exact b
 ·exact h
theorem dupP_scp (gs:List Gl) : ∀(ps seen:List ByteArray),seen.Nodup->(∀x∈seen,globI gs x<0)->dupP gs seen ps=false->(seen++ps).Nodup/\∀x∈seen++ps,globI gs x<0
 | [],seen,hn,hg,_=>by simpa using ⟨hn,hg⟩
 | p::r,seen,hn,hg,h=>by
  unfold dupP at h;by_cases hc:inS seen p=true∨0<=globI gs p
  ·rw[if_pos hc] at h;cases h
  ·rw[if_neg hc] at h;have hni:p∉seen:=λhm=>hc (.inl (inS_iff.2 hm));have:=dupP_scp gs r (seen++[p]) (by
    rw[List.nodup_append];exact⟨hn,by simp,λx hx y hy e=>by simp only[List.mem_singleton] at hy;subst hy;subst e;exact hni hx⟩) (λx hx=>by
    rcases List.mem_append.1 hx with hx|hx
    ·exact hg x hx
    ·simp only[List.mem_singleton] at hx;subst hx;have:=λh=>hc (.inr h)
     omega) h
   simpa using this
theorem bodies_all {t:Tr} : ∀(fs:List Fu) (i:Nat),(bodiesE t i fs).1=0->∀f∈fs,∃j,(bodyE t j f).1=0
 | [],i,_,f,hf=>by cases hf
 | g::r,i,h,f,hf=>by
  unfold bodiesE at h;by_cases hg:(bodyE t i g).1≠0
  ·rw[if_pos hg] at h;exact absurd h hg
  ·rw[if_neg hg] at h;rcases List.mem_cons.1 hf with rfl|hf
   ·exact⟨i,by simpa using hg⟩
   ·exact bodies_all r (i+1) h f hf
theorem sound_snd (h:(checkE t).1=0):treeB t=true/\(namesE t).1=0/\∀f∈t.funcs,Snd t f.body f.params/\Scp t f.params:=by
 unfold checkE at h;by_cases h1:treeB t=false
 ·rw[if_pos h1] at h;simp at h
 rw[if_neg h1] at h;by_cases h2:(namesE t).1≠0
 ·rw[if_pos h2] at h;exact absurd h h2
 rw[if_neg h2] at h;by_cases h3:(bodiesE t 0 t.funcs).1≠0
 ·rw[if_pos h3] at h;exact absurd h h3
 refine⟨by simpa using h1,by simpa using h2,λf hf => ?_⟩;obtain⟨j,hj⟩:=bodies_all t.funcs 0 (by simpa using h3) f hf;unfold bodyE at hj;by_cases hd:dupP t.globals [] f.params=true
 ·rw[if_pos hd] at hj;cases hj
 ·rw[if_neg hd] at hj;by_cases hb:(blkE t f.body 0 f.params f.params).1≠0
  ·rw[if_pos hb] at hj;exact absurd hj hb
  ·obtain⟨n1,n2⟩:=dupP_scp t.globals f.params [] List.nodup_nil (by simp) (by simpa using hd);exact⟨⟨0,f.params,λx hx=>hx,by simpa using hb⟩,by simpa using n1,by simpa using n2⟩
end
end Go.Proofs.YtffnkkpmlplfeaaGreatDoor
