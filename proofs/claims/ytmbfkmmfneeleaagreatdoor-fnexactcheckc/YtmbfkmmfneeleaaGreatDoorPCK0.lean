import Derived.Test.YtmbfkmmfneeleaaGreatDoorPW0
import Derived.Test.YtmbfkmmfneeleaaGreatDoorPCA0
namespace Go.Proofs.YtmbfkmmfneeleaaGreatDoor
set_option linter.unusedVariables false
set_option linter.unusedSimpArgs false

/-- The size of the first global of a name, or -1. -/
def globI : List Gl → ByteArray → Int
  | [], _ => -1
  | g :: r, s => if g.name = s then g.size else globI r s
theorem globI_at {gs : List Gl} {s : ByteArray} {k : Nat} (hk : k < gs.length) (h : ∀ j (hj : j < k), gs[j].name ≠ s) (hs : gs[k].name = s) : globI gs s = gs[k].size := by
  induction gs generalizing k with
  | nil => simp at hk
  | cons g r ih =>
    cases k with
    | zero => simp at hs; simp [globI, hs]
    | succ k =>
      have h0 := h 0 (by omega)
      simp at h0
      simp only [globI, h0, if_false]
      exact ih (k := k) (by simpa using hk) (fun j hj => by have := h (j + 1) (by omega); simpa using this) (by simpa using hs)
theorem globI_no {gs : List Gl} {s : ByteArray} (h : ∀ j (hj : j < gs.length), gs[j].name ≠ s) : globI gs s = -1 := by
  induction gs with
  | nil => rfl
  | cons g r ih =>
    have h0 := h 0 (by simp)
    simp at h0
    simp only [globI, h0, if_false]
    exact ih (fun j hj => by have := h (j + 1) (by simpa using hj); simpa using this)
/-- Whether a name is among some. -/
def inS (xs : List ByteArray) (s : ByteArray) : Bool := xs.any (fun x => decide (x = s))
theorem inS_at {xs : List ByteArray} {s : ByteArray} {k : Nat} (hk : k < xs.length) (hs : xs[k] = s) : inS xs s = true := by
  unfold inS
  rw [List.any_eq_true]
  exact ⟨xs[k], List.getElem_mem hk, decide_eq_true hs⟩
theorem inS_no {xs : List ByteArray} {s : ByteArray} (h : ∀ j (hj : j < xs.length), xs[j] ≠ s) : inS xs s = false := by
  unfold inS
  rw [List.any_eq_false]
  intro x hx
  obtain ⟨j, hj, rfl⟩ := List.getElem_of_mem hx
  simpa using h j hj
theorem inS_append (xs ys : List ByteArray) (s : ByteArray) : inS (xs ++ ys) s = (inS xs s || inS ys s) := by simp [inS]
/-- What is wrong with a use of a variable. -/
def useE (gs : List Gl) (scope : List ByteArray) (s : ByteArray) (arr : Bool) : Int :=
  if (if inS scope s then 0 else globI gs s) < 0 then 4 else if decide ((if inS scope s then 0 else globI gs s) > 0) = arr then 0 else 5
def nodeE (t : Tr) (scope : List ByteArray) (n : Nd) : Int :=
  if n.kind = 2 ∨ n.kind = 3 then useE t.globals scope n.name (decide (n.kind = 3))
  else if n.kind = 4 then (match fnum t.funcs n.name with | none => 4 | some i => if ((t.funcs.getD i ⟨⟨#[]⟩, [], []⟩).params.length : Int) = n.val then 0 else 6)
  else 0
def exprE (t : Tr) (scope : List ByteArray) : List Nd → Int
  | [] => 0
  | n :: r => if nodeE t scope n = 0 then exprE t scope r else nodeE t scope n
theorem exprE_append (t : Tr) (scope : List ByteArray) (a b : List Nd) : exprE t scope (a ++ b) = if exprE t scope a = 0 then exprE t scope b else exprE t scope a := by
  induction a with
  | nil => simp [exprE]
  | cons n r ih =>
    simp only [List.cons_append, exprE]
    by_cases h : nodeE t scope n = 0
    · simp only [h, if_true, ih]
    · simp only [h, if_false]
theorem exprE_zero {t : Tr} {scope : List ByteArray} {ns : List Nd} (h : ∀ j (hj : j < ns.length), nodeE t scope ns[j] = 0) : exprE t scope ns = 0 := by
  induction ns with
  | nil => rfl
  | cons n r ih =>
    have h0 := h 0 (by simp)
    simp at h0
    simp only [exprE, h0, if_true]
    exact ih (fun j hj => by have := h (j + 1) (by simpa using hj); simpa using this)
theorem exprE_at {t : Tr} {scope : List ByteArray} {ns : List Nd} {k : Nat} (hk : k < ns.length) (h : ∀ j (hj : j < k), nodeE t scope ns[j] = 0) (he : nodeE t scope ns[k] ≠ 0) : exprE t scope ns = nodeE t scope ns[k] := by
  induction ns generalizing k with
  | nil => simp at hk
  | cons n r ih =>
    cases k with
    | zero => simp at he; simp [exprE, he]
    | succ k =>
      have h0 := h 0 (by omega)
      simp at h0
      simp only [exprE, h0, if_true]
      exact ih (k := k) (by simpa using hk) (fun j hj => by have := h (j + 1) (by omega); simpa using this) (by simpa using he)
/-- What is wrong with a statement without its blocks. -/
def stmtE (t : Tr) (scope taken : List ByteArray) (s : St) : Int :=
  if exprE t scope (s.e ++ s.f) ≠ 0 then exprE t scope (s.e ++ s.f)
  else if s.kind = 1 then (if inS taken s.name = true ∨ 0 ≤ globI t.globals s.name then 2 else 0)
  else if s.kind = 2 ∨ s.kind = 3 then useE t.globals scope s.name (decide (s.kind = 3))
  else 0
/-- A block whose first statement has the number a: what is wrong, where, and all names declared so far. -/
def blkEN (t : Tr) : Nat → List St → Int → List ByteArray → List ByteArray → Int × Int × List ByteArray
  | 0, _, _, _, taken => (0, 0, taken)
  | _ + 1, [], _, _, taken => (0, 0, taken)
  | n + 1, s :: r, a, scope, taken =>
    if stmtE t scope taken s ≠ 0 then (stmtE t scope taken s, a, taken)
    else
      let scope' := if s.kind = 1 then scope ++ [s.name] else scope
      let taken' := if s.kind = 1 then taken ++ [s.name] else taken
      let x := blkEN t n (r.take s.thn.toNat) (a + 1) scope' taken'
      if x.1 ≠ 0 then x
      else
        let y := blkEN t n ((r.drop s.thn.toNat).take s.els.toNat) (a + 1 + s.thn) scope' x.2.2
        if y.1 ≠ 0 then y
        else blkEN t n (r.drop (s.thn.toNat + s.els.toNat)) (a + 1 + s.thn + s.els) scope' y.2.2
theorem blkEN_any (t : Tr) : ∀ (n m : Nat) (ss : List St) (a : Int) (sc tk : List ByteArray), ss.length ≤ n → ss.length ≤ m → blkEN t n ss a sc tk = blkEN t m ss a sc tk := by
 intro n
 induction n with
 | zero =>
  intro m ss a sc tk h _
  obtain rfl : ss = [] := List.length_eq_zero_iff.1 (by omega)
  cases m <;> rfl
 | succ n ih =>
  intro m ss a sc tk h h'
  cases ss with
  | nil => cases m <;> rfl
  | cons s r =>
   simp only [List.length_cons] at h h'
   obtain ⟨m, rfl⟩ : ∃ k, m = k + 1 := ⟨m - 1, by omega⟩
   have e1 := fun b sc tk => ih m (r.take s.thn.toNat) b sc tk (by simp <;> omega) (by simp <;> omega)
   have e2 := fun b sc tk => ih m ((r.drop s.thn.toNat).take s.els.toNat) b sc tk (by simp <;> omega) (by simp <;> omega)
   have e3 := fun b sc tk => ih m (r.drop (s.thn.toNat + s.els.toNat)) b sc tk (by simp <;> omega) (by simp <;> omega)
   simp only [blkEN, e1, e2, e3]
def blkE (t : Tr) (ss : List St) (a : Int) (scope taken : List ByteArray) : Int × Int × List ByteArray := blkEN t ss.length ss a scope taken
theorem blkE_nil0 (t : Tr) (a : Int) (scope taken : List ByteArray) : blkE t [] a scope taken = (0, 0, taken) := rfl
theorem blkE_cons (t : Tr) (s : St) (r : List St) (a : Int) (scope taken : List ByteArray) : blkE t (s :: r) a scope taken =
    if stmtE t scope taken s ≠ 0 then (stmtE t scope taken s, a, taken)
    else
      let scope' := if s.kind = 1 then scope ++ [s.name] else scope
      let taken' := if s.kind = 1 then taken ++ [s.name] else taken
      let x := blkE t (r.take s.thn.toNat) (a + 1) scope' taken'
      if x.1 ≠ 0 then x
      else
        let y := blkE t ((r.drop s.thn.toNat).take s.els.toNat) (a + 1 + s.thn) scope' x.2.2
        if y.1 ≠ 0 then y
        else blkE t (r.drop (s.thn.toNat + s.els.toNat)) (a + 1 + s.thn + s.els) scope' y.2.2 := by
 have e1 := fun b sc tk => blkEN_any t r.length (r.take s.thn.toNat).length (r.take s.thn.toNat) b sc tk (by simp <;> omega) (Nat.le_refl _)
 have e2 := fun b sc tk => blkEN_any t r.length ((r.drop s.thn.toNat).take s.els.toNat).length ((r.drop s.thn.toNat).take s.els.toNat) b sc tk (by simp <;> omega) (Nat.le_refl _)
 have e3 := fun b sc tk => blkEN_any t r.length (r.drop (s.thn.toNat + s.els.toNat)).length (r.drop (s.thn.toNat + s.els.toNat)) b sc tk (by simp <;> omega) (Nat.le_refl _)
 show blkEN t (r.length + 1) (s :: r) a scope taken = _
 simp only [blkEN, blkE, e1, e2, e3]
 rfl
/-- One function calls another. -/
def CallR (t : Tr) (f g : Nat) : Prop := f < t.funcs.length ∧ g ∈ callsL t.funcs (t.funcs.getD f ⟨⟨#[]⟩, [], []⟩).body
/-- One comes to another by one call or more. -/
structure Rch (t : Tr) (f : Nat) (a0_ : Nat) : Prop where
  out : ∀ (P_ : Nat → Prop), (∀ {g : Nat}, CallR t f g → P_ g) → (∀ {g h : Nat}, P_ g → CallR t g h → P_ h) → P_ a0_
theorem Rch.one {t : Tr} {f : Nat} {g : Nat} (q0_ : CallR t f g) : Rch t f g := ⟨fun P_ h0_ h1_ => h0_ q0_⟩
theorem Rch.step {t : Tr} {f : Nat} {g h : Nat} (q0_ : Rch t f g) (q1_ : CallR t g h) : Rch t f h := ⟨fun P_ h0_ h1_ => h1_ (q0_.out P_ h0_ h1_) q1_⟩
theorem Rch.ind {t : Tr} {f : Nat} {motive : ∀ (a0_ : Nat), Rch t f a0_ → Prop}
    (one : ∀ {g : Nat} (q0_ : CallR t f g) , motive g (Rch.one q0_))
    (step : ∀ {g h : Nat} (q0_ : Rch t f g) (q1_ : CallR t g h) (q0_i : motive g q0_), motive h (Rch.step q0_ q1_))
    {a0_ : Nat} (t_ : Rch t f a0_) : motive a0_ t_ :=
  (t_.out (fun a0_ => ∃ z_ : Rch t f a0_, motive a0_ z_)
    (fun {g} q0_ => ⟨Rch.one q0_, one q0_⟩)
    (fun {g h} q0_ q1_ => ⟨Rch.step q0_.1 q1_, step q0_.1 q1_ q0_.2⟩)).2
theorem CallR.lt {t : Tr} {f g : Nat} (h : CallR t f g) : g < t.funcs.length := by
  have := h.2
  unfold callsL at this
  simp only [List.mem_filter, List.mem_range] at this
  exact this.1
theorem Rch.lt {t : Tr} {f g : Nat} (h : Rch t f g) : g < t.funcs.length := by
  cases h using Rch.ind with
  | one h => exact h.lt
  | step _ h => exact h.lt
/-- A set that holds what its start calls and is closed under calls holds all that is come to. -/
theorem Rch.sub {t : Tr} {f : Nat} {S : Nat → Prop} (h0 : ∀ g, CallR t f g → S g) (hc : ∀ g h, S g → CallR t g h → S h) {g : Nat} (h : Rch t f g) : S g := by
  induction h using Rch.ind with
  | one h => exact h0 _ h
  | step _ h ih => exact hc _ _ ih h
/-- The names of the globals and of the functions: the first that stands twice, then main. -/
def dupG : List ByteArray → List Gl → Bool
  | _, [] => false
  | seen, g :: r => if inS seen g.name then true else dupG (seen ++ [g.name]) r
def dupF : List ByteArray → Int → List Fu → Option Int
  | _, _, [] => none
  | seen, i, f :: r => if inS seen f.name then some i else dupF (seen ++ [f.name]) (i + 1) r
def mainS : ByteArray := ⟨#[109, 97, 105, 110]⟩
def namesE (t : Tr) : Int × Int × Int :=
  if dupG [] t.globals then (2, -1, -1)
  else match dupF (t.globals.map (·.name)) 0 t.funcs with
    | some i => (2, i, -1)
    | none => match fnum t.funcs mainS with
      | none => (3, -1, -1)
      | some m => if (t.funcs.getD m ⟨⟨#[]⟩, [], []⟩).params.length > 0 then (3, -1, -1) else (0, -1, -1)
def dupP (gs : List Gl) : List ByteArray → List ByteArray → Bool
  | _, [] => false
  | seen, p :: r => if inS seen p = true ∨ 0 ≤ globI gs p then true else dupP gs (seen ++ [p]) r
def bodyE (t : Tr) (i : Nat) (f : Fu) : Int × Int × Int :=
  if dupP t.globals [] f.params then (2, i, -1)
  else if (blkE t f.body 0 f.params f.params).1 ≠ 0 then ((blkE t f.body 0 f.params f.params).1, i, (blkE t f.body 0 f.params f.params).2.1)
  else (0, -1, -1)
def bodiesE (t : Tr) : Nat → List Fu → Int × Int × Int
  | _, [] => (0, -1, -1)
  | i, f :: r => if (bodyE t i f).1 ≠ 0 then bodyE t i f else bodiesE t (i + 1) r
/-- What chooses, given to all that wants it; the last theorem gives it. -/
structure Pick : Type 1 where
  get : (α : Type) → Nonempty α → α
set_option linter.unusedSectionVars false
variable [Inhabited Pick]
def pd (p : Prop) : Decidable p := (default : Pick).get (Decidable p) ⟨Classical.propDecidable p⟩
def circE (t : Tr) (m : Nat) : Nat → Nat → Int × Int × Int
  | _, 0 => (0, -1, -1)
  | i, n + 1 => @ite _ ((i = m ∨ Rch t m i) ∧ Rch t i i) (pd _) (7, i, -1) (circE t m (i + 1) n)
/-- The answer of CheckC. -/
def checkE (t : Tr) : Int × Int × Int :=
  if treeB t = false then (1, -1, -1)
  else if (namesE t).1 ≠ 0 then namesE t
  else if (bodiesE t 0 t.funcs).1 ≠ 0 then bodiesE t 0 t.funcs
  else circE t ((fnum t.funcs mainS).getD 0) 0 t.funcs.length

end Go.Proofs.YtmbfkmmfneeleaaGreatDoor

namespace Go.Proofs.YtmbfkmmfneeleaaGreatDoor
set_option linter.unusedVariables false
set_option linter.unusedSimpArgs false
set_option linter.unusedSectionVars false
variable [Inhabited Pick]

/-- On the way to all that f comes to: out was come to, work is still to be looked at. -/
structure RInv (t : Tr) (f : Nat) (out work : List Nat) : Prop where
  nd : out.Nodup
  come : ∀ x ∈ out, Rch t f x
  sub : ∀ x ∈ work, x = f ∨ x ∈ out
  shut : ∀ x, (x = f ∨ x ∈ out) → x ∉ work → ∀ y, CallR t x y → y ∈ out
/-- Within a round: x is looked at, of its calls those of done were. -/
structure RMid (t : Tr) (f x : Nat) (done out work : List Nat) : Prop where
  nd : out.Nodup
  come : ∀ x ∈ out, Rch t f x
  at_ : x = f ∨ x ∈ out
  sub : ∀ x ∈ work, x = f ∨ x ∈ out
  shut : ∀ z, (z = f ∨ z ∈ out) → z ∉ work → z ≠ x → ∀ y, CallR t z y → y ∈ out
  part : ∀ y ∈ done, y ∈ out
theorem RInv.start (t : Tr) (f : Nat) : RInv t f [] [f] := by
  refine ⟨List.nodup_nil, by simp, by simp, fun x hx hn => ?_⟩
  simp at hx hn
  exact absurd hx hn
/-- A round begins: x is taken off. -/
theorem RInv.take {t : Tr} {f x : Nat} {out work rest : List Nat} (h : RInv t f out work) (hx : x ∈ work) (hr : ∀ y, y ∈ work ↔ y = x ∨ y ∈ rest) : RMid t f x [] out rest := by
  refine ⟨h.nd, h.come, h.sub x hx, fun y hy => h.sub y ((hr y).2 (.inr hy)), fun z hz hn hne y hy => h.shut z hz (fun hm => ?_) y hy, by simp⟩
  rcases (hr z).1 hm with h1 | h1
  · exact hne h1
  · exact hn h1
theorem RMid.old {t : Tr} {f x y : Nat} {done out work : List Nat} (h : RMid t f x done out work) (hy : y ∈ out) : RMid t f x (done ++ [y]) out work :=
  ⟨h.nd, h.come, h.at_, h.sub, h.shut, fun z hz => by
    simp only [List.mem_append, List.mem_singleton] at hz
    rcases hz with h1 | rfl
    · exact h.part z h1
    · exact hy⟩
theorem RMid.new {t : Tr} {f x y : Nat} {done out work : List Nat} (h : RMid t f x done out work) (hy : y ∉ out) (hc : CallR t x y) : RMid t f x (done ++ [y]) (out ++ [y]) (work ++ [y]) := by
  refine ⟨?_, ?_, ?_, ?_, ?_, ?_⟩
  · rw [List.nodup_append]
    exact ⟨h.nd, by simp, fun a ha b hb e => by simp only [List.mem_singleton] at hb; subst hb; subst e; exact hy ha⟩
  · intro z hz
    simp only [List.mem_append, List.mem_singleton] at hz
    rcases hz with h1 | rfl
    · exact h.come z h1
    · rcases h.at_ with rfl | h2
      · exact .one hc
      · exact .step (h.come _ h2) hc
  · rcases h.at_ with h1 | h1
    · exact .inl h1
    · exact .inr (List.mem_append_left _ h1)
  · intro z hz
    simp only [List.mem_append, List.mem_singleton] at hz ⊢
    rcases hz with h1 | rfl
    · rcases h.sub z h1 with h2 | h2
      · exact .inl h2
      · exact .inr (.inl h2)
    · exact .inr (.inr rfl)
  · intro z hz hn hne q hq
    simp only [List.mem_append, List.mem_singleton, not_or] at hz hn
    have h3 : z = f ∨ z ∈ out := by
      rcases hz with h1 | h1 | h1
      · exact .inl h1
      · exact .inr h1
      · exact absurd h1 hn.2
    exact List.mem_append_left _ (h.shut z h3 hn.1 hne q hq)
  · intro z hz
    simp only [List.mem_append, List.mem_singleton] at hz ⊢
    rcases hz with h1 | rfl
    · exact .inl (h.part z h1)
    · exact .inr rfl
theorem RMid.done {t : Tr} {f x : Nat} {all out work : List Nat} (h : RMid t f x all out work) (ha : ∀ y, CallR t x y → y ∈ all) : RInv t f out work := by
  refine ⟨h.nd, h.come, h.sub, fun z hz hn y hy => ?_⟩
  by_cases e : z = x
  · subst e
    exact h.part y (ha y hy)
  · exact h.shut z hz hn e y hy
/-- Nothing is left: all that f comes to. -/
theorem RInv.all {t : Tr} {f : Nat} {out : List Nat} (h : RInv t f out []) (g : Nat) : g ∈ out ↔ Rch t f g :=
  ⟨fun hg => h.come g hg, fun hg => Rch.sub (S := fun g => g ∈ out) (fun g hg => h.shut f (.inl rfl) (by simp) g hg) (fun g k hg hk => h.shut g (.inr hg) (by simp) k hk) hg⟩
theorem nodup_le (n : Nat) : ∀ {l : List Nat}, l.Nodup → (∀ x ∈ l, x < n) → l.length ≤ n := by
  induction n with
  | zero =>
    intro l h hl
    cases l with
    | nil => simp
    | cons x r => have := hl x (by simp); omega
  | succ n ih =>
    intro l h hl
    by_cases hm : n ∈ l
    · have h1 := ih (h.erase n) (fun x hx => by
        have h2 := (h.mem_erase_iff).1 hx
        have := hl x h2.2
        have := h2.1
        omega)
      rw [List.length_erase_of_mem hm] at h1
      omega
    · have h1 := ih h (fun x hx => by
        have := hl x hx
        have : x ≠ n := fun e => hm (e ▸ hx)
        omega)
      omega
theorem RMid.len {t : Tr} {f x : Nat} {done out work : List Nat} (h : RMid t f x done out work) : out.length ≤ t.funcs.length := nodup_le _ h.nd (fun x hx => (h.come x hx).lt)
theorem RInv.len {t : Tr} {f : Nat} {out work : List Nat} (h : RInv t f out work) : out.length ≤ t.funcs.length := nodup_le _ h.nd (fun x hx => (h.come x hx).lt)
theorem RInv.lt {t : Tr} {f : Nat} {out work : List Nat} (h : RInv t f out work) (hf : f < t.funcs.length) : ∀ x ∈ work, x < t.funcs.length := by
  intro x hx
  rcases h.sub x hx with rfl | h1
  · exact hf
  · exact (h.come x h1).lt
theorem CallR.mem {t : Tr} {f g : Nat} (hf : f < t.funcs.length) : CallR t f g ↔ g ∈ callsL t.funcs t.funcs[f].body := by
  have e : t.funcs.getD f ⟨⟨#[]⟩, [], []⟩ = t.funcs[f] := by simp [List.getD, hf]
  unfold CallR
  rw [e]
  exact ⟨fun h => h.2, fun h => ⟨hf, h⟩⟩

end Go.Proofs.YtmbfkmmfneeleaaGreatDoor

namespace Go.Proofs.YtmbfkmmfneeleaaGreatDoor
set_option linter.unusedVariables false
set_option linter.unusedSimpArgs false
set_option linter.unusedSectionVars false
variable [Inhabited Pick]

def scp (s : St) (sc : List ByteArray) : List ByteArray := if s.kind = 1 then sc ++ [s.name] else sc
theorem blkE_bad {t : Tr} {s : St} {r : List St} {a : Int} {sc tk : List ByteArray} (h : stmtE t sc tk s ≠ 0) : blkE t (s :: r) a sc tk = (stmtE t sc tk s, a, tk) := by
  rw [blkE_cons]; simp only [h, ne_eq, not_false_eq_true, if_true]
theorem blkE_then {t : Tr} {s : St} {r : List St} {a : Int} {sc tk : List ByteArray} (h : stmtE t sc tk s = 0) (hx : (blkE t (r.take s.thn.toNat) (a + 1) (scp s sc) (scp s tk)).1 ≠ 0) : blkE t (s :: r) a sc tk = blkE t (r.take s.thn.toNat) (a + 1) (scp s sc) (scp s tk) := by
  unfold scp at hx ⊢
  rw [blkE_cons]; simp only [h, ne_eq, not_true_eq_false, if_false, hx, not_false_eq_true, if_true]
theorem blkE_else {t : Tr} {s : St} {r : List St} {a : Int} {sc tk tk1 : List ByteArray} (h : stmtE t sc tk s = 0) (hx : (blkE t (r.take s.thn.toNat) (a + 1) (scp s sc) (scp s tk)).1 = 0) (htk : tk1 = (blkE t (r.take s.thn.toNat) (a + 1) (scp s sc) (scp s tk)).2.2)
    (hy : (blkE t ((r.drop s.thn.toNat).take s.els.toNat) (a + 1 + s.thn) (scp s sc) tk1).1 ≠ 0) : blkE t (s :: r) a sc tk = blkE t ((r.drop s.thn.toNat).take s.els.toNat) (a + 1 + s.thn) (scp s sc) tk1 := by
  subst htk
  unfold scp at hx hy ⊢
  rw [blkE_cons]; simp only [h, ne_eq, not_true_eq_false, if_false, hx, hy, not_false_eq_true, if_true]
theorem blkE_next {t : Tr} {s : St} {r : List St} {a : Int} {sc tk tk1 tk2 : List ByteArray} (h : stmtE t sc tk s = 0) (hx : (blkE t (r.take s.thn.toNat) (a + 1) (scp s sc) (scp s tk)).1 = 0) (htk : tk1 = (blkE t (r.take s.thn.toNat) (a + 1) (scp s sc) (scp s tk)).2.2)
    (hy : (blkE t ((r.drop s.thn.toNat).take s.els.toNat) (a + 1 + s.thn) (scp s sc) tk1).1 = 0) (htk2 : tk2 = (blkE t ((r.drop s.thn.toNat).take s.els.toNat) (a + 1 + s.thn) (scp s sc) tk1).2.2) : blkE t (s :: r) a sc tk = blkE t (r.drop (s.thn.toNat + s.els.toNat)) (a + 1 + s.thn + s.els) (scp s sc) tk2 := by
  subst htk htk2
  unfold scp at hx hy ⊢
  rw [blkE_cons]; simp only [h, ne_eq, not_true_eq_false, if_false, hx, hy]
theorem blkE_nil (t : Tr) (a : Int) (sc tk : List ByteArray) : blkE t [] a sc tk = (0, 0, tk) := by rw [blkE_nil0]
theorem scp_yes {s : St} (h : s.kind = 1) (l : List ByteArray) : scp s l = l ++ [s.name] := if_pos h
theorem scp_no {s : St} (h : s.kind ≠ 1) (l : List ByteArray) : scp s l = l := if_neg h
theorem scp_len (s : St) (tk : List ByteArray) : (scp s tk).length ≤ tk.length + 1 := by unfold scp; split <;> simp
theorem blkE_len (t : Tr) (n : Nat) : ∀ (ss : List St) (a : Int) (sc tk : List ByteArray), ss.length ≤ n → (blkE t ss a sc tk).2.2.length ≤ tk.length + ss.length := by
  induction n with
  | zero =>
    intro ss a sc tk h
    obtain rfl : ss = [] := List.eq_nil_of_length_eq_zero (by omega)
    simp [blkE_nil]
  | succ n ih =>
    intro ss a sc tk h
    cases ss with
    | nil => simp [blkE_nil]
    | cons s r =>
      simp only [List.length_cons] at h ⊢
      by_cases h1 : stmtE t sc tk s = 0
      · have l1 := ih (r.take s.thn.toNat) (a + 1) (scp s sc) (scp s tk) (by simp; omega)
        have l0 := scp_len s tk
        have e1 : (r.take s.thn.toNat).length = min s.thn.toNat r.length := by simp
        by_cases h2 : (blkE t (r.take s.thn.toNat) (a + 1) (scp s sc) (scp s tk)).1 = 0
        · obtain ⟨tk1, htk1⟩ : ∃ tk1, tk1 = (blkE t (r.take s.thn.toNat) (a + 1) (scp s sc) (scp s tk)).2.2 := ⟨_, rfl⟩
          have l2 := ih ((r.drop s.thn.toNat).take s.els.toNat) (a + 1 + s.thn) (scp s sc) tk1 (by simp; omega)
          have e2 : ((r.drop s.thn.toNat).take s.els.toNat).length = min s.els.toNat (r.length - s.thn.toNat) := by simp
          rw [← htk1] at l1
          by_cases h3 : (blkE t ((r.drop s.thn.toNat).take s.els.toNat) (a + 1 + s.thn) (scp s sc) tk1).1 = 0
          · obtain ⟨tk2, htk2⟩ : ∃ tk2, tk2 = (blkE t ((r.drop s.thn.toNat).take s.els.toNat) (a + 1 + s.thn) (scp s sc) tk1).2.2 := ⟨_, rfl⟩
            rw [← htk2] at l2
            have l3 := ih (r.drop (s.thn.toNat + s.els.toNat)) (a + 1 + s.thn + s.els) (scp s sc) tk2 (by simp; omega)
            rw [blkE_next h1 h2 htk1 h3 htk2]
            simp only [List.length_drop] at l3
            omega
          · rw [blkE_else h1 h2 htk1 h3]
            omega
        · rw [blkE_then h1 h2]
          omega
      · rw [blkE_bad h1]
        simp
theorem flat_scp (bsn : List (List ByteArray)) (xs : List ByteArray) (s : St) : (bsn ++ [scp s xs]).flatten = scp s (bsn ++ [xs]).flatten := by
  unfold scp
  split <;> simp
theorem flat_nil (bsn : List (List ByteArray)) : (bsn ++ [[]]).flatten = bsn.flatten := by simp


end Go.Proofs.YtmbfkmmfneeleaaGreatDoor
