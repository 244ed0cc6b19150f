import Derived.RegionTactic
import Derived.Test.YtjhmgjimppflhaaGreatDoorZ19
namespace Go.Proofs.YtjhmgjimppflhaaGreatDoor
set_option linter.unusedVariables false
set_option linter.unusedSimpArgs false
set_option maxRecDepth 100000
set_option maxHeartbeats 16000000
section
/-- The size of the first global of a name, or -1. -/
def globI : List Gl → ByteArray → Int
  | [], _ => -1
  | g :: r, s => if g.name = s then g.size else globI r s
theorem globI_at {gs : List Gl} {s : ByteArray} {k : Nat} (hk : k < gs.length) (h : ∀ j (hj : j < k), gs[j].name ≠ s) (hs : gs[k].name = s) : globI gs s = gs[k].size := by
  induction gs generalizing k with
  | nil => simp at hk
  | cons g r ih =>
    cases k with
    | zero => simp at hs; simp [globI, hs]
    | succ k =>
      have h0 := h 0 (by omega)
      simp at h0
      simp only [globI, h0, if_false]
      exact ih (k := k) (by simpa using hk) (fun j hj => by have := h (j + 1) (by omega); simpa using this) (by simpa using hs)
theorem globI_no {gs : List Gl} {s : ByteArray} (h : ∀ j (hj : j < gs.length), gs[j].name ≠ s) : globI gs s = -1 := by
  induction gs with
  | nil => rfl
  | cons g r ih =>
    have h0 := h 0 (by simp)
    simp at h0
    simp only [globI, h0, if_false]
    exact ih (fun j hj => by have := h (j + 1) (by simpa using hj); simpa using this)
/-- Whether a name is among some. -/
def inS (xs : List ByteArray) (s : ByteArray) : Bool := xs.any (fun x => decide (x = s))
theorem inS_at {xs : List ByteArray} {s : ByteArray} {k : Nat} (hk : k < xs.length) (hs : xs[k] = s) : inS xs s = true := by
  unfold inS
  rw [List.any_eq_true]
  exact ⟨xs[k], List.getElem_mem hk, decide_eq_true hs⟩
theorem inS_no {xs : List ByteArray} {s : ByteArray} (h : ∀ j (hj : j < xs.length), xs[j] ≠ s) : inS xs s = false := by
  unfold inS
  rw [List.any_eq_false]
  intro x hx
  obtain ⟨j, hj, rfl⟩ := List.getElem_of_mem hx
  simpa using h j hj
theorem inS_append (xs ys : List ByteArray) (s : ByteArray) : inS (xs ++ ys) s = (inS xs s || inS ys s) := by simp [inS]
/-- What is wrong with a use of a variable. -/
def useE (gs : List Gl) (scope : List ByteArray) (s : ByteArray) (arr : Bool) : Int :=
  if (if inS scope s then 0 else globI gs s) < 0 then 4 else if decide ((if inS scope s then 0 else globI gs s) > 0) = arr then 0 else 5
def nodeE (t : Tr) (scope : List ByteArray) (n : Nd) : Int :=
  if n.kind = 2 ∨ n.kind = 3 then useE t.globals scope n.name (decide (n.kind = 3))
  else if n.kind = 4 then (match fnum t.funcs n.name with | none => 4 | some i => if ((t.funcs.getD i ⟨⟨#[]⟩, [], []⟩).params.length : Int) = n.val then 0 else 6)
  else 0
def exprE (t : Tr) (scope : List ByteArray) : List Nd → Int
  | [] => 0
  | n :: r => if nodeE t scope n = 0 then exprE t scope r else nodeE t scope n
theorem exprE_append (t : Tr) (scope : List ByteArray) (a b : List Nd) : exprE t scope (a ++ b) = if exprE t scope a = 0 then exprE t scope b else exprE t scope a := by
  induction a with
  | nil => simp [exprE]
  | cons n r ih =>
    simp only [List.cons_append, exprE]
    by_cases h : nodeE t scope n = 0
    · simp only [h, if_true, ih]
    · simp only [h, if_false]
theorem exprE_zero {t : Tr} {scope : List ByteArray} {ns : List Nd} (h : ∀ j (hj : j < ns.length), nodeE t scope ns[j] = 0) : exprE t scope ns = 0 := by
  induction ns with
  | nil => rfl
  | cons n r ih =>
    have h0 := h 0 (by simp)
    simp at h0
    simp only [exprE, h0, if_true]
    exact ih (fun j hj => by have := h (j + 1) (by simpa using hj); simpa using this)
theorem exprE_at {t : Tr} {scope : List ByteArray} {ns : List Nd} {k : Nat} (hk : k < ns.length) (h : ∀ j (hj : j < k), nodeE t scope ns[j] = 0) (he : nodeE t scope ns[k] ≠ 0) : exprE t scope ns = nodeE t scope ns[k] := by
  induction ns generalizing k with
  | nil => simp at hk
  | cons n r ih =>
    cases k with
    | zero => simp at he; simp [exprE, he]
    | succ k =>
      have h0 := h 0 (by omega)
      simp at h0
      simp only [exprE, h0, if_true]
      exact ih (k := k) (by simpa using hk) (fun j hj => by have := h (j + 1) (by omega); simpa using this) (by simpa using he)
/-- What is wrong with a statement without its blocks. -/
def stmtE (t : Tr) (scope taken : List ByteArray) (s : St) : Int :=
  if exprE t scope (s.e ++ s.f) ≠ 0 then exprE t scope (s.e ++ s.f)
  else if s.kind = 1 then (if inS taken s.name = true ∨ 0 ≤ globI t.globals s.name then 2 else 0)
  else if s.kind = 2 ∨ s.kind = 3 then useE t.globals scope s.name (decide (s.kind = 3))
  else 0
/-- A block whose first statement has the number a: what is wrong, where, and all names declared so far. -/
def blkEN (t : Tr) : Nat → List St → Int → List ByteArray → List ByteArray → Int × Int × List ByteArray
  | 0, _, _, _, taken => (0, 0, taken)
  | _ + 1, [], _, _, taken => (0, 0, taken)
  | n + 1, s :: r, a, scope, taken =>
    if stmtE t scope taken s ≠ 0 then (stmtE t scope taken s, a, taken)
    else
      let scope' := if s.kind = 1 then scope ++ [s.name] else scope
      let taken' := if s.kind = 1 then taken ++ [s.name] else taken
      let x := blkEN t n (r.take s.thn.toNat) (a + 1) scope' taken'
      if x.1 ≠ 0 then x
      else
        let y := blkEN t n ((r.drop s.thn.toNat).take s.els.toNat) (a + 1 + s.thn) scope' x.2.2
        if y.1 ≠ 0 then y
        else blkEN t n (r.drop (s.thn.toNat + s.els.toNat)) (a + 1 + s.thn + s.els) scope' y.2.2
theorem blkEN_any (t : Tr) : ∀ (n m : Nat) (ss : List St) (a : Int) (sc tk : List ByteArray), ss.length ≤ n → ss.length ≤ m → blkEN t n ss a sc tk = blkEN t m ss a sc tk := by
 intro n
 induction n with
 | zero =>
  intro m ss a sc tk h _
  obtain rfl : ss = [] := List.length_eq_zero_iff.1 (by omega)
  cases m <;> rfl
 | succ n ih =>
  intro m ss a sc tk h h'
  cases ss with
  | nil => cases m <;> rfl
  | cons s r =>
   simp only [List.length_cons] at h h'
   obtain ⟨m, rfl⟩ : ∃ k, m = k + 1 := ⟨m - 1, by omega⟩
   have e1 := fun b sc tk => ih m (r.take s.thn.toNat) b sc tk (by simp <;> omega) (by simp <;> omega)
   have e2 := fun b sc tk => ih m ((r.drop s.thn.toNat).take s.els.toNat) b sc tk (by simp <;> omega) (by simp <;> omega)
   have e3 := fun b sc tk => ih m (r.drop (s.thn.toNat + s.els.toNat)) b sc tk (by simp <;> omega) (by simp <;> omega)
   simp only [blkEN, e1, e2, e3]
def blkE (t : Tr) (ss : List St) (a : Int) (scope taken : List ByteArray) : Int × Int × List ByteArray := blkEN t ss.length ss a scope taken
theorem blkE_nil0 (t : Tr) (a : Int) (scope taken : List ByteArray) : blkE t [] a scope taken = (0, 0, taken) := rfl
theorem blkE_cons (t : Tr) (s : St) (r : List St) (a : Int) (scope taken : List ByteArray) : blkE t (s :: r) a scope taken =
    if stmtE t scope taken s ≠ 0 then (stmtE t scope taken s, a, taken)
    else
      let scope' := if s.kind = 1 then scope ++ [s.name] else scope
      let taken' := if s.kind = 1 then taken ++ [s.name] else taken
      let x := blkE t (r.take s.thn.toNat) (a + 1) scope' taken'
      if x.1 ≠ 0 then x
      else
        let y := blkE t ((r.drop s.thn.toNat).take s.els.toNat) (a + 1 + s.thn) scope' x.2.2
        if y.1 ≠ 0 then y
        else blkE t (r.drop (s.thn.toNat + s.els.toNat)) (a + 1 + s.thn + s.els) scope' y.2.2 := by
 have e1 := fun b sc tk => blkEN_any t r.length (r.take s.thn.toNat).length (r.take s.thn.toNat) b sc tk (by simp <;> omega) (Nat.le_refl _)
 have e2 := fun b sc tk => blkEN_any t r.length ((r.drop s.thn.toNat).take s.els.toNat).length ((r.drop s.thn.toNat).take s.els.toNat) b sc tk (by simp <;> omega) (Nat.le_refl _)
 have e3 := fun b sc tk => blkEN_any t r.length (r.drop (s.thn.toNat + s.els.toNat)).length (r.drop (s.thn.toNat + s.els.toNat)) b sc tk (by simp <;> omega) (Nat.le_refl _)
 show blkEN t (r.length + 1) (s :: r) a scope taken = _
 simp only [blkEN, blkE, e1, e2, e3]
 rfl
/-- One function calls another. -/
def CallR (t : Tr) (f g : Nat) : Prop := f < t.funcs.length ∧ g ∈ callsL t.funcs (t.funcs.getD f ⟨⟨#[]⟩, [], []⟩).body
/-- One comes to another by one call or more. -/
structure RchC (t:Tr)(f:Nat)(P:Nat→Prop):Prop where
 c_::
 one{g:Nat}:CallR t f g→P g
 step{g h:Nat}:P g→CallR t g h→P h
structure Rch (t:Tr)(f:Nat)(a0:Nat):Prop where
 c_::
 out:∀P,RchC t f P→P a0
theorem Rch.C{t:Tr}{f:Nat}:RchC t f (Rch t f):=⟨fun {g} q0=>⟨fun P k=>k.one q0⟩,
 fun {g h} q0 q1=>⟨fun P k=>k.step (q0.out P k) q1⟩⟩
abbrev Rch.one {t f}:=@RchC.one t f _ Rch.C
abbrev Rch.step {t f}:=@RchC.step t f _ Rch.C
theorem Rch.ind{t:Tr}{f:Nat}{M:∀(a0:Nat),Rch t f a0→Prop}
 (one:∀{g:Nat},CallR t f g→∀u,M g u)
 (step:∀{g h:Nat},∀q0:Rch t f g,CallR t g h→M g q0→∀u,M h u)
 {a0:Nat}(u:Rch t f a0):M a0 u:=
 (u.out (fun a0=>∃z_,M a0 z_) ⟨fun {g} q0=>⟨.one q0,one q0 _⟩,
 fun {g h} q0 q1=>⟨.step q0.1 q1,step _ q1 q0.2 _⟩⟩).2
theorem CallR.lt {t : Tr} {f g : Nat} (h : CallR t f g) : g < t.funcs.length := by
  have := h.2
  unfold callsL at this
  simp only [List.mem_filter, List.mem_range] at this
  exact this.1
theorem Rch.lt {t : Tr} {f g : Nat} (h : Rch t f g) : g < t.funcs.length := by
  cases h using Rch.ind with
  | one h => exact h.lt
  | step _ h => exact h.lt
/-- A set that holds what its start calls and is closed under calls holds all that is come to. -/
theorem Rch.sub {t : Tr} {f : Nat} {S : Nat → Prop} (h0 : ∀ g, CallR t f g → S g) (hc : ∀ g h, S g → CallR t g h → S h) {g : Nat} (h : Rch t f g) : S g := by
  induction h using Rch.ind with
  | one h => exact h0 _ h
  | step _ h ih => exact hc _ _ ih h
/-- The names of the globals and of the functions: the first that stands twice, then main. -/
def dupG : List ByteArray → List Gl → Bool
  | _, [] => false
  | seen, g :: r => if inS seen g.name then true else dupG (seen ++ [g.name]) r
def dupF : List ByteArray → Int → List Fu → Option Int
  | _, _, [] => none
  | seen, i, f :: r => if inS seen f.name then some i else dupF (seen ++ [f.name]) (i + 1) r
def mainS : ByteArray := ⟨#[109, 97, 105, 110]⟩
def namesE (t : Tr) : Int × Int × Int :=
  if dupG [] t.globals then (2, -1, -1)
  else match dupF (t.globals.map (·.name)) 0 t.funcs with
    | some i => (2, i, -1)
    | none => match fnum t.funcs mainS with
      | none => (3, -1, -1)
      | some m => if (t.funcs.getD m ⟨⟨#[]⟩, [], []⟩).params.length > 0 then (3, -1, -1) else (0, -1, -1)
def dupP (gs : List Gl) : List ByteArray → List ByteArray → Bool
  | _, [] => false
  | seen, p :: r => if inS seen p = true ∨ 0 ≤ globI gs p then true else dupP gs (seen ++ [p]) r
def bodyE (t : Tr) (i : Nat) (f : Fu) : Int × Int × Int :=
  if dupP t.globals [] f.params then (2, i, -1)
  else if (blkE t f.body 0 f.params f.params).1 ≠ 0 then ((blkE t f.body 0 f.params f.params).1, i, (blkE t f.body 0 f.params f.params).2.1)
  else (0, -1, -1)
def bodiesE (t : Tr) : Nat → List Fu → Int × Int × Int
  | _, [] => (0, -1, -1)
  | i, f :: r => if (bodyE t i f).1 ≠ 0 then bodyE t i f else bodiesE t (i + 1) r
/-- What chooses, given to all that wants it; the last theorem gives it. -/
structure Pick : Type 1 where
  get : (α : Type) → Nonempty α → α
set_option linter.unusedSectionVars false
variable [Inhabited Pick]
def pd (p : Prop) : Decidable p := (default : Pick).get (Decidable p) ⟨Classical.propDecidable p⟩
def circE (t : Tr) (m : Nat) : Nat → Nat → Int × Int × Int
  | _, 0 => (0, -1, -1)
  | i, n + 1 => @ite _ ((i = m ∨ Rch t m i) ∧ Rch t i i) (pd _) (7, i, -1) (circE t m (i + 1) n)
/-- The answer of CheckC. -/
def checkE (t : Tr) : Int × Int × Int :=
  if treeB t = false then (1, -1, -1)
  else if (namesE t).1 ≠ 0 then namesE t
  else if (bodiesE t 0 t.funcs).1 ≠ 0 then bodiesE t 0 t.funcs
  else circE t ((fnum t.funcs mainS).getD 0) 0 t.funcs.length
end
section
open Go.RowKit
set_option maxRecDepth 100000 in
set_option maxHeartbeats 2000000 in
theorem l3in_any (xs : List ByteArray) (v : Value) (s : ByteArray) (w : World) (hl : xs.length ≤ 10000000) (hx : Strs w v xs) :
    Calls Tryz.prog 51 #[v, .string s] w fun e w' => e = .returned (.bool (inS xs s)) ∧ Below w.heap.size w w' := by
  obtain ⟨a, c, rfl, -, -, hc⟩ := hx
  have HC : Hid (0 < xs.length → ∃ b off, a = some ⟨b, off, none⟩ ∧ StrsC w b off xs) := hc
  clear hc
  go_enter Tryz.func51, Tryz.ntmps51
  go_wp2_with fail
  go_loopw [5] (fun i wr => ∃ k : Nat, k ≤ xs.length ∧ i = .int .i64 k ∧ (∀ j (hj : j < xs.length), j < k → xs[j] ≠ s) ∧ Below w.heap.size w wr) (fun i _ => xs.length - (RowKit.intOf i).toNat)
  case atStart => exact ⟨0, Nat.zero_le _, rfl, fun j hj h => absurd h (Nat.not_lt_zero _), Below.refl _ _⟩
  case round =>
    obtain ⟨k, hk, rfl, hn, hB⟩ := hrel
    have HN : Hid (∀ j (hj : j < xs.length), j < k → xs[j] ≠ s) := hn
    clear hn
    by_cases hlt : k < xs.length
    · obtain ⟨b, off, rfl, hc⟩ := HC.out (by omega)
      have d0 := (hc.below hB) k hlt
      by_cases hs : xs[k] = s
      · have HR : Hid (inS xs s = true) := inS_at hlt hs
        rw [hs] at d0
        clear hc hs
        go_wp2_with fail
        go_ret
        exact ⟨ret_bool HR.out.symm, hB⟩
      · have HS : Hid (∀ j (hj : j < xs.length), j < k + 1 → xs[j] ≠ s) := fun j hj h => by
          by_cases e : j = k
          · subst e; exact hs
          · exact HN.out j hj (by omega)
        clear hc
        have hs' := ne_list hs
        generalize xs[k] = fn at d0 hs hs'
        go_wp2_with fail
        go_roundw
        case rel => exact ⟨k + 1, by omega, by go_num, HS.out, hB⟩
        case measure => simp [RowKit.intOf]; omega
    · have HR : Hid (inS xs s = false) := inS_no (fun j hj => HN.out j hj (by omega))
      go_wp2_with fail
      go_ret
      exact ⟨ret_bool HR.out.symm, hB⟩
set_option maxRecDepth 100000 in
set_option maxHeartbeats 2000000 in
theorem l3global_any (gs : List Gl) (vg vf : Value) (s : ByteArray) (w : World) (hl : gs.length ≤ 1048576) (hg : Globs w vg gs) :
    Calls Tryz.prog 52 #[.agg #[vg, vf], .string s] w fun e w' => e = .returned (.int .i64 (globI gs s)) ∧ Below w.heap.size w w' := by
  obtain ⟨ag, cg, rfl, -, -, hgc⟩ := hg
  have HGC : Hid (0 < gs.length → ∃ b off, ag = some ⟨b, off, none⟩ ∧ GlobsC w b off gs) := hgc
  clear hgc
  go_enter Tryz.func52, Tryz.ntmps52
  go_wp2_with fail
  go_loopw [5] (fun i wr => ∃ k : Nat, k ≤ gs.length ∧ i = .int .i64 k ∧ (∀ j (hj : j < gs.length), j < k → gs[j].name ≠ s) ∧ Below (w.heap.size + 1) (w.alloc (.cells #[.slice ag gs.length cg, vf] 26)) wr) (fun i _ => gs.length - (RowKit.intOf i).toNat)
  case atStart => exact ⟨0, Nat.zero_le _, rfl, fun j hj h => absurd h (Nat.not_lt_zero _), Below.refl _ _⟩
  case round =>
    obtain ⟨k, hk, rfl, hn, hB⟩ := hrel
    have HN : Hid (∀ j (hj : j < gs.length), j < k → gs[j].name ≠ s) := hn
    clear hn
    have hBw := one_below hB
    obtain ⟨x0, x1⟩ := box2 hB
    by_cases hlt : k < gs.length
    · obtain ⟨b, off, rfl, hc⟩ := HGC.out (by omega)
      obtain ⟨d0, d1⟩ := (hc.below hBw) k hlt
      by_cases hs : gs[k].name = s
      · have HR : Hid (globI gs s = gs[k].size) := globI_at hlt (fun j hj => HN.out j (by omega) hj) hs
        rw [hs] at d0
        clear hc hs
        generalize gs[k].size = z at d1 HR
        go_wp2_with fail
        go_ret
        exact ⟨ret_int HR.out.symm, hBw⟩
      · have HS : Hid (∀ j (hj : j < gs.length), j < k + 1 → gs[j].name ≠ s) := fun j hj h => by
          by_cases e : j = k
          · subst e; exact hs
          · exact HN.out j hj (by omega)
        clear hc d1
        have hs' := ne_list hs
        generalize gs[k].name = fn at d0 hs hs'
        go_wp2_with fail
        go_roundw
        case rel => exact ⟨k + 1, by omega, by go_num, HS.out, hB⟩
        case measure => simp [RowKit.intOf]; omega
    · have HR : Hid (globI gs s = -1) := globI_no (fun j hj => HN.out j hj (by omega))
      go_wp2_with fail
      go_ret
      exact ⟨ret_int HR.out.symm, hBw⟩
theorem useE_of {gs : List Gl} {scope : List ByteArray} {s : ByteArray} {arr : Bool} {z : Int} (h : (if inS scope s then 0 else globI gs s) = z) : useE gs scope s arr = if z < 0 then 4 else if decide (z > 0) = arr then 0 else 5 := by
  unfold useE
  rw [h]
set_option maxRecDepth 100000 in
set_option maxHeartbeats 2000000 in
theorem l3use_any (gs : List Gl) (scope : List ByteArray) (vg vf vs : Value) (s : ByteArray) (arr : Bool) (w : World) (hl : gs.length ≤ 1048576) (hsl : scope.length ≤ 10000000) (hf : ∃ a n c, vf = .slice a n c) (hg : Globs w vg gs) (hs : Strs w vs scope) :
    Calls Tryz.prog 85 #[.agg #[vg, vf], vs, .string s, .bool arr] w fun e w' => e = .returned (.int .i64 (useE gs scope s arr)) ∧ Below w.heap.size w w' := by
  have HG : Hid (Globs w vg gs) := hg
  have HS : Hid (Strs w vs scope) := hs
  obtain ⟨af, nf, cf, rfl⟩ := hf
  obtain ⟨ag, cg, rfl, -, -, -⟩ := hg
  obtain ⟨az, cz, rfl, -, -, -⟩ := hs
  go_enter Tryz.func85, Tryz.ntmps85
  go_wp2_with fail
  have hA : Below w.heap.size w (w.alloc (.cells #[.slice ag gs.length cg, .slice af nf cf] 26)) := (Below.refl _ _).alloc (Nat.le_refl _) _
  refine (l3in_any scope _ s _ hsl (HS.out.below hA)).mono ?_
  rintro e w1 ⟨rfl, hb1⟩
  simp only [World.size_alloc] at hb1
  have hB1 := one_below hb1
  obtain ⟨x0, x1⟩ := box2 hb1
  by_cases hin : inS scope s = true
  · have HU : Hid (useE gs scope s arr = if arr = false then 0 else 5) := by
      show _ = _
      rw [useE_of (show (if inS scope s = true then (0 : Int) else globI gs s) = 0 by rw [if_pos hin])]
      cases arr <;> rfl
    rw [hin]
    clear hin
    cases arr
    · go_wp2_with fail
      go_ret
      exact ⟨ret_int HU.out.symm, hB1⟩
    · go_wp2_with fail
      go_ret
      exact ⟨ret_int HU.out.symm, hB1⟩
  · have hin' : inS scope s = false := by simpa using hin
    have HU : Hid (useE gs scope s arr = if globI gs s < 0 then 4 else if decide (globI gs s > 0) = arr then 0 else 5) := useE_of (by rw [if_neg hin])
    rw [hin']
    clear hin hin'
    go_wp2_with fail
    refine (l3global_any gs _ _ s _ hl (HG.out.below hB1)).mono ?_
    rintro e w2 ⟨rfl, hb2⟩
    have hB2 := hB1.trans (hb2.mono hB1.size)
    generalize globI gs s = z at HU ⊢
    clear x0 x1 hb1 hb2 hA
    by_cases h0 : z < 0
    · have HU2 : Hid (useE gs scope s arr = 4) := by show _ = _; rw [HU.out, if_pos h0]
      clear HU
      go_wp2_with fail
      go_ret
      exact ⟨ret_int HU2.out.symm, hB2⟩
    · by_cases h1 : z > 0
      · have HU2 : Hid (useE gs scope s arr = if arr = true then 0 else 5) := by show _ = _; rw [HU.out, if_neg h0, decide_eq_true h1]; cases arr <;> rfl
        clear HU
        cases arr
        · go_wp2_with fail
          go_ret
          exact ⟨ret_int HU2.out.symm, hB2⟩
        · go_wp2_with fail
          go_ret
          exact ⟨ret_int HU2.out.symm, hB2⟩
      · obtain rfl : z = 0 := by omega
        have HU2 : Hid (useE gs scope s arr = if arr = false then 0 else 5) := by show _ = _; rw [HU.out]; cases arr <;> rfl
        clear HU h0 h1
        cases arr
        · go_wp2_with fail
          go_ret
          exact ⟨ret_int HU2.out.symm, hB2⟩
        · go_wp2_with fail
          go_ret
          exact ⟨ret_int HU2.out.symm, hB2⟩
end
section
open Go.RowKit
theorem okN.e3 {e : List Nd} {L : Nat} (h : okN e L) (hl : L ≤ 3000) : okN e 3000 := h.more hl
/-- One statement, and no more. -/
theorem one_fin {g : Nat} {a : Option Addr} {len cap q : Nat} {S : Nat → Prop} {K L : Nat} {w w2 : World} {G2 : Gn} {ve vf : Value} {e f : List Nd} (kd th el : Int) (nm : ByteArray) (h2 : GS g a len cap q S w2 G2 (K + L)) (ht : Tcs (Sq g q) w w2) (hE : ∀ W, Tcs (fun k => k < w.heap.size) w2 W → Nodes W ve e) (hF : ∀ W, Tcs (fun k => k < w.heap.size) w2 W → Nodes W vf f) (oe : okN e 3000) (of' : okN f 3000) (on : nm.size ≤ 100000) (hL : 1 ≤ L) :
    StP g a len cap q S K L 1 w (.slice (some ⟨w2.heap.size, 0, none⟩) 1 1) (w2.alloc (.cells #[.int .i64 kd, .string nm, ve, vf, .int .i64 th, .int .i64 el] 88)) :=
  ⟨_, G2, (sr_lit ht.size hE hF oe of' on).more hL, Nat.le_refl _, h2.add (h2.alloc _) ((Tcs.refl _ _).alloc _) (fun k hk => by simp [Value.ownBlock] at hk; subst hk; simp), ht.alloc _⟩
theorem GS.strs {g : Nat} {a : Option Addr} {len cap q : Nat} {S : Nat → Prop} {w : World} {G : Gn} {K : Nat} (h : GS g a len cap q S w G K) : ∃ a c, G.vs = .slice a G.ss.length c := by
  obtain ⟨a, c, e, -⟩ := h.ok.s w (Tcs.refl _ _)
  exact ⟨a, c, e⟩
set_option maxRecDepth 100000 in
set_option maxHeartbeats 8000000 in
theorem set_any (g : Nat) (a : Option Addr) (len cap q : Nat) (hl : len ≤ 1048576) (S : Nat → Prop) (G : Gn) (K L : Nat) (hL1 : 1 ≤ L) (w : World) (h : GS g a len cap q S w G K) (hK : K ≤ 50000) :
    Calls Tryz.prog 106 #[.pointer (some ⟨g, 0, none⟩), .pointer (some ⟨q, 0, none⟩)] w fun e w' => ∃ v, e = .returned v ∧ StP g a len cap q S K L 1 w v w' := by
  have HG : Hid (GS g a len cap q S w G K) := h
  obtain ⟨av, cv, hv⟩ := h.strs
  have HV : Hid (G.vs = .slice av G.ss.length cv) := hv
  obtain ⟨sl, hsl⟩ : ∃ sl, sl = G.ss.length := ⟨_, rfl⟩
  have HSl : Hid (sl = G.ss.length) := hsl
  have hsK : sl ≤ K := by rw [hsl]; exact h.ok.sl
  have hS0 : S0 g g := rfl
  clear h hv hsl
  go_enter Tryz.func106, Tryz.ntmps106
  go_wp2_with fail
  refine (pick_any g a len cap (S0 g) [⟨#[103]⟩, ⟨#[104]⟩] _ _ hl hS0 (HG.out.alloc _).cur (lit_fz _ _ 2 rfl rfl (by decide) HG.out.lo0.s) (by decide)).mono ?_
  rintro e w1 ⟨nm, hn, rfl, hd1⟩
  have HG1 : Hid (GS g a len cap q S w1 G K) := (HG.out.alloc _).dr hd1
  have HT1 : Hid (Tcs (Sq g q) w w1) := ((Tcs.refl _ _).alloc _).trans (hd1.tcs.mono s0q)
  have HNm : Hid (nm.size ≤ 100000) := by
    show _ ≤ _
    simp at hn
    rcases hn with rfl | rfl <;> decide
  have c2 : w1.cell? ⟨q, 2, none⟩ = some (.slice av sl cv) := by have := HG1.out.box.c2; rw [HV.out, ← HSl.out] at this; exact this
  clear hd1 hn
  by_cases hs : 0 < sl
  rotate_left 1
  · have hs' : ¬ (0 : Int) < (sl : Int) := by omega
    have c3 := HG1.out.box.c3
    go_wp2_with fail
    generalize w1 = wx at *
    generalize nm = nx at *
    have HGx : Hid (GS g a len cap q S wx G K) := HG1.out
    have HTx : Hid (Tcs (Sq g q) w wx) := HT1.out
    have HNx : Hid (nx.size ≤ 100000) := HNm.out
    clear HG1 HT1 HNm c2
    all_goals (
      have hlsl : G.ls.length ≤ 10000000 := Nat.le_trans HGx.out.ok.ll (by omega)
      refine (l3in_any G.ls G.vl nx wx hlsl (HGx.out.ok.l wx (Tcs.refl _ _))).mono ?_
      rintro e w4 ⟨rfl, hb4⟩
      have HG4 : Hid (GS g a len cap q S w4 G K) := HGx.out.below hb4
      have HT4 : Hid (Tcs (Sq g q) w w4) := HTx.out.of_below hb4
      have x0 := HG4.out.box.c0
      have x1 := HG4.out.box.c1
      have x2 := HG4.out.box.c2
      have x3 := HG4.out.box.c3
      have x4 := HG4.out.box.c4
      generalize inS G.ls nx = bb
      clear hb4 c3
      cases bb
      all_goals (
        go_wp2_with fail
        refine (whole_any g a len cap (S0 g) G K w4 hl HG4.out.lo0 HG4.out.cur HG4.out.ok0 hK).mono ?_
        rintro e w5 ⟨u5, e5, rfl, hr5, hn5, hd5⟩
        obtain ⟨a5, c5, rfl, -⟩ := own_shape hr5
        have HF := fun (nm : ByteArray) (on : nm.size ≤ 100000) => one_fin (L := L) 2 0 0 nm ((HG4.out.dr hd5).more (Nat.le_add_right _ _)) (HT4.out.trans (hd5.tcs.mono s0q)) (nrow_st hr5 HT4.out.size) (fun W _ => nodes_none W) (hn5.e3 (by omega)) (okN.nil.more (Nat.zero_le _)) on hL1
        have HF' : Hid (∀ (nm : ByteArray), nm.size ≤ 100000 → StP g a len cap q S K L 1 w (.slice (some ⟨w5.heap.size, 0, none⟩) 1 1) (w5.alloc (.cells #[.int .i64 2, .string nm, .slice a5 e5.length c5, .slice none 0 0, .int .i64 0, .int .i64 0] 88))) := HF
        clear HF hr5 hn5 hd5 x0 x1 x2 x3 x4
        generalize e5.length = l5 at HF' ⊢
        go_wp2_with fail
        go_ret
        first
        | exact ⟨_, rfl, HF'.out _ HNx.out⟩
        | exact ⟨_, rfl, HF'.out _ (by decide)⟩))
  · have hs' : (0 : Int) < (sl : Int) := by omega
    go_wp2_with fail
    refine (below_any g a len cap (S0 g) _ _ hl hS0 HG1.out.cur (by omega)).mono ?_
    rintro e w2 ⟨y, rfl, hy, hd2⟩
    have HG2 : Hid (GS g a len cap q S w2 G K) := HG1.out.dr hd2
    have HT2 : Hid (Tcs (Sq g q) w w2) := HT1.out.trans (hd2.tcs.mono s0q)
    have c2' : w2.cell? ⟨q, 2, none⟩ = some (.slice av sl cv) := by have := HG2.out.box.c2; rw [HV.out, ← HSl.out] at this; exact this
    clear hd2 c2
    by_cases hy0 : 0 < y
    · go_wp2_with fail
      have HP : Hid (∀ W, Tcs (S0 g) w2 W → Strs W (.slice av sl cv) G.ss) := fun W hW => by have := HG2.out.ok0.s W hW; rw [HV.out, ← HSl.out] at this; exact this
      refine (pick_any g a len cap (S0 g) G.ss _ w2 hl hS0 HG2.out.cur HP.out ⟨by rw [← HSl.out]; omega, by rw [← HSl.out]; omega⟩).mono ?_
      rintro e wx ⟨nx, hn, rfl, hd3⟩
      have HGx : Hid (GS g a len cap q S wx G K) := HG2.out.dr hd3
      have HTx : Hid (Tcs (Sq g q) w wx) := HT2.out.trans (hd3.tcs.mono s0q)
      have HNx : Hid (nx.size ≤ 100000) := HG2.out.ok.ns.2.1 nx hn
      have c3 := HGx.out.box.c3
      clear hd3 hn c2' HP HG2 HT2 HG1 HT1
      go_wp2_with fail
      all_goals (
        have hlsl : G.ls.length ≤ 10000000 := Nat.le_trans HGx.out.ok.ll (by omega)
        refine (l3in_any G.ls G.vl nx wx hlsl (HGx.out.ok.l wx (Tcs.refl _ _))).mono ?_
        rintro e w4 ⟨rfl, hb4⟩
        have HG4 : Hid (GS g a len cap q S w4 G K) := HGx.out.below hb4
        have HT4 : Hid (Tcs (Sq g q) w w4) := HTx.out.of_below hb4
        have x0 := HG4.out.box.c0
        have x1 := HG4.out.box.c1
        have x2 := HG4.out.box.c2
        have x3 := HG4.out.box.c3
        have x4 := HG4.out.box.c4
        generalize inS G.ls nx = bb
        clear hb4 c3
        cases bb
        all_goals (
          go_wp2_with fail
          refine (whole_any g a len cap (S0 g) G K w4 hl HG4.out.lo0 HG4.out.cur HG4.out.ok0 hK).mono ?_
          rintro e w5 ⟨u5, e5, rfl, hr5, hn5, hd5⟩
          obtain ⟨a5, c5, rfl, -⟩ := own_shape hr5
          have HF := fun (nm : ByteArray) (on : nm.size ≤ 100000) => one_fin (L := L) 2 0 0 nm ((HG4.out.dr hd5).more (Nat.le_add_right _ _)) (HT4.out.trans (hd5.tcs.mono s0q)) (nrow_st hr5 HT4.out.size) (fun W _ => nodes_none W) (hn5.e3 (by omega)) (okN.nil.more (Nat.zero_le _)) on hL1
          have HF' : Hid (∀ (nm : ByteArray), nm.size ≤ 100000 → StP g a len cap q S K L 1 w (.slice (some ⟨w5.heap.size, 0, none⟩) 1 1) (w5.alloc (.cells #[.int .i64 2, .string nm, .slice a5 e5.length c5, .slice none 0 0, .int .i64 0, .int .i64 0] 88))) := HF
          clear HF hr5 hn5 hd5 x0 x1 x2 x3 x4
          generalize e5.length = l5 at HF' ⊢
          go_wp2_with fail
          go_ret
          first
          | exact ⟨_, rfl, HF'.out _ HNx.out⟩
          | exact ⟨_, rfl, HF'.out _ (by decide)⟩))
    · have c3 := HG2.out.box.c3
      go_wp2_with fail
      generalize w2 = wx at *
      generalize nm = nx at *
      have HGx : Hid (GS g a len cap q S wx G K) := HG2.out
      have HTx : Hid (Tcs (Sq g q) w wx) := HT2.out
      have HNx : Hid (nx.size ≤ 100000) := HNm.out
      clear HG1 HT1 HNm c2' HG2 HT2
      all_goals (
        have hlsl : G.ls.length ≤ 10000000 := Nat.le_trans HGx.out.ok.ll (by omega)
        refine (l3in_any G.ls G.vl nx wx hlsl (HGx.out.ok.l wx (Tcs.refl _ _))).mono ?_
        rintro e w4 ⟨rfl, hb4⟩
        have HG4 : Hid (GS g a len cap q S w4 G K) := HGx.out.below hb4
        have HT4 : Hid (Tcs (Sq g q) w w4) := HTx.out.of_below hb4
        have x0 := HG4.out.box.c0
        have x1 := HG4.out.box.c1
        have x2 := HG4.out.box.c2
        have x3 := HG4.out.box.c3
        have x4 := HG4.out.box.c4
        generalize inS G.ls nx = bb
        clear hb4 c3
        cases bb
        all_goals (
          go_wp2_with fail
          refine (whole_any g a len cap (S0 g) G K w4 hl HG4.out.lo0 HG4.out.cur HG4.out.ok0 hK).mono ?_
          rintro e w5 ⟨u5, e5, rfl, hr5, hn5, hd5⟩
          obtain ⟨a5, c5, rfl, -⟩ := own_shape hr5
          have HF := fun (nm : ByteArray) (on : nm.size ≤ 100000) => one_fin (L := L) 2 0 0 nm ((HG4.out.dr hd5).more (Nat.le_add_right _ _)) (HT4.out.trans (hd5.tcs.mono s0q)) (nrow_st hr5 HT4.out.size) (fun W _ => nodes_none W) (hn5.e3 (by omega)) (okN.nil.more (Nat.zero_le _)) on hL1
          have HF' : Hid (∀ (nm : ByteArray), nm.size ≤ 100000 → StP g a len cap q S K L 1 w (.slice (some ⟨w5.heap.size, 0, none⟩) 1 1) (w5.alloc (.cells #[.int .i64 2, .string nm, .slice a5 e5.length c5, .slice none 0 0, .int .i64 0, .int .i64 0] 88))) := HF
          clear HF hr5 hn5 hd5 x0 x1 x2 x3 x4
          generalize e5.length = l5 at HF' ⊢
          go_wp2_with fail
          go_ret
          first
          | exact ⟨_, rfl, HF'.out _ HNx.out⟩
          | exact ⟨_, rfl, HF'.out _ (by decide)⟩))
end
end Go.Proofs.YtjhmgjimppflhaaGreatDoor
