import Derived.Test.YtjhmgjimppflhaaGreatDoorZ07
import Derived.RegionTactic
import Derived.ChangeAlike
namespace Go.Proofs.YtjhmgjimppflhaaGreatDoor
set_option linter.unusedVariables false
set_option linter.unusedSimpArgs false
set_option maxRecDepth 100000
set_option maxHeartbeats 16000000
section
/-- Whether each block lies within the one around it. -/
def fitN : Nat → List St → Bool
  | _, [] => true
  | 0, _ :: _ => false
  | n + 1, s :: r => decide (0 ≤ s.thn ∧ s.thn ≤ r.length ∧ 0 ≤ s.els ∧ s.els ≤ r.length - s.thn) && (fitN n (r.take s.thn.toNat) && (fitN n ((r.take (s.thn.toNat + s.els.toNat)).drop s.thn.toNat) && fitN n (r.drop (s.thn.toNat + s.els.toNat))))
def fitB (l : List St) : Bool := fitN l.length l
theorem fitN_any (n m : Nat) (l : List St) (hn : l.length ≤ n) (hm : l.length ≤ m) : fitN n l = fitN m l := by
  induction n generalizing m l with
  | zero =>
    have : l = [] := List.eq_nil_of_length_eq_zero (by omega)
    subst this
    cases m <;> rfl
  | succ n ih =>
    cases l with
    | nil => cases m <;> rfl
    | cons s r =>
      cases m with
      | zero => simp at hm
      | succ m =>
        simp only [List.length_cons] at hn hm
        simp only [fitN]
        rw [ih m (r.take s.thn.toNat) (by simp; omega) (by simp; omega), ih m ((r.take (s.thn.toNat + s.els.toNat)).drop s.thn.toNat) (by simp; omega) (by simp; omega), ih m (r.drop (s.thn.toNat + s.els.toNat)) (by simp; omega) (by simp; omega)]
theorem fitB_nil : fitB [] = true := rfl
theorem fitB_cons (s : St) (r : List St) : fitB (s :: r) = (decide (0 ≤ s.thn ∧ s.thn ≤ r.length ∧ 0 ≤ s.els ∧ s.els ≤ r.length - s.thn) && (fitB (r.take s.thn.toNat) && (fitB ((r.take (s.thn.toNat + s.els.toNat)).drop s.thn.toNat) && fitB (r.drop (s.thn.toNat + s.els.toNat))))) := by
  have h : fitB (s :: r) = fitN (r.length + 1) (s :: r) := rfl
  rw [h]
  simp only [fitN]
  rw [fitN_any r.length _ (r.take s.thn.toNat) (by simp; omega) (Nat.le_refl _), fitN_any r.length _ ((r.take (s.thn.toNat + s.els.toNat)).drop s.thn.toNat) (by simp; omega) (Nat.le_refl _), fitN_any r.length _ (r.drop (s.thn.toNat + s.els.toNat)) (by simp) (Nat.le_refl _)]
  rfl
theorem fitB_all (n : Nat) : ∀ l : List St, l.length ≤ n → fitB l = true → ∀ s ∈ l, 0 ≤ s.thn ∧ 0 ≤ s.els := by
  induction n with
  | zero =>
    intro l hl _ s hs
    have : l = [] := List.eq_nil_of_length_eq_zero (by omega)
    subst this
    cases hs
  | succ n ih =>
    intro l hl h s hs
    cases l with
    | nil => cases hs
    | cons t r =>
      simp only [List.length_cons] at hl
      rw [fitB_cons] at h
      simp only [Bool.and_eq_true, decide_eq_true_eq] at h
      obtain ⟨h0, h1, h2, h3⟩ := h
      rcases List.mem_cons.1 hs with rfl | hs
      · exact ⟨h0.1, h0.2.2.1⟩
      · have hr : r = r.take t.thn.toNat ++ ((r.take (t.thn.toNat + t.els.toNat)).drop t.thn.toNat ++ r.drop (t.thn.toNat + t.els.toNat)) := by
          rw [← List.append_assoc]
          have e : r.take t.thn.toNat ++ (r.take (t.thn.toNat + t.els.toNat)).drop t.thn.toNat = r.take (t.thn.toNat + t.els.toNat) := by
            have := List.take_append_drop t.thn.toNat (r.take (t.thn.toNat + t.els.toNat))
            rwa [List.take_take, Nat.min_eq_left (by omega)] at this
          rw [e, List.take_append_drop]
        rw [hr] at hs
        rcases List.mem_append.1 hs with hs | hs
        · exact ih _ (by simp; omega) h1 s hs
        · rcases List.mem_append.1 hs with hs | hs
          · exact ih _ (by simp; omega) h2 s hs
          · exact ih _ (by simp; omega) h3 s hs
end
section
def nodeSum : List St → Nat
  | [] => 0
  | s :: r => s.e.length + s.f.length + nodeSum r
theorem nodeSum_append (a b : List St) : nodeSum (a ++ b) = nodeSum a + nodeSum b := by
  induction a with
  | nil => simp [nodeSum]
  | cons s r ih => simp [nodeSum, ih]; omega
theorem nodeSum_step (l : List St) (k : Nat) (h : k < l.length) : nodeSum (l.take (k + 1)) = nodeSum (l.take k) + l[k].e.length + l[k].f.length := by
  rw [take_succ l k h, nodeSum_append]; simp [nodeSum]; omega
theorem nodeSum_le (l : List St) (k : Nat) : nodeSum (l.take k) ≤ nodeSum l := by
  have := nodeSum_append (l.take k) (l.drop k)
  rw [List.take_append_drop] at this
  omega
def stmtsB (p : St → Bool) (l : List St) : Bool := decide (nodeSum l ≤ 2000) && l.all p
theorem stmtsB_sum {p : St → Bool} {l : List St} {k : Nat} (h : 2000 < nodeSum (l.take k)) : stmtsB p l = false := by
  have := nodeSum_le l k
  simp only [stmtsB, decide_eq_false (show ¬ nodeSum l ≤ 2000 by omega), Bool.false_and]
theorem stmtsB_bad {p : St → Bool} {l : List St} {k : Nat} (hk : k < l.length) (h : p l[k] = false) : stmtsB p l = false := by
  have : l.all p = false := by
    rw [List.all_eq_false]
    exact ⟨l[k], List.getElem_mem hk, by simp [h]⟩
  simp [stmtsB, this]
theorem stmtsB_ok {p : St → Bool} {l : List St} (h1 : nodeSum l ≤ 2000) (h2 : ∀ s ∈ l, p s = true) : stmtsB p l = true := by
  have : l.all p = true := List.all_eq_true.2 h2
  simp [stmtsB, this, h1]
theorem all_bad {p : ByteArray → Bool} {l : List ByteArray} {k : Nat} (hk : k < l.length) (h : p l[k] = false) : l.all p = false := by
  rw [List.all_eq_false]
  exact ⟨l[k], List.getElem_mem hk, by simp [h]⟩
def funcB (f : Fu) : Bool := nameB f.name && (decide (f.params.length ≤ 6) && (decide (f.body.length ≤ 500) && (f.params.all nameB && (stmtsB stmtB f.body && fitB f.body))))
def gstmtB (s : St) : Bool := stmtB s && decide (0 ≤ s.thn ∧ 0 ≤ s.els)
theorem gstmts_fit (l : List St) : (stmtsB gstmtB l && fitB l) = (stmtsB stmtB l && fitB l) := by
  cases h : fitB l
  · simp
  · have hn := fitB_all l.length l (Nat.le_refl _) h
    have : l.all gstmtB = l.all stmtB := by
      apply Bool.eq_iff_iff.2
      rw [List.all_eq_true, List.all_eq_true]
      constructor
      · intro h s hs
        have := h s hs
        simp only [gstmtB, Bool.and_eq_true] at this
        exact this.1
      · intro h s hs
        simp only [gstmtB, Bool.and_eq_true, decide_eq_true_eq]
        exact ⟨h s hs, hn s hs⟩
    simp only [stmtsB, this]
theorem gstmts_nonneg {l : List St} (h : ∀ s ∈ l, gstmtB s = true) : ∀ s ∈ l, 0 ≤ s.thn ∧ 0 ≤ s.els := by
  intro s hs
  have := h s hs
  simp only [gstmtB, Bool.and_eq_true, decide_eq_true_eq] at this
  exact this.2
def globB (g : Gl) : Bool := nameB g.name && decide (0 ≤ g.size ∧ g.size ≤ 4000)
def treeB (t : Tr) : Bool := decide (t.globals.length ≤ 50) && (decide (t.funcs.length ≤ 50) && (t.globals.all globB && t.funcs.all funcB))
theorem allG_bad {l : List Gl} {k : Nat} (hk : k < l.length) (h : globB l[k] = false) : l.all globB = false := by
  rw [List.all_eq_false]
  exact ⟨l[k], List.getElem_mem hk, by simp [h]⟩
theorem allF_bad {l : List Fu} {k : Nat} (hk : k < l.length) (h : funcB l[k] = false) : l.all funcB = false := by
  rw [List.all_eq_false]
  exact ⟨l[k], List.getElem_mem hk, by simp [h]⟩
def smallS (s : St) : Prop := s.e.length ≤ 1048576 ∧ s.f.length ≤ 1048576
def smallF (f : Fu) : Prop := f.params.length ≤ 1048576 ∧ f.body.length ≤ 1048576 ∧ ∀ s ∈ f.body, smallS s
def smallT (t : Tr) : Prop := t.globals.length ≤ 1048576 ∧ t.funcs.length ≤ 1048576 ∧ ∀ f ∈ t.funcs, smallF f
end
section
open Go.RowKit
theorem nameB_empty {s : ByteArray} (h : nameB s = true) : (s.toList == []) = false := by
  have hp := ((nameB_iff s).1 h).1
  have hl : s.toList.length = s.size := by rw [ByteArray.toList_eq]; simp
  cases e : (s.toList == [])
  · rfl
  · have e' : s.toList = [] := by simpa using e
    rw [e'] at hl
    simp at hl
    omega
theorem run_kind (x y : Int) (z : ByteArray) (w : World) : (Instr.field 91 (.agg #[.int .i64 x, .int .i64 y, .string z]) 0).run Tryz.prog w = .ok (.int .i64 x) w := by kernel_rfl
theorem box6 {w w' : World} {t : TypeId} {x0 x1 x2 x3 x4 x5 : Value} (h : Below (w.heap.size + 1) (w.alloc (.cells #[x0, x1, x2, x3, x4, x5] t)) w') :
    w'.cell? ⟨w.heap.size, 0, none⟩ = some x0 ∧ w'.cell? ⟨w.heap.size, 1, none⟩ = some x1 ∧ w'.cell? ⟨w.heap.size, 2, none⟩ = some x2 ∧ w'.cell? ⟨w.heap.size, 3, none⟩ = some x3 ∧ w'.cell? ⟨w.heap.size, 4, none⟩ = some x4 ∧ w'.cell? ⟨w.heap.size, 5, none⟩ = some x5 := by
  refine ⟨?_, ?_, ?_, ?_, ?_, ?_⟩ <;> (rw [h.cell (by simp)]; simp)
theorem one_below {w w' : World} {a : Obj} (h : Below (w.heap.size + 1) (w.alloc a) w') : Below w.heap.size w w' :=
  ((Below.refl _ _).alloc (Nat.le_refl _) _).trans (h.mono (by omega))
end
section
open Go.RowKit
def StmtsC (w : World) (b off : Nat) (ss : List St) : Prop := ∀ j (h : j < ss.length), ∃ ve vf,
  (w.cell? ⟨b, off + j * 6, none⟩ = some (.int .i64 ss[j].kind) ∧ w.cell? ⟨b, off + j * 6 + 1, none⟩ = some (.string ss[j].name) ∧ w.cell? ⟨b, off + j * 6 + 2, none⟩ = some ve ∧ w.cell? ⟨b, off + j * 6 + 3, none⟩ = some vf ∧ w.cell? ⟨b, off + j * 6 + 4, none⟩ = some (.int .i64 ss[j].thn) ∧ w.cell? ⟨b, off + j * 6 + 5, none⟩ = some (.int .i64 ss[j].els)) ∧ Nodes w ve ss[j].e ∧ Nodes w vf ss[j].f
theorem StmtsC.below {w w' : World} {b off : Nat} {ss : List St} (h : StmtsC w b off ss) (hb : Below w.heap.size w w') : StmtsC w' b off ss := by
  intro j hj
  obtain ⟨ve, vf, ⟨c0, c1, c2, c3, c4, c5⟩, he, hf⟩ := h j hj
  have hlt := World.block_lt_of_cell? _ _ c0
  exact ⟨ve, vf, ⟨(hb.cell (p := ⟨b, off + j * 6, none⟩) hlt).trans c0, (hb.cell (p := ⟨b, off + j * 6 + 1, none⟩) hlt).trans c1, (hb.cell (p := ⟨b, off + j * 6 + 2, none⟩) hlt).trans c2, (hb.cell (p := ⟨b, off + j * 6 + 3, none⟩) hlt).trans c3, (hb.cell (p := ⟨b, off + j * 6 + 4, none⟩) hlt).trans c4, (hb.cell (p := ⟨b, off + j * 6 + 5, none⟩) hlt).trans c5⟩, he.below hb, hf.below hb⟩
def Stmts (w : World) (v : Value) (ss : List St) : Prop := ∃ a cap, v = .slice a ss.length cap ∧ ss.length ≤ cap ∧ cap ≤ 9223372036854775807 ∧ (0 < ss.length → ∃ b off, a = some ⟨b, off, none⟩ ∧ StmtsC w b off ss)
theorem Stmts.below {w w' : World} {v : Value} {ss : List St} (h : Stmts w v ss) (hb : Below w.heap.size w w') : Stmts w' v ss := by
  obtain ⟨a, cap, rfl, hl, hm, h⟩ := h
  refine ⟨a, cap, rfl, hl, hm, fun h0 => ?_⟩
  obtain ⟨b, off, rfl, hc⟩ := h h0
  exact ⟨b, off, rfl, hc.below hb⟩
theorem StmtsC.up {w : World} {b off : Nat} {ss : List St} (h : StmtsC w b off ss) (j : Nat) (hj : j < ss.length) : ∃ ve vf, ((∀ o, (w.alloc o).cell? ⟨b, off + j * 6, none⟩ = some (.int .i64 ss[j].kind)) ∧ (∀ o, (w.alloc o).cell? ⟨b, off + j * 6 + 1, none⟩ = some (.string ss[j].name)) ∧ (∀ o, (w.alloc o).cell? ⟨b, off + j * 6 + 2, none⟩ = some ve) ∧ (∀ o, (w.alloc o).cell? ⟨b, off + j * 6 + 3, none⟩ = some vf) ∧ (∀ o, (w.alloc o).cell? ⟨b, off + j * 6 + 4, none⟩ = some (.int .i64 ss[j].thn)) ∧ (∀ o, (w.alloc o).cell? ⟨b, off + j * 6 + 5, none⟩ = some (.int .i64 ss[j].els))) ∧
    (w.cell? ⟨b, off + j * 6, none⟩ = some (.int .i64 ss[j].kind) ∧ w.cell? ⟨b, off + j * 6 + 1, none⟩ = some (.string ss[j].name) ∧ w.cell? ⟨b, off + j * 6 + 2, none⟩ = some ve ∧ w.cell? ⟨b, off + j * 6 + 3, none⟩ = some vf ∧ w.cell? ⟨b, off + j * 6 + 4, none⟩ = some (.int .i64 ss[j].thn) ∧ w.cell? ⟨b, off + j * 6 + 5, none⟩ = some (.int .i64 ss[j].els)) ∧ Nodes w ve ss[j].e ∧ Nodes w vf ss[j].f := by
  obtain ⟨ve, vf, ⟨c0, c1, c2, c3, c4, c5⟩, he, hf⟩ := h j hj
  have hlt := World.block_lt_of_cell? _ _ c0
  have hb : ∀ o, Below w.heap.size w (w.alloc o) := fun o => (Below.refl _ _).alloc (Nat.le_refl _) o
  exact ⟨ve, vf, ⟨fun o => ((hb o).cell (p := ⟨b, off + j * 6, none⟩) hlt).trans c0, fun o => ((hb o).cell (p := ⟨b, off + j * 6 + 1, none⟩) hlt).trans c1, fun o => ((hb o).cell (p := ⟨b, off + j * 6 + 2, none⟩) hlt).trans c2, fun o => ((hb o).cell (p := ⟨b, off + j * 6 + 3, none⟩) hlt).trans c3, fun o => ((hb o).cell (p := ⟨b, off + j * 6 + 4, none⟩) hlt).trans c4, fun o => ((hb o).cell (p := ⟨b, off + j * 6 + 5, none⟩) hlt).trans c5⟩, ⟨c0, c1, c2, c3, c4, c5⟩, he, hf⟩
/-- A part of a row of statements, as slicing gives it. -/
theorem Stmts.cut {w : World} {a : Option Addr} {cap : Nat} {ss : List St} (h : Stmts w (.slice a ss.length cap) ss) (lo hi : Nat) (h1 : lo ≤ hi) (h2 : hi ≤ ss.length) :
    Stmts w (.slice (if cap = lo then a else a.map (·.add (lo * 6))) (hi - lo) (cap - lo)) ((ss.take hi).drop lo) := by
  obtain ⟨a', cap', he, hl, hm, h⟩ := h
  simp only [Value.slice.injEq, true_and] at he
  obtain ⟨rfl, rfl⟩ := he
  refine ⟨if cap = lo then a else a.map (·.add (lo * 6)), cap - lo, by simp [Nat.min_eq_left h2], by simp [Nat.min_eq_left h2]; omega, by omega, fun h0 => ?_⟩
  simp only [List.length_drop, List.length_take, Nat.min_eq_left h2] at h0
  obtain ⟨b, off, rfl, hc⟩ := h (by omega)
  refine ⟨b, off + lo * 6, ?_, fun j hj => ?_⟩
  · rw [if_neg (by omega)]; simp [Addr.add]
  · simp only [List.length_drop, List.length_take, Nat.min_eq_left h2] at hj
    obtain ⟨ve, vf, hcc, he, hf⟩ := hc (lo + j) (by omega)
    have e : ((ss.take hi).drop lo)[j]'(by simp; omega) = ss[lo + j]'(by omega) := by simp
    rw [e]
    refine ⟨ve, vf, ?_, he, hf⟩
    have e1 : off + lo * 6 + j * 6 = off + (lo + j) * 6 := by omega
    rw [e1]
    exact hcc
theorem Stmts.head {w : World} {a : Option Addr} {cap : Nat} {ss : List St} (h : Stmts w (.slice a ss.length cap) ss) (hi : Nat) (h2 : hi ≤ ss.length) : Stmts w (.slice a hi cap) (ss.take hi) := by
  have := h.cut 0 hi (Nat.zero_le _) h2
  have e : (if cap = 0 then a else a.map (·.add (0 * 6))) = a := by
    split
    · rfl
    · cases a <;> simp [Addr.add]
  rw [e] at this
  simpa using this
theorem cut_run (a : Option Addr) (n cap lo hi : Nat) (h1 : lo ≤ hi) (h2 : hi ≤ n) (h3 : n ≤ cap) : ∀ w : World, (Instr.slice 59 (.slice a n cap) (some (.int .i64 lo)) (some (.int .i64 ((lo : Int) + ((hi - lo : Nat) : Int)))) none).run Tryz.prog w = .ok (.slice (if cap = lo then a else a.map (·.add (lo * 6))) (hi - lo) (cap - lo)) w := by
  intro w
  have hz : Tryz.prog.elem 59 = 88 := by kernel_rfl
  have hs : (sizeOf 88).run Tryz.prog w = .ok 6 w := by kernel_rfl
  rw [run_slice_lh w 59 a n cap (by rw [hz]; exact Tryz.underlying59) .i64 .i64 _ _ (by omega) (by omega) (by omega), hz, hs]
  simp only [Result.andThen, sliced, Int.toNat_natCast]
  have e : (((lo : Int) + ((hi - lo : Nat) : Int))).toNat = hi := by omega
  rw [e]
theorem cut_run_l (a : Option Addr) (n cap lo : Nat) (h2 : lo ≤ n) (h3 : n ≤ cap) (l' : Int) (hl' : l' = lo) : ∀ w : World, (Instr.slice 59 (.slice a n cap) (some (.int .i64 l')) none none).run Tryz.prog w = .ok (.slice (if cap = lo then a else a.map (·.add (lo * 6))) (n - lo) (cap - lo)) w := by
  intro w
  subst hl'
  have hz : Tryz.prog.elem 59 = 88 := by kernel_rfl
  have hs : (sizeOf 88).run Tryz.prog w = .ok 6 w := by kernel_rfl
  rw [run_slice_l w 59 a n cap (by rw [hz]; exact Tryz.underlying59) .i64 _ (by omega) (by omega), hz, hs]
  simp only [Result.andThen, sliced, Int.toNat_natCast]
def lenOf : Value → Nat | .slice _ n _ => n | _ => 0
set_option maxHeartbeats 2000000 in
theorem fit_any (n : Nat) : ∀ (v : Value) (ss : List St) (w : World) (hn : ss.length ≤ n) (hl : ss.length ≤ 1048576) (hc : Stmts w v ss),
    Calls Tryz.prog 97 #[v] w fun e w' => e = .returned (.bool (fitB ss)) ∧ Below w.heap.size w w' := by
  induction n with
  | zero =>
    intro v ss w hn hl hc
    have : ss = [] := List.eq_nil_of_length_eq_zero (by omega)
    subst this
    obtain ⟨a, cap, rfl, hcl, hcm, hc⟩ := hc
    simp only [List.length_nil] at *
    clear hc
    go_enter Tryz.func97, Tryz.ntmps97
    go_wp2_with fail
    refine wp_loop_rounds 1 ?_
    rw [rounds_succ]
    go_wp2_with fail
    go_ret
    exact ⟨rfl, Below.refl _ _⟩
  | succ n ih =>
  intro v ss w hn hl hc
  have IH : Hid (∀ (v : Value) (ss : List St) (w : World) (hn : ss.length ≤ n) (hl : ss.length ≤ 1048576) (hc : Stmts w v ss), Calls Tryz.prog 97 #[v] w fun e w' => e = .returned (.bool (fitB ss)) ∧ Below w.heap.size w w') := ih
  have HN : Hid (Stmts w v ss) := hc
  obtain ⟨a, cap, rfl, hcl, hcm, hc⟩ := hc
  clear hc ih
  go_enter Tryz.func97, Tryz.ntmps97
  go_wp2_with fail
  go_loopw [0] (fun v wr => ∃ ts, ts.length ≤ ss.length ∧ Stmts wr v ts ∧ fitB ss = fitB ts ∧ Below w.heap.size w wr) (fun v _ => lenOf v)
  case atStart => exact ⟨ss, Nat.le_refl _, HN.out, rfl, Below.refl _ _⟩
  case round =>
    obtain ⟨ts, htl, hts, hfit, hB⟩ := hrel
    obtain ⟨a, cap, rfl, hcl, hcm, hc⟩ := hts
    have HF : Hid (fitB ss = fitB ts) := hfit
    clear hfit
    cases ts with
    | nil =>
      simp only [List.length_nil]
      go_wp2_with fail
      go_ret
      exact ⟨ret_bool HF.out.symm, hB⟩
    | cons s r =>
      obtain ⟨b, off, rfl, hs⟩ := hc (by simp)
      obtain ⟨ve, vf, ⟨g0, g1, g2, g3, g4, g5⟩, ⟨c0, c1, c2, c3, c4, c5⟩, he, hf⟩ := hs.up 0 (by simp)
      simp only [Nat.zero_mul, Nat.add_zero, List.getElem_cons_zero] at c0 c1 c2 c3 c4 c5 g0 g1 g2 g3 g4 g5
      have hall : Stmts wr (.slice (some ⟨b, off, none⟩) (s :: r).length cap) (s :: r) := ⟨_, _, rfl, hcl, hcm, fun _ => ⟨b, off, rfl, hs⟩⟩
      have hrest : Stmts wr (.slice (if cap = 1 then some ⟨b, off, none⟩ else some ⟨b, off + 6, none⟩) r.length (cap - 1)) r := by
        have := hall.cut 1 (s :: r).length (by simp) (Nat.le_refl _)
        simpa [Addr.add] using this
      simp only [List.length_cons] at *
      have HR : Hid (Stmts wr (.slice (if cap = 1 then some ⟨b, off, none⟩ else some ⟨b, off + 6, none⟩) r.length (cap - 1)) r) := hrest
      have h1 : (1 : Int) ≤ (r.length : Int) + 1 := by omega
      have HC : Hid (fitB ss = (decide (0 ≤ s.thn ∧ s.thn ≤ r.length ∧ 0 ≤ s.els ∧ s.els ≤ r.length - s.thn) && (fitB (r.take s.thn.toNat) && (fitB ((r.take (s.thn.toNat + s.els.toNat)).drop s.thn.toNat) && fitB (r.drop (s.thn.toNat + s.els.toNat)))))) := by
        show _ = _
        rw [HF.out, fitB_cons]
      obtain ⟨a2, k2, rfl, -, -, -⟩ := he
      obtain ⟨a3, k3, rfl, -, -, -⟩ := hf
      clear hs hc hall hrest HF
      generalize s.kind = kI at c0 g0
      generalize s.name = nI at c1 g1
      generalize s.thn = tI at c4 g4 HC
      generalize s.els = lI at c5 g5 HC
      generalize (s :: r)[0].e.length = n2 at c2 g2
      generalize (s :: r)[0].f.length = n3 at c3 g3
      go_wp2_with fail
      go_region
      generalize (if cap = 1 then some ({ block := b, off := off, spot := none } : Addr) else some { block := b, off := off + 6, spot := none }) = a1 at HR ⊢
      generalize hk1 : cap - 1 = k1 at HR ⊢
      have hk1' : r.length ≤ k1 := by omega
      have hk2' : k1 ≤ 9223372036854775807 := by omega
      clear hk1 c0 c1 c2 c3 c4 c5 g0 g1 g2 g3 g4 g5 h1
      have hB1 : Below w.heap.size w (wr.alloc (.cells #[.int .i64 kI, .string nI, .slice a2 n2 k2, .slice a3 n3 k3, .int .i64 tI, .int .i64 lI] 88)).drew := (hB.alloc hB.size _).drew
      by_cases q1 : tI < 0
      · go_wp2_with fail
        go_ret
        exact ⟨ret_bool (by rw [HC.out, decide_eq_false (by omega)]; rfl), hB1⟩
      by_cases q2 : (r.length : Int) < tI
      · go_wp2_with fail
        go_ret
        exact ⟨ret_bool (by rw [HC.out, decide_eq_false (by omega)]; rfl), hB1⟩
      by_cases q3 : lI < 0
      · go_wp2_with fail
        go_ret
        exact ⟨ret_bool (by rw [HC.out, decide_eq_false (by omega)]; rfl), hB1⟩
      by_cases q4 : (r.length : Int) - tI < lI
      · go_wp2_with fail
        go_ret
        exact ⟨ret_bool (by rw [HC.out, decide_eq_false (by omega)]; rfl), hB1⟩
      obtain ⟨tn, rfl⟩ := Int.eq_ofNat_of_zero_le (show 0 ≤ tI by omega)
      obtain ⟨ln, rfl⟩ := Int.eq_ofNat_of_zero_le (show 0 ≤ lI by omega)
      have hlt : tn ≤ r.length := by omega
      have hlt2 : tn + ln ≤ r.length := by omega
      have HC1 : Hid (fitB ss = (fitB (r.take tn) && (fitB ((r.take (tn + ln)).drop tn) && fitB (r.drop (tn + ln))))) := by
        show _ = _
        rw [HC.out, decide_eq_true (by omega)]; simp
      clear HC
      go_wp2_with fail
      have hbx : Below wr.heap.size wr (wr.alloc (.cells #[.int .i64 kI, .string nI, .slice a2 n2 k2, .slice a3 n3 k3, .int .i64 tn, .int .i64 ln] 88)).drew := ((Below.refl _ _).alloc (Nat.le_refl _) _).drew
      refine (IH.out _ (r.take tn) _ (by simp; omega) (by simp; omega) ((HR.out.below hbx).head tn (by omega))).mono ?_
      rintro e w1 ⟨rfl, hb1⟩
      have hb1' : Below (wr.heap.size + 1) (wr.alloc (.cells #[.int .i64 kI, .string nI, .slice a2 n2 k2, .slice a3 n3 k3, .int .i64 tn, .int .i64 ln] 88)) w1 := ((Below.refl _ _).drew).trans (hb1.mono (by simp))
      have hB2 := hB.trans ((one_below hb1').mono hB.size)
      obtain ⟨x0, x1, x2, x3, x4, x5⟩ := box6 hb1'
      clear hbx hb1 hB1
      cases hf1 : fitB (r.take tn)
      · go_wp2_with fail
        go_ret
        exact ⟨ret_bool (by rw [HC1.out, hf1]; rfl), hB2⟩
      obtain ⟨a5, k5, hr5, hs5⟩ : ∃ a5 k5, (∀ w : World, (Instr.slice 59 (.slice a1 r.length k1) (some (.int .i64 tn)) (some (.int .i64 ((tn : Int) + (ln : Int)))) none).run Tryz.prog w = .ok (.slice a5 ln k5) w) ∧ Stmts wr (.slice a5 ln k5) ((r.take (tn + ln)).drop tn) := by
        have h := cut_run a1 r.length k1 tn (tn + ln) (by omega) (by omega) (by omega)
        have h' := HR.out.cut tn (tn + ln) (by omega) (by omega)
        rw [show tn + ln - tn = ln by omega] at h h'
        exact ⟨_, _, h, h'⟩
      have HS5 : Hid (Stmts wr (.slice a5 ln k5) ((r.take (tn + ln)).drop tn)) := hs5
      clear hs5
      go_wp2_with fail
      have hbw : Below wr.heap.size wr w1 := one_below hb1'
      refine (IH.out _ ((r.take (tn + ln)).drop tn) _ (by simp; omega) (by simp; omega) (HS5.out.below hbw)).mono ?_
      rintro e w2 ⟨rfl, hb2⟩
      have hB3 := hB2.trans (hb2.mono hB2.size)
      have hbw2 := hbw.trans (hb2.mono hbw.size)
      clear x0 x1 x2 x3 x4 x5 hr5
      cases hf2 : fitB ((r.take (tn + ln)).drop tn)
      · go_wp2_with fail
        go_ret
        exact ⟨ret_bool (by rw [HC1.out, hf1, hf2]; rfl), hB3⟩
      obtain ⟨a6, k6, hr6, hs6⟩ : ∃ a6 k6, (∀ w : World, (Instr.slice 59 (.slice a1 r.length k1) (some (.int .i64 ((tn : Int) + (ln : Int)))) none none).run Tryz.prog w = .ok (.slice a6 (r.length - (tn + ln)) k6) w) ∧ Stmts wr (.slice a6 (r.length - (tn + ln)) k6) (r.drop (tn + ln)) := by
        have h := cut_run_l a1 r.length k1 (tn + ln) (by omega) (by omega) ((tn : Int) + (ln : Int)) (by omega)
        have h' := HR.out.cut (tn + ln) r.length (by omega) (by omega)
        rw [List.take_length] at h'
        exact ⟨_, _, h, h'⟩
      have HS6 : Hid (Stmts wr (.slice a6 (r.length - (tn + ln)) k6) (r.drop (tn + ln))) := hs6
      clear hs6
      go_wp2_with fail
      go_roundw
      case rel => exact ⟨r.drop (tn + ln), by simp; omega, HS6.out.below hbw2, by rw [HC1.out, hf1, hf2]; rfl, hB3⟩
      case measure => simp [lenOf]; omega
end
end Go.Proofs.YtjhmgjimppflhaaGreatDoor
namespace Go.Proofs.YtjhmgjimppflhaaGreatDoor
set_option linter.unusedVariables false
set_option linter.unusedSimpArgs false
set_option maxRecDepth 100000
set_option maxHeartbeats 16000000
section
open Go.RowKit
set_option maxHeartbeats 2000000 in
theorem gstmt7 (s : ByteArray) (ve vf : Value) (es fs : List Nd) (t l : Int) (w : World) (hle : es.length ≤ 2000) (hlf : fs.length ≤ 2000) (he : Nodes w ve es) (hf : Nodes w vf fs) :
    Calls Tryz.prog 82 #[.agg #[.int .i64 7, .string s, ve, vf, .int .i64 t, .int .i64 l]] w fun e w' => e = .returned (.bool (gstmtB ⟨7, s, es, fs, t, l⟩)) ∧ Below w.heap.size w w' := by
  have HE : Hid (Nodes w ve es) := he
  have HF : Hid (Nodes w vf fs) := hf
  obtain ⟨ae, ce, rfl, -, -, -⟩ := he
  obtain ⟨af, cf, rfl, -, -, -⟩ := hf
  have HD : Hid (∀ b : Bool, (decide (es.length ≤ 2000) && b) = b) := fun b => by simp [hle]
  have HDF : Hid (∀ b : Bool, (decide (fs.length ≤ 2000) && b) = b) := fun b => by simp [hlf]
  go_enter Tryz.func82, Tryz.ntmps82
  go_wp2_with (go_at_call 49; refine (in_any _ _ _ _).mono ?_; rintro e w' ⟨rfl, rfl⟩)
  refine (gexpr_any _ es _ (by omega) (HE.out.below ((Below.refl _ _).alloc (Nat.le_refl _) _))).mono ?_
  rintro e w1 ⟨rfl, hb1⟩
  rw [HD.out]
  simp only [World.size_alloc] at hb1
  have hB1 := one_below hb1
  obtain ⟨x0, x1, x2, x3, x4, x5⟩ := box6 hb1
  cases ho : oneB es
  · go_wp2_with fail
    go_ret
    exact ⟨ret_bool (by simp only [gstmtB, stmtB]; simp [ho]), hB1⟩
  cases hn : nameB s
  case true =>
    go_wp2_with (go_at_call 48; refine (name_any _ _).mono ?_; rintro e w' ⟨rfl, rfl⟩; rw [hn])
    go_ret
    exact ⟨ret_bool (by simp only [gstmtB, stmtB]; simp [ho, nameB_empty hn, -List.beq_nil_eq]), hB1⟩
  cases hs : (s.toList == [])
  · have hs1 : (s.toList != []) = true := by rw [bne, hs]; rfl
    go_wp2_with (go_at_call 48; refine (name_any _ _).mono ?_; rintro e w' ⟨rfl, rfl⟩; rw [hn])
    go_ret
    exact ⟨ret_bool (by simp only [gstmtB, stmtB]; simp [ho, hs, -List.beq_nil_eq]), hB1⟩
  have hs1 : (s.toList != []) = false := by rw [bne, hs]; rfl
  by_cases hf0 : 0 < fs.length
  · go_wp2_with (go_at_call 48; refine (name_any _ _).mono ?_; rintro e w' ⟨rfl, rfl⟩; rw [hn])
    go_ret
    refine ⟨ret_bool ?_, hB1⟩
    have : (fs.length == 0) = false := by simp only [beq_eq_false_iff_ne]; omega
    simp only [gstmtB, stmtB, this]; simp [ho, hs, -List.beq_nil_eq]
  have HF0 : Hid ((fs.length == 0) = true) := by show _ = _; simp only [beq_iff_eq]; omega
  by_cases ht : t < 0
  · go_wp2_with (go_at_call 48; refine (name_any _ _).mono ?_; rintro e w' ⟨rfl, rfl⟩; rw [hn])
    all_goals go_ret
    all_goals refine ⟨ret_bool ?_, hB1⟩
    all_goals (simp only [gstmtB, stmtB, HF0.out]; simp [ho, hs, -List.beq_nil_eq] <;> omega)
  by_cases hl : l < 0
  · go_wp2_with (go_at_call 48; refine (name_any _ _).mono ?_; rintro e w' ⟨rfl, rfl⟩; rw [hn])
    all_goals go_ret
    all_goals refine ⟨ret_bool ?_, hB1⟩
    all_goals (simp only [gstmtB, stmtB, HF0.out]; simp [ho, hs, -List.beq_nil_eq] <;> omega)
  by_cases ht2 : 0 < t
  · go_wp2_with (go_at_call 48; refine (name_any _ _).mono ?_; rintro e w' ⟨rfl, rfl⟩; rw [hn])
    all_goals go_ret
    all_goals refine ⟨ret_bool ?_, hB1⟩
    all_goals (simp only [gstmtB, stmtB, HF0.out]; simp [ho, hs, -List.beq_nil_eq] <;> omega)
  by_cases hl2 : 0 < l
  · go_wp2_with (go_at_call 48; refine (name_any _ _).mono ?_; rintro e w' ⟨rfl, rfl⟩; rw [hn])
    all_goals go_ret
    all_goals refine ⟨ret_bool ?_, hB1⟩
    all_goals (simp only [gstmtB, stmtB, HF0.out]; simp [ho, hs, -List.beq_nil_eq] <;> omega)
  go_wp2_with (go_at_call 48; refine (name_any _ _).mono ?_; rintro e w' ⟨rfl, rfl⟩; rw [hn])
  all_goals go_ret
  all_goals refine ⟨ret_bool ?_, hB1⟩
  all_goals have ht' : 0 ≤ t := by omega
  all_goals have hl' : 0 ≤ l := by omega
  all_goals have e1 : t = 0 := by omega
  all_goals have e2 : l = 0 := by omega
  all_goals (simp only [gstmtB, stmtB, HF0.out]; simp [ho, hs, -List.beq_nil_eq, ht', hl', e1, e2])
set_option maxHeartbeats 2000000 in
theorem gstmt8 (s : ByteArray) (ve vf : Value) (es fs : List Nd) (t l : Int) (w : World) (hle : es.length ≤ 2000) (hlf : fs.length ≤ 2000) (he : Nodes w ve es) (hf : Nodes w vf fs) :
    Calls Tryz.prog 82 #[.agg #[.int .i64 8, .string s, ve, vf, .int .i64 t, .int .i64 l]] w fun e w' => e = .returned (.bool (gstmtB ⟨8, s, es, fs, t, l⟩)) ∧ Below w.heap.size w w' := by
  have HE : Hid (Nodes w ve es) := he
  have HF : Hid (Nodes w vf fs) := hf
  obtain ⟨ae, ce, rfl, -, -, -⟩ := he
  obtain ⟨af, cf, rfl, -, -, -⟩ := hf
  have HD : Hid (∀ b : Bool, (decide (es.length ≤ 2000) && b) = b) := fun b => by simp [hle]
  have HDF : Hid (∀ b : Bool, (decide (fs.length ≤ 2000) && b) = b) := fun b => by simp [hlf]
  go_enter Tryz.func82, Tryz.ntmps82
  go_wp2_with (go_at_call 49; refine (in_any _ _ _ _).mono ?_; rintro e w' ⟨rfl, rfl⟩)
  refine (gexpr_any _ es _ (by omega) (HE.out.below ((Below.refl _ _).alloc (Nat.le_refl _) _))).mono ?_
  rintro e w1 ⟨rfl, hb1⟩
  rw [HD.out]
  simp only [World.size_alloc] at hb1
  have hB1 := one_below hb1
  obtain ⟨x0, x1, x2, x3, x4, x5⟩ := box6 hb1
  cases ho : oneB es
  · go_wp2_with fail
    go_ret
    exact ⟨ret_bool (by simp only [gstmtB, stmtB]; simp [ho]), hB1⟩
  cases hn : nameB s
  case true =>
    go_wp2_with (go_at_call 48; refine (name_any _ _).mono ?_; rintro e w' ⟨rfl, rfl⟩; rw [hn])
    go_ret
    exact ⟨ret_bool (by simp only [gstmtB, stmtB]; simp [ho, nameB_empty hn, -List.beq_nil_eq]), hB1⟩
  cases hs : (s.toList == [])
  · have hs1 : (s.toList != []) = true := by rw [bne, hs]; rfl
    go_wp2_with (go_at_call 48; refine (name_any _ _).mono ?_; rintro e w' ⟨rfl, rfl⟩; rw [hn])
    go_ret
    exact ⟨ret_bool (by simp only [gstmtB, stmtB]; simp [ho, hs, -List.beq_nil_eq]), hB1⟩
  have hs1 : (s.toList != []) = false := by rw [bne, hs]; rfl
  by_cases hf0 : 0 < fs.length
  · go_wp2_with (go_at_call 48; refine (name_any _ _).mono ?_; rintro e w' ⟨rfl, rfl⟩; rw [hn])
    go_ret
    refine ⟨ret_bool ?_, hB1⟩
    have : (fs.length == 0) = false := by simp only [beq_eq_false_iff_ne]; omega
    simp only [gstmtB, stmtB, this]; simp [ho, hs, -List.beq_nil_eq]
  have HF0 : Hid ((fs.length == 0) = true) := by show _ = _; simp only [beq_iff_eq]; omega
  by_cases ht : t < 0
  · go_wp2_with (go_at_call 48; refine (name_any _ _).mono ?_; rintro e w' ⟨rfl, rfl⟩; rw [hn])
    all_goals go_ret
    all_goals refine ⟨ret_bool ?_, hB1⟩
    all_goals (simp only [gstmtB, stmtB, HF0.out]; simp [ho, hs, -List.beq_nil_eq] <;> omega)
  by_cases hl : l < 0
  · go_wp2_with (go_at_call 48; refine (name_any _ _).mono ?_; rintro e w' ⟨rfl, rfl⟩; rw [hn])
    all_goals go_ret
    all_goals refine ⟨ret_bool ?_, hB1⟩
    all_goals (simp only [gstmtB, stmtB, HF0.out]; simp [ho, hs, -List.beq_nil_eq] <;> omega)
  by_cases ht2 : 0 < t
  · go_wp2_with (go_at_call 48; refine (name_any _ _).mono ?_; rintro e w' ⟨rfl, rfl⟩; rw [hn])
    all_goals go_ret
    all_goals refine ⟨ret_bool ?_, hB1⟩
    all_goals (simp only [gstmtB, stmtB, HF0.out]; simp [ho, hs, -List.beq_nil_eq] <;> omega)
  by_cases hl2 : 0 < l
  · go_wp2_with (go_at_call 48; refine (name_any _ _).mono ?_; rintro e w' ⟨rfl, rfl⟩; rw [hn])
    all_goals go_ret
    all_goals refine ⟨ret_bool ?_, hB1⟩
    all_goals (simp only [gstmtB, stmtB, HF0.out]; simp [ho, hs, -List.beq_nil_eq] <;> omega)
  have hpos := oneB_pos ho
  have HL : Hid (lastKind es = (es[es.length - 1]'(by omega)).kind) := by
    show lastKind es = _
    simp only [lastKind]
    rw [List.getElem?_eq_getElem (by omega)]
  go_wp2_with (go_at_call 48; refine (name_any _ _).mono ?_; rintro e w' ⟨rfl, rfl⟩; rw [hn])
  refine (root_any _ es _ hpos (by omega) (HE.out.below hB1)).mono ?_
  rintro e w2 ⟨rfl, hb2⟩
  have hB2 := hB1.trans (hb2.mono hB1.size)
  generalize es[es.length - 1] = n at HL ⊢
  have hfd := run_kind n.kind n.val n.name
  have HH : Hid (0 ≤ t ∧ t ≤ 0 ∧ 0 ≤ l ∧ l ≤ 0) := ⟨by omega, by omega, by omega, by omega⟩
  clear x0 x1 x2 x3 x4 x5 hpos hle hlf ht hl ht2 hl2
  go_wp2_with fail
  go_ret
  refine ⟨ret_bool ?_, hB2⟩
  have hh := HH.out
  have e1 : t = 0 := by omega
  have e2 : l = 0 := by omega
  simp only [gstmtB, stmtB, HF0.out]; simp [ho, hs, -List.beq_nil_eq, HL.out, e1, e2]
end
end Go.Proofs.YtjhmgjimppflhaaGreatDoor
