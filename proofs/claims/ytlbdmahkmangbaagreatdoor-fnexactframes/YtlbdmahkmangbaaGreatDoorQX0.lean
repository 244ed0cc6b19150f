import Derived.Test.YtlbdmahkmangbaaGreatDoorQV1
import Derived.Laws.IdiomStrings
import Derived.Below
import Derived.Test.YtlbdmahkmangbaaGreatDoorQVM
namespace Go.Proofs.YtlbdmahkmangbaaGreatDoor
open Go.RowKit
set_option linter.unusedVariables false
set_option linter.unusedSimpArgs false

theorem ret_str {a b : ByteArray} (h : a = b) : Ending.returned (.string a) = .returned (.string b) := by rw [h]
def dig (m : Nat) : UInt8 := UInt8.ofNat (48 + m % 10)
theorem dig_toNat (m : Nat) : (dig m).toNat = 48 + m % 10 := by
  unfold dig
  simp only [UInt8.toNat_ofNat']
  omega
def digsN : Nat → Nat → List UInt8
 | 0, _ => []
 | k + 1, m => if m = 0 then [] else digsN k (m / 10) ++ [dig m]
theorem digsN_any : ∀ k j m : Nat, m ≤ k → m ≤ j → digsN k m = digsN j m
 | 0, 0, m, _, _ => rfl
 | 0, j + 1, m, h, _ => by obtain rfl : m = 0 := by omega
                           simp [digsN]
 | k + 1, 0, m, _, h => by obtain rfl : m = 0 := by omega
                           simp [digsN]
 | k + 1, j + 1, m, h, h' => by
   simp only [digsN]
   by_cases e : m = 0
   · rw [if_pos e, if_pos e]
   · rw [if_neg e, if_neg e, digsN_any k j (m / 10) (by omega) (by omega)]
def digs (m : Nat) : List UInt8 := digsN m m
theorem digs_zero : digs 0 = [] := rfl
theorem digs_pos {m : Nat} (h : 0 < m) : digs m = digs (m / 10) ++ [dig m] := by
  obtain ⟨k, rfl⟩ : ∃ k, m = k + 1 := ⟨m - 1, by omega⟩
  show digsN (k + 1) (k + 1) = _
  rw [digsN, if_neg (by omega), digsN_any k ((k + 1) / 10) ((k + 1) / 10) (by omega) (Nat.le_refl _)]; rfl
theorem digs_len (n : Nat) : ∀ m, m ≤ n → (digs m).length ≤ m := by
  induction n with
  | zero =>
    intro m h
    have : m = 0 := by omega
    rw [this, digs_zero]
    simp
  | succ n ih =>
    intro m h
    by_cases h0 : m = 0
    · subst h0; simp [digs_zero]
    · rw [digs_pos (by omega)]
      have := ih (m / 10) (by omega)
      simp only [List.length_append, List.length_cons, List.length_nil]
      omega
/-- The mark of a number. -/
def mtxt (k : Nat) : ByteArray := ⟨(109 :: digs k).toArray⟩
theorem ba_cons (d : UInt8) (l : List UInt8) : (⟨#[d]⟩ : ByteArray) ++ ⟨l.toArray⟩ = ⟨(d :: l).toArray⟩ := by
  apply ByteArray.ext
  simp
theorem conv1 (m : Nat) (w : World) : (convert 123 9 (.slice (some ⟨w.heap.size, 0, none⟩) 1 1)).run Tryz.prog (w.alloc (.cells #[.int .u8 (48 + (m : Int) % 10)] 5)) = .ok (.string ⟨#[dig m]⟩) (w.alloc (.cells #[.int .u8 (48 + (m : Int) % 10)] 5)) := by
  refine run_convert_bytes_back (P := Tryz.prog) (w.alloc (.cells #[.int .u8 (48 + (m : Int) % 10)] 5)) 123 9 5 ⟨w.heap.size, 0, none⟩ 1 [dig m] Tryz.underlying123 Tryz.underlying5 Tryz.underlying9 (fun j hj => ?_)
  obtain rfl : j = 0 := by simpa using hj
  have e : (((dig m).toNat : Nat) : Int) = 48 + (m : Int) % 10 := by rw [dig_toNat]; omega
  simp [Addr.add, e]

set_option maxHeartbeats 1000000 in
theorem mtext_any (k : Nat) (hk : (k : Int) ≤ 1000000000) (h0 : 0 < k) (w : World) : Calls Tryz.prog 42 #[.int .i64 k] w fun e w' => e = .returned (.string (mtxt k)) ∧ Below w.heap.size w w' := by
  have HK : Hid ((digs k).length ≤ k) := digs_len k k (Nat.le_refl _)
  go_enter Tryz.func42, Tryz.ntmps42
  go_wp2_with fail
  go_loopw [0, 3] (fun q s wr => ∃ (m : Nat) (l : List UInt8), (m : Int) ≤ 1000000000 ∧ q = .int .i64 m ∧ s = .string ⟨l.toArray⟩ ∧ digs m ++ l = digs k ∧ Below w.heap.size w wr) (fun q _ _ => (intOf q).toNat)
  case atStart => exact ⟨k, [], hk, rfl, rfl, by simp, Below.refl _ _⟩
  case round =>
    obtain ⟨m, l, hm, rfl, rfl, hl, hB⟩ := hrel
    have hll : (l.length : Int) ≤ 1000000000 := by
      have h1 := congrArg List.length hl
      have h2 := HK.out
      simp only [List.length_append] at h1
      omega
    have hsz : (⟨l.toArray⟩ : ByteArray).size = l.length := by simp [ByteArray.size]
    have hs1 : ((⟨l.toArray⟩ : ByteArray).size : Int) ≤ 1000000000 := by rw [hsz]; exact hll
    have HL : Hid (digs m ++ l = digs k) := hl
    have HE := ba_cons (dig m) l
    have HE' : Hid ((⟨#[dig m]⟩ : ByteArray) ++ ⟨l.toArray⟩ = ⟨(dig m :: l).toArray⟩) := HE
    have HM : Hid ((⟨#[109]⟩ : ByteArray) ++ ⟨l.toArray⟩ = ⟨(109 :: l).toArray⟩) := ba_cons 109 l
    clear hl hsz hll HE
    generalize hT : (⟨l.toArray⟩ : ByteArray) = T at hs1 HE' HM ⊢
    have HT : Hid ((⟨l.toArray⟩ : ByteArray) = T) := hT
    clear hT
    by_cases h1 : 0 < m
    · have hcv := conv1 m
      have h1c : (⟨#[dig m]⟩ : ByteArray).size = 1 := rfl
      go_wp2_with fail
      go_roundw
      case rel =>
        refine ⟨m / 10, dig m :: l, by omega, by go_num, by rw [← HE'.out], ?_, hB.alloc hB.size _⟩
        rw [← HL.out, digs_pos h1]
        simp
      case measure => simp [intOf]; omega
    · go_wp2_with fail
      go_ret
      refine ⟨ret_str ?_, hB⟩
      have hz : m = 0 := by omega
      have := HL.out
      rw [hz, digs_zero, List.nil_append] at this
      rw [HM.out, this]
      rfl

end Go.Proofs.YtlbdmahkmangbaaGreatDoor

namespace Go.Proofs.YtlbdmahkmangbaaGreatDoor
open Go.RowKit
set_option linter.unusedVariables false
set_option linter.unusedSimpArgs false

/-- Rows of the blocks from B to T may have turned in their numbers and texts; the slices in them stand. -/
structure Sh (B T : Nat) (w w' : World) : Prop where
  os : w'.os = w.os
  tape : w'.tape = w.tape
  output : w'.output = w.output
  size : w.heap.size ≤ w'.heap.size
  block : ∀ k, k < w.heap.size → w'.heap[k]? = w.heap[k]? ∨ (B ≤ k ∧ k < T ∧ ∃ cur cur' t, w.heap[k]? = some (.cells cur t (0, 0)) ∧ w'.heap[k]? = some (.cells cur' t (0, 0)) ∧ cur'.size = cur.size ∧ ∀ (i : Nat) (a : Option Addr) (n c : Nat), cur'[i]? = some (.slice a n c) ↔ cur[i]? = some (.slice a n c))
theorem Sh.refl (B T : Nat) (w : World) : Sh B T w w := ⟨rfl, rfl, rfl, Nat.le_refl _, fun _ _ => .inl rfl⟩
theorem Sh.trans {B T : Nat} {w1 w2 w3 : World} (h : Sh B T w1 w2) (k : Sh B T w2 w3) : Sh B T w1 w3 := by
  refine ⟨k.os.trans h.os, k.tape.trans h.tape, k.output.trans h.output, Nat.le_trans h.size k.size, fun i hi => ?_⟩
  rcases h.block i hi with h1 | ⟨b1, t1, c1, c2, t, e1, e2, s1, m1⟩
  · rcases k.block i (by have := h.size; omega) with h2 | ⟨b2, t2, d1, d2, u, f1, f2, s2, m2⟩
    · exact .inl (h2.trans h1)
    · exact .inr ⟨b2, t2, d1, d2, u, h1.symm.trans f1, f2, s2, m2⟩
  · rcases k.block i (by have := h.size; omega) with h2 | ⟨b2, t2, d1, d2, u, f1, f2, s2, m2⟩
    · exact .inr ⟨b1, t1, c1, c2, t, e1, h2.trans e2, s1, m1⟩
    · rw [e2] at f1
      injection f1 with f1
      injection f1 with f1 f1' _
      subst f1
      subst f1'
      exact .inr ⟨b1, t1, c1, d2, t, e1, f2, s2.trans s1, fun i a n c => (m2 i a n c).trans (m1 i a n c)⟩
theorem Sh.of_below {B T : Nat} {w w' : World} (h : Below w.heap.size w w') : Sh B T w w' := ⟨h.os, h.tape, h.output, h.size, fun k hk => .inl (h.block k hk)⟩
theorem Sh.below {B T : Nat} {w w' : World} (h : Sh B T w w') (hB : B ≤ w.heap.size) : Below B w w' := by
  refine ⟨h.os, h.tape, h.output, h.size, fun k hk => ?_⟩
  rcases h.block k (by omega) with h1 | ⟨b1, _⟩
  · exact h1
  · omega
theorem Sh.keep {B T : Nat} {w w' : World} (h : Sh B T w w') : Keep T w w' := by
  intro k hk hl
  rcases h.block k hl with h1 | ⟨_, b2, _⟩
  · exact h1
  · omega
def plainV (v : Value) : Prop := ∀ a n c, v ≠ .slice a n c
theorem Sh.set {B T : Nat} {w : World} {g i : Nat} {cur : Array Value} {t : TypeId} {u v : Value} (hg : w.heap[g]? = some (.cells cur t (0, 0))) (hB : B ≤ g) (hT : g < T) (hv : cur[i]? = some v) (pv : plainV v) (pu : plainV u) : Sh B T w (w.setCell ⟨g, i, none⟩ u) := by
  refine ⟨rfl, rfl, rfl, by simp, fun k hk => ?_⟩
  by_cases e : k = g
  · subst e
    refine .inr ⟨hB, hT, cur, cur.setIfInBounds i u, t, hg, heap_setCell_same w k i cur t u hg, by simp, fun j a n c => ?_⟩
    have hi : i < cur.size := (Array.getElem?_eq_some_iff.1 hv).1
    rw [Array.getElem?_setIfInBounds]
    by_cases ej : i = j
    · subst ej
      rw [if_pos rfl, if_pos hi, hv]
      constructor
      · intro h; exact absurd (Option.some.inj h) (pu a n c)
      · intro h; exact absurd (Option.some.inj h) (pv a n c)
    · rw [if_neg ej]
  · exact .inl (Below.heap_setCell w ⟨g, i, none⟩ u k e)

/-- A row of m cells an element in a block from B to T. -/
def RowM (B T : Nat) (t m : Nat) (w : World) (v : Value) (n : Nat) (C : Array Value → Prop) : Prop := ∃ g cur, v = .slice (some ⟨g, 0, none⟩) n n ∧ B ≤ g ∧ g < T ∧ w.heap[g]? = some (.cells cur t (0, 0)) ∧ cur.size = n * m ∧ C cur
def plainAll (cur : Array Value) : Prop := ∀ (i : Nat) (v : Value), cur[i]? = some v → plainV v
theorem RowM.sh {B T t m n : Nat} {w w' : World} {v : Value} {C : Array Value → Prop} (h : RowM B T t m w v n C) (s : Sh B T w w') (hC : ∀ cur cur' : Array Value, cur'.size = cur.size → (∀ (i : Nat) (a : Option Addr) (n c : Nat), cur'[i]? = some (.slice a n c) ↔ cur[i]? = some (.slice a n c)) → C cur → C cur') : RowM B T t m w' v n C := by
  obtain ⟨g, cur, rfl, hB, hT, hg, hz, hc⟩ := h
  have hlt := (Array.getElem?_eq_some_iff.1 hg).1
  rcases s.block g hlt with h1 | ⟨_, _, c1, c2, u, e1, e2, s1, m1⟩
  · exact ⟨g, cur, rfl, hB, hT, h1.trans hg, hz, hc⟩
  · rw [hg] at e1
    injection e1 with e1
    injection e1 with e1 e1' _
    subst e1
    subst e1'
    exact ⟨g, c2, rfl, hB, hT, e2, s1.trans hz, hC _ _ s1 m1 hc⟩
theorem plainAll_sh (cur cur' : Array Value) (hs : cur'.size = cur.size) (h : ∀ (i : Nat) (a : Option Addr) (n c : Nat), cur'[i]? = some (.slice a n c) ↔ cur[i]? = some (.slice a n c)) (hp : plainAll cur) : plainAll cur' := by
  intro i v hv a n c e
  subst e
  exact hp i _ ((h i a n c).1 hv) a n c rfl
def PlainM (B T : Nat) (t m : Nat) (w : World) (v : Value) (n : Nat) : Prop := RowM B T t m w v n plainAll
theorem PlainM.sh {B T t m n : Nat} {w w' : World} {v : Value} (h : PlainM B T t m w v n) (s : Sh B T w w') : PlainM B T t m w' v n := RowM.sh h s plainAll_sh
theorem rowm_cell {w : World} {g i : Nat} {cur : Array Value} {t : TypeId} (hg : w.heap[g]? = some (.cells cur t (0, 0))) (hi : i < cur.size) : w.cell? ⟨g, i, none⟩ = some cur[i] ∧ w.frozen? ⟨g, i, none⟩ = false := by
  refine ⟨?_, frozen_of_row w g i cur t hg⟩
  rw [cell_of_row w g i cur t (0, 0) hg]
  simp [hi]
theorem plain_int (k : IntKind) (n : Int) : plainV (.int k n) := fun _ _ _ h => by cases h
theorem plain_str (s : ByteArray) : plainV (.string s) := fun _ _ _ h => by cases h
/-- One cell of such a row marked. -/
theorem PlainM.set {B T t m n : Nat} {w : World} {g i : Nat} {u : Value} (h : PlainM B T t m w (.slice (some ⟨g, 0, none⟩) n n) n) (hi : i < n * m) (pu : plainV u) : Sh B T w (w.setCell ⟨g, i, none⟩ u) := by
  obtain ⟨g', cur, he, hB, hT, hg, hz, hc⟩ := h
  simp only [Value.slice.injEq, Option.some.injEq, Addr.mk.injEq, and_true, true_and] at he
  subst he
  exact Sh.set hg hB hT (v := cur[i]'(by omega)) (by simp) (hc i _ (by simp)) pu
theorem PlainM.old {B T t m n : Nat} {w : World} {g i : Nat} (h : PlainM B T t m w (.slice (some ⟨g, 0, none⟩) n n) n) (hi : i < n * m) : (∃ y, w.cell? ⟨g, i, none⟩ = some y) ∧ w.frozen? ⟨g, i, none⟩ = false := by
  obtain ⟨g', cur, he, hB, hT, hg, hz, hc⟩ := h
  simp only [Value.slice.injEq, Option.some.injEq, Addr.mk.injEq, and_true, true_and] at he
  subst he
  have := rowm_cell (i := i) hg (by omega)
  exact ⟨⟨_, this.1⟩, this.2⟩

/-- Statements whose rows may be marked: their lengths alone are told. -/
def StmtsM (B T : Nat) (w : World) (v : Value) (ss : List St) : Prop := ∃ g cur, v = .slice (some ⟨g, 0, none⟩) ss.length ss.length ∧ B ≤ g ∧ g < T ∧ w.heap[g]? = some (.cells cur 82 (0, 0)) ∧ cur.size = ss.length * 6 ∧
  ∀ j (h : j < ss.length), (∃ ve vf, cur[j * 6 + 2]? = some ve ∧ cur[j * 6 + 3]? = some vf ∧ PlainM B T 136 3 w ve ss[j].e.length ∧ PlainM B T 136 3 w vf ss[j].f.length) ∧
    ∀ i, i = 0 ∨ i = 1 ∨ i = 4 ∨ i = 5 → ∀ v, cur[j * 6 + i]? = some v → plainV v
def FuncsM (B T : Nat) (w : World) (v : Value) (fs : List Fu) : Prop := ∃ g cur, v = .slice (some ⟨g, 0, none⟩) fs.length fs.length ∧ B ≤ g ∧ g < T ∧ w.heap[g]? = some (.cells cur 48 (0, 0)) ∧ cur.size = fs.length * 3 ∧
  ∀ j (h : j < fs.length), (∃ vp vb, cur[j * 3 + 1]? = some vp ∧ cur[j * 3 + 2]? = some vb ∧ PlainM B T 9 1 w vp fs[j].params.length ∧ StmtsM B T w vb fs[j].body) ∧ ∀ v, cur[j * 3]? = some v → plainV v
theorem slice_kept {cur cur' : Array Value} (m1 : ∀ (i : Nat) (a : Option Addr) (n c : Nat), cur'[i]? = some (.slice a n c) ↔ cur[i]? = some (.slice a n c)) {i : Nat} {v : Value} (h : cur[i]? = some v) (hv : ∃ a n c, v = .slice a n c) : cur'[i]? = some v := by
  obtain ⟨a, n, c, rfl⟩ := hv
  exact (m1 i a n c).2 h
theorem plain_kept {cur cur' : Array Value} (hs : cur'.size = cur.size) (m1 : ∀ (i : Nat) (a : Option Addr) (n c : Nat), cur'[i]? = some (.slice a n c) ↔ cur[i]? = some (.slice a n c)) {i : Nat} (h : ∀ v, cur[i]? = some v → plainV v) : ∀ v, cur'[i]? = some v → plainV v := by
  intro v hv a n c e
  subst e
  exact h _ ((m1 i a n c).1 hv) a n c rfl
theorem PlainM.isSlice {B T t m n : Nat} {w : World} {v : Value} (h : PlainM B T t m w v n) : ∃ a n c, v = .slice a n c := by
  obtain ⟨g, cur, rfl, _⟩ := h
  exact ⟨_, _, _, rfl⟩
theorem StmtsM.isSlice {B T : Nat} {w : World} {v : Value} {ss : List St} (h : StmtsM B T w v ss) : ∃ a n c, v = .slice a n c := by
  obtain ⟨g, cur, rfl, _⟩ := h
  exact ⟨_, _, _, rfl⟩
theorem StmtsM.sh {B T : Nat} {w w' : World} {v : Value} {ss : List St} (h : StmtsM B T w v ss) (s : Sh B T w w') : StmtsM B T w' v ss := by
  obtain ⟨g, cur, rfl, hB, hT, hg, hz, hc⟩ := h
  have hlt := (Array.getElem?_eq_some_iff.1 hg).1
  rcases s.block g hlt with h1 | ⟨_, _, c1, c2, u, e1, e2, s1, m1⟩
  · refine ⟨g, cur, rfl, hB, hT, h1.trans hg, hz, fun j hj => ?_⟩
    obtain ⟨⟨ve, vf, k2, k3, p2, p3⟩, hp⟩ := hc j hj
    exact ⟨⟨ve, vf, k2, k3, p2.sh s, p3.sh s⟩, hp⟩
  · rw [hg] at e1
    injection e1 with e1
    injection e1 with e1 e1' _
    subst e1
    subst e1'
    refine ⟨g, c2, rfl, hB, hT, e2, s1.trans hz, fun j hj => ?_⟩
    obtain ⟨⟨ve, vf, k2, k3, p2, p3⟩, hp⟩ := hc j hj
    exact ⟨⟨ve, vf, slice_kept m1 k2 p2.isSlice, slice_kept m1 k3 p3.isSlice, p2.sh s, p3.sh s⟩, fun i hi => plain_kept s1 m1 (hp i hi)⟩
theorem FuncsM.sh {B T : Nat} {w w' : World} {v : Value} {fs : List Fu} (h : FuncsM B T w v fs) (s : Sh B T w w') : FuncsM B T w' v fs := by
  obtain ⟨g, cur, rfl, hB, hT, hg, hz, hc⟩ := h
  have hlt := (Array.getElem?_eq_some_iff.1 hg).1
  rcases s.block g hlt with h1 | ⟨_, _, c1, c2, u, e1, e2, s1, m1⟩
  · refine ⟨g, cur, rfl, hB, hT, h1.trans hg, hz, fun j hj => ?_⟩
    obtain ⟨⟨ve, vf, k2, k3, p2, p3⟩, hp⟩ := hc j hj
    exact ⟨⟨ve, vf, k2, k3, p2.sh s, p3.sh s⟩, hp⟩
  · rw [hg] at e1
    injection e1 with e1
    injection e1 with e1 e1' _
    subst e1
    subst e1'
    refine ⟨g, c2, rfl, hB, hT, e2, s1.trans hz, fun j hj => ?_⟩
    obtain ⟨⟨ve, vf, k2, k3, p2, p3⟩, hp⟩ := hc j hj
    exact ⟨⟨ve, vf, slice_kept m1 k2 p2.isSlice, slice_kept m1 k3 p3.isSlice, p2.sh s, p3.sh s⟩, plain_kept s1 m1 hp⟩
/-- What the walk reads at statement j. -/
theorem StmtsM.at {B T : Nat} {w : World} {g : Nat} {ss : List St} (h : StmtsM B T w (.slice (some ⟨g, 0, none⟩) ss.length ss.length) ss) (j : Nat) (hj : j < ss.length) :
    ∃ ve vf, w.cell? ⟨g, j * 6 + 2, none⟩ = some ve ∧ w.cell? ⟨g, j * 6 + 3, none⟩ = some vf ∧ PlainM B T 136 3 w ve ss[j].e.length ∧ PlainM B T 136 3 w vf ss[j].f.length ∧
      ∀ i, i = 0 ∨ i = 1 ∨ i = 4 ∨ i = 5 → (∃ y, w.cell? ⟨g, j * 6 + i, none⟩ = some y) ∧ w.frozen? ⟨g, j * 6 + i, none⟩ = false ∧ ∀ u, plainV u → Sh B T w (w.setCell ⟨g, j * 6 + i, none⟩ u) := by
  obtain ⟨g', cur, he, hB, hT, hg, hz, hc⟩ := h
  simp only [Value.slice.injEq, Option.some.injEq, Addr.mk.injEq, and_true, true_and] at he
  subst he
  obtain ⟨⟨ve, vf, k2, k3, p2, p3⟩, hp⟩ := hc j hj
  refine ⟨ve, vf, ?_, ?_, p2, p3, fun i hi => ?_⟩
  · rw [cell_of_row w g _ cur _ (0, 0) hg]; exact k2
  · rw [cell_of_row w g _ cur _ (0, 0) hg]; exact k3
  · have hlt : j * 6 + i < cur.size := by omega
    have := rowm_cell hg hlt
    exact ⟨⟨_, this.1⟩, this.2, fun u pu => Sh.set hg hB hT (v := cur[j * 6 + i]) (by simp [hlt]) (hp i hi _ (by simp [hlt])) pu⟩
theorem FuncsM.at {B T : Nat} {w : World} {g : Nat} {fs : List Fu} (h : FuncsM B T w (.slice (some ⟨g, 0, none⟩) fs.length fs.length) fs) (j : Nat) (hj : j < fs.length) :
    ∃ vp vb, w.cell? ⟨g, j * 3 + 1, none⟩ = some vp ∧ w.cell? ⟨g, j * 3 + 2, none⟩ = some vb ∧ PlainM B T 9 1 w vp fs[j].params.length ∧ StmtsM B T w vb fs[j].body ∧
      (∃ y, w.cell? ⟨g, j * 3, none⟩ = some y) ∧ w.frozen? ⟨g, j * 3, none⟩ = false ∧ ∀ u, plainV u → Sh B T w (w.setCell ⟨g, j * 3, none⟩ u) := by
  obtain ⟨g', cur, he, hB, hT, hg, hz, hc⟩ := h
  simp only [Value.slice.injEq, Option.some.injEq, Addr.mk.injEq, and_true, true_and] at he
  subst he
  obtain ⟨⟨ve, vf, k2, k3, p2, p3⟩, hp⟩ := hc j hj
  have hlt : j * 3 < cur.size := by omega
  have := rowm_cell hg hlt
  refine ⟨ve, vf, ?_, ?_, p2, p3, ⟨_, this.1⟩, this.2, fun u pu => Sh.set hg hB hT (v := cur[j * 3]) (by simp [hlt]) (hp _ (by simp [hlt])) pu⟩
  · rw [cell_of_row w g _ cur _ (0, 0) hg]; exact k2
  · rw [cell_of_row w g _ cur _ (0, 0) hg]; exact k3

end Go.Proofs.YtlbdmahkmangbaaGreatDoor

namespace Go.Proofs.YtlbdmahkmangbaaGreatDoor
open Go.RowKit
set_option linter.unusedVariables false
set_option linter.unusedSimpArgs false
theorem ret_int' {k : IntKind} {a b : Int} (h : a = b) : Ending.returned (.int k a) = .returned (.int k b) := by rw [h]

set_option maxHeartbeats 1000000 in
theorem markNodes_any (B T : Nat) (v : Value) (n k : Nat) (w : World) (hn : n ≤ 1048576) (h0 : 0 < k) (hk : (k : Int) + 3 * n ≤ 1000000000) (h : PlainM B T 136 3 w v n) :
    Calls Tryz.prog 71 #[v, .int .i64 k] w fun e w' => e = .returned (.int .i64 ((k + 3 * n : Nat) : Int)) ∧ Sh B T w w' := by
  have HP : Hid (PlainM B T 136 3 w v n) := h
  obtain ⟨g, cur, rfl, -, -, -, -, -⟩ := h
  go_enter Tryz.func71, Tryz.ntmps71
  go_wp2_with fail
  go_loopw [1, 5] (fun q i wr => ∃ j : Nat, j ≤ n ∧ i = .int .i64 j ∧ q = .int .i64 ((k + 3 * j : Nat) : Int) ∧ Sh B T w wr) (fun _ i _ => n - (intOf i).toNat)
  case atStart => exact ⟨0, Nat.zero_le _, rfl, by simp, Sh.refl _ _ _⟩
  case round =>
    obtain ⟨j, hj, rfl, rfl, hS⟩ := hrel
    by_cases hlt : j < n
    · have hP := HP.out.sh hS
      generalize hq : k + 3 * j = q
      have hqb : (q : Int) + 3 ≤ 1000000000 := by omega
      have hq0 : 0 < q := by omega
      have HQ : Hid (k + 3 * j = q) := hq
      clear hq
      obtain ⟨⟨y0, o0⟩, f0⟩ := hP.old (i := j * 3) (by omega)
      have s0 := hP.set (i := j * 3) (u := .int .i64 ((q : Int))) (by omega) (plain_int _ _)
      have P0 := hP.sh s0
      have S0 := hS.trans s0
      obtain ⟨⟨y1, o1⟩, f1⟩ := P0.old (i := j * 3 + 1) (by omega)
      have s1 := P0.set (i := j * 3 + 1) (u := .int .i64 ((q : Int) + 1)) (by omega) (plain_int _ _)
      have P1 := P0.sh s1
      have S1 := S0.trans s1
      obtain ⟨⟨y2, o2⟩, f2⟩ := P1.old (i := j * 3 + 2) (by omega)
      have H2 : Hid _ := P1
      have HS2 : Hid _ := S1
      clear P1
      go_wp2_with fail
      rw [show ((q : Int) + 1 + 1) = ((q + 2 : Nat) : Int) by omega]
      refine (mtext_any (q + 2) (by omega) (by omega) _).mono ?_
      rintro e w2 ⟨rfl, hb2⟩
      have Q2 : PlainM B T 136 3 w2 (.slice (some ⟨g, 0, none⟩) n n) n := PlainM.sh H2.out (Sh.of_below hb2)
      have R2 := HS2.out.trans (Sh.of_below hb2)
      obtain ⟨⟨z2, p2⟩, r2⟩ := Q2.old (i := j * 3 + 2) (by omega)
      have s2 := Q2.set (i := j * 3 + 2) (u := .string (mtxt (q + 2))) (by omega) (plain_str _)
      have P2 := Q2.sh s2
      have S2 := R2.trans s2
      have HF : Hid _ := S2
      try clear hP
      try clear hS
      go_wp2_with fail
      go_roundw
      case rel => exact ⟨j + 1, by omega, by go_num, by rw [show k + 3 * (j + 1) = q + 3 by have := HQ.out; omega]; go_num, HF.out⟩
      case measure => simp [intOf]; omega
    · go_wp2_with fail
      go_ret
      have hjn : j = n := by omega
      exact ⟨ret_int' (by rw [hjn]), hS⟩

set_option maxHeartbeats 1000000 in
theorem markStrs_any (B T : Nat) (v : Value) (n k : Nat) (w : World) (hn : n ≤ 1048576) (h0 : 0 < k) (hk : (k : Int) + 1 * n ≤ 1000000000) (h : PlainM B T 9 1 w v n) :
    Calls Tryz.prog 43 #[v, .int .i64 k] w fun e w' => e = .returned (.int .i64 ((k + 1 * n : Nat) : Int)) ∧ Sh B T w w' := by
  have HP : Hid (PlainM B T 9 1 w v n) := h
  obtain ⟨g, cur, rfl, -, -, -, -, -⟩ := h
  go_enter Tryz.func43, Tryz.ntmps43
  go_wp2_with fail
  go_loopw [1, 5] (fun q i wr => ∃ j : Nat, j ≤ n ∧ i = .int .i64 j ∧ q = .int .i64 ((k + 1 * j : Nat) : Int) ∧ Sh B T w wr) (fun _ i _ => n - (intOf i).toNat)
  case atStart => exact ⟨0, Nat.zero_le _, rfl, by simp, Sh.refl _ _ _⟩
  case round =>
    obtain ⟨j, hj, rfl, rfl, hS⟩ := hrel
    by_cases hlt : j < n
    · have hP := HP.out.sh hS
      generalize hq : k + 1 * j = q
      have hqb : (q : Int) + 1 ≤ 1000000000 := by omega
      have hq0 : 0 < q := by omega
      have HQ : Hid (k + 1 * j = q) := hq
      clear hq
      obtain ⟨⟨y0, o0⟩, f0⟩ := hP.old (i := j) (by omega)
      have H0 : Hid _ := hP
      have HS0 : Hid _ := hS
      clear hP
      go_wp2_with fail
      refine (mtext_any q (by omega) (by omega) _).mono ?_
      rintro e w0 ⟨rfl, hb0⟩
      have Q0 : PlainM B T 9 1 w0 (.slice (some ⟨g, 0, none⟩) n n) n := PlainM.sh H0.out (Sh.of_below hb0)
      have R0 := HS0.out.trans (Sh.of_below hb0)
      obtain ⟨⟨z0, p0⟩, r0⟩ := Q0.old (i := j) (by omega)
      have s0 := Q0.set (i := j) (u := .string (mtxt q)) (by omega) (plain_str _)
      have P0 := Q0.sh s0
      have S0 := R0.trans s0
      have HF : Hid _ := S0
      try clear hP
      try clear hS
      go_wp2_with fail
      go_roundw
      case rel => exact ⟨j + 1, by omega, by go_num, by rw [show k + 1 * (j + 1) = q + 1 by have := HQ.out; omega]; go_num, HF.out⟩
      case measure => simp [intOf]; omega
    · go_wp2_with fail
      go_ret
      have hjn : j = n := by omega
      exact ⟨ret_int' (by rw [hjn]), hS⟩

set_option maxHeartbeats 1000000 in
theorem markGlobs_any (B T : Nat) (v : Value) (n k : Nat) (w : World) (hn : n ≤ 1048576) (h0 : 0 < k) (hk : (k : Int) + 2 * n ≤ 1000000000) (h : PlainM B T 73 2 w v n) :
    Calls Tryz.prog 23 #[v, .int .i64 k] w fun e w' => e = .returned (.int .i64 ((k + 2 * n : Nat) : Int)) ∧ Sh B T w w' := by
  have HP : Hid (PlainM B T 73 2 w v n) := h
  obtain ⟨g, cur, rfl, -, -, -, -, -⟩ := h
  go_enter Tryz.func23, Tryz.ntmps23
  go_wp2_with fail
  go_loopw [1, 5] (fun q i wr => ∃ j : Nat, j ≤ n ∧ i = .int .i64 j ∧ q = .int .i64 ((k + 2 * j : Nat) : Int) ∧ Sh B T w wr) (fun _ i _ => n - (intOf i).toNat)
  case atStart => exact ⟨0, Nat.zero_le _, rfl, by simp, Sh.refl _ _ _⟩
  case round =>
    obtain ⟨j, hj, rfl, rfl, hS⟩ := hrel
    by_cases hlt : j < n
    · have hP := HP.out.sh hS
      generalize hq : k + 2 * j = q
      have hqb : (q : Int) + 2 ≤ 1000000000 := by omega
      have hq0 : 0 < q := by omega
      have HQ : Hid (k + 2 * j = q) := hq
      clear hq
      obtain ⟨⟨y0, o0⟩, f0⟩ := hP.old (i := j * 2) (by omega)
      have H0 : Hid _ := hP
      have HS0 : Hid _ := hS
      clear hP
      go_wp2_with fail
      refine (mtext_any q (by omega) (by omega) _).mono ?_
      rintro e w0 ⟨rfl, hb0⟩
      have Q0 : PlainM B T 73 2 w0 (.slice (some ⟨g, 0, none⟩) n n) n := PlainM.sh H0.out (Sh.of_below hb0)
      have R0 := HS0.out.trans (Sh.of_below hb0)
      obtain ⟨⟨z0, p0⟩, r0⟩ := Q0.old (i := j * 2) (by omega)
      have s0 := Q0.set (i := j * 2) (u := .string (mtxt q)) (by omega) (plain_str _)
      have P0 := Q0.sh s0
      have S0 := R0.trans s0
      obtain ⟨⟨y1, o1⟩, f1⟩ := P0.old (i := j * 2 + 1) (by omega)
      have s1 := P0.set (i := j * 2 + 1) (u := .int .i64 ((q : Int) + 1)) (by omega) (plain_int _ _)
      have P1 := P0.sh s1
      have S1 := S0.trans s1
      have HF : Hid _ := S1
      try clear hP
      try clear hS
      go_wp2_with fail
      go_roundw
      case rel => exact ⟨j + 1, by omega, by go_num, by rw [show k + 2 * (j + 1) = q + 2 by have := HQ.out; omega]; go_num, HF.out⟩
      case measure => simp [intOf]; omega
    · go_wp2_with fail
      go_ret
      have hjn : j = n := by omega
      exact ⟨ret_int' (by rw [hjn]), hS⟩

end Go.Proofs.YtlbdmahkmangbaaGreatDoor
