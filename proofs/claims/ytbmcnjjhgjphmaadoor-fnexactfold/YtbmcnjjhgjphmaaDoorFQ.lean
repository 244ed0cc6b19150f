import Derived.Test.YtbmcnjjhgjphmaaDoorFT
import Derived.Test.YtbmcnjjhgjphmaaDoorX0
import Derived.RegionTactic
namespace Go.Proofs.YtbmcnjjhgjphmaaDoor
open Go.RowKit
set_option linter.unusedVariables false
set_option linter.unusedSimpArgs false

/-- Only block g has turned, and new ones. -/
structure Tn (g : Nat) (w w' : World) : Prop where
  still : w'.os = w.os ∧ w'.tape = w.tape ∧ w'.output = w.output
  size : w.heap.size ≤ w'.heap.size
  other : ∀ b, b < w.heap.size → b ≠ g → w'.heap[b]? = w.heap[b]?
theorem Tn.refl (g : Nat) (w : World) : Tn g w w := ⟨⟨rfl, rfl, rfl⟩, Nat.le_refl _, fun _ _ _ => rfl⟩
theorem Tn.set {g : Nat} {w w' : World} (h : Tn g w w') (o : Nat) (v : Value) : Tn g w (w'.setCell ⟨g, o, none⟩ v) := by
  have hb0 := (Below.refl 0 w').setCell (p := ⟨g, o, none⟩) (Nat.zero_le _) v
  refine ⟨⟨hb0.os.trans h.still.1, hb0.tape.trans h.still.2.1, hb0.output.trans h.still.2.2⟩, by simpa using h.size, fun b hl hb => ?_⟩
  rw [← h.other b hl hb]
  exact Below.heap_setCell _ _ _ b (fun h => hb (by simpa using h))
theorem Tn.step {g : Nat} {w w' w2 : World} (h : Tn g w w') (hb : Below w'.heap.size w' w2) : Tn g w w2 :=
  ⟨⟨hb.os.trans h.still.1, hb.tape.trans h.still.2.1, hb.output.trans h.still.2.2⟩, Nat.le_trans h.size hb.size, fun b hl hn => (hb.block b (Nat.lt_of_lt_of_le hl h.size)).trans (h.other b hl hn)⟩
theorem Tn.below {B g : Nat} {w w' : World} (h : Tn g w w') (hg : B ≤ g) (hs : B ≤ w.heap.size) : Below B w w' :=
  ⟨h.still.1, h.still.2.1, h.still.2.2, h.size, fun k hk => h.other k (by omega) (by omega)⟩
theorem Tn.cell {g : Nat} {w w' : World} (h : Tn g w w') {b o : Nat} (hl : b < w.heap.size) (hb : b ≠ g) : w'.cell? ⟨b, o, none⟩ = w.cell? ⟨b, o, none⟩ := World.cell?_of_block (a := ⟨b, o, none⟩) (h.other b hl hb)
/-- The first m cells of block g are there, and free. -/
def OldN (w : World) (g m : Nat) : Prop := ∀ j, j < m → (∃ y, w.cell? ⟨g, j, none⟩ = some y) ∧ w.frozen? ⟨g, j, none⟩ = false
theorem OldN.set {w : World} {g m : Nat} (h : OldN w g m) (i : Nat) (u : Value) : OldN (w.setCell ⟨g, i, none⟩ u) g m := by
  intro j hj
  obtain ⟨⟨y, hy⟩, hf⟩ := h j hj
  refine ⟨?_, (World.frozen?_setCell _ _ _ _).trans hf⟩
  by_cases e : j = i
  · subst e
    exact ⟨_, World.cell?_setCell_same _ _ _ hy⟩
  · exact ⟨y, by rw [World.cell?_setCell_other _ _ _ _ (by intro h; simp only [Addr.mk.injEq] at h; omega)]; exact hy⟩
theorem OldN.below {w w' : World} {g m : Nat} (h : OldN w g m) (hb : Below w.heap.size w w') : OldN w' g m := by
  intro j hj
  obtain ⟨⟨y, hy⟩, hf⟩ := h j hj
  have hlt := World.block_lt_of_cell? _ _ hy
  exact ⟨⟨y, (hb.cell (p := ⟨g, j, none⟩) hlt).trans hy⟩, (hb.frozen (p := ⟨g, j, none⟩) hlt).trans hf⟩
/-- The first k nodes of block g are marked from q on. -/
def MkdN (w : World) (g q k : Nat) : Prop := ∀ j, j < k → w.cell? ⟨g, j * 3, none⟩ = some (.int .i64 ((q + 3 * j : Nat) : Int)) ∧ w.cell? ⟨g, j * 3 + 1, none⟩ = some (.int .i64 ((q + 3 * j + 1 : Nat) : Int)) ∧ w.cell? ⟨g, j * 3 + 2, none⟩ = some (.string (mtxt (q + 3 * j + 2)))
theorem MkdN.set {w : World} {g q k : Nat} (h : MkdN w g q k) {i : Nat} (hi : k * 3 ≤ i) (u : Value) : MkdN (w.setCell ⟨g, i, none⟩ u) g q k := by
  intro j hj
  obtain ⟨h0, h1, h2⟩ := h j hj
  refine ⟨?_, ?_, ?_⟩
  · rw [World.cell?_setCell_other _ _ _ _ (by intro h; simp only [Addr.mk.injEq] at h; omega)]; exact h0
  · rw [World.cell?_setCell_other _ _ _ _ (by intro h; simp only [Addr.mk.injEq] at h; omega)]; exact h1
  · rw [World.cell?_setCell_other _ _ _ _ (by intro h; simp only [Addr.mk.injEq] at h; omega)]; exact h2
theorem MkdN.below {w w' : World} {g q k : Nat} (h : MkdN w g q k) (hb : Below w.heap.size w w') : MkdN w' g q k := by
  intro j hj
  obtain ⟨h0, h1, h2⟩ := h j hj
  have hlt := World.block_lt_of_cell? _ _ h0
  exact ⟨(hb.cell (p := ⟨g, j * 3, none⟩) hlt).trans h0, (hb.cell (p := ⟨g, j * 3 + 1, none⟩) hlt).trans h1, (hb.cell (p := ⟨g, j * 3 + 2, none⟩) hlt).trans h2⟩
/-- One node marked. -/
theorem mark3 {w w2 : World} {g q k m : Nat} {a b c : Value} (ho : OldN w g m) (hk : k * 3 + 3 ≤ m) (hm : MkdN w g q k) (hb : Below w.heap.size ((w.setCell ⟨g, k * 3, none⟩ a).setCell ⟨g, k * 3 + 1, none⟩ b) w2)
    (ha : a = .int .i64 ((q + 3 * k : Nat) : Int)) (hb' : b = .int .i64 ((q + 3 * k + 1 : Nat) : Int)) (hc : c = .string (mtxt (q + 3 * k + 2))) :
    OldN (w2.setCell ⟨g, k * 3 + 2, none⟩ c) g m ∧ MkdN (w2.setCell ⟨g, k * 3 + 2, none⟩ c) g q (k + 1) := by
  have hb2 : Below ((w.setCell ⟨g, k * 3, none⟩ a).setCell ⟨g, k * 3 + 1, none⟩ b).heap.size ((w.setCell ⟨g, k * 3, none⟩ a).setCell ⟨g, k * 3 + 1, none⟩ b) w2 := by simpa using hb
  have o1 := (ho.set (k * 3) a).set (k * 3 + 1) b
  have o2 := o1.below hb2
  have m2 := ((hm.set (Nat.le_refl _) a).set (i := k * 3 + 1) (by omega) b).below hb2
  refine ⟨o2.set _ _, fun j hj => ?_⟩
  by_cases e : j = k
  · subst e
    obtain ⟨⟨y0, c0⟩, _⟩ := ho (j * 3) (by omega)
    obtain ⟨⟨y1, c1⟩, _⟩ := ho (j * 3 + 1) (by omega)
    obtain ⟨⟨y2, c2⟩, _⟩ := o2 (j * 3 + 2) (by omega)
    have hlt := World.block_lt_of_cell? _ _ c0
    have hlt' : g < ((w.setCell ⟨g, j * 3, none⟩ a).setCell ⟨g, j * 3 + 1, none⟩ b).heap.size := by simpa using hlt
    refine ⟨?_, ?_, ?_⟩
    · rw [World.cell?_setCell_other _ _ _ _ (by intro h; simp only [Addr.mk.injEq] at h; omega), hb2.cell (p := ⟨g, j * 3, none⟩) hlt', World.cell?_setCell_other _ _ _ _ (by intro h; simp only [Addr.mk.injEq] at h; omega), World.cell?_setCell_same _ _ _ c0, ha]
    · rw [World.cell?_setCell_other _ _ _ _ (by intro h; simp only [Addr.mk.injEq] at h; omega), hb2.cell (p := ⟨g, j * 3 + 1, none⟩) hlt']
      have c1' : (w.setCell ⟨g, j * 3, none⟩ a).cell? ⟨g, j * 3 + 1, none⟩ = some y1 := by
        rw [World.cell?_setCell_other _ _ _ _ (by intro h; simp only [Addr.mk.injEq] at h; omega)]; exact c1
      rw [World.cell?_setCell_same _ _ _ c1', hb']
    · rw [World.cell?_setCell_same _ _ _ c2, hc]
  · exact (m2.set (i := k * 3 + 2) (by omega) c) j (by omega)

set_option maxHeartbeats 1000000 in
theorem markN_any (g n cap q : Nat) (w : World) (hn : n ≤ 1048576) (h0 : 0 < q) (hq : q ≤ 100) (h : OldN w g (n * 3)) :
    Calls Tryd.prog 9 #[.slice (some ⟨g, 0, none⟩) n cap, .int .i64 q] w fun e w' => e = .returned (.int .i64 ((q + 3 * n : Nat) : Int)) ∧ Tn g w w' ∧ MkdN w' g q n := by
  have H : Hid (OldN w g (n * 3)) := h
  clear h
  go_enter Tryd.func9, Tryd.ntmps9
  go_wp2_with fail
  go_loopw [1, 5] (fun kk i wr => ∃ k : Nat, k ≤ n ∧ i = .int .i64 k ∧ kk = .int .i64 ((q + 3 * k : Nat) : Int) ∧ Tn g w wr ∧ OldN wr g (n * 3) ∧ MkdN wr g q k) (fun _ i _ => n - (intOf i).toNat)
  case atStart => exact ⟨0, Nat.zero_le _, rfl, rfl, Tn.refl _ _, H.out, fun j hj => absurd hj (by omega)⟩
  case round =>
    obtain ⟨k, hk, rfl, rfl, hT, hO, hM⟩ := hrel
    have HO : Hid (OldN wr g (n * 3)) := hO
    have HM : Hid (MkdN wr g q k) := hM
    have HTn : Hid (Tn g w wr) := hT
    clear hO hM hT
    by_cases hlt : k < n
    · obtain ⟨z, hz⟩ : ∃ z : Nat, z = q + 3 * k := ⟨_, rfl⟩
      have HZ : Hid (z = q + 3 * k) := hz
      rw [← hz]
      have hz0 : 0 < z := by omega
      have hz1 : (z : Int) ≤ 200000000 := by omega
      clear hz
      obtain ⟨⟨y0, c0⟩, f0⟩ := HO.out (k * 3) (by omega)
      obtain ⟨⟨y1, c1⟩, f1⟩ := (HO.out.set (k * 3) (.int .i64 (z : Int))) (k * 3 + 1) (by omega)
      obtain ⟨⟨y2, c2⟩, f2⟩ := ((HO.out.set (k * 3) (.int .i64 (z : Int))).set (k * 3 + 1) (.int .i64 ((z : Int) + 1))) (k * 3 + 2) (by omega)
      go_wp2_with fail
      rw [show ((z : Int) + 1 + 1) = ((z + 2 : Nat) : Int) by omega]
      refine (mtext_any (z + 2) (by omega) (by omega) _).mono ?_
      rintro e w2 ⟨rfl, hb2⟩
      have hb3 := hb2
      simp only [World.size_setCell] at hb3
      obtain ⟨⟨y3, c3⟩, f3⟩ := (((HO.out.set (k * 3) (.int .i64 (z : Int))).set (k * 3 + 1) (.int .i64 ((z : Int) + 1))).below hb2) (k * 3 + 2) (by omega)
      have HF : Hid _ := mark3 (c := .string (mtxt (z + 2))) HO.out (show k * 3 + 3 ≤ n * 3 by omega) HM.out hb3 (by rw [HZ.out]) (by rw [HZ.out]; rfl) (by rw [HZ.out])
      have HT2 : Hid (Tn g w (w2.setCell ⟨g, k * 3 + 2, none⟩ (.string (mtxt (z + 2))))) := (((HTn.out.set (k * 3) (.int .i64 (z : Int))).set (k * 3 + 1) (.int .i64 ((z : Int) + 1))).step hb2).set _ _
      clear c0 f0 c1 f1 c2 f2 hb2 hb3
      go_wp2_with fail
      go_roundw
      case rel => exact ⟨k + 1, by omega, by go_num, by rw [HZ.out]; go_num, HT2.out, HF.out.1, HF.out.2⟩
      case measure => simp [intOf]; omega
    · obtain rfl : k = n := by omega
      go_wp2_with fail
      go_ret
      exact ⟨rfl, HTn.out, HM.out⟩

set_option maxHeartbeats 1000000 in
theorem heldN_any (g n cap q : Nat) (w : World) (hn : n ≤ 1048576) (h0 : 0 < q) (hq : q ≤ 100) (h : MkdN w g q n) :
    Calls Tryd.prog 10 #[.slice (some ⟨g, 0, none⟩) n cap, .int .i64 q] w fun e w' => e = .returned (.int .i64 ((q + 3 * n : Nat) : Int)) ∧ Below w.heap.size w w' := by
  have H : Hid (MkdN w g q n) := h
  clear h
  go_enter Tryd.func10, Tryd.ntmps10
  go_wp2_with fail
  go_loopw [1, 5] (fun kk i wr => ∃ k : Nat, k ≤ n ∧ i = .int .i64 k ∧ kk = .int .i64 ((q + 3 * k : Nat) : Int) ∧ Below w.heap.size w wr) (fun _ i _ => n - (intOf i).toNat)
  case atStart => exact ⟨0, Nat.zero_le _, rfl, rfl, Below.refl _ _⟩
  case round =>
    obtain ⟨k, hk, rfl, rfl, hB⟩ := hrel
    by_cases hlt : k < n
    · obtain ⟨c0, c1, c2⟩ := (H.out.below hB) k hlt
      obtain ⟨z, hz⟩ : ∃ z : Nat, z = q + 3 * k := ⟨_, rfl⟩
      have HZ : Hid (z = q + 3 * k) := hz
      rw [← hz] at c0 c1 c2 ⊢
      have hz0 : 0 < z := by omega
      have hz1 : (z : Int) ≤ 200000000 := by omega
      have e1 : ((z + 1 : Nat) : Int) = (z : Int) + 1 := by omega
      rw [e1] at c1
      clear hz e1
      go_wp2_with fail
      rw [show ((z : Int) + 1 + 1) = ((z + 2 : Nat) : Int) by omega]
      have hl := World.block_lt_of_cell? _ _ c2
      simp only at hl
      clear c0 c1
      have hm0 : (((z + 2 : Nat) : Nat) : Int) ≤ 1000000000 := by omega
      have hm1 : 0 < z + 2 := by omega
      go_region_held3 (fun W => W.cell? ⟨g, k * 3 + 2, none⟩ = some (.string (mtxt (z + 2)))) (go_simp)
        (first
        | (go_at_call 20; refine (mtext_any (z + 2) hm0 hm1 _).mono ?_; rintro e w2 ⟨rfl, hb2⟩; have hcc : ∀ b o, b < wr.heap.size → w2.cell? ⟨b, o, none⟩ = wr.cell? ⟨b, o, none⟩ := (bcell hb2).1))
      have hB2 := hB.trans ((((Below.refl _ _).drew).trans hb2).mono hB.size)
      go_wp2_with fail
      go_roundw
      case rel => exact ⟨k + 1, by omega, by go_num, by rw [HZ.out]; go_num, hB2⟩
      case measure => simp [intOf]; omega
    · obtain rfl : k = n := by omega
      go_wp2_with fail
      go_ret
      exact ⟨rfl, hB⟩

end Go.Proofs.YtbmcnjjhgjphmaaDoor
