import Derived.Test.YtjnnepkoeloekaaGreatDoorPY3
import Derived.OwnWalk
import Derived.Laws.MakeOwn
namespace Go.Proofs.YtjnnepkoeloekaaGreatDoor
open Go.RowKit
set_option linter.unusedVariables false
set_option linter.unusedSimpArgs false

/-- The operands of e, as a slice of slices of nodes in a block from N on; the nodes themselves lie in w0. -/
def Kids (w0 w : World) (N : Nat) (v : Value) (e : List Nd) (b : Nat → Nat) (A : Nat) : Prop :=
  ∃ a cap, v = .slice a A cap ∧ A ≤ cap ∧ cap ≤ 9223372036854775807 ∧ (0 < A → ∃ B, a = some ⟨B, 0, none⟩ ∧ N ≤ B ∧ B < w.heap.size ∧ ∀ i, i < A → ∃ vi, w.cell? ⟨B, i, none⟩ = some vi ∧ Nodes w0 vi (kid e b i))
theorem Kids.below {w0 w w' : World} {N : Nat} {v : Value} {e : List Nd} {b : Nat → Nat} {A : Nat} (h : Kids w0 w N v e b A) (hb : Below w.heap.size w w') : Kids w0 w' N v e b A := by
  obtain ⟨a, cap, rfl, hl, hm, h⟩ := h
  refine ⟨a, cap, rfl, hl, hm, fun h0 => ?_⟩
  obtain ⟨B, rfl, hN, hB, hc⟩ := h h0
  refine ⟨B, rfl, hN, Nat.lt_of_lt_of_le hB hb.size, fun i hi => ?_⟩
  obtain ⟨vi, h1, h2⟩ := hc i hi
  exact ⟨vi, (hb.cell (p := ⟨B, i, none⟩) (World.block_lt_of_cell? _ _ h1)).trans h1, h2⟩

theorem info_nodes : (Tryz.prog.info? 69).map (fun i => (i.zero, i.size, i.bytes)) = some (some (.slice none 0 0), 1, 24) := by kernel_rfl
theorem mk_parts (A : Nat) (hA : (A : Int) ≤ 6) (w : World) : (Instr.makeSlice 92 (.int .i64 (A : Int)) (.int .i64 (A : Int))).run Tryz.prog w = .ok (.slice (some ⟨w.heap.size, 0, none⟩) A A) (w.alloc (.cells (madeCells (Value.slice none 0 0).cells A) 69)) := by
  obtain ⟨i, h1, h2, h3, h4⟩ := info_parts info_nodes
  have := run_makeSlice (P := Tryz.prog) w 92 69 i (.slice none 0 0) Tryz.underlying92 h1 h2 .i64 .i64 A A (by omega) (Int.le_refl _) (by rw [h3]; omega) (by rw [h4]; omega) (by omega)
  rw [this, h3]
  simp
/-- Of the operands those from k on are written. -/
def Half (w wr : World) (G A k : Nat) (e : List Nd) (b : Nat → Nat) : Prop := G < wr.heap.size ∧ ∀ j, j < A → wr.frozen? ⟨G, j, none⟩ = false ∧ ∃ vj, wr.cell? ⟨G, j, none⟩ = some vj ∧ (k ≤ j → Nodes w vj (kid e b j))
theorem Half.below {w wr w' : World} {G A k : Nat} {e : List Nd} {b : Nat → Nat} (h : Half w wr G A k e b) (hb : Below wr.heap.size wr w') : Half w w' G A k e b := by
  obtain ⟨h0, h⟩ := h
  refine ⟨Nat.lt_of_lt_of_le h0 hb.size, fun j hj => ?_⟩
  obtain ⟨h1, vj, h2, h3⟩ := h j hj
  exact ⟨(hb.frozen (p := ⟨G, j, none⟩) h0).trans h1, vj, (hb.cell (p := ⟨G, j, none⟩) h0).trans h2, h3⟩
theorem Half.set {w wr : World} {G A k : Nat} {e : List Nd} {b : Nat → Nat} {u : Value} (h : Half w wr G A (k + 1) e b) (hk : k < A) (hu : Nodes w u (kid e b k)) : Half w (wr.setCell ⟨G, k, none⟩ u) G A k e b := by
  obtain ⟨h0, h⟩ := h
  refine ⟨by simpa using h0, fun j hj => ?_⟩
  obtain ⟨h1, vj, h2, h3⟩ := h j hj
  refine ⟨(World.frozen?_setCell _ _ _ _).trans h1, ?_⟩
  by_cases ej : j = k
  · subst ej
    exact ⟨u, World.cell?_setCell_same _ _ _ h2, fun _ => hu⟩
  · refine ⟨vj, ?_, fun h4 => h3 (by omega)⟩
    rw [World.cell?_setCell_other]
    · exact h2
    · intro h; simp only [Addr.mk.injEq] at h; omega
theorem half_made (w W : World) (A : Nat) (e : List Nd) (b : Nat → Nat) : Half w (W.alloc (.cells (madeCells (Value.slice none 0 0).cells A) 69)) W.heap.size A A e b := by
  refine ⟨by simp, fun j hj => ⟨?_, .slice none 0 0, ?_, fun h => absurd h (by omega)⟩⟩
  · simp
  · have h : (W.alloc (.cells (madeCells (Value.slice none 0 0).cells A) 69)).heap[W.heap.size]? = some (.cells (madeCells (Value.slice none 0 0).cells A) 69) := by
      show (W.heap.push _)[W.heap.size]? = _
      simp
    generalize W.alloc (.cells (madeCells (Value.slice none 0 0).cells A) 69) = W' at h
    simp [World.cell?, h, madeCells, hj, Nat.mod_one, Value.cells]

set_option maxRecDepth 20000 in
set_option maxHeartbeats 1000000 in
theorem parts_any (w0 : World) (v : Value) (e : List Nd) (A : Nat) (b : Nat → Nat) (w : World) (hT : Tab w) (hl : e.length ≤ 1048576) (hc : Nodes w0 v e) (hB0 : Below w0.heap.size w0 w) (hb : Cut e A b) :
    Calls Tryz.prog 104 #[v] w fun r w' => ∃ v', r = .returned v' ∧ Kids w0 w' w.heap.size v' e b A ∧ Below w.heap.size w w' := by
  have HN : Hid (Nodes w0 v e) := hc
  have HB0 : Hid (Below w0.heap.size w0 w) := hB0
  replace hc := hc.below hB0
  clear hB0
  obtain ⟨a, cap, rfl, hcl, hcm, hc⟩ := hc
  have hpos := hb.len
  obtain ⟨m, hm⟩ : ∃ m, e.length = m + 1 := ⟨e.length - 1, by omega⟩
  obtain ⟨bb, off, rfl, hc1⟩ := hc hpos
  obtain ⟨d0, d1, d2⟩ := hc1 m (by omega)
  have hr : e[m] = rootN e := by rw [rootN_eq e hpos]; simp [hm]
  rw [hr] at d0 d1 d2
  have hrg := kind_good hb.root_good
  have hA6 := hb.arA
  have HA : Hid (arity (rootN e) = A) := hb.ar
  have HB : Hid (Cut e A b) := hb
  have HT : Hid (Tab w) := hT
  generalize hR : rootN e = R at d0 d1 d2 hrg HA
  clear hc hc1 hb hT hr hR
  have e1 : ((m + 1 : Nat) : Int) - 1 = (m : Int) := by omega
  rw [hm] at hl hcl hpos HN ⊢
  have hA6' : (A : Int) ≤ 6 := by omega
  have HM : Hid (e.length = m + 1) := hm
  clear hm
  go_enter Tryz.func104, Tryz.ntmps104
  go_wp2_with fail
  refine (opc_any R _ HT.out hrg).mono ?_
  rintro x w1 ⟨rfl, hb1⟩
  rw [HA.out]
  clear d0 d1 d2
  have hmk := mk_parts A hA6'
  have hH := half_made w0 w1 A e b
  generalize hX : madeCells (Value.slice none 0 0).cells A = X at hmk hH
  clear hX
  have HH : Hid (Half w0 (w1.alloc (.cells X 69)) w1.heap.size A A e b) := hH
  clear hH
  have hsz := hb1.size
  go_wp2_with fail
  go_loopw [3, 5, 6] (fun en ix bg wr => ∃ (k : Nat), k ≤ A ∧ en = .int .i64 (b k) ∧ ix = .int .i64 ((k : Int) - 1) ∧ Half w0 wr w1.heap.size A k e b ∧ Below w.heap.size w wr) (fun _ ix _ _ => (intOf ix + 1).toNat)
  case atStart => exact ⟨A, Nat.le_refl _, by rw [HB.out.last, HM.out]; simp, by go_num, HH.out, hb1.alloc hsz _⟩
  case round =>
    obtain ⟨k, hk, rfl, rfl, hH, hB⟩ := hrel
    have HH1 : Hid (Half w0 wr w1.heap.size A k e b) := hH
    clear hH HH hmk
    rcases Nat.eq_zero_or_pos k with rfl | hk0
    · go_wp2_with fail
      refine bodyPost_ret (v := .slice (some ⟨w1.heap.size, 0, none⟩) A A) (by simp [results, Tryz.results104, go_sem]) rfl ⟨_, rfl, ?_, hB⟩
      refine ⟨_, A, rfl, Nat.le_refl _, by omega, fun _ => ⟨w1.heap.size, rfl, hsz, HH1.out.1, fun i hi => ?_⟩⟩
      obtain ⟨_, vj, h1, h2⟩ := HH1.out.2 i hi
      exact ⟨vj, h1, h2 (Nat.zero_le _)⟩
    · obtain ⟨i, rfl⟩ : ∃ i, k = i + 1 := ⟨k - 1, by omega⟩
      have e2 : ((i + 1 : Nat) : Int) - 1 = (i : Int) := by omega
      have hbe := (HB.out.beg i (by omega)).1
      have hble := HB.out.le' (i + 1) (by omega)
      rw [HM.out] at hble
      have HC : Hid (Calls Tryz.prog 108 #[.slice (some ⟨bb, off, none⟩) (m + 1) cap, .int .i64 (b (i + 1))] wr fun x w' => x = .returned (.int .i64 (b i)) ∧ Below wr.heap.size wr w') := begin_any _ e (b (i + 1)) (b i) wr (HT.out.below HT.out.size hB) (by rw [HM.out]; exact hl) HB.out.good (HN.out.below (HB0.out.trans (hB.mono HB0.out.size))) (by rw [HM.out]; omega) (HB.out.beg i (by omega))
      have hcut := ncut_run (some ⟨bb, off, none⟩) (m + 1) cap (b i) (b (i + 1)) (by omega) (by omega) hcl
      have HNC : Hid (Nodes w0 (.slice (if cap = b i then some ⟨bb, off, none⟩ else (some ⟨bb, off, none⟩ : Option Addr).map (·.add (b i * 3))) (b (i + 1) - b i) (cap - b i)) (kid e b i)) := Nodes.cut (by rw [HM.out]; exact HN.out) (b i) (b (i + 1)) (by omega) (by rw [HM.out]; omega)
      generalize (if cap = b i then some ⟨bb, off, none⟩ else (some ⟨bb, off, none⟩ : Option Addr).map (·.add (b i * 3))) = ua at hcut HNC
      generalize b (i + 1) - b i = un at hcut HNC
      generalize cap - b i = uc at hcut HNC
      generalize hbi : b i = bi at *
      generalize hbi1 : b (i + 1) = bi1 at *
      go_wp2_with fail
      refine HC.out.mono ?_
      rintro x w2 ⟨rfl, hb2⟩
      have HH2 : Hid (Half w0 w2 w1.heap.size A (i + 1) e b) := HH1.out.below hb2
      obtain ⟨hfz, vj, hcell, hvj⟩ := HH2.out.2 i (by omega)
      clear hvj
      have hB2 := hB.trans (hb2.mono hB.size)
      go_wp2_with fail
      go_roundw
      case rel =>
        refine ⟨i, by omega, by rw [hbi], by go_num, HH2.out.set (by omega) HNC.out, hB2.setCell hsz _⟩
      case measure => simp [intOf]

end Go.Proofs.YtjnnepkoeloekaaGreatDoor
