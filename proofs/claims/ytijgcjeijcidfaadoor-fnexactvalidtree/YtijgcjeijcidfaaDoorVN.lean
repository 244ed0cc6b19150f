import Derived.Test.YtijgcjeijcidfaaDoorVM
import Derived.Deep.RegionHeld3
namespace Go.Proofs.YtijgcjeijcidfaaDoor
open Go.RowKit
set_option linter.unusedVariables false
set_option linter.unusedSimpArgs false

theorem bcell {W w1 : World} (hb : Below W.heap.size W w1) : (∀ b o, b < W.heap.size → w1.cell? ⟨b, o, none⟩ = W.cell? ⟨b, o, none⟩) ∧ (∀ b o, b < W.heap.size → w1.frozen? ⟨b, o, none⟩ = W.frozen? ⟨b, o, none⟩) :=
  ⟨fun b o h => hb.cell (p := ⟨b, o, none⟩) h, fun b o h => hb.frozen (p := ⟨b, o, none⟩) h⟩

set_option maxHeartbeats 1000000 in
theorem eqNode_any (n : Nd) (w : World) : Calls Tryd.prog 64 #[.agg #[.int .i64 n.kind, .int .i64 n.val, .string n.name], .agg #[.int .i64 n.kind, .int .i64 n.val, .string n.name]] w fun e w' => e = .returned (.bool true) ∧ Below w.heap.size w w' := by
  obtain ⟨k, v, s⟩ := n
  simp only
  go_enter Tryd.func64, Tryd.ntmps64
  go_wp2_with fail
  go_ret
  exact ⟨rfl, ((Below.refl _ _).alloc (Nat.le_refl _) _).alloc (by simp) _⟩


set_option maxHeartbeats 2000000 in
theorem eqNodes_any (v1 v2 : Value) (ns : List Nd) (w : World) (hl : ns.length ≤ 1048576) (h1 : Nodes w v1 ns) (h2 : Nodes w v2 ns) :
    Calls Tryd.prog 61 #[v1, v2] w fun e w' => e = .returned (.bool true) ∧ Below w.heap.size w w' := by
  obtain ⟨a1, c1, rfl, -, -, hc1⟩ := h1
  obtain ⟨a2, c2, rfl, -, -, hc2⟩ := h2
  have H1 : Hid (0 < ns.length → ∃ b off, a1 = some ⟨b, off, none⟩ ∧ NodesC w b off ns) := hc1
  have H2 : Hid (0 < ns.length → ∃ b off, a2 = some ⟨b, off, none⟩ ∧ NodesC w b off ns) := hc2
  clear hc1 hc2
  go_enter Tryd.func61, Tryd.ntmps61
  go_wp2_with fail
  go_loopw [5] (fun i wr => ∃ k : Nat, k ≤ ns.length ∧ i = .int .i64 k ∧ Below w.heap.size w wr) (fun i _ => ns.length - (intOf i).toNat)
  case atStart => exact ⟨0, Nat.zero_le _, rfl, Below.refl _ _⟩
  case round =>
    obtain ⟨k, hk, rfl, hB⟩ := hrel
    by_cases hlt : k < ns.length
    · obtain ⟨b1, o1, rfl, hx1⟩ := H1.out (by omega)
      obtain ⟨b2, o2, rfl, hx2⟩ := H2.out (by omega)
      obtain ⟨d0, d1, d2⟩ := (hx1.below hB) k hlt
      obtain ⟨e0, e1, e2⟩ := (hx2.below hB) k hlt
      have l1 := World.block_lt_of_cell? _ _ d0
      have l2 := World.block_lt_of_cell? _ _ e0
      simp only at l1 l2
      clear hx1 hx2
      generalize ns[k] = n at d0 d1 d2 e0 e1 e2
      go_wp2_with fail
      go_region_held3 (fun W => W.cell? ⟨b1, o1 + k * 3, none⟩ = some (.int .i64 n.kind) ∧ W.cell? ⟨b1, o1 + k * 3 + 1, none⟩ = some (.int .i64 n.val) ∧ W.cell? ⟨b1, o1 + k * 3 + 2, none⟩ = some (.string n.name) ∧ W.cell? ⟨b2, o2 + k * 3, none⟩ = some (.int .i64 n.kind) ∧ W.cell? ⟨b2, o2 + k * 3 + 1, none⟩ = some (.int .i64 n.val) ∧ W.cell? ⟨b2, o2 + k * 3 + 2, none⟩ = some (.string n.name)) (go_simp)
        (first
        | (go_at_call 64; refine (eqNode_any n _).mono ?_; rintro e w2 ⟨rfl, hb2⟩; have hcc : ∀ b o, b < wr.heap.size → w2.cell? ⟨b, o, none⟩ = wr.cell? ⟨b, o, none⟩ := (bcell hb2).1))
      have hB2 := hB.trans ((((Below.refl _ _).drew).trans hb2).mono hB.size)
      go_wp2_with fail
      go_roundw
      case rel => exact ⟨k + 1, by omega, by go_num, hB2⟩
      case measure => simp [intOf]; omega
    · go_wp2_with fail
      go_ret
      exact ⟨rfl, hB⟩

set_option maxHeartbeats 1000000 in
theorem eqGlob_any (n : Gl) (w : World) : Calls Tryd.prog 32 #[.agg #[.string n.name, .int .i64 n.size], .agg #[.string n.name, .int .i64 n.size]] w fun e w' => e = .returned (.bool true) ∧ Below w.heap.size w w' := by
  obtain ⟨s, z⟩ := n
  simp only
  go_enter Tryd.func32, Tryd.ntmps32
  go_wp2_with fail
  go_ret
  exact ⟨rfl, ((Below.refl _ _).alloc (Nat.le_refl _) _).alloc (by simp) _⟩

set_option maxHeartbeats 2000000 in
theorem eqGlobs_any (v1 v2 : Value) (ns : List Gl) (w : World) (hl : ns.length ≤ 1048576) (h1 : Globs w v1 ns) (h2 : Globs w v2 ns) :
    Calls Tryd.prog 18 #[v1, v2] w fun e w' => e = .returned (.bool true) ∧ Below w.heap.size w w' := by
  obtain ⟨a1, c1, rfl, -, -, hc1⟩ := h1
  obtain ⟨a2, c2, rfl, -, -, hc2⟩ := h2
  have H1 : Hid (0 < ns.length → ∃ b off, a1 = some ⟨b, off, none⟩ ∧ GlobsC w b off ns) := hc1
  have H2 : Hid (0 < ns.length → ∃ b off, a2 = some ⟨b, off, none⟩ ∧ GlobsC w b off ns) := hc2
  clear hc1 hc2
  go_enter Tryd.func18, Tryd.ntmps18
  go_wp2_with fail
  go_loopw [5] (fun i wr => ∃ k : Nat, k ≤ ns.length ∧ i = .int .i64 k ∧ Below w.heap.size w wr) (fun i _ => ns.length - (intOf i).toNat)
  case atStart => exact ⟨0, Nat.zero_le _, rfl, Below.refl _ _⟩
  case round =>
    obtain ⟨k, hk, rfl, hB⟩ := hrel
    by_cases hlt : k < ns.length
    · obtain ⟨b1, o1, rfl, hx1⟩ := H1.out (by omega)
      obtain ⟨b2, o2, rfl, hx2⟩ := H2.out (by omega)
      obtain ⟨d0, d1⟩ := (hx1.below hB) k hlt
      obtain ⟨e0, e1⟩ := (hx2.below hB) k hlt
      have l1 := World.block_lt_of_cell? _ _ d0
      have l2 := World.block_lt_of_cell? _ _ e0
      simp only at l1 l2
      clear hx1 hx2
      generalize ns[k] = n at d0 d1 e0 e1
      go_wp2_with fail
      go_region_held3 (fun W => W.cell? ⟨b1, o1 + k * 2, none⟩ = some (.string n.name) ∧ W.cell? ⟨b1, o1 + k * 2 + 1, none⟩ = some (.int .i64 n.size) ∧ W.cell? ⟨b2, o2 + k * 2, none⟩ = some (.string n.name) ∧ W.cell? ⟨b2, o2 + k * 2 + 1, none⟩ = some (.int .i64 n.size)) (go_simp)
        (first
        | (go_at_call 32; refine (eqGlob_any n _).mono ?_; rintro e w2 ⟨rfl, hb2⟩; have hcc : ∀ b o, b < wr.heap.size → w2.cell? ⟨b, o, none⟩ = wr.cell? ⟨b, o, none⟩ := (bcell hb2).1))
      have hB2 := hB.trans ((((Below.refl _ _).drew).trans hb2).mono hB.size)
      go_wp2_with fail
      go_roundw
      case rel => exact ⟨k + 1, by omega, by go_num, hB2⟩
      case measure => simp [intOf]; omega
    · go_wp2_with fail
      go_ret
      exact ⟨rfl, hB⟩

set_option maxHeartbeats 1000000 in
theorem eqStrs_any (v1 v2 : Value) (ns : List ByteArray) (w : World) (hl : ns.length ≤ 1048576) (h1 : Strs w v1 ns) (h2 : Strs w v2 ns) :
    Calls Tryd.prog 44 #[v1, v2] w fun e w' => e = .returned (.bool true) ∧ Below w.heap.size w w' := by
  obtain ⟨a1, c1, rfl, -, -, hc1⟩ := h1
  obtain ⟨a2, c2, rfl, -, -, hc2⟩ := h2
  have H1 : Hid (0 < ns.length → ∃ b off, a1 = some ⟨b, off, none⟩ ∧ StrsC w b off ns) := hc1
  have H2 : Hid (0 < ns.length → ∃ b off, a2 = some ⟨b, off, none⟩ ∧ StrsC w b off ns) := hc2
  clear hc1 hc2
  go_enter Tryd.func44, Tryd.ntmps44
  go_wp2_with fail
  go_loopw [5] (fun i wr => ∃ k : Nat, k ≤ ns.length ∧ i = .int .i64 k ∧ Below w.heap.size w wr) (fun i _ => ns.length - (intOf i).toNat)
  case atStart => exact ⟨0, Nat.zero_le _, rfl, Below.refl _ _⟩
  case round =>
    obtain ⟨k, hk, rfl, hB⟩ := hrel
    by_cases hlt : k < ns.length
    · obtain ⟨b1, o1, rfl, hx1⟩ := H1.out (by omega)
      obtain ⟨b2, o2, rfl, hx2⟩ := H2.out (by omega)
      have d0 := (hx1.below hB) k hlt
      have e0 := (hx2.below hB) k hlt
      clear hx1 hx2
      generalize ns[k] = n at d0 e0
      go_wp2_with fail
      go_quiet (fail)
      go_wp2_with fail
      go_roundw
      case rel => exact ⟨k + 1, by omega, by go_num, below_drewN hB _⟩
      case measure => simp [intOf]; omega
    · go_wp2_with fail
      go_ret
      exact ⟨rfl, hB⟩

set_option maxRecDepth 8000 in
theorem box66 {w w' : World} {t u : TypeId} {a0 a1 a2 a3 a4 a5 b0 b1 b2 b3 b4 b5 : Value} (h : Below (w.heap.size + 1 + 1) ((w.alloc (.cells #[a0, a1, a2, a3, a4, a5] t)).alloc (.cells #[b0, b1, b2, b3, b4, b5] u)) w') :
    (w'.cell? ⟨w.heap.size, 0, none⟩ = some a0 ∧ w'.cell? ⟨w.heap.size, 1, none⟩ = some a1 ∧ w'.cell? ⟨w.heap.size, 2, none⟩ = some a2 ∧ w'.cell? ⟨w.heap.size, 3, none⟩ = some a3 ∧ w'.cell? ⟨w.heap.size, 4, none⟩ = some a4 ∧ w'.cell? ⟨w.heap.size, 5, none⟩ = some a5) ∧
    (w'.cell? ⟨w.heap.size + 1, 0, none⟩ = some b0 ∧ w'.cell? ⟨w.heap.size + 1, 1, none⟩ = some b1 ∧ w'.cell? ⟨w.heap.size + 1, 2, none⟩ = some b2 ∧ w'.cell? ⟨w.heap.size + 1, 3, none⟩ = some b3 ∧ w'.cell? ⟨w.heap.size + 1, 4, none⟩ = some b4 ∧ w'.cell? ⟨w.heap.size + 1, 5, none⟩ = some b5) := by
  refine ⟨⟨?_, ?_, ?_, ?_, ?_, ?_⟩, ⟨?_, ?_, ?_, ?_, ?_, ?_⟩⟩
  all_goals (rw [h.cell (by first | (simp; done) | (simp; omega))]; go_simp; done)
set_option maxRecDepth 8000 in
theorem box33 {w w' : World} {t u : TypeId} {a0 a1 a2 b0 b1 b2 : Value} (h : Below (w.heap.size + 1 + 1) ((w.alloc (.cells #[a0, a1, a2] t)).alloc (.cells #[b0, b1, b2] u)) w') :
    (w'.cell? ⟨w.heap.size, 0, none⟩ = some a0 ∧ w'.cell? ⟨w.heap.size, 1, none⟩ = some a1 ∧ w'.cell? ⟨w.heap.size, 2, none⟩ = some a2) ∧
    (w'.cell? ⟨w.heap.size + 1, 0, none⟩ = some b0 ∧ w'.cell? ⟨w.heap.size + 1, 1, none⟩ = some b1 ∧ w'.cell? ⟨w.heap.size + 1, 2, none⟩ = some b2) := by
  refine ⟨⟨?_, ?_, ?_⟩, ⟨?_, ?_, ?_⟩⟩
  all_goals (rw [h.cell (by first | (simp; done) | (simp; omega))]; go_simp; done)
set_option maxRecDepth 8000 in
theorem box22 {w w' : World} {t u : TypeId} {a0 a1 b0 b1 : Value} (h : Below (w.heap.size + 1 + 1) ((w.alloc (.cells #[a0, a1] t)).alloc (.cells #[b0, b1] u)) w') :
    (w'.cell? ⟨w.heap.size, 0, none⟩ = some a0 ∧ w'.cell? ⟨w.heap.size, 1, none⟩ = some a1) ∧
    (w'.cell? ⟨w.heap.size + 1, 0, none⟩ = some b0 ∧ w'.cell? ⟨w.heap.size + 1, 1, none⟩ = some b1) := by
  refine ⟨⟨?_, ?_⟩, ⟨?_, ?_⟩⟩
  all_goals (rw [h.cell (by first | (simp; done) | (simp; omega))]; go_simp; done)

set_option maxHeartbeats 1000000 in
theorem eqStmt_any (s : St) (x1 y1 x2 y2 : Value) (w : World) (hs : smallS s) (h1 : Nodes w x1 s.e) (h2 : Nodes w y1 s.f) (h3 : Nodes w x2 s.e) (h4 : Nodes w y2 s.f) :
    Calls Tryd.prog 56 #[.agg #[.int .i64 s.kind, .string s.name, x1, y1, .int .i64 s.thn, .int .i64 s.els], .agg #[.int .i64 s.kind, .string s.name, x2, y2, .int .i64 s.thn, .int .i64 s.els]] w fun e w' => e = .returned (.bool true) ∧ Below w.heap.size w w' := by
  obtain ⟨k, n, es, fs, t, l⟩ := s
  have hse : es.length ≤ 1048576 := hs.1
  have hsf : fs.length ≤ 1048576 := hs.2
  simp only at h1 h2 h3 h4 ⊢
  have H1 : Hid (Nodes w x1 es) := h1
  have H2 : Hid (Nodes w y1 fs) := h2
  have H3 : Hid (Nodes w x2 es) := h3
  have H4 : Hid (Nodes w y2 fs) := h4
  obtain ⟨p1, q1, rfl, -, -, -⟩ := h1
  obtain ⟨p2, q2, rfl, -, -, -⟩ := h2
  obtain ⟨p3, q3, rfl, -, -, -⟩ := h3
  obtain ⟨p4, q4, rfl, -, -, -⟩ := h4
  clear hs
  go_enter Tryd.func56, Tryd.ntmps56
  go_wp2_with fail
  have hA : Below w.heap.size w ((w.alloc (.cells #[.int .i64 k, .string n, .slice p1 es.length q1, .slice p2 fs.length q2, .int .i64 t, .int .i64 l] 60)).alloc (.cells #[.int .i64 k, .string n, .slice p3 es.length q3, .slice p4 fs.length q4, .int .i64 t, .int .i64 l] 60)) := ((Below.refl _ _).alloc (Nat.le_refl _) _).alloc (by simp) _
  refine (eqNodes_any _ _ es _ hse (H1.out.below hA) (H3.out.below hA)).mono ?_
  rintro e w1 ⟨rfl, hb1⟩
  simp only [World.size_alloc] at hb1
  obtain ⟨⟨a0, a1, a2, a3, a4, a5⟩, b0, b1, b2, b3, b4, b5⟩ := box66 hb1
  have hB1 := two_below hb1
  go_wp2_with fail
  refine (eqNodes_any _ _ fs _ hsf (H2.out.below hB1) (H4.out.below hB1)).mono ?_
  rintro e w2 ⟨rfl, hb2⟩
  have hb2' := hb1.trans (hb2.mono (by have := hb1.size; simp at this; omega))
  have hB2 := two_below hb2'
  clear a0 a1 a2 a3 a4 a5 b0 b1 b2 b3 b4 b5
  obtain ⟨⟨a0, a1, a2, a3, a4, a5⟩, b0, b1, b2, b3, b4, b5⟩ := box66 hb2'
  clear hb1 hA
  go_wp2_with fail
  go_ret
  exact ⟨rfl, hB2⟩

end Go.Proofs.YtijgcjeijcidfaaDoor
