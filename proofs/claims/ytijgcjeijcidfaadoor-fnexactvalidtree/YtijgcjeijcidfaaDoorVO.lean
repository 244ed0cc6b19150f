import Derived.Test.YtijgcjeijcidfaaDoorVN
namespace Go.Proofs.YtijgcjeijcidfaaDoor
open Go.RowKit
set_option linter.unusedVariables false
set_option linter.unusedSimpArgs false

set_option maxHeartbeats 2000000 in
theorem eqStmts_any (v1 v2 : Value) (ns : List St) (w : World) (hl : ns.length ≤ 1048576) (hsm : ∀ s ∈ ns, smallS s) (h1 : Stmts w v1 ns) (h2 : Stmts w v2 ns) :
    Calls Tryd.prog 45 #[v1, v2] w fun e w' => e = .returned (.bool true) ∧ Below w.heap.size w w' := by
  obtain ⟨a1, c1, rfl, -, -, hc1⟩ := h1
  obtain ⟨a2, c2, rfl, -, -, hc2⟩ := h2
  have H1 : Hid (0 < ns.length → ∃ b off, a1 = some ⟨b, off, none⟩ ∧ StmtsC w b off ns) := hc1
  have H2 : Hid (0 < ns.length → ∃ b off, a2 = some ⟨b, off, none⟩ ∧ StmtsC w b off ns) := hc2
  clear hc1 hc2
  have HSM : Hid (∀ s ∈ ns, smallS s) := hsm
  clear hsm
  go_enter Tryd.func45, Tryd.ntmps45
  go_wp2_with fail
  go_loopw [5] (fun i wr => ∃ k : Nat, k ≤ ns.length ∧ i = .int .i64 k ∧ Below w.heap.size w wr) (fun i _ => ns.length - (intOf i).toNat)
  case atStart => exact ⟨0, Nat.zero_le _, rfl, Below.refl _ _⟩
  case round =>
    obtain ⟨k, hk, rfl, hB⟩ := hrel
    by_cases hlt : k < ns.length
    · obtain ⟨b1, o1, rfl, hx1⟩ := H1.out (by omega)
      obtain ⟨b2, o2, rfl, hx2⟩ := H2.out (by omega)
      obtain ⟨x1, y1, ⟨d0, d1, d2, d3, d4, d5⟩, g1, g2⟩ := (hx1.below hB) k hlt
      obtain ⟨x2, y2, ⟨e0, e1, e2, e3, e4, e5⟩, g3, g4⟩ := (hx2.below hB) k hlt
      have l1 := World.block_lt_of_cell? _ _ d0
      have l2 := World.block_lt_of_cell? _ _ e0
      simp only at l1 l2
      have HS1 : Hid (smallS ns[k]) := HSM.out ns[k] (List.getElem_mem hlt)
      clear hx1 hx2
      generalize ns[k] = n at d0 d1 d2 d3 d4 d5 e0 e1 e2 e3 e4 e5 g1 g2 g3 g4 HS1
      have HA : Hid (Nodes wr x1 n.e) := g1
      have HB : Hid (Nodes wr y1 n.f) := g2
      have HC : Hid (Nodes wr x2 n.e) := g3
      have HD : Hid (Nodes wr y2 n.f) := g4
      obtain ⟨p1, q1, rfl, -, -, -⟩ := g1
      obtain ⟨p2, q2, rfl, -, -, -⟩ := g2
      obtain ⟨p3, q3, rfl, -, -, -⟩ := g3
      obtain ⟨p4, q4, rfl, -, -, -⟩ := g4
      have hdr : Below wr.heap.size wr wr.drew := (Below.refl _ _).drew
      go_wp2_with fail
      go_region_held3 (fun W => W.cell? ⟨b1, o1 + k * 6, none⟩ = some (.int .i64 n.kind) ∧ W.cell? ⟨b1, o1 + k * 6 + 1, none⟩ = some (.string n.name) ∧ W.cell? ⟨b1, o1 + k * 6 + 2, none⟩ = some (.slice p1 n.e.length q1) ∧ W.cell? ⟨b1, o1 + k * 6 + 3, none⟩ = some (.slice p2 n.f.length q2) ∧ W.cell? ⟨b1, o1 + k * 6 + 4, none⟩ = some (.int .i64 n.thn) ∧ W.cell? ⟨b1, o1 + k * 6 + 5, none⟩ = some (.int .i64 n.els) ∧ W.cell? ⟨b2, o2 + k * 6, none⟩ = some (.int .i64 n.kind) ∧ W.cell? ⟨b2, o2 + k * 6 + 1, none⟩ = some (.string n.name) ∧ W.cell? ⟨b2, o2 + k * 6 + 2, none⟩ = some (.slice p3 n.e.length q3) ∧ W.cell? ⟨b2, o2 + k * 6 + 3, none⟩ = some (.slice p4 n.f.length q4) ∧ W.cell? ⟨b2, o2 + k * 6 + 4, none⟩ = some (.int .i64 n.thn) ∧ W.cell? ⟨b2, o2 + k * 6 + 5, none⟩ = some (.int .i64 n.els)) (go_simp)
        (first
        | (go_at_call 56; refine (eqStmt_any n _ _ _ _ _ HS1.out (HA.out.below hdr) (HB.out.below hdr) (HC.out.below hdr) (HD.out.below hdr)).mono ?_; rintro e w2 ⟨rfl, hb2⟩; have hcc : ∀ b o, b < wr.heap.size → w2.cell? ⟨b, o, none⟩ = wr.cell? ⟨b, o, none⟩ := (bcell hb2).1))
      have hB2 := hB.trans ((((Below.refl _ _).drew).trans hb2).mono hB.size)
      go_wp2_with fail
      go_roundw
      case rel => exact ⟨k + 1, by omega, by go_num, hB2⟩
      case measure => simp [intOf]; omega
    · go_wp2_with fail
      go_ret
      exact ⟨rfl, hB⟩

set_option maxHeartbeats 1000000 in
theorem eqFunc_any (s : Fu) (x1 y1 x2 y2 : Value) (w : World) (hs : smallF s) (h1 : Strs w x1 s.params) (h2 : Stmts w y1 s.body) (h3 : Strs w x2 s.params) (h4 : Stmts w y2 s.body) :
    Calls Tryd.prog 33 #[.agg #[.string s.name, x1, y1], .agg #[.string s.name, x2, y2]] w fun e w' => e = .returned (.bool true) ∧ Below w.heap.size w w' := by
  obtain ⟨n, es, fs⟩ := s
  have hse : es.length ≤ 1048576 := hs.1
  have hsf : fs.length ≤ 1048576 := hs.2.1
  have HSM : Hid (∀ s ∈ fs, smallS s) := hs.2.2
  simp only at h1 h2 h3 h4 ⊢
  have H1 : Hid (Strs w x1 es) := h1
  have H2 : Hid (Stmts w y1 fs) := h2
  have H3 : Hid (Strs w x2 es) := h3
  have H4 : Hid (Stmts w y2 fs) := h4
  obtain ⟨p1, q1, rfl, -, -, -⟩ := h1
  obtain ⟨p2, q2, rfl, -, -, -⟩ := h2
  obtain ⟨p3, q3, rfl, -, -, -⟩ := h3
  obtain ⟨p4, q4, rfl, -, -, -⟩ := h4
  clear hs
  go_enter Tryd.func33, Tryd.ntmps33
  go_wp2_with fail
  have hA : Below w.heap.size w ((w.alloc (.cells #[.string n, .slice p1 es.length q1, .slice p2 fs.length q2] 45)).alloc (.cells #[.string n, .slice p3 es.length q3, .slice p4 fs.length q4] 45)) := ((Below.refl _ _).alloc (Nat.le_refl _) _).alloc (by simp) _
  refine (eqStrs_any _ _ es _ hse (H1.out.below hA) (H3.out.below hA)).mono ?_
  rintro e w1 ⟨rfl, hb1⟩
  simp only [World.size_alloc] at hb1
  obtain ⟨⟨a0, a1, a2⟩, b0, b1, b2⟩ := box33 hb1
  have hB1 := two_below hb1
  go_wp2_with fail
  refine (eqStmts_any _ _ fs _ hsf HSM.out (H2.out.below hB1) (H4.out.below hB1)).mono ?_
  rintro e w2 ⟨rfl, hb2⟩
  have hB2 := hB1.trans (hb2.mono hB1.size)
  clear a0 a1 a2 b0 b1 b2 hb1 hA
  go_wp2_with fail
  go_ret
  exact ⟨rfl, hB2⟩

set_option maxHeartbeats 2000000 in
theorem eqFuncs_any (v1 v2 : Value) (ns : List Fu) (w : World) (hl : ns.length ≤ 1048576) (hsm : ∀ s ∈ ns, smallF s) (h1 : Funcs w v1 ns) (h2 : Funcs w v2 ns) :
    Calls Tryd.prog 19 #[v1, v2] w fun e w' => e = .returned (.bool true) ∧ Below w.heap.size w w' := by
  obtain ⟨a1, c1, rfl, -, -, hc1⟩ := h1
  obtain ⟨a2, c2, rfl, -, -, hc2⟩ := h2
  have H1 : Hid (0 < ns.length → ∃ b off, a1 = some ⟨b, off, none⟩ ∧ FuncsC w b off ns) := hc1
  have H2 : Hid (0 < ns.length → ∃ b off, a2 = some ⟨b, off, none⟩ ∧ FuncsC w b off ns) := hc2
  clear hc1 hc2
  have HSM : Hid (∀ s ∈ ns, smallF s) := hsm
  clear hsm
  go_enter Tryd.func19, Tryd.ntmps19
  go_wp2_with fail
  go_loopw [5] (fun i wr => ∃ k : Nat, k ≤ ns.length ∧ i = .int .i64 k ∧ Below w.heap.size w wr) (fun i _ => ns.length - (intOf i).toNat)
  case atStart => exact ⟨0, Nat.zero_le _, rfl, Below.refl _ _⟩
  case round =>
    obtain ⟨k, hk, rfl, hB⟩ := hrel
    by_cases hlt : k < ns.length
    · obtain ⟨b1, o1, rfl, hx1⟩ := H1.out (by omega)
      obtain ⟨b2, o2, rfl, hx2⟩ := H2.out (by omega)
      obtain ⟨x1, y1, ⟨d0, d1, d2⟩, g1, g2⟩ := (hx1.below hB) k hlt
      obtain ⟨x2, y2, ⟨e0, e1, e2⟩, g3, g4⟩ := (hx2.below hB) k hlt
      have l1 := World.block_lt_of_cell? _ _ d0
      have l2 := World.block_lt_of_cell? _ _ e0
      simp only at l1 l2
      have HS1 : Hid (smallF ns[k]) := HSM.out ns[k] (List.getElem_mem hlt)
      clear hx1 hx2
      generalize ns[k] = n at d0 d1 d2 e0 e1 e2 g1 g2 g3 g4 HS1
      have HA : Hid (Strs wr x1 n.params) := g1
      have HB : Hid (Stmts wr y1 n.body) := g2
      have HC : Hid (Strs wr x2 n.params) := g3
      have HD : Hid (Stmts wr y2 n.body) := g4
      obtain ⟨p1, q1, rfl, -, -, -⟩ := g1
      obtain ⟨p2, q2, rfl, -, -, -⟩ := g2
      obtain ⟨p3, q3, rfl, -, -, -⟩ := g3
      obtain ⟨p4, q4, rfl, -, -, -⟩ := g4
      have hdr : Below wr.heap.size wr wr.drew := (Below.refl _ _).drew
      go_wp2_with fail
      go_region_held3 (fun W => W.cell? ⟨b1, o1 + k * 3, none⟩ = some (.string n.name) ∧ W.cell? ⟨b1, o1 + k * 3 + 1, none⟩ = some (.slice p1 n.params.length q1) ∧ W.cell? ⟨b1, o1 + k * 3 + 2, none⟩ = some (.slice p2 n.body.length q2) ∧ W.cell? ⟨b2, o2 + k * 3, none⟩ = some (.string n.name) ∧ W.cell? ⟨b2, o2 + k * 3 + 1, none⟩ = some (.slice p3 n.params.length q3) ∧ W.cell? ⟨b2, o2 + k * 3 + 2, none⟩ = some (.slice p4 n.body.length q4)) (go_simp)
        (first
        | (go_at_call 33; refine (eqFunc_any n _ _ _ _ _ HS1.out (HA.out.below hdr) (HB.out.below hdr) (HC.out.below hdr) (HD.out.below hdr)).mono ?_; rintro e w2 ⟨rfl, hb2⟩; have hcc : ∀ b o, b < wr.heap.size → w2.cell? ⟨b, o, none⟩ = wr.cell? ⟨b, o, none⟩ := (bcell hb2).1))
      have hB2 := hB.trans ((((Below.refl _ _).drew).trans hb2).mono hB.size)
      go_wp2_with fail
      go_roundw
      case rel => exact ⟨k + 1, by omega, by go_num, hB2⟩
      case measure => simp [intOf]; omega
    · go_wp2_with fail
      go_ret
      exact ⟨rfl, hB⟩

set_option maxHeartbeats 1000000 in
theorem eqTree_any (t : Tr) (x1 y1 x2 y2 : Value) (w : World) (hs : smallT t) (h1 : Globs w x1 t.globals) (h2 : Funcs w y1 t.funcs) (h3 : Globs w x2 t.globals) (h4 : Funcs w y2 t.funcs) :
    Calls Tryd.prog 8 #[.agg #[x1, y1], .agg #[x2, y2]] w fun e w' => e = .returned (.bool true) ∧ Below w.heap.size w w' := by
  obtain ⟨es, fs⟩ := t
  have hse : es.length ≤ 1048576 := hs.1
  have hsf : fs.length ≤ 1048576 := hs.2.1
  have HSM : Hid (∀ s ∈ fs, smallF s) := hs.2.2
  simp only at h1 h2 h3 h4 ⊢
  have H1 : Hid (Globs w x1 es) := h1
  have H2 : Hid (Funcs w y1 fs) := h2
  have H3 : Hid (Globs w x2 es) := h3
  have H4 : Hid (Funcs w y2 fs) := h4
  obtain ⟨p1, q1, rfl, -, -, -⟩ := h1
  obtain ⟨p2, q2, rfl, -, -, -⟩ := h2
  obtain ⟨p3, q3, rfl, -, -, -⟩ := h3
  obtain ⟨p4, q4, rfl, -, -, -⟩ := h4
  clear hs
  go_enter Tryd.func8, Tryd.ntmps8
  go_wp2_with fail
  have hA : Below w.heap.size w ((w.alloc (.cells #[.slice p1 es.length q1, .slice p2 fs.length q2] 31)).alloc (.cells #[.slice p3 es.length q3, .slice p4 fs.length q4] 31)) := ((Below.refl _ _).alloc (Nat.le_refl _) _).alloc (by simp) _
  refine (eqGlobs_any _ _ es _ hse (H1.out.below hA) (H3.out.below hA)).mono ?_
  rintro e w1 ⟨rfl, hb1⟩
  simp only [World.size_alloc] at hb1
  obtain ⟨⟨a0, a1⟩, b0, b1⟩ := box22 hb1
  have hB1 := two_below hb1
  go_wp2_with fail
  refine (eqFuncs_any _ _ fs _ hsf HSM.out (H2.out.below hB1) (H4.out.below hB1)).mono ?_
  rintro e w2 ⟨rfl, hb2⟩
  have hB2 := hB1.trans (hb2.mono hB1.size)
  clear a0 a1 b0 b1 hb1 hA
  go_wp2_with fail
  go_ret
  exact ⟨rfl, hB2⟩

end Go.Proofs.YtijgcjeijcidfaaDoor
