import Derived.Deep.RegionHeld3
import Derived.Deep.RegionWith
import Derived.Test.YtlamjfhhefcohaaGreatDoorM19
namespace Go.Proofs.YtlamjfhhefcohaaGreatDoor
set_option linter.unusedVariables false
set_option linter.unusedSimpArgs false
set_option maxRecDepth 100000
set_option maxHeartbeats 16000000
section
open Go.RowKit
def strTab : List Int := [10, 10, 10, 9, 9, 8, 8, 7, 7, 7, 7, 6, 6, 5, 4, 3]
def opTab : List (List UInt8) := [[42], [47], [37], [43], [45], [60, 60], [62, 62], [60], [60, 61], [62], [62, 61], [61, 61], [33, 61], [38], [94], [124]]
def strN (n : Nd) : Int := if n.kind = 9 then 1 else if n.kind = 8 then 2 else if n.kind = 7 then strTab.getD n.val.toNat 0 else 11
theorem val7 {n : Nd} (h : nodeB n = true) (h7 : n.kind = 7) : 0 ≤ n.val ∧ n.val ≤ 15 := by
 unfold nodeB at h
 simp [h7] at h
 omega
set_option maxHeartbeats 1000000 in
theorem str_any (n : Nd) (hn : nodeB n = true) (w : World) : Calls Tryz.prog 115 #[.agg #[.int .i64 n.kind, .int .i64 n.val, .string n.name]] w fun e w' => e = .returned (.int .i64 (strN n)) ∧ Below w.heap.size w w' := by
 have H7 : Hid (n.kind = 7 → 0 ≤ n.val ∧ n.val ≤ 15) := val7 hn
 clear hn
 obtain ⟨k, v, s⟩ := n
 show Calls Tryz.prog 115 #[.agg #[.int .i64 k, .int .i64 v, .string s]] w _
 by_cases h9 : k = 9
 ·subst h9
  go_enter Tryz.func115, Tryz.ntmps115
  go_wp2_with fail
  go_ret
  exact ⟨ret_int (by simp [strN]), (Below.refl _ _).alloc (Nat.le_refl _) _⟩
 ·by_cases h8 : k = 8
  ·subst h8
   go_enter Tryz.func115, Tryz.ntmps115
   go_wp2_with fail
   go_ret
   exact ⟨ret_int (by simp [strN]), (Below.refl _ _).alloc (Nat.le_refl _) _⟩
  ·by_cases h7 : k = 7
   ·subst h7
    obtain ⟨a, b⟩ := H7.out rfl
    simp only at a b
    obtain ⟨m, rfl⟩ : ∃ m : Nat, v = m := ⟨v.toNat, by omega⟩
    have hm : m ≤ 15 := by omega
    have HS : Hid (strN ⟨7, m, s⟩ = strTab.getD m 0) := by show _ = _; simp [strN]
    have hc : [Value.int IntKind.i64 10, Value.int IntKind.i64 10, Value.int IntKind.i64 10, Value.int IntKind.i64 9, Value.int IntKind.i64 9, Value.int IntKind.i64 8, Value.int IntKind.i64 8, Value.int IntKind.i64 7, Value.int IntKind.i64 7, Value.int IntKind.i64 7, Value.int IntKind.i64 7, Value.int IntKind.i64 6, Value.int IntKind.i64 6, Value.int IntKind.i64 5, Value.int IntKind.i64 4, Value.int IntKind.i64 3][m]? = some (.int .i64 (strTab.getD m 0)) := by
     have : m = 0 ∨ m = 1 ∨ m = 2 ∨ m = 3 ∨ m = 4 ∨ m = 5 ∨ m = 6 ∨ m = 7 ∨ m = 8 ∨ m = 9 ∨ m = 10 ∨ m = 11 ∨ m = 12 ∨ m = 13 ∨ m = 14 ∨ m = 15 := by omega
     rcases this with rfl | rfl | rfl | rfl | rfl | rfl | rfl | rfl | rfl | rfl | rfl | rfl | rfl | rfl | rfl | rfl <;> simp [strTab]
    clear H7 a b
    go_enter Tryz.func115, Tryz.ntmps115
    go_wp2_with fail
    go_ret
    exact ⟨ret_int HS.out.symm, ((Below.refl _ _).alloc (Nat.le_refl _) _).alloc (by simp) _⟩
   ·clear H7
    go_enter Tryz.func115, Tryz.ntmps115
    go_wp2_with fail
    go_ret
    exact ⟨ret_int (by simp [strN, h7, h8, h9]), (Below.refl _ _).alloc (Nat.le_refl _) _⟩
set_option maxHeartbeats 1000000 in
theorem ops_any (w : World) : Calls Tryz.prog 151 #[] w fun e w' => e = .returned (.slice (some ⟨w.heap.size, 0, none⟩) 16 16) ∧ Below w.heap.size w w' ∧ w.heap.size < w'.heap.size ∧ ∀ m, m < 16 → w'.cell? ⟨w.heap.size, m, none⟩ = some (.string (tx (opTab.getD m []))) := by
 go_enter Tryz.func151, Tryz.ntmps151
 go_wp2_with fail
 go_ret
 refine ⟨rfl, (Below.refl _ _).alloc (Nat.le_refl _) _, by simp, fun m hm => ?_⟩
 have : m = 0 ∨ m = 1 ∨ m = 2 ∨ m = 3 ∨ m = 4 ∨ m = 5 ∨ m = 6 ∨ m = 7 ∨ m = 8 ∨ m = 9 ∨ m = 10 ∨ m = 11 ∨ m = 12 ∨ m = 13 ∨ m = 14 ∨ m = 15 := by omega
 rcases this with rfl | rfl | rfl | rfl | rfl | rfl | rfl | rfl | rfl | rfl | rfl | rfl | rfl | rfl | rfl | rfl <;> simp [opTab, tx]
end
section
open Go.RowKit
theorem bcell {W w1 : World} (hb : Below W.heap.size W w1) : (∀ b o, b < W.heap.size → w1.cell? ⟨b, o, none⟩ = W.cell? ⟨b, o, none⟩) ∧ (∀ b o, b < W.heap.size → w1.frozen? ⟨b, o, none⟩ = W.frozen? ⟨b, o, none⟩) :=
 ⟨fun b o h => hb.cell (p := ⟨b, o, none⟩) h, fun b o h => hb.frozen (p := ⟨b, o, none⟩) h⟩
set_option maxHeartbeats 1000000 in
theorem eqNode_any (n : Nd) (w : World) : Calls Tryz.prog 196 #[.agg #[.int .i64 n.kind, .int .i64 n.val, .string n.name], .agg #[.int .i64 n.kind, .int .i64 n.val, .string n.name]] w fun e w' => e = .returned (.bool true) ∧ Below w.heap.size w w' := by
 obtain ⟨k, v, s⟩ := n
 simp only
 go_enter Tryz.func196, Tryz.ntmps196
 go_wp2_with fail
 go_ret
 exact ⟨rfl, ((Below.refl _ _).alloc (Nat.le_refl _) _).alloc (by simp) _⟩
set_option maxHeartbeats 2000000 in
theorem eqNodes_any (v1 v2 : Value) (ns : List Nd) (w : World) (hl : ns.length ≤ 1048576) (h1 : Nodes w v1 ns) (h2 : Nodes w v2 ns) :
  Calls Tryz.prog 181 #[v1, v2] w fun e w' => e = .returned (.bool true) ∧ Below w.heap.size w w' := by
 obtain ⟨a1, c1, rfl, -, -, hc1⟩ := h1
 obtain ⟨a2, c2, rfl, -, -, hc2⟩ := h2
 have H1 : Hid (0 < ns.length → ∃ b off, a1 = some ⟨b, off, none⟩ ∧ NodesC w b off ns) := hc1
 have H2 : Hid (0 < ns.length → ∃ b off, a2 = some ⟨b, off, none⟩ ∧ NodesC w b off ns) := hc2
 clear hc1 hc2
 go_enter Tryz.func181, Tryz.ntmps181
 go_wp2_with fail
 go_loopw [5] (fun i wr => ∃ k : Nat, k ≤ ns.length ∧ i = .int .i64 k ∧ Below w.heap.size w wr) (fun i _ => ns.length - (RowKit.intOf i).toNat)
 case atStart => exact ⟨0, Nat.zero_le _, rfl, Below.refl _ _⟩
 case round =>
  obtain ⟨k, hk, rfl, hB⟩ := hrel
  by_cases hlt : k < ns.length
  ·obtain ⟨b1, o1, rfl, hx1⟩ := H1.out (by omega)
   obtain ⟨b2, o2, rfl, hx2⟩ := H2.out (by omega)
   obtain ⟨d0, d1, d2⟩ := (hx1.below hB) k hlt
   obtain ⟨e0, e1, e2⟩ := (hx2.below hB) k hlt
   have l1 := World.block_lt_of_cell? _ _ d0
   have l2 := World.block_lt_of_cell? _ _ e0
   simp only at l1 l2
   clear hx1 hx2
   generalize ns[k] = n at d0 d1 d2 e0 e1 e2
   go_wp2_with fail
   go_region_held3 (fun W => W.cell? ⟨b1, o1 + k * 3, none⟩ = some (.int .i64 n.kind) ∧ W.cell? ⟨b1, o1 + k * 3 + 1, none⟩ = some (.int .i64 n.val) ∧ W.cell? ⟨b1, o1 + k * 3 + 2, none⟩ = some (.string n.name) ∧ W.cell? ⟨b2, o2 + k * 3, none⟩ = some (.int .i64 n.kind) ∧ W.cell? ⟨b2, o2 + k * 3 + 1, none⟩ = some (.int .i64 n.val) ∧ W.cell? ⟨b2, o2 + k * 3 + 2, none⟩ = some (.string n.name)) (go_simp)
    (first
    | (go_at_call 196; refine (eqNode_any n _).mono ?_; rintro e w2 ⟨rfl, hb2⟩; have hcc : ∀ b o, b < wr.heap.size → w2.cell? ⟨b, o, none⟩ = wr.cell? ⟨b, o, none⟩ := (bcell hb2).1))
   have hB2 := hB.trans ((((Below.refl _ _).drew).trans hb2).mono hB.size)
   go_wp2_with fail
   go_roundw
   case rel => exact ⟨k + 1, by omega, by go_num, hB2⟩
   case measure => simp [RowKit.intOf]; omega
  ·go_wp2_with fail
   go_ret
   exact ⟨rfl, hB⟩
set_option maxHeartbeats 1000000 in
theorem eqGlob_any (n : Gl) (w : World) : Calls Tryz.prog 97 #[.agg #[.string n.name, .int .i64 n.size], .agg #[.string n.name, .int .i64 n.size]] w fun e w' => e = .returned (.bool true) ∧ Below w.heap.size w w' := by
 obtain ⟨s, z⟩ := n
 simp only
 go_enter Tryz.func97, Tryz.ntmps97
 go_wp2_with fail
 go_ret
 exact ⟨rfl, ((Below.refl _ _).alloc (Nat.le_refl _) _).alloc (by simp) _⟩
set_option maxHeartbeats 2000000 in
theorem eqGlobs_any (v1 v2 : Value) (ns : List Gl) (w : World) (hl : ns.length ≤ 1048576) (h1 : Globs w v1 ns) (h2 : Globs w v2 ns) :
  Calls Tryz.prog 60 #[v1, v2] w fun e w' => e = .returned (.bool true) ∧ Below w.heap.size w w' := by
 obtain ⟨a1, c1, rfl, -, -, hc1⟩ := h1
 obtain ⟨a2, c2, rfl, -, -, hc2⟩ := h2
 have H1 : Hid (0 < ns.length → ∃ b off, a1 = some ⟨b, off, none⟩ ∧ GlobsC w b off ns) := hc1
 have H2 : Hid (0 < ns.length → ∃ b off, a2 = some ⟨b, off, none⟩ ∧ GlobsC w b off ns) := hc2
 clear hc1 hc2
 go_enter Tryz.func60, Tryz.ntmps60
 go_wp2_with fail
 go_loopw [5] (fun i wr => ∃ k : Nat, k ≤ ns.length ∧ i = .int .i64 k ∧ Below w.heap.size w wr) (fun i _ => ns.length - (RowKit.intOf i).toNat)
 case atStart => exact ⟨0, Nat.zero_le _, rfl, Below.refl _ _⟩
 case round =>
  obtain ⟨k, hk, rfl, hB⟩ := hrel
  by_cases hlt : k < ns.length
  ·obtain ⟨b1, o1, rfl, hx1⟩ := H1.out (by omega)
   obtain ⟨b2, o2, rfl, hx2⟩ := H2.out (by omega)
   obtain ⟨d0, d1⟩ := (hx1.below hB) k hlt
   obtain ⟨e0, e1⟩ := (hx2.below hB) k hlt
   have l1 := World.block_lt_of_cell? _ _ d0
   have l2 := World.block_lt_of_cell? _ _ e0
   simp only at l1 l2
   clear hx1 hx2
   generalize ns[k] = n at d0 d1 e0 e1
   go_wp2_with fail
   go_region_held3 (fun W => W.cell? ⟨b1, o1 + k * 2, none⟩ = some (.string n.name) ∧ W.cell? ⟨b1, o1 + k * 2 + 1, none⟩ = some (.int .i64 n.size) ∧ W.cell? ⟨b2, o2 + k * 2, none⟩ = some (.string n.name) ∧ W.cell? ⟨b2, o2 + k * 2 + 1, none⟩ = some (.int .i64 n.size)) (go_simp)
    (first
    | (go_at_call 97; refine (eqGlob_any n _).mono ?_; rintro e w2 ⟨rfl, hb2⟩; have hcc : ∀ b o, b < wr.heap.size → w2.cell? ⟨b, o, none⟩ = wr.cell? ⟨b, o, none⟩ := (bcell hb2).1))
   have hB2 := hB.trans ((((Below.refl _ _).drew).trans hb2).mono hB.size)
   go_wp2_with fail
   go_roundw
   case rel => exact ⟨k + 1, by omega, by go_num, hB2⟩
   case measure => simp [RowKit.intOf]; omega
  ·go_wp2_with fail
   go_ret
   exact ⟨rfl, hB⟩
set_option maxHeartbeats 1000000 in
theorem eqStrs_any (v1 v2 : Value) (ns : List ByteArray) (w : World) (hl : ns.length ≤ 1048576) (h1 : Strs w v1 ns) (h2 : Strs w v2 ns) :
  Calls Tryz.prog 133 #[v1, v2] w fun e w' => e = .returned (.bool true) ∧ Below w.heap.size w w' := by
 obtain ⟨a1, c1, rfl, -, -, hc1⟩ := h1
 obtain ⟨a2, c2, rfl, -, -, hc2⟩ := h2
 have H1 : Hid (0 < ns.length → ∃ b off, a1 = some ⟨b, off, none⟩ ∧ StrsC w b off ns) := hc1
 have H2 : Hid (0 < ns.length → ∃ b off, a2 = some ⟨b, off, none⟩ ∧ StrsC w b off ns) := hc2
 clear hc1 hc2
 go_enter Tryz.func133, Tryz.ntmps133
 go_wp2_with fail
 go_loopw [5] (fun i wr => ∃ k : Nat, k ≤ ns.length ∧ i = .int .i64 k ∧ Below w.heap.size w wr) (fun i _ => ns.length - (RowKit.intOf i).toNat)
 case atStart => exact ⟨0, Nat.zero_le _, rfl, Below.refl _ _⟩
 case round =>
  obtain ⟨k, hk, rfl, hB⟩ := hrel
  by_cases hlt : k < ns.length
  ·obtain ⟨b1, o1, rfl, hx1⟩ := H1.out (by omega)
   obtain ⟨b2, o2, rfl, hx2⟩ := H2.out (by omega)
   have d0 := (hx1.below hB) k hlt
   have e0 := (hx2.below hB) k hlt
   clear hx1 hx2
   generalize ns[k] = n at d0 e0
   go_wp2_with fail
   go_quiet (fail)
   go_wp2_with fail
   go_roundw
   case rel => exact ⟨k + 1, by omega, by go_num, below_drewN hB _⟩
   case measure => simp [RowKit.intOf]; omega
  ·go_wp2_with fail
   go_ret
   exact ⟨rfl, hB⟩
set_option maxRecDepth 8000 in
theorem box66 {w w' : World} {t u : TypeId} {a0 a1 a2 a3 a4 a5 b0 b1 b2 b3 b4 b5 : Value} (h : Below (w.heap.size + 1 + 1) ((w.alloc (.cells #[a0, a1, a2, a3, a4, a5] t)).alloc (.cells #[b0, b1, b2, b3, b4, b5] u)) w') :
  (w'.cell? ⟨w.heap.size, 0, none⟩ = some a0 ∧ w'.cell? ⟨w.heap.size, 1, none⟩ = some a1 ∧ w'.cell? ⟨w.heap.size, 2, none⟩ = some a2 ∧ w'.cell? ⟨w.heap.size, 3, none⟩ = some a3 ∧ w'.cell? ⟨w.heap.size, 4, none⟩ = some a4 ∧ w'.cell? ⟨w.heap.size, 5, none⟩ = some a5) ∧
  (w'.cell? ⟨w.heap.size + 1, 0, none⟩ = some b0 ∧ w'.cell? ⟨w.heap.size + 1, 1, none⟩ = some b1 ∧ w'.cell? ⟨w.heap.size + 1, 2, none⟩ = some b2 ∧ w'.cell? ⟨w.heap.size + 1, 3, none⟩ = some b3 ∧ w'.cell? ⟨w.heap.size + 1, 4, none⟩ = some b4 ∧ w'.cell? ⟨w.heap.size + 1, 5, none⟩ = some b5) := by
 refine ⟨⟨?_, ?_, ?_, ?_, ?_, ?_⟩, ⟨?_, ?_, ?_, ?_, ?_, ?_⟩⟩
 all_goals (rw [h.cell (by first | (simp; done) | (simp; omega))]; go_simp; done)
set_option maxRecDepth 8000 in
theorem box33 {w w' : World} {t u : TypeId} {a0 a1 a2 b0 b1 b2 : Value} (h : Below (w.heap.size + 1 + 1) ((w.alloc (.cells #[a0, a1, a2] t)).alloc (.cells #[b0, b1, b2] u)) w') :
  (w'.cell? ⟨w.heap.size, 0, none⟩ = some a0 ∧ w'.cell? ⟨w.heap.size, 1, none⟩ = some a1 ∧ w'.cell? ⟨w.heap.size, 2, none⟩ = some a2) ∧
  (w'.cell? ⟨w.heap.size + 1, 0, none⟩ = some b0 ∧ w'.cell? ⟨w.heap.size + 1, 1, none⟩ = some b1 ∧ w'.cell? ⟨w.heap.size + 1, 2, none⟩ = some b2) := by
 refine ⟨⟨?_, ?_, ?_⟩, ⟨?_, ?_, ?_⟩⟩
 all_goals (rw [h.cell (by first | (simp; done) | (simp; omega))]; go_simp; done)
set_option maxRecDepth 8000 in
theorem box22 {w w' : World} {t u : TypeId} {a0 a1 b0 b1 : Value} (h : Below (w.heap.size + 1 + 1) ((w.alloc (.cells #[a0, a1] t)).alloc (.cells #[b0, b1] u)) w') :
  (w'.cell? ⟨w.heap.size, 0, none⟩ = some a0 ∧ w'.cell? ⟨w.heap.size, 1, none⟩ = some a1) ∧
  (w'.cell? ⟨w.heap.size + 1, 0, none⟩ = some b0 ∧ w'.cell? ⟨w.heap.size + 1, 1, none⟩ = some b1) := by
 refine ⟨⟨?_, ?_⟩, ⟨?_, ?_⟩⟩
 all_goals (rw [h.cell (by first | (simp; done) | (simp; omega))]; go_simp; done)
set_option maxHeartbeats 1000000 in
theorem eqStmt_any (s : St) (x1 y1 x2 y2 : Value) (w : World) (hs : smallS s) (h1 : Nodes w x1 s.e) (h2 : Nodes w y1 s.f) (h3 : Nodes w x2 s.e) (h4 : Nodes w y2 s.f) :
  Calls Tryz.prog 159 #[.agg #[.int .i64 s.kind, .string s.name, x1, y1, .int .i64 s.thn, .int .i64 s.els], .agg #[.int .i64 s.kind, .string s.name, x2, y2, .int .i64 s.thn, .int .i64 s.els]] w fun e w' => e = .returned (.bool true) ∧ Below w.heap.size w w' := by
 obtain ⟨k, n, es, fs, t, l⟩ := s
 have hse : es.length ≤ 1048576 := hs.1
 have hsf : fs.length ≤ 1048576 := hs.2
 simp only at h1 h2 h3 h4 ⊢
 have H1 : Hid (Nodes w x1 es) := h1
 have H2 : Hid (Nodes w y1 fs) := h2
 have H3 : Hid (Nodes w x2 es) := h3
 have H4 : Hid (Nodes w y2 fs) := h4
 obtain ⟨p1, q1, rfl, -, -, -⟩ := h1
 obtain ⟨p2, q2, rfl, -, -, -⟩ := h2
 obtain ⟨p3, q3, rfl, -, -, -⟩ := h3
 obtain ⟨p4, q4, rfl, -, -, -⟩ := h4
 clear hs
 go_enter Tryz.func159, Tryz.ntmps159
 go_wp2_with fail
 have hA : Below w.heap.size w ((w.alloc (.cells #[.int .i64 k, .string n, .slice p1 es.length q1, .slice p2 fs.length q2, .int .i64 t, .int .i64 l] 46)).alloc (.cells #[.int .i64 k, .string n, .slice p3 es.length q3, .slice p4 fs.length q4, .int .i64 t, .int .i64 l] 46)) := ((Below.refl _ _).alloc (Nat.le_refl _) _).alloc (by simp) _
 refine (eqNodes_any _ _ es _ hse (H1.out.below hA) (H3.out.below hA)).mono ?_
 rintro e w1 ⟨rfl, hb1⟩
 simp only [World.size_alloc] at hb1
 obtain ⟨⟨a0, a1, a2, a3, a4, a5⟩, b0, b1, b2, b3, b4, b5⟩ := box66 hb1
 have hB1 := two_below hb1
 go_wp2_with fail
 refine (eqNodes_any _ _ fs _ hsf (H2.out.below hB1) (H4.out.below hB1)).mono ?_
 rintro e w2 ⟨rfl, hb2⟩
 have hb2' := hb1.trans (hb2.mono (by have := hb1.size; simp at this; omega))
 have hB2 := two_below hb2'
 clear a0 a1 a2 a3 a4 a5 b0 b1 b2 b3 b4 b5
 obtain ⟨⟨a0, a1, a2, a3, a4, a5⟩, b0, b1, b2, b3, b4, b5⟩ := box66 hb2'
 clear hb1 hA
 go_wp2_with fail
 go_ret
 exact ⟨rfl, hB2⟩
end
section
open Go.RowKit
set_option maxHeartbeats 2000000 in
theorem eqStmts_any (v1 v2 : Value) (ns : List St) (w : World) (hl : ns.length ≤ 1048576) (hsm : ∀ s ∈ ns, smallS s) (h1 : Stmts w v1 ns) (h2 : Stmts w v2 ns) :
  Calls Tryz.prog 134 #[v1, v2] w fun e w' => e = .returned (.bool true) ∧ Below w.heap.size w w' := by
 obtain ⟨a1, c1, rfl, -, -, hc1⟩ := h1
 obtain ⟨a2, c2, rfl, -, -, hc2⟩ := h2
 have H1 : Hid (0 < ns.length → ∃ b off, a1 = some ⟨b, off, none⟩ ∧ StmtsC w b off ns) := hc1
 have H2 : Hid (0 < ns.length → ∃ b off, a2 = some ⟨b, off, none⟩ ∧ StmtsC w b off ns) := hc2
 clear hc1 hc2
 have HSM : Hid (∀ s ∈ ns, smallS s) := hsm
 clear hsm
 go_enter Tryz.func134, Tryz.ntmps134
 go_wp2_with fail
 go_loopw [5] (fun i wr => ∃ k : Nat, k ≤ ns.length ∧ i = .int .i64 k ∧ Below w.heap.size w wr) (fun i _ => ns.length - (RowKit.intOf i).toNat)
 case atStart => exact ⟨0, Nat.zero_le _, rfl, Below.refl _ _⟩
 case round =>
  obtain ⟨k, hk, rfl, hB⟩ := hrel
  by_cases hlt : k < ns.length
  ·obtain ⟨b1, o1, rfl, hx1⟩ := H1.out (by omega)
   obtain ⟨b2, o2, rfl, hx2⟩ := H2.out (by omega)
   obtain ⟨x1, y1, ⟨d0, d1, d2, d3, d4, d5⟩, g1, g2⟩ := (hx1.below hB) k hlt
   obtain ⟨x2, y2, ⟨e0, e1, e2, e3, e4, e5⟩, g3, g4⟩ := (hx2.below hB) k hlt
   have l1 := World.block_lt_of_cell? _ _ d0
   have l2 := World.block_lt_of_cell? _ _ e0
   simp only at l1 l2
   have HS1 : Hid (smallS ns[k]) := HSM.out ns[k] (List.getElem_mem hlt)
   clear hx1 hx2
   generalize ns[k] = n at d0 d1 d2 d3 d4 d5 e0 e1 e2 e3 e4 e5 g1 g2 g3 g4 HS1
   have HA : Hid (Nodes wr x1 n.e) := g1
   have HB : Hid (Nodes wr y1 n.f) := g2
   have HC : Hid (Nodes wr x2 n.e) := g3
   have HD : Hid (Nodes wr y2 n.f) := g4
   obtain ⟨p1, q1, rfl, -, -, -⟩ := g1
   obtain ⟨p2, q2, rfl, -, -, -⟩ := g2
   obtain ⟨p3, q3, rfl, -, -, -⟩ := g3
   obtain ⟨p4, q4, rfl, -, -, -⟩ := g4
   have hdr : Below wr.heap.size wr wr.drew := (Below.refl _ _).drew
   go_wp2_with fail
   go_region_held3 (fun W => W.cell? ⟨b1, o1 + k * 6, none⟩ = some (.int .i64 n.kind) ∧ W.cell? ⟨b1, o1 + k * 6 + 1, none⟩ = some (.string n.name) ∧ W.cell? ⟨b1, o1 + k * 6 + 2, none⟩ = some (.slice p1 n.e.length q1) ∧ W.cell? ⟨b1, o1 + k * 6 + 3, none⟩ = some (.slice p2 n.f.length q2) ∧ W.cell? ⟨b1, o1 + k * 6 + 4, none⟩ = some (.int .i64 n.thn) ∧ W.cell? ⟨b1, o1 + k * 6 + 5, none⟩ = some (.int .i64 n.els) ∧ W.cell? ⟨b2, o2 + k * 6, none⟩ = some (.int .i64 n.kind) ∧ W.cell? ⟨b2, o2 + k * 6 + 1, none⟩ = some (.string n.name) ∧ W.cell? ⟨b2, o2 + k * 6 + 2, none⟩ = some (.slice p3 n.e.length q3) ∧ W.cell? ⟨b2, o2 + k * 6 + 3, none⟩ = some (.slice p4 n.f.length q4) ∧ W.cell? ⟨b2, o2 + k * 6 + 4, none⟩ = some (.int .i64 n.thn) ∧ W.cell? ⟨b2, o2 + k * 6 + 5, none⟩ = some (.int .i64 n.els)) (go_simp)
    (first
    | (go_at_call 159; refine (eqStmt_any n _ _ _ _ _ HS1.out (HA.out.below hdr) (HB.out.below hdr) (HC.out.below hdr) (HD.out.below hdr)).mono ?_; rintro e w2 ⟨rfl, hb2⟩; have hcc : ∀ b o, b < wr.heap.size → w2.cell? ⟨b, o, none⟩ = wr.cell? ⟨b, o, none⟩ := (bcell hb2).1))
   have hB2 := hB.trans ((((Below.refl _ _).drew).trans hb2).mono hB.size)
   go_wp2_with fail
   go_roundw
   case rel => exact ⟨k + 1, by omega, by go_num, hB2⟩
   case measure => simp [RowKit.intOf]; omega
  ·go_wp2_with fail
   go_ret
   exact ⟨rfl, hB⟩
set_option maxHeartbeats 1000000 in
theorem eqFunc_any (s : Fu) (x1 y1 x2 y2 : Value) (w : World) (hs : smallF s) (h1 : Strs w x1 s.params) (h2 : Stmts w y1 s.body) (h3 : Strs w x2 s.params) (h4 : Stmts w y2 s.body) :
  Calls Tryz.prog 98 #[.agg #[.string s.name, x1, y1], .agg #[.string s.name, x2, y2]] w fun e w' => e = .returned (.bool true) ∧ Below w.heap.size w w' := by
 obtain ⟨n, es, fs⟩ := s
 have hse : es.length ≤ 1048576 := hs.1
 have hsf : fs.length ≤ 1048576 := hs.2.1
 have HSM : Hid (∀ s ∈ fs, smallS s) := hs.2.2
 simp only at h1 h2 h3 h4 ⊢
 have H1 : Hid (Strs w x1 es) := h1
 have H2 : Hid (Stmts w y1 fs) := h2
 have H3 : Hid (Strs w x2 es) := h3
 have H4 : Hid (Stmts w y2 fs) := h4
 obtain ⟨p1, q1, rfl, -, -, -⟩ := h1
 obtain ⟨p2, q2, rfl, -, -, -⟩ := h2
 obtain ⟨p3, q3, rfl, -, -, -⟩ := h3
 obtain ⟨p4, q4, rfl, -, -, -⟩ := h4
 clear hs
 go_enter Tryz.func98, Tryz.ntmps98
 go_wp2_with fail
 have hA : Below w.heap.size w ((w.alloc (.cells #[.string n, .slice p1 es.length q1, .slice p2 fs.length q2] 43)).alloc (.cells #[.string n, .slice p3 es.length q3, .slice p4 fs.length q4] 43)) := ((Below.refl _ _).alloc (Nat.le_refl _) _).alloc (by simp) _
 refine (eqStrs_any _ _ es _ hse (H1.out.below hA) (H3.out.below hA)).mono ?_
 rintro e w1 ⟨rfl, hb1⟩
 simp only [World.size_alloc] at hb1
 obtain ⟨⟨a0, a1, a2⟩, b0, b1, b2⟩ := box33 hb1
 have hB1 := two_below hb1
 go_wp2_with fail
 refine (eqStmts_any _ _ fs _ hsf HSM.out (H2.out.below hB1) (H4.out.below hB1)).mono ?_
 rintro e w2 ⟨rfl, hb2⟩
 have hB2 := hB1.trans (hb2.mono hB1.size)
 clear a0 a1 a2 b0 b1 b2 hb1 hA
 go_wp2_with fail
 go_ret
 exact ⟨rfl, hB2⟩
set_option maxHeartbeats 2000000 in
theorem eqFuncs_any (v1 v2 : Value) (ns : List Fu) (w : World) (hl : ns.length ≤ 1048576) (hsm : ∀ s ∈ ns, smallF s) (h1 : Funcs w v1 ns) (h2 : Funcs w v2 ns) :
  Calls Tryz.prog 61 #[v1, v2] w fun e w' => e = .returned (.bool true) ∧ Below w.heap.size w w' := by
 obtain ⟨a1, c1, rfl, -, -, hc1⟩ := h1
 obtain ⟨a2, c2, rfl, -, -, hc2⟩ := h2
 have H1 : Hid (0 < ns.length → ∃ b off, a1 = some ⟨b, off, none⟩ ∧ FuncsC w b off ns) := hc1
 have H2 : Hid (0 < ns.length → ∃ b off, a2 = some ⟨b, off, none⟩ ∧ FuncsC w b off ns) := hc2
 clear hc1 hc2
 have HSM : Hid (∀ s ∈ ns, smallF s) := hsm
 clear hsm
 go_enter Tryz.func61, Tryz.ntmps61
 go_wp2_with fail
 go_loopw [5] (fun i wr => ∃ k : Nat, k ≤ ns.length ∧ i = .int .i64 k ∧ Below w.heap.size w wr) (fun i _ => ns.length - (RowKit.intOf i).toNat)
 case atStart => exact ⟨0, Nat.zero_le _, rfl, Below.refl _ _⟩
 case round =>
  obtain ⟨k, hk, rfl, hB⟩ := hrel
  by_cases hlt : k < ns.length
  ·obtain ⟨b1, o1, rfl, hx1⟩ := H1.out (by omega)
   obtain ⟨b2, o2, rfl, hx2⟩ := H2.out (by omega)
   obtain ⟨x1, y1, ⟨d0, d1, d2⟩, g1, g2⟩ := (hx1.below hB) k hlt
   obtain ⟨x2, y2, ⟨e0, e1, e2⟩, g3, g4⟩ := (hx2.below hB) k hlt
   have l1 := World.block_lt_of_cell? _ _ d0
   have l2 := World.block_lt_of_cell? _ _ e0
   simp only at l1 l2
   have HS1 : Hid (smallF ns[k]) := HSM.out ns[k] (List.getElem_mem hlt)
   clear hx1 hx2
   generalize ns[k] = n at d0 d1 d2 e0 e1 e2 g1 g2 g3 g4 HS1
   have HA : Hid (Strs wr x1 n.params) := g1
   have HB : Hid (Stmts wr y1 n.body) := g2
   have HC : Hid (Strs wr x2 n.params) := g3
   have HD : Hid (Stmts wr y2 n.body) := g4
   obtain ⟨p1, q1, rfl, -, -, -⟩ := g1
   obtain ⟨p2, q2, rfl, -, -, -⟩ := g2
   obtain ⟨p3, q3, rfl, -, -, -⟩ := g3
   obtain ⟨p4, q4, rfl, -, -, -⟩ := g4
   have hdr : Below wr.heap.size wr wr.drew := (Below.refl _ _).drew
   go_wp2_with fail
   go_region_held3 (fun W => W.cell? ⟨b1, o1 + k * 3, none⟩ = some (.string n.name) ∧ W.cell? ⟨b1, o1 + k * 3 + 1, none⟩ = some (.slice p1 n.params.length q1) ∧ W.cell? ⟨b1, o1 + k * 3 + 2, none⟩ = some (.slice p2 n.body.length q2) ∧ W.cell? ⟨b2, o2 + k * 3, none⟩ = some (.string n.name) ∧ W.cell? ⟨b2, o2 + k * 3 + 1, none⟩ = some (.slice p3 n.params.length q3) ∧ W.cell? ⟨b2, o2 + k * 3 + 2, none⟩ = some (.slice p4 n.body.length q4)) (go_simp)
    (first
    | (go_at_call 98; refine (eqFunc_any n _ _ _ _ _ HS1.out (HA.out.below hdr) (HB.out.below hdr) (HC.out.below hdr) (HD.out.below hdr)).mono ?_; rintro e w2 ⟨rfl, hb2⟩; have hcc : ∀ b o, b < wr.heap.size → w2.cell? ⟨b, o, none⟩ = wr.cell? ⟨b, o, none⟩ := (bcell hb2).1))
   have hB2 := hB.trans ((((Below.refl _ _).drew).trans hb2).mono hB.size)
   go_wp2_with fail
   go_roundw
   case rel => exact ⟨k + 1, by omega, by go_num, hB2⟩
   case measure => simp [RowKit.intOf]; omega
  ·go_wp2_with fail
   go_ret
   exact ⟨rfl, hB⟩
set_option maxHeartbeats 1000000 in
theorem eqTree_any (t : Tr) (x1 y1 x2 y2 : Value) (w : World) (hs : smallT t) (h1 : Globs w x1 t.globals) (h2 : Funcs w y1 t.funcs) (h3 : Globs w x2 t.globals) (h4 : Funcs w y2 t.funcs) :
  Calls Tryz.prog 26 #[.agg #[x1, y1], .agg #[x2, y2]] w fun e w' => e = .returned (.bool true) ∧ Below w.heap.size w w' := by
 obtain ⟨es, fs⟩ := t
 have hse : es.length ≤ 1048576 := hs.1
 have hsf : fs.length ≤ 1048576 := hs.2.1
 have HSM : Hid (∀ s ∈ fs, smallF s) := hs.2.2
 simp only at h1 h2 h3 h4 ⊢
 have H1 : Hid (Globs w x1 es) := h1
 have H2 : Hid (Funcs w y1 fs) := h2
 have H3 : Hid (Globs w x2 es) := h3
 have H4 : Hid (Funcs w y2 fs) := h4
 obtain ⟨p1, q1, rfl, -, -, -⟩ := h1
 obtain ⟨p2, q2, rfl, -, -, -⟩ := h2
 obtain ⟨p3, q3, rfl, -, -, -⟩ := h3
 obtain ⟨p4, q4, rfl, -, -, -⟩ := h4
 clear hs
 go_enter Tryz.func26, Tryz.ntmps26
 go_wp2_with fail
 have hA : Below w.heap.size w ((w.alloc (.cells #[.slice p1 es.length q1, .slice p2 fs.length q2] 26)).alloc (.cells #[.slice p3 es.length q3, .slice p4 fs.length q4] 26)) := ((Below.refl _ _).alloc (Nat.le_refl _) _).alloc (by simp) _
 refine (eqGlobs_any _ _ es _ hse (H1.out.below hA) (H3.out.below hA)).mono ?_
 rintro e w1 ⟨rfl, hb1⟩
 simp only [World.size_alloc] at hb1
 obtain ⟨⟨a0, a1⟩, b0, b1⟩ := box22 hb1
 have hB1 := two_below hb1
 go_wp2_with fail
 refine (eqFuncs_any _ _ fs _ hsf HSM.out (H2.out.below hB1) (H4.out.below hB1)).mono ?_
 rintro e w2 ⟨rfl, hb2⟩
 have hB2 := hB1.trans (hb2.mono hB1.size)
 clear a0 a1 b0 b1 hb1 hA
 go_wp2_with fail
 go_ret
 exact ⟨rfl, hB2⟩
end
end Go.Proofs.YtlamjfhhefcohaaGreatDoor
