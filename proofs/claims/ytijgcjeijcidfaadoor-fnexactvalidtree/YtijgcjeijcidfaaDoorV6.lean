import Derived.Test.YtijgcjeijcidfaaDoorV5
namespace Go.Proofs.YtijgcjeijcidfaaDoor
open Go.RowKit
set_option linter.unusedVariables false
set_option linter.unusedSimpArgs false

def NodesC (w : World) (b off : Nat) (ns : List Nd) : Prop := ∀ j (h : j < ns.length),
  w.cell? ⟨b, off + j * 3, none⟩ = some (.int .i64 ns[j].kind) ∧ w.cell? ⟨b, off + j * 3 + 1, none⟩ = some (.int .i64 ns[j].val) ∧ w.cell? ⟨b, off + j * 3 + 2, none⟩ = some (.string ns[j].name)

theorem NodesC.below {w w' : World} {b off : Nat} {ns : List Nd} (h : NodesC w b off ns) (hb : Below w.heap.size w w') : NodesC w' b off ns := by
  intro j hj
  obtain ⟨c0, c1, c2⟩ := h j hj
  have hlt := World.block_lt_of_cell? _ _ c0
  exact ⟨(hb.cell hlt).trans c0, (hb.cell (p := ⟨b, off + j * 3 + 1, none⟩) hlt).trans c1, (hb.cell (p := ⟨b, off + j * 3 + 2, none⟩) hlt).trans c2⟩

/-- A slice of nodes. -/
def Nodes (w : World) (v : Value) (ns : List Nd) : Prop := ∃ a cap, v = .slice a ns.length cap ∧ ns.length ≤ cap ∧ cap ≤ 9223372036854775807 ∧ (0 < ns.length → ∃ b off, a = some ⟨b, off, none⟩ ∧ NodesC w b off ns)
theorem Nodes.below {w w' : World} {v : Value} {ns : List Nd} (h : Nodes w v ns) (hb : Below w.heap.size w w') : Nodes w' v ns := by
  obtain ⟨a, cap, rfl, hl, hm, h⟩ := h
  refine ⟨a, cap, rfl, hl, hm, fun h0 => ?_⟩
  obtain ⟨b, off, rfl, hc⟩ := h h0
  exact ⟨b, off, rfl, hc.below hb⟩

theorem box3 {w w' : World} {t : TypeId} {x y z : Value} (h : Below (w.heap.size + 1) (w.alloc (.cells #[x, y, z] t)) w') :
    w'.cell? ⟨w.heap.size, 0, none⟩ = some x ∧ w'.cell? ⟨w.heap.size, 1, none⟩ = some y ∧ w'.cell? ⟨w.heap.size, 2, none⟩ = some z := by
  refine ⟨?_, ?_, ?_⟩ <;> (rw [h.cell (by simp)]; simp)

set_option maxHeartbeats 1000000 in
theorem one_any (v : Value) (ns : List Nd) (w : World) (hT : Tab w) (hl : ns.length ≤ 1048576) (hc : Nodes w v ns) :
    Calls Tryd.prog 43 #[v] w fun e w' => e = .returned (.bool (oneB ns)) ∧ Below w.heap.size w w' := by
  obtain ⟨a, cap, rfl, hcl, hcm, hc⟩ := hc
  have HC : Hid (0 < ns.length → ∃ b off, a = some ⟨b, off, none⟩ ∧ NodesC w b off ns) := hc
  clear hc
  go_enter Tryd.func43, Tryd.ntmps43
  go_wp2_with fail
  go_loopw [3, 8] (fun r i wr => ∃ (k : Nat) (q : Int), k ≤ ns.length ∧ i = .int .i64 k ∧ r = .int .i64 q ∧ wholeTo (ns.take k) 0 = some q ∧ Below w.heap.size w wr) (fun _ i _ => ns.length - (intOf i).toNat)
  case atStart => exact ⟨0, 0, Nat.zero_le _, rfl, rfl, rfl, Below.refl _ _⟩
  case round =>
    obtain ⟨k, q, hk, rfl, rfl, hq, hB⟩ := hrel
    have HQ : Hid (wholeTo (ns.take k) 0 = some q) := hq
    have hqb := wholeTo_bd _ _ _ hq (Int.le_refl 0)
    have hql : q ≤ 1048576 := by have := hqb.2; simp at this; omega
    have hq0 := hqb.1
    clear hq hqb
    by_cases hlt : k < ns.length
    · obtain ⟨b, off, rfl, hc⟩ := HC.out (by omega)
      obtain ⟨d0, d1, d2⟩ := (hc.below hB) k hlt
      have HT : Hid (Tab wr) := hT.below hT.size hB
      have hsz := hT.size
      have HS : Hid _ := wholeTo_step ns k q hlt HQ.out
      clear hc hT HC
      generalize hn : ns[k] = n at d0 d1 d2 HS
      clear hn
      go_wp2_with fail
      refine (vnode_any n _ (HT.out.below HT.out.size ((Below.refl _ _).alloc (Nat.le_refl _) _))).mono ?_
      rintro e w1 ⟨rfl, hb1⟩
      simp only [World.size_alloc] at hb1
      have hB1 := hB.trans ((((Below.refl _ _).alloc (Nat.le_refl _) _).trans (hb1.mono (by omega))).mono hB.size)
      cases hv : nodeB n
      · go_wp2_with fail
        go_ret
        refine ⟨ret_bool (oneB_none ns (k + 1) ?_).symm, hB1⟩
        rw [HS.out, if_neg (by simp [hv])]
      · obtain ⟨e0, e1, e2⟩ := box3 hb1
        have hT1 : Hid (Tab w1) := HT.out.below HT.out.size (((Below.refl _ _).alloc (Nat.le_refl _) _).trans (hb1.mono (by omega)))
        have hkb := kind_good hv
        have hab := arity_good hv
        go_wp2_with fail
        refine (opc_any n _ hT1.out hkb).mono ?_
        rintro e w2 ⟨rfl, hb2⟩
        have hb2' := hb1.trans (hb2.mono (by have := hb1.size; simp at this; omega))
        have hB2 := hB.trans ((((Below.refl _ _).alloc (Nat.le_refl _) _).trans (hb2'.mono (by omega))).mono hB.size)
        obtain ⟨f0, f1, f2⟩ := box3 hb2'
        have hT2 : Hid (Tab w2) := hT1.out.below hT1.out.size hb2
        clear e0 e1 e2 d0 d1 d2
        by_cases ha : q < arity n
        · go_wp2_with fail
          go_ret
          refine ⟨ret_bool (oneB_none ns (k + 1) ?_).symm, hB2⟩
          rw [HS.out, if_neg (by omega)]
        · go_wp2_with fail
          refine (opc_any n _ hT2.out hkb).mono ?_
          rintro e w3 ⟨rfl, hb3⟩
          have hB3 := hB2.trans (hb3.mono hB2.size)
          clear f0 f1 f2
          go_wp2_with fail
          go_roundw
          case rel => exact ⟨k + 1, q + 1 - arity n, by omega, by go_num, by rw [show q + (1 - arity n) = q + 1 - arity n by omega], by rw [HS.out, if_pos ⟨hv, by omega⟩], hB3⟩
          case measure => simp [intOf]; omega
    · go_wp2_with fail
      go_ret
      obtain rfl : k = ns.length := by omega
      exact ⟨ret_bool (oneB_some ns q HQ.out).symm, hB⟩

end Go.Proofs.YtijgcjeijcidfaaDoor
