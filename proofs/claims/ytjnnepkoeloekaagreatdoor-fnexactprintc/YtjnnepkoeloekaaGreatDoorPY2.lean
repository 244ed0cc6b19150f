import Derived.Test.YtjnnepkoeloekaaGreatDoorPV7
namespace Go.Proofs.YtjnnepkoeloekaaGreatDoor
open Go.RowKit
set_option linter.unusedVariables false
set_option linter.unusedSimpArgs false

/-- Where the last expression of the first k nodes begins. -/
def begP (ns : List Nd) (k i : Nat) : Prop := i < k ∧ defc ((ns.take k).drop i) = 0 ∧ ∀ j, i < j → j ≤ k → 1 ≤ defc ((ns.take k).drop j)

theorem begP_step (ns : List Nd) (k m : Nat) (hk : k ≤ ns.length) (hm : m < k) : defc ((ns.take k).drop m) = defc ((ns.take k).drop (m + 1)) + arity (ns[m]'(by omega)) - 1 := by
  have h := defc_drop (ns.take k) m (by simp; omega)
  rw [h]
  simp

set_option maxHeartbeats 1000000 in
theorem begin_any (v : Value) (ns : List Nd) (k i : Nat) (w : World) (hT : Tab w) (hl : ns.length ≤ 1048576) (hg : goodAll ns) (hc : Nodes w v ns) (hk : k ≤ ns.length) (hi : begP ns k i) :
    Calls Tryz.prog 108 #[v, .int .i64 k] w fun e w' => e = .returned (.int .i64 i) ∧ Below w.heap.size w w' := by
  obtain ⟨a, cap, rfl, hcl, hcm, hc⟩ := hc
  obtain ⟨b, off, rfl, hc1⟩ := hc (by have := hi.1; omega)
  have HC : Hid (NodesC w b off ns) := hc1
  have HG : Hid (goodAll ns) := hg
  have HI : Hid (begP ns k i) := hi
  have HT : Hid (Tab w) := hT
  clear hc hc1 hg hi hT
  go_enter Tryz.func108, Tryz.ntmps108
  go_wp2_with fail
  go_loopw [5, 1] (fun r x wr => ∃ (m : Nat) (q : Int), i ≤ m ∧ m ≤ k ∧ x = .int .i64 m ∧ r = .int .i64 q ∧ q = defc ((ns.take k).drop m) ∧ Below w.heap.size w wr) (fun _ x _ => (intOf x).toNat)
  case atStart => exact ⟨k, 1, by have := HI.out.1; omega, Nat.le_refl _, rfl, rfl, by rw [List.drop_of_length_le (by simp; omega)]; rfl, Below.refl _ _⟩
  case round =>
    obtain ⟨m, q, him, hm, rfl, rfl, hq, hB⟩ := hrel
    have hqb := defc_le ((ns.take k).drop m) (fun n hn => HG.out n (List.mem_of_mem_take (List.mem_of_mem_drop hn)))
    have hq1 : q ≤ 6291457 := by rw [hq]; simp at hqb; omega
    have HQ : Hid (q = defc ((ns.take k).drop m)) := hq
    clear hq hqb
    by_cases e : m = i
    · subst e
      have h0 : q = 0 := by rw [HQ.out]; exact HI.out.2.1
      clear HQ
      subst h0
      go_wp2_with fail
      go_ret
      exact ⟨rfl, hB⟩
    · have h0 : 1 ≤ q := by rw [HQ.out]; exact HI.out.2.2 m (by omega) hm
      obtain ⟨p, rfl⟩ : ∃ p, m = p + 1 := ⟨m - 1, by omega⟩
      have HS : Hid (defc ((ns.take k).drop p) = defc ((ns.take k).drop (p + 1)) + arity (ns[p]'(by omega)) - 1) := begP_step ns k p hk (by omega)
      obtain ⟨d0, d1, d2⟩ := (HC.out.below hB) p (by omega)
      have hgn := HG.out ns[p] (List.getElem_mem _)
      have hab := arity_good hgn
      have hkg := kind_good hgn
      have hT1 := HT.out.below HT.out.size hB
      have HT1 : Hid (Tab wr) := hT1
      have hp : p < ns.length := by omega
      clear HC HG HI HT hT1 hgn
      generalize hn : ns[p] = n at d0 d1 d2 HS hab hkg
      clear hn
      have e1 : ((p + 1 : Nat) : Int) - 1 = (p : Int) := by omega
      go_wp2_with fail
      refine (opc_any n _ HT1.out hkg).mono ?_
      rintro e w1 ⟨rfl, hb1⟩
      have hB1 := hB.trans (hb1.mono hB.size)
      clear d0 d1 d2
      go_wp2_with fail
      go_roundw
      case rel =>
        refine ⟨p, q + (arity n - 1), by omega, by omega, by go_num, rfl, ?_, hB1⟩
        rw [HS.out, ← HQ.out]; omega
      case measure => simp [intOf]

end Go.Proofs.YtjnnepkoeloekaaGreatDoor
