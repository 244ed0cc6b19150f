import Derived.Test.YtijgcjeijcidfaaDoorV6
import Derived.Test.YtijgcjeijcidfaaDoorW0
namespace Go.Proofs.YtijgcjeijcidfaaDoor
open Go.RowKit
set_option linter.unusedVariables false
set_option linter.unusedSimpArgs false

theorem arity_nd (n : Nd) (w : World) : Calls Tryd.prog 59 #[.agg #[.int .i64 n.kind, .int .i64 n.val, .string n.name]] w fun e w' => e = .returned (.int .i64 (arity n)) ∧ Below w.heap.size w w' := arity_any n.kind n.val n.name w

set_option maxHeartbeats 1000000 in
theorem from_any (v : Value) (ns : List Nd) (w : World) (hl : ns.length ≤ 1048576) (hg : goodAll ns) (hc : Nodes w v ns) :
    Calls Tryd.prog 48 #[v] w fun e w' => ∃ r, fromP ns r ∧ -1 ≤ r ∧ r ≤ 1048576 ∧ e = .returned (.int .i64 r) ∧ Below w.heap.size w w' := by
  obtain ⟨a, cap, rfl, hcl, hcm, hc⟩ := hc
  have HC : Hid (0 < ns.length → ∃ b off, a = some ⟨b, off, none⟩ ∧ NodesC w b off ns) := hc
  have HG : Hid (goodAll ns) := hg
  clear hc hg
  go_enter Tryd.func48, Tryd.ntmps48
  go_wp2_with fail
  go_loopw [3, 4] (fun r i wr => ∃ (k : Nat) (q : Int), k ≤ ns.length ∧ i = .int .i64 k ∧ r = .int .i64 q ∧ q = defc (ns.drop k) ∧ 0 ≤ q ∧ (∀ j, k < j → j ≤ ns.length → 1 ≤ defc (ns.drop j)) ∧ Below w.heap.size w wr) (fun _ i _ => (intOf i).toNat)
  case atStart => exact ⟨ns.length, 1, Nat.le_refl _, rfl, rfl, by simp [defc], by omega, fun j h1 h2 => absurd h2 (by omega), Below.refl _ _⟩
  case round =>
    obtain ⟨k, q, hk, rfl, rfl, hq, hq0, hj, hB⟩ := hrel
    have hqb := defc_le _ (goodAll_drop HG.out k)
    have hq1 : q ≤ 6291457 := by rw [hq]; simp at hqb; omega
    have HQ : Hid (q = defc (ns.drop k)) := hq
    have HJ : Hid (∀ j, k < j → j ≤ ns.length → 1 ≤ defc (ns.drop j)) := hj
    clear hq hj hqb
    by_cases h0 : 0 < q
    · by_cases hk0 : k = 0
      · subst hk0
        go_wp2_with fail
        go_ret
        refine ⟨-1, .inr ⟨rfl, fun j hj => ?_⟩, by omega, by omega, rfl, hB⟩
        rcases Nat.eq_zero_or_pos j with rfl | hp
        · rw [← HQ.out]; omega
        · exact HJ.out j hp hj
      · obtain ⟨m, rfl⟩ : ∃ m, k = m + 1 := ⟨k - 1, by omega⟩
        obtain ⟨b, off, rfl, hc⟩ := HC.out (by omega)
        obtain ⟨d0, d1, d2⟩ := (hc.below hB) m (by omega)
        have hab := arity_good (HG.out ns[m] (List.getElem_mem _))
        have HD : Hid _ := defc_drop ns m (by omega)
        clear hc HC
        generalize hn : ns[m] = n at d0 d1 d2 HD hab
        clear hn
        have e1 : ((m + 1 : Nat) : Int) - 1 = (m : Int) := by omega
        go_wp2_with fail
        refine (arity_nd n _).mono ?_
        rintro e w1 ⟨rfl, hb1⟩
        have hB1 := hB.trans (hb1.mono hB.size)
        clear d0 d1 d2
        go_wp2_with fail
        go_roundw
        case rel =>
          refine ⟨m, q - 1 + arity n, by omega, by go_num, rfl, ?_, by omega, fun j h1 h2 => ?_, hB1⟩
          · rw [HD.out, ← HQ.out]; omega
          · by_cases e : j = m + 1
            · subst e; rw [← HQ.out]; omega
            · exact HJ.out j (by omega) h2
        case measure => simp [intOf]
    · go_wp2_with fail
      go_ret
      refine ⟨k, .inl ⟨k, rfl, ?_, ?_, HJ.out⟩, by omega, by omega, rfl, hB⟩
      · rcases Nat.lt_or_ge k ns.length with h | h
        · exact h
        · exfalso
          have := HQ.out
          rw [List.drop_of_length_le h, defc] at this
          omega
      · rw [← HQ.out]; omega

theorem oneB_bad {l : List Nd} {k : Nat} (hk : k < l.length) (h : nodeB l[k] = false) : oneB l = false := by
  cases e : oneB l
  · rfl
  · have := ((oneB_iff l).1 e).1 _ (List.getElem_mem hk)
    rw [h] at this; cases this

set_option maxHeartbeats 1000000 in
theorem gexpr_any (v : Value) (ns : List Nd) (w : World) (hl : ns.length ≤ 1048576) (hc : Nodes w v ns) :
    Calls Tryd.prog 36 #[v] w fun e w' => e = .returned (.bool (decide (ns.length ≤ 2000) && oneB ns)) ∧ Below w.heap.size w w' := by
  have HN : Hid (Nodes w v ns) := hc
  obtain ⟨a, cap, rfl, hcl, hcm, hc⟩ := hc
  have HC : Hid (0 < ns.length → ∃ b off, a = some ⟨b, off, none⟩ ∧ NodesC w b off ns) := hc
  clear hc
  by_cases h2 : 2000 < ns.length
  · have hd : (decide (ns.length ≤ 2000) && oneB ns) = false := by simp; omega
    rw [hd]
    clear hd
    go_enter Tryd.func36, Tryd.ntmps36
    go_wp2_with fail
    go_ret
    exact ⟨rfl, Below.refl _ _⟩
  · have hd : (decide (ns.length ≤ 2000) && oneB ns) = oneB ns := by rw [decide_eq_true (by omega)]; rfl
    rw [hd]
    clear hd
    go_enter Tryd.func36, Tryd.ntmps36
    go_wp2_with fail
    go_loopw [3] (fun i wr => ∃ (k : Nat), k ≤ ns.length ∧ i = .int .i64 k ∧ (∀ n ∈ ns.take k, nodeB n = true) ∧ Below w.heap.size w wr) (fun i _ => ns.length - (intOf i).toNat)
    case atStart => exact ⟨0, Nat.zero_le _, rfl, by simp, Below.refl _ _⟩
    case round =>
      obtain ⟨k, hk, rfl, hg, hB⟩ := hrel
      have HG : Hid (∀ n ∈ ns.take k, nodeB n = true) := hg
      clear hg
      by_cases hlt : k < ns.length
      · obtain ⟨b, off, rfl, hc⟩ := HC.out (by omega)
        obtain ⟨d0, d1, d2⟩ := (hc.below hB) k hlt
        clear hc HC
        have HE : Hid (ns.take (k + 1) = ns.take k ++ [ns[k]]) := take_succ ns k hlt
        have HX : Hid (nodeB ns[k] = false → oneB ns = false) := oneB_bad hlt
        generalize hn : ns[k] = n at d0 d1 d2 HE HX
        clear hn
        go_wp2_with fail
        refine (gnode_any n _).mono ?_
        rintro e w1 ⟨rfl, hb1⟩
        have hB1 := hB.trans (hb1.mono hB.size)
        clear d0 d1 d2
        cases hv : nodeB n
        · go_wp2_with fail
          go_ret
          exact ⟨ret_bool (HX.out hv).symm, hB1⟩
        · go_wp2_with fail
          go_roundw
          case rel =>
            refine ⟨k + 1, by omega, by go_num, fun m hm => ?_, hB1⟩
            rw [HE.out] at hm
            rcases List.mem_append.1 hm with hm | hm
            · exact HG.out m hm
            · rw [List.mem_singleton.1 hm]; exact hv
          case measure => simp [intOf]; omega
      · have hk' : k = ns.length := by omega
        subst hk'
        have hgA : goodAll ns := by have := HG.out; rw [List.take_length] at this; exact this
        have HA : Hid (goodAll ns) := hgA
        clear hgA
        by_cases h0 : 0 < ns.length
        · go_wp2_with fail
          refine (from_any _ ns _ hl HA.out (HN.out.below hB)).mono ?_
          rintro e w1 ⟨r, hr, hr1, hr2, rfl, hb1⟩
          have HR : Hid (fromP ns r) := hr
          clear hr
          go_wp2_with fail
          go_ret
          exact ⟨ret_bool (fromP_one HA.out HR.out), hB.trans (hb1.mono hB.size)⟩
        · go_wp2_with fail
          go_ret
          refine ⟨ret_bool ?_, hB⟩
          have : ns = [] := List.eq_nil_of_length_eq_zero (by omega)
          subst this
          simp [oneB, wholeTo]

theorem NodesC.up {w : World} {b off : Nat} {ns : List Nd} (h : NodesC w b off ns) (j : Nat) (hj : j < ns.length) : (∀ o, (w.alloc o).cell? ⟨b, off + j * 3, none⟩ = some (.int .i64 ns[j].kind)) ∧ (∀ o, (w.alloc o).cell? ⟨b, off + j * 3 + 1, none⟩ = some (.int .i64 ns[j].val)) ∧ (∀ o, (w.alloc o).cell? ⟨b, off + j * 3 + 2, none⟩ = some (.string ns[j].name)) :=
  ⟨fun o => ((h.below ((Below.refl _ _).alloc (Nat.le_refl _) o)) j hj).1, fun o => ((h.below ((Below.refl _ _).alloc (Nat.le_refl _) o)) j hj).2.1, fun o => ((h.below ((Below.refl _ _).alloc (Nat.le_refl _) o)) j hj).2.2⟩

set_option maxHeartbeats 1000000 in
theorem root_any (v : Value) (ns : List Nd) (w : World) (hl : 0 < ns.length) (hm : ns.length ≤ 1048576) (hc : Nodes w v ns) :
    Calls Tryd.prog 37 #[v] w fun e w' => e = .returned (.agg #[.int .i64 (ns[ns.length - 1]'(by omega)).kind, .int .i64 (ns[ns.length - 1]'(by omega)).val, .string (ns[ns.length - 1]'(by omega)).name]) ∧ Below w.heap.size w w' := by
  obtain ⟨a, cap, rfl, hcl, hcm, hc⟩ := hc
  obtain ⟨b, off, rfl, hn⟩ := hc hl
  obtain ⟨d0, d1, d2⟩ := hn.up (ns.length - 1) (by omega)
  clear hc hn
  generalize hn : ns[ns.length - 1] = n at d0 d1 d2 ⊢
  clear hn
  obtain ⟨m, hm'⟩ : ∃ m, ns.length = m + 1 := ⟨ns.length - 1, by omega⟩
  rw [hm'] at d0 d1 d2 hl hm hcl ⊢
  have e1 : ((m + 1 : Nat) : Int) - 1 = (m : Int) := by omega
  have e2 : m + 1 - 1 = m := by omega
  rw [e2] at d0 d1 d2
  clear hm'
  go_enter Tryd.func37, Tryd.ntmps37
  go_wp2_with fail
  exact bodyPost_ret (v := .agg #[.int .i64 n.kind, .int .i64 n.val, .string n.name]) (by simp [results, Tryd.results37, go_sem]) rfl ⟨rfl, (Below.refl _ _).alloc (Nat.le_refl _) _⟩

end Go.Proofs.YtijgcjeijcidfaaDoor
