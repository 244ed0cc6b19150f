import Derived.Test.YtbmcnjjhgjphmaaDoorFA
import Derived.Test.YtbmcnjjhgjphmaaDoorAP2
import Derived.Test.YtbmcnjjhgjphmaaDoorV7
import Derived.Test.YtbmcnjjhgjphmaaDoorNR
import Derived.BigQuiet
namespace Go.Proofs.YtbmcnjjhgjphmaaDoor
open Go.RowKit
set_option linter.unusedVariables false
set_option linter.unusedSimpArgs false

set_option maxHeartbeats 1000000 in
theorem num_any (v : Int) (w : World) : Calls Tryd.prog 26 #[.int .i64 v] w fun e w' => ∃ x, e = .returned x ∧ Nodes w' x (numN v) ∧ (∀ g, x.ownBlock = some g → w.heap.size ≤ g) ∧ Below w.heap.size w w' := by
  go_enter Tryd.func26, Tryd.ntmps26
  go_wp2_with fail
  refine bodyPost_ret (v := .slice (some ⟨w.heap.size, 0, none⟩) 1 1) (by simp [results, Tryd.results26, go_sem]) rfl ⟨_, rfl, ?_, fun g hg => by simp only [Value.ownBlock, Option.some.injEq] at hg; omega, (Below.refl _ _).alloc (Nat.le_refl _) _⟩
  refine ⟨_, 1, rfl, Nat.le_refl _, by omega, fun _ => ⟨w.heap.size, 0, rfl, fun j hj => ?_⟩⟩
  obtain rfl : j = 0 := by simp [numN] at hj; exact hj
  simp [numN]

set_option maxHeartbeats 1000000 in
theorem is_any (v : Value) (n : Nd) (r : List Nd) (w : World) (hl : (n :: r).length ≤ 1048576) (hN : Nodes w v (n :: r)) :
    Calls Tryd.prog 25 #[v] w fun e w' => e = .returned (.tuple #[.bool (isN (n :: r)).isSome, .int .i64 n.val]) ∧ Below w.heap.size w w' := by
  obtain ⟨a, cap, rfl, hcl, hcm, hc⟩ := hN
  obtain ⟨b, off, rfl, hc1⟩ := hc (by simp)
  obtain ⟨d0, d1, d2⟩ := hc1 0 (by simp)
  simp only [Nat.zero_mul, Nat.add_zero, List.getElem_cons_zero] at d0 d1 d2
  clear hc hc1
  obtain ⟨nk, nv, nm⟩ := n
  simp only at d0 d1 d2
  cases r with
  | nil =>
    have HE : Hid ((isN [(⟨nk, nv, nm⟩ : Nd)]).isSome = decide (nk = 1)) := by
      show _ = _
      by_cases h : nk = 1 <;> simp [isN, h]
    simp only [List.length_cons, List.length_nil] at *
    by_cases h1 : nk = 1
    · subst h1
      go_enter Tryd.func25, Tryd.ntmps25
      go_wp2_with fail
      go_quiet (fail)
      go_wp2_with fail
      refine bodyPost_ret (v := .tuple #[.bool true, .int .i64 nv]) (by simp [results, Tryd.results25, go_sem]) rfl ⟨?_, below_drewN (Below.refl _ _) _⟩
      rw [HE.out]
      simp
    · have h1b : (nk == 1) = false := by simp [h1]
      go_enter Tryd.func25, Tryd.ntmps25
      go_wp2_with fail
      go_quiet (fail)
      go_wp2_with fail
      refine bodyPost_ret (v := .tuple #[.bool false, .int .i64 nv]) (by simp [results, Tryd.results25, go_sem]) rfl ⟨?_, below_drewN (Below.refl _ _) _⟩
      rw [HE.out]
      simp [h1]
  | cons m r =>
    have HE : Hid ((isN ((⟨nk, nv, nm⟩ : Nd) :: m :: r)).isSome = false) := rfl
    simp only [List.length_cons] at *
    have h1 : ¬ ((r.length : Int) + 1 + 1 = 1) := by omega
    have h1b : ((r.length : Int) + 1 + 1 == 1) = false := by simp; omega
    have h1c : (((r.length + 1 + 1 : Nat) : Int) == 1) = false := by simp; omega
    go_enter Tryd.func25, Tryd.ntmps25
    go_wp2_with fail
    go_quiet (fail)
    go_wp2_with fail
    refine bodyPost_ret (v := .tuple #[.bool false, .int .i64 nv]) (by simp [results, Tryd.results25, go_sem]) rfl ⟨?_, below_drewN (Below.refl _ _) _⟩
    rw [HE.out]

set_option maxHeartbeats 1000000 in
theorem bool_any (b : Bool) (w : World) : Calls Tryd.prog 44 #[.bool b] w fun e w' => e = .returned (.int .i64 (boolN b)) ∧ w' = w := by
  cases b
  · go_enter Tryd.func44, Tryd.ntmps44
    go_wp2_with fail
    go_ret
    exact ⟨rfl, rfl⟩
  · go_enter Tryd.func44, Tryd.ntmps44
    go_wp2_with fail
    go_ret
    exact ⟨rfl, rfl⟩

theorem xor_m1 (a : Int) (h : -2147483648 ≤ a ∧ a ≤ 2147483647) : bits .xor .i64 (-1) a = -1 - a := by
  rw [Ap.bits_xor _ _ ⟨by decide, by decide⟩ h]
  have e : bits .xor .i32 (-1) a = IntKind.i32.wrap (((BitVec.ofInt 32 (-1)) ^^^ (BitVec.ofInt 32 a)).toNat : Int) := rfl
  rw [e, Ap.wrap_toNat32]
  have e1 : BitVec.ofInt 32 (-1) = BitVec.allOnes 32 := by decide
  rw [e1, BitVec.allOnes_xor, BitVec.toInt_not]
  have e2 : (BitVec.ofInt 32 a).toNat = (a % 4294967296).toNat := by simp [BitVec.toNat_ofInt]
  rw [e2]
  have h3 : (0 : Int) ≤ a % 4294967296 := by omega
  simp only [Int.bmod]
  omega

set_option maxHeartbeats 1000000 in
theorem unS_any (op a : Int) (h0 : 0 ≤ op) (h2 : op ≤ 2) (ha : inB a) (w : World) : Calls Tryd.prog 27 #[.int .i64 op, .int .i64 a] w fun e w' => e = .returned (.int .i64 (unN op a)) ∧ w' = w := by
  obtain ⟨ha0, ha1⟩ := ha
  have : op = 0 ∨ op = 1 ∨ op = 2 := by omega
  rcases this with rfl | rfl | rfl
  · have HE : Hid (unN 0 a = wrap32 (-a)) := by show _ = _; simp [unN, w32]
    have HW : Hid (wrap64 (wrap32 (-a)) = wrap32 (-a)) := Ap.w64_32 _
    go_enter Tryd.func27, Tryd.ntmps27
    go_wp2
    all_goals go_ret
    all_goals refine ⟨Ap.ret_int ?_, rfl⟩
    all_goals first | exact HE.out.symm | exact HW.out.trans HE.out.symm
  · by_cases hz : a = 0
    · subst hz
      go_enter Tryd.func27, Tryd.ntmps27
      go_wp2
      all_goals go_ret
      all_goals exact ⟨rfl, rfl⟩
    · have HE : Hid (unN 1 a = 0) := by show _ = _; simp [unN, boolN, hz]
      have hzb : (a == 0) = false := by simp [hz]
      go_enter Tryd.func27, Tryd.ntmps27
      go_wp2
      all_goals go_ret
      all_goals exact ⟨Ap.ret_int HE.out.symm, rfl⟩
  · have HE : Hid (unN 2 a = -1 - a) := by show _ = _; simp only [unN, w32]; rw [if_neg (by decide), if_neg (by decide)]; exact Ap.w32_id _ ⟨by omega, by omega⟩
    go_enter Tryd.func27, Tryd.ntmps27
    go_wp2
    all_goals go_ret
    all_goals refine ⟨Ap.ret_int ?_, rfl⟩
    all_goals first | exact HE.out.symm | (rw [HE.out]; exact xor_m1 a ⟨ha0, ha1⟩)

set_option maxHeartbeats 1000000 in
theorem unI_any (op a : Int) (h0 : 0 ≤ op) (h2 : op ≤ 2) (ha : inB a) (w : World) : Calls Tryd.prog 37 #[.int .i64 op, .int .i64 a] w fun e w' => e = .returned (.int .i64 (unN op a)) ∧ w' = w := by
  obtain ⟨ha0, ha1⟩ := ha
  have : op = 0 ∨ op = 1 ∨ op = 2 := by omega
  rcases this with rfl | rfl | rfl
  · have HE : Hid (unN 0 a = wrap32 (-a)) := by show _ = _; simp [unN, w32]
    have HW : Hid (wrap64 (wrap32 (-a)) = wrap32 (-a)) := Ap.w64_32 _
    go_enter Tryd.func37, Tryd.ntmps37
    go_wp2
    all_goals go_ret
    all_goals refine ⟨Ap.ret_int ?_, rfl⟩
    all_goals first | exact HE.out.symm | exact HW.out.trans HE.out.symm
  · by_cases hz : a = 0
    · subst hz
      go_enter Tryd.func37, Tryd.ntmps37
      go_wp2
      all_goals go_ret
      all_goals exact ⟨rfl, rfl⟩
    · have HE : Hid (unN 1 a = 0) := by show _ = _; simp [unN, boolN, hz]
      have hzb : (a == 0) = false := by simp [hz]
      go_enter Tryd.func37, Tryd.ntmps37
      go_wp2
      all_goals go_ret
      all_goals exact ⟨Ap.ret_int HE.out.symm, rfl⟩
  · have HE : Hid (unN 2 a = -1 - a) := by show _ = _; simp only [unN, w32]; rw [if_neg (by decide), if_neg (by decide)]; exact Ap.w32_id _ ⟨by omega, by omega⟩
    go_enter Tryd.func37, Tryd.ntmps37
    go_wp2
    all_goals go_ret
    all_goals refine ⟨Ap.ret_int ?_, rfl⟩
    all_goals first | exact HE.out.symm | (rw [HE.out]; exact xor_m1 a ⟨ha0, ha1⟩)

theorem isN_cons {n : Nd} {r : List Nd} {x : Int} (h : isN (n :: r) = some x) : x = n.val := by
  cases r with
  | nil =>
    simp only [isN] at h
    split at h
    · simpa using h.symm
    · cases h
  | cons => simp [isN] at h

set_option maxHeartbeats 2000000 in
theorem truth_any (v : Value) (r : List Nd) (w : World) (hp : 0 < r.length) (hl : r.length ≤ 1048576) (hN : Nodes w v r) :
    Calls Tryd.prog 29 #[v] w fun e w' => ∃ x, e = .returned x ∧ Nodes w' x (truthL r) ∧ (∀ g, x.ownBlock = some g → w.heap.size ≤ g) ∧ Below w.heap.size w w' := by
  cases r with
  | nil => simp at hp
  | cons n r =>
  have HN : Hid (Nodes w v (n :: r)) := hN
  have HI : Hid (Calls Tryd.prog 25 #[v] w fun e w' => e = .returned (.tuple #[.bool (isN (n :: r)).isSome, .int .i64 n.val]) ∧ Below w.heap.size w w') := is_any v n r w hl hN
  cases hx : isN (n :: r) with
  | some x =>
    have HV : Hid (x = n.val) := isN_cons hx
    have HT : Hid (truthL (n :: r) = numN (boolN (decide (n.val ≠ 0)))) := by show _ = _; rw [← isN_cons hx]; simp [truthL, hx]
    rw [hx] at HI
    simp only [Option.isSome_some] at HI
    generalize n.val = nv at HI HT HV
    clear hN
    by_cases hz : nv = 0
    · subst hz
      go_enter Tryd.func29, Tryd.ntmps29
      go_wp2_with fail
      refine HI.out.mono ?_
      rintro e w1 ⟨rfl, hb1⟩
      go_wp2_with fail
      refine (bool_any false w1).mono ?_
      rintro e w2 ⟨rfl, rfl⟩
      go_wp2_with fail
      refine (num_any _ _).mono ?_
      rintro e w3 ⟨u, rfl, hu, hfu, hb3⟩
      have HU : Hid (Nodes w3 u (numN (boolN false))) := hu
      clear hu
      go_wp2_with fail
      refine bodyPost_ret (v := u) (by simp [results, Tryd.results29, go_sem]) rfl ⟨_, rfl, ?_, fun g hg => Nat.le_trans hb1.size (hfu g hg), hb1.trans (hb3.mono hb1.size)⟩
      rw [HT.out]
      exact HU.out
    · have hzb : (nv != 0) = true := by simp [hz]
      go_enter Tryd.func29, Tryd.ntmps29
      go_wp2_with fail
      refine HI.out.mono ?_
      rintro e w1 ⟨rfl, hb1⟩
      go_wp2_with fail
      refine (bool_any true w1).mono ?_
      rintro e w2 ⟨rfl, rfl⟩
      go_wp2_with fail
      refine (num_any _ _).mono ?_
      rintro e w3 ⟨u, rfl, hu, hfu, hb3⟩
      have HU : Hid (Nodes w3 u (numN (boolN true))) := hu
      clear hu
      go_wp2_with fail
      refine bodyPost_ret (v := u) (by simp [results, Tryd.results29, go_sem]) rfl ⟨_, rfl, ?_, fun g hg => Nat.le_trans hb1.size (hfu g hg), hb1.trans (hb3.mono hb1.size)⟩
      rw [HT.out, decide_eq_true hz]
      exact HU.out
  | none =>
    have HT : Hid (truthL (n :: r) = (n :: r) ++ [⟨1, 0, ⟨#[]⟩⟩, ⟨7, 12, ⟨#[]⟩⟩]) := by show _ = _; simp [truthL, hx]
    rw [hx] at HI
    simp only [Option.isSome_none] at HI
    generalize hq : n :: r = q at HN HT hl hp
    generalize n.val = nv at HI
    clear hN hx hq
    go_enter Tryd.func29, Tryd.ntmps29
    go_wp2_with fail
    refine HI.out.mono ?_
    rintro e w1 ⟨rfl, hb1⟩
    have hs1 := hb1.size
    have HL : Hid (∀ W : World, NRow w1.heap.size (w1.alloc (.cells #[] 34)) (.slice (some ⟨w1.heap.size, 0, none⟩) 0 0) []) := fun _ => World.ownsRow_lit w1 #[] 0 (Nat.le_refl _) (by decide) rfl
    go_wp2_with (at_builtin; refine wpList_appN rfl _ _ rfl w1.heap.size _ [] rfl (HL.out w) _ q rfl (HN.out.below (hb1.trans (((Below.refl _ _).alloc (Nat.le_refl _) _).mono hs1))) hp (by simp; omega) (by simp) ?_)
    intro v2 w2 hR2 hg2 _
    have hB2 : Below w1.heap.size w1 w2 := ((Below.refl _ _).alloc (Nat.le_refl _) _).grown hg2 (by simp) (fun k hk => by simp only [Value.ownBlock, Option.some.injEq] at hk; omega)
    have HR2 : Hid (NRow w1.heap.size w2 v2 q) := hR2
    have HN2 : Hid (Nodes (w2.alloc (.cells #[.int .i64 1, .int .i64 0, .string ⟨#[]⟩, .int .i64 7, .int .i64 12, .string ⟨#[]⟩] 34)) (.slice (some ⟨w2.heap.size, 0, none⟩) 2 2) [⟨1, 0, ⟨#[]⟩⟩, ⟨7, 12, ⟨#[]⟩⟩]) := by
      refine ⟨_, 2, rfl, Nat.le_refl _, by omega, fun _ => ⟨w2.heap.size, 0, rfl, fun j hj => ?_⟩⟩
      have : j = 0 ∨ j = 1 := by simp at hj; omega
      rcases this with rfl | rfl <;> simp
    have hs2 := hB2.size
    clear hR2 hg2
    go_wp2_with (at_builtin; refine wpList_appN rfl _ _ rfl w1.heap.size _ q rfl (HR2.out.below ((Below.refl _ _).alloc (Nat.le_refl _) _)) _ _ rfl HN2.out (by simp) (by simp; omega) (by simp; omega) ?_)
    intro v3 w3 hR3 hg3 _
    have hB3 : Below w1.heap.size w1 w3 := by
      refine (hB2.alloc hs2 _).grown hg3 (by simp; omega) (fun k hk => ?_)
      rcases HR2.out.2 with ⟨rfl, _⟩ | ⟨g, cap, cur, rfl, hg, _⟩
      · simp [Value.ownBlock] at hk
      · simp only [Value.ownBlock, Option.some.injEq] at hk; omega
    have HF3 : Hid (∀ g, v3.ownBlock = some g → w1.heap.size ≤ g) := fun g hg => (World.ownsRow.lt hR3 g hg).1
    have HR3 : Hid (Nodes w3 v3 (q ++ [⟨1, 0, ⟨#[]⟩⟩, ⟨7, 12, ⟨#[]⟩⟩])) := hR3.nodes
    clear hR3 hg3
    go_wp2_with fail
    refine bodyPost_ret (v := v3) (by simp [results, Tryd.results29, go_sem]) rfl ⟨_, rfl, ?_, fun g hg => Nat.le_trans hs1 (HF3.out g hg), hb1.trans (hB3.mono hs1)⟩
    rw [HT.out]
    exact HR3.out

end Go.Proofs.YtbmcnjjhgjphmaaDoor
