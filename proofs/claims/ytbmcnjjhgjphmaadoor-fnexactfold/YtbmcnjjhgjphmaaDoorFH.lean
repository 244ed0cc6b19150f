import Derived.Test.YtbmcnjjhgjphmaaDoorFG
import Derived.Deep.RegionHeld
namespace Go.Proofs.YtbmcnjjhgjphmaaDoor
open Go.RowKit
set_option linter.unusedVariables false
set_option linter.unusedSimpArgs false

theorem size0 {s : ByteArray} (h : s.toList = []) : s = ⟨#[]⟩ := by
  have hl : ∀ (n : Nat) (i : Nat) (r : List UInt8), s.size - i = n → ByteArray.toList.loop s i r = [] → r = [] := by
    intro n
    induction n with
    | zero =>
      intro i r hi h
      rw [ByteArray.toList.loop, if_neg (by omega)] at h
      simpa using h
    | succ n ih =>
      intro i r hi h
      rw [ByteArray.toList.loop, if_pos (by omega)] at h
      have := ih (i + 1) _ (by omega) h
      simp at this
  have h0 : s.size = 0 := by
    rcases Nat.eq_zero_or_pos s.size with h0 | hp
    · exact h0
    · rw [ByteArray.toList, ByteArray.toList.loop, if_pos hp] at h
      have := hl _ _ _ rfl h
      simp at this
  apply ByteArray.ext
  exact Array.eq_empty_of_size_eq_zero h0
/-- The fields that a node of its kind does not use. -/
theorem node_rest {n : Nd} (h : nodeB n = true) : (n.kind = 1 ∨ n.kind = 5 ∨ n.kind = 6 ∨ n.kind = 7 ∨ n.kind = 8 ∨ n.kind = 9 → n.name = ⟨#[]⟩) ∧ (n.kind = 2 ∨ n.kind = 3 ∨ n.kind = 5 ∨ n.kind = 8 ∨ n.kind = 9 → n.val = 0) := by
  unfold nodeB at h
  refine ⟨fun hk => ?_, fun hk => ?_⟩
  · apply size0
    rcases hk with hk | hk | hk | hk | hk | hk <;> (simp [hk] at h; exact h.2)
  · rcases hk with hk | hk | hk | hk | hk <;> (simp [hk] at h; exact h.1)

set_option maxHeartbeats 1000000 in
theorem nf_any (n : Nd) (hn : nodeB n = true) (A : Nat) (hA : arity n = A) (S : Nat → Prop) (ar : Value) (vs : Nat → Value) (F : Nat → List Nd) (w : World) (ha : Args w S ar A vs) (hv : ∀ i, i < A → Tv w S (vs i) (F i)) (hb : ∀ i, i < A → ∀ x, isN (F i) = some x → inB x) (hS : ∀ B, S B → B < w.heap.size) :
    Calls Tryd.prog 18 #[nodeV n ar vs] w fun e w' => ∃ u, e = .returned u ∧ Tv w' S u (fold1 apN n A F) ∧ Below w.heap.size w w' := by
  have hkk := kind_good hn
  obtain ⟨hr1, hr2⟩ := node_rest hn
  have h6 := fun h => val6' hn h
  obtain ⟨nk, nv, nm⟩ := n
  simp only at hkk hr1 hr2 h6
  have hk : nk = 1 ∨ nk = 2 ∨ nk = 3 ∨ nk = 4 ∨ nk = 5 ∨ nk = 6 ∨ nk = 7 ∨ nk = 8 ∨ nk = 9 := by omega
  rcases hk with rfl | rfl | rfl | rfl | rfl | rfl | rfl | rfl | rfl
  · obtain rfl := hr1 (by omega)
    have e1 : A = 0 := by simp [arity] at hA; omega
    subst e1
    refine (fold_else 64 _ (by decide) (by decide) (by decide) (by decide) w).mono ?_
    rintro e w' ⟨rfl, hb'⟩
    exact ⟨_, rfl, .num nv, hb'⟩
  · obtain rfl := hr2 (by omega)
    have e1 : A = 0 := by simp [arity] at hA; omega
    subst e1
    refine (fold_else 84 _ (by decide) (by decide) (by decide) (by decide) w).mono ?_
    rintro e w' ⟨rfl, hb'⟩
    exact ⟨_, rfl, .var nm, hb'⟩
  · obtain rfl := hr2 (by omega)
    have e1 : A = 1 := by simp [arity] at hA; omega
    subst e1
    refine (fold_else 86 _ (by decide) (by decide) (by decide) (by decide) w).mono ?_
    rintro e w' ⟨rfl, hb'⟩
    exact ⟨_, rfl, .index nm _ _ ((hv 0 (by omega)).bel hS hb'), hb'⟩
  · have e1 : nv = A := by simp [arity] at hA; omega
    subst e1
    refine (fold_else 88 _ (by decide) (by decide) (by decide) (by decide) w).mono ?_
    rintro e w' ⟨rfl, hb'⟩
    exact ⟨_, rfl, .call nm _ A vs F (ha.keep (fun _ h => h) (fun B hB => hb'.block B (hS B hB))) (fun i hi => (hv i hi).bel hS hb'), hb'⟩
  · obtain rfl := hr1 (by omega)
    obtain rfl := hr2 (by omega)
    have e1 : A = 0 := by simp [arity] at hA; omega
    subst e1
    refine (fold_else 91 _ (by decide) (by decide) (by decide) (by decide) w).mono ?_
    rintro e w' ⟨rfl, hb'⟩
    exact ⟨_, rfl, .inn, hb'⟩
  · obtain rfl := hr1 (by omega)
    have e1 : A = 1 := by simp [arity] at hA; omega
    subst e1
    exact fv_un nv (h6 rfl).1 (h6 rfl).2 (hv 0 (by omega)) (hb 0 (by omega)) hS
  · obtain rfl := hr1 (by omega)
    have e1 : A = 2 := by simp [arity] at hA; omega
    subst e1
    exact fv_bin nv (hv 0 (by omega)) (hv 1 (by omega)) hS
  · obtain rfl := hr1 (by omega)
    obtain rfl := hr2 (by omega)
    have e1 : A = 2 := by simp [arity] at hA; omega
    subst e1
    exact fv_and (hv 0 (by omega)) (hv 1 (by omega)) (hb 1 (by omega)) hS
  · obtain rfl := hr1 (by omega)
    obtain rfl := hr2 (by omega)
    have e1 : A = 2 := by simp [arity] at hA; omega
    subst e1
    exact fv_or (hv 0 (by omega)) (hv 1 (by omega)) (hb 1 (by omega)) hS

set_option maxRecDepth 100000 in
set_option maxHeartbeats 4000000 in
theorem build_any (n : Nd) (hn : nodeB n = true) (A : Nat) (hA : arity n = A) (S : Nat → Prop) (ar : Value) (vs : Nat → Value) (F : Nat → List Nd) (C : Nat) (w : World) (hC : w.cell? ⟨C, 0, none⟩ = some (.func (Fn.func 18) #[] #[])) (ha : Args w S ar A vs) (hv : ∀ i, i < A → Tv w S (vs i) (F i)) (hb : ∀ i, i < A → ∀ x, isN (F i) = some x → inB x) (hS : ∀ B, S B → B < w.heap.size) :
    Calls Tryd.prog 35 #[.agg #[.int .i64 n.kind, .int .i64 n.val, .string n.name], ar, .pointer (some ⟨C, 0, none⟩)] w fun e w' => ∃ u, e = .returned u ∧ Tv w' S u (fold1 apN n A F) ∧ Below w.heap.size w w' := by
  have hltC := World.block_lt_of_cell? _ _ hC
  have bx : ∀ o, Below w.heap.size w (w.alloc o).drew := fun o => ((Below.refl _ _).alloc (Nat.le_refl _) o).drew
  have HN : Hid (∀ W, Below w.heap.size w W → Calls Tryd.prog 36 #[.agg #[.int .i64 n.kind, .int .i64 n.val, .string n.name], ar] W fun e w' => e = .returned (nodeV n ar vs) ∧ Below W.heap.size W w') := fun W hW => nodeOf_any n hn A hA S ar vs W (ha.keep (fun _ h => h) (fun B hB => hW.block B (hS B hB))) (fun i hi => (hv i hi).isI)
  have HF : Hid (∀ W, Below w.heap.size w W → Calls Tryd.prog 18 #[nodeV n ar vs] W fun e w' => ∃ u, e = .returned u ∧ Tv w' S u (fold1 apN n A F) ∧ Below W.heap.size W w') := fun W hW => nf_any n hn A hA S ar vs F W (ha.keep (fun _ h => h) (fun B hB => hW.block B (hS B hB))) (fun i hi => (hv i hi).bel hS hW) hb (fun B hB => Nat.lt_of_lt_of_le (hS B hB) hW.size)
  have q0 : ∀ o, (w.alloc o).cell? ⟨C, 0, none⟩ = some (.func (Fn.func 18) #[] #[]) := fun o => (((Below.refl _ _).alloc (Nat.le_refl _) o : Below w.heap.size w (w.alloc o)).cell (p := ⟨C, 0, none⟩) hltC).trans hC
  obtain ⟨nk, nv, nm⟩ := n
  simp only at HN HF ⊢
  generalize nodeV ⟨nk, nv, nm⟩ ar vs = NV at HN HF
  generalize fold1 apN ⟨nk, nv, nm⟩ A F = T at HF ⊢
  clear ha hv hb hA hn hC
  go_enter Tryd.func35, Tryd.ntmps35
  go_wp2_with fail
  have HB : Hid (∀ o, Below w.heap.size w (w.alloc o).drew) := bx
  have HN1 : Hid (∀ o, Calls Tryd.prog 36 #[.agg #[.int .i64 nk, .int .i64 nv, .string nm], ar] (w.alloc o).drew fun e w' => e = .returned NV ∧ Below (w.alloc o).drew.heap.size (w.alloc o).drew w') := fun o => HN.out _ (bx o)
  have HK : Hid (∀ w2, Below (w.alloc (.cells #[.int .i64 nk, .int .i64 nv, .string nm] 34)).drew.heap.size (w.alloc (.cells #[.int .i64 nk, .int .i64 nv, .string nm] 34)).drew w2 → w2.cell? ⟨C, 0, none⟩ = some (.func (Fn.func 18) #[] #[]) ∧ w2.cell? ⟨w.heap.size, 0, none⟩ = some (.int .i64 nk) ∧ w2.cell? ⟨w.heap.size, 1, none⟩ = some (.int .i64 nv) ∧ w2.cell? ⟨w.heap.size, 2, none⟩ = some (.string nm) ∧ Below w.heap.size w w2) := by
    intro w2 h
    have h1 : Below (w.alloc (.cells #[.int .i64 nk, .int .i64 nv, .string nm] 34)).heap.size (w.alloc (.cells #[.int .i64 nk, .int .i64 nv, .string nm] 34)) w2 := (Below.refl _ _).drew.trans h
    have g : ∀ i v, (w.alloc (.cells #[.int .i64 nk, .int .i64 nv, .string nm] 34)).cell? ⟨w.heap.size, i, none⟩ = some v → w2.cell? ⟨w.heap.size, i, none⟩ = some v := fun i v hv => (h1.cell (p := ⟨w.heap.size, i, none⟩) (by simp)).trans hv
    exact ⟨(h1.cell (p := ⟨C, 0, none⟩) (by simp; omega)).trans (q0 _), g _ _ (by go_simp), g _ _ (by go_simp), g _ _ (by go_simp), (bx _).trans (h.mono (by simp))⟩
  have HK2 : ∀ w2 w3 : World, Below w2.heap.size w2 w3 → ∀ B i v, w2.cell? ⟨B, i, none⟩ = some v → w3.cell? ⟨B, i, none⟩ = some v := by
    intro w2 w3 h B i v hv
    exact (h.cell (p := ⟨B, i, none⟩) (World.block_lt_of_cell? _ _ hv)).trans hv
  have HF2 : Hid (∀ W : World, Below w.heap.size w W → W.cell? ⟨C, 0, none⟩ = some (.func (Fn.func 18) #[] #[]) → W.cell? ⟨w.heap.size, 0, none⟩ = some (.int .i64 nk) → W.cell? ⟨w.heap.size, 1, none⟩ = some (.int .i64 nv) → W.cell? ⟨w.heap.size, 2, none⟩ = some (.string nm) → Calls Tryd.prog 18 #[NV] W fun e w' => ∃ u, e = .returned u ∧ (Tv w' S u T ∧ Below w.heap.size w w') ∧ w'.cell? ⟨C, 0, none⟩ = some (.func (Fn.func 18) #[] #[]) ∧ w'.cell? ⟨w.heap.size, 0, none⟩ = some (.int .i64 nk) ∧ w'.cell? ⟨w.heap.size, 1, none⟩ = some (.int .i64 nv) ∧ w'.cell? ⟨w.heap.size, 2, none⟩ = some (.string nm)) := by
    intro W hW h1 h2 h3 h4
    refine (HF.out W hW).mono ?_
    rintro e w' ⟨u, rfl, h5, h6⟩
    exact ⟨u, rfl, ⟨h5, hW.trans (h6.mono hW.size)⟩, HK2 _ _ h6 _ _ _ h1, HK2 _ _ h6 _ _ _ h2, HK2 _ _ h6 _ _ _ h3, HK2 _ _ h6 _ _ _ h4⟩
  clear HK2 HN
  have q1 := q0 (.cells #[.int .i64 nk, .int .i64 nv, .string nm] 34)
  go_region_held (fun W => W.cell? ⟨C, 0, none⟩ = some (.func (Fn.func 18) #[] #[]) ∧ W.cell? ⟨w.heap.size, 0, none⟩ = some (.int .i64 nk) ∧ W.cell? ⟨w.heap.size, 1, none⟩ = some (.int .i64 nv) ∧ W.cell? ⟨w.heap.size, 2, none⟩ = some (.string nm)) (first | go_keep | (exact ⟨q1, by go_simp, by go_simp, by go_simp⟩))
    (first
    | ((with_reducible refine Calls.mono (HN1.out _) ?_); intro x w2 hx; obtain ⟨hx1, hx2⟩ := hx; subst hx1; obtain ⟨qa, q00, q01, q02, qw⟩ := HK.out w2 hx2; clear hx2)
    | ((with_reducible refine Calls.mono (HF2.out _ qw qa q00 q01 q02) ?_); intro x w3 hx; obtain ⟨u, hx1, hx2, r0, r1, r2, r3⟩ := hx; subst hx1; have HT : Hid (Tv w3 S u T ∧ Below w.heap.size w w3) := hx2; clear hx2))
  go_wp2_with fail
  go_ret
  exact ⟨_, rfl, HT.out.1, HT.out.2⟩

end Go.Proofs.YtbmcnjjhgjphmaaDoor
