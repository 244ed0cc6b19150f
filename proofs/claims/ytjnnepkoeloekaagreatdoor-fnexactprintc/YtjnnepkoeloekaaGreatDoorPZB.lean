import Derived.Test.YtjnnepkoeloekaaGreatDoorPZA
import Derived.Test.YtjnnepkoeloekaaGreatDoorPZR
import Derived.Lib.QuietBelow
import Derived.BigQuiet
import Derived.Deep.RegionHeld
import Derived.Deep.CutRange
namespace Go.Proofs.YtjnnepkoeloekaaGreatDoor
open Go.RowKit Go.Sort
set_option linter.unusedVariables false
set_option linter.unusedSimpArgs false

/-- What l2Show answers at an expression whose nodes lie in w0. -/
def ShowSpec (w0 : World) (e : List Nd) (s : List UInt8) : Prop :=
  ∀ (v : Value) (w : World), Nodes w0 v e → Below w0.heap.size w0 w →
    Calls Tryz.prog 32 #[v] w fun x w' => x = .returned (.string (tx s)) ∧ Below w.heap.size w w'

theorem commas_le2 (S : Nat → List UInt8) (c : Nat) (k : Nat) (h : ∀ i, i < k → (S i).length ≤ c) : (commas S k).length ≤ (c + 2) * k := by
  induction k with
  | zero => simp [commas]
  | succ k ih =>
    have h1 := ih (fun i hi => h i (by omega))
    have h2 := h k (by omega)
    have h3 : (if k = 0 then ([] : List UInt8) else [44, 32]).length ≤ 2 := by split <;> simp
    simp only [commas, List.length_append]
    rw [Nat.mul_succ]
    omega

theorem lt17 {i : Nat} (h : i < 17) : i = 0 ∨ i = 1 ∨ i = 2 ∨ i = 3 ∨ i = 4 ∨ i = 5 ∨ i = 6 ∨ i = 7 ∨ i = 8 ∨ i = 9 ∨ i = 10 ∨ i = 11 ∨ i = 12 ∨ i = 13 ∨ i = 14 ∨ i = 15 ∨ i = 16 := by omega
def unObj : Obj := .cells #[.string { data := #[45] }, .string { data := #[33] }, .string { data := #[126] }] 9
theorem un_cell2 {V : World} {g m : Nat} (h : V.heap[g]? = some unObj) (hm : m < 3) : V.cell? ⟨g, m, none⟩ = some (.string (tx (unTab.getD m []))) := by
  have : m = 0 ∨ m = 1 ∨ m = 2 := by omega
  rcases this with rfl | rfl | rfl <;> simp [World.cell?, h, unObj, unTab, tx]
theorem un_cell (V : World) (m : Nat) (hm : m < 3) : (V.alloc (.cells #[.string { data := #[45] }, .string { data := #[33] }, .string { data := #[126] }] 9)).cell? ⟨V.heap.size, m, none⟩ = some (.string (tx (unTab.getD m []))) := by
  have : m = 0 ∨ m = 1 ∨ m = 2 := by omega
  rcases this with rfl | rfl | rfl <;> simp [unTab, tx]
theorem bcell2 {w w' : World} (h : Below w.heap.size w w') : ∀ b o, b < w.heap.size → w'.cell? ⟨b, o, none⟩ = w.cell? ⟨b, o, none⟩ := fun b o hb => h.cell (p := ⟨b, o, none⟩) hb
theorem blt2 {w w' : World} (h : Below w.heap.size w w') : ∀ b, b < w.heap.size → b < w'.heap.size := fun b hb => Nat.lt_of_lt_of_le hb h.size

set_option maxRecDepth 100000 in
set_option maxHeartbeats 4000000 in
theorem show_step (w0 : World) (e : List Nd) (A : Nat) (b : Nat → Nat) (S : Nat → List UInt8) (hc0 : Cut e A b) (hl1 : e.length ≤ 1048576) (hS : ∀ i, i < A → (S i).length ≤ 50000000) (hL : (show1 (rootN e) A S (fun i => strN (rootN (kid e b i)))).length ≤ 50000000) (hX : ∀ i, i < A → ShowSpec w0 (kid e b i) (S i)) :
    ShowSpec w0 e (show1 (rootN e) A S (fun i => strN (rootN (kid e b i)))) := by
  intro v w hN hB
  have HN : Hid (Nodes w0 v e) := hN
  have HB : Hid (Below w0.heap.size w0 w) := hB
  have HCut : Hid (Cut e A b) := hc0
  have HX : Hid (∀ i, i < A → ShowSpec w0 (kid e b i) (S i)) := hX
  have HSl : Hid (∀ i, i < A → (S i).length ≤ 50000000) := hS
  have he := hc0.len
  have HG : Hid (nodeB (rootN e) = true) := hc0.root_good
  have HA : Hid (arity (rootN e) = A) := hc0.ar
  have HR : Hid (Calls Tryz.prog 52 #[v] w fun r w' => r = .returned (.agg #[.int .i64 (rootN e).kind, .int .i64 (rootN e).val, .string (rootN e).name]) ∧ Below w.heap.size w w') := by
    have := root_any _ e w he hl1 (hN.below hB)
    rw [← rootN_eq e he] at this
    exact this
  have HK : Hid (∀ W : World, Below w.heap.size w W → Calls Tryz.prog 53 #[v] W fun r w' => ∃ v', r = .returned v' ∧ Kids w0 w' W.heap.size v' e b A ∧ Below W.heap.size W w') := fun W hW => kids_any w0 v e A b W hl1 hN (hB.trans (hW.mono hB.size)) hc0
  clear hB hN hc0 hX hS
  generalize hR : rootN e = R at hL HG HA HR ⊢
  clear hR
  obtain ⟨nk, nv, nm⟩ := R
  obtain ⟨nl, rfl⟩ : ∃ nl, nm = tx nl := ⟨_, (tx_back nm).symm⟩
  simp only at HR
  generalize hTx : show1 ⟨nk, nv, tx nl⟩ A S (fun i => strN (rootN (kid e b i))) = T at hL ⊢
  have HTx : Hid (show1 ⟨nk, nv, tx nl⟩ A S (fun i => strN (rootN (kid e b i))) = T) := hTx
  have HL : Hid (T.length ≤ 50000000) := hL
  clear hL hTx
  have hnl0 : (tx nl).size ≤ 20 := name_len HG.out
  have hnl : ((tx nl).size : Int) ≤ 20 := by omega
  go_enter Tryz.func32, Tryz.ntmps32
  go_wp2_with fail
  refine HR.out.mono ?_
  rintro x w1 ⟨rfl, hb1⟩
  go_wp2_with fail
  have hba : ∀ o, Below w.heap.size w (w1.alloc o) := fun o => hb1.alloc hb1.size o
  refine (HK.out _ (hba _)).mono ?_
  rintro x W ⟨vk, rfl, hKd, hb2⟩
  obtain ⟨g0, g1, g2⟩ : W.cell? ⟨w1.heap.size, 0, none⟩ = some (.int .i64 nk) ∧ W.cell? ⟨w1.heap.size, 1, none⟩ = some (.int .i64 nv) ∧ W.cell? ⟨w1.heap.size, 2, none⟩ = some (.string (tx nl)) := by
    refine ⟨?_, ?_, ?_⟩
    · rw [hb2.cell (by simp)]; simp
    · rw [hb2.cell (by simp)]; simp
    · rw [hb2.cell (by simp)]; simp
  have HBW : Hid (Below w.heap.size w W) := (hba _).trans (hb2.mono (by have := hb1.size; simp; omega))
  have HB0 : Hid (Below w0.heap.size w0 W) := HB.out.trans (HBW.out.mono HB.out.size)
  have HKd : Hid (Kids w0 W (w1.alloc (.cells #[.int .i64 nk, .int .i64 nv, .string (tx nl)] 90)).heap.size vk e b A) := hKd
  clear hba hb1 hb2 HR HK
  generalize w1.heap.size = G at g0 g1 g2 ⊢
  have hkk : 1 ≤ nk ∧ nk ≤ 9 := kind_good HG.out
  have hk : nk = 1 ∨ nk = 2 ∨ nk = 3 ∨ nk = 4 ∨ nk = 5 ∨ nk = 6 ∨ 7 ≤ nk := by omega
  rcases hk with rfl | rfl | rfl | rfl | rfl | rfl | hk7
  · have HV : Hid (-2147483648 ≤ nv ∧ nv ≤ 2147483647) := val1 HG.out rfl
    have HE : Hid (T = Lib.itoa nv) := HTx.out.symm.trans rfl
    clear hKd
    go_wp2_with fail
    refine (digits_any nv HV.out.1 (by have := HV.out; omega) W).mono ?_
    rintro x w2 ⟨rfl, hb2⟩
    go_wp2_with fail
    go_ret
    exact ⟨ret_str (by rw [HE.out]), HBW.out.trans (hb2.mono HBW.out.size)⟩
  · have HE : Hid (T = nl) := HTx.out.symm.trans (by simp [show1, tx])
    clear hKd
    go_wp2_with fail
    go_ret
    exact ⟨ret_str (by rw [HE.out]), HBW.out⟩
  · -- an element
    have hA1 : A = 1 := by have := HA.out; simp [arity] at this; omega
    subst hA1
    obtain ⟨ua, uc, rfl, hu1, hu2, hu3⟩ := hKd
    obtain ⟨B, rfl, -, -, hBc⟩ := hu3 (by omega)
    obtain ⟨vi, hv1, hv2⟩ := hBc 0 (by omega)
    have HE : Hid (T = nl ++ [91] ++ S 0 ++ [93]) := HTx.out.symm.trans (by simp [show1, tx])
    have HS0 : Hid ((S 0).length ≤ 50000000) := HSl.out 0 (by omega)
    have cS : ∀ d os, Calls Tryz.prog 32 #[vi] (grow (redrawn W d) os) fun e w'' => e = .returned (.string (tx (S 0))) ∧ ∃ p : Regrown, w'' = grow (redrawn W p.d) p.os := fun d os => Calls.regrown_of (HX.out 0 (by omega) vi _ hv2 (HB0.out.trans ((below_regrown W d os).mono HB0.out.size)))
    have k2 := cell_regrown g2
    have kv := cell_regrown hv1
    have h91 : (⟨#[91]⟩ : ByteArray).size = 1 := rfl
    have h93 : (⟨#[93]⟩ : ByteArray).size = 1 := rfl
    have hE1 : tx nl ++ (⟨#[91]⟩ : ByteArray) = tx (nl ++ [91]) := tx_append nl [91]
    have hE2 : tx (nl ++ [91]) ++ tx (S 0) = tx (nl ++ [91] ++ S 0) := tx_append _ _
    have hE3 : tx (nl ++ [91] ++ S 0) ++ (⟨#[93]⟩ : ByteArray) = tx (nl ++ [91] ++ S 0 ++ [93]) := tx_append _ [93]
    have hs1 : ((tx (nl ++ [91])).size : Int) ≤ 21 := by rw [tx_size] at *; simp only [List.length_append, List.length_cons, List.length_nil]; omega
    have hs2 : ((tx (S 0)).size : Int) ≤ 50000000 := by have := HS0.out; rw [tx_size]; omega
    have hs3 : ((tx (nl ++ [91] ++ S 0)).size : Int) ≤ 50000021 := by have := HS0.out; rw [tx_size] at *; simp only [List.length_append, List.length_cons, List.length_nil]; omega
    generalize hX3 : tx (nl ++ [91] ++ S 0 ++ [93]) = X3 at hE3
    have HX3 : Hid (tx (nl ++ [91] ++ S 0 ++ [93]) = X3) := hX3
    clear hX3
    generalize tx (nl ++ [91] ++ S 0) = X2 at hE2 hE3 hs3
    generalize tx (nl ++ [91]) = X1 at hE1 hE2 hs1
    generalize tx (S 0) = X0 at hE2 hs2 cS
    have n1 : ¬ 9223372036854775807 < (tx nl).size + 1 := by omega
    have n2 : ¬ 9223372036854775807 < X1.size + X0.size := by omega
    have n3 : ¬ 9223372036854775807 < X2.size + 1 := by omega
    clear hu3 hBc hv2
    go_wp2_with fail
    refine wp_region_quiet_below (by kernel_rfl) (by kernel_rfl) ?_
    repeat (quiet_step (first | exact cS _ _))
    refine wpQuiet_nil ?_
    intro _ hw'
    obtain ⟨⟨dq, osq⟩, hw''⟩ := hw'
    subst hw''
    go_wp2_with fail
    go_ret
    exact ⟨ret_str (by rw [HE.out, HX3.out]), HBW.out.trans ((below_regrown W dq osq).mono HBW.out.size)⟩
  · -- a call
    obtain ⟨ua, uc, rfl, hu1, hu2, hu3⟩ := hKd
    have HKs : Hid (Kids w0 W (w1.alloc (.cells #[.int .i64 4, .int .i64 nv, .string (tx nl)] 90)).heap.size (.slice ua A uc) e b A) := HKd.out
    have HE : Hid (T = nl ++ [40] ++ commas S A ++ [41]) := HTx.out.symm.trans (by simp [show1, tx])
    have hA6 : (A : Int) ≤ 6 := by have := HCut.out.arA; omega
    have HCm : Hid (∀ k, k ≤ A → (commas S k).length ≤ 400000000) := fun k hk => by
      have := commas_le2 S 50000000 k (fun i hi => HSl.out i (by omega))
      have : (50000000 + 2) * k ≤ (50000000 + 2) * 6 := Nat.mul_le_mul_left _ (by omega)
      omega
    have hnl' : nl.length ≤ 20 := by rw [tx_size] at hnl0; exact hnl0
    have h40 : (⟨#[40]⟩ : ByteArray).size = 1 := rfl
    have hE1 : tx nl ++ (⟨#[40]⟩ : ByteArray) = tx (nl ++ [40]) := tx_append nl [40]
    have HX1 : Hid (tx (nl ++ [40]) = tx (nl ++ [40] ++ commas S 0)) := by show _ = _; simp [commas]
    generalize hx1 : tx (nl ++ [40]) = X1 at hE1
    rw [hx1] at HX1
    clear hu3 hx1
    go_wp2_with fail
    go_loopw [5, 6] (fun ot ix wr => ∃ k : Nat, k ≤ A ∧ ix = .int .i64 k ∧ ot = .string (tx (nl ++ [40] ++ commas S k)) ∧ Below W.heap.size W wr) (fun _ ix _ => A - (intOf ix).toNat)
    case atStart => exact ⟨0, Nat.zero_le _, rfl, by rw [← HX1.out], Below.refl _ _⟩
    case round =>
      obtain ⟨k, hk, rfl, rfl, hBk⟩ := hrel
      have hsk : ((tx (nl ++ [40] ++ commas S k)).size : Int) ≤ 500000000 := by have := HCm.out k hk; rw [tx_size]; simp only [List.length_append, List.length_cons, List.length_nil]; omega
      clear hE1
      by_cases hkA : k < A
      · obtain ⟨ua', uc', he, _, _, hu3⟩ := HKs.out
        simp only [Value.slice.injEq, true_and] at he
        obtain ⟨rfl, rfl⟩ := he
        obtain ⟨B, rfl, -, hBl, hBc⟩ := hu3 (by omega)
        obtain ⟨vi, hv1, hv2⟩ := hBc k hkA
        have hv := (hBk.cell (p := ⟨B, k, none⟩) hBl).trans hv1
        have HC : Hid (Calls Tryz.prog 32 #[vi] wr fun x w' => x = .returned (.string (tx (S k))) ∧ Below wr.heap.size wr w') := HX.out k hkA vi wr hv2 (HB0.out.trans (hBk.mono HB0.out.size))
        have hsS : ((tx (S k)).size : Int) ≤ 50000000 := by have := HSl.out k hkA; rw [tx_size]; omega
        clear hu3 hBc hv2 hv1
        by_cases hk0 : k = 0
        · subst hk0
          have hkA' : (0 : Int) < (A : Int) := by omega
          have hE2 : tx (nl ++ [40] ++ commas S 0) ++ tx (S 0) = tx (nl ++ [40] ++ commas S (0 + 1)) := by rw [tx_append]; simp [commas]
          generalize hx2 : tx (nl ++ [40] ++ commas S (0 + 1)) = X2 at hE2
          have HX2 : Hid (tx (nl ++ [40] ++ commas S (0 + 1)) = X2) := hx2
          generalize tx (nl ++ [40] ++ commas S 0) = Xk at hE2 hsk ⊢
          generalize tx (S 0) = X0 at hE2 hsS HC
          clear hx2
          go_wp2_with fail
          refine HC.out.mono ?_
          rintro x w3 ⟨rfl, hb3⟩
          go_wp2_with fail
          go_roundw
          case rel => exact ⟨0 + 1, by omega, by go_num, by rw [HX2.out], hBk.trans (hb3.mono hBk.size)⟩
          case measure => simp [intOf]; omega
        · have hkp : (0 : Int) < (k : Int) := by omega
          have h44 : (⟨#[44, 32]⟩ : ByteArray).size = 2 := rfl
          have hE1 : tx (nl ++ [40] ++ commas S k) ++ (⟨#[44, 32]⟩ : ByteArray) = tx (nl ++ [40] ++ commas S k ++ [44, 32]) := tx_append _ [44, 32]
          have hE2 : tx (nl ++ [40] ++ commas S k ++ [44, 32]) ++ tx (S k) = tx (nl ++ [40] ++ commas S (k + 1)) := by rw [tx_append]; simp [commas, hk0]
          have hs2 : ((tx (nl ++ [40] ++ commas S k ++ [44, 32])).size : Int) ≤ 500000002 := by rw [tx_size] at *; simp only [List.length_append, List.length_cons, List.length_nil] at *; omega
          generalize hx2 : tx (nl ++ [40] ++ commas S (k + 1)) = X2 at hE2
          have HX2 : Hid (tx (nl ++ [40] ++ commas S (k + 1)) = X2) := hx2
          generalize tx (nl ++ [40] ++ commas S k ++ [44, 32]) = Xm at hE1 hE2 hs2
          generalize tx (nl ++ [40] ++ commas S k) = Xk at hE1 hsk ⊢
          generalize tx (S k) = X0 at hE2 hsS HC
          clear hx2
          go_wp2_with fail
          refine HC.out.mono ?_
          rintro x w3 ⟨rfl, hb3⟩
          go_wp2_with fail
          go_roundw
          case rel => exact ⟨k + 1, by omega, by go_num, by rw [HX2.out], hBk.trans (hb3.mono hBk.size)⟩
          case measure => simp [intOf]; omega
      · obtain rfl : k = A := by omega
        have h41 : (⟨#[41]⟩ : ByteArray).size = 1 := rfl
        have hE1 : tx (nl ++ [40] ++ commas S k) ++ (⟨#[41]⟩ : ByteArray) = tx (nl ++ [40] ++ commas S k ++ [41]) := tx_append _ [41]
        generalize hx2 : tx (nl ++ [40] ++ commas S k ++ [41]) = X2 at hE1
        have HX2 : Hid (tx (nl ++ [40] ++ commas S k ++ [41]) = X2) := hx2
        generalize tx (nl ++ [40] ++ commas S k) = Xk at hE1 hsk ⊢
        clear hx2
        go_wp2_with fail
        go_ret
        exact ⟨ret_str (by rw [HE.out, HX2.out]), HBW.out.trans (hBk.mono HBW.out.size)⟩
  · have HE : Hid (T = [105, 110, 40, 41]) := HTx.out.symm.trans (by simp [show1])
    clear hKd
    go_wp2_with fail
    go_ret
    exact ⟨ret_str (by rw [HE.out]; rfl), HBW.out⟩
  · -- an operator in front
    have hA1 : A = 1 := by have := HA.out; simp [arity] at this; omega
    subst hA1
    obtain ⟨ua, uc, rfl, hu1, hu2, hu3⟩ := hKd
    obtain ⟨B, rfl, -, hBl, hBc⟩ := hu3 (by omega)
    obtain ⟨vi, hv1, hv2⟩ := hBc 0 (by omega)
    have hE : T = unTab.getD nv.toNat [] ++ heldL (S 0) (decide (strN (rootN (kid e b 0)) < 11)) := HTx.out.symm.trans (by simp [show1])
    have l0 := HSl.out 0 (by omega)
    have t0l := held_len (S 0) (decide (strN (rootN (kid e b 0)) < 11))
    have ul := un_len nv.toNat
    obtain ⟨hnv0, hnv2⟩ : 0 ≤ nv ∧ nv ≤ 2 := val6 HG.out rfl
    obtain ⟨m, rfl⟩ : ∃ m : Nat, nv = m := ⟨nv.toNat, by omega⟩
    rw [Int.toNat_natCast] at hE ul
    have hm : m < 3 := by omega
    have hm' : (m : Int) < 3 := by omega
    have hun := fun (V : World) => un_cell V m hm
    have HSh : Hid (∀ V : World, Below W.heap.size W V → Calls Tryz.prog 32 #[vi] V fun e' w' => e' = .returned (.string (tx (S 0))) ∧ Below V.heap.size V w') := fun V hV => HX.out 0 (by omega) vi V hv2 (HB0.out.trans (hV.mono HB0.out.size))
    have HRt : Hid (∀ V : World, Below W.heap.size W V → Calls Tryz.prog 52 #[vi] V fun e' w' => e' = .returned (.agg #[.int .i64 (rootN (kid e b 0)).kind, .int .i64 (rootN (kid e b 0)).val, .string (rootN (kid e b 0)).name]) ∧ Below V.heap.size V w') := fun V hV => by
      have := root_any vi (kid e b 0) V (HCut.out.kid_pos 0 (by omega)) (by have := HCut.out.kid_lt 0 (by omega); omega) (hv2.below (HB0.out.trans (hV.mono HB0.out.size)))
      rw [← rootN_eq _ (HCut.out.kid_pos 0 (by omega))] at this
      exact this
    have HSt : Hid (∀ V : World, Calls Tryz.prog 55 #[.agg #[.int .i64 (rootN (kid e b 0)).kind, .int .i64 (rootN (kid e b 0)).val, .string (rootN (kid e b 0)).name]] V fun e' w' => e' = .returned (.int .i64 (strN (rootN (kid e b 0)))) ∧ Below V.heap.size V w') := fun V => str_any _ (HCut.out.kid_root 0 (by omega)) V
    generalize strN (rootN (kid e b 0)) = st0 at hE HSt t0l
    generalize (rootN (kid e b 0)).kind = ak at HRt HSt
    generalize (rootN (kid e b 0)).val = av at HRt HSt
    generalize (rootN (kid e b 0)).name = an at HRt HSt
    have HH : Hid (∀ V : World, Calls Tryz.prog 54 #[.string (tx (S 0)), .bool (decide (st0 < 11))] V fun e' w' => e' = .returned (.string (tx (heldL (S 0) (decide (st0 < 11))))) ∧ Below V.heap.size V w') := fun V => (held_any (S 0) _ (by omega) V).mono (by rintro e w' ⟨rfl, rfl⟩; exact ⟨rfl, Below.refl _ _⟩)
    generalize heldL (S 0) (decide (st0 < 11)) = t0 at hE HH t0l
    generalize hgU0 : unTab.getD m [] = U at hE hun ul
    have HE : Hid (T = U ++ t0) := hE
    have hGl : G < W.heap.size := World.block_lt_of_cell? _ _ g0
    have HTr : Hid (∀ V V' : World, Below V.heap.size V V' → Below W.heap.size W V → Below W.heap.size W V' ∧ V'.cell? ⟨G, 1, none⟩ = some (.int .i64 (m : Int)) ∧ V'.cell? ⟨B, 0, none⟩ = some vi) := fun V V' h h' => by
      have hb := h'.trans (h.mono h'.size)
      exact ⟨hb, (hb.cell (p := ⟨G, 1, none⟩) hGl).trans g1, (hb.cell (p := ⟨B, 0, none⟩) hBl).trans hv1⟩
    have HDr : Hid (Below W.heap.size W W.drew) := (Below.refl _ _).drew
    have hdr : ∀ V : World, Below W.heap.size W V → Below W.heap.size W V.drew := fun V h => h.drew
    have hrf : Below W.heap.size W W := Below.refl _ _
    have hal : ∀ (V : World) (o : Obj), Below W.heap.size W V → Below W.heap.size W (V.alloc o) := fun V o h => h.alloc h.size o
    have hE1 : tx U ++ tx t0 = tx (U ++ t0) := tx_append _ _
    have s0 : ((tx t0).size : Int) ≤ 60000000 := by rw [tx_size]; omega
    have s1 : ((tx U).size : Int) ≤ 1 := by rw [tx_size]; omega
    generalize hx : tx (U ++ t0) = YT at hE1
    have HY : Hid (tx (U ++ t0) = YT) := hx
    generalize tx t0 = Y0 at hE1 s0 HH
    generalize hgU1 : tx U = YU at hE1 s1 hun
    have hgU : tx (unTab.getD m []) = YU := by rw [hgU0]; exact hgU1
    clear hgU0 hgU1 hun
    generalize tx (S 0) = YS at HSh HH
    clear hu3 hBc hv2 hE hx hkk HTx HA HX
    go_wp2_with fail
    have hUn := fun (V : World) (g : Nat) (h : V.heap[g]? = some unObj) => un_cell2 h hm
    rw [hgU] at hUn
    refine wp_region_grow (by kernel_rfl) (n := 17) (d := fun i => [39, 40, 41, 42, 43, 44, 45, 46, 47, 48, 49, 50, 51, 52, 53, 54, 55].getD i 0) ?G
      (fun i x Y => match i with
        | 0 => ∃ g, x = .slice (some ⟨g, 0, none⟩) 3 3 ∧ Y.heap[g]? = some unObj
        | 1 => x = .pointer (some ⟨G, 1, none⟩)
        | 2 => x = .int .i64 (m : Int)
        | 3 => ∃ g, x = .pointer (some ⟨g, m, none⟩) ∧ Y.heap[g]? = some unObj
        | 4 => x = .string YU
        | 5 => x = .slice (some ⟨B, 0, none⟩) 1 uc
        | 6 => x = .pointer (some ⟨B, 0, none⟩)
        | 7 => x = vi
        | 8 => x = .string YS
        | 9 => x = .slice (some ⟨B, 0, none⟩) 1 uc
        | 10 => x = .pointer (some ⟨B, 0, none⟩)
        | 11 => x = vi
        | 12 => x = .agg #[.int .i64 ak, .int .i64 av, .string an]
        | 13 => x = .int .i64 st0
        | 14 => x = .bool (decide (st0 < 11))
        | 15 => x = .string Y0
        | _ => x = .string YT)
      (fun i x => []) ?stab ?hd ?step ?fin
    case G =>
      refine ⟨rfl, ?_, ?_, ?_⟩
      · intro i hi
        rcases lt17 hi with rfl | rfl | rfl | rfl | rfl | rfl | rfl | rfl | rfl | rfl | rfl | rfl | rfl | rfl | rfl | rfl | rfl <;> exact ⟨_, rfl, rfl, rfl, by simp [Region.binds]⟩
      · intro i j hi hj
        rcases lt17 hi with rfl | rfl | rfl | rfl | rfl | rfl | rfl | rfl | rfl | rfl | rfl | rfl | rfl | rfl | rfl | rfl | rfl <;> rcases lt17 hj with rfl | rfl | rfl | rfl | rfl | rfl | rfl | rfl | rfl | rfl | rfl | rfl | rfl | rfl | rfl | rfl | rfl <;> simp
      · refine ⟨_, rfl, rfl, ?_, by simp⟩
        intro i hi
        rcases lt17 hi with rfl | rfl | rfl | rfl | rfl | rfl | rfl | rfl | rfl | rfl | rfl | rfl | rfl | rfl | rfl | rfl | rfl <;> simp [Region.binds]
    case stab =>
      intro i x Y Y' hR hO hB
      by_cases hi : i < 17
      · rcases lt17 hi with rfl | rfl | rfl | rfl | rfl | rfl | rfl | rfl | rfl | rfl | rfl | rfl | rfl | rfl | rfl | rfl | rfl
        · obtain ⟨g, rfl, hg⟩ := hR
          exact ⟨g, rfl, (hB.block _ (Array.getElem?_eq_some_iff.1 hg).1).trans hg⟩
        · exact hR
        · exact hR
        · obtain ⟨g, rfl, hg⟩ := hR
          exact ⟨g, rfl, (hB.block _ (Array.getElem?_eq_some_iff.1 hg).1).trans hg⟩
        all_goals exact hR
      · obtain ⟨k, rfl⟩ : ∃ k, i = k + 17 := ⟨i - 17, by omega⟩
        exact hR
    case hd =>
      intro i hi
      rcases lt17 hi with rfl | rfl | rfl | rfl | rfl | rfl | rfl | rfl | rfl | rfl | rfl | rfl | rfl | rfl | rfl | rfl | rfl <;> simp
    case step =>
      intro i o hi ho x Y hdf hts hfr hB hdep hown hap
      have t3 := hfr 3 (by intro j hj; rcases lt17 hj with rfl | rfl | rfl | rfl | rfl | rfl | rfl | rfl | rfl | rfl | rfl | rfl | rfl | rfl | rfl | rfl | rfl <;> decide)
      have t4 := hfr 4 (by intro j hj; rcases lt17 hj with rfl | rfl | rfl | rfl | rfl | rfl | rfl | rfl | rfl | rfl | rfl | rfl | rfl | rfl | rfl | rfl | rfl <;> decide)
      simp at t3 t4
      have c1 := (hB.cell (p := ⟨G, 1, none⟩) hGl).trans g1
      have cv := (hB.cell (p := ⟨B, 0, none⟩) hBl).trans hv1
      rcases lt17 hi with rfl | rfl | rfl | rfl | rfl | rfl | rfl | rfl | rfl | rfl | rfl | rfl | rfl | rfl | rfl | rfl | rfl
      · simp at ho
        subst ho
        simp [Oper.wp, execOp, Oper.upon, Act.eval, go_sem]
        exact ⟨_, rfl, ⟨_, rfl, heap_alloc_new _ _⟩, (Below.refl _ _).alloc (Nat.le_refl _) _⟩
      · simp at ho
        subst ho
        simp [Oper.wp, execOp, Oper.upon, Act.eval, t3, go_sem]
        exact ⟨_, rfl, rfl, Below.refl _ _⟩
      · simp at ho
        subst ho
        have e1 : x.tmps[40]?.getD undef = .pointer (some ⟨G, 1, none⟩) := by have := hdep ⟨1, .data⟩ (by simp); simpa [Act.eval] using this
        simp [Oper.wp, execOp, Oper.upon, e1, c1, go_sem]
        exact ⟨_, rfl, rfl, Below.refl _ _⟩
      · simp at ho
        subst ho
        obtain ⟨g, e0, b0⟩ := hdep ⟨0, .data⟩ (by simp)
        have e0' : x.tmps[39]?.getD undef = .slice (some ⟨g, 0, none⟩) 3 3 := by simpa [Act.eval] using e0
        have e1 : x.tmps[41]?.getD undef = .int .i64 (m : Int) := by have := hdep ⟨2, .data⟩ (by simp); simpa [Act.eval] using this
        simp [Oper.wp, execOp, Oper.upon, e0', e1, hm', hm, go_sem]
        exact ⟨_, rfl, ⟨g, rfl, b0⟩, Below.refl _ _⟩
      · simp at ho
        subst ho
        obtain ⟨g, e0, b0⟩ := hdep ⟨3, .data⟩ (by simp)
        have e0' : x.tmps[42]?.getD undef = .pointer (some ⟨g, m, none⟩) := by simpa [Act.eval] using e0
        have cc := hUn _ _ b0
        simp [Oper.wp, execOp, Oper.upon, e0', cc, go_sem]
        exact ⟨_, rfl, rfl, Below.refl _ _⟩
      · simp at ho
        subst ho
        simp [Oper.wp, execOp, Oper.upon, Act.eval, t4, go_sem]
        exact ⟨_, rfl, rfl, Below.refl _ _⟩
      · simp at ho
        subst ho
        have e1 : x.tmps[44]?.getD undef = .slice (some ⟨B, 0, none⟩) 1 uc := by have := hdep ⟨5, .data⟩ (by simp); simpa [Act.eval] using this
        simp [Oper.wp, execOp, Oper.upon, e1, go_sem]
        exact ⟨_, rfl, rfl, Below.refl _ _⟩
      · simp at ho
        subst ho
        have e1 : x.tmps[45]?.getD undef = .pointer (some ⟨B, 0, none⟩) := by have := hdep ⟨6, .data⟩ (by simp); simpa [Act.eval] using this
        simp [Oper.wp, execOp, Oper.upon, e1, cv, go_sem]
        exact ⟨_, rfl, rfl, Below.refl _ _⟩
      · simp at ho
        subst ho
        have e1 : x.tmps[46]?.getD undef = vi := by have := hdep ⟨7, .data⟩ (by simp); simpa [Act.eval] using this
        simp [Oper.wp, execOp, Oper.upon, e1, go_sem]
        refine (HSh.out Y hB).mono ?_
        rintro e w3 ⟨rfl, h3⟩
        exact ⟨_, rfl, rfl, h3⟩
      · simp at ho
        subst ho
        simp [Oper.wp, execOp, Oper.upon, Act.eval, t4, go_sem]
        exact ⟨_, rfl, rfl, Below.refl _ _⟩
      · simp at ho
        subst ho
        have e1 : x.tmps[48]?.getD undef = .slice (some ⟨B, 0, none⟩) 1 uc := by have := hdep ⟨9, .data⟩ (by simp); simpa [Act.eval] using this
        simp [Oper.wp, execOp, Oper.upon, e1, go_sem]
        exact ⟨_, rfl, rfl, Below.refl _ _⟩
      · simp at ho
        subst ho
        have e1 : x.tmps[49]?.getD undef = .pointer (some ⟨B, 0, none⟩) := by have := hdep ⟨10, .data⟩ (by simp); simpa [Act.eval] using this
        simp [Oper.wp, execOp, Oper.upon, e1, cv, go_sem]
        exact ⟨_, rfl, rfl, Below.refl _ _⟩
      · simp at ho
        subst ho
        have e1 : x.tmps[50]?.getD undef = vi := by have := hdep ⟨11, .data⟩ (by simp); simpa [Act.eval] using this
        simp [Oper.wp, execOp, Oper.upon, e1, go_sem]
        refine (HRt.out Y hB).mono ?_
        rintro e w3 ⟨rfl, h3⟩
        exact ⟨_, rfl, rfl, h3⟩
      · simp at ho
        subst ho
        have e1 : x.tmps[51]?.getD undef = .agg #[.int .i64 ak, .int .i64 av, .string an] := by have := hdep ⟨12, .data⟩ (by simp); simpa [Act.eval] using this
        simp [Oper.wp, execOp, Oper.upon, e1, go_sem]
        refine (HSt.out Y).mono ?_
        rintro e w3 ⟨rfl, h3⟩
        exact ⟨_, rfl, rfl, h3⟩
      · simp at ho
        subst ho
        have e1 : x.tmps[52]?.getD undef = .int .i64 st0 := by have := hdep ⟨13, .data⟩ (by simp); simpa [Act.eval] using this
        simp [Oper.wp, execOp, Oper.upon, e1, go_sem]
        exact ⟨_, rfl, rfl, Below.refl _ _⟩
      · simp at ho
        subst ho
        have e1 : x.tmps[47]?.getD undef = .string YS := by have := hdep ⟨8, .data⟩ (by simp); simpa [Act.eval] using this
        have e2 : x.tmps[53]?.getD undef = .bool (decide (st0 < 11)) := by have := hdep ⟨14, .data⟩ (by simp); simpa [Act.eval] using this
        simp [Oper.wp, execOp, Oper.upon, e1, e2, go_sem]
        refine (HH.out Y).mono ?_
        rintro e w3 ⟨rfl, h3⟩
        exact ⟨_, rfl, rfl, h3⟩
      · simp at ho
        subst ho
        have e1 : x.tmps[43]?.getD undef = .string YU := by have := hdep ⟨4, .data⟩ (by simp); simpa [Act.eval] using this
        have e2 : x.tmps[54]?.getD undef = .string Y0 := by have := hdep ⟨15, .data⟩ (by simp); simpa [Act.eval] using this
        have n1 : ¬ 9223372036854775807 < YU.size + Y0.size := by omega
        simp [Oper.wp, execOp, Oper.upon, e1, e2, n1, hE1, go_sem]
        exact ⟨_, rfl, rfl, Below.refl _ _⟩
    case fin =>
      intro o ho x Y hG
      obtain ⟨hdf, hts, hfr, hB, hrel, hx1, hx2⟩ := hG
      simp at ho
      subst ho
      have e16 := hrel 16 (by omega) trivial
      simp at e16
      have e16' : x.tmps[55]?.getD undef = .string YT := by simpa [Act.eval] using e16
      simp [Oper.wp, execOp, Oper.upon, e16', go_sem]
      clear hrel hx1 hx2 hfr e16 e16'
      obtain ⟨tm, df⟩ := x
      simp at hts hdf
      subst hdf
      rename_i hK
      refine hK _ _ ?_
      go_wp2_with fail
      refine bodyPost_ret (v := .string YT) (by simp [results, Tryz.results32, go_sem, hts]) rfl ⟨?_, HBW.out.trans (hB.mono HBW.out.size)⟩
      rw [HE.out, HY.out]
  · -- an operator between
    have hA2 : A = 2 := by
      have h := HA.out
      unfold arity at h
      simp only at h
      rw [if_neg (by omega), if_neg (by omega), if_pos (by omega)] at h
      omega
    subst hA2
    obtain ⟨ua, uc, rfl, hu1, hu2, hu3⟩ := hKd
    obtain ⟨B, rfl, -, hBl, hBc⟩ := hu3 (by omega)
    obtain ⟨v0, hv0, hn0⟩ := hBc 0 (by omega)
    obtain ⟨v1, hv1, hn1⟩ := hBc 1 (by omega)
    have hE : T = heldL (S 0) (decide (strN (rootN (kid e b 0)) < strN ⟨nk, nv, tx nl⟩)) ++ [32] ++ wordN ⟨nk, nv, tx nl⟩ ++ [32] ++ heldL (S 1) (decide (strN (rootN (kid e b 1)) ≤ strN ⟨nk, nv, tx nl⟩)) := by
      refine HTx.out.symm.trans ?_
      unfold show1
      simp only
      rw [if_neg (by omega), if_neg (by omega), if_neg (by omega), if_neg (by omega), if_neg (by omega), if_neg (by omega)]
    have l0 := HSl.out 0 (by omega)
    have l1 := HSl.out 1 (by omega)
    have t0l := held_len (S 0) (decide (strN (rootN (kid e b 0)) < strN ⟨nk, nv, tx nl⟩))
    have t1l := held_len (S 1) (decide (strN (rootN (kid e b 1)) ≤ strN ⟨nk, nv, tx nl⟩))
    have wl := word_len ⟨nk, nv, tx nl⟩
    -- what the calls answer, in every world behind W
    have HSh0 : Hid (∀ V : World, Below W.heap.size W V → Calls Tryz.prog 32 #[v0] V fun e w' => e = .returned (.string (tx (S 0))) ∧ Below V.heap.size V w') := fun V hV => HX.out 0 (by omega) v0 V hn0 (HB0.out.trans (hV.mono HB0.out.size))
    have HSh1 : Hid (∀ V : World, Below W.heap.size W V → Calls Tryz.prog 32 #[v1] V fun e w' => e = .returned (.string (tx (S 1))) ∧ Below V.heap.size V w') := fun V hV => HX.out 1 (by omega) v1 V hn1 (HB0.out.trans (hV.mono HB0.out.size))
    have HRt0 : Hid (∀ V : World, Below W.heap.size W V → Calls Tryz.prog 52 #[v0] V fun e' w' => e' = .returned (.agg #[.int .i64 (rootN (kid e b 0)).kind, .int .i64 (rootN (kid e b 0)).val, .string (rootN (kid e b 0)).name]) ∧ Below V.heap.size V w') := fun V hV => by
      have := root_any v0 (kid e b 0) V (HCut.out.kid_pos 0 (by omega)) (by have := HCut.out.kid_lt 0 (by omega); omega) (hn0.below (HB0.out.trans (hV.mono HB0.out.size)))
      rw [← rootN_eq _ (HCut.out.kid_pos 0 (by omega))] at this
      exact this
    have HRt1 : Hid (∀ V : World, Below W.heap.size W V → Calls Tryz.prog 52 #[v1] V fun e' w' => e' = .returned (.agg #[.int .i64 (rootN (kid e b 1)).kind, .int .i64 (rootN (kid e b 1)).val, .string (rootN (kid e b 1)).name]) ∧ Below V.heap.size V w') := fun V hV => by
      have := root_any v1 (kid e b 1) V (HCut.out.kid_pos 1 (by omega)) (by have := HCut.out.kid_lt 1 (by omega); omega) (hn1.below (HB0.out.trans (hV.mono HB0.out.size)))
      rw [← rootN_eq _ (HCut.out.kid_pos 1 (by omega))] at this
      exact this
    have HSt0 : Hid (∀ V : World, Calls Tryz.prog 55 #[.agg #[.int .i64 (rootN (kid e b 0)).kind, .int .i64 (rootN (kid e b 0)).val, .string (rootN (kid e b 0)).name]] V fun e' w' => e' = .returned (.int .i64 (strN (rootN (kid e b 0)))) ∧ Below V.heap.size V w') := fun V => str_any _ (HCut.out.kid_root 0 (by omega)) V
    have HSt1 : Hid (∀ V : World, Calls Tryz.prog 55 #[.agg #[.int .i64 (rootN (kid e b 1)).kind, .int .i64 (rootN (kid e b 1)).val, .string (rootN (kid e b 1)).name]] V fun e' w' => e' = .returned (.int .i64 (strN (rootN (kid e b 1)))) ∧ Below V.heap.size V w') := fun V => str_any _ (HCut.out.kid_root 1 (by omega)) V
    have HStn : Hid (∀ V : World, Calls Tryz.prog 55 #[.agg #[.int .i64 nk, .int .i64 nv, .string (tx nl)]] V fun e' w' => e' = .returned (.int .i64 (strN ⟨nk, nv, tx nl⟩)) ∧ Below V.heap.size V w') := fun V => str_any ⟨nk, nv, tx nl⟩ HG.out V
    have HWd : Hid (∀ V : World, Calls Tryz.prog 56 #[.agg #[.int .i64 nk, .int .i64 nv, .string (tx nl)]] V fun e' w' => e' = .returned (.string (tx (wordN ⟨nk, nv, tx nl⟩))) ∧ Below V.heap.size V w') := fun V => word_any ⟨nk, nv, tx nl⟩ HG.out hk7 V
    generalize strN ⟨nk, nv, tx nl⟩ = st at hE HStn t0l t1l
    generalize wordN ⟨nk, nv, tx nl⟩ = wd at hE HWd wl
    generalize strN (rootN (kid e b 0)) = st0 at hE HSt0 t0l
    generalize strN (rootN (kid e b 1)) = st1 at hE HSt1 t1l
    generalize (rootN (kid e b 0)).kind = ak at HRt0 HSt0
    generalize (rootN (kid e b 0)).val = av at HRt0 HSt0
    generalize (rootN (kid e b 0)).name = an at HRt0 HSt0
    generalize (rootN (kid e b 1)).kind = bk at HRt1 HSt1
    generalize (rootN (kid e b 1)).val = bv at HRt1 HSt1
    generalize (rootN (kid e b 1)).name = bn at HRt1 HSt1
    have HH0 : Hid (∀ V : World, Calls Tryz.prog 54 #[.string (tx (S 0)), .bool (decide (st0 < st))] V fun e' w' => e' = .returned (.string (tx (heldL (S 0) (decide (st0 < st))))) ∧ Below V.heap.size V w') := fun V => (held_any (S 0) _ (by omega) V).mono (by rintro e w' ⟨rfl, rfl⟩; exact ⟨rfl, Below.refl _ _⟩)
    have HH1 : Hid (∀ V : World, Calls Tryz.prog 54 #[.string (tx (S 1)), .bool (decide (st1 ≤ st))] V fun e' w' => e' = .returned (.string (tx (heldL (S 1) (decide (st1 ≤ st))))) ∧ Below V.heap.size V w') := fun V => (held_any (S 1) _ (by omega) V).mono (by rintro e w' ⟨rfl, rfl⟩; exact ⟨rfl, Below.refl _ _⟩)
    generalize ht0 : heldL (S 0) (decide (st0 < st)) = t0 at hE HH0 t0l
    generalize ht1 : heldL (S 1) (decide (st1 ≤ st)) = t1 at hE HH1 t1l
    have HE : Hid (T = t0 ++ [32] ++ wd ++ [32] ++ t1) := hE
    have g0' := g0
    have g1' := g1
    have g2' := g2
    have HBl : Hid (B < W.heap.size) := hBl
    have HV1 : Hid (W.cell? ⟨B, 1, none⟩ = some v1) := hv1
    have HGl : Hid (G < W.heap.size) := World.block_lt_of_cell? _ _ g0
    have HC0 : Hid (W.cell? ⟨G, 0, none⟩ = some (.int .i64 nk)) := g0
    have HC1 : Hid (W.cell? ⟨G, 1, none⟩ = some (.int .i64 nv)) := g1
    have HC2 : Hid (W.cell? ⟨G, 2, none⟩ = some (.string (tx nl))) := g2
    have n1 : ¬ nk = 1 := by omega
    have n2 : ¬ nk = 2 := by omega
    have n3 : ¬ nk = 3 := by omega
    have n4 : ¬ nk = 4 := by omega
    have n5 : ¬ nk = 5 := by omega
    have n6 : ¬ nk = 6 := by omega
    clear hu3 hBc hn0 hn1 hE ht0 ht1 hk7 hkk HTx HA HX g0' g1' g2'
    have k0 := cell_regrown g0
    have k1 := cell_regrown g1
    have k2 := cell_regrown g2
    have kv := cell_regrown hv0
    have cS : ∀ d os, Calls Tryz.prog 32 #[v0] (grow (redrawn W d) os) fun e w'' => e = .returned (.string (tx (S 0))) ∧ ∃ p : Regrown, w'' = grow (redrawn W p.d) p.os := fun d os => Calls.regrown_of (HSh0.out _ (below_regrown W d os))
    have cR : ∀ d os, Calls Tryz.prog 52 #[v0] (grow (redrawn W d) os) fun e w'' => e = .returned (.agg #[.int .i64 ak, .int .i64 av, .string an]) ∧ ∃ p : Regrown, w'' = grow (redrawn W p.d) p.os := fun d os => Calls.regrown_of (HRt0.out _ (below_regrown W d os))
    have cT : ∀ d os, Calls Tryz.prog 55 #[.agg #[.int .i64 ak, .int .i64 av, .string an]] (grow (redrawn W d) os) fun e w'' => e = .returned (.int .i64 st0) ∧ ∃ p : Regrown, w'' = grow (redrawn W p.d) p.os := fun d os => Calls.regrown_of (HSt0.out _)
    have cN : ∀ d os, Calls Tryz.prog 55 #[.agg #[.int .i64 nk, .int .i64 nv, .string (tx nl)]] (grow (redrawn W d) os) fun e w'' => e = .returned (.int .i64 st) ∧ ∃ p : Regrown, w'' = grow (redrawn W p.d) p.os := fun d os => Calls.regrown_of (HStn.out _)
    have cH : ∀ d os, Calls Tryz.prog 54 #[.string (tx (S 0)), .bool (decide (st0 < st))] (grow (redrawn W d) os) fun e w'' => e = .returned (.string (tx t0)) ∧ ∃ p : Regrown, w'' = grow (redrawn W p.d) p.os := fun d os => Calls.regrown_of (HH0.out _)
    go_wp2_with fail
    refine wp_region_quiet_below (by kernel_rfl) (by kernel_rfl) ?_
    repeat (quiet_step (first | (with_reducible exact cS _ _) | (with_reducible exact cR _ _) | (with_reducible exact cT _ _) | (with_reducible exact cN _ _) | (with_reducible exact cH _ _)))
    refine wpQuiet_nil ?_
    intro V hV'
    obtain ⟨⟨dq, osq⟩, hw''⟩ := hV'
    have hV : Below W.heap.size W V := by rw [hw'']; exact below_regrown W dq osq
    clear hw'' k0 k1 k2 kv cS cR cT cN cH
    replace g0 := (hV.cell (p := ⟨G, 0, none⟩) HGl.out).trans HC0.out
    replace g1 := (hV.cell (p := ⟨G, 1, none⟩) HGl.out).trans HC1.out
    replace g2 := (hV.cell (p := ⟨G, 2, none⟩) HGl.out).trans HC2.out
    replace hv1 := (hV.cell (p := ⟨B, 1, none⟩) HBl.out).trans HV1.out
    have k0 := cell_regrown g0
    have k1 := cell_regrown g1
    have k2 := cell_regrown g2
    have kv := cell_regrown hv1
    have cS : ∀ d os, Calls Tryz.prog 32 #[v1] (grow (redrawn V d) os) fun e w'' => e = .returned (.string (tx (S 1))) ∧ ∃ p : Regrown, w'' = grow (redrawn V p.d) p.os := fun d os => Calls.regrown_of (HSh1.out _ (hV.trans ((below_regrown V d os).mono hV.size)))
    have cR : ∀ d os, Calls Tryz.prog 52 #[v1] (grow (redrawn V d) os) fun e w'' => e = .returned (.agg #[.int .i64 bk, .int .i64 bv, .string bn]) ∧ ∃ p : Regrown, w'' = grow (redrawn V p.d) p.os := fun d os => Calls.regrown_of (HRt1.out _ (hV.trans ((below_regrown V d os).mono hV.size)))
    have cT : ∀ d os, Calls Tryz.prog 55 #[.agg #[.int .i64 bk, .int .i64 bv, .string bn]] (grow (redrawn V d) os) fun e w'' => e = .returned (.int .i64 st1) ∧ ∃ p : Regrown, w'' = grow (redrawn V p.d) p.os := fun d os => Calls.regrown_of (HSt1.out _)
    have cN : ∀ d os, Calls Tryz.prog 55 #[.agg #[.int .i64 nk, .int .i64 nv, .string (tx nl)]] (grow (redrawn V d) os) fun e w'' => e = .returned (.int .i64 st) ∧ ∃ p : Regrown, w'' = grow (redrawn V p.d) p.os := fun d os => Calls.regrown_of (HStn.out _)
    have cH : ∀ d os, Calls Tryz.prog 54 #[.string (tx (S 1)), .bool (decide (st1 ≤ st))] (grow (redrawn V d) os) fun e w'' => e = .returned (.string (tx t1)) ∧ ∃ p : Regrown, w'' = grow (redrawn V p.d) p.os := fun d os => Calls.regrown_of (HH1.out _)
    go_wp2_with fail
    refine wp_region_quiet_below (by kernel_rfl) (by kernel_rfl) ?_
    repeat (quiet_step (first | (with_reducible exact cS _ _) | (with_reducible exact cR _ _) | (with_reducible exact cT _ _) | (with_reducible exact cN _ _) | (with_reducible exact cH _ _)))
    refine wpQuiet_nil ?_
    intro V2 hV2'
    obtain ⟨⟨dq2, osq2⟩, hw''⟩ := hV2'
    have hV2 : Below W.heap.size W V2 := by rw [hw'']; exact hV.trans ((below_regrown V dq2 osq2).mono hV.size)
    clear hw'' k0 k1 k2 kv cS cR cT cN cH
    replace g0 := (hV2.cell (p := ⟨G, 0, none⟩) HGl.out).trans HC0.out
    replace g1 := (hV2.cell (p := ⟨G, 1, none⟩) HGl.out).trans HC1.out
    replace g2 := (hV2.cell (p := ⟨G, 2, none⟩) HGl.out).trans HC2.out
    clear hv1 hV
    have h32 : (⟨#[32]⟩ : ByteArray).size = 1 := rfl
    have hE1 : tx t0 ++ (⟨#[32]⟩ : ByteArray) = tx (t0 ++ [32]) := tx_append _ [32]
    have hE2 : tx (t0 ++ [32]) ++ tx wd = tx (t0 ++ [32] ++ wd) := tx_append _ _
    have hE3 : tx (t0 ++ [32] ++ wd) ++ (⟨#[32]⟩ : ByteArray) = tx (t0 ++ [32] ++ wd ++ [32]) := tx_append _ [32]
    have hE4 : tx (t0 ++ [32] ++ wd ++ [32]) ++ tx t1 = tx (t0 ++ [32] ++ wd ++ [32] ++ t1) := tx_append _ _
    have s0 : ((tx t0).size : Int) ≤ 60000000 := by rw [tx_size]; omega
    have s1 : ((tx t1).size : Int) ≤ 60000000 := by rw [tx_size]; omega
    have s2 : ((tx wd).size : Int) ≤ 2 := by rw [tx_size]; omega
    have s3 : ((tx (t0 ++ [32])).size : Int) ≤ 60000001 := by rw [tx_size]; simp; omega
    have s4 : ((tx (t0 ++ [32] ++ wd)).size : Int) ≤ 60000003 := by rw [tx_size]; simp; omega
    have s5 : ((tx (t0 ++ [32] ++ wd ++ [32])).size : Int) ≤ 60000004 := by rw [tx_size]; simp; omega
    generalize hx : tx (t0 ++ [32] ++ wd ++ [32] ++ t1) = Y5 at hE4
    have HY : Hid (tx (t0 ++ [32] ++ wd ++ [32] ++ t1) = Y5) := hx
    clear hx
    generalize tx (t0 ++ [32] ++ wd ++ [32]) = Y4 at hE3 hE4 s5
    generalize tx (t0 ++ [32] ++ wd) = Y3 at hE2 hE3 s4
    generalize tx (t0 ++ [32]) = Y2 at hE1 hE2 s3
    generalize tx t0 = Y0 at hE1 s0 ⊢
    generalize tx t1 = Y1 at hE4 s1 ⊢
    generalize tx wd = Yw at hE2 s2 HWd
    go_wp2_with fail
    refine (HWd.out V2).mono ?_
    rintro x w5 ⟨rfl, hb5⟩
    go_wp2_with fail
    go_ret
    exact ⟨ret_str (by rw [HE.out, HY.out]), HBW.out.trans ((hV2.trans (hb5.mono hV2.size)).mono HBW.out.size)⟩

theorem show_any (w0 : World) {e : List Nd} {s : List UInt8} (hp : Pr e s) (hl1 : e.length ≤ 1048576) : ShowSpec w0 e s := by
  induction hp using Pr.ind with
  | mk e A b S hc hk ih =>
    exact show_step w0 e A b S hc hl1 (fun i hi => by have := (hk i hi).len; have := hc.kid_lt i hi; omega) (by have := (Pr.mk e A b S hc hk).len; omega) fun i hi => ih i hi (by have := hc.kid_lt i hi; omega)

end Go.Proofs.YtjnnepkoeloekaaGreatDoor
