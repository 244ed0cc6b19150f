import Derived.Test.YtkbonhbegpiajaaASD
namespace Go.Proofs.Ytkbonhbegpiajaa
open Go.RowKit
set_option linter.unusedVariables false
set_option linter.unusedSimpArgs false
set_option linter.unusedSectionVars false
variable [Inhabited Pick]

def findZ (its : List It) (lab : Int) : Int := match posL its lab with
  | [] => -1
  | [k] => (k : Int)
  | _ => -2
theorem findZ_nil {its : List It} {lab : Int} (h : posL its lab = []) : findZ its lab = -1 := by unfold findZ; rw [h]
theorem findZ_one {its : List It} {lab : Int} {k : Nat} (h : posL its lab = [k]) : findZ its lab = k := by unfold findZ; rw [h]
theorem findZ_two {its : List It} {lab : Int} (h : 2 ≤ (posL its lab).length) : findZ its lab = -2 := by
  unfold findZ
  match e : posL its lab with
  | [] => rw [e] at h; simp at h
  | [k] => rw [e] at h; simp at h
  | a :: b :: r => rfl
theorem le_one {l : List Nat} (h : l.length ≤ 1) : l = [] ∨ ∃ k, l = [k] := by
  match l, h with
  | [], _ => exact .inl rfl
  | [k], _ => exact .inr ⟨k, rfl⟩
theorem ret_intA {k : IntKind} {a b : Int} (h : a = b) : Ending.returned (.int k a) = .returned (.int k b) := by rw [h]

set_option maxHeartbeats 4000000 in
theorem find_any (its : List It) (v : Value) (lab : Int) (w : World) (hl : its.length ≤ 20000) (hv : Items w v its) :
    Calls Try.prog 26 #[v, .int .i64 lab] w fun e w' => e = .returned (.int .i64 (findZ its lab)) ∧ w' = w := by
  obtain ⟨a, cap, rfl, -, -, hc⟩ := hv
  have HC : Hid (0 < its.length → ∃ b off, a = some ⟨b, off, none⟩ ∧ ItemsC w b off its) := hc
  clear hc
  go_enter Try.func26, Try.ntmps26
  go_wp2_with fail
  go_loopw [5, 6] (fun o i wr => ∃ k : Nat, k ≤ its.length ∧ i = .int .i64 k ∧ (posL (its.take k) lab).length ≤ 1 ∧ o = .int .i64 (findZ (its.take k) lab) ∧ wr = w) (fun _ i _ => its.length - (intOf i).toNat)
  case atStart => exact ⟨0, Nat.zero_le _, rfl, by simp [posL], rfl, rfl⟩
  case round =>
    obtain ⟨k, hk, rfl, h1, rfl, rfl⟩ := hrel
    by_cases hlt : k < its.length
    · obtain ⟨b, off, rfl, hC⟩ := HC.out (by omega)
      obtain ⟨c0, -, -, -, -, -, c6⟩ := hC k hlt
      have HTk : Hid (its.take (k + 1) = its.take k ++ [its[k]]) := by
        show _ = _
        rw [List.take_add_one, List.getElem?_eq_getElem hlt]; rfl
      have hTl : (its.take k).length = k := by simp; omega
      clear hC
      generalize its[k] = x at c0 c6 HTk
      by_cases hx : x.kind = 2 ∧ x.label = lab
      · have hil : isL x lab = true := decide_eq_true hx
        have HP : Hid (posL (its.take (k + 1)) lab = posL (its.take k) lab ++ [k]) := by show _ = _; rw [HTk.out, posL_snoc, hil, hTl]; rfl
        rw [hx.1] at c0
        rw [hx.2] at c6
        rcases le_one h1 with hp | ⟨q, hp⟩
        · have HF : Hid (findZ (its.take (k + 1)) lab = k ∧ (posL (its.take (k + 1)) lab).length ≤ 1) := by
            have : posL (its.take (k + 1)) lab = [k] := by rw [HP.out, hp]; rfl
            exact ⟨findZ_one this, by rw [this]; simp⟩
          rw [findZ_nil hp]
          clear hp hil hx h1 hTl
          go_wp2_with fail
          go_roundw
          case rel => exact ⟨k + 1, by omega, by go_num, HF.out.2, by rw [HF.out.1], by first | rfl | trivial⟩
          case measure => simp [intOf]; omega
        · have HF : Hid (findZ its lab = -2) := by
            refine findZ_two ?_
            have h2 := posL_take_le its (k + 1) lab
            rw [HP.out, hp] at h2
            simpa using h2
          rw [findZ_one hp]
          clear hp hil hx h1 hTl
          go_wp2_with fail
          go_ret
          exact ⟨ret_intA HF.out.symm, rfl⟩
      · have hil : isL x lab = false := decide_eq_false hx
        have HP : Hid (posL (its.take (k + 1)) lab = posL (its.take k) lab) := by show _ = _; rw [HTk.out, posL_snoc, hil]; simp
        have HF : Hid (findZ (its.take (k + 1)) lab = findZ (its.take k) lab ∧ (posL (its.take (k + 1)) lab).length ≤ 1) := ⟨by unfold findZ; rw [HP.out], by rw [HP.out]; exact h1⟩
        generalize findZ (its.take k) lab = z at HF ⊢
        generalize x.kind = kd at c0 hx
        generalize x.label = lb at c6 hx
        clear hil h1 hTl
        by_cases hk2 : kd = 2
        · have hlb : (lb == lab) = false := by
            have : ¬ lb = lab := fun h => hx ⟨hk2, h⟩
            simpa using this
          subst hk2
          clear hx
          go_wp2_with fail
          go_roundw
          case rel => exact ⟨k + 1, by omega, by go_num, HF.out.2, by rw [HF.out.1], by first | rfl | trivial⟩
          case measure => simp [intOf]; omega
        · have hkd : (kd == 2) = false := by simpa using hk2
          clear hx
          go_wp2_with fail
          go_roundw
          case rel => exact ⟨k + 1, by omega, by go_num, HF.out.2, by rw [HF.out.1], by first | rfl | trivial⟩
          case measure => simp [intOf]; omega
    · have HF : Hid (findZ (its.take k) lab = findZ its lab) := by show _ = _; rw [List.take_of_length_le (by omega)]
      generalize findZ (its.take k) lab = z at HF ⊢
      go_wp2_with fail
      go_ret
      exact ⟨ret_intA HF.out, rfl⟩

set_option maxHeartbeats 4000000 in
theorem words7_any (it : It) (far : Int) (l : Bool) (w : World) (hf : -1000000000 ≤ far ∧ far ≤ 1000000000) (ho : it.kind = 3 → 4 ≤ it.ins.op ∧ it.ins.op ≤ 9) :
    Calls Try.prog 18 #[itv it, .int .i64 far, .bool l] w fun e w' => ∃ v, e = .returned v ∧ USrc w' v (wds it far l) ∧ Below w.heap.size w w' := by
  obtain ⟨k, ⟨op, rd, s1, s2, im⟩, lb⟩ := it
  simp only at ho
  show Calls _ _ #[.agg #[.int .i64 k, .int .i64 op, .int .i64 rd, .int .i64 s1, .int .i64 s2, .int .i64 im, .int .i64 lb], .int .i64 far, .bool l] _ _
  have hA : Below w.heap.size w (w.alloc (.cells #[.int .i64 k, .int .i64 op, .int .i64 rd, .int .i64 s1, .int .i64 s2, .int .i64 im, .int .i64 lb] 38)) := (Below.refl _ _).alloc (Nat.le_refl _) _
  have enc : ∀ (x : Ins) (w : World), Calls Try.prog 27 #[.agg #[.int .i64 x.op, .int .i64 x.rd, .int .i64 x.s1, .int .i64 x.s2, .int .i64 x.im]] w fun e w' => e = .returned (.int .u32 (eR x)) ∧ Below w.heap.size w w' := fun x w => encS_any x w
  by_cases h1 : k = 1
  · subst h1
    have HW : Hid (wds ⟨1, ⟨op, rd, s1, s2, im⟩, lb⟩ far l = [eR ⟨op, rd, s1, s2, im⟩]) := rfl
    have HEn : Hid _ := enc ⟨op, rd, s1, s2, im⟩
    generalize eR ⟨op, rd, s1, s2, im⟩ = R at HEn HW
    clear enc
    go_enter Try.func18, Try.ntmps18
    go_wp2_with fail
    refine (HEn.out _).mono ?_
    rintro e w1 ⟨rfl, hb1⟩
    have hB1 := hA.trans (hb1.mono (by simp))
    go_wp2_with fail
    go_ret
    exact ⟨_, rfl, by rw [HW.out]; exact usrc_1 w1 R _, hB1.alloc hB1.size _⟩
  by_cases h4 : k = 4
  · subst h4
    have HW : Hid (wds ⟨4, ⟨op, rd, s1, s2, im⟩, lb⟩ far l = [eR ⟨2, 0, 0, 0, far⟩]) := rfl
    have HEn : Hid _ := enc ⟨2, 0, 0, 0, far⟩
    generalize eR ⟨2, 0, 0, 0, far⟩ = R at HEn HW
    clear enc
    go_enter Try.func18, Try.ntmps18
    go_wp2_with fail
    refine (HEn.out _).mono ?_
    rintro e w1 ⟨rfl, hb1⟩
    have hB1 := hA.trans (hb1.mono (by simp))
    go_wp2_with fail
    go_ret
    exact ⟨_, rfl, by rw [HW.out]; exact usrc_1 w1 R _, hB1.alloc hB1.size _⟩
  by_cases h5 : k = 5
  · subst h5
    have HW : Hid (wds ⟨5, ⟨op, rd, s1, s2, im⟩, lb⟩ far l = [eR ⟨2, 1, 0, 0, far⟩]) := rfl
    have HEn : Hid _ := enc ⟨2, 1, 0, 0, far⟩
    generalize eR ⟨2, 1, 0, 0, far⟩ = R at HEn HW
    clear enc
    go_enter Try.func18, Try.ntmps18
    go_wp2_with fail
    refine (HEn.out _).mono ?_
    rintro e w1 ⟨rfl, hb1⟩
    have hB1 := hA.trans (hb1.mono (by simp))
    go_wp2_with fail
    go_ret
    exact ⟨_, rfl, by rw [HW.out]; exact usrc_1 w1 R _, hB1.alloc hB1.size _⟩
  by_cases h3 : k = 3
  · subst h3
    cases l
    · have HW : Hid (wds ⟨3, ⟨op, rd, s1, s2, im⟩, lb⟩ far false = [eR ⟨op, rd, s1, s2, far⟩]) := rfl
      have HEn : Hid _ := enc ⟨op, rd, s1, s2, far⟩
      generalize eR ⟨op, rd, s1, s2, far⟩ = R at HEn HW
      clear enc ho
      go_enter Try.func18, Try.ntmps18
      go_wp2_with fail
      refine (HEn.out _).mono ?_
      rintro e w1 ⟨rfl, hb1⟩
      have hB1 := (hA.alloc (by simp) (.cells #[.int .i64 op, .int .i64 rd, .int .i64 s1, .int .i64 s2, .int .i64 far] 36)).trans (hb1.mono (by simp; omega))
      go_wp2_with fail
      go_ret
      exact ⟨_, rfl, by rw [HW.out]; exact usrc_1 w1 R _, hB1.alloc hB1.size _⟩
    · have HW : Hid (wds ⟨3, ⟨op, rd, s1, s2, im⟩, lb⟩ far true = [eR ⟨opp op, rd, s1, s2, 8⟩, eR ⟨2, 0, 0, 0, far - 4⟩]) := rfl
      have HEn : Hid _ := enc ⟨opp op, rd, s1, s2, 8⟩
      have HEn2 : Hid _ := enc ⟨2, 0, 0, 0, far - 4⟩
      generalize eR ⟨opp op, rd, s1, s2, 8⟩ = R at HEn HW
      generalize eR ⟨2, 0, 0, 0, far - 4⟩ = R2 at HEn2 HW
      simp only at HEn HEn2
      have ho' := ho rfl
      have hcs : op = 4 ∨ op = 5 ∨ op = 6 ∨ op = 7 ∨ op = 8 ∨ op = 9 := by omega
      clear enc ho ho'
      rcases hcs with rfl | rfl | rfl | rfl | rfl | rfl
      all_goals
        go_enter Try.func18, Try.ntmps18
        go_wp2_with fail
        refine (HEn.out _).mono ?_
        rintro e w1 ⟨rfl, hb1⟩
        have hB1 := ((hA.alloc (by simp) _).alloc (by simp; omega) _).trans (hb1.mono (by simp; omega))
        go_wp2_with fail
        refine (HEn2.out _).mono ?_
        rintro e w2 ⟨rfl, hb2⟩
        have hB2 := hB1.trans (hb2.mono hB1.size)
        go_wp2_with fail
        go_ret
        exact ⟨_, rfl, by rw [HW.out]; exact usrc_2 w2 R R2 _, hB2.alloc hB2.size _⟩
  · have HW : Hid (wds ⟨k, ⟨op, rd, s1, s2, im⟩, lb⟩ far l = []) := by
      show _ = _
      unfold wds
      rw [if_neg h1, if_neg h3, if_neg h4, if_neg h5]
    clear enc ho
    go_enter Try.func18, Try.ntmps18
    go_wp2_with fail
    go_ret
    exact ⟨_, rfl, by rw [HW.out]; exact ⟨_, _, rfl, fun _ => rfl, fun ad _ j u hj => by simp at hj⟩, hA.alloc (by simp) _⟩

end Go.Proofs.Ytkbonhbegpiajaa
