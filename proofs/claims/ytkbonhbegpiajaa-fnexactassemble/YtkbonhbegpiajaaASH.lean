import Derived.Test.YtkbonhbegpiajaaASG
namespace Go.Proofs.Ytkbonhbegpiajaa
open Go.RowKit
set_option linter.unusedVariables false
set_option linter.unusedSimpArgs false
set_option linter.unusedSectionVars false
variable [Inhabited Pick]

def tgZ (its : List It) (i : Nat) : Int := if (its.getD i it0).kind = 1 then 0 else findZ its (its.getD i it0).label
def tgL (its : List It) (k : Nat) : List Value := (List.range k).map (fun i => Value.int .i64 (tgZ its i))
theorem tgL_succ (its : List It) (k : Nat) : tgL its (k + 1) = tgL its k ++ [.int .i64 (tgZ its k)] := by simp [tgL, List.range_succ]
theorem tgL_len (its : List It) (k : Nat) : (tgL its k).length = k := by simp [tgL]
theorem tgL_at (its : List It) (k i : Nat) (h : i < k) : (tgL its k)[i]? = some (.int .i64 (tgZ its i)) := by simp [tgL, h]
theorem findZ_pos {its : List It} {lab : Int} : 0 ≤ findZ its lab ↔ (posL its lab).length = 1 := by
  unfold findZ
  match posL its lab with
  | [] => simp
  | [k] => simp
  | a :: b :: r => simp
theorem tgZ_tgt {its : List It} (h : Linked its) {i : Nat} (hi : i < its.length) : tgZ its i = (tgt its i : Int) := by
  unfold tgZ tgt
  by_cases h1 : (its.getD i it0).kind = 1
  · rw [if_pos h1, if_pos h1]; rfl
  · rw [if_neg h1, if_neg h1]
    have := h i hi h1
    match e : posL its (its.getD i it0).label with
    | [] => rw [e] at this; cases this
    | [k] => rw [findZ_one e]; rfl
    | a :: b :: r => rw [e] at this; simp at this
theorem findZ_bd (its : List It) (lab : Int) (hl : its.length ≤ 20000) : -2 ≤ findZ its lab ∧ findZ its lab ≤ 20000 := by
  unfold findZ
  match e : posL its lab with
  | [] => simp
  | [k] =>
    have := (posL_mem (its := its) (lab := lab) (k := k) (by rw [e]; simp)).1
    simp
    omega
  | a :: b :: r => simp
/-- Whether the first have their goals. -/
def okK (its : List It) (k : Nat) : Prop := ∀ i, i < k → (its.getD i it0).kind ≠ 1 → 0 ≤ findZ its (its.getD i it0).label

set_option maxRecDepth 100000 in
set_option maxHeartbeats 4000000 in
theorem targets_any (its : List It) (v : Value) (w : World) (hl : its.length ≤ 20000) (hv : Items w v its) :
    Calls Try.prog 14 #[v] w fun e w' => ∃ x ok, e = .returned (.tuple #[x, .bool ok]) ∧ ORow w.heap.size 3 w' x (tgL its its.length) ∧ Below w.heap.size w w' ∧ (ok = true ↔ Linked its) := by
  have HV : Hid (Items w v its) := hv
  obtain ⟨a, cap, rfl, -, -, hc⟩ := hv
  have HC : Hid (0 < its.length → ∃ b off, a = some ⟨b, off, none⟩ ∧ ItemsC w b off its) := hc
  obtain ⟨i0, hi, hz0, hz1, hz2⟩ := info_parts info_int
  clear hc
  go_enter Try.func14, Try.ntmps14
  go_wp2_with fail
  go_loopw [4, 5, 6] (fun o c i wr => ∃ (k : Nat) (ok : Bool), k ≤ its.length ∧ i = .int .i64 k ∧ c = .bool ok ∧ (ok = true ↔ okK its k) ∧ ORow w.heap.size 3 wr o (tgL its k) ∧ Below w.heap.size w wr) (fun _ _ i _ => its.length - (intOf i).toNat)
  case atStart => exact ⟨0, true, Nat.zero_le _, rfl, rfl, ⟨fun _ i hi => absurd hi (by omega), fun _ => rfl⟩, orow_lit w _ _ (Nat.le_refl _), (Below.refl _ _).alloc (Nat.le_refl _) _⟩
  case round =>
    obtain ⟨k, ok, hk, rfl, rfl, hok, hO, hB⟩ := hrel
    obtain ⟨ao, co, rfl⟩ := hO.shape
    have HO : Hid (ORow w.heap.size 3 wr (.slice ao (tgL its k).length co) (tgL its k)) := hO
    have HOk : Hid (ok = true ↔ okK its k) := hok
    have HLn : Hid ((tgL its k).length = k) := tgL_len its k
    have hsz := hB.size
    clear hO hok
    by_cases hlt : k < its.length
    · obtain ⟨b, off, rfl, hC⟩ := HC.out (by omega)
      obtain ⟨c0, -, -, -, -, -, c6⟩ := (hC.below hB) k hlt
      have HGt : Hid (its.getD k it0 = its[k]) := by show _ = _; simp [List.getD, hlt]
      have HE : Hid (tgL its (k + 1) = tgL its k ++ [.int .i64 (tgZ its k)]) := tgL_succ its k
      have HZ : Hid (tgZ its k = if its[k].kind = 1 then 0 else findZ its its[k].label) := by show _ = _; unfold tgZ; rw [HGt.out]
      have hxl : (tgL its k).length + 1 ≤ 10000000 := by have := HLn.out; omega
      clear hC
      generalize its[k] = x at c0 c6 HGt HZ
      by_cases h1 : x.kind = 1
      · rw [h1] at c0
        have HZ0 : Hid (tgZ its k = 0) := by show _ = _; rw [HZ.out, if_pos h1]
        have HOk1 : Hid (ok = true ↔ okK its (k + 1)) := by
          refine HOk.out.trans ⟨fun h i hi hki => ?_, fun h i hi hki => h i (by omega) hki⟩
          by_cases e : i = k
          · subst e; rw [HGt.out] at hki; exact absurd h1 hki
          · exact h i (by omega) hki
        clear h1
        go_wp2_with (at_builtin; refine wpList_app1 rfl _ _ _ rfl w.heap.size 3 i0 _ 8 Try.underlying39 hi hz0 hz1 hz2 rfl _ (tgL its k) rfl (HO.out.below ((Below.refl _ _).alloc (Nat.le_refl _) _)) ⟨wr.heap.size, 0, none⟩ (.int .i64 0) rfl (lit1 _ _ _) rfl hxl (by decide) (by simp; omega) ?_)
        intro v1 w1 ho1 hg1 hf1
        have HO1 : Hid (ORow w.heap.size 3 w1 v1 (tgL its (k + 1))) := by show ORow _ _ _ _ _; rw [HE.out, HZ0.out]; exact ho1
        have hB1 : Below w.heap.size w w1 := (hB.alloc hsz _).grown hg1 (by simp; omega) (fun x hx => (World.ownsRow.lt HO.out x hx).1)
        obtain ⟨a1, c1, rfl⟩ := HO1.out.shape
        clear ho1 hg1 hf1
        go_wp2_with fail
        go_roundw
        case rel => exact ⟨k + 1, ok, by omega, by go_num, rfl, HOk1.out, HO1.out, hB1⟩
        case measure => simp [intOf]; omega
      · have HZ0 : Hid (tgZ its k = findZ its x.label) := by show _ = _; rw [HZ.out, if_neg h1]
        have hbd := findZ_bd its x.label hl
        have HOk1 : Hid ((ok && decide (0 ≤ findZ its x.label)) = true ↔ okK its (k + 1)) := by
          show _ ↔ _
          rw [Bool.and_eq_true, decide_eq_true_eq, HOk.out]
          constructor
          · rintro ⟨h, hf⟩ i hi hki
            by_cases e : i = k
            · subst e; rw [HGt.out]; exact hf
            · exact h i (by omega) hki
          · intro h
            exact ⟨fun i hi hki => h i (by omega) hki, by have := h k (by omega) (by rw [HGt.out]; exact h1); rw [HGt.out] at this; exact this⟩
        have HVw : Hid (Items wr (.slice (some ⟨b, off, none⟩) its.length cap) its) := HV.out.below hB
        generalize x.kind = kd at c0 h1
        have h1' : (kd == 1) = false := by simpa using h1
        go_wp2_with fail
        refine (find_any its _ x.label wr hl HVw.out).mono ?_
        rintro e w1 ⟨rfl, hw1⟩
        rw [hw1]
        clear hw1
        generalize findZ its x.label = fz at HZ0 hbd HOk1 ⊢
        cases ok
        · have HOk2 : Hid (false = true ↔ okK its (k + 1)) := by have := HOk1.out; rw [Bool.false_and] at this; exact this
          go_wp2_with (at_builtin; refine wpList_app1 rfl _ _ _ rfl w.heap.size 3 i0 _ 8 Try.underlying39 hi hz0 hz1 hz2 rfl _ (tgL its k) rfl (HO.out.below ((Below.refl _ _).alloc (Nat.le_refl _) _)) ⟨wr.heap.size, 0, none⟩ (.int .i64 fz) rfl (lit1 _ _ _) rfl hxl (by decide) (by simp; omega) ?_)
          intro v1 w1 ho1 hg1 hf1
          have HO1 : Hid (ORow w.heap.size 3 w1 v1 (tgL its (k + 1))) := by show ORow _ _ _ _ _; rw [HE.out, HZ0.out]; exact ho1
          have hB1 : Below w.heap.size w w1 := (hB.alloc hsz _).grown hg1 (by simp; omega) (fun x hx => (World.ownsRow.lt HO.out x hx).1)
          obtain ⟨a1, c1, rfl⟩ := HO1.out.shape
          clear ho1 hg1 hf1
          go_wp2_with fail
          go_roundw
          case rel => exact ⟨k + 1, false, by omega, by go_num, rfl, HOk2.out, HO1.out, hB1⟩
          case measure => simp [intOf]; omega
        · by_cases hz : 0 ≤ fz
          · have hd : decide (0 ≤ fz) = true := decide_eq_true hz
            have HOk2 : Hid (true = true ↔ okK its (k + 1)) := by have := HOk1.out; rw [hd] at this; exact this
            go_wp2_with (at_builtin; refine wpList_app1 rfl _ _ _ rfl w.heap.size 3 i0 _ 8 Try.underlying39 hi hz0 hz1 hz2 rfl _ (tgL its k) rfl (HO.out.below ((Below.refl _ _).alloc (Nat.le_refl _) _)) ⟨wr.heap.size, 0, none⟩ (.int .i64 fz) rfl (lit1 _ _ _) rfl hxl (by decide) (by simp; omega) ?_)
            intro v1 w1 ho1 hg1 hf1
            have HO1 : Hid (ORow w.heap.size 3 w1 v1 (tgL its (k + 1))) := by show ORow _ _ _ _ _; rw [HE.out, HZ0.out]; exact ho1
            have hB1 : Below w.heap.size w w1 := (hB.alloc hsz _).grown hg1 (by simp; omega) (fun x hx => (World.ownsRow.lt HO.out x hx).1)
            obtain ⟨a1, c1, rfl⟩ := HO1.out.shape
            clear ho1 hg1 hf1
            go_wp2_with fail
            go_roundw
            case rel => exact ⟨k + 1, true, by omega, by go_num, rfl, (by have := HOk2.out; simpa using this), HO1.out, hB1⟩
            case measure => simp [intOf]; omega
          · have hd : decide (0 ≤ fz) = false := decide_eq_false hz
            have HOk2 : Hid (false = true ↔ okK its (k + 1)) := by have := HOk1.out; rw [hd] at this; exact this
            go_wp2_with (at_builtin; refine wpList_app1 rfl _ _ _ rfl w.heap.size 3 i0 _ 8 Try.underlying39 hi hz0 hz1 hz2 rfl _ (tgL its k) rfl (HO.out.below ((Below.refl _ _).alloc (Nat.le_refl _) _)) ⟨wr.heap.size, 0, none⟩ (.int .i64 fz) rfl (lit1 _ _ _) rfl hxl (by decide) (by simp; omega) ?_)
            intro v1 w1 ho1 hg1 hf1
            have HO1 : Hid (ORow w.heap.size 3 w1 v1 (tgL its (k + 1))) := by show ORow _ _ _ _ _; rw [HE.out, HZ0.out]; exact ho1
            have hB1 : Below w.heap.size w w1 := (hB.alloc hsz _).grown hg1 (by simp; omega) (fun x hx => (World.ownsRow.lt HO.out x hx).1)
            obtain ⟨a1, c1, rfl⟩ := HO1.out.shape
            clear ho1 hg1 hf1
            go_wp2_with fail
            go_roundw
            case rel => exact ⟨k + 1, false, by omega, by go_num, rfl, HOk2.out, HO1.out, hB1⟩
            case measure => simp [intOf]; omega
    · have hkn : k = its.length := by omega
      have HL : Hid (ok = true ↔ Linked its) := by
        refine HOk.out.trans ⟨fun h i hi hki => findZ_pos.1 (h i (by omega) hki), fun h i hi hki => findZ_pos.2 (h i (by omega) hki)⟩
      go_wp2_with fail
      refine bodyPost_ret (by simp [results, Try.results14, go_sem]; try rfl) rfl ?_
      exact ⟨_, ok, rfl, by rw [← hkn]; exact HO.out, hB, HL.out⟩

end Go.Proofs.Ytkbonhbegpiajaa
