import Derived.Test.YtkbonhbegpiajaaASJ
import Derived.Test.YtkbonhbegpiajaaASK
namespace Go.Proofs.Ytkbonhbegpiajaa
open Go.RowKit
set_option linter.unusedVariables false
set_option linter.unusedSimpArgs false
set_option linter.unusedSectionVars false
variable [Inhabited Pick]

theorem URow.tg {B g0 : Nat} {w w' : World} {v : Value} {us : List Int} (h : URow B w v us) (ht : Tg g0 w w') (hg : g0 < B) : URow B w' v us := by
  obtain ⟨h1, h2⟩ := h
  refine ⟨h1, ?_⟩
  rcases h2 with h2 | ⟨g, cap, cur, rfl, g3, g4, g5⟩
  · exact .inl h2
  · refine .inr ⟨g, cap, cur, rfl, g3, ?_, g5⟩
    rw [ht.other g (by omega)]
    exact g4
set_option maxRecDepth 100000 in
set_option maxHeartbeats 4000000 in
theorem law_asm (ns : List It) (v : Value) (w : World) (hwf : ∀ i, i < ns.length → (Lit.int .i64 (ns.getD i it0).label).wf = true) (hsz : ns.length ≤ 9223372036854775807) (hN : Items w v ns) :
    Calls Try.prog 3 #[v] w fun e w' => e = .returned (.bool true) ∧ Below w.heap.size w w' := by
  have HW : Hid (∀ i, i < ns.length → (Lit.int .i64 (ns.getD i it0).label).wf = true) := hwf
  have HN : Hid (Items w v ns) := hN
  obtain ⟨a, cap, rfl, -, -, -⟩ := hN
  clear hwf
  go_enter Try.func3, Try.ntmps3
  go_wp2_with fail
  refine (szIt_any _ ns _ hsz HN.out).mono ?_
  by_cases hs : 1048576 < ns.length
  · simp only [hs, if_true]
    rintro e w1 ⟨rfl, hw1⟩
    rw [hw1]
    clear hw1 hs
    go_wp2_with fail
    go_ret
    exact ⟨rfl, Below.refl _ _⟩
  simp only [hs, if_false]
  have hln : ns.length ≤ 1048576 := by omega
  rintro e w1 ⟨⟨q, hq, rfl⟩, hw1⟩
  rw [hw1]
  clear hw1 hs
  go_wp2_with fail
  refine (toItems_any _ ns _ hln HN.out).mono ?_
  rintro e w2 ⟨v2, rfl, hn2, hB2⟩
  have HN2 : Hid (Items w2 v2 ns) := hn2.items (by omega)
  obtain ⟨g2, rfl, -⟩ := hn2.old
  clear hn2
  go_wp2_with fail
  refine (asmG_any ns _ _ hln HN2.out).mono ?_
  rintro e w3 ⟨vw, r, rfl, hR, hvw, hb3⟩
  have HVW : Hid (Uc w3 vw r) := hvw
  have HR : Hid (AsmR ns r) := hR
  have hrl : r.length ≤ 40000 := hR.len
  have hB3 := hB2.trans (hb3.mono hB2.size)
  have hs3 := hB3.size
  obtain ⟨aw, cw, rfl, -⟩ := hvw
  clear hb3 hB2 HN2 hR
  go_wp2_with fail
  refine (toItems_any _ ns _ hln (HN.out.below hB3)).mono ?_
  rintro e w4 ⟨v4, rfl, hn4, hb4⟩
  have HO4 : Hid (ItemsO w3.heap.size w4 v4 ns) := hn4
  have hB4 := hB3.trans (hb4.mono hB3.size)
  have HB34 : Hid (Below w3.heap.size w3 w4) := hb4
  obtain ⟨g4, rfl, hg4, hg4', -⟩ := hn4.old
  clear hn4 hb4 hB3
  go_wp2_with fail
  refine (asmI_any ns _ _ (HO4.out.items (by omega)) HW.out hln).mono ?_
  rintro e w5 ⟨v5, r5, rfl, hR5, hu5, hb5⟩
  obtain rfl : r = r5 := HR.out.one hR5
  have HU5 : Hid (URow w4.heap.size w5 v5 r) := hu5
  have hB5 := hB4.trans (hb5.mono hB4.size)
  have HB35 : Hid (Below w3.heap.size w3 w5) := HB34.out.trans (hb5.mono HB34.out.size)
  have HB45 : Hid (Below w4.heap.size w4 w5) := hb5
  obtain ⟨a5, c5, rfl⟩ := hu5.shape
  clear hu5 hb5 hB4 HB34 hR5
  go_wp2_with fail
  refine (eqU_any _ _ r w5 (by omega) HU5.out.cel (HVW.out.below HB35.out)).mono ?_
  rintro e w6 ⟨rfl, hb6⟩
  have hB6 := hB5.trans (hb6.mono hB5.size)
  have HU6 : Hid (URow w4.heap.size w6 (.slice a5 r.length c5) r) := HU5.out.below hb6
  have HB36 : Hid (Below w3.heap.size w3 w6) := HB35.out.trans (hb6.mono HB35.out.size)
  have HO6 : Hid (ItemsO w3.heap.size w6 (.slice (some ⟨g4, 0, none⟩) ns.length ns.length) ns) := (HO4.out.below HB45.out).below hb6
  have HNA : Hid (Items w6 (.slice a ns.length cap) ns) := HN.out.below hB6
  have hs46 : w4.heap.size ≤ w6.heap.size := Nat.le_trans HB45.out.size hb6.size
  clear HU5 HB35 HO4 HB45 hb6 hB5
  go_wp2_with fail
  refine (toItems_any _ ns _ hln HNA.out).mono ?_
  rintro e w7 ⟨v7, rfl, hn7, hb7⟩
  obtain ⟨g7, rfl, -⟩ := hn7.old
  have HN7 : Hid (Items w7 (.slice (some ⟨g7, 0, none⟩) ns.length ns.length) ns) := hn7.items (by omega)
  have HB7 : Hid (Below w6.heap.size w6 w7) := hb7
  clear hn7 hb7
  go_wp2_with fail
  refine (eqItems_any _ _ ns _ hln ((HO6.out.items (by omega)).below HB7.out) HN7.out).mono ?_
  rintro e w8 ⟨rfl, hb8⟩
  have hb68 : Below w6.heap.size w6 w8 := HB7.out.trans (hb8.mono HB7.out.size)
  have hB8 := hB6.trans (hb68.mono hB6.size)
  have HO8 : Hid (OldN w8 g4 (ns.length * 7)) := by
    obtain ⟨g, he, -, -, ho⟩ := (HO6.out.below hb68).old
    simp only [Value.slice.injEq, Option.some.injEq, Addr.mk.injEq, and_true] at he
    obtain ⟨rfl, _⟩ := he
    exact ho
  have HU8 : Hid (URow w4.heap.size w8 (.slice a5 r.length c5) r) := HU6.out.below hb68
  have HB38 : Hid (Below w3.heap.size w3 w8) := HB36.out.trans (hb68.mono HB36.out.size)
  have hs48 : w4.heap.size ≤ w8.heap.size := Nat.le_trans hs46 hb68.size
  clear HU6 HB36 HO6 HNA hs46 hB6 HN7 HB7 hb8 hb68
  go_wp2_with fail
  refine (markIt_any g4 ns.length ns.length 1 w8 hln (by omega) (by omega) HO8.out).mono ?_
  rintro e w9 ⟨rfl, ht9⟩
  have hB9 := hB8.trans (ht9.below (B := w.heap.size) (by omega))
  have HB39 : Hid (Below w3.heap.size w3 w9) := HB38.out.trans (ht9.below hg4)
  have HU9 : Hid (URow w4.heap.size w9 (.slice a5 r.length c5) r) := HU8.out.tg ht9 hg4'
  have hs49 : w4.heap.size ≤ w9.heap.size := by rw [ht9.size]; exact hs48
  have hk0 : (0 : Int) ≤ ((1 + 7 * ns.length : Nat) : Int) := by omega
  generalize ((1 + 7 * ns.length : Nat) : Int) = kc at hk0 ⊢
  clear ht9 HO8 HU8 HB38 hB8 hs48
  go_wp2_with fail
  refine (eqU_any _ _ r w9 (by omega) HU9.out.cel (HVW.out.below HB39.out)).mono ?_
  rintro e w10 ⟨rfl, hb10⟩
  have hB10 := hB9.trans (hb10.mono hB9.size)
  have HB310 : Hid (Below w3.heap.size w3 w10) := HB39.out.trans (hb10.mono HB39.out.size)
  have HU10 : Hid (URow w4.heap.size w10 (.slice a5 r.length c5) r) := HU9.out.below hb10
  clear hb10 HU9 HB39 hB9
  go_wp2_with fail
  refine (markO_any (N := w4.heap.size) (by omega) HU10.out).mono ?_
  rintro e w11 ⟨rfl, hb11, hm11⟩
  obtain ⟨mm, hmm⟩ : ∃ mm : Int, mm = ((1 + r.length : Nat) : Int) := ⟨_, rfl⟩
  rw [← hmm]
  have HMm : Hid (mm = ((1 + r.length : Nat) : Int)) := hmm
  have hm0 : (0 : Int) ≤ mm := by omega
  clear hmm
  have hB11 := hB10.trans (hb11.mono (by omega))
  have HB311 : Hid (Below w3.heap.size w3 w11) := HB310.out.trans (hb11.mono (by omega))
  have HMk : Hid (Mkd w11 (.slice a5 r.length c5) r.length) := hm11
  clear hb11 HU10 HB310 hB10 hm11
  go_wp2_with fail
  refine (heldO_any (by omega) HMk.out).mono ?_
  rintro e w12 ⟨rfl, hb12⟩
  have hB12 := hB11.trans (hb12.mono hB11.size)
  have HB312 : Hid (Below w3.heap.size w3 w12) := HB311.out.trans (hb12.mono HB311.out.size)
  rw [← HMm.out]
  clear hb12 HMk HB311 hB11
  go_wp2_with fail
  refine (toItems_any _ ns _ hln (HN.out.below hB12)).mono ?_
  rintro e w13 ⟨v13, rfl, hn13, hb13⟩
  obtain ⟨g13, rfl, -⟩ := hn13.old
  have HN13 : Hid (Items w13 (.slice (some ⟨g13, 0, none⟩) ns.length ns.length) ns) := hn13.items (by omega)
  have hB13 := hB12.trans (hb13.mono hB12.size)
  have HB313 : Hid (Below w3.heap.size w3 w13) := HB312.out.trans (hb13.mono HB312.out.size)
  clear hn13 hb13 HB312 hB12
  go_wp2_with fail
  refine (asmI_any ns _ _ HN13.out HW.out hln).mono ?_
  rintro e w14 ⟨v14, r14, rfl, hR14, hu14, hb14⟩
  obtain rfl : r = r14 := HR.out.one hR14
  have HU14 : Hid (Uc w14 v14 r) := hu14.cel
  have hB14 := hB13.trans (hb14.mono hB13.size)
  have HB314 : Hid (Below w3.heap.size w3 w14) := HB313.out.trans (hb14.mono HB313.out.size)
  obtain ⟨a14, c14, rfl⟩ := hu14.shape
  clear hb14 HB313 hB13 HN13 hu14 hR14
  go_wp2_with fail
  refine (eqU_any _ _ r w14 (by omega) HU14.out (HVW.out.below HB314.out)).mono ?_
  rintro e w15 ⟨rfl, hb15⟩
  have hB15 := hB14.trans (hb15.mono hB14.size)
  clear hb15
  go_wp2_with fail
  go_ret
  exact ⟨rfl, hB15⟩

end Go.Proofs.Ytkbonhbegpiajaa
