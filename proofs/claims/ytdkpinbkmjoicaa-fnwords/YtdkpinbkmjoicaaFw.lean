import Derived.Test.YtdkpinbkmjoicaaWd
import Derived.Test.YtdkpinbkmjoicaaNw
import Derived.Deep.RegionHeld3
namespace Go.Proofs.Ytdkpinbkmjoicaa
open Go.RowKit
set_option linter.unusedVariables false
set_option linter.unusedSimpArgs false
theorem big1 (a0 a1 : Option Addr) (l0 c0 l1 c1 : Nat) (w : World) (h : 1048576 < l0 ∨ 1048576 < l1) (m0 : l0 ≤ 9223372036854775807) (m1 : l1 ≤ 9223372036854775807) :
    Calls Try.prog 3 #[.slice a0 l0 c0, .slice a1 l1 c1] w fun e w' => e = .returned (.bool true) ∧ Below w.heap.size w w' := by
  by_cases h0 : 1048576 < l0
  · have e0 : (1048576 : Int) < (l0 : Int) := by omega
    go_enter Try.func3, Try.ntmps3
    go_wp2
    go_ret
    exact ⟨rfl, Below.refl _ _⟩
  · have e0 : ¬ (1048576 : Int) < (l0 : Int) := by omega
    have e1 : (1048576 : Int) < (l1 : Int) := by omega
    go_enter Try.func3, Try.ntmps3
    go_wp2
    go_ret
    exact ⟨rfl, Below.refl _ _⟩
theorem chain {w2 W w3 : World} (h : Below w2.heap.size w2 W) (hb : Below W.heap.size W w3) : Below w2.heap.size w2 w3 := h.trans (hb.mono h.size)
theorem B8d {w w8 : World} {ob : Obj} (h : Below w.heap.size w w8) : Below w.heap.size w (w8.alloc ob).drew := (h.alloc h.size _).drew
theorem six6 {W W' : World} {b : Nat} {v0 v1 v2 v3 v4 v5 : Value} (hb : Below W.heap.size W W')
    (k : W.cell? ⟨b, 0, none⟩ = some v0 ∧ W.cell? ⟨b, 1, none⟩ = some v1 ∧ W.cell? ⟨b, 2, none⟩ = some v2 ∧ W.cell? ⟨b, 3, none⟩ = some v3 ∧ W.cell? ⟨b, 4, none⟩ = some v4 ∧ W.cell? ⟨b, 5, none⟩ = some v5) :
    (W'.cell? ⟨b, 0, none⟩ = some v0 ∧ W'.cell? ⟨b, 1, none⟩ = some v1 ∧ W'.cell? ⟨b, 2, none⟩ = some v2 ∧ W'.cell? ⟨b, 3, none⟩ = some v3 ∧ W'.cell? ⟨b, 4, none⟩ = some v4 ∧ W'.cell? ⟨b, 5, none⟩ = some v5) :=
  ⟨later hb k.1, later hb k.2.1, later hb k.2.2.1, later hb k.2.2.2.1, later hb k.2.2.2.2.1, later hb k.2.2.2.2.2⟩
theorem vi_impl' (op rd s1 s2 im R : Int) (v : Bool) (w : World) (h : EncIs op rd s1 s2 im R v) :
    Calls Try.prog 8 #[.agg #[.int .i64 op, .int .i64 rd, .int .i64 s1, .int .i64 s2, .int .i64 im]] w fun e w' => e = .returned (.bool v) ∧ Below w.heap.size w w' := vi_impl op rd s1 s2 im R v w h
set_option maxRecDepth 100000 in
set_option maxHeartbeats 8000000 in
theorem small (a0 a1 : Option Addr) (l0 c0 l1 c1 : Nat) (w : World) (h0 : l0 ≤ 1048576) (h1 : l1 ≤ 1048576) (b1 : B8 w a1 l1)
    (hDE : ∀ W : World, Below w.heap.size w W → Calls Try.prog 5 #[.slice a0 l0 c0] W fun e w' => (∃ p q r s t : Int, e = .returned (.agg #[.int .i64 p, .int .i64 q, .int .i64 r, .int .i64 s, .int .i64 t])) ∧ Below W.heap.size W w')
    (hDD : ∀ W : World, Below w.heap.size w W → Calls Try.prog 11 #[.slice a1 l1 c1] W fun e w' => (∃ y : Int, (0 ≤ y ∧ y ≤ 4294967295) ∧ e = .returned (.int .u32 y)) ∧ Below W.heap.size W w') :
    Calls Try.prog 3 #[.slice a0 l0 c0, .slice a1 l1 c1] w fun e w' => e = .returned (.bool true) ∧ Below w.heap.size w w' := by
  have e0 : ¬ (1048576 : Int) < (l0 : Int) := by omega
  have e1 : ¬ (1048576 : Int) < (l1 : Int) := by omega
  have HDE : Hid _ := hDE
  have HDD : Hid _ := hDD
  clear hDE hDD b1
  go_enter Try.func3, Try.ntmps3
  go_wp2_with fail
  refine (HDE.out _ (Below.refl _ _)).mono ?_
  rintro e w1 ⟨⟨p, q, r, s, t, rfl⟩, hb1⟩
  obtain ⟨R, v, hE, hD⟩ := word_any p q r s t
  have HE : Hid _ := hE
  have HD : Hid _ := hD
  have hR := hE.2.2.2.2
  clear hE hD
  have z1 := hb1.size
  go_wp2_with fail
  refine (HE.out.1 _).mono ?_
  rintro e w2 ⟨rfl, hb2⟩
  simp only [World.size_alloc] at hb2
  have z2 := hb2.size
  simp only [World.size_alloc] at z2
  have k2 := box5 hb2
  have hb2' : Hid (Below w1.heap.size w1 w2) := ((Below.refl _ _).alloc (Nat.le_refl w1.heap.size) _).trans (hb2.mono (Nat.le_succ _))
  go_wp2_with fail
  go_region_held3 (fun W => W.cell? ⟨w1.heap.size, 0, none⟩ = some (.int .i64 p) ∧ W.cell? ⟨w1.heap.size, 1, none⟩ = some (.int .i64 q) ∧ W.cell? ⟨w1.heap.size, 2, none⟩ = some (.int .i64 r) ∧ W.cell? ⟨w1.heap.size, 3, none⟩ = some (.int .i64 s) ∧ W.cell? ⟨w1.heap.size, 4, none⟩ = some (.int .i64 t)) (go_simp)
    (first
    | (go_at_call 7; refine (HE.out.2.1 _).mono ?_; rintro e w3 ⟨rfl, hb3⟩; have q3 := five_later hb3 (by first | assumption | exact k2); have B3 := chain (by first | assumption | exact below_drew' _) hb3)
    | (go_at_call 8; refine (vi_impl' _ _ _ _ _ _ _ _ HE.out).mono ?_; rintro e w4 ⟨rfl, hb4⟩; have q4 := five_later hb4 (by first | assumption | exact k2); have B4 := chain (by first | assumption | exact below_drew' _) hb4)
    | (go_at_call 9; refine (HE.out.2.2.1 _).mono ?_; rintro e w5 ⟨rfl, hb5⟩; have q5 := five_later hb5 (by first | assumption | exact k2); have B5 := chain (by first | assumption | exact below_drew' _) hb5))
  go_wp2_with fail
  refine (HE.out.2.2.1 _).mono ?_
  rintro e w6 ⟨rfl, hb6⟩
  have q6 := five_later hb6 q5
  have B6 : Hid (Below w.heap.size w w6) := chain (chain (chain hb1 hb2'.out) B5) hb6
  have z6 : w1.heap.size < w6.heap.size := by have a1 := hb6.size; have a2 := B5.size; omega
  clear hb6 hb5 hb4 hb3 hb2 hb1 B3 B4 B5 q3 q4 q5 k2
  cases v
  · go_wp2_with fail
    refine (HDD.out _ B6.out).mono ?_
    rintro e w7 ⟨⟨y, hy, rfl⟩, hb7⟩
    obtain ⟨o, k, a, b, c, d, hs, hi, he⟩ := dec_word y hy
    have HS : Hid _ := hs
    have HI : Hid _ := hi
    have HN : Hid _ := he
    have B7 : Hid (Below w.heap.size w w7) := chain B6.out hb7
    clear hs hi he hb7
    go_wp2_with fail
    refine (HI.out _).mono ?_
    rintro e w8 ⟨rfl, hb8⟩
    have B8' : Hid (Below w.heap.size w w8) := chain B7.out hb8
    have z8 := B8'.out.size
    have k8 := (box6 (Below.refl (w8.heap.size + 1) (w8.alloc (.cells #[.bool o, .int .i64 k, .int .i64 a, .int .i64 b, .int .i64 c, .int .i64 d] 30)))).1
    clear hb8
    cases o
    · go_wp2_with fail
      first
        | (go_region_with (first
        | (go_at_call 12; refine (HS.out _).mono ?_; rintro e w9 ⟨rfl, hb9⟩; have q9 := six6 hb9 (by first | assumption | exact k8); have B9 := chain (by first | assumption | exact B8d B8'.out) hb9)))
        | fail
      all_goals go_wp2
      all_goals go_ret
      all_goals exact ⟨rfl, by assumption⟩
    · have hn := HN.out rfl
      have HN' : Hid _ := hn
      clear hn
      go_wp2_with fail
      go_region_held3 (fun W => W.cell? ⟨w8.heap.size, 0, none⟩ = some (.bool true) ∧ W.cell? ⟨w8.heap.size, 1, none⟩ = some (.int .i64 k) ∧ W.cell? ⟨w8.heap.size, 2, none⟩ = some (.int .i64 a) ∧ W.cell? ⟨w8.heap.size, 3, none⟩ = some (.int .i64 b) ∧ W.cell? ⟨w8.heap.size, 4, none⟩ = some (.int .i64 c) ∧ W.cell? ⟨w8.heap.size, 5, none⟩ = some (.int .i64 d)) (go_simp)
        (first
        | (go_at_call 12; refine (HS.out _).mono ?_; rintro e w9 ⟨rfl, hb9⟩; have q9 := six6 hb9 (by first | assumption | exact k8); have B9 := chain (by first | assumption | exact B8d B8'.out) hb9)
        | (go_at_call 6; refine (HN'.out _).mono ?_; rintro e w10 ⟨rfl, hb10⟩; have q10 := six6 hb10 (by first | assumption | exact k8); have B10 := chain (by first | assumption | exact B8d B8'.out) hb10))
      all_goals go_wp2
      all_goals go_ret
      all_goals exact ⟨rfl, by assumption⟩
  · have hd := HD.out rfl
    have HD' : Hid _ := hd
    clear hd
    go_wp2_with fail
    refine (HD'.out _).mono ?_
    rintro e w6b ⟨rfl, hb6b⟩
    have q6b := five_later hb6b q6
    have z6b := hb6b.size
    have B6b : Hid (Below w.heap.size w w6b) := chain B6.out hb6b
    have z6c : w1.heap.size < w6b.heap.size := by omega
    have B6c : Hid (Below w.heap.size w (w6b.alloc (.cells #[.bool true, .int .i64 p, .int .i64 q, .int .i64 r, .int .i64 s, .int .i64 t] 30))) := B6b.out.alloc B6b.out.size _
    clear hb6b q6
    go_wp2_with fail
    refine (HDD.out _ B6c.out).mono ?_
    rintro e w7 ⟨⟨y, hy, rfl⟩, hb7⟩
    obtain ⟨o, k, a, b, c, d, hs, hi, he⟩ := dec_word y hy
    have HS : Hid _ := hs
    have HI : Hid _ := hi
    have HN : Hid _ := he
    have B7 : Hid (Below w.heap.size w w7) := chain B6c.out hb7
    clear hs hi he hb7
    go_wp2_with fail
    refine (HI.out _).mono ?_
    rintro e w8 ⟨rfl, hb8⟩
    have B8' : Hid (Below w.heap.size w w8) := chain B7.out hb8
    have z8 := B8'.out.size
    have k8 := (box6 (Below.refl (w8.heap.size + 1) (w8.alloc (.cells #[.bool o, .int .i64 k, .int .i64 a, .int .i64 b, .int .i64 c, .int .i64 d] 30)))).1
    clear hb8
    cases o
    · go_wp2_with fail
      first
        | (go_region_with (first
        | (go_at_call 12; refine (HS.out _).mono ?_; rintro e w9 ⟨rfl, hb9⟩; have q9 := six6 hb9 (by first | assumption | exact k8); have B9 := chain (by first | assumption | exact B8d B8'.out) hb9)))
        | fail
      all_goals go_wp2
      all_goals go_ret
      all_goals exact ⟨rfl, by assumption⟩
    · have hn := HN.out rfl
      have HN' : Hid _ := hn
      clear hn
      go_wp2_with fail
      go_region_held3 (fun W => W.cell? ⟨w8.heap.size, 0, none⟩ = some (.bool true) ∧ W.cell? ⟨w8.heap.size, 1, none⟩ = some (.int .i64 k) ∧ W.cell? ⟨w8.heap.size, 2, none⟩ = some (.int .i64 a) ∧ W.cell? ⟨w8.heap.size, 3, none⟩ = some (.int .i64 b) ∧ W.cell? ⟨w8.heap.size, 4, none⟩ = some (.int .i64 c) ∧ W.cell? ⟨w8.heap.size, 5, none⟩ = some (.int .i64 d)) (go_simp)
        (first
        | (go_at_call 12; refine (HS.out _).mono ?_; rintro e w9 ⟨rfl, hb9⟩; have q9 := six6 hb9 (by first | assumption | exact k8); have B9 := chain (by first | assumption | exact B8d B8'.out) hb9)
        | (go_at_call 6; refine (HN'.out _).mono ?_; rintro e w10 ⟨rfl, hb10⟩; have q10 := six6 hb10 (by first | assumption | exact k8); have B10 := chain (by first | assumption | exact B8d B8'.out) hb10))
      all_goals go_wp2
      all_goals go_ret
      all_goals exact ⟨rfl, by assumption⟩
end Go.Proofs.Ytdkpinbkmjoicaa
