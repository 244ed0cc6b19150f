import Derived.Test.YtplkgkgekgdnmaaBu
import Derived.Deep.RegionWith
import Derived.Deep.RegionHeld3
namespace Go.Proofs.Ytplkgkgekgdnmaa
open Go.RowKit
set_option linter.unusedVariables false
set_option linter.unusedSimpArgs false

set_option maxRecDepth 8000 in
set_option maxHeartbeats 1000000 in
theorem boot_s_no1 (a : Option Addr) (len cap : Nat) (d bd : Int) (v : Value) (w : World) (hl : len ≤ 1048576) (hv : vimg len d bd = false) :
    Calls Try.prog 22 #[.agg #[.slice a len cap, .int .i64 d, .int .i64 bd], v] w fun e w' => e = .returned (.agg #[.slice none 0 0, .int .u32 0, .slice none 0 0, .slice none 0 0, .slice none 0 0, .slice none 0 0, .int .u32 0, .int .i64 0]) ∧ Below w.heap.size w w' := by
  go_enter Try.func22, Try.ntmps22
  go_wp2_with fail
  refine (vs_any a len cap d bd _ hl).mono ?_
  rintro e w1 ⟨rfl, hb1⟩
  have zz := (box_new hb1).1
  have B1 : Below w.heap.size w w1 := (((Below.refl _ _).alloc (Nat.le_refl _) _).alloc (by simp) _).trans (hb1.mono (by simp; omega))
  have z0 : w1.cell? ⟨w.heap.size + 1, 0, none⟩ = some (.slice none 0 0) := by simp [World.cell?, zz]
  have z1 : w1.cell? ⟨w.heap.size + 1, 1, none⟩ = some (.int .u32 0) := by simp [World.cell?, zz]
  have z2 : w1.cell? ⟨w.heap.size + 1, 2, none⟩ = some (.slice none 0 0) := by simp [World.cell?, zz]
  have z3 : w1.cell? ⟨w.heap.size + 1, 3, none⟩ = some (.slice none 0 0) := by simp [World.cell?, zz]
  have z4 : w1.cell? ⟨w.heap.size + 1, 4, none⟩ = some (.slice none 0 0) := by simp [World.cell?, zz]
  have z5 : w1.cell? ⟨w.heap.size + 1, 5, none⟩ = some (.slice none 0 0) := by simp [World.cell?, zz]
  have z6 : w1.cell? ⟨w.heap.size + 1, 6, none⟩ = some (.int .u32 0) := by simp [World.cell?, zz]
  have z7 : w1.cell? ⟨w.heap.size + 1, 7, none⟩ = some (.int .i64 0) := by simp [World.cell?, zz]
  have zf : ∀ j, w1.frozen? ⟨w.heap.size + 1, j, none⟩ = false := by intro j; simp [World.frozen?, zz]
  rw [hv]
  clear hb1 zz
  go_wp2
  refine bodyPost_ret (v := .agg #[.slice none 0 0, .int .u32 0, .slice none 0 0, .slice none 0 0, .slice none 0 0, .slice none 0 0, .int .u32 0, .int .i64 0]) (by simp [results, Try.results22, go_sem, z0, z1, z2, z3, z4, z5, z6, z7]) rfl ⟨rfl, ?_⟩
  exact ((Tcs.refl (fun k => k = w.heap.size + 1) (w1)).set8 _ rfl _ _ _ _ _ _ _ _).below B1 B1.size (by rintro k rfl; omega)

set_option maxRecDepth 8000 in
set_option maxHeartbeats 1000000 in
theorem boot_s_no2 (a : Option Addr) (len cap : Nat) (d bd : Int) (av : Option Addr) (n cv : Nat) (w : World) (hl : len ≤ 1048576) (hn : 1000 < n) (hv : vimg len d bd = true) :
    Calls Try.prog 22 #[.agg #[.slice a len cap, .int .i64 d, .int .i64 bd], .slice av n cv] w fun e w' => e = .returned (.agg #[.slice none 0 0, .int .u32 0, .slice none 0 0, .slice none 0 0, .slice none 0 0, .slice none 0 0, .int .u32 0, .int .i64 0]) ∧ Below w.heap.size w w' := by
  go_enter Try.func22, Try.ntmps22
  go_wp2_with fail
  refine (vs_any a len cap d bd _ hl).mono ?_
  rintro e w1 ⟨rfl, hb1⟩
  have zz := (box_new hb1).1
  have B1 : Below w.heap.size w w1 := (((Below.refl _ _).alloc (Nat.le_refl _) _).alloc (by simp) _).trans (hb1.mono (by simp; omega))
  have z0 : w1.cell? ⟨w.heap.size + 1, 0, none⟩ = some (.slice none 0 0) := by simp [World.cell?, zz]
  have z1 : w1.cell? ⟨w.heap.size + 1, 1, none⟩ = some (.int .u32 0) := by simp [World.cell?, zz]
  have z2 : w1.cell? ⟨w.heap.size + 1, 2, none⟩ = some (.slice none 0 0) := by simp [World.cell?, zz]
  have z3 : w1.cell? ⟨w.heap.size + 1, 3, none⟩ = some (.slice none 0 0) := by simp [World.cell?, zz]
  have z4 : w1.cell? ⟨w.heap.size + 1, 4, none⟩ = some (.slice none 0 0) := by simp [World.cell?, zz]
  have z5 : w1.cell? ⟨w.heap.size + 1, 5, none⟩ = some (.slice none 0 0) := by simp [World.cell?, zz]
  have z6 : w1.cell? ⟨w.heap.size + 1, 6, none⟩ = some (.int .u32 0) := by simp [World.cell?, zz]
  have z7 : w1.cell? ⟨w.heap.size + 1, 7, none⟩ = some (.int .i64 0) := by simp [World.cell?, zz]
  have zf : ∀ j, w1.frozen? ⟨w.heap.size + 1, j, none⟩ = false := by intro j; simp [World.frozen?, zz]
  rw [hv]
  clear hb1 zz
  go_wp2
  refine bodyPost_ret (v := .agg #[.slice none 0 0, .int .u32 0, .slice none 0 0, .slice none 0 0, .slice none 0 0, .slice none 0 0, .int .u32 0, .int .i64 0]) (by simp [results, Try.results22, go_sem, z0, z1, z2, z3, z4, z5, z6, z7]) rfl ⟨rfl, ?_⟩
  exact ((Tcs.refl (fun k => k = w.heap.size + 1) (w1)).set8 _ rfl _ _ _ _ _ _ _ _).below B1 B1.size (by rintro k rfl; omega)

set_option maxRecDepth 8000 in
set_option maxHeartbeats 1000000 in
theorem boot_s_no3 (a : Option Addr) (len cap : Nat) (d bd : Int) (v : Value) (zs : List Int) (w : World) (hl : len ≤ 1048576) (hz : zs.length ≤ 1000) (h : Lis .i64 w v zs) (hv : vimg len d bd = true) (ho : wrds zs = false) :
    Calls Try.prog 22 #[.agg #[.slice a len cap, .int .i64 d, .int .i64 bd], v] w fun e w' => e = .returned (.agg #[.slice none 0 0, .int .u32 0, .slice none 0 0, .slice none 0 0, .slice none 0 0, .slice none 0 0, .int .u32 0, .int .i64 0]) ∧ Below w.heap.size w w' := by
  obtain ⟨av, cv, rfl⟩ := h.len0
  have HL : Hid _ := h
  clear h
  go_enter Try.func22, Try.ntmps22
  go_wp2_with fail
  refine (vs_any a len cap d bd _ hl).mono ?_
  rintro e w1 ⟨rfl, hb1⟩
  have zz := (box_new hb1).1
  have B1 : Below w.heap.size w w1 := (((Below.refl _ _).alloc (Nat.le_refl _) _).alloc (by simp) _).trans (hb1.mono (by simp; omega))
  have z0 : w1.cell? ⟨w.heap.size + 1, 0, none⟩ = some (.slice none 0 0) := by simp [World.cell?, zz]
  have z1 : w1.cell? ⟨w.heap.size + 1, 1, none⟩ = some (.int .u32 0) := by simp [World.cell?, zz]
  have z2 : w1.cell? ⟨w.heap.size + 1, 2, none⟩ = some (.slice none 0 0) := by simp [World.cell?, zz]
  have z3 : w1.cell? ⟨w.heap.size + 1, 3, none⟩ = some (.slice none 0 0) := by simp [World.cell?, zz]
  have z4 : w1.cell? ⟨w.heap.size + 1, 4, none⟩ = some (.slice none 0 0) := by simp [World.cell?, zz]
  have z5 : w1.cell? ⟨w.heap.size + 1, 5, none⟩ = some (.slice none 0 0) := by simp [World.cell?, zz]
  have z6 : w1.cell? ⟨w.heap.size + 1, 6, none⟩ = some (.int .u32 0) := by simp [World.cell?, zz]
  have z7 : w1.cell? ⟨w.heap.size + 1, 7, none⟩ = some (.int .i64 0) := by simp [World.cell?, zz]
  have zf : ∀ j, w1.frozen? ⟨w.heap.size + 1, j, none⟩ = false := by intro j; simp [World.frozen?, zz]
  rw [hv]
  clear hb1 zz
  go_wp2_with fail
  refine (words_s _ zs _ (by omega) (Lis.below HL.out B1)).mono ?_
  rintro e w2 ⟨rfl, nd, rfl⟩
  rw [ho]
  have B2 := below_drewN B1 nd
  go_wp2
  refine bodyPost_ret (v := .agg #[.slice none 0 0, .int .u32 0, .slice none 0 0, .slice none 0 0, .slice none 0 0, .slice none 0 0, .int .u32 0, .int .i64 0]) (by simp [results, Try.results22, go_sem, z0, z1, z2, z3, z4, z5, z6, z7]) rfl ⟨rfl, ?_⟩
  exact ((Tcs.refl (fun k => k = w.heap.size + 1) (w1.drewN nd)).set8 _ rfl _ _ _ _ _ _ _ _).below B2 B2.size (by rintro k rfl; omega)

theorem boot_s (a : Option Addr) (len cap : Nat) (d bd : Int) (v : Value) (zs : List Int) (w : World) (hl : len ≤ 1048576) (hz : zs.length ≤ 2097152) (h : Lis .i64 w v zs) (hnil : v = .slice none 0 0 ∨ ∃ ad m c, v = .slice (some ad) m c) :
    Calls Try.prog 22 #[.agg #[.slice a len cap, .int .i64 d, .int .i64 bd], v] w fun e w' => ∃ u, e = .returned u ∧ CpuAt w' w.heap.size u (bootM len d bd zs) ∧ Below w.heap.size w w' := by
  cases hv : vimg len d bd with
  | false =>
    refine (boot_s_no1 a len cap d bd v w hl hv).mono fun e w' ⟨he, hb⟩ => ⟨_, he, ?_, hb⟩
    rw [show bootM len d bd zs = zeroM by unfold bootM; rw [hv]; rfl]
    exact cpu_zero _ _
  | true =>
    by_cases h1 : zs.length ≤ 1000
    · cases ho : wrds zs with
      | true => exact boot_s_yes a len cap d bd v zs w hl h1 h hnil hv ho
      | false =>
        refine (boot_s_no3 a len cap d bd v zs w hl h1 h hv ho).mono fun e w' ⟨he, hb⟩ => ⟨_, he, ?_, hb⟩
        rw [show bootM len d bd zs = zeroM by unfold bootM okIn; rw [hv, ho]; simp]
        exact cpu_zero _ _
    · obtain ⟨av, cv, rfl⟩ := h.len0
      refine (boot_s_no2 a len cap d bd av zs.length cv w hl (by omega) hv).mono fun e w' ⟨he, hb⟩ => ⟨_, he, ?_, hb⟩
      rw [show bootM len d bd zs = zeroM by unfold bootM okIn; rw [hv]; simp [h1]]
      exact cpu_zero _ _

end Go.Proofs.Ytplkgkgekgdnmaa
