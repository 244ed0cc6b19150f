import Derived.Test.YtplkgkgekgdnmaaBt
import Derived.Deep.RegionWith
import Derived.Deep.RegionHeld3
namespace Go.Proofs.Ytplkgkgekgdnmaa
open Go.RowKit
set_option linter.unusedVariables false
set_option linter.unusedSimpArgs false

theorem box_new {w w1 : World} {A C : Obj} (h : Below ((w.alloc A).alloc C).heap.size ((w.alloc A).alloc C) w1) : w1.heap[w.heap.size + 1]? = some C ∧ w1.heap[w.heap.size]? = some A := by
  constructor
  · rw [h.block _ (by simp)]
    have := heap_alloc_new (w.alloc A) C
    simpa only [World.size_alloc] using this
  · rw [h.block _ (by simp; omega), Below.heap_alloc _ _ _ (by simp)]
    exact heap_alloc_new w A
theorem cpu_zero (w : World) (B : Nat) : CpuAt w B (.agg #[.slice none 0 0, .int .u32 0, .slice none 0 0, .slice none 0 0, .slice none 0 0, .slice none 0 0, .int .u32 0, .int .i64 0]) zeroM :=
  ⟨_, _, _, _, _, rfl, Lis.nil _ _ _ _, Lis.nil _ _ _ _, Lis.nil _ _ _ _, Lis.nil _ _ _ _, World.ownsRow_nil _ _ _ _, by simp [obk], by simp [obk]⟩

set_option maxRecDepth 8000 in
set_option maxHeartbeats 2000000 in
theorem boot_i_no1 (a : Option Addr) (len cap : Nat) (d bd : Int) (v : Value) (w : World) (hl : len ≤ 1048576) (hv : vimg len d bd = false) :
    Calls Try.prog 24 #[.agg #[.slice a len cap, .int .i64 d, .int .i64 bd], v] w fun e w' => e = .returned (.agg #[.slice none 0 0, .int .u32 0, .slice none 0 0, .slice none 0 0, .slice none 0 0, .slice none 0 0, .int .u32 0, .int .i64 0]) ∧ Below w.heap.size w w' := by
  go_enter Try.func24, Try.ntmps24
  go_wp2_with fail
  refine (vi_any a len cap d bd _ hl).mono ?_
  rintro e w1 ⟨rfl, hb1⟩
  have zz := (box_new hb1).1
  have B1 : Below w.heap.size w w1 := (((Below.refl _ _).alloc (Nat.le_refl _) _).alloc (by simp) _).trans (hb1.mono (by simp; omega))
  have z0 : w1.cell? ⟨w.heap.size + 1, 0, none⟩ = some (.slice none 0 0) := by simp [World.cell?, zz]
  have z1 : w1.cell? ⟨w.heap.size + 1, 1, none⟩ = some (.int .u32 0) := by simp [World.cell?, zz]
  have z2 : w1.cell? ⟨w.heap.size + 1, 2, none⟩ = some (.slice none 0 0) := by simp [World.cell?, zz]
  have z3 : w1.cell? ⟨w.heap.size + 1, 3, none⟩ = some (.slice none 0 0) := by simp [World.cell?, zz]
  have z4 : w1.cell? ⟨w.heap.size + 1, 4, none⟩ = some (.slice none 0 0) := by simp [World.cell?, zz]
  have z5 : w1.cell? ⟨w.heap.size + 1, 5, none⟩ = some (.slice none 0 0) := by simp [World.cell?, zz]
  have z6 : w1.cell? ⟨w.heap.size + 1, 6, none⟩ = some (.int .u32 0) := by simp [World.cell?, zz]
  have z7 : w1.cell? ⟨w.heap.size + 1, 7, none⟩ = some (.int .i64 0) := by simp [World.cell?, zz]
  have zf : ∀ j, w1.frozen? ⟨w.heap.size + 1, j, none⟩ = false := by intro j; simp [World.frozen?, zz]
  rw [hv]
  clear hb1 zz
  go_wp2
  refine bodyPost_ret (v := .agg #[.slice none 0 0, .int .u32 0, .slice none 0 0, .slice none 0 0, .slice none 0 0, .slice none 0 0, .int .u32 0, .int .i64 0]) (by simp [results, Try.results24, go_sem, z0, z1, z2, z3, z4, z5, z6, z7]) rfl ⟨rfl, ?_⟩
  exact ((Tcs.refl (fun k => k = w.heap.size + 1) w1).set8 _ rfl _ _ _ _ _ _ _ _).below B1 B1.size (by rintro k rfl; omega)

set_option maxRecDepth 8000 in
set_option maxHeartbeats 2000000 in
theorem boot_i_no2 (a : Option Addr) (len cap : Nat) (d bd : Int) (v : Value) (zs : List Int) (w : World) (hl : len ≤ 1048576) (hz : zs.length ≤ 2097152) (h : Lis .i64 w v zs) (hv : vimg len d bd = true) (ho : okIn zs = false) :
    Calls Try.prog 24 #[.agg #[.slice a len cap, .int .i64 d, .int .i64 bd], v] w fun e w' => e = .returned (.agg #[.slice none 0 0, .int .u32 0, .slice none 0 0, .slice none 0 0, .slice none 0 0, .slice none 0 0, .int .u32 0, .int .i64 0]) ∧ Below w.heap.size w w' := by
  have HL : Hid _ := h
  clear h
  go_enter Try.func24, Try.ntmps24
  go_wp2_with fail
  refine (vi_any a len cap d bd _ hl).mono ?_
  rintro e w1 ⟨rfl, hb1⟩
  have zz0 := (box_new hb1).1
  have s1 := hb1.size
  simp only [World.size_alloc] at s1
  have B1 : Below w.heap.size w w1 := (((Below.refl _ _).alloc (Nat.le_refl _) _).alloc (by simp) _).trans (hb1.mono (by simp; omega))
  rw [hv]
  go_wp2_with fail
  refine (input_i v zs _ hz (Lis.below HL.out B1)).mono ?_
  rintro e w2 ⟨rfl, hb2⟩
  have zz := blocks_keep zz0 hb2
  have B2 : Below w.heap.size w w2 := B1.trans (hb2.mono (by omega))
  have z0 : w2.cell? ⟨w.heap.size + 1, 0, none⟩ = some (.slice none 0 0) := by simp [World.cell?, zz]
  have z1 : w2.cell? ⟨w.heap.size + 1, 1, none⟩ = some (.int .u32 0) := by simp [World.cell?, zz]
  have z2 : w2.cell? ⟨w.heap.size + 1, 2, none⟩ = some (.slice none 0 0) := by simp [World.cell?, zz]
  have z3 : w2.cell? ⟨w.heap.size + 1, 3, none⟩ = some (.slice none 0 0) := by simp [World.cell?, zz]
  have z4 : w2.cell? ⟨w.heap.size + 1, 4, none⟩ = some (.slice none 0 0) := by simp [World.cell?, zz]
  have z5 : w2.cell? ⟨w.heap.size + 1, 5, none⟩ = some (.slice none 0 0) := by simp [World.cell?, zz]
  have z6 : w2.cell? ⟨w.heap.size + 1, 6, none⟩ = some (.int .u32 0) := by simp [World.cell?, zz]
  have z7 : w2.cell? ⟨w.heap.size + 1, 7, none⟩ = some (.int .i64 0) := by simp [World.cell?, zz]
  have zf : ∀ j, w2.frozen? ⟨w.heap.size + 1, j, none⟩ = false := by intro j; simp [World.frozen?, zz]
  rw [ho]
  clear hb1 zz zz0 hb2
  go_wp2
  refine bodyPost_ret (v := .agg #[.slice none 0 0, .int .u32 0, .slice none 0 0, .slice none 0 0, .slice none 0 0, .slice none 0 0, .int .u32 0, .int .i64 0]) (by simp [results, Try.results24, go_sem, z0, z1, z2, z3, z4, z5, z6, z7]) rfl ⟨rfl, ?_⟩
  exact ((Tcs.refl (fun k => k = w.heap.size + 1) w2).set8 _ rfl _ _ _ _ _ _ _ _).below B2 B2.size (by rintro k rfl; omega)

theorem boot_i (a : Option Addr) (len cap : Nat) (d bd : Int) (v : Value) (zs : List Int) (w : World) (hl : len ≤ 1048576) (hz : zs.length ≤ 2097152) (h : Lis .i64 w v zs) :
    Calls Try.prog 24 #[.agg #[.slice a len cap, .int .i64 d, .int .i64 bd], v] w fun e w' => ∃ u, e = .returned u ∧ CpuAt w' w.heap.size u (bootM len d bd zs) ∧ Below w.heap.size w w' := by
  cases hv : vimg len d bd with
  | false =>
    refine (boot_i_no1 a len cap d bd v w hl hv).mono fun e w' ⟨he, hb⟩ => ⟨_, he, ?_, hb⟩
    rw [show bootM len d bd zs = zeroM by unfold bootM; rw [hv]; rfl]
    exact cpu_zero _ _
  | true =>
    cases ho : okIn zs with
    | true => exact boot_i_yes a len cap d bd v zs w hl hz h hv ho
    | false =>
      refine (boot_i_no2 a len cap d bd v zs w hl hz h hv ho).mono fun e w' ⟨he, hb⟩ => ⟨_, he, ?_, hb⟩
      rw [show bootM len d bd zs = zeroM by unfold bootM; rw [hv, ho]; rfl]
      exact cpu_zero _ _

end Go.Proofs.Ytplkgkgekgdnmaa
