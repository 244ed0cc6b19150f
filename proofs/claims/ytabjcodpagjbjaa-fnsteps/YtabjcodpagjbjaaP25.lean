import Derived.Test.YtabjcodpagjbjaaP24
import Derived.Deep.RegionHeld3
namespace Go.Proofs.Ytabjcodpagjbjaa
open Go.RowKit
set_option linter.unusedVariables false
set_option linter.unusedSimpArgs false
/-- What both programs find when they try the word v as one of op: the fields, and the word of these. -/
def Fit (op rd s1 s2 R : Int) : Prop := 0 < R ∧ R % 128 = oc op ∧ (0 ≤ rd ∧ rd < 32) ∧ (0 ≤ s1 ∧ s1 < 32) ∧ (0 ≤ s2 ∧ s2 < 32) ∧ (4 ≤ op ∧ op ≤ 9 → rd = 0)
/-- What a look at a word as one of an op gives. -/
def TryIs (op v rd s1 s2 im R : Int) (T : TypeId) (cv : Value) (fw fi : Nat) : Prop :=
  tabA[op.toNat]? = some (.iface T cv) ∧
  (∀ W : World, (method 244 T cv "loop.example/s01725/impl.word").run Try.prog W = .ok (fw, cv) W) ∧
  (∀ W : World, (method 244 T cv "loop.example/s01725/impl.inst").run Try.prog W = .ok (fi, cv) W) ∧
  (∀ W : World, Calls Try.prog fi #[cv, .int .u32 v] W fun e w' => e = .returned (.agg #[.int .i64 0, .int .i64 rd, .int .i64 s1, .int .i64 s2, .int .i64 im]) ∧ Below W.heap.size W w') ∧
  (∀ W : World, Calls Try.prog fw #[cv, .agg #[.int .i64 0, .int .i64 rd, .int .i64 s1, .int .i64 s2, .int .i64 im]] W fun e w' => e = .returned (.int .u32 R) ∧ Below W.heap.size W w') ∧
  (∀ W : World, Calls Try.prog 78 #[.int .u32 v, .int .i64 op] W fun e w' => e = .returned (.agg #[.int .i64 op, .int .i64 rd, .int .i64 s1, .int .i64 s2, .int .i64 im]) ∧ Below W.heap.size W w') ∧
  (∀ W : World, Calls Try.prog 55 #[.agg #[.int .i64 op, .int .i64 rd, .int .i64 s1, .int .i64 s2, .int .i64 im]] W fun e w' => e = .returned (.int .u32 R) ∧ Below W.heap.size W w') ∧ Fit op rd s1 s2 R ∧
  (∀ (x y : Value) (W : World), (callFunc fw #[x, y]).run Try.prog W = .ok (.enter fw #[x, y]) W) ∧ (∀ (x y : Value) (W : World), (callFunc fi #[x, y]).run Try.prog W = .ok (.enter fi #[x, y]) W)
theorem cfwU (x y : Value) (W : World) : (callFunc 109 #[x, y]).run Try.prog W = .ok (.enter 109 #[x, y]) W := by kernel_rfl
theorem cfiU (x y : Value) (W : World) : (callFunc 108 #[x, y]).run Try.prog W = .ok (.enter 108 #[x, y]) W := by kernel_rfl
theorem tryU (op v : Int) (h : op = 1) (hv : 0 ≤ v ∧ v ≤ 4294967295) : ∃ rd s1 s2 im R T cv fw fi, TryIs op v rd s1 s2 im R T cv fw fi := by
  have hp := oc_pos op (by omega)
  have o2 := f3_bd op
  have o3 := f7_bd op
  refine ⟨_, _, _, _, _, _, _, _, _, tabU op h, fun W => mwU _ W, fun W => miU _ W, fun W => instU _ v W hv, fun W => wordU _ _ _ _ _ _ W (oc_bd op), fun W => guessU op v W h hv, fun W => encU op _ _ _ _ W h (gvU v hv), ?_, cfwU, cfiU⟩
  generalize v / 4096 % 1048576 = z at *
  have ob := oc_bd op
  refine ⟨by omega, by omega, by omega, by omega, by omega, by omega⟩
theorem cfwJ (x y : Value) (W : World) : (callFunc 114 #[x, y]).run Try.prog W = .ok (.enter 114 #[x, y]) W := by kernel_rfl
theorem cfiJ (x y : Value) (W : World) : (callFunc 113 #[x, y]).run Try.prog W = .ok (.enter 113 #[x, y]) W := by kernel_rfl
theorem tryJ (op v : Int) (h : op = 2) (hv : 0 ≤ v ∧ v ≤ 4294967295) : ∃ rd s1 s2 im R T cv fw fi, TryIs op v rd s1 s2 im R T cv fw fi := by
  have hp := oc_pos op (by omega)
  have o2 := f3_bd op
  have o3 := f7_bd op
  refine ⟨_, _, _, _, _, _, _, _, _, tabJ op h, fun W => mwJ _ W, fun W => miJ _ W, fun W => instJ _ v W hv, fun W => wordJ _ _ _ _ _ _ W (oc_bd op), fun W => guessJ op v W h hv, fun W => encJ op _ _ _ _ W h (gvJ v hv), ?_, cfwJ, cfiJ⟩
  generalize sg (v / 2097152 % 1024 * 2 + v / 1048576 % 2 * 2048 + v / 4096 % 256 * 4096 + v / 2147483648 % 2 * 1048576) 1048576 2097152 = z at *
  have ob := oc_bd op
  refine ⟨by omega, by omega, by omega, by omega, by omega, by omega⟩
theorem cfwB (x y : Value) (W : World) : (callFunc 122 #[x, y]).run Try.prog W = .ok (.enter 122 #[x, y]) W := by kernel_rfl
theorem cfiB (x y : Value) (W : World) : (callFunc 121 #[x, y]).run Try.prog W = .ok (.enter 121 #[x, y]) W := by kernel_rfl
theorem tryB (op v : Int) (h : 4 ≤ op ∧ op ≤ 9) (hv : 0 ≤ v ∧ v ≤ 4294967295) : ∃ rd s1 s2 im R T cv fw fi, TryIs op v rd s1 s2 im R T cv fw fi := by
  have hp := oc_pos op (by omega)
  have o2 := f3_bd op
  have o3 := f7_bd op
  refine ⟨_, _, _, _, _, _, _, _, _, tabB op h, fun W => mwB _ _ W, fun W => miB _ _ W, fun W => instB _ _ v W hv, fun W => wordB _ _ _ _ _ _ _ W (oc_bd op) (f3_bd op), fun W => guessB op v W h hv, fun W => encB op _ _ _ _ W h (gvB v hv), ?_, cfwB, cfiB⟩
  generalize sg (v / 256 % 16 * 2 + v / 33554432 % 64 * 32 + v / 128 % 2 * 2048 + v / 2147483648 % 2 * 4096) 4096 8192 = z at *
  have ob := oc_bd op
  refine ⟨by omega, by omega, by omega, by omega, by omega, by omega⟩
theorem cfwS (x y : Value) (W : World) : (callFunc 126 #[x, y]).run Try.prog W = .ok (.enter 126 #[x, y]) W := by kernel_rfl
theorem cfiS (x y : Value) (W : World) : (callFunc 125 #[x, y]).run Try.prog W = .ok (.enter 125 #[x, y]) W := by kernel_rfl
theorem tryS (op v : Int) (h : op = 11) (hv : 0 ≤ v ∧ v ≤ 4294967295) : ∃ rd s1 s2 im R T cv fw fi, TryIs op v rd s1 s2 im R T cv fw fi := by
  have hp := oc_pos op (by omega)
  have o2 := f3_bd op
  have o3 := f7_bd op
  refine ⟨_, _, _, _, _, _, _, _, _, tabS op h, fun W => mwS _ _ W, fun W => miS _ _ W, fun W => instS _ _ v W hv, fun W => wordS _ _ _ _ _ _ _ W (oc_bd op) (f3_bd op), fun W => guessS op v W h hv, fun W => encS op _ _ _ _ W h (gvS v hv), ?_, cfwS, cfiS⟩
  generalize sg (v / 128 % 32 + v / 33554432 % 128 * 32) 2048 4096 = z at *
  have ob := oc_bd op
  refine ⟨by omega, by omega, by omega, by omega, by omega, by omega⟩
theorem cfwH (x y : Value) (W : World) : (callFunc 128 #[x, y]).run Try.prog W = .ok (.enter 128 #[x, y]) W := by kernel_rfl
theorem cfiH (x y : Value) (W : World) : (callFunc 127 #[x, y]).run Try.prog W = .ok (.enter 127 #[x, y]) W := by kernel_rfl
theorem tryH (op v : Int) (h : 18 ≤ op ∧ op ≤ 20) (hv : 0 ≤ v ∧ v ≤ 4294967295) : ∃ rd s1 s2 im R T cv fw fi, TryIs op v rd s1 s2 im R T cv fw fi := by
  have hp := oc_pos op (by omega)
  have o2 := f3_bd op
  have o3 := f7_bd op
  refine ⟨_, _, _, _, _, _, _, _, _, tabH op h, fun W => mwH _ _ _ W, fun W => miH _ _ _ W, fun W => instH _ _ _ v W hv, fun W => wordH _ _ _ _ _ _ _ _ W (oc_bd op) (f3_bd op) (f7_bd op), fun W => guessH op v W h hv, fun W => encH op _ _ _ _ W h (gvH v hv), ?_, cfwH, cfiH⟩
  generalize v / 1048576 % 32 = z at *
  have ob := oc_bd op
  refine ⟨by omega, by omega, by omega, by omega, by omega, by omega⟩
theorem cfwR (x y : Value) (W : World) : (callFunc 130 #[x, y]).run Try.prog W = .ok (.enter 130 #[x, y]) W := by kernel_rfl
theorem cfiR (x y : Value) (W : World) : (callFunc 129 #[x, y]).run Try.prog W = .ok (.enter 129 #[x, y]) W := by kernel_rfl
theorem tryR (op v : Int) (h : 21 ≤ op ∧ op ≤ 33) (hv : 0 ≤ v ∧ v ≤ 4294967295) : ∃ rd s1 s2 im R T cv fw fi, TryIs op v rd s1 s2 im R T cv fw fi := by
  have hp := oc_pos op (by omega)
  have o2 := f3_bd op
  have o3 := f7_bd op
  refine ⟨_, _, _, _, _, _, _, _, _, tabR op h, fun W => mwR _ _ _ W, fun W => miR _ _ _ W, fun W => instR _ _ _ v W hv, fun W => wordR _ _ _ _ _ _ _ _ W (oc_bd op) (f3_bd op) (f7_bd op), fun W => guessR op v W h hv, fun W => encR op _ _ _ _ W h (gvR v hv), ?_, cfwR, cfiR⟩
  have ob := oc_bd op
  refine ⟨by omega, by omega, by omega, by omega, by omega, by omega⟩
theorem cfwE (x y : Value) (W : World) : (callFunc 132 #[x, y]).run Try.prog W = .ok (.enter 132 #[x, y]) W := by kernel_rfl
theorem cfiE (x y : Value) (W : World) : (callFunc 131 #[x, y]).run Try.prog W = .ok (.enter 131 #[x, y]) W := by kernel_rfl
theorem tryE (op v : Int) (h : op = 34) (hv : 0 ≤ v ∧ v ≤ 4294967295) : ∃ rd s1 s2 im R T cv fw fi, TryIs op v rd s1 s2 im R T cv fw fi := by
  have hp := oc_pos op (by omega)
  have o2 := f3_bd op
  have o3 := f7_bd op
  refine ⟨_, _, _, _, _, _, _, _, _, tabE op h, fun W => mwE _ W, fun W => miE _ W, fun W => instE _ v W hv, fun W => wordE _ _ _ _ _ _ W (oc_bd op), fun W => guessE op v W h hv, fun W => encE op _ _ _ _ W h (gvE v hv), ?_, cfwE, cfiE⟩
  have ob := oc_bd op
  refine ⟨by omega, by omega, by omega, by omega, by omega, by omega⟩
theorem cfwI (x y : Value) (W : World) : (callFunc 117 #[x, y]).run Try.prog W = .ok (.enter 117 #[x, y]) W := by kernel_rfl
theorem cfiI (x y : Value) (W : World) : (callFunc 116 #[x, y]).run Try.prog W = .ok (.enter 116 #[x, y]) W := by kernel_rfl
theorem tryI (op v : Int) (h : op = 3 ∨ op = 10 ∨ (12 ≤ op ∧ op ≤ 17)) (hv : 0 ≤ v ∧ v ≤ 4294967295) : ∃ rd s1 s2 im R T cv fw fi, TryIs op v rd s1 s2 im R T cv fw fi := by
  have hp := oc_pos op (by omega)
  have o2 := f3_bd op
  have o3 := f7_bd op
  refine ⟨_, _, _, _, _, _, _, _, _, tabI op h, fun W => mwI _ _ W, fun W => miI _ _ W, fun W => instI _ _ v W hv, fun W => wordI _ _ _ _ _ _ _ W (oc_bd op) (f3_bd op), fun W => guessI op v W h hv, fun W => encI op _ _ _ _ W h (gvI v hv), ?_, cfwI, cfiI⟩
  generalize sg (v / 1048576 % 4096) 2048 4096 = z at *
  have ob := oc_bd op
  refine ⟨by omega, by omega, by omega, by omega, by omega, by omega⟩
theorem try_any (op v : Int) (h : 1 ≤ op ∧ op ≤ 34) (hv : 0 ≤ v ∧ v ≤ 4294967295) : ∃ rd s1 s2 im R T cv fw fi, TryIs op v rd s1 s2 im R T cv fw fi := by
  by_cases c1 : op = 1
  · exact tryU op v c1 hv
  by_cases c2 : op = 2
  · exact tryJ op v c2 hv
  by_cases c3 : 4 ≤ op ∧ op ≤ 9
  · exact tryB op v c3 hv
  by_cases c4 : op = 11
  · exact tryS op v c4 hv
  by_cases c5 : 18 ≤ op ∧ op ≤ 20
  · exact tryH op v c5 hv
  by_cases c6 : 21 ≤ op ∧ op ≤ 33
  · exact tryR op v c6 hv
  by_cases c7 : op = 34
  · exact tryE op v c7 hv
  exact tryI op v (by omega) hv
end Go.Proofs.Ytabjcodpagjbjaa

namespace Go.Proofs.Ytabjcodpagjbjaa
open Go.RowKit
set_option linter.unusedVariables false
set_option linter.unusedSimpArgs false
theorem box6 {w w' : World} {t : TypeId} {a b c d e f : Value} (h : Below (w.heap.size + 1) (w.alloc (.cells #[a, b, c, d, e, f] t)) w') :
    (w'.cell? ⟨w.heap.size, 0, none⟩ = some a ∧ w'.cell? ⟨w.heap.size, 1, none⟩ = some b ∧ w'.cell? ⟨w.heap.size, 2, none⟩ = some c ∧ w'.cell? ⟨w.heap.size, 3, none⟩ = some d ∧ w'.cell? ⟨w.heap.size, 4, none⟩ = some e ∧ w'.cell? ⟨w.heap.size, 5, none⟩ = some f) ∧
    ∀ j, w'.frozen? ⟨w.heap.size, j, none⟩ = false := by
  refine ⟨⟨?_, ?_, ?_, ?_, ?_, ?_⟩, fun j => ?_⟩
  all_goals first
    | (rw [h.cell (by simp)]; simp)
    | (rw [h.frozen (by simp)]; simp)

set_option maxRecDepth 100000 in
set_option maxHeartbeats 2000000 in
theorem specHit (v : Int) (hv : 0 ≤ v ∧ v ≤ 4294967295) (K : Nat) (hK : 1 ≤ K ∧ K ≤ 34) (a b c d : Int) (h0 : v % 128 = oc K)
    (hH : (∀ W : World, Calls Try.prog 78 #[.int .u32 v, .int .i64 K] W fun e w' => e = .returned (.agg #[.int .i64 K, .int .i64 a, .int .i64 b, .int .i64 c, .int .i64 d]) ∧ Below W.heap.size W w') ∧
      (∀ W : World, Calls Try.prog 55 #[.agg #[.int .i64 K, .int .i64 a, .int .i64 b, .int .i64 c, .int .i64 d]] W fun e w' => e = .returned (.int .u32 v) ∧ Below W.heap.size W w'))
    (hM : ∀ n : Nat, 1 ≤ n → n < K → ∃ rd s1 s2 im R : Int, (R == v) = false ∧ (∀ W : World, Calls Try.prog 78 #[.int .u32 v, .int .i64 n] W fun e w' => e = .returned (.agg #[.int .i64 n, .int .i64 rd, .int .i64 s1, .int .i64 s2, .int .i64 im]) ∧ Below W.heap.size W w') ∧
      (∀ W : World, Calls Try.prog 55 #[.agg #[.int .i64 n, .int .i64 rd, .int .i64 s1, .int .i64 s2, .int .i64 im]] W fun e w' => e = .returned (.int .u32 R) ∧ Below W.heap.size W w')) (w : World) :
    Calls Try.prog 61 #[.int .u32 v] w fun e w' => e = .returned (.agg #[.bool true, .int .i64 K, .int .i64 a, .int .i64 b, .int .i64 c, .int .i64 d]) ∧ Below w.heap.size w w' := by
  have HH : Hid _ := hH
  have HM : Hid _ := hM
  have H0 : Hid _ := h0
  clear hH hM h0
  go_enter Try.func61, Try.ntmps61
  go_wp2
  go_loopw [3] (fun i wr => ∃ n : Nat, 1 ≤ n ∧ n ≤ K ∧ i = .int .i64 n ∧ Below (w.heap.size + 1) (w.alloc (.cells #[.bool false, .int .i64 0, .int .i64 0, .int .i64 0, .int .i64 0, .int .i64 0] 66)) wr)
    (fun i _ => 35 - (intOf i).toNat)
  case atStart => exact ⟨1, by omega, by omega, rfl, Below.refl _ _⟩
  case round =>
    obtain ⟨n, hn1, hn2, rfl, hB⟩ := hrel
    have z0 := hB.size
    simp only [World.size_alloc] at z0
    by_cases hlt : n < K
    · obtain ⟨rd, s1, s2, im, R, hR, h39, h12⟩ := HM.out n hn1 hlt
      have G39 : Hid _ := h39
      have G12 : Hid _ := h12
      clear h39 h12
      go_wp2_with fail
      refine (codes_any n _ (by omega)).mono ?_
      rintro e w0 ⟨gc, rfl, hgl, k0, k1, k2, hb0⟩
      have hB0 := hB.trans (hb0.mono z0)
      have y0 := hb0.size
      clear k1 k2 hb0 hB
      by_cases hcd : oc n = v % 128
      · rw [hcd] at k0
        clear hcd
        go_wp2_with fail
        refine (G39.out _).mono ?_
        rintro e w1 ⟨rfl, hb1⟩
        have hB1 := hB0.trans (hb1.mono (by omega))
        have z1 := hb1.size
        clear k0
        go_wp2_with fail
        refine (G12.out _).mono ?_
        rintro e w2 ⟨rfl, hb2⟩
        simp only [World.size_alloc] at hb2
        have HB2 : Hid (Below (w.heap.size + 1) (w.alloc (.cells #[.bool false, .int .i64 0, .int .i64 0, .int .i64 0, .int .i64 0, .int .i64 0] 66)) w2) := hB1.trans (((Below.refl _ _).alloc (Nat.le_refl w1.heap.size) _ |>.trans (hb2.mono (Nat.le_succ _))).mono (by omega))
        clear hb1 hb2 hB1 hB0
        go_wp2
        go_roundw
        case rel => exact ⟨n + 1, by omega, by omega, by go_num, HB2.out⟩
        case measure => simp [intOf]; omega
      · have hcd' : (oc n == v % 128) = false := by simpa using hcd
        have HB2 : Hid (Below (w.heap.size + 1) (w.alloc (.cells #[.bool false, .int .i64 0, .int .i64 0, .int .i64 0, .int .i64 0, .int .i64 0] 66)) w0) := hB0
        clear hB0
        go_wp2
        go_roundw
        case rel => exact ⟨n + 1, by omega, by omega, by go_num, HB2.out⟩
        case measure => simp [intOf]; omega
    · obtain rfl : n = K := by omega
      have G39 : Hid _ := HH.out.1
      have G12 : Hid _ := HH.out.2
      go_wp2_with fail
      refine (codes_any n _ (by omega)).mono ?_
      rintro e w0 ⟨gc, rfl, hgl, k0, k1, k2, hb0⟩
      have hB0 := hB.trans (hb0.mono z0)
      have y0 := hb0.size
      clear k1 k2 hb0 hB
      rw [← H0.out] at k0
      go_wp2_with fail
      refine (G39.out _).mono ?_
      rintro e w1 ⟨rfl, hb1⟩
      have hB1 := hB0.trans (hb1.mono (by omega))
      have z1 := hb1.size
      clear k0
      go_wp2_with fail
      refine (G12.out _).mono ?_
      rintro e w2 ⟨rfl, hb2⟩
      simp only [World.size_alloc] at hb2
      have k2 := box5 hb2
      have hB2 := hB1.trans (((Below.refl _ _).alloc (Nat.le_refl w1.heap.size) _ |>.trans (hb2.mono (Nat.le_succ _))).mono (by omega : w.heap.size + 1 ≤ w1.heap.size))
      obtain ⟨q2, f2⟩ := box6 hB2
      have HB : Hid (Below w.heap.size w w2) := ((Below.refl _ _).alloc (Nat.le_refl _) _).trans (hB2.mono (by omega))
      clear hb1 hb2 hB1 hB0 hB2
      go_wp2
      refine bodyPost_ret (v := .agg #[.bool true, .int .i64 n, .int .i64 a, .int .i64 b, .int .i64 c, .int .i64 d]) (by simp [results, Try.results61, go_sem, q2, f2]) rfl ⟨rfl, ?_⟩
      exact (((((HB.out.setCell (by simp) _).setCell (by simp) _).setCell (by simp) _).setCell (by simp) _).setCell (by simp) _).setCell (by simp) _
set_option maxRecDepth 100000 in
set_option maxHeartbeats 2000000 in
theorem specMiss (v : Int) (hv : 0 ≤ v ∧ v ≤ 4294967295)
    (hM : ∀ n : Nat, 1 ≤ n → n < 35 → ∃ rd s1 s2 im R : Int, (R == v) = false ∧ (∀ W : World, Calls Try.prog 78 #[.int .u32 v, .int .i64 n] W fun e w' => e = .returned (.agg #[.int .i64 n, .int .i64 rd, .int .i64 s1, .int .i64 s2, .int .i64 im]) ∧ Below W.heap.size W w') ∧
      (∀ W : World, Calls Try.prog 55 #[.agg #[.int .i64 n, .int .i64 rd, .int .i64 s1, .int .i64 s2, .int .i64 im]] W fun e w' => e = .returned (.int .u32 R) ∧ Below W.heap.size W w')) (w : World) :
    Calls Try.prog 61 #[.int .u32 v] w fun e w' => e = .returned (.agg #[.bool false, .int .i64 0, .int .i64 0, .int .i64 0, .int .i64 0, .int .i64 0]) ∧ Below w.heap.size w w' := by
  have HM : Hid _ := hM
  clear hM
  go_enter Try.func61, Try.ntmps61
  go_wp2
  go_loopw [3] (fun i wr => ∃ n : Nat, 1 ≤ n ∧ n ≤ 35 ∧ i = .int .i64 n ∧ Below (w.heap.size + 1) (w.alloc (.cells #[.bool false, .int .i64 0, .int .i64 0, .int .i64 0, .int .i64 0, .int .i64 0] 66)) wr)
    (fun i _ => 35 - (intOf i).toNat)
  case atStart => exact ⟨1, by omega, by omega, rfl, Below.refl _ _⟩
  case round =>
    obtain ⟨n, hn1, hn2, rfl, hB⟩ := hrel
    have z0 := hB.size
    simp only [World.size_alloc] at z0
    by_cases hlt : n < 35
    · obtain ⟨rd, s1, s2, im, R, hR, h39, h12⟩ := HM.out n hn1 hlt
      have G39 : Hid _ := h39
      have G12 : Hid _ := h12
      clear h39 h12
      go_wp2_with fail
      refine (codes_any n _ (by omega)).mono ?_
      rintro e w0 ⟨gc, rfl, hgl, k0, k1, k2, hb0⟩
      have hB0 := hB.trans (hb0.mono z0)
      have y0 := hb0.size
      clear k1 k2 hb0 hB
      by_cases hcd : oc n = v % 128
      · rw [hcd] at k0
        clear hcd
        go_wp2_with fail
        refine (G39.out _).mono ?_
        rintro e w1 ⟨rfl, hb1⟩
        have hB1 := hB0.trans (hb1.mono (by omega))
        have z1 := hb1.size
        clear k0
        go_wp2_with fail
        refine (G12.out _).mono ?_
        rintro e w2 ⟨rfl, hb2⟩
        simp only [World.size_alloc] at hb2
        have HB2 : Hid (Below (w.heap.size + 1) (w.alloc (.cells #[.bool false, .int .i64 0, .int .i64 0, .int .i64 0, .int .i64 0, .int .i64 0] 66)) w2) := hB1.trans (((Below.refl _ _).alloc (Nat.le_refl w1.heap.size) _ |>.trans (hb2.mono (Nat.le_succ _))).mono (by omega))
        clear hb1 hb2 hB1 hB0
        go_wp2
        go_roundw
        case rel => exact ⟨n + 1, by omega, by omega, by go_num, HB2.out⟩
        case measure => simp [intOf]; omega
      · have hcd' : (oc n == v % 128) = false := by simpa using hcd
        have HB2 : Hid (Below (w.heap.size + 1) (w.alloc (.cells #[.bool false, .int .i64 0, .int .i64 0, .int .i64 0, .int .i64 0, .int .i64 0] 66)) w0) := hB0
        clear hB0
        go_wp2
        go_roundw
        case rel => exact ⟨n + 1, by omega, by omega, by go_num, HB2.out⟩
        case measure => simp [intOf]; omega
    · obtain rfl : n = 35 := by omega
      obtain ⟨q2, f2⟩ := box6 hB
      have HB : Hid (Below w.heap.size w wr) := ((Below.refl _ _).alloc (Nat.le_refl _) _).trans (hB.mono (by omega))
      clear hB
      go_wp2
      refine bodyPost_ret (v := .agg #[.bool false, .int .i64 0, .int .i64 0, .int .i64 0, .int .i64 0, .int .i64 0]) (by simp [results, Try.results61, go_sem, q2, f2]) rfl ⟨rfl, ?_⟩
      exact (((((HB.out.setCell (by simp) _).setCell (by simp) _).setCell (by simp) _).setCell (by simp) _).setCell (by simp) _).setCell (by simp) _
end Go.Proofs.Ytabjcodpagjbjaa

namespace Go.Proofs.Ytabjcodpagjbjaa
open Go.RowKit
set_option linter.unusedVariables false
set_option linter.unusedSimpArgs false
/-- The program's own look at the word v as one of number n. -/
def LookIs (n : Nat) (v a b c d R : Int) : Prop := ∃ (T : TypeId) (cv : Value) (fw fi : Nat), tabA[n]? = some (.iface T cv) ∧
  (∀ W : World, (method 244 T cv "loop.example/s01725/impl.word").run Try.prog W = .ok (fw, cv) W) ∧ (∀ W : World, (method 244 T cv "loop.example/s01725/impl.inst").run Try.prog W = .ok (fi, cv) W) ∧
  (∀ W : World, Calls Try.prog fi #[cv, .int .u32 v] W fun e w' => e = .returned (.agg #[.int .i64 0, .int .i64 a, .int .i64 b, .int .i64 c, .int .i64 d]) ∧ Below W.heap.size W w') ∧
  (∀ W : World, Calls Try.prog fw #[cv, .agg #[.int .i64 0, .int .i64 a, .int .i64 b, .int .i64 c, .int .i64 d]] W fun e w' => e = .returned (.int .u32 R) ∧ Below W.heap.size W w') ∧
  (∀ (x y : Value) (W : World), (callFunc fw #[x, y]).run Try.prog W = .ok (.enter fw #[x, y]) W) ∧ (∀ (x y : Value) (W : World), (callFunc fi #[x, y]).run Try.prog W = .ok (.enter fi #[x, y]) W)
theorem five_later {W W' : World} {b : Nat} {v0 v1 v2 v3 v4 : Value} (hb : Below W.heap.size W W')
    (k : W.cell? ⟨b, 0, none⟩ = some v0 ∧ W.cell? ⟨b, 1, none⟩ = some v1 ∧ W.cell? ⟨b, 2, none⟩ = some v2 ∧ W.cell? ⟨b, 3, none⟩ = some v3 ∧ W.cell? ⟨b, 4, none⟩ = some v4) :
    (W'.cell? ⟨b, 0, none⟩ = some v0 ∧ W'.cell? ⟨b, 1, none⟩ = some v1 ∧ W'.cell? ⟨b, 2, none⟩ = some v2 ∧ W'.cell? ⟨b, 3, none⟩ = some v3 ∧ W'.cell? ⟨b, 4, none⟩ = some v4) :=
  ⟨later hb k.1, later hb k.2.1, later hb k.2.2.1, later hb k.2.2.2.1, later hb k.2.2.2.2⟩
theorem box5f {w w' : World} {t : TypeId} {a b c d e : Value} (h : Below (w.heap.size + 1) (w.alloc (.cells #[a, b, c, d, e] t)) w') : ∀ j, w'.frozen? ⟨w.heap.size, j, none⟩ = false := fun j => by
  rw [h.frozen (by simp)]; simp

set_option maxRecDepth 100000 in
set_option maxHeartbeats 2000000 in
theorem implHit (v : Int) (hv : 0 ≤ v ∧ v ≤ 4294967295) (tb ot K : Nat) (hK : 1 ≤ K ∧ K ≤ 34) (a b c d : Int) (hH : LookIs K v a b c d v)
    (hM : ∀ n : Nat, 1 ≤ n → n < K → ∃ a b c d R : Int, (R == v) = false ∧ LookIs n v a b c d R) (w : World) (htb : tb < w.heap.size) (hT : ∀ j, j < 35 → w.cell? ⟨tb, ot + j, none⟩ = tabA[j]?) :
    Calls Try.prog 59 #[.pointer (some ⟨tb, ot, none⟩), .int .u32 v] w fun e w' => e = .returned (.agg #[.bool true, .int .i64 K, .int .i64 a, .int .i64 b, .int .i64 c, .int .i64 d]) ∧ Below w.heap.size w w' := by
  have HH : Hid _ := hH
  have HM : Hid _ := hM
  have HT : Hid _ := hT
  clear hH hM hT
  go_enter Try.func59, Try.ntmps59
  go_wp2
  go_loopw [5] (fun i wr => ∃ n : Nat, 1 ≤ n ∧ n ≤ K ∧ i = .int .i64 n ∧ Below (w.heap.size + 1) (w.alloc (.cells #[.bool false, .int .i64 0, .int .i64 0, .int .i64 0, .int .i64 0, .int .i64 0] 66)) wr)
    (fun i _ => 35 - (intOf i).toNat)
  case atStart => exact ⟨1, by omega, by omega, rfl, Below.refl _ _⟩
  case round =>
    obtain ⟨n, hn1, hn2, rfl, hB⟩ := hrel
    have z0 := hB.size
    simp only [World.size_alloc] at z0
    have hn34 : n ≤ 34 := by omega
    have hi0 : (0 : Int) ≤ (n : Int) := by omega
    have hi1 : (n : Int) < 35 := by omega
    have tc0 : wr.cell? ⟨tb, ot + n, none⟩ = tabA[n]? := (hB.cell (p := ⟨tb, ot + n, none⟩) (by simp; omega)).trans ((((Below.refl _ _).alloc (Nat.le_refl w.heap.size) _).cell (p := ⟨tb, ot + n, none⟩) htb).trans (HT.out n (by omega)))
    by_cases hlt : n < K
    · obtain ⟨a', b', c', d', R, hR, T, cv, fw, fi, htab, mw, mi, hi, hw, cw, ci⟩ := HM.out n hn1 hlt
      have tc := tc0.trans htab
      have GI : Hid _ := hi
      have GW : Hid _ := hw
      clear hi hw htab tc0 hK
      go_wp2_with fail
      refine (GI.out _).mono ?_
      rintro e w1 ⟨rfl, hb1⟩
      have hB1 := hB.trans (hb1.mono z0)
      have z1 := hb1.size
      have hA := (Below.refl w1.heap.size w1).alloc (Nat.le_refl w1.heap.size) (.cells #[.int .i64 0, .int .i64 a', .int .i64 b', .int .i64 c', .int .i64 d'] 64)
      have t1 := later hA (later hb1 tc)
      have k1 := box5 (Below.refl (w1.heap.size + 1) (w1.alloc (.cells #[.int .i64 0, .int .i64 a', .int .i64 b', .int .i64 c', .int .i64 d'] 64)))
      clear tc hb1 hB hA
      go_wp2_with fail
      go_region_held3 (fun W => W.cell? ⟨w1.heap.size, 0, none⟩ = some (.int .i64 0) ∧ W.cell? ⟨w1.heap.size, 1, none⟩ = some (.int .i64 a') ∧ W.cell? ⟨w1.heap.size, 2, none⟩ = some (.int .i64 b') ∧ W.cell? ⟨w1.heap.size, 3, none⟩ = some (.int .i64 c') ∧ W.cell? ⟨w1.heap.size, 4, none⟩ = some (.int .i64 d') ∧
          W.cell? ⟨tb, ot + n, none⟩ = some (.iface T cv)) (go_simp)
        (first
        | (refine (GW.out _).mono ?_; rintro e w2 ⟨rfl, hb2⟩; have q2 := six_later (W := (w1.alloc (.cells #[.int .i64 0, .int .i64 a', .int .i64 b', .int .i64 c', .int .i64 d'] 64)).drew) hb2 k1 t1))
      have hb2' : Below (w1.heap.size + 1) (w1.alloc (.cells #[.int .i64 0, .int .i64 a', .int .i64 b', .int .i64 c', .int .i64 d'] 64)) w2 := ((Below.refl _ _).drew).trans (hb2.mono (by simp))
      have hB2 := hB1.trans (((Below.refl _ _).alloc (Nat.le_refl w1.heap.size) _ |>.trans (hb2'.mono (Nat.le_succ _))).mono (by omega : w.heap.size + 1 ≤ w1.heap.size))
      have HB2 : Hid (Below (w.heap.size + 1) (w.alloc (.cells #[.bool false, .int .i64 0, .int .i64 0, .int .i64 0, .int .i64 0, .int .i64 0] 66)) w2) := hB2
      clear hb2 hb2' hB2 hB1 k1 t1 q2
      go_wp2
      go_roundw
      case rel => exact ⟨n + 1, by omega, by omega, by go_num, HB2.out⟩
      case measure => simp [intOf]; omega
    · obtain rfl : n = K := by omega
      obtain ⟨T, cv, fw, fi, htab, mw, mi, hi, hw, cw, ci⟩ := HH.out
      have tc := tc0.trans htab
      have GI : Hid _ := hi
      have GW : Hid _ := hw
      clear hi hw htab tc0
      go_wp2_with fail
      refine (GI.out _).mono ?_
      rintro e w1 ⟨rfl, hb1⟩
      have hB1 := hB.trans (hb1.mono z0)
      have z1 := hb1.size
      have hA := (Below.refl w1.heap.size w1).alloc (Nat.le_refl w1.heap.size) (.cells #[.int .i64 0, .int .i64 a, .int .i64 b, .int .i64 c, .int .i64 d] 64)
      have t1 := later hA (later hb1 tc)
      have k1 := box5 (Below.refl (w1.heap.size + 1) (w1.alloc (.cells #[.int .i64 0, .int .i64 a, .int .i64 b, .int .i64 c, .int .i64 d] 64)))
      clear tc hb1 hB hA
      go_wp2_with fail
      go_region_held3 (fun W => W.cell? ⟨w1.heap.size, 0, none⟩ = some (.int .i64 0) ∧ W.cell? ⟨w1.heap.size, 1, none⟩ = some (.int .i64 a) ∧ W.cell? ⟨w1.heap.size, 2, none⟩ = some (.int .i64 b) ∧ W.cell? ⟨w1.heap.size, 3, none⟩ = some (.int .i64 c) ∧ W.cell? ⟨w1.heap.size, 4, none⟩ = some (.int .i64 d) ∧
          W.cell? ⟨tb, ot + n, none⟩ = some (.iface T cv)) (go_simp)
        (first
        | (refine (GW.out _).mono ?_; rintro e w2 ⟨rfl, hb2⟩; have q2 := six_later (W := (w1.alloc (.cells #[.int .i64 0, .int .i64 a, .int .i64 b, .int .i64 c, .int .i64 d] 64)).drew) hb2 k1 t1))
      have hb2' : Below (w1.heap.size + 1) (w1.alloc (.cells #[.int .i64 0, .int .i64 a, .int .i64 b, .int .i64 c, .int .i64 d] 64)) w2 := ((Below.refl _ _).drew).trans (hb2.mono (by simp))
      have hB2 := hB1.trans (((Below.refl _ _).alloc (Nat.le_refl w1.heap.size) _ |>.trans (hb2'.mono (Nat.le_succ _))).mono (by omega : w.heap.size + 1 ≤ w1.heap.size))
      have g2 := box5f hb2'
      obtain ⟨r2, f2⟩ := box6 hB2
      have HB : Hid (Below w.heap.size w w2) := ((Below.refl _ _).alloc (Nat.le_refl _) _).trans (hB2.mono (by omega))
      have hne : w.heap.size < w1.heap.size := by omega
      clear hb2 hb2' hB2 hB1 k1 t1
      go_wp2
      refine bodyPost_ret (v := .agg #[.bool true, .int .i64 n, .int .i64 a, .int .i64 b, .int .i64 c, .int .i64 d]) (by simp [results, Try.results59, go_sem, r2, f2]) rfl ⟨rfl, ?_⟩
      exact ((((((HB.out.setCell (by dsimp only; omega) _).setCell (by simp) _).setCell (by simp) _).setCell (by simp) _).setCell (by simp) _).setCell (by simp) _).setCell (by simp) _
set_option maxRecDepth 100000 in
set_option maxHeartbeats 2000000 in
theorem implMiss (v : Int) (hv : 0 ≤ v ∧ v ≤ 4294967295) (tb ot : Nat)
    (hM : ∀ n : Nat, 1 ≤ n → n < 35 → ∃ a b c d R : Int, (R == v) = false ∧ LookIs n v a b c d R) (w : World) (htb : tb < w.heap.size) (hT : ∀ j, j < 35 → w.cell? ⟨tb, ot + j, none⟩ = tabA[j]?) :
    Calls Try.prog 59 #[.pointer (some ⟨tb, ot, none⟩), .int .u32 v] w fun e w' => e = .returned (.agg #[.bool false, .int .i64 0, .int .i64 0, .int .i64 0, .int .i64 0, .int .i64 0]) ∧ Below w.heap.size w w' := by
  have HM : Hid _ := hM
  have HT : Hid _ := hT
  clear hM hT
  go_enter Try.func59, Try.ntmps59
  go_wp2
  go_loopw [5] (fun i wr => ∃ n : Nat, 1 ≤ n ∧ n ≤ 35 ∧ i = .int .i64 n ∧ Below (w.heap.size + 1) (w.alloc (.cells #[.bool false, .int .i64 0, .int .i64 0, .int .i64 0, .int .i64 0, .int .i64 0] 66)) wr)
    (fun i _ => 35 - (intOf i).toNat)
  case atStart => exact ⟨1, by omega, by omega, rfl, Below.refl _ _⟩
  case round =>
    obtain ⟨n, hn1, hn2, rfl, hB⟩ := hrel
    have z0 := hB.size
    simp only [World.size_alloc] at z0
    by_cases hlt : n < 35
    · have hn34 : n ≤ 34 := by omega
      have hi0 : (0 : Int) ≤ (n : Int) := by omega
      have hi1 : (n : Int) < 35 := by omega
      have tc0 : wr.cell? ⟨tb, ot + n, none⟩ = tabA[n]? := (hB.cell (p := ⟨tb, ot + n, none⟩) (by simp; omega)).trans ((((Below.refl _ _).alloc (Nat.le_refl w.heap.size) _).cell (p := ⟨tb, ot + n, none⟩) htb).trans (HT.out n (by omega)))
      obtain ⟨a', b', c', d', R, hR, T, cv, fw, fi, htab, mw, mi, hi, hw, cw, ci⟩ := HM.out n hn1 hlt
      have tc := tc0.trans htab
      have GI : Hid _ := hi
      have GW : Hid _ := hw
      clear hi hw htab tc0
      go_wp2_with fail
      refine (GI.out _).mono ?_
      rintro e w1 ⟨rfl, hb1⟩
      have hB1 := hB.trans (hb1.mono z0)
      have z1 := hb1.size
      have hA := (Below.refl w1.heap.size w1).alloc (Nat.le_refl w1.heap.size) (.cells #[.int .i64 0, .int .i64 a', .int .i64 b', .int .i64 c', .int .i64 d'] 64)
      have t1 := later hA (later hb1 tc)
      have k1 := box5 (Below.refl (w1.heap.size + 1) (w1.alloc (.cells #[.int .i64 0, .int .i64 a', .int .i64 b', .int .i64 c', .int .i64 d'] 64)))
      clear tc hb1 hB hA
      go_wp2_with fail
      go_region_held3 (fun W => W.cell? ⟨w1.heap.size, 0, none⟩ = some (.int .i64 0) ∧ W.cell? ⟨w1.heap.size, 1, none⟩ = some (.int .i64 a') ∧ W.cell? ⟨w1.heap.size, 2, none⟩ = some (.int .i64 b') ∧ W.cell? ⟨w1.heap.size, 3, none⟩ = some (.int .i64 c') ∧ W.cell? ⟨w1.heap.size, 4, none⟩ = some (.int .i64 d') ∧
          W.cell? ⟨tb, ot + n, none⟩ = some (.iface T cv)) (go_simp)
        (first
        | (refine (GW.out _).mono ?_; rintro e w2 ⟨rfl, hb2⟩; have q2 := six_later (W := (w1.alloc (.cells #[.int .i64 0, .int .i64 a', .int .i64 b', .int .i64 c', .int .i64 d'] 64)).drew) hb2 k1 t1))
      have hb2' : Below (w1.heap.size + 1) (w1.alloc (.cells #[.int .i64 0, .int .i64 a', .int .i64 b', .int .i64 c', .int .i64 d'] 64)) w2 := ((Below.refl _ _).drew).trans (hb2.mono (by simp))
      have hB2 := hB1.trans (((Below.refl _ _).alloc (Nat.le_refl w1.heap.size) _ |>.trans (hb2'.mono (Nat.le_succ _))).mono (by omega : w.heap.size + 1 ≤ w1.heap.size))
      have HB2 : Hid (Below (w.heap.size + 1) (w.alloc (.cells #[.bool false, .int .i64 0, .int .i64 0, .int .i64 0, .int .i64 0, .int .i64 0] 66)) w2) := hB2
      clear hb2 hb2' hB2 hB1 k1 t1 q2
      go_wp2
      go_roundw
      case rel => exact ⟨n + 1, by omega, by omega, by go_num, HB2.out⟩
      case measure => simp [intOf]; omega
    · obtain rfl : n = 35 := by omega
      obtain ⟨q2, f2⟩ := box6 hB
      have HB : Hid (Below w.heap.size w wr) := ((Below.refl _ _).alloc (Nat.le_refl _) _).trans (hB.mono (by omega))
      clear hB
      go_wp2
      refine bodyPost_ret (v := .agg #[.bool false, .int .i64 0, .int .i64 0, .int .i64 0, .int .i64 0, .int .i64 0]) (by simp [results, Try.results59, go_sem, q2, f2]) rfl ⟨rfl, ?_⟩
      exact (((((HB.out.setCell (by simp) _).setCell (by simp) _).setCell (by simp) _).setCell (by simp) _).setCell (by simp) _).setCell (by simp) _
end Go.Proofs.Ytabjcodpagjbjaa
