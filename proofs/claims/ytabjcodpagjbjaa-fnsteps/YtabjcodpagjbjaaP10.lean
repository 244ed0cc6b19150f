import Derived.Test.YtabjcodpagjbjaaP05
import Derived.Deep.RegionHeld3
namespace Go.Proofs.Ytabjcodpagjbjaa
open Go.RowKit
set_option linter.unusedVariables false
set_option linter.unusedSimpArgs false

theorem or4 (p q r s : Int) (hp : 0 ≤ p ∧ p ≤ 255) (hq : 0 ≤ q ∧ q ≤ 255) (hr : 0 ≤ r ∧ r ≤ 255) (hs : 0 ≤ s ∧ s ≤ 255) :
    bits .or .u32 (bits .or .u32 (bits .or .u32 p (q * 256)) (r * 65536)) (s * 16777216) = p + q * 256 + r * 65536 + s * 16777216 := by
  obtain ⟨P, rfl⟩ := Int.eq_ofNat_of_zero_le hp.1
  obtain ⟨Q, rfl⟩ := Int.eq_ofNat_of_zero_le hq.1
  obtain ⟨R, rfl⟩ := Int.eq_ofNat_of_zero_le hr.1
  obtain ⟨S, rfl⟩ := Int.eq_ofNat_of_zero_le hs.1
  have b0 : P < 4294967296 := by omega
  have l1 : ((Q : Int) * 256 : Int) = ((2 ^ 8 * Q : Nat) : Int) := by omega
  have b1 : 2 ^ 8 * Q < 4294967296 := by omega
  have l2 : ((R : Int) * 65536 : Int) = ((2 ^ 16 * R : Nat) : Int) := by omega
  have b2 : 2 ^ 16 * R < 4294967296 := by omega
  have l3 : ((S : Int) * 16777216 : Int) = ((2 ^ 24 * S : Nat) : Int) := by omega
  have b3 : 2 ^ 24 * S < 4294967296 := by omega
  rw [l1, l2, l3]
  have a1 := or2 P (2 ^ 8 * Q) b0 b1
  rw [a1.1]
  have a2 := or2 _ (2 ^ 16 * R) a1.2 b2
  rw [a2.1]
  have a3 := or2 _ (2 ^ 24 * S) a2.2 b3
  rw [a3.1]
  have e : (((P ||| (2 ^ 8 * Q)) ||| (2 ^ 16 * R)) ||| (2 ^ 24 * S)) = (2 ^ 24 * S ||| (2 ^ 16 * R ||| (2 ^ 8 * Q ||| P))) := by ac_rfl
  rw [e, or_hi 8 Q _ (by omega), or_hi 16 R _ (by omega), or_hi 24 S _ (by omega)]
  omega

set_option maxHeartbeats 1000000 in
theorem four_yes (g off n cap : Nat) (o : Nat) (w : World) (hn : n ≤ 1048576) (hc : n ≤ cap) (ho : o + 4 ≤ n) :
    Calls Try.prog 85 #[.slice (some ⟨g, off, none⟩) n cap, .int .u32 o] w fun e w' => e = .returned (.slice (some ⟨g, off + o, none⟩) 4 (cap - o)) ∧ w' = w := by
  have h4 : ((o : Int) + 4) % 4294967296 = ((o + 4 : Nat) : Int) := by omega
  have hle : ((o + 4 : Nat) : Int) ≤ (cap : Int) := by omega
  have e4 : o + 4 - o = 4 := by omega
  go_enter Try.func85, Try.ntmps85
  go_wp2
  go_ret
  refine ⟨?_, rfl⟩
  show Ending.returned (.slice (some ⟨g, off + o, none⟩) (o + 4 - o) (cap - o)) = _
  rw [e4]
set_option maxHeartbeats 1000000 in
theorem four_no (a : Option Addr) (n cap : Nat) (o : Int) (w : World) (hn : n ≤ 1048576) (ho : 0 ≤ o ∧ o ≤ 4294967295) (hf : (n : Int) < o + 4) :
    Calls Try.prog 85 #[.slice a n cap, .int .u32 o] w fun e w' => e = .returned (.slice none 0 0) ∧ w' = w := by
  go_enter Try.func85, Try.ntmps85
  go_wp2
  go_ret
  exact ⟨rfl, rfl⟩
set_option maxHeartbeats 1000000 in
theorem read_any (g off cap : Nat) (p q r s : Int) (w : World) (hp : 0 ≤ p ∧ p ≤ 255) (hq : 0 ≤ q ∧ q ≤ 255) (hr : 0 ≤ r ∧ r ≤ 255) (hs : 0 ≤ s ∧ s ≤ 255)
    (c0 : w.cell? ⟨g, off, none⟩ = some (.int .u8 p)) (c1 : w.cell? ⟨g, off + 1, none⟩ = some (.int .u8 q)) (c2 : w.cell? ⟨g, off + 2, none⟩ = some (.int .u8 r)) (c3 : w.cell? ⟨g, off + 3, none⟩ = some (.int .u8 s)) :
    Calls Try.prog 74 #[.slice (some ⟨g, off, none⟩) 4 cap] w fun e w' => e = .returned (.int .u32 (p + q * 256 + r * 65536 + s * 16777216)) ∧ ∃ n, w' = w.drewN n := by
  go_enter Try.func74, Try.ntmps74
  go_wp2
  go_quiet (fail)
  go_wp2
  go_ret
  refine ⟨?_, _, rfl⟩
  rw [← or4 p q r s hp hq hr hs]
  rfl
set_option maxHeartbeats 1000000 in
theorem write_any (g off cap : Nat) (v : Int) (p q r s : Value) (w : World) (hv : 0 ≤ v ∧ v ≤ 4294967295)
    (c0 : w.cell? ⟨g, off, none⟩ = some p) (c1 : w.cell? ⟨g, off + 1, none⟩ = some q) (c2 : w.cell? ⟨g, off + 2, none⟩ = some r) (c3 : w.cell? ⟨g, off + 3, none⟩ = some s) (fz : ∀ j, w.frozen? ⟨g, j, none⟩ = false) :
    Calls Try.prog 75 #[.slice (some ⟨g, off, none⟩) 4 cap, .int .u32 v] w fun e w' => e = .returned (.tuple #[]) ∧ w' = (((w.setCell ⟨g, off, none⟩ (.int .u8 (v % 256))).setCell ⟨g, off + 1, none⟩ (.int .u8 (v / 256 % 256))).setCell ⟨g, off + 2, none⟩ (.int .u8 (v / 65536 % 256))).setCell ⟨g, off + 3, none⟩ (.int .u8 (v / 16777216)) := by
  go_enter Try.func75, Try.ntmps75
  go_wp2
  refine wp_loop_rounds 5 ?_
  rw [rounds_succ]
  go_wp2
  rw [rounds_succ]
  go_wp2
  rw [rounds_succ]
  go_wp2
  rw [rounds_succ]
  go_wp2
  rw [rounds_succ]
  go_wp2
  go_end0
  exact ⟨rfl, rfl⟩

theorem neq_nil (a : Option Addr) (l c : Nat) (w : World) : (binOp .neq 22 (.slice a l c) (.slice none 0 0)).run Try.prog w = .ok (.bool (!a.isNone)) w := run_neq_slice_nil_any w 22 5 a l c 0 0 Try.underlying22
set_option maxRecDepth 8000 in
set_option maxHeartbeats 1000000 in
theorem mem1 (C : Nat) (x : Int) (w : World) (hx : 0 ≤ x ∧ x ≤ 4294967295) (h4 : ¬ x % 4 = 0) :
    Calls Try.prog 73 #[.pointer (some ⟨C, 0, none⟩), .int .u32 x] w fun e w' => e = .returned (.slice none 0 0) ∧ ∃ n, w' = w.drewN n := by
  go_enter Try.func73, Try.ntmps73
  go_wp2
  go_ret
  exact ⟨rfl, 0, rfl⟩
set_option maxRecDepth 8000 in
set_option maxHeartbeats 400000 in
theorem mem2 (C g off n cap o : Nat) (w : World) (h4 : (1048576 + o) % 4 = 0) (c2 : w.cell? ⟨C, 2, none⟩ = some (.slice (some ⟨g, off, none⟩) n cap)) (hn : n ≤ 1048576) (hc : n ≤ cap) (hf : o + 4 ≤ n) :
    Calls Try.prog 73 #[.pointer (some ⟨C, 0, none⟩), .int .u32 (1048576 + o)] w fun e w' => e = .returned (.slice (some ⟨g, off + o, none⟩) 4 (cap - o)) ∧ ∃ n, w' = w.drewN n := by
  have hnn := fun w => neq_nil (some ⟨g, off + o, none⟩) 4 (cap - o) w
  simp only [Option.isNone_some, Bool.not_false] at hnn
  have h4' : ((1048576 : Int) + o) % 4 = 0 := by omega
  have e1 : ((1048576 : Int) + o - 1048576) = o := by omega
  clear h4
  go_enter Try.func73, Try.ntmps73
  go_wp2_with fail
  try rw [e1]
  refine (four_yes g off n cap o _ hn hc hf).mono ?_
  rintro e w1 ⟨rfl, rfl⟩
  go_wp2
  go_ret
  exact ⟨rfl, 0, rfl⟩

end Go.Proofs.Ytabjcodpagjbjaa

namespace Go.Proofs.Ytabjcodpagjbjaa
open Go.RowKit
set_option linter.unusedVariables false
set_option linter.unusedSimpArgs false
set_option maxRecDepth 8000 in
set_option maxHeartbeats 400000 in
theorem mem3 (C g off n cap o : Nat) (ad : Option Addr) (nd cd : Nat) (w : World) (h4 : ((1073741824 : Int) - n + o) % 4 = 0) (c2 : w.cell? ⟨C, 2, none⟩ = some (.slice ad nd cd)) (hnd : nd ≤ 1048576)
    (c3 : w.cell? ⟨C, 3, none⟩ = some (.slice (some ⟨g, off, none⟩) n cap)) (hn : n ≤ 1000000) (hc : n ≤ cap) (hf : o + 4 ≤ n) :
    Calls Try.prog 73 #[.pointer (some ⟨C, 0, none⟩), .int .u32 (1073741824 - n + o)] w fun e w' => e = .returned (.slice (some ⟨g, off + o, none⟩) 4 (cap - o)) ∧ ∃ n, w' = w.drewN n := by
  have hnn := neq_nil none 0 0
  simp only [Option.isNone_none, Bool.not_true] at hnn
  go_enter Try.func73, Try.ntmps73
  go_wp2_with fail
  refine (four_no ad nd cd _ _ hnd ?_ ?_).mono ?_
  · omega
  · omega
  rintro e w1 ⟨rfl, rfl⟩
  have e2 : ((1073741824 : Int) - n + o - (1073741824 - n)) = o := by omega
  have HY : Hid (∀ (W : World) (y : Int), y = o → Calls Try.prog 85 #[.slice (some ⟨g, off, none⟩) n cap, .int .u32 y] W fun e w' => e = .returned (.slice (some ⟨g, off + o, none⟩) 4 (cap - o)) ∧ w' = W) := fun W y hy => hy ▸ four_yes g off n cap o W (by omega) hc hf
  clear e2
  go_wp2_with fail
  go_region_held3 (fun W => W.cell? ⟨C, 3, none⟩ = some (.slice (some ⟨g, off, none⟩) n cap)) (first | exact c3 | assumption | (go_simp; done))
    (first
    | (go_at_call 85; refine (HY.out _ _ ?_).mono ?_; (simp only [IntKind.wrap_u32]; omega); rintro e w2 ⟨rfl, rfl⟩))
  go_wp2
  go_ret
  exact ⟨rfl, 1, rfl⟩

end Go.Proofs.Ytabjcodpagjbjaa

namespace Go.Proofs.Ytabjcodpagjbjaa
open Go.RowKit
set_option linter.unusedVariables false
set_option linter.unusedSimpArgs false
set_option maxRecDepth 8000 in
set_option maxHeartbeats 400000 in
theorem mem4 (C : Nat) (ad sa : Option Addr) (nd cd n cap : Nat) (x : Int) (w : World) (hx : 0 ≤ x ∧ x ≤ 4294967295) (h4 : x % 4 = 0) (c2 : w.cell? ⟨C, 2, none⟩ = some (.slice ad nd cd)) (hnd : nd ≤ 1048576) (hfd : x < 1048576 ∨ (nd : Int) < x - 1048576 + 4)
    (c3 : w.cell? ⟨C, 3, none⟩ = some (.slice sa n cap)) (hn : n ≤ 1000000) (hf : x < 1073741824 - n ∨ (n : Int) < x - (1073741824 - n) + 4) :
    Calls Try.prog 73 #[.pointer (some ⟨C, 0, none⟩), .int .u32 x] w fun e w' => e = .returned (.slice none 0 0) ∧ ∃ n, w' = w.drewN n := by
  have hnn := neq_nil none 0 0
  simp only [Option.isNone_none, Bool.not_true] at hnn
  have HF : Hid _ := hfd
  have HF2 : Hid _ := hf
  clear hfd hf
  go_enter Try.func73, Try.ntmps73
  go_wp2_with fail
  refine (four_no ad nd cd _ _ hnd ?_ ?_).mono ?_
  · omega
  · have := HF.out
    omega
  rintro e w1 ⟨rfl, rfl⟩
  have HY : Hid (∀ (W : World) (y : Int), 0 ≤ y ∧ y ≤ 4294967295 → (n : Int) < y + 4 → Calls Try.prog 85 #[.slice sa n cap, .int .u32 y] W fun e w' => e = .returned (.slice none 0 0) ∧ w' = W) := fun W y h1 h2 => four_no sa n cap y W (by omega) h1 h2
  go_wp2_with fail
  go_region_held3 (fun W => W.cell? ⟨C, 3, none⟩ = some (.slice sa n cap)) (first | exact c3 | assumption | (go_simp; done))
    (first
    | (go_at_call 85; refine (HY.out _ _ ?_ ?_).mono ?_; (simp only [IntKind.wrap_u32]; omega); (have := HF2.out; simp only [IntKind.wrap_u32]; omega); rintro e w2 ⟨rfl, rfl⟩))
  go_wp2
  go_ret
  exact ⟨rfl, 1, rfl⟩

end Go.Proofs.Ytabjcodpagjbjaa
