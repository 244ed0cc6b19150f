import Derived.Deep.RegionHeld3
import Derived.Test.YtabjcodpagjbjaaM00
import Derived.Test.YtabjcodpagjbjaaM16
import Derived.Test.YtabjcodpagjbjaaM11
namespace Go.Proofs.Ytabjcodpagjbjaa
open Go.RowKit
set_option linter.unusedVariables false
set_option linter.unusedSimpArgs false

set_option maxRecDepth 8000 in
set_option maxHeartbeats 1000000 in
theorem wi_yes (a : Option Addr) (len cap n : Nat) (d bd pc : Int) (w : World) (hl : (len : Int) ≤ 20000) (hn : (n : Int) < (len : Int)) (hp : pc = 4096 + 4 * (n : Int)) :
    Calls Try.prog 39 #[.agg #[.slice a len cap, .int .i64 d, .int .i64 bd], .int .u32 pc] w fun e w' => e = .returned (.tuple #[.int .i64 n, .bool true]) ∧ Below w.heap.size w w' := by
  have q1 : (pc - 4096) % 4294967296 = 4 * (n : Int) := by omega
  have q2 : (4 * (n : Int)) / 4 = (n : Int) := by omega
  have q3 : (4 * (n : Int)) % 4 = 0 := by omega
  have q4 : wrap64 (n : Int) = (n : Int) := by unfold wrap64; omega
  have hn0 : (0 : Int) ≤ (n : Int) := by omega
  clear hp
  go_enter Try.func39, Try.ntmps39
  go_wp2_with fail
  go_quiet (fail)
  go_wp2
  go_ret2
  exact ⟨rfl, below_drewN ((Below.refl _ _).alloc (Nat.le_refl _) _) _⟩
set_option maxRecDepth 8000 in
set_option maxHeartbeats 1000000 in
theorem wi_no (a : Option Addr) (len cap : Nat) (d bd pc : Int) (w : World) (hl : (len : Int) ≤ 20000) (hpc : 0 ≤ pc ∧ pc ≤ 4294967295) (hp : ¬ (4096 ≤ pc ∧ (pc - 4096) % 4 = 0 ∧ (pc - 4096) / 4 < (len : Int))) :
    Calls Try.prog 39 #[.agg #[.slice a len cap, .int .i64 d, .int .i64 bd], .int .u32 pc] w fun e w' => ∃ i, e = .returned (.tuple #[.int .i64 i, .bool false]) ∧ Below w.heap.size w w' := by
  generalize ho : (pc - 4096) % 4294967296 = o at *
  have ho2 : 0 ≤ o ∧ o ≤ 4294967295 := by omega
  have ho3 : ¬ o % 4 = 0 ∨ (len : Int) ≤ o / 4 := by omega
  have q4 : wrap64 (o / 4) = o / 4 := by unfold wrap64; omega
  clear hp hpc
  go_enter Try.func39, Try.ntmps39
  go_wp2_with fail
  by_cases h1 : o % 4 = 0
  · have h2 : ¬ o / 4 < (len : Int) := by omega
    clear ho3
    go_quiet (fail)
    go_wp2
    go_ret2
    first
      | exact ⟨_, rfl, below_drewN ((Below.refl _ _).alloc (Nat.le_refl _) _) _⟩
      | exact ⟨⟨_, rfl⟩, below_drewN ((Below.refl _ _).alloc (Nat.le_refl _) _) _⟩
  · have h3 : (o % 4 == 0) = false := by simpa using h1
    clear ho3
    go_quiet (fail)
    go_wp2
    go_ret2
    first
      | exact ⟨_, rfl, below_drewN ((Below.refl _ _).alloc (Nat.le_refl _) _) _⟩
      | exact ⟨⟨_, rfl⟩, below_drewN ((Below.refl _ _).alloc (Nat.le_refl _) _) _⟩

end Go.Proofs.Ytabjcodpagjbjaa

namespace Go.Proofs.Ytabjcodpagjbjaa
open Go.RowKit
set_option linter.unusedVariables false
set_option linter.unusedSimpArgs false

set_option maxRecDepth 8000 in
set_option maxHeartbeats 1000000 in
theorem exEin1 (C : Nat) (L : List Nat) (c : Mc)  (rd s1 s2 : Nat) (im : Int) (w : World) (hG : Good c) (h : CpuIn w C L c) (z : Int) (is : List Int) (h17 : c.regs.getD 17 0 = 2) (hi0 : c.inn = z :: is) (hrd : rd < 32) (h1 : s1 < 32) (h2 : s2 < 32)
    (hst : c.st = 0)  :
    Calls Try.prog 58 #[.pointer (some ⟨C, 0, none⟩), .agg #[.int .i64 34, .int .i64 rd, .int .i64 s1, .int .i64 s2, .int .i64 im]] w fun e w' =>
      e = .returned (.bool true) ∧ ∃ L', CpuIn w' C L' { c with regs := c.regs.set 10 (z % 4294967296), inn := is, pc := (c.pc + 4) % 4294967296 } ∧ (∀ g ∈ L', g ∈ L) ∧ Tcs (fun g => g ∈ L) w w' := by
  have T0 := (Tcs.refl (fun g => g ∈ L) w).alloc (.cells #[.int .i64 34, .int .i64 rd, .int .i64 s1, .int .i64 s2, .int .i64 im] 64)
  have h0 := h.below ((Below.refl w.heap.size w).alloc (Nat.le_refl _) (.cells #[.int .i64 34, .int .i64 rd, .int .i64 s1, .int .i64 s2, .int .i64 im] 64))
  obtain ⟨rv, d, s, i, o, hb, hr, hd, hs, hi, ho, hk, hL, hnd⟩ := id h0
  obtain ⟨g, off, cap, rfl, hR, hbk⟩ := lis_some hr (by have := hG.r32; omega)
  have e32 := hG.r32
  have c0 := hb.c0
  rw [e32] at c0
  have c1 := hb.c1
  have cs1 := hR.cell s1 (by omega)
  have cs2 := hR.cell s2 (by omega)
  have X0 : ∀ {W : World}, Tcs (fun g => g ∈ L) (w.alloc (.cells #[.int .i64 34, .int .i64 rd, .int .i64 s1, .int .i64 s2, .int .i64 im] 64)) W → W.cell? ⟨w.heap.size, 0, none⟩ = some (.int .i64 34) ∧ W.cell? ⟨w.heap.size, 1, none⟩ = some (.int .i64 rd) := by
    intro W hW
    have hkb := hW.block w.heap.size (by simp) (fun hm => by have := h.lt _ hm; omega)
    constructor <;> (rw [World.cell?_of_block (w := w.alloc _) hkb]; simp)
  have HS : Hid (∀ W v, Below (w.alloc (.cells #[.int .i64 34, .int .i64 rd, .int .i64 s1, .int .i64 s2, .int .i64 im] 64)).heap.size (w.alloc (.cells #[.int .i64 34, .int .i64 rd, .int .i64 s1, .int .i64 s2, .int .i64 im] 64)) W →
      Calls Try.prog 71 #[.pointer (some ⟨C, 0, none⟩), .int .i64 rd, .int .u32 v] W fun e w' => e = .returned (.tuple #[]) ∧ CpuIn w' C L (setR c rd v) ∧ Tcs (fun g => g ∈ L) w w' ∧ (w'.cell? ⟨w.heap.size, 0, none⟩ = some (.int .i64 34) ∧ w'.cell? ⟨w.heap.size, 1, none⟩ = some (.int .i64 rd))) := by
    intro W v hW
    refine (setReg_any C L c rd v W hG.r32 (by omega) (h0.below hW)).mono ?_
    rintro e w' ⟨rfl, hc, ht⟩
    have t1 := (Below.tcs (S := fun g => g ∈ L) hW).trans ht
    exact ⟨rfl, hc, T0.trans t1, X0 t1⟩
  have X00 := X0 (Tcs.refl _ _)
  have HM : Hid (∀ W, Below (w.alloc (.cells #[.int .i64 34, .int .i64 rd, .int .i64 s1, .int .i64 s2, .int .i64 im] 64)).heap.size (w.alloc (.cells #[.int .i64 34, .int .i64 rd, .int .i64 s1, .int .i64 s2, .int .i64 im] 64)) W → Calls Try.prog 76 #[.pointer (some ⟨C, 0, none⟩)] W fun e w' => e = .returned (.bool true) ∧ (∃ L', CpuIn w' C L' { c with regs := c.regs.set 10 (z % 4294967296), inn := is } ∧ (∀ g ∈ L', g ∈ L) ∧ Tcs (fun g => g ∈ L) w w')) := by
    intro W hW
    refine (cs_in1 C L c W hG (h0.below hW) z is h17 hi0).mono ?_
    rintro e w' ⟨rfl, L', k1, k3, k2⟩
    exact ⟨rfl, L', k1, k3, (T0.trans (Below.tcs hW)).trans k2⟩
  clear hb hr hR hd hs hi ho hk hL hnd hbk h h0 T0 X0
  generalize hx1 : c.regs.getD s1 0 = a at cs1
  generalize hx2 : c.regs.getD s2 0 = b at cs2
  go_enter Try.func58, Try.ntmps58
  go_wp2_with fail
  go_quiet (fail)
  go_wp2_with fail
  refine (HM.out _ ?_).mono ?_
  · exact below_drewN (Below.refl _ _) _
  rintro e w2 ⟨rfl, L', hc2, hk2, ht2⟩
  obtain ⟨rv, d2, s2', i2, o2, hb2, _, _, _, _, _, _, _⟩ := id hc2
  have q1 := hb2.c1
  have q7 := hb2.c7
  have qf := hb2.fz 1
  dsimp only at q1 q7
  rw [hst] at q7
  have HE : Hid _ := And.intro hc2 ht2
  clear hb2 hc2 ht2
  have HK : Hid _ := hk2
  clear hk2
  go_wp2
  go_ret
  exact ⟨rfl, L', HE.out.1.pc _, HK.out, HE.out.2.setCell (HK.out C HE.out.1.mem) _⟩


set_option maxRecDepth 8000 in
set_option maxHeartbeats 1000000 in
theorem exEout (C : Nat) (L : List Nat) (c : Mc)  (rd s1 s2 : Nat) (im : Int) (w : World) (hG : Good c) (h : CpuIn w C L c) (h17 : c.regs.getD 17 0 = 1) (ho1 : Hid (c.out.length < 1000000)) (hrd : rd < 32) (h1 : s1 < 32) (h2 : s2 < 32)
    (hst : c.st = 0)  :
    Calls Try.prog 58 #[.pointer (some ⟨C, 0, none⟩), .agg #[.int .i64 34, .int .i64 rd, .int .i64 s1, .int .i64 s2, .int .i64 im]] w fun e w' =>
      e = .returned (.bool true) ∧ ∃ L', CpuIn w' C L' { c with out := c.out ++ [wrap32 (c.regs.getD 10 0)], pc := (c.pc + 4) % 4294967296 } ∧ (∀ g ∈ L', g ∈ L ∨ w.heap.size ≤ g) ∧ Tcs (fun g => g ∈ L) w w' := by
  have T0 := (Tcs.refl (fun g => g ∈ L) w).alloc (.cells #[.int .i64 34, .int .i64 rd, .int .i64 s1, .int .i64 s2, .int .i64 im] 64)
  have h0 := h.below ((Below.refl w.heap.size w).alloc (Nat.le_refl _) (.cells #[.int .i64 34, .int .i64 rd, .int .i64 s1, .int .i64 s2, .int .i64 im] 64))
  obtain ⟨rv, d, s, i, o, hb, hr, hd, hs, hi, ho, hk, hL, hnd⟩ := id h0
  obtain ⟨g, off, cap, rfl, hR, hbk⟩ := lis_some hr (by have := hG.r32; omega)
  have e32 := hG.r32
  have c0 := hb.c0
  rw [e32] at c0
  have c1 := hb.c1
  have cs1 := hR.cell s1 (by omega)
  have cs2 := hR.cell s2 (by omega)
  have X0 : ∀ {W : World}, Tcs (fun g => g ∈ L) (w.alloc (.cells #[.int .i64 34, .int .i64 rd, .int .i64 s1, .int .i64 s2, .int .i64 im] 64)) W → W.cell? ⟨w.heap.size, 0, none⟩ = some (.int .i64 34) ∧ W.cell? ⟨w.heap.size, 1, none⟩ = some (.int .i64 rd) := by
    intro W hW
    have hkb := hW.block w.heap.size (by simp) (fun hm => by have := h.lt _ hm; omega)
    constructor <;> (rw [World.cell?_of_block (w := w.alloc _) hkb]; simp)
  have HS : Hid (∀ W v, Below (w.alloc (.cells #[.int .i64 34, .int .i64 rd, .int .i64 s1, .int .i64 s2, .int .i64 im] 64)).heap.size (w.alloc (.cells #[.int .i64 34, .int .i64 rd, .int .i64 s1, .int .i64 s2, .int .i64 im] 64)) W →
      Calls Try.prog 71 #[.pointer (some ⟨C, 0, none⟩), .int .i64 rd, .int .u32 v] W fun e w' => e = .returned (.tuple #[]) ∧ CpuIn w' C L (setR c rd v) ∧ Tcs (fun g => g ∈ L) w w' ∧ (w'.cell? ⟨w.heap.size, 0, none⟩ = some (.int .i64 34) ∧ w'.cell? ⟨w.heap.size, 1, none⟩ = some (.int .i64 rd))) := by
    intro W v hW
    refine (setReg_any C L c rd v W hG.r32 (by omega) (h0.below hW)).mono ?_
    rintro e w' ⟨rfl, hc, ht⟩
    have t1 := (Below.tcs (S := fun g => g ∈ L) hW).trans ht
    exact ⟨rfl, hc, T0.trans t1, X0 t1⟩
  have X00 := X0 (Tcs.refl _ _)
  have HB : Hid (C ∈ L) := h0.mem
  have HM : Hid (∀ W, Below (w.alloc (.cells #[.int .i64 34, .int .i64 rd, .int .i64 s1, .int .i64 s2, .int .i64 im] 64)).heap.size (w.alloc (.cells #[.int .i64 34, .int .i64 rd, .int .i64 s1, .int .i64 s2, .int .i64 im] 64)) W → Calls Try.prog 76 #[.pointer (some ⟨C, 0, none⟩)] W fun e w' => e = .returned (.bool true) ∧ (∃ L', CpuIn w' C L' { c with out := c.out ++ [wrap32 (c.regs.getD 10 0)] } ∧ (∀ g ∈ L', g ∈ L ∨ w.heap.size ≤ g) ∧ Tcs (fun g => g ∈ L) w w')) := by
    intro W hW
    refine (cs_out C L c W hG (h0.below hW) h17 ho1).mono ?_
    rintro e w' ⟨rfl, L', k1, k3, k2⟩
    exact ⟨rfl, L', k1, fun g hg => (k3 g hg).imp id (fun h => Nat.le_trans (by have := hW.size; simp at this; omega) h), (T0.trans (Below.tcs hW)).trans k2⟩
  clear hb hr hR hd hs hi ho hk hL hnd hbk h h0 T0 X0
  generalize hx1 : c.regs.getD s1 0 = a at cs1
  generalize hx2 : c.regs.getD s2 0 = b at cs2
  go_enter Try.func58, Try.ntmps58
  go_wp2_with fail
  go_quiet (fail)
  go_wp2_with fail
  refine (HM.out _ ?_).mono ?_
  · exact below_drewN (Below.refl _ _) _
  rintro e w2 ⟨rfl, L', hc2, hk2, ht2⟩
  obtain ⟨rv, d2, s2', i2, o2, hb2, _, _, _, _, _, _, _⟩ := id hc2
  have q1 := hb2.c1
  have q7 := hb2.c7
  have qf := hb2.fz 1
  dsimp only at q1 q7
  rw [hst] at q7
  have HE : Hid _ := And.intro hc2 ht2
  clear hb2 hc2 ht2
  have HK : Hid _ := hk2
  clear hk2
  go_wp2
  go_ret
  exact ⟨rfl, L', HE.out.1.pc _, HK.out, HE.out.2.setCell (HB.out) _⟩

end Go.Proofs.Ytabjcodpagjbjaa
