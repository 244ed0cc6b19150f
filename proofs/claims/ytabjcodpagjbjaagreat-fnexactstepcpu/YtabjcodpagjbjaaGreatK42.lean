import Derived.Test.YtabjcodpagjbjaaGreatK10
import Derived.Test.YtabjcodpagjbjaaGreatK21
import Derived.Test.YtabjcodpagjbjaaGreatK33
import Derived.Test.YtabjcodpagjbjaaGreatK34
import Derived.Test.YtabjcodpagjbjaaGreatK35
import Derived.Test.YtabjcodpagjbjaaGreatK36
import Derived.Test.YtabjcodpagjbjaaGreatK37
import Derived.Test.YtabjcodpagjbjaaGreatK38
import Derived.Test.YtabjcodpagjbjaaGreatK39
import Derived.Test.YtabjcodpagjbjaaGreatK40
import Derived.Test.YtabjcodpagjbjaaGreatK41
import Derived.Test.YtabjcodpagjbjaaGreatK31
namespace Go.Proofs.YtabjcodpagjbjaaGreat
open Go.RowKit
set_option linter.unusedVariables false
set_option linter.unusedSectionVars false
set_option linter.unusedSimpArgs false

set_option maxRecDepth 8000 in
set_option maxHeartbeats 1000000 in
theorem exEelse (C : Nat) (L : List Nat) (c : Mc)  (rd s1 s2 : Nat) (im : Int) (w : World) (hG : Good c) (h : CpuIn w C L c) (h17 : ¬ c.regs.getD 17 0 = 1 ∧ ¬ c.regs.getD 17 0 = 2 ∧ ¬ c.regs.getD 17 0 = 10) (hrd : rd < 32) (h1 : s1 < 32) (h2 : s2 < 32)
    (hst : c.st = 0)  :
    Calls Tryz.prog 52 #[.pointer (some ⟨C, 0, none⟩), .agg #[.int .i64 34, .int .i64 rd, .int .i64 s1, .int .i64 s2, .int .i64 im]] w fun e w' =>
      e = .returned (.bool false) ∧ CpuIn w' C L c ∧ Tcs (fun g => g ∈ L) w w' := by
  have T0 := (Tcs.refl (fun g => g ∈ L) w).alloc (.cells #[.int .i64 34, .int .i64 rd, .int .i64 s1, .int .i64 s2, .int .i64 im] 52)
  have h0 := h.below ((Below.refl w.heap.size w).alloc (Nat.le_refl _) (.cells #[.int .i64 34, .int .i64 rd, .int .i64 s1, .int .i64 s2, .int .i64 im] 52))
  obtain ⟨rv, d, s, i, o, hb, hr, hd, hs, hi, ho, hk, hL, hnd⟩ := id h0
  obtain ⟨g, off, cap, rfl, hR, hbk⟩ := lis_some hr (by have := hG.r32; omega)
  have e32 := hG.r32
  have c0 := hb.c0
  rw [e32] at c0
  have c1 := hb.c1
  have cs1 := hR.cell s1 (by omega)
  have cs2 := hR.cell s2 (by omega)
  have X0 : ∀ {W : World}, Tcs (fun g => g ∈ L) (w.alloc (.cells #[.int .i64 34, .int .i64 rd, .int .i64 s1, .int .i64 s2, .int .i64 im] 52)) W → W.cell? ⟨w.heap.size, 0, none⟩ = some (.int .i64 34) ∧ W.cell? ⟨w.heap.size, 1, none⟩ = some (.int .i64 rd) := by
    intro W hW
    have hkb := hW.block w.heap.size (by simp) (fun hm => by have := h.lt _ hm; omega)
    constructor <;> (rw [World.cell?_of_block (w := w.alloc _) hkb]; simp)
  have HS : Hid (∀ W v, Below (w.alloc (.cells #[.int .i64 34, .int .i64 rd, .int .i64 s1, .int .i64 s2, .int .i64 im] 52)).heap.size (w.alloc (.cells #[.int .i64 34, .int .i64 rd, .int .i64 s1, .int .i64 s2, .int .i64 im] 52)) W →
      Calls Tryz.prog 63 #[.pointer (some ⟨C, 0, none⟩), .int .i64 rd, .int .u32 v] W fun e w' => e = .returned (.tuple #[]) ∧ CpuIn w' C L (setR c rd v) ∧ Tcs (fun g => g ∈ L) w w' ∧ (w'.cell? ⟨w.heap.size, 0, none⟩ = some (.int .i64 34) ∧ w'.cell? ⟨w.heap.size, 1, none⟩ = some (.int .i64 rd))) := by
    intro W v hW
    refine (setReg_any C L c rd v W hG.r32 (by omega) (h0.below hW)).mono ?_
    rintro e w' ⟨rfl, hc, ht⟩
    have t1 := (Below.tcs (S := fun g => g ∈ L) hW).trans ht
    exact ⟨rfl, hc, T0.trans t1, X0 t1⟩
  have X00 := X0 (Tcs.refl _ _)
  have HM : Hid (∀ W, Below (w.alloc (.cells #[.int .i64 34, .int .i64 rd, .int .i64 s1, .int .i64 s2, .int .i64 im] 52)).heap.size (w.alloc (.cells #[.int .i64 34, .int .i64 rd, .int .i64 s1, .int .i64 s2, .int .i64 im] 52)) W → Calls Tryz.prog 68 #[.pointer (some ⟨C, 0, none⟩)] W fun e w' => e = .returned (.bool false) ∧ (CpuIn w' C L c ∧ Tcs (fun g => g ∈ L) w w')) := by
    intro W hW
    refine (cs_else C L c W hG (h0.below hW) h17).mono ?_
    rintro e w' ⟨rfl, k1, k2⟩
    exact ⟨rfl, k1, (T0.trans (Below.tcs hW)).trans k2⟩
  clear hb hr hR hd hs hi ho hk hL hnd hbk h h0 T0 X0
  generalize hx1 : c.regs.getD s1 0 = a at cs1
  generalize hx2 : c.regs.getD s2 0 = b at cs2
  go_enter Tryz.func52, Tryz.ntmps52
  go_wp2_with fail
  go_quiet (fail)
  go_wp2_with fail
  refine (HM.out _ ?_).mono ?_
  · exact below_drewN (Below.refl _ _) _
  rintro e w2 ⟨rfl, hc2, ht2⟩
  have HE : Hid _ := And.intro hc2 ht2
  clear hc2 ht2
  go_wp2
  go_ret
  exact ⟨rfl, HE.out⟩


set_option maxRecDepth 8000 in
set_option maxHeartbeats 1000000 in
theorem exEfull (C : Nat) (L : List Nat) (c : Mc)  (rd s1 s2 : Nat) (im : Int) (w : World) (hG : Good c) (h : CpuIn w C L c) (h17 : c.regs.getD 17 0 = 1) (ho1 : Hid (1000000 ≤ c.out.length)) (hrd : rd < 32) (h1 : s1 < 32) (h2 : s2 < 32)
    (hst : c.st = 0)  :
    Calls Tryz.prog 52 #[.pointer (some ⟨C, 0, none⟩), .agg #[.int .i64 34, .int .i64 rd, .int .i64 s1, .int .i64 s2, .int .i64 im]] w fun e w' =>
      e = .returned (.bool false) ∧ CpuIn w' C L c ∧ Tcs (fun g => g ∈ L) w w' := by
  have T0 := (Tcs.refl (fun g => g ∈ L) w).alloc (.cells #[.int .i64 34, .int .i64 rd, .int .i64 s1, .int .i64 s2, .int .i64 im] 52)
  have h0 := h.below ((Below.refl w.heap.size w).alloc (Nat.le_refl _) (.cells #[.int .i64 34, .int .i64 rd, .int .i64 s1, .int .i64 s2, .int .i64 im] 52))
  obtain ⟨rv, d, s, i, o, hb, hr, hd, hs, hi, ho, hk, hL, hnd⟩ := id h0
  obtain ⟨g, off, cap, rfl, hR, hbk⟩ := lis_some hr (by have := hG.r32; omega)
  have e32 := hG.r32
  have c0 := hb.c0
  rw [e32] at c0
  have c1 := hb.c1
  have cs1 := hR.cell s1 (by omega)
  have cs2 := hR.cell s2 (by omega)
  have X0 : ∀ {W : World}, Tcs (fun g => g ∈ L) (w.alloc (.cells #[.int .i64 34, .int .i64 rd, .int .i64 s1, .int .i64 s2, .int .i64 im] 52)) W → W.cell? ⟨w.heap.size, 0, none⟩ = some (.int .i64 34) ∧ W.cell? ⟨w.heap.size, 1, none⟩ = some (.int .i64 rd) := by
    intro W hW
    have hkb := hW.block w.heap.size (by simp) (fun hm => by have := h.lt _ hm; omega)
    constructor <;> (rw [World.cell?_of_block (w := w.alloc _) hkb]; simp)
  have HS : Hid (∀ W v, Below (w.alloc (.cells #[.int .i64 34, .int .i64 rd, .int .i64 s1, .int .i64 s2, .int .i64 im] 52)).heap.size (w.alloc (.cells #[.int .i64 34, .int .i64 rd, .int .i64 s1, .int .i64 s2, .int .i64 im] 52)) W →
      Calls Tryz.prog 63 #[.pointer (some ⟨C, 0, none⟩), .int .i64 rd, .int .u32 v] W fun e w' => e = .returned (.tuple #[]) ∧ CpuIn w' C L (setR c rd v) ∧ Tcs (fun g => g ∈ L) w w' ∧ (w'.cell? ⟨w.heap.size, 0, none⟩ = some (.int .i64 34) ∧ w'.cell? ⟨w.heap.size, 1, none⟩ = some (.int .i64 rd))) := by
    intro W v hW
    refine (setReg_any C L c rd v W hG.r32 (by omega) (h0.below hW)).mono ?_
    rintro e w' ⟨rfl, hc, ht⟩
    have t1 := (Below.tcs (S := fun g => g ∈ L) hW).trans ht
    exact ⟨rfl, hc, T0.trans t1, X0 t1⟩
  have X00 := X0 (Tcs.refl _ _)
  have HM : Hid (∀ W, Below (w.alloc (.cells #[.int .i64 34, .int .i64 rd, .int .i64 s1, .int .i64 s2, .int .i64 im] 52)).heap.size (w.alloc (.cells #[.int .i64 34, .int .i64 rd, .int .i64 s1, .int .i64 s2, .int .i64 im] 52)) W → Calls Tryz.prog 68 #[.pointer (some ⟨C, 0, none⟩)] W fun e w' => e = .returned (.bool false) ∧ (CpuIn w' C L c ∧ Tcs (fun g => g ∈ L) w w')) := by
    intro W hW
    refine (cs_full C L c W hG (h0.below hW) h17 ho1).mono ?_
    rintro e w' ⟨rfl, k1, k2⟩
    exact ⟨rfl, k1, (T0.trans (Below.tcs hW)).trans k2⟩
  clear hb hr hR hd hs hi ho hk hL hnd hbk h h0 T0 X0
  generalize hx1 : c.regs.getD s1 0 = a at cs1
  generalize hx2 : c.regs.getD s2 0 = b at cs2
  go_enter Tryz.func52, Tryz.ntmps52
  go_wp2_with fail
  go_quiet (fail)
  go_wp2_with fail
  refine (HM.out _ ?_).mono ?_
  · exact below_drewN (Below.refl _ _) _
  rintro e w2 ⟨rfl, hc2, ht2⟩
  have HE : Hid _ := And.intro hc2 ht2
  clear hc2 ht2
  go_wp2
  go_ret
  exact ⟨rfl, HE.out⟩


set_option maxRecDepth 8000 in
set_option maxHeartbeats 1000000 in
theorem exEhalt (C : Nat) (L : List Nat) (c : Mc)  (rd s1 s2 : Nat) (im : Int) (w : World) (hG : Good c) (h : CpuIn w C L c) (h17 : c.regs.getD 17 0 = 10) (hrd : rd < 32) (h1 : s1 < 32) (h2 : s2 < 32)
    (hst : c.st = 0)  :
    Calls Tryz.prog 52 #[.pointer (some ⟨C, 0, none⟩), .agg #[.int .i64 34, .int .i64 rd, .int .i64 s1, .int .i64 s2, .int .i64 im]] w fun e w' =>
      e = .returned (.bool true) ∧ CpuIn w' C L { c with st := 1 } ∧ Tcs (fun g => g ∈ L) w w' := by
  have T0 := (Tcs.refl (fun g => g ∈ L) w).alloc (.cells #[.int .i64 34, .int .i64 rd, .int .i64 s1, .int .i64 s2, .int .i64 im] 52)
  have h0 := h.below ((Below.refl w.heap.size w).alloc (Nat.le_refl _) (.cells #[.int .i64 34, .int .i64 rd, .int .i64 s1, .int .i64 s2, .int .i64 im] 52))
  obtain ⟨rv, d, s, i, o, hb, hr, hd, hs, hi, ho, hk, hL, hnd⟩ := id h0
  obtain ⟨g, off, cap, rfl, hR, hbk⟩ := lis_some hr (by have := hG.r32; omega)
  have e32 := hG.r32
  have c0 := hb.c0
  rw [e32] at c0
  have c1 := hb.c1
  have cs1 := hR.cell s1 (by omega)
  have cs2 := hR.cell s2 (by omega)
  have X0 : ∀ {W : World}, Tcs (fun g => g ∈ L) (w.alloc (.cells #[.int .i64 34, .int .i64 rd, .int .i64 s1, .int .i64 s2, .int .i64 im] 52)) W → W.cell? ⟨w.heap.size, 0, none⟩ = some (.int .i64 34) ∧ W.cell? ⟨w.heap.size, 1, none⟩ = some (.int .i64 rd) := by
    intro W hW
    have hkb := hW.block w.heap.size (by simp) (fun hm => by have := h.lt _ hm; omega)
    constructor <;> (rw [World.cell?_of_block (w := w.alloc _) hkb]; simp)
  have HS : Hid (∀ W v, Below (w.alloc (.cells #[.int .i64 34, .int .i64 rd, .int .i64 s1, .int .i64 s2, .int .i64 im] 52)).heap.size (w.alloc (.cells #[.int .i64 34, .int .i64 rd, .int .i64 s1, .int .i64 s2, .int .i64 im] 52)) W →
      Calls Tryz.prog 63 #[.pointer (some ⟨C, 0, none⟩), .int .i64 rd, .int .u32 v] W fun e w' => e = .returned (.tuple #[]) ∧ CpuIn w' C L (setR c rd v) ∧ Tcs (fun g => g ∈ L) w w' ∧ (w'.cell? ⟨w.heap.size, 0, none⟩ = some (.int .i64 34) ∧ w'.cell? ⟨w.heap.size, 1, none⟩ = some (.int .i64 rd))) := by
    intro W v hW
    refine (setReg_any C L c rd v W hG.r32 (by omega) (h0.below hW)).mono ?_
    rintro e w' ⟨rfl, hc, ht⟩
    have t1 := (Below.tcs (S := fun g => g ∈ L) hW).trans ht
    exact ⟨rfl, hc, T0.trans t1, X0 t1⟩
  have X00 := X0 (Tcs.refl _ _)
  have HM : Hid (∀ W, Below (w.alloc (.cells #[.int .i64 34, .int .i64 rd, .int .i64 s1, .int .i64 s2, .int .i64 im] 52)).heap.size (w.alloc (.cells #[.int .i64 34, .int .i64 rd, .int .i64 s1, .int .i64 s2, .int .i64 im] 52)) W → Calls Tryz.prog 68 #[.pointer (some ⟨C, 0, none⟩)] W fun e w' => e = .returned (.bool true) ∧ (CpuIn w' C L { c with st := 1 } ∧ Tcs (fun g => g ∈ L) w w')) := by
    intro W hW
    refine (cs_halt C L c W hG (h0.below hW) h17).mono ?_
    rintro e w' ⟨rfl, k1, k2⟩
    exact ⟨rfl, k1, (T0.trans (Below.tcs hW)).trans k2⟩
  clear hb hr hR hd hs hi ho hk hL hnd hbk h h0 T0 X0
  generalize hx1 : c.regs.getD s1 0 = a at cs1
  generalize hx2 : c.regs.getD s2 0 = b at cs2
  go_enter Tryz.func52, Tryz.ntmps52
  go_wp2_with fail
  go_quiet (fail)
  go_wp2_with fail
  refine (HM.out _ ?_).mono ?_
  · exact below_drewN (Below.refl _ _) _
  rintro e w2 ⟨rfl, hc2, ht2⟩
  obtain ⟨rv, d2, s2', i2, o2, hb2, _, _, _, _, _, _, _⟩ := id hc2
  have q7 := hb2.c7
  dsimp only at q7
  have HE : Hid _ := And.intro hc2 ht2
  clear hb2 hc2 ht2
  go_wp2
  go_ret
  exact ⟨rfl, HE.out⟩


set_option maxRecDepth 8000 in
set_option maxHeartbeats 1000000 in
theorem exEin0 (C : Nat) (L : List Nat) (c : Mc)  (rd s1 s2 : Nat) (im : Int) (w : World) (hG : Good c) (h : CpuIn w C L c) (h17 : c.regs.getD 17 0 = 2) (hi0 : c.inn = []) (hrd : rd < 32) (h1 : s1 < 32) (h2 : s2 < 32)
    (hst : c.st = 0)  :
    Calls Tryz.prog 52 #[.pointer (some ⟨C, 0, none⟩), .agg #[.int .i64 34, .int .i64 rd, .int .i64 s1, .int .i64 s2, .int .i64 im]] w fun e w' =>
      e = .returned (.bool true) ∧ CpuIn w' C L { c with regs := c.regs.set 10 0, pc := (c.pc + 4) % 4294967296 } ∧ Tcs (fun g => g ∈ L) w w' := by
  have T0 := (Tcs.refl (fun g => g ∈ L) w).alloc (.cells #[.int .i64 34, .int .i64 rd, .int .i64 s1, .int .i64 s2, .int .i64 im] 52)
  have h0 := h.below ((Below.refl w.heap.size w).alloc (Nat.le_refl _) (.cells #[.int .i64 34, .int .i64 rd, .int .i64 s1, .int .i64 s2, .int .i64 im] 52))
  obtain ⟨rv, d, s, i, o, hb, hr, hd, hs, hi, ho, hk, hL, hnd⟩ := id h0
  obtain ⟨g, off, cap, rfl, hR, hbk⟩ := lis_some hr (by have := hG.r32; omega)
  have e32 := hG.r32
  have c0 := hb.c0
  rw [e32] at c0
  have c1 := hb.c1
  have cs1 := hR.cell s1 (by omega)
  have cs2 := hR.cell s2 (by omega)
  have X0 : ∀ {W : World}, Tcs (fun g => g ∈ L) (w.alloc (.cells #[.int .i64 34, .int .i64 rd, .int .i64 s1, .int .i64 s2, .int .i64 im] 52)) W → W.cell? ⟨w.heap.size, 0, none⟩ = some (.int .i64 34) ∧ W.cell? ⟨w.heap.size, 1, none⟩ = some (.int .i64 rd) := by
    intro W hW
    have hkb := hW.block w.heap.size (by simp) (fun hm => by have := h.lt _ hm; omega)
    constructor <;> (rw [World.cell?_of_block (w := w.alloc _) hkb]; simp)
  have HS : Hid (∀ W v, Below (w.alloc (.cells #[.int .i64 34, .int .i64 rd, .int .i64 s1, .int .i64 s2, .int .i64 im] 52)).heap.size (w.alloc (.cells #[.int .i64 34, .int .i64 rd, .int .i64 s1, .int .i64 s2, .int .i64 im] 52)) W →
      Calls Tryz.prog 63 #[.pointer (some ⟨C, 0, none⟩), .int .i64 rd, .int .u32 v] W fun e w' => e = .returned (.tuple #[]) ∧ CpuIn w' C L (setR c rd v) ∧ Tcs (fun g => g ∈ L) w w' ∧ (w'.cell? ⟨w.heap.size, 0, none⟩ = some (.int .i64 34) ∧ w'.cell? ⟨w.heap.size, 1, none⟩ = some (.int .i64 rd))) := by
    intro W v hW
    refine (setReg_any C L c rd v W hG.r32 (by omega) (h0.below hW)).mono ?_
    rintro e w' ⟨rfl, hc, ht⟩
    have t1 := (Below.tcs (S := fun g => g ∈ L) hW).trans ht
    exact ⟨rfl, hc, T0.trans t1, X0 t1⟩
  have X00 := X0 (Tcs.refl _ _)
  have HM : Hid (∀ W, Below (w.alloc (.cells #[.int .i64 34, .int .i64 rd, .int .i64 s1, .int .i64 s2, .int .i64 im] 52)).heap.size (w.alloc (.cells #[.int .i64 34, .int .i64 rd, .int .i64 s1, .int .i64 s2, .int .i64 im] 52)) W → Calls Tryz.prog 68 #[.pointer (some ⟨C, 0, none⟩)] W fun e w' => e = .returned (.bool true) ∧ (CpuIn w' C L { c with regs := c.regs.set 10 0 } ∧ Tcs (fun g => g ∈ L) w w')) := by
    intro W hW
    refine (cs_in0 C L c W hG (h0.below hW) h17 hi0).mono ?_
    rintro e w' ⟨rfl, k1, k2⟩
    exact ⟨rfl, k1, (T0.trans (Below.tcs hW)).trans k2⟩
  clear hb hr hR hd hs hi ho hk hL hnd hbk h h0 T0 X0
  generalize hx1 : c.regs.getD s1 0 = a at cs1
  generalize hx2 : c.regs.getD s2 0 = b at cs2
  go_enter Tryz.func52, Tryz.ntmps52
  go_wp2_with fail
  go_quiet (fail)
  go_wp2_with fail
  refine (HM.out _ ?_).mono ?_
  · exact below_drewN (Below.refl _ _) _
  rintro e w2 ⟨rfl, hc2, ht2⟩
  obtain ⟨rv, d2, s2', i2, o2, hb2, _, _, _, _, _, _, _⟩ := id hc2
  have q1 := hb2.c1
  have q7 := hb2.c7
  have qf := hb2.fz 1
  dsimp only at q1 q7
  rw [hst] at q7
  have HE : Hid _ := And.intro hc2 ht2
  clear hb2 hc2 ht2
  go_wp2
  go_ret
  exact ⟨rfl, HE.out.1.pc _, HE.out.2.setCell HE.out.1.mem _⟩

end Go.Proofs.YtabjcodpagjbjaaGreat

namespace Go.Proofs.YtabjcodpagjbjaaGreat
open Go.RowKit
set_option linter.unusedVariables false
set_option linter.unusedSectionVars false
set_option linter.unusedSimpArgs false
theorem doIs_R (c : Mc) (mb : Int) (op : Int) (rd s1 s2 : Nat) (im : Int) (hG : Good c) (hst : c.st = 0) (hrd : rd < 32) (h1 : s1 < 32) (h2 : s2 < 32) (hop : 21 ≤ op ∧ op ≤ 33) : ∃ f c', DoIs c mb op rd s1 s2 im f c' := by
  obtain ⟨r, hA⟩ := alu_any op (c.regs.getD s1 0) (c.regs.getD s2 0) (by omega) (hG.ru s1 h1) (hG.ru s2 h2)
  refine ⟨true, { setR c rd (r) with pc := (c.pc + 4) % 4294967296 }, do_same (fun C L w h => exR C L c op r rd s1 s2 im w hG h hop hrd h1 h2 hst hA) (fun ma mn mc' md v L w h => (by
    by_cases h0 : 0 < rd
    · exact doR1 ma mn mc' md mb v L c op r rd s1 s2 im w hG h hop h0 hrd h1 h2 hA
    · obtain rfl : rd = 0 := by omega
      exact doR0 ma mn mc' md mb v L c op r s1 s2 im w hG h hop h1 h2 hA))
    ((hG.setR rd (r) hrd hA.1).pc _ (m32_bd _)) (.inl (by dsimp only; rw [setR_st]; exact hst)) (setR_low _ _ _) (by unfold setR; split <;> rfl) (by unfold setR; split <;> rfl)⟩

theorem doIs_I12 (c : Mc) (mb : Int)  (rd s1 s2 : Nat) (im : Int) (hG : Good c) (hst : c.st = 0) (hrd : rd < 32) (h1 : s1 < 32) (h2 : s2 < 32) : ∃ f c', DoIs c mb 12 rd s1 s2 im f c' := by
  obtain ⟨r, hA⟩ := alu_any 12 (c.regs.getD s1 0) (im % 4294967296) (by omega) (hG.ru s1 h1) (m32_bd _)
  refine ⟨true, { setR c rd (r) with pc := (c.pc + 4) % 4294967296 }, do_same (fun C L w h => exI12 C L c rd s1 s2 im w hG h r hrd h1 h2 hst hA) (fun ma mn mc' md v L w h => (by
    by_cases h0 : 0 < rd
    · exact doI1 ma mn mc' md mb v L c 12 r rd s1 s2 im w hG h (by omega) h0 hrd h1 h2 hA
    · obtain rfl : rd = 0 := by omega
      exact doI0 ma mn mc' md mb v L c 12 r s1 s2 im w hG h (by omega) h1 h2 hA))
    ((hG.setR rd (r) hrd hA.1).pc _ (m32_bd _)) (.inl (by dsimp only; rw [setR_st]; exact hst)) (setR_low _ _ _) (by unfold setR; split <;> rfl) (by unfold setR; split <;> rfl)⟩

theorem doIs_I13 (c : Mc) (mb : Int)  (rd s1 s2 : Nat) (im : Int) (hG : Good c) (hst : c.st = 0) (hrd : rd < 32) (h1 : s1 < 32) (h2 : s2 < 32) : ∃ f c', DoIs c mb 13 rd s1 s2 im f c' := by
  obtain ⟨r, hA⟩ := alu_any 13 (c.regs.getD s1 0) (im % 4294967296) (by omega) (hG.ru s1 h1) (m32_bd _)
  refine ⟨true, { setR c rd (r) with pc := (c.pc + 4) % 4294967296 }, do_same (fun C L w h => exI13 C L c rd s1 s2 im w hG h r hrd h1 h2 hst hA) (fun ma mn mc' md v L w h => (by
    by_cases h0 : 0 < rd
    · exact doI1 ma mn mc' md mb v L c 13 r rd s1 s2 im w hG h (by omega) h0 hrd h1 h2 hA
    · obtain rfl : rd = 0 := by omega
      exact doI0 ma mn mc' md mb v L c 13 r s1 s2 im w hG h (by omega) h1 h2 hA))
    ((hG.setR rd (r) hrd hA.1).pc _ (m32_bd _)) (.inl (by dsimp only; rw [setR_st]; exact hst)) (setR_low _ _ _) (by unfold setR; split <;> rfl) (by unfold setR; split <;> rfl)⟩

theorem doIs_I14 (c : Mc) (mb : Int)  (rd s1 s2 : Nat) (im : Int) (hG : Good c) (hst : c.st = 0) (hrd : rd < 32) (h1 : s1 < 32) (h2 : s2 < 32) : ∃ f c', DoIs c mb 14 rd s1 s2 im f c' := by
  obtain ⟨r, hA⟩ := alu_any 14 (c.regs.getD s1 0) (im % 4294967296) (by omega) (hG.ru s1 h1) (m32_bd _)
  refine ⟨true, { setR c rd (r) with pc := (c.pc + 4) % 4294967296 }, do_same (fun C L w h => exI14 C L c rd s1 s2 im w hG h r hrd h1 h2 hst hA) (fun ma mn mc' md v L w h => (by
    by_cases h0 : 0 < rd
    · exact doI1 ma mn mc' md mb v L c 14 r rd s1 s2 im w hG h (by omega) h0 hrd h1 h2 hA
    · obtain rfl : rd = 0 := by omega
      exact doI0 ma mn mc' md mb v L c 14 r s1 s2 im w hG h (by omega) h1 h2 hA))
    ((hG.setR rd (r) hrd hA.1).pc _ (m32_bd _)) (.inl (by dsimp only; rw [setR_st]; exact hst)) (setR_low _ _ _) (by unfold setR; split <;> rfl) (by unfold setR; split <;> rfl)⟩

theorem doIs_I15 (c : Mc) (mb : Int)  (rd s1 s2 : Nat) (im : Int) (hG : Good c) (hst : c.st = 0) (hrd : rd < 32) (h1 : s1 < 32) (h2 : s2 < 32) : ∃ f c', DoIs c mb 15 rd s1 s2 im f c' := by
  obtain ⟨r, hA⟩ := alu_any 15 (c.regs.getD s1 0) (im % 4294967296) (by omega) (hG.ru s1 h1) (m32_bd _)
  refine ⟨true, { setR c rd (r) with pc := (c.pc + 4) % 4294967296 }, do_same (fun C L w h => exI15 C L c rd s1 s2 im w hG h r hrd h1 h2 hst hA) (fun ma mn mc' md v L w h => (by
    by_cases h0 : 0 < rd
    · exact doI1 ma mn mc' md mb v L c 15 r rd s1 s2 im w hG h (by omega) h0 hrd h1 h2 hA
    · obtain rfl : rd = 0 := by omega
      exact doI0 ma mn mc' md mb v L c 15 r s1 s2 im w hG h (by omega) h1 h2 hA))
    ((hG.setR rd (r) hrd hA.1).pc _ (m32_bd _)) (.inl (by dsimp only; rw [setR_st]; exact hst)) (setR_low _ _ _) (by unfold setR; split <;> rfl) (by unfold setR; split <;> rfl)⟩

theorem doIs_I16 (c : Mc) (mb : Int)  (rd s1 s2 : Nat) (im : Int) (hG : Good c) (hst : c.st = 0) (hrd : rd < 32) (h1 : s1 < 32) (h2 : s2 < 32) : ∃ f c', DoIs c mb 16 rd s1 s2 im f c' := by
  obtain ⟨r, hA⟩ := alu_any 16 (c.regs.getD s1 0) (im % 4294967296) (by omega) (hG.ru s1 h1) (m32_bd _)
  refine ⟨true, { setR c rd (r) with pc := (c.pc + 4) % 4294967296 }, do_same (fun C L w h => exI16 C L c rd s1 s2 im w hG h r hrd h1 h2 hst hA) (fun ma mn mc' md v L w h => (by
    by_cases h0 : 0 < rd
    · exact doI1 ma mn mc' md mb v L c 16 r rd s1 s2 im w hG h (by omega) h0 hrd h1 h2 hA
    · obtain rfl : rd = 0 := by omega
      exact doI0 ma mn mc' md mb v L c 16 r s1 s2 im w hG h (by omega) h1 h2 hA))
    ((hG.setR rd (r) hrd hA.1).pc _ (m32_bd _)) (.inl (by dsimp only; rw [setR_st]; exact hst)) (setR_low _ _ _) (by unfold setR; split <;> rfl) (by unfold setR; split <;> rfl)⟩

theorem doIs_I17 (c : Mc) (mb : Int)  (rd s1 s2 : Nat) (im : Int) (hG : Good c) (hst : c.st = 0) (hrd : rd < 32) (h1 : s1 < 32) (h2 : s2 < 32) : ∃ f c', DoIs c mb 17 rd s1 s2 im f c' := by
  obtain ⟨r, hA⟩ := alu_any 17 (c.regs.getD s1 0) (im % 4294967296) (by omega) (hG.ru s1 h1) (m32_bd _)
  refine ⟨true, { setR c rd (r) with pc := (c.pc + 4) % 4294967296 }, do_same (fun C L w h => exI17 C L c rd s1 s2 im w hG h r hrd h1 h2 hst hA) (fun ma mn mc' md v L w h => (by
    by_cases h0 : 0 < rd
    · exact doI1 ma mn mc' md mb v L c 17 r rd s1 s2 im w hG h (by omega) h0 hrd h1 h2 hA
    · obtain rfl : rd = 0 := by omega
      exact doI0 ma mn mc' md mb v L c 17 r s1 s2 im w hG h (by omega) h1 h2 hA))
    ((hG.setR rd (r) hrd hA.1).pc _ (m32_bd _)) (.inl (by dsimp only; rw [setR_st]; exact hst)) (setR_low _ _ _) (by unfold setR; split <;> rfl) (by unfold setR; split <;> rfl)⟩

theorem doIs_I18 (c : Mc) (mb : Int)  (rd s1 s2 : Nat) (im : Int) (hG : Good c) (hst : c.st = 0) (hrd : rd < 32) (h1 : s1 < 32) (h2 : s2 < 32) : ∃ f c', DoIs c mb 18 rd s1 s2 im f c' := by
  obtain ⟨r, hA⟩ := alu_any 18 (c.regs.getD s1 0) (im % 4294967296) (by omega) (hG.ru s1 h1) (m32_bd _)
  refine ⟨true, { setR c rd (r) with pc := (c.pc + 4) % 4294967296 }, do_same (fun C L w h => exI18 C L c rd s1 s2 im w hG h r hrd h1 h2 hst hA) (fun ma mn mc' md v L w h => (by
    by_cases h0 : 0 < rd
    · exact doH1 ma mn mc' md mb v L c 18 r rd s1 s2 im w hG h (by omega) h0 hrd h1 h2 hA
    · obtain rfl : rd = 0 := by omega
      exact doH0 ma mn mc' md mb v L c 18 r s1 s2 im w hG h (by omega) h1 h2 hA))
    ((hG.setR rd (r) hrd hA.1).pc _ (m32_bd _)) (.inl (by dsimp only; rw [setR_st]; exact hst)) (setR_low _ _ _) (by unfold setR; split <;> rfl) (by unfold setR; split <;> rfl)⟩

theorem doIs_I19 (c : Mc) (mb : Int)  (rd s1 s2 : Nat) (im : Int) (hG : Good c) (hst : c.st = 0) (hrd : rd < 32) (h1 : s1 < 32) (h2 : s2 < 32) : ∃ f c', DoIs c mb 19 rd s1 s2 im f c' := by
  obtain ⟨r, hA⟩ := alu_any 19 (c.regs.getD s1 0) (im % 4294967296) (by omega) (hG.ru s1 h1) (m32_bd _)
  refine ⟨true, { setR c rd (r) with pc := (c.pc + 4) % 4294967296 }, do_same (fun C L w h => exI19 C L c rd s1 s2 im w hG h r hrd h1 h2 hst hA) (fun ma mn mc' md v L w h => (by
    by_cases h0 : 0 < rd
    · exact doH1 ma mn mc' md mb v L c 19 r rd s1 s2 im w hG h (by omega) h0 hrd h1 h2 hA
    · obtain rfl : rd = 0 := by omega
      exact doH0 ma mn mc' md mb v L c 19 r s1 s2 im w hG h (by omega) h1 h2 hA))
    ((hG.setR rd (r) hrd hA.1).pc _ (m32_bd _)) (.inl (by dsimp only; rw [setR_st]; exact hst)) (setR_low _ _ _) (by unfold setR; split <;> rfl) (by unfold setR; split <;> rfl)⟩

theorem doIs_I20 (c : Mc) (mb : Int)  (rd s1 s2 : Nat) (im : Int) (hG : Good c) (hst : c.st = 0) (hrd : rd < 32) (h1 : s1 < 32) (h2 : s2 < 32) : ∃ f c', DoIs c mb 20 rd s1 s2 im f c' := by
  obtain ⟨r, hA⟩ := alu_any 20 (c.regs.getD s1 0) (im % 4294967296) (by omega) (hG.ru s1 h1) (m32_bd _)
  refine ⟨true, { setR c rd (r) with pc := (c.pc + 4) % 4294967296 }, do_same (fun C L w h => exI20 C L c rd s1 s2 im w hG h r hrd h1 h2 hst hA) (fun ma mn mc' md v L w h => (by
    by_cases h0 : 0 < rd
    · exact doH1 ma mn mc' md mb v L c 20 r rd s1 s2 im w hG h (by omega) h0 hrd h1 h2 hA
    · obtain rfl : rd = 0 := by omega
      exact doH0 ma mn mc' md mb v L c 20 r s1 s2 im w hG h (by omega) h1 h2 hA))
    ((hG.setR rd (r) hrd hA.1).pc _ (m32_bd _)) (.inl (by dsimp only; rw [setR_st]; exact hst)) (setR_low _ _ _) (by unfold setR; split <;> rfl) (by unfold setR; split <;> rfl)⟩

theorem doIs_U (c : Mc) (mb : Int)  (rd s1 s2 : Nat) (im : Int) (hG : Good c) (hst : c.st = 0) (hrd : rd < 32) (h1 : s1 < 32) (h2 : s2 < 32) : ∃ f c', DoIs c mb 1 rd s1 s2 im f c' := by
  refine ⟨true, { setR c rd (im % 4294967296 * 4096 % 4294967296) with pc := (c.pc + 4) % 4294967296 }, do_same (fun C L w h => exU C L c rd s1 s2 im w hG h hrd h1 h2 hst) (fun ma mn mc' md v L w h => (by
    by_cases h0 : 0 < rd
    · exact doU1 ma mn mc' md mb v L c rd s1 s2 im w hG h h0 hrd h1 h2
    · obtain rfl : rd = 0 := by omega
      exact doU0 ma mn mc' md mb v L c s1 s2 im w hG h h1 h2))
    ((hG.setR rd (im % 4294967296 * 4096 % 4294967296) hrd (m32_bd _)).pc _ (m32_bd _)) (.inl (by dsimp only; rw [setR_st]; exact hst)) (setR_low _ _ _) (by unfold setR; split <;> rfl) (by unfold setR; split <;> rfl)⟩

theorem doIs_J (c : Mc) (mb : Int)  (rd s1 s2 : Nat) (im : Int) (hG : Good c) (hst : c.st = 0) (hrd : rd < 32) (h1 : s1 < 32) (h2 : s2 < 32) : ∃ f c', DoIs c mb 2 rd s1 s2 im f c' := by
  refine ⟨true, { setR c rd ((c.pc + 4) % 4294967296) with pc := (c.pc + im) % 4294967296 }, do_same (fun C L w h => exJ C L c rd s1 s2 im w hG h hrd h1 h2 hst) (fun ma mn mc' md v L w h => (by
    by_cases h0 : 0 < rd
    · exact doJ1 ma mn mc' md mb v L c rd s1 s2 im w hG h h0 hrd h1 h2
    · obtain rfl : rd = 0 := by omega
      exact doJ0 ma mn mc' md mb v L c s1 s2 im w hG h h1 h2))
    ((hG.setR rd ((c.pc + 4) % 4294967296) hrd (m32_bd _)).pc _ (m32_bd _)) (.inl (by dsimp only; rw [setR_st]; exact hst)) (setR_low _ _ _) (by unfold setR; split <;> rfl) (by unfold setR; split <;> rfl)⟩

theorem doIs_Jr (c : Mc) (mb : Int) (rd s1 s2 : Nat) (im : Int) (hG : Good c) (hst : c.st = 0) (hrd : rd < 32) (h1 : s1 < 32) (h2 : s2 < 32) : ∃ f c', DoIs c mb 3 rd s1 s2 im f c' := by
  have hb := m32_bd (c.regs.getD s1 0 + im)
  have hE := jr_even _ hb
  refine ⟨true, { setR c rd ((c.pc + 4) % 4294967296) with pc := (c.regs.getD s1 0 + im) % 4294967296 / 2 * 2 }, do_same (fun C L w h => hE ▸ exJr C L c rd s1 s2 im w hG h hrd h1 h2 hst) (fun ma mn mc' md v L w h => (by
    by_cases h0 : 0 < rd
    · exact doJr1 ma mn mc' md mb v L c rd s1 s2 im w hG h h0 hrd h1 h2
    · obtain rfl : rd = 0 := by omega
      exact doJr0 ma mn mc' md mb v L c s1 s2 im w hG h h1 h2))
    ((hG.setR rd ((c.pc + 4) % 4294967296) hrd (m32_bd _)).pc _ (by omega)) (.inl (by dsimp only; rw [setR_st]; exact hst)) (setR_low _ _ _) (by unfold setR; split <;> rfl) (by unfold setR; split <;> rfl)⟩

theorem doIs_B4 (c : Mc) (mb : Int) (s1 s2 : Nat) (im : Int) (hG : Good c) (hst : c.st = 0) (h1 : s1 < 32) (h2 : s2 < 32) : ∃ f c', DoIs c mb 4 0 s1 s2 im f c' := by
  obtain ⟨t, hA⟩ := tak_any 4 (c.regs.getD s1 0) (c.regs.getD s2 0) (by omega) (hG.ru s1 h1) (hG.ru s2 h2)
  cases t with
  | true => exact ⟨true, { c with pc := (c.pc + im) % 4294967296 }, do_same (fun C L w h => exB4t C L c 0 s1 s2 im w hG h (by omega) h1 h2 hst hA) (fun ma mn mc' md v L w h => doBt ma mn mc' md mb v L c 4 s1 s2 im w hG h (by omega) h1 h2 hA) (hG.pc _ (m32_bd _)) (.inl hst) rfl rfl rfl⟩
  | false => exact ⟨true, { c with pc := (c.pc + 4) % 4294967296 }, do_same (fun C L w h => exB4f C L c 0 s1 s2 im w hG h (by omega) h1 h2 hst hA) (fun ma mn mc' md v L w h => doBf ma mn mc' md mb v L c 4 s1 s2 im w hG h (by omega) h1 h2 hA) (hG.pc _ (m32_bd _)) (.inl hst) rfl rfl rfl⟩

theorem doIs_B5 (c : Mc) (mb : Int) (s1 s2 : Nat) (im : Int) (hG : Good c) (hst : c.st = 0) (h1 : s1 < 32) (h2 : s2 < 32) : ∃ f c', DoIs c mb 5 0 s1 s2 im f c' := by
  obtain ⟨t, hA⟩ := tak_any 5 (c.regs.getD s1 0) (c.regs.getD s2 0) (by omega) (hG.ru s1 h1) (hG.ru s2 h2)
  cases t with
  | true => exact ⟨true, { c with pc := (c.pc + im) % 4294967296 }, do_same (fun C L w h => exB5t C L c 0 s1 s2 im w hG h (by omega) h1 h2 hst hA) (fun ma mn mc' md v L w h => doBt ma mn mc' md mb v L c 5 s1 s2 im w hG h (by omega) h1 h2 hA) (hG.pc _ (m32_bd _)) (.inl hst) rfl rfl rfl⟩
  | false => exact ⟨true, { c with pc := (c.pc + 4) % 4294967296 }, do_same (fun C L w h => exB5f C L c 0 s1 s2 im w hG h (by omega) h1 h2 hst hA) (fun ma mn mc' md v L w h => doBf ma mn mc' md mb v L c 5 s1 s2 im w hG h (by omega) h1 h2 hA) (hG.pc _ (m32_bd _)) (.inl hst) rfl rfl rfl⟩

theorem doIs_B6 (c : Mc) (mb : Int) (s1 s2 : Nat) (im : Int) (hG : Good c) (hst : c.st = 0) (h1 : s1 < 32) (h2 : s2 < 32) : ∃ f c', DoIs c mb 6 0 s1 s2 im f c' := by
  obtain ⟨t, hA⟩ := tak_any 6 (c.regs.getD s1 0) (c.regs.getD s2 0) (by omega) (hG.ru s1 h1) (hG.ru s2 h2)
  cases t with
  | true => exact ⟨true, { c with pc := (c.pc + im) % 4294967296 }, do_same (fun C L w h => exB6t C L c 0 s1 s2 im w hG h (by omega) h1 h2 hst hA) (fun ma mn mc' md v L w h => doBt ma mn mc' md mb v L c 6 s1 s2 im w hG h (by omega) h1 h2 hA) (hG.pc _ (m32_bd _)) (.inl hst) rfl rfl rfl⟩
  | false => exact ⟨true, { c with pc := (c.pc + 4) % 4294967296 }, do_same (fun C L w h => exB6f C L c 0 s1 s2 im w hG h (by omega) h1 h2 hst hA) (fun ma mn mc' md v L w h => doBf ma mn mc' md mb v L c 6 s1 s2 im w hG h (by omega) h1 h2 hA) (hG.pc _ (m32_bd _)) (.inl hst) rfl rfl rfl⟩

theorem doIs_B7 (c : Mc) (mb : Int) (s1 s2 : Nat) (im : Int) (hG : Good c) (hst : c.st = 0) (h1 : s1 < 32) (h2 : s2 < 32) : ∃ f c', DoIs c mb 7 0 s1 s2 im f c' := by
  obtain ⟨t, hA⟩ := tak_any 7 (c.regs.getD s1 0) (c.regs.getD s2 0) (by omega) (hG.ru s1 h1) (hG.ru s2 h2)
  cases t with
  | true => exact ⟨true, { c with pc := (c.pc + im) % 4294967296 }, do_same (fun C L w h => exB7t C L c 0 s1 s2 im w hG h (by omega) h1 h2 hst hA) (fun ma mn mc' md v L w h => doBt ma mn mc' md mb v L c 7 s1 s2 im w hG h (by omega) h1 h2 hA) (hG.pc _ (m32_bd _)) (.inl hst) rfl rfl rfl⟩
  | false => exact ⟨true, { c with pc := (c.pc + 4) % 4294967296 }, do_same (fun C L w h => exB7f C L c 0 s1 s2 im w hG h (by omega) h1 h2 hst hA) (fun ma mn mc' md v L w h => doBf ma mn mc' md mb v L c 7 s1 s2 im w hG h (by omega) h1 h2 hA) (hG.pc _ (m32_bd _)) (.inl hst) rfl rfl rfl⟩

theorem doIs_B8 (c : Mc) (mb : Int) (s1 s2 : Nat) (im : Int) (hG : Good c) (hst : c.st = 0) (h1 : s1 < 32) (h2 : s2 < 32) : ∃ f c', DoIs c mb 8 0 s1 s2 im f c' := by
  obtain ⟨t, hA⟩ := tak_any 8 (c.regs.getD s1 0) (c.regs.getD s2 0) (by omega) (hG.ru s1 h1) (hG.ru s2 h2)
  cases t with
  | true => exact ⟨true, { c with pc := (c.pc + im) % 4294967296 }, do_same (fun C L w h => exB8t C L c 0 s1 s2 im w hG h (by omega) h1 h2 hst hA) (fun ma mn mc' md v L w h => doBt ma mn mc' md mb v L c 8 s1 s2 im w hG h (by omega) h1 h2 hA) (hG.pc _ (m32_bd _)) (.inl hst) rfl rfl rfl⟩
  | false => exact ⟨true, { c with pc := (c.pc + 4) % 4294967296 }, do_same (fun C L w h => exB8f C L c 0 s1 s2 im w hG h (by omega) h1 h2 hst hA) (fun ma mn mc' md v L w h => doBf ma mn mc' md mb v L c 8 s1 s2 im w hG h (by omega) h1 h2 hA) (hG.pc _ (m32_bd _)) (.inl hst) rfl rfl rfl⟩

theorem doIs_B9 (c : Mc) (mb : Int) (s1 s2 : Nat) (im : Int) (hG : Good c) (hst : c.st = 0) (h1 : s1 < 32) (h2 : s2 < 32) : ∃ f c', DoIs c mb 9 0 s1 s2 im f c' := by
  obtain ⟨t, hA⟩ := tak_any 9 (c.regs.getD s1 0) (c.regs.getD s2 0) (by omega) (hG.ru s1 h1) (hG.ru s2 h2)
  cases t with
  | true => exact ⟨true, { c with pc := (c.pc + im) % 4294967296 }, do_same (fun C L w h => exB9t C L c 0 s1 s2 im w hG h (by omega) h1 h2 hst hA) (fun ma mn mc' md v L w h => doBt ma mn mc' md mb v L c 9 s1 s2 im w hG h (by omega) h1 h2 hA) (hG.pc _ (m32_bd _)) (.inl hst) rfl rfl rfl⟩
  | false => exact ⟨true, { c with pc := (c.pc + 4) % 4294967296 }, do_same (fun C L w h => exB9f C L c 0 s1 s2 im w hG h (by omega) h1 h2 hst hA) (fun ma mn mc' md v L w h => doBf ma mn mc' md mb v L c 9 s1 s2 im w hG h (by omega) h1 h2 hA) (hG.pc _ (m32_bd _)) (.inl hst) rfl rfl rfl⟩

theorem doIs_Lw (c : Mc) (mb : Int) (rd s1 s2 : Nat) (im : Int) (hG : Good c) (hst : c.st = 0) (hrd : rd < 32) (h1 : s1 < 32) (h2 : s2 < 32) (hmb : mb = (c.stack.length : Int)) : ∃ f c', DoIs c mb 10 rd s1 s2 im f c' := by
  rcases mem_cases c ((c.regs.getD s1 0 + im) % 4294967296) with hm | ⟨m, hm⟩ | ⟨m, hm⟩
  · exact ⟨false, c, do_flt (fun C L w h => exLwF C L c rd s1 s2 im w hG h hrd h1 h2 hst hm) (fun ma mn mc' md v L w h => doLw ma mn mc' md mb v L c rd s1 s2 im w hG h hrd h1 h2 _ (fun w1 hv => (memF ma mn mc' md mb v L c 10 rd s1 s2 im w1 hG hv hrd h1 h2 hmb hm).mono (by rintro e w' ⟨u, he, hc, ht⟩; exact ⟨u, he, L, hc, fun x hx => .inl hx, ht⟩))) hG hst⟩
  · refine ⟨true, { setR c rd (word4 c.data m) with pc := (c.pc + 4) % 4294967296 }, do_same2 (fun C L w h => exLwD C L c rd s1 s2 im w hG h m hrd h1 h2 hst hm) (fun ma mn mc' md v L w h => doLw ma mn mc' md mb v L c rd s1 s2 im w hG h hrd h1 h2 _ (fun w1 hv => (memLD ma mn mc' md mb v L c rd s1 s2 im w1 hG hv m hrd h1 h2 hmb hm).mono (by rintro e w' ⟨u, he, hc, ht⟩; exact ⟨u, he, L, hc, fun x hx => .inl hx, ht⟩)))
      ((hG.setR rd _ hrd (word4_bd hG.du hm.2.2)).pc _ (m32_bd _)) (.inl (by dsimp only; rw [setR_st]; exact hst)) (setR_low _ _ _) (by unfold setR; split <;> rfl) (by unfold setR; split <;> rfl)⟩
  · refine ⟨true, { setR c rd (word4 c.stack m) with pc := (c.pc + 4) % 4294967296 }, do_same2 (fun C L w h => exLwS C L c rd s1 s2 im w hG h m hrd h1 h2 hst hm) (fun ma mn mc' md v L w h => doLw ma mn mc' md mb v L c rd s1 s2 im w hG h hrd h1 h2 _ (fun w1 hv => (memLS ma mn mc' md mb v L c rd s1 s2 im w1 hG hv m hrd h1 h2 hmb hm).mono (by rintro e w' ⟨u, he, hc, ht⟩; exact ⟨u, he, L, hc, fun x hx => .inl hx, ht⟩)))
      ((hG.setR rd _ hrd (word4_bd hG.su hm.2.2)).pc _ (m32_bd _)) (.inl (by dsimp only; rw [setR_st]; exact hst)) (setR_low _ _ _) (by unfold setR; split <;> rfl) (by unfold setR; split <;> rfl)⟩
theorem doIs_Sw (c : Mc) (mb : Int) (rd s1 s2 : Nat) (im : Int) (hG : Good c) (hst : c.st = 0) (hrd : rd < 32) (h1 : s1 < 32) (h2 : s2 < 32) (hmb : mb = (c.stack.length : Int)) : ∃ f c', DoIs c mb 11 rd s1 s2 im f c' := by
  rcases mem_cases c ((c.regs.getD s1 0 + im) % 4294967296) with hm | ⟨m, hm⟩ | ⟨m, hm⟩
  · exact ⟨false, c, do_flt (fun C L w h => exSwF C L c rd s1 s2 im w hG h hrd h1 h2 hst hm) (fun ma mn mc' md v L w h => doSw ma mn mc' md mb v L c rd s1 s2 im w hG h hrd h1 h2 _ (fun w1 hv => (memF ma mn mc' md mb v L c 11 rd s1 s2 im w1 hG hv hrd h1 h2 hmb hm).mono (by rintro e w' ⟨u, he, hc, ht⟩; exact ⟨u, he, L, hc, fun x hx => .inl hx, ht⟩))) hG hst⟩
  · refine ⟨true, { c with data := put4 c.data m (c.regs.getD s2 0), pc := (c.pc + 4) % 4294967296 }, do_same2 (fun C L w h => exSwD C L c rd s1 s2 im w hG h m hrd h1 h2 hst hm) (fun ma mn mc' md v L w h => doSw ma mn mc' md mb v L c rd s1 s2 im w hG h hrd h1 h2 _ (fun w1 hv => (memWD ma mn mc' md mb v L c rd s1 s2 im w1 hG hv m hrd h1 h2 hmb hm).mono (by rintro e w' ⟨u, he, hc, ht⟩; exact ⟨u, he, L, hc, fun x hx => .inl hx, ht⟩)))
      ((hG.dat m _ (hG.ru s2 h2)).pc _ (m32_bd _)) (.inl hst) rfl (put4_len _ _ _) rfl⟩
  · refine ⟨true, { c with stack := put4 c.stack m (c.regs.getD s2 0), pc := (c.pc + 4) % 4294967296 }, do_same2 (fun C L w h => exSwS C L c rd s1 s2 im w hG h m hrd h1 h2 hst hm) (fun ma mn mc' md v L w h => doSw ma mn mc' md mb v L c rd s1 s2 im w hG h hrd h1 h2 _ (fun w1 hv => (memWS ma mn mc' md mb v L c rd s1 s2 im w1 hG hv m hrd h1 h2 hmb hm).mono (by rintro e w' ⟨u, he, hc, ht⟩; exact ⟨u, he, L, hc, fun x hx => .inl hx, ht⟩)))
      ((hG.stk m _ (hG.ru s2 h2)).pc _ (m32_bd _)) (.inl hst) rfl rfl (put4_len _ _ _)⟩

theorem doIs_E (c : Mc) (mb : Int) (rd s1 s2 : Nat) (im : Int) (hG : Good c) (hst : c.st = 0) (hrd : rd < 32) (h1 : s1 < 32) (h2 : s2 < 32) : ∃ f c', DoIs c mb 34 rd s1 s2 im f c' := by
  by_cases q10 : c.regs.getD 17 0 = 10
  · exact ⟨true, { c with st := 1 }, do_same2 (fun C L w h => exEhalt C L c rd s1 s2 im w hG h q10 hrd h1 h2 hst) (fun ma mn mc' md v L w h => doE ma mn mc' md mb v L c rd s1 s2 im w hG h hrd h1 h2 _ (fun w1 hv => (ecHalt v L c w1 hG hv q10).mono (by rintro e w' ⟨u, he, hc, ht⟩; exact ⟨u, he, L, hc, fun x hx => .inl hx, ht⟩))) (hG.stt 1 (by omega)) (.inr rfl) rfl rfl rfl⟩
  by_cases q1 : c.regs.getD 17 0 = 1
  · by_cases ho : c.out.length < 1000000
    · refine ⟨true, { c with out := c.out ++ [wrap32 (c.regs.getD 10 0)], pc := (c.pc + 4) % 4294967296 }, ?_, ?_, fun h => (by cases h), (hG.out ho (w32_in _)).pc _ (m32_bd _), .inl hst, rfl, rfl, rfl⟩
      · exact fun C L w h => exEout C L c rd s1 s2 im w hG h q1 ho hrd h1 h2 hst
      · intro ma mn mc' md v L w h
        rw [if_pos rfl]
        exact doE ma mn mc' md mb v L c rd s1 s2 im w hG h hrd h1 h2 _ (fun w1 hv => ecOut v L c w1 hG hv q1 ho)
    · have ho2 : c.out.length = 1000000 := by have := hG.ol; omega
      exact ⟨false, c, do_flt (fun C L w h => exEfull C L c rd s1 s2 im w hG h q1 (Nat.le_of_eq ho2.symm) hrd h1 h2 hst) (fun ma mn mc' md v L w h => doE ma mn mc' md mb v L c rd s1 s2 im w hG h hrd h1 h2 _ (fun w1 hv => (ecFull v L c w1 hG hv q1 ho2).mono (by rintro e w' ⟨u, he, hc, ht⟩; exact ⟨u, he, L, hc, fun x hx => .inl hx, ht⟩))) hG hst⟩
  by_cases q2 : c.regs.getD 17 0 = 2
  · cases hi : c.inn with
    | nil =>
      exact ⟨true, { c with regs := c.regs.set 10 0, pc := (c.pc + 4) % 4294967296 }, do_same2 (fun C L w h => exEin0 C L c rd s1 s2 im w hG h q2 hi hrd h1 h2 hst) (fun ma mn mc' md v L w h => doE ma mn mc' md mb v L c rd s1 s2 im w hG h hrd h1 h2 _ (fun w1 hv => (ecIn0 v L c w1 hG hv q2 hi).mono (by rintro e w' ⟨u, he, hc, ht⟩; exact ⟨u, he, L, hc, fun x hx => .inl hx, ht⟩))) ((hG.set10 0 (by omega)).pc _ (m32_bd _)) (.inl hst) rfl rfl rfl⟩
    | cons z is =>
      refine ⟨true, { c with regs := c.regs.set 10 (z % 4294967296), inn := is, pc := (c.pc + 4) % 4294967296 }, ?_, ?_, fun h => (by cases h), ((hG.inn hi).set10 _ (m32_bd _)).pc _ (m32_bd _), .inl hst, rfl, rfl, rfl⟩
      · exact fun C L w h => (exEin1 C L c rd s1 s2 im w hG h z is q2 hi hrd h1 h2 hst).mono (by rintro e w' ⟨he, L', hc, hl, ht⟩; exact ⟨he, L', hc, fun g hg => .inl (hl g hg), ht⟩)
      · intro ma mn mc' md v L w h
        rw [if_pos rfl]
        exact doE ma mn mc' md mb v L c rd s1 s2 im w hG h hrd h1 h2 _ (fun w1 hv => (ecIn1 v L c w1 hG hv z is q2 hi).mono (by rintro e w' ⟨u, he, L', hc, hl, ht⟩; exact ⟨u, he, L', hc, fun g hg => .inl (hl g hg), ht⟩))
  · exact ⟨false, c, do_flt (fun C L w h => exEelse C L c rd s1 s2 im w hG h ⟨q1, q2, q10⟩ hrd h1 h2 hst) (fun ma mn mc' md v L w h => doE ma mn mc' md mb v L c rd s1 s2 im w hG h hrd h1 h2 _ (fun w1 hv => (ecElse v L c w1 hG hv ⟨q1, q2, q10⟩).mono (by rintro e w' ⟨u, he, hc, ht⟩; exact ⟨u, he, L, hc, fun x hx => .inl hx, ht⟩))) hG hst⟩
theorem do_any (c : Mc) (mb k a b s d : Int) (hG : Good c) (hst : c.st = 0) (hmb : mb = (c.stack.length : Int)) (hk : 1 ≤ k ∧ k ≤ 34) (ha : 0 ≤ a ∧ a < 32) (hb : 0 ≤ b ∧ b < 32) (hs : 0 ≤ s ∧ s < 32) (hB : 4 ≤ k ∧ k ≤ 9 → a = 0) :
    ∃ f c', DoIs c mb k a b s d f c' := by
  obtain ⟨rd, rfl⟩ := Int.eq_ofNat_of_zero_le ha.1
  obtain ⟨s1, rfl⟩ := Int.eq_ofNat_of_zero_le hb.1
  obtain ⟨s2, rfl⟩ := Int.eq_ofNat_of_zero_le hs.1
  by_cases hR : 21 ≤ k ∧ k ≤ 33
  · exact doIs_R c mb k rd s1 s2 d hG hst (by omega) (by omega) (by omega) hR
  by_cases hb9 : 4 ≤ k ∧ k ≤ 9
  · have h0 := hB hb9
    obtain rfl : rd = 0 := by omega
    have : k = 4 ∨ k = 5 ∨ k = 6 ∨ k = 7 ∨ k = 8 ∨ k = 9 := by omega
    rcases this with rfl | rfl | rfl | rfl | rfl | rfl
    · exact doIs_B4 c mb s1 s2 d hG hst (by omega) (by omega)
    · exact doIs_B5 c mb s1 s2 d hG hst (by omega) (by omega)
    · exact doIs_B6 c mb s1 s2 d hG hst (by omega) (by omega)
    · exact doIs_B7 c mb s1 s2 d hG hst (by omega) (by omega)
    · exact doIs_B8 c mb s1 s2 d hG hst (by omega) (by omega)
    · exact doIs_B9 c mb s1 s2 d hG hst (by omega) (by omega)
  have : k = 1 ∨ k = 2 ∨ k = 3 ∨ k = 10 ∨ k = 11 ∨ k = 12 ∨ k = 13 ∨ k = 14 ∨ k = 15 ∨ k = 16 ∨ k = 17 ∨ k = 18 ∨ k = 19 ∨ k = 20 ∨ k = 34 := by omega
  rcases this with rfl | rfl | rfl | rfl | rfl | rfl | rfl | rfl | rfl | rfl | rfl | rfl | rfl | rfl | rfl
  · exact doIs_U c mb rd s1 s2 d hG hst (by omega) (by omega) (by omega)
  · exact doIs_J c mb rd s1 s2 d hG hst (by omega) (by omega) (by omega)
  · exact doIs_Jr c mb rd s1 s2 d hG hst (by omega) (by omega) (by omega)
  · exact doIs_Lw c mb rd s1 s2 d hG hst (by omega) (by omega) (by omega) hmb
  · exact doIs_Sw c mb rd s1 s2 d hG hst (by omega) (by omega) (by omega) hmb
  · exact doIs_I12 c mb rd s1 s2 d hG hst (by omega) (by omega) (by omega)
  · exact doIs_I13 c mb rd s1 s2 d hG hst (by omega) (by omega) (by omega)
  · exact doIs_I14 c mb rd s1 s2 d hG hst (by omega) (by omega) (by omega)
  · exact doIs_I15 c mb rd s1 s2 d hG hst (by omega) (by omega) (by omega)
  · exact doIs_I16 c mb rd s1 s2 d hG hst (by omega) (by omega) (by omega)
  · exact doIs_I17 c mb rd s1 s2 d hG hst (by omega) (by omega) (by omega)
  · exact doIs_I18 c mb rd s1 s2 d hG hst (by omega) (by omega) (by omega)
  · exact doIs_I19 c mb rd s1 s2 d hG hst (by omega) (by omega) (by omega)
  · exact doIs_I20 c mb rd s1 s2 d hG hst (by omega) (by omega) (by omega)
  · exact doIs_E c mb rd s1 s2 d hG hst (by omega) (by omega) (by omega)

end Go.Proofs.YtabjcodpagjbjaaGreat

namespace Go.Proofs.YtabjcodpagjbjaaGreat
open Go.RowKit
set_option linter.unusedVariables false
set_option linter.unusedSectionVars false
set_option linter.unusedSimpArgs false

/-- What is read out of a word. -/
structure Dec where
  o : Bool
  k : Int
  a : Int
  b : Int
  s : Int
  d : Int
def Dec.no : Dec := ⟨false, 0, 0, 0, 0, 0⟩
def Dec.val (x : Dec) : Value := .agg #[.bool x.o, .int .i64 x.k, .int .i64 x.a, .int .i64 x.b, .int .i64 x.s, .int .i64 x.d]
def DecOk (v : Int) (x : Dec) : Prop := DecIs v x.o x.k x.a x.b x.s x.d
/-- What chooses, given to all that wants it; the last theorem gives it. -/
structure Pick : Type 1 where
  get : (α : Type) → Nonempty α → α
theorem pick_ne {α : Type} (d : α) (p : α → Prop) : Nonempty {x : α // (∃ y, p y) → p x} := by
  by_cases h : ∃ y, p y
  · obtain ⟨y, hy⟩ := h
    exact ⟨⟨y, fun _ => hy⟩⟩
  · exact ⟨⟨d, fun h' => absurd h' h⟩⟩
variable [Inhabited Pick]
def eps {α : Type} (d : α) (p : α → Prop) : α := ((default : Pick).get {x : α // (∃ y, p y) → p x} (pick_ne d p)).1
theorem eps_spec {α : Type} {d : α} {p : α → Prop} (h : ∃ x, p x) : p (eps d p) := ((default : Pick).get {x : α // (∃ y, p y) → p x} (pick_ne d p)).2 h
def decOf (v : Int) : Dec := eps Dec.no (DecOk v)
theorem decOf_ok (v : Int) (hv : 0 ≤ v ∧ v ≤ 4294967295) : DecOk v (decOf v) := by
  obtain ⟨o, k, a, b, c, d, h⟩ := dec_both v hv
  exact eps_spec ⟨⟨o, k, a, b, c, d⟩, h⟩
def wordAt (codes : List Int) (pc : Int) : Option Int := if 4096 ≤ pc ∧ (pc - 4096) % 4 = 0 ∧ (pc - 4096) / 4 < codes.length then some (codes.getD ((pc - 4096) / 4).toNat 0) else none
def fetchM (codes : List Int) (pc : Int) : Dec := match wordAt codes pc with | some v => decOf v | none => Dec.no
def CodesOk (codes : List Int) : Prop := codes.length ≤ 20000 ∧ ∀ j, j < codes.length → 0 ≤ codes.getD j 0 ∧ codes.getD j 0 ≤ 4294967295
/-- Both programs' step from c leads to nx. -/
def StepIs (codes : List Int) (mb : Int) (c nx : Mc) : Prop :=
  (∀ C L w, CpuIn w C L c → Calls Tryz.prog 29 #[.pointer (some ⟨C, 0, none⟩), (fetchM codes c.pc).val] w fun e w' => e = .returned (.tuple #[]) ∧ ∃ L', CpuIn w' C L' nx ∧ (∀ g ∈ L', g ∈ L ∨ w.heap.size ≤ g) ∧ Tcs (fun g => g ∈ L) w w') ∧
  (∀ ma mn mc' md v L w, CpuV w v L c → Lis .u32 w (.slice ma mn mc') codes → Calls Tryz.prog 19 #[.agg #[.slice ma mn mc', .int .i64 md, .int .i64 mb], v] w fun e w' => ∃ u, e = .returned u ∧ ∃ L', CpuV w' u L' nx ∧ (∀ x ∈ L', x ∈ L ∨ w.heap.size ≤ x) ∧ Tcs (fun g => g ∈ L) w w') ∧
  Good nx ∧ nx.data.length = c.data.length ∧ nx.stack.length = c.stack.length ∧ nx.low ≤ (if nx.st = 2 then nx.low else nx.regs.getD 2 0)
theorem lis_len {k : IntKind} {w : World} {a : Option Addr} {n m : Nat} {zs : List Int} (h : Lis k w (.slice a n m) zs) : n = zs.length := by
  obtain ⟨x, y, e⟩ := h.len0
  simp only [Value.slice.injEq] at e
  exact e.2.1
theorem Good.lowM {c : Mc} (h : Good c) : Good (lowM c) := by
  unfold Go.Proofs.YtabjcodpagjbjaaGreat.lowM
  have h2 := h.ru 2 (by omega)
  have hl := h.lou
  exact h.low _ (by split <;> assumption)
theorem lowM_le (c : Mc) : (lowM c).low ≤ (if (lowM c).st = 2 then (lowM c).low else (lowM c).regs.getD 2 0) := by
  unfold lowM
  dsimp only
  split <;> split <;> omega
theorem step_any (codes : List Int) (mb : Int) (c : Mc) (hG : Good c) (hst : c.st = 0) (hmb : mb = (c.stack.length : Int)) (hco : CodesOk codes) : ∃ nx, StepIs codes mb c nx := by
  by_cases hw : 4096 ≤ c.pc ∧ (c.pc - 4096) % 4 = 0 ∧ (c.pc - 4096) / 4 < codes.length
  · obtain ⟨n, hn⟩ := Int.eq_ofNat_of_zero_le (show 0 ≤ (c.pc - 4096) / 4 by omega)
    have hnl : n < codes.length := by omega
    have hp : c.pc = 4096 + 4 * (n : Int) := by omega
    have hfe : fetchM codes c.pc = decOf (codes.getD n 0) := by
      unfold fetchM wordAt
      rw [if_pos hw, hn]
      rfl
    have hx := decOf_ok (codes.getD n 0) (hco.2 n hnl)
    generalize decOf (codes.getD n 0) = x at *
    obtain ⟨o, k, a, b, s, d⟩ := x
    cases o with
    | false =>
      refine ⟨{ c with st := 2 }, ?_, ?_, hG.stt 2 (by omega), rfl, rfl, by dsimp only; simp⟩
      · intro C L w h
        rw [hfe]
        exact adv_no C L c k a b s d w h
      · intro ma mn mc' md v L w h hc
        exact st_bad ma mn mc' md mb v L c w hG h hst n codes hc hco.1 hnl hp k a b s d hx
    | true =>
      obtain ⟨hk, ha, hb, hs, hB⟩ := hx.2.2.2.1 rfl
      obtain ⟨f, c', hD⟩ := do_any c mb k a b s d hG hst hmb hk ha hb hs hB
      cases f with
      | false =>
        refine ⟨{ c with st := 2 }, ?_, ?_, hG.stt 2 (by omega), rfl, rfl, by dsimp only; simp⟩
        · intro C L w h
          rw [hfe]
          exact adv_flt C L c c' mb k a b s d w h hD
        · intro ma mn mc' md v L w h hc
          exact st_do2 ma mn mc' md mb v L c w hG h hst n codes hc hco.1 hnl hp k a b s d hx { c with st := 2 } hG.r32 (fun w1 hv => (by simpa using hD.2.1 ma mn mc' md v L w1 hv)) rfl
      | true =>
        have hg' := hD.2.2.2.1
        have hst' := hD.2.2.2.2.1
        refine ⟨lowM c', ?_, ?_, hg'.lowM, hD.2.2.2.2.2.2.1, hD.2.2.2.2.2.2.2, lowM_le c'⟩
        · intro C L w h
          rw [hfe]
          exact adv_ok C L c c' mb k a b s d w h hD
        · intro ma mn mc' md v L w h hc
          exact st_do1 ma mn mc' md mb v L c w hG h hst n codes hc hco.1 hnl hp k a b s d hx c' hg'.r32 (fun w1 hv => (by simpa using hD.2.1 ma mn mc' md v L w1 hv)) (by omega)
  · have hfe : fetchM codes c.pc = Dec.no := by
      unfold fetchM wordAt
      rw [if_neg hw]
    refine ⟨{ c with st := 2 }, ?_, ?_, hG.stt 2 (by omega), rfl, rfl, by dsimp only; simp⟩
    · intro C L w h
      rw [hfe]
      exact adv_no C L c 0 0 0 0 0 w h
    · intro ma mn mc' md v L w h hc
      have hl := lis_len hc
      by_cases h1 : c.pc < 4096
      · exact st_outA ma mn mc' md mb v L c w hG h hst h1
      by_cases h2 : (c.pc - 4096) % 4 = 0
      · exact st_outC ma mn mc' md mb v L c w hG h hst (by omega) h2 (by omega)
      · exact st_outB ma mn mc' md mb v L c w hG h hst (by omega) h2
def nextM (codes : List Int) (mb : Int) (c : Mc) : Mc := eps zeroM (StepIs codes mb c)
theorem nextM_ok (codes : List Int) (mb : Int) (c : Mc) (hG : Good c) (hst : c.st = 0) (hmb : mb = (c.stack.length : Int)) (hco : CodesOk codes) : StepIs codes mb c (nextM codes mb c) :=
  eps_spec (step_any codes mb c hG hst hmb hco)
def runM (codes : List Int) (mb : Int) (c : Mc) : Nat → Mc
  | 0 => c
  | n + 1 => if (runM codes mb c n).st = 0 then nextM codes mb (runM codes mb c n) else runM codes mb c n
theorem runM_good (codes : List Int) (mb : Int) (c : Mc) (hG : Good c) (hmb : mb = (c.stack.length : Int)) (hco : CodesOk codes) : ∀ n, Good (runM codes mb c n) ∧ (runM codes mb c n).data.length = c.data.length ∧ (runM codes mb c n).stack.length = c.stack.length
  | 0 => ⟨hG, rfl, rfl⟩
  | n + 1 => by
    obtain ⟨h1, h2, h3⟩ := runM_good codes mb c hG hmb hco n
    rw [show runM codes mb c (n + 1) = (if (runM codes mb c n).st = 0 then nextM codes mb (runM codes mb c n) else runM codes mb c n) from rfl]
    split
    · rename_i h0
      have hs := nextM_ok codes mb _ h1 h0 (by rw [h3]; exact hmb) hco
      exact ⟨hs.2.2.1, hs.2.2.2.1.trans h2, hs.2.2.2.2.1.trans h3⟩
    · exact ⟨h1, h2, h3⟩
theorem runM_stop (codes : List Int) (mb : Int) (c : Mc) (n : Nat) (h : ¬ (runM codes mb c n).st = 0) : ∀ m, runM codes mb c (n + m) = runM codes mb c n
  | 0 => rfl
  | m + 1 => by
    have ih := runM_stop codes mb c n h m
    rw [← Nat.add_assoc]
    show (if (runM codes mb c (n + m)).st = 0 then _ else _) = _
    rw [ih, if_neg h]

end Go.Proofs.YtabjcodpagjbjaaGreat
