import Derived.Test.YtabjcodpagjbjaaP08
import Derived.Test.YtabjcodpagjbjaaP07
import Derived.Test.YtabjcodpagjbjaaP05
namespace Go.Proofs.Ytabjcodpagjbjaa
open Go.RowKit
set_option linter.unusedVariables false
set_option linter.unusedSimpArgs false

set_option maxRecDepth 8000 in
set_option maxHeartbeats 1000000 in
theorem exEin1 (C : Nat) (L : List Nat) (c : Mc)  (rd s1 s2 : Nat) (im : Int) (w : World) (hG : Good c) (h : CpuIn w C L c) (z : Int) (is : List Int) (h17 : c.regs.getD 17 0 = 2) (hi0 : c.inn = z :: is) (hrd : rd < 32) (h1 : s1 < 32) (h2 : s2 < 32)
    (hst : c.st = 0)  :
    Calls Try.prog 58 #[.pointer (some ⟨C, 0, none⟩), .agg #[.int .i64 34, .int .i64 rd, .int .i64 s1, .int .i64 s2, .int .i64 im]] w fun e w' =>
      e = .returned (.bool true) ∧ ∃ L', CpuIn w' C L' { c with regs := c.regs.set 10 (z % 4294967296), inn := is, pc := (c.pc + 4) % 4294967296 } ∧ (∀ g ∈ L', g ∈ L) ∧ Tcs (fun g => g ∈ L) w w' := by
  have T0 := (Tcs.refl (fun g => g ∈ L) w).alloc (.cells #[.int .i64 34, .int .i64 rd, .int .i64 s1, .int .i64 s2, .int .i64 im] 64)
  have h0 := h.below ((Below.refl w.heap.size w).alloc (Nat.le_refl _) (.cells #[.int .i64 34, .int .i64 rd, .int .i64 s1, .int .i64 s2, .int .i64 im] 64))
  obtain ⟨rv, d, s, i, o, hb, hr, hd, hs, hi, ho, hk, hL, hnd⟩ := id h0
  obtain ⟨g, off, cap, rfl, hR, hbk⟩ := lis_some hr (by have := hG.r32; omega)
  have e32 := hG.r32
  have c0 := hb.c0
  rw [e32] at c0
  have c1 := hb.c1
  have cs1 := hR.cell s1 (by omega)
  have cs2 := hR.cell s2 (by omega)
  have X0 : ∀ {W : World}, Tcs (fun g => g ∈ L) (w.alloc (.cells #[.int .i64 34, .int .i64 rd, .int .i64 s1, .int .i64 s2, .int .i64 im] 64)) W → W.cell? ⟨w.heap.size, 0, none⟩ = some (.int .i64 34) ∧ W.cell? ⟨w.heap.size, 1, none⟩ = some (.int .i64 rd) := by
    intro W hW
    have hkb := hW.block w.heap.size (by simp) (fun hm => by have := h.lt _ hm; omega)
    constructor <;> (rw [World.cell?_of_block (w := w.alloc _) hkb]; simp)
  have HS : Hid (∀ W v, Below (w.alloc (.cells #[.int .i64 34, .int .i64 rd, .int .i64 s1, .int .i64 s2, .int .i64 im] 64)).heap.size (w.alloc (.cells #[.int .i64 34, .int .i64 rd, .int .i64 s1, .int .i64 s2, .int .i64 im] 64)) W →
      Calls Try.prog 71 #[.pointer (some ⟨C, 0, none⟩), .int .i64 rd, .int .u32 v] W fun e w' => e = .returned (.tuple #[]) ∧ CpuIn w' C L (setR c rd v) ∧ Tcs (fun g => g ∈ L) w w' ∧ (w'.cell? ⟨w.heap.size, 0, none⟩ = some (.int .i64 34) ∧ w'.cell? ⟨w.heap.size, 1, none⟩ = some (.int .i64 rd))) := by
    intro W v hW
    refine (setReg_any C L c rd v W hG.r32 (by omega) (h0.below hW)).mono ?_
    rintro e w' ⟨rfl, hc, ht⟩
    have t1 := (Below.tcs (S := fun g => g ∈ L) hW).trans ht
    exact ⟨rfl, hc, T0.trans t1, X0 t1⟩
  have X00 := X0 (Tcs.refl _ _)
  have HM : Hid (∀ W, Below (w.alloc (.cells #[.int .i64 34, .int .i64 rd, .int .i64 s1, .int .i64 s2, .int .i64 im] 64)).heap.size (w.alloc (.cells #[.int .i64 34, .int .i64 rd, .int .i64 s1, .int .i64 s2, .int .i64 im] 64)) W → Calls Try.prog 76 #[.pointer (some ⟨C, 0, none⟩)] W fun e w' => e = .returned (.bool true) ∧ (∃ L', CpuIn w' C L' { c with regs := c.regs.set 10 (z % 4294967296), inn := is } ∧ (∀ g ∈ L', g ∈ L) ∧ Tcs (fun g => g ∈ L) w w')) := by
    intro W hW
    refine (cs_in1 C L c W hG (h0.below hW) z is h17 hi0).mono ?_
    rintro e w' ⟨rfl, L', k1, k3, k2⟩
    exact ⟨rfl, L', k1, k3, (T0.trans (Below.tcs hW)).trans k2⟩
  clear hb hr hR hd hs hi ho hk hL hnd hbk h h0 T0 X0
  generalize hx1 : c.regs.getD s1 0 = a at cs1
  generalize hx2 : c.regs.getD s2 0 = b at cs2
  go_enter Try.func58, Try.ntmps58
  go_wp2_with fail
  go_quiet (fail)
  go_wp2_with fail
  refine (HM.out _ ?_).mono ?_
  · exact below_drewN (Below.refl _ _) _
  rintro e w2 ⟨rfl, L', hc2, hk2, ht2⟩
  obtain ⟨rv, d2, s2', i2, o2, hb2, _, _, _, _, _, _, _⟩ := id hc2
  have q1 := hb2.c1
  have q7 := hb2.c7
  have qf := hb2.fz 1
  dsimp only at q1 q7
  rw [hst] at q7
  have HE : Hid _ := And.intro hc2 ht2
  clear hb2 hc2 ht2
  have HK : Hid _ := hk2
  clear hk2
  go_wp2
  go_ret
  exact ⟨rfl, L', HE.out.1.pc _, HK.out, HE.out.2.setCell (HK.out C HE.out.1.mem) _⟩


set_option maxRecDepth 8000 in
set_option maxHeartbeats 1000000 in
theorem exEout (C : Nat) (L : List Nat) (c : Mc)  (rd s1 s2 : Nat) (im : Int) (w : World) (hG : Good c) (h : CpuIn w C L c) (h17 : c.regs.getD 17 0 = 1) (ho1 : Hid (c.out.length < 1000000)) (hrd : rd < 32) (h1 : s1 < 32) (h2 : s2 < 32)
    (hst : c.st = 0)  :
    Calls Try.prog 58 #[.pointer (some ⟨C, 0, none⟩), .agg #[.int .i64 34, .int .i64 rd, .int .i64 s1, .int .i64 s2, .int .i64 im]] w fun e w' =>
      e = .returned (.bool true) ∧ ∃ L', CpuIn w' C L' { c with out := c.out ++ [wrap32 (c.regs.getD 10 0)], pc := (c.pc + 4) % 4294967296 } ∧ (∀ g ∈ L', g ∈ L ∨ w.heap.size ≤ g) ∧ Tcs (fun g => g ∈ L) w w' := by
  have T0 := (Tcs.refl (fun g => g ∈ L) w).alloc (.cells #[.int .i64 34, .int .i64 rd, .int .i64 s1, .int .i64 s2, .int .i64 im] 64)
  have h0 := h.below ((Below.refl w.heap.size w).alloc (Nat.le_refl _) (.cells #[.int .i64 34, .int .i64 rd, .int .i64 s1, .int .i64 s2, .int .i64 im] 64))
  obtain ⟨rv, d, s, i, o, hb, hr, hd, hs, hi, ho, hk, hL, hnd⟩ := id h0
  obtain ⟨g, off, cap, rfl, hR, hbk⟩ := lis_some hr (by have := hG.r32; omega)
  have e32 := hG.r32
  have c0 := hb.c0
  rw [e32] at c0
  have c1 := hb.c1
  have cs1 := hR.cell s1 (by omega)
  have cs2 := hR.cell s2 (by omega)
  have X0 : ∀ {W : World}, Tcs (fun g => g ∈ L) (w.alloc (.cells #[.int .i64 34, .int .i64 rd, .int .i64 s1, .int .i64 s2, .int .i64 im] 64)) W → W.cell? ⟨w.heap.size, 0, none⟩ = some (.int .i64 34) ∧ W.cell? ⟨w.heap.size, 1, none⟩ = some (.int .i64 rd) := by
    intro W hW
    have hkb := hW.block w.heap.size (by simp) (fun hm => by have := h.lt _ hm; omega)
    constructor <;> (rw [World.cell?_of_block (w := w.alloc _) hkb]; simp)
  have HS : Hid (∀ W v, Below (w.alloc (.cells #[.int .i64 34, .int .i64 rd, .int .i64 s1, .int .i64 s2, .int .i64 im] 64)).heap.size (w.alloc (.cells #[.int .i64 34, .int .i64 rd, .int .i64 s1, .int .i64 s2, .int .i64 im] 64)) W →
      Calls Try.prog 71 #[.pointer (some ⟨C, 0, none⟩), .int .i64 rd, .int .u32 v] W fun e w' => e = .returned (.tuple #[]) ∧ CpuIn w' C L (setR c rd v) ∧ Tcs (fun g => g ∈ L) w w' ∧ (w'.cell? ⟨w.heap.size, 0, none⟩ = some (.int .i64 34) ∧ w'.cell? ⟨w.heap.size, 1, none⟩ = some (.int .i64 rd))) := by
    intro W v hW
    refine (setReg_any C L c rd v W hG.r32 (by omega) (h0.below hW)).mono ?_
    rintro e w' ⟨rfl, hc, ht⟩
    have t1 := (Below.tcs (S := fun g => g ∈ L) hW).trans ht
    exact ⟨rfl, hc, T0.trans t1, X0 t1⟩
  have X00 := X0 (Tcs.refl _ _)
  have HB : Hid (C ∈ L) := h0.mem
  have HM : Hid (∀ W, Below (w.alloc (.cells #[.int .i64 34, .int .i64 rd, .int .i64 s1, .int .i64 s2, .int .i64 im] 64)).heap.size (w.alloc (.cells #[.int .i64 34, .int .i64 rd, .int .i64 s1, .int .i64 s2, .int .i64 im] 64)) W → Calls Try.prog 76 #[.pointer (some ⟨C, 0, none⟩)] W fun e w' => e = .returned (.bool true) ∧ (∃ L', CpuIn w' C L' { c with out := c.out ++ [wrap32 (c.regs.getD 10 0)] } ∧ (∀ g ∈ L', g ∈ L ∨ w.heap.size ≤ g) ∧ Tcs (fun g => g ∈ L) w w')) := by
    intro W hW
    refine (cs_out C L c W hG (h0.below hW) h17 ho1).mono ?_
    rintro e w' ⟨rfl, L', k1, k3, k2⟩
    exact ⟨rfl, L', k1, fun g hg => (k3 g hg).imp id (fun h => Nat.le_trans (by have := hW.size; simp at this; omega) h), (T0.trans (Below.tcs hW)).trans k2⟩
  clear hb hr hR hd hs hi ho hk hL hnd hbk h h0 T0 X0
  generalize hx1 : c.regs.getD s1 0 = a at cs1
  generalize hx2 : c.regs.getD s2 0 = b at cs2
  go_enter Try.func58, Try.ntmps58
  go_wp2_with fail
  go_quiet (fail)
  go_wp2_with fail
  refine (HM.out _ ?_).mono ?_
  · exact below_drewN (Below.refl _ _) _
  rintro e w2 ⟨rfl, L', hc2, hk2, ht2⟩
  obtain ⟨rv, d2, s2', i2, o2, hb2, _, _, _, _, _, _, _⟩ := id hc2
  have q1 := hb2.c1
  have q7 := hb2.c7
  have qf := hb2.fz 1
  dsimp only at q1 q7
  rw [hst] at q7
  have HE : Hid _ := And.intro hc2 ht2
  clear hb2 hc2 ht2
  have HK : Hid _ := hk2
  clear hk2
  go_wp2
  go_ret
  exact ⟨rfl, L', HE.out.1.pc _, HK.out, HE.out.2.setCell (HB.out) _⟩

end Go.Proofs.Ytabjcodpagjbjaa

namespace Go.Proofs.Ytabjcodpagjbjaa
open Go.RowKit
set_option linter.unusedVariables false
set_option linter.unusedSimpArgs false

set_option maxRecDepth 8000 in
set_option maxHeartbeats 1000000 in
theorem doBt (ma : Option Addr) (mn mc' : Nat) (md mb : Int) (v : Value) (L : List Nat) (c : Mc) (op : Int) (s1 s2 : Nat) (im : Int) (w : World) (hG : Good c) (h : CpuV w v L c) (hop : 4 ≤ op ∧ op ≤ 9) (h1 : s1 < 32) (h2 : s2 < 32)
    (hA : TakIs op (c.regs.getD s1 0) (c.regs.getD s2 0) true) :
    Calls Try.prog 62 #[.agg #[.slice ma mn mc', .int .i64 md, .int .i64 mb], v, .agg #[.int .i64 op, .int .i64 0, .int .i64 s1, .int .i64 s2, .int .i64 im]] w fun e w' =>
      ∃ u, e = .returned u ∧ CpuV w' u L { c with pc := (c.pc + im) % 4294967296 } ∧ Tcs (fun g => g ∈ L) w w' := by
  obtain ⟨g, off, y1, n2, n3, n4, n5, x2, y2, x3, y3, x4, y4, x5, y5, rfl, hbk⟩ := h.shape32 hG.r32
  have A4 : Below w.heap.size w ((((w.alloc (.cells #[.slice ma mn mc', .int .i64 md, .int .i64 mb] 25)).alloc (.cells #[.slice (some ⟨g, off, none⟩) 32 y1, .int .u32 c.pc, .slice x2 n2 y2, .slice x3 n3 y3, .slice x4 n4 y4, .slice x5 n5 y5, .int .u32 c.low, .int .i64 c.st] 32)).alloc (.cells #[.int .i64 op, .int .i64 0, .int .i64 s1, .int .i64 s2, .int .i64 im] 64)).alloc (.cells #[.slice none 0 0, .int .u32 0, .slice none 0 0, .slice none 0 0, .slice none 0 0, .slice none 0 0, .int .u32 0, .int .i64 0] 32)) := ((((Below.refl _ _).alloc (Nat.le_refl _) _).alloc (by simp) _).alloc (by simp; omega) _).alloc (by simp; omega) _
  have hCb : ((((w.alloc (.cells #[.slice ma mn mc', .int .i64 md, .int .i64 mb] 25)).alloc (.cells #[.slice (some ⟨g, off, none⟩) 32 y1, .int .u32 c.pc, .slice x2 n2 y2, .slice x3 n3 y3, .slice x4 n4 y4, .slice x5 n5 y5, .int .u32 c.low, .int .i64 c.st] 32)).alloc (.cells #[.int .i64 op, .int .i64 0, .int .i64 s1, .int .i64 s2, .int .i64 im] 64)).alloc (.cells #[.slice none 0 0, .int .u32 0, .slice none 0 0, .slice none 0 0, .slice none 0 0, .slice none 0 0, .int .u32 0, .int .i64 0] 32)).heap[w.heap.size + 1]? = some (.cells #[.slice (some ⟨g, off, none⟩) 32 y1, .int .u32 c.pc, .slice x2 n2 y2, .slice x3 n3 y3, .slice x4 n4 y4, .slice x5 n5 y5, .int .u32 c.low, .int .i64 c.st] 32) := by
    rw [Below.heap_alloc _ _ _ (by simp), Below.heap_alloc _ _ _ (by simp)]
    have := heap_alloc_new (w.alloc (.cells #[.slice ma mn mc', .int .i64 md, .int .i64 mb] 25)) (.cells #[.slice (some ⟨g, off, none⟩) 32 y1, .int .u32 c.pc, .slice x2 n2 y2, .slice x3 n3 y3, .slice x4 n4 y4, .slice x5 n5 y5, .int .u32 c.low, .int .i64 c.st] 32)
    simpa only [World.size_alloc] using this
  have hI := h.boxed A4 hCb (by omega)
  obtain ⟨rv, d, s, i, o, hb, hr, hd, hs, hi, ho, hk, hL, hnd⟩ := id hI
  obtain rfl := Option.some.inj (hb.c0.symm.trans (Bx.of_heap hCb).c0)
  have hR := row_of hr hG.r32
  have cs1 := hR.cell s1 (by have := hG.r32; omega)
  have cs2 := hR.cell s2 (by have := hG.r32; omega)
  have hgw : g < w.heap.size := h.lt g hbk
  have e1 : ¬ g = w.heap.size := by omega
  have e2 : ¬ g = w.heap.size + 1 := by omega
  have e3 : ¬ g = w.heap.size + 1 + 1 := by omega
  have e4 : ¬ g = w.heap.size + 1 + 1 + 1 := by omega
  have o1 : ¬ op = 10 := by omega
  have o2 : ¬ op = 11 := by omega
  have o3 : ¬ op = 34 := by omega
  have o4 : (op == 10 || op == 11) = false := by simp [o1, o2]
  have HI : Hid _ := hA
  clear hA
  have HX : Hid _ := And.intro h (And.intro A4 (And.intro hI (Bx.of_heap hCb)))
  clear hb hr hR hd hs hi ho hk hL hnd h A4 hCb hI hbk
  generalize hx1 : c.regs.getD s1 0 = a at *
  generalize hx2 : c.regs.getD s2 0 = b at *
  go_enter Try.func62, Try.ntmps62
  go_wp2_with (first | (go_at_call 53; refine (shapeB op _ hop).mono ?_; rintro e w1 ⟨rfl, rfl⟩) | (go_at_call 81; refine (HI.out.2 _).mono ?_; rintro e w2 ⟨rfl, rfl⟩))
  refine bodyPost_ret (v := .agg #[.slice (some ⟨g, off, none⟩) 32 y1, .int .u32 ((c.pc + im) % 4294967296), .slice x2 n2 y2, .slice x3 n3 y3, .slice x4 n4 y4, .slice x5 n5 y5, .int .u32 c.low, .int .i64 c.st])
    (by simp [results, Try.results62, go_sem]) rfl ?_
  obtain ⟨hv, A4, hI, hb⟩ := HX.out
  have B4 := fun o1 o2 o3 o4 => ((((Below.refl w.heap.size w).alloc (Nat.le_refl _) o1).alloc (by simp) o2).alloc (by simp; omega) o3).alloc (by simp; omega) o4
  refine ⟨_, rfl, ?_, Below.tcs (B4 _ _ _ _)⟩
  exact (hv.pc _).below (B4 _ _ _ _)


set_option maxRecDepth 8000 in
set_option maxHeartbeats 1000000 in
theorem doBf (ma : Option Addr) (mn mc' : Nat) (md mb : Int) (v : Value) (L : List Nat) (c : Mc) (op : Int) (s1 s2 : Nat) (im : Int) (w : World) (hG : Good c) (h : CpuV w v L c) (hop : 4 ≤ op ∧ op ≤ 9) (h1 : s1 < 32) (h2 : s2 < 32)
    (hA : TakIs op (c.regs.getD s1 0) (c.regs.getD s2 0) false) :
    Calls Try.prog 62 #[.agg #[.slice ma mn mc', .int .i64 md, .int .i64 mb], v, .agg #[.int .i64 op, .int .i64 0, .int .i64 s1, .int .i64 s2, .int .i64 im]] w fun e w' =>
      ∃ u, e = .returned u ∧ CpuV w' u L { c with pc := (c.pc + 4) % 4294967296 } ∧ Tcs (fun g => g ∈ L) w w' := by
  obtain ⟨g, off, y1, n2, n3, n4, n5, x2, y2, x3, y3, x4, y4, x5, y5, rfl, hbk⟩ := h.shape32 hG.r32
  have A4 : Below w.heap.size w ((((w.alloc (.cells #[.slice ma mn mc', .int .i64 md, .int .i64 mb] 25)).alloc (.cells #[.slice (some ⟨g, off, none⟩) 32 y1, .int .u32 c.pc, .slice x2 n2 y2, .slice x3 n3 y3, .slice x4 n4 y4, .slice x5 n5 y5, .int .u32 c.low, .int .i64 c.st] 32)).alloc (.cells #[.int .i64 op, .int .i64 0, .int .i64 s1, .int .i64 s2, .int .i64 im] 64)).alloc (.cells #[.slice none 0 0, .int .u32 0, .slice none 0 0, .slice none 0 0, .slice none 0 0, .slice none 0 0, .int .u32 0, .int .i64 0] 32)) := ((((Below.refl _ _).alloc (Nat.le_refl _) _).alloc (by simp) _).alloc (by simp; omega) _).alloc (by simp; omega) _
  have hCb : ((((w.alloc (.cells #[.slice ma mn mc', .int .i64 md, .int .i64 mb] 25)).alloc (.cells #[.slice (some ⟨g, off, none⟩) 32 y1, .int .u32 c.pc, .slice x2 n2 y2, .slice x3 n3 y3, .slice x4 n4 y4, .slice x5 n5 y5, .int .u32 c.low, .int .i64 c.st] 32)).alloc (.cells #[.int .i64 op, .int .i64 0, .int .i64 s1, .int .i64 s2, .int .i64 im] 64)).alloc (.cells #[.slice none 0 0, .int .u32 0, .slice none 0 0, .slice none 0 0, .slice none 0 0, .slice none 0 0, .int .u32 0, .int .i64 0] 32)).heap[w.heap.size + 1]? = some (.cells #[.slice (some ⟨g, off, none⟩) 32 y1, .int .u32 c.pc, .slice x2 n2 y2, .slice x3 n3 y3, .slice x4 n4 y4, .slice x5 n5 y5, .int .u32 c.low, .int .i64 c.st] 32) := by
    rw [Below.heap_alloc _ _ _ (by simp), Below.heap_alloc _ _ _ (by simp)]
    have := heap_alloc_new (w.alloc (.cells #[.slice ma mn mc', .int .i64 md, .int .i64 mb] 25)) (.cells #[.slice (some ⟨g, off, none⟩) 32 y1, .int .u32 c.pc, .slice x2 n2 y2, .slice x3 n3 y3, .slice x4 n4 y4, .slice x5 n5 y5, .int .u32 c.low, .int .i64 c.st] 32)
    simpa only [World.size_alloc] using this
  have hI := h.boxed A4 hCb (by omega)
  obtain ⟨rv, d, s, i, o, hb, hr, hd, hs, hi, ho, hk, hL, hnd⟩ := id hI
  obtain rfl := Option.some.inj (hb.c0.symm.trans (Bx.of_heap hCb).c0)
  have hR := row_of hr hG.r32
  have cs1 := hR.cell s1 (by have := hG.r32; omega)
  have cs2 := hR.cell s2 (by have := hG.r32; omega)
  have hgw : g < w.heap.size := h.lt g hbk
  have e1 : ¬ g = w.heap.size := by omega
  have e2 : ¬ g = w.heap.size + 1 := by omega
  have e3 : ¬ g = w.heap.size + 1 + 1 := by omega
  have e4 : ¬ g = w.heap.size + 1 + 1 + 1 := by omega
  have o1 : ¬ op = 10 := by omega
  have o2 : ¬ op = 11 := by omega
  have o3 : ¬ op = 34 := by omega
  have o4 : (op == 10 || op == 11) = false := by simp [o1, o2]
  have HI : Hid _ := hA
  clear hA
  have HX : Hid _ := And.intro h (And.intro A4 (And.intro hI (Bx.of_heap hCb)))
  clear hb hr hR hd hs hi ho hk hL hnd h A4 hCb hI hbk
  generalize hx1 : c.regs.getD s1 0 = a at *
  generalize hx2 : c.regs.getD s2 0 = b at *
  go_enter Try.func62, Try.ntmps62
  go_wp2_with (first | (go_at_call 53; refine (shapeB op _ hop).mono ?_; rintro e w1 ⟨rfl, rfl⟩) | (go_at_call 81; refine (HI.out.2 _).mono ?_; rintro e w2 ⟨rfl, rfl⟩))
  refine bodyPost_ret (v := .agg #[.slice (some ⟨g, off, none⟩) 32 y1, .int .u32 ((c.pc + 4) % 4294967296), .slice x2 n2 y2, .slice x3 n3 y3, .slice x4 n4 y4, .slice x5 n5 y5, .int .u32 c.low, .int .i64 c.st])
    (by simp [results, Try.results62, go_sem]) rfl ?_
  obtain ⟨hv, A4, hI, hb⟩ := HX.out
  have B4 := fun o1 o2 o3 o4 => ((((Below.refl w.heap.size w).alloc (Nat.le_refl _) o1).alloc (by simp) o2).alloc (by simp; omega) o3).alloc (by simp; omega) o4
  refine ⟨_, rfl, ?_, Below.tcs (B4 _ _ _ _)⟩
  exact (hv.pc _).below (B4 _ _ _ _)

end Go.Proofs.Ytabjcodpagjbjaa

namespace Go.Proofs.Ytabjcodpagjbjaa
open Go.RowKit
set_option linter.unusedVariables false
set_option linter.unusedSimpArgs false

set_option maxRecDepth 8000 in
set_option maxHeartbeats 1000000 in
theorem exB7t (C : Nat) (L : List Nat) (c : Mc)  (rd s1 s2 : Nat) (im : Int) (w : World) (hG : Good c) (h : CpuIn w C L c)  (hrd : rd < 32) (h1 : s1 < 32) (h2 : s2 < 32)
    (hst : c.st = 0) (hA : TakIs 7 (c.regs.getD s1 0) (c.regs.getD s2 0) true) :
    Calls Try.prog 58 #[.pointer (some ⟨C, 0, none⟩), .agg #[.int .i64 7, .int .i64 rd, .int .i64 s1, .int .i64 s2, .int .i64 im]] w fun e w' =>
      e = .returned (.bool true) ∧ CpuIn w' C L { c with pc := (c.pc + im) % 4294967296 } ∧ Tcs (fun g => g ∈ L) w w' := by
  have T0 := (Tcs.refl (fun g => g ∈ L) w).alloc (.cells #[.int .i64 7, .int .i64 rd, .int .i64 s1, .int .i64 s2, .int .i64 im] 64)
  have h0 := h.below ((Below.refl w.heap.size w).alloc (Nat.le_refl _) (.cells #[.int .i64 7, .int .i64 rd, .int .i64 s1, .int .i64 s2, .int .i64 im] 64))
  obtain ⟨rv, d, s, i, o, hb, hr, hd, hs, hi, ho, hk, hL, hnd⟩ := id h0
  obtain ⟨g, off, cap, rfl, hR, hbk⟩ := lis_some hr (by have := hG.r32; omega)
  have e32 := hG.r32
  have c0 := hb.c0
  rw [e32] at c0
  have c1 := hb.c1
  have cs1 := hR.cell s1 (by omega)
  have cs2 := hR.cell s2 (by omega)
  have X0 : ∀ {W : World}, Tcs (fun g => g ∈ L) (w.alloc (.cells #[.int .i64 7, .int .i64 rd, .int .i64 s1, .int .i64 s2, .int .i64 im] 64)) W → W.cell? ⟨w.heap.size, 0, none⟩ = some (.int .i64 7) ∧ W.cell? ⟨w.heap.size, 1, none⟩ = some (.int .i64 rd) := by
    intro W hW
    have hkb := hW.block w.heap.size (by simp) (fun hm => by have := h.lt _ hm; omega)
    constructor <;> (rw [World.cell?_of_block (w := w.alloc _) hkb]; simp)
  have HS : Hid (∀ W v, Below (w.alloc (.cells #[.int .i64 7, .int .i64 rd, .int .i64 s1, .int .i64 s2, .int .i64 im] 64)).heap.size (w.alloc (.cells #[.int .i64 7, .int .i64 rd, .int .i64 s1, .int .i64 s2, .int .i64 im] 64)) W →
      Calls Try.prog 71 #[.pointer (some ⟨C, 0, none⟩), .int .i64 rd, .int .u32 v] W fun e w' => e = .returned (.tuple #[]) ∧ CpuIn w' C L (setR c rd v) ∧ Tcs (fun g => g ∈ L) w w' ∧ (w'.cell? ⟨w.heap.size, 0, none⟩ = some (.int .i64 7) ∧ w'.cell? ⟨w.heap.size, 1, none⟩ = some (.int .i64 rd))) := by
    intro W v hW
    refine (setReg_any C L c rd v W hG.r32 (by omega) (h0.below hW)).mono ?_
    rintro e w' ⟨rfl, hc, ht⟩
    have t1 := (Below.tcs (S := fun g => g ∈ L) hW).trans ht
    exact ⟨rfl, hc, T0.trans t1, X0 t1⟩
  have X00 := X0 (Tcs.refl _ _)
  have HI : Hid _ := hA
  clear hA
  have q7 := hb.c7
  rw [hst] at q7
  have qf := hb.fz 1
  have HE : Hid _ := And.intro h0 T0
  clear hb hr hR hd hs hi ho hk hL hnd hbk h h0 T0 X0
  generalize hx1 : c.regs.getD s1 0 = a at *
  generalize hx2 : c.regs.getD s2 0 = b at *
  go_enter Try.func58, Try.ntmps58
  go_wp2_with fail
  go_quiet (fail)
  go_wp2_with (go_at_call 72; refine (HI.out.1 _).mono ?_; rintro e w1 ⟨rfl, rfl⟩)
  go_ret
  exact ⟨rfl, (HE.out.1.below (below_drewN (Below.refl _ _) _)).pc _, (HE.out.2.drewN _).setCell HE.out.1.mem _⟩


set_option maxRecDepth 8000 in
set_option maxHeartbeats 1000000 in
theorem exB7f (C : Nat) (L : List Nat) (c : Mc)  (rd s1 s2 : Nat) (im : Int) (w : World) (hG : Good c) (h : CpuIn w C L c)  (hrd : rd < 32) (h1 : s1 < 32) (h2 : s2 < 32)
    (hst : c.st = 0) (hA : TakIs 7 (c.regs.getD s1 0) (c.regs.getD s2 0) false) :
    Calls Try.prog 58 #[.pointer (some ⟨C, 0, none⟩), .agg #[.int .i64 7, .int .i64 rd, .int .i64 s1, .int .i64 s2, .int .i64 im]] w fun e w' =>
      e = .returned (.bool true) ∧ CpuIn w' C L { c with pc := (c.pc + 4) % 4294967296 } ∧ Tcs (fun g => g ∈ L) w w' := by
  have T0 := (Tcs.refl (fun g => g ∈ L) w).alloc (.cells #[.int .i64 7, .int .i64 rd, .int .i64 s1, .int .i64 s2, .int .i64 im] 64)
  have h0 := h.below ((Below.refl w.heap.size w).alloc (Nat.le_refl _) (.cells #[.int .i64 7, .int .i64 rd, .int .i64 s1, .int .i64 s2, .int .i64 im] 64))
  obtain ⟨rv, d, s, i, o, hb, hr, hd, hs, hi, ho, hk, hL, hnd⟩ := id h0
  obtain ⟨g, off, cap, rfl, hR, hbk⟩ := lis_some hr (by have := hG.r32; omega)
  have e32 := hG.r32
  have c0 := hb.c0
  rw [e32] at c0
  have c1 := hb.c1
  have cs1 := hR.cell s1 (by omega)
  have cs2 := hR.cell s2 (by omega)
  have X0 : ∀ {W : World}, Tcs (fun g => g ∈ L) (w.alloc (.cells #[.int .i64 7, .int .i64 rd, .int .i64 s1, .int .i64 s2, .int .i64 im] 64)) W → W.cell? ⟨w.heap.size, 0, none⟩ = some (.int .i64 7) ∧ W.cell? ⟨w.heap.size, 1, none⟩ = some (.int .i64 rd) := by
    intro W hW
    have hkb := hW.block w.heap.size (by simp) (fun hm => by have := h.lt _ hm; omega)
    constructor <;> (rw [World.cell?_of_block (w := w.alloc _) hkb]; simp)
  have HS : Hid (∀ W v, Below (w.alloc (.cells #[.int .i64 7, .int .i64 rd, .int .i64 s1, .int .i64 s2, .int .i64 im] 64)).heap.size (w.alloc (.cells #[.int .i64 7, .int .i64 rd, .int .i64 s1, .int .i64 s2, .int .i64 im] 64)) W →
      Calls Try.prog 71 #[.pointer (some ⟨C, 0, none⟩), .int .i64 rd, .int .u32 v] W fun e w' => e = .returned (.tuple #[]) ∧ CpuIn w' C L (setR c rd v) ∧ Tcs (fun g => g ∈ L) w w' ∧ (w'.cell? ⟨w.heap.size, 0, none⟩ = some (.int .i64 7) ∧ w'.cell? ⟨w.heap.size, 1, none⟩ = some (.int .i64 rd))) := by
    intro W v hW
    refine (setReg_any C L c rd v W hG.r32 (by omega) (h0.below hW)).mono ?_
    rintro e w' ⟨rfl, hc, ht⟩
    have t1 := (Below.tcs (S := fun g => g ∈ L) hW).trans ht
    exact ⟨rfl, hc, T0.trans t1, X0 t1⟩
  have X00 := X0 (Tcs.refl _ _)
  have HI : Hid _ := hA
  clear hA
  have q7 := hb.c7
  rw [hst] at q7
  have qf := hb.fz 1
  have HE : Hid _ := And.intro h0 T0
  clear hb hr hR hd hs hi ho hk hL hnd hbk h h0 T0 X0
  generalize hx1 : c.regs.getD s1 0 = a at *
  generalize hx2 : c.regs.getD s2 0 = b at *
  go_enter Try.func58, Try.ntmps58
  go_wp2_with fail
  go_quiet (fail)
  go_wp2_with (go_at_call 72; refine (HI.out.1 _).mono ?_; rintro e w1 ⟨rfl, rfl⟩)
  go_ret
  exact ⟨rfl, (HE.out.1.below (below_drewN (Below.refl _ _) _)).pc _, (HE.out.2.drewN _).setCell HE.out.1.mem _⟩


set_option maxRecDepth 8000 in
set_option maxHeartbeats 1000000 in
theorem exB8t (C : Nat) (L : List Nat) (c : Mc)  (rd s1 s2 : Nat) (im : Int) (w : World) (hG : Good c) (h : CpuIn w C L c)  (hrd : rd < 32) (h1 : s1 < 32) (h2 : s2 < 32)
    (hst : c.st = 0) (hA : TakIs 8 (c.regs.getD s1 0) (c.regs.getD s2 0) true) :
    Calls Try.prog 58 #[.pointer (some ⟨C, 0, none⟩), .agg #[.int .i64 8, .int .i64 rd, .int .i64 s1, .int .i64 s2, .int .i64 im]] w fun e w' =>
      e = .returned (.bool true) ∧ CpuIn w' C L { c with pc := (c.pc + im) % 4294967296 } ∧ Tcs (fun g => g ∈ L) w w' := by
  have T0 := (Tcs.refl (fun g => g ∈ L) w).alloc (.cells #[.int .i64 8, .int .i64 rd, .int .i64 s1, .int .i64 s2, .int .i64 im] 64)
  have h0 := h.below ((Below.refl w.heap.size w).alloc (Nat.le_refl _) (.cells #[.int .i64 8, .int .i64 rd, .int .i64 s1, .int .i64 s2, .int .i64 im] 64))
  obtain ⟨rv, d, s, i, o, hb, hr, hd, hs, hi, ho, hk, hL, hnd⟩ := id h0
  obtain ⟨g, off, cap, rfl, hR, hbk⟩ := lis_some hr (by have := hG.r32; omega)
  have e32 := hG.r32
  have c0 := hb.c0
  rw [e32] at c0
  have c1 := hb.c1
  have cs1 := hR.cell s1 (by omega)
  have cs2 := hR.cell s2 (by omega)
  have X0 : ∀ {W : World}, Tcs (fun g => g ∈ L) (w.alloc (.cells #[.int .i64 8, .int .i64 rd, .int .i64 s1, .int .i64 s2, .int .i64 im] 64)) W → W.cell? ⟨w.heap.size, 0, none⟩ = some (.int .i64 8) ∧ W.cell? ⟨w.heap.size, 1, none⟩ = some (.int .i64 rd) := by
    intro W hW
    have hkb := hW.block w.heap.size (by simp) (fun hm => by have := h.lt _ hm; omega)
    constructor <;> (rw [World.cell?_of_block (w := w.alloc _) hkb]; simp)
  have HS : Hid (∀ W v, Below (w.alloc (.cells #[.int .i64 8, .int .i64 rd, .int .i64 s1, .int .i64 s2, .int .i64 im] 64)).heap.size (w.alloc (.cells #[.int .i64 8, .int .i64 rd, .int .i64 s1, .int .i64 s2, .int .i64 im] 64)) W →
      Calls Try.prog 71 #[.pointer (some ⟨C, 0, none⟩), .int .i64 rd, .int .u32 v] W fun e w' => e = .returned (.tuple #[]) ∧ CpuIn w' C L (setR c rd v) ∧ Tcs (fun g => g ∈ L) w w' ∧ (w'.cell? ⟨w.heap.size, 0, none⟩ = some (.int .i64 8) ∧ w'.cell? ⟨w.heap.size, 1, none⟩ = some (.int .i64 rd))) := by
    intro W v hW
    refine (setReg_any C L c rd v W hG.r32 (by omega) (h0.below hW)).mono ?_
    rintro e w' ⟨rfl, hc, ht⟩
    have t1 := (Below.tcs (S := fun g => g ∈ L) hW).trans ht
    exact ⟨rfl, hc, T0.trans t1, X0 t1⟩
  have X00 := X0 (Tcs.refl _ _)
  have HI : Hid _ := hA
  clear hA
  have q7 := hb.c7
  rw [hst] at q7
  have qf := hb.fz 1
  have HE : Hid _ := And.intro h0 T0
  clear hb hr hR hd hs hi ho hk hL hnd hbk h h0 T0 X0
  generalize hx1 : c.regs.getD s1 0 = a at *
  generalize hx2 : c.regs.getD s2 0 = b at *
  go_enter Try.func58, Try.ntmps58
  go_wp2_with fail
  go_quiet (fail)
  go_wp2_with (go_at_call 72; refine (HI.out.1 _).mono ?_; rintro e w1 ⟨rfl, rfl⟩)
  go_ret
  exact ⟨rfl, (HE.out.1.below (below_drewN (Below.refl _ _) _)).pc _, (HE.out.2.drewN _).setCell HE.out.1.mem _⟩


set_option maxRecDepth 8000 in
set_option maxHeartbeats 1000000 in
theorem exB8f (C : Nat) (L : List Nat) (c : Mc)  (rd s1 s2 : Nat) (im : Int) (w : World) (hG : Good c) (h : CpuIn w C L c)  (hrd : rd < 32) (h1 : s1 < 32) (h2 : s2 < 32)
    (hst : c.st = 0) (hA : TakIs 8 (c.regs.getD s1 0) (c.regs.getD s2 0) false) :
    Calls Try.prog 58 #[.pointer (some ⟨C, 0, none⟩), .agg #[.int .i64 8, .int .i64 rd, .int .i64 s1, .int .i64 s2, .int .i64 im]] w fun e w' =>
      e = .returned (.bool true) ∧ CpuIn w' C L { c with pc := (c.pc + 4) % 4294967296 } ∧ Tcs (fun g => g ∈ L) w w' := by
  have T0 := (Tcs.refl (fun g => g ∈ L) w).alloc (.cells #[.int .i64 8, .int .i64 rd, .int .i64 s1, .int .i64 s2, .int .i64 im] 64)
  have h0 := h.below ((Below.refl w.heap.size w).alloc (Nat.le_refl _) (.cells #[.int .i64 8, .int .i64 rd, .int .i64 s1, .int .i64 s2, .int .i64 im] 64))
  obtain ⟨rv, d, s, i, o, hb, hr, hd, hs, hi, ho, hk, hL, hnd⟩ := id h0
  obtain ⟨g, off, cap, rfl, hR, hbk⟩ := lis_some hr (by have := hG.r32; omega)
  have e32 := hG.r32
  have c0 := hb.c0
  rw [e32] at c0
  have c1 := hb.c1
  have cs1 := hR.cell s1 (by omega)
  have cs2 := hR.cell s2 (by omega)
  have X0 : ∀ {W : World}, Tcs (fun g => g ∈ L) (w.alloc (.cells #[.int .i64 8, .int .i64 rd, .int .i64 s1, .int .i64 s2, .int .i64 im] 64)) W → W.cell? ⟨w.heap.size, 0, none⟩ = some (.int .i64 8) ∧ W.cell? ⟨w.heap.size, 1, none⟩ = some (.int .i64 rd) := by
    intro W hW
    have hkb := hW.block w.heap.size (by simp) (fun hm => by have := h.lt _ hm; omega)
    constructor <;> (rw [World.cell?_of_block (w := w.alloc _) hkb]; simp)
  have HS : Hid (∀ W v, Below (w.alloc (.cells #[.int .i64 8, .int .i64 rd, .int .i64 s1, .int .i64 s2, .int .i64 im] 64)).heap.size (w.alloc (.cells #[.int .i64 8, .int .i64 rd, .int .i64 s1, .int .i64 s2, .int .i64 im] 64)) W →
      Calls Try.prog 71 #[.pointer (some ⟨C, 0, none⟩), .int .i64 rd, .int .u32 v] W fun e w' => e = .returned (.tuple #[]) ∧ CpuIn w' C L (setR c rd v) ∧ Tcs (fun g => g ∈ L) w w' ∧ (w'.cell? ⟨w.heap.size, 0, none⟩ = some (.int .i64 8) ∧ w'.cell? ⟨w.heap.size, 1, none⟩ = some (.int .i64 rd))) := by
    intro W v hW
    refine (setReg_any C L c rd v W hG.r32 (by omega) (h0.below hW)).mono ?_
    rintro e w' ⟨rfl, hc, ht⟩
    have t1 := (Below.tcs (S := fun g => g ∈ L) hW).trans ht
    exact ⟨rfl, hc, T0.trans t1, X0 t1⟩
  have X00 := X0 (Tcs.refl _ _)
  have HI : Hid _ := hA
  clear hA
  have q7 := hb.c7
  rw [hst] at q7
  have qf := hb.fz 1
  have HE : Hid _ := And.intro h0 T0
  clear hb hr hR hd hs hi ho hk hL hnd hbk h h0 T0 X0
  generalize hx1 : c.regs.getD s1 0 = a at *
  generalize hx2 : c.regs.getD s2 0 = b at *
  go_enter Try.func58, Try.ntmps58
  go_wp2_with fail
  go_quiet (fail)
  go_wp2_with (go_at_call 72; refine (HI.out.1 _).mono ?_; rintro e w1 ⟨rfl, rfl⟩)
  go_ret
  exact ⟨rfl, (HE.out.1.below (below_drewN (Below.refl _ _) _)).pc _, (HE.out.2.drewN _).setCell HE.out.1.mem _⟩


set_option maxRecDepth 8000 in
set_option maxHeartbeats 1000000 in
theorem exB9t (C : Nat) (L : List Nat) (c : Mc)  (rd s1 s2 : Nat) (im : Int) (w : World) (hG : Good c) (h : CpuIn w C L c)  (hrd : rd < 32) (h1 : s1 < 32) (h2 : s2 < 32)
    (hst : c.st = 0) (hA : TakIs 9 (c.regs.getD s1 0) (c.regs.getD s2 0) true) :
    Calls Try.prog 58 #[.pointer (some ⟨C, 0, none⟩), .agg #[.int .i64 9, .int .i64 rd, .int .i64 s1, .int .i64 s2, .int .i64 im]] w fun e w' =>
      e = .returned (.bool true) ∧ CpuIn w' C L { c with pc := (c.pc + im) % 4294967296 } ∧ Tcs (fun g => g ∈ L) w w' := by
  have T0 := (Tcs.refl (fun g => g ∈ L) w).alloc (.cells #[.int .i64 9, .int .i64 rd, .int .i64 s1, .int .i64 s2, .int .i64 im] 64)
  have h0 := h.below ((Below.refl w.heap.size w).alloc (Nat.le_refl _) (.cells #[.int .i64 9, .int .i64 rd, .int .i64 s1, .int .i64 s2, .int .i64 im] 64))
  obtain ⟨rv, d, s, i, o, hb, hr, hd, hs, hi, ho, hk, hL, hnd⟩ := id h0
  obtain ⟨g, off, cap, rfl, hR, hbk⟩ := lis_some hr (by have := hG.r32; omega)
  have e32 := hG.r32
  have c0 := hb.c0
  rw [e32] at c0
  have c1 := hb.c1
  have cs1 := hR.cell s1 (by omega)
  have cs2 := hR.cell s2 (by omega)
  have X0 : ∀ {W : World}, Tcs (fun g => g ∈ L) (w.alloc (.cells #[.int .i64 9, .int .i64 rd, .int .i64 s1, .int .i64 s2, .int .i64 im] 64)) W → W.cell? ⟨w.heap.size, 0, none⟩ = some (.int .i64 9) ∧ W.cell? ⟨w.heap.size, 1, none⟩ = some (.int .i64 rd) := by
    intro W hW
    have hkb := hW.block w.heap.size (by simp) (fun hm => by have := h.lt _ hm; omega)
    constructor <;> (rw [World.cell?_of_block (w := w.alloc _) hkb]; simp)
  have HS : Hid (∀ W v, Below (w.alloc (.cells #[.int .i64 9, .int .i64 rd, .int .i64 s1, .int .i64 s2, .int .i64 im] 64)).heap.size (w.alloc (.cells #[.int .i64 9, .int .i64 rd, .int .i64 s1, .int .i64 s2, .int .i64 im] 64)) W →
      Calls Try.prog 71 #[.pointer (some ⟨C, 0, none⟩), .int .i64 rd, .int .u32 v] W fun e w' => e = .returned (.tuple #[]) ∧ CpuIn w' C L (setR c rd v) ∧ Tcs (fun g => g ∈ L) w w' ∧ (w'.cell? ⟨w.heap.size, 0, none⟩ = some (.int .i64 9) ∧ w'.cell? ⟨w.heap.size, 1, none⟩ = some (.int .i64 rd))) := by
    intro W v hW
    refine (setReg_any C L c rd v W hG.r32 (by omega) (h0.below hW)).mono ?_
    rintro e w' ⟨rfl, hc, ht⟩
    have t1 := (Below.tcs (S := fun g => g ∈ L) hW).trans ht
    exact ⟨rfl, hc, T0.trans t1, X0 t1⟩
  have X00 := X0 (Tcs.refl _ _)
  have HI : Hid _ := hA
  clear hA
  have q7 := hb.c7
  rw [hst] at q7
  have qf := hb.fz 1
  have HE : Hid _ := And.intro h0 T0
  clear hb hr hR hd hs hi ho hk hL hnd hbk h h0 T0 X0
  generalize hx1 : c.regs.getD s1 0 = a at *
  generalize hx2 : c.regs.getD s2 0 = b at *
  go_enter Try.func58, Try.ntmps58
  go_wp2_with fail
  go_quiet (fail)
  go_wp2_with (go_at_call 72; refine (HI.out.1 _).mono ?_; rintro e w1 ⟨rfl, rfl⟩)
  go_ret
  exact ⟨rfl, (HE.out.1.below (below_drewN (Below.refl _ _) _)).pc _, (HE.out.2.drewN _).setCell HE.out.1.mem _⟩


set_option maxRecDepth 8000 in
set_option maxHeartbeats 1000000 in
theorem exB9f (C : Nat) (L : List Nat) (c : Mc)  (rd s1 s2 : Nat) (im : Int) (w : World) (hG : Good c) (h : CpuIn w C L c)  (hrd : rd < 32) (h1 : s1 < 32) (h2 : s2 < 32)
    (hst : c.st = 0) (hA : TakIs 9 (c.regs.getD s1 0) (c.regs.getD s2 0) false) :
    Calls Try.prog 58 #[.pointer (some ⟨C, 0, none⟩), .agg #[.int .i64 9, .int .i64 rd, .int .i64 s1, .int .i64 s2, .int .i64 im]] w fun e w' =>
      e = .returned (.bool true) ∧ CpuIn w' C L { c with pc := (c.pc + 4) % 4294967296 } ∧ Tcs (fun g => g ∈ L) w w' := by
  have T0 := (Tcs.refl (fun g => g ∈ L) w).alloc (.cells #[.int .i64 9, .int .i64 rd, .int .i64 s1, .int .i64 s2, .int .i64 im] 64)
  have h0 := h.below ((Below.refl w.heap.size w).alloc (Nat.le_refl _) (.cells #[.int .i64 9, .int .i64 rd, .int .i64 s1, .int .i64 s2, .int .i64 im] 64))
  obtain ⟨rv, d, s, i, o, hb, hr, hd, hs, hi, ho, hk, hL, hnd⟩ := id h0
  obtain ⟨g, off, cap, rfl, hR, hbk⟩ := lis_some hr (by have := hG.r32; omega)
  have e32 := hG.r32
  have c0 := hb.c0
  rw [e32] at c0
  have c1 := hb.c1
  have cs1 := hR.cell s1 (by omega)
  have cs2 := hR.cell s2 (by omega)
  have X0 : ∀ {W : World}, Tcs (fun g => g ∈ L) (w.alloc (.cells #[.int .i64 9, .int .i64 rd, .int .i64 s1, .int .i64 s2, .int .i64 im] 64)) W → W.cell? ⟨w.heap.size, 0, none⟩ = some (.int .i64 9) ∧ W.cell? ⟨w.heap.size, 1, none⟩ = some (.int .i64 rd) := by
    intro W hW
    have hkb := hW.block w.heap.size (by simp) (fun hm => by have := h.lt _ hm; omega)
    constructor <;> (rw [World.cell?_of_block (w := w.alloc _) hkb]; simp)
  have HS : Hid (∀ W v, Below (w.alloc (.cells #[.int .i64 9, .int .i64 rd, .int .i64 s1, .int .i64 s2, .int .i64 im] 64)).heap.size (w.alloc (.cells #[.int .i64 9, .int .i64 rd, .int .i64 s1, .int .i64 s2, .int .i64 im] 64)) W →
      Calls Try.prog 71 #[.pointer (some ⟨C, 0, none⟩), .int .i64 rd, .int .u32 v] W fun e w' => e = .returned (.tuple #[]) ∧ CpuIn w' C L (setR c rd v) ∧ Tcs (fun g => g ∈ L) w w' ∧ (w'.cell? ⟨w.heap.size, 0, none⟩ = some (.int .i64 9) ∧ w'.cell? ⟨w.heap.size, 1, none⟩ = some (.int .i64 rd))) := by
    intro W v hW
    refine (setReg_any C L c rd v W hG.r32 (by omega) (h0.below hW)).mono ?_
    rintro e w' ⟨rfl, hc, ht⟩
    have t1 := (Below.tcs (S := fun g => g ∈ L) hW).trans ht
    exact ⟨rfl, hc, T0.trans t1, X0 t1⟩
  have X00 := X0 (Tcs.refl _ _)
  have HI : Hid _ := hA
  clear hA
  have q7 := hb.c7
  rw [hst] at q7
  have qf := hb.fz 1
  have HE : Hid _ := And.intro h0 T0
  clear hb hr hR hd hs hi ho hk hL hnd hbk h h0 T0 X0
  generalize hx1 : c.regs.getD s1 0 = a at *
  generalize hx2 : c.regs.getD s2 0 = b at *
  go_enter Try.func58, Try.ntmps58
  go_wp2_with fail
  go_quiet (fail)
  go_wp2_with (go_at_call 72; refine (HI.out.1 _).mono ?_; rintro e w1 ⟨rfl, rfl⟩)
  go_ret
  exact ⟨rfl, (HE.out.1.below (below_drewN (Below.refl _ _) _)).pc _, (HE.out.2.drewN _).setCell HE.out.1.mem _⟩

end Go.Proofs.Ytabjcodpagjbjaa
