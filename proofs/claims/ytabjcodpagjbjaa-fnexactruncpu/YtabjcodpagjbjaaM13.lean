import Derived.Test.YtabjcodpagjbjaaM12
import Derived.Test.YtabjcodpagjbjaaM07
import Derived.Deep.RegionHeld3
namespace Go.Proofs.Ytabjcodpagjbjaa
open Go.RowKit
set_option linter.unusedVariables false
set_option linter.unusedSimpArgs false

set_option maxRecDepth 8000 in
set_option maxHeartbeats 1000000 in
theorem doE (ma : Option Addr) (mn mc' : Nat) (md mb : Int) (v : Value) (L : List Nat) (c : Mc)  (rd s1 s2 : Nat) (im : Int) (w : World) (hG : Good c) (h : CpuV w v L c)  (hrd : rd < 32) (h1 : s1 < 32) (h2 : s2 < 32)
    (c' : Mc) (hE : ∀ w1, CpuV w1 v L c → Calls Try.prog 80 #[v] w1 fun e w' => ∃ u, e = .returned u ∧ ∃ L', CpuV w' u L' c' ∧ (∀ x ∈ L', x ∈ L ∨ w1.heap.size ≤ x) ∧ Tcs (fun g => g ∈ L) w1 w') :
    Calls Try.prog 62 #[.agg #[.slice ma mn mc', .int .i64 md, .int .i64 mb], v, .agg #[.int .i64 34, .int .i64 rd, .int .i64 s1, .int .i64 s2, .int .i64 im]] w fun e w' =>
      ∃ u, e = .returned u ∧ ∃ L', CpuV w' u L' c' ∧ (∀ x ∈ L', x ∈ L ∨ w.heap.size ≤ x) ∧ Tcs (fun g => g ∈ L) w w' := by
  obtain ⟨g, off, y1, n2, n3, n4, n5, x2, y2, x3, y3, x4, y4, x5, y5, rfl, hbk⟩ := h.shape32 hG.r32
  have A4 : Below w.heap.size w ((((w.alloc (.cells #[.slice ma mn mc', .int .i64 md, .int .i64 mb] 25)).alloc (.cells #[.slice (some ⟨g, off, none⟩) 32 y1, .int .u32 c.pc, .slice x2 n2 y2, .slice x3 n3 y3, .slice x4 n4 y4, .slice x5 n5 y5, .int .u32 c.low, .int .i64 c.st] 32)).alloc (.cells #[.int .i64 34, .int .i64 rd, .int .i64 s1, .int .i64 s2, .int .i64 im] 64)).alloc (.cells #[.slice none 0 0, .int .u32 0, .slice none 0 0, .slice none 0 0, .slice none 0 0, .slice none 0 0, .int .u32 0, .int .i64 0] 32)) := ((((Below.refl _ _).alloc (Nat.le_refl _) _).alloc (by simp) _).alloc (by simp; omega) _).alloc (by simp; omega) _
  have hCb : ((((w.alloc (.cells #[.slice ma mn mc', .int .i64 md, .int .i64 mb] 25)).alloc (.cells #[.slice (some ⟨g, off, none⟩) 32 y1, .int .u32 c.pc, .slice x2 n2 y2, .slice x3 n3 y3, .slice x4 n4 y4, .slice x5 n5 y5, .int .u32 c.low, .int .i64 c.st] 32)).alloc (.cells #[.int .i64 34, .int .i64 rd, .int .i64 s1, .int .i64 s2, .int .i64 im] 64)).alloc (.cells #[.slice none 0 0, .int .u32 0, .slice none 0 0, .slice none 0 0, .slice none 0 0, .slice none 0 0, .int .u32 0, .int .i64 0] 32)).heap[w.heap.size + 1]? = some (.cells #[.slice (some ⟨g, off, none⟩) 32 y1, .int .u32 c.pc, .slice x2 n2 y2, .slice x3 n3 y3, .slice x4 n4 y4, .slice x5 n5 y5, .int .u32 c.low, .int .i64 c.st] 32) := by
    rw [Below.heap_alloc _ _ _ (by simp), Below.heap_alloc _ _ _ (by simp)]
    have := heap_alloc_new (w.alloc (.cells #[.slice ma mn mc', .int .i64 md, .int .i64 mb] 25)) (.cells #[.slice (some ⟨g, off, none⟩) 32 y1, .int .u32 c.pc, .slice x2 n2 y2, .slice x3 n3 y3, .slice x4 n4 y4, .slice x5 n5 y5, .int .u32 c.low, .int .i64 c.st] 32)
    simpa only [World.size_alloc] using this
  have hI := h.boxed A4 hCb (by omega)
  obtain ⟨rv, d, s, i, o, hb, hr, hd, hs, hi, ho, hk, hL, hnd⟩ := id hI
  obtain rfl := Option.some.inj (hb.c0.symm.trans (Bx.of_heap hCb).c0)
  have hR := row_of hr hG.r32
  have cs1 := hR.cell s1 (by have := hG.r32; omega)
  have cs2 := hR.cell s2 (by have := hG.r32; omega)
  have hgw : g < w.heap.size := h.lt g hbk
  have e1 : ¬ g = w.heap.size := by omega
  have e2 : ¬ g = w.heap.size + 1 := by omega
  have e3 : ¬ g = w.heap.size + 1 + 1 := by omega
  have e4 : ¬ g = w.heap.size + 1 + 1 + 1 := by omega
  have cR := hR.cell rd (by have := hG.r32; omega)
  have fR := hR.froz (off + rd)
  have HE : Hid (∀ w1, CpuV w1 _ L c → _) := hE
  clear hE
  have HX : Hid _ := And.intro h (And.intro A4 (And.intro hI (Bx.of_heap hCb)))
  clear hb hr hR hd hs hi ho hk hL hnd h A4 hCb hI hbk
  generalize hx1 : c.regs.getD s1 0 = a at *
  generalize hx2 : c.regs.getD s2 0 = b at *
  go_enter Try.func62, Try.ntmps62
  go_wp2_with fail
  refine (HE.out _ (HX.out.1.below HX.out.2.1)).mono ?_
  rintro e w1 ⟨u1, rfl, L', cv1, hm1, ht1⟩
  obtain ⟨m1, m2, m3, m4, m5, a1, b1, a2, b2, a3, b3, a4, b4, a5, b5, rfl⟩ := cv1.shape
  have hlt := HX.out.1.lt
  have hRl : w.heap.size + 1 + 1 + 1 ∉ L := fun e => by have := hlt _ e; omega
  have RB := (Bx.of_heap (by have := heap_alloc_new (((w.alloc (.cells #[.slice ma mn mc', .int .i64 md, .int .i64 mb] 25)).alloc (.cells #[.slice (some ⟨g, off, none⟩) 32 y1, .int .u32 c.pc, .slice x2 n2 y2, .slice x3 n3 y3, .slice x4 n4 y4, .slice x5 n5 y5, .int .u32 c.low, .int .i64 c.st] 32)).alloc (.cells #[.int .i64 34, .int .i64 rd, .int .i64 s1, .int .i64 s2, .int .i64 im] 64)) (.cells #[.slice none 0 0, .int .u32 0, .slice none 0 0, .slice none 0 0, .slice none 0 0, .slice none 0 0, .int .u32 0, .int .i64 0] 32); simpa only [World.size_alloc] using this : ((((w.alloc (.cells #[.slice ma mn mc', .int .i64 md, .int .i64 mb] 25)).alloc (.cells #[.slice (some ⟨g, off, none⟩) 32 y1, .int .u32 c.pc, .slice x2 n2 y2, .slice x3 n3 y3, .slice x4 n4 y4, .slice x5 n5 y5, .int .u32 c.low, .int .i64 c.st] 32)).alloc (.cells #[.int .i64 34, .int .i64 rd, .int .i64 s1, .int .i64 s2, .int .i64 im] 64)).alloc (.cells #[.slice none 0 0, .int .u32 0, .slice none 0 0, .slice none 0 0, .slice none 0 0, .slice none 0 0, .int .u32 0, .int .i64 0] 32)).heap[w.heap.size + 1 + 1 + 1]? = _)).keep (ht1.block _ (by simp) hRl)
  obtain ⟨z0, z1, z2, z3, z4, z5, z6, z7, zf⟩ := id RB
  have HV : Hid _ := And.intro cv1 (And.intro hm1 (And.intro ht1 (And.intro hlt HX.out.2.1)))
  clear cv1 hm1 ht1 RB HX hlt hRl HE
  dsimp only
  go_wp2
  refine bodyPost_ret (v := .agg #[.slice a1 m1 b1, .int .u32 c'.pc, .slice a2 m2 b2, .slice a3 m3 b3, .slice a4 m4 b4, .slice a5 m5 b5, .int .u32 c'.low, .int .i64 c'.st]) (by simp [results, Try.results62, go_sem, z0, z1, z2, z3, z4, z5, z6, z7]) rfl ?_
  obtain ⟨cv1, hm1, ht1, hl, A4⟩ := HV.out
  simp only [World.size_alloc] at hm1
  refine ⟨_, rfl, L', cv1.tcs ((Tcs.refl (fun k => k = w.heap.size + 1 + 1 + 1) w1).set8 _ rfl _ _ _ _ _ _ _ _) (fun g hg e => ?_), fun x hx => ?_, ?_⟩
  · rcases hm1 g hg with h | h
    · have := hl g h
      omega
    · omega
  · rcases hm1 x hx with h | h
    · exact .inl h
    · exact .inr (by omega)
  · exact ((Below.tcs (S := fun x => x ∈ L) A4).trans ht1).new8 _ (by omega) _ _ _ _ _ _ _ _


set_option maxRecDepth 8000 in
set_option maxHeartbeats 1000000 in
theorem doLw (ma : Option Addr) (mn mc' : Nat) (md mb : Int) (v : Value) (L : List Nat) (c : Mc)  (rd s1 s2 : Nat) (im : Int) (w : World) (hG : Good c) (h : CpuV w v L c)  (hrd : rd < 32) (h1 : s1 < 32) (h2 : s2 < 32)
    (c' : Mc) (hE : ∀ w1, CpuV w1 v L c → Calls Try.prog 79 #[.agg #[.slice ma mn mc', .int .i64 md, .int .i64 mb], v, .agg #[.int .i64 10, .int .i64 rd, .int .i64 s1, .int .i64 s2, .int .i64 im]] w1 fun e w' => ∃ u, e = .returned u ∧ ∃ L', CpuV w' u L' c' ∧ (∀ x ∈ L', x ∈ L ∨ w1.heap.size ≤ x) ∧ Tcs (fun g => g ∈ L) w1 w') :
    Calls Try.prog 62 #[.agg #[.slice ma mn mc', .int .i64 md, .int .i64 mb], v, .agg #[.int .i64 10, .int .i64 rd, .int .i64 s1, .int .i64 s2, .int .i64 im]] w fun e w' =>
      ∃ u, e = .returned u ∧ ∃ L', CpuV w' u L' c' ∧ (∀ x ∈ L', x ∈ L ∨ w.heap.size ≤ x) ∧ Tcs (fun g => g ∈ L) w w' := by
  obtain ⟨g, off, y1, n2, n3, n4, n5, x2, y2, x3, y3, x4, y4, x5, y5, rfl, hbk⟩ := h.shape32 hG.r32
  have A4 : Below w.heap.size w ((((w.alloc (.cells #[.slice ma mn mc', .int .i64 md, .int .i64 mb] 25)).alloc (.cells #[.slice (some ⟨g, off, none⟩) 32 y1, .int .u32 c.pc, .slice x2 n2 y2, .slice x3 n3 y3, .slice x4 n4 y4, .slice x5 n5 y5, .int .u32 c.low, .int .i64 c.st] 32)).alloc (.cells #[.int .i64 10, .int .i64 rd, .int .i64 s1, .int .i64 s2, .int .i64 im] 64)).alloc (.cells #[.slice none 0 0, .int .u32 0, .slice none 0 0, .slice none 0 0, .slice none 0 0, .slice none 0 0, .int .u32 0, .int .i64 0] 32)) := ((((Below.refl _ _).alloc (Nat.le_refl _) _).alloc (by simp) _).alloc (by simp; omega) _).alloc (by simp; omega) _
  have hCb : ((((w.alloc (.cells #[.slice ma mn mc', .int .i64 md, .int .i64 mb] 25)).alloc (.cells #[.slice (some ⟨g, off, none⟩) 32 y1, .int .u32 c.pc, .slice x2 n2 y2, .slice x3 n3 y3, .slice x4 n4 y4, .slice x5 n5 y5, .int .u32 c.low, .int .i64 c.st] 32)).alloc (.cells #[.int .i64 10, .int .i64 rd, .int .i64 s1, .int .i64 s2, .int .i64 im] 64)).alloc (.cells #[.slice none 0 0, .int .u32 0, .slice none 0 0, .slice none 0 0, .slice none 0 0, .slice none 0 0, .int .u32 0, .int .i64 0] 32)).heap[w.heap.size + 1]? = some (.cells #[.slice (some ⟨g, off, none⟩) 32 y1, .int .u32 c.pc, .slice x2 n2 y2, .slice x3 n3 y3, .slice x4 n4 y4, .slice x5 n5 y5, .int .u32 c.low, .int .i64 c.st] 32) := by
    rw [Below.heap_alloc _ _ _ (by simp), Below.heap_alloc _ _ _ (by simp)]
    have := heap_alloc_new (w.alloc (.cells #[.slice ma mn mc', .int .i64 md, .int .i64 mb] 25)) (.cells #[.slice (some ⟨g, off, none⟩) 32 y1, .int .u32 c.pc, .slice x2 n2 y2, .slice x3 n3 y3, .slice x4 n4 y4, .slice x5 n5 y5, .int .u32 c.low, .int .i64 c.st] 32)
    simpa only [World.size_alloc] using this
  have hI := h.boxed A4 hCb (by omega)
  obtain ⟨rv, d, s, i, o, hb, hr, hd, hs, hi, ho, hk, hL, hnd⟩ := id hI
  obtain rfl := Option.some.inj (hb.c0.symm.trans (Bx.of_heap hCb).c0)
  have hR := row_of hr hG.r32
  have cs1 := hR.cell s1 (by have := hG.r32; omega)
  have cs2 := hR.cell s2 (by have := hG.r32; omega)
  have hgw : g < w.heap.size := h.lt g hbk
  have e1 : ¬ g = w.heap.size := by omega
  have e2 : ¬ g = w.heap.size + 1 := by omega
  have e3 : ¬ g = w.heap.size + 1 + 1 := by omega
  have e4 : ¬ g = w.heap.size + 1 + 1 + 1 := by omega
  have cR := hR.cell rd (by have := hG.r32; omega)
  have fR := hR.froz (off + rd)
  have HE : Hid (∀ w1, CpuV w1 _ L c → _) := hE
  clear hE
  have HX : Hid _ := And.intro h (And.intro A4 (And.intro hI (Bx.of_heap hCb)))
  clear hb hr hR hd hs hi ho hk hL hnd h A4 hCb hI hbk
  generalize hx1 : c.regs.getD s1 0 = a at *
  generalize hx2 : c.regs.getD s2 0 = b at *
  go_enter Try.func62, Try.ntmps62
  go_wp2_with fail
  refine (HE.out _ (HX.out.1.below HX.out.2.1)).mono ?_
  rintro e w1 ⟨u1, rfl, L', cv1, hm1, ht1⟩
  obtain ⟨m1, m2, m3, m4, m5, a1, b1, a2, b2, a3, b3, a4, b4, a5, b5, rfl⟩ := cv1.shape
  have hlt := HX.out.1.lt
  have hRl : w.heap.size + 1 + 1 + 1 ∉ L := fun e => by have := hlt _ e; omega
  have RB := (Bx.of_heap (by have := heap_alloc_new (((w.alloc (.cells #[.slice ma mn mc', .int .i64 md, .int .i64 mb] 25)).alloc (.cells #[.slice (some ⟨g, off, none⟩) 32 y1, .int .u32 c.pc, .slice x2 n2 y2, .slice x3 n3 y3, .slice x4 n4 y4, .slice x5 n5 y5, .int .u32 c.low, .int .i64 c.st] 32)).alloc (.cells #[.int .i64 10, .int .i64 rd, .int .i64 s1, .int .i64 s2, .int .i64 im] 64)) (.cells #[.slice none 0 0, .int .u32 0, .slice none 0 0, .slice none 0 0, .slice none 0 0, .slice none 0 0, .int .u32 0, .int .i64 0] 32); simpa only [World.size_alloc] using this : ((((w.alloc (.cells #[.slice ma mn mc', .int .i64 md, .int .i64 mb] 25)).alloc (.cells #[.slice (some ⟨g, off, none⟩) 32 y1, .int .u32 c.pc, .slice x2 n2 y2, .slice x3 n3 y3, .slice x4 n4 y4, .slice x5 n5 y5, .int .u32 c.low, .int .i64 c.st] 32)).alloc (.cells #[.int .i64 10, .int .i64 rd, .int .i64 s1, .int .i64 s2, .int .i64 im] 64)).alloc (.cells #[.slice none 0 0, .int .u32 0, .slice none 0 0, .slice none 0 0, .slice none 0 0, .slice none 0 0, .int .u32 0, .int .i64 0] 32)).heap[w.heap.size + 1 + 1 + 1]? = _)).keep (ht1.block _ (by simp) hRl)
  obtain ⟨z0, z1, z2, z3, z4, z5, z6, z7, zf⟩ := id RB
  have HV : Hid _ := And.intro cv1 (And.intro hm1 (And.intro ht1 (And.intro hlt HX.out.2.1)))
  clear cv1 hm1 ht1 RB HX hlt hRl HE
  dsimp only
  go_wp2
  refine bodyPost_ret (v := .agg #[.slice a1 m1 b1, .int .u32 c'.pc, .slice a2 m2 b2, .slice a3 m3 b3, .slice a4 m4 b4, .slice a5 m5 b5, .int .u32 c'.low, .int .i64 c'.st]) (by simp [results, Try.results62, go_sem, z0, z1, z2, z3, z4, z5, z6, z7]) rfl ?_
  obtain ⟨cv1, hm1, ht1, hl, A4⟩ := HV.out
  simp only [World.size_alloc] at hm1
  refine ⟨_, rfl, L', cv1.tcs ((Tcs.refl (fun k => k = w.heap.size + 1 + 1 + 1) w1).set8 _ rfl _ _ _ _ _ _ _ _) (fun g hg e => ?_), fun x hx => ?_, ?_⟩
  · rcases hm1 g hg with h | h
    · have := hl g h
      omega
    · omega
  · rcases hm1 x hx with h | h
    · exact .inl h
    · exact .inr (by omega)
  · exact ((Below.tcs (S := fun x => x ∈ L) A4).trans ht1).new8 _ (by omega) _ _ _ _ _ _ _ _


set_option maxRecDepth 8000 in
set_option maxHeartbeats 1000000 in
theorem doSw (ma : Option Addr) (mn mc' : Nat) (md mb : Int) (v : Value) (L : List Nat) (c : Mc)  (rd s1 s2 : Nat) (im : Int) (w : World) (hG : Good c) (h : CpuV w v L c)  (hrd : rd < 32) (h1 : s1 < 32) (h2 : s2 < 32)
    (c' : Mc) (hE : ∀ w1, CpuV w1 v L c → Calls Try.prog 79 #[.agg #[.slice ma mn mc', .int .i64 md, .int .i64 mb], v, .agg #[.int .i64 11, .int .i64 rd, .int .i64 s1, .int .i64 s2, .int .i64 im]] w1 fun e w' => ∃ u, e = .returned u ∧ ∃ L', CpuV w' u L' c' ∧ (∀ x ∈ L', x ∈ L ∨ w1.heap.size ≤ x) ∧ Tcs (fun g => g ∈ L) w1 w') :
    Calls Try.prog 62 #[.agg #[.slice ma mn mc', .int .i64 md, .int .i64 mb], v, .agg #[.int .i64 11, .int .i64 rd, .int .i64 s1, .int .i64 s2, .int .i64 im]] w fun e w' =>
      ∃ u, e = .returned u ∧ ∃ L', CpuV w' u L' c' ∧ (∀ x ∈ L', x ∈ L ∨ w.heap.size ≤ x) ∧ Tcs (fun g => g ∈ L) w w' := by
  obtain ⟨g, off, y1, n2, n3, n4, n5, x2, y2, x3, y3, x4, y4, x5, y5, rfl, hbk⟩ := h.shape32 hG.r32
  have A4 : Below w.heap.size w ((((w.alloc (.cells #[.slice ma mn mc', .int .i64 md, .int .i64 mb] 25)).alloc (.cells #[.slice (some ⟨g, off, none⟩) 32 y1, .int .u32 c.pc, .slice x2 n2 y2, .slice x3 n3 y3, .slice x4 n4 y4, .slice x5 n5 y5, .int .u32 c.low, .int .i64 c.st] 32)).alloc (.cells #[.int .i64 11, .int .i64 rd, .int .i64 s1, .int .i64 s2, .int .i64 im] 64)).alloc (.cells #[.slice none 0 0, .int .u32 0, .slice none 0 0, .slice none 0 0, .slice none 0 0, .slice none 0 0, .int .u32 0, .int .i64 0] 32)) := ((((Below.refl _ _).alloc (Nat.le_refl _) _).alloc (by simp) _).alloc (by simp; omega) _).alloc (by simp; omega) _
  have hCb : ((((w.alloc (.cells #[.slice ma mn mc', .int .i64 md, .int .i64 mb] 25)).alloc (.cells #[.slice (some ⟨g, off, none⟩) 32 y1, .int .u32 c.pc, .slice x2 n2 y2, .slice x3 n3 y3, .slice x4 n4 y4, .slice x5 n5 y5, .int .u32 c.low, .int .i64 c.st] 32)).alloc (.cells #[.int .i64 11, .int .i64 rd, .int .i64 s1, .int .i64 s2, .int .i64 im] 64)).alloc (.cells #[.slice none 0 0, .int .u32 0, .slice none 0 0, .slice none 0 0, .slice none 0 0, .slice none 0 0, .int .u32 0, .int .i64 0] 32)).heap[w.heap.size + 1]? = some (.cells #[.slice (some ⟨g, off, none⟩) 32 y1, .int .u32 c.pc, .slice x2 n2 y2, .slice x3 n3 y3, .slice x4 n4 y4, .slice x5 n5 y5, .int .u32 c.low, .int .i64 c.st] 32) := by
    rw [Below.heap_alloc _ _ _ (by simp), Below.heap_alloc _ _ _ (by simp)]
    have := heap_alloc_new (w.alloc (.cells #[.slice ma mn mc', .int .i64 md, .int .i64 mb] 25)) (.cells #[.slice (some ⟨g, off, none⟩) 32 y1, .int .u32 c.pc, .slice x2 n2 y2, .slice x3 n3 y3, .slice x4 n4 y4, .slice x5 n5 y5, .int .u32 c.low, .int .i64 c.st] 32)
    simpa only [World.size_alloc] using this
  have hI := h.boxed A4 hCb (by omega)
  obtain ⟨rv, d, s, i, o, hb, hr, hd, hs, hi, ho, hk, hL, hnd⟩ := id hI
  obtain rfl := Option.some.inj (hb.c0.symm.trans (Bx.of_heap hCb).c0)
  have hR := row_of hr hG.r32
  have cs1 := hR.cell s1 (by have := hG.r32; omega)
  have cs2 := hR.cell s2 (by have := hG.r32; omega)
  have hgw : g < w.heap.size := h.lt g hbk
  have e1 : ¬ g = w.heap.size := by omega
  have e2 : ¬ g = w.heap.size + 1 := by omega
  have e3 : ¬ g = w.heap.size + 1 + 1 := by omega
  have e4 : ¬ g = w.heap.size + 1 + 1 + 1 := by omega
  have cR := hR.cell rd (by have := hG.r32; omega)
  have fR := hR.froz (off + rd)
  have HE : Hid (∀ w1, CpuV w1 _ L c → _) := hE
  clear hE
  have HX : Hid _ := And.intro h (And.intro A4 (And.intro hI (Bx.of_heap hCb)))
  clear hb hr hR hd hs hi ho hk hL hnd h A4 hCb hI hbk
  generalize hx1 : c.regs.getD s1 0 = a at *
  generalize hx2 : c.regs.getD s2 0 = b at *
  go_enter Try.func62, Try.ntmps62
  go_wp2_with fail
  refine (HE.out _ (HX.out.1.below HX.out.2.1)).mono ?_
  rintro e w1 ⟨u1, rfl, L', cv1, hm1, ht1⟩
  obtain ⟨m1, m2, m3, m4, m5, a1, b1, a2, b2, a3, b3, a4, b4, a5, b5, rfl⟩ := cv1.shape
  have hlt := HX.out.1.lt
  have hRl : w.heap.size + 1 + 1 + 1 ∉ L := fun e => by have := hlt _ e; omega
  have RB := (Bx.of_heap (by have := heap_alloc_new (((w.alloc (.cells #[.slice ma mn mc', .int .i64 md, .int .i64 mb] 25)).alloc (.cells #[.slice (some ⟨g, off, none⟩) 32 y1, .int .u32 c.pc, .slice x2 n2 y2, .slice x3 n3 y3, .slice x4 n4 y4, .slice x5 n5 y5, .int .u32 c.low, .int .i64 c.st] 32)).alloc (.cells #[.int .i64 11, .int .i64 rd, .int .i64 s1, .int .i64 s2, .int .i64 im] 64)) (.cells #[.slice none 0 0, .int .u32 0, .slice none 0 0, .slice none 0 0, .slice none 0 0, .slice none 0 0, .int .u32 0, .int .i64 0] 32); simpa only [World.size_alloc] using this : ((((w.alloc (.cells #[.slice ma mn mc', .int .i64 md, .int .i64 mb] 25)).alloc (.cells #[.slice (some ⟨g, off, none⟩) 32 y1, .int .u32 c.pc, .slice x2 n2 y2, .slice x3 n3 y3, .slice x4 n4 y4, .slice x5 n5 y5, .int .u32 c.low, .int .i64 c.st] 32)).alloc (.cells #[.int .i64 11, .int .i64 rd, .int .i64 s1, .int .i64 s2, .int .i64 im] 64)).alloc (.cells #[.slice none 0 0, .int .u32 0, .slice none 0 0, .slice none 0 0, .slice none 0 0, .slice none 0 0, .int .u32 0, .int .i64 0] 32)).heap[w.heap.size + 1 + 1 + 1]? = _)).keep (ht1.block _ (by simp) hRl)
  obtain ⟨z0, z1, z2, z3, z4, z5, z6, z7, zf⟩ := id RB
  have HV : Hid _ := And.intro cv1 (And.intro hm1 (And.intro ht1 (And.intro hlt HX.out.2.1)))
  clear cv1 hm1 ht1 RB HX hlt hRl HE
  dsimp only
  go_wp2
  refine bodyPost_ret (v := .agg #[.slice a1 m1 b1, .int .u32 c'.pc, .slice a2 m2 b2, .slice a3 m3 b3, .slice a4 m4 b4, .slice a5 m5 b5, .int .u32 c'.low, .int .i64 c'.st]) (by simp [results, Try.results62, go_sem, z0, z1, z2, z3, z4, z5, z6, z7]) rfl ?_
  obtain ⟨cv1, hm1, ht1, hl, A4⟩ := HV.out
  simp only [World.size_alloc] at hm1
  refine ⟨_, rfl, L', cv1.tcs ((Tcs.refl (fun k => k = w.heap.size + 1 + 1 + 1) w1).set8 _ rfl _ _ _ _ _ _ _ _) (fun g hg e => ?_), fun x hx => ?_, ?_⟩
  · rcases hm1 g hg with h | h
    · have := hl g h
      omega
    · omega
  · rcases hm1 x hx with h | h
    · exact .inl h
    · exact .inr (by omega)
  · exact ((Below.tcs (S := fun x => x ∈ L) A4).trans ht1).new8 _ (by omega) _ _ _ _ _ _ _ _

end Go.Proofs.Ytabjcodpagjbjaa

namespace Go.Proofs.Ytabjcodpagjbjaa
open Go.RowKit
set_option linter.unusedVariables false
set_option linter.unusedSimpArgs false

theorem or4 (p q r s : Int) (hp : 0 ≤ p ∧ p ≤ 255) (hq : 0 ≤ q ∧ q ≤ 255) (hr : 0 ≤ r ∧ r ≤ 255) (hs : 0 ≤ s ∧ s ≤ 255) :
    bits .or .u32 (bits .or .u32 (bits .or .u32 p (q * 256)) (r * 65536)) (s * 16777216) = p + q * 256 + r * 65536 + s * 16777216 := by
  obtain ⟨P, rfl⟩ := Int.eq_ofNat_of_zero_le hp.1
  obtain ⟨Q, rfl⟩ := Int.eq_ofNat_of_zero_le hq.1
  obtain ⟨R, rfl⟩ := Int.eq_ofNat_of_zero_le hr.1
  obtain ⟨S, rfl⟩ := Int.eq_ofNat_of_zero_le hs.1
  have b0 : P < 4294967296 := by omega
  have l1 : ((Q : Int) * 256 : Int) = ((2 ^ 8 * Q : Nat) : Int) := by omega
  have b1 : 2 ^ 8 * Q < 4294967296 := by omega
  have l2 : ((R : Int) * 65536 : Int) = ((2 ^ 16 * R : Nat) : Int) := by omega
  have b2 : 2 ^ 16 * R < 4294967296 := by omega
  have l3 : ((S : Int) * 16777216 : Int) = ((2 ^ 24 * S : Nat) : Int) := by omega
  have b3 : 2 ^ 24 * S < 4294967296 := by omega
  rw [l1, l2, l3]
  have a1 := or2 P (2 ^ 8 * Q) b0 b1
  rw [a1.1]
  have a2 := or2 _ (2 ^ 16 * R) a1.2 b2
  rw [a2.1]
  have a3 := or2 _ (2 ^ 24 * S) a2.2 b3
  rw [a3.1]
  have e : (((P ||| (2 ^ 8 * Q)) ||| (2 ^ 16 * R)) ||| (2 ^ 24 * S)) = (2 ^ 24 * S ||| (2 ^ 16 * R ||| (2 ^ 8 * Q ||| P))) := by ac_rfl
  rw [e, or_hi 8 Q _ (by omega), or_hi 16 R _ (by omega), or_hi 24 S _ (by omega)]
  omega

set_option maxHeartbeats 1000000 in
theorem four_yes (g off n cap : Nat) (o : Nat) (w : World) (hn : n ≤ 1048576) (hc : n ≤ cap) (ho : o + 4 ≤ n) :
    Calls Try.prog 85 #[.slice (some ⟨g, off, none⟩) n cap, .int .u32 o] w fun e w' => e = .returned (.slice (some ⟨g, off + o, none⟩) 4 (cap - o)) ∧ w' = w := by
  have h4 : ((o : Int) + 4) % 4294967296 = ((o + 4 : Nat) : Int) := by omega
  have hle : ((o + 4 : Nat) : Int) ≤ (cap : Int) := by omega
  have e4 : o + 4 - o = 4 := by omega
  go_enter Try.func85, Try.ntmps85
  go_wp2
  go_ret
  refine ⟨?_, rfl⟩
  show Ending.returned (.slice (some ⟨g, off + o, none⟩) (o + 4 - o) (cap - o)) = _
  rw [e4]
set_option maxHeartbeats 1000000 in
theorem four_no (a : Option Addr) (n cap : Nat) (o : Int) (w : World) (hn : n ≤ 1048576) (ho : 0 ≤ o ∧ o ≤ 4294967295) (hf : (n : Int) < o + 4) :
    Calls Try.prog 85 #[.slice a n cap, .int .u32 o] w fun e w' => e = .returned (.slice none 0 0) ∧ w' = w := by
  go_enter Try.func85, Try.ntmps85
  go_wp2
  go_ret
  exact ⟨rfl, rfl⟩
set_option maxHeartbeats 1000000 in
theorem read_any (g off cap : Nat) (p q r s : Int) (w : World) (hp : 0 ≤ p ∧ p ≤ 255) (hq : 0 ≤ q ∧ q ≤ 255) (hr : 0 ≤ r ∧ r ≤ 255) (hs : 0 ≤ s ∧ s ≤ 255)
    (c0 : w.cell? ⟨g, off, none⟩ = some (.int .u8 p)) (c1 : w.cell? ⟨g, off + 1, none⟩ = some (.int .u8 q)) (c2 : w.cell? ⟨g, off + 2, none⟩ = some (.int .u8 r)) (c3 : w.cell? ⟨g, off + 3, none⟩ = some (.int .u8 s)) :
    Calls Try.prog 74 #[.slice (some ⟨g, off, none⟩) 4 cap] w fun e w' => e = .returned (.int .u32 (p + q * 256 + r * 65536 + s * 16777216)) ∧ ∃ n, w' = w.drewN n := by
  go_enter Try.func74, Try.ntmps74
  go_wp2
  go_quiet (fail)
  go_wp2
  go_ret
  refine ⟨?_, _, rfl⟩
  rw [← or4 p q r s hp hq hr hs]
  rfl
set_option maxHeartbeats 1000000 in
theorem write_any (g off cap : Nat) (v : Int) (p q r s : Value) (w : World) (hv : 0 ≤ v ∧ v ≤ 4294967295)
    (c0 : w.cell? ⟨g, off, none⟩ = some p) (c1 : w.cell? ⟨g, off + 1, none⟩ = some q) (c2 : w.cell? ⟨g, off + 2, none⟩ = some r) (c3 : w.cell? ⟨g, off + 3, none⟩ = some s) (fz : ∀ j, w.frozen? ⟨g, j, none⟩ = false) :
    Calls Try.prog 75 #[.slice (some ⟨g, off, none⟩) 4 cap, .int .u32 v] w fun e w' => e = .returned (.tuple #[]) ∧ w' = (((w.setCell ⟨g, off, none⟩ (.int .u8 (v % 256))).setCell ⟨g, off + 1, none⟩ (.int .u8 (v / 256 % 256))).setCell ⟨g, off + 2, none⟩ (.int .u8 (v / 65536 % 256))).setCell ⟨g, off + 3, none⟩ (.int .u8 (v / 16777216)) := by
  go_enter Try.func75, Try.ntmps75
  go_wp2
  refine wp_loop_rounds 5 ?_
  rw [rounds_succ]
  go_wp2
  rw [rounds_succ]
  go_wp2
  rw [rounds_succ]
  go_wp2
  rw [rounds_succ]
  go_wp2
  rw [rounds_succ]
  go_wp2
  go_end0
  exact ⟨rfl, rfl⟩

theorem neq_nil (a : Option Addr) (l c : Nat) (w : World) : (binOp .neq 22 (.slice a l c) (.slice none 0 0)).run Try.prog w = .ok (.bool (!a.isNone)) w := run_neq_slice_nil_any w 22 5 a l c 0 0 Try.underlying22
set_option maxRecDepth 8000 in
set_option maxHeartbeats 1000000 in
theorem mem1 (C : Nat) (x : Int) (w : World) (hx : 0 ≤ x ∧ x ≤ 4294967295) (h4 : ¬ x % 4 = 0) :
    Calls Try.prog 73 #[.pointer (some ⟨C, 0, none⟩), .int .u32 x] w fun e w' => e = .returned (.slice none 0 0) ∧ ∃ n, w' = w.drewN n := by
  go_enter Try.func73, Try.ntmps73
  go_wp2
  go_ret
  exact ⟨rfl, 0, rfl⟩
set_option maxRecDepth 8000 in
set_option maxHeartbeats 400000 in
theorem mem2 (C g off n cap o : Nat) (w : World) (h4 : (1048576 + o) % 4 = 0) (c2 : w.cell? ⟨C, 2, none⟩ = some (.slice (some ⟨g, off, none⟩) n cap)) (hn : n ≤ 1048576) (hc : n ≤ cap) (hf : o + 4 ≤ n) :
    Calls Try.prog 73 #[.pointer (some ⟨C, 0, none⟩), .int .u32 (1048576 + o)] w fun e w' => e = .returned (.slice (some ⟨g, off + o, none⟩) 4 (cap - o)) ∧ ∃ n, w' = w.drewN n := by
  have hnn := fun w => neq_nil (some ⟨g, off + o, none⟩) 4 (cap - o) w
  simp only [Option.isNone_some, Bool.not_false] at hnn
  have h4' : ((1048576 : Int) + o) % 4 = 0 := by omega
  have e1 : ((1048576 : Int) + o - 1048576) = o := by omega
  clear h4
  go_enter Try.func73, Try.ntmps73
  go_wp2_with fail
  try rw [e1]
  refine (four_yes g off n cap o _ hn hc hf).mono ?_
  rintro e w1 ⟨rfl, rfl⟩
  go_wp2
  go_ret
  exact ⟨rfl, 0, rfl⟩

end Go.Proofs.Ytabjcodpagjbjaa

namespace Go.Proofs.Ytabjcodpagjbjaa
open Go.RowKit
set_option linter.unusedVariables false
set_option linter.unusedSimpArgs false
set_option maxRecDepth 8000 in
set_option maxHeartbeats 400000 in
theorem mem3 (C g off n cap o : Nat) (ad : Option Addr) (nd cd : Nat) (w : World) (h4 : ((1073741824 : Int) - n + o) % 4 = 0) (c2 : w.cell? ⟨C, 2, none⟩ = some (.slice ad nd cd)) (hnd : nd ≤ 1048576)
    (c3 : w.cell? ⟨C, 3, none⟩ = some (.slice (some ⟨g, off, none⟩) n cap)) (hn : n ≤ 1000000) (hc : n ≤ cap) (hf : o + 4 ≤ n) :
    Calls Try.prog 73 #[.pointer (some ⟨C, 0, none⟩), .int .u32 (1073741824 - n + o)] w fun e w' => e = .returned (.slice (some ⟨g, off + o, none⟩) 4 (cap - o)) ∧ ∃ n, w' = w.drewN n := by
  have hnn := neq_nil none 0 0
  simp only [Option.isNone_none, Bool.not_true] at hnn
  go_enter Try.func73, Try.ntmps73
  go_wp2_with fail
  refine (four_no ad nd cd _ _ hnd ?_ ?_).mono ?_
  · omega
  · omega
  rintro e w1 ⟨rfl, rfl⟩
  have e2 : ((1073741824 : Int) - n + o - (1073741824 - n)) = o := by omega
  have HY : Hid (∀ (W : World) (y : Int), y = o → Calls Try.prog 85 #[.slice (some ⟨g, off, none⟩) n cap, .int .u32 y] W fun e w' => e = .returned (.slice (some ⟨g, off + o, none⟩) 4 (cap - o)) ∧ w' = W) := fun W y hy => hy ▸ four_yes g off n cap o W (by omega) hc hf
  clear e2
  go_wp2_with fail
  go_region_held3 (fun W => W.cell? ⟨C, 3, none⟩ = some (.slice (some ⟨g, off, none⟩) n cap)) (first | exact c3 | assumption | (go_simp; done))
    (first
    | (go_at_call 85; refine (HY.out _ _ ?_).mono ?_; (simp only [IntKind.wrap_u32]; omega); rintro e w2 ⟨rfl, rfl⟩))
  go_wp2
  go_ret
  exact ⟨rfl, 1, rfl⟩

end Go.Proofs.Ytabjcodpagjbjaa

namespace Go.Proofs.Ytabjcodpagjbjaa
open Go.RowKit
set_option linter.unusedVariables false
set_option linter.unusedSimpArgs false
set_option maxRecDepth 8000 in
set_option maxHeartbeats 400000 in
theorem mem4 (C : Nat) (ad sa : Option Addr) (nd cd n cap : Nat) (x : Int) (w : World) (hx : 0 ≤ x ∧ x ≤ 4294967295) (h4 : x % 4 = 0) (c2 : w.cell? ⟨C, 2, none⟩ = some (.slice ad nd cd)) (hnd : nd ≤ 1048576) (hfd : x < 1048576 ∨ (nd : Int) < x - 1048576 + 4)
    (c3 : w.cell? ⟨C, 3, none⟩ = some (.slice sa n cap)) (hn : n ≤ 1000000) (hf : x < 1073741824 - n ∨ (n : Int) < x - (1073741824 - n) + 4) :
    Calls Try.prog 73 #[.pointer (some ⟨C, 0, none⟩), .int .u32 x] w fun e w' => e = .returned (.slice none 0 0) ∧ ∃ n, w' = w.drewN n := by
  have hnn := neq_nil none 0 0
  simp only [Option.isNone_none, Bool.not_true] at hnn
  have HF : Hid _ := hfd
  have HF2 : Hid _ := hf
  clear hfd hf
  go_enter Try.func73, Try.ntmps73
  go_wp2_with fail
  refine (four_no ad nd cd _ _ hnd ?_ ?_).mono ?_
  · omega
  · have := HF.out
    omega
  rintro e w1 ⟨rfl, rfl⟩
  have HY : Hid (∀ (W : World) (y : Int), 0 ≤ y ∧ y ≤ 4294967295 → (n : Int) < y + 4 → Calls Try.prog 85 #[.slice sa n cap, .int .u32 y] W fun e w' => e = .returned (.slice none 0 0) ∧ w' = W) := fun W y h1 h2 => four_no sa n cap y W (by omega) h1 h2
  go_wp2_with fail
  go_region_held3 (fun W => W.cell? ⟨C, 3, none⟩ = some (.slice sa n cap)) (first | exact c3 | assumption | (go_simp; done))
    (first
    | (go_at_call 85; refine (HY.out _ _ ?_ ?_).mono ?_; (simp only [IntKind.wrap_u32]; omega); (have := HF2.out; simp only [IntKind.wrap_u32]; omega); rintro e w2 ⟨rfl, rfl⟩))
  go_wp2
  go_ret
  exact ⟨rfl, 1, rfl⟩

end Go.Proofs.Ytabjcodpagjbjaa
