import Derived.Deep.Cut
import Derived.Test.YtabjcodpagjbjaaGreatK07
import Derived.Test.YtabjcodpagjbjaaGreatK08
import Derived.Test.YtabjcodpagjbjaaGreatK16
import Derived.Deep.RegionHeld3
import Derived.Test.YtabjcodpagjbjaaGreatK00
namespace Go.Proofs.YtabjcodpagjbjaaGreat
open Go.RowKit
set_option linter.unusedVariables false
set_option linter.unusedSimpArgs false

set_option maxRecDepth 8000 in
set_option maxHeartbeats 1000000 in
theorem gs_any (a : Option Addr) (len cap : Nat) (d bd : Int) (v : Value) (L : List Nat) (c : Mc) (w : World) (hl : len ≤ 1048576) (h : CpuV w v L c) (hs : c.regs.length ≤ 2097152 ∧ c.data.length ≤ 2097152 ∧ c.stack.length ≤ 2097152 ∧ c.inn.length ≤ 2097152 ∧ c.out.length ≤ 2097152) :
    Calls Tryz.prog 18 #[.agg #[.slice a len cap, .int .i64 d, .int .i64 bd], v] w fun e w' => e = .returned (.bool (vimg len d bd && goodB d bd c)) ∧ Below w.heap.size w w' := by
  obtain ⟨r, dv, sv, iv, ov, rfl, hr, hd, hs', hi, ho, hk, rfl, hnd⟩ := h
  have ho' := (Lis.of_own ho).1
  obtain ⟨x1, y1, rfl⟩ := hr.len0
  obtain ⟨x2, y2, rfl⟩ := hd.len0
  obtain ⟨x3, y3, rfl⟩ := hs'.len0
  obtain ⟨x4, y4, rfl⟩ := hi.len0
  obtain ⟨x5, y5, rfl⟩ := ho'.len0
  have B0 : Below w.heap.size w ((w.alloc (.cells #[.slice a len cap, .int .i64 d, .int .i64 bd] 34)).alloc (.cells #[.slice x1 c.regs.length y1, .int .u32 c.pc, .slice x2 c.data.length y2, .slice x3 c.stack.length y3, .slice x4 c.inn.length y4, .slice x5 c.out.length y5, .int .u32 c.low, .int .i64 c.st] 32)) := ((Below.refl _ _).alloc (Nat.le_refl _) _).alloc (by simp) _
  have M0 : ((w.alloc (.cells #[.slice a len cap, .int .i64 d, .int .i64 bd] 34)).alloc (.cells #[.slice x1 c.regs.length y1, .int .u32 c.pc, .slice x2 c.data.length y2, .slice x3 c.stack.length y3, .slice x4 c.inn.length y4, .slice x5 c.out.length y5, .int .u32 c.low, .int .i64 c.st] 32)).heap[w.heap.size]? = some (.cells #[.slice a len cap, .int .i64 d, .int .i64 bd] 34) := by rw [Below.heap_alloc _ _ _ (by simp)]; exact heap_alloc_new w _
  have C0 : Bx ((w.alloc (.cells #[.slice a len cap, .int .i64 d, .int .i64 bd] 34)).alloc (.cells #[.slice x1 c.regs.length y1, .int .u32 c.pc, .slice x2 c.data.length y2, .slice x3 c.stack.length y3, .slice x4 c.inn.length y4, .slice x5 c.out.length y5, .int .u32 c.low, .int .i64 c.st] 32)) (w.heap.size + 1) (.slice x1 c.regs.length y1) (.int .u32 c.pc) (.slice x2 c.data.length y2) (.slice x3 c.stack.length y3) (.slice x4 c.inn.length y4) (.slice x5 c.out.length y5) (.int .u32 c.low) (.int .i64 c.st) := Bx.of_heap (by have := heap_alloc_new (w.alloc (.cells #[.slice a len cap, .int .i64 d, .int .i64 bd] 34)) (.cells #[.slice x1 c.regs.length y1, .int .u32 c.pc, .slice x2 c.data.length y2, .slice x3 c.stack.length y3, .slice x4 c.inn.length y4, .slice x5 c.out.length y5, .int .u32 c.low, .int .i64 c.st] 32); simpa only [World.size_alloc] using this)
  have b1 : (c.regs.length : Int) ≤ 2097152 := by omega
  have b2 : (c.data.length : Int) ≤ 2097152 := by omega
  have b3 : (c.stack.length : Int) ≤ 2097152 := by omega
  have b4 : (c.inn.length : Int) ≤ 2097152 := by omega
  have b5 : (c.out.length : Int) ≤ 2097152 := by omega
  have HL : Hid (∀ W, Below w.heap.size w W → _) := fun W hW => And.intro (words_s _ c.inn W (by omega) (hi.below hW)) (words_s _ c.out W (by omega) (ho'.below hW))
  have HR : Hid _ := hr
  have HB0 : Hid _ := And.intro B0 (And.intro M0 C0)
  clear hr hd hs' hi ho ho' hk hnd hs B0 M0 C0
  go_enter Tryz.func18, Tryz.ntmps18
  go_wp2_with fail
  refine (vs_any a len cap d bd _ hl).mono ?_
  rintro e w1 ⟨rfl, hb1⟩
  have s1 := hb1.size
  simp only [World.size_alloc] at s1
  have B1 := HB0.out.1.trans (hb1.mono HB0.out.1.size)
  have M1 := (hb1.block w.heap.size (by simp; omega)).trans HB0.out.2.1
  have C1 := HB0.out.2.2.below hb1
  have HB1 : Hid _ := And.intro B1 C1
  obtain ⟨c00, c01, c02, c03, c04, c05, c06, c07, c0f⟩ := id C1
  have m01 := cell_of M1 (j := 1) rfl
  have m02 := cell_of M1 (j := 2) rfl
  clear B1 M1 C1 hb1
  cases hv : vimg len d bd with
  | false =>
    go_wp2
    go_ret
    exact ⟨ret_b (by simp [hv]), HB1.out.1⟩
  | true =>
    by_cases h1 : c.regs.length = 32
    · obtain ⟨g, off, cap1, e, hR, hbk⟩ := lis_some HR.out (by omega)
      simp only [Value.slice.injEq] at e
      obtain ⟨rfl, _, rfl⟩ := e
      have cz := (hR.keep HB1.out.1.size (HB1.out.1.block g hR.lt)).cell 0 (by omega)
      simp only [Nat.add_zero] at cz
      rw [h1] at c00
      have HH1 : Hid _ := h1
      clear hR hbk h1 b1
      generalize hx0 : c.regs.getD 0 0 = q0 at *
      by_cases h2 : q0 = 0
      · subst h2
        by_cases h3 : (c.data.length : Int) = d
        · by_cases h4 : (c.stack.length : Int) = bd
          · have h3' : ((c.data.length : Int) == d) = true := by simpa using h3
            have h4' : ((c.stack.length : Int) == bd) = true := by simpa using h4
            have HH : Hid _ := And.intro h3 h4
            clear h3 h4
            by_cases h5 : (c.inn.length : Int) ≤ 1000
            · go_wp2_with fail
              refine (HL.out _ HB1.out.1).1.mono ?_
              rintro e w2 ⟨rfl, n2, rfl⟩
              have C2 := HB1.out.2.drewN n2
              clear c00 c01 c02 c03 c04 c05 c06 c07 c0f cz m01 m02
              obtain ⟨c00, c01, c02, c03, c04, c05, c06, c07, c0f⟩ := id C2
              have B2 := below_drewN HB1.out.1 n2
              have HB2 : Hid _ := And.intro B2 C2
              clear B2 C2
              cases hin : wrds c.inn with
              | false =>
                go_wp2
                go_ret
                exact ⟨ret_b (by have hgf : goodB d bd c = false := decide_eq_false (fun h => by have := h.2.2.2.2.1; unfold okIn at this; rw [hin] at this; simp at this); simp [hgf]), HB2.out.1⟩
              | true =>
                by_cases h6 : (c.out.length : Int) ≤ 1000000
                · go_wp2_with fail
                  refine (HL.out _ HB2.out.1).2.mono ?_
                  rintro e w3 ⟨rfl, n3, rfl⟩
                  have C3 := HB1.out.2.drewN (n2 + n3)
                  clear c00 c01 c02 c03 c04 c05 c06 c07 c0f
                  obtain ⟨c00, c01, c02, c03, c04, c05, c06, c07, c0f⟩ := id C3
                  have HB3 : Hid _ := And.intro (below_drewN HB1.out.1 (n2 + n3)) C3
                  clear C3
                  cases how : wrds c.out with
                  | false =>
                    go_wp2
                    go_ret
                    exact ⟨ret_b (by have hgf : goodB d bd c = false := decide_eq_false (fun h => by have := h.2.2.2.2.2.2.1; rw [how] at this; cases this); simp [hgf]), HB3.out.1⟩
                  | true =>
                    go_wp2_with fail
                    refine (in_any _ _ _ _).mono ?_
                    rintro e w4 ⟨rfl, rfl⟩
                    go_wp2
                    go_ret
                    refine ⟨ret_b ?_, HB3.out.1⟩
                    have hok : okIn c.inn = true := by unfold okIn; rw [hin]; simp; omega
                    by_cases h8 : 0 ≤ c.st ∧ c.st ≤ 2
                    · rw [hv, show goodB d bd c = true from decide_eq_true ⟨HH1.out, hx0, HH.out.1, HH.out.2, hok, h6, how, h8.1, h8.2⟩]
                      unfold inB
                      simp
                      omega
                    · rw [hv, show goodB d bd c = false from decide_eq_false (fun h => h8 h.2.2.2.2.2.2.2)]
                      unfold inB
                      simp
                      omega
                · go_wp2
                  go_ret
                  exact ⟨ret_b (by have hgf : goodB d bd c = false := decide_eq_false (fun h => by have := h.2.2.2.2.2.1; omega); simp [hgf]), HB2.out.1⟩
            · go_wp2
              go_ret
              exact ⟨ret_b (by have hgf : goodB d bd c = false := decide_eq_false (fun h => by have := h.2.2.2.2.1; unfold okIn at this; simp at this; omega); simp [hgf]), HB1.out.1⟩
          · have h3' : ((c.data.length : Int) == d) = true := by simpa using h3
            have h4' : ((c.stack.length : Int) == bd) = false := by simpa using h4
            go_wp2
            go_ret
            exact ⟨ret_b (by have hgf : goodB d bd c = false := decide_eq_false (fun h => h4 h.2.2.2.1); simp [hgf]), HB1.out.1⟩
        · have h3' : ((c.data.length : Int) == d) = false := by simpa using h3
          go_wp2
          go_ret
          exact ⟨ret_b (by have hgf : goodB d bd c = false := decide_eq_false (fun h => h3 h.2.2.1); simp [hgf]), HB1.out.1⟩
      · have h2' : (q0 == 0) = false := by simpa using h2
        go_wp2
        go_ret
        exact ⟨ret_b (by have hgf : goodB d bd c = false := decide_eq_false (fun h => h2 (hx0 ▸ h.2.1)); simp [hgf]), HB1.out.1⟩
    · have h1' : ((c.regs.length : Int) == 32) = false := by simp; omega
      go_wp2
      go_ret
      exact ⟨ret_b (by have hgf : goodB d bd c = false := decide_eq_false (fun h => h1 h.1); simp [hgf]), HB1.out.1⟩

end Go.Proofs.YtabjcodpagjbjaaGreat

namespace Go.Proofs.YtabjcodpagjbjaaGreat
open Go.RowKit
set_option linter.unusedVariables false
set_option linter.unusedSimpArgs false

theorem news_of {k : IntKind} {V : World} {zs : List Int} {ad : Addr} {cap : Nat} (ty : TypeId) (h : Lis k V (.slice (some ad) zs.length cap) zs) : ∀ j u, (zs.map (Value.int k))[j]? = some u → (V.alloc (.cells #[] ty)).cell? (ad.add j) = some u := by
  intro j u hj
  have hj' : j < zs.length := by
    have := (List.getElem?_eq_some_iff.mp hj).1
    simpa using this
  obtain ⟨a, cp, e, hr⟩ := h
  simp only [Value.slice.injEq] at e
  obtain ⟨rfl, _, _⟩ := e
  obtain ⟨g, off, e, hR⟩ := hr (by omega)
  simp only [Option.some.injEq] at e
  subst e
  rw [Addr.add_lit]
  rw [((Below.refl V.heap.size V).alloc (Nat.le_refl _) _).cell (p := ⟨g, off + j, none⟩) hR.lt, hR.cell j hj']
  simp only [List.getElem?_map, Option.map_eq_some_iff] at hj
  obtain ⟨z, hz, rfl⟩ := hj
  simp [List.getD, hz]
theorem ones_of (k : IntKind) (zs : List Int) : ∀ u ∈ zs.map (Value.int k), u.oneCell' = true := by
  intro u hu
  simp only [List.mem_map] at hu
  obtain ⟨z, _, rfl⟩ := hu
  rfl


set_option maxRecDepth 8000 in
set_option maxHeartbeats 2000000 in
theorem cp_any (a1 a2 a3 a4 a5 : Addr) (y1 y2 y3 y4 y5 : Nat) (L : List Nat) (c : Mc) (w : World) (h : CpuV w (.agg #[.slice (some a1) c.regs.length y1, .int .u32 c.pc, .slice (some a2) c.data.length y2, .slice (some a3) c.stack.length y3, .slice (some a4) c.inn.length y4, .slice (some a5) c.out.length y5, .int .u32 c.low, .int .i64 c.st]) L c) (hs : c.regs.length ≤ 2097152 ∧ c.data.length ≤ 2097152 ∧ c.stack.length ≤ 2097152 ∧ c.inn.length ≤ 2097152 ∧ c.out.length ≤ 2097152) :
    Calls Tryz.prog 20 #[.agg #[.slice (some a1) c.regs.length y1, .int .u32 c.pc, .slice (some a2) c.data.length y2, .slice (some a3) c.stack.length y3, .slice (some a4) c.inn.length y4, .slice (some a5) c.out.length y5, .int .u32 c.low, .int .i64 c.st]] w fun e w' => ∃ u, e = .returned u ∧ CpuAt w' w.heap.size u c ∧ Below w.heap.size w w' := by
  obtain ⟨r, dv, sv, iv, ov, hv, hr, hd, hs', hi, ho, hk, rfl, hnd⟩ := h
  simp only [Value.agg.injEq, Array.mk.injEq, List.cons.injEq, and_true, true_and] at hv
  obtain ⟨rfl, rfl, rfl, rfl, rfl⟩ := hv
  have ho' := (Lis.of_own ho).1
  obtain ⟨i32, hi32, hz320, hz321, hz322⟩ := info_parts Tryz.infu32
  obtain ⟨i8, hi8, hz80, hz81, hz82⟩ := info_parts Tryz.infu8
  obtain ⟨i64', hi64, hz640, hz641, hz642⟩ := info_parts Tryz.infi64
  have B0 : Below w.heap.size w (((w.alloc (.cells #[.slice (some a1) c.regs.length y1, .int .u32 c.pc, .slice (some a2) c.data.length y2, .slice (some a3) c.stack.length y3, .slice (some a4) c.inn.length y4, .slice (some a5) c.out.length y5, .int .u32 c.low, .int .i64 c.st] 32)).alloc (.cells #[.slice none 0 0, .int .u32 0, .slice none 0 0, .slice none 0 0, .slice none 0 0, .slice none 0 0, .int .u32 0, .int .i64 0] 32)).alloc (.cells #[.slice (some a1) c.regs.length y1, .int .u32 c.pc, .slice (some a2) c.data.length y2, .slice (some a3) c.stack.length y3, .slice (some a4) c.inn.length y4, .slice (some a5) c.out.length y5, .int .u32 c.low, .int .i64 c.st] 32)) := (((Below.refl _ _).alloc (Nat.le_refl _) _).alloc (by simp) _).alloc (by simp; omega) _
  have S0 : Bx (((w.alloc (.cells #[.slice (some a1) c.regs.length y1, .int .u32 c.pc, .slice (some a2) c.data.length y2, .slice (some a3) c.stack.length y3, .slice (some a4) c.inn.length y4, .slice (some a5) c.out.length y5, .int .u32 c.low, .int .i64 c.st] 32)).alloc (.cells #[.slice none 0 0, .int .u32 0, .slice none 0 0, .slice none 0 0, .slice none 0 0, .slice none 0 0, .int .u32 0, .int .i64 0] 32)).alloc (.cells #[.slice (some a1) c.regs.length y1, .int .u32 c.pc, .slice (some a2) c.data.length y2, .slice (some a3) c.stack.length y3, .slice (some a4) c.inn.length y4, .slice (some a5) c.out.length y5, .int .u32 c.low, .int .i64 c.st] 32)) w.heap.size (.slice (some a1) c.regs.length y1) (.int .u32 c.pc) (.slice (some a2) c.data.length y2) (.slice (some a3) c.stack.length y3) (.slice (some a4) c.inn.length y4) (.slice (some a5) c.out.length y5) (.int .u32 c.low) (.int .i64 c.st) := Bx.of_heap (by rw [Below.heap_alloc _ _ _ (by simp; omega), Below.heap_alloc _ _ _ (by simp)]; exact heap_alloc_new w _)
  have R0 : Bx (((w.alloc (.cells #[.slice (some a1) c.regs.length y1, .int .u32 c.pc, .slice (some a2) c.data.length y2, .slice (some a3) c.stack.length y3, .slice (some a4) c.inn.length y4, .slice (some a5) c.out.length y5, .int .u32 c.low, .int .i64 c.st] 32)).alloc (.cells #[.slice none 0 0, .int .u32 0, .slice none 0 0, .slice none 0 0, .slice none 0 0, .slice none 0 0, .int .u32 0, .int .i64 0] 32)).alloc (.cells #[.slice (some a1) c.regs.length y1, .int .u32 c.pc, .slice (some a2) c.data.length y2, .slice (some a3) c.stack.length y3, .slice (some a4) c.inn.length y4, .slice (some a5) c.out.length y5, .int .u32 c.low, .int .i64 c.st] 32)) (w.heap.size + 1) (.slice none 0 0) (.int .u32 0) (.slice none 0 0) (.slice none 0 0) (.slice none 0 0) (.slice none 0 0) (.int .u32 0) (.int .i64 0) := Bx.of_heap (by rw [Below.heap_alloc _ _ _ (by simp)]; have := heap_alloc_new (w.alloc (.cells #[.slice (some a1) c.regs.length y1, .int .u32 c.pc, .slice (some a2) c.data.length y2, .slice (some a3) c.stack.length y3, .slice (some a4) c.inn.length y4, .slice (some a5) c.out.length y5, .int .u32 c.low, .int .i64 c.st] 32)) (.cells #[.slice none 0 0, .int .u32 0, .slice none 0 0, .slice none 0 0, .slice none 0 0, .slice none 0 0, .int .u32 0, .int .i64 0] 32); simpa only [World.size_alloc] using this)
  have C0 : Bx (((w.alloc (.cells #[.slice (some a1) c.regs.length y1, .int .u32 c.pc, .slice (some a2) c.data.length y2, .slice (some a3) c.stack.length y3, .slice (some a4) c.inn.length y4, .slice (some a5) c.out.length y5, .int .u32 c.low, .int .i64 c.st] 32)).alloc (.cells #[.slice none 0 0, .int .u32 0, .slice none 0 0, .slice none 0 0, .slice none 0 0, .slice none 0 0, .int .u32 0, .int .i64 0] 32)).alloc (.cells #[.slice (some a1) c.regs.length y1, .int .u32 c.pc, .slice (some a2) c.data.length y2, .slice (some a3) c.stack.length y3, .slice (some a4) c.inn.length y4, .slice (some a5) c.out.length y5, .int .u32 c.low, .int .i64 c.st] 32)) (w.heap.size + 1 + 1) (.slice (some a1) c.regs.length y1) (.int .u32 c.pc) (.slice (some a2) c.data.length y2) (.slice (some a3) c.stack.length y3) (.slice (some a4) c.inn.length y4) (.slice (some a5) c.out.length y5) (.int .u32 c.low) (.int .i64 c.st) := Bx.of_heap (by have := heap_alloc_new ((w.alloc (.cells #[.slice (some a1) c.regs.length y1, .int .u32 c.pc, .slice (some a2) c.data.length y2, .slice (some a3) c.stack.length y3, .slice (some a4) c.inn.length y4, .slice (some a5) c.out.length y5, .int .u32 c.low, .int .i64 c.st] 32)).alloc (.cells #[.slice none 0 0, .int .u32 0, .slice none 0 0, .slice none 0 0, .slice none 0 0, .slice none 0 0, .int .u32 0, .int .i64 0] 32)) (.cells #[.slice (some a1) c.regs.length y1, .int .u32 c.pc, .slice (some a2) c.data.length y2, .slice (some a3) c.stack.length y3, .slice (some a4) c.inn.length y4, .slice (some a5) c.out.length y5, .int .u32 c.low, .int .i64 c.st] 32); simpa only [World.size_alloc] using this)
  have HL : Hid _ := And.intro hr (And.intro hd (And.intro hs' (And.intro hi (And.intro ho' hs))))
  obtain ⟨V0, hV0⟩ : ∃ V0, V0 = (((w.alloc (.cells #[.slice (some a1) c.regs.length y1, .int .u32 c.pc, .slice (some a2) c.data.length y2, .slice (some a3) c.stack.length y3, .slice (some a4) c.inn.length y4, .slice (some a5) c.out.length y5, .int .u32 c.low, .int .i64 c.st] 32)).alloc (.cells #[.slice none 0 0, .int .u32 0, .slice none 0 0, .slice none 0 0, .slice none 0 0, .slice none 0 0, .int .u32 0, .int .i64 0] 32)).alloc (.cells #[.slice (some a1) c.regs.length y1, .int .u32 c.pc, .slice (some a2) c.data.length y2, .slice (some a3) c.stack.length y3, .slice (some a4) c.inn.length y4, .slice (some a5) c.out.length y5, .int .u32 c.low, .int .i64 c.st] 32)) := ⟨_, rfl⟩
  have z0 : V0.heap.size = w.heap.size + 3 := by rw [hV0]; simp
  have HZ0 : Hid _ := z0
  clear z0
  rw [← hV0] at B0 S0 R0 C0
  have HB0 : Hid _ := And.intro B0 (And.intro C0 (And.intro R0 S0))
  clear hr hd hs' hi ho ho' hk hnd hs B0 C0 R0 S0
  go_enter Tryz.func20, Tryz.ntmps20
  go_upto_region 2 with fail
  rw [← hV0]
  clear hV0
  obtain ⟨d10, d11, d12, d13, d14, d15, d16, d17, d1f⟩ := HB0.out.2.2.2.alloc (.cells #[] 25)
  have hnw1 := news_of 25 (HL.out.1.below HB0.out.1)
  have h11 := ones_of .u32 c.regs
  have hlb1 : c.regs.length ≤ 2097152 := HL.out.2.2.2.2.2.1
  have HNW1 : Hid _ := And.intro hnw1 (And.intro h11 hlb1)
  clear hnw1 h11 hlb1
  go_wp2_with (at_builtin; refine wpList_append_own _ rfl _ _ 22 rfl V0.heap.size 25 i32 (.int .u32 0) 1 4 Tryz.underlying22 hi32 hz320 hz321 hz322 rfl (by decide) _ 0 [] rfl (World.ownsRow_lit V0 #[] 0 (Nat.le_refl _) (by decide) rfl) a1 c.regs.length y1 (c.regs.map (Value.int .u32)) rfl (by simp) HNW1.out.1 HNW1.out.2.1 (by unfold maxLen; have := HNW1.out.2.2; omega) (by have := HNW1.out.2.2; omega) (by simp) ?_)
  intro v1' w1 o1 hgr1 _
  have hb1 : Below V0.heap.size V0 w1 := ((Below.refl _ _).alloc (Nat.le_refl _) _).grown hgr1 (by simp) (by simp [Value.ownBlock])
  try rw [List.nil_append] at o1
  try rw [Nat.zero_add] at o1
  obtain ⟨p1, q1, rfl⟩ := own_slice o1
  have HS1 : Hid (V0.heap.size ≤ w1.heap.size) := hb1.size
  have CB1 := HB0.out.2.1.below hb1
  have RB1 := HB0.out.2.2.1.below hb1
  have SB1 := HB0.out.2.2.2.below hb1
  have T1 := (Tcs.refl (fun k => k = w.heap.size + 1 + 1) w1).setCell (p := ⟨w.heap.size + 1 + 1, 0, none⟩) rfl (.slice p1 c.regs.length q1)
  have n1 : w1.ownsRow V0.heap.size 25 1 (.slice p1 c.regs.length q1) c.regs.length (c.regs.map (Value.int .u32)) := o1
  have l1 : Hid (∀ g ∈ obk (.slice p1 c.regs.length q1), g < w1.heap.size) := fun g hg => ((own_obk n1).2 g hg).2
  clear d10 d11 d12 d13 d14 d15 d16 d17 d1f hgr1
  obtain ⟨c10, c11, c12, c13, c14, c15, c16, c17, c1f⟩ := id CB1
  have HK1 : Hid _ := And.intro n1 (And.intro hb1 (And.intro CB1 (And.intro RB1 (And.intro SB1 T1))))
  clear n1 hb1 CB1 RB1 SB1 T1 o1
  go_upto_region 3 with fail
  obtain ⟨n1, hb1, CB1, RB1, SB1, T1⟩ := HK1.out
  have yz0 := HZ0.out
  have ys1 := HS1.out
  obtain ⟨V1, hV1⟩ : ∃ V1, V1 = w1.setCell ⟨w.heap.size + 1 + 1, 0, none⟩ (.slice p1 c.regs.length q1) := ⟨_, rfl⟩
  rw [← hV1] at T1 ⊢
  have C1 : Bx V1 (w.heap.size + 1 + 1) (.slice p1 c.regs.length q1) (.int .u32 c.pc) (.slice (some a2) c.data.length y2) (.slice (some a3) c.stack.length y3) (.slice (some a4) c.inn.length y4) (.slice (some a5) c.out.length y5) (.int .u32 c.low) (.int .i64 c.st) := by rw [hV1]; exact CB1.s0 _
  have R1 := RB1.keep (T1.block _ RB1.lt (by omega))
  have S1 := SB1.keep (T1.block _ SB1.lt (by omega))
  have yz1 : V1.heap.size = w1.heap.size := by rw [hV1]; simp
  have HZ1 : Hid _ := yz1
  have N1 := own_tcs n1 T1 (fun g hg e => by have := ((own_obk n1).2 g hg).1; have := HB0.out.1.size; omega)
  have BB1 : Below w.heap.size w V1 := T1.below (HB0.out.1.trans (hb1.mono HB0.out.1.size)) (by have := HB0.out.1.size; omega) (by rintro k rfl; omega)
  have M1_1 : Hid _ := N1
  have HB1 : Hid _ := And.intro BB1 (And.intro C1 (And.intro R1 S1))
  clear hV1 C1 R1 S1 N1 BB1 CB1 RB1 SB1 T1 n1 hb1 c10 c11 c12 c13 c14 c15 c16 c17 c1f HK1  yz0 yz1 ys1
  obtain ⟨d20, d21, d22, d23, d24, d25, d26, d27, d2f⟩ := HB1.out.2.2.2.alloc (.cells #[] 5)
  have hnw2 := news_of 5 (HL.out.2.1.below HB1.out.1)
  have h12 := ones_of .u8 c.data
  have hlb2 : c.data.length ≤ 2097152 := HL.out.2.2.2.2.2.2.1
  have HNW2 : Hid _ := And.intro hnw2 (And.intro h12 hlb2)
  clear hnw2 h12 hlb2
  go_wp2_with (at_builtin; refine wpList_append_own _ rfl _ _ 26 rfl V1.heap.size 5 i8 (.int .u8 0) 1 1 Tryz.underlying26 hi8 hz80 hz81 hz82 rfl (by decide) _ 0 [] rfl (World.ownsRow_lit V1 #[] 0 (Nat.le_refl _) (by decide) rfl) a2 c.data.length y2 (c.data.map (Value.int .u8)) rfl (by simp) HNW2.out.1 HNW2.out.2.1 (by unfold maxLen; have := HNW2.out.2.2; omega) (by have := HNW2.out.2.2; omega) (by simp) ?_)
  intro v2' w2 o2 hgr2 _
  have hb2 : Below V1.heap.size V1 w2 := ((Below.refl _ _).alloc (Nat.le_refl _) _).grown hgr2 (by simp) (by simp [Value.ownBlock])
  try rw [List.nil_append] at o2
  try rw [Nat.zero_add] at o2
  obtain ⟨p2, q2, rfl⟩ := own_slice o2
  have HS2 : Hid (V1.heap.size ≤ w2.heap.size) := hb2.size
  have CB2 := HB1.out.2.1.below hb2
  have RB2 := HB1.out.2.2.1.below hb2
  have SB2 := HB1.out.2.2.2.below hb2
  have T2 := (Tcs.refl (fun k => k = w.heap.size + 1 + 1) w2).setCell (p := ⟨w.heap.size + 1 + 1, 2, none⟩) rfl (.slice p2 c.data.length q2)
  have n2 : w2.ownsRow V1.heap.size 5 1 (.slice p2 c.data.length q2) c.data.length (c.data.map (Value.int .u8)) := o2
  have l2 : Hid (∀ g ∈ obk (.slice p2 c.data.length q2), g < w2.heap.size) := fun g hg => ((own_obk n2).2 g hg).2
  clear d20 d21 d22 d23 d24 d25 d26 d27 d2f hgr2
  obtain ⟨c20, c21, c22, c23, c24, c25, c26, c27, c2f⟩ := id CB2
  have HK2 : Hid _ := And.intro n2 (And.intro hb2 (And.intro CB2 (And.intro RB2 (And.intro SB2 T2))))
  clear n2 hb2 CB2 RB2 SB2 T2 o2
  go_upto_region 4 with fail
  obtain ⟨n2, hb2, CB2, RB2, SB2, T2⟩ := HK2.out
  have yz0 := HZ0.out
  have yz1 := HZ1.out
  have ys1 := HS1.out
  have ys2 := HS2.out
  obtain ⟨V2, hV2⟩ : ∃ V2, V2 = w2.setCell ⟨w.heap.size + 1 + 1, 2, none⟩ (.slice p2 c.data.length q2) := ⟨_, rfl⟩
  rw [← hV2] at T2 ⊢
  have C2 : Bx V2 (w.heap.size + 1 + 1) (.slice p1 c.regs.length q1) (.int .u32 c.pc) (.slice p2 c.data.length q2) (.slice (some a3) c.stack.length y3) (.slice (some a4) c.inn.length y4) (.slice (some a5) c.out.length y5) (.int .u32 c.low) (.int .i64 c.st) := by rw [hV2]; exact CB2.s2 _
  have R2 := RB2.keep (T2.block _ RB2.lt (by omega))
  have S2 := SB2.keep (T2.block _ SB2.lt (by omega))
  have yz2 : V2.heap.size = w2.heap.size := by rw [hV2]; simp
  have HZ2 : Hid _ := yz2
  have N2 := own_tcs n2 T2 (fun g hg e => by have := ((own_obk n2).2 g hg).1; have := HB1.out.1.size; omega)
  have N21 := own_tcs (own_below M1_1.out hb2) T2 (fun g hg e => by have := ((own_obk M1_1.out).2 g hg).1; omega)
  have BB2 : Below w.heap.size w V2 := T2.below (HB1.out.1.trans (hb2.mono HB1.out.1.size)) (by have := HB1.out.1.size; omega) (by rintro k rfl; omega)
  have M2_1 : Hid _ := N21
  have M2_2 : Hid _ := N2
  have HB2 : Hid _ := And.intro BB2 (And.intro C2 (And.intro R2 S2))
  clear hV2 C2 R2 S2 N2 BB2 CB2 RB2 SB2 T2 n2 hb2 c20 c21 c22 c23 c24 c25 c26 c27 c2f HK2 N21 yz0 yz1 yz2 ys1 ys2
  obtain ⟨d30, d31, d32, d33, d34, d35, d36, d37, d3f⟩ := HB2.out.2.2.2.alloc (.cells #[] 5)
  have hnw3 := news_of 5 (HL.out.2.2.1.below HB2.out.1)
  have h13 := ones_of .u8 c.stack
  have hlb3 : c.stack.length ≤ 2097152 := HL.out.2.2.2.2.2.2.2.1
  have HNW3 : Hid _ := And.intro hnw3 (And.intro h13 hlb3)
  clear hnw3 h13 hlb3
  go_wp2_with (at_builtin; refine wpList_append_own _ rfl _ _ 26 rfl V2.heap.size 5 i8 (.int .u8 0) 1 1 Tryz.underlying26 hi8 hz80 hz81 hz82 rfl (by decide) _ 0 [] rfl (World.ownsRow_lit V2 #[] 0 (Nat.le_refl _) (by decide) rfl) a3 c.stack.length y3 (c.stack.map (Value.int .u8)) rfl (by simp) HNW3.out.1 HNW3.out.2.1 (by unfold maxLen; have := HNW3.out.2.2; omega) (by have := HNW3.out.2.2; omega) (by simp) ?_)
  intro v3' w3 o3 hgr3 _
  have hb3 : Below V2.heap.size V2 w3 := ((Below.refl _ _).alloc (Nat.le_refl _) _).grown hgr3 (by simp) (by simp [Value.ownBlock])
  try rw [List.nil_append] at o3
  try rw [Nat.zero_add] at o3
  obtain ⟨p3, q3, rfl⟩ := own_slice o3
  have HS3 : Hid (V2.heap.size ≤ w3.heap.size) := hb3.size
  have CB3 := HB2.out.2.1.below hb3
  have RB3 := HB2.out.2.2.1.below hb3
  have SB3 := HB2.out.2.2.2.below hb3
  have T3 := (Tcs.refl (fun k => k = w.heap.size + 1 + 1) w3).setCell (p := ⟨w.heap.size + 1 + 1, 3, none⟩) rfl (.slice p3 c.stack.length q3)
  have n3 : w3.ownsRow V2.heap.size 5 1 (.slice p3 c.stack.length q3) c.stack.length (c.stack.map (Value.int .u8)) := o3
  have l3 : Hid (∀ g ∈ obk (.slice p3 c.stack.length q3), g < w3.heap.size) := fun g hg => ((own_obk n3).2 g hg).2
  clear d30 d31 d32 d33 d34 d35 d36 d37 d3f hgr3
  obtain ⟨c30, c31, c32, c33, c34, c35, c36, c37, c3f⟩ := id CB3
  have HK3 : Hid _ := And.intro n3 (And.intro hb3 (And.intro CB3 (And.intro RB3 (And.intro SB3 T3))))
  clear n3 hb3 CB3 RB3 SB3 T3 o3
  go_upto_region 5 with fail
  obtain ⟨n3, hb3, CB3, RB3, SB3, T3⟩ := HK3.out
  have yz0 := HZ0.out
  have yz1 := HZ1.out
  have yz2 := HZ2.out
  have ys1 := HS1.out
  have ys2 := HS2.out
  have ys3 := HS3.out
  obtain ⟨V3, hV3⟩ : ∃ V3, V3 = w3.setCell ⟨w.heap.size + 1 + 1, 3, none⟩ (.slice p3 c.stack.length q3) := ⟨_, rfl⟩
  rw [← hV3] at T3 ⊢
  have C3 : Bx V3 (w.heap.size + 1 + 1) (.slice p1 c.regs.length q1) (.int .u32 c.pc) (.slice p2 c.data.length q2) (.slice p3 c.stack.length q3) (.slice (some a4) c.inn.length y4) (.slice (some a5) c.out.length y5) (.int .u32 c.low) (.int .i64 c.st) := by rw [hV3]; exact CB3.s3 _
  have R3 := RB3.keep (T3.block _ RB3.lt (by omega))
  have S3 := SB3.keep (T3.block _ SB3.lt (by omega))
  have yz3 : V3.heap.size = w3.heap.size := by rw [hV3]; simp
  have HZ3 : Hid _ := yz3
  have N3 := own_tcs n3 T3 (fun g hg e => by have := ((own_obk n3).2 g hg).1; have := HB2.out.1.size; omega)
  have N31 := own_tcs (own_below M2_1.out hb3) T3 (fun g hg e => by have := ((own_obk M2_1.out).2 g hg).1; omega)
  have N32 := own_tcs (own_below M2_2.out hb3) T3 (fun g hg e => by have := ((own_obk M2_2.out).2 g hg).1; omega)
  have BB3 : Below w.heap.size w V3 := T3.below (HB2.out.1.trans (hb3.mono HB2.out.1.size)) (by have := HB2.out.1.size; omega) (by rintro k rfl; omega)
  have M3_1 : Hid _ := N31
  have M3_2 : Hid _ := N32
  have M3_3 : Hid _ := N3
  have HB3 : Hid _ := And.intro BB3 (And.intro C3 (And.intro R3 S3))
  clear hV3 C3 R3 S3 N3 BB3 CB3 RB3 SB3 T3 n3 hb3 c30 c31 c32 c33 c34 c35 c36 c37 c3f HK3 N31 N32 yz0 yz1 yz2 yz3 ys1 ys2 ys3
  obtain ⟨d40, d41, d42, d43, d44, d45, d46, d47, d4f⟩ := HB3.out.2.2.2.alloc (.cells #[] 2)
  have hnw4 := news_of 2 (HL.out.2.2.2.1.below HB3.out.1)
  have h14 := ones_of .i64 c.inn
  have hlb4 : c.inn.length ≤ 2097152 := HL.out.2.2.2.2.2.2.2.2.1
  have HNW4 : Hid _ := And.intro hnw4 (And.intro h14 hlb4)
  clear hnw4 h14 hlb4
  go_wp2_with (at_builtin; refine wpList_append_own _ rfl _ _ 27 rfl V3.heap.size 2 i64' (.int .i64 0) 1 8 Tryz.underlying27 hi64 hz640 hz641 hz642 rfl (by decide) _ 0 [] rfl (World.ownsRow_lit V3 #[] 0 (Nat.le_refl _) (by decide) rfl) a4 c.inn.length y4 (c.inn.map (Value.int .i64)) rfl (by simp) HNW4.out.1 HNW4.out.2.1 (by unfold maxLen; have := HNW4.out.2.2; omega) (by have := HNW4.out.2.2; omega) (by simp) ?_)
  intro v4' w4 o4 hgr4 _
  have hb4 : Below V3.heap.size V3 w4 := ((Below.refl _ _).alloc (Nat.le_refl _) _).grown hgr4 (by simp) (by simp [Value.ownBlock])
  try rw [List.nil_append] at o4
  try rw [Nat.zero_add] at o4
  obtain ⟨p4, q4, rfl⟩ := own_slice o4
  have HS4 : Hid (V3.heap.size ≤ w4.heap.size) := hb4.size
  have CB4 := HB3.out.2.1.below hb4
  have RB4 := HB3.out.2.2.1.below hb4
  have SB4 := HB3.out.2.2.2.below hb4
  have T4 := (Tcs.refl (fun k => k = w.heap.size + 1 + 1) w4).setCell (p := ⟨w.heap.size + 1 + 1, 4, none⟩) rfl (.slice p4 c.inn.length q4)
  have n4 : w4.ownsRow V3.heap.size 2 1 (.slice p4 c.inn.length q4) c.inn.length (c.inn.map (Value.int .i64)) := o4
  have l4 : Hid (∀ g ∈ obk (.slice p4 c.inn.length q4), g < w4.heap.size) := fun g hg => ((own_obk n4).2 g hg).2
  clear d40 d41 d42 d43 d44 d45 d46 d47 d4f hgr4
  obtain ⟨c40, c41, c42, c43, c44, c45, c46, c47, c4f⟩ := id CB4
  have HK4 : Hid _ := And.intro n4 (And.intro hb4 (And.intro CB4 (And.intro RB4 (And.intro SB4 T4))))
  clear n4 hb4 CB4 RB4 SB4 T4 o4
  go_upto_region 6 with fail
  obtain ⟨n4, hb4, CB4, RB4, SB4, T4⟩ := HK4.out
  have yz0 := HZ0.out
  have yz1 := HZ1.out
  have yz2 := HZ2.out
  have yz3 := HZ3.out
  have ys1 := HS1.out
  have ys2 := HS2.out
  have ys3 := HS3.out
  have ys4 := HS4.out
  obtain ⟨V4, hV4⟩ : ∃ V4, V4 = w4.setCell ⟨w.heap.size + 1 + 1, 4, none⟩ (.slice p4 c.inn.length q4) := ⟨_, rfl⟩
  rw [← hV4] at T4 ⊢
  have C4 : Bx V4 (w.heap.size + 1 + 1) (.slice p1 c.regs.length q1) (.int .u32 c.pc) (.slice p2 c.data.length q2) (.slice p3 c.stack.length q3) (.slice p4 c.inn.length q4) (.slice (some a5) c.out.length y5) (.int .u32 c.low) (.int .i64 c.st) := by rw [hV4]; exact CB4.s4 _
  have R4 := RB4.keep (T4.block _ RB4.lt (by omega))
  have S4 := SB4.keep (T4.block _ SB4.lt (by omega))
  have yz4 : V4.heap.size = w4.heap.size := by rw [hV4]; simp
  have HZ4 : Hid _ := yz4
  have N4 := own_tcs n4 T4 (fun g hg e => by have := ((own_obk n4).2 g hg).1; have := HB3.out.1.size; omega)
  have N41 := own_tcs (own_below M3_1.out hb4) T4 (fun g hg e => by have := ((own_obk M3_1.out).2 g hg).1; omega)
  have N42 := own_tcs (own_below M3_2.out hb4) T4 (fun g hg e => by have := ((own_obk M3_2.out).2 g hg).1; omega)
  have N43 := own_tcs (own_below M3_3.out hb4) T4 (fun g hg e => by have := ((own_obk M3_3.out).2 g hg).1; omega)
  have BB4 : Below w.heap.size w V4 := T4.below (HB3.out.1.trans (hb4.mono HB3.out.1.size)) (by have := HB3.out.1.size; omega) (by rintro k rfl; omega)
  have M4_1 : Hid _ := N41
  have M4_2 : Hid _ := N42
  have M4_3 : Hid _ := N43
  have M4_4 : Hid _ := N4
  have HB4 : Hid _ := And.intro BB4 (And.intro C4 (And.intro R4 S4))
  clear hV4 C4 R4 S4 N4 BB4 CB4 RB4 SB4 T4 n4 hb4 c40 c41 c42 c43 c44 c45 c46 c47 c4f HK4 N41 N42 N43 yz0 yz1 yz2 yz3 yz4 ys1 ys2 ys3 ys4
  obtain ⟨d50, d51, d52, d53, d54, d55, d56, d57, d5f⟩ := HB4.out.2.2.2.alloc (.cells #[] 2)
  have hnw5 := news_of 2 (HL.out.2.2.2.2.1.below HB4.out.1)
  have h15 := ones_of .i64 c.out
  have hlb5 : c.out.length ≤ 2097152 := HL.out.2.2.2.2.2.2.2.2.2
  have HNW5 : Hid _ := And.intro hnw5 (And.intro h15 hlb5)
  clear hnw5 h15 hlb5
  go_wp2_with (at_builtin; refine wpList_append_own _ rfl _ _ 27 rfl V4.heap.size 2 i64' (.int .i64 0) 1 8 Tryz.underlying27 hi64 hz640 hz641 hz642 rfl (by decide) _ 0 [] rfl (World.ownsRow_lit V4 #[] 0 (Nat.le_refl _) (by decide) rfl) a5 c.out.length y5 (c.out.map (Value.int .i64)) rfl (by simp) HNW5.out.1 HNW5.out.2.1 (by unfold maxLen; have := HNW5.out.2.2; omega) (by have := HNW5.out.2.2; omega) (by simp) ?_)
  intro v5' w5 o5 hgr5 _
  have hb5 : Below V4.heap.size V4 w5 := ((Below.refl _ _).alloc (Nat.le_refl _) _).grown hgr5 (by simp) (by simp [Value.ownBlock])
  try rw [List.nil_append] at o5
  try rw [Nat.zero_add] at o5
  obtain ⟨p5, q5, rfl⟩ := own_slice o5
  have HS5 : Hid (V4.heap.size ≤ w5.heap.size) := hb5.size
  have CB5 := HB4.out.2.1.below hb5
  have RB5 := HB4.out.2.2.1.below hb5
  have SB5 := HB4.out.2.2.2.below hb5
  have T5 := (Tcs.refl (fun k => k = w.heap.size + 1 + 1) w5).setCell (p := ⟨w.heap.size + 1 + 1, 5, none⟩) rfl (.slice p5 c.out.length q5)
  have n5 : w5.ownsRow V4.heap.size 2 1 (.slice p5 c.out.length q5) c.out.length (c.out.map (Value.int .i64)) := o5
  have l5 : Hid (∀ g ∈ obk (.slice p5 c.out.length q5), g < w5.heap.size) := fun g hg => ((own_obk n5).2 g hg).2
  clear d50 d51 d52 d53 d54 d55 d56 d57 d5f hgr5
  obtain ⟨c50, c51, c52, c53, c54, c55, c56, c57, c5f⟩ := id CB5
  have HK5 : Hid _ := And.intro n5 (And.intro hb5 (And.intro CB5 (And.intro RB5 (And.intro SB5 T5))))
  clear n5 hb5 CB5 RB5 SB5 T5 o5
  go_upto_region 7 with fail
  obtain ⟨n5, hb5, CB5, RB5, SB5, T5⟩ := HK5.out
  have yz0 := HZ0.out
  have yz1 := HZ1.out
  have yz2 := HZ2.out
  have yz3 := HZ3.out
  have yz4 := HZ4.out
  have ys1 := HS1.out
  have ys2 := HS2.out
  have ys3 := HS3.out
  have ys4 := HS4.out
  have ys5 := HS5.out
  obtain ⟨V5, hV5⟩ : ∃ V5, V5 = w5.setCell ⟨w.heap.size + 1 + 1, 5, none⟩ (.slice p5 c.out.length q5) := ⟨_, rfl⟩
  rw [← hV5] at T5 ⊢
  have C5 : Bx V5 (w.heap.size + 1 + 1) (.slice p1 c.regs.length q1) (.int .u32 c.pc) (.slice p2 c.data.length q2) (.slice p3 c.stack.length q3) (.slice p4 c.inn.length q4) (.slice p5 c.out.length q5) (.int .u32 c.low) (.int .i64 c.st) := by rw [hV5]; exact CB5.s5 _
  have R5 := RB5.keep (T5.block _ RB5.lt (by omega))
  have S5 := SB5.keep (T5.block _ SB5.lt (by omega))
  have yz5 : V5.heap.size = w5.heap.size := by rw [hV5]; simp
  have HZ5 : Hid _ := yz5
  have N5 := own_tcs n5 T5 (fun g hg e => by have := ((own_obk n5).2 g hg).1; have := HB4.out.1.size; omega)
  have N51 := own_tcs (own_below M4_1.out hb5) T5 (fun g hg e => by have := ((own_obk M4_1.out).2 g hg).1; omega)
  have N52 := own_tcs (own_below M4_2.out hb5) T5 (fun g hg e => by have := ((own_obk M4_2.out).2 g hg).1; omega)
  have N53 := own_tcs (own_below M4_3.out hb5) T5 (fun g hg e => by have := ((own_obk M4_3.out).2 g hg).1; omega)
  have N54 := own_tcs (own_below M4_4.out hb5) T5 (fun g hg e => by have := ((own_obk M4_4.out).2 g hg).1; omega)
  have BB5 : Below w.heap.size w V5 := T5.below (HB4.out.1.trans (hb5.mono HB4.out.1.size)) (by have := HB4.out.1.size; omega) (by rintro k rfl; omega)
  have M5_1 : Hid _ := N51
  have M5_2 : Hid _ := N52
  have M5_3 : Hid _ := N53
  have M5_4 : Hid _ := N54
  have M5_5 : Hid _ := N5
  have HB5 : Hid _ := And.intro BB5 (And.intro C5 (And.intro R5 S5))
  clear hV5 C5 R5 S5 N5 BB5 CB5 RB5 SB5 T5 n5 hb5 c50 c51 c52 c53 c54 c55 c56 c57 c5f HK5 N51 N52 N53 N54 yz0 yz1 yz2 yz3 yz4 yz5 ys1 ys2 ys3 ys4 ys5
  obtain ⟨c60, c61, c62, c63, c64, c65, c66, c67, c6f⟩ := id HB5.out.2.1
  obtain ⟨z0', z1, z2, z3, z4, z5, z6, z7, zf⟩ := id HB5.out.2.2.1
  clear hi32 hz320 hz321 hz322 hi8 hz80 hz81 hz82 hi64 hz640 hz641 hz642
  go_wp2
  refine bodyPost_ret (v := .agg #[.slice p1 c.regs.length q1, .int .u32 c.pc, .slice p2 c.data.length q2, .slice p3 c.stack.length q3, .slice p4 c.inn.length q4, .slice p5 c.out.length q5, .int .u32 c.low, .int .i64 c.st]) (by simp [results, Tryz.results20, go_sem, z0', z1, z2, z3, z4, z5, z6, z7]) rfl ?_
  have yz0 := HZ0.out
  have yz1 := HZ1.out
  have yz2 := HZ2.out
  have yz3 := HZ3.out
  have yz4 := HZ4.out
  have yz5 := HZ5.out
  have ys1 := HS1.out
  have ys2 := HS2.out
  have ys3 := HS3.out
  have ys4 := HS4.out
  have ys5 := HS5.out
  have TR := (Tcs.refl (fun k => k = w.heap.size + 1) V5).set8 _ rfl (.slice p1 c.regs.length q1) (.int .u32 c.pc) (.slice p2 c.data.length q2) (.slice p3 c.stack.length q3) (.slice p4 c.inn.length q4) (.slice p5 c.out.length q5) (.int .u32 c.low) (.int .i64 c.st)
  have hx : ∀ {b : Nat} {v : Value} {n : Nat} {ty : Nat} {xs : List Value}, V5.ownsRow b ty 1 v n xs → w.heap.size + 3 ≤ b → ∀ g ∈ obk v, ¬ (g = w.heap.size + 1) := fun ho hb g hg e => by have := ((own_obk ho).2 g hg).1; omega
  refine ⟨_, rfl, copy_close (own_tcs M5_1.out TR (hx M5_1.out (by omega))) (own_tcs M5_2.out TR (hx M5_2.out (by omega))) (own_tcs M5_3.out TR (hx M5_3.out (by omega))) (own_tcs M5_4.out TR (hx M5_4.out (by omega))) (own_tcs M5_5.out TR (hx M5_5.out (by omega))) (fun g hg => by have := l1.out g hg; omega) (fun g hg => by have := l2.out g hg; omega) (fun g hg => by have := l3.out g hg; omega) (fun g hg => by have := l4.out g hg; omega) (by omega), TR.below HB5.out.1 HB5.out.1.size (by rintro k rfl; omega)⟩

end Go.Proofs.YtabjcodpagjbjaaGreat

namespace Go.Proofs.YtabjcodpagjbjaaGreat
open Go.RowKit
set_option linter.unusedVariables false
set_option linter.unusedSimpArgs false

set_option maxRecDepth 8000 in
set_option maxHeartbeats 1000000 in
theorem wi_yes (a : Option Addr) (len cap n : Nat) (d bd pc : Int) (w : World) (hl : (len : Int) ≤ 20000) (hn : (n : Int) < (len : Int)) (hp : pc = 4096 + 4 * (n : Int)) :
    Calls Tryz.prog 27 #[.agg #[.slice a len cap, .int .i64 d, .int .i64 bd], .int .u32 pc] w fun e w' => e = .returned (.tuple #[.int .i64 n, .bool true]) ∧ Below w.heap.size w w' := by
  have q1 : (pc - 4096) % 4294967296 = 4 * (n : Int) := by omega
  have q2 : (4 * (n : Int)) / 4 = (n : Int) := by omega
  have q3 : (4 * (n : Int)) % 4 = 0 := by omega
  have q4 : wrap64 (n : Int) = (n : Int) := by unfold wrap64; omega
  have hn0 : (0 : Int) ≤ (n : Int) := by omega
  clear hp
  go_enter Tryz.func27, Tryz.ntmps27
  go_wp2_with fail
  go_quiet (fail)
  go_wp2
  go_ret2
  exact ⟨rfl, below_drewN ((Below.refl _ _).alloc (Nat.le_refl _) _) _⟩
set_option maxRecDepth 8000 in
set_option maxHeartbeats 1000000 in
theorem wi_no (a : Option Addr) (len cap : Nat) (d bd pc : Int) (w : World) (hl : (len : Int) ≤ 20000) (hpc : 0 ≤ pc ∧ pc ≤ 4294967295) (hp : ¬ (4096 ≤ pc ∧ (pc - 4096) % 4 = 0 ∧ (pc - 4096) / 4 < (len : Int))) :
    Calls Tryz.prog 27 #[.agg #[.slice a len cap, .int .i64 d, .int .i64 bd], .int .u32 pc] w fun e w' => ∃ i, e = .returned (.tuple #[.int .i64 i, .bool false]) ∧ Below w.heap.size w w' := by
  generalize ho : (pc - 4096) % 4294967296 = o at *
  have ho2 : 0 ≤ o ∧ o ≤ 4294967295 := by omega
  have ho3 : ¬ o % 4 = 0 ∨ (len : Int) ≤ o / 4 := by omega
  have q4 : wrap64 (o / 4) = o / 4 := by unfold wrap64; omega
  clear hp hpc
  go_enter Tryz.func27, Tryz.ntmps27
  go_wp2_with fail
  by_cases h1 : o % 4 = 0
  · have h2 : ¬ o / 4 < (len : Int) := by omega
    clear ho3
    go_quiet (fail)
    go_wp2
    go_ret2
    first
      | exact ⟨_, rfl, below_drewN ((Below.refl _ _).alloc (Nat.le_refl _) _) _⟩
      | exact ⟨⟨_, rfl⟩, below_drewN ((Below.refl _ _).alloc (Nat.le_refl _) _) _⟩
  · have h3 : (o % 4 == 0) = false := by simpa using h1
    clear ho3
    go_quiet (fail)
    go_wp2
    go_ret2
    first
      | exact ⟨_, rfl, below_drewN ((Below.refl _ _).alloc (Nat.le_refl _) _) _⟩
      | exact ⟨⟨_, rfl⟩, below_drewN ((Below.refl _ _).alloc (Nat.le_refl _) _) _⟩

end Go.Proofs.YtabjcodpagjbjaaGreat
