import Derived.Deep.Cut
import Derived.Deep.RegionHeld3
import Derived.Deep.RegionLaw
import Derived.Test.YtabjcodpagjbjaaGreatK06
import Derived.Test.YtabjcodpagjbjaaGreatK02
namespace Go.Proofs.YtabjcodpagjbjaaGreat
open Go.RowKit
set_option linter.unusedVariables false
set_option linter.unusedSimpArgs false

/-- The machine's own tests, as both programs make them. -/
def goodB (d bd : Int) (c : Mc) : Bool :=
  decide (c.regs.length = 32 ∧ c.regs.getD 0 0 = 0 ∧ (c.data.length : Int) = d ∧ (c.stack.length : Int) = bd ∧ okIn c.inn = true ∧ (c.out.length : Int) ≤ 1000000 ∧ wrds c.out = true ∧ 0 ≤ c.st ∧ c.st ≤ 2)
set_option maxRecDepth 8000 in
set_option maxHeartbeats 1000000 in
theorem vc_any (a : Option Addr) (len cap : Nat) (d bd : Int) (v : Value) (L : List Nat) (c : Mc) (w : World) (h : CpuV w v L c) (hs : c.regs.length ≤ 2097152 ∧ c.data.length ≤ 2097152 ∧ c.stack.length ≤ 2097152 ∧ c.inn.length ≤ 2097152 ∧ c.out.length ≤ 2097152) :
    Calls Tryz.prog 25 #[.agg #[.slice a len cap, .int .i64 d, .int .i64 bd], v] w fun e w' => e = .returned (.bool (goodB d bd c)) ∧ Below w.heap.size w w' := by
  obtain ⟨r, dv, sv, iv, ov, rfl, hr, hd, hs', hi, ho, hk, rfl, hnd⟩ := h
  have ho' := (Lis.of_own ho).1
  obtain ⟨x1, y1, rfl⟩ := hr.len0
  obtain ⟨x2, y2, rfl⟩ := hd.len0
  obtain ⟨x3, y3, rfl⟩ := hs'.len0
  obtain ⟨x4, y4, rfl⟩ := hi.len0
  obtain ⟨x5, y5, rfl⟩ := ho'.len0
  have A2 := fun (o1 o2 : Obj) => ((Below.refl w.heap.size w).alloc (Nat.le_refl _) o1).alloc (by simp) o2
  have HS : Hid _ := hs
  have b1 : (c.regs.length : Int) ≤ 2097152 := by omega
  have b2 : (c.data.length : Int) ≤ 2097152 := by omega
  have b3 : (c.stack.length : Int) ≤ 2097152 := by omega
  have b4 : (c.inn.length : Int) ≤ 2097152 := by omega
  have b5 : (c.out.length : Int) ≤ 2097152 := by omega
  by_cases h1 : c.regs.length = 32
  · obtain ⟨g, off, cap1, e, hR, hbk⟩ := lis_some hr (by omega)
    simp only [Value.slice.injEq] at e
    obtain ⟨rfl, _, rfl⟩ := e
    have hgl := hR.lt
    have cz := ((hR.keep (A2 (.cells #[.slice a len cap, .int .i64 d, .int .i64 bd] 34) (.cells #[.slice (some ⟨g, off, none⟩) 32 y1, .int .u32 c.pc, .slice x2 c.data.length y2, .slice x3 c.stack.length y3, .slice x4 c.inn.length y4, .slice x5 c.out.length y5, .int .u32 c.low, .int .i64 c.st] 32)).size ((A2 (.cells #[.slice a len cap, .int .i64 d, .int .i64 bd] 34) (.cells #[.slice (some ⟨g, off, none⟩) 32 y1, .int .u32 c.pc, .slice x2 c.data.length y2, .slice x3 c.stack.length y3, .slice x4 c.inn.length y4, .slice x5 c.out.length y5, .int .u32 c.low, .int .i64 c.st] 32)).block g hR.lt)).cell 0 (by omega))
    simp only [Nat.add_zero] at cz
    have HL : Hid (∀ W, Below w.heap.size w W → _) := fun W hW => And.intro (input_i _ c.inn W (by omega) (hi.below hW)) (words_i _ c.out W (by omega) (ho'.below hW))
    clear hr hd hs' hi ho ho' hk hnd hs hR hbk
    rw [h1]
    have HH1 : Hid _ := h1
    clear h1 b1
    generalize hx0 : c.regs.getD 0 0 = q0 at *
    by_cases h2 : q0 = 0
    · subst h2
      by_cases h3 : (c.data.length : Int) = d
      · by_cases h4 : (c.stack.length : Int) = bd
        · have h3' : ((c.data.length : Int) == d) = true := by simpa using h3
          have h4' : ((c.stack.length : Int) == bd) = true := by simpa using h4
          have HH : Hid _ := And.intro h3 h4
          clear h3 h4
          go_enter Tryz.func25, Tryz.ntmps25
          go_wp2_with fail
          refine (HL.out _ (A2 _ _)).1.mono ?_
          rintro e w1 ⟨rfl, hb1⟩
          cases hin : okIn c.inn with
          | false =>
            go_wp2
            go_ret
            exact ⟨ret_b (decide_eq_false (fun h => by have := h.2.2.2.2.1; rw [hin] at this; cases this)).symm, (A2 _ _).trans (hb1.mono (by simp; omega))⟩
          | true =>
            have z1 := hb1.size
            simp only [World.size_alloc] at z1
            have CB := (Bx.of_heap (by have := heap_alloc_new (w.alloc (.cells #[.slice a len cap, .int .i64 d, .int .i64 bd] 34)) (.cells #[.slice (some ⟨g, off, none⟩) 32 y1, .int .u32 c.pc, .slice x2 c.data.length y2, .slice x3 c.stack.length y3, .slice x4 c.inn.length y4, .slice x5 c.out.length y5, .int .u32 c.low, .int .i64 c.st] 32); simpa only [World.size_alloc] using this : ((w.alloc (.cells #[.slice a len cap, .int .i64 d, .int .i64 bd] 34)).alloc (.cells #[.slice (some ⟨g, off, none⟩) 32 y1, .int .u32 c.pc, .slice x2 c.data.length y2, .slice x3 c.stack.length y3, .slice x4 c.inn.length y4, .slice x5 c.out.length y5, .int .u32 c.low, .int .i64 c.st] 32)).heap[w.heap.size + 1]? = _)).below hb1
            have B1 : Below w.heap.size w w1 := (A2 (.cells #[.slice a len cap, .int .i64 d, .int .i64 bd] 34) (.cells #[.slice (some ⟨g, off, none⟩) 32 y1, .int .u32 c.pc, .slice x2 c.data.length y2, .slice x3 c.stack.length y3, .slice x4 c.inn.length y4, .slice x5 c.out.length y5, .int .u32 c.low, .int .i64 c.st] 32)).trans (hb1.mono (by simp; omega))
            obtain ⟨t0, t1, t2, t3, t4, t5, t6, t7, tf⟩ := id CB
            have HB : Hid _ := And.intro CB B1
            clear hb1 CB B1
            by_cases h6 : (c.out.length : Int) ≤ 1000000
            · go_wp2_with fail
              refine (HL.out _ HB.out.2).2.mono ?_
              rintro e w2 ⟨rfl, n2, rfl⟩
              have CB2 := HB.out.1.drewN n2
              clear t0 t1 t2 t3 t4 t5 t6 t7 tf
              obtain ⟨t0, t1, t2, t3, t4, t5, t6, t7, tf⟩ := id CB2
              clear CB2
              cases how : wrds c.out with
              | false =>
                go_wp2
                go_ret
                exact ⟨ret_b (decide_eq_false (fun h => by have := h.2.2.2.2.2.2.1; rw [how] at this; cases this)).symm, below_drewN HB.out.2 _⟩
              | true =>
                by_cases h8 : 0 ≤ c.st
                · by_cases h9 : c.st ≤ 2
                  · go_wp2
                    go_ret
                    exact ⟨ret_b (decide_eq_true ⟨HH1.out, hx0, HH.out.1, HH.out.2, hin, h6, how, h8, h9⟩).symm, below_drewN HB.out.2 _⟩
                  · go_wp2
                    go_ret
                    exact ⟨ret_b (by rw [show goodB d bd c = false from decide_eq_false (fun h => by have := h.2.2.2.2.2.2.2.2; omega)]; simp; omega), below_drewN HB.out.2 _⟩
                · go_wp2
                  go_ret
                  exact ⟨ret_b (decide_eq_false (fun h => by have := h.2.2.2.2.2.2.2.1; omega)).symm, below_drewN HB.out.2 _⟩
            · go_wp2
              go_ret
              exact ⟨ret_b (decide_eq_false (fun h => by have := h.2.2.2.2.2.1; omega)).symm, HB.out.2⟩
        · have h3' : ((c.data.length : Int) == d) = true := by simpa using h3
          have h4' : ((c.stack.length : Int) == bd) = false := by simpa using h4
          go_enter Tryz.func25, Tryz.ntmps25
          go_wp2
          go_ret
          exact ⟨ret_b (decide_eq_false (fun h => h4 h.2.2.2.1)).symm, A2 _ _⟩
      · have h3' : ((c.data.length : Int) == d) = false := by simpa using h3
        go_enter Tryz.func25, Tryz.ntmps25
        go_wp2
        go_ret
        exact ⟨ret_b (decide_eq_false (fun h => h3 h.2.2.1)).symm, A2 _ _⟩
    · have h2' : (q0 == 0) = false := by simpa using h2
      go_enter Tryz.func25, Tryz.ntmps25
      go_wp2
      go_ret
      exact ⟨ret_b (decide_eq_false (fun h => h2 (hx0 ▸ h.2.1))).symm, A2 _ _⟩
  · have h1' : ((c.regs.length : Int) == 32) = false := by simp; omega
    clear hr hd hs' hi ho ho' hk hnd hs
    go_enter Tryz.func25, Tryz.ntmps25
    go_wp2
    go_ret
    exact ⟨ret_b (decide_eq_false (fun h => h1 h.1)).symm, A2 _ _⟩

end Go.Proofs.YtabjcodpagjbjaaGreat

namespace Go.Proofs.YtabjcodpagjbjaaGreat
open Go.RowKit
set_option linter.unusedVariables false
set_option linter.unusedSimpArgs false

theorem own_base2 {W : World} {B B' e n : Nat} {v : Value} {xs : List Value} (h : W.ownsRow B e 1 v n xs) (hb : ∀ g ∈ obk v, B' ≤ g) : W.ownsRow B' e 1 v n xs := by
  refine ⟨h.1, ?_⟩
  rcases h.2 with h0 | ⟨g, cap, cur, rfl, hbg, hr⟩
  · exact .inl h0
  · exact .inr ⟨g, cap, cur, rfl, hb g (by simp [obk]), hr⟩
theorem CpuAt.toV2 {w : World} {B : Nat} {v : Value} {c : Mc} (h : CpuAt w B v c) : ∃ L, CpuV w v L c ∧ ∀ g ∈ L, B ≤ g := by
  obtain ⟨r, d, s, i, o, rfl, hr, hd, hs, hi, ho, hnd, hB, hk⟩ := h
  exact ⟨_, ⟨r, d, s, i, o, rfl, hr, hd, hs, hi, own_mono ho (Nat.zero_le _), hk, rfl, hnd⟩, hB⟩
theorem CpuV.toAt2 {w : World} {B : Nat} {v : Value} {L : List Nat} {c : Mc} (h : CpuV w v L c) (hB : ∀ g ∈ L, B ≤ g) : CpuAt w B v c := by
  obtain ⟨r, d, s, i, o, rfl, hr, hd, hs, hi, ho, hk, rfl, hnd⟩ := h
  exact ⟨r, d, s, i, o, rfl, hr, hd, hs, hi, own_base2 ho (fun g hg => hB g (by simp [hg])), hnd, hB, hk⟩
theorem CpuV.toIn2 {W : World} {C : Nat} {L : List Nat} {c : Mc} {r d s i o : Value} (hb : Bx W C r (.int .u32 c.pc) d s i o (.int .u32 c.low) (.int .i64 c.st)) (h : CpuV W (.agg #[r, .int .u32 c.pc, d, s, i, o, .int .u32 c.low, .int .i64 c.st]) L c) (hn : C ∉ L) : CpuIn W C (C :: L) c := by
  obtain ⟨r', d', s', i', o', hv, hr, hd, hs, hi, ho, hk, rfl, hnd⟩ := h
  simp only [Value.agg.injEq, Array.mk.injEq, List.cons.injEq, and_true, true_and] at hv
  obtain ⟨rfl, rfl, rfl, rfl, rfl⟩ := hv
  exact ⟨_, _, _, _, _, hb, hr, hd, hs, hi, ho, hk, rfl, List.nodup_cons.mpr ⟨hn, hnd⟩⟩


theorem copy_close {W : World} {B b1 b2 b3 b4 b5 : Nat} {r d s i o : Value} {c : Mc} (o1 : W.ownsRow b1 25 1 r c.regs.length (c.regs.map (Value.int .u32))) (o2 : W.ownsRow b2 5 1 d c.data.length (c.data.map (Value.int .u8))) (o3 : W.ownsRow b3 5 1 s c.stack.length (c.stack.map (Value.int .u8)))
    (o4 : W.ownsRow b4 2 1 i c.inn.length (c.inn.map (Value.int .i64))) (o5 : W.ownsRow b5 2 1 o c.out.length (c.out.map (Value.int .i64))) (q1 : ∀ g ∈ obk r, g < b2) (q2 : ∀ g ∈ obk d, g < b3) (q3 : ∀ g ∈ obk s, g < b4) (q4 : ∀ g ∈ obk i, g < b5) (hb : B ≤ b1 ∧ b1 ≤ b2 ∧ b2 ≤ b3 ∧ b3 ≤ b4 ∧ b4 ≤ b5) :
    CpuAt W B (.agg #[r, .int .u32 c.pc, d, s, i, o, .int .u32 c.low, .int .i64 c.st]) c := by
  have p1 := (own_obk o1).2
  have p2 := (own_obk o2).2
  have p3 := (own_obk o3).2
  have p4 := (own_obk o4).2
  have p5 := own_obk o5
  have hnb : ∀ v : Value, (blk v).Nodup := by
    intro v
    unfold blk
    split <;> simp
  refine ⟨r, d, s, i, o, rfl, (Lis.of_own o1).1, (Lis.of_own o2).1, (Lis.of_own o3).1, (Lis.of_own o4).1, own_mono o5 (by omega), ?_, ?_, own_cap o2, own_cap o3, own_cap o4⟩
  · simp only [List.nodup_append, List.mem_append]
    refine ⟨⟨⟨⟨hnb _, hnb _, fun x hx y hy => ?_⟩, hnb _, fun x hx y hy => ?_⟩, hnb _, fun x hx y hy => ?_⟩, p5.1, fun x hx y hy => ?_⟩
    · have h1 := q1 x (blk_obk hx)
      have h2 := p2 y (blk_obk hy)
      omega
    · have h2 := p3 y (blk_obk hy)
      rcases hx with hx | hx
      · have h1 := q1 x (blk_obk hx); omega
      · have h1 := q2 x (blk_obk hx); omega
    · have h2 := p4 y (blk_obk hy)
      rcases hx with (hx | hx) | hx
      · have h1 := q1 x (blk_obk hx); omega
      · have h1 := q2 x (blk_obk hx); omega
      · have h1 := q3 x (blk_obk hx); omega
    · have h2 := p5.2 y hy
      rcases hx with ((hx | hx) | hx) | hx
      · have h1 := q1 x (blk_obk hx); omega
      · have h1 := q2 x (blk_obk hx); omega
      · have h1 := q3 x (blk_obk hx); omega
      · have h1 := q4 x (blk_obk hx); omega
  · intro g hg
    simp only [List.mem_append] at hg
    rcases hg with (((hg | hg) | hg) | hg) | hg
    · have := p1 g (blk_obk hg); omega
    · have := p2 g (blk_obk hg); omega
    · have := p3 g (blk_obk hg); omega
    · have := p4 g (blk_obk hg); omega
    · have := p5.2 g hg; omega


set_option maxRecDepth 8000 in
set_option maxHeartbeats 1000000 in
theorem cc_any (v : Value) (L : List Nat) (c : Mc) (w : World) (h : CpuV w v L c) (hs : c.regs.length ≤ 2097152 ∧ c.data.length ≤ 2097152 ∧ c.stack.length ≤ 2097152 ∧ c.inn.length ≤ 2097152 ∧ c.out.length ≤ 2097152) :
    Calls Tryz.prog 26 #[v] w fun e w' => ∃ u, e = .returned u ∧ CpuAt w' w.heap.size u c ∧ Below w.heap.size w w' := by
  obtain ⟨r, dv, sv, iv, ov, rfl, hr, hd, hs', hi, ho, hk, rfl, hnd⟩ := h
  have ho' := (Lis.of_own ho).1
  obtain ⟨x1, y1, rfl⟩ := hr.len0
  obtain ⟨x2, y2, rfl⟩ := hd.len0
  obtain ⟨x3, y3, rfl⟩ := hs'.len0
  obtain ⟨x4, y4, rfl⟩ := hi.len0
  obtain ⟨x5, y5, rfl⟩ := ho'.len0
  have B0 : Below w.heap.size w ((w.alloc (.cells #[.slice x1 c.regs.length y1, .int .u32 c.pc, .slice x2 c.data.length y2, .slice x3 c.stack.length y3, .slice x4 c.inn.length y4, .slice x5 c.out.length y5, .int .u32 c.low, .int .i64 c.st] 32)).alloc (.cells #[.slice none 0 0, .int .u32 0, .slice none 0 0, .slice none 0 0, .slice none 0 0, .slice none 0 0, .int .u32 0, .int .i64 0] 32)) := ((Below.refl _ _).alloc (Nat.le_refl _) _).alloc (by simp) _
  have C0 : Bx ((w.alloc (.cells #[.slice x1 c.regs.length y1, .int .u32 c.pc, .slice x2 c.data.length y2, .slice x3 c.stack.length y3, .slice x4 c.inn.length y4, .slice x5 c.out.length y5, .int .u32 c.low, .int .i64 c.st] 32)).alloc (.cells #[.slice none 0 0, .int .u32 0, .slice none 0 0, .slice none 0 0, .slice none 0 0, .slice none 0 0, .int .u32 0, .int .i64 0] 32)) w.heap.size (.slice x1 c.regs.length y1) (.int .u32 c.pc) (.slice x2 c.data.length y2) (.slice x3 c.stack.length y3) (.slice x4 c.inn.length y4) (.slice x5 c.out.length y5) (.int .u32 c.low) (.int .i64 c.st) := Bx.of_heap (by rw [Below.heap_alloc _ _ _ (by simp)]; exact heap_alloc_new w _)
  have R0 : Bx ((w.alloc (.cells #[.slice x1 c.regs.length y1, .int .u32 c.pc, .slice x2 c.data.length y2, .slice x3 c.stack.length y3, .slice x4 c.inn.length y4, .slice x5 c.out.length y5, .int .u32 c.low, .int .i64 c.st] 32)).alloc (.cells #[.slice none 0 0, .int .u32 0, .slice none 0 0, .slice none 0 0, .slice none 0 0, .slice none 0 0, .int .u32 0, .int .i64 0] 32)) (w.heap.size + 1) (.slice none 0 0) (.int .u32 0) (.slice none 0 0) (.slice none 0 0) (.slice none 0 0) (.slice none 0 0) (.int .u32 0) (.int .i64 0) := Bx.of_heap (by have := heap_alloc_new (w.alloc (.cells #[.slice x1 c.regs.length y1, .int .u32 c.pc, .slice x2 c.data.length y2, .slice x3 c.stack.length y3, .slice x4 c.inn.length y4, .slice x5 c.out.length y5, .int .u32 c.low, .int .i64 c.st] 32)) (.cells #[.slice none 0 0, .int .u32 0, .slice none 0 0, .slice none 0 0, .slice none 0 0, .slice none 0 0, .int .u32 0, .int .i64 0] 32); simpa only [World.size_alloc] using this)
  have HL : Hid _ := And.intro hr (And.intro hd (And.intro hs' (And.intro hi (And.intro ho' hs))))
  have z0 : (((w.alloc (.cells #[.slice x1 c.regs.length y1, .int .u32 c.pc, .slice x2 c.data.length y2, .slice x3 c.stack.length y3, .slice x4 c.inn.length y4, .slice x5 c.out.length y5, .int .u32 c.low, .int .i64 c.st] 32)).alloc (.cells #[.slice none 0 0, .int .u32 0, .slice none 0 0, .slice none 0 0, .slice none 0 0, .slice none 0 0, .int .u32 0, .int .i64 0] 32))).heap.size = w.heap.size + 2 := by simp
  have HB0 : Hid _ := And.intro B0 (And.intro C0 R0)
  clear hr hd hs' hi ho ho' hk hnd hs B0 C0 R0
  obtain ⟨V0, hV0⟩ : ∃ V0, V0 = ((w.alloc (.cells #[.slice x1 c.regs.length y1, .int .u32 c.pc, .slice x2 c.data.length y2, .slice x3 c.stack.length y3, .slice x4 c.inn.length y4, .slice x5 c.out.length y5, .int .u32 c.low, .int .i64 c.st] 32)).alloc (.cells #[.slice none 0 0, .int .u32 0, .slice none 0 0, .slice none 0 0, .slice none 0 0, .slice none 0 0, .int .u32 0, .int .i64 0] 32)) := ⟨_, rfl⟩
  rw [← hV0] at z0 HB0
  go_enter Tryz.func26, Tryz.ntmps26
  go_upto_region 1 with fail
  rw [← hV0]
  clear hV0
  obtain ⟨c10, c11, c12, c13, c14, c15, c16, c17, c1f⟩ := id HB0.out.2.1
  go_wp2_with fail
  refine (clone_u32 _ c.regs V0 (by have := HL.out.2.2.2.2.2.1; omega) (HL.out.1.below HB0.out.1)).mono ?_
  rintro e w1 ⟨u1, rfl, o1, hb1⟩
  obtain ⟨p1, q1, rfl⟩ := own_slice o1
  have s1 := hb1.size
  have CB1 := HB0.out.2.1.below hb1
  have RB1 := HB0.out.2.2.below hb1
  have T1 := (Tcs.refl (fun k => k = w.heap.size) w1).setCell (p := ⟨w.heap.size, 0, none⟩) rfl (.slice p1 c.regs.length q1)
  have n1 : w1.ownsRow V0.heap.size 25 1 (.slice p1 c.regs.length q1) c.regs.length (c.regs.map (Value.int .u32)) := o1
  have l1 : ∀ g ∈ obk (.slice p1 c.regs.length q1), g < w1.heap.size := fun g hg => ((own_obk o1).2 g hg).2
  clear c10 c11 c12 c13 c14 c15 c16 c17 c1f
  obtain ⟨c10, c11, c12, c13, c14, c15, c16, c17, c1f⟩ := id CB1
  go_upto_region 2 with fail
  obtain ⟨V1, hV1⟩ : ∃ V1, V1 = w1.setCell ⟨w.heap.size, 0, none⟩ (.slice p1 c.regs.length q1) := ⟨_, rfl⟩
  rw [← hV1] at T1 ⊢
  have C1 : Bx V1 w.heap.size (.slice p1 c.regs.length q1) (.int .u32 c.pc) (.slice x2 c.data.length y2) (.slice x3 c.stack.length y3) (.slice x4 c.inn.length y4) (.slice x5 c.out.length y5) (.int .u32 c.low) (.int .i64 c.st) := by rw [hV1]; exact CB1.s0 _
  have R1 := RB1.keep (T1.block _ RB1.lt (by omega))
  have zv1 : V1.heap.size = w1.heap.size := by rw [hV1]; simp
  have N1 := own_tcs n1 T1 (fun g hg e => by have := ((own_obk n1).2 g hg).1; have := HB0.out.1.size; omega)
  have BB1 : Below w.heap.size w V1 := T1.below (HB0.out.1.trans (hb1.mono HB0.out.1.size)) (by have := HB0.out.1.size; omega) (by rintro k rfl; omega)
  have M1_1 : Hid _ := N1
  have HB1 : Hid _ := And.intro BB1 (And.intro C1 (And.intro R1 trivial))
  clear hV1 C1 R1 N1 BB1 CB1 RB1 T1 n1 o1 hb1 c10 c11 c12 c13 c14 c15 c16 c17 c1f 
  obtain ⟨c20, c21, c22, c23, c24, c25, c26, c27, c2f⟩ := id HB1.out.2.1
  go_wp2_with fail
  refine (clone_u8 _ c.data V1 (by have := HL.out.2.2.2.2.2.2.1; omega) (HL.out.2.1.below HB1.out.1)).mono ?_
  rintro e w2 ⟨u2, rfl, o2, hb2⟩
  obtain ⟨p2, q2, rfl⟩ := own_slice o2
  have s2 := hb2.size
  have CB2 := HB1.out.2.1.below hb2
  have RB2 := HB1.out.2.2.1.below hb2
  have T2 := (Tcs.refl (fun k => k = w.heap.size) w2).setCell (p := ⟨w.heap.size, 2, none⟩) rfl (.slice p2 c.data.length q2)
  have n2 : w2.ownsRow V1.heap.size 5 1 (.slice p2 c.data.length q2) c.data.length (c.data.map (Value.int .u8)) := o2
  have l2 : ∀ g ∈ obk (.slice p2 c.data.length q2), g < w2.heap.size := fun g hg => ((own_obk o2).2 g hg).2
  clear c20 c21 c22 c23 c24 c25 c26 c27 c2f
  obtain ⟨c20, c21, c22, c23, c24, c25, c26, c27, c2f⟩ := id CB2
  go_upto_region 3 with fail
  obtain ⟨V2, hV2⟩ : ∃ V2, V2 = w2.setCell ⟨w.heap.size, 2, none⟩ (.slice p2 c.data.length q2) := ⟨_, rfl⟩
  rw [← hV2] at T2 ⊢
  have C2 : Bx V2 w.heap.size (.slice p1 c.regs.length q1) (.int .u32 c.pc) (.slice p2 c.data.length q2) (.slice x3 c.stack.length y3) (.slice x4 c.inn.length y4) (.slice x5 c.out.length y5) (.int .u32 c.low) (.int .i64 c.st) := by rw [hV2]; exact CB2.s2 _
  have R2 := RB2.keep (T2.block _ RB2.lt (by omega))
  have zv2 : V2.heap.size = w2.heap.size := by rw [hV2]; simp
  have N2 := own_tcs n2 T2 (fun g hg e => by have := ((own_obk n2).2 g hg).1; have := HB1.out.1.size; omega)
  have N21 := own_tcs (own_below M1_1.out hb2) T2 (fun g hg e => by have := ((own_obk M1_1.out).2 g hg).1; omega)
  have BB2 : Below w.heap.size w V2 := T2.below (HB1.out.1.trans (hb2.mono HB1.out.1.size)) (by have := HB1.out.1.size; omega) (by rintro k rfl; omega)
  have M2_1 : Hid _ := N21
  have M2_2 : Hid _ := N2
  have HB2 : Hid _ := And.intro BB2 (And.intro C2 (And.intro R2 trivial))
  clear hV2 C2 R2 N2 BB2 CB2 RB2 T2 n2 o2 hb2 c20 c21 c22 c23 c24 c25 c26 c27 c2f N21
  obtain ⟨c30, c31, c32, c33, c34, c35, c36, c37, c3f⟩ := id HB2.out.2.1
  go_wp2_with fail
  refine (clone_u8 _ c.stack V2 (by have := HL.out.2.2.2.2.2.2.2.1; omega) (HL.out.2.2.1.below HB2.out.1)).mono ?_
  rintro e w3 ⟨u3, rfl, o3, hb3⟩
  obtain ⟨p3, q3, rfl⟩ := own_slice o3
  have s3 := hb3.size
  have CB3 := HB2.out.2.1.below hb3
  have RB3 := HB2.out.2.2.1.below hb3
  have T3 := (Tcs.refl (fun k => k = w.heap.size) w3).setCell (p := ⟨w.heap.size, 3, none⟩) rfl (.slice p3 c.stack.length q3)
  have n3 : w3.ownsRow V2.heap.size 5 1 (.slice p3 c.stack.length q3) c.stack.length (c.stack.map (Value.int .u8)) := o3
  have l3 : ∀ g ∈ obk (.slice p3 c.stack.length q3), g < w3.heap.size := fun g hg => ((own_obk o3).2 g hg).2
  clear c30 c31 c32 c33 c34 c35 c36 c37 c3f
  obtain ⟨c30, c31, c32, c33, c34, c35, c36, c37, c3f⟩ := id CB3
  go_upto_region 4 with fail
  obtain ⟨V3, hV3⟩ : ∃ V3, V3 = w3.setCell ⟨w.heap.size, 3, none⟩ (.slice p3 c.stack.length q3) := ⟨_, rfl⟩
  rw [← hV3] at T3 ⊢
  have C3 : Bx V3 w.heap.size (.slice p1 c.regs.length q1) (.int .u32 c.pc) (.slice p2 c.data.length q2) (.slice p3 c.stack.length q3) (.slice x4 c.inn.length y4) (.slice x5 c.out.length y5) (.int .u32 c.low) (.int .i64 c.st) := by rw [hV3]; exact CB3.s3 _
  have R3 := RB3.keep (T3.block _ RB3.lt (by omega))
  have zv3 : V3.heap.size = w3.heap.size := by rw [hV3]; simp
  have N3 := own_tcs n3 T3 (fun g hg e => by have := ((own_obk n3).2 g hg).1; have := HB2.out.1.size; omega)
  have N31 := own_tcs (own_below M2_1.out hb3) T3 (fun g hg e => by have := ((own_obk M2_1.out).2 g hg).1; omega)
  have N32 := own_tcs (own_below M2_2.out hb3) T3 (fun g hg e => by have := ((own_obk M2_2.out).2 g hg).1; omega)
  have BB3 : Below w.heap.size w V3 := T3.below (HB2.out.1.trans (hb3.mono HB2.out.1.size)) (by have := HB2.out.1.size; omega) (by rintro k rfl; omega)
  have M3_1 : Hid _ := N31
  have M3_2 : Hid _ := N32
  have M3_3 : Hid _ := N3
  have HB3 : Hid _ := And.intro BB3 (And.intro C3 (And.intro R3 trivial))
  clear hV3 C3 R3 N3 BB3 CB3 RB3 T3 n3 o3 hb3 c30 c31 c32 c33 c34 c35 c36 c37 c3f N31 N32
  obtain ⟨c40, c41, c42, c43, c44, c45, c46, c47, c4f⟩ := id HB3.out.2.1
  go_wp2_with fail
  refine (clone_i64 _ c.inn V3 (by have := HL.out.2.2.2.2.2.2.2.2.1; omega) (HL.out.2.2.2.1.below HB3.out.1)).mono ?_
  rintro e w4 ⟨u4, rfl, o4, hb4⟩
  obtain ⟨p4, q4, rfl⟩ := own_slice o4
  have s4 := hb4.size
  have CB4 := HB3.out.2.1.below hb4
  have RB4 := HB3.out.2.2.1.below hb4
  have T4 := (Tcs.refl (fun k => k = w.heap.size) w4).setCell (p := ⟨w.heap.size, 4, none⟩) rfl (.slice p4 c.inn.length q4)
  have n4 : w4.ownsRow V3.heap.size 2 1 (.slice p4 c.inn.length q4) c.inn.length (c.inn.map (Value.int .i64)) := o4
  have l4 : ∀ g ∈ obk (.slice p4 c.inn.length q4), g < w4.heap.size := fun g hg => ((own_obk o4).2 g hg).2
  clear c40 c41 c42 c43 c44 c45 c46 c47 c4f
  obtain ⟨c40, c41, c42, c43, c44, c45, c46, c47, c4f⟩ := id CB4
  go_upto_region 5 with fail
  obtain ⟨V4, hV4⟩ : ∃ V4, V4 = w4.setCell ⟨w.heap.size, 4, none⟩ (.slice p4 c.inn.length q4) := ⟨_, rfl⟩
  rw [← hV4] at T4 ⊢
  have C4 : Bx V4 w.heap.size (.slice p1 c.regs.length q1) (.int .u32 c.pc) (.slice p2 c.data.length q2) (.slice p3 c.stack.length q3) (.slice p4 c.inn.length q4) (.slice x5 c.out.length y5) (.int .u32 c.low) (.int .i64 c.st) := by rw [hV4]; exact CB4.s4 _
  have R4 := RB4.keep (T4.block _ RB4.lt (by omega))
  have zv4 : V4.heap.size = w4.heap.size := by rw [hV4]; simp
  have N4 := own_tcs n4 T4 (fun g hg e => by have := ((own_obk n4).2 g hg).1; have := HB3.out.1.size; omega)
  have N41 := own_tcs (own_below M3_1.out hb4) T4 (fun g hg e => by have := ((own_obk M3_1.out).2 g hg).1; omega)
  have N42 := own_tcs (own_below M3_2.out hb4) T4 (fun g hg e => by have := ((own_obk M3_2.out).2 g hg).1; omega)
  have N43 := own_tcs (own_below M3_3.out hb4) T4 (fun g hg e => by have := ((own_obk M3_3.out).2 g hg).1; omega)
  have BB4 : Below w.heap.size w V4 := T4.below (HB3.out.1.trans (hb4.mono HB3.out.1.size)) (by have := HB3.out.1.size; omega) (by rintro k rfl; omega)
  have M4_1 : Hid _ := N41
  have M4_2 : Hid _ := N42
  have M4_3 : Hid _ := N43
  have M4_4 : Hid _ := N4
  have HB4 : Hid _ := And.intro BB4 (And.intro C4 (And.intro R4 trivial))
  clear hV4 C4 R4 N4 BB4 CB4 RB4 T4 n4 o4 hb4 c40 c41 c42 c43 c44 c45 c46 c47 c4f N41 N42 N43
  obtain ⟨c50, c51, c52, c53, c54, c55, c56, c57, c5f⟩ := id HB4.out.2.1
  go_wp2_with fail
  refine (clone_i64 _ c.out V4 (by have := HL.out.2.2.2.2.2.2.2.2.2; omega) (HL.out.2.2.2.2.1.below HB4.out.1)).mono ?_
  rintro e w5 ⟨u5, rfl, o5, hb5⟩
  obtain ⟨p5, q5, rfl⟩ := own_slice o5
  have s5 := hb5.size
  have CB5 := HB4.out.2.1.below hb5
  have RB5 := HB4.out.2.2.1.below hb5
  have T5 := (Tcs.refl (fun k => k = w.heap.size) w5).setCell (p := ⟨w.heap.size, 5, none⟩) rfl (.slice p5 c.out.length q5)
  have n5 : w5.ownsRow V4.heap.size 2 1 (.slice p5 c.out.length q5) c.out.length (c.out.map (Value.int .i64)) := o5
  have l5 : ∀ g ∈ obk (.slice p5 c.out.length q5), g < w5.heap.size := fun g hg => ((own_obk o5).2 g hg).2
  clear c50 c51 c52 c53 c54 c55 c56 c57 c5f
  obtain ⟨c50, c51, c52, c53, c54, c55, c56, c57, c5f⟩ := id CB5
  go_upto_region 6 with fail
  obtain ⟨V5, hV5⟩ : ∃ V5, V5 = w5.setCell ⟨w.heap.size, 5, none⟩ (.slice p5 c.out.length q5) := ⟨_, rfl⟩
  rw [← hV5] at T5 ⊢
  have C5 : Bx V5 w.heap.size (.slice p1 c.regs.length q1) (.int .u32 c.pc) (.slice p2 c.data.length q2) (.slice p3 c.stack.length q3) (.slice p4 c.inn.length q4) (.slice p5 c.out.length q5) (.int .u32 c.low) (.int .i64 c.st) := by rw [hV5]; exact CB5.s5 _
  have R5 := RB5.keep (T5.block _ RB5.lt (by omega))
  have zv5 : V5.heap.size = w5.heap.size := by rw [hV5]; simp
  have N5 := own_tcs n5 T5 (fun g hg e => by have := ((own_obk n5).2 g hg).1; have := HB4.out.1.size; omega)
  have N51 := own_tcs (own_below M4_1.out hb5) T5 (fun g hg e => by have := ((own_obk M4_1.out).2 g hg).1; omega)
  have N52 := own_tcs (own_below M4_2.out hb5) T5 (fun g hg e => by have := ((own_obk M4_2.out).2 g hg).1; omega)
  have N53 := own_tcs (own_below M4_3.out hb5) T5 (fun g hg e => by have := ((own_obk M4_3.out).2 g hg).1; omega)
  have N54 := own_tcs (own_below M4_4.out hb5) T5 (fun g hg e => by have := ((own_obk M4_4.out).2 g hg).1; omega)
  have BB5 : Below w.heap.size w V5 := T5.below (HB4.out.1.trans (hb5.mono HB4.out.1.size)) (by have := HB4.out.1.size; omega) (by rintro k rfl; omega)
  have M5_1 : Hid _ := N51
  have M5_2 : Hid _ := N52
  have M5_3 : Hid _ := N53
  have M5_4 : Hid _ := N54
  have M5_5 : Hid _ := N5
  have HB5 : Hid _ := And.intro BB5 (And.intro C5 (And.intro R5 trivial))
  clear hV5 C5 R5 N5 BB5 CB5 RB5 T5 n5 o5 hb5 c50 c51 c52 c53 c54 c55 c56 c57 c5f N51 N52 N53 N54
  obtain ⟨c60, c61, c62, c63, c64, c65, c66, c67, c6f⟩ := id HB5.out.2.1
  obtain ⟨z0', z1, z2, z3, z4, z5, z6, z7, zf⟩ := id HB5.out.2.2.1
  go_wp2
  refine bodyPost_ret (v := .agg #[.slice p1 c.regs.length q1, .int .u32 c.pc, .slice p2 c.data.length q2, .slice p3 c.stack.length q3, .slice p4 c.inn.length q4, .slice p5 c.out.length q5, .int .u32 c.low, .int .i64 c.st]) (by simp [results, Tryz.results26, go_sem, z0', z1, z2, z3, z4, z5, z6, z7]) rfl ?_
  have TR := (Tcs.refl (fun k => k = w.heap.size + 1) V5).set8 _ rfl (.slice p1 c.regs.length q1) (.int .u32 c.pc) (.slice p2 c.data.length q2) (.slice p3 c.stack.length q3) (.slice p4 c.inn.length q4) (.slice p5 c.out.length q5) (.int .u32 c.low) (.int .i64 c.st)
  have hx : ∀ {b : Nat} {v : Value} {n : Nat} {ty : Nat} {xs : List Value}, V5.ownsRow b ty 1 v n xs → w.heap.size + 2 ≤ b → ∀ g ∈ obk v, ¬ (g = w.heap.size + 1) := fun ho hb g hg e => by have := ((own_obk ho).2 g hg).1; omega
  refine ⟨_, rfl, copy_close (own_tcs M5_1.out TR (hx M5_1.out (by omega))) (own_tcs M5_2.out TR (hx M5_2.out (by omega))) (own_tcs M5_3.out TR (hx M5_3.out (by omega))) (own_tcs M5_4.out TR (hx M5_4.out (by omega))) (own_tcs M5_5.out TR (hx M5_5.out (by omega))) (fun g hg => by have := l1 g hg; omega) (fun g hg => by have := l2 g hg; omega) (fun g hg => by have := l3 g hg; omega) (fun g hg => by have := l4 g hg; omega) (by omega), TR.below HB5.out.1 HB5.out.1.size (by rintro k rfl; omega)⟩

end Go.Proofs.YtabjcodpagjbjaaGreat
