import Derived.Lib.SliceRun
import Derived.Test.YtffihdllalnncaaM06
import Derived.Test.YtffihdllalnncaaM12
namespace Go.Proofs.Ytffihdllalnncaa
open Go.RowKit
set_option linter.unusedVariables false
set_option linter.unusedSimpArgs false

/-- Where a machine has the four bytes at an address: in the data, in the stack, nowhere. -/
def inD (c : Mc) (x : Int) (o : Nat) : Prop := x % 4 = 0 ∧ x = 1048576 + o ∧ o + 4 ≤ c.data.length
def inS (c : Mc) (x : Int) (o : Nat) : Prop := x % 4 = 0 ∧ x = 1073741824 - c.stack.length + o ∧ o + 4 ≤ c.stack.length
def noMem (c : Mc) (x : Int) : Prop := x % 4 ≠ 0 ∨ ((x < 1048576 ∨ (c.data.length : Int) < x - 1048576 + 4) ∧ (x < 1073741824 - c.stack.length ∨ (c.stack.length : Int) < x - (1073741824 - c.stack.length) + 4))
theorem mem_cases (c : Mc) (x : Int) : noMem c x ∨ (∃ o, inD c x o) ∨ ∃ o, inS c x o := by
  by_cases h4 : x % 4 = 0
  · by_cases hd : x < 1048576 ∨ (c.data.length : Int) < x - 1048576 + 4
    · by_cases hs : x < 1073741824 - c.stack.length ∨ (c.stack.length : Int) < x - (1073741824 - c.stack.length) + 4
      · exact .inl (.inr ⟨hd, hs⟩)
      · exact .inr (.inr ⟨(x - (1073741824 - c.stack.length)).toNat, h4, by omega, by omega⟩)
    · exact .inr (.inl ⟨(x - 1048576).toNat, h4, by omega, by omega⟩)
  · exact .inl (.inl h4)
theorem mem_nil {W : World} {C : Nat} {L : List Nat} {c : Mc} (hG : Good c) (h : CpuIn W C L c) (x : Int) (hx : 0 ≤ x ∧ x ≤ 4294967295) (hn : noMem c x) :
    Calls Try.prog 73 #[.pointer (some ⟨C, 0, none⟩), .int .u32 x] W fun e w' => e = .returned (.slice none 0 0) ∧ ∃ n, w' = W.drewN n := by
  obtain ⟨r, d, s, i, o, hb, hr, hd, hs, hi, ho, hk, hL, hnd⟩ := h
  obtain ⟨xd, yd, rfl⟩ := hd.len0
  obtain ⟨xs, ys, rfl⟩ := hs.len0
  by_cases h4 : x % 4 = 0
  · have hh := hn.resolve_left (fun e => e h4)
    exact mem4 C xd xs _ yd _ ys x W hx h4 hb.c2 (by have := hG.dl; omega) hh.1 hb.c3 hG.sl hh.2
  · exact mem1 C x W hx h4
theorem memD {W : World} {C : Nat} {L : List Nat} {c : Mc} (hG : Good c) (h : CpuIn W C L c) (x : Int) (o : Nat) (hn : inD c x o) :
    ∃ g off cap, (∀ W', Below W.heap.size W W' → Calls Try.prog 73 #[.pointer (some ⟨C, 0, none⟩), .int .u32 x] W' fun e w' => e = .returned (.slice (some ⟨g, off + o, none⟩) 4 cap) ∧ ∃ n, w' = W'.drewN n) ∧
      Row .u8 W g off c.data ∧ (∀ W', Row .u8 W' g off c.data → True) ∧ (∃ rv s i o' k, Bx W C rv (.int .u32 c.pc) (.slice (some ⟨g, off, none⟩) c.data.length k) s i o' (.int .u32 c.low) (.int .i64 c.st)) := by
  obtain ⟨r, d, s, i, o', hb, hr, hd, hs, hi, ho, hk, hL, hnd⟩ := h
  obtain ⟨h4, rfl, hf⟩ := hn
  obtain ⟨g, off, cap, rfl, hR, hbk⟩ := lis_some hd (by omega)
  refine ⟨g, off, cap - o, fun W' hW => ?_, hR, fun _ _ => trivial, r, s, i, o', cap, hb⟩
  exact mem2 C g off _ cap o W' (by omega) (hb.below hW).c2 (by have := hG.dl; omega) hk.1 hf
theorem memS {W : World} {C : Nat} {L : List Nat} {c : Mc} (hG : Good c) (h : CpuIn W C L c) (x : Int) (o : Nat) (hn : inS c x o) :
    ∃ g off cap, (∀ W', Below W.heap.size W W' → Calls Try.prog 73 #[.pointer (some ⟨C, 0, none⟩), .int .u32 x] W' fun e w' => e = .returned (.slice (some ⟨g, off + o, none⟩) 4 cap) ∧ ∃ n, w' = W'.drewN n) ∧
      Row .u8 W g off c.stack ∧ (∃ rv d i o' k, Bx W C rv (.int .u32 c.pc) d (.slice (some ⟨g, off, none⟩) c.stack.length k) i o' (.int .u32 c.low) (.int .i64 c.st)) := by
  obtain ⟨r, d, s, i, o', hb, hr, hd, hs, hi, ho, hk, hL, hnd⟩ := h
  obtain ⟨h4, rfl, hf⟩ := hn
  obtain ⟨g, off, cap, rfl, hR, hbk⟩ := lis_some hs (by omega)
  obtain ⟨xd, yd, rfl⟩ := hd.len0
  refine ⟨g, off, cap - o, fun W' hW => ?_, hR, r, _, i, o', cap, hb⟩
  exact mem3 C g off _ cap o xd _ yd W' h4 (hb.below hW).c2 (by have := hG.dl; omega) (hb.below hW).c3 hG.sl hk.2.1 hf
theorem eql_nil (a : Option Addr) (l c : Nat) (w : World) : (binOp .eql 22 (.slice a l c) (.slice none 0 0)).run Try.prog w = .ok (.bool a.isNone) w := Lib.run_eql_slice_nil w 22 5 a l c 0 0 Try.underlying22
def word4 (zs : List Int) (o : Nat) : Int := zs.getD o 0 + zs.getD (o + 1) 0 * 256 + zs.getD (o + 2) 0 * 65536 + zs.getD (o + 3) 0 * 16777216


set_option maxRecDepth 8000 in
set_option maxHeartbeats 1000000 in
theorem exLwF (C : Nat) (L : List Nat) (c : Mc)  (rd s1 s2 : Nat) (im : Int) (w : World) (hG : Good c) (h : CpuIn w C L c)  (hrd : rd < 32) (h1 : s1 < 32) (h2 : s2 < 32)
    (hst : c.st = 0) (hm : noMem c ((c.regs.getD s1 0 + im) % 4294967296)) :
    Calls Try.prog 58 #[.pointer (some ⟨C, 0, none⟩), .agg #[.int .i64 10, .int .i64 rd, .int .i64 s1, .int .i64 s2, .int .i64 im]] w fun e w' =>
      e = .returned (.bool false) ∧ CpuIn w' C L c ∧ Tcs (fun g => g ∈ L) w w' := by
  have T0 := (Tcs.refl (fun g => g ∈ L) w).alloc (.cells #[.int .i64 10, .int .i64 rd, .int .i64 s1, .int .i64 s2, .int .i64 im] 64)
  have h0 := h.below ((Below.refl w.heap.size w).alloc (Nat.le_refl _) (.cells #[.int .i64 10, .int .i64 rd, .int .i64 s1, .int .i64 s2, .int .i64 im] 64))
  obtain ⟨rv, d, s, i, o, hb, hr, hd, hs, hi, ho, hk, hL, hnd⟩ := id h0
  obtain ⟨g, off, cap, rfl, hR, hbk⟩ := lis_some hr (by have := hG.r32; omega)
  have e32 := hG.r32
  have c0 := hb.c0
  rw [e32] at c0
  have c1 := hb.c1
  have cs1 := hR.cell s1 (by omega)
  have cs2 := hR.cell s2 (by omega)
  have X0 : ∀ {W : World}, Tcs (fun g => g ∈ L) (w.alloc (.cells #[.int .i64 10, .int .i64 rd, .int .i64 s1, .int .i64 s2, .int .i64 im] 64)) W → W.cell? ⟨w.heap.size, 0, none⟩ = some (.int .i64 10) ∧ W.cell? ⟨w.heap.size, 1, none⟩ = some (.int .i64 rd) := by
    intro W hW
    have hkb := hW.block w.heap.size (by simp) (fun hm => by have := h.lt _ hm; omega)
    constructor <;> (rw [World.cell?_of_block (w := w.alloc _) hkb]; simp)
  have HS : Hid (∀ W v, Below (w.alloc (.cells #[.int .i64 10, .int .i64 rd, .int .i64 s1, .int .i64 s2, .int .i64 im] 64)).heap.size (w.alloc (.cells #[.int .i64 10, .int .i64 rd, .int .i64 s1, .int .i64 s2, .int .i64 im] 64)) W →
      Calls Try.prog 71 #[.pointer (some ⟨C, 0, none⟩), .int .i64 rd, .int .u32 v] W fun e w' => e = .returned (.tuple #[]) ∧ CpuIn w' C L (setR c rd v) ∧ Tcs (fun g => g ∈ L) w w' ∧ (w'.cell? ⟨w.heap.size, 0, none⟩ = some (.int .i64 10) ∧ w'.cell? ⟨w.heap.size, 1, none⟩ = some (.int .i64 rd))) := by
    intro W v hW
    refine (setReg_any C L c rd v W hG.r32 (by omega) (h0.below hW)).mono ?_
    rintro e w' ⟨rfl, hc, ht⟩
    have t1 := (Below.tcs (S := fun g => g ∈ L) hW).trans ht
    exact ⟨rfl, hc, T0.trans t1, X0 t1⟩
  have X00 := X0 (Tcs.refl _ _)
  have HM : Hid (∀ W, Below (w.alloc (.cells #[.int .i64 10, .int .i64 rd, .int .i64 s1, .int .i64 s2, .int .i64 im] 64)).heap.size (w.alloc (.cells #[.int .i64 10, .int .i64 rd, .int .i64 s1, .int .i64 s2, .int .i64 im] 64)) W → Calls Try.prog 73 #[.pointer (some ⟨C, 0, none⟩), .int .u32 ((c.regs.getD s1 0 + im) % 4294967296)] W fun e w' => e = .returned (.slice none 0 0) ∧ ∃ n, w' = W.drewN n) := fun W hW => mem_nil hG (h0.below hW) _ (m32_bd _) hm
  have HE : Hid _ := And.intro h0 T0
  have hnil := eql_nil none 0 0
  clear hm
  clear hb hr hR hd hs hi ho hk hL hnd hbk h h0 T0 X0
  generalize hx1 : c.regs.getD s1 0 = a at *
  generalize hx2 : c.regs.getD s2 0 = b at *
  go_enter Try.func58, Try.ntmps58
  go_wp2_with fail
  go_quiet (fail)
  go_wp2_with fail
  refine (HM.out _ ?_).mono ?_
  · exact below_drewN (Below.refl _ _) _
  rintro e w1 ⟨rfl, n1, rfl⟩
  go_wp2
  go_ret
  exact ⟨rfl, HE.out.1.below (below_drewN (Below.refl _ _) _), HE.out.2.drewN _⟩


set_option maxRecDepth 8000 in
set_option maxHeartbeats 1000000 in
theorem exSwF (C : Nat) (L : List Nat) (c : Mc)  (rd s1 s2 : Nat) (im : Int) (w : World) (hG : Good c) (h : CpuIn w C L c)  (hrd : rd < 32) (h1 : s1 < 32) (h2 : s2 < 32)
    (hst : c.st = 0) (hm : noMem c ((c.regs.getD s1 0 + im) % 4294967296)) :
    Calls Try.prog 58 #[.pointer (some ⟨C, 0, none⟩), .agg #[.int .i64 11, .int .i64 rd, .int .i64 s1, .int .i64 s2, .int .i64 im]] w fun e w' =>
      e = .returned (.bool false) ∧ CpuIn w' C L c ∧ Tcs (fun g => g ∈ L) w w' := by
  have T0 := (Tcs.refl (fun g => g ∈ L) w).alloc (.cells #[.int .i64 11, .int .i64 rd, .int .i64 s1, .int .i64 s2, .int .i64 im] 64)
  have h0 := h.below ((Below.refl w.heap.size w).alloc (Nat.le_refl _) (.cells #[.int .i64 11, .int .i64 rd, .int .i64 s1, .int .i64 s2, .int .i64 im] 64))
  obtain ⟨rv, d, s, i, o, hb, hr, hd, hs, hi, ho, hk, hL, hnd⟩ := id h0
  obtain ⟨g, off, cap, rfl, hR, hbk⟩ := lis_some hr (by have := hG.r32; omega)
  have e32 := hG.r32
  have c0 := hb.c0
  rw [e32] at c0
  have c1 := hb.c1
  have cs1 := hR.cell s1 (by omega)
  have cs2 := hR.cell s2 (by omega)
  have X0 : ∀ {W : World}, Tcs (fun g => g ∈ L) (w.alloc (.cells #[.int .i64 11, .int .i64 rd, .int .i64 s1, .int .i64 s2, .int .i64 im] 64)) W → W.cell? ⟨w.heap.size, 0, none⟩ = some (.int .i64 11) ∧ W.cell? ⟨w.heap.size, 1, none⟩ = some (.int .i64 rd) := by
    intro W hW
    have hkb := hW.block w.heap.size (by simp) (fun hm => by have := h.lt _ hm; omega)
    constructor <;> (rw [World.cell?_of_block (w := w.alloc _) hkb]; simp)
  have HS : Hid (∀ W v, Below (w.alloc (.cells #[.int .i64 11, .int .i64 rd, .int .i64 s1, .int .i64 s2, .int .i64 im] 64)).heap.size (w.alloc (.cells #[.int .i64 11, .int .i64 rd, .int .i64 s1, .int .i64 s2, .int .i64 im] 64)) W →
      Calls Try.prog 71 #[.pointer (some ⟨C, 0, none⟩), .int .i64 rd, .int .u32 v] W fun e w' => e = .returned (.tuple #[]) ∧ CpuIn w' C L (setR c rd v) ∧ Tcs (fun g => g ∈ L) w w' ∧ (w'.cell? ⟨w.heap.size, 0, none⟩ = some (.int .i64 11) ∧ w'.cell? ⟨w.heap.size, 1, none⟩ = some (.int .i64 rd))) := by
    intro W v hW
    refine (setReg_any C L c rd v W hG.r32 (by omega) (h0.below hW)).mono ?_
    rintro e w' ⟨rfl, hc, ht⟩
    have t1 := (Below.tcs (S := fun g => g ∈ L) hW).trans ht
    exact ⟨rfl, hc, T0.trans t1, X0 t1⟩
  have X00 := X0 (Tcs.refl _ _)
  have HM : Hid (∀ W, Below (w.alloc (.cells #[.int .i64 11, .int .i64 rd, .int .i64 s1, .int .i64 s2, .int .i64 im] 64)).heap.size (w.alloc (.cells #[.int .i64 11, .int .i64 rd, .int .i64 s1, .int .i64 s2, .int .i64 im] 64)) W → Calls Try.prog 73 #[.pointer (some ⟨C, 0, none⟩), .int .u32 ((c.regs.getD s1 0 + im) % 4294967296)] W fun e w' => e = .returned (.slice none 0 0) ∧ ∃ n, w' = W.drewN n) := fun W hW => mem_nil hG (h0.below hW) _ (m32_bd _) hm
  have HE : Hid _ := And.intro h0 T0
  have hnil := eql_nil none 0 0
  clear hm
  clear hb hr hR hd hs hi ho hk hL hnd hbk h h0 T0 X0
  generalize hx1 : c.regs.getD s1 0 = a at *
  generalize hx2 : c.regs.getD s2 0 = b at *
  go_enter Try.func58, Try.ntmps58
  go_wp2_with fail
  go_quiet (fail)
  go_wp2_with fail
  refine (HM.out _ ?_).mono ?_
  · exact below_drewN (Below.refl _ _) _
  rintro e w1 ⟨rfl, n1, rfl⟩
  go_wp2
  go_ret
  exact ⟨rfl, HE.out.1.below (below_drewN (Below.refl _ _) _), HE.out.2.drewN _⟩

end Go.Proofs.Ytffihdllalnncaa
