import Derived.Lib.SliceRun
import Derived.Test.YtabjcodpagjbjaaGreatK04
import Derived.Test.YtabjcodpagjbjaaGreatK13
namespace Go.Proofs.YtabjcodpagjbjaaGreat
open Go.RowKit
set_option linter.unusedVariables false
set_option linter.unusedSimpArgs false

/-- Where a machine has the four bytes at an address: in the data, in the stack, nowhere. -/
def inD (c : Mc) (x : Int) (o : Nat) : Prop := x % 4 = 0 ∧ x = 1048576 + o ∧ o + 4 ≤ c.data.length
def inS (c : Mc) (x : Int) (o : Nat) : Prop := x % 4 = 0 ∧ x = 1073741824 - c.stack.length + o ∧ o + 4 ≤ c.stack.length
def noMem (c : Mc) (x : Int) : Prop := x % 4 ≠ 0 ∨ ((x < 1048576 ∨ (c.data.length : Int) < x - 1048576 + 4) ∧ (x < 1073741824 - c.stack.length ∨ (c.stack.length : Int) < x - (1073741824 - c.stack.length) + 4))
theorem mem_cases (c : Mc) (x : Int) : noMem c x ∨ (∃ o, inD c x o) ∨ ∃ o, inS c x o := by
  by_cases h4 : x % 4 = 0
  · by_cases hd : x < 1048576 ∨ (c.data.length : Int) < x - 1048576 + 4
    · by_cases hs : x < 1073741824 - c.stack.length ∨ (c.stack.length : Int) < x - (1073741824 - c.stack.length) + 4
      · exact .inl (.inr ⟨hd, hs⟩)
      · exact .inr (.inr ⟨(x - (1073741824 - c.stack.length)).toNat, h4, by omega, by omega⟩)
    · exact .inr (.inl ⟨(x - 1048576).toNat, h4, by omega, by omega⟩)
  · exact .inl (.inl h4)
theorem mem_nil {W : World} {C : Nat} {L : List Nat} {c : Mc} (hG : Good c) (h : CpuIn W C L c) (x : Int) (hx : 0 ≤ x ∧ x ≤ 4294967295) (hn : noMem c x) :
    Calls Tryz.prog 65 #[.pointer (some ⟨C, 0, none⟩), .int .u32 x] W fun e w' => e = .returned (.slice none 0 0) ∧ ∃ n, w' = W.drewN n := by
  obtain ⟨r, d, s, i, o, hb, hr, hd, hs, hi, ho, hk, hL, hnd⟩ := h
  obtain ⟨xd, yd, rfl⟩ := hd.len0
  obtain ⟨xs, ys, rfl⟩ := hs.len0
  by_cases h4 : x % 4 = 0
  · have hh := hn.resolve_left (fun e => e h4)
    exact mem4 C xd xs _ yd _ ys x W hx h4 hb.c2 (by have := hG.dl; omega) hh.1 hb.c3 hG.sl hh.2
  · exact mem1 C x W hx h4
theorem memD {W : World} {C : Nat} {L : List Nat} {c : Mc} (hG : Good c) (h : CpuIn W C L c) (x : Int) (o : Nat) (hn : inD c x o) :
    ∃ g off cap, (∀ W', Below W.heap.size W W' → Calls Tryz.prog 65 #[.pointer (some ⟨C, 0, none⟩), .int .u32 x] W' fun e w' => e = .returned (.slice (some ⟨g, off + o, none⟩) 4 cap) ∧ ∃ n, w' = W'.drewN n) ∧
      Row .u8 W g off c.data ∧ (∀ W', Row .u8 W' g off c.data → True) ∧ (∃ rv s i o' k, Bx W C rv (.int .u32 c.pc) (.slice (some ⟨g, off, none⟩) c.data.length k) s i o' (.int .u32 c.low) (.int .i64 c.st)) := by
  obtain ⟨r, d, s, i, o', hb, hr, hd, hs, hi, ho, hk, hL, hnd⟩ := h
  obtain ⟨h4, rfl, hf⟩ := hn
  obtain ⟨g, off, cap, rfl, hR, hbk⟩ := lis_some hd (by omega)
  refine ⟨g, off, cap - o, fun W' hW => ?_, hR, fun _ _ => trivial, r, s, i, o', cap, hb⟩
  exact mem2 C g off _ cap o W' (by omega) (hb.below hW).c2 (by have := hG.dl; omega) hk.1 hf
theorem memS {W : World} {C : Nat} {L : List Nat} {c : Mc} (hG : Good c) (h : CpuIn W C L c) (x : Int) (o : Nat) (hn : inS c x o) :
    ∃ g off cap, (∀ W', Below W.heap.size W W' → Calls Tryz.prog 65 #[.pointer (some ⟨C, 0, none⟩), .int .u32 x] W' fun e w' => e = .returned (.slice (some ⟨g, off + o, none⟩) 4 cap) ∧ ∃ n, w' = W'.drewN n) ∧
      Row .u8 W g off c.stack ∧ (∃ rv d i o' k, Bx W C rv (.int .u32 c.pc) d (.slice (some ⟨g, off, none⟩) c.stack.length k) i o' (.int .u32 c.low) (.int .i64 c.st)) := by
  obtain ⟨r, d, s, i, o', hb, hr, hd, hs, hi, ho, hk, hL, hnd⟩ := h
  obtain ⟨h4, rfl, hf⟩ := hn
  obtain ⟨g, off, cap, rfl, hR, hbk⟩ := lis_some hs (by omega)
  obtain ⟨xd, yd, rfl⟩ := hd.len0
  refine ⟨g, off, cap - o, fun W' hW => ?_, hR, r, _, i, o', cap, hb⟩
  exact mem3 C g off _ cap o xd _ yd W' h4 (hb.below hW).c2 (by have := hG.dl; omega) (hb.below hW).c3 hG.sl hk.2.1 hf
theorem eql_nil (a : Option Addr) (l c : Nat) (w : World) : (binOp .eql 26 (.slice a l c) (.slice none 0 0)).run Tryz.prog w = .ok (.bool a.isNone) w := Lib.run_eql_slice_nil w 26 5 a l c 0 0 Tryz.underlying26
def word4 (zs : List Int) (o : Nat) : Int := zs.getD o 0 + zs.getD (o + 1) 0 * 256 + zs.getD (o + 2) 0 * 65536 + zs.getD (o + 3) 0 * 16777216


set_option maxRecDepth 8000 in
set_option maxHeartbeats 1000000 in
theorem exLwF (C : Nat) (L : List Nat) (c : Mc)  (rd s1 s2 : Nat) (im : Int) (w : World) (hG : Good c) (h : CpuIn w C L c)  (hrd : rd < 32) (h1 : s1 < 32) (h2 : s2 < 32)
    (hst : c.st = 0) (hm : noMem c ((c.regs.getD s1 0 + im) % 4294967296)) :
    Calls Tryz.prog 52 #[.pointer (some ⟨C, 0, none⟩), .agg #[.int .i64 10, .int .i64 rd, .int .i64 s1, .int .i64 s2, .int .i64 im]] w fun e w' =>
      e = .returned (.bool false) ∧ CpuIn w' C L c ∧ Tcs (fun g => g ∈ L) w w' := by
  have T0 := (Tcs.refl (fun g => g ∈ L) w).alloc (.cells #[.int .i64 10, .int .i64 rd, .int .i64 s1, .int .i64 s2, .int .i64 im] 52)
  have h0 := h.below ((Below.refl w.heap.size w).alloc (Nat.le_refl _) (.cells #[.int .i64 10, .int .i64 rd, .int .i64 s1, .int .i64 s2, .int .i64 im] 52))
  obtain ⟨rv, d, s, i, o, hb, hr, hd, hs, hi, ho, hk, hL, hnd⟩ := id h0
  obtain ⟨g, off, cap, rfl, hR, hbk⟩ := lis_some hr (by have := hG.r32; omega)
  have e32 := hG.r32
  have c0 := hb.c0
  rw [e32] at c0
  have c1 := hb.c1
  have cs1 := hR.cell s1 (by omega)
  have cs2 := hR.cell s2 (by omega)
  have X0 : ∀ {W : World}, Tcs (fun g => g ∈ L) (w.alloc (.cells #[.int .i64 10, .int .i64 rd, .int .i64 s1, .int .i64 s2, .int .i64 im] 52)) W → W.cell? ⟨w.heap.size, 0, none⟩ = some (.int .i64 10) ∧ W.cell? ⟨w.heap.size, 1, none⟩ = some (.int .i64 rd) := by
    intro W hW
    have hkb := hW.block w.heap.size (by simp) (fun hm => by have := h.lt _ hm; omega)
    constructor <;> (rw [World.cell?_of_block (w := w.alloc _) hkb]; simp)
  have HS : Hid (∀ W v, Below (w.alloc (.cells #[.int .i64 10, .int .i64 rd, .int .i64 s1, .int .i64 s2, .int .i64 im] 52)).heap.size (w.alloc (.cells #[.int .i64 10, .int .i64 rd, .int .i64 s1, .int .i64 s2, .int .i64 im] 52)) W →
      Calls Tryz.prog 63 #[.pointer (some ⟨C, 0, none⟩), .int .i64 rd, .int .u32 v] W fun e w' => e = .returned (.tuple #[]) ∧ CpuIn w' C L (setR c rd v) ∧ Tcs (fun g => g ∈ L) w w' ∧ (w'.cell? ⟨w.heap.size, 0, none⟩ = some (.int .i64 10) ∧ w'.cell? ⟨w.heap.size, 1, none⟩ = some (.int .i64 rd))) := by
    intro W v hW
    refine (setReg_any C L c rd v W hG.r32 (by omega) (h0.below hW)).mono ?_
    rintro e w' ⟨rfl, hc, ht⟩
    have t1 := (Below.tcs (S := fun g => g ∈ L) hW).trans ht
    exact ⟨rfl, hc, T0.trans t1, X0 t1⟩
  have X00 := X0 (Tcs.refl _ _)
  have HM : Hid (∀ W, Below (w.alloc (.cells #[.int .i64 10, .int .i64 rd, .int .i64 s1, .int .i64 s2, .int .i64 im] 52)).heap.size (w.alloc (.cells #[.int .i64 10, .int .i64 rd, .int .i64 s1, .int .i64 s2, .int .i64 im] 52)) W → Calls Tryz.prog 65 #[.pointer (some ⟨C, 0, none⟩), .int .u32 ((c.regs.getD s1 0 + im) % 4294967296)] W fun e w' => e = .returned (.slice none 0 0) ∧ ∃ n, w' = W.drewN n) := fun W hW => mem_nil hG (h0.below hW) _ (m32_bd _) hm
  have HE : Hid _ := And.intro h0 T0
  have hnil := eql_nil none 0 0
  clear hm
  clear hb hr hR hd hs hi ho hk hL hnd hbk h h0 T0 X0
  generalize hx1 : c.regs.getD s1 0 = a at *
  generalize hx2 : c.regs.getD s2 0 = b at *
  go_enter Tryz.func52, Tryz.ntmps52
  go_wp2_with fail
  go_quiet (fail)
  go_wp2_with fail
  refine (HM.out _ ?_).mono ?_
  · exact below_drewN (Below.refl _ _) _
  rintro e w1 ⟨rfl, n1, rfl⟩
  go_wp2
  go_ret
  exact ⟨rfl, HE.out.1.below (below_drewN (Below.refl _ _) _), HE.out.2.drewN _⟩


set_option maxRecDepth 8000 in
set_option maxHeartbeats 1000000 in
theorem exSwF (C : Nat) (L : List Nat) (c : Mc)  (rd s1 s2 : Nat) (im : Int) (w : World) (hG : Good c) (h : CpuIn w C L c)  (hrd : rd < 32) (h1 : s1 < 32) (h2 : s2 < 32)
    (hst : c.st = 0) (hm : noMem c ((c.regs.getD s1 0 + im) % 4294967296)) :
    Calls Tryz.prog 52 #[.pointer (some ⟨C, 0, none⟩), .agg #[.int .i64 11, .int .i64 rd, .int .i64 s1, .int .i64 s2, .int .i64 im]] w fun e w' =>
      e = .returned (.bool false) ∧ CpuIn w' C L c ∧ Tcs (fun g => g ∈ L) w w' := by
  have T0 := (Tcs.refl (fun g => g ∈ L) w).alloc (.cells #[.int .i64 11, .int .i64 rd, .int .i64 s1, .int .i64 s2, .int .i64 im] 52)
  have h0 := h.below ((Below.refl w.heap.size w).alloc (Nat.le_refl _) (.cells #[.int .i64 11, .int .i64 rd, .int .i64 s1, .int .i64 s2, .int .i64 im] 52))
  obtain ⟨rv, d, s, i, o, hb, hr, hd, hs, hi, ho, hk, hL, hnd⟩ := id h0
  obtain ⟨g, off, cap, rfl, hR, hbk⟩ := lis_some hr (by have := hG.r32; omega)
  have e32 := hG.r32
  have c0 := hb.c0
  rw [e32] at c0
  have c1 := hb.c1
  have cs1 := hR.cell s1 (by omega)
  have cs2 := hR.cell s2 (by omega)
  have X0 : ∀ {W : World}, Tcs (fun g => g ∈ L) (w.alloc (.cells #[.int .i64 11, .int .i64 rd, .int .i64 s1, .int .i64 s2, .int .i64 im] 52)) W → W.cell? ⟨w.heap.size, 0, none⟩ = some (.int .i64 11) ∧ W.cell? ⟨w.heap.size, 1, none⟩ = some (.int .i64 rd) := by
    intro W hW
    have hkb := hW.block w.heap.size (by simp) (fun hm => by have := h.lt _ hm; omega)
    constructor <;> (rw [World.cell?_of_block (w := w.alloc _) hkb]; simp)
  have HS : Hid (∀ W v, Below (w.alloc (.cells #[.int .i64 11, .int .i64 rd, .int .i64 s1, .int .i64 s2, .int .i64 im] 52)).heap.size (w.alloc (.cells #[.int .i64 11, .int .i64 rd, .int .i64 s1, .int .i64 s2, .int .i64 im] 52)) W →
      Calls Tryz.prog 63 #[.pointer (some ⟨C, 0, none⟩), .int .i64 rd, .int .u32 v] W fun e w' => e = .returned (.tuple #[]) ∧ CpuIn w' C L (setR c rd v) ∧ Tcs (fun g => g ∈ L) w w' ∧ (w'.cell? ⟨w.heap.size, 0, none⟩ = some (.int .i64 11) ∧ w'.cell? ⟨w.heap.size, 1, none⟩ = some (.int .i64 rd))) := by
    intro W v hW
    refine (setReg_any C L c rd v W hG.r32 (by omega) (h0.below hW)).mono ?_
    rintro e w' ⟨rfl, hc, ht⟩
    have t1 := (Below.tcs (S := fun g => g ∈ L) hW).trans ht
    exact ⟨rfl, hc, T0.trans t1, X0 t1⟩
  have X00 := X0 (Tcs.refl _ _)
  have HM : Hid (∀ W, Below (w.alloc (.cells #[.int .i64 11, .int .i64 rd, .int .i64 s1, .int .i64 s2, .int .i64 im] 52)).heap.size (w.alloc (.cells #[.int .i64 11, .int .i64 rd, .int .i64 s1, .int .i64 s2, .int .i64 im] 52)) W → Calls Tryz.prog 65 #[.pointer (some ⟨C, 0, none⟩), .int .u32 ((c.regs.getD s1 0 + im) % 4294967296)] W fun e w' => e = .returned (.slice none 0 0) ∧ ∃ n, w' = W.drewN n) := fun W hW => mem_nil hG (h0.below hW) _ (m32_bd _) hm
  have HE : Hid _ := And.intro h0 T0
  have hnil := eql_nil none 0 0
  clear hm
  clear hb hr hR hd hs hi ho hk hL hnd hbk h h0 T0 X0
  generalize hx1 : c.regs.getD s1 0 = a at *
  generalize hx2 : c.regs.getD s2 0 = b at *
  go_enter Tryz.func52, Tryz.ntmps52
  go_wp2_with fail
  go_quiet (fail)
  go_wp2_with fail
  refine (HM.out _ ?_).mono ?_
  · exact below_drewN (Below.refl _ _) _
  rintro e w1 ⟨rfl, n1, rfl⟩
  go_wp2
  go_ret
  exact ⟨rfl, HE.out.1.below (below_drewN (Below.refl _ _) _), HE.out.2.drewN _⟩

end Go.Proofs.YtabjcodpagjbjaaGreat

namespace Go.Proofs.YtabjcodpagjbjaaGreat
open Go.RowKit
set_option linter.unusedVariables false
set_option linter.unusedSimpArgs false

def put4 (zs : List Int) (o : Nat) (v : Int) : List Int := (((zs.set o (v % 256)).set (o + 1) (v / 256 % 256)).set (o + 2) (v / 65536 % 256)).set (o + 3) (v / 16777216)
theorem put4_len (zs : List Int) (o : Nat) (v : Int) : (put4 zs o v).length = zs.length := by simp [put4]
theorem Row.put4 {W : World} {g off o : Nat} {zs : List Int} {v : Int} (h : Row .u8 W g off zs) (ho : o + 4 ≤ zs.length) :
    Row .u8 ((((W.setCell ⟨g, off + o, none⟩ (.int .u8 (v % 256))).setCell ⟨g, off + o + 1, none⟩ (.int .u8 (v / 256 % 256))).setCell ⟨g, off + o + 2, none⟩ (.int .u8 (v / 65536 % 256))).setCell ⟨g, off + o + 3, none⟩ (.int .u8 (v / 16777216))) g off (put4 zs o v) := by
  rw [Nat.add_assoc off o 1, Nat.add_assoc off o 2, Nat.add_assoc off o 3]
  exact (((h.set (by omega)).set (by simp; omega)).set (by simp; omega)).set (by simp; omega)
/-- The data's block turns, the rest stays. -/
theorem CpuIn.dat {w w' : World} {C : Nat} {L : List Nat} {c : Mc} {g off cap : Nat} {r s i o : Value} {rs : List Int}
    (hb : Bx w C r (.int .u32 c.pc) (.slice (some ⟨g, off, none⟩) c.data.length cap) s i o (.int .u32 c.low) (.int .i64 c.st)) (hr : Lis .u32 w r c.regs) (hs : Lis .u8 w s c.stack) (hi : Lis .i64 w i c.inn)
    (ho : w.ownsRow 0 2 1 o c.out.length (c.out.map (Value.int .i64))) (hk : capOk (.slice (some ⟨g, off, none⟩) c.data.length cap) ∧ capOk s ∧ capOk i) (hL : L = C :: (blk r ++ blk (.slice (some ⟨g, off, none⟩) c.data.length cap) ++ blk s ++ blk i ++ obk o)) (hnd : L.Nodup) (hn : 0 < c.data.length)
    (ht : Tcs (fun k => k = g) w w') (hl : rs.length = c.data.length) (hR : Row .u8 w' g off rs) : CpuIn w' C L { c with data := rs } := by
  have hbk := blk_some ⟨g, off, none⟩ c.data.length cap hn
  have hnd' := hnd
  rw [hL, hbk] at hnd'
  have k0 : C ≠ g := fun e => (List.nodup_cons.mp hnd').1 (by simp [e])
  have h2 := (List.nodup_cons.mp hnd').2
  have k1 : g ∉ blk r := fun hm => by
    rw [List.append_assoc, List.append_assoc, List.append_assoc] at h2
    exact nodup_sub h2 hm (by simp)
  have k2 : g ∉ blk s ∧ g ∉ blk i ∧ g ∉ obk o := by
    rw [List.append_assoc, List.append_assoc, List.append_assoc, List.nodup_append] at h2
    have h3 := h2.2.1
    simp only [List.cons_append, List.nil_append, List.nodup_cons, List.mem_append, not_or] at h3
    exact h3.1
  refine ⟨r, .slice (some ⟨g, off, none⟩) c.data.length cap, s, i, o, hb.keep (ht.block C hb.lt k0), hr.tcs ht fun k hk e => k1 (e ▸ hk), ?_, hs.tcs ht fun k hk e => k2.1 (e ▸ hk), hi.tcs ht fun k hk e => k2.2.1 (e ▸ hk), own_tcs ho ht fun k hk e => k2.2.2 (e ▸ hk), hk, hL, hnd⟩
  exact ⟨_, cap, by simp [hl], fun _ => ⟨g, off, rfl, hR⟩⟩
theorem CpuIn.stk {w w' : World} {C : Nat} {L : List Nat} {c : Mc} {g off cap : Nat} {r d i o : Value} {rs : List Int}
    (hb : Bx w C r (.int .u32 c.pc) d (.slice (some ⟨g, off, none⟩) c.stack.length cap) i o (.int .u32 c.low) (.int .i64 c.st)) (hr : Lis .u32 w r c.regs) (hd : Lis .u8 w d c.data) (hi : Lis .i64 w i c.inn)
    (ho : w.ownsRow 0 2 1 o c.out.length (c.out.map (Value.int .i64))) (hk : capOk d ∧ capOk (.slice (some ⟨g, off, none⟩) c.stack.length cap) ∧ capOk i) (hL : L = C :: (blk r ++ blk d ++ blk (.slice (some ⟨g, off, none⟩) c.stack.length cap) ++ blk i ++ obk o)) (hnd : L.Nodup) (hn : 0 < c.stack.length)
    (ht : Tcs (fun k => k = g) w w') (hl : rs.length = c.stack.length) (hR : Row .u8 w' g off rs) : CpuIn w' C L { c with stack := rs } := by
  have hbk := blk_some ⟨g, off, none⟩ c.stack.length cap hn
  have hnd' := hnd
  rw [hL, hbk] at hnd'
  have k0 : C ≠ g := fun e => (List.nodup_cons.mp hnd').1 (by simp [e])
  have h2 := (List.nodup_cons.mp hnd').2
  rw [List.append_assoc, List.append_assoc] at h2
  have k1 : g ∉ blk r ++ blk d := fun hm => nodup_sub h2 hm (by simp)
  have k2 : g ∉ blk i ∧ g ∉ obk o := by
    rw [List.nodup_append] at h2
    have h3 := h2.2.1
    simp only [List.cons_append, List.nil_append, List.nodup_cons, List.mem_append, not_or] at h3
    exact h3.1
  simp only [List.mem_append, not_or] at k1
  refine ⟨r, d, .slice (some ⟨g, off, none⟩) c.stack.length cap, i, o, hb.keep (ht.block C hb.lt k0), hr.tcs ht fun k hk e => k1.1 (e ▸ hk), hd.tcs ht fun k hk e => k1.2 (e ▸ hk), ?_, hi.tcs ht fun k hk e => k2.1 (e ▸ hk), own_tcs ho ht fun k hk e => k2.2 (e ▸ hk), hk, hL, hnd⟩
  exact ⟨_, cap, by simp [hl], fun _ => ⟨g, off, rfl, hR⟩⟩


set_option maxRecDepth 8000 in
set_option maxHeartbeats 1000000 in
theorem exLwD (C : Nat) (L : List Nat) (c : Mc)  (rd s1 s2 : Nat) (im : Int) (w : World) (hG : Good c) (h : CpuIn w C L c) (m : Nat) (hrd : rd < 32) (h1 : s1 < 32) (h2 : s2 < 32)
    (hst : c.st = 0) (hm : inD c ((c.regs.getD s1 0 + im) % 4294967296) m) :
    Calls Tryz.prog 52 #[.pointer (some ⟨C, 0, none⟩), .agg #[.int .i64 10, .int .i64 rd, .int .i64 s1, .int .i64 s2, .int .i64 im]] w fun e w' =>
      e = .returned (.bool true) ∧ CpuIn w' C L { setR c rd (word4 c.data m) with pc := (c.pc + 4) % 4294967296 } ∧ Tcs (fun g => g ∈ L) w w' := by
  have T0 := (Tcs.refl (fun g => g ∈ L) w).alloc (.cells #[.int .i64 10, .int .i64 rd, .int .i64 s1, .int .i64 s2, .int .i64 im] 52)
  have h0 := h.below ((Below.refl w.heap.size w).alloc (Nat.le_refl _) (.cells #[.int .i64 10, .int .i64 rd, .int .i64 s1, .int .i64 s2, .int .i64 im] 52))
  obtain ⟨rv, d, s, i, o, hb, hr, hd, hs, hi, ho, hk, hL, hnd⟩ := id h0
  obtain ⟨g, off, cap, rfl, hR, hbk⟩ := lis_some hr (by have := hG.r32; omega)
  have e32 := hG.r32
  have c0 := hb.c0
  rw [e32] at c0
  have c1 := hb.c1
  have cs1 := hR.cell s1 (by omega)
  have cs2 := hR.cell s2 (by omega)
  have X0 : ∀ {W : World}, Tcs (fun g => g ∈ L) (w.alloc (.cells #[.int .i64 10, .int .i64 rd, .int .i64 s1, .int .i64 s2, .int .i64 im] 52)) W → W.cell? ⟨w.heap.size, 0, none⟩ = some (.int .i64 10) ∧ W.cell? ⟨w.heap.size, 1, none⟩ = some (.int .i64 rd) := by
    intro W hW
    have hkb := hW.block w.heap.size (by simp) (fun hm => by have := h.lt _ hm; omega)
    constructor <;> (rw [World.cell?_of_block (w := w.alloc _) hkb]; simp)
  have HS : Hid (∀ W v, Below (w.alloc (.cells #[.int .i64 10, .int .i64 rd, .int .i64 s1, .int .i64 s2, .int .i64 im] 52)).heap.size (w.alloc (.cells #[.int .i64 10, .int .i64 rd, .int .i64 s1, .int .i64 s2, .int .i64 im] 52)) W →
      Calls Tryz.prog 63 #[.pointer (some ⟨C, 0, none⟩), .int .i64 rd, .int .u32 v] W fun e w' => e = .returned (.tuple #[]) ∧ CpuIn w' C L (setR c rd v) ∧ Tcs (fun g => g ∈ L) w w' ∧ (w'.cell? ⟨w.heap.size, 0, none⟩ = some (.int .i64 10) ∧ w'.cell? ⟨w.heap.size, 1, none⟩ = some (.int .i64 rd))) := by
    intro W v hW
    refine (setReg_any C L c rd v W hG.r32 (by omega) (h0.below hW)).mono ?_
    rintro e w' ⟨rfl, hc, ht⟩
    have t1 := (Below.tcs (S := fun g => g ∈ L) hW).trans ht
    exact ⟨rfl, hc, T0.trans t1, X0 t1⟩
  have X00 := X0 (Tcs.refl _ _)
  obtain ⟨gm, om, cm, hmem, hrow, _, _⟩ := memD hG h0 _ m hm
  have HM : Hid _ := hmem
  have HR : Hid (∀ W, Below (w.alloc (.cells #[.int .i64 10, .int .i64 rd, .int .i64 s1, .int .i64 s2, .int .i64 im] 52)).heap.size (w.alloc (.cells #[.int .i64 10, .int .i64 rd, .int .i64 s1, .int .i64 s2, .int .i64 im] 52)) W → Calls Tryz.prog 66 #[.slice (some ⟨gm, om + m, none⟩) 4 cm] W fun e w' => e = .returned (.int .u32 (word4 c.data m)) ∧ ∃ n, w' = W.drewN n) := by
    intro W hW
    have hl := hm.2.2
    have rk := hrow.keep hW.size (hW.block gm hrow.lt)
    exact read_any gm (om + m) cm _ _ _ _ W (hG.du m (by omega)) (hG.du (m + 1) (by omega)) (hG.du (m + 2) (by omega)) (hG.du (m + 3) (by omega)) (rk.cell m (by omega)) (rk.cell (m + 1) (by omega)) (rk.cell (m + 2) (by omega)) (rk.cell (m + 3) (by omega))
  have hnil := eql_nil (some ⟨gm, om + m, none⟩) 4 cm
  simp only [Option.isNone_some] at hnil
  clear hmem hrow hm
  clear hb hr hR hd hs hi ho hk hL hnd hbk h h0 T0 X0
  generalize hx1 : c.regs.getD s1 0 = a at *
  generalize hx2 : c.regs.getD s2 0 = b at *
  go_enter Tryz.func52, Tryz.ntmps52
  go_wp2_with fail
  go_quiet (fail)
  go_wp2_with fail
  refine (HM.out _ ?_).mono ?_
  · exact below_drewN (Below.refl _ _) _
  rintro e w1 ⟨rfl, n1, rfl⟩
  go_wp2_with fail
  go_region_held3 (fun W => W.cell? ⟨w.heap.size, 0, none⟩ = some (.int .i64 10) ∧ W.cell? ⟨w.heap.size, 1, none⟩ = some (.int .i64 rd)) (first | exact X00 | assumption | (go_simp; done))
    (first
    | (go_at_call 66; refine (HR.out _ ?_).mono ?_; (first | exact below_drewN (Below.refl _ _) _ | exact (below_drewN (Below.refl _ _) _).drew | exact (Below.refl _ _).drew | exact Below.refl _ _); rintro e w1 ⟨rfl, n2, rfl⟩)
    | (go_at_call 63; refine (HS.out _ _ ?_).mono ?_; (first | exact below_drewN (Below.refl _ _) _ | exact (below_drewN (Below.refl _ _) _).drew | exact (Below.refl _ _).drew | exact Below.refl _ _); rintro e w2 ⟨rfl, hc2, ht2, x2⟩))
  obtain ⟨rv, d2, s2', i2, o2, hb2, _, _, _, _, _, _, _⟩ := id hc2
  have q1 := hb2.c1
  have q7 := hb2.c7
  have qf := hb2.fz 1
  rw [setR_pc] at q1
  rw [setR_st, hst] at q7
  have HE : Hid _ := And.intro hc2 ht2
  clear hb2 hc2 ht2 x2
  go_wp2
  go_ret
  exact ⟨rfl, HE.out.1.pc _, HE.out.2.setCell HE.out.1.mem _⟩


set_option maxRecDepth 8000 in
set_option maxHeartbeats 1000000 in
theorem exLwS (C : Nat) (L : List Nat) (c : Mc)  (rd s1 s2 : Nat) (im : Int) (w : World) (hG : Good c) (h : CpuIn w C L c) (m : Nat) (hrd : rd < 32) (h1 : s1 < 32) (h2 : s2 < 32)
    (hst : c.st = 0) (hm : inS c ((c.regs.getD s1 0 + im) % 4294967296) m) :
    Calls Tryz.prog 52 #[.pointer (some ⟨C, 0, none⟩), .agg #[.int .i64 10, .int .i64 rd, .int .i64 s1, .int .i64 s2, .int .i64 im]] w fun e w' =>
      e = .returned (.bool true) ∧ CpuIn w' C L { setR c rd (word4 c.stack m) with pc := (c.pc + 4) % 4294967296 } ∧ Tcs (fun g => g ∈ L) w w' := by
  have T0 := (Tcs.refl (fun g => g ∈ L) w).alloc (.cells #[.int .i64 10, .int .i64 rd, .int .i64 s1, .int .i64 s2, .int .i64 im] 52)
  have h0 := h.below ((Below.refl w.heap.size w).alloc (Nat.le_refl _) (.cells #[.int .i64 10, .int .i64 rd, .int .i64 s1, .int .i64 s2, .int .i64 im] 52))
  obtain ⟨rv, d, s, i, o, hb, hr, hd, hs, hi, ho, hk, hL, hnd⟩ := id h0
  obtain ⟨g, off, cap, rfl, hR, hbk⟩ := lis_some hr (by have := hG.r32; omega)
  have e32 := hG.r32
  have c0 := hb.c0
  rw [e32] at c0
  have c1 := hb.c1
  have cs1 := hR.cell s1 (by omega)
  have cs2 := hR.cell s2 (by omega)
  have X0 : ∀ {W : World}, Tcs (fun g => g ∈ L) (w.alloc (.cells #[.int .i64 10, .int .i64 rd, .int .i64 s1, .int .i64 s2, .int .i64 im] 52)) W → W.cell? ⟨w.heap.size, 0, none⟩ = some (.int .i64 10) ∧ W.cell? ⟨w.heap.size, 1, none⟩ = some (.int .i64 rd) := by
    intro W hW
    have hkb := hW.block w.heap.size (by simp) (fun hm => by have := h.lt _ hm; omega)
    constructor <;> (rw [World.cell?_of_block (w := w.alloc _) hkb]; simp)
  have HS : Hid (∀ W v, Below (w.alloc (.cells #[.int .i64 10, .int .i64 rd, .int .i64 s1, .int .i64 s2, .int .i64 im] 52)).heap.size (w.alloc (.cells #[.int .i64 10, .int .i64 rd, .int .i64 s1, .int .i64 s2, .int .i64 im] 52)) W →
      Calls Tryz.prog 63 #[.pointer (some ⟨C, 0, none⟩), .int .i64 rd, .int .u32 v] W fun e w' => e = .returned (.tuple #[]) ∧ CpuIn w' C L (setR c rd v) ∧ Tcs (fun g => g ∈ L) w w' ∧ (w'.cell? ⟨w.heap.size, 0, none⟩ = some (.int .i64 10) ∧ w'.cell? ⟨w.heap.size, 1, none⟩ = some (.int .i64 rd))) := by
    intro W v hW
    refine (setReg_any C L c rd v W hG.r32 (by omega) (h0.below hW)).mono ?_
    rintro e w' ⟨rfl, hc, ht⟩
    have t1 := (Below.tcs (S := fun g => g ∈ L) hW).trans ht
    exact ⟨rfl, hc, T0.trans t1, X0 t1⟩
  have X00 := X0 (Tcs.refl _ _)
  obtain ⟨gm, om, cm, hmem, hrow, _⟩ := memS hG h0 _ m hm
  have HM : Hid _ := hmem
  have HR : Hid (∀ W, Below (w.alloc (.cells #[.int .i64 10, .int .i64 rd, .int .i64 s1, .int .i64 s2, .int .i64 im] 52)).heap.size (w.alloc (.cells #[.int .i64 10, .int .i64 rd, .int .i64 s1, .int .i64 s2, .int .i64 im] 52)) W → Calls Tryz.prog 66 #[.slice (some ⟨gm, om + m, none⟩) 4 cm] W fun e w' => e = .returned (.int .u32 (word4 c.stack m)) ∧ ∃ n, w' = W.drewN n) := by
    intro W hW
    have hl := hm.2.2
    have rk := hrow.keep hW.size (hW.block gm hrow.lt)
    exact read_any gm (om + m) cm _ _ _ _ W (hG.su m (by omega)) (hG.su (m + 1) (by omega)) (hG.su (m + 2) (by omega)) (hG.su (m + 3) (by omega)) (rk.cell m (by omega)) (rk.cell (m + 1) (by omega)) (rk.cell (m + 2) (by omega)) (rk.cell (m + 3) (by omega))
  have hnil := eql_nil (some ⟨gm, om + m, none⟩) 4 cm
  simp only [Option.isNone_some] at hnil
  clear hmem hrow hm
  clear hb hr hR hd hs hi ho hk hL hnd hbk h h0 T0 X0
  generalize hx1 : c.regs.getD s1 0 = a at *
  generalize hx2 : c.regs.getD s2 0 = b at *
  go_enter Tryz.func52, Tryz.ntmps52
  go_wp2_with fail
  go_quiet (fail)
  go_wp2_with fail
  refine (HM.out _ ?_).mono ?_
  · exact below_drewN (Below.refl _ _) _
  rintro e w1 ⟨rfl, n1, rfl⟩
  go_wp2_with fail
  go_region_held3 (fun W => W.cell? ⟨w.heap.size, 0, none⟩ = some (.int .i64 10) ∧ W.cell? ⟨w.heap.size, 1, none⟩ = some (.int .i64 rd)) (first | exact X00 | assumption | (go_simp; done))
    (first
    | (go_at_call 66; refine (HR.out _ ?_).mono ?_; (first | exact below_drewN (Below.refl _ _) _ | exact (below_drewN (Below.refl _ _) _).drew | exact (Below.refl _ _).drew | exact Below.refl _ _); rintro e w1 ⟨rfl, n2, rfl⟩)
    | (go_at_call 63; refine (HS.out _ _ ?_).mono ?_; (first | exact below_drewN (Below.refl _ _) _ | exact (below_drewN (Below.refl _ _) _).drew | exact (Below.refl _ _).drew | exact Below.refl _ _); rintro e w2 ⟨rfl, hc2, ht2, x2⟩))
  obtain ⟨rv, d2, s2', i2, o2, hb2, _, _, _, _, _, _, _⟩ := id hc2
  have q1 := hb2.c1
  have q7 := hb2.c7
  have qf := hb2.fz 1
  rw [setR_pc] at q1
  rw [setR_st, hst] at q7
  have HE : Hid _ := And.intro hc2 ht2
  clear hb2 hc2 ht2 x2
  go_wp2
  go_ret
  exact ⟨rfl, HE.out.1.pc _, HE.out.2.setCell HE.out.1.mem _⟩

end Go.Proofs.YtabjcodpagjbjaaGreat
