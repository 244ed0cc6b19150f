import Derived.Test.YtabjcodpagjbjaaRows
import Derived.WalkKit
import Derived.WalkSpells
import Derived.ProofKit
import Derived.Deep.QuietTactic
import Derived.BigQuiet
import Derived.WalkSmall
import Derived.Test.YtabjcodpagjbjaaP07
namespace Go.Proofs.Ytabjcodpagjbjaa
open Go.RowKit
set_option linter.unusedVariables false
set_option linter.unusedSimpArgs false
theorem ret_intc {k : IntKind} {a b : Int} (h : a = b) : Ending.returned (.int k a) = .returned (.int k b) := by rw [h]
/-- The world has turned in block g and in new blocks alone. -/
structure Tch (g : Nat) (W w' : World) : Prop where
  os : w'.os = W.os
  tape : w'.tape = W.tape
  output : w'.output = W.output
  size : W.heap.size ≤ w'.heap.size
  block : ∀ k, k < W.heap.size → k ≠ g → w'.heap[k]? = W.heap[k]?
theorem Tch.refl (g : Nat) (W : World) : Tch g W W := ⟨rfl, rfl, rfl, Nat.le_refl _, fun _ _ _ => rfl⟩
theorem Tch.trans {g : Nat} {a b c : World} (h : Tch g a b) (k : Tch g b c) : Tch g a c :=
  ⟨k.os.trans h.os, k.tape.trans h.tape, k.output.trans h.output, Nat.le_trans h.size k.size, fun i hi hg => (k.block i (Nat.lt_of_lt_of_le hi h.size) hg).trans (h.block i hi hg)⟩
theorem Tch.drewN {g : Nat} {a w : World} (h : Tch g a w) (n : Nat) : Tch g a (w.drewN n) := h.trans ⟨rfl, rfl, rfl, Nat.le_refl _, fun _ _ _ => rfl⟩
theorem Tch.setCell {g : Nat} {a w : World} (h : Tch g a w) (o : Nat) (u : Value) : Tch g a (w.setCell ⟨g, o, none⟩ u) :=
  h.trans ⟨rfl, rfl, rfl, by simp, fun k _ hk => Below.heap_setCell w ⟨g, o, none⟩ u k hk⟩
theorem Tch.below {g B : Nat} {a w w' : World} (h : Tch g w w') (hb : Below B a w) (hB : B ≤ w.heap.size) (hg : B ≤ g) : Below B a w' :=
  ⟨h.os.trans hb.os, h.tape.trans hb.tape, h.output.trans hb.output, Nat.le_trans hb.size h.size, fun k hk => (h.block k (by omega) (by omega)).trans (hb.block k hk)⟩
theorem Tch.cell {g : Nat} {W w' : World} (h : Tch g W w') {k o : Nat} (hk : k < W.heap.size) (hg : k ≠ g) : w'.cell? ⟨k, o, none⟩ = W.cell? ⟨k, o, none⟩ := World.cell?_of_block (w := W) (h.block k hk hg)
theorem Tch.frozen {g : Nat} {W w' : World} (h : Tch g W w') {k o : Nat} (hk : k < W.heap.size) (hg : k ≠ g) : w'.frozen? ⟨k, o, none⟩ = W.frozen? ⟨k, o, none⟩ := World.frozen?_of_block (w := W) (h.block k hk hg)
/-- A cursor over the bytes zs at a, in block g. -/
structure Cur (g : Nat) (a : Option Addr) (len cap : Nat) (W : World) : Prop where
  lt : g < W.heap.size
  s0 : W.cell? ⟨g, 0, none⟩ = some (.slice a len cap)
  s1 : ∃ i : Nat, i ≤ len ∧ W.cell? ⟨g, 1, none⟩ = some (.int .i64 i)
  s2 : ∃ h : Int, W.cell? ⟨g, 2, none⟩ = some (.int .i64 h)
  fz : ∀ j, W.frozen? ⟨g, j, none⟩ = false
  by8 : 0 < len → ∃ b off, a = some ⟨b, off, none⟩ ∧ b < W.heap.size ∧ b ≠ g ∧ ∀ j, j < len → ∃ z : Int, 0 ≤ z ∧ z ≤ 255 ∧ W.cell? ⟨b, off + j, none⟩ = some (.int .u8 z)
theorem and255 (x : Int) : 0 ≤ bits .and .i64 x 255 ∧ bits .and .i64 x 255 ≤ 255 := by
  show 0 ≤ IntKind.i64.wrap ((BitVec.ofInt 64 x &&& BitVec.ofInt 64 255).toNat : Int) ∧ IntKind.i64.wrap ((BitVec.ofInt 64 x &&& BitVec.ofInt 64 255).toNat : Int) ≤ 255
  have h : (BitVec.ofInt 64 x &&& BitVec.ofInt 64 255).toNat ≤ 255 := by
    rw [BitVec.toNat_and]
    exact Nat.le_trans Nat.and_le_right (by decide)
  rw [IntKind.wrap_i64]
  omega
theorem block_of_cell {W : World} {g o : Nat} {v : Value} (h : W.cell? ⟨g, o, none⟩ = some v) : g < W.heap.size := World.block_lt_of_cell? _ _ h

set_option maxHeartbeats 2000000 in
theorem byte_end (g : Nat) (a : Option Addr) (len cap : Nat) (i : Nat) (h : Int) (W : World) (hl : len ≤ 1048576) (hi : i ≤ len) (hend : ¬ i < len) (c0 : W.cell? ⟨g, 0, none⟩ = some (.slice a len cap)) (c1 : W.cell? ⟨g, 1, none⟩ = some (.int .i64 i)) (c2 : W.cell? ⟨g, 2, none⟩ = some (.int .i64 h)) (fz : ∀ j, W.frozen? ⟨g, j, none⟩ = false) :
    Calls Try.prog 57 #[.pointer (some ⟨g, 0, none⟩)] W fun e w' => ∃ x h', e = .returned (.int .i64 x) ∧ (0 ≤ x ∧ x ≤ 255) ∧ ∃ n, w' = (W.setCell ⟨g, 2, none⟩ (.int .i64 h')).drewN n := by
  have f2 := fz 2
  clear fz
  go_enter Try.func57, Try.ntmps57
  go_wp2
  go_quiet (fail)
  go_wp2
  go_quiet (fail)
  go_wp2
  go_ret
  exact ⟨_, _, rfl, and255 _, _, by first | rfl | rw [World.drewN_drewN]⟩

set_option maxHeartbeats 2000000 in
theorem byte_more (g b off : Nat) (len cap : Nat) (i : Nat) (h z : Int) (W : World) (hl : len ≤ 1048576) (hlt : i < len) (hbg : ¬ b = g) (hz : 0 ≤ z ∧ z ≤ 255) (cz : W.cell? ⟨b, off + i, none⟩ = some (.int .u8 z))
    (c0 : W.cell? ⟨g, 0, none⟩ = some (.slice (some ⟨b, off, none⟩) len cap)) (c1 : W.cell? ⟨g, 1, none⟩ = some (.int .i64 i)) (c2 : W.cell? ⟨g, 2, none⟩ = some (.int .i64 h)) (fz : ∀ j, W.frozen? ⟨g, j, none⟩ = false) :
    Calls Try.prog 57 #[.pointer (some ⟨g, 0, none⟩)] W fun e w' => ∃ x h', e = .returned (.int .i64 x) ∧ (0 ≤ x ∧ x ≤ 255) ∧ ∃ n, w' = ((W.setCell ⟨g, 2, none⟩ (.int .i64 h')).drewN n).setCell ⟨g, 1, none⟩ (.int .i64 (i + 1)) := by
  have f2 := fz 2
  have f1 := fz 1
  have hgb : ¬ g = b := fun e => hbg e.symm
  have hi1 : (0 : Int) ≤ (i : Int) := by omega
  have hi2 : (i : Int) < (len : Int) := by omega
  clear fz
  go_enter Try.func57, Try.ntmps57
  go_wp2
  go_quiet (fail)
  go_wp2
  go_quiet (fail)
  go_wp2
  go_quiet (fail)
  go_wp2
  go_ret
  exact ⟨_, _, rfl, and255 _, _, rfl⟩
theorem Cur.set2 {g : Nat} {a : Option Addr} {len cap : Nat} {W : World} (hc : Cur g a len cap W) (h' : Int) : Cur g a len cap (W.setCell ⟨g, 2, none⟩ (.int .i64 h')) := by
  obtain ⟨lt, c0, ⟨i, hi, c1⟩, ⟨h, c2⟩, fz, b8⟩ := hc
  refine ⟨by simpa using lt, by go_simp, ⟨i, hi, by go_simp⟩, ⟨h', by go_simp⟩, fun j => by simpa using fz j, fun hl => ?_⟩
  obtain ⟨b, off, ha, hb, hbg, hz⟩ := b8 hl
  exact ⟨b, off, ha, by simpa using hb, hbg, fun j hj => by obtain ⟨z, z0, z1, cz⟩ := hz j hj; exact ⟨z, z0, z1, (World.cell?_of_block (Below.heap_setCell W _ _ b hbg)).trans cz⟩⟩
theorem Cur.set1 {g : Nat} {a : Option Addr} {len cap : Nat} {W : World} (hc : Cur g a len cap W) (i' : Nat) (hi' : i' ≤ len) : Cur g a len cap (W.setCell ⟨g, 1, none⟩ (.int .i64 i')) := by
  obtain ⟨lt, c0, ⟨i, hi, c1⟩, ⟨h, c2⟩, fz, b8⟩ := hc
  refine ⟨by simpa using lt, by go_simp, ⟨i', hi', by go_simp⟩, ⟨h, by go_simp⟩, fun j => by simpa using fz j, fun hl => ?_⟩
  obtain ⟨b, off, ha, hb, hbg, hz⟩ := b8 hl
  exact ⟨b, off, ha, by simpa using hb, hbg, fun j hj => by obtain ⟨z, z0, z1, cz⟩ := hz j hj; exact ⟨z, z0, z1, (World.cell?_of_block (Below.heap_setCell W _ _ b hbg)).trans cz⟩⟩
theorem Cur.drewN {g : Nat} {a : Option Addr} {len cap : Nat} {W : World} (hc : Cur g a len cap W) (n : Nat) : Cur g a len cap (W.drewN n) := ⟨hc.lt, hc.s0, hc.s1, hc.s2, hc.fz, hc.by8⟩
theorem byte_any (g : Nat) (a : Option Addr) (len cap : Nat) (W : World) (hl : len ≤ 1048576) (hc : Cur g a len cap W) :
    Calls Try.prog 57 #[.pointer (some ⟨g, 0, none⟩)] W fun e w' => ∃ x, e = .returned (.int .i64 x) ∧ (0 ≤ x ∧ x ≤ 255) ∧ Cur g a len cap w' ∧ Tch g W w' := by
  obtain ⟨i, hi, c1⟩ := hc.s1
  obtain ⟨h, c2⟩ := hc.s2
  by_cases hlt : i < len
  · obtain ⟨b, off, rfl, hb, hbg, hz⟩ := hc.by8 (by omega)
    obtain ⟨z, z0, z1, cz⟩ := hz i hlt
    refine (byte_more g b off len cap i h z W hl hlt hbg ⟨z0, z1⟩ cz hc.s0 c1 c2 hc.fz).mono ?_
    rintro e w' ⟨x, h', rfl, hx, n, rfl⟩
    exact ⟨x, rfl, hx, ((hc.set2 h').drewN n).set1 (i + 1) (by omega), (((Tch.refl g W).setCell 2 _).drewN n).setCell 1 _⟩
  · refine (byte_end g a len cap i h W hl hi hlt hc.s0 c1 c2 hc.fz).mono ?_
    rintro e w' ⟨x, h', rfl, hx, n, rfl⟩
    exact ⟨x, rfl, hx, (hc.set2 h').drewN n, ((Tch.refl g W).setCell 2 _).drewN n⟩
set_option maxHeartbeats 1000000 in
theorem below_any (g : Nat) (a : Option Addr) (len cap : Nat) (n : Int) (W : World) (hl : len ≤ 1048576) (hc : Cur g a len cap W) (hn : 1 ≤ n ∧ n ≤ 100000) :
    Calls Try.prog 26 #[.pointer (some ⟨g, 0, none⟩), .int .i64 n] W fun e w' => ∃ x, e = .returned (.int .i64 x) ∧ (0 ≤ x ∧ x < n) ∧ Cur g a len cap w' ∧ Tch g W w' := by
  have HC : Hid _ := hc
  clear hc
  have hnz : (n == 0) = false := by simp; omega
  by_cases h : n ≤ 256
  · go_enter Try.func26, Try.ntmps26
    go_wp2_with fail
    refine (byte_any g a len cap _ hl HC.out).mono ?_
    rintro e w1 ⟨x, rfl, hx, hc1, ht1⟩
    have H1 : Hid _ := hc1
    have T1 : Hid _ := ht1
    clear hc1 ht1
    go_wp2
    go_ret
    exact ⟨_, rfl, ⟨Int.emod_nonneg _ (by omega), Int.emod_lt_of_pos _ (by omega)⟩, H1.out, T1.out⟩
  · go_enter Try.func26, Try.ntmps26
    go_wp2_with fail
    refine (byte_any g a len cap _ hl HC.out).mono ?_
    rintro e w1 ⟨x, rfl, hx, hc1, ht1⟩
    have H1 : Hid _ := hc1
    have T1 : Hid _ := ht1
    clear hc1 ht1
    go_wp2_with fail
    refine (byte_any g a len cap _ hl H1.out).mono ?_
    rintro e w2 ⟨y, rfl, hy, hc2, ht2⟩
    have H2 : Hid _ := hc2
    have T2 : Hid _ := T1.out.trans ht2
    clear hc2 ht2
    go_wp2_with fail
    refine (byte_any g a len cap _ hl H2.out).mono ?_
    rintro e w3 ⟨z, rfl, hz, hc3, ht3⟩
    have H3 : Hid _ := hc3
    have T3 : Hid _ := T2.out.trans ht3
    clear hc3 ht3
    go_wp2
    go_ret
    exact ⟨_, rfl, ⟨Int.emod_nonneg _ (by omega), Int.emod_lt_of_pos _ (by omega)⟩, H3.out, T3.out⟩
end Go.Proofs.Ytabjcodpagjbjaa

namespace Go.Proofs.Ytabjcodpagjbjaa
open Go.RowKit
set_option linter.unusedVariables false
set_option linter.unusedSimpArgs false
theorem Cur.alloc {g : Nat} {a : Option Addr} {len cap : Nat} {W : World} (hc : Cur g a len cap W) (o : Obj) : Cur g a len cap (W.alloc o) := by
  have hlt := hc.lt
  obtain ⟨i, hi, c1⟩ := hc.s1
  obtain ⟨h, c2⟩ := hc.s2
  have e : ∀ k j, k < W.heap.size → (W.alloc o).cell? ⟨k, j, none⟩ = W.cell? ⟨k, j, none⟩ := fun k j hk => World.cell?_alloc_past o k j hk
  refine ⟨by simp; omega, (e g 0 hlt).trans hc.s0, ⟨i, hi, (e g 1 hlt).trans c1⟩, ⟨h, (e g 2 hlt).trans c2⟩, fun j => (World.frozen?_of_block (Below.heap_alloc W o g hlt)).trans (hc.fz j), fun hl => ?_⟩
  obtain ⟨b, off, ha, hb, hbg, hz⟩ := hc.by8 hl
  exact ⟨b, off, ha, by simp; omega, hbg, fun j hj => by obtain ⟨z, z0, z1, cz⟩ := hz j hj; exact ⟨z, z0, z1, (e b _ hb).trans cz⟩⟩
/-- A store into a block that is neither the cursor's nor the bytes'. -/
theorem Cur.store {g : Nat} {a : Option Addr} {len cap : Nat} {W : World} (hc : Cur g a len cap W) {k o : Nat} {u : Value} (hk : k ≠ g) (hb : ∀ b off, 0 < len → a = some ⟨b, off, none⟩ → b ≠ k) : Cur g a len cap (W.setCell ⟨k, o, none⟩ u) := by
  obtain ⟨i, hi, c1⟩ := hc.s1
  obtain ⟨h, c2⟩ := hc.s2
  have e : ∀ q j, q ≠ k → (W.setCell ⟨k, o, none⟩ u).cell? ⟨q, j, none⟩ = W.cell? ⟨q, j, none⟩ := fun q j hq => World.cell?_of_block (Below.heap_setCell W _ _ q hq)
  refine ⟨by simpa using hc.lt, (e g 0 hk.symm).trans hc.s0, ⟨i, hi, (e g 1 hk.symm).trans c1⟩, ⟨h, (e g 2 hk.symm).trans c2⟩, fun j => by simpa using hc.fz j, fun hl => ?_⟩
  obtain ⟨b, off, ha, hb', hbg, hz⟩ := hc.by8 hl
  exact ⟨b, off, ha, by simpa using hb', hbg, fun j hj => by obtain ⟨z, z0, z1, cz⟩ := hz j hj; exact ⟨z, z0, z1, (e b _ (hb b off hl ha)).trans cz⟩⟩
theorem Cur.blk {g : Nat} {a : Option Addr} {len cap : Nat} {W : World} (hc : Cur g a len cap W) : ∀ b off, 0 < len → a = some ⟨b, off, none⟩ → b < W.heap.size := fun b off hl ha => by
  obtain ⟨b', off', ha', hb', _⟩ := hc.by8 hl
  rw [ha'] at ha
  simp at ha
  omega
theorem Tch.alloc {g : Nat} {a w : World} (h : Tch g a w) (o : Obj) : Tch g a (w.alloc o) := h.trans ⟨rfl, rfl, rfl, by simp, fun k hk _ => Below.heap_alloc w o k hk⟩
theorem Tch.store {g : Nat} {a w : World} (h : Tch g a w) {k o : Nat} {u : Value} (hk : a.heap.size ≤ k) : Tch g a (w.setCell ⟨k, o, none⟩ u) :=
  ⟨h.os, h.tape, h.output, by have := h.size; simpa using this, fun j hj hg => (Below.heap_setCell w _ _ j (by dsimp only; omega)).trans (h.block j hj hg)⟩
theorem once_any (g : Nat) (a : Option Addr) (len cap : Nat) (n : Int) (W : World) (hl : len ≤ 1048576) (hc : Cur g a len cap W) (hn : 1 ≤ n ∧ n ≤ 100000) :
    Calls Try.prog 54 #[.pointer (some ⟨g, 0, none⟩), .int .i64 n] W fun e w' => ∃ x, e = .returned (.bool x) ∧ Cur g a len cap w' ∧ Tch g W w' := by
  have HC : Hid _ := hc
  clear hc
  go_enter Try.func54, Try.ntmps54
  go_wp2_with fail
  refine (below_any g a len cap _ _ hl HC.out hn).mono ?_
  rintro e w1 ⟨x, rfl, hx, hc1, ht1⟩
  have H1 : Hid _ := hc1
  have T1 : Hid _ := ht1
  clear hc1 ht1
  go_wp2
  go_ret
  exact ⟨_, rfl, H1.out, T1.out⟩
set_option maxHeartbeats 2000000 in
theorem immU_any (g : Nat) (a : Option Addr) (len cap : Nat) (op : Int) (W : World) (hl : len ≤ 1048576) (hc : Cur g a len cap W) (h : op = 1) :
    Calls Try.prog 67 #[.pointer (some ⟨g, 0, none⟩), .int .i64 op] W fun e w' => ∃ y, e = .returned (.int .i64 y) ∧ Cur g a len cap w' ∧ Tch g W w' := by
  have HC : Hid _ := hc
  have HH : Hid _ := h
  clear hc h
  go_enter Try.func67, Try.ntmps67
  go_wp2_with (go_at_call 84; refine (boundsU _ _ HH.out).mono ?_; rintro e w' ⟨rfl, rfl⟩)
  refine (below_any g a len cap _ _ hl HC.out (by omega)).mono ?_
  rintro e w1 ⟨x, rfl, hx, hc1, ht1⟩
  have H1 : Hid _ := hc1
  have T1 : Hid _ := ht1
  clear hc1 ht1
  go_wp2_with fail
  refine (below_any g a len cap _ _ hl H1.out (by omega)).mono ?_
  rintro e w2 ⟨y, rfl, hy, hc2, ht2⟩
  have H2 : Hid _ := hc2
  have T2 : Hid _ := T1.out.trans ht2
  clear hc2 ht2 H1 T1
  go_wp2
  all_goals go_ret
  all_goals exact ⟨_, rfl, H2.out, T2.out⟩
set_option maxHeartbeats 2000000 in
theorem immJ_any (g : Nat) (a : Option Addr) (len cap : Nat) (op : Int) (W : World) (hl : len ≤ 1048576) (hc : Cur g a len cap W) (h : op = 2) :
    Calls Try.prog 67 #[.pointer (some ⟨g, 0, none⟩), .int .i64 op] W fun e w' => ∃ y, e = .returned (.int .i64 y) ∧ Cur g a len cap w' ∧ Tch g W w' := by
  have HC : Hid _ := hc
  have HH : Hid _ := h
  clear hc h
  go_enter Try.func67, Try.ntmps67
  go_wp2_with (go_at_call 84; refine (boundsJ _ _ HH.out).mono ?_; rintro e w' ⟨rfl, rfl⟩)
  refine (below_any g a len cap _ _ hl HC.out (by omega)).mono ?_
  rintro e w1 ⟨x, rfl, hx, hc1, ht1⟩
  have H1 : Hid _ := hc1
  have T1 : Hid _ := ht1
  clear hc1 ht1
  go_wp2_with fail
  refine (below_any g a len cap _ _ hl H1.out (by omega)).mono ?_
  rintro e w2 ⟨y, rfl, hy, hc2, ht2⟩
  have H2 : Hid _ := hc2
  have T2 : Hid _ := T1.out.trans ht2
  clear hc2 ht2 H1 T1
  go_wp2
  all_goals go_ret
  all_goals exact ⟨_, rfl, H2.out, T2.out⟩
set_option maxHeartbeats 2000000 in
theorem immB_any (g : Nat) (a : Option Addr) (len cap : Nat) (op : Int) (W : World) (hl : len ≤ 1048576) (hc : Cur g a len cap W) (h : 4 ≤ op ∧ op ≤ 9) :
    Calls Try.prog 67 #[.pointer (some ⟨g, 0, none⟩), .int .i64 op] W fun e w' => ∃ y, e = .returned (.int .i64 y) ∧ Cur g a len cap w' ∧ Tch g W w' := by
  have HC : Hid _ := hc
  have HH : Hid _ := h
  clear hc h
  go_enter Try.func67, Try.ntmps67
  go_wp2_with (go_at_call 84; refine (boundsB _ _ HH.out).mono ?_; rintro e w' ⟨rfl, rfl⟩)
  refine (below_any g a len cap _ _ hl HC.out (by omega)).mono ?_
  rintro e w1 ⟨x, rfl, hx, hc1, ht1⟩
  have H1 : Hid _ := hc1
  have T1 : Hid _ := ht1
  clear hc1 ht1
  go_wp2_with fail
  refine (below_any g a len cap _ _ hl H1.out (by omega)).mono ?_
  rintro e w2 ⟨y, rfl, hy, hc2, ht2⟩
  have H2 : Hid _ := hc2
  have T2 : Hid _ := T1.out.trans ht2
  clear hc2 ht2 H1 T1
  go_wp2
  all_goals go_ret
  all_goals exact ⟨_, rfl, H2.out, T2.out⟩
set_option maxHeartbeats 2000000 in
theorem immS_any (g : Nat) (a : Option Addr) (len cap : Nat) (op : Int) (W : World) (hl : len ≤ 1048576) (hc : Cur g a len cap W) (h : op = 11) :
    Calls Try.prog 67 #[.pointer (some ⟨g, 0, none⟩), .int .i64 op] W fun e w' => ∃ y, e = .returned (.int .i64 y) ∧ Cur g a len cap w' ∧ Tch g W w' := by
  have HC : Hid _ := hc
  have HH : Hid _ := h
  clear hc h
  go_enter Try.func67, Try.ntmps67
  go_wp2_with (go_at_call 84; refine (boundsS _ _ HH.out).mono ?_; rintro e w' ⟨rfl, rfl⟩)
  refine (below_any g a len cap _ _ hl HC.out (by omega)).mono ?_
  rintro e w1 ⟨x, rfl, hx, hc1, ht1⟩
  have H1 : Hid _ := hc1
  have T1 : Hid _ := ht1
  clear hc1 ht1
  go_wp2_with fail
  refine (below_any g a len cap _ _ hl H1.out (by omega)).mono ?_
  rintro e w2 ⟨y, rfl, hy, hc2, ht2⟩
  have H2 : Hid _ := hc2
  have T2 : Hid _ := T1.out.trans ht2
  clear hc2 ht2 H1 T1
  go_wp2
  all_goals go_ret
  all_goals exact ⟨_, rfl, H2.out, T2.out⟩
set_option maxHeartbeats 2000000 in
theorem immH_any (g : Nat) (a : Option Addr) (len cap : Nat) (op : Int) (W : World) (hl : len ≤ 1048576) (hc : Cur g a len cap W) (h : 18 ≤ op ∧ op ≤ 20) :
    Calls Try.prog 67 #[.pointer (some ⟨g, 0, none⟩), .int .i64 op] W fun e w' => ∃ y, e = .returned (.int .i64 y) ∧ Cur g a len cap w' ∧ Tch g W w' := by
  have HC : Hid _ := hc
  have HH : Hid _ := h
  clear hc h
  go_enter Try.func67, Try.ntmps67
  go_wp2_with (go_at_call 84; refine (boundsH _ _ HH.out).mono ?_; rintro e w' ⟨rfl, rfl⟩)
  refine (below_any g a len cap _ _ hl HC.out (by omega)).mono ?_
  rintro e w1 ⟨x, rfl, hx, hc1, ht1⟩
  have H1 : Hid _ := hc1
  have T1 : Hid _ := ht1
  clear hc1 ht1
  go_wp2_with fail
  refine (below_any g a len cap _ _ hl H1.out (by omega)).mono ?_
  rintro e w2 ⟨y, rfl, hy, hc2, ht2⟩
  have H2 : Hid _ := hc2
  have T2 : Hid _ := T1.out.trans ht2
  clear hc2 ht2 H1 T1
  go_wp2
  all_goals go_ret
  all_goals exact ⟨_, rfl, H2.out, T2.out⟩
set_option maxHeartbeats 2000000 in
theorem immR_any (g : Nat) (a : Option Addr) (len cap : Nat) (op : Int) (W : World) (hl : len ≤ 1048576) (hc : Cur g a len cap W) (h : 21 ≤ op ∧ op ≤ 33) :
    Calls Try.prog 67 #[.pointer (some ⟨g, 0, none⟩), .int .i64 op] W fun e w' => ∃ y, e = .returned (.int .i64 y) ∧ Cur g a len cap w' ∧ Tch g W w' := by
  have HC : Hid _ := hc
  have HH : Hid _ := h
  clear hc h
  go_enter Try.func67, Try.ntmps67
  go_wp2_with (go_at_call 84; refine (boundsR _ _ HH.out).mono ?_; rintro e w' ⟨rfl, rfl⟩)
  refine (below_any g a len cap _ _ hl HC.out (by omega)).mono ?_
  rintro e w1 ⟨x, rfl, hx, hc1, ht1⟩
  have H1 : Hid _ := hc1
  have T1 : Hid _ := ht1
  clear hc1 ht1
  go_wp2_with fail
  refine (below_any g a len cap _ _ hl H1.out (by omega)).mono ?_
  rintro e w2 ⟨y, rfl, hy, hc2, ht2⟩
  have H2 : Hid _ := hc2
  have T2 : Hid _ := T1.out.trans ht2
  clear hc2 ht2 H1 T1
  go_wp2
  all_goals go_ret
  all_goals exact ⟨_, rfl, H2.out, T2.out⟩
set_option maxHeartbeats 2000000 in
theorem immE_any (g : Nat) (a : Option Addr) (len cap : Nat) (op : Int) (W : World) (hl : len ≤ 1048576) (hc : Cur g a len cap W) (h : op = 34) :
    Calls Try.prog 67 #[.pointer (some ⟨g, 0, none⟩), .int .i64 op] W fun e w' => ∃ y, e = .returned (.int .i64 y) ∧ Cur g a len cap w' ∧ Tch g W w' := by
  have HC : Hid _ := hc
  have HH : Hid _ := h
  clear hc h
  go_enter Try.func67, Try.ntmps67
  go_wp2_with (go_at_call 84; refine (boundsE _ _ HH.out).mono ?_; rintro e w' ⟨rfl, rfl⟩)
  refine (below_any g a len cap _ _ hl HC.out (by omega)).mono ?_
  rintro e w1 ⟨x, rfl, hx, hc1, ht1⟩
  have H1 : Hid _ := hc1
  have T1 : Hid _ := ht1
  clear hc1 ht1
  go_wp2_with fail
  refine (below_any g a len cap _ _ hl H1.out (by omega)).mono ?_
  rintro e w2 ⟨y, rfl, hy, hc2, ht2⟩
  have H2 : Hid _ := hc2
  have T2 : Hid _ := T1.out.trans ht2
  clear hc2 ht2 H1 T1
  go_wp2
  all_goals go_ret
  all_goals exact ⟨_, rfl, H2.out, T2.out⟩
set_option maxHeartbeats 2000000 in
theorem immI_any (g : Nat) (a : Option Addr) (len cap : Nat) (op : Int) (W : World) (hl : len ≤ 1048576) (hc : Cur g a len cap W) (h : op = 3 ∨ op = 10 ∨ (12 ≤ op ∧ op ≤ 17)) :
    Calls Try.prog 67 #[.pointer (some ⟨g, 0, none⟩), .int .i64 op] W fun e w' => ∃ y, e = .returned (.int .i64 y) ∧ Cur g a len cap w' ∧ Tch g W w' := by
  have HC : Hid _ := hc
  have HH : Hid _ := h
  clear hc h
  go_enter Try.func67, Try.ntmps67
  go_wp2_with (go_at_call 84; refine (boundsI _ _ HH.out).mono ?_; rintro e w' ⟨rfl, rfl⟩)
  refine (below_any g a len cap _ _ hl HC.out (by omega)).mono ?_
  rintro e w1 ⟨x, rfl, hx, hc1, ht1⟩
  have H1 : Hid _ := hc1
  have T1 : Hid _ := ht1
  clear hc1 ht1
  go_wp2_with fail
  refine (below_any g a len cap _ _ hl H1.out (by omega)).mono ?_
  rintro e w2 ⟨y, rfl, hy, hc2, ht2⟩
  have H2 : Hid _ := hc2
  have T2 : Hid _ := T1.out.trans ht2
  clear hc2 ht2 H1 T1
  go_wp2
  all_goals go_ret
  all_goals exact ⟨_, rfl, H2.out, T2.out⟩
end Go.Proofs.Ytabjcodpagjbjaa

namespace Go.Proofs.Ytabjcodpagjbjaa
open Go.RowKit
set_option linter.unusedVariables false
set_option linter.unusedSimpArgs false
set_option maxHeartbeats 2000000 in
theorem word_draw (g : Nat) (a : Option Addr) (len cap : Nat) (W : World) (hl : len ≤ 1048576) (hc : Cur g a len cap W) :
    Calls Try.prog 56 #[.pointer (some ⟨g, 0, none⟩)] W fun e w' => ∃ y, e = .returned (.int .i64 y) ∧ Cur g a len cap w' ∧ Tch g W w' := by
  have HC : Hid _ := hc
  clear hc
  go_enter Try.func56, Try.ntmps56
  go_wp2_with fail
  refine (below_any g a len cap _ _ hl HC.out (by omega)).mono ?_
  rintro e w1 ⟨x, rfl, hx, hc1, ht1⟩
  have H1 : Hid _ := hc1
  have T1 : Hid _ := ht1
  clear hc1 ht1
  go_wp2_with fail
  refine (below_any g a len cap _ _ hl H1.out (by omega)).mono ?_
  rintro e w2 ⟨y, rfl, hy, hc2, ht2⟩
  have H2 : Hid _ := hc2
  have T2 : Hid _ := T1.out.trans ht2
  clear hc2 ht2 H1 T1
  go_wp2
  all_goals go_ret
  all_goals exact ⟨_, rfl, H2.out, T2.out⟩
end Go.Proofs.Ytabjcodpagjbjaa
