import Derived.Test.YtjhmgjimppflhaaGreatDoorRows
import Derived.Test.YtjhmgjimppflhaaGreatDoorY00
import Derived.WalkKit
import Derived.WalkSpells
import Derived.ProofKit
import Derived.Deep.QuietTactic
import Derived.BigQuiet
import Derived.WalkSmall
set_option linter.unusedSectionVars false
variable [Inhabited Go.Proofs.YtjhmgjimppflhaaGreatDoor.Pick]
namespace Go.Proofs.YtjhmgjimppflhaaGreatDoor
set_option linter.unusedVariables false
set_option linter.unusedSimpArgs false
set_option maxRecDepth 100000
set_option maxHeartbeats 16000000
section
open Go.RowKit
theorem Tcs.drewN {S : Nat → Prop} {a w : World} (h : Tcs S a w) (n : Nat) : Tcs S a (w.drewN n) := h.trans ⟨rfl, rfl, rfl, Nat.le_refl _, fun _ _ _ => rfl⟩
structure Cur (g : Nat) (a : Option Addr) (len cap : Nat) (W : World) : Prop where
 lt : g < W.heap.size
 s0 : W.cell? ⟨g, 0, none⟩ = some (.slice a len cap)
 s1 : ∃ i : Nat, i ≤ len ∧ W.cell? ⟨g, 1, none⟩ = some (.int .i64 i)
 s2 : ∃ h : Int, W.cell? ⟨g, 2, none⟩ = some (.int .i64 h)
 fz : ∀ j, W.frozen? ⟨g, j, none⟩ = false
 by8 : 0 < len → ∃ b off, a = some ⟨b, off, none⟩ ∧ b < W.heap.size ∧ b ≠ g ∧ ∀ j, j < len → ∃ z : Int, 0 ≤ z ∧ z ≤ 255 ∧ W.cell? ⟨b, off + j, none⟩ = some (.int .u8 z)
theorem and255 (x : Int) : 0 ≤ bits .and .i64 x 255 ∧ bits .and .i64 x 255 ≤ 255 := by
 show 0 ≤ IntKind.i64.wrap ((BitVec.ofInt 64 x &&& BitVec.ofInt 64 255).toNat : Int) ∧ IntKind.i64.wrap ((BitVec.ofInt 64 x &&& BitVec.ofInt 64 255).toNat : Int) ≤ 255
 have h : (BitVec.ofInt 64 x &&& BitVec.ofInt 64 255).toNat ≤ 255 := by
  rw [BitVec.toNat_and]
  exact Nat.le_trans Nat.and_le_right (by decide)
 rw [IntKind.wrap_i64]
 omega
set_option maxHeartbeats 2000000 in
theorem byte_end (g : Nat) (a : Option Addr) (len cap : Nat) (i : Nat) (h : Int) (W : World) (hl : len ≤ 1048576) (hi : i ≤ len) (hend : ¬ i < len) (c0 : W.cell? ⟨g, 0, none⟩ = some (.slice a len cap)) (c1 : W.cell? ⟨g, 1, none⟩ = some (.int .i64 i)) (c2 : W.cell? ⟨g, 2, none⟩ = some (.int .i64 h)) (fz : ∀ j, W.frozen? ⟨g, j, none⟩ = false) :
  Calls Tryz.prog 47 #[.pointer (some ⟨g, 0, none⟩)] W fun e w' => ∃ x h', e = .returned (.int .i64 x) ∧ (0 ≤ x ∧ x ≤ 255) ∧ ∃ n, w' = (W.setCell ⟨g, 2, none⟩ (.int .i64 h')).drewN n := by
 have f2 := fz 2
 clear fz
 go_enter Tryz.func47, Tryz.ntmps47
 go_wp2
 go_quiet (fail)
 go_wp2
 go_quiet (fail)
 go_wp2
 go_ret
 exact ⟨_, _, rfl, and255 _, _, by first | rfl | rw [World.drewN_drewN]⟩
set_option maxHeartbeats 2000000 in
theorem byte_more (g b off : Nat) (len cap : Nat) (i : Nat) (h z : Int) (W : World) (hl : len ≤ 1048576) (hlt : i < len) (hbg : ¬ b = g) (hz : 0 ≤ z ∧ z ≤ 255) (cz : W.cell? ⟨b, off + i, none⟩ = some (.int .u8 z))
  (c0 : W.cell? ⟨g, 0, none⟩ = some (.slice (some ⟨b, off, none⟩) len cap)) (c1 : W.cell? ⟨g, 1, none⟩ = some (.int .i64 i)) (c2 : W.cell? ⟨g, 2, none⟩ = some (.int .i64 h)) (fz : ∀ j, W.frozen? ⟨g, j, none⟩ = false) :
  Calls Tryz.prog 47 #[.pointer (some ⟨g, 0, none⟩)] W fun e w' => ∃ x h', e = .returned (.int .i64 x) ∧ (0 ≤ x ∧ x ≤ 255) ∧ ∃ n, w' = ((W.setCell ⟨g, 2, none⟩ (.int .i64 h')).drewN n).setCell ⟨g, 1, none⟩ (.int .i64 (i + 1)) := by
 have f2 := fz 2
 have f1 := fz 1
 have hgb : ¬ g = b := fun e => hbg e.symm
 have hi1 : (0 : Int) ≤ (i : Int) := by omega
 have hi2 : (i : Int) < (len : Int) := by omega
 clear fz
 go_enter Tryz.func47, Tryz.ntmps47
 go_wp2
 go_quiet (fail)
 go_wp2
 go_quiet (fail)
 go_wp2
 go_quiet (fail)
 go_wp2
 go_ret
 exact ⟨_, _, rfl, and255 _, _, rfl⟩
theorem Cur.set2 {g : Nat} {a : Option Addr} {len cap : Nat} {W : World} (hc : Cur g a len cap W) (h' : Int) : Cur g a len cap (W.setCell ⟨g, 2, none⟩ (.int .i64 h')) := by
 obtain ⟨lt, c0, ⟨i, hi, c1⟩, ⟨h, c2⟩, fz, b8⟩ := hc
 refine ⟨by simpa using lt, by go_simp, ⟨i, hi, by go_simp⟩, ⟨h', by go_simp⟩, fun j => by simpa using fz j, fun hl => ?_⟩
 obtain ⟨b, off, ha, hb, hbg, hz⟩ := b8 hl
 exact ⟨b, off, ha, by simpa using hb, hbg, fun j hj => by obtain ⟨z, z0, z1, cz⟩ := hz j hj; exact ⟨z, z0, z1, (World.cell?_of_block (Below.heap_setCell W _ _ b hbg)).trans cz⟩⟩
theorem Cur.set1 {g : Nat} {a : Option Addr} {len cap : Nat} {W : World} (hc : Cur g a len cap W) (i' : Nat) (hi' : i' ≤ len) : Cur g a len cap (W.setCell ⟨g, 1, none⟩ (.int .i64 i')) := by
 obtain ⟨lt, c0, ⟨i, hi, c1⟩, ⟨h, c2⟩, fz, b8⟩ := hc
 refine ⟨by simpa using lt, by go_simp, ⟨i', hi', by go_simp⟩, ⟨h, by go_simp⟩, fun j => by simpa using fz j, fun hl => ?_⟩
 obtain ⟨b, off, ha, hb, hbg, hz⟩ := b8 hl
 exact ⟨b, off, ha, by simpa using hb, hbg, fun j hj => by obtain ⟨z, z0, z1, cz⟩ := hz j hj; exact ⟨z, z0, z1, (World.cell?_of_block (Below.heap_setCell W _ _ b hbg)).trans cz⟩⟩
theorem Cur.drewN {g : Nat} {a : Option Addr} {len cap : Nat} {W : World} (hc : Cur g a len cap W) (n : Nat) : Cur g a len cap (W.drewN n) := ⟨hc.lt, hc.s0, hc.s1, hc.s2, hc.fz, hc.by8⟩
theorem Cur.keep {S : Nat → Prop} {g : Nat} {a : Option Addr} {len cap : Nat} {W W' : World} (hc : Cur g a len cap W) (ht : Tcs S W W') (hg : ¬ S g) (hb : ∀ b off, 0 < len → a = some ⟨b, off, none⟩ → ¬ S b) : Cur g a len cap W' := by
 have hlt := hc.lt
 obtain ⟨i, hi, c1⟩ := hc.s1
 obtain ⟨h, c2⟩ := hc.s2
 have e : ∀ q j, q < W.heap.size → ¬ S q → W'.cell? ⟨q, j, none⟩ = W.cell? ⟨q, j, none⟩ := fun q j hq hs => World.cell?_of_block (ht.block q hq hs)
 refine ⟨Nat.lt_of_lt_of_le hlt ht.size, (e g 0 hlt hg).trans hc.s0, ⟨i, hi, (e g 1 hlt hg).trans c1⟩, ⟨h, (e g 2 hlt hg).trans c2⟩, fun j => (World.frozen?_of_block (ht.block g hlt hg)).trans (hc.fz j), fun hl => ?_⟩
 obtain ⟨b, off, ha, hb', hbg, hz⟩ := hc.by8 hl
 exact ⟨b, off, ha, Nat.lt_of_lt_of_le hb' ht.size, hbg, fun j hj => by obtain ⟨z, z0, z1, cz⟩ := hz j hj; exact ⟨z, z0, z1, (e b _ hb' (hb b off hl ha)).trans cz⟩⟩
theorem Cur.below {g : Nat} {a : Option Addr} {len cap : Nat} {W W' : World} (hc : Cur g a len cap W) (hb : Below W.heap.size W W') : Cur g a len cap W' :=
 hc.keep (S := fun _ => False) hb.tcs (fun h => h) (fun _ _ _ _ h => h)
theorem Cur.blk {g : Nat} {a : Option Addr} {len cap : Nat} {W : World} (hc : Cur g a len cap W) : ∀ b off, 0 < len → a = some ⟨b, off, none⟩ → b < W.heap.size := fun b off hl ha => by
 obtain ⟨b', off', ha', hb', _⟩ := hc.by8 hl
 rw [ha'] at ha
 simp at ha
 omega
theorem Cur.alloc {g : Nat} {a : Option Addr} {len cap : Nat} {W : World} (hc : Cur g a len cap W) (o : Obj) : Cur g a len cap (W.alloc o) := hc.below ((Below.refl _ _).alloc (Nat.le_refl _) o)
structure Dr (g : Nat) (a : Option Addr) (len cap : Nat) (S : Nat → Prop) (w w' : World) : Prop where
 cur : Cur g a len cap w'
 tcs : Tcs S w w'
structure Lo (g : Nat) (a : Option Addr) (len : Nat) (S : Nat → Prop) (B : Nat) : Prop where
 gl : g < B
 sg : S g
 by8 : ∀ b off, 0 < len → a = some ⟨b, off, none⟩ → b < B ∧ (S b → False)
 s : ∀ k, S k → k < B
theorem Lo.mono {g : Nat} {a : Option Addr} {len : Nat} {S : Nat → Prop} {B B' : Nat} (h : Lo g a len S B) (hb : B ≤ B') : Lo g a len S B' :=
 ⟨by have := h.gl; omega, h.sg, fun b off x y => ⟨by have := (h.by8 b off x y).1; omega, (h.by8 b off x y).2⟩, fun k hk => by have := h.s k hk; omega⟩
theorem Cur.new {g : Nat} {a : Option Addr} {len cap : Nat} {S T : Nat → Prop} {B : Nat} {W W' : World} (hc : Cur g a len cap W) (hL : Lo g a len S B) (ht : Tcs T W W') (hT : ∀ k, T k → B ≤ k) : Cur g a len cap W' :=
 hc.keep ht (fun h => by have := hT _ h; have := hL.gl; omega) (fun b off x y h => by have := hT _ h; have := (hL.by8 b off x y).1; omega)
theorem byte_any (g : Nat) (a : Option Addr) (len cap : Nat) (S : Nat → Prop) (W : World) (hl : len ≤ 1048576) (hS : S g) (hc : Cur g a len cap W) :
  Calls Tryz.prog 47 #[.pointer (some ⟨g, 0, none⟩)] W fun e w' => ∃ x, e = .returned (.int .i64 x) ∧ (0 ≤ x ∧ x ≤ 255) ∧ Dr g a len cap S W w' := by
 obtain ⟨i, hi, c1⟩ := hc.s1
 obtain ⟨h, c2⟩ := hc.s2
 by_cases hlt : i < len
 ·obtain ⟨b, off, rfl, hb, hbg, hz⟩ := hc.by8 (by omega)
  obtain ⟨z, z0, z1, cz⟩ := hz i hlt
  refine (byte_more g b off len cap i h z W hl hlt hbg ⟨z0, z1⟩ cz hc.s0 c1 c2 hc.fz).mono ?_
  rintro e w' ⟨x, h', rfl, hx, n, rfl⟩
  exact ⟨x, rfl, hx, ((hc.set2 h').drewN n).set1 (i + 1) (by omega), (((Tcs.refl S W).setCell hS _).drewN n).setCell hS _⟩
 ·refine (byte_end g a len cap i h W hl hi hlt hc.s0 c1 c2 hc.fz).mono ?_
  rintro e w' ⟨x, h', rfl, hx, n, rfl⟩
  exact ⟨x, rfl, hx, (hc.set2 h').drewN n, ((Tcs.refl S W).setCell hS _).drewN n⟩
set_option maxHeartbeats 1000000 in
theorem below_any (g : Nat) (a : Option Addr) (len cap : Nat) (S : Nat → Prop) (n : Int) (W : World) (hl : len ≤ 1048576) (hS : S g) (hc : Cur g a len cap W) (hn : 1 ≤ n ∧ n ≤ 100000) :
  Calls Tryz.prog 20 #[.pointer (some ⟨g, 0, none⟩), .int .i64 n] W fun e w' => ∃ x, e = .returned (.int .i64 x) ∧ (0 ≤ x ∧ x < n) ∧ Dr g a len cap S W w' := by
 have HC : Hid (Cur g a len cap W) := hc
 clear hc
 have hnz : (n == 0) = false := by simp; omega
 by_cases h : n ≤ 256
 ·go_enter Tryz.func20, Tryz.ntmps20
  go_wp2_with fail
  refine (byte_any g a len cap S _ hl hS HC.out).mono ?_
  rintro e w1 ⟨x, rfl, hx, hc1⟩
  have H1 : Hid (Dr g a len cap S W w1) := hc1
  clear hc1
  go_wp2
  go_ret
  exact ⟨_, rfl, ⟨Int.emod_nonneg _ (by omega), Int.emod_lt_of_pos _ (by omega)⟩, H1.out⟩
 ·go_enter Tryz.func20, Tryz.ntmps20
  go_wp2_with fail
  refine (byte_any g a len cap S _ hl hS HC.out).mono ?_
  rintro e w1 ⟨x, rfl, hx, hc1⟩
  have H1 : Hid (Dr g a len cap S W w1) := hc1
  clear hc1
  go_wp2_with fail
  refine (byte_any g a len cap S _ hl hS H1.out.cur).mono ?_
  rintro e w2 ⟨y, rfl, hy, hc2⟩
  have H2 : Hid (Dr g a len cap S W w2) := ⟨hc2.cur, H1.out.tcs.trans hc2.tcs⟩
  clear hc2
  go_wp2_with fail
  refine (byte_any g a len cap S _ hl hS H2.out.cur).mono ?_
  rintro e w3 ⟨z, rfl, hz, hc3⟩
  have H3 : Hid (Dr g a len cap S W w3) := ⟨hc3.cur, H2.out.tcs.trans hc3.tcs⟩
  clear hc3
  go_wp2
  go_ret
  exact ⟨_, rfl, ⟨Int.emod_nonneg _ (by omega), Int.emod_lt_of_pos _ (by omega)⟩, H3.out⟩
theorem once_any (g : Nat) (a : Option Addr) (len cap : Nat) (S : Nat → Prop) (n : Int) (W : World) (hl : len ≤ 1048576) (hS : S g) (hc : Cur g a len cap W) (hn : 1 ≤ n ∧ n ≤ 100000) :
  Calls Tryz.prog 33 #[.pointer (some ⟨g, 0, none⟩), .int .i64 n] W fun e w' => ∃ x, e = .returned (.bool x) ∧ Dr g a len cap S W w' := by
 have HC : Hid (Cur g a len cap W) := hc
 clear hc
 go_enter Tryz.func33, Tryz.ntmps33
 go_wp2_with fail
 refine (below_any g a len cap S _ _ hl hS HC.out hn).mono ?_
 rintro e w1 ⟨x, rfl, hx, hc1⟩
 have H1 : Hid (Dr g a len cap S W w1) := hc1
 clear hc1
 go_wp2
 go_ret
 exact ⟨_, rfl, H1.out⟩
set_option maxHeartbeats 2000000 in
theorem word_draw (g : Nat) (a : Option Addr) (len cap : Nat) (S : Nat → Prop) (W : World) (hl : len ≤ 1048576) (hS : S g) (hc : Cur g a len cap W) :
  Calls Tryz.prog 108 #[.pointer (some ⟨g, 0, none⟩)] W fun e w' => ∃ y, e = .returned (.int .i64 y) ∧ Dr g a len cap S W w' := by
 have HC : Hid (Cur g a len cap W) := hc
 clear hc
 go_enter Tryz.func108, Tryz.ntmps108
 go_wp2_with fail
 refine (below_any g a len cap S _ _ hl hS HC.out (by omega)).mono ?_
 rintro e w1 ⟨x, rfl, hx, hc1⟩
 have H1 : Hid (Dr g a len cap S W w1) := hc1
 clear hc1
 go_wp2_with fail
 refine (below_any g a len cap S _ _ hl hS H1.out.cur (by omega)).mono ?_
 rintro e w2 ⟨y, rfl, hy, hc2⟩
 have H2 : Hid (Dr g a len cap S W w2) := ⟨hc2.cur, H1.out.tcs.trans hc2.tcs⟩
 clear hc2 H1
 go_wp2
 all_goals go_ret
 all_goals exact ⟨_, rfl, H2.out⟩
def B8 (w : World) (a : Option Addr) (len : Nat) : Prop :=
 0 < len → ∃ b off, a = some ⟨b, off, none⟩ ∧ b < w.heap.size ∧ ∀ j, j < len → ∃ z : Int, 0 ≤ z ∧ z ≤ 255 ∧ w.cell? ⟨b, off + j, none⟩ = some (.int .u8 z)
theorem B8.below {w w' : World} {a : Option Addr} {len : Nat} (h : B8 w a len) (hb : Below w.heap.size w w') : B8 w' a len := fun hl => by
 obtain ⟨b, off, ha, hlt, hc⟩ := h hl
 exact ⟨b, off, ha, by have := hb.size; omega, fun j hj => by obtain ⟨z, z0, z1, cz⟩ := hc j hj; exact ⟨z, z0, z1, (hb.cell (p := ⟨b, off + j, none⟩) hlt).trans cz⟩⟩
set_option maxHeartbeats 2000000 in
theorem new_some (b off len cap : Nat) (w : World) (hl : len ≤ 1048576) (hc : ∀ j, j < len → ∃ z : Int, 0 ≤ z ∧ z ≤ 255 ∧ w.cell? ⟨b, off + j, none⟩ = some (.int .u8 z)) :
  Calls Tryz.prog 18 #[.slice (some ⟨b, off, none⟩) len cap] w fun e w' => ∃ h : Int, e = .returned (.pointer (some ⟨w.heap.size, 0, none⟩)) ∧ w' = w.alloc (.cells #[.slice (some ⟨b, off, none⟩) len cap, .int .i64 0, .int .i64 h] 76) := by
 have HC : Hid (∀ j, j < len → ∃ z : Int, 0 ≤ z ∧ z ≤ 255 ∧ w.cell? ⟨b, off + j, none⟩ = some (.int .u8 z)) := hc
 clear hc
 go_enter Tryz.func18, Tryz.ntmps18
 go_wp2
 go_loop [3, 4] (fun hv i => ∃ k : Nat, k ≤ len ∧ i = .int .i64 k ∧ ∃ h : Int, hv = .int .i64 h) (fun _ i => len - (RowKit.intOf i).toNat)
 case atStart => exact ⟨0, Nat.zero_le _, rfl, _, rfl⟩
 case round =>
  obtain ⟨k, hk, rfl, h, rfl⟩ := hrel
  by_cases hlt : k < len
  ·obtain ⟨z, z0, z1, cz⟩ := HC.out k hlt
   go_wp2
   go_round
   case rel => exact ⟨k + 1, by omega, by go_num, _, rfl⟩
   case measure => simp [RowKit.intOf]; omega
  ·go_wp2
   go_ret
   first | exact ⟨_, rfl, rfl⟩ | exact ⟨rfl, _, rfl⟩
set_option maxHeartbeats 1000000 in
theorem new_none (a : Option Addr) (cap : Nat) (w : World) :
  Calls Tryz.prog 18 #[.slice a 0 cap] w fun e w' => ∃ h : Int, e = .returned (.pointer (some ⟨w.heap.size, 0, none⟩)) ∧ w' = w.alloc (.cells #[.slice a 0 cap, .int .i64 0, .int .i64 h] 76) := by
 go_enter Tryz.func18, Tryz.ntmps18
 go_wp2
 refine wp_loop_rounds 1 ?_
 rw [rounds_succ]
 go_wp2
 go_ret
 first | exact ⟨_, rfl, rfl⟩ | exact ⟨rfl, _, rfl⟩
theorem cur_new (a : Option Addr) (len cap : Nat) (h : Int) (w : World) (hb : B8 w a len) : Cur w.heap.size a len cap (w.alloc (.cells #[.slice a len cap, .int .i64 0, .int .i64 h] 76)) := by
 refine ⟨by simp, by simp, ⟨0, Nat.zero_le _, by simp⟩, ⟨h, by simp⟩, fun j => by simp, fun hl => ?_⟩
 obtain ⟨b, off, ha, hlt, hc⟩ := hb hl
 exact ⟨b, off, ha, by simp; omega, by omega, fun j hj => by obtain ⟨z, z0, z1, cz⟩ := hc j hj; exact ⟨z, z0, z1, (World.cell?_alloc_past _ b _ hlt).trans cz⟩⟩
theorem new_any (a : Option Addr) (len cap : Nat) (w : World) (hl : len ≤ 1048576) (hb : B8 w a len) :
  Calls Tryz.prog 18 #[.slice a len cap] w fun e w' => e = .returned (.pointer (some ⟨w.heap.size, 0, none⟩)) ∧ Cur w.heap.size a len cap w' ∧ Below w.heap.size w w' ∧ w'.heap.size = w.heap.size + 1 ∧ Lo w.heap.size a len (fun k => k = w.heap.size) w'.heap.size := by
 have hlo : Lo w.heap.size a len (fun k => k = w.heap.size) (w.heap.size + 1) := ⟨by omega, rfl, fun b off h0 ha => by obtain ⟨b', off', ha', hb', _⟩ := hb h0; rw [ha'] at ha; simp at ha; exact ⟨by omega, fun e => by omega⟩, fun k hk => by omega⟩
 by_cases h0 : len = 0
 ·subst h0
  refine (new_none a cap w).mono ?_
  rintro e w' ⟨h, rfl, rfl⟩
  exact ⟨rfl, cur_new a 0 cap h w hb, (Below.refl _ _).alloc (Nat.le_refl _) _, by simp, by simpa using hlo⟩
 ·obtain ⟨b, off, rfl, hlt, hc⟩ := hb (by omega)
  refine (new_some b off len cap w hl hc).mono ?_
  rintro e w' ⟨h, rfl, rfl⟩
  exact ⟨rfl, cur_new _ len cap h w hb, (Below.refl _ _).alloc (Nat.le_refl _) _, by simp, by simpa using hlo⟩
end
end Go.Proofs.YtjhmgjimppflhaaGreatDoor
