import Derived.Test.YtdkpinbkmjoicaaCu
import Derived.Test.YtdkpinbkmjoicaaSc
namespace Go.Proofs.Ytdkpinbkmjoicaa
open Go.RowKit
set_option linter.unusedVariables false
set_option linter.unusedSimpArgs false
theorem Cur.alloc {g : Nat} {a : Option Addr} {len cap : Nat} {W : World} (hc : Cur g a len cap W) (o : Obj) : Cur g a len cap (W.alloc o) := by
  have hlt := hc.lt
  obtain ⟨i, hi, c1⟩ := hc.s1
  obtain ⟨h, c2⟩ := hc.s2
  have e : ∀ k j, k < W.heap.size → (W.alloc o).cell? ⟨k, j, none⟩ = W.cell? ⟨k, j, none⟩ := fun k j hk => World.cell?_alloc_past o k j hk
  refine ⟨by simp; omega, (e g 0 hlt).trans hc.s0, ⟨i, hi, (e g 1 hlt).trans c1⟩, ⟨h, (e g 2 hlt).trans c2⟩, fun j => (World.frozen?_of_block (Below.heap_alloc W o g hlt)).trans (hc.fz j), fun hl => ?_⟩
  obtain ⟨b, off, ha, hb, hbg, hz⟩ := hc.by8 hl
  exact ⟨b, off, ha, by simp; omega, hbg, fun j hj => by obtain ⟨z, z0, z1, cz⟩ := hz j hj; exact ⟨z, z0, z1, (e b _ hb).trans cz⟩⟩
/-- A store into a block that is neither the cursor's nor the bytes'. -/
theorem Cur.store {g : Nat} {a : Option Addr} {len cap : Nat} {W : World} (hc : Cur g a len cap W) {k o : Nat} {u : Value} (hk : k ≠ g) (hb : ∀ b off, 0 < len → a = some ⟨b, off, none⟩ → b ≠ k) : Cur g a len cap (W.setCell ⟨k, o, none⟩ u) := by
  obtain ⟨i, hi, c1⟩ := hc.s1
  obtain ⟨h, c2⟩ := hc.s2
  have e : ∀ q j, q ≠ k → (W.setCell ⟨k, o, none⟩ u).cell? ⟨q, j, none⟩ = W.cell? ⟨q, j, none⟩ := fun q j hq => World.cell?_of_block (Below.heap_setCell W _ _ q hq)
  refine ⟨by simpa using hc.lt, (e g 0 hk.symm).trans hc.s0, ⟨i, hi, (e g 1 hk.symm).trans c1⟩, ⟨h, (e g 2 hk.symm).trans c2⟩, fun j => by simpa using hc.fz j, fun hl => ?_⟩
  obtain ⟨b, off, ha, hb', hbg, hz⟩ := hc.by8 hl
  exact ⟨b, off, ha, by simpa using hb', hbg, fun j hj => by obtain ⟨z, z0, z1, cz⟩ := hz j hj; exact ⟨z, z0, z1, (e b _ (hb b off hl ha)).trans cz⟩⟩
theorem Cur.blk {g : Nat} {a : Option Addr} {len cap : Nat} {W : World} (hc : Cur g a len cap W) : ∀ b off, 0 < len → a = some ⟨b, off, none⟩ → b < W.heap.size := fun b off hl ha => by
  obtain ⟨b', off', ha', hb', _⟩ := hc.by8 hl
  rw [ha'] at ha
  simp at ha
  omega
theorem Tch.alloc {g : Nat} {a w : World} (h : Tch g a w) (o : Obj) : Tch g a (w.alloc o) := h.trans ⟨rfl, rfl, rfl, by simp, fun k hk _ => Below.heap_alloc w o k hk⟩
theorem Tch.store {g : Nat} {a w : World} (h : Tch g a w) {k o : Nat} {u : Value} (hk : a.heap.size ≤ k) : Tch g a (w.setCell ⟨k, o, none⟩ u) :=
  ⟨h.os, h.tape, h.output, by have := h.size; simpa using this, fun j hj hg => (Below.heap_setCell w _ _ j (by dsimp only; omega)).trans (h.block j hj hg)⟩
theorem once_any (g : Nat) (a : Option Addr) (len cap : Nat) (n : Int) (W : World) (hl : len ≤ 1048576) (hc : Cur g a len cap W) (hn : 1 ≤ n ∧ n ≤ 100000) :
    Calls Try.prog 23 #[.pointer (some ⟨g, 0, none⟩), .int .i64 n] W fun e w' => ∃ x, e = .returned (.bool x) ∧ Cur g a len cap w' ∧ Tch g W w' := by
  have HC : Hid _ := hc
  clear hc
  go_enter Try.func23, Try.ntmps23
  go_wp2_with fail
  refine (below_any g a len cap _ _ hl HC.out hn).mono ?_
  rintro e w1 ⟨x, rfl, hx, hc1, ht1⟩
  have H1 : Hid _ := hc1
  have T1 : Hid _ := ht1
  clear hc1 ht1
  go_wp2
  go_ret
  exact ⟨_, rfl, H1.out, T1.out⟩
set_option maxHeartbeats 2000000 in
theorem immU_any (g : Nat) (a : Option Addr) (len cap : Nat) (op : Int) (W : World) (hl : len ≤ 1048576) (hc : Cur g a len cap W) (h : op = 1) :
    Calls Try.prog 49 #[.pointer (some ⟨g, 0, none⟩), .int .i64 op] W fun e w' => ∃ y, e = .returned (.int .i64 y) ∧ Cur g a len cap w' ∧ Tch g W w' := by
  have HC : Hid _ := hc
  have HH : Hid _ := h
  clear hc h
  go_enter Try.func49, Try.ntmps49
  go_wp2_with (go_at_call 30; refine (boundsU _ _ HH.out).mono ?_; rintro e w' ⟨rfl, rfl⟩)
  refine (below_any g a len cap _ _ hl HC.out (by omega)).mono ?_
  rintro e w1 ⟨x, rfl, hx, hc1, ht1⟩
  have H1 : Hid _ := hc1
  have T1 : Hid _ := ht1
  clear hc1 ht1
  go_wp2_with fail
  refine (below_any g a len cap _ _ hl H1.out (by omega)).mono ?_
  rintro e w2 ⟨y, rfl, hy, hc2, ht2⟩
  have H2 : Hid _ := hc2
  have T2 : Hid _ := T1.out.trans ht2
  clear hc2 ht2 H1 T1
  go_wp2
  all_goals go_ret
  all_goals exact ⟨_, rfl, H2.out, T2.out⟩
set_option maxHeartbeats 2000000 in
theorem immJ_any (g : Nat) (a : Option Addr) (len cap : Nat) (op : Int) (W : World) (hl : len ≤ 1048576) (hc : Cur g a len cap W) (h : op = 2) :
    Calls Try.prog 49 #[.pointer (some ⟨g, 0, none⟩), .int .i64 op] W fun e w' => ∃ y, e = .returned (.int .i64 y) ∧ Cur g a len cap w' ∧ Tch g W w' := by
  have HC : Hid _ := hc
  have HH : Hid _ := h
  clear hc h
  go_enter Try.func49, Try.ntmps49
  go_wp2_with (go_at_call 30; refine (boundsJ _ _ HH.out).mono ?_; rintro e w' ⟨rfl, rfl⟩)
  refine (below_any g a len cap _ _ hl HC.out (by omega)).mono ?_
  rintro e w1 ⟨x, rfl, hx, hc1, ht1⟩
  have H1 : Hid _ := hc1
  have T1 : Hid _ := ht1
  clear hc1 ht1
  go_wp2_with fail
  refine (below_any g a len cap _ _ hl H1.out (by omega)).mono ?_
  rintro e w2 ⟨y, rfl, hy, hc2, ht2⟩
  have H2 : Hid _ := hc2
  have T2 : Hid _ := T1.out.trans ht2
  clear hc2 ht2 H1 T1
  go_wp2
  all_goals go_ret
  all_goals exact ⟨_, rfl, H2.out, T2.out⟩
set_option maxHeartbeats 2000000 in
theorem immB_any (g : Nat) (a : Option Addr) (len cap : Nat) (op : Int) (W : World) (hl : len ≤ 1048576) (hc : Cur g a len cap W) (h : 4 ≤ op ∧ op ≤ 9) :
    Calls Try.prog 49 #[.pointer (some ⟨g, 0, none⟩), .int .i64 op] W fun e w' => ∃ y, e = .returned (.int .i64 y) ∧ Cur g a len cap w' ∧ Tch g W w' := by
  have HC : Hid _ := hc
  have HH : Hid _ := h
  clear hc h
  go_enter Try.func49, Try.ntmps49
  go_wp2_with (go_at_call 30; refine (boundsB _ _ HH.out).mono ?_; rintro e w' ⟨rfl, rfl⟩)
  refine (below_any g a len cap _ _ hl HC.out (by omega)).mono ?_
  rintro e w1 ⟨x, rfl, hx, hc1, ht1⟩
  have H1 : Hid _ := hc1
  have T1 : Hid _ := ht1
  clear hc1 ht1
  go_wp2_with fail
  refine (below_any g a len cap _ _ hl H1.out (by omega)).mono ?_
  rintro e w2 ⟨y, rfl, hy, hc2, ht2⟩
  have H2 : Hid _ := hc2
  have T2 : Hid _ := T1.out.trans ht2
  clear hc2 ht2 H1 T1
  go_wp2
  all_goals go_ret
  all_goals exact ⟨_, rfl, H2.out, T2.out⟩
set_option maxHeartbeats 2000000 in
theorem immS_any (g : Nat) (a : Option Addr) (len cap : Nat) (op : Int) (W : World) (hl : len ≤ 1048576) (hc : Cur g a len cap W) (h : op = 11) :
    Calls Try.prog 49 #[.pointer (some ⟨g, 0, none⟩), .int .i64 op] W fun e w' => ∃ y, e = .returned (.int .i64 y) ∧ Cur g a len cap w' ∧ Tch g W w' := by
  have HC : Hid _ := hc
  have HH : Hid _ := h
  clear hc h
  go_enter Try.func49, Try.ntmps49
  go_wp2_with (go_at_call 30; refine (boundsS _ _ HH.out).mono ?_; rintro e w' ⟨rfl, rfl⟩)
  refine (below_any g a len cap _ _ hl HC.out (by omega)).mono ?_
  rintro e w1 ⟨x, rfl, hx, hc1, ht1⟩
  have H1 : Hid _ := hc1
  have T1 : Hid _ := ht1
  clear hc1 ht1
  go_wp2_with fail
  refine (below_any g a len cap _ _ hl H1.out (by omega)).mono ?_
  rintro e w2 ⟨y, rfl, hy, hc2, ht2⟩
  have H2 : Hid _ := hc2
  have T2 : Hid _ := T1.out.trans ht2
  clear hc2 ht2 H1 T1
  go_wp2
  all_goals go_ret
  all_goals exact ⟨_, rfl, H2.out, T2.out⟩
set_option maxHeartbeats 2000000 in
theorem immH_any (g : Nat) (a : Option Addr) (len cap : Nat) (op : Int) (W : World) (hl : len ≤ 1048576) (hc : Cur g a len cap W) (h : 18 ≤ op ∧ op ≤ 20) :
    Calls Try.prog 49 #[.pointer (some ⟨g, 0, none⟩), .int .i64 op] W fun e w' => ∃ y, e = .returned (.int .i64 y) ∧ Cur g a len cap w' ∧ Tch g W w' := by
  have HC : Hid _ := hc
  have HH : Hid _ := h
  clear hc h
  go_enter Try.func49, Try.ntmps49
  go_wp2_with (go_at_call 30; refine (boundsH _ _ HH.out).mono ?_; rintro e w' ⟨rfl, rfl⟩)
  refine (below_any g a len cap _ _ hl HC.out (by omega)).mono ?_
  rintro e w1 ⟨x, rfl, hx, hc1, ht1⟩
  have H1 : Hid _ := hc1
  have T1 : Hid _ := ht1
  clear hc1 ht1
  go_wp2_with fail
  refine (below_any g a len cap _ _ hl H1.out (by omega)).mono ?_
  rintro e w2 ⟨y, rfl, hy, hc2, ht2⟩
  have H2 : Hid _ := hc2
  have T2 : Hid _ := T1.out.trans ht2
  clear hc2 ht2 H1 T1
  go_wp2
  all_goals go_ret
  all_goals exact ⟨_, rfl, H2.out, T2.out⟩
set_option maxHeartbeats 2000000 in
theorem immR_any (g : Nat) (a : Option Addr) (len cap : Nat) (op : Int) (W : World) (hl : len ≤ 1048576) (hc : Cur g a len cap W) (h : 21 ≤ op ∧ op ≤ 33) :
    Calls Try.prog 49 #[.pointer (some ⟨g, 0, none⟩), .int .i64 op] W fun e w' => ∃ y, e = .returned (.int .i64 y) ∧ Cur g a len cap w' ∧ Tch g W w' := by
  have HC : Hid _ := hc
  have HH : Hid _ := h
  clear hc h
  go_enter Try.func49, Try.ntmps49
  go_wp2_with (go_at_call 30; refine (boundsR _ _ HH.out).mono ?_; rintro e w' ⟨rfl, rfl⟩)
  refine (below_any g a len cap _ _ hl HC.out (by omega)).mono ?_
  rintro e w1 ⟨x, rfl, hx, hc1, ht1⟩
  have H1 : Hid _ := hc1
  have T1 : Hid _ := ht1
  clear hc1 ht1
  go_wp2_with fail
  refine (below_any g a len cap _ _ hl H1.out (by omega)).mono ?_
  rintro e w2 ⟨y, rfl, hy, hc2, ht2⟩
  have H2 : Hid _ := hc2
  have T2 : Hid _ := T1.out.trans ht2
  clear hc2 ht2 H1 T1
  go_wp2
  all_goals go_ret
  all_goals exact ⟨_, rfl, H2.out, T2.out⟩
set_option maxHeartbeats 2000000 in
theorem immE_any (g : Nat) (a : Option Addr) (len cap : Nat) (op : Int) (W : World) (hl : len ≤ 1048576) (hc : Cur g a len cap W) (h : op = 34) :
    Calls Try.prog 49 #[.pointer (some ⟨g, 0, none⟩), .int .i64 op] W fun e w' => ∃ y, e = .returned (.int .i64 y) ∧ Cur g a len cap w' ∧ Tch g W w' := by
  have HC : Hid _ := hc
  have HH : Hid _ := h
  clear hc h
  go_enter Try.func49, Try.ntmps49
  go_wp2_with (go_at_call 30; refine (boundsE _ _ HH.out).mono ?_; rintro e w' ⟨rfl, rfl⟩)
  refine (below_any g a len cap _ _ hl HC.out (by omega)).mono ?_
  rintro e w1 ⟨x, rfl, hx, hc1, ht1⟩
  have H1 : Hid _ := hc1
  have T1 : Hid _ := ht1
  clear hc1 ht1
  go_wp2_with fail
  refine (below_any g a len cap _ _ hl H1.out (by omega)).mono ?_
  rintro e w2 ⟨y, rfl, hy, hc2, ht2⟩
  have H2 : Hid _ := hc2
  have T2 : Hid _ := T1.out.trans ht2
  clear hc2 ht2 H1 T1
  go_wp2
  all_goals go_ret
  all_goals exact ⟨_, rfl, H2.out, T2.out⟩
set_option maxHeartbeats 2000000 in
theorem immI_any (g : Nat) (a : Option Addr) (len cap : Nat) (op : Int) (W : World) (hl : len ≤ 1048576) (hc : Cur g a len cap W) (h : op = 3 ∨ op = 10 ∨ (12 ≤ op ∧ op ≤ 17)) :
    Calls Try.prog 49 #[.pointer (some ⟨g, 0, none⟩), .int .i64 op] W fun e w' => ∃ y, e = .returned (.int .i64 y) ∧ Cur g a len cap w' ∧ Tch g W w' := by
  have HC : Hid _ := hc
  have HH : Hid _ := h
  clear hc h
  go_enter Try.func49, Try.ntmps49
  go_wp2_with (go_at_call 30; refine (boundsI _ _ HH.out).mono ?_; rintro e w' ⟨rfl, rfl⟩)
  refine (below_any g a len cap _ _ hl HC.out (by omega)).mono ?_
  rintro e w1 ⟨x, rfl, hx, hc1, ht1⟩
  have H1 : Hid _ := hc1
  have T1 : Hid _ := ht1
  clear hc1 ht1
  go_wp2_with fail
  refine (below_any g a len cap _ _ hl H1.out (by omega)).mono ?_
  rintro e w2 ⟨y, rfl, hy, hc2, ht2⟩
  have H2 : Hid _ := hc2
  have T2 : Hid _ := T1.out.trans ht2
  clear hc2 ht2 H1 T1
  go_wp2
  all_goals go_ret
  all_goals exact ⟨_, rfl, H2.out, T2.out⟩
end Go.Proofs.Ytdkpinbkmjoicaa
