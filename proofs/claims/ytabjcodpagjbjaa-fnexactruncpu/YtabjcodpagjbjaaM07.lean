import Derived.Test.YtabjcodpagjbjaaM04
import Derived.Test.YtabjcodpagjbjaaM06
import Derived.Deep.RegionWith
import Derived.Deep.RegionHeld3
import Derived.WalkKit
import Derived.RowKit
import Derived.Test.YtabjcodpagjbjaaRows
import Derived.WalkSpells
import Derived.ProofKit
import Derived.Deep.QuietTactic
import Derived.BigQuiet
namespace Go.Proofs.Ytabjcodpagjbjaa
open Go.RowKit
set_option linter.unusedVariables false
set_option linter.unusedSimpArgs false

/-- A machine in a box of its own (block C), its blocks L. -/
def CpuIn (w : World) (C : Nat) (L : List Nat) (c : Mc) : Prop :=
  ∃ r d s i o, Bx w C r (.int .u32 c.pc) d s i o (.int .u32 c.low) (.int .i64 c.st) ∧ Lis .u32 w r c.regs ∧ Lis .u8 w d c.data ∧ Lis .u8 w s c.stack ∧ Lis .i64 w i c.inn ∧
    w.ownsRow 0 2 1 o c.out.length (c.out.map (Value.int .i64)) ∧ (capOk d ∧ capOk s ∧ capOk i) ∧ L = C :: (blk r ++ blk d ++ blk s ++ blk i ++ obk o) ∧ L.Nodup
/-- What a machine of the model holds. -/
structure Good (c : Mc) : Prop where
  r32 : c.regs.length = 32
  ru : ∀ j, j < 32 → 0 ≤ c.regs.getD j 0 ∧ c.regs.getD j 0 ≤ 4294967295
  r0 : c.regs.getD 0 0 = 0
  pcu : 0 ≤ c.pc ∧ c.pc ≤ 4294967295
  lou : 0 ≤ c.low ∧ c.low ≤ 4294967295
  dl : c.data.length ≤ 65536
  du : ∀ j, j < c.data.length → 0 ≤ c.data.getD j 0 ∧ c.data.getD j 0 ≤ 255
  sl : c.stack.length ≤ 1000000
  su : ∀ j, j < c.stack.length → 0 ≤ c.stack.getD j 0 ∧ c.stack.getD j 0 ≤ 255
  il : c.inn.length ≤ 1000
  iu : ∀ j, j < c.inn.length → -2147483648 ≤ c.inn.getD j 0 ∧ c.inn.getD j 0 ≤ 2147483647
  ol : c.out.length ≤ 1000000
  ou : ∀ j, j < c.out.length → -2147483648 ≤ c.out.getD j 0 ∧ c.out.getD j 0 ≤ 2147483647
  st : 0 ≤ c.st ∧ c.st ≤ 2
def setR (c : Mc) (rd v : Int) : Mc := if rd = 0 then c else { c with regs := c.regs.set rd.toNat v }
theorem nodup_sub {A B : List Nat} (h : (A ++ B).Nodup) {g : Nat} (ha : g ∈ A) : g ∉ B := by
  rw [List.nodup_append] at h
  exact fun hb => h.2.2 g ha g hb rfl
theorem lis_some {k : IntKind} {w : World} {v : Value} {zs : List Int} (h : Lis k w v zs) (hn : 0 < zs.length) : ∃ g off cap, v = .slice (some ⟨g, off, none⟩) zs.length cap ∧ Row k w g off zs ∧ blk v = [g] := by
  obtain ⟨a, cap, rfl, hr⟩ := h
  obtain ⟨g, off, rfl, hR⟩ := hr hn
  exact ⟨g, off, cap, rfl, hR, blk_some _ _ _ hn⟩
/-- The registers' block turns, the rest stays. -/
theorem CpuIn.regs {w w' : World} {C : Nat} {L : List Nat} {c : Mc} {g off cap : Nat} {d s i o : Value} {rs : List Int}
    (hb : Bx w C (.slice (some ⟨g, off, none⟩) c.regs.length cap) (.int .u32 c.pc) d s i o (.int .u32 c.low) (.int .i64 c.st)) (hd : Lis .u8 w d c.data) (hs : Lis .u8 w s c.stack) (hi : Lis .i64 w i c.inn)
    (ho : w.ownsRow 0 2 1 o c.out.length (c.out.map (Value.int .i64))) (hL : L = C :: (blk (.slice (some ⟨g, off, none⟩) c.regs.length cap) ++ blk d ++ blk s ++ blk i ++ obk o)) (hnd : L.Nodup) (hk : capOk d ∧ capOk s ∧ capOk i) (hn : 0 < c.regs.length)
    (ht : Tcs (fun k => k = g) w w') (hl : rs.length = c.regs.length) (hr : Row .u32 w' g off rs) : CpuIn w' C L { c with regs := rs } := by
  have hbk := blk_some ⟨g, off, none⟩ c.regs.length cap hn
  have hnd' := hnd
  rw [hL, hbk] at hnd'
  simp only [List.append_assoc, List.cons_append, List.nil_append, List.nodup_cons, List.mem_cons, List.mem_append, not_or] at hnd'
  obtain ⟨⟨hcg, _⟩, ⟨g1, g2, g3, g4⟩, _⟩ := hnd'
  refine ⟨.slice (some ⟨g, off, none⟩) c.regs.length cap, d, s, i, o, hb.keep (ht.block C hb.lt hcg), ?_, hd.tcs ht fun k hk e => g1 (e ▸ hk), hs.tcs ht fun k hk e => g2 (e ▸ hk), hi.tcs ht fun k hk e => g3 (e ▸ hk), own_tcs ho ht fun k hk e => g4 (e ▸ hk), hk, hL, hnd⟩
  exact ⟨_, cap, by simp [hl], fun _ => ⟨g, off, rfl, hr⟩⟩

set_option maxHeartbeats 1000000 in
theorem setReg_yes (C : Nat) (L : List Nat) (c : Mc) (rd v : Int) (w : World) (hg : c.regs.length = 32) (hrd : 1 ≤ rd ∧ rd ≤ 31) (h : CpuIn w C L c) :
    Calls Try.prog 71 #[.pointer (some ⟨C, 0, none⟩), .int .i64 rd, .int .u32 v] w fun e w' => e = .returned (.tuple #[]) ∧ CpuIn w' C L (setR c rd v) ∧ Tcs (fun g => g ∈ L) w w' := by
  obtain ⟨r, d, s, i, o, hb, hr, hd, hs, hi, ho, hk, hL, hnd⟩ := h
  obtain ⟨g, off, cap, rfl, hR, hbk⟩ := lis_some hr (by omega)
  obtain ⟨k, rfl⟩ : ∃ k : Nat, rd = k := ⟨rd.toNat, by omega⟩
  have e32 : c.regs.length = 32 := hg
  have c0 := hb.c0
  rw [e32] at c0
  have ck := hR.cell k (by omega)
  have fk := hR.froz (off + k)
  have HC : Hid _ := And.intro hb (And.intro hR (And.intro hd (And.intro hs (And.intro hi (And.intro ho (And.intro hL (And.intro hnd (And.intro hbk hk))))))))
  clear hb hr hR hd hs hi ho hL hnd hbk hk
  go_enter Try.func71, Try.ntmps71
  go_wp2
  go_end0
  obtain ⟨hb, hR, hd, hs, hi, ho, hL, hnd, hbk, hk⟩ := HC.out
  refine ⟨rfl, ?_, ?_⟩
  · rw [show setR c (k : Int) v = { c with regs := c.regs.set k v } by unfold setR; rw [if_neg (by omega)]; rfl]
    exact CpuIn.regs hb hd hs hi ho hL hnd hk (by omega) ((Tcs.refl (fun x => x = g) w).setCell (p := ⟨g, off + k, none⟩) rfl _) (by simp) (hR.set (by omega))
  · refine (Tcs.refl (fun x => x ∈ L) w).setCell (p := ⟨g, off + k, none⟩) ?_ _
    show g ∈ L
    rw [hL, hbk]
    simp

set_option maxHeartbeats 1000000 in
theorem setReg_no (C : Nat) (L : List Nat) (c : Mc) (v : Int) (w : World) (h : CpuIn w C L c) :
    Calls Try.prog 71 #[.pointer (some ⟨C, 0, none⟩), .int .i64 0, .int .u32 v] w fun e w' => e = .returned (.tuple #[]) ∧ CpuIn w' C L (setR c 0 v) ∧ Tcs (fun g => g ∈ L) w w' := by
  go_enter Try.func71, Try.ntmps71
  go_wp2
  go_end0
  exact ⟨rfl, h, Tcs.refl _ _⟩
theorem setReg_any (C : Nat) (L : List Nat) (c : Mc) (rd v : Int) (w : World) (hg : c.regs.length = 32) (hrd : 0 ≤ rd ∧ rd ≤ 31) (h : CpuIn w C L c) :
    Calls Try.prog 71 #[.pointer (some ⟨C, 0, none⟩), .int .i64 rd, .int .u32 v] w fun e w' => e = .returned (.tuple #[]) ∧ CpuIn w' C L (setR c rd v) ∧ Tcs (fun g => g ∈ L) w w' := by
  by_cases h0 : rd = 0
  · subst h0
    exact setReg_no C L c v w h
  · exact setReg_yes C L c rd v w hg (by omega) h

theorem CpuIn.lt {w : World} {C : Nat} {L : List Nat} {c : Mc} (h : CpuIn w C L c) : ∀ g ∈ L, g < w.heap.size := by
  obtain ⟨r, d, s, i, o, hb, hr, hd, hs, hi, ho, hk, rfl, hnd⟩ := h
  intro g hg
  simp only [List.mem_cons, List.mem_append] at hg
  rcases hg with rfl | (((hg | hg) | hg) | hg) | hg
  · exact hb.lt
  · exact hr.lt g hg
  · exact hd.lt g hg
  · exact hs.lt g hg
  · exact hi.lt g hg
  · exact ((own_obk ho).2 g hg).2
theorem CpuIn.tcs {S : Nat → Prop} {w w' : World} {C : Nat} {L : List Nat} {c : Mc} (h : CpuIn w C L c) (ht : Tcs S w w') (hn : ∀ g ∈ L, ¬ S g) : CpuIn w' C L c := by
  obtain ⟨r, d, s, i, o, hb, hr, hd, hs, hi, ho, hk, rfl, hnd⟩ := h
  simp only [List.mem_cons, List.mem_append] at hn
  exact ⟨r, d, s, i, o, hb.keep (ht.block C hb.lt (hn C (.inl rfl))), hr.tcs ht fun g hg => hn g (.inr (.inl (.inl (.inl (.inl hg))))), hd.tcs ht fun g hg => hn g (.inr (.inl (.inl (.inl (.inr hg))))), hs.tcs ht fun g hg => hn g (.inr (.inl (.inl (.inr hg)))), hi.tcs ht fun g hg => hn g (.inr (.inl (.inr hg))), own_tcs ho ht fun g hg => hn g (.inr (.inr hg)), hk, rfl, hnd⟩
theorem CpuIn.below {w w' : World} {C : Nat} {L : List Nat} {c : Mc} (h : CpuIn w C L c) (hb : Below w.heap.size w w') : CpuIn w' C L c := h.tcs (Below.tcs (S := fun _ => False) hb) (fun _ _ f => f)
/-- A cell of the box is set. -/
theorem CpuIn.pc {w : World} {C : Nat} {L : List Nat} {c : Mc} (h : CpuIn w C L c) (x : Int) : CpuIn (w.setCell ⟨C, 1, none⟩ (.int .u32 x)) C L { c with pc := x } := by
  obtain ⟨r, d, s, i, o, hb, hr, hd, hs, hi, ho, hk, rfl, hnd⟩ := h
  have ht := (Tcs.refl (fun k => k = C) w).setCell (p := ⟨C, 1, none⟩) rfl (.int .u32 x)
  have hn := (List.nodup_cons.mp hnd).1
  simp only [List.mem_append, not_or] at hn
  obtain ⟨⟨⟨⟨n1, n2⟩, n3⟩, n4⟩, n5⟩ := hn
  exact ⟨r, d, s, i, o, hb.s1 _, hr.tcs ht fun g hg e => n1 (e ▸ hg), hd.tcs ht fun g hg e => n2 (e ▸ hg), hs.tcs ht fun g hg e => n3 (e ▸ hg), hi.tcs ht fun g hg e => n4 (e ▸ hg), own_tcs ho ht fun g hg e => n5 (e ▸ hg), hk, rfl, hnd⟩
theorem CpuIn.low {w : World} {C : Nat} {L : List Nat} {c : Mc} (h : CpuIn w C L c) (x : Int) : CpuIn (w.setCell ⟨C, 6, none⟩ (.int .u32 x)) C L { c with low := x } := by
  obtain ⟨r, d, s, i, o, hb, hr, hd, hs, hi, ho, hk, rfl, hnd⟩ := h
  have ht := (Tcs.refl (fun k => k = C) w).setCell (p := ⟨C, 6, none⟩) rfl (.int .u32 x)
  have hn := (List.nodup_cons.mp hnd).1
  simp only [List.mem_append, not_or] at hn
  obtain ⟨⟨⟨⟨n1, n2⟩, n3⟩, n4⟩, n5⟩ := hn
  exact ⟨r, d, s, i, o, hb.s6 _, hr.tcs ht fun g hg e => n1 (e ▸ hg), hd.tcs ht fun g hg e => n2 (e ▸ hg), hs.tcs ht fun g hg e => n3 (e ▸ hg), hi.tcs ht fun g hg e => n4 (e ▸ hg), own_tcs ho ht fun g hg e => n5 (e ▸ hg), hk, rfl, hnd⟩
theorem CpuIn.stt {w : World} {C : Nat} {L : List Nat} {c : Mc} (h : CpuIn w C L c) (x : Int) : CpuIn (w.setCell ⟨C, 7, none⟩ (.int .i64 x)) C L { c with st := x } := by
  obtain ⟨r, d, s, i, o, hb, hr, hd, hs, hi, ho, hk, rfl, hnd⟩ := h
  have ht := (Tcs.refl (fun k => k = C) w).setCell (p := ⟨C, 7, none⟩) rfl (.int .i64 x)
  have hn := (List.nodup_cons.mp hnd).1
  simp only [List.mem_append, not_or] at hn
  obtain ⟨⟨⟨⟨n1, n2⟩, n3⟩, n4⟩, n5⟩ := hn
  exact ⟨r, d, s, i, o, hb.s7 _, hr.tcs ht fun g hg e => n1 (e ▸ hg), hd.tcs ht fun g hg e => n2 (e ▸ hg), hs.tcs ht fun g hg e => n3 (e ▸ hg), hi.tcs ht fun g hg e => n4 (e ▸ hg), own_tcs ho ht fun g hg e => n5 (e ▸ hg), hk, rfl, hnd⟩
theorem CpuIn.mem {w : World} {C : Nat} {L : List Nat} {c : Mc} (h : CpuIn w C L c) : C ∈ L := by
  obtain ⟨r, d, s, i, o, hb, hr, hd, hs, hi, ho, hk, rfl, hnd⟩ := h
  simp

end Go.Proofs.Ytabjcodpagjbjaa

namespace Go.Proofs.Ytabjcodpagjbjaa
open Go.RowKit
set_option linter.unusedVariables false
set_option linter.unusedSimpArgs false

theorem setR_st (c : Mc) (rd v : Int) : (setR c rd v).st = c.st := by unfold setR; split <;> rfl
theorem setR_pc (c : Mc) (rd v : Int) : (setR c rd v).pc = c.pc := by unfold setR; split <;> rfl


set_option maxRecDepth 8000 in
set_option maxHeartbeats 1000000 in
theorem exR (C : Nat) (L : List Nat) (c : Mc) (op r : Int) (rd s1 s2 : Nat) (im : Int) (w : World) (hG : Good c) (h : CpuIn w C L c) (hop : 21 ≤ op ∧ op ≤ 33) (hrd : rd < 32) (h1 : s1 < 32) (h2 : s2 < 32)
    (hst : c.st = 0) (hA : AluIs op (c.regs.getD s1 0) (c.regs.getD s2 0) r) :
    Calls Try.prog 58 #[.pointer (some ⟨C, 0, none⟩), .agg #[.int .i64 op, .int .i64 rd, .int .i64 s1, .int .i64 s2, .int .i64 im]] w fun e w' =>
      e = .returned (.bool true) ∧ CpuIn w' C L { setR c rd r with pc := (c.pc + 4) % 4294967296 } ∧ Tcs (fun g => g ∈ L) w w' := by
  have T0 := (Tcs.refl (fun g => g ∈ L) w).alloc (.cells #[.int .i64 op, .int .i64 rd, .int .i64 s1, .int .i64 s2, .int .i64 im] 64)
  have h0 := h.below ((Below.refl w.heap.size w).alloc (Nat.le_refl _) (.cells #[.int .i64 op, .int .i64 rd, .int .i64 s1, .int .i64 s2, .int .i64 im] 64))
  obtain ⟨rv, d, s, i, o, hb, hr, hd, hs, hi, ho, hk, hL, hnd⟩ := id h0
  obtain ⟨g, off, cap, rfl, hR, hbk⟩ := lis_some hr (by have := hG.r32; omega)
  have e32 := hG.r32
  have c0 := hb.c0
  rw [e32] at c0
  have c1 := hb.c1
  have cs1 := hR.cell s1 (by omega)
  have cs2 := hR.cell s2 (by omega)
  have X0 : ∀ {W : World}, Tcs (fun g => g ∈ L) (w.alloc (.cells #[.int .i64 op, .int .i64 rd, .int .i64 s1, .int .i64 s2, .int .i64 im] 64)) W → W.cell? ⟨w.heap.size, 0, none⟩ = some (.int .i64 op) ∧ W.cell? ⟨w.heap.size, 1, none⟩ = some (.int .i64 rd) := by
    intro W hW
    have hkb := hW.block w.heap.size (by simp) (fun hm => by have := h.lt _ hm; omega)
    constructor <;> (rw [World.cell?_of_block (w := w.alloc _) hkb]; simp)
  have HS : Hid (∀ W v, Below (w.alloc (.cells #[.int .i64 op, .int .i64 rd, .int .i64 s1, .int .i64 s2, .int .i64 im] 64)).heap.size (w.alloc (.cells #[.int .i64 op, .int .i64 rd, .int .i64 s1, .int .i64 s2, .int .i64 im] 64)) W →
      Calls Try.prog 71 #[.pointer (some ⟨C, 0, none⟩), .int .i64 rd, .int .u32 v] W fun e w' => e = .returned (.tuple #[]) ∧ CpuIn w' C L (setR c rd v) ∧ Tcs (fun g => g ∈ L) w w' ∧ (w'.cell? ⟨w.heap.size, 0, none⟩ = some (.int .i64 op) ∧ w'.cell? ⟨w.heap.size, 1, none⟩ = some (.int .i64 rd))) := by
    intro W v hW
    refine (setReg_any C L c rd v W hG.r32 (by omega) (h0.below hW)).mono ?_
    rintro e w' ⟨rfl, hc, ht⟩
    have t1 := (Below.tcs (S := fun g => g ∈ L) hW).trans ht
    exact ⟨rfl, hc, T0.trans t1, X0 t1⟩
  have X00 := X0 (Tcs.refl _ _)
  have HI : Hid _ := hA
  clear hA
  clear hb hr hR hd hs hi ho hk hL hnd hbk h h0 T0 X0
  generalize hx1 : c.regs.getD s1 0 = a at *
  generalize hx2 : c.regs.getD s2 0 = b at *
  go_enter Try.func58, Try.ntmps58
  go_wp2_with fail
  go_quiet (fail)
  go_wp2_with fail
  go_region_held3 (fun W => W.cell? ⟨w.heap.size, 0, none⟩ = some (.int .i64 op) ∧ W.cell? ⟨w.heap.size, 1, none⟩ = some (.int .i64 rd)) (first | exact X00 | assumption | (go_simp; done))
    (first
    | (go_at_call 77; refine (HI.out.2.1 _).mono ?_; rintro e w1 ⟨rfl, rfl⟩)
    | (go_at_call 71; refine (HS.out _ _ ?_).mono ?_; (first | exact below_drewN (Below.refl _ _) _ | exact (below_drewN (Below.refl _ _) _).drew | exact (Below.refl _ _).drew | exact Below.refl _ _); rintro e w2 ⟨rfl, hc2, ht2, x2⟩))
  obtain ⟨rv, d2, s2', i2, o2, hb2, _, _, _, _, _, _, _⟩ := id hc2
  have q1 := hb2.c1
  have q7 := hb2.c7
  have qf := hb2.fz 1
  rw [setR_pc] at q1
  rw [setR_st, hst] at q7
  have HE : Hid _ := And.intro hc2 ht2
  clear hb2 hc2 ht2 x2
  go_wp2
  go_ret
  exact ⟨rfl, HE.out.1.pc _, HE.out.2.setCell HE.out.1.mem _⟩

end Go.Proofs.Ytabjcodpagjbjaa

namespace Go.Proofs.Ytabjcodpagjbjaa
open Go.RowKit

theorem and_mask (v : Int) (f c : Nat) (h0 : 0 ≤ v) (h1 : v ≤ 4294967295) (hc : c ≤ 31) : bits .and .u32 (v / 2 ^ f) ((2 ^ c - 1) % 4294967296) = v / 2 ^ f % 2 ^ c := by
  obtain ⟨V, rfl⟩ := Int.eq_ofNat_of_zero_le h0
  have e1 : ((V : Int) / 2 ^ f) = ((V / 2 ^ f : Nat) : Int) := by simp
  have hp : 2 ^ c ≤ 2 ^ 31 := Nat.pow_le_pow_right (by decide) hc
  have hp0 : 0 < 2 ^ c := Nat.pow_pos (by decide)
  have e2 : (((2 : Int) ^ c - 1) % 4294967296) = ((2 ^ c - 1 : Nat) : Int) := by
    have : ((2 : Int) ^ c) = ((2 ^ c : Nat) : Int) := by simp
    rw [this]; omega
  have hV : V / 2 ^ f < 4294967296 := Nat.lt_of_le_of_lt (Nat.div_le_self _ _) (by omega)
  rw [e1, e2, u32_and_nat _ _ hV (by omega), Nat.and_two_pow_sub_one_eq_mod]
  simp

theorem or2 (a b : Nat) (ha : a < 4294967296) (hb : b < 4294967296) : bits .or .u32 (a : Int) (b : Int) = ((a ||| b : Nat) : Int) ∧ a ||| b < 4294967296 :=
  ⟨u32_or_nat a b ha hb, Nat.or_lt_two_pow (n := 32) ha hb⟩

theorem or_hi (i a b : Nat) (h : b < 2 ^ i) : 2 ^ i * a ||| b = 2 ^ i * a + b := (Nat.two_pow_add_eq_or_of_lt h a).symm

theorem orFb (o f g : Int) (ho : 0 ≤ o ∧ o ≤ 127) (hf : 0 ≤ f ∧ f ≤ 7) (hg : 0 ≤ g ∧ g ≤ 127) :
    bits .or .u32 (bits .or .u32 o (f * 4096)) (g * 33554432) =
      o + f * 4096 + g * 33554432 := by
  obtain ⟨O, rfl⟩ := Int.eq_ofNat_of_zero_le ho.1
  obtain ⟨F, rfl⟩ := Int.eq_ofNat_of_zero_le hf.1
  obtain ⟨G, rfl⟩ := Int.eq_ofNat_of_zero_le hg.1
  have l0 : ((O : Int) : Int) = ((O : Nat) : Int) := by
    omega
  have b0 : O < 4294967296 := by
    omega
  have l1 : ((F : Int) * 4096 : Int) = ((2 ^ 12 * F : Nat) : Int) := by
    omega
  have b1 : 2 ^ 12 * F < 4294967296 := by
    omega
  have l2 : ((G : Int) * 33554432 : Int) = ((2 ^ 25 * G : Nat) : Int) := by
    omega
  have b2 : 2 ^ 25 * G < 4294967296 := by
    omega
  rw [l0]
  rw [l1]
  rw [l2]
  have a1 := or2 (O) (2 ^ 12 * F) b0 b1
  rw [a1.1]
  have a2 := or2 _ (2 ^ 25 * G) a1.2 b2
  rw [a2.1]
  have e : (((O) ||| (2 ^ 12 * F)) ||| (2 ^ 25 * G)) = (2 ^ 25 * G ||| (2 ^ 12 * F ||| O)) := by ac_rfl
  rw [e, or_hi 12 F _ (by omega), or_hi 25 G _ (by omega)]
  omega
theorem orFb0 (o f : Int) (ho : 0 ≤ o ∧ o ≤ 127) (hf : 0 ≤ f ∧ f ≤ 7) :
    bits .or .u32 o (f * 4096) =
      o + f * 4096 := by
  obtain ⟨O, rfl⟩ := Int.eq_ofNat_of_zero_le ho.1
  obtain ⟨F, rfl⟩ := Int.eq_ofNat_of_zero_le hf.1
  have l0 : ((O : Int) : Int) = ((O : Nat) : Int) := by
    omega
  have b0 : O < 4294967296 := by
    omega
  have l1 : ((F : Int) * 4096 : Int) = ((2 ^ 12 * F : Nat) : Int) := by
    omega
  have b1 : 2 ^ 12 * F < 4294967296 := by
    omega
  rw [l0]
  rw [l1]
  have a1 := or2 (O) (2 ^ 12 * F) b0 b1
  rw [a1.1]
  have e : ((O) ||| (2 ^ 12 * F)) = (2 ^ 12 * F ||| O) := by ac_rfl
  rw [e, or_hi 12 F _ (by omega)]
  omega
theorem orR (o f g r s t : Int) (ho : 0 ≤ o ∧ o ≤ 127) (hf : 0 ≤ f ∧ f ≤ 7) (hg : 0 ≤ g ∧ g ≤ 127) (hr : 0 ≤ r ∧ r ≤ 31) (hs : 0 ≤ s ∧ s ≤ 31) (ht : 0 ≤ t ∧ t ≤ 31) :
    bits .or .u32 (bits .or .u32 (bits .or .u32 (o + f * 4096 + g * 33554432) (r * 128)) (s * 32768)) (t * 1048576) =
      o + r * 128 + f * 4096 + s * 32768 + t * 1048576 + g * 33554432 := by
  obtain ⟨O, rfl⟩ := Int.eq_ofNat_of_zero_le ho.1
  obtain ⟨F, rfl⟩ := Int.eq_ofNat_of_zero_le hf.1
  obtain ⟨G, rfl⟩ := Int.eq_ofNat_of_zero_le hg.1
  obtain ⟨R, rfl⟩ := Int.eq_ofNat_of_zero_le hr.1
  obtain ⟨S, rfl⟩ := Int.eq_ofNat_of_zero_le hs.1
  obtain ⟨T, rfl⟩ := Int.eq_ofNat_of_zero_le ht.1
  have l0 : ((O : Int) + (F : Int) * 4096 + (G : Int) * 33554432 : Int) = (((2 ^ 25 * G ||| (2 ^ 12 * F ||| O)) : Nat) : Int) := by
    rw [or_hi 12 F _ (by omega), or_hi 25 G _ (by omega)]
    omega
  have b0 : (2 ^ 25 * G ||| (2 ^ 12 * F ||| O)) < 4294967296 := by
    rw [or_hi 12 F _ (by omega), or_hi 25 G _ (by omega)]
    omega
  have l1 : ((R : Int) * 128 : Int) = ((2 ^ 7 * R : Nat) : Int) := by
    omega
  have b1 : 2 ^ 7 * R < 4294967296 := by
    omega
  have l2 : ((S : Int) * 32768 : Int) = ((2 ^ 15 * S : Nat) : Int) := by
    omega
  have b2 : 2 ^ 15 * S < 4294967296 := by
    omega
  have l3 : ((T : Int) * 1048576 : Int) = ((2 ^ 20 * T : Nat) : Int) := by
    omega
  have b3 : 2 ^ 20 * T < 4294967296 := by
    omega
  rw [l0]
  rw [l1]
  rw [l2]
  rw [l3]
  have a1 := or2 ((2 ^ 25 * G ||| (2 ^ 12 * F ||| O))) (2 ^ 7 * R) b0 b1
  rw [a1.1]
  have a2 := or2 _ (2 ^ 15 * S) a1.2 b2
  rw [a2.1]
  have a3 := or2 _ (2 ^ 20 * T) a2.2 b3
  rw [a3.1]
  have e : ((((2 ^ 25 * G ||| (2 ^ 12 * F ||| O)) ||| (2 ^ 7 * R)) ||| (2 ^ 15 * S)) ||| (2 ^ 20 * T)) = (2 ^ 25 * G ||| (2 ^ 20 * T ||| (2 ^ 15 * S ||| (2 ^ 12 * F ||| (2 ^ 7 * R ||| O))))) := by ac_rfl
  rw [e, or_hi 7 R _ (by omega), or_hi 12 F _ (by omega), or_hi 15 S _ (by omega), or_hi 20 T _ (by omega), or_hi 25 G _ (by omega)]
  omega
theorem orI (o f r s i : Int) (ho : 0 ≤ o ∧ o ≤ 127) (hf : 0 ≤ f ∧ f ≤ 7) (hr : 0 ≤ r ∧ r ≤ 31) (hs : 0 ≤ s ∧ s ≤ 31) (hi : 0 ≤ i ∧ i ≤ 4095) :
    bits .or .u32 (bits .or .u32 (bits .or .u32 (o + f * 4096) (r * 128)) (s * 32768)) (i * 1048576) =
      o + r * 128 + f * 4096 + s * 32768 + i * 1048576 := by
  obtain ⟨O, rfl⟩ := Int.eq_ofNat_of_zero_le ho.1
  obtain ⟨F, rfl⟩ := Int.eq_ofNat_of_zero_le hf.1
  obtain ⟨R, rfl⟩ := Int.eq_ofNat_of_zero_le hr.1
  obtain ⟨S, rfl⟩ := Int.eq_ofNat_of_zero_le hs.1
  obtain ⟨I, rfl⟩ := Int.eq_ofNat_of_zero_le hi.1
  have l0 : ((O : Int) + (F : Int) * 4096 : Int) = (((2 ^ 12 * F ||| O) : Nat) : Int) := by
    rw [or_hi 12 F _ (by omega)]
    omega
  have b0 : (2 ^ 12 * F ||| O) < 4294967296 := by
    rw [or_hi 12 F _ (by omega)]
    omega
  have l1 : ((R : Int) * 128 : Int) = ((2 ^ 7 * R : Nat) : Int) := by
    omega
  have b1 : 2 ^ 7 * R < 4294967296 := by
    omega
  have l2 : ((S : Int) * 32768 : Int) = ((2 ^ 15 * S : Nat) : Int) := by
    omega
  have b2 : 2 ^ 15 * S < 4294967296 := by
    omega
  have l3 : ((I : Int) * 1048576 : Int) = ((2 ^ 20 * I : Nat) : Int) := by
    omega
  have b3 : 2 ^ 20 * I < 4294967296 := by
    omega
  rw [l0]
  rw [l1]
  rw [l2]
  rw [l3]
  have a1 := or2 ((2 ^ 12 * F ||| O)) (2 ^ 7 * R) b0 b1
  rw [a1.1]
  have a2 := or2 _ (2 ^ 15 * S) a1.2 b2
  rw [a2.1]
  have a3 := or2 _ (2 ^ 20 * I) a2.2 b3
  rw [a3.1]
  have e : ((((2 ^ 12 * F ||| O) ||| (2 ^ 7 * R)) ||| (2 ^ 15 * S)) ||| (2 ^ 20 * I)) = (2 ^ 20 * I ||| (2 ^ 15 * S ||| (2 ^ 12 * F ||| (2 ^ 7 * R ||| O)))) := by ac_rfl
  rw [e, or_hi 7 R _ (by omega), or_hi 12 F _ (by omega), or_hi 15 S _ (by omega), or_hi 20 I _ (by omega)]
  omega
theorem orS (o f s t i j : Int) (ho : 0 ≤ o ∧ o ≤ 127) (hf : 0 ≤ f ∧ f ≤ 7) (hs : 0 ≤ s ∧ s ≤ 31) (ht : 0 ≤ t ∧ t ≤ 31) (hi : 0 ≤ i ∧ i ≤ 31) (hj : 0 ≤ j ∧ j ≤ 127) :
    bits .or .u32 (bits .or .u32 (bits .or .u32 (bits .or .u32 (o + f * 4096) (s * 32768)) (t * 1048576)) (i * 128)) (j * 33554432) =
      o + i * 128 + f * 4096 + s * 32768 + t * 1048576 + j * 33554432 := by
  obtain ⟨O, rfl⟩ := Int.eq_ofNat_of_zero_le ho.1
  obtain ⟨F, rfl⟩ := Int.eq_ofNat_of_zero_le hf.1
  obtain ⟨S, rfl⟩ := Int.eq_ofNat_of_zero_le hs.1
  obtain ⟨T, rfl⟩ := Int.eq_ofNat_of_zero_le ht.1
  obtain ⟨I, rfl⟩ := Int.eq_ofNat_of_zero_le hi.1
  obtain ⟨J, rfl⟩ := Int.eq_ofNat_of_zero_le hj.1
  have l0 : ((O : Int) + (F : Int) * 4096 : Int) = (((2 ^ 12 * F ||| O) : Nat) : Int) := by
    rw [or_hi 12 F _ (by omega)]
    omega
  have b0 : (2 ^ 12 * F ||| O) < 4294967296 := by
    rw [or_hi 12 F _ (by omega)]
    omega
  have l1 : ((S : Int) * 32768 : Int) = ((2 ^ 15 * S : Nat) : Int) := by
    omega
  have b1 : 2 ^ 15 * S < 4294967296 := by
    omega
  have l2 : ((T : Int) * 1048576 : Int) = ((2 ^ 20 * T : Nat) : Int) := by
    omega
  have b2 : 2 ^ 20 * T < 4294967296 := by
    omega
  have l3 : ((I : Int) * 128 : Int) = ((2 ^ 7 * I : Nat) : Int) := by
    omega
  have b3 : 2 ^ 7 * I < 4294967296 := by
    omega
  have l4 : ((J : Int) * 33554432 : Int) = ((2 ^ 25 * J : Nat) : Int) := by
    omega
  have b4 : 2 ^ 25 * J < 4294967296 := by
    omega
  rw [l0]
  rw [l1]
  rw [l2]
  rw [l3]
  rw [l4]
  have a1 := or2 ((2 ^ 12 * F ||| O)) (2 ^ 15 * S) b0 b1
  rw [a1.1]
  have a2 := or2 _ (2 ^ 20 * T) a1.2 b2
  rw [a2.1]
  have a3 := or2 _ (2 ^ 7 * I) a2.2 b3
  rw [a3.1]
  have a4 := or2 _ (2 ^ 25 * J) a3.2 b4
  rw [a4.1]
  have e : (((((2 ^ 12 * F ||| O) ||| (2 ^ 15 * S)) ||| (2 ^ 20 * T)) ||| (2 ^ 7 * I)) ||| (2 ^ 25 * J)) = (2 ^ 25 * J ||| (2 ^ 20 * T ||| (2 ^ 15 * S ||| (2 ^ 12 * F ||| (2 ^ 7 * I ||| O))))) := by ac_rfl
  rw [e, or_hi 7 I _ (by omega), or_hi 12 F _ (by omega), or_hi 15 S _ (by omega), or_hi 20 T _ (by omega), or_hi 25 J _ (by omega)]
  omega
theorem orSB (i j k l : Int) (hi : 0 ≤ i ∧ i ≤ 1) (hj : 0 ≤ j ∧ j ≤ 15) (hk : 0 ≤ k ∧ k ≤ 63) (hl : 0 ≤ l ∧ l ≤ 1) :
    bits .or .u32 (bits .or .u32 (bits .or .u32 (i * 128) (j * 256)) (k * 33554432)) (l * 2147483648) =
      i * 128 + j * 256 + k * 33554432 + l * 2147483648 := by
  obtain ⟨I, rfl⟩ := Int.eq_ofNat_of_zero_le hi.1
  obtain ⟨J, rfl⟩ := Int.eq_ofNat_of_zero_le hj.1
  obtain ⟨K, rfl⟩ := Int.eq_ofNat_of_zero_le hk.1
  obtain ⟨L, rfl⟩ := Int.eq_ofNat_of_zero_le hl.1
  have l0 : ((I : Int) * 128 : Int) = ((2 ^ 7 * I : Nat) : Int) := by
    omega
  have b0 : 2 ^ 7 * I < 4294967296 := by
    omega
  have l1 : ((J : Int) * 256 : Int) = ((2 ^ 8 * J : Nat) : Int) := by
    omega
  have b1 : 2 ^ 8 * J < 4294967296 := by
    omega
  have l2 : ((K : Int) * 33554432 : Int) = ((2 ^ 25 * K : Nat) : Int) := by
    omega
  have b2 : 2 ^ 25 * K < 4294967296 := by
    omega
  have l3 : ((L : Int) * 2147483648 : Int) = ((2 ^ 31 * L : Nat) : Int) := by
    omega
  have b3 : 2 ^ 31 * L < 4294967296 := by
    omega
  rw [l0]
  rw [l1]
  rw [l2]
  rw [l3]
  have a1 := or2 (2 ^ 7 * I) (2 ^ 8 * J) b0 b1
  rw [a1.1]
  have a2 := or2 _ (2 ^ 25 * K) a1.2 b2
  rw [a2.1]
  have a3 := or2 _ (2 ^ 31 * L) a2.2 b3
  rw [a3.1]
  have e : ((((2 ^ 7 * I) ||| (2 ^ 8 * J)) ||| (2 ^ 25 * K)) ||| (2 ^ 31 * L)) = (2 ^ 31 * L ||| (2 ^ 25 * K ||| (2 ^ 8 * J ||| 2 ^ 7 * I))) := by ac_rfl
  rw [e, or_hi 8 J _ (by omega), or_hi 25 K _ (by omega), or_hi 31 L _ (by omega)]
  omega
theorem orB (o f s t i j k l : Int) (ho : 0 ≤ o ∧ o ≤ 127) (hf : 0 ≤ f ∧ f ≤ 7) (hs : 0 ≤ s ∧ s ≤ 31) (ht : 0 ≤ t ∧ t ≤ 31) (hi : 0 ≤ i ∧ i ≤ 1) (hj : 0 ≤ j ∧ j ≤ 15) (hk : 0 ≤ k ∧ k ≤ 63) (hl : 0 ≤ l ∧ l ≤ 1) :
    bits .or .u32 (bits .or .u32 (bits .or .u32 (o + f * 4096) (s * 32768)) (t * 1048576)) (i * 128 + j * 256 + k * 33554432 + l * 2147483648) =
      o + i * 128 + j * 256 + f * 4096 + s * 32768 + t * 1048576 + k * 33554432 + l * 2147483648 := by
  obtain ⟨O, rfl⟩ := Int.eq_ofNat_of_zero_le ho.1
  obtain ⟨F, rfl⟩ := Int.eq_ofNat_of_zero_le hf.1
  obtain ⟨S, rfl⟩ := Int.eq_ofNat_of_zero_le hs.1
  obtain ⟨T, rfl⟩ := Int.eq_ofNat_of_zero_le ht.1
  obtain ⟨I, rfl⟩ := Int.eq_ofNat_of_zero_le hi.1
  obtain ⟨J, rfl⟩ := Int.eq_ofNat_of_zero_le hj.1
  obtain ⟨K, rfl⟩ := Int.eq_ofNat_of_zero_le hk.1
  obtain ⟨L, rfl⟩ := Int.eq_ofNat_of_zero_le hl.1
  have l0 : ((O : Int) + (F : Int) * 4096 : Int) = (((2 ^ 12 * F ||| O) : Nat) : Int) := by
    rw [or_hi 12 F _ (by omega)]
    omega
  have b0 : (2 ^ 12 * F ||| O) < 4294967296 := by
    rw [or_hi 12 F _ (by omega)]
    omega
  have l1 : ((S : Int) * 32768 : Int) = ((2 ^ 15 * S : Nat) : Int) := by
    omega
  have b1 : 2 ^ 15 * S < 4294967296 := by
    omega
  have l2 : ((T : Int) * 1048576 : Int) = ((2 ^ 20 * T : Nat) : Int) := by
    omega
  have b2 : 2 ^ 20 * T < 4294967296 := by
    omega
  have l3 : ((I : Int) * 128 + (J : Int) * 256 + (K : Int) * 33554432 + (L : Int) * 2147483648 : Int) = (((2 ^ 31 * L ||| (2 ^ 25 * K ||| (2 ^ 8 * J ||| 2 ^ 7 * I))) : Nat) : Int) := by
    rw [or_hi 8 J _ (by omega), or_hi 25 K _ (by omega), or_hi 31 L _ (by omega)]
    omega
  have b3 : (2 ^ 31 * L ||| (2 ^ 25 * K ||| (2 ^ 8 * J ||| 2 ^ 7 * I))) < 4294967296 := by
    rw [or_hi 8 J _ (by omega), or_hi 25 K _ (by omega), or_hi 31 L _ (by omega)]
    omega
  rw [l0]
  rw [l1]
  rw [l2]
  rw [l3]
  have a1 := or2 ((2 ^ 12 * F ||| O)) (2 ^ 15 * S) b0 b1
  rw [a1.1]
  have a2 := or2 _ (2 ^ 20 * T) a1.2 b2
  rw [a2.1]
  have a3 := or2 _ ((2 ^ 31 * L ||| (2 ^ 25 * K ||| (2 ^ 8 * J ||| 2 ^ 7 * I)))) a2.2 b3
  rw [a3.1]
  have e : ((((2 ^ 12 * F ||| O) ||| (2 ^ 15 * S)) ||| (2 ^ 20 * T)) ||| (2 ^ 31 * L ||| (2 ^ 25 * K ||| (2 ^ 8 * J ||| 2 ^ 7 * I)))) = (2 ^ 31 * L ||| (2 ^ 25 * K ||| (2 ^ 20 * T ||| (2 ^ 15 * S ||| (2 ^ 12 * F ||| (2 ^ 8 * J ||| (2 ^ 7 * I ||| O))))))) := by ac_rfl
  rw [e, or_hi 7 I _ (by omega), or_hi 8 J _ (by omega), or_hi 12 F _ (by omega), or_hi 15 S _ (by omega), or_hi 20 T _ (by omega), or_hi 25 K _ (by omega), or_hi 31 L _ (by omega)]
  omega
theorem orU (o r i : Int) (ho : 0 ≤ o ∧ o ≤ 127) (hr : 0 ≤ r ∧ r ≤ 31) (hi : 0 ≤ i ∧ i ≤ 1048575) :
    bits .or .u32 (bits .or .u32 o (r * 128)) (i * 4096) =
      o + r * 128 + i * 4096 := by
  obtain ⟨O, rfl⟩ := Int.eq_ofNat_of_zero_le ho.1
  obtain ⟨R, rfl⟩ := Int.eq_ofNat_of_zero_le hr.1
  obtain ⟨I, rfl⟩ := Int.eq_ofNat_of_zero_le hi.1
  have l0 : ((O : Int) : Int) = ((O : Nat) : Int) := by
    omega
  have b0 : O < 4294967296 := by
    omega
  have l1 : ((R : Int) * 128 : Int) = ((2 ^ 7 * R : Nat) : Int) := by
    omega
  have b1 : 2 ^ 7 * R < 4294967296 := by
    omega
  have l2 : ((I : Int) * 4096 : Int) = ((2 ^ 12 * I : Nat) : Int) := by
    omega
  have b2 : 2 ^ 12 * I < 4294967296 := by
    omega
  rw [l0]
  rw [l1]
  rw [l2]
  have a1 := or2 (O) (2 ^ 7 * R) b0 b1
  rw [a1.1]
  have a2 := or2 _ (2 ^ 12 * I) a1.2 b2
  rw [a2.1]
  have e : (((O) ||| (2 ^ 7 * R)) ||| (2 ^ 12 * I)) = (2 ^ 12 * I ||| (2 ^ 7 * R ||| O)) := by ac_rfl
  rw [e, or_hi 7 R _ (by omega), or_hi 12 I _ (by omega)]
  omega
theorem orSJ (i j k l : Int) (hi : 0 ≤ i ∧ i ≤ 255) (hj : 0 ≤ j ∧ j ≤ 1) (hk : 0 ≤ k ∧ k ≤ 1023) (hl : 0 ≤ l ∧ l ≤ 1) :
    bits .or .u32 (bits .or .u32 (bits .or .u32 (i * 4096) (j * 1048576)) (k * 2097152)) (l * 2147483648) =
      i * 4096 + j * 1048576 + k * 2097152 + l * 2147483648 := by
  obtain ⟨I, rfl⟩ := Int.eq_ofNat_of_zero_le hi.1
  obtain ⟨J, rfl⟩ := Int.eq_ofNat_of_zero_le hj.1
  obtain ⟨K, rfl⟩ := Int.eq_ofNat_of_zero_le hk.1
  obtain ⟨L, rfl⟩ := Int.eq_ofNat_of_zero_le hl.1
  have l0 : ((I : Int) * 4096 : Int) = ((2 ^ 12 * I : Nat) : Int) := by
    omega
  have b0 : 2 ^ 12 * I < 4294967296 := by
    omega
  have l1 : ((J : Int) * 1048576 : Int) = ((2 ^ 20 * J : Nat) : Int) := by
    omega
  have b1 : 2 ^ 20 * J < 4294967296 := by
    omega
  have l2 : ((K : Int) * 2097152 : Int) = ((2 ^ 21 * K : Nat) : Int) := by
    omega
  have b2 : 2 ^ 21 * K < 4294967296 := by
    omega
  have l3 : ((L : Int) * 2147483648 : Int) = ((2 ^ 31 * L : Nat) : Int) := by
    omega
  have b3 : 2 ^ 31 * L < 4294967296 := by
    omega
  rw [l0]
  rw [l1]
  rw [l2]
  rw [l3]
  have a1 := or2 (2 ^ 12 * I) (2 ^ 20 * J) b0 b1
  rw [a1.1]
  have a2 := or2 _ (2 ^ 21 * K) a1.2 b2
  rw [a2.1]
  have a3 := or2 _ (2 ^ 31 * L) a2.2 b3
  rw [a3.1]
  have e : ((((2 ^ 12 * I) ||| (2 ^ 20 * J)) ||| (2 ^ 21 * K)) ||| (2 ^ 31 * L)) = (2 ^ 31 * L ||| (2 ^ 21 * K ||| (2 ^ 20 * J ||| 2 ^ 12 * I))) := by ac_rfl
  rw [e, or_hi 20 J _ (by omega), or_hi 21 K _ (by omega), or_hi 31 L _ (by omega)]
  omega
theorem orJ (o r i j k l : Int) (ho : 0 ≤ o ∧ o ≤ 127) (hr : 0 ≤ r ∧ r ≤ 31) (hi : 0 ≤ i ∧ i ≤ 255) (hj : 0 ≤ j ∧ j ≤ 1) (hk : 0 ≤ k ∧ k ≤ 1023) (hl : 0 ≤ l ∧ l ≤ 1) :
    bits .or .u32 (bits .or .u32 o (r * 128)) (i * 4096 + j * 1048576 + k * 2097152 + l * 2147483648) =
      o + r * 128 + i * 4096 + j * 1048576 + k * 2097152 + l * 2147483648 := by
  obtain ⟨O, rfl⟩ := Int.eq_ofNat_of_zero_le ho.1
  obtain ⟨R, rfl⟩ := Int.eq_ofNat_of_zero_le hr.1
  obtain ⟨I, rfl⟩ := Int.eq_ofNat_of_zero_le hi.1
  obtain ⟨J, rfl⟩ := Int.eq_ofNat_of_zero_le hj.1
  obtain ⟨K, rfl⟩ := Int.eq_ofNat_of_zero_le hk.1
  obtain ⟨L, rfl⟩ := Int.eq_ofNat_of_zero_le hl.1
  have l0 : ((O : Int) : Int) = ((O : Nat) : Int) := by
    omega
  have b0 : O < 4294967296 := by
    omega
  have l1 : ((R : Int) * 128 : Int) = ((2 ^ 7 * R : Nat) : Int) := by
    omega
  have b1 : 2 ^ 7 * R < 4294967296 := by
    omega
  have l2 : ((I : Int) * 4096 + (J : Int) * 1048576 + (K : Int) * 2097152 + (L : Int) * 2147483648 : Int) = (((2 ^ 31 * L ||| (2 ^ 21 * K ||| (2 ^ 20 * J ||| 2 ^ 12 * I))) : Nat) : Int) := by
    rw [or_hi 20 J _ (by omega), or_hi 21 K _ (by omega), or_hi 31 L _ (by omega)]
    omega
  have b2 : (2 ^ 31 * L ||| (2 ^ 21 * K ||| (2 ^ 20 * J ||| 2 ^ 12 * I))) < 4294967296 := by
    rw [or_hi 20 J _ (by omega), or_hi 21 K _ (by omega), or_hi 31 L _ (by omega)]
    omega
  rw [l0]
  rw [l1]
  rw [l2]
  have a1 := or2 (O) (2 ^ 7 * R) b0 b1
  rw [a1.1]
  have a2 := or2 _ ((2 ^ 31 * L ||| (2 ^ 21 * K ||| (2 ^ 20 * J ||| 2 ^ 12 * I)))) a1.2 b2
  rw [a2.1]
  have e : (((O) ||| (2 ^ 7 * R)) ||| (2 ^ 31 * L ||| (2 ^ 21 * K ||| (2 ^ 20 * J ||| 2 ^ 12 * I)))) = (2 ^ 31 * L ||| (2 ^ 21 * K ||| (2 ^ 20 * J ||| (2 ^ 12 * I ||| (2 ^ 7 * R ||| O))))) := by ac_rfl
  rw [e, or_hi 7 R _ (by omega), or_hi 12 I _ (by omega), or_hi 20 J _ (by omega), or_hi 21 K _ (by omega), or_hi 31 L _ (by omega)]
  omega
theorem orIS (i j : Int) (hi : 0 ≤ i ∧ i ≤ 31) (hj : 0 ≤ j ∧ j ≤ 127) :
    bits .or .u32 i (j * 32) =
      i + j * 32 := by
  obtain ⟨I, rfl⟩ := Int.eq_ofNat_of_zero_le hi.1
  obtain ⟨J, rfl⟩ := Int.eq_ofNat_of_zero_le hj.1
  have l0 : ((I : Int) : Int) = ((I : Nat) : Int) := by
    omega
  have b0 : I < 4294967296 := by
    omega
  have l1 : ((J : Int) * 32 : Int) = ((2 ^ 5 * J : Nat) : Int) := by
    omega
  have b1 : 2 ^ 5 * J < 4294967296 := by
    omega
  rw [l0]
  rw [l1]
  have a1 := or2 (I) (2 ^ 5 * J) b0 b1
  rw [a1.1]
  have e : ((I) ||| (2 ^ 5 * J)) = (2 ^ 5 * J ||| I) := by ac_rfl
  rw [e, or_hi 5 J _ (by omega)]
  omega
theorem orIB (i j k l : Int) (hi : 0 ≤ i ∧ i ≤ 1) (hj : 0 ≤ j ∧ j ≤ 15) (hk : 0 ≤ k ∧ k ≤ 63) (hl : 0 ≤ l ∧ l ≤ 1) :
    bits .or .u32 (bits .or .u32 (bits .or .u32 (i * 2048) (j * 2)) (k * 32)) (l * 4096) =
      j * 2 + k * 32 + i * 2048 + l * 4096 := by
  obtain ⟨I, rfl⟩ := Int.eq_ofNat_of_zero_le hi.1
  obtain ⟨J, rfl⟩ := Int.eq_ofNat_of_zero_le hj.1
  obtain ⟨K, rfl⟩ := Int.eq_ofNat_of_zero_le hk.1
  obtain ⟨L, rfl⟩ := Int.eq_ofNat_of_zero_le hl.1
  have l0 : ((I : Int) * 2048 : Int) = ((2 ^ 11 * I : Nat) : Int) := by
    omega
  have b0 : 2 ^ 11 * I < 4294967296 := by
    omega
  have l1 : ((J : Int) * 2 : Int) = ((2 ^ 1 * J : Nat) : Int) := by
    omega
  have b1 : 2 ^ 1 * J < 4294967296 := by
    omega
  have l2 : ((K : Int) * 32 : Int) = ((2 ^ 5 * K : Nat) : Int) := by
    omega
  have b2 : 2 ^ 5 * K < 4294967296 := by
    omega
  have l3 : ((L : Int) * 4096 : Int) = ((2 ^ 12 * L : Nat) : Int) := by
    omega
  have b3 : 2 ^ 12 * L < 4294967296 := by
    omega
  rw [l0]
  rw [l1]
  rw [l2]
  rw [l3]
  have a1 := or2 (2 ^ 11 * I) (2 ^ 1 * J) b0 b1
  rw [a1.1]
  have a2 := or2 _ (2 ^ 5 * K) a1.2 b2
  rw [a2.1]
  have a3 := or2 _ (2 ^ 12 * L) a2.2 b3
  rw [a3.1]
  have e : ((((2 ^ 11 * I) ||| (2 ^ 1 * J)) ||| (2 ^ 5 * K)) ||| (2 ^ 12 * L)) = (2 ^ 12 * L ||| (2 ^ 11 * I ||| (2 ^ 5 * K ||| 2 ^ 1 * J))) := by ac_rfl
  rw [e, or_hi 5 K _ (by omega), or_hi 11 I _ (by omega), or_hi 12 L _ (by omega)]
  omega
theorem orIJ (i j k l : Int) (hi : 0 ≤ i ∧ i ≤ 255) (hj : 0 ≤ j ∧ j ≤ 1) (hk : 0 ≤ k ∧ k ≤ 1023) (hl : 0 ≤ l ∧ l ≤ 1) :
    bits .or .u32 (bits .or .u32 (bits .or .u32 (i * 4096) (j * 2048)) (k * 2)) (l * 1048576) =
      k * 2 + j * 2048 + i * 4096 + l * 1048576 := by
  obtain ⟨I, rfl⟩ := Int.eq_ofNat_of_zero_le hi.1
  obtain ⟨J, rfl⟩ := Int.eq_ofNat_of_zero_le hj.1
  obtain ⟨K, rfl⟩ := Int.eq_ofNat_of_zero_le hk.1
  obtain ⟨L, rfl⟩ := Int.eq_ofNat_of_zero_le hl.1
  have l0 : ((I : Int) * 4096 : Int) = ((2 ^ 12 * I : Nat) : Int) := by
    omega
  have b0 : 2 ^ 12 * I < 4294967296 := by
    omega
  have l1 : ((J : Int) * 2048 : Int) = ((2 ^ 11 * J : Nat) : Int) := by
    omega
  have b1 : 2 ^ 11 * J < 4294967296 := by
    omega
  have l2 : ((K : Int) * 2 : Int) = ((2 ^ 1 * K : Nat) : Int) := by
    omega
  have b2 : 2 ^ 1 * K < 4294967296 := by
    omega
  have l3 : ((L : Int) * 1048576 : Int) = ((2 ^ 20 * L : Nat) : Int) := by
    omega
  have b3 : 2 ^ 20 * L < 4294967296 := by
    omega
  rw [l0]
  rw [l1]
  rw [l2]
  rw [l3]
  have a1 := or2 (2 ^ 12 * I) (2 ^ 11 * J) b0 b1
  rw [a1.1]
  have a2 := or2 _ (2 ^ 1 * K) a1.2 b2
  rw [a2.1]
  have a3 := or2 _ (2 ^ 20 * L) a2.2 b3
  rw [a3.1]
  have e : ((((2 ^ 12 * I) ||| (2 ^ 11 * J)) ||| (2 ^ 1 * K)) ||| (2 ^ 20 * L)) = (2 ^ 20 * L ||| (2 ^ 12 * I ||| (2 ^ 11 * J ||| 2 ^ 1 * K))) := by ac_rfl
  rw [e, or_hi 11 J _ (by omega), or_hi 12 I _ (by omega), or_hi 20 L _ (by omega)]
  omega
end Go.Proofs.Ytabjcodpagjbjaa

namespace Go.Proofs.Ytabjcodpagjbjaa
open Go.RowKit
set_option linter.unusedVariables false

def mvi (v f c t : Int) : Int := v / 2 ^ f.toNat % 2 ^ c.toNat * 2 ^ t.toNat % 4294967296
def sxi (v b : Int) : Int := wrap32 (v * 2 ^ (32 - b).toNat % 4294967296) / 2 ^ (32 - b).toNat

theorem mvi_bd (v f c t : Int) : 0 ≤ mvi v f c t ∧ mvi v f c t ≤ 4294967295 := by unfold mvi; omega

theorem ret_int {k : IntKind} {a b : Int} (h : a = b) : Ending.returned (.int k a) = .returned (.int k b) := by rw [h]

theorem move_nat (v : Int) (f c t : Nat) (w : World) (h0 : 0 ≤ v) (h1 : v ≤ 4294967295) (hf : f ≤ 31) (hc : c ≤ 31) (ht : t ≤ 31) :
    Calls Try.prog 111 #[.int .u32 v, .int .u64 f, .int .u64 c, .int .u64 t] w fun e w' => e = .returned (.int .u32 (v / 2 ^ f % 2 ^ c * 2 ^ t % 4294967296)) ∧ w' = w := by
  have E : Hid _ := and_mask v f c h0 h1 hc
  go_enter Try.func111, Try.ntmps111
  go_wp2
  go_ret
  refine ⟨ret_int ?_, rfl⟩
  rw [E.out]
theorem move_any (v f c t : Int) (w : World) (h0 : 0 ≤ v ∧ v ≤ 4294967295) (hf : 0 ≤ f ∧ f ≤ 31) (hc : 0 ≤ c ∧ c ≤ 31) (ht : 0 ≤ t ∧ t ≤ 31) :
    Calls Try.prog 111 #[.int .u32 v, .int .u64 f, .int .u64 c, .int .u64 t] w fun e w' => e = .returned (.int .u32 (mvi v f c t)) ∧ w' = w := by
  obtain ⟨F, rfl⟩ := Int.eq_ofNat_of_zero_le hf.1
  obtain ⟨C, rfl⟩ := Int.eq_ofNat_of_zero_le hc.1
  obtain ⟨T, rfl⟩ := Int.eq_ofNat_of_zero_le ht.1
  exact move_nat v F C T w h0.1 h0.2 (by omega) (by omega) (by omega)

theorem w64_div (x : Int) (n : Nat) (hx : -2147483648 ≤ x ∧ x ≤ 2147483647) : wrap64 (x / 2 ^ n) = x / 2 ^ n := by
  have h := Int.natAbs_ediv_le_natAbs x (2 ^ n)
  unfold wrap64
  omega

theorem sx_nat (v : Int) (b : Nat) (w : World) (h0 : 0 ≤ v) (h1 : v ≤ 4294967295) (hf : b ≤ 31) (hf : 1 ≤ b) :
    Calls Try.prog 115 #[.int .u32 v, .int .u64 b] w fun e w' => e = .returned (.int .i64 (wrap32 (v * 2 ^ (32 - b) % 4294967296) / 2 ^ (32 - b))) ∧ w' = w := by
  go_enter Try.func115, Try.ntmps115
  go_wp2
  go_ret
  exact ⟨ret_int (w64_div _ _ (w32_bd _)), rfl⟩
theorem sx_any (v b : Int) (w : World) (h0 : 0 ≤ v ∧ v ≤ 4294967295) (hb : 1 ≤ b ∧ b ≤ 31) :
    Calls Try.prog 115 #[.int .u32 v, .int .u64 b] w fun e w' => e = .returned (.int .i64 (sxi v b)) ∧ w' = w := by
  obtain ⟨B, rfl⟩ := Int.eq_ofNat_of_zero_le (show 0 ≤ b by omega)
  have e : (32 - (B : Int)).toNat = 32 - B := by omega
  unfold sxi
  rw [e]
  exact sx_nat v B w h0.1 h0.2 (by omega) (by omega)

theorem fb_any (a b c : Int) (w : World) (h0 : 0 ≤ a ∧ a ≤ 127) (h2 : 0 ≤ b ∧ b ≤ 7) (h4 : 0 ≤ c ∧ c ≤ 127) :
    Calls Try.prog 119 #[.int .u32 a, .int .u32 b, .int .u32 c] w fun e w' => e = .returned (.int .u32 (a + b * 4096 + c * 33554432)) ∧ w' = w := by
  have E : Hid _ := orFb a b c h0 h2 h4
  go_enter Try.func119, Try.ntmps119
  go_wp2
  go_ret
  exact ⟨ret_int E.out, rfl⟩
theorem mvi_0_5_7 (v : Int) : mvi v 0 5 7 = v % 32 * 128 := by unfold mvi; simp only [Int.reducePow, Int.reduceToNat]; omega
theorem mvi_0_5_15 (v : Int) : mvi v 0 5 15 = v % 32 * 32768 := by unfold mvi; simp only [Int.reducePow, Int.reduceToNat]; omega
theorem mvi_0_5_20 (v : Int) : mvi v 0 5 20 = v % 32 * 1048576 := by unfold mvi; simp only [Int.reducePow, Int.reduceToNat]; omega
theorem mvi_0_12_20 (v : Int) : mvi v 0 12 20 = v % 4096 * 1048576 := by unfold mvi; simp only [Int.reducePow, Int.reduceToNat]; omega
theorem mvi_0_20_12 (v : Int) : mvi v 0 20 12 = v % 1048576 * 4096 := by unfold mvi; simp only [Int.reducePow, Int.reduceToNat]; omega
theorem mvi_1_4_8 (v : Int) : mvi v 1 4 8 = v / 2 % 16 * 256 := by unfold mvi; simp only [Int.reducePow, Int.reduceToNat]; omega
theorem mvi_1_10_21 (v : Int) : mvi v 1 10 21 = v / 2 % 1024 * 2097152 := by unfold mvi; simp only [Int.reducePow, Int.reduceToNat]; omega
theorem mvi_5_6_25 (v : Int) : mvi v 5 6 25 = v / 32 % 64 * 33554432 := by unfold mvi; simp only [Int.reducePow, Int.reduceToNat]; omega
theorem mvi_5_7_25 (v : Int) : mvi v 5 7 25 = v / 32 % 128 * 33554432 := by unfold mvi; simp only [Int.reducePow, Int.reduceToNat]; omega
theorem mvi_7_1_11 (v : Int) : mvi v 7 1 11 = v / 128 % 2 * 2048 := by unfold mvi; simp only [Int.reducePow, Int.reduceToNat]; omega
theorem mvi_7_5_0 (v : Int) : mvi v 7 5 0 = v / 128 % 32 := by unfold mvi; simp only [Int.reducePow, Int.reduceToNat]; omega
theorem mvi_8_4_1 (v : Int) : mvi v 8 4 1 = v / 256 % 16 * 2 := by unfold mvi; simp only [Int.reducePow, Int.reduceToNat]; omega
theorem mvi_11_1_7 (v : Int) : mvi v 11 1 7 = v / 2048 % 2 * 128 := by unfold mvi; simp only [Int.reducePow, Int.reduceToNat]; omega
theorem mvi_11_1_20 (v : Int) : mvi v 11 1 20 = v / 2048 % 2 * 1048576 := by unfold mvi; simp only [Int.reducePow, Int.reduceToNat]; omega
theorem mvi_12_1_31 (v : Int) : mvi v 12 1 31 = v / 4096 % 2 * 2147483648 := by unfold mvi; simp only [Int.reducePow, Int.reduceToNat]; omega
theorem mvi_12_8_12 (v : Int) : mvi v 12 8 12 = v / 4096 % 256 * 4096 := by unfold mvi; simp only [Int.reducePow, Int.reduceToNat]; omega
theorem mvi_12_20_0 (v : Int) : mvi v 12 20 0 = v / 4096 % 1048576 := by unfold mvi; simp only [Int.reducePow, Int.reduceToNat]; omega
theorem mvi_15_5_0 (v : Int) : mvi v 15 5 0 = v / 32768 % 32 := by unfold mvi; simp only [Int.reducePow, Int.reduceToNat]; omega
theorem mvi_20_1_11 (v : Int) : mvi v 20 1 11 = v / 1048576 % 2 * 2048 := by unfold mvi; simp only [Int.reducePow, Int.reduceToNat]; omega
theorem mvi_20_1_31 (v : Int) : mvi v 20 1 31 = v / 1048576 % 2 * 2147483648 := by unfold mvi; simp only [Int.reducePow, Int.reduceToNat]; omega
theorem mvi_20_5_0 (v : Int) : mvi v 20 5 0 = v / 1048576 % 32 := by unfold mvi; simp only [Int.reducePow, Int.reduceToNat]; omega
theorem mvi_20_12_0 (v : Int) : mvi v 20 12 0 = v / 1048576 % 4096 := by unfold mvi; simp only [Int.reducePow, Int.reduceToNat]; omega
theorem mvi_21_10_1 (v : Int) : mvi v 21 10 1 = v / 2097152 % 1024 * 2 := by unfold mvi; simp only [Int.reducePow, Int.reduceToNat]; omega
theorem mvi_25_6_5 (v : Int) : mvi v 25 6 5 = v / 33554432 % 64 * 32 := by unfold mvi; simp only [Int.reducePow, Int.reduceToNat]; omega
theorem mvi_25_7_5 (v : Int) : mvi v 25 7 5 = v / 33554432 % 128 * 32 := by unfold mvi; simp only [Int.reducePow, Int.reduceToNat]; omega
theorem mvi_31_1_12 (v : Int) : mvi v 31 1 12 = v / 2147483648 % 2 * 4096 := by unfold mvi; simp only [Int.reducePow, Int.reduceToNat]; omega
theorem mvi_31_1_20 (v : Int) : mvi v 31 1 20 = v / 2147483648 % 2 * 1048576 := by unfold mvi; simp only [Int.reducePow, Int.reduceToNat]; omega
theorem sxi_12 (v : Int) (h : 0 ≤ v ∧ v ≤ 4095) : sxi v 12 = if v ≥ 2048 then v - 4096 else v := by
  unfold sxi wrap32
  simp only [Int.reduceSub, Int.reduceToNat, Int.reducePow]
  split <;> omega
theorem sxi_13 (v : Int) (h : 0 ≤ v ∧ v ≤ 8191) : sxi v 13 = if v ≥ 4096 then v - 8192 else v := by
  unfold sxi wrap32
  simp only [Int.reduceSub, Int.reduceToNat, Int.reducePow]
  split <;> omega
theorem sxi_21 (v : Int) (h : 0 ≤ v ∧ v ≤ 2097151) : sxi v 21 = if v ≥ 1048576 then v - 2097152 else v := by
  unfold sxi wrap32
  simp only [Int.reduceSub, Int.reduceToNat, Int.reducePow]
  split <;> omega
end Go.Proofs.Ytabjcodpagjbjaa

namespace Go.Proofs.Ytabjcodpagjbjaa
open Go.RowKit
set_option linter.unusedVariables false


theorem fb0_any (a b : Int) (w : World) (h0 : 0 ≤ a ∧ a ≤ 127) (h2 : 0 ≤ b ∧ b ≤ 7) :
    Calls Try.prog 119 #[.int .u32 a, .int .u32 b, .int .u32 0] w fun e w' => e = .returned (.int .u32 (a + b * 4096)) ∧ w' = w :=
  (fb_any a b 0 w h0 h2 (by omega)).mono fun e w' ⟨he, hw⟩ => ⟨he.trans (ret_int (by omega)), hw⟩
theorem putRd_any (op rd s1 s2 im : Int) (w : World) : Calls Try.prog 112 #[.agg #[.int .i64 op, .int .i64 rd, .int .i64 s1, .int .i64 s2, .int .i64 im]] w fun e w' => e = .returned (.int .u32 (mvi (rd % 4294967296) 0 5 7)) ∧ w' = w.alloc (.cells #[.int .i64 op, .int .i64 rd, .int .i64 s1, .int .i64 s2, .int .i64 im] 64) := by
  go_enter Try.func112, Try.ntmps112
  go_wp2_with (go_at_call 111; refine (move_any _ _ _ _ _ (by omega) (by omega) (by omega) (by omega)).mono ?_; rintro e w' ⟨rfl, rfl⟩)
  go_ret
  exact ⟨rfl, rfl⟩
theorem putRs1_any (op rd s1 s2 im : Int) (w : World) : Calls Try.prog 120 #[.agg #[.int .i64 op, .int .i64 rd, .int .i64 s1, .int .i64 s2, .int .i64 im]] w fun e w' => e = .returned (.int .u32 (mvi (s1 % 4294967296) 0 5 15)) ∧ w' = w.alloc (.cells #[.int .i64 op, .int .i64 rd, .int .i64 s1, .int .i64 s2, .int .i64 im] 64) := by
  go_enter Try.func120, Try.ntmps120
  go_wp2_with (go_at_call 111; refine (move_any _ _ _ _ _ (by omega) (by omega) (by omega) (by omega)).mono ?_; rintro e w' ⟨rfl, rfl⟩)
  go_ret
  exact ⟨rfl, rfl⟩
theorem putRs2_any (op rd s1 s2 im : Int) (w : World) : Calls Try.prog 124 #[.agg #[.int .i64 op, .int .i64 rd, .int .i64 s1, .int .i64 s2, .int .i64 im]] w fun e w' => e = .returned (.int .u32 (mvi (s2 % 4294967296) 0 5 20)) ∧ w' = w.alloc (.cells #[.int .i64 op, .int .i64 rd, .int .i64 s1, .int .i64 s2, .int .i64 im] 64) := by
  go_enter Try.func124, Try.ntmps124
  go_wp2_with (go_at_call 111; refine (move_any _ _ _ _ _ (by omega) (by omega) (by omega) (by omega)).mono ?_; rintro e w' ⟨rfl, rfl⟩)
  go_ret
  exact ⟨rfl, rfl⟩
theorem takeRd_any (v : Int) (w : World) (h : 0 ≤ v ∧ v ≤ 4294967295) : Calls Try.prog 110 #[.int .u32 v] w fun e w' => e = .returned (.int .i64 (mvi v 7 5 0)) ∧ w' = w := by
  have hb := mvi_bd v 7 5 0
  go_enter Try.func110, Try.ntmps110
  go_wp2_with (go_at_call 111; refine (move_any _ _ _ _ _ (by omega) (by omega) (by omega) (by omega)).mono ?_; rintro e w' ⟨rfl, rfl⟩)
  go_ret
  exact ⟨rfl, rfl⟩
theorem takeRs1_any (v : Int) (w : World) (h : 0 ≤ v ∧ v ≤ 4294967295) : Calls Try.prog 118 #[.int .u32 v] w fun e w' => e = .returned (.int .i64 (mvi v 15 5 0)) ∧ w' = w := by
  have hb := mvi_bd v 15 5 0
  go_enter Try.func118, Try.ntmps118
  go_wp2_with (go_at_call 111; refine (move_any _ _ _ _ _ (by omega) (by omega) (by omega) (by omega)).mono ?_; rintro e w' ⟨rfl, rfl⟩)
  go_ret
  exact ⟨rfl, rfl⟩
theorem takeRs2_any (v : Int) (w : World) (h : 0 ≤ v ∧ v ≤ 4294967295) : Calls Try.prog 123 #[.int .u32 v] w fun e w' => e = .returned (.int .i64 (mvi v 20 5 0)) ∧ w' = w := by
  have hb := mvi_bd v 20 5 0
  go_enter Try.func123, Try.ntmps123
  go_wp2_with (go_at_call 111; refine (move_any _ _ _ _ _ (by omega) (by omega) (by omega) (by omega)).mono ?_; rintro e w' ⟨rfl, rfl⟩)
  go_ret
  exact ⟨rfl, rfl⟩

end Go.Proofs.Ytabjcodpagjbjaa
