import Derived.Test.YtlamjfhhefcohaaGreatDoorM40
import Derived.Deep.RegionHeld3
import Derived.Test.YtlamjfhhefcohaaGreatDoorM41
namespace Go.Proofs.YtlamjfhhefcohaaGreatDoor
set_option linter.unusedVariables false
set_option linter.unusedSimpArgs false
set_option maxRecDepth 100000
set_option maxHeartbeats 16000000
section
open Go.RowKit
end
section
open Go.RowKit
theorem OpB.on {T : Nat → To} {n : Nat} {s : PS} (x : List UInt8) (h : OpB (n + 1) s) : OpB n (opS T x s) := by unfold OpB at *; rw [on_op]; push_cast at h; omega
theorem OpB.bd {n : Nat} {s : PS} (h : OpB n s) : -8000000 ≤ s.op ∧ s.op ≤ 8000000 := by unfold OpB at h; omega
theorem pr_inv {T : Nat → To} {n : Nat} {x y : List UInt8} {s : PS} {a : List Nd} {s' : PS} (h : Pa T (n + 1) (.pr x y) s (.n a) s') :
  ((opS T x s).er ≠ 0 ∧ a = [] ∧ s' = clS T y (opS T x s)) ∨ ((opS T x s).er = 0 ∧ ∃ s1, Pa T n (.e 1) (opS T x s) (.n a) s1 ∧ s' = clS T y s1) := by
 cases h using Pa_i with
 | prd n x y s h1 => exact .inl ⟨h1, rfl, rfl⟩
 | pre n x y s a s1 h1 h2 => exact .inr ⟨h1, s1, h2, rfl⟩
def BrC (G : GT) (n : Nat) : Prop := ∀ (w : World) (s : PS) (a : List Nd) (s' : PS), Pa G.T n (.pr [91] [93]) s (.n a) s' → a.length ≤ 1000000 → OpB n s → PSt G w s →
 Calls Tryz.prog 120 #[.pointer (some ⟨G.P, 0, none⟩)] w (NdA G w a s')
set_option maxRecDepth 100000 in
set_option maxHeartbeats 2000000 in
theorem brC_step {G : GT} (hL : Las G.T G.K) {n : Nat} (hE : ExC2 G n) : BrC G (n + 1) := by
 intro w s a s' hP hal hop hS
 have HO := hide (open_any hL hS hop.bd [91])
 have HOp := hide (hop.on (T := G.T) [91])
 have hc := pr_inv hP
 generalize opS G.T [91] s = z at *
 have HL := hide hL
 have HE := hide hE
 have HAl := hide hal
 have HPw := hide hS.lt.1
 have HCl : Hid (∀ W z, PSt G W z → OpB n z → Calls Tryz.prog 56 #[.pointer (some ⟨G.P, 0, none⟩), .string (tx [93])] W fun e w' => e = .returned (.tuple #[]) ∧ PSt G w' (clS G.T [93] z) ∧ Tcs (fun k => k = G.P) W w') := fun W z hW hb => close_any HL.out hW hb.bd [93]
 clear hP hal hop hS hE hL
 rcases hc with ⟨h0, rfl, rfl⟩ | ⟨h0, s1, h2, rfl⟩
 ·go_enter Tryz.func120, Tryz.ntmps120
  go_wp2_with fail
  refine HO.out.mono ?_
  rintro e w1 ⟨rfl, h1, t1⟩
  obtain ⟨W2, hW2⟩ : ∃ W2, W2 = w1.alloc (.cells #[] 48) := ⟨_, rfl⟩
  obtain ⟨B, hB⟩ : ∃ B, B = w1.heap.size := ⟨_, rfl⟩
  have hb2 : Below w1.heap.size w1 W2 := by rw [hW2]; exact (Below.refl _ _).alloc (Nat.le_refl _) _
  have hr2 : NRow w.heap.size W2 (.slice (some ⟨B, 0, none⟩) 0 0) [] := by rw [hW2, hB]; exact nrow_nil w1 _ t1.size
  have h3 := h1.below hb2
  have p3 : W2.cell? ⟨G.P, 3, none⟩ = some (.int .i64 z.er) := (h3.box 3 _ rfl).1
  have HT := hide (t1.of_below hb2)
  have HR := hide hr2
  have HC := hide (HCl.out W2 z h3 HOp.out)
  have HW2 := hide hW2
  have HB := hide hB
  clear h1 t1 hb2 hr2 h3 hW2 hB HO HCl
  go_upto_region 3 with fail
  rw [← HW2.out, ← HB.out]
  go_wp2_with fail
  refine HC.out.mono ?_
  rintro e w4 ⟨rfl, h4, t4⟩
  have HF : Hid (NdA G w [] (clS G.T [93] z) (.returned (.slice (some ⟨B, 0, none⟩) 0 0)) w4) := ⟨_, rfl, own_tcs HR.out t4 (fun k hk => by rw [hk]; exact HPw.out), h4, HT.out.trans t4⟩
  clear h4 t4
  go_wp2_with fail
  go_ret
  exact HF.out
 ·have HEx : Hid (∀ W, PSt G W z → Calls Tryz.prog 119 #[.pointer (some ⟨G.P, 0, none⟩), .int .i64 1] W (NdA G W a s1)) := fun W hW => HE.out W 1 z a s1 h2 HAl.out HOp.out hW
  have HO1 := hide (HOp.out.of h2.op)
  clear h2
  go_enter Tryz.func120, Tryz.ntmps120
  go_wp2_with fail
  refine HO.out.mono ?_
  rintro e w1 ⟨rfl, h1, t1⟩
  obtain ⟨W2, hW2⟩ : ∃ W2, W2 = w1.alloc (.cells #[] 48) := ⟨_, rfl⟩
  have hb2 : Below w1.heap.size w1 W2 := by rw [hW2]; exact (Below.refl _ _).alloc (Nat.le_refl _) _
  have h3 := h1.below hb2
  have p3 : W2.cell? ⟨G.P, 3, none⟩ = some (.int .i64 0) := by rw [← h0]; exact (h3.box 3 _ rfl).1
  have HT := hide (t1.of_below hb2)
  have HX := hide (HEx.out W2 h3)
  have HW2 := hide hW2
  clear h1 t1 hb2 h3 hW2 HO HEx
  go_upto_region 3 with fail
  rw [← HW2.out]
  go_wp2_with fail
  refine HX.out.mono ?_
  rintro e w3 ⟨u, rfl, hr3, h3, t3⟩
  have HC := hide (HCl.out w3 s1 h3 HO1.out)
  have HR := hide (own_low hr3 HT.out.size)
  have HT3 := hide (HT.out.trans t3)
  clear hr3 h3 t3 HX HCl
  go_wp2_with fail
  refine HC.out.mono ?_
  rintro e w4 ⟨rfl, h4, t4⟩
  have HF : Hid (NdA G w a (clS G.T [93] s1) (.returned u) w4) := ⟨_, rfl, own_tcs HR.out t4 (fun k hk => by rw [hk]; exact HPw.out), h4, HT3.out.trans t4⟩
  clear h4 t4
  go_wp2_with fail
  go_ret
  exact HF.out
def CoC (G : GT) (n : Nat) : Prop := ∀ (w : World) (s : PS) (a : List Nd) (s' : PS), Pa G.T n (.pr [40] [41]) s (.n a) s' → a.length ≤ 1000000 → OpB n s → PSt G w s →
 Calls Tryz.prog 118 #[.pointer (some ⟨G.P, 0, none⟩)] w (NdA G w a s')
set_option maxRecDepth 100000 in
set_option maxHeartbeats 2000000 in
theorem coC_step {G : GT} (hL : Las G.T G.K) {n : Nat} (hE : ExC2 G n) : CoC G (n + 1) := by
 intro w s a s' hP hal hop hS
 have HO := hide (open_any hL hS hop.bd [40])
 have HOp := hide (hop.on (T := G.T) [40])
 have hc := pr_inv hP
 generalize opS G.T [40] s = z at *
 have HL := hide hL
 have HE := hide hE
 have HAl := hide hal
 have HPw := hide hS.lt.1
 have HCl : Hid (∀ W z, PSt G W z → OpB n z → Calls Tryz.prog 56 #[.pointer (some ⟨G.P, 0, none⟩), .string (tx [41])] W fun e w' => e = .returned (.tuple #[]) ∧ PSt G w' (clS G.T [41] z) ∧ Tcs (fun k => k = G.P) W w') := fun W z hW hb => close_any HL.out hW hb.bd [41]
 clear hP hal hop hS hE hL
 rcases hc with ⟨h0, rfl, rfl⟩ | ⟨h0, s1, h2, rfl⟩
 ·go_enter Tryz.func118, Tryz.ntmps118
  go_wp2_with fail
  refine HO.out.mono ?_
  rintro e w1 ⟨rfl, h1, t1⟩
  obtain ⟨W2, hW2⟩ : ∃ W2, W2 = w1.alloc (.cells #[] 48) := ⟨_, rfl⟩
  obtain ⟨B, hB⟩ : ∃ B, B = w1.heap.size := ⟨_, rfl⟩
  have hb2 : Below w1.heap.size w1 W2 := by rw [hW2]; exact (Below.refl _ _).alloc (Nat.le_refl _) _
  have hr2 : NRow w.heap.size W2 (.slice (some ⟨B, 0, none⟩) 0 0) [] := by rw [hW2, hB]; exact nrow_nil w1 _ t1.size
  have h3 := h1.below hb2
  have p3 : W2.cell? ⟨G.P, 3, none⟩ = some (.int .i64 z.er) := (h3.box 3 _ rfl).1
  have HT := hide (t1.of_below hb2)
  have HR := hide hr2
  have HC := hide (HCl.out W2 z h3 HOp.out)
  have HW2 := hide hW2
  have HB := hide hB
  clear h1 t1 hb2 hr2 h3 hW2 hB HO HCl
  go_upto_region 3 with fail
  rw [← HW2.out, ← HB.out]
  go_wp2_with fail
  refine HC.out.mono ?_
  rintro e w4 ⟨rfl, h4, t4⟩
  have HF : Hid (NdA G w [] (clS G.T [41] z) (.returned (.slice (some ⟨B, 0, none⟩) 0 0)) w4) := ⟨_, rfl, own_tcs HR.out t4 (fun k hk => by rw [hk]; exact HPw.out), h4, HT.out.trans t4⟩
  clear h4 t4
  go_wp2_with fail
  go_ret
  exact HF.out
 ·have HEx : Hid (∀ W, PSt G W z → Calls Tryz.prog 119 #[.pointer (some ⟨G.P, 0, none⟩), .int .i64 1] W (NdA G W a s1)) := fun W hW => HE.out W 1 z a s1 h2 HAl.out HOp.out hW
  have HO1 := hide (HOp.out.of h2.op)
  clear h2
  go_enter Tryz.func118, Tryz.ntmps118
  go_wp2_with fail
  refine HO.out.mono ?_
  rintro e w1 ⟨rfl, h1, t1⟩
  obtain ⟨W2, hW2⟩ : ∃ W2, W2 = w1.alloc (.cells #[] 48) := ⟨_, rfl⟩
  have hb2 : Below w1.heap.size w1 W2 := by rw [hW2]; exact (Below.refl _ _).alloc (Nat.le_refl _) _
  have h3 := h1.below hb2
  have p3 : W2.cell? ⟨G.P, 3, none⟩ = some (.int .i64 0) := by rw [← h0]; exact (h3.box 3 _ rfl).1
  have HT := hide (t1.of_below hb2)
  have HX := hide (HEx.out W2 h3)
  have HW2 := hide hW2
  clear h1 t1 hb2 h3 hW2 HO HEx
  go_upto_region 3 with fail
  rw [← HW2.out]
  go_wp2_with fail
  refine HX.out.mono ?_
  rintro e w3 ⟨u, rfl, hr3, h3, t3⟩
  have HC := hide (HCl.out w3 s1 h3 HO1.out)
  have HR := hide (own_low hr3 HT.out.size)
  have HT3 := hide (HT.out.trans t3)
  clear hr3 h3 t3 HX HCl
  go_wp2_with fail
  refine HC.out.mono ?_
  rintro e w4 ⟨rfl, h4, t4⟩
  have HF : Hid (NdA G w a (clS G.T [41] s1) (.returned u) w4) := ⟨_, rfl, own_tcs HR.out t4 (fun k hk => by rw [hk]; exact HPw.out), h4, HT3.out.trans t4⟩
  clear h4 t4
  go_wp2_with fail
  go_ret
  exact HF.out
end
section
open Go.RowKit
def S0 (g : Nat) : Nat → Prop := fun k => k = g
structure GB (q : Nat) (w : World) (G : Gn) : Prop where
 c0 : w.cell? ⟨q, 0, none⟩ = some G.vc
 c1 : w.cell? ⟨q, 1, none⟩ = some G.vp
 c2 : w.cell? ⟨q, 2, none⟩ = some G.vs
 c3 : w.cell? ⟨q, 3, none⟩ = some G.vl
 c4 : w.cell? ⟨q, 4, none⟩ = some (.int .i64 G.m)
 fz : ∀ j, w.frozen? ⟨q, j, none⟩ = false
theorem GB.keep {q : Nat} {w w' : World} {G : Gn} (h : GB q w G) (hb : w'.heap[q]? = w.heap[q]?) : GB q w' G :=
 ⟨(World.cell?_of_block (a := ⟨q, 0, none⟩) hb).trans h.c0, (World.cell?_of_block (a := ⟨q, 1, none⟩) hb).trans h.c1, (World.cell?_of_block (a := ⟨q, 2, none⟩) hb).trans h.c2, (World.cell?_of_block (a := ⟨q, 3, none⟩) hb).trans h.c3, (World.cell?_of_block (a := ⟨q, 4, none⟩) hb).trans h.c4, fun o => (World.frozen?_of_block (a := ⟨q, o, none⟩) hb).trans (h.fz o)⟩
theorem GB.lt {q : Nat} {w : World} {G : Gn} (h : GB q w G) : q < w.heap.size := World.block_lt_of_cell? _ _ h.c0
structure GS (g : Nat) (a : Option Addr) (len cap q : Nat) (S : Nat → Prop) (w : World) (G : Gn) (K : Nat) : Prop where
 cur : Cur g a len cap w
 box : GB q w G
 ok : GnOk S w G K
 lo : Lo g a len S w.heap.size
 sq : S q
 ne : q ≠ g
theorem GS.s0 {g : Nat} {a : Option Addr} {len cap q : Nat} {S : Nat → Prop} {w : World} {G : Gn} {K : Nat} (h : GS g a len cap q S w G K) : ∀ k, S0 g k → S k := fun k hk => hk ▸ h.lo.sg
theorem GS.dr {g : Nat} {a : Option Addr} {len cap q : Nat} {S : Nat → Prop} {w w' : World} {G : Gn} {K : Nat} (h : GS g a len cap q S w G K) (hd : Dr g a len cap (S0 g) w w') : GS g a len cap q S w' G K :=
 ⟨hd.cur, h.box.keep (hd.tcs.block q h.box.lt h.ne), h.ok.tcs (hd.tcs.mono h.s0), h.lo.mono hd.tcs.size, h.sq, h.ne⟩
theorem GS.below {g : Nat} {a : Option Addr} {len cap q : Nat} {S : Nat → Prop} {w w' : World} {G : Gn} {K : Nat} (h : GS g a len cap q S w G K) (hb : Below w.heap.size w w') : GS g a len cap q S w' G K := h.dr ⟨h.cur.below hb, hb.tcs⟩
theorem GS.alloc {g : Nat} {a : Option Addr} {len cap q : Nat} {S : Nat → Prop} {w : World} {G : Gn} {K : Nat} (h : GS g a len cap q S w G K) (o : Obj) : GS g a len cap q S (w.alloc o) G K := h.below ((Below.refl _ _).alloc (Nat.le_refl _) o)
def Sv (S : Nat → Prop) (v : Value) : Nat → Prop := fun k => S k ∨ v.ownBlock = some k
theorem GS.add {g : Nat} {a : Option Addr} {len cap q : Nat} {S : Nat → Prop} {w0 w : World} {G : Gn} {K : Nat} {v : Value} (h : GS g a len cap q S w0 G K) (h' : GS g a len cap q S w G K) (ht : Tcs S w0 w) (hv : ∀ k, v.ownBlock = some k → w0.heap.size ≤ k ∧ k < w.heap.size) : GS g a len cap q (Sv S v) w G K := by
 refine ⟨h'.cur, h'.box, ?_, ⟨h'.lo.gl, .inl h'.lo.sg, fun b off x y => ⟨(h'.lo.by8 b off x y).1, fun e => ?_⟩, fun k hk => ?_⟩, .inl h'.sq, h'.ne⟩
 ·have key : ∀ W, Tcs (Sv S v) w W → Tcs S w0 W := fun W hW => ht.next hW fun k hk => by
   rcases hk with hk | hk
   ·exact .inl hk
   ·exact .inr (hv k hk).1
  exact ⟨fun W hW => h.ok.c W (key W hW), fun W hW => h.ok.p W (key W hW), fun W hW => h.ok.s W (key W hW), fun W hW => h.ok.l W (key W hW), h.ok.cp, h.ok.c4, h.ok.pb, h.ok.ns, h.ok.sl, h.ok.ll, h.ok.mb⟩
 ·rcases e with e | e
  ·exact (h'.lo.by8 b off x y).2 e
  ·have := (hv b e).1
   have := (h.lo.by8 b off x y).1
   omega
 ·rcases hk with hk | hk
  ·exact h'.lo.s k hk
  ·exact (hv k hk).2
theorem GS.app {g : Nat} {a : Option Addr} {len cap q : Nat} {S : Nat → Prop} {w w' : World} {G : Gn} {K B : Nat} {v v' : Value} (h : GS g a len cap q (Sv S v) w G K) (hL : Lo g a len S B) (hq : S q) (hv : ∀ k, v.ownBlock = some k → B ≤ k) (ht : Tcs (fun k => v.ownBlock = some k) w w') (hf : ∀ k, v'.ownBlock = some k → v.ownBlock = some k ∨ w.heap.size ≤ k) (hlt : ∀ k, v'.ownBlock = some k → k < w'.heap.size) : GS g a len cap q (Sv S v') w' G K := by
 have key : ∀ W, Tcs (Sv S v') w' W → Tcs (Sv S v) w W := fun W hW => (ht.mono fun k hk => .inr hk).next hW fun k hk => by
  rcases hk with hk | hk
  ·exact .inl (.inl hk)
  ·rcases hf k hk with h1 | h1
   ·exact .inl (.inr h1)
   ·exact .inr h1
 have hqB := hL.s q hq
 refine ⟨h.cur.new hL ht hv, h.box.keep (ht.block q h.box.lt (fun s => by have := hv q s; omega)), ⟨fun W hW => h.ok.c W (key W hW), fun W hW => h.ok.p W (key W hW), fun W hW => h.ok.s W (key W hW), fun W hW => h.ok.l W (key W hW), h.ok.cp, h.ok.c4, h.ok.pb, h.ok.ns, h.ok.sl, h.ok.ll, h.ok.mb⟩, ⟨?_, .inl hL.sg, fun b off x y => ⟨?_, fun e => ?_⟩, fun k hk => ?_⟩, .inl hq, h.ne⟩
 ·have := h.lo.gl; have := ht.size; omega
 ·have := (h.lo.by8 b off x y).1; have := ht.size; omega
 ·rcases e with e | e
  ·exact (h.lo.by8 b off x y).2 (.inl e)
  ·rcases hf b e with h1 | h1
   ·exact (h.lo.by8 b off x y).2 (.inr h1)
   ·have := (h.lo.by8 b off x y).1; omega
 ·rcases hk with hk | hk
  ·have := h.lo.s k (.inl hk); have := ht.size; omega
  ·exact hlt k hk
theorem GS.sub {g : Nat} {a : Option Addr} {len cap q : Nat} {S S' : Nat → Prop} {w : World} {G : Gn} {K : Nat} (h : GS g a len cap q S w G K) (hs : ∀ k, S' k → S k) (hg : S' g) (hq : S' q) : GS g a len cap q S' w G K :=
 ⟨h.cur, h.box, h.ok.less hs, ⟨h.lo.gl, hg, fun b off x y => ⟨(h.lo.by8 b off x y).1, fun e => (h.lo.by8 b off x y).2 (hs b e)⟩, fun k hk => h.lo.s k (hs k hk)⟩, hq, h.ne⟩
theorem GS.drop {g : Nat} {a : Option Addr} {len cap q : Nat} {S : Nat → Prop} {w : World} {G : Gn} {K : Nat} {v : Value} (h : GS g a len cap q (Sv S v) w G K) (hg : S g) (hq : S q) : GS g a len cap q S w G K :=
 ⟨h.cur, h.box, h.ok.less fun k hk => .inl hk, ⟨h.lo.gl, hg, fun b off x y => ⟨(h.lo.by8 b off x y).1, fun e => (h.lo.by8 b off x y).2 (.inl e)⟩, fun k hk => h.lo.s k (.inl hk)⟩, hq, h.ne⟩
theorem GS.more {g : Nat} {a : Option Addr} {len cap q : Nat} {S : Nat → Prop} {w : World} {G : Gn} {K K' : Nat} (h : GS g a len cap q S w G K) (hk : K ≤ K') : GS g a len cap q S w G K' := ⟨h.cur, h.box, h.ok.more hk, h.lo, h.sq, h.ne⟩
theorem GS.set {g : Nat} {a : Option Addr} {len cap q : Nat} {S : Nat → Prop} {w : World} {G G' : Gn} {K K' : Nat} {o : Nat} {v : Value} (h : GS g a len cap q S w G K) (hb : GB q (w.setCell ⟨q, o, none⟩ v) G') (hG : GnOk S w G' K') : GS g a len cap q S (w.setCell ⟨q, o, none⟩ v) G' K' :=
 have ht : Tcs S w (w.setCell ⟨q, o, none⟩ v) := (Tcs.refl _ _).setCell (p := ⟨q, o, none⟩) h.sq v
 have ht2 : Tcs (fun k => k = q) w (w.setCell ⟨q, o, none⟩ v) := (Tcs.refl (fun k => k = q) w).setCell (p := ⟨q, o, none⟩) rfl v
 ⟨h.cur.keep ht2 (fun e => h.ne e.symm) (fun b off x y e => (h.lo.by8 b off x y).2 (e ▸ h.sq)), hb, hG.tcs ht, h.lo.mono ht.size, h.sq, h.ne⟩
end
section
open Go.RowKit
theorem wpList_appM {w : World} {ops : Array Oper} {rest : List Oper} {o : Oper} {a : Act} {Q : Exit → Act → World → Prop} (hgd : o.guard = none) (s x : Operand)
  (ho : o.op = .call { callee := .builtin .append, args := #[s, x], argTypes := #[44, 44] })
  (B : Nat) (v : Value) (ms : List Nd) (hs : a.eval s = v) (hown : NRow B w v ms) (u : Value) (ns : List Nd) (hx : a.eval x = u) (hN : Nodes w u ns)
  (hb : ms.length + ns.length ≤ 10000000) (hbase : B ≤ w.heap.size)
  (h : ∀ v' w', NRow B w' v' (ms ++ ns) → w.grownBy w' v.ownBlock → wpList Tryz.prog ops Q rest (a.put o.dst v') w') : wpList Tryz.prog ops Q (o :: rest) a w := by
 obtain ⟨v', w', r1, r2, r3, r4⟩ := run_appN (w := w) B o.type v ms hown u ns hN hb hbase
 exact wpList_appG hgd s x _ ho v u v' w' hs hx r1 (h v' w' r2 r3)
theorem PSt.gr {G : GT} {W w w' : World} {z : PS} {v : Value} {ms : List Nd} (h : PSt G w z) (hP : G.P < W.heap.size) (hT : G.bT < W.heap.size) (ht : Tcs (fun k => k = G.P) W w) (hr : NRow W.heap.size w v ms) (hg : w.grownBy w' v.ownBlock) :
  PSt G w' z ∧ Tcs (fun k => k = G.P) W w' := by
 have hj : ∀ k, v.ownBlock = some k → W.heap.size ≤ k := fun k hk => (World.ownsRow.lt hr k hk).1
 have t : Tcs (fun k => v.ownBlock = some k) w w' := Tcs.of_grown hg (fun k h => h)
 exact ⟨h.tcs t (fun e => by have := hj _ e; omega) (fun e => by have := hj _ e; omega), ht.next t (fun x hx => .inr (hj x hx))⟩
theorem al_inv {T : Nat → To} {n : Nat} {k : Int} {o : List Nd} {s : PS} {a : List Nd} {k' : Int} {s' : PS} (h : Pa T n (.al k o) s (.a a k') s') :
  (s.er ≠ 0 ∧ a = o ∧ k' = k ∧ s' = s) ∨ (s.er = 0 ∧ ¬ 0 < k ∧ isS T [41] s = true ∧ a = o ∧ k' = k ∧ s' = s) ∨
  (s.er = 0 ∧ (0 < k ∨ isS T [41] s = false) ∧ ∃ m b s1, n = m + 1 ∧ Pa T m (.e 1) s (.n b) s1 ∧
    ((isS T [44] s1 = false ∧ a = o ++ b ∧ k' = k + 1 ∧ s' = s1) ∨ (isS T [44] s1 = true ∧ Pa T m (.al (k + 1) (o ++ b)) s1.ad (.a a k') s'))) := by
 cases h using Pa_i with
 | ald n k o s h1 => exact .inl ⟨h1, rfl, rfl, rfl⟩
 | al0 n k o s h1 h2 h3 => exact .inr (.inl ⟨h1, h2, h3, rfl, rfl, rfl⟩)
 | ale n k o s b s' h1 h2 h3 h4 => exact .inr (.inr ⟨h1, h2, _, b, _, rfl, h3, .inl ⟨h4, rfl, rfl, rfl⟩⟩)
 | alm n k o s b s1 r s' h1 h2 h3 h4 h5 => exact .inr (.inr ⟨h1, h2, _, b, s1, rfl, h3, .inr ⟨h4, h5⟩⟩)
def ArC2 (G : GT) (n : Nat) : Prop := ∀ (w : World) (x : ByteArray) (s : PS) (a : List Nd) (s' : PS), Pa G.T n (.ar x) s (.n a) s' → a.length ≤ 1000000 → OpB n s → PSt G w s →
 Calls Tryz.prog 121 #[.pointer (some ⟨G.P, 0, none⟩), .string x] w (NdA G w a s')
set_option maxRecDepth 100000 in
set_option maxHeartbeats 4000000 in
theorem arC_step {G : GT} (hL : Las G.T G.K) {n : Nat} (hE : ExC2 G n) : ArC2 G (n + 1) := by
 intro w x s r s' hP hal hop hS
 obtain ⟨a, kk, s1, hp, rfl, rfl⟩ : ∃ a kk s1, Pa G.T n (.al 0 []) (opS G.T [40] s) (.a a kk) s1 ∧ r = a ++ [⟨4, kk, x⟩] ∧ s' = clS G.T [41] s1 := by
  cases hP using Pa_i with
  | arg n x s a k s1 h1 => exact ⟨a, k, s1, h1, rfl, rfl⟩
 simp only [List.length_append, List.length_singleton] at hal
 obtain ⟨W1, hW1⟩ : ∃ W1, W1 = w.alloc (.cells #[] 48) := ⟨_, rfl⟩
 have hb1 : Below w.heap.size w W1 := by rw [hW1]; exact (Below.refl _ _).alloc (Nat.le_refl _) _
 have hr1 : NRow w.heap.size W1 (.slice (some ⟨w.heap.size, 0, none⟩) 0 0) [] := by rw [hW1]; exact nrow_nil w _ (Nat.le_refl _)
 have HO := hide (open_any hL (hS.below hb1) hop.bd [40])
 have HOp := hide (hop.on (T := G.T) [40])
 have hn8 : (n : Int) ≤ 8000000 := by unfold OpB at hop; push_cast at hop; omega
 generalize opS G.T [40] s = s0 at *
 have HE := hide hE
 have HL := hide hL
 have HPp := hide hp
 have HPw := hide hS.lt
 have HR1 := hide hr1
 have HB1 := hide hb1
 have HW1 := hide hW1
 have HCl : Hid (∀ W z, PSt G W z → z.op = s0.op → Calls Tryz.prog 56 #[.pointer (some ⟨G.P, 0, none⟩), .string (tx [41])] W fun e w' => e = .returned (.tuple #[]) ∧ PSt G w' (clS G.T [41] z) ∧ Tcs (fun k => k = G.P) W w') := fun W z hW hb => close_any HL.out hW (HOp.out.of hb).bd [41]
 have HKb : Hid (0 ≤ kk → True) := fun _ => trivial
 clear hP hop hS hE hL hp hr1 hb1 hW1
 go_enter Tryz.func121, Tryz.ntmps121
 go_upto_region 3 with fail
 rw [← HW1.out]
 go_wp2_with fail
 refine HO.out.mono ?_
 rintro e w2 ⟨rfl, h2, t2⟩
 have HR2 := hide (own_tcs HR1.out t2 (fun k hk => by rw [hk]; exact HPw.out.1))
 have HT2 := hide ((HB1.out.tcs (S := fun k => k = G.P)).trans t2)
 have H2 := hide h2
 clear h2 t2 HO HR1 HB1 HW1
 go_wp2_with fail
 go_loopg [5, 6] n (fun gk u kv wr => ∃ (o : List Nd) (k : Int) (z : PS), gk ≤ n ∧ 0 ≤ k ∧ k + (gk : Int) ≤ (n : Int) ∧ kv = .int .i64 k ∧ Pa G.T gk (.al k o) z (.a a kk) s1 ∧ z.op = s0.op ∧ NRow w.heap.size wr u o ∧ PSt G wr z ∧ Tcs (fun k => k = G.P) w wr)
 case atStart => exact ⟨[], 0, s0, Nat.le_refl _, by omega, by omega, rfl, HPp.out, rfl, HR2.out, H2.out, HT2.out⟩
 case round =>
  clear HR2 H2 HT2 HPp
  obtain ⟨o, k, z, hgk, hk0, hkn, rfl, hp, hzo, hR, hZ, hT⟩ := hrel
  have hao : o.length ≤ a.length := hp.acc
  have p3 : wr.cell? ⟨G.P, 3, none⟩ = some (.int .i64 z.er) := (hZ.box 3 _ rfl).1
  have HI := hide (is_any hZ [41])
  have HR := hide hR
  have HZ := hide hZ
  have HT := hide hT
  have HZo := hide hzo
  rcases al_inv hp with ⟨h0, rfl, rfl, rfl⟩ | ⟨h0, hk, his, rfl, rfl, rfl⟩ | ⟨h0, hor, m, b, z1, rfl, hpe, hnx⟩
  ·clear hp hR hZ hT hgk HI
   go_wp2_with fail
   have HC := hide (HCl.out _ _ HZ.out HZo.out)
   have HRe := hide HR.out
   have HTe := hide HT.out
   clear HZ
   refine HC.out.mono ?_
   rintro e w8 ⟨rfl, h8, t8⟩
   have HR8 := hide (own_tcs HRe.out t8 (fun k hk => by rw [hk]; exact HPw.out.1))
   have HT8 := hide (HTe.out.trans t8)
   have H8 := hide h8
   have h8b : w.heap.size ≤ w8.heap.size := HT8.out.size
   clear h8 t8 HC
   obtain ⟨W9, hW9⟩ : ∃ W9, W9 = w8.alloc (.cells #[.int .i64 4, .int .i64 (kk), .string x] 48) := ⟨_, rfl⟩
   obtain ⟨B9, hB9⟩ : ∃ B9, B9 = w8.heap.size := ⟨_, rfl⟩
   have hb9 : Below w8.heap.size w8 W9 := by rw [hW9]; exact (Below.refl _ _).alloc (Nat.le_refl _) _
   have HA9 : Hid (NRow w.heap.size W9 _ _) := NRow.below HR8.out hb9
   have HL9 : Hid (Nodes W9 (.slice (some ⟨B9, 0, none⟩) 1 1) [⟨4, kk, x⟩]) := by rw [hW9, hB9]; exact (nrow_lit w8 0 (Nat.zero_le _) _ _ _).nodes
   have H9 := hide (H8.out.below hb9)
   have HT9 := hide (HT8.out.of_below hb9)
   have h9b : w.heap.size ≤ W9.heap.size := HT9.out.size
   have HW9 := hide hW9
   have HB9 := hide hB9
   clear hW9 hB9 hb9 HR8 HT8 H8
   go_wp2_with (at_builtin; rw [← HW9.out, ← HB9.out]; refine wpList_appM rfl _ _ rfl w.heap.size _ _ rfl HA9.out _ _ rfl HL9.out (by simp; omega) h9b ?_; intro u9 w9 h9 g9; have HG9 := hide (PSt.gr H9.out HPw.out.1 HPw.out.2 HT9.out HA9.out g9); have HN9 := hide h9; clear h9 g9)
   go_ret
   exact ⟨_, rfl, HN9.out, HG9.out.1, HG9.out.2⟩
  ·rw [h0] at p3
   clear hp hR hZ hT hgk
   go_wp2_with fail
   refine HI.out.mono ?_
   rintro e wq ⟨rfl, hbq⟩
   rw [his]
   have HRq := hide (HR.out.below hbq)
   have HZq := hide (HZ.out.below hbq)
   have HTq := hide (HT.out.of_below hbq)
   clear hbq
   go_wp2_with fail
   have HC := hide (HCl.out _ _ HZq.out HZo.out)
   have HRe := hide HRq.out
   have HTe := hide HTq.out
   clear HZq
   refine HC.out.mono ?_
   rintro e w8 ⟨rfl, h8, t8⟩
   have HR8 := hide (own_tcs HRe.out t8 (fun k hk => by rw [hk]; exact HPw.out.1))
   have HT8 := hide (HTe.out.trans t8)
   have H8 := hide h8
   have h8b : w.heap.size ≤ w8.heap.size := HT8.out.size
   clear h8 t8 HC
   obtain ⟨W9, hW9⟩ : ∃ W9, W9 = w8.alloc (.cells #[.int .i64 4, .int .i64 (kk), .string x] 48) := ⟨_, rfl⟩
   obtain ⟨B9, hB9⟩ : ∃ B9, B9 = w8.heap.size := ⟨_, rfl⟩
   have hb9 : Below w8.heap.size w8 W9 := by rw [hW9]; exact (Below.refl _ _).alloc (Nat.le_refl _) _
   have HA9 : Hid (NRow w.heap.size W9 _ _) := NRow.below HR8.out hb9
   have HL9 : Hid (Nodes W9 (.slice (some ⟨B9, 0, none⟩) 1 1) [⟨4, kk, x⟩]) := by rw [hW9, hB9]; exact (nrow_lit w8 0 (Nat.zero_le _) _ _ _).nodes
   have H9 := hide (H8.out.below hb9)
   have HT9 := hide (HT8.out.of_below hb9)
   have h9b : w.heap.size ≤ W9.heap.size := HT9.out.size
   have HW9 := hide hW9
   have HB9 := hide hB9
   clear hW9 hB9 hb9 HR8 HT8 H8
   go_wp2_with (at_builtin; rw [← HW9.out, ← HB9.out]; refine wpList_appM rfl _ _ rfl w.heap.size _ _ rfl HA9.out _ _ rfl HL9.out (by simp; omega) h9b ?_; intro u9 w9 h9 g9; have HG9 := hide (PSt.gr H9.out HPw.out.1 HPw.out.2 HT9.out HA9.out g9); have HN9 := hide h9; clear h9 g9)
   go_ret
   exact ⟨_, rfl, HN9.out, HG9.out.1, HG9.out.2⟩
  ·rw [h0] at p3
   have hbl : o.length + b.length ≤ a.length := by
    rcases hnx with ⟨_, rfl, _, _⟩ | ⟨_, h5⟩
    ·simp
    ·have := h5.acc; simp only [PT.acc, PR.sz, List.length_append] at this; exact this
   have hmn : m ≤ n := by omega
   have HEx : Hid (∀ W, PSt G W z → Calls Tryz.prog 119 #[.pointer (some ⟨G.P, 0, none⟩), .int .i64 1] W (NdA G W b z1)) := fun W hW => HE.out W 1 z b z1 (Pa.ups hmn hpe) (by omega) (HOp.out.of HZo.out) hW
   have HZ1 : Hid (z1.op = s0.op) := by show _ = _; rw [hpe.op]; exact hzo
   have HNx := hide hnx
   have hk1 : k + 1 + (m : Int) ≤ (n : Int) := by push_cast at hkn; omega
   clear hp hR hZ hT hgk hpe hnx
   have go : ∀ W, Below wr.heap.size wr W → PSt G W z ∧ NRow w.heap.size W u5 o ∧ Tcs (fun k => k = G.P) w W := fun W hb => ⟨HZ.out.below hb, HR.out.below hb, HT.out.of_below hb⟩
   have HGo := hide go
   clear go
   by_cases hkp : 0 < k
   ·go_wp2_with fail
    have hZw := HGo.out wr (Below.refl _ _)
    refine (HEx.out _ hZw.1).mono ?_
    rintro e w3 ⟨u7', rfl, hr3, h3, t3⟩
    have HR3 := hide (own_tcs hZw.2.1 t3 (fun k hk => by rw [hk]; exact HPw.out.1))
    have HN3 := hide hr3.nodes
    have HT3 := hide (hZw.2.2.trans t3)
    have H3 := hide h3
    have h3b : w.heap.size ≤ w3.heap.size := HT3.out.size
    clear hr3 h3 t3 hZw HEx HI HR HZ HT HGo
    go_wp2_with (at_builtin; refine wpList_appM rfl _ _ rfl w.heap.size _ _ rfl HR3.out _ _ rfl HN3.out (by omega) h3b ?_; intro u9 w4 h9 g9; have hg4 := PSt.gr H3.out HPw.out.1 HPw.out.2 HT3.out HR3.out g9; have HI4 := hide (is_any hg4.1 [44]); have HG4 := hide hg4; have HN4 := hide h9; clear h9 g9 hg4)
    refine HI4.out.mono ?_
    rintro e w5 ⟨rfl, hb5⟩
    have HN5 := hide (NRow.below HN4.out hb5)
    have H5 := hide (HG4.out.1.below hb5)
    have HT5 := hide (HG4.out.2.of_below hb5)
    clear hb5 HI4
    rcases HNx.out with ⟨hcm, rfl, rfl, rfl⟩ | ⟨hcm, hpn⟩
    ·rw [hcm]
     go_wp2_with fail
     have HC := hide (HCl.out _ _ H5.out HZ1.out)
     have HRe := hide HN5.out
     have HTe := hide HT5.out
     clear H5
     refine HC.out.mono ?_
     rintro e w8 ⟨rfl, h8, t8⟩
     have HR8 := hide (own_tcs HRe.out t8 (fun k hk => by rw [hk]; exact HPw.out.1))
     have HT8 := hide (HTe.out.trans t8)
     have H8 := hide h8
     have h8b : w.heap.size ≤ w8.heap.size := HT8.out.size
     clear h8 t8 HC
     obtain ⟨W9, hW9⟩ : ∃ W9, W9 = w8.alloc (.cells #[.int .i64 4, .int .i64 (k + 1), .string x] 48) := ⟨_, rfl⟩
     obtain ⟨B9, hB9⟩ : ∃ B9, B9 = w8.heap.size := ⟨_, rfl⟩
     have hb9 : Below w8.heap.size w8 W9 := by rw [hW9]; exact (Below.refl _ _).alloc (Nat.le_refl _) _
     have HA9 : Hid (NRow w.heap.size W9 _ _) := NRow.below HR8.out hb9
     have HL9 : Hid (Nodes W9 (.slice (some ⟨B9, 0, none⟩) 1 1) [⟨4, k + 1, x⟩]) := by rw [hW9, hB9]; exact (nrow_lit w8 0 (Nat.zero_le _) _ _ _).nodes
     have H9 := hide (H8.out.below hb9)
     have HT9 := hide (HT8.out.of_below hb9)
     have h9b : w.heap.size ≤ W9.heap.size := HT9.out.size
     have HW9 := hide hW9
     have HB9 := hide hB9
     clear hW9 hB9 hb9 HR8 HT8 H8
     go_wp2_with (at_builtin; rw [← HW9.out, ← HB9.out]; refine wpList_appM rfl _ _ rfl w.heap.size _ _ rfl HA9.out _ _ rfl HL9.out (by simp; omega) h9b ?_; intro u9 w9 h9 g9; have HG9 := hide (PSt.gr H9.out HPw.out.1 HPw.out.2 HT9.out HA9.out g9); have HN9 := hide h9; clear h9 g9)
     go_ret
     exact ⟨_, rfl, HN9.out, HG9.out.1, HG9.out.2⟩
    ·rw [hcm]
     have hlt := is_lt HL.out H5.out.wf hcm
     have HPn := hide hpn
     obtain ⟨h6, q1, f1, hi⟩ := H5.out.adv hlt
     have HR6 := hide (own_tcs HN5.out h6.2 (fun k hk => by rw [hk]; exact HPw.out.1))
     have HT6 := hide (HT5.out.trans h6.2)
     have H6 := hide h6.1
     clear h6 hpn
     go_wp2_with fail
     go_roundg m
     case measure => omega
     case rel => exact ⟨o ++ b, _, _, by omega, by omega, hk1, rfl, HPn.out, HZ1.out, HR6.out, H6.out, HT6.out⟩
   ·have his : isS G.T [41] z = false := hor.resolve_left hkp
    go_wp2_with fail
    refine HI.out.mono ?_
    rintro e wq ⟨rfl, hbq⟩
    rw [his]
    have hZw := HGo.out wq hbq
    clear hbq
    go_wp2_with fail
    refine (HEx.out _ hZw.1).mono ?_
    rintro e w3 ⟨u7', rfl, hr3, h3, t3⟩
    have HR3 := hide (own_tcs hZw.2.1 t3 (fun k hk => by rw [hk]; exact HPw.out.1))
    have HN3 := hide hr3.nodes
    have HT3 := hide (hZw.2.2.trans t3)
    have H3 := hide h3
    have h3b : w.heap.size ≤ w3.heap.size := HT3.out.size
    clear hr3 h3 t3 hZw HEx HI HR HZ HT HGo
    go_wp2_with (at_builtin; refine wpList_appM rfl _ _ rfl w.heap.size _ _ rfl HR3.out _ _ rfl HN3.out (by omega) h3b ?_; intro u9 w4 h9 g9; have hg4 := PSt.gr H3.out HPw.out.1 HPw.out.2 HT3.out HR3.out g9; have HI4 := hide (is_any hg4.1 [44]); have HG4 := hide hg4; have HN4 := hide h9; clear h9 g9 hg4)
    refine HI4.out.mono ?_
    rintro e w5 ⟨rfl, hb5⟩
    have HN5 := hide (NRow.below HN4.out hb5)
    have H5 := hide (HG4.out.1.below hb5)
    have HT5 := hide (HG4.out.2.of_below hb5)
    clear hb5 HI4
    rcases HNx.out with ⟨hcm, rfl, rfl, rfl⟩ | ⟨hcm, hpn⟩
    ·rw [hcm]
     go_wp2_with fail
     have HC := hide (HCl.out _ _ H5.out HZ1.out)
     have HRe := hide HN5.out
     have HTe := hide HT5.out
     clear H5
     refine HC.out.mono ?_
     rintro e w8 ⟨rfl, h8, t8⟩
     have HR8 := hide (own_tcs HRe.out t8 (fun k hk => by rw [hk]; exact HPw.out.1))
     have HT8 := hide (HTe.out.trans t8)
     have H8 := hide h8
     have h8b : w.heap.size ≤ w8.heap.size := HT8.out.size
     clear h8 t8 HC
     obtain ⟨W9, hW9⟩ : ∃ W9, W9 = w8.alloc (.cells #[.int .i64 4, .int .i64 (k + 1), .string x] 48) := ⟨_, rfl⟩
     obtain ⟨B9, hB9⟩ : ∃ B9, B9 = w8.heap.size := ⟨_, rfl⟩
     have hb9 : Below w8.heap.size w8 W9 := by rw [hW9]; exact (Below.refl _ _).alloc (Nat.le_refl _) _
     have HA9 : Hid (NRow w.heap.size W9 _ _) := NRow.below HR8.out hb9
     have HL9 : Hid (Nodes W9 (.slice (some ⟨B9, 0, none⟩) 1 1) [⟨4, k + 1, x⟩]) := by rw [hW9, hB9]; exact (nrow_lit w8 0 (Nat.zero_le _) _ _ _).nodes
     have H9 := hide (H8.out.below hb9)
     have HT9 := hide (HT8.out.of_below hb9)
     have h9b : w.heap.size ≤ W9.heap.size := HT9.out.size
     have HW9 := hide hW9
     have HB9 := hide hB9
     clear hW9 hB9 hb9 HR8 HT8 H8
     go_wp2_with (at_builtin; rw [← HW9.out, ← HB9.out]; refine wpList_appM rfl _ _ rfl w.heap.size _ _ rfl HA9.out _ _ rfl HL9.out (by simp; omega) h9b ?_; intro u9 w9 h9 g9; have HG9 := hide (PSt.gr H9.out HPw.out.1 HPw.out.2 HT9.out HA9.out g9); have HN9 := hide h9; clear h9 g9)
     go_ret
     exact ⟨_, rfl, HN9.out, HG9.out.1, HG9.out.2⟩
    ·rw [hcm]
     have hlt := is_lt HL.out H5.out.wf hcm
     have HPn := hide hpn
     obtain ⟨h6, q1, f1, hi⟩ := H5.out.adv hlt
     have HR6 := hide (own_tcs HN5.out h6.2 (fun k hk => by rw [hk]; exact HPw.out.1))
     have HT6 := hide (HT5.out.trans h6.2)
     have H6 := hide h6.1
     clear h6 hpn
     go_wp2_with fail
     go_roundg m
     case measure => omega
     case rel => exact ⟨o ++ b, _, _, by omega, by omega, hk1, rfl, HPn.out, HZ1.out, HR6.out, H6.out, HT6.out⟩
end
end Go.Proofs.YtlamjfhhefcohaaGreatDoor
