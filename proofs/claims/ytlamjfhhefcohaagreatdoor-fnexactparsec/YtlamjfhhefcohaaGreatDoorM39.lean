import Derived.Test.YtlamjfhhefcohaaGreatDoorM38
import Derived.Deep.Cut
namespace Go.Proofs.YtlamjfhhefcohaaGreatDoor
set_option linter.unusedVariables false
set_option linter.unusedSimpArgs false
set_option maxRecDepth 100000
set_option maxHeartbeats 16000000
section
open Go.RowKit
theorem bel_g {B : Nat} {W w1 w2 : World} {v : Value} {ms : List Nd} (hb : Below B W w1) (hB : B ≤ w1.heap.size) (hr : NRow B w1 v ms) (hg : w1.grownBy w2 v.ownBlock) : Below B W w2 := hb.grown hg hB (fun j hj => (World.ownsRow.lt hr j hj).1)
def N1 (k x : Int) (s : ByteArray) (p : Nat) (w : World) (v : Value) : Prop := Nodes w (.slice (some ⟨p, 0, none⟩) 1 1) [⟨k, x, s⟩] ∧ v.ownBlock ≠ some p
theorem N1.step {k x : Int} {s : ByteArray} {p : Nat} {w1 w2 : World} {v v' : Value} (h : N1 k x s p w1 v) (hg : w1.grownBy w2 v.ownBlock) (h3 : ∀ k, v'.ownBlock = some k → v.ownBlock = some k ∨ w1.heap.size ≤ k) : N1 k x s p w2 v' := by
 have hp : p < w1.heap.size := by
  obtain ⟨a, c, e, -, -, hh⟩ := h.1
  obtain ⟨b, off, e2, hc⟩ := hh (by simp)
  simp only [Value.slice.injEq] at e
  obtain ⟨rfl, -, -⟩ := e
  simp at e2
  obtain ⟨rfl, rfl⟩ := e2
  exact World.block_lt_of_cell? _ _ (hc 0 (by simp)).1
 refine ⟨h.1.grown hg (fun g hg' e => ?_), fun e => ?_⟩
 ·simp only [Value.ownBlock, Option.some.injEq] at hg'
  subst hg'
  exact h.2 e
 ·rcases h3 p e with h' | h'
  ·exact h.2 h'
  ·omega
theorem N1.new {k x : Int} {s : ByteArray} {w : World} {B : Nat} {v : Value} {ms : List Nd} (h : NRow B w v ms) : N1 k x s w.heap.size (w.alloc (.cells #[.int .i64 k, .int .i64 x, .string s] 48)) v :=
 ⟨(nrow_lit w 0 (Nat.zero_le _) k x s).nodes, fun e => by have := (World.ownsRow.lt h _ e).2; omega⟩
theorem N1.newA {k x : Int} {s : ByteArray} (w : World) : N1 k x s w.heap.size ((w.alloc (.cells #[.int .i64 k, .int .i64 x, .string s] 48)).alloc (.cells #[] 48)) (.slice (some ⟨w.heap.size + 1, 0, none⟩) 0 0) :=
 ⟨(nrow_lit w 0 (Nat.zero_le _) k x s).nodes.below ((Below.refl _ _).alloc (Nat.le_refl _) _), by simp [Value.ownBlock]⟩
theorem n1_all (k x : Int) (s : ByteArray) (W : World) :
  (NRow W.heap.size ((W.drew.alloc (.cells #[] 48)).alloc (.cells #[.int .i64 k, .int .i64 x, .string s] 48)) (.slice (some ⟨W.heap.size, 0, none⟩) 0 0) [] ∧ N1 k x s (W.heap.size + 1) ((W.drew.alloc (.cells #[] 48)).alloc (.cells #[.int .i64 k, .int .i64 x, .string s] 48)) (.slice (some ⟨W.heap.size, 0, none⟩) 0 0)) ∧
  (NRow W.heap.size ((W.drew.alloc (.cells #[.int .i64 k, .int .i64 x, .string s] 48)).alloc (.cells #[] 48)) (.slice (some ⟨W.heap.size + 1, 0, none⟩) 0 0) [] ∧ N1 k x s W.heap.size ((W.drew.alloc (.cells #[.int .i64 k, .int .i64 x, .string s] 48)).alloc (.cells #[] 48)) (.slice (some ⟨W.heap.size + 1, 0, none⟩) 0 0)) := by
 have e : ∀ o, (W.drew.alloc o).heap.size = W.heap.size + 1 := fun o => by simp
 have a1 := (nrow_nil W.drew W.heap.size (Nat.le_refl _))
 have a2 := N1.new (k := k) (x := x) (s := s) a1
 have a3 := nrow_nil (W.drew.alloc (.cells #[.int .i64 k, .int .i64 x, .string s] 48)) W.heap.size (by simp)
 rw [e] at a2 a3
 exact ⟨⟨a1.below ((Below.refl _ _).alloc (Nat.le_refl _) _), a2⟩, a3, N1.newA W.drew⟩
theorem step_appJ {w W0 : World} {ops : Array Oper} {o : Oper} {a : Act} {K : Act → World → Prop} {Q : Exit → Act → World → Prop} {E : Prop} (hgd : o.guard = none) (s x : Operand)
  (ho : o.op = .call { callee := .builtin .append, args := #[s, x], argTypes := #[44, 44] })
  (v : Value) (ms : List Nd) (hs : a.eval s = v) (hown : NRow W0.heap.size w v ms) (hb : Below W0.heap.size W0 w) (u : Value) (ns : List Nd) (hx : a.eval x = u) (hN : Nodes w u ns)
  (hl : ms.length + ns.length ≤ 10000000)
  (h : ∀ v' w', NRow W0.heap.size w' v' (ms ++ ns) → Below W0.heap.size W0 w' → w.grownBy w' v.ownBlock → (∀ k, v'.ownBlock = some k → v.ownBlock = some k ∨ w.heap.size ≤ k) → K (a.put o.dst v') w') :
  if Region.wanted o (yielded ops a.tmps) = true then Oper.wp Tryz.prog o a w K Q else E :=
 step_appN hgd s x ho W0.heap.size v ms hs hown u ns hx hN hl hb.size fun v' w' h1 h2 h3 => h v' w' h1 (bel_g hb hb.size hown h2) h2 h3
set_option maxRecDepth 100000 in
set_option maxHeartbeats 4000000 in
theorem join_any (xs ys : List Nd) (k x : Int) (s : ByteArray) (va vb : Value) (w : World) (hA : Nodes w va xs) (hB : Nodes w vb ys) (hl : xs.length + ys.length ≤ 100000) :
  Calls Tryz.prog 139 #[va, vb, .agg #[.int .i64 k, .int .i64 x, .string s]] w fun e w' => ∃ u, e = .returned u ∧ NRow w.heap.size w' u (xs ++ ys ++ [⟨k, x, s⟩]) ∧ Below w.heap.size w w' := by
 obtain ⟨W, hW⟩ : ∃ W, W = w.alloc (.cells #[.int .i64 k, .int .i64 x, .string s] 48) := ⟨_, rfl⟩
 have HW : Hid (W = w.alloc (.cells #[.int .i64 k, .int .i64 x, .string s] 48)) := hW
 have hBW : Below w.heap.size w W := by rw [hW]; exact (Below.refl _ _).alloc (Nat.le_refl _) _
 have hsW : w.heap.size < W.heap.size := by rw [hW]; simp
 have hA' := hA.below hBW
 have hB' := hB.below hBW
 obtain ⟨aa, ca, rfl, -⟩ := hA
 obtain ⟨ab, cb, rfl, -⟩ := hB
 have HA : Hid (∀ W', Below W.heap.size W W' → Nodes W' (.slice aa xs.length ca) xs) := fun W' h => hA'.below h
 have HB : Hid (∀ W', Below W.heap.size W W' → Nodes W' (.slice ab ys.length cb) ys) := fun W' h => hB'.below h
 have c0 : ∀ W', Below W.heap.size W W' → W'.cell? ⟨w.heap.size, 0, none⟩ = some (.int .i64 k) := fun W' h => (h.cell (p := ⟨w.heap.size, 0, none⟩) hsW).trans (by rw [hW]; simp)
 have c1 : ∀ W', Below W.heap.size W W' → W'.cell? ⟨w.heap.size, 1, none⟩ = some (.int .i64 x) := fun W' h => (h.cell (p := ⟨w.heap.size, 1, none⟩) hsW).trans (by rw [hW]; simp)
 have c2 : ∀ W', Below W.heap.size W W' → W'.cell? ⟨w.heap.size, 2, none⟩ = some (.string s) := fun W' h => (h.cell (p := ⟨w.heap.size, 2, none⟩) hsW).trans (by rw [hW]; simp)
 have HC : Hid (∀ W', Below W.heap.size W W' → W'.cell? ⟨w.heap.size, 0, none⟩ = some (.int .i64 k) ∧ W'.cell? ⟨w.heap.size, 1, none⟩ = some (.int .i64 x) ∧ W'.cell? ⟨w.heap.size, 2, none⟩ = some (.string s)) := fun W' h => ⟨c0 W' h, c1 W' h, c2 W' h⟩
 have bd : Below W.heap.size W W.drew := (Below.refl _ _).drew
 obtain ⟨d0, d1, d2⟩ := HC.out _ (Below.refl _ W)
 have b1 : Below W.heap.size W (W.drew.alloc (.cells #[] 48)) := bd.alloc (Nat.le_refl _) _
 have b2 : Below W.heap.size W ((W.drew.alloc (.cells #[] 48)).alloc (.cells #[.int .i64 k, .int .i64 x, .string s] 48)) := b1.alloc b1.size _
 have b3 : Below W.heap.size W ((W.drew.alloc (.cells #[.int .i64 k, .int .i64 x, .string s] 48)).alloc (.cells #[] 48)) := (bd.alloc (Nat.le_refl _) _).alloc (by simp) _
 have HB1 : Hid (_ ∧ _ ∧ _) := And.intro b1 (And.intro b2 b3)
 have HN1 := n1_all k x s W
 have HN1 : Hid _ := HN1
 clear hW c0 c1 c2 hA' hB' b1 b2 b3 bd
 go_enter Tryz.func139, Tryz.ntmps139
 go_upto_region 1 with fail
 rw [← HW.out]
 go_region_law
  (first
  | (refine step_appJ (W0 := W) rfl (.tmp 7) (.tmp 8) rfl _ [] rfl ?own ?bel _ xs rfl (HA.out _ ?bel2) (by simp; omega) ?_
     case own => (first | exact nrow_nil W.drew W.heap.size (Nat.le_refl _) | exact HN1.out.1.1 | exact HN1.out.2.1)
     case bel => (first | exact HB1.out.1 | exact HB1.out.2.1 | exact HB1.out.2.2)
     case bel2 => (first | exact HB1.out.1 | exact HB1.out.2.1 | exact HB1.out.2.2)
     intro v9 w9 h9 b9 g9 f9
     obtain ⟨e0, e1, e2⟩ := HC.out w9 b9
     have al9 : Below W.heap.size W (w9.alloc (.cells #[.int .i64 k, .int .i64 x, .string s] 48)) := b9.alloc b9.size _
     have h9' : NRow W.heap.size w9 v9 xs := h9
     first
     | (have n13 : N1 k x s W.heap.size w9 v9 := N1.step HN1.out.2.2 g9 f9)
     | (have n13 : N1 k x s (W.heap.size + 1) w9 v9 := N1.step HN1.out.1.2 g9 f9)
     | skip)
  | (refine step_appJ (W0 := W) rfl (.tmp 9) (.tmp 10) rfl _ xs rfl ?own ?bel _ ys rfl (HB.out _ ?bel2) (by omega) ?_
     case own => (first | exact h9' | exact h9'.below ((Below.refl _ _).alloc (Nat.le_refl _) _))
     case bel => (first | exact b9 | exact al9)
     case bel2 => (first | exact b9 | exact al9)
     intro v11 w11 h11 b11 g11 f11
     obtain ⟨i0, i1, i2⟩ := HC.out w11 b11
     have al11 : Below W.heap.size W (w11.alloc (.cells #[.int .i64 k, .int .i64 x, .string s] 48)) := b11.alloc b11.size _
     first
     | (have m13 := N1.step n13 g11 f11)
     | (have m13 := N1.step (N1.new (k := k) (x := x) (s := s) h9') g11 f11)
     | skip)
  | (refine step_appJ (W0 := W) rfl (.tmp 11) (.tmp 13) rfl _ (xs ++ ys) rfl ?own ?bel _ [⟨k, x, s⟩] rfl ?nod (by simp; omega) ?_
     case own => (first | exact h11 | exact NRow.below h11 ((Below.refl _ _).alloc (Nat.le_refl _) _))
     case bel => (first | exact b11 | exact al11)
     case nod => (first | exact m13.1 | exact (N1.new (k := k) (x := x) (s := s) h11).1)
     intro v14 w14 h14 b14 g14 f14
     have HF : Hid (NRow w.heap.size w14 v14 (xs ++ ys ++ [⟨k, x, s⟩]) ∧ Below w.heap.size w w14) := ⟨own_low h14 hBW.size, hBW.trans (b14.mono hBW.size)⟩
     clear h14 b14 g14 f14))
 all_goals (go_wp2_with fail; go_ret; exact ⟨_, rfl, HF.out.1, HF.out.2⟩)
end
section
open Go.RowKit
theorem box5 {S : Nat → Prop} {w w' : World} {x0 x1 x2 x3 x4 : Value} {t : TypeId} (h : Tcs S (w.alloc (.cells #[x0, x1, x2, x3, x4] t)) w') (hS : ∀ k, S k → k < w.heap.size) :
  w'.cell? ⟨w.heap.size, 0, none⟩ = some x0 ∧ w'.cell? ⟨w.heap.size, 1, none⟩ = some x1 ∧ w'.cell? ⟨w.heap.size, 2, none⟩ = some x2 ∧ w'.cell? ⟨w.heap.size, 3, none⟩ = some x3 ∧ w'.cell? ⟨w.heap.size, 4, none⟩ = some x4 := by
 have e : ∀ o, w'.cell? ⟨w.heap.size, o, none⟩ = (w.alloc (.cells #[x0, x1, x2, x3, x4] t)).cell? ⟨w.heap.size, o, none⟩ := fun o => World.cell?_of_block (a := ⟨w.heap.size, o, none⟩) (h.block w.heap.size (by simp) (fun s => by have := hS _ s; omega))
 exact ⟨(e 0).trans (by simp), (e 1).trans (by simp), (e 2).trans (by simp), (e 3).trans (by simp), (e 4).trans (by simp)⟩
theorem lit_fz {S : Nat → Prop} {w : World} (ps : List ByteArray) (cs : Array Value) (n : Nat) (hn : n = ps.length) (hcs : cs.toList = ps.map Value.string) (hm : n ≤ 1000) (hS : ∀ k, S k → k < w.heap.size) : ∀ W, Tcs S (w.alloc (.cells cs 9)) W → Strs W (.slice (some ⟨w.heap.size, 0, none⟩) n n) ps := fun W hW => by
 subst hn
 have h1 : (w.alloc (.cells cs 9)).ownsRow w.heap.size 9 1 (.slice (some ⟨w.heap.size, 0, none⟩) ps.length ps.length) ps.length cs.toList := World.ownsRow_lit w cs ps.length (Nat.le_refl _) (by unfold maxLen; omega) (by rw [← Array.length_toList, hcs]; simp)
 rw [hcs] at h1
 exact own_strs (own_tcs h1 hW hS)
theorem Dr.box {g : Nat} {a : Option Addr} {len cap : Nat} {S : Nat → Prop} {w w' : World} {o : Obj} (h : Dr g a len cap S (w.alloc o) w') : Dr g a len cap S w w' := ⟨h.cur, ((Tcs.refl S w).alloc o).trans h.tcs⟩
set_option maxRecDepth 100000 in
set_option maxHeartbeats 4000000 in
theorem leaf_any (g : Nat) (a : Option Addr) (len cap : Nat) (S : Nat → Prop) (G : Gn) (K : Nat) (w : World) (hl : len ≤ 1048576) (hL : Lo g a len S w.heap.size) (hc : Cur g a len cap w) (hG : GnOk S w G K) (hK : K ≤ 50000) :
  Calls Tryz.prog 140 #[.pointer (some ⟨g, 0, none⟩), .agg #[G.vc, G.vp, G.vs, G.vl, .int .i64 G.m]] w fun e w' => ∃ u ns, e = .returned u ∧ NRow w.heap.size w' u ns ∧ okN ns 1 ∧ Dr g a len cap S w w' := by
 have hS := hL.sg
 obtain ⟨vc, vp, vs, vl, m, cs, ps, ss, ls⟩ := G
 have HG : Hid (GnOk S w ⟨vc, vp, vs, vl, m, cs, ps, ss, ls⟩ K) := hG
 obtain ⟨ac, cc, e1, -⟩ := hG.c w (Tcs.refl _ _)
 obtain ⟨ap, cp, e2, -⟩ := hG.p w (Tcs.refl _ _)
 obtain ⟨av, cv, e3, -⟩ := hG.s w (Tcs.refl _ _)
 obtain ⟨al, cl, e4, -⟩ := hG.l w (Tcs.refl _ _)
 dsimp only at e1 e2 e3 e4
 subst e1 e2 e3 e4
 have hsl : ss.length ≤ K := hG.sl
 dsimp only
 clear hG
 generalize hW0 : w.alloc (.cells #[.slice ac cs.length cc, .slice ap ps.length cp, .slice av ss.length cv, .slice al ls.length cl, .int .i64 m] 130) = W0
 have HW0 : Hid (w.alloc (.cells #[.slice ac cs.length cc, .slice ap ps.length cp, .slice av ss.length cv, .slice al ls.length cl, .int .i64 m] 130) = W0) := hW0
 have HD0 : Hid (Dr g a len cap S w W0) := by rw [← hW0]; exact (Dr.refl hc).alloc _
 have HX : Hid (∀ W, Tcs S W0 W → W.cell? ⟨w.heap.size, 2, none⟩ = some (.slice av ss.length cv)) := fun W hW => by rw [← hW0] at hW; exact (box5 hW hL.s).2.2.1
 have HLo : Hid (Lo g a len S w.heap.size) := hL
 clear hW0 hc hL
 go_enter Tryz.func140, Tryz.ntmps140
 go_upto_region 1 with fail
 rw [HW0.out]
 go_wp2_with fail
 refine (below_any g a len cap S _ _ hl hS HD0.out.cur (by omega)).mono ?_
 rintro e w1 ⟨k, rfl, hk, hd1⟩
 have x2 := HX.out w1 hd1.tcs
 have HD1 : Hid (Dr g a len cap S w w1) := HD0.out.trans hd1
 have hs1 : w.heap.size ≤ w1.heap.size := HD1.out.tcs.size
 clear hd1 HX HW0 HD0
 by_cases h3 : k < 3 ∧ 0 < ss.length
 ·obtain ⟨h3a, h3b⟩ := h3
  have h3c : (0 : Int) < (ss.length : Int) := by omega
  go_wp2_with fail
  refine (pick_any g a len cap S ss _ w1 hl hS HD1.out.cur (HG.out.tcs HD1.out.tcs).s ⟨by omega, by omega⟩).mono ?_
  rintro e w2 ⟨s, hs, rfl, hd2⟩
  have HD2 : Hid (Dr g a len cap S w w2) := HD1.out.trans hd2
  have HN : Hid (s.size ≤ 100000) := HG.out.ns.2.1 s hs
  clear hd2 x2
  go_wp2_with fail
  go_ret
  exact ⟨_, _, rfl, nrow_lit w2 w.heap.size HD2.out.tcs.size _ _ _, okN.one HN.out, HD2.out.alloc _⟩
 ·have h3' : 3 ≤ k ∨ (k < 3 ∧ (ss.length : Int) ≤ 0) := by omega
  by_cases e3 : k = 3
  ·subst e3
   clear h3 h3'
   go_wp2_with fail
   refine (pick_any g a len cap S [⟨#[103]⟩, ⟨#[104]⟩] _ _ hl hS (HD1.out.alloc _).cur (lit_fz _ _ 2 rfl rfl (by decide) (HLo.out.mono hs1).s) (by decide)).mono ?_
   rintro e w2 ⟨s, hs, rfl, hd2⟩
   have HD2 : Hid (Dr g a len cap S w w2) := HD1.out.trans hd2.box
   have HN : Hid (s.size ≤ 100000) := by
    show _ ≤ _
    simp at hs
    rcases hs with rfl | rfl <;> decide
   clear hd2 x2 hs
   go_wp2_with fail
   go_ret
   exact ⟨_, _, rfl, nrow_lit w2 w.heap.size HD2.out.tcs.size _ _ _, okN.one HN.out, HD2.out.alloc _⟩
  ·by_cases e4 : k = 4
   ·subst e4
    clear h3 h3'
    go_wp2_with fail
    go_ret
    exact ⟨_, _, rfl, nrow_lit w1 w.heap.size hs1 _ _ _, okN.one (by decide), HD1.out.alloc _⟩
   ·have HR : Hid (Cur g a len cap w1) := HD1.out.cur
    have fin : ∀ (z : Int) (w2 : World), Dr g a len cap S w w2 → ∃ ns, NRow w.heap.size (w2.alloc (.cells #[.int .i64 1, .int .i64 z, .string ⟨#[]⟩] 48)) (.slice (some ⟨w2.heap.size, 0, none⟩) 1 1) ns ∧ okN ns 1 ∧ Dr g a len cap S w (w2.alloc (.cells #[.int .i64 1, .int .i64 z, .string ⟨#[]⟩] 48)) := fun z w2 h => ⟨_, nrow_lit w2 w.heap.size h.tcs.size _ _ _, okN.one (by decide), h.alloc _⟩
    have HFin : Hid (∀ (z : Int) (w2 : World), Dr g a len cap S w w2 → ∃ ns, NRow w.heap.size (w2.alloc (.cells #[.int .i64 1, .int .i64 z, .string ⟨#[]⟩] 48)) (.slice (some ⟨w2.heap.size, 0, none⟩) 1 1) ns ∧ okN ns 1 ∧ Dr g a len cap S w (w2.alloc (.cells #[.int .i64 1, .int .i64 z, .string ⟨#[]⟩] 48))) := fin
    clear fin h3
    have hgo : ¬ (k < 3 ∧ 0 < (ss.length : Int)) := by omega
    rcases h3' with h3' | ⟨h3', h3''⟩
    all_goals (
     go_wp2_with fail
     refine (below_any g a len cap S _ _ hl hS HR.out (by omega)).mono ?_
     rintro e w2 ⟨z, rfl, hz, hd2⟩
     have HD2 : Hid (Dr g a len cap S w w2) := HD1.out.trans hd2
     clear hd2
     go_wp2_with fail
     refine (once_any g a len cap S _ _ hl hS HD2.out.cur (by omega)).mono ?_
     rintro e w3 ⟨q, rfl, hd3⟩
     have HD3 : Hid (Dr g a len cap S w w3) := HD2.out.trans hd3
     clear hd3
     cases q with
     | false =>
      go_wp2_with fail
      go_ret
      obtain ⟨ns, p1, p2, p3⟩ := HFin.out z w3 HD3.out
      exact ⟨_, ns, rfl, p1, p2, p3⟩
     | true =>
      go_wp2_with fail
      refine (word_draw g a len cap S _ hl hS HD3.out.cur).mono ?_
      rintro e w4 ⟨y, rfl, hd4⟩
      have HD4 : Hid (Dr g a len cap S w w4) := HD3.out.trans hd4
      clear hd4
      go_wp2_with fail
      all_goals go_ret
      all_goals (
       obtain ⟨ns, p1, p2, p3⟩ := HFin.out _ w4 HD4.out
       exact ⟨_, ns, rfl, p1, p2, p3⟩))
end
end Go.Proofs.YtlamjfhhefcohaaGreatDoor
