import Derived.Test.YtjhmgjimppflhaaGreatDoorY47
import Derived.Deep.Cut
set_option linter.unusedSectionVars false
variable [Inhabited Go.Proofs.YtjhmgjimppflhaaGreatDoor.Pick]
namespace Go.Proofs.YtjhmgjimppflhaaGreatDoor
set_option linter.unusedVariables false
set_option linter.unusedSimpArgs false
set_option maxRecDepth 100000
set_option maxHeartbeats 16000000
section
open Go.RowKit
theorem bel_g {B : Nat} {W w1 w2 : World} {v : Value} {ms : List Nd} (hb : Below B W w1) (hB : B ≤ w1.heap.size) (hr : NRow B w1 v ms) (hg : w1.grownBy w2 v.ownBlock) : Below B W w2 := hb.grown hg hB (fun j hj => (World.ownsRow.lt hr j hj).1)
def N1 (k x : Int) (s : ByteArray) (p : Nat) (w : World) (v : Value) : Prop := Nodes w (.slice (some ⟨p, 0, none⟩) 1 1) [⟨k, x, s⟩] ∧ v.ownBlock ≠ some p
theorem N1.step {k x : Int} {s : ByteArray} {p : Nat} {w1 w2 : World} {v v' : Value} (h : N1 k x s p w1 v) (hg : w1.grownBy w2 v.ownBlock) (h3 : ∀ k, v'.ownBlock = some k → v.ownBlock = some k ∨ w1.heap.size ≤ k) : N1 k x s p w2 v' := by
 have hp : p < w1.heap.size := by
  obtain ⟨a, c, e, -, -, hh⟩ := h.1
  obtain ⟨b, off, e2, hc⟩ := hh (by simp)
  simp only [Value.slice.injEq] at e
  obtain ⟨rfl, -, -⟩ := e
  simp at e2
  obtain ⟨rfl, rfl⟩ := e2
  exact World.block_lt_of_cell? _ _ (hc 0 (by simp)).1
 refine ⟨h.1.grown hg (fun g hg' e => ?_), fun e => ?_⟩
 ·simp only [Value.ownBlock, Option.some.injEq] at hg'
  subst hg'
  exact h.2 e
 ·rcases h3 p e with h' | h'
  ·exact h.2 h'
  ·omega
theorem N1.new {k x : Int} {s : ByteArray} {w : World} {B : Nat} {v : Value} {ms : List Nd} (h : NRow B w v ms) : N1 k x s w.heap.size (w.alloc (.cells #[.int .i64 k, .int .i64 x, .string s] 91)) v :=
 ⟨(nrow_lit w 0 (Nat.zero_le _) k x s).nodes, fun e => by have := (World.ownsRow.lt h _ e).2; omega⟩
theorem N1.newA {k x : Int} {s : ByteArray} (w : World) : N1 k x s w.heap.size ((w.alloc (.cells #[.int .i64 k, .int .i64 x, .string s] 91)).alloc (.cells #[] 91)) (.slice (some ⟨w.heap.size + 1, 0, none⟩) 0 0) :=
 ⟨(nrow_lit w 0 (Nat.zero_le _) k x s).nodes.below ((Below.refl _ _).alloc (Nat.le_refl _) _), by simp [Value.ownBlock]⟩
theorem n1_all (k x : Int) (s : ByteArray) (W : World) :
  (NRow W.heap.size ((W.drew.alloc (.cells #[] 91)).alloc (.cells #[.int .i64 k, .int .i64 x, .string s] 91)) (.slice (some ⟨W.heap.size, 0, none⟩) 0 0) [] ∧ N1 k x s (W.heap.size + 1) ((W.drew.alloc (.cells #[] 91)).alloc (.cells #[.int .i64 k, .int .i64 x, .string s] 91)) (.slice (some ⟨W.heap.size, 0, none⟩) 0 0)) ∧
  (NRow W.heap.size ((W.drew.alloc (.cells #[.int .i64 k, .int .i64 x, .string s] 91)).alloc (.cells #[] 91)) (.slice (some ⟨W.heap.size + 1, 0, none⟩) 0 0) [] ∧ N1 k x s W.heap.size ((W.drew.alloc (.cells #[.int .i64 k, .int .i64 x, .string s] 91)).alloc (.cells #[] 91)) (.slice (some ⟨W.heap.size + 1, 0, none⟩) 0 0)) := by
 have e : ∀ o, (W.drew.alloc o).heap.size = W.heap.size + 1 := fun o => by simp
 have a1 := (nrow_nil W.drew W.heap.size (Nat.le_refl _))
 have a2 := N1.new (k := k) (x := x) (s := s) a1
 have a3 := nrow_nil (W.drew.alloc (.cells #[.int .i64 k, .int .i64 x, .string s] 91)) W.heap.size (by simp)
 rw [e] at a2 a3
 exact ⟨⟨a1.below ((Below.refl _ _).alloc (Nat.le_refl _) _), a2⟩, a3, N1.newA W.drew⟩
theorem step_appJ {w W0 : World} {ops : Array Oper} {o : Oper} {a : Act} {K : Act → World → Prop} {Q : Exit → Act → World → Prop} {E : Prop} (hgd : o.guard = none) (s x : Operand)
  (ho : o.op = .call { callee := .builtin .append, args := #[s, x], argTypes := #[85, 85] })
  (v : Value) (ms : List Nd) (hs : a.eval s = v) (hown : NRow W0.heap.size w v ms) (hb : Below W0.heap.size W0 w) (u : Value) (ns : List Nd) (hx : a.eval x = u) (hN : Nodes w u ns)
  (hl : ms.length + ns.length ≤ 10000000)
  (h : ∀ v' w', NRow W0.heap.size w' v' (ms ++ ns) → Below W0.heap.size W0 w' → w.grownBy w' v.ownBlock → (∀ k, v'.ownBlock = some k → v.ownBlock = some k ∨ w.heap.size ≤ k) → K (a.put o.dst v') w') :
  if Region.wanted o (yielded ops a.tmps) = true then Oper.wp Tryz.prog o a w K Q else E :=
 step_appN hgd s x ho W0.heap.size v ms hs hown u ns hx hN hl hb.size fun v' w' h1 h2 h3 => h v' w' h1 (bel_g hb hb.size hown h2) h2 h3
set_option maxRecDepth 100000 in
set_option maxHeartbeats 4000000 in
theorem join_any (xs ys : List Nd) (k x : Int) (s : ByteArray) (va vb : Value) (w : World) (hA : Nodes w va xs) (hB : Nodes w vb ys) (hl : xs.length + ys.length ≤ 100000) :
  Calls Tryz.prog 69 #[va, vb, .agg #[.int .i64 k, .int .i64 x, .string s]] w fun e w' => ∃ u, e = .returned u ∧ NRow w.heap.size w' u (xs ++ ys ++ [⟨k, x, s⟩]) ∧ Below w.heap.size w w' := by
 obtain ⟨W, hW⟩ : ∃ W, W = w.alloc (.cells #[.int .i64 k, .int .i64 x, .string s] 91) := ⟨_, rfl⟩
 have HW : Hid (W = w.alloc (.cells #[.int .i64 k, .int .i64 x, .string s] 91)) := hW
 have hBW : Below w.heap.size w W := by rw [hW]; exact (Below.refl _ _).alloc (Nat.le_refl _) _
 have hsW : w.heap.size < W.heap.size := by rw [hW]; simp
 have hA' := hA.below hBW
 have hB' := hB.below hBW
 obtain ⟨aa, ca, rfl, -⟩ := hA
 obtain ⟨ab, cb, rfl, -⟩ := hB
 have HA : Hid (∀ W', Below W.heap.size W W' → Nodes W' (.slice aa xs.length ca) xs) := fun W' h => hA'.below h
 have HB : Hid (∀ W', Below W.heap.size W W' → Nodes W' (.slice ab ys.length cb) ys) := fun W' h => hB'.below h
 have c0 : ∀ W', Below W.heap.size W W' → W'.cell? ⟨w.heap.size, 0, none⟩ = some (.int .i64 k) := fun W' h => (h.cell (p := ⟨w.heap.size, 0, none⟩) hsW).trans (by rw [hW]; simp)
 have c1 : ∀ W', Below W.heap.size W W' → W'.cell? ⟨w.heap.size, 1, none⟩ = some (.int .i64 x) := fun W' h => (h.cell (p := ⟨w.heap.size, 1, none⟩) hsW).trans (by rw [hW]; simp)
 have c2 : ∀ W', Below W.heap.size W W' → W'.cell? ⟨w.heap.size, 2, none⟩ = some (.string s) := fun W' h => (h.cell (p := ⟨w.heap.size, 2, none⟩) hsW).trans (by rw [hW]; simp)
 have HC : Hid (∀ W', Below W.heap.size W W' → W'.cell? ⟨w.heap.size, 0, none⟩ = some (.int .i64 k) ∧ W'.cell? ⟨w.heap.size, 1, none⟩ = some (.int .i64 x) ∧ W'.cell? ⟨w.heap.size, 2, none⟩ = some (.string s)) := fun W' h => ⟨c0 W' h, c1 W' h, c2 W' h⟩
 have bd : Below W.heap.size W W.drew := (Below.refl _ _).drew
 obtain ⟨d0, d1, d2⟩ := HC.out _ (Below.refl _ W)
 have b1 : Below W.heap.size W (W.drew.alloc (.cells #[] 91)) := bd.alloc (Nat.le_refl _) _
 have b2 : Below W.heap.size W ((W.drew.alloc (.cells #[] 91)).alloc (.cells #[.int .i64 k, .int .i64 x, .string s] 91)) := b1.alloc b1.size _
 have b3 : Below W.heap.size W ((W.drew.alloc (.cells #[.int .i64 k, .int .i64 x, .string s] 91)).alloc (.cells #[] 91)) := (bd.alloc (Nat.le_refl _) _).alloc (by simp) _
 have HB1 : Hid (_ ∧ _ ∧ _) := And.intro b1 (And.intro b2 b3)
 have HN1 := n1_all k x s W
 have HN1 : Hid _ := HN1
 clear hW c0 c1 c2 hA' hB' b1 b2 b3 bd
 go_enter Tryz.func69, Tryz.ntmps69
 go_upto_region 1 with fail
 rw [← HW.out]
 go_region_law
  (first
  | (refine step_appJ (W0 := W) rfl (.tmp 7) (.tmp 8) rfl _ [] rfl ?own ?bel _ xs rfl (HA.out _ ?bel2) (by simp; omega) ?_
     case own => (first | exact nrow_nil W.drew W.heap.size (Nat.le_refl _) | exact HN1.out.1.1 | exact HN1.out.2.1)
     case bel => (first | exact HB1.out.1 | exact HB1.out.2.1 | exact HB1.out.2.2)
     case bel2 => (first | exact HB1.out.1 | exact HB1.out.2.1 | exact HB1.out.2.2)
     intro v9 w9 h9 b9 g9 f9
     obtain ⟨e0, e1, e2⟩ := HC.out w9 b9
     have al9 : Below W.heap.size W (w9.alloc (.cells #[.int .i64 k, .int .i64 x, .string s] 91)) := b9.alloc b9.size _
     have h9' : NRow W.heap.size w9 v9 xs := h9
     first
     | (have n13 : N1 k x s W.heap.size w9 v9 := N1.step HN1.out.2.2 g9 f9)
     | (have n13 : N1 k x s (W.heap.size + 1) w9 v9 := N1.step HN1.out.1.2 g9 f9)
     | skip)
  | (refine step_appJ (W0 := W) rfl (.tmp 9) (.tmp 10) rfl _ xs rfl ?own ?bel _ ys rfl (HB.out _ ?bel2) (by omega) ?_
     case own => (first | exact h9' | exact h9'.below ((Below.refl _ _).alloc (Nat.le_refl _) _))
     case bel => (first | exact b9 | exact al9)
     case bel2 => (first | exact b9 | exact al9)
     intro v11 w11 h11 b11 g11 f11
     obtain ⟨i0, i1, i2⟩ := HC.out w11 b11
     have al11 : Below W.heap.size W (w11.alloc (.cells #[.int .i64 k, .int .i64 x, .string s] 91)) := b11.alloc b11.size _
     first
     | (have m13 := N1.step n13 g11 f11)
     | (have m13 := N1.step (N1.new (k := k) (x := x) (s := s) h9') g11 f11)
     | skip)
  | (refine step_appJ (W0 := W) rfl (.tmp 11) (.tmp 13) rfl _ (xs ++ ys) rfl ?own ?bel _ [⟨k, x, s⟩] rfl ?nod (by simp; omega) ?_
     case own => (first | exact h11 | exact NRow.below h11 ((Below.refl _ _).alloc (Nat.le_refl _) _))
     case bel => (first | exact b11 | exact al11)
     case nod => (first | exact m13.1 | exact (N1.new (k := k) (x := x) (s := s) h11).1)
     intro v14 w14 h14 b14 g14 f14
     have HF : Hid (NRow w.heap.size w14 v14 (xs ++ ys ++ [⟨k, x, s⟩]) ∧ Below w.heap.size w w14) := ⟨own_low h14 hBW.size, hBW.trans (b14.mono hBW.size)⟩
     clear h14 b14 g14 f14))
 all_goals (go_wp2_with fail; go_ret; exact ⟨_, rfl, HF.out.1, HF.out.2⟩)
end
section
open Go.RowKit
theorem box5 {S : Nat → Prop} {w w' : World} {x0 x1 x2 x3 x4 : Value} {t : TypeId} (h : Tcs S (w.alloc (.cells #[x0, x1, x2, x3, x4] t)) w') (hS : ∀ k, S k → k < w.heap.size) :
  w'.cell? ⟨w.heap.size, 0, none⟩ = some x0 ∧ w'.cell? ⟨w.heap.size, 1, none⟩ = some x1 ∧ w'.cell? ⟨w.heap.size, 2, none⟩ = some x2 ∧ w'.cell? ⟨w.heap.size, 3, none⟩ = some x3 ∧ w'.cell? ⟨w.heap.size, 4, none⟩ = some x4 := by
 have e : ∀ o, w'.cell? ⟨w.heap.size, o, none⟩ = (w.alloc (.cells #[x0, x1, x2, x3, x4] t)).cell? ⟨w.heap.size, o, none⟩ := fun o => World.cell?_of_block (a := ⟨w.heap.size, o, none⟩) (h.block w.heap.size (by simp) (fun s => by have := hS _ s; omega))
 exact ⟨(e 0).trans (by simp), (e 1).trans (by simp), (e 2).trans (by simp), (e 3).trans (by simp), (e 4).trans (by simp)⟩
theorem lit_fz {S : Nat → Prop} {w : World} (ps : List ByteArray) (cs : Array Value) (n : Nat) (hn : n = ps.length) (hcs : cs.toList = ps.map Value.string) (hm : n ≤ 1000) (hS : ∀ k, S k → k < w.heap.size) : ∀ W, Tcs S (w.alloc (.cells cs 9)) W → Strs W (.slice (some ⟨w.heap.size, 0, none⟩) n n) ps := fun W hW => by
 subst hn
 have h1 : (w.alloc (.cells cs 9)).ownsRow w.heap.size 9 1 (.slice (some ⟨w.heap.size, 0, none⟩) ps.length ps.length) ps.length cs.toList := World.ownsRow_lit w cs ps.length (Nat.le_refl _) (by unfold maxLen; omega) (by rw [← Array.length_toList, hcs]; simp)
 rw [hcs] at h1
 exact own_strs (own_tcs h1 hW hS)
theorem Dr.box {g : Nat} {a : Option Addr} {len cap : Nat} {S : Nat → Prop} {w w' : World} {o : Obj} (h : Dr g a len cap S (w.alloc o) w') : Dr g a len cap S w w' := ⟨h.cur, ((Tcs.refl S w).alloc o).trans h.tcs⟩
set_option maxRecDepth 100000 in
set_option maxHeartbeats 4000000 in
theorem leaf_any (g : Nat) (a : Option Addr) (len cap : Nat) (S : Nat → Prop) (G : Gn) (K : Nat) (w : World) (hl : len ≤ 1048576) (hL : Lo g a len S w.heap.size) (hc : Cur g a len cap w) (hG : GnOk S w G K) (hK : K ≤ 50000) :
  Calls Tryz.prog 78 #[.pointer (some ⟨g, 0, none⟩), .agg #[G.vc, G.vp, G.vs, G.vl, .int .i64 G.m]] w fun e w' => ∃ u ns, e = .returned u ∧ NRow w.heap.size w' u ns ∧ okN ns 1 ∧ Dr g a len cap S w w' := by
 have hS := hL.sg
 obtain ⟨vc, vp, vs, vl, m, cs, ps, ss, ls⟩ := G
 have HG : Hid (GnOk S w ⟨vc, vp, vs, vl, m, cs, ps, ss, ls⟩ K) := hG
 obtain ⟨ac, cc, e1, -⟩ := hG.c w (Tcs.refl _ _)
 obtain ⟨ap, cp, e2, -⟩ := hG.p w (Tcs.refl _ _)
 obtain ⟨av, cv, e3, -⟩ := hG.s w (Tcs.refl _ _)
 obtain ⟨al, cl, e4, -⟩ := hG.l w (Tcs.refl _ _)
 dsimp only at e1 e2 e3 e4
 subst e1 e2 e3 e4
 have hsl : ss.length ≤ K := hG.sl
 dsimp only
 clear hG
 generalize hW0 : w.alloc (.cells #[.slice ac cs.length cc, .slice ap ps.length cp, .slice av ss.length cv, .slice al ls.length cl, .int .i64 m] 80) = W0
 have HW0 : Hid (w.alloc (.cells #[.slice ac cs.length cc, .slice ap ps.length cp, .slice av ss.length cv, .slice al ls.length cl, .int .i64 m] 80) = W0) := hW0
 have HD0 : Hid (Dr g a len cap S w W0) := by rw [← hW0]; exact (Dr.refl hc).alloc _
 have HX : Hid (∀ W, Tcs S W0 W → W.cell? ⟨w.heap.size, 2, none⟩ = some (.slice av ss.length cv)) := fun W hW => by rw [← hW0] at hW; exact (box5 hW hL.s).2.2.1
 have HLo : Hid (Lo g a len S w.heap.size) := hL
 clear hW0 hc hL
 go_enter Tryz.func78, Tryz.ntmps78
 go_upto_region 1 with fail
 rw [HW0.out]
 go_wp2_with fail
 refine (below_any g a len cap S _ _ hl hS HD0.out.cur (by omega)).mono ?_
 rintro e w1 ⟨k, rfl, hk, hd1⟩
 have x2 := HX.out w1 hd1.tcs
 have HD1 : Hid (Dr g a len cap S w w1) := HD0.out.trans hd1
 have hs1 : w.heap.size ≤ w1.heap.size := HD1.out.tcs.size
 clear hd1 HX HW0 HD0
 by_cases h3 : k < 3 ∧ 0 < ss.length
 ·obtain ⟨h3a, h3b⟩ := h3
  have h3c : (0 : Int) < (ss.length : Int) := by omega
  go_wp2_with fail
  refine (pick_any g a len cap S ss _ w1 hl hS HD1.out.cur (HG.out.tcs HD1.out.tcs).s ⟨by omega, by omega⟩).mono ?_
  rintro e w2 ⟨s, hs, rfl, hd2⟩
  have HD2 : Hid (Dr g a len cap S w w2) := HD1.out.trans hd2
  have HN : Hid (s.size ≤ 100000) := HG.out.ns.2.1 s hs
  clear hd2 x2
  go_wp2_with fail
  go_ret
  exact ⟨_, _, rfl, nrow_lit w2 w.heap.size HD2.out.tcs.size _ _ _, okN.one HN.out, HD2.out.alloc _⟩
 ·have h3' : 3 ≤ k ∨ (k < 3 ∧ (ss.length : Int) ≤ 0) := by omega
  by_cases e3 : k = 3
  ·subst e3
   clear h3 h3'
   go_wp2_with fail
   refine (pick_any g a len cap S [⟨#[103]⟩, ⟨#[104]⟩] _ _ hl hS (HD1.out.alloc _).cur (lit_fz _ _ 2 rfl rfl (by decide) (HLo.out.mono hs1).s) (by decide)).mono ?_
   rintro e w2 ⟨s, hs, rfl, hd2⟩
   have HD2 : Hid (Dr g a len cap S w w2) := HD1.out.trans hd2.box
   have HN : Hid (s.size ≤ 100000) := by
    show _ ≤ _
    simp at hs
    rcases hs with rfl | rfl <;> decide
   clear hd2 x2 hs
   go_wp2_with fail
   go_ret
   exact ⟨_, _, rfl, nrow_lit w2 w.heap.size HD2.out.tcs.size _ _ _, okN.one HN.out, HD2.out.alloc _⟩
  ·by_cases e4 : k = 4
   ·subst e4
    clear h3 h3'
    go_wp2_with fail
    go_ret
    exact ⟨_, _, rfl, nrow_lit w1 w.heap.size hs1 _ _ _, okN.one (by decide), HD1.out.alloc _⟩
   ·have HR : Hid (Cur g a len cap w1) := HD1.out.cur
    have fin : ∀ (z : Int) (w2 : World), Dr g a len cap S w w2 → ∃ ns, NRow w.heap.size (w2.alloc (.cells #[.int .i64 1, .int .i64 z, .string ⟨#[]⟩] 91)) (.slice (some ⟨w2.heap.size, 0, none⟩) 1 1) ns ∧ okN ns 1 ∧ Dr g a len cap S w (w2.alloc (.cells #[.int .i64 1, .int .i64 z, .string ⟨#[]⟩] 91)) := fun z w2 h => ⟨_, nrow_lit w2 w.heap.size h.tcs.size _ _ _, okN.one (by decide), h.alloc _⟩
    have HFin : Hid (∀ (z : Int) (w2 : World), Dr g a len cap S w w2 → ∃ ns, NRow w.heap.size (w2.alloc (.cells #[.int .i64 1, .int .i64 z, .string ⟨#[]⟩] 91)) (.slice (some ⟨w2.heap.size, 0, none⟩) 1 1) ns ∧ okN ns 1 ∧ Dr g a len cap S w (w2.alloc (.cells #[.int .i64 1, .int .i64 z, .string ⟨#[]⟩] 91))) := fin
    clear fin h3
    have hgo : ¬ (k < 3 ∧ 0 < (ss.length : Int)) := by omega
    rcases h3' with h3' | ⟨h3', h3''⟩
    all_goals (
     go_wp2_with fail
     refine (below_any g a len cap S _ _ hl hS HR.out (by omega)).mono ?_
     rintro e w2 ⟨z, rfl, hz, hd2⟩
     have HD2 : Hid (Dr g a len cap S w w2) := HD1.out.trans hd2
     clear hd2
     go_wp2_with fail
     refine (once_any g a len cap S _ _ hl hS HD2.out.cur (by omega)).mono ?_
     rintro e w3 ⟨q, rfl, hd3⟩
     have HD3 : Hid (Dr g a len cap S w w3) := HD2.out.trans hd3
     clear hd3
     cases q with
     | false =>
      go_wp2_with fail
      go_ret
      obtain ⟨ns, p1, p2, p3⟩ := HFin.out z w3 HD3.out
      exact ⟨_, ns, rfl, p1, p2, p3⟩
     | true =>
      go_wp2_with fail
      refine (word_draw g a len cap S _ hl hS HD3.out.cur).mono ?_
      rintro e w4 ⟨y, rfl, hd4⟩
      have HD4 : Hid (Dr g a len cap S w w4) := HD3.out.trans hd4
      clear hd4
      go_wp2_with fail
      all_goals go_ret
      all_goals (
       obtain ⟨ns, p1, p2, p3⟩ := HFin.out _ w4 HD4.out
       exact ⟨_, ns, rfl, p1, p2, p3⟩))
end
section
open Go.RowKit
theorem Dr.app {g : Nat} {a : Option Addr} {len cap : Nat} {S : Nat → Prop} {w w1 w2 : World} {B : Nat} {v : Value} {ms : List Nd} (h : Dr g a len cap S w w1) (hL : Lo g a len S w.heap.size) (hr : NRow B w1 v ms) (hB : w.heap.size ≤ B) (hg : w1.grownBy w2 v.ownBlock) : Dr g a len cap S w w2 :=
 h.new hL (Tcs.of_grown (S := fun k => v.ownBlock = some k) hg (fun k hk => hk)) (fun k hk => Nat.le_trans hB (World.ownsRow.lt hr k hk).1)
theorem ints_at {w : World} {v : Value} {ps : List Int} (h : Ints w v ps) (i : Nat) (hi : i < ps.length) : ∃ b c, v = .slice (some ⟨b, 0, none⟩) ps.length c ∧ w.cell? ⟨b, i, none⟩ = some (.int .i64 ps[i]) := by
 obtain ⟨a, c, rfl, h⟩ := h
 obtain ⟨b, rfl, hc⟩ := h (by omega)
 exact ⟨b, c, rfl, hc i hi⟩
theorem xpt_le {d : Nat} (h : d ≤ 5) : 1 ≤ xpt d ∧ xpt d ≤ 12441 := by
 have : d = 0 ∨ d = 1 ∨ d = 2 ∨ d = 3 ∨ d = 4 ∨ d = 5 := by omega
 rcases this with rfl | rfl | rfl | rfl | rfl | rfl <;> decide
def ExC (g : Nat) (a : Option Addr) (len cap : Nat) (S : Nat → Prop) (d : Nat) : Prop := ∀ (z : Int) (G : Gn) (K : Nat) (w : World), z = d → Lo g a len S w.heap.size → Cur g a len cap w → GnOk S w G K → K ≤ 50000 →
  Calls Tryz.prog 77 #[.pointer (some ⟨g, 0, none⟩), .agg #[G.vc, G.vp, G.vs, G.vl, .int .i64 G.m], .int .i64 z] w fun e w' => ∃ u ns, e = .returned u ∧ NRow w.heap.size w' u ns ∧ okN ns (xpt d) ∧ Dr g a len cap S w w'
set_option maxRecDepth 100000 in
set_option maxHeartbeats 8000000 in
theorem expr_any (g : Nat) (a : Option Addr) (len cap : Nat) (S : Nat → Prop) (hl : len ≤ 1048576) (d : Nat) (hd : d ≤ 5) : ExC g a len cap S d := by
 induction d with
 | zero =>
  intro z G K w hz hL hc hG hK
  have hS := hL.sg
  obtain ⟨vc, vp, vs, vl, m, cs, ps, ss, ls⟩ := G
  have HG : Hid (GnOk S w ⟨vc, vp, vs, vl, m, cs, ps, ss, ls⟩ K) := hG
  obtain ⟨ac, cc, e1, -⟩ := hG.c w (Tcs.refl _ _)
  obtain ⟨ap, cp, e2, -⟩ := hG.p w (Tcs.refl _ _)
  obtain ⟨av, cv, e3, -⟩ := hG.s w (Tcs.refl _ _)
  obtain ⟨al, cl, e4, -⟩ := hG.l w (Tcs.refl _ _)
  dsimp only at e1 e2 e3 e4
  subst e1 e2 e3 e4
  obtain rfl : z = 0 := by simpa using hz
  dsimp only
  clear hG hz
  generalize hW0 : w.alloc (.cells #[.slice ac cs.length cc, .slice ap ps.length cp, .slice av ss.length cv, .slice al ls.length cl, .int .i64 m] 80) = W0
  have HW0 : Hid (w.alloc (.cells #[.slice ac cs.length cc, .slice ap ps.length cp, .slice av ss.length cv, .slice al ls.length cl, .int .i64 m] 80) = W0) := hW0
  have HD0 : Hid (Dr g a len cap S w W0) := by rw [← hW0]; exact (Dr.refl hc).alloc _
  have HX : Hid (∀ W, Tcs S W0 W → _) := fun W hW => by rw [← hW0] at hW; exact (box5 hW hL.s)
  have HLo : Hid (Lo g a len S w.heap.size) := hL
  clear hW0 hc hL
  go_enter Tryz.func77, Tryz.ntmps77
  go_upto_region 1 with fail
  rw [HW0.out]
  go_wp2_with fail
  refine (below_any g a len cap S _ _ hl hS HD0.out.cur (by omega)).mono ?_
  rintro e w1 ⟨k, rfl, hk, hd1⟩
  obtain ⟨x0, x1, x2, x3, x4⟩ := HX.out w1 hd1.tcs
  have HD1 : Hid (Dr g a len cap S w w1) := HD0.out.trans hd1
  have hs1 : w.heap.size ≤ w1.heap.size := HD1.out.tcs.size
  clear hd1 HX HW0 HD0
  go_wp2_with fail
  refine (leaf_any g a len cap S ⟨.slice ac cs.length cc, .slice ap ps.length cp, .slice av ss.length cv, .slice al ls.length cl, m, cs, ps, ss, ls⟩ K w1 hl (HLo.out.mono hs1) HD1.out.cur (HG.out.tcs HD1.out.tcs) hK).mono ?_
  rintro e w2 ⟨u, ns, rfl, hr, hn, hd2⟩
  have HF : Hid (NRow w.heap.size w2 u ns ∧ okN ns 1 ∧ Dr g a len cap S w w2) := ⟨own_low hr hs1, hn, HD1.out.trans hd2⟩
  clear hr hn hd2 x0 x1 x2 x3 x4
  go_wp2_with fail
  go_ret
  exact ⟨_, _, rfl, HF.out.1, HF.out.2.1, HF.out.2.2⟩
 | succ d ih =>
  intro z G K w hz hL hc hG hK
  have hxb := xpt_le (d := d) (by omega)
  have HI : Hid (ExC g a len cap S d) := ih (by omega)
  clear ih
  have hS := hL.sg
  obtain ⟨vc, vp, vs, vl, m, cs, ps, ss, ls⟩ := G
  have HG : Hid (GnOk S w ⟨vc, vp, vs, vl, m, cs, ps, ss, ls⟩ K) := hG
  obtain ⟨ac, cc, e1, -⟩ := hG.c w (Tcs.refl _ _)
  obtain ⟨ap, cp, e2, -⟩ := hG.p w (Tcs.refl _ _)
  obtain ⟨av, cv, e3, -⟩ := hG.s w (Tcs.refl _ _)
  obtain ⟨al, cl, e4, -⟩ := hG.l w (Tcs.refl _ _)
  dsimp only at e1 e2 e3 e4
  subst e1 e2 e3 e4
  have hz1 : 1 ≤ z ∧ z ≤ 6 := by omega
  have hz2 : z - 1 = d := by omega
  have hz0 : (z == 0) = false := by simp; omega
  have HZ : Hid (z - 1 = d) := hz2
  have HXd : Hid (xpt (d + 1) = 6 * xpt d + 3) := rfl
  dsimp only
  clear hG hz hz2
  generalize hW0 : w.alloc (.cells #[.slice ac cs.length cc, .slice ap ps.length cp, .slice av ss.length cv, .slice al ls.length cl, .int .i64 m] 80) = W0
  have HW0 : Hid (w.alloc (.cells #[.slice ac cs.length cc, .slice ap ps.length cp, .slice av ss.length cv, .slice al ls.length cl, .int .i64 m] 80) = W0) := hW0
  have HD0 : Hid (Dr g a len cap S w W0) := by rw [← hW0]; exact (Dr.refl hc).alloc _
  have HX : Hid (∀ W, Tcs S W0 W → _) := fun W hW => by rw [← hW0] at hW; exact (box5 hW hL.s)
  have HLo : Hid (Lo g a len S w.heap.size) := hL
  have HGn : Hid (∀ W, Tcs S w W → GnOk S W ⟨.slice ac cs.length cc, .slice ap ps.length cp, .slice av ss.length cv, .slice al ls.length cl, m, cs, ps, ss, ls⟩ K) := fun W h => HG.out.tcs h
  clear hW0 hc hL
  go_enter Tryz.func77, Tryz.ntmps77
  go_upto_region 1 with fail
  rw [HW0.out]
  go_wp2_with fail
  refine (below_any g a len cap S _ _ hl hS HD0.out.cur (by omega)).mono ?_
  rintro e w1 ⟨k, rfl, hk, hd1⟩
  obtain ⟨x0, x1, x2, x3, x4⟩ := HX.out w1 hd1.tcs
  have HD1 : Hid (Dr g a len cap S w w1) := HD0.out.trans hd1
  have HT1 : Hid (Tcs S W0 w1) := hd1.tcs
  have hs1 : w.heap.size ≤ w1.heap.size := HD1.out.tcs.size
  have HD0' : Hid (Dr g a len cap S w W0) := HD0.out
  clear hd1 HW0 HD0
  by_cases k3 : k < 3
  ·clear HX
   go_wp2_with fail
   refine (leaf_any g a len cap S ⟨.slice ac cs.length cc, .slice ap ps.length cp, .slice av ss.length cv, .slice al ls.length cl, m, cs, ps, ss, ls⟩ K w1 hl (HLo.out.mono hs1) HD1.out.cur (HG.out.tcs HD1.out.tcs) hK).mono ?_
   rintro e w2 ⟨u, ns, rfl, hr, hn, hd2⟩
   have HF : Hid (NRow w.heap.size w2 u ns ∧ okN ns (xpt (d + 1)) ∧ Dr g a len cap S w w2) := ⟨own_low hr hs1, hn.more (by rw [HXd.out]; omega), HD1.out.trans hd2⟩
   clear hr hn hd2 x0 x1 x2 x3 x4
   go_wp2_with fail
   go_ret
   exact ⟨_, _, rfl, HF.out.1, HF.out.2.1, HF.out.2.2⟩
  ·by_cases k5 : k < 5
   ·clear HX
    go_wp2_with fail
    refine (HI.out _ ⟨.slice ac cs.length cc, .slice ap ps.length cp, .slice av ss.length cv, .slice al ls.length cl, m, cs, ps, ss, ls⟩ K w1 HZ.out (HLo.out.mono hs1) HD1.out.cur (HGn.out _ HD1.out.tcs) hK).mono ?_
    rintro e w2 ⟨u2, e2, rfl, hr2, hn2, hd2⟩
    have HD2 : Hid (Dr g a len cap S w w2) := HD1.out.trans hd2
    have HN2 : Hid (∀ W, Tcs S w2 W → Nodes W u2 e2) := nrow_fz hr2 (HLo.out.mono hs1).s
    have HO2 : Hid (okN e2 (xpt d)) := hn2
    have hl2 : e2.length ≤ xpt d := hn2.1
    clear hr2 hn2 hd2 x0 x1 x2 x3 x4
    go_wp2_with fail
    refine (once_any g a len cap S _ _ hl hS HD2.out.cur (by omega)).mono ?_
    rintro e w3 ⟨q, rfl, hd3⟩
    have HD3 : Hid (Dr g a len cap S w w3) := HD2.out.trans hd3
    have HT3 : Hid (Tcs S w2 w3) := hd3.tcs
    clear hd3
    have fin : ∀ (w4 w5 w6 : World) (mk : Int) (nm : ByteArray) (u5 u6 : Value), nm.size ≤ 100000 → Dr g a len cap S w w4 → NRow w4.heap.size w5 u5 (e2 ++ [⟨1, mk, ⟨#[]⟩⟩] ++ [⟨7, 13, ⟨#[]⟩⟩]) → Below w4.heap.size w4 w5 → NRow w4.heap.size w6 u6 (e2 ++ [⟨1, mk, ⟨#[]⟩⟩] ++ [⟨7, 13, ⟨#[]⟩⟩] ++ [⟨3, 0, nm⟩]) → (w5.alloc (.cells #[.int .i64 3, .int .i64 0, .string nm] 91)).grownBy w6 u5.ownBlock → ∃ ns, NRow w.heap.size w6 u6 ns ∧ okN ns (xpt (d + 1)) ∧ Dr g a len cap S w w6 := fun w4 w5 w6 mk nm u5 u6 hnm h4 h5 hb5 h6 hg => by
     refine ⟨_, own_low h6 h4.tcs.size, ?_, ?_⟩
     ·refine okN.more (((HO2.out.app (okN.one (by decide))).app (okN.one (by decide))).app (okN.one hnm)) ?_
      rw [HXd.out]
      omega
     ·exact Dr.app ((h4.below hb5).alloc _) HLo.out (NRow.below h5 ((Below.refl _ _).alloc (Nat.le_refl _) _)) h4.tcs.size hg
    have HFin : Hid (∀ (w4 w5 w6 : World) (mk : Int) (nm : ByteArray) (u5 u6 : Value), nm.size ≤ 100000 → Dr g a len cap S w w4 → NRow w4.heap.size w5 u5 (e2 ++ [⟨1, mk, ⟨#[]⟩⟩] ++ [⟨7, 13, ⟨#[]⟩⟩]) → Below w4.heap.size w4 w5 → NRow w4.heap.size w6 u6 (e2 ++ [⟨1, mk, ⟨#[]⟩⟩] ++ [⟨7, 13, ⟨#[]⟩⟩] ++ [⟨3, 0, nm⟩]) → (w5.alloc (.cells #[.int .i64 3, .int .i64 0, .string nm] 91)).grownBy w6 u5.ownBlock → ∃ ns, NRow w.heap.size w6 u6 ns ∧ okN ns (xpt (d + 1)) ∧ Dr g a len cap S w w6) := fin
    clear fin
    cases q
    all_goals (
     go_wp2_with fail
     refine (once_any g a len cap S _ _ hl hS HD3.out.cur (by omega)).mono ?_
     rintro e w4 ⟨q4, rfl, hd4⟩
     have HD4 : Hid (Dr g a len cap S w w4) := HD3.out.trans hd4
     have HN4 : Hid (Nodes w4 u2 e2) := HN2.out _ (HT3.out.trans hd4.tcs)
     clear hd4
     cases q4
     all_goals (
      go_wp2_with fail
      refine (join_any e2 _ _ _ _ u2 _ _ (HN4.out.below ((Below.refl _ _).alloc (Nat.le_refl _) _)) (nrow_lit w4 0 (Nat.zero_le _) _ _ _).nodes (by simp; omega)).mono ?_
      rintro e w5 ⟨u5, rfl, hr5, hb5⟩
      simp only [World.size_alloc] at hr5 hb5
      have hr5' := own_low hr5 (Nat.le_succ w4.heap.size)
      have hb5' : Below w4.heap.size w4 w5 := ((Below.refl w4.heap.size w4).alloc (Nat.le_refl _) _).trans (hb5.mono (Nat.le_succ _))
      have HR5 : Hid (NRow w4.heap.size w5 u5 _ ∧ Below w4.heap.size w4 w5) := ⟨hr5', hb5'⟩
      have hs5 : w4.heap.size ≤ w5.heap.size := hb5'.size
      clear hr5 hb5 hr5' hb5'
      go_wp2_with (at_builtin; refine wpList_appN rfl _ _ rfl w4.heap.size _ _ rfl (NRow.below HR5.out.1 ((Below.refl _ _).alloc (Nat.le_refl _) _)) _ _ rfl (nrow_lit w5 0 (Nat.zero_le _) _ _ _).nodes (by simp) (by simp; omega) (by simp; omega) ?_; intro u6 w6 h6 g6 f6; have HG6 := HFin.out w4 w5 w6 _ _ u5 u6 (by decide) HD4.out HR5.out.1 HR5.out.2 h6 g6; clear h6 g6 f6)
      go_ret
      obtain ⟨ns, p1, p2, p3⟩ := HG6
      exact ⟨_, ns, rfl, p1, p2, p3⟩))
   ·by_cases k6 : k = 5
    ·subst k6
     clear HX
     go_wp2_with fail
     refine (HI.out _ ⟨.slice ac cs.length cc, .slice ap ps.length cp, .slice av ss.length cv, .slice al ls.length cl, m, cs, ps, ss, ls⟩ K w1 HZ.out (HLo.out.mono hs1) HD1.out.cur (HGn.out _ HD1.out.tcs) hK).mono ?_
     rintro e w2 ⟨u2, e2, rfl, hr2, hn2, hd2⟩
     have HD2 : Hid (Dr g a len cap S w w2) := HD1.out.trans hd2
     have HR2 : Hid (NRow w1.heap.size w2 u2 e2) := hr2
     have hs2 : w1.heap.size ≤ w2.heap.size := hd2.tcs.size
     have HO2 : Hid (okN e2 (xpt d)) := hn2
     have hl2 : e2.length ≤ xpt d := hn2.1
     clear hr2 hn2 hd2 x0 x1 x2 x3 x4
     go_wp2_with fail
     refine (below_any g a len cap S _ _ hl hS HD2.out.cur (by omega)).mono ?_
     rintro e w3 ⟨q, rfl, hq, hd3⟩
     have HD3 : Hid (Dr g a len cap S w w3) := HD2.out.trans hd3
     have HR3 : Hid (NRow w1.heap.size w3 u2 e2) := own_tcs HR2.out hd3.tcs (HLo.out.mono hs1).s
     have hs3 : w1.heap.size ≤ w3.heap.size := Nat.le_trans hs2 hd3.tcs.size
     clear hd3
     go_wp2_with (at_builtin; refine wpList_appN rfl _ _ rfl w1.heap.size _ _ rfl (NRow.below HR3.out ((Below.refl _ _).alloc (Nat.le_refl _) _)) _ _ rfl (nrow_lit w3 0 (Nat.zero_le _) _ _ _).nodes (by simp) (by simp; omega) (by simp; omega) ?_; intro u6 w6 h6 g6 f6; have HG6 : Hid (NRow w.heap.size w6 u6 _ ∧ Dr g a len cap S w w6) := ⟨own_low h6 hs1, Dr.app (HD3.out.alloc _) HLo.out (NRow.below HR3.out ((Below.refl _ _).alloc (Nat.le_refl _) _)) hs1 g6⟩; clear h6 g6 f6)
     go_ret
     exact ⟨_, _, rfl, HG6.out.1, okN.more (HO2.out.app (okN.one (by decide))) (by rw [HXd.out]; omega), HG6.out.2⟩
    ·by_cases k7 : k = 6 ∧ 0 < cs.length
     ·obtain ⟨rfl, hcs⟩ := k7
      have hc10 : cs.length ≤ 10 := HG.out.c4
      have hpc : ps.length ≤ cs.length ∧ cs.length ≤ ps.length := by have : ps.length = cs.length := HG.out.cp; omega
      have hcs' : (0 : Int) < (cs.length : Int) := by omega
      go_wp2_with fail
      refine (below_any g a len cap S _ _ hl hS HD1.out.cur (by omega)).mono ?_
      rintro e w2 ⟨fz, rfl, hf, hd2⟩
      obtain ⟨f, rfl⟩ : ∃ f : Nat, fz = f := ⟨fz.toNat, by omega⟩
      have hfc : f < cs.length := by omega
      have hfp : f < ps.length := by omega
      have hpf : 0 ≤ ps[f] ∧ ps[f] ≤ 6 := HG.out.pb _ (List.getElem_mem hfp)
      have HNm : Hid (cs[f].size ≤ 100000) := HG.out.ns.1 _ (List.getElem_mem hfc)
      obtain ⟨pf, hpf'⟩ : ∃ pf : Int, pf = ps[f] := ⟨_, rfl⟩
      obtain ⟨nm, hnm'⟩ : ∃ nm : ByteArray, nm = cs[f] := ⟨_, rfl⟩
      have HW0w : Hid (Tcs S w W0) := HD0'.out.tcs
      have HT2 : Hid (Dr g a len cap S W0 w2) := ⟨hd2.cur, HT1.out.trans hd2.tcs⟩
      have HPS : Hid (∀ W, Tcs S W0 W → ∃ b c b' c', Value.slice ap ps.length cp = .slice (some ⟨b, 0, none⟩) ps.length c ∧ W.cell? ⟨b, f, none⟩ = some (.int .i64 pf) ∧ ∃ off, Value.slice ac cs.length cc = .slice (some ⟨b', off, none⟩) cs.length c' ∧ W.cell? ⟨b', off + f, none⟩ = some (.string nm)) := fun W hW => by
       have hg := HGn.out W (HW0w.out.trans hW)
       obtain ⟨b, c, q1, q2⟩ := ints_at (hg.p W (Tcs.refl _ _)) f hfp
       obtain ⟨b', off, c', q3, q4⟩ := strs_at (hg.c W (Tcs.refl _ _)) f hfc
       rw [hpf', hnm']
       exact ⟨b, c, b', c', q1, q2, off, q3, q4⟩
      obtain ⟨pb, pc, cb, ccc, q1, -, off, q3, -⟩ := HPS.out w2 HT2.out.tcs
      simp only [Value.slice.injEq] at q1 q3
      obtain ⟨rfl, -, rfl⟩ := q1
      obtain ⟨rfl, -, rfl⟩ := q3
      rw [← hpf'] at hpf
      rw [← hnm'] at HNm
      have HXW : Hid (∀ W, Tcs S W0 W → W.cell? ⟨pb, f, none⟩ = some (.int .i64 pf) ∧ W.cell? ⟨cb, off + f, none⟩ = some (.string nm)) := fun W hW => by
       obtain ⟨b, c, b', c', q1, q2, off', q3, q4⟩ := HPS.out W hW
       simp only [Value.slice.injEq, Option.some.injEq, Addr.mk.injEq] at q1 q3
       obtain ⟨⟨rfl, -, -⟩, -, rfl⟩ := q1
       obtain ⟨⟨rfl, rfl, -⟩, -, rfl⟩ := q3
       exact ⟨q2, q4⟩
      have hs2 : w1.heap.size ≤ w2.heap.size := hd2.tcs.size
      have HS0 : Hid (W0.heap.size ≤ w1.heap.size) := HT1.out.size
      have hff : (f : Int) < (ps.length : Int) := by omega
      have hff' : (f : Int) < (cs.length : Int) := by omega
      clear hd2 hpf' hnm' HPS x0 x1 x2 x3 x4
      obtain ⟨x0, x1, x2, x3, x4⟩ := HX.out w2 HT2.out.tcs
      have HL0 : Hid (Lo g a len S W0.heap.size) := HLo.out.mono HW0w.out.size
      go_wp2_with fail
      go_loopw [12, 13, 14] (fun ov i ar wr => ∃ j : Nat, (j : Int) ≤ pf ∧ i = .int .i64 j ∧ ∃ ns : List Nd, NRow w2.heap.size wr ov ns ∧ okN ns (j * xpt d) ∧ Dr g a len cap S W0 wr ∧ w2.heap.size ≤ wr.heap.size) (fun _ i _ _ => pf.toNat - (RowKit.intOf i).toNat)
      case atStart => exact ⟨0, by omega, rfl, [], nrow_nil w2 w2.heap.size (Nat.le_refl _), by rw [Nat.zero_mul]; exact okN.nil, HT2.out.alloc _, by simp⟩
      case round =>
       obtain ⟨j, hj, rfl, ns, hr, hn, hdr, hsr⟩ := hrel
       have HR : Hid (NRow w2.heap.size wr _ ns) := hr
       have HN : Hid (okN ns (j * xpt d)) := hn
       have HDr : Hid (Dr g a len cap S W0 wr) := hdr
       clear x0 x1 x2 x3 x4
       obtain ⟨x0, x1, x2, x3, x4⟩ := HX.out wr hdr.tcs
       obtain ⟨y0, y1⟩ := HXW.out wr hdr.tcs
       have hnl : ns.length ≤ 6 * 12441 := Nat.le_trans hn.1 (Nat.mul_le_mul (by omega) hxb.2)
       clear hr hn hdr
       by_cases hlt : (j : Int) < pf
       ·go_wp2_with fail
        refine (HI.out _ ⟨.slice (some ⟨cb, off, none⟩) cs.length cc, .slice (some ⟨pb, 0, none⟩) ps.length cp, .slice av ss.length cv, .slice al ls.length cl, m, cs, ps, ss, ls⟩ K wr HZ.out (HL0.out.mono HDr.out.tcs.size) HDr.out.cur (HGn.out _ (HW0w.out.trans HDr.out.tcs)) hK).mono ?_
        rintro e w4 ⟨u4, e4, rfl, hr4, hn4, hd4⟩
        have hS2 : ∀ k, S k → k < w2.heap.size := (HL0.out.mono HT2.out.tcs.size).s
        have hR4 := own_tcs HR.out hd4.tcs hS2
        have hl4 : e4.length ≤ xpt d := hn4.1
        have HD4 : Hid (Dr g a len cap S W0 w4) := HDr.out.trans hd4
        obtain ⟨v5, w5, r5, r5b, r5c, r5d⟩ := run_appN (w := w4) w2.heap.size 85 _ ns hR4 u4 e4 (NRow.nodes hr4) (by omega) (Nat.le_trans hsr hd4.tcs.size)
        have HR5 : Hid (NRow w2.heap.size w5 v5 (ns ++ e4) ∧ okN (ns ++ e4) (j * xpt d + xpt d) ∧ Dr g a len cap S W0 w5 ∧ w2.heap.size ≤ w5.heap.size) := ⟨r5b, HN.out.app hn4, HD4.out.app HL0.out hR4 HT2.out.tcs.size r5c, Nat.le_trans (Nat.le_trans hsr hd4.tcs.size) r5c.size⟩
        have Hr5 : Hid _ := r5
        clear hr4 hn4 hd4 hR4 r5 r5b r5c r5d x0 x1 x2 x3 x4 y0 y1
        go_wp2_with (at_builtin; refine wpList_appG rfl _ _ _ rfl _ _ _ _ rfl rfl Hr5.out ?_)
        go_roundw
        case rel => exact ⟨j + 1, by omega, by go_num, ns ++ e4, HR5.out.1, by rw [Nat.succ_mul]; exact HR5.out.2.1, HR5.out.2.2.1, HR5.out.2.2.2⟩
        case measure => simp [RowKit.intOf]; omega
       ·go_upto_region 25 with fail
        have hpj : (j : Int) ≤ 6 := by omega
        go_region_law
         (refine step_appN rfl (.tmp 93) (.tmp 105) rfl w2.heap.size _ ns rfl (NRow.below HR.out (((Below.refl _ _).drew).alloc (Nat.le_refl _) _)) _ _ rfl (nrow_lit wr.drew 0 (Nat.zero_le _) _ _ _).nodes (by simp; omega) (by simp; omega) ?_
          intro u6 w6 h6 g6 f6
          have HG6 : Hid (NRow w.heap.size w6 u6 _ ∧ Dr g a len cap S W0 w6) := ⟨own_low h6 (Nat.le_trans hs1 hs2), (HDr.out.below (((Below.refl _ _).drew).alloc (Nat.le_refl _) _)).app HL0.out (NRow.below HR.out (((Below.refl _ _).drew).alloc (Nat.le_refl _) _)) HT2.out.tcs.size g6⟩
          clear h6 g6 f6)
        all_goals (
         go_wp2_with fail
         go_ret
         exact ⟨_, rfl, _, HG6.out.1, okN.more (HN.out.app (okN.one HNm.out)) (by rw [HXd.out]; have := Nat.mul_le_mul_right (xpt d) (show j ≤ 6 by omega); omega), ⟨HG6.out.2.cur, HW0w.out.trans HG6.out.2.tcs⟩⟩)
     ·have hk6 : k = 7 ∨ k = 8 ∨ 9 ≤ k ∨ (k = 6 ∧ (cs.length : Int) ≤ 0) := by omega
      clear k7
      have h9 : 9 ≤ k → (k == 6) = false ∧ (k == 7) = false ∧ (k == 8) = false := fun h => by simp; omega
      rcases hk6 with rfl | rfl | hk6 | ⟨rfl, hk6⟩
      all_goals (
       clear h9
       go_wp2_with fail
       refine (HI.out _ ⟨.slice ac cs.length cc, .slice ap ps.length cp, .slice av ss.length cv, .slice al ls.length cl, m, cs, ps, ss, ls⟩ K w1 HZ.out (HLo.out.mono hs1) HD1.out.cur (HGn.out _ HD1.out.tcs) hK).mono ?_
       rintro e w2 ⟨u2, e2, rfl, hr2, hn2, hd2⟩
       have HD2 : Hid (Dr g a len cap S w w2) := HD1.out.trans hd2
       have HN2 : Hid (∀ W, Tcs S w2 W → Nodes W u2 e2) := nrow_fz hr2 (HLo.out.mono hs1).s
       have HO2 : Hid (okN e2 (xpt d)) := hn2
       have hl2 : e2.length ≤ xpt d := hn2.1
       have hs2 : w.heap.size ≤ w2.heap.size := HD2.out.tcs.size
       obtain ⟨y0, y1, y2, y3, y4⟩ := HX.out w2 (HT1.out.trans hd2.tcs)
       clear hr2 hn2 hd2 x0 x1 x2 x3 x4
       go_wp2_with fail
       refine (HI.out _ ⟨.slice ac cs.length cc, .slice ap ps.length cp, .slice av ss.length cv, .slice al ls.length cl, m, cs, ps, ss, ls⟩ K w2 HZ.out (HLo.out.mono hs2) HD2.out.cur (HGn.out _ HD2.out.tcs) hK).mono ?_
       rintro e w3 ⟨u3, e3, rfl, hr3, hn3, hd3⟩
       have HD3 : Hid (Dr g a len cap S w w3) := HD2.out.trans hd3
       have HN3 : Hid (∀ W, Tcs S w3 W → Nodes W u3 e3) := nrow_fz hr3 (HLo.out.mono hs2).s
       have HN2' : Hid (∀ W, Tcs S w3 W → Nodes W u2 e2) := fun W hW => HN2.out W (hd3.tcs.trans hW)
       have HO3 : Hid (okN e3 (xpt d)) := hn3
       have hl3 : e3.length ≤ xpt d := hn3.1
       have fin : ∀ (w4 w5 : World) (u5 : Value) (kd vl : Int), Dr g a len cap S w w4 → NRow w4.heap.size w5 u5 (e2 ++ e3 ++ [⟨kd, vl, ⟨#[]⟩⟩]) → Below w4.heap.size w4 w5 → NRow w.heap.size w5 u5 (e2 ++ e3 ++ [⟨kd, vl, ⟨#[]⟩⟩]) ∧ okN (e2 ++ e3 ++ [⟨kd, vl, ⟨#[]⟩⟩]) (xpt (d + 1)) ∧ Dr g a len cap S w w5 := fun w4 w5 u5 kd vl h4 h5 hb => ⟨own_low h5 h4.tcs.size, okN.more ((HO2.out.app HO3.out).app (okN.one (by decide))) (by rw [HXd.out]; omega), h4.below hb⟩
       have HFin : Hid (∀ (w4 w5 : World) (u5 : Value) (kd vl : Int), Dr g a len cap S w w4 → NRow w4.heap.size w5 u5 (e2 ++ e3 ++ [⟨kd, vl, ⟨#[]⟩⟩]) → Below w4.heap.size w4 w5 → NRow w.heap.size w5 u5 (e2 ++ e3 ++ [⟨kd, vl, ⟨#[]⟩⟩]) ∧ okN (e2 ++ e3 ++ [⟨kd, vl, ⟨#[]⟩⟩]) (xpt (d + 1)) ∧ Dr g a len cap S w w5) := fin
       clear hr3 hn3 hd3 fin y0 y1 y2 y3 y4
       go_wp2_with fail)
      rotate_left 2
      all_goals (try (
       refine (below_any g a len cap S _ _ hl hS HD3.out.cur (by omega)).mono ?_
       rintro e w4 ⟨x4, rfl, hx4, hd4⟩
       have HD4 : Hid (Dr g a len cap S w w4) := HD3.out.trans hd4
       have HN4 : Hid (Nodes w4 u2 e2 ∧ Nodes w4 u3 e3) := ⟨HN2'.out _ hd4.tcs, HN3.out _ hd4.tcs⟩
       clear hd4
       go_wp2_with fail
       refine (join_any e2 e3 _ _ _ u2 u3 _ HN4.out.1 HN4.out.2 (by omega)).mono ?_
       rintro e w5 ⟨u5, rfl, hr5, hb5⟩
       have HE5 := HFin.out w4 w5 u5 _ _ HD4.out hr5 hb5
       have HE : Hid _ := HE5
       clear hr5 hb5 HE5
       go_wp2_with fail
       go_ret
       exact ⟨_, _, rfl, HE.out.1, HE.out.2.1, HE.out.2.2⟩))
      all_goals (
       refine (join_any e2 e3 _ _ _ u2 u3 _ (HN2'.out _ (Tcs.refl _ _)) (HN3.out _ (Tcs.refl _ _)) (by omega)).mono ?_
       rintro e w5 ⟨u5, rfl, hr5, hb5⟩
       have HE5 := HFin.out w3 w5 u5 _ _ HD3.out hr5 hb5
       have HE : Hid _ := HE5
       clear hr5 hb5 HE5
       go_wp2_with fail
       go_ret
       exact ⟨_, _, rfl, HE.out.1, HE.out.2.1, HE.out.2.2⟩)
end
end Go.Proofs.YtjhmgjimppflhaaGreatDoor
