import Derived.Test.YtolkpkklinoegaaDoorM40
import Derived.Test.YtolkpkklinoegaaDoorM50
import Derived.Deep.RegionHeldLaw
namespace Go.Proofs.YtolkpkklinoegaaDoor
set_option linter.unusedVariables false
set_option linter.unusedSimpArgs false
set_option maxRecDepth 100000
set_option maxHeartbeats 16000000
section
open Go.RowKit
structure LwI (w wr : World) (S : Nat → Prop) (r : List Nd) (left list : Value) (Ls : List (Value × List Nd)) (L : List Nd) : Prop where
 sum : (Ls.map (·.2)).flatten ++ L.reverse = r
 each : ∀ q ∈ Ls, Tv w S q.1 q.2
 row : VRow w.heap.size wr left (Ls.map (·.1))
 out : NRow w.heap.size wr list L
 ne : ∀ g, left.ownBlock = some g → list.ownBlock ≠ some g
 bel : Below w.heap.size w wr
theorem LwI.len {w wr : World} {S : Nat → Prop} {r : List Nd} {left list : Value} {Ls : List (Value × List Nd)} {L : List Nd} (h : LwI w wr S r left list Ls L) : Ls.length + L.length ≤ r.length := by
 have h1 : Ls.length ≤ (Ls.map (·.2)).flatten.length := by
  have h2 := h.each
  clear h
  induction Ls with
  | nil => simp
  | cons q Ls ih =>
   have h3 := (h2 q (by simp)).pos
   have h4 := ih (fun q hq => h2 q (by simp [hq]))
   simp only [List.map_cons, List.flatten_cons, List.length_append, List.length_cons]
   omega
 have h3 := congrArg List.length h.sum
 simp only [List.length_append, List.length_reverse] at h3
 omega
theorem LwI.mid {w wr w1 w2 : World} {S : Nat → Prop} {r : List Nd} {left list : Value} {Ls : List (Value × List Nd)} {L : List Nd} (h : LwI w wr S r left list Ls L) (hb1 : Below wr.heap.size wr w1) (hg2 : w1.grownBy w2 left.ownBlock) : NRow w.heap.size w2 list L ∧ w.heap.size ≤ w2.heap.size := by
 refine ⟨ownG (ownB h.out hb1) hg2 (fun g hg h' => h.ne g h' hg), ?_⟩
 have := h.bel.size
 have := hb1.size
 have := hg2.size
 omega
theorem LwI.step {w wr w1 w2 w4 w5 : World} {S : Nat → Prop} {r l : List Nd} {v left list left' list' : Value} {Ls0 Ns : List (Value × List Nd)} {L : List Nd} {n : Nd} (h : LwI w wr S r left list (Ls0 ++ [(v, l)]) L) (hl : l = (Ns.map (·.2)).flatten ++ [n]) (hN : ∀ q ∈ Ns, Tv w S q.1 q.2)
  (hb1 : Below wr.heap.size wr w1) (hr2 : VRow w.heap.size w2 left' (Ls0.map (·.1) ++ Ns.map (·.1))) (hg2 : w1.grownBy w2 left.ownBlock) (hf2 : ∀ k, left'.ownBlock = some k → left.ownBlock = some k ∨ w1.heap.size ≤ k)
  (hb3 : Below w2.heap.size w2 w4) (ho : NRow w.heap.size w5 list' (L ++ [n])) (hg5 : w4.grownBy w5 list.ownBlock) (hf5 : ∀ k, list'.ownBlock = some k → list.ownBlock = some k ∨ w4.heap.size ≤ k) :
  LwI w w5 S r left' list' (Ls0 ++ Ns) (L ++ [n]) := by
 have hol : ∀ g, list.ownBlock = some g → w.heap.size ≤ g ∧ g < wr.heap.size := fun g hg => World.ownsRow.lt h.out g hg
 have hll : ∀ g, left.ownBlock = some g → w.heap.size ≤ g ∧ g < wr.heap.size := fun g hg => World.ownsRow.lt h.row g hg
 have hl2 : ∀ g, left'.ownBlock = some g → g < w2.heap.size := fun g hg => (World.ownsRow.lt hr2 g hg).2
 have s1 := hb1.size
 have s3 := hb3.size
 have hx : ∀ g, left'.ownBlock = some g → list.ownBlock ≠ some g := by
  intro g hg h'
  rcases hf2 g hg with h2 | h2
  ·exact h.ne g h2 h'
  ·have := (hol g h').2; omega
 have e1 : (Ls0 ++ Ns).map (·.1) = Ls0.map (·.1) ++ Ns.map (·.1) := by simp
 have hb2 : Below w.heap.size w w2 := (h.bel.trans (hb1.mono h.bel.size)).grown hg2 (Nat.le_trans h.bel.size s1) (fun g hg => (hll g hg).1)
 have hb4 : Below w.heap.size w w4 := hb2.trans (hb3.mono hb2.size)
 refine ⟨?_, fun q hq => ?_, ?_, ho, fun g hg h' => ?_, hb4.grown hg5 hb4.size (fun g hg => (hol g hg).1)⟩
 ·have := h.sum
  rw [← this, hl]
  simp
 ·rcases List.mem_append.1 hq with hq | hq
  ·exact h.each q (by simp [hq])
  ·exact hN q hq
 ·rw [e1]
  exact ownG (ownB hr2 hb3) hg5 (fun g hg => hx g hg)
 ·rcases hf5 g h' with h2 | h2
  ·exact hx g hg h2
  ·have := hl2 g hg; omega
end
section
open Go.RowKit
def lenVF : Value → Nat
 | .slice _ n _ => n
 | _ => 0
theorem NRow.free {B : Nat} {w : World} {v : Value} {ns : List Nd} (h : NRow B w v ns) (hp : 0 < ns.length) : NFree B w v ns := by
 have hn := h.nodes
 have h0 := h
 rcases h.2 with ⟨rfl, hz⟩ | ⟨g, cap, cur, rfl, hbg, hg, hnc, hcm, hcs, htake⟩
 ·omega
 ·obtain ⟨a, cap', he, h1, h2, h3⟩ := hn
  simp only [Value.slice.injEq, true_and] at he
  obtain ⟨rfl, rfl⟩ := he
  obtain ⟨b, off, he, hC⟩ := h3 hp
  simp only [Option.some.injEq, Addr.mk.injEq, and_true] at he
  obtain ⟨rfl, rfl⟩ := he
  exact ⟨g, cap, rfl, h1, h2, hbg, (World.ownsRow.lt h0 g rfl).2, hC, fun j hj => World.ownsRow.frozenAt h0 j⟩
theorem nodes_lit (w : World) (n : Nd) (t : TypeId) : Nodes (w.alloc (.cells #[.int .i64 n.kind, .int .i64 n.val, .string n.name] t)) (.slice (some ⟨w.heap.size, 0, none⟩) 1 1) [n] := by
 refine ⟨_, _, rfl, by simp, by omega, fun _ => ⟨_, _, rfl, fun j hj => ?_⟩⟩
 have : j = 0 := by simp at hj; omega
 subst this
 refine ⟨by simp, by simp, by simp⟩
set_option maxRecDepth 100000 in
set_option maxHeartbeats 4000000 in
theorem lowered_any (u : Value) (r : List Nd) (S : Nat → Prop) (w : World) (hS : ∀ B, S B → B < w.heap.size) (hT : Tv w S u r) (hl : r.length ≤ 2000) :
  Calls Tryd.prog 16 #[u] w fun x w' => ∃ v, x = .returned v ∧ NFree w.heap.size w' v r ∧ Below w.heap.size w w' := by
 obtain ⟨i0, hi0, hz0, hz1, hz2⟩ := info_parts info_nv
 have HT : Hid (Tv w S u r) := hT
 have HI0 : Hid (LwI w (w.alloc (.cells #[u] 58)) S r (.slice (some ⟨w.heap.size, 0, none⟩) 1 1) (.slice none 0 0) [(u, r)] []) := by
  refine ⟨by simp, by simpa using hT, ?_, World.ownsRow_nil _ _ _ _, fun g _ h => (by simp [Value.ownBlock] at h), (Below.refl _ _).alloc (Nat.le_refl _) _⟩
  exact World.ownsRow_lit w #[u] 1 (Nat.le_refl _) (by decide) rfl
 obtain ⟨ta, tb, rfl⟩ := hT.isI
 clear hT
 go_enter Tryd.func16, Tryd.ntmps16
 go_wp2_with fail
 go_loopw [3, 4] (fun list left wr => ∃ Ls L, LwI w wr S r left list Ls L) (fun list _ _ => r.length - lenVF list)
 case atStart => exact ⟨_, _, HI0.out⟩
 case round =>
  obtain ⟨Ls, L, hI⟩ := hrel
  obtain ⟨pa, pc, rfl, hp1, hp2, hp3, hp4⟩ := hI.row.form
  obtain ⟨qa, qc, rfl, hq1, hq2, -⟩ := hI.out.nodes
  have hlen := hI.len
  rcases List.eq_nil_or_concat Ls with rfl | ⟨Ls0, q, rfl⟩
  ·have hL : L.reverse = r := by simpa using hI.sum
   have HL : Hid (L.reverse = r) := hL
   have HO : Hid (NRow w.heap.size wr (.slice qa L.length qc) L) := hI.out
   have HB : Hid (Below w.heap.size w wr) := hI.bel
   have hpos : 0 < L.length := by have := HT.out.pos; rw [← hL, List.length_reverse] at this; exact this
   have HR : Hid (Calls Tryd.prog 32 #[.slice qa L.length qc] wr fun e w' => e = .returned (.tuple #[]) ∧ NFree w.heap.size w' (.slice qa L.length qc) r ∧ Below w.heap.size w w') := by
    refine (rev_any w.heap.size _ L wr (by omega) (HO.out.free hpos)).mono ?_
    rintro e w' ⟨rfl, h1, h2⟩
    exact ⟨rfl, by rw [← HL.out]; exact h1, h2 w _ (Nat.le_refl _) HB.out⟩
   clear hI hp3 hp4 hL
   simp only [List.map_nil, List.length_nil] at hp1 ⊢
   go_wp2_with fail
   refine HR.out.mono ?_
   rintro x w1 ⟨rfl, h1, h2⟩
   have HF : Hid (NFree w.heap.size w1 (.slice qa L.length qc) r) := h1
   clear h1
   go_wp2_with fail
   go_ret
   exact ⟨_, rfl, HF.out, h2⟩
  ·obtain ⟨v, l⟩ := q
   simp only [List.concat_eq_append] at hp1 hp3 hp4 hI hlen ⊢
   have e0 : ((Ls0 ++ [(v, l)]).map (·.1)).length = Ls0.length + 1 := by simp
   rw [e0] at hp1 hI ⊢
   have e1 : (Ls0 ++ [(v, l)]).length = Ls0.length + 1 := by simp
   rw [e1] at hlen
   cases pa with
   | none => have := hp3 rfl; simp at this
   | some ad =>
   obtain ⟨g, rfl, hg1, hg2, hgc⟩ := hp4 ad rfl
   have hcell := hgc Ls0.length v (by simp)
   obtain ⟨t, x, f, n, Ns, rfl, hl', hNs, hm, hcf, hops, hpl⟩ := (hI.each (v, l) (by simp)).low
   have HI : Hid (LwI w wr S r (.slice (some ⟨g, 0, none⟩) (Ls0.length + 1) pc) (.slice qa L.length qc) (Ls0 ++ [(.iface t x, l)]) L) := hI
   have HOp : Hid (Calls Tryd.prog f #[x] wr.drew fun e w' => ∃ sl, e = .returned sl ∧ (Src w' sl (Ns.map (·.1)) ∧ Below wr.heap.size wr w')) := by
    refine (hops wr.drew hI.bel.drew).mono ?_
    rintro e w' ⟨sl, rfl, h1, h2⟩
    exact ⟨sl, rfl, h1, (Below.refl _ _).drew.trans h2⟩
   have HPl : Hid (∀ W : World, Calls Tryd.prog 31 #[.iface t x] W fun e w' => e = .returned (.agg #[.int .i64 n.kind, .int .i64 n.val, .string n.name]) ∧ Below W.heap.size W w') := hpl
   have HLl : Hid (l = (Ns.map (·.2)).flatten ++ [n]) := hl'
   have HNs : Hid (∀ q ∈ Ns, Tv w S q.1 q.2) := hNs
   have HO1 : Hid (∀ y ∈ Ns.map (·.1), y.oneCell' = true) := fun y hy => by
    simp only [List.mem_map] at hy
    obtain ⟨q, hq, rfl⟩ := hy
    obtain ⟨a, b, hab⟩ := (hNs q hq).isI
    rw [hab]; rfl
   have hNl : Ls0.length + Ns.length ≤ 2000 := by
    have h1 : Ns.length ≤ (Ns.map (·.2)).flatten.length := by
     have h2 := hNs
     clear HNs HO1 hNs HOp HLl hl' hops
     induction Ns with
     | nil => simp
     | cons q Ls ih =>
      have h3 := (h2 q (by simp)).pos
      have h4 := ih (fun q hq => h2 q (by simp [hq]))
      simp only [List.map_cons, List.flatten_cons, List.length_append, List.length_cons]
      omega
    have h2 : Ls0.length ≤ (Ls0.map (·.2)).flatten.length := by
     have h2 : ∀ q ∈ Ls0, Tv w S q.1 q.2 := fun q hq => hI.each q (by simp [hq])
     clear HNs HO1 hNs HOp HLl hl' HI hI hlen hcell hgc e0 e1 hp1 hp3 hp4
     induction Ls0 with
     | nil => simp
     | cons q Ls ih =>
      have h3 := (h2 q (by simp)).pos
      have h4 := ih (fun q hq => h2 q (by simp [hq]))
      simp only [List.map_cons, List.flatten_cons, List.length_append, List.length_cons]
      omega
    have h3 := congrArg List.length hI.sum
    rw [HLl.out] at h3
    simp only [List.map_append, List.map_cons, List.map_nil, List.flatten_append, List.flatten_cons, List.flatten_nil, List.length_append, List.length_nil, List.length_cons] at h3
    omega
   have HRw : Hid (∀ w1 sl, (Src w1 sl (Ns.map (·.1)) ∧ Below wr.heap.size wr w1) → w1.ownsRow w.heap.size 58 1 (.slice (some ⟨g, 0, none⟩) Ls0.length pc) (Ls0.map (·.1)).length (Ls0.map (·.1)) ∧ w.heap.size ≤ w1.heap.size) := by
    intro w1 sl ⟨_, hb⟩
    have h2 : VRow w.heap.size w1 (.slice (some ⟨g, 0, none⟩) (Ls0.length + 1) pc) ((Ls0 ++ [(Value.iface t x, l)]).map (·.1)) := ownB hI.row hb
    have h3 := h2.head Ls0.length (by simp)
    have e2 : ((Ls0 ++ [(Value.iface t x, l)]).map (·.1)).take Ls0.length = Ls0.map (·.1) := by simp
    rw [e2] at h3
    exact ⟨h3, Nat.le_trans hI.bel.size hb.size⟩
   have hsh : ∀ W : World, (Instr.slice 81 (.slice (some ⟨g, 0, none⟩) (Ls0.length + 1) pc) none (some (.int .i64 (Ls0.length : Int))) none).run Tryd.prog W = .ok (.slice (some ⟨g, 0, none⟩) Ls0.length pc) W := vcut_h _ _ _ _ (by omega) hp1
   have hw1 : IntKind.i64.wrap (((Ls0.length + 1 : Nat) : Int) - 1) = (Ls0.length : Int) := by rw [wrapI64]; omega
   have hw2 : ((Ls0.length + 1 : Nat) : Int) - 1 = (Ls0.length : Int) := by omega
   have hw3 : (Ls0.length : Int) + 1 - 1 = (Ls0.length : Int) := by omega
   have hw4 : IntKind.i64.wrap ((Ls0.length : Int) + 1 - 1) = (Ls0.length : Int) := by rw [wrapI64]; omega
   have hw5 : ((Ls0.length + 1 : Nat) : Int) = (Ls0.length : Int) + 1 := by omega
   have hw6 : (0 : Int) < (Ls0.length : Int) + 1 := by omega
   have hw7 : (Ls0.length : Int) < (Ls0.length : Int) + 1 := by omega
   have hw8 : (0 : Int) ≤ (Ls0.length : Int) := by omega
   clear hI hp3 hp4 hgc hops hpl hl' hNs
   go_wp2_with fail
   go_region_held_law (fun _ => True) (exact trivial)
    (first
    | ((with_reducible refine Calls.mono HOp.out ?_); intro e w1 hx; obtain ⟨sl, hx1, hx2⟩ := hx; subst hx1)
    | (refine step_appV (by rfl) _ _ 81 (by rfl) w.heap.size 58 i0 .nilIface Tryd.underlying81 hi0 hz0 hz1 hz2 (by rfl) (.slice (some ⟨g, 0, none⟩) Ls0.length pc) (Ls0.map (·.1)) (by rfl) (HRw.out _ _ hx2).1 sl (Ns.map (·.1)) (by rfl) hx2.1 HO1.out (by simp; omega) (HRw.out _ _ hx2).2 ?_; intro v' w2 hown2 hgrow2 hfr2))
   have HS2 : Hid (Src w1 sl (Ns.map (·.1)) ∧ Below wr.heap.size wr w1) := hx2
   have HR2 : Hid (VRow w.heap.size w2 v' (Ls0.map (·.1) ++ Ns.map (·.1))) := hown2
   have HG2 : Hid (w1.grownBy w2 (Value.slice (some ⟨g, 0, none⟩) Ls0.length pc).ownBlock) := hgrow2
   have HF2 : Hid (∀ k, v'.ownBlock = some k → (Value.slice (some ⟨g, 0, none⟩) Ls0.length pc).ownBlock = some k ∨ w1.heap.size ≤ k) := hfr2
   obtain ⟨va, vn, vc, rfl⟩ : ∃ va vn vc, v' = .slice va vn vc := by
    obtain ⟨va, vc, h, _⟩ := VRow.form hown2
    exact ⟨_, _, _, h⟩
   clear hx2 hown2 hgrow2 hfr2 HRw HOp
   go_wp2_with fail
   refine (HPl.out _).mono ?_
   rintro e w3 ⟨rfl, hb3⟩
   obtain ⟨hNm, hsm⟩ := HI.out.mid HS2.out.2 HG2.out
   have HNm : Hid (NRow w.heap.size (w3.alloc (.cells #[.int .i64 n.kind, .int .i64 n.val, .string n.name] 32)) (.slice qa L.length qc) L) := (hNm.below hb3).below ((Below.refl _ _).alloc (Nat.le_refl _) _)
   have hsz : w.heap.size ≤ (w3.alloc (.cells #[.int .i64 n.kind, .int .i64 n.val, .string n.name] 32)).heap.size := by have := hb3.size; simp; omega
   have HLit : Hid (Nodes (w3.alloc (.cells #[.int .i64 n.kind, .int .i64 n.val, .string n.name] 32)) (.slice (some ⟨w3.heap.size, 0, none⟩) 1 1) [n]) := nodes_lit w3 n _
   have HB3 : Hid (Below w2.heap.size w2 w3) := hb3
   clear hNm hsm hb3
   go_wp2_with (at_builtin; refine wpList_appN rfl _ _ rfl w.heap.size _ L rfl HNm.out _ [n] rfl HLit.out (by simp) (by simp; omega) hsz ?_)
   intro lv' w5 ho5 hg5 hf5
   have HI5 : Hid (LwI w w5 S r (.slice va vn vc) lv' (Ls0 ++ Ns) (L ++ [n])) := HI.out.step HLl.out HNs.out HS2.out.2 HR2.out HG2.out HF2.out (HB3.out.alloc HB3.out.size _) ho5 hg5 (by simpa only [World.size_alloc] using hf5)
   obtain ⟨la, lc, rfl, -⟩ := ho5.nodes
   clear ho5 hg5 hf5
   go_wp2_with fail
   go_roundw
   case rel => exact ⟨_, _, HI5.out⟩
   case measure => simp [lenVF]; omega
end
section
open Go.RowKit
def FoldR (e r : List Nd) : Prop := if e.length ≤ 2000 ∧ oneB e = true then Fd apN e r else r = []
theorem FoldR.exists (e : List Nd) : ∃ r, FoldR e r := by
 unfold FoldR
 split
 ·rename_i h
  exact Fd.exists apN e.length e (Nat.le_refl _) h.2
 ·exact ⟨[], rfl⟩
theorem FoldR.yes {e r : List Nd} (h : FoldR e r) (h1 : e.length ≤ 2000) (h2 : oneB e = true) : Fd apN e r := by
 unfold FoldR at h
 rw [if_pos ⟨h1, h2⟩] at h
 exact h
theorem FoldR.no {e r : List Nd} (h : FoldR e r) (h1 : e.length ≤ 2000 → oneB e = false) : r = [] := by
 unfold FoldR at h
 rw [if_neg (by rintro ⟨a, b⟩; rw [h1 a] at b; cases b)] at h
 exact h
theorem FoldR.len {e r : List Nd} (h : FoldR e r) : r.length ≤ 2000 := by
 unfold FoldR at h
 split at h
 ·rename_i h1
  have := h.len
  omega
 ·subst h; simp
theorem NFree.mono {B B' : Nat} {w : World} {v : Value} {ns : List Nd} (h : NFree B w v ns) (hB : B' ≤ B) : NFree B' w v ns := by
 obtain ⟨g, cap, e, h1, h2, h3, h4⟩ := h
 exact ⟨g, cap, e, h1, h2, Nat.le_trans hB h3, h4⟩
theorem nfree_nil (w : World) (B : Nat) (hB : B ≤ w.heap.size) (t : TypeId) : NFree B (w.alloc (.cells #[] t)) (.slice (some ⟨w.heap.size, 0, none⟩) 0 0) [] :=
 ⟨w.heap.size, 0, rfl, Nat.le_refl _, by omega, hB, by simp, fun j hj => absurd hj (by simp), fun j hj => absurd hj (by simp)⟩
set_option maxHeartbeats 2000000 in
theorem foldI_any (v : Value) (e r : List Nd) (w : World) (hT : Tab w) (hl : e.length ≤ 1048576) (hN : Nodes w v e) (hr : FoldR e r) :
  Calls Tryd.prog 5 #[v] w fun x w' => ∃ u, x = .returned u ∧ NFree w.heap.size w' u r ∧ Below w.heap.size w w' := by
 have HN : Hid (Nodes w v e) := hN
 have HT : Hid (Tab w) := hT
 have HR : Hid (FoldR e r) := hr
 have hsz := hT.size
 obtain ⟨a, cap, rfl, hcl, hcm, -⟩ := hN
 clear hT hr
 by_cases h2 : 2000 < e.length
 ·obtain rfl := HR.out.no (fun h => absurd h (by omega))
  go_enter Tryd.func5, Tryd.ntmps5
  go_wp2_with fail
  go_ret
  exact ⟨_, rfl, nfree_nil w _ (Nat.le_refl _) _, (Below.refl _ _).alloc (Nat.le_refl _) _⟩
 ·go_enter Tryd.func5, Tryd.ntmps5
  go_wp2_with fail
  refine (one_any _ e _ HT.out (by omega) HN.out).mono ?_
  rintro x w1 ⟨rfl, hb1⟩
  have HB1 : Hid (Below w.heap.size w w1) := hb1
  clear hb1
  cases ho : oneB e
  ·obtain rfl := HR.out.no (fun _ => ho)
   go_wp2_with fail
   go_ret
   exact ⟨_, rfl, nfree_nil w1 _ HB1.out.size _, HB1.out.alloc HB1.out.size _⟩
  ·have HO : Hid (oneB e = true) := ho
   have HF : Hid (Fd apN e r) := HR.out.yes (by omega) ho
   have HLen : Hid (r.length ≤ 2000) := HR.out.len
   clear ho
   go_wp2_with fail
   refine (mapped_any _ e r _ (HT.out.below hsz HB1.out) (HN.out.below HB1.out) HO.out (by omega) HF.out).mono ?_
   rintro x w2 ⟨u, S, rfl, hT2, hS2, hb2⟩
   have HT2 : Hid (Tv w2 S u r) := hT2
   have HS2 : Hid (∀ B, S B → B < w2.heap.size) := fun B hB => (hS2 B hB).2
   have HB2 : Hid (Below w.heap.size w w2) := HB1.out.trans (hb2.mono HB1.out.size)
   obtain ⟨ta, tb, rfl⟩ := hT2.isI
   clear hT2 hS2 hb2
   go_wp2_with fail
   refine (lowered_any _ r S _ HS2.out HT2.out HLen.out).mono ?_
   rintro x w3 ⟨v3, rfl, h3, hb3⟩
   have HN3 : Hid (NFree w2.heap.size w3 v3 r) := h3
   have HB3 : Hid (Below w.heap.size w w3) := HB2.out.trans (hb3.mono HB2.out.size)
   obtain ⟨g3, c3, rfl, -⟩ := h3
   clear hb3
   go_wp2_with fail
   go_ret
   exact ⟨_, rfl, HN3.out.mono HB2.out.size, HB3.out⟩
end
section
open Go.RowKit
set_option maxHeartbeats 2000000 in
theorem foldG_any (v : Value) (e r : List Nd) (w : World) (hl : e.length ≤ 1048576) (hN : Nodes w v e) (hr : FoldR e r) :
  Calls Tryd.prog 7 #[v] w fun x w' => ∃ u, x = .returned u ∧ Nodes w' u r ∧ Below w.heap.size w w' := by
 have HN : Hid (Nodes w v e) := hN
 have HR : Hid (FoldR e r) := hr
 obtain ⟨a, cap, rfl, hcl, hcm, -⟩ := hN
 clear hr
 go_enter Tryd.func7, Tryd.ntmps7
 go_wp2_with fail
 refine (gexpr_any _ e _ hl HN.out).mono ?_
 rintro x w1 ⟨rfl, hb1⟩
 have HB1 : Hid (Below w.heap.size w w1) := hb1
 clear hb1
 cases ho : (decide (e.length ≤ 2000) && oneB e)
 ·have hn : e.length ≤ 2000 → oneB e = false := fun h => by simpa [h] using ho
  obtain rfl := HR.out.no hn
  clear ho hn
  go_wp2_with fail
  go_ret
  exact ⟨_, rfl, (nfree_nil w1 _ (Nat.le_refl _) _).nodes, HB1.out.alloc HB1.out.size _⟩
 ·simp only [Bool.and_eq_true, decide_eq_true_eq] at ho
  have HF : Hid (Fd apN e r) := HR.out.yes ho.1 ho.2
  clear ho
  go_wp2_with fail
  refine (foldS_any w1 HF.out hl _ w1 (HN.out.below HB1.out) (Below.refl _ _)).mono ?_
  rintro x w2 ⟨u, rfl, h2, -, hb2⟩
  have HN2 : Hid (Nodes w2 u r) := h2
  have HB2 : Hid (Below w.heap.size w w2) := HB1.out.trans (hb2.mono HB1.out.size)
  obtain ⟨g2, c2, rfl, -⟩ := h2
  clear hb2
  go_wp2_with fail
  go_ret
  exact ⟨_, rfl, HN2.out, HB2.out⟩
end
end Go.Proofs.YtolkpkklinoegaaDoor
