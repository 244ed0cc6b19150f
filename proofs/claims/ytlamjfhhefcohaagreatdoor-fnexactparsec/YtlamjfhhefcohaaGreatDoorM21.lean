import Derived.OwnWalk
import Derived.Laws.OwnMore
import Derived.Laws.AppendOwnNone
import Derived.Test.YtlamjfhhefcohaaGreatDoorM17
namespace Go.Proofs.YtlamjfhhefcohaaGreatDoor
set_option linter.unusedVariables false
set_option linter.unusedSimpArgs false
set_option maxRecDepth 100000
set_option maxHeartbeats 16000000
section
open Go.RowKit
def encNd (n : Nd) : List Value := [.int .i64 n.kind, .int .i64 n.val, .string n.name]
def flatN (ns : List Nd) : List Value := ns.flatMap encNd
theorem flatN_len (ns : List Nd) : (flatN ns).length = ns.length * 3 := by
 induction ns with
 | nil => rfl
 | cons n r ih =>
  have : flatN (n :: r) = encNd n ++ flatN r := rfl
  rw [this, List.length_append, ih]
  simp [encNd]
  omega
theorem flatN_append (a b : List Nd) : flatN (a ++ b) = flatN a ++ flatN b := by simp [flatN]
theorem flatN_at (ns : List Nd) (j : Nat) (hj : j < ns.length) : (flatN ns)[j * 3]? = some (.int .i64 ns[j].kind) ∧ (flatN ns)[j * 3 + 1]? = some (.int .i64 ns[j].val) ∧ (flatN ns)[j * 3 + 2]? = some (.string ns[j].name) := by
 induction ns generalizing j with
 | nil => simp at hj
 | cons n r ih =>
  have e : flatN (n :: r) = encNd n ++ flatN r := rfl
  cases j with
  | zero => rw [e]; simp [encNd]
  | succ j =>
   have := ih j (by simpa using hj)
   rw [e]
   have e1 : (j + 1) * 3 = j * 3 + 3 := by omega
   have hl : (encNd n).length = 3 := rfl
   refine ⟨?_, ?_, ?_⟩
   ·rw [e1, List.getElem?_append_right (by omega), hl]; simpa using this.1
   ·rw [e1, List.getElem?_append_right (by omega), hl, show j * 3 + 3 + 1 - 3 = j * 3 + 1 by omega]; simpa using this.2.1
   ·rw [e1, List.getElem?_append_right (by omega), hl, show j * 3 + 3 + 2 - 3 = j * 3 + 2 by omega]; simpa using this.2.2
theorem flatN_split (ns : List Nd) (i : Nat) (hi : i < ns.length * 3) : ∃ j, j < ns.length ∧ (i = j * 3 ∨ i = j * 3 + 1 ∨ i = j * 3 + 2) := ⟨i / 3, by omega, by omega⟩
theorem addrO (g off j : Nat) : (⟨g, off, none⟩ : Addr).add j = ⟨g, off + j, none⟩ := by
 simp [Addr.add]
 try (intro h; omega)
theorem nodes_news {w : World} {b off : Nat} {ns : List Nd} (h : NodesC w b off ns) : ∀ i u, (flatN ns)[i]? = some u → w.cell? ((⟨b, off, none⟩ : Addr).add i) = some u := by
 intro i u hu
 have hi : i < ns.length * 3 := by rw [← flatN_len]; exact (List.getElem?_eq_some_iff.1 hu).1
 obtain ⟨j, hj, he⟩ := flatN_split ns i hi
 obtain ⟨f0, f1, f2⟩ := flatN_at ns j hj
 obtain ⟨c0, c1, c2⟩ := h j hj
 rw [addrO]
 rcases he with rfl | rfl | rfl
 ·rw [f0] at hu; cases hu; exact c0
 ·rw [f1] at hu; cases hu; rw [← Nat.add_assoc]; exact c1
 ·rw [f2] at hu; cases hu; rw [← Nat.add_assoc]; exact c2
theorem flatN_one (ns : List Nd) : ∀ u ∈ flatN ns, u.oneCell' = true := by
 intro u hu
 simp only [flatN, List.mem_flatMap] at hu
 obtain ⟨n, _, hn⟩ := hu
 simp only [encNd, List.mem_cons, List.not_mem_nil, or_false] at hn
 rcases hn with rfl | rfl | rfl <;> rfl
def NRow (B : Nat) (w : World) (v : Value) (ns : List Nd) : Prop := w.ownsRow B 48 3 v ns.length (flatN ns)
theorem NRow.nodes {B : Nat} {w : World} {v : Value} {ns : List Nd} (h : NRow B w v ns) : Nodes w v ns := by
 have h0 := h
 obtain ⟨hl, h⟩ := h
 rcases h with ⟨rfl, hz⟩ | ⟨g, cap, cur, rfl, hg, hh, hc1, hc2, hc3, hc4⟩
 ·exact ⟨none, 0, by rw [hz], by omega, by omega, fun h => absurd h (by omega)⟩
 ·refine ⟨_, cap, rfl, hc1, by simp only [maxLen] at hc2; omega, fun _ => ⟨g, 0, rfl, fun j hj => ?_⟩⟩
  obtain ⟨f0, f1, f2⟩ := flatN_at ns j hj
  have k0 := World.ownsRow.cells h0 (g := g) rfl _ _ f0
  have k1 := World.ownsRow.cells h0 (g := g) rfl _ _ f1
  have k2 := World.ownsRow.cells h0 (g := g) rfl _ _ f2
  rw [addrO] at k0 k1 k2
  exact ⟨k0, by rw [Nat.add_assoc]; exact k1, by rw [Nat.add_assoc]; exact k2⟩
theorem NRow.below {B : Nat} {w w' : World} {v : Value} {ns : List Nd} (h : NRow B w v ns) (hb : Below w.heap.size w w') : NRow B w' v ns := by
 obtain ⟨g1, g2⟩ := h
 refine ⟨g1, ?_⟩
 rcases g2 with g2 | ⟨g, cap, cur, rfl, g3, g4, g5⟩
 ·exact .inl g2
 ·refine .inr ⟨g, cap, cur, rfl, g3, ?_, g5⟩
  rw [hb.block g (Array.getElem?_eq_some_iff.1 g4).1]
  exact g4
theorem info_node : (Tryz.prog.info? 48).map (fun i => (i.zero, i.size, i.bytes)) = some (some (.agg #[.int .i64 0, .int .i64 0, .string ⟨#[]⟩]), 3, 32) := by kernel_rfl
theorem Nodes.grown {w w' : World} {v : Value} {ns : List Nd} {row : Option Nat} (h : Nodes w v ns) (hg : w.grownBy w' row) (hne : ∀ g, v.ownBlock = some g → row ≠ some g) : Nodes w' v ns := by
 obtain ⟨a, cap, rfl, h1, h2, h⟩ := h
 refine ⟨a, cap, rfl, h1, h2, fun h0 => ?_⟩
 obtain ⟨b, off, rfl, hc⟩ := h h0
 refine ⟨b, off, rfl, fun j hj => ?_⟩
 obtain ⟨c0, c1, c2⟩ := hc j hj
 have hlt := World.block_lt_of_cell? _ _ c0
 have hb := hg.block b hlt (fun e => hne b rfl e.symm)
 exact ⟨(World.cell?_of_block (a := ⟨b, off + j * 3, none⟩) hb).trans c0, (World.cell?_of_block (a := ⟨b, off + j * 3 + 1, none⟩) hb).trans c1, (World.cell?_of_block (a := ⟨b, off + j * 3 + 2, none⟩) hb).trans c2⟩
theorem ownB {w w' : World} {B : Nat} {e : TypeId} {sz : Nat} {v : Value} {n : Nat} {xs : List Value} (h : w.ownsRow B e sz v n xs) (hb : Below w.heap.size w w') : w'.ownsRow B e sz v n xs := by
 obtain ⟨g1, g2⟩ := h
 refine ⟨g1, ?_⟩
 rcases g2 with g2 | ⟨g, cap, cur, rfl, g3, g4, g5⟩
 ·exact .inl g2
 ·refine .inr ⟨g, cap, cur, rfl, g3, ?_, g5⟩
  rw [hb.block g (Array.getElem?_eq_some_iff.1 g4).1]
  exact g4
section
variable {w : World}
end
end
section
open Go.RowKit
theorem own_notU {T : TypeId} {sz B n : Nat} {S : Nat → Prop} {w w' : World} {v : Value} {xs : List Value} (h : w.ownsRow B T sz v n xs) (ht : Tcs S w w') (hS : ∀ k, v.ownBlock = some k → ¬ S k) : w'.ownsRow B T sz v n xs := by
 obtain ⟨hx, h | ⟨g, cap, cur, rfl, h1, h2, h3⟩⟩ := h
 ·exact ⟨hx, .inl h⟩
 ·exact ⟨hx, .inr ⟨g, cap, cur, rfl, h1, (ht.block g (Array.getElem?_eq_some_iff.1 h2).1 (hS g rfl)).trans h2, h3⟩⟩
end
section
open Go.RowKit
def NOne (B : Nat) (w : World) (v : Value) (ns : List Nd) (K : List Nat) : Prop := (ns = [] ∧ K = [] ∧ ∃ a c, v = .slice a 0 c ∧ c ≤ 9223372036854775807) ∨ ∃ g cap, v = .slice (some ⟨g, 0, none⟩) ns.length cap ∧ K = [g] ∧ ns.length ≤ cap ∧ cap ≤ 9223372036854775807 ∧ B ≤ g ∧ g < w.heap.size ∧ NodesC w g 0 ns ∧ ∀ j, j < ns.length * 3 → w.frozen? ⟨g, j, none⟩ = false
theorem NOne.nil (B : Nat) (w : World) : NOne B w (.slice none 0 0) [] [] := .inl ⟨rfl, rfl, none, 0, rfl, by omega⟩
theorem NOne.nodes {B : Nat} {w : World} {v : Value} {ns : List Nd} {K : List Nat} (h : NOne B w v ns K) : Nodes w v ns := by
 rcases h with ⟨rfl, -, a, c, rfl, hc⟩ | ⟨g, cap, rfl, -, h1, h2, _, _, h3, _⟩
 ·exact ⟨a, c, rfl, Nat.zero_le _, hc, fun h => absurd h (Nat.lt_irrefl _)⟩
 ·exact ⟨_, cap, rfl, h1, h2, fun _ => ⟨g, 0, rfl, h3⟩⟩
theorem NOne.base {B B' : Nat} {w : World} {v : Value} {ns : List Nd} {K : List Nat} (h : NOne B w v ns K) (hb : B' ≤ B) : NOne B' w v ns K := by
 rcases h with h | ⟨g, cap, h1, h2, h3, h4, h5, h6⟩
 ·exact .inl h
 ·exact .inr ⟨g, cap, h1, h2, h3, h4, Nat.le_trans hb h5, h6⟩
theorem NOne.rng {B : Nat} {w : World} {v : Value} {ns : List Nd} {K : List Nat} (h : NOne B w v ns K) : ∀ g ∈ K, B ≤ g ∧ g < w.heap.size := by
 rcases h with ⟨-, rfl, -⟩ | ⟨g, cap, -, rfl, -, -, h5, h6, -⟩
 ·intro g hg; cases hg
 ·intro x hx
  simp only [List.mem_singleton] at hx
  subst hx
  exact ⟨h5, h6⟩
theorem NOne.keep {B : Nat} {w w' : World} {v : Value} {ns : List Nd} {K : List Nat} (h : NOne B w v ns K) (hs : w.heap.size ≤ w'.heap.size) (hk : ∀ g ∈ K, w'.heap[g]? = w.heap[g]?) : NOne B w' v ns K := by
 rcases h with h | ⟨g, cap, h1, rfl, h3, h4, h5, h6, h7, h8⟩
 ·exact .inl h
 ·have e := hk g (by simp)
  have hc : ∀ o, w'.cell? ⟨g, o, none⟩ = w.cell? ⟨g, o, none⟩ := fun o => World.cell?_of_block (a := ⟨g, o, none⟩) e
  refine .inr ⟨g, cap, h1, rfl, h3, h4, h5, Nat.lt_of_lt_of_le h6 hs, fun j hj => ?_, fun j hj => ?_⟩
  ·obtain ⟨a, b, c⟩ := h7 j hj
   exact ⟨(hc _).trans a, (hc _).trans b, (hc _).trans c⟩
  ·have : w'.frozen? ⟨g, j, none⟩ = w.frozen? ⟨g, j, none⟩ := World.frozen?_of_block (a := ⟨g, j, none⟩) e
   exact this.trans (h8 j hj)
structure StRow (B : Nat) (w : World) (v : Value) (R : List SV) : Prop where
 row : w.ownsRow B 46 6 v R.length (flatS R)
 each : ∀ q ∈ R, NOne B w q.ve q.s.e q.ke ∧ NOne B w q.vf q.s.f q.kf
 nd : (blkS R).Nodup
 out : ∀ g, v.ownBlock = some g → g ∉ blkS R
theorem StRow.rng {B : Nat} {w : World} {v : Value} {R : List SV} (h : StRow B w v R) : ∀ g ∈ blkS R, B ≤ g ∧ g < w.heap.size := by
 intro g hg
 simp only [blkS, List.mem_flatMap, List.mem_append] at hg
 obtain ⟨q, hq, hg | hg⟩ := hg
 ·exact (h.each q hq).1.rng g hg
 ·exact (h.each q hq).2.rng g hg
theorem StRow.nil (B : Nat) (w : World) : StRow B w (.slice none 0 0) [] := ⟨World.ownsRow_nil _ _ _ _, fun q hq => (by cases hq), List.nodup_nil, fun g hg => (by simp [Value.ownBlock] at hg)⟩
theorem StRow.base {B B' : Nat} {w : World} {v : Value} {R : List SV} (h : StRow B w v R) (hb : B' ≤ B) : StRow B' w v R := by
 refine ⟨?_, fun q hq => ⟨(h.each q hq).1.base hb, (h.each q hq).2.base hb⟩, h.nd, h.out⟩
 obtain ⟨h1, h2⟩ := h.row
 refine ⟨h1, ?_⟩
 rcases h2 with h2 | ⟨g, cap, cur, e, h3, h4, h5⟩
 ·exact .inl h2
 ·exact .inr ⟨g, cap, cur, e, Nat.le_trans hb h3, h4, h5⟩
theorem mem_blk {R : List SV} {q : SV} (hq : q ∈ R) : (∀ g ∈ q.ke, g ∈ blkS R) ∧ ∀ g ∈ q.kf, g ∈ blkS R := by
 refine ⟨fun g hg => ?_, fun g hg => ?_⟩
 ·exact List.mem_flatMap.2 ⟨q, hq, List.mem_append.2 (.inl hg)⟩
 ·exact List.mem_flatMap.2 ⟨q, hq, List.mem_append.2 (.inr hg)⟩
theorem StRow.below {B : Nat} {w w' : World} {v : Value} {R : List SV} (h : StRow B w v R) (hb : Below w.heap.size w w') : StRow B w' v R := by
 refine ⟨ownB h.row hb, fun q hq => ⟨(h.each q hq).1.keep hb.size fun g hg => hb.block g (h.rng g ((mem_blk hq).1 g hg)).2, (h.each q hq).2.keep hb.size fun g hg => hb.block g (h.rng g ((mem_blk hq).2 g hg)).2⟩, h.nd, h.out⟩
theorem StRow.shape {B : Nat} {w : World} {v : Value} {R : List SV} (h : StRow B w v R) : ∃ a c, v = .slice a R.length c := by
 rcases h.row.2 with ⟨rfl, hz⟩ | ⟨g, cap, cur, rfl, _⟩
 ·exact ⟨none, 0, by rw [hz]⟩
 ·exact ⟨_, cap, rfl⟩
theorem StRow.stmts {B : Nat} {w : World} {v : Value} {R : List SV} (h : StRow B w v R) : Stmts w v (R.map (·.s)) := by
 have h0 := h.row
 rcases h.row.2 with ⟨rfl, hz⟩ | ⟨g, cap, cur, rfl, h3, h4, h5⟩
 ·exact ⟨none, 0, by rw [List.length_map, hz], by rw [List.length_map, hz]; exact Nat.le_refl _, by omega, fun h => by rw [List.length_map] at h; omega⟩
 ·have hc : R.length ≤ cap ∧ cap ≤ 9223372036854775807 := by
   obtain ⟨q1, q2, -⟩ := h5
   unfold maxLen at q2
   exact ⟨q1, q2⟩
  refine ⟨some ⟨g, 0, none⟩, cap, by rw [List.length_map], by rw [List.length_map]; exact hc.1, hc.2, fun hp => ⟨g, 0, rfl, fun j hj => ?_⟩⟩
  rw [List.length_map] at hj
  have key : ∀ i, i < 6 → w.cell? ⟨g, 0 + j * 6 + i, none⟩ = (cellsS R[j])[i]? := fun i hi => by
   have hl : (flatS R).length = R.length * 6 := flatS_len R
   rw [Nat.zero_add, World.ownsRow.cellAt h0 (j * 6 + i) (by omega), flatS_get R j i hj hi]
  have he := h.each R[j] (List.getElem_mem hj)
  refine ⟨R[j].ve, R[j].vf, ?_, ?_, ?_⟩
  ·simp only [List.getElem_map]
   exact ⟨key 0 (by omega), key 1 (by omega), key 2 (by omega), key 3 (by omega), key 4 (by omega), key 5 (by omega)⟩
  ·simp only [List.getElem_map]; exact he.1.nodes
  ·simp only [List.getElem_map]; exact he.2.nodes
end
end Go.Proofs.YtlamjfhhefcohaaGreatDoor
