import Derived.WalkKit
import Derived.OwnWalk
import Derived.Laws.OwnMore
import Derived.Test.YtefnijmgdcfhiaaGreatDoorQPA
import Derived.Laws.AppendOwnNone
namespace Go.Proofs.YtefnijmgdcfhiaaGreatDoor
open Go.RowKit
set_option linter.unusedVariables false
set_option linter.unusedSimpArgs false

section
variable {P : Program} {w : World}
/-- The row behind an append is the old one or new. -/
theorem app_freshG (base : Nat) (t ty e : TypeId) (i : TypeInfo) (z : Value) (size bytes : Nat) (ht : P.underlying t = some (.slice e)) (hi : P.info? e = some i) (hz : i.zero = some z)
    (hsize : i.size = size) (hby : i.bytes = bytes) (hzs : z.cells.size = size) (hsz : 0 < size)
    (v : Value) (n : Nat) (xs : List Value) (hown : w.ownsRow base e size v n xs)
    (a : Addr) (m c : Nat) (news : List Value) (hl : news.length = m * size) (hnews : ∀ j u, news[j]? = some u → w.cell? (a.add j) = some u) (h1 : ∀ u ∈ news, u.oneCell' = true)
    (hm : n + m ≤ 10000000) (hbb : bytes ≤ 1000) (hbase : base ≤ w.heap.size) :
    ∃ v' w', (Builtin.append_ #[t, t] ty #[v, .slice (some a) m c]).run P w = .ok v' w' ∧ w'.ownsRow base e size v' (n + m) (xs ++ news) ∧ w.grownBy w' v.ownBlock ∧ ∀ k, v'.ownBlock = some k → v.ownBlock = some k ∨ w.heap.size ≤ k := by
  have hbytes : (n + m) * bytes ≤ 140737488355328 := by
    have : (n + m) * bytes ≤ 10000000 * 1000 := Nat.mul_le_mul hm hbb
    omega
  have h63 : n + m ≤ maxLen := by unfold maxLen; omega
  obtain ⟨v', w', r1, r2, r3, r4⟩ := run_append_own (P := P) w base t ty e i z size bytes ht hi hz hsize hby hzs hsz v n xs hown a m c news hl hnews h1 h63 hbytes hbase
  refine ⟨v', w', r1, r2, r3, fun k hk => ?_⟩
  have hown0 := hown
  rcases hown.2 with ⟨rfl, rfl⟩ | ⟨g, cap, cur, rfl, hbg, hg, hnc, hcm, hcs, htake⟩
  · have hx : xs = [] := List.eq_nil_of_length_eq_zero (by have := hown.1; simpa using this)
    subst hx
    obtain ⟨v2, w2, g1, g2, _⟩ := run_append_own (P := P) w w.heap.size t ty e i z size bytes ht hi hz hsize hby hzs hsz (.slice none 0 0) 0 [] (World.ownsRow_nil _ _ _ _) a m c news hl hnews h1 h63 hbytes (Nat.le_refl _)
    rw [r1] at g1
    simp only [Result.ok.injEq] at g1
    obtain ⟨rfl, rfl⟩ := g1
    exact .inr (g2.lt k hk).1
  · by_cases hroom : n + m ≤ cap
    · have hfit : n * i.size + news.length ≤ cur.size := by
        rw [hsize, hl, hcs, ← Nat.add_mul]
        exact Nat.mul_le_mul_right _ hroom
      have hr := run_append_room (P := P) w t ty e i ht hi g n cap cur hg a m c news (by rw [hsize]; exact hl) hnews h1 hroom hfit
      rw [r1] at hr
      simp only [Result.ok.injEq] at hr
      obtain ⟨rfl, rfl⟩ := hr
      exact .inl hk
    · have holds : ∀ j u, xs[j]? = some u → w.cell? ((⟨g, 0, none⟩ : Addr).add j) = some u := hown0.cells (g := g) rfl
      have hr := run_append_grow (P := P) w t ty e i z ht hi hz ⟨g, 0, none⟩ n cap xs (by rw [hsize]; exact hown0.1) holds a m c news (by rw [hsize]; exact hl) hnews (by omega) (by omega) (by rw [hby]; exact growslice_fits (by omega) (by omega))
      rw [r1] at hr
      simp only [Result.ok.injEq] at hr
      obtain ⟨rfl, rfl⟩ := hr
      simp only [Value.ownBlock, Option.some.injEq] at hk
      exact .inr (by omega)
theorem wpList_appF {ops : Array Oper} {rest : List Oper} {o : Oper} {a : Act} {Q : Exit → Act → World → Prop} (hgd : o.guard = none) (s x : Operand) (t : TypeId)
    (ho : o.op = .call { callee := .builtin .append, args := #[s, x], argTypes := #[t, t] })
    (base : Nat) (e : TypeId) (i : TypeInfo) (z : Value) (size bytes : Nat) (ht : P.underlying t = some (.slice e)) (hi : P.info? e = some i) (hz : i.zero = some z)
    (hsize : i.size = size) (hby : i.bytes = bytes) (hzs : z.cells.size = size) (hsz : 0 < size)
    (v : Value) (n : Nat) (xs : List Value) (hs : a.eval s = v) (hown : w.ownsRow base e size v n xs)
    (ad : Addr) (m c : Nat) (news : List Value) (hx : a.eval x = .slice (some ad) m c) (hl : news.length = m * size) (hnews : ∀ j u, news[j]? = some u → w.cell? (ad.add j) = some u) (h1 : ∀ u ∈ news, u.oneCell' = true)
    (hm : n + m ≤ 10000000) (hbb : bytes ≤ 1000) (hbase : base ≤ w.heap.size)
    (h : ∀ v' w', w'.ownsRow base e size v' (n + m) (xs ++ news) → w.grownBy w' v.ownBlock → (∀ k, v'.ownBlock = some k → v.ownBlock = some k ∨ w.heap.size ≤ k) → wpList P ops Q rest (a.put o.dst v') w') : wpList P ops Q (o :: rest) a w := by
  refine wpList_plain hgd fun K hK => ?_
  obtain ⟨v', w', hr, h2, h3, h4⟩ := app_freshG (P := P) (w := w) base t o.type e i z size bytes ht hi hz hsize hby hzs hsz v n xs hown ad m c news hl hnews h1 hm hbb hbase
  unfold Oper.wp execOp
  simp only [ho, resolve, invoke, builtin, Sem.run_bind, Sem.run_pure, Result.andThen_ok, List.map_toArray, List.map_cons, List.map_nil, hs, hx, hr]
  exact hK _ _ (h v' w' h2 h3 h4)
end

end Go.Proofs.YtefnijmgdcfhiaaGreatDoor

namespace Go.Proofs.YtefnijmgdcfhiaaGreatDoor
open Go.RowKit
set_option linter.unusedVariables false
set_option linter.unusedSimpArgs false

def encNd (n : Nd) : List Value := [.int .i64 n.kind, .int .i64 n.val, .string n.name]
def flatN (ns : List Nd) : List Value := ns.flatMap encNd
theorem flatN_len (ns : List Nd) : (flatN ns).length = ns.length * 3 := by
  induction ns with
  | nil => rfl
  | cons n r ih =>
    have : flatN (n :: r) = encNd n ++ flatN r := rfl
    rw [this, List.length_append, ih]
    simp [encNd]
    omega
theorem flatN_append (a b : List Nd) : flatN (a ++ b) = flatN a ++ flatN b := by simp [flatN]
theorem flatN_at (ns : List Nd) (j : Nat) (hj : j < ns.length) : (flatN ns)[j * 3]? = some (.int .i64 ns[j].kind) ∧ (flatN ns)[j * 3 + 1]? = some (.int .i64 ns[j].val) ∧ (flatN ns)[j * 3 + 2]? = some (.string ns[j].name) := by
  induction ns generalizing j with
  | nil => simp at hj
  | cons n r ih =>
    have e : flatN (n :: r) = encNd n ++ flatN r := rfl
    cases j with
    | zero => rw [e]; simp [encNd]
    | succ j =>
      have := ih j (by simpa using hj)
      rw [e]
      have e1 : (j + 1) * 3 = j * 3 + 3 := by omega
      have hl : (encNd n).length = 3 := rfl
      refine ⟨?_, ?_, ?_⟩
      · rw [e1, List.getElem?_append_right (by omega), hl]; simpa using this.1
      · rw [e1, List.getElem?_append_right (by omega), hl, show j * 3 + 3 + 1 - 3 = j * 3 + 1 by omega]; simpa using this.2.1
      · rw [e1, List.getElem?_append_right (by omega), hl, show j * 3 + 3 + 2 - 3 = j * 3 + 2 by omega]; simpa using this.2.2
theorem flatN_split (ns : List Nd) (i : Nat) (hi : i < ns.length * 3) : ∃ j, j < ns.length ∧ (i = j * 3 ∨ i = j * 3 + 1 ∨ i = j * 3 + 2) := ⟨i / 3, by omega, by omega⟩
theorem addrO (g off j : Nat) : (⟨g, off, none⟩ : Addr).add j = ⟨g, off + j, none⟩ := by
  simp [Addr.add]
  try (intro h; omega)
/-- The cells of a slice of nodes, one behind the other. -/
theorem nodes_news {w : World} {b off : Nat} {ns : List Nd} (h : NodesC w b off ns) : ∀ i u, (flatN ns)[i]? = some u → w.cell? ((⟨b, off, none⟩ : Addr).add i) = some u := by
  intro i u hu
  have hi : i < ns.length * 3 := by rw [← flatN_len]; exact (List.getElem?_eq_some_iff.1 hu).1
  obtain ⟨j, hj, he⟩ := flatN_split ns i hi
  obtain ⟨f0, f1, f2⟩ := flatN_at ns j hj
  obtain ⟨c0, c1, c2⟩ := h j hj
  rw [addrO]
  rcases he with rfl | rfl | rfl
  · rw [f0] at hu; cases hu; exact c0
  · rw [f1] at hu; cases hu; rw [← Nat.add_assoc]; exact c1
  · rw [f2] at hu; cases hu; rw [← Nat.add_assoc]; exact c2
theorem flatN_one (ns : List Nd) : ∀ u ∈ flatN ns, u.oneCell' = true := by
  intro u hu
  simp only [flatN, List.mem_flatMap] at hu
  obtain ⟨n, _, hn⟩ := hu
  simp only [encNd, List.mem_cons, List.not_mem_nil, or_false] at hn
  rcases hn with rfl | rfl | rfl <;> rfl
/-- A row of nodes of one's own. -/
def NRow (B : Nat) (w : World) (v : Value) (ns : List Nd) : Prop := w.ownsRow B 93 3 v ns.length (flatN ns)
theorem NRow.nodes {B : Nat} {w : World} {v : Value} {ns : List Nd} (h : NRow B w v ns) : Nodes w v ns := by
  have h0 := h
  obtain ⟨hl, h⟩ := h
  rcases h with ⟨rfl, hz⟩ | ⟨g, cap, cur, rfl, hg, hh, hc1, hc2, hc3, hc4⟩
  · exact ⟨none, 0, by rw [hz], by omega, by omega, fun h => absurd h (by omega)⟩
  · refine ⟨_, cap, rfl, hc1, by simp only [maxLen] at hc2; omega, fun _ => ⟨g, 0, rfl, fun j hj => ?_⟩⟩
    obtain ⟨f0, f1, f2⟩ := flatN_at ns j hj
    have k0 := World.ownsRow.cells h0 (g := g) rfl _ _ f0
    have k1 := World.ownsRow.cells h0 (g := g) rfl _ _ f1
    have k2 := World.ownsRow.cells h0 (g := g) rfl _ _ f2
    rw [addrO] at k0 k1 k2
    exact ⟨k0, by rw [Nat.add_assoc]; exact k1, by rw [Nat.add_assoc]; exact k2⟩
theorem NRow.below {B : Nat} {w w' : World} {v : Value} {ns : List Nd} (h : NRow B w v ns) (hb : Below w.heap.size w w') : NRow B w' v ns := by
  obtain ⟨g1, g2⟩ := h
  refine ⟨g1, ?_⟩
  rcases g2 with g2 | ⟨g, cap, cur, rfl, g3, g4, g5⟩
  · exact .inl g2
  · refine .inr ⟨g, cap, cur, rfl, g3, ?_, g5⟩
    rw [hb.block g (Array.getElem?_eq_some_iff.1 g4).1]
    exact g4
theorem info_node : (Tryz.prog.info? 93).map (fun i => (i.zero, i.size, i.bytes)) = some (some (.agg #[.int .i64 0, .int .i64 0, .string ⟨#[]⟩]), 3, 32) := by kernel_rfl
theorem Nodes.grown {w w' : World} {v : Value} {ns : List Nd} {row : Option Nat} (h : Nodes w v ns) (hg : w.grownBy w' row) (hne : ∀ g, v.ownBlock = some g → row ≠ some g) : Nodes w' v ns := by
  obtain ⟨a, cap, rfl, h1, h2, h⟩ := h
  refine ⟨a, cap, rfl, h1, h2, fun h0 => ?_⟩
  obtain ⟨b, off, rfl, hc⟩ := h h0
  refine ⟨b, off, rfl, fun j hj => ?_⟩
  obtain ⟨c0, c1, c2⟩ := hc j hj
  have hlt := World.block_lt_of_cell? _ _ c0
  have hb := hg.block b hlt (fun e => hne b rfl e.symm)
  exact ⟨(World.cell?_of_block (a := ⟨b, off + j * 3, none⟩) hb).trans c0, (World.cell?_of_block (a := ⟨b, off + j * 3 + 1, none⟩) hb).trans c1, (World.cell?_of_block (a := ⟨b, off + j * 3 + 2, none⟩) hb).trans c2⟩
theorem ownG {w w' : World} {B : Nat} {e : TypeId} {sz : Nat} {v : Value} {n : Nat} {xs : List Value} {row : Option Nat} (h : w.ownsRow B e sz v n xs) (hg : w.grownBy w' row) (hne : ∀ g, v.ownBlock = some g → row ≠ some g) : w'.ownsRow B e sz v n xs := by
  obtain ⟨g1, g2⟩ := h
  refine ⟨g1, ?_⟩
  rcases g2 with g2 | ⟨g, cap, cur, rfl, g3, g4, g5⟩
  · exact .inl g2
  · refine .inr ⟨g, cap, cur, rfl, g3, ?_, g5⟩
    rw [hg.block g (Array.getElem?_eq_some_iff.1 g4).1 (fun e => hne g rfl e.symm)]
    exact g4
theorem ownB {w w' : World} {B : Nat} {e : TypeId} {sz : Nat} {v : Value} {n : Nat} {xs : List Value} (h : w.ownsRow B e sz v n xs) (hb : Below w.heap.size w w') : w'.ownsRow B e sz v n xs := by
  obtain ⟨g1, g2⟩ := h
  refine ⟨g1, ?_⟩
  rcases g2 with g2 | ⟨g, cap, cur, rfl, g3, g4, g5⟩
  · exact .inl g2
  · refine .inr ⟨g, cap, cur, rfl, g3, ?_, g5⟩
    rw [hb.block g (Array.getElem?_eq_some_iff.1 g4).1]
    exact g4
section
variable {w : World}
/-- Nodes appended to a row of one's own. -/
theorem wpList_appN {ops : Array Oper} {rest : List Oper} {o : Oper} {a : Act} {Q : Exit → Act → World → Prop} (hgd : o.guard = none) (s x : Operand)
    (ho : o.op = .call { callee := .builtin .append, args := #[s, x], argTypes := #[89, 89] })
    (B : Nat) (v : Value) (ms : List Nd) (hs : a.eval s = v) (hown : NRow B w v ms) (u : Value) (ns : List Nd) (hx : a.eval x = u) (hN : Nodes w u ns)
    (hp : 0 < ns.length) (hb : ms.length + ns.length ≤ 10000000) (hbase : B ≤ w.heap.size)
    (h : ∀ v' w', NRow B w' v' (ms ++ ns) → w.grownBy w' v.ownBlock → (∀ k, v'.ownBlock = some k → v.ownBlock = some k ∨ w.heap.size ≤ k) → wpList Tryz.prog ops Q rest (a.put o.dst v') w') : wpList Tryz.prog ops Q (o :: rest) a w := by
  obtain ⟨i0, hi, hz0, hz1, hz2⟩ := info_parts info_node
  obtain ⟨ad, cap, rfl, hc1, hc2, hc⟩ := hN
  obtain ⟨b, off, rfl, hC⟩ := hc hp
  refine wpList_appF (w := w) hgd s x _ ho B _ i0 _ 3 32 Tryz.underlying89 hi hz0 hz1 hz2 rfl (by decide) v ms.length (flatN ms) hs hown ⟨b, off, none⟩ ns.length cap (flatN ns) hx (flatN_len ns) (nodes_news hC) (flatN_one ns) (by omega) (by omega) hbase fun v' w' h1 h2 h3 => h v' w' ?_ h2 h3
  unfold NRow
  rw [List.length_append, flatN_append]
  exact h1
end

end Go.Proofs.YtefnijmgdcfhiaaGreatDoor
