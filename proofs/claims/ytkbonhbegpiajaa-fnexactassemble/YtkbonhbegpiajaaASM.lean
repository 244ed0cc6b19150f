import Derived.Test.YtkbonhbegpiajaaASL
import Derived.Test.YtkbonhbegpiajaaRows
import Derived.Deep.Slices
import Derived.Deep.Fields
import Derived.Lib.SmallJoins
import Derived.OpenShut
import Derived.ShutString
import Derived.ChangeOld
namespace Go.Proofs.Ytkbonhbegpiajaa
open Go.RowKit Go.Deep Go.ChangeShapes Go.WideShapes Go.ChangeAt
set_option linter.unusedVariables false
set_option linter.unusedSimpArgs false

section
variable {H : Type} {enc : TypeId × Value → H} {W : World} {base : Nat} {spare : Nat → Bool} {held : Bool}

theorem fields1 {t : TypeId} {fs : Array Field} {fuel : Nat} {cs : List Value} {x : DataW H × List MemPlace} (ht : Try.prog.underlying t = some (.struct fs)) (hone : oneCellFields Try.prog fs = true) (hC : Try.prog.cellsOf t = fs.size) (h : DataW.trod enc Try.prog W base spare held fuel t cs = some x) :
    ∃ n, cs.length = fs.size ∧ ∀ i f, fs[i]? = some f → ∃ y, DataW.trod enc Try.prog W base spare held n f.type [cs.getD i .nilFunc] = some y := by
  obtain ⟨xs, n, _, _, hl, hx, hf⟩ := DataW.trod_struct ht h
  refine ⟨n, hl.trans hC, fun i f hi => ?_⟩
  have hlt : i < fs.size := (Array.getElem?_eq_some_iff.1 hi).1
  obtain ⟨o, c⟩ := hone_of hone i f hi
  have := hf i f hi
  rw [o, c, take1_drop cs i .nilFunc (by omega)] at this
  rw [this]
  exact ⟨xs[i]'(by omega), by simp⟩

/-- The cells of one element of a slice. -/
theorem elem_cells {b off m i k : Nat} {cs : List Value} (h : W.cells? base ((⟨b, off, none⟩ : Addr).add (i * m)) m = some cs) (hk : k < m) : W.cell? ⟨b, off + i * m + k, none⟩ = cs[k]? := by
  obtain ⟨_, _, hc⟩ := World.cells?_some h
  have := hc k hk
  rw [add_add] at this
  rw [← this]
  congr 1
  simp only [Addr.add]
  split
  · simp only [Addr.mk.injEq, and_true, true_and]; omega
  · simp only [Addr.mk.injEq, and_true, true_and]; omega
theorem spot_none {a : Addr} {m : Nat} {cs : List Value} (h : W.cells? base (a.add (0 * m)) m = some cs) (hm : 0 < m) : ∃ b off, a = ⟨b, off, none⟩ := by
  obtain ⟨b, off, spot⟩ := a
  obtain ⟨_, hl, hc⟩ := World.cells?_some h
  have h0 := hc 0 hm
  rw [List.getElem?_eq_getElem (by omega)] at h0
  have hs : spot = none := by simpa [Addr.add] using World.cell?_spot h0
  exact ⟨b, off, by rw [hs]⟩
/-- From each element's reading to a list. -/
theorem slice_list {α : Type} (i0 : α) {t e : TypeId} {m fuel : Nat} {v : Value} {x : DataW H × List MemPlace} (ht : Try.prog.underlying t = some (.slice e)) (hm : Try.prog.cellsOf e = m) (hpos : 0 < m) (P : α → List Value → Prop)
    (hel : ∀ n cs y, DataW.trod enc Try.prog W base spare held n e cs = some y → ∃ z, P z cs) (h : DataW.trod enc Try.prog W base spare held fuel t [v] = some x) :
    ∃ (a : Option Addr) (ns : List α) (cap : Nat), v = .slice a ns.length cap ∧ ns.length ≤ cap ∧ cap ≤ 9223372036854775807 ∧ (∀ z ∈ ns, ∃ cs, P z cs) ∧
      (0 < ns.length → ∃ b off, a = some ⟨b, off, none⟩ ∧ ∀ j (hj : j < ns.length), ∃ cs, P ns[j] cs ∧ ∀ k, k < m → W.cell? ⟨b, off + j * m + k, none⟩ = cs[k]?) := by
  haveI : Inhabited α := ⟨i0⟩
  rcases open_slice ht h with ⟨hc, _⟩ | ⟨a, len, cap, mm, n, D, Pl, hcs, _, hl, hcap, hmm, _, hx⟩
  · simp only [List.cons.injEq, and_true] at hc
    subst hc
    exact ⟨none, [], 0, rfl, Nat.le_refl _, by omega, by simp, fun h => absurd h (Nat.lt_irrefl _)⟩
  · simp only [List.cons.injEq, and_true] at hcs
    subst hcs
    unfold maxLen at hcap
    rw [hm] at hx
    have hle : len ≤ mm := by rw [hmm]; split <;> omega
    obtain ⟨f, hf⟩ := choose_lt (α := α) (n := len) (p := fun i z => ∃ cs, P z cs ∧ W.cells? base (a.add (i * m)) m = some cs) (fun i hi => by
      obtain ⟨cs, h1, h2⟩ := hx i (by omega)
      obtain ⟨z, hz⟩ := hel _ _ _ h2
      exact ⟨z, cs, hz, h1⟩)
    refine ⟨some a, (List.range len).map f, cap, by simp, by simpa using hl, by omega, fun z hz => ?_, fun h0 => ?_⟩
    · obtain ⟨i, hi, rfl⟩ := List.mem_map.1 hz
      obtain ⟨cs, h1, _⟩ := hf i (List.mem_range.1 hi)
      exact ⟨cs, h1⟩
    · simp only [List.length_map, List.length_range] at h0
      obtain ⟨cs0, _, hc0⟩ := hf 0 h0
      obtain ⟨b, off, rfl⟩ := spot_none hc0 hpos
      refine ⟨b, off, rfl, fun j hj => ?_⟩
      simp only [List.length_map, List.length_range] at hj
      obtain ⟨cs, h1, h2⟩ := hf j hj
      refine ⟨cs, by simpa using h1, fun k hk => elem_cells h2 hk⟩

theorem rd_int {fuel : Nat} {c : Value} {y : DataW H × List MemPlace} (h : DataW.trod enc Try.prog W base spare held fuel 2 [c] = some y) : ∃ z : Int, c = .int .i64 z ∧ (Lit.int .i64 z).wf = true := by
  obtain ⟨z, hz, _, hw⟩ := DataW.trod_int Try.underlying2 h
  exact ⟨z, by simpa using hz, hw⟩
theorem list5 {cs : List Value} (h : cs.length = 5) : cs = [cs.getD 0 .nilFunc, cs.getD 1 .nilFunc, cs.getD 2 .nilFunc, cs.getD 3 .nilFunc, cs.getD 4 .nilFunc] := by
  match cs, h with
  | [a, b, c, d, e], _ => rfl
theorem rd_inst {fuel : Nat} {cs : List Value} {y : DataW H × List MemPlace} (h : DataW.trod enc Try.prog W base spare held fuel 48 cs = some y) : ∃ x : Ins, cs = [.int .i64 x.op, .int .i64 x.rd, .int .i64 x.s1, .int .i64 x.s2, .int .i64 x.im] := by
  obtain ⟨n, hl, hf⟩ := fields1 Try.underlying48 (by kernel_rfl) (by kernel_rfl) h
  obtain ⟨_, h0⟩ := hf 0 _ rfl
  obtain ⟨_, h1⟩ := hf 1 _ rfl
  obtain ⟨_, h2⟩ := hf 2 _ rfl
  obtain ⟨_, h3⟩ := hf 3 _ rfl
  obtain ⟨_, h4⟩ := hf 4 _ rfl
  obtain ⟨k0, e0, _⟩ := rd_int h0
  obtain ⟨k1, e1, _⟩ := rd_int h1
  obtain ⟨k2, e2, _⟩ := rd_int h2
  obtain ⟨k3, e3, _⟩ := rd_int h3
  obtain ⟨k4, e4, _⟩ := rd_int h4
  exact ⟨⟨k0, k1, k2, k3, k4⟩, by rw [list5 hl, e0, e1, e2, e3, e4]⟩
def cellsI (x : It) (cs : List Value) : Prop := cs = encT x ∧ (Lit.int .i64 x.label).wf = true
theorem list7 {cs : List Value} (h : cs.length = 7) : ∃ a b c d e f g, cs = [a, b, c, d, e, f, g] := by
  match cs, h with
  | [a, b, c, d, e, f, g], _ => exact ⟨a, b, c, d, e, f, g, rfl⟩
theorem cells_item : Try.prog.cellsOf 50 = 7 := by kernel_rfl
theorem cells_inst : Try.prog.cellsOf 48 = 5 := by kernel_rfl
theorem cells_i64 : Try.prog.cellsOf 2 = 1 := by kernel_rfl
theorem rd_item {fuel : Nat} {cs : List Value} {y : DataW H × List MemPlace} (h : DataW.trod enc Try.prog W base spare held fuel 50 cs = some y) : ∃ x, cellsI x cs := by
  obtain ⟨xs, n, _, _, hl, hx, hf⟩ := DataW.trod_struct Try.underlying50 h
  rw [cells_item] at hl
  obtain ⟨a, b, c, d, e, f, g, rfl⟩ := list7 hl
  have hx3 : xs.length = 3 := hx
  have g0 : DataW.trod enc Try.prog W base spare held n 2 (([a, b, c, d, e, f, g].drop 0).take (Try.prog.cellsOf 2)) = xs[0]? := hf 0 _ rfl
  have g1 : DataW.trod enc Try.prog W base spare held n 48 (([a, b, c, d, e, f, g].drop 1).take (Try.prog.cellsOf 48)) = xs[1]? := hf 1 _ rfl
  have g2 : DataW.trod enc Try.prog W base spare held n 2 (([a, b, c, d, e, f, g].drop 6).take (Try.prog.cellsOf 2)) = xs[2]? := hf 2 _ rfl
  rw [cells_i64] at g0 g2
  rw [cells_inst] at g1
  simp only [List.drop_succ_cons, List.drop_zero, List.take_succ_cons, List.take_zero] at g0 g1 g2
  rw [List.getElem?_eq_getElem (by omega)] at g0 g1 g2
  obtain ⟨k, rfl, _⟩ := rd_int g0
  obtain ⟨x, e1⟩ := rd_inst g1
  obtain ⟨lb, rfl, hw⟩ := rd_int g2
  simp only [List.cons.injEq, and_true] at e1
  obtain ⟨rfl, rfl, rfl, rfl, rfl⟩ := e1
  exact ⟨⟨k, x, lb⟩, rfl, hw⟩
theorem rd_items {fuel : Nat} {v : Value} {y : DataW H × List MemPlace} (h : DataW.trod enc Try.prog W base spare held fuel 22 [v] = some y) : ∃ ns, Items W v ns ∧ ns.length ≤ 9223372036854775807 ∧ ∀ i, i < ns.length → (Lit.int .i64 (ns.getD i it0).label).wf = true := by
  obtain ⟨a, ns, cap, rfl, hl, hc, hall, hx⟩ := slice_list it0 (m := 7) Try.underlying22 (by kernel_rfl) (by omega) cellsI (fun n cs y h => rd_item h) h
  refine ⟨ns, ⟨a, cap, rfl, hl, hc, fun h0 => ?_⟩, by omega, fun i hi => ?_⟩
  · obtain ⟨b, off, rfl, hj⟩ := hx h0
    refine ⟨b, off, rfl, fun j hlt => ?_⟩
    obtain ⟨cs, ⟨rfl, _⟩, hk⟩ := hj j hlt
    exact ⟨hk 0 (by omega), hk 1 (by omega), hk 2 (by omega), hk 3 (by omega), hk 4 (by omega), hk 5 (by omega), hk 6 (by omega)⟩
  · have e : ns.getD i it0 = ns[i] := by simp [List.getD, hi]
    rw [e]
    obtain ⟨cs, _, hs⟩ := hall ns[i] (List.getElem_mem _)
    exact hs
end
theorem ownA : ownKnob Try.prog.godebug = none := by kernel_rfl
theorem laidOutA : laidOutB Try.prog = true := by kernel_rfl
set_option maxRecDepth 100000 in
theorem liftedA (os : Os) (started : os.Started) (H : Type) (enc : TypeId × Value → H) :
    ReturnsInHanded {} Try.checked os 3 .any (Rows.fnExactAssembleSpec.pre6 enc Try.prog Try.f3 Rows.fnExactAssembleRow.domain false) (Rows.fnExactAssembleSpec.post enc Try.prog Try.f3 false true false false) := by
  haveI : Inhabited Pick := ⟨⟨fun _ h => Classical.choice h⟩⟩
  refine returnsInHanded_of_change (C := Try.checked) ownA started (by kernel_rfl) Try.func3
    (ChangeSpec.witness6 (enc := enc) (C := Try.checked) false ⟨#[], #[.slice none 0 0], []⟩ 8 (by kernel_rfl) (by kernel_rfl) (by kernel_rfl) (by kernel_rfl)) ?_
  intro W base args ds gs before hval0 hW hcnd _
  have hval : ∀ (j : Nat) t v, Try.f3.params[j]? = some t → args[j]? = some v → Value.okWide Try.prog W .any base t v := hval0
  have hW' := hW
  obtain ⟨p, q, hA0, hV, rfl, hfz, hnd⟩ := hW
  have hA : DataW.TrodAll enc Try.prog W 0 (fun _ => true) true Try.f3.params.toList args.toList ds p := hA0
  rw [Try.params3] at hA hval
  obtain ⟨v0, vs0, d0, ds0, p0, q0, hargs, rfl, rfl, h0, r0⟩ := trodAll_cons hA
  obtain ⟨rfl, rfl, rfl⟩ := trodAll_nil r0
  obtain rfl : args = #[v0] := by cases args; simp_all
  obtain ⟨rfl, rfl⟩ := trodVars_none hV
  obtain ⟨x0, y0, z0, rfl⟩ := okWide_slice Try.underlying22 (hval 0 22 v0 rfl rfl)
  have k0 := h0
  have lt0 : ∀ x ∈ p0, x.block < W.heap.size := by obtain ⟨m, hm⟩ := k0; exact DataW.trod_lt m _ _ _ hm
  obtain ⟨f0, hf0⟩ := h0
  obtain ⟨ns, hN, hsz, hwf⟩ := rd_items (v := .slice x0 y0 z0) hf0
  clear hA0 hval0
  refine (law_asm ns (.slice x0 y0 z0) W hwf hsz hN).mono fun e W' ⟨he, bel⟩ => ?_
  subst he
  exact ⟨_, rfl, _, _, _, [], _, [], hW', trodAll_mk1 (shut_bool Try.underlying4 _), (trodAll_cons_mk (Below.trod laidOutA (by kernel_rfl) (of_decide_eq_true (by kernel_rfl)) k0 bel lt0) trodAll_mk0), rfl, bel.frame _, fun h => by cases h⟩
theorem overA : Rows.fnExactAssembleRow.holds Try.pinned (OpenSpec.ofChange Rows.fnExactAssembleSpec) :=
  OpenClaim.holds_of_wide 3 Try.f3 rfl rfl rfl rfl rfl rfl rfl ⟨rfl, rfl, rfl, rfl, rfl⟩ rfl rfl rfl rfl rfl (by kernel_rfl) Try.func3 (by kernel_rfl)
    (of_decide_eq_true (by kernel_rfl)) (by unfold Func.isWrapper; first | (rw [if_pos (by decide +kernel)]; kernel_rfl) | (rw [if_neg (by decide +kernel)]; exact ⟨rfl, rfl⟩))
    (fun os started H enc _ => liftedA os started H enc)
theorem assemble_holds : Rows.FnExactAssembleSaid := overA
#print axioms assemble_holds
end Go.Proofs.Ytkbonhbegpiajaa
