import Derived.Test.YtlamjfhhefcohaaGreatDoorM51
import Derived.Deep.Slices
import Derived.Deep.Fields
import Derived.Lib.SmallJoins
namespace Go.Proofs.YtlamjfhhefcohaaGreatDoor
set_option linter.unusedVariables false
set_option linter.unusedSimpArgs false
set_option maxRecDepth 100000
set_option maxHeartbeats 16000000
section
open Go.RowKit Go.Deep Go.ChangeShapes Go.WideShapes
section
variable {H : Type} {enc : TypeId × Value → H} {W : World} {base : Nat} {spare : Nat → Bool} {held : Bool}
theorem elem_cells {b off m i k : Nat} {cs : List Value} (h : W.cells? base ((⟨b, off, none⟩ : Addr).add (i * m)) m = some cs) (hk : k < m) : W.cell? ⟨b, off + i * m + k, none⟩ = cs[k]? := by
 obtain ⟨_, _, hc⟩ := World.cells?_some h
 have := hc k hk
 rw [add_add] at this
 rw [← this]
 congr 1
 simp only [Addr.add]
 split
 ·simp only [Addr.mk.injEq, and_true, true_and]; omega
 ·simp only [Addr.mk.injEq, and_true, true_and]; omega
theorem spot_none {a : Addr} {m : Nat} {cs : List Value} (h : W.cells? base (a.add (0 * m)) m = some cs) (hm : 0 < m) : ∃ b off, a = ⟨b, off, none⟩ := by
 obtain ⟨b, off, spot⟩ := a
 obtain ⟨_, hl, hc⟩ := World.cells?_some h
 have h0 := hc 0 hm
 rw [List.getElem?_eq_getElem (by omega)] at h0
 have hs : spot = none := by simpa [Addr.add] using World.cell?_spot h0
 exact ⟨b, off, by rw [hs]⟩
theorem slice_list {α : Type} [Inhabited α] {t e : TypeId} {m fuel : Nat} {v : Value} {x : DataW H × List MemPlace} (ht : Tryz.prog.underlying t = some (.slice e)) (hm : Tryz.prog.cellsOf e = m) (hpos : 0 < m) (P : α → List Value → Prop)
  (hel : ∀ n cs y, DataW.trod enc Tryz.prog W base spare held n e cs = some y → ∃ z, P z cs) (h : DataW.trod enc Tryz.prog W base spare held fuel t [v] = some x) :
  ∃ (a : Option Addr) (ns : List α) (cap : Nat), v = .slice a ns.length cap ∧ ns.length ≤ cap ∧ cap ≤ 9223372036854775807 ∧ (∀ z ∈ ns, ∃ cs, P z cs) ∧
   (0 < ns.length → ∃ b off, a = some ⟨b, off, none⟩ ∧ ∀ j (hj : j < ns.length), ∃ cs, P ns[j] cs ∧ ∀ k, k < m → W.cell? ⟨b, off + j * m + k, none⟩ = cs[k]?) := by
 rcases open_slice ht h with ⟨hc, _⟩ | ⟨a, len, cap, mm, n, D, Pl, hcs, _, hl, hcap, hmm, _, hx⟩
 ·simp only [List.cons.injEq, and_true] at hc
  subst hc
  exact ⟨none, [], 0, rfl, Nat.le_refl _, by omega, by simp, fun h => absurd h (Nat.lt_irrefl _)⟩
 ·simp only [List.cons.injEq, and_true] at hcs
  subst hcs
  unfold maxLen at hcap
  rw [hm] at hx
  have hle : len ≤ mm := by rw [hmm]; split <;> omega
  obtain ⟨f, hf⟩ := choose_lt (α := α) (n := len) (p := fun i z => ∃ cs, P z cs ∧ W.cells? base (a.add (i * m)) m = some cs) (fun i hi => by
   obtain ⟨cs, h1, h2⟩ := hx i (by omega)
   obtain ⟨z, hz⟩ := hel _ _ _ h2
   exact ⟨z, cs, hz, h1⟩)
  refine ⟨some a, (List.range len).map f, cap, by simp, by simpa using hl, by omega, fun z hz => ?_, fun h0 => ?_⟩
  ·obtain ⟨i, hi, rfl⟩ := List.mem_map.1 hz
   obtain ⟨cs, h1, _⟩ := hf i (List.mem_range.1 hi)
   exact ⟨cs, h1⟩
  ·simp only [List.length_map, List.length_range] at h0
   obtain ⟨cs0, _, hc0⟩ := hf 0 h0
   obtain ⟨b, off, rfl⟩ := spot_none hc0 hpos
   refine ⟨b, off, rfl, fun j hj => ?_⟩
   simp only [List.length_map, List.length_range] at hj
   obtain ⟨cs, h1, h2⟩ := hf j hj
   refine ⟨cs, by simpa using h1, fun k hk => elem_cells h2 hk⟩
theorem u8_of {z : Int} (h : (Lit.int .u8 z).wf = true) : ∃ c : UInt8, .int .u8 z = vB c := by
 have h2 : 0 ≤ z ∧ z ≤ 255 := by
  have h3 : (decide (0 ≤ z) && decide (z ≤ 255)) = true := h
  simpa using h3
 refine ⟨UInt8.ofNat z.toNat, ?_⟩
 unfold vB cI
 have : (UInt8.ofNat z.toNat).toNat = z.toNat := by rw [UInt8.toNat_ofNat']; omega
 rw [this]
 congr 1
 omega
theorem rd_bytes {fuel : Nat} {v : Value} {y : DataW H × List MemPlace} (h : DataW.trod enc Tryz.prog W base spare held fuel 22 [v] = some y) : ∃ l, RdB W v l ∧ l.length ≤ 9223372036854775807 := by
 obtain ⟨a, ns, cap, rfl, hl, hc, hall, hx⟩ := slice_list (m := 1) Tryz.underlying22 (by kernel_rfl) (by omega) (fun (z : UInt8) cs => cs = [vB z]) (fun n cs y h => by
  obtain ⟨z, hz, _, hw⟩ := DataW.trod_int Tryz.underlying5 h
  obtain ⟨c, hc⟩ := u8_of hw
  exact ⟨c, by rw [hz, hc]⟩) h
 refine ⟨ns, ⟨a, cap, rfl, fun h0 => ?_⟩, by omega⟩
 obtain ⟨b, off, rfl, hj⟩ := hx h0
 refine ⟨b, off, rfl, fun j hlt => ?_⟩
 obtain ⟨cs, rfl, hk⟩ := hj j hlt
 have := hk 0 (by omega)
 rw [show off + j * 1 + 0 = off + j by omega] at this
 exact this
end
end
end Go.Proofs.YtlamjfhhefcohaaGreatDoor
