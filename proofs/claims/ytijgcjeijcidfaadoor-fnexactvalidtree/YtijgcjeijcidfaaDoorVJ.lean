import Derived.Test.YtijgcjeijcidfaaDoorVI
namespace Go.Proofs.YtijgcjeijcidfaaDoor
open Go.RowKit
set_option linter.unusedVariables false
set_option linter.unusedSimpArgs false

/-- Every block from B on that was there is as it was. -/
def Keep (B : Nat) (w w' : World) : Prop := ∀ k, B ≤ k → k < w.heap.size → w'.heap[k]? = w.heap[k]?
theorem Keep.of_below {B : Nat} {w w' : World} (h : Below w.heap.size w w') : Keep B w w' := fun k _ hk => h.block k hk
theorem setMany_heap (us : List Value) : ∀ (w : World) (g i k : Nat), k ≠ g → (setMany w g i us).heap[k]? = w.heap[k]? := by
  induction us with
  | nil => intro w g i k h; rfl
  | cons u r ih =>
    intro w g i k h
    simp only [setMany]
    rw [ih _ _ _ _ h]
    exact Below.heap_setCell w ⟨g, i, none⟩ u k h
theorem Keep.of_set {B : Nat} {w : World} {g i : Nat} {us : List Value} (h : g < B) : Keep B w (setMany w g i us) := fun k hk _ => setMany_heap us w g i k (by omega)
theorem Keep.trans {B : Nat} {w1 w2 w3 : World} (h : Keep B w1 w2) (hs : w1.heap.size ≤ w2.heap.size) (k : Keep B w2 w3) : Keep B w1 w3 := fun i hi hl => (k i hi (by omega)).trans (h i hi hl)
theorem owns_keep {w w' : World} {base e size n cap g : Nat} {xs : List Value} (h : w.ownsRow base e size (.slice (some ⟨g, 0, none⟩) n cap) n xs) (hb : Keep base w w') : w'.ownsRow base e size (.slice (some ⟨g, 0, none⟩) n cap) n xs := by
  refine ⟨h.1, ?_⟩
  rcases h.2 with hn | ⟨g', cap', cur, he, hB, hg, rest⟩
  · exact .inl hn
  · refine .inr ⟨g', cap', cur, he, hB, ?_, rest⟩
    rw [hb g' hB (Array.getElem?_eq_some_iff.1 hg).1]
    exact hg
theorem owns_mono {w : World} {base base' e size n cap g : Nat} {xs : List Value} (h : w.ownsRow base e size (.slice (some ⟨g, 0, none⟩) n cap) n xs) (hb : base' ≤ base) : w.ownsRow base' e size (.slice (some ⟨g, 0, none⟩) n cap) n xs := by
  refine ⟨h.1, ?_⟩
  rcases h.2 with hn | ⟨g', cap', cur, he, hB, rest⟩
  · exact .inl hn
  · exact .inr ⟨g', cap', cur, he, by omega, rest⟩
theorem NodesO.keep {B : Nat} {w w' : World} {v : Value} {ns : List Nd} (h : NodesO B w v ns) (hb : Keep B w w') : NodesO B w' v ns := by
  obtain ⟨g, xs, rfl, ho, hx⟩ := h
  exact ⟨g, xs, rfl, owns_keep ho hb, hx⟩
theorem NodesO.mono {B B' : Nat} {w : World} {v : Value} {ns : List Nd} (h : NodesO B w v ns) (hb : B' ≤ B) : NodesO B' w v ns := by
  obtain ⟨g, xs, rfl, ho, hx⟩ := h
  exact ⟨g, xs, rfl, owns_mono ho hb, hx⟩

def encP (s : ByteArray) : List Value := [.string s]
def StrsO (B : Nat) (w : World) (v : Value) (ns : List ByteArray) : Prop := ∃ g xs, v = .slice (some ⟨g, 0, none⟩) ns.length ns.length ∧ w.ownsRow B 9 1 v ns.length xs ∧ RowIs (fun j => encP (ns.getD j ⟨#[]⟩)) 1 ns.length xs
theorem StrsO.strs {B : Nat} {w : World} {v : Value} {ns : List ByteArray} (h : StrsO B w v ns) (hm : ns.length ≤ 9223372036854775807) : Strs w v ns := by
  obtain ⟨g, xs, rfl, ho, hx⟩ := h
  refine ⟨_, _, rfl, Nat.le_refl _, hm, fun h0 => ⟨g, 0, rfl, fun j hj => ?_⟩⟩
  have hl := ho.1
  have hk := hx j hj 0 (by omega)
  rw [Nat.zero_add, ho.cellAt j (by omega)]
  rw [show j * 1 + 0 = j by omega] at hk
  rw [hk]
  simp [encP, List.getD, hj]
theorem StrsO.keep {B : Nat} {w w' : World} {v : Value} {ns : List ByteArray} (h : StrsO B w v ns) (hb : Keep B w w') : StrsO B w' v ns := by
  obtain ⟨g, xs, rfl, ho, hx⟩ := h
  exact ⟨g, xs, rfl, owns_keep ho hb, hx⟩
theorem StrsO.mono {B B' : Nat} {w : World} {v : Value} {ns : List ByteArray} (h : StrsO B w v ns) (hb : B' ≤ B) : StrsO B' w v ns := by
  obtain ⟨g, xs, rfl, ho, hx⟩ := h
  exact ⟨g, xs, rfl, owns_mono ho hb, hx⟩
theorem inf_str : (Tryd.prog.info? 9).map (fun i => (i.zero, i.size, i.bytes)) = some (some (.string ⟨#[]⟩), 1, 16) := by kernel_rfl

set_option maxHeartbeats 1000000 in
theorem toStrs_any (v : Value) (ns : List ByteArray) (w : World) (hl : ns.length ≤ 1048576) (hc : Strs w v ns) :
    Calls Tryd.prog 38 #[v] w fun e w' => ∃ v', e = .returned v' ∧ StrsO w.heap.size w' v' ns ∧ Below w.heap.size w w' := by
  obtain ⟨a, cap, rfl, hcl, hcm, hc⟩ := hc
  have HC : Hid (0 < ns.length → ∃ b off, a = some ⟨b, off, none⟩ ∧ StrsC w b off ns) := hc
  clear hc
  obtain ⟨i0, hi, hz0, hz1, hz2⟩ := info_parts inf_str
  go_enter Tryd.func38, Tryd.ntmps38
  go_wp2_with (at_make; refine wpList_make_full _ rfl _ _ 42 rfl w.heap.size 9 i0 (.string ⟨#[]⟩) 1 Tryd.underlying42 hi hz0 hz1 _ _ _ _ ns.length rfl rfl (by omega) (by omega) ?_ ?_ (Nat.le_refl _) ?_)
  · rw [hz2]; omega
  · unfold maxLen; omega
  intro w1 hown1 hgrow1
  have hnx1 : Below w.heap.size w w1 := (Below.refl _ _).grown hgrow1 (Nat.le_refl _) (by simp)
  go_wp2_with fail
  go_loopw [4] (fun i wr => ∃ (k : Nat) (xs : List Value), k ≤ ns.length ∧ i = .int .i64 k ∧ wr.ownsRow w.heap.size 9 1 (.slice (some ⟨w.heap.size, 0, none⟩) ns.length ns.length) ns.length xs ∧ RowIs (fun j => encP (ns.getD j ⟨#[]⟩)) 1 k xs ∧ Below w.heap.size w wr)
    (fun i _ => ns.length - (intOf i).toNat)
  case atStart => exact ⟨0, _, Nat.zero_le _, rfl, hown1, RowIs.zero _ _ _, hnx1⟩
  case round =>
    obtain ⟨k, xs, hk, rfl, hown, hxs, hB⟩ := hrel
    clear hown1 hgrow1 hnx1
    have HX : Hid (RowIs (fun j => encP (ns.getD j ⟨#[]⟩)) 1 k xs) := hxs
    clear hxs
    by_cases hlt : k < ns.length
    · obtain ⟨b, off, rfl, hc⟩ := HC.out (by omega)
      have d0 := (hc.below hB) k hlt
      have HN : Hid (encP (ns.getD k ⟨#[]⟩) = encP ns[k]) := by show _ = _; simp [List.getD, hlt]
      clear hc
      generalize ns[k] = n at d0 HN
      obtain ⟨⟨y0, o0⟩, f0⟩ := own_old hown k (by omega)
      have HR : Hid (World.ownsRow (setMany wr w.heap.size (k * 1) (encP n)) w.heap.size 9 1 (.slice (some ⟨w.heap.size, 0, none⟩) ns.length ns.length) ns.length _) := owns_put (encP n) wr xs (k * 1) hown
      have HL : Hid (xs.length = ns.length * 1) := hown.1
      have HB3 : Hid (Below w.heap.size w (setMany wr w.heap.size (k * 1) (encP n))) := below_put (Nat.le_refl _) (encP n) wr (k * 1) hB
      rw [Nat.mul_one] at HR HB3
      clear hown
      go_wp2_with fail
      go_roundw
      case rel => exact ⟨k + 1, _, by omega, by go_num, HR.out, by have h := HX.out.step (fun _ _ => rfl) HN.out rfl (by have := HL.out; omega); rw [Nat.mul_one] at h; exact h, HB3.out⟩
      case measure => simp [intOf]; omega
    · have HO : Hid (wr.ownsRow w.heap.size 9 1 (.slice (some ⟨w.heap.size, 0, none⟩) ns.length ns.length) ns.length xs) := hown
      clear hown
      have HK : Hid (k = ns.length) := by show _ = _; omega
      go_wp2_with fail
      go_ret
      exact ⟨_, rfl, ⟨w.heap.size, xs, rfl, HO.out, by rw [← HK.out]; exact HX.out⟩, hB⟩

def encG (g : Gl) : List Value := [.string g.name, .int .i64 g.size]
def GlobsO (B : Nat) (w : World) (v : Value) (ns : List Gl) : Prop := ∃ g xs, v = .slice (some ⟨g, 0, none⟩) ns.length ns.length ∧ w.ownsRow B 39 2 v ns.length xs ∧ RowIs (fun j => encG (ns.getD j ⟨⟨#[]⟩, 0⟩)) 2 ns.length xs
theorem GlobsO.globs {B : Nat} {w : World} {v : Value} {ns : List Gl} (h : GlobsO B w v ns) (hm : ns.length ≤ 9223372036854775807) : Globs w v ns := by
  obtain ⟨g, xs, rfl, ho, hx⟩ := h
  refine ⟨_, _, rfl, Nat.le_refl _, hm, fun h0 => ⟨g, 0, rfl, fun j hj => ?_⟩⟩
  have hl := ho.1
  have key : ∀ i, i < 2 → w.cell? ⟨g, 0 + j * 2 + i, none⟩ = (encG ns[j])[i]? := fun i hi => by
    rw [Nat.zero_add, ho.cellAt (j * 2 + i) (by omega), hx j hj i hi]
    simp [List.getD, hj]
  exact ⟨key 0 (by omega), key 1 (by omega)⟩
theorem GlobsO.keep {B : Nat} {w w' : World} {v : Value} {ns : List Gl} (h : GlobsO B w v ns) (hb : Keep B w w') : GlobsO B w' v ns := by
  obtain ⟨g, xs, rfl, ho, hx⟩ := h
  exact ⟨g, xs, rfl, owns_keep ho hb, hx⟩
theorem GlobsO.mono {B B' : Nat} {w : World} {v : Value} {ns : List Gl} (h : GlobsO B w v ns) (hb : B' ≤ B) : GlobsO B' w v ns := by
  obtain ⟨g, xs, rfl, ho, hx⟩ := h
  exact ⟨g, xs, rfl, owns_mono ho hb, hx⟩
theorem inf_glob : (Tryd.prog.info? 39).map (fun i => (i.zero, i.size, i.bytes)) = some (some (.agg #[.string ⟨#[]⟩, .int .i64 0]), 2, 24) := by kernel_rfl

set_option maxHeartbeats 1000000 in
theorem toGlob_any (g : Gl) (w : World) : Calls Tryd.prog 27 #[.agg #[.string g.name, .int .i64 g.size]] w fun e w' => e = .returned (.agg #[.string g.name, .int .i64 g.size]) ∧ Below w.heap.size w w' := by
  obtain ⟨s, z⟩ := g
  simp only
  go_enter Tryd.func27, Tryd.ntmps27
  go_wp2_with fail
  exact bodyPost_ret (v := .agg #[.string s, .int .i64 z]) (by simp [results, Tryd.results27, go_sem]) rfl ⟨rfl, (((Below.refl _ _).alloc (Nat.le_refl _) _).alloc (by simp) _).alloc (by simp; omega) _⟩

set_option maxHeartbeats 1000000 in
theorem toGlobs_any (v : Value) (ns : List Gl) (w : World) (hl : ns.length ≤ 1048576) (hc : Globs w v ns) :
    Calls Tryd.prog 14 #[v] w fun e w' => ∃ v', e = .returned v' ∧ GlobsO w.heap.size w' v' ns ∧ Below w.heap.size w w' := by
  obtain ⟨a, cap, rfl, hcl, hcm, hc⟩ := hc
  have HC : Hid (0 < ns.length → ∃ b off, a = some ⟨b, off, none⟩ ∧ GlobsC w b off ns) := hc
  clear hc
  obtain ⟨i0, hi, hz0, hz1, hz2⟩ := info_parts inf_glob
  go_enter Tryd.func14, Tryd.ntmps14
  go_wp2_with (at_make; refine wpList_make_full _ rfl _ _ 28 rfl w.heap.size 39 i0 (.agg #[.string ⟨#[]⟩, .int .i64 0]) 2 Tryd.underlying28 hi hz0 hz1 _ _ _ _ ns.length rfl rfl (by omega) (by omega) ?_ ?_ (Nat.le_refl _) ?_)
  · rw [hz2]; omega
  · unfold maxLen; omega
  intro w1 hown1 hgrow1
  have hnx1 : Below w.heap.size w w1 := (Below.refl _ _).grown hgrow1 (Nat.le_refl _) (by simp)
  go_wp2_with fail
  go_loopw [4] (fun i wr => ∃ (k : Nat) (xs : List Value), k ≤ ns.length ∧ i = .int .i64 k ∧ wr.ownsRow w.heap.size 39 2 (.slice (some ⟨w.heap.size, 0, none⟩) ns.length ns.length) ns.length xs ∧ RowIs (fun j => encG (ns.getD j ⟨⟨#[]⟩, 0⟩)) 2 k xs ∧ Below w.heap.size w wr)
    (fun i _ => ns.length - (intOf i).toNat)
  case atStart => exact ⟨0, _, Nat.zero_le _, rfl, hown1, RowIs.zero _ _ _, hnx1⟩
  case round =>
    obtain ⟨k, xs, hk, rfl, hown, hxs, hB⟩ := hrel
    clear hown1 hgrow1 hnx1
    have HX : Hid (RowIs (fun j => encG (ns.getD j ⟨⟨#[]⟩, 0⟩)) 2 k xs) := hxs
    clear hxs
    by_cases hlt : k < ns.length
    · obtain ⟨b, off, rfl, hc⟩ := HC.out (by omega)
      obtain ⟨d0, d1⟩ := (hc.below hB) k hlt
      have HN : Hid (encG (ns.getD k ⟨⟨#[]⟩, 0⟩) = encG ns[k]) := by show _ = _; simp [List.getD, hlt]
      clear hc
      generalize ns[k] = n at d0 d1 HN
      have HO : Hid (wr.ownsRow w.heap.size 39 2 (.slice (some ⟨w.heap.size, 0, none⟩) ns.length ns.length) ns.length xs) := hown
      clear hown
      go_wp2_with fail
      refine (toGlob_any n _).mono ?_
      rintro e w2 ⟨rfl, hb2⟩
      have hown2 := owns_below HO.out hb2
      obtain ⟨⟨y0, o0⟩, f0⟩ := own_old hown2 (k * 2) (by omega)
      obtain ⟨⟨y1, o1⟩, f1⟩ := own_old hown2 (k * 2 + 1) (by omega)
      have hB2 := hB.trans (hb2.mono hB.size)
      have HR : Hid _ := owns_put (encG n) w2 xs (k * 2) hown2
      have HL : Hid (xs.length = ns.length * 2) := hown2.1
      have HB3 : Hid _ := below_put (Nat.le_refl _) (encG n) w2 (k * 2) hB2
      clear hown2 d0 d1
      go_wp2_with fail
      go_roundw
      case rel => exact ⟨k + 1, _, by omega, by go_num, HR.out, HX.out.step (fun _ _ => rfl) HN.out rfl (by have := HL.out; omega), HB3.out⟩
      case measure => simp [intOf]; omega
    · have HO : Hid (wr.ownsRow w.heap.size 39 2 (.slice (some ⟨w.heap.size, 0, none⟩) ns.length ns.length) ns.length xs) := hown
      clear hown
      have HK : Hid (k = ns.length) := by show _ = _; omega
      go_wp2_with fail
      go_ret
      exact ⟨_, rfl, ⟨w.heap.size, xs, rfl, HO.out, by rw [← HK.out]; exact HX.out⟩, hB⟩

end Go.Proofs.YtijgcjeijcidfaaDoor
