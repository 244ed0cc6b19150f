import Derived.Test.YtijgcjeijcidfaaDoorVJ
namespace Go.Proofs.YtijgcjeijcidfaaDoor
open Go.RowKit
set_option linter.unusedVariables false
set_option linter.unusedSimpArgs false

theorem Keep.setCell {B : Nat} {a w : World} {p : Addr} {u : Value} (h : Keep B a w) (hp : p.block < B) : Keep B a (w.setCell p u) := fun k hk hl => (Below.heap_setCell w p u k (by omega)).trans (h k hk hl)
theorem Keep.refl (B : Nat) (w : World) : Keep B w w := fun _ _ _ => rfl
theorem Keep.mono {B B' : Nat} {w w' : World} (h : Keep B w w') (hb : B ≤ B') : Keep B' w w' := fun k hk hl => h k (by omega) hl

set_option maxRecDepth 8000 in
theorem box666 {w w' : World} {t u v : TypeId} {a0 a1 a2 a3 a4 a5 b0 b1 b2 b3 b4 b5 c0 c1 c2 c3 c4 c5 : Value} (h : Below (w.heap.size + 1 + 1 + 1) (((w.alloc (.cells #[a0, a1, a2, a3, a4, a5] t)).alloc (.cells #[b0, b1, b2, b3, b4, b5] u)).alloc (.cells #[c0, c1, c2, c3, c4, c5] v)) w') :
    (w'.cell? ⟨w.heap.size, 0, none⟩ = some a0 ∧ w'.cell? ⟨w.heap.size, 1, none⟩ = some a1 ∧ w'.cell? ⟨w.heap.size, 2, none⟩ = some a2 ∧ w'.cell? ⟨w.heap.size, 3, none⟩ = some a3 ∧ w'.cell? ⟨w.heap.size, 4, none⟩ = some a4 ∧ w'.cell? ⟨w.heap.size, 5, none⟩ = some a5) ∧
    (w'.cell? ⟨w.heap.size + 1, 0, none⟩ = some b0 ∧ w'.cell? ⟨w.heap.size + 1, 1, none⟩ = some b1 ∧ w'.cell? ⟨w.heap.size + 1, 2, none⟩ = some b2 ∧ w'.cell? ⟨w.heap.size + 1, 3, none⟩ = some b3 ∧ w'.cell? ⟨w.heap.size + 1, 4, none⟩ = some b4 ∧ w'.cell? ⟨w.heap.size + 1, 5, none⟩ = some b5) ∧
    (w'.cell? ⟨w.heap.size + 1 + 1, 0, none⟩ = some c0 ∧ w'.cell? ⟨w.heap.size + 1 + 1, 1, none⟩ = some c1 ∧ w'.cell? ⟨w.heap.size + 1 + 1, 2, none⟩ = some c2 ∧ w'.cell? ⟨w.heap.size + 1 + 1, 3, none⟩ = some c3 ∧ w'.cell? ⟨w.heap.size + 1 + 1, 4, none⟩ = some c4 ∧ w'.cell? ⟨w.heap.size + 1 + 1, 5, none⟩ = some c5) ∧
    (∀ i, w'.frozen? ⟨w.heap.size + 1, i, none⟩ = false) ∧ (∀ i, w'.frozen? ⟨w.heap.size + 1 + 1, i, none⟩ = false) := by
  refine ⟨⟨?_, ?_, ?_, ?_, ?_, ?_⟩, ⟨?_, ?_, ?_, ?_, ?_, ?_⟩, ⟨?_, ?_, ?_, ?_, ?_, ?_⟩, fun i => ?_, fun i => ?_⟩
  all_goals first
    | (rw [h.cell (by first | (simp; done) | (simp; omega))]; go_simp; done)
    | (rw [h.frozen (by first | (simp; done) | (simp; omega))]; go_simp; done)

set_option maxHeartbeats 1000000 in
theorem toStmt_any (s : St) (ve vf : Value) (w : World) (hs : smallS s) (he : Nodes w ve s.e) (hf : Nodes w vf s.f) :
    Calls Tryd.prog 49 #[.agg #[.int .i64 s.kind, .string s.name, ve, vf, .int .i64 s.thn, .int .i64 s.els]] w fun e w' => ∃ ve' vf', e = .returned (.agg #[.int .i64 s.kind, .string s.name, ve', vf', .int .i64 s.thn, .int .i64 s.els]) ∧ NodesO w.heap.size w' ve' s.e ∧ NodesO w.heap.size w' vf' s.f ∧ Below w.heap.size w w' := by
  obtain ⟨k, n, es, fs, t, l⟩ := s
  have hse : es.length ≤ 1048576 := hs.1
  have hsf : fs.length ≤ 1048576 := hs.2
  simp only at he hf ⊢
  have HE : Hid (Nodes w ve es) := he
  have HF : Hid (Nodes w vf fs) := hf
  obtain ⟨ae, ce, rfl, -, -, -⟩ := he
  obtain ⟨af, cf, rfl, -, -, -⟩ := hf
  clear hs
  have hA : Below w.heap.size w (((w.alloc (.cells #[.int .i64 k, .string n, .slice ae es.length ce, .slice af fs.length cf, .int .i64 t, .int .i64 l] 86)).alloc (.cells #[.int .i64 0, .string ⟨#[]⟩, .slice none 0 0, .slice none 0 0, .int .i64 0, .int .i64 0] 60)).alloc (.cells #[.int .i64 k, .string n, .slice none 0 0, .slice none 0 0, .int .i64 0, .int .i64 0] 60)) := (((Below.refl _ _).alloc (Nat.le_refl _) _).alloc (by simp) _).alloc (by simp; omega) _
  go_enter Tryd.func49, Tryd.ntmps49
  go_wp2_with fail
  refine (toNodes_any _ es _ hse (HE.out.below hA)).mono ?_
  rintro e w1 ⟨v1, rfl, ho1, hb1⟩
  simp only [World.size_alloc] at ho1 hb1
  have HO1 : Hid (NodesO (w.heap.size + 1 + 1 + 1) w1 v1 es) := ho1
  obtain ⟨g1, xs1, rfl, -, -⟩ := ho1
  have hz1 : w.heap.size + 1 + 1 + 1 ≤ w1.heap.size := by have := hb1.size; simpa using this
  have hB1 := hA.trans (hb1.mono (by omega))
  obtain ⟨⟨a0, a1, a2, a3, a4, a5⟩, ⟨b0, b1, b2, b3, b4, b5⟩, ⟨c0, c1, c2, c3, c4, c5⟩, fb, fc⟩ := box666 hb1
  clear hb1 hA
  go_wp2_with fail
  have hB1s := hB1.setCell (p := ⟨w.heap.size + 1 + 1, 2, none⟩) (by simp; omega) (.slice (some ⟨g1, 0, none⟩) es.length es.length)
  refine (toNodes_any _ fs _ hsf (HF.out.below hB1s)).mono ?_
  rintro e w2 ⟨v2, rfl, ho2, hb2⟩
  have HO2 : Hid (NodesO _ w2 v2 fs) := ho2
  obtain ⟨g2, xs2, rfl, -, -⟩ := ho2
  have hz2 : w1.heap.size ≤ w2.heap.size := by have := hb2.size; simpa using this
  have hB2 := hB1s.trans (hb2.mono (by simp; omega))
  have A4 : w2.cell? ⟨w.heap.size, 4, none⟩ = some (.int .i64 t) := by rw [hb2.cell (by simp; omega)]; go_simp
  have A5 : w2.cell? ⟨w.heap.size, 5, none⟩ = some (.int .i64 l) := by rw [hb2.cell (by simp; omega)]; go_simp
  have C0 : w2.cell? ⟨w.heap.size + 1 + 1, 0, none⟩ = some (.int .i64 k) := by rw [hb2.cell (by simp; omega)]; go_simp
  have C1 : w2.cell? ⟨w.heap.size + 1 + 1, 1, none⟩ = some (.string n) := by rw [hb2.cell (by simp; omega)]; go_simp
  have C2 : w2.cell? ⟨w.heap.size + 1 + 1, 2, none⟩ = some (.slice (some ⟨g1, 0, none⟩) es.length es.length) := by rw [hb2.cell (by simp; omega)]; go_simp
  have C3 : w2.cell? ⟨w.heap.size + 1 + 1, 3, none⟩ = some (.slice none 0 0) := by rw [hb2.cell (by simp; omega)]; go_simp
  have C4 : w2.cell? ⟨w.heap.size + 1 + 1, 4, none⟩ = some (.int .i64 0) := by rw [hb2.cell (by simp; omega)]; go_simp
  have C5 : w2.cell? ⟨w.heap.size + 1 + 1, 5, none⟩ = some (.int .i64 0) := by rw [hb2.cell (by simp; omega)]; go_simp
  have B0 : w2.cell? ⟨w.heap.size + 1, 0, none⟩ = some (.int .i64 0) := by rw [hb2.cell (by simp; omega)]; go_simp
  have B1 : w2.cell? ⟨w.heap.size + 1, 1, none⟩ = some (.string ⟨#[]⟩) := by rw [hb2.cell (by simp; omega)]; go_simp
  have B2 : w2.cell? ⟨w.heap.size + 1, 2, none⟩ = some (.slice none 0 0) := by rw [hb2.cell (by simp; omega)]; go_simp
  have B3 : w2.cell? ⟨w.heap.size + 1, 3, none⟩ = some (.slice none 0 0) := by rw [hb2.cell (by simp; omega)]; go_simp
  have B4 : w2.cell? ⟨w.heap.size + 1, 4, none⟩ = some (.int .i64 0) := by rw [hb2.cell (by simp; omega)]; go_simp
  have B5 : w2.cell? ⟨w.heap.size + 1, 5, none⟩ = some (.int .i64 0) := by rw [hb2.cell (by simp; omega)]; go_simp
  have FB : ∀ i, w2.frozen? ⟨w.heap.size + 1, i, none⟩ = false := fun i => by rw [hb2.frozen (by simp; omega)]; go_simp
  have FC : ∀ i, w2.frozen? ⟨w.heap.size + 1 + 1, i, none⟩ = false := fun i => by rw [hb2.frozen (by simp; omega)]; go_simp
  have K12 : Keep (w.heap.size + 1 + 1 + 1) w1 w2 := ((Keep.refl _ _).setCell (by simp)).trans (by simp) (Keep.of_below hb2)
  have HK : Hid (Keep (w.heap.size + 1 + 1 + 1) w1 w2) := K12
  have HO2' : Hid (NodesO (w.heap.size + 1 + 1 + 1) w2 (.slice (some ⟨g2, 0, none⟩) fs.length fs.length) fs) := HO2.out.mono (by simp; omega)
  clear a0 a1 a2 a3 a4 a5 b0 b1 b2 b3 b4 b5 c0 c1 c2 c3 c4 c5 fb fc K12 hb2 HO2 hB1 hB1s
  go_wp2_with fail
  refine bodyPost_ret (v := .agg #[.int .i64 k, .string n, .slice (some ⟨g1, 0, none⟩) es.length es.length, .slice (some ⟨g2, 0, none⟩) fs.length fs.length, .int .i64 t, .int .i64 l]) (by simp [results, Tryd.results49, go_sem, B0, B1, B2, B3, B4, B5]) rfl ⟨_, _, rfl, ?_, ?_, ?_⟩
  · exact ((HO1.out.keep HK.out).keep ((((((((((Keep.refl _ _).setCell (by first | (simp; done) | (simp; omega))).setCell (by first | (simp; done) | (simp; omega))).setCell (by first | (simp; done) | (simp; omega))).setCell (by first | (simp; done) | (simp; omega))).setCell (by first | (simp; done) | (simp; omega))).setCell (by first | (simp; done) | (simp; omega))).setCell (by first | (simp; done) | (simp; omega))).setCell (by first | (simp; done) | (simp; omega))).setCell (by first | (simp; done) | (simp; omega)))).mono (by omega)
  · exact (HO2'.out.keep ((((((((((Keep.refl _ _).setCell (by first | (simp; done) | (simp; omega))).setCell (by first | (simp; done) | (simp; omega))).setCell (by first | (simp; done) | (simp; omega))).setCell (by first | (simp; done) | (simp; omega))).setCell (by first | (simp; done) | (simp; omega))).setCell (by first | (simp; done) | (simp; omega))).setCell (by first | (simp; done) | (simp; omega))).setCell (by first | (simp; done) | (simp; omega))).setCell (by first | (simp; done) | (simp; omega)))).mono (by omega)
  · exact (((((((((hB2).setCell (by first | (simp; done) | (simp; omega)) _).setCell (by first | (simp; done) | (simp; omega)) _).setCell (by first | (simp; done) | (simp; omega)) _).setCell (by first | (simp; done) | (simp; omega)) _).setCell (by first | (simp; done) | (simp; omega)) _).setCell (by first | (simp; done) | (simp; omega)) _).setCell (by first | (simp; done) | (simp; omega)) _).setCell (by first | (simp; done) | (simp; omega)) _).setCell (by first | (simp; done) | (simp; omega)) _

end Go.Proofs.YtijgcjeijcidfaaDoor
