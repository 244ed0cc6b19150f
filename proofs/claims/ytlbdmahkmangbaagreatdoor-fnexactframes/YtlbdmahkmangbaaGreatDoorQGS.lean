import Derived.Test.YtlbdmahkmangbaaGreatDoorQGQ
import Derived.Test.YtlbdmahkmangbaaGreatDoorQVC
import Derived.RegionTactic
import Derived.Laws.NewBlocks
import Derived.Laws.AppendOwn
import Derived.Deep.RegionHeld3
import Derived.Test.YtlbdmahkmangbaaGreatDoorQW0
set_option linter.unusedSectionVars false
variable [Inhabited Go.Proofs.YtlbdmahkmangbaaGreatDoor.Pick]
namespace Go.Proofs.YtlbdmahkmangbaaGreatDoor
open Go.RowKit
set_option linter.unusedVariables false
set_option linter.unusedSimpArgs false

/-- Only block b has turned, of those that were there. -/
def But (b : Nat) (w w' : World) : Prop := w.heap.size ≤ w'.heap.size ∧ ∀ B, B < w.heap.size → B ≠ b → w'.heap[B]? = w.heap[B]?
theorem But.refl (b : Nat) (w : World) : But b w w := ⟨Nat.le_refl _, fun _ _ _ => rfl⟩
theorem But.grown {b : Nat} {w w1 w' : World} (h : But b w w1) (hg : w1.drew.grownBy w' (some b)) : But b w w' := ⟨Nat.le_trans h.1 hg.size, fun B hB hb => (hg.block B (Nat.lt_of_lt_of_le hB h.1) (by simpa using hb)).trans (h.2 B hB hb)⟩
theorem But.below {b : Nat} {w w1 w' : World} (h : But b w w1) (hb : Below w1.heap.size w1 w') : But b w w' := ⟨Nat.le_trans h.1 hb.size, fun B hB hn => (hb.block B (Nat.lt_of_lt_of_le hB h.1)).trans (h.2 B hB hn)⟩
theorem But.cell {b : Nat} {w w' : World} (h : But b w w') {p : Addr} (hp : p.block < w.heap.size) (hn : p.block ≠ b) : w'.cell? p = w.cell? p := World.cell?_of_block (h.2 p.block hp hn)
theorem But.frozen {b : Nat} {w w' : World} (h : But b w w') {p : Addr} (hp : p.block < w.heap.size) (hn : p.block ≠ b) : w'.frozen? p = w.frozen? p := World.frozen?_of_block (h.2 p.block hp hn)
theorem plE_bd {e : List Nd} (h : okE e) {d p : Int} (hd : 0 ≤ d) (hd1 : d ≤ 1) (hp : 0 ≤ p ∧ p ≤ 14001) : 0 ≤ plE e d p ∧ plE e d p ≤ 14001 := by
  unfold plE
  split
  · exact hp
  · have := needL_bd h (by omega) d
    omega
theorem places_bd (body : List St) (hok : ∀ s ∈ body, okE s.e ∧ okE s.f) : 0 ≤ places body ∧ places body ≤ 14001 := by
  unfold places
  have : ∀ (l : List St) (p : Int), (∀ s ∈ l, okE s.e ∧ okE s.f) → 0 ≤ p ∧ p ≤ 14001 → 0 ≤ l.foldl (fun p s => plU s 2 p) p ∧ l.foldl (fun p s => plU s 2 p) p ≤ 14001 := by
    intro l
    induction l with
    | nil => intro p _ hp; exact hp
    | cons s l ih =>
      intro p h hp
      refine ih _ (fun s hs => h s (by simp [hs])) ?_
      have h2 := h s (by simp)
      simp only [plU]
      exact plE_bd h2.2 (by omega) (by omega) (plE_bd h2.1 (by omega) (by omega) hp)
  exact this body 0 hok (by omega)
/-- The names of a function's words: its parameters and its declarations. -/
def declN (body : List St) : List ByteArray := (body.filter (fun s => decide (s.kind = 1))).map (·.name)
theorem declN_snoc (l : List St) (s : St) : declN (l ++ [s]) = if s.kind = 1 then declN l ++ [s.name] else declN l := by
  unfold declN; rw [List.filter_append]; by_cases h : s.kind = 1 <;> simp [h]
theorem declN_new {ps : List ByteArray} {body : List St} (h : (ps ++ declN body).Nodup) {j : Nat} (hj : j < body.length) (h1 : body[j].kind = 1) : body[j].name ∉ ps ++ declN (body.take j) := by
  have e : declN body = declN (body.take j) ++ ([body[j].name] ++ declN (body.drop (j + 1))) := by
    have : body = body.take j ++ ([body[j]] ++ body.drop (j + 1)) := by simp
    have h2 : declN body = declN (body.take j ++ ([body[j]] ++ body.drop (j + 1))) := congrArg declN this
    rw [h2]
    unfold declN
    rw [List.filter_append, List.filter_append, List.map_append, List.map_append]
    congr 2
    simp [h1]
  rw [e, ← List.append_assoc] at h
  intro hm
  exact (List.nodup_append.1 h).2.2 _ hm _ (by simp) rfl
theorem declN_mem {body : List St} {j : Nat} (hj : j < body.length) (h1 : body[j].kind = 1) : body[j].name ∈ declN body := by
  unfold declN
  exact List.mem_map.2 ⟨body[j], List.mem_filter.2 ⟨List.getElem_mem hj, by simpa using h1⟩, rfl⟩
theorem declN_len (body : List St) : (declN body).length ≤ body.length := by
  unfold declN; rw [List.length_map]; exact List.length_filter_le _ _

set_option maxRecDepth 100000 in
set_option maxHeartbeats 4000000 in
theorem frameOf_any (f : Fu) (vp vb : Value) (w : World) (hTab : Tab w) (hp : Strs w vp f.params) (hb : Stmts w vb f.body) (hok : ∀ s ∈ f.body, okE s.e ∧ okE s.f) (hnd : (f.params ++ declN f.body).Nodup) (hpl : f.params.length ≤ 1000) (hbl : f.body.length ≤ 100000) (hsz : ∀ s ∈ f.params ++ declN f.body, s.size ≤ maxLen) :
    Calls Tryz.prog 20 #[.agg #[.string f.name, vp, vb]] w fun e w' => ∃ b, e = .returned (.agg #[.map (some b), .int .i64 (4 * ((f.params ++ declN f.body).length : Int)), .int .i64 ((4 * ((f.params ++ declN f.body).length : Int) + 4 * (places f.body + 1) + 15) / 16 * 16)]) ∧ Below w.heap.size w w' := by
  have HPl : Hid (∀ W, Below w.heap.size w W → Calls Tryz.prog 39 #[vb] W fun e w' => e = .returned (.int .i64 (places f.body)) ∧ Below W.heap.size W w') := fun W hW => placesOf_any vb f.body W (hTab.below hTab.size hW) (hb.below hW) hok
  obtain ⟨ap, cp, rfl, hp1, hp2, hpc⟩ := hp
  obtain ⟨ab, cb, rfl, hb1, hb2, hbc⟩ := hb
  obtain ⟨W0, hW0⟩ : ∃ W0, W0 = ((((w.alloc (.cells #[.string f.name, .slice ap f.params.length cp, .slice ab f.body.length cb] 48)).alloc (.cells #[.map none, .int .i64 0, .int .i64 0] 54)).alloc (.map #[] 0)).alloc (.cells #[.map (some (w.heap.size + 1 + 1)), .int .i64 0, .int .i64 0] 54)) := ⟨_, rfl⟩
  have hA : ∀ (W : World) o, Below W.heap.size W (W.alloc o) := fun W o => (Below.refl _ _).alloc (Nat.le_refl _) o
  have hB0 : Below w.heap.size w W0 := by
    rw [hW0]
    exact ((((Below.refl _ _).alloc (Nat.le_refl _) _).alloc (by simp) _).alloc (by simp; omega) _).alloc (by simp; omega) _
  have hO0 : W0.ownsMap Tryz.prog 9 (plainElem (H := Unit) Tryz.prog 2) (w.heap.size + 1 + 1) 0 (.map []) := by
    rw [hW0]
    have := World.ownsMap_made ((w.alloc (.cells #[.string f.name, .slice ap f.params.length cp, .slice ab f.body.length cb] 48)).alloc (.cells #[.map none, .int .i64 0, .int .i64 0] 54)) Tryz.prog 9 (plainElem (H := Unit) Tryz.prog 2)
    simp only [World.size_alloc] at this
    exact this.alloc _
  have z0 : W0.cell? ⟨w.heap.size, 1, none⟩ = some (.slice ap f.params.length cp) := by rw [hW0, World.cell?_alloc_past _ _ _ (by simp only [World.size_alloc]; omega), World.cell?_alloc_past _ _ _ (by simp only [World.size_alloc]; omega), World.cell?_alloc_past _ _ _ (by simp only [World.size_alloc]; omega), World.cell?_alloc_at _ _ _ _ rfl]; rfl
  have z1 : W0.cell? ⟨w.heap.size, 2, none⟩ = some (.slice ab f.body.length cb) := by rw [hW0, World.cell?_alloc_past _ _ _ (by simp only [World.size_alloc]; omega), World.cell?_alloc_past _ _ _ (by simp only [World.size_alloc]; omega), World.cell?_alloc_past _ _ _ (by simp only [World.size_alloc]; omega), World.cell?_alloc_at _ _ _ _ rfl]; rfl
  have z2 : W0.cell? ⟨w.heap.size + 1 + 1 + 1, 0, none⟩ = some (.map (some (w.heap.size + 1 + 1))) := by rw [hW0, World.cell?_alloc_at _ _ _ _ (by simp only [World.size_alloc])]; rfl
  have z3 : W0.cell? ⟨w.heap.size + 1 + 1 + 1, 1, none⟩ = some (.int .i64 0) := by rw [hW0, World.cell?_alloc_at _ _ _ _ (by simp only [World.size_alloc])]; rfl
  have z4 : W0.cell? ⟨w.heap.size + 1 + 1 + 1, 2, none⟩ = some (.int .i64 0) := by rw [hW0, World.cell?_alloc_at _ _ _ _ (by simp only [World.size_alloc])]; rfl
  have z5 : W0.cell? ⟨w.heap.size + 1, 0, none⟩ = some (.map none) := by rw [hW0, World.cell?_alloc_past _ _ _ (by simp only [World.size_alloc]; omega), World.cell?_alloc_past _ _ _ (by simp only [World.size_alloc]; omega), World.cell?_alloc_at _ _ _ _ (by simp only [World.size_alloc])]; rfl
  have z6 : W0.cell? ⟨w.heap.size + 1, 1, none⟩ = some (.int .i64 0) := by rw [hW0, World.cell?_alloc_past _ _ _ (by simp only [World.size_alloc]; omega), World.cell?_alloc_past _ _ _ (by simp only [World.size_alloc]; omega), World.cell?_alloc_at _ _ _ _ (by simp only [World.size_alloc])]; rfl
  have z7 : W0.cell? ⟨w.heap.size + 1, 2, none⟩ = some (.int .i64 0) := by rw [hW0, World.cell?_alloc_past _ _ _ (by simp only [World.size_alloc]; omega), World.cell?_alloc_past _ _ _ (by simp only [World.size_alloc]; omega), World.cell?_alloc_at _ _ _ _ (by simp only [World.size_alloc])]; rfl
  have z8 : ∀ o, W0.frozen? ⟨w.heap.size + 1 + 1 + 1, o, none⟩ = false := fun o => by rw [hW0, World.frozen?_alloc_at _ _ _ _ (by simp only [World.size_alloc])]
  have z9 : ∀ o, W0.frozen? ⟨w.heap.size + 1, o, none⟩ = false := fun o => by rw [hW0, World.frozen?_alloc_past _ _ _ (by simp only [World.size_alloc]; omega), World.frozen?_alloc_past _ _ _ (by simp only [World.size_alloc]; omega), World.frozen?_alloc_at _ _ _ _ (by simp only [World.size_alloc])]
  have hpb := places_bd f.body hok
  have HZ : Hid ((W0.cell? ⟨w.heap.size + 1 + 1 + 1, 1, none⟩ = some (.int .i64 0) ∧ W0.cell? ⟨w.heap.size + 1 + 1 + 1, 2, none⟩ = some (.int .i64 0) ∧ ∀ o, W0.frozen? ⟨w.heap.size + 1 + 1 + 1, o, none⟩ = false) ∧ W0.cell? ⟨w.heap.size + 1, 0, none⟩ = some (.map none) ∧ W0.cell? ⟨w.heap.size + 1, 1, none⟩ = some (.int .i64 0) ∧ W0.cell? ⟨w.heap.size + 1, 2, none⟩ = some (.int .i64 0) ∧ ∀ o, W0.frozen? ⟨w.heap.size + 1, o, none⟩ = false) := ⟨⟨z3, z4, z8⟩, z5, z6, z7, z9⟩
  clear z3 z4 z5 z6 z7 z8 z9
  have hs0 : W0.heap.size = w.heap.size + 4 := by rw [hW0]; simp
  have HW0 : Hid (W0 = _) := hW0
  have HO0 : Hid (W0.ownsMap Tryz.prog 9 (plainElem (H := Unit) Tryz.prog 2) (w.heap.size + 1 + 1) 0 (.map [])) := hO0
  have HB0 : Hid (Below w.heap.size w W0) := hB0
  have HPC : Hid (0 < f.params.length → ∃ b off, ap = some ⟨b, off, none⟩ ∧ StrsC w b off f.params) := hpc
  have HBC : Hid (0 < f.body.length → ∃ b off, ab = some ⟨b, off, none⟩ ∧ StmtsC w b off f.body) := hbc
  have HND : Hid ((f.params ++ declN f.body).Nodup) := hnd
  have HSZ : Hid (∀ s ∈ f.params ++ declN f.body, s.size ≤ maxLen) := hsz
  clear hW0 hO0 hB0 hA hpc hbc hnd hsz hok hTab
  have hmm := @run_makeMap Tryz.prog
  go_enter Tryz.func20, Tryz.ntmps20
  go_wp2_with fail
  rw [← HW0.out]
  clear hmm
  go_loopw [14] (fun i wr => ∃ (k : Nat) (D : DataW Unit), k ≤ f.params.length ∧ i = .int .i64 k ∧ wr.ownsMap Tryz.prog 9 (plainElem (H := Unit) Tryz.prog 2) (w.heap.size + 1 + 1) k D ∧ NamesIs D (f.params.take k) ∧ But (w.heap.size + 1 + 1) W0 wr ∧ Below w.heap.size w wr) (fun i _ => f.params.length - (RowKit.intOf i).toNat)
  case atStart => exact ⟨0, _, Nat.zero_le _, rfl, HO0.out, NamesIs.nil, But.refl _ _, HB0.out⟩
  case round =>
    obtain ⟨k, D, hk, rfl, hO, hN, hBt, hB⟩ := hrel
    have y2 : wr.cell? ⟨w.heap.size + 1 + 1 + 1, 0, none⟩ = some (.map (some (w.heap.size + 1 + 1))) := (hBt.cell (p := ⟨w.heap.size + 1 + 1 + 1, 0, none⟩) (by simp; omega) (by simp)).trans z2
    by_cases hlt : k < f.params.length
    · obtain ⟨b', off, rfl, hc⟩ := HPC.out (by omega)
      have d0 := hc.below hB k hlt
      have hmem : f.params[k] ∈ f.params := List.getElem_mem hlt
      have HF : Hid (f.params[k] ∉ f.params.take k) := by
        intro hm
        have hn1 := (List.nodup_append.1 HND.out).1
        obtain ⟨j, hj, he⟩ := List.getElem_of_mem hm
        rw [List.getElem_take] at he
        simp at hj
        exact List.pairwise_iff_getElem.1 hn1 j k (by omega) hlt (by omega) he
      have HT : Hid (f.params.take (k + 1) = f.params.take k ++ [f.params[k]]) := List.take_succ_eq_append_getElem hlt
      have HZ : Hid (f.params[k].size ≤ maxLen) := HSZ.out _ (by simp)
      have HA : Hid (Calls Tryz.prog 37 #[.pointer (some ⟨w.heap.size + 1 + 1 + 1, 0, none⟩), .string f.params[k]] wr fun ev w' => ev = .returned (.tuple #[]) ∧ ∃ D', w'.ownsMap Tryz.prog 9 (plainElem (H := Unit) Tryz.prog 2) (w.heap.size + 1 + 1) (k + 1) D' ∧ NamesIs D' (f.params.take k ++ [f.params[k]]) ∧ wr.drew.grownBy w' (some (w.heap.size + 1 + 1))) := addF_any _ _ k D _ _ wr y2 hO hN (by simp; omega) (by omega) HZ.out HF.out (by omega)
      rw [← HT.out] at HA
      clear HF HT HZ hmem hO hN hc
      generalize f.params[k] = s at d0 HA
      go_wp2_with fail
      refine HA.out.mono ?_
      rintro e w2 ⟨rfl, D2, hO2, hN2, hg2⟩
      have hBt2 := hBt.grown hg2
      have hB2 : Below w.heap.size w w2 := hB.drew.grown hg2 hB.size (fun j hj => by cases hj; omega)
      have HR : Hid (w2.ownsMap Tryz.prog 9 (plainElem (H := Unit) Tryz.prog 2) (w.heap.size + 1 + 1) (k + 1) D2 ∧ NamesIs D2 (f.params.take (k + 1))) := ⟨hO2, hN2⟩
      clear hO2 hN2 hg2 HA d0 y2 hBt hB
      go_wp2_with fail
      go_roundw
      case rel => exact ⟨k + 1, D2, by omega, by go_num, HR.out.1, HR.out.2, hBt2, hB2⟩
      case measure => simp [RowKit.intOf]; omega
    · have hkk : k = f.params.length := by omega
      have HN1 : Hid (NamesIs D (f.params ++ declN (f.body.take 0))) := by
        show NamesIs _ _
        have := hN
        rw [List.take_of_length_le (by omega)] at this
        simpa [declN] using this
      have HO1 : Hid (wr.ownsMap Tryz.prog 9 (plainElem (H := Unit) Tryz.prog 2) (w.heap.size + 1 + 1) k D) := hO
      have HBt1 : Hid (But (w.heap.size + 1 + 1) W0 wr) := hBt
      have y1 : wr.cell? ⟨w.heap.size, 2, none⟩ = some (.slice ab f.body.length cb) := (hBt.cell (p := ⟨w.heap.size, 2, none⟩) (by simp; omega) (by simp; omega)).trans z1
      have HKK : Hid (k = f.params.length) := hkk
      clear hO hN y2 hkk
      go_wp2_with fail
      clear hlt hk
      have hk1 : k ≤ 1000 := by rw [HKK.out]; exact hpl
      go_loopw [24] (fun i wr => ∃ (j nn : Nat) (D : DataW Unit), j ≤ f.body.length ∧ i = .int .i64 j ∧ nn ≤ k + j ∧ wr.ownsMap Tryz.prog 9 (plainElem (H := Unit) Tryz.prog 2) (w.heap.size + 1 + 1) nn D ∧ NamesIs D (f.params ++ declN (f.body.take j)) ∧ But (w.heap.size + 1 + 1) W0 wr ∧ Below w.heap.size w wr) (fun i _ => f.body.length - (RowKit.intOf i).toNat)
      case atStart => exact ⟨0, k, D, Nat.zero_le _, rfl, by omega, HO1.out, HN1.out, HBt1.out, hB⟩
      case round =>
        clear HO1 HN1 HBt1 hBt hB y1
        obtain ⟨j, nn, D, hj, rfl, hnn, hO, hN, hBt, hB⟩ := hrel
        have y2 : ∀ o, (World.alloc _ o).cell? ⟨w.heap.size + 1 + 1 + 1, 0, none⟩ = some (.map (some (w.heap.size + 1 + 1))) := fun o => ((hBt.below ((Below.refl _ _).alloc (Nat.le_refl _) o)).cell (p := ⟨w.heap.size + 1 + 1 + 1, 0, none⟩) (by simp; omega) (by simp)).trans z2
        by_cases hlt2 : j < f.body.length
        · obtain ⟨b', off, rfl, hc⟩ := HBC.out (by omega)
          obtain ⟨ve, vf, ⟨c0, c1, c2, c3, c4, c5⟩, he, hf⟩ := hc j hlt2
          have hlb := World.block_lt_of_cell? _ _ c0
          have d0 := (hB.cell (p := ⟨b', off + j * 6, none⟩) hlb).trans c0
          have d1 := (hB.cell (p := ⟨b', off + j * 6 + 1, none⟩) hlb).trans c1
          have d2 := (hB.cell (p := ⟨b', off + j * 6 + 2, none⟩) hlb).trans c2
          have d3 := (hB.cell (p := ⟨b', off + j * 6 + 3, none⟩) hlb).trans c3
          have d4 := (hB.cell (p := ⟨b', off + j * 6 + 4, none⟩) hlb).trans c4
          have d5 := (hB.cell (p := ⟨b', off + j * 6 + 5, none⟩) hlb).trans c5
          clear c0 c1 c2 c3 c4 c5 hc
          obtain ⟨ae, ce, rfl, -⟩ := he
          obtain ⟨af, cf, rfl, -⟩ := hf
          generalize f.body[j].e.length = le at d2
          generalize f.body[j].f.length = lf at d3
          have hA1 : Below wr.heap.size wr (wr.alloc (.cells #[.int .i64 f.body[j].kind, .string f.body[j].name, .slice ae le ce, .slice af lf cf, .int .i64 f.body[j].thn, .int .i64 f.body[j].els] 82)) := (Below.refl _ _).alloc (Nat.le_refl _) _
          have hBt1 := hBt.below hA1
          have hB1 := hB.trans (hA1.mono hB.size)
          have hO1 := hO.alloc (.cells #[.int .i64 f.body[j].kind, .string f.body[j].name, .slice ae le ce, .slice af lf cf, .int .i64 f.body[j].thn, .int .i64 f.body[j].els] 82)
          have hl1 : (f.params ++ declN (f.body.take j)).length ≤ 1000000 := by have := declN_len (f.body.take j); simp at this ⊢; omega
          have hsn := declN_snoc (f.body.take j) f.body[j]
          rw [← List.take_succ_eq_append_getElem hlt2] at hsn
          by_cases h1 : f.body[j].kind = 1
          · rw [if_pos h1] at hsn
            have HT : Hid (f.params ++ declN (f.body.take (j + 1)) = f.params ++ declN (f.body.take j) ++ [f.body[j].name]) := by show _ = _; rw [hsn, List.append_assoc]
            have HA : Hid (Calls Tryz.prog 37 #[.pointer (some ⟨w.heap.size + 1 + 1 + 1, 0, none⟩), .string f.body[j].name] (wr.alloc (.cells #[.int .i64 f.body[j].kind, .string f.body[j].name, .slice ae le ce, .slice af lf cf, .int .i64 f.body[j].thn, .int .i64 f.body[j].els] 82)) fun ev w' => ev = .returned (.tuple #[]) ∧ ∃ D', w'.ownsMap Tryz.prog 9 (plainElem (H := Unit) Tryz.prog 2) (w.heap.size + 1 + 1) (nn + 1) D' ∧ NamesIs D' (f.params ++ declN (f.body.take j) ++ [f.body[j].name]) ∧ (wr.alloc (.cells #[.int .i64 f.body[j].kind, .string f.body[j].name, .slice ae le ce, .slice af lf cf, .int .i64 f.body[j].thn, .int .i64 f.body[j].els] 82)).drew.grownBy w' (some (w.heap.size + 1 + 1))) := addF_any _ _ nn D _ _ _ (y2 _) hO1 hN hl1 (by omega) (HSZ.out _ (by simp [declN_mem hlt2 h1])) (declN_new HND.out hlt2 h1) (by omega)
            rw [← HT.out] at HA
            clear HT hsn hO hN hO1 hl1 y2 hBt
            generalize f.body[j] = s at d0 d1 d2 d3 d4 d5 HA h1 hBt1 hB1 hA1
            obtain ⟨kd, nm, se, sf, th, el⟩ := s
            simp only at d0 d1 d2 d3 d4 d5 HA h1 hBt1 hB1 hA1
            subst h1
            go_wp2_with fail
            refine HA.out.mono ?_
            rintro e w2 ⟨rfl, D2, hO2, hN2, hg2⟩
            have hBt2 := hBt1.grown hg2
            have hB2 : Below w.heap.size w w2 := hB1.drew.grown hg2 hB1.size (fun j hj => by cases hj; omega)
            have HR : Hid (w2.ownsMap Tryz.prog 9 (plainElem (H := Unit) Tryz.prog 2) (w.heap.size + 1 + 1) (nn + 1) D2 ∧ NamesIs D2 (f.params ++ declN (f.body.take (j + 1)))) := ⟨hO2, hN2⟩
            clear hO2 hN2 hg2 HA d0 d1 d2 d3 d4 d5 hBt1 hB1 hA1
            go_wp2_with fail
            go_roundw
            case rel => exact ⟨j + 1, nn + 1, D2, by omega, by go_num, by omega, HR.out.1, HR.out.2, hBt2, hB2⟩
            case measure => simp [RowKit.intOf]; omega
          · rw [if_neg h1] at hsn
            rw [← hsn] at hN
            have HR : Hid ((wr.alloc (.cells #[.int .i64 f.body[j].kind, .string f.body[j].name, .slice ae le ce, .slice af lf cf, .int .i64 f.body[j].thn, .int .i64 f.body[j].els] 82)).ownsMap Tryz.prog 9 (plainElem (H := Unit) Tryz.prog 2) (w.heap.size + 1 + 1) nn D ∧ NamesIs D (f.params ++ declN (f.body.take (j + 1)))) := ⟨hO1, hN⟩
            clear hsn hO hN hO1 hl1 y2 hBt
            generalize f.body[j] = s at d0 d1 d2 d3 d4 d5 h1 hBt1 hB1 hA1 HR
            go_wp2_with fail
            go_roundw
            case rel => exact ⟨j + 1, nn, D, by omega, by go_num, by omega, HR.out.1, HR.out.2, hBt1, hB1⟩
            case measure => simp [RowKit.intOf]; omega
        · have hjj : j = f.body.length := by omega
          rw [List.take_of_length_le (by omega)] at hN
          have hnl : (f.params ++ declN f.body).length ≤ 101000 := by have := declN_len f.body; simp; omega
          have bl3 : (w.heap.size + 1 + 1 + 1) < W0.heap.size := by omega
          have q0 := (hBt.cell (p := ⟨w.heap.size + 1 + 1 + 1, 0, none⟩) bl3 (by simp)).trans z2
          have q1 := (hBt.cell (p := ⟨w.heap.size + 1 + 1 + 1, 1, none⟩) bl3 (by simp)).trans HZ.out.1.1
          have q2 := (hBt.cell (p := ⟨w.heap.size + 1 + 1 + 1, 2, none⟩) bl3 (by simp)).trans HZ.out.1.2.1
          have qf := fun o => (hBt.frozen (p := ⟨w.heap.size + 1 + 1 + 1, o, none⟩) bl3 (by simp)).trans (HZ.out.1.2.2 o)
          have bl1 : (w.heap.size + 1) < W0.heap.size := by omega
          have r0 := (hBt.cell (p := ⟨w.heap.size + 1, 0, none⟩) bl1 (by simp)).trans HZ.out.2.1
          have r1 := (hBt.cell (p := ⟨w.heap.size + 1, 1, none⟩) bl1 (by simp)).trans HZ.out.2.2.1
          have r2 := (hBt.cell (p := ⟨w.heap.size + 1, 2, none⟩) bl1 (by simp)).trans HZ.out.2.2.2.1
          have rf := fun o => (hBt.frozen (p := ⟨w.heap.size + 1, o, none⟩) bl1 (by simp)).trans (HZ.out.2.2.2.2 o)
          have y1 : wr.cell? ⟨w.heap.size, 2, none⟩ = some (.slice ab f.body.length cb) := (hBt.cell (p := ⟨w.heap.size, 2, none⟩) (by simp; omega) (by simp; omega)).trans z1
          have HU : Hid (Calls Tryz.prog 38 #[.pointer (some ⟨w.heap.size + 1 + 1 + 1, 0, none⟩)] wr fun ev w' => ev = .returned (.int .i64 (4 * ((f.params ++ declN f.body).length : Int))) ∧ w' = wr) := used_any _ _ nn D _ wr q0 hO hN (by omega)
          have hsw : w.heap.size + 4 ≤ wr.heap.size := by have := hBt.1; omega
          clear hO hN hjj y2 hBt hnn
          obtain ⟨N, hNe⟩ : ∃ N, N = (f.params ++ declN f.body).length := ⟨_, rfl⟩
          rw [← hNe] at HU hnl
          have HNe : Hid (N = (f.params ++ declN f.body).length) := hNe
          clear hNe
          go_wp2_with fail
          refine HU.out.mono ?_
          rintro e w2 ⟨rfl, hw2⟩
          rw [hw2]
          clear hw2 HU
          obtain ⟨W2, hW2⟩ : ∃ W2, W2 = wr.setCell ⟨w.heap.size + 1 + 1 + 1, 1, none⟩ (.int .i64 (4 * (N : Int))) := ⟨_, rfl⟩
          have g0 : W2.drew.cell? ⟨w.heap.size + 1 + 1 + 1, 0, none⟩ = some (.map (some (w.heap.size + 1 + 1))) := by show W2.cell? _ = _; rw [hW2, World.cell?_setCell_other _ _ _ _ (by simp)]; exact q0
          have g1 : W2.drew.cell? ⟨w.heap.size + 1 + 1 + 1, 1, none⟩ = some (.int .i64 (4 * (N : Int))) := by show W2.cell? _ = _; rw [hW2, World.cell?_setCell_same _ _ _ q1]
          have g2 : W2.drew.cell? ⟨w.heap.size + 1 + 1 + 1, 2, none⟩ = some (.int .i64 0) := by show W2.cell? _ = _; rw [hW2, World.cell?_setCell_other _ _ _ _ (by simp)]; exact q2
          have gf : ∀ o, W2.drew.frozen? ⟨w.heap.size + 1 + 1 + 1, o, none⟩ = false := fun o => by show W2.frozen? _ = _; rw [hW2, World.frozen?_setCell]; exact qf o
          have t0 : W2.drew.cell? ⟨w.heap.size + 1, 0, none⟩ = some (.map none) := by show W2.cell? _ = _; rw [hW2, World.cell?_setCell_other _ _ _ _ (by simp)]; exact r0
          have t1 : W2.drew.cell? ⟨w.heap.size + 1, 1, none⟩ = some (.int .i64 0) := by show W2.cell? _ = _; rw [hW2, World.cell?_setCell_other _ _ _ _ (by simp)]; exact r1
          have t2 : W2.drew.cell? ⟨w.heap.size + 1, 2, none⟩ = some (.int .i64 0) := by show W2.cell? _ = _; rw [hW2, World.cell?_setCell_other _ _ _ _ (by simp)]; exact r2
          have tf : ∀ o, W2.drew.frozen? ⟨w.heap.size + 1, o, none⟩ = false := fun o => by show W2.frozen? _ = _; rw [hW2, World.frozen?_setCell]; exact rf o
          have b2 : W2.drew.cell? ⟨w.heap.size, 2, none⟩ = some (.slice ab f.body.length cb) := by show W2.cell? _ = _; rw [hW2, World.cell?_setCell_other _ _ _ _ (by simp)]; exact y1
          have hB2 : Below w.heap.size w W2.drew := by rw [hW2]; exact (hB.setCell (by simp; omega) _).drew
          have hs2 : w.heap.size + 4 ≤ W2.drew.heap.size := by rw [hW2]; simpa using hsw
          have HP2 := HPl.out W2.drew hB2
          have HP3 : Hid (Calls Tryz.prog 39 #[.slice ab f.body.length cb] W2.drew fun e w' => e = .returned (.int .i64 (places f.body)) ∧ Below W2.drew.heap.size W2.drew w') := HP2
          have HW2 : Hid (W2 = _) := hW2
          clear hW2 HP2
          obtain ⟨P, hPe⟩ : ∃ P, P = places f.body := ⟨_, rfl⟩
          rw [← hPe] at HP3 hpb
          have HPe : Hid (P = places f.body) := hPe
          clear hPe
          have k1 : IntKind.i64.wrap (P + 1) = P + 1 := by simp [IntKind.wrap, IntKind.bits, IntKind.signed]; omega
          have k2 : IntKind.i64.wrap (4 * (P + 1)) = 4 * (P + 1) := by simp [IntKind.wrap, IntKind.bits, IntKind.signed]; omega
          have k3 : IntKind.i64.wrap (4 * (N : Int) + 4 * (P + 1)) = 4 * (N : Int) + 4 * (P + 1) := by simp [IntKind.wrap, IntKind.bits, IntKind.signed]; omega
          go_wp2_with fail
          rw [← HW2.out]
          go_region_held3 (fun W => W.cell? ⟨w.heap.size + 1 + 1 + 1, 1, none⟩ = some (.int .i64 (4 * (N : Int))) ∧ W.cell? ⟨w.heap.size, 2, none⟩ = some (.slice ab f.body.length cb)) (go_simp)
            (first
            | ((with_reducible refine Calls.mono HP3.out ?_); rintro e w3 ⟨rfl, hb3⟩; have e1 : w3.cell? ⟨w.heap.size + 1 + 1 + 1, 1, none⟩ = some (.int .i64 (4 * (N : Int))) := (hb3.cell (p := ⟨w.heap.size + 1 + 1 + 1, 1, none⟩) (by simp at hs2 ⊢; omega)).trans g1; have e2 : w3.cell? ⟨w.heap.size, 2, none⟩ = some (.slice ab f.body.length cb) := (hb3.cell (p := ⟨w.heap.size, 2, none⟩) (by simp at hs2 ⊢; omega)).trans b2))
          have m0 := (hb3.cell (p := ⟨w.heap.size + 1 + 1 + 1, 0, none⟩) (by simp at hs2 ⊢; omega)).trans g0
          have m2 := (hb3.cell (p := ⟨w.heap.size + 1 + 1 + 1, 2, none⟩) (by simp at hs2 ⊢; omega)).trans g2
          have mf := fun o => (hb3.frozen (p := ⟨w.heap.size + 1 + 1 + 1, o, none⟩) (by simp at hs2 ⊢; omega)).trans (gf o)
          have n0 := (hb3.cell (p := ⟨w.heap.size + 1, 0, none⟩) (by simp at hs2 ⊢; omega)).trans t0
          have n1 := (hb3.cell (p := ⟨w.heap.size + 1, 1, none⟩) (by simp at hs2 ⊢; omega)).trans t1
          have n2 := (hb3.cell (p := ⟨w.heap.size + 1, 2, none⟩) (by simp at hs2 ⊢; omega)).trans t2
          have nf := fun o => (hb3.frozen (p := ⟨w.heap.size + 1, o, none⟩) (by simp at hs2 ⊢; omega)).trans (tf o)
          have hB3 := hB2.trans (hb3.mono hB2.size)
          have k4 : IntKind.i64.wrap (4 * (N : Int) + 4 * (P + 1) + 16) = 4 * (N : Int) + 4 * (P + 1) + 16 := by simp [IntKind.wrap, IntKind.bits, IntKind.signed]; omega
          have k5 : IntKind.i64.wrap (4 * (N : Int) + 4 * (P + 1) + 16 - 1) = 4 * (N : Int) + 4 * (P + 1) + 15 := by simp [IntKind.wrap, IntKind.bits, IntKind.signed]; omega
          clear g0 g1 g2 gf t0 t1 t2 tf b2 hb3 hB2 hB q0 q1 q2 qf r0 r1 r2 rf y1 HP3 HW2
          go_wp2_with fail
          refine bodyPost_ret (v := .agg #[.map (some (w.heap.size + 1 + 1)), .int .i64 (4 * (N : Int)), .int .i64 ((4 * (N : Int) + 4 * (P + 1) + 15) / 16 * 16)]) ?_ rfl ⟨w.heap.size + 1 + 1, ?_, ?_⟩
          · simp [results, Tryz.results20, go_sem, n0, n1, n2]
          · rw [← HNe.out, ← HPe.out]
          · exact (((hB3.setCell (by simp; omega) _).setCell (by simp) _).setCell (by simp) _).setCell (by simp) _

end Go.Proofs.YtlbdmahkmangbaaGreatDoor

namespace Go.Proofs.YtlbdmahkmangbaaGreatDoor
set_option linter.unusedVariables false
set_option linter.unusedSimpArgs false

theorem declN_append (a b : List St) : declN (a ++ b) = declN a ++ declN b := by simp [declN]
theorem declN_cons (s : St) (r : List St) : declN (s :: r) = (if s.kind = 1 then [s.name] else []) ++ declN r := by
  unfold declN; by_cases h : s.kind = 1 <;> simp [h]
theorem inS_mem {xs : List ByteArray} {s : ByteArray} (h : s ∈ xs) : inS xs s = true := by
  unfold inS; rw [List.any_eq_true]; exact ⟨s, h, decide_eq_true rfl⟩
/-- Where nothing is wrong in a block, no name is given twice. -/
theorem blkE_nodup (t : Tr) (N : Nat) : ∀ (ss : List St) (a : Int) (scope taken : List ByteArray), ss.length ≤ N → (blkE t ss a scope taken).1 = 0 → taken.Nodup → (blkE t ss a scope taken).2.2 = taken ++ declN ss ∧ (taken ++ declN ss).Nodup := by
  induction N with
  | zero =>
    intro ss a scope taken hl h hn
    cases ss with
    | nil => simp [blkE_nil0, blkE_cons, declN, hn]
    | cons s r => simp at hl
  | succ N ih =>
    intro ss a scope taken hl h hn
    cases ss with
    | nil => simp [blkE_nil0, blkE_cons, declN, hn]
    | cons s r =>
      simp only [List.length_cons] at hl
      rw [blkE_cons] at h ⊢
      by_cases h1 : stmtE t scope taken s ≠ 0
      · rw [if_pos h1] at h; exact absurd h h1
      · rw [if_neg h1] at h ⊢
        have hn1 : (if s.kind = 1 then taken ++ [s.name] else taken).Nodup := by
          split
          · rename_i hk
            have hni : s.name ∉ taken := by
              intro hm
              apply h1
              unfold stmtE
              by_cases he : exprE t scope (s.e ++ s.f) ≠ 0
              · rw [if_pos he]; exact he
              · rw [if_neg he, if_pos hk, if_pos (.inl (inS_mem hm))]; decide
            rw [List.nodup_append]
            exact ⟨hn, by simp, fun x hx y hy => by simp at hy; subst hy; exact fun e => hni (e ▸ hx)⟩
          · exact hn
        have e1 : (if s.kind = 1 then taken ++ [s.name] else taken) = taken ++ (if s.kind = 1 then [s.name] else []) := by split <;> simp
        generalize (if s.kind = 1 then scope ++ [s.name] else scope) = sc at h ⊢
        rw [e1] at h hn1 ⊢
        have ed : taken ++ declN (s :: r) = taken ++ (if s.kind = 1 then [s.name] else []) ++ declN (r.take s.thn.toNat) ++ declN ((r.drop s.thn.toNat).take s.els.toNat) ++ declN (r.drop (s.thn.toNat + s.els.toNat)) := by
          have er : r = r.take s.thn.toNat ++ ((r.drop s.thn.toNat).take s.els.toNat ++ r.drop (s.thn.toNat + s.els.toNat)) := by
            rw [← List.drop_drop, List.take_append_drop, List.take_append_drop]
          rw [declN_cons]
          conv => lhs; rw [er]
          rw [declN_append, declN_append]
          simp only [List.append_assoc]
        rw [ed]
        generalize taken ++ (if s.kind = 1 then [s.name] else []) = tk at h hn1 ⊢
        simp only at h ⊢
        by_cases hx : (blkE t (r.take s.thn.toNat) (a + 1) sc tk).1 ≠ 0
        · rw [if_pos hx] at h; exact absurd h hx
        · rw [if_neg hx] at h ⊢
          obtain ⟨x1, x2⟩ := ih (r.take s.thn.toNat) (a + 1) sc tk (by simp; omega) (by simpa using hx) hn1
          rw [x1] at h ⊢
          by_cases hy : (blkE t ((r.drop s.thn.toNat).take s.els.toNat) (a + 1 + s.thn) sc (tk ++ declN (r.take s.thn.toNat))).1 ≠ 0
          · rw [if_pos hy] at h; exact absurd h hy
          · rw [if_neg hy] at h ⊢
            obtain ⟨y1, y2⟩ := ih ((r.drop s.thn.toNat).take s.els.toNat) (a + 1 + s.thn) sc _ (by simp; omega) (by simpa using hy) x2
            rw [y1] at h ⊢
            exact ih (r.drop (s.thn.toNat + s.els.toNat)) _ sc _ (by simp; omega) h y2

theorem dupP_nodup (gs : List Gl) : ∀ (ps seen : List ByteArray), seen.Nodup → dupP gs seen ps = false → (seen ++ ps).Nodup
  | [], seen, hn, _ => by simpa using hn
  | p :: r, seen, hn, h => by
    unfold dupP at h
    by_cases hc : inS seen p = true ∨ 0 ≤ globI gs p
    · rw [if_pos hc] at h; cases h
    · rw [if_neg hc] at h
      have hni : p ∉ seen := fun hm => hc (.inl (inS_mem hm))
      have := dupP_nodup gs r (seen ++ [p]) (by
        rw [List.nodup_append]
        exact ⟨hn, by simp, fun x hx y hy => by simp at hy; subst hy; exact fun e => hni (e ▸ hx)⟩) h
      simpa using this
theorem bodyE_nodup {t : Tr} {i : Nat} {f : Fu} (h : (bodyE t i f).1 = 0) : (f.params ++ declN f.body).Nodup := by
  unfold bodyE at h
  by_cases hd : dupP t.globals [] f.params = true
  · rw [if_pos hd] at h; cases h
  · rw [if_neg hd] at h
    have h1 := dupP_nodup t.globals f.params [] List.nodup_nil (by simpa using hd)
    by_cases hb : (blkE t f.body 0 f.params f.params).1 ≠ 0
    · rw [if_pos hb] at h; exact absurd h hb
    · exact (blkE_nodup t f.body.length f.body 0 f.params f.params (Nat.le_refl _) (by simpa using hb) (by simpa using h1)).2
theorem bodiesE_nodup {t : Tr} : ∀ (fs : List Fu) (i : Nat), (bodiesE t i fs).1 = 0 → ∀ f ∈ fs, (f.params ++ declN f.body).Nodup
  | [], _, _ => fun f hf => by cases hf
  | g :: r, i, h => by
    unfold bodiesE at h
    by_cases hb : (bodyE t i g).1 ≠ 0
    · rw [if_pos hb] at h; exact absurd h hb
    · rw [if_neg hb] at h
      intro f hf
      rcases List.mem_cons.1 hf with rfl | hf
      · exact bodyE_nodup (by simpa using hb)
      · exact bodiesE_nodup r (i + 1) h f hf
/-- In a sound tree no function has a name twice. -/
theorem sound_nodup {t : Tr} (h : (checkE t).1 = 0) : treeB t = true ∧ ∀ f ∈ t.funcs, (f.params ++ declN f.body).Nodup := by
  unfold checkE at h
  by_cases h1 : treeB t = false
  · rw [if_pos h1] at h; cases h
  · rw [if_neg h1] at h
    by_cases h2 : (namesE t).1 ≠ 0
    · rw [if_pos h2] at h; exact absurd h h2
    · rw [if_neg h2] at h
      by_cases h3 : (bodiesE t 0 t.funcs).1 ≠ 0
      · rw [if_pos h3] at h; exact absurd h h3
      · exact ⟨by simpa using h1, bodiesE_nodup t.funcs 0 (by simpa using h3)⟩

end Go.Proofs.YtlbdmahkmangbaaGreatDoor

namespace Go.Proofs.YtlbdmahkmangbaaGreatDoor
set_option linter.unusedVariables false
set_option linter.unusedSimpArgs false

/-- A function's frame. -/
def frameSz (f : Fu) : Int := (4 * ((f.params ++ declN f.body).length : Int) + 4 * (places f.body + 1) + 15) / 16 * 16
open Classical in
/-- What Frames answers. -/
def framesL (t : Tr) : List Int := if (checkE t).1 = 0 then t.funcs.map frameSz else []
/-- What a sound tree says of a function. -/
structure FrOk (f : Fu) : Prop where
  nd : (f.params ++ declN f.body).Nodup
  st : ∀ s ∈ f.body, okE s.e ∧ okE s.f
  sb : ∀ s ∈ f.body, 0 < s.e.length ∧ (s.kind = 3 → 0 < s.f.length) ∧ (s.kind ≠ 3 → s.f.length = 0)
  pl : f.params.length ≤ 1000
  bl : f.body.length ≤ 1000
  sz : ∀ s ∈ f.params ++ declN f.body, s.size ≤ maxLen
theorem nodeSum_mem {l : List St} {s : St} (h : s ∈ l) : s.e.length + s.f.length ≤ nodeSum l := by
  induction l with
  | nil => cases h
  | cons a r ih =>
    simp only [nodeSum]
    rcases List.mem_cons.1 h with rfl | h
    · omega
    · have := ih h; omega
theorem frOk {t : Tr} (h : (checkE t).1 = 0) (hw : wfT t) : t.funcs.length ≤ 50 ∧ ∀ f ∈ t.funcs, FrOk f := by
  obtain ⟨hb, hn⟩ := sound_nodup h
  unfold treeB at hb
  simp only [Bool.and_eq_true, decide_eq_true_iff, List.all_eq_true] at hb
  obtain ⟨h1, h2, h3, h4⟩ := hb
  refine ⟨h2, fun f hf => ?_⟩
  have hfb := h4 f hf
  have hwf := hw.2.2 f hf
  unfold funcB stmtsB at hfb
  simp only [Bool.and_eq_true, decide_eq_true_iff, List.all_eq_true] at hfb
  obtain ⟨-, hp, hl, -, ⟨hsum, hst⟩, -⟩ := hfb
  have hone : ∀ s ∈ f.body, oneB s.e = true ∧ (s.kind = 3 → oneB s.f = true) ∧ (s.kind ≠ 3 → s.f.length = 0) := by
    intro s hs
    have := hst s hs
    unfold stmtB at this
    simp only [Bool.and_eq_true] at this
    obtain ⟨⟨⟨⟨⟨-, hoe⟩, hof⟩, -⟩, -⟩, -⟩ := this
    refine ⟨hoe, fun h => ?_, fun h => ?_⟩
    · rw [if_pos h] at hof; exact hof
    · rw [if_neg h] at hof; simpa using hof
  refine ⟨hn f hf, fun s hs => ?_, fun s hs => ?_, by omega, by omega, fun s hs => ?_⟩
  · have hle := nodeSum_mem hs
    obtain ⟨h5, h6, h7⟩ := hone s hs
    refine ⟨⟨by omega, fun _ => h5⟩, by omega, fun hp => ?_⟩
    by_cases h3 : s.kind = 3
    · exact h6 h3
    · have := h7 h3; omega
  · obtain ⟨h5, h6, h7⟩ := hone s hs
    exact ⟨oneB_pos h5, fun h3 => oneB_pos (h6 h3), h7⟩
  · unfold maxLen
    rcases List.mem_append.1 hs with hs | hs
    · have := hwf.2.1.2 s hs; omega
    · unfold declN at hs
      obtain ⟨x, hx, rfl⟩ := List.mem_map.1 hs
      have := (hwf.2.2.2 x (List.mem_filter.1 hx).1).1
      omega
theorem framesL_yes {t : Tr} (h : (checkE t).1 = 0) : framesL t = t.funcs.map frameSz := by unfold framesL; rw [if_pos h]
theorem framesL_no {t : Tr} (h : (checkE t).1 ≠ 0) : framesL t = [] := by unfold framesL; rw [if_neg h]
theorem framesL_len (t : Tr) : (framesL t).length ≤ t.funcs.length := by
  unfold framesL
  split <;> simp
theorem frameSz_bd {f : Fu} (h : FrOk f) : 0 ≤ frameSz f ∧ frameSz f ≤ 1000000 := by
  have h1 := places_bd f.body h.st
  have h2 := declN_len f.body
  have h3 := h.pl
  have h4 := h.bl
  unfold frameSz
  have : (f.params ++ declN f.body).length = f.params.length + (declN f.body).length := by simp
  rw [this]
  omega
/-- A statement's places, as the specification says them. -/
theorem plU_spec {s : St} (h : 0 < s.e.length ∧ (s.kind = 3 → 0 < s.f.length) ∧ (s.kind ≠ 3 → s.f.length = 0)) (p : Int) : plU s 2 p = if s.kind = 3 then max (max p (needL s.e 0)) (needL s.f 1) else max p (needL s.e 0) := by
  obtain ⟨h1, h2, h3⟩ := h
  simp only [plU]
  unfold plE
  by_cases hk : s.kind = 3
  · have := h2 hk
    simp [hk, show s.e.length ≠ 0 by omega, show s.f.length ≠ 0 by omega]
  · have := h3 hk
    have hf : s.f = [] := List.eq_nil_of_length_eq_zero this
    simp [hk, hf]
    intro h; rw [h] at h1; simp at h1

end Go.Proofs.YtlbdmahkmangbaaGreatDoor
