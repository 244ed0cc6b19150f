import Derived.Test.YtijgcjeijcidfaaDoorVL
namespace Go.Proofs.YtijgcjeijcidfaaDoor
open Go.RowKit
set_option linter.unusedVariables false
set_option linter.unusedSimpArgs false

set_option maxRecDepth 8000 in
theorem box333 {w w' : World} {t u v : TypeId} {a0 a1 a2 b0 b1 b2 c0 c1 c2 : Value} (h : Below (w.heap.size + 1 + 1 + 1) (((w.alloc (.cells #[a0, a1, a2] t)).alloc (.cells #[b0, b1, b2] u)).alloc (.cells #[c0, c1, c2] v)) w') :
    (w'.cell? ⟨w.heap.size, 0, none⟩ = some a0 ∧ w'.cell? ⟨w.heap.size, 1, none⟩ = some a1 ∧ w'.cell? ⟨w.heap.size, 2, none⟩ = some a2) ∧
    (w'.cell? ⟨w.heap.size + 1, 0, none⟩ = some b0 ∧ w'.cell? ⟨w.heap.size + 1, 1, none⟩ = some b1 ∧ w'.cell? ⟨w.heap.size + 1, 2, none⟩ = some b2) ∧
    (w'.cell? ⟨w.heap.size + 1 + 1, 0, none⟩ = some c0 ∧ w'.cell? ⟨w.heap.size + 1 + 1, 1, none⟩ = some c1 ∧ w'.cell? ⟨w.heap.size + 1 + 1, 2, none⟩ = some c2) ∧
    (∀ i, w'.frozen? ⟨w.heap.size + 1, i, none⟩ = false) ∧ (∀ i, w'.frozen? ⟨w.heap.size + 1 + 1, i, none⟩ = false) := by
  refine ⟨⟨?_, ?_, ?_⟩, ⟨?_, ?_, ?_⟩, ⟨?_, ?_, ?_⟩, fun i => ?_, fun i => ?_⟩
  all_goals first
    | (rw [h.cell (by first | (simp; done) | (simp; omega))]; go_simp; done)
    | (rw [h.frozen (by first | (simp; done) | (simp; omega))]; go_simp; done)
set_option maxRecDepth 8000 in
theorem box222 {w w' : World} {t u v : TypeId} {a0 a1 b0 b1 c0 c1 : Value} (h : Below (w.heap.size + 1 + 1 + 1) (((w.alloc (.cells #[a0, a1] t)).alloc (.cells #[b0, b1] u)).alloc (.cells #[c0, c1] v)) w') :
    (w'.cell? ⟨w.heap.size, 0, none⟩ = some a0 ∧ w'.cell? ⟨w.heap.size, 1, none⟩ = some a1) ∧
    (w'.cell? ⟨w.heap.size + 1, 0, none⟩ = some b0 ∧ w'.cell? ⟨w.heap.size + 1, 1, none⟩ = some b1) ∧
    (w'.cell? ⟨w.heap.size + 1 + 1, 0, none⟩ = some c0 ∧ w'.cell? ⟨w.heap.size + 1 + 1, 1, none⟩ = some c1) ∧
    (∀ i, w'.frozen? ⟨w.heap.size + 1, i, none⟩ = false) ∧ (∀ i, w'.frozen? ⟨w.heap.size + 1 + 1, i, none⟩ = false) := by
  refine ⟨⟨?_, ?_⟩, ⟨?_, ?_⟩, ⟨?_, ?_⟩, fun i => ?_, fun i => ?_⟩
  all_goals first
    | (rw [h.cell (by first | (simp; done) | (simp; omega))]; go_simp; done)
    | (rw [h.frozen (by first | (simp; done) | (simp; omega))]; go_simp; done)

set_option maxHeartbeats 1000000 in
theorem toFunc_any (f : Fu) (vp vb : Value) (w : World) (hs : smallF f) (hp : Strs w vp f.params) (hb : Stmts w vb f.body) :
    Calls Tryd.prog 28 #[.agg #[.string f.name, vp, vb]] w fun e w' => ∃ vp' vb', e = .returned (.agg #[.string f.name, vp', vb']) ∧ StrsO w.heap.size w' vp' f.params ∧ StmtsO w.heap.size w' vb' f.body ∧ Below w.heap.size w w' := by
  obtain ⟨n, es, fs⟩ := f
  have hse : es.length ≤ 1048576 := hs.1
  have hsf : fs.length ≤ 1048576 := hs.2.1
  have HSM : Hid (∀ s ∈ fs, smallS s) := hs.2.2
  simp only at hp hb ⊢
  have HE : Hid (Strs w vp es) := hp
  have HF : Hid (Stmts w vb fs) := hb
  obtain ⟨ae, ce, rfl, -, -, -⟩ := hp
  obtain ⟨af, cf, rfl, -, -, -⟩ := hb
  clear hs
  have hA : Below w.heap.size w (((w.alloc (.cells #[.string n, .slice ae es.length ce, .slice af fs.length cf] 56)).alloc (.cells #[.string ⟨#[]⟩, .slice none 0 0, .slice none 0 0] 45)).alloc (.cells #[.string n, .slice none 0 0, .slice none 0 0] 45)) := (((Below.refl _ _).alloc (Nat.le_refl _) _).alloc (by simp) _).alloc (by simp; omega) _
  go_enter Tryd.func28, Tryd.ntmps28
  go_wp2_with fail
  refine (toStrs_any _ es _ hse (HE.out.below hA)).mono ?_
  rintro e w1 ⟨v1, rfl, ho1, hb1⟩
  simp only [World.size_alloc] at ho1 hb1
  have HO1 : Hid (StrsO (w.heap.size + 1 + 1 + 1) w1 v1 es) := ho1
  obtain ⟨g1, xs1, rfl, -, -⟩ := ho1
  have hz1 : w.heap.size + 1 + 1 + 1 ≤ w1.heap.size := by have := hb1.size; simpa using this
  have hB1 := hA.trans (hb1.mono (by omega))
  obtain ⟨⟨a0, a1, a2⟩, ⟨b0, b1, b2⟩, ⟨c0, c1, c2⟩, fb, fc⟩ := box333 hb1
  clear hb1 hA
  go_wp2_with fail
  have hB1s := hB1.setCell (p := ⟨w.heap.size + 1 + 1, 1, none⟩) (by simp; omega) (.slice (some ⟨g1, 0, none⟩) es.length es.length)
  refine (toStmts_any _ fs _ hsf HSM.out (HF.out.below hB1s)).mono ?_
  rintro e w2 ⟨v2, rfl, ho2, hb2⟩
  have HO2 : Hid (StmtsO _ w2 v2 fs) := ho2
  obtain ⟨g2, xs2, V2, rfl, -, -, -⟩ := ho2
  have hz2 : w1.heap.size ≤ w2.heap.size := by have := hb2.size; simpa using this
  have hB2 := hB1s.trans (hb2.mono (by simp; omega))
  have C0 : w2.cell? ⟨w.heap.size + 1 + 1, 0, none⟩ = some (.string n) := by rw [hb2.cell (by simp; omega)]; go_simp
  have C1 : w2.cell? ⟨w.heap.size + 1 + 1, 1, none⟩ = some (.slice (some ⟨g1, 0, none⟩) es.length es.length) := by rw [hb2.cell (by simp; omega)]; go_simp
  have C2 : w2.cell? ⟨w.heap.size + 1 + 1, 2, none⟩ = some (.slice none 0 0) := by rw [hb2.cell (by simp; omega)]; go_simp
  have B0 : w2.cell? ⟨w.heap.size + 1, 0, none⟩ = some (.string ⟨#[]⟩) := by rw [hb2.cell (by simp; omega)]; go_simp
  have B1 : w2.cell? ⟨w.heap.size + 1, 1, none⟩ = some (.slice none 0 0) := by rw [hb2.cell (by simp; omega)]; go_simp
  have B2 : w2.cell? ⟨w.heap.size + 1, 2, none⟩ = some (.slice none 0 0) := by rw [hb2.cell (by simp; omega)]; go_simp
  have FB : ∀ i, w2.frozen? ⟨w.heap.size + 1, i, none⟩ = false := fun i => by rw [hb2.frozen (by simp; omega)]; go_simp
  have FC : ∀ i, w2.frozen? ⟨w.heap.size + 1 + 1, i, none⟩ = false := fun i => by rw [hb2.frozen (by simp; omega)]; go_simp
  have K12 : Keep (w.heap.size + 1 + 1 + 1) w1 w2 := ((Keep.refl _ _).setCell (by simp)).trans (by simp) (Keep.of_below hb2)
  have HK : Hid (Keep (w.heap.size + 1 + 1 + 1) w1 w2) := K12
  have HO2' : Hid (StmtsO (w.heap.size + 1 + 1 + 1) w2 (.slice (some ⟨g2, 0, none⟩) fs.length fs.length) fs) := HO2.out.mono (by simp; omega)
  clear a0 a1 a2 b0 b1 b2 c0 c1 c2 fb fc K12 hb2 HO2 hB1 hB1s
  go_wp2_with fail
  refine bodyPost_ret (v := .agg #[.string n, .slice (some ⟨g1, 0, none⟩) es.length es.length, .slice (some ⟨g2, 0, none⟩) fs.length fs.length]) (by simp [results, Tryd.results28, go_sem, B0, B1, B2]) rfl ⟨_, _, rfl, ?_, ?_, ?_⟩
  · exact ((HO1.out.keep HK.out).keep (((((Keep.refl _ _).setCell (by first | (simp; done) | (simp; omega))).setCell (by first | (simp; done) | (simp; omega))).setCell (by first | (simp; done) | (simp; omega))).setCell (by first | (simp; done) | (simp; omega)))).mono (by omega)
  · exact (HO2'.out.keep (((((Keep.refl _ _).setCell (by first | (simp; done) | (simp; omega))).setCell (by first | (simp; done) | (simp; omega))).setCell (by first | (simp; done) | (simp; omega))).setCell (by first | (simp; done) | (simp; omega)))).mono (by omega)
  · exact ((((hB2).setCell (by first | (simp; done) | (simp; omega)) _).setCell (by first | (simp; done) | (simp; omega)) _).setCell (by first | (simp; done) | (simp; omega)) _).setCell (by first | (simp; done) | (simp; omega)) _

def encF (f : Fu) (v : Value × Value) : List Value := [.string f.name, v.1, v.2]
def dFu : Fu := ⟨⟨#[]⟩, [], []⟩
def FuncsO (B : Nat) (w : World) (v : Value) (ns : List Fu) : Prop := ∃ (g : Nat) (xs : List Value) (V : Nat → Value × Value), v = .slice (some ⟨g, 0, none⟩) ns.length ns.length ∧ w.ownsRow B 45 3 v ns.length xs ∧ RowIs (fun j => encF (ns.getD j dFu) (V j)) 3 ns.length xs ∧ ∀ j (h : j < ns.length), StrsO B w (V j).1 ns[j].params ∧ StmtsO B w (V j).2 ns[j].body
theorem FuncsO.funcs {B : Nat} {w : World} {v : Value} {ns : List Fu} (h : FuncsO B w v ns) (hm : ns.length ≤ 9223372036854775807) (hs : ∀ s ∈ ns, smallF s) : Funcs w v ns := by
  obtain ⟨g, xs, V, rfl, ho, hx, hn⟩ := h
  refine ⟨_, _, rfl, Nat.le_refl _, hm, fun h0 => ⟨g, 0, rfl, fun j hj => ?_⟩⟩
  have hl := ho.1
  have key : ∀ i, i < 3 → w.cell? ⟨g, 0 + j * 3 + i, none⟩ = (encF ns[j] (V j))[i]? := fun i hi => by
    rw [Nat.zero_add, ho.cellAt (j * 3 + i) (by omega), hx j hj i hi]
    simp [List.getD, hj]
  have hsm := hs ns[j] (List.getElem_mem hj)
  exact ⟨(V j).1, (V j).2, ⟨key 0 (by omega), key 1 (by omega), key 2 (by omega)⟩, (hn j hj).1.strs (by have := hsm.1; omega), (hn j hj).2.stmts (by have := hsm.2.1; omega) hsm.2.2⟩
theorem FuncsO.keep {B : Nat} {w w' : World} {v : Value} {ns : List Fu} (h : FuncsO B w v ns) (hb : Keep B w w') : FuncsO B w' v ns := by
  obtain ⟨g, xs, V, rfl, ho, hx, hn⟩ := h
  exact ⟨g, xs, V, rfl, owns_keep ho hb, hx, fun j hj => ⟨(hn j hj).1.keep hb, (hn j hj).2.keep hb⟩⟩
theorem FuncsO.mono {B B' : Nat} {w : World} {v : Value} {ns : List Fu} (h : FuncsO B w v ns) (hb : B' ≤ B) : FuncsO B' w v ns := by
  obtain ⟨g, xs, V, rfl, ho, hx, hn⟩ := h
  exact ⟨g, xs, V, rfl, owns_mono ho hb, hx, fun j hj => ⟨(hn j hj).1.mono hb, (hn j hj).2.mono hb⟩⟩
theorem inf_func : (Tryd.prog.info? 45).map (fun i => (i.zero, i.size, i.bytes)) = some (some (.agg #[.string ⟨#[]⟩, .slice none 0 0, .slice none 0 0]), 3, 64) := by kernel_rfl

set_option maxHeartbeats 1000000 in
theorem toFuncs_any (v : Value) (ns : List Fu) (w : World) (hl : ns.length ≤ 1048576) (hs : ∀ s ∈ ns, smallF s) (hc : Funcs w v ns) :
    Calls Tryd.prog 15 #[v] w fun e w' => ∃ v', e = .returned v' ∧ FuncsO w.heap.size w' v' ns ∧ Below w.heap.size w w' := by
  have HS : Hid (∀ s ∈ ns, smallF s) := hs
  obtain ⟨a, cap, rfl, hcl, hcm, hc⟩ := hc
  have HC : Hid (0 < ns.length → ∃ b off, a = some ⟨b, off, none⟩ ∧ FuncsC w b off ns) := hc
  clear hc hs
  obtain ⟨i0, hi, hz0, hz1, hz2⟩ := info_parts inf_func
  go_enter Tryd.func15, Tryd.ntmps15
  go_wp2_with (at_make; refine wpList_make_full _ rfl _ _ 29 rfl w.heap.size 45 i0 (.agg #[.string ⟨#[]⟩, .slice none 0 0, .slice none 0 0]) 3 Tryd.underlying29 hi hz0 hz1 _ _ _ _ ns.length rfl rfl (by omega) (by omega) ?_ ?_ (Nat.le_refl _) ?_)
  · rw [hz2]; omega
  · unfold maxLen; omega
  intro w1 hown1 hgrow1
  have hnx1 : Below w.heap.size w w1 := (Below.refl _ _).grown hgrow1 (Nat.le_refl _) (by simp)
  go_wp2_with fail
  go_loopw [4] (fun i wr => ∃ (k : Nat) (xs : List Value) (V : Nat → Value × Value), k ≤ ns.length ∧ i = .int .i64 k ∧ wr.ownsRow w.heap.size 45 3 (.slice (some ⟨w.heap.size, 0, none⟩) ns.length ns.length) ns.length xs ∧ RowIs (fun j => encF (ns.getD j dFu) (V j)) 3 k xs ∧ (∀ j (h : j < ns.length), j < k → StrsO (w.heap.size + 1) wr (V j).1 ns[j].params ∧ StmtsO (w.heap.size + 1) wr (V j).2 ns[j].body) ∧ Below w.heap.size w wr)
    (fun i _ => ns.length - (intOf i).toNat)
  case atStart => exact ⟨0, _, fun _ => (.nilFunc, .nilFunc), Nat.zero_le _, rfl, hown1, RowIs.zero _ _ _, fun j _ hj => absurd hj (Nat.not_lt_zero _), hnx1⟩
  case round =>
    obtain ⟨k, xs, V, hk, rfl, hown, hxs, hV, hB⟩ := hrel
    clear hown1 hgrow1 hnx1
    have HX : Hid (RowIs (fun j => encF (ns.getD j dFu) (V j)) 3 k xs) := hxs
    have HV : Hid (∀ j (h : j < ns.length), j < k → StrsO (w.heap.size + 1) wr (V j).1 ns[j].params ∧ StmtsO (w.heap.size + 1) wr (V j).2 ns[j].body) := hV
    clear hxs hV
    by_cases hlt : k < ns.length
    · obtain ⟨b, off, rfl, hc⟩ := HC.out (by omega)
      obtain ⟨ve, vf, ⟨d0, d1, d2⟩, he, hf⟩ := (hc.below hB) k hlt
      have hsm := HS.out ns[k] (List.getElem_mem hlt)
      have HN : Hid (ns.getD k dFu = ns[k]) := by show _ = _; simp [List.getD, hlt]
      have HNK : Hid (∀ h : k < ns.length, ns[k] = ns[k]) := fun _ => rfl
      clear hc
      generalize hgen : ns[k] = n at d0 d1 d2 he hf HN hsm
      have HG : Hid (ns[k] = n) := hgen
      clear hgen HNK
      have HNE : Hid (Strs wr ve n.params) := he
      have HNF : Hid (Stmts wr vf n.body) := hf
      have HSM : Hid (smallF n) := hsm
      obtain ⟨a2, k2, rfl, -, -, -⟩ := he
      obtain ⟨a3, k3, rfl, -, -, -⟩ := hf
      have HO : Hid (wr.ownsRow w.heap.size 45 3 (.slice (some ⟨w.heap.size, 0, none⟩) ns.length ns.length) ns.length xs) := hown
      clear hown hsm
      go_wp2_with fail
      refine (toFunc_any n _ _ _ HSM.out HNE.out HNF.out).mono ?_
      rintro e w2 ⟨ve', vf', rfl, hoe, hof, hb2⟩
      have hgl := own_lt HO.out
      have HOE : Hid (StrsO (w.heap.size + 1) w2 ve' n.params) := hoe.mono (by omega)
      have HOF : Hid (StmtsO (w.heap.size + 1) w2 vf' n.body) := hof.mono (by omega)
      obtain ⟨ge, xe, rfl, -, -⟩ := hoe
      obtain ⟨gf, xf, Vf, rfl, -, -, -⟩ := hof
      have hown2 := owns_below HO.out hb2
      obtain ⟨⟨y0, o0⟩, f0⟩ := own_old hown2 (k * 3) (by omega)
      obtain ⟨⟨y1, o1⟩, f1⟩ := own_old hown2 (k * 3 + 1) (by omega)
      obtain ⟨⟨y2, o2⟩, f2⟩ := own_old hown2 (k * 3 + 2) (by omega)
      have hB2 := hB.trans (hb2.mono hB.size)
      have HR : Hid _ := owns_put (encF n (.slice (some ⟨ge, 0, none⟩) n.params.length n.params.length, .slice (some ⟨gf, 0, none⟩) n.body.length n.body.length)) w2 xs (k * 3) hown2
      have HL : Hid (xs.length = ns.length * 3) := hown2.1
      have HB3 : Hid _ := below_put (Nat.le_refl _) (encF n (.slice (some ⟨ge, 0, none⟩) n.params.length n.params.length, .slice (some ⟨gf, 0, none⟩) n.body.length n.body.length)) w2 (k * 3) hB2
      have HK2 : Hid (Keep (w.heap.size + 1) w2 (setMany w2 w.heap.size (k * 3) (encF n (.slice (some ⟨ge, 0, none⟩) n.params.length n.params.length, .slice (some ⟨gf, 0, none⟩) n.body.length n.body.length)))) := Keep.of_set (by omega)
      have HKB : Hid (Keep (w.heap.size + 1) wr w2) := Keep.of_below hb2
      clear hown2 d0 d1 d2
      go_wp2_with fail
      go_roundw
      case rel =>
        refine ⟨k + 1, _, fun j => if j = k then (.slice (some ⟨ge, 0, none⟩) n.params.length n.params.length, .slice (some ⟨gf, 0, none⟩) n.body.length n.body.length) else V j, by omega, by go_num, HR.out, HX.out.step (fun j hj => ?_) ?_ rfl (by have := HL.out; omega), fun j hj hjk => ?_, HB3.out⟩
        · dsimp only; rw [if_neg (by omega)]
        · dsimp only; rw [if_pos rfl, HN.out]
        · by_cases e : j = k
          · subst e
            dsimp only
            rw [if_pos rfl, HG.out]
            exact ⟨HOE.out.keep HK2.out, HOF.out.keep HK2.out⟩
          · dsimp only
            rw [if_neg e]
            have h := HV.out j hj (by omega)
            exact ⟨(h.1.keep HKB.out).keep HK2.out, (h.2.keep HKB.out).keep HK2.out⟩
      case measure => simp [intOf]; omega
    · have HO : Hid (wr.ownsRow w.heap.size 45 3 (.slice (some ⟨w.heap.size, 0, none⟩) ns.length ns.length) ns.length xs) := hown
      clear hown
      have HK : Hid (k = ns.length) := by show _ = _; omega
      go_wp2_with fail
      go_ret
      exact ⟨_, rfl, ⟨w.heap.size, xs, V, rfl, HO.out, by rw [← HK.out]; exact HX.out, fun j hj => ⟨(HV.out j hj (by have := HK.out; omega)).1.mono (by omega), (HV.out j hj (by have := HK.out; omega)).2.mono (by omega)⟩⟩, hB⟩


set_option maxHeartbeats 1000000 in
theorem toTree_any (t : Tr) (vg vf : Value) (w : World) (hs : smallT t) (hg : Globs w vg t.globals) (hf : Funcs w vf t.funcs) :
    Calls Tryd.prog 6 #[.agg #[vg, vf]] w fun e w' => ∃ vg' vf', e = .returned (.agg #[vg', vf']) ∧ GlobsO w.heap.size w' vg' t.globals ∧ FuncsO w.heap.size w' vf' t.funcs ∧ Below w.heap.size w w' := by
  obtain ⟨es, fs⟩ := t
  have hse : es.length ≤ 1048576 := hs.1
  have hsf : fs.length ≤ 1048576 := hs.2.1
  have HSM : Hid (∀ s ∈ fs, smallF s) := hs.2.2
  simp only at hg hf ⊢
  have HE : Hid (Globs w vg es) := hg
  have HF : Hid (Funcs w vf fs) := hf
  obtain ⟨ae, ce, rfl, -, -, -⟩ := hg
  obtain ⟨af, cf, rfl, -, -, -⟩ := hf
  clear hs
  have hA : Below w.heap.size w (((w.alloc (.cells #[.slice ae es.length ce, .slice af fs.length cf] 25)).alloc (.cells #[.slice none 0 0, .slice none 0 0] 31)).alloc (.cells #[.slice none 0 0, .slice none 0 0] 31)) := (((Below.refl _ _).alloc (Nat.le_refl _) _).alloc (by simp) _).alloc (by simp; omega) _
  go_enter Tryd.func6, Tryd.ntmps6
  go_wp2_with fail
  refine (toGlobs_any _ es _ hse (HE.out.below hA)).mono ?_
  rintro e w1 ⟨v1, rfl, ho1, hb1⟩
  simp only [World.size_alloc] at ho1 hb1
  have HO1 : Hid (GlobsO (w.heap.size + 1 + 1 + 1) w1 v1 es) := ho1
  obtain ⟨g1, xs1, rfl, -, -⟩ := ho1
  have hz1 : w.heap.size + 1 + 1 + 1 ≤ w1.heap.size := by have := hb1.size; simpa using this
  have hB1 := hA.trans (hb1.mono (by omega))
  obtain ⟨⟨a0, a1⟩, ⟨b0, b1⟩, ⟨c0, c1⟩, fb, fc⟩ := box222 hb1
  clear hb1 hA
  go_wp2_with fail
  have hB1s := hB1.setCell (p := ⟨w.heap.size + 1 + 1, 0, none⟩) (by simp; omega) (.slice (some ⟨g1, 0, none⟩) es.length es.length)
  refine (toFuncs_any _ fs _ hsf HSM.out (HF.out.below hB1s)).mono ?_
  rintro e w2 ⟨v2, rfl, ho2, hb2⟩
  have HO2 : Hid (FuncsO _ w2 v2 fs) := ho2
  obtain ⟨g2, xs2, V2, rfl, -, -, -⟩ := ho2
  have hz2 : w1.heap.size ≤ w2.heap.size := by have := hb2.size; simpa using this
  have hB2 := hB1s.trans (hb2.mono (by simp; omega))
  have C0 : w2.cell? ⟨w.heap.size + 1 + 1, 0, none⟩ = some (.slice (some ⟨g1, 0, none⟩) es.length es.length) := by rw [hb2.cell (by simp; omega)]; go_simp
  have C1 : w2.cell? ⟨w.heap.size + 1 + 1, 1, none⟩ = some (.slice none 0 0) := by rw [hb2.cell (by simp; omega)]; go_simp
  have B0 : w2.cell? ⟨w.heap.size + 1, 0, none⟩ = some (.slice none 0 0) := by rw [hb2.cell (by simp; omega)]; go_simp
  have B1 : w2.cell? ⟨w.heap.size + 1, 1, none⟩ = some (.slice none 0 0) := by rw [hb2.cell (by simp; omega)]; go_simp
  have FB : ∀ i, w2.frozen? ⟨w.heap.size + 1, i, none⟩ = false := fun i => by rw [hb2.frozen (by simp; omega)]; go_simp
  have FC : ∀ i, w2.frozen? ⟨w.heap.size + 1 + 1, i, none⟩ = false := fun i => by rw [hb2.frozen (by simp; omega)]; go_simp
  have K12 : Keep (w.heap.size + 1 + 1 + 1) w1 w2 := ((Keep.refl _ _).setCell (by simp)).trans (by simp) (Keep.of_below hb2)
  have HK : Hid (Keep (w.heap.size + 1 + 1 + 1) w1 w2) := K12
  have HO2' : Hid (FuncsO (w.heap.size + 1 + 1 + 1) w2 (.slice (some ⟨g2, 0, none⟩) fs.length fs.length) fs) := HO2.out.mono (by simp; omega)
  clear a0 a1 b0 b1 c0 c1 fb fc K12 hb2 HO2 hB1 hB1s
  go_wp2_with fail
  refine bodyPost_ret (v := .agg #[.slice (some ⟨g1, 0, none⟩) es.length es.length, .slice (some ⟨g2, 0, none⟩) fs.length fs.length]) (by simp [results, Tryd.results6, go_sem, B0, B1]) rfl ⟨_, _, rfl, ?_, ?_, ?_⟩
  · exact ((HO1.out.keep HK.out).keep ((((Keep.refl _ _).setCell (by first | (simp; done) | (simp; omega))).setCell (by first | (simp; done) | (simp; omega))).setCell (by first | (simp; done) | (simp; omega)))).mono (by omega)
  · exact (HO2'.out.keep ((((Keep.refl _ _).setCell (by first | (simp; done) | (simp; omega))).setCell (by first | (simp; done) | (simp; omega))).setCell (by first | (simp; done) | (simp; omega)))).mono (by omega)
  · exact (((hB2).setCell (by first | (simp; done) | (simp; omega)) _).setCell (by first | (simp; done) | (simp; omega)) _).setCell (by first | (simp; done) | (simp; omega)) _

end Go.Proofs.YtijgcjeijcidfaaDoor
