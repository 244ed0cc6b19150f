import Derived.Test.YtjnnepkoeloekaaGreatDoorPZC
import Derived.Test.YtjnnepkoeloekaaGreatDoorPVC
import Derived.Test.YtjnnepkoeloekaaGreatDoorPZE
set_option linter.unusedSectionVars false
variable [Inhabited Go.Proofs.YtjnnepkoeloekaaGreatDoor.Pick]
namespace Go.Proofs.YtjnnepkoeloekaaGreatDoor
open Go.RowKit Go.Sort
set_option linter.unusedVariables false
set_option linter.unusedSimpArgs false

theorem below_bytes (w : World) (e : TypeId) (s : ByteArray) : Below w.heap.size w (Lib.bytesWorld w e s) :=
  ⟨by simp [Lib.bytesWorld, World.freeze, World.alloc, World.drew, -World.alloc_eq, -World.drew_eq], by simp [Lib.bytesWorld, World.freeze, World.alloc, World.drew, -World.alloc_eq, -World.drew_eq], by simp [Lib.bytesWorld, World.freeze, World.alloc, World.drew, -World.alloc_eq, -World.drew_eq], by rw [Lib.bytesWorld_size]; omega, fun k hk => Lib.bytesWorld_at_old w e s k hk⟩
theorem byts_conv (w : World) (l : List UInt8) (c : Nat) : Byts (Lib.bytesWorld w 5 (tx l)) (.slice (some ⟨w.heap.size, 0, none⟩) (tx l).size c) l := by
  refine ⟨_, c, by rw [tx_size], fun _ => ⟨_, rfl, fun j hj => ?_⟩⟩
  rw [Lib.bytesWorld_cell w 5 (tx l) j (by rw [tx_size]; exact hj)]
  simp [tx, List.getD, List.getElem?_eq_getElem hj]

set_option maxRecDepth 10000000 in
set_option maxHeartbeats 8000000 in
theorem printS_any (t : Tr) (vg vf : Value) (w : World) (ht : smallT t) (hg : Globs w vg t.globals) (hf : Funcs w vf t.funcs) :
    Calls Tryz.prog 5 #[.agg #[vg, vf]] w fun e w' => ∃ v, e = .returned v ∧ Byts w' v (prT t) ∧ Below w.heap.size w w' := by
  have HS : Hid (smallT t) := ht
  have HG : Hid (Globs w vg t.globals) := hg
  have HF : Hid (Funcs w vf t.funcs) := hf
  obtain ⟨ag, cg, rfl, hcg, hcgm, -⟩ := hg
  obtain ⟨af, cf, rfl, hcf, hcfm, -⟩ := hf
  have hgl : t.globals.length ≤ 1048576 := ht.1
  have hfl : t.funcs.length ≤ 1048576 := ht.2.1
  clear ht
  go_enter Tryz.func5, Tryz.ntmps5
  go_wp2_with fail
  have hbA : ∀ o1, Below w.heap.size w (w.alloc o1) := fun o1 => (Below.refl _ _).alloc (Nat.le_refl _) o1
  refine (gtree_any t _ _ _ HS.out (HG.out.below (hbA _)) (HF.out.below (hbA _))).mono ?_
  rintro e w1 ⟨rfl, hb1⟩
  have hb1' : Below (w.heap.size + 1) (w.alloc (.cells #[.slice ag t.globals.length cg, .slice af t.funcs.length cf] 32)) w1 := by
    have := hb1
    simp only [World.size_alloc] at this
    exact this
  have x0 : w1.cell? ⟨w.heap.size, 0, none⟩ = some (.slice ag t.globals.length cg) := by rw [hb1'.cell (by simp)]; simp
  have x1 : w1.cell? ⟨w.heap.size, 1, none⟩ = some (.slice af t.funcs.length cf) := by rw [hb1'.cell (by simp)]; simp
  have hbw : Below w.heap.size w w1 := (hbA _).trans (hb1'.mono (by omega))
  have hH : w.heap.size < w1.heap.size := by have := hb1'.size; simp at this; omega
  have HBw : Hid (Below w.heap.size w w1) := hbw
  have HX0 : Hid (w1.cell? ⟨w.heap.size, 0, none⟩ = some (.slice ag t.globals.length cg)) := x0
  have HX1 : Hid (w1.cell? ⟨w.heap.size, 1, none⟩ = some (.slice af t.funcs.length cf)) := x1
  clear hb1 hb1' hbA hbw
  cases htr : treeB t
  · have HE : Hid (prT t = []) := by show _ = _; rw [prT, htr]; rfl
    go_wp2_with fail
    refine bodyPost_ret (v := .slice (some ⟨w1.heap.size, 0, none⟩) 0 0) (by simp [results, Tryz.results5, go_sem]) rfl ⟨_, rfl, ?_, HBw.out.alloc HBw.out.size _⟩
    rw [HE.out]
    exact ⟨_, _, rfl, fun h => absurd h (by simp)⟩
  · obtain ⟨hg50, hf50, hgB, hfB⟩ := treeB_parts htr
    have HE : Hid (prT t = t.globals.flatMap globT ++ t.funcs.flatMap funcT) := by show _ = _; rw [prT, if_pos htr]; rfl
    have HGB : Hid (∀ g ∈ t.globals, globB g = true) := hgB
    have HFB : Hid (∀ f ∈ t.funcs, funcB f = true) := hfB
    have HGl : Hid (∀ k, k ≤ 50 → ((t.globals.take k).flatMap globT).length ≤ 2500) := fun k hk => by
      have := flat_len globT 50 t.globals (fun g hg => globT_len (hgB g hg)) k
      omega
    have HFl : Hid (∀ k, k ≤ 50 → ((t.funcs.take k).flatMap funcT).length ≤ 6000000) := fun k hk => by
      have := flat_len funcT 120000 t.funcs (fun f hf => funcT_len (hfB f hf)) k
      omega
    clear hgB hfB htr
    go_wp2_with fail
    go_loopw [3, 4] (fun ot ix wr => ∃ (k : Nat) (dn : List UInt8), k ≤ t.globals.length ∧ ix = .int .i64 k ∧ ot = .string (tx dn) ∧ dn = (t.globals.take k).flatMap globT ∧ Below w1.heap.size w1 wr) (fun _ ix _ => t.globals.length - (intOf ix).toNat)
    case atStart => exact ⟨0, [], Nat.zero_le _, rfl, rfl, by simp, Below.refl _ _⟩
    case round =>
      obtain ⟨k, dn, hk, rfl, rfl, hdn, hBk⟩ := hrel
      have HDn : Hid (dn = (t.globals.take k).flatMap globT) := hdn
      have HDl : Hid (dn.length ≤ 2500) := by have := HGl.out k (by omega); rw [← hdn] at this; exact this
      have y0 := (hBk.cell (p := ⟨w.heap.size, 0, none⟩) hH).trans HX0.out
      have hsd : ((tx dn).size : Int) ≤ 900000000 := by rw [tx_size]; have := HDl.out; omega
      clear x0 x1 hdn
      by_cases hkA : k < t.globals.length
      · have HGk : Hid (globB t.globals[k] = true) := HGB.out _ (List.getElem_mem hkA)
        have HSt : Hid ((t.globals.take (k + 1)).flatMap globT = dn ++ globT t.globals[k]) := by show _ = _; rw [flatm_step globT t.globals k hkA, HDn.out]
        obtain ⟨ag', cg', he, _, _, hu3⟩ := HG.out.below (HBw.out.trans (hBk.mono HBw.out.size))
        simp only [Value.slice.injEq, true_and] at he
        obtain ⟨rfl, rfl⟩ := he
        obtain ⟨bg, og, rfl, hgc⟩ := hu3 (by omega)
        obtain ⟨z0, z1⟩ := hgc k hkA
        clear hu3 hgc
        generalize t.globals[k] = g at z0 z1 HGk HSt
        obtain ⟨nm, z⟩ := g
        obtain ⟨nl, rfl⟩ : ∃ nl, nm = tx nl := ⟨_, (tx_back nm).symm⟩
        simp only at z0 z1
        have HGp : Hid (nameB (tx nl) = true ∧ 0 ≤ z ∧ z ≤ 4000) := globB_parts HGk.out
        obtain ⟨hz0, hz1⟩ := HGp.out.2
        have HTl : Hid ((globT ⟨tx nl, z⟩).length ≤ 50) := globT_len HGk.out
        by_cases hz : z = 0
        · subst hz
          have HQ : Hid (globT ⟨tx nl, 0⟩ = [105, 110, 116, 32] ++ nl ++ [59, 10]) := by show _ = _; simp [globT, tx]
          have HLS : Hid (dn.length + ([105, 110, 116, 32] ++ nl ++ [59, 10]).length ≤ 900000000) := by have h1 := HTl.out; rw [HQ.out] at h1; have h2 := HDl.out; show _ ≤ _; omega
          have ce0 : tx (dn) ++ (⟨#[105, 110, 116, 32]⟩ : ByteArray) = tx (dn ++ [105, 110, 116, 32]) := tx_append _ [105, 110, 116, 32]
          have cz0 : (⟨#[105, 110, 116, 32]⟩ : ByteArray).size = 4 := rfl
          have cs0 : ((tx (dn ++ [105, 110, 116, 32])).size : Int) ≤ 900000000 := by rw [tx_size]; have := HLS.out; simp only [List.length_append, List.length_cons, List.length_nil] at this ⊢; omega
          have ce1 : tx (dn ++ [105, 110, 116, 32]) ++ tx nl = tx (dn ++ [105, 110, 116, 32] ++ nl) := tx_append _ _
          have ct1 : ((tx nl).size : Int) ≤ 900000000 := by rw [tx_size]; have := HLS.out; simp only [List.length_append, List.length_cons, List.length_nil] at this; omega
          have cs1 : ((tx (dn ++ [105, 110, 116, 32] ++ nl)).size : Int) ≤ 900000000 := by rw [tx_size]; have := HLS.out; simp only [List.length_append, List.length_cons, List.length_nil] at this ⊢; omega
          have ce2 : tx (dn ++ [105, 110, 116, 32] ++ nl) ++ (⟨#[59, 10]⟩ : ByteArray) = tx (dn ++ [105, 110, 116, 32] ++ nl ++ [59, 10]) := tx_append _ [59, 10]
          have cz2 : (⟨#[59, 10]⟩ : ByteArray).size = 2 := rfl
          have cs2 : ((tx (dn ++ [105, 110, 116, 32] ++ nl ++ [59, 10])).size : Int) ≤ 900000000 := by rw [tx_size]; have := HLS.out; simp only [List.length_append, List.length_cons, List.length_nil] at this ⊢; omega
          generalize ch : tx (dn ++ [105, 110, 116, 32] ++ nl ++ [59, 10]) = cX3 at ce2 cs2
          have HX : Hid (tx (dn ++ [105, 110, 116, 32] ++ nl ++ [59, 10]) = cX3) := ch
          clear ch
          generalize tx (dn ++ [105, 110, 116, 32] ++ nl) = cX2 at ce1 cs1 ce2
          generalize tx (dn ++ [105, 110, 116, 32]) = cX1 at ce0 cs0 ce1
          go_wp2_with fail
          go_roundw
          case rel => exact ⟨k + 1, dn ++ ([105, 110, 116, 32] ++ nl ++ [59, 10]), by omega, by go_num, by rw [← HX.out]; simp only [List.append_assoc], by rw [HSt.out, HQ.out], hBk.alloc hBk.size _⟩
          case measure => simp [intOf]; omega
        · have HQ : Hid (globT ⟨tx nl, z⟩ = [105, 110, 116, 32] ++ nl ++ [91] ++ (Lib.itoa z) ++ [93] ++ [59, 10]) := by show _ = _; simp [globT, tx, hz]
          have HLS : Hid (dn.length + ([105, 110, 116, 32] ++ nl ++ [91] ++ (Lib.itoa z) ++ [93] ++ [59, 10]).length ≤ 900000000) := by have h1 := HTl.out; rw [HQ.out] at h1; have h2 := HDl.out; show _ ≤ _; omega
          have ce0 : tx (dn) ++ (⟨#[105, 110, 116, 32]⟩ : ByteArray) = tx (dn ++ [105, 110, 116, 32]) := tx_append _ [105, 110, 116, 32]
          have cz0 : (⟨#[105, 110, 116, 32]⟩ : ByteArray).size = 4 := rfl
          have cs0 : ((tx (dn ++ [105, 110, 116, 32])).size : Int) ≤ 900000000 := by rw [tx_size]; have := HLS.out; simp only [List.length_append, List.length_cons, List.length_nil] at this ⊢; omega
          have ce1 : tx (dn ++ [105, 110, 116, 32]) ++ tx nl = tx (dn ++ [105, 110, 116, 32] ++ nl) := tx_append _ _
          have ct1 : ((tx nl).size : Int) ≤ 900000000 := by rw [tx_size]; have := HLS.out; simp only [List.length_append, List.length_cons, List.length_nil] at this; omega
          have cs1 : ((tx (dn ++ [105, 110, 116, 32] ++ nl)).size : Int) ≤ 900000000 := by rw [tx_size]; have := HLS.out; simp only [List.length_append, List.length_cons, List.length_nil] at this ⊢; omega
          have ce2 : tx (dn ++ [105, 110, 116, 32] ++ nl) ++ (⟨#[91]⟩ : ByteArray) = tx (dn ++ [105, 110, 116, 32] ++ nl ++ [91]) := tx_append _ [91]
          have cz2 : (⟨#[91]⟩ : ByteArray).size = 1 := rfl
          have cs2 : ((tx (dn ++ [105, 110, 116, 32] ++ nl ++ [91])).size : Int) ≤ 900000000 := by rw [tx_size]; have := HLS.out; simp only [List.length_append, List.length_cons, List.length_nil] at this ⊢; omega
          have ce3 : tx (dn ++ [105, 110, 116, 32] ++ nl ++ [91]) ++ tx (Lib.itoa z) = tx (dn ++ [105, 110, 116, 32] ++ nl ++ [91] ++ (Lib.itoa z)) := tx_append _ _
          have ct3 : ((tx (Lib.itoa z)).size : Int) ≤ 900000000 := by rw [tx_size]; have := HLS.out; simp only [List.length_append, List.length_cons, List.length_nil] at this; omega
          have cs3 : ((tx (dn ++ [105, 110, 116, 32] ++ nl ++ [91] ++ (Lib.itoa z))).size : Int) ≤ 900000000 := by rw [tx_size]; have := HLS.out; simp only [List.length_append, List.length_cons, List.length_nil] at this ⊢; omega
          have ce4 : tx (dn ++ [105, 110, 116, 32] ++ nl ++ [91] ++ (Lib.itoa z)) ++ (⟨#[93]⟩ : ByteArray) = tx (dn ++ [105, 110, 116, 32] ++ nl ++ [91] ++ (Lib.itoa z) ++ [93]) := tx_append _ [93]
          have cz4 : (⟨#[93]⟩ : ByteArray).size = 1 := rfl
          have cs4 : ((tx (dn ++ [105, 110, 116, 32] ++ nl ++ [91] ++ (Lib.itoa z) ++ [93])).size : Int) ≤ 900000000 := by rw [tx_size]; have := HLS.out; simp only [List.length_append, List.length_cons, List.length_nil] at this ⊢; omega
          have ce5 : tx (dn ++ [105, 110, 116, 32] ++ nl ++ [91] ++ (Lib.itoa z) ++ [93]) ++ (⟨#[59, 10]⟩ : ByteArray) = tx (dn ++ [105, 110, 116, 32] ++ nl ++ [91] ++ (Lib.itoa z) ++ [93] ++ [59, 10]) := tx_append _ [59, 10]
          have cz5 : (⟨#[59, 10]⟩ : ByteArray).size = 2 := rfl
          have cs5 : ((tx (dn ++ [105, 110, 116, 32] ++ nl ++ [91] ++ (Lib.itoa z) ++ [93] ++ [59, 10])).size : Int) ≤ 900000000 := by rw [tx_size]; have := HLS.out; simp only [List.length_append, List.length_cons, List.length_nil] at this ⊢; omega
          generalize ch : tx (dn ++ [105, 110, 116, 32] ++ nl ++ [91] ++ (Lib.itoa z) ++ [93] ++ [59, 10]) = cX6 at ce5 cs5
          have HX : Hid (tx (dn ++ [105, 110, 116, 32] ++ nl ++ [91] ++ (Lib.itoa z) ++ [93] ++ [59, 10]) = cX6) := ch
          clear ch
          generalize tx (dn ++ [105, 110, 116, 32] ++ nl ++ [91] ++ (Lib.itoa z) ++ [93]) = cX5 at ce4 cs4 ce5
          generalize tx (dn ++ [105, 110, 116, 32] ++ nl ++ [91] ++ (Lib.itoa z)) = cX4 at ce3 cs3 ce4
          generalize tx (dn ++ [105, 110, 116, 32] ++ nl ++ [91]) = cX3 at ce2 cs2 ce3
          generalize tx (dn ++ [105, 110, 116, 32] ++ nl) = cX2 at ce1 cs1 ce2
          generalize tx (dn ++ [105, 110, 116, 32]) = cX1 at ce0 cs0 ce1
          have hzp : (0 : Int) < z := by omega
          go_wp2_with fail
          refine (digits_any z (by omega) (by omega) _).mono ?_
          rintro x w3 ⟨rfl, hb3⟩
          have hB3 : Below w1.heap.size w1 w3 := (hBk.alloc hBk.size _).trans (hb3.mono (by have := hBk.size; simp; omega))
          clear hb3
          go_wp2_with fail
          go_roundw
          case rel => exact ⟨k + 1, dn ++ ([105, 110, 116, 32] ++ nl ++ [91] ++ (Lib.itoa z) ++ [93] ++ [59, 10]), by omega, by go_num, by rw [← HX.out]; simp only [List.append_assoc], by rw [HSt.out, HQ.out], hB3⟩
          case measure => simp [intOf]; omega
      · obtain rfl : k = t.globals.length := by omega
        have HGt : Hid (dn = t.globals.flatMap globT) := by have := HDn.out; rw [List.take_length] at this; exact this
        rw [← HGt.out] at HE
        clear HDn HGt HGB HGl
        generalize hgt : dn = gt at *
        clear hgt
        have HB1 : Hid (Below w1.heap.size w1 wr) := hBk
        clear hBk
        go_wp2_with fail
        clear y0
        go_loopw [3, 6] (fun ot ix wr => ∃ (k : Nat) (dn : List UInt8), k ≤ t.funcs.length ∧ ix = .int .i64 k ∧ ot = .string (tx dn) ∧ dn = gt ++ (t.funcs.take k).flatMap funcT ∧ Below w1.heap.size w1 wr) (fun _ ix _ => t.funcs.length - (intOf ix).toNat)
        case atStart => exact ⟨0, gt, Nat.zero_le _, rfl, rfl, by simp, HB1.out⟩
        case round =>
          obtain ⟨k, dn, hk, rfl, rfl, hdn, hBk⟩ := hrel
          have HDn : Hid (dn = gt ++ (t.funcs.take k).flatMap funcT) := hdn
          have HDl : Hid (dn.length ≤ 6002500) := by have h1 := HFl.out k (by omega); have h2 := HDl.out; rw [hdn]; show _ ≤ _; simp only [List.length_append]; omega
          have y1 := (hBk.cell (p := ⟨w.heap.size, 1, none⟩) hH).trans HX1.out
          have hsd : ((tx dn).size : Int) ≤ 900000000 := by rw [tx_size]; have := HDl.out; omega
          clear hdn
          by_cases hkA : k < t.funcs.length
          · have HFk : Hid (funcB t.funcs[k] = true) := HFB.out _ (List.getElem_mem hkA)
            have HSm : Hid (smallF t.funcs[k]) := HS.out.2.2 _ (List.getElem_mem hkA)
            have HSt : Hid (gt ++ (t.funcs.take (k + 1)).flatMap funcT = dn ++ funcT t.funcs[k]) := by show _ = _; rw [flatm_step funcT t.funcs k hkA, HDn.out, List.append_assoc]
            have HBk : Hid (Below w.heap.size w wr) := HBw.out.trans (hBk.mono HBw.out.size)
            obtain ⟨af0, cf0, he0, _, _, hu0⟩ := HF.out
            simp only [Value.slice.injEq, true_and] at he0
            obtain ⟨rfl, rfl⟩ := he0
            obtain ⟨bg, og, rfl, hgc⟩ := hu0 (by omega)
            obtain ⟨vp, vb, ⟨u0, u1, u2⟩, hp, hb⟩ := hgc k hkA
            have hlt := World.block_lt_of_cell? _ _ u0
            have z0 := (HBk.out.cell (p := ⟨bg, og + k * 3, none⟩) hlt).trans u0
            have z1 := (HBk.out.cell (p := ⟨bg, og + k * 3 + 1, none⟩) hlt).trans u1
            have z2 := (HBk.out.cell (p := ⟨bg, og + k * 3 + 2, none⟩) hlt).trans u2
            clear hu0 hgc u0 u1 u2 hlt
            generalize t.funcs[k] = f at z0 z1 z2 HFk HSt HSm hp hb
            have HP : Hid (Strs w vp f.params) := hp
            have hok : OkL f.body := ⟨(funcB_parts HFk.out).good, HSm.out.2.2⟩
            have hll := lines_len f.body.length f.body (Nat.le_refl _) (funcB_parts HFk.out).good
            have hls := (funcB_parts HFk.out).sum
            have hln := (funcB_parts HFk.out).nb
            have HLs : Hid (LinesS w vb (linesT f.body)) := linesS_any w f.body.length vb f.body (Nat.le_refl _) HSm.out.2.1 hok (by omega) hb
            have HTl : Hid ((funcT f).length ≤ 120000) := funcT_len HFk.out
            have hpl : f.params.length ≤ 6 := (funcB_parts HFk.out).np
            obtain ⟨ap, cp, rfl, -⟩ := hp
            obtain ⟨ab, cb, rfl, -⟩ := hb
            obtain ⟨nm, ps, bd⟩ := f
            obtain ⟨nl, rfl⟩ : ∃ nl, nm = tx nl := ⟨_, (tx_back nm).symm⟩
            simp only at z0 z1 z2 HP HLs hpl
            clear hok hll hls hln
            have HQ : Hid (funcT ⟨tx nl, ps, bd⟩ = [105, 110, 116, 32] ++ nl ++ [40] ++ commas (parT ps) ps.length ++ [41, 32, 123, 10] ++ linesT bd ++ [125, 10]) := by show _ = _; simp [funcT, tx]
            rw [HQ.out] at HSt HTl
            generalize linesT bd = tb at HLs HSt HTl
            clear HQ
            have HLS : Hid (dn.length + ([105, 110, 116, 32] ++ nl ++ [40]).length ≤ 900000000) := by have h1 := HTl.out; have h2 := HDl.out; show _ ≤ _; simp only [List.length_append] at *; omega
            have HLC : Hid (dn.length + ([105, 110, 116, 32] ++ nl ++ [40]).length + (commas (parT ps) ps.length).length + tb.length ≤ 800000000) := by have h1 := HTl.out; have h2 := HDl.out; show _ ≤ _; simp only [List.length_append] at *; omega
            have ce0 : tx (dn) ++ (⟨#[105, 110, 116, 32]⟩ : ByteArray) = tx (dn ++ [105, 110, 116, 32]) := tx_append _ [105, 110, 116, 32]
            have cz0 : (⟨#[105, 110, 116, 32]⟩ : ByteArray).size = 4 := rfl
            have cs0 : ((tx (dn ++ [105, 110, 116, 32])).size : Int) ≤ 900000000 := by rw [tx_size]; have := HLS.out; simp only [List.length_append, List.length_cons, List.length_nil] at this ⊢; omega
            have ce1 : tx (dn ++ [105, 110, 116, 32]) ++ tx nl = tx (dn ++ [105, 110, 116, 32] ++ nl) := tx_append _ _
            have ct1 : ((tx nl).size : Int) ≤ 900000000 := by rw [tx_size]; have := HLS.out; simp only [List.length_append, List.length_cons, List.length_nil] at this; omega
            have cs1 : ((tx (dn ++ [105, 110, 116, 32] ++ nl)).size : Int) ≤ 900000000 := by rw [tx_size]; have := HLS.out; simp only [List.length_append, List.length_cons, List.length_nil] at this ⊢; omega
            have ce2 : tx (dn ++ [105, 110, 116, 32] ++ nl) ++ (⟨#[40]⟩ : ByteArray) = tx (dn ++ [105, 110, 116, 32] ++ nl ++ [40]) := tx_append _ [40]
            have cz2 : (⟨#[40]⟩ : ByteArray).size = 1 := rfl
            have cs2 : ((tx (dn ++ [105, 110, 116, 32] ++ nl ++ [40])).size : Int) ≤ 900000000 := by rw [tx_size]; have := HLS.out; simp only [List.length_append, List.length_cons, List.length_nil] at this ⊢; omega
            generalize ch : tx (dn ++ [105, 110, 116, 32] ++ nl ++ [40]) = cX3 at ce2 cs2
            have HX : Hid (tx (dn ++ [105, 110, 116, 32] ++ nl ++ [40]) = cX3) := ch
            clear ch
            generalize tx (dn ++ [105, 110, 116, 32] ++ nl) = cX2 at ce1 cs1 ce2
            generalize tx (dn ++ [105, 110, 116, 32]) = cX1 at ce0 cs0 ce1
            go_wp2_with fail
            go_loopw [3, 8] (fun ot ix wq => ∃ (j : Nat) (da : List UInt8), j ≤ ps.length ∧ ix = .int .i64 j ∧ ot = .string (tx da) ∧ da = dn ++ [105, 110, 116, 32] ++ nl ++ [40] ++ commas (parT ps) j ∧ wq = wr.alloc (.cells #[.string (tx nl), .slice ap ps.length cp, .slice ab bd.length cb] 48)) (fun _ ix _ => ps.length - (intOf ix).toNat)
            case atStart => exact ⟨0, dn ++ [105, 110, 116, 32] ++ nl ++ [40], Nat.zero_le _, rfl, by rw [HX.out], by simp [commas], by first | rfl | trivial⟩
            case round =>
              obtain ⟨j, da, hj, rfl, rfl, hda, rfl⟩ := hrel
              have HDa : Hid (da = dn ++ [105, 110, 116, 32] ++ nl ++ [40] ++ commas (parT ps) j) := hda
              have HDal : Hid (da.length + tb.length ≤ 800000000) := by
                have h1 := commas_mono (parT ps) j ps.length hj
                have h2 := HLC.out
                show _ ≤ _
                rw [hda]
                simp only [List.length_append] at *
                omega
              have hsa : ((tx da).size : Int) ≤ 900000000 := by rw [tx_size]; have := HDal.out; omega
              clear hda
              by_cases hjA : j < ps.length
              · have HPa : Hid (parT ps j = [105, 110, 116, 32] ++ ps[j].data.toList) := parT_at ps j hjA
                have HCl : Hid ((commas (parT ps) (j + 1)).length ≤ (commas (parT ps) ps.length).length) := commas_mono _ (j + 1) _ hjA
                obtain ⟨ap', cp', he, _, _, hu3⟩ := HP.out.below (HBk.out.trans (((Below.refl _ _).alloc (Nat.le_refl _) (.cells #[.string (tx nl), .slice ap ps.length cp, .slice ab bd.length cb] 48)).mono HBk.out.size))
                simp only [Value.slice.injEq, true_and] at he
                obtain ⟨rfl, rfl⟩ := he
                obtain ⟨bp, op, rfl, hpc⟩ := hu3 (by omega)
                have hv := hpc j hjA
                clear hu3 hpc
                generalize ps[j] = pk at hv HPa
                obtain ⟨pl, rfl⟩ : ∃ pl, pk = tx pl := ⟨_, (tx_back pk).symm⟩
                have HPb : Hid (parT ps j = [105, 110, 116, 32] ++ pl) := HPa.out
                clear HPa
                have HPl : Hid (pl.length ≤ 800000000) := by
                  have h1 := HCl.out
                  have h2 := HLC.out
                  show _ ≤ _
                  simp only [commas, HPb.out, List.length_append] at *
                  omega
                by_cases hj0 : j = 0
                · subst hj0
                  rw [Nat.add_zero] at hv
                  have hjA' : (0 : Int) < (ps.length : Int) := by omega
                  have HLS : Hid (da.length + ([105, 110, 116, 32] ++ pl).length ≤ 900000000) := by
                    have h1 := HCl.out
                    have h2 := HLC.out
                    have h3 := HDa.out
                    show _ ≤ _
                    rw [h3]
                    simp only [commas, HPb.out, List.length_append, if_pos] at *
                    omega
                  have de0 : tx (da) ++ (⟨#[105, 110, 116, 32]⟩ : ByteArray) = tx (da ++ [105, 110, 116, 32]) := tx_append _ [105, 110, 116, 32]
                  have dz0 : (⟨#[105, 110, 116, 32]⟩ : ByteArray).size = 4 := rfl
                  have ds0 : ((tx (da ++ [105, 110, 116, 32])).size : Int) ≤ 900000000 := by rw [tx_size]; have := HLS.out; simp only [List.length_append, List.length_cons, List.length_nil] at this ⊢; omega
                  have de1 : tx (da ++ [105, 110, 116, 32]) ++ tx pl = tx (da ++ [105, 110, 116, 32] ++ pl) := tx_append _ _
                  have dt1 : ((tx pl).size : Int) ≤ 900000000 := by rw [tx_size]; have := HLS.out; simp only [List.length_append, List.length_cons, List.length_nil] at this; omega
                  have ds1 : ((tx (da ++ [105, 110, 116, 32] ++ pl)).size : Int) ≤ 900000000 := by rw [tx_size]; have := HLS.out; simp only [List.length_append, List.length_cons, List.length_nil] at this ⊢; omega
                  generalize dh : tx (da ++ [105, 110, 116, 32] ++ pl) = dX2 at de1 ds1
                  have HY : Hid (tx (da ++ [105, 110, 116, 32] ++ pl) = dX2) := dh
                  clear dh
                  generalize tx (da ++ [105, 110, 116, 32]) = dX1 at de0 ds0 de1
                  go_wp2_with fail
                  go_roundw
                  case rel => exact ⟨0 + 1, da ++ [105, 110, 116, 32] ++ pl, by omega, by go_num, by rw [HY.out], by rw [HDa.out]; simp [commas, HPb.out], by first | rfl | trivial⟩
                  case measure => simp [intOf]; omega
                · have hjp : (0 : Int) < (j : Int) := by omega
                  have HLS : Hid (da.length + ([44, 32] ++ [105, 110, 116, 32] ++ pl).length ≤ 900000000) := by
                    have h1 := HCl.out
                    have h2 := HLC.out
                    have h3 := HDa.out
                    show _ ≤ _
                    rw [h3]
                    simp only [commas, HPb.out, List.length_append, if_neg hj0] at *
                    omega
                  have de0 : tx (da) ++ (⟨#[44, 32]⟩ : ByteArray) = tx (da ++ [44, 32]) := tx_append _ [44, 32]
                  have dz0 : (⟨#[44, 32]⟩ : ByteArray).size = 2 := rfl
                  have ds0 : ((tx (da ++ [44, 32])).size : Int) ≤ 900000000 := by rw [tx_size]; have := HLS.out; simp only [List.length_append, List.length_cons, List.length_nil] at this ⊢; omega
                  have de1 : tx (da ++ [44, 32]) ++ (⟨#[105, 110, 116, 32]⟩ : ByteArray) = tx (da ++ [44, 32] ++ [105, 110, 116, 32]) := tx_append _ [105, 110, 116, 32]
                  have dz1 : (⟨#[105, 110, 116, 32]⟩ : ByteArray).size = 4 := rfl
                  have ds1 : ((tx (da ++ [44, 32] ++ [105, 110, 116, 32])).size : Int) ≤ 900000000 := by rw [tx_size]; have := HLS.out; simp only [List.length_append, List.length_cons, List.length_nil] at this ⊢; omega
                  have de2 : tx (da ++ [44, 32] ++ [105, 110, 116, 32]) ++ tx pl = tx (da ++ [44, 32] ++ [105, 110, 116, 32] ++ pl) := tx_append _ _
                  have dt2 : ((tx pl).size : Int) ≤ 900000000 := by rw [tx_size]; have := HLS.out; simp only [List.length_append, List.length_cons, List.length_nil] at this; omega
                  have ds2 : ((tx (da ++ [44, 32] ++ [105, 110, 116, 32] ++ pl)).size : Int) ≤ 900000000 := by rw [tx_size]; have := HLS.out; simp only [List.length_append, List.length_cons, List.length_nil] at this ⊢; omega
                  generalize dh : tx (da ++ [44, 32] ++ [105, 110, 116, 32] ++ pl) = dX3 at de2 ds2
                  have HY : Hid (tx (da ++ [44, 32] ++ [105, 110, 116, 32] ++ pl) = dX3) := dh
                  clear dh
                  generalize tx (da ++ [44, 32] ++ [105, 110, 116, 32]) = dX2 at de1 ds1 de2
                  generalize tx (da ++ [44, 32]) = dX1 at de0 ds0 de1
                  go_wp2_with fail
                  go_roundw
                  case rel => exact ⟨j + 1, da ++ [44, 32] ++ [105, 110, 116, 32] ++ pl, by omega, by go_num, by rw [HY.out], by rw [HDa.out]; simp only [commas, HPb.out, if_neg hj0, List.append_assoc], by first | rfl | trivial⟩
                  case measure => simp [intOf]; omega
              · obtain rfl : j = ps.length := by omega
                have HLS : Hid (da.length + ([41, 32, 123, 10] ++ tb ++ [125, 10]).length ≤ 900000000) := by
                  have h2 := HDal.out
                  show _ ≤ _
                  simp only [List.length_append, List.length_cons, List.length_nil]
                  omega
                have de0 : tx (da) ++ (⟨#[41, 32, 123, 10]⟩ : ByteArray) = tx (da ++ [41, 32, 123, 10]) := tx_append _ [41, 32, 123, 10]
                have dz0 : (⟨#[41, 32, 123, 10]⟩ : ByteArray).size = 4 := rfl
                have ds0 : ((tx (da ++ [41, 32, 123, 10])).size : Int) ≤ 900000000 := by rw [tx_size]; have := HLS.out; simp only [List.length_append, List.length_cons, List.length_nil] at this ⊢; omega
                have de1 : tx (da ++ [41, 32, 123, 10]) ++ tx tb = tx (da ++ [41, 32, 123, 10] ++ tb) := tx_append _ _
                have dt1 : ((tx tb).size : Int) ≤ 900000000 := by rw [tx_size]; have := HLS.out; simp only [List.length_append, List.length_cons, List.length_nil] at this; omega
                have ds1 : ((tx (da ++ [41, 32, 123, 10] ++ tb)).size : Int) ≤ 900000000 := by rw [tx_size]; have := HLS.out; simp only [List.length_append, List.length_cons, List.length_nil] at this ⊢; omega
                have de2 : tx (da ++ [41, 32, 123, 10] ++ tb) ++ (⟨#[125, 10]⟩ : ByteArray) = tx (da ++ [41, 32, 123, 10] ++ tb ++ [125, 10]) := tx_append _ [125, 10]
                have dz2 : (⟨#[125, 10]⟩ : ByteArray).size = 2 := rfl
                have ds2 : ((tx (da ++ [41, 32, 123, 10] ++ tb ++ [125, 10])).size : Int) ≤ 900000000 := by rw [tx_size]; have := HLS.out; simp only [List.length_append, List.length_cons, List.length_nil] at this ⊢; omega
                generalize dh : tx (da ++ [41, 32, 123, 10] ++ tb ++ [125, 10]) = dX3 at de2 ds2
                have HY : Hid (tx (da ++ [41, 32, 123, 10] ++ tb ++ [125, 10]) = dX3) := dh
                clear dh
                generalize tx (da ++ [41, 32, 123, 10] ++ tb) = dX2 at de1 ds1 de2
                generalize tx (da ++ [41, 32, 123, 10]) = dX1 at de0 ds0 de1
                go_wp2_with fail
                refine (HLs.out _ (HBk.out.trans (((Below.refl _ _).alloc (Nat.le_refl _) _).mono HBk.out.size))).mono ?_
                rintro x w5 ⟨rfl, hb5⟩
                have hB5 : Below w1.heap.size w1 w5 := (hBk.alloc hBk.size _).trans (hb5.mono (by have := hBk.size; simp; omega))
                clear hb5
                go_wp2_with fail
                go_roundw
                case rel => exact ⟨k + 1, da ++ [41, 32, 123, 10] ++ tb ++ [125, 10], by omega, by go_num, by rw [HY.out], by rw [HSt.out, HDa.out]; simp only [List.append_assoc], hB5⟩
                case measure => simp [intOf]; omega
          · obtain rfl : k = t.funcs.length := by omega
            have HPr : Hid (prT t = dn) := by have := HDn.out; rw [List.take_length] at this; rw [HE.out, this]; rfl
            have hcv : ∀ W : World, (convert 9 27 (.string (tx dn))).run Tryz.prog W = .ok (.slice (some ⟨W.heap.size, 0, none⟩) (tx dn).size (grownCap W (tx dn).size 0 5)) (Lib.bytesWorld W 5 (tx dn)) := fun W => Lib.run_convert_string_bytes W 9 27 5 (tx dn) Tryz.underlying9 Tryz.underlying27 Tryz.underlying5
            go_wp2_with fail
            refine bodyPost_ret (v := .slice (some ⟨wr.heap.size, 0, none⟩) (tx dn).size (grownCap wr (tx dn).size 0 5)) (by simp [results, Tryz.results5, go_sem]) rfl ⟨_, rfl, ?_, ?_⟩
            · rw [HPr.out]
              exact byts_conv _ _ _
            · exact (HBw.out.trans (hBk.mono HBw.out.size)).trans ((below_bytes _ _ _).mono (Nat.le_trans HBw.out.size hBk.size))

end Go.Proofs.YtjnnepkoeloekaaGreatDoor
