import Derived.Test.YtlamjfhhefcohaaGreatDoorM17
namespace Go.Proofs.YtlamjfhhefcohaaGreatDoor
set_option linter.unusedVariables false
set_option linter.unusedSimpArgs false
set_option maxRecDepth 100000
set_option maxHeartbeats 16000000
section
open Go.RowKit
set_option maxHeartbeats 2000000 in
theorem gfunc_any (f : Fu) (vp vb : Value) (w : World) (hf : smallF f) (hp : Strs w vp f.params) (hb : Stmts w vb f.body) :
  Calls Tryz.prog 39 #[.agg #[.string f.name, vp, vb]] w fun e w' => e = .returned (.bool (funcB f)) ∧ Below w.heap.size w w' := by
 obtain ⟨name, ps, ss⟩ := f
 simp only at hp hb ⊢
 have HP : Hid (Strs w vp ps) := hp
 have HS : Hid (Stmts w vb ss) := hb
 have HF : Hid (ps.length ≤ 1048576 ∧ ss.length ≤ 1048576 ∧ ∀ s ∈ ss, smallS s) := hf
 have hpl : ps.length ≤ 1048576 := HF.out.1
 have hsl : ss.length ≤ 1048576 := HF.out.2.1
 obtain ⟨ap, cp, rfl, -, -, hpc⟩ := hp
 obtain ⟨ab, cb, rfl, -, -, hbc⟩ := hb
 have HPC : Hid (0 < ps.length → ∃ b off, ap = some ⟨b, off, none⟩ ∧ StrsC w b off ps) := hpc
 have HBC : Hid (0 < ss.length → ∃ b off, ab = some ⟨b, off, none⟩ ∧ StmtsC w b off ss) := hbc
 clear hpc hbc hf
 go_enter Tryz.func39, Tryz.ntmps39
 go_wp2_with fail
 refine (name_any _ _).mono ?_
 rintro e w1 ⟨rfl, rfl⟩
 have hb1 : Below (w.heap.size + 1) (w.alloc (.cells #[.string name, .slice ap ps.length cp, .slice ab ss.length cb] 43)) (w.alloc (.cells #[.string name, .slice ap ps.length cp, .slice ab ss.length cb] 43)) := Below.refl _ _
 have hB1 := one_below hb1
 obtain ⟨x0, x1, x2⟩ := box3 hb1
 cases hn : nameB name
 ·go_wp2_with fail
  go_ret
  exact ⟨ret_bool (by simp only [funcB, hn, Bool.false_and]), hB1⟩
 by_cases h6 : 6 < ps.length
 ·go_wp2_with fail
  go_ret
  exact ⟨ret_bool (by simp only [funcB, hn, decide_eq_false (show ¬ ps.length ≤ 6 by omega), Bool.false_and, Bool.and_false]), hB1⟩
 by_cases h5 : 500 < ss.length
 ·go_wp2_with fail
  go_ret
  exact ⟨ret_bool (by simp only [funcB, hn, decide_eq_false (show ¬ ss.length ≤ 500 by omega), Bool.false_and, Bool.and_false]), hB1⟩
 have HFB : Hid (funcB ⟨name, ps, ss⟩ = (ps.all nameB && (stmtsB gstmtB ss && fitB ss))) := by
  show _ = _
  rw [gstmts_fit]
  simp only [funcB, hn, decide_eq_true (show ps.length ≤ 6 by omega), decide_eq_true (show ss.length ≤ 500 by omega), Bool.true_and]
 go_wp2_with fail
 clear x0 x1 x2
 go_loopw [3] (fun i wr => ∃ k : Nat, k ≤ ps.length ∧ i = .int .i64 k ∧ (∀ s ∈ ps.take k, nameB s = true) ∧ Below (w.heap.size + 1) (w.alloc (.cells #[.string name, .slice ap ps.length cp, .slice ab ss.length cb] 43)) wr) (fun i _ => ps.length - (RowKit.intOf i).toNat)
 case atStart => exact ⟨0, Nat.zero_le _, rfl, by simp, hb1⟩
 case round =>
  obtain ⟨k, hk, rfl, hg, hB⟩ := hrel
  have HG : Hid (∀ s ∈ ps.take k, nameB s = true) := hg
  clear hg hb1 hB1
  have hBw := one_below hB
  by_cases hlt : k < ps.length
  ·obtain ⟨b, off, rfl, hc⟩ := HPC.out (by omega)
   have d0 := (hc.below hBw) k hlt
   have HE : Hid (ps.take (k + 1) = ps.take k ++ [ps[k]]) := take_succ ps k hlt
   have HX : Hid (nameB ps[k] = false → ps.all nameB = false) := all_bad hlt
   clear hc
   generalize ps[k] = s at d0 HE HX
   obtain ⟨x0, x1, x2⟩ := box3 hB
   have hB2 := hB
   cases hv : nameB s
   ·go_wp2_with (go_at_call 37; refine (name_any _ _).mono ?_; rintro e w' ⟨rfl, rfl⟩; rw [hv])
    go_ret
    exact ⟨ret_bool (by rw [HFB.out, HX.out hv]; rfl), one_below hB2⟩
   ·go_wp2_with (go_at_call 37; refine (name_any _ _).mono ?_; rintro e w' ⟨rfl, rfl⟩; rw [hv])
    go_roundw
    case rel =>
     refine ⟨k + 1, by omega, by go_num, fun m hm => ?_, hB2⟩
     rw [HE.out] at hm
     rcases List.mem_append.1 hm with hm | hm
     ·exact HG.out m hm
     ·rw [List.mem_singleton.1 hm]; exact hv
    case measure => simp [RowKit.intOf]; omega
  ·have HA : Hid (ps.all nameB = true) := by
    show _ = _
    rw [List.all_eq_true]
    have := HG.out
    rw [List.take_of_length_le (by omega)] at this
    exact this
   clear HG HPC
   obtain ⟨x0, x1, x2⟩ := box3 hB
   go_wp2_with fail
   clear x0 x1 x2
   go_loopw [4, 5] (fun q i wr => ∃ k : Nat, k ≤ ss.length ∧ i = .int .i64 k ∧ q = .int .i64 (nodeSum (ss.take k) : Nat) ∧ nodeSum (ss.take k) ≤ 2000 ∧ (∀ s ∈ ss.take k, gstmtB s = true) ∧ Below (w.heap.size + 1) (w.alloc (.cells #[.string name, .slice ap ps.length cp, .slice ab ss.length cb] 43)) wr) (fun _ i _ => ss.length - (RowKit.intOf i).toNat)
   case atStart => exact ⟨0, Nat.zero_le _, rfl, rfl, by simp [nodeSum], by simp, hB⟩
   case round =>
    clear hB hBw hlt
    obtain ⟨k, hk, rfl, rfl, hq, hg, hB⟩ := hrel
    have HG : Hid (∀ s ∈ ss.take k, gstmtB s = true) := hg
    clear hg
    have hBw := one_below hB
    by_cases hlt : k < ss.length
    ·obtain ⟨b, off, rfl, hc⟩ := HBC.out (by omega)
     obtain ⟨ve, vf, ⟨c0, c1, c2, c3, c4, c5⟩, he, hf⟩ := (hc.below hBw) k hlt
     have HE : Hid (ss.take (k + 1) = ss.take k ++ [ss[k]]) := take_succ ss k hlt
     have HX : Hid (gstmtB ss[k] = false → stmtsB gstmtB ss = false) := stmtsB_bad hlt
     have HQ : Hid _ := nodeSum_step ss k hlt
     have HY : Hid (2000 < nodeSum (ss.take (k + 1)) → stmtsB gstmtB ss = false) := stmtsB_sum
     have hsm := HF.out.2.2 ss[k] (List.getElem_mem hlt)
     clear hc
     generalize ss[k] = s at c0 c1 c2 c3 c4 c5 he hf HE HX HQ hsm
     generalize nodeSum (ss.take k) = q at hq HQ
     have HNE : Hid (Nodes wr ve s.e) := he
     have HNF : Hid (Nodes wr vf s.f) := hf
     obtain ⟨a2, k2, rfl, -, -, -⟩ := he
     obtain ⟨a3, k3, rfl, -, -, -⟩ := hf
     have hs1 := hsm.1
     have hs2 := hsm.2
     clear hsm
     obtain ⟨x0, x1, x2⟩ := box3 hB
     go_wp2_with fail
     go_quiet (fail)
     have hBq : Below (w.heap.size + 1) (w.alloc (.cells #[.string name, .slice ap ps.length cp, .slice (some ⟨b, off, none⟩) ss.length cb] 43)) (wr.drewN nq) := below_drewN hB nq
     have hBwq := one_below hBq
     have hBy : Below wr.heap.size wr (wr.drewN nq) := below_drewN (Below.refl _ _) nq
     by_cases hs : 2000 < q + s.e.length + s.f.length
     ·go_wp2_with fail
      go_ret
      exact ⟨ret_bool (by rw [HFB.out, HY.out (by rw [HQ.out]; omega)]; simp), hBwq⟩
     ·go_wp2_with fail
      refine (gstmt_any s _ _ _ (by omega) (by omega) (HNE.out.below hBy) (HNF.out.below hBy)).mono ?_
      rintro e w2 ⟨rfl, hb2⟩
      have hB2 := hBq.trans (hb2.mono (by have := hBq.size; simp at this; simp; omega))
      clear c0 c1 c2 c3 c4 c5 hb2
      cases hv : gstmtB s
      ·go_wp2_with fail
       go_ret
       exact ⟨ret_bool (by rw [HFB.out, HX.out hv]; simp), one_below hB2⟩
      ·go_wp2_with fail
       go_roundw
       case rel =>
        refine ⟨k + 1, by omega, by go_num, ?_, by rw [HQ.out]; omega, fun m hm => ?_, hB2⟩
        ·rw [HQ.out]; congr 1
        ·rw [HE.out] at hm
         rcases List.mem_append.1 hm with hm | hm
         ·exact HG.out m hm
         ·rw [List.mem_singleton.1 hm]; exact hv
       case measure => simp [RowKit.intOf]; omega
    ·have HA2 : Hid (stmtsB gstmtB ss = true) := by
      show _ = _
      have h1 := HG.out
      rw [List.take_of_length_le (by omega)] at h1 hq
      exact stmtsB_ok hq h1
     have HNN : Hid (nonneg ss) := by
      have h1 := HG.out
      rw [List.take_of_length_le (by omega)] at h1
      exact gstmts_nonneg h1
     obtain ⟨x0, x1, x2⟩ := box3 hB
     go_wp2_with fail
     refine (shaped_any ss.length _ ss _ (Nat.le_refl _) hsl HNN.out (HS.out.below hBw)).mono ?_
     rintro e w2 ⟨rfl, hb2⟩
     clear x0 x1 x2
     go_wp2_with fail
     go_ret
     exact ⟨ret_bool (by rw [HFB.out, HA.out, HA2.out]; rfl), hBw.trans (hb2.mono hBw.size)⟩
end
section
open Go.RowKit
def GlobsC (w : World) (b off : Nat) (gs : List Gl) : Prop := ∀ j (h : j < gs.length), w.cell? ⟨b, off + j * 2, none⟩ = some (.string gs[j].name) ∧ w.cell? ⟨b, off + j * 2 + 1, none⟩ = some (.int .i64 gs[j].size)
theorem GlobsC.below {w w' : World} {b off : Nat} {gs : List Gl} (h : GlobsC w b off gs) (hb : Below w.heap.size w w') : GlobsC w' b off gs := by
 intro j hj
 obtain ⟨c0, c1⟩ := h j hj
 have hlt := World.block_lt_of_cell? _ _ c0
 exact ⟨(hb.cell (p := ⟨b, off + j * 2, none⟩) hlt).trans c0, (hb.cell (p := ⟨b, off + j * 2 + 1, none⟩) hlt).trans c1⟩
def Globs (w : World) (v : Value) (gs : List Gl) : Prop := ∃ a cap, v = .slice a gs.length cap ∧ gs.length ≤ cap ∧ cap ≤ 9223372036854775807 ∧ (0 < gs.length → ∃ b off, a = some ⟨b, off, none⟩ ∧ GlobsC w b off gs)
theorem Globs.below {w w' : World} {v : Value} {gs : List Gl} (h : Globs w v gs) (hb : Below w.heap.size w w') : Globs w' v gs := by
 obtain ⟨a, cap, rfl, hl, hm, h⟩ := h
 refine ⟨a, cap, rfl, hl, hm, fun h0 => ?_⟩
 obtain ⟨b, off, rfl, hc⟩ := h h0
 exact ⟨b, off, rfl, hc.below hb⟩
def FuncsC (w : World) (b off : Nat) (fs : List Fu) : Prop := ∀ j (h : j < fs.length), ∃ vp vb, (w.cell? ⟨b, off + j * 3, none⟩ = some (.string fs[j].name) ∧ w.cell? ⟨b, off + j * 3 + 1, none⟩ = some vp ∧ w.cell? ⟨b, off + j * 3 + 2, none⟩ = some vb) ∧ Strs w vp fs[j].params ∧ Stmts w vb fs[j].body
theorem FuncsC.below {w w' : World} {b off : Nat} {fs : List Fu} (h : FuncsC w b off fs) (hb : Below w.heap.size w w') : FuncsC w' b off fs := by
 intro j hj
 obtain ⟨vp, vb, ⟨c0, c1, c2⟩, hp, hs⟩ := h j hj
 have hlt := World.block_lt_of_cell? _ _ c0
 exact ⟨vp, vb, ⟨(hb.cell (p := ⟨b, off + j * 3, none⟩) hlt).trans c0, (hb.cell (p := ⟨b, off + j * 3 + 1, none⟩) hlt).trans c1, (hb.cell (p := ⟨b, off + j * 3 + 2, none⟩) hlt).trans c2⟩, hp.below hb, hs.below hb⟩
def Funcs (w : World) (v : Value) (fs : List Fu) : Prop := ∃ a cap, v = .slice a fs.length cap ∧ fs.length ≤ cap ∧ cap ≤ 9223372036854775807 ∧ (0 < fs.length → ∃ b off, a = some ⟨b, off, none⟩ ∧ FuncsC w b off fs)
theorem Funcs.below {w w' : World} {v : Value} {fs : List Fu} (h : Funcs w v fs) (hb : Below w.heap.size w w') : Funcs w' v fs := by
 obtain ⟨a, cap, rfl, hl, hm, h⟩ := h
 refine ⟨a, cap, rfl, hl, hm, fun h0 => ?_⟩
 obtain ⟨b, off, rfl, hc⟩ := h h0
 exact ⟨b, off, rfl, hc.below hb⟩
theorem box2 {w w' : World} {t : TypeId} {x y : Value} (h : Below (w.heap.size + 1) (w.alloc (.cells #[x, y] t)) w') :
  w'.cell? ⟨w.heap.size, 0, none⟩ = some x ∧ w'.cell? ⟨w.heap.size, 1, none⟩ = some y := by
 refine ⟨?_, ?_⟩ <;> (rw [h.cell (by simp)]; simp)
set_option maxHeartbeats 1000000 in
theorem vglob_any (g : Gl) (w : World) : Calls Tryz.prog 41 #[.agg #[.string g.name, .int .i64 g.size]] w fun e w' => e = .returned (.bool (globB g)) ∧ Below w.heap.size w w' := by
 obtain ⟨s, z⟩ := g
 simp only
 go_enter Tryz.func41, Tryz.ntmps41
 go_wp2_with fail
 refine (vname_any _ _).mono ?_
 rintro e w1 ⟨rfl, hb1⟩
 simp only [World.size_alloc] at hb1
 have hB1 := one_below hb1
 obtain ⟨x0, x1⟩ := box2 hb1
 cases hn : nameB s
 ·go_wp2_with fail
  go_ret
  exact ⟨ret_bool (by simp only [globB, hn, Bool.false_and]), hB1⟩
 by_cases h0 : z < 0
 ·go_wp2_with fail
  go_ret
  exact ⟨ret_bool (by simp only [globB, hn]; simp; omega), hB1⟩
 ·go_wp2_with fail
  go_ret
  refine ⟨ret_bool ?_, hB1⟩
  simp only [globB, hn, Bool.true_and]
  apply Bool.eq_iff_iff.2
  simp <;> omega
set_option maxHeartbeats 2000000 in
theorem vtree_any (t : Tr) (vg vf : Value) (w : World) (hT : Tab w) (ht : smallT t) (hg : Globs w vg t.globals) (hf : Funcs w vf t.funcs) :
  Calls Tryz.prog 19 #[.agg #[vg, vf]] w fun e w' => e = .returned (.bool (treeB t)) ∧ Below w.heap.size w w' := by
 obtain ⟨gs, fs⟩ := t
 simp only at hg hf ⊢
 have HT : Hid (Tab w) := hT
 have HS : Hid (gs.length ≤ 1048576 ∧ fs.length ≤ 1048576 ∧ ∀ f ∈ fs, smallF f) := ht
 have hgl : gs.length ≤ 1048576 := HS.out.1
 have hfl : fs.length ≤ 1048576 := HS.out.2.1
 obtain ⟨ag, cg, rfl, -, -, hgc⟩ := hg
 obtain ⟨af, cf, rfl, -, -, hfc⟩ := hf
 have HGC : Hid (0 < gs.length → ∃ b off, ag = some ⟨b, off, none⟩ ∧ GlobsC w b off gs) := hgc
 have HFC : Hid (0 < fs.length → ∃ b off, af = some ⟨b, off, none⟩ ∧ FuncsC w b off fs) := hfc
 clear hgc hfc ht hT
 by_cases h5 : 50 < gs.length
 ·go_enter Tryz.func19, Tryz.ntmps19
  go_wp2_with fail
  go_ret
  exact ⟨ret_bool (by simp only [treeB, decide_eq_false (show ¬ gs.length ≤ 50 by omega), Bool.false_and]), (Below.refl _ _).alloc (Nat.le_refl _) _⟩
 by_cases h6 : 50 < fs.length
 ·go_enter Tryz.func19, Tryz.ntmps19
  go_wp2_with fail
  go_ret
  exact ⟨ret_bool (by simp only [treeB, decide_eq_false (show ¬ fs.length ≤ 50 by omega), Bool.false_and, Bool.and_false]), (Below.refl _ _).alloc (Nat.le_refl _) _⟩
 have HTB : Hid (treeB ⟨gs, fs⟩ = (gs.all globB && fs.all funcB)) := by
  show _ = _
  simp only [treeB, decide_eq_true (show gs.length ≤ 50 by omega), decide_eq_true (show fs.length ≤ 50 by omega), Bool.true_and]
 go_enter Tryz.func19, Tryz.ntmps19
 go_wp2_with fail
 go_loopw [20] (fun i wr => ∃ k : Nat, k ≤ gs.length ∧ i = .int .i64 k ∧ (∀ g ∈ gs.take k, globB g = true) ∧ Below (w.heap.size + 1) (w.alloc (.cells #[.slice ag gs.length cg, .slice af fs.length cf] 26)) wr) (fun i _ => gs.length - (RowKit.intOf i).toNat)
 case atStart => exact ⟨0, Nat.zero_le _, rfl, by simp, Below.refl _ _⟩
 case round =>
  obtain ⟨k, hk, rfl, hg, hB⟩ := hrel
  have HG : Hid (∀ g ∈ gs.take k, globB g = true) := hg
  clear hg
  have hBw := one_below hB
  by_cases hlt : k < gs.length
  ·obtain ⟨b, off, rfl, hc⟩ := HGC.out (by omega)
   obtain ⟨d0, d1⟩ := (hc.below hBw) k hlt
   have HE : Hid (gs.take (k + 1) = gs.take k ++ [gs[k]]) := take_succ gs k hlt
   have HX : Hid (globB gs[k] = false → gs.all globB = false) := allG_bad hlt
   clear hc
   generalize gs[k] = g at d0 d1 HE HX
   go_wp2_with fail
   refine (vglob_any g _).mono ?_
   rintro e w2 ⟨rfl, hb2⟩
   have hB2 := (hB.alloc (by have := hB.size; simp at this; omega) (.cells #[.string g.name, .int .i64 g.size] 74)).trans (hb2.mono (by have := hB.size; simp at this; simp; omega))
   clear d0 d1
   cases hv : globB g
   ·go_wp2_with fail
    go_ret
    exact ⟨ret_bool (by rw [HTB.out, HX.out hv]; rfl), one_below hB2⟩
   ·go_wp2_with fail
    go_roundw
    case rel =>
     refine ⟨k + 1, by omega, by go_num, fun m hm => ?_, hB2⟩
     rw [HE.out] at hm
     rcases List.mem_append.1 hm with hm | hm
     ·exact HG.out m hm
     ·rw [List.mem_singleton.1 hm]; exact hv
    case measure => simp [RowKit.intOf]; omega
  ·have HA : Hid (gs.all globB = true) := by
    show _ = _
    rw [List.all_eq_true]
    have := HG.out
    rw [List.take_of_length_le (by omega)] at this
    exact this
   clear HG HGC
   obtain ⟨x0, x1⟩ := box2 hB
   go_wp2_with fail
   clear x0 x1
   go_loopw [31] (fun i wr => ∃ k : Nat, k ≤ fs.length ∧ i = .int .i64 k ∧ (∀ f ∈ fs.take k, funcB f = true) ∧ Below (w.heap.size + 1) (w.alloc (.cells #[.slice ag gs.length cg, .slice af fs.length cf] 26)) wr) (fun i _ => fs.length - (RowKit.intOf i).toNat)
   case atStart => exact ⟨0, Nat.zero_le _, rfl, by simp, hB⟩
   case round =>
    clear hB hBw hlt
    obtain ⟨k, hk, rfl, hg, hB⟩ := hrel
    have HG : Hid (∀ f ∈ fs.take k, funcB f = true) := hg
    clear hg
    have hBw := one_below hB
    by_cases hlt : k < fs.length
    ·obtain ⟨b, off, rfl, hc⟩ := HFC.out (by omega)
     obtain ⟨vp, vb, ⟨d0, d1, d2⟩, hp, hs⟩ := (hc.below hBw) k hlt
     have HE : Hid (fs.take (k + 1) = fs.take k ++ [fs[k]]) := take_succ fs k hlt
     have HX : Hid (funcB fs[k] = false → fs.all funcB = false) := allF_bad hlt
     have HSM : Hid (smallF fs[k]) := HS.out.2.2 fs[k] (List.getElem_mem hlt)
     clear hc
     generalize fs[k] = f at d0 d1 d2 HE HX HSM hp hs
     have HP : Hid (Strs wr vp f.params) := hp
     have HB : Hid (Stmts wr vb f.body) := hs
     obtain ⟨a2, k2, rfl, -, -, -⟩ := hp
     obtain ⟨a3, k3, rfl, -, -, -⟩ := hs
     have hBx : Below wr.heap.size wr (wr.alloc (.cells #[.string f.name, .slice a2 f.params.length k2, .slice a3 f.body.length k3] 43)) := (Below.refl _ _).alloc (Nat.le_refl _) _
     go_wp2_with fail
     refine (vfunc_any f _ _ _ ((HT.out.below HT.out.size hBw).below (HT.out.below HT.out.size hBw).size hBx) HSM.out (HP.out.below hBx) (HB.out.below hBx)).mono ?_
     rintro e w2 ⟨rfl, hb2⟩
     have hBx2 := hBx.trans (hb2.mono hBx.size)
     have hB2 := hB.trans (hBx2.mono (by have := hB.size; simp at this; omega))
     clear d0 d1 d2 hb2
     cases hv : funcB f
     ·go_wp2_with fail
      go_ret
      exact ⟨ret_bool (by rw [HTB.out, HX.out hv]; simp), one_below hB2⟩
     ·go_wp2_with fail
      go_roundw
      case rel =>
       refine ⟨k + 1, by omega, by go_num, fun m hm => ?_, hB2⟩
       rw [HE.out] at hm
       rcases List.mem_append.1 hm with hm | hm
       ·exact HG.out m hm
       ·rw [List.mem_singleton.1 hm]; exact hv
      case measure => simp [RowKit.intOf]; omega
    ·have HA2 : Hid (fs.all funcB = true) := by
      show _ = _
      rw [List.all_eq_true]
      have := HG.out
      rw [List.take_of_length_le (by omega)] at this
      exact this
     go_wp2_with fail
     go_ret
     exact ⟨ret_bool (by rw [HTB.out, HA.out, HA2.out]; rfl), hBw⟩
end
section
open Go.RowKit
structure FV where
 f : Fu
 vp : Value
 vb : Value
 R : List SV
 kp : List Nat
 kb : List Nat
def cellsF (q : FV) : List Value := [.string q.f.name, q.vp, q.vb]
def flatF (Q : List FV) : List Value := Q.flatMap cellsF
def blk1 (q : FV) : List Nat := q.kp ++ (q.kb ++ blkS q.R)
def blkF (Q : List FV) : List Nat := Q.flatMap blk1
theorem flatF_len (Q : List FV) : (flatF Q).length = Q.length * 3 := by
 induction Q with
 | nil => rfl
 | cons a r ih =>
  have : (flatF (a :: r)).length = 3 + (flatF r).length := by simp [flatF, cellsF]; omega
  rw [this, ih, List.length_cons]
  omega
theorem flatF_append (a b : List FV) : flatF (a ++ b) = flatF a ++ flatF b := by simp [flatF]
theorem blkF_append (a b : List FV) : blkF (a ++ b) = blkF a ++ blkF b := by simp [blkF]
theorem flatF_get : ∀ (Q : List FV) (j i : Nat) (hj : j < Q.length), i < 3 → (flatF Q)[j * 3 + i]? = (cellsF Q[j])[i]?
 | x :: l, 0, i, _, hi => by
  have : (cellsF x).length = 3 := rfl
  show (cellsF x ++ flatF l)[0 * 3 + i]? = _
  rw [List.getElem?_append_left (by omega)]
  simp
 | x :: l, j + 1, i, hj, hi => by
  have h7 : (cellsF x).length = 3 := rfl
  show (cellsF x ++ flatF l)[(j + 1) * 3 + i]? = _
  rw [List.getElem?_append_right (by omega)]
  have e : (j + 1) * 3 + i - (cellsF x).length = j * 3 + i := by omega
  rw [e, flatF_get l j i (by simpa using hj) hi]
  simp
theorem info_func : (Tryz.prog.info? 43).map (fun i => (i.zero, i.size, i.bytes)) = some (some (.agg #[.string ⟨#[]⟩, .slice none 0 0, .slice none 0 0]), 3, 64) := by kernel_rfl
end
section
open Go.RowKit
theorem info_str : (Tryz.prog.info? 9).map (fun i => (i.zero, i.size, i.bytes)) = some (some (.string ⟨#[]⟩), 1, 16) := by kernel_rfl
theorem addr_addK (b o j : Nat) : (⟨b, o, none⟩ : Addr).add j = ⟨b, o + j, none⟩ := by simp only [Addr.add]; split <;> simp_all
def SRow (B : Nat) (w : World) (v : Value) (us : List ByteArray) : Prop := w.ownsRow B 9 1 v us.length (us.map (Value.string))
theorem SRow.shape {B : Nat} {w : World} {v : Value} {us : List ByteArray} (h : SRow B w v us) : ∃ a c, v = .slice a us.length c := by
 rcases h.2 with ⟨rfl, hz⟩ | ⟨g, cap, cur, rfl, _⟩
 ·exact ⟨none, 0, by rw [hz]⟩
 ·exact ⟨_, cap, rfl⟩
theorem SRow.below {B : Nat} {w w' : World} {v : Value} {us : List ByteArray} (h : SRow B w v us) (hb : Below w.heap.size w w') : SRow B w' v us := by
 obtain ⟨g1, g2⟩ := h
 refine ⟨g1, ?_⟩
 rcases g2 with g2 | ⟨g, cap, cur, rfl, g3, g4, g5⟩
 ·exact .inl g2
 ·refine .inr ⟨g, cap, cur, rfl, g3, ?_, g5⟩
  rw [hb.block g (Array.getElem?_eq_some_iff.1 g4).1]
  exact g4
theorem SRow.base {B B' : Nat} {w : World} {v : Value} {us : List ByteArray} (h : SRow B w v us) (hb : B' ≤ B) : SRow B' w v us := by
 obtain ⟨g1, g2⟩ := h
 refine ⟨g1, ?_⟩
 rcases g2 with g2 | ⟨g, cap, cur, rfl, g3, g4⟩
 ·exact .inl g2
 ·exact .inr ⟨g, cap, cur, rfl, Nat.le_trans hb g3, g4⟩
theorem SRow.strs {B : Nat} {w : World} {v : Value} {us : List ByteArray} (h : SRow B w v us) (hm : us.length ≤ 10000000) : Strs w v us := by
 have h0 := h
 rcases h.2 with ⟨rfl, hz⟩ | ⟨g, cap, cur, rfl, hbg, hh, hc1, hc2, hc3, hc4⟩
 ·exact ⟨none, 0, by rw [hz], by omega, by omega, fun h => absurd h (by omega)⟩
 ·refine ⟨_, cap, rfl, ?_, ?_, fun _ => ⟨g, 0, rfl, fun j hj => ?_⟩⟩
  ·first | omega | exact hc1
  ·first | omega | (unfold maxLen at *; omega)
  ·have := World.ownsRow.cells h0 (g := g) rfl j (.string us[j]) (by simp [hj])
   rw [addr_addK] at this
   exact this
end
end Go.Proofs.YtlamjfhhefcohaaGreatDoor
