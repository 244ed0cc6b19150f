import Derived.Test.YtolkpkklinoegaaDoorM27
import Derived.Deep.RegionHeld3
import Derived.Deep.QuietTactic
import Derived.BigQuiet
set_option linter.unusedSectionVars false
variable [Inhabited Go.Proofs.YtolkpkklinoegaaDoor.Pick]
namespace Go.Proofs.YtolkpkklinoegaaDoor
set_option linter.unusedVariables false
set_option linter.unusedSimpArgs false
set_option maxRecDepth 100000
set_option maxHeartbeats 16000000
section
open Go.RowKit
theorem Strs.headS {w : World} {a : Option Addr} {cap : Nat} {ss : List ByteArray} (h : Strs w (.slice a ss.length cap) ss) (k : Nat) (hk : k ≤ ss.length) : Strs w (.slice a k cap) (ss.take k) := by
 obtain ⟨a', cap', he, hl, hm, h⟩ := h
 simp only [Value.slice.injEq, true_and] at he
 obtain ⟨rfl, rfl⟩ := he
 refine ⟨a, cap, by simp [Nat.min_eq_left hk], by simp; omega, hm, fun h0 => ?_⟩
 simp only [List.length_take] at h0
 obtain ⟨b, off, rfl, hc⟩ := h (by omega)
 refine ⟨b, off, rfl, fun j hj => ?_⟩
 simp only [List.length_take] at hj
 have := hc j (by omega)
 rw [this]
 simp
theorem headS_run (a : Option Addr) (n cap k : Nat) (h2 : k ≤ n) (h3 : n ≤ cap) : ∀ w : World, (Instr.slice 36 (.slice a n cap) none (some (.int .i64 (k : Int))) none).run Tryd.prog w = .ok (.slice a k cap) w := by
 intro w
 have hz : Tryd.prog.elem 36 = 9 := by kernel_rfl
 have hs : (sizeOf 9).run Tryd.prog w = .ok 1 w := by kernel_rfl
 rw [run_slice_h w 36 a n cap (by rw [hz]; exact Tryd.underlying36) .i64 _ (by omega) (by omega), hz, hs]
 cases a <;> simp [Result.andThen, sliced, Addr.add]
set_option maxRecDepth 100000 in
set_option maxHeartbeats 2000000 in
theorem l3in_same (xs : List ByteArray) (v : Value) (s : ByteArray) (w : World) (hl : xs.length ≤ 10000000) (hx : Strs w v xs) :
  Calls Tryd.prog 65 #[v, .string s] w fun e w' => e = .returned (.bool (inS xs s)) ∧ w' = w := by
 obtain ⟨a, c, rfl, -, -, hc⟩ := hx
 have HC : Hid (0 < xs.length → ∃ b off, a = some ⟨b, off, none⟩ ∧ StrsC w b off xs) := hc
 clear hc
 go_enter Tryd.func65, Tryd.ntmps65
 go_wp2_with fail
 go_loopw [5] (fun i wr => ∃ k : Nat, k ≤ xs.length ∧ i = .int .i64 k ∧ (∀ j (hj : j < xs.length), j < k → xs[j] ≠ s) ∧ wr = w) (fun i _ => xs.length - (RowKit.intOf i).toNat)
 case atStart => exact ⟨0, Nat.zero_le _, rfl, fun j hj h => absurd h (Nat.not_lt_zero _), rfl⟩
 case round =>
  obtain ⟨k, hk, rfl, hn, hB⟩ := hrel
  subst hB
  have HN : Hid (∀ j (hj : j < xs.length), j < k → xs[j] ≠ s) := hn
  clear hn
  by_cases hlt : k < xs.length
  ·obtain ⟨b, off, rfl, hc⟩ := HC.out (by omega)
   have d0 := hc k hlt
   by_cases hs : xs[k] = s
   ·have HR : Hid (inS xs s = true) := inS_at hlt hs
    rw [hs] at d0
    clear hc hs
    go_wp2_with fail
    go_ret
    exact ⟨ret_bool HR.out.symm, rfl⟩
   ·have HS : Hid (∀ j (hj : j < xs.length), j < k + 1 → xs[j] ≠ s) := fun j hj h => by
     by_cases e : j = k
     ·subst e; exact hs
     ·exact HN.out j hj (by omega)
    clear hc
    have hs' := ne_list hs
    generalize xs[k] = fn at d0 hs hs'
    go_wp2_with fail
    go_roundw
    case rel => exact ⟨k + 1, by omega, by go_num, HS.out, by first | trivial | rfl⟩
    case measure => simp [RowKit.intOf]; omega
  ·have HR : Hid (inS xs s = false) := inS_no (fun j hj => HN.out j hj (by omega))
   go_wp2_with fail
   go_ret
   exact ⟨ret_bool HR.out.symm, rfl⟩
set_option maxRecDepth 100000 in
set_option maxHeartbeats 4000000 in
theorem l3body_any (HBl : ∀ n, L3Block n) (t : Tr) (vg vf : Value) (i : Nat) (w : World) (hi : i < t.funcs.length) (hgl : t.globals.length ≤ 1000) (hfl : t.funcs.length ≤ 1000) (hok : FnOk t.funcs[i]) (hg : Globs w vg t.globals) (hf : Funcs w vf t.funcs) :
  Calls Tryd.prog 50 #[.agg #[vg, vf], .int .i64 (i : Int)] w fun e w' => e = .returned (resV (bodyE t i t.funcs[i])) ∧ Below w.heap.size w w' := by
 have HBL : Hid (∀ n, L3Block n) := HBl
 clear HBl
 obtain ⟨RES, hRES⟩ : ∃ R, R = bodyE t i t.funcs[i] := ⟨_, rfl⟩
 rw [← hRES]
 have HRES : Hid (RES = bodyE t i t.funcs[i]) := hRES
 have HTv : Hid (TrV w t vg vf) := ⟨hg, hf⟩
 obtain ⟨ag, cg, rfl, -⟩ := hg
 obtain ⟨af, cf, rfl, -, -, hfc⟩ := hf
 obtain ⟨b, off, rfl, hc⟩ := hfc (by omega)
 obtain ⟨vp, vb, ⟨c0, c1, c2⟩, hps, hbs⟩ := hc i hi
 have hlb : b < w.heap.size := World.block_lt_of_cell? _ _ c0
 have HOk : Hid (FnOk t.funcs[i]) := hok
 clear hRES hfc hc hok
 generalize t.funcs[i] = f at c0 c1 c2 hps hbs HOk HRES
 have HPs : Hid (Strs w vp f.params) := hps
 have HBs : Hid (Stmts w vb f.body) := hbs
 obtain ⟨ap, cp, rfl, hpc1, hpc2, hpc⟩ := hps
 obtain ⟨ab, cb, rfl, -⟩ := hbs
 have HPC : Hid (0 < f.params.length → ∃ b off, ap = some ⟨b, off, none⟩ ∧ StrsC w b off f.params) := hpc
 have hpl : f.params.length ≤ 1000 := HOk.out.2.2.2.2.1
 have hbl : f.body.length ≤ 1000 := HOk.out.2.2.2.2.2
 clear hpc
 obtain ⟨W1, hW1⟩ : ∃ W1, W1 = (w.alloc (.cells #[.slice ag t.globals.length cg, .slice (some ⟨b, off, none⟩) t.funcs.length cf] 41)).alloc (.cells #[.int .i64 0, .int .i64 0, .int .i64 0] 62) := ⟨_, rfl⟩
 have HBx := two_boxC hW1
 obtain ⟨W2, hW2⟩ : ∃ W2, W2 = W1.alloc (.cells #[.string f.name, .slice ap f.params.length cp, .slice ab f.body.length cb] 38) := ⟨_, rfl⟩
 have hs1 : W1.heap.size = w.heap.size + 2 := by rw [hW1]; simp
 have hs2 : W2.heap.size = w.heap.size + 3 := by rw [hW2]; simp [hs1]
 have HBy : Hid (∀ W, Below (w.heap.size + 3) W2 W → (W.cell? ⟨w.heap.size, 0, none⟩ = some (.slice ag t.globals.length cg) ∧ W.cell? ⟨w.heap.size, 1, none⟩ = some (.slice (some ⟨b, off, none⟩) t.funcs.length cf)) ∧ (W.cell? ⟨w.heap.size + 1, 0, none⟩ = some (.int .i64 0) ∧ W.cell? ⟨w.heap.size + 1, 1, none⟩ = some (.int .i64 0) ∧ W.cell? ⟨w.heap.size + 1, 2, none⟩ = some (.int .i64 0)) ∧ (∀ o, W.frozen? ⟨w.heap.size + 1, o, none⟩ = false) ∧ Below w.heap.size w W ∧ w.heap.size + 3 ≤ W.heap.size ∧ (W.cell? ⟨w.heap.size + 1 + 1, 1, none⟩ = some (.slice ap f.params.length cp) ∧ W.cell? ⟨w.heap.size + 1 + 1, 2, none⟩ = some (.slice ab f.body.length cb))) := fun W hW => by
  have h1 : Below (w.heap.size + 2) W1 W2 := by rw [hW2]; exact (Below.refl _ _).alloc (by omega) _
  obtain ⟨q1, q2, q3, q4, q5⟩ := HBx W (h1.trans (hW.mono (by omega)))
  refine ⟨q1, q2, q3, q4, by have := hW.size; omega, (hW.cell (p := ⟨w.heap.size + 1 + 1, 1, none⟩) (by simp)).trans ?_, (hW.cell (p := ⟨w.heap.size + 1 + 1, 2, none⟩) (by simp)).trans ?_⟩
  ·rw [hW2]; exact (World.cell?_alloc_at _ _ _ _ (by omega)).trans rfl
  ·rw [hW2]; exact (World.cell?_alloc_at _ _ _ _ (by omega)).trans rfl
 clear HBx
 go_enter Tryd.func50, Tryd.ntmps50
 go_wp2_with fail
 rw [← hW1, ← hW2]
 clear hW1 hW2 hs1 c0 c1 c2 hlb
 go_loopw [6] (fun j wr => ∃ (k : Nat), k ≤ f.params.length ∧ j = .int .i64 k ∧ dupP t.globals [] f.params = dupP t.globals (f.params.take k) (f.params.drop k) ∧ Below (w.heap.size + 3) W2 wr) (fun j _ => f.params.length - (RowKit.intOf j).toNat)
 case atStart => exact ⟨0, Nat.zero_le _, rfl, by simp, Below.refl _ _⟩
 case round =>
  clear hs2
  obtain ⟨k, hk, rfl, hd, hB⟩ := hrel
  have HD : Hid (dupP t.globals [] f.params = dupP t.globals (f.params.take k) (f.params.drop k)) := hd
  obtain ⟨⟨x0, x1⟩, ⟨r0, r1, r2⟩, rz, hBw, hsz, y1, y2⟩ := HBy.out wr hB
  have z0 := rz 0
  have z1 := rz 1
  have z2 := rz 2
  clear hd rz
  by_cases hlt : k < f.params.length
  ·obtain ⟨bp, op, rfl, hcp⟩ := HPC.out (by omega)
   have d0 := (hBw.cell (p := ⟨bp, op + k, none⟩) (World.block_lt_of_cell? _ _ (hcp k hlt))).trans (hcp k hlt)
   have HD2 : Hid (dupP t.globals [] f.params = dupP t.globals (f.params.take k) (f.params[k] :: f.params.drop (k + 1))) := by show _ = _; rw [HD.out, drop_cons_ _ _ hlt]
   have HTk : Hid (f.params.take (k + 1) = f.params.take k ++ [f.params[k]]) := take_succ _ _ hlt
   have hrn := headS_run (some ⟨bp, op, none⟩) f.params.length cp k (by omega) hpc1
   have hqb : bp < wr.heap.size := World.block_lt_of_cell? _ _ d0
   have hq0 : w.heap.size < wr.heap.size := by omega
   have hq2 : w.heap.size + 1 + 1 < wr.heap.size := by omega
   clear hcp HD
   generalize f.params[k] = p at d0 HD2 HTk
   have hdr : Below wr.heap.size wr wr.drew := (Below.refl _ _).drew
   have HIn : Hid (Calls Tryd.prog 65 #[.slice (some ⟨bp, op, none⟩) k cp, .string p] wr.drew fun e w' => e = .returned (.bool (inS (f.params.take k) p)) ∧ Below wr.drew.heap.size wr.drew w') := l3in_any _ _ p wr.drew (by simp; omega) ((HPs.out.below (hBw.drew)).headS k (by omega))
   have HGb : Hid (Globs wr (.slice ag t.globals.length cg) t.globals) := HTv.out.g.below hBw
   cases hin : inS (f.params.take k) p with
   | true =>
    have HE : Hid (RES = (2, (i : Int), -1)) := by
     show _ = _
     rw [HRES.out]
     unfold bodyE
     rw [if_pos (by rw [HD2.out]; exact dupP_hit (.inl hin))]
    have HIs : Hid (∀ n, Calls Tryd.prog 65 #[.slice (some ⟨bp, op, none⟩) k cp, .string p] (wr.drewN n) fun e w' => e = .returned (.bool true) ∧ w' = wr.drewN n) := fun n => by
     have := l3in_same (f.params.take k) (.slice (some ⟨bp, op, none⟩) k cp) p (wr.drewN n) (by simp; omega) ((HPs.out.below (below_drewN hBw n)).headS k (by omega))
     rw [hin] at this
     exact this
    clear hin HIn
    have hi1 : (0 : Int) ≤ (k : Int) := by omega
    have hi2 : (k : Int) < (f.params.length : Int) := by omega
    go_wp2_with fail
    go_quiet ((go_at_call 65; exact Calls.quiet_of_same (HIs.out _)))
    have hB2 : Below (w.heap.size + 3) W2 (wr.drewN nq) := below_drewN hB _
    clear x0 x1 y1 y2 r0 r1 r2 z0 z1 z2 hB hBw d0
    obtain ⟨-, ⟨r0, r1, r2⟩, rz, hBw, -⟩ := HBy.out (wr.drewN nq) hB2
    have z0 := rz 0
    have z1 := rz 1
    have z2 := rz 2
    clear rz
    go_wp2_with fail
    obtain ⟨t0, t1, t2⟩ := set3 (u0 := .int .i64 2) (u1 := .int .i64 (i : Int)) (u2 := .int .i64 (-1)) r0 r1 r2
    refine bodyPost_ret (v := .agg #[.int .i64 2, .int .i64 (i : Int), .int .i64 (-1)]) (by simp [results, Tryd.results50, go_sem, t0, t1, t2]) rfl ⟨ret_val (by rw [HE.out]; rfl), ?_⟩
    exact ((hBw.setCell (p := ⟨w.heap.size + 1, 0, none⟩) (by simp) _).setCell (p := ⟨w.heap.size + 1, 1, none⟩) (by simp) _).setCell (p := ⟨w.heap.size + 1, 2, none⟩) (by simp) _
   | false =>
    rw [hin] at HIn
    have HGl : Hid (∀ W, Below wr.heap.size wr W → Calls Tryd.prog 66 #[.agg #[.slice ag t.globals.length cg, .slice (some ⟨b, off, none⟩) t.funcs.length cf], .string p] W fun e w' => e = .returned (.int .i64 (globI t.globals p)) ∧ Below W.heap.size W w') := fun W hW => l3global_any t.globals _ _ p W (by omega) (HGb.out.below hW)
    have HQ1 : Hid (0 ≤ globI t.globals p → RES = (2, (i : Int), -1)) := fun h => by
     rw [HRES.out]
     unfold bodyE
     rw [if_pos (by rw [HD2.out]; exact dupP_hit (.inr h))]
    have HQ2 : Hid (¬ 0 ≤ globI t.globals p → dupP t.globals [] f.params = dupP t.globals (f.params.take (k + 1)) (f.params.drop (k + 1))) := fun h => by
     rw [HD2.out, dupP_step (by rw [hin]; simpa using h), HTk.out]
    clear hin
    generalize globI t.globals p = gi at HGl HQ1 HQ2
    obtain ⟨bg, hbg⟩ : ∃ bg, decide (0 ≤ gi) = bg := ⟨_, rfl⟩
    go_wp2_with fail
    go_region_held3 (fun W => W.cell? ⟨w.heap.size, 0, none⟩ = some (.slice ag t.globals.length cg) ∧ W.cell? ⟨w.heap.size, 1, none⟩ = some (.slice (some ⟨b, off, none⟩) t.funcs.length cf) ∧ W.cell? ⟨w.heap.size + 1 + 1, 1, none⟩ = some (.slice (some ⟨bp, op, none⟩) f.params.length cp) ∧ W.cell? ⟨bp, op + k, none⟩ = some (.string p)) (go_simp)
     (first
     | ((with_reducible refine Calls.mono HIn.out ?_); rintro e w2 ⟨rfl, hb2⟩; have e0 : w2.cell? ⟨w.heap.size, 0, none⟩ = some (.slice ag t.globals.length cg) := (hb2.cell (p := ⟨w.heap.size, 0, none⟩) hq0).trans x0; have e1 : w2.cell? ⟨w.heap.size, 1, none⟩ = some (.slice (some ⟨b, off, none⟩) t.funcs.length cf) := (hb2.cell (p := ⟨w.heap.size, 1, none⟩) hq0).trans x1; have e2 : w2.cell? ⟨w.heap.size + 1 + 1, 1, none⟩ = some (.slice (some ⟨bp, op, none⟩) f.params.length cp) := (hb2.cell (p := ⟨w.heap.size + 1 + 1, 1, none⟩) hq2).trans y1; have e3 : w2.cell? ⟨bp, op + k, none⟩ = some (.string p) := (hb2.cell (p := ⟨bp, op + k, none⟩) hqb).trans d0; have hbw2 : Below wr.heap.size wr w2 := hdr.trans hb2)
     | ((with_reducible refine Calls.mono (HGl.out _ hbw2) ?_); rintro e w3 ⟨rfl, hb3⟩; have hbw3 : Below wr.heap.size wr w3 := hbw2.trans (hb3.mono hbw2.size); have g0 : w3.cell? ⟨w.heap.size, 0, none⟩ = some (.slice ag t.globals.length cg) := (hbw3.cell (p := ⟨w.heap.size, 0, none⟩) hq0).trans x0; have g1 : w3.cell? ⟨w.heap.size, 1, none⟩ = some (.slice (some ⟨b, off, none⟩) t.funcs.length cf) := (hbw3.cell (p := ⟨w.heap.size, 1, none⟩) hq0).trans x1; have g2 : w3.cell? ⟨w.heap.size + 1 + 1, 1, none⟩ = some (.slice (some ⟨bp, op, none⟩) f.params.length cp) := (hbw3.cell (p := ⟨w.heap.size + 1 + 1, 1, none⟩) hq2).trans y1; have g3 : w3.cell? ⟨bp, op + k, none⟩ = some (.string p) := (hbw3.cell (p := ⟨bp, op + k, none⟩) hqb).trans d0))
    have hB3 : Below (w.heap.size + 3) W2 w3 := hB.trans (hbw3.mono hsz)
    clear x0 x1 y1 y2 r0 r1 r2 z0 z1 z2 hB hBw d0
    obtain ⟨-, ⟨r0, r1, r2⟩, rz, hBw, -⟩ := HBy.out w3 hB3
    have z0 := rz 0
    have z1 := rz 1
    have z2 := rz 2
    clear rz e0 e1 e2 e3 g0 g1 g2 g3
    by_cases hgi : 0 ≤ gi
    ·have HE : Hid (RES = (2, (i : Int), -1)) := HQ1.out hgi
     obtain rfl : bg = true := hbg.symm.trans (decide_eq_true hgi)
     clear hbg
     go_wp2_with fail
     obtain ⟨t0, t1, t2⟩ := set3 (u0 := .int .i64 2) (u1 := .int .i64 (i : Int)) (u2 := .int .i64 (-1)) r0 r1 r2
     refine bodyPost_ret (v := .agg #[.int .i64 2, .int .i64 (i : Int), .int .i64 (-1)]) (by simp [results, Tryd.results50, go_sem, t0, t1, t2]) rfl ⟨ret_val (by rw [HE.out]; rfl), ?_⟩
     exact ((hBw.setCell (p := ⟨w.heap.size + 1, 0, none⟩) (by simp) _).setCell (p := ⟨w.heap.size + 1, 1, none⟩) (by simp) _).setCell (p := ⟨w.heap.size + 1, 2, none⟩) (by simp) _
    ·have HDn : Hid (dupP t.globals [] f.params = dupP t.globals (f.params.take (k + 1)) (f.params.drop (k + 1))) := HQ2.out (by omega)
     obtain rfl : bg = false := hbg.symm.trans (decide_eq_false hgi)
     clear hbg
     clear r0 r1 r2 z0 z1 z2
     go_wp2_with fail
     go_roundw
     case rel => exact ⟨k + 1, by omega, by go_num, HDn.out, hB3⟩
     case measure => simp [RowKit.intOf]; omega
  ·have hkk : k = f.params.length := by omega
   have HD0 : Hid (dupP t.globals [] f.params = false) := by show _ = _; rw [HD.out, hkk, List.drop_length]; rfl
   have HBk : Hid (Calls Tryd.prog 67 #[.agg #[.slice ag t.globals.length cg, .slice (some ⟨b, off, none⟩) t.funcs.length cf], .slice ab f.body.length cb, .int .i64 0, .slice ap f.params.length cp, .slice ap f.params.length cp] wr fun e w' => ∃ vt', e = .returned (.tuple #[.int .i64 (blkE t f.body 0 f.params f.params).1, .int .i64 (blkE t f.body 0 f.params f.params).2.1, vt']) ∧ Strs w' vt' (blkE t f.body 0 f.params f.params).2.2 ∧ Below wr.heap.size wr w') :=
    HBL.out f.body.length t _ _ _ _ _ f.body 0 f.params f.params wr (Nat.le_refl _) (HTv.out.below hBw) (HBs.out.below hBw) HOk.out.1 HOk.out.2.1 (HPs.out.below hBw) (HPs.out.below hBw) (by omega) (by omega) (by omega) (by omega) (by omega) (by omega)
   have HRn : Hid (RES = if (blkE t f.body 0 f.params f.params).1 ≠ 0 then ((blkE t f.body 0 f.params f.params).1, (i : Int), (blkE t f.body 0 f.params f.params).2.1) else (0, -1, -1)) := by
    show _ = _
    rw [HRES.out]
    unfold bodyE
    rw [if_neg (by rw [HD0.out]; simp)]
   clear HD r0 r1 r2 z0 z1 z2
   go_wp2_with fail
   refine HBk.out.mono ?_
   rintro e w2 ⟨vt, rfl, -, hb2⟩
   have hB2 : Below (w.heap.size + 3) W2 w2 := hB.trans (hb2.mono hsz)
   clear x0 x1 y1 y2 hB hBw hb2 HBk
   obtain ⟨-, ⟨r0, r1, r2⟩, rz, hBw, -⟩ := HBy.out w2 hB2
   have z0 := rz 0
   have z1 := rz 1
   have z2 := rz 2
   clear rz
   generalize (blkE t f.body 0 f.params f.params).1 = q1 at HRn ⊢
   generalize (blkE t f.body 0 f.params f.params).2.1 = q2 at HRn ⊢
   by_cases hq : q1 = 0
   ·have HE : Hid (RES = (0, -1, -1)) := by show _ = _; rw [HRn.out, if_neg (by simp [hq])]
    subst hq
    go_wp2_with fail
    obtain ⟨t0, t1, t2⟩ := set3 (u0 := .int .i64 0) (u1 := .int .i64 (-1)) (u2 := .int .i64 (-1)) r0 r1 r2
    refine bodyPost_ret (v := .agg #[.int .i64 0, .int .i64 (-1), .int .i64 (-1)]) (by simp [results, Tryd.results50, go_sem, t0, t1, t2]) rfl ⟨ret_val (by rw [HE.out]; rfl), ?_⟩
    exact ((hBw.setCell (p := ⟨w.heap.size + 1, 0, none⟩) (by simp) _).setCell (p := ⟨w.heap.size + 1, 1, none⟩) (by simp) _).setCell (p := ⟨w.heap.size + 1, 2, none⟩) (by simp) _
   ·have HE : Hid (RES = (q1, (i : Int), q2)) := by show _ = _; rw [HRn.out, if_pos hq]
    have b1 : (q1 == 0) = false := by simpa using hq
    go_wp2_with fail
    obtain ⟨t0, t1, t2⟩ := set3 (u0 := .int .i64 q1) (u1 := .int .i64 (i : Int)) (u2 := .int .i64 q2) r0 r1 r2
    refine bodyPost_ret (v := .agg #[.int .i64 q1, .int .i64 (i : Int), .int .i64 q2]) (by simp [results, Tryd.results50, go_sem, t0, t1, t2]) rfl ⟨ret_val (by rw [HE.out]; rfl), ?_⟩
    exact ((hBw.setCell (p := ⟨w.heap.size + 1, 0, none⟩) (by simp) _).setCell (p := ⟨w.heap.size + 1, 1, none⟩) (by simp) _).setCell (p := ⟨w.heap.size + 1, 2, none⟩) (by simp) _
end
end Go.Proofs.YtolkpkklinoegaaDoor
