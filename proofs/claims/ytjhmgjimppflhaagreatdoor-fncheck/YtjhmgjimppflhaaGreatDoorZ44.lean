import Derived.Test.YtjhmgjimppflhaaGreatDoorZ43
import Derived.Shelf.SlMaps.Clone
set_option linter.unusedSectionVars false
variable [Inhabited Go.Proofs.YtjhmgjimppflhaaGreatDoor.Pick]
namespace Go.Proofs.YtjhmgjimppflhaaGreatDoor
set_option linter.unusedVariables false
set_option linter.unusedSimpArgs false
set_option maxRecDepth 100000
set_option maxHeartbeats 16000000
section
open Go.RowKit
theorem dupP_hit {gs : List Gl} {seen : List ByteArray} {p : ByteArray} {r : List ByteArray} (h : inS seen p = true ∨ 0 ≤ globI gs p) : dupP gs seen (p :: r) = true := by unfold dupP; rw [if_pos h]
theorem dupP_step {gs : List Gl} {seen : List ByteArray} {p : ByteArray} {r : List ByteArray} (h : ¬ (inS seen p = true ∨ 0 ≤ globI gs p)) : dupP gs seen (p :: r) = dupP gs (seen ++ [p]) r := by rw [dupP, if_neg h]
theorem dupP_nil (gs : List Gl) (seen : List ByteArray) : dupP gs seen [] = false := rfl
theorem drop_cons_ {α : Type} (l : List α) (j : Nat) (h : j < l.length) : l.drop j = l[j] :: l.drop (j + 1) := (List.getElem_cons_drop h).symm
set_option maxRecDepth 100000 in
set_option maxHeartbeats 4000000 in
/-- (*checker).function. -/
theorem functionK {E : Ev} {w : World} {v : Value} {bt : Nat} {i : Nat} (h : Cs E w [] [] v bt [] (i : Int) (-1)) (hgf : E.gf = globF E.t.globals) (hgp : E.gp = fun s => decide (0 ≤ globI E.t.globals s)) (hp : ∀ g ∈ E.t.globals, 0 ≤ g.size) (hfl : E.t.funcs.length ≤ 1048576)
    (f : Fu) (vp vb : Value) (hps : Strs E.w0 vp f.params) (hbd : Bd E vb f.body) (hwp : ∀ s ∈ f.params, s.size ≤ 9223372036854775807) (hpl : f.params.length ≤ 1000) (hbl : f.body.length ≤ 1000) :
    Calls Tryz.prog 93 #[.pointer (some ⟨E.C, 0, none⟩), .agg #[.string f.name, vp, vb]] w fun e w' => e = .returned (errV (bodyE E.t i f).1 (i : Int) (bodyE E.t i f).2.2) ∧
      (∃ v' tk' st', Cs E w' [] [] v' bt tk' (i : Int) st' ∧ (∀ k, v'.ownBlock = some k → v.ownBlock = some k ∨ w.heap.size ≤ k)) ∧ Tcs (Sb E v bt) w w' := by
  have HCs : Hid (Cs E w [] [] v bt [] (i : Int) (-1)) := h
  have HGF : Hid (E.gf = globF E.t.globals) := hgf
  have HGP : Hid (E.gp = fun s => decide (0 ≤ globI E.t.globals s)) := hgp
  have HGQ : Hid (∀ s, (E.gp s = true) = (0 ≤ globI E.t.globals s)) := fun s => by rw [hgp]; simp
  have HP : Hid (∀ g ∈ E.t.globals, 0 ≤ g.size) := hp
  have HBd : Hid (Bd E vb f.body) := hbd
  have HWP : Hid (∀ s ∈ f.params, s.size ≤ 9223372036854775807) := hwp
  obtain ⟨RES, hRES⟩ : ∃ R, R = bodyE E.t i f := ⟨_, rfl⟩
  rw [← hRES]
  have HRES : Hid (RES = bodyE E.t i f) := hRES
  obtain ⟨ab, cb, rfl, -⟩ := hbd.st
  obtain ⟨ap, cp, rfl, -, -, hpc⟩ := hps
  have HPC : Hid (0 < f.params.length → ∃ b off, ap = some ⟨b, off, none⟩ ∧ StrsC E.w0 b off f.params) := hpc
  obtain ⟨W0, hW0⟩ : ∃ W0, W0 = w.alloc (.cells #[.string f.name, .slice ap f.params.length cp, .slice ab f.body.length cb] 61) := ⟨_, rfl⟩
  obtain ⟨M, hM⟩ : ∃ M, M = w.heap.size := ⟨_, rfl⟩
  have hA : Below w.heap.size w W0 := by rw [hW0]; exact (Below.refl _ _).alloc (Nat.le_refl _) _
  have HCa : Hid (Cs E W0 [] [] v bt [] (i : Int) (-1)) := h.below hA
  have m1 : W0.cell? ⟨M, 1, none⟩ = some (.slice ap f.params.length cp) := by rw [hW0, hM]; simp
  have m2 : W0.cell? ⟨M, 2, none⟩ = some (.slice ab f.body.length cb) := by rw [hW0, hM]; simp
  have hM0 : M < W0.heap.size := by rw [hW0, hM]; simp
  have HMS : Hid (¬ Sb E v bt M) := by
    show ¬ _
    rintro (q | q | q)
    · have := h.ltC; omega
    · have := h.lt bt (by simp); omega
    · have := (h.rlt _ q).2; omega
  have hMt : M ≠ bt := by have := h.lt bt (by simp); omega
  have HT0 : Hid (Tcs (Sb E v bt) w W0) := hA.tcs
  have hw0 : w.heap.size ≤ W0.heap.size := hA.size
  clear h hbd hgf hgp hp hRES hpc hwp hA HCs
  go_enter_defers Tryz.func93, Tryz.ntmps93
  go_wp2_with fail
  rw [← hW0, ← hM]
  clear hW0
  refine (openK HCa.out (by simp)).mono ?_
  rintro e w1 ⟨⟨u, rfl⟩, v1, hc1, ht1, ho1⟩
  obtain ⟨b, hb⟩ : ∃ b, b = W0.heap.size := ⟨_, rfl⟩
  rw [← hb] at hc1
  have HC1 : Hid (Cs E w1 ([] ++ [[]]) ([] ++ [b]) v1 bt [] (i : Int) (-1)) := hc1
  have HT1 : Hid (Tcs (Sb E v bt) w w1) := HT0.out.next ht1 (fun x hx => .inl hx)
  have HO1 : Hid (∀ k, v1.ownBlock = some k → v.ownBlock = some k ∨ w.heap.size ≤ k) := fun k hk => by
    rcases ho1 k hk with q | q
    · exact .inl q
    · exact .inr (by omega)
  have n1 : w1.cell? ⟨M, 1, none⟩ = some (.slice ap f.params.length cp) := (ht1.cell hM0 HMS.out 1).trans m1
  have n2 : w1.cell? ⟨M, 2, none⟩ = some (.slice ab f.body.length cb) := (ht1.cell hM0 HMS.out 2).trans m2
  have hM1 : M < w1.heap.size := Nat.lt_of_lt_of_le hM0 ht1.size
  have hMb : M ≠ b := by omega
  have hwb : w.heap.size ≤ b := by omega
  clear hc1 ht1 ho1 m1 m2 hM HT0 HCa hb
  go_wp2_with fail
  go_loopw [18] (fun j wr => ∃ (k : Nat), k ≤ f.params.length ∧ j = .int .i64 k ∧ Cs E wr ([] ++ [f.params.take k]) ([] ++ [b]) v1 bt (f.params.take k) (i : Int) (-1) ∧ dupP E.t.globals [] f.params = dupP E.t.globals (f.params.take k) (f.params.drop k) ∧ wr.cell? ⟨M, 2, none⟩ = some (.slice ab f.body.length cb) ∧ M < wr.heap.size ∧ Tcs (Sb E v bt) w wr) (fun j _ => f.params.length - (RowKit.intOf j).toNat)
  case atStart => exact ⟨0, Nat.zero_le _, rfl, by simpa using HC1.out, by simp, n2, hM1, HT1.out⟩
  case round =>
    clear n1 n2 hM1 HC1 HT1 hM0
    obtain ⟨k, hk, rfl, hc, hd, n2, hM1, ht⟩ := hrel
    have HC : Hid (Cs E wr ([] ++ [f.params.take k]) ([] ++ [b]) v1 bt (f.params.take k) (i : Int) (-1)) := hc
    have HD : Hid (dupP E.t.globals [] f.params = dupP E.t.globals (f.params.take k) (f.params.drop k)) := hd
    have HT : Hid (Tcs (Sb E v bt) w wr) := ht
    clear hd ht
    by_cases hlt : k < f.params.length
    · obtain ⟨bp, op, rfl, hcp⟩ := HPC.out (by omega)
      have d0 := (hc.base.cell (p := ⟨bp, op + k, none⟩) (World.block_lt_of_cell? _ _ (hcp k hlt))).trans (hcp k hlt)
      have hZ : f.params[k].size ≤ maxLen := by have := HWP.out _ (List.getElem_mem hlt); unfold maxLen; omega
      have HD2 : Hid (dupP E.t.globals [] f.params = dupP E.t.globals (f.params.take k) (f.params[k] :: f.params.drop (k + 1))) := by show _ = _; rw [HD.out, drop_cons_ _ _ hlt]
      have HTk : Hid (f.params.take (k + 1) = f.params.take k ++ [f.params[k]]) := take_succ _ _ hlt
      have htl : (f.params.take k).length ≤ 1000 := by simp; omega
      clear hcp hc HD
      generalize f.params[k] = p at d0 hZ HD2 HTk
      by_cases hx : inS (f.params.take k) p = true ∨ 0 ≤ globI E.t.globals p
      · have HE : Hid (RES = (2, (i : Int), -1)) := by
          show _ = _
          rw [HRES.out]
          unfold bodyE
          rw [if_pos (by rw [HD2.out]; exact dupP_hit hx)]
        have HX : Hid (inS (f.params.take k) p = true ∨ E.gp p = true) := by
          show _ ∨ _
          rw [HGQ.out]; exact hx
        clear hx
        go_wp2_with fail
        refine (takeOld HC.out hZ HX.out).mono ?_
        rintro e w2 ⟨rfl, hw⟩
        rw [hw, errV_ne (by decide)]
        clear hw
        go_wp2_with fail
        refine leaves_cons (f := 112) (args := #[.pointer (some ⟨E.C, 0, none⟩)]) (by simp) (by simp [go_sem]) ?_
        refine (closeK HC.out .returning).mono ?_
        rintro e u' w'' ⟨rfl, ⟨u2, rfl⟩, v2, hc2, ht2, ho2⟩
        exact ⟨_, results_tmp rfl _ _ _, ret_val (by rw [HE.out]; rfl), ⟨v2, _, _, hc2, fun k hk => HO1.out k (ho2 ▸ hk)⟩, HT.out.trans (ht2.mono (fun k h => .inl h))⟩
      · have HX : Hid (¬ (inS (f.params.take k) p = true ∨ E.gp p = true)) := by
          show ¬ (_ ∨ _)
          rw [HGQ.out]; exact hx
        have HDn : Hid (dupP E.t.globals [] f.params = dupP E.t.globals (f.params.take (k + 1)) (f.params.drop (k + 1))) := by show _ = _; rw [HD2.out, dupP_step hx, HTk.out]
        clear hx
        go_wp2_with fail
        refine (takeNew HC.out hZ (by omega) HX.out).mono ?_
        rintro e w2 ⟨rfl, hc2, ht2⟩
        have HC2 : Hid (Cs E w2 ([] ++ [f.params.take k]) ([] ++ [b]) v1 bt (f.params.take k ++ [p]) (i : Int) (-1)) := hc2
        have x2 : w2.cell? ⟨M, 2, none⟩ = some (.slice ab f.body.length cb) := (ht2.cell hM1 hMt 2).trans n2
        have hM2 : M < w2.heap.size := Nat.lt_of_lt_of_le hM1 ht2.size
        have HT2 : Hid (Tcs (Sb E v bt) w w2) := HT.out.trans (ht2.mono (fun k h => .inr (.inl h)))
        clear hc2 ht2 n2 hM1
        go_wp2_with fail
        refine (addK HC2.out hZ (by omega)).mono ?_
        rintro e w3 ⟨⟨u3, rfl⟩, hc3, ht3⟩
        have HC3 : Hid (Cs E w3 ([] ++ [f.params.take (k + 1)]) ([] ++ [b]) v1 bt (f.params.take (k + 1)) (i : Int) (-1)) := by
          have := hc3
          rw [← HTk.out] at this
          exact this
        have x3 : w3.cell? ⟨M, 2, none⟩ = some (.slice ab f.body.length cb) := (ht3.cell hM2 hMb 2).trans x2
        have hM3 : M < w3.heap.size := Nat.lt_of_lt_of_le hM2 ht3.size
        have HT3 : Hid (Tcs (Sb E v bt) w w3) := HT2.out.next ht3 (fun x hx => .inr (by omega))
        clear hc3 ht3 x2 hM2
        go_wp2_with fail
        go_roundw
        case rel => exact ⟨k + 1, by omega, by go_num, HC3.out, HDn.out, x3, hM3, HT3.out⟩
        case measure => simp [RowKit.intOf]; omega
    · have hkk : k = f.params.length := by omega
      subst hkk
      have HD0 : Hid (dupP E.t.globals [] f.params = false) := by show _ = _; rw [HD.out]; simp [dupP_nil]
      have HCf : Hid (Cs E wr [f.params] [b] v1 bt f.params (i : Int) (-1)) := by
        have := HC.out
        rw [List.take_length] at this
        exact this
      have HFl : Hid ([f.params].flatten = f.params) := by show _ = _; simp
      clear HD HC hc
      go_wp2_with fail
      refine (blockK _ E wr [f.params] [b] v1 bt f.params (i : Int) (-1) f.body _ 0 (Nat.le_refl _) HCf.out HBd.out HGF.out HGP.out HP.out hfl (by simp; omega) (by omega) (by omega) (by omega)).mono ?_
      rintro e w2 ⟨rfl, ⟨v2, tk2, st2, hc2, hi2, ho2⟩, ht2⟩
      rw [HFl.out]
      have HC2 : Hid (Cs E w2 ([] ++ [f.params]) ([] ++ [b]) v2 bt tk2 (i : Int) st2) := hc2
      have HT2 : Hid (Tcs (Sb E v bt) w w2) := HT.out.next ht2 (Sb_next HO1.out)
      have hwr := HT.out.size
      have HO2 : Hid (∀ k, v2.ownBlock = some k → v.ownBlock = some k ∨ w.heap.size ≤ k) := fun k hk => by
        rcases ho2 k hk with q | q
        · exact HO1.out k q
        · exact .inr (by omega)
      have HE : Hid (errV (blkE E.t f.body 0 f.params f.params).1 (i : Int) (blkE E.t f.body 0 f.params f.params).2.1 = errV RES.1 (i : Int) RES.2.2) := by
        show _ = _
        rw [HRES.out]
        unfold bodyE
        rw [if_neg (by rw [HD0.out]; simp)]
        by_cases q : (blkE E.t f.body 0 f.params f.params).1 = 0
        · rw [if_neg (by simp [q]), q]; rfl
        · rw [if_pos q]
      rw [HE.out]
      obtain ⟨ev, hev⟩ : ∃ ev, ev = errV RES.1 (i : Int) RES.2.2 := ⟨_, rfl⟩
      rw [← hev]
      have HV : Hid (ev = errV RES.1 (i : Int) RES.2.2) := hev
      clear hc2 hi2 ho2 ht2 n2 hev
      go_wp2_with fail
      refine leaves_cons (f := 112) (args := #[.pointer (some ⟨E.C, 0, none⟩)]) (by simp) (by simp [go_sem]) ?_
      refine (closeK HC2.out .returning).mono ?_
      rintro e u' w'' ⟨rfl, ⟨u2, rfl⟩, v3, hc3, ht3, ho3⟩
      exact ⟨_, results_tmp rfl _ _ _, ret_val (by rw [← HV.out]; rfl), ⟨v3, _, _, hc3, fun k hk => HO2.out k (ho3 ▸ hk)⟩, HT2.out.trans (ht3.mono (fun k h => .inl h))⟩
end
section
open Go.RowKit
set_option maxHeartbeats 2000000 in
/-- maps.Clone. -/
theorem clone_any (b : Nat) (es : Array MapEntry) (clock : Nat) (w : World) (hb : w.heap[b]? = some (.map es clock)) :
    Calls Tryz.prog 92 #[.map (some b)] w fun e w' => e = .returned (.map (some w.heap.size)) ∧ w' = w.alloc (.map es clock) := by
  have hq := fun w => run_eql_map_nil_sl (P := Tryz.prog) w 62 _ _ (some b) Tryz.underlying62
  have hx := @run_callFunc_extern Tryz.prog 111 _ Extern.MapsClone.clone Tryz.func111 (by kernel_rfl) (by kernel_rfl) (by kernel_rfl) (by kernel_rfl)
  have hcl := run_maps_clone_sl (P := Tryz.prog) w 62 hb
  have hta := fun (w : World) (v : Value) => run_typeAssert_map_sl (P := Tryz.prog) w 62 20 _ _ v Tryz.underlying62
  go_enter Tryz.func92, Tryz.ntmps92
  go_wp2_with fail
  go_ret
  exact ⟨rfl, rfl⟩
theorem globF_some {gs : List Gl} (hp : ∀ g ∈ gs, 0 ≤ g.size) (s : ByteArray) : (globF gs s).isSome = decide (0 ≤ globI gs s) := by
  rcases globF_I (s := s) hp with ⟨h1, h2⟩ | ⟨z, h1, h2, h3⟩
  · rw [h1, h2]; rfl
  · rw [h1, h2]; simp [h3]
/-- What is taken is a copy of the globals. -/
theorem Cs.fresh {E : Ev} {g' : ByteArray → Bool} {w : World} {v : Value} {bt : Nat} {tk : List ByteArray} {fn st : Int} {es : Array MapEntry} {clock : Nat} (h : Cs { E with gp := g' } w [] [] v bt tk fn st) (hes : w.heap[E.bg]? = some (.map es clock)) (hng : E.ng ≤ 1000) (hgf : E.gf = globF E.t.globals) (hgp : E.gp = fun s => decide (0 ≤ globI E.t.globals s)) (hp : ∀ g ∈ E.t.globals, 0 ≤ g.size) :
    Cs E ((w.alloc (.map es clock)).setCell ⟨E.C, 4, none⟩ (.map (some w.heap.size))) [] [] v w.heap.size [] fn st := by
  have h1 := h.below ((Below.refl w.heap.size w).alloc (Nat.le_refl _) (.map es clock))
  obtain ⟨ng, Dg, g0, g1, g2⟩ := h.glob
  have g0' : ng ≤ E.ng := g0
  obtain ⟨es', clock', e1, F, hs, hD⟩ := g1
  have e2 : some (Obj.map es clock) = some (.map es' clock') := hes.symm.trans e1
  simp only [Option.some.injEq, Obj.map.injEq] at e2
  obtain ⟨rfl, rfl⟩ := e2
  have hC := h.ltC
  have hm : ∀ b, E.C < b → ((w.alloc (.map es clock)).setCell ⟨E.C, 4, none⟩ (.map (some w.heap.size))).heap[b]? = (w.alloc (.map es clock)).heap[b]? := fun b hb => Below.heap_setCell _ _ _ b (fun e => by simp at e; omega)
  have hnew : ((w.alloc (.map es clock)).setCell ⟨E.C, 4, none⟩ (.map (some w.heap.size))).ownsMap Tryz.prog 9 (plainElem (H := Unit) Tryz.prog 2) w.heap.size ng Dg := ⟨es, clock, (hm _ hC).trans (show (w.heap.push _)[w.heap.size]? = _ by simp), F, hs, hD⟩
  have hnd := h1.nd
  have hgt := h1.gt
  have hlt := h.lt
  simp only [List.nodup_cons, List.mem_cons, not_or, List.not_mem_nil, not_false_eq_true, and_true] at hnd
  obtain ⟨ng1, Dg1, k0, k1, k2⟩ := h1.glob
  refine ⟨h1.box.s4 _, h1.low, h1.base.setCell (p := ⟨E.C, 4, none⟩) h1.low _, h1.fun0, h1.row.other (Nat.lt_succ_self _), rfl, h1.small, ⟨ng1, Dg1, k0, map_keep k1 (hm _ (hgt _ (by simp))), k2⟩, fun j hj => absurd hj (by simp), map_keep h1.own (hm _ (hgt _ (by simp))), h1.num, ⟨ng, Dg, _, by simp only [List.length_nil]; omega, hnew, g2, fun s => ?_⟩, ?_, ?_, ?_⟩
  · rw [hgp]
    show (E.gf s).isSome = _
    rw [hgf, globF_some hp]
    simp [inS]
  · have l1 := hlt E.bg (by simp)
    have l2 := hlt E.bn (by simp)
    simp only [List.nodup_cons, List.mem_cons, not_or, List.not_mem_nil, not_false_eq_true, and_true]
    have l1' : E.bg < w.heap.size := l1
    have l2' : E.bn < w.heap.size := l2
    refine ⟨⟨hnd.1.1, by omega⟩, by omega, ?_⟩
    simp
  · intro b hb
    simp only [List.mem_cons, List.not_mem_nil, or_false] at hb
    rcases hb with rfl | rfl | rfl
    · exact hgt _ (by simp)
    · exact hgt _ (by simp)
    · exact hC
  · intro x hx hb
    simp only [List.mem_cons, List.not_mem_nil, or_false] at hb
    have l := (h.rlt x hx).2
    rcases hb with rfl | rfl | rfl
    · exact h.rown _ hx (by simp)
    · exact h.rown _ hx (by simp)
    · omega
/-- What is asked of the functions. -/
def FnOk (f : Fu) : Prop := fitB f.body = true ∧ (∀ s ∈ f.body, smallS s) ∧ (∀ s ∈ f.body, wfSt s) ∧ (∀ s ∈ f.params, s.size ≤ 9223372036854775807) ∧ f.params.length ≤ 1000 ∧ f.body.length ≤ 1000
set_option maxRecDepth 100000 in
set_option maxHeartbeats 4000000 in
/-- (*checker).functions. -/
theorem functionsK {E : Ev} {g0 : ByteArray → Bool} {w : World} {v : Value} {bt : Nat} {tk : List ByteArray} {fn st : Int} (h : Cs { E with gp := g0 } w [] [] v bt tk fn st) (hng : E.ng ≤ 1000) (hgf : E.gf = globF E.t.globals) (hgp : E.gp = fun s => decide (0 ≤ globI E.t.globals s)) (hp : ∀ g ∈ E.t.globals, 0 ≤ g.size) (hfl : E.t.funcs.length ≤ 1000) (hok : ∀ f ∈ E.t.funcs, FnOk f) :
    Calls Tryz.prog 62 #[.pointer (some ⟨E.C, 0, none⟩)] w fun e w' => e = .returned (errV (bodiesE E.t 0 E.t.funcs).1 (bodiesE E.t 0 E.t.funcs).2.1 (bodiesE E.t 0 E.t.funcs).2.2) ∧
      ∃ g' v' bt' tk' fn' st', Cs { E with gp := g' } w' [] [] v' bt' tk' fn' st' ∧ ((bodiesE E.t 0 E.t.funcs).1 = 0 → fn' = -1 ∧ st' = -1) := by
  have HC0 : Hid (Cs { E with gp := g0 } w [] [] v bt tk fn st) := h
  have HGF : Hid (E.gf = globF E.t.globals) := hgf
  have HGP : Hid (E.gp = fun s => decide (0 ≤ globI E.t.globals s)) := hgp
  have HP : Hid (∀ g ∈ E.t.globals, 0 ≤ g.size) := hp
  have HOk : Hid (∀ f ∈ E.t.funcs, FnOk f) := hok
  obtain ⟨RES, hRES⟩ : ∃ R, R = bodiesE E.t 0 E.t.funcs := ⟨_, rfl⟩
  rw [← hRES]
  have HRES : Hid (RES = bodiesE E.t 0 E.t.funcs) := hRES
  obtain ⟨g, cap, rfl, hg, h1, h2, h3, -⟩ := BRw.cut (bs := []) h.row
  have c0 := h.box.c0
  have c2 := h.box.c2
  have hC := h.ltC
  have hf0 := h.fun0.1
  simp only at c0 c2 hf0
  obtain ⟨af, cf, hvf, -, -, hfc⟩ := hf0
  rw [hvf] at c2
  have HFC : Hid (0 < E.t.funcs.length → ∃ b off, af = some ⟨b, off, none⟩ ∧ FuncsC E.w0 b off E.t.funcs) := hfc
  clear h hgf hgp hp hok hRES hfc hvf
  simp only [List.length_nil, Nat.zero_add] at c0 h1 h3
  go_enter Tryz.func62, Tryz.ntmps62
  go_wp2_with fail
  go_loopw [20] (fun j wr => ∃ (k : Nat) (g' : ByteArray → Bool) (v' : Value) (bt' : Nat) (tk' : List ByteArray) (fn' st' : Int), k ≤ E.t.funcs.length ∧ j = .int .i64 k ∧ Cs { E with gp := g' } wr [] [] v' bt' tk' fn' st' ∧ RES = bodiesE E.t k (E.t.funcs.drop k)) (fun j _ => E.t.funcs.length - (RowKit.intOf j).toNat)
  case atStart => exact ⟨0, g0, _, bt, tk, fn, st, Nat.zero_le _, rfl, HC0.out, HRES.out⟩
  case round =>
    clear HC0 c0 c2 h3 hC HRES
    obtain ⟨k, g1, v1, bt1, tk1, fn1, st1, hk, rfl, hc, hres⟩ := hrel
    have HC : Hid (Cs { E with gp := g1 } wr [] [] v1 bt1 tk1 fn1 st1) := hc
    have HRES : Hid (RES = bodiesE E.t k (E.t.funcs.drop k)) := hres
    have y4 := hc.box.c4
    have y5 := hc.box.c5
    have y6 := hc.box.c6
    have f4 := hc.box.fz 4
    have f5 := hc.box.fz 5
    have f6 := hc.box.fz 6
    have hC := hc.ltC
    simp only at y4 y5 y6 f4 f5 f6 hC
    clear hres
    by_cases hlt : k < E.t.funcs.length
    · obtain ⟨bf, of, rfl, hfc⟩ := HFC.out (by omega)
      obtain ⟨vp, vb, ⟨d0, d1, d2⟩, hps, hbs⟩ := hfc k hlt
      have hbl : bf < E.w0.heap.size := World.block_lt_of_cell? _ _ d0
      have e0 := (hc.base.cell (p := ⟨bf, of + k * 3, none⟩) hbl).trans d0
      have e1 := (hc.base.cell (p := ⟨bf, of + k * 3 + 1, none⟩) hbl).trans d1
      have e2 := (hc.base.cell (p := ⟨bf, of + k * 3 + 2, none⟩) hbl).trans d2
      have hbC : bf < E.C := Nat.lt_of_lt_of_le hbl hc.low
      have HPs : Hid (Strs E.w0 vp E.t.funcs[k].params) := hps
      have HBs : Hid (Stmts E.w0 vb E.t.funcs[k].body) := hbs
      have HFk : Hid (FnOk E.t.funcs[k]) := HOk.out _ (List.getElem_mem hlt)
      have HR2 : Hid (RES = bodiesE E.t k (E.t.funcs[k] :: E.t.funcs.drop (k + 1))) := by show _ = _; rw [HRES.out, drop_cons_ _ _ hlt]
      obtain ⟨ap, cp, rfl, -⟩ := hps
      obtain ⟨ab, cb, rfl, -⟩ := hbs
      obtain ⟨ng, Dg, -, ⟨es, clock, hes, -⟩, -⟩ := hc.glob
      simp only at hes
      clear hfc d0 d1 d2 hc HRES hbl
      generalize E.t.funcs[k] = f at e0 e1 e2 HPs HBs HFk HR2
      go_wp2_with fail
      obtain ⟨WA, hWA⟩ : ∃ WA, WA = (((wr.setCell ⟨E.C, 5, none⟩ (.int .i64 (k : Int))).setCell ⟨E.C, 6, none⟩ (.int .i64 (-1))).alloc (.cells #[.string f.name, .slice ap f.params.length cp, .slice ab f.body.length cb] 61)) := ⟨_, rfl⟩
      obtain ⟨M, hM⟩ : ∃ M, M = wr.heap.size := ⟨_, rfl⟩
      have HCA : Hid (Cs { E with gp := g1 } WA [] [] v1 bt1 tk1 (k : Int) (-1)) := by
        show Cs _ _ _ _ _ _ _ _ _
        rw [hWA]
        exact ((HC.out.put 5 _ (HC.out.box.s5 (k : Int))).put 6 _ ((HC.out.box.s5 (k : Int)).s6 (-1))).below ((Below.refl _ _).alloc (Nat.le_refl _) _)
      have z4 := HCA.out.box.c4
      have zf := HCA.out.box.fz 4
      have hCA := HCA.out.ltC
      simp only at z4 zf hCA
      have hMA : M < WA.heap.size := by rw [hWA, hM]; simp
      have m0 : WA.cell? ⟨M, 0, none⟩ = some (.string f.name) := by rw [hWA]; exact (World.cell?_alloc_at _ _ _ _ (by simp [hM])).trans rfl
      have m1 : WA.cell? ⟨M, 1, none⟩ = some (.slice ap f.params.length cp) := by rw [hWA]; exact (World.cell?_alloc_at _ _ _ _ (by simp [hM])).trans rfl
      have m2 : WA.cell? ⟨M, 2, none⟩ = some (.slice ab f.body.length cb) := by rw [hWA]; exact (World.cell?_alloc_at _ _ _ _ (by simp [hM])).trans rfl
      have hMC : M ≠ E.C := by omega
      obtain ⟨ng, Dg, -, ⟨es2, clock2, hes2, -⟩, -⟩ := HCA.out.glob
      simp only at hes2
      rw [← hWA, ← hM]
      clear hWA hM y4 y5 y6 f4 f5 f6 e0 e1 e2 hes
      refine (clone_any E.bg es2 clock2 WA hes2).mono ?_
      rintro e w2 ⟨rfl, hw⟩
      rw [hw]
      clear hw
      have HES : Hid (WA.heap[E.bg]? = some (.map es2 clock2)) := hes2
      clear hes2
      go_wp2_with fail
      have HCB : Hid (Cs E ((WA.setCell ⟨E.C, 4, none⟩ (.map (some WA.heap.size))).alloc (.map es2 clock2)) [] [] v1 WA.heap.size [] (k : Int) (-1)) := by
        have := Cs.fresh HCA.out HES.out hng HGF.out HGP.out HP.out
        rw [World.setCell_alloc_past _ _ _ _ hCA] at this
        exact this
      obtain ⟨k1, k2, k3, k4, k5, k6⟩ := HFk.out
      refine (functionK HCB.out HGF.out HGP.out HP.out (by omega) f _ _ HPs.out ⟨HBs.out, k1, k2, k3⟩ k4 k5 k6).mono ?_
      rintro e w3 ⟨rfl, ⟨v3, tk3, st3, hc3, -⟩, -⟩
      have HC3 : Hid (Cs E w3 [] [] v3 WA.heap.size tk3 (k : Int) st3) := hc3
      clear hc3 k1 k2 k3 k4 k5 k6 z4 zf m0 m1 m2
      by_cases hz : (bodyE E.t k f).1 = 0
      · have HN : Hid (RES = bodiesE E.t (k + 1) (E.t.funcs.drop (k + 1))) := by
          show _ = _
          rw [HR2.out, bodiesE, if_neg (by simp [hz])]
        rw [hz, errV_zero]
        clear hz
        go_wp2_with fail
        go_roundw
        case rel => exact ⟨k + 1, E.gp, v3, _, tk3, (k : Int), st3, by omega, by go_num, HC3.out, HN.out⟩
        case measure => simp [RowKit.intOf]; omega
      · have HN : Hid (RES = ((bodyE E.t k f).1, (k : Int), (bodyE E.t k f).2.2)) := by
          show _ = _
          rw [HR2.out, bodiesE, if_pos hz]
          unfold bodyE at hz ⊢
          split
          · rfl
          · rename_i hd
            rw [if_neg hd] at hz
            split
            · rfl
            · rename_i hd2
              rw [if_neg hd2] at hz
              simp at hz
        have HZ : Hid ((bodyE E.t k f).1 ≠ 0) := hz
        rw [errV_ne hz]
        generalize (bodyE E.t k f).1 = z1 at HN HZ ⊢
        generalize (bodyE E.t k f).2.2 = z2 at HN ⊢
        clear hz
        go_wp2_with fail
        go_ret
        exact ⟨ret_val (by rw [HN.out, errV_ne HZ.out]; rfl), E.gp, v3, _, tk3, _, st3, HC3.out, fun h => absurd h (by rw [HN.out]; exact HZ.out)⟩
    · have HN : Hid (RES = (0, -1, -1)) := by
        show _ = _
        have hkk : k = E.t.funcs.length := by omega
        rw [HRES.out, hkk, List.drop_length]
        rfl
      have HC2 : Hid (Cs { E with gp := g1 } ((wr.setCell ⟨E.C, 5, none⟩ (.int .i64 (-1))).setCell ⟨E.C, 6, none⟩ (.int .i64 (-1))) [] [] v1 bt1 tk1 (-1) (-1)) := (HC.out.put 5 _ (HC.out.box.s5 (-1))).put 6 _ ((HC.out.box.s5 (-1)).s6 (-1))
      clear hc HRES
      go_wp2_with fail
      go_ret
      exact ⟨ret_val (by rw [HN.out]; rfl), g1, v1, bt1, tk1, -1, -1, HC2.out, fun _ => ⟨rfl, rfl⟩⟩
end
end Go.Proofs.YtjhmgjimppflhaaGreatDoor
