import Derived.Test.YtjhmgjimppflhaaGreatDoorY53
import Derived.Deep.RegionLaw
import Derived.Deep.CutBlock
import Derived.Deep.CutRange
import Derived.Deep.RegionHeldLaw
import Derived.Test.YtjhmgjimppflhaaGreatDoorY52
set_option linter.unusedSectionVars false
variable [Inhabited Go.Proofs.YtjhmgjimppflhaaGreatDoor.Pick]
namespace Go.Proofs.YtjhmgjimppflhaaGreatDoor
set_option linter.unusedVariables false
set_option linter.unusedSimpArgs false
set_option maxRecDepth 100000
set_option maxHeartbeats 16000000
section
open Go.RowKit
theorem four14 {k : Int} (h : 0 ≤ k ∧ k < 14) : k = 0 ∨ k = 1 ∨ k = 2 ∨ k = 3 ∨ k = 4 ∨ k = 5 ∨ k = 6 ∨ k = 7 ∨ k = 8 ∨ k = 9 ∨ k = 10 ∨ k = 11 ∨ k = 12 ∨ k = 13 := by omega
theorem nat_of {f : Int} {n : Nat} (h : 0 ≤ f ∧ f < n) : ∃ k : Nat, f = k ∧ k < n := ⟨f.toNat, by omega, by omega⟩
theorem copy_all {g M : Nat} {a : Option Addr} {len cap O R4 N fl gl : Nat} {w W : World} {b c b' c' : Nat} {gs : List Gl} {Q : List FV} (h : PP g M a len cap O R4 N fl gl w W b c b' c' gs Q) (f : Nat) (hf : f < fl) :
  (W.alloc (.cells #[] 88)).cell? ⟨O, 1, none⟩ = some (.slice (some ⟨b', 0, none⟩) fl c') ∧ ∃ ba bo bn bc, (W.alloc (.cells #[] 88)).cell? ⟨b', f * 3 + 2, none⟩ = some (.slice (some ⟨ba, bo, none⟩) bn bc) ∧ ∃ bb cap' w', (Builtin.append_ #[59, 59] 59 #[.slice (some ⟨W.heap.size, 0, none⟩) 0 0, .slice (some ⟨ba, bo, none⟩) bn bc]).run Tryz.prog (W.alloc (.cells #[] 88)) = .ok (.slice (some ⟨bb, 0, none⟩) bn cap') w' ∧ ((1 : Int) ≤ bn ∧ (bn : Int) ≤ 100000) ∧ ∃ R, QP g M a len cap O R4 N fl gl w w' b c b' c' gs Q bb bn cap' R := by
 obtain ⟨ba, bo, bn, bc, -, c2, bb, cap', w', r, R, hQ⟩ := h.copy f hf 59
 have hr := hQ.rl
 exact ⟨(World.cell?_alloc_past _ O 1 h.lo.2.2.2.2).trans (h.box 1 _ rfl).1, ba, bo, bn, bc, c2, bb, cap', w', r, by omega, R, hQ⟩
theorem fl_int {fl : Nat} (h : 1 ≤ fl ∧ fl ≤ 20) : (1 : Int) ≤ fl ∧ (fl : Int) ≤ 100000 := by omega
set_option maxRecDepth 100000 in
set_option maxHeartbeats 16000000 in
theorem spoil_any (g M : Nat) (a : Option Addr) (len cap : Nat) (vg vf : Value) (t : Tr) (w : World) (hl : len ≤ 1048576) (hM : g < M ∧ M ≤ w.heap.size) (hL : Lo g a len (S0 g) w.heap.size) (hc : Cur g a len cap w) (hT : TD (fun k => k < M) w vg vf t) :
  Calls Tryz.prog 21 #[.pointer (some ⟨g, 0, none⟩), .agg #[vg, vf]] w fun e w' => ∃ vg' vf', e = .returned (.agg #[vg', vf']) ∧ (∃ t', TW (fun k => k < M) w' vg' vf' t') ∧ Dr g a len cap (S0 g) w w' := by
 have hS0 : S0 g g := rfl
 have HLo := hide hL
 have HM := hide hM
 have HTD := hide hT
 have hgl := hT.gl
 have hfl := hT.fl
 obtain ⟨W0, hW0⟩ : ∃ W0, W0 = (w.alloc (.cells #[vg, vf] 26)).alloc (.cells #[.slice none 0 0, .slice none 0 0] 26) := ⟨_, rfl⟩
 have hb0 : Below w.heap.size w W0 := by rw [hW0]; exact ((Below.refl _ _).alloc (Nat.le_refl _) _).alloc (by simp) _
 have hs0 : W0.heap.size = w.heap.size + 2 := by rw [hW0]; simp
 obtain ⟨ga, gc, eg, -⟩ := globs_cells (hT.gs w (Tcs.refl _ _)) (by omega)
 obtain ⟨fb, foff, fc, Q, ef, -, -, hQm, hQs⟩ := hT.fs
 have hQl : Q.length = t.funcs.length := by rw [← hQm, List.length_map]
 obtain ⟨gl, hgl'⟩ : ∃ gl, gl = t.globals.length := ⟨_, rfl⟩
 obtain ⟨fl, hfl'⟩ : ∃ fl, fl = t.funcs.length := ⟨_, rfl⟩
 rw [hQl] at ef
 rw [← hgl'] at eg hgl
 rw [← hfl'] at ef hfl
 subst eg ef
 obtain ⟨P3, hP3⟩ : ∃ P3, P3 = w.heap.size := ⟨_, rfl⟩
 obtain ⟨R4, hR4⟩ : ∃ R4, R4 = w.heap.size + 1 := ⟨_, rfl⟩
 have HW0 := hide hW0
 have HP3 := hide hP3
 have HR4 := hide hR4
 have hf3 : FrC W0 P3 [.slice (some ga) gl gc, .slice (some ⟨fb, foff, none⟩) fl fc] := by
  rw [hW0, hP3]
  exact (box_fr w _ _ (by simp)).below ((Below.refl _ _).alloc (Nat.le_refl _) _)
 have hf4 : FrC W0 R4 [.slice none 0 0, .slice none 0 0] := by
  rw [hW0, hR4]
  have := box_fr (w.alloc (.cells #[.slice (some ga) gl gc, .slice (some ⟨fb, foff, none⟩) fl fc] 26)) #[.slice none 0 0, .slice none 0 0] 26 (by simp)
  simp only [World.size_alloc] at this
  exact this
 have H3 := hide hf3
 have H4 := hide hf4
 have HB0 := hide hb0
 have HS0 : Hid (W0.heap.size = w.heap.size + 2) := hs0
 have HQ := hide (And.intro hQl hQm)
 have HQs := hide hQs
 have HQo : Hid (∀ x ∈ Q, x.vp.oneCell' = true ∧ x.vb.oneCell' = true) := fun x hx => by
  obtain ⟨e1, e2, -⟩ := (hQs w (Tcs.refl _ _)).2 x hx
  obtain ⟨_, _, e1, -⟩ := e1
  exact ⟨by rw [e1]; rfl, e2.one⟩
 have HC0 : Hid (Cur g a len cap W0) := hc.below hb0
 have HGl := hide hgl'
 have HFl := hide hfl'
 clear hL hM hW0 hb0 hs0 hf3 hf4 hP3 hR4 hc hQl hQm hT hgl' hfl' hQs
 go_enter Tryz.func21, Tryz.ntmps21
 go_upto_region 1 with fail
 rw [← HW0.out, ← HR4.out, ← HP3.out]
 clear HW0
 obtain ⟨N, hN⟩ : ∃ N, N = W0.heap.size := ⟨_, rfl⟩
 have HN := hide hN
 have HGs : Hid (∀ Y, Below W0.heap.size W0 Y → (∀ j u, (gflat t.globals)[j]? = some u → Y.cell? (ga.add j) = some u) ∧ (∀ j u, (flatF Q)[j]? = some u → Y.cell? ((⟨fb, foff, none⟩ : Addr).add j) = some u)) := fun Y hY => by
  have hwY : Below w.heap.size w Y := HB0.out.trans (hY.mono HB0.out.size)
  refine ⟨fun j u hu => ?_, fun j u hu => ?_⟩
  ·obtain ⟨ga', gc', e, h⟩ := globs_cells (HTD.out.gs Y hwY.tcs) (by rw [← HGl.out]; omega)
   simp only [Value.slice.injEq, Option.some.injEq] at e
   rw [e.1]
   exact h j u hu
  ·rw [addrO]
   exact (HQs.out Y hwY.tcs).1 j u hu
 have hP3l : P3 < W0.heap.size := by have := HS0.out; have := HP3.out; omega
 have p0 := (H3.out 0 _ rfl).1
 have p1 := (H3.out 1 _ rfl).1
 clear hN
 refine wp_region_grow (by kernel_rfl) (n := 10) (d := fun i => [11, 12, 13, 14, 15, 16, 17, 18, 19, 5].getD i 0) ?G
  (fun i x Y => match i with
    | 0 => ∃ b, x = .slice (some ⟨b, 0, none⟩) 0 0 ∧ Y.ownsRow N 78 2 x 0 []
    | 1 => x = .pointer (some ⟨P3, 0, none⟩)
    | 2 => x = .slice (some ga) gl gc
    | 3 => ∃ b c, x = .slice (some ⟨b, 0, none⟩) gl c ∧ Y.ownsRow N 78 2 x gl (gflat t.globals)
    | 4 => ∃ b, x = .slice (some ⟨b, 0, none⟩) 0 0 ∧ Y.ownsRow N 61 3 x 0 []
    | 5 => x = .pointer (some ⟨P3, 1, none⟩)
    | 6 => x = .slice (some ⟨fb, foff, none⟩) fl fc
    | 7 => ∃ b c, x = .slice (some ⟨b, 0, none⟩) fl c ∧ Y.ownsRow N 61 3 x fl (flatF Q)
    | 8 => ∃ b c b' c', x = .agg #[.slice (some ⟨b, 0, none⟩) gl c, .slice (some ⟨b', 0, none⟩) fl c'] ∧ Y.ownsRow N 78 2 (.slice (some ⟨b, 0, none⟩) gl c) gl (gflat t.globals) ∧ Y.ownsRow N 61 3 (.slice (some ⟨b', 0, none⟩) fl c') fl (flatF Q)
    | _ => ∃ b, x = .pointer (some ⟨b, 0, none⟩) ∧ N ≤ b ∧ Y.heap[b]? = some (.cells #[.slice none 0 0, .slice none 0 0] 26 (0, 0)))
  (fun i x => []) ?stab ?hd ?step ?fin
 case G =>
  refine ⟨rfl, ?_, ?_, ?_⟩
  ·intro i hi
   rcases lt10 hi with rfl | rfl | rfl | rfl | rfl | rfl | rfl | rfl | rfl | rfl <;> exact ⟨_, rfl, rfl, rfl, by simp [Region.binds]⟩
  ·intro i j hi hj
   rcases lt10 hi with rfl | rfl | rfl | rfl | rfl | rfl | rfl | rfl | rfl | rfl <;> rcases lt10 hj with rfl | rfl | rfl | rfl | rfl | rfl | rfl | rfl | rfl | rfl <;> simp
  ·refine ⟨_, rfl, rfl, ?_, by simp⟩
   intro i hi
   rcases lt10 hi with rfl | rfl | rfl | rfl | rfl | rfl | rfl | rfl | rfl | rfl <;> simp [Region.binds]
 case stab =>
  intro i x Y Y' hR hO hB
  by_cases hi : i < 10
  ·rcases lt10 hi with rfl | rfl | rfl | rfl | rfl | rfl | rfl | rfl | rfl | rfl
   ·obtain ⟨b, e, h⟩ := hR; exact ⟨b, e, ownB h hB⟩
   ·exact hR
   ·exact hR
   ·obtain ⟨b, c, e, h⟩ := hR; exact ⟨b, c, e, ownB h hB⟩
   ·obtain ⟨b, e, h⟩ := hR; exact ⟨b, e, ownB h hB⟩
   ·exact hR
   ·exact hR
   ·obtain ⟨b, c, e, h⟩ := hR; exact ⟨b, c, e, ownB h hB⟩
   ·obtain ⟨b, c, b', c', e, h, h'⟩ := hR; exact ⟨b, c, b', c', e, ownB h hB, ownB h' hB⟩
   ·obtain ⟨b, e, h1, h⟩ := hR; exact ⟨b, e, h1, (hB.block _ (Array.getElem?_eq_some_iff.1 h).1).trans h⟩
  ·obtain ⟨k, rfl⟩ : ∃ k, i = k + 10 := ⟨i - 10, by omega⟩
   obtain ⟨b, e, h1, h⟩ := hR; exact ⟨b, e, h1, (hB.block _ (Array.getElem?_eq_some_iff.1 h).1).trans h⟩
 case hd =>
  intro i hi
  rcases lt10 hi with rfl | rfl | rfl | rfl | rfl | rfl | rfl | rfl | rfl | rfl <;> simp
 case step =>
  intro i o hi ho x Y hdf hts hfr hB hdep hown hap
  have t3 := hfr 3 (by intro j hj; rcases lt10 hj with rfl | rfl | rfl | rfl | rfl | rfl | rfl | rfl | rfl | rfl <;> decide)
  simp at t3
  have c0 := (hB.cell (p := ⟨P3, 0, none⟩) hP3l).trans p0
  have c1 := (hB.cell (p := ⟨P3, 1, none⟩) hP3l).trans p1
  have hNY : N ≤ Y.heap.size := by rw [HN.out]; exact hB.size
  obtain ⟨i1, q1, q2, q3, q4⟩ := info_parts info_glob
  obtain ⟨i2, r1, r2, r3, r4⟩ := info_parts info_func
  rcases lt10 hi with rfl | rfl | rfl | rfl | rfl | rfl | rfl | rfl | rfl | rfl
  ·simp at ho
   subst ho
   simp [Oper.wp, execOp, Oper.upon, Act.eval, go_sem]
   refine ⟨_, rfl, ?_, (Below.refl _ _).alloc (Nat.le_refl _) _⟩
   have hlit : (Y.alloc (.cells #[] 78)).ownsRow N 78 2 (.slice (some ⟨Y.heap.size, 0, none⟩) 0 0) 0 [] := World.ownsRow_lit Y #[] 0 hNY (by decide) rfl
   first | exact hlit | exact ⟨⟨_, rfl⟩, hlit⟩ | exact ⟨by simp, hlit⟩ | exact ⟨_, rfl, hlit⟩
  ·simp at ho
   subst ho
   simp [Oper.wp, execOp, Oper.upon, Act.eval, t3, go_sem]
   exact ⟨_, rfl, rfl, Below.refl _ _⟩
  ·simp at ho
   subst ho
   have e1 : x.tmps[12]?.getD undef = .pointer (some ⟨P3, 0, none⟩) := by have := hdep ⟨1, .data⟩ (by simp); simpa [Act.eval] using this
   simp [Oper.wp, execOp, Oper.upon, e1, c0, go_sem]
   exact ⟨_, rfl, rfl, Below.refl _ _⟩
  ·simp at ho
   subst ho
   obtain ⟨b, e0, o0⟩ := hdep ⟨0, .data⟩ (by simp)
   have e0' : x.tmps[11]?.getD undef = .slice (some ⟨b, 0, none⟩) 0 0 := by simpa [Act.eval] using e0
   have e1 : x.tmps[13]?.getD undef = .slice (some ga) gl gc := by have := hdep ⟨2, .data⟩ (by simp); simpa [Act.eval] using this
   rw [e0] at o0
   obtain ⟨cp, w', hr, ho', hb'⟩ := app_new (P := Tryz.prog) (w := Y) N 23 23 78 i1 _ 2 24 Tryz.underlying23 q1 q2 q3 q4 rfl (by decide) b o0 ga gl gc (gflat t.globals) (by rw [gflat_len, HGl.out]) (HGs.out Y hB).1 (fun u hu => by
    simp only [gflat, List.mem_flatMap] at hu
    obtain ⟨y, -, hu⟩ := hu
    simp only [gcl, List.mem_cons, List.not_mem_nil, or_false] at hu
    rcases hu with rfl | rfl <;> rfl) (by omega) (by omega) (by decide) hNY
   unfold Oper.wp execOp
   have hs' : x.eval (.tmp 11) = .slice (some ⟨b, 0, none⟩) 0 0 := e0
   have hx' : x.eval (.tmp 13) = .slice (some ga) gl gc := hdep ⟨2, .data⟩ (by simp)
   simp only [resolve, invoke, builtin, Sem.run_bind, Sem.run_pure, Result.andThen_ok, List.map_toArray, List.map_cons, List.map_nil, hs', hx', hr]
   exact ⟨_, rfl, ⟨_, cp, rfl, ho'⟩, hb', fun g hg => by cases hg⟩
  ·simp at ho
   subst ho
   simp [Oper.wp, execOp, Oper.upon, Act.eval, go_sem]
   refine ⟨_, rfl, ?_, (Below.refl _ _).alloc (Nat.le_refl _) _⟩
   have hlit : (Y.alloc (.cells #[] 61)).ownsRow N 61 3 (.slice (some ⟨Y.heap.size, 0, none⟩) 0 0) 0 [] := World.ownsRow_lit Y #[] 0 hNY (by decide) rfl
   first | exact hlit | exact ⟨⟨_, rfl⟩, hlit⟩ | exact ⟨by simp, hlit⟩ | exact ⟨_, rfl, hlit⟩
  ·simp at ho
   subst ho
   simp [Oper.wp, execOp, Oper.upon, Act.eval, t3, go_sem]
   exact ⟨_, rfl, rfl, Below.refl _ _⟩
  ·simp at ho
   subst ho
   have e1 : x.tmps[16]?.getD undef = .pointer (some ⟨P3, 1, none⟩) := by have := hdep ⟨5, .data⟩ (by simp); simpa [Act.eval] using this
   simp [Oper.wp, execOp, Oper.upon, e1, c1, go_sem]
   exact ⟨_, rfl, rfl, Below.refl _ _⟩
  ·simp at ho
   subst ho
   obtain ⟨b, e0, o0⟩ := hdep ⟨4, .data⟩ (by simp)
   have hs' : x.eval (.tmp 15) = .slice (some ⟨b, 0, none⟩) 0 0 := e0
   have hx' : x.eval (.tmp 17) = .slice (some ⟨fb, foff, none⟩) fl fc := hdep ⟨6, .data⟩ (by simp)
   rw [e0] at o0
   obtain ⟨cp, w', hr, ho', hb'⟩ := app_new (P := Tryz.prog) (w := Y) N 24 24 61 i2 _ 3 64 Tryz.underlying24 r1 r2 r3 r4 rfl (by decide) b o0 ⟨fb, foff, none⟩ fl fc (flatF Q) (by rw [flatF_len, HQ.out.1, HFl.out]) (HGs.out Y hB).2 (fun u hu => by
    simp only [flatF, List.mem_flatMap] at hu
    obtain ⟨y, hy, hu⟩ := hu
    obtain ⟨e1, e2⟩ := HQo.out y hy
    simp only [cellsF, List.mem_cons, List.not_mem_nil, or_false] at hu
    rcases hu with rfl | rfl | rfl
    ·rfl
    ·exact e1
    ·exact e2) (by omega) (by omega) (by decide) hNY
   unfold Oper.wp execOp
   simp only [resolve, invoke, builtin, Sem.run_bind, Sem.run_pure, Result.andThen_ok, List.map_toArray, List.map_cons, List.map_nil, hs', hx', hr]
   exact ⟨_, rfl, ⟨_, cp, rfl, ho'⟩, hb', fun g hg => by cases hg⟩
  ·simp at ho
   subst ho
   obtain ⟨b, c, e0, o0⟩ := hdep ⟨3, .data⟩ (by simp)
   obtain ⟨b', c', e1, o1⟩ := hdep ⟨7, .data⟩ (by simp)
   have e0' : x.tmps[14]?.getD undef = .slice (some ⟨b, 0, none⟩) gl c := by simpa [Act.eval] using e0
   have e1' : x.tmps[18]?.getD undef = .slice (some ⟨b', 0, none⟩) fl c' := by simpa [Act.eval] using e1
   rw [e0] at o0
   rw [e1] at o1
   simp [Oper.wp, execOp, Oper.upon, e0', e1', go_sem]
   exact ⟨_, rfl, ⟨b, c, b', c', rfl, o0, o1⟩, Below.refl _ _⟩
  ·simp at ho
   subst ho
   simp [Oper.wp, execOp, Oper.upon, Act.eval, go_sem]
   refine ⟨_, rfl, ?_, (Below.refl _ _).alloc (Nat.le_refl _) _⟩
   have hh : (Y.alloc (.cells #[.slice none 0 0, .slice none 0 0] 26)).heap[Y.heap.size]? = some (.cells #[.slice none 0 0, .slice none 0 0] 26 (0, 0)) := (MapKept.heap_alloc Y _).1
   first | exact ⟨hNY, hh⟩ | exact ⟨_, rfl, hNY, hh⟩
 case fin =>
  intro o ho x Y hG
  obtain ⟨hdf, hts, hfr, hB, hrel, -, -⟩ := hG
  simp at ho
  subst ho
  obtain ⟨b, c, b', c', e8, og, of'⟩ := hrel 8 (by omega) trivial
  obtain ⟨O, e9, hNO, hO⟩ := hrel 9 (by omega) trivial
  obtain ⟨b0, e0, -⟩ := hrel 0 (by omega) trivial
  have e1 := hrel 1 (by omega) trivial
  have e2 := hrel 2 (by omega) trivial
  obtain ⟨b3, c3, e3, -⟩ := hrel 3 (by omega) trivial
  obtain ⟨b4, e4, -⟩ := hrel 4 (by omega) trivial
  have e5 := hrel 5 (by omega) trivial
  have e6 := hrel 6 (by omega) trivial
  obtain ⟨b7, c7, e7, -⟩ := hrel 7 (by omega) trivial
  have E0 : x.eval (.tmp 11) = _ := e0
  have E1 : x.eval (.tmp 12) = .pointer (some ⟨P3, 0, none⟩) := e1
  have E2 : x.eval (.tmp 13) = .slice (some ga) gl gc := e2
  have E3 : x.eval (.tmp 14) = _ := e3
  have E4 : x.eval (.tmp 15) = _ := e4
  have E5 : x.eval (.tmp 16) = .pointer (some ⟨P3, 1, none⟩) := e5
  have E6 : x.eval (.tmp 17) = .slice (some ⟨fb, foff, none⟩) fl fc := e6
  have E7 : x.eval (.tmp 18) = _ := e7
  have E8 : x.eval (.tmp 19) = _ := e8
  have E9 : x.eval (.tmp 5) = _ := e9
  have hx := act_puts [11, 12, 13, 14, 15, 16, 17, 18, 19, 5] hdf hts (by simp) (fun t ht => hfr t (fun j hj e => ht (by rcases lt10 hj with rfl | rfl | rfl | rfl | rfl | rfl | rfl | rfl | rfl | rfl <;> (rw [← e]; simp))))
  simp only [List.foldl_cons, List.foldl_nil, E0, E1, E2, E3, E4, E5, E6, E7, E8, E9] at hx
  clear E0 E1 E2 E3 E4 E5 E6 E7 E8 E9 e0 e1 e2 e3 e4 e5 e6 e7 e8 e9 hrel hfr hts hdf
  have hmk := @pp_make _ g M a len cap O R4 N fl gl w W0 Y b c b' c' fb foff (.slice (some ga) gl gc) (.slice (some ⟨fb, foff, none⟩) fl fc) t Q hB og of' hNO hO HN.out HR4.out HS0.out HB0.out HLo.out H4.out HC0.out HTD.out HQ.out HM.out HQs.out hgl hfl HGl.out HFl.out
  obtain ⟨fO, W1, hW1, hPP⟩ := hmk
  subst hx
  have k0 := (fO 0 _ rfl).1
  have k0z := (fO 0 _ rfl).2
  have k1 := (fO 1 _ rfl).1
  have k1z := (fO 1 _ rfl).2
  have HPP := hide hPP
  have HW1 := hide hW1
  clear hPP hW1
  clear HQs HTD H3 H4 HGl HFl HQ HQo HGs
  simp [Oper.wp, execOp, Oper.upon, Act.eval, Act.put, k0, k0z, k1, k1z, go_sem]
  rw [← HW1.out]
  have q1 := (HPP.out.box 1 _ rfl).1
  clear HW1 k0 k0z k1 k1z fO hO hNO og of' hB
  have hflu := fl_int hfl
  go_wp2_with fail
  refine (below_any g a len cap (S0 g) _ _ hl hS0 HPP.out.cur hflu).mono ?_
  rintro e w2 ⟨f, rfl, hf, hd2⟩
  obtain ⟨fn, rfl, hfn⟩ := nat_of hf
  obtain ⟨q2, ba, bo, bn, bc, q3, bb, cap', w3, r3, hbn, R, hQP⟩ := copy_all (HPP.out.dr hd2) fn hfn
  have Hr3 := hide r3
  have HQP := hide hQP
  clear r3 hQP q1 hd2 HPP
  go_wp2_with (at_builtin; refine wpList_appG rfl (.tmp 25) (.tmp 31) _ rfl _ _ _ _ rfl rfl Hr3.out ?_)
  refine (below_any g a len cap (S0 g) _ _ hl hS0 HQP.out.pp.cur ⟨by decide, by decide⟩).mono ?_
  rintro e w4 ⟨kk, rfl, hkk, hd4⟩
  have HQ4 := hide (HQP.out.dr hd4)
  clear hd4 HQP
  go_wp2_with fail
  refine (below_any g a len cap (S0 g) _ _ hl hS0 HQ4.out.pp.cur hbn).mono ?_
  rintro e w5 ⟨ii, rfl, hii, hd5⟩
  have HQ5 := hide (HQ4.out.dr hd5)
  clear hd5 HQ4
  obtain ⟨i, rfl, hi⟩ := nat_of hii
  clear Hr3 q2 q3 HC0 HB0 HS0 HN
  go_upto_block 0 with fail
  go_cut [7, 10] from 39 to 400 (fun vb ev W => ∃ vg bF cF gs Q' R', (∃ xa xn xc, vb = .slice xa xn xc) ∧ (∃ ya yn yc, vg = .slice ya yn yc) ∧ CP g M a len cap O R4 N fl w W vb vg bF cF gs Q' R')
  case first =>
   rcases four14 hkk with rfl | rfl | rfl | rfl | rfl | rfl | rfl | rfl | rfl | rfl | rfl | rfl | rfl | rfl
   case inl =>
    go_upto_region 8 with fail
    have HS := hide ((HQ5.out.pp.box 0 _ rfl).1)
    refine wp_region_E 9 (fun W => W.cell? ⟨O, 0, none⟩ = some (.slice (some ⟨b, 0, none⟩) gl c)) (by kernel_rfl) ?_
    refine wpAnyE_take (i := 0) (v := ?_) [1, 7, 9] rfl (by kernel_rfl) (by kernel_rfl) (by kernel_rfl) (by kernel_rfl) (fun _ _ _ h => h) (Or.inl ⟨by rfl, ?_⟩) HS.out ?_
    rotate_left
    ·(intro W hSW; (try dsimp only at hSW); go_simp; try with_reducible rfl)
    try simp only [Act.put, List.setIfInBounds_toArray, List.set_cons_zero, List.set_cons_succ]
    refine wpAnyE_take (i := 1) (v := ?_) [7, 9] rfl (by kernel_rfl) (by kernel_rfl) (by kernel_rfl) (by kernel_rfl) (fun _ _ _ h => h) (Or.inl ⟨by rfl, ?_⟩) HS.out ?_
    rotate_left
    ·(intro W hSW; (try dsimp only at hSW); go_simp; try with_reducible rfl)
    try simp only [Act.put, List.setIfInBounds_toArray, List.set_cons_zero, List.set_cons_succ]
    refine wpAnyE_take (i := 2) (v := ?_) [4, 5, 6, 7, 9] rfl (by kernel_rfl) (by kernel_rfl) (by kernel_rfl) (by kernel_rfl) (fun _ _ _ h => h) (Or.inl ⟨by rfl, ?_⟩) HS.out ?_
    rotate_left
    ·(intro W hSW; (try dsimp only at hSW); go_simp; try with_reducible rfl)
    try simp only [Act.put, List.setIfInBounds_toArray, List.set_cons_zero, List.set_cons_succ]
    have HS3 := hide (((HQ5.out.drew).alloc (.cells #[.string ⟨#[103]⟩, .string ⟨#[109, 97, 105, 110]⟩, .string ⟨#[112, 48]⟩, .string ⟨#[105, 102]⟩, .string ⟨#[118, 49]⟩] 9)).pp.box 0 _ rfl).1
    clear HS
    refine wpAnyE_one (i := 3) (by kernel_rfl) rfl (fun K hK => ?_)
    go_simp
    refine hK.out _ _ (fun _ => HS3.out) ?_
    clear hK K
    try simp only [Act.put, List.setIfInBounds_toArray, List.set_cons_zero, List.set_cons_succ]
    refine wpAnyE_one (i := 4) (by kernel_rfl) rfl (fun K hK => ?_)
    go_simp
    refine ((HQ5.out.drew).pick hl HLo.out [⟨#[103]⟩, ⟨#[109, 97, 105, 110]⟩, ⟨#[112, 48]⟩, ⟨#[105, 102]⟩, ⟨#[118, 49]⟩] _ 5 rfl rfl (by decide) (by decide)).mono ?_
    rintro e w6 ⟨sx, hsx, rfl, hq⟩
    have H6 := hide hq
    have HSx := hide hsx
    clear hq hsx
    have HS := hide ((H6.out.pp.box 0 _ rfl).1)
    refine hK.out _ _ (fun _ => HS.out) ?_
    clear hK K HS3
    try simp only [Act.put, List.setIfInBounds_toArray, List.set_cons_zero, List.set_cons_succ]
    refine wpAnyE_take (i := 5) (v := ?_) [6, 7, 9] rfl (by kernel_rfl) (by kernel_rfl) (by kernel_rfl) (by kernel_rfl) (fun _ _ _ h => h) (Or.inl ⟨by rfl, ?_⟩) HS.out ?_
    rotate_left
    ·(intro W hSW; (try dsimp only at hSW); go_simp; try with_reducible rfl)
    try simp only [Act.put, List.setIfInBounds_toArray, List.set_cons_zero, List.set_cons_succ]
    obtain ⟨q1, ya, yn, yc, w7, r7, q2, gs', hcp⟩ := H6.out.gapp HLo.out sx HSx.out
    have HQ1 := hide q1
    have Hr7 := hide r7
    have HQ2 := hide q2
    have HCP := hide hcp
    clear q1 r7 q2 hcp HS
    refine wpAnyE_one (i := 6) (by kernel_rfl) rfl (fun K hK => ?_)
    go_simp
    refine hK.out _ _ (fun _ => HQ1.out) ?_
    clear hK K
    try simp only [Act.put, List.setIfInBounds_toArray, List.set_cons_zero, List.set_cons_succ]
    refine wpAnyE_one (i := 7) (by kernel_rfl) rfl (fun K hK => ?_)
    refine step_appR rfl (.tmp 43) (.tmp 48) 23 rfl (.slice (some ⟨b, 0, none⟩) gl c) (.slice (some ⟨w6.heap.size, 0, none⟩) 1 1) (.slice ya yn yc) w7 rfl rfl Hr7.out ?_
    refine hK.out _ _ (fun _ => HQ2.out.1) ?_
    clear hK K
    try simp only [Act.put, List.setIfInBounds_toArray, List.set_cons_zero, List.set_cons_succ]
    have HS := hide HQ2.out.1
    refine wpAnyE_take (i := 8) (v := ?_) [9] rfl (by kernel_rfl) (by kernel_rfl) (by kernel_rfl) (by kernel_rfl) (fun _ _ _ h => h) (Or.inl ⟨by rfl, ?_⟩) HS.out ?_
    rotate_left
    ·(intro W hSW; (try dsimp only at hSW); go_simp; try with_reducible rfl)
    try simp only [Act.put, List.setIfInBounds_toArray, List.set_cons_zero, List.set_cons_succ]
    clear HS
    have y1 := HQ2.out.1
    have y2 := HQ2.out.2
    refine wpAnyE_one (i := 9) (by kernel_rfl) rfl (fun K hK => ?_)
    go_simp
    refine hK.out _ _ (fun h => absurd rfl h) ?_
    clear hK K y1 y2
    refine wpAnyE_done (by kernel_rfl) ?_ _
    go_wp2_with fail
    go_meet
    case rel => exact ⟨_, _, _, _, _, _, ⟨_, _, _, rfl⟩, ⟨_, _, _, rfl⟩, HCP.out⟩
   case inr.inl =>
    go_upto_region 10 with fail
    have HS := hide ((HQ5.out.pp.box 0 _ rfl).1)
    have hgl0 : 0 < gl := hgl.1
    refine wp_region_E 7 (fun W => W.cell? ⟨O, 0, none⟩ = some (.slice (some ⟨b, 0, none⟩) gl c)) (by kernel_rfl) ?_
    refine wpAnyE_take (i := 0) (v := ?_) [1, 5, 6, 7] rfl (by kernel_rfl) (by kernel_rfl) (by kernel_rfl) (by kernel_rfl) (fun _ _ _ h => h) (Or.inl ⟨by rfl, ?_⟩) HS.out ?_
    rotate_left
    ·(intro W hSW; (try dsimp only at hSW); go_simp; try with_reducible rfl)
    try simp only [Act.put, List.setIfInBounds_toArray, List.set_cons_zero, List.set_cons_succ]
    refine wpAnyE_take (i := 1) (v := ?_) [5, 6, 7] rfl (by kernel_rfl) (by kernel_rfl) (by kernel_rfl) (by kernel_rfl) (fun _ _ _ h => h) (Or.inl ⟨by rfl, ?_⟩) HS.out ?_
    rotate_left
    ·(intro W hSW; (try dsimp only at hSW); go_simp; try with_reducible rfl)
    try simp only [Act.put, List.setIfInBounds_toArray, List.set_cons_zero, List.set_cons_succ]
    refine wpAnyE_take (i := 2) (v := ?_) [3, 7] rfl (by kernel_rfl) (by kernel_rfl) (by kernel_rfl) (by kernel_rfl) (fun _ _ _ h => h) (Or.inl ⟨by rfl, ?_⟩) HS.out ?_
    rotate_left
    ·(intro W hSW; (try dsimp only at hSW); go_simp; try with_reducible rfl)
    try simp only [Act.put, List.setIfInBounds_toArray, List.set_cons_zero, List.set_cons_succ]
    clear HS
    refine wpAnyE_one (i := 3) (by kernel_rfl) rfl (fun K hK => ?_)
    go_simp
    refine (below_any g a len cap (S0 g) _ _ hl hS0 HQ5.out.drew.pp.cur ⟨by decide, by decide⟩).mono ?_
    rintro e w6 ⟨y, rfl, hy, hd6⟩
    have H6 := hide (HQ5.out.drew.dr hd6)
    clear hd6
    have HS := hide ((H6.out.pp.box 0 _ rfl).1)
    refine hK.out _ _ (fun _ => HS.out) ?_
    clear hK K
    try simp only [Act.put, List.setIfInBounds_toArray, List.set_cons_zero, List.set_cons_succ]
    refine wpAnyE_take (i := 4) (v := ?_) [7] rfl (by kernel_rfl) (by kernel_rfl) (by kernel_rfl) (by kernel_rfl) (fun _ _ _ h => h) (Or.inl ⟨by rfl, ?_⟩) HS.out ?_
    rotate_left
    ·(intro W hSW; (try dsimp only at hSW); go_simp; try with_reducible rfl)
    try simp only [Act.put, List.setIfInBounds_toArray, List.set_cons_zero, List.set_cons_succ]
    refine wpAnyE_take (i := 5) (v := ?_) [6, 7] rfl (by kernel_rfl) (by kernel_rfl) (by kernel_rfl) (by kernel_rfl) (fun _ _ _ h => h) (Or.inl ⟨by rfl, ?_⟩) HS.out ?_
    rotate_left
    ·(intro W hSW; (try dsimp only at hSW); go_simp; try with_reducible rfl)
    try simp only [Act.put, List.setIfInBounds_toArray, List.set_cons_zero, List.set_cons_succ]
    refine wpAnyE_take (i := 6) (v := ?_) [7] rfl (by kernel_rfl) (by kernel_rfl) (by kernel_rfl) (by kernel_rfl) (fun _ _ _ h => h) (Or.inl ⟨by rfl, ?_⟩) HS.out ?_
    rotate_left
    ·(intro W hSW; (try dsimp only at hSW); go_simp; try with_reducible rfl)
    try simp only [Act.put, List.setIfInBounds_toArray, List.set_cons_zero, List.set_cons_succ]
    obtain ⟨⟨k0, y1⟩, y2, hx⟩ := H6.out.gput HLo.out
    have HX := hide hx
    clear hx HS
    refine wpAnyE_one (i := 7) (by kernel_rfl) rfl (fun K hK => ?_)
    go_simp
    refine hK.out _ _ (fun h => absurd rfl h) ?_
    clear hK K y1 y2
    refine wpAnyE_done (by kernel_rfl) ?_ _
    go_wp2_with fail
    go_meet
    case rel => exact ⟨_, _, _, _, _, _, ⟨_, _, _, rfl⟩, ⟨_, _, _, rfl⟩, (HX.out _).choose_spec⟩
   case inr.inr.inl =>
    go_wp2_with fail
    refine (below_any g a len cap (S0 g) _ _ hl hS0 HQ5.out.pp.cur ⟨by decide, by decide⟩).mono ?_
    rintro e w6 ⟨y, rfl, hy, hd6⟩
    have H6 := hide (HQ5.out.dr hd6)
    clear hd6
    obtain ⟨⟨k0, y1⟩, y2, hx⟩ := H6.out.kind HLo.out i hi
    have HX := hide hx
    clear hx
    go_wp2_with fail
    go_meet
    case rel => exact ⟨_, _, _, _, _, _, ⟨_, _, _, rfl⟩, ⟨_, _, _, rfl⟩, (HX.out _).choose_spec⟩
   case inr.inr.inr.inl =>
    go_wp2_with fail
    refine (HQ5.out.pick hl HLo.out [⟨#[97]⟩, ⟨#[103]⟩, ⟨#[122, 122]⟩, ⟨#[118, 49]⟩, ⟨#[]⟩, ⟨#[102]⟩] _ 6 rfl rfl (by decide) (by decide)).mono ?_
    rintro e w6 ⟨sx, hsx, rfl, hq⟩
    have H6 := hide hq
    have HSx := hide hsx
    clear hq hsx
    obtain ⟨⟨k0, y1⟩, y2, hx⟩ := H6.out.nm HLo.out i hi
    have HX := hide (hx _ HSx.out)
    clear hx
    go_wp2_with fail
    go_meet
    case rel => exact ⟨_, _, _, _, _, _, ⟨_, _, _, rfl⟩, ⟨_, _, _, rfl⟩, HX.out.choose_spec⟩
   case inr.inr.inr.inr.inl =>
    obtain ⟨⟨k0, y1⟩, y2, hx⟩ := HQ5.out.thn HLo.out i hi
    have HX := hide hx
    clear hx
    go_wp2_with fail
    go_meet
    case rel => exact ⟨_, _, _, _, _, _, ⟨_, _, _, rfl⟩, ⟨_, _, _, rfl⟩, (HX.out _).choose_spec⟩
   case inr.inr.inr.inr.inr.inl =>
    obtain ⟨⟨va, vn, vc, es, y2, hes, hNd⟩, -, -⟩ := (HQ5.out.alloc (.cells #[] 91)).ex HLo.out i hi
    obtain ⟨ua, un, uc, w6, r6, h6, hb6⟩ := nod_copy w5 va vn vc es (hNd _ (Tcs.refl _ _)) (le_big hes.1)
    have H6 := hide (HQ5.out.below hb6)
    have HSz6 := hide hb6.size
    have Hr6 := hide r6
    have HN6 := hide h6
    have HEs := hide hes
    clear r6 h6 hb6 hes hNd
    go_wp2_with (at_builtin; refine wpList_appG rfl (.tmp 93) (.tmp 98) _ rfl _ _ _ _ rfl rfl Hr6.out ?_)
    clear Hr6 y2
    refine (below_any g a len cap (S0 g) _ _ hl hS0 H6.out.pp.cur ⟨by decide, by decide⟩).mono ?_
    rintro e w7 ⟨y, rfl, hy, hd7⟩
    have H7 := hide (H6.out.dr hd7)
    have hN7 : NRow w5.heap.size w7 (.slice ua un uc) es := own_tcs HN6.out hd7.tcs HQ5.out.low
    obtain ⟨xa, xn, xc, w8, r8, -, h8, t8⟩ := nod_app hN7 (Nat.le_trans HSz6.out hd7.tcs.size) 6 (3 * y) ⟨#[]⟩ (le_big HEs.out.1)
    have H8 := hide (H7.out.new HLo.out t8 (fun k hk => hk) HQ5.out.hi)
    have Hr8 := hide r8
    have HN8 := hide h8
    clear hd7 hN7 r8 h8 t8
    obtain ⟨⟨va2, vn2, vc2, es2, y2, -, -⟩, y3, hx⟩ := H8.out.ex HLo.out i hi
    have HX := hide (hx _ _ _ HN8.out ⟨HQ5.out.hi.2.2.2, HQ5.out.hi.1, HQ5.out.hi.2.2.1⟩ ((HEs.out.app (okN.one (by decide))).more (by decide)))
    clear hx
    go_wp2_with (at_builtin; refine wpList_appG rfl (.tmp 99) (.tmp 104) _ rfl _ _ _ _ rfl rfl Hr8.out ?_)
    go_meet
    case rel => exact ⟨_, _, _, _, _, _, ⟨_, _, _, rfl⟩, ⟨_, _, _, rfl⟩, HX.out.choose_spec⟩
   case inr.inr.inr.inr.inr.inr.inl =>
    go_wp2_with fail
    refine (HQ5.out.pick hl HLo.out [⟨#[97]⟩, ⟨#[122, 122]⟩, ⟨#[118, 49]⟩, ⟨#[118, 50]⟩, ⟨#[102]⟩, ⟨#[103]⟩] _ 6 rfl rfl (by decide) (by decide)).mono ?_
    rintro e w6 ⟨sx, hsx, rfl, hq⟩
    have H6 := hide hq
    have HSx := hide hsx
    clear hq hsx
    obtain ⟨⟨va, vn, vc, es, y1, -, -⟩, y2, hx⟩ := (H6.out.alloc (.cells #[.int .i64 2, .int .i64 0, .string sx] 91)).ex HLo.out i hi
    have HX := hide (hx _ _ _ (nrow_lit w6 w6.heap.size (Nat.le_refl _) 2 0 sx) ⟨H6.out.hi.2.2.2, H6.out.hi.1, H6.out.hi.2.2.1⟩ ((okN.one HSx.out).more (by decide)))
    clear hx
    go_wp2_with fail
    go_meet
    case rel => exact ⟨_, _, _, _, _, _, ⟨_, _, _, rfl⟩, ⟨_, _, _, rfl⟩, HX.out.choose_spec⟩
   case inr.inr.inr.inr.inr.inr.inr.inl =>
    go_wp2_with fail
    refine (HQ5.out.pick hl HLo.out [⟨#[102]⟩, ⟨#[107]⟩, ⟨#[109, 97, 105, 110]⟩, ⟨#[110, 105, 108]⟩] _ 4 rfl rfl (by decide) (by decide)).mono ?_
    rintro e w6 ⟨sx, hsx, rfl, hq⟩
    have H6 := hide hq
    have HSx := hide hsx
    clear hq hsx
    obtain ⟨⟨va, vn, vc, es, y1, -, -⟩, y2, hx⟩ := (H6.out.alloc (.cells #[.int .i64 4, .int .i64 0, .string sx] 91)).ex HLo.out i hi
    have HX := hide (hx _ _ _ (nrow_lit w6 w6.heap.size (Nat.le_refl _) 4 0 sx) ⟨H6.out.hi.2.2.2, H6.out.hi.1, H6.out.hi.2.2.1⟩ ((okN.one HSx.out).more (by decide)))
    clear hx
    go_wp2_with fail
    go_meet
    case rel => exact ⟨_, _, _, _, _, _, ⟨_, _, _, rfl⟩, ⟨_, _, _, rfl⟩, HX.out.choose_spec⟩
   case inr.inr.inr.inr.inr.inr.inr.inr.inl =>
    obtain ⟨va, vn, vc, w6, r6, -, R', hR', h6⟩ := HQ5.out.rp.app HLo.out HQ5.out.rlen 8 4 0 ⟨#[]⟩ ⟨#[109, 97, 105, 110]⟩ (by decide) (by decide)
    have Hr6 := hide r6
    have H6 := hide (h6.cp (HQ5.out.rlen' hR'))
    clear r6 h6
    go_wp2_with (at_builtin; refine wpList_appG rfl (.tmp 132) (.tmp 136) _ rfl _ _ _ _ rfl rfl Hr6.out ?_)
    go_meet
    case rel => exact ⟨_, _, _, _, _, _, ⟨_, _, _, rfl⟩, ⟨_, _, _, rfl⟩, H6.out⟩
   case inr.inr.inr.inr.inr.inr.inr.inr.inr.inl =>
    go_upto_region 26 with fail
    have HS := hide ((HQ5.out.pp.box 1 _ rfl).1)
    have hfi : (0 : Int) ≤ (fn : Int) ∧ (fn : Int) < (fl : Int) := nat_int hfn
    refine wp_region_E 8 (fun W => W.cell? ⟨O, 1, none⟩ = some (.slice (some ⟨b', 0, none⟩) fl c')) (by kernel_rfl) ?_
    refine wpAnyE_take (i := 0) (v := ?_) [1, 6, 7, 8] rfl (by kernel_rfl) (by kernel_rfl) (by kernel_rfl) (by kernel_rfl) (fun _ _ _ h => h) (Or.inl ⟨by rfl, ?_⟩) HS.out ?_
    rotate_left
    ·(intro W hSW; (try dsimp only at hSW); go_simp; try with_reducible rfl)
    try simp only [Act.put, List.setIfInBounds_toArray, List.set_cons_zero, List.set_cons_succ]
    refine wpAnyE_take (i := 1) (v := ?_) [6, 7, 8] rfl (by kernel_rfl) (by kernel_rfl) (by kernel_rfl) (by kernel_rfl) (fun _ _ _ h => h) (Or.inl ⟨by rfl, ?_⟩) HS.out ?_
    rotate_left
    ·(intro W hSW; (try dsimp only at hSW); go_simp; try with_reducible rfl)
    try simp only [Act.put, List.setIfInBounds_toArray, List.set_cons_zero, List.set_cons_succ]
    refine wpAnyE_take (i := 2) (v := ?_) [6, 7, 8] rfl (by kernel_rfl) (by kernel_rfl) (by kernel_rfl) (by kernel_rfl) (fun _ _ _ h => h) (Or.inl ⟨by rfl, ?_⟩) HS.out ?_
    rotate_left
    ·(intro W hSW; (try dsimp only at hSW); go_simp; try with_reducible rfl)
    try simp only [Act.put, List.setIfInBounds_toArray, List.set_cons_zero, List.set_cons_succ]
    refine wpAnyE_take (i := 3) (v := ?_) [5, 8] rfl (by kernel_rfl) (by kernel_rfl) (by kernel_rfl) (by kernel_rfl) (fun _ _ _ h => h) (Or.inl ⟨by rfl, ?_⟩) HS.out ?_
    rotate_left
    ·(intro W hSW; (try dsimp only at hSW); go_simp; try with_reducible rfl)
    try simp only [Act.put, List.setIfInBounds_toArray, List.set_cons_zero, List.set_cons_succ]
    have HS3 := hide (((HQ5.out.drew).alloc (.cells #[.string ⟨#[109, 97, 105, 110]⟩, .string ⟨#[103]⟩, .string ⟨#[105, 110, 116]⟩, .string ⟨#[102]⟩] 9)).pp.box 1 _ rfl).1
    clear HS
    refine wpAnyE_one (i := 4) (by kernel_rfl) rfl (fun K hK => ?_)
    go_simp
    refine hK.out _ _ (fun _ => HS3.out) ?_
    clear hK K
    try simp only [Act.put, List.setIfInBounds_toArray, List.set_cons_zero, List.set_cons_succ]
    refine wpAnyE_one (i := 5) (by kernel_rfl) rfl (fun K hK => ?_)
    go_simp
    refine ((HQ5.out.drew).pick hl HLo.out [⟨#[109, 97, 105, 110]⟩, ⟨#[103]⟩, ⟨#[105, 110, 116]⟩, ⟨#[102]⟩] _ 4 rfl rfl (by decide) (by decide)).mono ?_
    rintro e w6 ⟨sx, hsx, rfl, hq⟩
    have H6 := hide hq
    have HSx := hide hsx
    clear hq hsx
    have HS := hide ((H6.out.pp.box 1 _ rfl).1)
    refine hK.out _ _ (fun _ => HS.out) ?_
    clear hK K HS3
    try simp only [Act.put, List.setIfInBounds_toArray, List.set_cons_zero, List.set_cons_succ]
    refine wpAnyE_take (i := 6) (v := ?_) [7, 8] rfl (by kernel_rfl) (by kernel_rfl) (by kernel_rfl) (by kernel_rfl) (fun _ _ _ h => h) (Or.inl ⟨by rfl, ?_⟩) HS.out ?_
    rotate_left
    ·(intro W hSW; (try dsimp only at hSW); go_simp; try with_reducible rfl)
    try simp only [Act.put, List.setIfInBounds_toArray, List.set_cons_zero, List.set_cons_succ]
    refine wpAnyE_take (i := 7) (v := ?_) [8] rfl (by kernel_rfl) (by kernel_rfl) (by kernel_rfl) (by kernel_rfl) (fun _ _ _ h => h) (Or.inl ⟨by rfl, ?_⟩) HS.out ?_
    rotate_left
    ·(intro W hSW; (try dsimp only at hSW); go_simp; try with_reducible rfl)
    try simp only [Act.put, List.setIfInBounds_toArray, List.set_cons_zero, List.set_cons_succ]
    obtain ⟨⟨k0, y1⟩, y2, hx⟩ := H6.out.fnm HLo.out fn hfn
    have HX := hide (hx _ HSx.out)
    clear hx HS
    refine wpAnyE_one (i := 8) (by kernel_rfl) rfl (fun K hK => ?_)
    go_simp
    refine hK.out _ _ (fun h => absurd rfl h) ?_
    clear hK K y1 y2
    refine wpAnyE_done (by kernel_rfl) ?_ _
    go_wp2_with fail
    go_meet
    case rel => exact ⟨_, _, _, _, _, _, ⟨_, _, _, rfl⟩, ⟨_, _, _, rfl⟩, HX.out.choose_spec⟩
   case inr.inr.inr.inr.inr.inr.inr.inr.inr.inr.inl =>
    go_upto_region 28 with fail
    obtain ⟨⟨va, vn, vc, ps, y1, hps, hSt⟩, -, -⟩ := HQ5.out.drew.fps HLo.out fn hfn
    have HPs := hide hps
    have HSt := hide hSt
    have HS := hide (And.intro (HQ5.out.drew.pp.box 1 _ rfl).1 y1)
    clear hps hSt y1
    have HQd := hide HQ5.out.drew
    have hfi : (0 : Int) ≤ (fn : Int) ∧ (fn : Int) < (fl : Int) := nat_int hfn
    refine wp_region_E 18 (fun W => W.cell? ⟨O, 1, none⟩ = some (.slice (some ⟨b', 0, none⟩) fl c') ∧ W.cell? ⟨b', fn * 3 + 1, none⟩ = some (.slice va vn vc)) (by kernel_rfl) ?_
    refine wpAnyE_take (i := 0) (v := ?_) [1, 16, 17, 18] rfl (by kernel_rfl) (by kernel_rfl) (by kernel_rfl) (by kernel_rfl) (fun _ _ _ h => h) (Or.inl ⟨by rfl, ?_⟩) HS.out ?_
    rotate_left
    ·(intro W hSW; (try dsimp only at hSW); go_simp; try with_reducible rfl)
    try simp only [Act.put, List.setIfInBounds_toArray, List.set_cons_zero, List.set_cons_succ]
    refine wpAnyE_take (i := 1) (v := ?_) [16, 17, 18] rfl (by kernel_rfl) (by kernel_rfl) (by kernel_rfl) (by kernel_rfl) (fun _ _ _ h => h) (Or.inl ⟨by rfl, ?_⟩) HS.out ?_
    rotate_left
    ·(intro W hSW; (try dsimp only at hSW); go_simp; try with_reducible rfl)
    try simp only [Act.put, List.setIfInBounds_toArray, List.set_cons_zero, List.set_cons_succ]
    refine wpAnyE_take (i := 2) (v := ?_) [16, 17, 18] rfl (by kernel_rfl) (by kernel_rfl) (by kernel_rfl) (by kernel_rfl) (fun _ _ _ h => h) (Or.inl ⟨by rfl, ?_⟩) HS.out ?_
    rotate_left
    ·(intro W hSW; (try dsimp only at hSW); go_simp; try with_reducible rfl)
    try simp only [Act.put, List.setIfInBounds_toArray, List.set_cons_zero, List.set_cons_succ]
    refine wpAnyE_take (i := 4) (v := ?_) [5, 7, 8, 9, 10, 13, 14, 15, 18] rfl (by kernel_rfl) (by kernel_rfl) (by kernel_rfl) (by kernel_rfl) (fun _ _ _ h => h) (Or.inl ⟨by rfl, ?_⟩) HS.out ?_
    rotate_left
    ·(intro W hSW; (try dsimp only at hSW); go_simp; try with_reducible rfl)
    try simp only [Act.put, List.setIfInBounds_toArray, List.set_cons_zero, List.set_cons_succ]
    refine wpAnyE_take (i := 5) (v := ?_) [7, 8, 9, 10, 13, 14, 15, 18] rfl (by kernel_rfl) (by kernel_rfl) (by kernel_rfl) (by kernel_rfl) (fun _ _ _ h => h) (Or.inl ⟨by rfl, ?_⟩) HS.out ?_
    rotate_left
    ·(intro W hSW; (try dsimp only at hSW); go_simp; try with_reducible rfl)
    try simp only [Act.put, List.setIfInBounds_toArray, List.set_cons_zero, List.set_cons_succ]
    refine wpAnyE_take (i := 6) (v := ?_) [7, 8, 9, 10, 13, 14, 15, 18] rfl (by kernel_rfl) (by kernel_rfl) (by kernel_rfl) (by kernel_rfl) (fun _ _ _ h => h) (Or.inl ⟨by rfl, ?_⟩) HS.out ?_
    rotate_left
    ·(intro W hSW; (try dsimp only at hSW); go_simp; try with_reducible rfl)
    try simp only [Act.put, List.setIfInBounds_toArray, List.set_cons_zero, List.set_cons_succ]
    refine wpAnyE_take (i := 7) (v := ?_) [8, 9, 10, 13, 14, 15, 18] rfl (by kernel_rfl) (by kernel_rfl) (by kernel_rfl) (by kernel_rfl) (fun _ _ _ h => h) (Or.inl ⟨by rfl, ?_⟩) HS.out ?_
    rotate_left
    ·(intro W hSW; (try dsimp only at hSW); go_simp; try with_reducible rfl)
    try simp only [Act.put, List.setIfInBounds_toArray, List.set_cons_zero, List.set_cons_succ]
    refine wpAnyE_take (i := 8) (v := ?_) [9, 10, 13, 14, 15, 18] rfl (by kernel_rfl) (by kernel_rfl) (by kernel_rfl) (by kernel_rfl) (fun _ _ _ h => h) (Or.inl ⟨by rfl, ?_⟩) HS.out ?_
    rotate_left
    ·(intro W hSW; (try dsimp only at hSW); go_simp; try with_reducible rfl)
    try simp only [Act.put, List.setIfInBounds_toArray, List.set_cons_zero, List.set_cons_succ]
    refine wpAnyE_take (i := 9) (v := ?_) [10, 13, 14, 15, 18] rfl (by kernel_rfl) (by kernel_rfl) (by kernel_rfl) (by kernel_rfl) (fun _ _ _ h => h) (Or.inl ⟨by rfl, ?_⟩) HS.out ?_
    rotate_left
    ·(intro W hSW; (try dsimp only at hSW); go_simp; try with_reducible rfl)
    try simp only [Act.put, List.setIfInBounds_toArray, List.set_cons_zero, List.set_cons_succ]
    refine wpAnyE_take (i := 11) (v := ?_) [13, 14, 15, 18] rfl (by kernel_rfl) (by kernel_rfl) (by kernel_rfl) (by kernel_rfl) (fun _ _ _ h => h) (Or.inl ⟨by rfl, ?_⟩) HS.out ?_
    rotate_left
    ·(intro W hSW; (try dsimp only at hSW); go_simp; try with_reducible rfl)
    try simp only [Act.put, List.setIfInBounds_toArray, List.set_cons_zero, List.set_cons_succ]
    refine wpAnyE_two (i := 3) (j := 12) (by kernel_rfl) rfl rfl (fun K hK => ?_) (fun K hK => ?_)
    ·have HT1 := hide ((Tcs.refl (fun k => k = g ∨ w5.drew.heap.size ≤ k) w5.drew).alloc (.cells #[] 9))
     go_simp
     refine hK.out _ _ (fun _ => HQd.out.keep HS.out HT1.out) ?_
     clear hK K
     try simp only [Act.put, List.setIfInBounds_toArray, List.set_cons_zero, List.set_cons_succ]
     refine wpAnyE_two (i := 10) (j := 12) (by kernel_rfl) rfl rfl (fun K hK => ?_) (fun K hK => ?_)
     ·obtain ⟨ua, un, uc, w7, r7, h7, t7, f7⟩ := str_copy (w := w5.drew.alloc (.cells #[] 9)) (B := w5.drew.heap.size) (e0 := w5.drew.heap.size) (World.ownsRow_lit w5.drew #[] 0 (Nat.le_refl _) (by decide) rfl) (size_alloc_le _ _) va vn vc ps (HSt.out _ ((Tcs.refl _ _).alloc _)) (le_20b HPs.out.1)
      have Hr7 := hide r7
      have HTx6 := hide (HT1.out.next t7 (fun k hk => .inl (.inr (eq_le hk))))
      have HX6 := hide ((HQd.out.alloc (.cells #[] 9)).new HLo.out t7 (fun k hk => eq_le hk) HQd.out.hi)
      have HRow6 := hide h7
      have HBx6 := hide (Nat.le_trans (size_alloc_le w5.drew (.cells #[] 9)) t7.size)
      clear r7 h7 t7 f7
      refine step_appR rfl (.tmp 153) (.tmp 159) 58 rfl (.slice (some ⟨w5.drew.heap.size, 0, none⟩) 0 0) (.slice va vn vc) (.slice ua un uc) w7 rfl rfl Hr7.out ?_
      refine hK.out _ _ (fun _ => HQd.out.keep HS.out HTx6.out) ?_
      clear hK K
      try simp only [Act.put, List.setIfInBounds_toArray, List.set_cons_zero, List.set_cons_succ]
      refine wpAnyE_one (i := 12) (by kernel_rfl) rfl (fun K hK => ?_)
      go_simp
      have HTX := hide (HTx6.out.alloc (.cells #[.string ⟨#[112, 48]⟩, .string ⟨#[103]⟩, .string ⟨#[119]⟩, .string ⟨#[120]⟩] 9))
      have HX := hide (HX6.out.alloc (.cells #[.string ⟨#[112, 48]⟩, .string ⟨#[103]⟩, .string ⟨#[119]⟩, .string ⟨#[120]⟩] 9))
      have HRow := hide (ownB HRow6.out ((Below.refl w7.heap.size w7).alloc (Nat.le_refl _) (.cells #[.string ⟨#[112, 48]⟩, .string ⟨#[103]⟩, .string ⟨#[119]⟩, .string ⟨#[120]⟩] 9)))
      have HLit := hide (lit_fz (S := S0 g) (w := w7) [⟨#[112, 48]⟩, ⟨#[103]⟩, ⟨#[119]⟩, ⟨#[120]⟩] #[.string ⟨#[112, 48]⟩, .string ⟨#[103]⟩, .string ⟨#[119]⟩, .string ⟨#[120]⟩] 4 rfl rfl (by decide) HX6.out.low)
      have HBX := hide (Nat.le_trans HBx6.out (size_alloc_le w7 (.cells #[.string ⟨#[112, 48]⟩, .string ⟨#[103]⟩, .string ⟨#[119]⟩, .string ⟨#[120]⟩] 9)))
      refine hK.out _ _ (fun _ => HQd.out.keep HS.out HTX.out) ?_
      clear hK K
      try simp only [Act.put, List.setIfInBounds_toArray, List.set_cons_zero, List.set_cons_succ]
      refine wpAnyE_one (i := 13) (by kernel_rfl) rfl (fun K hK => ?_)
      go_simp
      refine (pick_any g a len cap (S0 g) [⟨#[112, 48]⟩, ⟨#[103]⟩, ⟨#[119]⟩, ⟨#[120]⟩] _ _ hl hS0 HX.out.pp.cur HLit.out (by decide)).mono ?_
      rintro e w8 ⟨sx, hsx, rfl, hd8⟩
      have H8 := hide (HX.out.dr hd8)
      have HRow8 := hide (own_tcs HRow.out hd8.tcs HQd.out.low)
      have HT8 := hide (HTX.out.next hd8.tcs (fun k hk => .inl (.inl hk)))
      have HB8 := hide (Nat.le_trans HBX.out hd8.tcs.size)
      have HSx := hide (mem_small hsx (by decide))
      clear hsx hd8
      refine hK.out _ _ (fun _ => HQd.out.keep HS.out HT8.out) ?_
      clear hK K
      try simp only [Act.put, List.setIfInBounds_toArray, List.set_cons_zero, List.set_cons_succ]
      obtain ⟨xa, xn, xc, w9, r9, h9, t9⟩ := str_app HRow8.out HB8.out sx (le_20b HPs.out.1)
      have Hr9 := hide r9
      have HT8a := hide (HT8.out.alloc (.cells #[.string sx] 9))
      have HT9 := hide (HT8.out.next t9 (fun k hk => .inl (.inr hk)))
      have H9 := hide (H8.out.new HLo.out t9 (fun k hk => hk) HQd.out.hi)
      have HRow9 := hide h9
      clear r9 h9 t9
      refine wpAnyE_one (i := 14) (by kernel_rfl) rfl (fun K hK => ?_)
      go_simp
      refine hK.out _ _ (fun _ => HQd.out.keep HS.out HT8a.out) ?_
      clear hK K
      try simp only [Act.put, List.setIfInBounds_toArray, List.set_cons_zero, List.set_cons_succ]
      refine wpAnyE_one (i := 15) (by kernel_rfl) rfl (fun K hK => ?_)
      refine step_appR rfl (.tmp 160) (.tmp 164) 58 rfl (.slice ua un uc) (.slice (some ⟨w8.heap.size, 0, none⟩) 1 1) (.slice xa xn xc) w9 rfl rfl Hr9.out ?_
      refine hK.out _ _ (fun _ => HQd.out.keep HS.out HT9.out) ?_
      clear hK K
      try simp only [Act.put, List.setIfInBounds_toArray, List.set_cons_zero, List.set_cons_succ]
      have HSo := HS
      have HS := hide (HQd.out.keep HSo.out HT9.out)
      refine wpAnyE_take (i := 16) (v := ?_) [17, 18] rfl (by kernel_rfl) (by kernel_rfl) (by kernel_rfl) (by kernel_rfl) (fun _ _ _ h => h) (Or.inl ⟨by rfl, ?_⟩) HS.out ?_
      rotate_left
      ·(intro W hSW; (try dsimp only at hSW); go_simp; try with_reducible rfl)
      try simp only [Act.put, List.setIfInBounds_toArray, List.set_cons_zero, List.set_cons_succ]
      refine wpAnyE_take (i := 17) (v := ?_) [18] rfl (by kernel_rfl) (by kernel_rfl) (by kernel_rfl) (by kernel_rfl) (fun _ _ _ h => h) (Or.inl ⟨by rfl, ?_⟩) HS.out ?_
      rotate_left
      ·(intro W hSW; (try dsimp only at hSW); go_simp; try with_reducible rfl)
      try simp only [Act.put, List.setIfInBounds_toArray, List.set_cons_zero, List.set_cons_succ]
      obtain ⟨⟨va2, vn2, vc2, ps2, y1, -, -⟩, y2, hx⟩ := H9.out.fps HLo.out fn hfn
      have HX' := hide (hx _ _ _ HRow9.out ⟨HQd.out.hi.1, HQd.out.hi.2.2.1⟩ (ps_snoc HPs.out HSx.out))
      clear hx HS
      refine wpAnyE_one (i := 18) (by kernel_rfl) rfl (fun K hK => ?_)
      go_simp
      refine hK.out _ _ (fun h => absurd rfl h) ?_
      clear hK K y1 y2
      refine wpAnyE_done (by kernel_rfl) ?_ _
      go_wp2_with fail
      go_meet
      case rel => exact ⟨_, _, _, _, _, _, ⟨_, _, _, rfl⟩, ⟨_, _, _, rfl⟩, HX'.out.choose_spec⟩
     ·have HT2 := hide (HT1.out.alloc (.cells #[.string ⟨#[112, 48]⟩, .string ⟨#[103]⟩, .string ⟨#[119]⟩, .string ⟨#[120]⟩] 9))
      go_simp
      refine hK.out _ _ (fun _ => HQd.out.keep HS.out HT2.out) ?_
      clear hK K HT1 HT2
      try simp only [Act.put, List.setIfInBounds_toArray, List.set_cons_zero, List.set_cons_succ]
      obtain ⟨ua, un, uc, w7, r7, h7, t7, f7⟩ := str_copy (w := (w5.drew.alloc (.cells #[] 9)).alloc (.cells #[.string ⟨#[112, 48]⟩, .string ⟨#[103]⟩, .string ⟨#[119]⟩, .string ⟨#[120]⟩] 9)) (B := w5.drew.heap.size) (e0 := w5.drew.heap.size) (ownB (World.ownsRow_lit w5.drew #[] 0 (Nat.le_refl _) (by decide) rfl) ((Below.refl _ _).alloc (Nat.le_refl _) _)) (size_2 _ _ _) va vn vc ps (HSt.out _ (((Tcs.refl _ _).alloc _).alloc _)) (le_20b HPs.out.1)
      have Hr7 := hide r7
      have HT2 := hide (((Tcs.refl (fun k => k = g ∨ w5.drew.heap.size ≤ k) w5.drew).alloc (.cells #[] 9)).alloc (.cells #[.string ⟨#[112, 48]⟩, .string ⟨#[103]⟩, .string ⟨#[119]⟩, .string ⟨#[120]⟩] 9))
      have HTX := hide (HT2.out.next t7 (fun k hk => .inl (.inr (eq_le hk))))
      have HX := hide ((HQd.out.alloc (.cells #[] 9)).alloc (.cells #[.string ⟨#[112, 48]⟩, .string ⟨#[103]⟩, .string ⟨#[119]⟩, .string ⟨#[120]⟩] 9) |>.new HLo.out t7 (fun k hk => eq_le hk) HQd.out.hi)
      have HRow := hide h7
      have HLit := hide (lit_a (g := g) [⟨#[112, 48]⟩, ⟨#[103]⟩, ⟨#[119]⟩, ⟨#[120]⟩] #[.string ⟨#[112, 48]⟩, .string ⟨#[103]⟩, .string ⟨#[119]⟩, .string ⟨#[120]⟩] rfl (HQd.out.low g rfl) t7)
      have HBX := hide (Nat.le_trans (size_2 w5.drew (.cells #[] 9) (.cells #[.string ⟨#[112, 48]⟩, .string ⟨#[103]⟩, .string ⟨#[119]⟩, .string ⟨#[120]⟩] 9)) t7.size)
      clear r7 h7 t7 f7
      refine wpAnyE_one (i := 10) (by kernel_rfl) rfl (fun K hK => ?_)
      refine step_appR rfl (.tmp 153) (.tmp 159) 58 rfl (.slice (some ⟨w5.drew.heap.size, 0, none⟩) 0 0) (.slice va vn vc) (.slice ua un uc) w7 rfl rfl Hr7.out ?_
      refine hK.out _ _ (fun _ => HQd.out.keep HS.out HTX.out) ?_
      clear hK K
      try simp only [Act.put, List.setIfInBounds_toArray, List.set_cons_zero, List.set_cons_succ]
      refine wpAnyE_one (i := 13) (by kernel_rfl) rfl (fun K hK => ?_)
      go_simp
      refine (pick_any g a len cap (S0 g) [⟨#[112, 48]⟩, ⟨#[103]⟩, ⟨#[119]⟩, ⟨#[120]⟩] _ _ hl hS0 HX.out.pp.cur HLit.out (by decide)).mono ?_
      rintro e w8 ⟨sx, hsx, rfl, hd8⟩
      have H8 := hide (HX.out.dr hd8)
      have HRow8 := hide (own_tcs HRow.out hd8.tcs HQd.out.low)
      have HT8 := hide (HTX.out.next hd8.tcs (fun k hk => .inl (.inl hk)))
      have HB8 := hide (Nat.le_trans HBX.out hd8.tcs.size)
      have HSx := hide (mem_small hsx (by decide))
      clear hsx hd8
      refine hK.out _ _ (fun _ => HQd.out.keep HS.out HT8.out) ?_
      clear hK K
      try simp only [Act.put, List.setIfInBounds_toArray, List.set_cons_zero, List.set_cons_succ]
      obtain ⟨xa, xn, xc, w9, r9, h9, t9⟩ := str_app HRow8.out HB8.out sx (le_20b HPs.out.1)
      have Hr9 := hide r9
      have HT8a := hide (HT8.out.alloc (.cells #[.string sx] 9))
      have HT9 := hide (HT8.out.next t9 (fun k hk => .inl (.inr hk)))
      have H9 := hide (H8.out.new HLo.out t9 (fun k hk => hk) HQd.out.hi)
      have HRow9 := hide h9
      clear r9 h9 t9
      refine wpAnyE_one (i := 14) (by kernel_rfl) rfl (fun K hK => ?_)
      go_simp
      refine hK.out _ _ (fun _ => HQd.out.keep HS.out HT8a.out) ?_
      clear hK K
      try simp only [Act.put, List.setIfInBounds_toArray, List.set_cons_zero, List.set_cons_succ]
      refine wpAnyE_one (i := 15) (by kernel_rfl) rfl (fun K hK => ?_)
      refine step_appR rfl (.tmp 160) (.tmp 164) 58 rfl (.slice ua un uc) (.slice (some ⟨w8.heap.size, 0, none⟩) 1 1) (.slice xa xn xc) w9 rfl rfl Hr9.out ?_
      refine hK.out _ _ (fun _ => HQd.out.keep HS.out HT9.out) ?_
      clear hK K
      try simp only [Act.put, List.setIfInBounds_toArray, List.set_cons_zero, List.set_cons_succ]
      have HSo := HS
      have HS := hide (HQd.out.keep HSo.out HT9.out)
      refine wpAnyE_take (i := 16) (v := ?_) [17, 18] rfl (by kernel_rfl) (by kernel_rfl) (by kernel_rfl) (by kernel_rfl) (fun _ _ _ h => h) (Or.inl ⟨by rfl, ?_⟩) HS.out ?_
      rotate_left
      ·(intro W hSW; (try dsimp only at hSW); go_simp; try with_reducible rfl)
      try simp only [Act.put, List.setIfInBounds_toArray, List.set_cons_zero, List.set_cons_succ]
      refine wpAnyE_take (i := 17) (v := ?_) [18] rfl (by kernel_rfl) (by kernel_rfl) (by kernel_rfl) (by kernel_rfl) (fun _ _ _ h => h) (Or.inl ⟨by rfl, ?_⟩) HS.out ?_
      rotate_left
      ·(intro W hSW; (try dsimp only at hSW); go_simp; try with_reducible rfl)
      try simp only [Act.put, List.setIfInBounds_toArray, List.set_cons_zero, List.set_cons_succ]
      obtain ⟨⟨va2, vn2, vc2, ps2, y1, -, -⟩, y2, hx⟩ := H9.out.fps HLo.out fn hfn
      have HX' := hide (hx _ _ _ HRow9.out ⟨HQd.out.hi.1, HQd.out.hi.2.2.1⟩ (ps_snoc HPs.out HSx.out))
      clear hx HS
      refine wpAnyE_one (i := 18) (by kernel_rfl) rfl (fun K hK => ?_)
      go_simp
      refine hK.out _ _ (fun h => absurd rfl h) ?_
      clear hK K y1 y2
      refine wpAnyE_done (by kernel_rfl) ?_ _
      go_wp2_with fail
      go_meet
      case rel => exact ⟨_, _, _, _, _, _, ⟨_, _, _, rfl⟩, ⟨_, _, _, rfl⟩, HX'.out.choose_spec⟩
    ·have HT1 := hide ((Tcs.refl (fun k => k = g ∨ w5.drew.heap.size ≤ k) w5.drew).alloc (.cells #[.string ⟨#[112, 48]⟩, .string ⟨#[103]⟩, .string ⟨#[119]⟩, .string ⟨#[120]⟩] 9))
     go_simp
     refine hK.out _ _ (fun _ => HQd.out.keep HS.out HT1.out) ?_
     clear hK K
     try simp only [Act.put, List.setIfInBounds_toArray, List.set_cons_zero, List.set_cons_succ]
     refine wpAnyE_one (i := 3) (by kernel_rfl) rfl (fun K hK => ?_)
     have HT2 := hide (HT1.out.alloc (.cells #[] 9))
     go_simp
     refine hK.out _ _ (fun _ => HQd.out.keep HS.out HT2.out) ?_
     clear hK K HT1 HT2
     try simp only [Act.put, List.setIfInBounds_toArray, List.set_cons_zero, List.set_cons_succ]
     obtain ⟨ua, un, uc, w7, r7, h7, t7, f7⟩ := str_copy (w := (w5.drew.alloc (.cells #[.string ⟨#[112, 48]⟩, .string ⟨#[103]⟩, .string ⟨#[119]⟩, .string ⟨#[120]⟩] 9)).alloc (.cells #[] 9)) (B := w5.drew.heap.size) (e0 := w5.drew.heap.size + 1) (lit_e w5.drew (.cells #[.string ⟨#[112, 48]⟩, .string ⟨#[103]⟩, .string ⟨#[119]⟩, .string ⟨#[120]⟩] 9)) (size_2 _ _ _) va vn vc ps (HSt.out _ (((Tcs.refl _ _).alloc _).alloc _)) (le_20b HPs.out.1)
     have Hr7 := hide r7
     have HT2 := hide (((Tcs.refl (fun k => k = g ∨ w5.drew.heap.size ≤ k) w5.drew).alloc (.cells #[.string ⟨#[112, 48]⟩, .string ⟨#[103]⟩, .string ⟨#[119]⟩, .string ⟨#[120]⟩] 9)).alloc (.cells #[] 9))
     have HTX := hide (HT2.out.next t7 (fun k hk => .inl (.inr (eq_le1 hk))))
     have HX := hide ((HQd.out.alloc (.cells #[.string ⟨#[112, 48]⟩, .string ⟨#[103]⟩, .string ⟨#[119]⟩, .string ⟨#[120]⟩] 9)).alloc (.cells #[] 9) |>.new HLo.out t7 (fun k hk => eq_le1 hk) HQd.out.hi)
     have HRow := hide h7
     have HLit := hide (lit_b (g := g) [⟨#[112, 48]⟩, ⟨#[103]⟩, ⟨#[119]⟩, ⟨#[120]⟩] #[.string ⟨#[112, 48]⟩, .string ⟨#[103]⟩, .string ⟨#[119]⟩, .string ⟨#[120]⟩] rfl (HQd.out.low g rfl) t7)
     have HBX := hide (Nat.le_trans (size_2 w5.drew (.cells #[.string ⟨#[112, 48]⟩, .string ⟨#[103]⟩, .string ⟨#[119]⟩, .string ⟨#[120]⟩] 9) (.cells #[] 9)) t7.size)
     clear r7 h7 t7 f7
     refine wpAnyE_one (i := 10) (by kernel_rfl) rfl (fun K hK => ?_)
     refine step_appR rfl (.tmp 153) (.tmp 159) 58 rfl (.slice (some ⟨w5.drew.heap.size + 1, 0, none⟩) 0 0) (.slice va vn vc) (.slice ua un uc) w7 rfl rfl Hr7.out ?_
     refine hK.out _ _ (fun _ => HQd.out.keep HS.out HTX.out) ?_
     clear hK K
     try simp only [Act.put, List.setIfInBounds_toArray, List.set_cons_zero, List.set_cons_succ]
     refine wpAnyE_one (i := 13) (by kernel_rfl) rfl (fun K hK => ?_)
     go_simp
     refine (pick_any g a len cap (S0 g) [⟨#[112, 48]⟩, ⟨#[103]⟩, ⟨#[119]⟩, ⟨#[120]⟩] _ _ hl hS0 HX.out.pp.cur HLit.out (by decide)).mono ?_
     rintro e w8 ⟨sx, hsx, rfl, hd8⟩
     have H8 := hide (HX.out.dr hd8)
     have HRow8 := hide (own_tcs HRow.out hd8.tcs HQd.out.low)
     have HT8 := hide (HTX.out.next hd8.tcs (fun k hk => .inl (.inl hk)))
     have HB8 := hide (Nat.le_trans HBX.out hd8.tcs.size)
     have HSx := hide (mem_small hsx (by decide))
     clear hsx hd8
     refine hK.out _ _ (fun _ => HQd.out.keep HS.out HT8.out) ?_
     clear hK K
     try simp only [Act.put, List.setIfInBounds_toArray, List.set_cons_zero, List.set_cons_succ]
     obtain ⟨xa, xn, xc, w9, r9, h9, t9⟩ := str_app HRow8.out HB8.out sx (le_20b HPs.out.1)
     have Hr9 := hide r9
     have HT8a := hide (HT8.out.alloc (.cells #[.string sx] 9))
     have HT9 := hide (HT8.out.next t9 (fun k hk => .inl (.inr hk)))
     have H9 := hide (H8.out.new HLo.out t9 (fun k hk => hk) HQd.out.hi)
     have HRow9 := hide h9
     clear r9 h9 t9
     refine wpAnyE_one (i := 14) (by kernel_rfl) rfl (fun K hK => ?_)
     go_simp
     refine hK.out _ _ (fun _ => HQd.out.keep HS.out HT8a.out) ?_
     clear hK K
     try simp only [Act.put, List.setIfInBounds_toArray, List.set_cons_zero, List.set_cons_succ]
     refine wpAnyE_one (i := 15) (by kernel_rfl) rfl (fun K hK => ?_)
     refine step_appR rfl (.tmp 160) (.tmp 164) 58 rfl (.slice ua un uc) (.slice (some ⟨w8.heap.size, 0, none⟩) 1 1) (.slice xa xn xc) w9 rfl rfl Hr9.out ?_
     refine hK.out _ _ (fun _ => HQd.out.keep HS.out HT9.out) ?_
     clear hK K
     try simp only [Act.put, List.setIfInBounds_toArray, List.set_cons_zero, List.set_cons_succ]
     have HSo := HS
     have HS := hide (HQd.out.keep HSo.out HT9.out)
     refine wpAnyE_take (i := 16) (v := ?_) [17, 18] rfl (by kernel_rfl) (by kernel_rfl) (by kernel_rfl) (by kernel_rfl) (fun _ _ _ h => h) (Or.inl ⟨by rfl, ?_⟩) HS.out ?_
     rotate_left
     ·(intro W hSW; (try dsimp only at hSW); go_simp; try with_reducible rfl)
     try simp only [Act.put, List.setIfInBounds_toArray, List.set_cons_zero, List.set_cons_succ]
     refine wpAnyE_take (i := 17) (v := ?_) [18] rfl (by kernel_rfl) (by kernel_rfl) (by kernel_rfl) (by kernel_rfl) (fun _ _ _ h => h) (Or.inl ⟨by rfl, ?_⟩) HS.out ?_
     rotate_left
     ·(intro W hSW; (try dsimp only at hSW); go_simp; try with_reducible rfl)
     try simp only [Act.put, List.setIfInBounds_toArray, List.set_cons_zero, List.set_cons_succ]
     obtain ⟨⟨va2, vn2, vc2, ps2, y1, -, -⟩, y2, hx⟩ := H9.out.fps HLo.out fn hfn
     have HX' := hide (hx _ _ _ HRow9.out ⟨HQd.out.hi.1, HQd.out.hi.2.2.1⟩ (ps_snoc HPs.out HSx.out))
     clear hx HS
     refine wpAnyE_one (i := 18) (by kernel_rfl) rfl (fun K hK => ?_)
     go_simp
     refine hK.out _ _ (fun h => absurd rfl h) ?_
     clear hK K y1 y2
     refine wpAnyE_done (by kernel_rfl) ?_ _
     go_wp2_with fail
     go_meet
     case rel => exact ⟨_, _, _, _, _, _, ⟨_, _, _, rfl⟩, ⟨_, _, _, rfl⟩, HX'.out.choose_spec⟩
   case inr.inr.inr.inr.inr.inr.inr.inr.inr.inr.inr.inl =>
    have HR0 := hide HQ5.out.rp
    have HRl := hide HQ5.out.rl
    go_wp2_with fail
    go_loopw [7] (fun u wr => ∃ va vn vc R', u = .slice va vn vc ∧ vn = R'.length ∧ R'.length ≤ 10000 ∧ RP g M a len cap O R4 N fl gl w wr b c b' c' t.globals Q u R') (fun u _ => 502 - (lenS u))
    case atStart => exact ⟨_, _, _, R, rfl, HRl.out.1.symm, HRl.out.1 ▸ HRl.out.2.2, HR0.out⟩
    case round =>
     obtain ⟨va, vn, vc, R', rfl, hvn, hR', hrp⟩ := hrel
     have H5 := hide hrp
     have HV := hide hvn
     have hR3 : (vn : Int) ≤ 10000 := by rw [hvn]; exact Int.ofNat_le.2 hR'
     clear hrp hvn HR0 HRl
     go_wp2_with fail
     refine (below_any g a len cap (S0 g) _ _ hl hS0 H5.out.pp.cur ⟨by decide, by decide⟩).mono ?_
     rintro e w6 ⟨y, rfl, hy, hd6⟩
     have H6 := hide (H5.out.dr hd6)
     clear hd6
     by_cases hlt : (vn : Int) < 500 + y
     ·obtain ⟨xa, xn, xc, w7, r7, hxn, R7, hR7, h7⟩ := H6.out.app HLo.out (le_15 hR') 7 1 0 ⟨#[]⟩ ⟨#[]⟩ (by decide) (by decide)
      have Hr7 := hide r7
      have H7 := hide h7
      have HN := hide (loop_next hy.2 hlt HV.out hxn hR7)
      clear r7 h7 hxn hR7
      go_wp2_with (at_builtin; refine wpList_appG rfl (.tmp 176) (.tmp 180) _ rfl _ _ _ _ rfl rfl Hr7.out ?_)
      go_roundw
      case rel => exact ⟨_, _, _, R7, rfl, HN.out.1, HN.out.2.1, H7.out⟩
      case measure => exact HN.out.2.2
     ·have HC := hide (H6.out.cp (le_20 hR'))
      go_wp2_with fail
      go_meet
      case rel => exact ⟨_, _, _, _, _, _, ⟨_, _, _, rfl⟩, ⟨_, _, _, rfl⟩, HC.out⟩
   case inr.inr.inr.inr.inr.inr.inr.inr.inr.inr.inr.inr.inl =>
    go_wp2_with fail
    have HW0 := hide (nrow_lit w5 w5.heap.size (Nat.le_refl _) 1 (-5) ⟨#[]⟩)
    go_loopw [10] (fun u wr => ∃ va vn vc ns, u = .slice va vn vc ∧ vn = ns.length ∧ ns.length ≤ 2100 ∧ NRow w5.heap.size wr u ns ∧ okN ns 2100 ∧ w5.heap.size ≤ wr.heap.size ∧ QP g M a len cap O R4 N fl gl w wr b c b' c' t.globals Q bb bn cap' R) (fun u _ => 2100 - (lenS u))
    case atStart => exact ⟨_, _, _, [⟨1, -5, ⟨#[]⟩⟩], rfl, rfl, by decide, HW0.out, (okN.one (by decide)).more (by decide), size_alloc_le _ _, HQ5.out.alloc _⟩
    case round =>
     obtain ⟨va, vn, vc, ns, rfl, hvn, hns, hr, hok, hsz, hq⟩ := hrel
     have H5 := hide hq
     have HV := hide hvn
     have HN5 := hide hr
     have HOk := hide hok
     have HSz := hide hsz
     have hR3 : (vn : Int) ≤ 2100 := by rw [hvn]; exact Int.ofNat_le.2 hns
     clear hq hvn hr hok hsz
     go_wp2_with fail
     refine (below_any g a len cap (S0 g) _ _ hl hS0 H5.out.pp.cur ⟨by decide, by decide⟩).mono ?_
     rintro e w6 ⟨y, rfl, hy, hd6⟩
     have H6 := hide (H5.out.dr hd6)
     have hN6 : NRow w5.heap.size w6 (.slice va vn vc) ns := own_tcs HN5.out hd6.tcs HQ5.out.low
     have HSz6 := hide (Nat.le_trans HSz.out hd6.tcs.size)
     have HN6 := hide hN6
     clear hd6 hN6
     by_cases hlt : (vn : Int) < 1960 + y
     ·obtain ⟨xa, xn, xc, w7, r7, hxn, h7, t7⟩ := nod_app HN6.out HSz6.out 6 0 ⟨#[]⟩ (le_big2 hns)
      have Hr7 := hide r7
      have HN7 := hide h7
      have H7 := hide (H6.out.new HLo.out t7 (fun k hk => hk) HQ5.out.hi)
      have HN := hide (loop_next2 (k := 6) (x := 0) (s := ⟨#[]⟩) hy.2 hlt HV.out hxn HOk.out (by decide))
      have HSz7 := hide (Nat.le_trans HSz6.out t7.size)
      clear r7 h7 hxn t7
      go_wp2_with (at_builtin; refine wpList_appG rfl (.tmp 192) (.tmp 194) _ rfl _ _ _ _ rfl rfl Hr7.out ?_)
      go_roundw
      case rel => exact ⟨_, _, _, _, rfl, HN.out.1, HN.out.2.1, HN7.out, HN.out.2.2.1, HSz7.out, H7.out⟩
      case measure => exact HN.out.2.2.2
     ·obtain ⟨⟨va2, vn2, vc2, es2, y2, -, -⟩, y3, hx⟩ := H6.out.ex HLo.out i hi
      have HX := hide (hx _ _ _ HN6.out ⟨HQ5.out.hi.2.2.2, HQ5.out.hi.1, HQ5.out.hi.2.2.1⟩ (HOk.out.more (by decide)))
      clear hx
      go_wp2_with fail
      go_meet
      case rel => exact ⟨_, _, _, _, _, _, ⟨_, _, _, rfl⟩, ⟨_, _, _, rfl⟩, HX.out.choose_spec⟩
   case inr.inr.inr.inr.inr.inr.inr.inr.inr.inr.inr.inr.inr =>
    go_wp2_with fail
    refine (HQ5.out.pick hl HLo.out [⟨#[118, 49]⟩, ⟨#[103]⟩, ⟨#[112, 48]⟩, ⟨#[110, 101, 119]⟩] _ 4 rfl rfl (by decide) (by decide)).mono ?_
    rintro e w6 ⟨sx, hsx, rfl, hq⟩
    have H6 := hide hq
    have HSx := hide hsx
    clear hq hsx
    obtain ⟨va, vn, vc, w7, r7, -, R', hR', h7⟩ := H6.out.rp.app HLo.out H6.out.rlen 1 1 0 sx ⟨#[]⟩ HSx.out (by decide)
    have Hr7 := hide r7
    have H7 := hide (h7.cp (H6.out.rlen' hR'))
    clear r7 h7
    go_wp2_with (at_builtin; refine wpList_appG rfl (.tmp 203) (.tmp 210) _ rfl _ _ _ _ rfl rfl Hr7.out ?_)
    go_meet
    case rel => exact ⟨_, _, _, _, _, _, ⟨_, _, _, rfl⟩, ⟨_, _, _, rfl⟩, H7.out⟩
  case rest =>
   obtain ⟨vg1, bF, cF, gs1, Q1, R1, ⟨xa, xn, xc, rfl⟩, ⟨ya, yn, yc, rfl⟩, hCP⟩ := hcut
   obtain ⟨⟨c0, ⟨old, c1⟩, c1z⟩, W6, hW6, hO6, hR6, W7, hW7, hR7, ht7, hd7⟩ := spoil_fin hCP HLo.out fn hfn
   have HW6 := hide hW6
   have HW7 := hide hW7
   have o0 := (hO6 0 _ rfl).1
   have o1 := (hO6 1 _ rfl).1
   have r0 := (hR6 0 _ rfl).1
   have r0z := (hR6 0 _ rfl).2
   have r1 := (hR6 1 _ rfl).1
   have r1z := (hR6 1 _ rfl).2
   have H7 := hide (And.intro (And.intro (hR7 0 _ rfl).1 (hR7 1 _ rfl).1) (And.intro ht7 hd7))
   clear hW6 hW7 hO6 hR6 hR7 ht7 hd7 hCP HQ5
   go_upto_region 40 with fail
   rw [← HW6.out]
   clear c0 c1 c1z HW6
   go_wp2_with fail
   rw [← HW7.out]
   refine bodyPost_ret (by simp [results, Tryz.results21, go_sem, H7.out.1.1, H7.out.1.2]; try rfl) rfl ?_
   exact ⟨_, _, rfl, H7.out.2.1, H7.out.2.2⟩
end
section
open Go.RowKit
theorem td_shape {S : Nat → Prop} {w : World} {vg vf : Value} {t : Tr} (h : TD S w vg vf t) : ∃ ga gn gc fa fn fc, vg = .slice ga gn gc ∧ vf = .slice fa fn fc := by
 obtain ⟨ga, gc, e, -⟩ := h.gs w (Tcs.refl _ _)
 obtain ⟨fb, foff, fc, Q, ef, -⟩ := h.fs
 exact ⟨_, _, _, _, _, _, e, ef⟩
theorem tw_shape {S : Nat → Prop} {w : World} {vg vf : Value} {t : Tr} (h : TW S w vg vf t) : ∃ ga gn gc fa fn fc, vg = .slice ga gn gc ∧ vf = .slice fa fn fc := by
 obtain ⟨ga, gc, e, -⟩ := h.gs w (Tcs.refl _ _)
 obtain ⟨fa, fc, ef, -⟩ := h.fs w (Tcs.refl _ _)
 exact ⟨_, _, _, _, _, _, e, ef⟩
theorem TW.less {S S' : Nat → Prop} {w : World} {vg vf : Value} {t : Tr} (h : TW S w vg vf t) (hs : ∀ k, S' k → S k) : TW S' w vg vf t := ⟨fun W hW => h.gs W (hW.mono hs), fun W hW => h.fs W (hW.mono hs), h.gl, h.gn, h.fl, h.ok⟩
theorem res_box (w : World) : ∃ W0 R2, W0 = w.alloc (.cells #[.slice none 0 0, .slice none 0 0] 26) ∧ R2 = w.heap.size ∧ FrC W0 R2 [.slice none 0 0, .slice none 0 0] ∧ Below w.heap.size w W0 ∧ W0.heap.size = w.heap.size + 1 :=
 ⟨_, _, rfl, rfl, box_fr w _ _ (by simp), (Below.refl _ _).alloc (Nat.le_refl _) _, by simp⟩
theorem res_put {M R2 : Nat} {w3 : World} {o1 o2 vg vf : Value} {t : Tr} (hf : FrC w3 R2 [o1, o2]) (ht : TW (fun k => k < M) w3 vg vf t) (hR : R2 < M) :
  (w3.cell? ⟨R2, 0, none⟩ = some o1 ∧ w3.frozen? ⟨R2, 0, none⟩ = false ∧ w3.cell? ⟨R2, 1, none⟩ = some o2 ∧ w3.frozen? ⟨R2, 1, none⟩ = false) ∧ ∃ W, W = (w3.setCell ⟨R2, 0, none⟩ vg).setCell ⟨R2, 1, none⟩ vf ∧ (W.cell? ⟨R2, 0, none⟩ = some vg ∧ W.cell? ⟨R2, 1, none⟩ = some vf) ∧ TW (fun k => k < M) W vg vf t ∧ Tcs (fun k => k = R2) w3 W := by
 have hf2 := (hf.set 0 vg).set 1 vf
 have tS : Tcs (fun k => k = R2) w3 ((w3.setCell ⟨R2, 0, none⟩ vg).setCell ⟨R2, 1, none⟩ vf) := ((Tcs.refl (fun k => k = R2) w3).setCell (p := ⟨R2, 0, none⟩) rfl _).setCell (p := ⟨R2, 1, none⟩) rfl _
 exact ⟨⟨(hf 0 _ rfl).1, (hf 0 _ rfl).2, (hf 1 _ rfl).1, (hf 1 _ rfl).2⟩, _, rfl, ⟨(hf2 0 _ rfl).1, (hf2 1 _ rfl).1⟩, ht.tcs (tS.mono fun k hk => by omega), tS⟩
end
section
open Go.RowKit
set_option maxRecDepth 100000 in
set_option maxHeartbeats 4000000 in
theorem anytree_any (g : Nat) (a : Option Addr) (len cap : Nat) (w : World) (hl : len ≤ 1048576) (hL : Lo g a len (S0 g) w.heap.size) (hc : Cur g a len cap w) :
  Calls Tryz.prog 35 #[.pointer (some ⟨g, 0, none⟩)] w fun e w' => ∃ vg vf, e = .returned (.agg #[vg, vf]) ∧ (∃ t, TW (fun k => k < w.heap.size) w' vg vf t) ∧ Dr g a len cap (S0 g) w w' := by
 have hS0 : S0 g g := rfl
 have hgl := hL.gl
 have HLo := hide hL
 obtain ⟨W0, R2, hW0, hR2, hf, hb0, hs0⟩ := res_box w
 have HW0 := hide hW0
 have HR2 := hide hR2
 have HF := hide hf
 have HB0 := hide hb0
 have HS0 : Hid (W0.heap.size = w.heap.size + 1) := hs0
 have HC0 := hide (hc.below hb0)
 clear hW0 hR2 hf hb0 hs0 hc hL
 go_enter Tryz.func35, Tryz.ntmps35
 go_upto_region 1 with fail
 rw [← HW0.out, ← HR2.out]
 clear HW0
 go_wp2_with fail
 refine (tree_any g a len cap W0 hl (HLo.out.mono (by have := HS0.out; omega)) HC0.out).mono ?_
 rintro e w1 ⟨vg, vf, rfl, ⟨t, ht⟩, hd1⟩
 obtain ⟨ga, gn, gc, fa, fn, fc, rfl, rfl⟩ := td_shape ht
 have hs1 := hd1.tcs.size
 obtain ⟨W1, hW1⟩ : ∃ W1, W1 = w1.alloc (.cells #[.slice ga gn gc, .slice fa fn fc] 26) := ⟨_, rfl⟩
 have hb1 : Below w1.heap.size w1 W1 := by rw [hW1]; exact (Below.refl _ _).alloc (Nat.le_refl _) _
 have HT1 := hide (ht.tcs hb1.tcs)
 have HD1 := hide (hd1.below hb1)
 have hf4 : FrC W1 w1.heap.size [.slice ga gn gc, .slice fa fn fc] := by rw [hW1]; exact box_fr w1 _ _ (by simp)
 have hf2 : FrC W1 R2 [.slice none 0 0, .slice none 0 0] := (HF.out.tcs (by have := HS0.out; have := HR2.out; omega) hd1.tcs (fun e => by have e : R2 = g := e; have := HR2.out; omega)).below hb1
 have hw4 : w1.heap.size < W1.heap.size := by rw [hW1]; simp
 have H4 := hide hf4
 have H2 := hide hf2
 have HW1 := hide hW1
 clear hd1 ht hW1 hf4 hf2 hb1 HF
 obtain ⟨B4, hB4⟩ : ∃ B4, B4 = w1.heap.size := ⟨_, rfl⟩
 have HB4 := hide hB4
 clear hB4
 go_upto_region 2 with fail
 rw [← HW1.out, ← HB4.out]
 clear HW1
 go_wp2_with fail
 refine (once_any g a len cap (S0 g) _ _ hl hS0 HD1.out.cur ⟨by decide, by decide⟩).mono ?_
 rintro e w2 ⟨x, rfl, hd2⟩
 have hs2 := hd2.tcs.size
 have hgM : g < W0.heap.size := by have := HS0.out; omega
 have HT2 := hide (HT1.out.tcs (hd2.tcs.mono fun k hk => by have e : k = g := hk; omega))
 have HD2 := hide (HD1.out.trans hd2)
 have hf4 : FrC w2 B4 [.slice ga gn gc, .slice fa fn fc] := by have := H4.out; rw [← HB4.out] at this; exact this.tcs (by have := HB4.out; omega) hd2.tcs (fun e => by have e : B4 = g := e; have := HB4.out; omega)
 have hf2 : FrC w2 R2 [.slice none 0 0, .slice none 0 0] := H2.out.tcs (by have := HS0.out; have := HR2.out; omega) hd2.tcs (fun e => by have e : R2 = g := e; have := HR2.out; omega)
 have p0 := (hf4 0 _ rfl).1
 have p1 := (hf4 1 _ rfl).1
 have H2' := hide hf2
 have hRM : R2 < W0.heap.size := by have := HS0.out; have := HR2.out; omega
 have hRg : R2 ≠ g := by have := HR2.out; omega
 clear hd2 hf4 hf2 H4 H2 HT1 HD1
 cases x
 ·obtain ⟨⟨z0, z1, z2, z3⟩, W, hW, ⟨e0, e1⟩, ht, hS⟩ := res_put H2'.out HT2.out.tw hRM
  have HW := hide hW
  have HE := hide (And.intro e0 e1)
  have HT := hide ht
  have HS := hide hS
  clear hW e0 e1 ht hS
  go_wp2_with fail
  rw [← HW.out]
  refine bodyPost_ret (by simp [results, Tryz.results35, go_sem, HE.out.1, HE.out.2]; try rfl) rfl ?_
  refine ⟨_, _, rfl, ⟨_, HT.out.less (fun k hk => by have := HS0.out; have hk : k < w.heap.size := hk; show k < W0.heap.size; omega)⟩, ?_⟩
  exact (Dr.new (w := w) ⟨HD2.out.cur, (HB0.out.tcs (S := S0 g)).trans HD2.out.tcs⟩ HLo.out HS.out (fun k hk => by have := HR2.out; omega))
 ·go_wp2_with fail
  refine (spoil_any g W0.heap.size a len cap _ _ t w2 hl ⟨hgM, by omega⟩ (HLo.out.mono (by have := HS0.out; omega)) HD2.out.cur HT2.out).mono ?_
  rintro e w3 ⟨vg', vf', rfl, ⟨t', ht'⟩, hd3⟩
  obtain ⟨ga', gn', gc', fa', fn', fc', rfl, rfl⟩ := tw_shape ht'
  have hf3 : FrC w3 R2 [.slice none 0 0, .slice none 0 0] := H2'.out.tcs (by omega) hd3.tcs (fun e => hRg e)
  obtain ⟨⟨z0, z1, z2, z3⟩, W, hW, ⟨e0, e1⟩, ht, hS⟩ := res_put hf3 ht' hRM
  have HW := hide hW
  have HE := hide (And.intro e0 e1)
  have HT := hide ht
  have HS := hide hS
  have HD3 := hide (HD2.out.trans hd3)
  clear hW e0 e1 ht hS hd3 ht' hf3
  go_wp2_with fail
  rw [← HW.out]
  refine bodyPost_ret (by simp [results, Tryz.results35, go_sem, HE.out.1, HE.out.2]; try rfl) rfl ?_
  refine ⟨_, _, rfl, ⟨_, HT.out.less (fun k hk => by have := HS0.out; have hk : k < w.heap.size := hk; show k < W0.heap.size; omega)⟩, ?_⟩
  exact (Dr.new (w := w) ⟨HD3.out.cur, (HB0.out.tcs (S := S0 g)).trans HD3.out.tcs⟩ HLo.out HS.out (fun k hk => by have := HR2.out; omega))
set_option maxRecDepth 100000 in
set_option maxHeartbeats 4000000 in
theorem draw_bound (a : Option Addr) (len cap : Nat) (w : World) (hl : len ≤ 1048576) (hb : B8 w a len) :
  Calls Tryz.prog 11 #[.slice a len cap] w fun e w' => ∃ vg vf t, e = .returned (.agg #[vg, vf]) ∧ TW (fun _ => False) w' vg vf t ∧ Below w.heap.size w w' := by
 obtain ⟨W0, R2, hW0, hR2, hf, hb0, hs0⟩ := res_box w
 have HW0 := hide hW0
 have HR2 := hide hR2
 have HF := hide hf
 have HB0 := hide hb0
 have HS0 : Hid (W0.heap.size = w.heap.size + 1) := hs0
 have HB8 := hide (hb.below hb0)
 clear hW0 hR2 hf hb0 hs0 hb
 go_enter Tryz.func11, Tryz.ntmps11
 go_upto_region 1 with fail
 rw [← HW0.out, ← HR2.out]
 clear HW0
 go_wp2_with fail
 refine (new_any a len cap W0 hl HB8.out).mono ?_
 rintro e w1 ⟨rfl, hc1, hb1, hs1, hlo1⟩
 obtain ⟨g, hg⟩ : ∃ g, g = W0.heap.size := ⟨_, rfl⟩
 rw [← hg] at hc1 hlo1 hs1 ⊢
 have hS0 : S0 g g := rfl
 have HG := hide hg
 have HC1 := hide hc1
 have HL1 : Hid (Lo g a len (S0 g) w1.heap.size) := hlo1
 have HS1 : Hid (w1.heap.size = g + 1) := hs1
 have HB1 := hide (HB0.out.trans (hb1.mono HB0.out.size))
 have HF1 := hide (HF.out.below hb1)
 have hRg : R2 ≠ g := by have := HR2.out; have := HG.out; have := HS0.out; omega
 have hRM : R2 < w1.heap.size := by have := HR2.out; have := HG.out; have := HS0.out; have := HS1.out; omega
 clear hg hc1 hlo1 hs1 hb1 HF HB8 HB0
 go_wp2_with fail
 refine (once_any g a len cap (S0 g) _ _ hl hS0 HC1.out ⟨by decide, by decide⟩).mono ?_
 rintro e w2 ⟨x, rfl, hd2⟩
 have hs2 := hd2.tcs.size
 have hBg : ∀ k, S0 g k → w.heap.size ≤ k := fun k hk => by have e : k = g := hk; have := HG.out; have := HS0.out; omega
 have hBR : ∀ k, k = R2 → w.heap.size ≤ k := fun k hk => by have := HR2.out; omega
 have H2 := hide (HF1.out.tcs hRM hd2.tcs (fun e => hRg e))
 have HD2 := hide hd2
 have HL2 := hide (HL1.out.mono hs2)
 have hRM2 : R2 < w2.heap.size := by omega
 clear hd2 HF1 HL1
 cases x
 ·go_wp2_with fail
  refine (anytree_any g a len cap w2 hl HL2.out HD2.out.cur).mono ?_
  rintro e w4 ⟨vg', vf', rfl, ⟨t', ht'⟩, hd4⟩
  obtain ⟨ga', gn', gc', fa', fn', fc', rfl, rfl⟩ := tw_shape ht'
  have hf3 : FrC w4 R2 [.slice none 0 0, .slice none 0 0] := H2.out.tcs hRM2 hd4.tcs (fun e => hRg e)
  obtain ⟨⟨z0, z1, z2, z3⟩, W, hW, ⟨e0, e1⟩, ht, hS⟩ := res_put hf3 ht' hRM2
  have HW := hide hW
  have HE := hide (And.intro e0 e1)
  have HT := hide ht
  have hs4 := hd4.tcs.size
  have HFin : Hid (Below w.heap.size w W) := hS.below ((HD2.out.trans hd4).tcs.below HB1.out HB1.out.size hBg) (by have := HB1.out.size; omega) hBR
  clear hW e0 e1 ht hS hd4 ht' hf3
  go_wp2_with fail
  rw [← HW.out]
  refine bodyPost_ret (by simp [results, Tryz.results11, go_sem, HE.out.1, HE.out.2]; try rfl) rfl ?_
  exact ⟨_, _, _, rfl, HT.out.less (fun k hk => hk.elim), HFin.out⟩
 ·go_wp2_with fail
  refine (wide_any g a len cap w2 hl HL2.out HD2.out.cur).mono ?_
  rintro e w4 ⟨vg', vf', rfl, ⟨t', ht'⟩, hd4⟩
  obtain ⟨ga', gn', gc', fa', fn', fc', rfl, rfl⟩ := tw_shape ht'
  have hf3 : FrC w4 R2 [.slice none 0 0, .slice none 0 0] := H2.out.tcs hRM2 hd4.tcs (fun e => hRg e)
  obtain ⟨⟨z0, z1, z2, z3⟩, W, hW, ⟨e0, e1⟩, ht, hS⟩ := res_put hf3 ht' hRM2
  have HW := hide hW
  have HE := hide (And.intro e0 e1)
  have HT := hide ht
  have hs4 := hd4.tcs.size
  have HFin : Hid (Below w.heap.size w W) := hS.below ((HD2.out.trans hd4).tcs.below HB1.out HB1.out.size hBg) (by have := HB1.out.size; omega) hBR
  clear hW e0 e1 ht hS hd4 ht' hf3
  go_wp2_with fail
  rw [← HW.out]
  refine bodyPost_ret (by simp [results, Tryz.results11, go_sem, HE.out.1, HE.out.2]; try rfl) rfl ?_
  exact ⟨_, _, _, rfl, HT.out.less (fun k hk => hk.elim), HFin.out⟩
end
end Go.Proofs.YtjhmgjimppflhaaGreatDoor
