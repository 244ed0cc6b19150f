import Derived.Test.YtjhmgjimppflhaaGreatDoorY18
import Derived.Test.YtjhmgjimppflhaaGreatDoorY21
import Derived.Deep.LoopGhost
import Derived.Deep.RegionHeld3
set_option linter.unusedSectionVars false
variable [Inhabited Go.Proofs.YtjhmgjimppflhaaGreatDoor.Pick]
namespace Go.Proofs.YtjhmgjimppflhaaGreatDoor
set_option linter.unusedVariables false
set_option linter.unusedSimpArgs false
set_option maxRecDepth 100000
set_option maxHeartbeats 16000000
section
open Go.RowKit
theorem Ints.set {w : World} {v : Value} {l : List Int} {g : Nat} (h : Ints w v l) (hne : v.ownBlock ≠ some g) (o : Nat) (u : Value) : Ints (w.setCell ⟨g, o, none⟩ u) v l := by
 obtain ⟨a, cap, rfl, h3⟩ := h
 refine ⟨a, cap, rfl, fun h0 => ?_⟩
 obtain ⟨b, rfl, hc⟩ := h3 h0
 have hb : b ≠ g := fun e => hne (by simp [Value.ownBlock, e])
 refine ⟨b, rfl, fun j hj => ?_⟩
 rw [World.cell?_setCell_other _ _ _ _ (by intro h; simp only [Addr.mk.injEq] at h; exact hb h.1.symm)]
 exact hc j hj
def callI (fs : List Fu) (j : Nat) : List Int := (callsL fs (fs.getD j ⟨⟨#[]⟩, [], []⟩).body).map (fun g : Nat => (g : Int))
def Graph (w : World) (v : Value) (fs : List Fu) : Prop := ∃ G cap, v = .slice (some ⟨G, 0, none⟩) fs.length cap ∧ ∀ j, j < fs.length → ∃ vj, w.cell? ⟨G, j, none⟩ = some vj ∧ Ints w vj (callI fs j)
theorem Graph.below {w w' : World} {v : Value} {fs : List Fu} (h : Graph w v fs) (hb : Below w.heap.size w w') : Graph w' v fs := by
 obtain ⟨G, cap, rfl, h⟩ := h
 refine ⟨G, cap, rfl, fun j hj => ?_⟩
 obtain ⟨vj, h1, h2⟩ := h j hj
 exact ⟨vj, (hb.cell (p := ⟨G, j, none⟩) (World.block_lt_of_cell? _ _ h1)).trans h1, h2.below hb⟩
theorem info_ii : (Tryz.prog.info? 31).map (fun i => (i.zero, i.size, i.bytes)) = some (some (.slice none 0 0), 1, 24) := by kernel_rfl
set_option maxRecDepth 100000 in
set_option maxHeartbeats 4000000 in
theorem graph_any (fs : List Fu) (vg vf : Value) (w : World) (hl : fs.length ≤ 1000) (hg : ∃ a n c, vg = .slice a n c) (hw : wfFs fs) (hsm : ∀ f ∈ fs, smallF f) (hf : Funcs w vf fs) :
  Calls Tryz.prog 41 #[.agg #[vg, vf]] w fun e w' => ∃ v, e = .returned v ∧ Graph w' v fs ∧ Below w.heap.size w w' := by
 obtain ⟨ag, ng, cg, rfl⟩ := hg
 have HF : Hid (Funcs w vf fs) := hf
 obtain ⟨af, cf, rfl, -, -, hfc⟩ := hf
 have HFC : Hid (0 < fs.length → ∃ b off, af = some ⟨b, off, none⟩ ∧ FuncsC w b off fs) := hfc
 have HW : Hid (wfFs fs) := hw
 have HSm : Hid (∀ f ∈ fs, smallF f) := hsm
 obtain ⟨i0, hi, hz0, hz1, hz2⟩ := info_parts info_ii
 clear hfc hw hsm
 go_enter Tryz.func41, Tryz.ntmps41
 go_wp2_with fail
 have hA : Below w.heap.size w (w.alloc (.cells #[.slice ag ng cg, .slice af fs.length cf] 26)) := (Below.refl _ _).alloc (Nat.le_refl _) _
 refine (fnums_any fs _ _ _ (by omega) HW.out (HF.out.below hA)).mono ?_
 rintro e w1 ⟨bn, D, rfl, hbn, hown, hN, hb1⟩
 simp only [World.size_alloc] at hb1 hbn
 obtain ⟨x0, x1⟩ := box2 hb1
 have HOw : Hid (w1.ownsMap Tryz.prog 9 (plainElem (H := Unit) Tryz.prog 2) bn fs.length D) := hown
 have HN : Hid (NumIs D fs) := hN
 have hB1 : Below w.heap.size w w1 := one_below hb1
 have hsz1 := hb1.size
 simp only [World.size_alloc] at hsz1
 clear hown hN
 go_wp2_with (at_make; refine wpList_make_full _ rfl _ _ 72 rfl w1.heap.size 31 i0 (.slice none 0 0) 1 Tryz.underlying72 hi hz0 hz1 _ _ _ _ fs.length rfl rfl (by omega) (by omega) ?_ ?_ (Nat.le_refl _) ?_)
 ·rw [hz2]; omega
 ·unfold maxLen; omega
 intro w2 hown2 hgrow2
 have hb2 : Below w1.heap.size w1 w2 := (Below.refl _ _).grown hgrow2 (Nat.le_refl _) (by simp)
 have hb2' : Below (w.heap.size + 1) (w.alloc (.cells #[.slice ag ng cg, .slice af fs.length cf] 26)) w2 := hb1.trans (hb2.mono hsz1)
 have HM2 : Hid (w2.ownsMap Tryz.prog 9 (plainElem (H := Unit) Tryz.prog 2) bn fs.length D) := map_below HOw.out hb2
 have hR2 : ∃ xs, w2.ownsRow w1.heap.size 31 1 (.slice (some ⟨w1.heap.size, 0, none⟩) fs.length fs.length) fs.length xs := ⟨_, hown2⟩
 obtain ⟨xs2, hR2⟩ := hR2
 have HR2 : Hid (w2.ownsRow w1.heap.size 31 1 (.slice (some ⟨w1.heap.size, 0, none⟩) fs.length fs.length) fs.length xs2) := hR2
 have hG : w1.heap.size < w2.heap.size := (World.ownsRow.lt hR2 w1.heap.size rfl).2
 obtain ⟨G, hGe⟩ : ∃ G, G = w1.heap.size := ⟨_, rfl⟩
 rw [← hGe] at HR2 hG ⊢
 have hwG : w.heap.size + 1 ≤ G := by omega
 have hbG0 : bn < G := by have := HOw.out.lt; omega
 clear hown2 hgrow2 hR2 x0 x1
 obtain ⟨x0, x1⟩ := box2 hb2'
 clear hb1 hb2 hGe
 go_wp2_with fail
 go_loopw [16] (fun i wr => ∃ (k : Nat) (xs : List Value), k ≤ fs.length ∧ i = .int .i64 k ∧ wr.ownsRow G 31 1 (.slice (some ⟨G, 0, none⟩) fs.length fs.length) fs.length xs ∧ (∀ j, j < k → ∃ vj, xs[j]? = some vj ∧ Ints wr vj (callI fs j) ∧ vj.ownBlock ≠ some G) ∧ wr.ownsMap Tryz.prog 9 (plainElem (H := Unit) Tryz.prog 2) bn fs.length D ∧ bn < G ∧ G < wr.heap.size ∧ Below (w.heap.size + 1) (w.alloc (.cells #[.slice ag ng cg, .slice af fs.length cf] 26)) wr) (fun i _ => fs.length - (RowKit.intOf i).toNat)
 case atStart => exact ⟨0, xs2, Nat.zero_le _, rfl, HR2.out, fun j hj => absurd hj (by omega), HM2.out, hbG0, hG, hb2'⟩
 case round =>
  clear HM2 HR2 hG hb2' x0 x1
  obtain ⟨k, xs, hk, rfl, hR, hX, hM, hbG, hG, hB⟩ := hrel
  have HR : Hid (wr.ownsRow G 31 1 (.slice (some ⟨G, 0, none⟩) fs.length fs.length) fs.length xs) := hR
  have HX : Hid (∀ j, j < k → ∃ vj, xs[j]? = some vj ∧ Ints wr vj (callI fs j) ∧ vj.ownBlock ≠ some G) := hX
  have HM : Hid (wr.ownsMap Tryz.prog 9 (plainElem (H := Unit) Tryz.prog 2) bn fs.length D) := hM
  have hBw := one_below hB
  clear hR hX hM
  by_cases hlt : k < fs.length
  ·obtain ⟨bf, of, rfl, hfc⟩ := HFC.out (by omega)
   obtain ⟨vp, vb, ⟨d0, d1, d2⟩, hps, hbs⟩ := (hfc.below hBw) k hlt
   have hbl : bf < wr.heap.size := World.block_lt_of_cell? _ _ d0
   have HPs : Hid (Strs wr vp fs[k].params) := hps
   have HBs : Hid (Stmts wr vb fs[k].body) := hbs
   have HFs : Hid (smallF fs[k]) := HSm.out _ (List.getElem_mem hlt)
   have HFw : Hid (wfFu fs[k]) := HW.out.2 _ (List.getElem_mem hlt)
   have HCI : Hid (callI fs k = (callsL fs fs[k].body).map (fun g : Nat => (g : Int))) := by show _ = _; unfold callI; simp [List.getD, hlt]
   obtain ⟨ap, cp, rfl, -⟩ := hps
   obtain ⟨ab, cb, rfl, -⟩ := hbs
   clear hfc
   generalize fs[k] = f at d0 d1 d2 HPs HBs HFs HFw HCI
   have hAr : Below wr.heap.size wr (wr.alloc (.cells #[.string f.name, .slice ap f.params.length cp, .slice ab f.body.length cb] 61)) := (Below.refl _ _).alloc (Nat.le_refl _) _
   go_wp2_with fail
   refine (callsOf_any fs f _ _ bn fs.length D _ (by omega) HFs.out HFw.out (HPs.out.below hAr) (HBs.out.below hAr) (map_below HM.out hAr) HN.out).mono ?_
   rintro e w3 ⟨v3, rfl, hr3, hb3⟩
   have hb3' : Below wr.heap.size wr w3 := hAr.trans (hb3.mono hAr.size)
   have HI3 : Hid (Ints w3 v3 (callI fs k)) := by
    show Ints _ _ _
    rw [HCI.out]
    exact IRow.ints (B := _) hr3
   have HV3 : Hid (v3.ownBlock ≠ some G) := fun h => by
    have := (World.ownsRow.lt hr3 G h).1
    simp at this
    omega
   have HR3 : Hid (w3.ownsRow G 31 1 (.slice (some ⟨G, 0, none⟩) fs.length fs.length) fs.length xs) := ownB HR.out hb3'
   have HM3 : Hid (w3.ownsMap Tryz.prog 9 (plainElem (H := Unit) Tryz.prog 2) bn fs.length D) := map_below HM.out hb3'
   have HX3 : Hid (∀ j, j < k → ∃ vj, xs[j]? = some vj ∧ Ints w3 vj (callI fs j) ∧ vj.ownBlock ≠ some G) := fun j hj => by
    obtain ⟨vj, h1, h2, h3⟩ := HX.out j hj
    exact ⟨vj, h1, h2.below hb3', h3⟩
   have hsr := hB.size
   simp only [World.size_alloc] at hsr
   have hB3 : Below (w.heap.size + 1) (w.alloc (.cells #[.slice ag ng cg, .slice (some ⟨bf, of, none⟩) fs.length cf] 26)) w3 := hB.trans (hb3'.mono hsr)
   have hG3 : G < w3.heap.size := Nat.lt_of_lt_of_le hG hb3'.size
   have hlx : xs.length = fs.length := by have := HR.out.1; omega
   have g0 : w3.cell? ⟨G, k, none⟩ = some (xs[k]'(by omega)) := by
    have := World.ownsRow.cellAt HR3.out k (by omega)
    rw [this]
    simp [hlx, hlt]
   have gf := World.ownsRow.frozenAt HR3.out k
   obtain ⟨y, hy⟩ : ∃ y, y = xs[k]'(by omega) := ⟨_, rfl⟩
   rw [← hy] at g0
   obtain ⟨a3, c3, hv3⟩ := IRow.shape (B := _) hr3
   clear hr3 hb3 hb3' d0 d1 d2 hy HR HX HM hAr
   have HR4 : Hid ((w3.setCell ⟨G, k, none⟩ v3).ownsRow G 31 1 (.slice (some ⟨G, 0, none⟩) fs.length fs.length) fs.length (xs.set k v3)) := (World.ownsRow.stored HR3.out k v3).1
   have HX4 : Hid (∀ j, j < k + 1 → ∃ vj, (xs.set k v3)[j]? = some vj ∧ Ints (w3.setCell ⟨G, k, none⟩ v3) vj (callI fs j) ∧ vj.ownBlock ≠ some G) := fun j hj => by
    by_cases e : j = k
    ·subst e
     exact ⟨v3, by simp [hlx, hlt], HI3.out.set HV3.out _ _, HV3.out⟩
    ·obtain ⟨vj, h1, h2, h3⟩ := HX3.out j (by omega)
     exact ⟨vj, by rw [List.getElem?_set_ne (fun h => e h.symm)]; exact h1, h2.set h3 _ _, h3⟩
   have HM4 : Hid ((w3.setCell ⟨G, k, none⟩ v3).ownsMap Tryz.prog 9 (plainElem (H := Unit) Tryz.prog 2) bn fs.length D) := by
    obtain ⟨es, clock, h0, F, hs, hD⟩ := HM3.out
    exact ⟨es, clock, (Below.heap_setCell _ _ _ bn (fun h => by simp at h; omega)).trans h0, F, hs, hD⟩
   subst hv3
   go_wp2_with fail
   go_roundw
   case rel => exact ⟨k + 1, _, by omega, by go_num, HR4.out, HX4.out, HM4.out, hbG, by simpa using hG3, hB3.setCell (p := ⟨G, k, none⟩) hwG _⟩
   case measure => simp [RowKit.intOf]; omega
  ·have hkk : k = fs.length := by omega
   subst hkk
   clear hB
   go_wp2_with fail
   go_ret
   refine ⟨_, rfl, ⟨G, fs.length, rfl, fun j hj => ?_⟩, hBw⟩
   obtain ⟨vj, h1, h2, -⟩ := HX.out j hj
   exact ⟨vj, (World.ownsRow.cellAt HR.out j (by omega)).trans h1, h2⟩
end
section
open Go.RowKit
theorem tl_nil (n : Nat) : tl n [] = List.replicate n (.bool false) := by
 apply List.ext_getElem
 ·simp [tl]
 ·intro i h1 h2
  simp [tl]
theorem IRow.cut {B : Nat} {w : World} {v : Value} {l : List Nat} {x : Nat} (h : IRow B w v (l ++ [x])) : ∃ g cap, v = .slice (some ⟨g, 0, none⟩) (l.length + 1) cap ∧ B ≤ g ∧ l.length + 1 ≤ cap ∧ cap ≤ maxLen ∧ w.cell? ⟨g, l.length, none⟩ = some (.int .i64 (x : Int)) ∧ IRow B w (.slice (some ⟨g, 0, none⟩) l.length cap) l := by
 have h0 := h
 obtain ⟨g1, g2⟩ := h
 rcases g2 with ⟨_, hz⟩ | ⟨g, cap, cur, rfl, g3, g4, g5, g6, g7, g8⟩
 ·simp at hz
 ·simp only [List.length_append, List.length_cons, List.length_nil, Nat.zero_add, Nat.mul_one, List.map_append, List.map_cons, List.map_nil] at g1 g5 g7 g8
  refine ⟨g, cap, by simp, g3, g5, g6, ?_, by simp, .inr ⟨g, cap, cur, rfl, g3, g4, by omega, g6, by omega, ?_⟩⟩
  ·have := World.ownsRow.cellAt h0 l.length (by simp)
   rw [this]
   simp
  ·rw [Nat.mul_one]
   have e : cur.toList.take l.length = (cur.toList.take (l.length + 1)).take l.length := by rw [List.take_take]; congr 1; omega
   rw [e, g8]
   simp
theorem irow_one (W : World) (B : Nat) (hB : B ≤ W.heap.size) (x : Nat) : IRow B (W.alloc (.cells #[.int .i64 (x : Int)] 2)) (.slice (some ⟨W.heap.size, 0, none⟩) 1 1) [x] := World.ownsRow_lit W #[.int .i64 (x : Int)] 1 hB (by decide) rfl
theorem IRow.set {B : Nat} {w : World} {v : Value} {l : List Nat} {g o : Nat} {u : Value} (h : IRow B w v l) (hg : g < B) : IRow B (w.setCell ⟨g, o, none⟩ u) v l := by
 obtain ⟨g1, g2⟩ := h
 refine ⟨g1, ?_⟩
 rcases g2 with g2 | ⟨b, cap, cur, rfl, g3, g4, g5⟩
 ·exact .inl g2
 ·refine .inr ⟨b, cap, cur, rfl, g3, ?_, g5⟩
  rw [Below.heap_setCell _ _ _ b (fun h => by simp at h; omega)]
  exact g4
set_option maxRecDepth 100000 in
set_option maxHeartbeats 4000000 in
theorem reached_any (t : Tr) (vgr : Value) (f : Nat) (w : World) (hf : f < t.funcs.length) (hl : t.funcs.length ≤ 1000) (hg : Graph w vgr t.funcs) :
  Calls Tryz.prog 94 #[vgr, .int .i64 (f : Int)] w fun e w' => ∃ v out, e = .returned v ∧ TRow w.heap.size w' v t.funcs.length out ∧ (∀ g, g ∈ out ↔ Rch t f g) ∧ Below w.heap.size w w' := by
 obtain ⟨G, cap, rfl, hgc⟩ := hg
 have HG : Hid (∀ j, j < t.funcs.length → ∃ vj, w.cell? ⟨G, j, none⟩ = some vj ∧ Ints w vj (callI t.funcs j)) := hgc
 obtain ⟨i0, hi, hz0, hz1, hz2⟩ := info_parts info_bool
 obtain ⟨i1, hj, hy0, hy1, hy2⟩ := info_parts info_i64
 clear hgc
 obtain ⟨n, hn⟩ : ∃ n, n = t.funcs.length := ⟨_, rfl⟩
 rw [← hn] at hf hl HG ⊢
 have HN : Hid (n = t.funcs.length) := hn
 clear hn
 go_enter Tryz.func94, Tryz.ntmps94
 go_wp2_with (at_make; refine wpList_make_full _ rfl _ _ 143 rfl w.heap.size 4 i0 (.bool false) 1 Tryz.underlying143 hi hz0 hz1 _ _ _ _ n rfl rfl (by omega) (by omega) ?_ ?_ (Nat.le_refl _) ?_)
 ·rw [hz2]; omega
 ·unfold maxLen; omega
 intro w1 hown1 hgrow1
 have hb1 : Below w.heap.size w w1 := (Below.refl _ _).grown hgrow1 (Nat.le_refl _) (by simp)
 have HT1 : Hid (TRow w.heap.size w1 (.slice (some ⟨w.heap.size, 0, none⟩) n n) n []) := by
  show World.ownsRow _ _ _ _ _ _ _
  rw [tl_nil, ← toList_madeCells_one]
  exact hown1
 have hs1 : w.heap.size < w1.heap.size := (World.ownsRow.lt hown1 w.heap.size rfl).2
 obtain ⟨F, hF⟩ : ∃ F, F = w.heap.size := ⟨_, rfl⟩
 rw [← hF] at HT1 hs1 ⊢
 have HFw : Hid (F = w.heap.size) := hF
 clear hown1 hgrow1 hF
 go_wp2_with fail
 have HI1 : Hid (IRow (F + 1) (w1.alloc (.cells #[.int .i64 (f : Int)] 2)) (.slice (some ⟨w1.heap.size, 0, none⟩) 1 1) [f]) := irow_one w1 _ hs1 f
 have HT2 : Hid (TRow F (w1.alloc (.cells #[.int .i64 (f : Int)] 2)) (.slice (some ⟨F, 0, none⟩) n n) n []) := HT1.out.below ((Below.refl _ _).alloc (Nat.le_refl _) _)
 have hB1 : Below w.heap.size w (w1.alloc (.cells #[.int .i64 (f : Int)] 2)) := hb1.alloc hb1.size _
 go_loopg [6] (n + 1) (fun gk lv wr => ∃ (out work : List Nat), gk = (n - out.length) + work.length ∧ gk ≤ n + 1 ∧ RInv t f out work ∧ TRow F wr (.slice (some ⟨F, 0, none⟩) n n) n out ∧ IRow (F + 1) wr lv work ∧ F < wr.heap.size ∧ Below w.heap.size w wr)
 case atStart => exact ⟨[], [f], by simp, Nat.le_refl _, RInv.start t f, HT2.out, HI1.out, by simp; omega, hB1⟩
 case round =>
  clear HI1 HT1 HT2 hB1 hb1 hs1
  obtain ⟨out, work, hgk, hgn, hI, hT, hW, hFs, hB⟩ := hrel
  rcases List.eq_nil_or_concat work with rfl | ⟨rest, x, rfl⟩
  ·have HE : Hid (∀ g, g ∈ out ↔ Rch t f g) := fun g => hI.all g
   have HT : Hid (TRow F wr (.slice (some ⟨F, 0, none⟩) n n) n out) := hT
   obtain ⟨a6, c6, rfl⟩ := hW.shape
   simp only [List.length_nil]
   clear hT hW hI
   go_wp2_with fail
   go_ret
   exact ⟨_, out, rfl, by rw [← HFw.out]; exact HT.out, HE.out, hB⟩
  ·simp only [List.concat_eq_append] at hgk hI hW
   have hxn : x < n := by have := hI.lt (by rw [← HN.out]; exact hf) x (by simp); rw [HN.out]; exact this
   have HM : Hid (RMid t f x [] out rest) := hI.take (by simp) (fun y => by simp [or_comm])
   obtain ⟨g6, c6, rfl, hg6, hc61, hc62, q6, hW2⟩ := hW.cut
   have HW2 : Hid (IRow (F + 1) wr (.slice (some ⟨g6, 0, none⟩) rest.length c6) rest) := hW2
   have HT : Hid (TRow F wr (.slice (some ⟨F, 0, none⟩) n n) n out) := hT
   obtain ⟨vx, qx, hix⟩ := HG.out x hxn
   have qx' := (hB.cell (p := ⟨G, x, none⟩) (World.block_lt_of_cell? _ _ qx)).trans qx
   have HIx : Hid (Ints w vx (callI t.funcs x)) := hix
   obtain ⟨L, hL⟩ : ∃ L, L = callsL t.funcs (t.funcs.getD x ⟨⟨#[]⟩, [], []⟩).body := ⟨_, rfl⟩
   have HL : Hid (∀ y, CallR t x y ↔ y ∈ L) := fun y => by
    rw [hL]
    unfold CallR
    exact ⟨fun h => h.2, fun h => ⟨by rw [← HN.out]; exact hxn, h⟩⟩
   have HCI : Hid (callI t.funcs x = L.map (fun g : Nat => (g : Int))) := by show _ = _; rw [hL]; rfl
   obtain ⟨ax, cx, hvx, hxc⟩ := hix
   have hlen : (callI t.funcs x).length = L.length := by rw [HCI.out]; simp
   rw [hlen] at hvx
   subst hvx
   have HXC : Hid (0 < L.length → ∃ b, ax = some ⟨b, 0, none⟩ ∧ ∀ j (h : j < L.length), w.cell? ⟨b, j, none⟩ = some (.int .i64 (L[j] : Int))) := fun h0 => by
    obtain ⟨b, rfl, hc⟩ := hxc (by omega)
    refine ⟨b, rfl, fun j hj => ?_⟩
    have := hc j (by omega)
    rw [this]
    simp [HCI.out]
   have hLn : L.length ≤ 1000 := by
    have h1 : L.Nodup := by
     rw [hL]
     unfold callsL
     exact List.Pairwise.filter _ (List.nodup_range)
    have h2 := nodup_le n h1 (fun y hy => by have := ((HL.out y).2 hy).lt; rw [HN.out]; exact this)
    omega
   have hrl : rest.length ≤ 2000 := by simp at hgk; omega
   have hgk' : (n - out.length) + rest.length + 1 = gk := by simp at hgk; omega
   have hsl : ∀ W : World, (Instr.slice 31 (.slice (some ⟨g6, 0, none⟩) (rest.length + 1) c6) none (some (.int .i64 (rest.length : Int))) none).run Tryz.prog W = .ok (.slice (some ⟨g6, 0, none⟩) rest.length c6) W := by
    intro W
    have hz : Tryz.prog.elem 31 = 2 := by kernel_rfl
    have hs : (sizeOf 2).run Tryz.prog W = .ok 1 W := by kernel_rfl
    rw [run_slice_h W 31 (some ⟨g6, 0, none⟩) (rest.length + 1) c6 (by rw [hz]; exact Tryz.underlying31) .i64 _ (by omega) (by omega), hz, hs]
    simp [Result.andThen, sliced, Addr.add]
   have hon := HM.out.len
   rw [← HN.out] at hon
   clear hI hT hW hW2 hxc hlen hL hgk qx
   go_wp2_with fail
   go_loopw [6, 34] (fun lv i w4 => ∃ (j : Nat) (out2 work2 : List Nat), j ≤ L.length ∧ i = .int .i64 j ∧ RMid t f x (L.take j) out2 work2 ∧ TRow F w4 (.slice (some ⟨F, 0, none⟩) n n) n out2 ∧ IRow (F + 1) w4 lv work2 ∧ out2.length + rest.length = out.length + work2.length ∧ F < w4.heap.size ∧ Below w.heap.size w w4) (fun _ i _ => L.length - (RowKit.intOf i).toNat)
   case atStart => exact ⟨0, out, rest, Nat.zero_le _, rfl, by simpa using HM.out, HT.out, HW2.out, rfl, hFs, hB⟩
   case round =>
    clear HM HW2 HT q6 qx' hB hFs hsl
    obtain ⟨j, out2, work2, hj2, rfl, hM, hT, hW, hlw, hFs, hB⟩ := hrel
    have HM : Hid (RMid t f x (L.take j) out2 work2) := hM
    have HT : Hid (TRow F wr (.slice (some ⟨F, 0, none⟩) n n) n out2) := hT
    have hon2 := hM.len
    rw [← HN.out] at hon2
    obtain ⟨a6, c7, rfl⟩ := hW.shape
    have HW : Hid (IRow (F + 1) wr (.slice a6 work2.length c7) work2) := hW
    clear hM hW
    by_cases hjl : j < L.length
    ·obtain ⟨bx, rfl, hcx⟩ := HXC.out (by omega)
     have d0 := (hB.cell (p := ⟨bx, j, none⟩) (World.block_lt_of_cell? _ _ (hcx j hjl))).trans (hcx j hjl)
     have HT1 : Hid (L.take (j + 1) = L.take j ++ [L[j]]) := take_succ L j hjl
     have hyc : CallR t x L[j] := (HL.out _).2 (List.getElem_mem hjl)
     have hyn : L[j] < n := by have := hyc.lt; rw [HN.out]; exact this
     have HYC : Hid (CallR t x L[j]) := hyc
     clear hcx hyc
     generalize L[j] = y at d0 HT1 hyn HYC
     obtain ⟨t0, tf⟩ := hT.cell y hyn
     clear hT
     by_cases hy : y ∈ out2
     ·rw [decide_eq_true hy] at t0
      have HM2 : Hid (RMid t f x (L.take (j + 1)) out2 work2) := by show RMid _ _ _ _ _ _; rw [HT1.out]; exact HM.out.old hy
      clear hy
      go_wp2_with fail
      go_roundw
      case rel => exact ⟨j + 1, out2, work2, by omega, by go_num, HM2.out, HT.out, HW.out, hlw, hFs, hB⟩
      case measure => simp [RowKit.intOf]; omega
     ·rw [decide_eq_false hy] at t0
      have HM2 : Hid (RMid t f x (L.take (j + 1)) (out2 ++ [y]) (work2 ++ [y])) := by show RMid _ _ _ _ _ _; rw [HT1.out]; exact HM.out.new hy HYC.out
      have HTp : Hid (TRow F (wr.setCell ⟨F, y, none⟩ (.bool true)) (.slice (some ⟨F, 0, none⟩) n n) n (out2 ++ [y])) := HT.out.put y hyn
      have HWp : Hid (IRow (F + 1) (wr.setCell ⟨F, y, none⟩ (.bool true)) (.slice a6 work2.length c7) work2) := HW.out.set (Nat.lt_succ_self _)
      have hBp : Below w.heap.size w (wr.setCell ⟨F, y, none⟩ (.bool true)) := hB.setCell (p := ⟨F, y, none⟩) (by rw [HFw.out]; exact Nat.le_refl _) _
      have hsp : (wr.setCell ⟨F, y, none⟩ (.bool true)).heap.size = wr.heap.size := by simp
      have hwl : work2.length ≤ 2000 := by omega
      clear hy
      go_wp2_with (at_builtin; refine wpList_appF rfl _ _ _ rfl (F + 1) 2 i1 _ 1 8 Tryz.underlying31 hj hy0 hy1 hy2 rfl (by decide) _ work2.length (work2.map (fun g : Nat => Value.int .i64 (g : Int))) rfl (HWp.out.below ((Below.refl _ _).alloc (Nat.le_refl _) _)) ⟨wr.heap.size, 0, none⟩ 1 1 [.int .i64 (y : Int)] rfl rfl (by rw [← hsp]; exact cell_one_new _ _ _) (by simp [Value.oneCell']) (by omega) (by decide) (by simp; omega) ?_)
      intro v9 w9 ho9 hg9 hf9
      have HW9 : Hid (IRow (F + 1) w9 v9 (work2 ++ [y])) := by
       show World.ownsRow _ _ _ _ _ _ _
       simpa using ho9
      have hrow : ∀ g, (Value.slice a6 work2.length c7).ownBlock = some g → F + 1 ≤ g := fun g hg => (World.ownsRow.lt HWp.out g hg).1
      have HT9 : Hid (TRow F w9 (.slice (some ⟨F, 0, none⟩) n n) n (out2 ++ [y])) := ownG (HTp.out.below ((Below.refl _ _).alloc (Nat.le_refl _) _)) hg9 (fun g hg h => by simp only [Value.ownBlock, Option.some.injEq] at hg; have := hrow g h; omega)
      have hB9 : Below w.heap.size w w9 := (hBp.alloc hBp.size _).grown hg9 (by have := hBp.size; simp; simp at this; omega) (fun g hg => by have := hrow g hg; have := HFw.out; omega)
      have hF9 : F < w9.heap.size := by have := hg9.size; simp at this; omega
      obtain ⟨a9, c9, rfl⟩ := HW9.out.shape
      have hle9 : (work2 ++ [y]).length = work2.length + 1 := by simp
      rw [hle9] at HW9 ⊢
      clear ho9 hg9 hf9 d0 t0 tf HW HT HM
      go_wp2_with fail
      go_roundw
      case rel => exact ⟨j + 1, out2 ++ [y], work2 ++ [y], by omega, by go_num, HM2.out, HT9.out, HW9.out, by simp; omega, hF9, hB9⟩
      case measure => simp [RowKit.intOf]; omega
    ·have HMd : Hid (RInv t f out2 work2) := by
      have h1 := HM.out
      rw [List.take_of_length_le (by omega)] at h1
      exact h1.done (fun y hy => (HL.out y).1 hy)
     have HTd := HT.out
     clear hT
     go_wp2_with fail
     go_roundg ((n - out2.length) + work2.length)
     case measure => omega
     case rel => exact ⟨out2, work2, rfl, by omega, HMd.out, HT.out, HW.out, hFs, hB⟩
end
section
open Go.RowKit
set_option maxRecDepth 100000 in
set_option maxHeartbeats 2000000 in
theorem l3has_any (l : List Nat) (v : Value) (x : Nat) (w : World) (hl : l.length ≤ 10000000) (hx : Ints w v (l.map (fun g : Nat => (g : Int)))) :
  Calls Tryz.prog 27 #[v, .int .i64 (x : Int)] w fun e w' => e = .returned (.bool (decide (x ∈ l))) ∧ Below w.heap.size w w' := by
 obtain ⟨a, c, rfl, hc⟩ := hx
 rw [List.length_map] at *
 have HC : Hid (0 < l.length → ∃ b, a = some ⟨b, 0, none⟩ ∧ ∀ j (h : j < l.length), w.cell? ⟨b, j, none⟩ = some (.int .i64 (l[j] : Int))) := fun h0 => by
  obtain ⟨b, rfl, hq⟩ := hc (by simpa using h0)
  refine ⟨b, rfl, fun j hj => ?_⟩
  rw [hq j (by simpa using hj)]
  simp
 clear hc
 go_enter Tryz.func27, Tryz.ntmps27
 go_wp2_with fail
 go_loopw [5] (fun i wr => ∃ k : Nat, k ≤ l.length ∧ i = .int .i64 k ∧ (∀ j (hj : j < l.length), j < k → l[j] ≠ x) ∧ Below w.heap.size w wr) (fun i _ => l.length - (RowKit.intOf i).toNat)
 case atStart => exact ⟨0, Nat.zero_le _, rfl, fun j hj h => absurd h (Nat.not_lt_zero _), Below.refl _ _⟩
 case round =>
  obtain ⟨k, hk, rfl, hn, hB⟩ := hrel
  have HN : Hid (∀ j (hj : j < l.length), j < k → l[j] ≠ x) := hn
  clear hn
  by_cases hlt : k < l.length
  ·obtain ⟨b, rfl, hc⟩ := HC.out (by omega)
   have d0 := (hB.cell (p := ⟨b, k, none⟩) (World.block_lt_of_cell? _ _ (hc k hlt))).trans (hc k hlt)
   by_cases hs : l[k] = x
   ·have HR : Hid (decide (x ∈ l) = true) := by show _ = _; rw [decide_eq_true_iff, ← hs]; exact List.getElem_mem hlt
    rw [hs] at d0
    clear hc hs
    go_wp2_with fail
    go_ret
    exact ⟨ret_bool HR.out.symm, hB⟩
   ·have HS : Hid (∀ j (hj : j < l.length), j < k + 1 → l[j] ≠ x) := fun j hj h => by
     by_cases e : j = k
     ·subst e; exact hs
     ·exact HN.out j hj (by omega)
    have b1 : ((l[k] : Int) == (x : Int)) = false := by
     have : ¬ (l[k] : Int) = (x : Int) := by omega
     simpa using this
    clear hc
    generalize l[k] = y at d0 b1 hs
    go_wp2_with fail
    go_roundw
    case rel => exact ⟨k + 1, by omega, by go_num, HS.out, hB⟩
    case measure => simp [RowKit.intOf]; omega
  ·have HR : Hid (decide (x ∈ l) = false) := by
    show _ = _
    rw [decide_eq_false_iff_not]
    intro hm
    obtain ⟨j, hj, he⟩ := List.getElem_of_mem hm
    exact HN.out j hj (by omega) he
   go_wp2_with fail
   go_ret
   exact ⟨ret_bool HR.out.symm, hB⟩
theorem Ints.grown {w w' : World} {v : Value} {l : List Int} {row : Option Nat} (h : Ints w v l) (hg : w.grownBy w' row) (hne : ∀ g, v.ownBlock = some g → row ≠ some g) : Ints w' v l := by
 obtain ⟨a, cap, rfl, h3⟩ := h
 refine ⟨a, cap, rfl, fun h0 => ?_⟩
 obtain ⟨b, rfl, hc⟩ := h3 h0
 refine ⟨b, rfl, fun j hj => ?_⟩
 have hlt := World.block_lt_of_cell? _ _ (hc j hj)
 exact (World.cell?_of_block (a := ⟨b, j, none⟩) (hg.block b hlt (fun e => hne b rfl e.symm))).trans (hc j hj)
theorem IRow.grown {B : Nat} {w w' : World} {v : Value} {l : List Nat} {row : Option Nat} (h : IRow B w v l) (hg : w.grownBy w' row) (hne : ∀ g, v.ownBlock = some g → row ≠ some g) : IRow B w' v l := ownG h hg hne
theorem IRow.cap {B : Nat} {w : World} {v : Value} {l : List Nat} (h : IRow B w v l) : ∀ a n c, v = .slice a n c → n ≤ c := by
 intro a n c he
 rcases h.2 with ⟨rfl, hz⟩ | ⟨g, cap, cur, rfl, _, _, h1, _⟩
 ·simp only [Value.slice.injEq] at he
  omega
 ·simp only [Value.slice.injEq] at he
  omega
theorem tail_run (b n c : Nat) (h1 : 1 ≤ n) (h3 : n ≤ c) : ∃ ad : Addr, (∀ w : World, (Instr.slice 31 (.slice (some ⟨b, 0, none⟩) n c) (some (.int .i64 1)) none none).run Tryz.prog w = .ok (.slice (some ad) (n - 1) (c - 1)) w) ∧ (∀ j, j < n - 1 → ad.add j = ⟨b, j + 1, none⟩) := by
 by_cases hc : c = 1
 ·refine ⟨⟨b, 0, none⟩, fun w => ?_, fun j hj => by omega⟩
  have hz : Tryz.prog.elem 31 = 2 := by kernel_rfl
  have hs : (sizeOf 2).run Tryz.prog w = .ok 1 w := by kernel_rfl
  rw [run_slice_l w 31 (some ⟨b, 0, none⟩) n c (by rw [hz]; exact Tryz.underlying31) .i64 _ (by omega) (by omega), hz, hs]
  simp [Result.andThen, sliced, hc]
 ·refine ⟨⟨b, 1, none⟩, fun w => ?_, fun j hj => ?_⟩
  ·have hz : Tryz.prog.elem 31 = 2 := by kernel_rfl
   have hs : (sizeOf 2).run Tryz.prog w = .ok 1 w := by kernel_rfl
   rw [run_slice_l w 31 (some ⟨b, 0, none⟩) n c (by rw [hz]; exact Tryz.underlying31) .i64 _ (by omega) (by omega), hz, hs]
   simp [Result.andThen, sliced, hc, Addr.add]
  ·rw [addrO]; simp [Nat.add_comm]
set_option maxRecDepth 100000 in
set_option maxHeartbeats 4000000 in
theorem l3reach_any (t : Tr) (vg vf vfr : Value) (f : Nat) (w : World) (hf : f < t.funcs.length) (hl : t.funcs.length ≤ 1000) (hsm : ∀ g ∈ t.funcs, smallF g) (hg : ∃ a n c, vg = .slice a n c) (hfu : Funcs w vf t.funcs) (hfr : Ints w vfr [(f : Int)]) (hcap : ∀ a n c, vfr = .slice a n c → n ≤ c) :
  Calls Tryz.prog 26 #[.agg #[vg, vf], vfr] w fun e w' => ∃ v out, e = .returned v ∧ IRow w.heap.size w' v out ∧ (∀ g, g ∈ out ↔ Rch t f g) ∧ out.length ≤ 1000 ∧ Below w.heap.size w w' := by
 obtain ⟨ag, ng, cg, rfl⟩ := hg
 have HFu : Hid (Funcs w vf t.funcs) := hfu
 obtain ⟨af, cf, rfl, -⟩ := hfu
 have HSm : Hid (∀ g ∈ t.funcs, smallF g) := hsm
 have HCp : Hid (∀ a n c, vfr = .slice a n c → n ≤ c) := hcap
 have HFr : Hid (Ints w vfr [(f : Int)]) := hfr
 obtain ⟨afr, cfr, rfl, hfc⟩ := hfr
 obtain ⟨bf, rfl, hfd⟩ := hfc (by simp)
 have hbf : bf < w.heap.size := World.block_lt_of_cell? _ _ (hfd 0 (by simp))
 obtain ⟨i1, hj, hy0, hy1, hy2⟩ := info_parts info_i64
 obtain ⟨n, hn⟩ : ∃ n, n = t.funcs.length := ⟨_, rfl⟩
 have HN : Hid (n = t.funcs.length) := hn
 rw [← hn] at HFu hf hl ⊢
 clear hn hsm hcap hfc hfd
 go_enter Tryz.func26, Tryz.ntmps26
 go_wp2_with fail
 have HI0 : Hid (IRow (w.heap.size + 1) ((w.alloc (.cells #[.slice ag ng cg, .slice af n cf] 26)).alloc (.cells #[] 2)) (.slice (some ⟨w.heap.size + 1, 0, none⟩) 0 0) []) := by
  have := irow_lit (w.alloc (.cells #[.slice ag ng cg, .slice af n cf] 26)) (w.heap.size + 1) (by simp)
  rw [World.size_alloc] at this
  exact this
 have hB0 : Below (w.heap.size + 1) (w.alloc (.cells #[.slice ag ng cg, .slice af n cf] 26)) ((w.alloc (.cells #[.slice ag ng cg, .slice af n cf] 26)).alloc (.cells #[] 2)) := (Below.refl _ _).alloc (by simp) _
 go_loopg [5, 6] (n + 1) (fun gk ov wv wr => ∃ (out work : List Nat), gk = (n - out.length) + work.length ∧ gk ≤ n + 1 ∧ RInv t f out work ∧ IRow (w.heap.size + 1) wr ov out ∧ Ints wr wv (work.map (fun g : Nat => (g : Int))) ∧ (∀ a n c, wv = .slice a n c → n ≤ c) ∧ (∀ g, wv.ownBlock = some g → ov.ownBlock ≠ some g) ∧ Below (w.heap.size + 1) (w.alloc (.cells #[.slice ag ng cg, .slice af n cf] 26)) wr)
 case atStart => exact ⟨[], [f], by simp, Nat.le_refl _, RInv.start t f, HI0.out, HFr.out.below (one_below hB0), HCp.out, fun g hg => by simp only [Value.ownBlock, Option.some.injEq] at hg; simp only [Value.ownBlock, ne_eq, Option.some.injEq]; omega, hB0⟩
 case round =>
  clear HI0 hB0 HFr HCp hbf
  obtain ⟨out, work, hgk, hgn, hI, hO, hW, hcp, hne, hB⟩ := hrel
  have hBw := one_below hB
  obtain ⟨x0, x1⟩ := box2 hB
  have hT0 : w.heap.size + 1 ≤ wr.heap.size := by have := hB.size; simpa using this
  obtain ⟨a5, c5, rfl⟩ := hO.shape
  have HO : Hid (IRow (w.heap.size + 1) wr (.slice a5 out.length c5) out) := hO
  have hol := hI.len
  rw [← HN.out] at hol
  cases work with
  | nil =>
   have HE : Hid (∀ g, g ∈ out ↔ Rch t f g) := fun g => hI.all g
   obtain ⟨a6, c6, rfl, -⟩ := hW
   simp only [List.map_nil, List.length_nil]
   clear hI hO hcp hne x0 x1
   go_wp2_with fail
   go_ret
   exact ⟨_, out, rfl, IRow.base HO.out (by omega), HE.out, by omega, hBw⟩
  | cons x rest =>
   have hxn : x < n := by have := hI.lt (by rw [← HN.out]; exact hf) x (by simp); rw [HN.out]; exact this
   have HM : Hid (RMid t f x [] out rest) := hI.take (by simp) (fun y => by simp)
   obtain ⟨a6, c6, rfl, hwc⟩ := hW
   simp only [List.map_cons, List.length_cons, List.length_map] at hwc hcp hne hgk ⊢
   obtain ⟨b6, rfl, hwd⟩ := hwc (by omega)
   have q6 : wr.cell? ⟨b6, 0, none⟩ = some (.int .i64 (x : Int)) := by have := hwd 0 (by simp); simpa using this
   have hb6 : b6 < wr.heap.size := World.block_lt_of_cell? _ _ q6
   have hc6 : rest.length + 1 ≤ c6 := hcp _ _ _ rfl
   have HWC : Hid (∀ j, j < rest.length → ∀ (h : j < rest.length), wr.cell? ⟨b6, j + 1, none⟩ = some (.int .i64 (rest[j] : Int))) := fun j hj h => by
    have := hwd (j + 1) (by omega)
    simpa using this
   have hrl : rest.length ≤ 2000 := by omega
   obtain ⟨ad, hsl, had⟩ := tail_run b6 (rest.length + 1) c6 (by omega) hc6
   simp only [Nat.add_sub_cancel] at hsl had
   have HAd : Hid (∀ j, j < rest.length → ad.add j = ⟨b6, j + 1, none⟩) := had
   have hxl : x < t.funcs.length := by rw [← HN.out]; exact hxn
   have hdr : Below wr.heap.size wr wr.drew := (Below.refl _ _).drew
   have HCl : Hid (Calls Tryz.prog 54 #[.agg #[.slice ag ng cg, .slice af n cf], .int .i64 (x : Int)] wr.drew fun e w' => ∃ v, e = .returned v ∧ IRow wr.drew.heap.size w' v (callsL t.funcs t.funcs[x].body) ∧ Below wr.drew.heap.size wr.drew w') := l3calls_row t.funcs _ _ x wr.drew hxl (by rw [← HN.out]; omega) (HSm.out _ (List.getElem_mem hxl)) ⟨_, _, _, rfl⟩ (HFu.out.below (hBw.drew))
   obtain ⟨L, hL⟩ : ∃ L, L = callsL t.funcs t.funcs[x].body := ⟨_, rfl⟩
   rw [← hL] at HCl
   have HL : Hid (∀ y, CallR t x y ↔ y ∈ L) := fun y => by rw [hL]; exact CallR.mem hxl
   have hLn : L.length ≤ 1000 := by
    have h1 : L.Nodup := by
     rw [hL]
     unfold callsL
     exact List.Pairwise.filter _ (List.nodup_range)
    have h2 := nodup_le n h1 (fun y hy => by have := ((HL.out y).2 hy).lt; rw [HN.out]; exact this)
    omega
   have HNe : Hid (∀ g, (Value.slice (some ⟨b6, 0, none⟩) (rest.length + 1) c6).ownBlock = some g → (Value.slice a5 out.length c5).ownBlock ≠ some g) := hne
   have hq0 : w.heap.size < wr.heap.size := by omega
   clear hI hO hwc hwd had hL hcp hne
   go_wp2_with fail
   go_region_held3 (fun W => W.cell? ⟨w.heap.size, 0, none⟩ = some (.slice ag ng cg) ∧ W.cell? ⟨w.heap.size, 1, none⟩ = some (.slice af n cf) ∧ W.cell? ⟨b6, 0, none⟩ = some (.int .i64 (x : Int))) (go_simp)
    (first
    | ((with_reducible refine Calls.mono HCl.out ?_); rintro e w2 ⟨vm, rfl, hm2, hb2⟩; have e0 : w2.cell? ⟨w.heap.size, 0, none⟩ = some (.slice ag ng cg) := (hb2.cell (p := ⟨w.heap.size, 0, none⟩) hq0).trans x0; have e1 : w2.cell? ⟨w.heap.size, 1, none⟩ = some (.slice af n cf) := (hb2.cell (p := ⟨w.heap.size, 1, none⟩) hq0).trans x1; have e2 : w2.cell? ⟨b6, 0, none⟩ = some (.int .i64 (x : Int)) := (hb2.cell (p := ⟨b6, 0, none⟩) hb6).trans q6))
   have hb2' : Below wr.heap.size wr w2 := hdr.trans hb2
   have HM2 : Hid (IRow wr.heap.size w2 vm L) := hm2
   obtain ⟨am, cm, rfl⟩ := hm2.shape
   have HO2 : Hid (IRow (w.heap.size + 1) w2 (.slice a5 out.length c5) out) := HO.out.below hb2'
   have hB2 := hB.trans (hb2'.mono hT0)
   have HLt : Hid (∀ g, (Value.slice a5 out.length c5).ownBlock = some g → g < wr.heap.size) := fun g hg => (World.ownsRow.lt HO.out g hg).2
   have hs2 : wr.heap.size ≤ w2.heap.size := hb2'.size
   have HWC2 : Hid (∀ j u, (rest.map (fun g : Nat => Value.int .i64 (g : Int)))[j]? = some u → (w2.alloc (.cells #[] 2)).cell? (ad.add j) = some u) := fun j u hu => by
    have hjl : j < rest.length := by
     have := (List.getElem?_eq_some_iff.1 hu).1
     simpa using this
    rw [HAd.out j hjl, World.cell?_alloc_lt _ _ ⟨b6, j + 1, none⟩ (by show b6 < _; omega), hb2'.cell (p := ⟨b6, j + 1, none⟩) hb6, HWC.out j hjl hjl, ← hu]
    simp [hjl]
   have HE2 : Hid (IRow w2.heap.size (w2.alloc (.cells #[] 2)) (.slice (some ⟨w2.heap.size, 0, none⟩) 0 0) []) := irow_lit w2 _ (Nat.le_refl _)
   clear hm2 hb2 hb2' e0 e1 e2 x0 x1 q6 HWC HAd HCl HO
   go_wp2_with (at_builtin; refine wpList_appF rfl _ _ _ rfl w2.heap.size 2 i1 _ 1 8 Tryz.underlying31 hj hy0 hy1 hy2 rfl (by decide) _ 0 [] rfl HE2.out ad rest.length (c6 - 1) (rest.map (fun g : Nat => Value.int .i64 (g : Int))) rfl (by simp) HWC2.out (by intro u hu; simp at hu; obtain ⟨y, _, rfl⟩ := hu; rfl) (by omega) (by decide) (by simp) ?_)
   intro v9 w3 ho9 hg9 hf9
   have hb3 : Below w2.heap.size w2 w3 := ((Below.refl w2.heap.size w2).alloc (Nat.le_refl _) _).grown hg9 (by simp) (fun g hg => by simp only [Value.ownBlock, Option.some.injEq] at hg; omega)
   have hW9 : IRow w2.heap.size w3 v9 rest := by
    show World.ownsRow _ _ _ _ _ _ _
    simpa using ho9
   have HW9 : Hid (IRow (w.heap.size + 1) w3 v9 rest) := IRow.base hW9 (by omega)
   have HO9 : Hid (IRow (w.heap.size + 1) w3 (.slice a5 out.length c5) out) := HO2.out.below hb3
   have HI9 : Hid (Ints w3 (.slice am L.length cm) (L.map (fun g : Nat => (g : Int)))) := (HM2.out.below hb3).ints
   have HD1 : Hid (∀ g, v9.ownBlock = some g → (Value.slice a5 out.length c5).ownBlock ≠ some g) := fun g hg h => by
    have h1 := (World.ownsRow.lt hW9 g hg).1
    have h2 := HLt.out g h
    omega
   have HD2 : Hid (∀ g, (Value.slice am L.length cm).ownBlock = some g → (Value.slice a5 out.length c5).ownBlock ≠ some g ∧ v9.ownBlock ≠ some g) := fun g hg => by
    have h1 := World.ownsRow.lt HM2.out g hg
    refine ⟨fun h => ?_, fun h => ?_⟩
    ·have h2 := HLt.out g h; omega
    ·have h2 := (World.ownsRow.lt hW9 g h).1; omega
   have hB3 := hB2.trans (hb3.mono (by omega))
   obtain ⟨a9, c9, rfl⟩ := hW9.shape
   clear ho9 hg9 hf9 hb3 hW9 hB2 HM2 HO2 HE2 HWC2 hB HLt
   go_wp2_with fail
   go_loopw [5, 6, 8] (fun ov wv i w4 => ∃ (j : Nat) (out2 work2 : List Nat), j ≤ L.length ∧ i = .int .i64 j ∧ RMid t f x (L.take j) out2 work2 ∧ IRow (w.heap.size + 1) w4 ov out2 ∧ IRow (w.heap.size + 1) w4 wv work2 ∧ Ints w4 (.slice am L.length cm) (L.map (fun g : Nat => (g : Int))) ∧ (∀ g, wv.ownBlock = some g → ov.ownBlock ≠ some g) ∧ (∀ g, (Value.slice am L.length cm).ownBlock = some g → ov.ownBlock ≠ some g ∧ wv.ownBlock ≠ some g) ∧ out2.length + rest.length = out.length + work2.length ∧ Below (w.heap.size + 1) (w.alloc (.cells #[.slice ag ng cg, .slice af n cf] 26)) w4) (fun _ _ i _ => L.length - (RowKit.intOf i).toNat)
   case atStart => exact ⟨0, out, rest, Nat.zero_le _, rfl, by simpa using HM.out, HO9.out, HW9.out, HI9.out, HD1.out, HD2.out, rfl, hB3⟩
   case round =>
    clear HM HO9 HW9 HI9 HD1 HD2 hB3 hs2 hT0 hBw
    obtain ⟨j, out2, work2, hj2, rfl, hM, hO, hW, hI, hd1, hd2, hlw, hB⟩ := hrel
    obtain ⟨a5, c5, rfl⟩ := hO.shape
    obtain ⟨a6, c7, rfl⟩ := hW.shape
    have HM : Hid (RMid t f x (L.take j) out2 work2) := hM
    have HO : Hid (IRow (w.heap.size + 1) wr (.slice a5 out2.length c5) out2) := hO
    have HW : Hid (IRow (w.heap.size + 1) wr (.slice a6 work2.length c7) work2) := hW
    have HI : Hid (Ints wr (.slice am L.length cm) (L.map (fun g : Nat => (g : Int)))) := hI
    have HD1 : Hid (∀ g, (Value.slice a6 work2.length c7).ownBlock = some g → (Value.slice a5 out2.length c5).ownBlock ≠ some g) := hd1
    have HD2 : Hid (∀ g, (Value.slice am L.length cm).ownBlock = some g → (Value.slice a5 out2.length c5).ownBlock ≠ some g ∧ (Value.slice a6 work2.length c7).ownBlock ≠ some g) := hd2
    have hon2 := hM.len
    rw [← HN.out] at hon2
    have hsz : w.heap.size + 1 ≤ wr.heap.size := by have := hB.size; simpa using this
    have hwl : work2.length ≤ 5000 := by omega
    clear hM hO hW hd1 hd2
    by_cases hjl : j < L.length
    ·obtain ⟨_, _, he0, hic⟩ := hI
     simp only [Value.slice.injEq, List.length_map, true_and] at he0 hic
     obtain ⟨rfl, rfl⟩ := he0
     obtain ⟨bm, rfl, hmc⟩ := hic (by omega)
     have d0 : wr.cell? ⟨bm, j, none⟩ = some (.int .i64 (L[j] : Int)) := by have := hmc j hjl; simpa using this
     have hbm : bm < wr.heap.size := World.block_lt_of_cell? _ _ d0
     have HT1 : Hid (L.take (j + 1) = L.take j ++ [L[j]]) := take_succ L j hjl
     have HYC : Hid (CallR t x L[j]) := (HL.out _).2 (List.getElem_mem hjl)
     clear hmc hic
     generalize L[j] = y at d0 HT1 HYC
     have HHs : Hid (Calls Tryz.prog 27 #[.slice a5 out2.length c5, .int .i64 (y : Int)] wr fun e w' => e = .returned (.bool (decide (y ∈ out2))) ∧ Below wr.heap.size wr w') := l3has_any out2 _ y wr (by omega) HO.out.ints
     go_wp2_with fail
     refine HHs.out.mono ?_
     rintro e w5 ⟨rfl, hb5⟩
     have d5 := (hb5.cell (p := ⟨bm, j, none⟩) hbm).trans d0
     have HO5 : Hid (IRow (w.heap.size + 1) w5 (.slice a5 out2.length c5) out2) := HO.out.below hb5
     have HW5 : Hid (IRow (w.heap.size + 1) w5 (.slice a6 work2.length c7) work2) := HW.out.below hb5
     have HI5 : Hid (Ints w5 (.slice (some ⟨bm, 0, none⟩) L.length cm) (L.map (fun g : Nat => (g : Int)))) := HI.out.below hb5
     have hB5 := hB.trans (hb5.mono hsz)
     have hbm5 : bm < w5.heap.size := Nat.lt_of_lt_of_le hbm hb5.size
     have hsz5 : w.heap.size + 1 ≤ w5.heap.size := Nat.le_trans hsz hb5.size
     clear hb5 HHs d0 HO HW HI hB hbm
     by_cases hy : y ∈ out2
     ·rw [decide_eq_true hy]
      have HM2 : Hid (RMid t f x (L.take (j + 1)) out2 work2) := by show RMid _ _ _ _ _ _; rw [HT1.out]; exact HM.out.old hy
      clear hy
      go_wp2_with fail
      go_roundw
      case rel => exact ⟨j + 1, out2, work2, by omega, by go_num, HM2.out, HO5.out, HW5.out, HI5.out, HD1.out, HD2.out, hlw, hB5⟩
      case measure => simp [RowKit.intOf]; omega
     ·rw [decide_eq_false hy]
      have HM2 : Hid (RMid t f x (L.take (j + 1)) (out2 ++ [y]) (work2 ++ [y])) := by show RMid _ _ _ _ _ _; rw [HT1.out]; exact HM.out.new hy HYC.out
      clear hy
      go_wp2_with (at_builtin; refine wpList_appF rfl _ _ _ rfl (w.heap.size + 1) 2 i1 _ 1 8 Tryz.underlying31 hj hy0 hy1 hy2 rfl (by decide) _ out2.length (out2.map (fun g : Nat => Value.int .i64 (g : Int))) rfl (HO5.out.below ((Below.refl _ _).alloc (Nat.le_refl _) _)) ⟨w5.heap.size, 0, none⟩ 1 1 [.int .i64 (y : Int)] rfl rfl (cell_one_new _ _ _) (by simp [Value.oneCell']) (by omega) (by decide) (by simp; omega) ?_)
      intro v6 w6 ho6 hg6 hf6
      have HO6 : Hid (IRow (w.heap.size + 1) w6 v6 (out2 ++ [y])) := by
       show World.ownsRow _ _ _ _ _ _ _
       simpa using ho6
      have hal : Below w5.heap.size w5 (w5.alloc (.cells #[.int .i64 (y : Int)] 2)) := (Below.refl _ _).alloc (Nat.le_refl _) _
      have HW6 : Hid (IRow (w.heap.size + 1) w6 (.slice a6 work2.length c7) work2) := (HW5.out.below hal).grown hg6 (fun g hg => HD1.out g hg)
      have HI6 : Hid (Ints w6 (.slice (some ⟨bm, 0, none⟩) L.length cm) (L.map (fun g : Nat => (g : Int)))) := (HI5.out.below hal).grown hg6 (fun g hg => (HD2.out g hg).1)
      have d6 : w6.cell? ⟨bm, j, none⟩ = some (.int .i64 (y : Int)) := (World.cell?_of_block (a := ⟨bm, j, none⟩) (hg6.block bm (by simp; omega) (fun e => (HD2.out bm rfl).1 e.symm))).trans ((hal.cell (p := ⟨bm, j, none⟩) hbm5).trans d5)
      have hB6 := (hB5.alloc hsz5 (.cells #[.int .i64 (y : Int)] 2)).grown hg6 (by simp; omega) (fun g hg => (World.ownsRow.lt HO5.out g hg).1)
      have hsz6 : w5.heap.size + 1 ≤ w6.heap.size := by have := hg6.size; simpa using this
      have HL5 : Hid (∀ g, (Value.slice a6 work2.length c7).ownBlock = some g → g < w5.heap.size) := fun g hg => (World.ownsRow.lt HW5.out g hg).2
      have HD61 : Hid (∀ g, (Value.slice a6 work2.length c7).ownBlock = some g → v6.ownBlock ≠ some g) := fun g hg h => by
       rcases hf6 g h with h1 | h1
       ·exact HD1.out g hg h1
       ·have := HL5.out g hg; omega
      have HD62 : Hid (bm < w5.heap.size ∧ v6.ownBlock ≠ some bm) := ⟨hbm5, fun h => by
       rcases hf6 bm h with h1 | h1
       ·exact (HD2.out bm rfl).1 h1
       ·omega⟩
      have HL6 : Hid (∀ g, v6.ownBlock = some g → g < w6.heap.size) := fun g hg => (World.ownsRow.lt HO6.out g hg).2
      obtain ⟨a8, c8, rfl⟩ := HO6.out.shape
      have hle8 : (out2 ++ [y]).length = out2.length + 1 := by simp
      rw [hle8] at HO6 HD61 HD62 HL6 ⊢
      clear ho6 hg6 hf6 hal HO5 HW5 HI5 d5 hB5 HD1 HM hle8
      go_wp2_with (at_builtin; refine wpList_appF rfl _ _ _ rfl (w.heap.size + 1) 2 i1 _ 1 8 Tryz.underlying31 hj hy0 hy1 hy2 rfl (by decide) _ work2.length (work2.map (fun g : Nat => Value.int .i64 (g : Int))) rfl (HW6.out.below ((Below.refl _ _).alloc (Nat.le_refl _) _)) ⟨w6.heap.size, 0, none⟩ 1 1 [.int .i64 (y : Int)] rfl rfl (cell_one_new _ _ _) (by simp [Value.oneCell']) (by omega) (by decide) (by simp; omega) ?_)
      intro v7 w7 ho7 hg7 hf7
      have HW7 : Hid (IRow (w.heap.size + 1) w7 v7 (work2 ++ [y])) := by
       show World.ownsRow _ _ _ _ _ _ _
       simpa using ho7
      have hal : Below w6.heap.size w6 (w6.alloc (.cells #[.int .i64 (y : Int)] 2)) := (Below.refl _ _).alloc (Nat.le_refl _) _
      have HO7 : Hid (IRow (w.heap.size + 1) w7 (.slice a8 (out2.length + 1) c8) (out2 ++ [y])) := (HO6.out.below hal).grown hg7 (fun g hg h => HD61.out g h hg)
      have HI7 : Hid (Ints w7 (.slice (some ⟨bm, 0, none⟩) L.length cm) (L.map (fun g : Nat => (g : Int)))) := (HI6.out.below hal).grown hg7 (fun g hg => (HD2.out g hg).2)
      have hB7 := (hB6.alloc (by omega) (.cells #[.int .i64 (y : Int)] 2)).grown hg7 (by simp; omega) (fun g hg => (World.ownsRow.lt HW6.out g hg).1)
      have HD71 : Hid (∀ g, v7.ownBlock = some g → (Value.slice a8 (out2.length + 1) c8).ownBlock ≠ some g) := fun g hg h => by
       rcases hf7 g hg with h1 | h1
       ·exact HD61.out g h1 h
       ·have := HL6.out g h; omega
      have HD72 : Hid (∀ g, (Value.slice (some ⟨bm, 0, none⟩) L.length cm).ownBlock = some g → (Value.slice a8 (out2.length + 1) c8).ownBlock ≠ some g ∧ v7.ownBlock ≠ some g) := fun g hg => by
       simp only [Value.ownBlock, Option.some.injEq] at hg
       subst hg
       refine ⟨HD62.out.2, fun h => ?_⟩
       rcases hf7 _ h with h1 | h1
       ·exact (HD2.out _ rfl).2 h1
       ·have := HD62.out.1; omega
      obtain ⟨a7, c9', rfl⟩ := HW7.out.shape
      have hle7 : (work2 ++ [y]).length = work2.length + 1 := by simp
      rw [hle7] at HW7 HD71 HD72 ⊢
      clear ho7 hg7 hf7 hal HO6 HW6 HI6 d6 hB6 HD61 HD62 HL5 HL6 HD2 hle7
      go_wp2_with fail
      go_roundw
      case rel => exact ⟨j + 1, out2 ++ [y], work2 ++ [y], by omega, by go_num, HM2.out, by simpa using HO7.out, by simpa using HW7.out, HI7.out, by simpa using HD71.out, by simpa using HD72.out, by simp; omega, hB7⟩
      case measure => simp [RowKit.intOf]; omega
    ·have HMd : Hid (RInv t f out2 work2) := by
      have h1 := HM.out
      rw [List.take_of_length_le (by omega)] at h1
      exact h1.done (fun y hy => (HL.out y).1 hy)
     clear hI
     go_wp2_with fail
     go_roundg ((n - out2.length) + work2.length)
     case measure => omega
     case rel => exact ⟨out2, work2, rfl, by omega, HMd.out, HO.out, HW.out.ints, HW.out.cap, HD1.out, hB⟩
end
end Go.Proofs.YtjhmgjimppflhaaGreatDoor
