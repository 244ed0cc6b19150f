import Derived.Deep.RegionHeld3
import Derived.Test.YtjhmgjimppflhaaGreatDoorZ53
import Derived.RegionTactic
set_option linter.unusedSectionVars false
variable [Inhabited Go.Proofs.YtjhmgjimppflhaaGreatDoor.Pick]
namespace Go.Proofs.YtjhmgjimppflhaaGreatDoor
set_option linter.unusedVariables false
set_option linter.unusedSimpArgs false
set_option maxRecDepth 100000
set_option maxHeartbeats 16000000
section
open Go.RowKit
/-- What Calls answers. -/
def callsF (t : Tr) (z : Int) : List Nat := if h : 0 ≤ z ∧ z.toNat < t.funcs.length ∧ treeB t = true then callsL t.funcs (t.funcs[z.toNat]'h.2.1).body else []
theorem callsF_yes {t : Tr} {k : Nat} (hk : k < t.funcs.length) (h : treeB t = true) : callsF t (k : Int) = callsL t.funcs t.funcs[k].body := by
  unfold callsF
  rw [dif_pos ⟨by omega, by simpa using hk, h⟩]
  simp
theorem callsF_no {t : Tr} {z : Int} (h : z < 0 ∨ (t.funcs.length : Int) ≤ z ∨ treeB t = false) : callsF t z = [] := by
  unfold callsF
  rw [dif_neg]
  rintro ⟨h1, h2, h3⟩
  rcases h with h | h | h
  · omega
  · omega
  · rw [h3] at h; cases h
theorem callsF_len (t : Tr) (z : Int) : (callsF t z).length ≤ t.funcs.length := by
  unfold callsF
  split
  · exact callsL_len _ _
  · simp
theorem own_none (w : World) (B : Nat) (hB : B ≤ w.heap.size) : (w.alloc (.cells #[] 2)).ownsRow B 2 1 (.slice (some ⟨w.heap.size, 0, none⟩) 0 0) 0 [] :=
  World.ownsRow_lit w #[] 0 hB (by decide) rfl
theorem bcellC {W w1 : World} (hb : Below W.heap.size W w1) : (∀ b o, b < W.heap.size → w1.cell? ⟨b, o, none⟩ = W.cell? ⟨b, o, none⟩) ∧ (∀ b o, b < W.heap.size → w1.frozen? ⟨b, o, none⟩ = W.frozen? ⟨b, o, none⟩) :=
  ⟨fun b o h => hb.cell (p := ⟨b, o, none⟩) h, fun b o h => hb.frozen (p := ⟨b, o, none⟩) h⟩
set_option maxRecDepth 100000 in
set_option maxHeartbeats 4000000 in
theorem callsI_any (t : Tr) (vg vf : Value) (z : Int) (w : World) (hT : Tab w) (ht : smallT t) (hw : wfT t) (hg : Globs w vg t.globals) (hf : Funcs w vf t.funcs) :
    Calls Tryz.prog 8 #[.agg #[vg, vf], .int .i64 z] w fun e w' => ∃ v, e = .returned v ∧ w'.ownsRow w.heap.size 2 1 v (callsF t z).length ((callsF t z).map (fun g : Nat => Value.int .i64 (g : Int))) ∧ Below w.heap.size w w' := by
  have HT : Hid (Tab w) := hT
  have hsz := hT.size
  have HS : Hid (smallT t) := ht
  have HW : Hid (wfT t) := hw
  have HG : Hid (Globs w vg t.globals) := hg
  have HF : Hid (Funcs w vf t.funcs) := hf
  have hfl : t.funcs.length ≤ 1048576 := ht.2.1
  obtain ⟨ag, cg, rfl, -⟩ := hg
  obtain ⟨af, cf, rfl, -, -, hfc⟩ := hf
  have HFC : Hid (0 < t.funcs.length → ∃ b off, af = some ⟨b, off, none⟩ ∧ FuncsC w b off t.funcs) := hfc
  clear hT ht hw hfc
  have hA : Below w.heap.size w (w.alloc (.cells #[.slice ag t.globals.length cg, .slice af t.funcs.length cf] 26)) := (Below.refl _ _).alloc (Nat.le_refl _) _
  by_cases h1 : z < 0
  · rw [callsF_no (.inl h1)]
    go_enter Tryz.func8, Tryz.ntmps8
    go_wp2_with fail
    go_ret
    exact ⟨_, rfl, (by have := own_none (w.alloc (.cells #[.slice ag t.globals.length cg, .slice af t.funcs.length cf] 26)) w.heap.size hA.size; rw [World.size_alloc] at this; exact this), hA.alloc hA.size _⟩
  by_cases h2 : (t.funcs.length : Int) ≤ z
  · rw [callsF_no (.inr (.inl h2))]
    go_enter Tryz.func8, Tryz.ntmps8
    go_wp2_with fail
    go_ret
    exact ⟨_, rfl, (by have := own_none (w.alloc (.cells #[.slice ag t.globals.length cg, .slice af t.funcs.length cf] 26)) w.heap.size hA.size; rw [World.size_alloc] at this; exact this), hA.alloc hA.size _⟩
  go_enter Tryz.func8, Tryz.ntmps8
  go_wp2_with fail
  refine (vtree_any t _ _ _ (HT.out.below hsz hA) HS.out (HG.out.below hA) (HF.out.below hA)).mono ?_
  rintro e w1 ⟨rfl, hb1⟩
  simp only [World.size_alloc] at hb1
  have hB1 := one_below hb1
  cases hv : treeB t
  · have HR : Hid (callsF t z = []) := callsF_no (.inr (.inr hv))
    clear hv
    go_wp2_with fail
    go_ret
    exact ⟨_, rfl, by rw [HR.out]; exact own_none _ _ hB1.size, hB1.alloc hB1.size _⟩
  · obtain ⟨k, rfl⟩ : ∃ k : Nat, z = (k : Int) := ⟨z.toNat, by omega⟩
    have hk : k < t.funcs.length := by omega
    have HR : Hid (callsF t (k : Int) = callsL t.funcs t.funcs[k].body) := callsF_yes hk hv
    obtain ⟨b, off, rfl, hc⟩ := HFC.out (by omega)
    obtain ⟨vp, vb, ⟨d0, d1, d2⟩, hp, hb⟩ := (hc.below hB1) k hk
    have hlb : b < w1.heap.size := World.block_lt_of_cell? _ _ d0
    have HSf : Hid (smallF t.funcs[k]) := HS.out.2.2 _ (List.getElem_mem hk)
    have HWf : Hid (wfFu t.funcs[k]) := HW.out.2.2 _ (List.getElem_mem hk)
    have HP : Hid (Strs w1 vp t.funcs[k].params) := hp
    have HBd : Hid (Stmts w1 vb t.funcs[k].body) := hb
    have HF1 : Hid (Funcs w1 (.slice (some ⟨b, off, none⟩) t.funcs.length cf) t.funcs) := HF.out.below hB1
    obtain ⟨ap, cp, rfl, -⟩ := hp
    obtain ⟨ab, cb, rfl, -⟩ := hb
    obtain ⟨x0, x1⟩ := box2 hb1
    have hl0 : w.heap.size < w1.heap.size := by have := hb1.size; simp at this; omega
    have hdr : Below w1.heap.size w1 w1.drew := (Below.refl _ _).drew
    clear hc hv h1 h2
    generalize t.funcs[k] = f at d0 d1 d2 HSf HWf HP HBd HR
    have HWt : Hid (wfFs t.funcs) := HW.out.2
    go_wp2_with fail
    go_region_held3 (fun W => W.cell? ⟨w.heap.size, 0, none⟩ = some (.slice ag t.globals.length cg) ∧ W.cell? ⟨w.heap.size, 1, none⟩ = some (.slice (some ⟨b, off, none⟩) t.funcs.length cf) ∧ W.cell? ⟨b, off + k * 3, none⟩ = some (.string f.name) ∧ W.cell? ⟨b, off + k * 3 + 1, none⟩ = some (.slice ap f.params.length cp) ∧ W.cell? ⟨b, off + k * 3 + 2, none⟩ = some (.slice ab f.body.length cb)) (go_simp)
      (first
      | (go_at_call 32; refine (fnums_any t.funcs _ _ _ hfl HWt.out (HF1.out.below hdr)).mono ?_; rintro e w2 ⟨bm, D, rfl, hbm, hM2, hN2, hb2⟩; have hcc : ∀ b o, b < w1.heap.size → w2.cell? ⟨b, o, none⟩ = w1.cell? ⟨b, o, none⟩ := (bcellC hb2).1; have HM2 : Hid (w2.ownsMap Tryz.prog 9 (plainElem (H := Unit) Tryz.prog 2) bm t.funcs.length D) := hM2; have HN2 : Hid (NumIs D t.funcs) := hN2; clear hM2 hN2; have hl02 : w.heap.size < w2.heap.size := Nat.lt_of_lt_of_le hl0 hb2.size; have hlb2 : b < w2.heap.size := Nat.lt_of_lt_of_le hlb hb2.size)
      | (go_at_call 31; refine (callsOf_any t.funcs f _ _ bm t.funcs.length D _ hfl HSf.out HWf.out (HP.out.below (hdr.trans hb2)) (HBd.out.below (hdr.trans hb2)) HM2.out HN2.out).mono ?_; rintro e w3 ⟨v3, rfl, hr3, hb3⟩; have hcc : ∀ b o, b < w2.heap.size → w3.cell? ⟨b, o, none⟩ = w2.cell? ⟨b, o, none⟩ := (bcellC hb3).1))
    have hb13 : Below w1.heap.size w1 w3 := (hdr.trans hb2).trans (hb3.mono hb2.size)
    have HRow : Hid (w3.ownsRow w2.heap.size 2 1 v3 (callsL t.funcs f.body).length ((callsL t.funcs f.body).map (fun g : Nat => Value.int .i64 (g : Int)))) := hr3
    have hB3 := hB1.trans (hb13.mono hB1.size)
    have hs2 : w.heap.size ≤ w2.heap.size := Nat.le_of_lt hl02
    clear hr3 hb13 hb3 hb2
    go_wp2_with fail
    go_ret
    exact ⟨v3, rfl, by rw [HR.out]; exact ownsRow_base_a HRow.out hs2, hB3⟩
end
section
open Go.RowKit
theorem useE_ne (gs : List Gl) (sc : List ByteArray) (s : ByteArray) (a : Bool) : useE gs sc s a ≠ 1 := by
  unfold useE
  (repeat' split) <;> decide
theorem nodeE_ne (t : Tr) (sc : List ByteArray) (n : Nd) : nodeE t sc n ≠ 1 := by
  unfold nodeE
  split
  · exact useE_ne _ _ _ _
  · split
    · split
      · decide
      · split <;> decide
    · decide
theorem exprE_ne (t : Tr) (sc : List ByteArray) : ∀ ns : List Nd, exprE t sc ns ≠ 1
  | [] => by simp [exprE]
  | n :: r => by
    unfold exprE
    split
    · exact exprE_ne t sc r
    · exact nodeE_ne _ _ _
theorem stmtE_ne (t : Tr) (sc tk : List ByteArray) (s : St) : stmtE t sc tk s ≠ 1 := by
  unfold stmtE
  split
  · exact exprE_ne _ _ _
  · split
    · split <;> decide
    · split
      · exact useE_ne _ _ _ _
      · decide
theorem blkE_ne (t : Tr) : ∀ (n : Nat) (ss : List St) (a : Int) (sc tk : List ByteArray), ss.length ≤ n → (blkE t ss a sc tk).1 ≠ 1
  | n, [], a, sc, tk, _ => by
    (first | rw [blkE_cons] | rw [blkE_nil0])
    simp
  | 0, s :: r, a, sc, tk, h => by simp at h
  | n + 1, s :: r, a, sc, tk, h => by
    simp only [List.length_cons] at h
    have h1 := fun (x : List St) (hx : x.length ≤ r.length) a sc tk => blkE_ne t n x a sc tk (by omega)
    (first | rw [blkE_cons] | rw [blkE_nil0])
    split
    · exact stmtE_ne _ _ _ _
    · simp only
      (repeat' split) <;> (refine h1 _ ?_ _ _ _; simp only [List.length_take, List.length_drop]; omega)
theorem bodyE_ne (t : Tr) (i : Nat) (f : Fu) : (bodyE t i f).1 ≠ 1 := by
  unfold bodyE
  split
  · simp
  · split
    · exact blkE_ne t _ _ _ _ _ (Nat.le_refl _)
    · simp
theorem bodiesE_ne (t : Tr) : ∀ (fs : List Fu) (i : Nat), (bodiesE t i fs).1 ≠ 1
  | [], i => by simp [bodiesE]
  | f :: r, i => by
    unfold bodiesE
    split
    · exact bodyE_ne _ _ _
    · exact bodiesE_ne t r (i + 1)
theorem circE_ne (t : Tr) (m : Nat) : ∀ (n i : Nat), (circE t m i n).1 ≠ 1
  | 0, i => by simp [circE]
  | n + 1, i => by
    unfold circE
    split
    · simp
    · exact circE_ne t m n (i + 1)
theorem namesE_ne (t : Tr) : (namesE t).1 ≠ 1 := by
  unfold namesE
  split
  · simp
  · split
    · simp
    · split
      · simp
      · split <;> simp
theorem check_treeN {t : Tr} (h : (checkE t).1 = 1) : treeB t = false := by
  unfold checkE at h
  split at h
  · assumption
  · split at h
    · exact absurd h (namesE_ne t)
    · split at h
      · exact absurd h (bodiesE_ne t _ _)
      · exact absurd h (circE_ne t _ _ _)
theorem callsF_nd (t : Tr) (z : Int) : (callsF t z).Nodup := by
  unfold callsF
  split
  · exact List.nodup_range.filter _
  · exact List.nodup_nil
theorem callsF_call {t : Tr} {k x : Nat} (hk : k < t.funcs.length) (hb : treeB t = true) (h : x ∈ callsF t (k : Int)) : CallR t k x := by
  rw [callsF_yes hk hb] at h
  refine ⟨hk, ?_⟩
  simpa [List.getD, hk] using h
/-- A list of functions, each once, all come to from m. -/
structure Liv (t : Tr) (m : Nat) (L : List Nat) : Prop where
  nd : L.Nodup
  come : ∀ x ∈ L, x = m ∨ Rch t m x
  lt : ∀ x ∈ L, x < t.funcs.length
theorem Liv.len {t : Tr} {m : Nat} {L : List Nat} (h : Liv t m L) : L.length ≤ t.funcs.length := by
  have := nodup_len L (List.range t.funcs.length) h.nd (fun x hx => List.mem_range.2 (h.lt x hx))
  simpa using this
theorem Liv.start {t : Tr} {m : Nat} (hm : m < t.funcs.length) : Liv t m [m] := ⟨by simp, by simp, by simpa using hm⟩
theorem nd_snoc {L : List Nat} {x : Nat} (h : L.Nodup) (hx : x ∉ L) : (L ++ [x]).Nodup := by
  rw [List.nodup_append]
  exact ⟨h, by simp, fun a ha b hb e => by simp only [List.mem_singleton] at hb; subst hb; subst e; exact hx ha⟩
theorem Liv.add {t : Tr} {m x y : Nat} {L : List Nat} (h : Liv t m L) (hx : x ∈ L) (hb : treeB t = true) (hy : y ∈ callsF t (x : Int)) (hn : y ∉ L) : Liv t m (L ++ [y]) := by
  have hc := callsF_call (h.lt x hx) hb hy
  refine ⟨nd_snoc h.nd hn, fun z hz => ?_, fun z hz => ?_⟩
  · rcases List.mem_append.1 hz with hz | hz
    · exact h.come z hz
    · simp only [List.mem_singleton] at hz
      subst hz
      rcases h.come x hx with rfl | hr
      · exact .inr (.one hc)
      · exact .inr (.step hr hc)
  · rcases List.mem_append.1 hz with hz | hz
    · exact h.lt z hz
    · simp only [List.mem_singleton] at hz
      subst hz
      exact hc.lt
/-- What x comes to, each once. -/
structure Frm (t : Tr) (x : Nat) (F : List Nat) : Prop where
  nd : F.Nodup
  come : ∀ y ∈ F, Rch t x y
theorem Frm.len {t : Tr} {x : Nat} {F : List Nat} (h : Frm t x F) : F.length ≤ t.funcs.length := by
  have := nodup_len F (List.range t.funcs.length) h.nd (fun y hy => List.mem_range.2 (h.come y hy).lt)
  simpa using this
theorem Frm.start {t : Tr} {x : Nat} (hx : x < t.funcs.length) (hb : treeB t = true) : Frm t x (callsF t (x : Int)) := ⟨callsF_nd _ _, fun y hy => .one (callsF_call hx hb hy)⟩
theorem Frm.add {t : Tr} {x y z : Nat} {F : List Nat} (h : Frm t x F) (hy : y ∈ F) (hb : treeB t = true) (hz : z ∈ callsF t (y : Int)) (hn : z ∉ F) : Frm t x (F ++ [z]) := by
  have hr := h.come y hy
  refine ⟨nd_snoc h.nd hn, fun u hu => ?_⟩
  rcases List.mem_append.1 hu with hu | hu
  · exact h.come u hu
  · simp only [List.mem_singleton] at hu
    subst hu
    exact .step hr (callsF_call hr.lt hb hz)
theorem irow_oneN (w : World) (x : Nat) : IRow w.heap.size (w.alloc (.cells #[.int .i64 (x : Int)] 2)) (.slice (some ⟨w.heap.size, 0, none⟩) 1 1) [x] :=
  World.ownsRow_lit w #[.int .i64 (x : Int)] 1 (Nat.le_refl _) (by decide) rfl
/-- append of a number to a row of numbers. -/
theorem irow_app {B : Nat} {w : World} {v : Value} {L : List Nat} (h : IRow B w v L) (hB : B ≤ w.heap.size) (x : Nat) (hl : L.length ≤ 100000) :
    ∃ va vn vc w', (Builtin.append_ #[31, 31] 31 #[v, .slice (some ⟨w.heap.size, 0, none⟩) 1 1]).run Tryz.prog (w.alloc (.cells #[.int .i64 (x : Int)] 2)) = .ok (.slice va vn vc) w' ∧ IRow B w' (.slice va vn vc) (L ++ [x]) ∧ vn = L.length + 1 ∧ Below B w w' ∧ Tcs (fun j => v.ownBlock = some j) w w' ∧ ∀ k, (Value.slice va vn vc).ownBlock = some k → v.ownBlock = some k ∨ w.heap.size ≤ k := by
  obtain ⟨i0, hi, hz0, hz1, hz2⟩ := info_parts info_i64
  have hb0 : Below w.heap.size w (w.alloc (.cells #[.int .i64 (x : Int)] 2)) := (Below.refl _ _).alloc (Nat.le_refl _) _
  have h' : (w.alloc (.cells #[.int .i64 (x : Int)] 2)).ownsRow B 2 1 v L.length (L.map (fun g : Nat => Value.int .i64 (g : Int))) := ownB h hb0
  have hlit : (w.alloc (.cells #[.int .i64 (x : Int)] 2)).ownsRow w.heap.size 2 1 (.slice (some ⟨w.heap.size, 0, none⟩) 1 1) 1 [.int .i64 (x : Int)] := World.ownsRow_lit w #[.int .i64 (x : Int)] 1 (Nat.le_refl _) (by decide) rfl
  obtain ⟨v', w', r1, r2, r3, r4⟩ := run_appG (P := Tryz.prog) (w := w.alloc (.cells #[.int .i64 (x : Int)] 2)) B 31 31 2 i0 _ 1 8 Tryz.underlying31 hi hz0 hz1 hz2 rfl (by decide) v _ _ h' (some ⟨w.heap.size, 0, none⟩) 1 1 [.int .i64 (x : Int)] (fun e => by cases e) rfl (fun ad had j u hu => by cases had; exact World.ownsRow.cells hlit (g := w.heap.size) rfl j u hu) (fun u hu => by simp at hu; subst hu; rfl) (by omega) (by decide) (Nat.le_trans hB hb0.size)
  have r2' : IRow B w' v' (L ++ [x]) := by
    unfold IRow
    rw [List.length_append, List.map_append]
    exact r2
  obtain ⟨va, vc, rfl⟩ := r2'.shape
  exact ⟨va, _, vc, w', r1, r2', by simp, (hb0.mono hB).grown r3 (Nat.le_trans hB hb0.size) (fun j hj => (World.ownsRow.lt h' j hj).1), hb0.tcs.next (Tcs.of_grown (S := fun j => v.ownBlock = some j) r3 (fun j hj => hj)) (fun j hj => .inl hj), fun k hk => (r4 k hk).imp id (fun h => Nat.le_trans hb0.size h)⟩
theorem irow_cell {B : Nat} {w : World} {v : Value} {L : List Nat} (h : IRow B w v L) (k : Nat) (hk : k < L.length) : ∃ b c, v = .slice (some ⟨b, 0, none⟩) L.length c ∧ B ≤ b ∧ b < w.heap.size ∧ w.cell? ⟨b, k, none⟩ = some (.int .i64 (L[k] : Int)) := by
  have h0 := h
  rcases h.2 with ⟨-, hz⟩ | ⟨g, cap, cur, rfl, h1, h2, -⟩
  · omega
  · refine ⟨g, cap, rfl, h1, (Array.getElem?_eq_some_iff.1 h2).1, ?_⟩
    have := World.ownsRow.cellAt (n := L.length) h0 k (by simpa using hk)
    rw [this]
    simp [hk]
theorem irow_keep {B : Nat} {w w' : World} {v : Value} {L : List Nat} {S : Nat → Prop} (h : IRow B w v L) (ht : Tcs S w w') (hS : ∀ k, v.ownBlock = some k → ¬ S k) : IRow B w' v L := by
  have h0 : w.ownsRow B 2 1 v L.length (L.map (fun g : Nat => Value.int .i64 (g : Int))) := h
  obtain ⟨hx, h | ⟨g, cap, cur, rfl, h1, h2, h3⟩⟩ := h0
  · exact ⟨hx, .inl h⟩
  · exact ⟨hx, .inr ⟨g, cap, cur, rfl, h1, (ht.block g (Array.getElem?_eq_some_iff.1 h2).1 (hS g rfl)).trans h2, h3⟩⟩
theorem irow_rng {B : Nat} {w : World} {v : Value} {L : List Nat} (h : IRow B w v L) : ∀ k, v.ownBlock = some k → B ≤ k ∧ k < w.heap.size := fun k hk => World.ownsRow.lt h k hk
theorem mem_cast {L : List Nat} {x : Nat} : ((x : Int) ∈ L.map (fun g : Nat => (g : Int))) ↔ x ∈ L := by
  rw [List.mem_map]
  constructor
  · rintro ⟨y, hy, e⟩
    have : y = x := by omega
    subst this
    exact hy
  · exact fun h => ⟨x, h, rfl⟩
theorem newB2 {w W : World} {x y : Value} {t : TypeId} (h : W = w.alloc (.cells #[x, y] t)) : (W.cell? ⟨w.heap.size, 0, none⟩ = some x ∧ W.cell? ⟨w.heap.size, 1, none⟩ = some y) ∧ Below w.heap.size w W ∧ w.heap.size < W.heap.size := by
  subst h
  exact ⟨⟨by simp, by simp⟩, (Below.refl _ _).alloc (Nat.le_refl _) _, by simp⟩
theorem newB3 {w W : World} {x y z : Value} {t : TypeId} (h : W = w.alloc (.cells #[x, y, z] t)) : (W.cell? ⟨w.heap.size, 0, none⟩ = some x ∧ W.cell? ⟨w.heap.size, 1, none⟩ = some y ∧ W.cell? ⟨w.heap.size, 2, none⟩ = some z) ∧ Below w.heap.size w W ∧ w.heap.size < W.heap.size := by
  subst h
  exact ⟨⟨by simp, by simp, by simp⟩, (Below.refl _ _).alloc (Nat.le_refl _) _, by simp⟩
theorem keepB2 {w w' : World} {b : Nat} {x y : Value} (h : w.cell? ⟨b, 0, none⟩ = some x ∧ w.cell? ⟨b, 1, none⟩ = some y) (hb : Below w.heap.size w w') : w'.cell? ⟨b, 0, none⟩ = some x ∧ w'.cell? ⟨b, 1, none⟩ = some y := by
  have hl := World.block_lt_of_cell? _ _ h.1
  exact ⟨(hb.cell (p := ⟨b, 0, none⟩) hl).trans h.1, (hb.cell (p := ⟨b, 1, none⟩) hl).trans h.2⟩
theorem keepB3 {w w' : World} {b : Nat} {x y z : Value} (h : w.cell? ⟨b, 0, none⟩ = some x ∧ w.cell? ⟨b, 1, none⟩ = some y ∧ w.cell? ⟨b, 2, none⟩ = some z) (hb : Below w.heap.size w w') : w'.cell? ⟨b, 0, none⟩ = some x ∧ w'.cell? ⟨b, 1, none⟩ = some y ∧ w'.cell? ⟨b, 2, none⟩ = some z := by
  have hl := World.block_lt_of_cell? _ _ h.1
  exact ⟨(hb.cell (p := ⟨b, 0, none⟩) hl).trans h.1, (hb.cell (p := ⟨b, 1, none⟩) hl).trans h.2.1, (hb.cell (p := ⟨b, 2, none⟩) hl).trans h.2.2⟩
/-- A list under way: what is added to it comes out of C. -/
structure Adg (P : List Nat → Prop) (B : Nat) (w0 : World) (B5 : Nat) (v5 : Value) (C : List Nat) (k : Nat) (lv : Value) (L : List Nat) (ws : World) : Prop where
  pr : P L
  row : IRow B ws lv L
  bel : Below B w0 ws
  cr : IRow B5 ws v5 C
  ap : ∀ b, lv.ownBlock = some b → v5.ownBlock ≠ some b
  kl : k < L.length
theorem Adg.below {P : List Nat → Prop} {B : Nat} {w0 : World} {B5 : Nat} {v5 : Value} {C : List Nat} {k : Nat} {lv : Value} {L : List Nat} {ws w' : World} (h : Adg P B w0 B5 v5 C k lv L ws) (hB : B ≤ w0.heap.size) (hb : Below ws.heap.size ws w') : Adg P B w0 B5 v5 C k lv L w' :=
  ⟨h.pr, h.row.below hb, h.bel.trans (hb.mono (Nat.le_trans hB h.bel.size)), h.cr.below hb, h.ap, h.kl⟩
theorem Adg.app {P : List Nat → Prop} {B : Nat} {w0 : World} {B5 : Nat} {v5 : Value} {C : List Nat} {k : Nat} {lv : Value} {L : List Nat} {ws : World} (h : Adg P B w0 B5 v5 C k lv L ws) (hB : B ≤ w0.heap.size) (y : Nat) (hl : L.length ≤ 100000) (hP : P (L ++ [y])) :
    ∃ va vn vc w', (Builtin.append_ #[31, 31] 31 #[lv, .slice (some ⟨ws.heap.size, 0, none⟩) 1 1]).run Tryz.prog (ws.alloc (.cells #[.int .i64 (y : Int)] 2)) = .ok (.slice va vn vc) w' ∧ vn = (L ++ [y]).length ∧ Adg P B w0 B5 v5 C k (.slice va vn vc) (L ++ [y]) w' := by
  have hBs := Nat.le_trans hB h.bel.size
  obtain ⟨va, vn, vc, w', r1, r2, r3, r4, r5, r6⟩ := irow_app h.row hBs y hl
  refine ⟨va, vn, vc, w', r1, by simp [r3], hP, r2, h.bel.trans r4, irow_keep h.cr r5 (fun b hb e => h.ap b e hb), fun b hb e => ?_, by have := h.kl; simp; omega⟩
  rcases r6 b hb with h1 | h1
  · exact h.ap b h1 e
  · have := (irow_rng h.cr b e).2
    omega
end
section
open Go.RowKit
set_option maxRecDepth 100000 in
set_option maxHeartbeats 2000000 in
theorem lwHas_any (xs : List Int) (v : Value) (x : Int) (w : World) (hl : xs.length ≤ 1000000) (h : Ints w v xs) :
    Calls Tryz.prog 10 #[v, .int .i64 x] w fun e w' => e = .returned (.bool (decide (x ∈ xs))) ∧ Below w.heap.size w w' := by
  obtain ⟨a, c, rfl, hc⟩ := h
  have HC : Hid (0 < xs.length → ∃ b, a = some ⟨b, 0, none⟩ ∧ ∀ j (h : j < xs.length), w.cell? ⟨b, j, none⟩ = some (.int .i64 xs[j])) := hc
  clear hc
  go_enter Tryz.func10, Tryz.ntmps10
  go_wp2_with fail
  go_loopw [5] (fun i wr => ∃ k : Nat, k ≤ xs.length ∧ i = .int .i64 k ∧ (∀ j (hj : j < xs.length), j < k → xs[j] ≠ x) ∧ Below w.heap.size w wr) (fun i _ => xs.length - (RowKit.intOf i).toNat)
  case atStart => exact ⟨0, Nat.zero_le _, rfl, fun j hj h => absurd h (Nat.not_lt_zero _), Below.refl _ _⟩
  case round =>
    obtain ⟨k, hk, rfl, hn, hB⟩ := hrel
    have HN : Hid (∀ j (hj : j < xs.length), j < k → xs[j] ≠ x) := hn
    clear hn
    by_cases hlt : k < xs.length
    · obtain ⟨b, rfl, hc⟩ := HC.out (by omega)
      have hbl := World.block_lt_of_cell? _ _ (hc k hlt)
      have d0 := (hB.cell (p := ⟨b, k, none⟩) hbl).trans (hc k hlt)
      by_cases hs : xs[k] = x
      · have HR : Hid (decide (x ∈ xs) = true) := decide_eq_true (hs ▸ List.getElem_mem hlt)
        rw [hs] at d0
        clear hc hs
        go_wp2_with fail
        go_ret
        exact ⟨ret_bool HR.out.symm, hB⟩
      · have HS : Hid (∀ j (hj : j < xs.length), j < k + 1 → xs[j] ≠ x) := fun j hj h => by
          by_cases e : j = k
          · subst e; exact hs
          · exact HN.out j hj (by omega)
        clear hc
        generalize xs[k] = y at d0 hs
        have hy : (y == x) = false := by simpa using hs
        go_wp2_with fail
        go_roundw
        case rel => exact ⟨k + 1, by omega, by go_num, HS.out, hB⟩
        case measure => simp [RowKit.intOf]; omega
    · have HR : Hid (decide (x ∈ xs) = false) := decide_eq_false (fun hm => by
        obtain ⟨j, hj, e⟩ := List.mem_iff_getElem.1 hm
        exact HN.out j hj (by omega) e)
      go_wp2_with fail
      go_ret
      exact ⟨ret_bool HR.out.symm, hB⟩
set_option maxRecDepth 100000 in
set_option maxHeartbeats 2000000 in
theorem lwMain_any (fs : List Fu) (vg vf : Value) (w : World) (hl : fs.length ≤ 1048576) (hf : Funcs w vf fs) :
    Calls Tryz.prog 9 #[.agg #[vg, vf]] w fun e w' => e = .returned (.int .i64 (fnumI fs mainS)) ∧ Below w.heap.size w w' := by
  obtain ⟨af, cf, rfl, -, -, hfc⟩ := hf
  have HFC : Hid (0 < fs.length → ∃ b off, af = some ⟨b, off, none⟩ ∧ FuncsC w b off fs) := hfc
  clear hfc
  go_enter Tryz.func9, Tryz.ntmps9
  go_wp2_with fail
  go_loopw [3] (fun i wr => ∃ k : Nat, k ≤ fs.length ∧ i = .int .i64 k ∧ (∀ j (hj : j < fs.length), j < k → fs[j].name ≠ mainS) ∧ Below (w.heap.size + 1) (w.alloc (.cells #[vg, .slice af fs.length cf] 26)) wr) (fun i _ => fs.length - (RowKit.intOf i).toNat)
  case atStart => exact ⟨0, Nat.zero_le _, rfl, fun j hj h => absurd h (Nat.not_lt_zero _), Below.refl _ _⟩
  case round =>
    obtain ⟨k, hk, rfl, hn, hB⟩ := hrel
    have HN : Hid (∀ j (hj : j < fs.length), j < k → fs[j].name ≠ mainS) := hn
    clear hn
    have hBw := one_below hB
    obtain ⟨x0, x1⟩ := box2 hB
    by_cases hlt : k < fs.length
    · obtain ⟨b, off, rfl, hc⟩ := HFC.out (by omega)
      obtain ⟨vp, vb, ⟨d0, d1, d2⟩, -, -⟩ := (hc.below hBw) k hlt
      by_cases hs : fs[k].name = mainS
      · have HR : Hid (fnumI fs mainS = k) := fnumI_some (fnum_at hlt (fun j hj => HN.out j (by omega) hj) hs)
        rw [hs, show mainS = (⟨#[109, 97, 105, 110]⟩ : ByteArray) from rfl] at d0
        clear hc hs
        go_wp2_with fail
        go_ret
        exact ⟨ret_int HR.out.symm, hBw⟩
      · have HS : Hid (∀ j (hj : j < fs.length), j < k + 1 → fs[j].name ≠ mainS) := fun j hj h => by
          by_cases e : j = k
          · subst e; exact hs
          · exact HN.out j hj (by omega)
        clear hc
        have hs' := ne_list hs
        have hs2 : (fs[k].name.toList == [109, 97, 105, 110]) = false := by
          have e : mainS.toList = [109, 97, 105, 110] := by rw [ByteArray.toList_eq]; rfl
          rw [e] at hs'
          exact hs'
        rw [show mainS = (⟨#[109, 97, 105, 110]⟩ : ByteArray) from rfl] at hs'
        generalize fs[k].name = fn at d0 hs hs' hs2
        go_wp2_with fail
        go_roundw
        case rel => exact ⟨k + 1, by omega, by go_num, HS.out, hB⟩
        case measure => simp [RowKit.intOf]; omega
    · have HR : Hid (fnumI fs mainS = -1) := fnumI_none (fnum_no (fun j hj => HN.out j hj (by omega)))
      go_wp2_with fail
      go_ret
      exact ⟨ret_int HR.out.symm, hBw⟩
end
end Go.Proofs.YtjhmgjimppflhaaGreatDoor
