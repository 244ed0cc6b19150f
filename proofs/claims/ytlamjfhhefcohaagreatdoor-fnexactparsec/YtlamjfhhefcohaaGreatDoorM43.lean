import Derived.Test.YtlamjfhhefcohaaGreatDoorM42
namespace Go.Proofs.YtlamjfhhefcohaaGreatDoor
set_option linter.unusedVariables false
set_option linter.unusedSimpArgs false
set_option maxRecDepth 100000
set_option maxHeartbeats 16000000
section
open Go.RowKit
def PtS (R : List SV) (W : World) : Prop := ∀ x ∈ R, Nodes W x.ve x.s.e ∧ Nodes W x.vf x.s.f
def okS (R : List SV) : Prop := ∀ x ∈ R, okN x.s.e 3000 ∧ okN x.s.f 3000 ∧ x.s.name.size ≤ 100000
structure SR (B : Nat) (w : World) (v : Value) (R : List SV) (L : Nat) : Prop where
 row : DRow 46 6 (fun k => k < B) B w v R.length (flatS R) (PtS R)
 ok : okS R
 len : R.length ≤ L
theorem SR.tcs {S : Nat → Prop} {B : Nat} {w w' : World} {v : Value} {R : List SV} {L : Nat} (h : SR B w v R L) (ht : Tcs S w w') (hS : ∀ k, S k → k < B) : SR B w' v R L := ⟨h.row.tcs (ht.mono hS) (fun k hk => hk), h.ok, h.len⟩
theorem SR.below {B : Nat} {w w' : World} {v : Value} {R : List SV} {L : Nat} (h : SR B w v R L) (hb : Below w.heap.size w w') : SR B w' v R L := ⟨h.row.below hb, h.ok, h.len⟩
theorem SR.low {B B' : Nat} {w : World} {v : Value} {R : List SV} {L : Nat} (h : SR B w v R L) (hb : B' ≤ B) : SR B' w v R L := ⟨(h.row.low hb).less (fun k hk => by omega), h.ok, h.len⟩
theorem SR.more {B : Nat} {w : World} {v : Value} {R : List SV} {L L' : Nat} (h : SR B w v R L) (hl : L ≤ L') : SR B w v R L' := ⟨h.row, h.ok, Nat.le_trans h.len hl⟩
theorem SR.shape {B : Nat} {w : World} {v : Value} {R : List SV} {L : Nat} (h : SR B w v R L) : ∃ a c, v = .slice a R.length c := by
 obtain ⟨a, c, e, -⟩ := own_shape h.row.row
 exact ⟨a, c, e⟩
theorem SR.rng {B : Nat} {w : World} {v : Value} {R : List SV} {L : Nat} (h : SR B w v R L) : ∀ k, v.ownBlock = some k → B ≤ k ∧ k < w.heap.size := fun k hk => World.ownsRow.lt h.row.row k hk
theorem sr_nil (w : World) (B : Nat) (hB : B ≤ w.heap.size) : SR B (w.alloc (.cells #[] 46)) (.slice (some ⟨w.heap.size, 0, none⟩) 0 0) [] 0 :=
 ⟨⟨World.ownsRow_lit w #[] 0 hB (by decide) rfl, fun W _ x hx => by cases hx⟩, (fun x hx => by cases hx), Nat.le_refl _⟩
theorem nodes_none (W : World) : Nodes W (.slice none 0 0) [] := ⟨none, 0, rfl, Nat.le_refl _, by omega, fun h => absurd h (Nat.lt_irrefl _)⟩
theorem nrow_st {B B' : Nat} {w : World} {v : Value} {e : List Nd} (h : NRow B w v e) (hb : B' ≤ B) : ∀ W, Tcs (fun k => k < B') w W → Nodes W v e := nrow_fz h (fun k hk => by omega)
end
section
open Go.RowKit
theorem stmts_of {W : World} {B : Nat} {v : Value} {R : List SV} (h0 : W.ownsRow B 46 6 v R.length (flatS R)) (hp : PtS R W) : Stmts W v (R.map (·.s)) := by
 rcases h0.2 with ⟨rfl, hz⟩ | ⟨g, cap, cur, rfl, h3, h4, h5⟩
 ·exact ⟨none, 0, by rw [List.length_map, hz], by rw [List.length_map, hz]; exact Nat.le_refl _, by omega, fun h => by rw [List.length_map] at h; omega⟩
 ·have hc : R.length ≤ cap ∧ cap ≤ 9223372036854775807 := by
   obtain ⟨q1, q2, -⟩ := h5
   unfold maxLen at q2
   exact ⟨q1, q2⟩
  refine ⟨some ⟨g, 0, none⟩, cap, by rw [List.length_map], by rw [List.length_map]; exact hc.1, hc.2, fun hp' => ⟨g, 0, rfl, fun j hj => ?_⟩⟩
  rw [List.length_map] at hj
  have key : ∀ i, i < 6 → W.cell? ⟨g, 0 + j * 6 + i, none⟩ = (cellsS R[j])[i]? := fun i hi => by
   have hl : (flatS R).length = R.length * 6 := flatS_len R
   rw [Nat.zero_add, World.ownsRow.cellAt h0 (j * 6 + i) (by omega), flatS_get R j i hj hi]
  have he := hp R[j] (List.getElem_mem hj)
  refine ⟨R[j].ve, R[j].vf, ?_, ?_, ?_⟩
  ·simp only [List.getElem_map]
   exact ⟨key 0 (by omega), key 1 (by omega), key 2 (by omega), key 3 (by omega), key 4 (by omega), key 5 (by omega)⟩
  ·simp only [List.getElem_map]; exact he.1
  ·simp only [List.getElem_map]; exact he.2
def gcl (g : Gl) : List Value := [.string g.name, .int .i64 g.size]
def gflat (gs : List Gl) : List Value := gs.flatMap gcl
theorem gflat_len (gs : List Gl) : (gflat gs).length = gs.length * 2 := by
 induction gs with
 | nil => rfl
 | cons a r ih =>
  have : (gflat (a :: r)).length = 2 + (gflat r).length := by simp [gflat, gcl]; omega
  rw [this, ih, List.length_cons]
  omega
theorem gflat_get : ∀ (gs : List Gl) (j i : Nat) (hj : j < gs.length), i < 2 → (gflat gs)[j * 2 + i]? = (gcl gs[j])[i]?
 | x :: l, 0, i, _, hi => by
  have : (gcl x).length = 2 := rfl
  show (gcl x ++ gflat l)[0 * 2 + i]? = _
  rw [List.getElem?_append_left (by omega)]
  simp
 | x :: l, j + 1, i, hj, hi => by
  have h7 : (gcl x).length = 2 := rfl
  show (gcl x ++ gflat l)[(j + 1) * 2 + i]? = _
  rw [List.getElem?_append_right (by omega)]
  have e : (j + 1) * 2 + i - (gcl x).length = j * 2 + i := by omega
  rw [e, gflat_get l j i (by simpa using hj) hi]
  simp
def GR (B : Nat) (w : World) (v : Value) (gs : List Gl) : Prop := w.ownsRow B 74 2 v gs.length (gflat gs)
theorem globs_of {B : Nat} {w : World} {v : Value} {gs : List Gl} (h : GR B w v gs) : Globs w v gs := by
 have h0 : w.ownsRow B 74 2 v gs.length (gflat gs) := h
 rcases h0.2 with ⟨rfl, hz⟩ | ⟨g, cap, cur, rfl, h3, h4, h5⟩
 ·exact ⟨none, 0, by rw [hz], by rw [hz]; exact Nat.le_refl _, by omega, fun h => by omega⟩
 ·have hc : gs.length ≤ cap ∧ cap ≤ 9223372036854775807 := by
   obtain ⟨q1, q2, -⟩ := h5
   unfold maxLen at q2
   exact ⟨q1, q2⟩
  refine ⟨some ⟨g, 0, none⟩, cap, rfl, hc.1, hc.2, fun hp' => ⟨g, 0, rfl, fun j hj => ?_⟩⟩
  have key : ∀ i, i < 2 → w.cell? ⟨g, 0 + j * 2 + i, none⟩ = (gcl gs[j])[i]? := fun i hi => by
   have hl : (gflat gs).length = gs.length * 2 := gflat_len gs
   rw [Nat.zero_add, World.ownsRow.cellAt h0 (j * 2 + i) (by omega), gflat_get gs j i hj hi]
  exact ⟨key 0 (by omega), key 1 (by omega)⟩
theorem info_glob : (Tryz.prog.info? 74).map (fun i => (i.zero, i.size, i.bytes)) = some (some (.agg #[.string ⟨#[]⟩, .int .i64 0]), 2, 24) := by kernel_rfl
end
section
open Go.RowKit
theorem is_two {T : Nat → To} {x y : List UInt8} {s : PS} (h : isS T x s = true) (hn : x ≠ y) : isS T y s = false := by
 obtain ⟨-, -, -, h1⟩ := is_nd h
 unfold isS
 rw [h1]
 have : ¬ tx x = tx y := fun e => hn (by unfold tx at e; simpa using e)
 simp [this]
theorem is_num {T : Nat → To} {y : List UInt8} {s : PS} (h : (T s.i).kind = 2) : isS T y s = false := by
 unfold isS wdB
 rw [h]
 simp
theorem un_at (k : Nat) (hk : k < 3) : unL[k]'hk = unL.getD k [] := by
 rcases (show k = 0 ∨ k = 1 ∨ k = 2 by omega) with rfl | rfl | rfl <;> rfl
theorem un_ne {k j : Nat} (hk : k < 3) (hj : j < 3) (h : k ≠ j) : unL.getD k [] ≠ unL.getD j [] := by
 rcases (show k = 0 ∨ k = 1 ∨ k = 2 by omega) with rfl | rfl | rfl <;> rcases (show j = 0 ∨ j = 1 ∨ j = 2 by omega) with rfl | rfl | rfl <;> simp_all [unL]
theorem un_all {T : Nat → To} {s : PS} (h : ∀ x ∈ unL, isS T x s = false) (k : Nat) (hk : k < 3) : isS T (unL.getD k []) s = false := by
 rw [← un_at k hk]; exact h _ (List.getElem_mem _)
theorem o_inv {T : Nat → To} {n : Nat} {s : PS} {a : List Nd} {s' : PS} (h : Pa T (n + 1) .o s (.n a) s') :
  (∃ k, k < 3 ∧ isS T (unL.getD k []) s = true ∧ (((opS T (unL.getD k []) s).er = 0 ∧ ∃ b s1, Pa T n .o (opS T (unL.getD k []) s) (.n b) s1 ∧ a = b ++ [⟨6, (k : Int), tx []⟩] ∧ s' = { s1 with op := s1.op - 1 }) ∨
   ((opS T (unL.getD k []) s).er ≠ 0 ∧ a = [⟨6, (k : Int), tx []⟩] ∧ s' = { opS T (unL.getD k []) s with op := (opS T (unL.getD k []) s).op - 1 }))) ∨
  ((∀ k, k < 3 → isS T (unL.getD k []) s = false) ∧ (
    (isS T [40] s = true ∧ Pa T n (.pr [40] [41]) s (.n a) s') ∨
    (isS T [40] s = false ∧ isS T [105, 110] s = true ∧ a = [⟨5, 0, tx []⟩] ∧ s' = clS T [41] (opS T [40] s.ad)) ∨
    (isS T [40] s = false ∧ isS T [105, 110] s = false ∧ s.er = 0 ∧ (T s.i).kind = 2 ∧ a = [⟨1, (T s.i).num, tx []⟩] ∧ s' = s.ad) ∨
    (isS T [40] s = false ∧ isS T [105, 110] s = false ∧ ¬ (s.er = 0 ∧ (T s.i).kind = 2) ∧ (
      (isS T [91] (naS T s).2 = true ∧ ∃ b, Pa T n (.pr [91] [93]) (naS T s).2 (.n b) s' ∧ a = b ++ [⟨3, 0, (naS T s).1⟩]) ∨
      (isS T [91] (naS T s).2 = false ∧ isS T [40] (naS T s).2 = true ∧ Pa T n (.ar (naS T s).1) (naS T s).2 (.n a) s') ∨
      (isS T [91] (naS T s).2 = false ∧ isS T [40] (naS T s).2 = false ∧ a = [⟨2, 0, (naS T s).1⟩] ∧ s' = (naS T s).2))))) := by
 have hu : ∀ x : List UInt8, isS T x s = true → x ∉ unL → ∀ k, k < 3 → isS T (unL.getD k []) s = false := fun x h hn k hk => is_two h (fun e => hn (by rw [e, ← un_at k hk]; exact List.getElem_mem _))
 cases h using Pa_i with
 | oun n k hk s b s1 h1 h2 h3 => rw [un_at] at h1 h2 h3; exact .inl ⟨k, hk, h1, .inl ⟨h2, b, s1, h3, rfl, rfl⟩⟩
 | oud n k hk s h1 h2 => rw [un_at] at h1 h2; exact .inl ⟨k, hk, h1, .inr ⟨h2, rfl, by rw [un_at]⟩⟩
 | opa n s r s' h1 h2 => exact .inr ⟨hu _ h1 (by decide), .inl ⟨h1, h2⟩⟩
 | oin n s h1 => exact .inr ⟨hu _ h1 (by decide), .inr (.inl ⟨is_two h1 (by decide), h1, rfl, rfl⟩)⟩
 | onu n s h1 h2 => exact .inr ⟨fun k hk => is_num h2, .inr (.inr (.inl ⟨is_num h2, is_num h2, h1, h2, rfl, rfl⟩))⟩
 | oix n s b s' h1 h2 h3 => exact .inr ⟨un_all h1.un, .inr (.inr (.inr ⟨h1.par, h1.inn, h1.num, .inl ⟨h2, b, h3, rfl⟩⟩))⟩
 | oca n s r s' h1 h2 h3 h4 => exact .inr ⟨un_all h1.un, .inr (.inr (.inr ⟨h1.par, h1.inn, h1.num, .inr (.inl ⟨h2, h3, h4⟩)⟩))⟩
 | ova n s h1 h2 h3 => exact .inr ⟨un_all h1.un, .inr (.inr (.inr ⟨h1.par, h1.inn, h1.num, .inr (.inr ⟨h2, h3, rfl, rfl⟩)⟩))⟩
theorem pr_inv' {T : Nat → To} {n : Nat} {x y : List UInt8} {s : PS} {a : List Nd} {s' : PS} (h : Pa T n (.pr x y) s (.n a) s') :
  ((opS T x s).er ≠ 0 ∧ a = [] ∧ s' = clS T y (opS T x s)) ∨ ((opS T x s).er = 0 ∧ ∃ s1, Pa T n (.e 1) (opS T x s) (.n a) s1 ∧ s' = clS T y s1) := by
 cases n with
 | zero => cases h using Pa_i
 | succ n =>
  rcases pr_inv h with h1 | ⟨h0, s1, h1, h2⟩
  ·exact .inl h1
  ·exact .inr ⟨h0, s1, h1.up, h2⟩
theorem PSt.less {G : GT} {w : World} {s : PS} (h : PSt G w s) (ho : -8000000 ≤ s.op ∧ s.op ≤ 8000000) : (PSt G (w.setCell ⟨G.P, 2, none⟩ (.int .i64 (s.op - 1))) { s with op := s.op - 1 } ∧ Tcs (fun k => k = G.P) w (w.setCell ⟨G.P, 2, none⟩ (.int .i64 (s.op - 1)))) ∧ w.cell? ⟨G.P, 2, none⟩ = some (.int .i64 s.op) ∧ w.frozen? ⟨G.P, 2, none⟩ = false :=
 ⟨h.put (s' := { s with op := s.op - 1 }) 2 _ rfl h.wf (by show -9000000 ≤ s.op - 1 ∧ s.op - 1 ≤ 9000000; omega), (h.box 2 _ rfl).1, (h.box 2 _ rfl).2⟩
theorem lit_end {G : GT} {W w : World} {z : PS} (h : PSt G w z) (ht : Tcs (fun k => k = G.P) W w) (k v : Int) (s : ByteArray) :
  NdA G W [⟨k, v, s⟩] z (.returned (.slice (some ⟨w.heap.size, 0, none⟩) 1 1)) (w.alloc (.cells #[.int .i64 k, .int .i64 v, .string s] 48)) :=
 ⟨_, rfl, nrow_lit w _ ht.size k v s, h.below ((Below.refl _ _).alloc (Nat.le_refl _) _), ht.alloc _⟩
set_option maxRecDepth 100000 in
set_option maxHeartbeats 4000000 in
theorem opC_step {G : GT} (hL : Las G.T G.K) {n : Nat} (hO : OpC G n) (hE : ExC2 G n) (hCo : CoC G n) (hB : BrC G n) (hA : ArC2 G n) : OpC G (n + 1) := by
 intro w s a s' hP hal hop hS
 have hinv := o_inv hP
 obtain ⟨W1, hW1⟩ : ∃ W1, W1 = w.alloc (.cells #[.string ⟨#[45]⟩, .string ⟨#[33]⟩, .string ⟨#[126]⟩] 9) := ⟨_, rfl⟩
 obtain ⟨B, hBw⟩ : ∃ B, B = w.heap.size := ⟨_, rfl⟩
 have hb1 : Below w.heap.size w W1 := by rw [hW1]; exact (Below.refl _ _).alloc (Nat.le_refl _) _
 have hx1 : FrC W1 B [.string (tx [45]), .string (tx [33]), .string (tx [126])] := by rw [hW1, hBw]; exact box_fr w #[.string ⟨#[45]⟩, .string ⟨#[33]⟩, .string ⟨#[126]⟩] _ (by show 3 ≤ 1000; omega)
 have HS := hide hS
 have HL := hide hL
 have HO := hide hO
 have HE := hide hE
 have HBr := hide hB
 have HA := hide hA
 have HOp := hide hop
 have HInv := hide hinv
 have HPw := hide hS.lt
 have HB1 := hide hb1
 have HX1 := hide hx1
 have HW1 := hide hW1
 have HBw := hide hBw
 have hnn : (n : Int) ≤ 8000000 := by unfold OpB at hop; push_cast at hop; omega
 clear hP hop hS hL hO hE hCo hB hA hinv hb1 hx1 hW1 hBw
 go_enter Tryz.func152, Tryz.ntmps152
 go_upto_region 2 with fail
 rw [← HW1.out, ← HBw.out]
 go_wp2_with fail
 go_loopw [4] (fun i wr => ∃ k : Nat, k ≤ 3 ∧ i = .int .i64 k ∧ (∀ j, j < k → isS G.T (unL.getD j []) s = false) ∧ Below w.heap.size w wr ∧ FrC wr B [.string (tx [45]), .string (tx [33]), .string (tx [126])] ∧ B < wr.heap.size) (fun i _ => 3 - (RowKit.intOf i).toNat)
 case atStart => exact ⟨0, by omega, rfl, fun j hj => absurd hj (by omega), HB1.out, HX1.out, World.block_lt_of_cell? _ _ (HX1.out 0 _ rfl).1⟩
 case round =>
  clear HB1 HX1 HW1
  obtain ⟨k, hk, rfl, hno, hb, hx, hBl⟩ := hrel
  have hZ := HS.out.below hb
  have HZ := hide hZ
  have HB := hide hb
  have HX := hide hx
  have HNo := hide hno
  by_cases hlt : k < 3
  ·have ck : wr.cell? ⟨B, k, none⟩ = some (.string (tx (unL.getD k []))) := by
    rcases (show k = 0 ∨ k = 1 ∨ k = 2 by omega) with rfl | rfl | rfl
    ·exact (hx 0 _ rfl).1
    ·exact (hx 1 _ rfl).1
    ·exact (hx 2 _ rfl).1
   have HI := hide (is_any hZ (unL.getD k []))
   have hkc : (k : Int) < 3 := by omega
   cases hi : isS G.T (unL.getD k []) s with
   | false =>
    have HNn : Hid (∀ j, j < k + 1 → isS G.T (unL.getD j []) s = false) := fun j hj => by
     by_cases e : j = k
     ·subst e; exact hi
     ·exact HNo.out j (by omega)
    rw [hi] at HI
    clear hno hb hx hZ hi HInv
    go_wp2_with fail
    refine HI.out.mono ?_
    rintro e w2 ⟨rfl, hb2⟩
    have HB2 := hide (HB.out.trans (hb2.mono HB.out.size))
    have HX2 := hide (HX.out.below hb2)
    have hBl2 : B < w2.heap.size := Nat.lt_of_lt_of_le hBl hb2.size
    clear hb2
    go_wp2_with fail
    go_roundw
    case rel => exact ⟨k + 1, by omega, by go_num, HNn.out, HB2.out, HX2.out, hBl2⟩
    case measure => simp [RowKit.intOf]; omega
   | true =>
    rw [hi] at HI
    have hun : ((opS G.T (unL.getD k []) s).er = 0 ∧ ∃ b s1, Pa G.T n .o (opS G.T (unL.getD k []) s) (.n b) s1 ∧ a = b ++ [⟨6, (k : Int), tx []⟩] ∧ s' = { s1 with op := s1.op - 1 }) ∨
      ((opS G.T (unL.getD k []) s).er ≠ 0 ∧ a = [⟨6, (k : Int), tx []⟩] ∧ s' = { opS G.T (unL.getD k []) s with op := (opS G.T (unL.getD k []) s).op - 1 }) := by
     rcases HInv.out with ⟨j, hj, h1, h2⟩ | ⟨h1, -⟩
     ·by_cases e : j = k
      ·subst e; exact h2
      ·have := is_two h1 (un_ne hj hlt e); rw [hi] at this; cases this
     ·have := h1 k hlt; rw [hi] at this; cases this
    have HOn : Hid (∀ W, PSt G W s → Calls Tryz.prog 54 #[.pointer (some ⟨G.P, 0, none⟩), .string (tx (unL.getD k []))] W fun e w' => e = .returned (.tuple #[]) ∧ PSt G w' (opS G.T (unL.getD k []) s) ∧ Tcs (fun k => k = G.P) W w') := fun W hW => open_any HL.out hW HOp.out.bd _
    have HOp1 := hide (HOp.out.on (T := G.T) (unL.getD k []))
    generalize unL.getD k [] = ux at *
    generalize opS G.T ux s = z at *
    clear hno hb hx hZ hi HInv HNo
    go_wp2_with fail
    refine HI.out.mono ?_
    rintro e w2 ⟨rfl, hb2⟩
    have hx2 : w2.cell? ⟨B, k, none⟩ = some (.string (tx ux)) := (hb2.cell (p := ⟨B, k, none⟩) hBl).trans ck
    have HO2 := hide (HOn.out w2 (HZ.out.below hb2))
    have HB2 := hide (HB.out.trans (hb2.mono HB.out.size))
    clear hb2 HOn
    go_wp2_with fail
    refine HO2.out.mono ?_
    rintro e w3 ⟨rfl, h3, t3⟩
    obtain ⟨W4, hW4⟩ : ∃ W4, W4 = w3.alloc (.cells #[] 48) := ⟨_, rfl⟩
    obtain ⟨B4, hB4⟩ : ∃ B4, B4 = w3.heap.size := ⟨_, rfl⟩
    have hT3 := (HB2.out.tcs (S := fun k => k = G.P)).trans t3
    have hb4 : Below w3.heap.size w3 W4 := by rw [hW4]; exact (Below.refl _ _).alloc (Nat.le_refl _) _
    have hr4 : NRow w.heap.size W4 (.slice (some ⟨B4, 0, none⟩) 0 0) [] := by rw [hW4, hB4]; exact nrow_nil w3 _ hT3.size
    have h4 := h3.below hb4
    have p3 : W4.cell? ⟨G.P, 3, none⟩ = some (.int .i64 z.er) := (h4.box 3 _ rfl).1
    have H4 := hide h4
    have HT4 := hide (hT3.of_below hb4)
    have HR4 := hide hr4
    have HW4 := hide hW4
    have HB4 := hide hB4
    clear h3 t3 hT3 hb4 hr4 h4 hW4 hB4 HO2 HB2 hx2 ck HX
    go_upto_region 8 with fail
    rw [← HW4.out, ← HB4.out]
    rcases hun with ⟨h0, b, s1, hpo, rfl, rfl⟩ | ⟨h0, rfl, rfl⟩
    ·rw [h0] at p3
     simp only [List.length_append, List.length_singleton] at hal
     have HO5 := hide (HO.out W4 z b s1 hpo (by omega) HOp1.out H4.out)
     have HO1 := hide (HOp1.out.of hpo.op)
     clear hpo
     go_wp2_with fail
     refine HO5.out.mono ?_
     rintro e w5 ⟨u5, rfl, hr5, h5, t5⟩
     have hR5 := own_low hr5 HT4.out.size
     have hT5 := HT4.out.trans t5
     obtain ⟨⟨h6, t6⟩, q1, f1⟩ := h5.less HO1.out.bd
     obtain ⟨W6, hW6⟩ : ∃ W6, W6 = w5.setCell ⟨G.P, 2, none⟩ (.int .i64 (s1.op - 1)) := ⟨_, rfl⟩
     rw [← hW6] at h6 t6
     have HR6 := hide (own_tcs hR5 t6 (fun k hk => by rw [hk]; exact HPw.out.1))
     have HT6 := hide (hT5.trans t6)
     have H6 := hide h6
     have hops : -8000000 ≤ s1.op ∧ s1.op ≤ 8000000 := HO1.out.bd
     obtain ⟨W9, hW9⟩ : ∃ W9, W9 = W6.alloc (.cells #[.int .i64 6, .int .i64 (k : Int), .string ⟨#[]⟩] 48) := ⟨_, rfl⟩
     obtain ⟨B9, hB9⟩ : ∃ B9, B9 = W6.heap.size := ⟨_, rfl⟩
     have hb9 : Below W6.heap.size W6 W9 := by rw [hW9]; exact (Below.refl _ _).alloc (Nat.le_refl _) _
     have HA9 : Hid (NRow w.heap.size W9 (u5) (b)) := NRow.below HR6.out hb9
     have HL9 : Hid (Nodes W9 (.slice (some ⟨B9, 0, none⟩) 1 1) [⟨6, (k : Int), tx []⟩]) := by rw [hW9, hB9]; exact (nrow_lit W6 0 (Nat.zero_le _) _ _ _).nodes
     have H9 := hide (H6.out.below hb9)
     have HT9 := hide (HT6.out.of_below hb9)
     have h9b : w.heap.size ≤ W9.heap.size := HT9.out.size
     have HW6 := hide hW6
     have HW9 := hide hW9
     have HB9 := hide hB9
     clear hW6 hW9 hB9 hb9 h6 t6 h5 hR5 hT5
     go_upto_region 11 with fail
     rw [← HW6.out]
     go_wp2_with (at_builtin; rw [← HW9.out, ← HB9.out]; refine wpList_appM rfl _ _ rfl w.heap.size _ _ rfl HA9.out _ _ rfl HL9.out (by first | (simp; omega) | simp) h9b ?_; intro u9 w9 h9 g9; have HG9 := hide (PSt.gr H9.out HPw.out.1 HPw.out.2 HT9.out HA9.out g9); have HN9 := hide h9; clear h9 g9)
     go_ret
     exact ⟨_, rfl, HN9.out, HG9.out.1, HG9.out.2⟩
    ·have h5 := H4.out
     have hR5 := HR4.out
     have hT5 := HT4.out
     obtain ⟨⟨h6, t6⟩, q1, f1⟩ := h5.less HOp1.out.bd
     obtain ⟨W6, hW6⟩ : ∃ W6, W6 = W4.setCell ⟨G.P, 2, none⟩ (.int .i64 (z.op - 1)) := ⟨_, rfl⟩
     rw [← hW6] at h6 t6
     have HR6 := hide (own_tcs hR5 t6 (fun k hk => by rw [hk]; exact HPw.out.1))
     have HT6 := hide (hT5.trans t6)
     have H6 := hide h6
     have hops : -8000000 ≤ z.op ∧ z.op ≤ 8000000 := HOp1.out.bd
     obtain ⟨W9, hW9⟩ : ∃ W9, W9 = W6.alloc (.cells #[.int .i64 6, .int .i64 (k : Int), .string ⟨#[]⟩] 48) := ⟨_, rfl⟩
     obtain ⟨B9, hB9⟩ : ∃ B9, B9 = W6.heap.size := ⟨_, rfl⟩
     have hb9 : Below W6.heap.size W6 W9 := by rw [hW9]; exact (Below.refl _ _).alloc (Nat.le_refl _) _
     have HA9 : Hid (NRow w.heap.size W9 (.slice (some ⟨B4, 0, none⟩) 0 0) ([])) := NRow.below HR6.out hb9
     have HL9 : Hid (Nodes W9 (.slice (some ⟨B9, 0, none⟩) 1 1) [⟨6, (k : Int), tx []⟩]) := by rw [hW9, hB9]; exact (nrow_lit W6 0 (Nat.zero_le _) _ _ _).nodes
     have H9 := hide (H6.out.below hb9)
     have HT9 := hide (HT6.out.of_below hb9)
     have h9b : w.heap.size ≤ W9.heap.size := HT9.out.size
     have HW6 := hide hW6
     have HW9 := hide hW9
     have HB9 := hide hB9
     clear hW6 hW9 hB9 hb9 h6 t6 h5 hR5 hT5
     go_upto_region 11 with fail
     rw [← HW6.out]
     go_wp2_with (at_builtin; rw [← HW9.out, ← HB9.out]; refine wpList_appM rfl _ _ rfl w.heap.size _ _ rfl HA9.out _ _ rfl HL9.out (by first | (simp; omega) | simp) h9b ?_; intro u9 w9 h9 g9; have HG9 := hide (PSt.gr H9.out HPw.out.1 HPw.out.2 HT9.out HA9.out g9); have HN9 := hide h9; clear h9 g9)
     go_ret
     exact ⟨_, rfl, HN9.out, HG9.out.1, HG9.out.2⟩
  ·obtain rfl : k = 3 := by omega
   rcases HInv.out with ⟨j, hj, h1, -⟩ | ⟨-, hcs⟩
   ·exfalso
    have := hno j hj
    rw [h1] at this
    cases this
   ·clear HInv hno HNo HX hx
    have hT : Tcs (fun k => k = G.P) w wr := hb.tcs
    clear hb
    rcases hcs with ⟨hi, hpp⟩ | ⟨hi, hn, rfl, rfl⟩ | ⟨hi, hn, h0, h2, rfl, rfl⟩ | ⟨hi, hn, hnu, hcn⟩
    ·have hinv := pr_inv' hpp
     have HOp1 := hide (HOp.out.on (T := G.T) [40])
     clear hpp
     go_wp2_with fail
     refine (is_any hZ [40]).mono ?_
     rintro e w2 ⟨rfl, hbw2⟩
     rw [hi]
     have hZw2 := PSt.below hZ hbw2
     have hTw2 := Tcs.of_below hT hbw2
     clear hbw2
     go_wp2_with fail
     refine (open_any HL.out hZw2 HOp.out.bd [40]).mono ?_
     rintro e w3 ⟨rfl, h3, t3⟩
     generalize opS G.T [40] s = z at *
     obtain ⟨W4, hW4⟩ : ∃ W4, W4 = w3.alloc (.cells #[] 48) := ⟨_, rfl⟩
     obtain ⟨B4, hB4⟩ : ∃ B4, B4 = w3.heap.size := ⟨_, rfl⟩
     have hT3 := hTw2.trans t3
     have hb4 : Below w3.heap.size w3 W4 := by rw [hW4]; exact (Below.refl _ _).alloc (Nat.le_refl _) _
     have hr4 : NRow w.heap.size W4 (.slice (some ⟨B4, 0, none⟩) 0 0) [] := by rw [hW4, hB4]; exact nrow_nil w3 _ hT3.size
     have h4 := h3.below hb4
     have p3 : W4.cell? ⟨G.P, 3, none⟩ = some (.int .i64 z.er) := (h4.box 3 _ rfl).1
     have hT4 := hT3.of_below hb4
     have HW4 := hide hW4
     have HB4 := hide hB4
     clear h3 t3 hT3 hb4 hW4 hB4
     go_upto_region 15 with fail
     rw [← HW4.out, ← HB4.out]
     rcases hinv with ⟨h0, rfl, rfl⟩ | ⟨h0, s1, hpe, rfl⟩
     ·go_wp2_with fail
      refine (close_any HL.out h4 HOp1.out.bd [41]).mono ?_
      rintro e w6 ⟨rfl, h6, t6⟩
      have HF : Hid (NdA G w [] (clS G.T [41] z) (.returned (.slice (some ⟨B4, 0, none⟩) 0 0)) w6) := ⟨_, rfl, own_tcs hr4 t6 (fun k hk => by rw [hk]; exact HPw.out.1), h6, hT4.trans t6⟩
      clear h6 t6
      go_wp2_with fail
      go_ret
      exact HF.out
     ·rw [h0] at p3
      have hO1 := HOp1.out.of hpe.op
      go_wp2_with fail
      refine (HE.out W4 1 z a s1 hpe hal HOp1.out h4).mono ?_
      rintro e w5 ⟨u5, rfl, hr5, h5, t5⟩
      have hR5 := own_low hr5 hT4.size
      have hT5 := hT4.trans t5
      clear hr5 t5
      go_wp2_with fail
      refine (close_any HL.out h5 hO1.bd [41]).mono ?_
      rintro e w6 ⟨rfl, h6, t6⟩
      have HF : Hid (NdA G w a (clS G.T [41] s1) (.returned u5) w6) := ⟨_, rfl, own_tcs hR5 t6 (fun k hk => by rw [hk]; exact HPw.out.1), h6, hT5.trans t6⟩
      clear h6 t6
      go_wp2_with fail
      go_ret
      exact HF.out
    ·go_wp2_with fail
     refine (is_any hZ [40]).mono ?_
     rintro e w2 ⟨rfl, hbw2⟩
     rw [hi]
     have hZw2 := PSt.below hZ hbw2
     have hTw2 := Tcs.of_below hT hbw2
     clear hbw2
     go_wp2_with fail
     refine (is_any hZw2 [105, 110]).mono ?_
     rintro e w3 ⟨rfl, hbw3⟩
     rw [hn]
     have hZw3 := PSt.below hZw2 hbw3
     have hTw3 := Tcs.of_below hTw2 hbw3
     clear hbw3
     have hlt3 := is_lt HL.out hZw3.wf hn
     obtain ⟨h6, q1, f1, hii⟩ := hZw3.adv hlt3
     obtain ⟨W4, hW4⟩ : ∃ W4, W4 = w3.setCell ⟨G.P, 1, none⟩ (.int .i64 ((s.i : Int) + 1)) := ⟨_, rfl⟩
     rw [← hW4] at h6
     have hT4 := hTw3.trans h6.2
     have h4 := h6.1
     have HW4 := hide hW4
     have HO1 := hide ((HOp.out.of (s1 := s.ad) rfl).on (T := G.T) [40])
     have HO0 := hide (HOp.out.of (s1 := s.ad) rfl)
     clear h6 hW4
     go_upto_region 21 with fail
     rw [← HW4.out]
     go_wp2_with fail
     refine (open_any HL.out h4 HO0.out.bd [40]).mono ?_
     rintro e w5 ⟨rfl, h5, t5⟩
     generalize opS G.T [40] s.ad = z at *
     have hT5 := hT4.trans t5
     clear t5
     go_wp2_with fail
     refine (close_any HL.out h5 HO1.out.bd [41]).mono ?_
     rintro e w6 ⟨rfl, h6, t6⟩
     have HF := hide (lit_end h6 (hT5.trans t6) 5 0 (tx []))
     clear h6 t6
     go_wp2_with fail
     go_ret
     exact HF.out
    ·go_wp2_with fail
     refine (is_any hZ [40]).mono ?_
     rintro e w2 ⟨rfl, hbw2⟩
     rw [hi]
     have hZw2 := PSt.below hZ hbw2
     have hTw2 := Tcs.of_below hT hbw2
     clear hbw2
     go_wp2_with fail
     refine (is_any hZw2 [105, 110]).mono ?_
     rintro e w3 ⟨rfl, hbw3⟩
     rw [hn]
     have hZw3 := PSt.below hZw2 hbw3
     have hTw3 := Tcs.of_below hTw2 hbw3
     clear hbw3
     have p3 : w3.cell? ⟨G.P, 3, none⟩ = some (.int .i64 0) := by rw [← h0]; exact (hZw3.box 3 _ rfl).1
     have HTk := hide (tok0_any hZw3)
     have hf0 := fun W => fld_to (G.T s.i) 0 _ rfl (by decide) W
     simp only [h2] at hf0
     go_wp2_with fail
     refine HTk.out.mono ?_
     rintro e w4 ⟨rfl, hb4⟩
     have hZ4 := hZw3.below hb4
     have hT4 := hTw3.of_below hb4
     clear hb4
     go_wp2_with fail
     refine (num0_any HL.out hZ4).mono ?_
     rintro e w5 ⟨rfl, h5, t5⟩
     have en : nuS G.T s = ((G.T s.i).num, s.ad) := by unfold nuS; rw [if_pos ⟨h0, h2⟩]
     rw [en] at h5 ⊢
     have HF := hide (lit_end h5 (hT4.trans t5) 1 (G.T s.i).num (tx []))
     clear h5 t5 en HTk
     go_wp2_with fail
     go_ret
     exact HF.out
    ·have hno4 : (naS G.T s).2.op = s.op := na_op s
     go_wp2_with fail
     refine (is_any hZ [40]).mono ?_
     rintro e w2 ⟨rfl, hbw2⟩
     rw [hi]
     have hZw2 := PSt.below hZ hbw2
     have hTw2 := Tcs.of_below hT hbw2
     clear hbw2
     go_wp2_with fail
     refine (is_any hZw2 [105, 110]).mono ?_
     rintro e w3 ⟨rfl, hbw3⟩
     rw [hn]
     have hZw3 := PSt.below hZw2 hbw3
     have hTw3 := Tcs.of_below hTw2 hbw3
     clear hbw3
     have p3 : w3.cell? ⟨G.P, 3, none⟩ = some (.int .i64 s.er) := (hZw3.box 3 _ rfl).1
     by_cases h0 : s.er = 0
     ·have hk2 : ¬ (G.T s.i).kind = 2 := fun e => hnu ⟨h0, e⟩
      rw [h0] at p3
      have HTk := hide (tok0_any hZw3)
      have hf0 := fun W => fld_to (G.T s.i) 0 _ rfl (by decide) W
      generalize (G.T s.i).kind = tkd at hf0 hk2
      go_wp2_with fail
      refine HTk.out.mono ?_
      rintro e wt ⟨rfl, hbt⟩
      have hZt := hZw3.below hbt
      have hTt := hTw3.of_below hbt
      clear hbt
      go_wp2_with fail
      refine (name0_any HL.out hZt).mono ?_
      rintro e w4 ⟨rfl, h4, t4⟩
      have hT4 := Tcs.trans hTt t4
      clear t4
      rcases hcn with ⟨hc, b, hpb, rfl⟩ | ⟨hc, hd, hpa⟩ | ⟨hc, hd, rfl, rfl⟩
      ·have HOb := hide (HOp.out.le (Nat.le_succ n) |>.of hno4)
       generalize (naS G.T s).1 = nm at *
       generalize (naS G.T s).2 = z at *
       go_wp2_with fail
       refine (is_any h4 [91]).mono ?_
       rintro e w5 ⟨rfl, hbw5⟩
       rw [hc]
       have hZw5 := PSt.below h4 hbw5
       have hTw5 := Tcs.of_below hT4 hbw5
       clear hbw5
       go_wp2_with fail
       simp only [List.length_append, List.length_singleton] at hal
       refine (HBr.out w5 z b s' hpb (by omega) HOb.out hZw5).mono ?_
       rintro e w6 ⟨u6, rfl, hr6, h6, t6⟩
       have hR6 := own_low hr6 hTw5.size
       have hT6 := hTw5.trans t6
       clear hr6 t6 hZw5 hTw5 hpb
       obtain ⟨W9, hW9⟩ : ∃ W9, W9 = w6.alloc (.cells #[.int .i64 3, .int .i64 0, .string nm] 48) := ⟨_, rfl⟩
       obtain ⟨B9, hB9⟩ : ∃ B9, B9 = w6.heap.size := ⟨_, rfl⟩
       have hb9 : Below w6.heap.size w6 W9 := by rw [hW9]; exact (Below.refl _ _).alloc (Nat.le_refl _) _
       have HA9 : Hid (NRow w.heap.size W9 u6 b) := NRow.below hR6 hb9
       have HL9 : Hid (Nodes W9 (.slice (some ⟨B9, 0, none⟩) 1 1) [⟨3, 0, nm⟩]) := by rw [hW9, hB9]; exact (nrow_lit w6 0 (Nat.zero_le _) _ _ _).nodes
       have H9 := hide (h6.below hb9)
       have HT9 := hide (hT6.of_below hb9)
       have h9b : w.heap.size ≤ W9.heap.size := HT9.out.size
       have HW9 := hide hW9
       have HB9 := hide hB9
       clear hW9 hB9 hb9 h6 hR6 hT6
       go_wp2_with (at_builtin; rw [← HW9.out, ← HB9.out]; refine wpList_appM rfl _ _ rfl w.heap.size _ _ rfl HA9.out _ _ rfl HL9.out (by simp; omega) h9b ?_; intro u9 w9 h9 g9; have HG9 := hide (PSt.gr H9.out HPw.out.1 HPw.out.2 HT9.out HA9.out g9); have HN9 := hide h9; clear h9 g9)
       go_ret
       exact ⟨_, rfl, HN9.out, HG9.out.1, HG9.out.2⟩
      ·have HOb := hide (HOp.out.le (Nat.le_succ n) |>.of hno4)
       generalize (naS G.T s).1 = nm at *
       generalize (naS G.T s).2 = z at *
       go_wp2_with fail
       refine (is_any h4 [91]).mono ?_
       rintro e w5 ⟨rfl, hbw5⟩
       rw [hc]
       have hZw5 := PSt.below h4 hbw5
       have hTw5 := Tcs.of_below hT4 hbw5
       clear hbw5
       go_wp2_with fail
       refine (is_any hZw5 [40]).mono ?_
       rintro e w6 ⟨rfl, hbw6⟩
       rw [hd]
       have hZw6 := PSt.below hZw5 hbw6
       have hTw6 := Tcs.of_below hTw5 hbw6
       clear hbw6
       go_wp2_with fail
       refine (HA.out w6 nm z a s' hpa hal HOb.out hZw6).mono ?_
       rintro e w7 ⟨u7, rfl, hr7, h7, t7⟩
       have HF : Hid (NdA G w a s' (.returned u7) w7) := ⟨_, rfl, own_low hr7 hTw6.size, h7, hTw6.trans t7⟩
       clear hr7 h7 t7
       go_wp2_with fail
       go_ret
       exact HF.out
      ·generalize (naS G.T s).1 = nm at *
       generalize (naS G.T s).2 = z at *
       go_wp2_with fail
       refine (is_any h4 [91]).mono ?_
       rintro e w5 ⟨rfl, hbw5⟩
       rw [hc]
       have hZw5 := PSt.below h4 hbw5
       have hTw5 := Tcs.of_below hT4 hbw5
       clear hbw5
       go_wp2_with fail
       refine (is_any hZw5 [40]).mono ?_
       rintro e w6 ⟨rfl, hbw6⟩
       rw [hd]
       have hZw6 := PSt.below hZw5 hbw6
       have hTw6 := Tcs.of_below hTw5 hbw6
       clear hbw6
       have HF := hide (lit_end hZw6 hTw6 2 0 nm)
       clear hZw6 hTw6
       go_wp2_with fail
       go_ret
       exact HF.out
     ·go_wp2_with fail
      refine (name0_any HL.out hZw3).mono ?_
      rintro e w4 ⟨rfl, h4, t4⟩
      have hT4 := Tcs.trans hTw3 t4
      clear t4
      rcases hcn with ⟨hc, b, hpb, rfl⟩ | ⟨hc, hd, hpa⟩ | ⟨hc, hd, rfl, rfl⟩
      ·have HOb := hide (HOp.out.le (Nat.le_succ n) |>.of hno4)
       generalize (naS G.T s).1 = nm at *
       generalize (naS G.T s).2 = z at *
       go_wp2_with fail
       refine (is_any h4 [91]).mono ?_
       rintro e w5 ⟨rfl, hbw5⟩
       rw [hc]
       have hZw5 := PSt.below h4 hbw5
       have hTw5 := Tcs.of_below hT4 hbw5
       clear hbw5
       go_wp2_with fail
       simp only [List.length_append, List.length_singleton] at hal
       refine (HBr.out w5 z b s' hpb (by omega) HOb.out hZw5).mono ?_
       rintro e w6 ⟨u6, rfl, hr6, h6, t6⟩
       have hR6 := own_low hr6 hTw5.size
       have hT6 := hTw5.trans t6
       clear hr6 t6 hZw5 hTw5 hpb
       obtain ⟨W9, hW9⟩ : ∃ W9, W9 = w6.alloc (.cells #[.int .i64 3, .int .i64 0, .string nm] 48) := ⟨_, rfl⟩
       obtain ⟨B9, hB9⟩ : ∃ B9, B9 = w6.heap.size := ⟨_, rfl⟩
       have hb9 : Below w6.heap.size w6 W9 := by rw [hW9]; exact (Below.refl _ _).alloc (Nat.le_refl _) _
       have HA9 : Hid (NRow w.heap.size W9 u6 b) := NRow.below hR6 hb9
       have HL9 : Hid (Nodes W9 (.slice (some ⟨B9, 0, none⟩) 1 1) [⟨3, 0, nm⟩]) := by rw [hW9, hB9]; exact (nrow_lit w6 0 (Nat.zero_le _) _ _ _).nodes
       have H9 := hide (h6.below hb9)
       have HT9 := hide (hT6.of_below hb9)
       have h9b : w.heap.size ≤ W9.heap.size := HT9.out.size
       have HW9 := hide hW9
       have HB9 := hide hB9
       clear hW9 hB9 hb9 h6 hR6 hT6
       go_wp2_with (at_builtin; rw [← HW9.out, ← HB9.out]; refine wpList_appM rfl _ _ rfl w.heap.size _ _ rfl HA9.out _ _ rfl HL9.out (by simp; omega) h9b ?_; intro u9 w9 h9 g9; have HG9 := hide (PSt.gr H9.out HPw.out.1 HPw.out.2 HT9.out HA9.out g9); have HN9 := hide h9; clear h9 g9)
       go_ret
       exact ⟨_, rfl, HN9.out, HG9.out.1, HG9.out.2⟩
      ·have HOb := hide (HOp.out.le (Nat.le_succ n) |>.of hno4)
       generalize (naS G.T s).1 = nm at *
       generalize (naS G.T s).2 = z at *
       go_wp2_with fail
       refine (is_any h4 [91]).mono ?_
       rintro e w5 ⟨rfl, hbw5⟩
       rw [hc]
       have hZw5 := PSt.below h4 hbw5
       have hTw5 := Tcs.of_below hT4 hbw5
       clear hbw5
       go_wp2_with fail
       refine (is_any hZw5 [40]).mono ?_
       rintro e w6 ⟨rfl, hbw6⟩
       rw [hd]
       have hZw6 := PSt.below hZw5 hbw6
       have hTw6 := Tcs.of_below hTw5 hbw6
       clear hbw6
       go_wp2_with fail
       refine (HA.out w6 nm z a s' hpa hal HOb.out hZw6).mono ?_
       rintro e w7 ⟨u7, rfl, hr7, h7, t7⟩
       have HF : Hid (NdA G w a s' (.returned u7) w7) := ⟨_, rfl, own_low hr7 hTw6.size, h7, hTw6.trans t7⟩
       clear hr7 h7 t7
       go_wp2_with fail
       go_ret
       exact HF.out
      ·generalize (naS G.T s).1 = nm at *
       generalize (naS G.T s).2 = z at *
       go_wp2_with fail
       refine (is_any h4 [91]).mono ?_
       rintro e w5 ⟨rfl, hbw5⟩
       rw [hc]
       have hZw5 := PSt.below h4 hbw5
       have hTw5 := Tcs.of_below hT4 hbw5
       clear hbw5
       go_wp2_with fail
       refine (is_any hZw5 [40]).mono ?_
       rintro e w6 ⟨rfl, hbw6⟩
       rw [hd]
       have hZw6 := PSt.below hZw5 hbw6
       have hTw6 := Tcs.of_below hTw5 hbw6
       clear hbw6
       have HF := hide (lit_end hZw6 hTw6 2 0 nm)
       clear hZw6 hTw6
       go_wp2_with fail
       go_ret
       exact HF.out
end
section
open Go.RowKit
theorem all_px {G : GT} (hL : Las G.T G.K) : ∀ n : Nat, OpC G n ∧ ExC2 G n ∧ CoC G n ∧ BrC G n ∧ ArC2 G n
 | 0 => ⟨fun _ _ _ _ h => (by cases h using Pa_i), fun _ _ _ _ _ h => (by cases h using Pa_i), fun _ _ _ _ h => (by cases h using Pa_i), fun _ _ _ _ h => (by cases h using Pa_i), fun _ _ _ _ _ h => (by cases h using Pa_i)⟩
 | n + 1 => by
  obtain ⟨h1, h2, h3, h4, h5⟩ := all_px hL n
  exact ⟨opC_step hL h1 h2 h3 h4 h5, exC_step hL h1 h2, coC_step hL h2, brC_step hL h2, arC_step hL h2⟩
end
section
open Go.RowKit
structure SQ (B : Nat) (w : World) (v : Value) (l : List St) : Prop where
 ex : ∃ R : List SV, R.map SV.s = l ∧ DRow 46 6 (fun k => k < B) B w v R.length (flatS R) (PtS R)
theorem SQ.tcs {S : Nat → Prop} {B : Nat} {w w' : World} {v : Value} {l : List St} (h : SQ B w v l) (ht : Tcs S w w') (hS : ∀ k, S k → k < B) : SQ B w' v l := by
 obtain ⟨R, h1, h2⟩ := h.ex
 exact ⟨R, h1, h2.tcs (ht.mono hS) (fun k hk => hk)⟩
theorem SQ.below {B : Nat} {w w' : World} {v : Value} {l : List St} (h : SQ B w v l) (hb : Below w.heap.size w w') : SQ B w' v l := by
 obtain ⟨R, h1, h2⟩ := h.ex
 exact ⟨R, h1, h2.below hb⟩
theorem SQ.low {B B' : Nat} {w : World} {v : Value} {l : List St} (h : SQ B w v l) (hb : B' ≤ B) : SQ B' w v l := by
 obtain ⟨R, h1, h2⟩ := h.ex
 exact ⟨R, h1, (h2.low hb).less (fun k hk => by omega)⟩
theorem SQ.shape {B : Nat} {w : World} {v : Value} {l : List St} (h : SQ B w v l) : ∃ a c, v = .slice a l.length c := by
 obtain ⟨R, rfl, h2⟩ := h.ex
 obtain ⟨a, c, e, -⟩ := own_shape h2.row
 exact ⟨a, c, by rw [List.length_map]; exact e⟩
theorem SQ.rng {B : Nat} {w : World} {v : Value} {l : List St} (h : SQ B w v l) : ∀ k, v.ownBlock = some k → B ≤ k ∧ k < w.heap.size := by
 obtain ⟨R, h1, h2⟩ := h.ex
 exact fun k hk => World.ownsRow.lt h2.row k hk
theorem sq_nil (w : World) (B : Nat) (hB : B ≤ w.heap.size) : SQ B (w.alloc (.cells #[] 46)) (.slice (some ⟨w.heap.size, 0, none⟩) 0 0) [] :=
 ⟨[], rfl, (sr_nil w B hB).row⟩
theorem sq_lit {w : World} {B : Nat} {ve vf : Value} {kd th el : Int} {nm : ByteArray} {e f : List Nd} (hB : B ≤ w.heap.size) (hE : ∀ W, Tcs (fun k => k < B) w W → Nodes W ve e) (hF : ∀ W, Tcs (fun k => k < B) w W → Nodes W vf f) :
  SQ B (w.alloc (.cells #[.int .i64 kd, .string nm, ve, vf, .int .i64 th, .int .i64 el] 46)) (.slice (some ⟨w.heap.size, 0, none⟩) 1 1) [⟨kd, nm, e, f, th, el⟩] := by
 refine ⟨[⟨⟨kd, nm, e, f, th, el⟩, ve, vf, [], []⟩], rfl, World.ownsRow_lit w #[.int .i64 kd, .string nm, ve, vf, .int .i64 th, .int .i64 el] 1 hB (by decide) rfl, fun W hW x hx => ?_⟩
 simp only [List.mem_singleton] at hx
 subst hx
 have ht : Tcs (fun k => k < B) w W := ((Tcs.refl _ w).alloc _).next hW fun k hk => by
  rcases hk with hk | hk
  ·exact .inl hk
  ·simp only [Value.ownBlock, Option.some.injEq] at hk
   exact .inr (by omega)
 exact ⟨hE W ht, hF W ht⟩
theorem sq_app {w w1 : World} {B B2 : Nat} {v u : Value} {l l2 : List St} (ty : TypeId) (h : SQ B w v l) (h2 : SQ B2 w1 u l2) (ht : Tcs (fun k => k < B2) w1 w) (hBB : B ≤ B2) (hB : B ≤ w.heap.size) (hm : l.length + l2.length ≤ 1000000) (hv : ∀ k, v.ownBlock = some k → k < B2 ∨ w1.heap.size ≤ k) :
  ∃ v' w', (Builtin.append_ #[41, 41] ty #[v, u]).run Tryz.prog w = .ok v' w' ∧ SQ B w' v' (l ++ l2) ∧ Tcs (fun k => v.ownBlock = some k) w w' ∧ ∀ k, v'.ownBlock = some k → v.ownBlock = some k ∨ w.heap.size ≤ k := by
 obtain ⟨i0, hi, hz0, hz1, hz2⟩ := info_parts info_stmt
 obtain ⟨R, rfl, r1⟩ := h.ex
 obtain ⟨R2, rfl, q1⟩ := h2.ex
 have q2 : DRow 46 6 (fun k => k < B2) B2 w u R2.length (flatS R2) (PtS R2) := q1.tcs ht (fun k hk => hk)
 rw [List.length_map, List.length_map] at hm
 obtain ⟨a, c, rfl, hn, hc⟩ := own_shape q2.row
 have hP2 : ∀ W, Tcs (fun k => k < B ∨ v.ownBlock = some k) w W → PtS R2 W := fun W hW => q1.st W ((ht.mono fun k hk => .inl hk).next hW fun k hk => by
  rcases hk with hk | hk
  ·exact .inl (.inl (by omega))
  ·rcases hv k hk with h | h
   ·exact .inl (.inl h)
   ·exact .inr h)
 obtain ⟨v', w', p1, p2, p3⟩ := drow_app (Pg := Tryz.prog) (w := w) (T := 46) (t := 41) (c := c) (P2 := PtS R2) ty Tryz.underlying41 hi hz0 hz1 hz2 rfl (by decide) r1 a hn (flatS_len R2) hc (flatS_one R2 fun q hq => ⟨(q2.now q hq).1.cell1, (q2.now q hq).2.cell1⟩) hP2 (by omega) (by decide) hB
 refine ⟨v', w', p1, ⟨R ++ R2, by rw [List.map_append], ⟨by rw [List.length_append, flatS_append]; exact p2.row, fun W hW x hx => ?_⟩⟩, p3⟩
 rcases List.mem_append.1 hx with hx | hx
 ·exact (p2.st W hW).1 x hx
 ·exact (p2.st W hW).2 x hx
def StA (G : GT) (w : World) (a : List St) (s' : PS) (e : Ending) (w' : World) : Prop := ∃ u, e = .returned u ∧ SQ w.heap.size w' u a ∧ PSt G w' s' ∧ Tcs (fun k => k = G.P) w w'
def StC2 (G : GT) (n : Nat) : Prop := ∀ (w : World) (s : PS) (a : List St) (s' : PS), Pa G.T n .st s (.s a) s' → szS a ≤ 1000000 → OpB n s → PSt G w s →
 Calls Tryz.prog 83 #[.pointer (some ⟨G.P, 0, none⟩)] w (StA G w a s')
def BlC (G : GT) (n : Nat) : Prop := ∀ (w : World) (s : PS) (a : List St) (s' : PS), Pa G.T n .bl s (.s a) s' → szS a ≤ 1000000 → OpB n s → PSt G w s →
 Calls Tryz.prog 53 #[.pointer (some ⟨G.P, 0, none⟩)] w (StA G w a s')
theorem PSt.gr2 {G : GT} {W w w' : World} {z : PS} {v : Value} {l : List St} (h : PSt G w z) (hP : G.P < W.heap.size) (hT : G.bT < W.heap.size) (ht : Tcs (fun k => k = G.P) W w) (hr : SQ W.heap.size w v l) (t : Tcs (fun k => v.ownBlock = some k) w w') :
  PSt G w' z ∧ Tcs (fun k => k = G.P) W w' := by
 have hj : ∀ k, v.ownBlock = some k → W.heap.size ≤ k := fun k hk => (hr.rng k hk).1
 exact ⟨h.tcs t (fun e => by have := hj _ e; omega) (fun e => by have := hj _ e; omega), ht.next t (fun x hx => .inr (hj x hx))⟩
theorem szS_len (l : List St) : l.length ≤ szS l := by
 induction l with
 | nil => exact Nat.le_refl _
 | cons s l ih => rw [szS_cons]; simp only [List.length_cons]; omega
end
section
open Go.RowKit
theorem bs_inv {T : Nat → To} {n : Nat} {o : List St} {s : PS} {a : List St} {s' : PS} (h : Pa T n (.bs o) s (.s a) s') :
  (s.er ≠ 0 ∧ a = o ∧ s' = s) ∨ (s.er = 0 ∧ isS T [125] s = true ∧ a = o ∧ s' = s) ∨
  (s.er = 0 ∧ isS T [125] s = false ∧ ∃ m b s1, n = m + 1 ∧ Pa T m .st s (.s b) s1 ∧ Pa T m (.bs (o ++ b)) s1 (.s a) s') := by
 cases h using Pa_i with
 | bsd n o s h1 =>
  by_cases h0 : s.er = 0
  ·exact .inr (.inl ⟨h0, h1.resolve_left (fun h => h h0), rfl, rfl⟩)
  ·exact .inl ⟨h0, rfl, rfl⟩
 | bsm n o s b s1 r s' h1 h2 h3 h4 =>
  have hr : ∃ l, PR.s b = .s l := ⟨b, rfl⟩
  exact .inr (.inr ⟨h1, h2, _, b, s1, rfl, h3, h4⟩)
set_option maxRecDepth 100000 in
set_option maxHeartbeats 4000000 in
theorem blC_step {G : GT} (hL : Las G.T G.K) {n : Nat} (hSt : StC2 G n) : BlC G (n + 1) := by
 intro w s a s' hP hal hop hS
 obtain ⟨s1, hp, rfl⟩ : ∃ s1, Pa G.T n (.bs []) (opS G.T [123] s) (.s a) s1 ∧ s' = clS G.T [125] s1 := by
  cases hP using Pa_i with
  | blk n s a s1 h1 => exact ⟨s1, h1, rfl⟩
 obtain ⟨W1, hW1⟩ : ∃ W1, W1 = w.alloc (.cells #[] 46) := ⟨_, rfl⟩
 have hb1 : Below w.heap.size w W1 := by rw [hW1]; exact (Below.refl _ _).alloc (Nat.le_refl _) _
 have hr1 : SQ w.heap.size W1 (.slice (some ⟨w.heap.size, 0, none⟩) 0 0) [] := by rw [hW1]; exact sq_nil w _ (Nat.le_refl _)
 have HO := hide (open_any hL (hS.below hb1) hop.bd [123])
 have HOp := hide (hop.on (T := G.T) [123])
 generalize opS G.T [123] s = s0 at *
 have HE := hide hSt
 have HL := hide hL
 have HPp := hide hp
 have HPw := hide hS.lt
 have HR1 := hide hr1
 have HB1 := hide hb1
 have HW1 := hide hW1
 have HCl : Hid (∀ W z, PSt G W z → z.op = s0.op → Calls Tryz.prog 56 #[.pointer (some ⟨G.P, 0, none⟩), .string (tx [125])] W fun e w' => e = .returned (.tuple #[]) ∧ PSt G w' (clS G.T [125] z) ∧ Tcs (fun k => k = G.P) W w') := fun W z hW hb => close_any HL.out hW (HOp.out.of hb).bd [125]
 clear hP hop hS hSt hL hp hr1 hb1 hW1
 go_enter Tryz.func53, Tryz.ntmps53
 go_upto_region 2 with fail
 rw [← HW1.out]
 go_wp2_with fail
 refine HO.out.mono ?_
 rintro e w2 ⟨rfl, h2, t2⟩
 have HR2 := hide (HR1.out.tcs t2 (fun k hk => by rw [hk]; exact HPw.out.1))
 have HT2 := hide ((HB1.out.tcs (S := fun k => k = G.P)).trans t2)
 have H2 := hide h2
 clear h2 t2 HO HR1 HB1 HW1
 go_wp2_with fail
 go_loopg [3] n (fun gk u wr => ∃ (o : List St) (z : PS), gk ≤ n ∧ Pa G.T gk (.bs o) z (.s a) s1 ∧ z.op = s0.op ∧ SQ w.heap.size wr u o ∧ PSt G wr z ∧ Tcs (fun k => k = G.P) w wr)
 case atStart => exact ⟨[], s0, Nat.le_refl _, HPp.out, rfl, HR2.out, H2.out, HT2.out⟩
 case round =>
  clear HR2 H2 HT2 HPp
  obtain ⟨o, z, hgk, hp, hzo, hR, hZ, hT⟩ := hrel
  have p3 : wr.cell? ⟨G.P, 3, none⟩ = some (.int .i64 z.er) := (hZ.box 3 _ rfl).1
  have HI := hide (is_any hZ [125])
  have HR := hide hR
  have HZ := hide hZ
  have HT := hide hT
  have HZo := hide hzo
  rcases bs_inv hp with ⟨h0, rfl, rfl⟩ | ⟨h0, his, rfl, rfl⟩ | ⟨h0, his, m, b, z1, rfl, hpe, hpn⟩
  ·clear hp hR hZ hT hgk HI
   go_wp2_with fail
   have HC := hide (HCl.out _ _ HZ.out HZo.out)
   have HRe := hide HR.out
   have HTe := hide HT.out
   clear HZ
   refine HC.out.mono ?_
   rintro e w8 ⟨rfl, h8, t8⟩
   have HF : Hid (StA G w a _ (.returned _) w8) := ⟨_, rfl, HRe.out.tcs t8 (fun k hk => by rw [hk]; exact HPw.out.1), h8, HTe.out.trans t8⟩
   clear h8 t8 HC
   go_wp2_with fail
   go_ret
   exact HF.out
  ·rw [h0] at p3
   clear hp hR hZ hT hgk
   go_wp2_with fail
   refine HI.out.mono ?_
   rintro e wq ⟨rfl, hbq⟩
   rw [his]
   have HRq := hide (HR.out.below hbq)
   have HZq := hide (HZ.out.below hbq)
   have HTq := hide (HT.out.of_below hbq)
   clear hbq
   go_wp2_with fail
   have HC := hide (HCl.out _ _ HZq.out HZo.out)
   have HRe := hide HRq.out
   have HTe := hide HTq.out
   clear HZq
   refine HC.out.mono ?_
   rintro e w8 ⟨rfl, h8, t8⟩
   have HF : Hid (StA G w a _ (.returned _) w8) := ⟨_, rfl, HRe.out.tcs t8 (fun k hk => by rw [hk]; exact HPw.out.1), h8, HTe.out.trans t8⟩
   clear h8 t8 HC
   go_wp2_with fail
   go_ret
   exact HF.out
  ·rw [h0] at p3
   have hsz : szS (o ++ b) ≤ 1000000 := Nat.le_trans hpn.acc hal
   rw [szS_app] at hsz
   have hlb := szS_len o
   have hlb2 := szS_len b
   have hmn : m ≤ n := by omega
   have HEx : Hid (∀ W, PSt G W z → Calls Tryz.prog 83 #[.pointer (some ⟨G.P, 0, none⟩)] W (StA G W b z1)) := fun W hW => HE.out W z b z1 (Pa.ups hmn hpe) (by omega) (HOp.out.of HZo.out) hW
   have HZ1 : Hid (z1.op = s0.op) := by show _ = _; rw [hpe.op]; exact hzo
   have HPn := hide hpn
   clear hp hR hZ hT hgk hpe hpn
   go_wp2_with fail
   refine HI.out.mono ?_
   rintro e wq ⟨rfl, hbq⟩
   rw [his]
   have HRq := hide (HR.out.below hbq)
   have HZq := hide (HZ.out.below hbq)
   have HTq := hide (HT.out.of_below hbq)
   clear hbq HI HR HZ HT
   go_wp2_with fail
   refine (HEx.out _ HZq.out).mono ?_
   rintro e w3 ⟨u7, rfl, hr3, h3, t3⟩
   have HR3 := hide (HRq.out.tcs t3 (fun k hk => by rw [hk]; exact HPw.out.1))
   have HT3 := hide (HTq.out.trans t3)
   have h3b : w.heap.size ≤ w3.heap.size := HT3.out.size
   obtain ⟨v9, w9, hr9, hq9, ht9, hf9⟩ := sq_app 41 HR3.out hr3 (Tcs.refl _ _) HTq.out.size h3b (by omega) (fun k hk => .inl (HRq.out.rng k hk).2)
   have hg9 := PSt.gr2 h3 HPw.out.1 HPw.out.2 HT3.out HR3.out ht9
   have HG9 := hide hg9
   have HQ9 := hide hq9
   have HR9 := hide hr9
   clear hr3 h3 t3 hr9 hq9 ht9 hf9 hg9 HEx
   go_wp2_with (at_builtin; refine wpList_appG rfl _ _ _ rfl _ _ v9 w9 rfl rfl HR9.out ?_)
   go_roundg m
   case measure => omega
   case rel => exact ⟨o ++ b, z1, by omega, HPn.out, HZ1.out, HQ9.out, HG9.out.1, HG9.out.2⟩
end
section
open Go.RowKit
theorem sg_inv {T : Nat → To} {n : Nat} {t : St} {s : PS} {r : List St} {s' : PS} (h : Pa T (n + 1) (.sg t) s (.s r) s') :
  ((taS T [61] s).er ≠ 0 ∧ r = [sgE t []] ∧ s' = taS T [59] (taS T [61] s)) ∨ ((taS T [61] s).er = 0 ∧ ∃ a s1, Pa T n (.e 1) (taS T [61] s) (.n a) s1 ∧ r = [sgE t a] ∧ s' = taS T [59] s1) := by
 cases h using Pa_i with
 | sgd n t s h1 => exact .inl ⟨h1, rfl, rfl⟩
 | sge n t s a s1 h1 h2 => exact .inr ⟨h1, a, s1, h2, rfl, rfl⟩
def stV (t : St) (ve vf : Value) : List Value := [.int .i64 t.kind, .string t.name, ve, vf, .int .i64 t.thn, .int .i64 t.els]
def AsA (G : GT) (w : World) (B0 : Nat) (r : List St) (s' : PS) (e : Ending) (w' : World) : Prop := ∃ u, e = .returned u ∧ SQ B0 w' u r ∧ PSt G w' s' ∧ Tcs (fun k => k = G.P) w w'
def AsC (G : GT) (n : Nat) : Prop := ∀ (w : World) (B0 : Nat) (t : St) (ve vf : Value) (s : PS) (r : List St) (s' : PS), Pa G.T n (.sg t) s (.s r) s' → szS r ≤ 1000000 → OpB n s → PSt G w s → B0 ≤ w.heap.size → G.P < B0 →
 (∀ W, Tcs (fun k => k < B0) w W → Nodes W ve t.e) → (∀ W, Tcs (fun k => k < B0) w W → Nodes W vf t.f) →
 Calls Tryz.prog 117 #[.pointer (some ⟨G.P, 0, none⟩), .agg #[.int .i64 t.kind, .string t.name, ve, vf, .int .i64 t.thn, .int .i64 t.els]] w (AsA G w B0 r s')
theorem st_end {G : GT} {w X : World} {B0 : Nat} {t : St} {ve vf : Value} {z : PS} (hB : B0 ≤ X.heap.size) (hE : ∀ W, Tcs (fun k => k < B0) X W → Nodes W ve t.e) (hF : ∀ W, Tcs (fun k => k < B0) X W → Nodes W vf t.f) (hz : PSt G X z) (ht : Tcs (fun k => k = G.P) w X) :
  AsA G w B0 [t] z (.returned (.slice (some ⟨X.heap.size, 0, none⟩) 1 1)) (X.alloc (.cells #[.int .i64 t.kind, .string t.name, ve, vf, .int .i64 t.thn, .int .i64 t.els] 46)) :=
 ⟨_, rfl, sq_lit hB hE hF, hz.below ((Below.refl _ _).alloc (Nat.le_refl _) _), ht.alloc _⟩
theorem box_w {G : GT} {w X : World} {M : Nat} {xs : List Value} {z : PS} (hx : FrC X M xs) (hM : w.heap.size ≤ M) (hl : G.P < w.heap.size ∧ G.bT < w.heap.size) (hz : PSt G X z) (ht : Tcs (fun k => k = G.P) w X) (i : Nat) (u : Value) :
  FrC (X.setCell ⟨M, i, none⟩ u) M (xs.set i u) ∧ PSt G (X.setCell ⟨M, i, none⟩ u) z ∧ Tcs (fun k => k = G.P) w (X.setCell ⟨M, i, none⟩ u) ∧ Tcs (fun k => k = M) X (X.setCell ⟨M, i, none⟩ u) := by
 have t1 : Tcs (fun k => k = M) X (X.setCell ⟨M, i, none⟩ u) := (Tcs.refl (fun k => k = M) X).setCell (p := ⟨M, i, none⟩) rfl u
 exact ⟨hx.set i u, hz.tcs t1 (by omega) (by omega), ht.next t1 (fun x hx => .inr (by omega)), t1⟩
set_option maxRecDepth 100000 in
set_option maxHeartbeats 4000000 in
theorem asC_step {G : GT} (hL : Las G.T G.K) {n : Nat} (hE : ExC2 G n) : AsC G (n + 1) := by
 intro w B0 t ve vf s r s' hP hal hop hS hB0 hPB hve hvf
 obtain ⟨W1, hW1⟩ : ∃ W1, W1 = w.alloc (.cells #[.int .i64 t.kind, .string t.name, ve, vf, .int .i64 t.thn, .int .i64 t.els] 46) := ⟨_, rfl⟩
 obtain ⟨M, hM⟩ : ∃ M, M = w.heap.size := ⟨_, rfl⟩
 have hb1 : Below w.heap.size w W1 := by rw [hW1]; exact (Below.refl _ _).alloc (Nat.le_refl _) _
 have hx1 : FrC W1 M (stV t ve vf) := by rw [hW1, hM]; exact box_fr w #[.int .i64 t.kind, .string t.name, ve, vf, .int .i64 t.thn, .int .i64 t.els] _ (by show 6 ≤ 1000; omega)
 have hM1 : M < W1.heap.size := World.block_lt_of_cell? _ _ (hx1 0 _ rfl).1
 have HO := hide (ta_any hL (hS.below hb1) [61])
 have hinv := sg_inv hP
 have hopz : (taS G.T [61] s).op = s.op := ta_op _ _
 have HOp := hide ((hop.le (Nat.le_succ n)).of hopz)
 generalize taS G.T [61] s = z at *
 have HE := hide hE
 have HL := hide hL
 have HPw := hide hS.lt
 have HX1 := hide hx1
 have HB1 := hide hb1
 have HW1 := hide hW1
 have HMw := hide hM
 have HM1 := hide hM1
 have HB0 := hide hB0
 have HPB := hide hPB
 have HVe := hide hve
 have HVf := hide hvf
 have HPM : Hid (G.P ≠ M) := by have := hS.lt; show G.P ≠ M; omega
 have HTa : Hid (∀ W z, PSt G W z → Calls Tryz.prog 49 #[.pointer (some ⟨G.P, 0, none⟩), .string (tx [59])] W fun e w' => e = .returned (.tuple #[]) ∧ PSt G w' (taS G.T [59] z) ∧ Tcs (fun k => k = G.P) W w') := fun W z hW => ta_any HL.out hW [59]
 clear hP hop hS hE hL hx1 hb1 hW1 hM hM1 hB0 hPB hve hvf hopz
 rcases hinv with ⟨h0, rfl, rfl⟩ | ⟨h0, a, s1, hpe, rfl, rfl⟩
 ·go_enter Tryz.func117, Tryz.ntmps117
  go_upto_region 1 with fail
  rw [← HW1.out, ← HMw.out]
  go_wp2_with fail
  refine HO.out.mono ?_
  rintro e w2 ⟨rfl, h2, t2⟩
  obtain ⟨W3, hW3⟩ : ∃ W3, W3 = w2.alloc (.cells #[] 48) := ⟨_, rfl⟩
  obtain ⟨B3, hB3⟩ : ∃ B3, B3 = w2.heap.size := ⟨_, rfl⟩
  have hb3 : Below w2.heap.size w2 W3 := by rw [hW3]; exact (Below.refl _ _).alloc (Nat.le_refl _) _
  have hT2 := (HB1.out.tcs (S := fun k => k = G.P)).trans t2
  have hM2 : M < w2.heap.size := Nat.lt_of_lt_of_le HM1.out t2.size
  have hu : NRow w2.heap.size W3 (.slice (some ⟨B3, 0, none⟩) 0 0) [] := by rw [hW3, hB3]; exact nrow_nil w2 _ (Nat.le_refl _)
  have hx3 : FrC W3 M (stV t ve vf) := (HX1.out.tcs HM1.out t2 (fun e => HPM.out e.symm)).below hb3
  have h3 := h2.below hb3
  have hT3 := hT2.of_below hb3
  have p3 : W3.cell? ⟨G.P, 3, none⟩ = some (.int .i64 z.er) := (h3.box 3 _ rfl).1
  have HC := hide (HTa.out W3 z h3)
  have HX3 := hide hx3
  have HU := hide hu
  have HT3 := hide hT3
  have HM3 := hide (Nat.lt_of_lt_of_le hM2 hb3.size)
  have HM2 := hide hM2
  have HW3 := hide hW3
  have HB3 := hide hB3
  clear h2 t2 hb3 hT2 hu hx3 h3 hT3 hW3 hM2 hB3 HO HTa HW1
  go_upto_region 3 with fail
  rw [← HW3.out, ← HB3.out]
  go_wp2_with fail
  refine HC.out.mono ?_
  rintro e w5 ⟨rfl, h5, t5⟩
  have hx5 := HX3.out.tcs HM3.out t5 (fun e => HPM.out e.symm)
  have hT5 := HT3.out.trans t5
  have hU5 : NRow w2.heap.size w5 (.slice (some ⟨B3, 0, none⟩) 0 0) ([]) := own_tcs HU.out t5 (fun k hk => by rw [hk]; have := HPM.out; have := HPw.out.1; have := HM2.out; have := HMw.out; omega)
  have hMw : w.heap.size ≤ M := Nat.le_of_eq HMw.out.symm
  have HBx := hide (fun i u => box_w hx5 hMw HPw.out h5 hT5 i u)
  have c0 : w5.cell? ⟨M, 0, none⟩ = some (.int .i64 t.kind) := (hx5 0 _ rfl).1
  have f2 : w5.frozen? ⟨M, 2, none⟩ = false := (hx5 2 _ rfl).2
  have f3 : w5.frozen? ⟨M, 3, none⟩ = false := (hx5 3 _ rfl).2
  have HU5 := hide hU5
  have hB5 : B0 ≤ w5.heap.size := Nat.le_trans HB0.out hT5.size
  have c2 : w5.cell? ⟨M, 2, none⟩ = some ve := (hx5 2 _ rfl).1
  have c3 : w5.cell? ⟨M, 3, none⟩ = some vf := (hx5 3 _ rfl).1
  clear h5 t5 hx5 hT5 hU5 HC
  have HNu : Hid (∀ i v X, X = w5.setCell ⟨M, i, none⟩ v → ∀ W, Tcs (fun k => k < B0) X W → Nodes W (.slice (some ⟨B3, 0, none⟩) 0 0) ([])) := fun i v X hX W hW => by
   have t1 : Tcs (fun k => k = M) w5 X := by rw [hX]; exact (HBx.out i v).2.2.2
   have hm := HM2.out
   have hn : NRow w2.heap.size X (.slice (some ⟨B3, 0, none⟩) 0 0) ([]) := own_notU HU5.out t1 (fun k hk e => by have := (World.ownsRow.lt HU5.out k hk).1; omega)
   exact nrow_st hn (by have := HB0.out; have := HMw.out; omega) W hW
  have HNo : Hid (∀ i v X, X = w5.setCell ⟨M, i, none⟩ v → ∀ W, Tcs (fun k => k < B0) X W → Nodes W ve t.e ∧ Nodes W vf t.f) := fun i v X hX W hW => by
   have t1 : Tcs (fun k => k < B0) w X := by rw [hX]; exact (HBx.out i v).2.2.1.mono (fun k hk => by rw [hk]; exact HPB.out)
   exact ⟨HVe.out W (t1.trans hW), HVf.out W (t1.trans hW)⟩
  by_cases h3 : t.kind = 3
  ·obtain ⟨X, hX⟩ : ∃ X, X = w5.setCell ⟨M, 3, none⟩ (.slice (some ⟨B3, 0, none⟩) 0 0) := ⟨_, rfl⟩
   obtain ⟨hxX, hzX, hTX, -⟩ := HBx.out 3 (.slice (some ⟨B3, 0, none⟩) 0 0)
   rw [← hX] at hxX hzX hTX
   have es : sgE t ([]) = { t with f := [] } := by unfold sgE; rw [if_pos h3]
   have HF : Hid (AsA G w B0 [sgE t ([])] (taS G.T [59] z) (.returned (.slice (some ⟨X.heap.size, 0, none⟩) 1 1)) (X.alloc (.cells #[.int .i64 t.kind, .string t.name, ve, .slice (some ⟨B3, 0, none⟩) 0 0, .int .i64 t.thn, .int .i64 t.els] 46))) := by
    rw [es]
    exact st_end (w := w) (t := { t with f := [] }) (ve := ve) (vf := .slice (some ⟨B3, 0, none⟩) 0 0) (Nat.le_trans HB0.out hTX.size) (fun W hW => (HNo.out 3 _ X hX W hW).1) (fun W hW => HNu.out 3 _ X hX W hW) hzX hTX
   have hq : ∀ j v, (stV t ve (.slice (some ⟨B3, 0, none⟩) 0 0))[j]? = some v → X.cell? ⟨M, j, none⟩ = some v := fun j v hj => (hxX j v hj).1
   have q0 := hq 0 _ rfl
   have q1 := hq 1 _ rfl
   have q2 := hq 2 _ rfl
   have q3 := hq 3 _ rfl
   have q4 := hq 4 _ rfl
   have q5 := hq 5 _ rfl
   have HXe := hide hX
   rw [h3] at c0
   rw [h3] at HF
   clear es
   clear hX hxX hzX hTX hq HNo HNu HBx HU5
   go_upto_region 9 with fail
   rw [← HXe.out]
   go_wp2_with fail
   go_ret
   exact HF.out
  ·obtain ⟨X, hX⟩ : ∃ X, X = w5.setCell ⟨M, 2, none⟩ (.slice (some ⟨B3, 0, none⟩) 0 0) := ⟨_, rfl⟩
   obtain ⟨hxX, hzX, hTX, -⟩ := HBx.out 2 (.slice (some ⟨B3, 0, none⟩) 0 0)
   rw [← hX] at hxX hzX hTX
   have es : sgE t ([]) = { t with e := [] } := by unfold sgE; rw [if_neg h3]
   have HF : Hid (AsA G w B0 [sgE t ([])] (taS G.T [59] z) (.returned (.slice (some ⟨X.heap.size, 0, none⟩) 1 1)) (X.alloc (.cells #[.int .i64 t.kind, .string t.name, .slice (some ⟨B3, 0, none⟩) 0 0, vf, .int .i64 t.thn, .int .i64 t.els] 46))) := by
    rw [es]
    exact st_end (w := w) (t := { t with e := [] }) (ve := .slice (some ⟨B3, 0, none⟩) 0 0) (vf := vf) (Nat.le_trans HB0.out hTX.size) (fun W hW => HNu.out 2 _ X hX W hW) (fun W hW => (HNo.out 2 _ X hX W hW).2) hzX hTX
   have hq : ∀ j v, (stV t (.slice (some ⟨B3, 0, none⟩) 0 0) vf)[j]? = some v → X.cell? ⟨M, j, none⟩ = some v := fun j v hj => (hxX j v hj).1
   have q0 := hq 0 _ rfl
   have q1 := hq 1 _ rfl
   have q2 := hq 2 _ rfl
   have q3 := hq 3 _ rfl
   have q4 := hq 4 _ rfl
   have q5 := hq 5 _ rfl
   have HXe := hide hX
   clear es
   clear hX hxX hzX hTX hq HNo HNu HBx HU5
   go_upto_region 9 with fail
   rw [← HXe.out]
   go_wp2_with fail
   go_ret
   exact HF.out
 ·go_enter Tryz.func117, Tryz.ntmps117
  go_upto_region 1 with fail
  rw [← HW1.out, ← HMw.out]
  go_wp2_with fail
  refine HO.out.mono ?_
  rintro e w2 ⟨rfl, h2, t2⟩
  obtain ⟨W3, hW3⟩ : ∃ W3, W3 = w2.alloc (.cells #[] 48) := ⟨_, rfl⟩
  have hb3 : Below w2.heap.size w2 W3 := by rw [hW3]; exact (Below.refl _ _).alloc (Nat.le_refl _) _
  have hT2 := (HB1.out.tcs (S := fun k => k = G.P)).trans t2
  have hM2 : M < w2.heap.size := Nat.lt_of_lt_of_le HM1.out t2.size
  have hx3 : FrC W3 M (stV t ve vf) := (HX1.out.tcs HM1.out t2 (fun e => HPM.out e.symm)).below hb3
  have h3 := h2.below hb3
  have p3 : W3.cell? ⟨G.P, 3, none⟩ = some (.int .i64 0) := by rw [← h0]; exact (h3.box 3 _ rfl).1
  have hsz : a.length ≤ 1000000 := by
   have := hal
   rw [szS_cons] at this
   unfold sgE at this
   split at this <;> simp only at this <;> omega
  have HX := hide (HE.out W3 1 z a s1 hpe hsz HOp.out h3)
  have HX3 := hide hx3
  have HT3 := hide (hT2.of_below hb3)
  have HM3 := hide (Nat.lt_of_lt_of_le hM2 hb3.size)
  have HW3 := hide hW3
  clear h2 t2 hb3 hT2 hx3 h3 hW3 hM2 HO HW1 hpe
  go_upto_region 3 with fail
  rw [← HW3.out]
  go_wp2_with fail
  refine HX.out.mono ?_
  rintro e w4 ⟨u4, rfl, hr4, h4, t4⟩
  obtain ⟨ad, cp, rfl, -⟩ := own_shape hr4
  have HC := hide (HTa.out w4 s1 h4)
  have HX4 := hide (HX3.out.tcs HM3.out t4 (fun e => HPM.out e.symm))
  have HU := hide hr4
  have HT4 := hide (HT3.out.trans t4)
  have HM4 := hide (Nat.lt_of_lt_of_le HM3.out t4.size)
  have HM2 := HM3
  clear hr4 h4 t4 HX HTa
  go_wp2_with fail
  refine HC.out.mono ?_
  rintro e w5 ⟨rfl, h5, t5⟩
  have hx5 := HX4.out.tcs HM4.out t5 (fun e => HPM.out e.symm)
  have hT5 := HT4.out.trans t5
  have hU5 : NRow W3.heap.size w5 (.slice ad a.length cp) (a) := own_tcs HU.out t5 (fun k hk => by rw [hk]; have := HPM.out; have := HPw.out.1; have := HM2.out; have := HMw.out; omega)
  have hMw : w.heap.size ≤ M := Nat.le_of_eq HMw.out.symm
  have HBx := hide (fun i u => box_w hx5 hMw HPw.out h5 hT5 i u)
  have c0 : w5.cell? ⟨M, 0, none⟩ = some (.int .i64 t.kind) := (hx5 0 _ rfl).1
  have f2 : w5.frozen? ⟨M, 2, none⟩ = false := (hx5 2 _ rfl).2
  have f3 : w5.frozen? ⟨M, 3, none⟩ = false := (hx5 3 _ rfl).2
  have HU5 := hide hU5
  have hB5 : B0 ≤ w5.heap.size := Nat.le_trans HB0.out hT5.size
  have c2 : w5.cell? ⟨M, 2, none⟩ = some ve := (hx5 2 _ rfl).1
  have c3 : w5.cell? ⟨M, 3, none⟩ = some vf := (hx5 3 _ rfl).1
  clear h5 t5 hx5 hT5 hU5 HC
  have HNu : Hid (∀ i v X, X = w5.setCell ⟨M, i, none⟩ v → ∀ W, Tcs (fun k => k < B0) X W → Nodes W (.slice ad a.length cp) (a)) := fun i v X hX W hW => by
   have t1 : Tcs (fun k => k = M) w5 X := by rw [hX]; exact (HBx.out i v).2.2.2
   have hm := HM2.out
   have hn : NRow W3.heap.size X (.slice ad a.length cp) (a) := own_notU HU5.out t1 (fun k hk e => by have := (World.ownsRow.lt HU5.out k hk).1; omega)
   exact nrow_st hn (by have := HB0.out; have := HMw.out; omega) W hW
  have HNo : Hid (∀ i v X, X = w5.setCell ⟨M, i, none⟩ v → ∀ W, Tcs (fun k => k < B0) X W → Nodes W ve t.e ∧ Nodes W vf t.f) := fun i v X hX W hW => by
   have t1 : Tcs (fun k => k < B0) w X := by rw [hX]; exact (HBx.out i v).2.2.1.mono (fun k hk => by rw [hk]; exact HPB.out)
   exact ⟨HVe.out W (t1.trans hW), HVf.out W (t1.trans hW)⟩
  by_cases h3 : t.kind = 3
  ·obtain ⟨X, hX⟩ : ∃ X, X = w5.setCell ⟨M, 3, none⟩ (.slice ad a.length cp) := ⟨_, rfl⟩
   obtain ⟨hxX, hzX, hTX, -⟩ := HBx.out 3 (.slice ad a.length cp)
   rw [← hX] at hxX hzX hTX
   have es : sgE t (a) = { t with f := a } := by unfold sgE; rw [if_pos h3]
   have HF : Hid (AsA G w B0 [sgE t (a)] (taS G.T [59] s1) (.returned (.slice (some ⟨X.heap.size, 0, none⟩) 1 1)) (X.alloc (.cells #[.int .i64 t.kind, .string t.name, ve, .slice ad a.length cp, .int .i64 t.thn, .int .i64 t.els] 46))) := by
    rw [es]
    exact st_end (w := w) (t := { t with f := a }) (ve := ve) (vf := .slice ad a.length cp) (Nat.le_trans HB0.out hTX.size) (fun W hW => (HNo.out 3 _ X hX W hW).1) (fun W hW => HNu.out 3 _ X hX W hW) hzX hTX
   have hq : ∀ j v, (stV t ve (.slice ad a.length cp))[j]? = some v → X.cell? ⟨M, j, none⟩ = some v := fun j v hj => (hxX j v hj).1
   have q0 := hq 0 _ rfl
   have q1 := hq 1 _ rfl
   have q2 := hq 2 _ rfl
   have q3 := hq 3 _ rfl
   have q4 := hq 4 _ rfl
   have q5 := hq 5 _ rfl
   have HXe := hide hX
   rw [h3] at c0
   rw [h3] at HF
   clear es
   clear hX hxX hzX hTX hq HNo HNu HBx HU5
   go_upto_region 9 with fail
   rw [← HXe.out]
   go_wp2_with fail
   go_ret
   exact HF.out
  ·obtain ⟨X, hX⟩ : ∃ X, X = w5.setCell ⟨M, 2, none⟩ (.slice ad a.length cp) := ⟨_, rfl⟩
   obtain ⟨hxX, hzX, hTX, -⟩ := HBx.out 2 (.slice ad a.length cp)
   rw [← hX] at hxX hzX hTX
   have es : sgE t (a) = { t with e := a } := by unfold sgE; rw [if_neg h3]
   have HF : Hid (AsA G w B0 [sgE t (a)] (taS G.T [59] s1) (.returned (.slice (some ⟨X.heap.size, 0, none⟩) 1 1)) (X.alloc (.cells #[.int .i64 t.kind, .string t.name, .slice ad a.length cp, vf, .int .i64 t.thn, .int .i64 t.els] 46))) := by
    rw [es]
    exact st_end (w := w) (t := { t with e := a }) (ve := .slice ad a.length cp) (vf := vf) (Nat.le_trans HB0.out hTX.size) (fun W hW => HNu.out 2 _ X hX W hW) (fun W hW => (HNo.out 2 _ X hX W hW).2) hzX hTX
   have hq : ∀ j v, (stV t (.slice ad a.length cp) vf)[j]? = some v → X.cell? ⟨M, j, none⟩ = some v := fun j v hj => (hxX j v hj).1
   have q0 := hq 0 _ rfl
   have q1 := hq 1 _ rfl
   have q2 := hq 2 _ rfl
   have q3 := hq 3 _ rfl
   have q4 := hq 4 _ rfl
   have q5 := hq 5 _ rfl
   have HXe := hide hX
   clear es
   clear hX hxX hzX hTX hq HNo HNu HBx HU5
   go_upto_region 9 with fail
   rw [← HXe.out]
   go_wp2_with fail
   go_ret
   exact HF.out
end
end Go.Proofs.YtlamjfhhefcohaaGreatDoor
