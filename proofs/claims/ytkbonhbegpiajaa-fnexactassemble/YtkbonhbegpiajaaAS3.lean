import Derived.Test.YtkbonhbegpiajaaAS2
namespace Go.Proofs.Ytkbonhbegpiajaa
open Go.RowKit
set_option linter.unusedVariables false
set_option linter.unusedSimpArgs false

/-- Only block g has turned, and new ones. -/
structure Tn (g : Nat) (w w' : World) : Prop where
  still : w'.os = w.os ∧ w'.tape = w.tape ∧ w'.output = w.output
  size : w.heap.size ≤ w'.heap.size
  other : ∀ b, b < w.heap.size → b ≠ g → w'.heap[b]? = w.heap[b]?
theorem Tn.refl (g : Nat) (w : World) : Tn g w w := ⟨⟨rfl, rfl, rfl⟩, Nat.le_refl _, fun _ _ _ => rfl⟩
theorem Tn.of {g : Nat} {w w' : World} (h : Tg g w w') : Tn g w w' := ⟨h.still, Nat.le_of_eq h.size.symm, fun b _ hb => h.other b hb⟩
theorem Tn.trans {g : Nat} {w w1 w2 : World} (h : Tn g w w1) (k : Tn g w1 w2) : Tn g w w2 := ⟨⟨k.still.1.trans h.still.1, k.still.2.1.trans h.still.2.1, k.still.2.2.trans h.still.2.2⟩, Nat.le_trans h.size k.size, fun b hl hb => (k.other b (Nat.lt_of_lt_of_le hl h.size) hb).trans (h.other b hl hb)⟩
theorem Tn.set {g : Nat} {w w' : World} (h : Tn g w w') (o : Nat) (v : Value) : Tn g w (w'.setCell ⟨g, o, none⟩ v) := by
  have hb0 := (Below.refl 0 w').setCell (p := ⟨g, o, none⟩) (Nat.zero_le _) v
  refine ⟨⟨hb0.os.trans h.still.1, hb0.tape.trans h.still.2.1, hb0.output.trans h.still.2.2⟩, by simpa using h.size, fun b hl hb => ?_⟩
  rw [← h.other b hl hb]
  exact Below.heap_setCell _ _ _ b (fun h => hb (by simpa using h))
theorem Tn.step {g : Nat} {w w' w2 : World} (h : Tn g w w') (hb : Below w'.heap.size w' w2) : Tn g w w2 :=
  ⟨⟨hb.os.trans h.still.1, hb.tape.trans h.still.2.1, hb.output.trans h.still.2.2⟩, Nat.le_trans h.size hb.size, fun b hl hn => (hb.block b (Nat.lt_of_lt_of_le hl h.size)).trans (h.other b hl hn)⟩
theorem Tn.below {B g : Nat} {w w' : World} (h : Tn g w w') (hg : B ≤ g) (hs : B ≤ w.heap.size) : Below B w w' :=
  ⟨h.still.1, h.still.2.1, h.still.2.2, h.size, fun k hk => h.other k (by omega) (by omega)⟩
theorem Tn.cell {g : Nat} {w w' : World} (h : Tn g w w') {b o : Nat} (hl : b < w.heap.size) (hb : b ≠ g) : w'.cell? ⟨b, o, none⟩ = w.cell? ⟨b, o, none⟩ := World.cell?_of_block (a := ⟨b, o, none⟩) (h.other b hl hb)
/-- A row of pointers to pieces. -/
def BRow (w : World) (g : Nat) (vb : Value) (bs : List Nat) : Prop := ∃ ab cb, vb = .slice ab bs.length cb ∧ bs.length ≤ cb ∧ (0 < bs.length → ∃ gb, ab = some ⟨gb, 0, none⟩ ∧ gb ≠ g ∧ gb < w.heap.size ∧ ∀ j (h : j < bs.length), w.cell? ⟨gb, j, none⟩ = some (.pointer (some ⟨g, bs[j] * 10, none⟩)))
theorem BRow.tn {w w' : World} {g : Nat} {vb : Value} {bs : List Nat} (h : BRow w g vb bs) (ht : Tn g w w') : BRow w' g vb bs := by
  obtain ⟨ab, cb, rfl, h1, h2⟩ := h
  refine ⟨ab, cb, rfl, h1, fun h0 => ?_⟩
  obtain ⟨gb, rfl, h3, h4, h5⟩ := h2 h0
  exact ⟨gb, rfl, h3, Nat.lt_of_lt_of_le h4 ht.size, fun j hj => (ht.cell h4 h3).trans (h5 j hj)⟩
theorem ret_boolA {a b : Bool} (h : a = b) : Ending.returned (.bool a) = .returned (.bool b) := by rw [h]
theorem grows_yes {its : List It} {lg : List Bool} {i : Nat} (hk : (its.getD i it0).kind = 3) (hl : lg.getD i false = false) : grows its lg i = !reach (farN its lg i) := by
  unfold grows
  rw [hk, hl]
  rfl
theorem grows_long {its : List It} {lg : List Bool} {i : Nat} (hl : lg.getD i false = true) : grows its lg i = false := by
  unfold grows
  rw [hl]
  simp
/-- The goals are laid. -/
def GoOk (its : List It) (g : Nat) (G : Nat → Value) : Prop := ∀ i, i < its.length → (its.getD i it0).kind ≠ 1 → (its.getD i it0).kind ≠ 2 → G i = .pointer (some ⟨g, tgt its i * 10, none⟩)
def lgAfter (its : List It) (lg : List Bool) (L : Nat → Bool) (bs : List Nat) : Nat → Bool := fun i => L i || (decide (i ∈ bs) && grows its lg i)

set_option maxHeartbeats 4000000 in
theorem lengthen_any (B g n : Nat) (pa : Option Addr) (cap : Nat) (vb : Value) (its : List It) (A : Nat → Int) (G : Nat → Value) (L : Nat → Bool) (bs : List Nat) (w : World) (hB : B ≠ g) (hBs : B < w.heap.size) (hgs : 0 < n → g < w.heap.size) (hn : n ≤ 20000) (h : Asm w B g n pa cap vb its A G L)
    (hA : ∀ i, i < n → A i = 4 * ((plN its (lgL L n) i : Nat) : Int)) (hG : GoOk its g G) (hbr : BRow w g vb bs) (hbs : ∀ i ∈ bs, i < n ∧ (its.getD i it0).kind = 3) (hbl : bs.length ≤ n) (hlk : Linked its) :
    Calls Try.prog 32 #[.pointer (some ⟨B, 0, none⟩)] w fun e w' => e = .returned (.bool (bs.any (grows its (lgL L n)))) ∧ Tn g w w' ∧ PRow w' g n its A G (lgAfter its (lgL L n) L bs) := by
  have H : Hid (Asm w B g n pa cap vb its A G L) := h
  have HA : Hid (∀ i, i < n → A i = 4 * ((plN its (lgL L n) i : Nat) : Int)) := hA
  have HG : Hid (GoOk its g G) := hG
  have HBr : Hid (BRow w g vb bs) := hbr
  have HBs : Hid (∀ i ∈ bs, i < n ∧ (its.getD i it0).kind = 3) := hbs
  have HLk : Hid (Linked its) := hlk
  have hlen := h.len
  obtain ⟨ab, cb, rfl, hcb, hbc⟩ := hbr
  have HBC : Hid (0 < bs.length → ∃ gb, ab = some ⟨gb, 0, none⟩ ∧ gb ≠ g ∧ gb < w.heap.size ∧ ∀ j (h : j < bs.length), w.cell? ⟨gb, j, none⟩ = some (.pointer (some ⟨g, bs[j] * 10, none⟩))) := hbc
  have b1 := h.brs
  clear h hA hG hbs hlk hbc
  go_enter Try.func32, Try.ntmps32
  go_wp2_with fail
  clear b1
  go_loopw [3, 11] (fun c i wr => ∃ j : Nat, j ≤ bs.length ∧ i = .int .i64 j ∧ c = .bool ((bs.take j).any (grows its (lgL L n))) ∧ Tn g w wr ∧ PRow wr g n its A G (lgAfter its (lgL L n) L (bs.take j))) (fun _ i _ => bs.length - (intOf i).toNat)
  case atStart => exact ⟨0, Nat.zero_le _, rfl, rfl, Tn.refl _ _, by have e : lgAfter its (lgL L n) L (bs.take 0) = L := (by funext i; simp [lgAfter]); rw [e]; exact H.out.pcs⟩
  case round =>
    obtain ⟨j, hj, rfl, rfl, hT, hP⟩ := hrel
    have HP : Hid (PRow wr g n its A G (lgAfter its (lgL L n) L (bs.take j))) := hP
    have HT : Hid (Tn g w wr) := hT
    clear hP hT
    by_cases hlt : j < bs.length
    · obtain ⟨gb, rfl, hgb, hgl, hcs⟩ := HBC.out (by omega)
      have p0 := (HT.out.cell hgl hgb).trans (hcs j hlt)
      obtain ⟨hi, hk3⟩ := HBs.out bs[j] (List.getElem_mem hlt)
      have HTk : Hid (bs.take (j + 1) = bs.take j ++ [bs[j]]) := by
        show _ = _
        rw [List.take_add_one, List.getElem?_eq_getElem hlt]; rfl
      clear hcs
      generalize bs[j] = i at p0 hi hk3 HTk
      have hgw : g < wr.heap.size := Nat.lt_of_lt_of_le (hgs (by omega)) HT.out.size
      have HPc : Hid (Pc wr g (i * 10) (its.getD i it0) (A i) (G i) (lgAfter its (lgL L n) L (bs.take j) i)) := HP.out.pc i hi
      have c9 := HPc.out.c9
      have f9 := HP.out.free i hi 9 (by omega)
      generalize hprev : bs.take j = pv at HP HPc HTk c9 ⊢
      clear hprev
      cases hl : lgAfter its (lgL L n) L pv i
      · rw [hl] at c9
        have h0 : L i = false := by
          simp only [lgAfter, Bool.or_eq_false_iff] at hl
          exact hl.1
        have hlt2 : tgt its i < n := by rw [← hlen]; exact tgt_lt HLk.out (by omega)
        have hGi : G i = .pointer (some ⟨g, tgt its i * 10, none⟩) := HG.out i (by omega) (by omega) (by omega)
        have HPt : Hid (Pc wr g (tgt its i * 10) (its.getD (tgt its i) it0) (A (tgt its i)) (G (tgt its i)) (lgAfter its (lgL L n) L pv (tgt its i))) := HP.out.pc _ hlt2
        have HPi : Hid (Pc wr g (i * 10) (its.getD i it0) (A i) (.pointer (some ⟨g, tgt its i * 10, none⟩)) (lgAfter its (lgL L n) L pv i)) := by have := HPc.out; rw [hGi] at this; exact this
        have hp1 := plN_le its (lgL L n) i
        have hp2 := plN_le its (lgL L n) (tgt its i)
        have ha1 := HA.out i hi
        have ha2 := HA.out _ hlt2
        have HFar : Hid (A (tgt its i) - A i = farN its (lgL L n) i) := by show _ = _; rw [ha1, ha2]; rfl
        have HGr : Hid (grows its (lgL L n) i = !reach (A (tgt its i) - A i)) := by
          show _ = _
          rw [HFar.out]
          exact grows_yes hk3 (by rw [lgL_at L n i hi]; exact h0)
        have hb1 : 0 ≤ A i ∧ A i ≤ 1000000000 := by omega
        have hb2 : 0 ≤ A (tgt its i) ∧ A (tgt its i) ≤ 1000000000 := by omega
        clear ha1 ha2 hp1 hp2 hGi
        go_wp2_with fail
        refine (far_any g (i * 10) g (tgt its i * 10) _ _ _ _ _ _ _ _ HPi.out HPt.out hb1 hb2).mono ?_
        rintro e w2 ⟨rfl, hb3⟩
        have HT2 : Hid (Tn g w w2) := HT.out.step hb3
        have HP2 : Hid (PRow w2 g n its A G (lgAfter its (lgL L n) L pv)) := HP.out.below hgw hb3
        have c9' := (HP2.out.pc i hi).c9
        have f9' := HP2.out.free i hi 9 (by omega)
        rw [hl] at c9'
        clear hb3 c9 f9 p0
        cases hr : reach (A (tgt its i) - A i)
        · have HG1 : Hid (grows its (lgL L n) i = true) := by show _ = _; rw [HGr.out, hr]; rfl
          have HP3 : Hid (PRow (w2.setCell ⟨g, i * 10 + 9, none⟩ (.bool true)) g n its A G (lgAfter its (lgL L n) L (bs.take (j + 1)))) := by
            have e : upd (lgAfter its (lgL L n) L pv) i true = lgAfter its (lgL L n) L (bs.take (j + 1)) := by
              rw [HTk.out]
              funext x
              by_cases hx : x = i
              · subst hx
                rw [upd_same]
                simp [lgAfter, HG1.out]
              · rw [upd_other _ _ _ _ hx]
                simp [lgAfter, hx]
            rw [← e]
            exact HP2.out.long i hi true
          have HC : Hid ((bs.take (j + 1)).any (grows its (lgL L n)) = true) := by
            show _ = _
            rw [HTk.out, List.any_append]
            simp [HG1.out]
          clear hr
          go_wp2_with fail
          go_roundw
          case rel => exact ⟨j + 1, by omega, by go_num, by rw [HC.out], HT2.out.set _ _, HP3.out⟩
          case measure => simp [intOf]; omega
        · have HG1 : Hid (grows its (lgL L n) i = false) := by show _ = _; rw [HGr.out, hr]; rfl
          have HP3 : Hid (PRow w2 g n its A G (lgAfter its (lgL L n) L (bs.take (j + 1)))) := by
            have e : lgAfter its (lgL L n) L pv = lgAfter its (lgL L n) L (bs.take (j + 1)) := by
              rw [HTk.out]
              funext x
              by_cases hx : x = i
              · subst hx
                simp [lgAfter, HG1.out]
              · simp [lgAfter, hx]
            rw [← e]
            exact HP2.out
          have HC : Hid ((bs.take (j + 1)).any (grows its (lgL L n)) = pv.any (grows its (lgL L n))) := by
            show _ = _
            rw [HTk.out, List.any_append]
            simp [HG1.out]
          clear hr
          go_wp2_with fail
          go_roundw
          case rel => exact ⟨j + 1, by omega, by go_num, by rw [HC.out], HT2.out, HP3.out⟩
          case measure => simp [intOf]; omega
      · rw [hl] at c9
        have HEq : Hid (lgAfter its (lgL L n) L (bs.take (j + 1)) = lgAfter its (lgL L n) L pv ∧ (bs.take (j + 1)).any (grows its (lgL L n)) = pv.any (grows its (lgL L n))) := by
          rw [HTk.out]
          constructor
          · funext x
            by_cases hx : x = i
            · subst hx
              rw [hl]
              simp only [lgAfter, Bool.or_eq_true, Bool.and_eq_true, decide_eq_true_eq] at hl ⊢
              rcases hl with hl | hl
              · exact .inl hl
              · exact .inr ⟨by simp [hl.1], hl.2⟩
            · simp [lgAfter, hx]
          · rw [List.any_append]
            simp only [List.any_cons, List.any_nil, Bool.or_false]
            simp only [lgAfter, Bool.or_eq_true, Bool.and_eq_true, decide_eq_true_eq] at hl
            rcases hl with hl | hl
            · have : grows its (lgL L n) i = false := grows_long (by rw [lgL_at L n i hi]; exact hl)
              rw [this]; simp
            · have : pv.any (grows its (lgL L n)) = true := List.any_eq_true.2 ⟨i, hl.1, hl.2⟩
              rw [this]; rfl
        go_wp2_with fail
        go_roundw
        case rel => exact ⟨j + 1, by omega, by go_num, by rw [HEq.out.2], HT.out, by rw [HEq.out.1]; exact HP.out⟩
        case measure => simp [intOf]; omega
    · obtain rfl : j = bs.length := by omega
      have HP2 : Hid (PRow wr g n its A G (lgAfter its (lgL L n) L bs)) := by have := HP.out; rw [List.take_length] at this; exact this
      have HC : Hid ((bs.take bs.length).any (grows its (lgL L n)) = bs.any (grows its (lgL L n))) := by show _ = _; rw [List.take_length]
      generalize (bs.take bs.length).any (grows its (lgL L n)) = cc at HC ⊢
      go_wp2_with fail
      go_ret
      exact ⟨ret_boolA HC.out, HT.out, HP2.out⟩

end Go.Proofs.Ytkbonhbegpiajaa
