import Derived.Test.YtjhmgjimppflhaaGreatDoorY17
import Derived.Test.YtjhmgjimppflhaaGreatDoorY40
set_option linter.unusedSectionVars false
variable [Inhabited Go.Proofs.YtjhmgjimppflhaaGreatDoor.Pick]
namespace Go.Proofs.YtjhmgjimppflhaaGreatDoor
set_option linter.unusedVariables false
set_option linter.unusedSimpArgs false
set_option maxRecDepth 100000
set_option maxHeartbeats 16000000
section
open Go.RowKit
theorem wpList_appS {w : World} {ops : Array Oper} {rest : List Oper} {o : Oper} {a : Act} {Q : Exit → Act → World → Prop} (hgd : o.guard = none) (s x : Operand)
  (ho : o.op = .call { callee := .builtin .append, args := #[s, x], argTypes := #[58, 58] })
  (base : Nat) (v : Value) (xs : List ByteArray) (hs : a.eval s = v) (hown : SRow base w v xs) (xv : Value) (us : List ByteArray) (hxv : a.eval x = xv) (hx : SSrc w xv us)
  (hm : xs.length + us.length ≤ 10000000) (hbase : base ≤ w.heap.size)
  (h : ∀ v' w', SRow base w' v' (xs ++ us) → w.grownBy w' v.ownBlock → (∀ k, v'.ownBlock = some k → v.ownBlock = some k ∨ w.heap.size ≤ k) → wpList Tryz.prog ops Q rest (a.put o.dst v') w') : wpList Tryz.prog ops Q (o :: rest) a w := by
 refine wpList_plain hgd fun K hK => ?_
 obtain ⟨v', w', hr, h2, h3, h4⟩ := run_appS (w := w) base o.type v xs hown xv us hx hm hbase
 unfold Oper.wp execOp
 simp only [ho, resolve, invoke, builtin, Sem.run_bind, Sem.run_pure, Result.andThen_ok, List.map_toArray, List.map_cons, List.map_nil, hs, hxv, hr]
 exact hK _ _ (h v' w' h2 h3 h4)
theorem needG_any {w : World} {e : List Nd} (hk : okE e) (hp : 0 < e.length) (v : Value) (W : World) (d : Int) (hN : Nodes w v e) (hB : Below w.heap.size w W) (hd : 0 ≤ d) (hd1 : d ≤ 1) : Calls Tryz.prog 104 #[v, .int .i64 d] W fun x w' => x = .returned (.int .i64 (needL e d)) ∧ Below W.heap.size W w' := by
 obtain ⟨g, h1, h2, h3⟩ := needS_any w e.length e (Nat.le_refl _) (by have := hk.1; omega) (hk.2 hp)
 rw [h1.eq]
 exact h3 v W d hN hB hd (by have := hk.1; omega)
theorem boxS {w w' : World} {t : TypeId} {x0 x1 x2 x3 x4 x5 : Value} (h : Below (w.heap.size + 1) (w.alloc (.cells #[x0, x1, x2, x3, x4, x5] t)) w') :
  w'.cell? ⟨w.heap.size, 0, none⟩ = some x0 ∧ w'.cell? ⟨w.heap.size, 1, none⟩ = some x1 ∧ w'.cell? ⟨w.heap.size, 2, none⟩ = some x2 ∧ w'.cell? ⟨w.heap.size, 3, none⟩ = some x3 := by
 refine ⟨?_, ?_, ?_, ?_⟩ <;> (rw [h.cell (by simp)]; simp)
theorem szA {w w' : World} {o : Obj} (h : Below (w.heap.size + 1) (w.alloc o) w') : w.heap.size + 1 ≤ w'.heap.size := by have := h.size; simpa using this
theorem boxF {w w' : World} {t : TypeId} {x0 x1 x2 : Value} (h : Below (w.heap.size + 1) (w.alloc (.cells #[x0, x1, x2] t)) w') :
  w'.cell? ⟨w.heap.size, 0, none⟩ = some x0 ∧ w'.cell? ⟨w.heap.size, 1, none⟩ = some x1 ∧ w'.cell? ⟨w.heap.size, 2, none⟩ = some x2 := by
 refine ⟨?_, ?_, ?_⟩ <;> (rw [h.cell (by simp)]; simp)
set_option maxRecDepth 100000 in
set_option maxHeartbeats 4000000 in
theorem layout_row (f : Fu) (vp vb : Value) (w : World) (hok : FrOk f) (hp : Strs w vp f.params) (hb : Stmts w vb f.body) :
  Calls Tryz.prog 73 #[.agg #[.string f.name, vp, vb]] w fun e w' => ∃ a c, e = .returned (.tuple #[.slice a (f.params ++ declN f.body).length c, .int .i64 (places f.body)]) ∧ Below w.heap.size w w' ∧ SRow (w.heap.size + 1) w' (.slice a (f.params ++ declN f.body).length c) (f.params ++ declN f.body) := by
 have HPs : Hid (Strs w vp f.params) := hp
 obtain ⟨ap, cp, rfl, -⟩ := hp
 obtain ⟨ab, cb, rfl, hb1, hb2, hbc⟩ := hb
 have HBC : Hid (0 < f.body.length → ∃ b off, ab = some ⟨b, off, none⟩ ∧ StmtsC w b off f.body) := hbc
 have HOk : Hid (FrOk f) := hok
 have hpl := hok.pl
 have hbl := hok.bl
 obtain ⟨W0, hW0⟩ : ∃ W0, W0 = w.alloc (.cells #[.string f.name, .slice ap f.params.length cp, .slice ab f.body.length cb] 61) := ⟨_, rfl⟩
 have hA : Below w.heap.size w W0 := by rw [hW0]; exact (Below.refl _ _).alloc (Nat.le_refl _) _
 have hs0 : W0.heap.size = w.heap.size + 1 := by rw [hW0]; simp
 have HSr : Hid (SRow (w.heap.size + 1) (W0.alloc (.cells #[] 9)) (.slice (some ⟨w.heap.size + 1, 0, none⟩) 0 0) []) := by
  have := srow_lit W0 (w.heap.size + 1) (by omega)
  rw [hs0] at this
  exact this
 have HSs : Hid (SSrc (W0.alloc (.cells #[] 9)) (.slice ap f.params.length cp) f.params) := (HPs.out.below (hA.alloc (by omega) _)).src
 have HBox : Hid (∀ W, Below (w.heap.size + 1) W0 W → W.cell? ⟨w.heap.size, 0, none⟩ = some (.string f.name) ∧ W.cell? ⟨w.heap.size, 1, none⟩ = some (.slice ap f.params.length cp) ∧ W.cell? ⟨w.heap.size, 2, none⟩ = some (.slice ab f.body.length cb)) := fun W hW => by
  rw [hW0] at hW
  exact boxF hW
 have HA : Hid (Below w.heap.size w W0) := hA
 have HW0 : Hid (W0 = w.alloc (.cells #[.string f.name, .slice ap f.params.length cp, .slice ab f.body.length cb] 61)) := hW0
 have hsz0 : (W0.alloc (.cells #[] 9)).heap.size = w.heap.size + 2 := by simp [hs0]
 clear hW0 hbc hok hA
 go_enter Tryz.func73, Tryz.ntmps73
 go_wp2_with (at_builtin; rw [← HW0.out]; refine wpList_appS rfl _ _ rfl (w.heap.size + 1) _ [] rfl HSr.out _ f.params rfl HSs.out (by simp; omega) (by omega) ?_)
 intro v1 w1 hr1 hg1 hf1
 have hB1 : Below (w.heap.size + 1) W0 w1 := ((Below.refl _ _).alloc (by omega) _).grown hg1 (by omega) (fun g hg => (World.ownsRow.lt HSr.out g hg).1)
 have HR1 : Hid (SRow (w.heap.size + 1) w1 v1 (f.params ++ declN (f.body.take 0))) := by
  show SRow _ _ _ _
  simpa [declN] using hr1
 have HB1 : Hid (Below (w.heap.size + 1) W0 w1) := hB1
 clear hr1 hg1 hf1 HSr HSs hsz0 hB1
 go_wp2_with fail
 go_loopw [4, 5, 6] (fun v p i wr => ∃ (k : Nat), k ≤ f.body.length ∧ i = .int .i64 k ∧ p = .int .i64 (places (f.body.take k)) ∧ SRow (w.heap.size + 1) wr v (f.params ++ declN (f.body.take k)) ∧ Below (w.heap.size + 1) W0 wr) (fun _ _ i _ => f.body.length - (RowKit.intOf i).toNat)
 case atStart => exact ⟨0, Nat.zero_le _, rfl, rfl, HR1.out, HB1.out⟩
 case round =>
  clear HR1 HB1
  obtain ⟨k, hk, rfl, rfl, hR, hB⟩ := hrel
  obtain ⟨f0, f1, f2⟩ := HBox.out wr hB
  have hBw : Below w.heap.size w wr := HA.out.trans (hB.mono (by omega))
  have hsw : w.heap.size + 1 ≤ wr.heap.size := by have := hB.size; omega
  by_cases hlt : k < f.body.length
  ·obtain ⟨b', off, rfl, hc⟩ := HBC.out (by omega)
   obtain ⟨ve, vf, ⟨c0, c1, c2, c3, c4, c5⟩, he, hf⟩ := hc k hlt
   have hlb := World.block_lt_of_cell? _ _ c0
   have d0 := (hBw.cell (p := ⟨b', off + k * 6, none⟩) hlb).trans c0
   have d1 := (hBw.cell (p := ⟨b', off + k * 6 + 1, none⟩) hlb).trans c1
   have d2 := (hBw.cell (p := ⟨b', off + k * 6 + 2, none⟩) hlb).trans c2
   have d3 := (hBw.cell (p := ⟨b', off + k * 6 + 3, none⟩) hlb).trans c3
   have d4 := (hBw.cell (p := ⟨b', off + k * 6 + 4, none⟩) hlb).trans c4
   have d5 := (hBw.cell (p := ⟨b', off + k * 6 + 5, none⟩) hlb).trans c5
   clear c0 c1 c2 c3 c4 c5 hc
   have hmem : f.body[k] ∈ f.body := List.getElem_mem hlt
   have hsn : declN (f.body.take (k + 1)) = if f.body[k].kind = 1 then declN (f.body.take k) ++ [f.body[k].name] else declN (f.body.take k) := by rw [List.take_succ_eq_append_getElem hlt, declN_snoc]
   have hpn : places (f.body.take (k + 1)) = if f.body[k].kind = 3 then max (max (places (f.body.take k)) (needL f.body[k].e 0)) (needL f.body[k].f 1) else max (places (f.body.take k)) (needL f.body[k].e 0) := by
    rw [List.take_succ_eq_append_getElem hlt, places_snoc, plU_spec (HOk.out.sb _ hmem)]
   have hse := HOk.out.st _ hmem
   have hsb := HOk.out.sb _ hmem
   have hdl : (f.params ++ declN (f.body.take k)).length ≤ 2000 := by
    have := declN_len (f.body.take k)
    have : (f.body.take k).length ≤ k := List.length_take_le _ _
    simp only [List.length_append]
    omega
   have HNE : Hid (∀ W, Below w.heap.size w W → Calls Tryz.prog 104 #[ve, .int .i64 0] W fun x w' => x = .returned (.int .i64 (needL f.body[k].e 0)) ∧ Below W.heap.size W w') := fun W hW => needG_any hse.1 hsb.1 ve W 0 he hW (by omega) (by omega)
   have HNF : Hid (f.body[k].kind = 3 → ∀ W, Below w.heap.size w W → Calls Tryz.prog 104 #[vf, .int .i64 1] W fun x w' => x = .returned (.int .i64 (needL f.body[k].f 1)) ∧ Below W.heap.size W w') := fun h3 W hW => needG_any hse.2 (hsb.2.1 h3) vf W 1 hf hW (by omega) (by omega)
   obtain ⟨ae, ce, rfl, -⟩ := he
   obtain ⟨af, cf, rfl, -⟩ := hf
   clear hse hsb hmem
   generalize needL f.body[k].e 0 = ne at HNE hpn
   generalize needL f.body[k].f 1 = nf at HNF hpn
   generalize f.body[k].e.length = le at d2 HNE
   generalize f.body[k].f.length = lf at d3 HNF
   generalize f.body[k].name = sn at d1 hsn
   generalize f.body[k].thn = st at d4
   generalize f.body[k].els = sl at d5
   generalize f.body[k].kind = sk at d0 hsn hpn HNF
   generalize hP : places (f.body.take k) = P at hpn ⊢
   clear hP
   obtain ⟨an, cn, rfl⟩ := hR.shape
   have HR : Hid (SRow (w.heap.size + 1) wr (.slice an (f.params ++ declN (f.body.take k)).length cn) (f.params ++ declN (f.body.take k))) := hR
   have HSN : Hid (declN (f.body.take (k + 1)) = if sk = 1 then declN (f.body.take k) ++ [sn] else declN (f.body.take k)) := hsn
   have HPN : Hid (places (f.body.take (k + 1)) = if sk = 3 then max (max P ne) nf else max P ne) := hpn
   clear hR hsn hpn
   have hA1 : ∀ o, Below (w.heap.size + 1) W0 (wr.alloc o) := fun o => hB.alloc hsw o
   have HAw : Hid (∀ W, Below (w.heap.size + 1) W0 W → Below w.heap.size w W) := fun W hW => HA.out.trans (hW.mono (by omega))
   generalize hL : (f.params ++ declN (f.body.take k)).length = L at HR ⊢
   have hL2 : L ≤ 2000 := by omega
   by_cases h1 : sk = 1
   ·subst h1
    have HR1 : Hid (SRow (w.heap.size + 1) ((wr.alloc (.cells #[.int .i64 1, .string sn, .slice ae le ce, .slice af lf cf, .int .i64 st, .int .i64 sl] 88)).alloc (.cells #[.string sn] 9)) (.slice an L cn) (f.params ++ declN (f.body.take k))) := (HR.out.below ((Below.refl _ _).alloc (Nat.le_refl _) _)).below ((Below.refl _ _).alloc (Nat.le_refl _) _)
    have HS1 : Hid (SSrc ((wr.alloc (.cells #[.int .i64 1, .string sn, .slice ae le ce, .slice af lf cf, .int .i64 st, .int .i64 sl] 88)).alloc (.cells #[.string sn] 9)) (.slice (some ⟨wr.heap.size + 1, 0, none⟩) 1 1) [sn]) := by
     have := ssrc_1 (wr.alloc (.cells #[.int .i64 1, .string sn, .slice ae le ce, .slice af lf cf, .int .i64 st, .int .i64 sl] 88)) sn 9
     rw [World.size_alloc] at this
     exact this
    have HSN2 : Hid (f.params ++ declN (f.body.take (k + 1)) = f.params ++ (declN (f.body.take k) ++ [sn])) := by
     show _ = _
     rw [HSN.out, if_pos rfl]
    have HP5 : Hid (places (f.body.take (k + 1)) = max P ne) := by
     show _ = _
     rw [HPN.out, if_neg (by decide)]
    have hLL : (f.params ++ declN (f.body.take k)).length + [sn].length ≤ 10000000 := by simp only [List.length_cons, List.length_nil]; omega
    have hob : ∀ g, (Value.slice an L cn).ownBlock = some g → w.heap.size + 1 ≤ g ∧ g < wr.heap.size := fun g hg => World.ownsRow.lt HR.out g hg
    clear HNF HSN HPN
    go_wp2_with (at_builtin; refine wpList_appS rfl _ _ rfl (w.heap.size + 1) _ (f.params ++ declN (f.body.take k)) rfl HR1.out _ [sn] rfl HS1.out hLL (by simp; omega) ?_)
    intro v2 w2 hr2 hg2 hf2
    rw [← HSN2.out] at hr2
    have hc2 : Below (w.heap.size + 1) (wr.alloc (.cells #[.int .i64 1, .string sn, .slice ae le ce, .slice af lf cf, .int .i64 st, .int .i64 sl] 88)) w2 := ((Below.refl _ _).alloc (by simp; omega) _).grown hg2 (by simp; omega) (fun g hg => (hob g hg).1)
    have hkb : ∀ o, w2.cell? ⟨wr.heap.size, o, none⟩ = (wr.alloc (.cells #[.int .i64 1, .string sn, .slice ae le ce, .slice af lf cf, .int .i64 st, .int .i64 sl] 88)).cell? ⟨wr.heap.size, o, none⟩ := fun o => by
     have h1 : w2.heap[wr.heap.size]? = ((wr.alloc (.cells #[.int .i64 1, .string sn, .slice ae le ce, .slice af lf cf, .int .i64 st, .int .i64 sl] 88)).alloc (.cells #[.string sn] 9)).heap[wr.heap.size]? := hg2.block wr.heap.size (by simp; omega) (fun h => by have := (hob _ h.symm).2; omega)
     rw [World.cell?_of_block (a := ⟨wr.heap.size, o, none⟩) h1, World.cell?_alloc_lt _ _ ⟨wr.heap.size, o, none⟩ (by simp)]
    have g0 := (hkb 0).trans (show _ = some (.int .i64 1) by simp)
    have g2 := (hkb 2).trans (show _ = some (.slice ae le ce) by simp)
    have hB2 : Below (w.heap.size + 1) W0 w2 := (hA1 _).trans (hc2.mono (by omega))
    have HR2 : Hid (SRow (w.heap.size + 1) w2 v2 (f.params ++ declN (f.body.take (k + 1)))) := hr2
    obtain ⟨an2, cn2, rfl⟩ := hr2.shape
    generalize (f.params ++ declN (f.body.take (k + 1))).length = L2 at HR2 ⊢
    have hlw : wr.heap.size < w2.heap.size := World.block_lt_of_cell? _ _ g0
    clear hr2 hg2 hf2 hkb hc2 d0 d1 d2 d3 d4 d5 f0 f1 f2 HR1 HS1 hob HR hL hA1 hLL
    go_wp2_with fail
    refine (HNE.out _ (HAw.out _ hB2)).mono ?_
    rintro e w3 ⟨rfl, hb3⟩
    have g3 := (hb3.cell (p := ⟨wr.heap.size, 0, none⟩) hlw).trans g0
    clear g0 g2
    go_wp2_with fail
    refine (most_any P ne w3).mono ?_
    rintro e w4 ⟨rfl, hb4⟩
    have g4 := (hb4.cell (p := ⟨wr.heap.size, 0, none⟩) (Nat.lt_of_lt_of_le hlw hb3.size)).trans g3
    have HR5 : Hid (SRow (w.heap.size + 1) w4 (.slice an2 L2 cn2) (f.params ++ declN (f.body.take (k + 1)))) := (HR2.out.below hb3).below hb4
    have hB3 := hB2.trans (hb3.mono (by have := hB2.size; omega))
    have hB4 := hB3.trans (hb4.mono (by have := hB3.size; omega))
    clear g3 hb3 hb4 hB2 hB3 HR2 HNE HAw HSN2
    go_wp2_with fail
    go_roundw
    case rel => exact ⟨k + 1, by omega, by go_num, by rw [HP5.out], HR5.out, hB4⟩
    case measure => simp [RowKit.intOf]; omega
   ·have hk1 : (sk == 1) = false := by simp [h1]
    have HSN2 : Hid (declN (f.body.take (k + 1)) = declN (f.body.take k)) := by
     show _ = _
     rw [HSN.out, if_neg h1]
    clear HSN
    by_cases h3 : sk = 3
    ·subst h3
     have HNF3 := HNF.out rfl
     have HNG : Hid (∀ W, Below w.heap.size w W → Calls Tryz.prog 104 #[.slice af lf cf, .int .i64 1] W fun x w' => x = .returned (.int .i64 nf) ∧ Below W.heap.size W w') := HNF3
     clear HNF HNF3
     go_wp2_with fail
     refine (HNE.out _ (HAw.out _ (hA1 _))).mono ?_
     rintro e w2 ⟨rfl, hb2⟩
     simp only [World.size_alloc] at hb2
     obtain ⟨g0, -, -, g3⟩ := boxS hb2
     clear d0 d1 d2 d3 d4 d5 f0 f1 f2 HNE
     go_wp2_with fail
     refine (most_any P ne w2).mono ?_
     rintro e w3 ⟨rfl, hb3⟩
     have hc3 := hb2.trans (hb3.mono (szA hb2))
     clear g0 g3 hb2 hb3
     obtain ⟨g0, -, -, g3⟩ := boxS hc3
     go_wp2_with fail
     refine (HNG.out _ (HAw.out _ ((hA1 _).trans (hc3.mono (by omega))))).mono ?_
     rintro e w4 ⟨rfl, hb4⟩
     have hc4 := hc3.trans (hb4.mono (szA hc3))
     clear g0 g3 hb4 hc3
     go_wp2_with fail
     refine (most_any (max P ne) nf w4).mono ?_
     rintro e w5 ⟨rfl, hb5⟩
     have hc5 := hc4.trans (hb5.mono (szA hc4))
     clear hb5 hc4
     have HR5 : Hid (SRow (w.heap.size + 1) w5 (.slice an L cn) (f.params ++ declN (f.body.take (k + 1)))) := by
      show SRow _ _ _ _
      rw [HSN2.out]
      exact HR.out.below (one_below hc5)
     have hB5 : Below (w.heap.size + 1) W0 w5 := (hA1 _).trans (hc5.mono (by omega))
     have HP5 : Hid (places (f.body.take (k + 1)) = max (max P ne) nf) := by
      show _ = _
      rw [HPN.out]
      simp
     clear hc5 HR HPN HSN2 hL
     go_wp2_with fail
     go_roundw
     case rel => exact ⟨k + 1, by omega, by go_num, by rw [HP5.out, Int.max_assoc], HR5.out, hB5⟩
     case measure => simp [RowKit.intOf]; omega
    ·have hk3 : (sk == 3) = false := by simp [h3]
     clear HNF
     go_wp2_with fail
     refine (HNE.out _ (HAw.out _ (hA1 _))).mono ?_
     rintro e w2 ⟨rfl, hb2⟩
     simp only [World.size_alloc] at hb2
     obtain ⟨g0, -, -, g3⟩ := boxS hb2
     clear d0 d1 d2 d3 d4 d5 f0 f1 f2 HNE
     go_wp2_with fail
     refine (most_any P ne w2).mono ?_
     rintro e w3 ⟨rfl, hb3⟩
     have hc3 := hb2.trans (hb3.mono (szA hb2))
     clear g0 g3 hb2 hb3
     obtain ⟨g0, -, -, g3⟩ := boxS hc3
     have HR5 : Hid (SRow (w.heap.size + 1) w3 (.slice an L cn) (f.params ++ declN (f.body.take (k + 1)))) := by
      show SRow _ _ _ _
      rw [HSN2.out]
      exact HR.out.below (one_below hc3)
     have hB5 : Below (w.heap.size + 1) W0 w3 := (hA1 _).trans (hc3.mono (by omega))
     have HP5 : Hid (places (f.body.take (k + 1)) = max P ne) := by
      show _ = _
      rw [HPN.out, if_neg h3]
     clear hc3 HR HPN HSN2 hL
     go_wp2_with fail
     go_roundw
     case rel => exact ⟨k + 1, by omega, by go_num, by rw [HP5.out], HR5.out, hB5⟩
     case measure => simp [RowKit.intOf]; omega
  ·obtain rfl : k = f.body.length := by omega
   rw [List.take_length] at hR ⊢
   obtain ⟨an, cn, rfl⟩ := hR.shape
   have HRz : Hid (SRow (w.heap.size + 1) wr (.slice an (f.params ++ declN f.body).length cn) (f.params ++ declN f.body)) := hR
   clear hR
   go_wp2_with fail
   exact bodyPost_ret (v := .tuple #[.slice an (f.params ++ declN f.body).length cn, .int .i64 (places f.body)]) (by simp [results, Tryz.results73, go_sem]) rfl ⟨an, cn, rfl, hBw, HRz.out⟩
theorem layout_any (f : Fu) (vp vb : Value) (w : World) (hok : FrOk f) (hp : Strs w vp f.params) (hb : Stmts w vb f.body) :
  Calls Tryz.prog 73 #[.agg #[.string f.name, vp, vb]] w fun e w' => ∃ a c, e = .returned (.tuple #[.slice a (f.params ++ declN f.body).length c, .int .i64 (places f.body)]) ∧ Below w.heap.size w w' :=
 (layout_row f vp vb w hok hp hb).mono (fun _ _ ⟨a, c, h1, h2, _⟩ => ⟨a, c, h1, h2⟩)
set_option maxRecDepth 100000 in
set_option maxHeartbeats 1000000 in
theorem frameG_any (f : Fu) (vp vb : Value) (w : World) (hok : FrOk f) (hp : Strs w vp f.params) (hb : Stmts w vb f.body) :
  Calls Tryz.prog 38 #[.agg #[.string f.name, vp, vb]] w fun e w' => e = .returned (.int .i64 (frameSz f)) ∧ Below w.heap.size w w' := by
 have hA : ∀ o, Below w.heap.size w (w.alloc o) := fun o => (Below.refl _ _).alloc (Nat.le_refl _) o
 have HL : Hid (∀ W, Below w.heap.size w W → Calls Tryz.prog 73 #[.agg #[.string f.name, vp, vb]] W fun e w' => ∃ a c, e = .returned (.tuple #[.slice a (f.params ++ declN f.body).length c, .int .i64 (places f.body)]) ∧ Below W.heap.size W w') := fun W hW => layout_any f vp vb W hok (hp.below hW) (hb.below hW)
 have hpb := places_bd f.body hok.st
 have hN : (f.params ++ declN f.body).length ≤ 2000 := by
  have := declN_len f.body
  have := hok.pl
  have := hok.bl
  simp only [List.length_append]
  omega
 obtain ⟨F, hF⟩ : ∃ F, F = frameSz f := ⟨_, rfl⟩
 rw [← hF]
 unfold frameSz at hF
 obtain ⟨ap, cp, rfl, -⟩ := hp
 obtain ⟨ab, cb, rfl, -⟩ := hb
 generalize (f.params ++ declN f.body).length = N at HL hN hF
 generalize places f.body = P at HL hpb hF
 have HFz : Hid (F = (4 * (N : Int) + 4 * (P + 1) + 15) / 16 * 16) := hF
 clear hF hok
 have k1 : IntKind.i64.wrap ((N : Int) + P) = (N : Int) + P := by simp [IntKind.wrap, IntKind.bits, IntKind.signed]; omega
 have k2 : IntKind.i64.wrap ((N : Int) + P + 1) = (N : Int) + P + 1 := by simp [IntKind.wrap, IntKind.bits, IntKind.signed]; omega
 have k3 : IntKind.i64.wrap (4 * ((N : Int) + P + 1)) = 4 * ((N : Int) + P + 1) := by simp [IntKind.wrap, IntKind.bits, IntKind.signed]; omega
 have k4 : IntKind.i64.wrap (4 * ((N : Int) + P + 1) + 15) = 4 * ((N : Int) + P + 1) + 15 := by simp [IntKind.wrap, IntKind.bits, IntKind.signed]; omega
 go_enter Tryz.func38, Tryz.ntmps38
 go_wp2_with fail
 refine (HL.out _ (hA _)).mono ?_
 rintro e w1 ⟨a, c, rfl, hb1⟩
 have hB1 := (hA _).trans (hb1.mono (hA _).size)
 clear hb1 HL hA
 go_wp2_with fail
 refine bodyPost_ret (v := .int .i64 F) ?_ rfl ⟨rfl, hB1⟩
 rw [HFz.out, show 4 * (N : Int) + 4 * (P + 1) + 15 = 4 * ((N : Int) + P + 1) + 15 by omega]
 simp [results, Tryz.results38, go_sem]
end
end Go.Proofs.YtjhmgjimppflhaaGreatDoor
