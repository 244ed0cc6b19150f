import Derived.Test.YtlamjfhhefcohaaGreatDoorM24
import Derived.Test.YtlamjfhhefcohaaGreatDoorM31
import Derived.Test.YtlamjfhhefcohaaGreatDoorM32
namespace Go.Proofs.YtlamjfhhefcohaaGreatDoor
set_option linter.unusedVariables false
set_option linter.unusedSimpArgs false
set_option maxRecDepth 100000
set_option maxHeartbeats 16000000
section
open Go.RowKit
theorem tcut_h (b o n cap hi : Nat) (h2 : hi ≤ n) (h3 : n ≤ cap) (w : World) : (Instr.slice 22 (.slice (some ⟨b, o, none⟩) n cap) none (some (.int .i64 (hi : Int))) none).run Tryz.prog w = .ok (.slice (some ⟨b, o, none⟩) hi cap) w := by
 have hz : Tryz.prog.elem 22 = 5 := by kernel_rfl
 have hs : (sizeOf 5).run Tryz.prog w = .ok 1 w := by kernel_rfl
 rw [run_slice_h w 22 _ n cap (by rw [hz]; exact Tryz.underlying22) .i64 _ (by omega) (by omega), hz, hs]
 simp only [Result.andThen, sliced, Int.toNat_natCast]
 simp [Addr.add]
theorem bconv {W : World} {b o : Nat} {r : List UInt8} (h : Byts W b o r) (c d : Nat) (hd : d ≤ r.length) : (convert 22 9 (.slice (some ⟨b, o, none⟩) d c)).run Tryz.prog W = .ok (.string (tx (r.take d))) W := by
 have hl : (r.take d).length = d := by rw [List.length_take]; omega
 have := run_convert_bytes_back (P := Tryz.prog) W 22 9 5 ⟨b, o, none⟩ c (r.take d) Tryz.underlying22 Tryz.underlying5 Tryz.underlying9 (fun j hj => by
  rw [List.getElem_take, addrA]
  exact h j (by omega))
 rw [hl] at this
 exact this
def symP : List UInt8 := [40, 41, 123, 125, 91, 93, 59, 44, 61, 124, 94, 38, 60, 62, 43, 45, 42, 47, 37, 33, 126]
theorem symP_mem (c : UInt8) : c ∈ symP ↔ c ∈ sym1 := by
 constructor
 ·intro h
  have : ∀ x ∈ symP, x ∈ sym1 := by decide
  exact this c h
 ·intro h
  have : ∀ x ∈ sym1, x ∈ symP := by decide
  exact this c h
theorem sym_one {r : List UInt8} {c : UInt8} {q : List UInt8} (hr : r = c :: q) (h2 : r.take 2 ∉ sym2) : (c ∈ sym1 → symL r = [c]) ∧ (c ∉ sym1 → symL r = []) := by
 have e1 : r.take 1 = [c] := by rw [hr]; rfl
 have hm : (r.take 1 ∈ sym1.map (fun c => [c])) ↔ c ∈ sym1 := by
  rw [e1]
  simp
 unfold symL
 rw [if_neg h2]
 exact ⟨fun h => by rw [if_pos (hm.2 h), e1], fun h => by rw [if_neg (fun h' => h (hm.1 h'))]⟩
theorem tx_toL (x : List UInt8) : (tx x).toList = x := by unfold tx; rw [ByteArray.toList_eq]
theorem u8_back (c : UInt8) : (cI c).toNat.toUInt8 = c := by
 unfold cI
 simp
theorem sym2_len {r : List UInt8} (h : r.take 2 ∈ sym2) : 2 ≤ r.length := by
 have l2 : ∀ x ∈ sym2, x.length = 2 := by decide
 have := l2 _ h
 rw [List.length_take] at this
 omega
set_option maxRecDepth 100000 in
set_option maxHeartbeats 2000000 in
theorem symspan_any (b o cap : Nat) (r : List UInt8) (w : World) (h0 : 0 < r.length) (hl : r.length ≤ 1000000) (hcp : r.length ≤ cap) (hc : Byts w b o r) :
  Calls Tryz.prog 125 #[.slice (some ⟨b, o, none⟩) r.length cap] w fun e w' => e = .returned (.int .i64 ((symL r).length : Int)) ∧ w' = w := by
 by_cases h2 : r.take 2 ∈ sym2
 ·have hr2 := sym2_len h2
  have hcut := tcut_h b o r.length cap 2 hr2 hcp
  have hcv := bconv hc cap 2 hr2
  have HS : Hid ((symL r).length = 2) := by
   show _ = _
   unfold symL
   rw [if_pos h2, List.length_take]
   omega
  generalize symL r = sy at *
  have hgt : (1 : Int) < (r.length : Int) := by omega
  simp only [sym2, List.mem_cons, List.not_mem_nil, or_false] at h2
  rcases h2 with e | e | e | e | e | e | e | e
  all_goals
   rw [e] at hcv
   unfold tx at hcv
   clear hc e
   go_enter Tryz.func125, Tryz.ntmps125
   go_wp2_with fail
   go_ret
   exact ⟨by rw [HS.out]; rfl, rfl⟩
 ·obtain ⟨c, q, hr⟩ : ∃ c q, r = c :: q := by
   cases r with
   | nil => exact absurd h0 (by simp)
   | cons c q => exact ⟨c, q, rfl⟩
  obtain ⟨s1, s2⟩ := sym_one hr h2
  have hc0 : w.cell? ⟨b, o, none⟩ = some (.int .u8 (cI c)) := by
   have := hc 0 h0
   rw [Nat.add_zero] at this
   rw [this]
   subst hr
   rfl
  have HIx := hide (fun W => Tryz.strings_IndexByte ⟨#[40, 41, 123, 125, 91, 93, 59, 44, 61, 124, 94, 38, 60, 62, 43, 45, 42, 47, 37, 33, 126]⟩ (cI c) W)
  have hix : 0 ≤ Lib.indexByte symP c ↔ c ∈ sym1 := (ix_mem symP c).trans (symP_mem c)
  have hu := u8_back c
  have HIx2 : Hid (∀ W, Calls Tryz.prog 156 #[.string ⟨#[40, 41, 123, 125, 91, 93, 59, 44, 61, 124, 94, 38, 60, 62, 43, 45, 42, 47, 37, 33, 126]⟩, .int .u8 (cI c)] W fun e w' => e = .returned (.int .i64 (Lib.indexByte symP c)) ∧ w' = W) := fun W => by
   have h := HIx.out W
   rw [hu] at h
   exact h
  have hge : -1 ≤ Lib.indexByte symP c := Lib.indexByte_ge _ _
  have HN : Hid (((symL r).length : Int) = if 0 ≤ Lib.indexByte symP c then 1 else 0) := by
   show _ = _
   by_cases hm : c ∈ sym1
   ·rw [if_pos (hix.2 hm), s1 hm]; rfl
   ·rw [if_neg (fun h => hm (hix.1 h)), s2 hm]; rfl
  generalize Lib.indexByte symP c = ix at *
  generalize symL r = sy at *
  clear HIx s1 s2 hu hix hr
  have hq : ∀ x ∈ sym2, ((tx (r.take 2)).toList == x) = false := fun x hx => by
   rw [← tx_toL x, str_eq, decide_eq_false]
   intro e
   exact h2 (by rw [tx_inj e]; exact hx)
  by_cases hgt : 1 < r.length
  ·have hcut := tcut_h b o r.length cap 2 hgt hcp
   have hcv := bconv hc cap 2 hgt
   have hgt' : (1 : Int) < (r.length : Int) := by omega
   have q1 := hq [124, 124] (by decide)
   have q2 := hq [38, 38] (by decide)
   have q3 := hq [61, 61] (by decide)
   have q4 := hq [33, 61] (by decide)
   have q5 := hq [60, 61] (by decide)
   have q6 := hq [62, 61] (by decide)
   have q7 := hq [60, 60] (by decide)
   have q8 := hq [62, 62] (by decide)
   generalize tx (r.take 2) = yy at *
   generalize cI c = cc at *
   clear hq hc h2
   by_cases hm : 0 ≤ ix
   ·rw [if_pos hm] at HN
    go_enter Tryz.func125, Tryz.ntmps125
    go_wp2_with (go_at_call 156; refine (HIx2.out _).mono ?_; rintro e w' ⟨rfl, rfl⟩)
    go_ret
    exact ⟨by rw [HN.out]; rfl, rfl⟩
   ·rw [if_neg hm] at HN
    go_enter Tryz.func125, Tryz.ntmps125
    go_wp2_with (go_at_call 156; refine (HIx2.out _).mono ?_; rintro e w' ⟨rfl, rfl⟩)
    go_ret
    exact ⟨by rw [HN.out]; rfl, rfl⟩
  ·have hgt' : ¬ (1 : Int) < (r.length : Int) := by omega
   have hpos : (0 : Int) < (r.length : Int) := by omega
   generalize cI c = cc at *
   clear hq hc h2
   by_cases hm : 0 ≤ ix
   ·rw [if_pos hm] at HN
    go_enter Tryz.func125, Tryz.ntmps125
    go_wp2_with (go_at_call 156; refine (HIx2.out _).mono ?_; rintro e w' ⟨rfl, rfl⟩)
    go_ret
    exact ⟨by rw [HN.out]; rfl, rfl⟩
   ·rw [if_neg hm] at HN
    go_enter Tryz.func125, Tryz.ntmps125
    go_wp2_with (go_at_call 156; refine (HIx2.out _).mono ?_; rintro e w' ⟨rfl, rfl⟩)
    go_ret
    exact ⟨by rw [HN.out]; rfl, rfl⟩
end
section
open Go.RowKit
def RdT (C : RC) (w : World) (pos pl : Int) (m : TV) (op : Int) (ok : Prop) (kd : Int) (tt : ByteArray) (vl : Int) (e : Ending) (w' : World) : Prop :=
 (ok ∧ e = .returned (.tuple #[]) ∧ RBx C w' pos kd tt vl pl m op ∧ Tcs (fun k => k = C.P) w w') ∨ (¬ ok ∧ e = flt (2, pl) ∧ Below w.heap.size w w')
set_option maxRecDepth 100000 in
set_option maxHeartbeats 2000000 in
theorem word_i {C : RC} {w : World} {pos pl : Int} {m : TV} {op : Int} (hC : COk C) (h : RBx C w pos 0 ⟨#[]⟩ 0 pl m op) (x : List UInt8) (hx : x.length ≤ 1000000) (ok : Prop) (hok : ok ↔ x.length ≤ 20) (kd : Int) (hkd : kd = if resB (tx x) = true then 3 else 1) :
  Calls Tryz.prog 87 #[.pointer (some ⟨C.P, 0, none⟩), .string (tx x)] w (RdT C w pos pl m op ok kd (tx x) 0) := by
 have HOk := hide hok
 clear hok
 have hsz : (tx x).size = x.length := tx_size x
 have HFa := hide (failR_any h 2)
 by_cases h20 : x.length ≤ 20
 ·have c2 := (h.box 2 _ rfl).1
  have f2 := (h.box 2 _ rfl).2
  have c3 := (h.box 3 _ rfl).1
  have f3 := (h.box 3 _ rfl).2
  obtain ⟨h1, t1⟩ := h.put hC (kd' := 1) 2 (.int .i64 1) rfl
  obtain ⟨h2, t2⟩ := h1.put hC (tt' := tx x) 3 (.string (tx x)) rfl
  obtain ⟨W2, hW2⟩ : ∃ W2, W2 = (w.setCell ⟨C.P, 2, none⟩ (.int .i64 1)).setCell ⟨C.P, 3, none⟩ (.string (tx x)) := ⟨_, rfl⟩
  rw [← hW2] at h2 t2
  obtain ⟨h3, t3⟩ := h2.put hC (kd' := 3) 2 (.int .i64 3) rfl
  have d2 := (h2.box 2 _ rfl).1
  have e2 := (h2.box 2 _ rfl).2
  have HW2 := hide hW2
  have hle : ¬ (20 : Int) < (x.length : Int) := by omega
  cases hr : resB (tx x) with
  | true =>
   have HF : Hid (RdT C w pos pl m op ok kd (tx x) 0 (.returned (.tuple #[])) (W2.setCell ⟨C.P, 2, none⟩ (.int .i64 3))) := .inl ⟨HOk.out.2 h20, rfl, by rw [hkd, hr, if_pos rfl]; exact h3, (t1.trans t2).trans t3⟩
   clear h h1 h2 h3 t1 t2 t3 hW2 hkd HOk
   generalize tx x = xx at *
   go_enter Tryz.func87, Tryz.ntmps87
   go_upto_region 3 with fail
   rw [← HW2.out]
   go_wp2_with (go_at_call 110; refine (resI_any _ _).mono ?_; rintro e w' ⟨rfl, rfl⟩; rw [hr])
   exact bodyPost_end (v := .tuple #[]) (by simp [results, Tryz.results87, go_sem]) rfl HF.out
  | false =>
   have HF : Hid (RdT C w pos pl m op ok kd (tx x) 0 (.returned (.tuple #[])) W2) := .inl ⟨HOk.out.2 h20, rfl, by rw [hkd, hr, if_neg (by simp)]; exact h2, t1.trans t2⟩
   clear h h1 h2 h3 t1 t2 t3 hW2 hkd HOk
   generalize tx x = xx at *
   go_enter Tryz.func87, Tryz.ntmps87
   go_upto_region 3 with fail
   rw [← HW2.out]
   go_wp2_with (go_at_call 110; refine (resI_any _ _).mono ?_; rintro e w' ⟨rfl, rfl⟩; rw [hr])
   exact bodyPost_end (v := .tuple #[]) (by simp [results, Tryz.results87, go_sem]) rfl HF.out
 ·have hgt : (20 : Int) < (x.length : Int) := by omega
  have HF : Hid (∀ kd tt vl, RdT C w pos pl m op ok kd tt vl (flt (2, pl)) w) := fun _ _ _ => .inr ⟨fun e => h20 (HOk.out.1 e), rfl, Below.refl _ _⟩
  clear h hkd HOk
  generalize tx x = xx at *
  go_enter Tryz.func87, Tryz.ntmps87
  go_wp2_with fail
  refine HFa.out.mono ?_
  rintro e w9 ⟨rfl, hw⟩
  rw [hw]
  clear hw
  unfold flt at *
  go_wp2_with fail
  exact ⟨rfl, HF.out _ _ _⟩
set_option maxRecDepth 100000 in
set_option maxHeartbeats 2000000 in
theorem symb_i {C : RC} {w : World} {pos pl : Int} {m : TV} {op : Int} (hC : COk C) (h : RBx C w pos 0 ⟨#[]⟩ 0 pl m op) (b o cap : Nat) (r : List UInt8) (h0 : 0 < r.length) (hl : r.length ≤ 1000000) (hcp : r.length ≤ cap) (hc : Byts w b o r) (ok : Prop) (hok : ok ↔ symL r ≠ []) :
  Calls Tryz.prog 91 #[.pointer (some ⟨C.P, 0, none⟩), .slice (some ⟨b, o, none⟩) r.length cap] w (RdT C w pos pl m op ok 3 (tx (symL r)) 0) := by
 have HOk := hide hok
 clear hok
 have HS := hide (symspan_any b o cap r w h0 hl hcp hc)
 have HFa := hide (failR_any h 2)
 have hsl := (symL_len r).1
 have htk : r.take (symL r).length = symL r := by
  unfold symL
  split
  ·rw [List.length_take]
   by_cases h2 : 2 ≤ r.length
   ·rw [Nat.min_eq_left h2]
   ·rw [Nat.min_eq_right (by omega), List.take_of_length_le (Nat.le_refl _), List.take_of_length_le (by omega)]
  ·split
   ·rw [List.length_take]
    by_cases h2 : 1 ≤ r.length
    ·rw [Nat.min_eq_left h2]
    ·rw [Nat.min_eq_right (by omega), List.take_of_length_le (Nat.le_refl _), List.take_of_length_le (by omega)]
   ·rfl
 have hcut := tcut_h b o r.length cap (symL r).length hsl hcp
 have hcv := bconv hc cap (symL r).length hsl
 rw [htk] at hcv
 by_cases hs : symL r = []
 ·have HF : Hid (∀ kd tt vl, RdT C w pos pl m op ok kd tt vl (flt (2, pl)) w) := fun _ _ _ => .inr ⟨fun e => HOk.out.1 e hs, rfl, Below.refl _ _⟩
  have hz : (symL r).length = 0 := by rw [hs]; rfl
  rw [hz] at HS
  clear h hc hcut hcv htk hsl hs hz HOk
  generalize symL r = sy at *
  go_enter Tryz.func91, Tryz.ntmps91
  go_wp2_with fail
  refine HS.out.mono ?_
  rintro e w9 ⟨rfl, hw⟩
  rw [hw]
  clear hw
  go_wp2_with fail
  refine HFa.out.mono ?_
  rintro e w9 ⟨rfl, hw⟩
  rw [hw]
  clear hw
  unfold flt at *
  go_wp2_with fail
  exact ⟨rfl, HF.out _ _ _⟩
 ·have c2 := (h.box 2 _ rfl).1
  have f2 := (h.box 2 _ rfl).2
  have c3 := (h.box 3 _ rfl).1
  have f3 := (h.box 3 _ rfl).2
  obtain ⟨h1, t1⟩ := h.put hC (kd' := 3) 2 (.int .i64 3) rfl
  obtain ⟨h2, t2⟩ := h1.put hC (tt' := tx (symL r)) 3 (.string (tx (symL r))) rfl
  have HF : Hid (RdT C w pos pl m op ok 3 (tx (symL r)) 0 (.returned (.tuple #[])) ((w.setCell ⟨C.P, 2, none⟩ (.int .i64 3)).setCell ⟨C.P, 3, none⟩ (.string (tx (symL r))))) := .inl ⟨HOk.out.2 hs, rfl, h2, t1.trans t2⟩
  have hne : (((symL r).length : Int) == 0) = false := by
   have : (symL r).length ≠ 0 := fun e => hs (List.eq_nil_of_length_eq_zero e)
   simp only [beq_eq_false_iff_ne]
   omega
  clear h h1 h2 t1 t2 hc hsl hs htk HOk
  generalize tx (symL r) = ts at *
  generalize hln : (symL r).length = ln at *
  clear hln
  go_enter Tryz.func91, Tryz.ntmps91
  go_wp2_with fail
  refine HS.out.mono ?_
  rintro e w9 ⟨rfl, hw⟩
  rw [hw]
  clear hw
  go_wp2_with fail
  exact bodyPost_end (v := .tuple #[]) (by simp [results, Tryz.results91, go_sem]) rfl HF.out
end
section
open Go.RowKit
theorem str_ix0 (c : UInt8) (q : List UInt8) (W : World) : (Instr.index 9 (.string (tx (c :: q))) (.int .i64 0)).run Tryz.prog W = .ok (.int .u8 (cI c)) W := by
 have h : 0 < (tx (c :: q)).size := by rw [tx_size]; simp
 simp [go_sem, h]
 unfold cI tx
 rfl
def badN (r : List UInt8) (c : UInt8) (d : Nat) : Prop := (c = 48 ∧ 1 < d) ∨ 2147483647 < numL (r.take d) ∨ ((r.drop d).head?.map fstU).getD false = true
theorem c48 (c : UInt8) : (cI c == 48) = decide (c = 48) := by
 unfold cI
 apply Bool.eq_iff_iff.2
 simp only [beq_iff_eq, decide_eq_true_eq]
 constructor
 ·intro h; apply UInt8.toNat_inj.1; show c.toNat = 48; omega
 ·rintro rfl; rfl
set_option maxRecDepth 100000 in
set_option maxHeartbeats 4000000 in
theorem numb_i {C : RC} {w : World} {pos pl : Int} {m : TV} {op : Int} (hC : COk C) (h : RBx C w pos 0 ⟨#[]⟩ 0 pl m op) (b o cap : Nat) (hb : b < w.heap.size) (c : UInt8) (q : List UInt8) (hl : (c :: q).length ≤ 1000000) (hcp : (c :: q).length ≤ cap) (hc : Byts w b o (c :: q)) (hdg : digU c = true) (ok : Prop) (hok : ok ↔ ¬ badN (c :: q) c ((c :: q).takeWhile digU).length) :
  Calls Tryz.prog 90 #[.pointer (some ⟨C.P, 0, none⟩), .slice (some ⟨b, o, none⟩) (c :: q).length cap] w (RdT C w pos pl m op ok 2 (tx ((c :: q).takeWhile digU)) (numL ((c :: q).takeWhile digU) : Int)) := by
 have HSp := hide (spanD_any b o cap (c :: q) w hl hc)
 have hd1 : 1 ≤ ((c :: q).takeWhile digU).length := tw_pos digU c q hdg
 have hd2 : ((c :: q).takeWhile digU).length ≤ (c :: q).length := tw_len digU _
 have htk : (c :: q).take ((c :: q).takeWhile digU).length = (c :: q).takeWhile digU := by
  rw [tw_is digU (c :: q) ((c :: q).takeWhile digU).length hd2 (fun k hk hkd => tw_in digU _ k hkd hk) (fun hk => tw_at digU _ hk), List.length_take, Nat.min_eq_left hd2]
 have hall : ∀ x ∈ (c :: q).takeWhile digU, digU x = true := fun x hx => by
  have := List.all_takeWhile (p := digU) (l := c :: q)
  rw [List.all_eq_true] at this
  exact this x hx
 have hcut := tcut_h b o (c :: q).length cap _ hd2 hcp
 have hcv := bconv hc cap _ hd2
 rw [htk] at hcv
 obtain ⟨q', hq'⟩ : ∃ q', (c :: q).takeWhile digU = c :: q' := by
  rw [List.takeWhile_cons, if_pos hdg]
  exact ⟨_, rfl⟩
 have hix := fun W => str_ix0 c q' W
 rw [← hq'] at hix
 obtain ⟨p1, p2⟩ := pint (l := (c :: q).takeWhile digU) (by rw [hq']; simp) hall
 have hts : (tx ((c :: q).takeWhile digU)).data.toList = (c :: q).takeWhile digU := by unfold tx; simp
 have HOk := hide hok
 unfold badN at HOk
 rw [htk] at HOk
 have hsz : (tx ((c :: q).takeWhile digU)).size ≤ 1000000 := by rw [tx_size]; omega
 obtain ⟨ev, hev1, hev2⟩ := h.er
 have HPi : Hid (∀ W, Below w.heap.size w W → numL ((c :: q).takeWhile digU) ≤ 2147483647 → Calls Tryz.prog 124 #[.string (tx ((c :: q).takeWhile digU)), .int .i64 10, .int .i64 32] W fun e w' => e = .returned (.tuple #[.int .i64 (numL ((c :: q).takeWhile digU) : Int), .nilIface]) ∧ Below W.heap.size W w') := fun W hW hn => by
  refine (Tryz.strconv_ParseInt_10_at32_ok _ (by omega) _ (by rw [hts]; exact p1 hn) W).mono ?_
  rintro e w' ⟨rfl, rfl | ⟨t, rfl⟩⟩
  ·exact ⟨rfl, Below.refl _ _⟩
  ·exact ⟨rfl, bytesWorld_below W 5 t⟩
 have hew := World.block_lt_of_cell? _ _ hev1
 have HPr : Hid (∀ W, Below w.heap.size w W → ¬ numL ((c :: q).takeWhile digU) ≤ 2147483647 → Calls Tryz.prog 124 #[.string (tx ((c :: q).takeWhile digU)), .int .i64 10, .int .i64 32] W fun e w' => ∃ x y z, e = .returned (.tuple #[.int .i64 x, .iface y z]) ∧ Below W.heap.size W w') := fun W hW hn => by
  refine (Tryz.strconv_ParseInt_10_at32_range _ (by omega) (by rw [hts]; exact p2 hn) ev W ((hW.cell (p := ⟨4, 0, none⟩) hew).trans hev1) hev2).mono ?_
  rintro e w' ⟨N, rfl, -, -, hB⟩
  exact ⟨_, _, _, rfl, hB⟩
 have HR := hide h
 have HC := hide hc
 have e48 := c48 c
 have hdrop : ((c :: q).takeWhile digU).length < (c :: q).length → ((c :: q).drop ((c :: q).takeWhile digU).length).head? = (c :: q)[((c :: q).takeWhile digU).length]? := fun _ => by rw [List.head?_drop]
 have hnone : ¬ ((c :: q).takeWhile digU).length < (c :: q).length → ((c :: q).drop ((c :: q).takeWhile digU).length).head? = none := fun hh => by rw [List.head?_drop, List.getElem?_eq_none (by omega)]
 have HDr := hide hdrop
 have HNo := hide hnone
 clear h hc p1 p2 htk hall hts hok hdg hq' hdrop hnone hev1 hev2 hew
 generalize hds : (c :: q).takeWhile digU = ds at *
 clear hds
 have HNn := hide (fun (h : (numL ds : Nat) ≤ 2147483647) => (by omega : ((numL ds : Nat) : Int) ≤ 2147483647))
 generalize htt : tx ds = ts at *
 clear htt
 generalize hnn : ((numL ds : Nat) : Int) = nv at *
 generalize hrr : c :: q = r at *
 generalize hcc : cI c = cc at *
 have HCc := hide hcc
 have HNv := hide hnn
 clear hrr hcc hnn
 generalize hdl : ds.length = d at *
 clear hdl
 by_cases hn : numL ds ≤ 2147483647
 ·go_enter Tryz.func90, Tryz.ntmps90
  go_wp2_with fail
  refine HSp.out.mono ?_
  rintro e w9 ⟨rfl, hw⟩
  rw [hw]
  clear hw
  have HP := hide (HPi.out w (Below.refl _ _) hn)
  have HNk := hide hn
  clear hn HPi HPr
  go_wp2_with fail
  refine HP.out.mono ?_
  rintro e w2 ⟨rfl, hB2⟩
  have hR2 := HR.out.below hC hB2
  have hT2 : Byts w2 b o r := fun j hj => (hB2.cell (p := ⟨b, o + j, none⟩) hb).trans (HC.out j hj)
  by_cases h48 : c = 48 ∧ 1 < d
  ·have g1 : (cc == 48) = true := by rw [e48]; simp [h48.1]
   have g2 : (1 : Int) < (d : Int) := by have := h48.2; omega
   clear e48
   have HF : Hid (RdT C w pos pl m op ok 2 ts nv (flt (2, pl)) w2) := .inr ⟨fun e => HOk.out.1 e (.inl h48), rfl, hB2⟩
   have HFa := hide (failR_any hR2 2)
   clear hR2 hT2 HOk hB2
   go_wp2_with fail
   refine HFa.out.mono ?_
   rintro e w9 ⟨rfl, hw⟩
   rw [hw]
   clear hw
   unfold flt at *
   go_wp2_with fail
   exact ⟨rfl, HF.out⟩
  ·by_cases hlt : d < r.length
   ·have hcd := hT2 d hlt
    have g3 : (d : Int) < (r.length : Int) := by omega
    have hdr := HDr.out hlt
    rw [List.getElem?_eq_getElem hlt] at hdr
    cases hsm : smallB (cI r[d]) with
    | true =>
     have hbad : ((r.drop d).head?.map fstU).getD false = true := by rw [hdr]; exact hsm
     generalize cI r[d] = cd at *
     by_cases h4 : c = 48
     ·have g1 : (cc == 48) = true := by rw [e48]; simp [h4]
      have g2 : ¬ (1 : Int) < (d : Int) := fun hh => h48 ⟨h4, by omega⟩
      clear e48
      have HF : Hid (RdT C w pos pl m op ok 2 ts nv (flt (2, pl)) w2) := .inr ⟨fun e => HOk.out.1 e (.inr (.inr hbad)), rfl, hB2⟩
      have HFa := hide (failR_any hR2 2)
      clear hR2 hT2 HOk hB2
      go_wp2_with (go_at_call 86; refine (small_any _ _).mono ?_; rintro e w' ⟨rfl, rfl⟩; rw [hsm])
      refine HFa.out.mono ?_
      rintro e w9 ⟨rfl, hw⟩
      rw [hw]
      clear hw
      unfold flt at *
      go_wp2_with fail
      exact ⟨rfl, HF.out⟩
     ·have g1 : (cc == 48) = false := by rw [e48]; simp [h4]
      clear e48
      have HF : Hid (RdT C w pos pl m op ok 2 ts nv (flt (2, pl)) w2) := .inr ⟨fun e => HOk.out.1 e (.inr (.inr hbad)), rfl, hB2⟩
      have HFa := hide (failR_any hR2 2)
      clear hR2 hT2 HOk hB2
      go_wp2_with (go_at_call 86; refine (small_any _ _).mono ?_; rintro e w' ⟨rfl, rfl⟩; rw [hsm])
      refine HFa.out.mono ?_
      rintro e w9 ⟨rfl, hw⟩
      rw [hw]
      clear hw
      unfold flt at *
      go_wp2_with fail
      exact ⟨rfl, HF.out⟩
    | false =>
     have hgood : ¬ ((c = 48 ∧ 1 < d) ∨ 2147483647 < numL ds ∨ ((r.drop d).head?.map fstU).getD false = true) := by
      rintro (hh | hh | hh)
      ·exact h48 hh
      ·have := HNk.out; omega
      ·rw [hdr] at hh
       have : fstU r[d] = true := hh
       unfold fstU at this
       rw [hsm] at this
       cases this
     generalize cI r[d] = cd at *
     by_cases h4 : c = 48
     ·have g1 : (cc == 48) = true := by rw [e48]; simp [h4]
      have g2 : ¬ (1 : Int) < (d : Int) := fun hh => h48 ⟨h4, by omega⟩
      clear e48
      have c2 := (hR2.box 2 _ rfl).1
      have f2 := (hR2.box 2 _ rfl).2
      have c3 := (hR2.box 3 _ rfl).1
      have f3 := (hR2.box 3 _ rfl).2
      have c4 := (hR2.box 4 _ rfl).1
      have f4 := (hR2.box 4 _ rfl).2
      obtain ⟨h1, t1⟩ := hR2.put hC (kd' := 2) 2 (.int .i64 2) rfl
      obtain ⟨h2, t2⟩ := h1.put hC (tt' := ts) 3 (.string ts) rfl
      obtain ⟨h3, t3⟩ := h2.put hC (vl' := nv) 4 (.int .i64 nv) rfl
      have HF : Hid (RdT C w pos pl m op ok 2 ts nv (.returned (.tuple #[])) (((w2.setCell ⟨C.P, 2, none⟩ (.int .i64 2)).setCell ⟨C.P, 3, none⟩ (.string ts)).setCell ⟨C.P, 4, none⟩ (.int .i64 nv))) := .inl ⟨HOk.out.2 hgood, rfl, h3, ((hB2.tcs.trans t1).trans t2).trans t3⟩
      clear h1 h2 h3 t1 t2 t3 hR2 hT2 HOk hB2
      go_wp2_with (go_at_call 86; refine (small_any _ _).mono ?_; rintro e w' ⟨rfl, rfl⟩; rw [hsm])
      exact bodyPost_end (v := .tuple #[]) (by simp [results, Tryz.results90, go_sem]) rfl HF.out
     ·have g1 : (cc == 48) = false := by rw [e48]; simp [h4]
      clear e48
      have c2 := (hR2.box 2 _ rfl).1
      have f2 := (hR2.box 2 _ rfl).2
      have c3 := (hR2.box 3 _ rfl).1
      have f3 := (hR2.box 3 _ rfl).2
      have c4 := (hR2.box 4 _ rfl).1
      have f4 := (hR2.box 4 _ rfl).2
      obtain ⟨h1, t1⟩ := hR2.put hC (kd' := 2) 2 (.int .i64 2) rfl
      obtain ⟨h2, t2⟩ := h1.put hC (tt' := ts) 3 (.string ts) rfl
      obtain ⟨h3, t3⟩ := h2.put hC (vl' := nv) 4 (.int .i64 nv) rfl
      have HF : Hid (RdT C w pos pl m op ok 2 ts nv (.returned (.tuple #[])) (((w2.setCell ⟨C.P, 2, none⟩ (.int .i64 2)).setCell ⟨C.P, 3, none⟩ (.string ts)).setCell ⟨C.P, 4, none⟩ (.int .i64 nv))) := .inl ⟨HOk.out.2 hgood, rfl, h3, ((hB2.tcs.trans t1).trans t2).trans t3⟩
      clear h1 h2 h3 t1 t2 t3 hR2 hT2 HOk hB2
      go_wp2_with (go_at_call 86; refine (small_any _ _).mono ?_; rintro e w' ⟨rfl, rfl⟩; rw [hsm])
      exact bodyPost_end (v := .tuple #[]) (by simp [results, Tryz.results90, go_sem]) rfl HF.out
   ·have g3 : ¬ (d : Int) < (r.length : Int) := by omega
    have hdr := HNo.out hlt
    have hgood : ¬ ((c = 48 ∧ 1 < d) ∨ 2147483647 < numL ds ∨ ((r.drop d).head?.map fstU).getD false = true) := by
     rintro (hh | hh | hh)
     ·exact h48 hh
     ·have := HNk.out; omega
     ·rw [hdr] at hh
      simp at hh
    by_cases h4 : c = 48
    ·have g1 : (cc == 48) = true := by rw [e48]; simp [h4]
     have g2 : ¬ (1 : Int) < (d : Int) := fun hh => h48 ⟨h4, by omega⟩
     clear e48
     have c2 := (hR2.box 2 _ rfl).1
     have f2 := (hR2.box 2 _ rfl).2
     have c3 := (hR2.box 3 _ rfl).1
     have f3 := (hR2.box 3 _ rfl).2
     have c4 := (hR2.box 4 _ rfl).1
     have f4 := (hR2.box 4 _ rfl).2
     obtain ⟨h1, t1⟩ := hR2.put hC (kd' := 2) 2 (.int .i64 2) rfl
     obtain ⟨h2, t2⟩ := h1.put hC (tt' := ts) 3 (.string ts) rfl
     obtain ⟨h3, t3⟩ := h2.put hC (vl' := nv) 4 (.int .i64 nv) rfl
     have HF : Hid (RdT C w pos pl m op ok 2 ts nv (.returned (.tuple #[])) (((w2.setCell ⟨C.P, 2, none⟩ (.int .i64 2)).setCell ⟨C.P, 3, none⟩ (.string ts)).setCell ⟨C.P, 4, none⟩ (.int .i64 nv))) := .inl ⟨HOk.out.2 hgood, rfl, h3, ((hB2.tcs.trans t1).trans t2).trans t3⟩
     clear h1 h2 h3 t1 t2 t3 hR2 hT2 HOk hB2
     go_wp2_with fail
     exact bodyPost_end (v := .tuple #[]) (by simp [results, Tryz.results90, go_sem]) rfl HF.out
    ·have g1 : (cc == 48) = false := by rw [e48]; simp [h4]
     clear e48
     have c2 := (hR2.box 2 _ rfl).1
     have f2 := (hR2.box 2 _ rfl).2
     have c3 := (hR2.box 3 _ rfl).1
     have f3 := (hR2.box 3 _ rfl).2
     have c4 := (hR2.box 4 _ rfl).1
     have f4 := (hR2.box 4 _ rfl).2
     obtain ⟨h1, t1⟩ := hR2.put hC (kd' := 2) 2 (.int .i64 2) rfl
     obtain ⟨h2, t2⟩ := h1.put hC (tt' := ts) 3 (.string ts) rfl
     obtain ⟨h3, t3⟩ := h2.put hC (vl' := nv) 4 (.int .i64 nv) rfl
     have HF : Hid (RdT C w pos pl m op ok 2 ts nv (.returned (.tuple #[])) (((w2.setCell ⟨C.P, 2, none⟩ (.int .i64 2)).setCell ⟨C.P, 3, none⟩ (.string ts)).setCell ⟨C.P, 4, none⟩ (.int .i64 nv))) := .inl ⟨HOk.out.2 hgood, rfl, h3, ((hB2.tcs.trans t1).trans t2).trans t3⟩
     clear h1 h2 h3 t1 t2 t3 hR2 hT2 HOk hB2
     go_wp2_with fail
     exact bodyPost_end (v := .tuple #[]) (by simp [results, Tryz.results90, go_sem]) rfl HF.out
 ·go_enter Tryz.func90, Tryz.ntmps90
  go_wp2_with fail
  refine HSp.out.mono ?_
  rintro e w9 ⟨rfl, hw⟩
  rw [hw]
  clear hw
  have HP := hide (HPr.out w (Below.refl _ _) hn)
  have HNk := hide hn
  clear hn HPi HPr e48
  go_wp2_with fail
  refine HP.out.mono ?_
  rintro e w2 ⟨x1, y1, z1, rfl, hB2⟩
  have hR2 := HR.out.below hC hB2
  have hT2 := hB2
  have HF : Hid (RdT C w pos pl m op ok 2 ts nv (flt (2, pl)) w2) := .inr ⟨fun e => HOk.out.1 e (.inr (.inl (by have := HNk.out; omega))), rfl, hB2⟩
  have HFa := hide (failR_any hR2 2)
  clear hR2 hT2 HOk hB2
  go_wp2_with fail
  refine HFa.out.mono ?_
  rintro e w9 ⟨rfl, hw⟩
  rw [hw]
  clear hw
  unfold flt at *
  go_wp2_with fail
  exact ⟨rfl, HF.out⟩
end
end Go.Proofs.YtlamjfhhefcohaaGreatDoor
