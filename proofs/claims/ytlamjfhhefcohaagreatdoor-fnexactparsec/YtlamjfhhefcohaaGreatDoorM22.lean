import Derived.Test.YtlamjfhhefcohaaGreatDoorM04
import Derived.Test.YtlamjfhhefcohaaGreatDoorM05
import Derived.Test.YtlamjfhhefcohaaGreatDoorM21
import Derived.Laws.IdiomStrings
import Derived.Deep.QuietTactic
import Derived.BigQuiet
namespace Go.Proofs.YtlamjfhhefcohaaGreatDoor
set_option linter.unusedVariables false
set_option linter.unusedSimpArgs false
set_option maxRecDepth 100000
set_option maxHeartbeats 16000000
section
open Go.RowKit
theorem addrA (b o j : Nat) : (⟨b, o, none⟩ : Addr).add j = ⟨b, o + j, none⟩ := by simp [Addr.add]
def Txt (w : World) (b : Nat) (l : List UInt8) : Prop := ∀ j (hj : j < l.length), w.cell? ⟨b, j, none⟩ = some (.int .u8 (cI l[j]))
theorem Txt.below {w w' : World} {b : Nat} {l : List UInt8} (h : Txt w b l) {n : Nat} (hb : Below n w w') (hn : b < n) : Txt w' b l := fun j hj => (World.cell?_of_block (a := ⟨b, j, none⟩) (hb.block b hn)).trans (h j hj)
theorem Txt.tcs {S : Nat → Prop} {w w' : World} {b : Nat} {l : List UInt8} (h : Txt w b l) (ht : Tcs S w w') (hb : b < w.heap.size) (hn : ¬ S b) : Txt w' b l := fun j hj => (World.cell?_of_block (a := ⟨b, j, none⟩) (ht.block b hb hn)).trans (h j hj)
theorem tcut_run (b n cap lo hi : Nat) (h1 : lo ≤ hi) (h2 : hi ≤ n) (h3 : n ≤ cap) : ∀ w : World, (Instr.slice 22 (.slice (some ⟨b, 0, none⟩) n cap) (some (.int .i64 lo)) (some (.int .i64 hi)) none).run Tryz.prog w = .ok (.slice (some ⟨b, if cap = lo then 0 else lo, none⟩) (hi - lo) (cap - lo)) w := by
 intro w
 have hz : Tryz.prog.elem 22 = 5 := by kernel_rfl
 have hs : (sizeOf 5).run Tryz.prog w = .ok 1 w := by kernel_rfl
 rw [run_slice_lh w 22 _ n cap (by rw [hz]; exact Tryz.underlying22) .i64 .i64 _ _ (by omega) (by omega) (by omega), hz, hs]
 simp only [Result.andThen, sliced, Int.toNat_natCast]
 split <;> simp [Addr.add] <;> omega
theorem tcut_run_l (b n cap lo : Nat) (h2 : lo ≤ n) (h3 : n ≤ cap) : ∀ w : World, (Instr.slice 22 (.slice (some ⟨b, 0, none⟩) n cap) (some (.int .i64 lo)) none none).run Tryz.prog w = .ok (.slice (some ⟨b, if cap = lo then 0 else lo, none⟩) (n - lo) (cap - lo)) w := by
 intro w
 have hz : Tryz.prog.elem 22 = 5 := by kernel_rfl
 have hs : (sizeOf 5).run Tryz.prog w = .ok 1 w := by kernel_rfl
 rw [run_slice_l w 22 _ n cap (by rw [hz]; exact Tryz.underlying22) .i64 _ (by omega) (by omega), hz, hs]
 simp only [Result.andThen, sliced, Int.toNat_natCast]
 split <;> simp [Addr.add] <;> omega
theorem tconv {W : World} {b : Nat} {l : List UInt8} (h : Txt W b l) (o c lo d : Nat) (hd : lo + d ≤ l.length) (ho : 0 < d → o = lo) : (convert 22 9 (.slice (some ⟨b, o, none⟩) d c)).run Tryz.prog W = .ok (.string (tx ((l.drop lo).take d))) W := by
 have hl : ((l.drop lo).take d).length = d := by rw [List.length_take, List.length_drop]; omega
 have := run_convert_bytes_back (P := Tryz.prog) W 22 9 5 ⟨b, o, none⟩ c ((l.drop lo).take d) Tryz.underlying22 Tryz.underlying5 Tryz.underlying9 (fun j hj => by
  have hj' : j < d := by omega
  have e := h (lo + j) (by omega)
  rw [List.getElem_take, List.getElem_drop]
  rw [ho (by omega), addrA]
  exact e)
 rw [hl] at this
 exact this
def cellsT (t : To) : List Value := [.int .i64 t.kind, .string t.text, .int .i64 t.num, .int .i64 (t.pl : Int)]
def flatT (ts : List To) : List Value := ts.flatMap cellsT
theorem flatT_len (ts : List To) : (flatT ts).length = ts.length * 4 := by
 induction ts with
 | nil => rfl
 | cons a r ih =>
  have : (flatT (a :: r)).length = 4 + (flatT r).length := by simp [flatT, cellsT]; omega
  rw [this, ih, List.length_cons]
  omega
theorem flatT_append (a b : List To) : flatT (a ++ b) = flatT a ++ flatT b := by simp [flatT]
theorem flatT_get : ∀ (R : List To) (j i : Nat) (hj : j < R.length), i < 4 → (flatT R)[j * 4 + i]? = (cellsT R[j])[i]?
 | x :: l, 0, i, _, hi => by
  have : (cellsT x).length = 4 := rfl
  show (cellsT x ++ flatT l)[0 * 4 + i]? = _
  rw [List.getElem?_append_left (by omega)]
  simp
 | x :: l, j + 1, i, hj, hi => by
  have h7 : (cellsT x).length = 4 := rfl
  show (cellsT x ++ flatT l)[(j + 1) * 4 + i]? = _
  rw [List.getElem?_append_right (by omega)]
  have e : (j + 1) * 4 + i - (cellsT x).length = j * 4 + i := by omega
  rw [e, flatT_get l j i (by simpa using hj) hi]
  simp
theorem info_tok : (Tryz.prog.info? 55).map (fun i => (i.zero, i.size, i.bytes)) = some (some (.agg #[.int .i64 0, .string ⟨#[]⟩, .int .i64 0, .int .i64 0]), 4, 40) := by kernel_rfl
def TRow (B : Nat) (w : World) (v : Value) (ts : List To) : Prop := w.ownsRow B 55 4 v ts.length (flatT ts)
theorem TRow.below {B : Nat} {w w' : World} {v : Value} {ts : List To} (h : TRow B w v ts) (hb : Below w.heap.size w w') : TRow B w' v ts := ownB h hb
theorem trow_nil (w : World) (B : Nat) (hB : B ≤ w.heap.size) : TRow B (w.alloc (.cells #[] 55)) (.slice (some ⟨w.heap.size, 0, none⟩) 0 0) [] :=
 World.ownsRow_lit w #[] 0 hB (by decide) rfl
theorem trow_app {w W : World} {B b : Nat} {v : Value} {ts : List To} (t : To) (h : TRow B w v ts) (hB : B ≤ w.heap.size) (hn : ts.length ≤ 1000000) (hW : W = w.alloc (.cells #[.int .i64 t.kind, .string t.text, .int .i64 t.num, .int .i64 (t.pl : Int)] 55)) (hb : b = w.heap.size) :
  ∃ v' w', (Builtin.append_ #[50, 50] 50 #[v, .slice (some ⟨b, 0, none⟩) 1 1]).run Tryz.prog W = .ok v' w' ∧ TRow B w' v' (ts ++ [t]) ∧ Below B w w' := by
 obtain ⟨i0, hi, hz0, hz1, hz2⟩ := info_parts info_tok
 have hbw : Below w.heap.size w W := by rw [hW]; exact (Below.refl _ _).alloc (Nat.le_refl _) _
 have hx : FrC W b (cellsT t) := by rw [hW, hb]; exact box_fr w #[.int .i64 t.kind, .string t.text, .int .i64 t.num, .int .i64 (t.pl : Int)] _ (by show 4 ≤ 1000; omega)
 obtain ⟨v', w', r1, r2, r3, r4⟩ := run_appG (P := Tryz.prog) (w := W) B 50 50 55 i0 _ 4 40 Tryz.underlying50 hi hz0 hz1 hz2 rfl (by decide) v ts.length (flatT ts) (h.below hbw) (some ⟨b, 0, none⟩) 1 1 (cellsT t) (fun h => by cases h) rfl (fun ad had j u hj => by
  cases had
  rw [addrA, Nat.zero_add]
  exact (hx j u hj).1) (fun u hu => by
  simp only [cellsT, List.mem_cons, List.not_mem_nil, or_false] at hu
  rcases hu with rfl | rfl | rfl | rfl <;> rfl) (by omega) (by decide) (Nat.le_trans hB hbw.size)
 refine ⟨v', w', r1, ?_, ?_⟩
 ·show World.ownsRow _ _ _ _ _ _ _
  rw [List.length_append, flatT_append]
  simpa [flatT] using r2
 ·exact (hbw.mono hB).grown r3 (Nat.le_trans hB hbw.size) (fun k hk => (World.ownsRow.lt h k hk).1)
theorem TRow.tks {B : Nat} {w : World} {v : Value} {T : Nat → To} {K : Nat} (h : TRow B w v ((List.range (K + 1)).map T)) : ∃ b c, v = .slice (some ⟨b, 0, none⟩) (K + 1) c ∧ B ≤ b ∧ b < w.heap.size ∧ ∀ P, TkS w ⟨P, b, c, K, T⟩ := by
 have h0 := h
 have hl : ((List.range (K + 1)).map T).length = K + 1 := by simp
 unfold TRow at h0
 rw [hl] at h0
 rcases h0.2 with ⟨-, hz⟩ | ⟨g, cap, cur, rfl, h3, h4, h5⟩
 ·omega
 ·refine ⟨g, cap, rfl, h3, (Array.getElem?_eq_some_iff.1 h4).1, fun P => ⟨fun j hj => ?_⟩⟩
  have hj0 : j ≤ K := hj
  have hj' : j < ((List.range (K + 1)).map T).length := by omega
  have e : ((List.range (K + 1)).map T)[j] = T j := by simp
  have key : ∀ i, i < 4 → w.cell? ⟨g, j * 4 + i, none⟩ = (cellsT (T j))[i]? := fun i hi => by
   have hf := flatT_len ((List.range (K + 1)).map T)
   rw [World.ownsRow.cellAt h0 (j * 4 + i) (by omega), flatT_get _ j i hj' hi, e]
  exact ⟨key 0 (by omega), key 1 (by omega), key 2 (by omega), key 3 (by omega)⟩
end
section
open Go.RowKit
def symV : List Value := allS.map (fun x => .string (tx x))
set_option maxRecDepth 100000 in
set_option maxHeartbeats 1000000 in
theorem symbols_any (w : World) : Calls Tryz.prog 81 #[] w fun e w' => ∃ b, e = .returned (.slice (some ⟨b, 0, none⟩) 29 29) ∧ w.heap.size ≤ b ∧ FrC w' b symV ∧ Below w.heap.size w w' := by
 have hx := fun T => box_fr w symV.toArray T (by show 29 ≤ 1000; omega)
 have HX : Hid (∀ T, FrC (w.alloc (.cells symV.toArray T)) w.heap.size symV) := hx
 have HB : Hid (∀ o, Below w.heap.size w (w.alloc o)) := fun o => (Below.refl _ _).alloc (Nat.le_refl _) _
 clear hx
 go_enter Tryz.func81, Tryz.ntmps81
 go_wp2
 go_ret
 exact ⟨_, rfl, Nat.le_refl _, HX.out _, HB.out _⟩
theorem digG_any (c : Int) (w : World) : Calls Tryz.prog 47 #[.int .u8 c] w fun e w' => e = .returned (.bool (digitB c)) ∧ w' = w := by
 go_enter Tryz.func47, Tryz.ntmps47
 go_wp2
 all_goals go_ret
 all_goals (refine ⟨ret_bool ?_, rfl⟩; apply Bool.eq_iff_iff.2; simp [digitB] <;> omega)
theorem below_drewQ {B : Nat} {w w1 : World} (h : Below B w w1) (n : Nat) : Below B w (w1.drewN n) := ⟨h.1, h.2, h.3, h.4, h.5⟩
theorem frc_drewN {w : World} {b : Nat} {xs : List Value} (h : FrC w b xs) (n : Nat) : FrC (w.drewN n) b xs := h
theorem txt_drewN {w : World} {b : Nat} {l : List UInt8} (h : Txt w b l) (n : Nat) : Txt (w.drewN n) b l := h
theorem sym_wr {i n L : Nat} (hi : i < L) (hL : L ≤ 1000000) (hn : n ≤ 2) : wrap64 ((i : Int) + (n : Int)) = (i : Int) + (n : Int) ∧ IntKind.i64.wrap ((i : Int) + (n : Int)) = (i : Int) + (n : Int) := by
 constructor
 ·unfold wrap64; omega
 ·rw [IntKind.wrap_i64]; omega
theorem sym_y {i n L : Nat} (h : i + n ≤ L) : decide ((i : Int) + (n : Int) ≤ (L : Int)) = true := by simp; omega
theorem sym_n {i n L : Nat} (h : ¬ i + n ≤ L) : decide ((i : Int) + (n : Int) ≤ (L : Int)) = false := by simp; omega
theorem sym_if {i n L c : Nat} (h : 0 < n) (hle : i + n ≤ L) (hc : L ≤ c) : (if c = i then 0 else i) = i := if_neg (by omega)
theorem sym_len {i n : Nat} {l x : List UInt8} (hi : i < l.length) (hn : n = x.length) (hle : ¬ i + n ≤ l.length) (e : (l.drop i).take n = x) : False := by
 have := congrArg List.length e
 rw [List.length_take, List.length_drop, ← hn] at this
 omega
theorem sym_two {k : Nat} (hk : k < 29) (hka : k < allS.length) : (allS[k]).length ≤ 2 := by
 have h1 := allS_at k hka
 by_cases h8 : k < 8
 ·have := (allS_two k h8).1; rw [h1] at this; omega
 ·have := (allS_one k hk (by omega)).1; rw [h1] at this; omega
theorem sym_more {r : List UInt8} {k : Nat} (hka : k < allS.length) (hno : ∀ j (hj : j < allS.length), j < k → r.take (allS[j]).length ≠ allS[j]) (h : r.take (allS[k]).length ≠ allS[k]) : ∀ j (hj : j < allS.length), j < k + 1 → r.take (allS[j]).length ≠ allS[j] := fun j hj hjk => by
 by_cases e : j = k
 ·subst e; exact h
 ·exact hno j hj (by omega)
theorem sym_int {k : Nat} (h : k < 29) : (k : Int) < 29 := by omega
theorem sym_29 {k : Nat} (h : k ≤ 29) (h' : ¬ k < 29) : k = 29 := by omega
theorem sym_cut (b c : Nat) {i n L : Nat} (hle : i + n ≤ L) (hc : L ≤ c) (W : World) : (Instr.slice 22 (.slice (some ⟨b, 0, none⟩) L c) (some (.int .i64 (i : Int))) (some (.int .i64 ((i : Int) + (n : Int)))) none).run Tryz.prog W = .ok (.slice (some ⟨b, if c = i then 0 else i, none⟩) n (c - i)) W := by
 have h := tcut_run b L c i (i + n) (by omega) hle hc W
 rw [Int.natCast_add, Nat.add_sub_cancel_left] at h
 exact h
set_option maxRecDepth 100000 in
set_option maxHeartbeats 2000000 in
theorem symbol_any (w : World) (b c : Nat) (l : List UInt8) (i : Nat) (hT : Txt w b l) (hb : b < w.heap.size) (hi : i < l.length) (hl : l.length ≤ 1000000) (hc : l.length ≤ c) :
  Calls Tryz.prog 48 #[.slice (some ⟨b, 0, none⟩) l.length c, .int .i64 (i : Int)] w fun e w' => e = .returned (.string (tx (symL (l.drop i)))) ∧ Below w.heap.size w w' := by
 have HT := hide hT
 have HS := hide (symbols_any w)
 have HSy := hide (fun (k : Nat) (hk : k < allS.length) => sym_hit (r := l.drop i) hk)
 have HNo := hide (sym_no (r := l.drop i))
 generalize symL (l.drop i) = sy at *
 clear hT
 go_enter Tryz.func48, Tryz.ntmps48
 go_wp2_with fail
 refine HS.out.mono ?_
 rintro e w1 ⟨g, rfl, hg, hx, hb1⟩
 have HX := hide hx
 have HB1 := hide hb1
 have HT1 : Hid (Txt w1 b l) := HT.out.below hb1 hb
 clear hx hb1 HS HT
 go_wp2_with fail
 go_loopw [6] (fun u wr => ∃ k : Nat, k ≤ 29 ∧ u = .int .i64 k ∧ (∀ j (hj : j < allS.length), j < k → (l.drop i).take (allS[j]).length ≠ allS[j]) ∧ FrC wr g symV ∧ Txt wr b l ∧ Below w.heap.size w wr) (fun u _ => 29 - (RowKit.intOf u).toNat)
 case atStart => exact ⟨0, Nat.zero_le _, rfl, fun j hj hk => absurd hk (Nat.not_lt_zero _), HX.out, HT1.out, HB1.out⟩
 case round =>
  clear HX HT1 HB1
  obtain ⟨k, hk, rfl, hno, hX, hT, hB⟩ := hrel
  have HNn := hide hno
  have HX := hide hX
  have HT1 := hide hT
  have HB1 := hide hB
  clear hno hX hT hB
  by_cases hlt : k < 29
  ·have hka : k < allS.length := by rw [allS_len]; exact hlt
   have ck : wr.cell? ⟨g, k, none⟩ = some (.string (tx allS[k])) := (HX.out k _ (by simp [symV, List.getElem?_eq_getElem hka])).1
   have HY := hide (HSy.out k hka HNn.out)
   have HZ : Hid ((l.drop i).take (allS[k]).length ≠ allS[k] → ∀ j (hj : j < allS.length), j < k + 1 → (l.drop i).take (allS[j]).length ≠ allS[j]) := sym_more hka HNn.out
   have hn2 : (allS[k]).length ≤ 2 := sym_two hlt hka
   have hsz : (tx allS[k]).size = (allS[k]).length := tx_size _
   generalize allS[k] = x at *
   obtain ⟨n, hn⟩ : ∃ n : Nat, n = x.length := ⟨_, rfl⟩
   rw [← hn] at hsz hn2 HY HZ
   have HN := hide hn
   clear hn
   have hkc := sym_int hlt
   obtain ⟨hw1, hw2⟩ := sym_wr hi hl hn2
   by_cases hle : i + n ≤ l.length
   ·have hd : decide ((i : Int) + (n : Int) ≤ (l.length : Int)) = true := sym_y hle
    have hcut := fun W => sym_cut b c hle hc W
    have hconv : ∀ W, Txt W b l → (convert 22 9 (.slice (some ⟨b, if c = i then 0 else i, none⟩) n (c - i))).run Tryz.prog W = .ok (.string (tx ((l.drop i).take n))) W := fun W hW => tconv hW _ _ i n hle (fun h => sym_if h hle hc)
    have hc1 := fun m => hconv (wr.drewN m) HT1.out
    generalize (if c = i then 0 else i) = o at *
    generalize c - i = c' at *
    by_cases he : (l.drop i).take n = x
    ·have HF := hide (HY.out he)
     rw [he] at hc1
     have hq : ((tx x).toList == (tx x).toList) = true := by simp
     clear hconv HY HZ HSy HNo
     go_wp2_with fail
     go_quiet (fail)
     go_wp2_with fail
     go_ret
     exact ⟨by rw [HF.out]; rfl, below_drewQ HB1.out _⟩
    ·have HZ' := hide (HZ.out he)
     have hq : ((tx ((l.drop i).take n)).toList == (tx x).toList) = false := by rw [str_eq, decide_eq_false]; intro e; exact he (by unfold tx at e; simpa using e)
     generalize tx ((l.drop i).take n) = y at *
     clear hconv HY HZ HSy he
     go_wp2_with fail
     go_quiet (fail)
     go_wp2_with fail
     go_roundw
     case rel => exact ⟨k + 1, hlt, by go_num, HZ'.out, frc_drewN HX.out _, txt_drewN HT1.out _, below_drewQ HB1.out _⟩
     case measure => simp [RowKit.intOf]; omega
   ·have hd : decide ((i : Int) + (n : Int) ≤ (l.length : Int)) = false := sym_n hle
    have HZ' := hide (HZ.out (fun e => sym_len hi HN.out hle e))
    clear HY HZ HSy
    go_wp2_with fail
    go_quiet (fail)
    go_wp2_with fail
    go_roundw
    case rel => exact ⟨k + 1, hlt, by go_num, HZ'.out, frc_drewN HX.out _, txt_drewN HT1.out _, below_drewQ HB1.out _⟩
    case measure => simp [RowKit.intOf]; omega
  ·obtain rfl := sym_29 hk hlt
   have HF : Hid (sy = []) := HNo.out (fun j hj => HNn.out j hj (by rw [allS_len] at hj; exact hj))
   clear HSy HNo HNn
   go_wp2_with fail
   go_ret
   exact ⟨by rw [HF.out]; rfl, HB1.out⟩
end
section
open Go.RowKit
structure LB (w0 : World) (b : Nat) (l : List UInt8) (v : Value) (ts : List To) (M5 M6 : Nat) (xs : List Value) (k : Nat) (W : World) : Prop where
 row : TRow w0.heap.size W v ts
 be : Below w0.heap.size w0 W
 tx : Txt W b l
 b5 : FrC W M5 [.int .i64 5, .string ⟨#[]⟩, .int .i64 0, .int .i64 (k : Int)]
 b6 : FrC W M6 xs
 l5 : M5 < W.heap.size
 l6 : M6 < W.heap.size
 m5 : w0.heap.size ≤ M5
 m6 : w0.heap.size ≤ M6
 ne : M5 ≠ M6
 nv : ∀ g, v.ownBlock = some g → g ≠ M5 ∧ g ≠ M6
 bw : b < w0.heap.size
section
variable {w0 W W' : World} {b : Nat} {l : List UInt8} {v : Value} {ts : List To} {M5 M6 : Nat} {xs : List Value} {k : Nat}
theorem LB.new {wr : World} (hr : TRow w0.heap.size wr v ts) (hb : Below w0.heap.size w0 wr) (ht : Txt wr b l) (hbw : b < w0.heap.size) (hW : W = wr.alloc (.cells #[.int .i64 5, .string ⟨#[]⟩, .int .i64 0, .int .i64 (k : Int)] 55)) (hM : M5 = wr.heap.size) (hW' : W' = W.alloc (.cells #[.int .i64 0, .string ⟨#[]⟩, .int .i64 0, .int .i64 (k : Int)] 55)) (hM' : M6 = W.heap.size) :
  LB w0 b l v ts M5 M6 [.int .i64 0, .string ⟨#[]⟩, .int .i64 0, .int .i64 (k : Int)] k W' := by
 have b1 : Below wr.heap.size wr W := by rw [hW]; exact (Below.refl _ _).alloc (Nat.le_refl _) _
 have b2 : Below W.heap.size W W' := by rw [hW']; exact (Below.refl _ _).alloc (Nat.le_refl _) _
 have x1 : FrC W M5 [.int .i64 5, .string ⟨#[]⟩, .int .i64 0, .int .i64 (k : Int)] := by rw [hW, hM]; exact box_fr wr #[.int .i64 5, .string ⟨#[]⟩, .int .i64 0, .int .i64 (k : Int)] _ (by show 4 ≤ 1000; omega)
 have x2 : FrC W' M6 [.int .i64 0, .string ⟨#[]⟩, .int .i64 0, .int .i64 (k : Int)] := by rw [hW', hM']; exact box_fr W #[.int .i64 0, .string ⟨#[]⟩, .int .i64 0, .int .i64 (k : Int)] _ (by show 4 ≤ 1000; omega)
 have s1 : M5 < W.heap.size := World.block_lt_of_cell? _ _ (x1 0 _ rfl).1
 have hbs := hb.size
 have hs := b1.size
 exact ⟨(hr.below b1).below b2, (hb.trans (b1.mono hbs)).trans (b2.mono (by omega)), (ht.below b1 (by omega)).below b2 (by omega), x1.below b2, x2, Nat.lt_of_lt_of_le s1 b2.size, World.block_lt_of_cell? _ _ (x2 0 _ rfl).1, by omega, by omega, by omega, fun g hg => by have := (World.ownsRow.lt hr g hg).2; omega, hbw⟩
theorem LB.put (h : LB w0 b l v ts M5 M6 xs k W) (i : Nat) (u : Value) (hX : W' = W.setCell ⟨M6, i, none⟩ u) : LB w0 b l v ts M5 M6 (xs.set i u) k W' := by
 have t1 : Tcs (fun q => q = M6) W W' := by rw [hX]; exact (Tcs.refl (fun q => q = M6) W).setCell (p := ⟨M6, i, none⟩) rfl u
 have hx := h.b6.set i u
 rw [← hX] at hx
 have h1 := h.m6
 have h2 := h.be.size
 have h3 := h.bw
 exact ⟨own_notU h.row t1 (fun g hg => (h.nv g hg).2), t1.below h.be h2 (fun q hq => by omega), h.tx.tcs t1 (by omega) (by omega), h.b5.tcs h.l5 t1 h.ne, hx, Nat.lt_of_lt_of_le h.l5 t1.size, Nat.lt_of_lt_of_le h.l6 t1.size, h.m5, h.m6, h.ne, h.nv, h.bw⟩
theorem LB.below (h : LB w0 b l v ts M5 M6 xs k W) (hb : Below W.heap.size W W') : LB w0 b l v ts M5 M6 xs k W' :=
 ⟨h.row.below hb, h.be.trans (hb.mono h.be.size), h.tx.below hb (by have := h.bw; have := h.be.size; omega), h.b5.below hb, h.b6.below hb, Nat.lt_of_lt_of_le h.l5 hb.size, Nat.lt_of_lt_of_le h.l6 hb.size, h.m5, h.m6, h.ne, h.nv, h.bw⟩
theorem LB.q5 (h : LB w0 b l v ts M5 M6 xs k W) {j : Nat} {x : Value} (hj : [Value.int .i64 5, .string ⟨#[]⟩, .int .i64 0, .int .i64 (k : Int)][j]? = some x) : W.cell? ⟨M5, j, none⟩ = some x := (h.b5 j x hj).1
theorem LB.q6 (h : LB w0 b l v ts M5 M6 xs k W) {j : Nat} {x : Value} (hj : xs[j]? = some x) : W.cell? ⟨M6, j, none⟩ = some x ∧ W.frozen? ⟨M6, j, none⟩ = false := h.b6 j x hj
theorem LB.app {B9 : Nat} (h : LB w0 b l v ts M5 M6 xs k W) (t : To) (hl : ts.length ≤ 1000000) (hW : W' = W.alloc (.cells #[.int .i64 t.kind, .string t.text, .int .i64 t.num, .int .i64 (t.pl : Int)] 55)) (hb : B9 = W.heap.size) :
  ∃ v' w', (Builtin.append_ #[50, 50] 50 #[v, .slice (some ⟨B9, 0, none⟩) 1 1]).run Tryz.prog W' = .ok v' w' ∧ TRow w0.heap.size w' v' (ts ++ [t]) ∧ Below w0.heap.size w0 w' ∧ Txt w' b l := by
 obtain ⟨v', w', h1, h2, h3⟩ := trow_app t h.row h.be.size hl hW hb
 exact ⟨v', w', h1, h2, h.be.trans h3, h.tx.below h3 h.bw⟩
end
theorem rng_succ (l : List UInt8) (m : Nat) : (List.range (m + 1)).map (tokT l) = (List.range m).map (tokT l) ++ [tokT l m] := by rw [List.range_succ, List.map_append]; rfl
theorem rng_len (l : List UInt8) (m : Nat) : ((List.range m).map (tokT l)).length = m := by simp
def LexA (w0 : World) (l : List UInt8) (e : Ending) (w' : World) : Prop := ∃ v K, e = .returned v ∧ TRow w0.heap.size w' v ((List.range (K + 1)).map (tokT l)) ∧ Las (tokT l) K ∧ K ≤ l.length ∧ Below w0.heap.size w0 w'
theorem lex_fin {w0 w' : World} {l : List UInt8} {m k : Nat} {v : Value} {t : To} (hx : Lx l m k) (ht : t = tokT l m) (h4 : 4 ≤ t.kind) (hr : TRow w0.heap.size w' v ((List.range m).map (tokT l) ++ [t])) (hb : Below w0.heap.size w0 w') : LexA w0 l (.returned v) w' :=
 ⟨v, m, rfl, by rw [rng_succ, ← ht]; exact hr, lx_las hx (by rw [← ht]; exact h4), hx.count, hb⟩
def LexR (w0 : World) (b : Nat) (l : List UInt8) (v iv : Value) (W : World) : Prop := ∃ m k : Nat, iv = .int .i64 (k : Int) ∧ Lx l m k ∧ TRow w0.heap.size W v ((List.range m).map (tokT l)) ∧ Below w0.heap.size w0 W ∧ Txt W b l
theorem lex_go {w0 w' : World} {b : Nat} {l : List UInt8} {m k j : Nat} {v : Value} {t : To} (hx : Lx l m k) (ht : t = tokT l m) (h3 : t.kind ≤ 3) (hj : j = endT l (m + 1)) (hr : TRow w0.heap.size w' v ((List.range m).map (tokT l) ++ [t])) (hb : Below w0.heap.size w0 w') (hT : Txt w' b l) : LexR w0 b l v (.int .i64 (j : Int)) w' :=
 ⟨m + 1, j, rfl, by rw [hj]; exact lx_next hx (by rw [← ht]; exact h3), by rw [rng_succ, ← ht]; exact hr, hb, hT⟩
theorem c32 (c : UInt8) : blkU c = false → (cI c == 32) = false ∧ (cI c == 10) = false := by
 intro h
 unfold blkU at h
 simp only [decide_eq_false_iff_not, not_or] at h
 unfold cI
 simp only [beq_eq_false_iff_ne]
 constructor
 ·intro e; exact h.1 (by apply UInt8.toNat_inj.1; show c.toNat = 32; omega)
 ·intro e; exact h.2 (by apply UInt8.toNat_inj.1; show c.toNat = 10; omega)
theorem c32y (c : UInt8) : blkU c = true → (cI c = 32) ∨ (cI c = 10) := by
 intro h
 unfold blkU at h
 simp only [decide_eq_true_eq] at h
 rcases h with rfl | rfl
 ·left; rfl
 ·right; rfl
theorem end_tw {l : List UInt8} {k j : Nat} (p : UInt8 → Bool) (hkj : k ≤ j) (hj : j ≤ l.length) (h : ∀ x (hx : x < l.length), k ≤ x → x < j → p l[x] = true) (he : ∀ hx : j < l.length, p l[j] = false) : (l.drop k).takeWhile p = (l.drop k).take (j - k) ∧ j - k ≤ (l.drop k).length := by
 refine ⟨tw_is p (l.drop k) (j - k) (by rw [List.length_drop]; omega) (fun x hx hxd => ?_) (fun hx => ?_), by rw [List.length_drop]; omega⟩
 ·rw [List.getElem_drop]
  exact h (k + x) (by rw [List.length_drop] at hx; omega) (by omega) (by omega)
 ·rw [List.length_drop] at hx
  have e : k + (j - k) = j := by omega
  simp only [List.getElem_drop, e]
  exact he (by omega)
theorem lx_lt {k L : Nat} (h : k < L) : (k : Int) < (L : Int) := by omega
theorem lx_nlt {k L : Nat} (h : ¬ k < L) : ¬ (k : Int) < (L : Int) := by omega
theorem lx_w1 {j L : Nat} (h : j ≤ L) (hL : L ≤ 20000) : wrap64 ((j : Int) + 1) = (j : Int) + 1 := by unfold wrap64; omega
theorem lx_more {l : List UInt8} {p : UInt8 → Bool} {k j : Nat} (h : ∀ x (hx : x < l.length), k ≤ x → x < j → p l[x] = true) (hj : j < l.length) (hp : p l[j] = true) : ∀ x (hx : x < l.length), k ≤ x → x < j + 1 → p l[x] = true := fun x hx h1 h2 => by
 by_cases e : x = j
 ·subst e; exact hp
 ·exact h x hx h1 (by omega)
theorem lx_sub {k j : Nat} (h : k ≤ j) (hj : j ≤ 20000) : wrap64 ((j : Int) - (k : Int)) = ((j - k : Nat) : Int) ∧ ((20 : Int) < ((j - k : Nat) : Int) ↔ 20 < j - k) := by
 refine ⟨by unfold wrap64; omega, by omega⟩
theorem lx_meas {L k : Nat} (h : k < L) : L - (k + 1) < L - k := by omega
theorem lx_meas2 {L k j : Nat} (h : k < L) (hj : k < j) : L - j < L - k := by omega
theorem lx_20 {k j d : Nat} (h : k ≤ j) (hd : d = j - k) : ((20 : Int) < (j : Int) - (k : Int) ↔ 20 < d) := by omega
theorem lx_pos {l : List UInt8} {p : UInt8 → Bool} {k j : Nat} (hk : k < l.length) (hp : p l[k] = true) (hkj : k ≤ j) (he : ∀ hx : j < l.length, p l[j] = false) : k < j := by
 rcases Nat.lt_or_ge k j with h | h
 ·exact h
 ·have e : j = k := by omega
  subst e
  rw [he hk] at hp
  cases hp
theorem fst_lat {c : UInt8} (h : fstU c = true) : latU c = true := by
 unfold latU laterB
 rw [show smallB (cI c) = true from h]
 rfl
theorem lx_addsub {k j : Nat} (h : k ≤ j) : k + (j - k) = j := by omega
theorem lx_num {x c : Int} (hx : 0 ≤ x) (hx2 : x < 10000000000) (hc : 48 ≤ c ∧ c ≤ 57) : IntKind.i64.wrap (10 * x) = 10 * x ∧ IntKind.u8.wrap (c - 48) = c - 48 ∧ IntKind.i64.wrap (c - 48) = c - 48 ∧ IntKind.i64.wrap (10 * x + (c - 48)) = 10 * x + (c - 48) := by
 refine ⟨?_, ?_, ?_, ?_⟩
 ·rw [IntKind.wrap_i64]; omega
 ·rw [IntKind.wrap_u8]; omega
 ·rw [IntKind.wrap_i64]; omega
 ·rw [IntKind.wrap_i64]; omega
theorem dig_bd {c : UInt8} (h : digU c = true) : 48 ≤ cI c ∧ cI c ≤ 57 := by
 unfold digU digitB at h
 simpa using h
theorem take_more {l : List UInt8} {k j : Nat} (hkj : k ≤ j) (hj : j < l.length) : (l.drop k).take (j + 1 - k) = (l.drop k).take (j - k) ++ [l[j]] := by
 have hd : j - k < (l.drop k).length := by rw [List.length_drop]; omega
 have e : j + 1 - k = (j - k) + 1 := by omega
 rw [e, List.take_succ_eq_append_getElem hd]
 congr 1
 have e2 : k + (j - k) = j := by omega
 simp only [List.getElem_drop, e2]
theorem take_zero {l : List UInt8} {k : Nat} : (l.drop k).take (k - k) = [] := by simp
theorem sym_addw {k n : Nat} (hk : k ≤ 20000) (hn : n ≤ 2) : wrap64 ((k : Int) + (n : Int)) = (k : Int) + (n : Int) := by unfold wrap64; omega
def badS (l : List UInt8) (k j : Nat) : Prop := (l[k]? = some 48 ∧ 1 < j - k) ∨ 2147483647 < numL ((l.drop k).take (j - k)) ∨ ((l.drop (k + (j - k))).head?.map fstU).getD false = true
theorem tok_numS {l : List UInt8} {k j : Nat} (hi : k < l.length) (hf : fstU l[k] = false) (hg : digU l[k] = true) (ht : (l.drop k).takeWhile digU = (l.drop k).take (j - k)) (hd : j - k ≤ (l.drop k).length) (h : badS l k j ∨ ¬ badS l k j) :
  (badS l k j → tokL (l.drop k) k = (⟨5, tx [], 0, k⟩, 0)) ∧ (¬ badS l k j → tokL (l.drop k) k = (⟨2, tx [], (numL ((l.drop k).take (j - k)) : Int), k⟩, j - k)) := by
 have e := tok_num hi hf hg ht hd
 have hb : badS l k j ↔ ((l[k] = 48 ∧ 1 < j - k) ∨ 2147483647 < numL ((l.drop k).take (j - k)) ∨ ((l.drop (k + (j - k))).head?.map fstU).getD false = true) := by
  unfold badS
  rw [List.getElem?_eq_getElem hi]
  simp
 exact ⟨fun h => by rw [e, if_pos (hb.1 h)], fun h => by rw [e, if_neg (fun h' => h (hb.2 h'))]⟩
theorem cG48 {c : UInt8} : (cI c == 48) = decide (c = 48) := by
 unfold cI
 apply Bool.eq_iff_iff.2
 simp only [beq_iff_eq, decide_eq_true_eq]
 constructor
 ·intro h; apply UInt8.toNat_inj.1; show c.toNat = 48; omega
 ·rintro rfl; rfl
theorem lx_gt1 {k j : Nat} : (k : Int) + 1 < (j : Int) ↔ 1 < j - k := by omega
theorem tx_toG (x : List UInt8) : (tx x).toList = x := by unfold tx; rw [ByteArray.toList_eq]
end
end Go.Proofs.YtlamjfhhefcohaaGreatDoor
