import Derived.Test.YtjhmgjimppflhaaGreatDoorY27
import Derived.Test.YtjhmgjimppflhaaGreatDoorY28
set_option linter.unusedSectionVars false
variable [Inhabited Go.Proofs.YtjhmgjimppflhaaGreatDoor.Pick]
namespace Go.Proofs.YtjhmgjimppflhaaGreatDoor
set_option linter.unusedVariables false
set_option linter.unusedSimpArgs false
set_option maxRecDepth 100000
set_option maxHeartbeats 16000000
section
open Go.RowKit
def useF (o : Option Int) (arr : Bool) : Int := match o with | none => 4 | some z => if decide (z > 0) = arr then 0 else 5
set_option maxRecDepth 100000 in
set_option maxHeartbeats 2000000 in
theorem useK_any (C B : Nat) (bs : List Nat) (fl : List (ByteArray → Option Int)) (v : Value) (s : ByteArray) (arr : Bool) (fn st : Int) (w : World) (hl : fl.length = bs.length) (hlen : bs.length ≤ 1000000) (hp : 0 < bs.length) (hs : s.size ≤ maxLen)
  (hc : w.cell? ⟨C, 0, none⟩ = some v) (h5 : w.cell? ⟨C, 5, none⟩ = some (.int .i64 fn)) (h6 : w.cell? ⟨C, 6, none⟩ = some (.int .i64 st)) (hR : BRw B w v bs) (hM : ∀ j, j < bs.length → ∃ nn D, w.ownsMap Tryz.prog 9 (plainElem (H := Unit) Tryz.prog 2) (bs[j]?.getD 0) nn D ∧ MapIs D (fl.getD j noF)) :
  Calls Tryz.prog 146 #[.pointer (some ⟨C, 0, none⟩), .string s, .bool arr] w fun e w' => e = .returned (errV (useF (findS fl s) arr) fn st) ∧ Below w.heap.size w w' := by
 have hCl : C < w.heap.size := World.block_lt_of_cell? _ _ hc
 have HFi : Hid (Calls Tryz.prog 154 #[.pointer (some ⟨C, 0, none⟩), .string s] w fun e w' => e = .returned (match findS fl s with | none => .tuple #[.int .i64 0, .bool false] | some z => .tuple #[.int .i64 z, .bool true]) ∧ Below w.heap.size w w') := findK_any C B bs fl v s w hl hlen hp hs hc hR hM
 clear hR hM hl hlen hp hs
 cases hfi : findS fl s with
 | none =>
  rw [hfi] at HFi
  go_enter Tryz.func146, Tryz.ntmps146
  go_wp2_with fail
  refine HFi.out.mono ?_
  rintro e w1 ⟨rfl, hb1⟩
  have c5 := (hb1.cell (p := ⟨C, 5, none⟩) hCl).trans h5
  have c6 := (hb1.cell (p := ⟨C, 6, none⟩) hCl).trans h6
  go_wp2_with fail
  refine (fault_any C 4 fn st _ c5 c6).mono ?_
  rintro e w2 ⟨rfl, hw⟩
  rw [hw]
  clear hw
  go_wp2_with fail
  go_ret
  exact ⟨ret_val rfl, hb1⟩
 | some z =>
  rw [hfi] at HFi
  by_cases hz : z > 0
  ·cases arr
   ·go_enter Tryz.func146, Tryz.ntmps146
    go_wp2_with fail
    refine HFi.out.mono ?_
    rintro e w1 ⟨rfl, hb1⟩
    have c5 := (hb1.cell (p := ⟨C, 5, none⟩) hCl).trans h5
    have c6 := (hb1.cell (p := ⟨C, 6, none⟩) hCl).trans h6
    have HE : Hid (useF (some z) false = 5) := by show _ = _; unfold useF; simp [hz]
    go_wp2_with fail
    refine (fault_any C 5 fn st _ c5 c6).mono ?_
    rintro e w2 ⟨rfl, hw⟩
    rw [hw]
    clear hw
    go_wp2_with fail
    go_ret
    exact ⟨ret_val (by rw [HE.out]; rfl), hb1⟩
   ·go_enter Tryz.func146, Tryz.ntmps146
    go_wp2_with fail
    refine HFi.out.mono ?_
    rintro e w1 ⟨rfl, hb1⟩
    have HE : Hid (useF (some z) true = 0) := by show _ = _; unfold useF; simp [hz]
    go_wp2_with fail
    go_ret
    exact ⟨ret_val (by rw [HE.out]; rfl), hb1⟩
  ·cases arr
   ·go_enter Tryz.func146, Tryz.ntmps146
    go_wp2_with fail
    refine HFi.out.mono ?_
    rintro e w1 ⟨rfl, hb1⟩
    have HE : Hid (useF (some z) false = 0) := by show _ = _; unfold useF; simp [hz]
    go_wp2_with fail
    go_ret
    exact ⟨ret_val (by rw [HE.out]; rfl), hb1⟩
   ·go_enter Tryz.func146, Tryz.ntmps146
    go_wp2_with fail
    refine HFi.out.mono ?_
    rintro e w1 ⟨rfl, hb1⟩
    have c5 := (hb1.cell (p := ⟨C, 5, none⟩) hCl).trans h5
    have c6 := (hb1.cell (p := ⟨C, 6, none⟩) hCl).trans h6
    have HE : Hid (useF (some z) true = 5) := by show _ = _; unfold useF; simp [hz]
    have hz1 : z ≤ 0 := by omega
    have hz2 : decide (0 < z) = false := by simp; omega
    have hz3 : decide (z > 0) = false := by simp; omega
    go_wp2_with fail
    refine (fault_any C 5 fn st _ c5 c6).mono ?_
    rintro e w2 ⟨rfl, hw⟩
    rw [hw]
    clear hw
    go_wp2_with fail
    go_ret
    exact ⟨ret_val (by rw [HE.out]; rfl), hb1⟩
end
section
open Go.RowKit
structure Ck (w : World) (C B bn nn : Nat) (D : DataW Unit) (t : Tr) (bsn : List (List ByteArray)) (bs : List Nat) (v vf : Value) (fn st : Int) : Prop where
 c0 : w.cell? ⟨C, 0, none⟩ = some v
 c2 : w.cell? ⟨C, 2, none⟩ = some vf
 c3 : w.cell? ⟨C, 3, none⟩ = some (.map (some bn))
 c5 : w.cell? ⟨C, 5, none⟩ = some (.int .i64 fn)
 c6 : w.cell? ⟨C, 6, none⟩ = some (.int .i64 st)
 row : BRw B w v bs
 len : (scopesF t.globals bsn).length = bs.length
 small : bs.length ≤ 1000000
 maps : ∀ j, j < bs.length → ∃ nn D, w.ownsMap Tryz.prog 9 (plainElem (H := Unit) Tryz.prog 2) (bs[j]?.getD 0) nn D ∧ MapIs D ((scopesF t.globals bsn).getD j noF)
 own : w.ownsMap Tryz.prog 9 (plainElem (H := Unit) Tryz.prog 2) bn nn D
 num : NumIs D t.funcs
 funcs : Funcs w vf t.funcs
theorem Ck.below {w w' : World} {C B bn nn : Nat} {D : DataW Unit} {t : Tr} {bsn : List (List ByteArray)} {bs : List Nat} {v vf : Value} {fn st : Int} (h : Ck w C B bn nn D t bsn bs v vf fn st) (hb : Below w.heap.size w w') : Ck w' C B bn nn D t bsn bs v vf fn st := by
 have hC : C < w.heap.size := World.block_lt_of_cell? _ _ h.c0
 refine ⟨(hb.cell (p := ⟨C, 0, none⟩) hC).trans h.c0, (hb.cell (p := ⟨C, 2, none⟩) hC).trans h.c2, (hb.cell (p := ⟨C, 3, none⟩) hC).trans h.c3, (hb.cell (p := ⟨C, 5, none⟩) hC).trans h.c5, (hb.cell (p := ⟨C, 6, none⟩) hC).trans h.c6, h.row.below hb, h.len, h.small, fun j hj => ?_, map_below h.own hb, h.num, h.funcs.below hb⟩
 obtain ⟨nn, D, h1, h2⟩ := h.maps j hj
 exact ⟨nn, D, map_below h1 hb, h2⟩
theorem useE_F {gs : List Gl} {bs : List (List ByteArray)} {s : ByteArray} {arr : Bool} (hp : ∀ g ∈ gs, 0 ≤ g.size) : useE gs bs.flatten s arr = useF (findS (scopesF gs bs) s) arr := by
 rw [useE_find hp]
 rfl
theorem useC_any {w : World} {C B bn nn : Nat} {D : DataW Unit} {t : Tr} {bsn : List (List ByteArray)} {bs : List Nat} {v vf : Value} {fn st : Int} (h : Ck w C B bn nn D t bsn bs v vf fn st) (hp : ∀ g ∈ t.globals, 0 ≤ g.size) (s : ByteArray) (hs : s.size ≤ maxLen) (arr : Bool) :
  Calls Tryz.prog 146 #[.pointer (some ⟨C, 0, none⟩), .string s, .bool arr] w fun e w' => e = .returned (errV (useE t.globals bsn.flatten s arr) fn st) ∧ Below w.heap.size w w' := by
 have hpos : 0 < bs.length := by rw [← h.len]; simp [scopesF]
 rw [useE_F hp]
 exact useK_any C B bs _ v s arr fn st w h.len h.small hpos hs h.c0 h.c5 h.c6 h.row h.maps
set_option maxRecDepth 100000 in
set_option maxHeartbeats 2000000 in
theorem nodeK_any {w : World} {C B bn nn : Nat} {D : DataW Unit} {t : Tr} {bsn : List (List ByteArray)} {bs : List Nat} {v vf : Value} {fn st : Int} (h : Ck w C B bn nn D t bsn bs v vf fn st) (hp : ∀ g ∈ t.globals, 0 ≤ g.size) (hfl : t.funcs.length ≤ 1048576) (n : Nd) (hs : n.name.size ≤ maxLen) :
  Calls Tryz.prog 145 #[.pointer (some ⟨C, 0, none⟩), .agg #[.int .i64 n.kind, .int .i64 n.val, .string n.name]] w fun e w' => e = .returned (errV (nodeE t bsn.flatten n) fn st) ∧ Below w.heap.size w w' := by
 obtain ⟨kd, vl, nm⟩ := n
 simp only at hs ⊢
 have hA : Below w.heap.size w (w.alloc (.cells #[.int .i64 kd, .int .i64 vl, .string nm] 91)) := (Below.refl _ _).alloc (Nat.le_refl _) _
 have HK : Hid (Ck (w.alloc (.cells #[.int .i64 kd, .int .i64 vl, .string nm] 91)) C B bn nn D t bsn bs v vf fn st) := h.below hA
 clear h
 by_cases h2 : kd = 2
 ·subst h2
  have HE : Hid (nodeE t bsn.flatten ⟨2, vl, nm⟩ = useE t.globals bsn.flatten nm false) := rfl
  go_enter Tryz.func145, Tryz.ntmps145
  go_wp2_with fail
  refine (useC_any HK.out hp nm hs false).mono ?_
  rintro e w1 ⟨rfl, hb1⟩
  have hB := hA.trans (hb1.mono (by simp))
  rw [← HE.out]
  obtain ⟨ev, hev⟩ : ∃ ev, ev = errV (nodeE t bsn.flatten ⟨2, vl, nm⟩) fn st := ⟨_, rfl⟩
  rw [← hev]
  have HV : Hid (ev = errV (nodeE t bsn.flatten ⟨2, vl, nm⟩) fn st) := hev
  clear hev
  go_wp2_with fail
  go_ret
  exact ⟨ret_val HV.out, hB⟩
 by_cases h3 : kd = 3
 ·subst h3
  have HE : Hid (nodeE t bsn.flatten ⟨3, vl, nm⟩ = useE t.globals bsn.flatten nm true) := rfl
  go_enter Tryz.func145, Tryz.ntmps145
  go_wp2_with fail
  refine (useC_any HK.out hp nm hs true).mono ?_
  rintro e w1 ⟨rfl, hb1⟩
  have hB := hA.trans (hb1.mono (by simp))
  rw [← HE.out]
  obtain ⟨ev, hev⟩ : ∃ ev, ev = errV (nodeE t bsn.flatten ⟨3, vl, nm⟩) fn st := ⟨_, rfl⟩
  rw [← hev]
  have HV : Hid (ev = errV (nodeE t bsn.flatten ⟨3, vl, nm⟩) fn st) := hev
  clear hev
  go_wp2_with fail
  go_ret
  exact ⟨ret_val HV.out, hB⟩
 by_cases h4 : kd = 4
 ·subst h4
  go_enter Tryz.func145, Tryz.ntmps145
  go_wp2_with fail
  refine (callK_any C bn nn D t bsn.flatten vl fn st nm vf _ HK.out.c2 HK.out.c3 HK.out.c5 HK.out.c6 HK.out.own HK.out.num hfl HK.out.funcs hs).mono ?_
  rintro e w1 ⟨rfl, hb1⟩
  have hB := hA.trans (hb1.mono (by simp))
  obtain ⟨ev, hev⟩ : ∃ ev, ev = errV (nodeE t bsn.flatten ⟨4, vl, nm⟩) fn st := ⟨_, rfl⟩
  rw [← hev]
  have HV : Hid (ev = errV (nodeE t bsn.flatten ⟨4, vl, nm⟩) fn st) := hev
  clear hev
  go_wp2_with fail
  go_ret
  exact ⟨ret_val HV.out, hB⟩
 ·have HE : Hid (nodeE t bsn.flatten ⟨kd, vl, nm⟩ = 0) := by
   show _ = _
   unfold nodeE
   simp only
   rw [if_neg (by omega), if_neg h4]
  have b2 : (kd == 2) = false := by simpa using h2
  have b3 : (kd == 3) = false := by simpa using h3
  have b4 : (kd == 4) = false := by simpa using h4
  go_enter Tryz.func145, Tryz.ntmps145
  go_wp2_with fail
  go_ret
  exact ⟨ret_val (by rw [HE.out]; rfl), hA⟩
end
end Go.Proofs.YtjhmgjimppflhaaGreatDoor
