import Derived.Deep.Cut
import Derived.Deep.RegionHeld3
import Derived.Deep.RegionLaw
import Derived.Test.YtabjcodpagjbjaaP38
import Derived.Test.YtabjcodpagjbjaaP39
import Derived.Test.YtabjcodpagjbjaaP02
namespace Go.Proofs.Ytabjcodpagjbjaa
open Go.RowKit
set_option linter.unusedVariables false
set_option linter.unusedSectionVars false
set_option linter.unusedSimpArgs false
variable [Inhabited Pick]

theorem fe_any (Fb gk : Nat) (a : Option Addr) (len cap : Nat) (d bd pc : Int) (codes : List Int) (w : World) (hf : Ftc w Fb gk a len cap d bd codes) (hco : CodesOk codes) (hll : len = codes.length) (hpc : 0 ≤ pc ∧ pc ≤ 4294967295)
    (hc : Lis .u32 w (.slice a len cap) codes) (hne : ∀ g ∈ blk (.slice a len cap), g ≠ gk) :
    Calls Try.prog 29 #[.pointer (some ⟨Fb, 0, none⟩), .int .u32 pc] w fun e w' => e = .returned (fetchM codes pc).val ∧ Ftc w' Fb gk a len cap d bd codes ∧ Tcs (fun k => k = gk) w w' := by
  by_cases hw : 4096 ≤ pc ∧ (pc - 4096) % 4 = 0 ∧ (pc - 4096) / 4 < (len : Int)
  · obtain ⟨n, hn⟩ := Int.eq_ofNat_of_zero_le (show 0 ≤ (pc - 4096) / 4 by omega)
    have hnl : n < len := by omega
    have hp : pc = 4096 + 4 * (n : Int) := by omega
    have hfe : fetchM codes pc = decOf (codes.getD n 0) := by
      unfold fetchM wordAt
      rw [if_pos (by rw [← hll]; exact hw), hn]
      rfl
    rw [hfe]
    obtain ⟨x, hx, hs⟩ := hf.ks n hnl
    cases ho : x.o with
    | true =>
      have hxe : x = decOf (codes.getD n 0) := by
        rcases hx with rfl | h
        · simp [Dec.no] at ho
        · exact h
      rw [← hxe]
      exact fe_hit Fb gk a len cap d bd pc codes w hf hco hll hpc n hnl hp x hs ho
    | false => exact fe_new Fb gk a len cap d bd pc codes w hf hco hll hpc n hnl hp x hs ho hc hne
  · have hfe : fetchM codes pc = Dec.no := by
      unfold fetchM wordAt
      rw [if_neg (by rw [← hll]; exact hw)]
    rw [hfe]
    exact fe_no Fb gk a len cap d bd pc codes w hf hco hll hpc hw


theorem lt8 {i : Nat} (h : i < 8) : i = 0 ∨ i = 1 ∨ i = 2 ∨ i = 3 ∨ i = 4 ∨ i = 5 ∨ i = 6 ∨ i = 7 := by omega
def fetA (a : Option Addr) (len cap : Nat) (d bd : Int) (g : Nat) : Array Value := (#[Value.slice a len cap, Value.int .i64 d, Value.int .i64 bd] ++ tabA).push (Value.slice (some ⟨g, 0, none⟩) len len)
theorem build_fet (a : Option Addr) (len cap : Nat) (d bd : Int) (g : Nat) (W : World) : (Instr.build 60 #[(0, .agg #[.slice a len cap, .int .i64 d, .int .i64 bd]), (1, .agg tabA), (2, .slice (some ⟨g, 0, none⟩) len len)]).run Try.prog W = .ok (.agg (fetA a len cap d bd g)) W := by kernel_rfl
def zeroF : Array Value := #[.slice none 0 0, .int .i64 0, .int .i64 0, .nilIface, .nilIface, .nilIface, .nilIface, .nilIface, .nilIface, .nilIface, .nilIface, .nilIface, .nilIface, .nilIface, .nilIface, .nilIface, .nilIface, .nilIface, .nilIface, .nilIface, .nilIface, .nilIface, .nilIface, .nilIface, .nilIface, .nilIface, .nilIface, .nilIface, .nilIface, .nilIface, .nilIface, .nilIface, .nilIface, .nilIface, .nilIface, .nilIface, .nilIface, .nilIface, .slice none 0 0]
theorem Try.infRes : (Try.prog.info? 66).map (fun i => (i.zero, i.size, i.bytes)) = some (some (.agg #[.bool false, .int .i64 0, .int .i64 0, .int .i64 0, .int .i64 0, .int .i64 0]), 6, 48) := by kernel_rfl

theorem arr48 (a : Array Value) (h : a.size = 48) : ∃ t0 t1 t2 t3 t4 t5 t6 t7 t8 t9 t10 t11 t12 t13 t14 t15 t16 t17 t18 t19 t20 t21 t22 t23 t24 t25 t26 t27 t28 t29 t30 t31 t32 t33 t34 t35 t36 t37 t38 t39 t40 t41 t42 t43 t44 t45 t46 t47, a = #[t0, t1, t2, t3, t4, t5, t6, t7, t8, t9, t10, t11, t12, t13, t14, t15, t16, t17, t18, t19, t20, t21, t22, t23, t24, t25, t26, t27, t28, t29, t30, t31, t32, t33, t34, t35, t36, t37, t38, t39, t40, t41, t42, t43, t44, t45, t46, t47] := by
  obtain ⟨l⟩ := a
  simp only [List.size_toArray] at h
  obtain ⟨t0, l0, rfl, h0⟩ := len_cons h
  obtain ⟨t1, l1, rfl, h1⟩ := len_cons h0
  obtain ⟨t2, l2, rfl, h2⟩ := len_cons h1
  obtain ⟨t3, l3, rfl, h3⟩ := len_cons h2
  obtain ⟨t4, l4, rfl, h4⟩ := len_cons h3
  obtain ⟨t5, l5, rfl, h5⟩ := len_cons h4
  obtain ⟨t6, l6, rfl, h6⟩ := len_cons h5
  obtain ⟨t7, l7, rfl, h7⟩ := len_cons h6
  obtain ⟨t8, l8, rfl, h8⟩ := len_cons h7
  obtain ⟨t9, l9, rfl, h9⟩ := len_cons h8
  obtain ⟨t10, l10, rfl, h10⟩ := len_cons h9
  obtain ⟨t11, l11, rfl, h11⟩ := len_cons h10
  obtain ⟨t12, l12, rfl, h12⟩ := len_cons h11
  obtain ⟨t13, l13, rfl, h13⟩ := len_cons h12
  obtain ⟨t14, l14, rfl, h14⟩ := len_cons h13
  obtain ⟨t15, l15, rfl, h15⟩ := len_cons h14
  obtain ⟨t16, l16, rfl, h16⟩ := len_cons h15
  obtain ⟨t17, l17, rfl, h17⟩ := len_cons h16
  obtain ⟨t18, l18, rfl, h18⟩ := len_cons h17
  obtain ⟨t19, l19, rfl, h19⟩ := len_cons h18
  obtain ⟨t20, l20, rfl, h20⟩ := len_cons h19
  obtain ⟨t21, l21, rfl, h21⟩ := len_cons h20
  obtain ⟨t22, l22, rfl, h22⟩ := len_cons h21
  obtain ⟨t23, l23, rfl, h23⟩ := len_cons h22
  obtain ⟨t24, l24, rfl, h24⟩ := len_cons h23
  obtain ⟨t25, l25, rfl, h25⟩ := len_cons h24
  obtain ⟨t26, l26, rfl, h26⟩ := len_cons h25
  obtain ⟨t27, l27, rfl, h27⟩ := len_cons h26
  obtain ⟨t28, l28, rfl, h28⟩ := len_cons h27
  obtain ⟨t29, l29, rfl, h29⟩ := len_cons h28
  obtain ⟨t30, l30, rfl, h30⟩ := len_cons h29
  obtain ⟨t31, l31, rfl, h31⟩ := len_cons h30
  obtain ⟨t32, l32, rfl, h32⟩ := len_cons h31
  obtain ⟨t33, l33, rfl, h33⟩ := len_cons h32
  obtain ⟨t34, l34, rfl, h34⟩ := len_cons h33
  obtain ⟨t35, l35, rfl, h35⟩ := len_cons h34
  obtain ⟨t36, l36, rfl, h36⟩ := len_cons h35
  obtain ⟨t37, l37, rfl, h37⟩ := len_cons h36
  obtain ⟨t38, l38, rfl, h38⟩ := len_cons h37
  obtain ⟨t39, l39, rfl, h39⟩ := len_cons h38
  obtain ⟨t40, l40, rfl, h40⟩ := len_cons h39
  obtain ⟨t41, l41, rfl, h41⟩ := len_cons h40
  obtain ⟨t42, l42, rfl, h42⟩ := len_cons h41
  obtain ⟨t43, l43, rfl, h43⟩ := len_cons h42
  obtain ⟨t44, l44, rfl, h44⟩ := len_cons h43
  obtain ⟨t45, l45, rfl, h45⟩ := len_cons h44
  obtain ⟨t46, l46, rfl, h46⟩ := len_cons h45
  obtain ⟨t47, l47, rfl, h47⟩ := len_cons h46
  obtain rfl := List.eq_nil_of_length_eq_zero h47
  exact ⟨_, _, _, _, _, _, _, _, _, _, _, _, _, _, _, _, _, _, _, _, _, _, _, _, _, _, _, _, _, _, _, _, _, _, _, _, _, _, _, _, _, _, _, _, _, _, _, _, rfl⟩


theorem RInv.below {w wr wr' : World} {Cb : Nat} {mo ro : Obj} {cv : Value} {codes : List Int} {c : Mc} (h : RInv w wr Cb mo ro cv codes c) (hb : Below wr.heap.size wr wr') : RInv w wr' Cb mo ro cv codes c := by
  obtain ⟨r, d, s, i, o, L, hB, hcv, hL, hM, hRo, hco, hcbk, hBW, hCb⟩ := h
  have h1 := hB.lt
  have h2 := hBW.size
  exact ⟨r, d, s, i, o, L, hB.below hb, hcv.below hb, hL, (hb.block _ (by omega)).trans hM, (hb.block _ (by omega)).trans hRo, hco.below hb, hcbk, hBW.trans (hb.mono h2), hCb⟩
theorem CpuV.toIn {W : World} {C : Nat} {L : List Nat} {c : Mc} {r d s i o : Value} (hb : Bx W C r (.int .u32 c.pc) d s i o (.int .u32 c.low) (.int .i64 c.st)) (h : CpuV W (.agg #[r, .int .u32 c.pc, d, s, i, o, .int .u32 c.low, .int .i64 c.st]) L c) (hn : C ∉ L) : CpuIn W C (C :: L) c := by
  obtain ⟨r', d', s', i', o', hv, hr, hd, hs, hi, ho, hk, rfl, hnd⟩ := h
  simp only [Value.agg.injEq, Array.mk.injEq, List.cons.injEq, and_true, true_and] at hv
  obtain ⟨rfl, rfl, rfl, rfl, rfl⟩ := hv
  exact ⟨_, _, _, _, _, hb, hr, hd, hs, hi, ho, hk, rfl, List.nodup_cons.mpr ⟨hn, hnd⟩⟩
/-- What holds in the program's run at each round's head. -/
def IInv (w wr : World) (Cb gF gk : Nat) (mo ro : Obj) (a : Option Addr) (len cap : Nat) (d bd : Int) (codes : List Int) (c : Mc) : Prop :=
  ∃ L, CpuIn wr Cb (Cb :: L) c ∧ (∀ g ∈ L, w.heap.size + 1 < g ∧ g ≠ Cb ∧ g ≠ gF ∧ g ≠ gk) ∧ wr.heap[w.heap.size]? = some mo ∧ wr.heap[w.heap.size + 1]? = some ro ∧ Lis .u32 wr (.slice a len cap) codes ∧ (∀ g ∈ blk (.slice a len cap), g < w.heap.size) ∧ Below w.heap.size w wr ∧
    Ftc wr gF gk a len cap d bd codes ∧ w.heap.size + 1 < Cb ∧ Cb < gF ∧ Cb < gk
theorem fet_size (a : Option Addr) (len cap : Nat) (d bd : Int) (g : Nat) : (fetA a len cap d bd g).size = 39 := by kernel_rfl
theorem fet_one (a : Option Addr) (len cap : Nat) (d bd : Int) (g : Nat) : ((fetA a len cap d bd g).all fun x => x.oneCell') = true := by kernel_rfl
theorem zeroF_size : zeroF.size = 39 := by kernel_rfl
theorem Try.infFet : (Try.prog.info? 60).map (·.size) = some 39 := by kernel_rfl
theorem fet_get (a : Option Addr) (len cap : Nat) (d bd : Int) (g : Nat) : (fetA a len cap d bd g).toList[0]? = some (.slice a len cap) ∧ (fetA a len cap d bd g).toList[1]? = some (.int .i64 d) ∧ (fetA a len cap d bd g).toList[2]? = some (.int .i64 bd) ∧ (fetA a len cap d bd g).toList[38]? = some (.slice (some ⟨g, 0, none⟩) len len) ∧
    ∀ j, j < 35 → (fetA a len cap d bd g).toList[3 + j]? = tabA[j]? := by
  refine ⟨by kernel_rfl, by kernel_rfl, by kernel_rfl, by kernel_rfl, fun j hj => ?_⟩
  have e : (fetA a len cap d bd g).toList = [Value.slice a len cap, Value.int .i64 d, Value.int .i64 bd] ++ (tabA.toList ++ [Value.slice (some ⟨g, 0, none⟩) len len]) := by simp [fetA]
  rw [e, List.getElem?_append_right (by simp)]
  rw [show (3 + j - [Value.slice a len cap, Value.int .i64 d, Value.int .i64 bd].length) = j by simp]
  rw [List.getElem?_append_left (by simp [tab_size]; omega)]
  simp
theorem made6 {W : World} {g n : Nat} {t : TypeId} (h : W.heap[g]? = some (.cells (madeCells #[.bool false, .int .i64 0, .int .i64 0, .int .i64 0, .int .i64 0, .int .i64 0] (n * 6)) t)) (i : Nat) (hi : i < n) : Six W g (i * 6) Dec.no := by
  have k : ∀ j, j < 6 → W.cell? ⟨g, i * 6 + j, none⟩ = some ((#[.bool false, .int .i64 0, .int .i64 0, .int .i64 0, .int .i64 0, .int .i64 0] : Array Value)[j]!) := by
    intro j hj
    have hm : (i * 6 + j) % 6 = j := by omega
    have hlt : i * 6 + j < n * 6 := by omega
    simp [World.cell?, h, madeCells, hm, hlt]
  exact ⟨k 0 (by omega), k 1 (by omega), k 2 (by omega), k 3 (by omega), k 4 (by omega), k 5 (by omega)⟩
theorem ftc_new {Y : World} {gF gk : Nat} {a : Option Addr} {len cap : Nat} {d bd : Int} {codes : List Int} (hF : Y.heap[gF]? = some (.cells zeroF 60)) (hk : Y.heap[gk]? = some (.cells (madeCells #[.bool false, .int .i64 0, .int .i64 0, .int .i64 0, .int .i64 0, .int .i64 0] (len * 6)) 66)) :
    Ftc (Y.setCells gF 0 (fetA a len cap d bd gk).toList) gF gk a len cap d bd codes ∧ Tcs (fun k => k = gF) Y (Y.setCells gF 0 (fetA a len cap d bd gk).toList) ∧ gF ≠ gk := by
  have hne : gF ≠ gk := by
    intro e
    rw [e, hk] at hF
    simp at hF
  have hT : ∀ (vs : List Value) (o : Nat) (w w' : World), Tcs (fun k => k = gF) w w' → Tcs (fun k => k = gF) w (w'.setCells gF o vs) := by
    intro vs
    induction vs with
    | nil => intro o w w' h; exact h
    | cons v r ih => intro o w w' h; exact ih (o + 1) w _ (h.setCell (p := ⟨gF, o, none⟩) rfl v)
  have T1 := hT (fetA a len cap d bd gk).toList 0 Y Y (Tcs.refl _ _)
  have hth : Y.there gF 0 (fetA a len cap d bd gk).toList.length := by
    intro j hj
    have hj' : j < 39 := by simpa [fet_size] using hj
    rw [Nat.zero_add]
    refine ⟨?_, frozen_of_row _ _ _ _ _ hF⟩
    rw [cell_of_row _ _ _ _ _ _ hF]
    simp [zeroF_size]
    omega
  have hR := World.rangeAt_setCells_same Y gF 0 (fetA a len cap d bd gk).toList hth
  have hlF : gF < Y.heap.size := (Array.getElem?_eq_some_iff.mp hF).1
  have hlk : gk < Y.heap.size := (Array.getElem?_eq_some_iff.mp hk).1
  have bk := T1.block gk hlk (fun e => hne e.symm)
  obtain ⟨g0, g1, g2, g38, gt⟩ := fet_get a len cap d bd gk
  have c := fun j v h => (by have := hR j v h; rwa [Nat.zero_add] at this : (Y.setCells gF 0 (fetA a len cap d bd gk).toList).cell? ⟨gF, j, none⟩ = some v)
  refine ⟨⟨Nat.lt_of_lt_of_le hlF T1.size, c 0 _ g0, c 1 _ g1, c 2 _ g2, fun j hj => ?_, c 38 _ g38, Nat.lt_of_lt_of_le hlk T1.size, fun j => ?_, fun i hi => ⟨Dec.no, .inl rfl, (made6 hk i hi).keep bk⟩, hne⟩, T1, hne⟩
  · have h35 : j < tabA.size := by rw [tab_size]; exact hj
    rw [Array.getElem?_eq_getElem h35]
    refine c (3 + j) _ ?_
    rw [gt j hj, Array.getElem?_eq_getElem h35]
  · rw [World.frozen?_of_block (w := Y) (a := ⟨gk, j, none⟩) bk]
    simp [World.frozen?, hk]

end Go.Proofs.Ytabjcodpagjbjaa
