import Derived.Test.YtolkpkklinoegaaDoorM25
import Derived.Test.YtolkpkklinoegaaDoorM02
import Derived.RegionTactic
set_option linter.unusedSectionVars false
variable [Inhabited Go.Proofs.YtolkpkklinoegaaDoor.Pick]
namespace Go.Proofs.YtolkpkklinoegaaDoor
set_option linter.unusedVariables false
set_option linter.unusedSimpArgs false
set_option maxRecDepth 100000
set_option maxHeartbeats 16000000
section
open Go.RowKit
def fnumI (fs : List Fu) (s : ByteArray) : Int := match fnum fs s with | some i => (i : Int) | none => -1
theorem fnumI_some {fs : List Fu} {s : ByteArray} {i : Nat} (h : fnum fs s = some i) : fnumI fs s = i := by unfold fnumI; rw [h]
theorem fnumI_none {fs : List Fu} {s : ByteArray} (h : fnum fs s = none) : fnumI fs s = -1 := by unfold fnumI; rw [h]
theorem ne_list {a b : ByteArray} (h : a ≠ b) : (a.toList == b.toList) = false := by
 rw [beq_eq_false_iff_ne]
 intro e
 rw [ByteArray.toList_eq, ByteArray.toList_eq] at e
 exact h (ByteArray.ext (Array.ext' e))
set_option maxRecDepth 100000 in
set_option maxHeartbeats 2000000 in
theorem l3func_any (fs : List Fu) (vg vf : Value) (s : ByteArray) (w : World) (hl : fs.length ≤ 1048576) (hf : Funcs w vf fs) :
  Calls Tryd.prog 25 #[.agg #[vg, vf], .string s] w fun e w' => e = .returned (.int .i64 (fnumI fs s)) ∧ Below w.heap.size w w' := by
 obtain ⟨af, cf, rfl, -, -, hfc⟩ := hf
 have HFC : Hid (0 < fs.length → ∃ b off, af = some ⟨b, off, none⟩ ∧ FuncsC w b off fs) := hfc
 clear hfc
 go_enter Tryd.func25, Tryd.ntmps25
 go_wp2_with fail
 go_loopw [5] (fun i wr => ∃ k : Nat, k ≤ fs.length ∧ i = .int .i64 k ∧ (∀ j (hj : j < fs.length), j < k → fs[j].name ≠ s) ∧ Below (w.heap.size + 1) (w.alloc (.cells #[vg, .slice af fs.length cf] 41)) wr) (fun i _ => fs.length - (RowKit.intOf i).toNat)
 case atStart => exact ⟨0, Nat.zero_le _, rfl, fun j hj h => absurd h (Nat.not_lt_zero _), Below.refl _ _⟩
 case round =>
  obtain ⟨k, hk, rfl, hn, hB⟩ := hrel
  have HN : Hid (∀ j (hj : j < fs.length), j < k → fs[j].name ≠ s) := hn
  clear hn
  have hBw := one_below hB
  obtain ⟨x0, x1⟩ := box2 hB
  by_cases hlt : k < fs.length
  ·obtain ⟨b, off, rfl, hc⟩ := HFC.out (by omega)
   obtain ⟨vp, vb, ⟨d0, d1, d2⟩, -, -⟩ := (hc.below hBw) k hlt
   by_cases hs : fs[k].name = s
   ·have HR : Hid (fnumI fs s = k) := fnumI_some (fnum_at hlt (fun j hj => HN.out j (by omega) hj) hs)
    rw [hs] at d0
    clear hc hs
    go_wp2_with fail
    go_ret
    exact ⟨ret_int HR.out.symm, hBw⟩
   ·have HS : Hid (∀ j (hj : j < fs.length), j < k + 1 → fs[j].name ≠ s) := fun j hj h => by
     by_cases e : j = k
     ·subst e; exact hs
     ·exact HN.out j hj (by omega)
    clear hc
    have hs' := ne_list hs
    generalize fs[k].name = fn at d0 hs hs'
    go_wp2_with fail
    go_roundw
    case rel => exact ⟨k + 1, by omega, by go_num, HS.out, hB⟩
    case measure => simp [RowKit.intOf]; omega
  ·have HR : Hid (fnumI fs s = -1) := fnumI_none (fnum_no (fun j hj => HN.out j hj (by omega)))
   go_wp2_with fail
   go_ret
   exact ⟨ret_int HR.out.symm, hBw⟩
end
section
open Go.RowKit
theorem drop_cons2 {α : Type} (l : List α) (j : Nat) (h : j < l.length) : l.drop j = l[j] :: l.drop (j + 1) := (List.getElem_cons_drop h).symm
theorem drop_take_2 {α : Type} (l : List α) (i j : Nat) : (l.take (i + j)).drop i = (l.drop i).take j := by
 rw [List.drop_take]; congr 1; omega
theorem drop_take_3 {α : Type} (l : List α) (k i j : Nat) : (l.take (k + i + j)).drop (k + i) = ((l.drop k).take (i + j)).drop i := by
 rw [drop_take_2, drop_take_2, List.drop_drop]
structure TrV (w : World) (t : Tr) (vg vf : Value) : Prop where
 g : Globs w vg t.globals
 f : Funcs w vf t.funcs
theorem TrV.below {w w' : World} {t : Tr} {vg vf : Value} (h : TrV w t vg vf) (hb : Below w.heap.size w w') : TrV w' t vg vf := ⟨h.g.below hb, h.f.below hb⟩
def L3Block (n : Nat) : Prop := ∀ (t : Tr) (vg vf vb vs vt : Value) (ss : List St) (a : Int) (sc tk : List ByteArray) (w : World), ss.length ≤ n → TrV w t vg vf → Stmts w vb ss → fitB ss = true → (∀ s ∈ ss, smallS s) → Strs w vs sc → Strs w vt tk → t.globals.length ≤ 1048576 → t.funcs.length ≤ 1048576 →
 sc.length + ss.length ≤ 800000 → tk.length + ss.length ≤ 800000 → 0 ≤ a → a + ss.length ≤ 800000 →
 Calls Tryd.prog 67 #[.agg #[vg, vf], vb, .int .i64 a, vs, vt] w fun e w' => ∃ vt', e = .returned (.tuple #[.int .i64 (blkE t ss a sc tk).1, .int .i64 (blkE t ss a sc tk).2.1, vt']) ∧ Strs w' vt' (blkE t ss a sc tk).2.2 ∧ Below w.heap.size w w'
theorem Strs.shape {w : World} {v : Value} {us : List ByteArray} (h : Strs w v us) : ∃ a c, v = .slice a us.length c := by
 obtain ⟨a, c, rfl, -⟩ := h
 exact ⟨a, c, rfl⟩
theorem box6M {M : Nat} {w w' : World} {t : TypeId} {x0 x1 x2 x3 x4 x5 : Value} (hM : M = w.heap.size) (h : Below (M + 1) (w.alloc (.cells #[x0, x1, x2, x3, x4, x5] t)) w') :
  w'.cell? ⟨M, 0, none⟩ = some x0 ∧ w'.cell? ⟨M, 1, none⟩ = some x1 ∧ w'.cell? ⟨M, 2, none⟩ = some x2 ∧ w'.cell? ⟨M, 3, none⟩ = some x3 ∧ w'.cell? ⟨M, 4, none⟩ = some x4 ∧ w'.cell? ⟨M, 5, none⟩ = some x5 := by
 subst hM; exact box6 h
end
section
open Go.RowKit
set_option maxRecDepth 100000 in
set_option maxHeartbeats 2000000 in
theorem l3in_any (xs : List ByteArray) (v : Value) (s : ByteArray) (w : World) (hl : xs.length ≤ 10000000) (hx : Strs w v xs) :
  Calls Tryd.prog 65 #[v, .string s] w fun e w' => e = .returned (.bool (inS xs s)) ∧ Below w.heap.size w w' := by
 obtain ⟨a, c, rfl, -, -, hc⟩ := hx
 have HC : Hid (0 < xs.length → ∃ b off, a = some ⟨b, off, none⟩ ∧ StrsC w b off xs) := hc
 clear hc
 go_enter Tryd.func65, Tryd.ntmps65
 go_wp2_with fail
 go_loopw [5] (fun i wr => ∃ k : Nat, k ≤ xs.length ∧ i = .int .i64 k ∧ (∀ j (hj : j < xs.length), j < k → xs[j] ≠ s) ∧ Below w.heap.size w wr) (fun i _ => xs.length - (RowKit.intOf i).toNat)
 case atStart => exact ⟨0, Nat.zero_le _, rfl, fun j hj h => absurd h (Nat.not_lt_zero _), Below.refl _ _⟩
 case round =>
  obtain ⟨k, hk, rfl, hn, hB⟩ := hrel
  have HN : Hid (∀ j (hj : j < xs.length), j < k → xs[j] ≠ s) := hn
  clear hn
  by_cases hlt : k < xs.length
  ·obtain ⟨b, off, rfl, hc⟩ := HC.out (by omega)
   have d0 := (hc.below hB) k hlt
   by_cases hs : xs[k] = s
   ·have HR : Hid (inS xs s = true) := inS_at hlt hs
    rw [hs] at d0
    clear hc hs
    go_wp2_with fail
    go_ret
    exact ⟨ret_bool HR.out.symm, hB⟩
   ·have HS : Hid (∀ j (hj : j < xs.length), j < k + 1 → xs[j] ≠ s) := fun j hj h => by
     by_cases e : j = k
     ·subst e; exact hs
     ·exact HN.out j hj (by omega)
    clear hc
    have hs' := ne_list hs
    generalize xs[k] = fn at d0 hs hs'
    go_wp2_with fail
    go_roundw
    case rel => exact ⟨k + 1, by omega, by go_num, HS.out, hB⟩
    case measure => simp [RowKit.intOf]; omega
  ·have HR : Hid (inS xs s = false) := inS_no (fun j hj => HN.out j hj (by omega))
   go_wp2_with fail
   go_ret
   exact ⟨ret_bool HR.out.symm, hB⟩
set_option maxRecDepth 100000 in
set_option maxHeartbeats 2000000 in
theorem l3global_any (gs : List Gl) (vg vf : Value) (s : ByteArray) (w : World) (hl : gs.length ≤ 1048576) (hg : Globs w vg gs) :
  Calls Tryd.prog 66 #[.agg #[vg, vf], .string s] w fun e w' => e = .returned (.int .i64 (globI gs s)) ∧ Below w.heap.size w w' := by
 obtain ⟨ag, cg, rfl, -, -, hgc⟩ := hg
 have HGC : Hid (0 < gs.length → ∃ b off, ag = some ⟨b, off, none⟩ ∧ GlobsC w b off gs) := hgc
 clear hgc
 go_enter Tryd.func66, Tryd.ntmps66
 go_wp2_with fail
 go_loopw [5] (fun i wr => ∃ k : Nat, k ≤ gs.length ∧ i = .int .i64 k ∧ (∀ j (hj : j < gs.length), j < k → gs[j].name ≠ s) ∧ Below (w.heap.size + 1) (w.alloc (.cells #[.slice ag gs.length cg, vf] 41)) wr) (fun i _ => gs.length - (RowKit.intOf i).toNat)
 case atStart => exact ⟨0, Nat.zero_le _, rfl, fun j hj h => absurd h (Nat.not_lt_zero _), Below.refl _ _⟩
 case round =>
  obtain ⟨k, hk, rfl, hn, hB⟩ := hrel
  have HN : Hid (∀ j (hj : j < gs.length), j < k → gs[j].name ≠ s) := hn
  clear hn
  have hBw := one_below hB
  obtain ⟨x0, x1⟩ := box2 hB
  by_cases hlt : k < gs.length
  ·obtain ⟨b, off, rfl, hc⟩ := HGC.out (by omega)
   obtain ⟨d0, d1⟩ := (hc.below hBw) k hlt
   by_cases hs : gs[k].name = s
   ·have HR : Hid (globI gs s = gs[k].size) := globI_at hlt (fun j hj => HN.out j (by omega) hj) hs
    rw [hs] at d0
    clear hc hs
    generalize gs[k].size = z at d1 HR
    go_wp2_with fail
    go_ret
    exact ⟨ret_int HR.out.symm, hBw⟩
   ·have HS : Hid (∀ j (hj : j < gs.length), j < k + 1 → gs[j].name ≠ s) := fun j hj h => by
     by_cases e : j = k
     ·subst e; exact hs
     ·exact HN.out j hj (by omega)
    clear hc d1
    have hs' := ne_list hs
    generalize gs[k].name = fn at d0 hs hs'
    go_wp2_with fail
    go_roundw
    case rel => exact ⟨k + 1, by omega, by go_num, HS.out, hB⟩
    case measure => simp [RowKit.intOf]; omega
  ·have HR : Hid (globI gs s = -1) := globI_no (fun j hj => HN.out j hj (by omega))
   go_wp2_with fail
   go_ret
   exact ⟨ret_int HR.out.symm, hBw⟩
theorem useE_of {gs : List Gl} {scope : List ByteArray} {s : ByteArray} {arr : Bool} {z : Int} (h : (if inS scope s then 0 else globI gs s) = z) : useE gs scope s arr = if z < 0 then 4 else if decide (z > 0) = arr then 0 else 5 := by
 unfold useE
 rw [h]
set_option maxRecDepth 100000 in
set_option maxHeartbeats 2000000 in
theorem l3use_any (gs : List Gl) (scope : List ByteArray) (vg vf vs : Value) (s : ByteArray) (arr : Bool) (w : World) (hl : gs.length ≤ 1048576) (hsl : scope.length ≤ 10000000) (hf : ∃ a n c, vf = .slice a n c) (hg : Globs w vg gs) (hs : Strs w vs scope) :
  Calls Tryd.prog 82 #[.agg #[vg, vf], vs, .string s, .bool arr] w fun e w' => e = .returned (.int .i64 (useE gs scope s arr)) ∧ Below w.heap.size w w' := by
 have HG : Hid (Globs w vg gs) := hg
 have HS : Hid (Strs w vs scope) := hs
 obtain ⟨af, nf, cf, rfl⟩ := hf
 obtain ⟨ag, cg, rfl, -, -, -⟩ := hg
 obtain ⟨az, cz, rfl, -, -, -⟩ := hs
 go_enter Tryd.func82, Tryd.ntmps82
 go_wp2_with fail
 have hA : Below w.heap.size w (w.alloc (.cells #[.slice ag gs.length cg, .slice af nf cf] 41)) := (Below.refl _ _).alloc (Nat.le_refl _) _
 refine (l3in_any scope _ s _ hsl (HS.out.below hA)).mono ?_
 rintro e w1 ⟨rfl, hb1⟩
 simp only [World.size_alloc] at hb1
 have hB1 := one_below hb1
 obtain ⟨x0, x1⟩ := box2 hb1
 by_cases hin : inS scope s = true
 ·have HU : Hid (useE gs scope s arr = if arr = false then 0 else 5) := by
   show _ = _
   rw [useE_of (show (if inS scope s = true then (0 : Int) else globI gs s) = 0 by rw [if_pos hin])]
   cases arr <;> rfl
  rw [hin]
  clear hin
  cases arr
  ·go_wp2_with fail
   go_ret
   exact ⟨ret_int HU.out.symm, hB1⟩
  ·go_wp2_with fail
   go_ret
   exact ⟨ret_int HU.out.symm, hB1⟩
 ·have hin' : inS scope s = false := by simpa using hin
  have HU : Hid (useE gs scope s arr = if globI gs s < 0 then 4 else if decide (globI gs s > 0) = arr then 0 else 5) := useE_of (by rw [if_neg hin])
  rw [hin']
  clear hin hin'
  go_wp2_with fail
  refine (l3global_any gs _ _ s _ hl (HG.out.below hB1)).mono ?_
  rintro e w2 ⟨rfl, hb2⟩
  have hB2 := hB1.trans (hb2.mono hB1.size)
  generalize globI gs s = z at HU ⊢
  clear x0 x1 hb1 hb2 hA
  by_cases h0 : z < 0
  ·have HU2 : Hid (useE gs scope s arr = 4) := by show _ = _; rw [HU.out, if_pos h0]
   clear HU
   go_wp2_with fail
   go_ret
   exact ⟨ret_int HU2.out.symm, hB2⟩
  ·by_cases h1 : z > 0
   ·have HU2 : Hid (useE gs scope s arr = if arr = true then 0 else 5) := by show _ = _; rw [HU.out, if_neg h0, decide_eq_true h1]; cases arr <;> rfl
    clear HU
    cases arr
    ·go_wp2_with fail
     go_ret
     exact ⟨ret_int HU2.out.symm, hB2⟩
    ·go_wp2_with fail
     go_ret
     exact ⟨ret_int HU2.out.symm, hB2⟩
   ·obtain rfl : z = 0 := by omega
    have HU2 : Hid (useE gs scope s arr = if arr = false then 0 else 5) := by show _ = _; rw [HU.out]; cases arr <;> rfl
    clear HU h0 h1
    cases arr
    ·go_wp2_with fail
     go_ret
     exact ⟨ret_int HU2.out.symm, hB2⟩
    ·go_wp2_with fail
     go_ret
     exact ⟨ret_int HU2.out.symm, hB2⟩
end
section
open Go.RowKit
theorem two_boxC {w W1 : World} {x0 x1 : Value} (h : W1 = (w.alloc (.cells #[x0, x1] 41)).alloc (.cells #[.int .i64 0, .int .i64 0, .int .i64 0] 62)) :
  ∀ W, Below (w.heap.size + 2) W1 W → (W.cell? ⟨w.heap.size, 0, none⟩ = some x0 ∧ W.cell? ⟨w.heap.size, 1, none⟩ = some x1) ∧ (W.cell? ⟨w.heap.size + 1, 0, none⟩ = some (.int .i64 0) ∧ W.cell? ⟨w.heap.size + 1, 1, none⟩ = some (.int .i64 0) ∧ W.cell? ⟨w.heap.size + 1, 2, none⟩ = some (.int .i64 0)) ∧ (∀ o, W.frozen? ⟨w.heap.size + 1, o, none⟩ = false) ∧ Below w.heap.size w W ∧ w.heap.size + 2 ≤ W.heap.size := by
 intro W hW
 have hA : Below w.heap.size w W1 := by rw [h]; exact ((Below.refl _ _).alloc (Nat.le_refl _) _).alloc (by simp) _
 have hs : W1.heap.size = w.heap.size + 2 := by rw [h]; simp
 have c : ∀ o, W.cell? ⟨w.heap.size + 1, o, none⟩ = (#[.int .i64 0, .int .i64 0, .int .i64 0] : Array Value)[o]? := fun o => (hW.cell (p := ⟨w.heap.size + 1, o, none⟩) (by simp)).trans (by rw [h]; exact World.cell?_alloc_at _ _ _ _ (by simp))
 have d : ∀ o, W.cell? ⟨w.heap.size, o, none⟩ = (#[x0, x1] : Array Value)[o]? := fun o => (hW.cell (p := ⟨w.heap.size, o, none⟩) (by simp)).trans (by rw [h, World.cell?_alloc_lt _ _ ⟨w.heap.size, o, none⟩ (by simp)]; exact World.cell?_alloc_at _ _ _ _ rfl)
 refine ⟨⟨d 0, d 1⟩, ⟨c 0, c 1, c 2⟩, fun o => ?_, hA.trans (hW.mono (by omega)), by have := hW.size; omega⟩
 refine (hW.frozen (p := ⟨w.heap.size + 1, o, none⟩) (by simp)).trans ?_
 rw [h]
 exact World.frozen?_alloc_at _ _ _ _ (by simp)
set_option maxRecDepth 100000 in
set_option maxHeartbeats 4000000 in
theorem l3names_any (t : Tr) (vg vf : Value) (w : World) (hgl : t.globals.length ≤ 1000) (hfl : t.funcs.length ≤ 1000) (hg : Globs w vg t.globals) (hf : Funcs w vf t.funcs) :
  Calls Tryd.prog 49 #[.agg #[vg, vf]] w fun e w' => e = .returned (resV (namesE t)) ∧ Below w.heap.size w w' := by
 obtain ⟨RES, hRES⟩ : ∃ R, R = namesE t := ⟨_, rfl⟩
 rw [← hRES]
 have HRES : Hid (RES = namesE t) := hRES
 have HF : Hid (Funcs w vf t.funcs) := hf
 obtain ⟨ag, cg, rfl, -, -, hgc⟩ := hg
 obtain ⟨af, cf, rfl, -, -, hfc⟩ := hf
 have HGC : Hid (0 < t.globals.length → ∃ b off, ag = some ⟨b, off, none⟩ ∧ GlobsC w b off t.globals) := hgc
 have HFC : Hid (0 < t.funcs.length → ∃ b off, af = some ⟨b, off, none⟩ ∧ FuncsC w b off t.funcs) := hfc
 obtain ⟨i0, hi, hz0, hz1, hz2⟩ := info_parts info_str
 obtain ⟨W1, hW1⟩ : ∃ W1, W1 = (w.alloc (.cells #[.slice ag t.globals.length cg, .slice af t.funcs.length cf] 41)).alloc (.cells #[.int .i64 0, .int .i64 0, .int .i64 0] 62) := ⟨_, rfl⟩
 have HBx : Hid (∀ W, Below (w.heap.size + 2) W1 W → (W.cell? ⟨w.heap.size, 0, none⟩ = some (.slice ag t.globals.length cg) ∧ W.cell? ⟨w.heap.size, 1, none⟩ = some (.slice af t.funcs.length cf)) ∧ (W.cell? ⟨w.heap.size + 1, 0, none⟩ = some (.int .i64 0) ∧ W.cell? ⟨w.heap.size + 1, 1, none⟩ = some (.int .i64 0) ∧ W.cell? ⟨w.heap.size + 1, 2, none⟩ = some (.int .i64 0)) ∧ (∀ o, W.frozen? ⟨w.heap.size + 1, o, none⟩ = false) ∧ Below w.heap.size w W ∧ w.heap.size + 2 ≤ W.heap.size) := two_boxC hW1
 have hs1 : W1.heap.size = w.heap.size + 2 := by rw [hW1]; simp
 have HR0 : Hid (SRow (w.heap.size + 2) (W1.alloc (.cells #[] 9)) (.slice (some ⟨w.heap.size + 1 + 1, 0, none⟩) 0 0) []) := by
  have := srow_lit W1 (w.heap.size + 2) (by omega)
  rw [hs1] at this
  exact this
 have HB0 : Hid (Below (w.heap.size + 2) W1 (W1.alloc (.cells #[] 9))) := (Below.refl _ _).alloc (by omega) _
 clear hRES hgc hfc
 go_enter Tryd.func49, Tryd.ntmps49
 go_wp2_with fail
 rw [← hW1]
 clear hW1 hs1
 go_loopw [3, 4] (fun sv i wr => ∃ (k : Nat), k ≤ t.globals.length ∧ i = .int .i64 k ∧ SRow (w.heap.size + 2) wr sv ((t.globals.take k).map (·.name)) ∧ dupG [] t.globals = dupG ((t.globals.take k).map (·.name)) (t.globals.drop k) ∧ Below (w.heap.size + 2) W1 wr) (fun _ i _ => t.globals.length - (RowKit.intOf i).toNat)
 case atStart => exact ⟨0, Nat.zero_le _, rfl, by simpa using HR0.out, by simp, HB0.out⟩
 case round =>
  clear HR0 HB0
  obtain ⟨k, hk, rfl, hR, hd, hB⟩ := hrel
  obtain ⟨a3, c3, rfl⟩ := hR.shape
  have HR : Hid (SRow (w.heap.size + 2) wr (.slice a3 ((t.globals.take k).map (·.name)).length c3) ((t.globals.take k).map (·.name))) := hR
  have HD : Hid (dupG [] t.globals = dupG ((t.globals.take k).map (·.name)) (t.globals.drop k)) := hd
  obtain ⟨⟨x0, x1⟩, ⟨r0, r1, r2⟩, rz, hBw, hsz⟩ := HBx.out wr hB
  have z0 := rz 0
  have z1 := rz 1
  have z2 := rz 2
  have hle : ((t.globals.take k).map (·.name)).length = k := by simp; omega
  rw [hle] at HR ⊢
  clear hR hd rz
  by_cases hlt : k < t.globals.length
  ·obtain ⟨b, off, rfl, hc⟩ := HGC.out (by omega)
   obtain ⟨c0, -⟩ := (hc.below hBw) k hlt
   have hlb : b < wr.heap.size := World.block_lt_of_cell? _ _ c0
   have HD2 : Hid (dupG [] t.globals = dupG ((t.globals.take k).map (·.name)) (t.globals[k] :: t.globals.drop (k + 1))) := by show _ = _; rw [HD.out, drop_cons_ _ _ hlt]
   have HTk : Hid (t.globals.take (k + 1) = t.globals.take k ++ [t.globals[k]]) := take_succ _ _ hlt
   have HSt : Hid (Strs wr (.slice a3 k c3) ((t.globals.take k).map (·.name))) := HR.out.strs (by rw [hle]; omega)
   clear hc HD
   generalize t.globals[k] = p at c0 HD2 HTk
   generalize hsn : (t.globals.take k).map (·.name) = seen at HR HD2 HSt hle
   have HSn : Hid ((t.globals.take k).map (·.name) = seen) := hsn
   clear hsn
   have HIn : Hid (Calls Tryd.prog 65 #[.slice a3 k c3, .string p.name] wr fun e w' => e = .returned (.bool (inS seen p.name)) ∧ Below wr.heap.size wr w') := l3in_any _ _ p.name wr (by rw [hle]; omega) HSt.out
   go_wp2_with fail
   refine HIn.out.mono ?_
   rintro e w2 ⟨rfl, hb2⟩
   have hB2 : Below (w.heap.size + 2) W1 w2 := hB.trans (hb2.mono hsz)
   have d0 := (hb2.cell (p := ⟨b, off + k * 2, none⟩) hlb).trans c0
   have HR2 : Hid (SRow (w.heap.size + 2) w2 (.slice a3 k c3) seen) := HR.out.below hb2
   clear x0 x1 r0 r1 r2 z0 z1 z2 c0 hB hBw hb2 HIn HSt HR
   obtain ⟨⟨x0, x1⟩, ⟨r0, r1, r2⟩, rz, hBw, hsz2⟩ := HBx.out w2 hB2
   have z0 := rz 0
   have z1 := rz 1
   have z2 := rz 2
   clear rz
   cases hx : inS seen p.name with
   | true =>
    have HE : Hid (RES = (2, -1, -1)) := by
     show _ = _
     rw [HRES.out]
     unfold namesE
     rw [if_pos (by rw [HD2.out]; exact dupG_hit hx)]
    clear hx
    go_wp2_with fail
    obtain ⟨t0, t1, t2⟩ := set3 (u0 := .int .i64 2) (u1 := .int .i64 (-1)) (u2 := .int .i64 (-1)) r0 r1 r2
    refine bodyPost_ret (v := .agg #[.int .i64 2, .int .i64 (-1), .int .i64 (-1)]) (by simp [results, Tryd.results49, go_sem, t0, t1, t2]) rfl ⟨ret_val (by rw [HE.out]; rfl), ?_⟩
    exact ((hBw.setCell (p := ⟨w.heap.size + 1, 0, none⟩) (by simp) _).setCell (p := ⟨w.heap.size + 1, 1, none⟩) (by simp) _).setCell (p := ⟨w.heap.size + 1, 2, none⟩) (by simp) _
   | false =>
    have HDn : Hid (dupG [] t.globals = dupG ((t.globals.take (k + 1)).map (·.name)) (t.globals.drop (k + 1))) := by show _ = _; rw [HD2.out, dupG_step hx, HTk.out, ← HSn.out]; simp
    have HNn : Hid (seen ++ [p.name] = (t.globals.take (k + 1)).map (·.name)) := by show _ = _; rw [HTk.out, ← HSn.out]; simp
    clear hx
    go_wp2_with (at_builtin; refine wpList_appF rfl _ _ _ rfl (w.heap.size + 2) 9 i0 _ 1 16 Tryd.underlying36 hi hz0 hz1 hz2 rfl (by decide) _ k (seen.map Value.string) rfl (by have := HR2.out.below ((Below.refl _ _).alloc (Nat.le_refl _) (.cells #[.string p.name] 9)); unfold SRow at this; rw [hle] at this; exact this) ⟨w2.heap.size, 0, none⟩ 1 1 [.string p.name] rfl rfl (cell_one_new _ _ _) (by simp [Value.oneCell']) (by omega) (by decide) (by simp; omega) ?_)
    intro v9 w9 ho9 hg9 hf9
    have HR9 : Hid (SRow (w.heap.size + 2) w9 v9 ((t.globals.take (k + 1)).map (·.name))) := by
     show World.ownsRow _ _ _ _ _ _ _
     rw [← HNn.out, List.length_append, hle, List.map_append]
     exact ho9
    have hB9 : Below (w.heap.size + 2) W1 w9 := (hB2.alloc hsz2 _).grown hg9 (by simp; omega) (fun g hg => (World.ownsRow.lt HR2.out g hg).1)
    obtain ⟨a9, c9, rfl⟩ := HR9.out.shape
    have hle9 : ((t.globals.take (k + 1)).map (·.name)).length = k + 1 := by simp; omega
    rw [hle9] at HR9 ⊢
    clear ho9 hg9 hf9 d0 x0 x1 r0 r1 r2 z0 z1 z2
    go_wp2_with fail
    go_roundw
    case rel => exact ⟨k + 1, by omega, by go_num, HR9.out, HDn.out, hB9⟩
    case measure => simp [RowKit.intOf]; omega
  ·have hkk : k = t.globals.length := by omega
   subst hkk
   have HDG : Hid (dupG [] t.globals = false) := by show _ = _; rw [HD.out]; simp [dupG]
   have HRg : Hid (SRow (w.heap.size + 2) wr (.slice a3 t.globals.length c3) (t.globals.map (·.name))) := by
    have := HR.out
    rw [List.take_length] at this
    exact this
   clear HR HD hle r0 r1 r2 z0 z1 z2
   go_wp2_with fail
   clear x0 x1 hBw hsz
   go_loopw [3, 5] (fun sv i w2 => ∃ (k : Nat), k ≤ t.funcs.length ∧ i = .int .i64 k ∧ SRow (w.heap.size + 2) w2 sv (t.globals.map (·.name) ++ (t.funcs.take k).map (·.name)) ∧ dupF (t.globals.map (·.name)) 0 t.funcs = dupF (t.globals.map (·.name) ++ (t.funcs.take k).map (·.name)) k (t.funcs.drop k) ∧ Below (w.heap.size + 2) W1 w2) (fun _ i _ => t.funcs.length - (RowKit.intOf i).toNat)
   case atStart => exact ⟨0, Nat.zero_le _, rfl, by simpa using HRg.out, by simp, hB⟩
   case round =>
    clear HRg hB
    obtain ⟨k, hk, rfl, hR, hd, hB⟩ := hrel
    obtain ⟨a3, c3, rfl⟩ := hR.shape
    have HR : Hid (SRow (w.heap.size + 2) wr (.slice a3 (t.globals.map (·.name) ++ (t.funcs.take k).map (·.name)).length c3) (t.globals.map (·.name) ++ (t.funcs.take k).map (·.name))) := hR
    have HD : Hid (dupF (t.globals.map (·.name)) 0 t.funcs = dupF (t.globals.map (·.name) ++ (t.funcs.take k).map (·.name)) k (t.funcs.drop k)) := hd
    obtain ⟨⟨x0, x1⟩, ⟨r0, r1, r2⟩, rz, hBw, hsz⟩ := HBx.out wr hB
    have z0 := rz 0
    have z1 := rz 1
    have z2 := rz 2
    have hle : (t.globals.map (·.name) ++ (t.funcs.take k).map (·.name)).length = t.globals.length + k := by simp; omega
    rw [hle] at HR ⊢
    clear hR hd rz
    by_cases hlt : k < t.funcs.length
    ·obtain ⟨b, off, rfl, hc⟩ := HFC.out (by omega)
     obtain ⟨vp, vb, ⟨c0, -⟩, -⟩ := (hc.below hBw) k hlt
     have hlb : b < wr.heap.size := World.block_lt_of_cell? _ _ c0
     have HD2 : Hid (dupF (t.globals.map (·.name)) 0 t.funcs = dupF (t.globals.map (·.name) ++ (t.funcs.take k).map (·.name)) k (t.funcs[k] :: t.funcs.drop (k + 1))) := by show _ = _; rw [HD.out, drop_cons_ _ _ hlt]
     have HTk : Hid (t.funcs.take (k + 1) = t.funcs.take k ++ [t.funcs[k]]) := take_succ _ _ hlt
     have HSt : Hid (Strs wr (.slice a3 (t.globals.length + k) c3) (t.globals.map (·.name) ++ (t.funcs.take k).map (·.name))) := HR.out.strs (by rw [hle]; omega)
     clear hc HD
     generalize t.funcs[k] = p at c0 HD2 HTk
     generalize hsn : t.globals.map (·.name) ++ (t.funcs.take k).map (·.name) = seen at HR HD2 HSt hle
     have HSn : Hid (t.globals.map (·.name) ++ (t.funcs.take k).map (·.name) = seen) := hsn
     clear hsn
     have HIn : Hid (Calls Tryd.prog 65 #[.slice a3 (t.globals.length + k) c3, .string p.name] wr fun e w' => e = .returned (.bool (inS seen p.name)) ∧ Below wr.heap.size wr w') := l3in_any _ _ p.name wr (by rw [hle]; omega) HSt.out
     go_wp2_with fail
     refine HIn.out.mono ?_
     rintro e w2 ⟨rfl, hb2⟩
     have hB2 : Below (w.heap.size + 2) W1 w2 := hB.trans (hb2.mono hsz)
     have d0 := (hb2.cell (p := ⟨b, off + k * 3, none⟩) hlb).trans c0
     have HR2 : Hid (SRow (w.heap.size + 2) w2 (.slice a3 (t.globals.length + k) c3) seen) := HR.out.below hb2
     clear x0 x1 r0 r1 r2 z0 z1 z2 c0 hB hBw hb2 HIn HSt HR
     obtain ⟨⟨x0, x1⟩, ⟨r0, r1, r2⟩, rz, hBw, hsz2⟩ := HBx.out w2 hB2
     have z0 := rz 0
     have z1 := rz 1
     have z2 := rz 2
     clear rz
     cases hx : inS seen p.name with
     | true =>
      have HE : Hid (RES = (2, (k : Int), -1)) := by
       show _ = _
       rw [HRES.out]
       unfold namesE
       rw [if_neg (by rw [HDG.out]; simp), HD2.out, dupF_hit hx]
      clear hx
      go_wp2_with fail
      obtain ⟨t0, t1, t2⟩ := set3 (u0 := .int .i64 2) (u1 := .int .i64 (k : Int)) (u2 := .int .i64 (-1)) r0 r1 r2
      refine bodyPost_ret (v := .agg #[.int .i64 2, .int .i64 (k : Int), .int .i64 (-1)]) (by simp [results, Tryd.results49, go_sem, t0, t1, t2]) rfl ⟨ret_val (by rw [HE.out]; rfl), ?_⟩
      exact ((hBw.setCell (p := ⟨w.heap.size + 1, 0, none⟩) (by simp) _).setCell (p := ⟨w.heap.size + 1, 1, none⟩) (by simp) _).setCell (p := ⟨w.heap.size + 1, 2, none⟩) (by simp) _
     | false =>
      have HNn : Hid (seen ++ [p.name] = t.globals.map (·.name) ++ (t.funcs.take (k + 1)).map (·.name)) := by show _ = _; rw [HTk.out, ← HSn.out]; simp
      have HDn : Hid (dupF (t.globals.map (·.name)) 0 t.funcs = dupF (t.globals.map (·.name) ++ (t.funcs.take (k + 1)).map (·.name)) ((k + 1 : Nat) : Int) (t.funcs.drop (k + 1))) := by show _ = _; rw [HD2.out, dupF_step hx, HNn.out]; simp
      clear hx
      go_wp2_with (at_builtin; refine wpList_appF rfl _ _ _ rfl (w.heap.size + 2) 9 i0 _ 1 16 Tryd.underlying36 hi hz0 hz1 hz2 rfl (by decide) _ (t.globals.length + k) (seen.map Value.string) rfl (by have := HR2.out.below ((Below.refl _ _).alloc (Nat.le_refl _) (.cells #[.string p.name] 9)); unfold SRow at this; rw [hle] at this; exact this) ⟨w2.heap.size, 0, none⟩ 1 1 [.string p.name] rfl rfl (cell_one_new _ _ _) (by simp [Value.oneCell']) (by omega) (by decide) (by simp; omega) ?_)
      intro v9 w9 ho9 hg9 hf9
      have HR9 : Hid (SRow (w.heap.size + 2) w9 v9 (t.globals.map (·.name) ++ (t.funcs.take (k + 1)).map (·.name))) := by
       show World.ownsRow _ _ _ _ _ _ _
       rw [← HNn.out, List.length_append, hle, List.map_append]
       exact ho9
      have hB9 : Below (w.heap.size + 2) W1 w9 := (hB2.alloc hsz2 _).grown hg9 (by simp; omega) (fun g hg => (World.ownsRow.lt HR2.out g hg).1)
      obtain ⟨a9, c9, rfl⟩ := HR9.out.shape
      have hle9 : (t.globals.map (·.name) ++ (t.funcs.take (k + 1)).map (·.name)).length = t.globals.length + k + 1 := by simp; omega
      rw [hle9] at HR9 ⊢
      clear ho9 hg9 hf9 d0 x0 x1 r0 r1 r2 z0 z1 z2
      go_wp2_with fail
      go_roundw
      case rel => exact ⟨k + 1, by omega, by go_num, HR9.out, HDn.out, hB9⟩
      case measure => simp [RowKit.intOf]; omega
    ·have HDF : Hid (dupF (t.globals.map (·.name)) 0 t.funcs = none) := by
      show _ = _
      have hkk : k = t.funcs.length := by omega
      rw [HD.out, hkk, List.drop_length]; rfl
     have HRm : Hid (RES = match fnum t.funcs mainS with | none => (3, -1, -1) | some m => if (t.funcs.getD m ⟨⟨#[]⟩, [], []⟩).params.length > 0 then (3, -1, -1) else (0, -1, -1)) := by
      show _ = _
      rw [HRES.out]
      unfold namesE
      rw [if_neg (by rw [HDG.out]; simp), HDF.out]
      rfl
     have HFu : Hid (Calls Tryd.prog 25 #[.agg #[.slice ag t.globals.length cg, .slice af t.funcs.length cf], .string ⟨#[109, 97, 105, 110]⟩] wr fun e w' => e = .returned (.int .i64 (fnumI t.funcs mainS)) ∧ Below wr.heap.size wr w') := l3func_any t.funcs _ _ mainS wr (by omega) (HF.out.below hBw)
     clear HR HD hle r0 r1 r2 z0 z1 z2
     go_wp2_with fail
     refine HFu.out.mono ?_
     rintro e w2 ⟨rfl, hb2⟩
     have hB2 : Below (w.heap.size + 2) W1 w2 := hB.trans (hb2.mono hsz)
     clear x0 x1 hB hBw hb2 HFu hsz
     obtain ⟨⟨x0, x1⟩, ⟨r0, r1, r2⟩, rz, hBw, hsz2⟩ := HBx.out w2 hB2
     have z0 := rz 0
     have z1 := rz 1
     have z2 := rz 2
     clear rz
     cases hm : fnum t.funcs mainS with
     | none =>
      have HE : Hid (RES = (3, -1, -1)) := by show _ = _; rw [HRm.out, hm]
      rw [fnumI_none hm]
      clear hm HRm
      go_wp2_with fail
      obtain ⟨t0, t1, t2⟩ := set3 (u0 := .int .i64 3) (u1 := .int .i64 (-1)) (u2 := .int .i64 (-1)) r0 r1 r2
      refine bodyPost_ret (v := .agg #[.int .i64 3, .int .i64 (-1), .int .i64 (-1)]) (by simp [results, Tryd.results49, go_sem, t0, t1, t2]) rfl ⟨ret_val (by rw [HE.out]; rfl), ?_⟩
      exact ((hBw.setCell (p := ⟨w.heap.size + 1, 0, none⟩) (by simp) _).setCell (p := ⟨w.heap.size + 1, 1, none⟩) (by simp) _).setCell (p := ⟨w.heap.size + 1, 2, none⟩) (by simp) _
     | some m =>
      have hml := fnum_lt hm
      obtain ⟨b, off, rfl, hc⟩ := HFC.out (by omega)
      obtain ⟨vp, vb, ⟨-, c1, -⟩, ⟨ap, cp, rfl, -⟩, -⟩ := (hc.below hBw) m hml
      have he : t.funcs.getD m ⟨⟨#[]⟩, [], []⟩ = t.funcs[m] := by simp [List.getD, hml]
      rw [fnumI_some hm]
      have HRm2 : Hid (RES = if t.funcs[m].params.length > 0 then (3, -1, -1) else (0, -1, -1)) := by show _ = _; rw [HRm.out, hm]; simp only; rw [he]
      clear hm HRm hc he
      generalize t.funcs[m].params.length = np at c1 HRm2
      by_cases hnp : 0 < np
      ·have HE : Hid (RES = (3, -1, -1)) := by show _ = _; rw [HRm2.out, if_pos hnp]
       go_wp2_with fail
       obtain ⟨t0, t1, t2⟩ := set3 (u0 := .int .i64 3) (u1 := .int .i64 (-1)) (u2 := .int .i64 (-1)) r0 r1 r2
       refine bodyPost_ret (v := .agg #[.int .i64 3, .int .i64 (-1), .int .i64 (-1)]) (by simp [results, Tryd.results49, go_sem, t0, t1, t2]) rfl ⟨ret_val (by rw [HE.out]; rfl), ?_⟩
       exact ((hBw.setCell (p := ⟨w.heap.size + 1, 0, none⟩) (by simp) _).setCell (p := ⟨w.heap.size + 1, 1, none⟩) (by simp) _).setCell (p := ⟨w.heap.size + 1, 2, none⟩) (by simp) _
      ·have HE : Hid (RES = (0, -1, -1)) := by show _ = _; rw [HRm2.out, if_neg hnp]
       obtain rfl : np = 0 := by omega
       go_wp2_with fail
       obtain ⟨t0, t1, t2⟩ := set3 (u0 := .int .i64 0) (u1 := .int .i64 (-1)) (u2 := .int .i64 (-1)) r0 r1 r2
       refine bodyPost_ret (v := .agg #[.int .i64 0, .int .i64 (-1), .int .i64 (-1)]) (by simp [results, Tryd.results49, go_sem, t0, t1, t2]) rfl ⟨ret_val (by rw [HE.out]; rfl), ?_⟩
       exact ((hBw.setCell (p := ⟨w.heap.size + 1, 0, none⟩) (by simp) _).setCell (p := ⟨w.heap.size + 1, 1, none⟩) (by simp) _).setCell (p := ⟨w.heap.size + 1, 2, none⟩) (by simp) _
end
section
open Go.RowKit
theorem box3K {w w' : World} {t : TypeId} {a b c : Value} (h : Below (w.heap.size + 1) (w.alloc (.cells #[a, b, c] t)) w') :
  w'.cell? ⟨w.heap.size, 0, none⟩ = some a ∧ w'.cell? ⟨w.heap.size, 1, none⟩ = some b ∧ w'.cell? ⟨w.heap.size, 2, none⟩ = some c := by
 refine ⟨?_, ?_, ?_⟩ <;> (rw [h.cell (by simp)]; simp)
theorem nodeE_call {t : Tr} {scope : List ByteArray} {vl : Int} {nm : ByteArray} {i : Nat} (h : fnum t.funcs nm = some i) (hi : i < t.funcs.length) : nodeE t scope ⟨4, vl, nm⟩ = if ((t.funcs[i].params.length : Nat) : Int) = vl then 0 else 6 := by
 unfold nodeE
 simp only
 rw [if_neg (by omega), if_pos trivial, h]
 simp [List.getD, hi]
theorem nodeE_nocall {t : Tr} {scope : List ByteArray} {vl : Int} {nm : ByteArray} (h : fnum t.funcs nm = none) : nodeE t scope ⟨4, vl, nm⟩ = 4 := by
 unfold nodeE
 simp only
 rw [if_neg (by omega), if_pos trivial, h]
set_option maxRecDepth 100000 in
set_option maxHeartbeats 4000000 in
theorem l3expr_any (t : Tr) (scope : List ByteArray) (ns : List Nd) (vg vf vs ve : Value) (w : World) (hgl : t.globals.length ≤ 1048576) (hfl : t.funcs.length ≤ 1048576) (hsl : scope.length ≤ 10000000) (hnl : ns.length ≤ 1048576)
  (hg : Globs w vg t.globals) (hf : Funcs w vf t.funcs) (hs : Strs w vs scope) (hn : Nodes w ve ns) :
  Calls Tryd.prog 81 #[.agg #[vg, vf], vs, ve] w fun e w' => e = .returned (.int .i64 (exprE t scope ns)) ∧ Below w.heap.size w w' := by
 have HG : Hid (Globs w vg t.globals) := hg
 have HF : Hid (Funcs w vf t.funcs) := hf
 have HS : Hid (Strs w vs scope) := hs
 obtain ⟨ag, cg, rfl, -, -, -⟩ := hg
 obtain ⟨af, cf, rfl, -, -, hfc⟩ := hf
 obtain ⟨az, cz, rfl, -, -, -⟩ := hs
 obtain ⟨an, cn, rfl, -, -, hnc⟩ := hn
 have HFC : Hid (0 < t.funcs.length → ∃ b off, af = some ⟨b, off, none⟩ ∧ FuncsC w b off t.funcs) := hfc
 have HNC : Hid (0 < ns.length → ∃ b off, an = some ⟨b, off, none⟩ ∧ NodesC w b off ns) := hnc
 clear hfc hnc
 obtain ⟨ng, hng⟩ : ∃ ng, ng = t.globals.length := ⟨_, rfl⟩
 go_enter Tryd.func81, Tryd.ntmps81
 go_wp2_with fail
 clear hng
 go_loopw [7] (fun i wr => ∃ k : Nat, k ≤ ns.length ∧ i = .int .i64 k ∧ (∀ j (hj : j < ns.length), j < k → nodeE t scope ns[j] = 0) ∧ Below (w.heap.size + 1) (w.alloc (.cells #[.slice ag t.globals.length cg, .slice af t.funcs.length cf] 41)) wr) (fun i _ => ns.length - (RowKit.intOf i).toNat)
 case atStart => exact ⟨0, Nat.zero_le _, rfl, fun j hj h => absurd h (Nat.not_lt_zero _), Below.refl _ _⟩
 case round =>
  obtain ⟨k, hk, rfl, hz, hB⟩ := hrel
  have HN : Hid (∀ j (hj : j < ns.length), j < k → nodeE t scope ns[j] = 0) := hz
  clear hz
  have hBw := one_below hB
  obtain ⟨x0, x1⟩ := box2 hB
  have hxl : w.heap.size < wr.heap.size := by have := hB.size; simp at this; omega
  by_cases hlt : k < ns.length
  ·obtain ⟨b, off, rfl, hc⟩ := HNC.out (by omega)
   obtain ⟨d0, d1, d2⟩ := (hc.below hBw) k hlt
   have HZ : Hid (nodeE t scope ns[k] ≠ 0 → exprE t scope ns = nodeE t scope ns[k]) := fun h => exprE_at hlt (fun j hj => HN.out j (by omega) hj) h
   have HX : Hid (nodeE t scope ns[k] = 0 → ∀ j (hj : j < ns.length), j < k + 1 → nodeE t scope ns[j] = 0) := fun h j hj hjk => by
    by_cases e : j = k
    ·subst e; exact h
    ·exact HN.out j hj (by omega)
   clear hc HN
   generalize ns[k] = n at d0 d1 d2 HZ HX
   obtain ⟨kd, vl, nm⟩ := n
   simp only at d0 d1 d2
   have hA : Below w.heap.size w (wr.alloc (.cells #[.int .i64 kd, .int .i64 vl, .string nm] 32)) := hBw.trans (((Below.refl _ _).alloc (Nat.le_refl _) _).mono hBw.size)
   by_cases hk23 : kd = 2 ∨ kd = 3
   ·have HE : Hid (nodeE t scope ⟨kd, vl, nm⟩ = useE t.globals scope nm (decide (kd = 3))) := by
     show _ = _
     unfold nodeE
     simp only
     rw [if_pos hk23]
    rcases hk23 with rfl | rfl
    all_goals
     go_wp2_with fail
     refine (l3use_any t.globals scope _ _ _ nm _ _ hgl hsl ⟨_, _, _, rfl⟩ (HG.out.below hA) (HS.out.below hA)).mono ?_
     rintro e w2 ⟨rfl, hb2⟩
     simp only [World.size_alloc] at hb2
     obtain ⟨y0, y1, y2⟩ := box3K hb2
     have hB2 : Below (w.heap.size + 1) (w.alloc (.cells #[.slice ag t.globals.length cg, .slice af t.funcs.length cf] 41)) w2 := hB.trans ((one_below hb2).mono (by omega))
     clear d0 d1 d2 x0 x1 hA
     first
      | (have HE2 : Hid (nodeE t scope ⟨2, vl, nm⟩ = useE t.globals scope nm false) := HE.out; clear HE; generalize useE t.globals scope nm false = z at HE2 ⊢)
      | (have HE2 : Hid (nodeE t scope ⟨3, vl, nm⟩ = useE t.globals scope nm true) := HE.out; clear HE; generalize useE t.globals scope nm true = z at HE2 ⊢)
     by_cases hz : z = 0
     ·subst hz
      go_wp2_with fail
      go_roundw
      case rel => exact ⟨k + 1, by omega, by go_num, HX.out HE2.out, hB2⟩
      case measure => simp [RowKit.intOf]; omega
     ·go_wp2_with fail
      go_ret
      exact ⟨ret_int (by rw [HZ.out (by rw [HE2.out]; exact hz), HE2.out]), one_below hB2⟩
   ·by_cases hk4 : kd = 4
    ·subst hk4
     clear hk23
     go_wp2_with fail
     refine (l3func_any t.funcs _ _ nm _ hfl (HF.out.below hA)).mono ?_
     rintro e w2 ⟨rfl, hb2⟩
     simp only [World.size_alloc] at hb2
     obtain ⟨y0, y1, y2⟩ := box3K hb2
     have hB2 : Below (w.heap.size + 1) (w.alloc (.cells #[.slice ag t.globals.length cg, .slice af t.funcs.length cf] 41)) w2 := hB.trans ((one_below hb2).mono (by omega))
     clear d0 d1 d2 x0 x1 hA
     obtain ⟨x0, x1⟩ := box2 hB2
     cases hfn : fnum t.funcs nm with
     | none =>
      have HE : Hid (nodeE t scope ⟨4, vl, nm⟩ = 4) := nodeE_nocall hfn
      rw [fnumI_none hfn]
      clear hfn
      go_wp2_with fail
      go_ret
      exact ⟨ret_int (by rw [HZ.out (by rw [HE.out]; omega), HE.out]), one_below hB2⟩
     | some i =>
      have hi := fnum_lt hfn
      have HE : Hid (nodeE t scope ⟨4, vl, nm⟩ = if ((t.funcs[i].params.length : Nat) : Int) = vl then 0 else 6) := nodeE_call hfn hi
      rw [fnumI_some hfn]
      clear hfn
      obtain ⟨bf, of, rfl, hfc⟩ := HFC.out (by omega)
      obtain ⟨vp, vb, ⟨f0, f1, f2⟩, ⟨ap, cp, rfl, -⟩, -⟩ := (hfc.below (one_below hB2)) i hi
      clear hfc f0 f2
      generalize t.funcs[i].params.length = np at HE f1
      by_cases hv : (np : Int) = vl
      ·have HE2 : Hid (nodeE t scope ⟨4, vl, nm⟩ = 0) := by show _ = _; rw [HE.out, if_pos hv]
       clear HE
       subst hv
       go_wp2_with fail
       go_region
       go_wp2_with fail
       go_roundw
       case rel => exact ⟨k + 1, by omega, by go_num, HX.out HE2.out, hB2.drew⟩
       case measure => simp [RowKit.intOf]; omega
      ·have HE2 : Hid (nodeE t scope ⟨4, vl, nm⟩ = 6) := by show _ = _; rw [HE.out, if_neg hv]
       clear HE
       go_wp2_with fail
       go_region
       go_wp2_with fail
       go_ret
       exact ⟨ret_int (by rw [HZ.out (by rw [HE2.out]; omega), HE2.out]), one_below hB2.drew⟩
    ·have HE : Hid (nodeE t scope ⟨kd, vl, nm⟩ = 0) := by
      show _ = _
      unfold nodeE
      simp only
      rw [if_neg hk23, if_neg hk4]
     have h2 : ¬ kd = 2 := fun h => hk23 (.inl h)
     have h3 : ¬ kd = 3 := fun h => hk23 (.inr h)
     have b2 : (kd == 2) = false := by simpa using h2
     have b3 : (kd == 3) = false := by simpa using h3
     have b4 : (kd == 4) = false := by simpa using hk4
     clear hk23
     go_wp2_with fail
     go_roundw
     case rel => exact ⟨k + 1, by omega, by go_num, HX.out HE.out, hB.trans (((Below.refl _ _).alloc (Nat.le_refl _) _).mono (by omega))⟩
     case measure => simp [RowKit.intOf]; omega
  ·have HR : Hid (exprE t scope ns = 0) := exprE_zero (fun j hj => HN.out j hj (by omega))
   go_wp2_with fail
   go_ret
   exact ⟨ret_int HR.out.symm, hBw⟩
end
end Go.Proofs.YtolkpkklinoegaaDoor
