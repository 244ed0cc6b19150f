import Derived.Test.YtbmcnjjhgjphmaaDoorPC
import Derived.OwnWalk
import Derived.Laws.MakeOwn
namespace Go.Proofs.YtbmcnjjhgjphmaaDoor
open Go.RowKit
set_option linter.unusedVariables false
set_option linter.unusedSimpArgs false

theorem from_beg {ns : List Nd} {k i : Nat} {r : Int} (hk : k ≤ ns.length) (hb : begP ns k i) (h : fromP (ns.take k) r) : r = i := by
  have hlen : (ns.take k).length = k := by simp; omega
  obtain ⟨b1, b2, b3⟩ := hb
  rcases h with ⟨i', rfl, h1, h2, h3⟩ | ⟨rfl, h1⟩
  · rw [hlen] at h1 h3
    have : i' = i := by
      rcases Nat.lt_trichotomy i' i with h | h | h
      · have := h3 i h (by omega); omega
      · exact h
      · have := b3 i' h (by omega); omega
    omega
  · have := h1 i (by rw [hlen]; omega)
    omega
theorem nhead_run (a : Option Addr) (n cap hi : Nat) (h2 : hi ≤ n) (h3 : n ≤ cap) : ∀ w : World, (Instr.slice 24 (.slice a n cap) none (some (.int .i64 (hi : Int))) none).run Tryd.prog w = .ok (.slice a hi cap) w := by
  intro w
  have hz : Tryd.prog.elem 24 = 34 := by kernel_rfl
  have hs : (sizeOf 34).run Tryd.prog w = .ok 3 w := by kernel_rfl
  rw [run_slice_h w 24 a n cap (by rw [hz]; exact Tryd.underlying24) .i64 _ (by omega) (by omega), hz, hs]
  simp only [Result.andThen, sliced, Int.toNat_natCast, Nat.sub_zero, Nat.zero_mul]
  have e : (if cap = 0 then a else a.map (·.add 0)) = a := by
    split
    · rfl
    · cases a <;> simp [Addr.add]
  rw [e]
/-- The operands from i on, in a row. -/
def KRow (w0 w : World) (N : Nat) (v : Value) (e : List Nd) (b : Nat → Nat) (A i : Nat) : Prop :=
  ∃ (B cap : Nat) (vs : List Value), v = .slice (some ⟨B, 0, none⟩) (A - i) cap ∧ A - i ≤ cap ∧ cap ≤ 9223372036854775807 ∧ N ≤ B ∧ B < w.heap.size ∧ vs.length = A - i ∧ ∀ j (h : j < vs.length), w.cell? ⟨B, j, none⟩ = some vs[j] ∧ Nodes w0 vs[j] (kid e b (i + j))
theorem KRow.below {w0 w w' : World} {N : Nat} {v : Value} {e : List Nd} {b : Nat → Nat} {A i : Nat} (h : KRow w0 w N v e b A i) (hb : Below w.heap.size w w') : KRow w0 w' N v e b A i := by
  obtain ⟨B, cap, vs, rfl, h1, h2, h3, h4, h5, h6⟩ := h
  refine ⟨B, cap, vs, rfl, h1, h2, h3, Nat.lt_of_lt_of_le h4 hb.size, h5, fun j hj => ⟨(hb.cell (p := ⟨B, j, none⟩) h4).trans (h6 j hj).1, (h6 j hj).2⟩⟩
theorem KRow.kids {w0 w : World} {N : Nat} {v : Value} {e : List Nd} {b : Nat → Nat} {A : Nat} (h : KRow w0 w N v e b A 0) : Kids w0 w N v e b A := by
  obtain ⟨B, cap, vs, rfl, h1, h2, h3, h4, h5, h6⟩ := h
  rw [Nat.sub_zero] at *
  refine ⟨_, cap, rfl, h1, h2, fun _ => ⟨B, rfl, h3, h4, fun i hi => ?_⟩⟩
  have := h6 i (by omega)
  rw [Nat.zero_add] at this
  exact ⟨_, this⟩
theorem nodes_one {w : World} {v : Value} {ns : List Nd} (h : Nodes w v ns) : v.oneCell' = true := by
  obtain ⟨a, cap, rfl, _⟩ := h
  rfl
theorem addr0 (g j : Nat) : (⟨g, 0, none⟩ : Addr).add j = ⟨g, j, none⟩ := by
  simp [Addr.add]
  try (intro h; omega)
/-- A row of one operand, and those behind it. -/
theorem KRow.cons {w0 w w' : World} {N : Nat} {v' u : Value} {vs : List Value} {e : List Nd} {b : Nat → Nat} {A i n : Nat} (hi : i < A) (hvl : vs.length = A - (i + 1)) (hvs : ∀ j (h : j < vs.length), Nodes w0 vs[j] (kid e b (i + 1 + j))) (hu : Nodes w0 u (kid e b i)) (hown : w'.ownsRow N 24 1 v' (1 + n) ([u] ++ vs)) (hn : n = A - (i + 1)) : KRow w0 w' N v' e b A i := by
  have hown0 := hown
  obtain ⟨hlen, h⟩ := hown
  rcases h with ⟨_, h0⟩ | ⟨g, cap, cur, rfl, hg, hh, hc1, hc2, hc3, hc4⟩
  · omega
  · refine ⟨g, cap, u :: vs, by rw [show 1 + n = A - i by omega], by omega, by simp only [maxLen] at hc2; omega, hg, (Array.getElem?_eq_some_iff.1 hh).1, by simp; omega, fun j hj => ?_⟩
    have hcell := hown0.cells (g := g) rfl j ((u :: vs)[j]) (by simp [List.getElem?_eq_getElem hj])
    rw [addr0] at hcell
    refine ⟨hcell, ?_⟩
    cases j with
    | zero => simpa using hu
    | succ j =>
      have := hvs j (by simpa using hj)
      simpa [Nat.add_comm, Nat.add_left_comm, Nat.add_assoc] using this

set_option maxRecDepth 20000 in
set_option maxHeartbeats 1000000 in
theorem kids_any (w0 : World) (v : Value) (e : List Nd) (A : Nat) (b : Nat → Nat) (w : World) (hl : e.length ≤ 1048576) (hc : Nodes w0 v e) (hB0 : Below w0.heap.size w0 w) (hb : Cut e A b) :
    Calls Tryd.prog 24 #[v] w fun r w' => ∃ v', r = .returned v' ∧ Kids w0 w' w.heap.size v' e b A ∧ Below w.heap.size w w' := by
  have HN : Hid (Nodes w0 v e) := hc
  have HB0 : Hid (Below w0.heap.size w0 w) := hB0
  have HB : Hid (Cut e A b) := hb
  obtain ⟨a, cap, rfl, hcl, hcm, -⟩ := hc
  have hpos := hb.len
  obtain ⟨m, hm⟩ : ∃ m, e.length = m + 1 := ⟨e.length - 1, by omega⟩
  have hA6 := hb.arA
  have hA6' : (A : Int) ≤ 6 := by omega
  obtain ⟨i0, hi, hz0, hz1, hz2⟩ := info_parts info_nodes
  have HR : Hid (∀ W : World, Below w.heap.size w W → Calls Tryd.prog 23 #[.slice a e.length cap] W fun r w' => r = .returned (.agg #[.int .i64 (rootN e).kind, .int .i64 (rootN e).val, .string (rootN e).name]) ∧ Below W.heap.size W w') := fun W hW => by
    have := root_any _ e W hpos hl (HN.out.below (HB0.out.trans (hW.mono HB0.out.size)))
    rw [← rootN_eq e hpos] at this
    exact this
  have HA : Hid (∀ W : World, Calls Tryd.prog 43 #[.agg #[.int .i64 (rootN e).kind, .int .i64 (rootN e).val, .string (rootN e).name]] W fun r w' => r = .returned (.int .i64 A) ∧ Below W.heap.size W w') := fun W => by
    have := arity_nd (rootN e) W
    rw [hb.ar] at this
    exact this
  generalize (rootN e).kind = rk at HR HA
  generalize (rootN e).val = rv at HR HA
  generalize (rootN e).name = rn at HR HA
  have HM : Hid (e.length = m + 1) := hm
  have e1 : ((m + 1 : Nat) : Int) - 1 = (m : Int) := by omega
  rw [hm] at hl hcl hpos HN HR ⊢
  clear hb hB0 hm
  have hnr := nhead_run a (m + 1) cap m (by omega) hcl
  go_enter Tryd.func24, Tryd.ntmps24
  go_wp2_with fail
  refine (HR.out _ ((Below.refl _ _).alloc (Nat.le_refl _) _)).mono ?_
  rintro x w1 ⟨rfl, hb1⟩
  go_wp2_with fail
  refine (HA.out w1).mono ?_
  rintro x w2 ⟨rfl, hb2⟩
  have hbW : Below w.heap.size w w2 := (((Below.refl _ _).alloc (Nat.le_refl _) _).trans (hb1.mono (by simp))).trans (hb2.mono (by have := hb1.size; simp at this; omega))
  have hs1 := hb1.size
  have hs2 := hb2.size
  simp only [World.size_alloc] at hs1
  have HK0 : Hid (KRow w0 w2 w.heap.size (.slice (some ⟨w.heap.size, 0, none⟩) 0 0) e b A A) := ⟨w.heap.size, 0, [], by rw [Nat.sub_self], by omega, by omega, Nat.le_refl _, by omega, by simp, fun j hj => absurd hj (by simp)⟩
  have HBW : Hid (Below w.heap.size w w2) := hbW
  clear hb1 hb2 hbW hs1 hs2 hnr
  go_wp2_with fail
  go_loopw [3, 4, 5] (fun rs ot ix wr => ∃ (k : Nat), k ≤ A ∧ ix = .int .i64 (k : Int) ∧ rs = .slice a (b k) cap ∧ KRow w0 wr w.heap.size ot e b A k ∧ Below w.heap.size w wr) (fun _ _ ix _ => (intOf ix).toNat)
  case atStart => exact ⟨A, Nat.le_refl _, rfl, by rw [HB.out.last, HM.out]; rfl, HK0.out, HBW.out⟩
  case round =>
    obtain ⟨k, hk, rfl, rfl, hK, hB⟩ := hrel
    have HK : Hid _ := hK
    rcases Nat.eq_zero_or_pos k with rfl | hk0
    · have HKs : Hid (Kids w0 wr w.heap.size u4 e b A) := hK.kids
      clear hK
      go_wp2_with fail
      exact bodyPost_ret (v := u4) (by simp [results, Tryd.results24, go_sem]) rfl ⟨_, rfl, HKs.out, hB⟩
    · obtain ⟨i, rfl⟩ : ∃ i, k = i + 1 := ⟨k - 1, by omega⟩
      have hbe := (HB.out.beg i (by omega)).1
      have hble := HB.out.le' (i + 1) (by omega)
      rw [HM.out] at hble
      have HC : Hid (Calls Tryd.prog 22 #[.slice a (b (i + 1)) cap] wr fun x w' => x = .returned (.int .i64 (b i)) ∧ Below wr.heap.size wr w') := by
        have hNh : Nodes wr (.slice a (b (i + 1)) cap) (e.take (b (i + 1))) := (Nodes.head (by rw [HM.out]; exact HN.out.below (HB0.out.trans (hB.mono HB0.out.size))) (b (i + 1)) (by rw [HM.out]; omega))
        refine (from_any _ (e.take (b (i + 1))) wr (by simp; omega) (fun n hn => HB.out.good n (List.mem_of_mem_take hn)) hNh).mono ?_
        rintro x w' ⟨r, hf, -, -, rfl, hb⟩
        rw [from_beg (by rw [HM.out]; omega) (HB.out.beg i (by omega)) hf]
        exact ⟨rfl, hb⟩
      have hcut := ncut_run_l a (b (i + 1)) cap (b i) (by omega) (by omega)
      have hhd := nhead_run a (b (i + 1)) cap (b i) (by omega) (by omega)
      have HNC : Hid (Nodes w0 (.slice (if cap = b i then a else a.map (·.add (b i * 3))) (b (i + 1) - b i) (cap - b i)) (kid e b i)) := Nodes.cut (by rw [HM.out]; exact HN.out) (b i) (b (i + 1)) (by omega) (by rw [HM.out]; omega)
      generalize (if cap = b i then a else a.map (·.add (b i * 3))) = ua at hcut HNC
      generalize b (i + 1) - b i = un at hcut HNC
      generalize cap - b i = uc at hcut HNC
      obtain ⟨B, kc, vs, rfl, k1, k2, k3, k4, k5, k6⟩ := hK
      have HV : Hid (∀ j (h : j < vs.length), Nodes w0 vs[j] (kid e b (i + 1 + j))) := fun j hj => (k6 j hj).2
      have HVC : Hid (∀ j (h : j < vs.length), wr.cell? ⟨B, j, none⟩ = some vs[j]) := fun j hj => (k6 j hj).1
      clear k6 HK
      generalize hbi : b i = bi at *
      generalize hbi1 : b (i + 1) = bi1 at *
      go_wp2_with fail
      refine HC.out.mono ?_
      rintro x w3 ⟨rfl, hb3⟩
      have hB3 := hB.trans (hb3.mono hB.size)
      have HNews : Hid (∀ o j u, vs[j]? = some u → (w3.alloc o).cell? ((⟨B, 0, none⟩ : Addr).add j) = some u) := fun o j u hj => by
        obtain ⟨hlt, rfl⟩ := List.getElem?_eq_some_iff.1 hj
        rw [addr0, ((hb3.alloc hb3.size o)).cell (p := ⟨B, j, none⟩) k4]
        exact HVC.out j hlt
      have HOne : Hid (∀ u ∈ vs, u.oneCell' = true) := fun u hu => by
        obtain ⟨j, hj, rfl⟩ := List.mem_iff_getElem.1 hu
        exact nodes_one (HV.out j hj)
      have hs3 := hB3.size
      have hs3' := hb3.size
      go_wp2_with (at_builtin; refine wpList_append_own _ rfl _ _ 46 rfl w.heap.size 24 i0 (.slice none 0 0) 1 24 Tryd.underlying46 hi hz0 hz1 hz2 rfl (by decide) _ 1 [.slice ua un uc] rfl (World.ownsRow_lit w3 #[.slice ua un uc] 1 hs3 (by decide) rfl) ⟨B, 0, none⟩ (A - (i + 1)) kc vs rfl (by rw [k5, Nat.mul_one]) (HNews.out _) HOne.out (by unfold maxLen; omega) (by omega) (by simp; omega) ?_)
      intro v' w4 hown hgrow _
      have hB4 : Below w.heap.size w w4 := (hB3.alloc hs3 _).grown hgrow (by simp; omega) (fun k hk => by simp only [Value.ownBlock, Option.some.injEq] at hk; omega)
      have HKc : Hid (KRow w0 w4 w.heap.size v' e b A i) := KRow.cons (w := w) (by omega) k5 HV.out HNC.out hown rfl
      clear hown hgrow
      go_wp2_with fail
      go_roundw
      case rel => exact ⟨i, by omega, by go_num, by rw [hbi], HKc.out, hB4⟩
      case measure => simp [intOf]

end Go.Proofs.YtbmcnjjhgjphmaaDoor
