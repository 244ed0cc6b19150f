import Derived.Test.YtlamjfhhefcohaaGreatDoorM10
import Derived.Lib.ConvBytes
import Derived.RegionTactic
import Derived.OwnWalk
import Derived.Laws.OwnMore
namespace Go.Proofs.YtlamjfhhefcohaaGreatDoor
set_option linter.unusedVariables false
set_option linter.unusedSimpArgs false
set_option maxRecDepth 100000
set_option maxHeartbeats 16000000
section
open Go.RowKit
def NodesC (w : World) (b off : Nat) (ns : List Nd) : Prop := ∀ j (h : j < ns.length),
 w.cell? ⟨b, off + j * 3, none⟩ = some (.int .i64 ns[j].kind) ∧ w.cell? ⟨b, off + j * 3 + 1, none⟩ = some (.int .i64 ns[j].val) ∧ w.cell? ⟨b, off + j * 3 + 2, none⟩ = some (.string ns[j].name)
theorem NodesC.below {w w' : World} {b off : Nat} {ns : List Nd} (h : NodesC w b off ns) (hb : Below w.heap.size w w') : NodesC w' b off ns := by
 intro j hj
 obtain ⟨c0, c1, c2⟩ := h j hj
 have hlt := World.block_lt_of_cell? _ _ c0
 exact ⟨(hb.cell hlt).trans c0, (hb.cell (p := ⟨b, off + j * 3 + 1, none⟩) hlt).trans c1, (hb.cell (p := ⟨b, off + j * 3 + 2, none⟩) hlt).trans c2⟩
def Nodes (w : World) (v : Value) (ns : List Nd) : Prop := ∃ a cap, v = .slice a ns.length cap ∧ ns.length ≤ cap ∧ cap ≤ 9223372036854775807 ∧ (0 < ns.length → ∃ b off, a = some ⟨b, off, none⟩ ∧ NodesC w b off ns)
theorem Nodes.below {w w' : World} {v : Value} {ns : List Nd} (h : Nodes w v ns) (hb : Below w.heap.size w w') : Nodes w' v ns := by
 obtain ⟨a, cap, rfl, hl, hm, h⟩ := h
 refine ⟨a, cap, rfl, hl, hm, fun h0 => ?_⟩
 obtain ⟨b, off, rfl, hc⟩ := h h0
 exact ⟨b, off, rfl, hc.below hb⟩
theorem box3 {w w' : World} {t : TypeId} {x y z : Value} (h : Below (w.heap.size + 1) (w.alloc (.cells #[x, y, z] t)) w') :
  w'.cell? ⟨w.heap.size, 0, none⟩ = some x ∧ w'.cell? ⟨w.heap.size, 1, none⟩ = some y ∧ w'.cell? ⟨w.heap.size, 2, none⟩ = some z := by
 refine ⟨?_, ?_, ?_⟩ <;> (rw [h.cell (by simp)]; simp)
set_option maxHeartbeats 1000000 in
theorem one_any (v : Value) (ns : List Nd) (w : World) (hT : Tab w) (hl : ns.length ≤ 1048576) (hc : Nodes w v ns) :
  Calls Tryz.prog 112 #[v] w fun e w' => e = .returned (.bool (oneB ns)) ∧ Below w.heap.size w w' := by
 obtain ⟨a, cap, rfl, hcl, hcm, hc⟩ := hc
 have HC : Hid (0 < ns.length → ∃ b off, a = some ⟨b, off, none⟩ ∧ NodesC w b off ns) := hc
 clear hc
 go_enter Tryz.func112, Tryz.ntmps112
 go_wp2_with fail
 go_loopw [3, 8] (fun r i wr => ∃ (k : Nat) (q : Int), k ≤ ns.length ∧ i = .int .i64 k ∧ r = .int .i64 q ∧ wholeTo (ns.take k) 0 = some q ∧ Below w.heap.size w wr) (fun _ i _ => ns.length - (RowKit.intOf i).toNat)
 case atStart => exact ⟨0, 0, Nat.zero_le _, rfl, rfl, rfl, Below.refl _ _⟩
 case round =>
  obtain ⟨k, q, hk, rfl, rfl, hq, hB⟩ := hrel
  have HQ : Hid (wholeTo (ns.take k) 0 = some q) := hq
  have hqb := wholeTo_bd _ _ _ hq (Int.le_refl 0)
  have hql : q ≤ 1048576 := by have := hqb.2; simp at this; omega
  have hq0 := hqb.1
  clear hq hqb
  by_cases hlt : k < ns.length
  ·obtain ⟨b, off, rfl, hc⟩ := HC.out (by omega)
   obtain ⟨d0, d1, d2⟩ := (hc.below hB) k hlt
   have HT : Hid (Tab wr) := hT.below hT.size hB
   have hsz := hT.size
   have HS : Hid _ := wholeTo_step ns k q hlt HQ.out
   clear hc hT HC
   generalize hn : ns[k] = n at d0 d1 d2 HS
   clear hn
   go_wp2_with fail
   refine (vnode_any n _ (HT.out.below HT.out.size ((Below.refl _ _).alloc (Nat.le_refl _) _))).mono ?_
   rintro e w1 ⟨rfl, hb1⟩
   simp only [World.size_alloc] at hb1
   have hB1 := hB.trans ((((Below.refl _ _).alloc (Nat.le_refl _) _).trans (hb1.mono (by omega))).mono hB.size)
   cases hv : nodeB n
   ·go_wp2_with fail
    go_ret
    refine ⟨ret_bool (oneB_none ns (k + 1) ?_).symm, hB1⟩
    rw [HS.out, if_neg (by simp [hv])]
   ·obtain ⟨e0, e1, e2⟩ := box3 hb1
    have hT1 : Hid (Tab w1) := HT.out.below HT.out.size (((Below.refl _ _).alloc (Nat.le_refl _) _).trans (hb1.mono (by omega)))
    have hkb := kind_good hv
    have hab := arity_good hv
    go_wp2_with fail
    refine (opc_any n _ hT1.out hkb).mono ?_
    rintro e w2 ⟨rfl, hb2⟩
    have hb2' := hb1.trans (hb2.mono (by have := hb1.size; simp at this; omega))
    have hB2 := hB.trans ((((Below.refl _ _).alloc (Nat.le_refl _) _).trans (hb2'.mono (by omega))).mono hB.size)
    obtain ⟨f0, f1, f2⟩ := box3 hb2'
    have hT2 : Hid (Tab w2) := hT1.out.below hT1.out.size hb2
    clear e0 e1 e2 d0 d1 d2
    by_cases ha : q < arity n
    ·go_wp2_with fail
     go_ret
     refine ⟨ret_bool (oneB_none ns (k + 1) ?_).symm, hB2⟩
     rw [HS.out, if_neg (by omega)]
    ·go_wp2_with fail
     refine (opc_any n _ hT2.out hkb).mono ?_
     rintro e w3 ⟨rfl, hb3⟩
     have hB3 := hB2.trans (hb3.mono hB2.size)
     clear f0 f1 f2
     go_wp2_with fail
     go_roundw
     case rel => exact ⟨k + 1, q + 1 - arity n, by omega, by go_num, by rw [show q + (1 - arity n) = q + 1 - arity n by omega], by rw [HS.out, if_pos ⟨hv, by omega⟩], hB3⟩
     case measure => simp [RowKit.intOf]; omega
  ·go_wp2_with fail
   go_ret
   obtain rfl : k = ns.length := by omega
   exact ⟨ret_bool (oneB_some ns q HQ.out).symm, hB⟩
end
section
open Go.RowKit
theorem arity_nd (n : Nd) (w : World) : Calls Tryz.prog 150 #[.agg #[.int .i64 n.kind, .int .i64 n.val, .string n.name]] w fun e w' => e = .returned (.int .i64 (arity n)) ∧ Below w.heap.size w w' := arity_any n.kind n.val n.name w
set_option maxHeartbeats 1000000 in
theorem from_any (v : Value) (ns : List Nd) (w : World) (hl : ns.length ≤ 1048576) (hg : goodAll ns) (hc : Nodes w v ns) :
  Calls Tryz.prog 147 #[v] w fun e w' => ∃ r, fromP ns r ∧ -1 ≤ r ∧ r ≤ 1048576 ∧ e = .returned (.int .i64 r) ∧ Below w.heap.size w w' := by
 obtain ⟨a, cap, rfl, hcl, hcm, hc⟩ := hc
 have HC : Hid (0 < ns.length → ∃ b off, a = some ⟨b, off, none⟩ ∧ NodesC w b off ns) := hc
 have HG : Hid (goodAll ns) := hg
 clear hc hg
 go_enter Tryz.func147, Tryz.ntmps147
 go_wp2_with fail
 go_loopw [3, 4] (fun r i wr => ∃ (k : Nat) (q : Int), k ≤ ns.length ∧ i = .int .i64 k ∧ r = .int .i64 q ∧ q = defc (ns.drop k) ∧ 0 ≤ q ∧ (∀ j, k < j → j ≤ ns.length → 1 ≤ defc (ns.drop j)) ∧ Below w.heap.size w wr) (fun _ i _ => (RowKit.intOf i).toNat)
 case atStart => exact ⟨ns.length, 1, Nat.le_refl _, rfl, rfl, by simp [defc], by omega, fun j h1 h2 => absurd h2 (by omega), Below.refl _ _⟩
 case round =>
  obtain ⟨k, q, hk, rfl, rfl, hq, hq0, hj, hB⟩ := hrel
  have hqb := defc_le _ (goodAll_drop HG.out k)
  have hq1 : q ≤ 6291457 := by rw [hq]; simp at hqb; omega
  have HQ : Hid (q = defc (ns.drop k)) := hq
  have HJ : Hid (∀ j, k < j → j ≤ ns.length → 1 ≤ defc (ns.drop j)) := hj
  clear hq hj hqb
  by_cases h0 : 0 < q
  ·by_cases hk0 : k = 0
   ·subst hk0
    go_wp2_with fail
    go_ret
    refine ⟨-1, .inr ⟨rfl, fun j hj => ?_⟩, by omega, by omega, rfl, hB⟩
    rcases Nat.eq_zero_or_pos j with rfl | hp
    ·rw [← HQ.out]; omega
    ·exact HJ.out j hp hj
   ·obtain ⟨m, rfl⟩ : ∃ m, k = m + 1 := ⟨k - 1, by omega⟩
    obtain ⟨b, off, rfl, hc⟩ := HC.out (by omega)
    obtain ⟨d0, d1, d2⟩ := (hc.below hB) m (by omega)
    have hab := arity_good (HG.out ns[m] (List.getElem_mem _))
    have HD : Hid _ := defc_drop ns m (by omega)
    clear hc HC
    generalize hn : ns[m] = n at d0 d1 d2 HD hab
    clear hn
    have e1 : ((m + 1 : Nat) : Int) - 1 = (m : Int) := by omega
    go_wp2_with fail
    refine (arity_nd n _).mono ?_
    rintro e w1 ⟨rfl, hb1⟩
    have hB1 := hB.trans (hb1.mono hB.size)
    clear d0 d1 d2
    go_wp2_with fail
    go_roundw
    case rel =>
     refine ⟨m, q - 1 + arity n, by omega, by go_num, rfl, ?_, by omega, fun j h1 h2 => ?_, hB1⟩
     ·rw [HD.out, ← HQ.out]; omega
     ·by_cases e : j = m + 1
      ·subst e; rw [← HQ.out]; omega
      ·exact HJ.out j (by omega) h2
    case measure => simp [RowKit.intOf]
  ·go_wp2_with fail
   go_ret
   refine ⟨k, .inl ⟨k, rfl, ?_, ?_, HJ.out⟩, by omega, by omega, rfl, hB⟩
   ·rcases Nat.lt_or_ge k ns.length with h | h
    ·exact h
    ·exfalso
     have := HQ.out
     rw [List.drop_of_length_le h, defc] at this
     omega
   ·rw [← HQ.out]; omega
theorem oneB_bad {l : List Nd} {k : Nat} (hk : k < l.length) (h : nodeB l[k] = false) : oneB l = false := by
 cases e : oneB l
 ·rfl
 ·have := ((oneB_iff l).1 e).1 _ (List.getElem_mem hk)
  rw [h] at this; cases this
set_option maxHeartbeats 1000000 in
theorem gexpr_any (v : Value) (ns : List Nd) (w : World) (hl : ns.length ≤ 1048576) (hc : Nodes w v ns) :
  Calls Tryz.prog 108 #[v] w fun e w' => e = .returned (.bool (decide (ns.length ≤ 2000) && oneB ns)) ∧ Below w.heap.size w w' := by
 have HN : Hid (Nodes w v ns) := hc
 obtain ⟨a, cap, rfl, hcl, hcm, hc⟩ := hc
 have HC : Hid (0 < ns.length → ∃ b off, a = some ⟨b, off, none⟩ ∧ NodesC w b off ns) := hc
 clear hc
 by_cases h2 : 2000 < ns.length
 ·have hd : (decide (ns.length ≤ 2000) && oneB ns) = false := by simp; omega
  rw [hd]
  clear hd
  go_enter Tryz.func108, Tryz.ntmps108
  go_wp2_with fail
  go_ret
  exact ⟨rfl, Below.refl _ _⟩
 ·have hd : (decide (ns.length ≤ 2000) && oneB ns) = oneB ns := by rw [decide_eq_true (by omega)]; rfl
  rw [hd]
  clear hd
  go_enter Tryz.func108, Tryz.ntmps108
  go_wp2_with fail
  go_loopw [3] (fun i wr => ∃ (k : Nat), k ≤ ns.length ∧ i = .int .i64 k ∧ (∀ n ∈ ns.take k, nodeB n = true) ∧ Below w.heap.size w wr) (fun i _ => ns.length - (RowKit.intOf i).toNat)
  case atStart => exact ⟨0, Nat.zero_le _, rfl, by simp, Below.refl _ _⟩
  case round =>
   obtain ⟨k, hk, rfl, hg, hB⟩ := hrel
   have HG : Hid (∀ n ∈ ns.take k, nodeB n = true) := hg
   clear hg
   by_cases hlt : k < ns.length
   ·obtain ⟨b, off, rfl, hc⟩ := HC.out (by omega)
    obtain ⟨d0, d1, d2⟩ := (hc.below hB) k hlt
    clear hc HC
    have HE : Hid (ns.take (k + 1) = ns.take k ++ [ns[k]]) := take_succ ns k hlt
    have HX : Hid (nodeB ns[k] = false → oneB ns = false) := oneB_bad hlt
    generalize hn : ns[k] = n at d0 d1 d2 HE HX
    clear hn
    go_wp2_with fail
    refine (gnode_any n _).mono ?_
    rintro e w1 ⟨rfl, hb1⟩
    have hB1 := hB.trans (hb1.mono hB.size)
    clear d0 d1 d2
    cases hv : nodeB n
    ·go_wp2_with fail
     go_ret
     exact ⟨ret_bool (HX.out hv).symm, hB1⟩
    ·go_wp2_with fail
     go_roundw
     case rel =>
      refine ⟨k + 1, by omega, by go_num, fun m hm => ?_, hB1⟩
      rw [HE.out] at hm
      rcases List.mem_append.1 hm with hm | hm
      ·exact HG.out m hm
      ·rw [List.mem_singleton.1 hm]; exact hv
     case measure => simp [RowKit.intOf]; omega
   ·have hk' : k = ns.length := by omega
    subst hk'
    have hgA : goodAll ns := by have := HG.out; rw [List.take_length] at this; exact this
    have HA : Hid (goodAll ns) := hgA
    clear hgA
    by_cases h0 : 0 < ns.length
    ·go_wp2_with fail
     refine (from_any _ ns _ hl HA.out (HN.out.below hB)).mono ?_
     rintro e w1 ⟨r, hr, hr1, hr2, rfl, hb1⟩
     have HR : Hid (fromP ns r) := hr
     clear hr
     go_wp2_with fail
     go_ret
     exact ⟨ret_bool (fromP_one HA.out HR.out), hB.trans (hb1.mono hB.size)⟩
    ·go_wp2_with fail
     go_ret
     refine ⟨ret_bool ?_, hB⟩
     have : ns = [] := List.eq_nil_of_length_eq_zero (by omega)
     subst this
     simp [oneB, wholeTo]
theorem NodesC.up {w : World} {b off : Nat} {ns : List Nd} (h : NodesC w b off ns) (j : Nat) (hj : j < ns.length) : (∀ o, (w.alloc o).cell? ⟨b, off + j * 3, none⟩ = some (.int .i64 ns[j].kind)) ∧ (∀ o, (w.alloc o).cell? ⟨b, off + j * 3 + 1, none⟩ = some (.int .i64 ns[j].val)) ∧ (∀ o, (w.alloc o).cell? ⟨b, off + j * 3 + 2, none⟩ = some (.string ns[j].name)) :=
 ⟨fun o => ((h.below ((Below.refl _ _).alloc (Nat.le_refl _) o)) j hj).1, fun o => ((h.below ((Below.refl _ _).alloc (Nat.le_refl _) o)) j hj).2.1, fun o => ((h.below ((Below.refl _ _).alloc (Nat.le_refl _) o)) j hj).2.2⟩
set_option maxHeartbeats 1000000 in
theorem root_any (v : Value) (ns : List Nd) (w : World) (hl : 0 < ns.length) (hm : ns.length ≤ 1048576) (hc : Nodes w v ns) :
  Calls Tryz.prog 109 #[v] w fun e w' => e = .returned (.agg #[.int .i64 (ns[ns.length - 1]'(by omega)).kind, .int .i64 (ns[ns.length - 1]'(by omega)).val, .string (ns[ns.length - 1]'(by omega)).name]) ∧ Below w.heap.size w w' := by
 obtain ⟨a, cap, rfl, hcl, hcm, hc⟩ := hc
 obtain ⟨b, off, rfl, hn⟩ := hc hl
 obtain ⟨d0, d1, d2⟩ := hn.up (ns.length - 1) (by omega)
 clear hc hn
 generalize hn : ns[ns.length - 1] = n at d0 d1 d2 ⊢
 clear hn
 obtain ⟨m, hm'⟩ : ∃ m, ns.length = m + 1 := ⟨ns.length - 1, by omega⟩
 rw [hm'] at d0 d1 d2 hl hm hcl ⊢
 have e1 : ((m + 1 : Nat) : Int) - 1 = (m : Int) := by omega
 have e2 : m + 1 - 1 = m := by omega
 rw [e2] at d0 d1 d2
 clear hm'
 go_enter Tryz.func109, Tryz.ntmps109
 go_wp2_with fail
 exact bodyPost_ret (v := .agg #[.int .i64 n.kind, .int .i64 n.val, .string n.name]) (by simp [results, Tryz.results109, go_sem]) rfl ⟨rfl, (Below.refl _ _).alloc (Nat.le_refl _) _⟩
end
section
open Go.RowKit
theorem Nodes.cut {w : World} {a : Option Addr} {cap : Nat} {ns : List Nd} (h : Nodes w (.slice a ns.length cap) ns) (lo hi : Nat) (h1 : lo ≤ hi) (h2 : hi ≤ ns.length) :
  Nodes w (.slice (if cap = lo then a else a.map (·.add (lo * 3))) (hi - lo) (cap - lo)) ((ns.take hi).drop lo) := by
 obtain ⟨a', cap', he, hl, hm, h⟩ := h
 simp only [Value.slice.injEq, true_and] at he
 obtain ⟨rfl, rfl⟩ := he
 refine ⟨if cap = lo then a else a.map (·.add (lo * 3)), cap - lo, by simp [Nat.min_eq_left h2], by simp [Nat.min_eq_left h2]; omega, by omega, fun h0 => ?_⟩
 simp only [List.length_drop, List.length_take, Nat.min_eq_left h2] at h0
 obtain ⟨b, off, rfl, hc⟩ := h (by omega)
 refine ⟨b, off + lo * 3, ?_, fun j hj => ?_⟩
 ·rw [if_neg (by omega)]; simp [Addr.add]
 ·simp only [List.length_drop, List.length_take, Nat.min_eq_left h2] at hj
  have hcc := hc (lo + j) (by omega)
  have e : ((ns.take hi).drop lo)[j]'(by simp; omega) = ns[lo + j]'(by omega) := by simp
  rw [e]
  have e1 : off + lo * 3 + j * 3 = off + (lo + j) * 3 := by omega
  rw [e1]
  exact hcc
theorem Nodes.head {w : World} {a : Option Addr} {cap : Nat} {ns : List Nd} (h : Nodes w (.slice a ns.length cap) ns) (hi : Nat) (h2 : hi ≤ ns.length) : Nodes w (.slice a hi cap) (ns.take hi) := by
 have := h.cut 0 hi (Nat.zero_le _) h2
 have e : (if cap = 0 then a else a.map (·.add (0 * 3))) = a := by
  split
  ·rfl
  ·cases a <;> simp [Addr.add]
 rw [e] at this
 simpa using this
def Kids (w0 w : World) (N : Nat) (v : Value) (e : List Nd) (b : Nat → Nat) (A : Nat) : Prop :=
 ∃ a cap, v = .slice a A cap ∧ A ≤ cap ∧ cap ≤ 9223372036854775807 ∧ (0 < A → ∃ B, a = some ⟨B, 0, none⟩ ∧ N ≤ B ∧ B < w.heap.size ∧ ∀ i, i < A → ∃ vi, w.cell? ⟨B, i, none⟩ = some vi ∧ Nodes w0 vi (kid e b i))
theorem Kids.below {w0 w w' : World} {N : Nat} {v : Value} {e : List Nd} {b : Nat → Nat} {A : Nat} (h : Kids w0 w N v e b A) (hb : Below w.heap.size w w') : Kids w0 w' N v e b A := by
 obtain ⟨a, cap, rfl, hl, hm, h⟩ := h
 refine ⟨a, cap, rfl, hl, hm, fun h0 => ?_⟩
 obtain ⟨B, rfl, hN, hB, hc⟩ := h h0
 refine ⟨B, rfl, hN, Nat.lt_of_lt_of_le hB hb.size, fun i hi => ?_⟩
 obtain ⟨vi, h1, h2⟩ := hc i hi
 exact ⟨vi, (hb.cell (p := ⟨B, i, none⟩) (World.block_lt_of_cell? _ _ h1)).trans h1, h2⟩
end
section
open Go.RowKit
def Ints (w : World) (v : Value) (l : List Int) : Prop := ∃ a cap, v = .slice a l.length cap ∧ (0 < l.length → ∃ b, a = some ⟨b, 0, none⟩ ∧ ∀ j (h : j < l.length), w.cell? ⟨b, j, none⟩ = some (.int .i64 l[j]))
theorem Ints.below {w w' : World} {v : Value} {l : List Int} (h : Ints w v l) (hb : Below w.heap.size w w') : Ints w' v l := by
 obtain ⟨a, cap, rfl, h⟩ := h
 refine ⟨a, cap, rfl, fun h0 => ?_⟩
 obtain ⟨b, rfl, hc⟩ := h h0
 exact ⟨b, rfl, fun j hj => (hb.cell (p := ⟨b, j, none⟩) (World.block_lt_of_cell? _ _ (hc j hj))).trans (hc j hj)⟩
end
end Go.Proofs.YtlamjfhhefcohaaGreatDoor
