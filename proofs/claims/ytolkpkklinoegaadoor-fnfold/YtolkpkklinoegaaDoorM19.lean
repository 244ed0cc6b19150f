import Derived.OwnWalk
import Derived.Laws.MakeOwn
import Derived.Test.YtolkpkklinoegaaDoorM14
import Derived.RegionTactic
import Derived.BigQuiet
import Derived.Lib.ConvBytes
import Derived.Laws.OwnMore
import Derived.Test.YtolkpkklinoegaaDoorM17
namespace Go.Proofs.YtolkpkklinoegaaDoor
set_option linter.unusedVariables false
set_option linter.unusedSimpArgs false
set_option maxRecDepth 100000
set_option maxHeartbeats 16000000
section
open Go.RowKit
theorem Nodes.cut {w : World} {a : Option Addr} {cap : Nat} {ns : List Nd} (h : Nodes w (.slice a ns.length cap) ns) (lo hi : Nat) (h1 : lo ≤ hi) (h2 : hi ≤ ns.length) :
  Nodes w (.slice (if cap = lo then a else a.map (·.add (lo * 3))) (hi - lo) (cap - lo)) ((ns.take hi).drop lo) := by
 obtain ⟨a', cap', he, hl, hm, h⟩ := h
 simp only [Value.slice.injEq, true_and] at he
 obtain ⟨rfl, rfl⟩ := he
 refine ⟨if cap = lo then a else a.map (·.add (lo * 3)), cap - lo, by simp [Nat.min_eq_left h2], by simp [Nat.min_eq_left h2]; omega, by omega, fun h0 => ?_⟩
 simp only [List.length_drop, List.length_take, Nat.min_eq_left h2] at h0
 obtain ⟨b, off, rfl, hc⟩ := h (by omega)
 refine ⟨b, off + lo * 3, ?_, fun j hj => ?_⟩
 ·rw [if_neg (by omega)]; simp [Addr.add]
 ·simp only [List.length_drop, List.length_take, Nat.min_eq_left h2] at hj
  have hcc := hc (lo + j) (by omega)
  have e : ((ns.take hi).drop lo)[j]'(by simp; omega) = ns[lo + j]'(by omega) := by simp
  rw [e]
  have e1 : off + lo * 3 + j * 3 = off + (lo + j) * 3 := by omega
  rw [e1]
  exact hcc
theorem Nodes.head {w : World} {a : Option Addr} {cap : Nat} {ns : List Nd} (h : Nodes w (.slice a ns.length cap) ns) (hi : Nat) (h2 : hi ≤ ns.length) : Nodes w (.slice a hi cap) (ns.take hi) := by
 have := h.cut 0 hi (Nat.zero_le _) h2
 have e : (if cap = 0 then a else a.map (·.add (0 * 3))) = a := by
  split
  ·rfl
  ·cases a <;> simp [Addr.add]
 rw [e] at this
 simpa using this
theorem ncut_run (a : Option Addr) (n cap lo hi : Nat) (h1 : lo ≤ hi) (h2 : hi ≤ n) (h3 : n ≤ cap) : ∀ w : World, (Instr.slice 23 (.slice a n cap) (some (.int .i64 lo)) (some (.int .i64 hi)) none).run Tryd.prog w = .ok (.slice (if cap = lo then a else a.map (·.add (lo * 3))) (hi - lo) (cap - lo)) w := by
 intro w
 have hz : Tryd.prog.elem 23 = 32 := by kernel_rfl
 have hs : (sizeOf 32).run Tryd.prog w = .ok 3 w := by kernel_rfl
 rw [run_slice_lh w 23 a n cap (by rw [hz]; exact Tryd.underlying23) .i64 .i64 _ _ (by omega) (by omega) (by omega), hz, hs]
 simp only [Result.andThen, sliced, Int.toNat_natCast]
theorem ncut_run_l (a : Option Addr) (n cap lo : Nat) (h2 : lo ≤ n) (h3 : n ≤ cap) : ∀ w : World, (Instr.slice 23 (.slice a n cap) (some (.int .i64 lo)) none none).run Tryd.prog w = .ok (.slice (if cap = lo then a else a.map (·.add (lo * 3))) (n - lo) (cap - lo)) w := by
 intro w
 have hz : Tryd.prog.elem 23 = 32 := by kernel_rfl
 have hs : (sizeOf 32).run Tryd.prog w = .ok 3 w := by kernel_rfl
 rw [run_slice_l w 23 a n cap (by rw [hz]; exact Tryd.underlying23) .i64 _ (by omega) (by omega), hz, hs]
 simp only [Result.andThen, sliced, Int.toNat_natCast]
def Kids (w0 w : World) (N : Nat) (v : Value) (e : List Nd) (b : Nat → Nat) (A : Nat) : Prop :=
 ∃ a cap, v = .slice a A cap ∧ A ≤ cap ∧ cap ≤ 9223372036854775807 ∧ (0 < A → ∃ B, a = some ⟨B, 0, none⟩ ∧ N ≤ B ∧ B < w.heap.size ∧ ∀ i, i < A → ∃ vi, w.cell? ⟨B, i, none⟩ = some vi ∧ Nodes w0 vi (kid e b i))
theorem Kids.below {w0 w w' : World} {N : Nat} {v : Value} {e : List Nd} {b : Nat → Nat} {A : Nat} (h : Kids w0 w N v e b A) (hb : Below w.heap.size w w') : Kids w0 w' N v e b A := by
 obtain ⟨a, cap, rfl, hl, hm, h⟩ := h
 refine ⟨a, cap, rfl, hl, hm, fun h0 => ?_⟩
 obtain ⟨B, rfl, hN, hB, hc⟩ := h h0
 refine ⟨B, rfl, hN, Nat.lt_of_lt_of_le hB hb.size, fun i hi => ?_⟩
 obtain ⟨vi, h1, h2⟩ := hc i hi
 exact ⟨vi, (hb.cell (p := ⟨B, i, none⟩) (World.block_lt_of_cell? _ _ h1)).trans h1, h2⟩
theorem info_nodes : (Tryd.prog.info? 23).map (fun i => (i.zero, i.size, i.bytes)) = some (some (.slice none 0 0), 1, 24) := by kernel_rfl
end
section
open Go.RowKit
theorem from_beg {ns : List Nd} {k i : Nat} {r : Int} (hk : k ≤ ns.length) (hb : begP ns k i) (h : fromP (ns.take k) r) : r = i := by
 have hlen : (ns.take k).length = k := by simp; omega
 obtain ⟨b1, b2, b3⟩ := hb
 rcases h with ⟨i', rfl, h1, h2, h3⟩ | ⟨rfl, h1⟩
 ·rw [hlen] at h1 h3
  have : i' = i := by
   rcases Nat.lt_trichotomy i' i with h | h | h
   ·have := h3 i h (by omega); omega
   ·exact h
   ·have := b3 i' h (by omega); omega
  omega
 ·have := h1 i (by rw [hlen]; omega)
  omega
theorem nhead_run (a : Option Addr) (n cap hi : Nat) (h2 : hi ≤ n) (h3 : n ≤ cap) : ∀ w : World, (Instr.slice 23 (.slice a n cap) none (some (.int .i64 (hi : Int))) none).run Tryd.prog w = .ok (.slice a hi cap) w := by
 intro w
 have hz : Tryd.prog.elem 23 = 32 := by kernel_rfl
 have hs : (sizeOf 32).run Tryd.prog w = .ok 3 w := by kernel_rfl
 rw [run_slice_h w 23 a n cap (by rw [hz]; exact Tryd.underlying23) .i64 _ (by omega) (by omega), hz, hs]
 simp only [Result.andThen, sliced, Int.toNat_natCast, Nat.sub_zero, Nat.zero_mul]
 have e : (if cap = 0 then a else a.map (·.add 0)) = a := by
  split
  ·rfl
  ·cases a <;> simp [Addr.add]
 rw [e]
def KRow (w0 w : World) (N : Nat) (v : Value) (e : List Nd) (b : Nat → Nat) (A i : Nat) : Prop :=
 ∃ (B cap : Nat) (vs : List Value), v = .slice (some ⟨B, 0, none⟩) (A - i) cap ∧ A - i ≤ cap ∧ cap ≤ 9223372036854775807 ∧ N ≤ B ∧ B < w.heap.size ∧ vs.length = A - i ∧ ∀ j (h : j < vs.length), w.cell? ⟨B, j, none⟩ = some vs[j] ∧ Nodes w0 vs[j] (kid e b (i + j))
theorem KRow.below {w0 w w' : World} {N : Nat} {v : Value} {e : List Nd} {b : Nat → Nat} {A i : Nat} (h : KRow w0 w N v e b A i) (hb : Below w.heap.size w w') : KRow w0 w' N v e b A i := by
 obtain ⟨B, cap, vs, rfl, h1, h2, h3, h4, h5, h6⟩ := h
 refine ⟨B, cap, vs, rfl, h1, h2, h3, Nat.lt_of_lt_of_le h4 hb.size, h5, fun j hj => ⟨(hb.cell (p := ⟨B, j, none⟩) h4).trans (h6 j hj).1, (h6 j hj).2⟩⟩
theorem KRow.kids {w0 w : World} {N : Nat} {v : Value} {e : List Nd} {b : Nat → Nat} {A : Nat} (h : KRow w0 w N v e b A 0) : Kids w0 w N v e b A := by
 obtain ⟨B, cap, vs, rfl, h1, h2, h3, h4, h5, h6⟩ := h
 rw [Nat.sub_zero] at *
 refine ⟨_, cap, rfl, h1, h2, fun _ => ⟨B, rfl, h3, h4, fun i hi => ?_⟩⟩
 have := h6 i (by omega)
 rw [Nat.zero_add] at this
 exact ⟨_, this⟩
theorem nodes_one {w : World} {v : Value} {ns : List Nd} (h : Nodes w v ns) : v.oneCell' = true := by
 obtain ⟨a, cap, rfl, _⟩ := h
 rfl
theorem addr0 (g j : Nat) : (⟨g, 0, none⟩ : Addr).add j = ⟨g, j, none⟩ := by
 simp [Addr.add]
 try (intro h; omega)
theorem KRow.cons {w0 w w' : World} {N : Nat} {v' u : Value} {vs : List Value} {e : List Nd} {b : Nat → Nat} {A i n : Nat} (hi : i < A) (hvl : vs.length = A - (i + 1)) (hvs : ∀ j (h : j < vs.length), Nodes w0 vs[j] (kid e b (i + 1 + j))) (hu : Nodes w0 u (kid e b i)) (hown : w'.ownsRow N 23 1 v' (1 + n) ([u] ++ vs)) (hn : n = A - (i + 1)) : KRow w0 w' N v' e b A i := by
 have hown0 := hown
 obtain ⟨hlen, h⟩ := hown
 rcases h with ⟨_, h0⟩ | ⟨g, cap, cur, rfl, hg, hh, hc1, hc2, hc3, hc4⟩
 ·omega
 ·refine ⟨g, cap, u :: vs, by rw [show 1 + n = A - i by omega], by omega, by simp only [maxLen] at hc2; omega, hg, (Array.getElem?_eq_some_iff.1 hh).1, by simp; omega, fun j hj => ?_⟩
  have hcell := hown0.cells (g := g) rfl j ((u :: vs)[j]) (by simp [List.getElem?_eq_getElem hj])
  rw [addr0] at hcell
  refine ⟨hcell, ?_⟩
  cases j with
  | zero => simpa using hu
  | succ j =>
   have := hvs j (by simpa using hj)
   simpa [Nat.add_comm, Nat.add_left_comm, Nat.add_assoc] using this
set_option maxRecDepth 20000 in
set_option maxHeartbeats 1000000 in
theorem kids_any (w0 : World) (v : Value) (e : List Nd) (A : Nat) (b : Nat → Nat) (w : World) (hl : e.length ≤ 1048576) (hc : Nodes w0 v e) (hB0 : Below w0.heap.size w0 w) (hb : Cut e A b) :
  Calls Tryd.prog 42 #[v] w fun r w' => ∃ v', r = .returned v' ∧ Kids w0 w' w.heap.size v' e b A ∧ Below w.heap.size w w' := by
 have HN : Hid (Nodes w0 v e) := hc
 have HB0 : Hid (Below w0.heap.size w0 w) := hB0
 have HB : Hid (Cut e A b) := hb
 obtain ⟨a, cap, rfl, hcl, hcm, -⟩ := hc
 have hpos := hb.len
 obtain ⟨m, hm⟩ : ∃ m, e.length = m + 1 := ⟨e.length - 1, by omega⟩
 have hA6 := hb.arA
 have hA6' : (A : Int) ≤ 6 := by omega
 obtain ⟨i0, hi, hz0, hz1, hz2⟩ := info_parts info_nodes
 have HR : Hid (∀ W : World, Below w.heap.size w W → Calls Tryd.prog 41 #[.slice a e.length cap] W fun r w' => r = .returned (.agg #[.int .i64 (rootN e).kind, .int .i64 (rootN e).val, .string (rootN e).name]) ∧ Below W.heap.size W w') := fun W hW => by
  have := root_any _ e W hpos hl (HN.out.below (HB0.out.trans (hW.mono HB0.out.size)))
  rw [← rootN_eq e hpos] at this
  exact this
 have HA : Hid (∀ W : World, Calls Tryd.prog 62 #[.agg #[.int .i64 (rootN e).kind, .int .i64 (rootN e).val, .string (rootN e).name]] W fun r w' => r = .returned (.int .i64 A) ∧ Below W.heap.size W w') := fun W => by
  have := arity_nd (rootN e) W
  rw [hb.ar] at this
  exact this
 generalize (rootN e).kind = rk at HR HA
 generalize (rootN e).val = rv at HR HA
 generalize (rootN e).name = rn at HR HA
 have HM : Hid (e.length = m + 1) := hm
 have e1 : ((m + 1 : Nat) : Int) - 1 = (m : Int) := by omega
 rw [hm] at hl hcl hpos HN HR ⊢
 clear hb hB0 hm
 have hnr := nhead_run a (m + 1) cap m (by omega) hcl
 go_enter Tryd.func42, Tryd.ntmps42
 go_wp2_with fail
 refine (HR.out _ ((Below.refl _ _).alloc (Nat.le_refl _) _)).mono ?_
 rintro x w1 ⟨rfl, hb1⟩
 go_wp2_with fail
 refine (HA.out w1).mono ?_
 rintro x w2 ⟨rfl, hb2⟩
 have hbW : Below w.heap.size w w2 := (((Below.refl _ _).alloc (Nat.le_refl _) _).trans (hb1.mono (by simp))).trans (hb2.mono (by have := hb1.size; simp at this; omega))
 have hs1 := hb1.size
 have hs2 := hb2.size
 simp only [World.size_alloc] at hs1
 have HK0 : Hid (KRow w0 w2 w.heap.size (.slice (some ⟨w.heap.size, 0, none⟩) 0 0) e b A A) := ⟨w.heap.size, 0, [], by rw [Nat.sub_self], by omega, by omega, Nat.le_refl _, by omega, by simp, fun j hj => absurd hj (by simp)⟩
 have HBW : Hid (Below w.heap.size w w2) := hbW
 clear hb1 hb2 hbW hs1 hs2 hnr
 go_wp2_with fail
 go_loopw [3, 4, 5] (fun rs ot ix wr => ∃ (k : Nat), k ≤ A ∧ ix = .int .i64 (k : Int) ∧ rs = .slice a (b k) cap ∧ KRow w0 wr w.heap.size ot e b A k ∧ Below w.heap.size w wr) (fun _ _ ix _ => (RowKit.intOf ix).toNat)
 case atStart => exact ⟨A, Nat.le_refl _, rfl, by rw [HB.out.last, HM.out]; rfl, HK0.out, HBW.out⟩
 case round =>
  obtain ⟨k, hk, rfl, rfl, hK, hB⟩ := hrel
  have HK : Hid _ := hK
  rcases Nat.eq_zero_or_pos k with rfl | hk0
  ·have HKs : Hid (Kids w0 wr w.heap.size u4 e b A) := hK.kids
   clear hK
   go_wp2_with fail
   exact bodyPost_ret (v := u4) (by simp [results, Tryd.results42, go_sem]) rfl ⟨_, rfl, HKs.out, hB⟩
  ·obtain ⟨i, rfl⟩ : ∃ i, k = i + 1 := ⟨k - 1, by omega⟩
   have hbe := (HB.out.beg i (by omega)).1
   have hble := HB.out.le' (i + 1) (by omega)
   rw [HM.out] at hble
   have HC : Hid (Calls Tryd.prog 40 #[.slice a (b (i + 1)) cap] wr fun x w' => x = .returned (.int .i64 (b i)) ∧ Below wr.heap.size wr w') := by
    have hNh : Nodes wr (.slice a (b (i + 1)) cap) (e.take (b (i + 1))) := (Nodes.head (by rw [HM.out]; exact HN.out.below (HB0.out.trans (hB.mono HB0.out.size))) (b (i + 1)) (by rw [HM.out]; omega))
    refine (from_any _ (e.take (b (i + 1))) wr (by simp; omega) (fun n hn => HB.out.good n (List.mem_of_mem_take hn)) hNh).mono ?_
    rintro x w' ⟨r, hf, -, -, rfl, hb⟩
    rw [from_beg (by rw [HM.out]; omega) (HB.out.beg i (by omega)) hf]
    exact ⟨rfl, hb⟩
   have hcut := ncut_run_l a (b (i + 1)) cap (b i) (by omega) (by omega)
   have hhd := nhead_run a (b (i + 1)) cap (b i) (by omega) (by omega)
   have HNC : Hid (Nodes w0 (.slice (if cap = b i then a else a.map (·.add (b i * 3))) (b (i + 1) - b i) (cap - b i)) (kid e b i)) := Nodes.cut (by rw [HM.out]; exact HN.out) (b i) (b (i + 1)) (by omega) (by rw [HM.out]; omega)
   generalize (if cap = b i then a else a.map (·.add (b i * 3))) = ua at hcut HNC
   generalize b (i + 1) - b i = un at hcut HNC
   generalize cap - b i = uc at hcut HNC
   obtain ⟨B, kc, vs, rfl, k1, k2, k3, k4, k5, k6⟩ := hK
   have HV : Hid (∀ j (h : j < vs.length), Nodes w0 vs[j] (kid e b (i + 1 + j))) := fun j hj => (k6 j hj).2
   have HVC : Hid (∀ j (h : j < vs.length), wr.cell? ⟨B, j, none⟩ = some vs[j]) := fun j hj => (k6 j hj).1
   clear k6 HK
   generalize hbi : b i = bi at *
   generalize hbi1 : b (i + 1) = bi1 at *
   go_wp2_with fail
   refine HC.out.mono ?_
   rintro x w3 ⟨rfl, hb3⟩
   have hB3 := hB.trans (hb3.mono hB.size)
   have HNews : Hid (∀ o j u, vs[j]? = some u → (w3.alloc o).cell? ((⟨B, 0, none⟩ : Addr).add j) = some u) := fun o j u hj => by
    obtain ⟨hlt, rfl⟩ := List.getElem?_eq_some_iff.1 hj
    rw [addr0, ((hb3.alloc hb3.size o)).cell (p := ⟨B, j, none⟩) k4]
    exact HVC.out j hlt
   have HOne : Hid (∀ u ∈ vs, u.oneCell' = true) := fun u hu => by
    obtain ⟨j, hj, rfl⟩ := List.mem_iff_getElem.1 hu
    exact nodes_one (HV.out j hj)
   have hs3 := hB3.size
   have hs3' := hb3.size
   go_wp2_with (at_builtin; refine wpList_append_own _ rfl _ _ 103 rfl w.heap.size 23 i0 (.slice none 0 0) 1 24 Tryd.underlying103 hi hz0 hz1 hz2 rfl (by decide) _ 1 [.slice ua un uc] rfl (World.ownsRow_lit w3 #[.slice ua un uc] 1 hs3 (by decide) rfl) ⟨B, 0, none⟩ (A - (i + 1)) kc vs rfl (by rw [k5, Nat.mul_one]) (HNews.out _) HOne.out (by unfold maxLen; omega) (by omega) (by simp; omega) ?_)
   intro v' w4 hown hgrow _
   have hB4 : Below w.heap.size w w4 := (hB3.alloc hs3 _).grown hgrow (by simp; omega) (fun k hk => by simp only [Value.ownBlock, Option.some.injEq] at hk; omega)
   have HKc : Hid (KRow w0 w4 w.heap.size v' e b A i) := KRow.cons (w := w) (by omega) k5 HV.out HNC.out hown rfl
   clear hown hgrow
   go_wp2_with fail
   go_roundw
   case rel => exact ⟨i, by omega, by go_num, by rw [hbi], HKc.out, hB4⟩
   case measure => simp [RowKit.intOf]
end
section
open Go.RowKit
theorem Tv.bel {w w' : World} {S : Nat → Prop} {v : Value} {r : List Nd} (h : Tv w S v r) (hS : ∀ B, S B → B < w.heap.size) (hb : Below w.heap.size w w') : Tv w' S v r := h.keep (fun _ h => h) (fun B hB => hb.block B (hS B hB))
theorem size0 {s : ByteArray} (h : s.toList = []) : s = ⟨#[]⟩ := by
 have hl : ∀ (n : Nat) (i : Nat) (r : List UInt8), s.size - i = n → ByteArray.toList.loop s i r = [] → r = [] := by
  intro n
  induction n with
  | zero =>
   intro i r hi h
   rw [ByteArray.toList.loop, if_neg (by omega)] at h
   simpa using h
  | succ n ih =>
   intro i r hi h
   rw [ByteArray.toList.loop, if_pos (by omega)] at h
   have := ih (i + 1) _ (by omega) h
   simp at this
 have h0 : s.size = 0 := by
  rcases Nat.eq_zero_or_pos s.size with h0 | hp
  ·exact h0
  ·rw [ByteArray.toList, ByteArray.toList.loop, if_pos hp] at h
   have := hl _ _ _ rfl h
   simp at this
 apply ByteArray.ext
 exact Array.eq_empty_of_size_eq_zero h0
theorem node_rest {n : Nd} (h : nodeB n = true) : (n.kind = 1 ∨ n.kind = 5 ∨ n.kind = 6 ∨ n.kind = 7 ∨ n.kind = 8 ∨ n.kind = 9 → n.name = ⟨#[]⟩) ∧ (n.kind = 2 ∨ n.kind = 3 ∨ n.kind = 5 ∨ n.kind = 8 ∨ n.kind = 9 → n.val = 0) := by
 unfold nodeB at h
 refine ⟨fun hk => ?_, fun hk => ?_⟩
 ·apply size0
  rcases hk with hk | hk | hk | hk | hk | hk <;> (simp [hk] at h; exact h.2)
 ·rcases hk with hk | hk | hk | hk | hk <;> (simp [hk] at h; exact h.1)
def nodeV (n : Nd) (ar : Value) (vs : Nat → Value) : Value :=
 if n.kind = 1 then .iface 91 (.agg #[.int .i64 n.val])
 else if n.kind = 2 then .iface 121 (.agg #[.string n.name])
 else if n.kind = 3 then .iface 123 (.agg #[.string n.name, vs 0])
 else if n.kind = 4 then .iface 125 (.agg #[.string n.name, ar])
 else if n.kind = 6 then .iface 89 (.agg #[.int .i64 n.val, vs 0])
 else if n.kind = 7 then .iface 95 (.agg #[.int .i64 n.val, vs 0, vs 1])
 else if n.kind = 8 then .iface 98 (.agg #[vs 0, vs 1])
 else if n.kind = 9 then .iface 100 (.agg #[vs 0, vs 1])
 else .iface 128 (.agg #[])
set_option maxRecDepth 100000 in
set_option maxHeartbeats 4000000 in
theorem nodeOf_any (n : Nd) (hn : nodeB n = true) (A : Nat) (hA : arity n = A) (S : Nat → Prop) (ar : Value) (vs : Nat → Value) (w : World) (ha : Args w S ar A vs) (hI : ∀ i, i < A → ∃ t x, vs i = .iface t x) :
  Calls Tryd.prog 35 #[.agg #[.int .i64 n.kind, .int .i64 n.val, .string n.name], ar] w fun e w' => e = .returned (nodeV n ar vs) ∧ Below w.heap.size w w' := by
 have hkk := kind_good hn
 obtain ⟨nk, nv, nm⟩ := n
 obtain ⟨a, cap, rfl, hc1, hc2, hc⟩ := ha
 simp only at hkk ⊢
 have hk : nk = 1 ∨ nk = 2 ∨ nk = 3 ∨ nk = 4 ∨ nk = 5 ∨ nk = 6 ∨ nk = 7 ∨ nk = 8 ∨ nk = 9 := by omega
 have bx : ∀ o, Below w.heap.size w (w.alloc o) := fun o => (Below.refl _ _).alloc (Nat.le_refl _) o
 rcases hk with rfl | rfl | rfl | rfl | rfl | rfl | rfl | rfl | rfl
 ·go_enter Tryd.func35, Tryd.ntmps35
  go_wp2_with fail
  go_ret
  exact ⟨rfl, bx _⟩
 ·go_enter Tryd.func35, Tryd.ntmps35
  go_wp2_with fail
  go_ret
  exact ⟨rfl, bx _⟩
 ·have e1 : A = 1 := by simp [arity] at hA; omega
  subst e1
  obtain ⟨B, rfl, -, hcc⟩ := hc (by omega)
  have hlt := World.block_lt_of_cell? _ _ (hcc 0 (by omega))
  have q0 : ∀ o, (w.alloc o).cell? ⟨B, 0, none⟩ = some (vs 0) := fun o => ((bx o).cell (p := ⟨B, 0, none⟩) hlt).trans (hcc 0 (by omega))
  obtain ⟨t0, x0, h0⟩ := hI 0 (by omega)
  have HE : Hid (nodeV ⟨3, nv, nm⟩ (.slice (some ⟨B, 0, none⟩) 1 cap) vs = .iface 123 (.agg #[.string nm, vs 0])) := rfl
  rw [HE.out]
  rw [h0] at q0 ⊢
  clear hc hcc hI
  go_enter Tryd.func35, Tryd.ntmps35
  go_wp2_with fail
  go_quiet (fail)
  go_wp2_with fail
  go_ret
  exact ⟨rfl, below_drewN (bx _) _⟩
 ·have HE : Hid (nodeV ⟨4, nv, nm⟩ (.slice a A cap) vs = .iface 125 (.agg #[.string nm, .slice a A cap])) := rfl
  rw [HE.out]
  clear hc hI
  go_enter Tryd.func35, Tryd.ntmps35
  go_wp2_with fail
  go_ret
  exact ⟨rfl, bx _⟩
 ·go_enter Tryd.func35, Tryd.ntmps35
  go_wp2_with fail
  go_ret
  exact ⟨rfl, bx _⟩
 ·have e1 : A = 1 := by simp [arity] at hA; omega
  subst e1
  obtain ⟨B, rfl, -, hcc⟩ := hc (by omega)
  have hlt := World.block_lt_of_cell? _ _ (hcc 0 (by omega))
  have q0 : ∀ o, (w.alloc o).cell? ⟨B, 0, none⟩ = some (vs 0) := fun o => ((bx o).cell (p := ⟨B, 0, none⟩) hlt).trans (hcc 0 (by omega))
  obtain ⟨t0, x0, h0⟩ := hI 0 (by omega)
  have HE : Hid (nodeV ⟨6, nv, nm⟩ (.slice (some ⟨B, 0, none⟩) 1 cap) vs = .iface 89 (.agg #[.int .i64 nv, vs 0])) := rfl
  rw [HE.out]
  rw [h0] at q0 ⊢
  clear hc hcc hI
  go_enter Tryd.func35, Tryd.ntmps35
  go_wp2_with fail
  go_quiet (fail)
  go_wp2_with fail
  go_ret
  exact ⟨rfl, below_drewN (bx _) _⟩
 all_goals
  have e1 : A = 2 := by simp [arity] at hA; omega
  subst e1
  obtain ⟨B, rfl, -, hcc⟩ := hc (by omega)
  have hlt := World.block_lt_of_cell? _ _ (hcc 0 (by omega))
  have q0 : ∀ o, (w.alloc o).cell? ⟨B, 0, none⟩ = some (vs 0) := fun o => ((bx o).cell (p := ⟨B, 0, none⟩) hlt).trans (hcc 0 (by omega))
  have q1 : ∀ o, (w.alloc o).cell? ⟨B, 1, none⟩ = some (vs 1) := fun o => ((bx o).cell (p := ⟨B, 1, none⟩) hlt).trans (hcc 1 (by omega))
  obtain ⟨t0, x0, h0⟩ := hI 0 (by omega)
  obtain ⟨t1, x1, h1⟩ := hI 1 (by omega)
  clear hc hcc hI
 ·have HE : Hid (nodeV ⟨7, nv, nm⟩ (.slice (some ⟨B, 0, none⟩) 2 cap) vs = .iface 95 (.agg #[.int .i64 nv, vs 0, vs 1])) := rfl
  rw [HE.out]
  rw [h0] at q0
  rw [h1] at q1
  rw [h0, h1]
  go_enter Tryd.func35, Tryd.ntmps35
  go_wp2_with fail
  go_quiet (fail)
  go_wp2_with fail
  go_ret
  exact ⟨rfl, below_drewN (bx _) _⟩
 ·have HE : Hid (nodeV ⟨8, nv, nm⟩ (.slice (some ⟨B, 0, none⟩) 2 cap) vs = .iface 98 (.agg #[vs 0, vs 1])) := rfl
  rw [HE.out]
  rw [h0] at q0
  rw [h1] at q1
  rw [h0, h1]
  go_enter Tryd.func35, Tryd.ntmps35
  go_wp2_with fail
  go_quiet (fail)
  go_wp2_with fail
  go_ret
  exact ⟨rfl, below_drewN (bx _) _⟩
 ·have HE : Hid (nodeV ⟨9, nv, nm⟩ (.slice (some ⟨B, 0, none⟩) 2 cap) vs = .iface 100 (.agg #[vs 0, vs 1])) := rfl
  rw [HE.out]
  rw [h0] at q0
  rw [h1] at q1
  rw [h0, h1]
  go_enter Tryd.func35, Tryd.ntmps35
  go_wp2_with fail
  go_quiet (fail)
  go_wp2_with fail
  go_ret
  exact ⟨rfl, below_drewN (bx _) _⟩
theorem nodeT (n : Nd) (hn : nodeB n = true) (A : Nat) (hA : arity n = A) (w : World) (S : Nat → Prop) (ar : Value) (vs : Nat → Value) (F : Nat → List Nd) (ha : Args w S ar A vs) (hv : ∀ i, i < A → Tv w S (vs i) (F i)) : Tv w S (nodeV n ar vs) (joinF F A ++ [n]) := by
 have hkk := kind_good hn
 obtain ⟨hr1, hr2⟩ := node_rest hn
 obtain ⟨nk, nv, nm⟩ := n
 simp only at hkk hr1 hr2
 have hk : nk = 1 ∨ nk = 2 ∨ nk = 3 ∨ nk = 4 ∨ nk = 5 ∨ nk = 6 ∨ nk = 7 ∨ nk = 8 ∨ nk = 9 := by omega
 rcases hk with rfl | rfl | rfl | rfl | rfl | rfl | rfl | rfl | rfl
 ·obtain rfl := hr1 (by omega)
  have e1 : A = 0 := by simp [arity] at hA; omega
  subst e1
  exact .num nv
 ·obtain rfl := hr2 (by omega)
  have e1 : A = 0 := by simp [arity] at hA; omega
  subst e1
  exact .var nm
 ·obtain rfl := hr2 (by omega)
  have e1 : A = 1 := by simp [arity] at hA; omega
  subst e1
  exact .index nm _ _ (hv 0 (by omega))
 ·have e1 : nv = A := by simp [arity] at hA; omega
  subst e1
  exact .call nm ar A vs F ha hv
 ·obtain rfl := hr1 (by omega)
  obtain rfl := hr2 (by omega)
  have e1 : A = 0 := by simp [arity] at hA; omega
  subst e1
  exact .inn
 ·obtain rfl := hr1 (by omega)
  have e1 : A = 1 := by simp [arity] at hA; omega
  subst e1
  exact .un nv _ _ (hv 0 (by omega))
 ·obtain rfl := hr1 (by omega)
  have e1 : A = 2 := by simp [arity] at hA; omega
  subst e1
  exact .bin nv _ _ _ _ (hv 0 (by omega)) (hv 1 (by omega))
 ·obtain rfl := hr1 (by omega)
  obtain rfl := hr2 (by omega)
  have e1 : A = 2 := by simp [arity] at hA; omega
  subst e1
  exact .and _ _ _ _ (hv 0 (by omega)) (hv 1 (by omega))
 ·obtain rfl := hr1 (by omega)
  obtain rfl := hr2 (by omega)
  have e1 : A = 2 := by simp [arity] at hA; omega
  subst e1
  exact .or _ _ _ _ (hv 0 (by omega)) (hv 1 (by omega))
end
section
open Go.RowKit
def Ints (w : World) (v : Value) (l : List Int) : Prop := ∃ a cap, v = .slice a l.length cap ∧ (0 < l.length → ∃ b, a = some ⟨b, 0, none⟩ ∧ ∀ j (h : j < l.length), w.cell? ⟨b, j, none⟩ = some (.int .i64 l[j]))
theorem Ints.below {w w' : World} {v : Value} {l : List Int} (h : Ints w v l) (hb : Below w.heap.size w w') : Ints w' v l := by
 obtain ⟨a, cap, rfl, h⟩ := h
 refine ⟨a, cap, rfl, fun h0 => ?_⟩
 obtain ⟨b, rfl, hc⟩ := h h0
 exact ⟨b, rfl, fun j hj => (hb.cell (p := ⟨b, j, none⟩) (World.block_lt_of_cell? _ _ (hc j hj))).trans (hc j hj)⟩
theorem own_ints {w : World} {N : Nat} {v : Value} {l : List Int} (h : w.ownsRow N 2 1 v l.length (l.map (Value.int .i64))) : Ints w v l := by
 have h0 := h
 obtain ⟨hl, h⟩ := h
 rcases h with ⟨rfl, hz⟩ | ⟨g, cap, cur, rfl, hg, hh, hc1, hc2, hc3, hc4⟩
 ·exact ⟨none, 0, by rw [hz], fun h => absurd h (by omega)⟩
 ·refine ⟨_, cap, rfl, fun _ => ⟨g, rfl, fun j hj => ?_⟩⟩
  have := h0.cells (g := g) rfl j (.int .i64 l[j]) (by simp [hj])
  have e : (⟨g, 0, none⟩ : Addr).add j = ⟨g, j, none⟩ := by simp only [Addr.add]; split <;> simp_all
  rw [e] at this
  exact this
theorem ownb_keep {w w' : World} {N : Nat} {v : Value} {n : Nat} {xs : List Value} (h : w.ownsRow N 2 1 v n xs) (hb : ∀ g, N ≤ g → g < w.heap.size → w'.heap[g]? = w.heap[g]?) : w'.ownsRow N 2 1 v n xs := by
 obtain ⟨g1, g2⟩ := h
 refine ⟨g1, ?_⟩
 rcases g2 with g2 | ⟨g, cap, cur, rfl, g3, g4, g5⟩
 ·exact .inl g2
 ·refine .inr ⟨g, cap, cur, rfl, g3, ?_, g5⟩
  rw [hb g g3 (Array.getElem?_eq_some_iff.1 g4).1]
  exact g4
theorem ownb_below {w w' : World} {N : Nat} {v : Value} {n : Nat} {xs : List Value} (h : w.ownsRow N 2 1 v n xs) (hb : Below w.heap.size w w') : w'.ownsRow N 2 1 v n xs := ownb_keep h fun g _ hg => hb.block g hg
end
section
open Go.RowKit
theorem nameB_empty {s : ByteArray} (h : nameB s = true) : (s.toList == []) = false := by
 have hp := ((nameB_iff s).1 h).1
 have hl : s.toList.length = s.size := by rw [ByteArray.toList_eq]; simp
 cases e : (s.toList == [])
 ·rfl
 ·have e' : s.toList = [] := by simpa using e
  rw [e'] at hl
  simp at hl
  omega
theorem run_kind (x y : Int) (z : ByteArray) (w : World) : (Instr.field 32 (.agg #[.int .i64 x, .int .i64 y, .string z]) 0).run Tryd.prog w = .ok (.int .i64 x) w := by kernel_rfl
theorem box6 {w w' : World} {t : TypeId} {x0 x1 x2 x3 x4 x5 : Value} (h : Below (w.heap.size + 1) (w.alloc (.cells #[x0, x1, x2, x3, x4, x5] t)) w') :
  w'.cell? ⟨w.heap.size, 0, none⟩ = some x0 ∧ w'.cell? ⟨w.heap.size, 1, none⟩ = some x1 ∧ w'.cell? ⟨w.heap.size, 2, none⟩ = some x2 ∧ w'.cell? ⟨w.heap.size, 3, none⟩ = some x3 ∧ w'.cell? ⟨w.heap.size, 4, none⟩ = some x4 ∧ w'.cell? ⟨w.heap.size, 5, none⟩ = some x5 := by
 refine ⟨?_, ?_, ?_, ?_, ?_, ?_⟩ <;> (rw [h.cell (by simp)]; simp)
theorem one_below {w w' : World} {a : Obj} (h : Below (w.heap.size + 1) (w.alloc a) w') : Below w.heap.size w w' :=
 ((Below.refl _ _).alloc (Nat.le_refl _) _).trans (h.mono (by omega))
end
end Go.Proofs.YtolkpkklinoegaaDoor
namespace Go.Proofs.YtolkpkklinoegaaDoor
set_option linter.unusedVariables false
set_option linter.unusedSimpArgs false
set_option maxRecDepth 100000
set_option maxHeartbeats 16000000
section
open Go.RowKit
def StmtsC (w : World) (b off : Nat) (ss : List St) : Prop := ∀ j (h : j < ss.length), ∃ ve vf,
 (w.cell? ⟨b, off + j * 6, none⟩ = some (.int .i64 ss[j].kind) ∧ w.cell? ⟨b, off + j * 6 + 1, none⟩ = some (.string ss[j].name) ∧ w.cell? ⟨b, off + j * 6 + 2, none⟩ = some ve ∧ w.cell? ⟨b, off + j * 6 + 3, none⟩ = some vf ∧ w.cell? ⟨b, off + j * 6 + 4, none⟩ = some (.int .i64 ss[j].thn) ∧ w.cell? ⟨b, off + j * 6 + 5, none⟩ = some (.int .i64 ss[j].els)) ∧ Nodes w ve ss[j].e ∧ Nodes w vf ss[j].f
theorem StmtsC.below {w w' : World} {b off : Nat} {ss : List St} (h : StmtsC w b off ss) (hb : Below w.heap.size w w') : StmtsC w' b off ss := by
 intro j hj
 obtain ⟨ve, vf, ⟨c0, c1, c2, c3, c4, c5⟩, he, hf⟩ := h j hj
 have hlt := World.block_lt_of_cell? _ _ c0
 exact ⟨ve, vf, ⟨(hb.cell (p := ⟨b, off + j * 6, none⟩) hlt).trans c0, (hb.cell (p := ⟨b, off + j * 6 + 1, none⟩) hlt).trans c1, (hb.cell (p := ⟨b, off + j * 6 + 2, none⟩) hlt).trans c2, (hb.cell (p := ⟨b, off + j * 6 + 3, none⟩) hlt).trans c3, (hb.cell (p := ⟨b, off + j * 6 + 4, none⟩) hlt).trans c4, (hb.cell (p := ⟨b, off + j * 6 + 5, none⟩) hlt).trans c5⟩, he.below hb, hf.below hb⟩
def Stmts (w : World) (v : Value) (ss : List St) : Prop := ∃ a cap, v = .slice a ss.length cap ∧ ss.length ≤ cap ∧ cap ≤ 9223372036854775807 ∧ (0 < ss.length → ∃ b off, a = some ⟨b, off, none⟩ ∧ StmtsC w b off ss)
theorem Stmts.below {w w' : World} {v : Value} {ss : List St} (h : Stmts w v ss) (hb : Below w.heap.size w w') : Stmts w' v ss := by
 obtain ⟨a, cap, rfl, hl, hm, h⟩ := h
 refine ⟨a, cap, rfl, hl, hm, fun h0 => ?_⟩
 obtain ⟨b, off, rfl, hc⟩ := h h0
 exact ⟨b, off, rfl, hc.below hb⟩
theorem StmtsC.up {w : World} {b off : Nat} {ss : List St} (h : StmtsC w b off ss) (j : Nat) (hj : j < ss.length) : ∃ ve vf, ((∀ o, (w.alloc o).cell? ⟨b, off + j * 6, none⟩ = some (.int .i64 ss[j].kind)) ∧ (∀ o, (w.alloc o).cell? ⟨b, off + j * 6 + 1, none⟩ = some (.string ss[j].name)) ∧ (∀ o, (w.alloc o).cell? ⟨b, off + j * 6 + 2, none⟩ = some ve) ∧ (∀ o, (w.alloc o).cell? ⟨b, off + j * 6 + 3, none⟩ = some vf) ∧ (∀ o, (w.alloc o).cell? ⟨b, off + j * 6 + 4, none⟩ = some (.int .i64 ss[j].thn)) ∧ (∀ o, (w.alloc o).cell? ⟨b, off + j * 6 + 5, none⟩ = some (.int .i64 ss[j].els))) ∧
  (w.cell? ⟨b, off + j * 6, none⟩ = some (.int .i64 ss[j].kind) ∧ w.cell? ⟨b, off + j * 6 + 1, none⟩ = some (.string ss[j].name) ∧ w.cell? ⟨b, off + j * 6 + 2, none⟩ = some ve ∧ w.cell? ⟨b, off + j * 6 + 3, none⟩ = some vf ∧ w.cell? ⟨b, off + j * 6 + 4, none⟩ = some (.int .i64 ss[j].thn) ∧ w.cell? ⟨b, off + j * 6 + 5, none⟩ = some (.int .i64 ss[j].els)) ∧ Nodes w ve ss[j].e ∧ Nodes w vf ss[j].f := by
 obtain ⟨ve, vf, ⟨c0, c1, c2, c3, c4, c5⟩, he, hf⟩ := h j hj
 have hlt := World.block_lt_of_cell? _ _ c0
 have hb : ∀ o, Below w.heap.size w (w.alloc o) := fun o => (Below.refl _ _).alloc (Nat.le_refl _) o
 exact ⟨ve, vf, ⟨fun o => ((hb o).cell (p := ⟨b, off + j * 6, none⟩) hlt).trans c0, fun o => ((hb o).cell (p := ⟨b, off + j * 6 + 1, none⟩) hlt).trans c1, fun o => ((hb o).cell (p := ⟨b, off + j * 6 + 2, none⟩) hlt).trans c2, fun o => ((hb o).cell (p := ⟨b, off + j * 6 + 3, none⟩) hlt).trans c3, fun o => ((hb o).cell (p := ⟨b, off + j * 6 + 4, none⟩) hlt).trans c4, fun o => ((hb o).cell (p := ⟨b, off + j * 6 + 5, none⟩) hlt).trans c5⟩, ⟨c0, c1, c2, c3, c4, c5⟩, he, hf⟩
theorem Stmts.cut {w : World} {a : Option Addr} {cap : Nat} {ss : List St} (h : Stmts w (.slice a ss.length cap) ss) (lo hi : Nat) (h1 : lo ≤ hi) (h2 : hi ≤ ss.length) :
  Stmts w (.slice (if cap = lo then a else a.map (·.add (lo * 6))) (hi - lo) (cap - lo)) ((ss.take hi).drop lo) := by
 obtain ⟨a', cap', he, hl, hm, h⟩ := h
 simp only [Value.slice.injEq, true_and] at he
 obtain ⟨rfl, rfl⟩ := he
 refine ⟨if cap = lo then a else a.map (·.add (lo * 6)), cap - lo, by simp [Nat.min_eq_left h2], by simp [Nat.min_eq_left h2]; omega, by omega, fun h0 => ?_⟩
 simp only [List.length_drop, List.length_take, Nat.min_eq_left h2] at h0
 obtain ⟨b, off, rfl, hc⟩ := h (by omega)
 refine ⟨b, off + lo * 6, ?_, fun j hj => ?_⟩
 ·rw [if_neg (by omega)]; simp [Addr.add]
 ·simp only [List.length_drop, List.length_take, Nat.min_eq_left h2] at hj
  obtain ⟨ve, vf, hcc, he, hf⟩ := hc (lo + j) (by omega)
  have e : ((ss.take hi).drop lo)[j]'(by simp; omega) = ss[lo + j]'(by omega) := by simp
  rw [e]
  refine ⟨ve, vf, ?_, he, hf⟩
  have e1 : off + lo * 6 + j * 6 = off + (lo + j) * 6 := by omega
  rw [e1]
  exact hcc
theorem Stmts.head {w : World} {a : Option Addr} {cap : Nat} {ss : List St} (h : Stmts w (.slice a ss.length cap) ss) (hi : Nat) (h2 : hi ≤ ss.length) : Stmts w (.slice a hi cap) (ss.take hi) := by
 have := h.cut 0 hi (Nat.zero_le _) h2
 have e : (if cap = 0 then a else a.map (·.add (0 * 6))) = a := by
  split
  ·rfl
  ·cases a <;> simp [Addr.add]
 rw [e] at this
 simpa using this
theorem cut_run (a : Option Addr) (n cap lo hi : Nat) (h1 : lo ≤ hi) (h2 : hi ≤ n) (h3 : n ≤ cap) : ∀ w : World, (Instr.slice 35 (.slice a n cap) (some (.int .i64 lo)) (some (.int .i64 ((lo : Int) + ((hi - lo : Nat) : Int)))) none).run Tryd.prog w = .ok (.slice (if cap = lo then a else a.map (·.add (lo * 6))) (hi - lo) (cap - lo)) w := by
 intro w
 have hz : Tryd.prog.elem 35 = 34 := by kernel_rfl
 have hs : (sizeOf 34).run Tryd.prog w = .ok 6 w := by kernel_rfl
 rw [run_slice_lh w 35 a n cap (by rw [hz]; exact Tryd.underlying35) .i64 .i64 _ _ (by omega) (by omega) (by omega), hz, hs]
 simp only [Result.andThen, sliced, Int.toNat_natCast]
 have e : (((lo : Int) + ((hi - lo : Nat) : Int))).toNat = hi := by omega
 rw [e]
theorem cut_run_l (a : Option Addr) (n cap lo : Nat) (h2 : lo ≤ n) (h3 : n ≤ cap) (l' : Int) (hl' : l' = lo) : ∀ w : World, (Instr.slice 35 (.slice a n cap) (some (.int .i64 l')) none none).run Tryd.prog w = .ok (.slice (if cap = lo then a else a.map (·.add (lo * 6))) (n - lo) (cap - lo)) w := by
 intro w
 subst hl'
 have hz : Tryd.prog.elem 35 = 34 := by kernel_rfl
 have hs : (sizeOf 34).run Tryd.prog w = .ok 6 w := by kernel_rfl
 rw [run_slice_l w 35 a n cap (by rw [hz]; exact Tryd.underlying35) .i64 _ (by omega) (by omega), hz, hs]
 simp only [Result.andThen, sliced, Int.toNat_natCast]
def lenOf : Value → Nat | .slice _ n _ => n | _ => 0
end
end Go.Proofs.YtolkpkklinoegaaDoor
