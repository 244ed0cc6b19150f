import Derived.Test.YtjhmgjimppflhaaGreatDoorY04
import Derived.Test.YtjhmgjimppflhaaGreatDoorY15
set_option linter.unusedSectionVars false
variable [Inhabited Go.Proofs.YtjhmgjimppflhaaGreatDoor.Pick]
namespace Go.Proofs.YtjhmgjimppflhaaGreatDoor
set_option linter.unusedVariables false
set_option linter.unusedSimpArgs false
set_option maxRecDepth 100000
set_option maxHeartbeats 16000000
section
open Go.RowKit
def bnd (n k m j : Nat) : Prop := n ≤ k * 2097152 + m * 1048576 + j
theorem bnd.zero : bnd 0 0 0 0 := by unfold bnd; omega
theorem bnd.same {n k m j : Nat} (h : bnd n k m j) : bnd n k m (j + 1) := by unfold bnd at *; omega
theorem bnd.more {n k m j : Nat} (h : bnd n k m j) : bnd (n + 1) k m (j + 1) := by unfold bnd at *; omega
theorem bnd.mid {n k m j : Nat} (h : bnd n k m j) (hj : j ≤ 1048576) : bnd n k (m + 1) 0 := by
 have e : ∀ c : Nat, (m + 1) * c = m * c + c := fun c => Nat.succ_mul m c
 unfold bnd at h ⊢
 rw [e]
 revert h hj
 generalize (1048576 : Nat) = c
 omega
theorem bnd.out {n k : Nat} (h : bnd n k 2 0) : bnd n (k + 1) 0 0 := by unfold bnd at *; omega
theorem bnd.le {n k m j : Nat} (h : bnd n k m j) (hk : k ≤ 1048576) (hm : m ≤ 2) (hj : j ≤ 1048576) : n ≤ 10000000000000 := by unfold bnd at *; omega
def upTo (s : St) (m : Nat) : List Nd := if m = 0 then [] else if m = 1 then s.e else s.e ++ s.f
set_option maxRecDepth 100000 in
set_option maxHeartbeats 4000000 in
theorem callsOf_any (fs : List Fu) (f : Fu) (vp vb : Value) (b nn : Nat) (D : DataW Unit) (w : World) (hl : fs.length ≤ 1048576) (hsm : smallF f) (hwf : wfFu f) (hp : Strs w vp f.params) (hb : Stmts w vb f.body)
  (hown : w.ownsMap Tryz.prog 9 (plainElem (H := Unit) Tryz.prog 2) b nn D) (hN : NumIs D fs) :
  Calls Tryz.prog 31 #[.agg #[.string f.name, vp, vb], .map (some b)] w fun e w' => ∃ v, e = .returned v ∧ w'.ownsRow w.heap.size 2 1 v (callsL fs f.body).length ((callsL fs f.body).map (fun g : Nat => Value.int .i64 (g : Int))) ∧ Below w.heap.size w w' := by
 obtain ⟨ap, cp, rfl, -⟩ := hp
 obtain ⟨ab, cb, rfl, -, -, hbc⟩ := hb
 have HBC : Hid (0 < f.body.length → ∃ b off, ab = some ⟨b, off, none⟩ ∧ StmtsC w b off f.body) := hbc
 have HW : Hid (w.ownsMap Tryz.prog 9 (plainElem (H := Unit) Tryz.prog 2) b nn D) := hown
 have HN : Hid (NumIs D fs) := hN
 have HSm : Hid (∀ s ∈ f.body, smallS s) := hsm.2.2
 have HWf : Hid (∀ s ∈ f.body, wfSt s) := hwf.2.2.2
 have hbl : f.body.length ≤ 1048576 := hsm.2.1
 have hblt := hown.lt
 clear hbc hown hN hsm hwf
 generalize f.body = body at hbl HBC HSm HWf ⊢
 have hmm := @run_makeMap Tryz.prog
 go_enter Tryz.func31, Tryz.ntmps31
 go_wp2_with fail
 go_loopw [18] (fun i wr => ∃ (k n2 : Nat) (D2 : DataW Unit), k ≤ body.length ∧ i = .int .i64 k ∧ wr.ownsMap Tryz.prog 2 (plainElem (H := Unit) Tryz.prog 2) (w.heap.size + 1) n2 D2 ∧ bnd n2 k 0 0 ∧ KeysIs D2 (callN fs (nodesOf (body.take k))) ∧ Below w.heap.size w wr) (fun i _ => body.length - (RowKit.intOf i).toNat)
 case atStart => exact ⟨0, 0, .map [], Nat.zero_le _, rfl, by simpa using World.ownsMap_made (w.alloc _) Tryz.prog 2 _, bnd.zero, KeysIs.nil, ((Below.refl _ _).alloc (Nat.le_refl _) _).alloc (by simp) _⟩
 case round =>
  clear hmm
  obtain ⟨k, n2, D2, hk, rfl, hM, hn2, hK, hB⟩ := hrel
  have HM : Hid (wr.ownsMap Tryz.prog 2 (plainElem (H := Unit) Tryz.prog 2) (w.heap.size + 1) n2 D2) := hM
  have HK : Hid (KeysIs D2 (callN fs (nodesOf (body.take k)))) := hK
  clear hM hK
  by_cases hlt : k < body.length
  ·obtain ⟨b', off, rfl, hc⟩ := HBC.out (by omega)
   obtain ⟨ve, vf, ⟨c0, c1, c2, c3, c4, c5⟩, he, hf⟩ := hc k hlt
   have hlb := World.block_lt_of_cell? _ _ c0
   have d0 := (hB.cell (p := ⟨b', off + k * 6, none⟩) hlb).trans c0
   have d1 := (hB.cell (p := ⟨b', off + k * 6 + 1, none⟩) hlb).trans c1
   have d2 := (hB.cell (p := ⟨b', off + k * 6 + 2, none⟩) hlb).trans c2
   have d3 := (hB.cell (p := ⟨b', off + k * 6 + 3, none⟩) hlb).trans c3
   have d4 := (hB.cell (p := ⟨b', off + k * 6 + 4, none⟩) hlb).trans c4
   have d5 := (hB.cell (p := ⟨b', off + k * 6 + 5, none⟩) hlb).trans c5
   clear c0 c1 c2 c3 c4 c5
   have HE : Hid (nodesOf (body.take (k + 1)) = nodesOf (body.take k) ++ (body[k].e ++ body[k].f)) := by show _ = _; rw [take_succ body k hlt, nodesOf_snoc]
   have HS : Hid (smallS body[k]) := HSm.out _ (List.getElem_mem hlt)
   have HWs : Hid (wfSt body[k]) := HWf.out _ (List.getElem_mem hlt)
   clear hc
   generalize body[k] = s at d0 d1 d2 d3 d4 d5 he hf HE HS HWs
   generalize nodesOf (body.take k) = pre at HK HE
   have HNe : Hid (Nodes w ve s.e) := he
   have HNf : Hid (Nodes w vf s.f) := hf
   obtain ⟨ae, ce, rfl, -⟩ := he
   obtain ⟨af, cf, rfl, -⟩ := hf
   go_wp2_with fail
   refine (exprs_any _ _ _ _ _ _ _ _ _ _ _).mono ?_
   rintro e w1 ⟨rfl, hb1⟩
   simp only [World.size_alloc] at hb1
   have HB1 : Hid (Below w.heap.size w w1) := hB.trans ((one_below hb1).mono hB.size)
   have HM1 : Hid (w1.ownsMap Tryz.prog 2 (plainElem (H := Unit) Tryz.prog 2) (w.heap.size + 1) n2 D2) := map_below HM.out (one_below hb1)
   clear d0 d1 d2 d3 d4 d5 hb1
   go_wp2_with fail
   go_loopw [24] (fun i w2 => ∃ (m n3 : Nat) (D3 : DataW Unit), m ≤ 2 ∧ i = .int .i64 m ∧ w2.ownsMap Tryz.prog 2 (plainElem (H := Unit) Tryz.prog 2) (w.heap.size + 1) n3 D3 ∧ bnd n3 k m 0 ∧ KeysIs D3 (callN fs (pre ++ upTo s m)) ∧ Below w.heap.size w w2) (fun i _ => 2 - (RowKit.intOf i).toNat)
   case atStart => exact ⟨0, n2, D2, Nat.zero_le _, rfl, HM1.out, hn2, by simpa [upTo] using HK.out, HB1.out⟩
   case round =>
    obtain ⟨m, n3, D3, hm, rfl, hM3, hn3, hK3, hB3⟩ := hrel
    have HM3 : Hid (wr.ownsMap Tryz.prog 2 (plainElem (H := Unit) Tryz.prog 2) (w.heap.size + 1) n3 D3) := hM3
    have HK3 : Hid (KeysIs D3 (callN fs (pre ++ upTo s m))) := hK3
    clear hM3 hK3 HM1 HM HK hB HB1
    by_cases hm2 : m < 2
    ·obtain ⟨va, el, ca, hidx, hel, hnext, hll, hwfs⟩ : ∃ (va : Option Addr) (el : List Nd) (ca : Nat), (∀ W, (Instr.index 121 (.agg #[.slice ae s.e.length ce, .slice af s.f.length cf]) (.int .i64 (m : Int))).run Tryz.prog W = .ok (.slice va el.length ca) W) ∧ Nodes w (.slice va el.length ca) el ∧ upTo s (m + 1) = upTo s m ++ el ∧ el.length ≤ 1048576 ∧ (∀ n ∈ el, n.name.size ≤ 9223372036854775807) := by
      have h01 : m = 0 ∨ m = 1 := by omega
      rcases h01 with rfl | rfl
      ·exact ⟨ae, s.e, ce, fun W => idx0 _ _ W, HNe.out, by simp [upTo], HS.out.1, HWs.out.2.1.2⟩
      ·exact ⟨af, s.f, cf, fun W => idx1 _ _ W, HNf.out, by simp [upTo], HS.out.2, HWs.out.2.2.2⟩
     have HX : Hid (upTo s (m + 1) = upTo s m ++ el) := hnext
     have HWn : Hid (∀ n ∈ el, n.name.size ≤ 9223372036854775807) := hwfs
     generalize upTo s m = mid at HK3 HX
     obtain ⟨_, _, he0, -, -, hec⟩ := hel
     simp only [Value.slice.injEq] at he0
     obtain ⟨rfl, -, rfl⟩ := he0
     have HEC : Hid (0 < el.length → ∃ b off, va = some ⟨b, off, none⟩ ∧ NodesC w b off el) := hec
     clear hec hnext hwfs
     have hm2d : decide ((m : Int) < 2) = true := by rw [decide_eq_true_iff]; omega
     go_wp2_with fail
     go_loopw [29] (fun i w4 => ∃ (j n4 : Nat) (D4 : DataW Unit), j ≤ el.length ∧ i = .int .i64 j ∧ w4.ownsMap Tryz.prog 2 (plainElem (H := Unit) Tryz.prog 2) (w.heap.size + 1) n4 D4 ∧ bnd n4 k m j ∧ KeysIs D4 (callN fs (pre ++ mid ++ el.take j)) ∧ Below w.heap.size w w4) (fun i _ => el.length - (RowKit.intOf i).toNat)
     case atStart => exact ⟨0, n3, D3, Nat.zero_le _, rfl, HM3.out, hn3, by simpa using HK3.out, hB3⟩
     case round =>
      clear hidx
      obtain ⟨j, n4, D4, hj, rfl, hM4, hn4, hK4, hB4⟩ := hrel
      have HM4 : Hid (wr.ownsMap Tryz.prog 2 (plainElem (H := Unit) Tryz.prog 2) (w.heap.size + 1) n4 D4) := hM4
      have HK4 : Hid (KeysIs D4 (callN fs (pre ++ mid ++ el.take j))) := hK4
      clear hM4 hK4
      by_cases hjl : j < el.length
      ·obtain ⟨bn, on, rfl, hcn⟩ := HEC.out (by omega)
       obtain ⟨c0, c1, c2⟩ := (hcn.below hB4) j hjl
       have HZ : Hid (el[j].name.size ≤ maxLen) := by
        have := HWn.out el[j] (List.getElem_mem hjl)
        show _ ≤ _
        unfold maxLen; omega
       have HT : Hid (pre ++ mid ++ el.take (j + 1) = pre ++ mid ++ el.take j ++ [el[j]]) := by show _ = _; rw [take_succ el j hjl]; simp
       clear hcn
       generalize el[j] = n at c0 c1 c2 HZ HT
       generalize pre ++ mid ++ el.take j = done at HK4 HT
       have hBa : Below w.heap.size w (wr.alloc (.cells #[.int .i64 n.kind, .int .i64 n.val, .string n.name] 91)) := hB4.alloc hB4.size _
       have HMa : Hid ((wr.alloc (.cells #[.int .i64 n.kind, .int .i64 n.val, .string n.name] 91)).ownsMap Tryz.prog 2 (plainElem (H := Unit) Tryz.prog 2) (w.heap.size + 1) n4 D4) := HM4.out.alloc _
       have hsz4 := hB4.size
       cases hv : fnum fs n.name with
       | none =>
        have hlook := look_no (map_below HW.out hBa) HN.out HZ.out hv
        have HR : Hid (callN fs (done ++ [n]) = callN fs done) := callN_snoc_no (fun _ => hv)
        clear hv
        go_wp2_with fail
        go_roundw
        case rel => exact ⟨j + 1, n4, D4, by omega, by go_num, HMa.out, hn4.same, by rw [HT.out, HR.out]; exact HK4.out, hBa⟩
        case measure => simp [RowKit.intOf]; omega
       | some g =>
        have hlook := look_num (map_below HW.out hBa) HN.out HZ.out hv
        by_cases h4 : n.kind = 4
        ·have HR : Hid (callN fs (done ++ [n]) = callN fs done ++ [g]) := callN_snoc_yes h4 hv
         have hgl : g < fs.length := fnum_lt hv
         clear hv
         have HT2 : Hid (callN fs (pre ++ mid ++ el.take (j + 1)) = callN fs done ++ [g]) := by show _ = _; rw [HT.out, HR.out]
         clear HT HR HM4
         obtain ⟨kd, vl, nm⟩ := n
         simp only at c0 c1 c2 HZ hBa HMa hlook h4
         subst h4
         obtain ⟨c, hrun2, hat, hwc⟩ := HMa.out.lookup_int (key := .int .i64 (g : Int)) (Maps.int_keyed Tryz.underlying2) Tryz.underlying120 Tryz.underlying2 (Tryz.zeroValue2 _) (Maps.keyOf_int_mk Tryz.underlying2 (WalkArith.wf_i64 (by omega)))
         go_wp2_with (first
          | (at_mapUpdate; refine wpList_mapUpdate_own _ rfl _ _ _ 120 rfl 2 2 (Maps.int_keyed Tryz.underlying2) Tryz.underlying120 _ (w.heap.size + 1) n4 D4 rfl HMa.out (by have := hn4.le (by omega) (by omega) (by omega); unfold maxLen; omega) _ _ _ rfl rfl (Maps.keyOf_int_mk Tryz.underlying2 (WalkArith.wf_i64 (by omega))) _ [] (plainElem_int Tryz.underlying2 (wrap64_wf _)) ?_; intro w5 hown5 hgrow5)
          | go_in)
         have HM5 : Hid (w5.ownsMap Tryz.prog 2 (plainElem (H := Unit) Tryz.prog 2) (w.heap.size + 1) (n4 + 1) _) := hown5
         have HK5 : Hid (KeysIs (D4.put (.int .i64 (g : Int)) (.lit (.int .i64 (wrap64 (c + 1))))) (callN fs done ++ [g])) := HK4.out.put g _
         have hB5 : Below w.heap.size w w5 := hBa.grown hgrow5 (by simp; omega) (fun j hj => by cases hj; omega)
         have hn5 : bnd (n4 + 1) k m (j + 1) := hn4.more
         clear hown5 hgrow5 hat hwc
         generalize D4.put (.int .i64 (g : Int)) (.lit (.int .i64 (wrap64 (c + 1)))) = D5 at HM5 HK5
         go_roundw
         case rel => exact ⟨j + 1, n4 + 1, D5, by omega, by go_num, HM5.out, hn5, by rw [HT2.out]; exact HK5.out, hB5⟩
         case measure => simp [RowKit.intOf]; omega
        ·have HR : Hid (callN fs (done ++ [n]) = callN fs done) := callN_snoc_no (fun h => absurd h h4)
         clear hv
         go_wp2_with fail
         go_roundw
         case rel => exact ⟨j + 1, n4, D4, by omega, by go_num, HMa.out, hn4.same, by rw [HT.out, HR.out]; exact HK4.out, hBa⟩
         case measure => simp [RowKit.intOf]; omega
      ·obtain rfl : j = el.length := by omega
       have hn5 : bnd n4 k (m + 1) 0 := hn4.mid hll
       have HR : Hid (pre ++ mid ++ el.take el.length = pre ++ upTo s (m + 1)) := by show _ = _; rw [HX.out, List.take_length, List.append_assoc]
       go_wp2_with fail
       go_roundw
       case rel => exact ⟨m + 1, n4, D4, by omega, by go_num, HM4.out, hn5, by rw [← HR.out]; exact HK4.out, hB4⟩
       case measure => simp [RowKit.intOf]; omega
    ·obtain rfl : m = 2 := by omega
     have hn5 : bnd n3 (k + 1) 0 0 := hn3.out
     have HR : Hid (nodesOf (body.take (k + 1)) = pre ++ upTo s 2) := by show _ = _; rw [HE.out]; rfl
     go_wp2_with fail
     go_roundw
     case rel => exact ⟨k + 1, n3, D3, by omega, by go_num, HM3.out, hn5, by rw [HR.out]; exact HK3.out, hB3⟩
     case measure => simp [RowKit.intOf]; omega
  ·have hkk : k = body.length := by omega
   have HK2 : Hid (KeysIs D2 (callN fs (nodesOf body))) := by have := HK.out; rw [List.take_of_length_le (by omega)] at this; exact this
   have hsz : Maps.size D2 ≤ 10000000000000 := Nat.le_trans (own_size HM.out) (hn2.le (by omega) (by omega) (by omega))
   go_wp2_with fail
   refine (keys_any _ _).mono ?_
   rintro e w6 ⟨rfl, rfl⟩
   go_wp2_with fail
   refine (sorted_any (w.heap.size + 1) n2 D2 _ wr HM.out hsz).mono ?_
   rintro e w7 ⟨v7, zs, rfl, hp, hrow, hb7⟩
   have hsk := sorted_keys HM.out Tryz.underlying2 HK2.out hp
   have hzl : zs.length = (callsL fs body).length := by
    have := congrArg List.length hsk
    simpa using this
   rw [hsk, hzl, List.map_map] at hrow
   have HRow : Hid (w7.ownsRow wr.heap.size 2 1 v7 (callsL fs body).length ((callsL fs body).map (fun g : Nat => Value.int .i64 (g : Int)))) := hrow
   have hB7 := hB.trans (hb7.mono hB.size)
   clear hsk hrow hp
   go_wp2_with fail
   go_ret
   exact ⟨v7, rfl, ownsRow_base_a HRow.out hB.size, hB7⟩
end
end Go.Proofs.YtjhmgjimppflhaaGreatDoor
