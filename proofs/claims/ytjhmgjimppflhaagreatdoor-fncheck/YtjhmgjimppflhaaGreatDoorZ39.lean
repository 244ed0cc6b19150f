import Derived.Below
import Derived.Test.YtjhmgjimppflhaaGreatDoorZ38
set_option linter.unusedSectionVars false
variable [Inhabited Go.Proofs.YtjhmgjimppflhaaGreatDoor.Pick]
namespace Go.Proofs.YtjhmgjimppflhaaGreatDoor
set_option linter.unusedVariables false
set_option linter.unusedSimpArgs false
set_option maxRecDepth 100000
set_option maxHeartbeats 16000000
section
open Go.RowKit
set_option maxHeartbeats 1000000 in
theorem exprs_any (k t l : Int) (nm : ByteArray) (ae af : Option Addr) (ne ce nf cf : Nat) (w : World) :
    Calls Tryz.prog 66 #[.agg #[.int .i64 k, .string nm, .slice ae ne ce, .slice af nf cf, .int .i64 t, .int .i64 l]] w fun e w' => e = .returned (.agg #[.slice ae ne ce, .slice af nf cf]) ∧ Below w.heap.size w w' := by
  go_enter Tryz.func66, Tryz.ntmps66
  go_wp2_with fail
  exact bodyPost_ret (v := .agg #[.slice ae ne ce, .slice af nf cf]) (by simp [results, Tryz.results66, go_sem]) rfl ⟨rfl, ((Below.refl _ _).alloc (Nat.le_refl _) _).alloc (by simp) _⟩
theorem idx1 (u v : Value) (W : World) : (Instr.index 121 (.agg #[u, v]) (.int .i64 ((1 : Nat) : Int))).run Tryz.prog W = .ok v W := by
  simp [Instr.index, go_sem]
theorem idx0 (u v : Value) (W : World) : (Instr.index 121 (.agg #[u, v]) (.int .i64 ((0 : Nat) : Int))).run Tryz.prog W = .ok u W := by
  simp [Instr.index, go_sem]
end
section
open Go.RowKit
/-- A bound of the number of entries. -/
def bnd (n k m j : Nat) : Prop := n ≤ k * 2097152 + m * 1048576 + j
theorem bnd.zero : bnd 0 0 0 0 := by unfold bnd; omega
theorem bnd.same {n k m j : Nat} (h : bnd n k m j) : bnd n k m (j + 1) := by unfold bnd at *; omega
theorem bnd.more {n k m j : Nat} (h : bnd n k m j) : bnd (n + 1) k m (j + 1) := by unfold bnd at *; omega
theorem bnd.mid {n k m j : Nat} (h : bnd n k m j) (hj : j ≤ 1048576) : bnd n k (m + 1) 0 := by
  have e : ∀ c : Nat, (m + 1) * c = m * c + c := fun c => Nat.succ_mul m c
  unfold bnd at h ⊢
  rw [e]
  revert h hj
  generalize (1048576 : Nat) = c
  omega
theorem bnd.out {n k : Nat} (h : bnd n k 2 0) : bnd n (k + 1) 0 0 := by unfold bnd at *; omega
theorem bnd.le {n k m j : Nat} (h : bnd n k m j) (hk : k ≤ 1048576) (hm : m ≤ 2) (hj : j ≤ 1048576) : n ≤ 10000000000000 := by unfold bnd at *; omega
/-- The lists of the operands of a statement, one by one. -/
def upTo (s : St) (m : Nat) : List Nd := if m = 0 then [] else if m = 1 then s.e else s.e ++ s.f
set_option maxRecDepth 100000 in
set_option maxHeartbeats 4000000 in
theorem callsOf_any (fs : List Fu) (f : Fu) (vp vb : Value) (b nn : Nat) (D : DataW Unit) (w : World) (hl : fs.length ≤ 1048576) (hsm : smallF f) (hwf : wfFu f) (hp : Strs w vp f.params) (hb : Stmts w vb f.body)
    (hown : w.ownsMap Tryz.prog 9 (plainElem (H := Unit) Tryz.prog 2) b nn D) (hN : NumIs D fs) :
    Calls Tryz.prog 31 #[.agg #[.string f.name, vp, vb], .map (some b)] w fun e w' => ∃ v, e = .returned v ∧ w'.ownsRow w.heap.size 2 1 v (callsL fs f.body).length ((callsL fs f.body).map (fun g : Nat => Value.int .i64 (g : Int))) ∧ Below w.heap.size w w' := by
  obtain ⟨ap, cp, rfl, -⟩ := hp
  obtain ⟨ab, cb, rfl, -, -, hbc⟩ := hb
  have HBC : Hid (0 < f.body.length → ∃ b off, ab = some ⟨b, off, none⟩ ∧ StmtsC w b off f.body) := hbc
  have HW : Hid (w.ownsMap Tryz.prog 9 (plainElem (H := Unit) Tryz.prog 2) b nn D) := hown
  have HN : Hid (NumIs D fs) := hN
  have HSm : Hid (∀ s ∈ f.body, smallS s) := hsm.2.2
  have HWf : Hid (∀ s ∈ f.body, wfSt s) := hwf.2.2.2
  have hbl : f.body.length ≤ 1048576 := hsm.2.1
  have hblt := hown.lt
  clear hbc hown hN hsm hwf
  generalize f.body = body at hbl HBC HSm HWf ⊢
  have hmm := @run_makeMap Tryz.prog
  go_enter Tryz.func31, Tryz.ntmps31
  go_wp2_with fail
  go_loopw [18] (fun i wr => ∃ (k n2 : Nat) (D2 : DataW Unit), k ≤ body.length ∧ i = .int .i64 k ∧ wr.ownsMap Tryz.prog 2 (plainElem (H := Unit) Tryz.prog 2) (w.heap.size + 1) n2 D2 ∧ bnd n2 k 0 0 ∧ KeysIs D2 (callN fs (nodesOf (body.take k))) ∧ Below w.heap.size w wr) (fun i _ => body.length - (RowKit.intOf i).toNat)
  case atStart => exact ⟨0, 0, .map [], Nat.zero_le _, rfl, by simpa using World.ownsMap_made (w.alloc _) Tryz.prog 2 _, bnd.zero, KeysIs.nil, ((Below.refl _ _).alloc (Nat.le_refl _) _).alloc (by simp) _⟩
  case round =>
    clear hmm
    obtain ⟨k, n2, D2, hk, rfl, hM, hn2, hK, hB⟩ := hrel
    have HM : Hid (wr.ownsMap Tryz.prog 2 (plainElem (H := Unit) Tryz.prog 2) (w.heap.size + 1) n2 D2) := hM
    have HK : Hid (KeysIs D2 (callN fs (nodesOf (body.take k)))) := hK
    clear hM hK
    by_cases hlt : k < body.length
    · obtain ⟨b', off, rfl, hc⟩ := HBC.out (by omega)
      obtain ⟨ve, vf, ⟨c0, c1, c2, c3, c4, c5⟩, he, hf⟩ := hc k hlt
      have hlb := World.block_lt_of_cell? _ _ c0
      have d0 := (hB.cell (p := ⟨b', off + k * 6, none⟩) hlb).trans c0
      have d1 := (hB.cell (p := ⟨b', off + k * 6 + 1, none⟩) hlb).trans c1
      have d2 := (hB.cell (p := ⟨b', off + k * 6 + 2, none⟩) hlb).trans c2
      have d3 := (hB.cell (p := ⟨b', off + k * 6 + 3, none⟩) hlb).trans c3
      have d4 := (hB.cell (p := ⟨b', off + k * 6 + 4, none⟩) hlb).trans c4
      have d5 := (hB.cell (p := ⟨b', off + k * 6 + 5, none⟩) hlb).trans c5
      clear c0 c1 c2 c3 c4 c5
      have HE : Hid (nodesOf (body.take (k + 1)) = nodesOf (body.take k) ++ (body[k].e ++ body[k].f)) := by show _ = _; rw [take_succ body k hlt, nodesOf_snoc]
      have HS : Hid (smallS body[k]) := HSm.out _ (List.getElem_mem hlt)
      have HWs : Hid (wfSt body[k]) := HWf.out _ (List.getElem_mem hlt)
      clear hc
      generalize body[k] = s at d0 d1 d2 d3 d4 d5 he hf HE HS HWs
      generalize nodesOf (body.take k) = pre at HK HE
      have HNe : Hid (Nodes w ve s.e) := he
      have HNf : Hid (Nodes w vf s.f) := hf
      obtain ⟨ae, ce, rfl, -⟩ := he
      obtain ⟨af, cf, rfl, -⟩ := hf
      go_wp2_with fail
      refine (exprs_any _ _ _ _ _ _ _ _ _ _ _).mono ?_
      rintro e w1 ⟨rfl, hb1⟩
      simp only [World.size_alloc] at hb1
      have HB1 : Hid (Below w.heap.size w w1) := hB.trans ((one_below hb1).mono hB.size)
      have HM1 : Hid (w1.ownsMap Tryz.prog 2 (plainElem (H := Unit) Tryz.prog 2) (w.heap.size + 1) n2 D2) := map_below HM.out (one_below hb1)
      clear d0 d1 d2 d3 d4 d5 hb1
      go_wp2_with fail
      go_loopw [24] (fun i w2 => ∃ (m n3 : Nat) (D3 : DataW Unit), m ≤ 2 ∧ i = .int .i64 m ∧ w2.ownsMap Tryz.prog 2 (plainElem (H := Unit) Tryz.prog 2) (w.heap.size + 1) n3 D3 ∧ bnd n3 k m 0 ∧ KeysIs D3 (callN fs (pre ++ upTo s m)) ∧ Below w.heap.size w w2) (fun i _ => 2 - (RowKit.intOf i).toNat)
      case atStart => exact ⟨0, n2, D2, Nat.zero_le _, rfl, HM1.out, hn2, by simpa [upTo] using HK.out, HB1.out⟩
      case round =>
        obtain ⟨m, n3, D3, hm, rfl, hM3, hn3, hK3, hB3⟩ := hrel
        have HM3 : Hid (wr.ownsMap Tryz.prog 2 (plainElem (H := Unit) Tryz.prog 2) (w.heap.size + 1) n3 D3) := hM3
        have HK3 : Hid (KeysIs D3 (callN fs (pre ++ upTo s m))) := hK3
        clear hM3 hK3 HM1 HM HK hB HB1
        by_cases hm2 : m < 2
        · obtain ⟨va, el, ca, hidx, hel, hnext, hll, hwfs⟩ : ∃ (va : Option Addr) (el : List Nd) (ca : Nat), (∀ W, (Instr.index 121 (.agg #[.slice ae s.e.length ce, .slice af s.f.length cf]) (.int .i64 (m : Int))).run Tryz.prog W = .ok (.slice va el.length ca) W) ∧ Nodes w (.slice va el.length ca) el ∧ upTo s (m + 1) = upTo s m ++ el ∧ el.length ≤ 1048576 ∧ (∀ n ∈ el, n.name.size ≤ 9223372036854775807) := by
            have h01 : m = 0 ∨ m = 1 := by omega
            rcases h01 with rfl | rfl
            · exact ⟨ae, s.e, ce, fun W => idx0 _ _ W, HNe.out, by simp [upTo], HS.out.1, HWs.out.2.1.2⟩
            · exact ⟨af, s.f, cf, fun W => idx1 _ _ W, HNf.out, by simp [upTo], HS.out.2, HWs.out.2.2.2⟩
          have HX : Hid (upTo s (m + 1) = upTo s m ++ el) := hnext
          have HWn : Hid (∀ n ∈ el, n.name.size ≤ 9223372036854775807) := hwfs
          generalize upTo s m = mid at HK3 HX
          obtain ⟨_, _, he0, -, -, hec⟩ := hel
          simp only [Value.slice.injEq] at he0
          obtain ⟨rfl, -, rfl⟩ := he0
          have HEC : Hid (0 < el.length → ∃ b off, va = some ⟨b, off, none⟩ ∧ NodesC w b off el) := hec
          clear hec hnext hwfs
          have hm2d : decide ((m : Int) < 2) = true := by rw [decide_eq_true_iff]; omega
          go_wp2_with fail
          go_loopw [29] (fun i w4 => ∃ (j n4 : Nat) (D4 : DataW Unit), j ≤ el.length ∧ i = .int .i64 j ∧ w4.ownsMap Tryz.prog 2 (plainElem (H := Unit) Tryz.prog 2) (w.heap.size + 1) n4 D4 ∧ bnd n4 k m j ∧ KeysIs D4 (callN fs (pre ++ mid ++ el.take j)) ∧ Below w.heap.size w w4) (fun i _ => el.length - (RowKit.intOf i).toNat)
          case atStart => exact ⟨0, n3, D3, Nat.zero_le _, rfl, HM3.out, hn3, by simpa using HK3.out, hB3⟩
          case round =>
            clear hidx
            obtain ⟨j, n4, D4, hj, rfl, hM4, hn4, hK4, hB4⟩ := hrel
            have HM4 : Hid (wr.ownsMap Tryz.prog 2 (plainElem (H := Unit) Tryz.prog 2) (w.heap.size + 1) n4 D4) := hM4
            have HK4 : Hid (KeysIs D4 (callN fs (pre ++ mid ++ el.take j))) := hK4
            clear hM4 hK4
            by_cases hjl : j < el.length
            · obtain ⟨bn, on, rfl, hcn⟩ := HEC.out (by omega)
              obtain ⟨c0, c1, c2⟩ := (hcn.below hB4) j hjl
              have HZ : Hid (el[j].name.size ≤ maxLen) := by
                have := HWn.out el[j] (List.getElem_mem hjl)
                show _ ≤ _
                unfold maxLen; omega
              have HT : Hid (pre ++ mid ++ el.take (j + 1) = pre ++ mid ++ el.take j ++ [el[j]]) := by show _ = _; rw [take_succ el j hjl]; simp
              clear hcn
              generalize el[j] = n at c0 c1 c2 HZ HT
              generalize pre ++ mid ++ el.take j = done at HK4 HT
              have hBa : Below w.heap.size w (wr.alloc (.cells #[.int .i64 n.kind, .int .i64 n.val, .string n.name] 91)) := hB4.alloc hB4.size _
              have HMa : Hid ((wr.alloc (.cells #[.int .i64 n.kind, .int .i64 n.val, .string n.name] 91)).ownsMap Tryz.prog 2 (plainElem (H := Unit) Tryz.prog 2) (w.heap.size + 1) n4 D4) := HM4.out.alloc _
              have hsz4 := hB4.size
              cases hv : fnum fs n.name with
              | none =>
                have hlook := look_no (map_below HW.out hBa) HN.out HZ.out hv
                have HR : Hid (callN fs (done ++ [n]) = callN fs done) := callN_snoc_no (fun _ => hv)
                clear hv
                go_wp2_with fail
                go_roundw
                case rel => exact ⟨j + 1, n4, D4, by omega, by go_num, HMa.out, hn4.same, by rw [HT.out, HR.out]; exact HK4.out, hBa⟩
                case measure => simp [RowKit.intOf]; omega
              | some g =>
                have hlook := look_num (map_below HW.out hBa) HN.out HZ.out hv
                by_cases h4 : n.kind = 4
                · have HR : Hid (callN fs (done ++ [n]) = callN fs done ++ [g]) := callN_snoc_yes h4 hv
                  have hgl : g < fs.length := fnum_lt hv
                  clear hv
                  have HT2 : Hid (callN fs (pre ++ mid ++ el.take (j + 1)) = callN fs done ++ [g]) := by show _ = _; rw [HT.out, HR.out]
                  clear HT HR HM4
                  obtain ⟨kd, vl, nm⟩ := n
                  simp only at c0 c1 c2 HZ hBa HMa hlook h4
                  subst h4
                  obtain ⟨c, hrun2, hat, hwc⟩ := HMa.out.lookup_int (key := .int .i64 (g : Int)) (Maps.int_keyed Tryz.underlying2) Tryz.underlying120 Tryz.underlying2 (Tryz.zeroValue2 _) (Maps.keyOf_int_mk Tryz.underlying2 (WalkArith.wf_i64 (by omega)))
                  go_wp2_with (first
                    | (at_mapUpdate; refine wpList_mapUpdate_own _ rfl _ _ _ 120 rfl 2 2 (Maps.int_keyed Tryz.underlying2) Tryz.underlying120 _ (w.heap.size + 1) n4 D4 rfl HMa.out (by have := hn4.le (by omega) (by omega) (by omega); unfold maxLen; omega) _ _ _ rfl rfl (Maps.keyOf_int_mk Tryz.underlying2 (WalkArith.wf_i64 (by omega))) _ [] (plainElem_int Tryz.underlying2 (wrap64_wf _)) ?_; intro w5 hown5 hgrow5)
                    | go_in)
                  have HM5 : Hid (w5.ownsMap Tryz.prog 2 (plainElem (H := Unit) Tryz.prog 2) (w.heap.size + 1) (n4 + 1) _) := hown5
                  have HK5 : Hid (KeysIs (D4.put (.int .i64 (g : Int)) (.lit (.int .i64 (wrap64 (c + 1))))) (callN fs done ++ [g])) := HK4.out.put g _
                  have hB5 : Below w.heap.size w w5 := hBa.grown hgrow5 (by simp; omega) (fun j hj => by cases hj; omega)
                  have hn5 : bnd (n4 + 1) k m (j + 1) := hn4.more
                  clear hown5 hgrow5 hat hwc
                  generalize D4.put (.int .i64 (g : Int)) (.lit (.int .i64 (wrap64 (c + 1)))) = D5 at HM5 HK5
                  go_roundw
                  case rel => exact ⟨j + 1, n4 + 1, D5, by omega, by go_num, HM5.out, hn5, by rw [HT2.out]; exact HK5.out, hB5⟩
                  case measure => simp [RowKit.intOf]; omega
                · have HR : Hid (callN fs (done ++ [n]) = callN fs done) := callN_snoc_no (fun h => absurd h h4)
                  clear hv
                  go_wp2_with fail
                  go_roundw
                  case rel => exact ⟨j + 1, n4, D4, by omega, by go_num, HMa.out, hn4.same, by rw [HT.out, HR.out]; exact HK4.out, hBa⟩
                  case measure => simp [RowKit.intOf]; omega
            · obtain rfl : j = el.length := by omega
              have hn5 : bnd n4 k (m + 1) 0 := hn4.mid hll
              have HR : Hid (pre ++ mid ++ el.take el.length = pre ++ upTo s (m + 1)) := by show _ = _; rw [HX.out, List.take_length, List.append_assoc]
              go_wp2_with fail
              go_roundw
              case rel => exact ⟨m + 1, n4, D4, by omega, by go_num, HM4.out, hn5, by rw [← HR.out]; exact HK4.out, hB4⟩
              case measure => simp [RowKit.intOf]; omega
        · obtain rfl : m = 2 := by omega
          have hn5 : bnd n3 (k + 1) 0 0 := hn3.out
          have HR : Hid (nodesOf (body.take (k + 1)) = pre ++ upTo s 2) := by show _ = _; rw [HE.out]; rfl
          go_wp2_with fail
          go_roundw
          case rel => exact ⟨k + 1, n3, D3, by omega, by go_num, HM3.out, hn5, by rw [HR.out]; exact HK3.out, hB3⟩
          case measure => simp [RowKit.intOf]; omega
    · have hkk : k = body.length := by omega
      have HK2 : Hid (KeysIs D2 (callN fs (nodesOf body))) := by have := HK.out; rw [List.take_of_length_le (by omega)] at this; exact this
      have hsz : Maps.size D2 ≤ 10000000000000 := Nat.le_trans (own_size HM.out) (hn2.le (by omega) (by omega) (by omega))
      go_wp2_with fail
      refine (keys_any _ _).mono ?_
      rintro e w6 ⟨rfl, rfl⟩
      go_wp2_with fail
      refine (sorted_any (w.heap.size + 1) n2 D2 _ wr HM.out hsz).mono ?_
      rintro e w7 ⟨v7, zs, rfl, hp, hrow, hb7⟩
      have hsk := sorted_keys HM.out Tryz.underlying2 HK2.out hp
      have hzl : zs.length = (callsL fs body).length := by
        have := congrArg List.length hsk
        simpa using this
      rw [hsk, hzl, List.map_map] at hrow
      have HRow : Hid (w7.ownsRow wr.heap.size 2 1 v7 (callsL fs body).length ((callsL fs body).map (fun g : Nat => Value.int .i64 (g : Int)))) := hrow
      have hB7 := hB.trans (hb7.mono hB.size)
      clear hsk hrow hp
      go_wp2_with fail
      go_ret
      exact ⟨v7, rfl, ownsRow_base_a HRow.out hB.size, hB7⟩
end
section
open Go.RowKit
/-- The checker's box. -/
structure CBox (w : World) (C : Nat) (v vg vf : Value) (bn bt : Nat) (fn st : Int) : Prop where
  c0 : w.cell? ⟨C, 0, none⟩ = some v
  c1 : w.cell? ⟨C, 1, none⟩ = some vg
  c2 : w.cell? ⟨C, 2, none⟩ = some vf
  c3 : w.cell? ⟨C, 3, none⟩ = some (.map (some bn))
  c4 : w.cell? ⟨C, 4, none⟩ = some (.map (some bt))
  c5 : w.cell? ⟨C, 5, none⟩ = some (.int .i64 fn)
  c6 : w.cell? ⟨C, 6, none⟩ = some (.int .i64 st)
  fz : ∀ o, w.frozen? ⟨C, o, none⟩ = false
theorem off_ne {g a b : Nat} (h : a ≠ b) : (⟨g, a, none⟩ : Addr) ≠ ⟨g, b, none⟩ := fun e => by simp [h] at e
theorem CBox.keep {w w' : World} {C : Nat} {v vg vf : Value} {bn bt : Nat} {fn st : Int} (h : CBox w C v vg vf bn bt fn st) (hb : w'.heap[C]? = w.heap[C]?) : CBox w' C v vg vf bn bt fn st :=
  ⟨(World.cell?_of_block (a := ⟨C, 0, none⟩) hb).trans h.c0, (World.cell?_of_block (a := ⟨C, 1, none⟩) hb).trans h.c1, (World.cell?_of_block (a := ⟨C, 2, none⟩) hb).trans h.c2, (World.cell?_of_block (a := ⟨C, 3, none⟩) hb).trans h.c3, (World.cell?_of_block (a := ⟨C, 4, none⟩) hb).trans h.c4, (World.cell?_of_block (a := ⟨C, 5, none⟩) hb).trans h.c5, (World.cell?_of_block (a := ⟨C, 6, none⟩) hb).trans h.c6, fun o => (World.frozen?_of_block (a := ⟨C, o, none⟩) hb).trans (h.fz o)⟩
theorem CBox.s0 {w : World} {C : Nat} {v vg vf : Value} {bn bt : Nat} {fn st : Int} (h : CBox w C v vg vf bn bt fn st) (v' : Value) : CBox (w.setCell ⟨C, 0, none⟩ v') C v' vg vf bn bt fn st :=
  ⟨World.cell?_setCell_same _ _ _ h.c0, (World.cell?_setCell_other _ _ _ _ (off_ne (by decide))).trans h.c1, (World.cell?_setCell_other _ _ _ _ (off_ne (by decide))).trans h.c2, (World.cell?_setCell_other _ _ _ _ (off_ne (by decide))).trans h.c3, (World.cell?_setCell_other _ _ _ _ (off_ne (by decide))).trans h.c4, (World.cell?_setCell_other _ _ _ _ (off_ne (by decide))).trans h.c5, (World.cell?_setCell_other _ _ _ _ (off_ne (by decide))).trans h.c6, fun o => by simpa using h.fz o⟩
theorem CBox.s4 {w : World} {C : Nat} {v vg vf : Value} {bn bt : Nat} {fn st : Int} (h : CBox w C v vg vf bn bt fn st) (bt' : Nat) : CBox (w.setCell ⟨C, 4, none⟩ (.map (some bt'))) C v vg vf bn bt' fn st :=
  ⟨(World.cell?_setCell_other _ _ _ _ (off_ne (by decide))).trans h.c0, (World.cell?_setCell_other _ _ _ _ (off_ne (by decide))).trans h.c1, (World.cell?_setCell_other _ _ _ _ (off_ne (by decide))).trans h.c2, (World.cell?_setCell_other _ _ _ _ (off_ne (by decide))).trans h.c3, World.cell?_setCell_same _ _ _ h.c4, (World.cell?_setCell_other _ _ _ _ (off_ne (by decide))).trans h.c5, (World.cell?_setCell_other _ _ _ _ (off_ne (by decide))).trans h.c6, fun o => by simpa using h.fz o⟩
theorem CBox.s5 {w : World} {C : Nat} {v vg vf : Value} {bn bt : Nat} {fn st : Int} (h : CBox w C v vg vf bn bt fn st) (z : Int) : CBox (w.setCell ⟨C, 5, none⟩ (.int .i64 z)) C v vg vf bn bt z st :=
  ⟨(World.cell?_setCell_other _ _ _ _ (off_ne (by decide))).trans h.c0, (World.cell?_setCell_other _ _ _ _ (off_ne (by decide))).trans h.c1, (World.cell?_setCell_other _ _ _ _ (off_ne (by decide))).trans h.c2, (World.cell?_setCell_other _ _ _ _ (off_ne (by decide))).trans h.c3, (World.cell?_setCell_other _ _ _ _ (off_ne (by decide))).trans h.c4, World.cell?_setCell_same _ _ _ h.c5, (World.cell?_setCell_other _ _ _ _ (off_ne (by decide))).trans h.c6, fun o => by simpa using h.fz o⟩
theorem CBox.s6 {w : World} {C : Nat} {v vg vf : Value} {bn bt : Nat} {fn st : Int} (h : CBox w C v vg vf bn bt fn st) (z : Int) : CBox (w.setCell ⟨C, 6, none⟩ (.int .i64 z)) C v vg vf bn bt fn z :=
  ⟨(World.cell?_setCell_other _ _ _ _ (off_ne (by decide))).trans h.c0, (World.cell?_setCell_other _ _ _ _ (off_ne (by decide))).trans h.c1, (World.cell?_setCell_other _ _ _ _ (off_ne (by decide))).trans h.c2, (World.cell?_setCell_other _ _ _ _ (off_ne (by decide))).trans h.c3, (World.cell?_setCell_other _ _ _ _ (off_ne (by decide))).trans h.c4, (World.cell?_setCell_other _ _ _ _ (off_ne (by decide))).trans h.c5, World.cell?_setCell_same _ _ _ h.c6, fun o => by simpa using h.fz o⟩
/-- What stays while the bodies are looked at. -/
structure Ev where
  w0 : World
  C : Nat
  bg : Nat
  bn : Nat
  nn : Nat
  D : DataW Unit
  t : Tr
  vg : Value
  vf : Value
  gf : ByteArray → Option Int
  gp : ByteArray → Bool
  ng : Nat
/-- A row of maps lies as it lay. -/
theorem BRw.keep {B : Nat} {w w' : World} {v : Value} {bs : List Nat} (h : BRw B w v bs) (hb : ∀ x, v.ownBlock = some x → w'.heap[x]? = w.heap[x]?) : BRw B w' v bs := by
  obtain ⟨g1, g2⟩ := h
  refine ⟨g1, ?_⟩
  rcases g2 with g2 | ⟨g, cap, cur, rfl, g3, g4, g5⟩
  · exact .inl g2
  · refine .inr ⟨g, cap, cur, rfl, g3, ?_, g5⟩
    rw [hb g rfl]
    exact g4
/-- The checker within a function: the blocks bi with the names bsn, the taken names tk. -/
structure Cs (E : Ev) (w : World) (bsn : List (List ByteArray)) (bi : List Nat) (v : Value) (bt : Nat) (tk : List ByteArray) (fn st : Int) : Prop where
  box : CBox w E.C v E.vg E.vf E.bn bt fn st
  low : E.w0.heap.size ≤ E.C
  base : Below E.w0.heap.size E.w0 w
  fun0 : Funcs E.w0 E.vf E.t.funcs ∧ Globs E.w0 E.vg E.t.globals
  row : BRw (E.C + 1) w v (E.bg :: bi)
  len : bsn.length = bi.length
  small : bi.length ≤ 900000
  glob : ∃ ng Dg, ng ≤ E.ng ∧ w.ownsMap Tryz.prog 9 (plainElem (H := Unit) Tryz.prog 2) E.bg ng Dg ∧ MapIs Dg E.gf
  maps : ∀ j, j < bi.length → ∃ n Dj, n ≤ (bsn.getD j []).length ∧ w.ownsMap Tryz.prog 9 (plainElem (H := Unit) Tryz.prog 2) (bi.getD j 0) n Dj ∧ MapIs Dj (wordF (bsn.getD j []))
  own : w.ownsMap Tryz.prog 9 (plainElem (H := Unit) Tryz.prog 2) E.bn E.nn E.D
  num : NumIs E.D E.t.funcs
  tak : ∃ nt Dt ft, nt ≤ tk.length + 1000 ∧ w.ownsMap Tryz.prog 9 (plainElem (H := Unit) Tryz.prog 2) bt nt Dt ∧ MapIs Dt ft ∧ ∀ s, (ft s).isSome = (inS tk s || E.gp s)
  nd : (E.bg :: E.bn :: bt :: bi).Nodup
  gt : ∀ b ∈ E.bg :: E.bn :: bt :: bi, E.C < b
  rown : ∀ x, v.ownBlock = some x → x ∉ E.bg :: E.bn :: bt :: bi
theorem mem_getD {bi : List Nat} {j : Nat} (h : j < bi.length) : bi.getD j 0 ∈ bi := by
  have : bi.getD j 0 = bi[j] := by simp [List.getD, h]
  rw [this]
  exact List.getElem_mem h
/-- What turns none of the checker's blocks leaves it. -/
theorem Cs.keep {E : Ev} {w w' : World} {bsn : List (List ByteArray)} {bi : List Nat} {v : Value} {bt : Nat} {tk : List ByteArray} {fn st : Int} (h : Cs E w bsn bi v bt tk fn st) (hb : Below E.w0.heap.size E.w0 w')
    (hC : w'.heap[E.C]? = w.heap[E.C]?) (hr : ∀ x, v.ownBlock = some x → w'.heap[x]? = w.heap[x]?) (hm : ∀ b ∈ E.bg :: E.bn :: bt :: bi, w'.heap[b]? = w.heap[b]?) : Cs E w' bsn bi v bt tk fn st := by
  obtain ⟨ng, Dg, g0, g1, g2⟩ := h.glob
  obtain ⟨nt, Dt, ft, t0, t1, t2⟩ := h.tak
  refine ⟨h.box.keep hC, h.low, hb, h.fun0, h.row.keep hr, h.len, h.small, ⟨ng, Dg, g0, map_keep g1 (hm _ (by simp)), g2⟩, fun j hj => ?_, map_keep h.own (hm _ (by simp)), h.num, ⟨nt, Dt, ft, t0, map_keep t1 (hm _ (by simp)), t2⟩, h.nd, h.gt, h.rown⟩
  obtain ⟨n, Dj, m0, m1, m2⟩ := h.maps j hj
  exact ⟨n, Dj, m0, map_keep m1 (hm _ (by have := mem_getD hj; simp only [List.mem_cons]; exact .inr (.inr (.inr this)))), m2⟩
theorem Cs.ltC {E : Ev} {w : World} {bsn : List (List ByteArray)} {bi : List Nat} {v : Value} {bt : Nat} {tk : List ByteArray} {fn st : Int} (h : Cs E w bsn bi v bt tk fn st) : E.C < w.heap.size := World.block_lt_of_cell? _ _ h.box.c0
theorem Cs.lt {E : Ev} {w : World} {bsn : List (List ByteArray)} {bi : List Nat} {v : Value} {bt : Nat} {tk : List ByteArray} {fn st : Int} (h : Cs E w bsn bi v bt tk fn st) : ∀ b ∈ E.bg :: E.bn :: bt :: bi, b < w.heap.size := by
  intro b hb
  simp only [List.mem_cons] at hb
  rcases hb with rfl | rfl | rfl | hb
  · obtain ⟨ng, Dg, g0, g1, g2⟩ := h.glob; exact g1.lt
  · exact h.own.lt
  · obtain ⟨nt, Dt, ft, t0, t1, t2⟩ := h.tak; exact t1.lt
  · obtain ⟨j, hj, rfl⟩ := List.getElem_of_mem hb
    obtain ⟨n, Dj, m0, m1, m2⟩ := h.maps j hj
    have := m1.lt
    simpa [List.getD, hj] using this
theorem Cs.rlt {E : Ev} {w : World} {bsn : List (List ByteArray)} {bi : List Nat} {v : Value} {bt : Nat} {tk : List ByteArray} {fn st : Int} (h : Cs E w bsn bi v bt tk fn st) : ∀ x, v.ownBlock = some x → E.C < x ∧ x < w.heap.size := fun x hx => World.ownsRow.lt h.row x hx
theorem Cs.below {E : Ev} {w w' : World} {bsn : List (List ByteArray)} {bi : List Nat} {v : Value} {bt : Nat} {tk : List ByteArray} {fn st : Int} (h : Cs E w bsn bi v bt tk fn st) (hb : Below w.heap.size w w') : Cs E w' bsn bi v bt tk fn st :=
  h.keep (h.base.trans (hb.mono h.base.size)) (hb.block _ h.ltC) (fun x hx => hb.block _ (h.rlt x hx).2) (fun b hm => hb.block _ (h.lt b hm))
theorem wordF_getD (bsn : List (List ByteArray)) (gs : List Gl) (j : Nat) (hj : j < bsn.length) : (scopesF gs bsn).getD (j + 1) noF = wordF (bsn.getD j []) := by
  simp [scopesF, List.getD, hj]
/-- As a use or a call sees it. -/
theorem Cs.ck {E : Ev} {w : World} {bsn : List (List ByteArray)} {bi : List Nat} {v : Value} {bt : Nat} {tk : List ByteArray} {fn st : Int} (h : Cs E w bsn bi v bt tk fn st) (hgf : E.gf = globF E.t.globals) : Ck w E.C (E.C + 1) E.bn E.nn E.D E.t bsn (E.bg :: bi) v E.vf fn st := by
  refine ⟨h.box.c0, h.box.c2, h.box.c3, h.box.c5, h.box.c6, h.row, by simp [scopesF, h.len], by have := h.small; simp; omega, fun j hj => ?_, h.own, h.num, h.fun0.1.below h.base⟩
  cases j with
  | zero =>
    obtain ⟨ng, Dg, g0, g1, g2⟩ := h.glob
    exact ⟨ng, Dg, by simpa using g1, by simpa [scopesF, List.getD, ← hgf] using g2⟩
  | succ j =>
    have hj' : j < bi.length := by simpa using hj
    obtain ⟨n, Dj, m0, m1, m2⟩ := h.maps j hj'
    refine ⟨n, Dj, by simpa [List.getD] using m1, ?_⟩
    rw [wordF_getD _ _ _ (by rw [h.len]; exact hj')]
    exact m2
/-- A store into where it stands. -/
theorem Cs.put {E : Ev} {w : World} {bsn : List (List ByteArray)} {bi : List Nat} {v : Value} {bt : Nat} {tk : List ByteArray} {fn st fn' st' : Int} (h : Cs E w bsn bi v bt tk fn st) (o : Nat) (u : Value) (hx : CBox (w.setCell ⟨E.C, o, none⟩ u) E.C v E.vg E.vf E.bn bt fn' st') : Cs E (w.setCell ⟨E.C, o, none⟩ u) bsn bi v bt tk fn' st' := by
  have hm : ∀ b, E.C < b → (w.setCell ⟨E.C, o, none⟩ u).heap[b]? = w.heap[b]? := fun b hb => Below.heap_setCell _ _ _ b (fun e => by simp at e; omega)
  obtain ⟨ng, Dg, g0, g1, g2⟩ := h.glob
  obtain ⟨nt, Dt, ft, t0, t1, t2⟩ := h.tak
  refine ⟨hx, h.low, h.base.setCell (p := ⟨E.C, o, none⟩) h.low u, h.fun0, h.row.other (by omega), h.len, h.small, ⟨ng, Dg, g0, map_keep g1 (hm _ (h.gt _ (by simp))), g2⟩, fun j hj => ?_, map_keep h.own (hm _ (h.gt _ (by simp))), h.num, ⟨nt, Dt, ft, t0, map_keep t1 (hm _ (h.gt _ (by simp))), t2⟩, h.nd, h.gt, h.rown⟩
  obtain ⟨n, Dj, m0, m1, m2⟩ := h.maps j hj
  exact ⟨n, Dj, m0, map_keep m1 (hm _ (h.gt _ (by have := mem_getD hj; simp only [List.mem_cons]; exact .inr (.inr (.inr this))))), m2⟩
theorem Cs.stmt {E : Ev} {w : World} {bsn : List (List ByteArray)} {bi : List Nat} {v : Value} {bt : Nat} {tk : List ByteArray} {fn st : Int} (h : Cs E w bsn bi v bt tk fn st) (z : Int) : Cs E (w.setCell ⟨E.C, 6, none⟩ (.int .i64 z)) bsn bi v bt tk fn z := h.put 6 _ (h.box.s6 z)
end
end Go.Proofs.YtjhmgjimppflhaaGreatDoor
