import Derived.Test.YtolkpkklinoegaaDoorM38
import Derived.Deep.RegionHeld
import Derived.Deep.RegionHeldLaw
import Derived.Test.YtolkpkklinoegaaDoorM39
namespace Go.Proofs.YtolkpkklinoegaaDoor
set_option linter.unusedVariables false
set_option linter.unusedSimpArgs false
set_option maxRecDepth 100000
set_option maxHeartbeats 16000000
section
open Go.RowKit
set_option maxRecDepth 100000 in
set_option maxHeartbeats 4000000 in
theorem raised_any (v : Value) (e r : List Nd) (C : Nat) (w : World) (hTab : Tab w) (hN : Nodes w v e) (hone : oneB e = true) (hl : e.length ≤ 2000) (hr : Fd apN e r) (hC : w.cell? ⟨C, 0, none⟩ = some (.func (Fn.func 18) #[] #[])) :
  Calls Tryd.prog 33 #[v, .func (Fn.func 34) #[] #[.pointer (some ⟨C, 0, none⟩)]] w fun x w' => ∃ u S, x = .returned u ∧ Tv w' S u r ∧ (∀ B, S B → w.heap.size ≤ B ∧ B < w'.heap.size) ∧ Below w.heap.size w w' := by
 obtain ⟨i0, hi0, hz0, hz1, hz2⟩ := info_parts info_nv
 obtain ⟨a, cap, rfl, hcl, hcm, hc⟩ := hN
 have HC : Hid (0 < e.length → ∃ b off, a = some ⟨b, off, none⟩ ∧ NodesC w b off e) := hc
 have HCl : Hid (w.cell? ⟨C, 0, none⟩ = some (.func (Fn.func 18) #[] #[])) := hC
 have hltC := World.block_lt_of_cell? _ _ hC
 have HOne : Hid (oneB e = true) := hone
 have HFd : Hid (Fd apN e r) := hr
 have HTab : Hid (Tab w) := hTab
 clear hc hC hone hr hTab
 go_enter Tryd.func33, Tryd.ntmps33
 go_wp2_with fail
 go_loopw [5, 12] (fun st ix wr => ∃ k : Nat, k ≤ e.length ∧ ix = .int .i64 k ∧ ∃ T S, RI w wr e k st T S) (fun _ ix _ => e.length - (RowKit.intOf ix).toNat)
 case atStart => exact ⟨0, Nat.zero_le _, rfl, [], fun _ => False, by simp, by simp, World.ownsRow_nil _ _ _ _, fun B h => h.elim, Below.refl _ _⟩
 case round =>
  obtain ⟨k, hk, rfl, T, S, hI⟩ := hrel
  have HI : Hid (RI w wr e k u5 T S) := hI
  obtain ⟨pa, pc, rfl, hp1, hp2, hp3, hp4⟩ := hI.row.form
  simp only [List.length_map] at hp1 HI ⊢
  by_cases hlt : k < e.length
  ·obtain ⟨b, off, rfl, hcc⟩ := HC.out (by omega)
   obtain ⟨d0, d1, d2⟩ := (hcc.below hI.bel) k hlt
   obtain ⟨hn, hA⟩ := segs_room HOne.out hI.segs hlt hI.flat
   rw [List.length_map] at hA
   have hA0 := arity_good hn
   obtain ⟨A, hAe⟩ : ∃ A : Nat, arity e[k] = A := ⟨(arity e[k]).toNat, by omega⟩
   obtain ⟨lo, hlo⟩ : ∃ lo, lo + A = T.length := ⟨T.length - A, by omega⟩
   have HAe : Hid (arity e[k] = A) := hAe
   have HNb : Hid (nodeB e[k] = true) := hn
   have hkb := kind_good hn
   have HOp : Hid (∀ W, Below wr.heap.size wr W → Calls Tryd.prog 30 #[.agg #[.int .i64 e[k].kind, .int .i64 e[k].val, .string e[k].name]] W fun x w' => x = .returned (.int .i64 A) ∧ Below W.heap.size W w') := fun W hW => by
    have := opc_any e[k] W (HTab.out.below HTab.out.size (hI.bel.trans (hW.mono hI.bel.size))) hkb
    rw [hAe] at this
    exact this
   have hTl : T.length ≤ 2000 := by
    have h1 := wholeTo_segs _ hI.segs 0 (Int.le_refl _)
    have h2 := (wholeTo_bd _ _ _ h1 (Int.le_refl 0)).2
    rw [hI.flat] at h2
    simp only [List.length_map, List.length_take] at h2
    omega
   have hsl : ∀ W : World, (Instr.slice 81 (.slice pa T.length pc) (some (.int .i64 lo)) none none).run Tryd.prog W = .ok (.slice (if pc = lo then pa else pa.map (·.add (lo * 1))) (T.length - lo) (pc - lo)) W := vcut_l pa T.length pc lo (by omega) hp1
   have hsh : ∀ W : World, (Instr.slice 81 (.slice pa T.length pc) none (some (.int .i64 lo)) none).run Tryd.prog W = .ok (.slice pa lo pc) W := vcut_h pa T.length pc lo (by omega) hp1
   have hw1 : IntKind.i64.wrap ((T.length : Int) - (A : Int)) = (lo : Int) := by rw [wrapI64]; omega
   have hw2 : ((T.length : Int) - (A : Int)) = (lo : Int) := by omega
   have HSrc : Hid (∀ W, Below wr.heap.size wr W → Src W (.slice (if pc = lo then pa else pa.map (·.add (lo * 1))) (T.length - lo) (pc - lo)) ((T.drop lo).map (·.2.2))) := fun W hW => by
    have := (hI.row.tail lo (by rw [List.length_map]; omega)).below hW
    rw [List.length_map, ← List.map_drop] at this
    exact this
   have HOC : Hid (∀ u ∈ (T.drop lo).map (·.2.2), u.oneCell' = true) := fun u hu => hI.one u (by
    simp only [List.mem_map] at hu ⊢
    obtain ⟨t, ht, rfl⟩ := hu
    exact ⟨t, List.mem_of_mem_drop ht, rfl⟩)
   clear hcc hp3 hp4 hn hI
   have hkk : off + k * 3 = off + k * 3 := rfl
   generalize hnn : e[k] = n at d0 d1 d2 HOp hkb hA hA0 hAe HAe HNb
   have HNn : Hid (e[k] = n) := hnn
   clear hnn hAe hkb hA hA0
   obtain ⟨nk, nv, nm⟩ := n
   simp only at d0 d1 d2 HOp
   generalize (Value.slice (if pc = lo then pa else pa.map (·.add (lo * 1))) (T.length - lo) (pc - lo)) = sv at hsl HSrc
   go_wp2_with fail
   have hba : ∀ o, Below wr.heap.size wr (wr.alloc o) := fun o => (Below.refl _ _).alloc (Nat.le_refl _) o
   refine (HOp.out _ (hba _)).mono ?_
   rintro x w2 ⟨rfl, hb2⟩
   have hbw2 : Below wr.heap.size wr w2 := (hba _).trans (hb2.mono (by simp))
   simp only [World.size_alloc] at hb2
   obtain ⟨f0, f1, f2⟩ := box3 hb2
   have HS2 : Hid (Src w2 sv ((T.drop lo).map (·.2.2))) := HSrc.out w2 hbw2
   have HW2 : Hid (Below wr.heap.size wr w2) := hbw2
   clear hba hb2 d0 d1 d2 hbw2 HSrc
   go_wp2_with fail
   refine (clone_nv sv _ w2 (by simp; omega) HS2.out HOC.out).mono ?_
   rintro x w3 ⟨uc, rfl, hv3, hb3⟩
   have hbw3 : Below wr.heap.size wr w3 := HW2.out.trans (hb3.mono HW2.out.size)
   have g0 := (hb3.cell (p := ⟨wr.heap.size, 0, none⟩) (World.block_lt_of_cell? _ _ f0)).trans f0
   have g1 := (hb3.cell (p := ⟨wr.heap.size, 1, none⟩) (World.block_lt_of_cell? _ _ f1)).trans f1
   have g2 := (hb3.cell (p := ⟨wr.heap.size, 2, none⟩) (World.block_lt_of_cell? _ _ f2)).trans f2
   have HV3 : Hid (VRow wr.heap.size w3 uc ((T.drop lo).map (·.2.2))) := VRow.mono hv3 HW2.out.size
   have HW3 : Hid (Below wr.heap.size wr w3) := hbw3
   have hbxlt : wr.heap.size < w3.heap.size := World.block_lt_of_cell? _ _ g0
   have HBd : Hid (Calls Tryd.prog 34 #[.agg #[.int .i64 nk, .int .i64 nv, .string nm], uc, .pointer (some ⟨C, 0, none⟩)] w3.drew fun x w' => ∃ ta tb, x = .returned (.iface ta tb) ∧ (Tv w' (addS S uc) (.iface ta tb) (fold1 apN ⟨nk, nv, nm⟩ A (fsL (T.drop lo))) ∧ Below w3.heap.size w3 w') ∧ w'.cell? ⟨wr.heap.size, 0, none⟩ = some (.int .i64 nk) ∧ w'.cell? ⟨wr.heap.size, 1, none⟩ = some (.int .i64 nv) ∧ w'.cell? ⟨wr.heap.size, 2, none⟩ = some (.string nm)) := by
    have hd : Below wr.heap.size wr w3.drew := hbw3.drew
    obtain ⟨k1, k2, k3, k4⟩ := HI.out.kids lo A hlo hd (u := uc) (World.ownsRow.drew HV3.out)
    have hCw : w3.drew.cell? ⟨C, 0, none⟩ = some (.func (Fn.func 18) #[] #[]) := ((HI.out.bel.trans (hd.mono HI.out.bel.size)).cell (p := ⟨C, 0, none⟩) hltC).trans HCl.out
    refine (build_any ⟨nk, nv, nm⟩ HNb.out A HAe.out _ uc _ _ C w3.drew hCw k1 k2 k3 k4).mono ?_
    rintro x w' ⟨u, rfl, h1, h2⟩
    have h3 : Below w3.heap.size w3 w' := (Below.refl _ _).drew.trans h2
    obtain ⟨ta, tb, rfl⟩ := h1.isI
    refine ⟨ta, tb, rfl, ⟨h1, h3⟩, (h3.cell (p := ⟨wr.heap.size, 0, none⟩) hbxlt).trans g0, (h3.cell (p := ⟨wr.heap.size, 1, none⟩) hbxlt).trans g1, (h3.cell (p := ⟨wr.heap.size, 2, none⟩) hbxlt).trans g2⟩
   have HRw : Hid (∀ w4 u' o, (Tv w4 (addS S uc) u' (fold1 apN ⟨nk, nv, nm⟩ A (fsL (T.drop lo))) ∧ Below w3.heap.size w3 w4) → (w4.alloc o).ownsRow w.heap.size 58 1 (.slice pa lo pc) ((T.take lo).map (·.2.2)).length ((T.take lo).map (·.2.2)) ∧ w.heap.size ≤ (w4.alloc o).heap.size) := by
    intro w4 u' o ⟨_, h⟩
    have h1 := (HI.out.below (hbw3.trans (h.mono hbw3.size))).below ((Below.refl _ _).alloc (Nat.le_refl _) o)
    have h2 := h1.row.head lo (by rw [List.length_map]; omega)
    rw [← List.map_take] at h2
    exact ⟨h2, h1.bel.size⟩
   have HGr : Hid (∀ (W W' : World) (o : Obj), W.cell? ⟨wr.heap.size, 0, none⟩ = some (.int .i64 nk) → W.cell? ⟨wr.heap.size, 1, none⟩ = some (.int .i64 nv) → W.cell? ⟨wr.heap.size, 2, none⟩ = some (.string nm) → (W.alloc o).grownBy W' (Value.slice pa lo pc).ownBlock → W'.cell? ⟨wr.heap.size, 0, none⟩ = some (.int .i64 nk) ∧ W'.cell? ⟨wr.heap.size, 1, none⟩ = some (.int .i64 nv) ∧ W'.cell? ⟨wr.heap.size, 2, none⟩ = some (.string nm)) := by
    intro W W' o h0 h1 h2 hg
    have hne : some wr.heap.size ≠ (Value.slice pa lo pc).ownBlock := fun h => by
     have := (HI.out.row.own wr.heap.size (by cases pa <;> exact h.symm)).2
     omega
    have key : ∀ i v, W.cell? ⟨wr.heap.size, i, none⟩ = some v → W'.cell? ⟨wr.heap.size, i, none⟩ = some v := fun i v h => hg.cell ((((Below.refl W.heap.size W).alloc (Nat.le_refl _) o).cell (p := ⟨wr.heap.size, i, none⟩) (World.block_lt_of_cell? _ _ h)).trans h) hne
    exact ⟨key _ _ h0, key _ _ h1, key _ _ h2⟩
   clear hv3 hb3 f0 f1 f2 hbw3 HS2 HOC HOp
   go_wp2_with fail
   go_region_held_law (fun W => W.cell? ⟨wr.heap.size, 0, none⟩ = some (.int .i64 nk) ∧ W.cell? ⟨wr.heap.size, 1, none⟩ = some (.int .i64 nv) ∧ W.cell? ⟨wr.heap.size, 2, none⟩ = some (.string nm)) (first | go_keep | (go_split_ands; exact ⟨y0, y1, y2⟩))
    (first
    | ((with_reducible refine Calls.mono HBd.out ?_); intro x w4 hx; obtain ⟨ta, tb, hx1, hx2, q0, q1, q2⟩ := hx; subst hx1)
    | (refine step_appV (by rfl) _ _ 81 (by rfl) w.heap.size 58 i0 .nilIface Tryd.underlying81 hi0 hz0 hz1 hz2 (by rfl) (.slice pa lo pc) ((T.take lo).map (·.2.2)) (by rfl) (HRw.out _ _ _ hx2).1 (.slice (some ⟨w4.heap.size, 0, none⟩) 1 1) [.iface ta tb] (by rfl) (Src.lit _ _ _) (fun y hy => by simp at hy; subst hy; rfl) (by simp; omega) (HRw.out _ _ _ hx2).2 ?_; intro v' w6 hown6 hgrow6 hfr6; obtain ⟨y0, y1, y2⟩ := HGr.out _ _ _ q0 q1 q2 hgrow6))
   have HI6 : Hid (∃ T' S', RI w w6 e (k + 1) v' T' S') := by
    have hnn := HNn.out
    refine HI.out.step (w3 := w3) (w4 := w4) (w5 := w4.alloc (.cells #[.iface ta tb] 58)) (u := uc) hlt lo A hlo (by rw [hnn]; exact HNb.out) (by rw [hnn]; exact HAe.out) HW3.out HV3.out hx2.2 (by rw [hnn]; exact hx2.1) ((Below.refl _ _).alloc (Nat.le_refl _) _) hown6 ?_ ?_
    ·have e1 : (Value.slice pa lo pc).ownBlock = (Value.slice pa T.length pc).ownBlock := by cases pa <;> rfl
     rw [← e1]; exact hgrow6
    ·have e1 : (Value.slice pa lo pc).ownBlock = (Value.slice pa T.length pc).ownBlock := by cases pa <;> rfl
     rw [← e1]; exact hfr6
   obtain ⟨va, vn, vc, rfl⟩ : ∃ va vn vc, v' = .slice va vn vc := by
    obtain ⟨va, vc, h, _⟩ := VRow.form hown6
    exact ⟨_, _, _, h⟩
   clear hown6 hgrow6 hfr6 hx2 HBd HRw HGr
   go_wp2_with fail
   go_roundw
   case rel => exact ⟨k + 1, by omega, by go_num, HI6.out⟩
   case measure => simp [RowKit.intOf]; omega
  ·obtain rfl : k = e.length := by omega
   obtain ⟨u, g, ⟨cp, hv⟩, hcell, htv⟩ := hI.fin HOne.out HFd.out
   simp only [Value.slice.injEq] at hv
   obtain ⟨rfl, hv2, rfl⟩ := hv
   have hT1 : T.length = 1 := by simpa using hv2
   clear hp3 hp4 hv2
   rw [hT1]
   go_wp2_with fail
   go_ret
   exact ⟨_, S, rfl, htv, fun B hB => ⟨(HI.out.sep B hB).1, (HI.out.sep B hB).2.1⟩, HI.out.bel⟩
end
section
open Go.RowKit
def encA (n : Nd) : Value := .agg #[.int .i64 n.kind, .int .i64 n.val, .string n.name]
set_option maxRecDepth 100000 in
set_option maxHeartbeats 2000000 in
theorem plain_num (v : Int) (w : World) : Calls Tryd.prog 31 #[.iface 91 (.agg #[.int .i64 v])] w fun e w' => e = .returned (encA ⟨1, v, ⟨#[]⟩⟩) ∧ Below w.heap.size w w' := by
 have y := as_num_yes
 have b0 : Below w.heap.size w w := Below.refl _ _
 unfold encA
 go_enter Tryd.func31, Tryd.ntmps31
 go_wp2_with fail
 try simp only [Exit.inBlock, Exit.then]
 refine bodyPost_ret (by simp [results, Tryd.results31, go_sem]; try rfl) rfl ?_
 exact ⟨rfl, (b0.alloc (Nat.le_refl _) _).alloc (by simp) _⟩
set_option maxRecDepth 100000 in
set_option maxHeartbeats 2000000 in
theorem plain_var (s : ByteArray) (w : World) : Calls Tryd.prog 31 #[.iface 121 (.agg #[.string s])] w fun e w' => e = .returned (encA ⟨2, 0, s⟩) ∧ Below w.heap.size w w' := by
 have n1 := fun W v => as_num_no W 121 v (by decide)
 have y := as_var_yes
 have b0 : Below w.heap.size w w := Below.refl _ _
 unfold encA
 go_enter Tryd.func31, Tryd.ntmps31
 go_wp2_with fail
 try simp only [Exit.inBlock, Exit.then]
 refine bodyPost_ret (by simp [results, Tryd.results31, go_sem]; try rfl) rfl ?_
 exact ⟨rfl, (b0.alloc (Nat.le_refl _) _).alloc (by simp) _⟩
set_option maxRecDepth 100000 in
set_option maxHeartbeats 2000000 in
theorem plain_index (s : ByteArray) (tx : TypeId) (x : Value) (w : World) : Calls Tryd.prog 31 #[.iface 123 (.agg #[.string s, .iface tx x])] w fun e w' => e = .returned (encA ⟨3, 0, s⟩) ∧ Below w.heap.size w w' := by
 have n1 := fun W v => as_num_no W 123 v (by decide)
 have n2 := fun W v => as_var_no W 123 v (by decide)
 have y := as_index_yes
 have b0 : Below w.heap.size w w := Below.refl _ _
 unfold encA
 go_enter Tryd.func31, Tryd.ntmps31
 go_wp2_with fail
 try simp only [Exit.inBlock, Exit.then]
 refine bodyPost_ret (by simp [results, Tryd.results31, go_sem]; try rfl) rfl ?_
 exact ⟨rfl, (b0.alloc (Nat.le_refl _) _).alloc (by simp) _⟩
set_option maxRecDepth 100000 in
set_option maxHeartbeats 2000000 in
theorem plain_call (s : ByteArray) (a : Option Addr) (A cp : Nat) (w : World) : Calls Tryd.prog 31 #[.iface 125 (.agg #[.string s, .slice a A cp])] w fun e w' => e = .returned (encA ⟨4, A, s⟩) ∧ Below w.heap.size w w' := by
 have n1 := fun W v => as_num_no W 125 v (by decide)
 have n2 := fun W v => as_var_no W 125 v (by decide)
 have n3 := fun W v => as_index_no W 125 v (by decide)
 have y := as_call_yes
 have b0 : Below w.heap.size w w := Below.refl _ _
 unfold encA
 go_enter Tryd.func31, Tryd.ntmps31
 go_wp2_with fail
 try simp only [Exit.inBlock, Exit.then]
 refine bodyPost_ret (by simp [results, Tryd.results31, go_sem]; try rfl) rfl ?_
 exact ⟨rfl, (b0.alloc (Nat.le_refl _) _).alloc (by simp) _⟩
set_option maxRecDepth 100000 in
set_option maxHeartbeats 2000000 in
theorem plain_inn  (w : World) : Calls Tryd.prog 31 #[.iface 128 (.agg #[])] w fun e w' => e = .returned (encA ⟨5, 0, ⟨#[]⟩⟩) ∧ Below w.heap.size w w' := by
 have n1 := fun W v => as_num_no W 128 v (by decide)
 have n2 := fun W v => as_var_no W 128 v (by decide)
 have n3 := fun W v => as_index_no W 128 v (by decide)
 have n4 := fun W v => as_call_no W 128 v (by decide)
 have n5 := fun W v => as_un_no W 128 v (by decide)
 have n6 := fun W v => as_bin_no W 128 v (by decide)
 have n7 := fun W v => as_and_no W 128 v (by decide)
 have n8 := fun W v => as_or_no W 128 v (by decide)
 have b0 : Below w.heap.size w w := Below.refl _ _
 unfold encA
 go_enter Tryd.func31, Tryd.ntmps31
 go_wp2_with fail
 try simp only [Exit.inBlock, Exit.then]
 refine bodyPost_ret (by simp [results, Tryd.results31, go_sem]; try rfl) rfl ?_
 exact ⟨rfl, b0.alloc (Nat.le_refl _) _⟩
set_option maxRecDepth 100000 in
set_option maxHeartbeats 2000000 in
theorem plain_un (v : Int) (tx : TypeId) (x : Value) (w : World) : Calls Tryd.prog 31 #[.iface 89 (.agg #[.int .i64 v, .iface tx x])] w fun e w' => e = .returned (encA ⟨6, v, ⟨#[]⟩⟩) ∧ Below w.heap.size w w' := by
 have n1 := fun W v => as_num_no W 89 v (by decide)
 have n2 := fun W v => as_var_no W 89 v (by decide)
 have n3 := fun W v => as_index_no W 89 v (by decide)
 have n4 := fun W v => as_call_no W 89 v (by decide)
 have y := as_un_yes
 have b0 : Below w.heap.size w w := Below.refl _ _
 unfold encA
 go_enter Tryd.func31, Tryd.ntmps31
 go_wp2_with fail
 try simp only [Exit.inBlock, Exit.then]
 refine bodyPost_ret (by simp [results, Tryd.results31, go_sem]; try rfl) rfl ?_
 exact ⟨rfl, (b0.alloc (Nat.le_refl _) _).alloc (by simp) _⟩
set_option maxRecDepth 100000 in
set_option maxHeartbeats 2000000 in
theorem plain_bin (v : Int) (tx : TypeId) (x : Value) (ty : TypeId) (y : Value) (w : World) : Calls Tryd.prog 31 #[.iface 95 (.agg #[.int .i64 v, .iface tx x, .iface ty y])] w fun e w' => e = .returned (encA ⟨7, v, ⟨#[]⟩⟩) ∧ Below w.heap.size w w' := by
 have n1 := fun W v => as_num_no W 95 v (by decide)
 have n2 := fun W v => as_var_no W 95 v (by decide)
 have n3 := fun W v => as_index_no W 95 v (by decide)
 have n4 := fun W v => as_call_no W 95 v (by decide)
 have n5 := fun W v => as_un_no W 95 v (by decide)
 have y := as_bin_yes
 have b0 : Below w.heap.size w w := Below.refl _ _
 unfold encA
 go_enter Tryd.func31, Tryd.ntmps31
 go_wp2_with fail
 try simp only [Exit.inBlock, Exit.then]
 refine bodyPost_ret (by simp [results, Tryd.results31, go_sem]; try rfl) rfl ?_
 exact ⟨rfl, (b0.alloc (Nat.le_refl _) _).alloc (by simp) _⟩
set_option maxRecDepth 100000 in
set_option maxHeartbeats 2000000 in
theorem plain_and (tx : TypeId) (x : Value) (ty : TypeId) (y : Value) (w : World) : Calls Tryd.prog 31 #[.iface 98 (.agg #[.iface tx x, .iface ty y])] w fun e w' => e = .returned (encA ⟨8, 0, ⟨#[]⟩⟩) ∧ Below w.heap.size w w' := by
 have n1 := fun W v => as_num_no W 98 v (by decide)
 have n2 := fun W v => as_var_no W 98 v (by decide)
 have n3 := fun W v => as_index_no W 98 v (by decide)
 have n4 := fun W v => as_call_no W 98 v (by decide)
 have n5 := fun W v => as_un_no W 98 v (by decide)
 have n6 := fun W v => as_bin_no W 98 v (by decide)
 have y := as_and_yes
 have b0 : Below w.heap.size w w := Below.refl _ _
 unfold encA
 go_enter Tryd.func31, Tryd.ntmps31
 go_wp2_with fail
 try simp only [Exit.inBlock, Exit.then]
 refine bodyPost_ret (by simp [results, Tryd.results31, go_sem]; try rfl) rfl ?_
 exact ⟨rfl, (b0.alloc (Nat.le_refl _) _).alloc (by simp) _⟩
set_option maxRecDepth 100000 in
set_option maxHeartbeats 2000000 in
theorem plain_or (tx : TypeId) (x : Value) (ty : TypeId) (y : Value) (w : World) : Calls Tryd.prog 31 #[.iface 100 (.agg #[.iface tx x, .iface ty y])] w fun e w' => e = .returned (encA ⟨9, 0, ⟨#[]⟩⟩) ∧ Below w.heap.size w w' := by
 have n1 := fun W v => as_num_no W 100 v (by decide)
 have n2 := fun W v => as_var_no W 100 v (by decide)
 have n3 := fun W v => as_index_no W 100 v (by decide)
 have n4 := fun W v => as_call_no W 100 v (by decide)
 have n5 := fun W v => as_un_no W 100 v (by decide)
 have n6 := fun W v => as_bin_no W 100 v (by decide)
 have n7 := fun W v => as_and_no W 100 v (by decide)
 have y := as_or_yes
 have b0 : Below w.heap.size w w := Below.refl _ _
 unfold encA
 go_enter Tryd.func31, Tryd.ntmps31
 go_wp2_with fail
 try simp only [Exit.inBlock, Exit.then]
 refine bodyPost_ret (by simp [results, Tryd.results31, go_sem]; try rfl) rfl ?_
 exact ⟨rfl, (b0.alloc (Nat.le_refl _) _).alloc (by simp) _⟩
theorem Src.nil (w : World) : Src w (.slice none 0 0) [] := ⟨_, _, rfl, fun _ => rfl, fun ad had => by cases had⟩
theorem Src.lit2 (w : World) (x y : Value) (t : TypeId) : Src (w.alloc (.cells #[x, y] t)) (.slice (some ⟨w.heap.size, 0, none⟩) 2 2) [x, y] := by
 refine ⟨_, _, rfl, fun h => (by cases h), fun ad had j z hz => ?_⟩
 simp only [Option.some.injEq] at had
 subst had
 cases j with
 | zero => simp at hz; subst hz; simp [Addr.add]
 | succ j => cases j with
  | zero => simp at hz; subst hz; simp [Addr.add]
  | succ j => simp at hz
set_option maxRecDepth 100000 in
set_option maxHeartbeats 2000000 in
theorem ops_num (v : Int) (w : World) : Calls Tryd.prog 107 #[.agg #[.int .i64 v]] w fun e w' => ∃ sl, e = .returned sl ∧ Src w' sl [] ∧ Below w.heap.size w w' := by
 go_enter Tryd.func107, Tryd.ntmps107
 go_wp2_with fail
 go_ret
 exact ⟨_, rfl, Src.nil _, (Below.refl _ _).alloc (Nat.le_refl _) _⟩
set_option maxRecDepth 100000 in
set_option maxHeartbeats 2000000 in
theorem ops_var (s : ByteArray) (w : World) : Calls Tryd.prog 111 #[.agg #[.string s]] w fun e w' => ∃ sl, e = .returned sl ∧ Src w' sl [] ∧ Below w.heap.size w w' := by
 go_enter Tryd.func111, Tryd.ntmps111
 go_wp2_with fail
 go_ret
 exact ⟨_, rfl, Src.nil _, (Below.refl _ _).alloc (Nat.le_refl _) _⟩
set_option maxRecDepth 100000 in
set_option maxHeartbeats 2000000 in
theorem ops_index (s : ByteArray) (tx : TypeId) (x : Value) (w : World) : Calls Tryd.prog 112 #[.agg #[.string s, .iface tx x]] w fun e w' => ∃ sl, e = .returned sl ∧ Src w' sl [.iface tx x] ∧ Below w.heap.size w w' := by
 go_enter Tryd.func112, Tryd.ntmps112
 go_wp2_with fail
 go_ret
 have HS := Src.lit (w.alloc (.cells #[.string s, .iface tx x] 123)) (.iface tx x) 58
 simp only [World.size_alloc] at HS
 exact ⟨_, rfl, HS, ((Below.refl _ _).alloc (Nat.le_refl _) _).alloc (by simp) _⟩
set_option maxRecDepth 100000 in
set_option maxHeartbeats 2000000 in
theorem ops_inn  (w : World) : Calls Tryd.prog 114 #[.agg #[]] w fun e w' => ∃ sl, e = .returned sl ∧ Src w' sl [] ∧ Below w.heap.size w w' := by
 go_enter Tryd.func114, Tryd.ntmps114
 go_wp2_with fail
 go_ret
 exact ⟨_, rfl, Src.nil _, (Below.refl _ _).alloc (Nat.le_refl _) _⟩
set_option maxRecDepth 100000 in
set_option maxHeartbeats 2000000 in
theorem ops_un (v : Int) (tx : TypeId) (x : Value) (w : World) : Calls Tryd.prog 106 #[.agg #[.int .i64 v, .iface tx x]] w fun e w' => ∃ sl, e = .returned sl ∧ Src w' sl [.iface tx x] ∧ Below w.heap.size w w' := by
 go_enter Tryd.func106, Tryd.ntmps106
 go_wp2_with fail
 go_ret
 have HS := Src.lit (w.alloc (.cells #[.int .i64 v, .iface tx x] 89)) (.iface tx x) 58
 simp only [World.size_alloc] at HS
 exact ⟨_, rfl, HS, ((Below.refl _ _).alloc (Nat.le_refl _) _).alloc (by simp) _⟩
set_option maxRecDepth 100000 in
set_option maxHeartbeats 2000000 in
theorem ops_bin (v : Int) (tx : TypeId) (x : Value) (ty : TypeId) (y : Value) (w : World) : Calls Tryd.prog 108 #[.agg #[.int .i64 v, .iface tx x, .iface ty y]] w fun e w' => ∃ sl, e = .returned sl ∧ Src w' sl [.iface tx x, .iface ty y] ∧ Below w.heap.size w w' := by
 go_enter Tryd.func108, Tryd.ntmps108
 go_wp2_with fail
 go_ret
 have HS := Src.lit2 (w.alloc (.cells #[.int .i64 v, .iface tx x, .iface ty y] 95)) (.iface tx x) (.iface ty y) 58
 simp only [World.size_alloc] at HS
 exact ⟨_, rfl, HS, ((Below.refl _ _).alloc (Nat.le_refl _) _).alloc (by simp) _⟩
set_option maxRecDepth 100000 in
set_option maxHeartbeats 2000000 in
theorem ops_and (tx : TypeId) (x : Value) (ty : TypeId) (y : Value) (w : World) : Calls Tryd.prog 109 #[.agg #[.iface tx x, .iface ty y]] w fun e w' => ∃ sl, e = .returned sl ∧ Src w' sl [.iface tx x, .iface ty y] ∧ Below w.heap.size w w' := by
 go_enter Tryd.func109, Tryd.ntmps109
 go_wp2_with fail
 go_ret
 have HS := Src.lit2 (w.alloc (.cells #[.iface tx x, .iface ty y] 98)) (.iface tx x) (.iface ty y) 58
 simp only [World.size_alloc] at HS
 exact ⟨_, rfl, HS, ((Below.refl _ _).alloc (Nat.le_refl _) _).alloc (by simp) _⟩
set_option maxRecDepth 100000 in
set_option maxHeartbeats 2000000 in
theorem ops_or (tx : TypeId) (x : Value) (ty : TypeId) (y : Value) (w : World) : Calls Tryd.prog 110 #[.agg #[.iface tx x, .iface ty y]] w fun e w' => ∃ sl, e = .returned sl ∧ Src w' sl [.iface tx x, .iface ty y] ∧ Below w.heap.size w w' := by
 go_enter Tryd.func110, Tryd.ntmps110
 go_wp2_with fail
 go_ret
 have HS := Src.lit2 (w.alloc (.cells #[.iface tx x, .iface ty y] 100)) (.iface tx x) (.iface ty y) 58
 simp only [World.size_alloc] at HS
 exact ⟨_, rfl, HS, ((Below.refl _ _).alloc (Nat.le_refl _) _).alloc (by simp) _⟩
set_option maxRecDepth 100000 in
set_option maxHeartbeats 2000000 in
theorem ops_call (s : ByteArray) (a : Option Addr) (A cp : Nat) (w : World) : Calls Tryd.prog 113 #[.agg #[.string s, .slice a A cp]] w fun e w' => e = .returned (.slice a A cp) ∧ Below w.heap.size w w' := by
 go_enter Tryd.func113, Tryd.ntmps113
 go_wp2_with fail
 go_ret
 exact ⟨rfl, (Below.refl _ _).alloc (Nat.le_refl _) _⟩
end
section
open Go.RowKit
def LowIs (w : World) (S : Nat → Prop) (v : Value) (l : List Nd) : Prop := ∃ (t : TypeId) (x : Value) (f : Nat) (n : Nd) (Ls : List (Value × List Nd)),
 v = .iface t x ∧ l = (Ls.map (·.2)).flatten ++ [n] ∧ (∀ q ∈ Ls, Tv w S q.1 q.2) ∧
 (∀ W : World, (method 268 t x "loop.example/s01725/impl.operands").run Tryd.prog W = .ok (f, x) W) ∧
 (∀ (y : Value) (W : World), (callFunc f #[y]).run Tryd.prog W = .ok (.enter f #[y]) W) ∧
 (∀ W : World, Below w.heap.size w W → Calls Tryd.prog f #[x] W fun e w' => ∃ sl, e = .returned sl ∧ Src w' sl (Ls.map (·.1)) ∧ Below W.heap.size W w') ∧
 (∀ W : World, Calls Tryd.prog 31 #[v] W fun e w' => e = .returned (encA n) ∧ Below W.heap.size W w')
theorem join_range (F : Nat → List Nd) (vs : Nat → Value) (A : Nat) : joinF F A = (((List.range A).map (fun i => (vs i, F i))).map (·.2)).flatten := by
 induction A with
 | zero => rfl
 | succ A ih => rw [List.range_succ]; simp only [joinF, List.map_append, List.flatten_append, List.map_cons, List.map_nil, List.flatten_cons, List.flatten_nil, List.append_nil]; rw [ih]
theorem args_src {w : World} {S : Nat → Prop} {ar : Value} {A : Nat} {vs : Nat → Value} (F : Nat → List Nd) (h : Args w S ar A vs) : ∃ a cap, ar = .slice a A cap ∧ Src w ar (((List.range A).map (fun i => (vs i, F i))).map (·.1)) := by
 obtain ⟨a, cap, rfl, _, _, h⟩ := h
 refine ⟨a, cap, rfl, a, cap, by simp, fun ha => ?_, fun ad had j u hj => ?_⟩
 ·rcases Nat.eq_zero_or_pos A with h0 | h0
  ·subst h0; rfl
  ·obtain ⟨B, hB, _⟩ := h h0
   rw [ha] at hB; cases hB
 ·have hjA : j < A := by
   have := (List.getElem?_eq_some_iff.mp hj).1
   simpa using this
  obtain ⟨B, hB, _, hc⟩ := h (by omega)
  rw [had] at hB
  simp only [Option.some.injEq] at hB
  subst hB
  rw [addrO]
  have := hc j hjA
  simp only [List.map_map, List.getElem?_map, List.getElem?_range hjA, Option.map_some, Option.some.injEq, Function.comp] at hj
  rw [← hj]
  simpa using this
set_option maxRecDepth 100000 in
theorem Tv.low {w : World} {S : Nat → Prop} {v : Value} {l : List Nd} (h : Tv w S v l) : LowIs w S v l := by
 cases h using Tv_i with
 | num v => exact ⟨_, _, 107, _, [], rfl, rfl, by simp, fun W => by kernel_rfl, fun y W => by kernel_rfl, fun W _ => ops_num v W, fun W => plain_num v W⟩
 | var s => exact ⟨_, _, 111, _, [], rfl, rfl, by simp, fun W => by kernel_rfl, fun y W => by kernel_rfl, fun W _ => ops_var s W, fun W => plain_var s W⟩
 | index s x r hx =>
  obtain ⟨tx, xx, rfl⟩ := hx.isI
  exact ⟨_, _, 112, _, [(_, r)], rfl, by simp, by simpa using hx, fun W => by kernel_rfl, fun y W => by kernel_rfl, fun W _ => ops_index s tx xx W, fun W => plain_index s tx xx W⟩
 | call s ar A vs F ha hv =>
  obtain ⟨a, cap, rfl, hs⟩ := args_src F ha
  refine ⟨_, _, 113, _, (List.range A).map (fun i => (vs i, F i)), rfl, by rw [← join_range], fun q hq => ?_, fun W => by kernel_rfl, fun y W => by kernel_rfl, fun W hW => ?_, fun W => plain_call s a A cap W⟩
  ·simp only [List.mem_map, List.mem_range] at hq
   obtain ⟨i, hi, rfl⟩ := hq
   exact hv i hi
  ·refine (ops_call s a A cap W).mono ?_
   rintro e w' ⟨rfl, hb⟩
   exact ⟨_, rfl, hs.below (hW.trans (hb.mono hW.size)), hb⟩
 | inn => exact ⟨_, _, 114, _, [], rfl, rfl, by simp, fun W => by kernel_rfl, fun y W => by kernel_rfl, fun W _ => ops_inn W, fun W => plain_inn W⟩
 | un op x r hx =>
  obtain ⟨tx, xx, rfl⟩ := hx.isI
  exact ⟨_, _, 106, _, [(_, r)], rfl, by simp, by simpa using hx, fun W => by kernel_rfl, fun y W => by kernel_rfl, fun W _ => ops_un op tx xx W, fun W => plain_un op tx xx W⟩
 | bin op x y r t hx hy =>
  obtain ⟨tx, xx, rfl⟩ := hx.isI
  obtain ⟨ty, yy, rfl⟩ := hy.isI
  exact ⟨_, _, 108, _, [(_, r), (_, t)], rfl, by simp, by simpa using ⟨hx, hy⟩, fun W => by kernel_rfl, fun y W => by kernel_rfl, fun W _ => ops_bin op tx xx ty yy W, fun W => plain_bin op tx xx ty yy W⟩
 | and x y r t hx hy =>
  obtain ⟨tx, xx, rfl⟩ := hx.isI
  obtain ⟨ty, yy, rfl⟩ := hy.isI
  exact ⟨_, _, 109, _, [(_, r), (_, t)], rfl, by simp, by simpa using ⟨hx, hy⟩, fun W => by kernel_rfl, fun y W => by kernel_rfl, fun W _ => ops_and tx xx ty yy W, fun W => plain_and tx xx ty yy W⟩
 | or x y r t hx hy =>
  obtain ⟨tx, xx, rfl⟩ := hx.isI
  obtain ⟨ty, yy, rfl⟩ := hy.isI
  exact ⟨_, _, 110, _, [(_, r), (_, t)], rfl, by simp, by simpa using ⟨hx, hy⟩, fun W => by kernel_rfl, fun y W => by kernel_rfl, fun W _ => ops_or tx xx ty yy W, fun W => plain_or tx xx ty yy W⟩
set_option maxRecDepth 100000 in
set_option maxHeartbeats 4000000 in
theorem mapped_any (v : Value) (e r : List Nd) (w : World) (hTab : Tab w) (hN : Nodes w v e) (hone : oneB e = true) (hl : e.length ≤ 2000) (hr : Fd apN e r) :
  Calls Tryd.prog 17 #[v, .func (Fn.func 18) #[] #[]] w fun x w' => ∃ u S, x = .returned u ∧ Tv w' S u r ∧ (∀ B, S B → w.heap.size ≤ B ∧ B < w'.heap.size) ∧ Below w.heap.size w w' := by
 have hb := (Below.refl w.heap.size w).alloc (Nat.le_refl _) (.cells #[.func (Fn.func 18) #[] #[]] 85)
 have HR : Hid (Calls Tryd.prog 33 #[v, .func (Fn.func 34) #[] #[.pointer (some ⟨w.heap.size, 0, none⟩)]] (w.alloc (.cells #[.func (Fn.func 18) #[] #[]] 85)) fun x w' => ∃ u S, x = .returned u ∧ Tv w' S u r ∧ (∀ B, S B → w.heap.size + 1 ≤ B ∧ B < w'.heap.size) ∧ Below (w.heap.size + 1) (w.alloc (.cells #[.func (Fn.func 18) #[] #[]] 85)) w') := by
  have := raised_any v e r w.heap.size (w.alloc (.cells #[.func (Fn.func 18) #[] #[]] 85)) (hTab.below hTab.size hb) (hN.below hb) hone hl hr (by simp)
  simp only [World.size_alloc] at this
  exact this
 obtain ⟨a, cap, rfl, -⟩ := hN
 go_enter Tryd.func17, Tryd.ntmps17
 go_wp2_with fail
 refine HR.out.mono ?_
 rintro x w1 ⟨u, S, rfl, h1, h2, h3⟩
 obtain ⟨ta, tb, rfl⟩ := h1.isI
 have HT : Hid (Tv w1 S (.iface ta tb) r) := h1
 clear h1
 go_wp2_with fail
 go_ret
 exact ⟨_, S, rfl, HT.out, fun B hB => ⟨by have := (h2 B hB).1; omega, (h2 B hB).2⟩, hb.trans (h3.mono (by omega))⟩
end
end Go.Proofs.YtolkpkklinoegaaDoor
