import Derived.Test.YtefnijmgdcfhiaaGreatDoorQBP
import Derived.Test.YtefnijmgdcfhiaaGreatDoorQHC
import Derived.Test.YtefnijmgdcfhiaaGreatDoorQCKT
import Derived.Deep.RegionHeld3
import Derived.Test.YtefnijmgdcfhiaaGreatDoorQBS1
set_option linter.unusedSectionVars false
variable [Inhabited Go.Proofs.YtefnijmgdcfhiaaGreatDoor.Pick]
namespace Go.Proofs.YtefnijmgdcfhiaaGreatDoor
open Go.RowKit
set_option linter.unusedVariables false
set_option linter.unusedSimpArgs false

/-- The closure that finds sums. -/
def fromV (F G R P : Nat) : Value := .func (Fn.func 34) #[] #[.pointer (some ⟨F, 0, none⟩), .pointer (some ⟨G, 0, none⟩), .pointer (some ⟨R, 0, none⟩), .pointer (some ⟨P, 0, none⟩)]
/-- What the closure has about it, as long as only its map turns. -/
def LEnv (t : Tr) (F G R P bm GG cap : Nat) (vs : Nat → Value) (vfr : Value) (w0 : World) : Prop := ∀ w, But bm w0 w →
  (w.cell? ⟨F, 0, none⟩ = some (.map (some bm)) ∧ w.cell? ⟨R, 0, none⟩ = some (fromV F G R P) ∧ w.cell? ⟨G, 0, none⟩ = some (.slice (some ⟨GG, 0, none⟩) t.funcs.length cap) ∧ w.cell? ⟨P, 0, none⟩ = some vfr) ∧ (∀ j, j < t.funcs.length → w.cell? ⟨GG, j, none⟩ = some (vs j) ∧ Ints w (vs j) (callI t.funcs j)) ∧ Ints w vfr (t.funcs.map frameSz)
theorem But.trans {b : Nat} {w w1 w2 : World} (h : But b w w1) (h' : But b w1 w2) : But b w w2 := ⟨Nat.le_trans h.1 h'.1, fun B hB hn => (h'.2 B (Nat.lt_of_lt_of_le hB h.1) hn).trans (h.2 B hB hn)⟩
/-- The closure's call at a function. -/
def FromC (t : Tr) (F G R P bm : Nat) (w0 : World) (f : Nat) (s : Int) : Prop := ∀ (w : World) (ks : List Nat) (D : DataW Unit), But bm w0 w → w.ownsMap Tryz.prog 2 (plainElem (H := Unit) Tryz.prog 2) bm ks.length D → FndIs t D ks →
  Calls Tryz.prog 34 #[.int .i64 (f : Int), .pointer (some ⟨F, 0, none⟩), .pointer (some ⟨G, 0, none⟩), .pointer (some ⟨R, 0, none⟩), .pointer (some ⟨P, 0, none⟩)] w fun e w' => e = .returned (.int .i64 s) ∧ (But bm w w' ∧ Below bm w w') ∧ ∃ ks' D', w'.ownsMap Tryz.prog 2 (plainElem (H := Unit) Tryz.prog 2) bm ks'.length D' ∧ FndIs t D' ks' ∧ ∀ x ∈ ks', x ∈ ks ∨ x = f ∨ Rch t f x
theorem callI_cl (t : Tr) (f : Nat) : callI t.funcs f = (clF t f).map (fun g : Nat => (g : Int)) := rfl
theorem map_frame_get {t : Tr} {f : Nat} (h : f < t.funcs.length) : (t.funcs.map frameSz)[f]'(by simpa using h) = fszF t f := by
  unfold fszF
  simp [List.getD, h]

set_option maxRecDepth 100000 in
set_option maxHeartbeats 4000000 in
theorem from_step (t : Tr) (F G R P bm GG cap : Nat) (vs : Nat → Value) (vfr : Value) (w0 : World) (hE : LEnv t F G R P bm GG cap vs vfr w0) (hfl : t.funcs.length ≤ 50) (hz : ∀ f, f < t.funcs.length → 0 ≤ fszF t f ∧ fszF t f ≤ 1000000)
    (n f : Nat) (g : Nat → Int) (hn : n ≤ 1000) (hf : f < t.funcs.length) (hg : ∀ c ∈ clF t f, Dp t n c (g c)) (ih : ∀ c ∈ clF t f, FromC t F G R P bm w0 c (g c)) : FromC t F G R P bm w0 f (fszF t f + mxL ((clF t f).map g)) := by
  intro w ks D hBt hown hF
  have HE : Hid (LEnv t F G R P bm GG cap vs vfr w0) := hE
  have hdp : Dp t (n + 1) f (fszF t f + mxL ((clF t f).map g)) := .mk n f g hf hg
  have HDp : Hid (Dp t (n + 1) f (fszF t f + mxL ((clF t f).map g))) := hdp
  have HIh : Hid (∀ c ∈ clF t f, FromC t F G R P bm w0 c (g c)) := ih
  have HBt : Hid (But bm w0 w) := hBt
  obtain ⟨⟨e1, e2, e3, e4⟩, hG, hI⟩ := hE w hBt
  by_cases hk : f ∈ ks
  · have hlook := look_fnd hown hF (by omega) hk hdp
    have HR : Hid (∃ ks' D', w.ownsMap Tryz.prog 2 (plainElem (H := Unit) Tryz.prog 2) bm ks'.length D' ∧ FndIs t D' ks' ∧ ∀ x ∈ ks', x ∈ ks ∨ x = f ∨ Rch t f x) := ⟨ks, D, hown, hF, fun x hx => .inl hx⟩
    generalize fszF t f + mxL ((clF t f).map g) = s at hlook
    clear hown hF hdp HDp hG hI hg ih hE
    go_enter Tryz.func34, Tryz.ntmps34
    go_wp2_with fail
    go_ret
    exact ⟨rfl, ⟨But.refl _ _, Below.refl _ _⟩, HR.out⟩
  · have hlook := look_new hown hF (by omega) hk
    have HO : Hid (w.ownsMap Tryz.prog 2 (plainElem (H := Unit) Tryz.prog 2) bm ks.length D ∧ FndIs t D ks) := ⟨hown, hF⟩
    have HMb : Hid (∀ k, 0 ≤ mxL (((clF t f).take k).map g) ∧ mxL (((clF t f).take k).map g) ≤ 1000000 * n) := fun k => mxL_bd _ _ (by omega) (fun x hx => by
      obtain ⟨c, hc, rfl⟩ := List.mem_map.1 hx
      exact ((hg c (List.mem_of_mem_take hc)).bd hz).2)
    obtain ⟨hvj, hIj⟩ := hG f hf
    rw [callI_cl] at hIj
    have HZf : Hid (0 ≤ fszF t f ∧ fszF t f ≤ 1000000) := hz f hf
    obtain ⟨aj, cj, hvs, -⟩ := hIj
    rw [List.length_map] at hvs
    have HVs : Hid (vs f = .slice aj (clF t f).length cj) := hvs
    rw [hvs] at hvj
    have hlen : (clF t f).length ≤ 50 := by have := callsL_len t.funcs (t.funcs.getD f ⟨⟨#[]⟩, [], []⟩).body; unfold clF; omega
    clear hown hF hdp hI hg ih hE hG hvs
    go_enter Tryz.func34, Tryz.ntmps34
    go_wp2_with fail
    clear hlook e1 e2 e3 e4 hvj
    go_loopw [9, 25] (fun p i wr => ∃ (k : Nat) (ks' : List Nat) (D' : DataW Unit), k ≤ (clF t f).length ∧ i = .int .i64 k ∧ p = .int .i64 (mxL (((clF t f).take k).map g)) ∧ wr.ownsMap Tryz.prog 2 (plainElem (H := Unit) Tryz.prog 2) bm ks'.length D' ∧ FndIs t D' ks' ∧ (∀ x ∈ ks', x ∈ ks ∨ Rch t f x) ∧ But bm w wr ∧ Below bm w wr) (fun _ i _ => (clF t f).length - (RowKit.intOf i).toNat)
    case atStart => exact ⟨0, ks, D, Nat.zero_le _, rfl, rfl, HO.out.1, HO.out.2, fun x hx => .inl hx, But.refl _ _, Below.refl _ _⟩
    case round =>
      obtain ⟨k, ks', D', hkl, rfl, rfl, hown, hF, hsub, hBw, hBl⟩ := hrel
      have hBt0 : But bm w0 wr := HBt.out.trans hBw
      obtain ⟨⟨e1, e2, e3, e4⟩, hG, hI⟩ := HE.out wr hBt0
      obtain ⟨-, hIj⟩ := hG f hf
      rw [callI_cl, HVs.out] at hIj
      obtain ⟨aj', cj', heq, hcj⟩ := hIj
      rw [List.length_map] at heq
      simp only [Value.slice.injEq, true_and] at heq
      obtain ⟨rfl, rfl⟩ := heq
      obtain ⟨hm0, hm1⟩ := HMb.out k
      by_cases hlt : k < (clF t f).length
      · obtain ⟨b, rfl, hcell⟩ := hcj (by rw [List.length_map]; omega)
        have hc := hcell k (by simpa using hlt)
        rw [List.getElem_map] at hc
        have HC : Hid (Calls Tryz.prog 34 #[.int .i64 ((clF t f)[k] : Int), .pointer (some ⟨F, 0, none⟩), .pointer (some ⟨G, 0, none⟩), .pointer (some ⟨R, 0, none⟩), .pointer (some ⟨P, 0, none⟩)] wr fun e w' => e = .returned (.int .i64 (g (clF t f)[k])) ∧ (But bm wr w' ∧ Below bm wr w') ∧ ∃ ks2 D', w'.ownsMap Tryz.prog 2 (plainElem (H := Unit) Tryz.prog 2) bm ks2.length D' ∧ FndIs t D' ks2 ∧ ∀ x ∈ ks2, x ∈ ks' ∨ x = (clF t f)[k] ∨ Rch t (clF t f)[k] x) := HIh.out _ (List.getElem_mem hlt) wr ks' D' hBt0 hown hF
        have HN : Hid (mxL (((clF t f).take (k + 1)).map g) = max (mxL (((clF t f).take k).map g)) (g (clF t f)[k])) := by show _ = _; rw [List.take_succ_eq_append_getElem hlt, List.map_append]; exact mxL_snoc _ _
        have hcr : CallR t f (clF t f)[k] := ⟨hf, List.getElem_mem hlt⟩
        have HSub : Hid (∀ x ∈ ks', x ∈ ks ∨ Rch t f x) := hsub
        clear hcj hcell hG hI hown hF e1 e3 e4 hsub
        generalize (clF t f)[k] = c at hc HC HN hcr
        have HCr : Hid (CallR t f c) := hcr
        clear hcr
        generalize mxL (((clF t f).take k).map g) = p at HN hm0 hm1
        generalize g c = q at HC HN
        unfold fromV at e2
        go_wp2_with fail
        refine HC.out.mono ?_
        rintro e w2 ⟨rfl, ⟨hb1, hb2⟩, ks2, D2, ho2, hf2, hs2⟩
        have HR : Hid (w2.ownsMap Tryz.prog 2 (plainElem (H := Unit) Tryz.prog 2) bm ks2.length D2 ∧ FndIs t D2 ks2 ∧ ∀ x ∈ ks2, x ∈ ks ∨ Rch t f x) := ⟨ho2, hf2, fun x hx => by
          rcases hs2 x hx with h | rfl | h
          · exact HSub.out x h
          · exact .inr (.one HCr.out)
          · exact .inr ((Rch.one HCr.out).trans h)⟩
        have hbb1 := hBw.trans hb1
        have hbb2 := hBl.trans hb2
        clear ho2 hf2 hs2 hb1 hb2 HC hc e2 hBw hBl hBt0
        go_wp2_with fail
        go_roundw
        case rel => exact ⟨k + 1, ks2, D2, by omega, by go_num, by rw [HN.out], HR.out.1, HR.out.2.1, HR.out.2.2, hbb1, hbb2⟩
        case measure => simp [RowKit.intOf]; omega
      · obtain rfl : k = (clF t f).length := by omega
        rw [List.take_length] at hm0 hm1 ⊢
        have hnf : f ∉ ks' := fun h => by
          rcases hsub f h with h | h
          · exact hk h
          · exact Dp.acyc _ HDp.out h
        have hzf := HZf.out
        obtain ⟨afr, cfr, hvf, hfc⟩ := hI
        rw [List.length_map] at hvf
        obtain ⟨bf, rfl, hfcell⟩ := hfc (by rw [List.length_map]; omega)
        have hfv := hfcell f (by simpa using hf)
        rw [map_frame_get hf] at hfv
        rw [hvf] at e4
        have hksl := hF.len
        obtain ⟨p, hp⟩ : ∃ p, p = mxL ((clF t f).map g) := ⟨_, rfl⟩
        obtain ⟨z, hz⟩ : ∃ z, z = fszF t f := ⟨_, rfl⟩
        have HZp : Hid (z + p = fszF t f + mxL ((clF t f).map g)) := by show _ = _; rw [hz, hp]
        rw [← hp] at hm0 hm1 HDp ⊢
        rw [← hz] at hfv hzf HDp
        have hbd : -9223372036854775808 ≤ z + p ∧ z + p ≤ 9223372036854775807 := by omega
        have hOd : wr.drew.ownsMap Tryz.prog 2 (plainElem (H := Unit) Tryz.prog 2) bm ks'.length D' := hown
        have hkey := Maps.keyOf_int_mk (P := Tryz.prog) Tryz.underlying2 (WalkArith.wf_i64 (n := (f : Int)) (by omega))
        obtain ⟨w5, hrun, hown5, hgrow5⟩ := hOd.update (Maps.int_keyed Tryz.underlying2) Tryz.underlying77 (by unfold maxLen; omega) hkey (plainElem_int (H := Unit) Tryz.underlying2 (a := z + p) (WalkArith.wf_i64 hbd))
        have hB5 : But bm w0 w5 := hBt0.grown hgrow5
        have hBw5 : But bm w w5 := hBw.grown hgrow5
        have hBl5 : Below bm w w5 := hBl.drew.grown hgrow5 (Nat.le_of_lt hOd.lt) (fun j hj => by cases hj; exact Nat.le_refl _)
        obtain ⟨⟨e1', -, -, -⟩, -⟩ := HE.out w5 hB5
        obtain ⟨c, hrun2, hat, -⟩ := hown5.lookup_int (key := .int .i64 (f : Int)) (Maps.int_keyed Tryz.underlying2) Tryz.underlying77 Tryz.underlying2 (Tryz.zeroValue2 _) hkey
        have hF5 : FndIs t (D'.put (.int .i64 (f : Int)) (.lit (.int .i64 (z + p)))) (ks' ++ [f]) := hF.put HDp.out hnf
        have hcz : c = z + p := by
          rw [Maps.atKey_put_same (k := .int .i64 (f : Int)) hF.map trivial] at hat
          simp only [DataW.lit.injEq, Lit.int.injEq, true_and] at hat
          exact hat.symm
        subst hcz
        have HR : Hid (∃ ks' D', w5.ownsMap Tryz.prog 2 (plainElem (H := Unit) Tryz.prog 2) bm ks'.length D' ∧ FndIs t D' ks' ∧ ∀ x ∈ ks', x ∈ ks ∨ x = f ∨ Rch t f x) := ⟨ks' ++ [f], _, by rw [List.length_append]; exact hown5, hF5, fun x hx => by
          rcases List.mem_append.1 hx with h | h
          · rcases hsub x h with h | h
            · exact .inl h
            · exact .inr (.inr h)
          · exact .inr (.inl (by simpa using h))⟩
        have k1 : IntKind.i64.wrap (z + p) = z + p := by simp [IntKind.wrap, IntKind.bits, IntKind.signed]; omega
        have d1 : wr.drew.cell? ⟨F, 0, none⟩ = some (.map (some bm)) := e1
        have d4 : wr.drew.cell? ⟨P, 0, none⟩ = some (.slice (some ⟨bf, 0, none⟩) t.funcs.length cfr) := e4
        have d5 : wr.drew.cell? ⟨bf, f, none⟩ = some (.int .i64 z) := hfv
        clear hown hF hG hcj hfc hfcell hvf hOd hown5 hgrow5 hat hF5 hnf hsub e2 e3 HDp hkey hB5 hp hz
        go_wp2_with fail
        go_region
        go_wp2_with fail
        go_ret
        exact ⟨ret_val (by rw [← HZp.out]; rfl), ⟨hBw5, hBl5⟩, HR.out⟩

/-- The closure at every function whose sum there is. -/
theorem fromL_any (t : Tr) (F G R P bm GG cap : Nat) (vs : Nat → Value) (vfr : Value) (w0 : World) (hE : LEnv t F G R P bm GG cap vs vfr w0) (hfl : t.funcs.length ≤ 50) (hz : ∀ f, f < t.funcs.length → 0 ≤ fszF t f ∧ fszF t f ≤ 1000000) {n f : Nat} {s : Int} (h : Dp t n f s) : n ≤ 1000 → FromC t F G R P bm w0 f s := by
  induction h using Dp.ind with
  | mk n f g hf hg ih => exact fun hn => from_step t F G R P bm GG cap vs vfr w0 hE hfl hz n f g (by omega) hf hg (fun c hc => ih c hc (by omega))

end Go.Proofs.YtefnijmgdcfhiaaGreatDoor

namespace Go.Proofs.YtefnijmgdcfhiaaGreatDoor
open Go.RowKit
set_option linter.unusedVariables false
set_option linter.unusedSimpArgs false

theorem Ints.still {w w' : World} {v : Value} {l : List Int} (h : Ints w v l) (hb : ∀ b, b < w.heap.size → w'.heap[b]? = w.heap[b]?) : Ints w' v l := by
  obtain ⟨a, cap, rfl, h⟩ := h
  refine ⟨a, cap, rfl, fun h0 => ?_⟩
  obtain ⟨b, rfl, hc⟩ := h h0
  exact ⟨b, rfl, fun j hj => (World.cell?_of_block (a := ⟨b, j, none⟩) (hb b (World.block_lt_of_cell? _ _ (hc j hj)))).trans (hc j hj)⟩

set_option maxRecDepth 100000 in
set_option maxHeartbeats 1000000 in
/-- impl.firstAbove. -/
theorem above_any (v : Value) (l : List Int) (w : World) (hl : l.length ≤ 1000) (h : Ints w v l) :
    Calls Tryz.prog 17 #[v] w fun e w' => (∃ r, e = .returned (.int .i64 r) ∧ ((r = -1 ∧ ∀ x ∈ l, x ≤ 2032) ∨ (0 ≤ r ∧ ∃ x ∈ l, 2032 < x))) ∧ Below w.heap.size w w' := by
  obtain ⟨a, c, rfl, hc⟩ := h
  have HC : Hid (0 < l.length → ∃ b, a = some ⟨b, 0, none⟩ ∧ ∀ j (h : j < l.length), w.cell? ⟨b, j, none⟩ = some (.int .i64 l[j])) := hc
  clear hc
  go_enter Tryz.func17, Tryz.ntmps17
  go_wp2_with fail
  go_loopw [7] (fun i wr => ∃ k : Nat, k ≤ l.length ∧ i = .int .i64 k ∧ (∀ j (h : j < l.length), j < k → l[j] ≤ 2032) ∧ wr = w) (fun i _ => l.length - (RowKit.intOf i).toNat)
  case atStart => exact ⟨0, Nat.zero_le _, rfl, fun j _ h => absurd h (Nat.not_lt_zero _), rfl⟩
  case round =>
    obtain ⟨k, hk, rfl, hall, rfl⟩ := hrel
    have HAll : Hid (∀ j (h : j < l.length), j < k → l[j] ≤ 2032) := hall
    clear hall
    by_cases hlt : k < l.length
    · obtain ⟨b, rfl, hcell⟩ := HC.out (by omega)
      have d0 := hcell k hlt
      have HM : Hid (l[k] ∈ l) := List.getElem_mem hlt
      have HK : Hid (l[k] ≤ 2032 → ∀ j (h : j < l.length), j < k + 1 → l[j] ≤ 2032) := fun h j hj hjk => by
        by_cases e : j = k
        · subst e; exact h
        · exact HAll.out j hj (by omega)
      clear hcell HC
      generalize l[k] = z at d0 HM HK
      by_cases hz : 2032 < z
      · go_wp2_with fail
        go_ret
        exact ⟨⟨_, rfl, .inr ⟨by omega, z, HM.out, hz⟩⟩, Below.refl _ _⟩
      · go_wp2_with fail
        go_roundw
        case rel => exact ⟨k + 1, by omega, by go_num, HK.out (by omega), trivial⟩
        case measure => simp [RowKit.intOf]; omega
    · obtain rfl : k = l.length := by omega
      go_wp2_with fail
      go_ret
      exact ⟨⟨_, rfl, .inl ⟨rfl, fun x hx => by obtain ⟨j, hj, rfl⟩ := List.getElem_of_mem hx; exact HAll.out j hj hj⟩⟩, Below.refl _ _⟩

/-- The world that largestSum leaves. -/
def lsW (t : Tr) (w : World) (GG cap : Nat) (vfr : Value) (t1 t2 t3 t4 : TypeId) : World :=
  ((((w.alloc (.cells #[.slice (some ⟨GG, 0, none⟩) t.funcs.length cap] t1)).alloc (.cells #[vfr] t2)).alloc (.map #[] 0)).alloc (.cells #[.map (some (w.heap.size + 1 + 1))] t3)).alloc (.cells #[fromV (w.heap.size + 1 + 1 + 1) w.heap.size (w.heap.size + 1 + 1 + 1 + 1) (w.heap.size + 1)] t4)
theorem lsW_is (t : Tr) (w : World) (GG cap : Nat) (vs : Nat → Value) (vfr : Value) (t1 t2 t3 t4 : TypeId) (hG : ∀ j, j < t.funcs.length → w.cell? ⟨GG, j, none⟩ = some (vs j) ∧ Ints w (vs j) (callI t.funcs j)) (hI : Ints w vfr (t.funcs.map frameSz)) :
    LEnv t (w.heap.size + 1 + 1 + 1) w.heap.size (w.heap.size + 1 + 1 + 1 + 1) (w.heap.size + 1) (w.heap.size + 1 + 1) GG cap vs vfr (lsW t w GG cap vfr t1 t2 t3 t4) ∧ (lsW t w GG cap vfr t1 t2 t3 t4).ownsMap Tryz.prog 2 (plainElem (H := Unit) Tryz.prog 2) (w.heap.size + 1 + 1) 0 (.map []) ∧ Below w.heap.size w (lsW t w GG cap vfr t1 t2 t3 t4) := by
  obtain ⟨W, hW⟩ : ∃ W, W = lsW t w GG cap vfr t1 t2 t3 t4 := ⟨_, rfl⟩
  rw [← hW]
  have hs : W.heap.size = w.heap.size + 5 := by rw [hW]; simp [lsW]
  have hB : Below w.heap.size w W := by
    rw [hW]
    exact (((((Below.refl _ _).alloc (Nat.le_refl _) _).alloc (by simp) _).alloc (by simp; omega) _).alloc (by simp; omega) _).alloc (by simp; omega) _
  have z0 : W.cell? ⟨w.heap.size, 0, none⟩ = some (.slice (some ⟨GG, 0, none⟩) t.funcs.length cap) := by rw [hW, lsW, World.cell?_alloc_past _ _ _ (by simp only [World.size_alloc]; omega), World.cell?_alloc_past _ _ _ (by simp only [World.size_alloc]; omega), World.cell?_alloc_past _ _ _ (by simp only [World.size_alloc]; omega), World.cell?_alloc_past _ _ _ (by simp only [World.size_alloc]; omega), World.cell?_alloc_at _ _ _ _ rfl]; rfl
  have z1 : W.cell? ⟨w.heap.size + 1, 0, none⟩ = some vfr := by rw [hW, lsW, World.cell?_alloc_past _ _ _ (by simp only [World.size_alloc]; omega), World.cell?_alloc_past _ _ _ (by simp only [World.size_alloc]; omega), World.cell?_alloc_past _ _ _ (by simp only [World.size_alloc]; omega), World.cell?_alloc_at _ _ _ _ (by simp only [World.size_alloc])]; rfl
  have z3 : W.cell? ⟨w.heap.size + 1 + 1 + 1, 0, none⟩ = some (.map (some (w.heap.size + 1 + 1))) := by rw [hW, lsW, World.cell?_alloc_past _ _ _ (by simp only [World.size_alloc]; omega), World.cell?_alloc_at _ _ _ _ (by simp only [World.size_alloc])]; rfl
  have z4 : W.cell? ⟨w.heap.size + 1 + 1 + 1 + 1, 0, none⟩ = some (fromV (w.heap.size + 1 + 1 + 1) w.heap.size (w.heap.size + 1 + 1 + 1 + 1) (w.heap.size + 1)) := by rw [hW, lsW, World.cell?_alloc_at _ _ _ _ (by simp only [World.size_alloc])]; rfl
  refine ⟨fun V hV => ?_, ?_, hB⟩
  · have hst : ∀ b, b < w.heap.size → V.heap[b]? = w.heap[b]? := fun b hb => (hV.2 b (by omega) (by omega)).trans (hB.block b hb)
    refine ⟨⟨(hV.cell (p := ⟨w.heap.size + 1 + 1 + 1, 0, none⟩) (by simp; omega) (by simp)).trans z3, (hV.cell (p := ⟨w.heap.size + 1 + 1 + 1 + 1, 0, none⟩) (by simp; omega) (by simp; omega)).trans z4, (hV.cell (p := ⟨w.heap.size, 0, none⟩) (by simp; omega) (by simp; omega)).trans z0, (hV.cell (p := ⟨w.heap.size + 1, 0, none⟩) (by simp; omega) (by simp)).trans z1⟩, fun j hj => ?_, hI.still hst⟩
    obtain ⟨h1, h2⟩ := hG j hj
    exact ⟨(World.cell?_of_block (a := ⟨GG, j, none⟩) (hst GG (World.block_lt_of_cell? _ _ h1))).trans h1, h2.still hst⟩
  · rw [hW, lsW]
    have := World.ownsMap_made ((w.alloc (.cells #[.slice (some ⟨GG, 0, none⟩) t.funcs.length cap] t1)).alloc (.cells #[vfr] t2)) Tryz.prog 2 (plainElem (H := Unit) Tryz.prog 2)
    simp only [World.size_alloc] at this
    exact (this.alloc _).alloc _

set_option maxRecDepth 100000 in
set_option maxHeartbeats 1000000 in
/-- impl.largestSum. -/
theorem largest_any (t : Tr) (vgr vfr : Value) (w : World) (hG : Graph w vgr t.funcs) (hI : Ints w vfr (t.funcs.map frameSz)) :
    Calls Tryz.prog 18 #[vgr, vfr] w fun e w' => ∃ F G R P bm GG cap vs, e = .returned (fromV F G R P) ∧ LEnv t F G R P bm GG cap vs vfr w' ∧ w'.ownsMap Tryz.prog 2 (plainElem (H := Unit) Tryz.prog 2) bm 0 (.map []) ∧ w.heap.size ≤ bm ∧ Below w.heap.size w w' := by
  obtain ⟨GG, cap, rfl, hg⟩ := hG
  have hmm := @run_makeMap Tryz.prog
  have hmf : ∀ (fn : Fn) (first cap : Array Value) (w : World), (Instr.makeFunc fn first cap).run Tryz.prog w = .ok (.func fn first cap) w := fun _ _ _ _ => rfl
  have hch : ∃ vs : Nat → Value, ∀ j, j < t.funcs.length → w.cell? ⟨GG, j, none⟩ = some (vs j) ∧ Ints w (vs j) (callI t.funcs j) := by
    have h0 : ∀ j, ∃ v, j < t.funcs.length → w.cell? ⟨GG, j, none⟩ = some v ∧ Ints w v (callI t.funcs j) := fun j => by
      by_cases hj : j < t.funcs.length
      · obtain ⟨v, hv⟩ := hg j hj
        exact ⟨v, fun _ => hv⟩
      · exact ⟨.nilFunc, fun h => absurd h hj⟩
    exact ⟨fun j => (h0 j).choose, fun j hj => (h0 j).choose_spec hj⟩
  obtain ⟨vs, hvs⟩ := hch
  have HL := fun t1 t2 t3 t4 => lsW_is t w GG cap vs vfr t1 t2 t3 t4 hvs hI
  obtain ⟨af, cf, hvf, -⟩ := hI
  rw [List.length_map] at hvf
  subst hvf
  have HL2 : Hid (∀ t1 t2 t3 t4, LEnv t (w.heap.size + 1 + 1 + 1) w.heap.size (w.heap.size + 1 + 1 + 1 + 1) (w.heap.size + 1) (w.heap.size + 1 + 1) GG cap vs (.slice af t.funcs.length cf) (lsW t w GG cap (.slice af t.funcs.length cf) t1 t2 t3 t4) ∧ (lsW t w GG cap (.slice af t.funcs.length cf) t1 t2 t3 t4).ownsMap Tryz.prog 2 (plainElem (H := Unit) Tryz.prog 2) (w.heap.size + 1 + 1) 0 (.map []) ∧ Below w.heap.size w (lsW t w GG cap (.slice af t.funcs.length cf) t1 t2 t3 t4)) := HL
  clear hg hvs HL
  go_enter Tryz.func18, Tryz.ntmps18
  go_wp2_with fail
  refine bodyPost_ret (v := fromV (w.heap.size + 1 + 1 + 1) w.heap.size (w.heap.size + 1 + 1 + 1 + 1) (w.heap.size + 1)) (by simp [results, Tryz.results18, go_sem, fromV]) rfl ⟨_, _, _, _, _, GG, cap, vs, rfl, (HL2.out _ _ _ _).1, (HL2.out _ _ _ _).2.1, by omega, (HL2.out _ _ _ _).2.2⟩

end Go.Proofs.YtefnijmgdcfhiaaGreatDoor

namespace Go.Proofs.YtefnijmgdcfhiaaGreatDoor
open Go.RowKit
set_option linter.unusedVariables false
set_option linter.unusedSimpArgs false

theorem look_main {W : World} {b nn : Nat} {D : DataW Unit} {fs : List Fu} (hown : W.ownsMap Tryz.prog 9 (plainElem (H := Unit) Tryz.prog 2) b nn D) (hN : NumIs D fs) {g : Nat} (h : fnum fs mainS = some g) :
    (Instr.lookup 48 (.map (some b)) (.string ⟨#[109, 97, 105, 110]⟩) false).run Tryz.prog W = .ok (.int .i64 (g : Int)) W := by
  have hs : mainS.size ≤ maxLen := by unfold maxLen; decide
  obtain ⟨c, hrun, hat, -⟩ := hown.lookup_int (key := .string mainS) (Maps.string_keyed Tryz.underlying9) Tryz.underlying48 Tryz.underlying2 (Tryz.zeroValue2 _) (WideMaps.keyOf_string_mk Tryz.underlying9 hs)
  rw [hN.val mainS g h] at hat
  simp only [DataW.lit.injEq, Lit.int.injEq, true_and] at hat
  rw [← hat] at hrun
  exact hrun

set_option maxRecDepth 100000 in
set_option maxHeartbeats 4000000 in
/-- impl.Bound. -/
theorem boundI_any (t : Tr) (vg vf : Value) (w : World) (hT : Tab w) (hs : smallT t) (hw : wfT t) (hg : Globs w vg t.globals) (hf : Funcs w vf t.funcs) :
    Calls Tryz.prog 7 #[.agg #[vg, vf]] w fun e w' => e = .returned (.int .i64 (boundE t)) ∧ Below w.heap.size w w' := by
  have HFr : Hid (∀ W, Below w.heap.size w W → Calls Tryz.prog 16 #[.agg #[vg, vf]] W fun e w' => ∃ v, e = .returned v ∧ FRow W.heap.size w' v (framesL t) ∧ Below W.heap.size W w') := fun W hW => framesI_any t vg vf W (hT.below hT.size hW) hs hw (hg.below hW) (hf.below hW)
  have HS : Hid (smallT t) := hs
  have HW : Hid (wfT t) := hw
  have HF : Hid (Funcs w vf t.funcs) := hf
  have hlen := framesL_len t
  have hsl := hs.2.1
  obtain ⟨ag, cg, rfl, -⟩ := hg
  obtain ⟨af, cf, rfl, -⟩ := hf
  have hA : Below w.heap.size w (w.alloc (.cells #[.slice ag t.globals.length cg, .slice af t.funcs.length cf] 31)) := (Below.refl _ _).alloc (Nat.le_refl _) _
  clear hs hw hT
  obtain ⟨RES, hRES⟩ : ∃ R, R = boundE t := ⟨_, rfl⟩
  rw [← hRES]
  have HRES : Hid (RES = boundE t) := hRES
  clear hRES
  go_enter Tryz.func7, Tryz.ntmps7
  go_wp2_with fail
  refine (HFr.out _ hA).mono ?_
  rintro e w1 ⟨v1, rfl, hr1, hb1⟩
  simp only [World.size_alloc] at hb1
  have hB1 := one_below hb1
  have HI : Hid (Ints w1 v1 (framesL t)) := own_ints hr1
  obtain ⟨a1, c1, rfl⟩ := hr1.shape
  clear hr1 HFr hA
  by_cases h0 : (framesL t).length = 0
  · have HB : Hid (RES = -1) := by
      show _ = _
      rw [HRES.out]
      by_cases hc : (checkE t).1 = 0
      · obtain ⟨m, hm, hl, -⟩ := sound_main hc
        rw [framesL_yes hc, List.length_map] at h0
        omega
      · exact boundE_no hc
    rw [h0]
    clear HI
    go_wp2_with fail
    go_ret
    exact ⟨ret_val (by rw [HB.out]; rfl), hB1⟩
  have hpos : 0 < (framesL t).length := by omega
  have hc : (checkE t).1 = 0 := by
    by_cases hc : (checkE t).1 = 0
    · exact hc
    · rw [framesL_no hc] at hpos; simp at hpos
  have HC : Hid ((checkE t).1 = 0) := hc
  obtain ⟨hfl, hfo⟩ := frOk hc HW.out
  obtain ⟨m, hm, hml, hac⟩ := sound_main hc
  have HM : Hid (fnum t.funcs mainS = some m) := hm
  have HFy : Hid (framesL t = t.funcs.map frameSz) := framesL_yes hc
  have HZ : Hid (∀ f, f < t.funcs.length → 0 ≤ fszF t f ∧ fszF t f ≤ 1000000) := fun f hf => by
    unfold fszF
    have e : t.funcs.getD f ⟨⟨#[]⟩, [], []⟩ = t.funcs[f] := by simp [List.getD, hf]
    rw [e]
    exact frameSz_bd (hfo _ (List.getElem_mem hf))
  obtain ⟨s, hds⟩ := sound_dp hc hm hml hac
  have HDs : Hid (Dp t t.funcs.length m s) := hds
  obtain ⟨x0, x1⟩ := box2 hb1
  have hlw : w.heap.size < w1.heap.size := World.block_lt_of_cell? _ _ x0
  have HAb : Hid (Calls Tryz.prog 17 #[.slice a1 (framesL t).length c1] w1 fun e w' => (∃ r, e = .returned (.int .i64 r) ∧ ((r = -1 ∧ ∀ x ∈ framesL t, x ≤ 2032) ∨ (0 ≤ r ∧ ∃ x ∈ framesL t, 2032 < x))) ∧ Below w1.heap.size w1 w') := above_any _ _ w1 (by omega) HI.out
  have hne : (((framesL t).length : Int) == 0) = false := by simp; intro h; rw [h] at hpos; simp at hpos
  clear h0 hc hfo hac hm hds
  have hll : (framesL t).length = t.funcs.length := by rw [HFy.out, List.length_map]
  generalize hFN : (framesL t).length = n1 at HAb hne hll hpos ⊢
  have HLl : Hid (n1 = t.funcs.length) := hll
  have HFN : Hid ((framesL t).length = n1) := hFN
  obtain ⟨n2, hn2⟩ : ∃ n2 : Nat, n1 = n2 + 1 := ⟨n1 - 1, by omega⟩
  subst hn2
  have hne2 : ((n2 : Int) + 1 == 0) = false := by simp; omega
  clear hll hFN hlen
  go_wp2_with fail
  refine HAb.out.mono ?_
  rintro e w2 ⟨⟨r, rfl, hr⟩, hb2⟩
  have hB2 := hB1.trans (hb2.mono hB1.size)
  have HI2 : Hid (Ints w2 (.slice a1 (n2 + 1) c1) (t.funcs.map frameSz)) := by
    have := HI.out.below hb2
    rw [HFN.out, HFy.out] at this
    exact this
  have y0 := (hb2.cell (p := ⟨w.heap.size, 0, none⟩) hlw).trans x0
  have y1 := (hb2.cell (p := ⟨w.heap.size, 1, none⟩) hlw).trans x1
  have hlw2 : w.heap.size < w2.heap.size := World.block_lt_of_cell? _ _ y0
  clear HAb x0 x1 hb2 HI
  rcases hr with ⟨rfl, hall⟩ | ⟨hr0, hbig⟩
  · have HB : Hid (RES = s) := by
      show _ = _
      rw [HRES.out, boundE_yes HC.out hall HM.out]
      exact HDs.out.deep
    have HGr : Hid (Calls Tryz.prog 19 #[.agg #[.slice ag t.globals.length cg, .slice af t.funcs.length cf]] w2 fun e w' => ∃ v, e = .returned v ∧ Graph w' v t.funcs ∧ Below w2.heap.size w2 w') := graph_any t.funcs _ _ w2 (by omega) ⟨_, _, _, rfl⟩ HW.out.2 HS.out.2.2 (HF.out.below hB2)
    clear hall
    go_wp2_with fail
    refine HGr.out.mono ?_
    rintro e w3 ⟨vgr, rfl, hgr, hb3⟩
    have hB3 := hB2.trans (hb3.mono hB2.size)
    have HLs : Hid (Calls Tryz.prog 18 #[vgr, .slice a1 (n2 + 1) c1] w3 fun e w' => ∃ F G R P bm GG cap vs, e = .returned (fromV F G R P) ∧ LEnv t F G R P bm GG cap vs (.slice a1 (n2 + 1) c1) w' ∧ w'.ownsMap Tryz.prog 2 (plainElem (H := Unit) Tryz.prog 2) bm 0 (.map []) ∧ w3.heap.size ≤ bm ∧ Below w3.heap.size w3 w') := largest_any t vgr _ w3 hgr (HI2.out.below hb3)
    have z0 := (hb3.cell (p := ⟨w.heap.size, 0, none⟩) hlw2).trans y0
    have z1 := (hb3.cell (p := ⟨w.heap.size, 1, none⟩) hlw2).trans y1
    have hlw3 : w.heap.size < w3.heap.size := World.block_lt_of_cell? _ _ z0
    obtain ⟨GG0, cap0, rfl, -⟩ := hgr
    clear HGr y0 y1 hb3
    go_wp2_with fail
    refine HLs.out.mono ?_
    rintro e w4 ⟨F, G, R, P, bm, GG, cap, vs, rfl, hE, hO, hbm, hb4⟩
    have hB4 := hB3.trans (hb4.mono hB3.size)
    have u0 := (hb4.cell (p := ⟨w.heap.size, 0, none⟩) hlw3).trans z0
    have u1 := (hb4.cell (p := ⟨w.heap.size, 1, none⟩) hlw3).trans z1
    have HO4 : Hid (w4.ownsMap Tryz.prog 2 (plainElem (H := Unit) Tryz.prog 2) bm 0 (.map [])) := hO
    have HFm : Hid (FromC t F G R P bm w4 m s) := fromL_any t F G R P bm GG cap vs _ w4 hE hfl HZ.out HDs.out (by omega)
    have HFn : Hid (Calls Tryz.prog 20 #[.agg #[.slice ag t.globals.length cg, .slice af t.funcs.length cf]] w4 fun e w' => ∃ b D, e = .returned (.map (some b)) ∧ w4.heap.size ≤ b ∧ w'.ownsMap Tryz.prog 9 (plainElem (H := Unit) Tryz.prog 2) b t.funcs.length D ∧ NumIs D t.funcs ∧ Below w4.heap.size w4 w') := fnums_any t.funcs _ _ w4 (by omega) HW.out.2 (HF.out.below hB4)
    clear hE hO HLs z0 z1 hb4
    unfold fromV
    go_wp2_with fail
    refine HFn.out.mono ?_
    rintro e w5 ⟨bn, D, rfl, hbn, hown, hN, hb5⟩
    have hlook := look_main hown hN HM.out
    have hB5 := hB4.trans (hb5.mono hB4.size)
    have HFc : Hid (Calls Tryz.prog 34 #[.int .i64 (m : Int), .pointer (some ⟨F, 0, none⟩), .pointer (some ⟨G, 0, none⟩), .pointer (some ⟨R, 0, none⟩), .pointer (some ⟨P, 0, none⟩)] w5 fun e w' => e = .returned (.int .i64 s) ∧ (But bm w5 w' ∧ Below bm w5 w') ∧ ∃ ks' D', w'.ownsMap Tryz.prog 2 (plainElem (H := Unit) Tryz.prog 2) bm ks'.length D' ∧ FndIs t D' ks' ∧ ∀ x ∈ ks', x ∈ ([] : List Nat) ∨ x = m ∨ Rch t m x) := HFm.out w5 [] (.map []) ((But.refl _ _).below hb5) (map_below HO4.out hb5) (FndIs.nil t)
    have hwb : w.heap.size ≤ bm := by omega
    clear hown hN hb5 HFn HFm HO4 u0 u1
    go_wp2_with fail
    refine HFc.out.mono ?_
    rintro e w6 ⟨rfl, ⟨-, hb6⟩, -⟩
    have hB6 : Below w.heap.size w w6 := hB5.trans (hb6.mono hwb)
    clear HFc hlook hb6
    go_wp2_with fail
    go_ret
    exact ⟨ret_val (by rw [HB.out]; rfl), hB6⟩
  · have HB : Hid (RES = -1) := by
      show _ = _
      rw [HRES.out]
      exact boundE_big hbig
    have hr1 : (r == -1) = false := by simp; omega
    clear hbig
    go_wp2_with fail
    go_ret
    exact ⟨ret_val (by rw [HB.out]; rfl), hB2⟩

end Go.Proofs.YtefnijmgdcfhiaaGreatDoor
