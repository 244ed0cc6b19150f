import Derived.Test.YtefnijmgdcfhiaaGreatDoorQVA
import Derived.Test.YtefnijmgdcfhiaaGreatDoorQTA
import Derived.Below
import Derived.Deep.RegionHeld3
import Derived.Test.YtefnijmgdcfhiaaGreatDoorQCKA
import Derived.RegionTactic
import Derived.Laws.AppendOwn
namespace Go.Proofs.YtefnijmgdcfhiaaGreatDoor
open Go.RowKit
set_option linter.unusedVariables false
set_option linter.unusedSimpArgs false

/-- How many places an expression needs that comes into place d. -/
def needL (e : List Nd) (d : Int) : Int := ((evN e []).headD (fun d => d)) d
theorem NF.eq {e : List Nd} {g : Int → Int} (h : NF e g) (d : Int) : needL e d = g d := by
  unfold needL; rw [h []]; rfl
def plE (e : List Nd) (d m : Int) : Int := if e.length = 0 then m else max m (needL e d)
/-- The same after m of a statement's expressions. -/
def plU (s : St) (m : Nat) (p : Int) : Int := if m = 0 then p else if m = 1 then plE s.e 0 p else plE s.f 1 (plE s.e 0 p)
def places (body : List St) : Int := body.foldl (fun p s => plU s 2 p) 0
theorem places_snoc (l : List St) (s : St) : places (l ++ [s]) = plU s 2 (places l) := by simp [places]
/-- An expression that a statement may hold. -/
def okE (e : List Nd) : Prop := e.length ≤ 2000 ∧ (0 < e.length → oneB e = true)
theorem needL_bd {e : List Nd} (h : okE e) (h0 : 0 < e.length) (d : Int) : d ≤ needL e d ∧ needL e d ≤ d + 14000 := by
  obtain ⟨g, h1, h2⟩ := NF.exists e.length e (Nat.le_refl _) (h.2 h0)
  rw [h1.eq]
  have := h2 d
  have := h.1
  omega

/-- impl.need of what nodeOf has raised. -/
theorem needE {w : World} {S : Nat → Prop} {u : Value} {e : List Nd} (h : Tv w S u e) (hS : ∀ B, S B → B < w.heap.size) (hk : okE e) (d : Int) (hd : 0 ≤ d) (hd1 : d ≤ 1) : Calls Tryz.prog 71 #[u, .int .i64 d] w fun x w' => x = .returned (.int .i64 (needL e d)) ∧ Below w.heap.size w w' := by
  obtain ⟨g, h1, h2, h3⟩ := need_any h hS (one_good (hk.2 h.pos))
  rw [h1.eq]
  exact h3 w d (Below.refl _ _) hd (by have := hk.1; omega)

set_option maxRecDepth 100000 in
set_option maxHeartbeats 4000000 in
theorem placesOf_any (vb : Value) (body : List St) (w : World) (hTab : Tab w) (hb : Stmts w vb body) (hok : ∀ s ∈ body, okE s.e ∧ okE s.f) :
    Calls Tryz.prog 50 #[vb] w fun e w' => e = .returned (.int .i64 (places body)) ∧ Below w.heap.size w w' := by
  obtain ⟨ab, cb, rfl, hcl, hbl, hbc⟩ := hb
  have HBC : Hid (0 < body.length → ∃ b off, ab = some ⟨b, off, none⟩ ∧ StmtsC w b off body) := hbc
  have HOk : Hid (∀ s ∈ body, okE s.e ∧ okE s.f) := hok
  have HTab : Hid (Tab w) := hTab
  clear hbc hok hTab
  go_enter Tryz.func50, Tryz.ntmps50
  go_wp2_with fail
  go_loopw [3, 10] (fun p i wr => ∃ (k : Nat), k ≤ body.length ∧ i = .int .i64 k ∧ p = .int .i64 (places (body.take k)) ∧ Below w.heap.size w wr) (fun _ i _ => body.length - (RowKit.intOf i).toNat)
  case atStart => exact ⟨0, Nat.zero_le _, rfl, rfl, Below.refl _ _⟩
  case round =>
    obtain ⟨k, hk, rfl, rfl, hB⟩ := hrel
    by_cases hlt : k < body.length
    · obtain ⟨b', off, rfl, hc⟩ := HBC.out (by omega)
      obtain ⟨ve, vf, ⟨c0, c1, c2, c3, c4, c5⟩, he, hf⟩ := hc k hlt
      have hlb := World.block_lt_of_cell? _ _ c0
      have d0 := (hB.cell (p := ⟨b', off + k * 6, none⟩) hlb).trans c0
      have d1 := (hB.cell (p := ⟨b', off + k * 6 + 1, none⟩) hlb).trans c1
      have d2 := (hB.cell (p := ⟨b', off + k * 6 + 2, none⟩) hlb).trans c2
      have d3 := (hB.cell (p := ⟨b', off + k * 6 + 3, none⟩) hlb).trans c3
      have d4 := (hB.cell (p := ⟨b', off + k * 6 + 4, none⟩) hlb).trans c4
      have d5 := (hB.cell (p := ⟨b', off + k * 6 + 5, none⟩) hlb).trans c5
      clear c0 c1 c2 c3 c4 c5
      have HE : Hid (places (body.take (k + 1)) = plU body[k] 2 (places (body.take k))) := by show _ = _; rw [List.take_succ_eq_append_getElem hlt, places_snoc]
      have HS : Hid (okE body[k].e ∧ okE body[k].f) := HOk.out _ (List.getElem_mem hlt)
      clear hc
      generalize body[k] = s at d0 d1 d2 d3 d4 d5 he hf HE HS
      generalize places (body.take k) = pre at HE
      have HNe : Hid (Nodes w ve s.e) := he
      have HNf : Hid (Nodes w vf s.f) := hf
      obtain ⟨ae, ce, rfl, -⟩ := he
      obtain ⟨af, cf, rfl, -⟩ := hf
      go_wp2_with fail
      refine (exprs_any _ _ _ _ _ _ _ _ _ _ _).mono ?_
      rintro e w1 ⟨rfl, hb1⟩
      simp only [World.size_alloc] at hb1
      have HB1 : Hid (Below w.heap.size w w1) := hB.trans ((((Below.refl _ _).alloc (Nat.le_refl _) _).trans (hb1.mono (by simp))).mono hB.size)
      clear d0 d1 d2 d3 d4 d5 hb1
      go_wp2_with fail
      go_loopw [3, 16] (fun p i w2 => ∃ (m : Nat), m ≤ 2 ∧ i = .int .i64 m ∧ p = .int .i64 (plU s m pre) ∧ Below w.heap.size w w2) (fun _ i _ => 2 - (RowKit.intOf i).toNat)
      case atStart => exact ⟨0, Nat.zero_le _, rfl, rfl, HB1.out⟩
      case round =>
        obtain ⟨m, hm, rfl, rfl, hB3⟩ := hrel
        clear hB HB1
        by_cases hm2 : m < 2
        · obtain ⟨va, el, ca, hidx, hel, hnext, hoe⟩ : ∃ (va : Option Addr) (el : List Nd) (ca : Nat), (∀ W, (Instr.index 102 (.agg #[.slice ae s.e.length ce, .slice af s.f.length cf]) (.int .i64 (m : Int))).run Tryz.prog W = .ok (.slice va el.length ca) W) ∧ Nodes w (.slice va el.length ca) el ∧ plU s (m + 1) pre = plE el m (plU s m pre) ∧ okE el := by
            have h01 : m = 0 ∨ m = 1 := by omega
            rcases h01 with rfl | rfl
            · exact ⟨ae, s.e, ce, fun W => idx0 _ _ W, HNe.out, by simp [plU], HS.out.1⟩
            · exact ⟨af, s.f, cf, fun W => idx1 _ _ W, HNf.out, by simp [plU], HS.out.2⟩
          have HX : Hid (plU s (m + 1) pre = plE el m (plU s m pre)) := hnext
          have HOe : Hid (okE el) := hoe
          have HEl : Hid (Nodes w (.slice va el.length ca) el) := hel
          clear hnext hoe hel
          generalize plU s m pre = p at HX
          have hm2d : decide ((m : Int) < 2) = true := by rw [decide_eq_true_iff]; omega
          by_cases h0 : el.length = 0
          · have HY : Hid (plU s (m + 1) pre = p) := by show _ = _; rw [HX.out, plE, if_pos h0]
            clear HX
            go_wp2_with fail
            go_roundw
            case rel => exact ⟨m + 1, by omega, by go_num, by rw [HY.out], hB3⟩
            case measure => simp [RowKit.intOf]; omega
          · have hpos : 0 < el.length := by omega
            have HY : Hid (plU s (m + 1) pre = max p (needL el m)) := by show _ = _; rw [HX.out, plE, if_neg h0]
            have HR : Hid (∀ W, Below w.heap.size w W → Calls Tryz.prog 72 #[.slice va el.length ca, .func (Fn.func 73) #[] #[]] W fun x w' => ∃ u S, x = .returned u ∧ Tv w' S u el ∧ (∀ B, S B → W.heap.size ≤ B ∧ B < w'.heap.size) ∧ Below W.heap.size W w') := fun W hW => raisedJ_any _ el W (HTab.out.below HTab.out.size hW) (HEl.out.below hW) (HOe.out.2 hpos) HOe.out.1
            clear HX
            go_wp2_with fail
            refine (HR.out _ hB3).mono ?_
            rintro e w2 ⟨u, S, rfl, hT, hS, hb2⟩
            have HN : Hid (Calls Tryz.prog 71 #[u, .int .i64 (m : Int)] w2 fun x w' => x = .returned (.int .i64 (needL el m)) ∧ Below w2.heap.size w2 w') := needE hT (fun B hB => (hS B hB).2) HOe.out m (by omega) (by omega)
            obtain ⟨t, x, rfl⟩ := hT.isI
            clear hT hS HR HEl
            generalize needL el m = q at HN HY
            have HMX : Hid ((if p < q then q else p) = plU s (m + 1) pre) := by show _ = _; rw [HY.out, Int.max_def]; split <;> split <;> omega
            clear HY
            have hB4 := hB3.trans (hb2.mono hB3.size)
            clear hB3 hb2
            go_wp2_with fail
            refine HN.out.mono ?_
            rintro e w3 ⟨rfl, hb3⟩
            have hB5 := hB4.trans (hb3.mono hB4.size)
            clear hB4 hb3 HN
            go_wp2
            rw [HMX.out]
            refine ⟨⟨m + 1, by omega, by simp, rfl, hB5⟩, ?_⟩
            simp only [RowKit.intOf]
            omega
        · obtain rfl : m = 2 := by omega
          have HR : Hid (places (body.take (k + 1)) = plU s 2 pre) := HE.out
          generalize plU s 2 pre = p at HR
          go_wp2_with fail
          go_roundw
          case rel => exact ⟨k + 1, by omega, by go_num, by rw [HR.out], hB3⟩
          case measure => simp [RowKit.intOf]; omega
    · obtain rfl : k = body.length := by omega
      obtain ⟨p, hp⟩ : ∃ p, p = places (body.take body.length) := ⟨_, rfl⟩
      rw [← hp]
      have HP : Hid (p = places body) := by show _ = _; rw [hp, List.take_length]
      clear hp
      go_wp2_with fail
      go_ret
      exact ⟨congrArg (fun v => Ending.returned (.int .i64 v)) HP.out, hB⟩

end Go.Proofs.YtefnijmgdcfhiaaGreatDoor

namespace Go.Proofs.YtefnijmgdcfhiaaGreatDoor
open Go.RowKit
set_option linter.unusedVariables false
set_option linter.unusedSimpArgs false

/-- A map that holds these names. -/
structure NamesIs (D : DataW Unit) (ns : List ByteArray) : Prop where
  map : Maps.IsMap D
  has : ∀ s, Maps.has D (kS s) = true ↔ s ∈ ns
  size : Maps.size D = ns.length
theorem NamesIs.nil : NamesIs (.map []) [] := ⟨Maps.isMap_empty, fun s => by simp [Maps.has], rfl⟩
theorem NamesIs.put {D : DataW Unit} {ns : List ByteArray} (h : NamesIs D ns) (ht : Maps.Tidy D) (n : ByteArray) (z : Int) (hn : n ∉ ns) : NamesIs (D.put (kS n) (.lit (.int .i64 z))) (ns ++ [n]) := by
  refine ⟨h.map.put _ _, fun s => ?_, ?_⟩
  · by_cases hs : n = s
    · subst hs
      rw [Maps.has_put_same (k := kS n) h.map trivial]
      simp
    · rw [Maps.has_put_other (kS_ne (Ne.symm hs)), h.has s]
      simp [Ne.symm hs]
  · rw [Maps.size_put ht, if_neg (by rw [h.has]; exact hn), h.size]
    simp

set_option maxHeartbeats 1000000 in
/-- (*frame).used: four bytes for each name. -/
theorem used_any (C b nn : Nat) (D : DataW Unit) (ns : List ByteArray) (w : World) (h0 : w.cell? ⟨C, 0, none⟩ = some (.map (some b)))
    (hown : w.ownsMap Tryz.prog 9 (plainElem (H := Unit) Tryz.prog 2) b nn D) (hN : NamesIs D ns) (hl : ns.length ≤ 1000000) :
    Calls Tryz.prog 49 #[.pointer (some ⟨C, 0, none⟩)] w fun ev w' => ev = .returned (.int .i64 (4 * (ns.length : Int))) ∧ w' = w := by
  have hlen := fun ty => hown.len Tryz.underlying48 ty
  rw [hN.size] at hlen
  have hw4 : IntKind.i64.wrap (4 * (ns.length : Int)) = 4 * (ns.length : Int) := by simp [IntKind.wrap, IntKind.bits, IntKind.signed]; omega
  clear hown hN
  go_enter Tryz.func49, Tryz.ntmps49
  go_wp2_with fail
  go_ret
  exact ⟨rfl, rfl⟩

set_option maxRecDepth 100000 in
set_option maxHeartbeats 4000000 in
/-- (*frame).add: one more name. -/
theorem addF_any (C b nn : Nat) (D : DataW Unit) (ns : List ByteArray) (s : ByteArray) (w : World) (h0 : w.cell? ⟨C, 0, none⟩ = some (.map (some b)))
    (hown : w.ownsMap Tryz.prog 9 (plainElem (H := Unit) Tryz.prog 2) b nn D) (hN : NamesIs D ns) (hl : ns.length ≤ 1000000) (hn : nn < 1000000000) (hs : s.size ≤ maxLen) (hf : s ∉ ns) (hCb : C ≠ b) :
    Calls Tryz.prog 48 #[.pointer (some ⟨C, 0, none⟩), .string s] w fun ev w' => ev = .returned (.tuple #[]) ∧ ∃ D', w'.ownsMap Tryz.prog 9 (plainElem (H := Unit) Tryz.prog 2) b (nn + 1) D' ∧ NamesIs D' (ns ++ [s]) ∧ w.drew.grownBy w' (some b) := by
  have HO : Hid (w.ownsMap Tryz.prog 9 (plainElem (H := Unit) Tryz.prog 2) b nn D) := hown
  have HN : Hid (NamesIs D ns) := hN
  have HS : Hid (s.size ≤ maxLen) := hs
  have HT : Hid (Maps.Tidy D) := hown.tidy (Maps.string_keyed Tryz.underlying9)
  have hd : w.drew.cell? ⟨C, 0, none⟩ = some (.map (some b)) := h0
  have HO1 : Hid (w.drew.ownsMap Tryz.prog 9 (plainElem (H := Unit) Tryz.prog 2) b nn D) := hown
  have HU : Hid (Calls Tryz.prog 49 #[.pointer (some ⟨C, 0, none⟩)] w.drew fun ev w' => ev = .returned (.int .i64 (4 * (ns.length : Int))) ∧ w' = w.drew) := used_any C b nn D ns w.drew hd HO1.out hN hl
  obtain ⟨w5, hrun, hown5, hgrow5⟩ := HO1.out.update (Maps.string_keyed Tryz.underlying9) Tryz.underlying48 (by unfold maxLen; omega) (WideMaps.keyOf_string_mk Tryz.underlying9 HS.out) (plainElem_int (H := Unit) Tryz.underlying2 (a := 4 * (ns.length : Int)) (WalkArith.wf_i64 (by omega)))
  have HR : Hid (∃ D', w5.ownsMap Tryz.prog 9 (plainElem (H := Unit) Tryz.prog 2) b (nn + 1) D' ∧ NamesIs D' (ns ++ [s]) ∧ w.drew.grownBy w5 (some b)) := ⟨_, hown5, HN.out.put HT.out s _ hf, hgrow5⟩
  have h5 : w5.cell? ⟨C, 0, none⟩ = some (.map (some b)) := hgrow5.cell hd (by simpa using hCb)
  clear hown hN hown5 hgrow5
  go_enter Tryz.func48, Tryz.ntmps48
  go_wp2_with fail
  go_region_held3 (fun W => W.cell? ⟨C, 0, none⟩ = some (.map (some b))) (go_simp)
    (first
    | ((with_reducible refine Calls.mono HU.out ?_); rintro e w2 ⟨rfl, rfl⟩))
  exact bodyPost_end (v := .tuple #[]) (by simp [results, Tryz.results48, go_sem]) rfl ⟨rfl, HR.out⟩

end Go.Proofs.YtefnijmgdcfhiaaGreatDoor
