import Derived.Test.YtjhmgjimppflhaaGreatDoorY06
import Derived.Test.YtjhmgjimppflhaaGreatDoorY39
import Derived.RegionTactic
import Derived.Deep.RegionHeld3
import Derived.Laws.AppendOwn
import Derived.Laws.NewBlocks
set_option linter.unusedSectionVars false
variable [Inhabited Go.Proofs.YtjhmgjimppflhaaGreatDoor.Pick]
namespace Go.Proofs.YtjhmgjimppflhaaGreatDoor
set_option linter.unusedVariables false
set_option linter.unusedSimpArgs false
set_option maxRecDepth 100000
set_option maxHeartbeats 16000000
section
open Go.RowKit
structure NamesIs (D : DataW Unit) (ns : List ByteArray) : Prop where
 map : Maps.IsMap D
 has : ∀ s, Maps.has D (kS s) = true ↔ s ∈ ns
 size : Maps.size D = ns.length
 val : ∀ s (i : Nat), ns.findIdx? (fun x => decide (x = s)) = some i → D.atKey (kS s) (.lit (.int .i64 0)) = .lit (.int .i64 (4 * (i : Int)))
theorem NamesIs.nil : NamesIs (.map []) [] := ⟨Maps.isMap_empty, fun s => by simp [Maps.has], rfl, fun s i h => by simp at h⟩
theorem NamesIs.put {D : DataW Unit} {ns : List ByteArray} (h : NamesIs D ns) (ht : Maps.Tidy D) (n : ByteArray) (hn : n ∉ ns) : NamesIs (D.put (kS n) (.lit (.int .i64 (4 * (ns.length : Int))))) (ns ++ [n]) := by
 refine ⟨h.map.put _ _, fun s => ?_, ?_, fun s i hi => ?_⟩
 ·by_cases hs : n = s
  ·subst hs
   rw [Maps.has_put_same (k := kS n) h.map trivial]
   simp
  ·rw [Maps.has_put_other (kS_ne (Ne.symm hs)), h.has s]
   simp [Ne.symm hs]
 ·rw [Maps.size_put ht, if_neg (by rw [h.has]; exact hn), h.size]
  simp
 ·rw [List.findIdx?_append] at hi
  by_cases hs : n = s
  ·subst hs
   have e : ns.findIdx? (fun x => decide (x = n)) = none := by
    rw [List.findIdx?_eq_none_iff]
    intro x hx
    simp only [decide_eq_false_iff_not]
    intro e
    exact hn (e ▸ hx)
   rw [e] at hi
   simp [List.findIdx?_cons] at hi
   subst hi
   rw [Maps.atKey_put_same (k := kS n) h.map trivial]
  ·rw [Maps.atKey_put_other (kS_ne (Ne.symm hs))]
   simp [List.findIdx?_cons, hs] at hi
   exact h.val s i hi
set_option maxHeartbeats 1000000 in
theorem used_any (C b nn : Nat) (D : DataW Unit) (ns : List ByteArray) (w : World) (h0 : w.cell? ⟨C, 0, none⟩ = some (.map (some b)))
  (hown : w.ownsMap Tryz.prog 9 (plainElem (H := Unit) Tryz.prog 2) b nn D) (hN : NamesIs D ns) (hl : ns.length ≤ 1000000) :
  Calls Tryz.prog 71 #[.pointer (some ⟨C, 0, none⟩)] w fun ev w' => ev = .returned (.int .i64 (4 * (ns.length : Int))) ∧ w' = w := by
 have hlen := fun ty => hown.len Tryz.underlying62 ty
 rw [hN.size] at hlen
 have hw4 : IntKind.i64.wrap (4 * (ns.length : Int)) = 4 * (ns.length : Int) := by simp [IntKind.wrap, IntKind.bits, IntKind.signed]; omega
 clear hown hN
 go_enter Tryz.func71, Tryz.ntmps71
 go_wp2_with fail
 go_ret
 exact ⟨rfl, rfl⟩
set_option maxRecDepth 100000 in
set_option maxHeartbeats 4000000 in
theorem addF_any (C b nn : Nat) (D : DataW Unit) (ns : List ByteArray) (s : ByteArray) (w : World) (h0 : w.cell? ⟨C, 0, none⟩ = some (.map (some b)))
  (hown : w.ownsMap Tryz.prog 9 (plainElem (H := Unit) Tryz.prog 2) b nn D) (hN : NamesIs D ns) (hl : ns.length ≤ 1000000) (hn : nn < 1000000000) (hs : s.size ≤ maxLen) (hf : s ∉ ns) (hCb : C ≠ b) :
  Calls Tryz.prog 70 #[.pointer (some ⟨C, 0, none⟩), .string s] w fun ev w' => ev = .returned (.tuple #[]) ∧ ∃ D', w'.ownsMap Tryz.prog 9 (plainElem (H := Unit) Tryz.prog 2) b (nn + 1) D' ∧ NamesIs D' (ns ++ [s]) ∧ w.drew.grownBy w' (some b) := by
 have HO : Hid (w.ownsMap Tryz.prog 9 (plainElem (H := Unit) Tryz.prog 2) b nn D) := hown
 have HN : Hid (NamesIs D ns) := hN
 have HS : Hid (s.size ≤ maxLen) := hs
 have HT : Hid (Maps.Tidy D) := hown.tidy (Maps.string_keyed Tryz.underlying9)
 have hd : w.drew.cell? ⟨C, 0, none⟩ = some (.map (some b)) := h0
 have HO1 : Hid (w.drew.ownsMap Tryz.prog 9 (plainElem (H := Unit) Tryz.prog 2) b nn D) := hown
 have HU : Hid (Calls Tryz.prog 71 #[.pointer (some ⟨C, 0, none⟩)] w.drew fun ev w' => ev = .returned (.int .i64 (4 * (ns.length : Int))) ∧ w' = w.drew) := used_any C b nn D ns w.drew hd HO1.out hN hl
 obtain ⟨w5, hrun, hown5, hgrow5⟩ := HO1.out.update (Maps.string_keyed Tryz.underlying9) Tryz.underlying62 (by unfold maxLen; omega) (WideMaps.keyOf_string_mk Tryz.underlying9 HS.out) (plainElem_int (H := Unit) Tryz.underlying2 (a := 4 * (ns.length : Int)) (WalkArith.wf_i64 (by omega)))
 have HR : Hid (∃ D', w5.ownsMap Tryz.prog 9 (plainElem (H := Unit) Tryz.prog 2) b (nn + 1) D' ∧ NamesIs D' (ns ++ [s]) ∧ w.drew.grownBy w5 (some b)) := ⟨_, hown5, HN.out.put HT.out s hf, hgrow5⟩
 have h5 : w5.cell? ⟨C, 0, none⟩ = some (.map (some b)) := hgrow5.cell hd (by simpa using hCb)
 clear hown hN hown5 hgrow5
 go_enter Tryz.func70, Tryz.ntmps70
 go_wp2_with fail
 go_region_held3 (fun W => W.cell? ⟨C, 0, none⟩ = some (.map (some b))) (go_simp)
  (first
  | ((with_reducible refine Calls.mono HU.out ?_); rintro e w2 ⟨rfl, rfl⟩))
 exact bodyPost_end (v := .tuple #[]) (by simp [results, Tryz.results70, go_sem]) rfl ⟨rfl, HR.out⟩
end
section
open Go.RowKit
theorem own_blk {w w' : World} {P : Program} {k : TypeId} {R : Value → Option (DataW Unit × List MemPlace)} {b n : Nat} {D : DataW Unit} (h : w.ownsMap P k R b n D) (e : w'.heap[b]? = w.heap[b]?) : w'.ownsMap P k R b n D := by
 obtain ⟨es, clock, h1, h2⟩ := h
 exact ⟨es, clock, by rw [e]; exact h1, h2⟩
def But (b : Nat) (w w' : World) : Prop := w.heap.size ≤ w'.heap.size ∧ ∀ B, B < w.heap.size → B ≠ b → w'.heap[B]? = w.heap[B]?
theorem But.refl (b : Nat) (w : World) : But b w w := ⟨Nat.le_refl _, fun _ _ _ => rfl⟩
theorem But.grown {b : Nat} {w w1 w' : World} (h : But b w w1) (hg : w1.drew.grownBy w' (some b)) : But b w w' := ⟨Nat.le_trans h.1 hg.size, fun B hB hb => (hg.block B (Nat.lt_of_lt_of_le hB h.1) (by simpa using hb)).trans (h.2 B hB hb)⟩
theorem But.below {b : Nat} {w w1 w' : World} (h : But b w w1) (hb : Below w1.heap.size w1 w') : But b w w' := ⟨Nat.le_trans h.1 hb.size, fun B hB hn => (hb.block B (Nat.lt_of_lt_of_le hB h.1)).trans (h.2 B hB hn)⟩
theorem But.cell {b : Nat} {w w' : World} (h : But b w w') {p : Addr} (hp : p.block < w.heap.size) (hn : p.block ≠ b) : w'.cell? p = w.cell? p := World.cell?_of_block (h.2 p.block hp hn)
theorem But.frozen {b : Nat} {w w' : World} (h : But b w w') {p : Addr} (hp : p.block < w.heap.size) (hn : p.block ≠ b) : w'.frozen? p = w.frozen? p := World.frozen?_of_block (h.2 p.block hp hn)
theorem plE_bd {e : List Nd} (h : okE e) {d p : Int} (hd : 0 ≤ d) (hd1 : d ≤ 1) (hp : 0 ≤ p ∧ p ≤ 14001) : 0 ≤ plE e d p ∧ plE e d p ≤ 14001 := by
 unfold plE
 split
 ·exact hp
 ·have := needL_bd h (by omega) d
  omega
theorem places_bd (body : List St) (hok : ∀ s ∈ body, okE s.e ∧ okE s.f) : 0 ≤ places body ∧ places body ≤ 14001 := by
 unfold places
 have : ∀ (l : List St) (p : Int), (∀ s ∈ l, okE s.e ∧ okE s.f) → 0 ≤ p ∧ p ≤ 14001 → 0 ≤ l.foldl (fun p s => plU s 2 p) p ∧ l.foldl (fun p s => plU s 2 p) p ≤ 14001 := by
  intro l
  induction l with
  | nil => intro p _ hp; exact hp
  | cons s l ih =>
   intro p h hp
   refine ih _ (fun s hs => h s (by simp [hs])) ?_
   have h2 := h s (by simp)
   simp only [plU]
   exact plE_bd h2.2 (by omega) (by omega) (plE_bd h2.1 (by omega) (by omega) hp)
 exact this body 0 hok (by omega)
def declN (body : List St) : List ByteArray := (body.filter (fun s => decide (s.kind = 1))).map (·.name)
theorem declN_snoc (l : List St) (s : St) : declN (l ++ [s]) = if s.kind = 1 then declN l ++ [s.name] else declN l := by
 unfold declN; rw [List.filter_append]; by_cases h : s.kind = 1 <;> simp [h]
theorem declN_new {ps : List ByteArray} {body : List St} (h : (ps ++ declN body).Nodup) {j : Nat} (hj : j < body.length) (h1 : body[j].kind = 1) : body[j].name ∉ ps ++ declN (body.take j) := by
 have e : declN body = declN (body.take j) ++ ([body[j].name] ++ declN (body.drop (j + 1))) := by
  have : body = body.take j ++ ([body[j]] ++ body.drop (j + 1)) := by simp
  have h2 : declN body = declN (body.take j ++ ([body[j]] ++ body.drop (j + 1))) := congrArg declN this
  rw [h2]
  unfold declN
  rw [List.filter_append, List.filter_append, List.map_append, List.map_append]
  congr 2
  simp [h1]
 rw [e, ← List.append_assoc] at h
 intro hm
 exact (List.nodup_append.1 h).2.2 _ hm _ (by simp) rfl
theorem declN_mem {body : List St} {j : Nat} (hj : j < body.length) (h1 : body[j].kind = 1) : body[j].name ∈ declN body := by
 unfold declN
 exact List.mem_map.2 ⟨body[j], List.mem_filter.2 ⟨List.getElem_mem hj, by simpa using h1⟩, rfl⟩
theorem declN_len (body : List St) : (declN body).length ≤ body.length := by
 unfold declN; rw [List.length_map]; exact List.length_filter_le _ _
set_option maxRecDepth 100000 in
set_option maxHeartbeats 4000000 in
theorem frameOf_map (f : Fu) (vp vb : Value) (w : World) (hTab : Tab w) (hp : Strs w vp f.params) (hb : Stmts w vb f.body) (hok : ∀ s ∈ f.body, okE s.e ∧ okE s.f) (hnd : (f.params ++ declN f.body).Nodup) (hpl : f.params.length ≤ 1000) (hbl : f.body.length ≤ 100000) (hsz : ∀ s ∈ f.params ++ declN f.body, s.size ≤ maxLen) :
  Calls Tryz.prog 37 #[.agg #[.string f.name, vp, vb]] w fun e w' => ∃ b, e = .returned (.agg #[.map (some b), .int .i64 (4 * ((f.params ++ declN f.body).length : Int)), .int .i64 ((4 * ((f.params ++ declN f.body).length : Int) + 4 * (places f.body + 1) + 15) / 16 * 16)]) ∧ Below w.heap.size w w' ∧ w.heap.size ≤ b ∧ ∃ nn D, w'.ownsMap Tryz.prog 9 (plainElem (H := Unit) Tryz.prog 2) b nn D ∧ NamesIs D (f.params ++ declN f.body) := by
 have HPl : Hid (∀ W, Below w.heap.size w W → Calls Tryz.prog 72 #[vb] W fun e w' => e = .returned (.int .i64 (places f.body)) ∧ Below W.heap.size W w') := fun W hW => placesOf_any vb f.body W (hTab.below hTab.size hW) (hb.below hW) hok
 obtain ⟨ap, cp, rfl, hp1, hp2, hpc⟩ := hp
 obtain ⟨ab, cb, rfl, hb1, hb2, hbc⟩ := hb
 obtain ⟨W0, hW0⟩ : ∃ W0, W0 = ((((w.alloc (.cells #[.string f.name, .slice ap f.params.length cp, .slice ab f.body.length cb] 61)).alloc (.cells #[.map none, .int .i64 0, .int .i64 0] 66)).alloc (.map #[] 0)).alloc (.cells #[.map (some (w.heap.size + 1 + 1)), .int .i64 0, .int .i64 0] 66)) := ⟨_, rfl⟩
 have hA : ∀ (W : World) o, Below W.heap.size W (W.alloc o) := fun W o => (Below.refl _ _).alloc (Nat.le_refl _) o
 have hB0 : Below w.heap.size w W0 := by
  rw [hW0]
  exact ((((Below.refl _ _).alloc (Nat.le_refl _) _).alloc (by simp) _).alloc (by simp; omega) _).alloc (by simp; omega) _
 have hO0 : W0.ownsMap Tryz.prog 9 (plainElem (H := Unit) Tryz.prog 2) (w.heap.size + 1 + 1) 0 (.map []) := by
  rw [hW0]
  have := World.ownsMap_made ((w.alloc (.cells #[.string f.name, .slice ap f.params.length cp, .slice ab f.body.length cb] 61)).alloc (.cells #[.map none, .int .i64 0, .int .i64 0] 66)) Tryz.prog 9 (plainElem (H := Unit) Tryz.prog 2)
  simp only [World.size_alloc] at this
  exact this.alloc _
 have z0 : W0.cell? ⟨w.heap.size, 1, none⟩ = some (.slice ap f.params.length cp) := by rw [hW0, World.cell?_alloc_past _ _ _ (by simp only [World.size_alloc]; omega), World.cell?_alloc_past _ _ _ (by simp only [World.size_alloc]; omega), World.cell?_alloc_past _ _ _ (by simp only [World.size_alloc]; omega), World.cell?_alloc_at _ _ _ _ rfl]; rfl
 have z1 : W0.cell? ⟨w.heap.size, 2, none⟩ = some (.slice ab f.body.length cb) := by rw [hW0, World.cell?_alloc_past _ _ _ (by simp only [World.size_alloc]; omega), World.cell?_alloc_past _ _ _ (by simp only [World.size_alloc]; omega), World.cell?_alloc_past _ _ _ (by simp only [World.size_alloc]; omega), World.cell?_alloc_at _ _ _ _ rfl]; rfl
 have z2 : W0.cell? ⟨w.heap.size + 1 + 1 + 1, 0, none⟩ = some (.map (some (w.heap.size + 1 + 1))) := by rw [hW0, World.cell?_alloc_at _ _ _ _ (by simp only [World.size_alloc])]; rfl
 have z3 : W0.cell? ⟨w.heap.size + 1 + 1 + 1, 1, none⟩ = some (.int .i64 0) := by rw [hW0, World.cell?_alloc_at _ _ _ _ (by simp only [World.size_alloc])]; rfl
 have z4 : W0.cell? ⟨w.heap.size + 1 + 1 + 1, 2, none⟩ = some (.int .i64 0) := by rw [hW0, World.cell?_alloc_at _ _ _ _ (by simp only [World.size_alloc])]; rfl
 have z5 : W0.cell? ⟨w.heap.size + 1, 0, none⟩ = some (.map none) := by rw [hW0, World.cell?_alloc_past _ _ _ (by simp only [World.size_alloc]; omega), World.cell?_alloc_past _ _ _ (by simp only [World.size_alloc]; omega), World.cell?_alloc_at _ _ _ _ (by simp only [World.size_alloc])]; rfl
 have z6 : W0.cell? ⟨w.heap.size + 1, 1, none⟩ = some (.int .i64 0) := by rw [hW0, World.cell?_alloc_past _ _ _ (by simp only [World.size_alloc]; omega), World.cell?_alloc_past _ _ _ (by simp only [World.size_alloc]; omega), World.cell?_alloc_at _ _ _ _ (by simp only [World.size_alloc])]; rfl
 have z7 : W0.cell? ⟨w.heap.size + 1, 2, none⟩ = some (.int .i64 0) := by rw [hW0, World.cell?_alloc_past _ _ _ (by simp only [World.size_alloc]; omega), World.cell?_alloc_past _ _ _ (by simp only [World.size_alloc]; omega), World.cell?_alloc_at _ _ _ _ (by simp only [World.size_alloc])]; rfl
 have z8 : ∀ o, W0.frozen? ⟨w.heap.size + 1 + 1 + 1, o, none⟩ = false := fun o => by rw [hW0, World.frozen?_alloc_at _ _ _ _ (by simp only [World.size_alloc])]
 have z9 : ∀ o, W0.frozen? ⟨w.heap.size + 1, o, none⟩ = false := fun o => by rw [hW0, World.frozen?_alloc_past _ _ _ (by simp only [World.size_alloc]; omega), World.frozen?_alloc_past _ _ _ (by simp only [World.size_alloc]; omega), World.frozen?_alloc_at _ _ _ _ (by simp only [World.size_alloc])]
 have hpb := places_bd f.body hok
 have HZ : Hid ((W0.cell? ⟨w.heap.size + 1 + 1 + 1, 1, none⟩ = some (.int .i64 0) ∧ W0.cell? ⟨w.heap.size + 1 + 1 + 1, 2, none⟩ = some (.int .i64 0) ∧ ∀ o, W0.frozen? ⟨w.heap.size + 1 + 1 + 1, o, none⟩ = false) ∧ W0.cell? ⟨w.heap.size + 1, 0, none⟩ = some (.map none) ∧ W0.cell? ⟨w.heap.size + 1, 1, none⟩ = some (.int .i64 0) ∧ W0.cell? ⟨w.heap.size + 1, 2, none⟩ = some (.int .i64 0) ∧ ∀ o, W0.frozen? ⟨w.heap.size + 1, o, none⟩ = false) := ⟨⟨z3, z4, z8⟩, z5, z6, z7, z9⟩
 clear z3 z4 z5 z6 z7 z8 z9
 have hs0 : W0.heap.size = w.heap.size + 4 := by rw [hW0]; simp
 have HW0 : Hid (W0 = _) := hW0
 have HO0 : Hid (W0.ownsMap Tryz.prog 9 (plainElem (H := Unit) Tryz.prog 2) (w.heap.size + 1 + 1) 0 (.map [])) := hO0
 have HB0 : Hid (Below w.heap.size w W0) := hB0
 have HPC : Hid (0 < f.params.length → ∃ b off, ap = some ⟨b, off, none⟩ ∧ StrsC w b off f.params) := hpc
 have HBC : Hid (0 < f.body.length → ∃ b off, ab = some ⟨b, off, none⟩ ∧ StmtsC w b off f.body) := hbc
 have HND : Hid ((f.params ++ declN f.body).Nodup) := hnd
 have HSZ : Hid (∀ s ∈ f.params ++ declN f.body, s.size ≤ maxLen) := hsz
 clear hW0 hO0 hB0 hA hpc hbc hnd hsz hok hTab
 have hmm := @run_makeMap Tryz.prog
 go_enter Tryz.func37, Tryz.ntmps37
 go_wp2_with fail
 rw [← HW0.out]
 clear hmm
 go_loopw [14] (fun i wr => ∃ (k : Nat) (D : DataW Unit), k ≤ f.params.length ∧ i = .int .i64 k ∧ wr.ownsMap Tryz.prog 9 (plainElem (H := Unit) Tryz.prog 2) (w.heap.size + 1 + 1) k D ∧ NamesIs D (f.params.take k) ∧ But (w.heap.size + 1 + 1) W0 wr ∧ Below w.heap.size w wr) (fun i _ => f.params.length - (RowKit.intOf i).toNat)
 case atStart => exact ⟨0, _, Nat.zero_le _, rfl, HO0.out, NamesIs.nil, But.refl _ _, HB0.out⟩
 case round =>
  obtain ⟨k, D, hk, rfl, hO, hN, hBt, hB⟩ := hrel
  have y2 : wr.cell? ⟨w.heap.size + 1 + 1 + 1, 0, none⟩ = some (.map (some (w.heap.size + 1 + 1))) := (hBt.cell (p := ⟨w.heap.size + 1 + 1 + 1, 0, none⟩) (by simp; omega) (by simp)).trans z2
  by_cases hlt : k < f.params.length
  ·obtain ⟨b', off, rfl, hc⟩ := HPC.out (by omega)
   have d0 := hc.below hB k hlt
   have hmem : f.params[k] ∈ f.params := List.getElem_mem hlt
   have HF : Hid (f.params[k] ∉ f.params.take k) := by
    intro hm
    have hn1 := (List.nodup_append.1 HND.out).1
    obtain ⟨j, hj, he⟩ := List.getElem_of_mem hm
    rw [List.getElem_take] at he
    simp at hj
    exact List.pairwise_iff_getElem.1 hn1 j k (by omega) hlt (by omega) he
   have HT : Hid (f.params.take (k + 1) = f.params.take k ++ [f.params[k]]) := List.take_succ_eq_append_getElem hlt
   have HZ : Hid (f.params[k].size ≤ maxLen) := HSZ.out _ (by simp)
   have HA : Hid (Calls Tryz.prog 70 #[.pointer (some ⟨w.heap.size + 1 + 1 + 1, 0, none⟩), .string f.params[k]] wr fun ev w' => ev = .returned (.tuple #[]) ∧ ∃ D', w'.ownsMap Tryz.prog 9 (plainElem (H := Unit) Tryz.prog 2) (w.heap.size + 1 + 1) (k + 1) D' ∧ NamesIs D' (f.params.take k ++ [f.params[k]]) ∧ wr.drew.grownBy w' (some (w.heap.size + 1 + 1))) := addF_any _ _ k D _ _ wr y2 hO hN (by simp; omega) (by omega) HZ.out HF.out (by omega)
   rw [← HT.out] at HA
   clear HF HT HZ hmem hO hN hc
   generalize f.params[k] = s at d0 HA
   go_wp2_with fail
   refine HA.out.mono ?_
   rintro e w2 ⟨rfl, D2, hO2, hN2, hg2⟩
   have hBt2 := hBt.grown hg2
   have hB2 : Below w.heap.size w w2 := hB.drew.grown hg2 hB.size (fun j hj => by cases hj; omega)
   have HR : Hid (w2.ownsMap Tryz.prog 9 (plainElem (H := Unit) Tryz.prog 2) (w.heap.size + 1 + 1) (k + 1) D2 ∧ NamesIs D2 (f.params.take (k + 1))) := ⟨hO2, hN2⟩
   clear hO2 hN2 hg2 HA d0 y2 hBt hB
   go_wp2_with fail
   go_roundw
   case rel => exact ⟨k + 1, D2, by omega, by go_num, HR.out.1, HR.out.2, hBt2, hB2⟩
   case measure => simp [RowKit.intOf]; omega
  ·have hkk : k = f.params.length := by omega
   have HN1 : Hid (NamesIs D (f.params ++ declN (f.body.take 0))) := by
    show NamesIs _ _
    have := hN
    rw [List.take_of_length_le (by omega)] at this
    simpa [declN] using this
   have HO1 : Hid (wr.ownsMap Tryz.prog 9 (plainElem (H := Unit) Tryz.prog 2) (w.heap.size + 1 + 1) k D) := hO
   have HBt1 : Hid (But (w.heap.size + 1 + 1) W0 wr) := hBt
   have y1 : wr.cell? ⟨w.heap.size, 2, none⟩ = some (.slice ab f.body.length cb) := (hBt.cell (p := ⟨w.heap.size, 2, none⟩) (by simp; omega) (by simp; omega)).trans z1
   have HKK : Hid (k = f.params.length) := hkk
   clear hO hN y2 hkk
   go_wp2_with fail
   clear hlt hk
   have hk1 : k ≤ 1000 := by rw [HKK.out]; exact hpl
   go_loopw [24] (fun i wr => ∃ (j nn : Nat) (D : DataW Unit), j ≤ f.body.length ∧ i = .int .i64 j ∧ nn ≤ k + j ∧ wr.ownsMap Tryz.prog 9 (plainElem (H := Unit) Tryz.prog 2) (w.heap.size + 1 + 1) nn D ∧ NamesIs D (f.params ++ declN (f.body.take j)) ∧ But (w.heap.size + 1 + 1) W0 wr ∧ Below w.heap.size w wr) (fun i _ => f.body.length - (RowKit.intOf i).toNat)
   case atStart => exact ⟨0, k, D, Nat.zero_le _, rfl, by omega, HO1.out, HN1.out, HBt1.out, hB⟩
   case round =>
    clear HO1 HN1 HBt1 hBt hB y1
    obtain ⟨j, nn, D, hj, rfl, hnn, hO, hN, hBt, hB⟩ := hrel
    have y2 : ∀ o, (World.alloc _ o).cell? ⟨w.heap.size + 1 + 1 + 1, 0, none⟩ = some (.map (some (w.heap.size + 1 + 1))) := fun o => ((hBt.below ((Below.refl _ _).alloc (Nat.le_refl _) o)).cell (p := ⟨w.heap.size + 1 + 1 + 1, 0, none⟩) (by simp; omega) (by simp)).trans z2
    by_cases hlt2 : j < f.body.length
    ·obtain ⟨b', off, rfl, hc⟩ := HBC.out (by omega)
     obtain ⟨ve, vf, ⟨c0, c1, c2, c3, c4, c5⟩, he, hf⟩ := hc j hlt2
     have hlb := World.block_lt_of_cell? _ _ c0
     have d0 := (hB.cell (p := ⟨b', off + j * 6, none⟩) hlb).trans c0
     have d1 := (hB.cell (p := ⟨b', off + j * 6 + 1, none⟩) hlb).trans c1
     have d2 := (hB.cell (p := ⟨b', off + j * 6 + 2, none⟩) hlb).trans c2
     have d3 := (hB.cell (p := ⟨b', off + j * 6 + 3, none⟩) hlb).trans c3
     have d4 := (hB.cell (p := ⟨b', off + j * 6 + 4, none⟩) hlb).trans c4
     have d5 := (hB.cell (p := ⟨b', off + j * 6 + 5, none⟩) hlb).trans c5
     clear c0 c1 c2 c3 c4 c5 hc
     obtain ⟨ae, ce, rfl, -⟩ := he
     obtain ⟨af, cf, rfl, -⟩ := hf
     generalize f.body[j].e.length = le at d2
     generalize f.body[j].f.length = lf at d3
     have hA1 : Below wr.heap.size wr (wr.alloc (.cells #[.int .i64 f.body[j].kind, .string f.body[j].name, .slice ae le ce, .slice af lf cf, .int .i64 f.body[j].thn, .int .i64 f.body[j].els] 88)) := (Below.refl _ _).alloc (Nat.le_refl _) _
     have hBt1 := hBt.below hA1
     have hB1 := hB.trans (hA1.mono hB.size)
     have hO1 := hO.alloc (.cells #[.int .i64 f.body[j].kind, .string f.body[j].name, .slice ae le ce, .slice af lf cf, .int .i64 f.body[j].thn, .int .i64 f.body[j].els] 88)
     have hl1 : (f.params ++ declN (f.body.take j)).length ≤ 1000000 := by have := declN_len (f.body.take j); simp at this ⊢; omega
     have hsn := declN_snoc (f.body.take j) f.body[j]
     rw [← List.take_succ_eq_append_getElem hlt2] at hsn
     by_cases h1 : f.body[j].kind = 1
     ·rw [if_pos h1] at hsn
      have HT : Hid (f.params ++ declN (f.body.take (j + 1)) = f.params ++ declN (f.body.take j) ++ [f.body[j].name]) := by show _ = _; rw [hsn, List.append_assoc]
      have HA : Hid (Calls Tryz.prog 70 #[.pointer (some ⟨w.heap.size + 1 + 1 + 1, 0, none⟩), .string f.body[j].name] (wr.alloc (.cells #[.int .i64 f.body[j].kind, .string f.body[j].name, .slice ae le ce, .slice af lf cf, .int .i64 f.body[j].thn, .int .i64 f.body[j].els] 88)) fun ev w' => ev = .returned (.tuple #[]) ∧ ∃ D', w'.ownsMap Tryz.prog 9 (plainElem (H := Unit) Tryz.prog 2) (w.heap.size + 1 + 1) (nn + 1) D' ∧ NamesIs D' (f.params ++ declN (f.body.take j) ++ [f.body[j].name]) ∧ (wr.alloc (.cells #[.int .i64 f.body[j].kind, .string f.body[j].name, .slice ae le ce, .slice af lf cf, .int .i64 f.body[j].thn, .int .i64 f.body[j].els] 88)).drew.grownBy w' (some (w.heap.size + 1 + 1))) := addF_any _ _ nn D _ _ _ (y2 _) hO1 hN hl1 (by omega) (HSZ.out _ (by simp [declN_mem hlt2 h1])) (declN_new HND.out hlt2 h1) (by omega)
      rw [← HT.out] at HA
      clear HT hsn hO hN hO1 hl1 y2 hBt
      generalize f.body[j] = s at d0 d1 d2 d3 d4 d5 HA h1 hBt1 hB1 hA1
      obtain ⟨kd, nm, se, sf, th, el⟩ := s
      simp only at d0 d1 d2 d3 d4 d5 HA h1 hBt1 hB1 hA1
      subst h1
      go_wp2_with fail
      refine HA.out.mono ?_
      rintro e w2 ⟨rfl, D2, hO2, hN2, hg2⟩
      have hBt2 := hBt1.grown hg2
      have hB2 : Below w.heap.size w w2 := hB1.drew.grown hg2 hB1.size (fun j hj => by cases hj; omega)
      have HR : Hid (w2.ownsMap Tryz.prog 9 (plainElem (H := Unit) Tryz.prog 2) (w.heap.size + 1 + 1) (nn + 1) D2 ∧ NamesIs D2 (f.params ++ declN (f.body.take (j + 1)))) := ⟨hO2, hN2⟩
      clear hO2 hN2 hg2 HA d0 d1 d2 d3 d4 d5 hBt1 hB1 hA1
      go_wp2_with fail
      go_roundw
      case rel => exact ⟨j + 1, nn + 1, D2, by omega, by go_num, by omega, HR.out.1, HR.out.2, hBt2, hB2⟩
      case measure => simp [RowKit.intOf]; omega
     ·rw [if_neg h1] at hsn
      rw [← hsn] at hN
      have HR : Hid ((wr.alloc (.cells #[.int .i64 f.body[j].kind, .string f.body[j].name, .slice ae le ce, .slice af lf cf, .int .i64 f.body[j].thn, .int .i64 f.body[j].els] 88)).ownsMap Tryz.prog 9 (plainElem (H := Unit) Tryz.prog 2) (w.heap.size + 1 + 1) nn D ∧ NamesIs D (f.params ++ declN (f.body.take (j + 1)))) := ⟨hO1, hN⟩
      clear hsn hO hN hO1 hl1 y2 hBt
      generalize f.body[j] = s at d0 d1 d2 d3 d4 d5 h1 hBt1 hB1 hA1 HR
      go_wp2_with fail
      go_roundw
      case rel => exact ⟨j + 1, nn, D, by omega, by go_num, by omega, HR.out.1, HR.out.2, hBt1, hB1⟩
      case measure => simp [RowKit.intOf]; omega
    ·have hjj : j = f.body.length := by omega
     rw [List.take_of_length_le (by omega)] at hN
     have hnl : (f.params ++ declN f.body).length ≤ 101000 := by have := declN_len f.body; simp; omega
     have bl3 : (w.heap.size + 1 + 1 + 1) < W0.heap.size := by omega
     have q0 := (hBt.cell (p := ⟨w.heap.size + 1 + 1 + 1, 0, none⟩) bl3 (by simp)).trans z2
     have q1 := (hBt.cell (p := ⟨w.heap.size + 1 + 1 + 1, 1, none⟩) bl3 (by simp)).trans HZ.out.1.1
     have q2 := (hBt.cell (p := ⟨w.heap.size + 1 + 1 + 1, 2, none⟩) bl3 (by simp)).trans HZ.out.1.2.1
     have qf := fun o => (hBt.frozen (p := ⟨w.heap.size + 1 + 1 + 1, o, none⟩) bl3 (by simp)).trans (HZ.out.1.2.2 o)
     have bl1 : (w.heap.size + 1) < W0.heap.size := by omega
     have r0 := (hBt.cell (p := ⟨w.heap.size + 1, 0, none⟩) bl1 (by simp)).trans HZ.out.2.1
     have r1 := (hBt.cell (p := ⟨w.heap.size + 1, 1, none⟩) bl1 (by simp)).trans HZ.out.2.2.1
     have r2 := (hBt.cell (p := ⟨w.heap.size + 1, 2, none⟩) bl1 (by simp)).trans HZ.out.2.2.2.1
     have rf := fun o => (hBt.frozen (p := ⟨w.heap.size + 1, o, none⟩) bl1 (by simp)).trans (HZ.out.2.2.2.2 o)
     have y1 : wr.cell? ⟨w.heap.size, 2, none⟩ = some (.slice ab f.body.length cb) := (hBt.cell (p := ⟨w.heap.size, 2, none⟩) (by simp; omega) (by simp; omega)).trans z1
     have HU : Hid (Calls Tryz.prog 71 #[.pointer (some ⟨w.heap.size + 1 + 1 + 1, 0, none⟩)] wr fun ev w' => ev = .returned (.int .i64 (4 * ((f.params ++ declN f.body).length : Int))) ∧ w' = wr) := used_any _ _ nn D _ wr q0 hO hN (by omega)
     have hsw : w.heap.size + 4 ≤ wr.heap.size := by have := hBt.1; omega
     have HOM : Hid (wr.ownsMap Tryz.prog 9 (plainElem (H := Unit) Tryz.prog 2) (w.heap.size + 1 + 1) nn D ∧ NamesIs D (f.params ++ declN f.body)) := ⟨hO, hN⟩
     clear hO hN hjj y2 hBt hnn
     obtain ⟨N, hNe⟩ : ∃ N, N = (f.params ++ declN f.body).length := ⟨_, rfl⟩
     rw [← hNe] at HU hnl
     have HNe : Hid (N = (f.params ++ declN f.body).length) := hNe
     clear hNe
     go_wp2_with fail
     refine HU.out.mono ?_
     rintro e w2 ⟨rfl, hw2⟩
     rw [hw2]
     clear hw2 HU
     obtain ⟨W2, hW2⟩ : ∃ W2, W2 = wr.setCell ⟨w.heap.size + 1 + 1 + 1, 1, none⟩ (.int .i64 (4 * (N : Int))) := ⟨_, rfl⟩
     have g0 : W2.drew.cell? ⟨w.heap.size + 1 + 1 + 1, 0, none⟩ = some (.map (some (w.heap.size + 1 + 1))) := by show W2.cell? _ = _; rw [hW2, World.cell?_setCell_other _ _ _ _ (by simp)]; exact q0
     have g1 : W2.drew.cell? ⟨w.heap.size + 1 + 1 + 1, 1, none⟩ = some (.int .i64 (4 * (N : Int))) := by show W2.cell? _ = _; rw [hW2, World.cell?_setCell_same _ _ _ q1]
     have g2 : W2.drew.cell? ⟨w.heap.size + 1 + 1 + 1, 2, none⟩ = some (.int .i64 0) := by show W2.cell? _ = _; rw [hW2, World.cell?_setCell_other _ _ _ _ (by simp)]; exact q2
     have gf : ∀ o, W2.drew.frozen? ⟨w.heap.size + 1 + 1 + 1, o, none⟩ = false := fun o => by show W2.frozen? _ = _; rw [hW2, World.frozen?_setCell]; exact qf o
     have t0 : W2.drew.cell? ⟨w.heap.size + 1, 0, none⟩ = some (.map none) := by show W2.cell? _ = _; rw [hW2, World.cell?_setCell_other _ _ _ _ (by simp)]; exact r0
     have t1 : W2.drew.cell? ⟨w.heap.size + 1, 1, none⟩ = some (.int .i64 0) := by show W2.cell? _ = _; rw [hW2, World.cell?_setCell_other _ _ _ _ (by simp)]; exact r1
     have t2 : W2.drew.cell? ⟨w.heap.size + 1, 2, none⟩ = some (.int .i64 0) := by show W2.cell? _ = _; rw [hW2, World.cell?_setCell_other _ _ _ _ (by simp)]; exact r2
     have tf : ∀ o, W2.drew.frozen? ⟨w.heap.size + 1, o, none⟩ = false := fun o => by show W2.frozen? _ = _; rw [hW2, World.frozen?_setCell]; exact rf o
     have b2 : W2.drew.cell? ⟨w.heap.size, 2, none⟩ = some (.slice ab f.body.length cb) := by show W2.cell? _ = _; rw [hW2, World.cell?_setCell_other _ _ _ _ (by simp)]; exact y1
     have hB2 : Below w.heap.size w W2.drew := by rw [hW2]; exact (hB.setCell (by simp; omega) _).drew
     have hs2 : w.heap.size + 4 ≤ W2.drew.heap.size := by rw [hW2]; simpa using hsw
     have HM2 : Hid (W2.drew.heap[w.heap.size + 1 + 1]? = wr.heap[w.heap.size + 1 + 1]?) := by
      show W2.heap[w.heap.size + 1 + 1]? = _
      rw [hW2]
      exact Below.heap_setCell _ _ _ _ (by simp)
     have HP2 := HPl.out W2.drew hB2
     have HP3 : Hid (Calls Tryz.prog 72 #[.slice ab f.body.length cb] W2.drew fun e w' => e = .returned (.int .i64 (places f.body)) ∧ Below W2.drew.heap.size W2.drew w') := HP2
     have HW2 : Hid (W2 = _) := hW2
     clear hW2 HP2
     obtain ⟨P, hPe⟩ : ∃ P, P = places f.body := ⟨_, rfl⟩
     rw [← hPe] at HP3 hpb
     have HPe : Hid (P = places f.body) := hPe
     clear hPe
     have k1 : IntKind.i64.wrap (P + 1) = P + 1 := by simp [IntKind.wrap, IntKind.bits, IntKind.signed]; omega
     have k2 : IntKind.i64.wrap (4 * (P + 1)) = 4 * (P + 1) := by simp [IntKind.wrap, IntKind.bits, IntKind.signed]; omega
     have k3 : IntKind.i64.wrap (4 * (N : Int) + 4 * (P + 1)) = 4 * (N : Int) + 4 * (P + 1) := by simp [IntKind.wrap, IntKind.bits, IntKind.signed]; omega
     go_wp2_with fail
     rw [← HW2.out]
     go_region_held3 (fun W => W.cell? ⟨w.heap.size + 1 + 1 + 1, 1, none⟩ = some (.int .i64 (4 * (N : Int))) ∧ W.cell? ⟨w.heap.size, 2, none⟩ = some (.slice ab f.body.length cb)) (go_simp)
      (first
      | ((with_reducible refine Calls.mono HP3.out ?_); rintro e w3 ⟨rfl, hb3⟩; have e1 : w3.cell? ⟨w.heap.size + 1 + 1 + 1, 1, none⟩ = some (.int .i64 (4 * (N : Int))) := (hb3.cell (p := ⟨w.heap.size + 1 + 1 + 1, 1, none⟩) (by simp at hs2 ⊢; omega)).trans g1; have e2 : w3.cell? ⟨w.heap.size, 2, none⟩ = some (.slice ab f.body.length cb) := (hb3.cell (p := ⟨w.heap.size, 2, none⟩) (by simp at hs2 ⊢; omega)).trans b2))
     have m0 := (hb3.cell (p := ⟨w.heap.size + 1 + 1 + 1, 0, none⟩) (by simp at hs2 ⊢; omega)).trans g0
     have m2 := (hb3.cell (p := ⟨w.heap.size + 1 + 1 + 1, 2, none⟩) (by simp at hs2 ⊢; omega)).trans g2
     have mf := fun o => (hb3.frozen (p := ⟨w.heap.size + 1 + 1 + 1, o, none⟩) (by simp at hs2 ⊢; omega)).trans (gf o)
     have n0 := (hb3.cell (p := ⟨w.heap.size + 1, 0, none⟩) (by simp at hs2 ⊢; omega)).trans t0
     have n1 := (hb3.cell (p := ⟨w.heap.size + 1, 1, none⟩) (by simp at hs2 ⊢; omega)).trans t1
     have n2 := (hb3.cell (p := ⟨w.heap.size + 1, 2, none⟩) (by simp at hs2 ⊢; omega)).trans t2
     have nf := fun o => (hb3.frozen (p := ⟨w.heap.size + 1, o, none⟩) (by simp at hs2 ⊢; omega)).trans (tf o)
     have hB3 := hB2.trans (hb3.mono hB2.size)
     have HM3 : Hid (w3.heap[w.heap.size + 1 + 1]? = wr.heap[w.heap.size + 1 + 1]?) := (hb3.block _ (by omega)).trans HM2.out
     have k4 : IntKind.i64.wrap (4 * (N : Int) + 4 * (P + 1) + 16) = 4 * (N : Int) + 4 * (P + 1) + 16 := by simp [IntKind.wrap, IntKind.bits, IntKind.signed]; omega
     have k5 : IntKind.i64.wrap (4 * (N : Int) + 4 * (P + 1) + 16 - 1) = 4 * (N : Int) + 4 * (P + 1) + 15 := by simp [IntKind.wrap, IntKind.bits, IntKind.signed]; omega
     clear g0 g1 g2 gf t0 t1 t2 tf b2 hb3 hB2 hB q0 q1 q2 qf r0 r1 r2 rf y1 HP3 HW2
     go_wp2_with fail
     refine bodyPost_ret (v := .agg #[.map (some (w.heap.size + 1 + 1)), .int .i64 (4 * (N : Int)), .int .i64 ((4 * (N : Int) + 4 * (P + 1) + 15) / 16 * 16)]) ?_ rfl ⟨w.heap.size + 1 + 1, ?_, ?_, by omega, nn, D, ?_, HOM.out.2⟩
     ·simp [results, Tryz.results37, go_sem, n0, n1, n2]
     ·rw [← HNe.out, ← HPe.out]
     ·exact (((hB3.setCell (by simp; omega) _).setCell (by simp) _).setCell (by simp) _).setCell (by simp) _
     ·refine own_blk HOM.out.1 ?_
      rw [Below.heap_setCell _ _ _ _ (by simp), Below.heap_setCell _ _ _ _ (by simp), Below.heap_setCell _ _ _ _ (by simp), Below.heap_setCell _ _ _ _ (by simp)]
      exact HM3.out
theorem frameOf_any (f : Fu) (vp vb : Value) (w : World) (hTab : Tab w) (hp : Strs w vp f.params) (hb : Stmts w vb f.body) (hok : ∀ s ∈ f.body, okE s.e ∧ okE s.f) (hnd : (f.params ++ declN f.body).Nodup) (hpl : f.params.length ≤ 1000) (hbl : f.body.length ≤ 100000) (hsz : ∀ s ∈ f.params ++ declN f.body, s.size ≤ maxLen) :
  Calls Tryz.prog 37 #[.agg #[.string f.name, vp, vb]] w fun e w' => ∃ b, e = .returned (.agg #[.map (some b), .int .i64 (4 * ((f.params ++ declN f.body).length : Int)), .int .i64 ((4 * ((f.params ++ declN f.body).length : Int) + 4 * (places f.body + 1) + 15) / 16 * 16)]) ∧ Below w.heap.size w w' :=
 (frameOf_map f vp vb w hTab hp hb hok hnd hpl hbl hsz).mono (fun _ _ ⟨b, h1, h2, _⟩ => ⟨b, h1, h2⟩)
end
section
theorem declN_append (a b : List St) : declN (a ++ b) = declN a ++ declN b := by simp [declN]
theorem declN_cons (s : St) (r : List St) : declN (s :: r) = (if s.kind = 1 then [s.name] else []) ++ declN r := by
 unfold declN; by_cases h : s.kind = 1 <;> simp [h]
theorem inS_mem {xs : List ByteArray} {s : ByteArray} (h : s ∈ xs) : inS xs s = true := by
 unfold inS; rw [List.any_eq_true]; exact ⟨s, h, decide_eq_true rfl⟩
theorem blkE_nodup (t : Tr) (N : Nat) : ∀ (ss : List St) (a : Int) (scope taken : List ByteArray), ss.length ≤ N → (blkE t ss a scope taken).1 = 0 → taken.Nodup → (blkE t ss a scope taken).2.2 = taken ++ declN ss ∧ (taken ++ declN ss).Nodup := by
 induction N with
 | zero =>
  intro ss a scope taken hl h hn
  cases ss with
  | nil => simp [blkE_nil0, blkE_cons, declN, hn]
  | cons s r => simp at hl
 | succ N ih =>
  intro ss a scope taken hl h hn
  cases ss with
  | nil => simp [blkE_nil0, blkE_cons, declN, hn]
  | cons s r =>
   simp only [List.length_cons] at hl
   rw [blkE_cons] at h ⊢
   by_cases h1 : stmtE t scope taken s ≠ 0
   ·rw [if_pos h1] at h; exact absurd h h1
   ·rw [if_neg h1] at h ⊢
    have hn1 : (if s.kind = 1 then taken ++ [s.name] else taken).Nodup := by
     split
     ·rename_i hk
      have hni : s.name ∉ taken := by
       intro hm
       apply h1
       unfold stmtE
       by_cases he : exprE t scope (s.e ++ s.f) ≠ 0
       ·rw [if_pos he]; exact he
       ·rw [if_neg he, if_pos hk, if_pos (.inl (inS_mem hm))]; decide
      rw [List.nodup_append]
      exact ⟨hn, by simp, fun x hx y hy => by simp at hy; subst hy; exact fun e => hni (e ▸ hx)⟩
     ·exact hn
    have e1 : (if s.kind = 1 then taken ++ [s.name] else taken) = taken ++ (if s.kind = 1 then [s.name] else []) := by split <;> simp
    generalize (if s.kind = 1 then scope ++ [s.name] else scope) = sc at h ⊢
    rw [e1] at h hn1 ⊢
    have ed : taken ++ declN (s :: r) = taken ++ (if s.kind = 1 then [s.name] else []) ++ declN (r.take s.thn.toNat) ++ declN ((r.drop s.thn.toNat).take s.els.toNat) ++ declN (r.drop (s.thn.toNat + s.els.toNat)) := by
     have er : r = r.take s.thn.toNat ++ ((r.drop s.thn.toNat).take s.els.toNat ++ r.drop (s.thn.toNat + s.els.toNat)) := by
      rw [← List.drop_drop, List.take_append_drop, List.take_append_drop]
     rw [declN_cons]
     conv => lhs; rw [er]
     rw [declN_append, declN_append]
     simp only [List.append_assoc]
    rw [ed]
    generalize taken ++ (if s.kind = 1 then [s.name] else []) = tk at h hn1 ⊢
    simp only at h ⊢
    by_cases hx : (blkE t (r.take s.thn.toNat) (a + 1) sc tk).1 ≠ 0
    ·rw [if_pos hx] at h; exact absurd h hx
    ·rw [if_neg hx] at h ⊢
     obtain ⟨x1, x2⟩ := ih (r.take s.thn.toNat) (a + 1) sc tk (by simp; omega) (by simpa using hx) hn1
     rw [x1] at h ⊢
     by_cases hy : (blkE t ((r.drop s.thn.toNat).take s.els.toNat) (a + 1 + s.thn) sc (tk ++ declN (r.take s.thn.toNat))).1 ≠ 0
     ·rw [if_pos hy] at h; exact absurd h hy
     ·rw [if_neg hy] at h ⊢
      obtain ⟨y1, y2⟩ := ih ((r.drop s.thn.toNat).take s.els.toNat) (a + 1 + s.thn) sc _ (by simp; omega) (by simpa using hy) x2
      rw [y1] at h ⊢
      exact ih (r.drop (s.thn.toNat + s.els.toNat)) _ sc _ (by simp; omega) h y2
theorem dupP_nodup (gs : List Gl) : ∀ (ps seen : List ByteArray), seen.Nodup → dupP gs seen ps = false → (seen ++ ps).Nodup
 | [], seen, hn, _ => by simpa using hn
 | p :: r, seen, hn, h => by
  unfold dupP at h
  by_cases hc : inS seen p = true ∨ 0 ≤ globI gs p
  ·rw [if_pos hc] at h; cases h
  ·rw [if_neg hc] at h
   have hni : p ∉ seen := fun hm => hc (.inl (inS_mem hm))
   have := dupP_nodup gs r (seen ++ [p]) (by
    rw [List.nodup_append]
    exact ⟨hn, by simp, fun x hx y hy => by simp at hy; subst hy; exact fun e => hni (e ▸ hx)⟩) h
   simpa using this
theorem bodyE_nodup {t : Tr} {i : Nat} {f : Fu} (h : (bodyE t i f).1 = 0) : (f.params ++ declN f.body).Nodup := by
 unfold bodyE at h
 by_cases hd : dupP t.globals [] f.params = true
 ·rw [if_pos hd] at h; cases h
 ·rw [if_neg hd] at h
  have h1 := dupP_nodup t.globals f.params [] List.nodup_nil (by simpa using hd)
  by_cases hb : (blkE t f.body 0 f.params f.params).1 ≠ 0
  ·rw [if_pos hb] at h; exact absurd h hb
  ·exact (blkE_nodup t f.body.length f.body 0 f.params f.params (Nat.le_refl _) (by simpa using hb) (by simpa using h1)).2
theorem bodiesE_nodup {t : Tr} : ∀ (fs : List Fu) (i : Nat), (bodiesE t i fs).1 = 0 → ∀ f ∈ fs, (f.params ++ declN f.body).Nodup
 | [], _, _ => fun f hf => by cases hf
 | g :: r, i, h => by
  unfold bodiesE at h
  by_cases hb : (bodyE t i g).1 ≠ 0
  ·rw [if_pos hb] at h; exact absurd h hb
  ·rw [if_neg hb] at h
   intro f hf
   rcases List.mem_cons.1 hf with rfl | hf
   ·exact bodyE_nodup (by simpa using hb)
   ·exact bodiesE_nodup r (i + 1) h f hf
theorem sound_nodup {t : Tr} (h : (checkE t).1 = 0) : treeB t = true ∧ ∀ f ∈ t.funcs, (f.params ++ declN f.body).Nodup := by
 unfold checkE at h
 by_cases h1 : treeB t = false
 ·rw [if_pos h1] at h; cases h
 ·rw [if_neg h1] at h
  by_cases h2 : (namesE t).1 ≠ 0
  ·rw [if_pos h2] at h; exact absurd h h2
  ·rw [if_neg h2] at h
   by_cases h3 : (bodiesE t 0 t.funcs).1 ≠ 0
   ·rw [if_pos h3] at h; exact absurd h h3
   ·exact ⟨by simpa using h1, bodiesE_nodup t.funcs 0 (by simpa using h3)⟩
end
section
def frameSz (f : Fu) : Int := (4 * ((f.params ++ declN f.body).length : Int) + 4 * (places f.body + 1) + 15) / 16 * 16
open Classical in
def framesL (t : Tr) : List Int := if (checkE t).1 = 0 then t.funcs.map frameSz else []
structure FrOk (f : Fu) : Prop where
 nd : (f.params ++ declN f.body).Nodup
 st : ∀ s ∈ f.body, okE s.e ∧ okE s.f
 sb : ∀ s ∈ f.body, 0 < s.e.length ∧ (s.kind = 3 → 0 < s.f.length) ∧ (s.kind ≠ 3 → s.f.length = 0)
 pl : f.params.length ≤ 1000
 bl : f.body.length ≤ 1000
 sz : ∀ s ∈ f.params ++ declN f.body, s.size ≤ maxLen
theorem nodeSum_mem {l : List St} {s : St} (h : s ∈ l) : s.e.length + s.f.length ≤ nodeSum l := by
 induction l with
 | nil => cases h
 | cons a r ih =>
  simp only [nodeSum]
  rcases List.mem_cons.1 h with rfl | h
  ·omega
  ·have := ih h; omega
theorem frOk {t : Tr} (h : (checkE t).1 = 0) (hw : wfT t) : t.funcs.length ≤ 50 ∧ ∀ f ∈ t.funcs, FrOk f := by
 obtain ⟨hb, hn⟩ := sound_nodup h
 unfold treeB at hb
 simp only [Bool.and_eq_true, decide_eq_true_iff, List.all_eq_true] at hb
 obtain ⟨h1, h2, h3, h4⟩ := hb
 refine ⟨h2, fun f hf => ?_⟩
 have hfb := h4 f hf
 have hwf := hw.2.2 f hf
 unfold funcB stmtsB at hfb
 simp only [Bool.and_eq_true, decide_eq_true_iff, List.all_eq_true] at hfb
 obtain ⟨-, hp, hl, -, ⟨hsum, hst⟩, -⟩ := hfb
 have hone : ∀ s ∈ f.body, oneB s.e = true ∧ (s.kind = 3 → oneB s.f = true) ∧ (s.kind ≠ 3 → s.f.length = 0) := by
  intro s hs
  have := hst s hs
  unfold stmtB at this
  simp only [Bool.and_eq_true] at this
  obtain ⟨⟨⟨⟨⟨-, hoe⟩, hof⟩, -⟩, -⟩, -⟩ := this
  refine ⟨hoe, fun h => ?_, fun h => ?_⟩
  ·rw [if_pos h] at hof; exact hof
  ·rw [if_neg h] at hof; simpa using hof
 refine ⟨hn f hf, fun s hs => ?_, fun s hs => ?_, by omega, by omega, fun s hs => ?_⟩
 ·have hle := nodeSum_mem hs
  obtain ⟨h5, h6, h7⟩ := hone s hs
  refine ⟨⟨by omega, fun _ => h5⟩, by omega, fun hp => ?_⟩
  by_cases h3 : s.kind = 3
  ·exact h6 h3
  ·have := h7 h3; omega
 ·obtain ⟨h5, h6, h7⟩ := hone s hs
  exact ⟨oneB_pos h5, fun h3 => oneB_pos (h6 h3), h7⟩
 ·unfold maxLen
  rcases List.mem_append.1 hs with hs | hs
  ·have := hwf.2.1.2 s hs; omega
  ·unfold declN at hs
   obtain ⟨x, hx, rfl⟩ := List.mem_map.1 hs
   have := (hwf.2.2.2 x (List.mem_filter.1 hx).1).1
   omega
theorem framesL_yes {t : Tr} (h : (checkE t).1 = 0) : framesL t = t.funcs.map frameSz := by unfold framesL; rw [if_pos h]
theorem framesL_no {t : Tr} (h : (checkE t).1 ≠ 0) : framesL t = [] := by unfold framesL; rw [if_neg h]
theorem framesL_len (t : Tr) : (framesL t).length ≤ t.funcs.length := by
 unfold framesL
 split <;> simp
theorem frameSz_bd {f : Fu} (h : FrOk f) : 0 ≤ frameSz f ∧ frameSz f ≤ 1000000 := by
 have h1 := places_bd f.body h.st
 have h2 := declN_len f.body
 have h3 := h.pl
 have h4 := h.bl
 unfold frameSz
 have : (f.params ++ declN f.body).length = f.params.length + (declN f.body).length := by simp
 rw [this]
 omega
theorem plU_spec {s : St} (h : 0 < s.e.length ∧ (s.kind = 3 → 0 < s.f.length) ∧ (s.kind ≠ 3 → s.f.length = 0)) (p : Int) : plU s 2 p = if s.kind = 3 then max (max p (needL s.e 0)) (needL s.f 1) else max p (needL s.e 0) := by
 obtain ⟨h1, h2, h3⟩ := h
 simp only [plU]
 unfold plE
 by_cases hk : s.kind = 3
 ·have := h2 hk
  simp [hk, show s.e.length ≠ 0 by omega, show s.f.length ≠ 0 by omega]
 ·have := h3 hk
  have hf : s.f = [] := List.eq_nil_of_length_eq_zero this
  simp [hk, hf]
  intro h; rw [h] at h1; simp at h1
end
section
def clF (t : Tr) (f : Nat) : List Nat := callsL t.funcs (t.funcs.getD f ⟨⟨#[]⟩, [], []⟩).body
def fszF (t : Tr) (f : Nat) : Int := frameSz (t.funcs.getD f ⟨⟨#[]⟩, [], []⟩)
def mxL (l : List Int) : Int := l.foldl max 0
theorem mxL_snoc (l : List Int) (x : Int) : mxL (l ++ [x]) = max (mxL l) x := by simp [mxL]
theorem foldl_max_ge (l : List Int) : ∀ p : Int, p ≤ l.foldl max p := by
 induction l with
 | nil => intro p; exact Int.le_refl _
 | cons x r ih => intro p; exact Int.le_trans (Int.le_max_left p x) (ih (max p x))
theorem foldl_max_le (l : List Int) (M : Int) : ∀ p : Int, p ≤ M → (∀ x ∈ l, x ≤ M) → l.foldl max p ≤ M := by
 induction l with
 | nil => intro p hp _; exact hp
 | cons x r ih => intro p hp h; exact ih (max p x) (Int.max_le.2 ⟨hp, h x (by simp)⟩) (fun y hy => h y (by simp [hy]))
theorem mxL_bd (l : List Int) (M : Int) (hM : 0 ≤ M) (h : ∀ x ∈ l, x ≤ M) : 0 ≤ mxL l ∧ mxL l ≤ M := ⟨foldl_max_ge l 0, foldl_max_le l M 0 hM h⟩
structure DpC (t:Tr)(P:Nat→Nat→Int→Prop):Prop where
 c_::
 mk(n f:Nat)(g:Nat → Int):(f < t.funcs.length)→(∀ c ∈ clF t f, P n c (g c))→P (n + 1) f (fszF t f + mxL ((clF t f).map g))
structure Dp (t:Tr)(a0:Nat)(a1:Nat)(a2:Int):Prop where
 c_::
 out:∀P,DpC t P→P a0 a1 a2
theorem Dp.C{t:Tr}:DpC t (Dp t):=⟨fun n f g q0 q1=>⟨fun P h=>h.mk n f g q0 (fun c r=>(q1 c r).out P h)⟩⟩
abbrev Dp.mk {t}:=(Dp.C:DpC t _).mk
theorem Dp_i{t:Tr}{M:∀(a0:Nat)(a1:Nat)(a2:Int),Dp t a0 a1 a2→Prop}
 (mk:∀(n f:Nat)(g:Nat → Int),(f < t.funcs.length)→∀q1:∀ c ∈ clF t f, Dp t n c (g c),(∀ c (r : c ∈ clF t f),M n c (g c) (q1 c r))→∀u,M (n + 1) f (fszF t f + mxL ((clF t f).map g)) u)
 {a0:Nat}{a1:Nat}{a2:Int}(u:Dp t a0 a1 a2):M a0 a1 a2 u:=
 (u.out (fun a0 a1 a2=>∃z_,M a0 a1 a2 z_) ⟨fun n f g q0 q1=>⟨.mk n f g q0 (fun c r=>(q1 c r).1),mk n f g q0 _ (fun c r=>(q1 c r).2) _⟩⟩).2
theorem map_congr' {l : List Nat} {g h : Nat → Int} (e : ∀ c ∈ l, g c = h c) : l.map g = l.map h := List.map_congr_left e
theorem Dp.one {t : Tr} {n f : Nat} {s : Int} (h : Dp t n f s) : ∀ {m : Nat} {s' : Int}, Dp t m f s' → s = s' := by
 induction h using Dp_i with
 | mk n f g hf hg ih =>
  intro m s' h'
  cases h' using Dp_i with
  | mk m _ g' hf' hg' =>
   rw [map_congr' (fun c hc => ih c hc (hg' c hc))]
theorem Dp.lt {t : Tr} {n f : Nat} {s : Int} (h : Dp t n f s) : f < t.funcs.length := by cases h using Dp_i with | mk n _ g hf _ => exact hf
theorem Dp.more {t : Tr} {n f : Nat} {s : Int} (h : Dp t n f s) : ∀ m, n ≤ m → Dp t m f s := by
 induction h using Dp_i with
 | mk n f g hf hg ih =>
  intro m hm
  obtain ⟨k, rfl⟩ : ∃ k, m = k + 1 := ⟨m - 1, by omega⟩
  exact .mk k f g hf (fun c hc => ih c hc k (by omega))
theorem Dp.bd {t : Tr} (hz : ∀ f, f < t.funcs.length → 0 ≤ fszF t f ∧ fszF t f ≤ 1000000) {n f : Nat} {s : Int} (h : Dp t n f s) : 0 ≤ s ∧ s ≤ 1000000 * n := by
 induction h using Dp_i with
 | mk n f g hf hg ih =>
  have h1 := hz f hf
  have h2 := mxL_bd ((clF t f).map g) (1000000 * n) (by omega) (fun x hx => by
   obtain ⟨c, hc, rfl⟩ := List.mem_map.1 hx
   exact (ih c hc).2)
  omega
theorem Dp.sums {t : Tr} {n f : Nat} {s : Int} (h : Dp t (n + 1) f s) (g : Nat → Int) (hg : ∀ c ∈ clF t f, ∀ x, Dp t n c x → g c = x) : s = fszF t f + mxL ((clF t f).map g) := by
 cases h using Dp_i with
 | mk _ _ g' hf hg' => rw [map_congr' (fun c hc => (hg c hc _ (hg' c hc)).symm)]
theorem Dp.kids {t : Tr} {n f : Nat} {s : Int} (h : Dp t n f s) : ∃ k, n = k + 1 ∧ ∀ c ∈ clF t f, ∃ x, Dp t k c x := by
 cases h using Dp_i with
 | mk k _ g hf hg => exact ⟨k, rfl, fun c hc => ⟨g c, hg c hc⟩⟩
theorem Dp.rch {t : Tr} {n f : Nat} {s : Int} (h : Dp t n f s) {x : Nat} (hr : Rch t f x) : ∃ m s', m < n ∧ Dp t m x s' := by
 induction hr using Rch_i with
 | one hc =>
  obtain ⟨k, rfl, hk⟩ := h.kids
  obtain ⟨y, hy⟩ := hk _ hc.2
  exact ⟨k, y, by omega, hy⟩
 | step _ hc ih =>
  obtain ⟨m, s', hm, hd⟩ := ih
  obtain ⟨k, rfl, hk⟩ := hd.kids
  obtain ⟨y, hy⟩ := hk _ hc.2
  exact ⟨k, y, by omega, hy⟩
theorem Dp.acyc {t : Tr} (n : Nat) : ∀ {f : Nat} {s : Int}, Dp t n f s → ¬ Rch t f f := by
 induction n using Nat.strongRecOn with
 | ind n ih =>
  intro f s h hr
  obtain ⟨m, s', hm, hd⟩ := h.rch hr
  exact ih m hm hd hr
theorem countP_lt {p q : Nat → Bool} : ∀ {l : List Nat}, (∀ x ∈ l, p x = true → q x = true) → (∃ x ∈ l, q x = true ∧ p x = false) → l.countP p < l.countP q
 | [], _, ⟨x, hx, _⟩ => by cases hx
 | a :: r, h, ⟨x, hx, h1, h2⟩ => by
  have hle : ∀ l : List Nat, (∀ x ∈ l, p x = true → q x = true) → l.countP p ≤ l.countP q := fun l hl => List.countP_mono_left hl
  rw [List.countP_cons, List.countP_cons]
  rcases List.mem_cons.1 hx with rfl | hx
  ·have := hle r (fun y hy => h y (by simp [hy]))
   rw [h1, h2]
   simp
   omega
  ·have := countP_lt (l := r) (fun y hy => h y (by simp [hy])) ⟨x, hx, h1, h2⟩
   have hh := h a (by simp)
   cases hp : p a with
   | true => rw [hh hp]; simp; omega
   | false => cases hq : q a <;> simp <;> omega
open Classical in
def rkF (t : Tr) (f : Nat) : Nat := (List.range t.funcs.length).countP (fun x => @decide (x = f ∨ Rch t f x) (pd _))
open Classical in
theorem rk_call {t : Tr} {f c : Nat} (h : CallR t f c) (ha : ¬ Rch t f f) : rkF t c < rkF t f := by
 unfold rkF
 refine countP_lt (fun x _ hx => ?_) ⟨f, List.mem_range.2 h.1, by simp, ?_⟩
 ·rw [@decide_eq_true_iff _ (pd _)] at hx ⊢
  rcases hx with rfl | hx
  ·exact .inr (.one h)
  ·exact .inr ((Rch.one h).trans hx)
 ·rw [@decide_eq_false_iff_not _ (pd _)]
  rintro (h1 | h1)
  ·subst h1
   exact ha (.one h)
  ·exact ha ((Rch.one h).trans h1)
theorem dp_exists {t : Tr} {m : Nat} (hm : m < t.funcs.length) (ha : Acyc t m) : ∀ (k f : Nat), (f = m ∨ Rch t m f) → rkF t f ≤ k → ∃ s, Dp t k f s := by
 intro k
 induction k with
 | zero =>
  intro f hf hk
  have hlt : f < t.funcs.length := by rcases hf with rfl | h; exact hm; exact h.lt
  have : 0 < rkF t f := by
   unfold rkF
   rw [List.countP_pos_iff]
   exact ⟨f, List.mem_range.2 hlt, by simp⟩
  omega
 | succ k ih =>
  intro f hf hk
  have hlt : f < t.funcs.length := by rcases hf with rfl | h; exact hm; exact h.lt
  have h0 : ∀ c, ∃ x, c ∈ clF t f → Dp t k c x := by
   intro c
   by_cases hc : c ∈ clF t f
   ·have hcr : CallR t f c := ⟨hlt, hc⟩
    have hlive : c = m ∨ Rch t m c := by
     rcases hf with rfl | h
     ·exact .inr (.one hcr)
     ·exact .inr (.step h hcr)
    obtain ⟨x, hx⟩ := ih c hlive (by have := rk_call hcr (ha f hf); omega)
    exact ⟨x, fun _ => hx⟩
   ·exact ⟨0, fun h => absurd h hc⟩
  exact ⟨_, .mk k f (fun c => (h0 c).choose) hlt (fun c hc => (h0 c).choose_spec hc)⟩
open Classical in
theorem rk_le {t : Tr} {m f : Nat} {live : List Nat} (hf : f = m ∨ Rch t m f) (hl : ∀ x, (x = m ∨ Rch t m x) → x ∈ live) : rkF t f ≤ live.length := by
 unfold rkF
 rw [List.countP_eq_length_filter]
 refine nodup_len _ _ (List.nodup_range.filter _) (fun x hx => hl x ?_)
 have := (List.mem_filter.1 hx).2
 rw [@decide_eq_true_iff _ (pd _)] at this
 rcases this with rfl | h
 ·exact hf
 ·rcases hf with rfl | h1
  ·exact .inr h
  ·exact .inr (h1.trans h)
open Classical in
theorem rk_all (t : Tr) (f : Nat) : rkF t f ≤ t.funcs.length := by
 unfold rkF
 have := List.countP_le_length (p := fun x => @decide (x = f ∨ Rch t f x) (pd _)) (l := List.range t.funcs.length)
 simpa using this
end
end Go.Proofs.YtjhmgjimppflhaaGreatDoor
