import Derived.Test.YtolkpkklinoegaaDoorM35
import Derived.Deep.RegionHeld
namespace Go.Proofs.YtolkpkklinoegaaDoor
set_option linter.unusedVariables false
set_option linter.unusedSimpArgs false
set_option maxRecDepth 100000
set_option maxHeartbeats 16000000
section
open Go.RowKit
set_option maxHeartbeats 1000000 in
theorem nf_any (n : Nd) (hn : nodeB n = true) (A : Nat) (hA : arity n = A) (S : Nat → Prop) (ar : Value) (vs : Nat → Value) (F : Nat → List Nd) (w : World) (ha : Args w S ar A vs) (hv : ∀ i, i < A → Tv w S (vs i) (F i)) (hb : ∀ i, i < A → ∀ x, isN (F i) = some x → inB x) (hS : ∀ B, S B → B < w.heap.size) :
  Calls Tryd.prog 18 #[nodeV n ar vs] w fun e w' => ∃ u, e = .returned u ∧ Tv w' S u (fold1 apN n A F) ∧ Below w.heap.size w w' := by
 have hkk := kind_good hn
 obtain ⟨hr1, hr2⟩ := node_rest hn
 have h6 := fun h => val6' hn h
 obtain ⟨nk, nv, nm⟩ := n
 simp only at hkk hr1 hr2 h6
 have hk : nk = 1 ∨ nk = 2 ∨ nk = 3 ∨ nk = 4 ∨ nk = 5 ∨ nk = 6 ∨ nk = 7 ∨ nk = 8 ∨ nk = 9 := by omega
 rcases hk with rfl | rfl | rfl | rfl | rfl | rfl | rfl | rfl | rfl
 ·obtain rfl := hr1 (by omega)
  have e1 : A = 0 := by simp [arity] at hA; omega
  subst e1
  refine (fold_else 91 _ (by decide) (by decide) (by decide) (by decide) w).mono ?_
  rintro e w' ⟨rfl, hb'⟩
  exact ⟨_, rfl, .num nv, hb'⟩
 ·obtain rfl := hr2 (by omega)
  have e1 : A = 0 := by simp [arity] at hA; omega
  subst e1
  refine (fold_else 121 _ (by decide) (by decide) (by decide) (by decide) w).mono ?_
  rintro e w' ⟨rfl, hb'⟩
  exact ⟨_, rfl, .var nm, hb'⟩
 ·obtain rfl := hr2 (by omega)
  have e1 : A = 1 := by simp [arity] at hA; omega
  subst e1
  refine (fold_else 123 _ (by decide) (by decide) (by decide) (by decide) w).mono ?_
  rintro e w' ⟨rfl, hb'⟩
  exact ⟨_, rfl, .index nm _ _ ((hv 0 (by omega)).bel hS hb'), hb'⟩
 ·have e1 : nv = A := by simp [arity] at hA; omega
  subst e1
  refine (fold_else 125 _ (by decide) (by decide) (by decide) (by decide) w).mono ?_
  rintro e w' ⟨rfl, hb'⟩
  exact ⟨_, rfl, .call nm _ A vs F (ha.keep (fun _ h => h) (fun B hB => hb'.block B (hS B hB))) (fun i hi => (hv i hi).bel hS hb'), hb'⟩
 ·obtain rfl := hr1 (by omega)
  obtain rfl := hr2 (by omega)
  have e1 : A = 0 := by simp [arity] at hA; omega
  subst e1
  refine (fold_else 128 _ (by decide) (by decide) (by decide) (by decide) w).mono ?_
  rintro e w' ⟨rfl, hb'⟩
  exact ⟨_, rfl, .inn, hb'⟩
 ·obtain rfl := hr1 (by omega)
  have e1 : A = 1 := by simp [arity] at hA; omega
  subst e1
  exact fv_un nv (h6 rfl).1 (h6 rfl).2 (hv 0 (by omega)) (hb 0 (by omega)) hS
 ·obtain rfl := hr1 (by omega)
  have e1 : A = 2 := by simp [arity] at hA; omega
  subst e1
  exact fv_bin nv (hv 0 (by omega)) (hv 1 (by omega)) hS
 ·obtain rfl := hr1 (by omega)
  obtain rfl := hr2 (by omega)
  have e1 : A = 2 := by simp [arity] at hA; omega
  subst e1
  exact fv_and (hv 0 (by omega)) (hv 1 (by omega)) (hb 1 (by omega)) hS
 ·obtain rfl := hr1 (by omega)
  obtain rfl := hr2 (by omega)
  have e1 : A = 2 := by simp [arity] at hA; omega
  subst e1
  exact fv_or (hv 0 (by omega)) (hv 1 (by omega)) (hb 1 (by omega)) hS
set_option maxRecDepth 100000 in
set_option maxHeartbeats 4000000 in
theorem build_any (n : Nd) (hn : nodeB n = true) (A : Nat) (hA : arity n = A) (S : Nat → Prop) (ar : Value) (vs : Nat → Value) (F : Nat → List Nd) (C : Nat) (w : World) (hC : w.cell? ⟨C, 0, none⟩ = some (.func (Fn.func 18) #[] #[])) (ha : Args w S ar A vs) (hv : ∀ i, i < A → Tv w S (vs i) (F i)) (hb : ∀ i, i < A → ∀ x, isN (F i) = some x → inB x) (hS : ∀ B, S B → B < w.heap.size) :
  Calls Tryd.prog 34 #[.agg #[.int .i64 n.kind, .int .i64 n.val, .string n.name], ar, .pointer (some ⟨C, 0, none⟩)] w fun e w' => ∃ u, e = .returned u ∧ Tv w' S u (fold1 apN n A F) ∧ Below w.heap.size w w' := by
 have hltC := World.block_lt_of_cell? _ _ hC
 have bx : ∀ o, Below w.heap.size w (w.alloc o).drew := fun o => ((Below.refl _ _).alloc (Nat.le_refl _) o).drew
 have HN : Hid (∀ W, Below w.heap.size w W → Calls Tryd.prog 35 #[.agg #[.int .i64 n.kind, .int .i64 n.val, .string n.name], ar] W fun e w' => e = .returned (nodeV n ar vs) ∧ Below W.heap.size W w') := fun W hW => nodeOf_any n hn A hA S ar vs W (ha.keep (fun _ h => h) (fun B hB => hW.block B (hS B hB))) (fun i hi => (hv i hi).isI)
 have HF : Hid (∀ W, Below w.heap.size w W → Calls Tryd.prog 18 #[nodeV n ar vs] W fun e w' => ∃ u, e = .returned u ∧ Tv w' S u (fold1 apN n A F) ∧ Below W.heap.size W w') := fun W hW => nf_any n hn A hA S ar vs F W (ha.keep (fun _ h => h) (fun B hB => hW.block B (hS B hB))) (fun i hi => (hv i hi).bel hS hW) hb (fun B hB => Nat.lt_of_lt_of_le (hS B hB) hW.size)
 have q0 : ∀ o, (w.alloc o).cell? ⟨C, 0, none⟩ = some (.func (Fn.func 18) #[] #[]) := fun o => (((Below.refl _ _).alloc (Nat.le_refl _) o : Below w.heap.size w (w.alloc o)).cell (p := ⟨C, 0, none⟩) hltC).trans hC
 obtain ⟨nk, nv, nm⟩ := n
 simp only at HN HF ⊢
 generalize nodeV ⟨nk, nv, nm⟩ ar vs = NV at HN HF
 generalize fold1 apN ⟨nk, nv, nm⟩ A F = T at HF ⊢
 clear ha hv hb hA hn hC
 go_enter Tryd.func34, Tryd.ntmps34
 go_wp2_with fail
 have HB : Hid (∀ o, Below w.heap.size w (w.alloc o).drew) := bx
 have HN1 : Hid (∀ o, Calls Tryd.prog 35 #[.agg #[.int .i64 nk, .int .i64 nv, .string nm], ar] (w.alloc o).drew fun e w' => e = .returned NV ∧ Below (w.alloc o).drew.heap.size (w.alloc o).drew w') := fun o => HN.out _ (bx o)
 have HK : Hid (∀ w2, Below (w.alloc (.cells #[.int .i64 nk, .int .i64 nv, .string nm] 32)).drew.heap.size (w.alloc (.cells #[.int .i64 nk, .int .i64 nv, .string nm] 32)).drew w2 → w2.cell? ⟨C, 0, none⟩ = some (.func (Fn.func 18) #[] #[]) ∧ w2.cell? ⟨w.heap.size, 0, none⟩ = some (.int .i64 nk) ∧ w2.cell? ⟨w.heap.size, 1, none⟩ = some (.int .i64 nv) ∧ w2.cell? ⟨w.heap.size, 2, none⟩ = some (.string nm) ∧ Below w.heap.size w w2) := by
  intro w2 h
  have h1 : Below (w.alloc (.cells #[.int .i64 nk, .int .i64 nv, .string nm] 32)).heap.size (w.alloc (.cells #[.int .i64 nk, .int .i64 nv, .string nm] 32)) w2 := (Below.refl _ _).drew.trans h
  have g : ∀ i v, (w.alloc (.cells #[.int .i64 nk, .int .i64 nv, .string nm] 32)).cell? ⟨w.heap.size, i, none⟩ = some v → w2.cell? ⟨w.heap.size, i, none⟩ = some v := fun i v hv => (h1.cell (p := ⟨w.heap.size, i, none⟩) (by simp)).trans hv
  exact ⟨(h1.cell (p := ⟨C, 0, none⟩) (by simp; omega)).trans (q0 _), g _ _ (by go_simp), g _ _ (by go_simp), g _ _ (by go_simp), (bx _).trans (h.mono (by simp))⟩
 have HK2 : ∀ w2 w3 : World, Below w2.heap.size w2 w3 → ∀ B i v, w2.cell? ⟨B, i, none⟩ = some v → w3.cell? ⟨B, i, none⟩ = some v := by
  intro w2 w3 h B i v hv
  exact (h.cell (p := ⟨B, i, none⟩) (World.block_lt_of_cell? _ _ hv)).trans hv
 have HF2 : Hid (∀ W : World, Below w.heap.size w W → W.cell? ⟨C, 0, none⟩ = some (.func (Fn.func 18) #[] #[]) → W.cell? ⟨w.heap.size, 0, none⟩ = some (.int .i64 nk) → W.cell? ⟨w.heap.size, 1, none⟩ = some (.int .i64 nv) → W.cell? ⟨w.heap.size, 2, none⟩ = some (.string nm) → Calls Tryd.prog 18 #[NV] W fun e w' => ∃ u, e = .returned u ∧ (Tv w' S u T ∧ Below w.heap.size w w') ∧ w'.cell? ⟨C, 0, none⟩ = some (.func (Fn.func 18) #[] #[]) ∧ w'.cell? ⟨w.heap.size, 0, none⟩ = some (.int .i64 nk) ∧ w'.cell? ⟨w.heap.size, 1, none⟩ = some (.int .i64 nv) ∧ w'.cell? ⟨w.heap.size, 2, none⟩ = some (.string nm)) := by
  intro W hW h1 h2 h3 h4
  refine (HF.out W hW).mono ?_
  rintro e w' ⟨u, rfl, h5, h6⟩
  exact ⟨u, rfl, ⟨h5, hW.trans (h6.mono hW.size)⟩, HK2 _ _ h6 _ _ _ h1, HK2 _ _ h6 _ _ _ h2, HK2 _ _ h6 _ _ _ h3, HK2 _ _ h6 _ _ _ h4⟩
 clear HK2 HN
 have q1 := q0 (.cells #[.int .i64 nk, .int .i64 nv, .string nm] 32)
 go_region_held (fun W => W.cell? ⟨C, 0, none⟩ = some (.func (Fn.func 18) #[] #[]) ∧ W.cell? ⟨w.heap.size, 0, none⟩ = some (.int .i64 nk) ∧ W.cell? ⟨w.heap.size, 1, none⟩ = some (.int .i64 nv) ∧ W.cell? ⟨w.heap.size, 2, none⟩ = some (.string nm)) (first | go_keep | (exact ⟨q1, by go_simp, by go_simp, by go_simp⟩))
  (first
  | ((with_reducible refine Calls.mono (HN1.out _) ?_); intro x w2 hx; obtain ⟨hx1, hx2⟩ := hx; subst hx1; obtain ⟨qa, q00, q01, q02, qw⟩ := HK.out w2 hx2; clear hx2)
  | ((with_reducible refine Calls.mono (HF2.out _ qw qa q00 q01 q02) ?_); intro x w3 hx; obtain ⟨u, hx1, hx2, r0, r1, r2, r3⟩ := hx; subst hx1; have HT : Hid (Tv w3 S u T ∧ Below w.heap.size w w3) := hx2; clear hx2))
 go_wp2_with fail
 go_ret
 exact ⟨_, rfl, HT.out.1, HT.out.2⟩
end
section
open Go.RowKit
abbrev Ent := List Nd × List Nd × Value
def vsL (L : List Ent) (i : Nat) : Value := (L.getD i ([], [], .nilIface)).2.2
def fsL (L : List Ent) (i : Nat) : List Nd := (L.getD i ([], [], .nilIface)).2.1
structure RI (w wr : World) (e : List Nd) (k : Nat) (v : Value) (T : List Ent) (S : Nat → Prop) : Prop where
 flat : (T.map (·.1)).flatten = e.take k
 each : ∀ t ∈ T, oneB t.1 = true ∧ Fd apN t.1 t.2.1 ∧ Tv wr S t.2.2 t.2.1
 row : VRow w.heap.size wr v (T.map (·.2.2))
 sep : ∀ B, S B → w.heap.size ≤ B ∧ B < wr.heap.size ∧ v.ownBlock ≠ some B
 bel : Below w.heap.size w wr
theorem RI.below {w wr w' : World} {e : List Nd} {k : Nat} {v : Value} {T : List Ent} {S : Nat → Prop} (h : RI w wr e k v T S) (hb : Below wr.heap.size wr w') : RI w w' e k v T S := by
 refine ⟨h.flat, fun t ht => ⟨(h.each t ht).1, (h.each t ht).2.1, (h.each t ht).2.2.bel (fun B hB => (h.sep B hB).2.1) hb⟩, ownB h.row hb, fun B hB => ?_, h.bel.trans (hb.mono h.bel.size)⟩
 have := h.sep B hB
 exact ⟨this.1, Nat.lt_of_lt_of_le this.2.1 hb.size, this.2.2⟩
theorem RI.one {w wr : World} {e : List Nd} {k : Nat} {v : Value} {T : List Ent} {S : Nat → Prop} (h : RI w wr e k v T S) : ∀ u ∈ T.map (·.2.2), u.oneCell' = true := by
 intro u hu
 simp only [List.mem_map] at hu
 obtain ⟨t, ht, rfl⟩ := hu
 obtain ⟨a, b, hab⟩ := (h.each t ht).2.2.isI
 rw [hab]
 rfl
theorem RI.segs {w wr : World} {e : List Nd} {k : Nat} {v : Value} {T : List Ent} {S : Nat → Prop} (h : RI w wr e k v T S) : ∀ s ∈ T.map (·.1), oneB s = true := by
 intro s hs
 simp only [List.mem_map] at hs
 obtain ⟨t, ht, rfl⟩ := hs
 exact (h.each t ht).1
def addS (S : Nat → Prop) (u : Value) (B : Nat) : Prop := S B ∨ u.ownBlock = some B
theorem RI.kids {w wr w3 : World} {e : List Nd} {k : Nat} {v : Value} {T : List Ent} {S : Nat → Prop} (h : RI w wr e k v T S) (lo A : Nat) (hlo : lo + A = T.length) (hb : Below wr.heap.size wr w3) {u : Value} (hu : VRow wr.heap.size w3 u ((T.drop lo).map (·.2.2))) :
  Args w3 (addS S u) u A (vsL (T.drop lo)) ∧ (∀ i, i < A → Tv w3 (addS S u) (vsL (T.drop lo) i) (fsL (T.drop lo) i)) ∧ (∀ i, i < A → ∀ x, isN (fsL (T.drop lo) i) = some x → inB x) ∧ ∀ B, addS S u B → B < w3.heap.size := by
 have hlen : (T.drop lo).length = A := by simp; omega
 have hget : ∀ i (hi : i < A), (T.drop lo).getD i ([], [], .nilIface) = (T.drop lo)[i]'(by omega) ∧ (T.drop lo)[i]'(by omega) ∈ T := by
  intro i hi
  refine ⟨by simp [List.getD, List.getElem?_eq_getElem (show i < (T.drop lo).length by omega)], List.mem_of_mem_drop (List.getElem_mem _)⟩
 refine ⟨?_, fun i hi => ?_, fun i hi x hx => ?_, fun B hB => ?_⟩
 ·obtain ⟨a, cap, rfl, h1, h2, h3, h4⟩ := hu.form
  simp only [List.length_map, hlen] at h1 ⊢
  refine ⟨a, cap, rfl, h1, h2, fun h0 => ?_⟩
  cases a with
  | none =>
   have := h3 rfl
   have h5 := congrArg List.length this
   simp only [List.length_map, List.length_nil] at h5
   omega
  | some ad =>
   obtain ⟨g, rfl, hg1, hg2, hc⟩ := h4 ad rfl
   refine ⟨g, rfl, .inr rfl, fun i hi => ?_⟩
   refine hc i _ ?_
   rw [List.getElem?_map, List.getElem?_eq_getElem (show i < (T.drop lo).length by omega), Option.map_some, vsL, (hget i hi).1]
 ·have := (h.each _ (hget i hi).2).2.2
  rw [vsL, fsL, (hget i hi).1]
  exact this.keep (fun B hB => .inl hB) (fun B hB => hb.block B (h.sep B hB).2.1)
 ·have := (h.each _ (hget i hi).2).2.1
  rw [fsL, (hget i hi).1] at hx
  exact this.bd hx
 ·rcases hB with hB | hB
  ·exact Nat.lt_of_lt_of_le (h.sep B hB).2.1 hb.size
  ·exact (hu.own B hB).2
theorem RI.step {w wr w3 w4 w5 w6 : World} {e : List Nd} {k : Nat} {v v' u u' : Value} {T : List Ent} {S : Nat → Prop} (h : RI w wr e k v T S) (hk : k < e.length) (lo A : Nat) (hlo : lo + A = T.length) (hn : nodeB e[k] = true) (hA : arity e[k] = A)
  (hb : Below wr.heap.size wr w3) (hu : VRow wr.heap.size w3 u ((T.drop lo).map (·.2.2))) (hb4 : Below w3.heap.size w3 w4) (hT : Tv w4 (addS S u) u' (fold1 apN e[k] A (fsL (T.drop lo)))) (hb5 : Below w4.heap.size w4 w5)
  (hr : VRow w.heap.size w6 v' ((T.take lo).map (·.2.2) ++ [u'])) (hg : w5.grownBy w6 v.ownBlock) (hf : ∀ g, v'.ownBlock = some g → v.ownBlock = some g ∨ w5.heap.size ≤ g) :
  ∃ T' S', RI w w6 e (k + 1) v' T' S' := by
 have hvo : ∀ g, v.ownBlock = some g → w.heap.size ≤ g ∧ g < wr.heap.size := fun g hg => h.row.own g hg
 have hb5' : Below wr.heap.size wr w5 := (hb.trans (hb4.mono hb.size)).trans (hb5.mono (Nat.le_trans hb.size hb4.size))
 have hSlt : ∀ B, addS S u B → B < w3.heap.size ∧ w.heap.size ≤ B ∧ v.ownBlock ≠ some B := by
  intro B hB
  rcases hB with hB | hB
  ·exact ⟨Nat.lt_of_lt_of_le (h.sep B hB).2.1 hb.size, (h.sep B hB).1, (h.sep B hB).2.2⟩
  ·have h1 := hu.own B hB
   have h2 := h.bel.size
   refine ⟨h1.2, by omega, fun hh => ?_⟩
   have := hvo B hh
   omega
 have hs5 : w3.heap.size ≤ w5.heap.size := Nat.le_trans hb4.size hb5.size
 have hkeep : ∀ B, addS S u B → w6.heap[B]? = w5.heap[B]? := fun B hB => hg.block B (by have := (hSlt B hB).1; omega) (fun hh => (hSlt B hB).2.2 hh.symm)
 refine ⟨T.take lo ++ [(((T.drop lo).map (·.1)).flatten ++ [e[k]], fold1 apN e[k] A (fsL (T.drop lo)), u')], addS S u, ?_, ?_, ?_, ?_, ?_⟩
 ·simp only [List.map_append, List.map_cons, List.map_nil, List.flatten_append, List.flatten_cons, List.flatten_nil, List.append_nil]
  rw [← List.append_assoc, ← List.flatten_append, ← List.map_append, List.take_append_drop, h.flat, List.take_succ_eq_append_getElem hk]
 ·intro t ht
  rw [List.mem_append] at ht
  rcases ht with ht | ht
  ·have := h.each t (List.mem_of_mem_take ht)
   refine ⟨this.1, this.2.1, this.2.2.keep (fun B hB => .inl hB) (fun B hB => ?_)⟩
   rw [hkeep B (.inl hB)]
   exact hb5'.block B (h.sep B hB).2.1
  ·simp only [List.mem_singleton] at ht
   subst ht
   have hsegs : ∀ s ∈ (T.drop lo).map (·.1), oneB s = true := by
    intro s hs
    simp only [List.mem_map] at hs
    obtain ⟨t, ht, rfl⟩ := hs
    exact (h.each t (List.mem_of_mem_drop ht)).1
   have hlen : ((T.drop lo).map (·.1)).length = A := by simp; omega
   refine ⟨push_one _ _ hn (by rw [hlen, hA]) hsegs, ?_, hT.keep (fun _ hB => hB) (fun B hB => ?_)⟩
   ·have := push_fd apN ((T.drop lo).map (·.1)) e[k] hn (by rw [hlen, hA]) hsegs (fsL (T.drop lo)) (fun i hi => by
     have hi' : i < (T.drop lo).length := by simpa using hi
     rw [fsL]
     simp only [List.getElem_map, List.getD, List.getElem?_eq_getElem hi', Option.getD_some]
     exact (h.each _ (List.mem_of_mem_drop (List.getElem_mem _))).2.1)
    rw [hlen] at this
    exact this
   ·rw [hkeep B hB]
    exact hb5.block B (by have := (hSlt B hB).1; have := hb4.size; omega)
 ·have e1 : (T.take lo ++ [(((T.drop lo).map (·.1)).flatten ++ [e[k]], fold1 apN e[k] A (fsL (T.drop lo)), u')]).map (·.2.2) = (T.take lo).map (·.2.2) ++ [u'] := by simp
  rw [e1]
  exact hr
 ·intro B hB
  have h1 := hSlt B hB
  refine ⟨h1.2.1, by have := hg.size; omega, fun hh => ?_⟩
  rcases hf B hh with h2 | h2
  ·exact h1.2.2 h2
  ·omega
 ·have hb0 : Below w.heap.size w w5 := h.bel.trans (hb5'.mono h.bel.size)
  exact hb0.grown hg hb0.size (fun g hg => (hvo g hg).1)
theorem RI.fin {w wr : World} {e r : List Nd} {v : Value} {T : List Ent} {S : Nat → Prop} (h : RI w wr e e.length v T S) (he : oneB e = true) (hr : Fd apN e r) : ∃ u g, (∃ cap, v = .slice (some ⟨g, 0, none⟩) 1 cap) ∧ wr.cell? ⟨g, 0, none⟩ = some u ∧ Tv wr S u r := by
 have h1 : T.map (·.1) = [e] := segs_end he h.segs (by rw [h.flat, List.take_length])
 have hl : T.length = 1 := by have := congrArg List.length h1; simpa using this
 obtain ⟨t, rfl⟩ := List.length_eq_one_iff.1 hl
 simp only [List.map_cons, List.map_nil, List.cons.injEq, and_true] at h1
 have h2 := h.each t (by simp)
 rw [h1] at h2
 have h3 := h2.2.1.one hr
 rw [h3] at h2
 obtain ⟨a, cap, hv, _, _, h5, h6⟩ := h.row.form
 cases a with
 | none => have := h5 rfl; simp at this
 | some ad =>
  obtain ⟨g, rfl, _, _, h7⟩ := h6 ad rfl
  exact ⟨t.2.2, g, ⟨cap, hv⟩, h7 0 _ (by simp), h2.2.2⟩
end
end Go.Proofs.YtolkpkklinoegaaDoor
