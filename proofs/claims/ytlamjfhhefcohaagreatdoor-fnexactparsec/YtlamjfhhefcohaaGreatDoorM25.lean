import Derived.Test.YtlamjfhhefcohaaGreatDoorM07
import Derived.Test.YtlamjfhhefcohaaGreatDoorM05
import Derived.Test.YtlamjfhhefcohaaGreatDoorM21
import Derived.Test.YtlamjfhhefcohaaGreatDoorM18
namespace Go.Proofs.YtlamjfhhefcohaaGreatDoor
set_option linter.unusedVariables false
set_option linter.unusedSimpArgs false
set_option maxRecDepth 100000
set_option maxHeartbeats 16000000
section
open Go.RowKit
structure DRow (T : TypeId) (sz : Nat) (S : Nat → Prop) (B : Nat) (w : World) (v : Value) (n : Nat) (xs : List Value) (P : World → Prop) : Prop where
 row : w.ownsRow B T sz v n xs
 st : ∀ W, Tcs (fun k => S k ∨ v.ownBlock = some k) w W → P W
theorem own_tcs {T : TypeId} {sz B n : Nat} {S : Nat → Prop} {w w' : World} {v : Value} {xs : List Value} (h : w.ownsRow B T sz v n xs) (ht : Tcs S w w') (hS : ∀ k, S k → k < B) : w'.ownsRow B T sz v n xs := by
 obtain ⟨hx, h | ⟨g, cap, cur, rfl, h1, h2, h3⟩⟩ := h
 ·exact ⟨hx, .inl h⟩
 ·exact ⟨hx, .inr ⟨g, cap, cur, rfl, h1, (ht.block g (Array.getElem?_eq_some_iff.1 h2).1 (fun s => by have := hS g s; omega)).trans h2, h3⟩⟩
theorem own_low {w : World} {B B' size n : Nat} {e : TypeId} {v : Value} {xs : List Value} (h : w.ownsRow B e size v n xs) (hb : B' ≤ B) : w.ownsRow B' e size v n xs := by
 obtain ⟨hx, h | ⟨g, cap, cur, rfl, h1, h2, h3⟩⟩ := h
 ·exact ⟨hx, .inl h⟩
 ·exact ⟨hx, .inr ⟨g, cap, cur, rfl, Nat.le_trans hb h1, h2, h3⟩⟩
theorem own_shape {w : World} {B size n : Nat} {e : TypeId} {v : Value} {xs : List Value} (h : w.ownsRow B e size v n xs) : ∃ a c, v = .slice a n c ∧ (a = none → n = 0) ∧ (∀ ad, a = some ad → ∀ j x, xs[j]? = some x → w.cell? (ad.add j) = some x) := by
 have h0 := h
 rcases h.2 with ⟨rfl, hz⟩ | ⟨g, cap, cur, rfl, _⟩
 ·exact ⟨none, 0, by rw [hz], fun _ => hz, (fun ad h => by cases h)⟩
 ·exact ⟨_, cap, rfl, (fun h => by cases h), fun ad had j x hj => by cases had; exact World.ownsRow.cells h0 (g := g) rfl j x hj⟩
theorem DRow.tcs {T : TypeId} {sz B n : Nat} {S : Nat → Prop} {w w' : World} {v : Value} {xs : List Value} {P : World → Prop} (h : DRow T sz S B w v n xs P) (ht : Tcs S w w') (hS : ∀ k, S k → k < B) : DRow T sz S B w' v n xs P :=
 ⟨own_tcs h.row ht hS, fun W hW => h.st W ((ht.mono fun k hk => .inl hk).trans hW)⟩
theorem DRow.below {T : TypeId} {sz B n : Nat} {S : Nat → Prop} {w w' : World} {v : Value} {xs : List Value} {P : World → Prop} (h : DRow T sz S B w v n xs P) (hb : Below w.heap.size w w') : DRow T sz S B w' v n xs P :=
 ⟨ownB h.row hb, fun W hW => h.st W (hb.tcs.trans hW)⟩
theorem DRow.low {T : TypeId} {sz B B' n : Nat} {S : Nat → Prop} {w : World} {v : Value} {xs : List Value} {P : World → Prop} (h : DRow T sz S B w v n xs P) (hb : B' ≤ B) : DRow T sz S B' w v n xs P := ⟨own_low h.row hb, h.st⟩
theorem DRow.less {T : TypeId} {sz B n : Nat} {S S' : Nat → Prop} {w : World} {v : Value} {xs : List Value} {P : World → Prop} (h : DRow T sz S B w v n xs P) (hs : ∀ k, S' k → S k) : DRow T sz S' B w v n xs P :=
 ⟨h.row, fun W hW => h.st W (hW.mono fun k hk => hk.imp (hs k) id)⟩
theorem DRow.now {T : TypeId} {sz B n : Nat} {S : Nat → Prop} {w : World} {v : Value} {xs : List Value} {P : World → Prop} (h : DRow T sz S B w v n xs P) : P w := h.st w (Tcs.refl _ _)
theorem DRow.nil {T : TypeId} {sz B : Nat} {S : Nat → Prop} {w : World} {P : World → Prop} (h : ∀ W, P W) : DRow T sz S B w (.slice none 0 0) 0 [] P := ⟨World.ownsRow_nil _ _ _ _, fun W _ => h W⟩
theorem drow_app {Pg : Program} {w : World} {T t : TypeId} {sz bytes B n m c : Nat} {S : Nat → Prop} {v z : Value} {i : TypeInfo} {xs us : List Value} {P P2 : World → Prop} (ty : TypeId)
  (ht : Pg.underlying t = some (.slice T)) (hi : Pg.info? T = some i) (hz : i.zero = some z) (hsize : i.size = sz) (hby : i.bytes = bytes) (hzs : z.cells.size = sz) (hsz : 0 < sz)
  (h : DRow T sz S B w v n xs P) (a : Option Addr) (hn : a = none → m = 0) (hl : us.length = m * sz) (hc : ∀ ad, a = some ad → ∀ j u, us[j]? = some u → w.cell? (ad.add j) = some u) (h1 : ∀ u ∈ us, u.oneCell' = true)
  (hP2 : ∀ W, Tcs (fun k => S k ∨ v.ownBlock = some k) w W → P2 W) (hm : n + m ≤ 10000000) (hbb : bytes ≤ 1000) (hB : B ≤ w.heap.size) :
  ∃ v' w', (Builtin.append_ #[t, t] ty #[v, .slice a m c]).run Pg w = .ok v' w' ∧ DRow T sz S B w' v' (n + m) (xs ++ us) (fun W => P W ∧ P2 W) ∧ Tcs (fun k => v.ownBlock = some k) w w' ∧ ∀ k, v'.ownBlock = some k → v.ownBlock = some k ∨ w.heap.size ≤ k := by
 obtain ⟨v', w', r1, r2, r3, r4⟩ := run_appG (P := Pg) (w := w) B t ty T i z sz bytes ht hi hz hsize hby hzs hsz v n xs h.row a m c us hn hl hc h1 hm hbb hB
 have hT : Tcs (fun k => v.ownBlock = some k) w w' := Tcs.of_grown r3 (fun k hk => hk)
 refine ⟨v', w', r1, ⟨r2, fun W hW => ?_⟩, hT, r4⟩
 have : Tcs (fun k => S k ∨ v.ownBlock = some k) w W := by
  refine (hT.mono fun k hk => .inr hk).next hW fun x hx => ?_
  rcases hx with hx | hx
  ·exact .inl (.inl hx)
  ·rcases r4 x hx with h | h
   ·exact .inl (.inr h)
   ·exact .inr h
 exact ⟨h.st W this, hP2 W this⟩
theorem Dr.refl {g : Nat} {a : Option Addr} {len cap : Nat} {S : Nat → Prop} {w : World} (h : Cur g a len cap w) : Dr g a len cap S w w := ⟨h, Tcs.refl _ _⟩
theorem Dr.trans {g : Nat} {a : Option Addr} {len cap : Nat} {S : Nat → Prop} {w w1 w2 : World} (h : Dr g a len cap S w w1) (h' : Dr g a len cap S w1 w2) : Dr g a len cap S w w2 := ⟨h'.cur, h.tcs.trans h'.tcs⟩
theorem Dr.below {g : Nat} {a : Option Addr} {len cap : Nat} {S : Nat → Prop} {w w1 w2 : World} (h : Dr g a len cap S w w1) (h' : Below w1.heap.size w1 w2) : Dr g a len cap S w w2 := ⟨h.cur.below h', h.tcs.of_below h'⟩
theorem Dr.new {g : Nat} {a : Option Addr} {len cap : Nat} {S T : Nat → Prop} {w w1 w2 : World} (h : Dr g a len cap S w w1) (hL : Lo g a len S w.heap.size) (ht : Tcs T w1 w2) (hT : ∀ k, T k → w.heap.size ≤ k) : Dr g a len cap S w w2 :=
 ⟨h.cur.new hL ht hT, h.tcs.next ht fun x hx => .inr (hT x hx)⟩
theorem Dr.alloc {g : Nat} {a : Option Addr} {len cap : Nat} {S : Nat → Prop} {w w1 : World} (h : Dr g a len cap S w w1) (o : Obj) : Dr g a len cap S w (w1.alloc o) := h.below ((Below.refl _ _).alloc (Nat.le_refl _) o)
theorem nrow_fz {S : Nat → Prop} {B : Nat} {w : World} {v : Value} {e : List Nd} (h : NRow B w v e) (hS : ∀ k, S k → k < B) : ∀ W, Tcs S w W → Nodes W v e := fun W hW => NRow.nodes (B := B) (own_tcs h hW hS)
theorem own_strs {w : World} {B : Nat} {v : Value} {ps : List ByteArray} (h : w.ownsRow B 9 1 v ps.length (ps.map Value.string)) : Strs w v ps := by
 have h0 := h
 rcases h.2 with ⟨rfl, hz⟩ | ⟨g, cap, cur, rfl, h3, h4, h5⟩
 ·exact ⟨none, 0, by rw [hz], by rw [hz]; exact Nat.le_refl _, by omega, fun hp => absurd hp (by omega)⟩
 ·obtain ⟨q1, q2, -⟩ := h5
  unfold maxLen at q2
  refine ⟨_, cap, rfl, q1, q2, fun _ => ⟨g, 0, rfl, fun j hj => ?_⟩⟩
  have := World.ownsRow.cells h0 (g := g) rfl j (.string ps[j]) (by simp [List.getElem?_eq_getElem hj])
  rwa [addrO] at this
end
section
open Go.RowKit
theorem own_keep {w w' : World} {B size n : Nat} {e : TypeId} {v : Value} {xs : List Value} (h : w.ownsRow B e size v n xs) (hk : ∀ g, v.ownBlock = some g → w'.heap[g]? = w.heap[g]?) : w'.ownsRow B e size v n xs := by
 obtain ⟨hx, h | ⟨g, cap, cur, rfl, h1, h2, h3⟩⟩ := h
 ·exact ⟨hx, .inl h⟩
 ·exact ⟨hx, .inr ⟨g, cap, cur, rfl, h1, (hk g rfl).trans h2, h3⟩⟩
theorem own_base {w : World} {B B' size n : Nat} {e : TypeId} {v : Value} {xs : List Value} (h : w.ownsRow B e size v n xs) (hb : B' ≤ B) : w.ownsRow B' e size v n xs := by
 obtain ⟨hx, h | ⟨g, cap, cur, rfl, h1, h2, h3⟩⟩ := h
 ·exact ⟨hx, .inl h⟩
 ·exact ⟨hx, .inr ⟨g, cap, cur, rfl, Nat.le_trans hb h1, h2, h3⟩⟩
def ROne (B : Nat) (w : World) (v : Value) (n : Nat) (xs : List Value) (K : List Nat) : Prop := (n = 0 ∧ K = [] ∧ ∃ a c, v = .slice a 0 c ∧ c ≤ 9223372036854775807) ∨ ∃ g cap, v = .slice (some ⟨g, 0, none⟩) n cap ∧ K = [g] ∧ n ≤ cap ∧ cap ≤ 9223372036854775807 ∧ B ≤ g ∧ g < w.heap.size ∧ FrC w g xs
theorem ROne.keep {B : Nat} {w w' : World} {v : Value} {n : Nat} {xs : List Value} {K : List Nat} (h : ROne B w v n xs K) (hs : w.heap.size ≤ w'.heap.size) (hk : ∀ g ∈ K, w'.heap[g]? = w.heap[g]?) : ROne B w' v n xs K := by
 rcases h with h | ⟨g, cap, h1, rfl, h3, h4, h5, h6, h7⟩
 ·exact .inl h
 ·exact .inr ⟨g, cap, h1, rfl, h3, h4, h5, Nat.lt_of_lt_of_le h6 hs, h7.keep (hk g (by simp))⟩
theorem ROne.rng {B : Nat} {w : World} {v : Value} {n : Nat} {xs : List Value} {K : List Nat} (h : ROne B w v n xs K) : ∀ g ∈ K, B ≤ g ∧ g < w.heap.size := by
 rcases h with ⟨-, rfl, -⟩ | ⟨g, cap, -, rfl, -, -, h5, h6, -⟩
 ·intro g hg; cases hg
 ·intro x hx
  simp only [List.mem_singleton] at hx
  subst hx
  exact ⟨h5, h6⟩
theorem ROne.slice {B : Nat} {w : World} {v : Value} {n : Nat} {xs : List Value} {K : List Nat} (h : ROne B w v n xs K) : ∃ a c, v = .slice a n c ∧ n ≤ c ∧ c ≤ 9223372036854775807 := by
 rcases h with ⟨rfl, -, a, c, rfl, hc⟩ | ⟨g, cap, rfl, -, h3, h4, -⟩
 ·exact ⟨a, c, rfl, Nat.zero_le _, hc⟩
 ·exact ⟨_, cap, rfl, h3, h4⟩
theorem ROne.pos {B : Nat} {w : World} {a : Option Addr} {c n m : Nat} {xs : List Value} {K : List Nat} (h : ROne B w (.slice a m c) n xs K) (hp : 0 < n) : ∃ g, a = some ⟨g, 0, none⟩ ∧ K = [g] ∧ m = n ∧ B ≤ g ∧ g < w.heap.size ∧ FrC w g xs := by
 rcases h with ⟨rfl, -⟩ | ⟨g, cap, e, h2, -, -, h5, h6, h7⟩
 ·omega
 ·simp only [Value.slice.injEq] at e
  exact ⟨g, e.1, h2, e.2.1, h5, h6, h7⟩
theorem ROne.mk1 {B : Nat} {w w' : World} {v : Value} {n : Nat} {xs ys : List Value} {K : List Nat} (h : ROne B w v n xs K) (hs : w.heap.size ≤ w'.heap.size) (hF : ∀ g, K = [g] → FrC w' g ys) : ROne B w' v n ys K := by
 rcases h with h | ⟨g, cap, h1, rfl, h3, h4, h5, h6, h7⟩
 ·exact .inl h
 ·exact .inr ⟨g, cap, h1, rfl, h3, h4, h5, Nat.lt_of_lt_of_le h6 hs, hF g rfl⟩
theorem ROne.fr {B : Nat} {w : World} {v : Value} {n : Nat} {xs : List Value} {K : List Nat} (h : ROne B w v n xs K) : ∀ g, K = [g] → FrC w g xs := by
 rcases h with ⟨-, rfl, -⟩ | ⟨g, cap, -, rfl, -, -, -, -, h7⟩
 ·intro g hg; cases hg
 ·intro x hx; cases hx; exact h7
theorem ROne.of_own {B : Nat} {w : World} {e : TypeId} {size n : Nat} {v : Value} {xs : List Value} (h : w.ownsRow B e size v n xs) : ∃ K, ROne B w v n xs K ∧ ∀ g, v.ownBlock = some g ↔ g ∈ K := by
 rcases h.2 with ⟨rfl, rfl⟩ | ⟨g, cap, cur, rfl, h3, h4, h5, h6, h7, h8⟩
 ·exact ⟨[], .inl ⟨rfl, rfl, none, 0, rfl, by omega⟩, fun g => by simp [Value.ownBlock]⟩
 ·refine ⟨[g], .inr ⟨g, cap, rfl, rfl, h5, by unfold maxLen at h6; exact h6, h3, (World.ownsRow.lt h g rfl).2, fun j x hx => ⟨World.ownsRow.cells h (g := g) rfl j x hx |> fun e => by simpa [addrO] using e, h.frozenAt j⟩⟩, fun x => by simp [Value.ownBlock, eq_comm]⟩
theorem NOne.r {B : Nat} {w : World} {v : Value} {ns : List Nd} {K : List Nat} (h : NOne B w v ns K) : ROne B w v ns.length (flatN ns) K := by
 rcases h with ⟨rfl, h⟩ | ⟨g, cap, h1, h2, h3, h4, h5, h6, h7, h8⟩
 ·exact .inl ⟨rfl, h⟩
 ·refine .inr ⟨g, cap, h1, h2, h3, h4, h5, h6, fun j x hx => ?_⟩
  have hl := (List.getElem?_eq_some_iff.1 hx).1
  rw [flatN_len] at hl
  refine ⟨?_, h8 j hl⟩
  obtain ⟨m, hm, he⟩ := flatN_split ns j hl
  obtain ⟨c0, c1, c2⟩ := h7 m hm
  obtain ⟨e0, e1, e2⟩ := flatN_at ns m hm
  rcases he with rfl | rfl | rfl
  ·rw [e0] at hx; rw [← hx]; simpa using c0
  ·rw [e1] at hx; rw [← hx]; simpa using c1
  ·rw [e2] at hx; rw [← hx]; simpa using c2
theorem ROne.n {B : Nat} {w : World} {v : Value} {ns : List Nd} {K : List Nat} (h : ROne B w v ns.length (flatN ns) K) : NOne B w v ns K := by
 rcases h with ⟨h0, h⟩ | ⟨g, cap, h1, h2, h3, h4, h5, h6, h7⟩
 ·exact .inl ⟨List.eq_nil_of_length_eq_zero h0, h⟩
 ·refine .inr ⟨g, cap, h1, h2, h3, h4, h5, h6, fun j hj => ?_, fun j hj => ?_⟩
  ·obtain ⟨e0, e1, e2⟩ := flatN_at ns j hj
   rw [Nat.zero_add]
   exact ⟨(h7 _ _ e0).1, (h7 _ _ e1).1, (h7 _ _ e2).1⟩
  ·have hj' : j < (flatN ns).length := by rw [flatN_len]; exact hj
   exact (h7 j _ (List.getElem?_eq_getElem hj')).2
def cellsG (g : Gl) : List Value := [.string g.name, .int .i64 g.size]
def flatG (gs : List Gl) : List Value := gs.flatMap cellsG
theorem flatG_len (gs : List Gl) : (flatG gs).length = gs.length * 2 := by
 induction gs with
 | nil => rfl
 | cons a r ih =>
  have : (flatG (a :: r)).length = 2 + (flatG r).length := by simp [flatG, cellsG]; omega
  rw [this, ih, List.length_cons]
  omega
theorem flatG_append (a b : List Gl) : flatG (a ++ b) = flatG a ++ flatG b := by simp [flatG]
def flatP (ps : List ByteArray) : List Value := ps.map .string
structure StM (B : Nat) (w : World) (v : Value) (R : List SV) (K : List Nat) : Prop where
 row : ROne B w v R.length (flatS R) K
 each : ∀ q ∈ R, NOne B w q.ve q.s.e q.ke ∧ NOne B w q.vf q.s.f q.kf
 nd : (K ++ blkS R).Nodup
theorem StRow.m {B : Nat} {w : World} {v : Value} {R : List SV} (h : StRow B w v R) : ∃ K, StM B w v R K ∧ ∀ g, v.ownBlock = some g ↔ g ∈ K := by
 obtain ⟨K, h1, h2⟩ := ROne.of_own h.row
 refine ⟨K, ⟨h1, h.each, ?_⟩, h2⟩
 rw [List.nodup_append]
 refine ⟨?_, h.nd, fun a ha b hb e => ?_⟩
 ·rcases h1 with ⟨-, rfl, -⟩ | ⟨g, cap, -, rfl, -⟩ <;> simp
 ·subst e
  exact h.out a ((h2 a).2 ha) hb
theorem StM.rng {B : Nat} {w : World} {v : Value} {R : List SV} {K : List Nat} (h : StM B w v R K) : ∀ g ∈ K ++ blkS R, B ≤ g ∧ g < w.heap.size := by
 intro g hg
 rcases List.mem_append.1 hg with hg | hg
 ·exact h.row.rng g hg
 ·simp only [blkS, List.mem_flatMap, List.mem_append] at hg
  obtain ⟨q, hq, hg | hg⟩ := hg
  ·exact (h.each q hq).1.rng g hg
  ·exact (h.each q hq).2.rng g hg
theorem StM.keep {B : Nat} {w w' : World} {v : Value} {R : List SV} {K : List Nat} (h : StM B w v R K) (hs : w.heap.size ≤ w'.heap.size) (hk : ∀ g ∈ K ++ blkS R, w'.heap[g]? = w.heap[g]?) : StM B w' v R K :=
 ⟨h.row.keep hs (fun g hg => hk g (List.mem_append.2 (.inl hg))), fun q hq => ⟨(h.each q hq).1.keep hs (fun g hg => hk g (List.mem_append.2 (.inr ((mem_blk hq).1 g hg)))), (h.each q hq).2.keep hs (fun g hg => hk g (List.mem_append.2 (.inr ((mem_blk hq).2 g hg))))⟩, h.nd⟩
theorem StM.below {B : Nat} {w w' : World} {v : Value} {R : List SV} {K : List Nat} (h : StM B w v R K) (hb : Below w.heap.size w w') : StM B w' v R K := h.keep hb.size (fun g hg => hb.block g (h.rng g hg).2)
structure FOk (B : Nat) (w : World) (q : FV) : Prop where
 ps : ROne B w q.vp q.f.params.length (flatP q.f.params) q.kp
 body : StM B w q.vb q.R q.kb
 map : q.R.map (·.s) = q.f.body
 nd : (blk1 q).Nodup
theorem FOk.rng {B : Nat} {w : World} {q : FV} (h : FOk B w q) : ∀ g ∈ blk1 q, B ≤ g ∧ g < w.heap.size := by
 intro g hg
 rcases List.mem_append.1 hg with hg | hg
 ·exact h.ps.rng g hg
 ·exact h.body.rng g hg
theorem FOk.keep {B : Nat} {w w' : World} {q : FV} (h : FOk B w q) (hs : w.heap.size ≤ w'.heap.size) (hk : ∀ g ∈ blk1 q, w'.heap[g]? = w.heap[g]?) : FOk B w' q :=
 ⟨h.ps.keep hs (fun g hg => hk g (List.mem_append.2 (.inl hg))), h.body.keep hs (fun g hg => hk g (List.mem_append.2 (.inr hg))), h.map, h.nd⟩
theorem FOk.below {B : Nat} {w w' : World} {q : FV} (h : FOk B w q) (hb : Below w.heap.size w w') : FOk B w' q := h.keep hb.size (fun g hg => hb.block g (h.rng g hg).2)
theorem NOne.up {B B' : Nat} {w : World} {v : Value} {n : Nat} {xs : List Value} {K : List Nat} (h : ROne B w v n xs K) (hb : B' ≤ B) : ROne B' w v n xs K := by
 rcases h with h | ⟨g, cap, h1, h2, h3, h4, h5, h6⟩
 ·exact .inl h
 ·exact .inr ⟨g, cap, h1, h2, h3, h4, Nat.le_trans hb h5, h6⟩
theorem FOk.base {B B' : Nat} {w : World} {q : FV} (h : FOk B w q) (hb : B' ≤ B) : FOk B' w q :=
 ⟨NOne.up h.ps hb, ⟨NOne.up h.body.row hb, fun x hx => ⟨(h.body.each x hx).1.base hb, (h.body.each x hx).2.base hb⟩, h.body.nd⟩, h.map, h.nd⟩
theorem ROne.strs {B : Nat} {w : World} {v : Value} {ps : List ByteArray} {K : List Nat} (h : ROne B w v ps.length (flatP ps) K) : Strs w v ps := by
 rcases h with ⟨h0, -, a, c, rfl, hc⟩ | ⟨g, cap, rfl, -, h3, h4, -, -, h7⟩
 ·exact ⟨a, c, by rw [h0], by omega, hc, fun hp => absurd hp (by omega)⟩
 ·refine ⟨_, cap, rfl, h3, h4, fun _ => ⟨g, 0, rfl, fun j hj => ?_⟩⟩
  rw [Nat.zero_add]
  exact (h7 j (.string ps[j]) (by simp [flatP, List.getElem?_eq_getElem hj])).1
theorem StM.stmts {B : Nat} {w : World} {v : Value} {R : List SV} {K : List Nat} (h : StM B w v R K) : Stmts w v (R.map (·.s)) := by
 rcases h.row with ⟨h0, -, a, c, rfl, hc⟩ | ⟨g, cap, rfl, -, h3, h4, -, -, h7⟩
 ·exact ⟨a, c, by rw [List.length_map, h0], by rw [List.length_map]; omega, hc, fun hp => by rw [List.length_map] at hp; omega⟩
 ·refine ⟨some ⟨g, 0, none⟩, cap, by rw [List.length_map], by rw [List.length_map]; exact h3, h4, fun hp => ⟨g, 0, rfl, fun j hj => ?_⟩⟩
  rw [List.length_map] at hj
  have key : ∀ i (hi : i < 6), w.cell? ⟨g, 0 + j * 6 + i, none⟩ = (cellsS R[j])[i]? := fun i hi => by
   have e := flatS_get R j i hj hi
   have hl : i < (cellsS R[j]).length := hi
   rw [List.getElem?_eq_getElem hl] at e ⊢
   rw [Nat.zero_add]
   exact (h7 _ _ e).1
  have he := h.each R[j] (List.getElem_mem hj)
  refine ⟨R[j].ve, R[j].vf, ?_, ?_, ?_⟩
  ·simp only [List.getElem_map]
   exact ⟨key 0 (by omega), key 1 (by omega), key 2 (by omega), key 3 (by omega), key 4 (by omega), key 5 (by omega)⟩
  ·simp only [List.getElem_map]; exact he.1.nodes
  ·simp only [List.getElem_map]; exact he.2.nodes
structure FnRow (B : Nat) (w : World) (v : Value) (Q : List FV) : Prop where
 row : w.ownsRow B 43 3 v Q.length (flatF Q)
 each : ∀ q ∈ Q, FOk B w q
 nd : (blkF Q).Nodup
 out : ∀ g, v.ownBlock = some g → g ∉ blkF Q
theorem FnRow.nil (B : Nat) (w : World) : FnRow B w (.slice none 0 0) [] := ⟨World.ownsRow_nil _ _ _ _, fun q hq => (by cases hq), List.nodup_nil, fun g hg => (by simp [Value.ownBlock] at hg)⟩
theorem FnRow.rng {B : Nat} {w : World} {v : Value} {Q : List FV} (h : FnRow B w v Q) : ∀ g ∈ blkF Q, B ≤ g ∧ g < w.heap.size := by
 intro g hg
 obtain ⟨q, hq, hg⟩ := List.mem_flatMap.1 hg
 exact (h.each q hq).rng g hg
theorem blkF_in {Q : List FV} {q : FV} (hq : q ∈ Q) : ∀ g ∈ blk1 q, g ∈ blkF Q := fun g hg => List.mem_flatMap.2 ⟨q, hq, hg⟩
theorem FnRow.below {B : Nat} {w w' : World} {v : Value} {Q : List FV} (h : FnRow B w v Q) (hb : Below w.heap.size w w') : FnRow B w' v Q :=
 ⟨ownB h.row hb, fun q hq => (h.each q hq).below hb, h.nd, h.out⟩
theorem FnRow.shape {B : Nat} {w : World} {v : Value} {Q : List FV} (h : FnRow B w v Q) : ∃ a c, v = .slice a Q.length c := by
 rcases h.row.2 with ⟨rfl, hz⟩ | ⟨g, cap, cur, rfl, _⟩
 ·exact ⟨none, 0, by rw [hz]⟩
 ·exact ⟨_, cap, rfl⟩
theorem FnRow.funcs {B : Nat} {w : World} {v : Value} {Q : List FV} (h : FnRow B w v Q) : Funcs w v (Q.map (·.f)) := by
 have h0 := h.row
 rcases h.row.2 with ⟨rfl, hz⟩ | ⟨g, cap, cur, rfl, h3, h4, h5⟩
 ·exact ⟨none, 0, by rw [List.length_map, hz], by rw [List.length_map, hz]; exact Nat.le_refl _, by omega, fun h => by rw [List.length_map] at h; omega⟩
 ·have hc : Q.length ≤ cap ∧ cap ≤ 9223372036854775807 := by
   obtain ⟨q1, q2, -⟩ := h5
   unfold maxLen at q2
   exact ⟨q1, q2⟩
  refine ⟨some ⟨g, 0, none⟩, cap, by rw [List.length_map], by rw [List.length_map]; exact hc.1, hc.2, fun hp => ⟨g, 0, rfl, fun j hj => ?_⟩⟩
  rw [List.length_map] at hj
  have key : ∀ i, i < 3 → w.cell? ⟨g, 0 + j * 3 + i, none⟩ = (cellsF Q[j])[i]? := fun i hi => by
   have hl : (flatF Q).length = Q.length * 3 := flatF_len Q
   rw [Nat.zero_add, World.ownsRow.cellAt h0 (j * 3 + i) (by omega), flatF_get Q j i hj hi]
  have he := h.each Q[j] (List.getElem_mem hj)
  refine ⟨Q[j].vp, Q[j].vb, ?_, ?_, ?_⟩
  ·simp only [List.getElem_map]
   exact ⟨key 0 (by omega), key 1 (by omega), key 2 (by omega)⟩
  ·simp only [List.getElem_map]; exact he.ps.strs
  ·simp only [List.getElem_map]; rw [← he.map]; exact he.body.stmts
theorem fn_app {w : World} {B c : Nat} {v : Value} {ad : Addr} {Q : List FV} {q : FV} (ty : TypeId) (h : FnRow B w v Q) (hq : FOk B w q) (hcell : ∀ j x, (cellsF q)[j]? = some x → w.cell? (ad.add j) = some x) (hsep : ∀ g ∈ blk1 q, g ∉ blkF Q ∧ v.ownBlock ≠ some g) (hone : q.vp.oneCell' = true ∧ q.vb.oneCell' = true) (hB : B ≤ w.heap.size) (hm : Q.length ≤ 100000) :
  ∃ v' w', (Builtin.append_ #[24, 24] ty #[v, .slice (some ad) 1 c]).run Tryz.prog w = .ok v' w' ∧ FnRow B w' v' (Q ++ [q]) ∧ w.grownBy w' v.ownBlock ∧ ∀ k, v'.ownBlock = some k → v.ownBlock = some k ∨ w.heap.size ≤ k := by
 obtain ⟨i0, hi, hz0, hz1, hz2⟩ := info_parts info_func
 obtain ⟨v', w', r1, r2, r3, r4⟩ := run_appG (P := Tryz.prog) (w := w) B 24 ty 43 i0 _ 3 64 Tryz.underlying24 hi hz0 hz1 hz2 rfl (by decide) v Q.length (flatF Q) h.row (some ad) 1 c (cellsF q) (fun h => by cases h) rfl (fun a ha j x hx => by cases ha; exact hcell j x hx) (fun u hu => by
  simp only [cellsF, List.mem_cons, List.not_mem_nil, or_false] at hu
  rcases hu with rfl | rfl | rfl
  ·rfl
  ·exact hone.1
  ·exact hone.2) (by omega) (by decide) hB
 have hk : ∀ x ∈ Q ++ [q], FOk B w x ∧ ∀ g ∈ blk1 x, v.ownBlock ≠ some g := fun x hx => by
  rcases List.mem_append.1 hx with hx | hx
  ·exact ⟨h.each x hx, fun g hg e => h.out g e (blkF_in hx g hg)⟩
  ·simp only [List.mem_singleton] at hx
   subst hx
   exact ⟨hq, fun g hg => (hsep g hg).2⟩
 refine ⟨v', w', r1, ⟨?_, fun x hx => ?_, ?_, fun g hg hmem => ?_⟩, r3, r4⟩
 ·rw [List.length_append, flatF_append]
  have : flatF [q] = cellsF q := by simp [flatF]
  rw [this]
  exact r2
 ·obtain ⟨k1, k2⟩ := hk x hx
  exact k1.keep r3.size fun g hg => r3.block g (k1.rng g hg).2 (fun e => k2 g hg e.symm)
 ·rw [blkF_append, List.nodup_append]
  refine ⟨h.nd, by simpa [blkF] using hq.nd, fun x hx y hy e => ?_⟩
  subst e
  exact (hsep x (by simpa [blkF] using hy)).1 hx
 ·obtain ⟨x, hx, hg2⟩ := List.mem_flatMap.1 hmem
  obtain ⟨k1, k2⟩ := hk x hx
  rcases r4 g hg with hg' | hg'
  ·exact k2 g hg2 hg'
  ·have := (k1.rng g hg2).2
   omega
structure TreeOwn (B : Nat) (w : World) (vg vf : Value) (r : Tr) (Q : List FV) : Prop where
 gs : w.ownsRow B 74 2 vg r.globals.length (flatG r.globals)
 fs : FnRow B w vf Q
 map : Q.map (·.f) = r.funcs
 sep : ∀ g, vg.ownBlock = some g → g ∉ blkF Q ∧ vf.ownBlock ≠ some g
theorem TreeOwn.nil (B : Nat) (w : World) : TreeOwn B w (.slice none 0 0) (.slice none 0 0) ⟨[], []⟩ [] :=
 ⟨World.ownsRow_nil _ _ _ _, FnRow.nil _ _, rfl, fun g hg => by simp [Value.ownBlock] at hg⟩
theorem FOk.keepB {B : Nat} {w w' : World} {q : FV} (h : FOk B w q) (hs : w.heap.size ≤ w'.heap.size) (hk : ∀ g, B ≤ g → g < w.heap.size → w'.heap[g]? = w.heap[g]?) : FOk B w' q := h.keep hs (fun g hg => hk g (h.rng g hg).1 (h.rng g hg).2)
theorem FnRow.keepB {B : Nat} {w w' : World} {v : Value} {Q : List FV} (h : FnRow B w v Q) (hs : w.heap.size ≤ w'.heap.size) (hk : ∀ g, B ≤ g → g < w.heap.size → w'.heap[g]? = w.heap[g]?) : FnRow B w' v Q :=
 ⟨own_keep h.row fun g hg => hk g (World.ownsRow.lt h.row g hg).1 (World.ownsRow.lt h.row g hg).2, fun q hq => (h.each q hq).keepB hs hk, h.nd, h.out⟩
theorem FnRow.base {B B' : Nat} {w : World} {v : Value} {Q : List FV} (h : FnRow B w v Q) (hb : B' ≤ B) : FnRow B' w v Q :=
 ⟨own_base h.row hb, fun q hq => (h.each q hq).base hb, h.nd, h.out⟩
theorem box_fr2 (w : World) (x0 x1 : Value) (t : TypeId) : FrC (w.alloc (.cells #[x0, x1] t)) w.heap.size [x0, x1] := by
 intro j x hj
 have hh : (w.alloc (.cells #[x0, x1] t)).heap[w.heap.size]? = some (.cells #[x0, x1] t (0, 0)) := (MapKept.heap_alloc w _).1
 have hz : ∀ j, (w.alloc (.cells #[x0, x1] t)).frozen? ⟨w.heap.size, j, none⟩ = false := fun j => by
  unfold World.frozen?
  simp only [hh]
  simp
 have hl := (List.getElem?_eq_some_iff.1 hj).1
 simp only [List.length_cons, List.length_nil] at hl
 match j, hl with
 | 0, _ => exact ⟨by simp at hj ⊢; exact hj, hz _⟩
 | 1, _ => exact ⟨by simp at hj ⊢; exact hj, hz _⟩
theorem FrC.two {w : World} {g : Nat} {x0 x1 : Value} (h : FrC w g [x0, x1]) : w.cell? ⟨g, 0, none⟩ = some x0 ∧ w.cell? ⟨g, 1, none⟩ = some x1 ∧ w.frozen? ⟨g, 0, none⟩ = false ∧ w.frozen? ⟨g, 1, none⟩ = false :=
 ⟨(h 0 x0 rfl).1, (h 1 x1 rfl).1, (h 0 x0 rfl).2, (h 1 x1 rfl).2⟩
end
end Go.Proofs.YtlamjfhhefcohaaGreatDoor
