import Derived.Test.YtjhmgjimppflhaaGreatDoorY23
import Derived.Test.YtjhmgjimppflhaaGreatDoorY08
import Derived.Test.YtjhmgjimppflhaaGreatDoorY16
import Derived.Test.YtjhmgjimppflhaaGreatDoorY14
set_option linter.unusedSectionVars false
variable [Inhabited Go.Proofs.YtjhmgjimppflhaaGreatDoor.Pick]
namespace Go.Proofs.YtjhmgjimppflhaaGreatDoor
set_option linter.unusedVariables false
set_option linter.unusedSimpArgs false
set_option maxRecDepth 100000
set_option maxHeartbeats 16000000
section
open Go.RowKit
structure DRow (T : TypeId) (sz : Nat) (S : Nat → Prop) (B : Nat) (w : World) (v : Value) (n : Nat) (xs : List Value) (P : World → Prop) : Prop where
 row : w.ownsRow B T sz v n xs
 st : ∀ W, Tcs (fun k => S k ∨ v.ownBlock = some k) w W → P W
theorem own_tcs {T : TypeId} {sz B n : Nat} {S : Nat → Prop} {w w' : World} {v : Value} {xs : List Value} (h : w.ownsRow B T sz v n xs) (ht : Tcs S w w') (hS : ∀ k, S k → k < B) : w'.ownsRow B T sz v n xs := by
 obtain ⟨hx, h | ⟨g, cap, cur, rfl, h1, h2, h3⟩⟩ := h
 ·exact ⟨hx, .inl h⟩
 ·exact ⟨hx, .inr ⟨g, cap, cur, rfl, h1, (ht.block g (Array.getElem?_eq_some_iff.1 h2).1 (fun s => by have := hS g s; omega)).trans h2, h3⟩⟩
theorem own_low {w : World} {B B' size n : Nat} {e : TypeId} {v : Value} {xs : List Value} (h : w.ownsRow B e size v n xs) (hb : B' ≤ B) : w.ownsRow B' e size v n xs := by
 obtain ⟨hx, h | ⟨g, cap, cur, rfl, h1, h2, h3⟩⟩ := h
 ·exact ⟨hx, .inl h⟩
 ·exact ⟨hx, .inr ⟨g, cap, cur, rfl, Nat.le_trans hb h1, h2, h3⟩⟩
theorem own_shape {w : World} {B size n : Nat} {e : TypeId} {v : Value} {xs : List Value} (h : w.ownsRow B e size v n xs) : ∃ a c, v = .slice a n c ∧ (a = none → n = 0) ∧ (∀ ad, a = some ad → ∀ j x, xs[j]? = some x → w.cell? (ad.add j) = some x) := by
 have h0 := h
 rcases h.2 with ⟨rfl, hz⟩ | ⟨g, cap, cur, rfl, _⟩
 ·exact ⟨none, 0, by rw [hz], fun _ => hz, (fun ad h => by cases h)⟩
 ·exact ⟨_, cap, rfl, (fun h => by cases h), fun ad had j x hj => by cases had; exact World.ownsRow.cells h0 (g := g) rfl j x hj⟩
theorem DRow.tcs {T : TypeId} {sz B n : Nat} {S : Nat → Prop} {w w' : World} {v : Value} {xs : List Value} {P : World → Prop} (h : DRow T sz S B w v n xs P) (ht : Tcs S w w') (hS : ∀ k, S k → k < B) : DRow T sz S B w' v n xs P :=
 ⟨own_tcs h.row ht hS, fun W hW => h.st W ((ht.mono fun k hk => .inl hk).trans hW)⟩
theorem DRow.below {T : TypeId} {sz B n : Nat} {S : Nat → Prop} {w w' : World} {v : Value} {xs : List Value} {P : World → Prop} (h : DRow T sz S B w v n xs P) (hb : Below w.heap.size w w') : DRow T sz S B w' v n xs P :=
 ⟨ownB h.row hb, fun W hW => h.st W (hb.tcs.trans hW)⟩
theorem DRow.low {T : TypeId} {sz B B' n : Nat} {S : Nat → Prop} {w : World} {v : Value} {xs : List Value} {P : World → Prop} (h : DRow T sz S B w v n xs P) (hb : B' ≤ B) : DRow T sz S B' w v n xs P := ⟨own_low h.row hb, h.st⟩
theorem DRow.less {T : TypeId} {sz B n : Nat} {S S' : Nat → Prop} {w : World} {v : Value} {xs : List Value} {P : World → Prop} (h : DRow T sz S B w v n xs P) (hs : ∀ k, S' k → S k) : DRow T sz S' B w v n xs P :=
 ⟨h.row, fun W hW => h.st W (hW.mono fun k hk => hk.imp (hs k) id)⟩
theorem DRow.now {T : TypeId} {sz B n : Nat} {S : Nat → Prop} {w : World} {v : Value} {xs : List Value} {P : World → Prop} (h : DRow T sz S B w v n xs P) : P w := h.st w (Tcs.refl _ _)
theorem DRow.nil {T : TypeId} {sz B : Nat} {S : Nat → Prop} {w : World} {P : World → Prop} (h : ∀ W, P W) : DRow T sz S B w (.slice none 0 0) 0 [] P := ⟨World.ownsRow_nil _ _ _ _, fun W _ => h W⟩
theorem drow_app {Pg : Program} {w : World} {T t : TypeId} {sz bytes B n m c : Nat} {S : Nat → Prop} {v z : Value} {i : TypeInfo} {xs us : List Value} {P P2 : World → Prop} (ty : TypeId)
  (ht : Pg.underlying t = some (.slice T)) (hi : Pg.info? T = some i) (hz : i.zero = some z) (hsize : i.size = sz) (hby : i.bytes = bytes) (hzs : z.cells.size = sz) (hsz : 0 < sz)
  (h : DRow T sz S B w v n xs P) (a : Option Addr) (hn : a = none → m = 0) (hl : us.length = m * sz) (hc : ∀ ad, a = some ad → ∀ j u, us[j]? = some u → w.cell? (ad.add j) = some u) (h1 : ∀ u ∈ us, u.oneCell' = true)
  (hP2 : ∀ W, Tcs (fun k => S k ∨ v.ownBlock = some k) w W → P2 W) (hm : n + m ≤ 10000000) (hbb : bytes ≤ 1000) (hB : B ≤ w.heap.size) :
  ∃ v' w', (Builtin.append_ #[t, t] ty #[v, .slice a m c]).run Pg w = .ok v' w' ∧ DRow T sz S B w' v' (n + m) (xs ++ us) (fun W => P W ∧ P2 W) ∧ Tcs (fun k => v.ownBlock = some k) w w' ∧ ∀ k, v'.ownBlock = some k → v.ownBlock = some k ∨ w.heap.size ≤ k := by
 obtain ⟨v', w', r1, r2, r3, r4⟩ := run_appG (P := Pg) (w := w) B t ty T i z sz bytes ht hi hz hsize hby hzs hsz v n xs h.row a m c us hn hl hc h1 hm hbb hB
 have hT : Tcs (fun k => v.ownBlock = some k) w w' := Tcs.of_grown r3 (fun k hk => hk)
 refine ⟨v', w', r1, ⟨r2, fun W hW => ?_⟩, hT, r4⟩
 have : Tcs (fun k => S k ∨ v.ownBlock = some k) w W := by
  refine (hT.mono fun k hk => .inr hk).next hW fun x hx => ?_
  rcases hx with hx | hx
  ·exact .inl (.inl hx)
  ·rcases r4 x hx with h | h
   ·exact .inl (.inr h)
   ·exact .inr h
 exact ⟨h.st W this, hP2 W this⟩
theorem Dr.refl {g : Nat} {a : Option Addr} {len cap : Nat} {S : Nat → Prop} {w : World} (h : Cur g a len cap w) : Dr g a len cap S w w := ⟨h, Tcs.refl _ _⟩
theorem Dr.trans {g : Nat} {a : Option Addr} {len cap : Nat} {S : Nat → Prop} {w w1 w2 : World} (h : Dr g a len cap S w w1) (h' : Dr g a len cap S w1 w2) : Dr g a len cap S w w2 := ⟨h'.cur, h.tcs.trans h'.tcs⟩
theorem Dr.below {g : Nat} {a : Option Addr} {len cap : Nat} {S : Nat → Prop} {w w1 w2 : World} (h : Dr g a len cap S w w1) (h' : Below w1.heap.size w1 w2) : Dr g a len cap S w w2 := ⟨h.cur.below h', h.tcs.of_below h'⟩
theorem Dr.new {g : Nat} {a : Option Addr} {len cap : Nat} {S T : Nat → Prop} {w w1 w2 : World} (h : Dr g a len cap S w w1) (hL : Lo g a len S w.heap.size) (ht : Tcs T w1 w2) (hT : ∀ k, T k → w.heap.size ≤ k) : Dr g a len cap S w w2 :=
 ⟨h.cur.new hL ht hT, h.tcs.next ht fun x hx => .inr (hT x hx)⟩
theorem Dr.alloc {g : Nat} {a : Option Addr} {len cap : Nat} {S : Nat → Prop} {w w1 : World} (h : Dr g a len cap S w w1) (o : Obj) : Dr g a len cap S w (w1.alloc o) := h.below ((Below.refl _ _).alloc (Nat.le_refl _) o)
theorem nrow_fz {S : Nat → Prop} {B : Nat} {w : World} {v : Value} {e : List Nd} (h : NRow B w v e) (hS : ∀ k, S k → k < B) : ∀ W, Tcs S w W → Nodes W v e := fun W hW => NRow.nodes (B := B) (own_tcs h hW hS)
theorem own_strs {w : World} {B : Nat} {v : Value} {ps : List ByteArray} (h : w.ownsRow B 9 1 v ps.length (ps.map Value.string)) : Strs w v ps := by
 have h0 := h
 rcases h.2 with ⟨rfl, hz⟩ | ⟨g, cap, cur, rfl, h3, h4, h5⟩
 ·exact ⟨none, 0, by rw [hz], by rw [hz]; exact Nat.le_refl _, by omega, fun hp => absurd hp (by omega)⟩
 ·obtain ⟨q1, q2, -⟩ := h5
  unfold maxLen at q2
  refine ⟨_, cap, rfl, q1, q2, fun _ => ⟨g, 0, rfl, fun j hj => ?_⟩⟩
  have := World.ownsRow.cells h0 (g := g) rfl j (.string ps[j]) (by simp [List.getElem?_eq_getElem hj])
  rwa [addrO] at this
end
end Go.Proofs.YtjhmgjimppflhaaGreatDoor
