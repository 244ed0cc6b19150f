import Derived.Lib.ConvBytes
import Derived.RegionTactic
import Derived.OwnWalk
import Derived.Laws.OwnMore
import Derived.Test.YtjhmgjimppflhaaGreatDoorZ14
import Derived.WalkKit
import Derived.WalkSpells
import Derived.ProofKit
import Derived.Test.YtjhmgjimppflhaaGreatDoorRows
import Derived.Deep.RegionHeld
import Derived.Lib.ItoaNum
import Derived.Maps.OwnSet
import Derived.Lib.SlKeysI
namespace Go.Proofs.YtjhmgjimppflhaaGreatDoor
set_option linter.unusedVariables false
set_option linter.unusedSimpArgs false
set_option maxRecDepth 100000
set_option maxHeartbeats 16000000
section
open Go.RowKit
/-- A slice of numbers. -/
def Ints (w : World) (v : Value) (l : List Int) : Prop := ∃ a cap, v = .slice a l.length cap ∧ (0 < l.length → ∃ b, a = some ⟨b, 0, none⟩ ∧ ∀ j (h : j < l.length), w.cell? ⟨b, j, none⟩ = some (.int .i64 l[j]))
theorem Ints.below {w w' : World} {v : Value} {l : List Int} (h : Ints w v l) (hb : Below w.heap.size w w') : Ints w' v l := by
  obtain ⟨a, cap, rfl, h⟩ := h
  refine ⟨a, cap, rfl, fun h0 => ?_⟩
  obtain ⟨b, rfl, hc⟩ := h h0
  exact ⟨b, rfl, fun j hj => (hb.cell (p := ⟨b, j, none⟩) (World.block_lt_of_cell? _ _ (hc j hj))).trans (hc j hj)⟩
theorem own_ints {w : World} {N : Nat} {v : Value} {l : List Int} (h : w.ownsRow N 2 1 v l.length (l.map (Value.int .i64))) : Ints w v l := by
  have h0 := h
  obtain ⟨hl, h⟩ := h
  rcases h with ⟨rfl, hz⟩ | ⟨g, cap, cur, rfl, hg, hh, hc1, hc2, hc3, hc4⟩
  · exact ⟨none, 0, by rw [hz], fun h => absurd h (by omega)⟩
  · refine ⟨_, cap, rfl, fun _ => ⟨g, rfl, fun j hj => ?_⟩⟩
    have := h0.cells (g := g) rfl j (.int .i64 l[j]) (by simp [hj])
    have e : (⟨g, 0, none⟩ : Addr).add j = ⟨g, j, none⟩ := by simp only [Addr.add]; split <;> simp_all
    rw [e] at this
    exact this
theorem ownb_keep {w w' : World} {N : Nat} {v : Value} {n : Nat} {xs : List Value} (h : w.ownsRow N 2 1 v n xs) (hb : ∀ g, N ≤ g → g < w.heap.size → w'.heap[g]? = w.heap[g]?) : w'.ownsRow N 2 1 v n xs := by
  obtain ⟨g1, g2⟩ := h
  refine ⟨g1, ?_⟩
  rcases g2 with g2 | ⟨g, cap, cur, rfl, g3, g4, g5⟩
  · exact .inl g2
  · refine .inr ⟨g, cap, cur, rfl, g3, ?_, g5⟩
    rw [hb g g3 (Array.getElem?_eq_some_iff.1 g4).1]
    exact g4
theorem ownb_below {w w' : World} {N : Nat} {v : Value} {n : Nat} {xs : List Value} (h : w.ownsRow N 2 1 v n xs) (hb : Below w.heap.size w w') : w'.ownsRow N 2 1 v n xs := ownb_keep h fun g _ hg => hb.block g hg
end
section
open Go.RowKit
/-- A row of one's own; what its values point to says P in every world where only S and the row have turned. -/
structure DRow (T : TypeId) (sz : Nat) (S : Nat → Prop) (B : Nat) (w : World) (v : Value) (n : Nat) (xs : List Value) (P : World → Prop) : Prop where
  row : w.ownsRow B T sz v n xs
  st : ∀ W, Tcs (fun k => S k ∨ v.ownBlock = some k) w W → P W
theorem own_tcs {T : TypeId} {sz B n : Nat} {S : Nat → Prop} {w w' : World} {v : Value} {xs : List Value} (h : w.ownsRow B T sz v n xs) (ht : Tcs S w w') (hS : ∀ k, S k → k < B) : w'.ownsRow B T sz v n xs := by
  obtain ⟨hx, h | ⟨g, cap, cur, rfl, h1, h2, h3⟩⟩ := h
  · exact ⟨hx, .inl h⟩
  · exact ⟨hx, .inr ⟨g, cap, cur, rfl, h1, (ht.block g (Array.getElem?_eq_some_iff.1 h2).1 (fun s => by have := hS g s; omega)).trans h2, h3⟩⟩
theorem own_low {w : World} {B B' size n : Nat} {e : TypeId} {v : Value} {xs : List Value} (h : w.ownsRow B e size v n xs) (hb : B' ≤ B) : w.ownsRow B' e size v n xs := by
  obtain ⟨hx, h | ⟨g, cap, cur, rfl, h1, h2, h3⟩⟩ := h
  · exact ⟨hx, .inl h⟩
  · exact ⟨hx, .inr ⟨g, cap, cur, rfl, Nat.le_trans hb h1, h2, h3⟩⟩
theorem own_shape {w : World} {B size n : Nat} {e : TypeId} {v : Value} {xs : List Value} (h : w.ownsRow B e size v n xs) : ∃ a c, v = .slice a n c ∧ (a = none → n = 0) ∧ (∀ ad, a = some ad → ∀ j x, xs[j]? = some x → w.cell? (ad.add j) = some x) := by
  have h0 := h
  rcases h.2 with ⟨rfl, hz⟩ | ⟨g, cap, cur, rfl, _⟩
  · exact ⟨none, 0, by rw [hz], fun _ => hz, (fun ad h => by cases h)⟩
  · exact ⟨_, cap, rfl, (fun h => by cases h), fun ad had j x hj => by cases had; exact World.ownsRow.cells h0 (g := g) rfl j x hj⟩
theorem DRow.tcs {T : TypeId} {sz B n : Nat} {S : Nat → Prop} {w w' : World} {v : Value} {xs : List Value} {P : World → Prop} (h : DRow T sz S B w v n xs P) (ht : Tcs S w w') (hS : ∀ k, S k → k < B) : DRow T sz S B w' v n xs P :=
  ⟨own_tcs h.row ht hS, fun W hW => h.st W ((ht.mono fun k hk => .inl hk).trans hW)⟩
theorem DRow.below {T : TypeId} {sz B n : Nat} {S : Nat → Prop} {w w' : World} {v : Value} {xs : List Value} {P : World → Prop} (h : DRow T sz S B w v n xs P) (hb : Below w.heap.size w w') : DRow T sz S B w' v n xs P :=
  ⟨ownB h.row hb, fun W hW => h.st W (hb.tcs.trans hW)⟩
theorem DRow.low {T : TypeId} {sz B B' n : Nat} {S : Nat → Prop} {w : World} {v : Value} {xs : List Value} {P : World → Prop} (h : DRow T sz S B w v n xs P) (hb : B' ≤ B) : DRow T sz S B' w v n xs P := ⟨own_low h.row hb, h.st⟩
theorem DRow.less {T : TypeId} {sz B n : Nat} {S S' : Nat → Prop} {w : World} {v : Value} {xs : List Value} {P : World → Prop} (h : DRow T sz S B w v n xs P) (hs : ∀ k, S' k → S k) : DRow T sz S' B w v n xs P :=
  ⟨h.row, fun W hW => h.st W (hW.mono fun k hk => hk.imp (hs k) id)⟩
theorem DRow.now {T : TypeId} {sz B n : Nat} {S : Nat → Prop} {w : World} {v : Value} {xs : List Value} {P : World → Prop} (h : DRow T sz S B w v n xs P) : P w := h.st w (Tcs.refl _ _)
theorem DRow.nil {T : TypeId} {sz B : Nat} {S : Nat → Prop} {w : World} {P : World → Prop} (h : ∀ W, P W) : DRow T sz S B w (.slice none 0 0) 0 [] P := ⟨World.ownsRow_nil _ _ _ _, fun W _ => h W⟩
/-- append of a slice to such a row. -/
theorem drow_app {Pg : Program} {w : World} {T t : TypeId} {sz bytes B n m c : Nat} {S : Nat → Prop} {v z : Value} {i : TypeInfo} {xs us : List Value} {P P2 : World → Prop} (ty : TypeId)
    (ht : Pg.underlying t = some (.slice T)) (hi : Pg.info? T = some i) (hz : i.zero = some z) (hsize : i.size = sz) (hby : i.bytes = bytes) (hzs : z.cells.size = sz) (hsz : 0 < sz)
    (h : DRow T sz S B w v n xs P) (a : Option Addr) (hn : a = none → m = 0) (hl : us.length = m * sz) (hc : ∀ ad, a = some ad → ∀ j u, us[j]? = some u → w.cell? (ad.add j) = some u) (h1 : ∀ u ∈ us, u.oneCell' = true)
    (hP2 : ∀ W, Tcs (fun k => S k ∨ v.ownBlock = some k) w W → P2 W) (hm : n + m ≤ 10000000) (hbb : bytes ≤ 1000) (hB : B ≤ w.heap.size) :
    ∃ v' w', (Builtin.append_ #[t, t] ty #[v, .slice a m c]).run Pg w = .ok v' w' ∧ DRow T sz S B w' v' (n + m) (xs ++ us) (fun W => P W ∧ P2 W) ∧ Tcs (fun k => v.ownBlock = some k) w w' ∧ ∀ k, v'.ownBlock = some k → v.ownBlock = some k ∨ w.heap.size ≤ k := by
  obtain ⟨v', w', r1, r2, r3, r4⟩ := run_appG (P := Pg) (w := w) B t ty T i z sz bytes ht hi hz hsize hby hzs hsz v n xs h.row a m c us hn hl hc h1 hm hbb hB
  have hT : Tcs (fun k => v.ownBlock = some k) w w' := Tcs.of_grown r3 (fun k hk => hk)
  refine ⟨v', w', r1, ⟨r2, fun W hW => ?_⟩, hT, r4⟩
  have : Tcs (fun k => S k ∨ v.ownBlock = some k) w W := by
    refine (hT.mono fun k hk => .inr hk).next hW fun x hx => ?_
    rcases hx with hx | hx
    · exact .inl (.inl hx)
    · rcases r4 x hx with h | h
      · exact .inl (.inr h)
      · exact .inr h
  exact ⟨h.st W this, hP2 W this⟩
theorem Dr.refl {g : Nat} {a : Option Addr} {len cap : Nat} {S : Nat → Prop} {w : World} (h : Cur g a len cap w) : Dr g a len cap S w w := ⟨h, Tcs.refl _ _⟩
theorem Dr.trans {g : Nat} {a : Option Addr} {len cap : Nat} {S : Nat → Prop} {w w1 w2 : World} (h : Dr g a len cap S w w1) (h' : Dr g a len cap S w1 w2) : Dr g a len cap S w w2 := ⟨h'.cur, h.tcs.trans h'.tcs⟩
theorem Dr.below {g : Nat} {a : Option Addr} {len cap : Nat} {S : Nat → Prop} {w w1 w2 : World} (h : Dr g a len cap S w w1) (h' : Below w1.heap.size w1 w2) : Dr g a len cap S w w2 := ⟨h.cur.below h', h.tcs.of_below h'⟩
/-- Behind a draw, a turn in blocks new since it began. -/
theorem Dr.new {g : Nat} {a : Option Addr} {len cap : Nat} {S T : Nat → Prop} {w w1 w2 : World} (h : Dr g a len cap S w w1) (hL : Lo g a len S w.heap.size) (ht : Tcs T w1 w2) (hT : ∀ k, T k → w.heap.size ≤ k) : Dr g a len cap S w w2 :=
  ⟨h.cur.new hL ht hT, h.tcs.next ht fun x hx => .inr (hT x hx)⟩
theorem Dr.alloc {g : Nat} {a : Option Addr} {len cap : Nat} {S : Nat → Prop} {w w1 : World} (h : Dr g a len cap S w w1) (o : Obj) : Dr g a len cap S w (w1.alloc o) := h.below ((Below.refl _ _).alloc (Nat.le_refl _) o)
/-- A row of nodes is read in every world where only blocks below it have turned. -/
theorem nrow_fz {S : Nat → Prop} {B : Nat} {w : World} {v : Value} {e : List Nd} (h : NRow B w v e) (hS : ∀ k, S k → k < B) : ∀ W, Tcs S w W → Nodes W v e := fun W hW => NRow.nodes (B := B) (own_tcs h hW hS)
/-- Texts, read off a row. -/
theorem own_strs {w : World} {B : Nat} {v : Value} {ps : List ByteArray} (h : w.ownsRow B 9 1 v ps.length (ps.map Value.string)) : Strs w v ps := by
  have h0 := h
  rcases h.2 with ⟨rfl, hz⟩ | ⟨g, cap, cur, rfl, h3, h4, h5⟩
  · exact ⟨none, 0, by rw [hz], by rw [hz]; exact Nat.le_refl _, by omega, fun hp => absurd hp (by omega)⟩
  · obtain ⟨q1, q2, -⟩ := h5
    unfold maxLen at q2
    refine ⟨_, cap, rfl, q1, q2, fun _ => ⟨g, 0, rfl, fun j hj => ?_⟩⟩
    have := World.ownsRow.cells h0 (g := g) rfl j (.string ps[j]) (by simp [List.getElem?_eq_getElem hj])
    rwa [addrO] at this
end
section
open Go.RowKit
theorem ret_str {a b : ByteArray} (h : a = b) : Ending.returned (.string a) = .returned (.string b) := by rw [h]
def dig (m : Nat) : UInt8 := UInt8.ofNat (48 + m % 10)
theorem dig_toNat (m : Nat) : (dig m).toNat = 48 + m % 10 := by
  unfold dig
  simp only [UInt8.toNat_ofNat']
  omega
/-- A text out of its bytes. -/
def tx (l : List UInt8) : ByteArray := ⟨l.toArray⟩
theorem tx_size (l : List UInt8) : (tx l).size = l.length := by simp [tx, ByteArray.size]
theorem tx_append (a b : List UInt8) : tx a ++ tx b = tx (a ++ b) := by
  apply ByteArray.ext
  simp [tx]
theorem tx_back (s : ByteArray) : tx s.data.toList = s := by
  apply ByteArray.ext
  simp [tx]
theorem tx_len (s : ByteArray) : s.data.toList.length = s.size := Array.length_toList
end
section
open Go.RowKit
theorem conv2 (m : Nat) (W : World) (b : Nat) (h : W.cell? ⟨b, 0, none⟩ = some (.int .u8 (48 + (m : Int) % 10))) : (convert 22 9 (.slice (some ⟨b, 0, none⟩) 1 1)).run Tryz.prog W = .ok (.string ⟨#[dig m]⟩) W := by
  refine run_convert_bytes_back (P := Tryz.prog) W 22 9 5 ⟨b, 0, none⟩ 1 [dig m] Tryz.underlying22 Tryz.underlying5 Tryz.underlying9 (fun j hj => ?_)
  obtain rfl : j = 0 := by simpa using hj
  have e : (((dig m).toNat : Nat) : Int) = 48 + (m : Int) % 10 := by rw [dig_toNat]; omega
  simp [Addr.add, e, h]
theorem dec_len (N : Nat) : ∀ u, u ≤ N → (Lib.decDigits u).length ≤ u + 1 := by
  induction N with
  | zero =>
    intro u h
    rw [Lib.decDigits, dif_pos (by omega)]
    simp
  | succ n ih =>
    intro u h
    rw [Lib.decDigits]
    split
    · simp
    · have := ih (u / 10) (by omega)
      simp only [List.length_append, List.length_cons, List.length_nil]
      omega
set_option maxRecDepth 100000 in
set_option maxHeartbeats 600000 in
theorem digN_any (N : Nat) : ∀ u, u ≤ N → (u : Int) ≤ 2147483648 → ∀ w : World, Calls Tryz.prog 44 #[.int .i64 u] w fun e w' => e = .returned (.string (tx (Lib.decDigits u))) ∧ Below w.heap.size w w' := by
  induction N with
  | zero =>
    intro u hu hb w
    obtain rfl : u = 0 := by omega
    have hcv := conv2 0 (w.alloc (.cells #[.int .u8 48] 5)) w.heap.size (by simp)
    go_enter Tryz.func44, Tryz.ntmps44
    go_wp2_with fail
    go_ret
    exact ⟨ret_str (by rw [Lib.decDigits]; simp [tx, dig]), (Below.refl _ _).alloc (Nat.le_refl _) _⟩
  | succ n ih =>
    intro u hu hb w
    have HI : Hid (∀ u, u ≤ n → (u : Int) ≤ 2147483648 → ∀ w : World, Calls Tryz.prog 44 #[.int .i64 u] w fun e w' => e = .returned (.string (tx (Lib.decDigits u))) ∧ Below w.heap.size w w') := ih
    clear ih
    by_cases h10 : u < 10
    · have hcv := conv2 u (w.alloc (.cells #[.int .u8 (48 + (u : Int))] 5)) w.heap.size (by simp; omega)
      have HD : Hid (Lib.decDigits u = [dig u]) := by
        show _ = _
        rw [Lib.decDigits, dif_pos h10, dig, Nat.mod_eq_of_lt h10]
      go_enter Tryz.func44, Tryz.ntmps44
      go_wp2_with fail
      go_ret
      exact ⟨ret_str (by rw [HD.out]; rfl), (Below.refl _ _).alloc (Nat.le_refl _) _⟩
    · have HD : Hid (Lib.decDigits u = Lib.decDigits (u / 10) ++ [dig u]) := by
        show _ = _
        rw [Lib.decDigits, dif_neg h10]
        rfl
      have hI : ∀ w : World, Calls Tryz.prog 44 #[.int .i64 ((u : Int) / 10)] w fun e w' => e = .returned (.string (tx (Lib.decDigits (u / 10)))) ∧ Below w.heap.size w w' := by
        have e1 : (u : Int) / 10 = ((u / 10 : Nat) : Int) := by omega
        rw [e1]
        exact HI.out (u / 10) (by omega) (by omega)
      have HI2 : Hid _ := hI
      clear hI
      have hsz : ((tx (Lib.decDigits (u / 10))).size : Int) ≤ 1000000000 := by
        rw [tx_size]
        have := dec_len (u / 10) (u / 10) (Nat.le_refl _)
        omega
      have hE : tx (Lib.decDigits (u / 10)) ++ (⟨#[dig u]⟩ : ByteArray) = tx (Lib.decDigits (u / 10) ++ [dig u]) := tx_append _ [dig u]
      have HE : Hid _ := hE
      clear hE
      generalize hA : tx (Lib.decDigits (u / 10)) = A at *
      have hcv := conv2 u
      have h1c : (⟨#[dig u]⟩ : ByteArray).size = 1 := rfl
      have ht : (u : Int).tmod 10 = (u : Int) % 10 := Int.tmod_eq_emod_of_nonneg (by omega)
      have hw1 : IntKind.i64.wrap ((u : Int) / 10) = (u : Int) / 10 := by simp [IntKind.wrap, IntKind.bits, IntKind.signed]; omega
      have hw2 : IntKind.i64.wrap ((u : Int) % 10) = (u : Int) % 10 := by simp [IntKind.wrap, IntKind.bits, IntKind.signed]; omega
      have hw3 : IntKind.i64.wrap (48 + (u : Int) % 10) = 48 + (u : Int) % 10 := by simp [IntKind.wrap, IntKind.bits, IntKind.signed]; omega
      have hw4 : IntKind.u8.wrap (48 + (u : Int) % 10) = 48 + (u : Int) % 10 := by simp [IntKind.wrap, IntKind.bits, IntKind.signed]; omega
      go_enter Tryz.func44, Tryz.ntmps44
      go_wp2_with fail
      go_region_held (fun _ => True) (exact trivial)
        (first
        | (with_reducible refine Calls.mono (HI2.out _) ?_; rintro e w2 ⟨rfl, hb2⟩; simp only [World.size_drew, World.size_alloc] at hb2; have q2 := fun h => hb2.cell (p := ⟨w.heap.size, 0, none⟩) h))
      all_goals go_wp2_with fail
      all_goals go_ret
      all_goals refine ⟨ret_str (by rw [HE.out, HD.out]), ?_⟩
      · exact ((Below.refl _ _).drew.trans hb2).alloc hb2.size _
      · exact ((Below.refl _ _).drew.alloc (by simp) _).trans (hb2.mono (by omega))
      · exact ((Below.refl _ _).drew.alloc (by simp) _).trans (hb2.mono (by omega))
end
section
open Go.RowKit
/-- What a generator knows. -/
structure Gn where
  vc : Value
  vp : Value
  vs : Value
  vl : Value
  m : Int
  cs : List ByteArray
  ps : List Int
  ss : List ByteArray
  ls : List ByteArray
/-- The generator as a value, in a world where only S turns; K is what its lists and its number keep to. -/
structure GnOk (S : Nat → Prop) (w : World) (G : Gn) (K : Nat) : Prop where
  c : ∀ W, Tcs S w W → Strs W G.vc G.cs
  p : ∀ W, Tcs S w W → Ints W G.vp G.ps
  s : ∀ W, Tcs S w W → Strs W G.vs G.ss
  l : ∀ W, Tcs S w W → Strs W G.vl G.ls
  cp : G.ps.length = G.cs.length
  c4 : G.cs.length ≤ 10
  pb : ∀ x ∈ G.ps, 0 ≤ x ∧ x ≤ 6
  ns : (∀ x ∈ G.cs, x.size ≤ 100000) ∧ (∀ x ∈ G.ss, x.size ≤ 100000) ∧ ∀ x ∈ G.ls, x.size ≤ 100000
  sl : G.ss.length ≤ K
  ll : G.ls.length ≤ K
  mb : 0 ≤ G.m ∧ G.m ≤ K
theorem GnOk.tcs {S : Nat → Prop} {w w' : World} {G : Gn} {K : Nat} (h : GnOk S w G K) (ht : Tcs S w w') : GnOk S w' G K :=
  ⟨fun W hW => h.c W (ht.trans hW), fun W hW => h.p W (ht.trans hW), fun W hW => h.s W (ht.trans hW), fun W hW => h.l W (ht.trans hW), h.cp, h.c4, h.pb, h.ns, h.sl, h.ll, h.mb⟩
theorem GnOk.more {S : Nat → Prop} {w : World} {G : Gn} {K K' : Nat} (h : GnOk S w G K) (hk : K ≤ K') : GnOk S w G K' :=
  ⟨h.c, h.p, h.s, h.l, h.cp, h.c4, h.pb, h.ns, by have := h.sl; omega, by have := h.ll; omega, by have := h.mb; omega⟩
theorem GnOk.less {S S' : Nat → Prop} {w : World} {G : Gn} {K : Nat} (h : GnOk S w G K) (hs : ∀ k, S' k → S k) : GnOk S' w G K :=
  ⟨fun W hW => h.c W (hW.mono hs), fun W hW => h.p W (hW.mono hs), fun W hW => h.s W (hW.mono hs), fun W hW => h.l W (hW.mono hs), h.cp, h.c4, h.pb, h.ns, h.sl, h.ll, h.mb⟩
theorem GnOk.below {S : Nat → Prop} {w w' : World} {G : Gn} {K : Nat} (h : GnOk S w G K) (hb : Below w.heap.size w w') : GnOk S w' G K := h.tcs hb.tcs
/-- Nodes of at most L, with names that can be told. -/
def okN (e : List Nd) (L : Nat) : Prop := e.length ≤ L ∧ ∀ n ∈ e, n.name.size ≤ 100000
theorem okN.more {e : List Nd} {L L' : Nat} (h : okN e L) (hl : L ≤ L') : okN e L' := ⟨Nat.le_trans h.1 hl, h.2⟩
theorem okN.app {a b : List Nd} {L L' : Nat} (h : okN a L) (h' : okN b L') : okN (a ++ b) (L + L') := by
  refine ⟨by rw [List.length_append]; exact Nat.add_le_add h.1 h'.1, fun n hn => ?_⟩
  rcases List.mem_append.1 hn with hn | hn
  · exact h.2 n hn
  · exact h'.2 n hn
theorem okN.one {k v : Int} {s : ByteArray} (h : s.size ≤ 100000) : okN [⟨k, v, s⟩] 1 := ⟨Nat.le_refl _, fun n hn => by simp at hn; subst hn; exact h⟩
theorem okN.nil : okN [] 0 := ⟨Nat.le_refl _, fun n hn => by cases hn⟩
/-- A row of one node, just made. -/
theorem nrow_lit (w : World) (B : Nat) (hB : B ≤ w.heap.size) (k v : Int) (s : ByteArray) : NRow B (w.alloc (.cells #[.int .i64 k, .int .i64 v, .string s] 91)) (.slice (some ⟨w.heap.size, 0, none⟩) 1 1) [⟨k, v, s⟩] :=
  World.ownsRow_lit w #[.int .i64 k, .int .i64 v, .string s] 1 hB (by decide) rfl
theorem nrow_nil (w : World) (B : Nat) (hB : B ≤ w.heap.size) : NRow B (w.alloc (.cells #[] 91)) (.slice (some ⟨w.heap.size, 0, none⟩) 0 0) [] :=
  World.ownsRow_lit w #[] 0 hB (by decide) rfl
/-- l2Pick. -/
theorem strs_at {w : World} {v : Value} {ps : List ByteArray} (h : Strs w v ps) (i : Nat) (hi : i < ps.length) : ∃ b off c, v = .slice (some ⟨b, off, none⟩) ps.length c ∧ w.cell? ⟨b, off + i, none⟩ = some (.string ps[i]) := by
  obtain ⟨a, c, rfl, -, -, h⟩ := h
  obtain ⟨b, off, rfl, hc⟩ := h (by omega)
  exact ⟨b, off, c, rfl, hc i hi⟩
/-- How many statements, or names, a statement of this depth makes at most. -/
def dpt : Nat → Nat
  | 0 => 1
  | d + 1 => 4 * dpt d + 3
/-- How many nodes an expression of this depth has at most. -/
def xpt : Nat → Nat
  | 0 => 1
  | d + 1 => 6 * xpt d + 3
end
section
open Go.Maps
/-- The number of the first function of a name. -/
def fnum (fs : List Fu) (s : ByteArray) : Option Nat := fs.findIdx? (fun f => decide (f.name = s))
theorem fnum_snoc (fs : List Fu) (f : Fu) (s : ByteArray) : fnum (fs ++ [f]) s = (fnum fs s).or (if f.name = s then some fs.length else none) := by
  unfold fnum
  rw [List.findIdx?_append]
  by_cases h : f.name = s
  · simp [List.findIdx?_cons, h]
  · simp [List.findIdx?_cons, h]
theorem fnum_at {fs : List Fu} {s : ByteArray} {k : Nat} (hk : k < fs.length) (h : ∀ j (hj : j < k), fs[j].name ≠ s) (hs : fs[k].name = s) : fnum fs s = some k := by
  unfold fnum
  rw [List.findIdx?_eq_some_iff_getElem]
  exact ⟨hk, by simpa using hs, fun j hj => by simpa using h j hj⟩
theorem fnum_no {fs : List Fu} {s : ByteArray} (h : ∀ j (hj : j < fs.length), fs[j].name ≠ s) : fnum fs s = none := by
  unfold fnum
  rw [List.findIdx?_eq_none_iff]
  intro f hf
  obtain ⟨j, hj, rfl⟩ := List.getElem_of_mem hf
  simpa using h j hj
theorem fnum_lt {fs : List Fu} {s : ByteArray} {i : Nat} (h : fnum fs s = some i) : i < fs.length := by
  unfold fnum at h
  rw [List.findIdx?_eq_some_iff_getElem] at h
  exact h.1
def callN (fs : List Fu) (ns : List Nd) : List Nat := ns.filterMap (fun n => if n.kind = 4 then fnum fs n.name else none)
def nodesOf (ss : List St) : List Nd := ss.flatMap (fun s => s.e ++ s.f)
/-- What a function with this body calls. -/
def callsL (fs : List Fu) (ss : List St) : List Nat := (List.range fs.length).filter (fun g => decide (g ∈ callN fs (nodesOf ss)))
theorem callN_snoc_no {fs : List Fu} {ns : List Nd} {n : Nd} (h : n.kind = 4 → fnum fs n.name = none) : callN fs (ns ++ [n]) = callN fs ns := by
  unfold callN
  rw [List.filterMap_append]
  by_cases h4 : n.kind = 4
  · simp [h4, h h4]
  · simp [h4]
theorem callN_snoc_yes {fs : List Fu} {ns : List Nd} {n : Nd} {g : Nat} (h : n.kind = 4) (hg : fnum fs n.name = some g) : callN fs (ns ++ [n]) = callN fs ns ++ [g] := by
  unfold callN
  rw [List.filterMap_append]
  simp [h, hg]
theorem callN_lt {fs : List Fu} {ns : List Nd} {g : Nat} (h : g ∈ callN fs ns) : g < fs.length := by
  unfold callN at h
  obtain ⟨n, _, hn⟩ := List.mem_filterMap.1 h
  split at hn
  · exact fnum_lt hn
  · cases hn
theorem callN_len (fs : List Fu) (ns : List Nd) : (callN fs ns).length ≤ ns.length := List.length_filterMap_le _ _
theorem nodesOf_snoc (ss : List St) (s : St) : nodesOf (ss ++ [s]) = nodesOf ss ++ (s.e ++ s.f) := by simp [nodesOf]
theorem callsL_len (fs : List Fu) (ss : List St) : (callsL fs ss).length ≤ fs.length := by
  have := List.length_filter_le (fun g => decide (g ∈ callN fs (nodesOf ss))) (List.range fs.length)
  simpa [callsL] using this
/-- A map's key that is a text. -/
abbrev kS (s : ByteArray) : Lit := .string s.data.toList
theorem kS_ne {s t : ByteArray} (h : s ≠ t) : kS s ≠ kS t := by
  intro e
  injection e with e
  exact h (by cases s; cases t; simp only at e; congr 1; exact Array.ext' e)
/-- The map of the functions' numbers. -/
structure NumIs (D : DataW Unit) (fs : List Fu) : Prop where
  map : IsMap D
  has : ∀ s, Maps.has D (kS s) = (fnum fs s).isSome
  val : ∀ s i, fnum fs s = some i → D.atKey (kS s) (.lit (.int .i64 0)) = .lit (.int .i64 (i : Int))
theorem NumIs.nil : NumIs (.map []) [] := ⟨isMap_empty, fun s => rfl, fun s i h => by simp [fnum] at h⟩
theorem NumIs.old {D : DataW Unit} {fs : List Fu} (h : NumIs D fs) {f : Fu} (hh : Maps.has D (kS f.name) = true) : NumIs D (fs ++ [f]) := by
  rw [h.has] at hh
  have key : ∀ s, fnum (fs ++ [f]) s = fnum fs s := fun s => by
    rw [fnum_snoc]
    cases e : fnum fs s with
    | some i => rfl
    | none =>
      by_cases hs : f.name = s
      · rw [← hs] at e; rw [e] at hh; cases hh
      · simp [hs]
  exact ⟨h.map, fun s => by rw [key]; exact h.has s, fun s i hi => by rw [key] at hi; exact h.val s i hi⟩
theorem NumIs.new {D : DataW Unit} {fs : List Fu} (h : NumIs D fs) {f : Fu} (hh : Maps.has D (kS f.name) = false) : NumIs (D.put (kS f.name) (.lit (.int .i64 (fs.length : Int)))) (fs ++ [f]) := by
  rw [h.has] at hh
  have hn : fnum fs f.name = none := by cases e : fnum fs f.name <;> simp [e] at hh ⊢
  refine ⟨h.map.put _ _, fun s => ?_, fun s i hi => ?_⟩
  · rw [fnum_snoc]
    by_cases hs : f.name = s
    · subst hs
      rw [has_put_same (k := kS f.name) h.map trivial, hn]
      simp
    · rw [has_put_other (kS_ne (Ne.symm hs)), h.has s]
      simp [hs]
  · rw [fnum_snoc] at hi
    by_cases hs : f.name = s
    · subst hs
      rw [hn] at hi
      simp at hi
      subst hi
      rw [atKey_put_same (k := kS f.name) h.map trivial]
    · rw [atKey_put_other (kS_ne (Ne.symm hs))]
      simp [hs] at hi
      exact h.val s i hi
/-- The map of the calls: its keys are the numbers on a list. -/
structure KeysIs (D : DataW Unit) (L : List Nat) : Prop where
  map : IsMap D
  has : ∀ a : Int, Maps.has D (.int .i64 a) = true ↔ ∃ g ∈ L, (g : Int) = a
theorem KeysIs.nil : KeysIs (.map []) [] := ⟨isMap_empty, fun a => by simp [Maps.has]⟩
theorem KeysIs.put {D : DataW Unit} {L : List Nat} (h : KeysIs D L) (g : Nat) (d : DataW Unit) : KeysIs (D.put (.int .i64 (g : Int)) d) (L ++ [g]) := by
  refine ⟨h.map.put _ _, fun a => ?_⟩
  by_cases e : a = (g : Int)
  · subst e
    rw [has_put_same (k := .int .i64 (g : Int)) h.map trivial]
    simp
  · rw [has_put_other (by intro h; injection h with _ h; exact e h), h.has a]
    constructor
    · rintro ⟨x, hx, rfl⟩; exact ⟨x, by simp [hx], rfl⟩
    · rintro ⟨x, hx, rfl⟩
      rcases List.mem_append.1 hx with hx | hx
      · exact ⟨x, hx, rfl⟩
      · simp at hx; subst hx; exact absurd rfl e
/-- The keys in order. -/
theorem sorted_keys {P : Program} {k : TypeId} {R : Value → Option (DataW Unit × List MemPlace)} {w : World} {b n : Nat} {D : DataW Unit} {fs : List Fu} {ss : List St} {zs : List Int} (hown : w.ownsMap P k R b n D) (hk : P.underlying k = some (.int .i64)) (hK : KeysIs D (callN fs (nodesOf ss))) (hp : zs.Perm (intKeys D)) :
    zs.mergeSort leI = (callsL fs ss).map (fun g : Nat => (g : Int)) := by
  have hs : ((callsL fs ss).map (fun g : Nat => (g : Int))).Pairwise (fun a b => a < b) := by
    refine List.pairwise_map.2 ?_
    have := (List.pairwise_lt_range (n := fs.length)).filter (fun g => decide (g ∈ callN fs (nodesOf ss)))
    exact this.imp (fun h => by omega)
  have hc : ((callsL fs ss).map (fun g : Nat => (g : Int))).Perm (intKeys D) := by
    refine CollectedI.perm (left := fun _ => false) ⟨hs.imp (fun h => by omega), fun x => ?_⟩ hown (int_keyed hk) hk (fun _ => rfl)
    rw [hK.has x]
    simp only [and_true, List.mem_map, callsL, List.mem_filter, List.mem_range, decide_eq_true_eq]
    constructor
    · rintro ⟨g, ⟨_, hg⟩, rfl⟩; exact ⟨g, hg, rfl⟩
    · rintro ⟨g, hg, rfl⟩; exact ⟨g, ⟨callN_lt hg, hg⟩, rfl⟩
  rw [mergeSort_of_perm_i (hp.trans hc.symm)]
  exact List.mergeSort_of_pairwise (hs.imp (fun h => by simp only [leI, decide_eq_true_eq]; omega))
end
end Go.Proofs.YtjhmgjimppflhaaGreatDoor
