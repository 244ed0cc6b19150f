import Derived.WalkKit
import Derived.Test.YtlamjfhhefcohaaGreatDoorM00
import Derived.OwnWalk
import Derived.Laws.OwnMore
namespace Go.Proofs.YtlamjfhhefcohaaGreatDoor
set_option linter.unusedVariables false
set_option linter.unusedSimpArgs false
set_option maxRecDepth 100000
set_option maxHeartbeats 16000000
section
structure Nd where
 kind : Int
 val : Int
 name : ByteArray
structure St where
 kind : Int
 name : ByteArray
 e : List Nd
 f : List Nd
 thn : Int
 els : Int
structure Fu where
 name : ByteArray
 params : List ByteArray
 body : List St
structure Gl where
 name : ByteArray
 size : Int
structure Tr where
 globals : List Gl
 funcs : List Fu
def smallB (c : Int) : Bool := decide (97 ≤ c ∧ c ≤ 122 ∨ c = 95)
def digitB (c : Int) : Bool := decide (48 ≤ c ∧ c ≤ 57)
def laterB (c : Int) : Bool := smallB c || digitB c
def resB (s : ByteArray) : Bool :=
 s.toList == [105, 110, 116] || s.toList == [105, 102] || s.toList == [101, 108, 115, 101] || s.toList == [119, 104, 105, 108, 101] || s.toList == [114, 101, 116, 117, 114, 110] || s.toList == [105, 110] || s.toList == [111, 117, 116]
def byteAt (s : ByteArray) (k : Nat) : Int := ((s.data.toList.getD k 0).toNat : Int)
def laterTo (s : ByteArray) (k : Nat) : Prop := ∀ j, j < k → laterB (byteAt s j) = true
def nameP (s : ByteArray) : Prop := 1 ≤ s.size ∧ s.size ≤ 20 ∧ smallB (byteAt s 0) = true ∧ (∀ j, j < s.size → laterB (byteAt s j) = true) ∧ resB s = false
def nameB (s : ByteArray) : Bool := @decide (nameP s) (inferInstanceAs (Decidable (1 ≤ s.size ∧ s.size ≤ 20 ∧ smallB (byteAt s 0) = true ∧ (∀ j, j < s.size → laterB (byteAt s j) = true) ∧ resB s = false)))
def arity (n : Nd) : Int := if n.kind = 3 ∨ n.kind = 6 then 1 else if n.kind = 4 then n.val else if n.kind = 7 ∨ n.kind = 8 ∨ n.kind = 9 then 2 else 0
def nodeB (n : Nd) : Bool :=
 if n.kind = 1 then decide (-2147483648 ≤ n.val ∧ n.val ≤ 2147483647) && n.name.toList == []
 else if n.kind = 2 ∨ n.kind = 3 then decide (n.val = 0) && nameB n.name
 else if n.kind = 4 then decide (0 ≤ n.val ∧ n.val ≤ 6) && nameB n.name
 else if n.kind = 6 then decide (0 ≤ n.val ∧ n.val ≤ 2) && n.name.toList == []
 else if n.kind = 7 then decide (0 ≤ n.val ∧ n.val ≤ 15) && n.name.toList == []
 else if n.kind = 5 ∨ n.kind = 8 ∨ n.kind = 9 then decide (n.val = 0) && n.name.toList == []
 else false
theorem arity_good {n : Nd} (h : nodeB n = true) : 0 ≤ arity n ∧ arity n ≤ 6 := by
 unfold nodeB at h
 unfold arity
 by_cases h4 : n.kind = 4
 ·simp [h4] at h ⊢
  omega
 ·split <;> (try split) <;> (try split) <;> omega
def wholeTo : List Nd → Int → Option Int
 | [], k => some k
 | n :: r, k => if nodeB n = true ∧ arity n ≤ k then wholeTo r (k + 1 - arity n) else none
def oneB (e : List Nd) : Bool := wholeTo e 0 == some 1
theorem kind_good {n : Nd} (h : nodeB n = true) : 1 ≤ n.kind ∧ n.kind ≤ 9 := by
 by_cases hk : n.kind < 1 ∨ 9 < n.kind
 ·unfold nodeB at h
  rw [if_neg (by omega), if_neg (by omega), if_neg (by omega), if_neg (by omega), if_neg (by omega), if_neg (by omega)] at h
  cases h
 ·omega
theorem wholeTo_append (a b : List Nd) (k : Int) : wholeTo (a ++ b) k = (wholeTo a k).bind (wholeTo b) := by
 induction a generalizing k with
 | nil => rfl
 | cons n r ih =>
  simp only [List.cons_append, wholeTo]
  split
  ·exact ih _
  ·rfl
theorem wholeTo_bd (a : List Nd) (k q : Int) (h : wholeTo a k = some q) (hk : 0 ≤ k) : 0 ≤ q ∧ q ≤ k + a.length := by
 induction a generalizing k with
 | nil => simp only [wholeTo, Option.some.injEq] at h; subst h; simp; omega
 | cons n r ih =>
  simp only [wholeTo] at h
  split at h
  ·rename_i hn
   have := arity_good hn.1
   have := ih _ h (by omega)
   simp only [List.length_cons]
   omega
  ·cases h
theorem take_succ {α : Type} (l : List α) (k : Nat) (h : k < l.length) : l.take (k + 1) = l.take k ++ [l[k]] := by
 rw [List.take_succ_eq_append_getElem h]
theorem wholeTo_step (l : List Nd) (k : Nat) (q : Int) (h : k < l.length) (hq : wholeTo (l.take k) 0 = some q) :
  wholeTo (l.take (k + 1)) 0 = if nodeB l[k] = true ∧ arity l[k] ≤ q then some (q + 1 - arity l[k]) else none := by
 rw [take_succ l k h, wholeTo_append, hq]
 simp [wholeTo]
theorem oneB_none (l : List Nd) (k : Nat) (h : wholeTo (l.take k) 0 = none) : oneB l = false := by
 have : wholeTo l 0 = none := by
  rw [← List.take_append_drop k l, wholeTo_append, h]; rfl
 simp [oneB, this]
theorem oneB_some (l : List Nd) (q : Int) (h : wholeTo (l.take l.length) 0 = some q) : oneB l = (q == 1) := by
 rw [List.take_length] at h
 simp only [oneB, h]
 apply Bool.eq_iff_iff.2
 simp
end
section
def defc : List Nd → Int
 | [] => 1
 | n :: r => defc r + arity n - 1
def goodAll (l : List Nd) : Prop := ∀ n ∈ l, nodeB n = true
theorem wholeTo_iff (l : List Nd) (hg : goodAll l) (k : Int) : wholeTo l k = some 1 ↔ defc l = k ∧ ∀ j, 1 ≤ j → j ≤ l.length → 1 ≤ defc (l.drop j) := by
 induction l generalizing k with
 | nil =>
  simp only [wholeTo, Option.some.injEq, defc, List.length_nil, List.drop_nil]
  constructor
  ·rintro rfl; exact ⟨rfl, fun j _ _ => Int.le_refl _⟩
  ·rintro ⟨rfl, _⟩; rfl
 | cons n r ih =>
  have hn : nodeB n = true := hg n (by simp)
  have ih' := ih (fun m hm => hg m (by simp [hm]))
  simp only [wholeTo, hn, true_and]
  by_cases ha : arity n ≤ k
  ·rw [if_pos ha, ih', defc]
   constructor
   ·rintro ⟨h1, h2⟩
    refine ⟨by omega, fun j hj1 hj2 => ?_⟩
    obtain ⟨j', rfl⟩ : ∃ j', j = j' + 1 := ⟨j - 1, by omega⟩
    rw [List.drop_succ_cons]
    rcases Nat.eq_zero_or_pos j' with rfl | hp
    ·rw [List.drop_zero]; omega
    ·exact h2 j' hp (by simpa using hj2)
   ·rintro ⟨h1, h2⟩
    refine ⟨by omega, fun j hj1 hj2 => ?_⟩
    have := h2 (j + 1) (by omega) (by simpa using hj2)
    rwa [List.drop_succ_cons] at this
  ·rw [if_neg ha]
   constructor
   ·intro h; cases h
   ·rintro ⟨h1, h2⟩
    exfalso
    have := h2 1 (Nat.le_refl _) (by simp)
    simp only [List.drop_succ_cons, List.drop_zero] at this
    simp only [defc] at h1
    omega
theorem wholeTo_good (l : List Nd) (k q : Int) (h : wholeTo l k = some q) : goodAll l := by
 induction l generalizing k with
 | nil => intro n hn; cases hn
 | cons m r ih =>
  simp only [wholeTo] at h
  split at h
  ·rename_i hm
   intro n hn
   rcases List.mem_cons.1 hn with rfl | hn
   ·exact hm.1
   ·exact ih _ h n hn
  ·cases h
theorem oneB_iff (l : List Nd) : oneB l = true ↔ goodAll l ∧ defc l = 0 ∧ ∀ j, 1 ≤ j → j ≤ l.length → 1 ≤ defc (l.drop j) := by
 constructor
 ·intro h
  have h' : wholeTo l 0 = some 1 := by simpa [oneB] using h
  have hg := wholeTo_good l 0 1 h'
  exact ⟨hg, (wholeTo_iff l hg 0).1 h'⟩
 ·rintro ⟨hg, h⟩
  have := (wholeTo_iff l hg 0).2 h
  simp [oneB, this]
def fromP (l : List Nd) (r : Int) : Prop :=
 (∃ i : Nat, r = i ∧ i < l.length ∧ defc (l.drop i) = 0 ∧ ∀ j, i < j → j ≤ l.length → 1 ≤ defc (l.drop j)) ∨ (r = -1 ∧ ∀ j, j ≤ l.length → 1 ≤ defc (l.drop j))
theorem fromP_one {l : List Nd} {r : Int} (hg : goodAll l) (h : fromP l r) : (r == 0) = oneB l := by
 apply Bool.eq_iff_iff.2
 rw [oneB_iff]
 simp only [beq_iff_eq]
 rcases h with ⟨i, rfl, hi, h0, hj⟩ | ⟨rfl, hj⟩
 ·constructor
  ·intro h
   obtain rfl : i = 0 := by omega
   exact ⟨hg, by simpa using h0, fun j h1 h2 => hj j (by omega) h2⟩
  ·rintro ⟨_, _, h⟩
   rcases Nat.eq_zero_or_pos i with rfl | hp
   ·rfl
   ·have := h i hp (by omega); omega
 ·constructor
  ·intro h; omega
  ·rintro ⟨_, h, _⟩
   have := hj 0 (Nat.zero_le _)
   rw [List.drop_zero] at this
   omega
theorem defc_drop (l : List Nd) (i : Nat) (h : i < l.length) : defc (l.drop i) = defc (l.drop (i + 1)) + arity l[i] - 1 := by
 rw [List.drop_eq_getElem_cons h, defc]
theorem defc_le (l : List Nd) (hg : goodAll l) : defc l ≤ 1 + 6 * l.length := by
 induction l with
 | nil => simp [defc]
 | cons n r ih =>
  have := ih (fun m hm => hg m (by simp [hm]))
  have := arity_good (hg n (by simp))
  simp only [defc, List.length_cons]
  omega
theorem goodAll_drop {l : List Nd} (hg : goodAll l) (i : Nat) : goodAll (l.drop i) := fun n hn => hg n (List.mem_of_mem_drop hn)
end
section
open Go.RowKit
structure Tcs (S : Nat → Prop) (W w' : World) : Prop where
 os : w'.os = W.os
 tape : w'.tape = W.tape
 output : w'.output = W.output
 size : W.heap.size ≤ w'.heap.size
 block : ∀ k, k < W.heap.size → ¬ S k → w'.heap[k]? = W.heap[k]?
theorem Tcs.refl (S : Nat → Prop) (W : World) : Tcs S W W := ⟨rfl, rfl, rfl, Nat.le_refl _, fun _ _ _ => rfl⟩
theorem Tcs.trans {S : Nat → Prop} {a b c : World} (h : Tcs S a b) (k : Tcs S b c) : Tcs S a c :=
 ⟨k.os.trans h.os, k.tape.trans h.tape, k.output.trans h.output, Nat.le_trans h.size k.size, fun i hi hg => (k.block i (Nat.lt_of_lt_of_le hi h.size) hg).trans (h.block i hi hg)⟩
theorem Tcs.next {S T : Nat → Prop} {a b c : World} (h : Tcs S a b) (k : Tcs T b c) (hT : ∀ x, T x → S x ∨ a.heap.size ≤ x) : Tcs S a c :=
 ⟨k.os.trans h.os, k.tape.trans h.tape, k.output.trans h.output, Nat.le_trans h.size k.size, fun i hi hg => (k.block i (Nat.lt_of_lt_of_le hi h.size) (fun t => by rcases hT i t with x | x; exact hg x; omega)).trans (h.block i hi hg)⟩
theorem Tcs.mono {S T : Nat → Prop} {a b : World} (h : Tcs S a b) (hs : ∀ k, S k → T k) : Tcs T a b :=
 ⟨h.os, h.tape, h.output, h.size, fun k hk hn => h.block k hk fun s => hn (hs k s)⟩
theorem Tcs.drew {S : Nat → Prop} {a w : World} (h : Tcs S a w) : Tcs S a w.drew := h.trans ⟨rfl, rfl, rfl, Nat.le_refl _, fun _ _ _ => rfl⟩
theorem Tcs.setCell {S : Nat → Prop} {a w : World} (h : Tcs S a w) {p : Addr} (hp : S p.block) (u : Value) : Tcs S a (w.setCell p u) :=
 h.trans ⟨rfl, rfl, rfl, by simp, fun k _ hk => Below.heap_setCell w p u k fun e => hk (e ▸ hp)⟩
theorem Tcs.alloc {S : Nat → Prop} {a w : World} (h : Tcs S a w) (o : Obj) : Tcs S a (w.alloc o) :=
 h.trans ⟨rfl, rfl, rfl, by simp, fun k hk _ => Below.heap_alloc w o k hk⟩
theorem Tcs.of_below {S : Nat → Prop} {a w w' : World} (h : Tcs S a w) (hb : Below w.heap.size w w') : Tcs S a w' :=
 h.trans ⟨hb.os, hb.tape, hb.output, hb.size, fun k hk _ => hb.block k hk⟩
theorem Tcs.below {S : Nat → Prop} {B : Nat} {a w w' : World} (h : Tcs S w w') (hb : Below B a w) (hB : B ≤ w.heap.size) (hg : ∀ k, S k → B ≤ k) : Below B a w' :=
 ⟨h.os.trans hb.os, h.tape.trans hb.tape, h.output.trans hb.output, Nat.le_trans hb.size h.size, fun k hk => (h.block k (by omega) (fun s => by have := hg k s; omega)).trans (hb.block k hk)⟩
theorem Tcs.of_grown {a w : World} {row : Option Nat} {S : Nat → Prop} (hg : a.grownBy w row) (hr : ∀ k, row = some k → S k) : Tcs S a w :=
 ⟨hg.os, hg.tape, hg.output, hg.size, fun k hk hn => hg.block k hk (fun e => hn (hr k e.symm))⟩
theorem _root_.Go.RowKit.Below.tcs {a w : World} {S : Nat → Prop} (h : Below a.heap.size a w) : Tcs S a w := ⟨h.os, h.tape, h.output, h.size, fun k hk _ => h.block k hk⟩
end
section
open Go.RowKit
section
variable {P : Program} {w : World}
theorem app_freshG (base : Nat) (t ty e : TypeId) (i : TypeInfo) (z : Value) (size bytes : Nat) (ht : P.underlying t = some (.slice e)) (hi : P.info? e = some i) (hz : i.zero = some z)
  (hsize : i.size = size) (hby : i.bytes = bytes) (hzs : z.cells.size = size) (hsz : 0 < size)
  (v : Value) (n : Nat) (xs : List Value) (hown : w.ownsRow base e size v n xs)
  (a : Addr) (m c : Nat) (news : List Value) (hl : news.length = m * size) (hnews : ∀ j u, news[j]? = some u → w.cell? (a.add j) = some u) (h1 : ∀ u ∈ news, u.oneCell' = true)
  (hm : n + m ≤ 10000000) (hbb : bytes ≤ 1000) (hbase : base ≤ w.heap.size) :
  ∃ v' w', (Builtin.append_ #[t, t] ty #[v, .slice (some a) m c]).run P w = .ok v' w' ∧ w'.ownsRow base e size v' (n + m) (xs ++ news) ∧ w.grownBy w' v.ownBlock ∧ ∀ k, v'.ownBlock = some k → v.ownBlock = some k ∨ w.heap.size ≤ k := by
 have hbytes : (n + m) * bytes ≤ 140737488355328 := by
  have : (n + m) * bytes ≤ 10000000 * 1000 := Nat.mul_le_mul hm hbb
  omega
 have h63 : n + m ≤ maxLen := by unfold maxLen; omega
 obtain ⟨v', w', r1, r2, r3, r4⟩ := run_append_own (P := P) w base t ty e i z size bytes ht hi hz hsize hby hzs hsz v n xs hown a m c news hl hnews h1 h63 hbytes hbase
 refine ⟨v', w', r1, r2, r3, fun k hk => ?_⟩
 have hown0 := hown
 rcases hown.2 with ⟨rfl, rfl⟩ | ⟨g, cap, cur, rfl, hbg, hg, hnc, hcm, hcs, htake⟩
 ·have hx : xs = [] := List.eq_nil_of_length_eq_zero (by have := hown.1; simpa using this)
  subst hx
  obtain ⟨v2, w2, g1, g2, _⟩ := run_append_own (P := P) w w.heap.size t ty e i z size bytes ht hi hz hsize hby hzs hsz (.slice none 0 0) 0 [] (World.ownsRow_nil _ _ _ _) a m c news hl hnews h1 h63 hbytes (Nat.le_refl _)
  rw [r1] at g1
  simp only [Result.ok.injEq] at g1
  obtain ⟨rfl, rfl⟩ := g1
  exact .inr (g2.lt k hk).1
 ·by_cases hroom : n + m ≤ cap
  ·have hfit : n * i.size + news.length ≤ cur.size := by
    rw [hsize, hl, hcs, ← Nat.add_mul]
    exact Nat.mul_le_mul_right _ hroom
   have hr := run_append_room (P := P) w t ty e i ht hi g n cap cur hg a m c news (by rw [hsize]; exact hl) hnews h1 hroom hfit
   rw [r1] at hr
   simp only [Result.ok.injEq] at hr
   obtain ⟨rfl, rfl⟩ := hr
   exact .inl hk
  ·have holds : ∀ j u, xs[j]? = some u → w.cell? ((⟨g, 0, none⟩ : Addr).add j) = some u := hown0.cells (g := g) rfl
   have hr := run_append_grow (P := P) w t ty e i z ht hi hz ⟨g, 0, none⟩ n cap xs (by rw [hsize]; exact hown0.1) holds a m c news (by rw [hsize]; exact hl) hnews (by omega) (by omega) (by rw [hby]; exact growslice_fits (by omega) (by omega))
   rw [r1] at hr
   simp only [Result.ok.injEq] at hr
   obtain ⟨rfl, rfl⟩ := hr
   simp only [Value.ownBlock, Option.some.injEq] at hk
   exact .inr (by omega)
end
end
section
def begP (ns : List Nd) (k i : Nat) : Prop := i < k ∧ defc ((ns.take k).drop i) = 0 ∧ ∀ j, i < j → j ≤ k → 1 ≤ defc ((ns.take k).drop j)
def nd0 : Nd := ⟨1, 0, ⟨#[]⟩⟩
def rootN (e : List Nd) : Nd := e.getD (e.length - 1) nd0
structure Cut (e : List Nd) (A : Nat) (b : Nat → Nat) : Prop where
 len : 0 < e.length
 ar : arity (rootN e) = A
 good : goodAll e
 last : b A = e.length - 1
 first : b 0 = 0
 beg : ∀ i, i < A → begP e (b (i + 1)) (b i)
def kid (e : List Nd) (b : Nat → Nat) (i : Nat) : List Nd := (e.take (b (i + 1))).drop (b i)
theorem one_good {e : List Nd} (h : oneB e = true) : goodAll e := ((oneB_iff e).1 h).1
end
section
def lastKind (e : List Nd) : Int := match e[e.length - 1]? with | some n => n.kind | none => 0
def stmtB (s : St) : Bool :=
 decide (1 ≤ s.kind ∧ s.kind ≤ 8) && (if s.kind ≤ 3 then nameB s.name else s.name.toList == []) && oneB s.e && (if s.kind = 3 then oneB s.f else s.f.length == 0) && (decide (s.kind ≠ 8) || lastKind s.e == 4) && (decide (s.kind = 4 ∨ s.kind = 5) || s.thn == 0) && (decide (s.kind = 4) || s.els == 0)
theorem oneB_pos {l : List Nd} (h : oneB l = true) : 0 < l.length := by
 cases l with
 | nil => simp [oneB, wholeTo] at h
 | cons n r => simp
end
section
open Go.RowKit
def FrC (w : World) (g : Nat) (xs : List Value) : Prop := ∀ j x, xs[j]? = some x → w.cell? ⟨g, j, none⟩ = some x ∧ w.frozen? ⟨g, j, none⟩ = false
theorem FrC.set {w : World} {g : Nat} {xs : List Value} (h : FrC w g xs) (i : Nat) (u : Value) : FrC (w.setCell ⟨g, i, none⟩ u) g (xs.set i u) := by
 intro j x hx
 rw [World.frozen?_setCell]
 by_cases e : i = j
 ·subst e
  have hl := (List.getElem?_eq_some_iff.1 hx).1
  rw [List.length_set] at hl
  rw [List.getElem?_set_self hl] at hx
  obtain ⟨c, f⟩ := h i xs[i] (List.getElem?_eq_getElem hl)
  refine ⟨?_, f⟩
  rw [World.cell?_setCell_same _ _ _ c]
  exact hx
 ·rw [List.getElem?_set_ne e] at hx
  obtain ⟨c, f⟩ := h j x hx
  refine ⟨?_, f⟩
  rw [World.cell?_setCell_other _ _ _ _ (by intro h; simp only [Addr.mk.injEq] at h; omega)]
  exact c
theorem FrC.keep {w w' : World} {g : Nat} {xs : List Value} (h : FrC w g xs) (e : w'.heap[g]? = w.heap[g]?) : FrC w' g xs := fun j x hx => by
 obtain ⟨c, f⟩ := h j x hx
 exact ⟨(World.cell?_of_block (a := ⟨g, j, none⟩) e).trans c, (World.frozen?_of_block (a := ⟨g, j, none⟩) e).trans f⟩
theorem FrC.below {w w' : World} {g : Nat} {xs : List Value} (h : FrC w g xs) (hb : Below w.heap.size w w') : FrC w' g xs := fun j x hx => by
 obtain ⟨c, f⟩ := h j x hx
 have hlt := World.block_lt_of_cell? _ _ c
 exact ⟨(hb.cell (p := ⟨g, j, none⟩) hlt).trans c, (hb.frozen (p := ⟨g, j, none⟩) hlt).trans f⟩
theorem FrC.tcs {S : Nat → Prop} {w w' : World} {g : Nat} {xs : List Value} (h : FrC w g xs) (hl : g < w.heap.size) (ht : Tcs S w w') (hn : ¬ S g) : FrC w' g xs := h.keep (ht.block g hl hn)
theorem box_fr (w : World) (cs : Array Value) (t : TypeId) (hm : cs.size ≤ 1000) : FrC (w.alloc (.cells cs t)) w.heap.size cs.toList := by
 intro j x hj
 have h : (w.alloc (.cells cs t)).ownsRow w.heap.size t 1 (.slice (some ⟨w.heap.size, 0, none⟩) cs.size cs.size) cs.size cs.toList := World.ownsRow_lit w cs cs.size (Nat.le_refl _) (by unfold maxLen; omega) (by omega)
 have hc := World.ownsRow.cells h (g := w.heap.size) rfl j x hj
 have e : (⟨w.heap.size, 0, none⟩ : Addr).add j = ⟨w.heap.size, j, none⟩ := by
  simp [Addr.add]
  try (intro h; omega)
 rw [e] at hc
 refine ⟨hc, ?_⟩
 rcases h.2 with ⟨e, -⟩ | ⟨g, cap, cur, e, h3, h4, h5⟩
 ·simp at e
 ·simp only [Value.slice.injEq, Option.some.injEq, Addr.mk.injEq] at e
  obtain ⟨⟨rfl, -, -⟩, -, -⟩ := e
  unfold World.frozen?
  simp only [h4]
  simp
end
section
theorem Cut.le {e : List Nd} {A : Nat} {b : Nat → Nat} (h : Cut e A b) : ∀ d, d ≤ A → b (A - d) ≤ e.length - 1 := by
 intro d
 induction d with
 | zero => intro _; rw [Nat.sub_zero, h.last]; exact Nat.le_refl _
 | succ d ih =>
  intro hd
  have := ih (by omega)
  have h2 := (h.beg (A - (d + 1)) (by omega)).1
  rw [show A - (d + 1) + 1 = A - d by omega] at h2
  omega
end
section
def fitN : Nat → List St → Bool
 | _, [] => true
 | 0, _ :: _ => false
 | n + 1, s :: r => decide (0 ≤ s.thn ∧ s.thn ≤ r.length ∧ 0 ≤ s.els ∧ s.els ≤ r.length - s.thn) && (fitN n (r.take s.thn.toNat) && (fitN n ((r.take (s.thn.toNat + s.els.toNat)).drop s.thn.toNat) && fitN n (r.drop (s.thn.toNat + s.els.toNat))))
def fitB (l : List St) : Bool := fitN l.length l
theorem fitN_any (n m : Nat) (l : List St) (hn : l.length ≤ n) (hm : l.length ≤ m) : fitN n l = fitN m l := by
 induction n generalizing m l with
 | zero =>
  have : l = [] := List.eq_nil_of_length_eq_zero (by omega)
  subst this
  cases m <;> rfl
 | succ n ih =>
  cases l with
  | nil => cases m <;> rfl
  | cons s r =>
   cases m with
   | zero => simp at hm
   | succ m =>
    simp only [List.length_cons] at hn hm
    simp only [fitN]
    rw [ih m (r.take s.thn.toNat) (by simp; omega) (by simp; omega), ih m ((r.take (s.thn.toNat + s.els.toNat)).drop s.thn.toNat) (by simp; omega) (by simp; omega), ih m (r.drop (s.thn.toNat + s.els.toNat)) (by simp; omega) (by simp; omega)]
theorem fitB_cons (s : St) (r : List St) : fitB (s :: r) = (decide (0 ≤ s.thn ∧ s.thn ≤ r.length ∧ 0 ≤ s.els ∧ s.els ≤ r.length - s.thn) && (fitB (r.take s.thn.toNat) && (fitB ((r.take (s.thn.toNat + s.els.toNat)).drop s.thn.toNat) && fitB (r.drop (s.thn.toNat + s.els.toNat))))) := by
 have h : fitB (s :: r) = fitN (r.length + 1) (s :: r) := rfl
 rw [h]
 simp only [fitN]
 rw [fitN_any r.length _ (r.take s.thn.toNat) (by simp; omega) (Nat.le_refl _), fitN_any r.length _ ((r.take (s.thn.toNat + s.els.toNat)).drop s.thn.toNat) (by simp; omega) (Nat.le_refl _), fitN_any r.length _ (r.drop (s.thn.toNat + s.els.toNat)) (by simp) (Nat.le_refl _)]
 rfl
theorem fitB_all (n : Nat) : ∀ l : List St, l.length ≤ n → fitB l = true → ∀ s ∈ l, 0 ≤ s.thn ∧ 0 ≤ s.els := by
 induction n with
 | zero =>
  intro l hl _ s hs
  have : l = [] := List.eq_nil_of_length_eq_zero (by omega)
  subst this
  cases hs
 | succ n ih =>
  intro l hl h s hs
  cases l with
  | nil => cases hs
  | cons t r =>
   simp only [List.length_cons] at hl
   rw [fitB_cons] at h
   simp only [Bool.and_eq_true, decide_eq_true_eq] at h
   obtain ⟨h0, h1, h2, h3⟩ := h
   rcases List.mem_cons.1 hs with rfl | hs
   ·exact ⟨h0.1, h0.2.2.1⟩
   ·have hr : r = r.take t.thn.toNat ++ ((r.take (t.thn.toNat + t.els.toNat)).drop t.thn.toNat ++ r.drop (t.thn.toNat + t.els.toNat)) := by
     rw [← List.append_assoc]
     have e : r.take t.thn.toNat ++ (r.take (t.thn.toNat + t.els.toNat)).drop t.thn.toNat = r.take (t.thn.toNat + t.els.toNat) := by
      have := List.take_append_drop t.thn.toNat (r.take (t.thn.toNat + t.els.toNat))
      rwa [List.take_take, Nat.min_eq_left (by omega)] at this
     rw [e, List.take_append_drop]
    rw [hr] at hs
    rcases List.mem_append.1 hs with hs | hs
    ·exact ih _ (by simp; omega) h1 s hs
    ·rcases List.mem_append.1 hs with hs | hs
     ·exact ih _ (by simp; omega) h2 s hs
     ·exact ih _ (by simp; omega) h3 s hs
end
section
def nodeSum : List St → Nat
 | [] => 0
 | s :: r => s.e.length + s.f.length + nodeSum r
theorem nodeSum_append (a b : List St) : nodeSum (a ++ b) = nodeSum a + nodeSum b := by
 induction a with
 | nil => simp [nodeSum]
 | cons s r ih => simp [nodeSum, ih]; omega
theorem nodeSum_step (l : List St) (k : Nat) (h : k < l.length) : nodeSum (l.take (k + 1)) = nodeSum (l.take k) + l[k].e.length + l[k].f.length := by
 rw [take_succ l k h, nodeSum_append]; simp [nodeSum]; omega
theorem nodeSum_le (l : List St) (k : Nat) : nodeSum (l.take k) ≤ nodeSum l := by
 have := nodeSum_append (l.take k) (l.drop k)
 rw [List.take_append_drop] at this
 omega
def stmtsB (p : St → Bool) (l : List St) : Bool := decide (nodeSum l ≤ 2000) && l.all p
theorem stmtsB_sum {p : St → Bool} {l : List St} {k : Nat} (h : 2000 < nodeSum (l.take k)) : stmtsB p l = false := by
 have := nodeSum_le l k
 simp only [stmtsB, decide_eq_false (show ¬ nodeSum l ≤ 2000 by omega), Bool.false_and]
theorem stmtsB_bad {p : St → Bool} {l : List St} {k : Nat} (hk : k < l.length) (h : p l[k] = false) : stmtsB p l = false := by
 have : l.all p = false := by
  rw [List.all_eq_false]
  exact ⟨l[k], List.getElem_mem hk, by simp [h]⟩
 simp [stmtsB, this]
theorem stmtsB_ok {p : St → Bool} {l : List St} (h1 : nodeSum l ≤ 2000) (h2 : ∀ s ∈ l, p s = true) : stmtsB p l = true := by
 have : l.all p = true := List.all_eq_true.2 h2
 simp [stmtsB, this, h1]
theorem all_bad {p : ByteArray → Bool} {l : List ByteArray} {k : Nat} (hk : k < l.length) (h : p l[k] = false) : l.all p = false := by
 rw [List.all_eq_false]
 exact ⟨l[k], List.getElem_mem hk, by simp [h]⟩
def funcB (f : Fu) : Bool := nameB f.name && (decide (f.params.length ≤ 6) && (decide (f.body.length ≤ 500) && (f.params.all nameB && (stmtsB stmtB f.body && fitB f.body))))
def gstmtB (s : St) : Bool := stmtB s && decide (0 ≤ s.thn ∧ 0 ≤ s.els)
theorem gstmts_fit (l : List St) : (stmtsB gstmtB l && fitB l) = (stmtsB stmtB l && fitB l) := by
 cases h : fitB l
 ·simp
 ·have hn := fitB_all l.length l (Nat.le_refl _) h
  have : l.all gstmtB = l.all stmtB := by
   apply Bool.eq_iff_iff.2
   rw [List.all_eq_true, List.all_eq_true]
   constructor
   ·intro h s hs
    have := h s hs
    simp only [gstmtB, Bool.and_eq_true] at this
    exact this.1
   ·intro h s hs
    simp only [gstmtB, Bool.and_eq_true, decide_eq_true_eq]
    exact ⟨h s hs, hn s hs⟩
  simp only [stmtsB, this]
theorem gstmts_nonneg {l : List St} (h : ∀ s ∈ l, gstmtB s = true) : ∀ s ∈ l, 0 ≤ s.thn ∧ 0 ≤ s.els := by
 intro s hs
 have := h s hs
 simp only [gstmtB, Bool.and_eq_true, decide_eq_true_eq] at this
 exact this.2
def globB (g : Gl) : Bool := nameB g.name && decide (0 ≤ g.size ∧ g.size ≤ 4000)
def treeB (t : Tr) : Bool := decide (t.globals.length ≤ 50) && (decide (t.funcs.length ≤ 50) && (t.globals.all globB && t.funcs.all funcB))
theorem allG_bad {l : List Gl} {k : Nat} (hk : k < l.length) (h : globB l[k] = false) : l.all globB = false := by
 rw [List.all_eq_false]
 exact ⟨l[k], List.getElem_mem hk, by simp [h]⟩
theorem allF_bad {l : List Fu} {k : Nat} (hk : k < l.length) (h : funcB l[k] = false) : l.all funcB = false := by
 rw [List.all_eq_false]
 exact ⟨l[k], List.getElem_mem hk, by simp [h]⟩
def smallS (s : St) : Prop := s.e.length ≤ 1048576 ∧ s.f.length ≤ 1048576
def smallF (f : Fu) : Prop := f.params.length ≤ 1048576 ∧ f.body.length ≤ 1048576 ∧ ∀ s ∈ f.body, smallS s
def smallT (t : Tr) : Prop := t.globals.length ≤ 1048576 ∧ t.funcs.length ≤ 1048576 ∧ ∀ f ∈ t.funcs, smallF f
end
section
def sumBy {α : Type} (f : α → Nat) : List α → Nat
 | [] => 0
 | x :: r => f x + sumBy f r
theorem sumBy_append {α : Type} (f : α → Nat) (a b : List α) : sumBy f (a ++ b) = sumBy f a + sumBy f b := by
 induction a with
 | nil => simp [sumBy]
 | cons x r ih => simp [sumBy, ih]; omega
theorem sumBy_step {α : Type} (f : α → Nat) (l : List α) (k : Nat) (h : k < l.length) : sumBy f (l.take (k + 1)) = sumBy f (l.take k) + f l[k] := by
 rw [take_succ l k h, sumBy_append]; simp [sumBy]
theorem sumBy_le {α : Type} (f : α → Nat) (l : List α) (k : Nat) : sumBy f (l.take k) ≤ sumBy f l := by
 have := sumBy_append f (l.take k) (l.drop k)
 rw [List.take_append_drop] at this
 omega
def wfNs (ns : List Nd) : Prop := ns.length ≤ 9223372036854775807 ∧ ∀ n ∈ ns, n.name.size ≤ 9223372036854775807
def wfSt (s : St) : Prop := s.name.size ≤ 9223372036854775807 ∧ wfNs s.e ∧ wfNs s.f
def wfSs (ss : List St) : Prop := ss.length ≤ 9223372036854775807 ∧ ∀ s ∈ ss, wfSt s
def wfPs (ps : List ByteArray) : Prop := ps.length ≤ 9223372036854775807 ∧ ∀ s ∈ ps, s.size ≤ 9223372036854775807
def wfFu (f : Fu) : Prop := f.name.size ≤ 9223372036854775807 ∧ wfPs f.params ∧ wfSs f.body
end
end Go.Proofs.YtlamjfhhefcohaaGreatDoor
