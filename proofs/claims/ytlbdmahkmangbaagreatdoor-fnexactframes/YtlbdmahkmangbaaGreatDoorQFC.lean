import Derived.Test.YtlbdmahkmangbaaGreatDoorQFA
import Derived.WalkSpells
import Derived.BigQuiet
import Derived.RegionTactic
import Derived.Test.YtlbdmahkmangbaaGreatDoorQV7
namespace Go.Proofs.YtlbdmahkmangbaaGreatDoor
open Go.RowKit
set_option linter.unusedVariables false
set_option linter.unusedSimpArgs false

/-- A slice of A values. -/
def Args (w : World) (S : Nat → Prop) (v : Value) (A : Nat) (vs : Nat → Value) : Prop := ∃ a cap, v = .slice a A cap ∧ A ≤ cap ∧ cap ≤ 9223372036854775807 ∧ (0 < A → ∃ B, a = some ⟨B, 0, none⟩ ∧ S B ∧ ∀ i, i < A → w.cell? ⟨B, i, none⟩ = some (vs i))
/-- A value that is the expression of the list; what it holds in memory lies in blocks of S. -/
structure TvC (w:World)(S:Nat → Prop)(P:Value→List Nd→Prop):Prop where
 c_::
 num(v:Int):P (.iface 168 (.agg #[.int .i64 v])) [⟨1, v, ⟨#[]⟩⟩]
 var(s:ByteArray):P (.iface 170 (.agg #[.string s])) [⟨2, 0, s⟩]
 index(s:ByteArray)(x:Value)(r:List Nd):P x r→P (.iface 154 (.agg #[.string s, x])) (r ++ [⟨3, 0, s⟩])
 call(s:ByteArray)(ar:Value)(A:Nat)(vs:Nat → Value)(F:Nat → List Nd):Args w S ar A vs→(∀ i, i < A → P (vs i) (F i))→P (.iface 164 (.agg #[.string s, ar])) (joinF F A ++ [⟨4, A, s⟩])
 inn:P (.iface 172 (.agg #[])) [⟨5, 0, ⟨#[]⟩⟩]
 un(op:Int)(x:Value)(r:List Nd):P x r→P (.iface 156 (.agg #[.int .i64 op, x])) (r ++ [⟨6, op, ⟨#[]⟩⟩])
 bin(op:Int)(x y:Value)(r t:List Nd):P x r→P y t→P (.iface 158 (.agg #[.int .i64 op, x, y])) (r ++ t ++ [⟨7, op, ⟨#[]⟩⟩])
 and(x y:Value)(r t:List Nd):P x r→P y t→P (.iface 160 (.agg #[x, y])) (r ++ t ++ [⟨8, 0, ⟨#[]⟩⟩])
 or(x y:Value)(r t:List Nd):P x r→P y t→P (.iface 161 (.agg #[x, y])) (r ++ t ++ [⟨9, 0, ⟨#[]⟩⟩])
structure Tv (w:World)(S:Nat → Prop)(a0:Value)(a1:List Nd):Prop where
 c_::
 out:∀P,TvC w S P→P a0 a1
theorem Tv.C{w:World}{S:Nat → Prop}:TvC w S (Tv w S):=⟨fun v=>⟨fun P h=>h.num v⟩,
 fun s=>⟨fun P h=>h.var s⟩,
 fun s x r q0=>⟨fun P h=>h.index s x r (q0.out P h)⟩,
 fun s ar A vs F q0 q1=>⟨fun P h=>h.call s ar A vs F q0 (fun i o0=>(q1 i o0).out P h)⟩,
 ⟨fun P h=>h.inn⟩,
 fun op x r q0=>⟨fun P h=>h.un op x r (q0.out P h)⟩,
 fun op x y r t q0 q1=>⟨fun P h=>h.bin op x y r t (q0.out P h) (q1.out P h)⟩,
 fun x y r t q0 q1=>⟨fun P h=>h.and x y r t (q0.out P h) (q1.out P h)⟩,
 fun x y r t q0 q1=>⟨fun P h=>h.or x y r t (q0.out P h) (q1.out P h)⟩⟩
abbrev Tv.num {w S}:=(Tv.C:TvC w S _).num
abbrev Tv.var {w S}:=(Tv.C:TvC w S _).var
abbrev Tv.index {w S}:=(Tv.C:TvC w S _).index
abbrev Tv.call {w S}:=(Tv.C:TvC w S _).call
abbrev Tv.inn {w S}:=(Tv.C:TvC w S _).inn
abbrev Tv.un {w S}:=(Tv.C:TvC w S _).un
abbrev Tv.bin {w S}:=(Tv.C:TvC w S _).bin
abbrev Tv.and {w S}:=(Tv.C:TvC w S _).and
abbrev Tv.or {w S}:=(Tv.C:TvC w S _).or
theorem Tv_i{w:World}{S:Nat → Prop}{M:∀(a0:Value)(a1:List Nd),Tv w S a0 a1→Prop}
 (num:∀(v:Int),∀u,M (.iface 168 (.agg #[.int .i64 v])) [⟨1, v, ⟨#[]⟩⟩] u)
 (var:∀(s:ByteArray),∀u,M (.iface 170 (.agg #[.string s])) [⟨2, 0, s⟩] u)
 (index:∀(s:ByteArray)(x:Value)(r:List Nd),∀q0:Tv w S x r,M x r q0→∀u,M (.iface 154 (.agg #[.string s, x])) (r ++ [⟨3, 0, s⟩]) u)
 (call:∀(s:ByteArray)(ar:Value)(A:Nat)(vs:Nat → Value)(F:Nat → List Nd),Args w S ar A vs→∀q1:∀ i, i < A → Tv w S (vs i) (F i),(∀ i (o0 : i < A),M (vs i) (F i) (q1 i o0))→∀u,M (.iface 164 (.agg #[.string s, ar])) (joinF F A ++ [⟨4, A, s⟩]) u)
 (inn:∀u,M (.iface 172 (.agg #[])) [⟨5, 0, ⟨#[]⟩⟩] u)
 (un:∀(op:Int)(x:Value)(r:List Nd),∀q0:Tv w S x r,M x r q0→∀u,M (.iface 156 (.agg #[.int .i64 op, x])) (r ++ [⟨6, op, ⟨#[]⟩⟩]) u)
 (bin:∀(op:Int)(x y:Value)(r t:List Nd),∀q0:Tv w S x r,∀q1:Tv w S y t,M x r q0→M y t q1→∀u,M (.iface 158 (.agg #[.int .i64 op, x, y])) (r ++ t ++ [⟨7, op, ⟨#[]⟩⟩]) u)
 (and:∀(x y:Value)(r t:List Nd),∀q0:Tv w S x r,∀q1:Tv w S y t,M x r q0→M y t q1→∀u,M (.iface 160 (.agg #[x, y])) (r ++ t ++ [⟨8, 0, ⟨#[]⟩⟩]) u)
 (or:∀(x y:Value)(r t:List Nd),∀q0:Tv w S x r,∀q1:Tv w S y t,M x r q0→M y t q1→∀u,M (.iface 161 (.agg #[x, y])) (r ++ t ++ [⟨9, 0, ⟨#[]⟩⟩]) u)
 {a0:Value}{a1:List Nd}(u:Tv w S a0 a1):M a0 a1 u:=
 (u.out (fun a0 a1=>∃z_,M a0 a1 z_) ⟨fun v=>⟨.num v,num v _⟩,
 fun s=>⟨.var s,var s _⟩,
 fun s x r q0=>⟨.index s x r q0.1,index s x r _ q0.2 _⟩,
 fun s ar A vs F q0 q1=>⟨.call s ar A vs F q0 (fun i o0=>(q1 i o0).1),call s ar A vs F q0 _ (fun i o0=>(q1 i o0).2) _⟩,
 ⟨.inn,inn _⟩,
 fun op x r q0=>⟨.un op x r q0.1,un op x r _ q0.2 _⟩,
 fun op x y r t q0 q1=>⟨.bin op x y r t q0.1 q1.1,bin op x y r t _ _ q0.2 q1.2 _⟩,
 fun x y r t q0 q1=>⟨.and x y r t q0.1 q1.1,and x y r t _ _ q0.2 q1.2 _⟩,
 fun x y r t q0 q1=>⟨.or x y r t q0.1 q1.1,or x y r t _ _ q0.2 q1.2 _⟩⟩).2
theorem Args.keep {w w' : World} {S S' : Nat → Prop} {v : Value} {A : Nat} {vs : Nat → Value} (h : Args w S v A vs) (hS : ∀ B, S B → S' B) (hk : ∀ B, S B → w'.heap[B]? = w.heap[B]?) : Args w' S' v A vs := by
  obtain ⟨a, cap, rfl, h1, h2, h⟩ := h
  refine ⟨a, cap, rfl, h1, h2, fun h0 => ?_⟩
  obtain ⟨B, rfl, hB, hc⟩ := h h0
  exact ⟨B, rfl, hS B hB, fun i hi => (World.cell?_of_block (a := ⟨B, i, none⟩) (hk B hB)).trans (hc i hi)⟩
theorem Tv.keep {w w' : World} {S S' : Nat → Prop} {v : Value} {r : List Nd} (h : Tv w S v r) (hS : ∀ B, S B → S' B) (hk : ∀ B, S B → w'.heap[B]? = w.heap[B]?) : Tv w' S' v r := by
  induction h using Tv_i with
  | num v => exact .num v
  | var s => exact .var s
  | index s x r _ ih => exact .index s x r ih
  | call s ar A vs F ha _ ih => exact .call s ar A vs F (ha.keep hS hk) ih
  | inn => exact .inn
  | un op x r _ ih => exact .un op x r ih
  | bin op x y r t _ _ ih1 ih2 => exact .bin op x y r t ih1 ih2
  | and x y r t _ _ ih1 ih2 => exact .and x y r t ih1 ih2
  | or x y r t _ _ ih1 ih2 => exact .or x y r t ih1 ih2
theorem Tv.pos {w : World} {S : Nat → Prop} {v : Value} {r : List Nd} (h : Tv w S v r) : 0 < r.length := by
  cases h using Tv_i <;> simp <;> omega
theorem Tv.isI {w : World} {S : Nat → Prop} {v : Value} {r : List Nd} (h : Tv w S v r) : ∃ t x, v = .iface t x := by
  cases h using Tv_i <;> exact ⟨_, _, rfl⟩
/-- Whether it is a number shows in the list. -/
theorem Tv.some {w : World} {S : Nat → Prop} {v : Value} {r : List Nd} {x : Int} (h : Tv w S v r) (hx : isN r = some x) : v = .iface 168 (.agg #[.int .i64 x]) := by
  cases h using Tv_i with
  | num v => simp [isN] at hx; rw [hx]
  | var s => simp [isN] at hx
  | index s x r h => exfalso; have := h.pos; cases r with
    | nil => simp at this
    | cons a l => cases l <;> simp [isN] at hx
  | call s ar A vs F _ _ => exfalso; cases hj : joinF F A with
    | nil => rw [hj] at hx; simp [isN] at hx
    | cons a l => rw [hj] at hx; cases l <;> simp [isN] at hx
  | inn => simp [isN] at hx
  | un op x r h => exfalso; have := h.pos; cases r with
    | nil => simp at this
    | cons a l => cases l <;> simp [isN] at hx
  | bin op x y r t h1 h2 => exfalso; have := h1.pos; cases r with
    | nil => simp at this
    | cons a l => cases l <;> cases t <;> simp [isN] at hx
  | and x y r t h1 h2 => exfalso; have := h1.pos; cases r with
    | nil => simp at this
    | cons a l => cases l <;> cases t <;> simp [isN] at hx
  | or x y r t h1 h2 => exfalso; have := h1.pos; cases r with
    | nil => simp at this
    | cons a l => cases l <;> cases t <;> simp [isN] at hx
theorem Tv.none {w : World} {S : Nat → Prop} {v : Value} {r : List Nd} (h : Tv w S v r) (hx : isN r = none) : ∃ t x, v = .iface t x ∧ t ≠ 168 := by
  cases h using Tv_i with
  | num v => simp [isN] at hx
  | _ => exact ⟨_, _, rfl, by decide⟩

end Go.Proofs.YtlbdmahkmangbaaGreatDoor

namespace Go.Proofs.YtlbdmahkmangbaaGreatDoor
open Go.RowKit
set_option linter.unusedVariables false
set_option linter.unusedSimpArgs false

theorem Tv.bel {w w' : World} {S : Nat → Prop} {v : Value} {r : List Nd} (h : Tv w S v r) (hS : ∀ B, S B → B < w.heap.size) (hb : Below w.heap.size w w') : Tv w' S v r := h.keep (fun _ h => h) (fun B hB => hb.block B (hS B hB))
theorem size0 {s : ByteArray} (h : s.toList = []) : s = ⟨#[]⟩ := by
  have hl : ∀ (n : Nat) (i : Nat) (r : List UInt8), s.size - i = n → ByteArray.toList.loop s i r = [] → r = [] := by
    intro n
    induction n with
    | zero =>
      intro i r hi h
      rw [ByteArray.toList.loop, if_neg (by omega)] at h
      simpa using h
    | succ n ih =>
      intro i r hi h
      rw [ByteArray.toList.loop, if_pos (by omega)] at h
      have := ih (i + 1) _ (by omega) h
      simp at this
  have h0 : s.size = 0 := by
    rcases Nat.eq_zero_or_pos s.size with h0 | hp
    · exact h0
    · rw [ByteArray.toList, ByteArray.toList.loop, if_pos hp] at h
      have := hl _ _ _ rfl h
      simp at this
  apply ByteArray.ext
  exact Array.eq_empty_of_size_eq_zero h0
/-- The fields that a node of its kind does not use. -/
theorem node_rest {n : Nd} (h : nodeB n = true) : (n.kind = 1 ∨ n.kind = 5 ∨ n.kind = 6 ∨ n.kind = 7 ∨ n.kind = 8 ∨ n.kind = 9 → n.name = ⟨#[]⟩) ∧ (n.kind = 2 ∨ n.kind = 3 ∨ n.kind = 5 ∨ n.kind = 8 ∨ n.kind = 9 → n.val = 0) := by
  unfold nodeB at h
  refine ⟨fun hk => ?_, fun hk => ?_⟩
  · apply size0
    rcases hk with hk | hk | hk | hk | hk | hk <;> (simp [hk] at h; exact h.2)
  · rcases hk with hk | hk | hk | hk | hk <;> (simp [hk] at h; exact h.1)

/-- What nodeOf makes. -/
def nodeV (n : Nd) (ar : Value) (vs : Nat → Value) : Value :=
  if n.kind = 1 then .iface 168 (.agg #[.int .i64 n.val])
  else if n.kind = 2 then .iface 170 (.agg #[.string n.name])
  else if n.kind = 3 then .iface 154 (.agg #[.string n.name, vs 0])
  else if n.kind = 4 then .iface 164 (.agg #[.string n.name, ar])
  else if n.kind = 6 then .iface 156 (.agg #[.int .i64 n.val, vs 0])
  else if n.kind = 7 then .iface 158 (.agg #[.int .i64 n.val, vs 0, vs 1])
  else if n.kind = 8 then .iface 160 (.agg #[vs 0, vs 1])
  else if n.kind = 9 then .iface 161 (.agg #[vs 0, vs 1])
  else .iface 172 (.agg #[])

set_option maxRecDepth 100000 in
set_option maxHeartbeats 4000000 in
theorem nodeOf_any (n : Nd) (hn : nodeB n = true) (A : Nat) (hA : arity n = A) (S : Nat → Prop) (ar : Value) (vs : Nat → Value) (w : World) (ha : Args w S ar A vs) (hI : ∀ i, i < A → ∃ t x, vs i = .iface t x) :
    Calls Tryz.prog 68 #[.agg #[.int .i64 n.kind, .int .i64 n.val, .string n.name], ar] w fun e w' => e = .returned (nodeV n ar vs) ∧ Below w.heap.size w w' := by
  have hkk := kind_good hn
  obtain ⟨nk, nv, nm⟩ := n
  obtain ⟨a, cap, rfl, hc1, hc2, hc⟩ := ha
  simp only at hkk ⊢
  have hk : nk = 1 ∨ nk = 2 ∨ nk = 3 ∨ nk = 4 ∨ nk = 5 ∨ nk = 6 ∨ nk = 7 ∨ nk = 8 ∨ nk = 9 := by omega
  have bx : ∀ o, Below w.heap.size w (w.alloc o) := fun o => (Below.refl _ _).alloc (Nat.le_refl _) o
  rcases hk with rfl | rfl | rfl | rfl | rfl | rfl | rfl | rfl | rfl
  · go_enter Tryz.func68, Tryz.ntmps68
    go_wp2_with fail
    go_ret
    exact ⟨rfl, bx _⟩
  · go_enter Tryz.func68, Tryz.ntmps68
    go_wp2_with fail
    go_ret
    exact ⟨rfl, bx _⟩
  · have e1 : A = 1 := by simp [arity] at hA; omega
    subst e1
    obtain ⟨B, rfl, -, hcc⟩ := hc (by omega)
    have hlt := World.block_lt_of_cell? _ _ (hcc 0 (by omega))
    have q0 : ∀ o, (w.alloc o).cell? ⟨B, 0, none⟩ = some (vs 0) := fun o => ((bx o).cell (p := ⟨B, 0, none⟩) hlt).trans (hcc 0 (by omega))
    obtain ⟨t0, x0, h0⟩ := hI 0 (by omega)
    have HE : Hid (nodeV ⟨3, nv, nm⟩ (.slice (some ⟨B, 0, none⟩) 1 cap) vs = .iface 154 (.agg #[.string nm, vs 0])) := rfl
    rw [HE.out]
    rw [h0] at q0 ⊢
    clear hc hcc hI
    go_enter Tryz.func68, Tryz.ntmps68
    go_wp2_with fail
    go_quiet (fail)
    go_wp2_with fail
    go_ret
    exact ⟨rfl, below_drewN (bx _) _⟩
  · have HE : Hid (nodeV ⟨4, nv, nm⟩ (.slice a A cap) vs = .iface 164 (.agg #[.string nm, .slice a A cap])) := rfl
    rw [HE.out]
    clear hc hI
    go_enter Tryz.func68, Tryz.ntmps68
    go_wp2_with fail
    go_ret
    exact ⟨rfl, bx _⟩
  · go_enter Tryz.func68, Tryz.ntmps68
    go_wp2_with fail
    go_ret
    exact ⟨rfl, bx _⟩
  · have e1 : A = 1 := by simp [arity] at hA; omega
    subst e1
    obtain ⟨B, rfl, -, hcc⟩ := hc (by omega)
    have hlt := World.block_lt_of_cell? _ _ (hcc 0 (by omega))
    have q0 : ∀ o, (w.alloc o).cell? ⟨B, 0, none⟩ = some (vs 0) := fun o => ((bx o).cell (p := ⟨B, 0, none⟩) hlt).trans (hcc 0 (by omega))
    obtain ⟨t0, x0, h0⟩ := hI 0 (by omega)
    have HE : Hid (nodeV ⟨6, nv, nm⟩ (.slice (some ⟨B, 0, none⟩) 1 cap) vs = .iface 156 (.agg #[.int .i64 nv, vs 0])) := rfl
    rw [HE.out]
    rw [h0] at q0 ⊢
    clear hc hcc hI
    go_enter Tryz.func68, Tryz.ntmps68
    go_wp2_with fail
    go_quiet (fail)
    go_wp2_with fail
    go_ret
    exact ⟨rfl, below_drewN (bx _) _⟩
  all_goals
    have e1 : A = 2 := by simp [arity] at hA; omega
    subst e1
    obtain ⟨B, rfl, -, hcc⟩ := hc (by omega)
    have hlt := World.block_lt_of_cell? _ _ (hcc 0 (by omega))
    have q0 : ∀ o, (w.alloc o).cell? ⟨B, 0, none⟩ = some (vs 0) := fun o => ((bx o).cell (p := ⟨B, 0, none⟩) hlt).trans (hcc 0 (by omega))
    have q1 : ∀ o, (w.alloc o).cell? ⟨B, 1, none⟩ = some (vs 1) := fun o => ((bx o).cell (p := ⟨B, 1, none⟩) hlt).trans (hcc 1 (by omega))
    obtain ⟨t0, x0, h0⟩ := hI 0 (by omega)
    obtain ⟨t1, x1, h1⟩ := hI 1 (by omega)
    clear hc hcc hI
  · have HE : Hid (nodeV ⟨7, nv, nm⟩ (.slice (some ⟨B, 0, none⟩) 2 cap) vs = .iface 158 (.agg #[.int .i64 nv, vs 0, vs 1])) := rfl
    rw [HE.out]
    rw [h0] at q0
    rw [h1] at q1
    rw [h0, h1]
    go_enter Tryz.func68, Tryz.ntmps68
    go_wp2_with fail
    go_quiet (fail)
    go_wp2_with fail
    go_ret
    exact ⟨rfl, below_drewN (bx _) _⟩
  · have HE : Hid (nodeV ⟨8, nv, nm⟩ (.slice (some ⟨B, 0, none⟩) 2 cap) vs = .iface 160 (.agg #[vs 0, vs 1])) := rfl
    rw [HE.out]
    rw [h0] at q0
    rw [h1] at q1
    rw [h0, h1]
    go_enter Tryz.func68, Tryz.ntmps68
    go_wp2_with fail
    go_quiet (fail)
    go_wp2_with fail
    go_ret
    exact ⟨rfl, below_drewN (bx _) _⟩
  · have HE : Hid (nodeV ⟨9, nv, nm⟩ (.slice (some ⟨B, 0, none⟩) 2 cap) vs = .iface 161 (.agg #[vs 0, vs 1])) := rfl
    rw [HE.out]
    rw [h0] at q0
    rw [h1] at q1
    rw [h0, h1]
    go_enter Tryz.func68, Tryz.ntmps68
    go_wp2_with fail
    go_quiet (fail)
    go_wp2_with fail
    go_ret
    exact ⟨rfl, below_drewN (bx _) _⟩


/-- What nodeOf makes of operands is the expression that they make with the node. -/
theorem nodeT (n : Nd) (hn : nodeB n = true) (A : Nat) (hA : arity n = A) (w : World) (S : Nat → Prop) (ar : Value) (vs : Nat → Value) (F : Nat → List Nd) (ha : Args w S ar A vs) (hv : ∀ i, i < A → Tv w S (vs i) (F i)) : Tv w S (nodeV n ar vs) (joinF F A ++ [n]) := by
  have hkk := kind_good hn
  obtain ⟨hr1, hr2⟩ := node_rest hn
  obtain ⟨nk, nv, nm⟩ := n
  simp only at hkk hr1 hr2
  have hk : nk = 1 ∨ nk = 2 ∨ nk = 3 ∨ nk = 4 ∨ nk = 5 ∨ nk = 6 ∨ nk = 7 ∨ nk = 8 ∨ nk = 9 := by omega
  rcases hk with rfl | rfl | rfl | rfl | rfl | rfl | rfl | rfl | rfl
  · obtain rfl := hr1 (by omega)
    have e1 : A = 0 := by simp [arity] at hA; omega
    subst e1
    exact .num nv
  · obtain rfl := hr2 (by omega)
    have e1 : A = 0 := by simp [arity] at hA; omega
    subst e1
    exact .var nm
  · obtain rfl := hr2 (by omega)
    have e1 : A = 1 := by simp [arity] at hA; omega
    subst e1
    exact .index nm _ _ (hv 0 (by omega))
  · have e1 : nv = A := by simp [arity] at hA; omega
    subst e1
    exact .call nm ar A vs F ha hv
  · obtain rfl := hr1 (by omega)
    obtain rfl := hr2 (by omega)
    have e1 : A = 0 := by simp [arity] at hA; omega
    subst e1
    exact .inn
  · obtain rfl := hr1 (by omega)
    have e1 : A = 1 := by simp [arity] at hA; omega
    subst e1
    exact .un nv _ _ (hv 0 (by omega))
  · obtain rfl := hr1 (by omega)
    have e1 : A = 2 := by simp [arity] at hA; omega
    subst e1
    exact .bin nv _ _ _ _ (hv 0 (by omega)) (hv 1 (by omega))
  · obtain rfl := hr1 (by omega)
    obtain rfl := hr2 (by omega)
    have e1 : A = 2 := by simp [arity] at hA; omega
    subst e1
    exact .and _ _ _ _ (hv 0 (by omega)) (hv 1 (by omega))
  · obtain rfl := hr1 (by omega)
    obtain rfl := hr2 (by omega)
    have e1 : A = 2 := by simp [arity] at hA; omega
    subst e1
    exact .or _ _ _ _ (hv 0 (by omega)) (hv 1 (by omega))

end Go.Proofs.YtlbdmahkmangbaaGreatDoor
