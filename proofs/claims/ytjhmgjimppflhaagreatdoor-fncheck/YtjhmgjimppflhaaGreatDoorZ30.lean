import Derived.Test.YtjhmgjimppflhaaGreatDoorZ29
namespace Go.Proofs.YtjhmgjimppflhaaGreatDoor
set_option linter.unusedVariables false
set_option linter.unusedSimpArgs false
set_option maxRecDepth 100000
set_option maxHeartbeats 16000000
section
open Go.RowKit
theorem QP.drew {g M : Nat} {a : Option Addr} {len cap O R4 N fl gl : Nat} {w W : World} {b c b' c' : Nat} {gs : List Gl} {Q : List FV} {bb bn bc : Nat} {R : List SV} (h : QP g M a len cap O R4 N fl gl w W b c b' c' gs Q bb bn bc R) : QP g M a len cap O R4 N fl gl w W.drew b c b' c' gs Q bb bn bc R := h.below (Below.refl _ _).drew
theorem QP.rlen {g M : Nat} {a : Option Addr} {len cap O R4 N fl gl : Nat} {w W : World} {b c b' c' : Nat} {gs : List Gl} {Q : List FV} {bb bn bc : Nat} {R : List SV} (h : QP g M a len cap O R4 N fl gl w W b c b' c' gs Q bb bn bc R) : R.length ≤ 15000 := by have := h.rl; omega
theorem QP.rlen' {g M : Nat} {a : Option Addr} {len cap O R4 N fl gl : Nat} {w W : World} {b c b' c' : Nat} {gs : List Gl} {Q : List FV} {bb bn bc : Nat} {R R' : List SV} (h : QP g M a len cap O R4 N fl gl w W b c b' c' gs Q bb bn bc R) (he : R'.length = R.length + 1) : R'.length ≤ 20000 := by have := h.rl; omega
theorem gl_pos {gl : Nat} (h : 1 ≤ gl ∧ gl ≤ 20) : (0 : Int) < (gl : Int) := by omega
theorem nat_int {f n : Nat} (h : f < n) : (0 : Int) ≤ (f : Int) ∧ (f : Int) < (n : Int) := by omega
theorem le_big {n : Nat} (h : n ≤ 3000) : n ≤ 100000 := by omega
theorem le_big2 {n : Nat} (h : n ≤ 2100) : n ≤ 100000 := by omega
theorem le_15 {n : Nat} (h : n ≤ 10000) : n ≤ 15000 := by omega
theorem le_20 {n : Nat} (h : n ≤ 10000) : n ≤ 20000 := by omega
def lenS : Value → Nat
  | .slice _ n _ => n
  | _ => 0
theorem loop_next {vn xn n n' : Nat} {y : Int} (hy : y < 2) (hlt : (vn : Int) < 500 + y) (hv : vn = n) (hx : xn = n + 1) (hn : n' = n + 1) : xn = n' ∧ n' ≤ 10000 ∧ 502 - xn < 502 - vn := by omega
theorem loop_next2 {vn xn : Nat} {ns : List Nd} {y k x : Int} {s : ByteArray} (hy : y < 60) (hlt : (vn : Int) < 1960 + y) (hv : vn = ns.length) (hx : xn = ns.length + 1) (ho : okN ns 2100) (hs : s.size ≤ 100000) : xn = (ns ++ [(⟨k, x, s⟩ : Nd)]).length ∧ (ns ++ [(⟨k, x, s⟩ : Nd)]).length ≤ 2100 ∧ okN (ns ++ [⟨k, x, s⟩]) 2100 ∧ 2100 - xn < 2100 - vn := by
  have h1 : (ns ++ [(⟨k, x, s⟩ : Nd)]).length = ns.length + 1 := by simp
  refine ⟨by omega, by omega, ⟨by omega, fun n hn => ?_⟩, by omega⟩
  rcases List.mem_append.1 hn with hn | hn
  · exact ho.2 n hn
  · simp only [List.mem_singleton] at hn
    subst hn
    exact hs
theorem size_alloc_le (w : World) (o : Obj) : w.heap.size ≤ (w.alloc o).heap.size := by simp
theorem QP.keep {g M : Nat} {a : Option Addr} {len cap O R4 N fl gl : Nat} {w W X : World} {b c b' c' : Nat} {gs : List Gl} {Q : List FV} {bb bn bc : Nat} {R : List SV} (h : QP g M a len cap O R4 N fl gl w W b c b' c' gs Q bb bn bc R) {x : Nat} {p q : Value} (hs : W.cell? ⟨O, 1, none⟩ = some p ∧ W.cell? ⟨b', x, none⟩ = some q) (ht : Tcs (fun k => k = g ∨ W.heap.size ≤ k) W X) : X.cell? ⟨O, 1, none⟩ = some p ∧ X.cell? ⟨b', x, none⟩ = some q := by
  obtain ⟨l0, l1, l2, l3, l4⟩ := h.pp.lo
  obtain ⟨⟨s1, s2⟩, s3, s4⟩ := h.pp.rng
  exact ⟨(World.cell?_of_block (ht.block O l4 (fun e => by have e : O = g ∨ W.heap.size ≤ O := e; omega))).trans hs.1, (World.cell?_of_block (ht.block b' s4 (fun e => by have e : b' = g ∨ W.heap.size ≤ b' := e; omega))).trans hs.2⟩
theorem mem_small {ps : List ByteArray} {s : ByteArray} (h : s ∈ ps) (hs : ps.all (fun p => decide (p.size ≤ 100000)) = true) : s.size ≤ 100000 := by simpa using List.all_eq_true.1 hs s h
section
variable {P : Program} {ops : Array Oper} {Q : Exit → Act → World → Prop} {md : Region.Mode} {S : World → Prop} {l : Nat}
/-- One of two operations may come up. -/
theorem wpAnyE_two {i j : Nat} {oi oj : Oper} {fuel : Nat} {listed : Array Bool} {a : Act} {w : World} (hr : Region.ready md ops listed = [i, j]) (hi : ops[i]? = some oi) (hj : ops[j]? = some oj)
    (h1 : ∀ K : Act → World → Prop, Shut (∀ a' w', (i ≠ l → S w') → wpAnyE P md ops Q S l fuel (listed.setIfInBounds i true) a' w' → K a' w') → if Region.wanted oi (yielded ops a.tmps) = true then oi.wp P a w K Q else K (a.put oi.dst undef) w)
    (h2 : ∀ K : Act → World → Prop, Shut (∀ a' w', (j ≠ l → S w') → wpAnyE P md ops Q S l fuel (listed.setIfInBounds j true) a' w' → K a' w') → if Region.wanted oj (yielded ops a.tmps) = true then oj.wp P a w K Q else K (a.put oj.dst undef) w) : wpAnyE P md ops Q S l (fuel + 1) listed a w := by
  have key : ∀ (x : Nat) (o : Oper), ops[x]? = some o → (∀ K : Act → World → Prop, Shut (∀ a' w', (x ≠ l → S w') → wpAnyE P md ops Q S l fuel (listed.setIfInBounds x true) a' w' → K a' w') → if Region.wanted o (yielded ops a.tmps) = true then o.wp P a w K Q else K (a.put o.dst undef) w) → wpOp P ops Q x (fun a' w' => (x ≠ l → S w') ∧ wpAnyE P md ops Q S l fuel (listed.setIfInBounds x true) a' w') a w := fun x o ho h => by
    unfold wpOp
    simp only [ho]
    have := h (fun a' w' => (x ≠ l → S w') ∧ wpAnyE P md ops Q S l fuel (listed.setIfInBounds x true) a' w') (fun a' w' h1 h2 => ⟨h1, h2⟩)
    split
    · rename_i hw
      rw [if_pos hw] at this
      exact .inl this
    · rename_i hw
      rw [if_neg hw] at this
      exact this
  refine ⟨fun h0 => (by rw [hr] at h0; cases h0), fun x hx => ?_⟩
  rw [hr] at hx
  simp only [List.mem_cons, List.not_mem_nil, or_false] at hx
  rcases hx with rfl | rfl
  · exact key x oi hi h1
  · exact key x oj hj h2
end
theorem le_20b {n : Nat} (h : n ≤ 20) : n ≤ 100000 := by omega
theorem size_2 (w : World) (o p : Obj) : w.heap.size ≤ ((w.alloc o).alloc p).heap.size := by simp; omega
theorem eq_le {k n : Nat} (h : k = n) : n ≤ k := by omega
theorem eq_le1 {k n : Nat} (h : k = n + 1) : n ≤ k := by omega
theorem ps_snoc {ps : List ByteArray} {s : ByteArray} (h : ps.length ≤ 20 ∧ ∀ p ∈ ps, p.size ≤ 100000) (hs : s.size ≤ 100000) : (ps ++ [s]).length ≤ 30 ∧ ∀ p ∈ ps ++ [s], p.size ≤ 100000 := by
  refine ⟨by simp; omega, fun p hp => ?_⟩
  rcases List.mem_append.1 hp with hp | hp
  · exact h.2 p hp
  · simp only [List.mem_singleton] at hp
    subst hp
    exact hs
theorem lit_e (w : World) (o : Obj) : ((w.alloc o).alloc (.cells #[] 9)).ownsRow w.heap.size 9 1 (.slice (some ⟨w.heap.size + 1, 0, none⟩) 0 0) 0 [] := by
  have := World.ownsRow_lit (base := w.heap.size) (w.alloc o) (e := 9) (size := 1) #[] 0 (size_alloc_le w o) (by decide) rfl
  simpa using this
theorem lit_a {g : Nat} {w X : World} (ps : List ByteArray) (cs : Array Value) (hcs : cs.toList = ps.map Value.string) (hg : g < w.heap.size) (ht : Tcs (fun j => j = w.heap.size) ((w.alloc (.cells #[] 9)).alloc (.cells cs 9)) X) (hl : ps.length = 4 := by rfl) : ∀ W, Tcs (S0 g) X W → Strs W (.slice (some ⟨w.heap.size + 1, 0, none⟩) 4 4) ps := fun W hW => by
  have h := lit_fz (S := fun k => k = g ∨ k = w.heap.size) (w := w.alloc (.cells #[] 9)) ps cs 4 hl.symm hcs (by decide) (fun k hk => by simp; omega) W ((ht.mono fun k hk => .inr hk).next hW (fun k hk => .inl (.inl hk)))
  simpa using h
theorem lit_b {g : Nat} {w X : World} (ps : List ByteArray) (cs : Array Value) (hcs : cs.toList = ps.map Value.string) (hg : g < w.heap.size) (ht : Tcs (fun j => j = w.heap.size + 1) ((w.alloc (.cells cs 9)).alloc (.cells #[] 9)) X) (hl : ps.length = 4 := by rfl) : ∀ W, Tcs (S0 g) X W → Strs W (.slice (some ⟨w.heap.size, 0, none⟩) 4 4) ps := fun W hW => by
  have h0 : Tcs (S0 g) (w.alloc (.cells cs 9)) X := ((Tcs.refl (S0 g) _).alloc (.cells #[] 9)).next ht (fun k hk => .inr (by have e : k = w.heap.size + 1 := hk; simp; omega))
  exact lit_fz (S := S0 g) (w := w) ps cs 4 hl.symm hcs (by decide) (fun k hk => by have e : k = g := hk; omega) W (h0.trans hW)
end
end Go.Proofs.YtjhmgjimppflhaaGreatDoor
