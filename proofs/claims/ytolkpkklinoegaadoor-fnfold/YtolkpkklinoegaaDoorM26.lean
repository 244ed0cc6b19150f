import Derived.Test.YtolkpkklinoegaaDoorM19
import Derived.OwnWalk
import Derived.Laws.OwnMore
import Derived.Laws.AppendOwnNone
import Derived.Test.YtolkpkklinoegaaDoorM04
import Derived.BigQuiet
import Derived.Test.YtolkpkklinoegaaDoorM10
import Derived.WalkKit
import Derived.WalkSpells
namespace Go.Proofs.YtolkpkklinoegaaDoor
set_option linter.unusedVariables false
set_option linter.unusedSimpArgs false
set_option maxRecDepth 100000
set_option maxHeartbeats 16000000
section
open Go.RowKit
def encNd (n : Nd) : List Value := [.int .i64 n.kind, .int .i64 n.val, .string n.name]
def flatN (ns : List Nd) : List Value := ns.flatMap encNd
theorem flatN_len (ns : List Nd) : (flatN ns).length = ns.length * 3 := by
 induction ns with
 | nil => rfl
 | cons n r ih =>
  have : flatN (n :: r) = encNd n ++ flatN r := rfl
  rw [this, List.length_append, ih]
  simp [encNd]
  omega
theorem flatN_append (a b : List Nd) : flatN (a ++ b) = flatN a ++ flatN b := by simp [flatN]
theorem flatN_at (ns : List Nd) (j : Nat) (hj : j < ns.length) : (flatN ns)[j * 3]? = some (.int .i64 ns[j].kind) ∧ (flatN ns)[j * 3 + 1]? = some (.int .i64 ns[j].val) ∧ (flatN ns)[j * 3 + 2]? = some (.string ns[j].name) := by
 induction ns generalizing j with
 | nil => simp at hj
 | cons n r ih =>
  have e : flatN (n :: r) = encNd n ++ flatN r := rfl
  cases j with
  | zero => rw [e]; simp [encNd]
  | succ j =>
   have := ih j (by simpa using hj)
   rw [e]
   have e1 : (j + 1) * 3 = j * 3 + 3 := by omega
   have hl : (encNd n).length = 3 := rfl
   refine ⟨?_, ?_, ?_⟩
   ·rw [e1, List.getElem?_append_right (by omega), hl]; simpa using this.1
   ·rw [e1, List.getElem?_append_right (by omega), hl, show j * 3 + 3 + 1 - 3 = j * 3 + 1 by omega]; simpa using this.2.1
   ·rw [e1, List.getElem?_append_right (by omega), hl, show j * 3 + 3 + 2 - 3 = j * 3 + 2 by omega]; simpa using this.2.2
theorem flatN_split (ns : List Nd) (i : Nat) (hi : i < ns.length * 3) : ∃ j, j < ns.length ∧ (i = j * 3 ∨ i = j * 3 + 1 ∨ i = j * 3 + 2) := ⟨i / 3, by omega, by omega⟩
theorem addrO (g off j : Nat) : (⟨g, off, none⟩ : Addr).add j = ⟨g, off + j, none⟩ := by
 simp [Addr.add]
 try (intro h; omega)
theorem nodes_news {w : World} {b off : Nat} {ns : List Nd} (h : NodesC w b off ns) : ∀ i u, (flatN ns)[i]? = some u → w.cell? ((⟨b, off, none⟩ : Addr).add i) = some u := by
 intro i u hu
 have hi : i < ns.length * 3 := by rw [← flatN_len]; exact (List.getElem?_eq_some_iff.1 hu).1
 obtain ⟨j, hj, he⟩ := flatN_split ns i hi
 obtain ⟨f0, f1, f2⟩ := flatN_at ns j hj
 obtain ⟨c0, c1, c2⟩ := h j hj
 rw [addrO]
 rcases he with rfl | rfl | rfl
 ·rw [f0] at hu; cases hu; exact c0
 ·rw [f1] at hu; cases hu; rw [← Nat.add_assoc]; exact c1
 ·rw [f2] at hu; cases hu; rw [← Nat.add_assoc]; exact c2
theorem flatN_one (ns : List Nd) : ∀ u ∈ flatN ns, u.oneCell' = true := by
 intro u hu
 simp only [flatN, List.mem_flatMap] at hu
 obtain ⟨n, _, hn⟩ := hu
 simp only [encNd, List.mem_cons, List.not_mem_nil, or_false] at hn
 rcases hn with rfl | rfl | rfl <;> rfl
def NRow (B : Nat) (w : World) (v : Value) (ns : List Nd) : Prop := w.ownsRow B 32 3 v ns.length (flatN ns)
theorem NRow.nodes {B : Nat} {w : World} {v : Value} {ns : List Nd} (h : NRow B w v ns) : Nodes w v ns := by
 have h0 := h
 obtain ⟨hl, h⟩ := h
 rcases h with ⟨rfl, hz⟩ | ⟨g, cap, cur, rfl, hg, hh, hc1, hc2, hc3, hc4⟩
 ·exact ⟨none, 0, by rw [hz], by omega, by omega, fun h => absurd h (by omega)⟩
 ·refine ⟨_, cap, rfl, hc1, by simp only [maxLen] at hc2; omega, fun _ => ⟨g, 0, rfl, fun j hj => ?_⟩⟩
  obtain ⟨f0, f1, f2⟩ := flatN_at ns j hj
  have k0 := World.ownsRow.cells h0 (g := g) rfl _ _ f0
  have k1 := World.ownsRow.cells h0 (g := g) rfl _ _ f1
  have k2 := World.ownsRow.cells h0 (g := g) rfl _ _ f2
  rw [addrO] at k0 k1 k2
  exact ⟨k0, by rw [Nat.add_assoc]; exact k1, by rw [Nat.add_assoc]; exact k2⟩
theorem NRow.below {B : Nat} {w w' : World} {v : Value} {ns : List Nd} (h : NRow B w v ns) (hb : Below w.heap.size w w') : NRow B w' v ns := by
 obtain ⟨g1, g2⟩ := h
 refine ⟨g1, ?_⟩
 rcases g2 with g2 | ⟨g, cap, cur, rfl, g3, g4, g5⟩
 ·exact .inl g2
 ·refine .inr ⟨g, cap, cur, rfl, g3, ?_, g5⟩
  rw [hb.block g (Array.getElem?_eq_some_iff.1 g4).1]
  exact g4
theorem info_node : (Tryd.prog.info? 32).map (fun i => (i.zero, i.size, i.bytes)) = some (some (.agg #[.int .i64 0, .int .i64 0, .string ⟨#[]⟩]), 3, 32) := by kernel_rfl
theorem Nodes.grown {w w' : World} {v : Value} {ns : List Nd} {row : Option Nat} (h : Nodes w v ns) (hg : w.grownBy w' row) (hne : ∀ g, v.ownBlock = some g → row ≠ some g) : Nodes w' v ns := by
 obtain ⟨a, cap, rfl, h1, h2, h⟩ := h
 refine ⟨a, cap, rfl, h1, h2, fun h0 => ?_⟩
 obtain ⟨b, off, rfl, hc⟩ := h h0
 refine ⟨b, off, rfl, fun j hj => ?_⟩
 obtain ⟨c0, c1, c2⟩ := hc j hj
 have hlt := World.block_lt_of_cell? _ _ c0
 have hb := hg.block b hlt (fun e => hne b rfl e.symm)
 exact ⟨(World.cell?_of_block (a := ⟨b, off + j * 3, none⟩) hb).trans c0, (World.cell?_of_block (a := ⟨b, off + j * 3 + 1, none⟩) hb).trans c1, (World.cell?_of_block (a := ⟨b, off + j * 3 + 2, none⟩) hb).trans c2⟩
theorem ownG {w w' : World} {B : Nat} {e : TypeId} {sz : Nat} {v : Value} {n : Nat} {xs : List Value} {row : Option Nat} (h : w.ownsRow B e sz v n xs) (hg : w.grownBy w' row) (hne : ∀ g, v.ownBlock = some g → row ≠ some g) : w'.ownsRow B e sz v n xs := by
 obtain ⟨g1, g2⟩ := h
 refine ⟨g1, ?_⟩
 rcases g2 with g2 | ⟨g, cap, cur, rfl, g3, g4, g5⟩
 ·exact .inl g2
 ·refine .inr ⟨g, cap, cur, rfl, g3, ?_, g5⟩
  rw [hg.block g (Array.getElem?_eq_some_iff.1 g4).1 (fun e => hne g rfl e.symm)]
  exact g4
theorem ownB {w w' : World} {B : Nat} {e : TypeId} {sz : Nat} {v : Value} {n : Nat} {xs : List Value} (h : w.ownsRow B e sz v n xs) (hb : Below w.heap.size w w') : w'.ownsRow B e sz v n xs := by
 obtain ⟨g1, g2⟩ := h
 refine ⟨g1, ?_⟩
 rcases g2 with g2 | ⟨g, cap, cur, rfl, g3, g4, g5⟩
 ·exact .inl g2
 ·refine .inr ⟨g, cap, cur, rfl, g3, ?_, g5⟩
  rw [hb.block g (Array.getElem?_eq_some_iff.1 g4).1]
  exact g4
section
variable {w : World}
theorem wpList_appN {ops : Array Oper} {rest : List Oper} {o : Oper} {a : Act} {Q : Exit → Act → World → Prop} (hgd : o.guard = none) (s x : Operand)
  (ho : o.op = .call { callee := .builtin .append, args := #[s, x], argTypes := #[23, 23] })
  (B : Nat) (v : Value) (ms : List Nd) (hs : a.eval s = v) (hown : NRow B w v ms) (u : Value) (ns : List Nd) (hx : a.eval x = u) (hN : Nodes w u ns)
  (hp : 0 < ns.length) (hb : ms.length + ns.length ≤ 10000000) (hbase : B ≤ w.heap.size)
  (h : ∀ v' w', NRow B w' v' (ms ++ ns) → w.grownBy w' v.ownBlock → (∀ k, v'.ownBlock = some k → v.ownBlock = some k ∨ w.heap.size ≤ k) → wpList Tryd.prog ops Q rest (a.put o.dst v') w') : wpList Tryd.prog ops Q (o :: rest) a w := by
 obtain ⟨i0, hi, hz0, hz1, hz2⟩ := info_parts info_node
 obtain ⟨ad, cap, rfl, hc1, hc2, hc⟩ := hN
 obtain ⟨b, off, rfl, hC⟩ := hc hp
 refine wpList_appF (w := w) hgd s x _ ho B _ i0 _ 3 32 Tryd.underlying23 hi hz0 hz1 hz2 rfl (by decide) v ms.length (flatN ms) hs hown ⟨b, off, none⟩ ns.length cap (flatN ns) hx (flatN_len ns) (nodes_news hC) (flatN_one ns) (by omega) (by omega) hbase fun v' w' h1 h2 h3 => h v' w' ?_ h2 h3
 unfold NRow
 rw [List.length_append, flatN_append]
 exact h1
end
end
section
open Go.RowKit
set_option maxHeartbeats 1000000 in
theorem num_any (v : Int) (w : World) : Calls Tryd.prog 44 #[.int .i64 v] w fun e w' => ∃ x, e = .returned x ∧ Nodes w' x (numN v) ∧ (∀ g, x.ownBlock = some g → w.heap.size ≤ g) ∧ Below w.heap.size w w' := by
 go_enter Tryd.func44, Tryd.ntmps44
 go_wp2_with fail
 refine bodyPost_ret (v := .slice (some ⟨w.heap.size, 0, none⟩) 1 1) (by simp [results, Tryd.results44, go_sem]) rfl ⟨_, rfl, ?_, fun g hg => by simp only [Value.ownBlock, Option.some.injEq] at hg; omega, (Below.refl _ _).alloc (Nat.le_refl _) _⟩
 refine ⟨_, 1, rfl, Nat.le_refl _, by omega, fun _ => ⟨w.heap.size, 0, rfl, fun j hj => ?_⟩⟩
 obtain rfl : j = 0 := by simp [numN] at hj; exact hj
 simp [numN]
set_option maxHeartbeats 1000000 in
theorem is_any (v : Value) (n : Nd) (r : List Nd) (w : World) (hl : (n :: r).length ≤ 1048576) (hN : Nodes w v (n :: r)) :
  Calls Tryd.prog 43 #[v] w fun e w' => e = .returned (.tuple #[.bool (isN (n :: r)).isSome, .int .i64 n.val]) ∧ Below w.heap.size w w' := by
 obtain ⟨a, cap, rfl, hcl, hcm, hc⟩ := hN
 obtain ⟨b, off, rfl, hc1⟩ := hc (by simp)
 obtain ⟨d0, d1, d2⟩ := hc1 0 (by simp)
 simp only [Nat.zero_mul, Nat.add_zero, List.getElem_cons_zero] at d0 d1 d2
 clear hc hc1
 obtain ⟨nk, nv, nm⟩ := n
 simp only at d0 d1 d2
 cases r with
 | nil =>
  have HE : Hid ((isN [(⟨nk, nv, nm⟩ : Nd)]).isSome = decide (nk = 1)) := by
   show _ = _
   by_cases h : nk = 1 <;> simp [isN, h]
  simp only [List.length_cons, List.length_nil] at *
  by_cases h1 : nk = 1
  ·subst h1
   go_enter Tryd.func43, Tryd.ntmps43
   go_wp2_with fail
   go_quiet (fail)
   go_wp2_with fail
   refine bodyPost_ret (v := .tuple #[.bool true, .int .i64 nv]) (by simp [results, Tryd.results43, go_sem]) rfl ⟨?_, below_drewN (Below.refl _ _) _⟩
   rw [HE.out]
   simp
  ·have h1b : (nk == 1) = false := by simp [h1]
   go_enter Tryd.func43, Tryd.ntmps43
   go_wp2_with fail
   go_quiet (fail)
   go_wp2_with fail
   refine bodyPost_ret (v := .tuple #[.bool false, .int .i64 nv]) (by simp [results, Tryd.results43, go_sem]) rfl ⟨?_, below_drewN (Below.refl _ _) _⟩
   rw [HE.out]
   simp [h1]
 | cons m r =>
  have HE : Hid ((isN ((⟨nk, nv, nm⟩ : Nd) :: m :: r)).isSome = false) := rfl
  simp only [List.length_cons] at *
  have h1 : ¬ ((r.length : Int) + 1 + 1 = 1) := by omega
  have h1b : ((r.length : Int) + 1 + 1 == 1) = false := by simp; omega
  have h1c : (((r.length + 1 + 1 : Nat) : Int) == 1) = false := by simp; omega
  go_enter Tryd.func43, Tryd.ntmps43
  go_wp2_with fail
  go_quiet (fail)
  go_wp2_with fail
  refine bodyPost_ret (v := .tuple #[.bool false, .int .i64 nv]) (by simp [results, Tryd.results43, go_sem]) rfl ⟨?_, below_drewN (Below.refl _ _) _⟩
  rw [HE.out]
set_option maxHeartbeats 1000000 in
theorem bool_any (b : Bool) (w : World) : Calls Tryd.prog 63 #[.bool b] w fun e w' => e = .returned (.int .i64 (boolN b)) ∧ w' = w := by
 cases b
 ·go_enter Tryd.func63, Tryd.ntmps63
  go_wp2_with fail
  go_ret
  exact ⟨rfl, rfl⟩
 ·go_enter Tryd.func63, Tryd.ntmps63
  go_wp2_with fail
  go_ret
  exact ⟨rfl, rfl⟩
theorem xor_m1 (a : Int) (h : -2147483648 ≤ a ∧ a ≤ 2147483647) : bits .xor .i64 (-1) a = -1 - a := by
 rw [Ap.bits_xor _ _ ⟨by decide, by decide⟩ h]
 have e : bits .xor .i32 (-1) a = IntKind.i32.wrap (((BitVec.ofInt 32 (-1)) ^^^ (BitVec.ofInt 32 a)).toNat : Int) := rfl
 rw [e, Ap.wrap_toNat32]
 have e1 : BitVec.ofInt 32 (-1) = BitVec.allOnes 32 := by decide
 rw [e1, BitVec.allOnes_xor, BitVec.toInt_not]
 have e2 : (BitVec.ofInt 32 a).toNat = (a % 4294967296).toNat := by simp [BitVec.toNat_ofInt]
 rw [e2]
 have h3 : (0 : Int) ≤ a % 4294967296 := by omega
 simp only [Int.bmod]
 omega
set_option maxHeartbeats 1000000 in
theorem unS_any (op a : Int) (h0 : 0 ≤ op) (h2 : op ≤ 2) (ha : inB a) (w : World) : Calls Tryd.prog 45 #[.int .i64 op, .int .i64 a] w fun e w' => e = .returned (.int .i64 (unN op a)) ∧ w' = w := by
 obtain ⟨ha0, ha1⟩ := ha
 have : op = 0 ∨ op = 1 ∨ op = 2 := by omega
 rcases this with rfl | rfl | rfl
 ·have HE : Hid (unN 0 a = wrap32 (-a)) := by show _ = _; simp [unN, w32]
  have HW : Hid (wrap64 (wrap32 (-a)) = wrap32 (-a)) := Ap.w64_32 _
  go_enter Tryd.func45, Tryd.ntmps45
  go_wp2
  all_goals go_ret
  all_goals refine ⟨Ap.ret_intA ?_, rfl⟩
  all_goals first | exact HE.out.symm | exact HW.out.trans HE.out.symm
 ·by_cases hz : a = 0
  ·subst hz
   go_enter Tryd.func45, Tryd.ntmps45
   go_wp2
   all_goals go_ret
   all_goals exact ⟨rfl, rfl⟩
  ·have HE : Hid (unN 1 a = 0) := by show _ = _; simp [unN, boolN, hz]
   have hzb : (a == 0) = false := by simp [hz]
   go_enter Tryd.func45, Tryd.ntmps45
   go_wp2
   all_goals go_ret
   all_goals exact ⟨Ap.ret_intA HE.out.symm, rfl⟩
 ·have HE : Hid (unN 2 a = -1 - a) := by show _ = _; simp only [unN, w32]; rw [if_neg (by decide), if_neg (by decide)]; exact Ap.w32_id _ ⟨by omega, by omega⟩
  go_enter Tryd.func45, Tryd.ntmps45
  go_wp2
  all_goals go_ret
  all_goals refine ⟨Ap.ret_intA ?_, rfl⟩
  all_goals first | exact HE.out.symm | (rw [HE.out]; exact xor_m1 a ⟨ha0, ha1⟩)
set_option maxHeartbeats 1000000 in
theorem unI_any (op a : Int) (h0 : 0 ≤ op) (h2 : op ≤ 2) (ha : inB a) (w : World) : Calls Tryd.prog 36 #[.int .i64 op, .int .i64 a] w fun e w' => e = .returned (.int .i64 (unN op a)) ∧ w' = w := by
 obtain ⟨ha0, ha1⟩ := ha
 have : op = 0 ∨ op = 1 ∨ op = 2 := by omega
 rcases this with rfl | rfl | rfl
 ·have HE : Hid (unN 0 a = wrap32 (-a)) := by show _ = _; simp [unN, w32]
  have HW : Hid (wrap64 (wrap32 (-a)) = wrap32 (-a)) := Ap.w64_32 _
  go_enter Tryd.func36, Tryd.ntmps36
  go_wp2
  all_goals go_ret
  all_goals refine ⟨Ap.ret_intA ?_, rfl⟩
  all_goals first | exact HE.out.symm | exact HW.out.trans HE.out.symm
 ·by_cases hz : a = 0
  ·subst hz
   go_enter Tryd.func36, Tryd.ntmps36
   go_wp2
   all_goals go_ret
   all_goals exact ⟨rfl, rfl⟩
  ·have HE : Hid (unN 1 a = 0) := by show _ = _; simp [unN, boolN, hz]
   have hzb : (a == 0) = false := by simp [hz]
   go_enter Tryd.func36, Tryd.ntmps36
   go_wp2
   all_goals go_ret
   all_goals exact ⟨Ap.ret_intA HE.out.symm, rfl⟩
 ·have HE : Hid (unN 2 a = -1 - a) := by show _ = _; simp only [unN, w32]; rw [if_neg (by decide), if_neg (by decide)]; exact Ap.w32_id _ ⟨by omega, by omega⟩
  go_enter Tryd.func36, Tryd.ntmps36
  go_wp2
  all_goals go_ret
  all_goals refine ⟨Ap.ret_intA ?_, rfl⟩
  all_goals first | exact HE.out.symm | (rw [HE.out]; exact xor_m1 a ⟨ha0, ha1⟩)
theorem isN_cons {n : Nd} {r : List Nd} {x : Int} (h : isN (n :: r) = some x) : x = n.val := by
 cases r with
 | nil =>
  simp only [isN] at h
  split at h
  ·simpa using h.symm
  ·cases h
 | cons => simp [isN] at h
set_option maxHeartbeats 2000000 in
theorem truth_any (v : Value) (r : List Nd) (w : World) (hp : 0 < r.length) (hl : r.length ≤ 1048576) (hN : Nodes w v r) :
  Calls Tryd.prog 47 #[v] w fun e w' => ∃ x, e = .returned x ∧ Nodes w' x (truthL r) ∧ (∀ g, x.ownBlock = some g → w.heap.size ≤ g) ∧ Below w.heap.size w w' := by
 cases r with
 | nil => simp at hp
 | cons n r =>
 have HN : Hid (Nodes w v (n :: r)) := hN
 have HI : Hid (Calls Tryd.prog 43 #[v] w fun e w' => e = .returned (.tuple #[.bool (isN (n :: r)).isSome, .int .i64 n.val]) ∧ Below w.heap.size w w') := is_any v n r w hl hN
 cases hx : isN (n :: r) with
 | some x =>
  have HV : Hid (x = n.val) := isN_cons hx
  have HT : Hid (truthL (n :: r) = numN (boolN (decide (n.val ≠ 0)))) := by show _ = _; rw [← isN_cons hx]; simp [truthL, hx]
  rw [hx] at HI
  simp only [Option.isSome_some] at HI
  generalize n.val = nv at HI HT HV
  clear hN
  by_cases hz : nv = 0
  ·subst hz
   go_enter Tryd.func47, Tryd.ntmps47
   go_wp2_with fail
   refine HI.out.mono ?_
   rintro e w1 ⟨rfl, hb1⟩
   go_wp2_with fail
   refine (bool_any false w1).mono ?_
   rintro e w2 ⟨rfl, rfl⟩
   go_wp2_with fail
   refine (num_any _ _).mono ?_
   rintro e w3 ⟨u, rfl, hu, hfu, hb3⟩
   have HU : Hid (Nodes w3 u (numN (boolN false))) := hu
   clear hu
   go_wp2_with fail
   refine bodyPost_ret (v := u) (by simp [results, Tryd.results47, go_sem]) rfl ⟨_, rfl, ?_, fun g hg => Nat.le_trans hb1.size (hfu g hg), hb1.trans (hb3.mono hb1.size)⟩
   rw [HT.out]
   exact HU.out
  ·have hzb : (nv != 0) = true := by simp [hz]
   go_enter Tryd.func47, Tryd.ntmps47
   go_wp2_with fail
   refine HI.out.mono ?_
   rintro e w1 ⟨rfl, hb1⟩
   go_wp2_with fail
   refine (bool_any true w1).mono ?_
   rintro e w2 ⟨rfl, rfl⟩
   go_wp2_with fail
   refine (num_any _ _).mono ?_
   rintro e w3 ⟨u, rfl, hu, hfu, hb3⟩
   have HU : Hid (Nodes w3 u (numN (boolN true))) := hu
   clear hu
   go_wp2_with fail
   refine bodyPost_ret (v := u) (by simp [results, Tryd.results47, go_sem]) rfl ⟨_, rfl, ?_, fun g hg => Nat.le_trans hb1.size (hfu g hg), hb1.trans (hb3.mono hb1.size)⟩
   rw [HT.out, decide_eq_true hz]
   exact HU.out
 | none =>
  have HT : Hid (truthL (n :: r) = (n :: r) ++ [⟨1, 0, ⟨#[]⟩⟩, ⟨7, 12, ⟨#[]⟩⟩]) := by show _ = _; simp [truthL, hx]
  rw [hx] at HI
  simp only [Option.isSome_none] at HI
  generalize hq : n :: r = q at HN HT hl hp
  generalize n.val = nv at HI
  clear hN hx hq
  go_enter Tryd.func47, Tryd.ntmps47
  go_wp2_with fail
  refine HI.out.mono ?_
  rintro e w1 ⟨rfl, hb1⟩
  have hs1 := hb1.size
  have HL : Hid (∀ W : World, NRow w1.heap.size (w1.alloc (.cells #[] 32)) (.slice (some ⟨w1.heap.size, 0, none⟩) 0 0) []) := fun _ => World.ownsRow_lit w1 #[] 0 (Nat.le_refl _) (by decide) rfl
  go_wp2_with (at_builtin; refine wpList_appN rfl _ _ rfl w1.heap.size _ [] rfl (HL.out w) _ q rfl (HN.out.below (hb1.trans (((Below.refl _ _).alloc (Nat.le_refl _) _).mono hs1))) hp (by simp; omega) (by simp) ?_)
  intro v2 w2 hR2 hg2 _
  have hB2 : Below w1.heap.size w1 w2 := ((Below.refl _ _).alloc (Nat.le_refl _) _).grown hg2 (by simp) (fun k hk => by simp only [Value.ownBlock, Option.some.injEq] at hk; omega)
  have HR2 : Hid (NRow w1.heap.size w2 v2 q) := hR2
  have HN2 : Hid (Nodes (w2.alloc (.cells #[.int .i64 1, .int .i64 0, .string ⟨#[]⟩, .int .i64 7, .int .i64 12, .string ⟨#[]⟩] 32)) (.slice (some ⟨w2.heap.size, 0, none⟩) 2 2) [⟨1, 0, ⟨#[]⟩⟩, ⟨7, 12, ⟨#[]⟩⟩]) := by
   refine ⟨_, 2, rfl, Nat.le_refl _, by omega, fun _ => ⟨w2.heap.size, 0, rfl, fun j hj => ?_⟩⟩
   have : j = 0 ∨ j = 1 := by simp at hj; omega
   rcases this with rfl | rfl <;> simp
  have hs2 := hB2.size
  clear hR2 hg2
  go_wp2_with (at_builtin; refine wpList_appN rfl _ _ rfl w1.heap.size _ q rfl (HR2.out.below ((Below.refl _ _).alloc (Nat.le_refl _) _)) _ _ rfl HN2.out (by simp) (by simp; omega) (by simp; omega) ?_)
  intro v3 w3 hR3 hg3 _
  have hB3 : Below w1.heap.size w1 w3 := by
   refine (hB2.alloc hs2 _).grown hg3 (by simp; omega) (fun k hk => ?_)
   rcases HR2.out.2 with ⟨rfl, _⟩ | ⟨g, cap, cur, rfl, hg, _⟩
   ·simp [Value.ownBlock] at hk
   ·simp only [Value.ownBlock, Option.some.injEq] at hk; omega
  have HF3 : Hid (∀ g, v3.ownBlock = some g → w1.heap.size ≤ g) := fun g hg => (World.ownsRow.lt hR3 g hg).1
  have HR3 : Hid (Nodes w3 v3 (q ++ [⟨1, 0, ⟨#[]⟩⟩, ⟨7, 12, ⟨#[]⟩⟩])) := hR3.nodes
  clear hR3 hg3
  go_wp2_with fail
  refine bodyPost_ret (v := v3) (by simp [results, Tryd.results47, go_sem]) rfl ⟨_, rfl, ?_, fun g hg => Nat.le_trans hs1 (HF3.out g hg), hb1.trans (hB3.mono hs1)⟩
  rw [HT.out]
  exact HR3.out
end
section
open Go.RowKit
set_option maxHeartbeats 1000000 in
theorem tru_any (b : Bool) (w : World) : Calls Tryd.prog 59 #[.bool b] w fun e w' => e = .returned (.int .i64 (boolN b)) ∧ w' = w := by
 cases b
 ·go_enter Tryd.func59, Tryd.ntmps59
  go_wp2_with fail
  go_ret
  exact ⟨rfl, rfl⟩
 ·go_enter Tryd.func59, Tryd.ntmps59
  go_wp2_with fail
  go_ret
  exact ⟨rfl, rfl⟩
set_option maxRecDepth 100000 in
set_option maxHeartbeats 2000000 in
theorem fold_un (op a : Int) (h0 : 0 ≤ op) (h2 : op ≤ 2) (ha : inB a) (w : World) :
  Calls Tryd.prog 18 #[.iface 89 (.agg #[.int .i64 op, .iface 91 (.agg #[.int .i64 a])])] w fun e w' => e = .returned (.iface 91 (.agg #[.int .i64 (unN op a)])) ∧ Below w.heap.size w w' := by
 have HU : Hid (∀ W, Calls Tryd.prog 36 #[.int .i64 op, .int .i64 a] W fun e w' => e = .returned (.int .i64 (unN op a)) ∧ w' = W) := fun W => unI_any op a h0 h2 ha W
 have a1 := as_un_yes
 have a2 := as_num_yes
 go_enter Tryd.func18, Tryd.ntmps18
 go_wp2_with fail
 refine (HU.out _).mono ?_
 rintro x w1 ⟨rfl, rfl⟩
 go_wp2_with fail
 go_ret
 exact ⟨rfl, ((Below.refl _ _).alloc (Nat.le_refl _) _).alloc (by simp) _⟩
set_option maxRecDepth 100000 in
set_option maxHeartbeats 2000000 in
theorem fold_un_no (op : Int) (u : TypeId) (xv : Value) (hu : u ≠ 91) (w : World) :
  Calls Tryd.prog 18 #[.iface 89 (.agg #[.int .i64 op, .iface u xv])] w fun e w' => e = .returned (.iface 89 (.agg #[.int .i64 op, .iface u xv])) ∧ Below w.heap.size w w' := by
 have n1 := as_un_no
 have n2 := as_bin_no
 have n3 := as_and_no
 have n4 := as_or_no
 have n5 := as_num_no
 have y1 := as_un_yes
 have y2 := as_bin_yes
 have y3 := as_and_yes
 have y4 := as_or_yes
 have y5 := as_num_yes
 go_enter Tryd.func18, Tryd.ntmps18
 go_wp2_with fail
 go_ret
 exact ⟨rfl, ((Below.refl _ _).alloc (Nat.le_refl _) _).alloc (by simp) _⟩
set_option maxRecDepth 100000 in
set_option maxHeartbeats 2000000 in
theorem right_num (op a b : Int) (ux : TypeId) (xv : Value) (w : World) :
  Calls Tryd.prog 37 #[.agg #[.int .i64 op, .iface ux xv, .iface 91 (.agg #[.int .i64 b])], .agg #[.int .i64 a]] w fun e w' => e = .returned (.iface 91 (.agg #[.int .i64 (apN op a b)])) ∧ Below w.heap.size w w' := by
 have n1 := as_un_no
 have n2 := as_bin_no
 have n3 := as_and_no
 have n4 := as_or_no
 have n5 := as_num_no
 have y1 := as_un_yes
 have y2 := as_bin_yes
 have y3 := as_and_yes
 have y4 := as_or_yes
 have y5 := as_num_yes
 have HA : Hid (∀ W, Calls Tryd.prog 60 #[.int .i64 op, .int .i64 a, .int .i64 b] W fun e w' => e = .returned (.int .i64 (apN op a b)) ∧ w' = W) := fun W => ap_i op a b W
 go_enter Tryd.func37, Tryd.ntmps37
 go_wp2_with fail
 refine (HA.out _).mono ?_
 rintro x w1 ⟨rfl, rfl⟩
 go_wp2_with fail
 go_ret
 exact ⟨rfl, (((Below.refl _ _).alloc (Nat.le_refl _) _).alloc (by simp) _).alloc (by simp; omega) _⟩
set_option maxRecDepth 100000 in
set_option maxHeartbeats 2000000 in
theorem right_no (op a : Int) (ux u : TypeId) (xv yv : Value) (hu : u ≠ 91) (w : World) :
  Calls Tryd.prog 37 #[.agg #[.int .i64 op, .iface ux xv, .iface u yv], .agg #[.int .i64 a]] w fun e w' => e = .returned (.iface 95 (.agg #[.int .i64 op, .iface ux xv, .iface u yv])) ∧ Below w.heap.size w w' := by
 have n1 := as_un_no
 have n2 := as_bin_no
 have n3 := as_and_no
 have n4 := as_or_no
 have n5 := as_num_no
 have y1 := as_un_yes
 have y2 := as_bin_yes
 have y3 := as_and_yes
 have y4 := as_or_yes
 have y5 := as_num_yes
 go_enter Tryd.func37, Tryd.ntmps37
 go_wp2_with fail
 go_ret
 exact ⟨rfl, (((Below.refl _ _).alloc (Nat.le_refl _) _).alloc (by simp) _).alloc (by simp; omega) _⟩
set_option maxRecDepth 100000 in
set_option maxHeartbeats 2000000 in
theorem fold_bin_nn (op a b : Int) (w : World) :
  Calls Tryd.prog 18 #[.iface 95 (.agg #[.int .i64 op, .iface 91 (.agg #[.int .i64 a]), .iface 91 (.agg #[.int .i64 b])])] w fun e w' => e = .returned (.iface 91 (.agg #[.int .i64 (apN op a b)])) ∧ Below w.heap.size w w' := by
 have n1 := as_un_no
 have n2 := as_bin_no
 have n3 := as_and_no
 have n4 := as_or_no
 have n5 := as_num_no
 have y1 := as_un_yes
 have y2 := as_bin_yes
 have y3 := as_and_yes
 have y4 := as_or_yes
 have y5 := as_num_yes
 have HA : Hid (∀ W, Calls Tryd.prog 37 #[.agg #[.int .i64 op, .iface 91 (.agg #[.int .i64 a]), .iface 91 (.agg #[.int .i64 b])], .agg #[.int .i64 a]] W fun e w' => e = .returned (.iface 91 (.agg #[.int .i64 (apN op a b)])) ∧ Below W.heap.size W w') := fun W => right_num op a b _ _ W
 go_enter Tryd.func18, Tryd.ntmps18
 go_wp2_with fail
 refine (HA.out _).mono ?_
 rintro x w1 ⟨rfl, hb1⟩
 go_wp2_with fail
 go_ret
 exact ⟨rfl, (((Below.refl _ _).alloc (Nat.le_refl _) _).alloc (by simp) _).trans (hb1.mono (by simp; omega))⟩
set_option maxRecDepth 100000 in
set_option maxHeartbeats 2000000 in
theorem fold_bin_no (op a : Int) (u : TypeId) (yv : Value) (hu : u ≠ 91) (w : World) :
  Calls Tryd.prog 18 #[.iface 95 (.agg #[.int .i64 op, .iface 91 (.agg #[.int .i64 a]), .iface u yv])] w fun e w' => e = .returned (.iface 95 (.agg #[.int .i64 op, .iface 91 (.agg #[.int .i64 a]), .iface u yv])) ∧ Below w.heap.size w w' := by
 have n1 := as_un_no
 have n2 := as_bin_no
 have n3 := as_and_no
 have n4 := as_or_no
 have n5 := as_num_no
 have y1 := as_un_yes
 have y2 := as_bin_yes
 have y3 := as_and_yes
 have y4 := as_or_yes
 have y5 := as_num_yes
 have HA : Hid (∀ W, Calls Tryd.prog 37 #[.agg #[.int .i64 op, .iface 91 (.agg #[.int .i64 a]), .iface u yv], .agg #[.int .i64 a]] W fun e w' => e = .returned (.iface 95 (.agg #[.int .i64 op, .iface 91 (.agg #[.int .i64 a]), .iface u yv])) ∧ Below W.heap.size W w') := fun W => right_no op a _ u _ yv hu W
 go_enter Tryd.func18, Tryd.ntmps18
 go_wp2_with fail
 refine (HA.out _).mono ?_
 rintro x w1 ⟨rfl, hb1⟩
 go_wp2_with fail
 go_ret
 exact ⟨rfl, (((Below.refl _ _).alloc (Nat.le_refl _) _).alloc (by simp) _).trans (hb1.mono (by simp; omega))⟩
set_option maxRecDepth 100000 in
set_option maxHeartbeats 2000000 in
theorem fold_bin_x (op : Int) (u ty : TypeId) (xv yv : Value) (hu : u ≠ 91) (w : World) :
  Calls Tryd.prog 18 #[.iface 95 (.agg #[.int .i64 op, .iface u xv, .iface ty yv])] w fun e w' => e = .returned (.iface 95 (.agg #[.int .i64 op, .iface u xv, .iface ty yv])) ∧ Below w.heap.size w w' := by
 have n1 := as_un_no
 have n2 := as_bin_no
 have n3 := as_and_no
 have n4 := as_or_no
 have n5 := as_num_no
 have y1 := as_un_yes
 have y2 := as_bin_yes
 have y3 := as_and_yes
 have y4 := as_or_yes
 have y5 := as_num_yes
 go_enter Tryd.func18, Tryd.ntmps18
 go_wp2_with fail
 go_ret
 exact ⟨rfl, ((Below.refl _ _).alloc (Nat.le_refl _) _).alloc (by simp) _⟩
set_option maxRecDepth 100000 in
set_option maxHeartbeats 2000000 in
theorem fold_and_x (u ty : TypeId) (xv yv : Value) (hu : u ≠ 91) (w : World) :
  Calls Tryd.prog 18 #[.iface 98 (.agg #[.iface u xv, .iface ty yv])] w fun e w' => e = .returned (.iface 98 (.agg #[.iface u xv, .iface ty yv])) ∧ Below w.heap.size w w' := by
 have n1 := as_un_no
 have n2 := as_bin_no
 have n3 := as_and_no
 have n4 := as_or_no
 have n5 := as_num_no
 have y1 := as_un_yes
 have y2 := as_bin_yes
 have y3 := as_and_yes
 have y4 := as_or_yes
 have y5 := as_num_yes
 go_enter Tryd.func18, Tryd.ntmps18
 go_wp2_with fail
 go_ret
 exact ⟨rfl, ((Below.refl _ _).alloc (Nat.le_refl _) _).alloc (by simp) _⟩
set_option maxRecDepth 100000 in
set_option maxHeartbeats 2000000 in
theorem fold_or_x (u ty : TypeId) (xv yv : Value) (hu : u ≠ 91) (w : World) :
  Calls Tryd.prog 18 #[.iface 100 (.agg #[.iface u xv, .iface ty yv])] w fun e w' => e = .returned (.iface 100 (.agg #[.iface u xv, .iface ty yv])) ∧ Below w.heap.size w w' := by
 have n1 := as_un_no
 have n2 := as_bin_no
 have n3 := as_and_no
 have n4 := as_or_no
 have n5 := as_num_no
 have y1 := as_un_yes
 have y2 := as_bin_yes
 have y3 := as_and_yes
 have y4 := as_or_yes
 have y5 := as_num_yes
 go_enter Tryd.func18, Tryd.ntmps18
 go_wp2_with fail
 go_ret
 exact ⟨rfl, ((Below.refl _ _).alloc (Nat.le_refl _) _).alloc (by simp) _⟩
set_option maxRecDepth 100000 in
set_option maxHeartbeats 2000000 in
theorem fold_else (u : TypeId) (xv : Value) (h1 : u ≠ 89) (h2 : u ≠ 95) (h3 : u ≠ 98) (h4 : u ≠ 100) (w : World) :
  Calls Tryd.prog 18 #[.iface u xv] w fun e w' => e = .returned (.iface u xv) ∧ Below w.heap.size w w' := by
 have n1 := fun W => as_un_no W u xv h1
 have n2 := fun W => as_bin_no W u xv h2
 have n3 := fun W => as_and_no W u xv h3
 have n4 := fun W => as_or_no W u xv h4
 go_enter Tryd.func18, Tryd.ntmps18
 go_wp2_with fail
 go_ret
 exact ⟨rfl, Below.refl _ _⟩
end
section
open Go.RowKit
theorem info_nv : (Tryd.prog.info? 58).map (fun i => (i.zero, i.size, i.bytes)) = some (some .nilIface, 1, 16) := by kernel_rfl
def VRow (B : Nat) (w : World) (v : Value) (us : List Value) : Prop := w.ownsRow B 58 1 v us.length us
theorem VRow.form {B : Nat} {w : World} {v : Value} {us : List Value} (h : VRow B w v us) : ∃ a cap, v = .slice a us.length cap ∧ us.length ≤ cap ∧ cap ≤ 9223372036854775807 ∧ (a = none → us = []) ∧ (∀ ad, a = some ad → ∃ g, ad = ⟨g, 0, none⟩ ∧ B ≤ g ∧ g < w.heap.size ∧ ∀ j u, us[j]? = some u → w.cell? ⟨g, j, none⟩ = some u) := by
 have h0 := h
 rcases h.2 with ⟨rfl, hn⟩ | ⟨g, cap, cur, rfl, hbg, hg, hnc, hcm, hcs, htake⟩
 ·refine ⟨none, 0, by rw [hn], by omega, by omega, fun _ => List.eq_nil_of_length_eq_zero hn, fun ad hh => ?_⟩
  cases hh
 ·refine ⟨_, cap, rfl, hnc, by unfold maxLen at hcm; omega, fun hh => ?_, fun ad hh => ?_⟩
  ·cases hh
  ·simp only [Option.some.injEq] at hh
   refine ⟨g, hh.symm, hbg, (World.ownsRow.lt h0 g rfl).2, fun j u hj => ?_⟩
   have := World.ownsRow.cells h0 (g := g) rfl j u hj
   rw [addrO] at this
   simpa using this
theorem VRow.head {B : Nat} {w : World} {a : Option Addr} {n cap : Nat} {us : List Value} (h : VRow B w (.slice a n cap) us) (lo : Nat) (hlo : lo ≤ us.length) : VRow B w (.slice a lo cap) (us.take lo) := by
 have hl : (us.take lo).length = lo := by simp; omega
 rcases h.2 with ⟨he, hn⟩ | ⟨g, cap', cur, he, hbg, hg, hnc, hcm, hcs, htake⟩
 ·simp only [Value.slice.injEq] at he
  obtain ⟨rfl, rfl, rfl⟩ := he
  have : lo = 0 := by omega
  subst this
  refine ⟨by simp, .inl ⟨by simp, by simp⟩⟩
 ·simp only [Value.slice.injEq] at he
  obtain ⟨rfl, rfl, rfl⟩ := he
  refine ⟨by simp, .inr ⟨g, cap, cur, by rw [hl], hbg, hg, by rw [hl]; omega, hcm, hcs, ?_⟩⟩
  rw [hl, ← htake, List.take_take, Nat.mul_one, Nat.mul_one, Nat.min_eq_left (by omega)]
theorem VRow.own {B : Nat} {w : World} {v : Value} {us : List Value} (h : VRow B w v us) (g : Nat) (hg : v.ownBlock = some g) : B ≤ g ∧ g < w.heap.size := World.ownsRow.lt h g hg
def Src (w : World) (v : Value) (us : List Value) : Prop := ∃ a cap, v = .slice a us.length cap ∧ (a = none → us = []) ∧ ∀ ad, a = some ad → ∀ j u, us[j]? = some u → w.cell? (ad.add j) = some u
theorem Src.below {w w' : World} {v : Value} {us : List Value} (h : Src w v us) (hb : Below w.heap.size w w') : Src w' v us := by
 obtain ⟨a, cap, rfl, h1, h2⟩ := h
 refine ⟨a, cap, rfl, h1, fun ad he j u hj => ?_⟩
 have := h2 ad he j u hj
 exact (hb.cell (p := ad.add j) (World.block_lt_of_cell? _ _ this)).trans this
theorem VRow.src {B : Nat} {w : World} {v : Value} {us : List Value} (h : VRow B w v us) : Src w v us := by
 obtain ⟨a, cap, rfl, _, _, h1, h2⟩ := h.form
 refine ⟨a, cap, rfl, h1, fun ad he j u hj => ?_⟩
 obtain ⟨g, rfl, _, _, h3⟩ := h2 ad he
 have := h3 j u hj
 rw [addrO]
 simpa using this
theorem VRow.tail {B : Nat} {w : World} {a : Option Addr} {n cap : Nat} {us : List Value} (h : VRow B w (.slice a n cap) us) (lo : Nat) (hlo : lo ≤ us.length) : Src w (.slice (if cap = lo then a else a.map (·.add (lo * 1))) (n - lo) (cap - lo)) (us.drop lo) := by
 obtain ⟨a', cap', he, hlc, _, h1, h2⟩ := h.form
 simp only [Value.slice.injEq] at he
 obtain ⟨rfl, rfl, rfl⟩ := he
 refine ⟨_, _, by rw [List.length_drop], fun hh => ?_, fun ad hh j u hj => ?_⟩
 ·have ha : a = none := by
   split at hh
   ·exact hh
   ·cases a with
    | none => rfl
    | some x => cases hh
  rw [h1 ha]; simp
 ·have hj' := (List.getElem?_eq_some_iff.mp hj).1
  rw [List.length_drop] at hj'
  rw [if_neg (by omega)] at hh
  cases a with
  | none => cases hh
  | some x =>
   simp only [Option.map_some, Option.some.injEq] at hh
   obtain ⟨g, rfl, _, _, h3⟩ := h2 x rfl
   subst hh
   rw [List.getElem?_drop] at hj
   have := h3 _ _ hj
   rw [addrO, addrO]
   simpa using this
theorem run_appV {P : Program} {w : World} (base : Nat) (t ty e : TypeId) (i : TypeInfo) (z : Value) (ht : P.underlying t = some (.slice e)) (hi : P.info? e = some i) (hz : i.zero = some z)
  (hsize : i.size = 1) (hby : i.bytes = 16) (hzs : z.cells.size = 1)
  (v : Value) (xs : List Value) (hown : w.ownsRow base e 1 v xs.length xs) (x : Value) (us : List Value) (hx : Src w x us) (h1 : ∀ u ∈ us, u.oneCell' = true)
  (hm : xs.length + us.length ≤ 10000000) (hbase : base ≤ w.heap.size) :
  ∃ v' w', (Builtin.append_ #[t, t] ty #[v, x]).run P w = .ok v' w' ∧ w'.ownsRow base e 1 v' (xs ++ us).length (xs ++ us) ∧ w.grownBy w' v.ownBlock ∧ ∀ k, v'.ownBlock = some k → v.ownBlock = some k ∨ w.heap.size ≤ k := by
 obtain ⟨a, cap, rfl, h2, h3⟩ := hx
 cases a with
 | none =>
  obtain rfl := h2 rfl
  have hr : (Builtin.append_ #[t, t] ty #[v, .slice none ([] : List Value).length cap]).run P w = .ok v w := by
   rcases hown.2 with ⟨rfl, hn⟩ | ⟨g, cap', cur, rfl, _, _, hnc, _⟩
   ·simp [Builtin.append_, run_underlying ht, sizeOf, typeInfo, hi, Builtin.lenOf, Builtin.firstCells]
   ·simp [Builtin.append_, run_underlying ht, sizeOf, typeInfo, hi, Builtin.lenOf, Builtin.firstCells, hnc, storeCells]
  refine ⟨v, w, hr, by simpa using hown, ⟨rfl, rfl, rfl, Nat.le_refl _, fun _ _ _ => rfl⟩, fun k hk => .inl hk⟩
 | some ad =>
  obtain ⟨v', w', r1, r2, r3, r4⟩ := app_freshG (P := P) (w := w) base t ty e i z 1 16 ht hi hz hsize hby hzs (by decide) v xs.length xs hown ad us.length cap us (by simp) (h3 ad rfl) h1 hm (by decide) hbase
  exact ⟨v', w', r1, by rw [List.length_append]; exact r2, r3, r4⟩
theorem step_appV {P : Program} {w : World} {ops : Array Oper} {o : Oper} {a : Act} {K : Act → World → Prop} {Q : Exit → Act → World → Prop} {E : Prop} (hgd : o.guard = none) (s x : Operand) (t : TypeId)
  (ho : o.op = .call { callee := .builtin .append, args := #[s, x], argTypes := #[t, t] })
  (base : Nat) (e : TypeId) (i : TypeInfo) (z : Value) (ht : P.underlying t = some (.slice e)) (hi : P.info? e = some i) (hz : i.zero = some z)
  (hsize : i.size = 1) (hby : i.bytes = 16) (hzs : z.cells.size = 1)
  (v : Value) (xs : List Value) (hs : a.eval s = v) (hown : w.ownsRow base e 1 v xs.length xs) (xv : Value) (us : List Value) (hxv : a.eval x = xv) (hx : Src w xv us) (h1 : ∀ u ∈ us, u.oneCell' = true)
  (hm : xs.length + us.length ≤ 10000000) (hbase : base ≤ w.heap.size)
  (h : ∀ v' w', w'.ownsRow base e 1 v' (xs ++ us).length (xs ++ us) → w.grownBy w' v.ownBlock → (∀ k, v'.ownBlock = some k → v.ownBlock = some k ∨ w.heap.size ≤ k) → K (a.put o.dst v') w') :
  if Region.wanted o (yielded ops a.tmps) = true then Oper.wp P o a w K Q else E := by
 have hw : Region.wanted o (yielded ops a.tmps) = true := by simp [Region.wanted, hgd]
 rw [if_pos hw]
 obtain ⟨v', w', hr, h2, h3, h4⟩ := run_appV (P := P) (w := w) base t o.type e i z ht hi hz hsize hby hzs v xs hown xv us hx h1 hm hbase
 unfold Oper.wp execOp
 simp only [ho, resolve, invoke, builtin, Sem.run_bind, Sem.run_pure, Result.andThen_ok, List.map_toArray, List.map_cons, List.map_nil, hs, hxv, hr]
 exact h v' w' h2 h3 h4
theorem wpList_appV {P : Program} {w : World} {ops : Array Oper} {rest : List Oper} {o : Oper} {a : Act} {Q : Exit → Act → World → Prop} (hgd : o.guard = none) (s x : Operand) (t : TypeId)
  (ho : o.op = .call { callee := .builtin .append, args := #[s, x], argTypes := #[t, t] })
  (base : Nat) (e : TypeId) (i : TypeInfo) (z : Value) (ht : P.underlying t = some (.slice e)) (hi : P.info? e = some i) (hz : i.zero = some z)
  (hsize : i.size = 1) (hby : i.bytes = 16) (hzs : z.cells.size = 1)
  (v : Value) (xs : List Value) (hs : a.eval s = v) (hown : w.ownsRow base e 1 v xs.length xs) (xv : Value) (us : List Value) (hxv : a.eval x = xv) (hx : Src w xv us) (h1 : ∀ u ∈ us, u.oneCell' = true)
  (hm : xs.length + us.length ≤ 10000000) (hbase : base ≤ w.heap.size)
  (h : ∀ v' w', w'.ownsRow base e 1 v' (xs ++ us).length (xs ++ us) → w.grownBy w' v.ownBlock → (∀ k, v'.ownBlock = some k → v.ownBlock = some k ∨ w.heap.size ≤ k) → wpList P ops Q rest (a.put o.dst v') w') : wpList P ops Q (o :: rest) a w := by
 refine wpList_plain hgd fun K hK => ?_
 obtain ⟨v', w', hr, h2, h3, h4⟩ := run_appV (P := P) (w := w) base t o.type e i z ht hi hz hsize hby hzs v xs hown xv us hx h1 hm hbase
 unfold Oper.wp execOp
 simp only [ho, resolve, invoke, builtin, Sem.run_bind, Sem.run_pure, Result.andThen_ok, List.map_toArray, List.map_cons, List.map_nil, hs, hxv, hr]
 exact hK _ _ (h v' w' h2 h3 h4)
set_option maxRecDepth 8000 in
set_option maxHeartbeats 1000000 in
theorem clone_nv (v : Value) (us : List Value) (w : World) (hl : us.length ≤ 2097152) (h : Src w v us) (h1 : ∀ u ∈ us, u.oneCell' = true) :
  Calls Tryd.prog 57 #[v] w fun e w' => ∃ u, e = .returned u ∧ VRow w.heap.size w' u us ∧ Below w.heap.size w w' := by
 obtain ⟨i0, hi, hz0, hz1, hz2⟩ := info_parts info_nv
 have hs := h.below ((Below.refl w.heap.size w).alloc (Nat.le_refl _) (.cells #[] 58))
 obtain ⟨a, cap, rfl, ha, hr⟩ := h
 cases a with
 | none =>
  obtain rfl := ha rfl
  clear hr hl hi hz0 hz1 hz2 hs
  simp only [List.length_nil]
  have hnil : ∀ w : World, (binOp .eql 81 (.slice none 0 cap) (.slice none 0 0)).run Tryd.prog w = .ok (.bool true) w := fun w => Lib.run_eql_slice_nil w 81 58 none 0 cap 0 0 Tryd.underlying81
  go_enter Tryd.func57, Tryd.ntmps57
  go_wp2
  go_ret
  exact ⟨_, rfl, World.ownsRow_nil _ _ _ _, Below.refl _ _⟩
 | some ad =>
  have hnil : ∀ w : World, (binOp .eql 81 (.slice (some ad) us.length cap) (.slice none 0 0)).run Tryd.prog w = .ok (.bool false) w := fun w => Lib.run_eql_slice_nil w 81 58 (some ad) us.length cap 0 0 Tryd.underlying81
  clear ha hr
  go_enter Tryd.func57, Tryd.ntmps57
  go_wp2_with (at_builtin; refine wpList_appV rfl _ _ 81 rfl w.heap.size 58 i0 .nilIface Tryd.underlying81 hi hz0 hz1 hz2 rfl _ [] rfl (World.ownsRow_lit w #[] 0 (Nat.le_refl _) (by decide) rfl) _ us rfl hs h1 (by simp; omega) (by simp) ?_)
  intro v' w1 hown hgrow _
  have hb : Below w.heap.size w w1 := ((Below.refl _ _).alloc (Nat.le_refl _) _).grown hgrow (by simp) (by simp [Value.ownBlock])
  try rw [List.nil_append] at hown
  have HL : Hid (VRow w.heap.size w1 v' us) := hown
  clear hown hgrow h1 hs
  go_wp2
  go_ret
  exact ⟨_, rfl, HL.out, hb⟩
end
section
open Go.RowKit
theorem own_notU {T : TypeId} {sz B n : Nat} {S : Nat → Prop} {w w' : World} {v : Value} {xs : List Value} (h : w.ownsRow B T sz v n xs) (ht : Tcs S w w') (hS : ∀ k, v.ownBlock = some k → ¬ S k) : w'.ownsRow B T sz v n xs := by
 obtain ⟨hx, h | ⟨g, cap, cur, rfl, h1, h2, h3⟩⟩ := h
 ·exact ⟨hx, .inl h⟩
 ·exact ⟨hx, .inr ⟨g, cap, cur, rfl, h1, (ht.block g (Array.getElem?_eq_some_iff.1 h2).1 (hS g rfl)).trans h2, h3⟩⟩
theorem own_shapeU {w : World} {B size n : Nat} {e : TypeId} {v : Value} {xs : List Value} (h : w.ownsRow B e size v n xs) : ∃ a c, v = .slice a n c ∧ (a = none → n = 0) := by
 rcases h.2 with ⟨rfl, hz⟩ | ⟨g, cap, cur, rfl, _⟩
 ·exact ⟨none, 0, by rw [hz], fun _ => hz⟩
 ·exact ⟨_, cap, rfl, (fun h => by cases h)⟩
end
section
open Go.RowKit
set_option maxRecDepth 100000 in
set_option maxHeartbeats 2000000 in
theorem choice_and_k (x : Int) (ty : TypeId) (yv : Value) (h : x = 0) (w : World) :
  Calls Tryd.prog 38 #[.agg #[.int .i64 x], .iface ty yv, .bool true] w fun e w' => e = .returned (.iface 91 (.agg #[.int .i64 0])) ∧ Below w.heap.size w w' := by
 subst h
 have HT : Hid (∀ W, Calls Tryd.prog 59 #[.bool false] W fun e w' => e = .returned (.int .i64 0) ∧ w' = W) := fun W => tru_any false W
 go_enter Tryd.func38, Tryd.ntmps38
 go_wp2_with fail
 refine (HT.out _).mono ?_
 rintro x w1 ⟨rfl, rfl⟩
 go_wp2_with fail
 go_ret
 exact ⟨rfl, (Below.refl _ _).alloc (Nat.le_refl _) _⟩
set_option maxRecDepth 100000 in
set_option maxHeartbeats 2000000 in
theorem choice_and_n (x y : Int) (hy : inB y) (h : x ≠ 0) (w : World) :
  Calls Tryd.prog 38 #[.agg #[.int .i64 x], .iface 91 (.agg #[.int .i64 y]), .bool true] w fun e w' => e = .returned (.iface 91 (.agg #[.int .i64 (boolN (decide (y ≠ 0)))])) ∧ Below w.heap.size w w' := by
 have hb : (x != 0) = true := by simp [h]
 have HT : Hid (∀ W, Calls Tryd.prog 18 #[.iface 95 (.agg #[.int .i64 12, .iface 91 (.agg #[.int .i64 y]), .iface 91 (.agg #[.int .i64 0])])] W fun e w' => e = .returned (.iface 91 (.agg #[.int .i64 (boolN (decide (y ≠ 0)))])) ∧ Below W.heap.size W w') := fun W => by
  have := fold_bin_nn 12 y 0 W
  rw [ap_ne0 y hy] at this
  have e : (if y = 0 then (0 : Int) else 1) = boolN (decide (y ≠ 0)) := by by_cases h : y = 0 <;> simp [boolN, h]
  rw [e] at this
  exact this
 generalize boolN (decide (y ≠ 0)) = bz at HT ⊢
 go_enter Tryd.func38, Tryd.ntmps38
 go_wp2_with fail
 refine (HT.out _).mono ?_
 rintro x w1 ⟨rfl, hb1⟩
 go_wp2_with fail
 go_ret
 exact ⟨rfl, ((Below.refl _ _).alloc (Nat.le_refl _) _).trans (hb1.mono (by simp))⟩
set_option maxRecDepth 100000 in
set_option maxHeartbeats 2000000 in
theorem choice_and_x (x : Int) (u : TypeId) (yv : Value) (hu : u ≠ 91) (h : x ≠ 0) (w : World) :
  Calls Tryd.prog 38 #[.agg #[.int .i64 x], .iface u yv, .bool true] w fun e w' => e = .returned (.iface 95 (.agg #[.int .i64 12, .iface u yv, .iface 91 (.agg #[.int .i64 0])])) ∧ Below w.heap.size w w' := by
 have hb : (x != 0) = true := by simp [h]
 have HT : Hid (∀ W, Calls Tryd.prog 18 #[.iface 95 (.agg #[.int .i64 12, .iface u yv, .iface 91 (.agg #[.int .i64 0])])] W fun e w' => e = .returned (.iface 95 (.agg #[.int .i64 12, .iface u yv, .iface 91 (.agg #[.int .i64 0])])) ∧ Below W.heap.size W w') := fun W => fold_bin_x 12 u _ yv _ hu W
 go_enter Tryd.func38, Tryd.ntmps38
 go_wp2_with fail
 refine (HT.out _).mono ?_
 rintro x w1 ⟨rfl, hb1⟩
 go_wp2_with fail
 go_ret
 exact ⟨rfl, ((Below.refl _ _).alloc (Nat.le_refl _) _).trans (hb1.mono (by simp))⟩
set_option maxRecDepth 100000 in
set_option maxHeartbeats 2000000 in
theorem fold_and_n (x : Int) (ty : TypeId) (yv : Value) (Z : Value) (w : World) (hC : ∀ W, Calls Tryd.prog 38 #[.agg #[.int .i64 x], .iface ty yv, .bool true] W fun e w' => e = .returned Z ∧ Below W.heap.size W w') :
  Calls Tryd.prog 18 #[.iface 98 (.agg #[.iface 91 (.agg #[.int .i64 x]), .iface ty yv])] w fun e w' => e = .returned Z ∧ Below w.heap.size w w' := by
 have n1 := as_un_no
 have n2 := as_bin_no
 have n3 := as_and_no
 have n4 := as_or_no
 have n5 := as_num_no
 have y1 := as_un_yes
 have y2 := as_bin_yes
 have y3 := as_and_yes
 have y4 := as_or_yes
 have y5 := as_num_yes
 have HC : Hid (∀ W, Calls Tryd.prog 38 #[.agg #[.int .i64 x], .iface ty yv, .bool true] W fun e w' => e = .returned Z ∧ Below W.heap.size W w') := hC
 clear hC
 go_enter Tryd.func18, Tryd.ntmps18
 go_wp2_with fail
 refine (HC.out _).mono ?_
 rintro x w1 ⟨rfl, hb1⟩
 go_wp2_with fail
 go_ret
 exact ⟨rfl, (((Below.refl _ _).alloc (Nat.le_refl _) _).alloc (by simp) _).trans (hb1.mono (by simp; omega))⟩
set_option maxRecDepth 100000 in
set_option maxHeartbeats 2000000 in
theorem choice_or_k (x : Int) (ty : TypeId) (yv : Value) (h : x ≠ 0) (w : World) :
  Calls Tryd.prog 38 #[.agg #[.int .i64 x], .iface ty yv, .bool false] w fun e w' => e = .returned (.iface 91 (.agg #[.int .i64 1])) ∧ Below w.heap.size w w' := by
 have hb : (x != 0) = true := by simp [h]
 have HT : Hid (∀ W, Calls Tryd.prog 59 #[.bool true] W fun e w' => e = .returned (.int .i64 1) ∧ w' = W) := fun W => tru_any true W
 go_enter Tryd.func38, Tryd.ntmps38
 go_wp2_with fail
 refine (HT.out _).mono ?_
 rintro x w1 ⟨rfl, rfl⟩
 go_wp2_with fail
 go_ret
 exact ⟨rfl, (Below.refl _ _).alloc (Nat.le_refl _) _⟩
set_option maxRecDepth 100000 in
set_option maxHeartbeats 2000000 in
theorem choice_or_n (x y : Int) (hy : inB y) (h : x = 0) (w : World) :
  Calls Tryd.prog 38 #[.agg #[.int .i64 x], .iface 91 (.agg #[.int .i64 y]), .bool false] w fun e w' => e = .returned (.iface 91 (.agg #[.int .i64 (boolN (decide (y ≠ 0)))])) ∧ Below w.heap.size w w' := by
 subst h
 have HT : Hid (∀ W, Calls Tryd.prog 18 #[.iface 95 (.agg #[.int .i64 12, .iface 91 (.agg #[.int .i64 y]), .iface 91 (.agg #[.int .i64 0])])] W fun e w' => e = .returned (.iface 91 (.agg #[.int .i64 (boolN (decide (y ≠ 0)))])) ∧ Below W.heap.size W w') := fun W => by
  have := fold_bin_nn 12 y 0 W
  rw [ap_ne0 y hy] at this
  have e : (if y = 0 then (0 : Int) else 1) = boolN (decide (y ≠ 0)) := by by_cases h : y = 0 <;> simp [boolN, h]
  rw [e] at this
  exact this
 generalize boolN (decide (y ≠ 0)) = bz at HT ⊢
 go_enter Tryd.func38, Tryd.ntmps38
 go_wp2_with fail
 refine (HT.out _).mono ?_
 rintro x w1 ⟨rfl, hb1⟩
 go_wp2_with fail
 go_ret
 exact ⟨rfl, ((Below.refl _ _).alloc (Nat.le_refl _) _).trans (hb1.mono (by simp))⟩
set_option maxRecDepth 100000 in
set_option maxHeartbeats 2000000 in
theorem choice_or_x (x : Int) (u : TypeId) (yv : Value) (hu : u ≠ 91) (h : x = 0) (w : World) :
  Calls Tryd.prog 38 #[.agg #[.int .i64 x], .iface u yv, .bool false] w fun e w' => e = .returned (.iface 95 (.agg #[.int .i64 12, .iface u yv, .iface 91 (.agg #[.int .i64 0])])) ∧ Below w.heap.size w w' := by
 subst h
 have HT : Hid (∀ W, Calls Tryd.prog 18 #[.iface 95 (.agg #[.int .i64 12, .iface u yv, .iface 91 (.agg #[.int .i64 0])])] W fun e w' => e = .returned (.iface 95 (.agg #[.int .i64 12, .iface u yv, .iface 91 (.agg #[.int .i64 0])])) ∧ Below W.heap.size W w') := fun W => fold_bin_x 12 u _ yv _ hu W
 go_enter Tryd.func38, Tryd.ntmps38
 go_wp2_with fail
 refine (HT.out _).mono ?_
 rintro x w1 ⟨rfl, hb1⟩
 go_wp2_with fail
 go_ret
 exact ⟨rfl, ((Below.refl _ _).alloc (Nat.le_refl _) _).trans (hb1.mono (by simp))⟩
set_option maxRecDepth 100000 in
set_option maxHeartbeats 2000000 in
theorem fold_or_n (x : Int) (ty : TypeId) (yv : Value) (Z : Value) (w : World) (hC : ∀ W, Calls Tryd.prog 38 #[.agg #[.int .i64 x], .iface ty yv, .bool false] W fun e w' => e = .returned Z ∧ Below W.heap.size W w') :
  Calls Tryd.prog 18 #[.iface 100 (.agg #[.iface 91 (.agg #[.int .i64 x]), .iface ty yv])] w fun e w' => e = .returned Z ∧ Below w.heap.size w w' := by
 have n1 := as_un_no
 have n2 := as_bin_no
 have n3 := as_and_no
 have n4 := as_or_no
 have n5 := as_num_no
 have y1 := as_un_yes
 have y2 := as_bin_yes
 have y3 := as_and_yes
 have y4 := as_or_yes
 have y5 := as_num_yes
 have HC : Hid (∀ W, Calls Tryd.prog 38 #[.agg #[.int .i64 x], .iface ty yv, .bool false] W fun e w' => e = .returned Z ∧ Below W.heap.size W w') := hC
 clear hC
 go_enter Tryd.func18, Tryd.ntmps18
 go_wp2_with fail
 refine (HC.out _).mono ?_
 rintro x w1 ⟨rfl, hb1⟩
 go_wp2_with fail
 go_ret
 exact ⟨rfl, (((Below.refl _ _).alloc (Nat.le_refl _) _).alloc (by simp) _).trans (hb1.mono (by simp; omega))⟩
theorem fv_un {w : World} {S : Nat → Prop} {x : Value} {r : List Nd} (op : Int) (h0 : 0 ≤ op) (h2 : op ≤ 2) (hx : Tv w S x r) (hb : ∀ a, isN r = some a → inB a) (hS : ∀ B, S B → B < w.heap.size) :
  Calls Tryd.prog 18 #[.iface 89 (.agg #[.int .i64 op, x])] w fun e w' => ∃ u, e = .returned u ∧ Tv w' S u (match isN r with | some a => numN (unN op a) | none => r ++ [⟨6, op, ⟨#[]⟩⟩]) ∧ Below w.heap.size w w' := by
 cases hr : isN r with
 | some a =>
  obtain rfl := hx.some hr
  refine (fold_un op a h0 h2 (hb a hr) w).mono ?_
  rintro e w' ⟨rfl, hb⟩
  exact ⟨_, rfl, .num _, hb⟩
 | none =>
  obtain ⟨t, xv, rfl, ht⟩ := hx.none hr
  refine (fold_un_no op t xv ht w).mono ?_
  rintro e w' ⟨rfl, hb⟩
  exact ⟨_, rfl, .un _ _ _ (hx.bel hS hb), hb⟩
theorem fv_bin {w : World} {S : Nat → Prop} {x y : Value} {r t : List Nd} (op : Int) (hx : Tv w S x r) (hy : Tv w S y t) (hS : ∀ B, S B → B < w.heap.size) :
  Calls Tryd.prog 18 #[.iface 95 (.agg #[.int .i64 op, x, y])] w fun e w' => ∃ u, e = .returned u ∧ Tv w' S u (match isN r, isN t with | some a, some b => numN (apN op a b) | _, _ => r ++ t ++ [⟨7, op, ⟨#[]⟩⟩]) ∧ Below w.heap.size w w' := by
 cases hr : isN r with
 | some a =>
  obtain rfl := hx.some hr
  cases ht : isN t with
  | some b =>
   obtain rfl := hy.some ht
   refine (fold_bin_nn op a b w).mono ?_
   rintro e w' ⟨rfl, hb⟩
   exact ⟨_, rfl, .num _, hb⟩
  | none =>
   obtain ⟨u, yv, rfl, hu⟩ := hy.none ht
   refine (fold_bin_no op a u yv hu w).mono ?_
   rintro e w' ⟨rfl, hb⟩
   exact ⟨_, rfl, .bin _ _ _ _ _ (hx.bel hS hb) (hy.bel hS hb), hb⟩
 | none =>
  obtain ⟨u, xv, rfl, hu⟩ := hx.none hr
  obtain ⟨ty, yv, rfl⟩ := hy.isI
  refine (fold_bin_x op u ty xv yv hu w).mono ?_
  rintro e w' ⟨rfl, hb⟩
  exact ⟨_, rfl, .bin _ _ _ _ _ (hx.bel hS hb) (hy.bel hS hb), hb⟩
theorem truthL_some {t : List Nd} {y : Int} (h : isN t = some y) : truthL t = numN (boolN (decide (y ≠ 0))) := by simp [truthL, h]
theorem truthL_none {t : List Nd} (h : isN t = none) : truthL t = t ++ [⟨1, 0, ⟨#[]⟩⟩] ++ [⟨7, 12, ⟨#[]⟩⟩] := by simp [truthL, h]
theorem fv_and {w : World} {S : Nat → Prop} {x y : Value} {r t : List Nd} (hx : Tv w S x r) (hy : Tv w S y t) (hb : ∀ a, isN t = some a → inB a) (hS : ∀ B, S B → B < w.heap.size) :
  Calls Tryd.prog 18 #[.iface 98 (.agg #[x, y])] w fun e w' => ∃ u, e = .returned u ∧ Tv w' S u (match isN r with | some x => if x = 0 then numN 0 else truthL t | none => r ++ t ++ [⟨8, 0, ⟨#[]⟩⟩]) ∧ Below w.heap.size w w' := by
 cases hr : isN r with
 | some x =>
  obtain rfl := hx.some hr
  by_cases h0 : x = 0
  ·obtain ⟨ty, yv, rfl⟩ := hy.isI
   refine (fold_and_n x ty yv _ w (fun W => choice_and_k x ty yv h0 W)).mono ?_
   rintro e w' ⟨rfl, hb⟩
   refine ⟨_, rfl, ?_, hb⟩
   simp only [h0, if_true, if_false]
   exact .num _
  ·cases ht : isN t with
   | some y =>
    obtain rfl := hy.some ht
    refine (fold_and_n x _ _ _ w (fun W => choice_and_n x y (hb y ht) h0 W)).mono ?_
    rintro e w' ⟨rfl, hb⟩
    refine ⟨_, rfl, ?_, hb⟩
    simp only [h0, if_true, if_false, truthL_some ht]
    exact .num _
   | none =>
    obtain ⟨u, yv, rfl, hu⟩ := hy.none ht
    refine (fold_and_n x _ _ _ w (fun W => choice_and_x x u yv hu h0 W)).mono ?_
    rintro e w' ⟨rfl, hb⟩
    refine ⟨_, rfl, ?_, hb⟩
    simp only [h0, if_true, if_false, truthL_none ht]
    exact .bin _ _ _ _ _ (hy.bel hS hb) (.num _)
 | none =>
  obtain ⟨u, xv, rfl, hu⟩ := hx.none hr
  obtain ⟨ty, yv, rfl⟩ := hy.isI
  refine (fold_and_x u ty xv yv hu w).mono ?_
  rintro e w' ⟨rfl, hb⟩
  exact ⟨_, rfl, .and _ _ _ _ (hx.bel hS hb) (hy.bel hS hb), hb⟩
theorem fv_or {w : World} {S : Nat → Prop} {x y : Value} {r t : List Nd} (hx : Tv w S x r) (hy : Tv w S y t) (hb : ∀ a, isN t = some a → inB a) (hS : ∀ B, S B → B < w.heap.size) :
  Calls Tryd.prog 18 #[.iface 100 (.agg #[x, y])] w fun e w' => ∃ u, e = .returned u ∧ Tv w' S u (match isN r with | some x => if x = 0 then truthL t else numN 1 | none => r ++ t ++ [⟨9, 0, ⟨#[]⟩⟩]) ∧ Below w.heap.size w w' := by
 cases hr : isN r with
 | some x =>
  obtain rfl := hx.some hr
  by_cases h0 : x = 0
  ·cases ht : isN t with
   | some y =>
    obtain rfl := hy.some ht
    refine (fold_or_n x _ _ _ w (fun W => choice_or_n x y (hb y ht) h0 W)).mono ?_
    rintro e w' ⟨rfl, hb⟩
    refine ⟨_, rfl, ?_, hb⟩
    simp only [h0, if_true, if_false, truthL_some ht]
    exact .num _
   | none =>
    obtain ⟨u, yv, rfl, hu⟩ := hy.none ht
    refine (fold_or_n x _ _ _ w (fun W => choice_or_x x u yv hu h0 W)).mono ?_
    rintro e w' ⟨rfl, hb⟩
    refine ⟨_, rfl, ?_, hb⟩
    simp only [h0, if_true, if_false, truthL_none ht]
    exact .bin _ _ _ _ _ (hy.bel hS hb) (.num _)
  ·obtain ⟨ty, yv, rfl⟩ := hy.isI
   refine (fold_or_n x ty yv _ w (fun W => choice_or_k x ty yv h0 W)).mono ?_
   rintro e w' ⟨rfl, hb⟩
   refine ⟨_, rfl, ?_, hb⟩
   simp only [h0, if_true, if_false]
   exact .num _
 | none =>
  obtain ⟨u, xv, rfl, hu⟩ := hx.none hr
  obtain ⟨ty, yv, rfl⟩ := hy.isI
  refine (fold_or_x u ty xv yv hu w).mono ?_
  rintro e w' ⟨rfl, hb⟩
  exact ⟨_, rfl, .or _ _ _ _ (hx.bel hS hb) (hy.bel hS hb), hb⟩
end
end Go.Proofs.YtolkpkklinoegaaDoor
