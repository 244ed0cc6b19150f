import Derived.Test.YtkbonhbegpiajaaASE
import Derived.Deep.RegionHeldLaw
import Derived.Deep.RegionHeld3
namespace Go.Proofs.Ytkbonhbegpiajaa
open Go.RowKit
set_option linter.unusedVariables false
set_option linter.unusedSimpArgs false
set_option linter.unusedSectionVars false
variable [Inhabited Pick]

theorem info_i64 : (Try.prog.info? 2).map (fun i => (i.zero, i.size, i.bytes)) = some (some (.int .i64 0), 1, 8) := by kernel_rfl
theorem info_int : (Try.prog.info? 3).map (fun i => (i.zero, i.size, i.bytes)) = some (some (.int .i64 0), 1, 8) := by kernel_rfl
theorem info_bool : (Try.prog.info? 4).map (fun i => (i.zero, i.size, i.bytes)) = some (some (.bool false), 1, 1) := by kernel_rfl
/-- A row of one's own, a cell an element. -/
def ORow (B : Nat) (t : TypeId) (w : World) (v : Value) (xs : List Value) : Prop := w.ownsRow B t 1 v xs.length xs
theorem ORow.shape {B : Nat} {t : TypeId} {w : World} {v : Value} {xs : List Value} (h : ORow B t w v xs) : ∃ a c, v = .slice a xs.length c := by
  rcases h.2 with ⟨rfl, hz⟩ | ⟨g, cap, cur, rfl, _⟩
  · exact ⟨none, 0, by rw [hz]⟩
  · exact ⟨_, cap, rfl⟩
theorem ORow.below {B : Nat} {t : TypeId} {w w' : World} {v : Value} {xs : List Value} (h : ORow B t w v xs) (hb : Below w.heap.size w w') : ORow B t w' v xs := by
  obtain ⟨g1, g2⟩ := h
  refine ⟨g1, ?_⟩
  rcases g2 with g2 | ⟨g, cap, cur, rfl, g3, g4, g5⟩
  · exact .inl g2
  · refine .inr ⟨g, cap, cur, rfl, g3, ?_, g5⟩
    rw [hb.block g (Array.getElem?_eq_some_iff.1 g4).1]
    exact g4
theorem ORow.base {B B' : Nat} {t : TypeId} {w : World} {v : Value} {xs : List Value} (h : ORow B t w v xs) (hb : B' ≤ B) : ORow B' t w v xs := by
  obtain ⟨g1, g2⟩ := h
  refine ⟨g1, ?_⟩
  rcases g2 with g2 | ⟨g, cap, cur, rfl, g3, g4⟩
  · exact .inl g2
  · exact .inr ⟨g, cap, cur, rfl, Nat.le_trans hb g3, g4⟩
theorem ORow.at {B : Nat} {t : TypeId} {w : World} {v : Value} {xs : List Value} (h : ORow B t w v xs) (hp : 0 < xs.length) : ∃ g c, v = .slice (some ⟨g, 0, none⟩) xs.length c ∧ B ≤ g ∧ g < w.heap.size ∧ ∀ j u, xs[j]? = some u → w.cell? ⟨g, j, none⟩ = some u ∧ w.frozen? ⟨g, j, none⟩ = false := by
  have h0 := h
  rcases h.2 with ⟨_, hz⟩ | ⟨g, cap, cur, rfl, hbg, _⟩
  · omega
  · refine ⟨g, cap, rfl, hbg, (World.ownsRow.lt h0 g rfl).2, fun j u hj => ⟨?_, World.ownsRow.frozenAt h0 j⟩⟩
    have := World.ownsRow.cells h0 (g := g) rfl j u hj
    rw [addr_add] at this
    exact this
theorem orow_lit (W : World) (B : Nat) (t : TypeId) (hB : B ≤ W.heap.size) : ORow B t (W.alloc (.cells #[] t)) (.slice (some ⟨W.heap.size, 0, none⟩) 0 0) [] := World.ownsRow_lit W #[] 0 hB (by decide) rfl
theorem orow_lit1 (W : World) (B : Nat) (t : TypeId) (x : Value) (hB : B ≤ W.heap.size) : ORow B t (W.alloc (.cells #[x] t)) (.slice (some ⟨W.heap.size, 0, none⟩) 1 1) [x] := World.ownsRow_lit W #[x] 1 hB (by decide) rfl
theorem lit1 (W : World) (t : TypeId) (x : Value) : ∀ j u, [x][j]? = some u → (W.alloc (.cells #[x] t)).cell? ((⟨W.heap.size, 0, none⟩ : Addr).add j) = some u := by
  intro j u hj
  rw [addr_add, World.cell?_alloc_at _ _ _ _ rfl]
  simpa using hj
section
variable {P : Program} {w : World}
theorem wpList_app1 {ops : Array Oper} {rest : List Oper} {o : Oper} {a : Act} {Q : Exit → Act → World → Prop} (hgd : o.guard = none) (s x : Operand) (t : TypeId)
    (ho : o.op = .call { callee := .builtin .append, args := #[s, x], argTypes := #[t, t] })
    (base : Nat) (e : TypeId) (i : TypeInfo) (z : Value) (bytes : Nat) (ht : P.underlying t = some (.slice e)) (hi : P.info? e = some i) (hz : i.zero = some z)
    (hsize : i.size = 1) (hby : i.bytes = bytes) (hzs : z.cells.size = 1)
    (v : Value) (xs : List Value) (hs : a.eval s = v) (hown : ORow base e w v xs) (ad : Addr) (y : Value) (hx : a.eval x = .slice (some ad) 1 1) (hnews : ∀ j u, [y][j]? = some u → w.cell? (ad.add j) = some u) (h1 : y.oneCell' = true)
    (hm : xs.length + 1 ≤ 10000000) (hbb : bytes ≤ 1000) (hbase : base ≤ w.heap.size)
    (h : ∀ v' w', ORow base e w' v' (xs ++ [y]) → w.grownBy w' v.ownBlock → (∀ k, v'.ownBlock = some k → v.ownBlock = some k ∨ w.heap.size ≤ k) → wpList P ops Q rest (a.put o.dst v') w') : wpList P ops Q (o :: rest) a w :=
  wpList_appF hgd s x t ho base e i z 1 bytes ht hi hz hsize hby hzs (by decide) v xs.length xs hs hown ad 1 1 [y] hx rfl hnews (by intro u hu; simp at hu; rw [hu]; exact h1) hm hbb hbase (fun v' w' a1 a2 a3 => h v' w' (by show w'.ownsRow _ _ _ _ _ _; rw [List.length_append]; exact a1) a2 a3)
theorem step_app1 {ops : Array Oper} {o : Oper} {a : Act} {K : Act → World → Prop} {Q : Exit → Act → World → Prop} {E : Prop} (hgd : o.guard = none) (s x : Operand) (t : TypeId)
    (ho : o.op = .call { callee := .builtin .append, args := #[s, x], argTypes := #[t, t] })
    (base : Nat) (e : TypeId) (i : TypeInfo) (z : Value) (bytes : Nat) (ht : P.underlying t = some (.slice e)) (hi : P.info? e = some i) (hz : i.zero = some z)
    (hsize : i.size = 1) (hby : i.bytes = bytes) (hzs : z.cells.size = 1)
    (v : Value) (xs : List Value) (hs : a.eval s = v) (hown : ORow base e w v xs) (ad : Addr) (y : Value) (hx : a.eval x = .slice (some ad) 1 1) (hnews : ∀ j u, [y][j]? = some u → w.cell? (ad.add j) = some u) (h1 : y.oneCell' = true)
    (hm : xs.length + 1 ≤ 10000000) (hbb : bytes ≤ 1000) (hbase : base ≤ w.heap.size)
    (h : ∀ v' w', ORow base e w' v' (xs ++ [y]) → w.grownBy w' v.ownBlock → (∀ k, v'.ownBlock = some k → v.ownBlock = some k ∨ w.heap.size ≤ k) → K (a.put o.dst v') w') :
    if Region.wanted o (yielded ops a.tmps) = true then Oper.wp P o a w K Q else E := by
  have hw : Region.wanted o (yielded ops a.tmps) = true := by simp [Region.wanted, hgd]
  rw [if_pos hw]
  obtain ⟨v', w', hr, h2, h3, h4⟩ := app_freshG (P := P) (w := w) base t o.type e i z 1 bytes ht hi hz hsize hby hzs (by decide) v xs.length xs hown ad 1 1 [y] rfl hnews (by intro u hu; simp at hu; rw [hu]; exact h1) hm hbb hbase
  unfold Oper.wp execOp
  simp only [ho, resolve, invoke, builtin, Sem.run_bind, Sem.run_pure, Result.andThen_ok, List.map_toArray, List.map_cons, List.map_nil, hs, hx, hr]
  exact h v' w' (by show w'.ownsRow _ _ _ _ _ _; rw [List.length_append]; exact h2) h3 h4
end
/-- A slice of bools. -/
def Bls (w : World) (v : Value) (lg : List Bool) : Prop := ∃ a cap, v = .slice a lg.length cap ∧ (0 < lg.length → ∃ b, a = some ⟨b, 0, none⟩ ∧ ∀ i (h : i < lg.length), w.cell? ⟨b, i, none⟩ = some (.bool lg[i]))
theorem Bls.below {w w' : World} {v : Value} {lg : List Bool} (h : Bls w v lg) (hb : Below w.heap.size w w') : Bls w' v lg := by
  obtain ⟨a, cap, rfl, h⟩ := h
  refine ⟨a, cap, rfl, fun h0 => ?_⟩
  obtain ⟨b, rfl, hc⟩ := h h0
  exact ⟨b, rfl, fun j hj => (hb.cell (p := ⟨b, j, none⟩) (World.block_lt_of_cell? _ _ (hc j hj))).trans (hc j hj)⟩
def szK (its : List It) (lg : List Bool) (k : Nat) : List Value := (List.range k).map (fun i => Value.int .i64 ((szB (its.getD i it0) (lg.getD i false) : Nat) : Int))
theorem szK_succ (its : List It) (lg : List Bool) (k : Nat) : szK its lg (k + 1) = szK its lg k ++ [.int .i64 ((szB (its.getD k it0) (lg.getD k false) : Nat) : Int)] := by simp [szK, List.range_succ]
theorem szK_len (its : List It) (lg : List Bool) (k : Nat) : (szK its lg k).length = k := by simp [szK]
theorem szK_at (its : List It) (lg : List Bool) (k i : Nat) (h : i < k) : (szK its lg k)[i]? = some (.int .i64 ((szB (its.getD i it0) (lg.getD i false) : Nat) : Int)) := by simp [szK, h]
def plK (its : List It) (lg : List Bool) (k : Nat) : List Value := (List.range k).map (fun i => Value.int .i64 (4 * ((plN its lg i : Nat) : Int)))
theorem plK_succ (its : List It) (lg : List Bool) (k : Nat) : plK its lg (k + 1) = plK its lg k ++ [.int .i64 (4 * ((plN its lg k : Nat) : Int))] := by simp [plK, List.range_succ]
theorem plK_len (its : List It) (lg : List Bool) (k : Nat) : (plK its lg k).length = k := by simp [plK]
theorem plK_at (its : List It) (lg : List Bool) (k i : Nat) (h : i < k) : (plK its lg k)[i]? = some (.int .i64 (4 * ((plN its lg i : Nat) : Int))) := by simp [plK, h]

set_option maxRecDepth 100000 in
set_option maxHeartbeats 4000000 in
theorem sizes_any (its : List It) (lg : List Bool) (v u : Value) (w : World) (hl : its.length ≤ 20000) (hlg : lg.length = its.length) (hbr : ∀ i, i < its.length → lg.getD i false = true → (its.getD i it0).kind = 3) (hv : Items w v its) (hu : Bls w u lg) :
    Calls Try.prog 16 #[v, u] w fun e w' => ∃ x, e = .returned x ∧ ORow w.heap.size 2 w' x (szK its lg its.length) ∧ Below w.heap.size w w' := by
  obtain ⟨a, cap, rfl, -, -, hc⟩ := hv
  have HC : Hid (0 < its.length → ∃ b off, a = some ⟨b, off, none⟩ ∧ ItemsC w b off its) := hc
  obtain ⟨al, cl, rfl, hcl⟩ := hu
  have HCL : Hid (0 < lg.length → ∃ b, al = some ⟨b, 0, none⟩ ∧ ∀ i (h : i < lg.length), w.cell? ⟨b, i, none⟩ = some (.bool lg[i])) := hcl
  have HBr : Hid (∀ i, i < its.length → lg.getD i false = true → (its.getD i it0).kind = 3) := hbr
  obtain ⟨i0, hi, hz0, hz1, hz2⟩ := info_parts info_i64
  have HLg : Hid (lg.length = its.length) := hlg
  rw [hlg]
  clear hc hcl hbr hlg
  go_enter Try.func16, Try.ntmps16
  go_wp2_with fail
  go_loopw [5, 6] (fun o i wr => ∃ k : Nat, k ≤ its.length ∧ i = .int .i64 k ∧ ORow w.heap.size 2 wr o (szK its lg k) ∧ Below w.heap.size w wr) (fun _ i _ => its.length - (intOf i).toNat)
  case atStart => exact ⟨0, Nat.zero_le _, rfl, orow_lit w _ _ (Nat.le_refl _), (Below.refl _ _).alloc (Nat.le_refl _) _⟩
  case round =>
    obtain ⟨k, hk, rfl, hO, hB⟩ := hrel
    obtain ⟨ao, co, rfl⟩ := hO.shape
    have HO : Hid (ORow w.heap.size 2 wr (.slice ao (szK its lg k).length co) (szK its lg k)) := hO
    clear hO
    by_cases hlt : k < its.length
    · obtain ⟨b, off, rfl, hC⟩ := HC.out (by omega)
      obtain ⟨bl, rfl, hL⟩ := HCL.out (by have := HLg.out; omega)
      obtain ⟨c0, -⟩ := (hC.below hB) k hlt
      have l0 := (hB.cell (p := ⟨bl, k, none⟩) (World.block_lt_of_cell? _ _ (hL k (by have := HLg.out; omega)))).trans (hL k (by have := HLg.out; omega))
      have HGt : Hid (its.getD k it0 = its[k]) := by show _ = _; simp [List.getD, hlt]
      have HLt : Hid (lg.getD k false = lg[k]'(by have := HLg.out; omega)) := by
        have : k < lg.length := by have := HLg.out; omega
        show _ = _
        simp [List.getD, this]
      have hbk := HBr.out k hlt
      rw [HGt.out, HLt.out] at hbk
      have HE : Hid (szK its lg (k + 1) = szK its lg k ++ [.int .i64 ((szB its[k] (lg[k]'(by have := HLg.out; omega)) : Nat) : Int)]) := by show _ = _; rw [szK_succ, HGt.out, HLt.out]
      have hszb : szB its[k] (lg[k]'(by have := HLg.out; omega)) = if its[k].kind = 2 then 0 else if lg[k]'(by have := HLg.out; omega) then 2 else 1 := rfl
      clear hC hL HGt HLt
      generalize szB its[k] (lg[k]'(by have := HLg.out; omega)) = z at HE hszb
      generalize its[k].kind = kd at c0 hbk hszb
      generalize lg[k]'(by have := HLg.out; omega) = lk at l0 hbk hszb
      have hsz := hB.size
      cases lk
      · by_cases h2 : kd = 2
        · subst h2
          obtain rfl : z = 0 := by rw [hszb]; rfl
          clear hszb hbk
          go_wp2_with (at_builtin; refine wpList_app1 rfl _ _ _ rfl w.heap.size 2 i0 _ 8 Try.underlying42 hi hz0 hz1 hz2 rfl _ (szK its lg k) rfl (HO.out.below ((Below.refl _ _).alloc (Nat.le_refl _) _)) ⟨wr.heap.size, 0, none⟩ (.int .i64 0) rfl (lit1 _ _ _) rfl (by rw [szK_len]; omega) (by decide) (by simp; omega) ?_)
          intro v1 w1 ho1 hg1 hf1
          have HO1 : Hid (ORow w.heap.size 2 w1 v1 (szK its lg (k + 1))) := by show ORow _ _ _ _ _; rw [HE.out]; exact ho1
          have hB1 : Below w.heap.size w w1 := (hB.alloc hsz _).grown hg1 (by simp; omega) (fun x hx => (World.ownsRow.lt HO.out x hx).1)
          obtain ⟨a1, c1, rfl⟩ := HO1.out.shape
          clear ho1 hg1 hf1
          go_wp2_with fail
          go_roundw
          case rel => exact ⟨k + 1, by omega, by go_num, HO1.out, hB1⟩
          case measure => simp [intOf]; omega
        · obtain rfl : z = 1 := by rw [hszb, if_neg h2]; rfl
          clear hszb hbk
          go_wp2_with (at_builtin; refine wpList_app1 rfl _ _ _ rfl w.heap.size 2 i0 _ 8 Try.underlying42 hi hz0 hz1 hz2 rfl _ (szK its lg k) rfl (HO.out.below ((Below.refl _ _).alloc (Nat.le_refl _) _)) ⟨wr.heap.size, 0, none⟩ (.int .i64 1) rfl (lit1 _ _ _) rfl (by rw [szK_len]; omega) (by decide) (by simp; omega) ?_)
          intro v1 w1 ho1 hg1 hf1
          have HO1 : Hid (ORow w.heap.size 2 w1 v1 (szK its lg (k + 1))) := by show ORow _ _ _ _ _; rw [HE.out]; exact ho1
          have hB1 : Below w.heap.size w w1 := (hB.alloc hsz _).grown hg1 (by simp; omega) (fun x hx => (World.ownsRow.lt HO.out x hx).1)
          obtain ⟨a1, c1, rfl⟩ := HO1.out.shape
          clear ho1 hg1 hf1
          go_wp2_with fail
          go_roundw
          case rel => exact ⟨k + 1, by omega, by go_num, HO1.out, hB1⟩
          case measure => simp [intOf]; omega
      · have h3 := hbk rfl
        subst h3
        obtain rfl : z = 2 := by rw [hszb]; rfl
        clear hszb hbk
        go_wp2_with (at_builtin; refine wpList_app1 rfl _ _ _ rfl w.heap.size 2 i0 _ 8 Try.underlying42 hi hz0 hz1 hz2 rfl _ (szK its lg k) rfl (HO.out.below ((Below.refl _ _).alloc (Nat.le_refl _) _)) ⟨wr.heap.size, 0, none⟩ (.int .i64 2) rfl (lit1 _ _ _) rfl (by rw [szK_len]; omega) (by decide) (by simp; omega) ?_)
        intro v1 w1 ho1 hg1 hf1
        have HO1 : Hid (ORow w.heap.size 2 w1 v1 (szK its lg (k + 1))) := by show ORow _ _ _ _ _; rw [HE.out]; exact ho1
        have hB1 : Below w.heap.size w w1 := (hB.alloc hsz _).grown hg1 (by simp; omega) (fun x hx => (World.ownsRow.lt HO.out x hx).1)
        obtain ⟨a1, c1, rfl⟩ := HO1.out.shape
        clear ho1 hg1 hf1
        go_wp2_with fail
        go_roundw
        case rel => exact ⟨k + 1, by omega, by go_num, HO1.out, hB1⟩
        case measure => simp [intOf]; omega
    · obtain rfl : k = its.length := by omega
      go_wp2_with fail
      go_ret
      exact ⟨_, rfl, HO.out, hB⟩

end Go.Proofs.Ytkbonhbegpiajaa
