import Derived.Test.YtkbonhbegpiajaaASF
namespace Go.Proofs.Ytkbonhbegpiajaa
open Go.RowKit
set_option linter.unusedVariables false
set_option linter.unusedSimpArgs false
set_option linter.unusedSectionVars false
variable [Inhabited Pick]

theorem wrapI64 (x : Int) : IntKind.i64.wrap x = (x + 9223372036854775808) % 18446744073709551616 - 9223372036854775808 := by
  simp [IntKind.wrap, IntKind.bits, IntKind.signed]
  omega
theorem wrap_id (x : Int) (h : -1000000000 ≤ x ∧ x ≤ 1000000000) : IntKind.i64.wrap x = x := by
  rw [wrapI64, Int.emod_eq_of_lt (by omega) (by omega)]
  omega
section
variable {P : Program} {w : World}
/-- Behind an append the old row's elements stand. -/
theorem app_old {base : Nat} {t ty e : TypeId} {i : TypeInfo} {z : Value} {bytes : Nat} (ht : P.underlying t = some (.slice e)) (hi : P.info? e = some i) (hz : i.zero = some z)
    (hsize : i.size = 1) (hby : i.bytes = bytes) {v v' : Value} {w' : World} {xs : List Value} (hown : ORow base e w v xs) {ad : Addr} {y : Value} (hnews : ∀ j u, [y][j]? = some u → w.cell? (ad.add j) = some u) (h1 : y.oneCell' = true)
    (hm : xs.length + 1 ≤ 10000000) (hbb : bytes ≤ 1000) (hr : (Builtin.append_ #[t, t] ty #[v, .slice (some ad) 1 1]).run P w = .ok v' w') (ho : ORow base e w' v' (xs ++ [y])) :
    ∀ g, v.ownBlock = some g → ∀ j u, xs[j]? = some u → w'.cell? ⟨g, j, none⟩ = some u := by
  intro g hgv j u hj
  have hown0 := hown
  rcases hown.2 with ⟨rfl, hn⟩ | ⟨g', cap, cur, rfl, hbg, hg, hnc, hcm, hcs, htake⟩
  · cases hgv
  · simp only [Value.ownBlock, Option.some.injEq] at hgv
    subst hgv
    have hbytes : (xs.length + 1) * bytes ≤ 140737488355328 := by
      have : (xs.length + 1) * bytes ≤ 10000000 * 1000 := Nat.mul_le_mul hm hbb
      omega
    by_cases hroom : xs.length + 1 ≤ cap
    · have hfit : xs.length * i.size + [y].length ≤ cur.size := by
        rw [hsize, hcs]; simp; omega
      have hr2 := run_append_room (P := P) w t ty e i ht hi g' xs.length cap cur hg ad 1 1 [y] (by rw [hsize]; rfl) hnews (by intro u hu; simp at hu; rw [hu]; exact h1) hroom hfit
      rw [hr] at hr2
      simp only [Result.ok.injEq] at hr2
      obtain ⟨rfl, -⟩ := hr2
      have := World.ownsRow.cells (v := .slice (some ⟨g', 0, none⟩) (xs.length + 1) cap) (g := g') ho rfl j u (by rw [List.getElem?_append_left (List.getElem?_eq_some_iff.1 hj).1]; exact hj)
      rw [addr_add] at this
      exact this
    · have holds : ∀ j u, xs[j]? = some u → w.cell? ((⟨g', 0, none⟩ : Addr).add j) = some u := World.ownsRow.cells hown0 (g := g') rfl
      have hr2 := run_append_grow (P := P) w t ty e i z ht hi hz ⟨g', 0, none⟩ xs.length cap xs (by rw [hsize]; simp) holds ad 1 1 [y] (by rw [hsize]; rfl) hnews (by omega) (by omega) (by rw [hby]; exact growslice_fits (by omega) (by omega))
      rw [hr] at hr2
      simp only [Result.ok.injEq] at hr2
      obtain ⟨-, rfl⟩ := hr2
      have hc := holds j u hj
      rw [addr_add] at hc
      have hb : Below w.heap.size w (w.drew.alloc (.cells (xs.toArray ++ [y].toArray ++ Builtin.zeroCells z.cells (grownCap w (xs.length + 1) cap e - (xs.length + 1))) e)) := ((Below.refl _ _).drew).alloc (Nat.le_refl _) _
      exact (hb.cell (p := ⟨g', j, none⟩) (World.block_lt_of_cell? _ _ hc)).trans hc
theorem step_app2 {ops : Array Oper} {o : Oper} {a : Act} {K : Act → World → Prop} {Q : Exit → Act → World → Prop} {E : Prop} (hgd : o.guard = none) (s x : Operand) (t : TypeId)
    (ho : o.op = .call { callee := .builtin .append, args := #[s, x], argTypes := #[t, t] })
    (base : Nat) (e : TypeId) (i : TypeInfo) (z : Value) (bytes : Nat) (ht : P.underlying t = some (.slice e)) (hi : P.info? e = some i) (hz : i.zero = some z)
    (hsize : i.size = 1) (hby : i.bytes = bytes) (hzs : z.cells.size = 1)
    (v : Value) (xs : List Value) (hs : a.eval s = v) (hown : ORow base e w v xs) (ad : Addr) (y : Value) (hx : a.eval x = .slice (some ad) 1 1) (hnews : ∀ j u, [y][j]? = some u → w.cell? (ad.add j) = some u) (h1 : y.oneCell' = true)
    (hm : xs.length + 1 ≤ 10000000) (hbb : bytes ≤ 1000) (hbase : base ≤ w.heap.size)
    (h : ∀ v' w', ORow base e w' v' (xs ++ [y]) → w.grownBy w' v.ownBlock → (∀ g, v.ownBlock = some g → ∀ j u, xs[j]? = some u → w'.cell? ⟨g, j, none⟩ = some u) → K (a.put o.dst v') w') :
    if Region.wanted o (yielded ops a.tmps) = true then Oper.wp P o a w K Q else E := by
  have hw : Region.wanted o (yielded ops a.tmps) = true := by simp [Region.wanted, hgd]
  rw [if_pos hw]
  obtain ⟨v', w', hr, h2, h3, h4⟩ := app_freshG (P := P) (w := w) base t o.type e i z 1 bytes ht hi hz hsize hby hzs (by decide) v xs.length xs hown ad 1 1 [y] rfl hnews (by intro u hu; simp at hu; rw [hu]; exact h1) hm hbb hbase
  have h2' : ORow base e w' v' (xs ++ [y]) := by show w'.ownsRow _ _ _ _ _ _; rw [List.length_append]; exact h2
  have h5 := app_old ht hi hz hsize hby hown hnews h1 hm hbb hr h2'
  unfold Oper.wp execOp
  simp only [ho, resolve, invoke, builtin, Sem.run_bind, Sem.run_pure, Result.andThen_ok, List.map_toArray, List.map_cons, List.map_nil, hs, hx, hr]
  exact h v' w' h2' h3 h5
end

set_option maxRecDepth 100000 in
set_option maxHeartbeats 4000000 in
theorem places_any (B n : Nat) (its : List It) (lg : List Bool) (v : Value) (w : World) (hl : n ≤ 20000) (hn : its.length = n) (hv : ORow B 2 w v (szK its lg n)) :
    Calls Try.prog 15 #[v] w fun e w' => ∃ x, e = .returned x ∧ ORow w.heap.size 2 w' x (plK its lg (n + 1)) ∧ Below w.heap.size w w' := by
  have HV : Hid (ORow B 2 w v (szK its lg n)) := hv
  obtain ⟨av, cv, rfl⟩ := hv.shape
  rw [szK_len] at HV ⊢
  obtain ⟨i0, hi, hz0, hz1, hz2⟩ := info_parts info_i64
  clear hv hn
  go_enter Try.func15, Try.ntmps15
  go_wp2_with fail
  go_loopw [3, 4] (fun o i wr => ∃ k : Nat, k ≤ n ∧ i = .int .i64 k ∧ ORow w.heap.size 2 wr o (plK its lg (k + 1)) ∧ Below w.heap.size w wr) (fun _ i _ => n - (intOf i).toNat)
  case atStart => exact ⟨0, Nat.zero_le _, rfl, orow_lit1 w _ _ _ (Nat.le_refl _), (Below.refl _ _).alloc (Nat.le_refl _) _⟩
  case round =>
    obtain ⟨k, hk, rfl, hO, hB⟩ := hrel
    have hO' := hO
    have hpos : 0 < (plK its lg (k + 1)).length := by rw [plK_len]; omega
    obtain ⟨go, co, rfl, hgo1, hgo2, hcell⟩ := hO.at hpos
    have HO : Hid (ORow w.heap.size 2 wr (.slice (some ⟨go, 0, none⟩) (plK its lg (k + 1)).length co) (plK its lg (k + 1))) := hO'
    have o0 := (hcell k _ (plK_at its lg (k + 1) k (by omega))).1
    have hpl := plN_le its lg k
    have HLn : Hid ((plK its lg (k + 1)).length = k + 1) := plK_len _ _ _
    have hsz := hB.size
    clear hO hO' hcell hpos
    by_cases hlt : k < n
    · have HVw : Hid (ORow B 2 wr (.slice av n cv) (szK its lg n)) := HV.out.below hB
      obtain ⟨gv, cv', he, hgv1, hgv2, hvc⟩ := HVw.out.at (by rw [szK_len]; omega)
      rw [szK_len] at he
      simp only [Value.slice.injEq, true_and] at he
      obtain ⟨rfl, rfl⟩ := he
      have s0 := (hvc k _ (szK_at its lg n k hlt)).1
      have hgvw : gv < w.heap.size := by
        obtain ⟨g', c', he', _, hlt', _⟩ := HV.out.at (by rw [szK_len]; omega)
        simp only [Value.slice.injEq, Option.some.injEq, Addr.mk.injEq, and_true] at he'
        omega
      have HPa : Hid ((plK its lg (k + 1))[k]? = some (.int .i64 (4 * ((plN its lg k : Nat) : Int)))) := plK_at its lg (k + 1) k (by omega)
      have HPs : Hid (plN its lg (k + 1) = plN its lg k + szB (its.getD k it0) (lg.getD k false)) := rfl
      have HPk : Hid (plK its lg (k + 1 + 1) = plK its lg (k + 1) ++ [.int .i64 (4 * ((plN its lg (k + 1) : Nat) : Int))]) := plK_succ its lg (k + 1)
      have hs2 : szB (its.getD k it0) (lg.getD k false) ≤ 2 := by
        unfold szB
        split
        · omega
        · split <;> omega
      clear hvc
      generalize szB (its.getD k it0) (lg.getD k false) = sb at s0 HPs hs2
      generalize plN its lg k = pk at o0 HPs hpl HPa
      obtain ⟨LL, hLL⟩ : ∃ LL, LL = (plK its lg (k + 1)).length := ⟨_, rfl⟩
      have HLL : Hid (LL = k + 1) := by show _ = _; rw [hLL]; exact HLn.out
      rw [← hLL] at HO ⊢
      have hLk : k < LL := by have := HLL.out; omega
      have hLm : LL ≤ 20001 := by have := HLL.out; omega
      have HOa : Hid (∀ o, ORow w.heap.size 2 (wr.drew.alloc o) (.slice (some ⟨go, 0, none⟩) LL co) (plK its lg (k + 1))) := fun o => HO.out.below (((Below.refl _ _).drew).alloc (Nat.le_refl _) o)
      have HBa : Hid (∀ o, Below w.heap.size w (wr.drew.alloc o)) := fun o => (hB.drew).alloc hsz o
      have HBx : Hid (∀ o, Below wr.heap.size wr (wr.drew.alloc o)) := fun o => ((Below.refl _ _).drew).alloc (Nat.le_refl _) o
      have hgvr : gv < wr.heap.size := by omega
      have hgne : some gv ≠ (Value.slice (some ⟨go, 0, none⟩) LL co).ownBlock := by
        intro h
        simp only [Value.ownBlock, Option.some.injEq] at h
        omega
      have hne0 := World.new_ne wr ⟨go, k, none⟩ o0
      have hne1 := World.new_ne wr ⟨gv, k, none⟩ s0
      have hxl : (plK its lg (k + 1)).length + 1 ≤ 10000000 := by have := HLn.out; omega
      have e4 : (4 : Int) * (pk : Int) + 4 * (sb : Int) = 4 * ((pk + sb : Nat) : Int) := by omega
      clear hLL hgv1 hgv2
      go_wp2_with fail
      go_region_held_law (fun W => W.cell? ⟨go, k, none⟩ = some (.int .i64 (4 * (pk : Int))) ∧ W.cell? ⟨gv, k, none⟩ = some (.int .i64 (sb : Int))) (first | go_keep | (go_split_ands; exact ⟨y0, y1⟩))
        (first
        | (refine step_app2 (by rfl) _ _ 42 (by rfl) w.heap.size 2 i0 _ 8 Try.underlying42 hi hz0 hz1 hz2 rfl (.slice (some ⟨go, 0, none⟩) LL co) (plK its lg (k + 1)) (by rfl) (HOa.out _) ⟨wr.heap.size, 0, none⟩ _ (by rfl) (lit1 wr.drew _ _) rfl hxl (by decide) (HBa.out _).size ?_; intro v1 w1 ho1 hg1 hk1; have y0 := hk1 go rfl k _ HPa.out; have y1 := hg1.cell (((HBx.out _).cell (p := ⟨gv, k, none⟩) hgvr).trans s0) hgne))
      have hwr : IntKind.i64.wrap (4 * (pk : Int) + IntKind.i64.wrap (4 * (sb : Int))) = 4 * ((pk + sb : Nat) : Int) := by rw [wrap_id (4 * (sb : Int)) (by omega), wrap_id _ (by omega)]; omega
      rw [hwr] at ho1
      have HO1 : Hid (ORow w.heap.size 2 w1 v1 (plK its lg (k + 1 + 1))) := by show ORow _ _ _ _ _; rw [HPk.out, HPs.out]; exact ho1
      have hB1 : Below w.heap.size w w1 := ((hB.alloc hsz _).drew).grown hg1 (by simp; omega) (fun x hx => (World.ownsRow.lt HO.out x hx).1)
      obtain ⟨a1, c1, rfl⟩ := HO1.out.shape
      clear ho1 hg1 hk1 y0 y1
      go_wp2_with fail
      go_roundw
      case rel => exact ⟨k + 1, by omega, by go_num, HO1.out, hB1⟩
      case measure => simp [intOf]; omega
    · have hkn : k = n := by omega
      go_wp2_with fail
      go_ret
      exact ⟨_, rfl, by rw [← hkn]; exact HO.out, hB⟩

end Go.Proofs.Ytkbonhbegpiajaa
