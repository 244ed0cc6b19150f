import Derived.Test.YtabjcodpagjbjaaP00
import Derived.OwnWalk
import Derived.Laws.OwnMore
import Derived.Lib.AppendZeros
import Derived.Test.YtabjcodpagjbjaaP02
import Derived.Deep.RegionWith
import Derived.Deep.RegionHeld3
namespace Go.Proofs.Ytabjcodpagjbjaa
open Go.RowKit
set_option linter.unusedVariables false
set_option linter.unusedSimpArgs false

theorem run_append_zeros0 {P : Program} (w : World) (t tn ty e : TypeId) (i : TypeInfo) (k kn : IntKind) (ht : P.underlying t = some (.slice e)) (htn : P.underlying tn = some (.int kn)) (hi : P.info? e = some i) :
    (Builtin.append_ #[t, tn] ty #[.slice none 0 0, .int k 0]).run P w = .ok (.slice none 0 0) w := by
  have hw : IntKind.i64.wrap (0 : Int) = 0 := by rw [IntKind.wrap_i64]; omega
  simp [Builtin.append_, run_underlying ht, run_underlying htn, sizeOf, typeInfo, hi, asInt, asIntOf, hw, Question.forced]

/-- 'append(nil, make([]T, n)...)'. -/
theorem run_append_zeros {P : Program} (w : World) (t tn ty e : TypeId) (i : TypeInfo) (k kq kn : IntKind) (ht : P.underlying t = some (.slice e)) (htn : P.underlying tn = some (.int kn)) (hi : P.info? e = some i)
    (hz : i.zero = some (.int k 0)) (hs : i.size = 1) (hb : i.bytes ≤ 8) (d : Int) (h0 : 0 ≤ d) (hd : d ≤ 1000000) :
    ∃ v' w', (Builtin.append_ #[t, tn] ty #[.slice none 0 0, .int kq d]).run P w = .ok v' w' ∧ w'.ownsRow w.heap.size e 1 v' d.toNat (List.replicate d.toNat (.int k 0)) ∧ w.grownBy w' none := by
  obtain ⟨n, rfl⟩ : ∃ n : Nat, d = n := ⟨d.toNat, by omega⟩
  simp only [Int.toNat_natCast]
  by_cases hn : n = 0
  · subst hn
    exact ⟨_, _, run_append_zeros0 w t tn ty e i kq kn ht htn hi, World.ownsRow_nil _ _ _ _, ⟨rfl, rfl, rfl, Nat.le_refl _, fun _ _ _ => rfl⟩⟩
  · have hr := Lib.run_append_nil_zeros (P := P) w t tn ty e i (.int k 0) kq kn ht htn hi hz n (by omega) (by omega) (by omega) (by have : n * i.bytes ≤ 1000000 * 8 := Nat.mul_le_mul (by omega) hb; omega)
    have hge := grownCap_ge w n 0 e
    have hzc : ∀ m, (Builtin.zeroCells (Value.cells (.int k 0)) m).toList = List.replicate m (.int k 0) := by
      intro m
      have e1 : (Value.int k 0).cells = #[Value.int k 0] := rfl
      rw [e1]
      apply List.ext_getElem?
      intro j
      by_cases hj : j < m
      · simp [Builtin.zeroCells, hj, Nat.mod_one]
      · simp [Builtin.zeroCells, hj]
    refine ⟨_, _, hr, ⟨by simp, .inr ⟨w.heap.size, _, _, rfl, Nat.le_refl _, heap_alloc_new w.drew _, hge, grownCap_le_maxLen w n 0 e (by unfold maxLen; omega), ?_, ?_⟩⟩, ⟨rfl, rfl, rfl, by simp, fun k hk _ => Below.heap_alloc w.drew _ k hk⟩⟩
    · rw [← Array.length_toList, Array.toList_append, hzc, hzc]
      simp
      omega
    · rw [Array.toList_append, hzc, hzc, Nat.mul_one]
      simp
end Go.Proofs.Ytabjcodpagjbjaa

namespace Go.Proofs.Ytabjcodpagjbjaa
open Go.RowKit
set_option linter.unusedVariables false
set_option linter.unusedSimpArgs false

theorem own_lit_ge {B g n c : Nat} (h : B ≤ g) : ∀ k, Value.ownBlock (.slice (some ⟨g, 0, none⟩) n c) = some k → B ≤ k := by
  intro k hk
  cases hk
  exact h
theorem own_lit_ne {B g n c : Nat} (h : B ≠ g) : some B ≠ Value.ownBlock (.slice (some ⟨g, 0, none⟩) n c) := by
  intro e
  cases e
  exact h rfl
theorem one_new (w : World) (v : Value) (t : TypeId) (j : Nat) (u : Value) (hj : [v][j]? = some u) : (w.alloc (.cells #[v] t)).cell? ((⟨w.heap.size, 0, none⟩ : Addr).add j) = some u := by
  cases j with
  | zero =>
    simp at hj
    subst hj
    simp [Addr.add_lit]
  | succ j => simp at hj
theorem row_ne {W : World} {B e size n g : Nat} {v : Value} {xs : List Value} (h : W.ownsRow B e size v n xs) (hg : g < B) : some g ≠ v.ownBlock := fun e => by have := (h.lt g e.symm).1; omega
theorem own_slice {W : World} {B e size n : Nat} {v : Value} {xs : List Value} (h : W.ownsRow B e size v n xs) : ∃ a c, v = .slice a n c := by
  rcases h.2 with ⟨rfl, rfl⟩ | ⟨g, cap, cur, rfl, _⟩
  · exact ⟨_, _, rfl⟩
  · exact ⟨_, _, rfl⟩
theorem own_some {W : World} {B e size n : Nat} {v : Value} {xs : List Value} (h : W.ownsRow B e size v n xs) (hn : 0 < n) : ∃ g c, v = .slice (some ⟨g, 0, none⟩) n c := by
  rcases h.2 with ⟨rfl, rfl⟩ | ⟨g, cap, cur, rfl, _⟩
  · omega
  · exact ⟨_, _, rfl⟩
theorem own_block {W : World} {B e size n : Nat} {v : Value} {xs : List Value} (h : W.ownsRow B e size v n xs) : ∀ k, v.ownBlock = some k → B ≤ k := fun k hk => (h.lt k hk).1
/-- An own row stays where its block is not touched. -/
theorem own_tcs {S : Nat → Prop} {W W' : World} {B e size n : Nat} {v : Value} {xs : List Value} (h : W.ownsRow B e size v n xs) (ht : Tcs S W W') (hn : ∀ g ∈ obk v, ¬ S g) : W'.ownsRow B e size v n xs := by
  refine ⟨h.1, h.2.imp id ?_⟩
  rintro ⟨g, cap, cur, rfl, h2, h3, h4⟩
  exact ⟨g, cap, cur, rfl, h2, (ht.block g (Array.getElem?_eq_some_iff.mp h3).1 (hn g (by simp [obk]))).trans h3, h4⟩

theorem boot_close_s {w w1 wr w6 w7 : World} {gr cb cr : Nat} {n2 n3 : Nat} {v6 v7 v1 : Value} {zs : List Int} {y0 y1 y2 y3 y4 y5 y6 y7 x2 x3 : Value}
    (hst : (wr.setCell ⟨gr, 2, none⟩ (.int .u32 1073741824)).ownsRow (cb + 1) 30 1 (.slice (some ⟨gr, 0, none⟩) 32 cr) 32 ((List.replicate 32 (.int .u32 0)).set 2 (.int .u32 1073741824)))
    (hown6 : w6.ownsRow wr.heap.size 5 1 v6 n2 (List.replicate n2 (.int .u8 0))) (hown7 : w7.ownsRow w6.heap.size 5 1 v7 n3 (List.replicate n3 (.int .u8 0)))
    (hown1 : wr.ownsRow w1.heap.size 2 1 v1 zs.length (zs.map (Value.int .i64))) (hgr : cb + 1 ≤ gr) (hg6 : (wr.setCell ⟨gr, 2, none⟩ (.int .u32 1073741824)).grownBy w6 none) (hg7 : (w6.setCell ⟨cb, 2, none⟩ x2).grownBy w7 none)
    (hcb : w1.heap.size ≤ cb) (hcb2 : cb < wr.heap.size) (s1 : w.heap.size + 1 + 1 ≤ w1.heap.size) (BW : Below w.heap.size w wr) (hgr2 : gr < wr.heap.size) (hlow : ∀ g ∈ obk v1, g < cb) :
    CpuAt (((((((((w7.setCell ⟨cb, 3, none⟩ x3).setCell ⟨w.heap.size + 1, 0, none⟩ y0).setCell ⟨w.heap.size + 1, 1, none⟩ y1).setCell ⟨w.heap.size + 1, 2, none⟩ y2).setCell ⟨w.heap.size + 1, 3, none⟩ y3).setCell ⟨w.heap.size + 1, 4, none⟩ y4).setCell ⟨w.heap.size + 1, 5, none⟩ y5).setCell ⟨w.heap.size + 1, 6, none⟩ y6).setCell ⟨w.heap.size + 1, 7, none⟩ y7) w.heap.size (.agg #[.slice (some ⟨gr, 0, none⟩) 32 cr, .int .u32 4096, v6, v7, v1, .slice none 0 0, .int .u32 1073741824, .int .i64 0]) ⟨regs0, 4096, List.replicate n2 0, List.replicate n3 0, zs, [], 1073741824, 0⟩ ∧ Below w.heap.size w (((((((((w7.setCell ⟨cb, 3, none⟩ x3).setCell ⟨w.heap.size + 1, 0, none⟩ y0).setCell ⟨w.heap.size + 1, 1, none⟩ y1).setCell ⟨w.heap.size + 1, 2, none⟩ y2).setCell ⟨w.heap.size + 1, 3, none⟩ y3).setCell ⟨w.heap.size + 1, 4, none⟩ y4).setCell ⟨w.heap.size + 1, 5, none⟩ y5).setCell ⟨w.heap.size + 1, 6, none⟩ y6).setCell ⟨w.heap.size + 1, 7, none⟩ y7) := by
  have T7 := ((Tcs.refl (fun k => k = cb ∨ k = w.heap.size + 1) w7).setCell (p := ⟨cb, 3, none⟩) (.inl rfl) x3).set8 (w.heap.size + 1) (.inr rfl) y0 y1 y2 y3 y4 y5 y6 y7
  have T6 := ((Tcs.refl (fun k => k = cb ∨ k = w.heap.size + 1) w6).setCell (p := ⟨cb, 2, none⟩) (.inl rfl) x2).grown hg7 (by simp) |>.trans T7
  have T5 := (Tcs.refl (fun k => k = cb ∨ k = w.heap.size + 1) (wr.setCell ⟨gr, 2, none⟩ (.int .u32 1073741824))).grown hg6 (by simp) |>.trans T6
  have TT := (Tcs.refl (fun k => k = gr) wr).setCell (p := ⟨gr, 2, none⟩) rfl (.int .u32 1073741824)
  have TW := ((Tcs.refl (fun k => k = gr ∨ k = cb ∨ k = w.heap.size + 1) wr).setCell (p := ⟨gr, 2, none⟩) (.inl rfl) (.int .u32 1073741824)).trans (T5.mono fun k hk => .inr hk)
  have s6 : wr.heap.size ≤ w6.heap.size := by have := hg6.size; simpa using this
  have s7 : w6.heap.size ≤ w7.heap.size := by have := hg7.size; simpa using this
  have q6 := own_obk hown6
  have q7 := own_obk hown7
  have q1 := own_obk hown1
  have Lr : Lis .u32 _ (.slice (some ⟨gr, 0, none⟩) 32 cr) regs0 := (Lis.of_own (k := .u32) (zs := regs0) (by rw [show regs0.map (Value.int .u32) = (List.replicate 32 (.int .u32 0)).set 2 (.int .u32 1073741824) from rfl]; exact hst)).1.tcs T5 (by
    intro g hg
    have := blk_obk hg
    simp [obk] at this
    omega)
  have L6 : Lis .u8 _ v6 (List.replicate n2 0) := (Lis.of_own (k := .u8) (by rw [List.map_replicate]; exact hown6)).1.tcs T6 (by
    intro g hg
    have := q6.2 g (blk_obk hg)
    omega)
  have L7 : Lis .u8 _ v7 (List.replicate n3 0) := (Lis.of_own (k := .u8) (by rw [List.map_replicate]; exact hown7)).1.tcs T7 (by
    intro g hg
    have := q7.2 g (blk_obk hg)
    omega)
  have L1 : Lis .i64 _ v1 zs := (Lis.of_own hown1).1.tcs TW (by
    intro g hg
    have h1 := q1.2 g (blk_obk hg)
    have h2 := hlow g (blk_obk hg)
    omega)
  have hnb : ∀ v : Value, (blk v).Nodup := by
    intro v
    unfold blk
    split <;> simp
  have kr : ∀ x ∈ blk (.slice (some ⟨gr, 0, none⟩) 32 cr), x = gr := fun x hx => by
    have := blk_obk hx
    simpa [obk] using this
  refine ⟨⟨_, _, _, _, _, rfl, Lr, L6, L7, L1, World.ownsRow_nil _ _ _ _, ?_, ?_, own_cap hown6, own_cap hown7, own_cap hown1⟩, TW.below BW BW.size ?_⟩
  · rw [show obk (.slice none 0 0) = [] from rfl, List.append_nil]
    simp only [List.nodup_append, List.mem_append]
    refine ⟨⟨⟨hnb _, hnb _, fun x hx y hy => ?_⟩, hnb _, fun x hx y hy => ?_⟩, hnb _, fun x hx y hy => ?_⟩
    · have h1 := kr x hx
      have h2 := q6.2 y (blk_obk hy)
      omega
    · have h2 := q7.2 y (blk_obk hy)
      rcases hx with hx | hx
      · have h1 := kr x hx
        omega
      · have h1 := q6.2 x (blk_obk hx)
        omega
    · have h2 := hlow y (blk_obk hy)
      rcases hx with (hx | hx) | hx
      · have h1 := kr x hx
        omega
      · have h1 := q6.2 x (blk_obk hx)
        omega
      · have h1 := q7.2 x (blk_obk hx)
        omega
  · intro g hg
    rw [show obk (.slice none 0 0) = [] from rfl, List.append_nil] at hg
    simp only [List.mem_append] at hg
    rcases hg with ((hg | hg) | hg) | hg
    · have h1 := kr g hg
      omega
    · have h1 := q6.2 g (blk_obk hg)
      omega
    · have h1 := q7.2 g (blk_obk hg)
      omega
    · have h1 := q1.2 g (blk_obk hg)
      omega
  · rintro k (rfl | rfl | rfl) <;> omega
set_option maxRecDepth 8000 in
set_option maxHeartbeats 1000000 in
theorem boot_s_yes (a : Option Addr) (len cap : Nat) (d bd : Int) (v : Value) (zs : List Int) (w : World) (hl : len ≤ 1048576) (hz : zs.length ≤ 1000) (h : Lis .i64 w v zs) (hnil : v = .slice none 0 0 ∨ ∃ ad m c, v = .slice (some ad) m c) (hv : vimg len d bd = true) (ho : wrds zs = true) :
    Calls Try.prog 10 #[.agg #[.slice a len cap, .int .i64 d, .int .i64 bd], v] w fun e w' => ∃ u, e = .returned u ∧ CpuAt w' w.heap.size u (bootM len d bd zs) ∧ Below w.heap.size w w' := by
  obtain ⟨av, cv, rfl⟩ := h.len0
  have HL : Hid _ := h
  clear h
  go_enter Try.func10, Try.ntmps10
  go_wp2_with fail
  refine (vs_any a len cap d bd _ hl).mono ?_
  rintro e w1 ⟨rfl, hb1⟩
  have zz0 := box_new hb1
  have s1 := hb1.size
  simp only [World.size_alloc] at s1
  have B1 : Below w.heap.size w w1 := (((Below.refl _ _).alloc (Nat.le_refl _) _).alloc (by simp) _).trans (hb1.mono (by simp; omega))
  rw [hv]
  go_wp2_with fail
  refine (words_s _ zs _ (by omega) (Lis.below HL.out B1)).mono ?_
  rintro e w2 ⟨rfl, nd, rfl⟩
  rw [ho]
  obtain ⟨i0, hi0, hz00, hz01, hz02⟩ := info_parts Try.infu8
  obtain ⟨i1, hi1, hz10, hz11, hz12⟩ := info_parts Try.infu32
  obtain ⟨i2, hi2, hz20, hz21, hz22⟩ := info_parts Try.infi64
  have BA : Below w.heap.size w ((w1.drewN nd).alloc (.cells #[] 2)) := (below_drewN B1 nd).alloc (by simp; omega) _
  clear hb1
  go_wp2_with (at_builtin; refine wpList_append_lis _ rfl _ _ 26 rfl w1.heap.size 2 i2 .i64 8 Try.underlying26 hi2 hz20 hz21 hz22 _ 0 [] rfl (World.ownsRow_lit (w1.drewN nd) #[] 0 (Nat.le_refl _) (by decide) rfl) _ zs rfl (Lis.below HL.out BA) (by unfold maxLen; omega) (by omega) (by simp) hnil ?_; intro v1 w3 hown1 hgrow1; obtain ⟨a1, c1, rfl⟩ := own_slice hown1)
  have HO1 : Hid _ := hown1
  have B3 : Below w.heap.size w w3 := BA.grown hgrow1 (by simp; omega) (own_lit_ge (by omega))
  have K3 : w3.heap[w.heap.size + 1]? = _ := (hgrow1.block _ (by simp; omega) (own_lit_ne (by omega))).trans ((Below.heap_alloc (w1.drewN nd) _ _ (by simp; omega)).trans zz0.1)
  have M3 : w3.heap[w.heap.size]? = _ := (hgrow1.block _ (by simp; omega) (own_lit_ne (by omega))).trans ((Below.heap_alloc (w1.drewN nd) _ _ (by simp; omega)).trans zz0.2)
  have s3 : w1.heap.size < w3.heap.size := by have := hgrow1.size; simp at this; omega
  have HK : Hid _ := And.intro K3 M3
  clear hown1 hgrow1 K3 M3 zz0 BA
  go_wp2_with fail
  go_loopw [6] (fun i wr => ∃ k : Nat, k ≤ 32 ∧ i = .int .i64 k ∧ Below w3.heap.size w3 wr ∧ ∃ rv, Bx wr w3.heap.size rv (.int .u32 4096) (.slice none 0 0) (.slice none 0 0) (.slice a1 zs.length c1) (.slice none 0 0) (.int .u32 1073741824) (.int .i64 0) ∧ wr.ownsRow (w3.heap.size + 1) 30 1 rv k (List.replicate k (.int .u32 0)))
    (fun i _ => 32 - (intOf i).toNat)
  case atStart =>
    refine ⟨0, by omega, rfl, ?_, .slice none 0 0, ?_, World.ownsRow_nil _ _ _ _⟩
    · exact (Below.refl _ _).alloc (Nat.le_refl _) _
    · exact Bx.of_heap (heap_alloc_new _ _)
  case round =>
    obtain ⟨k, hk, rfl, hB, rv, hbx, hown⟩ := hrel
    have hlt := hbx.lt
    obtain ⟨ar, cr, rfl⟩ := own_slice hown
    by_cases hk32 : k < 32
    · have c0 := hbx.c0
      go_wp2_with (at_builtin; refine wpList_append_own _ rfl _ _ 23 rfl (w3.heap.size + 1) 30 i1 (.int .u32 0) 1 4 Try.underlying23 hi1 hz10 hz11 hz12 rfl (by decide) _ k _ rfl (hown.alloc _) ⟨wr.heap.size, 0, none⟩ 1 1 [.int .u32 0] rfl rfl ?c1 ?c2 ?c3 ?c4 ?c5 ?_; rotate_right; intro v5 w5 hown5 hgrow5 _; obtain ⟨a5, c5', rfl⟩ := own_slice hown5; have bx5 := (hbx.alloc _).keep (hgrow5.block _ (by simp; omega) (row_ne hown (by omega))); have d0 := bx5.c0; have df := bx5.fz 0)
      case c1 => intro j u hj; exact one_new wr (.int .u32 0) 30 j u hj
      case c2 => intro u hu; simp at hu; subst hu; rfl
      case c3 => unfold maxLen; omega
      case c4 => omega
      case c5 => simp; omega
      go_roundw
      case rel =>
        refine ⟨k + 1, by omega, by go_num, ?_, _, bx5.s0 _, ?_⟩
        · exact ((hB.alloc (by omega) _).grown hgrow5 (by simp; omega) (fun k hk => by have := own_block hown k hk; omega)).setCell (Nat.le_refl _) _
        · rw [List.replicate_succ']
          exact ownsRow_setCell_below hown5 (by simp) _
      case measure => simp [intOf]; omega
    · obtain rfl : k = 32 := by omega
      obtain ⟨gr, cr', er⟩ := own_some hown (by omega)
      simp only [Value.slice.injEq] at er
      obtain ⟨rfl, _, rfl⟩ := er
      have hgr := own_block hown gr rfl
      have hgr2 : gr < wr.heap.size := (hown.lt gr rfl).2
      have r2 : wr.cell? ⟨gr, 2, none⟩ = some (.int .u32 0) := by rw [hown.cellAt 2 (by omega)]; simp
      have rf : wr.frozen? ⟨gr, 2, none⟩ = false := hown.frozenAt 2
      have hst := (hown.stored 2 (.int .u32 1073741824)).1
      have TT : Tcs (fun k => k = gr) wr (wr.setCell ⟨gr, 2, none⟩ (.int .u32 1073741824)) := (Tcs.refl (fun k => k = gr) wr).setCell (p := ⟨gr, 2, none⟩) rfl _
      have bx1 := hbx.other (p := ⟨gr, 2, none⟩) (by dsimp only; omega) (.int .u32 1073741824)
      have KB : Bx wr (w.heap.size + 1) (.slice none 0 0) (.int .u32 0) (.slice none 0 0) (.slice none 0 0) (.slice none 0 0) (.slice none 0 0) (.int .u32 0) (.int .i64 0) := Bx.of_heap ((hB.block _ (by omega)).trans HK.out.1)
      have KM : wr.heap[w.heap.size]? = _ := (hB.block _ (by omega)).trans HK.out.2
      have hvv : 0 ≤ d ∧ d ≤ 65536 ∧ 0 ≤ bd ∧ bd ≤ 1000000 := by
        have := hv
        unfold vimg at this
        simp only [decide_eq_true_eq] at this
        omega
      obtain ⟨v6, w6, hr6, hown6, hg6⟩ := run_append_zeros (P := Try.prog) (wr.setCell ⟨gr, 2, none⟩ (.int .u32 1073741824)) 22 2 22 5 i0 .u8 .i64 .i64 Try.underlying22 Try.underlying2 hi0 hz00 hz01 (by omega) d hvv.1 (by omega)
      obtain ⟨a6, c6, rfl⟩ := own_slice hown6
      have bx6 := bx1.keep (hg6.block _ (by simpa using hlt) (by simp))
      have TT6 : Tcs (fun k => k = w3.heap.size) w6 (w6.setCell ⟨w3.heap.size, 2, none⟩ (.slice a6 d.toNat c6)) := (Tcs.refl (fun k => k = w3.heap.size) w6).setCell (p := ⟨w3.heap.size, 2, none⟩) rfl _
      have s6 : wr.heap.size ≤ w6.heap.size := by have := hg6.size; simpa using this
      obtain ⟨v7, w7, hr7, hown7, hg7⟩ := run_append_zeros (P := Try.prog) (w6.setCell ⟨w3.heap.size, 2, none⟩ (.slice a6 d.toNat c6)) 22 2 22 5 i0 .u8 .i64 .i64 Try.underlying22 Try.underlying2 hi0 hz00 hz01 (by omega) bd hvv.2.2.1 hvv.2.2.2
      obtain ⟨a7, c7, rfl⟩ := own_slice hown7
      have s7 : w6.heap.size ≤ w7.heap.size := by have := hg7.size; simpa using this
      have bx7 := (bx6.s2 (.slice a6 d.toNat c6)).keep (hg7.block _ (by simp; omega) (by simp))
      have bx8 := bx7.s3 (.slice a7 bd.toNat c7)
      have KB6 := (KB.other (p := ⟨gr, 2, none⟩) (by dsimp only; omega) (.int .u32 1073741824)).keep (hg6.block _ (by simp; omega) (by simp))
      have KB7 := (KB6.other (p := ⟨w3.heap.size, 2, none⟩) (by dsimp only; omega) (.slice a6 d.toNat c6)).keep (hg7.block _ (by simp; omega) (by simp))
      have KB8 := KB7.other (p := ⟨w3.heap.size, 3, none⟩) (by dsimp only; omega) (.slice a7 bd.toNat c7)
      have m1 : wr.cell? ⟨w.heap.size, 1, none⟩ = some (.int .i64 d) := by simp [World.cell?, KM]
      have m2 : wr.cell? ⟨w.heap.size, 2, none⟩ = some (.int .i64 bd) := by simp [World.cell?, KM]
      have m2' : w6.cell? ⟨w.heap.size, 2, none⟩ = some (.int .i64 bd) := by
        rw [World.cell?_of_block (w := wr.setCell ⟨gr, 2, none⟩ (.int .u32 1073741824)) (hg6.block _ (by simp; omega) (by simp)), World.cell?_setCell_other _ _ _ _ (by intro e; simp only [Addr.mk.injEq] at e; omega)]
        exact m2
      have n1 : ¬ gr = w3.heap.size := by omega
      have n2 : ¬ w3.heap.size = gr := by omega
      have n3 : ¬ gr = w.heap.size := by omega
      have n4 : ¬ w3.heap.size = w.heap.size := by omega
      have n5 : ¬ w.heap.size = gr := by omega
      have n6 : ¬ w.heap.size = w3.heap.size := by omega
      have b0 := hbx.c0
      have b1 := bx1.c2
      have b6 := bx6.c2
      have b6f := bx6.fz 2
      have b6' := bx6.c3
      have b7 := bx7.c3
      have b7f := bx7.fz 3
      have HX : Hid _ := And.intro hown (And.intro hst (And.intro hown6 (And.intro hown7 HO1.out)))
      clear hown hst hown6 hown7
      obtain ⟨p0, p1, p2, p3, p4, p5, p6, p7, pf⟩ := bx8
      obtain ⟨q0, q1, q2, q3, q4, q5, q6, q7, qf⟩ := KB8
      go_wp2_with (first | (at_builtin; refine Lib.wpList_append_run _ rfl (.tmp 38) (.tmp 40) _ _ rfl _ _ rfl rfl _ _ hr6 ?_) | (at_builtin; refine Lib.wpList_append_run _ rfl (.tmp 44) (.tmp 46) _ _ rfl _ _ rfl rfl _ _ hr7 ?_))
      refine bodyPost_ret (v := .agg #[.slice (some ⟨gr, 0, none⟩) 32 cr, .int .u32 4096, .slice a6 d.toNat c6, .slice a7 bd.toNat c7, .slice a1 zs.length c1, .slice none 0 0, .int .u32 1073741824, .int .i64 0])
        (by simp [results, Try.results10, go_sem, q0, q1, q2, q3, q4, q5, q6, q7]) rfl ?_
      refine ⟨_, rfl, ?_⟩
      rw [show bootM len d bd zs = ⟨regs0, 4096, List.replicate d.toNat 0, List.replicate bd.toNat 0, zs, [], 1073741824, 0⟩ by unfold bootM okIn; rw [hv, ho]; simp [hz]]
      obtain ⟨hown, hst, hown6, hown7, hown1⟩ := HX.out
      have hown1' : w3.ownsRow w1.heap.size 2 1 (.slice a1 zs.length c1) zs.length (zs.map (Value.int .i64)) := by
        have h := hown1
        simp only [Nat.zero_add, List.nil_append] at h
        exact h
      exact boot_close_s (gr := gr) (cb := w3.heap.size) hst (by simpa using hown6) (by simpa using hown7) (own_below hown1' hB) hgr (by simpa using hg6) (by simpa using hg7) (by omega) (by omega) s1 (B3.trans (hB.mono (by omega))) hgr2 (fun g hg => (own_obk hown1').2 g hg |>.2)

end Go.Proofs.Ytabjcodpagjbjaa

namespace Go.Proofs.Ytabjcodpagjbjaa
open Go.RowKit
set_option linter.unusedVariables false
set_option linter.unusedSimpArgs false

set_option maxRecDepth 8000 in
set_option maxHeartbeats 1000000 in
theorem boot_s_no1 (a : Option Addr) (len cap : Nat) (d bd : Int) (v : Value) (w : World) (hl : len ≤ 1048576) (hv : vimg len d bd = false) :
    Calls Try.prog 10 #[.agg #[.slice a len cap, .int .i64 d, .int .i64 bd], v] w fun e w' => e = .returned (.agg #[.slice none 0 0, .int .u32 0, .slice none 0 0, .slice none 0 0, .slice none 0 0, .slice none 0 0, .int .u32 0, .int .i64 0]) ∧ Below w.heap.size w w' := by
  go_enter Try.func10, Try.ntmps10
  go_wp2_with fail
  refine (vs_any a len cap d bd _ hl).mono ?_
  rintro e w1 ⟨rfl, hb1⟩
  have zz := (box_new hb1).1
  have B1 : Below w.heap.size w w1 := (((Below.refl _ _).alloc (Nat.le_refl _) _).alloc (by simp) _).trans (hb1.mono (by simp; omega))
  have z0 : w1.cell? ⟨w.heap.size + 1, 0, none⟩ = some (.slice none 0 0) := by simp [World.cell?, zz]
  have z1 : w1.cell? ⟨w.heap.size + 1, 1, none⟩ = some (.int .u32 0) := by simp [World.cell?, zz]
  have z2 : w1.cell? ⟨w.heap.size + 1, 2, none⟩ = some (.slice none 0 0) := by simp [World.cell?, zz]
  have z3 : w1.cell? ⟨w.heap.size + 1, 3, none⟩ = some (.slice none 0 0) := by simp [World.cell?, zz]
  have z4 : w1.cell? ⟨w.heap.size + 1, 4, none⟩ = some (.slice none 0 0) := by simp [World.cell?, zz]
  have z5 : w1.cell? ⟨w.heap.size + 1, 5, none⟩ = some (.slice none 0 0) := by simp [World.cell?, zz]
  have z6 : w1.cell? ⟨w.heap.size + 1, 6, none⟩ = some (.int .u32 0) := by simp [World.cell?, zz]
  have z7 : w1.cell? ⟨w.heap.size + 1, 7, none⟩ = some (.int .i64 0) := by simp [World.cell?, zz]
  have zf : ∀ j, w1.frozen? ⟨w.heap.size + 1, j, none⟩ = false := by intro j; simp [World.frozen?, zz]
  rw [hv]
  clear hb1 zz
  go_wp2
  refine bodyPost_ret (v := .agg #[.slice none 0 0, .int .u32 0, .slice none 0 0, .slice none 0 0, .slice none 0 0, .slice none 0 0, .int .u32 0, .int .i64 0]) (by simp [results, Try.results10, go_sem, z0, z1, z2, z3, z4, z5, z6, z7]) rfl ⟨rfl, ?_⟩
  exact ((Tcs.refl (fun k => k = w.heap.size + 1) (w1)).set8 _ rfl _ _ _ _ _ _ _ _).below B1 B1.size (by rintro k rfl; omega)

set_option maxRecDepth 8000 in
set_option maxHeartbeats 1000000 in
theorem boot_s_no2 (a : Option Addr) (len cap : Nat) (d bd : Int) (av : Option Addr) (n cv : Nat) (w : World) (hl : len ≤ 1048576) (hn : 1000 < n) (hv : vimg len d bd = true) :
    Calls Try.prog 10 #[.agg #[.slice a len cap, .int .i64 d, .int .i64 bd], .slice av n cv] w fun e w' => e = .returned (.agg #[.slice none 0 0, .int .u32 0, .slice none 0 0, .slice none 0 0, .slice none 0 0, .slice none 0 0, .int .u32 0, .int .i64 0]) ∧ Below w.heap.size w w' := by
  go_enter Try.func10, Try.ntmps10
  go_wp2_with fail
  refine (vs_any a len cap d bd _ hl).mono ?_
  rintro e w1 ⟨rfl, hb1⟩
  have zz := (box_new hb1).1
  have B1 : Below w.heap.size w w1 := (((Below.refl _ _).alloc (Nat.le_refl _) _).alloc (by simp) _).trans (hb1.mono (by simp; omega))
  have z0 : w1.cell? ⟨w.heap.size + 1, 0, none⟩ = some (.slice none 0 0) := by simp [World.cell?, zz]
  have z1 : w1.cell? ⟨w.heap.size + 1, 1, none⟩ = some (.int .u32 0) := by simp [World.cell?, zz]
  have z2 : w1.cell? ⟨w.heap.size + 1, 2, none⟩ = some (.slice none 0 0) := by simp [World.cell?, zz]
  have z3 : w1.cell? ⟨w.heap.size + 1, 3, none⟩ = some (.slice none 0 0) := by simp [World.cell?, zz]
  have z4 : w1.cell? ⟨w.heap.size + 1, 4, none⟩ = some (.slice none 0 0) := by simp [World.cell?, zz]
  have z5 : w1.cell? ⟨w.heap.size + 1, 5, none⟩ = some (.slice none 0 0) := by simp [World.cell?, zz]
  have z6 : w1.cell? ⟨w.heap.size + 1, 6, none⟩ = some (.int .u32 0) := by simp [World.cell?, zz]
  have z7 : w1.cell? ⟨w.heap.size + 1, 7, none⟩ = some (.int .i64 0) := by simp [World.cell?, zz]
  have zf : ∀ j, w1.frozen? ⟨w.heap.size + 1, j, none⟩ = false := by intro j; simp [World.frozen?, zz]
  rw [hv]
  clear hb1 zz
  go_wp2
  refine bodyPost_ret (v := .agg #[.slice none 0 0, .int .u32 0, .slice none 0 0, .slice none 0 0, .slice none 0 0, .slice none 0 0, .int .u32 0, .int .i64 0]) (by simp [results, Try.results10, go_sem, z0, z1, z2, z3, z4, z5, z6, z7]) rfl ⟨rfl, ?_⟩
  exact ((Tcs.refl (fun k => k = w.heap.size + 1) (w1)).set8 _ rfl _ _ _ _ _ _ _ _).below B1 B1.size (by rintro k rfl; omega)

set_option maxRecDepth 8000 in
set_option maxHeartbeats 1000000 in
theorem boot_s_no3 (a : Option Addr) (len cap : Nat) (d bd : Int) (v : Value) (zs : List Int) (w : World) (hl : len ≤ 1048576) (hz : zs.length ≤ 1000) (h : Lis .i64 w v zs) (hv : vimg len d bd = true) (ho : wrds zs = false) :
    Calls Try.prog 10 #[.agg #[.slice a len cap, .int .i64 d, .int .i64 bd], v] w fun e w' => e = .returned (.agg #[.slice none 0 0, .int .u32 0, .slice none 0 0, .slice none 0 0, .slice none 0 0, .slice none 0 0, .int .u32 0, .int .i64 0]) ∧ Below w.heap.size w w' := by
  obtain ⟨av, cv, rfl⟩ := h.len0
  have HL : Hid _ := h
  clear h
  go_enter Try.func10, Try.ntmps10
  go_wp2_with fail
  refine (vs_any a len cap d bd _ hl).mono ?_
  rintro e w1 ⟨rfl, hb1⟩
  have zz := (box_new hb1).1
  have B1 : Below w.heap.size w w1 := (((Below.refl _ _).alloc (Nat.le_refl _) _).alloc (by simp) _).trans (hb1.mono (by simp; omega))
  have z0 : w1.cell? ⟨w.heap.size + 1, 0, none⟩ = some (.slice none 0 0) := by simp [World.cell?, zz]
  have z1 : w1.cell? ⟨w.heap.size + 1, 1, none⟩ = some (.int .u32 0) := by simp [World.cell?, zz]
  have z2 : w1.cell? ⟨w.heap.size + 1, 2, none⟩ = some (.slice none 0 0) := by simp [World.cell?, zz]
  have z3 : w1.cell? ⟨w.heap.size + 1, 3, none⟩ = some (.slice none 0 0) := by simp [World.cell?, zz]
  have z4 : w1.cell? ⟨w.heap.size + 1, 4, none⟩ = some (.slice none 0 0) := by simp [World.cell?, zz]
  have z5 : w1.cell? ⟨w.heap.size + 1, 5, none⟩ = some (.slice none 0 0) := by simp [World.cell?, zz]
  have z6 : w1.cell? ⟨w.heap.size + 1, 6, none⟩ = some (.int .u32 0) := by simp [World.cell?, zz]
  have z7 : w1.cell? ⟨w.heap.size + 1, 7, none⟩ = some (.int .i64 0) := by simp [World.cell?, zz]
  have zf : ∀ j, w1.frozen? ⟨w.heap.size + 1, j, none⟩ = false := by intro j; simp [World.frozen?, zz]
  rw [hv]
  clear hb1 zz
  go_wp2_with fail
  refine (words_s _ zs _ (by omega) (Lis.below HL.out B1)).mono ?_
  rintro e w2 ⟨rfl, nd, rfl⟩
  rw [ho]
  have B2 := below_drewN B1 nd
  go_wp2
  refine bodyPost_ret (v := .agg #[.slice none 0 0, .int .u32 0, .slice none 0 0, .slice none 0 0, .slice none 0 0, .slice none 0 0, .int .u32 0, .int .i64 0]) (by simp [results, Try.results10, go_sem, z0, z1, z2, z3, z4, z5, z6, z7]) rfl ⟨rfl, ?_⟩
  exact ((Tcs.refl (fun k => k = w.heap.size + 1) (w1.drewN nd)).set8 _ rfl _ _ _ _ _ _ _ _).below B2 B2.size (by rintro k rfl; omega)

theorem boot_s (a : Option Addr) (len cap : Nat) (d bd : Int) (v : Value) (zs : List Int) (w : World) (hl : len ≤ 1048576) (hz : zs.length ≤ 2097152) (h : Lis .i64 w v zs) (hnil : v = .slice none 0 0 ∨ ∃ ad m c, v = .slice (some ad) m c) :
    Calls Try.prog 10 #[.agg #[.slice a len cap, .int .i64 d, .int .i64 bd], v] w fun e w' => ∃ u, e = .returned u ∧ CpuAt w' w.heap.size u (bootM len d bd zs) ∧ Below w.heap.size w w' := by
  cases hv : vimg len d bd with
  | false =>
    refine (boot_s_no1 a len cap d bd v w hl hv).mono fun e w' ⟨he, hb⟩ => ⟨_, he, ?_, hb⟩
    rw [show bootM len d bd zs = zeroM by unfold bootM; rw [hv]; rfl]
    exact cpu_zero _ _
  | true =>
    by_cases h1 : zs.length ≤ 1000
    · cases ho : wrds zs with
      | true => exact boot_s_yes a len cap d bd v zs w hl h1 h hnil hv ho
      | false =>
        refine (boot_s_no3 a len cap d bd v zs w hl h1 h hv ho).mono fun e w' ⟨he, hb⟩ => ⟨_, he, ?_, hb⟩
        rw [show bootM len d bd zs = zeroM by unfold bootM okIn; rw [hv, ho]; simp]
        exact cpu_zero _ _
    · obtain ⟨av, cv, rfl⟩ := h.len0
      refine (boot_s_no2 a len cap d bd av zs.length cv w hl (by omega) hv).mono fun e w' ⟨he, hb⟩ => ⟨_, he, ?_, hb⟩
      rw [show bootM len d bd zs = zeroM by unfold bootM okIn; rw [hv]; simp [h1]]
      exact cpu_zero _ _

end Go.Proofs.Ytabjcodpagjbjaa
