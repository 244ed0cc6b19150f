import Derived.Test.YtabjcodpagjbjaaP35
import Derived.Test.YtabjcodpagjbjaaP03
namespace Go.Proofs.Ytabjcodpagjbjaa
open Go.RowKit
set_option linter.unusedVariables false
set_option linter.unusedSimpArgs false
theorem Tch.tcs {g : Nat} {W W' : World} (h : Tch g W W') : Tcs (fun k => k = g) W W' := ⟨h.os, h.tape, h.output, h.size, fun k hk hn => h.block k hk hn⟩
theorem Cur.tcs {S : Nat → Prop} {g : Nat} {a : Option Addr} {len cap : Nat} {W W' : World} (hc : Cur g a len cap W) (ht : Tcs S W W') (hg : ¬ S g) (hb : ∀ b off, 0 < len → a = some ⟨b, off, none⟩ → ¬ S b) : Cur g a len cap W' := by
  have hlt := hc.lt
  obtain ⟨i, hi, c1⟩ := hc.s1
  obtain ⟨h, c2⟩ := hc.s2
  have e : ∀ q j, q < W.heap.size → ¬ S q → W'.cell? ⟨q, j, none⟩ = W.cell? ⟨q, j, none⟩ := fun q j hq hs => World.cell?_of_block (ht.block q hq hs)
  refine ⟨Nat.lt_of_lt_of_le hlt ht.size, (e g 0 hlt hg).trans hc.s0, ⟨i, hi, (e g 1 hlt hg).trans c1⟩, ⟨h, (e g 2 hlt hg).trans c2⟩, fun j => (World.frozen?_of_block (ht.block g hlt hg)).trans (hc.fz j), fun hl => ?_⟩
  obtain ⟨b, off, ha, hb', hbg, hz⟩ := hc.by8 hl
  exact ⟨b, off, ha, Nat.lt_of_lt_of_le hb' ht.size, hbg, fun j hj => by obtain ⟨z, z0, z1, cz⟩ := hz j hj; exact ⟨z, z0, z1, (e b _ hb' (hb b off hl ha)).trans cz⟩⟩
theorem grown_tcs {W W' : World} {r : Option Nat} (h : W.grownBy W' r) : Tcs (fun k => r = some k) W W' := ⟨h.os, h.tape, h.output, h.size, fun k hk hn => h.block k hk (fun e => hn e.symm)⟩
theorem Tch.new {S : Nat → Prop} {g : Nat} {a w w' : World} (h : Tch g a w) (ht : Tcs S w w') (hS : ∀ k, S k → a.heap.size ≤ k) : Tch g a w' :=
  ⟨ht.os.trans h.os, ht.tape.trans h.tape, ht.output.trans h.output, Nat.le_trans h.size ht.size, fun k hk hg => (ht.block k (Nat.lt_of_lt_of_le hk h.size) (fun hs => by have := hS k hs; omega)).trans (h.block k hk hg)⟩

theorem made_zeros (n : Nat) : (madeCells (Value.int .i64 0).cells n).toList = (List.replicate n (0 : Int)).map (Value.int .i64) := by
  have hc : (Value.int .i64 0).cells = #[.int .i64 0] := rfl
  rw [hc, List.map_replicate]
  apply List.ext_getElem?
  intro j
  by_cases hj : j < n
  · simp [madeCells, Nat.mod_one, hj]
  · simp [madeCells, Nat.mod_one, hj]
theorem own_made {W : World} {B : Nat} {v : Value} {n : Nat} (h : W.ownsRow B 2 1 v n (madeCells (Value.int .i64 0).cells n).toList) : W.ownsRow B 2 1 v (List.replicate n (0 : Int)).length ((List.replicate n (0 : Int)).map (Value.int .i64)) := by
  rw [List.length_replicate, ← made_zeros]
  exact h

set_option maxRecDepth 8000 in
set_option maxHeartbeats 2000000 in
theorem in_draw (g : Nat) (a : Option Addr) (len cap : Nat) (w : World) (hl : len ≤ 1048576) (hc : Cur g a len cap w) :
    Calls Try.prog 25 #[.pointer (some ⟨g, 0, none⟩)] w fun e w' => ∃ v, ∃ zs : List Int, e = .returned v ∧ w'.ownsRow w.heap.size 2 1 v zs.length (zs.map (Value.int .i64)) ∧ zs.length ≤ 2000 ∧ Cur g a len cap w' ∧ Tch g w w' := by
  obtain ⟨i2, hi2, hz20, hz21, hz22⟩ := info_parts Try.infi64
  have HC : Hid _ := hc.alloc (.cells #[] 2)
  have HL : Hid _ := And.intro hc.lt hc.blk
  clear hc
  go_enter Try.func25, Try.ntmps25
  go_wp2_with fail
  refine (below_any g a len cap _ _ hl HC.out (by omega)).mono ?_
  rintro e w1 ⟨n, rfl, hn, hc1, ht1⟩
  have O1 : w1.ownsRow w.heap.size 2 1 (.slice (some ⟨w.heap.size, 0, none⟩) 0 0) 0 (([] : List Int).map (Value.int .i64)) := own_tcs (World.ownsRow_lit w #[] 0 (Nat.le_refl _) (by decide) rfl) ht1.tcs (fun k hk e => by simp [obk] at hk; have := HL.out.1; omega)
  have H1 : Hid _ := And.intro hc1 (And.intro (((Tch.refl g w).alloc _).trans ht1) O1)
  clear hc1 ht1 O1
  go_wp2_with fail
  go_loopw [3, 5] (fun ov i wr => ∃ k : Nat, (k : Int) ≤ n ∧ i = .int .i64 k ∧ ∃ zs : List Int, zs.length = k ∧ wr.ownsRow w.heap.size 2 1 ov k (zs.map (Value.int .i64)) ∧ Cur g a len cap wr ∧ Tch g w wr) (fun _ i _ => n.toNat - (intOf i).toNat)
  case atStart => exact ⟨0, by omega, rfl, [], rfl, H1.out.2.2, H1.out.1, H1.out.2.1⟩
  case round =>
    obtain ⟨k, hk, rfl, zs, hz, hown, hcu, hto⟩ := hrel
    obtain ⟨ao, co, rfl⟩ := own_slice hown
    clear H1 HC
    have HO : Hid _ := And.intro hown (And.intro hcu hto)
    clear hown hcu hto
    by_cases hlt : (k : Int) < n
    · go_wp2_with fail
      refine (word_draw g a len cap _ hl HO.out.2.1).mono ?_
      rintro e w2 ⟨y, rfl, hc2, ht2⟩
      have hgl := HL.out.1
      have hown2 := own_tcs HO.out.1 ht2.tcs (fun b hb e => by have := (own_obk HO.out.1).2 b hb; omega)
      have hto2 := HO.out.2.2.trans ht2
      have s2 := hto2.size
      have HQ : Hid _ := And.intro hc2 (And.intro hown2 hto2)
      clear hc2 hto2 ht2 HO
      go_wp2_with (at_builtin; refine wpList_append_own _ rfl _ _ 26 rfl w.heap.size 2 i2 (.int .i64 0) 1 8 Try.underlying26 hi2 hz20 hz21 hz22 rfl (by decide) _ k _ rfl (hown2.alloc _) ⟨w2.heap.size, 0, none⟩ 1 1 [.int .i64 y] rfl rfl ?c1 ?c2 ?c3 ?c4 ?c5 ?_; rotate_right; intro v5 w5 hown5 hgrow5 _; obtain ⟨a5, c5', rfl⟩ := own_slice hown5)
      case c1 => intro j u hj; exact one_new w2 (.int .i64 y) 2 j u hj
      case c2 => intro u hu; simp at hu; subst hu; rfl
      case c3 => unfold maxLen; omega
      case c4 => omega
      case c5 => simp; omega
      have T5 := grown_tcs hgrow5
      have bk : ∀ q, (Value.slice ao k co).ownBlock = some q → w.heap.size ≤ q := fun q hq => own_block hown2 q hq
      have HR : Hid _ := And.intro T5 (And.intro hown5 bk)
      clear T5 hown5 hgrow5 bk hown2
      go_roundw
      case rel =>
        refine ⟨k + 1, by omega, by go_num, zs ++ [y], by simp [hz], ?_, ?_, ?_⟩
        · have := HR.out.2.1
          rw [List.map_append]
          exact this
        · exact (HQ.out.1.alloc _).tcs HR.out.1 (fun e => by have := HR.out.2.2 _ e; omega) (fun b off h0 hb e => by have h1 := HR.out.2.2 _ e; have h2 := HL.out.2 b off h0 hb; omega)
        · exact (HQ.out.2.2.alloc _).new HR.out.1 (fun q hq => HR.out.2.2 q hq)
      case measure => simp [intOf]; omega
    · go_wp2_with fail
      refine (once_any g a len cap _ _ hl HO.out.2.1 (by omega)).mono ?_
      rintro e w2 ⟨q, rfl, hc2, ht2⟩
      have hgl := HL.out.1
      have hown2 := own_tcs HO.out.1 ht2.tcs (fun b hb e => by have := (own_obk HO.out.1).2 b hb; omega)
      have hto2 := HO.out.2.2.trans ht2
      have s2 := hto2.size
      have HQ : Hid _ := And.intro hc2 (And.intro hown2 hto2)
      clear hc2 hto2 ht2 HO
      cases q with
      | false =>
        clear hown2
        go_wp2_with fail
        refine (once_any g a len cap _ _ hl HQ.out.1 (by omega)).mono ?_
        rintro e w6 ⟨q6, rfl, hc6, ht6⟩
        have hown6 := own_tcs HQ.out.2.1 ht6.tcs (fun b hb e => by have := (own_obk HQ.out.2.1).2 b hb; omega)
        have hto6 := HQ.out.2.2.trans ht6
        have s6 := hto6.size
        have H6 : Hid _ := And.intro hc6 (And.intro hown6 hto6)
        clear hc6 hto6 ht6 hown6
        cases q6 with
        | false =>
          go_wp2
          go_ret
          refine ⟨_, zs, rfl, ?_, ?_, H6.out.1, H6.out.2.2⟩
          · have h := H6.out.2.1
            have hl : (zs).length = k := by simp [hz]
            rw [hl]
            exact h
          · simp [hz]; omega
        | true =>
          go_wp2_with fail
          refine (below_any g a len cap _ _ hl H6.out.1 (by omega)).mono ?_
          rintro e w7 ⟨y, rfl, hy, hc7, ht7⟩
          have hto7 := H6.out.2.2.trans ht7
          have s7 := hto7.size
          have H7 : Hid _ := And.intro hc7 hto7
          clear hc7 hto7 ht7
          have hyy : y = 0 ∨ y = 1 := by omega
          rcases hyy with rfl | rfl
          · go_wp2_with (at_make; refine wpList_make_full _ rfl _ _ 26 rfl w.heap.size 2 i2 (.int .i64 0) 1 Try.underlying26 hi2 hz20 hz21 _ _ _ _ 1000 rfl rfl (by omega) (by omega) ?m1 ?m2 ?m3 ?_; rotate_right; intro w8 hown8 hgrow8; have H8 : Hid _ := And.intro hown8 (grown_tcs hgrow8); clear hown8 hgrow8)
            case m1 => rw [hz22]; omega
            case m2 => unfold maxLen; omega
            case m3 => omega
            go_ret
            refine ⟨_, List.replicate 1000 0, rfl, own_made (by simpa using H8.out.1), by rw [List.length_replicate]; omega, H7.out.1.tcs H8.out.2 (by simp) (by simp), H7.out.2.new H8.out.2 (by simp)⟩
          · go_wp2_with (at_make; refine wpList_make_full _ rfl _ _ 26 rfl w.heap.size 2 i2 (.int .i64 0) 1 Try.underlying26 hi2 hz20 hz21 _ _ _ _ 1001 rfl rfl (by omega) (by omega) ?m4 ?m5 ?m6 ?_; rotate_right; intro w8 hown8 hgrow8; have H8 : Hid _ := And.intro hown8 (grown_tcs hgrow8); clear hown8 hgrow8)
            case m4 => rw [hz22]; omega
            case m5 => unfold maxLen; omega
            case m6 => omega
            go_ret
            refine ⟨_, List.replicate 1001 0, rfl, own_made (by simpa using H8.out.1), by rw [List.length_replicate]; omega, H7.out.1.tcs H8.out.2 (by simp) (by simp), H7.out.2.new H8.out.2 (by simp)⟩
      | true =>
        go_wp2_with (at_builtin; refine wpList_append_own _ rfl _ _ 26 rfl w.heap.size 2 i2 (.int .i64 0) 1 8 Try.underlying26 hi2 hz20 hz21 hz22 rfl (by decide) _ k _ rfl (hown2.alloc _) ⟨w2.heap.size, 0, none⟩ 1 1 [.int .i64 2147483648] rfl rfl ?c1 ?c2 ?c3 ?c4 ?c5 ?_; rotate_right; intro v5 w5 hown5 hgrow5 _; obtain ⟨a5, c5', rfl⟩ := own_slice hown5; have T5 := grown_tcs hgrow5; have bk : ∀ q, (Value.slice ao k co).ownBlock = some q → w.heap.size ≤ q := (fun q hq => own_block hown2 q hq); have HR : Hid _ := And.intro T5 (And.intro hown5 bk); have s5 : w.heap.size ≤ w5.heap.size := (by have := T5.size; simp at this; omega); clear T5 hown5 hgrow5 bk hown2)
        case c1 => intro j u hj; exact one_new w2 (.int .i64 2147483648) 2 j u hj
        case c2 => intro u hu; simp at hu; subst hu; rfl
        case c3 => unfold maxLen; omega
        case c4 => omega
        case c5 => simp; omega
        have HQ2 : Hid (Cur g a len cap w5 ∧ w5.ownsRow w.heap.size 2 1 (.slice a5 (k + 1) c5') (k + 1) ((zs ++ [2147483648]).map (Value.int .i64)) ∧ Tch g w w5) := by
          refine ⟨?_, ?_, ?_⟩
          · exact (HQ.out.1.alloc _).tcs HR.out.1 (fun e => by have := HR.out.2.2 _ e; omega) (fun b off h0 hb e => by have h1 := HR.out.2.2 _ e; have h2 := HL.out.2 b off h0 hb; omega)
          · have := HR.out.2.1
            rw [List.map_append]
            exact this
          · exact (HQ.out.2.2.alloc _).new HR.out.1 (fun q hq => HR.out.2.2 q hq)
        clear HR HQ
        refine (once_any g a len cap _ _ hl HQ2.out.1 (by omega)).mono ?_
        rintro e w6 ⟨q6, rfl, hc6, ht6⟩
        have hown6 := own_tcs HQ2.out.2.1 ht6.tcs (fun b hb e => by have := (own_obk HQ2.out.2.1).2 b hb; omega)
        have hto6 := HQ2.out.2.2.trans ht6
        have s6 := hto6.size
        have H6 : Hid _ := And.intro hc6 (And.intro hown6 hto6)
        clear hc6 hto6 ht6 hown6
        cases q6 with
        | false =>
          go_wp2
          go_ret
          refine ⟨_, (zs ++ [2147483648]), rfl, ?_, ?_, H6.out.1, H6.out.2.2⟩
          · have h := H6.out.2.1
            have hl : ((zs ++ [2147483648])).length = k + 1 := by simp [hz]
            rw [hl]
            exact h
          · simp [hz]; omega
        | true =>
          go_wp2_with fail
          refine (below_any g a len cap _ _ hl H6.out.1 (by omega)).mono ?_
          rintro e w7 ⟨y, rfl, hy, hc7, ht7⟩
          have hto7 := H6.out.2.2.trans ht7
          have s7 := hto7.size
          have H7 : Hid _ := And.intro hc7 hto7
          clear hc7 hto7 ht7
          have hyy : y = 0 ∨ y = 1 := by omega
          rcases hyy with rfl | rfl
          · go_wp2_with (at_make; refine wpList_make_full _ rfl _ _ 26 rfl w.heap.size 2 i2 (.int .i64 0) 1 Try.underlying26 hi2 hz20 hz21 _ _ _ _ 1000 rfl rfl (by omega) (by omega) ?m1 ?m2 ?m3 ?_; rotate_right; intro w8 hown8 hgrow8; have H8 : Hid _ := And.intro hown8 (grown_tcs hgrow8); clear hown8 hgrow8)
            case m1 => rw [hz22]; omega
            case m2 => unfold maxLen; omega
            case m3 => omega
            go_ret
            refine ⟨_, List.replicate 1000 0, rfl, own_made (by simpa using H8.out.1), by rw [List.length_replicate]; omega, H7.out.1.tcs H8.out.2 (by simp) (by simp), H7.out.2.new H8.out.2 (by simp)⟩
          · go_wp2_with (at_make; refine wpList_make_full _ rfl _ _ 26 rfl w.heap.size 2 i2 (.int .i64 0) 1 Try.underlying26 hi2 hz20 hz21 _ _ _ _ 1001 rfl rfl (by omega) (by omega) ?m4 ?m5 ?m6 ?_; rotate_right; intro w8 hown8 hgrow8; have H8 : Hid _ := And.intro hown8 (grown_tcs hgrow8); clear hown8 hgrow8)
            case m4 => rw [hz22]; omega
            case m5 => unfold maxLen; omega
            case m6 => omega
            go_ret
            refine ⟨_, List.replicate 1001 0, rfl, own_made (by simpa using H8.out.1), by rw [List.length_replicate]; omega, H7.out.1.tcs H8.out.2 (by simp) (by simp), H7.out.2.new H8.out.2 (by simp)⟩
end Go.Proofs.Ytabjcodpagjbjaa

namespace Go.Proofs.Ytabjcodpagjbjaa
open Go.RowKit
set_option linter.unusedVariables false
set_option linter.unusedSimpArgs false
/-- An image under way in box bm: its three cells, the row of its words, the box R of the result. -/
structure Im (R bm : Nat) (d b : Int) (v : Value) (zs : List Int) (W : World) : Prop where
  le : R < bm
  lt : bm < W.heap.size
  c0 : W.cell? ⟨bm, 0, none⟩ = some v
  c1 : W.cell? ⟨bm, 1, none⟩ = some (.int .i64 d)
  c2 : W.cell? ⟨bm, 2, none⟩ = some (.int .i64 b)
  fz : ∀ j, W.frozen? ⟨bm, j, none⟩ = false
  r0 : ∃ u, W.cell? ⟨R, 0, none⟩ = some u
  r1 : ∃ u, W.cell? ⟨R, 1, none⟩ = some u
  r2 : ∃ u, W.cell? ⟨R, 2, none⟩ = some u
  rf : ∀ j, W.frozen? ⟨R, j, none⟩ = false
  own : W.ownsRow (bm + 1) 30 1 v zs.length (zs.map (Value.int .u32))
  bd : ∀ j, j < zs.length → 0 ≤ zs.getD j 0 ∧ zs.getD j 0 ≤ 4294967295
/-- Worlds that are the same in the blocks from R on, up to M. -/
structure Sm (R M : Nat) (W W' : World) : Prop where
  os : W'.os = W.os
  tape : W'.tape = W.tape
  output : W'.output = W.output
  size : W.heap.size ≤ W'.heap.size
  block : ∀ k, R ≤ k → k < M → W'.heap[k]? = W.heap[k]?
theorem Im.sm {R bm : Nat} {d b : Int} {v : Value} {zs : List Int} {W W' : World} (h : Im R bm d b v zs W) (hs : Sm R W.heap.size W W') : Im R bm d b v zs W' := by
  have e : ∀ q j, R ≤ q → q < W.heap.size → W'.cell? ⟨q, j, none⟩ = W.cell? ⟨q, j, none⟩ := fun q j h1 h2 => World.cell?_of_block (hs.block q h1 h2)
  have f : ∀ q j, R ≤ q → q < W.heap.size → W'.frozen? ⟨q, j, none⟩ = W.frozen? ⟨q, j, none⟩ := fun q j h1 h2 => World.frozen?_of_block (hs.block q h1 h2)
  have l1 := h.le
  have l2 := h.lt
  have hsz := hs.size
  have T : Tcs (fun k => k < R) W W' := ⟨hs.os, hs.tape, hs.output, hs.size, fun k hk hn => hs.block k (by omega) hk⟩
  refine ⟨l1, by omega, (e bm 0 (by omega) l2).trans h.c0, (e bm 1 (by omega) l2).trans h.c1, (e bm 2 (by omega) l2).trans h.c2, fun j => (f bm j (by omega) l2).trans (h.fz j), ?_, ?_, ?_, fun j => (f R j (Nat.le_refl _) (by omega)).trans (h.rf j), own_tcs h.own T (fun k hk e => by have := (own_obk h.own).2 k hk; omega), h.bd⟩
  · obtain ⟨u, hu⟩ := h.r0
    exact ⟨u, (e R 0 (Nat.le_refl _) (by omega)).trans hu⟩
  · obtain ⟨u, hu⟩ := h.r1
    exact ⟨u, (e R 1 (Nat.le_refl _) (by omega)).trans hu⟩
  · obtain ⟨u, hu⟩ := h.r2
    exact ⟨u, (e R 2 (Nat.le_refl _) (by omega)).trans hu⟩
theorem Sm.refl (R M : Nat) (W : World) : Sm R M W W := ⟨rfl, rfl, rfl, Nat.le_refl _, fun _ _ _ => rfl⟩
theorem Sm.tch {R M g : Nat} {W W' W'' : World} (h : Sm R M W W') (ht : Tch g W' W'') (hg : g < R) (hM : M ≤ W.heap.size) : Sm R M W W'' :=
  ⟨ht.os.trans h.os, ht.tape.trans h.tape, ht.output.trans h.output, Nat.le_trans h.size ht.size, fun k h1 h2 => (ht.block k (by have := h.size; omega) (by omega)).trans (h.block k h1 h2)⟩
theorem Sm.below {R M B : Nat} {W W' W'' : World} (h : Sm R M W W') (ht : Below B W' W'') (hM : M ≤ B) : Sm R M W W'' :=
  ⟨ht.os.trans h.os, ht.tape.trans h.tape, ht.output.trans h.output, Nat.le_trans h.size ht.size, fun k h1 h2 => (ht.block k (by omega)).trans (h.block k h1 h2)⟩
theorem Sm.alloc {R M : Nat} {W W' : World} (h : Sm R M W W') (hM : M ≤ W.heap.size) (o : Obj) : Sm R M W (W'.alloc o) :=
  ⟨h.os, h.tape, h.output, by have := h.size; simp; omega, fun k h1 h2 => (Below.heap_alloc W' o k (by have := h.size; omega)).trans (h.block k h1 h2)⟩
theorem Sm.set {R M q j : Nat} {W W' : World} (h : Sm R M W W') (hq : M ≤ q) (u : Value) : Sm R M W (W'.setCell ⟨q, j, none⟩ u) :=
  ⟨h.os, h.tape, h.output, by have := h.size; simpa using this, fun k h1 h2 => (Below.heap_setCell W' _ _ k (by dsimp only; omega)).trans (h.block k h1 h2)⟩
theorem Sm.of_tch {R M g : Nat} {W W' : World} (ht : Tch g W W') (hg : g < R) (hM : M ≤ W.heap.size) : Sm R M W W' := (Sm.refl R M W).tch ht hg hM
/-- An instruction's box bx, made in w2, and what it is drawn with. -/
structure Xs (g : Nat) (a : Option Addr) (len cap : Nat) (w w2 W : World) (p q r s t : Int) : Prop where
  cur : Cur g a len cap W
  tch : Tch g w W
  sm : Sm w.heap.size w2.heap.size w2 W
  lt : w2.heap.size < W.heap.size
  c0 : W.cell? ⟨w2.heap.size, 0, none⟩ = some (.int .i64 p)
  c1 : W.cell? ⟨w2.heap.size, 1, none⟩ = some (.int .i64 q)
  c2 : W.cell? ⟨w2.heap.size, 2, none⟩ = some (.int .i64 r)
  c3 : W.cell? ⟨w2.heap.size, 3, none⟩ = some (.int .i64 s)
  c4 : W.cell? ⟨w2.heap.size, 4, none⟩ = some (.int .i64 t)
  fz : ∀ j, W.frozen? ⟨w2.heap.size, j, none⟩ = false
theorem Xs.go {g : Nat} {a : Option Addr} {len cap : Nat} {w w2 W W' : World} {p q r s t : Int} (h : Xs g a len cap w w2 W p q r s t) (hg : g < w.heap.size) (h2 : w.heap.size ≤ w2.heap.size) (hc : Cur g a len cap W') (ht : Tch g W W') : Xs g a len cap w w2 W' p q r s t := by
  have hlt := h.lt
  have e : ∀ j, W'.cell? ⟨w2.heap.size, j, none⟩ = W.cell? ⟨w2.heap.size, j, none⟩ := fun j => ht.cell hlt (by omega)
  exact ⟨hc, h.tch.trans ht, h.sm.tch ht hg (Nat.le_refl _), Nat.lt_of_lt_of_le hlt ht.size, (e 0).trans h.c0, (e 1).trans h.c1, (e 2).trans h.c2, (e 3).trans h.c3, (e 4).trans h.c4, fun j => (ht.frozen hlt (by omega)).trans (h.fz j)⟩
theorem Xs.set0 {g : Nat} {a : Option Addr} {len cap : Nat} {w w2 W : World} {p q r s t : Int} (h : Xs g a len cap w w2 W p q r s t) (hg : g < w.heap.size) (h2 : w.heap.size ≤ w2.heap.size) (hb : ∀ b off, 0 < len → a = some ⟨b, off, none⟩ → b < w.heap.size) (z : Int) : Xs g a len cap w w2 (W.setCell ⟨w2.heap.size, 0, none⟩ (.int .i64 z)) z q r s t := by
  have hlt := h.lt
  have n : ∀ i, i ≠ 0 → (W.setCell ⟨w2.heap.size, 0, none⟩ (.int .i64 z)).cell? ⟨w2.heap.size, i, none⟩ = W.cell? ⟨w2.heap.size, i, none⟩ := fun i hi => World.cell?_setCell_other _ _ _ _ (by simp <;> omega)
  refine ⟨h.cur.store (by omega) (fun b off h0 ha => by have := hb b off h0 ha; omega), h.tch.store h2, h.sm.set (Nat.le_refl _) _, by simpa using hlt, ?_, ?_, ?_, ?_, ?_, fun i => by simpa using h.fz i⟩
  · exact World.cell?_setCell_same _ _ _ h.c0
  · exact (n 1 (by decide)).trans h.c1
  · exact (n 2 (by decide)).trans h.c2
  · exact (n 3 (by decide)).trans h.c3
  · exact (n 4 (by decide)).trans h.c4
theorem Xs.set1 {g : Nat} {a : Option Addr} {len cap : Nat} {w w2 W : World} {p q r s t : Int} (h : Xs g a len cap w w2 W p q r s t) (hg : g < w.heap.size) (h2 : w.heap.size ≤ w2.heap.size) (hb : ∀ b off, 0 < len → a = some ⟨b, off, none⟩ → b < w.heap.size) (z : Int) : Xs g a len cap w w2 (W.setCell ⟨w2.heap.size, 1, none⟩ (.int .i64 z)) p z r s t := by
  have hlt := h.lt
  have n : ∀ i, i ≠ 1 → (W.setCell ⟨w2.heap.size, 1, none⟩ (.int .i64 z)).cell? ⟨w2.heap.size, i, none⟩ = W.cell? ⟨w2.heap.size, i, none⟩ := fun i hi => World.cell?_setCell_other _ _ _ _ (by simp <;> omega)
  refine ⟨h.cur.store (by omega) (fun b off h0 ha => by have := hb b off h0 ha; omega), h.tch.store h2, h.sm.set (Nat.le_refl _) _, by simpa using hlt, ?_, ?_, ?_, ?_, ?_, fun i => by simpa using h.fz i⟩
  · exact (n 0 (by decide)).trans h.c0
  · exact World.cell?_setCell_same _ _ _ h.c1
  · exact (n 2 (by decide)).trans h.c2
  · exact (n 3 (by decide)).trans h.c3
  · exact (n 4 (by decide)).trans h.c4
theorem Xs.set2 {g : Nat} {a : Option Addr} {len cap : Nat} {w w2 W : World} {p q r s t : Int} (h : Xs g a len cap w w2 W p q r s t) (hg : g < w.heap.size) (h2 : w.heap.size ≤ w2.heap.size) (hb : ∀ b off, 0 < len → a = some ⟨b, off, none⟩ → b < w.heap.size) (z : Int) : Xs g a len cap w w2 (W.setCell ⟨w2.heap.size, 2, none⟩ (.int .i64 z)) p q z s t := by
  have hlt := h.lt
  have n : ∀ i, i ≠ 2 → (W.setCell ⟨w2.heap.size, 2, none⟩ (.int .i64 z)).cell? ⟨w2.heap.size, i, none⟩ = W.cell? ⟨w2.heap.size, i, none⟩ := fun i hi => World.cell?_setCell_other _ _ _ _ (by simp <;> omega)
  refine ⟨h.cur.store (by omega) (fun b off h0 ha => by have := hb b off h0 ha; omega), h.tch.store h2, h.sm.set (Nat.le_refl _) _, by simpa using hlt, ?_, ?_, ?_, ?_, ?_, fun i => by simpa using h.fz i⟩
  · exact (n 0 (by decide)).trans h.c0
  · exact (n 1 (by decide)).trans h.c1
  · exact World.cell?_setCell_same _ _ _ h.c2
  · exact (n 3 (by decide)).trans h.c3
  · exact (n 4 (by decide)).trans h.c4
theorem Xs.set3 {g : Nat} {a : Option Addr} {len cap : Nat} {w w2 W : World} {p q r s t : Int} (h : Xs g a len cap w w2 W p q r s t) (hg : g < w.heap.size) (h2 : w.heap.size ≤ w2.heap.size) (hb : ∀ b off, 0 < len → a = some ⟨b, off, none⟩ → b < w.heap.size) (z : Int) : Xs g a len cap w w2 (W.setCell ⟨w2.heap.size, 3, none⟩ (.int .i64 z)) p q r z t := by
  have hlt := h.lt
  have n : ∀ i, i ≠ 3 → (W.setCell ⟨w2.heap.size, 3, none⟩ (.int .i64 z)).cell? ⟨w2.heap.size, i, none⟩ = W.cell? ⟨w2.heap.size, i, none⟩ := fun i hi => World.cell?_setCell_other _ _ _ _ (by simp <;> omega)
  refine ⟨h.cur.store (by omega) (fun b off h0 ha => by have := hb b off h0 ha; omega), h.tch.store h2, h.sm.set (Nat.le_refl _) _, by simpa using hlt, ?_, ?_, ?_, ?_, ?_, fun i => by simpa using h.fz i⟩
  · exact (n 0 (by decide)).trans h.c0
  · exact (n 1 (by decide)).trans h.c1
  · exact (n 2 (by decide)).trans h.c2
  · exact World.cell?_setCell_same _ _ _ h.c3
  · exact (n 4 (by decide)).trans h.c4
theorem Xs.set4 {g : Nat} {a : Option Addr} {len cap : Nat} {w w2 W : World} {p q r s t : Int} (h : Xs g a len cap w w2 W p q r s t) (hg : g < w.heap.size) (h2 : w.heap.size ≤ w2.heap.size) (hb : ∀ b off, 0 < len → a = some ⟨b, off, none⟩ → b < w.heap.size) (z : Int) : Xs g a len cap w w2 (W.setCell ⟨w2.heap.size, 4, none⟩ (.int .i64 z)) p q r s z := by
  have hlt := h.lt
  have n : ∀ i, i ≠ 4 → (W.setCell ⟨w2.heap.size, 4, none⟩ (.int .i64 z)).cell? ⟨w2.heap.size, i, none⟩ = W.cell? ⟨w2.heap.size, i, none⟩ := fun i hi => World.cell?_setCell_other _ _ _ _ (by simp <;> omega)
  refine ⟨h.cur.store (by omega) (fun b off h0 ha => by have := hb b off h0 ha; omega), h.tch.store h2, h.sm.set (Nat.le_refl _) _, by simpa using hlt, ?_, ?_, ?_, ?_, ?_, fun i => by simpa using h.fz i⟩
  · exact (n 0 (by decide)).trans h.c0
  · exact (n 1 (by decide)).trans h.c1
  · exact (n 2 (by decide)).trans h.c2
  · exact (n 3 (by decide)).trans h.c3
  · exact World.cell?_setCell_same _ _ _ h.c4
end Go.Proofs.Ytabjcodpagjbjaa

namespace Go.Proofs.Ytabjcodpagjbjaa
open Go.RowKit
set_option linter.unusedVariables false
set_option linter.unusedSimpArgs false
set_option maxRecDepth 100000 in
set_option maxHeartbeats 8000000 in
theorem draw_any (g : Nat) (a : Option Addr) (len cap : Nat) (w : World) (hl : len ≤ 1048576) (hc : Cur g a len cap w) :
    Calls Try.prog 52 #[.pointer (some ⟨g, 0, none⟩)] w fun e w' => (∃ p q r s t : Int, e = .returned (.agg #[.int .i64 p, .int .i64 q, .int .i64 r, .int .i64 s, .int .i64 t])) ∧ Cur g a len cap w' ∧ Tch g w w' := by
  have hlt := hc.lt
  have hb1 := hc.blk
  have hg1 : w.heap.size ≠ g := by omega
  go_enter Try.func52, Try.ntmps52
  go_wp2_with fail
  refine (below_any g a len cap _ _ hl (hc.alloc _) (by omega)).mono ?_
  rintro e w1 ⟨x1, rfl, hx1, hc1, ht1⟩
  have z1 : w.heap.size < w1.heap.size := by have := ht1.size; simp at this; omega
  have hg2 : w1.heap.size ≠ g := by omega
  have r1 := fun o => ht1.cell (k := w.heap.size) (o := o) (by simp) hg1
  have fr1 := fun o => ht1.frozen (k := w.heap.size) (o := o) (by simp) hg1
  have hne1 : ¬ w.heap.size = w1.heap.size := by omega
  have hne2 : ¬ w1.heap.size = w.heap.size := by omega
  have hcls : 1 + x1 = 1 ∨ 1 + x1 = 2 ∨ (4 ≤ 1 + x1 ∧ 1 + x1 ≤ 9) ∨ 1 + x1 = 11 ∨ (18 ≤ 1 + x1 ∧ 1 + x1 ≤ 20) ∨ (21 ≤ 1 + x1 ∧ 1 + x1 ≤ 33) ∨ 1 + x1 = 34 ∨ (1 + x1 = 3 ∨ 1 + x1 = 10 ∨ (12 ≤ 1 + x1 ∧ 1 + x1 ≤ 17)) := by omega
  clear hc
  have hlt1 : w.heap.size < w1.heap.size + 1 := by omega
  rcases hcls with hk | hk | hk | hk | hk | hk | hk | hk
  · have HK : Hid _ := hk
    clear hk
    go_wp2_with (go_at_call 53; refine (shapeU _ _ HK.out).mono ?_; rintro e w' ⟨rfl, rfl⟩)
    refine (below_any g a len cap _ _ hl (hc1.alloc _) (by omega)).mono ?_
    rintro e w2 ⟨x2, rfl, hx2, hc2, ht2⟩
    have r2 := fun o => ht2.cell (k := w.heap.size) (o := o) (by simp; omega) hg1
    have s2 := fun o => ht2.cell (k := w1.heap.size) (o := o) (by simp) hg2
    have fr2 := fun o => ht2.frozen (k := w.heap.size) (o := o) (by simp; omega) hg1
    have fs2 := fun o => ht2.frozen (k := w1.heap.size) (o := o) (by simp) hg2
    have z2 : w1.heap.size < w2.heap.size := by have := ht2.size; simp at this; omega
    go_wp2_with fail
    refine (immU_any g a len cap _ _ hl (hc2.store hg2 (fun b off hl ha => by have := hb1 b off hl ha; omega)) HK.out).mono ?_
    rintro e w3 ⟨x3, rfl, hc3, ht3⟩
    have r3 := fun o => ht3.cell (k := w.heap.size) (o := o) (by simp; omega) hg1
    have s3 := fun o => ht3.cell (k := w1.heap.size) (o := o) (by simp; omega) hg2
    have fr3 := fun o => ht3.frozen (k := w.heap.size) (o := o) (by simp; omega) hg1
    have fs3 := fun o => ht3.frozen (k := w1.heap.size) (o := o) (by simp; omega) hg2
    have z3 : w1.heap.size < w3.heap.size := by have := ht3.size; simp at this; omega
    go_wp2
    refine bodyPost_ret (v := .agg #[.int .i64 (1 + x1), .int .i64 x2, .int .i64 0, .int .i64 0, .int .i64 x3]) (by first | (simp [results, Try.results52, go_sem, r1, hne1, hne2, r2, s2, fr2, fs2, r3, s3, fr3, fs3]; done) | (simp only [results, Try.results52]; go_simp)) rfl ⟨⟨_, _, _, _, _, rfl⟩, ?_, ?_⟩
    · exact (((((hc3.store hg2 (fun b off hl ha => by have := hb1 b off hl ha; omega)).store hg1 (fun b off hl ha => by have := hb1 b off hl ha; omega)).store hg1 (fun b off hl ha => by have := hb1 b off hl ha; omega)).store hg1 (fun b off hl ha => by have := hb1 b off hl ha; omega)).store hg1 (fun b off hl ha => by have := hb1 b off hl ha; omega)).store hg1 (fun b off hl ha => by have := hb1 b off hl ha; omega)
    · exact ((((((((((((Tch.refl g w).alloc _).trans ht1).alloc _).trans ht2).store (by omega)).trans ht3).store (by omega)).store (Nat.le_refl _)).store (Nat.le_refl _)).store (Nat.le_refl _)).store (Nat.le_refl _)).store (Nat.le_refl _)
  · have HK : Hid _ := hk
    clear hk
    go_wp2_with (go_at_call 53; refine (shapeJ _ _ HK.out).mono ?_; rintro e w' ⟨rfl, rfl⟩)
    refine (below_any g a len cap _ _ hl (hc1.alloc _) (by omega)).mono ?_
    rintro e w2 ⟨x2, rfl, hx2, hc2, ht2⟩
    have r2 := fun o => ht2.cell (k := w.heap.size) (o := o) (by simp; omega) hg1
    have s2 := fun o => ht2.cell (k := w1.heap.size) (o := o) (by simp) hg2
    have fr2 := fun o => ht2.frozen (k := w.heap.size) (o := o) (by simp; omega) hg1
    have fs2 := fun o => ht2.frozen (k := w1.heap.size) (o := o) (by simp) hg2
    have z2 : w1.heap.size < w2.heap.size := by have := ht2.size; simp at this; omega
    go_wp2_with fail
    refine (immJ_any g a len cap _ _ hl (hc2.store hg2 (fun b off hl ha => by have := hb1 b off hl ha; omega)) HK.out).mono ?_
    rintro e w3 ⟨x3, rfl, hc3, ht3⟩
    have r3 := fun o => ht3.cell (k := w.heap.size) (o := o) (by simp; omega) hg1
    have s3 := fun o => ht3.cell (k := w1.heap.size) (o := o) (by simp; omega) hg2
    have fr3 := fun o => ht3.frozen (k := w.heap.size) (o := o) (by simp; omega) hg1
    have fs3 := fun o => ht3.frozen (k := w1.heap.size) (o := o) (by simp; omega) hg2
    have z3 : w1.heap.size < w3.heap.size := by have := ht3.size; simp at this; omega
    go_wp2
    refine bodyPost_ret (v := .agg #[.int .i64 (1 + x1), .int .i64 x2, .int .i64 0, .int .i64 0, .int .i64 x3]) (by first | (simp [results, Try.results52, go_sem, r1, hne1, hne2, r2, s2, fr2, fs2, r3, s3, fr3, fs3]; done) | (simp only [results, Try.results52]; go_simp)) rfl ⟨⟨_, _, _, _, _, rfl⟩, ?_, ?_⟩
    · exact (((((hc3.store hg2 (fun b off hl ha => by have := hb1 b off hl ha; omega)).store hg1 (fun b off hl ha => by have := hb1 b off hl ha; omega)).store hg1 (fun b off hl ha => by have := hb1 b off hl ha; omega)).store hg1 (fun b off hl ha => by have := hb1 b off hl ha; omega)).store hg1 (fun b off hl ha => by have := hb1 b off hl ha; omega)).store hg1 (fun b off hl ha => by have := hb1 b off hl ha; omega)
    · exact ((((((((((((Tch.refl g w).alloc _).trans ht1).alloc _).trans ht2).store (by omega)).trans ht3).store (by omega)).store (Nat.le_refl _)).store (Nat.le_refl _)).store (Nat.le_refl _)).store (Nat.le_refl _)).store (Nat.le_refl _)
  · have HK : Hid _ := hk
    clear hk
    go_wp2_with (go_at_call 53; refine (shapeB _ _ HK.out).mono ?_; rintro e w' ⟨rfl, rfl⟩)
    refine (below_any g a len cap _ _ hl (hc1.alloc _) (by omega)).mono ?_
    rintro e w2 ⟨x2, rfl, hx2, hc2, ht2⟩
    have r2 := fun o => ht2.cell (k := w.heap.size) (o := o) (by simp; omega) hg1
    have s2 := fun o => ht2.cell (k := w1.heap.size) (o := o) (by simp) hg2
    have fr2 := fun o => ht2.frozen (k := w.heap.size) (o := o) (by simp; omega) hg1
    have fs2 := fun o => ht2.frozen (k := w1.heap.size) (o := o) (by simp) hg2
    have z2 : w1.heap.size < w2.heap.size := by have := ht2.size; simp at this; omega
    go_wp2_with fail
    refine (below_any g a len cap _ _ hl (hc2.store hg2 (fun b off hl ha => by have := hb1 b off hl ha; omega)) (by omega)).mono ?_
    rintro e w3 ⟨x3, rfl, hx3, hc3, ht3⟩
    have r3 := fun o => ht3.cell (k := w.heap.size) (o := o) (by simp; omega) hg1
    have s3 := fun o => ht3.cell (k := w1.heap.size) (o := o) (by simp; omega) hg2
    have fr3 := fun o => ht3.frozen (k := w.heap.size) (o := o) (by simp; omega) hg1
    have fs3 := fun o => ht3.frozen (k := w1.heap.size) (o := o) (by simp; omega) hg2
    have z3 : w1.heap.size < w3.heap.size := by have := ht3.size; simp at this; omega
    go_wp2_with fail
    refine (immB_any g a len cap _ _ hl (hc3.store hg2 (fun b off hl ha => by have := hb1 b off hl ha; omega)) HK.out).mono ?_
    rintro e w4 ⟨x4, rfl, hc4, ht4⟩
    have r4 := fun o => ht4.cell (k := w.heap.size) (o := o) (by simp; omega) hg1
    have s4 := fun o => ht4.cell (k := w1.heap.size) (o := o) (by simp; omega) hg2
    have fr4 := fun o => ht4.frozen (k := w.heap.size) (o := o) (by simp; omega) hg1
    have fs4 := fun o => ht4.frozen (k := w1.heap.size) (o := o) (by simp; omega) hg2
    have z4 : w1.heap.size < w4.heap.size := by have := ht4.size; simp at this; omega
    go_wp2
    refine bodyPost_ret (v := .agg #[.int .i64 (1 + x1), .int .i64 0, .int .i64 x2, .int .i64 x3, .int .i64 x4]) (by first | (simp [results, Try.results52, go_sem, r1, hne1, hne2, r2, s2, fr2, fs2, r3, s3, fr3, fs3, r4, s4, fr4, fs4]; done) | (simp only [results, Try.results52]; go_simp)) rfl ⟨⟨_, _, _, _, _, rfl⟩, ?_, ?_⟩
    · exact (((((hc4.store hg2 (fun b off hl ha => by have := hb1 b off hl ha; omega)).store hg1 (fun b off hl ha => by have := hb1 b off hl ha; omega)).store hg1 (fun b off hl ha => by have := hb1 b off hl ha; omega)).store hg1 (fun b off hl ha => by have := hb1 b off hl ha; omega)).store hg1 (fun b off hl ha => by have := hb1 b off hl ha; omega)).store hg1 (fun b off hl ha => by have := hb1 b off hl ha; omega)
    · exact ((((((((((((((Tch.refl g w).alloc _).trans ht1).alloc _).trans ht2).store (by omega)).trans ht3).store (by omega)).trans ht4).store (by omega)).store (Nat.le_refl _)).store (Nat.le_refl _)).store (Nat.le_refl _)).store (Nat.le_refl _)).store (Nat.le_refl _)
  · have HK : Hid _ := hk
    clear hk
    go_wp2_with (go_at_call 53; refine (shapeS _ _ HK.out).mono ?_; rintro e w' ⟨rfl, rfl⟩)
    refine (below_any g a len cap _ _ hl (hc1.alloc _) (by omega)).mono ?_
    rintro e w2 ⟨x2, rfl, hx2, hc2, ht2⟩
    have r2 := fun o => ht2.cell (k := w.heap.size) (o := o) (by simp; omega) hg1
    have s2 := fun o => ht2.cell (k := w1.heap.size) (o := o) (by simp) hg2
    have fr2 := fun o => ht2.frozen (k := w.heap.size) (o := o) (by simp; omega) hg1
    have fs2 := fun o => ht2.frozen (k := w1.heap.size) (o := o) (by simp) hg2
    have z2 : w1.heap.size < w2.heap.size := by have := ht2.size; simp at this; omega
    go_wp2_with fail
    refine (below_any g a len cap _ _ hl (hc2.store hg2 (fun b off hl ha => by have := hb1 b off hl ha; omega)) (by omega)).mono ?_
    rintro e w3 ⟨x3, rfl, hx3, hc3, ht3⟩
    have r3 := fun o => ht3.cell (k := w.heap.size) (o := o) (by simp; omega) hg1
    have s3 := fun o => ht3.cell (k := w1.heap.size) (o := o) (by simp; omega) hg2
    have fr3 := fun o => ht3.frozen (k := w.heap.size) (o := o) (by simp; omega) hg1
    have fs3 := fun o => ht3.frozen (k := w1.heap.size) (o := o) (by simp; omega) hg2
    have z3 : w1.heap.size < w3.heap.size := by have := ht3.size; simp at this; omega
    go_wp2_with fail
    refine (immS_any g a len cap _ _ hl (hc3.store hg2 (fun b off hl ha => by have := hb1 b off hl ha; omega)) HK.out).mono ?_
    rintro e w4 ⟨x4, rfl, hc4, ht4⟩
    have r4 := fun o => ht4.cell (k := w.heap.size) (o := o) (by simp; omega) hg1
    have s4 := fun o => ht4.cell (k := w1.heap.size) (o := o) (by simp; omega) hg2
    have fr4 := fun o => ht4.frozen (k := w.heap.size) (o := o) (by simp; omega) hg1
    have fs4 := fun o => ht4.frozen (k := w1.heap.size) (o := o) (by simp; omega) hg2
    have z4 : w1.heap.size < w4.heap.size := by have := ht4.size; simp at this; omega
    go_wp2
    refine bodyPost_ret (v := .agg #[.int .i64 (1 + x1), .int .i64 0, .int .i64 x2, .int .i64 x3, .int .i64 x4]) (by first | (simp [results, Try.results52, go_sem, r1, hne1, hne2, r2, s2, fr2, fs2, r3, s3, fr3, fs3, r4, s4, fr4, fs4]; done) | (simp only [results, Try.results52]; go_simp)) rfl ⟨⟨_, _, _, _, _, rfl⟩, ?_, ?_⟩
    · exact (((((hc4.store hg2 (fun b off hl ha => by have := hb1 b off hl ha; omega)).store hg1 (fun b off hl ha => by have := hb1 b off hl ha; omega)).store hg1 (fun b off hl ha => by have := hb1 b off hl ha; omega)).store hg1 (fun b off hl ha => by have := hb1 b off hl ha; omega)).store hg1 (fun b off hl ha => by have := hb1 b off hl ha; omega)).store hg1 (fun b off hl ha => by have := hb1 b off hl ha; omega)
    · exact ((((((((((((((Tch.refl g w).alloc _).trans ht1).alloc _).trans ht2).store (by omega)).trans ht3).store (by omega)).trans ht4).store (by omega)).store (Nat.le_refl _)).store (Nat.le_refl _)).store (Nat.le_refl _)).store (Nat.le_refl _)).store (Nat.le_refl _)
  · have HK : Hid _ := hk
    clear hk
    go_wp2_with (go_at_call 53; refine (shapeH _ _ HK.out).mono ?_; rintro e w' ⟨rfl, rfl⟩)
    refine (below_any g a len cap _ _ hl (hc1.alloc _) (by omega)).mono ?_
    rintro e w2 ⟨x2, rfl, hx2, hc2, ht2⟩
    have r2 := fun o => ht2.cell (k := w.heap.size) (o := o) (by simp; omega) hg1
    have s2 := fun o => ht2.cell (k := w1.heap.size) (o := o) (by simp) hg2
    have fr2 := fun o => ht2.frozen (k := w.heap.size) (o := o) (by simp; omega) hg1
    have fs2 := fun o => ht2.frozen (k := w1.heap.size) (o := o) (by simp) hg2
    have z2 : w1.heap.size < w2.heap.size := by have := ht2.size; simp at this; omega
    go_wp2_with fail
    refine (below_any g a len cap _ _ hl (hc2.store hg2 (fun b off hl ha => by have := hb1 b off hl ha; omega)) (by omega)).mono ?_
    rintro e w3 ⟨x3, rfl, hx3, hc3, ht3⟩
    have r3 := fun o => ht3.cell (k := w.heap.size) (o := o) (by simp; omega) hg1
    have s3 := fun o => ht3.cell (k := w1.heap.size) (o := o) (by simp; omega) hg2
    have fr3 := fun o => ht3.frozen (k := w.heap.size) (o := o) (by simp; omega) hg1
    have fs3 := fun o => ht3.frozen (k := w1.heap.size) (o := o) (by simp; omega) hg2
    have z3 : w1.heap.size < w3.heap.size := by have := ht3.size; simp at this; omega
    go_wp2_with fail
    refine (immH_any g a len cap _ _ hl (hc3.store hg2 (fun b off hl ha => by have := hb1 b off hl ha; omega)) HK.out).mono ?_
    rintro e w4 ⟨x4, rfl, hc4, ht4⟩
    have r4 := fun o => ht4.cell (k := w.heap.size) (o := o) (by simp; omega) hg1
    have s4 := fun o => ht4.cell (k := w1.heap.size) (o := o) (by simp; omega) hg2
    have fr4 := fun o => ht4.frozen (k := w.heap.size) (o := o) (by simp; omega) hg1
    have fs4 := fun o => ht4.frozen (k := w1.heap.size) (o := o) (by simp; omega) hg2
    have z4 : w1.heap.size < w4.heap.size := by have := ht4.size; simp at this; omega
    go_wp2
    refine bodyPost_ret (v := .agg #[.int .i64 (1 + x1), .int .i64 x2, .int .i64 x3, .int .i64 0, .int .i64 x4]) (by first | (simp [results, Try.results52, go_sem, r1, hne1, hne2, r2, s2, fr2, fs2, r3, s3, fr3, fs3, r4, s4, fr4, fs4]; done) | (simp only [results, Try.results52]; go_simp)) rfl ⟨⟨_, _, _, _, _, rfl⟩, ?_, ?_⟩
    · exact (((((hc4.store hg2 (fun b off hl ha => by have := hb1 b off hl ha; omega)).store hg1 (fun b off hl ha => by have := hb1 b off hl ha; omega)).store hg1 (fun b off hl ha => by have := hb1 b off hl ha; omega)).store hg1 (fun b off hl ha => by have := hb1 b off hl ha; omega)).store hg1 (fun b off hl ha => by have := hb1 b off hl ha; omega)).store hg1 (fun b off hl ha => by have := hb1 b off hl ha; omega)
    · exact ((((((((((((((Tch.refl g w).alloc _).trans ht1).alloc _).trans ht2).store (by omega)).trans ht3).store (by omega)).trans ht4).store (by omega)).store (Nat.le_refl _)).store (Nat.le_refl _)).store (Nat.le_refl _)).store (Nat.le_refl _)).store (Nat.le_refl _)
  · have HK : Hid _ := hk
    clear hk
    go_wp2_with (go_at_call 53; refine (shapeR _ _ HK.out).mono ?_; rintro e w' ⟨rfl, rfl⟩)
    refine (below_any g a len cap _ _ hl (hc1.alloc _) (by omega)).mono ?_
    rintro e w2 ⟨x2, rfl, hx2, hc2, ht2⟩
    have r2 := fun o => ht2.cell (k := w.heap.size) (o := o) (by simp; omega) hg1
    have s2 := fun o => ht2.cell (k := w1.heap.size) (o := o) (by simp) hg2
    have fr2 := fun o => ht2.frozen (k := w.heap.size) (o := o) (by simp; omega) hg1
    have fs2 := fun o => ht2.frozen (k := w1.heap.size) (o := o) (by simp) hg2
    have z2 : w1.heap.size < w2.heap.size := by have := ht2.size; simp at this; omega
    go_wp2_with fail
    refine (below_any g a len cap _ _ hl (hc2.store hg2 (fun b off hl ha => by have := hb1 b off hl ha; omega)) (by omega)).mono ?_
    rintro e w3 ⟨x3, rfl, hx3, hc3, ht3⟩
    have r3 := fun o => ht3.cell (k := w.heap.size) (o := o) (by simp; omega) hg1
    have s3 := fun o => ht3.cell (k := w1.heap.size) (o := o) (by simp; omega) hg2
    have fr3 := fun o => ht3.frozen (k := w.heap.size) (o := o) (by simp; omega) hg1
    have fs3 := fun o => ht3.frozen (k := w1.heap.size) (o := o) (by simp; omega) hg2
    have z3 : w1.heap.size < w3.heap.size := by have := ht3.size; simp at this; omega
    go_wp2_with fail
    refine (below_any g a len cap _ _ hl (hc3.store hg2 (fun b off hl ha => by have := hb1 b off hl ha; omega)) (by omega)).mono ?_
    rintro e w4 ⟨x4, rfl, hx4, hc4, ht4⟩
    have r4 := fun o => ht4.cell (k := w.heap.size) (o := o) (by simp; omega) hg1
    have s4 := fun o => ht4.cell (k := w1.heap.size) (o := o) (by simp; omega) hg2
    have fr4 := fun o => ht4.frozen (k := w.heap.size) (o := o) (by simp; omega) hg1
    have fs4 := fun o => ht4.frozen (k := w1.heap.size) (o := o) (by simp; omega) hg2
    have z4 : w1.heap.size < w4.heap.size := by have := ht4.size; simp at this; omega
    go_wp2
    refine bodyPost_ret (v := .agg #[.int .i64 (1 + x1), .int .i64 x2, .int .i64 x3, .int .i64 x4, .int .i64 0]) (by first | (simp [results, Try.results52, go_sem, r1, hne1, hne2, r2, s2, fr2, fs2, r3, s3, fr3, fs3, r4, s4, fr4, fs4]; done) | (simp only [results, Try.results52]; go_simp)) rfl ⟨⟨_, _, _, _, _, rfl⟩, ?_, ?_⟩
    · exact (((((hc4.store hg2 (fun b off hl ha => by have := hb1 b off hl ha; omega)).store hg1 (fun b off hl ha => by have := hb1 b off hl ha; omega)).store hg1 (fun b off hl ha => by have := hb1 b off hl ha; omega)).store hg1 (fun b off hl ha => by have := hb1 b off hl ha; omega)).store hg1 (fun b off hl ha => by have := hb1 b off hl ha; omega)).store hg1 (fun b off hl ha => by have := hb1 b off hl ha; omega)
    · exact ((((((((((((((Tch.refl g w).alloc _).trans ht1).alloc _).trans ht2).store (by omega)).trans ht3).store (by omega)).trans ht4).store (by omega)).store (Nat.le_refl _)).store (Nat.le_refl _)).store (Nat.le_refl _)).store (Nat.le_refl _)).store (Nat.le_refl _)
  · have HK : Hid _ := hk
    clear hk
    go_wp2_with (go_at_call 53; refine (shapeE _ _ HK.out).mono ?_; rintro e w' ⟨rfl, rfl⟩)
    refine bodyPost_ret (v := .agg #[.int .i64 (1 + x1), .int .i64 0, .int .i64 0, .int .i64 0, .int .i64 0]) (by first | (simp [results, Try.results52, go_sem, r1, hne1, hne2]; done) | (simp only [results, Try.results52]; go_simp)) rfl ⟨⟨_, _, _, _, _, rfl⟩, ?_, ?_⟩
    · exact ((((((hc1).store hg1 (fun b off hl ha => by have := hb1 b off hl ha; omega)).store hg1 (fun b off hl ha => by have := hb1 b off hl ha; omega)).store hg1 (fun b off hl ha => by have := hb1 b off hl ha; omega)).store hg1 (fun b off hl ha => by have := hb1 b off hl ha; omega)).store hg1 (fun b off hl ha => by have := hb1 b off hl ha; omega)).alloc _
    · exact ((((((((Tch.refl g w).alloc _).trans ht1).store (Nat.le_refl _)).store (Nat.le_refl _)).store (Nat.le_refl _)).store (Nat.le_refl _)).store (Nat.le_refl _)).alloc _
  · have HK : Hid _ := hk
    clear hk
    go_wp2_with (go_at_call 53; refine (shapeI _ _ HK.out).mono ?_; rintro e w' ⟨rfl, rfl⟩)
    refine (below_any g a len cap _ _ hl (hc1.alloc _) (by omega)).mono ?_
    rintro e w2 ⟨x2, rfl, hx2, hc2, ht2⟩
    have r2 := fun o => ht2.cell (k := w.heap.size) (o := o) (by simp; omega) hg1
    have s2 := fun o => ht2.cell (k := w1.heap.size) (o := o) (by simp) hg2
    have fr2 := fun o => ht2.frozen (k := w.heap.size) (o := o) (by simp; omega) hg1
    have fs2 := fun o => ht2.frozen (k := w1.heap.size) (o := o) (by simp) hg2
    have z2 : w1.heap.size < w2.heap.size := by have := ht2.size; simp at this; omega
    go_wp2_with fail
    refine (below_any g a len cap _ _ hl (hc2.store hg2 (fun b off hl ha => by have := hb1 b off hl ha; omega)) (by omega)).mono ?_
    rintro e w3 ⟨x3, rfl, hx3, hc3, ht3⟩
    have r3 := fun o => ht3.cell (k := w.heap.size) (o := o) (by simp; omega) hg1
    have s3 := fun o => ht3.cell (k := w1.heap.size) (o := o) (by simp; omega) hg2
    have fr3 := fun o => ht3.frozen (k := w.heap.size) (o := o) (by simp; omega) hg1
    have fs3 := fun o => ht3.frozen (k := w1.heap.size) (o := o) (by simp; omega) hg2
    have z3 : w1.heap.size < w3.heap.size := by have := ht3.size; simp at this; omega
    go_wp2_with fail
    refine (immI_any g a len cap _ _ hl (hc3.store hg2 (fun b off hl ha => by have := hb1 b off hl ha; omega)) HK.out).mono ?_
    rintro e w4 ⟨x4, rfl, hc4, ht4⟩
    have r4 := fun o => ht4.cell (k := w.heap.size) (o := o) (by simp; omega) hg1
    have s4 := fun o => ht4.cell (k := w1.heap.size) (o := o) (by simp; omega) hg2
    have fr4 := fun o => ht4.frozen (k := w.heap.size) (o := o) (by simp; omega) hg1
    have fs4 := fun o => ht4.frozen (k := w1.heap.size) (o := o) (by simp; omega) hg2
    have z4 : w1.heap.size < w4.heap.size := by have := ht4.size; simp at this; omega
    go_wp2
    refine bodyPost_ret (v := .agg #[.int .i64 (1 + x1), .int .i64 x2, .int .i64 x3, .int .i64 0, .int .i64 x4]) (by first | (simp [results, Try.results52, go_sem, r1, hne1, hne2, r2, s2, fr2, fs2, r3, s3, fr3, fs3, r4, s4, fr4, fs4]; done) | (simp only [results, Try.results52]; go_simp)) rfl ⟨⟨_, _, _, _, _, rfl⟩, ?_, ?_⟩
    · exact (((((hc4.store hg2 (fun b off hl ha => by have := hb1 b off hl ha; omega)).store hg1 (fun b off hl ha => by have := hb1 b off hl ha; omega)).store hg1 (fun b off hl ha => by have := hb1 b off hl ha; omega)).store hg1 (fun b off hl ha => by have := hb1 b off hl ha; omega)).store hg1 (fun b off hl ha => by have := hb1 b off hl ha; omega)).store hg1 (fun b off hl ha => by have := hb1 b off hl ha; omega)
    · exact ((((((((((((((Tch.refl g w).alloc _).trans ht1).alloc _).trans ht2).store (by omega)).trans ht3).store (by omega)).trans ht4).store (by omega)).store (Nat.le_refl _)).store (Nat.le_refl _)).store (Nat.le_refl _)).store (Nat.le_refl _)).store (Nat.le_refl _)
end Go.Proofs.Ytabjcodpagjbjaa
