import Derived.Test.YtplkgkgekgdnmaaRows
import Derived.WalkKit
import Derived.WalkSpells
import Derived.ProofKit
import Derived.Deep.QuietTactic
import Derived.BigQuiet
namespace Go.Proofs.Ytplkgkgekgdnmaa
open Go.RowKit
set_option linter.unusedVariables false

theorem Try.info28 : (Try.prog.info? 28).map (fun i => (i.zero, i.size, i.bytes)) = some (some (.int .u32 0), 1, 4) := by kernel_rfl

theorem bcell {W w1 : World} (hb : Below W.heap.size W w1) : (∀ b o, b < W.heap.size → w1.cell? ⟨b, o, none⟩ = W.cell? ⟨b, o, none⟩) ∧ (∀ b o, b < W.heap.size → w1.frozen? ⟨b, o, none⟩ = W.frozen? ⟨b, o, none⟩) :=
  ⟨fun b o h => hb.cell (p := ⟨b, o, none⟩) h, fun b o h => hb.frozen (p := ⟨b, o, none⟩) h⟩

/-- A row of numbers of kind k that begins at an address, the first n of zs. -/
def Nums (k : IntKind) (w : World) (a : Option Addr) (n : Nat) (zs : List Int) : Prop :=
  zs.length = n ∧ (0 < n → ∃ b off, a = some ⟨b, off, none⟩ ∧ b < w.heap.size ∧ ∀ j, j < n → w.cell? ⟨b, off + j, none⟩ = some (.int k (zs.getD j 0)))

theorem Nums.below {k : IntKind} {w w' : World} {a : Option Addr} {n : Nat} {zs : List Int} (h : Nums k w a n zs) (hb : Below w.heap.size w w') : Nums k w' a n zs := by
  refine ⟨h.1, fun hn => ?_⟩
  obtain ⟨b, off, ha, hlt, hc⟩ := h.2 hn
  exact ⟨b, off, ha, by have := hb.size; omega, fun j hj => (hb.cell (p := ⟨b, off + j, none⟩) hlt).trans (hc j hj)⟩

theorem Nums.setCell {k : IntKind} {w : World} {g off : Nat} {n : Nat} {zs : List Int} {p : Addr} {u : Value} (h : Nums k w (some ⟨g, off, none⟩) n zs) (hne : g ≠ p.block) : Nums k (w.setCell p u) (some ⟨g, off, none⟩) n zs := by
  refine ⟨h.1, fun hn => ?_⟩
  obtain ⟨b, off', ha, hlt, hc⟩ := h.2 hn
  simp only [Option.some.injEq, Addr.mk.injEq, and_true] at ha
  obtain ⟨rfl, rfl⟩ := ha
  exact ⟨g, off, rfl, by simpa using hlt, fun j hj => (World.cell?_of_block (Below.heap_setCell w p u g hne)).trans (hc j hj)⟩

set_option maxHeartbeats 1000000 in
theorem to32_some (b off len cap : Nat) (zs : List Int) (w : World) (hl : len ≤ 1048576) (hb : b < w.heap.size)
    (hc : ∀ j, j < len → w.cell? ⟨b, off + j, none⟩ = some (.int .u32 (zs.getD j 0))) :
    Calls Try.prog 43 #[.slice (some ⟨b, off, none⟩) len cap] w fun e w' => e = .returned (.slice (some ⟨w.heap.size, 0, none⟩) len len) ∧
      (∃ xs : List Value, w'.ownsRow w.heap.size 28 1 (.slice (some ⟨w.heap.size, 0, none⟩) len len) len xs ∧ ∀ j, j < len → xs[j]? = some (.int .u32 (zs.getD j 0))) ∧ Below w.heap.size w w' := by
  obtain ⟨i0, hi, hz0, hz1, hz2⟩ := info_parts Try.info28
  go_enter Try.func43, Try.ntmps43
  go_wp2_with (at_make; refine wpList_make_full _ rfl _ _ 35 rfl w.heap.size 28 i0 (.int .u32 0) 1 Try.underlying35 hi hz0 hz1 _ _ _ _ len rfl rfl (by omega) (by omega) ?_ ?_ (Nat.le_refl _) ?_)
  · rw [hz2]; omega
  · unfold maxLen; omega
  intro w1 hown1 hgrow1
  have hnx1 : Below w.heap.size w w1 := (Below.refl _ _).grown hgrow1 (Nat.le_refl _) (by simp)
  go_wp2
  go_loopw [4] (fun i wr => ∃ k : Nat, k ≤ len ∧ i = .int .i64 k ∧ (∃ xs : List Value, wr.ownsRow w.heap.size 28 1 (.slice (some ⟨w.heap.size, 0, none⟩) len len) len xs ∧ ∀ j, j < k → xs[j]? = some (.int .u32 (zs.getD j 0))) ∧ Below w.heap.size w wr)
    (fun i _ => len - (intOf i).toNat)
  case atStart => exact ⟨0, Nat.zero_le _, rfl, ⟨_, hown1, fun j hj => absurd hj (Nat.not_lt_zero _)⟩, hnx1⟩
  case round =>
    obtain ⟨k, hk, rfl, ⟨xs, hown, hxs⟩, hnx⟩ := hrel
    clear hown1 hgrow1 hnx1
    by_cases hlt : k < len
    · have hcx := (hnx.cell (p := ⟨b, off + k, none⟩) hb).trans (hc k hlt)
      have hlen : xs.length = len := by have := hown.1; omega
      have hold : wr.cell? ⟨w.heap.size, k, none⟩ = some (xs[k]'(by omega)) := by rw [hown.cellAt k (by omega)]; simp
      have hfz := hown.frozenAt k
      have R := hown.stored k (.int .u32 (zs.getD k 0))
      have HR : Hid _ := R
      have HX : Hid _ := hxs
      clear hxs R hown
      go_wp2
      go_roundw
      case rel =>
        refine ⟨k + 1, by omega, by go_num, ⟨_, HR.out.1, fun j hj => ?_⟩, hnx.setCell (by simp) _⟩
        rw [List.getElem?_set]
        by_cases hjk : k = j
        · subst hjk; simp; omega
        · rw [if_neg hjk]; exact HX.out j (by omega)
      case measure => simp [intOf]; omega
    · have HX : Hid _ := hxs
      have HO : Hid _ := hown
      clear hxs hown
      go_wp2
      go_ret
      exact ⟨rfl, ⟨xs, HO.out, fun j hj => HX.out j (by omega)⟩, hnx⟩

set_option maxHeartbeats 1000000 in
theorem to32_none (a : Option Addr) (cap : Nat) (w : World) :
    Calls Try.prog 43 #[.slice a 0 cap] w fun e w' => e = .returned (.slice (some ⟨w.heap.size, 0, none⟩) 0 0) ∧ Below w.heap.size w w' ∧ w.heap.size < w'.heap.size := by
  have hmk : ∀ w : World, (Instr.makeSlice 35 (.int .i64 0) (.int .i64 0)).run Try.prog w = .ok (.slice (some ⟨w.heap.size, 0, none⟩) 0 0) (w.alloc (.cells #[] 28)) := fun _ => by kernel_rfl
  go_enter Try.func43, Try.ntmps43
  go_wp2
  refine wp_loop_rounds 1 ?_
  rw [rounds_succ]
  go_wp2
  go_ret
  exact ⟨rfl, (Below.refl _ _).alloc (Nat.le_refl _) _, by simp⟩

theorem ownsRow_size {w : World} {base e size n cap g : Nat} {xs : List Value} (h : w.ownsRow base e size (.slice (some ⟨g, 0, none⟩) n cap) n xs) : g < w.heap.size := by
  rcases h.2 with ⟨h', _⟩ | ⟨g', cap', cur, h', _, hg, _⟩
  · simp at h'
  · simp only [Value.slice.injEq, Option.some.injEq, Addr.mk.injEq, and_true, true_and] at h'
    obtain ⟨rfl, rfl⟩ := h'
    exact (Array.getElem?_eq_some_iff.mp hg).1

theorem to32_any (a : Option Addr) (len cap : Nat) (zs : List Int) (w : World) (hl : len ≤ 1048576) (hn : Nums .u32 w a len zs) :
    Calls Try.prog 43 #[.slice a len cap] w fun e w' => e = .returned (.slice (some ⟨w.heap.size, 0, none⟩) len len) ∧ Nums .u32 w' (some ⟨w.heap.size, 0, none⟩) len zs ∧ Below w.heap.size w w' ∧ w.heap.size < w'.heap.size := by
  by_cases h0 : len = 0
  · subst h0
    exact (to32_none a cap w).mono fun e w' ⟨he, hb, hs⟩ => ⟨he, ⟨hn.1, fun h => absurd h (Nat.lt_irrefl _)⟩, hb, hs⟩
  · obtain ⟨b, off, rfl, hlt, hc⟩ := hn.2 (by omega)
    exact (to32_some b off len cap zs w hl hlt hc).mono fun e w' ⟨he, ⟨xs, hown, hxs⟩, hb⟩ =>
      ⟨he, ⟨hn.1, fun _ => ⟨_, 0, rfl, ownsRow_size hown, fun j hj => by rw [Nat.zero_add, hown.cellAt j (by omega)]; exact hxs j hj⟩⟩, hb, ownsRow_size hown⟩

set_option maxHeartbeats 1000000 in
theorem eq32_some (b1 off1 b2 off2 len c1 c2 : Nat) (zs : List Int) (w : World) (hl : len ≤ 1048576) 
    (hc1 : ∀ j, j < len → w.cell? ⟨b1, off1 + j, none⟩ = some (.int .u32 (zs.getD j 0))) (hc2 : ∀ j, j < len → w.cell? ⟨b2, off2 + j, none⟩ = some (.int .u32 (zs.getD j 0))) :
    Calls Try.prog 44 #[.slice (some ⟨b1, off1, none⟩) len c1, .slice (some ⟨b2, off2, none⟩) len c2] w fun e w' => e = .returned (.bool true) ∧ ∃ n, w' = w.drewN n := by
  go_enter Try.func44, Try.ntmps44
  go_wp2
  go_loopw [5] (fun i wr => ∃ k : Nat, k ≤ len ∧ i = .int .i64 k ∧ ∃ n, wr = w.drewN n) (fun i _ => len - (intOf i).toNat)
  case atStart => exact ⟨0, Nat.zero_le _, rfl, 0, rfl⟩
  case round =>
    obtain ⟨k, hk, rfl, n, rfl⟩ := hrel
    by_cases hlt : k < len
    · have h1 := hc1 k hlt
      have h2 := hc2 k hlt
      go_wp2
      go_quiet (fail)
      go_wp2
      go_roundw
      case rel => exact ⟨k + 1, by omega, by go_num, n + nq, by first | rfl | rw [World.drewN_drewN]⟩
      case measure => simp [intOf]; omega
    · go_wp2
      go_ret
      exact ⟨rfl, n, rfl⟩

set_option maxHeartbeats 1000000 in
theorem eq32_none (a1 a2 : Option Addr) (c1 c2 : Nat) (w : World) :
    Calls Try.prog 44 #[.slice a1 0 c1, .slice a2 0 c2] w fun e w' => e = .returned (.bool true) ∧ w' = w := by
  go_enter Try.func44, Try.ntmps44
  go_wp2
  refine wp_loop_rounds 1 ?_
  rw [rounds_succ]
  go_wp2
  go_ret
  exact ⟨rfl, rfl⟩

theorem eq32_any (a1 a2 : Option Addr) (len c1 c2 : Nat) (zs : List Int) (w : World) (hl : len ≤ 1048576) (h1 : Nums .u32 w a1 len zs) (h2 : Nums .u32 w a2 len zs) :
    Calls Try.prog 44 #[.slice a1 len c1, .slice a2 len c2] w fun e w' => e = .returned (.bool true) ∧ ∃ n, w' = w.drewN n := by
  by_cases h0 : len = 0
  · subst h0
    exact (eq32_none a1 a2 c1 c2 w).mono fun e w' ⟨he, hb⟩ => ⟨he, 0, hb⟩
  · obtain ⟨b1, o1, rfl, _, k1⟩ := h1.2 (by omega)
    obtain ⟨b2, o2, rfl, _, k2⟩ := h2.2 (by omega)
    exact eq32_some b1 o1 b2 o2 len c1 c2 zs w hl k1 k2

set_option maxHeartbeats 1000000 in
theorem toImage_any (a : Option Addr) (len cap : Nat) (d bd : Int) (zs : List Int) (w : World) (hl : len ≤ 1048576) (hn : Nums .u32 w a len zs) :
    Calls Try.prog 19 #[.agg #[.slice a len cap, .int .i64 d, .int .i64 bd]] w fun e w' =>
      ∃ g, e = .returned (.agg #[.slice (some ⟨g, 0, none⟩) len len, .int .i64 d, .int .i64 bd]) ∧ Nums .u32 w' (some ⟨g, 0, none⟩) len zs ∧ w.heap.size ≤ g ∧ Below w.heap.size w w' ∧ g < w'.heap.size := by
  go_enter Try.func19, Try.ntmps19
  go_wp2_with fail
  refine (to32_any a len cap zs _ hl (hn.below (((Below.refl _ _).alloc (Nat.le_refl _) _ |>.alloc (by simp) _).alloc (by simp; omega) _))).mono ?_
  rintro e w1 ⟨rfl, hN, hb, hs⟩
  obtain ⟨hc, hf⟩ := bcell hb
  simp only [World.size_alloc] at hs hN hb
  go_wp2
  refine bodyPost_ret (v := .agg #[.slice (some ⟨w.heap.size + 1 + 1 + 1, 0, none⟩) len len, .int .i64 d, .int .i64 bd]) (by simp [results, Try.results19, go_sem, hc]) rfl ⟨_, rfl, ?_, by omega, ?_, by simpa using hs⟩
  · repeat (refine Nums.setCell ?_ (by dsimp only; omega))
    exact hN
  · have h0 : Below w.heap.size w w1 := (((Below.refl _ _).alloc (Nat.le_refl _) _ |>.alloc (by simp) _).alloc (by simp; omega) _).trans (hb.mono (by omega))
    exact (((((h0.setCell (by simp; omega) _).setCell (by simp; omega) _).setCell (by simp; omega) _).setCell (by simp) _).setCell (by simp) _).setCell (by simp) _

theorem sz_image (a : Option Addr) (len cap : Nat) (d bd : Int) (w : World) (hl : len ≤ 1048576) :
    Calls Try.prog 17 #[.agg #[.slice a len cap, .int .i64 d, .int .i64 bd], .int .i64 1048576] w fun e w' => e = .returned (.int .i64 (1048576 - len)) ∧ Below w.heap.size w w' := by
  go_enter Try.func17, Try.ntmps17
  go_wp2
  go_ret
  exact ⟨rfl, (Below.refl _ _).alloc (Nat.le_refl _) _⟩
theorem sz_image_no (a : Option Addr) (len cap : Nat) (d bd : Int) (w : World) (hl : 1048576 < len) (hm : len ≤ 9223372036854775807) :
    Calls Try.prog 17 #[.agg #[.slice a len cap, .int .i64 d, .int .i64 bd], .int .i64 1048576] w fun e w' => e = .returned (.int .i64 (-1)) ∧ Below w.heap.size w w' := by
  go_enter Try.func17, Try.ntmps17
  go_wp2
  go_ret
  exact ⟨rfl, (Below.refl _ _).alloc (Nat.le_refl _) _⟩

theorem ret_bool {a b : Bool} (h : a = b) : Ending.returned (.bool a) = .returned (.bool b) := by rw [h]
def vimg (n : Nat) (d b : Int) : Bool := decide (1 ≤ n ∧ n ≤ 20000 ∧ 0 ≤ d ∧ d ≤ 65536 ∧ d % 4 = 0 ∧ 0 ≤ b ∧ b ≤ 1000000 ∧ b % 16 = 0)

set_option maxHeartbeats 1000000 in
theorem vs_any (a : Option Addr) (len cap : Nat) (d bd : Int) (w : World) (hl : len ≤ 1048576) :
    Calls Try.prog 18 #[.agg #[.slice a len cap, .int .i64 d, .int .i64 bd]] w fun e w' => e = .returned (.bool (vimg len d bd)) ∧ Below w.heap.size w w' := by
  go_enter Try.func18, Try.ntmps18
  go_wp2
  all_goals go_ret
  all_goals refine ⟨ret_bool ?_, (Below.refl _ _).alloc (Nat.le_refl _) _⟩
  all_goals (unfold vimg; rw [Bool.eq_iff_iff]; simp; try omega)
set_option maxHeartbeats 1000000 in
theorem vi_any (a : Option Addr) (len cap : Nat) (d bd : Int) (w : World) (hl : len ≤ 1048576) :
    Calls Try.prog 20 #[.agg #[.slice a len cap, .int .i64 d, .int .i64 bd]] w fun e w' => e = .returned (.bool (vimg len d bd)) ∧ Below w.heap.size w w' := by
  go_enter Try.func20, Try.ntmps20
  go_wp2
  all_goals go_ret
  all_goals refine ⟨ret_bool ?_, (Below.refl _ _).alloc (Nat.le_refl _) _⟩
  all_goals (unfold vimg; rw [Bool.eq_iff_iff]; simp; try omega)
end Go.Proofs.Ytplkgkgekgdnmaa
