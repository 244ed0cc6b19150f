import Derived.Test.YtabjcodpagjbjaaM29
import Derived.Deep.RegionHeld3
namespace Go.Proofs.Ytabjcodpagjbjaa
open Go.RowKit
set_option linter.unusedVariables false
set_option linter.unusedSimpArgs false
/-- The program's own look at the word v as one of number n. -/
def LookIs (n : Nat) (v a b c d R : Int) : Prop := ∃ (T : TypeId) (cv : Value) (fw fi : Nat), tabA[n]? = some (.iface T cv) ∧
  (∀ W : World, (method 244 T cv "loop.example/s01725/impl.word").run Try.prog W = .ok (fw, cv) W) ∧ (∀ W : World, (method 244 T cv "loop.example/s01725/impl.inst").run Try.prog W = .ok (fi, cv) W) ∧
  (∀ W : World, Calls Try.prog fi #[cv, .int .u32 v] W fun e w' => e = .returned (.agg #[.int .i64 0, .int .i64 a, .int .i64 b, .int .i64 c, .int .i64 d]) ∧ Below W.heap.size W w') ∧
  (∀ W : World, Calls Try.prog fw #[cv, .agg #[.int .i64 0, .int .i64 a, .int .i64 b, .int .i64 c, .int .i64 d]] W fun e w' => e = .returned (.int .u32 R) ∧ Below W.heap.size W w') ∧
  (∀ (x y : Value) (W : World), (callFunc fw #[x, y]).run Try.prog W = .ok (.enter fw #[x, y]) W) ∧ (∀ (x y : Value) (W : World), (callFunc fi #[x, y]).run Try.prog W = .ok (.enter fi #[x, y]) W)
theorem five_later {W W' : World} {b : Nat} {v0 v1 v2 v3 v4 : Value} (hb : Below W.heap.size W W')
    (k : W.cell? ⟨b, 0, none⟩ = some v0 ∧ W.cell? ⟨b, 1, none⟩ = some v1 ∧ W.cell? ⟨b, 2, none⟩ = some v2 ∧ W.cell? ⟨b, 3, none⟩ = some v3 ∧ W.cell? ⟨b, 4, none⟩ = some v4) :
    (W'.cell? ⟨b, 0, none⟩ = some v0 ∧ W'.cell? ⟨b, 1, none⟩ = some v1 ∧ W'.cell? ⟨b, 2, none⟩ = some v2 ∧ W'.cell? ⟨b, 3, none⟩ = some v3 ∧ W'.cell? ⟨b, 4, none⟩ = some v4) :=
  ⟨later hb k.1, later hb k.2.1, later hb k.2.2.1, later hb k.2.2.2.1, later hb k.2.2.2.2⟩
theorem box5f {w w' : World} {t : TypeId} {a b c d e : Value} (h : Below (w.heap.size + 1) (w.alloc (.cells #[a, b, c, d, e] t)) w') : ∀ j, w'.frozen? ⟨w.heap.size, j, none⟩ = false := fun j => by
  rw [h.frozen (by simp)]; simp

set_option maxRecDepth 100000 in
set_option maxHeartbeats 2000000 in
theorem implHit (v : Int) (hv : 0 ≤ v ∧ v ≤ 4294967295) (tb ot K : Nat) (hK : 1 ≤ K ∧ K ≤ 34) (a b c d : Int) (hH : LookIs K v a b c d v)
    (hM : ∀ n : Nat, 1 ≤ n → n < K → ∃ a b c d R : Int, (R == v) = false ∧ LookIs n v a b c d R) (w : World) (htb : tb < w.heap.size) (hT : ∀ j, j < 35 → w.cell? ⟨tb, ot + j, none⟩ = tabA[j]?) :
    Calls Try.prog 59 #[.pointer (some ⟨tb, ot, none⟩), .int .u32 v] w fun e w' => e = .returned (.agg #[.bool true, .int .i64 K, .int .i64 a, .int .i64 b, .int .i64 c, .int .i64 d]) ∧ Below w.heap.size w w' := by
  have HH : Hid _ := hH
  have HM : Hid _ := hM
  have HT : Hid _ := hT
  clear hH hM hT
  go_enter Try.func59, Try.ntmps59
  go_wp2
  go_loopw [5] (fun i wr => ∃ n : Nat, 1 ≤ n ∧ n ≤ K ∧ i = .int .i64 n ∧ Below (w.heap.size + 1) (w.alloc (.cells #[.bool false, .int .i64 0, .int .i64 0, .int .i64 0, .int .i64 0, .int .i64 0] 66)) wr)
    (fun i _ => 35 - (intOf i).toNat)
  case atStart => exact ⟨1, by omega, by omega, rfl, Below.refl _ _⟩
  case round =>
    obtain ⟨n, hn1, hn2, rfl, hB⟩ := hrel
    have z0 := hB.size
    simp only [World.size_alloc] at z0
    have hn34 : n ≤ 34 := by omega
    have hi0 : (0 : Int) ≤ (n : Int) := by omega
    have hi1 : (n : Int) < 35 := by omega
    have tc0 : wr.cell? ⟨tb, ot + n, none⟩ = tabA[n]? := (hB.cell (p := ⟨tb, ot + n, none⟩) (by simp; omega)).trans ((((Below.refl _ _).alloc (Nat.le_refl w.heap.size) _).cell (p := ⟨tb, ot + n, none⟩) htb).trans (HT.out n (by omega)))
    by_cases hlt : n < K
    · obtain ⟨a', b', c', d', R, hR, T, cv, fw, fi, htab, mw, mi, hi, hw, cw, ci⟩ := HM.out n hn1 hlt
      have tc := tc0.trans htab
      have GI : Hid _ := hi
      have GW : Hid _ := hw
      clear hi hw htab tc0 hK
      go_wp2_with fail
      refine (GI.out _).mono ?_
      rintro e w1 ⟨rfl, hb1⟩
      have hB1 := hB.trans (hb1.mono z0)
      have z1 := hb1.size
      have hA := (Below.refl w1.heap.size w1).alloc (Nat.le_refl w1.heap.size) (.cells #[.int .i64 0, .int .i64 a', .int .i64 b', .int .i64 c', .int .i64 d'] 64)
      have t1 := later hA (later hb1 tc)
      have k1 := box5 (Below.refl (w1.heap.size + 1) (w1.alloc (.cells #[.int .i64 0, .int .i64 a', .int .i64 b', .int .i64 c', .int .i64 d'] 64)))
      clear tc hb1 hB hA
      go_wp2_with fail
      go_region_held3 (fun W => W.cell? ⟨w1.heap.size, 0, none⟩ = some (.int .i64 0) ∧ W.cell? ⟨w1.heap.size, 1, none⟩ = some (.int .i64 a') ∧ W.cell? ⟨w1.heap.size, 2, none⟩ = some (.int .i64 b') ∧ W.cell? ⟨w1.heap.size, 3, none⟩ = some (.int .i64 c') ∧ W.cell? ⟨w1.heap.size, 4, none⟩ = some (.int .i64 d') ∧
          W.cell? ⟨tb, ot + n, none⟩ = some (.iface T cv)) (go_simp)
        (first
        | (refine (GW.out _).mono ?_; rintro e w2 ⟨rfl, hb2⟩; have q2 := six_later (W := (w1.alloc (.cells #[.int .i64 0, .int .i64 a', .int .i64 b', .int .i64 c', .int .i64 d'] 64)).drew) hb2 k1 t1))
      have hb2' : Below (w1.heap.size + 1) (w1.alloc (.cells #[.int .i64 0, .int .i64 a', .int .i64 b', .int .i64 c', .int .i64 d'] 64)) w2 := ((Below.refl _ _).drew).trans (hb2.mono (by simp))
      have hB2 := hB1.trans (((Below.refl _ _).alloc (Nat.le_refl w1.heap.size) _ |>.trans (hb2'.mono (Nat.le_succ _))).mono (by omega : w.heap.size + 1 ≤ w1.heap.size))
      have HB2 : Hid (Below (w.heap.size + 1) (w.alloc (.cells #[.bool false, .int .i64 0, .int .i64 0, .int .i64 0, .int .i64 0, .int .i64 0] 66)) w2) := hB2
      clear hb2 hb2' hB2 hB1 k1 t1 q2
      go_wp2
      go_roundw
      case rel => exact ⟨n + 1, by omega, by omega, by go_num, HB2.out⟩
      case measure => simp [intOf]; omega
    · obtain rfl : n = K := by omega
      obtain ⟨T, cv, fw, fi, htab, mw, mi, hi, hw, cw, ci⟩ := HH.out
      have tc := tc0.trans htab
      have GI : Hid _ := hi
      have GW : Hid _ := hw
      clear hi hw htab tc0
      go_wp2_with fail
      refine (GI.out _).mono ?_
      rintro e w1 ⟨rfl, hb1⟩
      have hB1 := hB.trans (hb1.mono z0)
      have z1 := hb1.size
      have hA := (Below.refl w1.heap.size w1).alloc (Nat.le_refl w1.heap.size) (.cells #[.int .i64 0, .int .i64 a, .int .i64 b, .int .i64 c, .int .i64 d] 64)
      have t1 := later hA (later hb1 tc)
      have k1 := box5 (Below.refl (w1.heap.size + 1) (w1.alloc (.cells #[.int .i64 0, .int .i64 a, .int .i64 b, .int .i64 c, .int .i64 d] 64)))
      clear tc hb1 hB hA
      go_wp2_with fail
      go_region_held3 (fun W => W.cell? ⟨w1.heap.size, 0, none⟩ = some (.int .i64 0) ∧ W.cell? ⟨w1.heap.size, 1, none⟩ = some (.int .i64 a) ∧ W.cell? ⟨w1.heap.size, 2, none⟩ = some (.int .i64 b) ∧ W.cell? ⟨w1.heap.size, 3, none⟩ = some (.int .i64 c) ∧ W.cell? ⟨w1.heap.size, 4, none⟩ = some (.int .i64 d) ∧
          W.cell? ⟨tb, ot + n, none⟩ = some (.iface T cv)) (go_simp)
        (first
        | (refine (GW.out _).mono ?_; rintro e w2 ⟨rfl, hb2⟩; have q2 := six_later (W := (w1.alloc (.cells #[.int .i64 0, .int .i64 a, .int .i64 b, .int .i64 c, .int .i64 d] 64)).drew) hb2 k1 t1))
      have hb2' : Below (w1.heap.size + 1) (w1.alloc (.cells #[.int .i64 0, .int .i64 a, .int .i64 b, .int .i64 c, .int .i64 d] 64)) w2 := ((Below.refl _ _).drew).trans (hb2.mono (by simp))
      have hB2 := hB1.trans (((Below.refl _ _).alloc (Nat.le_refl w1.heap.size) _ |>.trans (hb2'.mono (Nat.le_succ _))).mono (by omega : w.heap.size + 1 ≤ w1.heap.size))
      have g2 := box5f hb2'
      obtain ⟨r2, f2⟩ := box6 hB2
      have HB : Hid (Below w.heap.size w w2) := ((Below.refl _ _).alloc (Nat.le_refl _) _).trans (hB2.mono (by omega))
      have hne : w.heap.size < w1.heap.size := by omega
      clear hb2 hb2' hB2 hB1 k1 t1
      go_wp2
      refine bodyPost_ret (v := .agg #[.bool true, .int .i64 n, .int .i64 a, .int .i64 b, .int .i64 c, .int .i64 d]) (by simp [results, Try.results59, go_sem, r2, f2]) rfl ⟨rfl, ?_⟩
      exact ((((((HB.out.setCell (by dsimp only; omega) _).setCell (by simp) _).setCell (by simp) _).setCell (by simp) _).setCell (by simp) _).setCell (by simp) _).setCell (by simp) _
set_option maxRecDepth 100000 in
set_option maxHeartbeats 2000000 in
theorem implMiss (v : Int) (hv : 0 ≤ v ∧ v ≤ 4294967295) (tb ot : Nat)
    (hM : ∀ n : Nat, 1 ≤ n → n < 35 → ∃ a b c d R : Int, (R == v) = false ∧ LookIs n v a b c d R) (w : World) (htb : tb < w.heap.size) (hT : ∀ j, j < 35 → w.cell? ⟨tb, ot + j, none⟩ = tabA[j]?) :
    Calls Try.prog 59 #[.pointer (some ⟨tb, ot, none⟩), .int .u32 v] w fun e w' => e = .returned (.agg #[.bool false, .int .i64 0, .int .i64 0, .int .i64 0, .int .i64 0, .int .i64 0]) ∧ Below w.heap.size w w' := by
  have HM : Hid _ := hM
  have HT : Hid _ := hT
  clear hM hT
  go_enter Try.func59, Try.ntmps59
  go_wp2
  go_loopw [5] (fun i wr => ∃ n : Nat, 1 ≤ n ∧ n ≤ 35 ∧ i = .int .i64 n ∧ Below (w.heap.size + 1) (w.alloc (.cells #[.bool false, .int .i64 0, .int .i64 0, .int .i64 0, .int .i64 0, .int .i64 0] 66)) wr)
    (fun i _ => 35 - (intOf i).toNat)
  case atStart => exact ⟨1, by omega, by omega, rfl, Below.refl _ _⟩
  case round =>
    obtain ⟨n, hn1, hn2, rfl, hB⟩ := hrel
    have z0 := hB.size
    simp only [World.size_alloc] at z0
    by_cases hlt : n < 35
    · have hn34 : n ≤ 34 := by omega
      have hi0 : (0 : Int) ≤ (n : Int) := by omega
      have hi1 : (n : Int) < 35 := by omega
      have tc0 : wr.cell? ⟨tb, ot + n, none⟩ = tabA[n]? := (hB.cell (p := ⟨tb, ot + n, none⟩) (by simp; omega)).trans ((((Below.refl _ _).alloc (Nat.le_refl w.heap.size) _).cell (p := ⟨tb, ot + n, none⟩) htb).trans (HT.out n (by omega)))
      obtain ⟨a', b', c', d', R, hR, T, cv, fw, fi, htab, mw, mi, hi, hw, cw, ci⟩ := HM.out n hn1 hlt
      have tc := tc0.trans htab
      have GI : Hid _ := hi
      have GW : Hid _ := hw
      clear hi hw htab tc0
      go_wp2_with fail
      refine (GI.out _).mono ?_
      rintro e w1 ⟨rfl, hb1⟩
      have hB1 := hB.trans (hb1.mono z0)
      have z1 := hb1.size
      have hA := (Below.refl w1.heap.size w1).alloc (Nat.le_refl w1.heap.size) (.cells #[.int .i64 0, .int .i64 a', .int .i64 b', .int .i64 c', .int .i64 d'] 64)
      have t1 := later hA (later hb1 tc)
      have k1 := box5 (Below.refl (w1.heap.size + 1) (w1.alloc (.cells #[.int .i64 0, .int .i64 a', .int .i64 b', .int .i64 c', .int .i64 d'] 64)))
      clear tc hb1 hB hA
      go_wp2_with fail
      go_region_held3 (fun W => W.cell? ⟨w1.heap.size, 0, none⟩ = some (.int .i64 0) ∧ W.cell? ⟨w1.heap.size, 1, none⟩ = some (.int .i64 a') ∧ W.cell? ⟨w1.heap.size, 2, none⟩ = some (.int .i64 b') ∧ W.cell? ⟨w1.heap.size, 3, none⟩ = some (.int .i64 c') ∧ W.cell? ⟨w1.heap.size, 4, none⟩ = some (.int .i64 d') ∧
          W.cell? ⟨tb, ot + n, none⟩ = some (.iface T cv)) (go_simp)
        (first
        | (refine (GW.out _).mono ?_; rintro e w2 ⟨rfl, hb2⟩; have q2 := six_later (W := (w1.alloc (.cells #[.int .i64 0, .int .i64 a', .int .i64 b', .int .i64 c', .int .i64 d'] 64)).drew) hb2 k1 t1))
      have hb2' : Below (w1.heap.size + 1) (w1.alloc (.cells #[.int .i64 0, .int .i64 a', .int .i64 b', .int .i64 c', .int .i64 d'] 64)) w2 := ((Below.refl _ _).drew).trans (hb2.mono (by simp))
      have hB2 := hB1.trans (((Below.refl _ _).alloc (Nat.le_refl w1.heap.size) _ |>.trans (hb2'.mono (Nat.le_succ _))).mono (by omega : w.heap.size + 1 ≤ w1.heap.size))
      have HB2 : Hid (Below (w.heap.size + 1) (w.alloc (.cells #[.bool false, .int .i64 0, .int .i64 0, .int .i64 0, .int .i64 0, .int .i64 0] 66)) w2) := hB2
      clear hb2 hb2' hB2 hB1 k1 t1 q2
      go_wp2
      go_roundw
      case rel => exact ⟨n + 1, by omega, by omega, by go_num, HB2.out⟩
      case measure => simp [intOf]; omega
    · obtain rfl : n = 35 := by omega
      obtain ⟨q2, f2⟩ := box6 hB
      have HB : Hid (Below w.heap.size w wr) := ((Below.refl _ _).alloc (Nat.le_refl _) _).trans (hB.mono (by omega))
      clear hB
      go_wp2
      refine bodyPost_ret (v := .agg #[.bool false, .int .i64 0, .int .i64 0, .int .i64 0, .int .i64 0, .int .i64 0]) (by simp [results, Try.results59, go_sem, q2, f2]) rfl ⟨rfl, ?_⟩
      exact (((((HB.out.setCell (by simp) _).setCell (by simp) _).setCell (by simp) _).setCell (by simp) _).setCell (by simp) _).setCell (by simp) _
end Go.Proofs.Ytabjcodpagjbjaa
