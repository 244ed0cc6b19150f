import Derived.Test.YtkbonhbegpiajaaAS1
namespace Go.Proofs.Ytkbonhbegpiajaa
open Go.RowKit
set_option linter.unusedVariables false
set_option linter.unusedSimpArgs false

/-- The words as numbers: the lengths as a list. -/
def lgL (L : Nat → Bool) (n : Nat) : List Bool := (List.range n).map L
theorem lgL_at (L : Nat → Bool) (n i : Nat) (h : i < n) : (lgL L n).getD i false = L i := by simp [lgL, List.getD, h]
theorem lgL_len (L : Nat → Bool) (n : Nat) : (lgL L n).length = n := by simp [lgL]
/-- The assembly in its box: its pieces and its branches. -/
structure Asm (w : World) (B g n : Nat) (pa : Option Addr) (cap : Nat) (vb : Value) (its : List It) (A : Nat → Int) (G : Nat → Value) (L : Nat → Bool) : Prop where
  len : its.length = n
  box : w.cell? ⟨B, 0, none⟩ = some (.slice pa n cap)
  row : 0 < n → pa = some ⟨g, 0, none⟩
  pcs : PRow w g n its A G L
  brs : w.cell? ⟨B, 1, none⟩ = some vb

set_option maxHeartbeats 2000000 in
theorem place_any (B g n : Nat) (pa : Option Addr) (cap : Nat) (vb : Value) (its : List It) (A : Nat → Int) (G : Nat → Value) (L : Nat → Bool) (w : World) (hB : B ≠ g) (hn : n ≤ 20000) (hc : n ≤ cap) (h : Asm w B g n pa cap vb its A G L) :
    Calls Try.prog 31 #[.pointer (some ⟨B, 0, none⟩)] w fun e w' => e = .returned (.int .i64 ((plN its (lgL L n) n : Nat) : Int)) ∧ Tg g w w' ∧ Asm w' B g n pa cap vb its (fun i => if i < n then 4 * ((plN its (lgL L n) i : Nat) : Int) else A i) G L := by
  have H : Hid (Asm w B g n pa cap vb its A G L) := h
  have b0 := h.box
  clear h
  go_enter Try.func31, Try.ntmps31
  go_wp2_with fail
  clear b0
  go_loopw [3, 10] (fun q i wr => ∃ k : Nat, k ≤ n ∧ i = .int .i64 k ∧ q = .int .i64 ((plN its (lgL L n) k : Nat) : Int) ∧ Tg g w wr ∧ PRow wr g n its (fun i => if i < k then 4 * ((plN its (lgL L n) i : Nat) : Int) else A i) G L) (fun _ i _ => n - (intOf i).toNat)
  case atStart => exact ⟨0, Nat.zero_le _, rfl, rfl, Tg.refl _ _, by simpa using H.out.pcs⟩
  case round =>
    obtain ⟨k, hk, rfl, rfl, hT, hP⟩ := hrel
    have HP : Hid (PRow wr g n its (fun i => if i < k then 4 * ((plN its (lgL L n) i : Nat) : Int) else A i) G L) := hP
    have HT : Hid (Tg g w wr) := hT
    have b0 := (hT.cell (o := 0) hB).trans H.out.box
    have b1 := (hT.cell (o := 1) hB).trans H.out.brs
    have hpl := plN_le its (lgL L n) k
    clear hP hT
    by_cases hlt : k < n
    · have hpa := H.out.row (by omega)
      subst hpa
      obtain ⟨z, hz⟩ : ∃ z : Nat, z = plN its (lgL L n) k := ⟨_, rfl⟩
      have HZ : Hid (z = plN its (lgL L n) k) := hz
      have hz1 : z ≤ 40000 := by omega
      rw [← hz]
      clear hpl hz
      have hp1 := HP.out.at k hlt (4 * (z : Int))
      have hpc := hp1.pc k hlt
      have f7 := HP.out.free k hlt 7 (by omega)
      have c7 := (HP.out.pc k hlt).c7
      have HP1 : Hid (PRow (wr.setCell ⟨g, k * 10 + 7, none⟩ (.int .i64 (4 * (z : Int)))) g n its (upd (fun i => if i < k then 4 * ((plN its (lgL L n) i : Nat) : Int) else A i) k (4 * (z : Int))) G L) := hp1
      have HPc : Hid (Pc (wr.setCell ⟨g, k * 10 + 7, none⟩ (.int .i64 (4 * (z : Int)))) g (k * 10) (its.getD k it0) (upd (fun i => if i < k then 4 * ((plN its (lgL L n) i : Nat) : Int) else A i) k (4 * (z : Int)) k) (G k) (L k)) := hpc
      have hbg : (⟨B, 0, none⟩ : Addr) ≠ ⟨g, k * 10 + 7, none⟩ := by intro h; simp only [Addr.mk.injEq] at h; exact hB h.1
      have b0' : (wr.setCell ⟨g, k * 10 + 7, none⟩ (.int .i64 (4 * (z : Int)))).cell? ⟨B, 0, none⟩ = some (.slice (some ⟨g, 0, none⟩) n cap) := by
        rw [World.cell?_setCell_other _ _ _ _ (fun h => hbg h.symm)]; exact b0
      have em : ((z : Int) * 4) = 4 * (z : Int) := by omega
      clear hp1 hpc
      go_wp2_with fail
      refine (words_any g (k * 10) _ _ _ _ _ HPc.out).mono ?_
      rintro e w2 ⟨rfl, rfl⟩
      have HS : Hid (plN its (lgL L n) (k + 1) = z + szB (its.getD k it0) (L k)) := by show _ = _; rw [HZ.out, ← lgL_at L n k hlt]; rfl
      have hy : szB (its.getD k it0) (L k) ≤ 2 := by
        unfold szB
        split
        · omega
        · split <;> omega
      have HP2 : Hid (PRow (wr.setCell ⟨g, k * 10 + 7, none⟩ (.int .i64 (4 * (z : Int)))) g n its (fun i => if i < k + 1 then 4 * ((plN its (lgL L n) i : Nat) : Int) else A i) G L) := by
        have e : upd (fun i => if i < k then 4 * ((plN its (lgL L n) i : Nat) : Int) else A i) k (4 * (z : Int)) = fun i => if i < k + 1 then 4 * ((plN its (lgL L n) i : Nat) : Int) else A i := by
          funext i
          by_cases ei : i = k
          · subst ei
            rw [upd_same, if_pos (by omega), HZ.out]
          · rw [upd_other _ _ _ _ ei]
            by_cases h1 : i < k
            · rw [if_pos h1, if_pos (by omega)]
            · rw [if_neg h1, if_neg (by omega)]
        have := HP1.out
        rw [e] at this
        exact this
      generalize szB (its.getD k it0) (L k) = y at HS hy ⊢
      clear HPc HP1 b0' c7 f7
      go_wp2_with fail
      go_roundw
      case rel => exact ⟨k + 1, by omega, by go_num, by rw [HS.out]; go_num, HT.out.set _ _, HP2.out⟩
      case measure => simp [intOf]; omega
    · obtain rfl : k = n := by omega
      go_wp2_with fail
      go_ret
      exact ⟨rfl, HT.out, H.out.len, b0, H.out.row, HP.out, b1⟩

end Go.Proofs.Ytkbonhbegpiajaa
