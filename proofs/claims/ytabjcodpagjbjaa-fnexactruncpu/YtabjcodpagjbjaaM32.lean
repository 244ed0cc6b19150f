import Derived.Test.YtabjcodpagjbjaaM16
import Derived.Test.YtabjcodpagjbjaaM15
namespace Go.Proofs.Ytabjcodpagjbjaa
open Go.RowKit
set_option linter.unusedVariables false
set_option linter.unusedSimpArgs false

theorem dat_row {w : World} {r p s i o l t : Value} {x : Option Addr} {n y : Nat} {L : List Nat} {c : Mc} (h : CpuV w (.agg #[r, p, .slice x n y, s, i, o, l, t]) L c) (hn : 0 < c.data.length) :
    ∃ gd od, x = some ⟨gd, od, none⟩ ∧ Row .u8 w gd od c.data ∧ gd ∈ L ∧ (∀ g ∈ blk r, gd ≠ g) := by
  obtain ⟨r', d', s', i', o', hv, hr, hd, hs, hi, ho, hk, rfl, hnd⟩ := h
  simp only [Value.agg.injEq, Array.mk.injEq, List.cons.injEq, and_true] at hv
  obtain ⟨rfl, rfl, rfl, rfl, rfl, rfl, rfl, rfl⟩ := hv
  obtain ⟨gd, od, cd, e, hR, hb⟩ := lis_some hd hn
  simp only [Value.slice.injEq] at e
  obtain ⟨rfl, rfl, rfl⟩ := e
  refine ⟨gd, od, rfl, hR, by rw [hb]; simp, fun g hg e => ?_⟩
  subst e
  rw [hb] at hnd
  simp only [List.append_assoc] at hnd
  exact nodup_sub hnd hg (by simp)
theorem stk_row {w : World} {r p d i o l t : Value} {x : Option Addr} {n y : Nat} {L : List Nat} {c : Mc} (h : CpuV w (.agg #[r, p, d, .slice x n y, i, o, l, t]) L c) (hn : 0 < c.stack.length) :
    ∃ gd od, x = some ⟨gd, od, none⟩ ∧ Row .u8 w gd od c.stack ∧ gd ∈ L ∧ (∀ g ∈ blk r, gd ≠ g) := by
  obtain ⟨r', d', s', i', o', hv, hr, hd, hs, hi, ho, hk, rfl, hnd⟩ := h
  simp only [Value.agg.injEq, Array.mk.injEq, List.cons.injEq, and_true] at hv
  obtain ⟨rfl, rfl, rfl, rfl, rfl, rfl, rfl, rfl⟩ := hv
  obtain ⟨gd, od, cd, e, hR, hb⟩ := lis_some hs hn
  simp only [Value.slice.injEq] at e
  obtain ⟨rfl, rfl, rfl⟩ := e
  refine ⟨gd, od, rfl, hR, by rw [hb]; simp, fun g hg e => ?_⟩
  subst e
  rw [hb] at hnd
  simp only [List.append_assoc] at hnd
  exact nodup_sub hnd hg (by simp)
theorem CpuV.dat {w w' : World} {r p s i o l t : Value} {gd od n y : Nat} {L : List Nat} {c : Mc} {rs : List Int} (h : CpuV w (.agg #[r, p, .slice (some ⟨gd, od, none⟩) n y, s, i, o, l, t]) L c) (hn : 0 < c.data.length)
    (ht : Tcs (fun k => k = gd) w w') (hl : rs.length = c.data.length) (hR : Row .u8 w' gd od rs) : CpuV w' (.agg #[r, p, .slice (some ⟨gd, od, none⟩) n y, s, i, o, l, t]) L { c with data := rs } := by
  obtain ⟨r', d', s', i', o', hv, hr, hd, hs, hi, ho, hk, hL, hnd⟩ := h
  simp only [Value.agg.injEq, Array.mk.injEq, List.cons.injEq, and_true] at hv
  obtain ⟨rfl, rfl, rfl, rfl, rfl, rfl, rfl, rfl⟩ := hv
  obtain ⟨a, k, e⟩ := hd.len0
  simp only [Value.slice.injEq] at e
  obtain ⟨_, rfl, _⟩ := e
  have hb : blk (.slice (some ⟨gd, od, none⟩) c.data.length y) = [gd] := blk_some _ _ _ hn
  have hnd' := hnd
  rw [hL, hb] at hnd'
  simp only [List.append_assoc, List.nodup_append, List.mem_append, List.mem_cons, List.not_mem_nil, or_false, List.cons_append, List.nil_append, List.nodup_cons] at hnd'
  obtain ⟨n1, ⟨n2, n3⟩, n4⟩ := hnd'
  refine ⟨_, _, _, _, _, rfl, hr.tcs ht fun g hg e => n4 g hg gd (.inl rfl) e, ?_, hs.tcs ht fun g hg e => n2 (.inl (e ▸ hg)), hi.tcs ht fun g hg e => n2 (.inr (.inl (e ▸ hg))), own_tcs ho ht fun g hg e => n2 (.inr (.inr (e ▸ hg))), hk, hL, hnd⟩
  exact ⟨_, _, by rw [hl], fun _ => ⟨gd, od, rfl, hR⟩⟩
theorem CpuV.stk {w w' : World} {r p d i o l t : Value} {gd od n y : Nat} {L : List Nat} {c : Mc} {rs : List Int} (h : CpuV w (.agg #[r, p, d, .slice (some ⟨gd, od, none⟩) n y, i, o, l, t]) L c) (hn : 0 < c.stack.length)
    (ht : Tcs (fun k => k = gd) w w') (hl : rs.length = c.stack.length) (hR : Row .u8 w' gd od rs) : CpuV w' (.agg #[r, p, d, .slice (some ⟨gd, od, none⟩) n y, i, o, l, t]) L { c with stack := rs } := by
  obtain ⟨r', d', s', i', o', hv, hr, hd, hs, hi, ho, hk, hL, hnd⟩ := h
  simp only [Value.agg.injEq, Array.mk.injEq, List.cons.injEq, and_true] at hv
  obtain ⟨rfl, rfl, rfl, rfl, rfl, rfl, rfl, rfl⟩ := hv
  obtain ⟨a, k, e⟩ := hs.len0
  simp only [Value.slice.injEq] at e
  obtain ⟨_, rfl, _⟩ := e
  have hb : blk (.slice (some ⟨gd, od, none⟩) c.stack.length y) = [gd] := blk_some _ _ _ hn
  have hnd' := hnd
  rw [hL, hb] at hnd'
  simp only [List.append_assoc, List.nodup_append, List.mem_append, List.mem_cons, List.not_mem_nil, or_false, List.cons_append, List.nil_append, List.nodup_cons] at hnd'
  obtain ⟨n1, ⟨n2, ⟨n3, n5⟩, n6⟩, n4⟩ := hnd'
  refine ⟨_, _, _, _, _, rfl, hr.tcs ht fun g hg e => n4 g hg gd (.inr (.inl rfl)) e, hd.tcs ht fun g hg e => n6 g hg gd (.inl rfl) e, ?_, hi.tcs ht fun g hg e => n3 (.inl (e ▸ hg)), own_tcs ho ht fun g hg e => n3 (.inr (e ▸ hg)), hk, hL, hnd⟩
  exact ⟨_, _, by rw [hl], fun _ => ⟨gd, od, rfl, hR⟩⟩

end Go.Proofs.Ytabjcodpagjbjaa
