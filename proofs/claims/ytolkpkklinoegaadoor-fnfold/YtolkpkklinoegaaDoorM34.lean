import Derived.Test.YtolkpkklinoegaaDoorM33
set_option linter.unusedSectionVars false
variable [Inhabited Go.Proofs.YtolkpkklinoegaaDoor.Pick]
namespace Go.Proofs.YtolkpkklinoegaaDoor
set_option linter.unusedVariables false
set_option linter.unusedSimpArgs false
set_option maxRecDepth 100000
set_option maxHeartbeats 16000000
section
open Go.RowKit
theorem all_ev (C : RC) (hC : C.Ok) : ∀ n, ExS C n ∧ CaS C n ∧ BlS C n ∧ StS C n
 | 0 => ⟨(fun e s r s' h => by cases h using Ev_i), (fun f vs s r s' h => by cases h using Ev_i), (fun ss z r z' h => by cases h using Ev_i), (fun s a b z r z' h => by cases h using Ev_i)⟩
 | n + 1 => by
  obtain ⟨h1, h2, h3, h4⟩ := all_ev C hC n
  exact ⟨exS_step C hC n h1 h2, caS_step C hC n h3, blS_step C hC n h4, stS_step C hC n h1 h3⟩
theorem calE_kn {t : Tr} {sc : List ByteArray} {e : List Nd} (h : KnE t sc e) : calE t e := fun n hn hk => by
 obtain ⟨f, hf, -⟩ := node_call (h n hn) hk
 exact ⟨f, hf⟩
theorem wfs_all {t : Tr} : ∀ (m : Nat) (ss : List St) (sc : List ByteArray), ss.length ≤ m → Snd t ss sc → (∀ s ∈ ss, stmtB s = true) → ∀ s ∈ ss, WfS t s
 | 0, ss, sc, hl, _, _, s, hs => by
  have : ss = [] := List.eq_nil_of_length_eq_zero (by omega)
  subst this
  cases hs
 | m + 1, [], sc, hl, h, hB, s, hs => by cases hs
 | m + 1, x :: q, sc, hl, h, hB, s, hs => by
  obtain ⟨⟨tk, h1, h2⟩, h3, h4, h5⟩ := h.cons
  simp only [List.length_cons] at hl
  rcases List.mem_cons.1 hs with rfl | hs
  ·have hk := stmt_kn h2 h1
   obtain ⟨p1, p2, p3⟩ := stmtB_parts (hB s (List.mem_cons_self ..))
   exact ⟨p1, ⟨p2, calE_kn hk.e⟩, fun h3 => ⟨p3 h3, calE_kn hk.f⟩⟩
  ·have e : q = q.take x.thn.toNat ++ ((q.drop x.thn.toNat).take x.els.toNat ++ q.drop (x.thn.toNat + x.els.toNat)) := by
    rw [← List.drop_drop, List.take_append_drop, List.take_append_drop]
   rw [e] at hs
   rcases List.mem_append.1 hs with hs | hs
   ·exact wfs_all m _ _ (by simp; omega) h3 (fun y hy => hB y (List.mem_cons_of_mem _ (List.mem_of_mem_take hy))) s hs
   ·rcases List.mem_append.1 hs with hs | hs
    ·exact wfs_all m _ _ (by simp; omega) h4 (fun y hy => hB y (List.mem_cons_of_mem _ (List.mem_of_mem_drop (List.mem_of_mem_take hy)))) s hs
    ·exact wfs_all m _ _ (by simp; omega) h5 (fun y hy => hB y (List.mem_cons_of_mem _ (List.mem_of_mem_drop hy))) s hs
theorem ev_main {t : Tr} (fr : List Int) (h : (checkE t).1 = 0) (f : Nat) (hf : f < t.funcs.length) (vs : List Int) (s : ES) : ∃ n r s', Ev t fr n (.c f vs) s r s' ∧ s'.u ≤ s.u := by
 obtain ⟨n, r, s', h1, h2, -⟩ := ev_ends t fr (fun g hg x hx => by
  obtain ⟨hO, -, -⟩ := ok_body h hg
  exact wfs_all g.body.length g.body g.params (Nat.le_refl _) hO.snd (fun y hy => (hO.ok y hy).1) x hx) s.u ((Tk.c f vs).sz t) (.c f vs) s rfl (Nat.le_refl _) hf
 exact ⟨n, r, s', h1, h2⟩
end
end Go.Proofs.YtolkpkklinoegaaDoor
