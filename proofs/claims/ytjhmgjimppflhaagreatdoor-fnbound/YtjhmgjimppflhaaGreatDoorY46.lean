import Derived.Test.YtjhmgjimppflhaaGreatDoorY45
import Derived.Test.YtjhmgjimppflhaaGreatDoorY25
set_option linter.unusedSectionVars false
variable [Inhabited Go.Proofs.YtjhmgjimppflhaaGreatDoor.Pick]
namespace Go.Proofs.YtjhmgjimppflhaaGreatDoor
set_option linter.unusedVariables false
set_option linter.unusedSimpArgs false
set_option maxRecDepth 100000
set_option maxHeartbeats 16000000
section
open Go.RowKit
structure Gn where
 vc : Value
 vp : Value
 vs : Value
 vl : Value
 m : Int
 cs : List ByteArray
 ps : List Int
 ss : List ByteArray
 ls : List ByteArray
structure GnOk (S : Nat → Prop) (w : World) (G : Gn) (K : Nat) : Prop where
 c : ∀ W, Tcs S w W → Strs W G.vc G.cs
 p : ∀ W, Tcs S w W → Ints W G.vp G.ps
 s : ∀ W, Tcs S w W → Strs W G.vs G.ss
 l : ∀ W, Tcs S w W → Strs W G.vl G.ls
 cp : G.ps.length = G.cs.length
 c4 : G.cs.length ≤ 10
 pb : ∀ x ∈ G.ps, 0 ≤ x ∧ x ≤ 6
 ns : (∀ x ∈ G.cs, x.size ≤ 100000) ∧ (∀ x ∈ G.ss, x.size ≤ 100000) ∧ ∀ x ∈ G.ls, x.size ≤ 100000
 sl : G.ss.length ≤ K
 ll : G.ls.length ≤ K
 mb : 0 ≤ G.m ∧ G.m ≤ K
theorem GnOk.tcs {S : Nat → Prop} {w w' : World} {G : Gn} {K : Nat} (h : GnOk S w G K) (ht : Tcs S w w') : GnOk S w' G K :=
 ⟨fun W hW => h.c W (ht.trans hW), fun W hW => h.p W (ht.trans hW), fun W hW => h.s W (ht.trans hW), fun W hW => h.l W (ht.trans hW), h.cp, h.c4, h.pb, h.ns, h.sl, h.ll, h.mb⟩
theorem GnOk.more {S : Nat → Prop} {w : World} {G : Gn} {K K' : Nat} (h : GnOk S w G K) (hk : K ≤ K') : GnOk S w G K' :=
 ⟨h.c, h.p, h.s, h.l, h.cp, h.c4, h.pb, h.ns, by have := h.sl; omega, by have := h.ll; omega, by have := h.mb; omega⟩
theorem GnOk.less {S S' : Nat → Prop} {w : World} {G : Gn} {K : Nat} (h : GnOk S w G K) (hs : ∀ k, S' k → S k) : GnOk S' w G K :=
 ⟨fun W hW => h.c W (hW.mono hs), fun W hW => h.p W (hW.mono hs), fun W hW => h.s W (hW.mono hs), fun W hW => h.l W (hW.mono hs), h.cp, h.c4, h.pb, h.ns, h.sl, h.ll, h.mb⟩
theorem GnOk.below {S : Nat → Prop} {w w' : World} {G : Gn} {K : Nat} (h : GnOk S w G K) (hb : Below w.heap.size w w') : GnOk S w' G K := h.tcs hb.tcs
def okN (e : List Nd) (L : Nat) : Prop := e.length ≤ L ∧ ∀ n ∈ e, n.name.size ≤ 100000
theorem okN.more {e : List Nd} {L L' : Nat} (h : okN e L) (hl : L ≤ L') : okN e L' := ⟨Nat.le_trans h.1 hl, h.2⟩
theorem okN.app {a b : List Nd} {L L' : Nat} (h : okN a L) (h' : okN b L') : okN (a ++ b) (L + L') := by
 refine ⟨by rw [List.length_append]; exact Nat.add_le_add h.1 h'.1, fun n hn => ?_⟩
 rcases List.mem_append.1 hn with hn | hn
 ·exact h.2 n hn
 ·exact h'.2 n hn
theorem okN.one {k v : Int} {s : ByteArray} (h : s.size ≤ 100000) : okN [⟨k, v, s⟩] 1 := ⟨Nat.le_refl _, fun n hn => by simp at hn; subst hn; exact h⟩
theorem okN.nil : okN [] 0 := ⟨Nat.le_refl _, fun n hn => by cases hn⟩
theorem nrow_lit (w : World) (B : Nat) (hB : B ≤ w.heap.size) (k v : Int) (s : ByteArray) : NRow B (w.alloc (.cells #[.int .i64 k, .int .i64 v, .string s] 91)) (.slice (some ⟨w.heap.size, 0, none⟩) 1 1) [⟨k, v, s⟩] :=
 World.ownsRow_lit w #[.int .i64 k, .int .i64 v, .string s] 1 hB (by decide) rfl
theorem nrow_nil (w : World) (B : Nat) (hB : B ≤ w.heap.size) : NRow B (w.alloc (.cells #[] 91)) (.slice (some ⟨w.heap.size, 0, none⟩) 0 0) [] :=
 World.ownsRow_lit w #[] 0 hB (by decide) rfl
theorem strs_at {w : World} {v : Value} {ps : List ByteArray} (h : Strs w v ps) (i : Nat) (hi : i < ps.length) : ∃ b off c, v = .slice (some ⟨b, off, none⟩) ps.length c ∧ w.cell? ⟨b, off + i, none⟩ = some (.string ps[i]) := by
 obtain ⟨a, c, rfl, -, -, h⟩ := h
 obtain ⟨b, off, rfl, hc⟩ := h (by omega)
 exact ⟨b, off, c, rfl, hc i hi⟩
def dpt : Nat → Nat
 | 0 => 1
 | d + 1 => 4 * dpt d + 3
def xpt : Nat → Nat
 | 0 => 1
 | d + 1 => 6 * xpt d + 3
end
end Go.Proofs.YtjhmgjimppflhaaGreatDoor
