import Derived.Test.YtabjcodpagjbjaaP26
import Derived.Test.YtabjcodpagjbjaaP30
import Derived.Deep.Cut
import Derived.Deep.RegionHeld3
import Derived.Deep.RegionLaw
import Derived.Test.YtabjcodpagjbjaaP02
namespace Go.Proofs.Ytabjcodpagjbjaa
open Go.RowKit
set_option linter.unusedVariables false
set_option linter.unusedSectionVars false
set_option linter.unusedSimpArgs false

/-- What is read out of a word. -/
structure Dec where
  o : Bool
  k : Int
  a : Int
  b : Int
  s : Int
  d : Int
def Dec.no : Dec := ⟨false, 0, 0, 0, 0, 0⟩
def Dec.val (x : Dec) : Value := .agg #[.bool x.o, .int .i64 x.k, .int .i64 x.a, .int .i64 x.b, .int .i64 x.s, .int .i64 x.d]
def DecOk (v : Int) (x : Dec) : Prop := DecIs v x.o x.k x.a x.b x.s x.d
/-- What chooses, given to all that wants it; the last theorem gives it. -/
structure Pick : Type 1 where
  get : (α : Type) → Nonempty α → α
theorem pick_ne {α : Type} (d : α) (p : α → Prop) : Nonempty {x : α // (∃ y, p y) → p x} := by
  by_cases h : ∃ y, p y
  · obtain ⟨y, hy⟩ := h
    exact ⟨⟨y, fun _ => hy⟩⟩
  · exact ⟨⟨d, fun h' => absurd h' h⟩⟩
set_option linter.unusedSectionVars false
variable [Inhabited Pick]
def eps {α : Type} (d : α) (p : α → Prop) : α := ((default : Pick).get {x : α // (∃ y, p y) → p x} (pick_ne d p)).1
theorem eps_spec {α : Type} {d : α} {p : α → Prop} (h : ∃ x, p x) : p (eps d p) := ((default : Pick).get {x : α // (∃ y, p y) → p x} (pick_ne d p)).2 h
def decOf (v : Int) : Dec := eps Dec.no (DecOk v)
theorem decOf_ok (v : Int) (hv : 0 ≤ v ∧ v ≤ 4294967295) : DecOk v (decOf v) := by
  obtain ⟨o, k, a, b, c, d, h⟩ := dec_both v hv
  exact eps_spec ⟨⟨o, k, a, b, c, d⟩, h⟩
def wordAt (codes : List Int) (pc : Int) : Option Int := if 4096 ≤ pc ∧ (pc - 4096) % 4 = 0 ∧ (pc - 4096) / 4 < codes.length then some (codes.getD ((pc - 4096) / 4).toNat 0) else none
def fetchM (codes : List Int) (pc : Int) : Dec := match wordAt codes pc with | some v => decOf v | none => Dec.no
def CodesOk (codes : List Int) : Prop := codes.length ≤ 20000 ∧ ∀ j, j < codes.length → 0 ≤ codes.getD j 0 ∧ codes.getD j 0 ≤ 4294967295
/-- Both programs' step from c leads to nx. -/
def StepIs (codes : List Int) (mb : Int) (c nx : Mc) : Prop :=
  (∀ C L w, CpuIn w C L c → Calls Try.prog 28 #[.pointer (some ⟨C, 0, none⟩), (fetchM codes c.pc).val] w fun e w' => e = .returned (.tuple #[]) ∧ ∃ L', CpuIn w' C L' nx ∧ (∀ g ∈ L', g ∈ L ∨ w.heap.size ≤ g) ∧ Tcs (fun g => g ∈ L) w w') ∧
  (∀ ma mn mc' md v L w, CpuV w v L c → Lis .u32 w (.slice ma mn mc') codes → Calls Try.prog 33 #[.agg #[.slice ma mn mc', .int .i64 md, .int .i64 mb], v] w fun e w' => ∃ u, e = .returned u ∧ ∃ L', CpuV w' u L' nx ∧ (∀ x ∈ L', x ∈ L ∨ w.heap.size ≤ x) ∧ Tcs (fun g => g ∈ L) w w') ∧
  Good nx ∧ nx.data.length = c.data.length ∧ nx.stack.length = c.stack.length ∧ (c.low ≤ c.regs.getD 2 0 → nx.low ≤ nx.regs.getD 2 0)
theorem lis_len {k : IntKind} {w : World} {a : Option Addr} {n m : Nat} {zs : List Int} (h : Lis k w (.slice a n m) zs) : n = zs.length := by
  obtain ⟨x, y, e⟩ := h.len0
  simp only [Value.slice.injEq] at e
  exact e.2.1
theorem Good.lowM {c : Mc} (h : Good c) : Good (lowM c) := by
  unfold Go.Proofs.Ytabjcodpagjbjaa.lowM
  have h2 := h.ru 2 (by omega)
  have hl := h.lou
  exact h.low _ (by split <;> assumption)
theorem lowM_le (c : Mc) : (lowM c).low ≤ (lowM c).regs.getD 2 0 := by
  unfold lowM
  dsimp only
  split <;> omega
theorem step_any (codes : List Int) (mb : Int) (c : Mc) (hG : Good c) (hst : c.st = 0) (hmb : mb = (c.stack.length : Int)) (hco : CodesOk codes) : ∃ nx, StepIs codes mb c nx := by
  by_cases hw : 4096 ≤ c.pc ∧ (c.pc - 4096) % 4 = 0 ∧ (c.pc - 4096) / 4 < codes.length
  · obtain ⟨n, hn⟩ := Int.eq_ofNat_of_zero_le (show 0 ≤ (c.pc - 4096) / 4 by omega)
    have hnl : n < codes.length := by omega
    have hp : c.pc = 4096 + 4 * (n : Int) := by omega
    have hfe : fetchM codes c.pc = decOf (codes.getD n 0) := by
      unfold fetchM wordAt
      rw [if_pos hw, hn]
      rfl
    have hx := decOf_ok (codes.getD n 0) (hco.2 n hnl)
    generalize decOf (codes.getD n 0) = x at *
    obtain ⟨o, k, a, b, s, d⟩ := x
    cases o with
    | false =>
      refine ⟨{ c with st := 2 }, ?_, ?_, hG.stt 2 (by omega), rfl, rfl, fun h => h⟩
      · intro C L w h
        rw [hfe]
        exact adv_no C L c k a b s d w h
      · intro ma mn mc' md v L w h hc
        exact st_bad ma mn mc' md mb v L c w hG h hst n codes hc hco.1 hnl hp k a b s d hx
    | true =>
      obtain ⟨hk, ha, hb, hs, hB⟩ := hx.2.2.2.1 rfl
      obtain ⟨f, c', hD⟩ := do_any c mb k a b s d hG hst hmb hk ha hb hs hB
      cases f with
      | false =>
        refine ⟨{ c with st := 2 }, ?_, ?_, hG.stt 2 (by omega), rfl, rfl, fun h => h⟩
        · intro C L w h
          rw [hfe]
          exact adv_flt C L c c' mb k a b s d w h hD
        · intro ma mn mc' md v L w h hc
          exact st_do2 ma mn mc' md mb v L c w hG h hst n codes hc hco.1 hnl hp k a b s d hx { c with st := 2 } hG.r32 (fun w1 hv => (by simpa using hD.2.1 ma mn mc' md v L w1 hv)) rfl
      | true =>
        have hg' := hD.2.2.2.1
        have hst' := hD.2.2.2.2.1
        refine ⟨lowM c', ?_, ?_, hg'.lowM, hD.2.2.2.2.2.2.1, hD.2.2.2.2.2.2.2, fun _ => lowM_le c'⟩
        · intro C L w h
          rw [hfe]
          exact adv_ok C L c c' mb k a b s d w h hD
        · intro ma mn mc' md v L w h hc
          exact st_do1 ma mn mc' md mb v L c w hG h hst n codes hc hco.1 hnl hp k a b s d hx c' hg'.r32 (fun w1 hv => (by simpa using hD.2.1 ma mn mc' md v L w1 hv)) (by omega)
  · have hfe : fetchM codes c.pc = Dec.no := by
      unfold fetchM wordAt
      rw [if_neg hw]
    refine ⟨{ c with st := 2 }, ?_, ?_, hG.stt 2 (by omega), rfl, rfl, fun h => h⟩
    · intro C L w h
      rw [hfe]
      exact adv_no C L c 0 0 0 0 0 w h
    · intro ma mn mc' md v L w h hc
      have hl := lis_len hc
      by_cases h1 : c.pc < 4096
      · exact st_outA ma mn mc' md mb v L c w hG h hst h1
      by_cases h2 : (c.pc - 4096) % 4 = 0
      · exact st_outC ma mn mc' md mb v L c w hG h hst (by omega) h2 (by omega)
      · exact st_outB ma mn mc' md mb v L c w hG h hst (by omega) h2
def nextM (codes : List Int) (mb : Int) (c : Mc) : Mc := eps zeroM (StepIs codes mb c)
theorem nextM_ok (codes : List Int) (mb : Int) (c : Mc) (hG : Good c) (hst : c.st = 0) (hmb : mb = (c.stack.length : Int)) (hco : CodesOk codes) : StepIs codes mb c (nextM codes mb c) :=
  eps_spec (step_any codes mb c hG hst hmb hco)
def runM (codes : List Int) (mb : Int) (c : Mc) : Nat → Mc
  | 0 => c
  | n + 1 => if (runM codes mb c n).st = 0 then nextM codes mb (runM codes mb c n) else runM codes mb c n
theorem runM_good (codes : List Int) (mb : Int) (c : Mc) (hG : Good c) (hmb : mb = (c.stack.length : Int)) (hco : CodesOk codes) : ∀ n, Good (runM codes mb c n) ∧ (runM codes mb c n).data.length = c.data.length ∧ (runM codes mb c n).stack.length = c.stack.length
  | 0 => ⟨hG, rfl, rfl⟩
  | n + 1 => by
    obtain ⟨h1, h2, h3⟩ := runM_good codes mb c hG hmb hco n
    rw [show runM codes mb c (n + 1) = (if (runM codes mb c n).st = 0 then nextM codes mb (runM codes mb c n) else runM codes mb c n) from rfl]
    split
    · rename_i h0
      have hs := nextM_ok codes mb _ h1 h0 (by rw [h3]; exact hmb) hco
      exact ⟨hs.2.2.1, hs.2.2.2.1.trans h2, hs.2.2.2.2.1.trans h3⟩
    · exact ⟨h1, h2, h3⟩
theorem runM_stop (codes : List Int) (mb : Int) (c : Mc) (n : Nat) (h : ¬ (runM codes mb c n).st = 0) : ∀ m, runM codes mb c (n + m) = runM codes mb c n
  | 0 => rfl
  | m + 1 => by
    have ih := runM_stop codes mb c n h m
    rw [← Nat.add_assoc]
    show (if (runM codes mb c (n + m)).st = 0 then _ else _) = _
    rw [ih, if_neg h]

end Go.Proofs.Ytabjcodpagjbjaa

namespace Go.Proofs.Ytabjcodpagjbjaa
open Go.RowKit
set_option linter.unusedSectionVars false
variable [Inhabited Pick]
theorem runM_low (codes : List Int) (mb : Int) (c : Mc) (hG : Good c) (hmb : mb = (c.stack.length : Int)) (hco : CodesOk codes) (h : c.low ≤ c.regs.getD 2 0) : ∀ n, (runM codes mb c n).low ≤ (runM codes mb c n).regs.getD 2 0
  | 0 => h
  | n + 1 => by
    have ih := runM_low codes mb c hG hmb hco h n
    obtain ⟨h1, h2, h3⟩ := runM_good codes mb c hG hmb hco n
    unfold runM
    split
    · rename_i hst
      exact (nextM_ok codes mb _ h1 hst (by rw [h3]; exact hmb) hco).2.2.2.2.2 ih
    · exact ih
theorem bootM_low (n : Nat) (d b : Int) (zs : List Int) : (bootM n d b zs).low ≤ (bootM n d b zs).regs.getD 2 0 := by
  unfold bootM
  split <;> simp [regs0, zeroM]
end Go.Proofs.Ytabjcodpagjbjaa

namespace Go.Proofs.Ytabjcodpagjbjaa
open Go.RowKit
set_option linter.unusedVariables false
set_option linter.unusedSectionVars false
set_option linter.unusedSimpArgs false
set_option linter.unusedSectionVars false
variable [Inhabited Pick]

/-- The machine's own tests, as both programs make them. -/
def goodB (d bd : Int) (c : Mc) : Bool :=
  decide (c.regs.length = 32 ∧ c.regs.getD 0 0 = 0 ∧ (c.data.length : Int) = d ∧ (c.stack.length : Int) = bd ∧ okIn c.inn = true ∧ (c.out.length : Int) ≤ 1000000 ∧ wrds c.out = true ∧ 0 ≤ c.st ∧ c.st ≤ 2)
set_option maxRecDepth 8000 in
set_option maxHeartbeats 1000000 in
theorem vc_any (a : Option Addr) (len cap : Nat) (d bd : Int) (v : Value) (L : List Nat) (c : Mc) (w : World) (h : CpuV w v L c) (hs : c.regs.length ≤ 2097152 ∧ c.data.length ≤ 2097152 ∧ c.stack.length ≤ 2097152 ∧ c.inn.length ≤ 2097152 ∧ c.out.length ≤ 2097152) :
    Calls Try.prog 37 #[.agg #[.slice a len cap, .int .i64 d, .int .i64 bd], v] w fun e w' => e = .returned (.bool (goodB d bd c)) ∧ Below w.heap.size w w' := by
  obtain ⟨r, dv, sv, iv, ov, rfl, hr, hd, hs', hi, ho, hk, rfl, hnd⟩ := h
  have ho' := (Lis.of_own ho).1
  obtain ⟨x1, y1, rfl⟩ := hr.len0
  obtain ⟨x2, y2, rfl⟩ := hd.len0
  obtain ⟨x3, y3, rfl⟩ := hs'.len0
  obtain ⟨x4, y4, rfl⟩ := hi.len0
  obtain ⟨x5, y5, rfl⟩ := ho'.len0
  have A2 := fun (o1 o2 : Obj) => ((Below.refl w.heap.size w).alloc (Nat.le_refl _) o1).alloc (by simp) o2
  have HS : Hid _ := hs
  have b1 : (c.regs.length : Int) ≤ 2097152 := by omega
  have b2 : (c.data.length : Int) ≤ 2097152 := by omega
  have b3 : (c.stack.length : Int) ≤ 2097152 := by omega
  have b4 : (c.inn.length : Int) ≤ 2097152 := by omega
  have b5 : (c.out.length : Int) ≤ 2097152 := by omega
  by_cases h1 : c.regs.length = 32
  · obtain ⟨g, off, cap1, e, hR, hbk⟩ := lis_some hr (by omega)
    simp only [Value.slice.injEq] at e
    obtain ⟨rfl, _, rfl⟩ := e
    have hgl := hR.lt
    have cz := ((hR.keep (A2 (.cells #[.slice a len cap, .int .i64 d, .int .i64 bd] 25) (.cells #[.slice (some ⟨g, off, none⟩) 32 y1, .int .u32 c.pc, .slice x2 c.data.length y2, .slice x3 c.stack.length y3, .slice x4 c.inn.length y4, .slice x5 c.out.length y5, .int .u32 c.low, .int .i64 c.st] 32)).size ((A2 (.cells #[.slice a len cap, .int .i64 d, .int .i64 bd] 25) (.cells #[.slice (some ⟨g, off, none⟩) 32 y1, .int .u32 c.pc, .slice x2 c.data.length y2, .slice x3 c.stack.length y3, .slice x4 c.inn.length y4, .slice x5 c.out.length y5, .int .u32 c.low, .int .i64 c.st] 32)).block g hR.lt)).cell 0 (by omega))
    simp only [Nat.add_zero] at cz
    have HL : Hid (∀ W, Below w.heap.size w W → _) := fun W hW => And.intro (input_i _ c.inn W (by omega) (hi.below hW)) (words_i _ c.out W (by omega) (ho'.below hW))
    clear hr hd hs' hi ho ho' hk hnd hs hR hbk
    rw [h1]
    have HH1 : Hid _ := h1
    clear h1 b1
    generalize hx0 : c.regs.getD 0 0 = q0 at *
    by_cases h2 : q0 = 0
    · subst h2
      by_cases h3 : (c.data.length : Int) = d
      · by_cases h4 : (c.stack.length : Int) = bd
        · have h3' : ((c.data.length : Int) == d) = true := by simpa using h3
          have h4' : ((c.stack.length : Int) == bd) = true := by simpa using h4
          have HH : Hid _ := And.intro h3 h4
          clear h3 h4
          go_enter Try.func37, Try.ntmps37
          go_wp2_with fail
          refine (HL.out _ (A2 _ _)).1.mono ?_
          rintro e w1 ⟨rfl, hb1⟩
          cases hin : okIn c.inn with
          | false =>
            go_wp2
            go_ret
            exact ⟨ret_b (decide_eq_false (fun h => by have := h.2.2.2.2.1; rw [hin] at this; cases this)).symm, (A2 _ _).trans (hb1.mono (by simp; omega))⟩
          | true =>
            have z1 := hb1.size
            simp only [World.size_alloc] at z1
            have CB := (Bx.of_heap (by have := heap_alloc_new (w.alloc (.cells #[.slice a len cap, .int .i64 d, .int .i64 bd] 25)) (.cells #[.slice (some ⟨g, off, none⟩) 32 y1, .int .u32 c.pc, .slice x2 c.data.length y2, .slice x3 c.stack.length y3, .slice x4 c.inn.length y4, .slice x5 c.out.length y5, .int .u32 c.low, .int .i64 c.st] 32); simpa only [World.size_alloc] using this : ((w.alloc (.cells #[.slice a len cap, .int .i64 d, .int .i64 bd] 25)).alloc (.cells #[.slice (some ⟨g, off, none⟩) 32 y1, .int .u32 c.pc, .slice x2 c.data.length y2, .slice x3 c.stack.length y3, .slice x4 c.inn.length y4, .slice x5 c.out.length y5, .int .u32 c.low, .int .i64 c.st] 32)).heap[w.heap.size + 1]? = _)).below hb1
            have B1 : Below w.heap.size w w1 := (A2 (.cells #[.slice a len cap, .int .i64 d, .int .i64 bd] 25) (.cells #[.slice (some ⟨g, off, none⟩) 32 y1, .int .u32 c.pc, .slice x2 c.data.length y2, .slice x3 c.stack.length y3, .slice x4 c.inn.length y4, .slice x5 c.out.length y5, .int .u32 c.low, .int .i64 c.st] 32)).trans (hb1.mono (by simp; omega))
            obtain ⟨t0, t1, t2, t3, t4, t5, t6, t7, tf⟩ := id CB
            have HB : Hid _ := And.intro CB B1
            clear hb1 CB B1
            by_cases h6 : (c.out.length : Int) ≤ 1000000
            · go_wp2_with fail
              refine (HL.out _ HB.out.2).2.mono ?_
              rintro e w2 ⟨rfl, n2, rfl⟩
              have CB2 := HB.out.1.drewN n2
              clear t0 t1 t2 t3 t4 t5 t6 t7 tf
              obtain ⟨t0, t1, t2, t3, t4, t5, t6, t7, tf⟩ := id CB2
              clear CB2
              cases how : wrds c.out with
              | false =>
                go_wp2
                go_ret
                exact ⟨ret_b (decide_eq_false (fun h => by have := h.2.2.2.2.2.2.1; rw [how] at this; cases this)).symm, below_drewN HB.out.2 _⟩
              | true =>
                by_cases h8 : 0 ≤ c.st
                · by_cases h9 : c.st ≤ 2
                  · go_wp2
                    go_ret
                    exact ⟨ret_b (decide_eq_true ⟨HH1.out, hx0, HH.out.1, HH.out.2, hin, h6, how, h8, h9⟩).symm, below_drewN HB.out.2 _⟩
                  · go_wp2
                    go_ret
                    exact ⟨ret_b (by rw [show goodB d bd c = false from decide_eq_false (fun h => by have := h.2.2.2.2.2.2.2.2; omega)]; simp; omega), below_drewN HB.out.2 _⟩
                · go_wp2
                  go_ret
                  exact ⟨ret_b (decide_eq_false (fun h => by have := h.2.2.2.2.2.2.2.1; omega)).symm, below_drewN HB.out.2 _⟩
            · go_wp2
              go_ret
              exact ⟨ret_b (decide_eq_false (fun h => by have := h.2.2.2.2.2.1; omega)).symm, HB.out.2⟩
        · have h3' : ((c.data.length : Int) == d) = true := by simpa using h3
          have h4' : ((c.stack.length : Int) == bd) = false := by simpa using h4
          go_enter Try.func37, Try.ntmps37
          go_wp2
          go_ret
          exact ⟨ret_b (decide_eq_false (fun h => h4 h.2.2.2.1)).symm, A2 _ _⟩
      · have h3' : ((c.data.length : Int) == d) = false := by simpa using h3
        go_enter Try.func37, Try.ntmps37
        go_wp2
        go_ret
        exact ⟨ret_b (decide_eq_false (fun h => h3 h.2.2.1)).symm, A2 _ _⟩
    · have h2' : (q0 == 0) = false := by simpa using h2
      go_enter Try.func37, Try.ntmps37
      go_wp2
      go_ret
      exact ⟨ret_b (decide_eq_false (fun h => h2 (hx0 ▸ h.2.1))).symm, A2 _ _⟩
  · have h1' : ((c.regs.length : Int) == 32) = false := by simp; omega
    clear hr hd hs' hi ho ho' hk hnd hs
    go_enter Try.func37, Try.ntmps37
    go_wp2
    go_ret
    exact ⟨ret_b (decide_eq_false (fun h => h1 h.1)).symm, A2 _ _⟩

end Go.Proofs.Ytabjcodpagjbjaa
