import Derived.RegionTactic
import Derived.ChangeAlike
import Derived.Test.YtjhmgjimppflhaaGreatDoorY11
import Derived.Below
set_option linter.unusedSectionVars false
variable [Inhabited Go.Proofs.YtjhmgjimppflhaaGreatDoor.Pick]
namespace Go.Proofs.YtjhmgjimppflhaaGreatDoor
set_option linter.unusedVariables false
set_option linter.unusedSimpArgs false
set_option maxRecDepth 100000
set_option maxHeartbeats 16000000
section
open Go.RowKit
def StmtsC (w : World) (b off : Nat) (ss : List St) : Prop := ∀ j (h : j < ss.length), ∃ ve vf,
 (w.cell? ⟨b, off + j * 6, none⟩ = some (.int .i64 ss[j].kind) ∧ w.cell? ⟨b, off + j * 6 + 1, none⟩ = some (.string ss[j].name) ∧ w.cell? ⟨b, off + j * 6 + 2, none⟩ = some ve ∧ w.cell? ⟨b, off + j * 6 + 3, none⟩ = some vf ∧ w.cell? ⟨b, off + j * 6 + 4, none⟩ = some (.int .i64 ss[j].thn) ∧ w.cell? ⟨b, off + j * 6 + 5, none⟩ = some (.int .i64 ss[j].els)) ∧ Nodes w ve ss[j].e ∧ Nodes w vf ss[j].f
theorem StmtsC.below {w w' : World} {b off : Nat} {ss : List St} (h : StmtsC w b off ss) (hb : Below w.heap.size w w') : StmtsC w' b off ss := by
 intro j hj
 obtain ⟨ve, vf, ⟨c0, c1, c2, c3, c4, c5⟩, he, hf⟩ := h j hj
 have hlt := World.block_lt_of_cell? _ _ c0
 exact ⟨ve, vf, ⟨(hb.cell (p := ⟨b, off + j * 6, none⟩) hlt).trans c0, (hb.cell (p := ⟨b, off + j * 6 + 1, none⟩) hlt).trans c1, (hb.cell (p := ⟨b, off + j * 6 + 2, none⟩) hlt).trans c2, (hb.cell (p := ⟨b, off + j * 6 + 3, none⟩) hlt).trans c3, (hb.cell (p := ⟨b, off + j * 6 + 4, none⟩) hlt).trans c4, (hb.cell (p := ⟨b, off + j * 6 + 5, none⟩) hlt).trans c5⟩, he.below hb, hf.below hb⟩
def Stmts (w : World) (v : Value) (ss : List St) : Prop := ∃ a cap, v = .slice a ss.length cap ∧ ss.length ≤ cap ∧ cap ≤ 9223372036854775807 ∧ (0 < ss.length → ∃ b off, a = some ⟨b, off, none⟩ ∧ StmtsC w b off ss)
theorem Stmts.below {w w' : World} {v : Value} {ss : List St} (h : Stmts w v ss) (hb : Below w.heap.size w w') : Stmts w' v ss := by
 obtain ⟨a, cap, rfl, hl, hm, h⟩ := h
 refine ⟨a, cap, rfl, hl, hm, fun h0 => ?_⟩
 obtain ⟨b, off, rfl, hc⟩ := h h0
 exact ⟨b, off, rfl, hc.below hb⟩
theorem StmtsC.up {w : World} {b off : Nat} {ss : List St} (h : StmtsC w b off ss) (j : Nat) (hj : j < ss.length) : ∃ ve vf, ((∀ o, (w.alloc o).cell? ⟨b, off + j * 6, none⟩ = some (.int .i64 ss[j].kind)) ∧ (∀ o, (w.alloc o).cell? ⟨b, off + j * 6 + 1, none⟩ = some (.string ss[j].name)) ∧ (∀ o, (w.alloc o).cell? ⟨b, off + j * 6 + 2, none⟩ = some ve) ∧ (∀ o, (w.alloc o).cell? ⟨b, off + j * 6 + 3, none⟩ = some vf) ∧ (∀ o, (w.alloc o).cell? ⟨b, off + j * 6 + 4, none⟩ = some (.int .i64 ss[j].thn)) ∧ (∀ o, (w.alloc o).cell? ⟨b, off + j * 6 + 5, none⟩ = some (.int .i64 ss[j].els))) ∧
  (w.cell? ⟨b, off + j * 6, none⟩ = some (.int .i64 ss[j].kind) ∧ w.cell? ⟨b, off + j * 6 + 1, none⟩ = some (.string ss[j].name) ∧ w.cell? ⟨b, off + j * 6 + 2, none⟩ = some ve ∧ w.cell? ⟨b, off + j * 6 + 3, none⟩ = some vf ∧ w.cell? ⟨b, off + j * 6 + 4, none⟩ = some (.int .i64 ss[j].thn) ∧ w.cell? ⟨b, off + j * 6 + 5, none⟩ = some (.int .i64 ss[j].els)) ∧ Nodes w ve ss[j].e ∧ Nodes w vf ss[j].f := by
 obtain ⟨ve, vf, ⟨c0, c1, c2, c3, c4, c5⟩, he, hf⟩ := h j hj
 have hlt := World.block_lt_of_cell? _ _ c0
 have hb : ∀ o, Below w.heap.size w (w.alloc o) := fun o => (Below.refl _ _).alloc (Nat.le_refl _) o
 exact ⟨ve, vf, ⟨fun o => ((hb o).cell (p := ⟨b, off + j * 6, none⟩) hlt).trans c0, fun o => ((hb o).cell (p := ⟨b, off + j * 6 + 1, none⟩) hlt).trans c1, fun o => ((hb o).cell (p := ⟨b, off + j * 6 + 2, none⟩) hlt).trans c2, fun o => ((hb o).cell (p := ⟨b, off + j * 6 + 3, none⟩) hlt).trans c3, fun o => ((hb o).cell (p := ⟨b, off + j * 6 + 4, none⟩) hlt).trans c4, fun o => ((hb o).cell (p := ⟨b, off + j * 6 + 5, none⟩) hlt).trans c5⟩, ⟨c0, c1, c2, c3, c4, c5⟩, he, hf⟩
theorem Stmts.cut {w : World} {a : Option Addr} {cap : Nat} {ss : List St} (h : Stmts w (.slice a ss.length cap) ss) (lo hi : Nat) (h1 : lo ≤ hi) (h2 : hi ≤ ss.length) :
  Stmts w (.slice (if cap = lo then a else a.map (·.add (lo * 6))) (hi - lo) (cap - lo)) ((ss.take hi).drop lo) := by
 obtain ⟨a', cap', he, hl, hm, h⟩ := h
 simp only [Value.slice.injEq, true_and] at he
 obtain ⟨rfl, rfl⟩ := he
 refine ⟨if cap = lo then a else a.map (·.add (lo * 6)), cap - lo, by simp [Nat.min_eq_left h2], by simp [Nat.min_eq_left h2]; omega, by omega, fun h0 => ?_⟩
 simp only [List.length_drop, List.length_take, Nat.min_eq_left h2] at h0
 obtain ⟨b, off, rfl, hc⟩ := h (by omega)
 refine ⟨b, off + lo * 6, ?_, fun j hj => ?_⟩
 ·rw [if_neg (by omega)]; simp [Addr.add]
 ·simp only [List.length_drop, List.length_take, Nat.min_eq_left h2] at hj
  obtain ⟨ve, vf, hcc, he, hf⟩ := hc (lo + j) (by omega)
  have e : ((ss.take hi).drop lo)[j]'(by simp; omega) = ss[lo + j]'(by omega) := by simp
  rw [e]
  refine ⟨ve, vf, ?_, he, hf⟩
  have e1 : off + lo * 6 + j * 6 = off + (lo + j) * 6 := by omega
  rw [e1]
  exact hcc
theorem Stmts.head {w : World} {a : Option Addr} {cap : Nat} {ss : List St} (h : Stmts w (.slice a ss.length cap) ss) (hi : Nat) (h2 : hi ≤ ss.length) : Stmts w (.slice a hi cap) (ss.take hi) := by
 have := h.cut 0 hi (Nat.zero_le _) h2
 have e : (if cap = 0 then a else a.map (·.add (0 * 6))) = a := by
  split
  ·rfl
  ·cases a <;> simp [Addr.add]
 rw [e] at this
 simpa using this
theorem cut_run (a : Option Addr) (n cap lo hi : Nat) (h1 : lo ≤ hi) (h2 : hi ≤ n) (h3 : n ≤ cap) : ∀ w : World, (Instr.slice 59 (.slice a n cap) (some (.int .i64 lo)) (some (.int .i64 ((lo : Int) + ((hi - lo : Nat) : Int)))) none).run Tryz.prog w = .ok (.slice (if cap = lo then a else a.map (·.add (lo * 6))) (hi - lo) (cap - lo)) w := by
 intro w
 have hz : Tryz.prog.elem 59 = 88 := by kernel_rfl
 have hs : (sizeOf 88).run Tryz.prog w = .ok 6 w := by kernel_rfl
 rw [run_slice_lh w 59 a n cap (by rw [hz]; exact Tryz.underlying59) .i64 .i64 _ _ (by omega) (by omega) (by omega), hz, hs]
 simp only [Result.andThen, sliced, Int.toNat_natCast]
 have e : (((lo : Int) + ((hi - lo : Nat) : Int))).toNat = hi := by omega
 rw [e]
theorem cut_run_l (a : Option Addr) (n cap lo : Nat) (h2 : lo ≤ n) (h3 : n ≤ cap) (l' : Int) (hl' : l' = lo) : ∀ w : World, (Instr.slice 59 (.slice a n cap) (some (.int .i64 l')) none none).run Tryz.prog w = .ok (.slice (if cap = lo then a else a.map (·.add (lo * 6))) (n - lo) (cap - lo)) w := by
 intro w
 subst hl'
 have hz : Tryz.prog.elem 59 = 88 := by kernel_rfl
 have hs : (sizeOf 88).run Tryz.prog w = .ok 6 w := by kernel_rfl
 rw [run_slice_l w 59 a n cap (by rw [hz]; exact Tryz.underlying59) .i64 _ (by omega) (by omega), hz, hs]
 simp only [Result.andThen, sliced, Int.toNat_natCast]
def lenOf : Value → Nat | .slice _ n _ => n | _ => 0
set_option maxHeartbeats 2000000 in
theorem fit_any (n : Nat) : ∀ (v : Value) (ss : List St) (w : World) (hn : ss.length ≤ n) (hl : ss.length ≤ 1048576) (hc : Stmts w v ss),
  Calls Tryz.prog 97 #[v] w fun e w' => e = .returned (.bool (fitB ss)) ∧ Below w.heap.size w w' := by
 induction n with
 | zero =>
  intro v ss w hn hl hc
  have : ss = [] := List.eq_nil_of_length_eq_zero (by omega)
  subst this
  obtain ⟨a, cap, rfl, hcl, hcm, hc⟩ := hc
  simp only [List.length_nil] at *
  clear hc
  go_enter Tryz.func97, Tryz.ntmps97
  go_wp2_with fail
  refine wp_loop_rounds 1 ?_
  rw [rounds_succ]
  go_wp2_with fail
  go_ret
  exact ⟨rfl, Below.refl _ _⟩
 | succ n ih =>
 intro v ss w hn hl hc
 have IH : Hid (∀ (v : Value) (ss : List St) (w : World) (hn : ss.length ≤ n) (hl : ss.length ≤ 1048576) (hc : Stmts w v ss), Calls Tryz.prog 97 #[v] w fun e w' => e = .returned (.bool (fitB ss)) ∧ Below w.heap.size w w') := ih
 have HN : Hid (Stmts w v ss) := hc
 obtain ⟨a, cap, rfl, hcl, hcm, hc⟩ := hc
 clear hc ih
 go_enter Tryz.func97, Tryz.ntmps97
 go_wp2_with fail
 go_loopw [0] (fun v wr => ∃ ts, ts.length ≤ ss.length ∧ Stmts wr v ts ∧ fitB ss = fitB ts ∧ Below w.heap.size w wr) (fun v _ => lenOf v)
 case atStart => exact ⟨ss, Nat.le_refl _, HN.out, rfl, Below.refl _ _⟩
 case round =>
  obtain ⟨ts, htl, hts, hfit, hB⟩ := hrel
  obtain ⟨a, cap, rfl, hcl, hcm, hc⟩ := hts
  have HF : Hid (fitB ss = fitB ts) := hfit
  clear hfit
  cases ts with
  | nil =>
   simp only [List.length_nil]
   go_wp2_with fail
   go_ret
   exact ⟨ret_bool HF.out.symm, hB⟩
  | cons s r =>
   obtain ⟨b, off, rfl, hs⟩ := hc (by simp)
   obtain ⟨ve, vf, ⟨g0, g1, g2, g3, g4, g5⟩, ⟨c0, c1, c2, c3, c4, c5⟩, he, hf⟩ := hs.up 0 (by simp)
   simp only [Nat.zero_mul, Nat.add_zero, List.getElem_cons_zero] at c0 c1 c2 c3 c4 c5 g0 g1 g2 g3 g4 g5
   have hall : Stmts wr (.slice (some ⟨b, off, none⟩) (s :: r).length cap) (s :: r) := ⟨_, _, rfl, hcl, hcm, fun _ => ⟨b, off, rfl, hs⟩⟩
   have hrest : Stmts wr (.slice (if cap = 1 then some ⟨b, off, none⟩ else some ⟨b, off + 6, none⟩) r.length (cap - 1)) r := by
    have := hall.cut 1 (s :: r).length (by simp) (Nat.le_refl _)
    simpa [Addr.add] using this
   simp only [List.length_cons] at *
   have HR : Hid (Stmts wr (.slice (if cap = 1 then some ⟨b, off, none⟩ else some ⟨b, off + 6, none⟩) r.length (cap - 1)) r) := hrest
   have h1 : (1 : Int) ≤ (r.length : Int) + 1 := by omega
   have HC : Hid (fitB ss = (decide (0 ≤ s.thn ∧ s.thn ≤ r.length ∧ 0 ≤ s.els ∧ s.els ≤ r.length - s.thn) && (fitB (r.take s.thn.toNat) && (fitB ((r.take (s.thn.toNat + s.els.toNat)).drop s.thn.toNat) && fitB (r.drop (s.thn.toNat + s.els.toNat)))))) := by
    show _ = _
    rw [HF.out, fitB_cons]
   obtain ⟨a2, k2, rfl, -, -, -⟩ := he
   obtain ⟨a3, k3, rfl, -, -, -⟩ := hf
   clear hs hc hall hrest HF
   generalize s.kind = kI at c0 g0
   generalize s.name = nI at c1 g1
   generalize s.thn = tI at c4 g4 HC
   generalize s.els = lI at c5 g5 HC
   generalize (s :: r)[0].e.length = n2 at c2 g2
   generalize (s :: r)[0].f.length = n3 at c3 g3
   go_wp2_with fail
   go_region
   generalize (if cap = 1 then some ({ block := b, off := off, spot := none } : Addr) else some { block := b, off := off + 6, spot := none }) = a1 at HR ⊢
   generalize hk1 : cap - 1 = k1 at HR ⊢
   have hk1' : r.length ≤ k1 := by omega
   have hk2' : k1 ≤ 9223372036854775807 := by omega
   clear hk1 c0 c1 c2 c3 c4 c5 g0 g1 g2 g3 g4 g5 h1
   have hB1 : Below w.heap.size w (wr.alloc (.cells #[.int .i64 kI, .string nI, .slice a2 n2 k2, .slice a3 n3 k3, .int .i64 tI, .int .i64 lI] 88)).drew := (hB.alloc hB.size _).drew
   by_cases q1 : tI < 0
   ·go_wp2_with fail
    go_ret
    exact ⟨ret_bool (by rw [HC.out, decide_eq_false (by omega)]; rfl), hB1⟩
   by_cases q2 : (r.length : Int) < tI
   ·go_wp2_with fail
    go_ret
    exact ⟨ret_bool (by rw [HC.out, decide_eq_false (by omega)]; rfl), hB1⟩
   by_cases q3 : lI < 0
   ·go_wp2_with fail
    go_ret
    exact ⟨ret_bool (by rw [HC.out, decide_eq_false (by omega)]; rfl), hB1⟩
   by_cases q4 : (r.length : Int) - tI < lI
   ·go_wp2_with fail
    go_ret
    exact ⟨ret_bool (by rw [HC.out, decide_eq_false (by omega)]; rfl), hB1⟩
   obtain ⟨tn, rfl⟩ := Int.eq_ofNat_of_zero_le (show 0 ≤ tI by omega)
   obtain ⟨ln, rfl⟩ := Int.eq_ofNat_of_zero_le (show 0 ≤ lI by omega)
   have hlt : tn ≤ r.length := by omega
   have hlt2 : tn + ln ≤ r.length := by omega
   have HC1 : Hid (fitB ss = (fitB (r.take tn) && (fitB ((r.take (tn + ln)).drop tn) && fitB (r.drop (tn + ln))))) := by
    show _ = _
    rw [HC.out, decide_eq_true (by omega)]; simp
   clear HC
   go_wp2_with fail
   have hbx : Below wr.heap.size wr (wr.alloc (.cells #[.int .i64 kI, .string nI, .slice a2 n2 k2, .slice a3 n3 k3, .int .i64 tn, .int .i64 ln] 88)).drew := ((Below.refl _ _).alloc (Nat.le_refl _) _).drew
   refine (IH.out _ (r.take tn) _ (by simp; omega) (by simp; omega) ((HR.out.below hbx).head tn (by omega))).mono ?_
   rintro e w1 ⟨rfl, hb1⟩
   have hb1' : Below (wr.heap.size + 1) (wr.alloc (.cells #[.int .i64 kI, .string nI, .slice a2 n2 k2, .slice a3 n3 k3, .int .i64 tn, .int .i64 ln] 88)) w1 := ((Below.refl _ _).drew).trans (hb1.mono (by simp))
   have hB2 := hB.trans ((one_below hb1').mono hB.size)
   obtain ⟨x0, x1, x2, x3, x4, x5⟩ := box6 hb1'
   clear hbx hb1 hB1
   cases hf1 : fitB (r.take tn)
   ·go_wp2_with fail
    go_ret
    exact ⟨ret_bool (by rw [HC1.out, hf1]; rfl), hB2⟩
   obtain ⟨a5, k5, hr5, hs5⟩ : ∃ a5 k5, (∀ w : World, (Instr.slice 59 (.slice a1 r.length k1) (some (.int .i64 tn)) (some (.int .i64 ((tn : Int) + (ln : Int)))) none).run Tryz.prog w = .ok (.slice a5 ln k5) w) ∧ Stmts wr (.slice a5 ln k5) ((r.take (tn + ln)).drop tn) := by
    have h := cut_run a1 r.length k1 tn (tn + ln) (by omega) (by omega) (by omega)
    have h' := HR.out.cut tn (tn + ln) (by omega) (by omega)
    rw [show tn + ln - tn = ln by omega] at h h'
    exact ⟨_, _, h, h'⟩
   have HS5 : Hid (Stmts wr (.slice a5 ln k5) ((r.take (tn + ln)).drop tn)) := hs5
   clear hs5
   go_wp2_with fail
   have hbw : Below wr.heap.size wr w1 := one_below hb1'
   refine (IH.out _ ((r.take (tn + ln)).drop tn) _ (by simp; omega) (by simp; omega) (HS5.out.below hbw)).mono ?_
   rintro e w2 ⟨rfl, hb2⟩
   have hB3 := hB2.trans (hb2.mono hB2.size)
   have hbw2 := hbw.trans (hb2.mono hbw.size)
   clear x0 x1 x2 x3 x4 x5 hr5
   cases hf2 : fitB ((r.take (tn + ln)).drop tn)
   ·go_wp2_with fail
    go_ret
    exact ⟨ret_bool (by rw [HC1.out, hf1, hf2]; rfl), hB3⟩
   obtain ⟨a6, k6, hr6, hs6⟩ : ∃ a6 k6, (∀ w : World, (Instr.slice 59 (.slice a1 r.length k1) (some (.int .i64 ((tn : Int) + (ln : Int)))) none none).run Tryz.prog w = .ok (.slice a6 (r.length - (tn + ln)) k6) w) ∧ Stmts wr (.slice a6 (r.length - (tn + ln)) k6) (r.drop (tn + ln)) := by
    have h := cut_run_l a1 r.length k1 (tn + ln) (by omega) (by omega) ((tn : Int) + (ln : Int)) (by omega)
    have h' := HR.out.cut (tn + ln) r.length (by omega) (by omega)
    rw [List.take_length] at h'
    exact ⟨_, _, h, h'⟩
   have HS6 : Hid (Stmts wr (.slice a6 (r.length - (tn + ln)) k6) (r.drop (tn + ln))) := hs6
   clear hs6
   go_wp2_with fail
   go_roundw
   case rel => exact ⟨r.drop (tn + ln), by simp; omega, HS6.out.below hbw2, by rw [HC1.out, hf1, hf2]; rfl, hB3⟩
   case measure => simp [lenOf]; omega
end
section
open Go.RowKit
theorem cut_run2 (a : Option Addr) (n cap lo hi : Nat) (h1 : lo ≤ hi) (h2 : hi ≤ n) (h3 : n ≤ cap) (l' h' : Int) (hl' : l' = lo) (hh' : h' = hi) : ∀ w : World, (Instr.slice 59 (.slice a n cap) (some (.int .i64 l')) (some (.int .i64 h')) none).run Tryz.prog w = .ok (.slice (if cap = lo then a else a.map (·.add (lo * 6))) (hi - lo) (cap - lo)) w := by
 intro w
 have h := cut_run a n cap lo hi h1 h2 h3 w
 rw [show ((lo : Int) + ((hi - lo : Nat) : Int)) = hi by omega] at h
 rw [hl', hh']
 exact h
def nonneg (ss : List St) : Prop := ∀ s ∈ ss, 0 ≤ s.thn ∧ 0 ≤ s.els
theorem nonneg.take {ss : List St} (h : nonneg ss) (n : Nat) : nonneg (ss.take n) := fun s hs => h s (List.mem_of_mem_take hs)
theorem nonneg.drop {ss : List St} (h : nonneg ss) (n : Nat) : nonneg (ss.drop n) := fun s hs => h s (List.mem_of_mem_drop hs)
set_option maxHeartbeats 2000000 in
theorem shaped_any (n : Nat) : ∀ (v : Value) (ss : List St) (w : World) (hn : ss.length ≤ n) (hl : ss.length ≤ 1048576) (hp : nonneg ss) (hc : Stmts w v ss),
  Calls Tryz.prog 83 #[v] w fun e w' => e = .returned (.bool (fitB ss)) ∧ Below w.heap.size w w' := by
 induction n with
 | zero =>
  intro v ss w hn hl hp hc
  have : ss = [] := List.eq_nil_of_length_eq_zero (by omega)
  subst this
  obtain ⟨a, cap, rfl, hcl, hcm, hc⟩ := hc
  simp only [List.length_nil] at *
  clear hc hp
  go_enter Tryz.func83, Tryz.ntmps83
  go_wp2_with fail
  refine wp_loop_rounds 1 ?_
  rw [rounds_succ]
  go_wp2_with fail
  go_ret
  exact ⟨rfl, Below.refl _ _⟩
 | succ n ih =>
 intro v ss w hn hl hp hc
 have IH : Hid (∀ (v : Value) (ss : List St) (w : World) (hn : ss.length ≤ n) (hl : ss.length ≤ 1048576) (hp : nonneg ss) (hc : Stmts w v ss), Calls Tryz.prog 83 #[v] w fun e w' => e = .returned (.bool (fitB ss)) ∧ Below w.heap.size w w') := ih
 have HP : Hid (nonneg ss) := hp
 have HN : Hid (Stmts w v ss) := hc
 obtain ⟨a, cap, rfl, hcl, hcm, hc⟩ := hc
 have HC : Hid (0 < ss.length → ∃ b off, a = some ⟨b, off, none⟩ ∧ StmtsC w b off ss) := hc
 clear hc ih hp
 go_enter Tryz.func83, Tryz.ntmps83
 go_wp2_with fail
 go_loopw [3] (fun i wr => ∃ k : Nat, k ≤ ss.length ∧ i = .int .i64 k ∧ fitB ss = fitB (ss.drop k) ∧ Below w.heap.size w wr) (fun i _ => ss.length - (RowKit.intOf i).toNat)
 case atStart => exact ⟨0, Nat.zero_le _, rfl, rfl, Below.refl _ _⟩
 case round =>
  obtain ⟨k, hk, rfl, hfit, hB⟩ := hrel
  have HF : Hid (fitB ss = fitB (ss.drop k)) := hfit
  clear hfit
  by_cases hlt : k < ss.length
  case neg =>
   go_wp2_with fail
   go_ret
   exact ⟨ret_bool (by rw [HF.out, List.drop_of_length_le (by omega)]; rfl), hB⟩
  case pos =>
   obtain ⟨b, off, rfl, hs⟩ := HC.out (by omega)
   obtain ⟨ve, vf, ⟨c0, c1, c2, c3, c4, c5⟩, he, hf⟩ := (hs.below hB) k hlt
   have HFC : Hid _ := (HF.out.trans (congrArg fitB (List.drop_eq_getElem_cons hlt))).trans (fitB_cons ss[k] (ss.drop (k + 1)))
   have hnn := HP.out ss[k] (List.getElem_mem hlt)
   obtain ⟨a2, k2, rfl, -, -, -⟩ := he
   obtain ⟨a3, k3, rfl, -, -, -⟩ := hf
   clear hs HC HF
   generalize hr : ss.drop (k + 1) = r at HFC
   have hrl : r.length + k + 1 = ss.length := by rw [← hr]; simp; omega
   generalize ss[k].kind = kI at c0
   generalize ss[k].name = nI at c1
   generalize ss[k].thn = tI at c4 HFC hnn
   generalize ss[k].els = lI at c5 HFC hnn
   generalize ss[k].e.length = n2 at c2
   generalize ss[k].f.length = n3 at c3
   obtain ⟨tn, rfl⟩ := Int.eq_ofNat_of_zero_le hnn.1
   obtain ⟨ln, rfl⟩ := Int.eq_ofNat_of_zero_le hnn.2
   clear hnn
   have HR : Hid (ss.drop (k + 1) = r) := hr
   have HRL : Hid (r.length + k + 1 = ss.length) := hrl
   have hB1 : Below w.heap.size w (wr.alloc (.cells #[.int .i64 kI, .string nI, .slice a2 n2 k2, .slice a3 n3 k3, .int .i64 tn, .int .i64 ln] 88)) := hB.alloc hB.size _
   clear hr
   by_cases q2 : (ss.length : Int) - k - 1 < tn
   ·clear hrl
    go_wp2_with fail
    go_ret
    exact ⟨ret_bool (by have := HRL.out; rw [HFC.out, decide_eq_false (by omega)]; rfl), hB1⟩
   by_cases q4 : (ss.length : Int) - k - 1 - tn < ln
   ·clear hrl
    go_wp2_with fail
    go_ret
    exact ⟨ret_bool (by have := HRL.out; rw [HFC.out, decide_eq_false (by omega)]; rfl), hB1⟩
   have hlt2 : k + 1 + tn + ln ≤ ss.length := by omega
   have HC1 : Hid (fitB ss = (fitB (r.take tn) && (fitB ((r.take (tn + ln)).drop tn) && fitB (r.drop (tn + ln))))) := by
    show _ = _
    rw [HFC.out, decide_eq_true (by omega)]; simp
   have HE1 : Hid ((ss.take (k + 1 + tn)).drop (k + 1) = r.take tn) := by
    show _ = _
    rw [← HR.out, List.drop_take]; congr 1; omega
   have HE2 : Hid ((ss.take (k + 1 + tn + ln)).drop (k + 1 + tn) = (r.take (tn + ln)).drop tn) := by
    show _ = _
    rw [← HR.out, List.drop_take, List.drop_take, List.drop_drop]; congr 1; omega
   have HE3 : Hid (ss.drop (k + 1 + tn + ln) = r.drop (tn + ln)) := by
    show _ = _
    rw [← HR.out, List.drop_drop]; congr 1; omega
   obtain ⟨a5, k5, hr5, hs5⟩ : ∃ a5 k5, (∀ w : World, (Instr.slice 59 (.slice (some ⟨b, off, none⟩) ss.length cap) (some (.int .i64 ((k : Int) + 1))) (some (.int .i64 ((k : Int) + 1 + (tn : Int)))) none).run Tryz.prog w = .ok (.slice a5 tn k5) w) ∧ Stmts w (.slice a5 tn k5) (r.take tn) := by
    have h := cut_run2 (some ⟨b, off, none⟩) ss.length cap (k + 1) (k + 1 + tn) (by omega) (by omega) (by omega) ((k : Int) + 1) ((k : Int) + 1 + (tn : Int)) (by omega) (by omega)
    have h' := HN.out.cut (k + 1) (k + 1 + tn) (by omega) (by omega)
    rw [show k + 1 + tn - (k + 1) = tn by omega] at h h'
    rw [HE1.out] at h'
    exact ⟨_, _, h, h'⟩
   have HS5 : Hid (Stmts w (.slice a5 tn k5) (r.take tn)) := hs5
   clear hs5 HFC hrl
   go_wp2_with fail
   refine (IH.out _ (r.take tn) _ (by have := HRL.out; simp; omega) (by have := HRL.out; simp; omega) (by rw [← HR.out]; exact (HP.out.drop _).take _) (HS5.out.below hB1)).mono ?_
   rintro e w1 ⟨rfl, hb1⟩
   have hb1' : Below (wr.heap.size + 1) (wr.alloc (.cells #[.int .i64 kI, .string nI, .slice a2 n2 k2, .slice a3 n3 k3, .int .i64 tn, .int .i64 ln] 88)) w1 := hb1.mono (by simp)
   have hB2 := hB.trans ((one_below hb1').mono hB.size)
   obtain ⟨x0, x1, x2, x3, x4, x5⟩ := box6 hb1'
   clear hb1 hr5 HS5
   cases hf1 : fitB (r.take tn)
   ·go_wp2_with fail
    go_ret
    exact ⟨ret_bool (by rw [HC1.out, hf1]; rfl), hB2⟩
   obtain ⟨a6, k6, hr6, hs6⟩ : ∃ a6 k6, (∀ w : World, (Instr.slice 59 (.slice (some ⟨b, off, none⟩) ss.length cap) (some (.int .i64 ((k : Int) + 1 + (tn : Int)))) (some (.int .i64 ((k : Int) + 1 + (tn : Int) + (ln : Int)))) none).run Tryz.prog w = .ok (.slice a6 ln k6) w) ∧ Stmts w (.slice a6 ln k6) ((r.take (tn + ln)).drop tn) := by
    have h := cut_run2 (some ⟨b, off, none⟩) ss.length cap (k + 1 + tn) (k + 1 + tn + ln) (by omega) (by omega) (by omega) ((k : Int) + 1 + (tn : Int)) ((k : Int) + 1 + (tn : Int) + (ln : Int)) (by omega) (by omega)
    have h' := HN.out.cut (k + 1 + tn) (k + 1 + tn + ln) (by omega) (by omega)
    rw [show k + 1 + tn + ln - (k + 1 + tn) = ln by omega] at h h'
    rw [HE2.out] at h'
    exact ⟨_, _, h, h'⟩
   have HS6 : Hid (Stmts w (.slice a6 ln k6) ((r.take (tn + ln)).drop tn)) := hs6
   clear hs6
   go_wp2_with fail
   refine (IH.out _ ((r.take (tn + ln)).drop tn) _ (by have := HRL.out; simp; omega) (by have := HRL.out; simp; omega) (by rw [← HR.out]; exact ((HP.out.drop _).take _).drop _) (HS6.out.below hB2)).mono ?_
   rintro e w2 ⟨rfl, hb2⟩
   have hb2' := hb1'.trans (hb2.mono (by have := hb1'.size; simp at this; omega))
   have hB3 := hB.trans ((one_below hb2').mono hB.size)
   clear x0 x1 x2 x3 x4 x5 hr6
   obtain ⟨x0, x1, x2, x3, x4, x5⟩ := box6 hb2'
   cases hf2 : fitB ((r.take (tn + ln)).drop tn)
   ·go_wp2_with fail
    go_ret
    exact ⟨ret_bool (by rw [HC1.out, hf1, hf2]; rfl), hB3⟩
   go_wp2_with fail
   go_roundw
   case rel => exact ⟨k + 1 + tn + ln, by omega, by go_num, by rw [HC1.out, hf1, hf2, HE3.out]; rfl, hB3⟩
   case measure => simp [RowKit.intOf]; omega
end
section
open Go.RowKit
set_option maxHeartbeats 1000000 in
theorem gstmtX (k : Int) (s : ByteArray) (ve vf : Value) (es fs : List Nd) (t l : Int) (w : World) (hk : k < 1 ∨ 8 < k) (he : Nodes w ve es) (hf : Nodes w vf fs) :
  Calls Tryz.prog 82 #[.agg #[.int .i64 k, .string s, ve, vf, .int .i64 t, .int .i64 l]] w fun e w' => e = .returned (.bool (gstmtB ⟨k, s, es, fs, t, l⟩)) ∧ Below w.heap.size w w' := by
 obtain ⟨ae, ce, rfl, -, -, -⟩ := he
 obtain ⟨af, cf, rfl, -, -, -⟩ := hf
 have hd : decide (1 ≤ k ∧ k ≤ 8) = false := by simp; omega
 have hs : gstmtB ⟨k, s, es, fs, t, l⟩ = false := by
  simp only [gstmtB, stmtB, hd, Bool.false_and]
 rw [hs]
 have h1 : (k == 1) = false := by simp; omega
 have h2 : (k == 2) = false := by simp; omega
 have h3 : (k == 3) = false := by simp; omega
 have HD : Hid (decide (1 ≤ k ∧ k ≤ 8) = false) := hd
 clear hs hd hk
 go_enter Tryz.func82, Tryz.ntmps82
 go_wp2_with (go_at_call 49; refine (in_any _ _ _ _).mono ?_; rintro e w' ⟨rfl, rfl⟩; rw [HD.out])
 go_ret
 exact ⟨rfl, (Below.refl _ _).alloc (Nat.le_refl _) _⟩
theorem gstmt_any (s : St) (ve vf : Value) (w : World) (hle : s.e.length ≤ 2000) (hlf : s.f.length ≤ 2000) (he : Nodes w ve s.e) (hf : Nodes w vf s.f) :
  Calls Tryz.prog 82 #[.agg #[.int .i64 s.kind, .string s.name, ve, vf, .int .i64 s.thn, .int .i64 s.els]] w fun e w' => e = .returned (.bool (gstmtB s)) ∧ Below w.heap.size w w' := by
 obtain ⟨k, s, es, fs, t, l⟩ := s
 by_cases hk : k < 1 ∨ 8 < k
 ·exact gstmtX k s ve vf es fs t l w hk he hf
 have h9 : k = 1 ∨ k = 2 ∨ k = 3 ∨ k = 4 ∨ k = 5 ∨ k = 6 ∨ k = 7 ∨ k = 8 := by omega
 rcases h9 with rfl | rfl | rfl | rfl | rfl | rfl | rfl | rfl
 ·exact gstmt1 s ve vf es fs t l w hle hlf he hf
 ·exact gstmt2 s ve vf es fs t l w hle hlf he hf
 ·exact gstmt3 s ve vf es fs t l w hle hlf he hf
 ·exact gstmt4 s ve vf es fs t l w hle hlf he hf
 ·exact gstmt5 s ve vf es fs t l w hle hlf he hf
 ·exact gstmt6 s ve vf es fs t l w hle hlf he hf
 ·exact gstmt7 s ve vf es fs t l w hle hlf he hf
 ·exact gstmt8 s ve vf es fs t l w hle hlf he hf
end
section
open Go.RowKit
structure SV where
 s : St
 ve : Value
 vf : Value
 ke : List Nat
 kf : List Nat
def cellsS (q : SV) : List Value := [.int .i64 q.s.kind, .string q.s.name, q.ve, q.vf, .int .i64 q.s.thn, .int .i64 q.s.els]
def flatS (R : List SV) : List Value := R.flatMap cellsS
theorem flatS_len (R : List SV) : (flatS R).length = R.length * 6 := by
 induction R with
 | nil => rfl
 | cons a r ih =>
  have : (flatS (a :: r)).length = 6 + (flatS r).length := by simp [flatS, cellsS]; omega
  rw [this, ih, List.length_cons]
  omega
theorem flatS_append (a b : List SV) : flatS (a ++ b) = flatS a ++ flatS b := by simp [flatS]
theorem flatS_get : ∀ (R : List SV) (j i : Nat) (hj : j < R.length), i < 6 → (flatS R)[j * 6 + i]? = (cellsS R[j])[i]?
 | x :: l, 0, i, _, hi => by
  have : (cellsS x).length = 6 := rfl
  show (cellsS x ++ flatS l)[0 * 6 + i]? = _
  rw [List.getElem?_append_left (by omega)]
  simp
 | x :: l, j + 1, i, hj, hi => by
  have h7 : (cellsS x).length = 6 := rfl
  show (cellsS x ++ flatS l)[(j + 1) * 6 + i]? = _
  rw [List.getElem?_append_right (by omega)]
  have e : (j + 1) * 6 + i - (cellsS x).length = j * 6 + i := by omega
  rw [e, flatS_get l j i (by simpa using hj) hi]
  simp
theorem flatS_one (R : List SV) (h : ∀ q ∈ R, q.ve.oneCell' = true ∧ q.vf.oneCell' = true) : ∀ u ∈ flatS R, u.oneCell' = true := by
 intro u hu
 simp only [flatS, List.mem_flatMap] at hu
 obtain ⟨q, hq, hu⟩ := hu
 obtain ⟨h1, h2⟩ := h q hq
 simp only [cellsS, List.mem_cons, List.not_mem_nil, or_false] at hu
 rcases hu with rfl | rfl | rfl | rfl | rfl | rfl
 ·rfl
 ·rfl
 ·exact h1
 ·exact h2
 ·rfl
 ·rfl
theorem info_stmt : (Tryz.prog.info? 88).map (fun i => (i.zero, i.size, i.bytes)) = some (some (.agg #[.int .i64 0, .string ⟨#[]⟩, .slice none 0 0, .slice none 0 0, .int .i64 0, .int .i64 0]), 6, 88) := by kernel_rfl
theorem Nodes.cell1 {w : World} {v : Value} {ns : List Nd} (h : Nodes w v ns) : v.oneCell' = true := by
 obtain ⟨a, c, rfl, -⟩ := h
 rfl
end
section
open Go.RowKit
set_option maxHeartbeats 1000000 in
theorem exprs_any (k t l : Int) (nm : ByteArray) (ae af : Option Addr) (ne ce nf cf : Nat) (w : World) :
  Calls Tryz.prog 66 #[.agg #[.int .i64 k, .string nm, .slice ae ne ce, .slice af nf cf, .int .i64 t, .int .i64 l]] w fun e w' => e = .returned (.agg #[.slice ae ne ce, .slice af nf cf]) ∧ Below w.heap.size w w' := by
 go_enter Tryz.func66, Tryz.ntmps66
 go_wp2_with fail
 exact bodyPost_ret (v := .agg #[.slice ae ne ce, .slice af nf cf]) (by simp [results, Tryz.results66, go_sem]) rfl ⟨rfl, ((Below.refl _ _).alloc (Nat.le_refl _) _).alloc (by simp) _⟩
theorem idx1 (u v : Value) (W : World) : (Instr.index 121 (.agg #[u, v]) (.int .i64 ((1 : Nat) : Int))).run Tryz.prog W = .ok v W := by
 simp [Instr.index, go_sem]
theorem idx0 (u v : Value) (W : World) : (Instr.index 121 (.agg #[u, v]) (.int .i64 ((0 : Nat) : Int))).run Tryz.prog W = .ok u W := by
 simp [Instr.index, go_sem]
end
section
open Go.RowKit
def StrsC (w : World) (b off : Nat) (ps : List ByteArray) : Prop := ∀ j (h : j < ps.length), w.cell? ⟨b, off + j, none⟩ = some (.string ps[j])
theorem StrsC.below {w w' : World} {b off : Nat} {ps : List ByteArray} (h : StrsC w b off ps) (hb : Below w.heap.size w w') : StrsC w' b off ps := by
 intro j hj
 have c := h j hj
 exact (hb.cell (World.block_lt_of_cell? _ _ c)).trans c
def Strs (w : World) (v : Value) (ps : List ByteArray) : Prop := ∃ a cap, v = .slice a ps.length cap ∧ ps.length ≤ cap ∧ cap ≤ 9223372036854775807 ∧ (0 < ps.length → ∃ b off, a = some ⟨b, off, none⟩ ∧ StrsC w b off ps)
theorem Strs.below {w w' : World} {v : Value} {ps : List ByteArray} (h : Strs w v ps) (hb : Below w.heap.size w w') : Strs w' v ps := by
 obtain ⟨a, cap, rfl, hl, hm, h⟩ := h
 refine ⟨a, cap, rfl, hl, hm, fun h0 => ?_⟩
 obtain ⟨b, off, rfl, hc⟩ := h h0
 exact ⟨b, off, rfl, hc.below hb⟩
set_option maxHeartbeats 2000000 in
theorem vfunc_any (f : Fu) (vp vb : Value) (w : World) (hT : Tab w) (hf : smallF f) (hp : Strs w vp f.params) (hb : Stmts w vb f.body) :
  Calls Tryz.prog 65 #[.agg #[.string f.name, vp, vb]] w fun e w' => e = .returned (.bool (funcB f)) ∧ Below w.heap.size w w' := by
 obtain ⟨name, ps, ss⟩ := f
 simp only at hp hb ⊢
 have HP : Hid (Strs w vp ps) := hp
 have HS : Hid (Stmts w vb ss) := hb
 have HT : Hid (Tab w) := hT
 have HF : Hid (ps.length ≤ 1048576 ∧ ss.length ≤ 1048576 ∧ ∀ s ∈ ss, smallS s) := hf
 have hpl : ps.length ≤ 1048576 := HF.out.1
 have hsl : ss.length ≤ 1048576 := HF.out.2.1
 obtain ⟨ap, cp, rfl, -, -, hpc⟩ := hp
 obtain ⟨ab, cb, rfl, -, -, hbc⟩ := hb
 have HPC : Hid (0 < ps.length → ∃ b off, ap = some ⟨b, off, none⟩ ∧ StrsC w b off ps) := hpc
 have HBC : Hid (0 < ss.length → ∃ b off, ab = some ⟨b, off, none⟩ ∧ StmtsC w b off ss) := hbc
 clear hpc hbc hf hT
 go_enter Tryz.func65, Tryz.ntmps65
 go_wp2_with fail
 refine (vname_any _ _).mono ?_
 rintro e w1 ⟨rfl, hb1⟩
 simp only [World.size_alloc] at hb1
 have hB1 := one_below hb1
 obtain ⟨x0, x1, x2⟩ := box3 hb1
 cases hn : nameB name
 ·go_wp2_with fail
  go_ret
  exact ⟨ret_bool (by simp only [funcB, hn, Bool.false_and]), hB1⟩
 by_cases h6 : 6 < ps.length
 ·go_wp2_with fail
  go_ret
  exact ⟨ret_bool (by simp only [funcB, hn, decide_eq_false (show ¬ ps.length ≤ 6 by omega), Bool.false_and, Bool.and_false]), hB1⟩
 by_cases h5 : 500 < ss.length
 ·go_wp2_with fail
  go_ret
  exact ⟨ret_bool (by simp only [funcB, hn, decide_eq_false (show ¬ ss.length ≤ 500 by omega), Bool.false_and, Bool.and_false]), hB1⟩
 have HFB : Hid (funcB ⟨name, ps, ss⟩ = (ps.all nameB && (stmtsB stmtB ss && fitB ss))) := by
  show _ = _
  simp only [funcB, hn, decide_eq_true (show ps.length ≤ 6 by omega), decide_eq_true (show ss.length ≤ 500 by omega), Bool.true_and]
 go_wp2_with fail
 clear x0 x1 x2
 go_loopw [27] (fun i wr => ∃ k : Nat, k ≤ ps.length ∧ i = .int .i64 k ∧ (∀ s ∈ ps.take k, nameB s = true) ∧ Below (w.heap.size + 1) (w.alloc (.cells #[.string name, .slice ap ps.length cp, .slice ab ss.length cb] 61)) wr) (fun i _ => ps.length - (RowKit.intOf i).toNat)
 case atStart => exact ⟨0, Nat.zero_le _, rfl, by simp, hb1⟩
 case round =>
  obtain ⟨k, hk, rfl, hg, hB⟩ := hrel
  have HG : Hid (∀ s ∈ ps.take k, nameB s = true) := hg
  clear hg hb1 hB1
  have hBw := one_below hB
  by_cases hlt : k < ps.length
  ·obtain ⟨b, off, rfl, hc⟩ := HPC.out (by omega)
   have d0 := (hc.below hBw) k hlt
   have HE : Hid (ps.take (k + 1) = ps.take k ++ [ps[k]]) := take_succ ps k hlt
   have HX : Hid (nameB ps[k] = false → ps.all nameB = false) := all_bad hlt
   clear hc
   generalize ps[k] = s at d0 HE HX
   go_wp2_with fail
   refine (vname_any _ _).mono ?_
   rintro e w2 ⟨rfl, hb2⟩
   have hB2 := hB.trans (hb2.mono (by have := hB.size; simp at this; omega))
   clear d0
   cases hv : nameB s
   ·go_wp2_with fail
    go_ret
    exact ⟨ret_bool (by rw [HFB.out, HX.out hv]; rfl), one_below hB2⟩
   ·go_wp2_with fail
    go_roundw
    case rel =>
     refine ⟨k + 1, by omega, by go_num, fun m hm => ?_, hB2⟩
     rw [HE.out] at hm
     rcases List.mem_append.1 hm with hm | hm
     ·exact HG.out m hm
     ·rw [List.mem_singleton.1 hm]; exact hv
    case measure => simp [RowKit.intOf]; omega
  ·have HA : Hid (ps.all nameB = true) := by
    show _ = _
    rw [List.all_eq_true]
    have := HG.out
    rw [List.take_of_length_le (by omega)] at this
    exact this
   clear HG HPC
   obtain ⟨x0, x1, x2⟩ := box3 hB
   go_wp2_with fail
   clear x0 x1 x2
   go_loopw [5, 38] (fun q i wr => ∃ k : Nat, k ≤ ss.length ∧ i = .int .i64 k ∧ q = .int .i64 (nodeSum (ss.take k) : Nat) ∧ nodeSum (ss.take k) ≤ 2000 ∧ (∀ s ∈ ss.take k, stmtB s = true) ∧ Below (w.heap.size + 1) (w.alloc (.cells #[.string name, .slice ap ps.length cp, .slice ab ss.length cb] 61)) wr) (fun _ i _ => ss.length - (RowKit.intOf i).toNat)
   case atStart => exact ⟨0, Nat.zero_le _, rfl, rfl, by simp [nodeSum], by simp, hB⟩
   case round =>
    clear hB hBw hlt
    obtain ⟨k, hk, rfl, rfl, hq, hg, hB⟩ := hrel
    have HG : Hid (∀ s ∈ ss.take k, stmtB s = true) := hg
    clear hg
    have hBw := one_below hB
    by_cases hlt : k < ss.length
    ·obtain ⟨b, off, rfl, hc⟩ := HBC.out (by omega)
     obtain ⟨ve, vf, ⟨c0, c1, c2, c3, c4, c5⟩, he, hf⟩ := (hc.below hBw) k hlt
     have HE : Hid (ss.take (k + 1) = ss.take k ++ [ss[k]]) := take_succ ss k hlt
     have HX : Hid (stmtB ss[k] = false → stmtsB stmtB ss = false) := stmtsB_bad hlt
     have HQ : Hid _ := nodeSum_step ss k hlt
     have HY : Hid (2000 < nodeSum (ss.take (k + 1)) → stmtsB stmtB ss = false) := stmtsB_sum
     have hsm := HF.out.2.2 ss[k] (List.getElem_mem hlt)
     clear hc
     generalize ss[k] = s at c0 c1 c2 c3 c4 c5 he hf HE HX HQ hsm
     generalize nodeSum (ss.take k) = q at hq HQ
     have HNE : Hid (Nodes wr ve s.e) := he
     have HNF : Hid (Nodes wr vf s.f) := hf
     obtain ⟨a2, k2, rfl, -, -, -⟩ := he
     obtain ⟨a3, k3, rfl, -, -, -⟩ := hf
     have hs1 := hsm.1
     have hs2 := hsm.2
     clear hsm
     by_cases hs : 2000 < q + (s.e.length + s.f.length)
     ·go_wp2_with fail
      go_ret
      exact ⟨ret_bool (by rw [HFB.out, HY.out (by rw [HQ.out]; omega)]; simp), hBw.alloc hBw.size _⟩
     ·have hBx : Below wr.heap.size wr (wr.alloc (.cells #[.int .i64 s.kind, .string s.name, .slice a2 s.e.length k2, .slice a3 s.f.length k3, .int .i64 s.thn, .int .i64 s.els] 88)) := (Below.refl _ _).alloc (Nat.le_refl _) _
      go_wp2_with fail
      refine (vstmt_any s _ _ _ ((HT.out.below HT.out.size hBw).below (HT.out.below HT.out.size hBw).size hBx) hs1 hs2 (HNE.out.below hBx) (HNF.out.below hBx)).mono ?_
      rintro e w2 ⟨rfl, hb2⟩
      have hBx2 := hBx.trans (hb2.mono hBx.size)
      have hB2 := hB.trans (hBx2.mono (by have := hB.size; simp at this; omega))
      clear c0 c1 c2 c3 c4 c5 hb2
      cases hv : stmtB s
      ·go_wp2_with fail
       go_ret
       exact ⟨ret_bool (by rw [HFB.out, HX.out hv]; simp), one_below hB2⟩
      ·go_wp2_with fail
       go_roundw
       case rel =>
        refine ⟨k + 1, by omega, by go_num, ?_, by rw [HQ.out]; omega, fun m hm => ?_, hB2⟩
        ·rw [HQ.out]; congr 1; omega
        ·rw [HE.out] at hm
         rcases List.mem_append.1 hm with hm | hm
         ·exact HG.out m hm
         ·rw [List.mem_singleton.1 hm]; exact hv
       case measure => simp [RowKit.intOf]; omega
    ·have HA2 : Hid (stmtsB stmtB ss = true) := by
      show _ = _
      have h1 := HG.out
      rw [List.take_of_length_le (by omega)] at h1 hq
      exact stmtsB_ok hq h1
     obtain ⟨x0, x1, x2⟩ := box3 hB
     go_wp2_with fail
     refine (fit_any ss.length _ ss _ (Nat.le_refl _) hsl (HS.out.below hBw)).mono ?_
     rintro e w2 ⟨rfl, hb2⟩
     clear x0 x1 x2
     go_wp2_with fail
     go_ret
     exact ⟨ret_bool (by rw [HFB.out, HA.out, HA2.out]; rfl), hBw.trans (hb2.mono hBw.size)⟩
end
section
open Go.RowKit
set_option maxHeartbeats 2000000 in
theorem gfunc_any (f : Fu) (vp vb : Value) (w : World) (hf : smallF f) (hp : Strs w vp f.params) (hb : Stmts w vb f.body) :
  Calls Tryz.prog 50 #[.agg #[.string f.name, vp, vb]] w fun e w' => e = .returned (.bool (funcB f)) ∧ Below w.heap.size w w' := by
 obtain ⟨name, ps, ss⟩ := f
 simp only at hp hb ⊢
 have HP : Hid (Strs w vp ps) := hp
 have HS : Hid (Stmts w vb ss) := hb
 have HF : Hid (ps.length ≤ 1048576 ∧ ss.length ≤ 1048576 ∧ ∀ s ∈ ss, smallS s) := hf
 have hpl : ps.length ≤ 1048576 := HF.out.1
 have hsl : ss.length ≤ 1048576 := HF.out.2.1
 obtain ⟨ap, cp, rfl, -, -, hpc⟩ := hp
 obtain ⟨ab, cb, rfl, -, -, hbc⟩ := hb
 have HPC : Hid (0 < ps.length → ∃ b off, ap = some ⟨b, off, none⟩ ∧ StrsC w b off ps) := hpc
 have HBC : Hid (0 < ss.length → ∃ b off, ab = some ⟨b, off, none⟩ ∧ StmtsC w b off ss) := hbc
 clear hpc hbc hf
 go_enter Tryz.func50, Tryz.ntmps50
 go_wp2_with fail
 refine (name_any _ _).mono ?_
 rintro e w1 ⟨rfl, rfl⟩
 have hb1 : Below (w.heap.size + 1) (w.alloc (.cells #[.string name, .slice ap ps.length cp, .slice ab ss.length cb] 61)) (w.alloc (.cells #[.string name, .slice ap ps.length cp, .slice ab ss.length cb] 61)) := Below.refl _ _
 have hB1 := one_below hb1
 obtain ⟨x0, x1, x2⟩ := box3 hb1
 cases hn : nameB name
 ·go_wp2_with fail
  go_ret
  exact ⟨ret_bool (by simp only [funcB, hn, Bool.false_and]), hB1⟩
 by_cases h6 : 6 < ps.length
 ·go_wp2_with fail
  go_ret
  exact ⟨ret_bool (by simp only [funcB, hn, decide_eq_false (show ¬ ps.length ≤ 6 by omega), Bool.false_and, Bool.and_false]), hB1⟩
 by_cases h5 : 500 < ss.length
 ·go_wp2_with fail
  go_ret
  exact ⟨ret_bool (by simp only [funcB, hn, decide_eq_false (show ¬ ss.length ≤ 500 by omega), Bool.false_and, Bool.and_false]), hB1⟩
 have HFB : Hid (funcB ⟨name, ps, ss⟩ = (ps.all nameB && (stmtsB gstmtB ss && fitB ss))) := by
  show _ = _
  rw [gstmts_fit]
  simp only [funcB, hn, decide_eq_true (show ps.length ≤ 6 by omega), decide_eq_true (show ss.length ≤ 500 by omega), Bool.true_and]
 go_wp2_with fail
 clear x0 x1 x2
 go_loopw [3] (fun i wr => ∃ k : Nat, k ≤ ps.length ∧ i = .int .i64 k ∧ (∀ s ∈ ps.take k, nameB s = true) ∧ Below (w.heap.size + 1) (w.alloc (.cells #[.string name, .slice ap ps.length cp, .slice ab ss.length cb] 61)) wr) (fun i _ => ps.length - (RowKit.intOf i).toNat)
 case atStart => exact ⟨0, Nat.zero_le _, rfl, by simp, hb1⟩
 case round =>
  obtain ⟨k, hk, rfl, hg, hB⟩ := hrel
  have HG : Hid (∀ s ∈ ps.take k, nameB s = true) := hg
  clear hg hb1 hB1
  have hBw := one_below hB
  by_cases hlt : k < ps.length
  ·obtain ⟨b, off, rfl, hc⟩ := HPC.out (by omega)
   have d0 := (hc.below hBw) k hlt
   have HE : Hid (ps.take (k + 1) = ps.take k ++ [ps[k]]) := take_succ ps k hlt
   have HX : Hid (nameB ps[k] = false → ps.all nameB = false) := all_bad hlt
   clear hc
   generalize ps[k] = s at d0 HE HX
   obtain ⟨x0, x1, x2⟩ := box3 hB
   have hB2 := hB
   cases hv : nameB s
   ·go_wp2_with (go_at_call 48; refine (name_any _ _).mono ?_; rintro e w' ⟨rfl, rfl⟩; rw [hv])
    go_ret
    exact ⟨ret_bool (by rw [HFB.out, HX.out hv]; rfl), one_below hB2⟩
   ·go_wp2_with (go_at_call 48; refine (name_any _ _).mono ?_; rintro e w' ⟨rfl, rfl⟩; rw [hv])
    go_roundw
    case rel =>
     refine ⟨k + 1, by omega, by go_num, fun m hm => ?_, hB2⟩
     rw [HE.out] at hm
     rcases List.mem_append.1 hm with hm | hm
     ·exact HG.out m hm
     ·rw [List.mem_singleton.1 hm]; exact hv
    case measure => simp [RowKit.intOf]; omega
  ·have HA : Hid (ps.all nameB = true) := by
    show _ = _
    rw [List.all_eq_true]
    have := HG.out
    rw [List.take_of_length_le (by omega)] at this
    exact this
   clear HG HPC
   obtain ⟨x0, x1, x2⟩ := box3 hB
   go_wp2_with fail
   clear x0 x1 x2
   go_loopw [4, 5] (fun q i wr => ∃ k : Nat, k ≤ ss.length ∧ i = .int .i64 k ∧ q = .int .i64 (nodeSum (ss.take k) : Nat) ∧ nodeSum (ss.take k) ≤ 2000 ∧ (∀ s ∈ ss.take k, gstmtB s = true) ∧ Below (w.heap.size + 1) (w.alloc (.cells #[.string name, .slice ap ps.length cp, .slice ab ss.length cb] 61)) wr) (fun _ i _ => ss.length - (RowKit.intOf i).toNat)
   case atStart => exact ⟨0, Nat.zero_le _, rfl, rfl, by simp [nodeSum], by simp, hB⟩
   case round =>
    clear hB hBw hlt
    obtain ⟨k, hk, rfl, rfl, hq, hg, hB⟩ := hrel
    have HG : Hid (∀ s ∈ ss.take k, gstmtB s = true) := hg
    clear hg
    have hBw := one_below hB
    by_cases hlt : k < ss.length
    ·obtain ⟨b, off, rfl, hc⟩ := HBC.out (by omega)
     obtain ⟨ve, vf, ⟨c0, c1, c2, c3, c4, c5⟩, he, hf⟩ := (hc.below hBw) k hlt
     have HE : Hid (ss.take (k + 1) = ss.take k ++ [ss[k]]) := take_succ ss k hlt
     have HX : Hid (gstmtB ss[k] = false → stmtsB gstmtB ss = false) := stmtsB_bad hlt
     have HQ : Hid _ := nodeSum_step ss k hlt
     have HY : Hid (2000 < nodeSum (ss.take (k + 1)) → stmtsB gstmtB ss = false) := stmtsB_sum
     have hsm := HF.out.2.2 ss[k] (List.getElem_mem hlt)
     clear hc
     generalize ss[k] = s at c0 c1 c2 c3 c4 c5 he hf HE HX HQ hsm
     generalize nodeSum (ss.take k) = q at hq HQ
     have HNE : Hid (Nodes wr ve s.e) := he
     have HNF : Hid (Nodes wr vf s.f) := hf
     obtain ⟨a2, k2, rfl, -, -, -⟩ := he
     obtain ⟨a3, k3, rfl, -, -, -⟩ := hf
     have hs1 := hsm.1
     have hs2 := hsm.2
     clear hsm
     obtain ⟨x0, x1, x2⟩ := box3 hB
     go_wp2_with fail
     go_quiet (fail)
     have hBq : Below (w.heap.size + 1) (w.alloc (.cells #[.string name, .slice ap ps.length cp, .slice (some ⟨b, off, none⟩) ss.length cb] 61)) (wr.drewN nq) := below_drewN hB nq
     have hBwq := one_below hBq
     have hBy : Below wr.heap.size wr (wr.drewN nq) := below_drewN (Below.refl _ _) nq
     by_cases hs : 2000 < q + s.e.length + s.f.length
     ·go_wp2_with fail
      go_ret
      exact ⟨ret_bool (by rw [HFB.out, HY.out (by rw [HQ.out]; omega)]; simp), hBwq⟩
     ·go_wp2_with fail
      refine (gstmt_any s _ _ _ (by omega) (by omega) (HNE.out.below hBy) (HNF.out.below hBy)).mono ?_
      rintro e w2 ⟨rfl, hb2⟩
      have hB2 := hBq.trans (hb2.mono (by have := hBq.size; simp at this; simp; omega))
      clear c0 c1 c2 c3 c4 c5 hb2
      cases hv : gstmtB s
      ·go_wp2_with fail
       go_ret
       exact ⟨ret_bool (by rw [HFB.out, HX.out hv]; simp), one_below hB2⟩
      ·go_wp2_with fail
       go_roundw
       case rel =>
        refine ⟨k + 1, by omega, by go_num, ?_, by rw [HQ.out]; omega, fun m hm => ?_, hB2⟩
        ·rw [HQ.out]; congr 1
        ·rw [HE.out] at hm
         rcases List.mem_append.1 hm with hm | hm
         ·exact HG.out m hm
         ·rw [List.mem_singleton.1 hm]; exact hv
       case measure => simp [RowKit.intOf]; omega
    ·have HA2 : Hid (stmtsB gstmtB ss = true) := by
      show _ = _
      have h1 := HG.out
      rw [List.take_of_length_le (by omega)] at h1 hq
      exact stmtsB_ok hq h1
     have HNN : Hid (nonneg ss) := by
      have h1 := HG.out
      rw [List.take_of_length_le (by omega)] at h1
      exact gstmts_nonneg h1
     obtain ⟨x0, x1, x2⟩ := box3 hB
     go_wp2_with fail
     refine (shaped_any ss.length _ ss _ (Nat.le_refl _) hsl HNN.out (HS.out.below hBw)).mono ?_
     rintro e w2 ⟨rfl, hb2⟩
     clear x0 x1 x2
     go_wp2_with fail
     go_ret
     exact ⟨ret_bool (by rw [HFB.out, HA.out, HA2.out]; rfl), hBw.trans (hb2.mono hBw.size)⟩
end
section
open Go.RowKit
def GlobsC (w : World) (b off : Nat) (gs : List Gl) : Prop := ∀ j (h : j < gs.length), w.cell? ⟨b, off + j * 2, none⟩ = some (.string gs[j].name) ∧ w.cell? ⟨b, off + j * 2 + 1, none⟩ = some (.int .i64 gs[j].size)
theorem GlobsC.below {w w' : World} {b off : Nat} {gs : List Gl} (h : GlobsC w b off gs) (hb : Below w.heap.size w w') : GlobsC w' b off gs := by
 intro j hj
 obtain ⟨c0, c1⟩ := h j hj
 have hlt := World.block_lt_of_cell? _ _ c0
 exact ⟨(hb.cell (p := ⟨b, off + j * 2, none⟩) hlt).trans c0, (hb.cell (p := ⟨b, off + j * 2 + 1, none⟩) hlt).trans c1⟩
def Globs (w : World) (v : Value) (gs : List Gl) : Prop := ∃ a cap, v = .slice a gs.length cap ∧ gs.length ≤ cap ∧ cap ≤ 9223372036854775807 ∧ (0 < gs.length → ∃ b off, a = some ⟨b, off, none⟩ ∧ GlobsC w b off gs)
theorem Globs.below {w w' : World} {v : Value} {gs : List Gl} (h : Globs w v gs) (hb : Below w.heap.size w w') : Globs w' v gs := by
 obtain ⟨a, cap, rfl, hl, hm, h⟩ := h
 refine ⟨a, cap, rfl, hl, hm, fun h0 => ?_⟩
 obtain ⟨b, off, rfl, hc⟩ := h h0
 exact ⟨b, off, rfl, hc.below hb⟩
def FuncsC (w : World) (b off : Nat) (fs : List Fu) : Prop := ∀ j (h : j < fs.length), ∃ vp vb, (w.cell? ⟨b, off + j * 3, none⟩ = some (.string fs[j].name) ∧ w.cell? ⟨b, off + j * 3 + 1, none⟩ = some vp ∧ w.cell? ⟨b, off + j * 3 + 2, none⟩ = some vb) ∧ Strs w vp fs[j].params ∧ Stmts w vb fs[j].body
theorem FuncsC.below {w w' : World} {b off : Nat} {fs : List Fu} (h : FuncsC w b off fs) (hb : Below w.heap.size w w') : FuncsC w' b off fs := by
 intro j hj
 obtain ⟨vp, vb, ⟨c0, c1, c2⟩, hp, hs⟩ := h j hj
 have hlt := World.block_lt_of_cell? _ _ c0
 exact ⟨vp, vb, ⟨(hb.cell (p := ⟨b, off + j * 3, none⟩) hlt).trans c0, (hb.cell (p := ⟨b, off + j * 3 + 1, none⟩) hlt).trans c1, (hb.cell (p := ⟨b, off + j * 3 + 2, none⟩) hlt).trans c2⟩, hp.below hb, hs.below hb⟩
def Funcs (w : World) (v : Value) (fs : List Fu) : Prop := ∃ a cap, v = .slice a fs.length cap ∧ fs.length ≤ cap ∧ cap ≤ 9223372036854775807 ∧ (0 < fs.length → ∃ b off, a = some ⟨b, off, none⟩ ∧ FuncsC w b off fs)
theorem Funcs.below {w w' : World} {v : Value} {fs : List Fu} (h : Funcs w v fs) (hb : Below w.heap.size w w') : Funcs w' v fs := by
 obtain ⟨a, cap, rfl, hl, hm, h⟩ := h
 refine ⟨a, cap, rfl, hl, hm, fun h0 => ?_⟩
 obtain ⟨b, off, rfl, hc⟩ := h h0
 exact ⟨b, off, rfl, hc.below hb⟩
theorem box2 {w w' : World} {t : TypeId} {x y : Value} (h : Below (w.heap.size + 1) (w.alloc (.cells #[x, y] t)) w') :
  w'.cell? ⟨w.heap.size, 0, none⟩ = some x ∧ w'.cell? ⟨w.heap.size, 1, none⟩ = some y := by
 refine ⟨?_, ?_⟩ <;> (rw [h.cell (by simp)]; simp)
set_option maxHeartbeats 1000000 in
theorem vglob_any (g : Gl) (w : World) : Calls Tryz.prog 64 #[.agg #[.string g.name, .int .i64 g.size]] w fun e w' => e = .returned (.bool (globB g)) ∧ Below w.heap.size w w' := by
 obtain ⟨s, z⟩ := g
 simp only
 go_enter Tryz.func64, Tryz.ntmps64
 go_wp2_with fail
 refine (vname_any _ _).mono ?_
 rintro e w1 ⟨rfl, hb1⟩
 simp only [World.size_alloc] at hb1
 have hB1 := one_below hb1
 obtain ⟨x0, x1⟩ := box2 hb1
 cases hn : nameB s
 ·go_wp2_with fail
  go_ret
  exact ⟨ret_bool (by simp only [globB, hn, Bool.false_and]), hB1⟩
 by_cases h0 : z < 0
 ·go_wp2_with fail
  go_ret
  exact ⟨ret_bool (by simp only [globB, hn]; simp; omega), hB1⟩
 ·go_wp2_with fail
  go_ret
  refine ⟨ret_bool ?_, hB1⟩
  simp only [globB, hn, Bool.true_and]
  apply Bool.eq_iff_iff.2
  simp <;> omega
set_option maxHeartbeats 2000000 in
theorem vtree_any (t : Tr) (vg vf : Value) (w : World) (hT : Tab w) (ht : smallT t) (hg : Globs w vg t.globals) (hf : Funcs w vf t.funcs) :
  Calls Tryz.prog 30 #[.agg #[vg, vf]] w fun e w' => e = .returned (.bool (treeB t)) ∧ Below w.heap.size w w' := by
 obtain ⟨gs, fs⟩ := t
 simp only at hg hf ⊢
 have HT : Hid (Tab w) := hT
 have HS : Hid (gs.length ≤ 1048576 ∧ fs.length ≤ 1048576 ∧ ∀ f ∈ fs, smallF f) := ht
 have hgl : gs.length ≤ 1048576 := HS.out.1
 have hfl : fs.length ≤ 1048576 := HS.out.2.1
 obtain ⟨ag, cg, rfl, -, -, hgc⟩ := hg
 obtain ⟨af, cf, rfl, -, -, hfc⟩ := hf
 have HGC : Hid (0 < gs.length → ∃ b off, ag = some ⟨b, off, none⟩ ∧ GlobsC w b off gs) := hgc
 have HFC : Hid (0 < fs.length → ∃ b off, af = some ⟨b, off, none⟩ ∧ FuncsC w b off fs) := hfc
 clear hgc hfc ht hT
 by_cases h5 : 50 < gs.length
 ·go_enter Tryz.func30, Tryz.ntmps30
  go_wp2_with fail
  go_ret
  exact ⟨ret_bool (by simp only [treeB, decide_eq_false (show ¬ gs.length ≤ 50 by omega), Bool.false_and]), (Below.refl _ _).alloc (Nat.le_refl _) _⟩
 by_cases h6 : 50 < fs.length
 ·go_enter Tryz.func30, Tryz.ntmps30
  go_wp2_with fail
  go_ret
  exact ⟨ret_bool (by simp only [treeB, decide_eq_false (show ¬ fs.length ≤ 50 by omega), Bool.false_and, Bool.and_false]), (Below.refl _ _).alloc (Nat.le_refl _) _⟩
 have HTB : Hid (treeB ⟨gs, fs⟩ = (gs.all globB && fs.all funcB)) := by
  show _ = _
  simp only [treeB, decide_eq_true (show gs.length ≤ 50 by omega), decide_eq_true (show fs.length ≤ 50 by omega), Bool.true_and]
 go_enter Tryz.func30, Tryz.ntmps30
 go_wp2_with fail
 go_loopw [20] (fun i wr => ∃ k : Nat, k ≤ gs.length ∧ i = .int .i64 k ∧ (∀ g ∈ gs.take k, globB g = true) ∧ Below (w.heap.size + 1) (w.alloc (.cells #[.slice ag gs.length cg, .slice af fs.length cf] 26)) wr) (fun i _ => gs.length - (RowKit.intOf i).toNat)
 case atStart => exact ⟨0, Nat.zero_le _, rfl, by simp, Below.refl _ _⟩
 case round =>
  obtain ⟨k, hk, rfl, hg, hB⟩ := hrel
  have HG : Hid (∀ g ∈ gs.take k, globB g = true) := hg
  clear hg
  have hBw := one_below hB
  by_cases hlt : k < gs.length
  ·obtain ⟨b, off, rfl, hc⟩ := HGC.out (by omega)
   obtain ⟨d0, d1⟩ := (hc.below hBw) k hlt
   have HE : Hid (gs.take (k + 1) = gs.take k ++ [gs[k]]) := take_succ gs k hlt
   have HX : Hid (globB gs[k] = false → gs.all globB = false) := allG_bad hlt
   clear hc
   generalize gs[k] = g at d0 d1 HE HX
   go_wp2_with fail
   refine (vglob_any g _).mono ?_
   rintro e w2 ⟨rfl, hb2⟩
   have hB2 := (hB.alloc (by have := hB.size; simp at this; omega) (.cells #[.string g.name, .int .i64 g.size] 78)).trans (hb2.mono (by have := hB.size; simp at this; simp; omega))
   clear d0 d1
   cases hv : globB g
   ·go_wp2_with fail
    go_ret
    exact ⟨ret_bool (by rw [HTB.out, HX.out hv]; rfl), one_below hB2⟩
   ·go_wp2_with fail
    go_roundw
    case rel =>
     refine ⟨k + 1, by omega, by go_num, fun m hm => ?_, hB2⟩
     rw [HE.out] at hm
     rcases List.mem_append.1 hm with hm | hm
     ·exact HG.out m hm
     ·rw [List.mem_singleton.1 hm]; exact hv
    case measure => simp [RowKit.intOf]; omega
  ·have HA : Hid (gs.all globB = true) := by
    show _ = _
    rw [List.all_eq_true]
    have := HG.out
    rw [List.take_of_length_le (by omega)] at this
    exact this
   clear HG HGC
   obtain ⟨x0, x1⟩ := box2 hB
   go_wp2_with fail
   clear x0 x1
   go_loopw [31] (fun i wr => ∃ k : Nat, k ≤ fs.length ∧ i = .int .i64 k ∧ (∀ f ∈ fs.take k, funcB f = true) ∧ Below (w.heap.size + 1) (w.alloc (.cells #[.slice ag gs.length cg, .slice af fs.length cf] 26)) wr) (fun i _ => fs.length - (RowKit.intOf i).toNat)
   case atStart => exact ⟨0, Nat.zero_le _, rfl, by simp, hB⟩
   case round =>
    clear hB hBw hlt
    obtain ⟨k, hk, rfl, hg, hB⟩ := hrel
    have HG : Hid (∀ f ∈ fs.take k, funcB f = true) := hg
    clear hg
    have hBw := one_below hB
    by_cases hlt : k < fs.length
    ·obtain ⟨b, off, rfl, hc⟩ := HFC.out (by omega)
     obtain ⟨vp, vb, ⟨d0, d1, d2⟩, hp, hs⟩ := (hc.below hBw) k hlt
     have HE : Hid (fs.take (k + 1) = fs.take k ++ [fs[k]]) := take_succ fs k hlt
     have HX : Hid (funcB fs[k] = false → fs.all funcB = false) := allF_bad hlt
     have HSM : Hid (smallF fs[k]) := HS.out.2.2 fs[k] (List.getElem_mem hlt)
     clear hc
     generalize fs[k] = f at d0 d1 d2 HE HX HSM hp hs
     have HP : Hid (Strs wr vp f.params) := hp
     have HB : Hid (Stmts wr vb f.body) := hs
     obtain ⟨a2, k2, rfl, -, -, -⟩ := hp
     obtain ⟨a3, k3, rfl, -, -, -⟩ := hs
     have hBx : Below wr.heap.size wr (wr.alloc (.cells #[.string f.name, .slice a2 f.params.length k2, .slice a3 f.body.length k3] 61)) := (Below.refl _ _).alloc (Nat.le_refl _) _
     go_wp2_with fail
     refine (vfunc_any f _ _ _ ((HT.out.below HT.out.size hBw).below (HT.out.below HT.out.size hBw).size hBx) HSM.out (HP.out.below hBx) (HB.out.below hBx)).mono ?_
     rintro e w2 ⟨rfl, hb2⟩
     have hBx2 := hBx.trans (hb2.mono hBx.size)
     have hB2 := hB.trans (hBx2.mono (by have := hB.size; simp at this; omega))
     clear d0 d1 d2 hb2
     cases hv : funcB f
     ·go_wp2_with fail
      go_ret
      exact ⟨ret_bool (by rw [HTB.out, HX.out hv]; simp), one_below hB2⟩
     ·go_wp2_with fail
      go_roundw
      case rel =>
       refine ⟨k + 1, by omega, by go_num, fun m hm => ?_, hB2⟩
       rw [HE.out] at hm
       rcases List.mem_append.1 hm with hm | hm
       ·exact HG.out m hm
       ·rw [List.mem_singleton.1 hm]; exact hv
      case measure => simp [RowKit.intOf]; omega
    ·have HA2 : Hid (fs.all funcB = true) := by
      show _ = _
      rw [List.all_eq_true]
      have := HG.out
      rw [List.take_of_length_le (by omega)] at this
      exact this
     go_wp2_with fail
     go_ret
     exact ⟨ret_bool (by rw [HTB.out, HA.out, HA2.out]; rfl), hBw⟩
end
section
open Go.RowKit
theorem info_str : (Tryz.prog.info? 9).map (fun i => (i.zero, i.size, i.bytes)) = some (some (.string ⟨#[]⟩), 1, 16) := by kernel_rfl
def SSrc (w : World) (v : Value) (us : List ByteArray) : Prop := ∃ a cap, v = .slice a us.length cap ∧ (a = none → us = []) ∧ ∀ ad, a = some ad → ∀ j u, (us.map Value.string)[j]? = some u → w.cell? (ad.add j) = some u
theorem addr_addK (b o j : Nat) : (⟨b, o, none⟩ : Addr).add j = ⟨b, o + j, none⟩ := by simp only [Addr.add]; split <;> simp_all
theorem Strs.src {w : World} {v : Value} {us : List ByteArray} (h : Strs w v us) : SSrc w v us := by
 obtain ⟨a, cap, rfl, -, -, h⟩ := h
 by_cases hp : 0 < us.length
 ·obtain ⟨b, off, rfl, hc⟩ := h hp
  refine ⟨_, cap, rfl, (fun h => by cases h), fun ad had j u hj => ?_⟩
  obtain rfl := Option.some.inj had
  have hl : j < us.length := by
   have := (List.getElem?_eq_some_iff.1 hj).1
   simpa using this
  have e : u = .string us[j] := by simpa [hl] using hj.symm
  rw [addr_addK, e]
  exact hc j hl
 ·have h0 : us = [] := List.eq_nil_of_length_eq_zero (by omega)
  subst h0
  exact ⟨a, cap, rfl, fun _ => rfl, fun ad _ j u hj => by simp at hj⟩
theorem ssrc_1 (w : World) (x : ByteArray) (t : TypeId) : SSrc (w.alloc (.cells #[.string x] t)) (.slice (some ⟨w.heap.size, 0, none⟩) 1 1) [x] := by
 refine ⟨_, 1, rfl, (fun h => by cases h), fun ad h j u hj => ?_⟩
 obtain rfl := Option.some.inj h
 have hl : j = 0 := by
  have := (List.getElem?_eq_some_iff.1 hj).1
  simp at this
  omega
 subst hl
 simp at hj
 rw [addr_addK, ← hj]
 simp
def SRow (B : Nat) (w : World) (v : Value) (us : List ByteArray) : Prop := w.ownsRow B 9 1 v us.length (us.map (Value.string))
theorem SRow.shape {B : Nat} {w : World} {v : Value} {us : List ByteArray} (h : SRow B w v us) : ∃ a c, v = .slice a us.length c := by
 rcases h.2 with ⟨rfl, hz⟩ | ⟨g, cap, cur, rfl, _⟩
 ·exact ⟨none, 0, by rw [hz]⟩
 ·exact ⟨_, cap, rfl⟩
theorem SRow.below {B : Nat} {w w' : World} {v : Value} {us : List ByteArray} (h : SRow B w v us) (hb : Below w.heap.size w w') : SRow B w' v us := by
 obtain ⟨g1, g2⟩ := h
 refine ⟨g1, ?_⟩
 rcases g2 with g2 | ⟨g, cap, cur, rfl, g3, g4, g5⟩
 ·exact .inl g2
 ·refine .inr ⟨g, cap, cur, rfl, g3, ?_, g5⟩
  rw [hb.block g (Array.getElem?_eq_some_iff.1 g4).1]
  exact g4
theorem SRow.base {B B' : Nat} {w : World} {v : Value} {us : List ByteArray} (h : SRow B w v us) (hb : B' ≤ B) : SRow B' w v us := by
 obtain ⟨g1, g2⟩ := h
 refine ⟨g1, ?_⟩
 rcases g2 with g2 | ⟨g, cap, cur, rfl, g3, g4⟩
 ·exact .inl g2
 ·exact .inr ⟨g, cap, cur, rfl, Nat.le_trans hb g3, g4⟩
theorem srow_lit (W : World) (B : Nat) (hB : B ≤ W.heap.size) : SRow B (W.alloc (.cells #[] 9)) (.slice (some ⟨W.heap.size, 0, none⟩) 0 0) [] := World.ownsRow_lit W #[] 0 hB (by decide) rfl
theorem run_appS {w : World} (base : Nat) (ty : TypeId) (v : Value) (xs : List ByteArray) (hown : SRow base w v xs) (x : Value) (us : List ByteArray) (hx : SSrc w x us) (hm : xs.length + us.length ≤ 10000000) (hbase : base ≤ w.heap.size) :
  ∃ v' w', (Builtin.append_ #[58, 58] ty #[v, x]).run Tryz.prog w = .ok v' w' ∧ SRow base w' v' (xs ++ us) ∧ w.grownBy w' v.ownBlock ∧ ∀ k, v'.ownBlock = some k → v.ownBlock = some k ∨ w.heap.size ≤ k := by
 obtain ⟨i0, hi, hz0, hz1, hz2⟩ := info_parts info_str
 obtain ⟨a, cap, rfl, h2, h3⟩ := hx
 cases a with
 | none =>
  obtain rfl := h2 rfl
  have hr : (Builtin.append_ #[58, 58] ty #[v, .slice none ([] : List ByteArray).length cap]).run Tryz.prog w = .ok v w := by
   rcases hown.2 with ⟨rfl, hn⟩ | ⟨g, cap', cur, rfl, _, _, hnc, _⟩
   ·simp [Builtin.append_, run_underlying Tryz.underlying58, sizeOf, typeInfo, hi, Builtin.lenOf, Builtin.firstCells]
   ·simp [Builtin.append_, run_underlying Tryz.underlying58, sizeOf, typeInfo, hi, Builtin.lenOf, Builtin.firstCells, hnc, storeCells]
  exact ⟨v, w, hr, by simpa using hown, ⟨rfl, rfl, rfl, Nat.le_refl _, fun _ _ _ => rfl⟩, fun k hk => .inl hk⟩
 | some ad =>
  obtain ⟨v', w', r1, r2, r3, r4⟩ := app_freshG (P := Tryz.prog) (w := w) base 58 ty 9 i0 _ 1 16 Tryz.underlying58 hi hz0 hz1 hz2 rfl (by decide) v xs.length (xs.map (Value.string)) hown ad us.length cap (us.map (Value.string)) (by simp) (h3 ad rfl) (by intro u hu; simp at hu; obtain ⟨y, _, rfl⟩ := hu; rfl) hm (by decide) hbase
  refine ⟨v', w', r1, ?_, r3, r4⟩
  unfold SRow
  rw [List.length_append, List.map_append]
  exact r2
theorem step_appS {w : World} {ops : Array Oper} {o : Oper} {a : Act} {K : Act → World → Prop} {Q : Exit → Act → World → Prop} {E : Prop} (hgd : o.guard = none) (s x : Operand)
  (ho : o.op = .call { callee := .builtin .append, args := #[s, x], argTypes := #[58, 58] })
  (base : Nat) (v : Value) (xs : List ByteArray) (hs : a.eval s = v) (hown : SRow base w v xs) (xv : Value) (us : List ByteArray) (hxv : a.eval x = xv) (hx : SSrc w xv us)
  (hm : xs.length + us.length ≤ 10000000) (hbase : base ≤ w.heap.size)
  (h : ∀ v' w', SRow base w' v' (xs ++ us) → w.grownBy w' v.ownBlock → (∀ k, v'.ownBlock = some k → v.ownBlock = some k ∨ w.heap.size ≤ k) → K (a.put o.dst v') w') :
  if Region.wanted o (yielded ops a.tmps) = true then Oper.wp Tryz.prog o a w K Q else E := by
 have hw : Region.wanted o (yielded ops a.tmps) = true := by simp [Region.wanted, hgd]
 rw [if_pos hw]
 obtain ⟨v', w', hr, h2, h3, h4⟩ := run_appS (w := w) base o.type v xs hown xv us hx hm hbase
 unfold Oper.wp execOp
 simp only [ho, resolve, invoke, builtin, Sem.run_bind, Sem.run_pure, Result.andThen_ok, List.map_toArray, List.map_cons, List.map_nil, hs, hxv, hr]
 exact h v' w' h2 h3 h4
theorem SRow.strs {B : Nat} {w : World} {v : Value} {us : List ByteArray} (h : SRow B w v us) (hm : us.length ≤ 10000000) : Strs w v us := by
 have h0 := h
 rcases h.2 with ⟨rfl, hz⟩ | ⟨g, cap, cur, rfl, hbg, hh, hc1, hc2, hc3, hc4⟩
 ·exact ⟨none, 0, by rw [hz], by omega, by omega, fun h => absurd h (by omega)⟩
 ·refine ⟨_, cap, rfl, ?_, ?_, fun _ => ⟨g, 0, rfl, fun j hj => ?_⟩⟩
  ·first | omega | exact hc1
  ·first | omega | (unfold maxLen at *; omega)
  ·have := World.ownsRow.cells h0 (g := g) rfl j (.string us[j]) (by simp [hj])
   rw [addr_addK] at this
   exact this
end
section
open Go.RowKit
set_option maxHeartbeats 2000000 in
theorem gtree_any (t : Tr) (vg vf : Value) (w : World) (ht : smallT t) (hg : Globs w vg t.globals) (hf : Funcs w vf t.funcs) :
  Calls Tryz.prog 22 #[.agg #[vg, vf]] w fun e w' => e = .returned (.bool (treeB t)) ∧ Below w.heap.size w w' := by
 obtain ⟨gs, fs⟩ := t
 simp only at hg hf ⊢
 have HS : Hid (gs.length ≤ 1048576 ∧ fs.length ≤ 1048576 ∧ ∀ f ∈ fs, smallF f) := ht
 have hgl : gs.length ≤ 1048576 := HS.out.1
 have hfl : fs.length ≤ 1048576 := HS.out.2.1
 obtain ⟨ag, cg, rfl, -, -, hgc⟩ := hg
 obtain ⟨af, cf, rfl, -, -, hfc⟩ := hf
 have HGC : Hid (0 < gs.length → ∃ b off, ag = some ⟨b, off, none⟩ ∧ GlobsC w b off gs) := hgc
 have HFC : Hid (0 < fs.length → ∃ b off, af = some ⟨b, off, none⟩ ∧ FuncsC w b off fs) := hfc
 clear hgc hfc ht
 by_cases h5 : 50 < gs.length
 ·go_enter Tryz.func22, Tryz.ntmps22
  go_wp2_with fail
  go_ret
  exact ⟨ret_bool (by simp only [treeB, decide_eq_false (show ¬ gs.length ≤ 50 by omega), Bool.false_and]), (Below.refl _ _).alloc (Nat.le_refl _) _⟩
 by_cases h6 : 50 < fs.length
 ·go_enter Tryz.func22, Tryz.ntmps22
  go_wp2_with fail
  go_ret
  exact ⟨ret_bool (by simp only [treeB, decide_eq_false (show ¬ fs.length ≤ 50 by omega), Bool.false_and, Bool.and_false]), (Below.refl _ _).alloc (Nat.le_refl _) _⟩
 have HTB : Hid (treeB ⟨gs, fs⟩ = (gs.all globB && fs.all funcB)) := by
  show _ = _
  simp only [treeB, decide_eq_true (show gs.length ≤ 50 by omega), decide_eq_true (show fs.length ≤ 50 by omega), Bool.true_and]
 go_enter Tryz.func22, Tryz.ntmps22
 go_wp2_with fail
 go_loopw [3] (fun i wr => ∃ k : Nat, k ≤ gs.length ∧ i = .int .i64 k ∧ (∀ g ∈ gs.take k, globB g = true) ∧ Below (w.heap.size + 1) (w.alloc (.cells #[.slice ag gs.length cg, .slice af fs.length cf] 26)) wr) (fun i _ => gs.length - (RowKit.intOf i).toNat)
 case atStart => exact ⟨0, Nat.zero_le _, rfl, by simp, Below.refl _ _⟩
 case round =>
  obtain ⟨k, hk, rfl, hg, hB⟩ := hrel
  have HG : Hid (∀ g ∈ gs.take k, globB g = true) := hg
  clear hg
  have hBw := one_below hB
  by_cases hlt : k < gs.length
  ·obtain ⟨b, off, rfl, hc⟩ := HGC.out (by omega)
   obtain ⟨d0, d1⟩ := (hc.below hBw) k hlt
   have HE : Hid (gs.take (k + 1) = gs.take k ++ [gs[k]]) := take_succ gs k hlt
   have HX : Hid (globB gs[k] = false → gs.all globB = false) := allG_bad hlt
   clear hc
   generalize gs[k] = g at d0 d1 HE HX
   obtain ⟨x0, x1⟩ := box2 hB
   obtain ⟨s, z⟩ := g
   simp only at d0 d1
   cases hv : nameB s
   ·have hv2 : globB ⟨s, z⟩ = false := by simp only [globB, hv, Bool.false_and]
    have HV : Hid (globB ⟨s, z⟩ = false) := hv2
    clear hv2
    go_wp2_with (go_at_call 48; refine (name_any _ _).mono ?_; rintro e w' ⟨rfl, rfl⟩; rw [hv])
    go_ret
    exact ⟨ret_bool (by rw [HTB.out, HX.out HV.out]; rfl), hBw⟩
   cases hz : decide (0 ≤ z ∧ z ≤ 4000)
   ·have hv2 : globB ⟨s, z⟩ = false := by simp only [globB, hv, hz, Bool.and_false]
    have HV : Hid (globB ⟨s, z⟩ = false) := hv2
    have HZ : Hid (decide (0 ≤ z ∧ z ≤ 4000) = false) := hz
    clear hv2 hz
    go_wp2_with (first | (go_at_call 48; refine (name_any _ _).mono ?_; rintro e w' ⟨rfl, rfl⟩; rw [hv]) | (go_at_call 49; refine (in_any _ _ _ _).mono ?_; rintro e w' ⟨rfl, rfl⟩; rw [HZ.out]))
    go_ret
    exact ⟨ret_bool (by rw [HTB.out, HX.out HV.out]; rfl), hBw⟩
   ·have HV : Hid (globB ⟨s, z⟩ = true) := by
     show _ = _
     simp only [globB, hv, hz, Bool.and_self]
    have HZ : Hid (decide (0 ≤ z ∧ z ≤ 4000) = true) := hz
    clear hz
    go_wp2_with (first | (go_at_call 48; refine (name_any _ _).mono ?_; rintro e w' ⟨rfl, rfl⟩; rw [hv]) | (go_at_call 49; refine (in_any _ _ _ _).mono ?_; rintro e w' ⟨rfl, rfl⟩; rw [HZ.out]))
    go_roundw
    case rel =>
     refine ⟨k + 1, by omega, by go_num, fun m hm => ?_, hB⟩
     rw [HE.out] at hm
     rcases List.mem_append.1 hm with hm | hm
     ·exact HG.out m hm
     ·rw [List.mem_singleton.1 hm]; exact HV.out
    case measure => simp [RowKit.intOf]; omega
  ·have HA : Hid (gs.all globB = true) := by
    show _ = _
    rw [List.all_eq_true]
    have := HG.out
    rw [List.take_of_length_le (by omega)] at this
    exact this
   clear HG HGC
   obtain ⟨x0, x1⟩ := box2 hB
   go_wp2_with fail
   clear x0 x1
   go_loopw [4] (fun i wr => ∃ k : Nat, k ≤ fs.length ∧ i = .int .i64 k ∧ (∀ f ∈ fs.take k, funcB f = true) ∧ Below (w.heap.size + 1) (w.alloc (.cells #[.slice ag gs.length cg, .slice af fs.length cf] 26)) wr) (fun i _ => fs.length - (RowKit.intOf i).toNat)
   case atStart => exact ⟨0, Nat.zero_le _, rfl, by simp, hB⟩
   case round =>
    clear hB hBw hlt
    obtain ⟨k, hk, rfl, hg, hB⟩ := hrel
    have HG : Hid (∀ f ∈ fs.take k, funcB f = true) := hg
    clear hg
    have hBw := one_below hB
    by_cases hlt : k < fs.length
    ·obtain ⟨b, off, rfl, hc⟩ := HFC.out (by omega)
     obtain ⟨vp, vb, ⟨d0, d1, d2⟩, hp, hs⟩ := (hc.below hBw) k hlt
     have HE : Hid (fs.take (k + 1) = fs.take k ++ [fs[k]]) := take_succ fs k hlt
     have HX : Hid (funcB fs[k] = false → fs.all funcB = false) := allF_bad hlt
     have HSM : Hid (smallF fs[k]) := HS.out.2.2 fs[k] (List.getElem_mem hlt)
     clear hc
     generalize fs[k] = f at d0 d1 d2 HE HX HSM hp hs
     have HP : Hid (Strs wr vp f.params) := hp
     have HB : Hid (Stmts wr vb f.body) := hs
     obtain ⟨a2, k2, rfl, -, -, -⟩ := hp
     obtain ⟨a3, k3, rfl, -, -, -⟩ := hs
     obtain ⟨x0, x1⟩ := box2 hB
     go_wp2_with fail
     refine (gfunc_any f _ _ _ HSM.out HP.out HB.out).mono ?_
     rintro e w2 ⟨rfl, hb2⟩
     have hBx2 := hb2
     clear x0 x1
     have hB2 := hB.trans (hBx2.mono (by have := hB.size; simp at this; omega))
     clear d0 d1 d2 hb2
     cases hv : funcB f
     ·go_wp2_with fail
      go_ret
      exact ⟨ret_bool (by rw [HTB.out, HX.out hv]; simp), one_below hB2⟩
     ·go_wp2_with fail
      go_roundw
      case rel =>
       refine ⟨k + 1, by omega, by go_num, fun m hm => ?_, hB2⟩
       rw [HE.out] at hm
       rcases List.mem_append.1 hm with hm | hm
       ·exact HG.out m hm
       ·rw [List.mem_singleton.1 hm]; exact hv
      case measure => simp [RowKit.intOf]; omega
    ·have HA2 : Hid (fs.all funcB = true) := by
      show _ = _
      rw [List.all_eq_true]
      have := HG.out
      rw [List.take_of_length_le (by omega)] at this
      exact this
     obtain ⟨x0, x1⟩ := box2 hB
     go_wp2_with fail
     go_ret
     exact ⟨ret_bool (by rw [HTB.out, HA.out, HA2.out]; rfl), hBw⟩
end
section
open Go.RowKit
structure FV where
 f : Fu
 vp : Value
 vb : Value
 R : List SV
 kp : List Nat
 kb : List Nat
def cellsF (q : FV) : List Value := [.string q.f.name, q.vp, q.vb]
def flatF (Q : List FV) : List Value := Q.flatMap cellsF
theorem flatF_len (Q : List FV) : (flatF Q).length = Q.length * 3 := by
 induction Q with
 | nil => rfl
 | cons a r ih =>
  have : (flatF (a :: r)).length = 3 + (flatF r).length := by simp [flatF, cellsF]; omega
  rw [this, ih, List.length_cons]
  omega
theorem flatF_append (a b : List FV) : flatF (a ++ b) = flatF a ++ flatF b := by simp [flatF]
theorem flatF_get : ∀ (Q : List FV) (j i : Nat) (hj : j < Q.length), i < 3 → (flatF Q)[j * 3 + i]? = (cellsF Q[j])[i]?
 | x :: l, 0, i, _, hi => by
  have : (cellsF x).length = 3 := rfl
  show (cellsF x ++ flatF l)[0 * 3 + i]? = _
  rw [List.getElem?_append_left (by omega)]
  simp
 | x :: l, j + 1, i, hj, hi => by
  have h7 : (cellsF x).length = 3 := rfl
  show (cellsF x ++ flatF l)[(j + 1) * 3 + i]? = _
  rw [List.getElem?_append_right (by omega)]
  have e : (j + 1) * 3 + i - (cellsF x).length = j * 3 + i := by omega
  rw [e, flatF_get l j i (by simpa using hj) hi]
  simp
theorem info_func : (Tryz.prog.info? 61).map (fun i => (i.zero, i.size, i.bytes)) = some (some (.agg #[.string ⟨#[]⟩, .slice none 0 0, .slice none 0 0]), 3, 64) := by kernel_rfl
end
section
open Go.RowKit
theorem ssrc_cell {w : World} {b : Nat} {x : ByteArray} (h : w.cell? ⟨b, 0, none⟩ = some (.string x)) : SSrc w (.slice (some ⟨b, 0, none⟩) 1 1) [x] := by
 refine ⟨_, 1, rfl, (fun h => by cases h), fun ad had j u hj => ?_⟩
 obtain rfl := Option.some.inj had
 have hl : j = 0 := by
  have := (List.getElem?_eq_some_iff.1 hj).1
  simp at this
  omega
 subst hl
 simp at hj
 rw [addr_addK, ← hj]
 exact h
theorem appA (W : World) (v : Value) (us : List ByteArray) (h : Strs W v us) : SRow W.heap.size (W.drew.alloc (.cells #[] 9)) (.slice (some ⟨W.heap.size, 0, none⟩) 0 0) [] ∧ SSrc (W.drew.alloc (.cells #[] 9)) v us ∧ Below W.heap.size W (W.drew.alloc (.cells #[] 9)) := by
 have hb : Below W.heap.size W (W.drew.alloc (.cells #[] 9)) := ((Below.refl W.heap.size W).drew).alloc (Nat.le_refl _) _
 exact ⟨srow_lit W.drew _ (Nat.le_refl _), (h.below hb).src, hb⟩
theorem appB (W : World) (v : Value) (us : List ByteArray) (x : ByteArray) (h : Strs W v us) : SRow W.heap.size ((W.drew.alloc (.cells #[] 9)).alloc (.cells #[.string x] 9)) (.slice (some ⟨W.heap.size, 0, none⟩) 0 0) [] ∧ SSrc ((W.drew.alloc (.cells #[] 9)).alloc (.cells #[.string x] 9)) v us ∧ Below W.heap.size W ((W.drew.alloc (.cells #[] 9)).alloc (.cells #[.string x] 9)) ∧ ((W.drew.alloc (.cells #[] 9)).alloc (.cells #[.string x] 9)).cell? ⟨W.heap.size + 1, 0, none⟩ = some (.string x) := by
 have hb1 : Below W.heap.size W (W.drew.alloc (.cells #[] 9)) := ((Below.refl W.heap.size W).drew).alloc (Nat.le_refl _) _
 have hb : Below W.heap.size W ((W.drew.alloc (.cells #[] 9)).alloc (.cells #[.string x] 9)) := hb1.alloc hb1.size _
 exact ⟨(srow_lit W.drew _ (Nat.le_refl _)).below ((Below.refl _ _).alloc (Nat.le_refl _) _), (h.below hb).src, hb, (World.cell?_alloc_at _ _ _ _ (by simp)).trans rfl⟩
theorem appC (W : World) (v : Value) (us : List ByteArray) (x : ByteArray) (h : Strs W v us) : SRow W.heap.size ((W.drew.alloc (.cells #[.string x] 9)).alloc (.cells #[] 9)) (.slice (some ⟨W.heap.size + 1, 0, none⟩) 0 0) [] ∧ SSrc ((W.drew.alloc (.cells #[.string x] 9)).alloc (.cells #[] 9)) v us ∧ Below W.heap.size W ((W.drew.alloc (.cells #[.string x] 9)).alloc (.cells #[] 9)) ∧ ((W.drew.alloc (.cells #[.string x] 9)).alloc (.cells #[] 9)).cell? ⟨W.heap.size, 0, none⟩ = some (.string x) := by
 have hb1 : Below W.heap.size W (W.drew.alloc (.cells #[.string x] 9)) := ((Below.refl W.heap.size W).drew).alloc (Nat.le_refl _) _
 have hb : Below W.heap.size W ((W.drew.alloc (.cells #[.string x] 9)).alloc (.cells #[] 9)) := hb1.alloc hb1.size _
 have h1 := srow_lit (W.drew.alloc (.cells #[.string x] 9)) W.heap.size (by simp)
 have e : (W.drew.alloc (.cells #[.string x] 9)).heap.size = W.heap.size + 1 := by simp
 rw [e] at h1
 refine ⟨h1, (h.below hb).src, hb, ?_⟩
 rw [World.cell?_alloc_lt _ _ ⟨W.heap.size, 0, none⟩ (by simp)]
 exact (World.cell?_alloc_at _ _ _ _ (by simp)).trans rfl
theorem appN {W W1 w1 : World} {v : Value} {xs : List ByteArray} (hb : Below W.heap.size W W1) (hr : SRow W.heap.size W1 v xs) (hg : W1.grownBy w1 v.ownBlock) : Below W.heap.size W w1 := hb.grown hg hb.size (fun j hj => (World.ownsRow.lt hr j hj).1)
end
end Go.Proofs.YtjhmgjimppflhaaGreatDoor
