import Derived.Test.YtjnnepkoeloekaaGreatDoorPYE
import Derived.Test.YtjnnepkoeloekaaGreatDoorPVA
import Derived.RegionTactic
import Derived.ChangeAlike
set_option linter.unusedSectionVars false
variable [Inhabited Go.Proofs.YtjnnepkoeloekaaGreatDoor.Pick]
namespace Go.Proofs.YtjnnepkoeloekaaGreatDoor
open Go.RowKit
set_option linter.unusedVariables false
set_option linter.unusedSimpArgs false

def OkL (l : List St) : Prop := GoodL l ∧ ∀ s ∈ l, smallS s
theorem OkL.parts {s : St} {r : List St} (h : OkL (s :: r)) : GoodS s ∧ smallS s ∧ 0 ≤ s.thn ∧ 0 ≤ s.els ∧ s.thn.toNat + s.els.toNat ≤ r.length ∧ OkL (r.take s.thn.toNat) ∧ OkL ((r.take (s.thn.toNat + s.els.toNat)).drop s.thn.toNat) ∧ OkL (r.drop (s.thn.toNat + s.els.toNat)) := by
  obtain ⟨h1, h2⟩ := h
  obtain ⟨g, a, b, c, d, e, f⟩ := h1.parts
  have hm : ∀ t ∈ r, smallS t := fun t ht => h2 t (List.mem_cons_of_mem _ ht)
  exact ⟨g, h2 s List.mem_cons_self, a, b, c, ⟨d, fun t ht => hm t (List.mem_of_mem_take ht)⟩, ⟨e, fun t ht => hm t (List.mem_of_mem_take (List.mem_of_mem_drop ht))⟩, ⟨f, fun t ht => hm t (List.mem_of_mem_drop ht)⟩⟩
theorem line_spec {w0 : World} {P : Nat} (h0 : w0.heap.size ≤ P) (hT : Tab w0) (hBT : BTab w0) (hPT : PTab w0) {e : List Nd} {v : Value} (h1 : oneB e = true) (hl : e.length ≤ 1048576) (hN : Nodes w0 v e) : LineSpec w0 P v (shw e) :=
  fun a b l w hB hO hl2 => line_any w0 P e (shw e) a b (expr_any w0 P h0 hT hBT hPT (shw_pr h1) hl) h0 v l w hN hB hO hl2
theorem head_run (a : Option Addr) (n cap hi : Nat) (h2 : hi ≤ n) (h3 : n ≤ cap) : ∀ w : World, (Instr.slice 46 (.slice a n cap) none (some (.int .i64 (hi : Int))) none).run Tryz.prog w = .ok (.slice a hi cap) w := by
  intro w
  have hz : Tryz.prog.elem 46 = 71 := by kernel_rfl
  have hs : (sizeOf 71).run Tryz.prog w = .ok 6 w := by kernel_rfl
  rw [run_slice_h w 46 a n cap (by rw [hz]; exact Tryz.underlying46) .i64 _ (by omega) (by omega), hz, hs]
  simp only [Result.andThen, sliced, Int.toNat_natCast, Nat.sub_zero, Nat.zero_mul]
  have e : (if cap = 0 then a else a.map (·.add 0)) = a := by
    split
    · rfl
    · cases a <;> simp [Addr.add]
  rw [e]
/-- A statement's box, out of the printer's way. -/
theorem box6W {w w' : World} {P : Nat} {l : List UInt8} {t : TypeId} {a b c d e f : Value} (hO : Out w P l) (h : Wr P (w.alloc (.cells #[a, b, c, d, e, f] t)) w') :
    w'.cell? ⟨w.heap.size, 0, none⟩ = some a ∧ w'.cell? ⟨w.heap.size, 1, none⟩ = some b ∧ w'.cell? ⟨w.heap.size, 2, none⟩ = some c ∧ w'.cell? ⟨w.heap.size, 3, none⟩ = some d ∧ w'.cell? ⟨w.heap.size, 4, none⟩ = some e ∧ w'.cell? ⟨w.heap.size, 5, none⟩ = some f := by
  have hF := (out_box hO (.cells #[a, b, c, d, e, f] t)).2.2
  exact ⟨hF.cell h (by simp), hF.cell h (by simp), hF.cell h (by simp), hF.cell h (by simp), hF.cell h (by simp), hF.cell h (by simp)⟩

set_option maxRecDepth 100000 in
set_option maxHeartbeats 4000000 in
theorem lines_any (w0 : World) (P : Nat) (h0 : w0.heap.size ≤ P) (hT : Tab w0) (hBT : BTab w0) (hPT : PTab w0) (n : Nat) : ∀ (v : Value) (ss : List St), ss.length ≤ n → ss.length ≤ 1048576 → OkL ss → Stmts w0 v ss → LinesSpec w0 P v (linesT ss) := by
  induction n with
  | zero =>
    intro v ss hn hl hk hc l w hB hO hlen
    have : ss = [] := List.eq_nil_of_length_eq_zero (by omega)
    subst this
    obtain ⟨a, cap, rfl, hcl, hcm, hc⟩ := hc
    simp only [List.length_nil] at *
    rw [linesT_nil, List.append_nil]
    have HO : Hid (Out w P l) := hO
    clear hc hB hO hlen hk
    go_enter Tryz.func39, Tryz.ntmps39
    go_wp2_with fail
    refine wp_loop_rounds 1 ?_
    rw [rounds_succ]
    go_wp2_with fail
    go_end0
    exact ⟨⟨_, rfl⟩, HO.out, Wr.refl _ _⟩
  | succ n ih =>
  intro v ss hn hl hk hc l w hB hO hlen
  have IH : Hid (∀ (v : Value) (ss : List St), ss.length ≤ n → ss.length ≤ 1048576 → OkL ss → Stmts w0 v ss → LinesSpec w0 P v (linesT ss)) := ih
  have HT : Hid (Tab w0) := hT
  have HBT : Hid (BTab w0) := hBT
  have HPT : Hid (PTab w0) := hPT
  have HB : Hid (Below w0.heap.size w0 w) := hB
  have HO : Hid (Out w P l) := hO
  have HL : Hid (l.length + (linesT ss).length ≤ 900000000) := hlen
  have HK : Hid (OkL ss) := hk
  have HN : Hid (Stmts w0 v ss) := hc
  obtain ⟨a, cap, rfl, hcl, hcm, hc⟩ := hc
  clear hc ih hT hBT hPT hB hO hlen hk
  go_enter Tryz.func39, Tryz.ntmps39
  go_wp2_with fail
  go_loopw [1] (fun v wr => ∃ ts dn, ts.length ≤ ss.length ∧ Stmts w0 v ts ∧ OkL ts ∧ linesT ss = dn ++ linesT ts ∧ Out wr P (l ++ dn) ∧ Wr P w wr) (fun v _ => lenOf v)
  case atStart => exact ⟨ss, [], Nat.le_refl _, HN.out, HK.out, rfl, by rw [List.append_nil]; exact HO.out, Wr.refl _ _⟩
  case round =>
    obtain ⟨ts, dn, htl, hts, hok, hfit, hOr, hWr⟩ := hrel
    have HTs : Hid (linesT ss = dn ++ linesT ts) := hfit
    have HOr : Hid (Out wr P (l ++ dn)) := hOr
    have HWr : Hid (Wr P w wr) := hWr
    have HBr : Hid (Below w0.heap.size w0 wr) := HB.out.trans ((hWr.toBelow HO.out).mono h0)
    have hall0 := hts
    obtain ⟨a, cap, rfl, hcl, hcm, hc⟩ := hts.below HBr.out
    clear hfit hOr hWr
    cases ts with
    | nil =>
      clear hc hall0
      simp only [List.length_nil]
      go_wp2_with fail
      go_end0
      refine ⟨⟨_, rfl⟩, ?_, HWr.out⟩
      rw [HTs.out, linesT_nil, List.append_nil]
      exact HOr.out
    | cons s r =>
      obtain ⟨b, off, rfl, hs⟩ := hc (by simp)
      obtain ⟨ve, vf, ⟨g0, g1, g2, g3, g4, g5⟩, ⟨c0, c1, c2, c3, c4, c5⟩, -, -⟩ := hs.up 0 (by simp)
      simp only [Nat.zero_mul, Nat.add_zero, List.getElem_cons_zero] at c0 c1 c2 c3 c4 c5 g0 g1 g2 g3 g4 g5
      obtain ⟨gS, gm, gt, ge, gle, ga, gb, gc⟩ := hok.parts
      -- the nodes themselves, in w0
      have hN0 : Nodes w0 ve s.e ∧ Nodes w0 vf s.f := by
        obtain ⟨a', cap', he', _, _, h'⟩ := hall0
        obtain ⟨b', off', hb', hs'⟩ := h' (by simp)
        simp only [Value.slice.injEq, true_and] at he'
        obtain ⟨rfl, rfl⟩ := he'
        simp only [Option.some.injEq, Addr.mk.injEq, and_true] at hb'
        obtain ⟨rfl, rfl⟩ := hb'
        obtain ⟨ve', vf', ⟨k0, k1, k2, k3, k4, k5⟩, n1, n2⟩ := hs' 0 (by simp)
        simp only [Nat.zero_mul, Nat.add_zero, List.getElem_cons_zero] at k0 k2 k3 n1 n2
        have hlt := World.block_lt_of_cell? _ _ k0
        have e2 := (HBr.out.cell (p := ⟨b, off + 2, none⟩) hlt).trans k2
        have e3 := (HBr.out.cell (p := ⟨b, off + 3, none⟩) hlt).trans k3
        rw [c2] at e2
        rw [c3] at e3
        simp only [Option.some.injEq] at e2 e3
        subst e2 e3
        exact ⟨n1, n2⟩
      have hrest : Stmts w0 (.slice (if cap = 1 then some ⟨b, off, none⟩ else some ⟨b, off + 6, none⟩) r.length (cap - 1)) r := by
        have := hall0.cut 1 (s :: r).length (by simp) (Nat.le_refl _)
        simpa [Addr.add] using this
      simp only [List.length_cons] at *
      have HR : Hid (Stmts w0 (.slice (if cap = 1 then some ⟨b, off, none⟩ else some ⟨b, off + 6, none⟩) r.length (cap - 1)) r) := hrest
      have h1 : (1 : Int) ≤ (r.length : Int) + 1 := by omega
      have hLE : LineSpec w0 P ve (shw s.e) := line_spec h0 HT.out HBT.out HPT.out gS.one gm.1 hN0.1
      have hLF : s.kind = 3 → LineSpec w0 P vf (shw s.f) := fun h3 => line_spec h0 HT.out HBT.out HPT.out (gS.two h3) gm.2 hN0.2
      have HLE : Hid (LineSpec w0 P ve (shw s.e)) := hLE
      have HLF : Hid (s.kind = 3 → LineSpec w0 P vf (shw s.f)) := hLF
      have HGS : Hid (GoodS s) := gS
      have HGA : Hid (OkL (r.take s.thn.toNat)) := ga
      have HGB : Hid (OkL ((r.take (s.thn.toNat + s.els.toNat)).drop s.thn.toNat)) := gb
      have HGC : Hid (OkL (r.drop (s.thn.toNat + s.els.toNat))) := gc
      have HLC : Hid (linesT ss = dn ++ (stmtT s (linesT (r.take s.thn.toNat)) (linesT ((r.take (s.thn.toNat + s.els.toNat)).drop s.thn.toNat)) ++ linesT (r.drop (s.thn.toNat + s.els.toNat)))) := HTs.out.trans (by rw [linesT_cons])
      clear hs hc hall0 hrest HTs hok gS gm ga gb gc hLE hLF
      obtain ⟨tn, htn⟩ := Int.eq_ofNat_of_zero_le gt
      obtain ⟨ln, hln⟩ := Int.eq_ofNat_of_zero_le ge
      have htn' : s.thn.toNat = tn := by rw [htn]; rfl
      have hln' : s.els.toNat = ln := by rw [hln]; rfl
      rw [htn', hln'] at gle
      rw [htn'] at HGA HGB HGC HLC
      rw [hln'] at HGB HGC HLC
      rw [htn] at c4 g4
      rw [hln] at c5 g5
      clear gt ge htn' hln'
      have HTH : Hid (s.thn = (tn : Int)) := htn
      have HEL : Hid (s.els = (ln : Int)) := hln
      clear htn hln
      generalize hkI : s.kind = kI at c0 g0
      generalize hnI : s.name = nI at c1 g1
      have HkI : Hid (s.kind = kI) := hkI
      have HnI : Hid (s.name = nI) := hnI
      clear hkI hnI
      obtain ⟨⟨a2, k2, hve, -⟩, a3, k3, hvf, -⟩ := hN0
      subst hve hvf
      generalize s.e.length = n2 at c2 g2 HLE
      generalize s.f.length = n3 at c3 g3 HLF
      go_wp2_with fail
      go_region
      generalize (if cap = 1 then some ({ block := b, off := off, spot := none } : Addr) else some { block := b, off := off + 6, spot := none }) = a1 at HR ⊢
      generalize hk1 : cap - 1 = k1 at HR ⊢
      have hk1' : r.length ≤ k1 := by omega
      have hk2' : k1 ≤ 9223372036854775807 := by omega
      clear hk1 c0 c1 c2 c3 c4 c5 g0 g1 g2 g3 g4 g5 h1
      obtain ⟨W1, hW1⟩ : ∃ W1, W1 = (wr.alloc (.cells #[.int .i64 kI, .string nI, .slice a2 n2 k2, .slice a3 n3 k3, .int .i64 tn, .int .i64 ln] 71)).drew := ⟨_, rfl⟩
      have hbW : Below wr.heap.size wr W1 := by rw [hW1]; exact ((Below.refl _ _).alloc (Nat.le_refl _) _).drew
      have hWa : Wr P (wr.alloc (.cells #[.int .i64 kI, .string nI, .slice a2 n2 k2, .slice a3 n3 k3, .int .i64 tn, .int .i64 ln] 71)) W1 := by
        rw [hW1]
        exact Wr.below (by have := HOr.out.1; simp; omega) (Below.refl _ _).drew
      have HO1 : Hid (Out W1 P (l ++ dn)) := HOr.out.below hbW
      have HW1 : Hid (Wr P wr W1) := Wr.below HOr.out.1 hbW
      have HF1 : Hid (Far P W1 wr.heap.size) := (out_box HOr.out _).2.2.wr hWa
      obtain ⟨b0, b1, b2, b3, b4, b5⟩ := box6W HOr.out hWa
      rw [← hW1]
      clear hW1 hbW hWa
      generalize wr.heap.size = H at b0 b1 b2 b3 b4 b5 HF1 ⊢
      have hwt : IntKind.i64.wrap ((tn : Int) + (ln : Int)) = (tn : Int) + (ln : Int) := by rw [wrap64]; omega
      have hr4 := head_run a1 r.length k1 tn (by omega) hk1'
      obtain ⟨a5, k5, hr5, hs5⟩ : ∃ a5 k5, (∀ w : World, (Instr.slice 46 (.slice a1 r.length k1) (some (.int .i64 tn)) (some (.int .i64 ((tn : Int) + (ln : Int)))) none).run Tryz.prog w = .ok (.slice a5 ln k5) w) ∧ Stmts w0 (.slice a5 ln k5) ((r.take (tn + ln)).drop tn) := by
        have h := cut_run a1 r.length k1 tn (tn + ln) (by omega) (by omega) (by omega)
        have h' := HR.out.cut tn (tn + ln) (by omega) (by omega)
        rw [show tn + ln - tn = ln by omega] at h h'
        exact ⟨_, _, h, h'⟩
      obtain ⟨a6, k6, hr6, hs6⟩ : ∃ a6 k6, (∀ w : World, (Instr.slice 46 (.slice a1 r.length k1) (some (.int .i64 ((tn : Int) + (ln : Int)))) none none).run Tryz.prog w = .ok (.slice a6 (r.length - (tn + ln)) k6) w) ∧ Stmts w0 (.slice a6 (r.length - (tn + ln)) k6) (r.drop (tn + ln)) := by
        have h := cut_run_l a1 r.length k1 (tn + ln) (by omega) (by omega) ((tn : Int) + (ln : Int)) (by omega)
        have h' := HR.out.cut (tn + ln) r.length (by omega) (by omega)
        rw [List.take_length] at h'
        exact ⟨_, _, h, h'⟩
      have HS6 : Hid (Stmts w0 (.slice a6 (r.length - (tn + ln)) k6) (r.drop (tn + ln))) := hs6
      have hA := IH.out (.slice a1 tn k1) (r.take tn) (by simp; omega) (by simp; omega) HGA.out (HR.out.head tn (by omega))
      have hBk := IH.out (.slice a5 ln k5) ((r.take (tn + ln)).drop tn) (by simp; omega) (by simp; omega) HGB.out hs5
      generalize linesT (r.take tn) = ta at HLC hA
      generalize linesT ((r.take (tn + ln)).drop tn) = tb at HLC hBk
      clear hs5 hs6
      have HLS : Hid (l.length + dn.length + (stmtT s ta tb).length ≤ 900000000) := by
        show _ ≤ _
        have := HL.out
        rw [HLC.out] at this
        simp only [List.length_append] at this
        omega
      have HC : Hid (Calls Tryz.prog 63 #[.pointer (some ⟨P, 0, none⟩), .agg #[.int .i64 kI, .string nI, .slice a2 n2 k2, .slice a3 n3 k3, .int .i64 tn, .int .i64 ln], .slice a1 tn k1, .slice a5 ln k5] W1.drew fun x w' => (∃ u, x = .returned u) ∧ Out w' P (l ++ dn ++ stmtT s ta tb) ∧ Wr P W1.drew w') := by
        have := stmt_any w0 P h0 s HGS.out (.slice a2 n2 k2) (.slice a3 n3 k3) (.slice a1 tn k1) (.slice a5 ln k5) ta tb HLE.out HLF.out hA hBk (l ++ dn) W1.drew ((HBr.out.trans ((HW1.out.toBelow HOr.out).mono h0)).drew) (HO1.out.below (Below.refl _ _).drew) (by have := HLS.out; simp only [List.length_append]; omega)
        rw [HkI.out, HnI.out, HTH.out, HEL.out] at this
        exact this
      clear hA hBk
      have HQ : Hid (∀ w2 : World, Wr P W1.drew w2 → (w2.cell? ⟨H, 0, none⟩ = some (.int .i64 kI) ∧ w2.cell? ⟨H, 1, none⟩ = some (.string nI) ∧ w2.cell? ⟨H, 2, none⟩ = some (.slice a2 n2 k2) ∧ w2.cell? ⟨H, 3, none⟩ = some (.slice a3 n3 k3) ∧ w2.cell? ⟨H, 4, none⟩ = some (.int .i64 tn) ∧ w2.cell? ⟨H, 5, none⟩ = some (.int .i64 ln)) ∧ Wr P w w2) := fun w2 h => by
        have h' : Wr P W1 w2 := (Wr.below HO1.out.1 (Below.refl _ _).drew).trans h
        exact ⟨⟨HF1.out.cell h' b0, HF1.out.cell h' b1, HF1.out.cell h' b2, HF1.out.cell h' b3, HF1.out.cell h' b4, HF1.out.cell h' b5⟩, HWr.out.trans (HW1.out.trans h')⟩
      go_wp2_with fail
      go_region_held (fun W => W.cell? ⟨H, 0, none⟩ = some (.int .i64 kI) ∧ W.cell? ⟨H, 1, none⟩ = some (.string nI) ∧ W.cell? ⟨H, 2, none⟩ = some (.slice a2 n2 k2) ∧ W.cell? ⟨H, 3, none⟩ = some (.slice a3 n3 k3) ∧ W.cell? ⟨H, 4, none⟩ = some (.int .i64 tn) ∧ W.cell? ⟨H, 5, none⟩ = some (.int .i64 ln)) (go_keep)
        (first
        | (with_reducible refine Calls.mono HC.out ?_; intro x w2 hx; obtain ⟨⟨u, hxe⟩, hO2, hW2⟩ := hx; subst hxe; obtain ⟨⟨q0, q1, q2, q3, q4, q5⟩, qw⟩ := HQ.out w2 hW2))
      have HO2 : Hid (Out w2 P (l ++ dn ++ stmtT s ta tb)) := hO2
      have HW2 : Hid (Wr P w w2) := qw
      clear hO2 hW2 qw
      go_wp2_with fail
      go_roundw
      case rel => exact ⟨r.drop (tn + ln), dn ++ stmtT s ta tb, by simp; omega, HS6.out, HGC.out, by rw [HLC.out]; simp only [List.append_assoc], by have := HO2.out; simpa only [List.append_assoc] using this, HW2.out⟩
      case measure => simp [lenOf]; omega

end Go.Proofs.YtjnnepkoeloekaaGreatDoor
