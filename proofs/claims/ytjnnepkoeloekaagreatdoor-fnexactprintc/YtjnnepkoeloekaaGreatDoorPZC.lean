import Derived.Test.YtjnnepkoeloekaaGreatDoorPZB
import Derived.Test.YtjnnepkoeloekaaGreatDoorPYD
import Derived.Test.YtjnnepkoeloekaaGreatDoorPVA
import Derived.Test.YtjnnepkoeloekaaGreatDoorPYF
set_option linter.unusedSectionVars false
variable [Inhabited Go.Proofs.YtjnnepkoeloekaaGreatDoor.Pick]
namespace Go.Proofs.YtjnnepkoeloekaaGreatDoor
open Go.RowKit Go.Sort
set_option linter.unusedVariables false
set_option linter.unusedSimpArgs false

def LinesS (w0 : World) (v : Value) (t : List UInt8) : Prop :=
  ∀ (w : World), Below w0.heap.size w0 w → Calls Tryz.prog 17 #[v] w fun x w' => x = .returned (.string (tx t)) ∧ Below w.heap.size w w'
theorem cutz_run (a : Option Addr) (n cap lo hi : Nat) (h1 : lo ≤ hi) (h2 : hi ≤ n) (h3 : n ≤ cap) (l' h' : Int) (hl' : l' = lo) (hh' : h' = hi) : ∀ w : World, (Instr.slice 46 (.slice a n cap) (some (.int .i64 l')) (some (.int .i64 h')) none).run Tryz.prog w = .ok (.slice (if cap = lo then a else a.map (·.add (lo * 6))) (hi - lo) (cap - lo)) w := by
  intro w
  subst hl' hh'
  have hz : Tryz.prog.elem 46 = 71 := by kernel_rfl
  have hs : (sizeOf 71).run Tryz.prog w = .ok 6 w := by kernel_rfl
  rw [run_slice_lh w 46 a n cap (by rw [hz]; exact Tryz.underlying46) .i64 .i64 _ _ (by omega) (by omega) (by omega), hz, hs]
  simp only [Result.andThen, sliced, Int.toNat_natCast]
theorem part1 (ss : List St) (k tn : Nat) : (ss.take (k + 1 + tn)).drop (k + 1) = (ss.drop (k + 1)).take tn := by
  rw [List.drop_take]; congr 1; omega
theorem part2 (ss : List St) (k tn ln : Nat) : (ss.take (k + 1 + tn + ln)).drop (k + 1 + tn) = ((ss.drop (k + 1)).take (tn + ln)).drop tn := by
  rw [List.drop_take, List.drop_take, List.drop_drop]; congr 1; omega

set_option maxRecDepth 100000 in
set_option maxHeartbeats 8000000 in
theorem linesS_any (w0 : World) (n : Nat) : ∀ (v : Value) (ss : List St), ss.length ≤ n → ss.length ≤ 1048576 → OkL ss → (linesT ss).length ≤ 900000000 → Stmts w0 v ss → LinesS w0 v (linesT ss) := by
  induction n with
  | zero =>
    intro v ss hn hl hk hlen hc w hB
    have : ss = [] := List.eq_nil_of_length_eq_zero (by omega)
    subst this
    obtain ⟨a, cap, rfl, hcl, hcm, hc⟩ := hc
    simp only [List.length_nil] at *
    rw [linesT_nil]
    clear hc hB hk
    go_enter Tryz.func17, Tryz.ntmps17
    go_wp2_with fail
    refine wp_loop_rounds 1 ?_
    rw [rounds_succ]
    go_wp2_with fail
    go_ret
    exact ⟨ret_str rfl, Below.refl _ _⟩
  | succ n ih =>
  intro v ss hn hl hk hlen hc w hB
  have IH : Hid (∀ (v : Value) (ss : List St), ss.length ≤ n → ss.length ≤ 1048576 → OkL ss → (linesT ss).length ≤ 900000000 → Stmts w0 v ss → LinesS w0 v (linesT ss)) := ih
  have HB : Hid (Below w0.heap.size w0 w) := hB
  have HL : Hid ((linesT ss).length ≤ 900000000) := hlen
  have HK : Hid (OkL ss) := hk
  have HN : Hid (Stmts w0 v ss) := hc
  obtain ⟨a, cap, rfl, hcl, hcm, hc⟩ := hc
  clear hc ih hB hlen hk
  go_enter Tryz.func17, Tryz.ntmps17
  go_wp2_with fail
  go_loopw [3, 4] (fun ot ix wr => ∃ (k : Nat) (dn : List UInt8), k ≤ ss.length ∧ ix = .int .i64 k ∧ ot = .string (tx dn) ∧ linesT ss = dn ++ linesT (ss.drop k) ∧ OkL (ss.drop k) ∧ Below w.heap.size w wr) (fun _ ix _ => ss.length - (intOf ix).toNat)
  case atStart => exact ⟨0, [], Nat.zero_le _, rfl, rfl, rfl, HK.out, Below.refl _ _⟩
  case round =>
    obtain ⟨k, dn, hk, rfl, rfl, hfit, hok, hBr⟩ := hrel
    have HTs : Hid (linesT ss = dn ++ linesT (ss.drop k)) := hfit
    clear hfit
    by_cases hkA : k < ss.length
    case neg =>
      obtain rfl : k = ss.length := by omega
      clear hok
      go_wp2_with fail
      go_ret
      refine ⟨ret_str ?_, hBr⟩
      rw [HTs.out, List.drop_length, linesT_nil, List.append_nil]
    case pos =>
      have HBr0 : Hid (Below w0.heap.size w0 wr) := HB.out.trans (hBr.mono HB.out.size)
      have hdk : ss.drop k = ss[k] :: ss.drop (k + 1) := List.drop_eq_getElem_cons hkA
      rw [hdk] at hok
      obtain ⟨gS, gm, gt, ge, gle, ga, gb, gc⟩ := hok.parts
      obtain ⟨a0, cap0, he0, _, _, hc0⟩ := HN.out
      simp only [Value.slice.injEq, true_and] at he0
      obtain ⟨rfl, rfl⟩ := he0
      obtain ⟨b, off, rfl, hs⟩ := hc0 (by omega)
      obtain ⟨ve, vf, ⟨c0, c1, c2, c3, c4, c5⟩, hn1, hn2⟩ := hs k hkA
      have hlt := World.block_lt_of_cell? _ _ c0
      have HLC : Hid (linesT ss = dn ++ (stmtT ss[k] (linesT ((ss.drop (k + 1)).take ss[k].thn.toNat)) (linesT (((ss.drop (k + 1)).take (ss[k].thn.toNat + ss[k].els.toNat)).drop ss[k].thn.toNat)) ++ linesT ((ss.drop (k + 1)).drop (ss[k].thn.toNat + ss[k].els.toNat)))) := HTs.out.trans (by rw [hdk, linesT_cons])
      have g0 := fun (W : World) (h : Below wr.heap.size wr W) => ((hBr.trans (h.mono hBr.size)).cell (p := ⟨b, off + k * 6, none⟩) (Nat.lt_of_lt_of_le hlt HB.out.size))
      clear g0 hs hc0 hok
      have up : ∀ (W : World) (j : Nat), Below w0.heap.size w0 W → W.cell? ⟨b, off + k * 6 + j, none⟩ = w0.cell? ⟨b, off + k * 6 + j, none⟩ := fun W j h => h.cell (p := ⟨b, off + k * 6 + j, none⟩) hlt
      have d0 := (up wr 0 HBr0.out).trans c0
      have d1 := (up wr 1 HBr0.out).trans c1
      have d2 := (up wr 2 HBr0.out).trans c2
      have d3 := (up wr 3 HBr0.out).trans c3
      have d4 := (up wr 4 HBr0.out).trans c4
      have d5 := (up wr 5 HBr0.out).trans c5
      rw [Nat.add_zero] at d0
      clear up c0 c1 c2 c3 c4 c5 hlt
      have hSe : ShowSpec w0 ss[k].e (shw ss[k].e) := show_any w0 (shw_pr gS.one) gm.1
      have hSf : ss[k].kind = 3 → ShowSpec w0 ss[k].f (shw ss[k].f) := fun h3 => show_any w0 (shw_pr (gS.two h3)) gm.2
      have HSe : Hid (∀ W, Below w0.heap.size w0 W → Calls Tryz.prog 32 #[ve] W fun x w' => x = .returned (.string (tx (shw ss[k].e))) ∧ Below W.heap.size W w') := fun W hW => hSe ve W hn1 hW
      have HSf : Hid (ss[k].kind = 3 → ∀ W, Below w0.heap.size w0 W → Calls Tryz.prog 32 #[vf] W fun x w' => x = .returned (.string (tx (shw ss[k].f))) ∧ Below W.heap.size W w') := fun h3 W hW => hSf h3 vf W hn2 hW
      obtain ⟨glo, ghi, -, -, -⟩ := gS
      obtain ⟨⟨a2, k2, hve, -⟩, a3, k3, hvf, -⟩ := And.intro hn1 hn2
      clear hSe hSf gm hn1 hn2 hdk
      obtain ⟨tn, htn⟩ := Int.eq_ofNat_of_zero_le gt
      obtain ⟨ln, hln⟩ := Int.eq_ofNat_of_zero_le ge
      have htn' : ss[k].thn.toNat = tn := by rw [htn]; rfl
      have hln' : ss[k].els.toNat = ln := by rw [hln]; rfl
      rw [htn', hln'] at gle
      rw [htn'] at ga gb gc HLC
      rw [hln'] at gb gc HLC
      rw [htn] at d4
      rw [hln] at d5
      simp only [List.length_drop] at gle
      rw [List.drop_drop] at gc HLC
      have HTot : Hid (dn.length + (stmtT ss[k] (linesT ((ss.drop (k + 1)).take tn)) (linesT (((ss.drop (k + 1)).take (tn + ln)).drop tn))).length ≤ 900000000) := by
        show _ ≤ _
        have := HL.out
        rw [HLC.out] at this
        simp only [List.length_append] at this
        omega
      have HGC2 : Hid (OkL (ss.drop (k + 1 + tn + ln))) := by rw [show k + 1 + tn + ln = k + 1 + (tn + ln) by omega]; exact gc
      have HGA : Hid (OkL ((ss.drop (k + 1)).take tn)) := ga
      have HGB : Hid (OkL (((ss.drop (k + 1)).take (tn + ln)).drop tn)) := gb
      obtain ⟨a5, k5, hr5, hs5⟩ : ∃ a5 k5, (∀ w : World, (Instr.slice 46 (.slice (some ⟨b, off, none⟩) ss.length cap) (some (.int .i64 ((k : Int) + 1))) (some (.int .i64 ((k : Int) + 1 + (tn : Int)))) none).run Tryz.prog w = .ok (.slice a5 tn k5) w) ∧ Stmts w0 (.slice a5 tn k5) ((ss.drop (k + 1)).take tn) := by
        have h := cutz_run (some ⟨b, off, none⟩) ss.length cap (k + 1) (k + 1 + tn) (by omega) (by omega) (by omega) ((k : Int) + 1) ((k : Int) + 1 + (tn : Int)) (by omega) (by omega)
        have h' := HN.out.cut (k + 1) (k + 1 + tn) (by omega) (by omega)
        rw [part1] at h'
        rw [show k + 1 + tn - (k + 1) = tn by omega] at h h'
        exact ⟨_, _, h, h'⟩
      obtain ⟨a6, k6, hr6, hs6⟩ : ∃ a6 k6, (∀ w : World, (Instr.slice 46 (.slice (some ⟨b, off, none⟩) ss.length cap) (some (.int .i64 ((k : Int) + 1 + (tn : Int)))) (some (.int .i64 ((k : Int) + 1 + (tn : Int) + (ln : Int)))) none).run Tryz.prog w = .ok (.slice a6 ln k6) w) ∧ Stmts w0 (.slice a6 ln k6) (((ss.drop (k + 1)).take (tn + ln)).drop tn) := by
        have h := cutz_run (some ⟨b, off, none⟩) ss.length cap (k + 1 + tn) (k + 1 + tn + ln) (by omega) (by omega) (by omega) ((k : Int) + 1 + (tn : Int)) ((k : Int) + 1 + (tn : Int) + (ln : Int)) (by omega) (by omega)
        have h' := HN.out.cut (k + 1 + tn) (k + 1 + tn + ln) (by omega) (by omega)
        rw [part2] at h'
        rw [show k + 1 + tn + ln - (k + 1 + tn) = ln by omega] at h h'
        exact ⟨_, _, h, h'⟩
      have HLA0 : (linesT ((ss.drop (k + 1)).take tn)).length ≤ 900000000 → LinesS w0 (.slice a5 tn k5) (linesT ((ss.drop (k + 1)).take tn)) := fun h => IH.out _ _ (by simp; omega) (by simp; omega) HGA.out h hs5
      have HLB0 : (linesT (((ss.drop (k + 1)).take (tn + ln)).drop tn)).length ≤ 900000000 → LinesS w0 (.slice a6 ln k6) (linesT (((ss.drop (k + 1)).take (tn + ln)).drop tn)) := fun h => IH.out _ _ (by simp; omega) (by simp; omega) HGB.out h hs6
      have HLC2 : Hid (linesT ss = dn ++ stmtT ss[k] (linesT ((ss.drop (k + 1)).take tn)) (linesT (((ss.drop (k + 1)).take (tn + ln)).drop tn)) ++ linesT (ss.drop (k + 1 + tn + ln))) := by
        show _ = _
        rw [HLC.out, List.append_assoc, show k + 1 + (tn + ln) = k + 1 + tn + ln by omega]
      have HLA1 : Hid ((linesT ((ss.drop (k + 1)).take tn)).length ≤ 900000000 → LinesS w0 (.slice a5 tn k5) (linesT ((ss.drop (k + 1)).take tn))) := HLA0
      have HLB1 : Hid ((linesT (((ss.drop (k + 1)).take (tn + ln)).drop tn)).length ≤ 900000000 → LinesS w0 (.slice a6 ln k6) (linesT (((ss.drop (k + 1)).take (tn + ln)).drop tn))) := HLB0
      clear HLA0 HLB0 hs5 hs6 HGA HGB HLC HTs ga gb gc htn' hln'
      generalize linesT ((ss.drop (k + 1)).take tn) = ta at HLA1 HLC2 HTot
      generalize linesT (((ss.drop (k + 1)).take (tn + ln)).drop tn) = tb at HLB1 HLC2 HTot
      generalize hT : stmtT ss[k] ta tb = T at HLC2 HTot
      have HLT : Hid (dn.length + T.length ≤ 900000000) := HTot.out
      have HTx0 : Hid (stmtT ss[k] ta tb = T) := hT
      clear HTot hT
      generalize ss[k] = s at d0 d1 d2 d3 d4 d5 HSe HSf HTx0 hve hvf htn hln glo ghi gt ge
      obtain ⟨sk, nm, se, sf, th, el⟩ := s
      simp only at d0 d1 d2 d3 d4 d5 HSe HSf HTx0 hve hvf htn hln glo ghi gt ge
      subst htn hln
      obtain ⟨nl, rfl⟩ : ∃ nl, nm = tx nl := ⟨_, (tx_back nm).symm⟩
      generalize hxe : shw se = xe at HSe
      generalize hxf : shw sf = xf at HSf
      have HXe : Hid (shw se = xe) := hxe
      have HXf : Hid (shw sf = xf) := hxf
      have HTx : Hid (stmtT ⟨sk, tx nl, se, sf, (tn : Int), (ln : Int)⟩ ta tb = T) := HTx0.out
      clear HTx0 hxe hxf
      generalize se.length = n2 at hve
      generalize sf.length = n3 at hvf
      subst hve hvf
      have hk2 : (k : Int) + 1 ≤ 1048576 := by omega
      have hk3 : (k : Int) + 1 + (tn : Int) + (ln : Int) ≤ 1048576 := by omega
      go_wp2_with fail
      refine (HSe.out _ (HBr0.out.trans (((Below.refl _ _).alloc (Nat.le_refl _) _).mono HBr0.out.size))).mono ?_
      rintro x w3 ⟨rfl, hb3⟩
      have hb3' : Below (wr.heap.size + 1) (wr.alloc (.cells #[.int .i64 sk, .string (tx nl), .slice a2 n2 k2, .slice a3 n3 k3, .int .i64 (tn : Int), .int .i64 (ln : Int)] 71)) w3 := by
        have := hb3
        simp only [World.size_alloc] at this
        exact this
      obtain ⟨x0, x1, x2, x3, x4, x5⟩ := box6 hb3'
      have hB3 : Below w.heap.size w w3 := hBr.trans ((one_below hb3').mono hBr.size)
      have HB03 : Hid (Below w0.heap.size w0 w3) := HBr0.out.trans ((one_below hb3').mono HBr0.out.size)
      have hH3 : wr.heap.size < w3.heap.size := by have := hb3'.size; simp at this; omega
      clear hb3 hb3' d0 d1 d2 d3 d4 d5
      generalize wr.heap.size = H at x0 x1 x2 x3 x4 x5 hH3 ⊢
      have hkk : sk = 1 ∨ sk = 2 ∨ sk = 3 ∨ sk = 4 ∨ sk = 5 ∨ sk = 6 ∨ sk = 7 ∨ sk = 8 := by omega
      clear glo ghi
      rcases hkk with rfl | rfl | rfl | rfl | rfl | rfl | rfl | rfl
      · -- a declaration
        have HQ : Hid (T = [105, 110, 116, 32] ++ nl ++ [32, 61, 32] ++ xe ++ [59, 10]) := HTx.out.symm.trans (by rw [← HXe.out]; simp [stmtT, tx])
        have HLS : Hid (dn.length + ([105, 110, 116, 32] ++ nl ++ [32, 61, 32] ++ xe ++ [59, 10]).length ≤ 900000000) := by have := HLT.out; rw [HQ.out] at this; exact this
        have ce0 : tx (dn) ++ (⟨#[105, 110, 116, 32]⟩ : ByteArray) = tx (dn ++ [105, 110, 116, 32]) := tx_append _ [105, 110, 116, 32]
        have cz0 : (⟨#[105, 110, 116, 32]⟩ : ByteArray).size = 4 := rfl
        have cs0 : ((tx (dn ++ [105, 110, 116, 32])).size : Int) ≤ 900000000 := by rw [tx_size]; have := HLS.out; simp only [List.length_append, List.length_cons, List.length_nil] at this ⊢; omega
        have ce1 : tx (dn ++ [105, 110, 116, 32]) ++ tx nl = tx (dn ++ [105, 110, 116, 32] ++ nl) := tx_append _ _
        have ct1 : ((tx nl).size : Int) ≤ 900000000 := by rw [tx_size]; have := HLS.out; simp only [List.length_append, List.length_cons, List.length_nil] at this; omega
        have cs1 : ((tx (dn ++ [105, 110, 116, 32] ++ nl)).size : Int) ≤ 900000000 := by rw [tx_size]; have := HLS.out; simp only [List.length_append, List.length_cons, List.length_nil] at this ⊢; omega
        have ce2 : tx (dn ++ [105, 110, 116, 32] ++ nl) ++ (⟨#[32, 61, 32]⟩ : ByteArray) = tx (dn ++ [105, 110, 116, 32] ++ nl ++ [32, 61, 32]) := tx_append _ [32, 61, 32]
        have cz2 : (⟨#[32, 61, 32]⟩ : ByteArray).size = 3 := rfl
        have cs2 : ((tx (dn ++ [105, 110, 116, 32] ++ nl ++ [32, 61, 32])).size : Int) ≤ 900000000 := by rw [tx_size]; have := HLS.out; simp only [List.length_append, List.length_cons, List.length_nil] at this ⊢; omega
        have ce3 : tx (dn ++ [105, 110, 116, 32] ++ nl ++ [32, 61, 32]) ++ tx xe = tx (dn ++ [105, 110, 116, 32] ++ nl ++ [32, 61, 32] ++ xe) := tx_append _ _
        have ct3 : ((tx xe).size : Int) ≤ 900000000 := by rw [tx_size]; have := HLS.out; simp only [List.length_append, List.length_cons, List.length_nil] at this; omega
        have cs3 : ((tx (dn ++ [105, 110, 116, 32] ++ nl ++ [32, 61, 32] ++ xe)).size : Int) ≤ 900000000 := by rw [tx_size]; have := HLS.out; simp only [List.length_append, List.length_cons, List.length_nil] at this ⊢; omega
        have ce4 : tx (dn ++ [105, 110, 116, 32] ++ nl ++ [32, 61, 32] ++ xe) ++ (⟨#[59, 10]⟩ : ByteArray) = tx (dn ++ [105, 110, 116, 32] ++ nl ++ [32, 61, 32] ++ xe ++ [59, 10]) := tx_append _ [59, 10]
        have cz4 : (⟨#[59, 10]⟩ : ByteArray).size = 2 := rfl
        have cs4 : ((tx (dn ++ [105, 110, 116, 32] ++ nl ++ [32, 61, 32] ++ xe ++ [59, 10])).size : Int) ≤ 900000000 := by rw [tx_size]; have := HLS.out; simp only [List.length_append, List.length_cons, List.length_nil] at this ⊢; omega
        generalize ch : tx (dn ++ [105, 110, 116, 32] ++ nl ++ [32, 61, 32] ++ xe ++ [59, 10]) = cX5 at ce4 cs4
        have HX : Hid (tx (dn ++ [105, 110, 116, 32] ++ nl ++ [32, 61, 32] ++ xe ++ [59, 10]) = cX5) := ch
        clear ch
        generalize tx (dn ++ [105, 110, 116, 32] ++ nl ++ [32, 61, 32] ++ xe) = cX4 at ce3 cs3 ce4
        generalize tx (dn ++ [105, 110, 116, 32] ++ nl ++ [32, 61, 32]) = cX3 at ce2 cs2 ce3
        generalize tx (dn ++ [105, 110, 116, 32] ++ nl) = cX2 at ce1 cs1 ce2
        generalize tx (dn ++ [105, 110, 116, 32]) = cX1 at ce0 cs0 ce1
        have hsd : ((tx dn).size : Int) ≤ 900000000 := by rw [tx_size]; have := HLS.out; omega
        go_wp2_with fail
        go_roundw
        case rel => exact ⟨k + 1 + tn + ln, dn ++ T, by omega, by go_num, by rw [← HX.out, HQ.out]; simp only [List.append_assoc], HLC2.out, HGC2.out, hB3⟩
        case measure => simp [intOf]; omega
      · -- a setting
        have HQ : Hid (T = nl ++ [32, 61, 32] ++ xe ++ [59, 10]) := HTx.out.symm.trans (by rw [← HXe.out]; simp [stmtT, tx])
        have HLS : Hid (dn.length + (nl ++ [32, 61, 32] ++ xe ++ [59, 10]).length ≤ 900000000) := by have := HLT.out; rw [HQ.out] at this; exact this
        have ce0 : tx (dn) ++ tx nl = tx (dn ++ nl) := tx_append _ _
        have ct0 : ((tx nl).size : Int) ≤ 900000000 := by rw [tx_size]; have := HLS.out; simp only [List.length_append, List.length_cons, List.length_nil] at this; omega
        have cs0 : ((tx (dn ++ nl)).size : Int) ≤ 900000000 := by rw [tx_size]; have := HLS.out; simp only [List.length_append, List.length_cons, List.length_nil] at this ⊢; omega
        have ce1 : tx (dn ++ nl) ++ (⟨#[32, 61, 32]⟩ : ByteArray) = tx (dn ++ nl ++ [32, 61, 32]) := tx_append _ [32, 61, 32]
        have cz1 : (⟨#[32, 61, 32]⟩ : ByteArray).size = 3 := rfl
        have cs1 : ((tx (dn ++ nl ++ [32, 61, 32])).size : Int) ≤ 900000000 := by rw [tx_size]; have := HLS.out; simp only [List.length_append, List.length_cons, List.length_nil] at this ⊢; omega
        have ce2 : tx (dn ++ nl ++ [32, 61, 32]) ++ tx xe = tx (dn ++ nl ++ [32, 61, 32] ++ xe) := tx_append _ _
        have ct2 : ((tx xe).size : Int) ≤ 900000000 := by rw [tx_size]; have := HLS.out; simp only [List.length_append, List.length_cons, List.length_nil] at this; omega
        have cs2 : ((tx (dn ++ nl ++ [32, 61, 32] ++ xe)).size : Int) ≤ 900000000 := by rw [tx_size]; have := HLS.out; simp only [List.length_append, List.length_cons, List.length_nil] at this ⊢; omega
        have ce3 : tx (dn ++ nl ++ [32, 61, 32] ++ xe) ++ (⟨#[59, 10]⟩ : ByteArray) = tx (dn ++ nl ++ [32, 61, 32] ++ xe ++ [59, 10]) := tx_append _ [59, 10]
        have cz3 : (⟨#[59, 10]⟩ : ByteArray).size = 2 := rfl
        have cs3 : ((tx (dn ++ nl ++ [32, 61, 32] ++ xe ++ [59, 10])).size : Int) ≤ 900000000 := by rw [tx_size]; have := HLS.out; simp only [List.length_append, List.length_cons, List.length_nil] at this ⊢; omega
        generalize ch : tx (dn ++ nl ++ [32, 61, 32] ++ xe ++ [59, 10]) = cX4 at ce3 cs3
        have HX : Hid (tx (dn ++ nl ++ [32, 61, 32] ++ xe ++ [59, 10]) = cX4) := ch
        clear ch
        generalize tx (dn ++ nl ++ [32, 61, 32] ++ xe) = cX3 at ce2 cs2 ce3
        generalize tx (dn ++ nl ++ [32, 61, 32]) = cX2 at ce1 cs1 ce2
        generalize tx (dn ++ nl) = cX1 at ce0 cs0 ce1
        have hsd : ((tx dn).size : Int) ≤ 900000000 := by rw [tx_size]; have := HLS.out; omega
        go_wp2_with fail
        go_roundw
        case rel => exact ⟨k + 1 + tn + ln, dn ++ T, by omega, by go_num, by rw [← HX.out, HQ.out]; simp only [List.append_assoc], HLC2.out, HGC2.out, hB3⟩
        case measure => simp [intOf]; omega
      · -- a store
        go_upto_region 12 with fail
        have HQ : Hid (T = nl ++ [91] ++ xe ++ [93, 32, 61, 32] ++ xf ++ [59, 10]) := HTx.out.symm.trans (by rw [← HXe.out, ← HXf.out]; simp [stmtT, tx])
        have HLS : Hid (dn.length + (nl ++ [91] ++ xe ++ [93, 32, 61, 32] ++ xf ++ [59, 10]).length ≤ 900000000) := by have := HLT.out; rw [HQ.out] at this; exact this
        have ce0 : tx (dn) ++ tx nl = tx (dn ++ nl) := tx_append _ _
        have ct0 : ((tx nl).size : Int) ≤ 900000000 := by rw [tx_size]; have := HLS.out; simp only [List.length_append, List.length_cons, List.length_nil] at this; omega
        have cs0 : ((tx (dn ++ nl)).size : Int) ≤ 900000000 := by rw [tx_size]; have := HLS.out; simp only [List.length_append, List.length_cons, List.length_nil] at this ⊢; omega
        have ce1 : tx (dn ++ nl) ++ (⟨#[91]⟩ : ByteArray) = tx (dn ++ nl ++ [91]) := tx_append _ [91]
        have cz1 : (⟨#[91]⟩ : ByteArray).size = 1 := rfl
        have cs1 : ((tx (dn ++ nl ++ [91])).size : Int) ≤ 900000000 := by rw [tx_size]; have := HLS.out; simp only [List.length_append, List.length_cons, List.length_nil] at this ⊢; omega
        have ce2 : tx (dn ++ nl ++ [91]) ++ tx xe = tx (dn ++ nl ++ [91] ++ xe) := tx_append _ _
        have ct2 : ((tx xe).size : Int) ≤ 900000000 := by rw [tx_size]; have := HLS.out; simp only [List.length_append, List.length_cons, List.length_nil] at this; omega
        have cs2 : ((tx (dn ++ nl ++ [91] ++ xe)).size : Int) ≤ 900000000 := by rw [tx_size]; have := HLS.out; simp only [List.length_append, List.length_cons, List.length_nil] at this ⊢; omega
        have ce3 : tx (dn ++ nl ++ [91] ++ xe) ++ (⟨#[93, 32, 61, 32]⟩ : ByteArray) = tx (dn ++ nl ++ [91] ++ xe ++ [93, 32, 61, 32]) := tx_append _ [93, 32, 61, 32]
        have cz3 : (⟨#[93, 32, 61, 32]⟩ : ByteArray).size = 4 := rfl
        have cs3 : ((tx (dn ++ nl ++ [91] ++ xe ++ [93, 32, 61, 32])).size : Int) ≤ 900000000 := by rw [tx_size]; have := HLS.out; simp only [List.length_append, List.length_cons, List.length_nil] at this ⊢; omega
        have ce4 : tx (dn ++ nl ++ [91] ++ xe ++ [93, 32, 61, 32]) ++ tx xf = tx (dn ++ nl ++ [91] ++ xe ++ [93, 32, 61, 32] ++ xf) := tx_append _ _
        have ct4 : ((tx xf).size : Int) ≤ 900000000 := by rw [tx_size]; have := HLS.out; simp only [List.length_append, List.length_cons, List.length_nil] at this; omega
        have cs4 : ((tx (dn ++ nl ++ [91] ++ xe ++ [93, 32, 61, 32] ++ xf)).size : Int) ≤ 900000000 := by rw [tx_size]; have := HLS.out; simp only [List.length_append, List.length_cons, List.length_nil] at this ⊢; omega
        have ce5 : tx (dn ++ nl ++ [91] ++ xe ++ [93, 32, 61, 32] ++ xf) ++ (⟨#[59, 10]⟩ : ByteArray) = tx (dn ++ nl ++ [91] ++ xe ++ [93, 32, 61, 32] ++ xf ++ [59, 10]) := tx_append _ [59, 10]
        have cz5 : (⟨#[59, 10]⟩ : ByteArray).size = 2 := rfl
        have cs5 : ((tx (dn ++ nl ++ [91] ++ xe ++ [93, 32, 61, 32] ++ xf ++ [59, 10])).size : Int) ≤ 900000000 := by rw [tx_size]; have := HLS.out; simp only [List.length_append, List.length_cons, List.length_nil] at this ⊢; omega
        generalize ch : tx (dn ++ nl ++ [91] ++ xe ++ [93, 32, 61, 32] ++ xf ++ [59, 10]) = cX6 at ce5 cs5
        have HX : Hid (tx (dn ++ nl ++ [91] ++ xe ++ [93, 32, 61, 32] ++ xf ++ [59, 10]) = cX6) := ch
        clear ch
        generalize tx (dn ++ nl ++ [91] ++ xe ++ [93, 32, 61, 32] ++ xf) = cX5 at ce4 cs4 ce5
        generalize tx (dn ++ nl ++ [91] ++ xe ++ [93, 32, 61, 32]) = cX4 at ce3 cs3 ce4
        generalize tx (dn ++ nl ++ [91] ++ xe) = cX3 at ce2 cs2 ce3
        generalize tx (dn ++ nl ++ [91]) = cX2 at ce1 cs1 ce2
        generalize tx (dn ++ nl) = cX1 at ce0 cs0 ce1
        have hsd : ((tx dn).size : Int) ≤ 900000000 := by rw [tx_size]; have := HLS.out; omega
        have m0 : ¬ 9223372036854775807 < (tx dn).size + (tx nl).size := by omega
        have m1 : ¬ 9223372036854775807 < cX1.size + 1 := by omega
        have m2 : ¬ 9223372036854775807 < cX2.size + (tx xe).size := by omega
        have m3 : ¬ 9223372036854775807 < cX3.size + 4 := by omega
        have m4 : ¬ 9223372036854775807 < cX4.size + (tx xf).size := by omega
        have m5 : ¬ 9223372036854775807 < cX5.size + 2 := by omega
        have y1 := cell_regrown x1
        have y3 := cell_regrown x3
        have cS : ∀ d os, Calls Tryz.prog 32 #[.slice a3 n3 k3] (grow (redrawn w3 d) os) fun e w'' => e = .returned (.string (tx xf)) ∧ ∃ p : Regrown, w'' = grow (redrawn w3 p.d) p.os := fun d os => Calls.regrown_of (HSf.out trivial _ (HB03.out.trans ((below_regrown w3 d os).mono HB03.out.size)))
        refine wp_region_quiet_below (by kernel_rfl) (by kernel_rfl) ?_
        repeat (go_big_quiet_step (first | (with_reducible exact cS _ _)))
        refine wpQuiet_nil ?_
        intro V hV'
        obtain ⟨⟨dq, osq⟩, hw''⟩ := hV'
        have hV : Below w3.heap.size w3 V := by rw [hw'']; exact below_regrown w3 dq osq
        clear hw'' y1 y3 cS
        replace x4 := (hV.cell (p := ⟨H, 4, none⟩) hH3).trans x4
        replace x5 := (hV.cell (p := ⟨H, 5, none⟩) hH3).trans x5
        go_wp2_with fail
        go_roundw
        case rel => exact ⟨k + 1 + tn + ln, dn ++ T, by omega, by go_num, by rw [← HX.out, HQ.out]; simp only [List.append_assoc], HLC2.out, HGC2.out, hB3.trans (hV.mono hB3.size)⟩
        case measure => simp [intOf]; omega
      · -- a choice
        by_cases hel : ln = 0
        · subst hel
          have HQ : Hid (T = [105, 102, 32, 40] ++ xe ++ [41, 32, 123, 10] ++ ta ++ [125, 10]) := HTx.out.symm.trans (by rw [← HXe.out]; simp [stmtT, tx])
          have HLS : Hid (dn.length + ([105, 102, 32, 40] ++ xe ++ [41, 32, 123, 10] ++ ta ++ [125, 10]).length ≤ 900000000) := by have := HLT.out; rw [HQ.out] at this; exact this
          have ce0 : tx (dn) ++ (⟨#[105, 102, 32, 40]⟩ : ByteArray) = tx (dn ++ [105, 102, 32, 40]) := tx_append _ [105, 102, 32, 40]
          have cz0 : (⟨#[105, 102, 32, 40]⟩ : ByteArray).size = 4 := rfl
          have cs0 : ((tx (dn ++ [105, 102, 32, 40])).size : Int) ≤ 900000000 := by rw [tx_size]; have := HLS.out; simp only [List.length_append, List.length_cons, List.length_nil] at this ⊢; omega
          have ce1 : tx (dn ++ [105, 102, 32, 40]) ++ tx xe = tx (dn ++ [105, 102, 32, 40] ++ xe) := tx_append _ _
          have ct1 : ((tx xe).size : Int) ≤ 900000000 := by rw [tx_size]; have := HLS.out; simp only [List.length_append, List.length_cons, List.length_nil] at this; omega
          have cs1 : ((tx (dn ++ [105, 102, 32, 40] ++ xe)).size : Int) ≤ 900000000 := by rw [tx_size]; have := HLS.out; simp only [List.length_append, List.length_cons, List.length_nil] at this ⊢; omega
          have ce2 : tx (dn ++ [105, 102, 32, 40] ++ xe) ++ (⟨#[41, 32, 123, 10]⟩ : ByteArray) = tx (dn ++ [105, 102, 32, 40] ++ xe ++ [41, 32, 123, 10]) := tx_append _ [41, 32, 123, 10]
          have cz2 : (⟨#[41, 32, 123, 10]⟩ : ByteArray).size = 4 := rfl
          have cs2 : ((tx (dn ++ [105, 102, 32, 40] ++ xe ++ [41, 32, 123, 10])).size : Int) ≤ 900000000 := by rw [tx_size]; have := HLS.out; simp only [List.length_append, List.length_cons, List.length_nil] at this ⊢; omega
          have ce3 : tx (dn ++ [105, 102, 32, 40] ++ xe ++ [41, 32, 123, 10]) ++ tx ta = tx (dn ++ [105, 102, 32, 40] ++ xe ++ [41, 32, 123, 10] ++ ta) := tx_append _ _
          have ct3 : ((tx ta).size : Int) ≤ 900000000 := by rw [tx_size]; have := HLS.out; simp only [List.length_append, List.length_cons, List.length_nil] at this; omega
          have cs3 : ((tx (dn ++ [105, 102, 32, 40] ++ xe ++ [41, 32, 123, 10] ++ ta)).size : Int) ≤ 900000000 := by rw [tx_size]; have := HLS.out; simp only [List.length_append, List.length_cons, List.length_nil] at this ⊢; omega
          have ce4 : tx (dn ++ [105, 102, 32, 40] ++ xe ++ [41, 32, 123, 10] ++ ta) ++ (⟨#[125, 10]⟩ : ByteArray) = tx (dn ++ [105, 102, 32, 40] ++ xe ++ [41, 32, 123, 10] ++ ta ++ [125, 10]) := tx_append _ [125, 10]
          have cz4 : (⟨#[125, 10]⟩ : ByteArray).size = 2 := rfl
          have cs4 : ((tx (dn ++ [105, 102, 32, 40] ++ xe ++ [41, 32, 123, 10] ++ ta ++ [125, 10])).size : Int) ≤ 900000000 := by rw [tx_size]; have := HLS.out; simp only [List.length_append, List.length_cons, List.length_nil] at this ⊢; omega
          generalize ch : tx (dn ++ [105, 102, 32, 40] ++ xe ++ [41, 32, 123, 10] ++ ta ++ [125, 10]) = cX5 at ce4 cs4
          have HX : Hid (tx (dn ++ [105, 102, 32, 40] ++ xe ++ [41, 32, 123, 10] ++ ta ++ [125, 10]) = cX5) := ch
          clear ch
          generalize tx (dn ++ [105, 102, 32, 40] ++ xe ++ [41, 32, 123, 10] ++ ta) = cX4 at ce3 cs3 ce4
          generalize tx (dn ++ [105, 102, 32, 40] ++ xe ++ [41, 32, 123, 10]) = cX3 at ce2 cs2 ce3
          generalize tx (dn ++ [105, 102, 32, 40] ++ xe) = cX2 at ce1 cs1 ce2
          generalize tx (dn ++ [105, 102, 32, 40]) = cX1 at ce0 cs0 ce1
          have hsd : ((tx dn).size : Int) ≤ 900000000 := by rw [tx_size]; have := HLS.out; omega
          have HLA : Hid (LinesS w0 (.slice a5 tn k5) ta) := HLA1.out (by have := HLS.out; simp only [List.length_append] at this; omega)
          go_wp2_with fail
          refine (HLA.out w3 HB03.out).mono ?_
          rintro x w4 ⟨rfl, hb4⟩
          replace x4 := (hb4.cell (p := ⟨H, 4, none⟩) hH3).trans x4
          replace x5 := (hb4.cell (p := ⟨H, 5, none⟩) hH3).trans x5
          go_wp2_with fail
          go_roundw
          case rel => exact ⟨k + 1 + tn + 0, dn ++ T, by omega, by go_num, by rw [← HX.out, HQ.out]; simp only [List.append_assoc], HLC2.out, HGC2.out, hB3.trans (hb4.mono hB3.size)⟩
          case measure => simp [intOf]; omega
        · have HQ : Hid (T = [105, 102, 32, 40] ++ xe ++ [41, 32, 123, 10] ++ ta ++ [125, 32, 101, 108, 115, 101, 32, 123, 10] ++ tb ++ [125, 10]) := HTx.out.symm.trans (by rw [← HXe.out]; simp [stmtT, tx, hel])
          have HLS : Hid (dn.length + ([105, 102, 32, 40] ++ xe ++ [41, 32, 123, 10] ++ ta ++ [125, 32, 101, 108, 115, 101, 32, 123, 10] ++ tb ++ [125, 10]).length ≤ 900000000) := by have := HLT.out; rw [HQ.out] at this; exact this
          have ce0 : tx (dn) ++ (⟨#[105, 102, 32, 40]⟩ : ByteArray) = tx (dn ++ [105, 102, 32, 40]) := tx_append _ [105, 102, 32, 40]
          have cz0 : (⟨#[105, 102, 32, 40]⟩ : ByteArray).size = 4 := rfl
          have cs0 : ((tx (dn ++ [105, 102, 32, 40])).size : Int) ≤ 900000000 := by rw [tx_size]; have := HLS.out; simp only [List.length_append, List.length_cons, List.length_nil] at this ⊢; omega
          have ce1 : tx (dn ++ [105, 102, 32, 40]) ++ tx xe = tx (dn ++ [105, 102, 32, 40] ++ xe) := tx_append _ _
          have ct1 : ((tx xe).size : Int) ≤ 900000000 := by rw [tx_size]; have := HLS.out; simp only [List.length_append, List.length_cons, List.length_nil] at this; omega
          have cs1 : ((tx (dn ++ [105, 102, 32, 40] ++ xe)).size : Int) ≤ 900000000 := by rw [tx_size]; have := HLS.out; simp only [List.length_append, List.length_cons, List.length_nil] at this ⊢; omega
          have ce2 : tx (dn ++ [105, 102, 32, 40] ++ xe) ++ (⟨#[41, 32, 123, 10]⟩ : ByteArray) = tx (dn ++ [105, 102, 32, 40] ++ xe ++ [41, 32, 123, 10]) := tx_append _ [41, 32, 123, 10]
          have cz2 : (⟨#[41, 32, 123, 10]⟩ : ByteArray).size = 4 := rfl
          have cs2 : ((tx (dn ++ [105, 102, 32, 40] ++ xe ++ [41, 32, 123, 10])).size : Int) ≤ 900000000 := by rw [tx_size]; have := HLS.out; simp only [List.length_append, List.length_cons, List.length_nil] at this ⊢; omega
          have ce3 : tx (dn ++ [105, 102, 32, 40] ++ xe ++ [41, 32, 123, 10]) ++ tx ta = tx (dn ++ [105, 102, 32, 40] ++ xe ++ [41, 32, 123, 10] ++ ta) := tx_append _ _
          have ct3 : ((tx ta).size : Int) ≤ 900000000 := by rw [tx_size]; have := HLS.out; simp only [List.length_append, List.length_cons, List.length_nil] at this; omega
          have cs3 : ((tx (dn ++ [105, 102, 32, 40] ++ xe ++ [41, 32, 123, 10] ++ ta)).size : Int) ≤ 900000000 := by rw [tx_size]; have := HLS.out; simp only [List.length_append, List.length_cons, List.length_nil] at this ⊢; omega
          have ce4 : tx (dn ++ [105, 102, 32, 40] ++ xe ++ [41, 32, 123, 10] ++ ta) ++ (⟨#[125, 32, 101, 108, 115, 101, 32, 123, 10]⟩ : ByteArray) = tx (dn ++ [105, 102, 32, 40] ++ xe ++ [41, 32, 123, 10] ++ ta ++ [125, 32, 101, 108, 115, 101, 32, 123, 10]) := tx_append _ [125, 32, 101, 108, 115, 101, 32, 123, 10]
          have cz4 : (⟨#[125, 32, 101, 108, 115, 101, 32, 123, 10]⟩ : ByteArray).size = 9 := rfl
          have cs4 : ((tx (dn ++ [105, 102, 32, 40] ++ xe ++ [41, 32, 123, 10] ++ ta ++ [125, 32, 101, 108, 115, 101, 32, 123, 10])).size : Int) ≤ 900000000 := by rw [tx_size]; have := HLS.out; simp only [List.length_append, List.length_cons, List.length_nil] at this ⊢; omega
          have ce5 : tx (dn ++ [105, 102, 32, 40] ++ xe ++ [41, 32, 123, 10] ++ ta ++ [125, 32, 101, 108, 115, 101, 32, 123, 10]) ++ tx tb = tx (dn ++ [105, 102, 32, 40] ++ xe ++ [41, 32, 123, 10] ++ ta ++ [125, 32, 101, 108, 115, 101, 32, 123, 10] ++ tb) := tx_append _ _
          have ct5 : ((tx tb).size : Int) ≤ 900000000 := by rw [tx_size]; have := HLS.out; simp only [List.length_append, List.length_cons, List.length_nil] at this; omega
          have cs5 : ((tx (dn ++ [105, 102, 32, 40] ++ xe ++ [41, 32, 123, 10] ++ ta ++ [125, 32, 101, 108, 115, 101, 32, 123, 10] ++ tb)).size : Int) ≤ 900000000 := by rw [tx_size]; have := HLS.out; simp only [List.length_append, List.length_cons, List.length_nil] at this ⊢; omega
          have ce6 : tx (dn ++ [105, 102, 32, 40] ++ xe ++ [41, 32, 123, 10] ++ ta ++ [125, 32, 101, 108, 115, 101, 32, 123, 10] ++ tb) ++ (⟨#[125, 10]⟩ : ByteArray) = tx (dn ++ [105, 102, 32, 40] ++ xe ++ [41, 32, 123, 10] ++ ta ++ [125, 32, 101, 108, 115, 101, 32, 123, 10] ++ tb ++ [125, 10]) := tx_append _ [125, 10]
          have cz6 : (⟨#[125, 10]⟩ : ByteArray).size = 2 := rfl
          have cs6 : ((tx (dn ++ [105, 102, 32, 40] ++ xe ++ [41, 32, 123, 10] ++ ta ++ [125, 32, 101, 108, 115, 101, 32, 123, 10] ++ tb ++ [125, 10])).size : Int) ≤ 900000000 := by rw [tx_size]; have := HLS.out; simp only [List.length_append, List.length_cons, List.length_nil] at this ⊢; omega
          generalize ch : tx (dn ++ [105, 102, 32, 40] ++ xe ++ [41, 32, 123, 10] ++ ta ++ [125, 32, 101, 108, 115, 101, 32, 123, 10] ++ tb ++ [125, 10]) = cX7 at ce6 cs6
          have HX : Hid (tx (dn ++ [105, 102, 32, 40] ++ xe ++ [41, 32, 123, 10] ++ ta ++ [125, 32, 101, 108, 115, 101, 32, 123, 10] ++ tb ++ [125, 10]) = cX7) := ch
          clear ch
          generalize tx (dn ++ [105, 102, 32, 40] ++ xe ++ [41, 32, 123, 10] ++ ta ++ [125, 32, 101, 108, 115, 101, 32, 123, 10] ++ tb) = cX6 at ce5 cs5 ce6
          generalize tx (dn ++ [105, 102, 32, 40] ++ xe ++ [41, 32, 123, 10] ++ ta ++ [125, 32, 101, 108, 115, 101, 32, 123, 10]) = cX5 at ce4 cs4 ce5
          generalize tx (dn ++ [105, 102, 32, 40] ++ xe ++ [41, 32, 123, 10] ++ ta) = cX4 at ce3 cs3 ce4
          generalize tx (dn ++ [105, 102, 32, 40] ++ xe ++ [41, 32, 123, 10]) = cX3 at ce2 cs2 ce3
          generalize tx (dn ++ [105, 102, 32, 40] ++ xe) = cX2 at ce1 cs1 ce2
          generalize tx (dn ++ [105, 102, 32, 40]) = cX1 at ce0 cs0 ce1
          have hsd : ((tx dn).size : Int) ≤ 900000000 := by rw [tx_size]; have := HLS.out; omega
          have hlp : (0 : Int) < (ln : Int) := by omega
          obtain ⟨li, hli⟩ : ∃ li : Int, li = (ln : Int) := ⟨_, rfl⟩
          rw [← hli] at x5 hr6 hlp hk3
          have HLi2 : Hid (li = (ln : Int)) := hli
          clear hli
          have HLB : Hid (LinesS w0 (.slice a6 ln k6) tb) := HLB1.out (by have := HLS.out; simp only [List.length_append] at this; omega)
          have HLA : Hid (LinesS w0 (.slice a5 tn k5) ta) := HLA1.out (by have := HLS.out; simp only [List.length_append] at this; omega)
          go_wp2_with fail
          refine (HLA.out w3 HB03.out).mono ?_
          rintro x w4 ⟨rfl, hb4⟩
          replace x4 := (hb4.cell (p := ⟨H, 4, none⟩) hH3).trans x4
          replace x5 := (hb4.cell (p := ⟨H, 5, none⟩) hH3).trans x5
          have hH4 : H < w4.heap.size := Nat.lt_of_lt_of_le hH3 hb4.size
          go_wp2_with fail
          refine (HLB.out w4 (HB03.out.trans (hb4.mono HB03.out.size))).mono ?_
          rintro x w5 ⟨rfl, hb5⟩
          replace x4 := (hb5.cell (p := ⟨H, 4, none⟩) hH4).trans x4
          replace x5 := (hb5.cell (p := ⟨H, 5, none⟩) hH4).trans x5
          have hb35 := hb4.trans (hb5.mono hb4.size)
          go_wp2_with fail
          go_roundw
          case rel => exact ⟨k + 1 + tn + ln, dn ++ T, by omega, by rw [HLi2.out]; go_num, by rw [← HX.out, HQ.out]; simp only [List.append_assoc], HLC2.out, HGC2.out, hB3.trans (hb35.mono hB3.size)⟩
          case measure => rw [HLi2.out]; simp [intOf]; omega
      · -- a loop
        have HQ : Hid (T = [119, 104, 105, 108, 101, 32, 40] ++ xe ++ [41, 32, 123, 10] ++ ta ++ [125, 10]) := HTx.out.symm.trans (by rw [← HXe.out]; simp [stmtT, tx])
        have HLS : Hid (dn.length + ([119, 104, 105, 108, 101, 32, 40] ++ xe ++ [41, 32, 123, 10] ++ ta ++ [125, 10]).length ≤ 900000000) := by have := HLT.out; rw [HQ.out] at this; exact this
        have ce0 : tx (dn) ++ (⟨#[119, 104, 105, 108, 101, 32, 40]⟩ : ByteArray) = tx (dn ++ [119, 104, 105, 108, 101, 32, 40]) := tx_append _ [119, 104, 105, 108, 101, 32, 40]
        have cz0 : (⟨#[119, 104, 105, 108, 101, 32, 40]⟩ : ByteArray).size = 7 := rfl
        have cs0 : ((tx (dn ++ [119, 104, 105, 108, 101, 32, 40])).size : Int) ≤ 900000000 := by rw [tx_size]; have := HLS.out; simp only [List.length_append, List.length_cons, List.length_nil] at this ⊢; omega
        have ce1 : tx (dn ++ [119, 104, 105, 108, 101, 32, 40]) ++ tx xe = tx (dn ++ [119, 104, 105, 108, 101, 32, 40] ++ xe) := tx_append _ _
        have ct1 : ((tx xe).size : Int) ≤ 900000000 := by rw [tx_size]; have := HLS.out; simp only [List.length_append, List.length_cons, List.length_nil] at this; omega
        have cs1 : ((tx (dn ++ [119, 104, 105, 108, 101, 32, 40] ++ xe)).size : Int) ≤ 900000000 := by rw [tx_size]; have := HLS.out; simp only [List.length_append, List.length_cons, List.length_nil] at this ⊢; omega
        have ce2 : tx (dn ++ [119, 104, 105, 108, 101, 32, 40] ++ xe) ++ (⟨#[41, 32, 123, 10]⟩ : ByteArray) = tx (dn ++ [119, 104, 105, 108, 101, 32, 40] ++ xe ++ [41, 32, 123, 10]) := tx_append _ [41, 32, 123, 10]
        have cz2 : (⟨#[41, 32, 123, 10]⟩ : ByteArray).size = 4 := rfl
        have cs2 : ((tx (dn ++ [119, 104, 105, 108, 101, 32, 40] ++ xe ++ [41, 32, 123, 10])).size : Int) ≤ 900000000 := by rw [tx_size]; have := HLS.out; simp only [List.length_append, List.length_cons, List.length_nil] at this ⊢; omega
        have ce3 : tx (dn ++ [119, 104, 105, 108, 101, 32, 40] ++ xe ++ [41, 32, 123, 10]) ++ tx ta = tx (dn ++ [119, 104, 105, 108, 101, 32, 40] ++ xe ++ [41, 32, 123, 10] ++ ta) := tx_append _ _
        have ct3 : ((tx ta).size : Int) ≤ 900000000 := by rw [tx_size]; have := HLS.out; simp only [List.length_append, List.length_cons, List.length_nil] at this; omega
        have cs3 : ((tx (dn ++ [119, 104, 105, 108, 101, 32, 40] ++ xe ++ [41, 32, 123, 10] ++ ta)).size : Int) ≤ 900000000 := by rw [tx_size]; have := HLS.out; simp only [List.length_append, List.length_cons, List.length_nil] at this ⊢; omega
        have ce4 : tx (dn ++ [119, 104, 105, 108, 101, 32, 40] ++ xe ++ [41, 32, 123, 10] ++ ta) ++ (⟨#[125, 10]⟩ : ByteArray) = tx (dn ++ [119, 104, 105, 108, 101, 32, 40] ++ xe ++ [41, 32, 123, 10] ++ ta ++ [125, 10]) := tx_append _ [125, 10]
        have cz4 : (⟨#[125, 10]⟩ : ByteArray).size = 2 := rfl
        have cs4 : ((tx (dn ++ [119, 104, 105, 108, 101, 32, 40] ++ xe ++ [41, 32, 123, 10] ++ ta ++ [125, 10])).size : Int) ≤ 900000000 := by rw [tx_size]; have := HLS.out; simp only [List.length_append, List.length_cons, List.length_nil] at this ⊢; omega
        generalize ch : tx (dn ++ [119, 104, 105, 108, 101, 32, 40] ++ xe ++ [41, 32, 123, 10] ++ ta ++ [125, 10]) = cX5 at ce4 cs4
        have HX : Hid (tx (dn ++ [119, 104, 105, 108, 101, 32, 40] ++ xe ++ [41, 32, 123, 10] ++ ta ++ [125, 10]) = cX5) := ch
        clear ch
        generalize tx (dn ++ [119, 104, 105, 108, 101, 32, 40] ++ xe ++ [41, 32, 123, 10] ++ ta) = cX4 at ce3 cs3 ce4
        generalize tx (dn ++ [119, 104, 105, 108, 101, 32, 40] ++ xe ++ [41, 32, 123, 10]) = cX3 at ce2 cs2 ce3
        generalize tx (dn ++ [119, 104, 105, 108, 101, 32, 40] ++ xe) = cX2 at ce1 cs1 ce2
        generalize tx (dn ++ [119, 104, 105, 108, 101, 32, 40]) = cX1 at ce0 cs0 ce1
        have hsd : ((tx dn).size : Int) ≤ 900000000 := by rw [tx_size]; have := HLS.out; omega
        have HLA : Hid (LinesS w0 (.slice a5 tn k5) ta) := HLA1.out (by have := HLS.out; simp only [List.length_append] at this; omega)
        go_wp2_with fail
        refine (HLA.out w3 HB03.out).mono ?_
        rintro x w4 ⟨rfl, hb4⟩
        replace x4 := (hb4.cell (p := ⟨H, 4, none⟩) hH3).trans x4
        replace x5 := (hb4.cell (p := ⟨H, 5, none⟩) hH3).trans x5
        go_wp2_with fail
        go_roundw
        case rel => exact ⟨k + 1 + tn + ln, dn ++ T, by omega, by go_num, by rw [← HX.out, HQ.out]; simp only [List.append_assoc], HLC2.out, HGC2.out, hB3.trans (hb4.mono hB3.size)⟩
        case measure => simp [intOf]; omega
      · -- a return
        have HQ : Hid (T = [114, 101, 116, 117, 114, 110, 32] ++ xe ++ [59, 10]) := HTx.out.symm.trans (by rw [← HXe.out]; simp [stmtT, tx])
        have HLS : Hid (dn.length + ([114, 101, 116, 117, 114, 110, 32] ++ xe ++ [59, 10]).length ≤ 900000000) := by have := HLT.out; rw [HQ.out] at this; exact this
        have ce0 : tx (dn) ++ (⟨#[114, 101, 116, 117, 114, 110, 32]⟩ : ByteArray) = tx (dn ++ [114, 101, 116, 117, 114, 110, 32]) := tx_append _ [114, 101, 116, 117, 114, 110, 32]
        have cz0 : (⟨#[114, 101, 116, 117, 114, 110, 32]⟩ : ByteArray).size = 7 := rfl
        have cs0 : ((tx (dn ++ [114, 101, 116, 117, 114, 110, 32])).size : Int) ≤ 900000000 := by rw [tx_size]; have := HLS.out; simp only [List.length_append, List.length_cons, List.length_nil] at this ⊢; omega
        have ce1 : tx (dn ++ [114, 101, 116, 117, 114, 110, 32]) ++ tx xe = tx (dn ++ [114, 101, 116, 117, 114, 110, 32] ++ xe) := tx_append _ _
        have ct1 : ((tx xe).size : Int) ≤ 900000000 := by rw [tx_size]; have := HLS.out; simp only [List.length_append, List.length_cons, List.length_nil] at this; omega
        have cs1 : ((tx (dn ++ [114, 101, 116, 117, 114, 110, 32] ++ xe)).size : Int) ≤ 900000000 := by rw [tx_size]; have := HLS.out; simp only [List.length_append, List.length_cons, List.length_nil] at this ⊢; omega
        have ce2 : tx (dn ++ [114, 101, 116, 117, 114, 110, 32] ++ xe) ++ (⟨#[59, 10]⟩ : ByteArray) = tx (dn ++ [114, 101, 116, 117, 114, 110, 32] ++ xe ++ [59, 10]) := tx_append _ [59, 10]
        have cz2 : (⟨#[59, 10]⟩ : ByteArray).size = 2 := rfl
        have cs2 : ((tx (dn ++ [114, 101, 116, 117, 114, 110, 32] ++ xe ++ [59, 10])).size : Int) ≤ 900000000 := by rw [tx_size]; have := HLS.out; simp only [List.length_append, List.length_cons, List.length_nil] at this ⊢; omega
        generalize ch : tx (dn ++ [114, 101, 116, 117, 114, 110, 32] ++ xe ++ [59, 10]) = cX3 at ce2 cs2
        have HX : Hid (tx (dn ++ [114, 101, 116, 117, 114, 110, 32] ++ xe ++ [59, 10]) = cX3) := ch
        clear ch
        generalize tx (dn ++ [114, 101, 116, 117, 114, 110, 32] ++ xe) = cX2 at ce1 cs1 ce2
        generalize tx (dn ++ [114, 101, 116, 117, 114, 110, 32]) = cX1 at ce0 cs0 ce1
        have hsd : ((tx dn).size : Int) ≤ 900000000 := by rw [tx_size]; have := HLS.out; omega
        go_wp2_with fail
        go_roundw
        case rel => exact ⟨k + 1 + tn + ln, dn ++ T, by omega, by go_num, by rw [← HX.out, HQ.out]; simp only [List.append_assoc], HLC2.out, HGC2.out, hB3⟩
        case measure => simp [intOf]; omega
      · -- an output
        have HQ : Hid (T = [111, 117, 116, 40] ++ xe ++ [41, 59, 10]) := HTx.out.symm.trans (by rw [← HXe.out]; simp [stmtT, tx])
        have HLS : Hid (dn.length + ([111, 117, 116, 40] ++ xe ++ [41, 59, 10]).length ≤ 900000000) := by have := HLT.out; rw [HQ.out] at this; exact this
        have ce0 : tx (dn) ++ (⟨#[111, 117, 116, 40]⟩ : ByteArray) = tx (dn ++ [111, 117, 116, 40]) := tx_append _ [111, 117, 116, 40]
        have cz0 : (⟨#[111, 117, 116, 40]⟩ : ByteArray).size = 4 := rfl
        have cs0 : ((tx (dn ++ [111, 117, 116, 40])).size : Int) ≤ 900000000 := by rw [tx_size]; have := HLS.out; simp only [List.length_append, List.length_cons, List.length_nil] at this ⊢; omega
        have ce1 : tx (dn ++ [111, 117, 116, 40]) ++ tx xe = tx (dn ++ [111, 117, 116, 40] ++ xe) := tx_append _ _
        have ct1 : ((tx xe).size : Int) ≤ 900000000 := by rw [tx_size]; have := HLS.out; simp only [List.length_append, List.length_cons, List.length_nil] at this; omega
        have cs1 : ((tx (dn ++ [111, 117, 116, 40] ++ xe)).size : Int) ≤ 900000000 := by rw [tx_size]; have := HLS.out; simp only [List.length_append, List.length_cons, List.length_nil] at this ⊢; omega
        have ce2 : tx (dn ++ [111, 117, 116, 40] ++ xe) ++ (⟨#[41, 59, 10]⟩ : ByteArray) = tx (dn ++ [111, 117, 116, 40] ++ xe ++ [41, 59, 10]) := tx_append _ [41, 59, 10]
        have cz2 : (⟨#[41, 59, 10]⟩ : ByteArray).size = 3 := rfl
        have cs2 : ((tx (dn ++ [111, 117, 116, 40] ++ xe ++ [41, 59, 10])).size : Int) ≤ 900000000 := by rw [tx_size]; have := HLS.out; simp only [List.length_append, List.length_cons, List.length_nil] at this ⊢; omega
        generalize ch : tx (dn ++ [111, 117, 116, 40] ++ xe ++ [41, 59, 10]) = cX3 at ce2 cs2
        have HX : Hid (tx (dn ++ [111, 117, 116, 40] ++ xe ++ [41, 59, 10]) = cX3) := ch
        clear ch
        generalize tx (dn ++ [111, 117, 116, 40] ++ xe) = cX2 at ce1 cs1 ce2
        generalize tx (dn ++ [111, 117, 116, 40]) = cX1 at ce0 cs0 ce1
        have hsd : ((tx dn).size : Int) ≤ 900000000 := by rw [tx_size]; have := HLS.out; omega
        go_wp2_with fail
        go_roundw
        case rel => exact ⟨k + 1 + tn + ln, dn ++ T, by omega, by go_num, by rw [← HX.out, HQ.out]; simp only [List.append_assoc], HLC2.out, HGC2.out, hB3⟩
        case measure => simp [intOf]; omega
      · -- a call
        have HQ : Hid (T = xe ++ [59, 10]) := HTx.out.symm.trans (by rw [← HXe.out]; simp [stmtT, tx])
        have HLS : Hid (dn.length + (xe ++ [59, 10]).length ≤ 900000000) := by have := HLT.out; rw [HQ.out] at this; exact this
        have ce0 : tx (dn) ++ tx xe = tx (dn ++ xe) := tx_append _ _
        have ct0 : ((tx xe).size : Int) ≤ 900000000 := by rw [tx_size]; have := HLS.out; simp only [List.length_append, List.length_cons, List.length_nil] at this; omega
        have cs0 : ((tx (dn ++ xe)).size : Int) ≤ 900000000 := by rw [tx_size]; have := HLS.out; simp only [List.length_append, List.length_cons, List.length_nil] at this ⊢; omega
        have ce1 : tx (dn ++ xe) ++ (⟨#[59, 10]⟩ : ByteArray) = tx (dn ++ xe ++ [59, 10]) := tx_append _ [59, 10]
        have cz1 : (⟨#[59, 10]⟩ : ByteArray).size = 2 := rfl
        have cs1 : ((tx (dn ++ xe ++ [59, 10])).size : Int) ≤ 900000000 := by rw [tx_size]; have := HLS.out; simp only [List.length_append, List.length_cons, List.length_nil] at this ⊢; omega
        generalize ch : tx (dn ++ xe ++ [59, 10]) = cX2 at ce1 cs1
        have HX : Hid (tx (dn ++ xe ++ [59, 10]) = cX2) := ch
        clear ch
        generalize tx (dn ++ xe) = cX1 at ce0 cs0 ce1
        have hsd : ((tx dn).size : Int) ≤ 900000000 := by rw [tx_size]; have := HLS.out; omega
        go_wp2_with fail
        go_roundw
        case rel => exact ⟨k + 1 + tn + ln, dn ++ T, by omega, by go_num, by rw [← HX.out, HQ.out]; simp only [List.append_assoc], HLC2.out, HGC2.out, hB3⟩
        case measure => simp [intOf]; omega

end Go.Proofs.YtjnnepkoeloekaaGreatDoor
