import Derived.Test.YtabjcodpagjbjaaGreatK47
import Derived.Deep.RegionWith
import Derived.Deep.RegionHeld3
namespace Go.Proofs.YtabjcodpagjbjaaGreat
open Go.RowKit
set_option linter.unusedVariables false
set_option linter.unusedSectionVars false
set_option linter.unusedSimpArgs false
variable [Inhabited Pick]

/-- The three cells of an image in its box. -/
structure B3 (w : World) (g : Nat) (x0 x1 x2 : Value) : Prop where
  c0 : w.cell? ⟨g, 0, none⟩ = some x0
  c1 : w.cell? ⟨g, 1, none⟩ = some x1
  c2 : w.cell? ⟨g, 2, none⟩ = some x2
theorem B3.keep {w w' : World} {g : Nat} {x0 x1 x2 : Value} (h : B3 w g x0 x1 x2) (hb : w'.heap[g]? = w.heap[g]?) : B3 w' g x0 x1 x2 := by
  have k := fun j => World.cell?_of_block (w := w) (w' := w') (a := ⟨g, j, none⟩) hb
  exact ⟨(k 0).trans h.c0, (k 1).trans h.c1, (k 2).trans h.c2⟩
theorem B3.lt {w : World} {g : Nat} {x0 x1 x2 : Value} (h : B3 w g x0 x1 x2) : g < w.heap.size := World.block_lt_of_cell? _ _ h.c0
theorem B3.below {w w' : World} {g : Nat} {x0 x1 x2 : Value} (h : B3 w g x0 x1 x2) (hb : Below w.heap.size w w') : B3 w' g x0 x1 x2 := h.keep (hb.block g h.lt)
theorem B3.of_heap {w : World} {g : Nat} {t : TypeId} {x0 x1 x2 : Value} (h : w.heap[g]? = some (.cells #[x0, x1, x2] t)) : B3 w g x0 x1 x2 := by
  constructor
  all_goals (simp [World.cell?, h]; done)
theorem stepRes_small (n : Nat) (d bd : Int) (codes : List Int) (c : Mc) (hs : Small c) (hw : Wf c) (hl : n = codes.length) (hcu : ∀ j, j < codes.length → 0 ≤ codes.getD j 0 ∧ codes.getD j 0 ≤ 4294967295) : Small (stepRes n d bd codes c) := by
  unfold stepRes
  split
  · rename_i hv
    simp only [Bool.and_eq_true] at hv
    split
    · rename_i hst
      obtain ⟨hG, hmb⟩ := good_of hv.1 hv.2 hw
      have h0 := vimg_of hv.1
      have hg := (runM_good codes bd c hG hmb ⟨by omega, hcu⟩ 1).1
      have hr : runM codes bd c 1 = nextM codes bd c := by simp [runM, hst]
      rw [hr] at hg
      have h1 := hg.r32
      have h2 := hg.dl
      have h3 := hg.sl
      have h4 := hg.il
      have h5 := hg.ol
      refine ⟨?_, ?_, ?_, ?_, ?_⟩ <;> omega
    · exact hs
  · refine ⟨?_, ?_, ?_, ?_, ?_⟩ <;> simp [zeroM]


theorem lt6 {i : Nat} (h : i < 6) : i = 0 ∨ i = 1 ∨ i = 2 ∨ i = 3 ∨ i = 4 ∨ i = 5 := by omega
def pblk : Value → List Nat
  | .pointer (some a) => [a.block]
  | _ => []
theorem CpuAt.mono {w : World} {B B' : Nat} {v : Value} {c : Mc} (h : CpuAt w B v c) (hb : B' ≤ B) : CpuAt w B' v c := by
  obtain ⟨r, d, s, i, o, rfl, a1, a2, a3, a4, a5, hnd, hB, hk⟩ := h
  exact ⟨r, d, s, i, o, rfl, a1, a2, a3, a4, own_mono a5 hb, hnd, fun g hg => Nat.le_trans hb (hB g hg), hk⟩
theorem arr84 (a : Array Value) (h : a.size = 84) : ∃ t0 t1 t2 t3 t4 t5 t6 t7 t8 t9 t10 t11 t12 t13 t14 t15 t16 t17 t18 t19 t20 t21 t22 t23 t24 t25 t26 t27 t28 t29 t30 t31 t32 t33 t34 t35 t36 t37 t38 t39 t40 t41 t42 t43 t44 t45 t46 t47 t48 t49 t50 t51 t52 t53 t54 t55 t56 t57 t58 t59 t60 t61 t62 t63 t64 t65 t66 t67 t68 t69 t70 t71 t72 t73 t74 t75 t76 t77 t78 t79 t80 t81 t82 t83, a = #[t0, t1, t2, t3, t4, t5, t6, t7, t8, t9, t10, t11, t12, t13, t14, t15, t16, t17, t18, t19, t20, t21, t22, t23, t24, t25, t26, t27, t28, t29, t30, t31, t32, t33, t34, t35, t36, t37, t38, t39, t40, t41, t42, t43, t44, t45, t46, t47, t48, t49, t50, t51, t52, t53, t54, t55, t56, t57, t58, t59, t60, t61, t62, t63, t64, t65, t66, t67, t68, t69, t70, t71, t72, t73, t74, t75, t76, t77, t78, t79, t80, t81, t82, t83] := by
  obtain ⟨l⟩ := a
  simp only [List.size_toArray] at h
  obtain ⟨t0, l0, rfl, h0⟩ := len_cons h
  obtain ⟨t1, l1, rfl, h1⟩ := len_cons h0
  obtain ⟨t2, l2, rfl, h2⟩ := len_cons h1
  obtain ⟨t3, l3, rfl, h3⟩ := len_cons h2
  obtain ⟨t4, l4, rfl, h4⟩ := len_cons h3
  obtain ⟨t5, l5, rfl, h5⟩ := len_cons h4
  obtain ⟨t6, l6, rfl, h6⟩ := len_cons h5
  obtain ⟨t7, l7, rfl, h7⟩ := len_cons h6
  obtain ⟨t8, l8, rfl, h8⟩ := len_cons h7
  obtain ⟨t9, l9, rfl, h9⟩ := len_cons h8
  obtain ⟨t10, l10, rfl, h10⟩ := len_cons h9
  obtain ⟨t11, l11, rfl, h11⟩ := len_cons h10
  obtain ⟨t12, l12, rfl, h12⟩ := len_cons h11
  obtain ⟨t13, l13, rfl, h13⟩ := len_cons h12
  obtain ⟨t14, l14, rfl, h14⟩ := len_cons h13
  obtain ⟨t15, l15, rfl, h15⟩ := len_cons h14
  obtain ⟨t16, l16, rfl, h16⟩ := len_cons h15
  obtain ⟨t17, l17, rfl, h17⟩ := len_cons h16
  obtain ⟨t18, l18, rfl, h18⟩ := len_cons h17
  obtain ⟨t19, l19, rfl, h19⟩ := len_cons h18
  obtain ⟨t20, l20, rfl, h20⟩ := len_cons h19
  obtain ⟨t21, l21, rfl, h21⟩ := len_cons h20
  obtain ⟨t22, l22, rfl, h22⟩ := len_cons h21
  obtain ⟨t23, l23, rfl, h23⟩ := len_cons h22
  obtain ⟨t24, l24, rfl, h24⟩ := len_cons h23
  obtain ⟨t25, l25, rfl, h25⟩ := len_cons h24
  obtain ⟨t26, l26, rfl, h26⟩ := len_cons h25
  obtain ⟨t27, l27, rfl, h27⟩ := len_cons h26
  obtain ⟨t28, l28, rfl, h28⟩ := len_cons h27
  obtain ⟨t29, l29, rfl, h29⟩ := len_cons h28
  obtain ⟨t30, l30, rfl, h30⟩ := len_cons h29
  obtain ⟨t31, l31, rfl, h31⟩ := len_cons h30
  obtain ⟨t32, l32, rfl, h32⟩ := len_cons h31
  obtain ⟨t33, l33, rfl, h33⟩ := len_cons h32
  obtain ⟨t34, l34, rfl, h34⟩ := len_cons h33
  obtain ⟨t35, l35, rfl, h35⟩ := len_cons h34
  obtain ⟨t36, l36, rfl, h36⟩ := len_cons h35
  obtain ⟨t37, l37, rfl, h37⟩ := len_cons h36
  obtain ⟨t38, l38, rfl, h38⟩ := len_cons h37
  obtain ⟨t39, l39, rfl, h39⟩ := len_cons h38
  obtain ⟨t40, l40, rfl, h40⟩ := len_cons h39
  obtain ⟨t41, l41, rfl, h41⟩ := len_cons h40
  obtain ⟨t42, l42, rfl, h42⟩ := len_cons h41
  obtain ⟨t43, l43, rfl, h43⟩ := len_cons h42
  obtain ⟨t44, l44, rfl, h44⟩ := len_cons h43
  obtain ⟨t45, l45, rfl, h45⟩ := len_cons h44
  obtain ⟨t46, l46, rfl, h46⟩ := len_cons h45
  obtain ⟨t47, l47, rfl, h47⟩ := len_cons h46
  obtain ⟨t48, l48, rfl, h48⟩ := len_cons h47
  obtain ⟨t49, l49, rfl, h49⟩ := len_cons h48
  obtain ⟨t50, l50, rfl, h50⟩ := len_cons h49
  obtain ⟨t51, l51, rfl, h51⟩ := len_cons h50
  obtain ⟨t52, l52, rfl, h52⟩ := len_cons h51
  obtain ⟨t53, l53, rfl, h53⟩ := len_cons h52
  obtain ⟨t54, l54, rfl, h54⟩ := len_cons h53
  obtain ⟨t55, l55, rfl, h55⟩ := len_cons h54
  obtain ⟨t56, l56, rfl, h56⟩ := len_cons h55
  obtain ⟨t57, l57, rfl, h57⟩ := len_cons h56
  obtain ⟨t58, l58, rfl, h58⟩ := len_cons h57
  obtain ⟨t59, l59, rfl, h59⟩ := len_cons h58
  obtain ⟨t60, l60, rfl, h60⟩ := len_cons h59
  obtain ⟨t61, l61, rfl, h61⟩ := len_cons h60
  obtain ⟨t62, l62, rfl, h62⟩ := len_cons h61
  obtain ⟨t63, l63, rfl, h63⟩ := len_cons h62
  obtain ⟨t64, l64, rfl, h64⟩ := len_cons h63
  obtain ⟨t65, l65, rfl, h65⟩ := len_cons h64
  obtain ⟨t66, l66, rfl, h66⟩ := len_cons h65
  obtain ⟨t67, l67, rfl, h67⟩ := len_cons h66
  obtain ⟨t68, l68, rfl, h68⟩ := len_cons h67
  obtain ⟨t69, l69, rfl, h69⟩ := len_cons h68
  obtain ⟨t70, l70, rfl, h70⟩ := len_cons h69
  obtain ⟨t71, l71, rfl, h71⟩ := len_cons h70
  obtain ⟨t72, l72, rfl, h72⟩ := len_cons h71
  obtain ⟨t73, l73, rfl, h73⟩ := len_cons h72
  obtain ⟨t74, l74, rfl, h74⟩ := len_cons h73
  obtain ⟨t75, l75, rfl, h75⟩ := len_cons h74
  obtain ⟨t76, l76, rfl, h76⟩ := len_cons h75
  obtain ⟨t77, l77, rfl, h77⟩ := len_cons h76
  obtain ⟨t78, l78, rfl, h78⟩ := len_cons h77
  obtain ⟨t79, l79, rfl, h79⟩ := len_cons h78
  obtain ⟨t80, l80, rfl, h80⟩ := len_cons h79
  obtain ⟨t81, l81, rfl, h81⟩ := len_cons h80
  obtain ⟨t82, l82, rfl, h82⟩ := len_cons h81
  obtain ⟨t83, l83, rfl, h83⟩ := len_cons h82
  obtain rfl := List.eq_nil_of_length_eq_zero h83
  exact ⟨_, _, _, _, _, _, _, _, _, _, _, _, _, _, _, _, _, _, _, _, _, _, _, _, _, _, _, _, _, _, _, _, _, _, _, _, _, _, _, _, _, _, _, _, _, _, _, _, _, _, _, _, _, _, _, _, _, _, _, _, _, _, _, _, _, _, _, _, _, _, _, _, _, _, _, _, _, _, _, _, _, _, _, _, rfl⟩

end Go.Proofs.YtabjcodpagjbjaaGreat
