import Derived.Test.YtlamjfhhefcohaaGreatDoorM52
import Derived.Test.YtlamjfhhefcohaaGreatDoorTie
import Derived.Test.YtlamjfhhefcohaaGreatDoorCards
import Derived.ProofKit
import Derived.LaidMore
import Derived.OpenShut
import Derived.Carry
import Derived.ChangeOld
import Derived.WalkSmall
import Derived.Stop.Joined
import Derived.SevenTiedAt
namespace Go.Proofs.YtlamjfhhefcohaaGreatDoor
set_option linter.unusedVariables false
set_option linter.unusedSimpArgs false
set_option maxRecDepth 100000
set_option maxHeartbeats 16000000
section
open Go.ChangeShapes Go.WideShapes Go.ChangeAt Go.WideMaps Go.WideElems Go.RowKit Go.Joins Go.Deep
theorem own : ownKnob Tryz.prog.godebug = none := by kernel_rfl
theorem laidOut : laidOutB Tryz.prog = true := by kernel_rfl
def litV {H : Type} : DataW H → Value
 | .lit (.int k n) => .int k n
 | .lit (.bool b) => .bool b
 | .lit (.string l) => .string (tx l)
 | _ => .nilFunc
def partsD {H : Type} : DataW H → List (DataW H)
 | .agg ds => ds
 | _ => []
theorem tab_cells {H : Type} {enc : TypeId × Value → H} {W : World} {base : Nat} {spare : Nat → Bool} {held : Bool} {fuel n : Nat} {ta ts : TypeId} {fs : Array Field} {cs : List Value} {D : DataW H} {p : List MemPlace}
  (hta : Tryz.prog.underlying ta = some (.array n ts)) (hts : Tryz.prog.underlying ts = some (.struct fs)) (hone : oneCellFields Tryz.prog fs = true) (hC : Tryz.prog.cellsOf ts = fs.size)
  (hlit : ∀ (i : Nat) (f : Field), fs[i]? = some f → Tryz.prog.underlying f.type = some (.int .i64) ∨ Tryz.prog.underlying f.type = some .bool ∨ Tryz.prog.underlying f.type = some .string) (h : DataW.trod enc Tryz.prog W base spare held fuel ta cs = some (D, p)) :
  ∀ i, i < n → ∀ k, k < fs.size → cs[i * fs.size + k]? = some (litV ((partsD ((partsD D).getD i .nil)).getD k .nil)) := by
 intro i hi k hk
 obtain ⟨xs, m, _, hx, hl, hxl, hel⟩ := DataW.trod_array hta h
 have h1 := hel i hi
 rw [List.getElem?_eq_getElem (by omega), hC] at h1
 obtain ⟨ys, m', _, hy, hl', hyl, hf⟩ := DataW.trod_struct hts h1
 have hfk : fs[k]? = some fs[k] := by simp [hk]
 have h2 := hf k _ hfk
 obtain ⟨o, c⟩ := hone_of hone k _ hfk
 rw [o, c, List.getElem?_eq_getElem (by omega), take1_drop _ k .nilFunc (by omega)] at h2
 have eD : (partsD D).getD i .nil = (xs[i]'(by omega)).1 := by
  have : D = .agg (xs.map (·.1)) := congrArg Prod.fst hx
  rw [this]
  simp only [partsD, List.getD, List.getElem?_map]
  rw [List.getElem?_eq_getElem (by omega)]
  rfl
 have eY : (partsD (xs[i]'(by omega)).1).getD k .nil = (ys[k]'(by omega)).1 := by
  rw [hy]
  simp only [partsD, List.getD, List.getElem?_map]
  rw [List.getElem?_eq_getElem (by omega)]
  rfl
 rw [eD, eY]
 have eC : cs[i * fs.size + k]? = some (((cs.drop (i * fs.size)).take fs.size).getD k .nilFunc) := by
  have hlt : k < ((cs.drop (i * fs.size)).take fs.size).length := by omega
  have e1 : cs[i * fs.size + k]? = ((cs.drop (i * fs.size)).take fs.size)[k]? := by
   rw [List.getElem?_take, if_pos hk, List.getElem?_drop]
  rw [e1]
  simp only [List.getD]
  rw [List.getElem?_eq_getElem hlt]
  rfl
 rw [eC]
 rcases hlit k _ hfk with hu | hu | hu
 ·obtain ⟨z, e, ez, _⟩ := DataW.trod_int hu h2
  rw [ez]
  simp only [List.cons.injEq, and_true] at e
  rw [e]; rfl
 ·obtain ⟨z, e, ez⟩ := DataW.trod_bool hu h2
  rw [ez]
  simp only [List.cons.injEq, and_true] at e
  rw [e]; rfl
 ·obtain ⟨z, e, ez, _⟩ := DataW.trod_string hu h2
  rw [ez]
  simp only [List.cons.injEq, and_true] at e
  rw [e]
  simp only [litV, tx_back]
theorem gStmt : Tryz.prog.globalNamed "loop.example/s01725/impl.stmtRules" = some 0 := by kernel_rfl
theorem gNode : Tryz.prog.globalNamed "loop.example/s01725/impl.nodeRules" = some 2 := by kernel_rfl
theorem tStmt : (Tryz.prog.globals[0]?).map (·.type) = some 139 := by kernel_rfl
theorem tNode : (Tryz.prog.globals[2]?).map (·.type) = some 192 := by kernel_rfl
theorem gBin : Tryz.prog.globalNamed "loop.example/s01725/impl.binaries" = some 7 := by kernel_rfl
theorem tBin : (Tryz.prog.globals[7]?).map (·.type) = some 218 := by kernel_rfl
theorem binTab_is : (List.range 72).map (fun j => litV ((partsD ((partsD (Rows.laid_loop_example_s01725_impl_binaries (H := Unit))).getD (j / 4) .nil)).getD (j % 4) .nil)) = binCs := by rfl
theorem vars_three {H : Type} {enc : TypeId × Value → H} {W : World} {sp : Nat → Bool} {a b c : String} : ∀ {ds : List (DataW H)} {ps : List MemPlace}, DataW.TrodVars enc Tryz.prog W sp [a, b, c] ds ps → ∃ x y z, ds = [x, y, z]
 | [x, y, z], _, _ => ⟨x, y, z, rfl⟩
 | [], _, h => by simp [DataW.TrodVars] at h
 | [_], _, h => by simp [DataW.TrodVars] at h
 | [_, _], _, h => by simp [DataW.TrodVars] at h
 | _ :: _ :: _ :: _ :: _, _, h => by simp [DataW.TrodVars] at h
theorem nodeTab_is : (List.range 40).map (fun j => litV ((partsD ((partsD (Rows.laid_loop_example_s01725_impl_nodeRules (H := Unit))).getD (j / 4) .nil)).getD (j % 4) .nil)) = nodeTab := by rfl
theorem stmtTab_is : (List.range 45).map (fun j => litV ((partsD ((partsD (Rows.laid_loop_example_s01725_impl_stmtRules (H := Unit))).getD (j / 5) .nil)).getD (j % 5) .nil)) = stmtTab.map Value.bool := by rfl
theorem gEr : Tryz.prog.globalNamed "strconv.ErrRange" = some 4 := by kernel_rfl
theorem tEr : (Tryz.prog.globals[4]?).map (·.type) = some 152 := by kernel_rfl
theorem trod_ifc {H : Type} {enc : TypeId × Value → H} {P : Program} {W : World} {base : Nat} {spare : Nat → Bool} {held : Bool} {fuel : Nat} {t : TypeId} {cs : List Value} {x : DataW H × List MemPlace} {ms} (ht : P.underlying t = some (.interface ms)) (h : DataW.trod enc P W base spare held fuel t cs = some x) : cs = [.nilIface] ∨ ∃ u v, cs = [.iface u v] := by
 cases fuel with
 | zero => simp [DataW.trod] at h
 | succ n =>
  unfold DataW.trod at h
  rw [ht] at h
  split at h <;> simp_all
theorem tab_of_laid {W : World} (h : laidMetH Tryz.prog Rows.fnExactParseCRow.laid W) : Tab W ∧ (W.rangeAt 7 0 binCs ∧ 7 < W.heap.size) ∧ Erv W := by
 rw [MakeChecks.laidMetH_plain _ _ _ (by kernel_rfl)] at h
 obtain ⟨ps, ⟨g0, t0, cs0, f0, p0, q0, hg0, ht0, hv0, hd0, ⟨g1, t1, cs1, f1, p1, q1, hg1, ht1, hv1, hd1, ⟨g2, t2, cs2, f2, p2, q2, hg2, ht2, hv2, hd2, ⟨g3, t3, cs3, f3, p3, q3, hg3, ht3, hv3, hd3, ⟨g4, t4, cs4, f4, p4, q4, hg4, ht4, hv4, hd4, ⟨g5, t5, cs5, f5, p5, q5, hg5, ht5, hv5, hd5, ⟨g6, t6, cs6, f6, p6, q6, hg6, ht6, hv6, hd6, ⟨g7, t7, cs7, f7, p7, q7, hg7, ht7, hv7, hd7, _, _⟩, _⟩, _⟩, _⟩, _⟩, _⟩, _⟩, _⟩, _, _⟩ := h
 obtain rfl := Option.some.inj (gNode.symm.trans hg5)
 obtain rfl := Option.some.inj (gStmt.symm.trans hg6)
 obtain rfl := Option.some.inj (gEr.symm.trans hg3)
 obtain rfl := Option.some.inj (tEr.symm.trans ht3)
 obtain rfl := Option.some.inj (gBin.symm.trans hg7)
 obtain rfl := Option.some.inj (tNode.symm.trans ht5)
 obtain rfl := Option.some.inj (tStmt.symm.trans ht6)
 obtain rfl := Option.some.inj (tBin.symm.trans ht7)
 have hn := tab_cells Tryz.underlying192 Tryz.underlying191 (by kernel_rfl) (by kernel_rfl) (fun i f hi => by
  match i with
  | 0 => exact .inr (.inl (by obtain rfl := Option.some.inj hi; exact Tryz.underlying4))
  | 1 => exact .inl (by obtain rfl := Option.some.inj hi; exact Tryz.underlying2)
  | 2 => exact .inl (by obtain rfl := Option.some.inj hi; exact Tryz.underlying2)
  | 3 => exact .inl (by obtain rfl := Option.some.inj hi; exact Tryz.underlying2)
  | (n + 4) => simp at hi) hd5
 have hs := tab_cells Tryz.underlying139 Tryz.underlying138 (by kernel_rfl) (by kernel_rfl) (fun i f hi => by
  match i with
  | 0 => exact .inr (.inl (by obtain rfl := Option.some.inj hi; exact Tryz.underlying4))
  | 1 => exact .inr (.inl (by obtain rfl := Option.some.inj hi; exact Tryz.underlying4))
  | 2 => exact .inr (.inl (by obtain rfl := Option.some.inj hi; exact Tryz.underlying4))
  | 3 => exact .inr (.inl (by obtain rfl := Option.some.inj hi; exact Tryz.underlying4))
  | 4 => exact .inr (.inl (by obtain rfl := Option.some.inj hi; exact Tryz.underlying4))
  | (n + 5) => simp at hi) hd6
 have cN : ∀ j, j < 40 → W.cell? ⟨2, j, none⟩ = some (nodeTab.getD j .nilFunc) := fun j hj => by
  rw [World.var?_cell hg5 hv5 j]
  have := hn (j / 4) (by omega) (j % 4) (Nat.mod_lt _ (by decide))
  have e : j / 4 * 4 + j % 4 = j := by omega
  have e' : cs5.toList[j]? = some (litV ((partsD ((partsD (Rows.laid_loop_example_s01725_impl_nodeRules (H := Unit))).getD (j / 4) .nil)).getD (j % 4) .nil)) := by
   rw [← this]; congr 1; exact e.symm
  rw [← nodeTab_is]
  simp only [List.getD, List.getElem?_map, List.getElem?_range, hj]
  simpa using e'
 have cS : ∀ j, j < 45 → W.cell? ⟨0, j, none⟩ = some (.bool (stmtTab.getD j false)) := fun j hj => by
  rw [World.var?_cell hg6 hv6 j]
  have := hs (j / 5) (by omega) (j % 5) (Nat.mod_lt _ (by decide))
  have e : j / 5 * 5 + j % 5 = j := by omega
  have e' : cs6.toList[j]? = some (litV ((partsD ((partsD (Rows.laid_loop_example_s01725_impl_stmtRules (H := Unit))).getD (j / 5) .nil)).getD (j % 5) .nil)) := by
   rw [← this]; congr 1; exact e.symm
  have e2 : (stmtTab.map Value.bool)[j]? = some (litV ((partsD ((partsD (Rows.laid_loop_example_s01725_impl_stmtRules (H := Unit))).getD (j / 5) .nil)).getD (j % 5) .nil)) := by
   rw [← stmtTab_is]
   simp [List.getElem?_map, hj]
  have e3 : (stmtTab.map Value.bool)[j]? = some (.bool (stmtTab.getD j false)) := by
   have hl : j < stmtTab.length := hj
   simp [List.getD, hl]
  rw [e2] at e3
  rw [← e3]
  simpa using e'
 have hb := tab_cells Tryz.underlying218 Tryz.underlying206 (by kernel_rfl) (by kernel_rfl) (fun i f hi => by
  match i with
  | 0 => exact .inr (.inr (by obtain rfl := Option.some.inj hi; exact Tryz.underlying9))
  | 1 => exact .inl (by obtain rfl := Option.some.inj hi; exact Tryz.underlying2)
  | 2 => exact .inl (by obtain rfl := Option.some.inj hi; exact Tryz.underlying2)
  | 3 => exact .inl (by obtain rfl := Option.some.inj hi; exact Tryz.underlying2)
  | (n + 4) => simp at hi) hd7
 have cB : ∀ j, j < 72 → W.cell? ⟨7, j, none⟩ = some (binCs.getD j .nilFunc) := fun j hj => by
  rw [World.var?_cell hg7 hv7 j]
  have := hb (j / 4) (by omega) (j % 4) (Nat.mod_lt _ (by decide))
  have e : j / 4 * 4 + j % 4 = j := by omega
  have e' : cs7.toList[j]? = some (litV ((partsD ((partsD (Rows.laid_loop_example_s01725_impl_binaries (H := Unit))).getD (j / 4) .nil)).getD (j % 4) .nil)) := by
   rw [← this]; congr 1; exact e.symm
  rw [← binTab_is]
  simp only [List.getD, List.getElem?_map, List.getElem?_range, hj]
  simpa using e'
 have hE : Erv W := by
  have hc := World.var?_cell hg3 hv3 0
  rcases trod_ifc Tryz.underlying152 hd3 with e | ⟨u, v, e⟩
  ·have e2 : cs3[0]? = some .nilIface := by rw [← Array.getElem?_toList, e]; rfl
   exact ⟨_, hc.trans e2, .inl rfl⟩
  ·have e2 : cs3[0]? = some (.iface u v) := by rw [← Array.getElem?_toList, e]; rfl
   exact ⟨_, hc.trans e2, .inr ⟨_, _, rfl⟩⟩
 have l0 := World.block_lt_of_cell? _ _ (cN 0 (by omega))
 have l1 := World.block_lt_of_cell? _ _ (cS 0 (by omega))
 have l2 := World.block_lt_of_cell? _ _ (cB 0 (by omega))
 simp only at l0 l1 l2
 refine ⟨⟨cN, fun _ => cS, l0, l1⟩, ⟨fun j v hv => ?_, l2⟩, hE⟩
 obtain ⟨hlt, rfl⟩ := List.getElem?_eq_some_iff.1 hv
 rw [Nat.zero_add, cB j (by rw [show binCs.length = 72 from rfl] at hlt; exact hlt)]
 simp [List.getD, List.getElem?_eq_getElem hlt]
theorem door_met (os : Os) (args : Array Value) : laidMetH Tryz.prog Rows.fnExactParseCRow.laid ((World.doorLaid Tryz.prog 112 os).forCall (fun _ _ => 0) ⟨#[], args, []⟩).memory :=
 laidMetH_of_parts3 (fuel := 8) (laidMet_of_run' 8 (by kernel_rfl) (by kernel_rfl)) (by kernel_rfl) (by kernel_rfl)
theorem vars_below {H : Type} {enc : TypeId × Value → H} {W W' : World} (hb : Below W.heap.size W W') : ∀ {ns : List String} {ds : List (DataW H)} {ps : List MemPlace}, (∀ n ∈ ns, ∀ g t, Tryz.prog.globalNamed n = some g → (Tryz.prog.globals[g]?).map (·.type) = some t → Tryz.prog.readableRec t = true ∧ t < Tryz.prog.types.size ∧ g < W.heap.size) →
  DataW.TrodVars enc Tryz.prog W (fun _ => true) ns ds ps → (∀ x ∈ ps, x.block < W.heap.size) → DataW.TrodVars enc Tryz.prog W' (fun b => decide (b < W.heap.size)) ns ds ps
 | [], [], ps, _, h, _ => h
 | [], _ :: _, ps, _, h, _ => by simp [DataW.TrodVars] at h
 | _ :: _, [], ps, _, h, _ => by simp [DataW.TrodVars] at h
 | n :: ns, d :: ds, ps, hr, h, hlt => by
  obtain ⟨g, t, cs, fuel, p, q, hg, ht, hv, hd, hrest, rfl⟩ := h
  obtain ⟨r1, r2, r3⟩ := hr n (by simp) g t hg ht
  have hT : DataW.Trod enc Tryz.prog W 0 (fun _ => true) true t (.agg cs) d p := ⟨fuel, by simpa [Value.cells] using hd⟩
  obtain ⟨fuel', hd'⟩ := Below.trod laidOut r1 r2 hT hb (fun x hx => hlt x (by simp [hx]))
  exact ⟨g, t, cs, fuel', p, q, hg, ht, var?_below hb hg r3 hv, by simpa [Value.cells] using hd', vars_below hb (fun m hm => hr m (by simp [hm])) hrest (fun x hx => hlt x (by simp [hx])), rfl⟩
set_option maxRecDepth 100000 in
theorem lifted (os : Os) (started : os.Started) (H : Type) (enc : TypeId × Value → H) :
  ReturnsInHanded {} Tryz.checked os 3 .any (fun w args => (Rows.fnExactParseCSpec.pre enc Tryz.prog Tryz.f3 [] false w args ∧ laidMetH Tryz.prog Rows.fnExactParseCRow.laid w) ∧ sizedMet enc Tryz.prog Tryz.f3 (OpenSpec.ofChange Rows.fnExactParseCSpec) false w args)
   (Rows.fnExactParseCSpec.post enc Tryz.prog Tryz.f3 false true false false) := by
 refine returnsInHanded_of_change_and (C := Tryz.checked) (X := fun w _ => laidMetH Tryz.prog Rows.fnExactParseCRow.laid w) (fun _ _ _ hh h => h.of_heap hh) own started (by kernel_rfl) Tryz.func3
  (ChangeSpec.witness_shaped (enc := enc) (C := Tryz.checked) (os := os) (X := fun w _ => laidMetH Tryz.prog Rows.fnExactParseCRow.laid w) false (World.doorLaid Tryz.prog 112 os) #[.slice none 0 0] 8 rfl (World.shaped_of_RefB (by kernel_rfl) (by kernel_rfl)) (by kernel_rfl) (by kernel_rfl) (by kernel_rfl) (door_met os _)) ?_
 intro W base args ds gs before hval0 hW _ _ hL _
 have hval : ∀ (j : Nat) t v, Tryz.f3.params[j]? = some t → args[j]? = some v → Value.okWide Tryz.prog W .any base t v := hval0
 have hW' := hW
 obtain ⟨p, q, hA0, hV, rfl, hfz, hnd⟩ := hW
 have hA : DataW.TrodAll enc Tryz.prog W 0 (fun _ => true) true Tryz.f3.params.toList args.toList ds p := hA0
 rw [Tryz.params3] at hA hval
 obtain ⟨v0, vs0, d0, ds0, p0, q0, hargs, rfl, rfl, h0, r0⟩ := trodAll_cons hA
 obtain ⟨rfl, rfl, rfl⟩ := trodAll_nil r0
 obtain rfl : args = #[v0] := by cases args; simp_all
 obtain ⟨hT, hBT, hER⟩ := tab_of_laid hL
 have hV1 : DataW.TrodVars enc Tryz.prog W (fun _ => true) ["loop.example/s01725/impl.binaries", "loop.example/s01725/impl.stmtRules", "loop.example/s01725/impl.nodeRules"] gs q := hV
 have hVlt := DataW.TrodVars.lt hV1
 have k0 := h0
 have lt0 : ∀ x ∈ p0, x.block < W.heap.size := by obtain ⟨m, hm⟩ := k0; exact DataW.trod_lt m _ _ _ hm
 obtain ⟨x0, y0, z0, rfl⟩ := okWide_slice Tryz.underlying22 (hval 0 22 v0 rfl rfl)
 obtain ⟨f0, hf0⟩ := h0
 obtain ⟨l, hl, hm⟩ := rd_bytes (v := .slice x0 y0 z0) hf0
 obtain ⟨e0, e1, e2, rfl⟩ := vars_three hV1
 clear hA0 hval0
 refine (law_parse _ l W hl hm hT hBT.1 hER hBT.2 (las_ex l)).mono fun e W' ⟨he, bel⟩ => ?_
 subst he
 refine ⟨_, rfl, _, _, _, [], _, _, hW', trodAll_mk1 (shut_bool Tryz.underlying4 _), trodAll_cons_mk (Below.trod laidOut (by kernel_rfl) (of_decide_eq_true (by kernel_rfl)) k0 bel lt0) trodAll_mk0, vars_below bel ?_ hV1 hVlt, bel.frame _, fun h => by cases h⟩
 intro n hn g t hg ht
 have hsz := hT.size
 have hn2 : n = "loop.example/s01725/impl.binaries" ∨ n = "loop.example/s01725/impl.stmtRules" ∨ n = "loop.example/s01725/impl.nodeRules" := by
  have hn3 : n ∈ ["loop.example/s01725/impl.binaries", "loop.example/s01725/impl.stmtRules", "loop.example/s01725/impl.nodeRules"] := hn
  simpa using hn3
 rcases hn2 with rfl | rfl | rfl
 ·obtain rfl := Option.some.inj (gBin.symm.trans hg)
  obtain rfl := Option.some.inj (tBin.symm.trans ht)
  exact ⟨by kernel_rfl, of_decide_eq_true (by kernel_rfl), hBT.2⟩
 ·obtain rfl := Option.some.inj (gStmt.symm.trans hg)
  obtain rfl := Option.some.inj (tStmt.symm.trans ht)
  exact ⟨by kernel_rfl, of_decide_eq_true (by kernel_rfl), by omega⟩
 ·obtain rfl := Option.some.inj (gNode.symm.trans hg)
  obtain rfl := Option.some.inj (tNode.symm.trans ht)
  exact ⟨by kernel_rfl, of_decide_eq_true (by kernel_rfl), by omega⟩
theorem row_holds : Rows.FnExactParseCSaid :=
 OpenClaim.holds_of_wide 3 Tryz.f3 rfl rfl rfl rfl rfl rfl rfl ⟨rfl, rfl, rfl, rfl, rfl⟩ rfl rfl rfl rfl rfl (by kernel_rfl) Tryz.func3 (by kernel_rfl)
  (of_decide_eq_true (by kernel_rfl)) (by unfold Func.isWrapper; first | (rw [if_pos (by decide +kernel)]; kernel_rfl) | (rw [if_neg (by decide +kernel)]; exact ⟨rfl, rfl⟩))
  (fun os started H enc _ => lifted os started H enc)
theorem card_holds : Rows.FnExactParseCCardSaid :=
 Claim7.holds_tied_plain_at .later [] [.data, .data, .data, .sentinel, .sentinel, .data, .data, .data] true _ true
  row_holds (fun _ h => by cases h) (by kernel_rfl) (fun _ h => by cases h) fnExactParseC_row_tie rfl ⟨rfl, rfl⟩ (by kernel_rfl) rfl
  (fun f fn hf hfn => by
    obtain rfl : f = 3 := Option.some.inj ((show Tryz.prog.funcNamed "loop.example/s01725/laws.FnExactParseC" = some 3 by kernel_rfl).symm.trans hf) |>.symm
    obtain rfl : fn = Tryz.f3 := (Option.some.inj (Tryz.func3.symm.trans hfn)).symm
    exact ⟨by kernel_rfl, fun j t ht => by
     rw [Tryz.params3] at ht
     have hm : t ∈ [22] := by simpa using Array.mem_of_getElem? ht
     have hall : ([22].all fun u => !Tryz.prog.wantsStandIn u) = true := by kernel_rfl
     exact (show Tryz.prog.wantsStandIn t = false by simpa using List.all_eq_true.1 hall t hm)⟩)
  (by kernel_rfl)
#print axioms card_holds
end
end Go.Proofs.YtlamjfhhefcohaaGreatDoor
