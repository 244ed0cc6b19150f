import Derived.Test.YtabjcodpagjbjaaM09
import Derived.Deep.WholeRow
import Derived.Deep.MidRow
namespace Go.Proofs.Ytabjcodpagjbjaa
open Go.RowKit
set_option linter.unusedVariables false
set_option maxRecDepth 100000
def tabA : Array Value := #[.nilIface, .iface 87 (.agg #[.int .u32 55]), .iface 88 (.agg #[.int .u32 111]), .iface 90 (.agg #[.int .u32 103, .int .u32 0]), .iface 91 (.agg #[.int .u32 99, .int .u32 0]), .iface 91 (.agg #[.int .u32 99, .int .u32 1]), .iface 91 (.agg #[.int .u32 99, .int .u32 4]), .iface 91 (.agg #[.int .u32 99, .int .u32 5]), .iface 91 (.agg #[.int .u32 99, .int .u32 6]), .iface 91 (.agg #[.int .u32 99, .int .u32 7]), .iface 90 (.agg #[.int .u32 3, .int .u32 2]), .iface 92 (.agg #[.int .u32 35, .int .u32 2]), .iface 90 (.agg #[.int .u32 19, .int .u32 0]), .iface 90 (.agg #[.int .u32 19, .int .u32 2]), .iface 90 (.agg #[.int .u32 19, .int .u32 3]), .iface 90 (.agg #[.int .u32 19, .int .u32 4]), .iface 90 (.agg #[.int .u32 19, .int .u32 6]), .iface 90 (.agg #[.int .u32 19, .int .u32 7]), .iface 94 (.agg #[.int .u32 19, .int .u32 1, .int .u32 0]), .iface 94 (.agg #[.int .u32 19, .int .u32 5, .int .u32 0]), .iface 94 (.agg #[.int .u32 19, .int .u32 5, .int .u32 32]), .iface 95 (.agg #[.int .u32 51, .int .u32 0, .int .u32 0]), .iface 95 (.agg #[.int .u32 51, .int .u32 0, .int .u32 32]), .iface 95 (.agg #[.int .u32 51, .int .u32 1, .int .u32 0]), .iface 95 (.agg #[.int .u32 51, .int .u32 2, .int .u32 0]), .iface 95 (.agg #[.int .u32 51, .int .u32 3, .int .u32 0]), .iface 95 (.agg #[.int .u32 51, .int .u32 4, .int .u32 0]), .iface 95 (.agg #[.int .u32 51, .int .u32 5, .int .u32 0]), .iface 95 (.agg #[.int .u32 51, .int .u32 5, .int .u32 32]), .iface 95 (.agg #[.int .u32 51, .int .u32 6, .int .u32 0]), .iface 95 (.agg #[.int .u32 51, .int .u32 7, .int .u32 0]), .iface 95 (.agg #[.int .u32 51, .int .u32 0, .int .u32 1]), .iface 95 (.agg #[.int .u32 51, .int .u32 4, .int .u32 1]), .iface 95 (.agg #[.int .u32 51, .int .u32 6, .int .u32 1]), .iface 96 (.agg #[.int .u32 115])]
def zeroA : Array Value := #[.nilIface, .nilIface, .nilIface, .nilIface, .nilIface, .nilIface, .nilIface, .nilIface, .nilIface, .nilIface, .nilIface, .nilIface, .nilIface, .nilIface, .nilIface, .nilIface, .nilIface, .nilIface, .nilIface, .nilIface, .nilIface, .nilIface, .nilIface, .nilIface, .nilIface, .nilIface, .nilIface, .nilIface, .nilIface, .nilIface, .nilIface, .nilIface, .nilIface, .nilIface, .nilIface]
theorem Try.info56 : (Try.prog.info? 56).map (·.size) = some tabA.size := by kernel_rfl
theorem tab_one : (tabA.all fun x => x.oneCell') = true := by kernel_rfl
theorem tab_size : tabA.size = 35 := by kernel_rfl
theorem below_setCells {B b : Nat} {a : World} (hb : B ≤ b) : ∀ (vs : List Value) (o : Nat) (w : World), Below B a w → Below B a (w.setCells b o vs)
  | [], _, _, h => h
  | v :: r, o, w, h => below_setCells hb r (o + 1) _ (h.setCell (by simpa using hb) v)
theorem results_cell_mid {P : Program} {fn : Func} {p : Tmp} {ty : TypeId} (h : fn.results = #[.cell p ty]) (tmps : Array Value) (w : World) (b : Nat) (cs : List Value) (d : TypeDesc)
    (hp : tmps.getD p undef = .pointer (some ⟨b, 0, none⟩)) (hc : w.rangeAt b 0 cs) (hu : P.underlying ty = some d) (hd : d.isRow = true) (hi : (P.info? ty).map (·.size) = some cs.length) :
    (results fn tmps).run P w = .ok (.agg cs.toArray) w := by
  have hp' : tmps[p]?.getD undef = .pointer (some ⟨b, 0, none⟩) := by simpa using hp
  simp [results, h, hp', asAddr, run_loadVar_mid w b 0 ty cs d hc hu hd hi]
theorem there_new (w : World) (cs : Array Value) (t : TypeId) (n : Nat) (hn : n ≤ cs.size) : (w.alloc (.cells cs t)).there w.heap.size 0 n := by
  intro j hj
  rw [Nat.zero_add]
  refine ⟨?_, frozen_of_row _ _ _ _ _ (heap_alloc_new w _)⟩
  rw [cell_of_row _ _ _ _ _ _ (heap_alloc_new w _)]
  simp
  omega
set_option maxHeartbeats 4000000 in
theorem opShapes_any (w : World) : Calls Try.prog 27 #[] w fun e w' => e = .returned (.agg tabA) ∧ Below w.heap.size w w' := by
  go_enter Try.func27, Try.ntmps27
  go_wp2_with (refine wpList_store_mid rfl 56 _ _ rfl w.heap.size 0 tabA rfl rfl (there_new w _ _ _ (Nat.le_refl 35)) Try.info56 tab_one ?_)
  have hR : ((w.alloc (.cells zeroA 56)).setCells w.heap.size 0 tabA.toList).rangeAt w.heap.size 0 tabA.toList := World.rangeAt_setCells_same _ _ _ _ (there_new w _ _ _ (Nat.le_refl 35))
  refine bodyPost_ret (v := .agg tabA) ?_ rfl ⟨rfl, below_setCells (Nat.le_refl _) _ _ _ ((Below.refl _ _).alloc (Nat.le_refl _) _)⟩
  exact results_cell_mid Try.results27 _ _ w.heap.size tabA.toList _ rfl hR Try.underlying56 rfl Try.info56
end Go.Proofs.Ytabjcodpagjbjaa
