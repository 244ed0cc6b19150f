import Derived.Test.YtjhmgjimppflhaaGreatDoorZ48
import Derived.LaidEql
import Derived.Stop.Asserts
import Derived.RowKitTokens
set_option linter.unusedSectionVars false
variable [Inhabited Go.Proofs.YtjhmgjimppflhaaGreatDoor.Pick]
namespace Go.Proofs.YtjhmgjimppflhaaGreatDoor
set_option linter.unusedVariables false
set_option linter.unusedSimpArgs false
set_option maxRecDepth 100000
set_option maxHeartbeats 16000000
section
open Go.RowKit
/-- A fault as CheckC answers it. -/
def resV (x : Int × Int × Int) : Value := .agg #[.int .i64 x.1, .int .i64 x.2.1, .int .i64 x.2.2]
theorem bodiesE_ok {t : Tr} : ∀ (fs : List Fu) (i : Nat), (bodiesE t i fs).1 = 0 → bodiesE t i fs = (0, -1, -1)
  | [], i, _ => rfl
  | f :: r, i, h => by
    rw [bodiesE] at h ⊢
    by_cases hz : (bodyE t i f).1 = 0
    · rw [if_neg (by simp [hz])] at h ⊢
      exact bodiesE_ok r (i + 1) h
    · rw [if_pos hz] at h
      exact absurd h hz
open Classical in
theorem circE_ok {t : Tr} {m : Nat} : ∀ (n i : Nat), (circE t m i n).1 = 0 → circE t m i n = (0, -1, -1)
  | 0, i, _ => rfl
  | n + 1, i, h => by
    rw [circE] at h ⊢
    by_cases hz : (i = m ∨ Rch t m i) ∧ Rch t i i
    · rw [if_pos hz] at h
      simp at h
    · rw [if_neg hz] at h ⊢
      exact circE_ok n (i + 1) h
theorem checkE_ok {t : Tr} (h : (checkE t).1 = 0) : checkE t = (0, -1, -1) := by
  unfold checkE at h ⊢
  split
  · rename_i h1
    rw [if_pos h1] at h
    simp at h
  · rename_i h1
    rw [if_neg h1] at h
    split
    · rename_i h2
      rw [if_pos h2] at h
      exact absurd h h2
    · rename_i h2
      rw [if_neg h2] at h
      split
      · rename_i h3
        rw [if_pos h3] at h
        exact absurd h h3
      · rename_i h3
        rw [if_neg h3] at h
        exact circE_ok _ _ h
theorem set3 {w : World} {b : Nat} {u0 u1 u2 y0 y1 y2 : Value} (h0 : w.cell? ⟨b, 0, none⟩ = some y0) (h1 : w.cell? ⟨b, 1, none⟩ = some y1) (h2 : w.cell? ⟨b, 2, none⟩ = some y2) :
    (((w.setCell ⟨b, 0, none⟩ u0).setCell ⟨b, 1, none⟩ u1).setCell ⟨b, 2, none⟩ u2).cell? ⟨b, 0, none⟩ = some u0 ∧ (((w.setCell ⟨b, 0, none⟩ u0).setCell ⟨b, 1, none⟩ u1).setCell ⟨b, 2, none⟩ u2).cell? ⟨b, 1, none⟩ = some u1 ∧ (((w.setCell ⟨b, 0, none⟩ u0).setCell ⟨b, 1, none⟩ u1).setCell ⟨b, 2, none⟩ u2).cell? ⟨b, 2, none⟩ = some u2 := by
  have e1 : (w.setCell ⟨b, 0, none⟩ u0).cell? ⟨b, 1, none⟩ = some y1 := (World.cell?_setCell_other _ _ _ _ (off_ne (by decide))).trans h1
  have e2 : ((w.setCell ⟨b, 0, none⟩ u0).setCell ⟨b, 1, none⟩ u1).cell? ⟨b, 2, none⟩ = some y2 := (World.cell?_setCell_other _ _ _ _ (off_ne (by decide))).trans ((World.cell?_setCell_other _ _ _ _ (off_ne (by decide))).trans h2)
  exact ⟨(World.cell?_setCell_other _ _ _ _ (off_ne (by decide))).trans ((World.cell?_setCell_other _ _ _ _ (off_ne (by decide))).trans (World.cell?_setCell_same _ _ _ h0)), (World.cell?_setCell_other _ _ _ _ (off_ne (by decide))).trans (World.cell?_setCell_same _ _ _ e1), World.cell?_setCell_same _ _ _ e2⟩
end
section
open Go.RowKit Go.Extern.Stop Go.Stop Go.Extern
/-- errors.As(nil, target). -/
theorem as_nil (t : Value) (w : World) : Calls Tryz.prog 28 #[.nilIface, t] w fun e w' => e = .returned (.bool false) ∧ w' = w := by
  go_enter Tryz.func28, Tryz.ntmps28
  go_wp2_with fail
  go_ret
  exact ⟨rfl, rfl⟩
theorem rx_valueOfP (t : Addr) (w : World) : (ReflectliteValue.unpack (.iface 56 (.pointer (some t)))).run Tryz.prog w
    = .ok (.agg #[.pointer (some ⟨3, 56, none⟩), .pointer (some ⟨w.heap.size, 0, none⟩), .int .u64 150]) (w.alloc (.cells #[.pointer (some t)] 56)) := by kernel_rfl
theorem rx_typeP (a : Addr) (w : World) : (ReflectliteValue.methodAny (ReflectliteValue.valueError "reflectlite.Value.Type" 0) (fun t _ _ _ => ReflectliteType.toType t) #[.agg #[.pointer (some ⟨3, 56, none⟩), .pointer (some a), .int .u64 150]]).run Tryz.prog w
    = .ok (.iface 145 (.agg #[.pointer (some ⟨3, 56, none⟩)])) w := by kernel_rfl
theorem rx_methodKind (h : Value) (w : World) : (Go.method 375 145 (.agg #[h]) "Kind").run Tryz.prog w = .ok (172, h) w := by kernel_rfl
theorem rx_kindP (w : World) : ((ReflectliteType.abiMethod fun t => Functor.map (fun a : Nat => Value.int IntKind.u8 (a : Int)) (Rtype.kind t)) #[.pointer (some ⟨3, 56, none⟩)]).run Tryz.prog w = .ok (.int .u8 22) w := by kernel_rfl
theorem rx_kindS (w : World) : ((ReflectliteType.abiMethod fun t => Functor.map (fun a : Nat => Value.int IntKind.u8 (a : Int)) (Rtype.kind t)) #[.pointer (some ⟨3, 51, none⟩)]).run Tryz.prog w = .ok (.int .u8 25) w := by kernel_rfl
theorem rx_partsP (a : Addr) (w : World) : (ReflectliteValue.parts (.agg #[.pointer (some ⟨3, 56, none⟩), .pointer (some a), .int .u64 150])).run Tryz.prog w = .ok (some (56, a, 150)) w := by kernel_rfl
theorem rx_m2 (v : Value) (h1 : (v : Value) → Sem Value) (h2 : (x : Array Value) → Sem Value) : ReflectliteValue.method.match_2 (fun _ => Sem Value) #[v] h1 h2 = h1 v := rfl
theorem rx_isNilP (a p : Addr) (W : World) (ha : W.cell? a = some (.pointer (some p))) :
    (ReflectliteValue.method (ReflectliteValue.valueError "reflectlite.Value.IsNil" 0) ReflectliteValue.isNil #[.agg #[.pointer (some ⟨3, 56, none⟩), .pointer (some a), .int .u64 150]]).run Tryz.prog W = .ok (.bool false) W := by
  delta ReflectliteValue.method
  rw [rx_m2]
  simp only [Sem.run_bind, rx_partsP, Result.andThen]
  simp [ReflectliteValue.isNil, loadVar, isAgg, underlying, Tryz.underlying56, ha, Result.andThen]
theorem rx_methodElem (h : Value) (w : World) : (Go.method 375 145 (.agg #[h]) "Elem").run Tryz.prog w = .ok (182, .agg #[h]) w := by kernel_rfl
theorem rx_methodImplements (h : Value) (w : World) : (Go.method 375 145 (.agg #[h]) "Implements").run Tryz.prog w = .ok (183, .agg #[h]) w := by kernel_rfl
theorem rx_methodAssignableTo (h : Value) (w : World) : (Go.method 375 145 (.agg #[h]) "AssignableTo").run Tryz.prog w = .ok (180, .agg #[h]) w := by kernel_rfl
theorem rx_elemP (w : World) : (ReflectliteType.method ReflectliteType.elem #[.agg #[.pointer (some ⟨3, 56, none⟩)]]).run Tryz.prog w = .ok (.iface 145 (.agg #[.pointer (some ⟨3, 51, none⟩)])) w := by kernel_rfl
theorem rx_implementsS (w : World) : (ReflectliteType.relation "Implements" ReflectliteType.implements_ #[.agg #[.pointer (some ⟨3, 51, none⟩)], .iface 145 (.agg #[.pointer (some ⟨3, 54, none⟩)])]).run Tryz.prog w = .ok (.bool true) w := by kernel_rfl
theorem rx_typeOfS (v : Value) (w : World) : (ReflectliteType.typeOf #[.iface 51 v]).run Tryz.prog w = .ok (.iface 145 (.agg #[.pointer (some ⟨3, 51, none⟩)])) w := by kernel_rfl
theorem rx_assignableS (w : World) : (ReflectliteType.relation "AssignableTo" ReflectliteType.assignableTo #[.agg #[.pointer (some ⟨3, 51, none⟩)], .iface 145 (.agg #[.pointer (some ⟨3, 51, none⟩)])]).run Tryz.prog w = .ok (.bool true) w := by kernel_rfl
theorem rx_valueOfS (a b c : Value) (w : World) : (ReflectliteValue.unpack (.iface 51 (.agg #[a, b, c]))).run Tryz.prog w
    = .ok (.agg #[.pointer (some ⟨3, 51, none⟩), .pointer (some ⟨w.heap.size, 0, none⟩), .int .u64 153]) (w.alloc (.cells #[a, b, c] 51)) := by kernel_rfl
theorem rx_elemOfP (w : World) : (Rtype.elem? 56).run Tryz.prog w = .ok (some 51) w := by kernel_rfl
theorem rx_mkS (p : Addr) (w : World) : (ReflectliteValue.mk 51 p ReflectliteValue.flagAddr).run Tryz.prog w = .ok (.agg #[.pointer (some ⟨3, 51, none⟩), .pointer (some p), .int .u64 409]) w := by kernel_rfl
theorem rx_elemVP (a p : Addr) (W : World) (ha : W.cell? a = some (.pointer (some p))) :
    (ReflectliteValue.method (ReflectliteValue.valueError "reflectlite.Value.Elem" 0) ReflectliteValue.elem #[.agg #[.pointer (some ⟨3, 56, none⟩), .pointer (some a), .int .u64 150]]).run Tryz.prog W
      = .ok (.agg #[.pointer (some ⟨3, 51, none⟩), .pointer (some p), .int .u64 409]) W := by
  delta ReflectliteValue.method
  rw [rx_m2]
  simp only [Sem.run_bind, rx_partsP, Result.andThen]
  simp [ReflectliteValue.elem, loadVar, isAgg, underlying, Tryz.underlying56, ha, Result.andThen, rx_elemOfP, rx_mkS]
theorem rx_partsSa (a : Addr) (w : World) : (ReflectliteValue.parts (.agg #[.pointer (some ⟨3, 51, none⟩), .pointer (some a), .int .u64 409])).run Tryz.prog w = .ok (some (51, a, 409)) w := by kernel_rfl
theorem rx_partsS (a : Addr) (w : World) : (ReflectliteValue.parts (.agg #[.pointer (some ⟨3, 51, none⟩), .pointer (some a), .int .u64 153])).run Tryz.prog w = .ok (some (51, a, 153)) w := by kernel_rfl
theorem rx_directS (w : World) : (Rtype.directlyAssignable 51 51).run Tryz.prog w = .ok true w := by kernel_rfl
theorem rx_isAggS (w : World) : (isAgg 51).run Tryz.prog w = .ok true w := by kernel_rfl
theorem rx_sizeS (w : World) : (sizeOf 51).run Tryz.prog w = .ok 3 w := by kernel_rfl
end
section
open Go.RowKit Go.Extern.Stop Go.Stop Go.Extern
theorem rx_m3 (v x : Value) (h1 : (v x : Value) → Sem Value) (h2 : (x : Array Value) → Sem Value) : ReflectliteValue.set.match_3 (fun _ => Sem Value) #[v, x] h1 h2 = h1 v x := rfl
/-- (Value).Set: the three cells of the target get those of the source. -/
theorem rx_set (t b : Nat) (x y z : Int) (o0 o1 o2 : Value) (W : World) (hb0 : W.cell? ⟨b, 0, none⟩ = some (.int .i64 x)) (hb1 : W.cell? ⟨b, 1, none⟩ = some (.int .i64 y)) (hb2 : W.cell? ⟨b, 2, none⟩ = some (.int .i64 z))
    (h0 : W.cell? ⟨t, 0, none⟩ = some o0) (h1 : W.cell? ⟨t, 1, none⟩ = some o1) (h2 : W.cell? ⟨t, 2, none⟩ = some o2) (hf : ∀ o, W.frozen? ⟨t, o, none⟩ = false) :
    (ReflectliteValue.set #[.agg #[.pointer (some ⟨3, 51, none⟩), .pointer (some ⟨t, 0, none⟩), .int .u64 409], .agg #[.pointer (some ⟨3, 51, none⟩), .pointer (some ⟨b, 0, none⟩), .int .u64 153]]).run Tryz.prog W
      = .ok (.tuple #[]) (((W.setCell ⟨t, 0, none⟩ (.int .i64 x)).setCell ⟨t, 1, none⟩ (.int .i64 y)).setCell ⟨t, 2, none⟩ (.int .i64 z)) := by
  delta ReflectliteValue.set
  rw [rx_m3]
  simp only [Sem.run_bind, rx_partsSa, rx_partsS, Result.andThen]
  simp [ReflectliteValue.flagAddr, loadVar, rx_isAggS, rx_sizeS, hb0, hb1, hb2, Result.andThen, rx_directS, storeVar, Value.cells, storeCells, Addr.add]
  have hl : (loadCells ⟨b, 0, none⟩ 3).run Tryz.prog W = .ok #[.int .i64 x, .int .i64 y, .int .i64 z] W := by simp [loadCells, loadCellsFrom, Addr.add, hb0, hb1, hb2, Result.andThen]
  have hst : ∀ (V : World) (o : Nat) (v : Int) (u : Value), V.cell? ⟨t, o, none⟩ = some u → V.frozen? ⟨t, o, none⟩ = false → (store ⟨t, o, none⟩ (.int .i64 v)).run Tryz.prog V = .ok () (V.setCell ⟨t, o, none⟩ (.int .i64 v)) := fun V o v u h hf => by
    rw [run_store Tryz.prog V _ _ _ (by rfl)]
    simp [h, hf]
  rw [hl]
  simp [storeCells, Addr.add, Result.andThen]
  rw [hst W 0 x o0 h0 (hf 0)]
  simp only
  rw [hst _ 1 y o1 ((World.cell?_setCell_other _ _ _ _ (by simp)).trans h1) (by simpa using hf 1)]
  simp only
  rw [hst _ 2 z o2 ((World.cell?_setCell_other _ _ _ _ (by simp)).trans ((World.cell?_setCell_other _ _ _ _ (by simp)).trans h2)) (by simpa using hf 2)]
set_option maxHeartbeats 4000000 in
/-- errors.As, where the error is a checkFault: true, and the target is set. -/
theorem as_hit (t : Nat) (x y z : Int) (o0 o1 o2 : Value) (w : World) (hg : w.cell? ⟨0, 0, none⟩ = some (.iface 145 (.agg #[.pointer (some ⟨3, 54, none⟩)])))
    (h0 : w.cell? ⟨t, 0, none⟩ = some o0) (h1 : w.cell? ⟨t, 1, none⟩ = some o1) (h2 : w.cell? ⟨t, 2, none⟩ = some o2) (hf : ∀ o, w.frozen? ⟨t, o, none⟩ = false) :
    Calls Tryz.prog 28 #[.iface 51 (.agg #[.int .i64 x, .int .i64 y, .int .i64 z]), .iface 56 (.pointer (some ⟨t, 0, none⟩))] w fun ev w' => ev = .returned (.bool true) ∧
      ∃ w1, Below w.heap.size w w1 ∧ w' = ((w1.setCell ⟨t, 0, none⟩ (.int .i64 x)).setCell ⟨t, 1, none⟩ (.int .i64 y)).setCell ⟨t, 2, none⟩ (.int .i64 z) := by
  have e35 := @run_callFunc_extern Tryz.prog 55 _ (fun args => ReflectliteValue.unpack (args.getD 0 (.tuple #[]))) Tryz.func55 (by kernel_rfl) (by kernel_rfl) (by kernel_rfl) (by kernel_rfl)
  have e36 := @run_callFunc_extern Tryz.prog 56 _ (ReflectliteValue.methodAny (ReflectliteValue.valueError "reflectlite.Value.Type" 0) (fun t _ _ _ => ReflectliteType.toType t)) Tryz.func56 (by kernel_rfl) (by kernel_rfl) (by kernel_rfl) (by kernel_rfl)
  have e37 := @run_callFunc_extern Tryz.prog 57 _ (ReflectliteValue.method (ReflectliteValue.valueError "reflectlite.Value.IsNil" 0) ReflectliteValue.isNil) Tryz.func57 (by kernel_rfl) (by kernel_rfl) (by kernel_rfl) (by kernel_rfl)
  have eK := @run_callFunc_extern Tryz.prog 172 _ (ReflectliteType.abiMethod fun t => do pure (.int .u8 (← Rtype.kind t))) Tryz.func172 (by kernel_rfl) (by kernel_rfl) (by kernel_rfl) (by kernel_rfl)
  have eE := @run_callFunc_extern Tryz.prog 182 _ (ReflectliteType.method ReflectliteType.elem) Tryz.func182 (by kernel_rfl) (by kernel_rfl) (by kernel_rfl) (by kernel_rfl)
  have eI := @run_callFunc_extern Tryz.prog 183 _ (ReflectliteType.relation "Implements" ReflectliteType.implements_) Tryz.func183 (by kernel_rfl) (by kernel_rfl) (by kernel_rfl) (by kernel_rfl)
  have eT := @run_callFunc_extern Tryz.prog 86 _ ReflectliteType.typeOf Tryz.func86 (by kernel_rfl) (by kernel_rfl) (by kernel_rfl) (by kernel_rfl)
  have eA := @run_callFunc_extern Tryz.prog 180 _ (ReflectliteType.relation "AssignableTo" ReflectliteType.assignableTo) Tryz.func180 (by kernel_rfl) (by kernel_rfl) (by kernel_rfl) (by kernel_rfl)
  have eV := @run_callFunc_extern Tryz.prog 87 _ (ReflectliteValue.method (ReflectliteValue.valueError "reflectlite.Value.Elem" 0) ReflectliteValue.elem) Tryz.func87 (by kernel_rfl) (by kernel_rfl) (by kernel_rfl) (by kernel_rfl)
  have eS := @run_callFunc_extern Tryz.prog 88 _ ReflectliteValue.set Tryz.func88 (by kernel_rfl) (by kernel_rfl) (by kernel_rfl) (by kernel_rfl)
  have tO := rx_typeOfS
  have mA := rx_methodAssignableTo
  have aS := rx_assignableS
  have vS := rx_valueOfS
  have vP := rx_valueOfP
  have tP := rx_typeP
  have mK := rx_methodKind
  have mE := rx_methodElem
  have mI := rx_methodImplements
  have kP := rx_kindP
  have kS := rx_kindS
  have eP := rx_elemP
  have iS := rx_implementsS
  obtain ⟨A1, hA1⟩ : ∃ A1, A1 = (w.alloc (.cells #[.pointer (some ⟨t, 0, none⟩)] 56)).alloc (.cells #[.pointer (some ⟨3, 56, none⟩), .pointer (some ⟨w.heap.size, 0, none⟩), .int .u64 150] 101) := ⟨_, rfl⟩
  have n8 := rx_isNilP ⟨w.heap.size, 0, none⟩ ⟨t, 0, none⟩ ((w.alloc (.cells #[.pointer (some ⟨t, 0, none⟩)] 56)).alloc (.cells #[.pointer (some ⟨3, 56, none⟩), .pointer (some ⟨w.heap.size, 0, none⟩), .int .u64 150] 101)) (by simp)
  have htl : t < w.heap.size := World.block_lt_of_cell? _ _ h0
  have hgl : 0 < w.heap.size := World.block_lt_of_cell? _ _ hg
  have hg2 : ((w.alloc (.cells #[.pointer (some ⟨t, 0, none⟩)] 56)).alloc (.cells #[.pointer (some ⟨3, 56, none⟩), .pointer (some ⟨w.heap.size, 0, none⟩), .int .u64 150] 101)).cell? ⟨0, 0, none⟩ = some (.iface 145 (.agg #[.pointer (some ⟨3, 54, none⟩)])) := by
    rw [World.cell?_alloc_lt _ _ ⟨0, 0, none⟩ (by simp), World.cell?_alloc_lt _ _ ⟨0, 0, none⟩ hgl]; exact hg
  have el := rx_elemVP ⟨w.heap.size, 0, none⟩ ⟨t, 0, none⟩ (((w.alloc (.cells #[.pointer (some ⟨t, 0, none⟩)] 56)).alloc (.cells #[.pointer (some ⟨3, 56, none⟩), .pointer (some ⟨w.heap.size, 0, none⟩), .int .u64 150] 101)).alloc (.cells #[.pointer (some ⟨3, 56, none⟩), .pointer (some ⟨w.heap.size, 0, none⟩), .int .u64 150] 101)) (by rw [World.cell?_alloc_lt _ _ ⟨w.heap.size, 0, none⟩ (by simp; omega)]; simp)
  have hB4 : Below w.heap.size w ((((w.alloc (.cells #[.pointer (some ⟨t, 0, none⟩)] 56)).alloc (.cells #[.pointer (some ⟨3, 56, none⟩), .pointer (some ⟨w.heap.size, 0, none⟩), .int .u64 150] 101)).alloc (.cells #[.pointer (some ⟨3, 56, none⟩), .pointer (some ⟨w.heap.size, 0, none⟩), .int .u64 150] 101)).alloc (.cells #[.int .i64 x, .int .i64 y, .int .i64 z] 51)) := ((((Below.refl _ _).alloc (Nat.le_refl _) _).alloc (by simp) _).alloc (by simp; omega) _).alloc (by simp; omega) _
  have st := rx_set t (w.heap.size + 1 + 1 + 1) x y z o0 o1 o2 ((((w.alloc (.cells #[.pointer (some ⟨t, 0, none⟩)] 56)).alloc (.cells #[.pointer (some ⟨3, 56, none⟩), .pointer (some ⟨w.heap.size, 0, none⟩), .int .u64 150] 101)).alloc (.cells #[.pointer (some ⟨3, 56, none⟩), .pointer (some ⟨w.heap.size, 0, none⟩), .int .u64 150] 101)).alloc (.cells #[.int .i64 x, .int .i64 y, .int .i64 z] 51))
    (by rw [World.cell?_alloc_at _ _ _ _ (by simp)]; rfl) (by rw [World.cell?_alloc_at _ _ _ _ (by simp)]; rfl) (by rw [World.cell?_alloc_at _ _ _ _ (by simp)]; rfl)
    ((hB4.cell (p := ⟨t, 0, none⟩) htl).trans h0) ((hB4.cell (p := ⟨t, 1, none⟩) htl).trans h1) ((hB4.cell (p := ⟨t, 2, none⟩) htl).trans h2) (fun o => (hB4.frozen (p := ⟨t, o, none⟩) htl).trans (hf o))
  have HB4 : Hid (Below w.heap.size w ((((w.alloc (.cells #[.pointer (some ⟨t, 0, none⟩)] 56)).alloc (.cells #[.pointer (some ⟨3, 56, none⟩), .pointer (some ⟨w.heap.size, 0, none⟩), .int .u64 150] 101)).alloc (.cells #[.pointer (some ⟨3, 56, none⟩), .pointer (some ⟨w.heap.size, 0, none⟩), .int .u64 150] 101)).alloc (.cells #[.int .i64 x, .int .i64 y, .int .i64 z] 51))) := hB4
  clear hB4 hA1 h0 h1 h2 hf
  go_enter Tryz.func28, Tryz.ntmps28
  go_wp2
  refine wp_loop_rounds 1 ?_
  rw [rounds_succ]
  go_wp2
  go_ret
  exact ⟨rfl, _, HB4.out, rfl⟩
end
section
open Go.RowKit
/-- The laid variable errors.errorType. -/
def ErrT (w : World) : Prop := w.cell? ⟨0, 0, none⟩ = some (.iface 145 (.agg #[.pointer (some ⟨3, 54, none⟩)]))
theorem ErrT.below {w w' : World} (h : ErrT w) (hb : Below w.heap.size w w') : ErrT w' := (hb.cell (p := ⟨0, 0, none⟩) (World.block_lt_of_cell? _ _ h)).trans h
set_option maxRecDepth 100000 in
set_option maxHeartbeats 4000000 in
/-- impl.CheckC. -/
theorem checkCI_any (t : Tr) (vg vf : Value) (w : World) (hT : Tab w) (hE : ErrT w) (hs : smallT t) (hw : wfT t) (hg : Globs w vg t.globals) (hf : Funcs w vf t.funcs) :
    Calls Tryz.prog 7 #[.agg #[vg, vf]] w fun e w' => e = .returned (resV (checkE t)) ∧ Below w.heap.size w w' := by
  obtain ⟨x, y, z, hX⟩ : ∃ x y z, checkE t = (x, y, z) := ⟨_, _, _, rfl⟩
  have HX : Hid (checkE t = (x, y, z)) := hX
  rw [hX, show resV (x, y, z) = .agg #[.int .i64 x, .int .i64 y, .int .i64 z] from rfl]
  obtain ⟨ag, cg, rfl, -⟩ := id hg
  obtain ⟨af, cf, rfl, -⟩ := id hf
  obtain ⟨W0, hW0⟩ : ∃ W0, W0 = ((w.alloc (.cells #[.slice ag t.globals.length cg, .slice af t.funcs.length cf] 26)).alloc (.cells #[.int .i64 0, .int .i64 0, .int .i64 0] 29)).alloc (.cells #[.int .i64 0, .int .i64 0, .int .i64 0] 51) := ⟨_, rfl⟩
  obtain ⟨R, hR⟩ : ∃ R, R = w.heap.size + 1 := ⟨_, rfl⟩
  obtain ⟨F, hF⟩ : ∃ F, F = w.heap.size + 1 + 1 := ⟨_, rfl⟩
  have hA : Below w.heap.size w W0 := by rw [hW0]; exact (((Below.refl _ _).alloc (Nat.le_refl _) _).alloc (by simp) _).alloc (by simp; omega) _
  have hRc : ∀ o, o < 3 → W0.cell? ⟨R, o, none⟩ = some (.int .i64 0) := fun o ho => by
    rw [hW0, World.cell?_alloc_lt _ _ ⟨R, o, none⟩ (by simp [hR])]
    refine (World.cell?_alloc_at _ _ _ _ (by simp [hR])).trans ?_
    have : o = 0 ∨ o = 1 ∨ o = 2 := by omega
    rcases this with rfl | rfl | rfl <;> rfl
  have hFc : ∀ o, o < 3 → W0.cell? ⟨F, o, none⟩ = some (.int .i64 0) := fun o ho => by
    rw [hW0]
    refine (World.cell?_alloc_at _ _ _ _ (by simp [hF])).trans ?_
    have : o = 0 ∨ o = 1 ∨ o = 2 := by omega
    rcases this with rfl | rfl | rfl <;> rfl
  have hRz : ∀ o, W0.frozen? ⟨R, o, none⟩ = false := fun o => by
    rw [hW0, World.frozen?_alloc_past _ _ _ (by simp [hR])]
    exact World.frozen?_alloc_at _ _ _ _ (by simp [hR])
  have hFz : ∀ o, W0.frozen? ⟨F, o, none⟩ = false := fun o => by
    rw [hW0]; exact World.frozen?_alloc_at _ _ _ _ (by simp [hF])
  have hRs : R < W0.heap.size := by rw [hW0]; simp; omega
  have hFs : F < W0.heap.size := by rw [hW0]; simp; omega
  have hRF : R ≠ F := by omega
  have hwR : w.heap.size ≤ R := by omega
  have hwF : w.heap.size ≤ F := by omega
  have HCh : Hid (Calls Tryz.prog 29 #[.agg #[.slice ag t.globals.length cg, .slice af t.funcs.length cf]] W0 fun e w' => e = .returned (errV x y z) ∧ Below W0.heap.size W0 w') := by
    have := checkI_any t _ _ _ (hT.below hT.size hA) hs hw (hg.below hA) (hf.below hA)
    rw [hX] at this
    exact this
  have HE0 : Hid (ErrT W0) := hE.below hA
  have HRc : Hid (∀ o, o < 3 → W0.cell? ⟨R, o, none⟩ = some (.int .i64 0)) := hRc
  have HFc : Hid (∀ o, o < 3 → W0.cell? ⟨F, o, none⟩ = some (.int .i64 0)) := hFc
  have HRz : Hid (∀ o, W0.frozen? ⟨R, o, none⟩ = false) := hRz
  have HFz : Hid (∀ o, W0.frozen? ⟨F, o, none⟩ = false) := hFz
  have HA : Hid (Below w.heap.size w W0) := hA
  clear hX hT hE hs hw hg hf hRc hFc hRz hFz hA
  go_enter Tryz.func7, Tryz.ntmps7
  go_wp2_with fail
  rw [← hW0, ← hF, ← hR]
  clear hW0 hR hF
  refine HCh.out.mono ?_
  rintro e w1 ⟨rfl, hb1⟩
  have hB1 : Below w.heap.size w w1 := HA.out.trans (hb1.mono HA.out.size)
  have HE1 : Hid (ErrT w1) := HE0.out.below hb1
  have r0 := (hb1.cell (p := ⟨R, 0, none⟩) hRs).trans (HRc.out 0 (by decide))
  have r1 := (hb1.cell (p := ⟨R, 1, none⟩) hRs).trans (HRc.out 1 (by decide))
  have r2 := (hb1.cell (p := ⟨R, 2, none⟩) hRs).trans (HRc.out 2 (by decide))
  have rz := fun o => (hb1.frozen (p := ⟨R, o, none⟩) hRs).trans (HRz.out o)
  have f0 := (hb1.cell (p := ⟨F, 0, none⟩) hFs).trans (HFc.out 0 (by decide))
  have f1 := (hb1.cell (p := ⟨F, 1, none⟩) hFs).trans (HFc.out 1 (by decide))
  have f2 := (hb1.cell (p := ⟨F, 2, none⟩) hFs).trans (HFc.out 2 (by decide))
  have fz := fun o => (hb1.frozen (p := ⟨F, o, none⟩) hFs).trans (HFz.out o)
  have hR1 : R < w1.heap.size := Nat.lt_of_lt_of_le hRs hb1.size
  have hF1 : F < w1.heap.size := Nat.lt_of_lt_of_le hFs hb1.size
  clear hb1 HCh HE0 HRc HFc HRz HFz HA hRs hFs
  by_cases hz : x = 0
  · have HV : Hid (y = -1 ∧ z = -1) := by
      have h1 := HX.out
      have h2 := checkE_ok (t := t) (by rw [h1]; exact hz)
      rw [h1] at h2
      simp only [Prod.mk.injEq] at h2
      exact ⟨h2.2.1, h2.2.2⟩
    subst hz
    rw [errV_zero]
    have z0 := rz 0
    have z1 := rz 1
    have z2 := rz 2
    go_wp2_with fail
    refine (as_nil _ w1).mono ?_
    rintro e w2 ⟨rfl, hw⟩
    rw [hw]
    clear hw
    go_wp2_with fail
    obtain ⟨t0, t1, t2⟩ := set3 (u0 := .int .i64 0) (u1 := .int .i64 (-1)) (u2 := .int .i64 (-1)) r0 r1 r2
    refine bodyPost_ret (v := .agg #[.int .i64 0, .int .i64 (-1), .int .i64 (-1)]) (by simp [results, Tryz.results7, go_sem, t0, t1, t2]) rfl ⟨ret_val (by rw [HV.out.1, HV.out.2]), ?_⟩
    exact ((hB1.setCell (p := ⟨R, 0, none⟩) hwR _).setCell (p := ⟨R, 1, none⟩) hwR _).setCell (p := ⟨R, 2, none⟩) hwR _
  · have HZ : Hid (x ≠ 0) := hz
    rw [errV_ne hz]
    have HRz : Hid (∀ o, w1.frozen? ⟨R, o, none⟩ = false) := rz
    have HFz : Hid (∀ o, w1.frozen? ⟨F, o, none⟩ = false) := fz
    clear rz fz hz
    go_wp2_with fail
    refine (as_hit F x y z _ _ _ w1 HE1.out f0 f1 f2 HFz.out).mono ?_
    rintro e w2 ⟨rfl, w3, hb3, hw⟩
    obtain ⟨g0, g1, g2⟩ := set3 (u0 := .int .i64 x) (u1 := .int .i64 y) (u2 := .int .i64 z) ((hb3.cell (p := ⟨F, 0, none⟩) hF1).trans f0) ((hb3.cell (p := ⟨F, 1, none⟩) hF1).trans f1) ((hb3.cell (p := ⟨F, 2, none⟩) hF1).trans f2)
    have hR2 : w2.heap[R]? = w1.heap[R]? := by
      rw [hw, Below.heap_setCell _ _ _ R hRF, Below.heap_setCell _ _ _ R hRF, Below.heap_setCell _ _ _ R hRF]
      exact hb3.block R hR1
    rw [← hw] at g0 g1 g2
    have s0 := (World.cell?_of_block (a := ⟨R, 0, none⟩) hR2).trans r0
    have s1 := (World.cell?_of_block (a := ⟨R, 1, none⟩) hR2).trans r1
    have s2 := (World.cell?_of_block (a := ⟨R, 2, none⟩) hR2).trans r2
    have z0 := (World.frozen?_of_block (a := ⟨R, 0, none⟩) hR2).trans (HRz.out 0)
    have z1 := (World.frozen?_of_block (a := ⟨R, 1, none⟩) hR2).trans (HRz.out 1)
    have z2 := (World.frozen?_of_block (a := ⟨R, 2, none⟩) hR2).trans (HRz.out 2)
    have hB3 : Below w.heap.size w w3 := hB1.trans (hb3.mono hB1.size)
    have hB2 : Below w.heap.size w w2 := by rw [hw]; exact ((hB3.setCell (p := ⟨F, 0, none⟩) hwF _).setCell (p := ⟨F, 1, none⟩) hwF _).setCell (p := ⟨F, 2, none⟩) hwF _
    clear hb3 hw r0 r1 r2 f0 f1 f2 hB3 hR2
    go_wp2_with fail
    obtain ⟨t0, t1, t2⟩ := set3 (u0 := .int .i64 x) (u1 := .int .i64 y) (u2 := .int .i64 z) s0 s1 s2
    refine bodyPost_ret (v := .agg #[.int .i64 x, .int .i64 y, .int .i64 z]) (by simp [results, Tryz.results7, go_sem, t0, t1, t2]) rfl ⟨rfl, ?_⟩
    exact ((hB2.setCell (p := ⟨R, 0, none⟩) hwR _).setCell (p := ⟨R, 1, none⟩) hwR _).setCell (p := ⟨R, 2, none⟩) hwR _
end
section
theorem Rch.trans {t : Tr} {a b c : Nat} (h : Rch t a b) (h' : Rch t b c) : Rch t a c := by
  induction h' using Rch.ind with
  | one h1 => exact .step h h1
  | step _ h1 ih => exact .step ih h1
/-- Where nothing is called in a circle from m on. -/
def Acyc (t : Tr) (m : Nat) : Prop := ∀ x, (x = m ∨ Rch t m x) → ¬ Rch t x x
theorem nodup_len : ∀ (l l' : List Nat), l.Nodup → (∀ x ∈ l, x ∈ l') → l.length ≤ l'.length
  | [], _, _, _ => by simp
  | a :: r, l', hn, hs => by
    have ha := hs a (by simp)
    have hn' := List.nodup_cons.1 hn
    have := nodup_len r (l'.erase a) hn'.2 (fun x hx => (List.mem_erase_of_ne (by rintro rfl; exact hn'.1 hx)).2 (hs x (by simp [hx])))
    rw [List.length_erase_of_mem ha] at this
    have hp : 0 < l'.length := List.length_pos_of_mem ha
    simp only [List.length_cons]
    omega
theorem circE_acyc {t : Tr} {m : Nat} : ∀ (n i : Nat), (circE t m i n).1 = 0 → ∀ x, i ≤ x → x < i + n → (x = m ∨ Rch t m x) → ¬ Rch t x x
  | 0, i, _, x, h1, h2, _ => by omega
  | n + 1, i, h, x, h1, h2, hx => by
    rw [circE] at h
    by_cases hz : (i = m ∨ Rch t m i) ∧ Rch t i i
    · rw [if_pos hz] at h; simp at h
    · rw [if_neg hz] at h
      by_cases e : x = i
      · subst e; exact fun hr => hz ⟨hx, hr⟩
      · exact circE_acyc n (i + 1) h x (by omega) (by omega) hx
end
end Go.Proofs.YtjhmgjimppflhaaGreatDoor
