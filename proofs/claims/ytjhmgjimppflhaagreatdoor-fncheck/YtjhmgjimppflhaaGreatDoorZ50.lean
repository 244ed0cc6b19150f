import Derived.Test.YtjhmgjimppflhaaGreatDoorZ49
set_option linter.unusedSectionVars false
variable [Inhabited Go.Proofs.YtjhmgjimppflhaaGreatDoor.Pick]
namespace Go.Proofs.YtjhmgjimppflhaaGreatDoor
set_option linter.unusedVariables false
set_option linter.unusedSimpArgs false
set_option maxRecDepth 100000
set_option maxHeartbeats 16000000
section
open Go.RowKit
/-- A tree's box and a box of an answer, new in a world. -/
theorem two_boxC {w W1 : World} {x0 x1 : Value} (h : W1 = (w.alloc (.cells #[x0, x1] 26)).alloc (.cells #[.int .i64 0, .int .i64 0, .int .i64 0] 29)) :
    ∀ W, Below (w.heap.size + 2) W1 W → (W.cell? ⟨w.heap.size, 0, none⟩ = some x0 ∧ W.cell? ⟨w.heap.size, 1, none⟩ = some x1) ∧ (W.cell? ⟨w.heap.size + 1, 0, none⟩ = some (.int .i64 0) ∧ W.cell? ⟨w.heap.size + 1, 1, none⟩ = some (.int .i64 0) ∧ W.cell? ⟨w.heap.size + 1, 2, none⟩ = some (.int .i64 0)) ∧ (∀ o, W.frozen? ⟨w.heap.size + 1, o, none⟩ = false) ∧ Below w.heap.size w W ∧ w.heap.size + 2 ≤ W.heap.size := by
  intro W hW
  have hA : Below w.heap.size w W1 := by rw [h]; exact ((Below.refl _ _).alloc (Nat.le_refl _) _).alloc (by simp) _
  have hs : W1.heap.size = w.heap.size + 2 := by rw [h]; simp
  have c : ∀ o, W.cell? ⟨w.heap.size + 1, o, none⟩ = (#[.int .i64 0, .int .i64 0, .int .i64 0] : Array Value)[o]? := fun o => (hW.cell (p := ⟨w.heap.size + 1, o, none⟩) (by simp)).trans (by rw [h]; exact World.cell?_alloc_at _ _ _ _ (by simp))
  have d : ∀ o, W.cell? ⟨w.heap.size, o, none⟩ = (#[x0, x1] : Array Value)[o]? := fun o => (hW.cell (p := ⟨w.heap.size, o, none⟩) (by simp)).trans (by rw [h, World.cell?_alloc_lt _ _ ⟨w.heap.size, o, none⟩ (by simp)]; exact World.cell?_alloc_at _ _ _ _ rfl)
  refine ⟨⟨d 0, d 1⟩, ⟨c 0, c 1, c 2⟩, fun o => ?_, hA.trans (hW.mono (by omega)), by have := hW.size; omega⟩
  refine (hW.frozen (p := ⟨w.heap.size + 1, o, none⟩) (by simp)).trans ?_
  rw [h]
  exact World.frozen?_alloc_at _ _ _ _ (by simp)
set_option maxRecDepth 100000 in
set_option maxHeartbeats 4000000 in
/-- spec.l3Names. -/
theorem l3names_any (t : Tr) (vg vf : Value) (w : World) (hgl : t.globals.length ≤ 1000) (hfl : t.funcs.length ≤ 1000) (hg : Globs w vg t.globals) (hf : Funcs w vf t.funcs) :
    Calls Tryz.prog 23 #[.agg #[vg, vf]] w fun e w' => e = .returned (resV (namesE t)) ∧ Below w.heap.size w w' := by
  obtain ⟨RES, hRES⟩ : ∃ R, R = namesE t := ⟨_, rfl⟩
  rw [← hRES]
  have HRES : Hid (RES = namesE t) := hRES
  have HF : Hid (Funcs w vf t.funcs) := hf
  obtain ⟨ag, cg, rfl, -, -, hgc⟩ := hg
  obtain ⟨af, cf, rfl, -, -, hfc⟩ := hf
  have HGC : Hid (0 < t.globals.length → ∃ b off, ag = some ⟨b, off, none⟩ ∧ GlobsC w b off t.globals) := hgc
  have HFC : Hid (0 < t.funcs.length → ∃ b off, af = some ⟨b, off, none⟩ ∧ FuncsC w b off t.funcs) := hfc
  obtain ⟨i0, hi, hz0, hz1, hz2⟩ := info_parts info_str
  obtain ⟨W1, hW1⟩ : ∃ W1, W1 = (w.alloc (.cells #[.slice ag t.globals.length cg, .slice af t.funcs.length cf] 26)).alloc (.cells #[.int .i64 0, .int .i64 0, .int .i64 0] 29) := ⟨_, rfl⟩
  have HBx : Hid (∀ W, Below (w.heap.size + 2) W1 W → (W.cell? ⟨w.heap.size, 0, none⟩ = some (.slice ag t.globals.length cg) ∧ W.cell? ⟨w.heap.size, 1, none⟩ = some (.slice af t.funcs.length cf)) ∧ (W.cell? ⟨w.heap.size + 1, 0, none⟩ = some (.int .i64 0) ∧ W.cell? ⟨w.heap.size + 1, 1, none⟩ = some (.int .i64 0) ∧ W.cell? ⟨w.heap.size + 1, 2, none⟩ = some (.int .i64 0)) ∧ (∀ o, W.frozen? ⟨w.heap.size + 1, o, none⟩ = false) ∧ Below w.heap.size w W ∧ w.heap.size + 2 ≤ W.heap.size) := two_boxC hW1
  have hs1 : W1.heap.size = w.heap.size + 2 := by rw [hW1]; simp
  have HR0 : Hid (SRow (w.heap.size + 2) (W1.alloc (.cells #[] 9)) (.slice (some ⟨w.heap.size + 1 + 1, 0, none⟩) 0 0) []) := by
    have := srow_lit W1 (w.heap.size + 2) (by omega)
    rw [hs1] at this
    exact this
  have HB0 : Hid (Below (w.heap.size + 2) W1 (W1.alloc (.cells #[] 9))) := (Below.refl _ _).alloc (by omega) _
  clear hRES hgc hfc
  go_enter Tryz.func23, Tryz.ntmps23
  go_wp2_with fail
  rw [← hW1]
  clear hW1 hs1
  go_loopw [3, 4] (fun sv i wr => ∃ (k : Nat), k ≤ t.globals.length ∧ i = .int .i64 k ∧ SRow (w.heap.size + 2) wr sv ((t.globals.take k).map (·.name)) ∧ dupG [] t.globals = dupG ((t.globals.take k).map (·.name)) (t.globals.drop k) ∧ Below (w.heap.size + 2) W1 wr) (fun _ i _ => t.globals.length - (RowKit.intOf i).toNat)
  case atStart => exact ⟨0, Nat.zero_le _, rfl, by simpa using HR0.out, by simp, HB0.out⟩
  case round =>
    clear HR0 HB0
    obtain ⟨k, hk, rfl, hR, hd, hB⟩ := hrel
    obtain ⟨a3, c3, rfl⟩ := hR.shape
    have HR : Hid (SRow (w.heap.size + 2) wr (.slice a3 ((t.globals.take k).map (·.name)).length c3) ((t.globals.take k).map (·.name))) := hR
    have HD : Hid (dupG [] t.globals = dupG ((t.globals.take k).map (·.name)) (t.globals.drop k)) := hd
    obtain ⟨⟨x0, x1⟩, ⟨r0, r1, r2⟩, rz, hBw, hsz⟩ := HBx.out wr hB
    have z0 := rz 0
    have z1 := rz 1
    have z2 := rz 2
    have hle : ((t.globals.take k).map (·.name)).length = k := by simp; omega
    rw [hle] at HR ⊢
    clear hR hd rz
    by_cases hlt : k < t.globals.length
    · obtain ⟨b, off, rfl, hc⟩ := HGC.out (by omega)
      obtain ⟨c0, -⟩ := (hc.below hBw) k hlt
      have hlb : b < wr.heap.size := World.block_lt_of_cell? _ _ c0
      have HD2 : Hid (dupG [] t.globals = dupG ((t.globals.take k).map (·.name)) (t.globals[k] :: t.globals.drop (k + 1))) := by show _ = _; rw [HD.out, drop_cons_ _ _ hlt]
      have HTk : Hid (t.globals.take (k + 1) = t.globals.take k ++ [t.globals[k]]) := take_succ _ _ hlt
      have HSt : Hid (Strs wr (.slice a3 k c3) ((t.globals.take k).map (·.name))) := HR.out.strs (by rw [hle]; omega)
      clear hc HD
      generalize t.globals[k] = p at c0 HD2 HTk
      generalize hsn : (t.globals.take k).map (·.name) = seen at HR HD2 HSt hle
      have HSn : Hid ((t.globals.take k).map (·.name) = seen) := hsn
      clear hsn
      have HIn : Hid (Calls Tryz.prog 51 #[.slice a3 k c3, .string p.name] wr fun e w' => e = .returned (.bool (inS seen p.name)) ∧ Below wr.heap.size wr w') := l3in_any _ _ p.name wr (by rw [hle]; omega) HSt.out
      go_wp2_with fail
      refine HIn.out.mono ?_
      rintro e w2 ⟨rfl, hb2⟩
      have hB2 : Below (w.heap.size + 2) W1 w2 := hB.trans (hb2.mono hsz)
      have d0 := (hb2.cell (p := ⟨b, off + k * 2, none⟩) hlb).trans c0
      have HR2 : Hid (SRow (w.heap.size + 2) w2 (.slice a3 k c3) seen) := HR.out.below hb2
      clear x0 x1 r0 r1 r2 z0 z1 z2 c0 hB hBw hb2 HIn HSt HR
      obtain ⟨⟨x0, x1⟩, ⟨r0, r1, r2⟩, rz, hBw, hsz2⟩ := HBx.out w2 hB2
      have z0 := rz 0
      have z1 := rz 1
      have z2 := rz 2
      clear rz
      cases hx : inS seen p.name with
      | true =>
        have HE : Hid (RES = (2, -1, -1)) := by
          show _ = _
          rw [HRES.out]
          unfold namesE
          rw [if_pos (by rw [HD2.out]; exact dupG_hit hx)]
        clear hx
        go_wp2_with fail
        obtain ⟨t0, t1, t2⟩ := set3 (u0 := .int .i64 2) (u1 := .int .i64 (-1)) (u2 := .int .i64 (-1)) r0 r1 r2
        refine bodyPost_ret (v := .agg #[.int .i64 2, .int .i64 (-1), .int .i64 (-1)]) (by simp [results, Tryz.results23, go_sem, t0, t1, t2]) rfl ⟨ret_val (by rw [HE.out]; rfl), ?_⟩
        exact ((hBw.setCell (p := ⟨w.heap.size + 1, 0, none⟩) (by simp) _).setCell (p := ⟨w.heap.size + 1, 1, none⟩) (by simp) _).setCell (p := ⟨w.heap.size + 1, 2, none⟩) (by simp) _
      | false =>
        have HDn : Hid (dupG [] t.globals = dupG ((t.globals.take (k + 1)).map (·.name)) (t.globals.drop (k + 1))) := by show _ = _; rw [HD2.out, dupG_step hx, HTk.out, ← HSn.out]; simp
        have HNn : Hid (seen ++ [p.name] = (t.globals.take (k + 1)).map (·.name)) := by show _ = _; rw [HTk.out, ← HSn.out]; simp
        clear hx
        go_wp2_with (at_builtin; refine wpList_appF rfl _ _ _ rfl (w.heap.size + 2) 9 i0 _ 1 16 Tryz.underlying58 hi hz0 hz1 hz2 rfl (by decide) _ k (seen.map Value.string) rfl (by have := HR2.out.below ((Below.refl _ _).alloc (Nat.le_refl _) (.cells #[.string p.name] 9)); unfold SRow at this; rw [hle] at this; exact this) ⟨w2.heap.size, 0, none⟩ 1 1 [.string p.name] rfl rfl (cell_one_new _ _ _) (by simp [Value.oneCell']) (by omega) (by decide) (by simp; omega) ?_)
        intro v9 w9 ho9 hg9 hf9
        have HR9 : Hid (SRow (w.heap.size + 2) w9 v9 ((t.globals.take (k + 1)).map (·.name))) := by
          show World.ownsRow _ _ _ _ _ _ _
          rw [← HNn.out, List.length_append, hle, List.map_append]
          exact ho9
        have hB9 : Below (w.heap.size + 2) W1 w9 := (hB2.alloc hsz2 _).grown hg9 (by simp; omega) (fun g hg => (World.ownsRow.lt HR2.out g hg).1)
        obtain ⟨a9, c9, rfl⟩ := HR9.out.shape
        have hle9 : ((t.globals.take (k + 1)).map (·.name)).length = k + 1 := by simp; omega
        rw [hle9] at HR9 ⊢
        clear ho9 hg9 hf9 d0 x0 x1 r0 r1 r2 z0 z1 z2
        go_wp2_with fail
        go_roundw
        case rel => exact ⟨k + 1, by omega, by go_num, HR9.out, HDn.out, hB9⟩
        case measure => simp [RowKit.intOf]; omega
    · have hkk : k = t.globals.length := by omega
      subst hkk
      have HDG : Hid (dupG [] t.globals = false) := by show _ = _; rw [HD.out]; simp [dupG]
      have HRg : Hid (SRow (w.heap.size + 2) wr (.slice a3 t.globals.length c3) (t.globals.map (·.name))) := by
        have := HR.out
        rw [List.take_length] at this
        exact this
      clear HR HD hle r0 r1 r2 z0 z1 z2
      go_wp2_with fail
      clear x0 x1 hBw hsz
      go_loopw [3, 5] (fun sv i w2 => ∃ (k : Nat), k ≤ t.funcs.length ∧ i = .int .i64 k ∧ SRow (w.heap.size + 2) w2 sv (t.globals.map (·.name) ++ (t.funcs.take k).map (·.name)) ∧ dupF (t.globals.map (·.name)) 0 t.funcs = dupF (t.globals.map (·.name) ++ (t.funcs.take k).map (·.name)) k (t.funcs.drop k) ∧ Below (w.heap.size + 2) W1 w2) (fun _ i _ => t.funcs.length - (RowKit.intOf i).toNat)
      case atStart => exact ⟨0, Nat.zero_le _, rfl, by simpa using HRg.out, by simp, hB⟩
      case round =>
        clear HRg hB
        obtain ⟨k, hk, rfl, hR, hd, hB⟩ := hrel
        obtain ⟨a3, c3, rfl⟩ := hR.shape
        have HR : Hid (SRow (w.heap.size + 2) wr (.slice a3 (t.globals.map (·.name) ++ (t.funcs.take k).map (·.name)).length c3) (t.globals.map (·.name) ++ (t.funcs.take k).map (·.name))) := hR
        have HD : Hid (dupF (t.globals.map (·.name)) 0 t.funcs = dupF (t.globals.map (·.name) ++ (t.funcs.take k).map (·.name)) k (t.funcs.drop k)) := hd
        obtain ⟨⟨x0, x1⟩, ⟨r0, r1, r2⟩, rz, hBw, hsz⟩ := HBx.out wr hB
        have z0 := rz 0
        have z1 := rz 1
        have z2 := rz 2
        have hle : (t.globals.map (·.name) ++ (t.funcs.take k).map (·.name)).length = t.globals.length + k := by simp; omega
        rw [hle] at HR ⊢
        clear hR hd rz
        by_cases hlt : k < t.funcs.length
        · obtain ⟨b, off, rfl, hc⟩ := HFC.out (by omega)
          obtain ⟨vp, vb, ⟨c0, -⟩, -⟩ := (hc.below hBw) k hlt
          have hlb : b < wr.heap.size := World.block_lt_of_cell? _ _ c0
          have HD2 : Hid (dupF (t.globals.map (·.name)) 0 t.funcs = dupF (t.globals.map (·.name) ++ (t.funcs.take k).map (·.name)) k (t.funcs[k] :: t.funcs.drop (k + 1))) := by show _ = _; rw [HD.out, drop_cons_ _ _ hlt]
          have HTk : Hid (t.funcs.take (k + 1) = t.funcs.take k ++ [t.funcs[k]]) := take_succ _ _ hlt
          have HSt : Hid (Strs wr (.slice a3 (t.globals.length + k) c3) (t.globals.map (·.name) ++ (t.funcs.take k).map (·.name))) := HR.out.strs (by rw [hle]; omega)
          clear hc HD
          generalize t.funcs[k] = p at c0 HD2 HTk
          generalize hsn : t.globals.map (·.name) ++ (t.funcs.take k).map (·.name) = seen at HR HD2 HSt hle
          have HSn : Hid (t.globals.map (·.name) ++ (t.funcs.take k).map (·.name) = seen) := hsn
          clear hsn
          have HIn : Hid (Calls Tryz.prog 51 #[.slice a3 (t.globals.length + k) c3, .string p.name] wr fun e w' => e = .returned (.bool (inS seen p.name)) ∧ Below wr.heap.size wr w') := l3in_any _ _ p.name wr (by rw [hle]; omega) HSt.out
          go_wp2_with fail
          refine HIn.out.mono ?_
          rintro e w2 ⟨rfl, hb2⟩
          have hB2 : Below (w.heap.size + 2) W1 w2 := hB.trans (hb2.mono hsz)
          have d0 := (hb2.cell (p := ⟨b, off + k * 3, none⟩) hlb).trans c0
          have HR2 : Hid (SRow (w.heap.size + 2) w2 (.slice a3 (t.globals.length + k) c3) seen) := HR.out.below hb2
          clear x0 x1 r0 r1 r2 z0 z1 z2 c0 hB hBw hb2 HIn HSt HR
          obtain ⟨⟨x0, x1⟩, ⟨r0, r1, r2⟩, rz, hBw, hsz2⟩ := HBx.out w2 hB2
          have z0 := rz 0
          have z1 := rz 1
          have z2 := rz 2
          clear rz
          cases hx : inS seen p.name with
          | true =>
            have HE : Hid (RES = (2, (k : Int), -1)) := by
              show _ = _
              rw [HRES.out]
              unfold namesE
              rw [if_neg (by rw [HDG.out]; simp), HD2.out, dupF_hit hx]
            clear hx
            go_wp2_with fail
            obtain ⟨t0, t1, t2⟩ := set3 (u0 := .int .i64 2) (u1 := .int .i64 (k : Int)) (u2 := .int .i64 (-1)) r0 r1 r2
            refine bodyPost_ret (v := .agg #[.int .i64 2, .int .i64 (k : Int), .int .i64 (-1)]) (by simp [results, Tryz.results23, go_sem, t0, t1, t2]) rfl ⟨ret_val (by rw [HE.out]; rfl), ?_⟩
            exact ((hBw.setCell (p := ⟨w.heap.size + 1, 0, none⟩) (by simp) _).setCell (p := ⟨w.heap.size + 1, 1, none⟩) (by simp) _).setCell (p := ⟨w.heap.size + 1, 2, none⟩) (by simp) _
          | false =>
            have HNn : Hid (seen ++ [p.name] = t.globals.map (·.name) ++ (t.funcs.take (k + 1)).map (·.name)) := by show _ = _; rw [HTk.out, ← HSn.out]; simp
            have HDn : Hid (dupF (t.globals.map (·.name)) 0 t.funcs = dupF (t.globals.map (·.name) ++ (t.funcs.take (k + 1)).map (·.name)) ((k + 1 : Nat) : Int) (t.funcs.drop (k + 1))) := by show _ = _; rw [HD2.out, dupF_step hx, HNn.out]; simp
            clear hx
            go_wp2_with (at_builtin; refine wpList_appF rfl _ _ _ rfl (w.heap.size + 2) 9 i0 _ 1 16 Tryz.underlying58 hi hz0 hz1 hz2 rfl (by decide) _ (t.globals.length + k) (seen.map Value.string) rfl (by have := HR2.out.below ((Below.refl _ _).alloc (Nat.le_refl _) (.cells #[.string p.name] 9)); unfold SRow at this; rw [hle] at this; exact this) ⟨w2.heap.size, 0, none⟩ 1 1 [.string p.name] rfl rfl (cell_one_new _ _ _) (by simp [Value.oneCell']) (by omega) (by decide) (by simp; omega) ?_)
            intro v9 w9 ho9 hg9 hf9
            have HR9 : Hid (SRow (w.heap.size + 2) w9 v9 (t.globals.map (·.name) ++ (t.funcs.take (k + 1)).map (·.name))) := by
              show World.ownsRow _ _ _ _ _ _ _
              rw [← HNn.out, List.length_append, hle, List.map_append]
              exact ho9
            have hB9 : Below (w.heap.size + 2) W1 w9 := (hB2.alloc hsz2 _).grown hg9 (by simp; omega) (fun g hg => (World.ownsRow.lt HR2.out g hg).1)
            obtain ⟨a9, c9, rfl⟩ := HR9.out.shape
            have hle9 : (t.globals.map (·.name) ++ (t.funcs.take (k + 1)).map (·.name)).length = t.globals.length + k + 1 := by simp; omega
            rw [hle9] at HR9 ⊢
            clear ho9 hg9 hf9 d0 x0 x1 r0 r1 r2 z0 z1 z2
            go_wp2_with fail
            go_roundw
            case rel => exact ⟨k + 1, by omega, by go_num, HR9.out, HDn.out, hB9⟩
            case measure => simp [RowKit.intOf]; omega
        · have HDF : Hid (dupF (t.globals.map (·.name)) 0 t.funcs = none) := by
            show _ = _
            have hkk : k = t.funcs.length := by omega
            rw [HD.out, hkk, List.drop_length]; rfl
          have HRm : Hid (RES = match fnum t.funcs mainS with | none => (3, -1, -1) | some m => if (t.funcs.getD m ⟨⟨#[]⟩, [], []⟩).params.length > 0 then (3, -1, -1) else (0, -1, -1)) := by
            show _ = _
            rw [HRES.out]
            unfold namesE
            rw [if_neg (by rw [HDG.out]; simp), HDF.out]
            rfl
          have HFu : Hid (Calls Tryz.prog 25 #[.agg #[.slice ag t.globals.length cg, .slice af t.funcs.length cf], .string ⟨#[109, 97, 105, 110]⟩] wr fun e w' => e = .returned (.int .i64 (fnumI t.funcs mainS)) ∧ Below wr.heap.size wr w') := l3func_any t.funcs _ _ mainS wr (by omega) (HF.out.below hBw)
          clear HR HD hle r0 r1 r2 z0 z1 z2
          go_wp2_with fail
          refine HFu.out.mono ?_
          rintro e w2 ⟨rfl, hb2⟩
          have hB2 : Below (w.heap.size + 2) W1 w2 := hB.trans (hb2.mono hsz)
          clear x0 x1 hB hBw hb2 HFu hsz
          obtain ⟨⟨x0, x1⟩, ⟨r0, r1, r2⟩, rz, hBw, hsz2⟩ := HBx.out w2 hB2
          have z0 := rz 0
          have z1 := rz 1
          have z2 := rz 2
          clear rz
          cases hm : fnum t.funcs mainS with
          | none =>
            have HE : Hid (RES = (3, -1, -1)) := by show _ = _; rw [HRm.out, hm]
            rw [fnumI_none hm]
            clear hm HRm
            go_wp2_with fail
            obtain ⟨t0, t1, t2⟩ := set3 (u0 := .int .i64 3) (u1 := .int .i64 (-1)) (u2 := .int .i64 (-1)) r0 r1 r2
            refine bodyPost_ret (v := .agg #[.int .i64 3, .int .i64 (-1), .int .i64 (-1)]) (by simp [results, Tryz.results23, go_sem, t0, t1, t2]) rfl ⟨ret_val (by rw [HE.out]; rfl), ?_⟩
            exact ((hBw.setCell (p := ⟨w.heap.size + 1, 0, none⟩) (by simp) _).setCell (p := ⟨w.heap.size + 1, 1, none⟩) (by simp) _).setCell (p := ⟨w.heap.size + 1, 2, none⟩) (by simp) _
          | some m =>
            have hml := fnum_lt hm
            obtain ⟨b, off, rfl, hc⟩ := HFC.out (by omega)
            obtain ⟨vp, vb, ⟨-, c1, -⟩, ⟨ap, cp, rfl, -⟩, -⟩ := (hc.below hBw) m hml
            have he : t.funcs.getD m ⟨⟨#[]⟩, [], []⟩ = t.funcs[m] := by simp [List.getD, hml]
            rw [fnumI_some hm]
            have HRm2 : Hid (RES = if t.funcs[m].params.length > 0 then (3, -1, -1) else (0, -1, -1)) := by show _ = _; rw [HRm.out, hm]; simp only; rw [he]
            clear hm HRm hc he
            generalize t.funcs[m].params.length = np at c1 HRm2
            by_cases hnp : 0 < np
            · have HE : Hid (RES = (3, -1, -1)) := by show _ = _; rw [HRm2.out, if_pos hnp]
              go_wp2_with fail
              obtain ⟨t0, t1, t2⟩ := set3 (u0 := .int .i64 3) (u1 := .int .i64 (-1)) (u2 := .int .i64 (-1)) r0 r1 r2
              refine bodyPost_ret (v := .agg #[.int .i64 3, .int .i64 (-1), .int .i64 (-1)]) (by simp [results, Tryz.results23, go_sem, t0, t1, t2]) rfl ⟨ret_val (by rw [HE.out]; rfl), ?_⟩
              exact ((hBw.setCell (p := ⟨w.heap.size + 1, 0, none⟩) (by simp) _).setCell (p := ⟨w.heap.size + 1, 1, none⟩) (by simp) _).setCell (p := ⟨w.heap.size + 1, 2, none⟩) (by simp) _
            · have HE : Hid (RES = (0, -1, -1)) := by show _ = _; rw [HRm2.out, if_neg hnp]
              obtain rfl : np = 0 := by omega
              go_wp2_with fail
              obtain ⟨t0, t1, t2⟩ := set3 (u0 := .int .i64 0) (u1 := .int .i64 (-1)) (u2 := .int .i64 (-1)) r0 r1 r2
              refine bodyPost_ret (v := .agg #[.int .i64 0, .int .i64 (-1), .int .i64 (-1)]) (by simp [results, Tryz.results23, go_sem, t0, t1, t2]) rfl ⟨ret_val (by rw [HE.out]; rfl), ?_⟩
              exact ((hBw.setCell (p := ⟨w.heap.size + 1, 0, none⟩) (by simp) _).setCell (p := ⟨w.heap.size + 1, 1, none⟩) (by simp) _).setCell (p := ⟨w.heap.size + 1, 2, none⟩) (by simp) _
end
end Go.Proofs.YtjhmgjimppflhaaGreatDoor
