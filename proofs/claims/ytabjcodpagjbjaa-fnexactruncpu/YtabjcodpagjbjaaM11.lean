import Derived.OwnWalk
import Derived.Laws.OwnMore
import Derived.Maps.AppendAt
import Derived.Deep.RegionLaw
import Derived.Deep.AppendLies
import Derived.Test.YtabjcodpagjbjaaM10
namespace Go.Proofs.Ytabjcodpagjbjaa
open Go.RowKit
set_option linter.unusedVariables false
set_option linter.unusedSimpArgs false

theorem blk_sub {v : Value} {g : Nat} (h : ∀ x ∈ blk v, x = g) : (blk v).Sublist [g] := by
  unfold blk at *
  split
  · rename_i a n c
    have := h a.block (by simp)
    rw [this]
    exact List.Sublist.refl _
  · exact List.nil_sublist _
theorem CpuIn.inn1 {w : World} {C : Nat} {L : List Nat} {c : Mc} {g off cap gi : Nat} {d s i o i' : Value} {is : List Int} {v : Int} (h32 : c.regs.length = 32)
    (hb : Bx w C (.slice (some ⟨g, off, none⟩) c.regs.length cap) (.int .u32 c.pc) d s i o (.int .u32 c.low) (.int .i64 c.st)) (hR : Row .u32 w g off c.regs) (hd : Lis .u8 w d c.data) (hs : Lis .u8 w s c.stack)
    (ho : w.ownsRow 0 2 1 o c.out.length (c.out.map (Value.int .i64))) (hL : L = C :: (blk (.slice (some ⟨g, off, none⟩) c.regs.length cap) ++ blk d ++ blk s ++ blk i ++ obk o)) (hnd : L.Nodup)
    (hbk : blk (.slice (some ⟨g, off, none⟩) c.regs.length cap) = [g]) (hk : capOk d ∧ capOk s ∧ capOk i) (hbi : blk i = [gi]) (hi' : Lis .i64 w i' is) (hsub : ∀ x ∈ blk i', x = gi) (hci : capOk i') :
    ∃ L', CpuIn (((w.setCell ⟨g, off + 10, none⟩ (.int .u32 0)).setCell ⟨g, off + 10, none⟩ (.int .u32 v)).setCell ⟨C, 4, none⟩ i') C L' { c with regs := c.regs.set 10 v, inn := is } ∧ (∀ x ∈ L', x ∈ L) ∧ Tcs (fun x => x ∈ L) w (((w.setCell ⟨g, off + 10, none⟩ (.int .u32 0)).setCell ⟨g, off + 10, none⟩ (.int .u32 v)).setCell ⟨C, 4, none⟩ i') := by
  have T := (((Tcs.refl (fun k => k = g ∨ k = C) w).setCell (p := ⟨g, off + 10, none⟩) (.inl rfl) (.int .u32 0)).setCell (p := ⟨g, off + 10, none⟩) (.inl rfl) (.int .u32 v)).setCell (p := ⟨C, 4, none⟩) (.inr rfl) i'
  have hsl : (C :: (blk (.slice (some ⟨g, off, none⟩) c.regs.length cap) ++ blk d ++ blk s ++ blk i' ++ obk o)).Sublist L := by
    rw [hL]
    refine List.Sublist.cons_cons _ (List.Sublist.append (List.Sublist.append (List.Sublist.refl _) ?_) (List.Sublist.refl _))
    rw [hbi]
    exact blk_sub hsub
  have hnd' := List.Nodup.sublist hsl hnd
  have hn2 := hnd
  rw [hL, hbk, hbi] at hn2
  have h1 := (List.nodup_cons.mp hn2).1
  have h2 := (List.nodup_cons.mp hn2).2
  rw [List.append_assoc, List.append_assoc, List.append_assoc] at h2
  have k0 : C ≠ g := fun e => h1 (by simp [e])
  have hh : ∀ x ∈ blk d ++ (blk s ++ ([gi] ++ obk o)), x ≠ g := by
    intro x hx e
    subst e
    exact nodup_sub h2 (List.mem_singleton.mpr rfl) hx
  have kd : g ∉ blk d := fun hm => hh g (by simp [hm]) rfl
  have ks : g ∉ blk s := fun hm => hh g (by simp [hm]) rfl
  have ki : g ≠ gi := fun e => hh g (by simp [e]) rfl
  have ko : g ∉ obk o := fun hm => hh g (by simp [hm]) rfl
  simp only [List.mem_append, List.mem_singleton, not_or] at h1
  obtain ⟨⟨⟨⟨_, d1⟩, d2⟩, d3⟩, d4⟩ := h1
  have mm : ∀ k, k = g ∨ k = C → k ∈ L := by
    rintro k (rfl | rfl) <;> (rw [hL, hbk]; simp)
  refine ⟨_, ⟨.slice (some ⟨g, off, none⟩) c.regs.length cap, d, s, i', o, ?_, ?_, hd.tcs T ?_, hs.tcs T ?_, hi'.tcs T ?_, own_tcs ho T ?_, ⟨hk.1, hk.2.1, hci⟩, rfl, hnd'⟩, fun x hx => hsl.subset hx, T.mono mm⟩
  · exact ((hb.other (p := ⟨g, off + 10, none⟩) k0 _).other (p := ⟨g, off + 10, none⟩) k0 _).s4 _
  · refine ⟨_, cap, by simp, fun _ => ⟨g, off, rfl, ?_⟩⟩
    have r1 := (hR.set (i := 10) (z := 0) (by omega)).set (i := 10) (z := v) (by simp; omega)
    rw [List.set_set] at r1
    exact r1.keep (by simp) (Below.heap_setCell _ ⟨C, 4, none⟩ _ g (fun e => k0 e.symm))
  · rintro x hx (rfl | rfl)
    · exact kd hx
    · exact d1 hx
  · rintro x hx (rfl | rfl)
    · exact ks hx
    · exact d2 hx
  · intro x hx
    have := hsub x hx
    subst this
    rintro (e | e)
    · exact ki e.symm
    · exact d3 e.symm
  · rintro x hx (rfl | rfl)
    · exact ko hx
    · exact d4 hx


set_option maxRecDepth 8000 in
set_option maxHeartbeats 1000000 in
theorem cs_in1 (C : Nat) (L : List Nat) (c : Mc) (w : World) (hG : Good c) (h : CpuIn w C L c) (z : Int) (is : List Int) (h17 : c.regs.getD 17 0 = 2) (hi0 : c.inn = z :: is) :
    Calls Try.prog 76 #[.pointer (some ⟨C, 0, none⟩)] w fun e w' => e = .returned (.bool true) ∧ ∃ L', CpuIn w' C L' { c with regs := c.regs.set 10 (z % 4294967296), inn := is } ∧ (∀ g ∈ L', g ∈ L) ∧ Tcs (fun g => g ∈ L) w w' := by
  obtain ⟨rv, d, s, i, o, hb, hr, hd, hs, hi, ho, hk, hL, hnd⟩ := id h
  obtain ⟨g, off, cap, rfl, hR, hbk⟩ := lis_some hr (by have := hG.r32; omega)
  have e32 := hG.r32
  have c0 := hb.c0
  rw [e32] at c0
  have r17 := hR.cell 17 (by omega)
  have r10 := hR.cell 10 (by omega)
  have f10 := hR.froz (off + 10)
  obtain ⟨gi, oi, ci, rfl, hRi, hbi⟩ := lis_some hi (by rw [hi0]; simp)
  have hcap : c.inn.length ≤ ci := hk.2.2
  have hnl : c.inn.length = is.length + 1 := by rw [hi0]; simp
  have hsm : is.length ≤ 1000 := by have := hG.il; omega
  have c4 := hb.c4
  rw [hnl] at c4 hcap
  have f4 := hb.fz 4
  have ri := hRi.cell 0 (by omega)
  rw [hi0] at ri
  simp only [List.getD_cons_zero, Nat.add_zero] at ri
  rw [h17] at r17
  have hnd2 := hnd
  rw [hL, hbk, hbi] at hnd2
  have q1 : ¬ C = g := by
    intro e
    rw [e] at hnd2
    simp at hnd2
  have q2 : ¬ gi = g := by
    intro e
    rw [e] at hnd2
    simp at hnd2
  have q3 : ¬ C = gi := by
    intro e
    rw [e] at hnd2
    simp at hnd2
  have q1' : ¬ g = C := fun e => q1 e.symm
  have q2' : ¬ g = gi := fun e => q2 e.symm
  have q3' : ¬ gi = C := fun e => q3 e.symm
  have HF : Hid (∀ (i' : Value) (v : Int), Lis .i64 w i' is → (∀ x ∈ blk i', x = gi) → capOk i' → _) := fun i' v a1 a2 a3 => CpuIn.inn1 (v := v) e32 hb hR hd hs ho hL hnd hbk hk hbi a1 a2 a3
  have HT : Hid (Lis .i64 w (.slice (some ⟨gi, oi + 1, none⟩) is.length (ci - 1)) is) := by
    refine ⟨_, _, rfl, fun hn => ⟨gi, oi + 1, rfl, hRi.lt, fun j hj => ?_, hRi.froz⟩⟩
    have := hRi.cell (j + 1) (by omega)
    rw [hi0] at this
    rw [show oi + 1 + j = oi + (j + 1) by omega, this]
    simp
  have hj : ∀ {a : Addr} {n k : Nat}, a.block = gi → ∀ x ∈ blk (.slice (some a) n k), x = gi := fun {a n k} e x hx => by
    have := blk_obk hx
    simp [obk] at this
    omega
  have HJ : Hid (∀ {a : Addr} {n k : Nat}, a.block = gi → ∀ x ∈ blk (.slice (some a) n k), x = gi) := fun {a n k} => hj
  clear hb hr hR hd hs hi ho hk hL hnd hbk h hRi hbi hnd2 hj
  go_enter Try.func76, Try.ntmps76
  go_wp2
  go_region_held3 (fun W => W.cell? ⟨C, 0, none⟩ = some (.slice (some ⟨g, off, none⟩) 32 cap) ∧ W.cell? ⟨C, 4, none⟩ = some (.slice (some ⟨gi, oi, none⟩) (is.length + 1) ci) ∧ W.cell? ⟨gi, oi, none⟩ = some (.int .i64 z)) (go_simp) (fail)
  go_wp2
  · go_ret
    obtain ⟨L', k1, k2, k3⟩ := HF.out (.slice (some ⟨gi, oi, none⟩) is.length 0) (z % 4294967296) ⟨_, _, rfl, fun hn => absurd hn (by omega)⟩ (HJ.out rfl) (show is.length ≤ 0 by omega)
    exact ⟨rfl, L', k1.below ((Below.refl _ _).drew), k2, k3.drewN 1⟩
  · go_ret
    obtain ⟨L', k1, k2, k3⟩ := HF.out _ (z % 4294967296) HT.out (HJ.out rfl) (show is.length ≤ ci - 1 by omega)
    exact ⟨rfl, L', k1.below ((Below.refl _ _).drew), k2, k3.drewN 1⟩


theorem CpuIn.out1 {w W0 w5 : World} {C : Nat} {L : List Nat} {c : Mc} {rv d s i o : Value} {g5 k5 : Nat} {v : Int} (h : CpuIn w C L c)
    (hb : Bx w C rv (.int .u32 c.pc) d s i o (.int .u32 c.low) (.int .i64 c.st)) (hW : Below w.heap.size w W0) (hg : W0.grownBy w5 o.ownBlock)
    (hown : w5.ownsRow 0 2 1 (.slice (some ⟨g5, 0, none⟩) (c.out.length + 1) k5) (c.out.length + 1) (c.out.map (Value.int .i64) ++ [.int .i64 v])) (hat : o.ownBlock = some g5 ∨ g5 = W0.heap.size) :
    ∃ L', CpuIn (w5.setCell ⟨C, 5, none⟩ (.slice (some ⟨g5, 0, none⟩) (c.out.length + 1) k5)) C L' { c with out := c.out ++ [v] } ∧ (∀ g ∈ L', g ∈ L ∨ w.heap.size ≤ g) ∧ Tcs (fun g => g ∈ L) w (w5.setCell ⟨C, 5, none⟩ (.slice (some ⟨g5, 0, none⟩) (c.out.length + 1) k5)) := by
  have hlt := h.lt
  obtain ⟨r', d', s', i', o', hb', hr, hd, hs, hi, ho, hk, hL, hnd⟩ := h
  obtain rfl : r' = rv := Option.some.inj (hb'.c0.symm.trans hb.c0)
  obtain rfl : d' = d := Option.some.inj (hb'.c2.symm.trans hb.c2)
  obtain rfl : s' = s := Option.some.inj (hb'.c3.symm.trans hb.c3)
  obtain rfl : i' = i := Option.some.inj (hb'.c4.symm.trans hb.c4)
  obtain rfl : o' = o := Option.some.inj (hb'.c5.symm.trans hb.c5)
  have hob : ∀ k, o'.ownBlock = some k → k ∈ obk o' := by
    intro k hk
    obtain ⟨a, n, rfl⟩ := own_slice ho
    cases a with
    | none => simp [Value.ownBlock] at hk
    | some a => simp [Value.ownBlock] at hk; simp [obk, hk]
  have T1 : Tcs (fun k => o'.ownBlock = some k) w w5 := (Below.tcs (S := fun k => o'.ownBlock = some k) hW).grown hg (fun k hk => .inr hk)
  have hn1 := (List.nodup_cons.mp (hL ▸ hnd)).1
  have hn2 := (List.nodup_cons.mp (hL ▸ hnd)).2
  have kC : o'.ownBlock ≠ some C := fun e => hn1 (by simp [hob C e])
  have apart : ∀ x ∈ blk r' ++ blk d' ++ blk s' ++ blk i', ¬ (o'.ownBlock = some x) := fun x hx e => nodup_sub hn2 hx (hob x e)
  have lt4 : ∀ x ∈ blk r' ++ blk d' ++ blk s' ++ blk i', x < w.heap.size := fun x hx => hlt x (by rw [hL]; exact List.mem_cons_of_mem _ (List.mem_append_left _ hx))
  have h5 : g5 ∉ blk r' ++ blk d' ++ blk s' ++ blk i' := by
    intro hx
    rcases hat with e | e
    · exact apart g5 hx e
    · have h1 := lt4 g5 hx
      have h2 := hW.size
      omega
  have hC5 : C ≠ g5 := by
    rintro rfl
    rcases hat with e | e
    · exact kC e
    · have h1 := hb'.lt
      have h2 := hW.size
      omega
  have T2 := (Tcs.refl (fun k => k = C) w5).setCell (p := ⟨C, 5, none⟩) rfl (.slice (some ⟨g5, 0, none⟩) (c.out.length + 1) k5)
  have nC : ∀ x ∈ blk r' ++ blk d' ++ blk s' ++ blk i', ¬ x = C := fun x hx e => hn1 (by rw [← e]; exact List.mem_append_left _ hx)
  have mem4 : ∀ x, x ∈ blk r' ++ blk d' ++ blk s' ++ blk i' ↔ ((x ∈ blk r' ∨ x ∈ blk d') ∨ x ∈ blk s') ∨ x ∈ blk i' := by intro x; simp only [List.mem_append]
  refine ⟨C :: (blk r' ++ blk d' ++ blk s' ++ blk i' ++ obk (.slice (some ⟨g5, 0, none⟩) (c.out.length + 1) k5)), ⟨r', d', s', i', .slice (some ⟨g5, 0, none⟩) (c.out.length + 1) k5, ?_, ?_, ?_, ?_, ?_, ?_, hk, rfl, ?_⟩, ?_, ?_⟩
  · exact (hb'.keep (T1.block C hb'.lt kC)).s5 _
  · exact (hr.tcs T1 fun x hx => apart x ((mem4 x).2 (.inl (.inl (.inl hx))))).tcs T2 fun x hx => nC x ((mem4 x).2 (.inl (.inl (.inl hx))))
  · exact (hd.tcs T1 fun x hx => apart x ((mem4 x).2 (.inl (.inl (.inr hx))))).tcs T2 fun x hx => nC x ((mem4 x).2 (.inl (.inl (.inr hx))))
  · exact (hs.tcs T1 fun x hx => apart x ((mem4 x).2 (.inl (.inr hx)))).tcs T2 fun x hx => nC x ((mem4 x).2 (.inl (.inr hx)))
  · exact (hi.tcs T1 fun x hx => apart x ((mem4 x).2 (.inr hx))).tcs T2 fun x hx => nC x ((mem4 x).2 (.inr hx))
  · have := own_tcs hown T2 (fun x hx => by simp [obk] at hx; omega)
    simpa using this
  · rw [List.nodup_cons]
    refine ⟨?_, ?_⟩
    · rw [List.mem_append]
      rintro (hx | hx)
      · exact nC C hx rfl
      · simp [obk] at hx
        exact hC5 hx
    · rw [List.nodup_append]
      refine ⟨(List.nodup_append.mp hn2).1, by simp [obk], fun x hx y hy => ?_⟩
      simp [obk] at hy
      subst hy
      rintro rfl
      exact h5 hx
  · intro x hx
    rw [List.mem_cons, List.mem_append] at hx
    rcases hx with rfl | hx | hx
    · exact .inl (by rw [hL]; simp)
    · exact .inl (by rw [hL]; exact List.mem_cons_of_mem _ (List.mem_append_left _ hx))
    · simp [obk] at hx
      subst hx
      rcases hat with e | e
      · exact .inl (by rw [hL]; exact List.mem_cons_of_mem _ (List.mem_append_right _ (hob x e)))
      · exact .inr (by rw [e]; exact hW.size)
  · refine (T1.mono fun k hk => ?_).trans (T2.mono fun k hk => ?_)
    · rw [hL]
      exact List.mem_cons_of_mem _ (List.mem_append_right _ (hob k hk))
    · subst hk
      rw [hL]
      simp


set_option maxRecDepth 8000 in
set_option maxHeartbeats 1000000 in
theorem cs_out (C : Nat) (L : List Nat) (c : Mc) (w : World) (hG : Good c) (h : CpuIn w C L c) (h17 : c.regs.getD 17 0 = 1) (ho1 : c.out.length < 1000000) :
    Calls Try.prog 76 #[.pointer (some ⟨C, 0, none⟩)] w fun e w' => e = .returned (.bool true) ∧ ∃ L', CpuIn w' C L' { c with out := c.out ++ [wrap32 (c.regs.getD 10 0)] } ∧ (∀ g ∈ L', g ∈ L ∨ w.heap.size ≤ g) ∧ Tcs (fun g => g ∈ L) w w' := by
  obtain ⟨rv, d, s, i, o, hb, hr, hd, hs, hi, ho, hk, hL, hnd⟩ := id h
  obtain ⟨g, off, cap, rfl, hR, hbk⟩ := lis_some hr (by have := hG.r32; omega)
  have e32 := hG.r32
  have c0 := hb.c0
  rw [e32] at c0
  have r17 := hR.cell 17 (by omega)
  have r10 := hR.cell 10 (by omega)
  have f10 := hR.froz (off + 10)
  obtain ⟨i2, hi2, hz20, hz21, hz22⟩ := info_parts Try.infi64
  obtain ⟨xo, yo, rfl⟩ := own_slice ho
  have c5 := hb.c5
  have f5 := hb.fz 5
  rw [h17] at r17
  have ho2 : (decide ((1000000 : Int) ≤ (c.out.length : Int))) = false := by simp; omega
  have ho3 : ¬ ((1000000 : Int) ≤ (c.out.length : Int)) := by omega
  have hG0 := hG.ru 10 (by omega)
  have H1 : Hid _ := ho1
  clear ho1 hG
  have HE : Hid (CpuIn w C L c) := h
  have HO : Hid _ := ho
  have HB : Hid (∀ (W0 w5 : World) (g5 k5 : Nat) (v : Int), Below w.heap.size w W0 → W0.grownBy w5 (Value.ownBlock (.slice xo c.out.length yo)) → w5.ownsRow 0 2 1 (.slice (some ⟨g5, 0, none⟩) (c.out.length + 1) k5) (c.out.length + 1) (c.out.map (Value.int .i64) ++ [.int .i64 v]) → (Value.ownBlock (.slice xo c.out.length yo) = some g5 ∨ g5 = W0.heap.size) → _) := fun W0 w5 g5 k5 v a1 a2 a3 a4 => CpuIn.out1 h hb a1 a2 a3 a4
  have hCl := hb.lt
  have HB5 : Hid (∀ (W0 w5 : World), Below w.heap.size w W0 → W0.grownBy w5 (Value.ownBlock (.slice xo c.out.length yo)) → w5.heap[C]? = w.heap[C]?) := by
    intro W0 w5 hW hg
    rw [hg.block C (Nat.lt_of_lt_of_le hCl hW.size) ?_, hW.block C hCl]
    intro e
    rw [hL] at hnd
    refine (List.nodup_cons.mp hnd).1 ?_
    have : C ∈ obk (.slice xo c.out.length yo) := by
      cases xo with
      | none => simp [Value.ownBlock] at e
      | some a => simp [Value.ownBlock] at e; simp [obk, e]
    simp [this]
  clear hb hr hR hd hs hi hk hL hnd hbk h
  generalize hx10 : c.regs.getD 10 0 = x10 at *
  generalize hno : c.out.length = no at *
  have HN : Hid _ := And.intro hno hx10
  clear hno hx10
  go_enter Try.func76, Try.ntmps76
  go_wp2_with fail
  go_region_law (first
    | (refine step_append_lies _ rfl _ _ 26 rfl 0 2 i2 (.int .i64 0) 1 8 Try.underlying26 hi2 hz20 hz21 hz22 rfl (by decide) (.slice xo no yo) no _ rfl (World.ownsRow.alloc (World.ownsRow.drew HO.out) _) ⟨w.heap.size, 0, none⟩ 1 1 [_] rfl rfl (cell_one_new _ _ _) (by intro u hu; simp at hu; subst hu; rfl) (by decide) (by have := H1.out; unfold maxLen; omega) (by have := H1.out; omega) (Nat.zero_le _) _ rfl ?_; intro g5 k5 w5 hown5 hgrow5 hat5 hlt5; have d5 := HB5.out _ _ (by first | exact (Below.refl _ _).drew.alloc (Nat.le_refl _) _ | exact ((Below.refl _ _).alloc (Nat.le_refl _) _).drew | exact (below_drewN (Below.refl _ _) _).alloc (Nat.le_refl _) _) hgrow5; have d6 := (World.cell?_of_block (a := ⟨C, 5, none⟩) d5).trans c5; have d7 := (World.frozen?_of_block (a := ⟨C, 5, none⟩) d5).trans f5))
  all_goals go_wp2
  all_goals go_ret
  all_goals
    have ev : IntKind.i64.wrap (IntKind.i32.wrap x10) = wrap32 x10 := by rw [IntKind.wrap_i32, IntKind.wrap_i64]; unfold wrap32; omega
    rw [ev] at hown5
    obtain ⟨L', k1, k2, k3⟩ := HB.out _ _ _ _ _ (by first | exact (Below.refl _ _).drew.alloc (Nat.le_refl _) _ | exact ((Below.refl _ _).alloc (Nat.le_refl _) _).drew | exact (below_drewN (Below.refl _ _) _).alloc (Nat.le_refl _) _) hgrow5 hown5 hat5
    exact ⟨rfl, L', k1, k2, k3⟩

end Go.Proofs.Ytabjcodpagjbjaa

namespace Go.Proofs.Ytabjcodpagjbjaa
open Go.RowKit
set_option linter.unusedVariables false
set_option linter.unusedSimpArgs false

theorem inn_len {w : World} {r p d s o l t : Value} {x : Option Addr} {n y : Nat} {L : List Nat} {c : Mc} (h : CpuV w (.agg #[r, p, d, s, .slice x n y, o, l, t]) L c) : n = c.inn.length ∧ n ≤ y := by
  obtain ⟨r', d', s', i', o', hv, hr, hd, hs, hi, ho, hk, rfl, hnd⟩ := h
  simp only [Value.agg.injEq, Array.mk.injEq, List.cons.injEq, and_true] at hv
  obtain ⟨rfl, rfl, rfl, rfl, rfl, rfl, rfl, rfl⟩ := hv
  obtain ⟨a, k, e⟩ := hi.len0
  simp only [Value.slice.injEq] at e
  exact ⟨e.2.1, hk.2.2⟩
theorem CpuV.set {w : World} {L : List Nat} {c : Mc} {g off cap rd : Nat} {p d s i o l t : Value} {v : Int} (h : CpuV w (.agg #[.slice (some ⟨g, off, none⟩) 32 cap, p, d, s, i, o, l, t]) L c) (h32 : c.regs.length = 32) (hrd : rd < 32) :
    CpuV (w.setCell ⟨g, off + rd, none⟩ (.int .u32 v)) (.agg #[.slice (some ⟨g, off, none⟩) 32 cap, p, d, s, i, o, l, t]) L { c with regs := c.regs.set rd v } ∧ g ∈ L := by
  obtain ⟨r', d', s', i', o', hv, hr, hd, hs, hi, ho, hk, rfl, hnd⟩ := h
  simp only [Value.agg.injEq, Array.mk.injEq, List.cons.injEq, and_true] at hv
  obtain ⟨rfl, rfl, rfl, rfl, rfl, rfl, rfl, rfl⟩ := hv
  have hR := row_of hr h32
  have hbk : blk (.slice (some ⟨g, off, none⟩) 32 cap) = [g] := rfl
  have T := (Tcs.refl (fun x => x = g) w).setCell (p := ⟨g, off + rd, none⟩) rfl (.int .u32 v)
  have hn := hnd
  rw [hbk, List.append_assoc, List.append_assoc, List.append_assoc] at hn
  have hh : ∀ x ∈ blk d ++ (blk s ++ (blk i ++ obk o)), x ≠ g := by
    intro x hx e
    subst e
    exact nodup_sub hn (List.mem_singleton.mpr rfl) hx
  refine ⟨⟨_, _, _, _, _, rfl, ?_, hd.tcs T fun x hx => hh x (by simp [hx]), hs.tcs T fun x hx => hh x (by simp [hx]), hi.tcs T fun x hx => hh x (by simp [hx]), own_tcs ho T fun x hx => hh x (by simp [hx]), hk, rfl, hnd⟩, by simp [hbk]⟩
  exact ⟨_, cap, by simp [h32], fun _ => ⟨g, off, rfl, hR.set (by omega)⟩⟩
theorem CpuIn.giveBack2 {w W W' : World} {C : Nat} {L : List Nat} {c : Mc} {r p d s i o l t : Value} {R : Nat} (h : CpuIn W C L c) (hb : Bx W C r p d s i o l t)
    (ht : Tcs (fun k => k = R) W W') (hR : R ∉ L) : ∃ L', L = C :: L' ∧ CpuV W' (.agg #[r, .int .u32 c.pc, d, s, i, o, .int .u32 c.low, .int .i64 c.st]) L' c := by
  obtain ⟨r', d', s', i', o', hb', hr, hd, hs, hi, ho, hk, rfl, hnd⟩ := h
  obtain rfl : r' = r := Option.some.inj (hb'.c0.symm.trans hb.c0)
  obtain rfl : d' = d := Option.some.inj (hb'.c2.symm.trans hb.c2)
  obtain rfl : s' = s := Option.some.inj (hb'.c3.symm.trans hb.c3)
  obtain rfl : i' = i := Option.some.inj (hb'.c4.symm.trans hb.c4)
  obtain rfl : o' = o := Option.some.inj (hb'.c5.symm.trans hb.c5)
  have hv : CpuV W (.agg #[r', .int .u32 c.pc, d', s', i', o', .int .u32 c.low, .int .i64 c.st]) (blk r' ++ blk d' ++ blk s' ++ blk i' ++ obk o') c := ⟨r', d', s', i', o', rfl, hr, hd, hs, hi, ho, hk, rfl, (List.nodup_cons.mp hnd).2⟩
  exact ⟨_, rfl, hv.tcs ht fun g hg e => hR (by rw [← e]; exact List.mem_cons_of_mem _ hg)⟩


set_option maxRecDepth 8000 in
set_option maxHeartbeats 1000000 in
theorem ecIn0 (v : Value) (L : List Nat) (c : Mc) (w : World) (hG : Good c) (h : CpuV w v L c) (h17 : c.regs.getD 17 0 = 2) (hi0 : c.inn = []) :
    Calls Try.prog 80 #[v] w fun e w' => ∃ u, e = .returned u ∧ CpuV w' u L { c with regs := c.regs.set 10 0, pc := (c.pc + 4) % 4294967296 } ∧ Tcs (fun g => g ∈ L) w w' := by
  obtain ⟨g, off, y1, n2, n3, n4, n5, x2, y2, x3, y3, x4, y4, x5, y5, rfl, hbk⟩ := h.shape32 hG.r32
  have A4 : Below w.heap.size w ((w.alloc (.cells #[.slice (some ⟨g, off, none⟩) 32 y1, .int .u32 c.pc, .slice x2 n2 y2, .slice x3 n3 y3, .slice x4 n4 y4, .slice x5 n5 y5, .int .u32 c.low, .int .i64 c.st] 32)).alloc (.cells #[.slice none 0 0, .int .u32 0, .slice none 0 0, .slice none 0 0, .slice none 0 0, .slice none 0 0, .int .u32 0, .int .i64 0] 32)) := below2 _ _ _
  have hCb : ((w.alloc (.cells #[.slice (some ⟨g, off, none⟩) 32 y1, .int .u32 c.pc, .slice x2 n2 y2, .slice x3 n3 y3, .slice x4 n4 y4, .slice x5 n5 y5, .int .u32 c.low, .int .i64 c.st] 32)).alloc (.cells #[.slice none 0 0, .int .u32 0, .slice none 0 0, .slice none 0 0, .slice none 0 0, .slice none 0 0, .int .u32 0, .int .i64 0] 32)).heap[w.heap.size]? = some (.cells #[.slice (some ⟨g, off, none⟩) 32 y1, .int .u32 c.pc, .slice x2 n2 y2, .slice x3 n3 y3, .slice x4 n4 y4, .slice x5 n5 y5, .int .u32 c.low, .int .i64 c.st] 32) := by
    rw [Below.heap_alloc _ _ _ (by simp)]
    exact heap_alloc_new w _
  have hI := h.boxed A4 hCb (Nat.le_refl _)
  obtain ⟨rv, d, s, i, o, hb, hr, hd, hs, hi, ho, hk, hL, hnd⟩ := id hI
  obtain rfl := Option.some.inj (hb.c0.symm.trans (Bx.of_heap hCb).c0)
  have hR := row_of hr hG.r32
  have r17 := hR.cell 17 (by have := hG.r32; omega)
  have r10 := hR.cell 10 (by have := hG.r32; omega)
  have f10 := hR.froz (off + 10)
  have hgw : g < w.heap.size := h.lt g hbk
  have e1 : ¬ g = w.heap.size := by omega
  have e2 : ¬ g = w.heap.size + 1 := by omega
  rw [h17] at r17
  obtain rfl : n4 = 0 := by rw [(inn_len h).1, hi0]; rfl
  have HX : Hid _ := And.intro h (And.intro A4 (And.intro hI (Bx.of_heap hCb)))
  clear hb hr hR hd hs hi ho hk hL hnd h A4 hCb hI hbk
  generalize hx17 : c.regs.getD 17 0 = q17 at *
  generalize hx10 : c.regs.getD 10 0 = q10 at *
  go_enter Try.func80, Try.ntmps80
  go_wp2
  refine bodyPost_ret (v := .agg #[.slice (some ⟨g, off, none⟩) 32 y1, .int .u32 ((c.pc + 4) % 4294967296), .slice x2 n2 y2, .slice x3 n3 y3, .slice x4 0 y4, .slice x5 n5 y5, .int .u32 c.low, .int .i64 c.st]) (by simp [results, Try.results80, go_sem]) rfl ?_
  obtain ⟨hv, A4, hI, hb⟩ := HX.out
  obtain ⟨k0, hgL⟩ := hv.set (rd := 10) (v := 0) hG.r32 (by omega)
  refine ⟨_, rfl, ((k0.pc ((c.pc + 4) % 4294967296)).below (below2 _ _ _)), ?_⟩
  exact (((Tcs.refl (fun x => x ∈ L) w).setCell (p := ⟨g, off + 10, none⟩) hgL _).alloc _).alloc _

end Go.Proofs.Ytabjcodpagjbjaa
