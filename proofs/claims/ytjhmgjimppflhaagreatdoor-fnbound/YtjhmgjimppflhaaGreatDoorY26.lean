import Derived.Test.YtjhmgjimppflhaaGreatDoorY06
import Derived.Deep.RegionHeldLaw
import Derived.Defers
set_option linter.unusedSectionVars false
variable [Inhabited Go.Proofs.YtjhmgjimppflhaaGreatDoor.Pick]
namespace Go.Proofs.YtjhmgjimppflhaaGreatDoor
set_option linter.unusedVariables false
set_option linter.unusedSimpArgs false
set_option maxRecDepth 100000
set_option maxHeartbeats 16000000
section
open Go.RowKit
def BRw (B : Nat) (w : World) (v : Value) (bs : List Nat) : Prop := w.ownsRow B 62 1 v bs.length (bs.map (fun b => Value.map (some b)))
theorem BRw.below {B : Nat} {w w' : World} {v : Value} {bs : List Nat} (h : BRw B w v bs) (hb : Below w.heap.size w w') : BRw B w' v bs := by
 obtain ⟨g1, g2⟩ := h
 refine ⟨g1, ?_⟩
 rcases g2 with g2 | ⟨g, cap, cur, rfl, g3, g4, g5⟩
 ·exact .inl g2
 ·refine .inr ⟨g, cap, cur, rfl, g3, ?_, g5⟩
  rw [hb.block g (Array.getElem?_eq_some_iff.1 g4).1]
  exact g4
theorem BRw.other {B c o : Nat} {w : World} {v u : Value} {bs : List Nat} (h : BRw B w v bs) (hc : c < B) : BRw B (w.setCell ⟨c, o, none⟩ u) v bs := by
 obtain ⟨g1, g2⟩ := h
 refine ⟨g1, ?_⟩
 rcases g2 with g2 | ⟨g, cap, cur, rfl, g3, g4, g5⟩
 ·exact .inl g2
 ·refine .inr ⟨g, cap, cur, rfl, g3, ?_, g5⟩
  rw [Below.heap_setCell _ _ _ g (fun h => by simp at h; omega)]
  exact g4
theorem BRw.cut {B : Nat} {w : World} {v : Value} {bs : List Nat} {b : Nat} (h : BRw B w v (bs ++ [b])) : ∃ g cap, v = .slice (some ⟨g, 0, none⟩) (bs.length + 1) cap ∧ B ≤ g ∧ bs.length + 1 ≤ cap ∧ cap ≤ maxLen ∧ w.cell? ⟨g, bs.length, none⟩ = some (.map (some b)) ∧ BRw B w (.slice (some ⟨g, 0, none⟩) bs.length cap) bs := by
 have h0 := h
 obtain ⟨g1, g2⟩ := h
 rcases g2 with ⟨_, hz⟩ | ⟨g, cap, cur, rfl, g3, g4, g5, g6, g7, g8⟩
 ·simp at hz
 ·simp only [List.length_append, List.length_cons, List.length_nil, Nat.zero_add, Nat.mul_one, List.map_append, List.map_cons, List.map_nil] at g1 g5 g7 g8
  refine ⟨g, cap, by simp, g3, g5, g6, ?_, by simp, .inr ⟨g, cap, cur, rfl, g3, g4, by omega, g6, by omega, ?_⟩⟩
  ·have := World.ownsRow.cellAt h0 bs.length (by simp)
   rw [this]
   simp
  ·rw [Nat.mul_one]
   have e : cur.toList.take bs.length = (cur.toList.take (bs.length + 1)).take bs.length := by rw [List.take_take]; congr 1; omega
   rw [e, g8]
   simp
set_option maxHeartbeats 1000000 in
theorem closeD_any (u : FrameMode) (C B b : Nat) (bs : List Nat) (v : Value) (w : World) (hC : C < B) (hc : w.cell? ⟨C, 0, none⟩ = some v) (hf : w.frozen? ⟨C, 0, none⟩ = false) (hR : BRw B w v (bs ++ [b])) (hl : bs.length ≤ 1000000) :
  CallsD Tryz.prog 112 #[.pointer (some ⟨C, 0, none⟩)] u w fun e u' w' => u' = u ∧ (∃ u, e = .returned u) ∧ ∃ v', w' = (w.setCell ⟨C, 0, none⟩ v').drew ∧ BRw B w' v' bs ∧ v'.ownBlock = v.ownBlock := by
 obtain ⟨g, cap, rfl, hg, h1, h2, h3, h4⟩ := hR.cut
 have HB : Hid (BRw B w (.slice (some ⟨g, 0, none⟩) bs.length cap) bs) := h4
 clear h4 hR
 have hsl : ∀ W : World, (Instr.slice 111 (.slice (some ⟨g, 0, none⟩) (bs.length + 1) cap) none (some (.int .i64 (bs.length : Int))) none).run Tryz.prog W = .ok (.slice (some ⟨g, 0, none⟩) bs.length cap) W := by
  intro W
  have hz : Tryz.prog.elem 111 = 62 := by kernel_rfl
  have hs : (sizeOf 62).run Tryz.prog W = .ok 1 W := by kernel_rfl
  rw [run_slice_h W 111 (some ⟨g, 0, none⟩) (bs.length + 1) cap (by rw [hz]; exact Tryz.underlying111) .i64 _ (by omega) (by omega), hz, hs]
  simp [Result.andThen, sliced, Addr.add]
 go_enter_d Tryz.func112, Tryz.ntmps112
 go_wp2_with fail
 go_region
 go_wp2_with fail
 go_end0
 exact ⟨⟨_, rfl⟩, _, rfl, HB.out.other hC |>.below ((Below.refl _ _).drew), rfl⟩
set_option maxHeartbeats 1000000 in
theorem add_any (C B b nn : Nat) (bs : List Nat) (v : Value) (D : DataW Unit) (f : ByteArray → Option Int) (s : ByteArray) (z : Int) (w : World) (hc : w.cell? ⟨C, 0, none⟩ = some v) (hR : BRw B w v (bs ++ [b])) (hl : bs.length ≤ 1000000) (hCb : C ≠ b) (hvb : ∀ x, v.ownBlock = some x → x ≠ b)
  (hown : w.ownsMap Tryz.prog 9 (plainElem (H := Unit) Tryz.prog 2) b nn D) (hM : MapIs D f) (hn : nn < 1000000000) (hs : s.size ≤ maxLen) (hz : (Lit.int .i64 z).wf = true) :
  Calls Tryz.prog 91 #[.pointer (some ⟨C, 0, none⟩), .string s, .int .i64 z] w fun e w' => (∃ u, e = .returned u) ∧ ∃ D', w'.ownsMap Tryz.prog 9 (plainElem (H := Unit) Tryz.prog 2) b (nn + 1) D' ∧ MapIs D' (setN f s z) ∧ w.drew.grownBy w' (some b) := by
 obtain ⟨g, cap, rfl, hg, h1, h2, h3, -⟩ := hR.cut
 have hgb : g ≠ b := hvb g rfl
 clear hvb
 have HO : Hid (w.drew.ownsMap Tryz.prog 9 (plainElem (H := Unit) Tryz.prog 2) b nn D) := hown
 have HM : Hid (MapIs D f) := hM
 have HS : Hid (s.size ≤ maxLen) := hs
 have HW : Hid ((Lit.int .i64 z).wf = true) := hz
 clear hR hown hM hs hz
 generalize bs.length = m at hc h1 h3 hl ⊢
 obtain ⟨w', hrun, r1, r2⟩ := HO.out.update (Maps.string_keyed Tryz.underlying9) Tryz.underlying62 (by unfold maxLen; omega) (WideMaps.keyOf_string_mk Tryz.underlying9 HS.out) (plainElem_int Tryz.underlying2 HW.out)
 have HR1 : Hid (w'.ownsMap Tryz.prog 9 (plainElem (H := Unit) Tryz.prog 2) b (nn + 1) (D.put (kS s) (.lit (.int .i64 z)))) := r1
 have HR2 : Hid (w.drew.grownBy w' (some b)) := r2
 clear r1 r2
 go_enter Tryz.func91, Tryz.ntmps91
 go_wp2_with fail
 go_region
 go_wp2_with fail
 go_end0
 exact ⟨⟨_, rfl⟩, _, HR1.out, HM.out.put s z, HR2.out⟩
theorem map_keep {k : TypeId} {R : Value → Option (DataW Unit × List MemPlace)} {w w' : World} {b n : Nat} {D : DataW Unit} (h : w.ownsMap Tryz.prog k R b n D) (hb : w'.heap[b]? = w.heap[b]?) : w'.ownsMap Tryz.prog k R b n D := by
 obtain ⟨es, clock, h0, F, hs, hD⟩ := h
 exact ⟨es, clock, hb.trans h0, F, hs, hD⟩
theorem info_map : (Tryz.prog.info? 62).map (fun i => (i.zero, i.size, i.bytes)) = some (some (.map none), 1, 8) := by kernel_rfl
theorem BRw.shape {B : Nat} {w : World} {v : Value} {bs : List Nat} (h : BRw B w v bs) : ∃ a c, v = .slice a bs.length c := by
 rcases h.2 with ⟨rfl, hz⟩ | ⟨g, cap, cur, rfl, _⟩
 ·exact ⟨none, 0, by rw [hz]⟩
 ·exact ⟨_, cap, rfl⟩
set_option maxRecDepth 100000 in
set_option maxHeartbeats 2000000 in
theorem open_any (C B : Nat) (bs : List Nat) (v : Value) (w : World) (hC : C < B) (hBs : B ≤ w.heap.size) (hc : w.cell? ⟨C, 0, none⟩ = some v) (hf : w.frozen? ⟨C, 0, none⟩ = false) (hR : BRw B w v bs) (hl : bs.length ≤ 1000000) :
  Calls Tryz.prog 89 #[.pointer (some ⟨C, 0, none⟩)] w fun e w' => (∃ u, e = .returned u) ∧ ∃ (v' : Value) (w1 : World), w' = w1.setCell ⟨C, 0, none⟩ v' ∧ BRw B w' v' (bs ++ [w.heap.size]) ∧ w'.ownsMap Tryz.prog 9 (plainElem (H := Unit) Tryz.prog 2) w.heap.size 0 (.map []) ∧ w.grownBy w1 v.ownBlock ∧ (∀ k, v'.ownBlock = some k → v.ownBlock = some k ∨ w.heap.size < k) := by
 have HB : Hid (BRw B w v bs) := hR
 obtain ⟨a, c, rfl⟩ := hR.shape
 clear hR
 have hmm := @run_makeMap Tryz.prog
 obtain ⟨i0, hi, hz0, hz1, hz2⟩ := info_parts info_map
 have HB2 : Hid (BRw B ((w.alloc (.map #[] 0)).alloc (.cells #[.map (some w.heap.size)] 62)) (.slice a bs.length c) bs) := HB.out.below (((Below.refl _ _).alloc (Nat.le_refl _) _).alloc (by simp) _)
 go_enter Tryz.func89, Tryz.ntmps89
 go_wp2_with (at_builtin; refine wpList_appF rfl _ _ _ rfl B 62 i0 _ 1 8 Tryz.underlying111 hi hz0 hz1 hz2 rfl (by decide) _ bs.length (bs.map (fun b => Value.map (some b))) rfl HB2.out ⟨w.heap.size + 1, 0, none⟩ 1 1 [.map (some w.heap.size)] rfl rfl (by simpa using cell_one_new (w.alloc (.map #[] 0)) (.map (some w.heap.size)) 62) (by simp [Value.oneCell']) (by omega) (by decide) (by simp; omega) ?_)
 intro v1 w1 ho1 hg1 hf1
 have hCl : C < w.heap.size := by omega
 have hA : Below w.heap.size w ((w.alloc (.map #[] 0)).alloc (.cells #[.map (some w.heap.size)] 62)) := ((Below.refl _ _).alloc (Nat.le_refl _) _).alloc (by simp) _
 have hrow : ∀ k, (Value.slice a bs.length c).ownBlock = some k → B ≤ k ∧ k < w.heap.size := fun k hk => World.ownsRow.lt HB.out k hk
 have hCr : some C ≠ (Value.slice a bs.length c).ownBlock := fun h => by have := (hrow C h.symm).1; omega
 have HR1 : Hid (BRw B w1 v1 (bs ++ [w.heap.size])) := by
  show BRw B w1 v1 _
  unfold BRw
  rw [List.length_append, List.map_append]
  exact ho1
 have hblk := hg1.block
 have y0 : w1.cell? ⟨C, 0, none⟩ = some (.slice a bs.length c) := (World.cell?_of_block (a := ⟨C, 0, none⟩) ((hblk C (by simp; omega) hCr).trans (hA.block C hCl))).trans hc
 have y1 : w1.frozen? ⟨C, 0, none⟩ = false := (World.frozen?_of_block (a := ⟨C, 0, none⟩) ((hblk C (by simp; omega) hCr).trans (hA.block C hCl))).trans hf
 have HM : Hid (∀ u, (w1.setCell ⟨C, 0, none⟩ u).ownsMap Tryz.prog 9 (plainElem (H := Unit) Tryz.prog 2) w.heap.size 0 (.map [])) := fun u => by
  refine map_keep (World.ownsMap_made w Tryz.prog 9 _) ?_
  rw [Below.heap_setCell _ _ _ w.heap.size (fun h => by simp at h; omega), hblk w.heap.size (by simp; omega) (fun h => by have := (hrow _ h.symm).2; omega)]
  exact (((Below.refl (w.heap.size + 1) (w.alloc (.map #[] 0))).alloc (by simp) _).block w.heap.size (by omega))
 have HG : Hid (w.grownBy w1 (Value.slice a bs.length c).ownBlock) := by
  obtain ⟨q1, q2, q3, q4, q5⟩ := hg1
  exact ⟨q1, q2, q3, by simp at q4; omega, fun k hk hne => (q5 k (by simp; omega) hne).trans (hA.block k hk)⟩
 have HF : Hid (∀ k, v1.ownBlock = some k → (Value.slice a bs.length c).ownBlock = some k ∨ w.heap.size < k) := fun k hk => by
  rcases hf1 k hk with h | h
  ·exact .inl h
  ·exact .inr (by (try simp at h); omega)
 obtain ⟨a1, c1, rfl⟩ := HR1.out.shape
 have hlen : (bs ++ [w.heap.size]).length = bs.length + 1 := by simp
 rw [hlen] at HR1 HF
 rw [hlen]
 clear hlen
 clear ho1 hg1 hf1 hblk hrow hA hmm HB HB2
 go_wp2_with fail
 go_end0
 exact ⟨⟨_, rfl⟩, _, w1, rfl, HR1.out.other hC, HM.out _, HG.out, HF.out⟩
end
end Go.Proofs.YtjhmgjimppflhaaGreatDoor
