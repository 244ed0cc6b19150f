import Derived.Test.YtolkpkklinoegaaDoorM26
import Derived.Test.YtolkpkklinoegaaDoorM27
import Derived.RegionTactic
import Derived.BigQuiet
import Derived.Deep.QuietTactic
import Derived.Test.YtolkpkklinoegaaDoorM09
set_option linter.unusedSectionVars false
variable [Inhabited Go.Proofs.YtolkpkklinoegaaDoor.Pick]
namespace Go.Proofs.YtolkpkklinoegaaDoor
set_option linter.unusedVariables false
set_option linter.unusedSimpArgs false
set_option maxRecDepth 100000
set_option maxHeartbeats 16000000
section
open Go.RowKit
structure RC where
 w0 : World
 t : Tr
 fr : List Int
 vg : Value
 vf : Value
 vFr : Value
 P : Nat
 bG : Nat
 ga : Option Addr
 gc : Nat
 gb : List Nat
 F : Int
def RC.K (C : RC) (lb : List Nat) : List Nat := C.P :: C.bG :: (C.gb ++ lb)
def InN (w0 : World) (v : Value) (l : List Int) : Prop := ∃ a c, v = .slice a l.length c ∧ l.length ≤ c ∧ c ≤ 9223372036854775807 ∧ (0 < l.length → ∃ b off, a = some ⟨b, off, none⟩ ∧ ∀ j (h : j < l.length), w0.cell? ⟨b, off + j, none⟩ = some (.int .i64 l[j]))
structure RC.Ok (C : RC) : Prop where
 gs : Globs C.w0 C.vg C.t.globals
 fs : Funcs C.w0 C.vf C.t.funcs
 frs : InN C.w0 C.vFr C.fr
 snd : (checkE C.t).1 = 0
 frl : C.fr.length = C.t.funcs.length
 frb : ∀ x ∈ C.fr, 0 ≤ x ∧ x ≤ 1000000000
 gbl : C.gb.length = C.t.globals.length
 fu : 0 ≤ C.F ∧ C.F ≤ 100000
 sm : C.t.globals.length ≤ 1000 ∧ C.t.funcs.length ≤ 1000
 gav : 0 < C.t.globals.length → C.ga = some ⟨C.bG, 0, none⟩
def lcl (x : ByteArray × Int) (b : Nat) : List Value := [.string x.1, .slice (some ⟨b, 0, none⟩) 1 1]
def flatV (l : List (ByteArray × Int)) (lb : List Nat) : List Value := (l.zip lb).flatMap (fun x => lcl x.1 x.2)
theorem flatV_len {l : List (ByteArray × Int)} {lb : List Nat} (h : lb.length = l.length) : (flatV l lb).length = l.length * 2 := by
 induction l generalizing lb with
 | nil => simp [flatV]
 | cons x r ih =>
  cases lb with
  | nil => simp at h
  | cons b q =>
   have := ih (lb := q) (by simpa using h)
   have e : flatV (x :: r) (b :: q) = lcl x b ++ flatV r q := by simp [flatV]
   rw [e, List.length_append, this]
   simp [lcl]
   omega
theorem flatV_get : ∀ (l : List (ByteArray × Int)) (lb : List Nat) (h : lb.length = l.length) (j i : Nat) (hj : j < l.length), i < 2 → (flatV l lb)[j * 2 + i]? = (lcl l[j] (lb[j]'(by omega)))[i]?
 | x :: l, b :: lb, h, 0, i, _, hi => by
  have h2 : (lcl x b).length = 2 := rfl
  have e : flatV (x :: l) (b :: lb) = lcl x b ++ flatV l lb := by simp [flatV]
  rw [e, List.getElem?_append_left (by omega)]
  simp
 | x :: l, b :: lb, h, j + 1, i, hj, hi => by
  have h2 : (lcl x b).length = 2 := rfl
  have e : flatV (x :: l) (b :: lb) = lcl x b ++ flatV l lb := by simp [flatV]
  rw [e, List.getElem?_append_right (by omega)]
  have e2 : (j + 1) * 2 + i - (lcl x b).length = j * 2 + i := by omega
  rw [e2, flatV_get l lb (by simpa using h) j i (by simpa using hj) hi]
  simp
theorem flatV_snoc {l : List (ByteArray × Int)} {lb : List Nat} (h : lb.length = l.length) (x : ByteArray × Int) (b : Nat) : flatV (l ++ [x]) (lb ++ [b]) = flatV l lb ++ lcl x b := by
 unfold flatV
 rw [List.zip_append (by omega), List.flatMap_append]
 simp
theorem flatV_set {l : List (ByteArray × Int)} {lb : List Nat} (j : Nat) (x : ByteArray × Int) (h : ∀ hj : j < l.length, (l[j]).1 = x.1) (hl : lb.length = l.length) : flatV (l.set j x) lb = flatV l lb := by
 induction l generalizing lb j with
 | nil => rfl
 | cons y r ih =>
  cases lb with
  | nil => simp at hl
  | cons b q =>
   cases j with
   | zero =>
    have := h (by simp)
    simp only [List.getElem_cons_zero] at this
    simp [flatV, lcl, this]
   | succ j =>
    have := ih (lb := q) j (fun hj => by have := h (by simpa using hj); simpa using this) (by simpa using hl)
    have e1 : flatV ((y :: r).set (j + 1) x) (b :: q) = lcl y b ++ flatV (r.set j x) q := by simp [flatV]
    have e2 : flatV (y :: r) (b :: q) = lcl y b ++ flatV r q := by simp [flatV]
    rw [e1, e2, this]
theorem flatV_take {l : List (ByteArray × Int)} {lb : List Nat} (k : Nat) (hl : lb.length = l.length) : (flatV l lb).take (k * 2) = flatV (l.take k) (lb.take k) := by
 induction k generalizing l lb with
 | zero => simp [flatV]
 | succ k ih =>
  cases l with
  | nil => simp [flatV]
  | cons y r =>
   cases lb with
   | nil => simp at hl
   | cons b q =>
    have e2 : flatV (y :: r) (b :: q) = lcl y b ++ flatV r q := by simp [flatV]
    have e1 : flatV ((y :: r).take (k + 1)) ((b :: q).take (k + 1)) = lcl y b ++ flatV (r.take k) (q.take k) := by simp [flatV]
    rw [e1, e2, show (k + 1) * 2 = k * 2 + 2 by omega, ← ih (by simpa using hl)]
    rfl
structure RS (C : RC) (w : World) (st : Int) (rt : Bool) (vl : Int) (lb : List Nat) (vL vI vO : Value) (s : ES) : Prop where
 bel : Below C.w0.heap.size C.w0 w
 box : FrC w C.P [C.vg, C.vf, .slice C.ga C.t.globals.length C.gc, vL, vI, vO, .int .i64 C.F, .int .i64 (C.F - s.u), .int .i64 st, .bool rt, .int .i64 vl, C.vFr, .int .i64 s.n, .int .i64 s.d]
 grow : ∀ k (hk : k < C.t.globals.length) (hb : k < C.gb.length), w.cell? ⟨C.bG, k * 2, none⟩ = some (.string C.t.globals[k].name) ∧ w.cell? ⟨C.bG, k * 2 + 1, none⟩ = some (.slice (some ⟨C.gb[k], 0, none⟩) (s.g.getD k []).length (s.g.getD k []).length)
 gl : s.g.length = C.gb.length
 gw : ∀ k (hk : k < C.gb.length), FrC w C.gb[k] ((s.g.getD k []).map (Value.int .i64))
 g1 : ∀ k (hk : k < s.g.length), 1 ≤ (s.g[k]).length ∧ (s.g[k]).length ≤ 1000000
 ll : lb.length = s.l.length
 lrow : w.ownsRow C.w0.heap.size 71 2 vL s.l.length (flatV s.l lb)
 lw : ∀ j (hj : j < lb.length) (hl : j < s.l.length), FrC w lb[j] [.int .i64 s.l[j].2]
 inp : InN C.w0 vI s.i
 out : w.ownsRow C.w0.heap.size 2 1 vO s.o.length (s.o.map (Value.int .i64))
 nd : (C.K lb).Nodup
 rng : ∀ k ∈ C.K lb, C.w0.heap.size ≤ k ∧ k < w.heap.size
 lo : ∀ k, vL.ownBlock = some k → k ∉ C.K lb
 oo : ∀ k, vO.ownBlock = some k → k ∉ C.K lb ∧ vL.ownBlock ≠ some k
 ok : OkW s
 uu : (s.u : Int) ≤ C.F ∧ (s.o.length : Int) + s.u ≤ C.F
 lm : s.l.length ≤ 200000
 nn : 0 ≤ s.n ∧ s.n + 1000000000 * s.u ≤ 100001000000000 ∧ 0 ≤ s.d ∧ s.d ≤ 100001000000000
def TEx (C : RC) (vO : Value) : Nat → Prop := fun k => k = C.P ∨ k ∈ C.gb ∨ vO.ownBlock = some k
def TSx (C : RC) (lb : List Nat) (vL vO : Value) : Nat → Prop := fun k => TEx C vO k ∨ k ∈ lb ∨ vL.ownBlock = some k
def stR : ER → Int
 | .inr (.inr (.inr c)) => c
 | _ => 0
def rtR : ER → Bool
 | .inr (.inr (.inl _)) => true
 | _ => false
theorem RS.hi {C : RC} {w : World} {st : Int} {rt : Bool} {vl : Int} {lb : List Nat} {vL vI vO : Value} {s : ES} (h : RS C w st rt vl lb vL vI vO s) : C.P < w.heap.size ∧ C.bG < w.heap.size ∧ C.w0.heap.size ≤ C.P ∧ C.w0.heap.size ≤ C.bG :=
 ⟨(h.rng C.P (by simp [RC.K])).2, (h.rng C.bG (by simp [RC.K])).2, (h.rng C.P (by simp [RC.K])).1, (h.rng C.bG (by simp [RC.K])).1⟩
theorem RS.past {C : RC} {w w' : World} {st : Int} {rt : Bool} {vl : Int} {lb : List Nat} {vL vI vO : Value} {s : ES} {S : Nat → Prop} (h : RS C w st rt vl lb vL vI vO s) (ht : Tcs S w w') (hS : ∀ k, S k → C.w0.heap.size ≤ k ∧ k ∉ C.K lb ∧ vL.ownBlock ≠ some k ∧ vO.ownBlock ≠ some k) : RS C w' st rt vl lb vL vI vO s := by
 obtain ⟨p1, p2, p3, p4⟩ := h.hi
 have hk : ∀ k, k ∈ C.K lb → ¬ S k := fun k hk hs => (hS k hs).2.1 hk
 have hgb : ∀ k (hk : k < C.gb.length), C.gb[k] ∈ C.K lb := fun k hk => by unfold RC.K; exact List.mem_cons_of_mem _ (List.mem_cons_of_mem _ (List.mem_append_left _ (List.getElem_mem hk)))
 have hlb : ∀ k (hk : k < lb.length), lb[k] ∈ C.K lb := fun k hk => by unfold RC.K; exact List.mem_cons_of_mem _ (List.mem_cons_of_mem _ (List.mem_append_right _ (List.getElem_mem hk)))
 have hP : C.P ∈ C.K lb := by simp [RC.K]
 have hG : C.bG ∈ C.K lb := by simp [RC.K]
 have hc : ∀ o, w'.cell? ⟨C.bG, o, none⟩ = w.cell? ⟨C.bG, o, none⟩ := fun o => World.cell?_of_block (ht.block C.bG p2 (hk _ hG))
 refine ⟨ht.below h.bel h.bel.size (fun k hk => (hS k hk).1), h.box.tcs p1 ht (hk _ hP), fun k h1 h2 => ⟨(hc _).trans (h.grow k h1 h2).1, (hc _).trans (h.grow k h1 h2).2⟩, h.gl, fun k h1 => (h.gw k h1).tcs (h.rng _ (hgb k h1)).2 ht (hk _ (hgb k h1)), h.g1, h.ll, own_notU h.lrow ht (fun k hk hs => (hS k hs).2.2.1 hk), fun j h1 h2 => (h.lw j h1 h2).tcs (h.rng _ (hlb j h1)).2 ht (hk _ (hlb j h1)), h.inp, own_notU h.out ht (fun k hk hs => (hS k hs).2.2.2 hk), h.nd, fun k hk => ⟨(h.rng k hk).1, Nat.lt_of_lt_of_le (h.rng k hk).2 ht.size⟩, h.lo, h.oo, h.ok, h.uu, h.lm, h.nn⟩
theorem RS.below {C : RC} {w w' : World} {st : Int} {rt : Bool} {vl : Int} {lb : List Nat} {vL vI vO : Value} {s : ES} (h : RS C w st rt vl lb vL vI vO s) (hb : Below w.heap.size w w') : RS C w' st rt vl lb vL vI vO s :=
 h.past (hb.tcs (S := fun _ => False)) (fun k hk => hk.elim)
theorem RS.boxed {C : RC} {w : World} {st : Int} {rt : Bool} {vl : Int} {lb : List Nat} {vL vI vO : Value} {s : ES} (h : RS C w st rt vl lb vL vI vO s) (i : Nat) (u : Value) {st' : Int} {rt' : Bool} {vl' : Int} {vI' : Value} {s' : ES}
  (hb : ([C.vg, C.vf, .slice C.ga C.t.globals.length C.gc, vL, vI, vO, .int .i64 C.F, .int .i64 (C.F - s.u), .int .i64 st, .bool rt, .int .i64 vl, C.vFr, .int .i64 s.n, .int .i64 s.d] : List Value).set i u = [C.vg, C.vf, .slice C.ga C.t.globals.length C.gc, vL, vI', vO, .int .i64 C.F, .int .i64 (C.F - s'.u), .int .i64 st', .bool rt', .int .i64 vl', C.vFr, .int .i64 s'.n, .int .i64 s'.d])
  (hg : s'.g = s.g) (hl : s'.l = s.l) (ho : s'.o = s.o) (hi : InN C.w0 vI' s'.i) (hk : OkW s') (hu : (s'.u : Int) ≤ C.F ∧ (s'.o.length : Int) + s'.u ≤ C.F) (hn : 0 ≤ s'.n ∧ s'.n + 1000000000 * s'.u ≤ 100001000000000 ∧ 0 ≤ s'.d ∧ s'.d ≤ 100001000000000) :
  RS C (w.setCell ⟨C.P, i, none⟩ u) st' rt' vl' lb vL vI' vO s' := by
 obtain ⟨p1, p2, p3, p4⟩ := h.hi
 have ht : Tcs (fun k => k = C.P) w (w.setCell ⟨C.P, i, none⟩ u) := (Tcs.refl (fun k => k = C.P) w).setCell (p := ⟨C.P, i, none⟩) rfl u
 have hnd := h.nd
 unfold RC.K at hnd
 have hPn : C.P ∉ C.bG :: (C.gb ++ lb) := (List.nodup_cons.1 hnd).1
 have hgb : ∀ k (hk : k < C.gb.length), C.gb[k] ≠ C.P := fun k hk e => hPn (e ▸ List.mem_cons_of_mem _ (List.mem_append_left _ (List.getElem_mem hk)))
 have hlb : ∀ k (hk : k < lb.length), lb[k] ≠ C.P := fun k hk e => hPn (e ▸ List.mem_cons_of_mem _ (List.mem_append_right _ (List.getElem_mem hk)))
 have hGP : C.bG ≠ C.P := fun e => hPn (e ▸ List.mem_cons_self ..)
 have gK : ∀ k (hk : k < C.gb.length), C.gb[k] ∈ C.K lb := fun k hk => by unfold RC.K; exact List.mem_cons_of_mem _ (List.mem_cons_of_mem _ (List.mem_append_left _ (List.getElem_mem hk)))
 have lK : ∀ k (hk : k < lb.length), lb[k] ∈ C.K lb := fun k hk => by unfold RC.K; exact List.mem_cons_of_mem _ (List.mem_cons_of_mem _ (List.mem_append_right _ (List.getElem_mem hk)))
 have hP : C.P ∈ C.K lb := by simp [RC.K]
 have hc : ∀ o, (w.setCell ⟨C.P, i, none⟩ u).cell? ⟨C.bG, o, none⟩ = w.cell? ⟨C.bG, o, none⟩ := fun o => World.cell?_of_block (ht.block C.bG p2 hGP)
 have hbx := h.box.set i u
 rw [hb] at hbx
 refine ⟨ht.below h.bel h.bel.size (fun k hk => by omega), hbx, ?_, by rw [hg]; exact h.gl, ?_, ?_, by rw [hl]; exact h.ll, ?_, ?_, hi, ?_, h.nd, fun k hk => ⟨(h.rng k hk).1, Nat.lt_of_lt_of_le (h.rng k hk).2 ht.size⟩, h.lo, h.oo, hk, hu, by rw [hl]; exact h.lm, hn⟩
 ·rw [hg]; exact fun k h1 h2 => ⟨(hc _).trans (h.grow k h1 h2).1, (hc _).trans (h.grow k h1 h2).2⟩
 ·rw [hg]; exact fun k h1 => (h.gw k h1).tcs (h.rng _ (gK k h1)).2 ht (hgb k h1)
 ·rw [hg]; exact h.g1
 ·rw [hl]; exact own_notU h.lrow ht (fun k hk hs => h.lo k hk (by have e : k = C.P := hs; rw [e]; exact hP))
 ·rw [hl]; exact fun j h1 h2 => (h.lw j h1 h2).tcs (h.rng _ (lK j h1)).2 ht (hlb j h1)
 ·rw [ho]; exact own_notU h.out ht (fun k hk hs => (h.oo k hk).1 (by have e : k = C.P := hs; rw [e]; exact hP))
end
section
open Go.RowKit
theorem sp_u {s : ES} (h : 0 < s.u) : ((s.sp.u : Nat) : Int) = (s.u : Int) - 1 := by simp only [ES.sp]; omega
theorem ok_sp {s : ES} (h : OkW s) : OkW s.sp := ⟨h.g, h.l, h.i⟩
theorem RS.spend {C : RC} {w : World} {vl : Int} {lb : List Nat} {vL vI vO : Value} {s : ES} (h : RS C w 0 false vl lb vL vI vO s) (hu : 0 < s.u) : RS C (w.setCell ⟨C.P, 7, none⟩ (.int .i64 (C.F - s.u + 1))) 0 false vl lb vL vI vO s.sp := by
 have e := sp_u hu
 have hnn := h.nn
 have huu := h.uu
 refine h.boxed 7 _ ?_ rfl rfl rfl h.inp (ok_sp h.ok) ⟨by omega, by have : s.sp.o = s.o := rfl; rw [this]; omega⟩ ⟨hnn.1, by have : s.sp.n = s.n := rfl; rw [this]; omega, hnn.2.2.1, hnn.2.2.2⟩
 have e2 : C.F - (s.u : Int) + 1 = C.F - (s.sp.u : Int) := by omega
 rw [e2]
 rfl
theorem RS.dry {C : RC} {w : World} {vl : Int} {lb : List Nat} {vL vI vO : Value} {s : ES} (c : Int) (h : RS C w 0 false vl lb vL vI vO s) : RS C (w.setCell ⟨C.P, 8, none⟩ (.int .i64 c)) c false vl lb vL vI vO s :=
 h.boxed 8 _ rfl rfl rfl rfl h.inp h.ok h.uu h.nn
set_option maxHeartbeats 2000000 in
theorem spend1 {C : RC} {w : World} {vl : Int} {lb : List Nat} {vL vI vO : Value} {s : ES} (h : RS C w 0 false vl lb vL vI vO s) (hu : 0 < s.u) (hF : 0 ≤ C.F ∧ C.F ≤ 100000) :
  Calls Tryd.prog 70 #[.pointer (some ⟨C.P, 0, none⟩)] w fun e w' => (∃ x, e = .returned x) ∧ RS C w' 0 false vl lb vL vI vO s.sp ∧ Tcs (fun k => k = C.P) w w' := by
 have c6 := (h.box 6 _ rfl).1
 have c7 := (h.box 7 _ rfl).1
 have f7 := (h.box 7 _ rfl).2
 have c8 := (h.box 8 _ rfl).1
 have huu := h.uu
 have HR : Hid (∀ n, RS C ((w.drewN n).setCell ⟨C.P, 7, none⟩ (.int .i64 (C.F - s.u + 1))) 0 false vl lb vL vI vO s.sp ∧ Tcs (fun k => k = C.P) w ((w.drewN n).setCell ⟨C.P, 7, none⟩ (.int .i64 (C.F - s.u + 1)))) := fun n => ⟨(h.below (below_drewN (Below.refl _ _) n)).spend hu, ((below_drewN (Below.refl w.heap.size w) n).tcs (S := fun k => k = C.P)).setCell (p := ⟨C.P, 7, none⟩) rfl _⟩
 generalize hU : C.F - (s.u : Int) = U at c7 HR
 have hUF : (U == C.F) = false := by simp; omega
 have hUb : 0 ≤ U ∧ U ≤ 100000 := by omega
 generalize C.P = P at c6 c7 f7 c8 HR ⊢
 generalize C.F = F at c6 hUF hF
 clear h huu hU
 go_enter Tryd.func70, Tryd.ntmps70
 go_wp2_with fail
 go_quiet (fail)
 go_wp2_with fail
 exact bodyPost_end (v := .tuple #[]) (by simp [results, Tryd.results70, go_sem]) rfl ⟨⟨_, rfl⟩, HR.out _⟩
set_option maxHeartbeats 2000000 in
theorem spend0 {C : RC} {w : World} {vl : Int} {lb : List Nat} {vL vI vO : Value} {s : ES} (h : RS C w 0 false vl lb vL vI vO s) (hu : s.u = 0) :
  Calls Tryd.prog 70 #[.pointer (some ⟨C.P, 0, none⟩)] w fun e w' => (∃ x, e = .returned x) ∧ RS C w' 2 false vl lb vL vI vO s ∧ Tcs (fun k => k = C.P) w w' := by
 have c6 := (h.box 6 _ rfl).1
 have c7 : w.cell? ⟨C.P, 7, none⟩ = some (.int .i64 C.F) := by have := (h.box 7 _ rfl).1; rw [hu] at this; simpa using this
 have c8 := (h.box 8 _ rfl).1
 have f8 := (h.box 8 _ rfl).2
 have HR : Hid (∀ n, RS C ((w.drewN n).setCell ⟨C.P, 8, none⟩ (.int .i64 2)) 2 false vl lb vL vI vO s ∧ Tcs (fun k => k = C.P) w ((w.drewN n).setCell ⟨C.P, 8, none⟩ (.int .i64 2))) := fun n => ⟨(h.below (below_drewN (Below.refl _ _) n)).dry 2, ((below_drewN (Below.refl w.heap.size w) n).tcs (S := fun k => k = C.P)).setCell (p := ⟨C.P, 8, none⟩) rfl _⟩
 generalize C.P = P at c6 c7 f8 c8 HR ⊢
 generalize C.F = F at c6 c7
 clear h
 go_enter Tryd.func70, Tryd.ntmps70
 go_wp2_with fail
 go_quiet (fail)
 go_wp2_with fail
 exact bodyPost_ret (v := .tuple #[]) (by simp [results, Tryd.results70, go_sem]) rfl ⟨⟨_, rfl⟩, HR.out _⟩
set_option maxHeartbeats 2000000 in
theorem spendD {C : RC} {w : World} {c : Int} {rt : Bool} {vl : Int} {lb : List Nat} {vL vI vO : Value} {s : ES} (h : RS C w c rt vl lb vL vI vO s) (hc : c ≠ 0) :
  Calls Tryd.prog 70 #[.pointer (some ⟨C.P, 0, none⟩)] w fun e w' => (∃ x, e = .returned x) ∧ w' = w := by
 have c8 := (h.box 8 _ rfl).1
 have hc' : (c == 0) = false := by simpa using hc
 generalize C.P = P at c8 ⊢
 clear h
 go_enter Tryd.func70, Tryd.ntmps70
 go_wp2_with fail
 exact bodyPost_ret (v := .tuple #[]) (by simp [results, Tryd.results70, go_sem]) rfl ⟨⟨_, rfl⟩, rfl⟩
set_option maxHeartbeats 2000000 in
theorem going_any {C : RC} {w : World} {c : Int} {rt : Bool} {vl : Int} {lb : List Nat} {vL vI vO : Value} {s : ES} (h : RS C w c rt vl lb vL vI vO s) :
  Calls Tryd.prog 69 #[.pointer (some ⟨C.P, 0, none⟩)] w fun e w' => e = .returned (.bool (decide (c = 0) && !rt)) ∧ w' = w := by
 have c8 := (h.box 8 _ rfl).1
 have c9 := (h.box 9 _ rfl).1
 generalize C.P = P at c8 c9 ⊢
 clear h
 by_cases hc : c = 0
 ·subst hc
  cases rt
  ·go_enter Tryd.func69, Tryd.ntmps69
   go_wp2_with fail
   go_ret
   exact ⟨rfl, rfl⟩
  ·go_enter Tryd.func69, Tryd.ntmps69
   go_wp2_with fail
   go_ret
   exact ⟨rfl, rfl⟩
 ·have hc' : (c == 0) = false := by simpa using hc
  have HE : Hid ((decide (c = 0) && !rt) = false) := by show _ = _; simp [hc]
  go_enter Tryd.func69, Tryd.ntmps69
  go_wp2_with fail
  go_ret
  exact ⟨ret_bool HE.out.symm, rfl⟩
theorem lix_some {l : List (ByteArray × Int)} {x : ByteArray} {j : Nat} (hn : (l.map Prod.fst).Nodup) (hj : j < l.length) (he : (l[j]).1 = x) : lix l x = some j := by
 unfold lix
 rw [List.findIdx?_eq_some_iff_getElem]
 refine ⟨hj, by simpa using he, fun k hk => ?_⟩
 simp only [decide_eq_true_eq]
 intro e
 have hkl : k < l.length := by omega
 have h2 := (List.pairwise_iff_getElem.1 hn) k j (by simpa using hkl) (by simpa using hj) hk
 apply h2
 simp [he, e]
theorem lix_none {l : List (ByteArray × Int)} {x : ByteArray} (h : ∀ j (hj : j < l.length), (l[j]).1 ≠ x) : lix l x = none := by
 unfold lix
 rw [List.findIdx?_eq_none_iff]
 intro y hy
 obtain ⟨j, hj, rfl⟩ := List.getElem_of_mem hy
 simpa using h j hj
theorem gix_some {gs : List Gl} {x : ByteArray} {k : Nat} (hk : k < gs.length) (hl : ∀ j (hj : j < gs.length), j < k → gs[j].name ≠ x) (he : gs[k].name = x) : gix gs x = some k := by
 unfold gix
 rw [List.findIdx?_eq_some_iff_getElem]
 exact ⟨hk, by simpa using he, fun j hj => by simpa using hl j (by omega) hj⟩
theorem gix_none {gs : List Gl} {x : ByteArray} (h : ∀ j (hj : j < gs.length), gs[j].name ≠ x) : gix gs x = none := by
 unfold gix
 rw [List.findIdx?_eq_none_iff]
 intro y hy
 obtain ⟨j, hj, rfl⟩ := List.getElem_of_mem hy
 simpa using h j hj
def FindV (C : RC) (lb : List Nat) (s : ES) (x : ByteArray) (v : Value) : Prop := (∀ j, lix s.l x = some j → v = .slice (some ⟨lb.getD j 0, 0, none⟩) 1 1) ∧ (lix s.l x = none → ∀ k, gix C.t.globals x = some k → v = .slice (some ⟨C.gb.getD k 0, 0, none⟩) (s.g.getD k []).length (s.g.getD k []).length)
set_option maxRecDepth 100000 in
set_option maxHeartbeats 4000000 in
theorem find_any {C : RC} {w : World} {c : Int} {rt : Bool} {vl : Int} {lb : List Nat} {vL vI vO : Value} {s : ES} (x : ByteArray) (h : RS C w c rt vl lb vL vI vO s) (hC : C.Ok) (hn : (s.l.map Prod.fst).Nodup) :
  Calls Tryd.prog 84 #[.pointer (some ⟨C.P, 0, none⟩), .string x] w fun e w' => ∃ v, e = .returned v ∧ FindV C lb s x v ∧ Below w.heap.size w w' := by
 have c2 := (h.box 2 _ rfl).1
 have c3 := (h.box 3 _ rfl).1
 have hgl := hC.sm.1
 have hlm := h.lm
 have HLL := hide h.ll
 have HGB := hide hC.gbl
 have HGr := hide h.grow
 have hown : w.ownsRow C.w0.heap.size 71 2 vL s.l.length (flatV s.l lb) := h.lrow
 obtain ⟨La, Lc, eL, -⟩ := own_shapeU hown
 subst eL
 have HLc : Hid (∀ j (hj : j < s.l.length), ∃ bL, La = some ⟨bL, 0, none⟩ ∧ w.cell? ⟨bL, j * 2, none⟩ = some (.string (s.l[j]).1) ∧ w.cell? ⟨bL, j * 2 + 1, none⟩ = some (.slice (some ⟨lb.getD j 0, 0, none⟩) 1 1)) := fun j hj => by
  rcases hown.2 with ⟨-, hz⟩ | ⟨g, cap, cur, e, -⟩
  ·omega
  ·simp only [Value.slice.injEq] at e
   obtain ⟨rfl, -, rfl⟩ := e
   have hfl := flatV_len h.ll
   have hjb : j < lb.length := by rw [h.ll]; exact hj
   refine ⟨g, rfl, ?_, ?_⟩
   ·have := World.ownsRow.cellAt hown (j * 2) (by omega)
    rw [this]
    have := flatV_get s.l lb h.ll j 0 hj (by omega)
    simpa [lcl] using this
   ·have := World.ownsRow.cellAt hown (j * 2 + 1) (by omega)
    rw [this, flatV_get s.l lb h.ll j 1 hj (by omega)]
    simp [lcl, List.getD, hjb]
 have HN := hide hn
 have hga := hC.gav
 generalize hG : C.t.globals = gs at c2 HGB HGr hgl hga
 have HGa := hide hga
 generalize C.ga = Ga at c2 HGa
 clear hga
 have HG := hide hG
 obtain ⟨ll, hll⟩ : ∃ ll, ll = s.l.length := ⟨_, rfl⟩
 obtain ⟨gn, hgn⟩ : ∃ gn, gn = gs.length := ⟨_, rfl⟩
 rw [← hll] at c3 hlm
 rw [← hgn] at c2 hgl
 have HLe := hide hll
 have HGe := hide hgn
 have HFg : Hid (∀ k v, lix s.l x = none → gix gs x = some k → v = .slice (some ⟨C.gb.getD k 0, 0, none⟩) (s.g.getD k []).length (s.g.getD k []).length → FindV C lb s x v) := fun k v h1 h2 h3 => ⟨fun j hj => (by rw [h1] at hj; cases hj), fun _ k' hk' => by rw [hG, h2] at hk'; cases hk'; exact h3⟩
 have HFn : Hid (∀ v, lix s.l x = none → gix gs x = none → FindV C lb s x v) := fun v h1 h2 => ⟨fun j hj => (by rw [h1] at hj; cases hj), fun _ k' hk' => by rw [hG, h2] at hk'; cases hk'⟩
 generalize C.P = P at c2 c3 ⊢
 clear hn hown h hC hG hll hgn
 go_enter Tryd.func84, Tryd.ntmps84
 go_wp2_with fail
 go_loopw [5] (fun i wr => ∃ k : Nat, k ≤ ll ∧ i = .int .i64 ((k : Int) - 1) ∧ (∀ j (hj : j < s.l.length), k ≤ j → (s.l[j]).1 ≠ x) ∧ wr = w) (fun i _ => (RowKit.intOf i + 1).toNat)
 case atStart => exact ⟨ll, Nat.le_refl _, by first | rfl | simp, fun j hj h => by have := HLe.out; omega, rfl⟩
 case round =>
  obtain ⟨k, hk, rfl, hno, hwr⟩ := hrel
  rw [hwr]
  clear hwr
  have HNo := hide hno
  clear hno
  by_cases hp : 0 < k
  ·obtain ⟨k1, rfl⟩ : ∃ k1, k = k1 + 1 := ⟨k - 1, by omega⟩
   have hkl : k1 < s.l.length := by have := HLe.out; omega
   obtain ⟨bL, rfl, y0, y1⟩ := HLc.out k1 hkl
   have e1 : (((k1 + 1 : Nat) : Int) - 1) = (k1 : Int) := by omega
   rw [e1]
   have hk1 : k1 < ll := by omega
   by_cases hs : (s.l[k1]).1 = x
   ·have HF : Hid (FindV C lb s x (.slice (some ⟨lb.getD k1 0, 0, none⟩) 1 1)) := by
     have hl := lix_some HN.out hkl hs
     exact ⟨fun j hj => by rw [hl] at hj; cases hj; rfl, fun h0 => by rw [hl] at h0; cases h0⟩
    rw [hs] at y0
    clear hs
    generalize lb.getD k1 0 = bw at y1 HF
    go_wp2_with fail
    go_ret
    exact ⟨_, rfl, HF.out, Below.refl _ _⟩
   ·have hs' := ne_list hs
    have HNx : Hid (∀ j (hj : j < s.l.length), k1 ≤ j → (s.l[j]).1 ≠ x) := fun j hj h => by
     by_cases e : j = k1
     ·subst e; exact hs
     ·exact HNo.out j hj (by omega)
    generalize (s.l[k1]).1 = nm at y0 hs hs'
    go_wp2_with fail
    go_roundw
    case rel => exact ⟨k1, by omega, by first | rfl | go_num, HNx.out, trivial⟩
    case measure => simp [RowKit.intOf]
  ·have hk0 : k = 0 := by omega
   subst hk0
   have HLn : Hid (lix s.l x = none) := lix_none (fun j hj => HNo.out j hj (Nat.zero_le _))
   clear HNo
   go_wp2_with fail
   go_loopw [6] (fun i wr => ∃ k : Nat, k ≤ gn ∧ i = .int .i64 (k : Int) ∧ (∀ j (hj : j < gs.length), j < k → gs[j].name ≠ x) ∧ wr = w) (fun i _ => gn - (RowKit.intOf i).toNat)
   case atStart => exact ⟨0, Nat.zero_le _, rfl, fun j hj h => by omega, rfl⟩
   case round =>
    obtain ⟨k, hk2, rfl, hno, hwr⟩ := hrel
    rw [hwr]
    clear hwr
    have HNo := hide hno
    clear hno
    by_cases hlt : k < gn
    ·have hkl : k < gs.length := by rw [← HGe.out]; exact hlt
     obtain rfl := HGa.out (by omega)
     obtain ⟨y0, y1⟩ := HGr.out k hkl (by rw [HGB.out]; exact hkl)
     have hki : (k : Int) < (gn : Int) := by omega
     by_cases hs : gs[k].name = x
     ·have HF := hide (HFg.out k _ HLn.out (gix_some hkl (fun j hj h => HNo.out j hj h) hs) rfl)
      have egb : C.gb[k]'(by rw [HGB.out]; exact hkl) = C.gb.getD k 0 := by have hb : k < C.gb.length := (by rw [HGB.out]; exact hkl); simp [List.getD, hb]
      rw [egb] at y1
      rw [hs] at y0
      clear hs egb
      generalize C.gb.getD k 0 = bw at y1 HF
      generalize (s.g.getD k []).length = gw at y1 HF
      go_wp2_with fail
      go_ret
      exact ⟨_, rfl, HF.out, Below.refl _ _⟩
     ·have hs' := ne_list hs
      have HNx : Hid (∀ j (hj : j < gs.length), j < k + 1 → gs[j].name ≠ x) := fun j hj h => by
       by_cases e : j = k
       ·subst e; exact hs
       ·exact HNo.out j hj (by omega)
      clear y1
      generalize gs[k].name = nm at y0 hs hs'
      go_wp2_with fail
      go_roundw
      case rel => exact ⟨k + 1, by omega, by go_num, HNx.out, trivial⟩
      case measure => simp [RowKit.intOf]; omega
    ·have HF := hide (fun v => HFn.out v HLn.out (gix_none (fun j hj => HNo.out j hj (by have := HGe.out; omega))))
     have hki : ¬ (k : Int) < (gn : Int) := by omega
     go_wp2_with fail
     go_ret
     exact ⟨_, rfl, HF.out _, (Below.refl _ _).alloc (Nat.le_refl _) _⟩
end
section
open Go.RowKit
theorem nodup_ix {α : Type} {l : List α} (h : l.Nodup) {i j : Nat} (hi : i < l.length) (hj : j < l.length) (e : l[i] = l[j]) : i = j := by
 rcases Nat.lt_trichotomy i j with h1 | h1 | h1
 ·exact absurd e ((List.pairwise_iff_getElem.1 h) i j hi hj h1)
 ·exact h1
 ·exact absurd e.symm ((List.pairwise_iff_getElem.1 h) j i hj hi h1)
def Tk.d : Tk → Nat
 | .inr (.inl (_, _, _)) => 1
 | _ => 0
def Ou (d : Nat) (s s' : ES) : Prop := s'.u ≤ s.u ∧ s'.o.length + s'.u ≤ s.o.length + s.u + d ∧ s'.l.length + s'.u ≤ s.l.length + s.u + d
theorem Ou.refl (s : ES) : Ou 0 s s := ⟨Nat.le_refl _, Nat.le_refl _, Nat.le_refl _⟩
theorem Ou.trans {d e : Nat} {a b c : ES} (h : Ou d a b) (h' : Ou e b c) : Ou (d + e) a c := ⟨Nat.le_trans h'.1 h.1, by have := h.2.1; have := h'.2.1; omega, by have := h.2.2; have := h'.2.2; omega⟩
theorem Ou.more {d e : Nat} {a b : ES} (h : Ou d a b) (hd : d ≤ e) : Ou e a b := ⟨h.1, by have := h.2.1; omega, by have := h.2.2; omega⟩
theorem Ou.sp (s : ES) : Ou 0 s s.sp := ⟨by simp only [ES.sp]; omega, by simp only [ES.sp]; omega, by simp only [ES.sp]; omega⟩
theorem Ou.paid {s s' : ES} (hu : 0 < s.u) (h : Ou 1 s.sp s') : Ou 0 s s' := by
 obtain ⟨h1, h2, h3⟩ := h
 simp only [ES.sp] at h1 h2 h3
 exact ⟨by omega, by omega, by omega⟩
theorem Ou.same {s s' : ES} (hu : s'.u = s.u) (ho : s'.o = s.o) (hl : s'.l.length = s.l.length) : Ou 0 s s' := ⟨by omega, by rw [ho]; omega, by omega⟩
theorem ou_chn {st : Nat → ES} {j : Nat} (h : ∀ i, i < j → Ou 0 (st i) (st (i + 1))) : ∀ i, i ≤ j → Ou 0 (st 0) (st i)
 | 0, _ => .refl _
 | i + 1, hi => (ou_chn h i (by omega)).trans (h i (by omega))
theorem Ev.ou {t : Tr} {fr : List Int} {n : Nat} {k : Tk} {s : ES} {r : ER} {s' : ES} (h : Ev t fr n k s r s') : Ou k.d s s' := by
 induction h using Ev_i with
 | kid n e A b st v j c s' h1 h2 h3 h4 h5 h6 i5 i6 => exact (ou_chn (j := j) i5 j (Nat.le_refl _)).trans i6
 | dry n e A b st v h1 h2 h3 h4 h5 i4 => exact ou_chn (j := A) i4 A (Nat.le_refl _)
 | work n e A b st v h1 h2 h3 h4 h5 h6 i5 =>
  obtain ⟨y1, y2, y3, y4, y5⟩ := work_sh t (rootN e) v (st A).sp
  exact ((ou_chn (j := A) i5 A (Nat.le_refl _)).trans (.sp _)).trans (.same (work_u ..) y4 (by rw [y3]))
 | call n e A b st v f r s' h1 h2 h3 h4 h5 h6 i4 i6 => exact ((ou_chn (j := A) i4 A (Nat.le_refl _)).trans (.sp _)).trans i6
 | left n e b s c s' h1 h2 h3 i3 => exact i3
 | ldry n e b s x s' h1 h2 h3 h4 i3 => exact i3
 | lone n e b s x s' h1 h2 h3 h4 i3 => exact i3.trans (.sp _)
 | rigt n e b s x s1 c s' h1 h2 h3 h4 h5 i3 i5 => exact (i3.trans (.sp _)).trans i5
 | rdry n e b s x s1 y s' h1 h2 h3 h4 h5 h6 i3 i5 => exact (i3.trans (.sp _)).trans i5
 | both n e b s x s1 y s' h1 h2 h3 h4 h5 h6 i3 i5 => exact ((i3.trans (.sp _)).trans i5).trans (.sp _)
 | pbad n s a b z c z' h1 i1 => exact i1.more (by simp [Tk.d])
 | decl n s a b z v z' h1 h2 i2 =>
  obtain ⟨x1, x2, x3⟩ := i2
  simp only [Tk.d] at *
  refine ⟨x1, ?_, ?_⟩
  ·show z'.o.length + z'.u ≤ _; omega
  ·show (z'.l ++ [(s.name, v)]).length + z'.u ≤ _; simp; omega
 | set n s a b z v z' h1 h2 i2 =>
  have hw := wr_sh (t := t) (s := z') (x := s.name) (v := v)
  exact (i2.trans (.same (wr_u ..) hw.2.2.2.1 (by have := congrArg List.length hw.2.2.1; simpa using this))).more (by simp [Tk.d])
 | sbad n s a b z v z1 c z' h1 h2 h3 i2 i3 => exact (i2.trans i3).more (by simp [Tk.d])
 | smis n s a b z v z1 x z' h1 h2 h3 h4 i2 i3 => exact (i2.trans i3).more (by simp [Tk.d])
 | stor n s a b z v z1 x z' h1 h2 h3 h4 i2 i3 =>
  have hw := st_sh (t := t) (s := z') (x := s.name) (j := v.toNat) (v := x)
  exact ((i2.trans i3).trans (.same (st_u ..) hw.2.2.2.1 (by rw [hw.2.2.1]))).more (by simp [Tk.d])
 | ifth n s a b z v z1 r z' h1 h2 h3 h4 i2 i4 => exact (i2.trans i4).more (by simp [Tk.d])
 | ifel n s a b z z1 r z' h1 h2 h3 i2 i3 => exact (i2.trans i3).more (by simp [Tk.d])
 | whno n s a b z z' h1 h2 i2 => exact i2.more (by simp [Tk.d])
 | whn n s a b z v z1 r z' h1 h2 h3 h4 h5 i2 i4 => exact (i2.trans i4).more (by simp [Tk.d])
 | whdr n s a b z v z1 z' h1 h2 h3 h4 h5 i2 i4 => exact (i2.trans i4).more (by simp [Tk.d])
 | whag n s a b z v z1 z2 r z' h1 h2 h3 h4 h5 h6 i2 i4 i6 => exact ((i2.trans i4).trans (Ou.paid h5 i6)).more (by simp [Tk.d])
 | retn n s a b z v z' h1 h2 i2 => exact i2.more (by simp [Tk.d])
 | tell n s a b z v z' h1 h2 i2 =>
  obtain ⟨x1, x2, x3⟩ := i2
  simp only [Tk.d] at *
  refine ⟨x1, ?_, ?_⟩
  ·show (z'.o ++ [v]).length + z'.u ≤ _; simp; omega
  ·show z'.l.length + z'.u ≤ _; omega
 | only n s a b z v z' h1 h2 i2 => exact i2.more (by simp [Tk.d])
 | nil n z => exact .refl _
 | sdry n s q z h1 => exact .refl _
 | send n s q z r z' h1 h2 h3 i2 => exact Ou.paid h1 i2
 | next n s q z z1 r z' h1 h2 h3 i2 i3 => exact (Ou.paid h1 i2).trans i3
 | blk n ss z r z' h1 i1 =>
  obtain ⟨x1, x2, x3⟩ := i1
  simp only [Tk.d] at *
  refine ⟨x1, x2, ?_⟩
  show (z'.l.take z.l.length).length + z'.u ≤ _
  simp
  omega
 | run n f vs z hf r z' h1 i1 =>
  obtain ⟨x1, x2, x3⟩ := i1
  exact ⟨x1, x2, by show z.l.length + z'.u ≤ _; have : z'.u ≤ z.u := x1; omega⟩
theorem RS.wl {C : RC} {w : World} {c : Int} {rt : Bool} {vl : Int} {lb : List Nat} {vL vI vO : Value} {s : ES} (h : RS C w c rt vl lb vL vI vO s) (j : Nat) (hj : j < s.l.length) (hjb : j < lb.length) {v : Int} {s' : ES} (hs : s' = { s with l := s.l.set j ((s.l[j]).1, v) }) (hk : OkW s') :
  RS C (w.setCell ⟨lb[j], 0, none⟩ (.int .i64 v)) c rt vl lb vL vI vO s' := by
 obtain ⟨p1, p2, p3, p4⟩ := h.hi
 have ht : Tcs (fun k => k = lb[j]) w (w.setCell ⟨lb[j], 0, none⟩ (.int .i64 v)) := (Tcs.refl (fun k => k = lb[j]) w).setCell (p := ⟨lb[j], 0, none⟩) rfl _
 have hnd := h.nd
 unfold RC.K at hnd
 have hm : lb[j] ∈ lb := List.getElem_mem hjb
 obtain ⟨n1, n2⟩ := List.nodup_cons.1 hnd
 obtain ⟨n3, n4⟩ := List.nodup_cons.1 n2
 obtain ⟨n5, n6, n7⟩ := List.nodup_append.1 n4
 have hP : C.P ≠ lb[j] := fun e => n1 (e ▸ List.mem_cons_of_mem _ (List.mem_append_right _ hm))
 have hG : C.bG ≠ lb[j] := fun e => n3 (e ▸ List.mem_append_right _ hm)
 have gK : ∀ k (hk : k < C.gb.length), C.gb[k] ∈ C.K lb := fun k hk => by unfold RC.K; exact List.mem_cons_of_mem _ (List.mem_cons_of_mem _ (List.mem_append_left _ (List.getElem_mem hk)))
 have lK : ∀ k (hk : k < lb.length), lb[k] ∈ C.K lb := fun k hk => by unfold RC.K; exact List.mem_cons_of_mem _ (List.mem_cons_of_mem _ (List.mem_append_right _ (List.getElem_mem hk)))
 have hgb : ∀ k (hk : k < C.gb.length), C.gb[k] ≠ lb[j] := fun k hk => n7 _ (List.getElem_mem hk) _ hm
 have hc : ∀ o, (w.setCell ⟨lb[j], 0, none⟩ (.int .i64 v)).cell? ⟨C.bG, o, none⟩ = w.cell? ⟨C.bG, o, none⟩ := fun o => World.cell?_of_block (ht.block C.bG p2 hG)
 have hlo := (h.rng _ (lK j hjb)).1
 subst hs
 refine ⟨ht.below h.bel h.bel.size (fun k hk => by have e : k = lb[j] := hk; omega), h.box.tcs p1 ht hP, fun k h1 h2 => ⟨(hc _).trans (h.grow k h1 h2).1, (hc _).trans (h.grow k h1 h2).2⟩, h.gl, fun k h1 => (h.gw k h1).tcs (h.rng _ (gK k h1)).2 ht (hgb k h1), h.g1, ?_, ?_, ?_, h.inp, own_notU h.out ht (fun k hk hs => (h.oo k hk).1 (by have e : k = lb[j] := hs; rw [e]; exact lK j hjb)), h.nd, fun k hk => ⟨(h.rng k hk).1, Nat.lt_of_lt_of_le (h.rng k hk).2 ht.size⟩, h.lo, h.oo, hk, h.uu, ?_, h.nn⟩
 ·show lb.length = (s.l.set j _).length
  rw [List.length_set]; exact h.ll
 ·show World.ownsRow _ _ _ _ _ (s.l.set j _).length (flatV (s.l.set j _) lb)
  rw [List.length_set, flatV_set j _ (fun _ => rfl) h.ll]
  exact own_notU h.lrow ht (fun k hk hs => h.lo k hk (by have e : k = lb[j] := hs; rw [e]; exact lK j hjb))
 ·intro i h1 h2
  have h2' : i < s.l.length := by have e := h2; simpa using e
  by_cases e : i = j
  ·subst e
   have := (h.lw i h1 h2').set 0 (.int .i64 v)
   show FrC _ lb[i] [.int .i64 ((s.l.set i ((s.l[i]).1, v))[i]'(by simpa using h2')).2]
   rw [List.getElem_set_self]
   exact this
  ·have hne : lb[i] ≠ lb[j] := fun e2 => e (nodup_ix n6 _ _ e2)
   show FrC _ lb[i] [.int .i64 ((s.l.set j ((s.l[j]).1, v))[i]'(by simpa using h2')).2]
   rw [List.getElem_set_ne (fun e2 => e e2.symm)]
   exact (h.lw i h1 h2').tcs (h.rng _ (lK i h1)).2 ht hne
 ·show (s.l.set j _).length ≤ _
  rw [List.length_set]; exact h.lm
theorem RS.wg {C : RC} {w : World} {c : Int} {rt : Bool} {vl : Int} {lb : List Nat} {vL vI vO : Value} {s : ES} (h : RS C w c rt vl lb vL vI vO s) (j i : Nat) (hj : j < C.gb.length) {v : Int} {s' : ES} (hs : s' = { s with g := s.g.set j ((s.g.getD j []).set i v) }) (hk : OkW s') :
  RS C (w.setCell ⟨C.gb[j], i, none⟩ (.int .i64 v)) c rt vl lb vL vI vO s' := by
 obtain ⟨p1, p2, p3, p4⟩ := h.hi
 have ht : Tcs (fun k => k = C.gb[j]) w (w.setCell ⟨C.gb[j], i, none⟩ (.int .i64 v)) := (Tcs.refl (fun k => k = C.gb[j]) w).setCell (p := ⟨C.gb[j], i, none⟩) rfl _
 have hnd := h.nd
 unfold RC.K at hnd
 have hm : C.gb[j] ∈ C.gb := List.getElem_mem hj
 obtain ⟨n1, n2⟩ := List.nodup_cons.1 hnd
 obtain ⟨n3, n4⟩ := List.nodup_cons.1 n2
 obtain ⟨n5, n6, n7⟩ := List.nodup_append.1 n4
 have hP : C.P ≠ C.gb[j] := fun e => n1 (e ▸ List.mem_cons_of_mem _ (List.mem_append_left _ hm))
 have hG : C.bG ≠ C.gb[j] := fun e => n3 (e ▸ List.mem_append_left _ hm)
 have gK : ∀ k (hk : k < C.gb.length), C.gb[k] ∈ C.K lb := fun k hk => by unfold RC.K; exact List.mem_cons_of_mem _ (List.mem_cons_of_mem _ (List.mem_append_left _ (List.getElem_mem hk)))
 have lK : ∀ k (hk : k < lb.length), lb[k] ∈ C.K lb := fun k hk => by unfold RC.K; exact List.mem_cons_of_mem _ (List.mem_cons_of_mem _ (List.mem_append_right _ (List.getElem_mem hk)))
 have hlb : ∀ k (hk : k < lb.length), lb[k] ≠ C.gb[j] := fun k hk e => n7 _ hm _ (List.getElem_mem hk) e.symm
 have hc : ∀ o, (w.setCell ⟨C.gb[j], i, none⟩ (.int .i64 v)).cell? ⟨C.bG, o, none⟩ = w.cell? ⟨C.bG, o, none⟩ := fun o => World.cell?_of_block (ht.block C.bG p2 hG)
 have hlo := (h.rng _ (gK j hj)).1
 have hjg : j < s.g.length := by rw [h.gl]; exact hj
 have eg : s.g.getD j [] = s.g[j] := by simp [List.getD, hjg]
 have hlen : ∀ k, ((s.g.set j ((s.g.getD j []).set i v)).getD k []).length = (s.g.getD k []).length := fun k => by
  by_cases e : k = j
  ·subst e; simp [List.getD, hjg]
  ·simp [List.getD, List.getElem?_set_ne (fun e2 => e e2.symm)]
 subst hs
 refine ⟨ht.below h.bel h.bel.size (fun k hk => by have e : k = C.gb[j] := hk; omega), h.box.tcs p1 ht hP, fun k h1 h2 => ⟨(hc _).trans (h.grow k h1 h2).1, (hc _).trans ?_⟩, ?_, fun k h1 => ?_, fun k h1 => ?_, h.ll, own_notU h.lrow ht (fun k hk hs => h.lo k hk (by have e : k = C.gb[j] := hs; rw [e]; exact gK j hj)), fun k h1 h2 => (h.lw k h1 h2).tcs (h.rng _ (lK k h1)).2 ht (hlb k h1), h.inp, own_notU h.out ht (fun k hk hs => (h.oo k hk).1 (by have e : k = C.gb[j] := hs; rw [e]; exact gK j hj)), h.nd, fun k hk => ⟨(h.rng k hk).1, Nat.lt_of_lt_of_le (h.rng k hk).2 ht.size⟩, h.lo, h.oo, hk, h.uu, h.lm, h.nn⟩
 ·rw [(h.grow k h1 h2).2]
  show _ = some (Value.slice _ ((s.g.set j ((s.g.getD j []).set i v)).getD k []).length ((s.g.set j ((s.g.getD j []).set i v)).getD k []).length)
  rw [hlen]
 ·show (s.g.set j _).length = _
  rw [List.length_set]; exact h.gl
 ·show FrC _ C.gb[k] (((s.g.set j ((s.g.getD j []).set i v)).getD k []).map (Value.int .i64))
  by_cases e : k = j
  ·subst e
   have e1 : (s.g.set k ((s.g.getD k []).set i v)).getD k [] = (s.g.getD k []).set i v := by simp [List.getD, hjg]
   rw [e1, List.map_set]
   exact (h.gw k h1).set i _
  ·have e1 : (s.g.set j ((s.g.getD j []).set i v)).getD k [] = s.g.getD k [] := by simp [List.getD, List.getElem?_set_ne (fun e2 => e e2.symm)]
   rw [e1]
   exact (h.gw k h1).tcs (h.rng _ (gK k h1)).2 ht (fun e2 => e (nodup_ix n5 _ _ e2))
 ·have h1' : k < s.g.length := by have e := h1; simpa using e
  have := hlen k
  have e1 : (s.g.set j ((s.g.getD j []).set i v)).getD k [] = (s.g.set j ((s.g.getD j []).set i v))[k]'(by simpa using h1') := by simp only [List.getD]; rw [List.getElem?_eq_getElem (by simpa using h1')]; rfl
  have e2 : s.g.getD k [] = s.g[k] := by simp [List.getD, h1']
  rw [e1, e2] at this
  show 1 ≤ ((s.g.set j ((s.g.getD j []).set i v))[k]'(by simpa using h1')).length ∧ ((s.g.set j ((s.g.getD j []).set i v))[k]'(by simpa using h1')).length ≤ 1000000
  rw [this]
  exact h.g1 k h1'
end
section
open Go.RowKit
theorem wk_out {t : Tr} {n : Nd} {v : Nat → Int} {s : ES} {c : Int} (h : (wkN t n v s).1 = .out c) : c = 3 := by
 revert h
 unfold wkN
 (repeat' split) <;> simp <;> (intro h; exact h.symm)
theorem Ev.outc {t : Tr} {fr : List Int} {n : Nat} {k : Tk} {s : ES} {r : ER} {s' : ES} (h : Ev t fr n k s r s') : ∀ c, r = .out c → c = 2 ∨ c = 3 := by
 induction h using Ev_i with
 | kid n e A b st v j c s' h1 h2 h3 h4 h5 h6 i5 i6 => exact i6
 | dry n e A b st v h1 h2 h3 h4 h5 i4 => intro c hc; cases hc; exact .inl rfl
 | work n e A b st v h1 h2 h3 h4 h5 h6 i5 => intro c hc; exact .inr (wk_out hc)
 | call n e A b st v f r s' h1 h2 h3 h4 h5 h6 i4 i6 => exact i6
 | left n e b s c s' h1 h2 h3 i3 => exact i3
 | ldry n e b s x s' h1 h2 h3 h4 i3 => intro c hc; cases hc; exact .inl rfl
 | lone n e b s x s' h1 h2 h3 h4 i3 => intro c hc; cases hc
 | rigt n e b s x s1 c s' h1 h2 h3 h4 h5 i3 i5 => exact i5
 | rdry n e b s x s1 y s' h1 h2 h3 h4 h5 h6 i3 i5 => intro c hc; cases hc; exact .inl rfl
 | both n e b s x s1 y s' h1 h2 h3 h4 h5 h6 i3 i5 => intro c hc; cases hc
 | pbad n s a b z c z' h1 i1 => exact i1
 | decl n s a b z v z' h1 h2 i2 => intro c hc; cases hc
 | set n s a b z v z' h1 h2 i2 => intro c hc; cases hc
 | sbad n s a b z v z1 c z' h1 h2 h3 i2 i3 => exact i3
 | smis n s a b z v z1 x z' h1 h2 h3 h4 i2 i3 => intro c hc; cases hc; exact .inr rfl
 | stor n s a b z v z1 x z' h1 h2 h3 h4 i2 i3 => intro c hc; cases hc
 | ifth n s a b z v z1 r z' h1 h2 h3 h4 i2 i4 => exact i4
 | ifel n s a b z z1 r z' h1 h2 h3 i2 i3 => exact i3
 | whno n s a b z z' h1 h2 i2 => intro c hc; cases hc
 | whn n s a b z v z1 r z' h1 h2 h3 h4 h5 i2 i4 => exact i4
 | whdr n s a b z v z1 z' h1 h2 h3 h4 h5 i2 i4 => intro c hc; cases hc; exact .inl rfl
 | whag n s a b z v z1 z2 r z' h1 h2 h3 h4 h5 h6 i2 i4 i6 => exact i6
 | retn n s a b z v z' h1 h2 i2 => intro c hc; cases hc
 | tell n s a b z v z' h1 h2 i2 => intro c hc; cases hc
 | only n s a b z v z' h1 h2 i2 => intro c hc; cases hc
 | nil n z => intro c hc; cases hc
 | sdry n s q z h1 => intro c hc; cases hc; exact .inl rfl
 | send n s q z r z' h1 h2 h3 i2 => exact i2
 | next n s q z z1 r z' h1 h2 h3 i2 i3 => exact i3
 | blk n ss z r z' h1 i1 => exact i1
 | run n f vs z hf r z' h1 i1 => intro c hc; cases r using ER.cs <;> simp [ER.back] at hc; exact i1 c (by rw [hc])
theorem ev_plain {t : Tr} {fr : List Int} {n : Nat} {e : List Nd} {s : ES} {r : ER} {s' : ES} (h : Ev t fr (n + 1) (.e e) s r s') (h8 : (rootN e).kind ≠ 8) (h9 : (rootN e).kind ≠ 9) : ∃ (A : Nat) (b : Nat → Nat) (st : Nat → ES) (v : Nat → Int) (j : Nat), Cut e A b ∧ st 0 = s ∧ j ≤ A ∧ (∀ i, i < j → Ev t fr n (.e (kid e b i)) (st i) (.val (v i)) (st (i + 1))) ∧
  ((j < A ∧ ∃ c, r = .out c ∧ Ev t fr n (.e (kid e b j)) (st j) (.out c) s') ∨ (j = A ∧ (st A).u = 0 ∧ r = .out 2 ∧ s' = st A) ∨ (j = A ∧ 0 < (st A).u ∧ (rootN e).kind ≠ 4 ∧ r = (wkN t (rootN e) v (st A).sp).1 ∧ s' = (wkN t (rootN e) v (st A).sp).2) ∨ (j = A ∧ 0 < (st A).u ∧ (rootN e).kind = 4 ∧ ∃ f, fnum t.funcs (rootN e).name = some f ∧ Ev t fr n (.c f (argL A v)) (st A).sp r s')) := by
 cases h using Ev_i with
 | kid _ _ A b st v j c _ h1 h2 h3 h4 h5 h6 => exact ⟨A, b, st, v, j, h1, rfl, by omega, h5, .inl ⟨h4, c, rfl, h6⟩⟩
 | dry _ _ A b st v h1 h2 h3 h4 h5 => exact ⟨A, b, st, v, A, h1, rfl, Nat.le_refl _, h4, .inr (.inl ⟨rfl, h5, rfl, rfl⟩)⟩
 | work _ _ A b st v h1 h2 h3 h4 h5 h6 => exact ⟨A, b, st, v, A, h1, rfl, Nat.le_refl _, h5, .inr (.inr (.inl ⟨rfl, h6, h4, rfl, rfl⟩))⟩
 | call _ _ A b st v f _ _ h1 h2 h3 h4 h5 h6 => exact ⟨A, b, st, v, A, h1, rfl, Nat.le_refl _, h4, .inr (.inr (.inr ⟨rfl, h5, h2, f, h3, h6⟩))⟩
 | left _ _ b _ c _ h1 h2 h3 => rcases h2 with h2 | h2 <;> contradiction
 | ldry _ _ b _ x _ h1 h2 h3 h4 => rcases h2 with h2 | h2 <;> contradiction
 | lone _ _ b _ x _ h1 h2 h3 h4 => rcases h2 with h2 | h2 <;> exact absurd h2.1 (by assumption)
 | rigt _ _ b _ x s1 c _ h1 h2 h3 h4 h5 => rcases h2 with h2 | h2 <;> exact absurd h2.1 (by assumption)
 | rdry _ _ b _ x s1 y _ h1 h2 h3 h4 h5 h6 => rcases h2 with h2 | h2 <;> exact absurd h2.1 (by assumption)
 | both _ _ b _ x s1 y _ h1 h2 h3 h4 h5 h6 => rcases h2 with h2 | h2 <;> exact absurd h2.1 (by assumption)
def ExP (C : RC) (w : World) (lb : List Nat) (vL vO : Value) (r : ER) (s' : ES) (x : Ending) (w' : World) : Prop := ∃ z vI' vO' vl', x = .returned (.int .i64 z) ∧ (∀ v, r = .val v → z = v) ∧ RS C w' (stR r) false vl' lb vL vI' vO' s' ∧ Tcs (TEx C vO) w w' ∧ ∀ k, vO'.ownBlock = some k → vO.ownBlock = some k ∨ w.heap.size ≤ k
def ExS (C : RC) (n : Nat) : Prop := ∀ (e : List Nd) (s : ES) (r : ER) (s' : ES), Ev C.t C.fr n (.e e) s r s' → KnE C.t (s.l.map Prod.fst) e → Scp C.t (s.l.map Prod.fst) → oneB e = true → e.length ≤ 1048576 → ∀ (w : World) (vl : Int) (lb : List Nat) (vL vI vO ve : Value), RS C w 0 false vl lb vL vI vO s → Nodes C.w0 ve e → Calls Tryd.prog 83 #[.pointer (some ⟨C.P, 0, none⟩), ve] w fun x w' => ExP C w lb vL vO r s' x w'
structure ArR (C : RC) (w : World) (lb : List Nat) (vL vO : Value) (B : Nat) (va : Value) (vs : List Int) : Prop where
 row : w.ownsRow B 2 1 va vs.length (vs.map (Value.int .i64))
 ap : ∀ k, va.ownBlock = some k → C.w0.heap.size ≤ k ∧ k ∉ C.K lb ∧ vL.ownBlock ≠ some k ∧ vO.ownBlock ≠ some k
def CaS (C : RC) (n : Nat) : Prop := ∀ (f : Nat) (vs : List Int) (s : ES) (r : ER) (s' : ES), Ev C.t C.fr n (.c f vs) s r s' → Scp C.t (s.l.map Prod.fst) → (∀ hf : f < C.t.funcs.length, vs.length = C.t.funcs[f].params.length) → (∀ x ∈ vs, inB x) → s.n + 1000000000 * ((s.u : Int) + 1) ≤ 100001000000000 → ∀ (w : World) (vl : Int) (lb : List Nat) (vL vI vO va : Value) (B : Nat), RS C w 0 false vl lb vL vI vO s → ArR C w lb vL vO B va vs → Calls Tryd.prog 24 #[.pointer (some ⟨C.P, 0, none⟩), .int .i64 (f : Int), va] w fun x w' => ExP C w lb vL vO r s' x w'
theorem TEx.lt {C : RC} {w : World} {st : Int} {rt : Bool} {vl : Int} {lb : List Nat} {vL vI vO : Value} {s : ES} (h : RS C w st rt vl lb vL vI vO s) : ∀ k, TEx C vO k → k < w.heap.size ∧ C.w0.heap.size ≤ k := fun k hk => by
 rcases hk with rfl | hk | hk
 ·exact ⟨h.hi.1, h.hi.2.2.1⟩
 ·have := h.rng k (by unfold RC.K; exact List.mem_cons_of_mem _ (List.mem_cons_of_mem _ (List.mem_append_left _ hk)))
  exact ⟨this.2, this.1⟩
 ·have := World.ownsRow.lt h.out k hk
  exact ⟨this.2, this.1⟩
def DeS (C : RC) (m : Nat) : Prop := ∀ (e : List Nd), e.length ≤ m → oneB e = true → e.length ≤ 1048576 → ∀ (w : World) (c : Int) (rt : Bool) (vl : Int) (lb : List Nat) (vL vI vO ve : Value) (s : ES), c ≠ 0 → RS C w c rt vl lb vL vI vO s → Nodes C.w0 ve e → Calls Tryd.prog 83 #[.pointer (some ⟨C.P, 0, none⟩), ve] w fun x w' => x = .returned (.int .i64 0) ∧ Below w.heap.size w w'
set_option maxRecDepth 100000 in
set_option maxHeartbeats 4000000 in
theorem dead_any (C : RC) : ∀ m, DeS C m := by
 intro m
 induction m with
 | zero => intro e hl h1; have := one_pos h1; omega
 | succ m ih =>
  intro e hl h1 hl1 w c rt vl lb vL vI vO ve s hc h hN
  obtain ⟨A, b, hc0, hk1⟩ := one_cuts h1
  have he := hc0.len
  have HG : Hid (nodeB (rootN e) = true) := hc0.root_good
  have HA : Hid (arity (rootN e) = A) := hc0.ar
  have HB := hide h.bel
  have HRS := hide h
  have HIh : Hid (∀ i, i < A → ∀ W vi, Below w.heap.size w W → Nodes C.w0 vi (kid e b i) → Calls Tryd.prog 83 #[.pointer (some ⟨C.P, 0, none⟩), vi] W fun x w' => x = .returned (.int .i64 0) ∧ Below W.heap.size W w') := fun i hi W vi hW hNi => ih (kid e b i) (by have := hc0.kid_lt i hi; omega) (hk1 i hi) (by have := hc0.kid_lt i hi; omega) W c rt vl lb vL vI vO vi s hc (h.below hW) hNi
  have HR : Hid (Calls Tryd.prog 41 #[ve] w fun r w' => r = .returned (.agg #[.int .i64 (rootN e).kind, .int .i64 (rootN e).val, .string (rootN e).name]) ∧ Below w.heap.size w w') := by
   have := root_any _ e w he hl1 (hN.below h.bel)
   rw [← rootN_eq e he] at this
   exact this
  have HK : Hid (∀ W : World, Below w.heap.size w W → Calls Tryd.prog 42 #[ve] W fun r w' => ∃ v', r = .returned v' ∧ Kids C.w0 w' W.heap.size v' e b A ∧ Below W.heap.size W w') := fun W hW => kids_any C.w0 ve e A b W hl1 hN (h.bel.trans (hW.mono h.bel.size)) hc0
  clear ih hN hc0 hk1 h
  generalize hR : rootN e = R at HG HA HR
  clear hR
  obtain ⟨nk, nv, nm⟩ := R
  simp only at HR
  have hc' : (c == 0) = false := by simpa using hc
  have hba : ∀ w1 : World, Below w.heap.size w w1 → ∀ o, Below w.heap.size w (w1.alloc o) := fun w1 h o => h.alloc h.size o
  go_enter Tryd.func83, Tryd.ntmps83
  go_wp2_with fail
  refine HR.out.mono ?_
  rintro x w1 ⟨rfl, hb1⟩
  go_wp2_with fail
  refine (HK.out _ (hba _ hb1 _)).mono ?_
  rintro x W ⟨vk, rfl, hKd, hb2⟩
  obtain ⟨g0, g1, g2⟩ : W.cell? ⟨w1.heap.size, 0, none⟩ = some (.int .i64 nk) ∧ W.cell? ⟨w1.heap.size, 1, none⟩ = some (.int .i64 nv) ∧ W.cell? ⟨w1.heap.size, 2, none⟩ = some (.string nm) := by
   refine ⟨?_, ?_, ?_⟩
   ·rw [hb2.cell (by simp)]; simp
   ·rw [hb2.cell (by simp)]; simp
   ·rw [hb2.cell (by simp)]; simp
  have HBW : Hid (Below w.heap.size w W) := (hba _ hb1 _).trans (hb2.mono (by have := hb1.size; simp; omega))
  have hGl : w1.heap.size < W.heap.size := World.block_lt_of_cell? _ _ g0
  generalize w1.heap.size = G at g0 g1 g2 hGl ⊢
  clear hb1 hb2 HR HK hba
  have hkk : 1 ≤ nk ∧ nk ≤ 9 := kind_good HG.out
  have HD : Hid (∀ X, Below w.heap.size w X → Calls Tryd.prog 70 #[.pointer (some ⟨C.P, 0, none⟩)] X fun e w' => (∃ x, e = .returned x) ∧ w' = X) := fun X hX => spendD (HRS.out.below hX) hc
  have HC8 : Hid (∀ X, Below w.heap.size w X → X.cell? ⟨C.P, 8, none⟩ = some (.int .i64 c)) := fun X hX => ((HRS.out.below hX).box 8 _ rfl).1
  generalize C.P = P at HIh HD HC8 ⊢
  by_cases hao : nk = 8 ∨ nk = 9
  ·have hA2 : A = 2 := by have := HA.out; rcases hao with rfl | rfl <;> (simp [arity] at this; omega)
   subst hA2
   obtain ⟨ua, uc, rfl, hu1, hu2, hu3⟩ := hKd
   obtain ⟨B, rfl, -, -, hBc⟩ := hu3 (by omega)
   obtain ⟨v0, hv0, hn0⟩ := hBc 0 (by omega)
   obtain ⟨v1, hv1, hn1⟩ := hBc 1 (by omega)
   have H0 := hide (HIh.out 0 (by omega) W v0 HBW.out hn0)
   have HNv1 := hide hn1
   clear hu3 hBc hn0 hn1
   rcases hao with rfl | rfl
   ·go_wp2_with fail
    refine H0.out.mono ?_
    rintro x w2 ⟨rfl, hb2⟩
    have hbw2 : Below w.heap.size w w2 := HBW.out.trans (hb2.mono HBW.out.size)
    have y0 := (hb2.cell (p := ⟨G, 0, none⟩) hGl).trans g0
    go_wp2_with fail
    refine (HD.out w2 hbw2).mono ?_
    rintro x w3 ⟨⟨u, rfl⟩, hw3⟩
    rw [hw3]
    clear hw3
    go_wp2_with fail
    refine (bool_any false w2).mono ?_
    rintro x w4 ⟨rfl, hw4⟩
    rw [hw4]
    clear hw4
    go_wp2_with fail
    go_ret
    exact ⟨rfl, hbw2⟩
   ·go_wp2_with fail
    refine H0.out.mono ?_
    rintro x w2 ⟨rfl, hb2⟩
    have hbw2 : Below w.heap.size w w2 := HBW.out.trans (hb2.mono HBW.out.size)
    have y0 := (hb2.cell (p := ⟨G, 0, none⟩) hGl).trans g0
    have y1 := (hb2.cell (p := ⟨B, 1, none⟩) (World.block_lt_of_cell? _ _ hv1)).trans hv1
    have H1 := hide (HIh.out 1 (by omega) w2 v1 hbw2 HNv1.out)
    go_wp2_with fail
    refine (HD.out w2 hbw2).mono ?_
    rintro x w3 ⟨⟨u, rfl⟩, hw3⟩
    rw [hw3]
    clear hw3
    go_wp2_with fail
    refine H1.out.mono ?_
    rintro x w4 ⟨rfl, hb4⟩
    have hbw4 : Below w.heap.size w w4 := hbw2.trans (hb4.mono hbw2.size)
    go_wp2_with fail
    refine (HD.out w4 hbw4).mono ?_
    rintro x w5 ⟨⟨u, rfl⟩, hw5⟩
    rw [hw5]
    clear hw5
    go_wp2_with fail
    refine (bool_any false w4).mono ?_
    rintro x w6 ⟨rfl, hw6⟩
    rw [hw6]
    clear hw6
    go_wp2_with fail
    go_ret
    exact ⟨rfl, hbw4⟩
  ·have h8 : (nk == 8) = false := by simp; omega
   have h9 : (nk == 9) = false := by simp; omega
   obtain ⟨ua, uc, rfl, hu1, hu2, -⟩ := hKd
   have hbwa : Below w.heap.size w (W.alloc (.cells #[] 2)) := HBW.out.alloc HBW.out.size _
   have y8 := HC8.out _ hbwa
   clear hao
   go_wp2_with fail
   refine wp_loop_rounds 1 ?_
   rw [rounds_succ]
   by_cases hA0 : (0 : Int) < (A : Int)
   ·go_wp2_with fail
    refine (HD.out _ hbwa).mono ?_
    rintro x w3 ⟨⟨u, rfl⟩, hw3⟩
    rw [hw3]
    clear hw3
    go_wp2_with fail
    go_ret
    exact ⟨rfl, hbwa⟩
   ·go_wp2_with fail
    refine (HD.out _ hbwa).mono ?_
    rintro x w3 ⟨⟨u, rfl⟩, hw3⟩
    rw [hw3]
    clear hw3
    go_wp2_with fail
    go_ret
    exact ⟨rfl, hbwa⟩
end
section
open Go.RowKit
theorem gix_glob : ∀ {gs : List Gl} {x : ByteArray}, 0 ≤ globI gs x → ∃ k, ∃ hk : k < gs.length, gix gs x = some k ∧ gs[k].size = globI gs x
 | [], x, h => by simp [globI] at h
 | g :: r, x, h => by
  unfold globI at h ⊢
  by_cases e : g.name = x
  ·refine ⟨0, by simp, ?_, by rw [if_pos e]; rfl⟩
   exact gix_some (by simp) (fun j hj h0 => by omega) e
  ·rw [if_neg e] at h ⊢
   obtain ⟨k, hk, h1, h2⟩ := gix_glob h
   refine ⟨k + 1, by simpa using hk, ?_, by simpa using h2⟩
   unfold gix at h1 ⊢
   rw [List.findIdx?_cons, h1]
   simp [e]
theorem lix_mem {l : List (ByteArray × Int)} {x : ByteArray} : x ∈ l.map Prod.fst ↔ ∃ j, ∃ hj : j < l.length, lix l x = some j ∧ (l[j]).1 = x := by
 constructor
 ·intro h
  have h0 : lix l x ≠ none := fun e => by
   unfold lix at e
   rw [List.findIdx?_eq_none_iff] at e
   obtain ⟨y, hy, rfl⟩ := List.mem_map.1 h
   have := e y hy
   simp at this
  obtain ⟨j, hj⟩ := Option.ne_none_iff_exists'.1 h0
  have h2 := hj
  unfold lix at h2
  obtain ⟨hl, hp, -⟩ := List.findIdx?_eq_some_iff_getElem.1 h2
  exact ⟨j, hl, hj, by simpa using hp⟩
 ·rintro ⟨j, hj, -, rfl⟩
  exact List.mem_map.2 ⟨l[j], List.getElem_mem hj, rfl⟩
theorem lix_no {l : List (ByteArray × Int)} {x : ByteArray} (h : x ∉ l.map Prod.fst) : lix l x = none := lix_none (fun j hj e => h (List.mem_map.2 ⟨l[j], List.getElem_mem hj, e⟩))
theorem info_i64U : (Tryd.prog.info? 2).map (fun i => (i.zero, i.size, i.bytes)) = some (some (.int .i64 0), 1, 8) := by kernel_rfl
theorem InN.tail {w0 : World} {a : Option Addr} {c : Nat} {x : Int} {r : List Int} (h : InN w0 (.slice a (x :: r).length c) (x :: r)) : InN w0 (.slice (if c = 1 then a else a.map (·.add (1 * 1))) r.length (c - 1)) r := by
 obtain ⟨a', c', e, h1, h2, h3⟩ := h
 simp only [Value.slice.injEq, true_and] at e
 obtain ⟨rfl, rfl⟩ := e
 simp only [List.length_cons] at h1
 refine ⟨_, _, rfl, by omega, by omega, fun hp => ?_⟩
 obtain ⟨b, off, rfl, hc⟩ := h3 (by simp)
 refine ⟨b, off + 1, ?_, fun j hj => ?_⟩
 ·rw [if_neg (by omega)]; simp [Addr.add]
 ·have := hc (j + 1) (by simpa using hj)
  rw [show off + 1 + j = off + (j + 1) by omega]
  simpa using this
theorem icut_run (a : Option Addr) (n cap : Nat) (h2 : 1 ≤ n) (h3 : n ≤ cap) : ∀ w : World, (Instr.slice 42 (.slice a n cap) (some (.int .i64 1)) none none).run Tryd.prog w = .ok (.slice (if cap = 1 then a else a.map (·.add (1 * 1))) (n - 1) (cap - 1)) w := by
 intro w
 have hz : Tryd.prog.elem 42 = 2 := by kernel_rfl
 have hs : (sizeOf 2).run Tryd.prog w = .ok 1 w := by kernel_rfl
 rw [run_slice_l w 42 a n cap (by rw [hz]; exact Tryd.underlying42) .i64 1 (by omega) (by omega), hz, hs]
 simp only [Result.andThen, sliced]
 rfl
theorem find_word {C : RC} {w : World} {c : Int} {rt : Bool} {vl : Int} {lb : List Nat} {vL vI vO : Value} {s : ES} {x : ByteArray} {v : Value} (h : RS C w c rt vl lb vL vI vO s) (hC : C.Ok) (hF : FindV C lb s x v) (hn : (s.l.map Prod.fst).Nodup) (hk : x ∈ s.l.map Prod.fst ∨ (x ∉ s.l.map Prod.fst ∧ 0 ≤ globI C.t.globals x)) :
  ∃ b n, v = .slice (some ⟨b, 0, none⟩) n n ∧ 0 < n ∧ n ≤ 1000000 ∧ b < w.heap.size ∧ w.cell? ⟨b, 0, none⟩ = some (.int .i64 (s.rd C.t x)) ∧ w.frozen? ⟨b, 0, none⟩ = false ∧ (b ∈ C.gb ∨ b ∈ lb) := by
 rcases hk with hk | ⟨hk, hg⟩
 ·obtain ⟨j, hj, h1, h2⟩ := lix_mem.1 hk
  have hjb : j < lb.length := by rw [h.ll]; exact hj
  have hm : lb[j] ∈ lb := List.getElem_mem hjb
  have hlw := h.lw j hjb hj 0 _ rfl
  have hr := h.rng lb[j] (by unfold RC.K; exact List.mem_cons_of_mem _ (List.mem_cons_of_mem _ (List.mem_append_right _ hm)))
  have e1 : lb.getD j 0 = lb[j] := by simp [List.getD, hjb]
  refine ⟨lb[j], 1, by rw [hF.1 j h1, e1], by omega, by omega, hr.2, ?_, hlw.2, .inr hm⟩
  rw [hlw.1]
  unfold ES.rd
  rw [h1]
  simp [List.getD, hj]
 ·obtain ⟨k, hkl, h1, h2⟩ := gix_glob hg
  have hkb : k < C.gb.length := by rw [hC.gbl]; exact hkl
  have hkg : k < s.g.length := by rw [h.gl]; exact hkb
  have hm : C.gb[k] ∈ C.gb := List.getElem_mem hkb
  have hr := h.rng C.gb[k] (by unfold RC.K; exact List.mem_cons_of_mem _ (List.mem_cons_of_mem _ (List.mem_append_left _ hm)))
  have e1 : C.gb.getD k 0 = C.gb[k] := by simp [List.getD, hkb]
  have e2 : s.g.getD k [] = s.g[k] := by simp [List.getD, hkg]
  have hg1 := h.g1 k hkg
  have hgw := h.gw k hkb
  rw [e2] at hgw
  have h0 : ((s.g[k]).map (Value.int .i64))[0]? = some (.int .i64 ((s.g[k]).getD 0 0)) := by
   have : 0 < (s.g[k]).length := by omega
   simp [List.getD, this]
  have hg0 := hgw 0 _ h0
  refine ⟨C.gb[k], (s.g[k]).length, by rw [hF.2 (lix_no hk) k h1, e1, e2], by omega, hg1.2, hr.2, ?_, hg0.2, .inl hm⟩
  rw [hg0.1]
  unfold ES.rd
  rw [lix_no hk, h1]
  simp only [e2]
theorem find_arr {C : RC} {w : World} {c : Int} {rt : Bool} {vl : Int} {lb : List Nat} {vL vI vO : Value} {s : ES} {x : ByteArray} {v : Value} (h : RS C w c rt vl lb vL vI vO s) (hC : C.Ok) (hF : FindV C lb s x v) (hk : x ∉ s.l.map Prod.fst) (hg : 0 ≤ globI C.t.globals x) :
  ∃ b, v = .slice (some ⟨b, 0, none⟩) (s.ws C.t x).length (s.ws C.t x).length ∧ 0 < (s.ws C.t x).length ∧ (s.ws C.t x).length ≤ 1000000 ∧ b < w.heap.size ∧ b ∈ C.gb ∧ ∀ j, j < (s.ws C.t x).length → w.cell? ⟨b, j, none⟩ = some (.int .i64 ((s.ws C.t x).getD j 0)) ∧ w.frozen? ⟨b, j, none⟩ = false := by
 obtain ⟨k, hkl, h1, h2⟩ := gix_glob hg
 have hkb : k < C.gb.length := by rw [hC.gbl]; exact hkl
 have hkg : k < s.g.length := by rw [h.gl]; exact hkb
 have hm : C.gb[k] ∈ C.gb := List.getElem_mem hkb
 have hr := h.rng C.gb[k] (by unfold RC.K; exact List.mem_cons_of_mem _ (List.mem_cons_of_mem _ (List.mem_append_left _ hm)))
 have e1 : C.gb.getD k 0 = C.gb[k] := by simp [List.getD, hkb]
 have e3 : s.ws C.t x = s.g.getD k [] := by unfold ES.ws; rw [h1]
 have e2 : s.g.getD k [] = s.g[k] := by simp [List.getD, hkg]
 have hg1 := h.g1 k hkg
 have hgw := h.gw k hkb
 refine ⟨C.gb[k], by rw [hF.2 (lix_no hk) k h1, e1, e3], by rw [e3, e2]; omega, by rw [e3, e2]; exact hg1.2, hr.2, hm, fun j hj => ?_⟩
 rw [e3] at hj ⊢
 have hgj := hgw j (.int .i64 ((s.g.getD k []).getD j 0)) (by clear hgw e3 e2; generalize s.g.getD k [] = ws at hj ⊢; rw [List.getElem?_map, List.getElem?_eq_getElem hj]; simp [List.getD, hj])
 exact hgj
def LI (C : RC) (W : World) (lb : List Nat) (vL vO : Value) (A j : Nat) (st : Nat → ES) (v : Nat → Int) (r : ER) (s' : ES) (i : Nat) (av : Value) (wr : World) : Prop := ∃ vI' vO' vl' vs, wr.ownsRow W.heap.size 2 1 av vs.length (vs.map (Value.int .i64)) ∧ vs.length ≤ i ∧ (∀ k, av.ownBlock = some k → vO'.ownBlock ≠ some k) ∧ Tcs (TEx C vO) W wr ∧ (∀ k, vO'.ownBlock = some k → vO.ownBlock = some k ∨ W.heap.size ≤ k) ∧
 ((i ≤ j ∧ vs = argL i v ∧ RS C wr 0 false vl' lb vL vI' vO' (st i)) ∨ (i = j + 1 ∧ j < A ∧ ∃ c, r = .out c ∧ RS C wr c false vl' lb vL vI' vO' s'))
theorem argL_succ (i : Nat) (v : Nat → Int) : argL (i + 1) v = argL i v ++ [v i] := by simp [argL, List.range_succ]
theorem argL_len (i : Nat) (v : Nat → Int) : (argL i v).length = i := by simp [argL]
theorem argL_get (i k : Nat) (v : Nat → Int) (h : k < i) : (argL i v)[k]? = some (v k) := by simp [argL, h]
theorem li_step {C : RC} {W : World} {lb : List Nat} {vL vI0 vO : Value} {vl0 : Int} {A j : Nat} {st : Nat → ES} {v : Nat → Int} {r : ER} {s' : ES} {i : Nat} {av : Value} {wr w2 : World} {ri : ER} {si : ES} {z : Int} {vI2 vO2 : Value} {vl2 : Int} (h0 : RS C W 0 false vl0 lb vL vI0 vO (st 0))
  {vO1 : Value} {vs : List Int} (hrow : wr.ownsRow W.heap.size 2 1 av vs.length (vs.map (Value.int .i64))) (hvl : vs.length ≤ i) (hap : ∀ k, av.ownBlock = some k → vO1.ownBlock ≠ some k) (ht : Tcs (TEx C vO) W wr) (ho : ∀ k, vO1.ownBlock = some k → vO.ownBlock = some k ∨ W.heap.size ≤ k)
  (hR2 : RS C w2 (stR ri) false vl2 lb vL vI2 vO2 si) (ht2 : Tcs (TEx C vO1) wr w2) (ho2 : ∀ k, vO2.ownBlock = some k → vO1.ownBlock = some k ∨ wr.heap.size ≤ k) (hi6 : i ≤ 1000)
  (hfin : (i < j ∧ ri = .val (v i) ∧ si = st (i + 1) ∧ z = v i ∧ vs = argL i v) ∨ (i = j ∧ j < A ∧ ∃ c, r = .out c ∧ ri = .out c ∧ si = s')) :
  ∃ va vn vc w3, (Builtin.append_ #[42, 42] 42 #[av, .slice (some ⟨w2.heap.size, 0, none⟩) 1 1]).run Tryd.prog (w2.alloc (.cells #[.int .i64 z] 2)) = .ok (.slice va vn vc) w3 ∧ LI C W lb vL vO A j st v r s' (i + 1) (.slice va vn vc) w3 := by
 obtain ⟨i0, hi, hz0, hz1, hz2⟩ := info_parts info_i64U
 have hlt := fun k (hk : TEx C vO k) => (TEx.lt h0 k hk).1
 have hWr := ht.size
 have hav := fun k (hk : av.ownBlock = some k) => World.ownsRow.lt hrow k hk
 -- the row is not touched by the operand
 have hno : ∀ k, av.ownBlock = some k → ¬ TEx C vO1 k := fun k hk hT => by
  have h1 := (hav k hk).1
  rcases hT with rfl | hT | hT
  ·have := h0.hi.1; omega
  ·have := (h0.rng k (by unfold RC.K; exact List.mem_cons_of_mem _ (List.mem_cons_of_mem _ (List.mem_append_left _ hT)))).2; omega
  ·exact hap k hk hT
 have hrow2 := own_notU hrow ht2 hno
 have hap2 : ∀ k, av.ownBlock = some k → vO2.ownBlock ≠ some k := fun k hk e => by
  rcases ho2 k e with h1 | h1
  ·exact hap k hk h1
  ·have := (hav k hk).2; omega
 have ht02 : Tcs (TEx C vO) W w2 := ht.next ht2 (fun k hk => by
  rcases hk with rfl | hk | hk
  ·exact .inl (.inl rfl)
  ·exact .inl (.inr (.inl hk))
  ·rcases ho k hk with h1 | h1
   ·exact .inl (.inr (.inr h1))
   ·exact .inr h1)
 have ho02 : ∀ k, vO2.ownBlock = some k → vO.ownBlock = some k ∨ W.heap.size ≤ k := fun k hk => by
  rcases ho2 k hk with h1 | h1
  ·exact ho k h1
  ·exact .inr (by omega)
 -- the append
 have hb0 : Below w2.heap.size w2 (w2.alloc (.cells #[.int .i64 z] 2)) := (Below.refl _ _).alloc (Nat.le_refl _) _
 have h' := ownB hrow2 hb0
 have hlit : (w2.alloc (.cells #[.int .i64 z] 2)).ownsRow w2.heap.size 2 1 (.slice (some ⟨w2.heap.size, 0, none⟩) 1 1) 1 [.int .i64 z] := World.ownsRow_lit w2 #[.int .i64 z] 1 (Nat.le_refl _) (by decide) rfl
 have hs2 := ht02.size
 obtain ⟨v', w', r1, r2, r3, r4⟩ := run_appG (P := Tryd.prog) (w := w2.alloc (.cells #[.int .i64 z] 2)) W.heap.size 42 42 2 i0 _ 1 8 Tryd.underlying42 hi hz0 hz1 hz2 rfl (by decide) av _ _ h' (some ⟨w2.heap.size, 0, none⟩) 1 1 [.int .i64 z] (fun e => by cases e) rfl (fun ad had k u hu => by cases had; exact World.ownsRow.cells hlit (g := w2.heap.size) rfl k u hu) (fun u hu => by simp at hu; subst hu; rfl) (by omega) (by decide) (Nat.le_trans hs2 hb0.size)
 obtain ⟨va, vc, rfl, -⟩ := own_shapeU r2
 have t3 : Tcs (fun k => av.ownBlock = some k) (w2.alloc (.cells #[.int .i64 z] 2)) w' := Tcs.of_grown r3 (fun k hk => hk)
 have hRa := hR2.below hb0
 have hR3 := hRa.past t3 (fun k hk => by
  have h1 := (hav k hk).1
  have hw0 := h0.hi.2.2.1
  have hw1 := h0.hi.1
  refine ⟨by omega, fun hm => ?_, fun e => ?_, hap2 k hk⟩
  ·have := (h0.rng k hm).2; omega
  ·have := (World.ownsRow.lt h0.lrow k e).2; omega)
 refine ⟨va, _, vc, w', r1, vI2, vO2, vl2, vs ++ [z], ?_, by simp; omega, fun k hk e => ?_, ?_, ho02, ?_⟩
 ·rw [List.length_append, List.map_append]; exact r2
 ·rcases r4 k hk with h1 | h1
  ·exact hap2 k h1 e
  ·have := (World.ownsRow.lt hR2.out k e).2
   have := hb0.size
   omega
 ·refine (ht02.of_below hb0).next t3 (fun k hk => .inr ?_)
  exact (hav k hk).1
 ·rcases hfin with ⟨h1, rfl, rfl, rfl, rfl⟩ | ⟨h1, h2, c, h3, rfl, rfl⟩
  ·exact .inl ⟨by omega, (argL_succ i v).symm, hR3⟩
  ·exact .inr ⟨by omega, h2, c, h3, hR3⟩
theorem exp_fin {C : RC} {w W w' : World} {lb : List Nat} {vL vO vI' vO' : Value} {vl' z : Int} {r : ER} {s' : ES} (hBW : Below w.heap.size w W) (hT : Tcs (TEx C vO) W w') (hO : ∀ k, vO'.ownBlock = some k → vO.ownBlock = some k ∨ W.heap.size ≤ k) (hR : RS C w' (stR r) false vl' lb vL vI' vO' s') (hz : ∀ v, r = .val v → z = v) : ExP C w lb vL vO r s' (.returned (.int .i64 z)) w' :=
 ⟨z, vI', vO', vl', rfl, hz, hR, (hBW.tcs (S := TEx C vO)).trans hT, fun k hk => (hO k hk).imp id (fun h => Nat.le_trans hBW.size h)⟩
theorem row_cell {w : World} {B : Nat} {va : Option Addr} {vn vc : Nat} {vs : List Int} (h : w.ownsRow B 2 1 (.slice va vn vc) vs.length (vs.map (Value.int .i64))) (k : Nat) (hk : k < vs.length) : ∃ ab, va = some ⟨ab, 0, none⟩ ∧ vn = vs.length ∧ B ≤ ab ∧ ab < w.heap.size ∧ w.cell? ⟨ab, k, none⟩ = some (.int .i64 vs[k]) := by
 have h0 := h
 rcases h.2 with ⟨-, hz⟩ | ⟨g, cap, cur, e, h1, h2, -⟩
 ·omega
 ·simp only [Value.slice.injEq] at e
  obtain ⟨rfl, rfl, rfl⟩ := e
  refine ⟨g, rfl, rfl, h1, (Array.getElem?_eq_some_iff.1 h2).1, ?_⟩
  have := World.ownsRow.cellAt h0 k (by simpa using hk)
  rw [this]
  simp [hk]
end
section
open Go.RowKit
theorem RS.gK {C : RC} {lb : List Nat} (k : Nat) (hk : k < C.gb.length) : C.gb[k] ∈ C.K lb := by unfold RC.K; exact List.mem_cons_of_mem _ (List.mem_cons_of_mem _ (List.mem_append_left _ (List.getElem_mem hk)))
theorem RS.lK {C : RC} {lb : List Nat} (k : Nat) (hk : k < lb.length) : lb[k] ∈ C.K lb := by unfold RC.K; exact List.mem_cons_of_mem _ (List.mem_cons_of_mem _ (List.mem_append_right _ (List.getElem_mem hk)))
theorem RC.memP {C : RC} {lb : List Nat} : C.P ∈ C.K lb := by simp [RC.K]
theorem RC.memG {C : RC} {lb : List Nat} : C.bG ∈ C.K lb := by simp [RC.K]
theorem RS.newO {C : RC} {w w3 : World} {c : Int} {rt : Bool} {vl : Int} {lb : List Nat} {vL vI vO vO' : Value} {s s' : ES} {v : Int} (h : RS C w c rt vl lb vL vI vO s) (ht : Tcs (fun k => vO.ownBlock = some k) w w3) (hrow : w3.ownsRow C.w0.heap.size 2 1 vO' s'.o.length (s'.o.map (Value.int .i64)))
  (hown : ∀ k, vO'.ownBlock = some k → vO.ownBlock = some k ∨ w.heap.size ≤ k) (hs : s' = { s with o := s.o ++ [v] }) (hu : (s'.o.length : Int) + s'.u ≤ C.F) :
  RS C (w3.setCell ⟨C.P, 5, none⟩ vO') c rt vl lb vL vI vO' s' := by
 obtain ⟨p1, p2, p3, p4⟩ := h.hi
 have hP3 : C.P < w3.heap.size := Nat.lt_of_lt_of_le p1 ht.size
 have hnP : ¬ vO.ownBlock = some C.P := fun e => (h.oo _ e).1 RC.memP
 have t2 : Tcs (fun k => k = C.P) w3 (w3.setCell ⟨C.P, 5, none⟩ vO') := (Tcs.refl (fun k => k = C.P) w3).setCell (p := ⟨C.P, 5, none⟩) rfl _
 have t4 : Tcs (fun k => vO.ownBlock = some k ∨ k = C.P) w (w3.setCell ⟨C.P, 5, none⟩ vO') := (ht.mono (fun k hk => .inl hk)).next t2 (fun k hk => .inl (.inr hk))
 have hnd := h.nd
 unfold RC.K at hnd
 obtain ⟨n1, n2⟩ := List.nodup_cons.1 hnd
 have hG : ¬ (vO.ownBlock = some C.bG ∨ C.bG = C.P) := fun e => e.elim (fun e => (h.oo _ e).1 RC.memG) (fun e => n1 (e ▸ List.mem_cons_self ..))
 have hgb : ∀ k (hk : k < C.gb.length), ¬ (vO.ownBlock = some C.gb[k] ∨ C.gb[k] = C.P) := fun k hk e => e.elim (fun e => (h.oo _ e).1 (RS.gK k hk)) (fun e => n1 (e ▸ List.mem_cons_of_mem _ (List.mem_append_left _ (List.getElem_mem hk))))
 have hlb : ∀ k (hk : k < lb.length), ¬ (vO.ownBlock = some lb[k] ∨ lb[k] = C.P) := fun k hk e => e.elim (fun e => (h.oo _ e).1 (RS.lK k hk)) (fun e => n1 (e ▸ List.mem_cons_of_mem _ (List.mem_append_right _ (List.getElem_mem hk))))
 have hc : ∀ o, (w3.setCell ⟨C.P, 5, none⟩ vO').cell? ⟨C.bG, o, none⟩ = w.cell? ⟨C.bG, o, none⟩ := fun o => World.cell?_of_block (t4.block C.bG p2 hG)
 have hbx := (h.box.tcs p1 ht hnP).set 5 vO'
 have hnO : ∀ k, vO'.ownBlock = some k → k ∉ C.K lb ∧ vL.ownBlock ≠ some k := fun k hk => by
  rcases hown k hk with h1 | h1
  ·exact h.oo k h1
  ·exact ⟨fun hm => by have := (h.rng k hm).2; omega, fun e => by have := (World.ownsRow.lt h.lrow k e).2; omega⟩
 have ho3 := hrow
 subst hs
 refine ⟨t4.below h.bel h.bel.size (fun k hk => ?_), hbx, fun k h1 h2 => ⟨(hc _).trans (h.grow k h1 h2).1, (hc _).trans (h.grow k h1 h2).2⟩, h.gl, fun k h1 => (h.gw k h1).tcs (h.rng _ (RS.gK k h1)).2 t4 (hgb k h1), h.g1, h.ll, own_notU h.lrow t4 (fun k hk hs => ?_), fun j h1 h2 => (h.lw j h1 h2).tcs (h.rng _ (RS.lK j h1)).2 t4 (hlb j h1), h.inp, own_notU ho3 t2 (fun k hk hs => (hnO k hk).1 (by have e : k = C.P := hs; rw [e]; exact RC.memP)), h.nd, fun k hk => ⟨(h.rng k hk).1, Nat.lt_of_lt_of_le (h.rng k hk).2 t4.size⟩, h.lo, hnO, ⟨h.ok.g, h.ok.l, h.ok.i⟩, ⟨h.uu.1, hu⟩, h.lm, h.nn⟩
 ·rcases hk with hk | hk
  ·exact (World.ownsRow.lt h.out k hk).1
  ·omega
 ·rcases hs with hs | hs
  ·exact (h.oo k hs).2 hk
  ·exact h.lo k hk (by rw [hs]; exact RC.memP)
theorem RS.newL {C : RC} {w w1 w3 : World} {c : Int} {rt : Bool} {vl : Int} {lb : List Nat} {vL vI vO vL' : Value} {s s' : ES} {x : ByteArray} {v : Int} {b : Nat} (h : RS C w c rt vl lb vL vI vO s) (hb1 : Below w.heap.size w w1) (hb : w.heap.size ≤ b ∧ b < w1.heap.size) (hw : FrC w1 b [.int .i64 v]) (ht : Tcs (fun k => vL.ownBlock = some k) w1 w3)
  (hrow : w3.ownsRow C.w0.heap.size 71 2 vL' (s.l.length + 1) (flatV s.l lb ++ lcl (x, v) b))
  (hown : ∀ k, vL'.ownBlock = some k → vL.ownBlock = some k ∨ w1.heap.size ≤ k) (hs : s' = { s with l := s.l ++ [(x, v)] }) (hlm : s.l.length + 1 ≤ 200000) (hv : inB v) :
  RS C (w3.setCell ⟨C.P, 3, none⟩ vL') c rt vl (lb ++ [b]) vL' vI vO s' := by
 obtain ⟨p1, p2, p3, p4⟩ := h.hi
 have h1s := hb1.size
 have hP1 : C.P < w1.heap.size := by omega
 have hP3 : C.P < w3.heap.size := Nat.lt_of_lt_of_le hP1 ht.size
 have hA := h.below hb1
 have hnP : ¬ vL.ownBlock = some C.P := fun e => h.lo _ e RC.memP
 have t2 : Tcs (fun k => k = C.P) w3 (w3.setCell ⟨C.P, 3, none⟩ vL') := (Tcs.refl (fun k => k = C.P) w3).setCell (p := ⟨C.P, 3, none⟩) rfl _
 have t4 : Tcs (fun k => vL.ownBlock = some k ∨ k = C.P) w1 (w3.setCell ⟨C.P, 3, none⟩ vL') := (ht.mono (fun k hk => .inl hk)).next t2 (fun k hk => .inl (.inr hk))
 have hnd := h.nd
 unfold RC.K at hnd
 obtain ⟨n1, n2⟩ := List.nodup_cons.1 hnd
 have hG : ¬ (vL.ownBlock = some C.bG ∨ C.bG = C.P) := fun e => e.elim (fun e => h.lo _ e RC.memG) (fun e => n1 (e ▸ List.mem_cons_self ..))
 have hgb : ∀ k (hk : k < C.gb.length), ¬ (vL.ownBlock = some C.gb[k] ∨ C.gb[k] = C.P) := fun k hk e => e.elim (fun e => h.lo _ e (RS.gK k hk)) (fun e => n1 (e ▸ List.mem_cons_of_mem _ (List.mem_append_left _ (List.getElem_mem hk))))
 have hlb : ∀ k (hk : k < lb.length), ¬ (vL.ownBlock = some lb[k] ∨ lb[k] = C.P) := fun k hk e => e.elim (fun e => h.lo _ e (RS.lK k hk)) (fun e => n1 (e ▸ List.mem_cons_of_mem _ (List.mem_append_right _ (List.getElem_mem hk))))
 have hbn : ¬ (vL.ownBlock = some b ∨ b = C.P) := fun e => e.elim (fun e => by have := (World.ownsRow.lt h.lrow _ e).2; omega) (fun e => by omega)
 have hc : ∀ o, (w3.setCell ⟨C.P, 3, none⟩ vL').cell? ⟨C.bG, o, none⟩ = w1.cell? ⟨C.bG, o, none⟩ := fun o => World.cell?_of_block (t4.block C.bG (by omega) hG)
 have hbx := (hA.box.tcs hP1 ht hnP).set 3 vL'
 have hKm : ∀ k, k ∈ C.K (lb ++ [b]) ↔ k ∈ C.K lb ∨ k = b := fun k => by unfold RC.K; simp [or_assoc]
 have hnL : ∀ k, vL'.ownBlock = some k → k ∉ C.K (lb ++ [b]) := fun k hk hm => by
  rcases (hKm k).1 hm with hm | rfl
  ·rcases hown k hk with h1 | h1
   ·exact h.lo k h1 hm
   ·have := (h.rng k hm).2; omega
  ·rcases hown k hk with h1 | h1
   ·exact hbn (.inl h1)
   ·omega
 subst hs
 refine ⟨t4.below hA.bel hA.bel.size (fun k hk => ?_), hbx, fun k h1 h2 => ⟨(hc _).trans (hA.grow k h1 h2).1, (hc _).trans (hA.grow k h1 h2).2⟩, h.gl, fun k h1 => (hA.gw k h1).tcs (hA.rng _ (RS.gK k h1)).2 t4 (hgb k h1), h.g1, by simp [h.ll], ?_, fun j h1 h2 => ?_, h.inp, own_notU hA.out t4 (fun k hk hs => ?_), ?_, fun k hk => ?_, hnL, fun k hk => ⟨fun hm => ?_, fun e => ?_⟩, ⟨h.ok.g, ?_, h.ok.i⟩, h.uu, ?_, h.nn⟩
 ·rcases hk with hk | hk
  ·exact (World.ownsRow.lt h.lrow k hk).1
  ·omega
 ·have e1 : flatV (s.l ++ [(x, v)]) (lb ++ [b]) = flatV s.l lb ++ lcl (x, v) b := flatV_snoc h.ll (x, v) b
  show World.ownsRow _ _ _ _ _ (s.l ++ [(x, v)]).length (flatV (s.l ++ [(x, v)]) (lb ++ [b]))
  rw [e1, List.length_append, List.length_singleton]
  exact own_notU hrow t2 (fun k hk hs => hnL k hk (by have e : k = C.P := hs; rw [e]; exact RC.memP))
 ·have h2 : j < (s.l ++ [(x, v)]).length := h2
  have hll := h.ll
  show FrC _ ((lb ++ [b])[j]) [.int .i64 ((s.l ++ [(x, v)])[j]).2]
  by_cases e : j < lb.length
  ·have ej : (lb ++ [b])[j] = lb[j] := List.getElem_append_left e
   have el : (s.l ++ [(x, v)])[j] = s.l[j]'(by omega) := List.getElem_append_left (by omega)
   rw [ej, el]
   exact (hA.lw j e (by omega)).tcs (hA.rng _ (RS.lK j e)).2 t4 (hlb j e)
  ·have hj : j = lb.length := by simp at h1; omega
   subst hj
   have ej : (lb ++ [b])[lb.length] = b := by simp
   have el : (s.l ++ [(x, v)])[lb.length] = (x, v) := by simp [hll]
   rw [ej, el]
   exact hw.tcs hb.2 t4 hbn
 ·rcases hs with hs | hs
  ·exact (h.oo k hk).2 hs
  ·exact (h.oo k hk).1 (by rw [hs]; exact RC.memP)
 ·have hbK : b ∉ C.K lb := fun hm => by have := (h.rng b hm).2; omega
  have e : C.K (lb ++ [b]) = C.K lb ++ [b] := by simp [RC.K]
  rw [e]
  exact List.nodup_append.2 ⟨h.nd, by simp, fun y hy z hz e2 => by simp at hz; subst hz; subst e2; exact hbK hy⟩
 ·rcases (hKm k).1 hk with hm | rfl
  ·exact ⟨(h.rng k hm).1, Nat.lt_of_lt_of_le (hA.rng k hm).2 t4.size⟩
  ·exact ⟨by have := h.bel.size; omega, Nat.lt_of_lt_of_le hb.2 t4.size⟩
 ·rcases (hKm k).1 hm with hm | rfl
  ·exact (h.oo k hk).1 hm
  ·have := (World.ownsRow.lt h.out _ hk).2; omega
 ·rcases hown k e with h1 | h1
  ·exact (h.oo k hk).2 h1
  ·have := (World.ownsRow.lt h.out _ hk).2; omega
 ·intro y hy
  rcases List.mem_append.1 hy with hy | hy
  ·exact h.ok.l y hy
  ·simp at hy; subst hy; exact hv
 ·show (s.l ++ [(x, v)]).length ≤ _
  simp; omega
theorem tell_run {C : RC} {w : World} {c : Int} {rt : Bool} {vl : Int} {lb : List Nat} {vL vI vO : Value} {s : ES} (v : Int) (h : RS C w c rt vl lb vL vI vO s) (hu : (s.o.length : Int) + s.u + 1 ≤ C.F) (hF : C.F ≤ 100000) :
  ∃ va vn vc w3, (Builtin.append_ #[42, 42] 42 #[vO, .slice (some ⟨w.heap.size, 0, none⟩) 1 1]).run Tryd.prog (w.alloc (.cells #[.int .i64 v] 2)) = .ok (.slice va vn vc) w3 ∧ RS C (w3.setCell ⟨C.P, 5, none⟩ (.slice va vn vc)) c rt vl lb vL vI (.slice va vn vc) { s with o := s.o ++ [v] } ∧ (w3.cell? ⟨C.P, 5, none⟩ = some vO ∧ w3.frozen? ⟨C.P, 5, none⟩ = false) ∧ Tcs (TEx C vO) w (w3.setCell ⟨C.P, 5, none⟩ (.slice va vn vc)) ∧ ∀ k, (Value.slice va vn vc).ownBlock = some k → vO.ownBlock = some k ∨ w.heap.size ≤ k := by
 obtain ⟨i0, hi, hz0, hz1, hz2⟩ := info_parts info_i64U
 have hb0 : Below w.heap.size w (w.alloc (.cells #[.int .i64 v] 2)) := (Below.refl _ _).alloc (Nat.le_refl _) _
 have h' := ownB h.out hb0
 have hlit : (w.alloc (.cells #[.int .i64 v] 2)).ownsRow w.heap.size 2 1 (.slice (some ⟨w.heap.size, 0, none⟩) 1 1) 1 [.int .i64 v] := World.ownsRow_lit w #[.int .i64 v] 1 (Nat.le_refl _) (by decide) rfl
 obtain ⟨v', w', r1, r2, r3, r4⟩ := run_appG (P := Tryd.prog) (w := w.alloc (.cells #[.int .i64 v] 2)) C.w0.heap.size 42 42 2 i0 _ 1 8 Tryd.underlying42 hi hz0 hz1 hz2 rfl (by decide) vO _ _ h' (some ⟨w.heap.size, 0, none⟩) 1 1 [.int .i64 v] (fun e => by cases e) rfl (fun ad had k u hu => by cases had; exact World.ownsRow.cells hlit (g := w.heap.size) rfl k u hu) (fun u hu => by simp at hu; subst hu; rfl) (by omega) (by decide) (by have := h.bel.size; have := hb0.size; omega)
 obtain ⟨va, vc, rfl, -⟩ := own_shapeU r2
 have t3 : Tcs (fun k => vO.ownBlock = some k) (w.alloc (.cells #[.int .i64 v] 2)) w' := Tcs.of_grown r3 (fun k hk => hk)
 have hRa := h.below hb0
 have hP := hRa.hi.1
 have hnP : ¬ vO.ownBlock = some C.P := fun e => (h.oo _ e).1 RC.memP
 have ho : ∀ k, (Value.slice va (s.o.length + 1) vc).ownBlock = some k → vO.ownBlock = some k ∨ w.heap.size ≤ k := fun k hk => (r4 k hk).imp_right (fun h1 => by have := hb0.size; omega)
 refine ⟨va, _, vc, w', r1, ?_, hRa.box.tcs hP t3 hnP 5 _ rfl, ?_, ho⟩
 ·refine hRa.newO t3 ?_ r4 rfl ?_
  ·show World.ownsRow _ _ _ _ _ (s.o ++ [v]).length ((s.o ++ [v]).map _)
   rw [List.length_append, List.map_append]
   exact r2
  ·show (((s.o ++ [v]).length : Nat) : Int) + (s.u : Int) ≤ _
   simp
   omega
 ·refine ((hb0.tcs (S := TEx C vO)).next t3 (fun k hk => .inl (.inr (.inr hk)))).setCell (p := ⟨C.P, 5, none⟩) (.inl rfl) _
theorem info_var : (Tryd.prog.info? 71).map (fun i => (i.zero, i.size, i.bytes)) = some (some (.agg #[.string ⟨#[]⟩, .slice none 0 0]), 2, 40) := by kernel_rfl
theorem decl_run {C : RC} {w W : World} {c : Int} {rt : Bool} {vl : Int} {lb : List Nat} {vL vI vO : Value} {s : ES} (x : ByteArray) (v : Int) (h : RS C w c rt vl lb vL vI vO s) (hW : W = (w.alloc (.cells #[.int .i64 v] 2)).alloc (.cells #[.string x, .slice (some ⟨w.heap.size, 0, none⟩) 1 1] 71)) (hl : s.l.length + 1 ≤ 200000) (hv : inB v) :
  ∃ va vn vc w3, (Builtin.append_ #[67, 67] 67 #[vL, .slice (some ⟨w.heap.size + 1, 0, none⟩) 1 1]).run Tryd.prog W = .ok (.slice va vn vc) w3 ∧ RS C (w3.setCell ⟨C.P, 3, none⟩ (.slice va vn vc)) c rt vl (lb ++ [w.heap.size]) (.slice va vn vc) vI vO { s with l := s.l ++ [(x, v)] } ∧ (w3.cell? ⟨C.P, 3, none⟩ = some vL ∧ w3.frozen? ⟨C.P, 3, none⟩ = false) ∧ Tcs (fun k => k = C.P ∨ vL.ownBlock = some k) W w3 ∧ Tcs (TSx C lb vL vO) w (w3.setCell ⟨C.P, 3, none⟩ (.slice va vn vc)) ∧ ∀ k, (Value.slice va vn vc).ownBlock = some k → vL.ownBlock = some k ∨ w.heap.size ≤ k := by
 obtain ⟨i0, hi, hz0, hz1, hz2⟩ := info_parts info_var
 have hb0 : Below w.heap.size w (w.alloc (.cells #[.int .i64 v] 2)) := (Below.refl _ _).alloc (Nat.le_refl _) _
 have hb1 : Below w.heap.size w W := by rw [hW]; exact hb0.alloc hb0.size _
 have hz : (w.alloc (.cells #[.int .i64 v] 2)).heap.size = w.heap.size + 1 := World.size_alloc ..
 have hzW : W.heap.size = w.heap.size + 2 := by rw [hW, World.size_alloc, World.size_alloc]
 have hfr : FrC W w.heap.size [.int .i64 v] := by
  rw [hW]
  exact (box_fr w #[.int .i64 v] 2 (by show 1 ≤ 1000; omega)).below ((Below.refl _ _).alloc (Nat.le_refl _) _)
 have h' := ownB h.lrow hb1
 have hlit : W.ownsRow (w.heap.size + 1) 71 2 (.slice (some ⟨w.heap.size + 1, 0, none⟩) 1 1) 1 [.string x, .slice (some ⟨w.heap.size, 0, none⟩) 1 1] := by
  have := World.ownsRow_lit (e := 71) (size := 2) (w.alloc (.cells #[.int .i64 v] 2)) #[.string x, .slice (some ⟨w.heap.size, 0, none⟩) 1 1] 1 (Nat.le_refl _) (by decide) rfl
  rw [hz] at this
  rw [hW]
  exact this
 obtain ⟨v', w', r1, r2, r3, r4⟩ := run_appG (P := Tryd.prog) (w := W) C.w0.heap.size 67 67 71 i0 _ 2 40 Tryd.underlying67 hi hz0 hz1 hz2 rfl (by decide) vL _ _ h' (some ⟨w.heap.size + 1, 0, none⟩) 1 1 [.string x, .slice (some ⟨w.heap.size, 0, none⟩) 1 1] (fun e => by cases e) rfl (fun ad had k u hu => by cases had; exact World.ownsRow.cells hlit (g := w.heap.size + 1) rfl k u hu) (fun u hu => by simp at hu; rcases hu with rfl | rfl <;> rfl) (by omega) (by decide) (by have := h.bel.size; omega)
 obtain ⟨va, vc, rfl, -⟩ := own_shapeU r2
 have t3 : Tcs (fun k => vL.ownBlock = some k) W w' := Tcs.of_grown r3 (fun k hk => hk)
 have hRa := h.below hb1
 have hP := hRa.hi.1
 have hnP : ¬ vL.ownBlock = some C.P := fun e => h.lo _ e RC.memP
 refine ⟨va, _, vc, w', r1, ?_, hRa.box.tcs hP t3 hnP 3 _ rfl, t3.mono (fun k hk => .inr hk), ?_, fun k hk => (r4 k hk).imp_right (fun h1 => by omega)⟩
 ·exact h.newL hb1 ⟨Nat.le_refl _, by omega⟩ hfr t3 r2 r4 rfl hl hv
 ·exact ((hb1.tcs (S := TSx C lb vL vO)).next t3 (fun k hk => .inl (.inr (.inr hk)))).setCell (p := ⟨C.P, 3, none⟩) (.inl (.inl rfl)) _
end
section
open Go.RowKit
def gcl (g : Gl) (b : Nat) : List Value := [.string g.name, .slice (some ⟨b, 0, none⟩) (gln g) (gln g)]
def gflat (gs : List Gl) (gb : List Nat) : List Value := (gs.zip gb).flatMap (fun x => gcl x.1 x.2)
theorem gflat_snoc {gs : List Gl} {gb : List Nat} (h : gb.length = gs.length) (g : Gl) (b : Nat) : gflat (gs ++ [g]) (gb ++ [b]) = gflat gs gb ++ gcl g b := by
 unfold gflat
 rw [List.zip_append (by omega), List.flatMap_append]
 simp
theorem gflat_get : ∀ (l : List Gl) (lb : List Nat) (h : lb.length = l.length) (j i : Nat) (hj : j < l.length), i < 2 → (gflat l lb)[j * 2 + i]? = (gcl l[j] (lb[j]'(by omega)))[i]?
 | x :: l, b :: lb, h, 0, i, _, hi => by
  have h2 : (gcl x b).length = 2 := rfl
  have e : gflat (x :: l) (b :: lb) = gcl x b ++ gflat l lb := by simp [gflat]
  rw [e, List.getElem?_append_left (by omega)]
  simp
 | x :: l, b :: lb, h, j + 1, i, hj, hi => by
  have h2 : (gcl x b).length = 2 := rfl
  have e : gflat (x :: l) (b :: lb) = gcl x b ++ gflat l lb := by simp [gflat]
  rw [e, List.getElem?_append_right (by omega)]
  have e2 : (j + 1) * 2 + i - (gcl x b).length = j * 2 + i := by omega
  rw [e2, gflat_get l lb (by simpa using h) j i (by simpa using hj) hi]
  simp
theorem gflat_len {gs : List Gl} {gb : List Nat} (h : gb.length = gs.length) : (gflat gs gb).length = gs.length * 2 := by
 induction gs generalizing gb with
 | nil => simp [gflat]
 | cons x r ih =>
  cases gb with
  | nil => simp at h
  | cons b q =>
   have := ih (gb := q) (by simpa using h)
   have e : gflat (x :: r) (b :: q) = gcl x b ++ gflat r q := by simp [gflat]
   rw [e, List.length_append, this]
   simp [gcl]
   omega
structure GI (w1 : World) (P : Nat) (gs : List Gl) (wr : World) (vG : Value) (gb : List Nat) : Prop where
 ll : gb.length = gs.length
 row : wr.ownsRow w1.heap.size 71 2 vG gs.length (gflat gs gb)
 lw : ∀ j (hj : j < gb.length) (hl : j < gs.length), FrC wr gb[j] (zer (gln gs[j]))
 nd : gb.Nodup
 rng : ∀ b ∈ gb, w1.heap.size ≤ b ∧ b < wr.heap.size
 lo : ∀ k, vG.ownBlock = some k → k ∉ gb
 tc : Tcs (fun k => k = P) w1 wr
theorem GI.start {w1 : World} {P : Nat} : GI w1 P [] w1 (.slice none 0 0) [] := ⟨rfl, World.ownsRow_nil _ _ _ _, (fun j hj => by simp at hj), List.nodup_nil, (fun b hb => by simp at hb), (fun k hk => by cases hk), Tcs.refl _ _⟩
theorem GI.more {w1 w W w3 : World} {P : Nat} {gs : List Gl} {vG vG' : Value} {gb : List Nat} {g : Gl} {b : Nat} (h : GI w1 P gs w vG gb) (hP : P < w1.heap.size) (hb1 : Below w.heap.size w W) (hb : w.heap.size ≤ b ∧ b < W.heap.size) (hw : FrC W b (zer (gln g))) (ht : Tcs (fun k => vG.ownBlock = some k) W w3)
  (hrow : w3.ownsRow w1.heap.size 71 2 vG' (gs.length + 1) (gflat gs gb ++ gcl g b)) (hown : ∀ k, vG'.ownBlock = some k → vG.ownBlock = some k ∨ W.heap.size ≤ k) : GI w1 P (gs ++ [g]) (w3.setCell ⟨P, 2, none⟩ vG') vG' (gb ++ [b]) := by
 have hs1 := h.tc.size
 have hsW := hb1.size
 have hs3 := ht.size
 have t2 : Tcs (fun k => k = P) w3 (w3.setCell ⟨P, 2, none⟩ vG') := (Tcs.refl (fun k => k = P) w3).setCell (p := ⟨P, 2, none⟩) rfl _
 have t4 : Tcs (fun k => vG.ownBlock = some k ∨ k = P) W (w3.setCell ⟨P, 2, none⟩ vG') := (ht.mono (fun k hk => .inl hk)).next t2 (fun k hk => .inl (.inr hk))
 have hlt := fun k (hk : vG.ownBlock = some k) => World.ownsRow.lt h.row k hk
 have hgbn : ∀ k (hk : k < gb.length), ¬ (vG.ownBlock = some gb[k] ∨ gb[k] = P) := fun k hk e => e.elim (fun e => h.lo _ e (List.getElem_mem hk)) (fun e => by have := (h.rng _ (List.getElem_mem hk)).1; omega)
 have hbn : ¬ (vG.ownBlock = some b ∨ b = P) := fun e => e.elim (fun e => by have := (hlt _ e).2; omega) (fun e => by omega)
 have hvP : ∀ k, vG'.ownBlock = some k → k ≠ P := fun k hk e => by
  rcases hown k hk with h1 | h1
  ·have := (hlt k h1).1; omega
  ·omega
 refine ⟨by simp [h.ll], ?_, fun j h1 h2 => ?_, ?_, fun k hk => ?_, fun k hk hm => ?_, ?_⟩
 ·rw [gflat_snoc h.ll, List.length_append, List.length_singleton]
  exact own_notU hrow t2 (fun k hk hs => hvP k hk hs)
 ·have hll := h.ll
  by_cases e : j < gb.length
  ·have ej : (gb ++ [b])[j] = gb[j] := List.getElem_append_left e
   have el : (gs ++ [g])[j] = gs[j]'(by omega) := List.getElem_append_left (by omega)
   rw [ej, el]
   exact ((h.lw j e (by omega)).below hb1).tcs (Nat.lt_of_lt_of_le (h.rng _ (List.getElem_mem e)).2 hsW) t4 (hgbn j e)
  ·have hj : j = gb.length := by simp at h1; omega
   subst hj
   have ej : (gb ++ [b])[gb.length] = b := by simp
   have el : (gs ++ [g])[gb.length] = g := by simp [hll]
   rw [ej, el]
   exact hw.tcs hb.2 t4 hbn
 ·exact List.nodup_append.2 ⟨h.nd, by simp, fun y hy z hz e2 => by simp at hz; subst hz; subst e2; have := (h.rng _ hy).2; omega⟩
 ·have hsz := t4.size
  rcases List.mem_append.1 hk with hk | hk
  ·have := h.rng k hk; exact ⟨this.1, by omega⟩
  ·simp at hk; subst hk; exact ⟨by omega, by omega⟩
 ·rcases List.mem_append.1 hm with hm | hm
  ·rcases hown k hk with h1 | h1
   ·exact h.lo k h1 hm
   ·have := (h.rng k hm).2; omega
  ·simp at hm; subst hm
   rcases hown k hk with h1 | h1
   ·exact hbn (.inl h1)
   ·omega
 ·refine ((h.tc.of_below hb1).next ht (fun k hk => .inr ?_)).setCell (p := ⟨P, 2, none⟩) rfl _
  exact (hlt k hk).1
theorem glob_run {w1 w W : World} {P : Nat} {gs : List Gl} {vG : Value} {gb : List Nat} (g : Gl) (h : GI w1 P gs w vG gb) (hP : P < w1.heap.size) (hg : gln g ≤ 10000) (hgl : gs.length ≤ 1000) (hW : W = (w.alloc (.cells (Array.replicate (gln g) (.int .i64 0)) 2)).alloc (.cells #[.string g.name, .slice (some ⟨w.heap.size, 0, none⟩) (gln g) (gln g)] 71)) :
  ∃ va vn vc w3, (Builtin.append_ #[67, 67] 67 #[vG, .slice (some ⟨w.heap.size + 1, 0, none⟩) 1 1]).run Tryd.prog W = .ok (.slice va vn vc) w3 ∧ GI w1 P (gs ++ [g]) (w3.setCell ⟨P, 2, none⟩ (.slice va vn vc)) (.slice va vn vc) (gb ++ [w.heap.size]) ∧ Tcs (fun k => vG.ownBlock = some k) W w3 ∧ vn = gs.length + 1 := by
 obtain ⟨i0, hi, hz0, hz1, hz2⟩ := info_parts info_var
 have hb0 : Below w.heap.size w (w.alloc (.cells (Array.replicate (gln g) (.int .i64 0)) 2)) := (Below.refl _ _).alloc (Nat.le_refl _) _
 have hb1 : Below w.heap.size w W := by rw [hW]; exact hb0.alloc hb0.size _
 have hz : (w.alloc (.cells (Array.replicate (gln g) (.int .i64 0)) 2)).heap.size = w.heap.size + 1 := World.size_alloc ..
 have hzW : W.heap.size = w.heap.size + 2 := by rw [hW, World.size_alloc, World.size_alloc]
 have hfr : FrC W w.heap.size (zer (gln g)) := by
  have := (box_frB w (Array.replicate (gln g) (.int .i64 0)) 2 (by simp; omega)).below (w' := W) (by rw [hW]; exact (Below.refl _ _).alloc (Nat.le_refl _) _)
  simpa [zer] using this
 have h' := ownB h.row hb1
 have hlit : W.ownsRow (w.heap.size + 1) 71 2 (.slice (some ⟨w.heap.size + 1, 0, none⟩) 1 1) 1 [.string g.name, .slice (some ⟨w.heap.size, 0, none⟩) (gln g) (gln g)] := by
  have := World.ownsRow_lit (e := 71) (size := 2) (w.alloc (.cells (Array.replicate (gln g) (.int .i64 0)) 2)) #[.string g.name, .slice (some ⟨w.heap.size, 0, none⟩) (gln g) (gln g)] 1 (Nat.le_refl _) (by decide) rfl
  rw [hz] at this
  rw [hW]
  exact this
 have hsz := h.tc.size
 obtain ⟨v', w', r1, r2, r3, r4⟩ := run_appG (P := Tryd.prog) (w := W) w1.heap.size 67 67 71 i0 _ 2 40 Tryd.underlying67 hi hz0 hz1 hz2 rfl (by decide) vG _ _ h' (some ⟨w.heap.size + 1, 0, none⟩) 1 1 [.string g.name, .slice (some ⟨w.heap.size, 0, none⟩) (gln g) (gln g)] (fun e => by cases e) rfl (fun ad had k u hu => by cases had; exact World.ownsRow.cells hlit (g := w.heap.size + 1) rfl k u hu) (fun u hu => by simp at hu; rcases hu with rfl | rfl <;> rfl) (by omega) (by decide) (by omega)
 obtain ⟨va, vc, rfl, -⟩ := own_shapeU r2
 have t3 : Tcs (fun k => vG.ownBlock = some k) W w' := Tcs.of_grown r3 (fun k hk => hk)
 exact ⟨va, _, vc, w', r1, h.more hP hb1 ⟨Nat.le_refl _, by omega⟩ hfr t3 r2 r4, t3, rfl⟩
end
end Go.Proofs.YtolkpkklinoegaaDoor
