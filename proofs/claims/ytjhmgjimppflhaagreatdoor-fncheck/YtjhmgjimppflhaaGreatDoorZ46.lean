import Derived.Test.YtjhmgjimppflhaaGreatDoorZ39
import Derived.Test.YtjhmgjimppflhaaGreatDoorZ35
import Derived.Deep.LoopGhost
set_option linter.unusedSectionVars false
variable [Inhabited Go.Proofs.YtjhmgjimppflhaaGreatDoor.Pick]
namespace Go.Proofs.YtjhmgjimppflhaaGreatDoor
set_option linter.unusedVariables false
set_option linter.unusedSimpArgs false
set_option maxRecDepth 100000
set_option maxHeartbeats 16000000
section
/-- On the way to all that f comes to: out was come to, work is still to be looked at. -/
structure RInv (t : Tr) (f : Nat) (out work : List Nat) : Prop where
  nd : out.Nodup
  come : ∀ x ∈ out, Rch t f x
  sub : ∀ x ∈ work, x = f ∨ x ∈ out
  shut : ∀ x, (x = f ∨ x ∈ out) → x ∉ work → ∀ y, CallR t x y → y ∈ out
/-- Within a round: x is looked at, of its calls those of done were. -/
structure RMid (t : Tr) (f x : Nat) (done out work : List Nat) : Prop where
  nd : out.Nodup
  come : ∀ x ∈ out, Rch t f x
  at_ : x = f ∨ x ∈ out
  sub : ∀ x ∈ work, x = f ∨ x ∈ out
  shut : ∀ z, (z = f ∨ z ∈ out) → z ∉ work → z ≠ x → ∀ y, CallR t z y → y ∈ out
  part : ∀ y ∈ done, y ∈ out
theorem RInv.start (t : Tr) (f : Nat) : RInv t f [] [f] := by
  refine ⟨List.nodup_nil, by simp, by simp, fun x hx hn => ?_⟩
  simp at hx hn
  exact absurd hx hn
/-- A round begins: x is taken off. -/
theorem RInv.take {t : Tr} {f x : Nat} {out work rest : List Nat} (h : RInv t f out work) (hx : x ∈ work) (hr : ∀ y, y ∈ work ↔ y = x ∨ y ∈ rest) : RMid t f x [] out rest := by
  refine ⟨h.nd, h.come, h.sub x hx, fun y hy => h.sub y ((hr y).2 (.inr hy)), fun z hz hn hne y hy => h.shut z hz (fun hm => ?_) y hy, by simp⟩
  rcases (hr z).1 hm with h1 | h1
  · exact hne h1
  · exact hn h1
theorem RMid.old {t : Tr} {f x y : Nat} {done out work : List Nat} (h : RMid t f x done out work) (hy : y ∈ out) : RMid t f x (done ++ [y]) out work :=
  ⟨h.nd, h.come, h.at_, h.sub, h.shut, fun z hz => by
    simp only [List.mem_append, List.mem_singleton] at hz
    rcases hz with h1 | rfl
    · exact h.part z h1
    · exact hy⟩
theorem RMid.new {t : Tr} {f x y : Nat} {done out work : List Nat} (h : RMid t f x done out work) (hy : y ∉ out) (hc : CallR t x y) : RMid t f x (done ++ [y]) (out ++ [y]) (work ++ [y]) := by
  refine ⟨?_, ?_, ?_, ?_, ?_, ?_⟩
  · rw [List.nodup_append]
    exact ⟨h.nd, by simp, fun a ha b hb e => by simp only [List.mem_singleton] at hb; subst hb; subst e; exact hy ha⟩
  · intro z hz
    simp only [List.mem_append, List.mem_singleton] at hz
    rcases hz with h1 | rfl
    · exact h.come z h1
    · rcases h.at_ with rfl | h2
      · exact .one hc
      · exact .step (h.come _ h2) hc
  · rcases h.at_ with h1 | h1
    · exact .inl h1
    · exact .inr (List.mem_append_left _ h1)
  · intro z hz
    simp only [List.mem_append, List.mem_singleton] at hz ⊢
    rcases hz with h1 | rfl
    · rcases h.sub z h1 with h2 | h2
      · exact .inl h2
      · exact .inr (.inl h2)
    · exact .inr (.inr rfl)
  · intro z hz hn hne q hq
    simp only [List.mem_append, List.mem_singleton, not_or] at hz hn
    have h3 : z = f ∨ z ∈ out := by
      rcases hz with h1 | h1 | h1
      · exact .inl h1
      · exact .inr h1
      · exact absurd h1 hn.2
    exact List.mem_append_left _ (h.shut z h3 hn.1 hne q hq)
  · intro z hz
    simp only [List.mem_append, List.mem_singleton] at hz ⊢
    rcases hz with h1 | rfl
    · exact .inl (h.part z h1)
    · exact .inr rfl
theorem RMid.done {t : Tr} {f x : Nat} {all out work : List Nat} (h : RMid t f x all out work) (ha : ∀ y, CallR t x y → y ∈ all) : RInv t f out work := by
  refine ⟨h.nd, h.come, h.sub, fun z hz hn y hy => ?_⟩
  by_cases e : z = x
  · subst e
    exact h.part y (ha y hy)
  · exact h.shut z hz hn e y hy
/-- Nothing is left: all that f comes to. -/
theorem RInv.all {t : Tr} {f : Nat} {out : List Nat} (h : RInv t f out []) (g : Nat) : g ∈ out ↔ Rch t f g :=
  ⟨fun hg => h.come g hg, fun hg => Rch.sub (S := fun g => g ∈ out) (fun g hg => h.shut f (.inl rfl) (by simp) g hg) (fun g k hg hk => h.shut g (.inr hg) (by simp) k hk) hg⟩
theorem nodup_le (n : Nat) : ∀ {l : List Nat}, l.Nodup → (∀ x ∈ l, x < n) → l.length ≤ n := by
  induction n with
  | zero =>
    intro l h hl
    cases l with
    | nil => simp
    | cons x r => have := hl x (by simp); omega
  | succ n ih =>
    intro l h hl
    by_cases hm : n ∈ l
    · have h1 := ih (h.erase n) (fun x hx => by
        have h2 := (h.mem_erase_iff).1 hx
        have := hl x h2.2
        have := h2.1
        omega)
      rw [List.length_erase_of_mem hm] at h1
      omega
    · have h1 := ih h (fun x hx => by
        have := hl x hx
        have : x ≠ n := fun e => hm (e ▸ hx)
        omega)
      omega
theorem RMid.len {t : Tr} {f x : Nat} {done out work : List Nat} (h : RMid t f x done out work) : out.length ≤ t.funcs.length := nodup_le _ h.nd (fun x hx => (h.come x hx).lt)
theorem RInv.len {t : Tr} {f : Nat} {out work : List Nat} (h : RInv t f out work) : out.length ≤ t.funcs.length := nodup_le _ h.nd (fun x hx => (h.come x hx).lt)
theorem RInv.lt {t : Tr} {f : Nat} {out work : List Nat} (h : RInv t f out work) (hf : f < t.funcs.length) : ∀ x ∈ work, x < t.funcs.length := by
  intro x hx
  rcases h.sub x hx with rfl | h1
  · exact hf
  · exact (h.come x h1).lt
theorem CallR.mem {t : Tr} {f g : Nat} (hf : f < t.funcs.length) : CallR t f g ↔ g ∈ callsL t.funcs t.funcs[f].body := by
  have e : t.funcs.getD f ⟨⟨#[]⟩, [], []⟩ = t.funcs[f] := by simp [List.getD, hf]
  unfold CallR
  rw [e]
  exact ⟨fun h => h.2, fun h => ⟨hf, h⟩⟩
end
section
open Go.RowKit
theorem Ints.set {w : World} {v : Value} {l : List Int} {g : Nat} (h : Ints w v l) (hne : v.ownBlock ≠ some g) (o : Nat) (u : Value) : Ints (w.setCell ⟨g, o, none⟩ u) v l := by
  obtain ⟨a, cap, rfl, h3⟩ := h
  refine ⟨a, cap, rfl, fun h0 => ?_⟩
  obtain ⟨b, rfl, hc⟩ := h3 h0
  have hb : b ≠ g := fun e => hne (by simp [Value.ownBlock, e])
  refine ⟨b, rfl, fun j hj => ?_⟩
  rw [World.cell?_setCell_other _ _ _ _ (by intro h; simp only [Addr.mk.injEq] at h; exact hb h.1.symm)]
  exact hc j hj
def callI (fs : List Fu) (j : Nat) : List Int := (callsL fs (fs.getD j ⟨⟨#[]⟩, [], []⟩).body).map (fun g : Nat => (g : Int))
/-- A graph of calls. -/
def Graph (w : World) (v : Value) (fs : List Fu) : Prop := ∃ G cap, v = .slice (some ⟨G, 0, none⟩) fs.length cap ∧ ∀ j, j < fs.length → ∃ vj, w.cell? ⟨G, j, none⟩ = some vj ∧ Ints w vj (callI fs j)
theorem Graph.below {w w' : World} {v : Value} {fs : List Fu} (h : Graph w v fs) (hb : Below w.heap.size w w') : Graph w' v fs := by
  obtain ⟨G, cap, rfl, h⟩ := h
  refine ⟨G, cap, rfl, fun j hj => ?_⟩
  obtain ⟨vj, h1, h2⟩ := h j hj
  exact ⟨vj, (hb.cell (p := ⟨G, j, none⟩) (World.block_lt_of_cell? _ _ h1)).trans h1, h2.below hb⟩
theorem info_ii : (Tryz.prog.info? 31).map (fun i => (i.zero, i.size, i.bytes)) = some (some (.slice none 0 0), 1, 24) := by kernel_rfl
set_option maxRecDepth 100000 in
set_option maxHeartbeats 4000000 in
/-- impl.callGraph. -/
theorem graph_any (fs : List Fu) (vg vf : Value) (w : World) (hl : fs.length ≤ 1000) (hg : ∃ a n c, vg = .slice a n c) (hw : wfFs fs) (hsm : ∀ f ∈ fs, smallF f) (hf : Funcs w vf fs) :
    Calls Tryz.prog 41 #[.agg #[vg, vf]] w fun e w' => ∃ v, e = .returned v ∧ Graph w' v fs ∧ Below w.heap.size w w' := by
  obtain ⟨ag, ng, cg, rfl⟩ := hg
  have HF : Hid (Funcs w vf fs) := hf
  obtain ⟨af, cf, rfl, -, -, hfc⟩ := hf
  have HFC : Hid (0 < fs.length → ∃ b off, af = some ⟨b, off, none⟩ ∧ FuncsC w b off fs) := hfc
  have HW : Hid (wfFs fs) := hw
  have HSm : Hid (∀ f ∈ fs, smallF f) := hsm
  obtain ⟨i0, hi, hz0, hz1, hz2⟩ := info_parts info_ii
  clear hfc hw hsm
  go_enter Tryz.func41, Tryz.ntmps41
  go_wp2_with fail
  have hA : Below w.heap.size w (w.alloc (.cells #[.slice ag ng cg, .slice af fs.length cf] 26)) := (Below.refl _ _).alloc (Nat.le_refl _) _
  refine (fnums_any fs _ _ _ (by omega) HW.out (HF.out.below hA)).mono ?_
  rintro e w1 ⟨bn, D, rfl, hbn, hown, hN, hb1⟩
  simp only [World.size_alloc] at hb1 hbn
  obtain ⟨x0, x1⟩ := box2 hb1
  have HOw : Hid (w1.ownsMap Tryz.prog 9 (plainElem (H := Unit) Tryz.prog 2) bn fs.length D) := hown
  have HN : Hid (NumIs D fs) := hN
  have hB1 : Below w.heap.size w w1 := one_below hb1
  have hsz1 := hb1.size
  simp only [World.size_alloc] at hsz1
  clear hown hN
  go_wp2_with (at_make; refine wpList_make_full _ rfl _ _ 72 rfl w1.heap.size 31 i0 (.slice none 0 0) 1 Tryz.underlying72 hi hz0 hz1 _ _ _ _ fs.length rfl rfl (by omega) (by omega) ?_ ?_ (Nat.le_refl _) ?_)
  · rw [hz2]; omega
  · unfold maxLen; omega
  intro w2 hown2 hgrow2
  have hb2 : Below w1.heap.size w1 w2 := (Below.refl _ _).grown hgrow2 (Nat.le_refl _) (by simp)
  have hb2' : Below (w.heap.size + 1) (w.alloc (.cells #[.slice ag ng cg, .slice af fs.length cf] 26)) w2 := hb1.trans (hb2.mono hsz1)
  have HM2 : Hid (w2.ownsMap Tryz.prog 9 (plainElem (H := Unit) Tryz.prog 2) bn fs.length D) := map_below HOw.out hb2
  have hR2 : ∃ xs, w2.ownsRow w1.heap.size 31 1 (.slice (some ⟨w1.heap.size, 0, none⟩) fs.length fs.length) fs.length xs := ⟨_, hown2⟩
  obtain ⟨xs2, hR2⟩ := hR2
  have HR2 : Hid (w2.ownsRow w1.heap.size 31 1 (.slice (some ⟨w1.heap.size, 0, none⟩) fs.length fs.length) fs.length xs2) := hR2
  have hG : w1.heap.size < w2.heap.size := (World.ownsRow.lt hR2 w1.heap.size rfl).2
  obtain ⟨G, hGe⟩ : ∃ G, G = w1.heap.size := ⟨_, rfl⟩
  rw [← hGe] at HR2 hG ⊢
  have hwG : w.heap.size + 1 ≤ G := by omega
  have hbG0 : bn < G := by have := HOw.out.lt; omega
  clear hown2 hgrow2 hR2 x0 x1
  obtain ⟨x0, x1⟩ := box2 hb2'
  clear hb1 hb2 hGe
  go_wp2_with fail
  go_loopw [16] (fun i wr => ∃ (k : Nat) (xs : List Value), k ≤ fs.length ∧ i = .int .i64 k ∧ wr.ownsRow G 31 1 (.slice (some ⟨G, 0, none⟩) fs.length fs.length) fs.length xs ∧ (∀ j, j < k → ∃ vj, xs[j]? = some vj ∧ Ints wr vj (callI fs j) ∧ vj.ownBlock ≠ some G) ∧ wr.ownsMap Tryz.prog 9 (plainElem (H := Unit) Tryz.prog 2) bn fs.length D ∧ bn < G ∧ G < wr.heap.size ∧ Below (w.heap.size + 1) (w.alloc (.cells #[.slice ag ng cg, .slice af fs.length cf] 26)) wr) (fun i _ => fs.length - (RowKit.intOf i).toNat)
  case atStart => exact ⟨0, xs2, Nat.zero_le _, rfl, HR2.out, fun j hj => absurd hj (by omega), HM2.out, hbG0, hG, hb2'⟩
  case round =>
    clear HM2 HR2 hG hb2' x0 x1
    obtain ⟨k, xs, hk, rfl, hR, hX, hM, hbG, hG, hB⟩ := hrel
    have HR : Hid (wr.ownsRow G 31 1 (.slice (some ⟨G, 0, none⟩) fs.length fs.length) fs.length xs) := hR
    have HX : Hid (∀ j, j < k → ∃ vj, xs[j]? = some vj ∧ Ints wr vj (callI fs j) ∧ vj.ownBlock ≠ some G) := hX
    have HM : Hid (wr.ownsMap Tryz.prog 9 (plainElem (H := Unit) Tryz.prog 2) bn fs.length D) := hM
    have hBw := one_below hB
    clear hR hX hM
    by_cases hlt : k < fs.length
    · obtain ⟨bf, of, rfl, hfc⟩ := HFC.out (by omega)
      obtain ⟨vp, vb, ⟨d0, d1, d2⟩, hps, hbs⟩ := (hfc.below hBw) k hlt
      have hbl : bf < wr.heap.size := World.block_lt_of_cell? _ _ d0
      have HPs : Hid (Strs wr vp fs[k].params) := hps
      have HBs : Hid (Stmts wr vb fs[k].body) := hbs
      have HFs : Hid (smallF fs[k]) := HSm.out _ (List.getElem_mem hlt)
      have HFw : Hid (wfFu fs[k]) := HW.out.2 _ (List.getElem_mem hlt)
      have HCI : Hid (callI fs k = (callsL fs fs[k].body).map (fun g : Nat => (g : Int))) := by show _ = _; unfold callI; simp [List.getD, hlt]
      obtain ⟨ap, cp, rfl, -⟩ := hps
      obtain ⟨ab, cb, rfl, -⟩ := hbs
      clear hfc
      generalize fs[k] = f at d0 d1 d2 HPs HBs HFs HFw HCI
      have hAr : Below wr.heap.size wr (wr.alloc (.cells #[.string f.name, .slice ap f.params.length cp, .slice ab f.body.length cb] 61)) := (Below.refl _ _).alloc (Nat.le_refl _) _
      go_wp2_with fail
      refine (callsOf_any fs f _ _ bn fs.length D _ (by omega) HFs.out HFw.out (HPs.out.below hAr) (HBs.out.below hAr) (map_below HM.out hAr) HN.out).mono ?_
      rintro e w3 ⟨v3, rfl, hr3, hb3⟩
      have hb3' : Below wr.heap.size wr w3 := hAr.trans (hb3.mono hAr.size)
      have HI3 : Hid (Ints w3 v3 (callI fs k)) := by
        show Ints _ _ _
        rw [HCI.out]
        exact IRow.ints (B := _) hr3
      have HV3 : Hid (v3.ownBlock ≠ some G) := fun h => by
        have := (World.ownsRow.lt hr3 G h).1
        simp at this
        omega
      have HR3 : Hid (w3.ownsRow G 31 1 (.slice (some ⟨G, 0, none⟩) fs.length fs.length) fs.length xs) := ownB HR.out hb3'
      have HM3 : Hid (w3.ownsMap Tryz.prog 9 (plainElem (H := Unit) Tryz.prog 2) bn fs.length D) := map_below HM.out hb3'
      have HX3 : Hid (∀ j, j < k → ∃ vj, xs[j]? = some vj ∧ Ints w3 vj (callI fs j) ∧ vj.ownBlock ≠ some G) := fun j hj => by
        obtain ⟨vj, h1, h2, h3⟩ := HX.out j hj
        exact ⟨vj, h1, h2.below hb3', h3⟩
      have hsr := hB.size
      simp only [World.size_alloc] at hsr
      have hB3 : Below (w.heap.size + 1) (w.alloc (.cells #[.slice ag ng cg, .slice (some ⟨bf, of, none⟩) fs.length cf] 26)) w3 := hB.trans (hb3'.mono hsr)
      have hG3 : G < w3.heap.size := Nat.lt_of_lt_of_le hG hb3'.size
      have hlx : xs.length = fs.length := by have := HR.out.1; omega
      have g0 : w3.cell? ⟨G, k, none⟩ = some (xs[k]'(by omega)) := by
        have := World.ownsRow.cellAt HR3.out k (by omega)
        rw [this]
        simp [hlx, hlt]
      have gf := World.ownsRow.frozenAt HR3.out k
      obtain ⟨y, hy⟩ : ∃ y, y = xs[k]'(by omega) := ⟨_, rfl⟩
      rw [← hy] at g0
      obtain ⟨a3, c3, hv3⟩ := IRow.shape (B := _) hr3
      clear hr3 hb3 hb3' d0 d1 d2 hy HR HX HM hAr
      have HR4 : Hid ((w3.setCell ⟨G, k, none⟩ v3).ownsRow G 31 1 (.slice (some ⟨G, 0, none⟩) fs.length fs.length) fs.length (xs.set k v3)) := (World.ownsRow.stored HR3.out k v3).1
      have HX4 : Hid (∀ j, j < k + 1 → ∃ vj, (xs.set k v3)[j]? = some vj ∧ Ints (w3.setCell ⟨G, k, none⟩ v3) vj (callI fs j) ∧ vj.ownBlock ≠ some G) := fun j hj => by
        by_cases e : j = k
        · subst e
          exact ⟨v3, by simp [hlx, hlt], HI3.out.set HV3.out _ _, HV3.out⟩
        · obtain ⟨vj, h1, h2, h3⟩ := HX3.out j (by omega)
          exact ⟨vj, by rw [List.getElem?_set_ne (fun h => e h.symm)]; exact h1, h2.set h3 _ _, h3⟩
      have HM4 : Hid ((w3.setCell ⟨G, k, none⟩ v3).ownsMap Tryz.prog 9 (plainElem (H := Unit) Tryz.prog 2) bn fs.length D) := by
        obtain ⟨es, clock, h0, F, hs, hD⟩ := HM3.out
        exact ⟨es, clock, (Below.heap_setCell _ _ _ bn (fun h => by simp at h; omega)).trans h0, F, hs, hD⟩
      subst hv3
      go_wp2_with fail
      go_roundw
      case rel => exact ⟨k + 1, _, by omega, by go_num, HR4.out, HX4.out, HM4.out, hbG, by simpa using hG3, hB3.setCell (p := ⟨G, k, none⟩) hwG _⟩
      case measure => simp [RowKit.intOf]; omega
    · have hkk : k = fs.length := by omega
      subst hkk
      clear hB
      go_wp2_with fail
      go_ret
      refine ⟨_, rfl, ⟨G, fs.length, rfl, fun j hj => ?_⟩, hBw⟩
      obtain ⟨vj, h1, h2, -⟩ := HX.out j hj
      exact ⟨vj, (World.ownsRow.cellAt HR.out j (by omega)).trans h1, h2⟩
end
end Go.Proofs.YtjhmgjimppflhaaGreatDoor
