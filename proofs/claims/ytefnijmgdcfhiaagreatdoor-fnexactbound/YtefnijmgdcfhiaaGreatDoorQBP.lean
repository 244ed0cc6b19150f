import Derived.Test.YtefnijmgdcfhiaaGreatDoorQCA0
import Derived.Test.YtefnijmgdcfhiaaGreatDoorQGS
import Derived.Test.YtefnijmgdcfhiaaGreatDoorQCA2
import Derived.Test.YtefnijmgdcfhiaaGreatDoorQCLb
set_option linter.unusedSectionVars false
variable [Inhabited Go.Proofs.YtefnijmgdcfhiaaGreatDoor.Pick]
namespace Go.Proofs.YtefnijmgdcfhiaaGreatDoor
set_option linter.unusedVariables false
set_option linter.unusedSimpArgs false

/-- What a function calls, and its frame, by its number. -/
def clF (t : Tr) (f : Nat) : List Nat := callsL t.funcs (t.funcs.getD f ⟨⟨#[]⟩, [], []⟩).body
def fszF (t : Tr) (f : Nat) : Int := frameSz (t.funcs.getD f ⟨⟨#[]⟩, [], []⟩)
/-- The largest of these numbers, or 0. -/
def mxL (l : List Int) : Int := l.foldl max 0
theorem mxL_snoc (l : List Int) (x : Int) : mxL (l ++ [x]) = max (mxL l) x := by simp [mxL]
theorem foldl_max_ge (l : List Int) : ∀ p : Int, p ≤ l.foldl max p := by
  induction l with
  | nil => intro p; exact Int.le_refl _
  | cons x r ih => intro p; exact Int.le_trans (Int.le_max_left p x) (ih (max p x))
theorem foldl_max_le (l : List Int) (M : Int) : ∀ p : Int, p ≤ M → (∀ x ∈ l, x ≤ M) → l.foldl max p ≤ M := by
  induction l with
  | nil => intro p hp _; exact hp
  | cons x r ih => intro p hp h; exact ih (max p x) (Int.max_le.2 ⟨hp, h x (by simp)⟩) (fun y hy => h y (by simp [hy]))
theorem mxL_bd (l : List Int) (M : Int) (hM : 0 ≤ M) (h : ∀ x ∈ l, x ≤ M) : 0 ≤ mxL l ∧ mxL l ≤ M := ⟨foldl_max_ge l 0, foldl_max_le l M 0 hM h⟩
/-- The largest sum of frames from a function on, along calls, of at most so many functions. -/
structure DpC (t:Tr)(P:Nat→Nat→Int→Prop):Prop where
 c_::
 mk(n f:Nat)(g:Nat → Int):(f < t.funcs.length)→(∀ c ∈ clF t f, P n c (g c))→P (n + 1) f (fszF t f + mxL ((clF t f).map g))
structure Dp (t:Tr)(a0:Nat)(a1:Nat)(a2:Int):Prop where
 c_::
 out:∀P,DpC t P→P a0 a1 a2
theorem Dp.C{t:Tr}:DpC t (Dp t):=⟨fun n f g q0 q1=>⟨fun P h=>h.mk n f g q0 (fun c r=>(q1 c r).out P h)⟩⟩
abbrev Dp.mk {t}:=(Dp.C:DpC t _).mk
theorem Dp.ind{t:Tr}{M:∀(a0:Nat)(a1:Nat)(a2:Int),Dp t a0 a1 a2→Prop}
 (mk:∀(n f:Nat)(g:Nat → Int),(f < t.funcs.length)→∀q1:∀ c ∈ clF t f, Dp t n c (g c),(∀ c (r : c ∈ clF t f),M n c (g c) (q1 c r))→∀u,M (n + 1) f (fszF t f + mxL ((clF t f).map g)) u)
 {a0:Nat}{a1:Nat}{a2:Int}(u:Dp t a0 a1 a2):M a0 a1 a2 u:=
 (u.out (fun a0 a1 a2=>∃z_,M a0 a1 a2 z_) ⟨fun n f g q0 q1=>⟨.mk n f g q0 (fun c r=>(q1 c r).1),mk n f g q0 _ (fun c r=>(q1 c r).2) _⟩⟩).2
theorem map_congr' {l : List Nat} {g h : Nat → Int} (e : ∀ c ∈ l, g c = h c) : l.map g = l.map h := List.map_congr_left e
theorem Dp.one {t : Tr} {n f : Nat} {s : Int} (h : Dp t n f s) : ∀ {m : Nat} {s' : Int}, Dp t m f s' → s = s' := by
  induction h using Dp.ind with
  | mk n f g hf hg ih =>
    intro m s' h'
    cases h' using Dp.ind with
    | mk m _ g' hf' hg' =>
      rw [map_congr' (fun c hc => ih c hc (hg' c hc))]
theorem Dp.lt {t : Tr} {n f : Nat} {s : Int} (h : Dp t n f s) : f < t.funcs.length := by cases h using Dp.ind with | mk n _ g hf _ => exact hf
theorem Dp.more {t : Tr} {n f : Nat} {s : Int} (h : Dp t n f s) : ∀ m, n ≤ m → Dp t m f s := by
  induction h using Dp.ind with
  | mk n f g hf hg ih =>
    intro m hm
    obtain ⟨k, rfl⟩ : ∃ k, m = k + 1 := ⟨m - 1, by omega⟩
    exact .mk k f g hf (fun c hc => ih c hc k (by omega))
theorem Dp.bd {t : Tr} (hz : ∀ f, f < t.funcs.length → 0 ≤ fszF t f ∧ fszF t f ≤ 1000000) {n f : Nat} {s : Int} (h : Dp t n f s) : 0 ≤ s ∧ s ≤ 1000000 * n := by
  induction h using Dp.ind with
  | mk n f g hf hg ih =>
    have h1 := hz f hf
    have h2 := mxL_bd ((clF t f).map g) (1000000 * n) (by omega) (fun x hx => by
      obtain ⟨c, hc, rfl⟩ := List.mem_map.1 hx
      exact (ih c hc).2)
    omega
/-- What the calls give, whatever sums are told for them. -/
theorem Dp.sums {t : Tr} {n f : Nat} {s : Int} (h : Dp t (n + 1) f s) (g : Nat → Int) (hg : ∀ c ∈ clF t f, ∀ x, Dp t n c x → g c = x) : s = fszF t f + mxL ((clF t f).map g) := by
  cases h using Dp.ind with
  | mk _ _ g' hf hg' => rw [map_congr' (fun c hc => (hg c hc _ (hg' c hc)).symm)]
theorem Dp.kids {t : Tr} {n f : Nat} {s : Int} (h : Dp t n f s) : ∃ k, n = k + 1 ∧ ∀ c ∈ clF t f, ∃ x, Dp t k c x := by
  cases h using Dp.ind with
  | mk k _ g hf hg => exact ⟨k, rfl, fun c hc => ⟨g c, hg c hc⟩⟩
theorem Dp.rch {t : Tr} {n f : Nat} {s : Int} (h : Dp t n f s) {x : Nat} (hr : Rch t f x) : ∃ m s', m < n ∧ Dp t m x s' := by
  induction hr using Rch.ind with
  | one hc =>
    obtain ⟨k, rfl, hk⟩ := h.kids
    obtain ⟨y, hy⟩ := hk _ hc.2
    exact ⟨k, y, by omega, hy⟩
  | step _ hc ih =>
    obtain ⟨m, s', hm, hd⟩ := ih
    obtain ⟨k, rfl, hk⟩ := hd.kids
    obtain ⟨y, hy⟩ := hk _ hc.2
    exact ⟨k, y, by omega, hy⟩
theorem Dp.acyc {t : Tr} (n : Nat) : ∀ {f : Nat} {s : Int}, Dp t n f s → ¬ Rch t f f := by
  induction n using Nat.strongRecOn with
  | ind n ih =>
    intro f s h hr
    obtain ⟨m, s', hm, hd⟩ := h.rch hr
    exact ih m hm hd hr

theorem countP_lt {p q : Nat → Bool} : ∀ {l : List Nat}, (∀ x ∈ l, p x = true → q x = true) → (∃ x ∈ l, q x = true ∧ p x = false) → l.countP p < l.countP q
  | [], _, ⟨x, hx, _⟩ => by cases hx
  | a :: r, h, ⟨x, hx, h1, h2⟩ => by
    have hle : ∀ l : List Nat, (∀ x ∈ l, p x = true → q x = true) → l.countP p ≤ l.countP q := fun l hl => List.countP_mono_left hl
    rw [List.countP_cons, List.countP_cons]
    rcases List.mem_cons.1 hx with rfl | hx
    · have := hle r (fun y hy => h y (by simp [hy]))
      rw [h1, h2]
      simp
      omega
    · have := countP_lt (l := r) (fun y hy => h y (by simp [hy])) ⟨x, hx, h1, h2⟩
      have hh := h a (by simp)
      cases hp : p a with
      | true => rw [hh hp]; simp; omega
      | false => cases hq : q a <;> simp <;> omega
open Classical in
/-- How many functions one comes to, with itself. -/
def rkF (t : Tr) (f : Nat) : Nat := (List.range t.funcs.length).countP (fun x => @decide (x = f ∨ Rch t f x) (pd _))
theorem Rch.trans {t : Tr} {a b c : Nat} (h : Rch t a b) (h' : Rch t b c) : Rch t a c := by
  induction h' using Rch.ind with
  | one h1 => exact .step h h1
  | step _ h1 ih => exact .step ih h1
open Classical in
theorem rk_call {t : Tr} {f c : Nat} (h : CallR t f c) (ha : ¬ Rch t f f) : rkF t c < rkF t f := by
  unfold rkF
  refine countP_lt (fun x _ hx => ?_) ⟨f, List.mem_range.2 h.1, by simp, ?_⟩
  · rw [@decide_eq_true_iff _ (pd _)] at hx ⊢
    rcases hx with rfl | hx
    · exact .inr (.one h)
    · exact .inr ((Rch.one h).trans hx)
  · rw [@decide_eq_false_iff_not _ (pd _)]
    rintro (h1 | h1)
    · subst h1
      exact ha (.one h)
    · exact ha ((Rch.one h).trans h1)
/-- Where nothing is called in a circle from m on. -/
def Acyc (t : Tr) (m : Nat) : Prop := ∀ x, (x = m ∨ Rch t m x) → ¬ Rch t x x
theorem dp_exists {t : Tr} {m : Nat} (hm : m < t.funcs.length) (ha : Acyc t m) : ∀ (k f : Nat), (f = m ∨ Rch t m f) → rkF t f ≤ k → ∃ s, Dp t k f s := by
  intro k
  induction k with
  | zero =>
    intro f hf hk
    have hlt : f < t.funcs.length := by rcases hf with rfl | h; exact hm; exact h.lt
    have : 0 < rkF t f := by
      unfold rkF
      rw [List.countP_pos_iff]
      exact ⟨f, List.mem_range.2 hlt, by simp⟩
    omega
  | succ k ih =>
    intro f hf hk
    have hlt : f < t.funcs.length := by rcases hf with rfl | h; exact hm; exact h.lt
    have h0 : ∀ c, ∃ x, c ∈ clF t f → Dp t k c x := by
      intro c
      by_cases hc : c ∈ clF t f
      · have hcr : CallR t f c := ⟨hlt, hc⟩
        have hlive : c = m ∨ Rch t m c := by
          rcases hf with rfl | h
          · exact .inr (.one hcr)
          · exact .inr (.step h hcr)
        obtain ⟨x, hx⟩ := ih c hlive (by have := rk_call hcr (ha f hf); omega)
        exact ⟨x, fun _ => hx⟩
      · exact ⟨0, fun h => absurd h hc⟩
    exact ⟨_, .mk k f (fun c => (h0 c).choose) hlt (fun c hc => (h0 c).choose_spec hc)⟩
theorem nodup_len : ∀ (l l' : List Nat), l.Nodup → (∀ x ∈ l, x ∈ l') → l.length ≤ l'.length
  | [], _, _, _ => by simp
  | a :: r, l', hn, hs => by
    have ha := hs a (by simp)
    have hn' := List.nodup_cons.1 hn
    have := nodup_len r (l'.erase a) hn'.2 (fun x hx => (List.mem_erase_of_ne (by rintro rfl; exact hn'.1 hx)).2 (hs x (by simp [hx])))
    rw [List.length_erase_of_mem ha] at this
    have hp : 0 < l'.length := List.length_pos_of_mem ha
    simp only [List.length_cons]
    omega
open Classical in
theorem rk_le {t : Tr} {m f : Nat} {live : List Nat} (hf : f = m ∨ Rch t m f) (hl : ∀ x, (x = m ∨ Rch t m x) → x ∈ live) : rkF t f ≤ live.length := by
  unfold rkF
  rw [List.countP_eq_length_filter]
  refine nodup_len _ _ (List.nodup_range.filter _) (fun x hx => hl x ?_)
  have := (List.mem_filter.1 hx).2
  rw [@decide_eq_true_iff _ (pd _)] at this
  rcases this with rfl | h
  · exact hf
  · rcases hf with rfl | h1
    · exact .inr h
    · exact .inr (h1.trans h)
open Classical in
theorem rk_all (t : Tr) (f : Nat) : rkF t f ≤ t.funcs.length := by
  unfold rkF
  have := List.countP_le_length (p := fun x => @decide (x = f ∨ Rch t f x) (pd _)) (l := List.range t.funcs.length)
  simpa using this
theorem circE_acyc {t : Tr} {m : Nat} : ∀ (n i : Nat), (circE t m i n).1 = 0 → ∀ x, i ≤ x → x < i + n → (x = m ∨ Rch t m x) → ¬ Rch t x x
  | 0, i, _, x, h1, h2, _ => by omega
  | n + 1, i, h, x, h1, h2, hx => by
    rw [circE] at h
    by_cases hz : (i = m ∨ Rch t m i) ∧ Rch t i i
    · rw [if_pos hz] at h; simp at h
    · rw [if_neg hz] at h
      by_cases e : x = i
      · subst e; exact fun hr => hz ⟨hx, hr⟩
      · exact circE_acyc n (i + 1) h x (by omega) (by omega) hx

end Go.Proofs.YtefnijmgdcfhiaaGreatDoor

namespace Go.Proofs.YtefnijmgdcfhiaaGreatDoor
open Go.RowKit
set_option linter.unusedVariables false
set_option linter.unusedSimpArgs false

/-- The sums that were found. -/
structure FndIs (t : Tr) (D : DataW Unit) (ks : List Nat) : Prop where
  map : Maps.IsMap D
  nd : ks.Nodup
  lt : ∀ k ∈ ks, k < t.funcs.length
  has : ∀ k : Nat, Maps.has D (.int .i64 (k : Int)) = decide (k ∈ ks)
  val : ∀ k ∈ ks, ∃ n s, Dp t n k s ∧ D.atKey (.int .i64 (k : Int)) (.lit (.int .i64 0)) = .lit (.int .i64 s)
theorem FndIs.nil (t : Tr) : FndIs t (.map []) [] := ⟨Maps.isMap_empty, List.nodup_nil, by simp, fun k => by simp [Maps.has], by simp⟩
theorem FndIs.len {t : Tr} {D : DataW Unit} {ks : List Nat} (h : FndIs t D ks) : ks.length ≤ t.funcs.length := by
  have := nodup_len ks (List.range t.funcs.length) h.nd (fun x hx => List.mem_range.2 (h.lt x hx))
  simpa using this
theorem FndIs.put {t : Tr} {D : DataW Unit} {ks : List Nat} (h : FndIs t D ks) {n f : Nat} {s : Int} (hd : Dp t n f s) (hf : f ∉ ks) : FndIs t (D.put (.int .i64 (f : Int)) (.lit (.int .i64 s))) (ks ++ [f]) := by
  have hne : ∀ k : Nat, k ≠ f → (Lit.int .i64 (k : Int)) ≠ (Lit.int .i64 (f : Int)) := fun k hk e => by
    injection e with _ e
    exact hk (by omega)
  refine ⟨h.map.put _ _, ?_, ?_, fun k => ?_, fun k hk => ?_⟩
  · rw [List.nodup_append]
    exact ⟨h.nd, by simp, fun a ha b hb e => by simp at hb; subst hb; subst e; exact hf ha⟩
  · intro k hk
    rcases List.mem_append.1 hk with hk | hk
    · exact h.lt k hk
    · simp at hk; subst hk; exact hd.lt
  · by_cases e : k = f
    · subst e
      rw [Maps.has_put_same (k := .int .i64 (k : Int)) h.map trivial]
      simp
    · rw [Maps.has_put_other (hne k e), h.has k]
      simp [e]
  · by_cases e : k = f
    · subst e
      exact ⟨n, s, hd, Maps.atKey_put_same (k := .int .i64 (k : Int)) h.map trivial _ _⟩
    · have hk' : k ∈ ks := by
        rcases List.mem_append.1 hk with hk | hk
        · exact hk
        · simp at hk; exact absurd hk e
      obtain ⟨n', s', h1, h2⟩ := h.val k hk'
      exact ⟨n', s', h1, by rw [Maps.atKey_put_other (hne k e)]; exact h2⟩
theorem look_fnd {W : World} {b nn : Nat} {t : Tr} {D : DataW Unit} {ks : List Nat} (hown : W.ownsMap Tryz.prog 2 (plainElem (H := Unit) Tryz.prog 2) b nn D) (hN : FndIs t D ks) {f n : Nat} {s : Int} (hf : f ≤ 1000000) (h : f ∈ ks) (hd : Dp t n f s) :
    (Instr.lookup 77 (.map (some b)) (.int .i64 (f : Int)) true).run Tryz.prog W = .ok (.tuple #[.int .i64 s, .bool true]) W := by
  obtain ⟨v, ps, hrun, hv⟩ := hown.look_ok (Maps.int_keyed Tryz.underlying2) Tryz.underlying77 (Tryz.zeroValue2 _) (plainElem_int Tryz.underlying2 (by decide)) (Maps.keyOf_int_mk Tryz.underlying2 (WalkArith.wf_i64 (n := (f : Int)) (by omega)))
  obtain ⟨n', s', h1, h2⟩ := hN.val f h
  rw [h2] at hv
  obtain ⟨c, rfl, hc, _⟩ := plainElem_int_inv Tryz.underlying2 hv
  simp only [Prod.mk.injEq, DataW.lit.injEq, Lit.int.injEq, true_and] at hc
  obtain ⟨hc, -⟩ := hc
  subst hc
  rw [hN.has f, decide_eq_true h, h1.one hd] at hrun
  exact hrun
theorem look_new {W : World} {b nn : Nat} {t : Tr} {D : DataW Unit} {ks : List Nat} (hown : W.ownsMap Tryz.prog 2 (plainElem (H := Unit) Tryz.prog 2) b nn D) (hN : FndIs t D ks) {f : Nat} (hf : f ≤ 1000000) (h : f ∉ ks) :
    (Instr.lookup 77 (.map (some b)) (.int .i64 (f : Int)) true).run Tryz.prog W = .ok (.tuple #[.int .i64 0, .bool false]) W := by
  obtain ⟨v, ps, hrun, hv⟩ := hown.look_ok (Maps.int_keyed Tryz.underlying2) Tryz.underlying77 (Tryz.zeroValue2 _) (plainElem_int Tryz.underlying2 (by decide)) (Maps.keyOf_int_mk Tryz.underlying2 (WalkArith.wf_i64 (n := (f : Int)) (by omega)))
  have hh := hN.has f
  rw [decide_eq_false h] at hh
  rw [Maps.atKey_of_not_has hh] at hv
  obtain ⟨c, rfl, hc, _⟩ := plainElem_int_inv Tryz.underlying2 hv
  simp only [Prod.mk.injEq, DataW.lit.injEq, Lit.int.injEq, true_and] at hc
  obtain ⟨hc, -⟩ := hc
  subst hc
  rw [hh] at hrun
  exact hrun

def deepE (t : Tr) (f : Nat) : Int := eps 0 (fun s => ∃ n, Dp t n f s)
theorem Dp.deep {t : Tr} {n f : Nat} {s : Int} (h : Dp t n f s) : deepE t f = s := by
  obtain ⟨m, hm⟩ := eps_spec (d := 0) (p := fun s => ∃ n, Dp t n f s) ⟨s, n, h⟩
  exact hm.one h
open Classical in
/-- What Bound answers. -/
def boundE (t : Tr) : Int := if (checkE t).1 = 0 ∧ ∀ x ∈ framesL t, x ≤ 2032 then deepE t ((fnum t.funcs mainS).getD 0) else -1
/-- A sound tree has a main, from which nothing is called in a circle. -/
theorem sound_main {t : Tr} (h : (checkE t).1 = 0) : ∃ m, fnum t.funcs mainS = some m ∧ m < t.funcs.length ∧ Acyc t m := by
  have hb := (sound_nodup h).1
  by_cases hn : (namesE t).1 = 0
  · obtain ⟨m, hm⟩ := names_ok_main hn
    have hlt : m < t.funcs.length := fnum_lt hm
    refine ⟨m, hm, hlt, ?_⟩
    by_cases hz : (bodiesE t 0 t.funcs).1 = 0
    · rw [check_circ hb hn hz hm] at h
      intro x hx
      have hxl : x < t.funcs.length := by rcases hx with rfl | hx; exact hlt; exact hx.lt
      exact circE_acyc t.funcs.length 0 h x (Nat.zero_le _) (by omega) hx
    · rw [check_bodies hb hn hz] at h; exact absurd h hz
  · rw [check_names hb hn] at h; exact absurd h hn
theorem sound_dp {t : Tr} (h : (checkE t).1 = 0) {m : Nat} (hm : fnum t.funcs mainS = some m) (hl : m < t.funcs.length) (ha : Acyc t m) : ∃ s, Dp t t.funcs.length m s := dp_exists hl ha t.funcs.length m (.inl rfl) (rk_all t m)

end Go.Proofs.YtefnijmgdcfhiaaGreatDoor

namespace Go.Proofs.YtefnijmgdcfhiaaGreatDoor
set_option linter.unusedVariables false
set_option linter.unusedSimpArgs false

/-- The functions that main comes to. -/
def LiveS (t : Tr) (m x : Nat) : Prop := x = m ∨ Rch t m x
theorem LiveS.call {t : Tr} {m f c : Nat} (h : LiveS t m f) (hl : f < t.funcs.length) (hc : c ∈ clF t f) : LiveS t m c := by
  have hcr : CallR t f c := ⟨hl, hc⟩
  rcases h with rfl | h
  · exact .inr (.one hcr)
  · exact .inr (.step h hcr)
theorem foldl_max_mono : ∀ (l : List Nat) (g h : Nat → Int) (p q : Int), p ≤ q → (∀ c ∈ l, g c ≤ h c) → (l.map g).foldl max p ≤ (l.map h).foldl max q
  | [], _, _, _, _, hp, _ => hp
  | a :: r, g, h, p, q, hp, hl => foldl_max_mono r g h (max p (g a)) (max q (h a)) (by have := hl a (by simp); omega) (fun c hc => hl c (by simp [hc]))
theorem mxL_mono {l : List Nat} {g h : Nat → Int} (hl : ∀ c ∈ l, g c ≤ h c) : mxL (l.map g) ≤ mxL (l.map h) := foldl_max_mono l g h 0 0 (Int.le_refl _) hl
/-- The sums after r rounds. -/
structure SumI (t : Tr) (m r : Nat) (S : Nat → Int) : Prop where
  bd : ∀ f, LiveS t m f → 0 ≤ S f ∧ S f ≤ deepE t f
  ok : ∀ f, LiveS t m f → ∀ s, Dp t r f s → S f = s
/-- The same within a round. -/
structure SumK (t : Tr) (m r : Nat) (done : List Nat) (S : Nat → Int) : Prop extends SumI t m r S where
  up : ∀ f ∈ done, ∀ s, Dp t (r + 1) f s → S f = s
def updS (S : Nat → Int) (f : Nat) (v : Int) : Nat → Int := fun x => if x = f then v else S x
theorem SumI.zero {t : Tr} {m : Nat} (hz : ∀ f, f < t.funcs.length → 0 ≤ fszF t f ∧ fszF t f ≤ 1000000) (hD : ∀ f, LiveS t m f → ∃ n s, Dp t n f s) : SumI t m 0 (fun _ => 0) := by
  refine ⟨fun f hf => ?_, fun f hf s hs => by cases hs using Dp.ind⟩
  obtain ⟨n, s, h⟩ := hD f hf
  rw [h.deep]
  exact ⟨Int.le_refl _, (h.bd hz).1⟩
theorem SumI.start {t : Tr} {m r : Nat} {S : Nat → Int} (h : SumI t m r S) : SumK t m r [] S := ⟨h, by simp⟩
theorem deep_eq {t : Tr} {n f : Nat} {s : Int} (h : Dp t n f s) : deepE t f = fszF t f + mxL ((clF t f).map (deepE t)) := by
  obtain ⟨k, rfl, hk⟩ := h.kids
  rw [h.deep]
  exact h.sums (deepE t) (fun c hc x hx => hx.deep)
theorem SumK.step {t : Tr} {m r : Nat} {done : List Nat} {S : Nat → Int} (h : SumK t m r done S) (hz : ∀ f, f < t.funcs.length → 0 ≤ fszF t f ∧ fszF t f ≤ 1000000) (hD : ∀ f, LiveS t m f → ∃ n s, Dp t n f s) {f : Nat} (hf : LiveS t m f) (hl : f < t.funcs.length) :
    SumK t m r (done ++ [f]) (updS S f (mxL ((clF t f).map S) + fszF t f)) := by
  have key : ∀ s, Dp t (r + 1) f s → mxL ((clF t f).map S) + fszF t f = s := fun s hs => by
    have := hs.sums S (fun c hc x hx => h.ok c (hf.call hl hc) x hx)
    omega
  refine ⟨⟨fun g hg => ?_, fun g hg s hs => ?_⟩, fun g hg s hs => ?_⟩
  · unfold updS
    split
    · rename_i e
      subst e
      obtain ⟨n, s, hd⟩ := hD g hg
      rw [deep_eq hd]
      have h1 : mxL ((clF t g).map S) ≤ mxL ((clF t g).map (deepE t)) := mxL_mono (fun c hc => (h.bd c (hg.call hl hc)).2)
      have h2 : 0 ≤ mxL ((clF t g).map S) := foldl_max_ge _ 0
      have h3 := hz g hl
      omega
    · exact h.bd g hg
  · unfold updS
    split
    · rename_i e
      subst e
      exact key s (hs.more _ (by omega))
    · exact h.ok g hg s hs
  · unfold updS
    split
    · rename_i e
      subst e
      exact key s hs
    · rename_i e
      rcases List.mem_append.1 hg with hg | hg
      · exact h.up g hg s hs
      · simp at hg; exact absurd hg e
theorem SumK.next {t : Tr} {m r : Nat} {live : List Nat} {S : Nat → Int} (h : SumK t m r live S) (hl : ∀ x, LiveS t m x → x ∈ live) : SumI t m (r + 1) S := ⟨h.bd, fun f hf s hs => h.up f (hl f hf) s hs⟩
theorem deep_bd {t : Tr} {m : Nat} (hz : ∀ f, f < t.funcs.length → 0 ≤ fszF t f ∧ fszF t f ≤ 1000000) (hm : m < t.funcs.length) (ha : Acyc t m) {f : Nat} (hf : LiveS t m f) : ∃ s, Dp t t.funcs.length f s ∧ deepE t f = s ∧ 0 ≤ s ∧ s ≤ 1000000 * t.funcs.length := by
  obtain ⟨s, hs⟩ := dp_exists hm ha t.funcs.length f hf (rk_all t f)
  have := hs.bd hz
  exact ⟨s, hs, hs.deep, this.1, this.2⟩

end Go.Proofs.YtefnijmgdcfhiaaGreatDoor
