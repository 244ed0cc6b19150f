import Derived.Test.YtpdndlghjldhjaaGreatM43
import Derived.Test.YtpdndlghjldhjaaGreatM27
import Derived.Laws.EntriesVeiled
import Derived.Deep.RegionHeld3
import Derived.Test.YtpdndlghjldhjaaGreatM47
set_option linter.unusedSectionVars false
variable [Inhabited Go.Proofs.YtpdndlghjldhjaaGreat.Pick]
namespace Go.Proofs.YtpdndlghjldhjaaGreat
set_option linter.unusedVariables false
set_option linter.unusedSimpArgs false
set_option maxRecDepth 100000
set_option maxHeartbeats 16000000
section
open Go.RowKit
end
section
open Go.RowKit
end
section
theorem sound_tr {t : Tr} (h : (checkE t).1 = 0) : treeB t = true := by
 cases hb : treeB t with
 | true => rfl
 | false => rw [check_tree hb] at h; cases h
theorem sound_main {t : Tr} (h : (checkE t).1 = 0) : ∃ m, fnum t.funcs mainS = some m ∧ m < t.funcs.length ∧ Acyc t m := by
 have hb := sound_tr h
 by_cases hn : (namesE t).1 = 0
 ·obtain ⟨m, hm⟩ := names_ok_main hn
  have hlt : m < t.funcs.length := fnum_lt hm
  refine ⟨m, hm, hlt, ?_⟩
  by_cases hz : (bodiesE t 0 t.funcs).1 = 0
  ·rw [check_circ hb hn hz hm] at h
   intro x hx
   have hxl : x < t.funcs.length := by rcases hx with rfl | hx; exact hlt; exact hx.lt
   exact circE_acyc t.funcs.length 0 h x (Nat.zero_le _) (by omega) hx
  ·rw [check_bodies hb hn hz] at h; exact absurd h hz
 ·rw [check_names hb hn] at h; exact absurd h hn
end
section
open Go.RowKit
def FRow (B : Nat) (w : World) (v : Value) (l : List Int) : Prop := w.ownsRow B 2 1 v l.length (l.map (Value.int .i64))
theorem FRow.below {B : Nat} {w w' : World} {v : Value} {l : List Int} (h : FRow B w v l) (hb : Below w.heap.size w w') : FRow B w' v l := ownb_below h hb
theorem FRow.shape {B : Nat} {w : World} {v : Value} {l : List Int} (h : FRow B w v l) : ∃ a c, v = .slice a l.length c := by
 rcases h.2 with ⟨rfl, hz⟩ | ⟨g, cap, cur, rfl, _⟩
 ·exact ⟨none, 0, by rw [hz]⟩
 ·exact ⟨_, cap, rfl⟩
theorem frow_lit (W : World) (B : Nat) (hB : B ≤ W.heap.size) : FRow B (W.alloc (.cells #[] 2)) (.slice (some ⟨W.heap.size, 0, none⟩) 0 0) [] := World.ownsRow_lit W #[] 0 hB (by decide) rfl
theorem wpList_appI {w : World} {ops : Array Oper} {rest : List Oper} {o : Oper} {a : Act} {Q : Exit → Act → World → Prop} (hgd : o.guard = none) (s x : Operand)
  (ho : o.op = .call { callee := .builtin .append, args := #[s, x], argTypes := #[27, 27] })
  (B : Nat) (v : Value) (l : List Int) (z : Int) (hs : a.eval s = v) (hown : FRow B w v l) (b c : Nat) (hx : a.eval x = .slice (some ⟨b, 0, none⟩) 1 c) (hz : w.cell? ⟨b, 0, none⟩ = some (.int .i64 z))
  (hm : l.length ≤ 1000000) (hbase : B ≤ w.heap.size)
  (h : ∀ v' w', FRow B w' v' (l ++ [z]) → w.grownBy w' v.ownBlock → wpList Tryz.prog ops Q rest (a.put o.dst v') w') : wpList Tryz.prog ops Q (o :: rest) a w := by
 obtain ⟨i1, hj, hy0, hy1, hy2⟩ := info_parts info_i64
 refine wpList_appF hgd s x _ ho B 2 i1 _ 1 8 Tryz.underlying27 hj hy0 hy1 hy2 rfl (by decide) v l.length (l.map (Value.int .i64)) hs hown ⟨b, 0, none⟩ 1 c [.int .i64 z] hx rfl ?_ (by simp [Value.oneCell']) (by omega) (by decide) hbase fun v' w' h1 h2 h3 => h v' w' ?_ h2
 ·intro j u hj
  have hl : j = 0 := by
   have := (List.getElem?_eq_some_iff.1 hj).1
   simp at this
   omega
  subst hl
  simp at hj
  rw [← hj]
  simpa [Addr.add] using hz
 ·unfold FRow
  rw [List.length_append, List.map_append]
  exact h1
end
section
open Go.RowKit
def deepE (t : Tr) (f : Nat) : Int := eps 0 (fun s => ∃ n, Dp t n f s)
theorem Dp.deep {t : Tr} {n f : Nat} {s : Int} (h : Dp t n f s) : deepE t f = s := by
  obtain ⟨m, hm⟩ := eps_spec (d := 0) (p := fun s => ∃ n, Dp t n f s) ⟨s, n, h⟩
  exact hm.one h
open Classical in
def boundE (t : Tr) : Int := if (checkE t).1 = 0 ∧ ∀ x ∈ framesL t, x ≤ 2032 then deepE t ((fnum t.funcs mainS).getD 0) else -1
end
section
def LiveS (t : Tr) (m x : Nat) : Prop := x = m ∨ Rch t m x
theorem LiveS.call {t : Tr} {m f c : Nat} (h : LiveS t m f) (hl : f < t.funcs.length) (hc : c ∈ clF t f) : LiveS t m c := by
 have hcr : CallR t f c := ⟨hl, hc⟩
 rcases h with rfl | h
 ·exact .inr (.one hcr)
 ·exact .inr (.step h hcr)
theorem foldl_max_mono : ∀ (l : List Nat) (g h : Nat → Int) (p q : Int), p ≤ q → (∀ c ∈ l, g c ≤ h c) → (l.map g).foldl max p ≤ (l.map h).foldl max q
 | [], _, _, _, _, hp, _ => hp
 | a :: r, g, h, p, q, hp, hl => foldl_max_mono r g h (max p (g a)) (max q (h a)) (by have := hl a (by simp); omega) (fun c hc => hl c (by simp [hc]))
theorem mxL_mono {l : List Nat} {g h : Nat → Int} (hl : ∀ c ∈ l, g c ≤ h c) : mxL (l.map g) ≤ mxL (l.map h) := foldl_max_mono l g h 0 0 (Int.le_refl _) hl
structure SumI (t : Tr) (m r : Nat) (S : Nat → Int) : Prop where
 bd : ∀ f, LiveS t m f → 0 ≤ S f ∧ S f ≤ deepE t f
 ok : ∀ f, LiveS t m f → ∀ s, Dp t r f s → S f = s
structure SumK (t : Tr) (m r : Nat) (done : List Nat) (S : Nat → Int) : Prop extends SumI t m r S where
 up : ∀ f ∈ done, ∀ s, Dp t (r + 1) f s → S f = s
def updS (S : Nat → Int) (f : Nat) (v : Int) : Nat → Int := fun x => if x = f then v else S x
theorem SumI.zero {t : Tr} {m : Nat} (hz : ∀ f, f < t.funcs.length → 0 ≤ fszF t f ∧ fszF t f ≤ 1000000) (hD : ∀ f, LiveS t m f → ∃ n s, Dp t n f s) : SumI t m 0 (fun _ => 0) := by
 refine ⟨fun f hf => ?_, fun f hf s hs => by cases hs using Dp_i⟩
 obtain ⟨n, s, h⟩ := hD f hf
 rw [h.deep]
 exact ⟨Int.le_refl _, (h.bd hz).1⟩
theorem SumI.start {t : Tr} {m r : Nat} {S : Nat → Int} (h : SumI t m r S) : SumK t m r [] S := ⟨h, by simp⟩
theorem deep_eq {t : Tr} {n f : Nat} {s : Int} (h : Dp t n f s) : deepE t f = fszF t f + mxL ((clF t f).map (deepE t)) := by
 obtain ⟨k, rfl, hk⟩ := h.kids
 rw [h.deep]
 exact h.sums (deepE t) (fun c hc x hx => hx.deep)
theorem SumK.step {t : Tr} {m r : Nat} {done : List Nat} {S : Nat → Int} (h : SumK t m r done S) (hz : ∀ f, f < t.funcs.length → 0 ≤ fszF t f ∧ fszF t f ≤ 1000000) (hD : ∀ f, LiveS t m f → ∃ n s, Dp t n f s) {f : Nat} (hf : LiveS t m f) (hl : f < t.funcs.length) :
  SumK t m r (done ++ [f]) (updS S f (mxL ((clF t f).map S) + fszF t f)) := by
 have key : ∀ s, Dp t (r + 1) f s → mxL ((clF t f).map S) + fszF t f = s := fun s hs => by
  have := hs.sums S (fun c hc x hx => h.ok c (hf.call hl hc) x hx)
  omega
 refine ⟨⟨fun g hg => ?_, fun g hg s hs => ?_⟩, fun g hg s hs => ?_⟩
 ·unfold updS
  split
  ·rename_i e
   subst e
   obtain ⟨n, s, hd⟩ := hD g hg
   rw [deep_eq hd]
   have h1 : mxL ((clF t g).map S) ≤ mxL ((clF t g).map (deepE t)) := mxL_mono (fun c hc => (h.bd c (hg.call hl hc)).2)
   have h2 : 0 ≤ mxL ((clF t g).map S) := foldl_max_ge _ 0
   have h3 := hz g hl
   omega
  ·exact h.bd g hg
 ·unfold updS
  split
  ·rename_i e
   subst e
   exact key s (hs.more _ (by omega))
  ·exact h.ok g hg s hs
 ·unfold updS
  split
  ·rename_i e
   subst e
   exact key s hs
  ·rename_i e
   rcases List.mem_append.1 hg with hg | hg
   ·exact h.up g hg s hs
   ·simp at hg; exact absurd hg e
theorem SumK.next {t : Tr} {m r : Nat} {live : List Nat} {S : Nat → Int} (h : SumK t m r live S) (hl : ∀ x, LiveS t m x → x ∈ live) : SumI t m (r + 1) S := ⟨h.bd, fun f hf s hs => h.up f (hl f hf) s hs⟩
theorem deep_bd {t : Tr} {m : Nat} (hz : ∀ f, f < t.funcs.length → 0 ≤ fszF t f ∧ fszF t f ≤ 1000000) (hm : m < t.funcs.length) (ha : Acyc t m) {f : Nat} (hf : LiveS t m f) : ∃ s, Dp t t.funcs.length f s ∧ deepE t f = s ∧ 0 ≤ s ∧ s ≤ 1000000 * t.funcs.length := by
 obtain ⟨s, hs⟩ := dp_exists hm ha t.funcs.length f hf (rk_all t f)
 have := hs.bd hz
 exact ⟨s, hs, hs.deep, this.1, this.2⟩
end
section
open Go.RowKit
theorem boundE_no {t : Tr} (h : (checkE t).1 ≠ 0) : boundE t = -1 := by unfold boundE; rw [if_neg (fun h' => h h'.1)]
theorem boundE_big {t : Tr} (h : ∃ x ∈ framesL t, 2032 < x) : boundE t = -1 := by
 obtain ⟨x, hx, hb⟩ := h
 unfold boundE
 rw [if_neg (fun h' => by have := h'.2 x hx; omega)]
theorem boundE_yes {t : Tr} (h : (checkE t).1 = 0) (hb : ∀ x ∈ framesL t, x ≤ 2032) {m : Nat} (hm : fnum t.funcs mainS = some m) : boundE t = deepE t m := by
 unfold boundE
 rw [if_pos ⟨h, hb⟩, hm]
 rfl
end
section
open Classical in
def genE (t : Tr) : List It := if boundE t < 0 then [] else (codeT t t.funcs.length t.funcs.length).1
end
end Go.Proofs.YtpdndlghjldhjaaGreat
