import Derived.Test.YtpdndlghjldhjaaGreatM08
import Derived.Test.YtpdndlghjldhjaaGreatM46
import Derived.RegionTactic
import Derived.Deep.RegionHeld3
import Derived.Laws.AppendOwn
import Derived.Laws.NewBlocks
set_option linter.unusedSectionVars false
variable [Inhabited Go.Proofs.YtpdndlghjldhjaaGreat.Pick]
namespace Go.Proofs.YtpdndlghjldhjaaGreat
set_option linter.unusedVariables false
set_option linter.unusedSimpArgs false
set_option maxRecDepth 100000
set_option maxHeartbeats 16000000
section
open Go.RowKit
end
section
open Go.RowKit
theorem plE_bd {e : List Nd} (h : okE e) {d p : Int} (hd : 0 ≤ d) (hd1 : d ≤ 1) (hp : 0 ≤ p ∧ p ≤ 14001) : 0 ≤ plE e d p ∧ plE e d p ≤ 14001 := by
 unfold plE
 split
 ·exact hp
 ·have := needL_bd h (by omega) d
  omega
theorem places_bd (body : List St) (hok : ∀ s ∈ body, okE s.e ∧ okE s.f) : 0 ≤ places body ∧ places body ≤ 14001 := by
 unfold places
 have : ∀ (l : List St) (p : Int), (∀ s ∈ l, okE s.e ∧ okE s.f) → 0 ≤ p ∧ p ≤ 14001 → 0 ≤ l.foldl (fun p s => plU s 2 p) p ∧ l.foldl (fun p s => plU s 2 p) p ≤ 14001 := by
  intro l
  induction l with
  | nil => intro p _ hp; exact hp
  | cons s l ih =>
   intro p h hp
   refine ih _ (fun s hs => h s (by simp [hs])) ?_
   have h2 := h s (by simp)
   simp only [plU]
   exact plE_bd h2.2 (by omega) (by omega) (plE_bd h2.1 (by omega) (by omega) hp)
 exact this body 0 hok (by omega)
def declN (body : List St) : List ByteArray := (body.filter (fun s => decide (s.kind = 1))).map (·.name)
theorem declN_snoc (l : List St) (s : St) : declN (l ++ [s]) = if s.kind = 1 then declN l ++ [s.name] else declN l := by
 unfold declN; rw [List.filter_append]; by_cases h : s.kind = 1 <;> simp [h]
theorem declN_len (body : List St) : (declN body).length ≤ body.length := by
 unfold declN; rw [List.length_map]; exact List.length_filter_le _ _
end
section
theorem declN_append (a b : List St) : declN (a ++ b) = declN a ++ declN b := by simp [declN]
theorem declN_cons (s : St) (r : List St) : declN (s :: r) = (if s.kind = 1 then [s.name] else []) ++ declN r := by
 unfold declN; by_cases h : s.kind = 1 <;> simp [h]
theorem inS_mem {xs : List ByteArray} {s : ByteArray} (h : s ∈ xs) : inS xs s = true := by
 unfold inS; rw [List.any_eq_true]; exact ⟨s, h, decide_eq_true rfl⟩
theorem blkE_nodup (t : Tr) (N : Nat) : ∀ (ss : List St) (a : Int) (scope taken : List ByteArray), ss.length ≤ N → (blkE t ss a scope taken).1 = 0 → taken.Nodup → (blkE t ss a scope taken).2.2 = taken ++ declN ss ∧ (taken ++ declN ss).Nodup := by
 induction N with
 | zero =>
  intro ss a scope taken hl h hn
  cases ss with
  | nil => simp [blkE_nil0, blkE_cons, declN, hn]
  | cons s r => simp at hl
 | succ N ih =>
  intro ss a scope taken hl h hn
  cases ss with
  | nil => simp [blkE_nil0, blkE_cons, declN, hn]
  | cons s r =>
   simp only [List.length_cons] at hl
   rw [blkE_cons] at h ⊢
   by_cases h1 : stmtE t scope taken s ≠ 0
   ·rw [if_pos h1] at h; exact absurd h h1
   ·rw [if_neg h1] at h ⊢
    have hn1 : (if s.kind = 1 then taken ++ [s.name] else taken).Nodup := by
     split
     ·rename_i hk
      have hni : s.name ∉ taken := by
       intro hm
       apply h1
       unfold stmtE
       by_cases he : exprE t scope (s.e ++ s.f) ≠ 0
       ·rw [if_pos he]; exact he
       ·rw [if_neg he, if_pos hk, if_pos (.inl (inS_mem hm))]; decide
      rw [List.nodup_append]
      exact ⟨hn, by simp, fun x hx y hy => by simp at hy; subst hy; exact fun e => hni (e ▸ hx)⟩
     ·exact hn
    have e1 : (if s.kind = 1 then taken ++ [s.name] else taken) = taken ++ (if s.kind = 1 then [s.name] else []) := by split <;> simp
    generalize (if s.kind = 1 then scope ++ [s.name] else scope) = sc at h ⊢
    rw [e1] at h hn1 ⊢
    have ed : taken ++ declN (s :: r) = taken ++ (if s.kind = 1 then [s.name] else []) ++ declN (r.take s.thn.toNat) ++ declN ((r.drop s.thn.toNat).take s.els.toNat) ++ declN (r.drop (s.thn.toNat + s.els.toNat)) := by
     have er : r = r.take s.thn.toNat ++ ((r.drop s.thn.toNat).take s.els.toNat ++ r.drop (s.thn.toNat + s.els.toNat)) := by
      rw [← List.drop_drop, List.take_append_drop, List.take_append_drop]
     rw [declN_cons]
     conv => lhs; rw [er]
     rw [declN_append, declN_append]
     simp only [List.append_assoc]
    rw [ed]
    generalize taken ++ (if s.kind = 1 then [s.name] else []) = tk at h hn1 ⊢
    simp only at h ⊢
    by_cases hx : (blkE t (r.take s.thn.toNat) (a + 1) sc tk).1 ≠ 0
    ·rw [if_pos hx] at h; exact absurd h hx
    ·rw [if_neg hx] at h ⊢
     obtain ⟨x1, x2⟩ := ih (r.take s.thn.toNat) (a + 1) sc tk (by simp; omega) (by simpa using hx) hn1
     rw [x1] at h ⊢
     by_cases hy : (blkE t ((r.drop s.thn.toNat).take s.els.toNat) (a + 1 + s.thn) sc (tk ++ declN (r.take s.thn.toNat))).1 ≠ 0
     ·rw [if_pos hy] at h; exact absurd h hy
     ·rw [if_neg hy] at h ⊢
      obtain ⟨y1, y2⟩ := ih ((r.drop s.thn.toNat).take s.els.toNat) (a + 1 + s.thn) sc _ (by simp; omega) (by simpa using hy) x2
      rw [y1] at h ⊢
      exact ih (r.drop (s.thn.toNat + s.els.toNat)) _ sc _ (by simp; omega) h y2
theorem dupP_nodup (gs : List Gl) : ∀ (ps seen : List ByteArray), seen.Nodup → dupP gs seen ps = false → (seen ++ ps).Nodup
 | [], seen, hn, _ => by simpa using hn
 | p :: r, seen, hn, h => by
  unfold dupP at h
  by_cases hc : inS seen p = true ∨ 0 ≤ globI gs p
  ·rw [if_pos hc] at h; cases h
  ·rw [if_neg hc] at h
   have hni : p ∉ seen := fun hm => hc (.inl (inS_mem hm))
   have := dupP_nodup gs r (seen ++ [p]) (by
    rw [List.nodup_append]
    exact ⟨hn, by simp, fun x hx y hy => by simp at hy; subst hy; exact fun e => hni (e ▸ hx)⟩) h
   simpa using this
theorem bodyE_nodup {t : Tr} {i : Nat} {f : Fu} (h : (bodyE t i f).1 = 0) : (f.params ++ declN f.body).Nodup := by
 unfold bodyE at h
 by_cases hd : dupP t.globals [] f.params = true
 ·rw [if_pos hd] at h; cases h
 ·rw [if_neg hd] at h
  have h1 := dupP_nodup t.globals f.params [] List.nodup_nil (by simpa using hd)
  by_cases hb : (blkE t f.body 0 f.params f.params).1 ≠ 0
  ·rw [if_pos hb] at h; exact absurd h hb
  ·exact (blkE_nodup t f.body.length f.body 0 f.params f.params (Nat.le_refl _) (by simpa using hb) (by simpa using h1)).2
theorem bodiesE_nodup {t : Tr} : ∀ (fs : List Fu) (i : Nat), (bodiesE t i fs).1 = 0 → ∀ f ∈ fs, (f.params ++ declN f.body).Nodup
 | [], _, _ => fun f hf => by cases hf
 | g :: r, i, h => by
  unfold bodiesE at h
  by_cases hb : (bodyE t i g).1 ≠ 0
  ·rw [if_pos hb] at h; exact absurd h hb
  ·rw [if_neg hb] at h
   intro f hf
   rcases List.mem_cons.1 hf with rfl | hf
   ·exact bodyE_nodup (by simpa using hb)
   ·exact bodiesE_nodup r (i + 1) h f hf
theorem sound_nodup {t : Tr} (h : (checkE t).1 = 0) : treeB t = true ∧ ∀ f ∈ t.funcs, (f.params ++ declN f.body).Nodup := by
 unfold checkE at h
 by_cases h1 : treeB t = false
 ·rw [if_pos h1] at h; cases h
 ·rw [if_neg h1] at h
  by_cases h2 : (namesE t).1 ≠ 0
  ·rw [if_pos h2] at h; exact absurd h h2
  ·rw [if_neg h2] at h
   by_cases h3 : (bodiesE t 0 t.funcs).1 ≠ 0
   ·rw [if_pos h3] at h; exact absurd h h3
   ·exact ⟨by simpa using h1, bodiesE_nodup t.funcs 0 (by simpa using h3)⟩
end
section
def frameSz (f : Fu) : Int := (4 * ((f.params ++ declN f.body).length : Int) + 4 * (places f.body + 1) + 15) / 16 * 16
open Classical in
def framesL (t : Tr) : List Int := if (checkE t).1 = 0 then t.funcs.map frameSz else []
structure FrOk (f : Fu) : Prop where
 nd : (f.params ++ declN f.body).Nodup
 st : ∀ s ∈ f.body, okE s.e ∧ okE s.f
 sb : ∀ s ∈ f.body, 0 < s.e.length ∧ (s.kind = 3 → 0 < s.f.length) ∧ (s.kind ≠ 3 → s.f.length = 0)
 pl : f.params.length ≤ 1000
 bl : f.body.length ≤ 1000
 sz : ∀ s ∈ f.params ++ declN f.body, s.size ≤ maxLen
theorem nodeSum_mem {l : List St} {s : St} (h : s ∈ l) : s.e.length + s.f.length ≤ nodeSum l := by
 induction l with
 | nil => cases h
 | cons a r ih =>
  simp only [nodeSum]
  rcases List.mem_cons.1 h with rfl | h
  ·omega
  ·have := ih h; omega
theorem frOk {t : Tr} (h : (checkE t).1 = 0) (hw : wfT t) : t.funcs.length ≤ 50 ∧ ∀ f ∈ t.funcs, FrOk f := by
 obtain ⟨hb, hn⟩ := sound_nodup h
 unfold treeB at hb
 simp only [Bool.and_eq_true, decide_eq_true_iff, List.all_eq_true] at hb
 obtain ⟨h1, h2, h3, h4⟩ := hb
 refine ⟨h2, fun f hf => ?_⟩
 have hfb := h4 f hf
 have hwf := hw.2.2 f hf
 unfold funcB stmtsB at hfb
 simp only [Bool.and_eq_true, decide_eq_true_iff, List.all_eq_true] at hfb
 obtain ⟨-, hp, hl, -, ⟨hsum, hst⟩, -⟩ := hfb
 have hone : ∀ s ∈ f.body, oneB s.e = true ∧ (s.kind = 3 → oneB s.f = true) ∧ (s.kind ≠ 3 → s.f.length = 0) := by
  intro s hs
  have := hst s hs
  unfold stmtB at this
  simp only [Bool.and_eq_true] at this
  obtain ⟨⟨⟨⟨⟨-, hoe⟩, hof⟩, -⟩, -⟩, -⟩ := this
  refine ⟨hoe, fun h => ?_, fun h => ?_⟩
  ·rw [if_pos h] at hof; exact hof
  ·rw [if_neg h] at hof; simpa using hof
 refine ⟨hn f hf, fun s hs => ?_, fun s hs => ?_, by omega, by omega, fun s hs => ?_⟩
 ·have hle := nodeSum_mem hs
  obtain ⟨h5, h6, h7⟩ := hone s hs
  refine ⟨⟨by omega, fun _ => h5⟩, by omega, fun hp => ?_⟩
  by_cases h3 : s.kind = 3
  ·exact h6 h3
  ·have := h7 h3; omega
 ·obtain ⟨h5, h6, h7⟩ := hone s hs
  exact ⟨oneB_pos h5, fun h3 => oneB_pos (h6 h3), h7⟩
 ·unfold maxLen
  rcases List.mem_append.1 hs with hs | hs
  ·have := hwf.2.1.2 s hs; omega
  ·unfold declN at hs
   obtain ⟨x, hx, rfl⟩ := List.mem_map.1 hs
   have := (hwf.2.2.2 x (List.mem_filter.1 hx).1).1
   omega
theorem framesL_yes {t : Tr} (h : (checkE t).1 = 0) : framesL t = t.funcs.map frameSz := by unfold framesL; rw [if_pos h]
theorem framesL_no {t : Tr} (h : (checkE t).1 ≠ 0) : framesL t = [] := by unfold framesL; rw [if_neg h]
theorem framesL_len (t : Tr) : (framesL t).length ≤ t.funcs.length := by
 unfold framesL
 split <;> simp
theorem frameSz_bd {f : Fu} (h : FrOk f) : 0 ≤ frameSz f ∧ frameSz f ≤ 1000000 := by
 have h1 := places_bd f.body h.st
 have h2 := declN_len f.body
 have h3 := h.pl
 have h4 := h.bl
 unfold frameSz
 have : (f.params ++ declN f.body).length = f.params.length + (declN f.body).length := by simp
 rw [this]
 omega
theorem plU_spec {s : St} (h : 0 < s.e.length ∧ (s.kind = 3 → 0 < s.f.length) ∧ (s.kind ≠ 3 → s.f.length = 0)) (p : Int) : plU s 2 p = if s.kind = 3 then max (max p (needL s.e 0)) (needL s.f 1) else max p (needL s.e 0) := by
 obtain ⟨h1, h2, h3⟩ := h
 simp only [plU]
 unfold plE
 by_cases hk : s.kind = 3
 ·have := h2 hk
  simp [hk, show s.e.length ≠ 0 by omega, show s.f.length ≠ 0 by omega]
 ·have := h3 hk
  have hf : s.f = [] := List.eq_nil_of_length_eq_zero this
  simp [hk, hf]
  intro h; rw [h] at h1; simp at h1
end
section
def clF (t:Tr) (f:Nat):List Nat:=callsL t.funcs (t.funcs.getD f ⟨⟨#[]⟩,[],[]⟩).body
def fszF (t:Tr) (f:Nat):Int:=frameSz (t.funcs.getD f ⟨⟨#[]⟩,[],[]⟩)
def mxL (l:List Int):Int:=l.foldl max 0
theorem mxL_snoc (l:List Int) (x:Int):mxL (l++[x])=max (mxL l) x:=by simp [mxL]
theorem foldl_max_ge (l:List Int) : ∀p:Int,p<=l.foldl max p:=by
 induction l with
 | nil=>intro p;exact Int.le_refl _
 | cons x r ih=>intro p;exact Int.le_trans (Int.le_max_left p x) (ih (max p x))
theorem foldl_max_le (l:List Int) (M:Int) : ∀p:Int,p<=M->(∀x∈l,x<=M)->l.foldl max p<=M:=by
 induction l with
 | nil=>intro p hp _;exact hp
 | cons x r ih=>intro p hp h;exact ih (max p x) (Int.max_le.2 ⟨hp,h x (by simp)⟩) (fun y hy=>h y (by simp [hy]))
theorem mxL_bd (l:List Int) (M:Int) (hM:0<=M) (h : ∀x∈l,x<=M):0<=mxL l/\mxL l<=M:=⟨foldl_max_ge l 0,foldl_max_le l M 0 hM h⟩
structure DpC (t:Tr)(P:Nat→Nat→Int→Prop):Prop where
 c_::
 mk(n f:Nat)(g:Nat->Int):(f<t.funcs.length)→(∀c∈clF t f,P n c (g c))→P (n+1) f (fszF t f+mxL ((clF t f).map g))
structure Dp (t:Tr)(a0:Nat)(a1:Nat)(a2:Int):Prop where
 c_::
 out:∀P,DpC t P→P a0 a1 a2
theorem Dp.C{t:Tr}:DpC t (Dp t):=⟨fun n f g q0 q1=>⟨fun P h=>h.mk n f g q0 (fun c r=>(q1 c r).out P h)⟩⟩
abbrev Dp.mk {t}:=(Dp.C:DpC t _).mk
theorem Dp_i{t:Tr}{M:∀(a0:Nat)(a1:Nat)(a2:Int),Dp t a0 a1 a2→Prop}
 (mk:∀(n f:Nat)(g:Nat->Int),(f<t.funcs.length)→∀q1:∀c∈clF t f,Dp t n c (g c),(∀ c (r : c ∈ clF t f),M n c (g c) (q1 c r))→∀u,M (n+1) f (fszF t f+mxL ((clF t f).map g)) u)
 {a0:Nat}{a1:Nat}{a2:Int}(u:Dp t a0 a1 a2):M a0 a1 a2 u:=
 (u.out (fun a0 a1 a2=>∃z_,M a0 a1 a2 z_) ⟨fun n f g q0 q1=>⟨.mk n f g q0 (fun c r=>(q1 c r).1),mk n f g q0 _ (fun c r=>(q1 c r).2) _⟩⟩).2
theorem map_congr' {l:List Nat} {g h:Nat->Int} (e : ∀c∈l,g c=h c):l.map g=l.map h:=List.map_congr_left e
theorem Dp.one {t:Tr} {n f:Nat} {s:Int} (h:Dp t n f s) : ∀ {m:Nat} {s':Int},Dp t m f s'->s=s':=by
 induction h using Dp_i with
 | mk n f g hf hg ih=>
  intro m s' h'
  cases h' using Dp_i with
  | mk m _ g' hf' hg'=>
   rw [map_congr' (fun c hc=>ih c hc (hg' c hc))]
theorem Dp.lt {t:Tr} {n f:Nat} {s:Int} (h:Dp t n f s):f<t.funcs.length:=by cases h using Dp_i with | mk n _ g hf _=>exact hf
theorem Dp.more {t:Tr} {n f:Nat} {s:Int} (h:Dp t n f s) : ∀m,n<=m->Dp t m f s:=by
 induction h using Dp_i with
 | mk n f g hf hg ih=>
  intro m hm
  obtain ⟨k,rfl⟩ : ∃k,m=k+1:=⟨m-1,by omega⟩
  exact .mk k f g hf (fun c hc=>ih c hc k (by omega))
theorem Dp.bd {t:Tr} (hz : ∀f,f<t.funcs.length->0<=fszF t f/\fszF t f<=1000000) {n f:Nat} {s:Int} (h:Dp t n f s):0<=s/\s<=1000000*n:=by
 induction h using Dp_i with
 | mk n f g hf hg ih=>
  have h1:=hz f hf
  have h2:=mxL_bd ((clF t f).map g) (1000000*n) (by omega) (fun x hx=>by
   obtain ⟨c,hc,rfl⟩:=List.mem_map.1 hx
   exact (ih c hc).2)
  omega
theorem Dp.sums {t:Tr} {n f:Nat} {s:Int} (h:Dp t (n+1) f s) (g:Nat->Int) (hg : ∀c∈clF t f,∀x,Dp t n c x->g c=x):s=fszF t f+mxL ((clF t f).map g):=by
 cases h using Dp_i with
 | mk _ _ g' hf hg'=>rw [map_congr' (fun c hc=>(hg c hc _ (hg' c hc)).symm)]
theorem Dp.kids {t:Tr} {n f:Nat} {s:Int} (h:Dp t n f s) : ∃k,n=k+1/\∀c∈clF t f,∃x,Dp t k c x:=by
 cases h using Dp_i with
 | mk k _ g hf hg=>exact ⟨k,rfl,fun c hc=>⟨g c,hg c hc⟩⟩
theorem Dp.rch {t:Tr} {n f:Nat} {s:Int} (h:Dp t n f s) {x:Nat} (hr:Rch t f x) : ∃m s',m<n/\Dp t m x s':=by
 induction hr using Rch_i with
 | one hc=>
  obtain ⟨k,rfl,hk⟩:=h.kids
  obtain ⟨y,hy⟩:=hk _ hc.2
  exact ⟨k,y,by omega,hy⟩
 | step _ hc ih=>
  obtain ⟨m,s',hm,hd⟩:=ih
  obtain ⟨k,rfl,hk⟩:=hd.kids
  obtain ⟨y,hy⟩:=hk _ hc.2
  exact ⟨k,y,by omega,hy⟩
theorem countP_lt {p q:Nat->Bool} : ∀ {l:List Nat},(∀x∈l,p x=true->q x=true)->(∃x∈l,q x=true/\p x=false)->l.countP p<l.countP q
 | [],_,⟨x,hx,_⟩=>by cases hx
 | a::r,h,⟨x,hx,h1,h2⟩=>by
  have hle : ∀l:List Nat,(∀x∈l,p x=true->q x=true)->l.countP p<=l.countP q:=fun l hl=>List.countP_mono_left hl
  rw [List.countP_cons,List.countP_cons]
  rcases List.mem_cons.1 hx with rfl | hx
  ·have:=hle r (fun y hy=>h y (by simp [hy]))
   rw [h1,h2]
   simp
   omega
  ·have:=countP_lt (l:=r) (fun y hy=>h y (by simp [hy])) ⟨x,hx,h1,h2⟩
   have hh:=h a (by simp)
   cases hp:p a with
   | true=>rw [hh hp];simp;omega
   | false=>cases hq:q a <;> simp <;> omega
open Classical in
def rkF (t:Tr) (f:Nat):Nat:=(List.range t.funcs.length).countP (fun x => @decide (x = f ∨ Rch t f x) (pd _))
open Classical in
theorem rk_call {t:Tr} {f c:Nat} (h:CallR t f c) (ha : ¬Rch t f f):rkF t c<rkF t f:=by
 unfold rkF
 refine countP_lt (fun x _ hx => ?_) ⟨f,List.mem_range.2 h.1,by simp,?_⟩
 ·rw [@decide_eq_true_iff _ (pd _)] at hx ⊢
  rcases hx with rfl | hx
  ·exact .inr (.one h)
  ·exact .inr ((Rch.one h).trans hx)
 ·rw [@decide_eq_false_iff_not _ (pd _)]
  rintro (h1 | h1)
  ·subst h1
   exact ha (.one h)
  ·exact ha ((Rch.one h).trans h1)
theorem dp_exists {t:Tr} {m:Nat} (hm:m<t.funcs.length) (ha:Acyc t m) : ∀(k f:Nat),(f=m∨Rch t m f)->rkF t f<=k->∃s,Dp t k f s:=by
 intro k
 induction k with
 | zero=>
  intro f hf hk
  have hlt:f<t.funcs.length:=by rcases hf with rfl | h;exact hm;exact h.lt
  have:0<rkF t f:=by
   unfold rkF
   rw [List.countP_pos_iff]
   exact ⟨f,List.mem_range.2 hlt,by simp⟩
  omega
 | succ k ih=>
  intro f hf hk
  have hlt:f<t.funcs.length:=by rcases hf with rfl | h;exact hm;exact h.lt
  have h0 : ∀c,∃x,c∈clF t f->Dp t k c x:=by
   intro c
   by_cases hc:c∈clF t f
   ·have hcr:CallR t f c:=⟨hlt,hc⟩
    have hlive:c=m∨Rch t m c:=by
     rcases hf with rfl | h
     ·exact .inr (.one hcr)
     ·exact .inr (.step h hcr)
    obtain ⟨x,hx⟩:=ih c hlive (by have:=rk_call hcr (ha f hf);omega)
    exact ⟨x,fun _=>hx⟩
   ·exact ⟨0,fun h=>absurd h hc⟩
  exact ⟨_,.mk k f (fun c=>(h0 c).choose) hlt (fun c hc=>(h0 c).choose_spec hc)⟩
open Classical in
theorem rk_le {t:Tr} {m f:Nat} {live:List Nat} (hf:f=m∨Rch t m f) (hl : ∀x,(x=m∨Rch t m x)->x∈live):rkF t f<=live.length:=by
 unfold rkF
 rw [List.countP_eq_length_filter]
 refine nodup_len _ _ (List.nodup_range.filter _) (fun x hx=>hl x ?_)
 have:=(List.mem_filter.1 hx).2
 rw [@decide_eq_true_iff _ (pd _)] at this
 rcases this with rfl | h
 ·exact hf
 ·rcases hf with rfl | h1
  ·exact .inr h
  ·exact .inr (h1.trans h)
open Classical in
theorem rk_all (t:Tr) (f:Nat):rkF t f<=t.funcs.length:=by
 unfold rkF
 have:=List.countP_le_length (p := fun x => @decide (x = f ∨ Rch t f x) (pd _)) (l:=List.range t.funcs.length)
 simpa using this
end
section
def assignL (E:GEnv) (s:ByteArray) (r:Int):List It:=match E.loc s with
 | some at_=>[insI 11 0 2 r at_]
 | none=>loadL 31 (E.glob s)++[insI 11 0 31 r 0]
abbrev Blk:=Int->List It × Int
def codeS (E:GEnv) (en:Int) (s:St) (a b:Blk):Blk:=fun l=>
 if s.kind=1∨s.kind=2 then ((codeE E s.e 0 l).1++assignL E s.name 5,(codeE E s.e 0 l).2)
 else if s.kind=3 then ((codeE E s.e 0 l).1++(codeE E s.f 1 (codeE E s.e 0 l).2).1++[insI 18 5 5 0 2]++loadL 31 (E.glob s.name)++[insI 21 31 31 5 0,insI 11 0 31 6 0],(codeE E s.f 1 (codeE E s.e 0 l).2).2)
 else if s.kind=4 then
  if 0<s.els then ((codeE E s.e 0 (l+2)).1++[branI 4 5 l]++(a (codeE E s.e 0 (l+2)).2).1++[markI 4 (l+1),markI 2 l]++(b (a (codeE E s.e 0 (l+2)).2).2).1++[markI 2 (l+1)],(b (a (codeE E s.e 0 (l+2)).2).2).2)
  else ((codeE E s.e 0 (l+1)).1++[branI 4 5 l]++(a (codeE E s.e 0 (l+1)).2).1++[markI 2 l],(a (codeE E s.e 0 (l+1)).2).2)
 else if s.kind=5 then ([markI 2 l]++(codeE E s.e 0 (l+2)).1++[branI 4 5 (l+1)]++(a (codeE E s.e 0 (l+2)).2).1++[markI 4 l,markI 2 (l+1)],(a (codeE E s.e 0 (l+2)).2).2)
 else if s.kind=6 then ((codeE E s.e 0 l).1++[insI 12 10 5 0 0,markI 4 en],(codeE E s.e 0 l).2)
 else if s.kind=7 then ((codeE E s.e 0 l).1++[insI 12 10 5 0 0,insI 12 17 0 0 1,insI 34 0 0 0 0],(codeE E s.e 0 l).2)
 else codeE E s.e 0 l
def codeN (E:GEnv) (en:Int):Nat->List St->Blk
 | _,[]=>fun l=>([],l)
 | 0,_::_=>fun l=>([],l)
 | n+1,s::r=>fun l=>
  ((codeS E en s (codeN E en n (r.take s.thn.toNat)) (codeN E en n ((r.drop s.thn.toNat).take s.els.toNat)) l).1++(codeN E en n (r.drop (s.thn.toNat+s.els.toNat)) (codeS E en s (codeN E en n (r.take s.thn.toNat)) (codeN E en n ((r.drop s.thn.toNat).take s.els.toNat)) l).2).1,
   (codeN E en n (r.drop (s.thn.toNat+s.els.toNat)) (codeS E en s (codeN E en n (r.take s.thn.toNat)) (codeN E en n ((r.drop s.thn.toNat).take s.els.toNat)) l).2).2)
def codeB (E:GEnv) (en:Int) (ss:List St):Blk:=codeN E en ss.length ss
theorem codeN_any (E:GEnv) (en:Int) : ∀(n m:Nat) (ss:List St),ss.length<=n->ss.length<=m->codeN E en n ss=codeN E en m ss:=by
 intro n
 induction n with
 | zero=>
  intro m ss hn hm
  have:ss = []:=List.eq_nil_of_length_eq_zero (by omega)
  subst this
  cases m <;> rfl
 | succ n ih=>
  intro m ss hn hm
  cases ss with
  | nil=>cases m <;> rfl
  | cons s r=>
   cases m with
   | zero=>simp at hm
   | succ m=>
    simp only [l_c] at hn hm
    simp only [codeN]
    rw [ih m (r.take s.thn.toNat) (by simp;omega) (by simp;omega),ih m ((r.drop s.thn.toNat).take s.els.toNat) (by simp;omega) (by simp;omega),ih m (r.drop (s.thn.toNat+s.els.toNat)) (by simp;omega) (by simp;omega)]
theorem codeB_nil (E:GEnv) (en l:Int):codeB E en [] l=([],l):=rfl
theorem codeB_cons (E:GEnv) (en:Int) (s:St) (r:List St) (l:Int):codeB E en (s::r) l =
  ((codeS E en s (codeB E en (r.take s.thn.toNat)) (codeB E en ((r.drop s.thn.toNat).take s.els.toNat)) l).1++(codeB E en (r.drop (s.thn.toNat+s.els.toNat)) (codeS E en s (codeB E en (r.take s.thn.toNat)) (codeB E en ((r.drop s.thn.toNat).take s.els.toNat)) l).2).1,
   (codeB E en (r.drop (s.thn.toNat+s.els.toNat)) (codeS E en s (codeB E en (r.take s.thn.toNat)) (codeB E en ((r.drop s.thn.toNat).take s.els.toNat)) l).2).2):=by
 have h:codeB E en (s::r)=codeN E en (r.length+1) (s::r):=rfl
 rw [h]
 simp only [codeN]
 rw [codeN_any E en r.length _ (r.take s.thn.toNat) (by simp;omega) (Nat.le_refl _),codeN_any E en r.length _ ((r.drop s.thn.toNat).take s.els.toNat) (by simp;omega) (Nat.le_refl _),codeN_any E en r.length _ (r.drop (s.thn.toNat+s.els.toNat)) (by simp) (Nat.le_refl _)]
 rfl
def locN (ns:List ByteArray) (s:ByteArray):Option Int:=(ns.findIdx? (fun x=>decide (x=s))).map (fun i:Nat=>4*(i:Int))
def globA (gs:List Gl) (s:ByteArray):Int->Int
 | at_=>match gs with
  | []=>at_
  | g::r=>if g.name=s then at_ else globA r s (at_+4*max 1 g.size)
theorem globA_bd (gs:List Gl) (s:ByteArray) (hz : ∀g∈gs,0<=g.size/\g.size<=4000) : ∀at_:Int,at_<=globA gs s at_/\globA gs s at_<=at_+16000*gs.length:=by
 induction gs with
 | nil=>intro a;simp [globA]
 | cons g r ih=>
  intro a
  have h1:=hz g (by simp)
  have h2:=ih (fun x hx=>hz x (by simp [hx])) (a+4*max 1 g.size)
  simp only [globA,l_c]
  split <;> omega
def fnumG (fs:List Fu) (s:ByteArray):Int:=match fnum fs s with | some i=>(i:Int) | none => -1
def envF (t:Tr) (f:Fu):GEnv:=⟨(f.params++declN f.body).length,locN (f.params++declN f.body),fun s=>globA t.globals s 1048576,fnumG t.funcs⟩
def parL:Nat->List It
 | 0=>[]
 | j+1=>parL j++[insI 11 0 2 (10+j) (4*j)]
def codeF (t:Tr) (i:Nat) (f:Fu):Blk:=fun l=>
 ([markI 2 i,insI 12 2 2 0 (-frameSz f),insI 11 0 2 1 (frameSz f-4)]++parL f.params.length++(codeB (envF t f) l f.body (l+1)).1++[insI 12 10 0 0 0,markI 2 l,insI 10 1 2 0 (frameSz f-4),insI 12 2 2 0 (frameSz f),insI 3 0 1 0 0],(codeB (envF t f) l f.body (l+1)).2)
def codeT (t:Tr):Nat->Blk
 | 0=>fun l=>([markI 5 (fnumG t.funcs mainS),insI 12 17 0 0 10,insI 34 0 0 0 0],l)
 | i+1=>fun l=>((codeT t i l).1++(codeF t i (t.funcs.getD i ⟨⟨#[]⟩,[],[]⟩) (codeT t i l).2).1,(codeF t i (t.funcs.getD i ⟨⟨#[]⟩,[],[]⟩) (codeT t i l).2).2)
end
section
def SB (k : Nat) (g : Blk) : Prop := ∀ l, (g l).1.length ≤ 24 * k ∧ l ≤ (g l).2 ∧ (g l).2 ≤ l + 2 * k
theorem assignL_len (E : GEnv) (s : ByteArray) (r : Int) : (assignL E s r).length ≤ 3 := by
 unfold assignL
 split
 ·simp
 ·have := loadL_len 31 (E.glob s); simp; omega
def szLs (ss : List St) : Nat := ss.length + nodeSum ss
theorem szLs_append (a b : List St) : szLs (a ++ b) = szLs a + szLs b := by simp [szLs, nodeSum_append]; omega
theorem szLs_cons (s : St) (r : List St) : szLs (s :: r) = s.e.length + s.f.length + 1 + szLs r := by simp [szLs, nodeSum]; omega
theorem szLs_parts (r : List St) (i j : Nat) : szLs r = szLs (r.take i) + szLs ((r.drop i).take j) + szLs (r.drop (i + j)) := by
 have er : r = r.take i ++ ((r.drop i).take j ++ r.drop (i + j)) := by
  rw [← List.drop_drop, List.take_append_drop, List.take_append_drop]
 have h := congrArg szLs er
 rw [szLs_append, szLs_append] at h
 omega
theorem codeS_sb (E : GEnv) (en : Int) (s : St) (a b : Blk) (ka kb : Nat) (he : CB s.e.length (codeE E s.e)) (hf : s.kind = 3 → CB s.f.length (codeE E s.f)) (ha : SB ka a) (hb : SB kb b) : SB (s.e.length + s.f.length + 1 + ka + kb) (codeS E en s a b) := by
 intro l
 unfold codeS
 by_cases h1 : s.kind = 1 ∨ s.kind = 2
 ·rw [if_pos h1]
  obtain ⟨g1, g2, g3⟩ := he 0 l
  have := assignL_len E s.name 5
  simp only [List.length_append]
  refine ⟨?_, ?_, ?_⟩ <;> omega
 rw [if_neg h1]
 by_cases h3 : s.kind = 3
 ·rw [if_pos h3]
  obtain ⟨g1, g2, g3⟩ := he 0 l
  obtain ⟨k1, k2, k3⟩ := hf h3 1 (codeE E s.e 0 l).2
  have := loadL_len 31 (E.glob s.name)
  simp only [List.length_append, List.length_cons, List.length_nil]
  refine ⟨?_, ?_, ?_⟩ <;> omega
 rw [if_neg h3]
 by_cases h4 : s.kind = 4
 ·rw [if_pos h4]
  by_cases hl : 0 < s.els
  ·rw [if_pos hl]
   obtain ⟨g1, g2, g3⟩ := he 0 (l + 2)
   obtain ⟨k1, k2, k3⟩ := ha (codeE E s.e 0 (l + 2)).2
   obtain ⟨m1, m2, m3⟩ := hb (a (codeE E s.e 0 (l + 2)).2).2
   simp only [List.length_append, List.length_cons, List.length_nil]
   refine ⟨?_, ?_, ?_⟩ <;> omega
  ·rw [if_neg hl]
   obtain ⟨g1, g2, g3⟩ := he 0 (l + 1)
   obtain ⟨k1, k2, k3⟩ := ha (codeE E s.e 0 (l + 1)).2
   simp only [List.length_append, List.length_cons, List.length_nil]
   refine ⟨?_, ?_, ?_⟩ <;> omega
 rw [if_neg h4]
 by_cases h5 : s.kind = 5
 ·rw [if_pos h5]
  obtain ⟨g1, g2, g3⟩ := he 0 (l + 2)
  obtain ⟨k1, k2, k3⟩ := ha (codeE E s.e 0 (l + 2)).2
  simp only [List.length_append, List.length_cons, List.length_nil]
  refine ⟨?_, ?_, ?_⟩ <;> omega
 rw [if_neg h5]
 obtain ⟨g1, g2, g3⟩ := he 0 l
 by_cases h6 : s.kind = 6
 ·rw [if_pos h6]
  simp only [List.length_append, List.length_cons, List.length_nil]
  refine ⟨?_, ?_, ?_⟩ <;> omega
 rw [if_neg h6]
 by_cases h7 : s.kind = 7
 ·rw [if_pos h7]
  simp only [List.length_append, List.length_cons, List.length_nil]
  refine ⟨?_, ?_, ?_⟩ <;> omega
 rw [if_neg h7]
 refine ⟨?_, ?_, ?_⟩ <;> omega
theorem codeB_sb (E : GEnv) (en : Int) (N : Nat) : ∀ ss : List St, ss.length ≤ N → (∀ s ∈ ss, CB s.e.length (codeE E s.e) ∧ (s.kind = 3 → CB s.f.length (codeE E s.f))) → SB (szLs ss) (codeB E en ss) := by
 induction N with
 | zero =>
  intro ss hl h l
  have : ss = [] := List.eq_nil_of_length_eq_zero (by omega)
  subst this
  rw [codeB_nil]
  simp [szLs, nodeSum]
 | succ N ih =>
  intro ss hl h l
  cases ss with
  | nil => rw [codeB_nil]; simp [szLs, nodeSum]
  | cons s r =>
   simp only [List.length_cons] at hl
   rw [codeB_cons]
   have h1 := ih (r.take s.thn.toNat) (by simp; omega) (fun x hx => h x (by simp [List.mem_of_mem_take hx]))
   have h2 := ih ((r.drop s.thn.toNat).take s.els.toNat) (by simp; omega) (fun x hx => h x (by simp [List.mem_of_mem_drop (List.mem_of_mem_take hx)]))
   have h3 := ih (r.drop (s.thn.toNat + s.els.toNat)) (by simp; omega) (fun x hx => h x (by simp [List.mem_of_mem_drop hx]))
   have h0 := codeS_sb E en s _ _ _ _ (h s (by simp)).1 (h s (by simp)).2 h1 h2 l
   have h4 := h3 (codeS E en s (codeB E en (r.take s.thn.toNat)) (codeB E en ((r.drop s.thn.toNat).take s.els.toNat)) l).2
   have hp := szLs_parts r s.thn.toNat s.els.toNat
   rw [szLs_cons]
   simp only [List.length_append]
   obtain ⟨a1, a2, a3⟩ := h0
   obtain ⟨b1, b2, b3⟩ := h4
   refine ⟨?_, ?_, ?_⟩ <;> omega
end
section
theorem code_cbN (E : GEnv) (N : Nat) : ∀ e : List Nd, e.length ≤ N → oneB e = true → ∃ g, EA (genN E) e g ∧ CB e.length g := by
 induction N with
 | zero => intro e hl h; have := one_pos h; omega
 | succ N ih =>
  intro e hl h
  obtain ⟨A, b, hc, hk⟩ := one_cuts h
  have h0 : ∀ i, ∃ g, i < A → EA (genN E) (kid e b i) g ∧ CB (kid e b i).length g := by
   intro i
   by_cases hi : i < A
   ·obtain ⟨g, hg⟩ := ih (kid e b i) (by have := hc.kid_lt i hi; omega) (hk i hi)
    exact ⟨g, fun _ => hg⟩
   ·exact ⟨fun _ l => ([], l), fun h => absurd h hi⟩
  refine ⟨_, EA.cut (gen_own E) hc (G := fun i => (h0 i).choose) (fun i hi => ((h0 i).choose_spec hi).1), ?_⟩
  rw [← cut_len hc]
  exact gen_cb E hc.root_good hc.ar (F := kid e b) (fun i hi => ((h0 i).choose_spec hi).2)
theorem code_cb (E : GEnv) {e : List Nd} (h : oneB e = true) : CB e.length (codeE E e) := by
 obtain ⟨g, h1, h2⟩ := code_cbN E e.length e (Nat.le_refl _) h
 unfold codeE
 rw [h1.eq]
 exact h2
end
end Go.Proofs.YtpdndlghjldhjaaGreat
