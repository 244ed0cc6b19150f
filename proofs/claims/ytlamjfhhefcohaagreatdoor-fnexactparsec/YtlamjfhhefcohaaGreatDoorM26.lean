import Derived.Test.YtlamjfhhefcohaaGreatDoorM25
import Derived.Test.YtlamjfhhefcohaaGreatDoorM20
import Derived.RegionTactic
import Derived.Deep.RegionHeld3
namespace Go.Proofs.YtlamjfhhefcohaaGreatDoor
set_option linter.unusedVariables false
set_option linter.unusedSimpArgs false
set_option maxRecDepth 100000
set_option maxHeartbeats 16000000
section
open Go.RowKit
structure Tk (K : List Nat) (w w' : World) : Prop where
 still : w'.os = w.os ∧ w'.tape = w.tape ∧ w'.output = w.output
 size : w.heap.size ≤ w'.heap.size
 other : ∀ b, b < w.heap.size → b ∉ K → w'.heap[b]? = w.heap[b]?
theorem Tk.refl (K : List Nat) (w : World) : Tk K w w := ⟨⟨rfl, rfl, rfl⟩, Nat.le_refl _, fun _ _ _ => rfl⟩
theorem Tk.trans {K : List Nat} {w w' w2 : World} (h : Tk K w w') (k : Tk K w' w2) : Tk K w w2 :=
 ⟨⟨k.still.1.trans h.still.1, k.still.2.1.trans h.still.2.1, k.still.2.2.trans h.still.2.2⟩, Nat.le_trans h.size k.size, fun b hl hn => (k.other b (Nat.lt_of_lt_of_le hl h.size) hn).trans (h.other b hl hn)⟩
theorem Tk.mono {K K' : List Nat} {w w' : World} (h : Tk K w w') (hK : ∀ g ∈ K, g ∈ K') : Tk K' w w' := ⟨h.still, h.size, fun b hl hn => h.other b hl (fun e => hn (hK b e))⟩
theorem Tk.of_below {K : List Nat} {w w' : World} (hb : Below w.heap.size w w') : Tk K w w' := ⟨⟨hb.os, hb.tape, hb.output⟩, hb.size, fun b hl _ => hb.block b hl⟩
theorem Tk.put {K : List Nat} (w : World) {g : Nat} (o : Nat) (v : Value) (hg : g ∈ K) : Tk K w (w.setCell ⟨g, o, none⟩ v) := by
 have hb0 := (Below.refl 0 w).setCell (p := ⟨g, o, none⟩) (Nat.zero_le _) v
 refine ⟨⟨hb0.os, hb0.tape, hb0.output⟩, by simp, fun b hl hb => ?_⟩
 exact Below.heap_setCell _ _ _ b (fun h => hb (by have e : b = g := by simpa using h
                                                   rw [e]; exact hg))
theorem Tk.below {B : Nat} {K : List Nat} {w w' : World} (h : Tk K w w') (hg : ∀ g ∈ K, B ≤ g) (hs : B ≤ w.heap.size) : Below B w w' :=
 ⟨h.still.1, h.still.2.1, h.still.2.2, h.size, fun k hk => h.other k (by omega) (fun e => by have := hg k e; omega)⟩
def mkN (k : Nat) : List Nd → List Nd
 | [] => []
 | n :: r => ⟨(k : Int), ((k + 1 : Nat) : Int), mtxt (k + 2)⟩ :: mkN (k + 3) r
def mkP (k : Nat) : List ByteArray → List ByteArray
 | [] => []
 | n :: r => mtxt k :: mkP (k + 1) r
def mkG (k : Nat) : List Gl → List Gl
 | [] => []
 | n :: r => ⟨mtxt k, ((k + 1 : Nat) : Int)⟩ :: mkG (k + 2) r
def mkSt (k : Nat) (s : St) : St := ⟨(k : Int), mtxt (k + 1), mkN (k + 2) s.e, mkN (k + 2 + 3 * s.e.length) s.f, ((k + 2 + 3 * s.e.length + 3 * s.f.length : Nat) : Int), ((k + 3 + 3 * s.e.length + 3 * s.f.length : Nat) : Int)⟩
def mkS (k : Nat) : List St → List St
 | [] => []
 | s :: r => mkSt k s :: mkS (k + cntS s) r
def mkFu (k : Nat) (f : Fu) : Fu := ⟨mtxt k, mkP (k + 1) f.params, mkS (k + 1 + f.params.length) f.body⟩
def mkF (k : Nat) : List Fu → List Fu
 | [] => []
 | f :: r => mkFu k f :: mkF (k + cntF f) r
theorem mkN_len (k : Nat) (ns : List Nd) : (mkN k ns).length = ns.length := by
 induction ns generalizing k with
 | nil => rfl
 | cons n r ih => simp [mkN, ih]
theorem mkP_len (k : Nat) (ns : List ByteArray) : (mkP k ns).length = ns.length := by
 induction ns generalizing k with
 | nil => rfl
 | cons n r ih => simp [mkP, ih]
theorem mkG_len (k : Nat) (ns : List Gl) : (mkG k ns).length = ns.length := by
 induction ns generalizing k with
 | nil => rfl
 | cons n r ih => simp [mkG, ih]
theorem mkS_len (k : Nat) (ns : List St) : (mkS k ns).length = ns.length := by
 induction ns generalizing k with
 | nil => rfl
 | cons n r ih => simp [mkS, ih]
theorem mkF_len (k : Nat) (ns : List Fu) : (mkF k ns).length = ns.length := by
 induction ns generalizing k with
 | nil => rfl
 | cons n r ih => simp [mkF, ih]
theorem mkN_get (k : Nat) (ns : List Nd) (j : Nat) (h : j < (mkN k ns).length) : (mkN k ns)[j] = ⟨((k + 3 * j : Nat) : Int), ((k + 3 * j + 1 : Nat) : Int), mtxt (k + 3 * j + 2)⟩ := by
 induction ns generalizing k j with
 | nil => simp [mkN] at h
 | cons n r ih =>
  cases j with
  | zero => rfl
  | succ j =>
   simp only [mkN, List.getElem_cons_succ]
   rw [ih (k + 3) j (by simpa [mkN] using h), show k + 3 + 3 * j = k + 3 * (j + 1) by omega]
theorem mkP_get (k : Nat) (ns : List ByteArray) (j : Nat) (h : j < (mkP k ns).length) : (mkP k ns)[j] = mtxt (k + j) := by
 induction ns generalizing k j with
 | nil => simp [mkP] at h
 | cons n r ih =>
  cases j with
  | zero => rfl
  | succ j =>
   simp only [mkP, List.getElem_cons_succ]
   rw [ih (k + 1) j (by simpa [mkP] using h), show k + 1 + j = k + (j + 1) by omega]
theorem mkG_get (k : Nat) (ns : List Gl) (j : Nat) (h : j < (mkG k ns).length) : (mkG k ns)[j] = ⟨mtxt (k + 2 * j), ((k + 2 * j + 1 : Nat) : Int)⟩ := by
 induction ns generalizing k j with
 | nil => simp [mkG] at h
 | cons n r ih =>
  cases j with
  | zero => rfl
  | succ j =>
   simp only [mkG, List.getElem_cons_succ]
   rw [ih (k + 2) j (by simpa [mkG] using h), show k + 2 + 2 * j = k + 2 * (j + 1) by omega]
theorem mkS_get (k : Nat) (ns : List St) (j : Nat) (h : j < ns.length) (h' : j < (mkS k ns).length) : (mkS k ns)[j] = mkSt (k + sumBy cntS (ns.take j)) ns[j] := by
 induction ns generalizing k j with
 | nil => simp at h
 | cons n r ih =>
  cases j with
  | zero => simp [mkS, sumBy]
  | succ j =>
   simp only [mkS, List.getElem_cons_succ, List.take_succ_cons, sumBy]
   rw [ih (k + cntS n) j (by simpa using h) (by simpa [mkS] using h'), Nat.add_assoc]
theorem mkF_get (k : Nat) (ns : List Fu) (j : Nat) (h : j < ns.length) (h' : j < (mkF k ns).length) : (mkF k ns)[j] = mkFu (k + sumBy cntF (ns.take j)) ns[j] := by
 induction ns generalizing k j with
 | nil => simp at h
 | cons n r ih =>
  cases j with
  | zero => simp [mkF, sumBy]
  | succ j =>
   simp only [mkF, List.getElem_cons_succ, List.take_succ_cons, sumBy]
   rw [ih (k + cntF n) j (by simpa using h) (by simpa [mkF] using h'), Nat.add_assoc]
theorem take_succ' {α : Type} {l : List α} {k : Nat} (h : k < l.length) : l.take (k + 1) = l.take k ++ [l[k]] := by
 rw [List.take_succ_eq_append_getElem h]
theorem put1 {P S : List Value} {m : Nat} {x a : Value} (h : P.length = m) : (P ++ x :: S).set m a = P ++ a :: S := by
 subst h
 rw [List.set_append_right _ _ (Nat.le_refl _)]
 simp
theorem put2 {P S : List Value} {m : Nat} {x y a b : Value} (h : P.length = m) : ((P ++ x :: y :: S).set m a).set (m + 1) b = P ++ a :: b :: S := by
 rw [put1 h, show P ++ a :: y :: S = (P ++ [a]) ++ y :: S by simp, put1 (by simp [h])]
 simp
theorem put3 {P S : List Value} {m : Nat} {x y z a b c : Value} (h : P.length = m) : (((P ++ x :: y :: z :: S).set m a).set (m + 1) b).set (m + 2) c = P ++ a :: b :: c :: S := by
 rw [put2 h, show P ++ a :: b :: z :: S = (P ++ [a, b]) ++ z :: S by simp, put1 (by simp [h])]
 simp
theorem mkN_snoc (k : Nat) (l : List Nd) (n : Nd) : mkN k (l ++ [n]) = mkN k l ++ [⟨((k + 3 * l.length : Nat) : Int), ((k + 3 * l.length + 1 : Nat) : Int), mtxt (k + 3 * l.length + 2)⟩] := by
 induction l generalizing k with
 | nil => simp [mkN]
 | cons a r ih =>
  simp only [List.cons_append, mkN, ih, List.length_cons]
  rw [show k + 3 + 3 * r.length = k + 3 * (r.length + 1) by omega]
theorem mkN_step (k : Nat) (ns : List Nd) (j : Nat) (hj : j < ns.length) : (((flatN (mkN k (ns.take j) ++ ns.drop j)).set (j * 3) (.int .i64 ((k + 3 * j : Nat) : Int))).set (j * 3 + 1) (.int .i64 ((k + 3 * j + 1 : Nat) : Int))).set (j * 3 + 2) (.string (mtxt (k + 3 * j + 2))) = flatN (mkN k (ns.take (j + 1)) ++ ns.drop (j + 1)) := by
 rw [List.drop_eq_getElem_cons hj, flatN_append, take_succ' hj, mkN_snoc, flatN_append, flatN_append]
 have hl : (flatN (mkN k (ns.take j))).length = j * 3 := by rw [flatN_len, mkN_len, List.length_take, Nat.min_eq_left (by omega)]
 have e : flatN (ns[j] :: ns.drop (j + 1)) = .int .i64 ns[j].kind :: .int .i64 ns[j].val :: .string ns[j].name :: flatN (ns.drop (j + 1)) := rfl
 rw [e, put3 hl, List.length_take, Nat.min_eq_left (by omega), List.append_assoc]
 rfl
end
section
open Go.RowKit
theorem flatN_pre (k : Nat) (ns : List Nd) (j : Nat) (hj : j < ns.length) (i : Nat) (hi : i < 3) : ∃ x, (flatN (mkN k (ns.take j) ++ ns.drop j))[j * 3 + i]? = some x := by
 have : j * 3 + i < (flatN (mkN k (ns.take j) ++ ns.drop j)).length := by
  rw [flatN_len, List.length_append, mkN_len, List.length_take, List.length_drop, Nat.min_eq_left (by omega)]
  omega
 exact ⟨_, List.getElem?_eq_getElem this⟩
set_option maxHeartbeats 1000000 in
theorem markNo_any (B : Nat) (v : Value) (ns : List Nd) (K : List Nat) (q : Nat) (w : World) (hn : ns.length ≤ 1048576) (h0 : 0 < q) (hq : (q : Int) + 3 * ns.length ≤ 1000000000) (h : NOne B w v ns K) :
  Calls Tryz.prog 135 #[v, .int .i64 q] w fun e w' => e = .returned (.int .i64 ((q + 3 * ns.length : Nat) : Int)) ∧ NOne B w' v (mkN q ns) K ∧ Tk K w w' := by
 have HN : Hid (ROne B w v ns.length (flatN ns) K) := h.r
 obtain ⟨a, c, rfl, -⟩ := h.r.slice
 clear h
 go_enter Tryz.func135, Tryz.ntmps135
 go_wp2_with fail
 go_loopw [1, 5] (fun kk i wr => ∃ k : Nat, k ≤ ns.length ∧ i = .int .i64 k ∧ kk = .int .i64 ((q + 3 * k : Nat) : Int) ∧ Tk K w wr ∧ ROne B wr (.slice a ns.length c) ns.length (flatN (mkN q (ns.take k) ++ ns.drop k)) K) (fun _ i _ => ns.length - (RowKit.intOf i).toNat)
 case atStart => exact ⟨0, Nat.zero_le _, rfl, rfl, Tk.refl _ _, by simpa [mkN] using HN.out⟩
 case round =>
  obtain ⟨k, hk, rfl, rfl, hT, hR⟩ := hrel
  have HTn : Hid (Tk K w wr) := hT
  clear hT
  by_cases hlt : k < ns.length
  ·obtain ⟨g, rfl, hKg, -, hBg, hgl, hF⟩ := hR.pos (by omega)
   have HR : Hid (ROne B wr (.slice (some ⟨g, 0, none⟩) ns.length c) ns.length (flatN (mkN q (ns.take k) ++ ns.drop k)) K) := hR
   have HF : Hid (FrC wr g (flatN (mkN q (ns.take k) ++ ns.drop k))) := hF
   have HST : Hid _ := mkN_step q ns k hlt
   obtain ⟨x0, e0⟩ := flatN_pre q ns k hlt 0 (by omega)
   rw [Nat.add_zero] at e0
   obtain ⟨c0, f0⟩ := hF _ _ e0
   obtain ⟨x1, e1⟩ := flatN_pre q ns k hlt 1 (by omega)
   obtain ⟨c1', f1'⟩ := hF _ _ e1
   obtain ⟨x2, e2⟩ := flatN_pre q ns k hlt 2 (by omega)
   obtain ⟨c2', f2'⟩ := hF _ _ e2
   have HKg : Hid (K = [g]) := hKg
   clear hF hR e0 e1 hKg
   obtain ⟨z, hz⟩ : ∃ z : Nat, z = q + 3 * k := ⟨_, rfl⟩
   have HZ : Hid (z = q + 3 * k) := hz
   rw [← hz]
   have hz0 : 0 < z := by omega
   have hz1 : (z : Int) + 3 ≤ 1000000000 := by omega
   clear hz
   have c1 : (wr.setCell ⟨g, k * 3, none⟩ (.int .i64 (z : Int))).cell? ⟨g, k * 3 + 1, none⟩ = some x1 := by
    rw [World.cell?_setCell_other _ _ _ _ (by intro h; simp only [Addr.mk.injEq] at h; omega)]; exact c1'
   have f1 : (wr.setCell ⟨g, k * 3, none⟩ (.int .i64 (z : Int))).frozen? ⟨g, k * 3 + 1, none⟩ = false := (World.frozen?_setCell _ _ _ _).trans f1'
   have HF2 : Hid (FrC ((wr.setCell ⟨g, k * 3, none⟩ (.int .i64 (z : Int))).setCell ⟨g, k * 3 + 1, none⟩ (.int .i64 ((z : Int) + 1))) g (((flatN (mkN q (ns.take k) ++ ns.drop k)).set (k * 3) (.int .i64 (z : Int))).set (k * 3 + 1) (.int .i64 ((z : Int) + 1)))) := (HF.out.set _ _).set _ _
   have HE2 : Hid (∃ y, (((flatN (mkN q (ns.take k) ++ ns.drop k)).set (k * 3) (.int .i64 (z : Int))).set (k * 3 + 1) (.int .i64 ((z : Int) + 1)))[k * 3 + 2]? = some y) := ⟨x2, by rw [List.getElem?_set_ne (by omega), List.getElem?_set_ne (by omega)]; exact e2⟩
   clear c1' f1' c2' f2' e2
   go_wp2_with fail
   rw [show ((z : Int) + 1 + 1) = ((z + 2 : Nat) : Int) by omega]
   refine (mtext_any (z + 2) (by omega) (by omega) _).mono ?_
   rintro e w2 ⟨rfl, hb2⟩
   obtain ⟨y2, e2⟩ := HE2.out
   obtain ⟨c2, f2⟩ := (HF2.out.below hb2) _ _ e2
   have hm : g ∈ K := by rw [HKg.out]; simp
   have HT2 : Hid (Tk K w (w2.setCell ⟨g, k * 3 + 2, none⟩ (.string (mtxt (z + 2))))) := (((HTn.out.trans (Tk.put _ _ _ hm)).trans (Tk.put _ _ _ hm)).trans (Tk.of_below hb2)).trans (Tk.put _ _ _ hm)
   have HR2 : Hid (ROne B (w2.setCell ⟨g, k * 3 + 2, none⟩ (.string (mtxt (z + 2)))) (.slice (some ⟨g, 0, none⟩) ns.length c) ns.length (flatN (mkN q (ns.take (k + 1)) ++ ns.drop (k + 1))) K) := by
    refine HR.out.mk1 (by simpa using hb2.size) (fun x hx => ?_)
    obtain rfl : g = x := by rw [HKg.out] at hx; simpa using hx
    rw [← HST.out, ← HZ.out]
    exact (HF2.out.below hb2).set _ _
   clear c0 f0 c1 f1 hb2 e2 HR HF HF2 HE2 HST HTn
   go_wp2_with fail
   go_roundw
   case rel => exact ⟨k + 1, by omega, by go_num, by rw [HZ.out]; go_num, HT2.out, HR2.out⟩
   case measure => simp [RowKit.intOf]; omega
  ·obtain rfl : k = ns.length := by omega
   go_wp2_with fail
   go_ret
   rw [List.take_length, List.drop_length, List.append_nil] at hR
   refine ⟨rfl, ?_, HTn.out⟩
   have := mkN_len q ns
   exact ROne.n (by rw [this]; exact hR)
theorem mkP_snoc (k : Nat) (l : List ByteArray) (n : ByteArray) : mkP k (l ++ [n]) = mkP k l ++ [mtxt (k + l.length)] := by
 induction l generalizing k with
 | nil => simp [mkP]
 | cons a r ih =>
  simp only [List.cons_append, mkP, ih, List.length_cons]
  rw [show k + 1 + r.length = k + (r.length + 1) by omega]
theorem mkG_snoc (k : Nat) (l : List Gl) (n : Gl) : mkG k (l ++ [n]) = mkG k l ++ [⟨mtxt (k + 2 * l.length), ((k + 2 * l.length + 1 : Nat) : Int)⟩] := by
 induction l generalizing k with
 | nil => simp [mkG]
 | cons a r ih =>
  simp only [List.cons_append, mkG, ih, List.length_cons]
  rw [show k + 2 + 2 * r.length = k + 2 * (r.length + 1) by omega]
theorem mkP_step (k : Nat) (ns : List ByteArray) (j : Nat) (hj : j < ns.length) : (flatP (mkP k (ns.take j) ++ ns.drop j)).set j (.string (mtxt (k + j))) = flatP (mkP k (ns.take (j + 1)) ++ ns.drop (j + 1)) := by
 rw [List.drop_eq_getElem_cons hj, take_succ' hj, mkP_snoc]
 have hl : (flatP (mkP k (ns.take j))).length = j := by rw [flatP, List.length_map, mkP_len, List.length_take, Nat.min_eq_left (by omega)]
 have e : flatP (mkP k (ns.take j) ++ ns[j] :: ns.drop (j + 1)) = flatP (mkP k (ns.take j)) ++ .string ns[j] :: flatP (ns.drop (j + 1)) := by rw [flatP, List.map_append, List.map_cons]; rfl
 rw [e, put1 hl, List.length_take, Nat.min_eq_left (by omega), List.append_assoc]
 simp [flatP]
theorem mkG_step (k : Nat) (ns : List Gl) (j : Nat) (hj : j < ns.length) : ((flatG (mkG k (ns.take j) ++ ns.drop j)).set (j * 2) (.string (mtxt (k + 2 * j)))).set (j * 2 + 1) (.int .i64 ((k + 2 * j + 1 : Nat) : Int)) = flatG (mkG k (ns.take (j + 1)) ++ ns.drop (j + 1)) := by
 rw [List.drop_eq_getElem_cons hj, flatG_append, take_succ' hj, mkG_snoc, flatG_append, flatG_append]
 have hl : (flatG (mkG k (ns.take j))).length = j * 2 := by rw [flatG_len, mkG_len, List.length_take, Nat.min_eq_left (by omega)]
 have e : flatG (ns[j] :: ns.drop (j + 1)) = .string ns[j].name :: .int .i64 ns[j].size :: flatG (ns.drop (j + 1)) := rfl
 rw [e, put2 hl, List.length_take, Nat.min_eq_left (by omega), List.append_assoc]
 rfl
theorem flatP_pre (k : Nat) (ns : List ByteArray) (j : Nat) (hj : j < ns.length) (i : Nat) (hi : i < 1) : ∃ x, (flatP (mkP k (ns.take j) ++ ns.drop j))[j * 1 + i]? = some x := by
 have : j * 1 + i < (flatP (mkP k (ns.take j) ++ ns.drop j)).length := by
  rw [flatP, List.length_map, List.length_append, mkP_len, List.length_take, List.length_drop, Nat.min_eq_left (by omega)]
  omega
 exact ⟨_, List.getElem?_eq_getElem this⟩
set_option maxHeartbeats 1000000 in
theorem markPo_any (B : Nat) (v : Value) (ns : List ByteArray) (K : List Nat) (q : Nat) (w : World) (hn : ns.length ≤ 1048576) (h0 : 0 < q) (hq : (q : Int) + 1 * ns.length ≤ 1000000000) (h : ROne B w v ns.length (flatP ns) K) :
  Calls Tryz.prog 100 #[v, .int .i64 q] w fun e w' => e = .returned (.int .i64 ((q + 1 * ns.length : Nat) : Int)) ∧ ROne B w' v ns.length (flatP (mkP q ns)) K ∧ Tk K w w' := by
 have HN : Hid (ROne B w v ns.length (flatP ns) K) := h
 obtain ⟨a, c, rfl, -⟩ := h.slice
 clear h
 go_enter Tryz.func100, Tryz.ntmps100
 go_wp2_with fail
 go_loopw [1, 5] (fun kk i wr => ∃ k : Nat, k ≤ ns.length ∧ i = .int .i64 k ∧ kk = .int .i64 ((q + 1 * k : Nat) : Int) ∧ Tk K w wr ∧ ROne B wr (.slice a ns.length c) ns.length (flatP (mkP q (ns.take k) ++ ns.drop k)) K) (fun _ i _ => ns.length - (RowKit.intOf i).toNat)
 case atStart => exact ⟨0, Nat.zero_le _, rfl, rfl, Tk.refl _ _, by simpa [mkP] using HN.out⟩
 case round =>
  obtain ⟨k, hk, rfl, rfl, hT, hR⟩ := hrel
  have HTn : Hid (Tk K w wr) := hT
  clear hT
  by_cases hlt : k < ns.length
  ·obtain ⟨g, rfl, hKg, -, hBg, hgl, hF⟩ := hR.pos (by omega)
   have HR : Hid (ROne B wr (.slice (some ⟨g, 0, none⟩) ns.length c) ns.length (flatP (mkP q (ns.take k) ++ ns.drop k)) K) := hR
   have HF : Hid (FrC wr g (flatP (mkP q (ns.take k) ++ ns.drop k))) := hF
   have HST : Hid _ := mkP_step q ns k hlt
   have HKg : Hid (K = [g]) := hKg
   obtain ⟨x0, e0⟩ := flatP_pre q ns k hlt 0 (by omega)
   rw [Nat.add_zero, Nat.mul_one] at e0
   obtain ⟨c0', f0'⟩ := hF _ _ e0
   clear hF hR hKg
   obtain ⟨z, hz⟩ : ∃ z : Nat, z = q + 1 * k := ⟨_, rfl⟩
   have HZ : Hid (z = q + 1 * k) := hz
   rw [← hz]
   have hz0 : 0 < z := by omega
   have hz1 : (z : Int) + 1 ≤ 1000000000 := by omega
   clear hz
   go_wp2_with fail
   refine (mtext_any z (by omega) (by omega) _).mono ?_
   rintro e w2 ⟨rfl, hb2⟩
   have HF2 : Hid (FrC w2 g (flatP (mkP q (ns.take k) ++ ns.drop k))) := HF.out.below hb2
   obtain ⟨c0, f0⟩ := HF2.out _ _ e0
   have hm : g ∈ K := by rw [HKg.out]; simp
   have HT2 : Hid (Tk K w (w2.setCell ⟨g, k, none⟩ (.string (mtxt z)))) := (HTn.out.trans (Tk.of_below hb2)).trans (Tk.put _ _ _ hm)
   have HR2 : Hid (ROne B (w2.setCell ⟨g, k, none⟩ (.string (mtxt z))) (.slice (some ⟨g, 0, none⟩) ns.length c) ns.length (flatP (mkP q (ns.take (k + 1)) ++ ns.drop (k + 1))) K) := by
    refine HR.out.mk1 (by simpa using hb2.size) (fun x hx => ?_)
    obtain rfl : g = x := by rw [HKg.out] at hx; simpa using hx
    rw [← HST.out, show q + k = z by have := HZ.out; omega]
    exact HF2.out.set _ _
   clear hb2 HR HF HF2 HST HTn c0' f0'
   go_wp2_with fail
   go_roundw
   case rel => exact ⟨k + 1, by omega, by go_num, by rw [HZ.out]; go_num, HT2.out, HR2.out⟩
   case measure => simp [RowKit.intOf]; omega
  ·obtain rfl : k = ns.length := by omega
   go_wp2_with fail
   go_ret
   rw [List.take_length, List.drop_length, List.append_nil] at hR
   exact ⟨rfl, hR, HTn.out⟩
theorem flatG_pre (k : Nat) (ns : List Gl) (j : Nat) (hj : j < ns.length) (i : Nat) (hi : i < 2) : ∃ x, (flatG (mkG k (ns.take j) ++ ns.drop j))[j * 2 + i]? = some x := by
 have : j * 2 + i < (flatG (mkG k (ns.take j) ++ ns.drop j)).length := by
  rw [flatG_len, List.length_append, mkG_len, List.length_take, List.length_drop, Nat.min_eq_left (by omega)]
  omega
 exact ⟨_, List.getElem?_eq_getElem this⟩
set_option maxHeartbeats 1000000 in
theorem markGo_any (B : Nat) (v : Value) (ns : List Gl) (K : List Nat) (q : Nat) (w : World) (hn : ns.length ≤ 1048576) (h0 : 0 < q) (hq : (q : Int) + 2 * ns.length ≤ 1000000000) (h : ROne B w v ns.length (flatG ns) K) :
  Calls Tryz.prog 62 #[v, .int .i64 q] w fun e w' => e = .returned (.int .i64 ((q + 2 * ns.length : Nat) : Int)) ∧ ROne B w' v ns.length (flatG (mkG q ns)) K ∧ Tk K w w' := by
 have HN : Hid (ROne B w v ns.length (flatG ns) K) := h
 obtain ⟨a, c, rfl, -⟩ := h.slice
 clear h
 go_enter Tryz.func62, Tryz.ntmps62
 go_wp2_with fail
 go_loopw [1, 5] (fun kk i wr => ∃ k : Nat, k ≤ ns.length ∧ i = .int .i64 k ∧ kk = .int .i64 ((q + 2 * k : Nat) : Int) ∧ Tk K w wr ∧ ROne B wr (.slice a ns.length c) ns.length (flatG (mkG q (ns.take k) ++ ns.drop k)) K) (fun _ i _ => ns.length - (RowKit.intOf i).toNat)
 case atStart => exact ⟨0, Nat.zero_le _, rfl, rfl, Tk.refl _ _, by simpa [mkG] using HN.out⟩
 case round =>
  obtain ⟨k, hk, rfl, rfl, hT, hR⟩ := hrel
  have HTn : Hid (Tk K w wr) := hT
  clear hT
  by_cases hlt : k < ns.length
  ·obtain ⟨g, rfl, hKg, -, hBg, hgl, hF⟩ := hR.pos (by omega)
   have HR : Hid (ROne B wr (.slice (some ⟨g, 0, none⟩) ns.length c) ns.length (flatG (mkG q (ns.take k) ++ ns.drop k)) K) := hR
   have HF : Hid (FrC wr g (flatG (mkG q (ns.take k) ++ ns.drop k))) := hF
   have HST : Hid _ := mkG_step q ns k hlt
   have HKg : Hid (K = [g]) := hKg
   obtain ⟨x0, e0⟩ := flatG_pre q ns k hlt 0 (by omega)
   rw [Nat.add_zero] at e0
   obtain ⟨c0', f0'⟩ := hF _ _ e0
   clear hF hR hKg
   obtain ⟨z, hz⟩ : ∃ z : Nat, z = q + 2 * k := ⟨_, rfl⟩
   have HZ : Hid (z = q + 2 * k) := hz
   rw [← hz]
   have hz0 : 0 < z := by omega
   have hz1 : (z : Int) + 2 ≤ 1000000000 := by omega
   clear hz
   go_wp2_with fail
   refine (mtext_any z (by omega) (by omega) _).mono ?_
   rintro e w2 ⟨rfl, hb2⟩
   have HF2 : Hid (FrC w2 g (flatG (mkG q (ns.take k) ++ ns.drop k))) := HF.out.below hb2
   obtain ⟨c0, f0⟩ := HF2.out _ _ e0
   have hm : g ∈ K := by rw [HKg.out]; simp
   obtain ⟨x1, e1⟩ := flatG_pre q ns k hlt 1 (by omega)
   obtain ⟨c1', f1'⟩ := HF2.out _ _ e1
   have c1 : (w2.setCell ⟨g, k * 2, none⟩ (.string (mtxt z))).cell? ⟨g, k * 2 + 1, none⟩ = some x1 := by
    rw [World.cell?_setCell_other _ _ _ _ (by intro h; simp only [Addr.mk.injEq] at h; omega)]; exact c1'
   have f1 : (w2.setCell ⟨g, k * 2, none⟩ (.string (mtxt z))).frozen? ⟨g, k * 2 + 1, none⟩ = false := (World.frozen?_setCell _ _ _ _).trans f1'
   have HT2 : Hid (Tk K w ((w2.setCell ⟨g, k * 2, none⟩ (.string (mtxt z))).setCell ⟨g, k * 2 + 1, none⟩ (.int .i64 ((z : Int) + 1)))) := ((HTn.out.trans (Tk.of_below hb2)).trans (Tk.put _ _ _ hm)).trans (Tk.put _ _ _ hm)
   have HR2 : Hid (ROne B ((w2.setCell ⟨g, k * 2, none⟩ (.string (mtxt z))).setCell ⟨g, k * 2 + 1, none⟩ (.int .i64 ((z : Int) + 1))) (.slice (some ⟨g, 0, none⟩) ns.length c) ns.length (flatG (mkG q (ns.take (k + 1)) ++ ns.drop (k + 1))) K) := by
    refine HR.out.mk1 (by simpa using hb2.size) (fun x hx => ?_)
    obtain rfl : g = x := by rw [HKg.out] at hx; simpa using hx
    rw [← HST.out, ← HZ.out]
    exact (HF2.out.set _ _).set _ _
   clear c1' f1' e1
   clear hb2 HR HF HF2 HST HTn c0' f0'
   go_wp2_with fail
   go_roundw
   case rel => exact ⟨k + 1, by omega, by go_num, by rw [HZ.out]; go_num, HT2.out, HR2.out⟩
   case measure => simp [RowKit.intOf]; omega
  ·obtain rfl : k = ns.length := by omega
   go_wp2_with fail
   go_ret
   rw [List.take_length, List.drop_length, List.append_nil] at hR
   exact ⟨rfl, hR, HTn.out⟩
end
section
open Go.RowKit
theorem blk_cons (q : SV) (R : List SV) : blkS (q :: R) = (q.ke ++ q.kf) ++ blkS R := rfl
theorem blk_in {R : List SV} {j : Nat} (hj : j < R.length) {g : Nat} (hg : g ∈ R[j].ke ++ R[j].kf) : g ∈ blkS R := List.mem_flatMap.2 ⟨_, List.getElem_mem hj, hg⟩
theorem blk_sep : ∀ (R : List SV), (blkS R).Nodup → ∀ (i j : Nat) (hi : i < R.length) (hj : j < R.length), i ≠ j → ∀ g, g ∈ R[i].ke ++ R[i].kf → g ∉ R[j].ke ++ R[j].kf
 | [], _, i, j, hi, _, _, _, _ => absurd hi (by simp)
 | q :: R, hn, i, j, hi, hj, hne, g, h1 => by
  rw [blk_cons, List.nodup_append] at hn
  obtain ⟨-, n2, n3⟩ := hn
  cases i with
  | zero =>
   cases j with
   | zero => exact absurd rfl hne
   | succ j => exact fun h2 => n3 g h1 g (blk_in (by simpa using hj) h2) rfl
  | succ i =>
   cases j with
   | zero => exact fun h2 => n3 g h2 g (blk_in (by simpa using hi) h1) rfl
   | succ j => exact blk_sep R n2 i j (by simpa using hi) (by simpa using hj) (by omega) g h1
theorem blk_set : ∀ (R : List SV) (i : Nat) (hi : i < R.length) (q : SV), q.ke = R[i].ke → q.kf = R[i].kf → blkS (R.set i q) = blkS R
 | [], i, hi, _, _, _ => absurd hi (by simp)
 | x :: R, 0, _, q, h1, h2 => by
  simp only [List.getElem_cons_zero] at h1 h2
  rw [List.set_cons_zero, blk_cons, blk_cons, h1, h2]
 | x :: R, i + 1, hi, q, h1, h2 => by
  rw [List.set_cons_succ, blk_cons, blk_cons, blk_set R i (by simpa using hi) q (by simpa using h1) (by simpa using h2)]
theorem flatS_put : ∀ (R : List SV) (i : Nat) (hi : i < R.length) (q : SV) (c : Nat) (x : Value), c < 6 → cellsS q = (cellsS R[i]).set c x → (flatS R).set (i * 6 + c) x = flatS (R.set i q)
 | [], i, hi, _, _, _, _, _ => absurd hi (by simp)
 | y :: R, 0, _, q, c, x, hc, h => by
  simp only [List.getElem_cons_zero] at h
  show (cellsS y ++ flatS R).set (0 * 6 + c) x = cellsS q ++ flatS R
  have hl : (cellsS y).length = 6 := rfl
  rw [h, Nat.zero_mul, Nat.zero_add, List.set_append_left _ _ (by omega)]
 | y :: R, i + 1, hi, q, c, x, hc, h => by
  have ih := flatS_put R i (by simpa using hi) q c x hc (by simpa using h)
  have e : (i + 1) * 6 + c = (i * 6 + c) + 6 := by omega
  show (cellsS y ++ flatS R).set ((i + 1) * 6 + c) x = cellsS y ++ flatS (R.set i q)
  rw [← ih, e]
  rfl
theorem flatS_same : ∀ (R : List SV) (i : Nat) (hi : i < R.length) (q : SV), cellsS q = cellsS R[i] → flatS (R.set i q) = flatS R
 | [], i, hi, _, _ => absurd hi (by simp)
 | y :: R, 0, _, q, h => by
  simp only [List.getElem_cons_zero] at h
  show cellsS q ++ flatS R = cellsS y ++ flatS R
  rw [h]
 | y :: R, i + 1, hi, q, h => by
  show cellsS y ++ flatS (R.set i q) = cellsS y ++ flatS R
  rw [flatS_same R i (by simpa using hi) q (by simpa using h)]
theorem StM.upd {B : Nat} {w w' : World} {v : Value} {R : List SV} {K : List Nat} (h : StM B w v R K) (i : Nat) (hi : i < R.length) (q : SV) (hs : w.heap.size ≤ w'.heap.size) (h1 : q.ke = R[i].ke) (h2 : q.kf = R[i].kf) (hr : ROne B w' v R.length (flatS (R.set i q)) K) (he : NOne B w' q.ve q.s.e q.ke) (hf : NOne B w' q.vf q.s.f q.kf) (hk : ∀ g ∈ blkS R, g ∉ R[i].ke ++ R[i].kf → w'.heap[g]? = w.heap[g]?) : StM B w' v (R.set i q) K := by
 refine ⟨by rw [List.length_set]; exact hr, fun x hx => ?_, by rw [blk_set R i hi q h1 h2]; exact h.nd⟩
 obtain ⟨j, hj, rfl⟩ := List.mem_iff_getElem.1 hx
 have hj' : j < R.length := by simpa using hj
 by_cases e : i = j
 ·subst e
  rw [List.getElem_set_self]
  exact ⟨he, hf⟩
 ·rw [List.getElem_set_ne e]
  have hnd := (List.nodup_append.1 h.nd).2.1
  have key : ∀ g, g ∈ R[j].ke ++ R[j].kf → w'.heap[g]? = w.heap[g]? := fun g hg => hk g (blk_in hj' hg) (blk_sep R hnd j i hj' hi (Ne.symm e) g hg)
  obtain ⟨a, b⟩ := h.each _ (List.getElem_mem hj')
  exact ⟨a.keep hs (fun g hg => key g (List.mem_append.2 (.inl hg))), b.keep hs (fun g hg => key g (List.mem_append.2 (.inr hg)))⟩
theorem StM.put {B : Nat} {w : World} {g n cp : Nat} {R : List SV} (h : StM B w (.slice (some ⟨g, 0, none⟩) n cp) R [g]) (i : Nat) (hi : i < R.length) (c : Nat) (hc : c < 6) (x : Value) (q : SV) (hq : cellsS q = (cellsS R[i]).set c x) (h1 : q.ke = R[i].ke) (h2 : q.kf = R[i].kf) (h3 : q.ve = R[i].ve) (h4 : q.vf = R[i].vf) (h5 : q.s.e = R[i].s.e) (h6 : q.s.f = R[i].s.f) : StM B (w.setCell ⟨g, i * 6 + c, none⟩ x) (.slice (some ⟨g, 0, none⟩) n cp) (R.set i q) [g] := by
 have hnd := h.nd
 have hout : ∀ b ∈ blkS R, b ≠ g := fun b hb e => by
  subst e
  exact (List.nodup_append.1 hnd).2.2 b (by simp) b hb rfl
 have hk : ∀ b ∈ blkS R, (w.setCell ⟨g, i * 6 + c, none⟩ x).heap[b]? = w.heap[b]? := fun b hb => Below.heap_setCell _ _ _ b (fun e => hout b hb (by simpa using e))
 obtain ⟨a, b⟩ := h.each _ (List.getElem_mem hi)
 refine h.upd i hi q (by simp) h1 h2 (h.row.mk1 (by simp) fun y hy => ?_) ?_ ?_ (fun b hb _ => hk b hb)
 ·obtain rfl : g = y := by simpa using hy
  rw [← flatS_put R i hi q c x hc hq]
  exact (h.row.fr g rfl).set _ _
 ·rw [h1, h3, h5]; exact a.keep (by simp) (fun b hb => hk b (blk_in hi (List.mem_append.2 (.inl hb))))
 ·rw [h2, h4, h6]; exact b.keep (by simp) (fun b hb => hk b (blk_in hi (List.mem_append.2 (.inr hb))))
def setE (q : SV) (ns : List Nd) : SV := ⟨⟨q.s.kind, q.s.name, ns, q.s.f, q.s.thn, q.s.els⟩, q.ve, q.vf, q.ke, q.kf⟩
def setF (q : SV) (ns : List Nd) : SV := ⟨⟨q.s.kind, q.s.name, q.s.e, ns, q.s.thn, q.s.els⟩, q.ve, q.vf, q.ke, q.kf⟩
theorem StM.putE {B : Nat} {w w' : World} {v : Value} {R : List SV} {K : List Nat} (h : StM B w v R K) (i : Nat) (hi : i < R.length) (ns : List Nd) (hn : NOne B w' R[i].ve ns R[i].ke) (hT : Tk R[i].ke w w') : StM B w' v (R.set i (setE R[i] ns)) K := by
 have hnd := h.nd
 obtain ⟨a, b⟩ := h.each _ (List.getElem_mem hi)
 have hkf : ∀ g ∈ R[i].kf, g ∉ R[i].ke := fun g hg he => by
  have h1 := (List.nodup_append.1 hnd).2.1
  have : (R[i].ke ++ R[i].kf).Nodup := by
   have e : R = R.take i ++ R[i] :: R.drop (i + 1) := by rw [← List.drop_eq_getElem_cons hi, List.take_append_drop]
   rw [e, blkS_append, List.nodup_append] at h1
   rw [blk_cons, List.nodup_append] at h1
   exact h1.2.1.1
  exact (List.nodup_append.1 this).2.2 g he g hg rfl
 refine h.upd i hi (setE R[i] ns) hT.size rfl rfl (h.row.mk1 hT.size fun g hg => ?_) hn (b.keep hT.size fun g hg => hT.other g (b.rng g hg).2 (hkf g hg)) (fun g hg hn => ?_)
 ·rw [flatS_same R i hi (setE R[i] ns) rfl]
  refine (h.row.fr g hg).keep (hT.other g (h.row.rng g (by rw [hg]; simp)).2 (fun he => ?_))
  exact (List.nodup_append.1 hnd).2.2 g (by rw [hg]; simp) g (blk_in hi (List.mem_append.2 (.inl he))) rfl
 ·exact hT.other g (h.rng g (List.mem_append.2 (.inr hg))).2 (fun he => hn (List.mem_append.2 (.inl he)))
theorem StM.putF {B : Nat} {w w' : World} {v : Value} {R : List SV} {K : List Nat} (h : StM B w v R K) (i : Nat) (hi : i < R.length) (ns : List Nd) (hn : NOne B w' R[i].vf ns R[i].kf) (hT : Tk R[i].kf w w') : StM B w' v (R.set i (setF R[i] ns)) K := by
 have hnd := h.nd
 obtain ⟨a, b⟩ := h.each _ (List.getElem_mem hi)
 have hke : ∀ g ∈ R[i].ke, g ∉ R[i].kf := fun g hg he => by
  have h1 := (List.nodup_append.1 hnd).2.1
  have : (R[i].ke ++ R[i].kf).Nodup := by
   have e : R = R.take i ++ R[i] :: R.drop (i + 1) := by rw [← List.drop_eq_getElem_cons hi, List.take_append_drop]
   rw [e, blkS_append, List.nodup_append] at h1
   rw [blk_cons, List.nodup_append] at h1
   exact h1.2.1.1
  exact (List.nodup_append.1 this).2.2 g hg g he rfl
 refine h.upd i hi (setF R[i] ns) hT.size rfl rfl (h.row.mk1 hT.size fun g hg => ?_) (a.keep hT.size fun g hg => hT.other g (a.rng g hg).2 (hke g hg)) hn (fun g hg hn => ?_)
 ·rw [flatS_same R i hi (setF R[i] ns) rfl]
  refine (h.row.fr g hg).keep (hT.other g (h.row.rng g (by rw [hg]; simp)).2 (fun he => ?_))
  exact (List.nodup_append.1 hnd).2.2 g (by rw [hg]; simp) g (blk_in hi (List.mem_append.2 (.inr he))) rfl
 ·exact hT.other g (h.rng g (List.mem_append.2 (.inr hg))).2 (fun he => hn (List.mem_append.2 (.inr he)))
theorem StM.cell {B : Nat} {w : World} {g n cp : Nat} {R : List SV} (h : StM B w (.slice (some ⟨g, 0, none⟩) n cp) R [g]) (i : Nat) (hi : i < R.length) (c : Nat) (hc : c < 6) : w.cell? ⟨g, i * 6 + c, none⟩ = (cellsS R[i])[c]? ∧ w.frozen? ⟨g, i * 6 + c, none⟩ = false := by
 have hl : c < (cellsS R[i]).length := hc
 have e := flatS_get R i c hi hc
 rw [List.getElem?_eq_getElem hl] at e ⊢
 exact h.row.fr g rfl _ _ e
def mkR (k : Nat) : List SV → List SV
 | [] => []
 | q :: R => { q with s := mkSt k q.s } :: mkR (k + cntS q.s) R
def sumR (R : List SV) : Nat := sumBy cntS (R.map (·.s))
theorem mkR_len (k : Nat) (R : List SV) : (mkR k R).length = R.length := by
 induction R generalizing k with
 | nil => rfl
 | cons n r ih => simp [mkR, ih]
theorem mkR_map (k : Nat) (R : List SV) : (mkR k R).map (·.s) = mkS k (R.map (·.s)) := by
 induction R generalizing k with
 | nil => rfl
 | cons n r ih => simp [mkR, mkS, ih]
theorem mkR_blk (k : Nat) (R : List SV) : blkS (mkR k R) = blkS R := by
 induction R generalizing k with
 | nil => rfl
 | cons n r ih => rw [mkR, blk_cons, blk_cons, ih]
theorem mkR_snoc (k : Nat) (l : List SV) (q : SV) : mkR k (l ++ [q]) = mkR k l ++ [{ q with s := mkSt (k + sumR l) q.s }] := by
 induction l generalizing k with
 | nil => simp [mkR, sumR, sumBy]
 | cons a r ih =>
  have e : sumR (a :: r) = cntS a.s + sumR r := by simp [sumR, sumBy]
  simp only [List.cons_append, mkR, ih]
  rw [e, Nat.add_assoc]
theorem sumR_step (R : List SV) (j : Nat) (hj : j < R.length) : sumR (R.take (j + 1)) = sumR (R.take j) + cntS R[j].s := by
 have h := sumBy_step cntS (R.map (·.s)) j (by simpa using hj)
 simp only [sumR, List.map_take]
 rw [h, List.getElem_map]
theorem mkR_step (k : Nat) (R : List SV) (j : Nat) (hj : j < R.length) : ∃ (h : j < (mkR k (R.take j) ++ R.drop j).length), (mkR k (R.take j) ++ R.drop j)[j] = R[j] ∧ (mkR k (R.take j) ++ R.drop j).set j { R[j] with s := mkSt (k + sumR (R.take j)) R[j].s } = mkR k (R.take (j + 1)) ++ R.drop (j + 1) := by
 have hl : (mkR k (R.take j)).length = j := by rw [mkR_len, List.length_take, Nat.min_eq_left (by omega)]
 refine ⟨by rw [List.length_append, hl, List.length_drop]; omega, ?_, ?_⟩
 ·rw [List.getElem_append_right (by omega)]
  simp [hl]
 ·rw [List.drop_eq_getElem_cons hj, take_succ' hj, mkR_snoc, List.set_append_right _ _ (by omega), hl, Nat.sub_self, List.set_cons_zero, List.append_assoc]
  rfl
end
section
open Go.RowKit
theorem NOne.isSlice {B : Nat} {w : World} {v : Value} {ns : List Nd} {K : List Nat} (h : NOne B w v ns K) : ∃ a n c, v = .slice a n c := by
 obtain ⟨a, c, h, -⟩ := h.r.slice
 exact ⟨a, _, c, h⟩
theorem StM.putS {B : Nat} {w : World} {g n cp : Nat} {Q : List SV} {j : Nat} {q : SV} (h : StM B w (.slice (some ⟨g, 0, none⟩) n cp) (Q.set j q) [g]) (hj : j < Q.length) (c : Nat) (hc : c < 6) (x : Value) (q' : SV) (hq : cellsS q' = (cellsS q).set c x) (h1 : q'.ke = q.ke) (h2 : q'.kf = q.kf) (h3 : q'.ve = q.ve) (h4 : q'.vf = q.vf) (h5 : q'.s.e = q.s.e) (h6 : q'.s.f = q.s.f) : StM B (w.setCell ⟨g, j * 6 + c, none⟩ x) (.slice (some ⟨g, 0, none⟩) n cp) (Q.set j q') [g] := by
 have hj' : j < (Q.set j q).length := by simpa using hj
 have e : (Q.set j q)[j] = q := by simp
 have := h.put j hj' c hc x q' (by rw [e]; exact hq) (by rw [e]; exact h1) (by rw [e]; exact h2) (by rw [e]; exact h3) (by rw [e]; exact h4) (by rw [e]; exact h5) (by rw [e]; exact h6)
 rwa [List.set_set] at this
theorem StM.putES {B : Nat} {w w' : World} {v : Value} {Q : List SV} {j : Nat} {q : SV} {K : List Nat} (h : StM B w v (Q.set j q) K) (hj : j < Q.length) (ns : List Nd) (hn : NOne B w' q.ve ns q.ke) (hT : Tk q.ke w w') : StM B w' v (Q.set j (setE q ns)) K := by
 have hj' : j < (Q.set j q).length := by simpa using hj
 have e : (Q.set j q)[j] = q := by simp
 have := h.putE j hj' ns (by rw [e]; exact hn) (by rw [e]; exact hT)
 rwa [List.set_set, e] at this
theorem StM.putFS {B : Nat} {w w' : World} {v : Value} {Q : List SV} {j : Nat} {q : SV} {K : List Nat} (h : StM B w v (Q.set j q) K) (hj : j < Q.length) (ns : List Nd) (hn : NOne B w' q.vf ns q.kf) (hT : Tk q.kf w w') : StM B w' v (Q.set j (setF q ns)) K := by
 have hj' : j < (Q.set j q).length := by simpa using hj
 have e : (Q.set j q)[j] = q := by simp
 have := h.putF j hj' ns (by rw [e]; exact hn) (by rw [e]; exact hT)
 rwa [List.set_set, e] at this
theorem StM.cellS {B : Nat} {w : World} {g n cp : Nat} {Q : List SV} {j : Nat} {q : SV} (h : StM B w (.slice (some ⟨g, 0, none⟩) n cp) (Q.set j q) [g]) (hj : j < Q.length) (c : Nat) (hc : c < 6) : w.cell? ⟨g, j * 6 + c, none⟩ = (cellsS q)[c]? ∧ w.frozen? ⟨g, j * 6 + c, none⟩ = false := by
 have := h.cell j (by simpa using hj) c hc
 rwa [show (Q.set j q)[j]'(by simpa using hj) = q by simp] at this
theorem StM.eachS {B : Nat} {w : World} {v : Value} {Q : List SV} {j : Nat} {q : SV} {K : List Nat} (h : StM B w v (Q.set j q) K) (hj : j < Q.length) : NOne B w q.ve q.s.e q.ke ∧ NOne B w q.vf q.s.f q.kf :=
 h.each q (List.mem_iff_getElem.2 ⟨j, by simpa using hj, by simp⟩)
set_option maxHeartbeats 2000000 in
theorem markSo_any (B : Nat) (v : Value) (R : List SV) (K : List Nat) (k : Nat) (w : World) (hn : R.length ≤ 1048576) (hsm : ∀ q ∈ R, smallS q.s) (h0 : 0 < k) (hk : (k : Int) + (sumR R : Nat) ≤ 1000000000) (h : StM B w v R K) :
  Calls Tryz.prog 101 #[v, .int .i64 k] w fun e w' => e = .returned (.int .i64 ((k + sumR R : Nat) : Int)) ∧ StM B w' v (mkR k R) K ∧ Tk (K ++ blkS R) w w' := by
 have HP : Hid (StM B w v R K) := h
 have HSM : Hid (∀ q ∈ R, smallS q.s) := hsm
 have HK : Hid ((k : Int) + (sumR R : Nat) ≤ 1000000000) := hk
 obtain ⟨a, c, rfl, -⟩ := h.row.slice
 clear hsm hk h
 go_enter Tryz.func101, Tryz.ntmps101
 go_wp2_with fail
 go_loopw [1, 5] (fun q i wr => ∃ j : Nat, j ≤ R.length ∧ i = .int .i64 j ∧ q = .int .i64 ((k + sumR (R.take j) : Nat) : Int) ∧ StM B wr (.slice a R.length c) (mkR k (R.take j) ++ R.drop j) K ∧ Tk (K ++ blkS R) w wr) (fun _ i _ => R.length - (RowKit.intOf i).toNat)
 case atStart => exact ⟨0, Nat.zero_le _, rfl, by simp [sumR, sumBy], by simpa [mkR] using HP.out, Tk.refl _ _⟩
 case round =>
  obtain ⟨j, hj, rfl, rfl, hS, hT⟩ := hrel
  by_cases hlt : j < R.length
  ·obtain ⟨hjl, hget, hset⟩ := mkR_step k R j hlt
   obtain ⟨Q, hQ⟩ : ∃ Q, Q = mkR k (R.take j) ++ R.drop j := ⟨_, rfl⟩
   rw [← hQ] at hS hset
   have hjQ : j < Q.length := by rw [hQ]; exact hjl
   have hgQ : Q[j] = R[j] := by simp only [hQ]; exact hget
   have hblk : blkS Q = blkS R := by rw [hQ, blkS_append, mkR_blk, ← blkS_append, List.take_append_drop]
   have hQl : Q.length = R.length := by rw [hQ, List.length_append, mkR_len, List.length_take, List.length_drop]; omega
   obtain ⟨g, rfl, hKg, -, hBg, hgl, -⟩ := hS.row.pos (by omega)
   have hst := sumR_step R j hlt
   have hle : sumR (R.take (j + 1)) ≤ sumR R := by
    have := sumBy_le cntS (R.map (·.s)) (j + 1)
    simpa [sumR, List.map_take] using this
   have hsm := HSM.out R[j] (List.getElem_mem hlt)
   have hcs : cntS R[j].s = 4 + 3 * R[j].s.e.length + 3 * R[j].s.f.length := rfl
   have hKK := HK.out
   obtain ⟨q, hq⟩ : ∃ q, k + sumR (R.take j) = q := ⟨_, rfl⟩
   have HQS : Hid (k + sumR (R.take (j + 1)) = q + 4 + 3 * R[j].s.e.length + 3 * R[j].s.f.length) := by show _ = _; omega
   have hqb : (q : Int) + 4 + 3 * R[j].s.e.length + 3 * R[j].s.f.length ≤ 1000000000 := by omega
   have hq0 : 0 < q := by omega
   rw [hq] at hset
   obtain ⟨x, hx⟩ : ∃ x, R[j] = x := ⟨_, rfl⟩
   rw [hx] at hgQ hset hqb hsm
   have HQS' : Hid (k + sumR (R.take (j + 1)) = q + 4 + 3 * x.s.e.length + 3 * x.s.f.length) := by rw [← hx]; exact HQS.out
   have hse := hsm.1
   have hsf := hsm.2
   subst hKg
   have HM : ∀ y, y ∈ [g] ++ blkS R → True := fun _ _ => trivial
   -- the statement's turns
   obtain ⟨q1, hq1⟩ : ∃ q1 : SV, q1 = ⟨⟨(q : Int), x.s.name, x.s.e, x.s.f, x.s.thn, x.s.els⟩, x.ve, x.vf, x.ke, x.kf⟩ := ⟨_, rfl⟩
   have S1 : StM B (wr.setCell ⟨g, j * 6, none⟩ (.int .i64 (q : Int))) (.slice (some ⟨g, 0, none⟩) R.length c) (Q.set j q1) [g] := by
    have := hS.put j hjQ 0 (by omega) (.int .i64 (q : Int)) q1 (by rw [hq1, hgQ]; rfl) (by rw [hq1, hgQ]) (by rw [hq1, hgQ]) (by rw [hq1, hgQ]) (by rw [hq1, hgQ]) (by rw [hq1, hgQ]) (by rw [hq1, hgQ])
    simpa using this
   obtain ⟨o0, f0⟩ := hS.cell j hjQ 0 (by omega)
   rw [hgQ, Nat.add_zero] at o0
   rw [Nat.add_zero] at f0
   have o0' : wr.cell? ⟨g, j * 6, none⟩ = some (.int .i64 x.s.kind) := o0
   have HS1 : Hid (StM B (wr.setCell ⟨g, j * 6, none⟩ (.int .i64 (q : Int))) (.slice (some ⟨g, 0, none⟩) R.length c) (Q.set j q1) [g]) := S1
   have HT1 : Hid (Tk ([g] ++ blkS R) w (wr.setCell ⟨g, j * 6, none⟩ (.int .i64 (q : Int)))) := hT.trans (Tk.put _ _ _ (by simp))
   have HSet : Hid (Q.set j ⟨mkSt q x.s, x.ve, x.vf, x.ke, x.kf⟩ = mkR k (R.take (j + 1)) ++ R.drop (j + 1)) := hset
   have HX : Hid (blkS Q = blkS R ∧ Q.length = R.length) := ⟨hblk, hQl⟩
   have HXin : Hid ((∀ y ∈ x.ke, y ∈ [g] ++ blkS R) ∧ ∀ y ∈ x.kf, y ∈ [g] ++ blkS R) := by
    rw [← hx]
    exact ⟨fun y hy => List.mem_append.2 (.inr (blk_in hlt (List.mem_append.2 (.inl hy)))), fun y hy => List.mem_append.2 (.inr (blk_in hlt (List.mem_append.2 (.inr hy))))⟩
   have HQd : Hid (k + sumR (R.take j) = q) := hq
   rw [hq]
   clear hS hget hset hst hle hsm hcs hKK hq S1 hT HM o0 hjl hblk HQS hQl
   go_wp2_with fail
   rw [show ((q : Int) + 1) = ((q + 1 : Nat) : Int) by omega]
   refine (mtext_any (q + 1) (by omega) (by omega) _).mono ?_
   rintro e w1 ⟨rfl, hb1⟩
   obtain ⟨q2, hq2⟩ : ∃ q2 : SV, q2 = ⟨⟨(q : Int), mtxt (q + 1), x.s.e, x.s.f, x.s.thn, x.s.els⟩, x.ve, x.vf, x.ke, x.kf⟩ := ⟨_, rfl⟩
   have S1b := HS1.out.below hb1
   have HS2 : Hid (StM B (w1.setCell ⟨g, j * 6 + 1, none⟩ (.string (mtxt (q + 1)))) (.slice (some ⟨g, 0, none⟩) R.length c) (Q.set j q2) [g]) := S1b.putS hjQ 1 (by omega) _ q2 (by rw [hq2, hq1]; rfl) (by rw [hq2, hq1]) (by rw [hq2, hq1]) (by rw [hq2, hq1]) (by rw [hq2, hq1]) (by rw [hq2, hq1]) (by rw [hq2, hq1])
   have HT2 : Hid (Tk ([g] ++ blkS R) w (w1.setCell ⟨g, j * 6 + 1, none⟩ (.string (mtxt (q + 1))))) := (HT1.out.trans (Tk.of_below hb1)).trans (Tk.put _ _ _ (by simp))
   obtain ⟨o1, f1⟩ := S1b.cellS hjQ 1 (by omega)
   obtain ⟨o2, -⟩ := HS2.out.cellS hjQ 2 (by omega)
   obtain ⟨ne, nf⟩ := HS2.out.eachS hjQ
   rw [hq1] at o1
   rw [hq2] at o2 ne nf
   have o1' : w1.cell? ⟨g, j * 6 + 1, none⟩ = some (.string x.s.name) := o1
   have HNe : Hid (NOne B (w1.setCell ⟨g, j * 6 + 1, none⟩ (.string (mtxt (q + 1)))) x.ve x.s.e x.ke) := ne
   obtain ⟨ae, lne, cne, hve⟩ := ne.isSlice
   obtain ⟨af, lnf, cnf, hvf⟩ := nf.isSlice
   have o2' : (w1.setCell ⟨g, j * 6 + 1, none⟩ (.string (mtxt (q + 1)))).cell? ⟨g, j * 6 + 2, none⟩ = some (.slice ae lne cne) := by rw [← show x.ve = _ from hve]; exact o2
   have hve' : x.ve = .slice ae lne cne := hve
   have hvf' : x.vf = .slice af lnf cnf := hvf
   rw [hve'] at HNe
   obtain ⟨W2, hW2⟩ : ∃ W2, W2 = w1.setCell ⟨g, j * 6 + 1, none⟩ (.string (mtxt (q + 1))) := ⟨_, rfl⟩
   rw [← hW2] at HS2 HT2 HNe
   have HW2 : Hid (W2 = _) := hW2
   have HVe : Hid (x.ve = .slice ae lne cne ∧ x.vf = .slice af lnf cnf) := ⟨hve', hvf'⟩
   have HMe : Hid (Calls Tryz.prog 135 #[.slice ae lne cne, .int .i64 ((q + 2 : Nat) : Int)] W2 fun e w' => e = .returned (.int .i64 ((q + 2 + 3 * x.s.e.length : Nat) : Int)) ∧ NOne B w' (.slice ae lne cne) (mkN (q + 2) x.s.e) x.ke ∧ Tk x.ke W2 w') := markNo_any B _ x.s.e x.ke (q + 2) W2 hse (by omega) (by omega) HNe.out
   have HQ2 : Hid (q2 = ⟨⟨(q : Int), mtxt (q + 1), x.s.e, x.s.f, x.s.thn, x.s.els⟩, x.ve, x.vf, x.ke, x.kf⟩) := hq2
   clear o1 o2 ne nf hve hvf hve' hvf' hb1 S1b HS1 HT1 o0' f0 hq1 hq2 hgQ hW2
   go_wp2_with fail
   rw [← HW2.out, show ((q : Int) + 1 + 1) = ((q + 2 : Nat) : Int) by omega]
   refine HMe.out.mono ?_
   rintro e w2 ⟨rfl, hn2, ht2⟩
   obtain ⟨ne, hne⟩ : ∃ ne, x.s.e.length = ne := ⟨_, rfl⟩
   obtain ⟨nf, hnf⟩ : ∃ nf, x.s.f.length = nf := ⟨_, rfl⟩
   have HNEF : Hid (x.s.e.length = ne ∧ x.s.f.length = nf) := ⟨hne, hnf⟩
   rw [hne, hnf] at hqb
   rw [hnf] at hsf
   rw [hne]
   obtain ⟨q3, hq3⟩ : ∃ q3 : SV, q3 = setE q2 (mkN (q + 2) x.s.e) := ⟨_, rfl⟩
   have HS3 : Hid (StM B w2 (.slice (some ⟨g, 0, none⟩) R.length c) (Q.set j q3) [g]) := by
    rw [hq3]
    exact HS2.out.putES hjQ _ (by rw [HQ2.out]; show NOne B w2 x.ve _ x.ke; rw [HVe.out.1]; exact hn2) (by rw [HQ2.out]; exact ht2)
   have HQ3 : Hid (q3 = ⟨⟨(q : Int), mtxt (q + 1), mkN (q + 2) x.s.e, x.s.f, x.s.thn, x.s.els⟩, x.ve, x.vf, x.ke, x.kf⟩) := by show _ = _; rw [hq3, HQ2.out]; rfl
   have HT3 : Hid (Tk ([g] ++ blkS R) w w2) := HT2.out.trans (ht2.mono HXin.out.1)
   obtain ⟨o3, -⟩ := HS3.out.cellS hjQ 3 (by omega)
   obtain ⟨-, nff⟩ := HS3.out.eachS hjQ
   rw [HQ3.out] at o3 nff
   have o3' : w2.cell? ⟨g, j * 6 + 3, none⟩ = some (.slice af lnf cnf) := by rw [← HVe.out.2]; exact o3
   have nff' : NOne B w2 x.vf x.s.f x.kf := nff
   rw [HVe.out.2] at nff'
   obtain ⟨z, hz⟩ : ∃ z, q + 2 + 3 * ne = z := ⟨_, rfl⟩
   have HMf : Hid (Calls Tryz.prog 135 #[.slice af lnf cnf, .int .i64 ((z : Nat) : Int)] w2 fun e w' => e = .returned (.int .i64 ((z + 3 * nf : Nat) : Int)) ∧ NOne B w' (.slice af lnf cnf) (mkN z x.s.f) x.kf ∧ Tk x.kf w2 w') := by
    have := markNo_any B _ x.s.f x.kf z w2 (by omega) (by omega) (by omega) nff'
    rw [hnf] at this
    exact this
   have HZ : Hid (q + 2 + 3 * ne = z) := hz
   rw [hz]
   have hzb : (z : Int) + 2 + 3 * nf ≤ 1000000000 := by omega
   clear o3 nff nff' hn2 ht2 hq3 HS2 HT2 HMe o2' hne hnf hz hse HNe HW2 o1' f1
   go_wp2_with fail
   refine HMf.out.mono ?_
   rintro e w3 ⟨rfl, hn3, ht3⟩
   obtain ⟨q4, hq4⟩ : ∃ q4 : SV, q4 = setF q3 (mkN z x.s.f) := ⟨_, rfl⟩
   have HS4 : Hid (StM B w3 (.slice (some ⟨g, 0, none⟩) R.length c) (Q.set j q4) [g]) := by
    rw [hq4]
    exact HS3.out.putFS hjQ _ (by rw [HQ3.out]; show NOne B w3 x.vf _ x.kf; rw [HVe.out.2]; exact hn3) (by rw [HQ3.out]; exact ht3)
   have HQ4 : Hid (q4 = ⟨⟨(q : Int), mtxt (q + 1), mkN (q + 2) x.s.e, mkN z x.s.f, x.s.thn, x.s.els⟩, x.ve, x.vf, x.ke, x.kf⟩) := by show _ = _; rw [hq4, HQ3.out]; rfl
   have HT4 : Hid (Tk ([g] ++ blkS R) w w3) := HT3.out.trans (ht3.mono HXin.out.2)
   obtain ⟨o4, f4⟩ := HS4.out.cellS hjQ 4 (by omega)
   rw [HQ4.out] at o4
   have o4' : w3.cell? ⟨g, j * 6 + 4, none⟩ = some (.int .i64 x.s.thn) := o4
   obtain ⟨y, hy⟩ : ∃ y, z + 3 * nf = y := ⟨_, rfl⟩
   have HY : Hid (z + 3 * nf = y) := hy
   rw [hy]
   have hyb : (y : Int) + 2 ≤ 1000000000 := by omega
   have HS5 : Hid (StM B (w3.setCell ⟨g, j * 6 + 4, none⟩ (.int .i64 (y : Int))) (.slice (some ⟨g, 0, none⟩) R.length c) (Q.set j ⟨⟨(q : Int), mtxt (q + 1), mkN (q + 2) x.s.e, mkN z x.s.f, (y : Int), x.s.els⟩, x.ve, x.vf, x.ke, x.kf⟩) [g]) := HS4.out.putS hjQ 4 (by omega) _ _ (by rw [HQ4.out]; rfl) (by rw [HQ4.out]) (by rw [HQ4.out]) (by rw [HQ4.out]) (by rw [HQ4.out]) (by rw [HQ4.out]) (by rw [HQ4.out])
   have HT5 : Hid (Tk ([g] ++ blkS R) w (w3.setCell ⟨g, j * 6 + 4, none⟩ (.int .i64 (y : Int)))) := HT4.out.trans (Tk.put _ _ _ (by simp))
   obtain ⟨o5, f5⟩ := HS5.out.cellS hjQ 5 (by omega)
   have o5' : (w3.setCell ⟨g, j * 6 + 4, none⟩ (.int .i64 (y : Int))).cell? ⟨g, j * 6 + 5, none⟩ = some (.int .i64 x.s.els) := o5
   have HS6 : Hid (StM B ((w3.setCell ⟨g, j * 6 + 4, none⟩ (.int .i64 (y : Int))).setCell ⟨g, j * 6 + 5, none⟩ (.int .i64 ((y : Int) + 1))) (.slice (some ⟨g, 0, none⟩) R.length c) (mkR k (R.take (j + 1)) ++ R.drop (j + 1)) [g]) := by
    have h6 := HS5.out.putS hjQ 5 (by omega) (.int .i64 ((y : Int) + 1)) ⟨mkSt q x.s, x.ve, x.vf, x.ke, x.kf⟩ (by
     have e1 := HNEF.out.1
     have e2 := HNEF.out.2
     have e3 := HZ.out
     have e4 := HY.out
     simp only [cellsS, mkSt, e1, e2, List.set_cons_succ, List.set_cons_zero]
     rw [show q + 2 + 3 * ne + 3 * nf = y by omega, show ((q + 3 + 3 * ne + 3 * nf : Nat) : Int) = (y : Int) + 1 by omega]) rfl rfl rfl rfl rfl (by show mkN _ _ = mkN _ _; rw [HNEF.out.1, HZ.out])
    rw [HSet.out] at h6
    exact h6
   have HT6 : Hid (Tk ([g] ++ blkS R) w ((w3.setCell ⟨g, j * 6 + 4, none⟩ (.int .i64 (y : Int))).setCell ⟨g, j * 6 + 5, none⟩ (.int .i64 ((y : Int) + 1)))) := HT5.out.trans (Tk.put _ _ _ (by simp))
   clear o4 o5 hn3 ht3 hq4 HS3 HT3 HMf o3' hy HS4 HT4 HS5 HT5
   go_wp2_with fail
   go_roundw
   case rel =>
    refine ⟨j + 1, by omega, by go_num, ?_, HS6.out, HT6.out⟩
    have e0 := HQS'.out
    have e1 := HNEF.out.1
    have e2 := HNEF.out.2
    have e3 := HZ.out
    have e4 := HY.out
    rw [show k + sumR (R.take (j + 1)) = y + 2 by omega]
    go_num
   case measure => simp [RowKit.intOf]; omega
  ·obtain rfl : j = R.length := by omega
   rw [List.take_length, List.drop_length, List.append_nil] at hS
   go_wp2_with fail
   go_ret
   exact ⟨ret_int' (by rw [List.take_length]), hS, hT⟩
end
section
open Go.RowKit
theorem blkF_cons (q : FV) (Q : List FV) : blkF (q :: Q) = blk1 q ++ blkF Q := rfl
theorem blkF_at {Q : List FV} {j : Nat} (hj : j < Q.length) {g : Nat} (hg : g ∈ blk1 Q[j]) : g ∈ blkF Q := List.mem_flatMap.2 ⟨_, List.getElem_mem hj, hg⟩
theorem blkF_sep : ∀ (Q : List FV), (blkF Q).Nodup → ∀ (i j : Nat) (hi : i < Q.length) (hj : j < Q.length), i ≠ j → ∀ g, g ∈ blk1 Q[i] → g ∉ blk1 Q[j]
 | [], _, i, j, hi, _, _, _, _ => absurd hi (by simp)
 | q :: Q, hn, i, j, hi, hj, hne, g, h1 => by
  rw [blkF_cons, List.nodup_append] at hn
  obtain ⟨-, n2, n3⟩ := hn
  cases i with
  | zero =>
   cases j with
   | zero => exact absurd rfl hne
   | succ j => exact fun h2 => n3 g h1 g (blkF_at (by simpa using hj) h2) rfl
  | succ i =>
   cases j with
   | zero => exact fun h2 => n3 g h2 g (blkF_at (by simpa using hi) h1) rfl
   | succ j => exact blkF_sep Q n2 i j (by simpa using hi) (by simpa using hj) (by omega) g h1
theorem blkF_set : ∀ (Q : List FV) (i : Nat) (hi : i < Q.length) (q : FV), blk1 q = blk1 Q[i] → blkF (Q.set i q) = blkF Q
 | [], i, hi, _, _ => absurd hi (by simp)
 | x :: Q, 0, _, q, h1 => by
  simp only [List.getElem_cons_zero] at h1
  rw [List.set_cons_zero, blkF_cons, blkF_cons, h1]
 | x :: Q, i + 1, hi, q, h1 => by
  rw [List.set_cons_succ, blkF_cons, blkF_cons, blkF_set Q i (by simpa using hi) q (by simpa using h1)]
theorem flatF_put : ∀ (Q : List FV) (i : Nat) (hi : i < Q.length) (q : FV) (c : Nat) (x : Value), c < 3 → cellsF q = (cellsF Q[i]).set c x → (flatF Q).set (i * 3 + c) x = flatF (Q.set i q)
 | [], i, hi, _, _, _, _, _ => absurd hi (by simp)
 | y :: Q, 0, _, q, c, x, hc, h => by
  simp only [List.getElem_cons_zero] at h
  show (cellsF y ++ flatF Q).set (0 * 3 + c) x = cellsF q ++ flatF Q
  have hl : (cellsF y).length = 3 := rfl
  rw [h, Nat.zero_mul, Nat.zero_add, List.set_append_left _ _ (by omega)]
 | y :: Q, i + 1, hi, q, c, x, hc, h => by
  have ih := flatF_put Q i (by simpa using hi) q c x hc (by simpa using h)
  have e : (i + 1) * 3 + c = (i * 3 + c) + 3 := by omega
  show (cellsF y ++ flatF Q).set ((i + 1) * 3 + c) x = cellsF y ++ flatF (Q.set i q)
  rw [← ih, e]
  rfl
theorem flatF_same : ∀ (Q : List FV) (i : Nat) (hi : i < Q.length) (q : FV), cellsF q = cellsF Q[i] → flatF (Q.set i q) = flatF Q
 | [], i, hi, _, _ => absurd hi (by simp)
 | y :: Q, 0, _, q, h => by
  simp only [List.getElem_cons_zero] at h
  show cellsF q ++ flatF Q = cellsF y ++ flatF Q
  rw [h]
 | y :: Q, i + 1, hi, q, h => by
  show cellsF y ++ flatF (Q.set i q) = cellsF y ++ flatF Q
  rw [flatF_same Q i (by simpa using hi) q (by simpa using h)]
structure FnM (B : Nat) (w : World) (v : Value) (Q : List FV) (K : List Nat) : Prop where
 row : ROne B w v Q.length (flatF Q) K
 each : ∀ q ∈ Q, FOk B w q
 nd : (K ++ blkF Q).Nodup
theorem FnRow.m {B : Nat} {w : World} {v : Value} {Q : List FV} (h : FnRow B w v Q) : ∃ K, FnM B w v Q K ∧ ∀ g, v.ownBlock = some g ↔ g ∈ K := by
 obtain ⟨K, h1, h2⟩ := ROne.of_own h.row
 refine ⟨K, ⟨h1, h.each, ?_⟩, h2⟩
 rw [List.nodup_append]
 refine ⟨?_, h.nd, fun a ha b hb e => ?_⟩
 ·rcases h1 with ⟨-, rfl, -⟩ | ⟨g, cap, -, rfl, -⟩ <;> simp
 ·subst e
  exact h.out a ((h2 a).2 ha) hb
theorem FnM.rng {B : Nat} {w : World} {v : Value} {Q : List FV} {K : List Nat} (h : FnM B w v Q K) : ∀ g ∈ K ++ blkF Q, B ≤ g ∧ g < w.heap.size := by
 intro g hg
 rcases List.mem_append.1 hg with hg | hg
 ·exact h.row.rng g hg
 ·obtain ⟨q, hq, hg⟩ := List.mem_flatMap.1 hg
  exact (h.each q hq).rng g hg
theorem FnM.keep {B : Nat} {w w' : World} {v : Value} {Q : List FV} {K : List Nat} (h : FnM B w v Q K) (hs : w.heap.size ≤ w'.heap.size) (hk : ∀ g ∈ K ++ blkF Q, w'.heap[g]? = w.heap[g]?) : FnM B w' v Q K :=
 ⟨h.row.keep hs (fun g hg => hk g (List.mem_append.2 (.inl hg))), fun q hq => (h.each q hq).keep hs (fun g hg => hk g (List.mem_append.2 (.inr (blkF_in hq g hg)))), h.nd⟩
theorem FnM.below {B : Nat} {w w' : World} {v : Value} {Q : List FV} {K : List Nat} (h : FnM B w v Q K) (hb : Below w.heap.size w w') : FnM B w' v Q K := h.keep hb.size (fun g hg => hb.block g (h.rng g hg).2)
theorem FnM.upd {B : Nat} {w w' : World} {v : Value} {Q : List FV} {K : List Nat} (h : FnM B w v Q K) (i : Nat) (hi : i < Q.length) (q : FV) (hs : w.heap.size ≤ w'.heap.size) (h1 : blk1 q = blk1 Q[i]) (hr : ROne B w' v Q.length (flatF (Q.set i q)) K) (hq : FOk B w' q) (hk : ∀ g ∈ blkF Q, g ∉ blk1 Q[i] → w'.heap[g]? = w.heap[g]?) : FnM B w' v (Q.set i q) K := by
 refine ⟨by rw [List.length_set]; exact hr, fun x hx => ?_, by rw [blkF_set Q i hi q h1]; exact h.nd⟩
 obtain ⟨j, hj, rfl⟩ := List.mem_iff_getElem.1 hx
 have hj' : j < Q.length := by simpa using hj
 by_cases e : i = j
 ·subst e
  rw [List.getElem_set_self]
  exact hq
 ·rw [List.getElem_set_ne e]
  have hnd := (List.nodup_append.1 h.nd).2.1
  exact (h.each _ (List.getElem_mem hj')).keep hs (fun g hg => hk g (blkF_at hj' hg) (blkF_sep Q hnd j i hj' hi (Ne.symm e) g hg))
theorem FnM.eachS {B : Nat} {w : World} {v : Value} {Q : List FV} {j : Nat} {q : FV} {K : List Nat} (h : FnM B w v (Q.set j q) K) (hj : j < Q.length) : FOk B w q :=
 h.each q (List.mem_iff_getElem.2 ⟨j, by simpa using hj, by simp⟩)
theorem FnM.putN {B : Nat} {w : World} {g n cp : Nat} {Q : List FV} (h : FnM B w (.slice (some ⟨g, 0, none⟩) n cp) Q [g]) (i : Nat) (hi : i < Q.length) (nm : ByteArray) : FnM B (w.setCell ⟨g, i * 3, none⟩ (.string nm)) (.slice (some ⟨g, 0, none⟩) n cp) (Q.set i ⟨⟨nm, Q[i].f.params, Q[i].f.body⟩, Q[i].vp, Q[i].vb, Q[i].R, Q[i].kp, Q[i].kb⟩) [g] := by
 have hnd := h.nd
 have hout : ∀ b ∈ blkF Q, b ≠ g := fun b hb e => by
  subst e
  exact (List.nodup_append.1 hnd).2.2 b (by simp) b hb rfl
 have hk : ∀ b ∈ blkF Q, (w.setCell ⟨g, i * 3, none⟩ (.string nm)).heap[b]? = w.heap[b]? := fun b hb => Below.heap_setCell _ _ _ b (fun e => hout b hb (by simpa using e))
 have hq := h.each _ (List.getElem_mem hi)
 have hq' := hq.keep (w' := w.setCell ⟨g, i * 3, none⟩ (.string nm)) (by simp) (fun b hb => hk b (blkF_at hi hb))
 refine h.upd i hi _ (by simp) rfl (h.row.mk1 (by simp) fun y hy => ?_) ⟨hq'.ps, hq'.body, hq'.map, hq'.nd⟩ (fun b hb _ => hk b hb)
 obtain rfl : g = y := by simpa using hy
 have e := flatF_put Q i hi ⟨⟨nm, Q[i].f.params, Q[i].f.body⟩, Q[i].vp, Q[i].vb, Q[i].R, Q[i].kp, Q[i].kb⟩ 0 (.string nm) (by omega) rfl
 rw [← e, Nat.add_zero]
 exact (h.row.fr g rfl).set _ _
theorem FnM.putP {B : Nat} {w w' : World} {v : Value} {Q : List FV} {j : Nat} {q : FV} {K : List Nat} (h : FnM B w v (Q.set j q) K) (hj : j < Q.length) (ps : List ByteArray) (hp : ROne B w' q.vp ps.length (flatP ps) q.kp) (hT : Tk q.kp w w') : FnM B w' v (Q.set j ⟨⟨q.f.name, ps, q.f.body⟩, q.vp, q.vb, q.R, q.kp, q.kb⟩) K := by
 have hj' : j < (Q.set j q).length := by simpa using hj
 have e : (Q.set j q)[j] = q := by simp
 have hq := h.eachS hj
 have hnd := h.nd
 have hnq : (q.kp ++ (q.kb ++ blkS q.R)).Nodup := hq.nd
 have := h.upd j hj' ⟨⟨q.f.name, ps, q.f.body⟩, q.vp, q.vb, q.R, q.kp, q.kb⟩ hT.size (by rw [e]; rfl) (h.row.mk1 hT.size fun g hg => ?_) ⟨hp, hq.body.keep hT.size (fun g hg => hT.other g (hq.body.rng g hg).2 (fun he => (List.nodup_append.1 hnq).2.2 g he g hg rfl)), hq.map, hq.nd⟩ (fun g hg hn => ?_)
 ·rwa [List.set_set] at this
 ·rw [flatF_same _ j hj' _ (by rw [e]; rfl)]
  refine (h.row.fr g hg).keep (hT.other g (h.row.rng g (by rw [hg]; simp)).2 (fun he => ?_))
  exact (List.nodup_append.1 hnd).2.2 g (by rw [hg]; simp) g (blkF_at hj' (by rw [e]; exact List.mem_append.2 (.inl he))) rfl
 ·rw [e] at hn
  exact hT.other g (h.rng g (List.mem_append.2 (.inr hg))).2 (fun he => hn (List.mem_append.2 (.inl he)))
theorem FnM.putB {B : Nat} {w w' : World} {v : Value} {Q : List FV} {j : Nat} {q : FV} {K : List Nat} (h : FnM B w v (Q.set j q) K) (hj : j < Q.length) (R : List SV) (hb : StM B w' q.vb R q.kb) (hR : blkS R = blkS q.R) (hT : Tk (q.kb ++ blkS q.R) w w') : FnM B w' v (Q.set j ⟨⟨q.f.name, q.f.params, R.map (·.s)⟩, q.vp, q.vb, R, q.kp, q.kb⟩) K := by
 have hj' : j < (Q.set j q).length := by simpa using hj
 have e : (Q.set j q)[j] = q := by simp
 have hq := h.eachS hj
 have hnd := h.nd
 have hnq : (q.kp ++ (q.kb ++ blkS q.R)).Nodup := hq.nd
 have hb1 : blk1 (⟨⟨q.f.name, q.f.params, R.map (·.s)⟩, q.vp, q.vb, R, q.kp, q.kb⟩ : FV) = blk1 q := by show q.kp ++ (q.kb ++ blkS R) = _; rw [hR]; rfl
 have := h.upd j hj' ⟨⟨q.f.name, q.f.params, R.map (·.s)⟩, q.vp, q.vb, R, q.kp, q.kb⟩ hT.size (by rw [e]; exact hb1) (h.row.mk1 hT.size fun g hg => ?_) ⟨hq.ps.keep hT.size (fun g hg => hT.other g (hq.ps.rng g hg).2 (fun he => (List.nodup_append.1 hnq).2.2 g hg g he rfl)), hb, rfl, by rw [hb1]; exact hq.nd⟩ (fun g hg hn => ?_)
 ·rwa [List.set_set] at this
 ·rw [flatF_same _ j hj' _ (by rw [e]; rfl)]
  refine (h.row.fr g hg).keep (hT.other g (h.row.rng g (by rw [hg]; simp)).2 (fun he => ?_))
  exact (List.nodup_append.1 hnd).2.2 g (by rw [hg]; simp) g (blkF_at hj' (by rw [e]; exact List.mem_append.2 (.inr he))) rfl
 ·rw [e] at hn
  exact hT.other g (h.rng g (List.mem_append.2 (.inr hg))).2 (fun he => hn (List.mem_append.2 (.inr he)))
theorem FnM.cell {B : Nat} {w : World} {g n cp : Nat} {Q : List FV} (h : FnM B w (.slice (some ⟨g, 0, none⟩) n cp) Q [g]) (i : Nat) (hi : i < Q.length) (c : Nat) (hc : c < 3) : w.cell? ⟨g, i * 3 + c, none⟩ = (cellsF Q[i])[c]? ∧ w.frozen? ⟨g, i * 3 + c, none⟩ = false := by
 have hl : c < (cellsF Q[i]).length := hc
 have e := flatF_get Q i c hi hc
 rw [List.getElem?_eq_getElem hl] at e ⊢
 exact h.row.fr g rfl _ _ e
theorem FnM.cellS {B : Nat} {w : World} {g n cp : Nat} {Q : List FV} {j : Nat} {q : FV} (h : FnM B w (.slice (some ⟨g, 0, none⟩) n cp) (Q.set j q) [g]) (hj : j < Q.length) (c : Nat) (hc : c < 3) : w.cell? ⟨g, j * 3 + c, none⟩ = (cellsF q)[c]? ∧ w.frozen? ⟨g, j * 3 + c, none⟩ = false := by
 have := h.cell j (by simpa using hj) c hc
 rwa [show (Q.set j q)[j]'(by simpa using hj) = q by simp] at this
def mkV (k : Nat) (q : FV) : FV := ⟨⟨mtxt k, mkP (k + 1) q.f.params, (mkR (k + 1 + q.f.params.length) q.R).map (·.s)⟩, q.vp, q.vb, mkR (k + 1 + q.f.params.length) q.R, q.kp, q.kb⟩
def mkQ (k : Nat) : List FV → List FV
 | [] => []
 | q :: Q => mkV k q :: mkQ (k + (1 + q.f.params.length + sumR q.R)) Q
def sumV (q : FV) : Nat := 1 + q.f.params.length + sumR q.R
def sumQ (Q : List FV) : Nat := sumBy sumV Q
theorem mkQ_len (k : Nat) (Q : List FV) : (mkQ k Q).length = Q.length := by
 induction Q generalizing k with
 | nil => rfl
 | cons n r ih => simp [mkQ, ih]
theorem mkQ_snoc (k : Nat) (l : List FV) (q : FV) : mkQ k (l ++ [q]) = mkQ k l ++ [mkV (k + sumQ l) q] := by
 induction l generalizing k with
 | nil => simp [mkQ, sumQ, sumBy]
 | cons a r ih =>
  have e : sumQ (a :: r) = sumV a + sumQ r := by simp [sumQ, sumBy]
  simp only [List.cons_append, mkQ, ih]
  rw [e, sumV, ← Nat.add_assoc k (1 + a.f.params.length + sumR a.R)]
theorem mkQ_step (k : Nat) (Q : List FV) (j : Nat) (hj : j < Q.length) : ∃ (h : j < (mkQ k (Q.take j) ++ Q.drop j).length), (mkQ k (Q.take j) ++ Q.drop j)[j] = Q[j] ∧ (mkQ k (Q.take j) ++ Q.drop j).set j (mkV (k + sumQ (Q.take j)) Q[j]) = mkQ k (Q.take (j + 1)) ++ Q.drop (j + 1) := by
 have hl : (mkQ k (Q.take j)).length = j := by rw [mkQ_len, List.length_take, Nat.min_eq_left (by omega)]
 refine ⟨by rw [List.length_append, hl, List.length_drop]; omega, ?_, ?_⟩
 ·rw [List.getElem_append_right (by omega)]
  simp [hl]
 ·rw [List.drop_eq_getElem_cons hj, take_succ' hj, mkQ_snoc, List.set_append_right _ _ (by omega), hl, Nat.sub_self, List.set_cons_zero, List.append_assoc]
  rfl
end
section
open Go.RowKit
theorem sumQ_step (Q : List FV) (j : Nat) (hj : j < Q.length) : sumQ (Q.take (j + 1)) = sumQ (Q.take j) + sumV Q[j] := sumBy_step sumV Q j hj
def smallV (q : FV) : Prop := q.f.params.length ≤ 1048576 ∧ q.R.length ≤ 1048576 ∧ ∀ x ∈ q.R, smallS x.s
set_option maxHeartbeats 2000000 in
theorem markFo_any (B : Nat) (v : Value) (Q : List FV) (K : List Nat) (k : Nat) (w : World) (hn : Q.length ≤ 1048576) (hsm : ∀ q ∈ Q, smallV q) (h0 : 0 < k) (hk : (k : Int) + (sumQ Q : Nat) ≤ 1000000000) (h : FnM B w v Q K) :
  Calls Tryz.prog 63 #[v, .int .i64 k] w fun e w' => e = .returned (.int .i64 ((k + sumQ Q : Nat) : Int)) ∧ FnM B w' v (mkQ k Q) K ∧ Tk (K ++ blkF Q) w w' := by
 have HP : Hid (FnM B w v Q K) := h
 have HSM : Hid (∀ q ∈ Q, smallV q) := hsm
 have HK : Hid ((k : Int) + (sumQ Q : Nat) ≤ 1000000000) := hk
 obtain ⟨a, c, rfl, -⟩ := h.row.slice
 clear hsm hk h
 go_enter Tryz.func63, Tryz.ntmps63
 go_wp2_with fail
 go_loopw [1, 5] (fun q i wr => ∃ j : Nat, j ≤ Q.length ∧ i = .int .i64 j ∧ q = .int .i64 ((k + sumQ (Q.take j) : Nat) : Int) ∧ FnM B wr (.slice a Q.length c) (mkQ k (Q.take j) ++ Q.drop j) K ∧ Tk (K ++ blkF Q) w wr) (fun _ i _ => Q.length - (RowKit.intOf i).toNat)
 case atStart => exact ⟨0, Nat.zero_le _, rfl, by simp [sumQ, sumBy], by simpa [mkQ] using HP.out, Tk.refl _ _⟩
 case round =>
  obtain ⟨j, hj, rfl, rfl, hS, hT⟩ := hrel
  by_cases hlt : j < Q.length
  ·obtain ⟨hjl, hget, hset⟩ := mkQ_step k Q j hlt
   obtain ⟨P, hP⟩ : ∃ P, P = mkQ k (Q.take j) ++ Q.drop j := ⟨_, rfl⟩
   rw [← hP] at hS hset
   have hjP : j < P.length := by rw [hP]; exact hjl
   have hgP : P[j] = Q[j] := by simp only [hP]; exact hget
   obtain ⟨g, rfl, hKg, -, hBg, hgl, -⟩ := hS.row.pos (by omega)
   have hst := sumQ_step Q j hlt
   have hle : sumQ (Q.take (j + 1)) ≤ sumQ Q := sumBy_le sumV Q (j + 1)
   have hsm := HSM.out Q[j] (List.getElem_mem hlt)
   have hcs : sumV Q[j] = 1 + Q[j].f.params.length + sumR Q[j].R := rfl
   have hKK := HK.out
   obtain ⟨q, hq⟩ : ∃ q, k + sumQ (Q.take j) = q := ⟨_, rfl⟩
   obtain ⟨x, hx⟩ : ∃ x, Q[j] = x := ⟨_, rfl⟩
   rw [hx] at hgP hset hsm hcs hst
   have HQS : Hid (k + sumQ (Q.take (j + 1)) = q + (1 + x.f.params.length + sumR x.R)) := by show _ = _; omega
   have hqb : (q : Int) + 1 + x.f.params.length + (sumR x.R : Nat) ≤ 1000000000 := by omega
   have hq0 : 0 < q := by omega
   rw [hq] at hset
   obtain ⟨hsp, hsb, hss⟩ := hsm
   have HSS : Hid (∀ y ∈ x.R, smallS y.s) := hss
   subst hKg
   obtain ⟨o0, f0⟩ := hS.cell j hjP 0 (by omega)
   rw [hgP, Nat.add_zero] at o0
   rw [Nat.add_zero] at f0
   have HS0 : Hid (FnM B wr (.slice (some ⟨g, 0, none⟩) Q.length c) P [g]) := hS
   have HT0 : Hid (Tk ([g] ++ blkF Q) w wr) := hT
   have HSet : Hid (P.set j (mkV q x) = mkQ k (Q.take (j + 1)) ++ Q.drop (j + 1)) := hset
   have HXin : Hid (∀ y ∈ blk1 x, y ∈ [g] ++ blkF Q) := by
    rw [← hx]
    exact fun y hy => List.mem_append.2 (.inr (blkF_at hlt hy))
   have HG : Hid (P[j] = x) := hgP
   rw [hq]
   clear hS hget hset hst hle hcs hKK hq hT hjl hss hgP o0 f0
   go_wp2_with fail
   refine (mtext_any q (by omega) (by omega) _).mono ?_
   rintro e w1 ⟨rfl, hb1⟩
   have S1 := HS0.out.below hb1
   obtain ⟨o0, f0⟩ := S1.cell j hjP 0 (by omega)
   rw [HG.out, Nat.add_zero] at o0
   rw [Nat.add_zero] at f0
   have o0' : w1.cell? ⟨g, j * 3, none⟩ = some (.string x.f.name) := o0
   obtain ⟨W2, hW2⟩ : ∃ W2, W2 = w1.setCell ⟨g, j * 3, none⟩ (.string (mtxt q)) := ⟨_, rfl⟩
   have HS2 : Hid (FnM B W2 (.slice (some ⟨g, 0, none⟩) Q.length c) (P.set j ⟨⟨mtxt q, x.f.params, x.f.body⟩, x.vp, x.vb, x.R, x.kp, x.kb⟩) [g]) := by
    have := S1.putN j hjP (mtxt q)
    rw [HG.out, ← hW2] at this
    exact this
   have HT2 : Hid (Tk ([g] ++ blkF Q) w W2) := by rw [hW2]; exact (HT0.out.trans (Tk.of_below hb1)).trans (Tk.put _ _ _ (by simp))
   obtain ⟨o1, -⟩ := HS2.out.cellS hjP 1 (by omega)
   have hok := HS2.out.eachS hjP
   obtain ⟨pa, pc, hvp, -⟩ := hok.ps.slice
   have hvp' : x.vp = .slice pa x.f.params.length pc := hvp
   have o1' : (w1.setCell ⟨g, j * 3, none⟩ (.string (mtxt q))).cell? ⟨g, j * 3 + 1, none⟩ = some (.slice pa x.f.params.length pc) := by rw [← hW2, ← hvp']; exact o1
   have HMp : Hid (Calls Tryz.prog 100 #[.slice pa x.f.params.length pc, .int .i64 ((q + 1 : Nat) : Int)] W2 fun e w' => e = .returned (.int .i64 ((q + 1 + 1 * x.f.params.length : Nat) : Int)) ∧ ROne B w' (.slice pa x.f.params.length pc) x.f.params.length (flatP (mkP (q + 1) x.f.params)) x.kp ∧ Tk x.kp W2 w') := by
    have h1 : ROne B W2 x.vp x.f.params.length (flatP x.f.params) x.kp := hok.ps
    rw [hvp'] at h1
    exact markPo_any B _ x.f.params x.kp (q + 1) W2 hsp (by omega) (by omega) h1
   have HVp : Hid (x.vp = .slice pa x.f.params.length pc) := hvp'
   have HW2 : Hid (W2 = _) := hW2
   obtain ⟨np, hnp⟩ : ∃ np, x.f.params.length = np := ⟨_, rfl⟩
   have HNp : Hid (x.f.params.length = np) := hnp
   rw [hnp] at o1' hqb hsp
   clear o0 o1 hok hvp hvp' hb1 S1 HS0 HT0 hW2
   rw [hnp] at HMp HVp
   clear hnp
   go_wp2_with fail
   rw [← HW2.out, show ((q : Int) + 1) = ((q + 1 : Nat) : Int) by omega]
   refine HMp.out.mono ?_
   rintro e w2 ⟨rfl, hp2, ht2⟩
   have HS3 : Hid (FnM B w2 (.slice (some ⟨g, 0, none⟩) Q.length c) (P.set j ⟨⟨mtxt q, mkP (q + 1) x.f.params, x.f.body⟩, x.vp, x.vb, x.R, x.kp, x.kb⟩) [g]) := by
    refine HS2.out.putP hjP (mkP (q + 1) x.f.params) ?_ ht2
    show ROne B w2 x.vp (mkP (q + 1) x.f.params).length _ x.kp
    rw [mkP_len, HVp.out, HNp.out]
    exact hp2
   have HT3 : Hid (Tk ([g] ++ blkF Q) w w2) := HT2.out.trans (ht2.mono (fun y hy => HXin.out y (List.mem_append.2 (.inl hy))))
   obtain ⟨o2, -⟩ := HS3.out.cellS hjP 2 (by omega)
   have hok := HS3.out.eachS hjP
   obtain ⟨ba, bc, hvb, -⟩ := hok.body.row.slice
   have hvb' : x.vb = .slice ba x.R.length bc := hvb
   have o2' : w2.cell? ⟨g, j * 3 + 2, none⟩ = some (.slice ba x.R.length bc) := by rw [← hvb']; exact o2
   obtain ⟨z, hz⟩ : ∃ z, q + 1 + 1 * np = z := ⟨_, rfl⟩
   have hzb : (z : Int) + (sumR x.R : Nat) ≤ 1000000000 := by omega
   have HMb : Hid (Calls Tryz.prog 101 #[.slice ba x.R.length bc, .int .i64 ((z : Nat) : Int)] w2 fun e w' => e = .returned (.int .i64 ((z + sumR x.R : Nat) : Int)) ∧ StM B w' (.slice ba x.R.length bc) (mkR z x.R) x.kb ∧ Tk (x.kb ++ blkS x.R) w2 w') := by
    have h1 : StM B w2 x.vb x.R x.kb := hok.body
    rw [hvb'] at h1
    exact markSo_any B _ x.R x.kb z w2 hsb HSS.out (by omega) hzb h1
   have HVb : Hid (x.vb = .slice ba x.R.length bc) := hvb'
   have HZ : Hid (q + 1 + 1 * np = z) := hz
   rw [hz]
   clear o2 hok hvb hvb' hz hp2 ht2 HS2 HT2 HMp o1' o0' f0 HW2 hqb
   go_wp2_with fail
   refine HMb.out.mono ?_
   rintro e w3 ⟨rfl, hb3, ht3⟩
   have HS4 : Hid (FnM B w3 (.slice (some ⟨g, 0, none⟩) Q.length c) (mkQ k (Q.take (j + 1)) ++ Q.drop (j + 1)) [g]) := by
    have h1 := HS3.out.putB hjP (mkR z x.R) (by show StM B w3 x.vb _ x.kb; rw [HVb.out]; exact hb3) (mkR_blk _ _) ht3
    have e : z = q + 1 + x.f.params.length := by have := HZ.out; have := HNp.out; omega
    rw [← HSet.out, mkV, ← e]
    exact h1
   have HT4 : Hid (Tk ([g] ++ blkF Q) w w3) := HT3.out.trans (ht3.mono (fun y hy => HXin.out y (List.mem_append.2 (.inr hy))))
   obtain ⟨y, hy⟩ : ∃ y, z + sumR x.R = y := ⟨_, rfl⟩
   have HY : Hid (z + sumR x.R = y) := hy
   rw [hy]
   clear hb3 ht3 HS3 HT3 HMb o2' hy hzb
   go_wp2_with fail
   go_roundw
   case rel =>
    refine ⟨j + 1, by omega, by go_num, ?_, HS4.out, HT4.out⟩
    have e0 := HQS.out
    have e1 := HNp.out
    have e3 := HZ.out
    have e4 := HY.out
    rw [show k + sumQ (Q.take (j + 1)) = y by omega]
   case measure => simp [RowKit.intOf]; omega
  ·obtain rfl : j = Q.length := by omega
   rw [List.take_length, List.drop_length, List.append_nil] at hS
   go_wp2_with fail
   go_ret
   exact ⟨ret_int' (by rw [List.take_length]), hS, hT⟩
end
section
open Go.RowKit
set_option maxHeartbeats 1000000 in
theorem heldNo_any (v : Value) (ns : List Nd) (q : Nat) (w : World) (hn : ns.length ≤ 1048576) (h0 : 0 < q) (hq : (q : Int) + 3 * ns.length ≤ 1000000000) (h : Nodes w v (mkN q ns)) :
  Calls Tryz.prog 136 #[v, .int .i64 q] w fun e w' => e = .returned (.int .i64 ((q + 3 * ns.length : Nat) : Int)) ∧ Below w.heap.size w w' := by
 obtain ⟨a, cap, rfl, -, -, hc⟩ := h
 rw [mkN_len] at *
 have H : Hid (0 < ns.length → ∃ b off, a = some ⟨b, off, none⟩ ∧ NodesC w b off (mkN q ns)) := hc
 clear hc
 go_enter Tryz.func136, Tryz.ntmps136
 go_wp2_with fail
 go_loopw [1, 5] (fun kk i wr => ∃ k : Nat, k ≤ ns.length ∧ i = .int .i64 k ∧ kk = .int .i64 ((q + 3 * k : Nat) : Int) ∧ Below w.heap.size w wr) (fun _ i _ => ns.length - (RowKit.intOf i).toNat)
 case atStart => exact ⟨0, Nat.zero_le _, rfl, rfl, Below.refl _ _⟩
 case round =>
  obtain ⟨k, hk, rfl, rfl, hB⟩ := hrel
  by_cases hlt : k < ns.length
  ·obtain ⟨b, off, rfl, hcc⟩ := H.out (by omega)
   obtain ⟨c0, c1, c2⟩ := (hcc.below hB) k (by rw [mkN_len]; exact hlt)
   rw [mkN_get] at c0 c1 c2
   obtain ⟨z, hz⟩ : ∃ z : Nat, z = q + 3 * k := ⟨_, rfl⟩
   have HZ : Hid (z = q + 3 * k) := hz
   simp only at c0 c1 c2
   rw [← hz] at c0 c1 c2 ⊢
   have hz0 : 0 < z := by omega
   have hz1 : (z : Int) + 3 ≤ 1000000000 := by omega
   have e1 : ((z + 1 : Nat) : Int) = (z : Int) + 1 := by omega
   rw [e1] at c1
   clear hz e1 hcc
   go_wp2_with fail
   rw [show ((z : Int) + 1 + 1) = ((z + 2 : Nat) : Int) by omega]
   have hl := World.block_lt_of_cell? _ _ c2
   simp only at hl
   clear c0 c1
   have hm0 : (((z + 2 : Nat) : Nat) : Int) ≤ 1000000000 := by omega
   have hm1 : 0 < z + 2 := by omega
   go_region_held3 (fun W => W.cell? ⟨b, off + k * 3 + 2, none⟩ = some (.string (mtxt (z + 2)))) (go_simp)
    (first
    | (go_at_call 99; refine (mtext_any (z + 2) hm0 hm1 _).mono ?_; rintro e w2 ⟨rfl, hb2⟩; have hcc : ∀ b o, b < wr.heap.size → w2.cell? ⟨b, o, none⟩ = wr.cell? ⟨b, o, none⟩ := (bcell hb2).1))
   have hB2 := hB.trans ((((Below.refl _ _).drew).trans hb2).mono hB.size)
   go_wp2_with fail
   go_roundw
   case rel => exact ⟨k + 1, by omega, by go_num, by rw [HZ.out]; go_num, hB2⟩
   case measure => simp [RowKit.intOf]; omega
  ·obtain rfl : k = ns.length := by omega
   go_wp2_with fail
   go_ret
   exact ⟨rfl, hB⟩
set_option maxHeartbeats 1000000 in
theorem heldPo_any (v : Value) (ns : List ByteArray) (q : Nat) (w : World) (hn : ns.length ≤ 1048576) (h0 : 0 < q) (hq : (q : Int) + 1 * ns.length ≤ 1000000000) (h : Strs w v (mkP q ns)) :
  Calls Tryz.prog 102 #[v, .int .i64 q] w fun e w' => e = .returned (.int .i64 ((q + 1 * ns.length : Nat) : Int)) ∧ Below w.heap.size w w' := by
 obtain ⟨a, cap, rfl, -, -, hc⟩ := h
 rw [mkP_len] at *
 have H : Hid (0 < ns.length → ∃ b off, a = some ⟨b, off, none⟩ ∧ StrsC w b off (mkP q ns)) := hc
 clear hc
 go_enter Tryz.func102, Tryz.ntmps102
 go_wp2_with fail
 go_loopw [1, 5] (fun kk i wr => ∃ k : Nat, k ≤ ns.length ∧ i = .int .i64 k ∧ kk = .int .i64 ((q + 1 * k : Nat) : Int) ∧ Below w.heap.size w wr) (fun _ i _ => ns.length - (RowKit.intOf i).toNat)
 case atStart => exact ⟨0, Nat.zero_le _, rfl, rfl, Below.refl _ _⟩
 case round =>
  obtain ⟨k, hk, rfl, rfl, hB⟩ := hrel
  by_cases hlt : k < ns.length
  ·obtain ⟨b, off, rfl, hcc⟩ := H.out (by omega)
   have c2 := (hcc.below hB) k (by rw [mkP_len]; exact hlt)
   rw [mkP_get] at c2
   obtain ⟨z, hz⟩ : ∃ z : Nat, z = q + 1 * k := ⟨_, rfl⟩
   have HZ : Hid (z = q + 1 * k) := hz
   rw [show q + k = z by omega] at c2
   rw [← hz]
   have hz0 : 0 < z := by omega
   have hz1 : (z : Int) + 1 ≤ 1000000000 := by omega
   clear hz hcc
   have hl := World.block_lt_of_cell? _ _ c2
   simp only at hl
   have hm0 : (z : Int) ≤ 1000000000 := by omega
   go_wp2_with fail
   go_region_held3 (fun W => W.cell? ⟨b, off + k, none⟩ = some (.string (mtxt z))) (go_simp)
    (first
    | (go_at_call 99; refine (mtext_any z hm0 hz0 _).mono ?_; rintro e w2 ⟨rfl, hb2⟩; have hcc : ∀ b o, b < wr.heap.size → w2.cell? ⟨b, o, none⟩ = wr.cell? ⟨b, o, none⟩ := (bcell hb2).1))
   have hB2 := hB.trans ((((Below.refl _ _).drew).trans hb2).mono hB.size)
   go_wp2_with fail
   go_roundw
   case rel => exact ⟨k + 1, by omega, by go_num, by rw [HZ.out]; go_num, hB2⟩
   case measure => simp [RowKit.intOf]; omega
  ·obtain rfl : k = ns.length := by omega
   go_wp2_with fail
   go_ret
   exact ⟨rfl, hB⟩
set_option maxHeartbeats 1000000 in
theorem heldGo_any (v : Value) (ns : List Gl) (q : Nat) (w : World) (hn : ns.length ≤ 1048576) (h0 : 0 < q) (hq : (q : Int) + 2 * ns.length ≤ 1000000000) (h : Globs w v (mkG q ns)) :
  Calls Tryz.prog 64 #[v, .int .i64 q] w fun e w' => e = .returned (.int .i64 ((q + 2 * ns.length : Nat) : Int)) ∧ Below w.heap.size w w' := by
 obtain ⟨a, cap, rfl, -, -, hc⟩ := h
 rw [mkG_len] at *
 have H : Hid (0 < ns.length → ∃ b off, a = some ⟨b, off, none⟩ ∧ GlobsC w b off (mkG q ns)) := hc
 clear hc
 go_enter Tryz.func64, Tryz.ntmps64
 go_wp2_with fail
 go_loopw [1, 5] (fun kk i wr => ∃ k : Nat, k ≤ ns.length ∧ i = .int .i64 k ∧ kk = .int .i64 ((q + 2 * k : Nat) : Int) ∧ Below w.heap.size w wr) (fun _ i _ => ns.length - (RowKit.intOf i).toNat)
 case atStart => exact ⟨0, Nat.zero_le _, rfl, rfl, Below.refl _ _⟩
 case round =>
  obtain ⟨k, hk, rfl, rfl, hB⟩ := hrel
  by_cases hlt : k < ns.length
  ·obtain ⟨b, off, rfl, hcc⟩ := H.out (by omega)
   obtain ⟨c0, c1⟩ := (hcc.below hB) k (by rw [mkG_len]; exact hlt)
   rw [mkG_get] at c0 c1
   obtain ⟨z, hz⟩ : ∃ z : Nat, z = q + 2 * k := ⟨_, rfl⟩
   have HZ : Hid (z = q + 2 * k) := hz
   simp only at c0 c1
   rw [← hz] at c0 c1 ⊢
   have hz0 : 0 < z := by omega
   have hz1 : (z : Int) + 2 ≤ 1000000000 := by omega
   have e1 : ((z + 1 : Nat) : Int) = (z : Int) + 1 := by omega
   rw [e1] at c1
   clear hz e1 hcc
   have hl := World.block_lt_of_cell? _ _ c0
   simp only at hl
   have hm0 : (z : Int) ≤ 1000000000 := by omega
   have HC1 : Hid (wr.cell? ⟨b, off + k * 2 + 1, none⟩ = some (.int .i64 ((z : Int) + 1))) := c1
   clear c1
   go_wp2_with fail
   go_region_held3 (fun W => W.cell? ⟨b, off + k * 2, none⟩ = some (.string (mtxt z))) (go_simp)
    (first
    | (go_at_call 99; refine (mtext_any z hm0 hz0 _).mono ?_; rintro e w2 ⟨rfl, hb2⟩; have hcc : ∀ b o, b < wr.heap.size → w2.cell? ⟨b, o, none⟩ = wr.cell? ⟨b, o, none⟩ := (bcell hb2).1))
   have hB2 := hB.trans ((((Below.refl _ _).drew).trans hb2).mono hB.size)
   have c1 := (hcc b (off + k * 2 + 1) hl).trans HC1.out
   clear hcc
   go_wp2_with fail
   go_roundw
   case rel => exact ⟨k + 1, by omega, by go_num, by rw [HZ.out]; go_num, hB2⟩
   case measure => simp [RowKit.intOf]; omega
  ·obtain rfl : k = ns.length := by omega
   go_wp2_with fail
   go_ret
   exact ⟨rfl, hB⟩
end
end Go.Proofs.YtlamjfhhefcohaaGreatDoor
