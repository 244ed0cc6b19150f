import Derived.WalkKit
import Derived.Test.YtpdndlghjldhjaaGreatM00
import Derived.OwnWalk
import Derived.Laws.OwnMore
import Derived.RowKit
namespace Go.Proofs.YtpdndlghjldhjaaGreat
set_option linter.unusedVariables false
set_option linter.unusedSimpArgs false
set_option maxRecDepth 100000
set_option maxHeartbeats 16000000
section
structure Nd where
 kind : Int
 val : Int
 name : ByteArray
structure St where
 kind : Int
 name : ByteArray
 e : List Nd
 f : List Nd
 thn : Int
 els : Int
structure Fu where
 name : ByteArray
 params : List ByteArray
 body : List St
structure Gl where
 name : ByteArray
 size : Int
structure Tr where
 globals : List Gl
 funcs : List Fu
def smallB (c : Int) : Bool := decide (97 ≤ c ∧ c ≤ 122 ∨ c = 95)
def digitB (c : Int) : Bool := decide (48 ≤ c ∧ c ≤ 57)
def laterB (c : Int) : Bool := smallB c || digitB c
def resB (s : ByteArray) : Bool :=
 s.toList == [105, 110, 116] || s.toList == [105, 102] || s.toList == [101, 108, 115, 101] || s.toList == [119, 104, 105, 108, 101] || s.toList == [114, 101, 116, 117, 114, 110] || s.toList == [105, 110] || s.toList == [111, 117, 116]
def byteAt (s : ByteArray) (k : Nat) : Int := ((s.data.toList.getD k 0).toNat : Int)
def laterTo (s : ByteArray) (k : Nat) : Prop := ∀ j, j < k → laterB (byteAt s j) = true
def nameP (s : ByteArray) : Prop := 1 ≤ s.size ∧ s.size ≤ 20 ∧ smallB (byteAt s 0) = true ∧ (∀ j, j < s.size → laterB (byteAt s j) = true) ∧ resB s = false
def nameB (s : ByteArray) : Bool := @decide (nameP s) (inferInstanceAs (Decidable (1 ≤ s.size ∧ s.size ≤ 20 ∧ smallB (byteAt s 0) = true ∧ (∀ j, j < s.size → laterB (byteAt s j) = true) ∧ resB s = false)))
def arity (n : Nd) : Int := if n.kind = 3 ∨ n.kind = 6 then 1 else if n.kind = 4 then n.val else if n.kind = 7 ∨ n.kind = 8 ∨ n.kind = 9 then 2 else 0
def nodeB (n : Nd) : Bool :=
 if n.kind = 1 then decide (-2147483648 ≤ n.val ∧ n.val ≤ 2147483647) && n.name.toList == []
 else if n.kind = 2 ∨ n.kind = 3 then decide (n.val = 0) && nameB n.name
 else if n.kind = 4 then decide (0 ≤ n.val ∧ n.val ≤ 6) && nameB n.name
 else if n.kind = 6 then decide (0 ≤ n.val ∧ n.val ≤ 2) && n.name.toList == []
 else if n.kind = 7 then decide (0 ≤ n.val ∧ n.val ≤ 15) && n.name.toList == []
 else if n.kind = 5 ∨ n.kind = 8 ∨ n.kind = 9 then decide (n.val = 0) && n.name.toList == []
 else false
theorem arity_good {n : Nd} (h : nodeB n = true) : 0 ≤ arity n ∧ arity n ≤ 6 := by
 unfold nodeB at h
 unfold arity
 by_cases h4 : n.kind = 4
 ·simp [h4] at h ⊢
  omega
 ·split <;> (try split) <;> (try split) <;> omega
def wholeTo : List Nd → Int → Option Int
 | [], k => some k
 | n :: r, k => if nodeB n = true ∧ arity n ≤ k then wholeTo r (k + 1 - arity n) else none
def oneB (e : List Nd) : Bool := wholeTo e 0 == some 1
theorem kind_good {n : Nd} (h : nodeB n = true) : 1 ≤ n.kind ∧ n.kind ≤ 9 := by
 by_cases hk : n.kind < 1 ∨ 9 < n.kind
 ·unfold nodeB at h
  rw [if_neg (by omega), if_neg (by omega), if_neg (by omega), if_neg (by omega), if_neg (by omega), if_neg (by omega)] at h
  cases h
 ·omega
theorem wholeTo_append (a b : List Nd) (k : Int) : wholeTo (a ++ b) k = (wholeTo a k).bind (wholeTo b) := by
 induction a generalizing k with
 | nil => rfl
 | cons n r ih =>
  simp only [List.cons_append, wholeTo]
  split
  ·exact ih _
  ·rfl
theorem take_succ {α : Type} (l : List α) (k : Nat) (h : k < l.length) : l.take (k + 1) = l.take k ++ [l[k]] := by
 rw [List.take_succ_eq_append_getElem h]
theorem wholeTo_step (l : List Nd) (k : Nat) (q : Int) (h : k < l.length) (hq : wholeTo (l.take k) 0 = some q) :
  wholeTo (l.take (k + 1)) 0 = if nodeB l[k] = true ∧ arity l[k] ≤ q then some (q + 1 - arity l[k]) else none := by
 rw [take_succ l k h, wholeTo_append, hq]
 simp [wholeTo]
end
section
structure Ins where
 op : Int
 rd : Int
 s1 : Int
 s2 : Int
 im : Int
structure It where
 kind : Int
 ins : Ins
 label : Int
def it0 : It := ⟨0, ⟨0, 0, 0, 0, 0⟩, 0⟩
def szB (it : It) (l : Bool) : Nat := if it.kind = 2 then 0 else if l then 2 else 1
def plN (its : List It) (lg : List Bool) : Nat → Nat
 | 0 => 0
 | k + 1 => plN its lg k + szB (its.getD k it0) (lg.getD k false)
theorem plN_le (its : List It) (lg : List Bool) (k : Nat) : plN its lg k ≤ 2 * k := by
 induction k with
 | zero => simp [plN]
 | succ k ih =>
  have : szB (its.getD k it0) (lg.getD k false) ≤ 2 := by
   unfold szB
   split
   ·omega
   ·split <;> omega
  simp only [plN]
  omega
def isL (x : It) (lab : Int) : Bool := decide (x.kind = 2 ∧ x.label = lab)
def posL (its : List It) (lab : Int) : List Nat := (List.range its.length).filter (fun k => isL (its.getD k it0) lab)
theorem posL_snoc (its : List It) (x : It) (lab : Int) : posL (its ++ [x]) lab = posL its lab ++ (if isL x lab then [its.length] else []) := by
 unfold posL
 rw [List.length_append, List.length_singleton, List.range_succ, List.filter_append]
 congr 1
 ·apply List.filter_congr
  intro k hk
  have hk := List.mem_range.1 hk
  simp [List.getD, List.getElem?_append_left hk]
 ·have e : (its ++ [x]).getD its.length it0 = x := by simp [List.getD]
  simp only [List.filter_cons, List.filter_nil, e]
theorem posL_mem {its : List It} {lab : Int} {k : Nat} (h : k ∈ posL its lab) : k < its.length ∧ isL (its.getD k it0) lab = true := by
 simpa [posL] using h
theorem mem_posL {its : List It} {lab : Int} {k : Nat} (h : k < its.length) (hl : isL (its.getD k it0) lab = true) : k ∈ posL its lab := by
 simpa [posL] using ⟨h, hl⟩
theorem posL_take_le (its : List It) (k : Nat) (lab : Int) : (posL (its.take k) lab).length ≤ (posL its lab).length := by
 have key : ∀ d, k + d ≤ its.length → (posL (its.take k) lab).length ≤ (posL (its.take (k + d)) lab).length := by
  intro d
  induction d with
  | zero => intro _; exact Nat.le_refl _
  | succ d ih =>
   intro h
   have e : its.take (k + (d + 1)) = its.take (k + d) ++ [its[k + d]] := by
    rw [← Nat.add_assoc, List.take_add_one, List.getElem?_eq_getElem (by omega)]
    rfl
   rw [e, posL_snoc, List.length_append]
   have := ih (by omega)
   omega
 by_cases hk : k ≤ its.length
 ·have := key (its.length - k) (by omega)
  rw [show k + (its.length - k) = its.length by omega, List.take_length] at this
  exact this
 ·rw [List.take_of_length_le (by omega)]
  exact Nat.le_refl _
def Linked (its : List It) : Prop := ∀ i, i < its.length → (its.getD i it0).kind ≠ 1 → (posL its (its.getD i it0).label).length = 1
def tgt (its : List It) (i : Nat) : Nat := if (its.getD i it0).kind = 1 then 0 else (posL its (its.getD i it0).label).headD 0
theorem tgt_lt {its : List It} (h : Linked its) {i : Nat} (hi : i < its.length) : tgt its i < its.length := by
 unfold tgt
 split
 ·omega
 ·rename_i hk
  have h1 := h i hi hk
  cases e : posL its (its.getD i it0).label with
  | nil => rw [e] at h1; cases h1
  | cons k r =>
   have : k ∈ posL its (its.getD i it0).label := by rw [e]; simp
   exact (posL_mem this).1
def farN (its : List It) (lg : List Bool) (i : Nat) : Int := 4 * (plN its lg (tgt its i) : Int) - 4 * (plN its lg i : Int)
def reach (x : Int) : Bool := decide (-4096 ≤ x ∧ x ≤ 4094)
def grows (its : List It) (lg : List Bool) (i : Nat) : Bool := decide ((its.getD i it0).kind = 3) && !lg.getD i false && !reach (farN its lg i)
def turn (its : List It) (lg : List Bool) : List Bool := (List.range lg.length).map (fun i => lg.getD i false || grows its lg i)
theorem turn_len (its : List It) (lg : List Bool) : (turn its lg).length = lg.length := by simp [turn]
theorem turn_at (its : List It) (lg : List Bool) (i : Nat) (h : i < lg.length) : (turn its lg).getD i false = (lg.getD i false || grows its lg i) := by simp [turn, List.getD, h]
def turns (its : List It) : Nat → List Bool
 | 0 => List.replicate its.length false
 | m + 1 => turn its (turns its m)
theorem turns_len (its : List It) (m : Nat) : (turns its m).length = its.length := by
 induction m with
 | zero => simp [turns]
 | succ m ih => simp [turns, turn_len, ih]
def Fin (its : List It) (lg : List Bool) : Prop := (∃ m, lg = turns its m) ∧ turn its lg = lg
theorem turns_stop {its : List It} {m : Nat} (h : turn its (turns its m) = turns its m) : ∀ d, turns its (m + d) = turns its m := by
 intro d
 induction d with
 | zero => rfl
 | succ d ih => rw [← Nat.add_assoc]; simp only [turns]; rw [ih, h]
theorem Fin.one {its : List It} {l l' : List Bool} (h : Fin its l) (h' : Fin its l') : l = l' := by
 obtain ⟨⟨m, rfl⟩, hm⟩ := h
 obtain ⟨⟨m', rfl⟩, hm'⟩ := h'
 by_cases hle : m ≤ m'
 ·obtain ⟨d, rfl⟩ := Nat.exists_eq_add_of_le hle
  exact (turns_stop hm d).symm
 ·obtain ⟨d, rfl⟩ := Nat.exists_eq_add_of_le (show m' ≤ m by omega)
  exact turns_stop hm' d
end
section
open Go.RowKit
section
variable {P : Program} {w : World}
theorem app_freshG (base : Nat) (t ty e : TypeId) (i : TypeInfo) (z : Value) (size bytes : Nat) (ht : P.underlying t = some (.slice e)) (hi : P.info? e = some i) (hz : i.zero = some z)
  (hsize : i.size = size) (hby : i.bytes = bytes) (hzs : z.cells.size = size) (hsz : 0 < size)
  (v : Value) (n : Nat) (xs : List Value) (hown : w.ownsRow base e size v n xs)
  (a : Addr) (m c : Nat) (news : List Value) (hl : news.length = m * size) (hnews : ∀ j u, news[j]? = some u → w.cell? (a.add j) = some u) (h1 : ∀ u ∈ news, u.oneCell' = true)
  (hm : n + m ≤ 10000000) (hbb : bytes ≤ 1000) (hbase : base ≤ w.heap.size) :
  ∃ v' w', (Builtin.append_ #[t, t] ty #[v, .slice (some a) m c]).run P w = .ok v' w' ∧ w'.ownsRow base e size v' (n + m) (xs ++ news) ∧ w.grownBy w' v.ownBlock ∧ ∀ k, v'.ownBlock = some k → v.ownBlock = some k ∨ w.heap.size ≤ k := by
 have hbytes : (n + m) * bytes ≤ 140737488355328 := by
  have : (n + m) * bytes ≤ 10000000 * 1000 := Nat.mul_le_mul hm hbb
  omega
 have h63 : n + m ≤ maxLen := by unfold maxLen; omega
 obtain ⟨v', w', r1, r2, r3, r4⟩ := run_append_own (P := P) w base t ty e i z size bytes ht hi hz hsize hby hzs hsz v n xs hown a m c news hl hnews h1 h63 hbytes hbase
 refine ⟨v', w', r1, r2, r3, fun k hk => ?_⟩
 have hown0 := hown
 rcases hown.2 with ⟨rfl, rfl⟩ | ⟨g, cap, cur, rfl, hbg, hg, hnc, hcm, hcs, htake⟩
 ·have hx : xs = [] := List.eq_nil_of_length_eq_zero (by have := hown.1; simpa using this)
  subst hx
  obtain ⟨v2, w2, g1, g2, _⟩ := run_append_own (P := P) w w.heap.size t ty e i z size bytes ht hi hz hsize hby hzs hsz (.slice none 0 0) 0 [] (World.ownsRow_nil _ _ _ _) a m c news hl hnews h1 h63 hbytes (Nat.le_refl _)
  rw [r1] at g1
  simp only [Result.ok.injEq] at g1
  obtain ⟨rfl, rfl⟩ := g1
  exact .inr (g2.lt k hk).1
 ·by_cases hroom : n + m ≤ cap
  ·have hfit : n * i.size + news.length ≤ cur.size := by
    rw [hsize, hl, hcs, ← Nat.add_mul]
    exact Nat.mul_le_mul_right _ hroom
   have hr := run_append_room (P := P) w t ty e i ht hi g n cap cur hg a m c news (by rw [hsize]; exact hl) hnews h1 hroom hfit
   rw [r1] at hr
   simp only [Result.ok.injEq] at hr
   obtain ⟨rfl, rfl⟩ := hr
   exact .inl hk
  ·have holds : ∀ j u, xs[j]? = some u → w.cell? ((⟨g, 0, none⟩ : Addr).add j) = some u := hown0.cells (g := g) rfl
   have hr := run_append_grow (P := P) w t ty e i z ht hi hz ⟨g, 0, none⟩ n cap xs (by rw [hsize]; exact hown0.1) holds a m c news (by rw [hsize]; exact hl) hnews (by omega) (by omega) (by rw [hby]; exact growslice_fits (by omega) (by omega))
   rw [r1] at hr
   simp only [Result.ok.injEq] at hr
   obtain ⟨rfl, rfl⟩ := hr
   simp only [Value.ownBlock, Option.some.injEq] at hk
   exact .inr (by omega)
theorem wpList_appF {ops : Array Oper} {rest : List Oper} {o : Oper} {a : Act} {Q : Exit → Act → World → Prop} (hgd : o.guard = none) (s x : Operand) (t : TypeId)
  (ho : o.op = .call { callee := .builtin .append, args := #[s, x], argTypes := #[t, t] })
  (base : Nat) (e : TypeId) (i : TypeInfo) (z : Value) (size bytes : Nat) (ht : P.underlying t = some (.slice e)) (hi : P.info? e = some i) (hz : i.zero = some z)
  (hsize : i.size = size) (hby : i.bytes = bytes) (hzs : z.cells.size = size) (hsz : 0 < size)
  (v : Value) (n : Nat) (xs : List Value) (hs : a.eval s = v) (hown : w.ownsRow base e size v n xs)
  (ad : Addr) (m c : Nat) (news : List Value) (hx : a.eval x = .slice (some ad) m c) (hl : news.length = m * size) (hnews : ∀ j u, news[j]? = some u → w.cell? (ad.add j) = some u) (h1 : ∀ u ∈ news, u.oneCell' = true)
  (hm : n + m ≤ 10000000) (hbb : bytes ≤ 1000) (hbase : base ≤ w.heap.size)
  (h : ∀ v' w', w'.ownsRow base e size v' (n + m) (xs ++ news) → w.grownBy w' v.ownBlock → (∀ k, v'.ownBlock = some k → v.ownBlock = some k ∨ w.heap.size ≤ k) → wpList P ops Q rest (a.put o.dst v') w') : wpList P ops Q (o :: rest) a w := by
 refine wpList_plain hgd fun K hK => ?_
 obtain ⟨v', w', hr, h2, h3, h4⟩ := app_freshG (P := P) (w := w) base t o.type e i z size bytes ht hi hz hsize hby hzs hsz v n xs hown ad m c news hl hnews h1 hm hbb hbase
 unfold Oper.wp execOp
 simp only [ho, resolve, invoke, builtin, Sem.run_bind, Sem.run_pure, Result.andThen_ok, List.map_toArray, List.map_cons, List.map_nil, hs, hx, hr]
 exact hK _ _ (h v' w' h2 h3 h4)
end
end
section
open Go.RowKit
theorem and_mask (v:Int) (f c:Nat) (h0:0<=v) (h1:v<=4294967295) (hc:c<=31):bits .and .u32 (v / 2 ^ f) ((2 ^ c-1) % 4294967296)=v / 2 ^ f % 2 ^ c:=by
 obtain ⟨V,rfl⟩:=Int.eq_ofNat_of_zero_le h0
 have e1:((V:Int) / 2 ^ f)=((V / 2 ^ f:Nat):Int):=by simp
 have hp:2 ^ c<=2 ^ 31:=Nat.pow_le_pow_right (by decide) hc
 have hp0:0<2 ^ c:=Nat.pow_pos (by decide)
 have e2:(((2:Int) ^ c-1) % 4294967296)=((2 ^ c-1:Nat):Int):=by
  have:((2:Int) ^ c)=((2 ^ c:Nat):Int):=by simp
  rw [this];omega
 have hV:V / 2 ^ f<4294967296:=Nat.lt_of_le_of_lt (Nat.div_le_self _ _) (by omega)
 rw [e1,e2,u32_and_nat _ _ hV (by omega),Nat.and_two_pow_sub_one_eq_mod]
 simp
theorem or2 (a b:Nat) (ha:a<4294967296) (hb:b<4294967296):bits .or .u32 (a:Int) (b:Int)=((a ||| b:Nat):Int)/\a ||| b<4294967296:=
 ⟨u32_or_nat a b ha hb,Nat.or_lt_two_pow (n:=32) ha hb⟩
theorem or_hi (i a b:Nat) (h:b<2 ^ i):2 ^ i*a ||| b=2 ^ i*a+b:=(Nat.two_pow_add_eq_or_of_lt h a).symm
theorem orFb (o f g:Int) (ho:0<=o/\o<=127) (hf:0<=f/\f<=7) (hg:0<=g/\g<=127) :
  bits .or .u32 (bits .or .u32 o (f*4096)) (g*33554432) =
   o+f*4096+g*33554432:=by
 obtain ⟨O,rfl⟩:=Int.eq_ofNat_of_zero_le ho.1
 obtain ⟨F,rfl⟩:=Int.eq_ofNat_of_zero_le hf.1
 obtain ⟨G,rfl⟩:=Int.eq_ofNat_of_zero_le hg.1
 have l0:((O:Int):Int)=((O:Nat):Int):=by
  omega
 have b0:O<4294967296:=by
  omega
 have l1:((F:Int)*4096:Int)=((2 ^ 12*F:Nat):Int):=by
  omega
 have b1:2 ^ 12*F<4294967296:=by
  omega
 have l2:((G:Int)*33554432:Int)=((2 ^ 25*G:Nat):Int):=by
  omega
 have b2:2 ^ 25*G<4294967296:=by
  omega
 rw [l0]
 rw [l1]
 rw [l2]
 have a1:=or2 (O) (2 ^ 12*F) b0 b1
 rw [a1.1]
 have a2:=or2 _ (2 ^ 25*G) a1.2 b2
 rw [a2.1]
 have e:(((O) ||| (2 ^ 12*F)) ||| (2 ^ 25*G))=(2 ^ 25*G ||| (2 ^ 12*F ||| O)):=by ac_rfl
 rw [e,or_hi 12 F _ (by omega),or_hi 25 G _ (by omega)]
 omega
theorem orFb0 (o f:Int) (ho:0<=o/\o<=127) (hf:0<=f/\f<=7) :
  bits .or .u32 o (f*4096) =
   o+f*4096:=by
 obtain ⟨O,rfl⟩:=Int.eq_ofNat_of_zero_le ho.1
 obtain ⟨F,rfl⟩:=Int.eq_ofNat_of_zero_le hf.1
 have l0:((O:Int):Int)=((O:Nat):Int):=by
  omega
 have b0:O<4294967296:=by
  omega
 have l1:((F:Int)*4096:Int)=((2 ^ 12*F:Nat):Int):=by
  omega
 have b1:2 ^ 12*F<4294967296:=by
  omega
 rw [l0]
 rw [l1]
 have a1:=or2 (O) (2 ^ 12*F) b0 b1
 rw [a1.1]
 have e:((O) ||| (2 ^ 12*F))=(2 ^ 12*F ||| O):=by ac_rfl
 rw [e,or_hi 12 F _ (by omega)]
 omega
theorem orR (o f g r s t:Int) (ho:0<=o/\o<=127) (hf:0<=f/\f<=7) (hg:0<=g/\g<=127) (hr:0<=r/\r<=31) (hs:0<=s/\s<=31) (ht:0<=t/\t<=31) :
  bits .or .u32 (bits .or .u32 (bits .or .u32 (o+f*4096+g*33554432) (r*128)) (s*32768)) (t*1048576) =
   o+r*128+f*4096+s*32768+t*1048576+g*33554432:=by
 obtain ⟨O,rfl⟩:=Int.eq_ofNat_of_zero_le ho.1
 obtain ⟨F,rfl⟩:=Int.eq_ofNat_of_zero_le hf.1
 obtain ⟨G,rfl⟩:=Int.eq_ofNat_of_zero_le hg.1
 obtain ⟨R,rfl⟩:=Int.eq_ofNat_of_zero_le hr.1
 obtain ⟨S,rfl⟩:=Int.eq_ofNat_of_zero_le hs.1
 obtain ⟨T,rfl⟩:=Int.eq_ofNat_of_zero_le ht.1
 have l0:((O:Int)+(F:Int)*4096+(G:Int)*33554432:Int)=(((2 ^ 25*G ||| (2 ^ 12*F ||| O)):Nat):Int):=by
  rw [or_hi 12 F _ (by omega),or_hi 25 G _ (by omega)]
  omega
 have b0:(2 ^ 25*G ||| (2 ^ 12*F ||| O))<4294967296:=by
  rw [or_hi 12 F _ (by omega),or_hi 25 G _ (by omega)]
  omega
 have l1:((R:Int)*128:Int)=((2 ^ 7*R:Nat):Int):=by
  omega
 have b1:2 ^ 7*R<4294967296:=by
  omega
 have l2:((S:Int)*32768:Int)=((2 ^ 15*S:Nat):Int):=by
  omega
 have b2:2 ^ 15*S<4294967296:=by
  omega
 have l3:((T:Int)*1048576:Int)=((2 ^ 20*T:Nat):Int):=by
  omega
 have b3:2 ^ 20*T<4294967296:=by
  omega
 rw [l0]
 rw [l1]
 rw [l2]
 rw [l3]
 have a1:=or2 ((2 ^ 25*G ||| (2 ^ 12*F ||| O))) (2 ^ 7*R) b0 b1
 rw [a1.1]
 have a2:=or2 _ (2 ^ 15*S) a1.2 b2
 rw [a2.1]
 have a3:=or2 _ (2 ^ 20*T) a2.2 b3
 rw [a3.1]
 have e:((((2 ^ 25*G ||| (2 ^ 12*F ||| O)) ||| (2 ^ 7*R)) ||| (2 ^ 15*S)) ||| (2 ^ 20*T))=(2 ^ 25*G ||| (2 ^ 20*T ||| (2 ^ 15*S ||| (2 ^ 12*F ||| (2 ^ 7*R ||| O))))):=by ac_rfl
 rw [e,or_hi 7 R _ (by omega),or_hi 12 F _ (by omega),or_hi 15 S _ (by omega),or_hi 20 T _ (by omega),or_hi 25 G _ (by omega)]
 omega
theorem orI (o f r s i:Int) (ho:0<=o/\o<=127) (hf:0<=f/\f<=7) (hr:0<=r/\r<=31) (hs:0<=s/\s<=31) (hi:0<=i/\i<=4095) :
  bits .or .u32 (bits .or .u32 (bits .or .u32 (o+f*4096) (r*128)) (s*32768)) (i*1048576) =
   o+r*128+f*4096+s*32768+i*1048576:=by
 obtain ⟨O,rfl⟩:=Int.eq_ofNat_of_zero_le ho.1
 obtain ⟨F,rfl⟩:=Int.eq_ofNat_of_zero_le hf.1
 obtain ⟨R,rfl⟩:=Int.eq_ofNat_of_zero_le hr.1
 obtain ⟨S,rfl⟩:=Int.eq_ofNat_of_zero_le hs.1
 obtain ⟨I,rfl⟩:=Int.eq_ofNat_of_zero_le hi.1
 have l0:((O:Int)+(F:Int)*4096:Int)=(((2 ^ 12*F ||| O):Nat):Int):=by
  rw [or_hi 12 F _ (by omega)]
  omega
 have b0:(2 ^ 12*F ||| O)<4294967296:=by
  rw [or_hi 12 F _ (by omega)]
  omega
 have l1:((R:Int)*128:Int)=((2 ^ 7*R:Nat):Int):=by
  omega
 have b1:2 ^ 7*R<4294967296:=by
  omega
 have l2:((S:Int)*32768:Int)=((2 ^ 15*S:Nat):Int):=by
  omega
 have b2:2 ^ 15*S<4294967296:=by
  omega
 have l3:((I:Int)*1048576:Int)=((2 ^ 20*I:Nat):Int):=by
  omega
 have b3:2 ^ 20*I<4294967296:=by
  omega
 rw [l0]
 rw [l1]
 rw [l2]
 rw [l3]
 have a1:=or2 ((2 ^ 12*F ||| O)) (2 ^ 7*R) b0 b1
 rw [a1.1]
 have a2:=or2 _ (2 ^ 15*S) a1.2 b2
 rw [a2.1]
 have a3:=or2 _ (2 ^ 20*I) a2.2 b3
 rw [a3.1]
 have e:((((2 ^ 12*F ||| O) ||| (2 ^ 7*R)) ||| (2 ^ 15*S)) ||| (2 ^ 20*I))=(2 ^ 20*I ||| (2 ^ 15*S ||| (2 ^ 12*F ||| (2 ^ 7*R ||| O)))):=by ac_rfl
 rw [e,or_hi 7 R _ (by omega),or_hi 12 F _ (by omega),or_hi 15 S _ (by omega),or_hi 20 I _ (by omega)]
 omega
theorem orS (o f s t i j:Int) (ho:0<=o/\o<=127) (hf:0<=f/\f<=7) (hs:0<=s/\s<=31) (ht:0<=t/\t<=31) (hi:0<=i/\i<=31) (hj:0<=j/\j<=127) :
  bits .or .u32 (bits .or .u32 (bits .or .u32 (bits .or .u32 (o+f*4096) (s*32768)) (t*1048576)) (i*128)) (j*33554432) =
   o+i*128+f*4096+s*32768+t*1048576+j*33554432:=by
 obtain ⟨O,rfl⟩:=Int.eq_ofNat_of_zero_le ho.1
 obtain ⟨F,rfl⟩:=Int.eq_ofNat_of_zero_le hf.1
 obtain ⟨S,rfl⟩:=Int.eq_ofNat_of_zero_le hs.1
 obtain ⟨T,rfl⟩:=Int.eq_ofNat_of_zero_le ht.1
 obtain ⟨I,rfl⟩:=Int.eq_ofNat_of_zero_le hi.1
 obtain ⟨J,rfl⟩:=Int.eq_ofNat_of_zero_le hj.1
 have l0:((O:Int)+(F:Int)*4096:Int)=(((2 ^ 12*F ||| O):Nat):Int):=by
  rw [or_hi 12 F _ (by omega)]
  omega
 have b0:(2 ^ 12*F ||| O)<4294967296:=by
  rw [or_hi 12 F _ (by omega)]
  omega
 have l1:((S:Int)*32768:Int)=((2 ^ 15*S:Nat):Int):=by
  omega
 have b1:2 ^ 15*S<4294967296:=by
  omega
 have l2:((T:Int)*1048576:Int)=((2 ^ 20*T:Nat):Int):=by
  omega
 have b2:2 ^ 20*T<4294967296:=by
  omega
 have l3:((I:Int)*128:Int)=((2 ^ 7*I:Nat):Int):=by
  omega
 have b3:2 ^ 7*I<4294967296:=by
  omega
 have l4:((J:Int)*33554432:Int)=((2 ^ 25*J:Nat):Int):=by
  omega
 have b4:2 ^ 25*J<4294967296:=by
  omega
 rw [l0]
 rw [l1]
 rw [l2]
 rw [l3]
 rw [l4]
 have a1:=or2 ((2 ^ 12*F ||| O)) (2 ^ 15*S) b0 b1
 rw [a1.1]
 have a2:=or2 _ (2 ^ 20*T) a1.2 b2
 rw [a2.1]
 have a3:=or2 _ (2 ^ 7*I) a2.2 b3
 rw [a3.1]
 have a4:=or2 _ (2 ^ 25*J) a3.2 b4
 rw [a4.1]
 have e:(((((2 ^ 12*F ||| O) ||| (2 ^ 15*S)) ||| (2 ^ 20*T)) ||| (2 ^ 7*I)) ||| (2 ^ 25*J))=(2 ^ 25*J ||| (2 ^ 20*T ||| (2 ^ 15*S ||| (2 ^ 12*F ||| (2 ^ 7*I ||| O))))):=by ac_rfl
 rw [e,or_hi 7 I _ (by omega),or_hi 12 F _ (by omega),or_hi 15 S _ (by omega),or_hi 20 T _ (by omega),or_hi 25 J _ (by omega)]
 omega
theorem orSB (i j k l:Int) (hi:0<=i/\i<=1) (hj:0<=j/\j<=15) (hk:0<=k/\k<=63) (hl:0<=l/\l<=1) :
  bits .or .u32 (bits .or .u32 (bits .or .u32 (i*128) (j*256)) (k*33554432)) (l*2147483648) =
   i*128+j*256+k*33554432+l*2147483648:=by
 obtain ⟨I,rfl⟩:=Int.eq_ofNat_of_zero_le hi.1
 obtain ⟨J,rfl⟩:=Int.eq_ofNat_of_zero_le hj.1
 obtain ⟨K,rfl⟩:=Int.eq_ofNat_of_zero_le hk.1
 obtain ⟨L,rfl⟩:=Int.eq_ofNat_of_zero_le hl.1
 have l0:((I:Int)*128:Int)=((2 ^ 7*I:Nat):Int):=by
  omega
 have b0:2 ^ 7*I<4294967296:=by
  omega
 have l1:((J:Int)*256:Int)=((2 ^ 8*J:Nat):Int):=by
  omega
 have b1:2 ^ 8*J<4294967296:=by
  omega
 have l2:((K:Int)*33554432:Int)=((2 ^ 25*K:Nat):Int):=by
  omega
 have b2:2 ^ 25*K<4294967296:=by
  omega
 have l3:((L:Int)*2147483648:Int)=((2 ^ 31*L:Nat):Int):=by
  omega
 have b3:2 ^ 31*L<4294967296:=by
  omega
 rw [l0]
 rw [l1]
 rw [l2]
 rw [l3]
 have a1:=or2 (2 ^ 7*I) (2 ^ 8*J) b0 b1
 rw [a1.1]
 have a2:=or2 _ (2 ^ 25*K) a1.2 b2
 rw [a2.1]
 have a3:=or2 _ (2 ^ 31*L) a2.2 b3
 rw [a3.1]
 have e:((((2 ^ 7*I) ||| (2 ^ 8*J)) ||| (2 ^ 25*K)) ||| (2 ^ 31*L))=(2 ^ 31*L ||| (2 ^ 25*K ||| (2 ^ 8*J ||| 2 ^ 7*I))):=by ac_rfl
 rw [e,or_hi 8 J _ (by omega),or_hi 25 K _ (by omega),or_hi 31 L _ (by omega)]
 omega
theorem orB (o f s t i j k l:Int) (ho:0<=o/\o<=127) (hf:0<=f/\f<=7) (hs:0<=s/\s<=31) (ht:0<=t/\t<=31) (hi:0<=i/\i<=1) (hj:0<=j/\j<=15) (hk:0<=k/\k<=63) (hl:0<=l/\l<=1) :
  bits .or .u32 (bits .or .u32 (bits .or .u32 (o+f*4096) (s*32768)) (t*1048576)) (i*128+j*256+k*33554432+l*2147483648) =
   o+i*128+j*256+f*4096+s*32768+t*1048576+k*33554432+l*2147483648:=by
 obtain ⟨O,rfl⟩:=Int.eq_ofNat_of_zero_le ho.1
 obtain ⟨F,rfl⟩:=Int.eq_ofNat_of_zero_le hf.1
 obtain ⟨S,rfl⟩:=Int.eq_ofNat_of_zero_le hs.1
 obtain ⟨T,rfl⟩:=Int.eq_ofNat_of_zero_le ht.1
 obtain ⟨I,rfl⟩:=Int.eq_ofNat_of_zero_le hi.1
 obtain ⟨J,rfl⟩:=Int.eq_ofNat_of_zero_le hj.1
 obtain ⟨K,rfl⟩:=Int.eq_ofNat_of_zero_le hk.1
 obtain ⟨L,rfl⟩:=Int.eq_ofNat_of_zero_le hl.1
 have l0:((O:Int)+(F:Int)*4096:Int)=(((2 ^ 12*F ||| O):Nat):Int):=by
  rw [or_hi 12 F _ (by omega)]
  omega
 have b0:(2 ^ 12*F ||| O)<4294967296:=by
  rw [or_hi 12 F _ (by omega)]
  omega
 have l1:((S:Int)*32768:Int)=((2 ^ 15*S:Nat):Int):=by
  omega
 have b1:2 ^ 15*S<4294967296:=by
  omega
 have l2:((T:Int)*1048576:Int)=((2 ^ 20*T:Nat):Int):=by
  omega
 have b2:2 ^ 20*T<4294967296:=by
  omega
 have l3:((I:Int)*128+(J:Int)*256+(K:Int)*33554432+(L:Int)*2147483648:Int)=(((2 ^ 31*L ||| (2 ^ 25*K ||| (2 ^ 8*J ||| 2 ^ 7*I))):Nat):Int):=by
  rw [or_hi 8 J _ (by omega),or_hi 25 K _ (by omega),or_hi 31 L _ (by omega)]
  omega
 have b3:(2 ^ 31*L ||| (2 ^ 25*K ||| (2 ^ 8*J ||| 2 ^ 7*I)))<4294967296:=by
  rw [or_hi 8 J _ (by omega),or_hi 25 K _ (by omega),or_hi 31 L _ (by omega)]
  omega
 rw [l0]
 rw [l1]
 rw [l2]
 rw [l3]
 have a1:=or2 ((2 ^ 12*F ||| O)) (2 ^ 15*S) b0 b1
 rw [a1.1]
 have a2:=or2 _ (2 ^ 20*T) a1.2 b2
 rw [a2.1]
 have a3:=or2 _ ((2 ^ 31*L ||| (2 ^ 25*K ||| (2 ^ 8*J ||| 2 ^ 7*I)))) a2.2 b3
 rw [a3.1]
 have e:((((2 ^ 12*F ||| O) ||| (2 ^ 15*S)) ||| (2 ^ 20*T)) ||| (2 ^ 31*L ||| (2 ^ 25*K ||| (2 ^ 8*J ||| 2 ^ 7*I))))=(2 ^ 31*L ||| (2 ^ 25*K ||| (2 ^ 20*T ||| (2 ^ 15*S ||| (2 ^ 12*F ||| (2 ^ 8*J ||| (2 ^ 7*I ||| O))))))):=by ac_rfl
 rw [e,or_hi 7 I _ (by omega),or_hi 8 J _ (by omega),or_hi 12 F _ (by omega),or_hi 15 S _ (by omega),or_hi 20 T _ (by omega),or_hi 25 K _ (by omega),or_hi 31 L _ (by omega)]
 omega
theorem orU (o r i:Int) (ho:0<=o/\o<=127) (hr:0<=r/\r<=31) (hi:0<=i/\i<=1048575) :
  bits .or .u32 (bits .or .u32 o (r*128)) (i*4096) =
   o+r*128+i*4096:=by
 obtain ⟨O,rfl⟩:=Int.eq_ofNat_of_zero_le ho.1
 obtain ⟨R,rfl⟩:=Int.eq_ofNat_of_zero_le hr.1
 obtain ⟨I,rfl⟩:=Int.eq_ofNat_of_zero_le hi.1
 have l0:((O:Int):Int)=((O:Nat):Int):=by
  omega
 have b0:O<4294967296:=by
  omega
 have l1:((R:Int)*128:Int)=((2 ^ 7*R:Nat):Int):=by
  omega
 have b1:2 ^ 7*R<4294967296:=by
  omega
 have l2:((I:Int)*4096:Int)=((2 ^ 12*I:Nat):Int):=by
  omega
 have b2:2 ^ 12*I<4294967296:=by
  omega
 rw [l0]
 rw [l1]
 rw [l2]
 have a1:=or2 (O) (2 ^ 7*R) b0 b1
 rw [a1.1]
 have a2:=or2 _ (2 ^ 12*I) a1.2 b2
 rw [a2.1]
 have e:(((O) ||| (2 ^ 7*R)) ||| (2 ^ 12*I))=(2 ^ 12*I ||| (2 ^ 7*R ||| O)):=by ac_rfl
 rw [e,or_hi 7 R _ (by omega),or_hi 12 I _ (by omega)]
 omega
theorem orSJ (i j k l:Int) (hi:0<=i/\i<=255) (hj:0<=j/\j<=1) (hk:0<=k/\k<=1023) (hl:0<=l/\l<=1) :
  bits .or .u32 (bits .or .u32 (bits .or .u32 (i*4096) (j*1048576)) (k*2097152)) (l*2147483648) =
   i*4096+j*1048576+k*2097152+l*2147483648:=by
 obtain ⟨I,rfl⟩:=Int.eq_ofNat_of_zero_le hi.1
 obtain ⟨J,rfl⟩:=Int.eq_ofNat_of_zero_le hj.1
 obtain ⟨K,rfl⟩:=Int.eq_ofNat_of_zero_le hk.1
 obtain ⟨L,rfl⟩:=Int.eq_ofNat_of_zero_le hl.1
 have l0:((I:Int)*4096:Int)=((2 ^ 12*I:Nat):Int):=by
  omega
 have b0:2 ^ 12*I<4294967296:=by
  omega
 have l1:((J:Int)*1048576:Int)=((2 ^ 20*J:Nat):Int):=by
  omega
 have b1:2 ^ 20*J<4294967296:=by
  omega
 have l2:((K:Int)*2097152:Int)=((2 ^ 21*K:Nat):Int):=by
  omega
 have b2:2 ^ 21*K<4294967296:=by
  omega
 have l3:((L:Int)*2147483648:Int)=((2 ^ 31*L:Nat):Int):=by
  omega
 have b3:2 ^ 31*L<4294967296:=by
  omega
 rw [l0]
 rw [l1]
 rw [l2]
 rw [l3]
 have a1:=or2 (2 ^ 12*I) (2 ^ 20*J) b0 b1
 rw [a1.1]
 have a2:=or2 _ (2 ^ 21*K) a1.2 b2
 rw [a2.1]
 have a3:=or2 _ (2 ^ 31*L) a2.2 b3
 rw [a3.1]
 have e:((((2 ^ 12*I) ||| (2 ^ 20*J)) ||| (2 ^ 21*K)) ||| (2 ^ 31*L))=(2 ^ 31*L ||| (2 ^ 21*K ||| (2 ^ 20*J ||| 2 ^ 12*I))):=by ac_rfl
 rw [e,or_hi 20 J _ (by omega),or_hi 21 K _ (by omega),or_hi 31 L _ (by omega)]
 omega
theorem orJ (o r i j k l:Int) (ho:0<=o/\o<=127) (hr:0<=r/\r<=31) (hi:0<=i/\i<=255) (hj:0<=j/\j<=1) (hk:0<=k/\k<=1023) (hl:0<=l/\l<=1) :
  bits .or .u32 (bits .or .u32 o (r*128)) (i*4096+j*1048576+k*2097152+l*2147483648) =
   o+r*128+i*4096+j*1048576+k*2097152+l*2147483648:=by
 obtain ⟨O,rfl⟩:=Int.eq_ofNat_of_zero_le ho.1
 obtain ⟨R,rfl⟩:=Int.eq_ofNat_of_zero_le hr.1
 obtain ⟨I,rfl⟩:=Int.eq_ofNat_of_zero_le hi.1
 obtain ⟨J,rfl⟩:=Int.eq_ofNat_of_zero_le hj.1
 obtain ⟨K,rfl⟩:=Int.eq_ofNat_of_zero_le hk.1
 obtain ⟨L,rfl⟩:=Int.eq_ofNat_of_zero_le hl.1
 have l0:((O:Int):Int)=((O:Nat):Int):=by
  omega
 have b0:O<4294967296:=by
  omega
 have l1:((R:Int)*128:Int)=((2 ^ 7*R:Nat):Int):=by
  omega
 have b1:2 ^ 7*R<4294967296:=by
  omega
 have l2:((I:Int)*4096+(J:Int)*1048576+(K:Int)*2097152+(L:Int)*2147483648:Int)=(((2 ^ 31*L ||| (2 ^ 21*K ||| (2 ^ 20*J ||| 2 ^ 12*I))):Nat):Int):=by
  rw [or_hi 20 J _ (by omega),or_hi 21 K _ (by omega),or_hi 31 L _ (by omega)]
  omega
 have b2:(2 ^ 31*L ||| (2 ^ 21*K ||| (2 ^ 20*J ||| 2 ^ 12*I)))<4294967296:=by
  rw [or_hi 20 J _ (by omega),or_hi 21 K _ (by omega),or_hi 31 L _ (by omega)]
  omega
 rw [l0]
 rw [l1]
 rw [l2]
 have a1:=or2 (O) (2 ^ 7*R) b0 b1
 rw [a1.1]
 have a2:=or2 _ ((2 ^ 31*L ||| (2 ^ 21*K ||| (2 ^ 20*J ||| 2 ^ 12*I)))) a1.2 b2
 rw [a2.1]
 have e:(((O) ||| (2 ^ 7*R)) ||| (2 ^ 31*L ||| (2 ^ 21*K ||| (2 ^ 20*J ||| 2 ^ 12*I))))=(2 ^ 31*L ||| (2 ^ 21*K ||| (2 ^ 20*J ||| (2 ^ 12*I ||| (2 ^ 7*R ||| O))))):=by ac_rfl
 rw [e,or_hi 7 R _ (by omega),or_hi 12 I _ (by omega),or_hi 20 J _ (by omega),or_hi 21 K _ (by omega),or_hi 31 L _ (by omega)]
 omega
theorem orIS (i j:Int) (hi:0<=i/\i<=31) (hj:0<=j/\j<=127) :
  bits .or .u32 i (j*32) =
   i+j*32:=by
 obtain ⟨I,rfl⟩:=Int.eq_ofNat_of_zero_le hi.1
 obtain ⟨J,rfl⟩:=Int.eq_ofNat_of_zero_le hj.1
 have l0:((I:Int):Int)=((I:Nat):Int):=by
  omega
 have b0:I<4294967296:=by
  omega
 have l1:((J:Int)*32:Int)=((2 ^ 5*J:Nat):Int):=by
  omega
 have b1:2 ^ 5*J<4294967296:=by
  omega
 rw [l0]
 rw [l1]
 have a1:=or2 (I) (2 ^ 5*J) b0 b1
 rw [a1.1]
 have e:((I) ||| (2 ^ 5*J))=(2 ^ 5*J ||| I):=by ac_rfl
 rw [e,or_hi 5 J _ (by omega)]
 omega
theorem orIB (i j k l:Int) (hi:0<=i/\i<=1) (hj:0<=j/\j<=15) (hk:0<=k/\k<=63) (hl:0<=l/\l<=1) :
  bits .or .u32 (bits .or .u32 (bits .or .u32 (i*2048) (j*2)) (k*32)) (l*4096) =
   j*2+k*32+i*2048+l*4096:=by
 obtain ⟨I,rfl⟩:=Int.eq_ofNat_of_zero_le hi.1
 obtain ⟨J,rfl⟩:=Int.eq_ofNat_of_zero_le hj.1
 obtain ⟨K,rfl⟩:=Int.eq_ofNat_of_zero_le hk.1
 obtain ⟨L,rfl⟩:=Int.eq_ofNat_of_zero_le hl.1
 have l0:((I:Int)*2048:Int)=((2 ^ 11*I:Nat):Int):=by
  omega
 have b0:2 ^ 11*I<4294967296:=by
  omega
 have l1:((J:Int)*2:Int)=((2 ^ 1*J:Nat):Int):=by
  omega
 have b1:2 ^ 1*J<4294967296:=by
  omega
 have l2:((K:Int)*32:Int)=((2 ^ 5*K:Nat):Int):=by
  omega
 have b2:2 ^ 5*K<4294967296:=by
  omega
 have l3:((L:Int)*4096:Int)=((2 ^ 12*L:Nat):Int):=by
  omega
 have b3:2 ^ 12*L<4294967296:=by
  omega
 rw [l0]
 rw [l1]
 rw [l2]
 rw [l3]
 have a1:=or2 (2 ^ 11*I) (2 ^ 1*J) b0 b1
 rw [a1.1]
 have a2:=or2 _ (2 ^ 5*K) a1.2 b2
 rw [a2.1]
 have a3:=or2 _ (2 ^ 12*L) a2.2 b3
 rw [a3.1]
 have e:((((2 ^ 11*I) ||| (2 ^ 1*J)) ||| (2 ^ 5*K)) ||| (2 ^ 12*L))=(2 ^ 12*L ||| (2 ^ 11*I ||| (2 ^ 5*K ||| 2 ^ 1*J))):=by ac_rfl
 rw [e,or_hi 5 K _ (by omega),or_hi 11 I _ (by omega),or_hi 12 L _ (by omega)]
 omega
theorem orIJ (i j k l:Int) (hi:0<=i/\i<=255) (hj:0<=j/\j<=1) (hk:0<=k/\k<=1023) (hl:0<=l/\l<=1) :
  bits .or .u32 (bits .or .u32 (bits .or .u32 (i*4096) (j*2048)) (k*2)) (l*1048576) =
   k*2+j*2048+i*4096+l*1048576:=by
 obtain ⟨I,rfl⟩:=Int.eq_ofNat_of_zero_le hi.1
 obtain ⟨J,rfl⟩:=Int.eq_ofNat_of_zero_le hj.1
 obtain ⟨K,rfl⟩:=Int.eq_ofNat_of_zero_le hk.1
 obtain ⟨L,rfl⟩:=Int.eq_ofNat_of_zero_le hl.1
 have l0:((I:Int)*4096:Int)=((2 ^ 12*I:Nat):Int):=by
  omega
 have b0:2 ^ 12*I<4294967296:=by
  omega
 have l1:((J:Int)*2048:Int)=((2 ^ 11*J:Nat):Int):=by
  omega
 have b1:2 ^ 11*J<4294967296:=by
  omega
 have l2:((K:Int)*2:Int)=((2 ^ 1*K:Nat):Int):=by
  omega
 have b2:2 ^ 1*K<4294967296:=by
  omega
 have l3:((L:Int)*1048576:Int)=((2 ^ 20*L:Nat):Int):=by
  omega
 have b3:2 ^ 20*L<4294967296:=by
  omega
 rw [l0]
 rw [l1]
 rw [l2]
 rw [l3]
 have a1:=or2 (2 ^ 12*I) (2 ^ 11*J) b0 b1
 rw [a1.1]
 have a2:=or2 _ (2 ^ 1*K) a1.2 b2
 rw [a2.1]
 have a3:=or2 _ (2 ^ 20*L) a2.2 b3
 rw [a3.1]
 have e:((((2 ^ 12*I) ||| (2 ^ 11*J)) ||| (2 ^ 1*K)) ||| (2 ^ 20*L))=(2 ^ 20*L ||| (2 ^ 12*I ||| (2 ^ 11*J ||| 2 ^ 1*K))):=by ac_rfl
 rw [e,or_hi 11 J _ (by omega),or_hi 12 I _ (by omega),or_hi 20 L _ (by omega)]
 omega
end
section
open Go.RowKit
structure Tcs (S : Nat → Prop) (W w' : World) : Prop where
 os : w'.os = W.os
 tape : w'.tape = W.tape
 output : w'.output = W.output
 size : W.heap.size ≤ w'.heap.size
 block : ∀ k, k < W.heap.size → ¬ S k → w'.heap[k]? = W.heap[k]?
theorem Tcs.refl (S : Nat → Prop) (W : World) : Tcs S W W := ⟨rfl, rfl, rfl, Nat.le_refl _, fun _ _ _ => rfl⟩
theorem Tcs.trans {S : Nat → Prop} {a b c : World} (h : Tcs S a b) (k : Tcs S b c) : Tcs S a c :=
 ⟨k.os.trans h.os, k.tape.trans h.tape, k.output.trans h.output, Nat.le_trans h.size k.size, fun i hi hg => (k.block i (Nat.lt_of_lt_of_le hi h.size) hg).trans (h.block i hi hg)⟩
theorem Tcs.next {S T : Nat → Prop} {a b c : World} (h : Tcs S a b) (k : Tcs T b c) (hT : ∀ x, T x → S x ∨ a.heap.size ≤ x) : Tcs S a c :=
 ⟨k.os.trans h.os, k.tape.trans h.tape, k.output.trans h.output, Nat.le_trans h.size k.size, fun i hi hg => (k.block i (Nat.lt_of_lt_of_le hi h.size) (fun t => by rcases hT i t with x | x; exact hg x; omega)).trans (h.block i hi hg)⟩
theorem Tcs.mono {S T : Nat → Prop} {a b : World} (h : Tcs S a b) (hs : ∀ k, S k → T k) : Tcs T a b :=
 ⟨h.os, h.tape, h.output, h.size, fun k hk hn => h.block k hk fun s => hn (hs k s)⟩
theorem Tcs.drew {S : Nat → Prop} {a w : World} (h : Tcs S a w) : Tcs S a w.drew := h.trans ⟨rfl, rfl, rfl, Nat.le_refl _, fun _ _ _ => rfl⟩
theorem Tcs.setCell {S : Nat → Prop} {a w : World} (h : Tcs S a w) {p : Addr} (hp : S p.block) (u : Value) : Tcs S a (w.setCell p u) :=
 h.trans ⟨rfl, rfl, rfl, by simp, fun k _ hk => Below.heap_setCell w p u k fun e => hk (e ▸ hp)⟩
theorem Tcs.alloc {S : Nat → Prop} {a w : World} (h : Tcs S a w) (o : Obj) : Tcs S a (w.alloc o) :=
 h.trans ⟨rfl, rfl, rfl, by simp, fun k hk _ => Below.heap_alloc w o k hk⟩
theorem Tcs.of_below {S : Nat → Prop} {a w w' : World} (h : Tcs S a w) (hb : Below w.heap.size w w') : Tcs S a w' :=
 h.trans ⟨hb.os, hb.tape, hb.output, hb.size, fun k hk _ => hb.block k hk⟩
theorem Tcs.below {S : Nat → Prop} {B : Nat} {a w w' : World} (h : Tcs S w w') (hb : Below B a w) (hB : B ≤ w.heap.size) (hg : ∀ k, S k → B ≤ k) : Below B a w' :=
 ⟨h.os.trans hb.os, h.tape.trans hb.tape, h.output.trans hb.output, Nat.le_trans hb.size h.size, fun k hk => (h.block k (by omega) (fun s => by have := hg k s; omega)).trans (hb.block k hk)⟩
theorem Tcs.of_grown {a w : World} {row : Option Nat} {S : Nat → Prop} (hg : a.grownBy w row) (hr : ∀ k, row = some k → S k) : Tcs S a w :=
 ⟨hg.os, hg.tape, hg.output, hg.size, fun k hk hn => hg.block k hk (fun e => hn (hr k e.symm))⟩
theorem _root_.Go.RowKit.Below.tcs {a w : World} {S : Nat → Prop} (h : Below a.heap.size a w) : Tcs S a w := ⟨h.os, h.tape, h.output, h.size, fun k hk _ => h.block k hk⟩
end
section
open Go.RowKit
def FrC (w : World) (g : Nat) (xs : List Value) : Prop := ∀ j x, xs[j]? = some x → w.cell? ⟨g, j, none⟩ = some x ∧ w.frozen? ⟨g, j, none⟩ = false
theorem FrC.set {w : World} {g : Nat} {xs : List Value} (h : FrC w g xs) (i : Nat) (u : Value) : FrC (w.setCell ⟨g, i, none⟩ u) g (xs.set i u) := by
 intro j x hx
 rw [World.frozen?_setCell]
 by_cases e : i = j
 ·subst e
  have hl := (List.getElem?_eq_some_iff.1 hx).1
  rw [List.length_set] at hl
  rw [List.getElem?_set_self hl] at hx
  obtain ⟨c, f⟩ := h i xs[i] (List.getElem?_eq_getElem hl)
  refine ⟨?_, f⟩
  rw [World.cell?_setCell_same _ _ _ c]
  exact hx
 ·rw [List.getElem?_set_ne e] at hx
  obtain ⟨c, f⟩ := h j x hx
  refine ⟨?_, f⟩
  rw [World.cell?_setCell_other _ _ _ _ (by intro h; simp only [Addr.mk.injEq] at h; omega)]
  exact c
theorem FrC.keep {w w' : World} {g : Nat} {xs : List Value} (h : FrC w g xs) (e : w'.heap[g]? = w.heap[g]?) : FrC w' g xs := fun j x hx => by
 obtain ⟨c, f⟩ := h j x hx
 exact ⟨(World.cell?_of_block (a := ⟨g, j, none⟩) e).trans c, (World.frozen?_of_block (a := ⟨g, j, none⟩) e).trans f⟩
theorem FrC.below {w w' : World} {g : Nat} {xs : List Value} (h : FrC w g xs) (hb : Below w.heap.size w w') : FrC w' g xs := fun j x hx => by
 obtain ⟨c, f⟩ := h j x hx
 have hlt := World.block_lt_of_cell? _ _ c
 exact ⟨(hb.cell (p := ⟨g, j, none⟩) hlt).trans c, (hb.frozen (p := ⟨g, j, none⟩) hlt).trans f⟩
theorem FrC.tcs {S : Nat → Prop} {w w' : World} {g : Nat} {xs : List Value} (h : FrC w g xs) (hl : g < w.heap.size) (ht : Tcs S w w') (hn : ¬ S g) : FrC w' g xs := h.keep (ht.block g hl hn)
theorem box_fr (w : World) (cs : Array Value) (t : TypeId) (hm : cs.size ≤ 1000) : FrC (w.alloc (.cells cs t)) w.heap.size cs.toList := by
 intro j x hj
 have h : (w.alloc (.cells cs t)).ownsRow w.heap.size t 1 (.slice (some ⟨w.heap.size, 0, none⟩) cs.size cs.size) cs.size cs.toList := World.ownsRow_lit w cs cs.size (Nat.le_refl _) (by unfold maxLen; omega) (by omega)
 have hc := World.ownsRow.cells h (g := w.heap.size) rfl j x hj
 have e : (⟨w.heap.size, 0, none⟩ : Addr).add j = ⟨w.heap.size, j, none⟩ := by
  simp [Addr.add]
  try (intro h; omega)
 rw [e] at hc
 refine ⟨hc, ?_⟩
 rcases h.2 with ⟨e, -⟩ | ⟨g, cap, cur, e, h3, h4, h5⟩
 ·simp at e
 ·simp only [Value.slice.injEq, Option.some.injEq, Addr.mk.injEq] at e
  obtain ⟨⟨rfl, -, -⟩, -, -⟩ := e
  unfold World.frozen?
  simp only [h4]
  simp
end
section
def defc : List Nd → Int
 | [] => 1
 | n :: r => defc r + arity n - 1
def goodAll (l : List Nd) : Prop := ∀ n ∈ l, nodeB n = true
theorem wholeTo_iff (l : List Nd) (hg : goodAll l) (k : Int) : wholeTo l k = some 1 ↔ defc l = k ∧ ∀ j, 1 ≤ j → j ≤ l.length → 1 ≤ defc (l.drop j) := by
 induction l generalizing k with
 | nil =>
  simp only [wholeTo, Option.some.injEq, defc, List.length_nil, List.drop_nil]
  constructor
  ·rintro rfl; exact ⟨rfl, fun j _ _ => Int.le_refl _⟩
  ·rintro ⟨rfl, _⟩; rfl
 | cons n r ih =>
  have hn : nodeB n = true := hg n (by simp)
  have ih' := ih (fun m hm => hg m (by simp [hm]))
  simp only [wholeTo, hn, true_and]
  by_cases ha : arity n ≤ k
  ·rw [if_pos ha, ih', defc]
   constructor
   ·rintro ⟨h1, h2⟩
    refine ⟨by omega, fun j hj1 hj2 => ?_⟩
    obtain ⟨j', rfl⟩ : ∃ j', j = j' + 1 := ⟨j - 1, by omega⟩
    rw [List.drop_succ_cons]
    rcases Nat.eq_zero_or_pos j' with rfl | hp
    ·rw [List.drop_zero]; omega
    ·exact h2 j' hp (by simpa using hj2)
   ·rintro ⟨h1, h2⟩
    refine ⟨by omega, fun j hj1 hj2 => ?_⟩
    have := h2 (j + 1) (by omega) (by simpa using hj2)
    rwa [List.drop_succ_cons] at this
  ·rw [if_neg ha]
   constructor
   ·intro h; cases h
   ·rintro ⟨h1, h2⟩
    exfalso
    have := h2 1 (Nat.le_refl _) (by simp)
    simp only [List.drop_succ_cons, List.drop_zero] at this
    simp only [defc] at h1
    omega
theorem wholeTo_good (l : List Nd) (k q : Int) (h : wholeTo l k = some q) : goodAll l := by
 induction l generalizing k with
 | nil => intro n hn; cases hn
 | cons m r ih =>
  simp only [wholeTo] at h
  split at h
  ·rename_i hm
   intro n hn
   rcases List.mem_cons.1 hn with rfl | hn
   ·exact hm.1
   ·exact ih _ h n hn
  ·cases h
theorem oneB_iff (l : List Nd) : oneB l = true ↔ goodAll l ∧ defc l = 0 ∧ ∀ j, 1 ≤ j → j ≤ l.length → 1 ≤ defc (l.drop j) := by
 constructor
 ·intro h
  have h' : wholeTo l 0 = some 1 := by simpa [oneB] using h
  have hg := wholeTo_good l 0 1 h'
  exact ⟨hg, (wholeTo_iff l hg 0).1 h'⟩
 ·rintro ⟨hg, h⟩
  have := (wholeTo_iff l hg 0).2 h
  simp [oneB, this]
def fromP (l : List Nd) (r : Int) : Prop :=
 (∃ i : Nat, r = i ∧ i < l.length ∧ defc (l.drop i) = 0 ∧ ∀ j, i < j → j ≤ l.length → 1 ≤ defc (l.drop j)) ∨ (r = -1 ∧ ∀ j, j ≤ l.length → 1 ≤ defc (l.drop j))
theorem fromP_one {l : List Nd} {r : Int} (hg : goodAll l) (h : fromP l r) : (r == 0) = oneB l := by
 apply Bool.eq_iff_iff.2
 rw [oneB_iff]
 simp only [beq_iff_eq]
 rcases h with ⟨i, rfl, hi, h0, hj⟩ | ⟨rfl, hj⟩
 ·constructor
  ·intro h
   obtain rfl : i = 0 := by omega
   exact ⟨hg, by simpa using h0, fun j h1 h2 => hj j (by omega) h2⟩
  ·rintro ⟨_, _, h⟩
   rcases Nat.eq_zero_or_pos i with rfl | hp
   ·rfl
   ·have := h i hp (by omega); omega
 ·constructor
  ·intro h; omega
  ·rintro ⟨_, h, _⟩
   have := hj 0 (Nat.zero_le _)
   rw [List.drop_zero] at this
   omega
theorem defc_drop (l : List Nd) (i : Nat) (h : i < l.length) : defc (l.drop i) = defc (l.drop (i + 1)) + arity l[i] - 1 := by
 rw [List.drop_eq_getElem_cons h, defc]
theorem defc_le (l : List Nd) (hg : goodAll l) : defc l ≤ 1 + 6 * l.length := by
 induction l with
 | nil => simp [defc]
 | cons n r ih =>
  have := ih (fun m hm => hg m (by simp [hm]))
  have := arity_good (hg n (by simp))
  simp only [defc, List.length_cons]
  omega
theorem goodAll_drop {l : List Nd} (hg : goodAll l) (i : Nat) : goodAll (l.drop i) := fun n hn => hg n (List.mem_of_mem_drop hn)
end
section
def lastKind (e : List Nd) : Int := match e[e.length - 1]? with | some n => n.kind | none => 0
def stmtB (s : St) : Bool :=
 decide (1 ≤ s.kind ∧ s.kind ≤ 8) && (if s.kind ≤ 3 then nameB s.name else s.name.toList == []) && oneB s.e && (if s.kind = 3 then oneB s.f else s.f.length == 0) && (decide (s.kind ≠ 8) || lastKind s.e == 4) && (decide (s.kind = 4 ∨ s.kind = 5) || s.thn == 0) && (decide (s.kind = 4) || s.els == 0)
theorem oneB_pos {l : List Nd} (h : oneB l = true) : 0 < l.length := by
 cases l with
 | nil => simp [oneB, wholeTo] at h
 | cons n r => simp
end
section
def fitN : Nat → List St → Bool
 | _, [] => true
 | 0, _ :: _ => false
 | n + 1, s :: r => decide (0 ≤ s.thn ∧ s.thn ≤ r.length ∧ 0 ≤ s.els ∧ s.els ≤ r.length - s.thn) && (fitN n (r.take s.thn.toNat) && (fitN n ((r.take (s.thn.toNat + s.els.toNat)).drop s.thn.toNat) && fitN n (r.drop (s.thn.toNat + s.els.toNat))))
def fitB (l : List St) : Bool := fitN l.length l
theorem fitN_any (n m : Nat) (l : List St) (hn : l.length ≤ n) (hm : l.length ≤ m) : fitN n l = fitN m l := by
 induction n generalizing m l with
 | zero =>
  have : l = [] := List.eq_nil_of_length_eq_zero (by omega)
  subst this
  cases m <;> rfl
 | succ n ih =>
  cases l with
  | nil => cases m <;> rfl
  | cons s r =>
   cases m with
   | zero => simp at hm
   | succ m =>
    simp only [List.length_cons] at hn hm
    simp only [fitN]
    rw [ih m (r.take s.thn.toNat) (by simp; omega) (by simp; omega), ih m ((r.take (s.thn.toNat + s.els.toNat)).drop s.thn.toNat) (by simp; omega) (by simp; omega), ih m (r.drop (s.thn.toNat + s.els.toNat)) (by simp; omega) (by simp; omega)]
theorem fitB_cons (s : St) (r : List St) : fitB (s :: r) = (decide (0 ≤ s.thn ∧ s.thn ≤ r.length ∧ 0 ≤ s.els ∧ s.els ≤ r.length - s.thn) && (fitB (r.take s.thn.toNat) && (fitB ((r.take (s.thn.toNat + s.els.toNat)).drop s.thn.toNat) && fitB (r.drop (s.thn.toNat + s.els.toNat))))) := by
 have h : fitB (s :: r) = fitN (r.length + 1) (s :: r) := rfl
 rw [h]
 simp only [fitN]
 rw [fitN_any r.length _ (r.take s.thn.toNat) (by simp; omega) (Nat.le_refl _), fitN_any r.length _ ((r.take (s.thn.toNat + s.els.toNat)).drop s.thn.toNat) (by simp; omega) (Nat.le_refl _), fitN_any r.length _ (r.drop (s.thn.toNat + s.els.toNat)) (by simp) (Nat.le_refl _)]
 rfl
theorem fitB_all (n : Nat) : ∀ l : List St, l.length ≤ n → fitB l = true → ∀ s ∈ l, 0 ≤ s.thn ∧ 0 ≤ s.els := by
 induction n with
 | zero =>
  intro l hl _ s hs
  have : l = [] := List.eq_nil_of_length_eq_zero (by omega)
  subst this
  cases hs
 | succ n ih =>
  intro l hl h s hs
  cases l with
  | nil => cases hs
  | cons t r =>
   simp only [List.length_cons] at hl
   rw [fitB_cons] at h
   simp only [Bool.and_eq_true, decide_eq_true_eq] at h
   obtain ⟨h0, h1, h2, h3⟩ := h
   rcases List.mem_cons.1 hs with rfl | hs
   ·exact ⟨h0.1, h0.2.2.1⟩
   ·have hr : r = r.take t.thn.toNat ++ ((r.take (t.thn.toNat + t.els.toNat)).drop t.thn.toNat ++ r.drop (t.thn.toNat + t.els.toNat)) := by
     rw [← List.append_assoc]
     have e : r.take t.thn.toNat ++ (r.take (t.thn.toNat + t.els.toNat)).drop t.thn.toNat = r.take (t.thn.toNat + t.els.toNat) := by
      have := List.take_append_drop t.thn.toNat (r.take (t.thn.toNat + t.els.toNat))
      rwa [List.take_take, Nat.min_eq_left (by omega)] at this
     rw [e, List.take_append_drop]
    rw [hr] at hs
    rcases List.mem_append.1 hs with hs | hs
    ·exact ih _ (by simp; omega) h1 s hs
    ·rcases List.mem_append.1 hs with hs | hs
     ·exact ih _ (by simp; omega) h2 s hs
     ·exact ih _ (by simp; omega) h3 s hs
end
section
def begP (ns:List Nd) (k i:Nat):Prop:=i<k/\defc ((ns.take k).drop i)=0/\∀j,i<j->j<=k->1<=defc ((ns.take k).drop j)
theorem whole_defc (l:List Nd) (k q:Int) (h:wholeTo l k=some q):defc l=1+k-q:=by
 induction l generalizing k with
 | nil=>simp only [wholeTo,Option.some.injEq] at h;subst h;simp [defc]
 | cons n r ih=>
  simp only [wholeTo] at h
  split at h
  ·have:=ih _ h
   simp only [defc]
   omega
  ·cases h
theorem whole_take (l:List Nd) (k q:Int) (h:wholeTo l k=some q) (j:Nat) : ∃p,wholeTo (l.take j) k=some p/\wholeTo (l.drop j) p=some q:=by
 rw [<-List.take_append_drop j l,wholeTo_append] at h
 cases e:wholeTo (l.take j) k with
 | none=>rw [e] at h;cases h
 | some p=>rw [e] at h;exact ⟨p,rfl,h⟩
theorem whole_pos (l:List Nd) (q:Int) (hl:0<l.length) (h:wholeTo l 0=some q):1<=q:=by
 obtain ⟨m,hm⟩ : ∃m,l.length=m+1:=⟨l.length-1,by omega⟩
 obtain ⟨p,h1,h2⟩:=whole_take l 0 q h m
 have:=wholeTo_step l m p (by omega) h1
 rw [<-hm,List.take_length,h] at this
 split at this
 ·rename_i hh
  simp only [Option.some.injEq] at this
  omega
 ·cases this
theorem whole_one (l:List Nd) (p:Int) (h:wholeTo l 0=some p) (m:Nat) (hm:l.length=m+1) (i:Nat) (hi:i<l.length) (a:Int) (ha:wholeTo (l.take i) 0=some a) : ∃c,wholeTo (l.take (i+1)) 0=some c/\c<=a+1:=by
 obtain ⟨c,h1,h2⟩:=whole_take l 0 p h (i+1)
 have:=wholeTo_step l i a hi ha
 rw [h1] at this
 split at this
 ·rename_i hh
  have:=arity_good hh.1
  simp only [Option.some.injEq] at *
  exact ⟨c,h1,by omega⟩
 ·cases this
theorem whole_cut (l:List Nd) (c:Int) (hc:0<=c) (h:wholeTo l 0=some (c+1)) : ∃i,i<l.length/\wholeTo (l.take i) 0=some c/\∀j,i<j->j<=l.length->∃p,wholeTo (l.take j) 0=some p/\c+1<=p:=by
 have hl:0<l.length:=by
  cases l with
  | nil=>simp only [wholeTo,Option.some.injEq] at h;omega
  | cons=>simp
 obtain ⟨m,hm⟩ : ∃m,l.length=m+1:=⟨l.length-1,by omega⟩
 have key : ∀d,d<=l.length->(∃i,l.length-d<=i/\i<l.length/\wholeTo (l.take i) 0=some c/\∀j,i<j->j<=l.length->∃p,wholeTo (l.take j) 0=some p/\c+1<=p)∨(∀j,l.length-d<=j->j<=l.length->∃p,wholeTo (l.take j) 0=some p/\c+1<=p):=by
  intro d
  induction d with
  | zero=>
   intro _
   refine .inr fun j h1 h2 => ?_
   obtain rfl:j=l.length:=by omega
   rw [List.take_length]
   exact ⟨_,h,Int.le_refl _⟩
  | succ d ih=>
   intro hd
   rcases ih (by omega) with ⟨i,h1,h2⟩ | hall
   ·exact .inl ⟨i,by omega,h2⟩
   ·obtain ⟨a,ha,_⟩:=whole_take l 0 _ h (l.length-(d+1))
    obtain ⟨c',h1,h2⟩:=whole_one l _ h m hm (l.length-(d+1)) (by omega) a ha
    obtain ⟨p,hp,hp2⟩:=hall (l.length-(d+1)+1) (by omega) (by omega)
    rw [h1] at hp
    simp only [Option.some.injEq] at hp
    by_cases e:a=c
    ·subst e
     exact .inl ⟨_,Nat.le_refl _,by omega,ha,fun j h3 h4=>hall j (by omega) h4⟩
    ·refine .inr fun j h3 h4 => ?_
     by_cases e2:j=l.length-(d+1)
     ·subst e2;exact ⟨a,ha,by omega⟩
     ·exact hall j (by omega) h4
 rcases key l.length (Nat.le_refl _) with ⟨i,_,h1⟩ | hall
 ·exact ⟨i,h1⟩
 ·obtain ⟨p,hp,hp2⟩:=hall 0 (by omega) (by omega)
  simp only [List.take_zero,wholeTo,Option.some.injEq] at hp
  omega
theorem whole_beg (e:List Nd) (k:Nat) (c:Int) (hk:k<=e.length) (hc:0<=c) (h:wholeTo (e.take k) 0=some (c+1)) :
  ∃i,begP e k i/\wholeTo (e.take i) 0=some c/\oneB ((e.take k).drop i)=true:=by
 have hlen:(e.take k).length=k:=by simp;omega
 obtain ⟨i,h1,h2,h3⟩:=whole_cut (e.take k) c hc h
 rw [hlen] at h1 h3
 have hd : ∀j,j<=k->∀p,wholeTo ((e.take k).take j) 0=some p->defc ((e.take k).drop j)=p-c:=by
  intro j hj p hp
  obtain ⟨p',g1,g2⟩:=whole_take (e.take k) 0 _ h j
  rw [hp] at g1
  simp only [Option.some.injEq] at g1
  subst g1
  have:=whole_defc _ _ _ g2
  omega
 have hb:begP e k i:=by
  refine ⟨h1,?_,fun j g1 g2 => ?_⟩
  ·rw [hd i (by omega) c h2];omega
  ·obtain ⟨p,hp,hp2⟩:=h3 j g1 g2
   rw [hd j g2 p hp];omega
 refine ⟨i,hb,?_,?_⟩
 ·rw [List.take_take,Nat.min_eq_left (by omega)] at h2;exact h2
 ·rw [oneB_iff]
  refine ⟨fun n hn=>wholeTo_good _ _ _ h n (List.mem_of_mem_drop hn),hb.2.1,fun j g1 g2 => ?_⟩
  rw [List.drop_drop]
  simp only [List.length_drop,hlen] at g2
  exact hb.2.2 (i+j) (by omega) (by omega)
def nd0:Nd:=⟨1,0,⟨#[]⟩⟩
def rootN (e:List Nd):Nd:=e.getD (e.length-1) nd0
structure Cut (e:List Nd) (A:Nat) (b:Nat->Nat):Prop where
 len:0<e.length
 ar:arity (rootN e)=A
 good:goodAll e
 last:b A=e.length-1
 first:b 0=0
 beg : ∀i,i<A->begP e (b (i+1)) (b i)
def kid (e:List Nd) (b:Nat->Nat) (i:Nat):List Nd:=(e.take (b (i+1))).drop (b i)
theorem cuts_down (e:List Nd) (he:0<e.length) (A:Nat) : ∀k,k<=e.length->wholeTo (e.take k) 0=some (A:Int)->∃b:Nat->Nat,b A=k/\b 0=0/\∀i,i<A->begP e (b (i+1)) (b i)/\oneB (kid e b i)=true:=by
 induction A with
 | zero=>
  intro k hk h
  refine ⟨fun _=>0,?_,rfl,fun i hi=>absurd hi (by omega)⟩
  rcases Nat.eq_zero_or_pos k with rfl | hp
  ·rfl
  ·have:=whole_pos (e.take k) _ (by simp;omega) h
   omega
 | succ A ih=>
  intro k hk h
  obtain ⟨i,h1,h2,h3⟩:=whole_beg e k A hk (by omega) (by rw [h];rfl)
  obtain ⟨b,g1,g2,g3⟩:=ih i (by have:=h1.1;omega) h2
  refine ⟨fun j=>if j=A+1 then k else b j,by simp,by simp [g2],fun j hj => ?_⟩
  by_cases e1:j=A
  ·subst e1
   simp only [kid,if_true,Nat.succ_ne_self,if_neg (show ¬j=j+1 by omega),g1]
   exact ⟨h1,h3⟩
  ·have:=g3 j (by omega)
   simp only [kid,if_neg (show ¬j=A+1 by omega),if_neg (show ¬j+1=A+1 by omega)]
   exact this
theorem rootN_eq (e:List Nd) (h:0<e.length):rootN e=e[e.length-1]'(by omega):=by
 simp [rootN,List.getD,List.getElem?_eq_getElem (show e.length-1<e.length by omega)]
theorem one_pos {e:List Nd} (h:oneB e=true):0<e.length:=by
 cases e with
 | nil=>simp [oneB,wholeTo] at h
 | cons=>simp
theorem one_good {e:List Nd} (h:oneB e=true):goodAll e:=((oneB_iff e).1 h).1
theorem one_root {e:List Nd} (h:oneB e=true):nodeB (rootN e)=true:=by
 rw [rootN_eq e (one_pos h)]
 exact one_good h _ (List.getElem_mem _)
theorem one_cuts {e:List Nd} (h:oneB e=true) : ∃A b,Cut e A b/\∀i,i<A->oneB (kid e b i)=true:=by
 have hl:=one_pos h
 have h':wholeTo e 0=some 1:=by simpa [oneB] using h
 obtain ⟨q,h1,h2⟩:=whole_take e 0 1 h' (e.length-1)
 have hs:=wholeTo_step e (e.length-1) q (by omega) h1
 rw [show e.length-1+1=e.length by omega,List.take_length,h'] at hs
 split at hs
 ·simp only [Option.some.injEq] at hs
  have hb:=arity_good (one_root h)
  rw [rootN_eq e hl] at hb
  obtain ⟨A,hA⟩ : ∃A:Nat,q=A:=⟨q.toNat,by omega⟩
  subst hA
  obtain ⟨b,g1,g2,g3⟩:=cuts_down e hl A (e.length-1) (by omega) h1
  exact ⟨A,b,⟨hl,by rw [rootN_eq e hl];omega,one_good h,g1,g2,fun i hi=>(g3 i hi).1⟩,fun i hi=>(g3 i hi).2⟩
 ·cases hs
end
section
def nodeSum : List St → Nat
 | [] => 0
 | s :: r => s.e.length + s.f.length + nodeSum r
theorem nodeSum_append (a b : List St) : nodeSum (a ++ b) = nodeSum a + nodeSum b := by
 induction a with
 | nil => simp [nodeSum]
 | cons s r ih => simp [nodeSum, ih]; omega
theorem nodeSum_step (l : List St) (k : Nat) (h : k < l.length) : nodeSum (l.take (k + 1)) = nodeSum (l.take k) + l[k].e.length + l[k].f.length := by
 rw [take_succ l k h, nodeSum_append]; simp [nodeSum]; omega
theorem nodeSum_le (l : List St) (k : Nat) : nodeSum (l.take k) ≤ nodeSum l := by
 have := nodeSum_append (l.take k) (l.drop k)
 rw [List.take_append_drop] at this
 omega
def stmtsB (p : St → Bool) (l : List St) : Bool := decide (nodeSum l ≤ 2000) && l.all p
theorem stmtsB_sum {p : St → Bool} {l : List St} {k : Nat} (h : 2000 < nodeSum (l.take k)) : stmtsB p l = false := by
 have := nodeSum_le l k
 simp only [stmtsB, decide_eq_false (show ¬ nodeSum l ≤ 2000 by omega), Bool.false_and]
theorem stmtsB_bad {p : St → Bool} {l : List St} {k : Nat} (hk : k < l.length) (h : p l[k] = false) : stmtsB p l = false := by
 have : l.all p = false := by
  rw [List.all_eq_false]
  exact ⟨l[k], List.getElem_mem hk, by simp [h]⟩
 simp [stmtsB, this]
theorem stmtsB_ok {p : St → Bool} {l : List St} (h1 : nodeSum l ≤ 2000) (h2 : ∀ s ∈ l, p s = true) : stmtsB p l = true := by
 have : l.all p = true := List.all_eq_true.2 h2
 simp [stmtsB, this, h1]
theorem all_bad {p : ByteArray → Bool} {l : List ByteArray} {k : Nat} (hk : k < l.length) (h : p l[k] = false) : l.all p = false := by
 rw [List.all_eq_false]
 exact ⟨l[k], List.getElem_mem hk, by simp [h]⟩
def funcB (f : Fu) : Bool := nameB f.name && (decide (f.params.length ≤ 6) && (decide (f.body.length ≤ 500) && (f.params.all nameB && (stmtsB stmtB f.body && fitB f.body))))
def gstmtB (s : St) : Bool := stmtB s && decide (0 ≤ s.thn ∧ 0 ≤ s.els)
theorem gstmts_fit (l : List St) : (stmtsB gstmtB l && fitB l) = (stmtsB stmtB l && fitB l) := by
 cases h : fitB l
 ·simp
 ·have hn := fitB_all l.length l (Nat.le_refl _) h
  have : l.all gstmtB = l.all stmtB := by
   apply Bool.eq_iff_iff.2
   rw [List.all_eq_true, List.all_eq_true]
   constructor
   ·intro h s hs
    have := h s hs
    simp only [gstmtB, Bool.and_eq_true] at this
    exact this.1
   ·intro h s hs
    simp only [gstmtB, Bool.and_eq_true, decide_eq_true_eq]
    exact ⟨h s hs, hn s hs⟩
  simp only [stmtsB, this]
theorem gstmts_nonneg {l : List St} (h : ∀ s ∈ l, gstmtB s = true) : ∀ s ∈ l, 0 ≤ s.thn ∧ 0 ≤ s.els := by
 intro s hs
 have := h s hs
 simp only [gstmtB, Bool.and_eq_true, decide_eq_true_eq] at this
 exact this.2
def globB (g : Gl) : Bool := nameB g.name && decide (0 ≤ g.size ∧ g.size ≤ 4000)
def treeB (t : Tr) : Bool := decide (t.globals.length ≤ 50) && (decide (t.funcs.length ≤ 50) && (t.globals.all globB && t.funcs.all funcB))
theorem allG_bad {l : List Gl} {k : Nat} (hk : k < l.length) (h : globB l[k] = false) : l.all globB = false := by
 rw [List.all_eq_false]
 exact ⟨l[k], List.getElem_mem hk, by simp [h]⟩
theorem allF_bad {l : List Fu} {k : Nat} (hk : k < l.length) (h : funcB l[k] = false) : l.all funcB = false := by
 rw [List.all_eq_false]
 exact ⟨l[k], List.getElem_mem hk, by simp [h]⟩
def smallS (s : St) : Prop := s.e.length ≤ 1048576 ∧ s.f.length ≤ 1048576
def smallF (f : Fu) : Prop := f.params.length ≤ 1048576 ∧ f.body.length ≤ 1048576 ∧ ∀ s ∈ f.body, smallS s
def smallT (t : Tr) : Prop := t.globals.length ≤ 1048576 ∧ t.funcs.length ≤ 1048576 ∧ ∀ f ∈ t.funcs, smallF f
end
section
def wfNs (ns : List Nd) : Prop := ns.length ≤ 9223372036854775807 ∧ ∀ n ∈ ns, n.name.size ≤ 9223372036854775807
def wfSt (s : St) : Prop := s.name.size ≤ 9223372036854775807 ∧ wfNs s.e ∧ wfNs s.f
def wfSs (ss : List St) : Prop := ss.length ≤ 9223372036854775807 ∧ ∀ s ∈ ss, wfSt s
def wfPs (ps : List ByteArray) : Prop := ps.length ≤ 9223372036854775807 ∧ ∀ s ∈ ps, s.size ≤ 9223372036854775807
def wfFu (f : Fu) : Prop := f.name.size ≤ 9223372036854775807 ∧ wfPs f.params ∧ wfSs f.body
def wfFs (fs : List Fu) : Prop := fs.length ≤ 9223372036854775807 ∧ ∀ f ∈ fs, wfFu f
def wfGs (gs : List Gl) : Prop := gs.length ≤ 9223372036854775807 ∧ ∀ g ∈ gs, g.name.size ≤ 9223372036854775807
def wfT (t : Tr) : Prop := wfGs t.globals ∧ wfFs t.funcs
end
section
theorem Cut.le {e : List Nd} {A : Nat} {b : Nat → Nat} (h : Cut e A b) : ∀ d, d ≤ A → b (A - d) ≤ e.length - 1 := by
 intro d
 induction d with
 | zero => intro _; rw [Nat.sub_zero, h.last]; exact Nat.le_refl _
 | succ d ih =>
  intro hd
  have := ih (by omega)
  have h2 := (h.beg (A - (d + 1)) (by omega)).1
  rw [show A - (d + 1) + 1 = A - d by omega] at h2
  omega
theorem Cut.le' {e : List Nd} {A : Nat} {b : Nat → Nat} (h : Cut e A b) (i : Nat) (hi : i ≤ A) : b i ≤ e.length - 1 := by
 have := h.le (A - i) (by omega)
 rwa [show A - (A - i) = i by omega] at this
theorem Cut.kid_len {e : List Nd} {A : Nat} {b : Nat → Nat} (h : Cut e A b) (i : Nat) (hi : i < A) : (kid e b i).length = b (i + 1) - b i := by
 have := h.le' (i + 1) (by omega)
 simp [kid]
 omega
theorem Cut.kid_lt {e : List Nd} {A : Nat} {b : Nat → Nat} (h : Cut e A b) (i : Nat) (hi : i < A) : (kid e b i).length < e.length := by
 rw [h.kid_len i hi]
 have := h.le' (i + 1) (by omega)
 have := h.len
 omega
theorem Cut.root_good {e : List Nd} {A : Nat} {b : Nat → Nat} (h : Cut e A b) : nodeB (rootN e) = true := by
 rw [rootN_eq e h.len]
 exact h.good _ (List.getElem_mem _)
theorem Cut.arA {e : List Nd} {A : Nat} {b : Nat → Nat} (h : Cut e A b) : A ≤ 6 := by
 have := arity_good h.root_good
 have := h.ar
 omega
end
section
open Go.RowKit
def joinF (F : Nat → List Nd) : Nat → List Nd
 | 0 => []
 | i + 1 => joinF F i ++ F i
end
section
def callM (G:Nat->Int->Int):Nat->Int->Int
 | 0,d=>d+1
 | i+1,d=>max (callM G i d) (G i (d+i))
def need1 (n:Nd) (A:Nat) (G:Nat->Int->Int):Int->Int:=
 if n.kind=3∨n.kind=6 then G 0
 else if n.kind=7 then fun d=>max (G 0 d) (G 1 (d+1))
 else if n.kind=8∨n.kind=9 then fun d=>max (G 0 d) (G 1 d)
 else callM G A
def evS (stk:List (Int->Int)) (n:Nd):List (Int->Int):=need1 n (arity n).toNat (fun i=>stk.getD ((arity n).toNat-1-i) (fun d=>d))::stk.drop (arity n).toNat
def evN (e:List Nd) (stk:List (Int->Int)):List (Int->Int):=e.foldl evS stk
theorem evN_append (a b:List Nd) (stk:List (Int->Int)):evN (a++b) stk=evN b (evN a stk):=by simp [evN]
def NF (e:List Nd) (g:Int->Int):Prop:=∀stk,evN e stk=g::stk
theorem NF.one {e:List Nd} {g h:Int->Int} (hg:NF e g) (hh:NF e h):g=h:=by
 have h1:=hg []
 rw [hh []] at h1
 simpa using h1.symm
theorem callM_congr {G H:Nat->Int->Int} : ∀(A:Nat),(∀i,i<A->G i=H i)->callM G A=callM H A
 | 0,_=>rfl
 | A+1,h=>by
  funext d
  simp only [callM]
  rw [callM_congr A (fun i hi=>h i (by omega)),h A (by omega)]
theorem need1_congr {n:Nd} {A:Nat} {G H:Nat->Int->Int} (h3:n.kind=3∨n.kind=6->1<=A) (h7:n.kind=7∨n.kind=8∨n.kind=9->2<=A) (h : ∀i,i<A->G i=H i):need1 n A G=need1 n A H:=by
 unfold need1
 split
 ·rename_i hk;exact h 0 (by have:=h3 hk;omega)
 ·split
  ·rename_i hk;rw [h 0 (by have:=h7 (.inl hk);omega),h 1 (by have:=h7 (.inl hk);omega)]
  ·split
   ·rename_i hk;rw [h 0 (by have:=h7 (.inr hk);omega),h 1 (by have:=h7 (.inr hk);omega)]
   ·exact callM_congr A h
theorem joinF_ev {F:Nat->List Nd} {G:Nat->Int->Int} : ∀(A:Nat) (stk:List (Int->Int)),(∀i,i<A->NF (F i) (G i))->evN (joinF F A) stk=((List.range A).map G).reverse++stk
 | 0,stk,_=>rfl
 | A+1,stk,h=>by
  rw [joinF,evN_append,joinF_ev A stk (fun i hi=>h i (by omega)),h A (by omega),List.range_succ]
  simp
theorem rev_getD {G:Nat->Int->Int} {A i:Nat} (stk:List (Int->Int)) (hi:i<A):(((List.range A).map G).reverse++stk).getD (A-1-i) (fun d=>d)=G i:=by
 have hl:A-1-i<((List.range A).map G).reverse.length:=by simp;omega
 simp only [List.getD]
 rw [List.getElem?_append_left hl,List.getElem?_eq_getElem hl]
 simp only [Option.getD_some,List.getElem_reverse,List.getElem_map,List.getElem_range,List.length_map,List.length_range]
 congr 1
 omega
theorem NF.node {n:Nd} (hn:nodeB n=true) {A:Nat} (hA:arity n=A) {F:Nat->List Nd} {G:Nat->Int->Int} (h : ∀i,i<A->NF (F i) (G i)):NF (joinF F A++[n]) (need1 n A G):=by
 intro stk
 have e:(arity n).toNat=A:=by omega
 rw [evN_append,joinF_ev A stk h]
 show evS (((List.range A).map G).reverse++stk) n=_
 unfold evS
 rw [e]
 have hd:(((List.range A).map G).reverse++stk).drop A=stk:=by
  rw [List.drop_append_of_le_length (by simp)]
  simp
 rw [hd,need1_congr (H:=G) (fun hk => ?_) (fun hk => ?_) (fun i hi=>rev_getD stk hi)]
 ·rcases hk with hk | hk <;> (simp [arity,hk] at hA;omega)
 ·rcases hk with hk | hk | hk <;> (simp [arity,hk] at hA;omega)
theorem kid_join {e:List Nd} {A:Nat} {b:Nat->Nat} (hc:Cut e A b) : ∀i,i<=A->joinF (kid e b) i=e.take (b i):=by
 intro i
 induction i with
 | zero=>intro _;rw [hc.first];rfl
 | succ i ih=>
  intro hi
  have hb:=(hc.beg i (by omega)).1
  rw [joinF,ih (by omega),kid]
  have e1:e.take (b i)=(e.take (b (i+1))).take (b i):=by rw [List.take_take];congr 1;omega
  rw [e1,List.take_append_drop]
theorem cut_join {e:List Nd} {A:Nat} {b:Nat->Nat} (hc:Cut e A b):joinF (kid e b) A++[rootN e]=e:=by
 have hl:=hc.len
 rw [kid_join hc A (Nat.le_refl _),hc.last,rootN_eq e hl]
 have:=List.take_succ_eq_append_getElem (l:=e) (i:=e.length-1) (by omega)
 rw [<-this,show e.length-1+1=e.length by omega,List.take_length]
theorem NF.cut {e:List Nd} {A:Nat} {b:Nat->Nat} (hc:Cut e A b) {G:Nat->Int->Int} (h : ∀i,i<A->NF (kid e b i) (G i)):NF e (need1 (rootN e) A G):=by
 have:=NF.node hc.root_good hc.ar h
 rw [cut_join hc] at this
 exact this
def NFb (L:Nat) (g:Int->Int):Prop:=∀d,d<=g d/\g d<=d+7*L
theorem callM_bd {G:Nat->Int->Int} {L:Nat} : ∀(A:Nat) (d:Int),A<=6->(∀i,i<A->NFb L (G i))->d<=callM G A d/\callM G A d<=d+7*(L+1)
 | 0,d,_,_=>by simp only [callM];omega
 | A+1,d,hA,h=>by
  obtain ⟨h1,h2⟩:=callM_bd A d (by omega) (fun i hi=>h i (by omega))
  have h3:=h A (by omega) (d+A)
  simp only [callM]
  omega
theorem need1_bd {n:Nd} {A L:Nat} {G:Nat->Int->Int} (hn:nodeB n=true) (hA:arity n=A) (h : ∀i,i<A->NFb L (G i)):NFb (L+1) (need1 n A G):=by
 intro d
 have h6:=(arity_good hn).2
 unfold need1
 split
 ·rename_i hk
  have e:A=1:=by rcases hk with hk | hk <;> (simp [arity,hk] at hA;omega)
  have:=h 0 (by omega) d
  omega
 ·split
  ·rename_i hk
   have e:A=2:=by simp [arity,hk] at hA;omega
   have:=h 0 (by omega) d
   have:=h 1 (by omega) (d+1)
   simp only
   omega
  ·split
   ·rename_i hk
    have e:A=2:=by rcases hk with hk | hk <;> (simp [arity,hk] at hA;omega)
    have:=h 0 (by omega) d
    have:=h 1 (by omega) d
    simp only
    omega
   ·exact callM_bd A d (by omega) h
theorem NFb.mono {L M:Nat} {g:Int->Int} (h:NFb L g) (hl:L<=M):NFb M g:=fun d=>by have:=h d;omega
theorem NF.exists (N:Nat) : ∀e:List Nd,e.length<=N->oneB e=true->∃g,NF e g/\NFb e.length g:=by
 induction N with
 | zero=>intro e hl h;have:=one_pos h;omega
 | succ N ih=>
  intro e hl h
  obtain ⟨A,b,hc,hk⟩:=one_cuts h
  have h0 : ∀i,∃g,i<A->NF (kid e b i) g/\NFb (kid e b i).length g:=by
   intro i
   by_cases hi:i<A
   ·obtain ⟨g,hg⟩:=ih (kid e b i) (by have:=hc.kid_lt i hi;omega) (hk i hi)
    exact ⟨g,fun _=>hg⟩
   ·exact ⟨fun d=>d,fun h=>absurd h hi⟩
  refine ⟨_,NF.cut hc (G:=fun i=>(h0 i).choose) (fun i hi=>((h0 i).choose_spec hi).1),?_⟩
  have:=need1_bd (L:=e.length-1) hc.root_good hc.ar (fun i hi=>(((h0 i).choose_spec hi).2).mono (by have:=hc.kid_lt i hi;omega))
  rw [show e.length-1+1=e.length by have:=hc.len;omega] at this
  exact this
end
section
open Go.RowKit
end
section
section
variable {α : Type} [Inhabited α]
def eaS (st : Nd → Nat → (Nat → α) → α) (stk : List α) (n : Nd) : List α := st n (arity n).toNat (fun i => stk.getD ((arity n).toNat - 1 - i) default) :: stk.drop (arity n).toNat
def eaN (st : Nd → Nat → (Nat → α) → α) (e : List Nd) (stk : List α) : List α := e.foldl (eaS st) stk
theorem eaN_append (st : Nd → Nat → (Nat → α) → α) (a b : List Nd) (stk : List α) : eaN st (a ++ b) stk = eaN st b (eaN st a stk) := by simp [eaN]
def EA (st : Nd → Nat → (Nat → α) → α) (e : List Nd) (g : α) : Prop := ∀ stk, eaN st e stk = g :: stk
def Own (st : Nd → Nat → (Nat → α) → α) : Prop := ∀ (n : Nd) (A : Nat) (G H : Nat → α), nodeB n = true → arity n = A → (∀ i, i < A → G i = H i) → st n A G = st n A H
theorem joinF_ea {st : Nd → Nat → (Nat → α) → α} {F : Nat → List Nd} {G : Nat → α} : ∀ (A : Nat) (stk : List α), (∀ i, i < A → EA st (F i) (G i)) → eaN st (joinF F A) stk = ((List.range A).map G).reverse ++ stk
 | 0, stk, _ => rfl
 | A + 1, stk, h => by
  rw [joinF, eaN_append, joinF_ea A stk (fun i hi => h i (by omega)), h A (by omega), List.range_succ]
  simp
theorem rev_getE {G : Nat → α} {A i : Nat} (stk : List α) (hi : i < A) : (((List.range A).map G).reverse ++ stk).getD (A - 1 - i) default = G i := by
 have hl : A - 1 - i < ((List.range A).map G).reverse.length := by simp; omega
 simp only [List.getD]
 rw [List.getElem?_append_left hl, List.getElem?_eq_getElem hl]
 simp only [Option.getD_some, List.getElem_reverse, List.getElem_map, List.getElem_range, List.length_map, List.length_range]
 congr 1
 omega
theorem EA.node {st : Nd → Nat → (Nat → α) → α} (ho : Own st) {n : Nd} (hn : nodeB n = true) {A : Nat} (hA : arity n = A) {F : Nat → List Nd} {G : Nat → α} (h : ∀ i, i < A → EA st (F i) (G i)) : EA st (joinF F A ++ [n]) (st n A G) := by
 intro stk
 have e : (arity n).toNat = A := by omega
 rw [eaN_append, joinF_ea A stk h]
 show eaS st (((List.range A).map G).reverse ++ stk) n = _
 unfold eaS
 rw [e]
 have hd : (((List.range A).map G).reverse ++ stk).drop A = stk := by
  rw [List.drop_append_of_le_length (by simp)]
  simp
 rw [hd, ho n A _ G hn hA (fun i hi => rev_getE stk hi)]
theorem EA.cut {st : Nd → Nat → (Nat → α) → α} (ho : Own st) {e : List Nd} {A : Nat} {b : Nat → Nat} (hc : Cut e A b) {G : Nat → α} (h : ∀ i, i < A → EA st (kid e b i) (G i)) : EA st e (st (rootN e) A G) := by
 have := EA.node ho hc.root_good hc.ar h
 rw [cut_join hc] at this
 exact this
def eaV (st : Nd → Nat → (Nat → α) → α) (e : List Nd) : α := (eaN st e []).headD default
theorem EA.eq {st : Nd → Nat → (Nat → α) → α} {e : List Nd} {g : α} (h : EA st e g) : eaV st e = g := by
 unfold eaV; rw [h []]; rfl
end
end
section
structure GEnv where
 n:Nat
 loc:ByteArray->Option Int
 glob:ByteArray->Int
 fn:ByteArray->Int
def insI (op rd s1 s2 im:Int):It:=⟨1,⟨op,rd,s1,s2,im⟩,0⟩
def markI (kind label:Int):It:=⟨kind,⟨0,0,0,0,0⟩,label⟩
def branI (op reg label:Int):It:=⟨3,⟨op,0,reg,0,0⟩,label⟩
def regI (d sp:Int):Int:=if d=0 then 5 else if d=1 then 6 else if d=2 then 7 else if d=3 then 28 else if d=4 then 29 else sp
def wordI (E:GEnv) (d:Int):Int:=4*((E.n:Int)+d)
def readL (E:GEnv) (d sp:Int):List It:=if 5<=d then [insI 10 sp 2 0 (wordI E d)] else []
def writeL (E:GEnv) (d:Int):List It:=if 5<=d then [insI 11 0 2 30 (wordI E d)] else []
def loadL (reg v:Int):List It:=
 if -2048<=v/\v<=2047 then [insI 12 reg 0 0 v]
 else [insI 1 reg 0 0 (((v+2048) / 4096) % 1048576)]++(if v=(v+2048) / 4096*4096 then [] else [insI 12 reg reg 0 (v-(v+2048) / 4096*4096)])
def answerL (E:GEnv) (d:Int):List It:=if 5<=d then [insI 11 0 2 10 (wordI E d)] else [insI 12 (regI d 30) 10 0 0]
def unL (op r a:Int):List It:=if op=0 then [insI 22 r 0 a 0] else if op=1 then [insI 14 r a 0 1] else [insI 15 r a 0 (-1)]
def binO (op:Int):Int:=if op=0 then 31 else if op=1 then 32 else if op=2 then 33 else if op=3 then 21 else if op=4 then 22 else if op=5 then 23 else if op=6 then 28 else if op=13 then 30 else if op=14 then 26 else 29
def binL (op r a b:Int):List It:=
 if op=7 then [insI 24 r a b 0] else if op=9 then [insI 24 r b a 0]
 else if op=8 then [insI 24 r b a 0,insI 15 r r 0 1] else if op=10 then [insI 24 r a b 0,insI 15 r r 0 1]
 else if op=11 then [insI 22 r a b 0,insI 14 r r 0 1] else if op=12 then [insI 22 r a b 0,insI 25 r 0 r 0]
 else [insI (binO op) r a b 0]
def varL (E:GEnv) (s:ByteArray) (r:Int):List It:=match E.loc s with
 | some at_=>[insI 10 r 2 0 at_]
 | none=>loadL 31 (E.glob s)++[insI 10 r 31 0 0]
abbrev Cod:=Int->Int->List It × Int
def argsC (G:Nat->Cod) (d:Int):Nat->Int->List It × Int
 | 0,l=>([],l)
 | i+1,l=>((argsC G d i l).1++(G i (d+i) (argsC G d i l).2).1,(G i (d+i) (argsC G d i l).2).2)
def keepL (E:GEnv):Nat->List It
 | 0=>[]
 | j+1=>keepL E j++[insI 11 0 2 (regI j 0) (wordI E j)]
def backL (E:GEnv):Nat->List It
 | 0=>[]
 | j+1=>backL E j++[insI 10 (regI j 0) 2 0 (wordI E j)]
def passL (E:GEnv) (d:Int):Nat->List It
 | 0=>[]
 | i+1=>passL E d i++[if d+i<5 then insI 12 (10+i) (regI (d+i) 0) 0 0 else insI 10 (10+i) 2 0 (wordI E (d+i))]
def callC (E:GEnv) (s:ByteArray) (G:Nat->Cod) (A:Nat):Cod:=fun d l=>
 ((argsC G d A l).1++keepL E (min d 5).toNat++passL E d A++[markI 5 (E.fn s)]++backL E (min d 5).toNat++answerL E d,(argsC G d A l).2)
def choiceC (E:GEnv) (op:Int) (x y:Cod):Cod:=fun d l=>
 ((x d (l+1)).1++readL E d 30++[branI op (regI d 30) l]++(y d (x d (l+1)).2).1++[markI 2 l]++readL E d 30++[insI 25 (regI d 30) 0 (regI d 30) 0]++writeL E d,(y d (x d (l+1)).2).2)
def genN (E:GEnv) (n:Nd) (A:Nat) (G:Nat->Cod):Cod:=
 if n.kind=1 then fun d l=>(loadL (regI d 30) n.val++writeL E d,l)
 else if n.kind=2 then fun d l=>(varL E n.name (regI d 30)++writeL E d,l)
 else if n.kind=3 then fun d l=>((G 0 d l).1++readL E d 30++[insI 18 (regI d 30) (regI d 30) 0 2]++loadL 31 (E.glob n.name)++[insI 21 31 31 (regI d 30) 0,insI 10 (regI d 30) 31 0 0]++writeL E d,(G 0 d l).2)
 else if n.kind=4 then callC E n.name G A
 else if n.kind=5 then fun d l=>([insI 12 17 0 0 2,insI 34 0 0 0 0]++answerL E d,l)
 else if n.kind=6 then fun d l=>((G 0 d l).1++readL E d 30++unL n.val (regI d 30) (regI d 30)++writeL E d,(G 0 d l).2)
 else if n.kind=7 then fun d l=>((G 0 d l).1++(G 1 (d+1) (G 0 d l).2).1++readL E d 30++readL E (d+1) 31++binL n.val (regI d 30) (regI d 30) (regI (d+1) 31)++writeL E d,(G 1 (d+1) (G 0 d l).2).2)
 else choiceC E (if n.kind=9 then 5 else 4) (G 0) (G 1)
theorem argsC_congr {G H:Nat->Cod} {d:Int} : ∀(A:Nat) (l:Int),(∀i,i<A->G i=H i)->argsC G d A l=argsC H d A l
 | 0,_,_=>rfl
 | A+1,l,h=>by
  simp only [argsC]
  rw [argsC_congr A l (fun i hi=>h i (by omega)),h A (by omega)]
theorem gen_own (E:GEnv):Own (genN E):=by
 intro n A G H hn hA h
 have hk:=kind_good hn
 unfold genN
 by_cases h1:n.kind=1
 ·simp [h1]
 by_cases h2:n.kind=2
 ·simp [h2]
 by_cases h3:n.kind=3
 ·have e:A=1:=by simp [arity,h3] at hA;omega
  simp [h3,h 0 (by omega)]
 by_cases h4:n.kind=4
 ·simp only [h4]
  funext d l
  simp [callC,argsC_congr (d:=d) A l h]
 by_cases h5:n.kind=5
 ·simp [h5]
 by_cases h6:n.kind=6
 ·have e:A=1:=by simp [arity,h6] at hA;omega
  simp [h6,h 0 (by omega)]
 by_cases h7:n.kind=7
 ·have e:A=2:=by simp [arity,h7] at hA;omega
  simp [h7,h 0 (by omega),h 1 (by omega)]
 ·have e:A=2:=by
   have h89:n.kind=8∨n.kind=9:=by omega
   rcases h89 with hh | hh <;> (simp [arity,hh] at hA;omega)
  simp only [h1,h2,h3,h4,h5,h6,h7,if_false]
  rw [h 0 (by omega),h 1 (by omega)]
def codeE (E:GEnv) (e:List Nd):Cod:=eaV (genN E) e
end
section
def Lk (M : Int) (l : List It) : Prop := ∀ x ∈ l, -1 ≤ x.label ∧ x.label ≤ M
theorem lk_app (M : Int) (a b : List It) : Lk M (a ++ b) ↔ Lk M a ∧ Lk M b := ⟨fun h => ⟨fun x hx => h x (List.mem_append_left _ hx), fun x hx => h x (List.mem_append_right _ hx)⟩, fun h x hx => (List.mem_append.1 hx).elim (h.1 x) (h.2 x)⟩
theorem lk_cons (M : Int) (x : It) (l : List It) : Lk M (x :: l) ↔ (-1 ≤ x.label ∧ x.label ≤ M) ∧ Lk M l := by simp [Lk]
theorem lk_nil (M : Int) : Lk M [] ↔ True := by simp [Lk]
end
section
def CB (k : Nat) (g : Cod) : Prop := ∀ d l, (g d l).1.length ≤ 24 * k ∧ l ≤ (g d l).2 ∧ (g d l).2 ≤ l + k
theorem readL_len (E : GEnv) (d sp : Int) : (readL E d sp).length ≤ 1 := by unfold readL; split <;> simp
theorem writeL_len (E : GEnv) (d : Int) : (writeL E d).length ≤ 1 := by unfold writeL; split <;> simp
theorem loadL_len (r v : Int) : (loadL r v).length ≤ 2 := by unfold loadL; split <;> (try split) <;> simp
theorem answerL_len (E : GEnv) (d : Int) : (answerL E d).length = 1 := by unfold answerL; split <;> simp
theorem unL_len (op r a : Int) : (unL op r a).length = 1 := by unfold unL; split <;> (try split) <;> simp
theorem binL_len (op r a b : Int) : (binL op r a b).length ≤ 2 := by unfold binL; split <;> (try split) <;> (try split) <;> (try split) <;> (try split) <;> (try split) <;> simp
theorem varL_len (E : GEnv) (s : ByteArray) (r : Int) : (varL E s r).length ≤ 3 := by
 unfold varL
 split
 ·simp
 ·have := loadL_len 31 (E.glob s); simp; omega
theorem keepL_len (E : GEnv) : ∀ j, (keepL E j).length = j
 | 0 => rfl
 | j + 1 => by simp [keepL, keepL_len E j]
theorem backL_len (E : GEnv) : ∀ j, (backL E j).length = j
 | 0 => rfl
 | j + 1 => by simp [backL, backL_len E j]
theorem passL_len (E : GEnv) (d : Int) : ∀ j, (passL E d j).length = j
 | 0 => rfl
 | j + 1 => by simp [passL, passL_len E d j]
theorem args_cb {G : Nat → Cod} {F : Nat → List Nd} {d : Int} : ∀ (A : Nat) (l : Int), (∀ i, i < A → CB (F i).length (G i)) → (argsC G d A l).1.length ≤ 24 * (joinF F A).length ∧ l ≤ (argsC G d A l).2 ∧ (argsC G d A l).2 ≤ l + (joinF F A).length
 | 0, l, _ => by simp [argsC, joinF]
 | A + 1, l, h => by
  obtain ⟨h1, h2, h3⟩ := args_cb (d := d) A l (fun i hi => h i (by omega))
  obtain ⟨g1, g2, g3⟩ := h A (by omega) (d + A) (argsC G d A l).2
  simp only [argsC, joinF, List.length_append]
  refine ⟨?_, ?_, ?_⟩ <;> omega
theorem joinF_one (F : Nat → List Nd) : (joinF F 1).length = (F 0).length := by simp [joinF]
theorem joinF_two (F : Nat → List Nd) : (joinF F 2).length = (F 0).length + (F 1).length := by simp [joinF]
theorem joinF_at (F : Nat → List Nd) {i A : Nat} (h : i < A) : (joinF F i).length + (F i).length ≤ (joinF F A).length := by
 induction A with
 | zero => omega
 | succ A ih =>
  by_cases e : i = A
  ·subst e; simp [joinF]
  ·have := ih (by omega); simp [joinF]; omega
theorem gen_cb (E : GEnv) {n : Nd} {A : Nat} {F : Nat → List Nd} {G : Nat → Cod} (hn : nodeB n = true) (hA : arity n = A) (h : ∀ i, i < A → CB (F i).length (G i)) : CB ((joinF F A).length + 1) (genN E n A G) := by
 intro d l
 have hk := kind_good hn
 have h6 := arity_good hn
 have r1 := readL_len E d 30
 have r2 := readL_len E (d + 1) 31
 have r3 := writeL_len E d
 have r4 := answerL_len E d
 unfold genN
 by_cases h1 : n.kind = 1
 ·have := loadL_len (regI d 30) n.val
  simp only [h1, if_true, List.length_append]
  refine ⟨?_, ?_, ?_⟩ <;> omega
 rw [if_neg h1]
 by_cases h2 : n.kind = 2
 ·have := varL_len E n.name (regI d 30)
  simp only [h2, if_true, List.length_append]
  refine ⟨?_, ?_, ?_⟩ <;> omega
 rw [if_neg h2]
 by_cases h3 : n.kind = 3
 ·have e : A = 1 := by simp [arity, h3] at hA; omega
  subst e
  rw [joinF_one]
  have := loadL_len 31 (E.glob n.name)
  obtain ⟨g1, g2, g3⟩ := h 0 (by omega) d l
  simp only [h3, if_true, List.length_append, List.length_cons, List.length_nil]
  refine ⟨?_, ?_, ?_⟩ <;> omega
 rw [if_neg h3]
 by_cases h4 : n.kind = 4
 ·rw [if_pos h4]
  obtain ⟨g1, g2, g3⟩ := args_cb (d := d) A l h
  simp only [callC, List.length_append, List.length_cons, List.length_nil, keepL_len, backL_len, passL_len]
  refine ⟨?_, ?_, ?_⟩ <;> omega
 rw [if_neg h4]
 by_cases h5 : n.kind = 5
 ·simp only [h5, if_true, List.length_append, List.length_cons, List.length_nil]
  refine ⟨?_, ?_, ?_⟩ <;> omega
 rw [if_neg h5]
 by_cases h66 : n.kind = 6
 ·have e : A = 1 := by simp [arity, h66] at hA; omega
  subst e
  rw [joinF_one]
  have := unL_len n.val (regI d 30) (regI d 30)
  obtain ⟨g1, g2, g3⟩ := h 0 (by omega) d l
  simp only [h66, if_true, List.length_append, List.length_cons, List.length_nil]
  refine ⟨?_, ?_, ?_⟩ <;> omega
 rw [if_neg h66]
 by_cases h7 : n.kind = 7
 ·have e : A = 2 := by simp [arity, h7] at hA; omega
  subst e
  rw [joinF_two]
  have := binL_len n.val (regI d 30) (regI d 30) (regI (d + 1) 31)
  obtain ⟨g1, g2, g3⟩ := h 0 (by omega) d l
  obtain ⟨k1, k2, k3⟩ := h 1 (by omega) (d + 1) (G 0 d l).2
  simp only [h7, if_true, List.length_append, List.length_cons, List.length_nil]
  refine ⟨?_, ?_, ?_⟩ <;> omega
 ·rw [if_neg h7]
  have e : A = 2 := by
   have h89 : n.kind = 8 ∨ n.kind = 9 := by omega
   rcases h89 with hh | hh <;> (simp [arity, hh] at hA; omega)
  subst e
  rw [joinF_two]
  obtain ⟨g1, g2, g3⟩ := h 0 (by omega) d (l + 1)
  obtain ⟨k1, k2, k3⟩ := h 1 (by omega) d (G 0 d (l + 1)).2
  simp only [choiceC, List.length_append, List.length_cons, List.length_nil]
  refine ⟨?_, ?_, ?_⟩ <;> omega
theorem cut_len {e : List Nd} {A : Nat} {b : Nat → Nat} (hc : Cut e A b) : (joinF (kid e b) A).length + 1 = e.length := by
 have h := congrArg List.length (cut_join hc)
 simpa using h
end
section
open Go.RowKit
def cellsI (x:It):List Value:=[.int .i64 x.kind,.int .i64 x.ins.op,.int .i64 x.ins.rd,.int .i64 x.ins.s1,.int .i64 x.ins.s2,.int .i64 x.ins.im,.int .i64 x.label]
def flatI (l:List It):List Value:=l.flatMap cellsI
theorem flatI_len (l:List It):(flatI l).length=l.length*7:=by
 induction l with
 | nil=>rfl
 | cons a r ih=>
  have:(flatI (a::r)).length=7+(flatI r).length:=by simp [flatI,cellsI];omega
  rw [this,ih,l_c]
  omega
theorem flatI_append (a b:List It):flatI (a++b)=flatI a++flatI b:=by simp [flatI]
def rbq (q:Nat) (w:World) (P:Nat):Option Nat:=(w.cell? ⟨P,q,none⟩).bind Value.ownBlock
structure Wq (q P:Nat) (w w':World):Prop where
 still:w'.os=w.os/\w'.tape=w.tape/\w'.output=w.output
 size:w.heap.size<=w'.heap.size
 block : ∀k,k<w.heap.size->k≠P->some k≠rbq q w P->w'.heap[k]? = w.heap[k]?
 row : ∀k,rbq q w' P=some k->rbq q w P=some k∨w.heap.size<=k
theorem Wq.refl (q P:Nat) (w:World):Wq q P w w:=⟨⟨rfl,rfl,rfl⟩,Nat.le_refl _,fun _ _ _ _=>rfl,fun _ h=>.inl h⟩
theorem Wq.trans {q P:Nat} {w w' w'':World} (h:Wq q P w w') (h':Wq q P w' w''):Wq q P w w'':=by
 refine ⟨⟨h'.still.1.trans h.still.1,h'.still.2.1.trans h.still.2.1,h'.still.2.2.trans h.still.2.2⟩,Nat.le_trans h.size h'.size,fun k h1 h2 h3 => ?_,fun k hk => ?_⟩
 ·rw [h'.block k (Nat.lt_of_lt_of_le h1 h.size) h2,h.block k h1 h2 h3]
  intro he
  rcases h.row k he.symm with h4 | h4
  ·exact h3 h4.symm
  ·omega
 ·rcases h'.row k hk with h4 | h4
  ·exact h.row k h4
  ·exact .inr (Nat.le_trans h.size h4)
theorem Wq.below {q P:Nat} {w w':World} (hP:P<w.heap.size) (hb:Below w.heap.size w w'):Wq q P w w':=by
 refine ⟨⟨hb.os,hb.tape,hb.output⟩,hb.size,fun k h1 _ _=>hb.block k h1,fun k hk=>.inl ?_⟩
 unfold rbq at hk ⊢
 rw [hb.cell (p:=⟨P,q,none⟩) hP] at hk
 exact hk
theorem Wq.cell {q P:Nat} {w w':World} (h:Wq q P w w') {k o:Nat} {v:Value} (hk:k≠P) (hr:some k≠rbq q w P) (hc:w.cell? ⟨k,o,none⟩=some v):w'.cell? ⟨k,o,none⟩=some v:=
 (World.cell?_of_block (h.block k (World.block_lt_of_cell? _ _ hc) hk hr)).trans hc
structure Em (ti q n P:Nat) (w:World) (its:List It) (c:Nat->Value):Prop where
 lt:P<w.heap.size
 fz : ∀o,w.frozen? ⟨P,o,none⟩=false
 row : ∃v,w.cell? ⟨P,q,none⟩=some v/\w.ownsRow (P+1) ti 7 v its.length (flatI its)
 oth : ∀o,o<n->o≠q->w.cell? ⟨P,o,none⟩=some (c o)
theorem Em.below {ti q n P:Nat} {w w':World} {its:List It} {c:Nat->Value} (h:Em ti q n P w its c) (hb:Below w.heap.size w w'):Em ti q n P w' its c:=by
 obtain ⟨h0,h1,⟨v,h2,h3⟩,h4⟩:=h
 refine ⟨Nat.lt_of_lt_of_le h0 hb.size,fun o=>(hb.frozen (p:=⟨P,o,none⟩) h0).trans (h1 o),⟨v,(hb.cell (p:=⟨P,q,none⟩) h0).trans h2,?_⟩,fun o ho hq=>(hb.cell (p:=⟨P,o,none⟩) h0).trans (h4 o ho hq)⟩
 obtain ⟨g1,g2⟩:=h3
 refine ⟨g1,?_⟩
 rcases g2 with g2 | ⟨g,cap,cur,rfl,g3,g4,g5⟩
 ·exact .inl g2
 ·refine .inr ⟨g,cap,cur,rfl,g3,?_,g5⟩
  rw [hb.block g (Array.getElem?_eq_some_iff.1 g4).1]
  exact g4
theorem em_step {ti q n P:Nat} {w w':World} {l m:List It} {c:Nat->Value} {v v':Value} (hO:Em ti q n P w l c) (hv:w.cell? ⟨P,q,none⟩=some v) (hown:w'.ownsRow (P+1) ti 7 v' (l.length+m.length) (flatI l++flatI m)) (hg:w.grownBy w' v.ownBlock) (hfr : ∀k,v'.ownBlock=some k->v.ownBlock=some k∨w.heap.size<=k) :
  w'.frozen? ⟨P,q,none⟩=false/\w'.cell? ⟨P,q,none⟩=some v/\Em ti q n P (w'.setCell ⟨P,q,none⟩ v') (l++m) c/\Wq q P w (w'.setCell ⟨P,q,none⟩ v'):=by
 obtain ⟨h0,h1,⟨v0,h2,h3⟩,h4⟩:=hO
 rw [hv] at h2
 simp only [Option.some.injEq] at h2
 subst h2
 have hne:some P≠v.ownBlock:=fun e=>by have:=(World.ownsRow.lt h3 P e.symm).1;omega
 have hblk:=hg.block P h0 hne
 have c1 : ∀o,w'.cell? ⟨P,o,none⟩=w.cell? ⟨P,o,none⟩:=fun o=>World.cell?_of_block (a:=⟨P,o,none⟩) hblk
 have f1 : ∀o,w'.frozen? ⟨P,o,none⟩=false:=fun o=>(World.frozen?_of_block (a:=⟨P,o,none⟩) hblk).trans (h1 o)
 have hc2:(w'.setCell ⟨P,q,none⟩ v').cell? ⟨P,q,none⟩=some v':=World.cell?_setCell_same _ _ _ ((c1 q).trans hv)
 have hoth : ∀k,k≠P->(w'.setCell ⟨P,q,none⟩ v').heap[k]? = w'.heap[k]? := fun k hk=>Below.heap_setCell _ _ _ k (fun h=>hk (by simpa using h))
 refine ⟨f1 q,(c1 q).trans hv,⟨?_,fun o=>(World.frozen?_setCell _ _ _ _).trans (f1 o),⟨v',hc2,?_⟩,fun o ho hq => ?_⟩,?_⟩
 ·simp only [World.size_setCell];exact Nat.lt_of_lt_of_le h0 hg.size
 ·rw [l_a,flatI_append]
  obtain ⟨g1,g2⟩:=hown
  refine ⟨g1,?_⟩
  rcases g2 with g2 | ⟨g,cap,cur,rfl,g3,g4,g5⟩
  ·exact .inl g2
  ·refine .inr ⟨g,cap,cur,rfl,g3,?_,g5⟩
   rw [hoth g (by omega)]
   exact g4
 ·rw [World.cell?_setCell_other _ _ _ _ (by intro h;simp only [Addr.mk.injEq] at h;exact hq h.2.1.symm),c1 o]
  exact h4 o ho hq
 ·refine ⟨⟨hg.os,hg.tape,hg.output⟩,by simp only [World.size_setCell];exact hg.size,fun k k1 k2 k3 => ?_,fun k hk => ?_⟩
  ·rw [hoth k k2,hg.block k k1]
   intro e
   apply k3
   unfold rbq
   rw [hv]
   exact e
  ·unfold rbq at hk ⊢
   rw [hc2] at hk
   rw [hv]
   simp only [Option.bind_some] at hk ⊢
   exact hfr k hk
theorem em_set {ti q n P:Nat} {w:World} {l:List It} {c:Nat->Value} (hO:Em ti q n P w l c) (o:Nat) (ho:o<n) (hq:o≠q) (u:Value):Em ti q n P (w.setCell ⟨P,o,none⟩ u) l (fun j=>if j=o then u else c j)/\Wq q P w (w.setCell ⟨P,o,none⟩ u):=by
 obtain ⟨h0,h1,⟨v,h2,h3⟩,h4⟩:=hO
 have hoth : ∀k,k≠P->(w.setCell ⟨P,o,none⟩ u).heap[k]? = w.heap[k]? := fun k hk=>Below.heap_setCell _ _ _ k (fun h=>hk (by simpa using h))
 have hcq:(w.setCell ⟨P,o,none⟩ u).cell? ⟨P,q,none⟩=some v:=(World.cell?_setCell_other _ _ _ _ (by intro h;simp only [Addr.mk.injEq] at h;exact hq h.2.1)).trans h2
 have hb0:=(Below.refl 0 w).setCell (p:=⟨P,o,none⟩) (Nat.zero_le _) u
 refine ⟨⟨by simpa using h0,fun j=>(World.frozen?_setCell _ _ _ _).trans (h1 j),⟨v,hcq,?_⟩,fun j hj hjq => ?_⟩,⟨hb0.os,hb0.tape,hb0.output⟩,by simp,fun k _ k2 _=>hoth k k2,fun k hk=>.inl ?_⟩
 ·obtain ⟨g1,g2⟩:=h3
  refine ⟨g1,?_⟩
  rcases g2 with g2 | ⟨g,cap,cur,rfl,g3,g4,g5⟩
  ·exact .inl g2
  ·refine .inr ⟨g,cap,cur,rfl,g3,?_,g5⟩
   rw [hoth g (by omega)]
   exact g4
 ·by_cases e:j=o
  ·subst e
   simp only [if_true]
   exact World.cell?_setCell_same _ _ _ (h4 j hj hjq)
  ·rw [if_neg e,World.cell?_setCell_other _ _ _ _ (by intro h;simp only [Addr.mk.injEq] at h;exact e h.2.1.symm)]
   exact h4 j hj hjq
 ·unfold rbq at hk ⊢
  rw [hcq] at hk
  rw [h2]
  exact hk
end
end Go.Proofs.YtpdndlghjldhjaaGreat
