import Derived.Test.YtffnkkpmlplfeaaGreatDoorN01
import Derived.Lib.SlKeysI
namespace Go.Proofs.YtffnkkpmlplfeaaGreatDoor
set_option linter.all false
set_option maxRecDepth 100000
set_option maxHeartbeats 16000000
variable[Inhabited Pick]
section
open Go.Maps
variable {fs:List Fu} {s:ByteArray} {ns:List Nd} {n:Nd} {g:Nat} {D:DataW Unit} {f:Fu}
def fnum (fs:List Fu) (s:ByteArray):Option Nat:=fs.findIdx? (λf=>decide (f.name=s))
theorem fnum_snoc (fs:List Fu) (f:Fu) (s:ByteArray):fnum (fs++[f]) s=(fnum fs s).or (if f.name=s then some fs.length else none):=by
 unfold fnum;rw[List.findIdx?_append];by_cases h:f.name=s
 ·simp[List.findIdx?_cons,h]
 ·simp[List.findIdx?_cons,h]
theorem fnum_at {k:Nat} (hk:k<fs.length) (h : ∀j (hj:j<k),fs[j].name≠s) (hs:fs[k].name=s):fnum fs s=some k:=by
 unfold fnum;rw[List.findIdx?_eq_some_iff_getElem];exact⟨hk,by simpa using hs,λj hj=>by simpa using h j hj⟩
theorem fnum_no (h : ∀j (hj:j<fs.length),fs[j].name≠s):fnum fs s=none:=by
 unfold fnum;rw[List.findIdx?_eq_none_iff];intro f hf;obtain⟨j,hj,rfl⟩:=List.getElem_of_mem hf;simpa using h j hj
theorem fnum_lt {i:Nat} (h:fnum fs s=some i):i<fs.length:=by
 unfold fnum at h;rw[List.findIdx?_eq_some_iff_getElem] at h;exact h.1
def callN (fs:List Fu) (ns:List Nd):List Nat:=ns.filterMap (λn=>if n.kind=4 then fnum fs n.name else none)
def nodesOf (ss:List St):List Nd:=ss.flatMap (λs=>s.e++s.f)
def callsL (fs:List Fu) (ss:List St):List Nat:=(List.range fs.length).filter (λg=>decide (g∈callN fs (nodesOf ss)))
theorem callN_snoc_no (h:n.kind=4->fnum fs n.name=none):callN fs (ns++[n])=callN fs ns:=by
 unfold callN;rw[List.filterMap_append];by_cases h4:n.kind=4
 ·simp[h4,h h4]
 ·simp[h4]
theorem callN_snoc_yes (h:n.kind=4) (hg:fnum fs n.name=some g):callN fs (ns++[n])=callN fs ns++[g]:=by
 unfold callN;rw[List.filterMap_append];simp[h,hg]
theorem callN_lt (h:g∈callN fs ns):g<fs.length:=by
 unfold callN at h;obtain⟨n,_,hn⟩:=List.mem_filterMap.1 h;split at hn
 ·exact fnum_lt hn
 ·cases hn
theorem nodesOf_snoc (ss:List St) (s:St):nodesOf (ss++[s])=nodesOf ss++(s.e++s.f):=by simp[nodesOf]
abbrev kS (s:ByteArray):Lit:=.string s.data.toList
theorem kS_ne {t:ByteArray} (h:s≠t):kS s≠kS t:=by
 intro e;injection e with e
 exact h (by cases s;cases t;simp only at e;congr 1;exact Array.ext' e)
structure NumIs (D:DataW Unit) (fs:List Fu):Prop where
 map:IsMap D
 has : ∀s,Maps.has D (kS s)=(fnum fs s).isSome
 val : ∀s i,fnum fs s=some i->D.atKey (kS s) (.lit (.int .i64 0))=.lit (.int .i64 (i:Int))
theorem NumIs.nil:NumIs (.map []) []:=⟨isMap_empty,λs=>rfl,λs i h=>by simp[fnum] at h⟩
theorem NumIs.old (h:NumIs D fs) (hh:Maps.has D (kS f.name)=true):NumIs D (fs++[f]):=by
 rw[h.has] at hh;have key : ∀s,fnum (fs++[f]) s=fnum fs s:=λs=>by
  rw[fnum_snoc];cases e:fnum fs s with
  | some i=>rfl
  | none=>
   by_cases hs:f.name=s
   ·rw[<-hs] at e;rw[e] at hh;cases hh
   ·simp[hs]
 exact⟨h.map,λs=>by rw[key];exact h.has s,λs i hi=>by rw[key] at hi;exact h.val s i hi⟩
theorem NumIs.new (h:NumIs D fs) (hh:Maps.has D (kS f.name)=false):NumIs (D.put (kS f.name) (.lit (.int .i64 (fs.length:Int)))) (fs++[f]):=by
 rw[h.has] at hh;have hn:fnum fs f.name=none:=by cases e:fnum fs f.name <;> simp[e] at hh ⊢
 refine⟨h.map.put _ _,λs => ?_,λs i hi => ?_⟩
 ·rw[fnum_snoc];by_cases hs:f.name=s
  ·subst hs;rw[has_put_same (k:=kS f.name) h.map trivial,hn];simp
  ·rw[has_put_other (kS_ne (Ne.symm hs)),h.has s];simp[hs]
 ·rw[fnum_snoc] at hi;by_cases hs:f.name=s
  ·subst hs;rw[hn] at hi;simp at hi;subst hi;rw[atKey_put_same (k:=kS f.name) h.map trivial]
  ·rw[atKey_put_other (kS_ne (Ne.symm hs))];simp[hs] at hi;exact h.val s i hi
structure KeysIs (D:DataW Unit) (L:List Nat):Prop where
 map:IsMap D
 has : ∀a:Int,Maps.has D (.int .i64 a)=true ↔ ∃g∈L,(g:Int)=a
theorem KeysIs.nil:KeysIs (.map []) []:=⟨isMap_empty,λa=>by simp[Maps.has]⟩
theorem KeysIs.put {L:List Nat} (h:KeysIs D L) (g:Nat) (d:DataW Unit):KeysIs (D.put (.int .i64 (g:Int)) d) (L++[g]):=by
 refine⟨h.map.put _ _,λa => ?_⟩;by_cases e:a=(g:Int)
 ·subst e;rw[has_put_same (k:=.int .i64 (g:Int)) h.map trivial];simp
 ·rw[has_put_other (by intro h;injection h with _ h;exact e h),h.has a];constructor
  ·rintro ⟨x,hx,rfl⟩;exact⟨x,by simp[hx],rfl⟩
  ·rintro ⟨x,hx,rfl⟩;rcases List.mem_append.1 hx with hx|hx
   ·exact⟨x,hx,rfl⟩
   ·simp at hx;subst hx;exact absurd rfl e
theorem sorted_keys {P:Program} {k:TypeId} {R:Value->Option (DataW Unit × List MemPlace)} {w:World} {b n:Nat} {ss:List St} {zs:List Int} (hown:w.ownsMap P k R b n D) (hk:P.underlying k=some (.int .i64)) (hK:KeysIs D (callN fs (nodesOf ss))) (hp:zs.Perm (intKeys D)) :
  zs.mergeSort leI=(callsL fs ss).map (λg:Nat=>(g:Int)):=by
 have hs:((callsL fs ss).map (λg:Nat=>(g:Int))).Pairwise (λa b=>a<b):=by
  refine List.pairwise_map.2 ?_;have:=(List.pairwise_lt_range (n:=fs.length)).filter (λg=>decide (g∈callN fs (nodesOf ss)))
  exact this.imp (λh=>by omega)
 have hc:((callsL fs ss).map (λg:Nat=>(g:Int))).Perm (intKeys D):=by
  refine CollectedI.perm (left:=λ_=>false) ⟨hs.imp (λh=>by omega),λx => ?_⟩ hown (int_keyed hk) hk (λ_=>rfl);rw[hK.has x];simp only[and_true,List.mem_map,callsL,List.mem_filter,List.mem_range,decide_eq_true_eq];constructor
  ·rintro ⟨g,⟨_,hg⟩,rfl⟩;exact⟨g,hg,rfl⟩
  ·rintro ⟨g,hg,rfl⟩;exact⟨g,⟨callN_lt hg,hg⟩,rfl⟩
 rw[mergeSort_of_perm_i (hp.trans hc.symm)];exact List.mergeSort_of_pairwise (hs.imp (λh=>by simp only[leI,decide_eq_true_eq];omega))
end
section
variable {gs:List Gl} {s:ByteArray} {k f g:Nat} {xs scope:List ByteArray} {t:Tr} {ns:List Nd}
def globI:List Gl->ByteArray->Int
 | [],_ => -1
 | g::r,s=>if g.name=s then g.size else globI r s
theorem globI_at (hk:k<gs.length) (h : ∀j (hj:j<k),gs[j].name≠s) (hs:gs[k].name=s):globI gs s=gs[k].size:=by
 induction gs generalizing k with
 | nil=>simp at hk
 | cons g r ih=>
  cases k with
  | zero=>simp at hs;simp[globI,hs]
  | succ k=>
   have h0:=h 0 o_;simp at h0;simp only[globI,h0,if_false];exact ih (k:=k) (by simpa using hk) (λj hj=>by have:=h (j+1) o_;simpa using this) (by simpa using hs)
theorem globI_no (h : ∀j (hj:j<gs.length),gs[j].name≠s):globI gs s = -1:=by
 induction gs with
 | nil=>rfl
 | cons g r ih=>
  have h0:=h 0 (by simp);simp at h0;simp only[globI,h0,if_false];exact ih (λj hj=>by have:=h (j+1) (by simpa using hj);simpa using this)
def inS (xs:List ByteArray) (s:ByteArray):Bool:=xs.any (λx=>decide (x=s))
theorem inS_at (hk:k<xs.length) (hs:xs[k]=s):inS xs s=true:=by
 unfold inS;rw[List.any_eq_true];exact⟨xs[k],g_ hk,decide_eq_true hs⟩
theorem inS_no (h : ∀j (hj:j<xs.length),xs[j]≠s):inS xs s=false:=by
 unfold inS;rw[List.any_eq_false];intro x hx;obtain⟨j,hj,rfl⟩:=List.getElem_of_mem hx;simpa using h j hj
theorem inS_append (xs ys:List ByteArray) (s:ByteArray):inS (xs++ys) s=(inS xs s || inS ys s):=by simp[inS]
def useE (gs:List Gl) (scope:List ByteArray) (s:ByteArray) (arr:Bool):Int:=
 if (if inS scope s then 0 else globI gs s)<0 then 4 else if decide ((if inS scope s then 0 else globI gs s)>0)=arr then 0 else 5
def nodeE (t:Tr) (scope:List ByteArray) (n:Nd):Int:=
 if n.kind=2∨n.kind=3 then useE t.globals scope n.name (decide (n.kind=3))
 else if n.kind=4 then (match fnum t.funcs n.name with|none=>4|some i=>if ((t.funcs.getD i ⟨⟨#[]⟩,[],[]⟩).params.length:Int)=n.val then 0 else 6)
 else 0
def exprE (t:Tr) (scope:List ByteArray):List Nd->Int
 | []=>0
 | n::r=>if nodeE t scope n=0 then exprE t scope r else nodeE t scope n
theorem exprE_append (t:Tr) (scope:List ByteArray) (a b:List Nd):exprE t scope (a++b)=if exprE t scope a=0 then exprE t scope b else exprE t scope a:=by
 induction a with
 | nil=>simp[exprE]
 | cons n r ih=>
  simp only[List.cons_append,exprE];by_cases h:nodeE t scope n=0
  ·simp only[h,if_true,ih]
  ·simp only[h,if_false]
theorem exprE_zero (h : ∀j (hj:j<ns.length),nodeE t scope ns[j]=0):exprE t scope ns=0:=by
 induction ns with
 | nil=>rfl
 | cons n r ih=>
  have h0:=h 0 (by simp);simp at h0;simp only[exprE,h0,if_true];exact ih (λj hj=>by have:=h (j+1) (by simpa using hj);simpa using this)
theorem exprE_at (hk:k<ns.length) (h : ∀j (hj:j<k),nodeE t scope ns[j]=0) (he:nodeE t scope ns[k]≠0):exprE t scope ns=nodeE t scope ns[k]:=by
 induction ns generalizing k with
 | nil=>simp at hk
 | cons n r ih=>
  cases k with
  | zero=>simp at he;simp[exprE,he]
  | succ k=>
   have h0:=h 0 o_;simp at h0;simp only[exprE,h0,if_true];exact ih (k:=k) (by simpa using hk) (λj hj=>by have:=h (j+1) o_;simpa using this) (by simpa using he)
def stmtE (t:Tr) (scope taken:List ByteArray) (s:St):Int:=
 if exprE t scope (s.e++s.f)≠0 then exprE t scope (s.e++s.f)
 else if s.kind=1 then (if inS taken s.name=true∨0<=globI t.globals s.name then 2 else 0)
 else if s.kind=2∨s.kind=3 then useE t.globals scope s.name (decide (s.kind=3))
 else 0
def blkEN (t : Tr) : Nat → List St → Int → List ByteArray → List ByteArray → Int × Int × List ByteArray
 | 0, _, _, _, taken => (0, 0, taken)
 | _ + 1, [], _, _, taken => (0, 0, taken)
 | n + 1, s :: r, a, scope, taken =>
  if stmtE t scope taken s≠0 then (stmtE t scope taken s,a,taken)
  else
   let scope':=if s.kind=1 then scope++[s.name] else scope
   let taken':=if s.kind=1 then taken++[s.name] else taken
   let x:=blkEN t n (r.take s.thn.toNat) (a+1) scope' taken'
   if x.1≠0 then x
   else
    let y:=blkEN t n ((r.drop s.thn.toNat).take s.els.toNat) (a+1+s.thn) scope' x.2.2
    if y.1≠0 then y
    else blkEN t n (r.drop (s.thn.toNat+s.els.toNat)) (a+1+s.thn+s.els) scope' y.2.2
theorem blkEN_any (t : Tr) : ∀ (n m : Nat) (ss : List St) (a : Int) (sc tk : List ByteArray), ss.length ≤ n → ss.length ≤ m → blkEN t n ss a sc tk = blkEN t m ss a sc tk := by
 intro n
 induction n with
 | zero =>
  intro m ss a sc tk h _
  obtain rfl : ss = [] := List.length_eq_zero_iff.1 o_
  cases m <;> rfl
 | succ n ih =>
  intro m ss a sc tk h h'
  cases ss with
  | nil => cases m <;> rfl
  | cons s r =>
   simp only[List.length_cons] at h h'
   obtain⟨m, rfl⟩ : ∃ k, m = k + 1 := ⟨m - 1, by omega⟩
   have e1 := λb sc tk => ih m (r.take s.thn.toNat) b sc tk (by simp <;> omega) (by simp <;> omega)
   have e2 := λb sc tk => ih m ((r.drop s.thn.toNat).take s.els.toNat) b sc tk (by simp <;> omega) (by simp <;> omega)
   have e3 := λb sc tk => ih m (r.drop (s.thn.toNat + s.els.toNat)) b sc tk (by simp <;> omega) (by simp <;> omega)
   simp only[blkEN, e1, e2, e3]
def blkE (t : Tr) (ss : List St) (a : Int) (scope taken : List ByteArray) : Int × Int × List ByteArray := blkEN t ss.length ss a scope taken
theorem blkE_nil0 (t : Tr) (a : Int) (scope taken : List ByteArray) : blkE t [] a scope taken = (0, 0, taken) := rfl
theorem blkE_cons (t : Tr) (s : St) (r : List St) (a : Int) (scope taken : List ByteArray) : blkE t (s :: r) a scope taken =
  if stmtE t scope taken s≠0 then (stmtE t scope taken s,a,taken)
  else
   let scope':=if s.kind=1 then scope++[s.name] else scope
   let taken':=if s.kind=1 then taken++[s.name] else taken
   let x:=blkE t (r.take s.thn.toNat) (a+1) scope' taken'
   if x.1≠0 then x
   else
    let y:=blkE t ((r.drop s.thn.toNat).take s.els.toNat) (a+1+s.thn) scope' x.2.2
    if y.1≠0 then y
    else blkE t (r.drop (s.thn.toNat+s.els.toNat)) (a+1+s.thn+s.els) scope' y.2.2 := by
 have e1 := λb sc tk => blkEN_any t r.length (r.take s.thn.toNat).length (r.take s.thn.toNat) b sc tk (by simp <;> omega) (Nat.le_refl _)
 have e2 := λb sc tk => blkEN_any t r.length ((r.drop s.thn.toNat).take s.els.toNat).length ((r.drop s.thn.toNat).take s.els.toNat) b sc tk (by simp <;> omega) (Nat.le_refl _)
 have e3 := λb sc tk => blkEN_any t r.length (r.drop (s.thn.toNat + s.els.toNat)).length (r.drop (s.thn.toNat + s.els.toNat)) b sc tk (by simp <;> omega) (Nat.le_refl _)
 show blkEN t (r.length + 1) (s :: r) a scope taken = _
 simp only[blkEN, blkE, e1, e2, e3]
 rfl
def CallR (t:Tr) (f g:Nat):Prop:=f<t.funcs.length/\g∈callsL t.funcs (t.funcs.getD f ⟨⟨#[]⟩,[],[]⟩).body
structure RchC (t:Tr)(f:Nat)(P:Nat→Prop):Prop where
 c_::
 one{g:Nat}:CallR t f g→P g
 step{g h:Nat}:P g→CallR t g h→P h
structure Rch (t:Tr)(f:Nat)(a0:Nat):Prop where
 c_::
 out:∀P,RchC t f P→P a0
theorem Rch.C{t:Tr}{f:Nat}:RchC t f (Rch t f):=⟨λ{g} q0=>⟨λP k=>k.one q0⟩,
 λ{g h} q0 q1=>⟨λP k=>k.step (q0.out P k) q1⟩⟩
abbrev Rch.one {t f}:=@RchC.one t f _ Rch.C
abbrev Rch.step {t f}:=@RchC.step t f _ Rch.C
theorem Rch_i{t:Tr}{f:Nat}{M:∀(a0:Nat),Rch t f a0→Prop}
 (one:∀{g:Nat},CallR t f g→∀u,M g u)
 (step:∀{g h:Nat},∀q0:Rch t f g,CallR t g h→M g q0→∀u,M h u)
 {a0:Nat}(u:Rch t f a0):M a0 u:=
 (u.out (λa0=>∃z_,M a0 z_) ⟨λ{g} q0=>⟨.one q0,one q0 _⟩,
 λ{g h} q0 q1=>⟨.step q0.1 q1,step _ q1 q0.2 _⟩⟩).2
theorem CallR.lt (h:CallR t f g):g<t.funcs.length:=by
 have:=h.2
 unfold callsL at this;simp only[List.mem_filter,List.mem_range] at this;exact this.1
theorem Rch.lt (h:Rch t f g):g<t.funcs.length:=by
 cases h using Rch_i with
 | one h=>exact h.lt
 | step _ h=>exact h.lt
theorem Rch.sub {S:Nat->Prop} (h0 : ∀g,CallR t f g->S g) (hc : ∀g h,S g->CallR t g h->S h) (h:Rch t f g):S g:=by
 induction h using Rch_i with
 | one h=>exact h0 _ h
 | step _ h ih=>exact hc _ _ ih h
def dupG:List ByteArray->List Gl->Bool
 | _,[]=>false
 | seen,g::r=>if inS seen g.name then true else dupG (seen++[g.name]) r
def dupF:List ByteArray->Int->List Fu->Option Int
 | _,_,[]=>none
 | seen,i,f::r=>if inS seen f.name then some i else dupF (seen++[f.name]) (i+1) r
def mainS:ByteArray:=⟨#[109,97,105,110]⟩
def namesE (t:Tr):Int × Int × Int:=
 if dupG [] t.globals then (2,-1,-1)
 else match dupF (t.globals.map (·.name)) 0 t.funcs with
  | some i=>(2,i,-1)
  | none=>match fnum t.funcs mainS with
   | none=>(3,-1,-1)
   | some m=>if (t.funcs.getD m ⟨⟨#[]⟩,[],[]⟩).params.length>0 then (3,-1,-1) else (0,-1,-1)
def dupP (gs:List Gl):List ByteArray->List ByteArray->Bool
 | _,[]=>false
 | seen,p::r=>if inS seen p=true∨0<=globI gs p then true else dupP gs (seen++[p]) r
def bodyE (t:Tr) (i:Nat) (f:Fu):Int × Int × Int:=
 if dupP t.globals [] f.params then (2,i,-1)
 else if (blkE t f.body 0 f.params f.params).1≠0 then ((blkE t f.body 0 f.params f.params).1,i,(blkE t f.body 0 f.params f.params).2.1)
 else (0,-1,-1)
def bodiesE (t:Tr):Nat->List Fu->Int × Int × Int
 | _,[]=>(0,-1,-1)
 | i,f::r=>if (bodyE t i f).1≠0 then bodyE t i f else bodiesE t (i+1) r
def circE (t : Tr) (m : Nat) : Nat → Nat → Int × Int × Int
 | _, 0 => (0, -1, -1)
 | i, n + 1 => @ite _ ((i = m ∨ Rch t m i) ∧ Rch t i i) (pdQ _) (7, i, -1) (circE t m (i + 1) n)
def checkE (t:Tr):Int × Int × Int:=
 if treeB t=false then (1,-1,-1)
 else if (namesE t).1≠0 then namesE t
 else if (bodiesE t 0 t.funcs).1≠0 then bodiesE t 0 t.funcs
 else circE t ((fnum t.funcs mainS).getD 0) 0 t.funcs.length
end
section
variable {t:Tr} {s:St} {r:List St} {a:Int} {sc tk tk1:List ByteArray}
def scp (s:St) (sc:List ByteArray):List ByteArray:=if s.kind=1 then sc++[s.name] else sc
theorem blkE_bad (h:stmtE t sc tk s≠0):blkE t (s::r) a sc tk=(stmtE t sc tk s,a,tk):=by
 rw[blkE_cons];simp only[h,ne_eq,not_false_eq_true,if_true]
theorem blkE_then (h:stmtE t sc tk s=0) (hx:(blkE t (r.take s.thn.toNat) (a+1) (scp s sc) (scp s tk)).1≠0):blkE t (s::r) a sc tk=blkE t (r.take s.thn.toNat) (a+1) (scp s sc) (scp s tk):=by
 unfold scp at hx ⊢;rw[blkE_cons];simp only[h,ne_eq,not_true_eq_false,if_false,hx,not_false_eq_true,if_true]
theorem blkE_else (h:stmtE t sc tk s=0) (hx:(blkE t (r.take s.thn.toNat) (a+1) (scp s sc) (scp s tk)).1=0) (htk:tk1=(blkE t (r.take s.thn.toNat) (a+1) (scp s sc) (scp s tk)).2.2)
  (hy:(blkE t ((r.drop s.thn.toNat).take s.els.toNat) (a+1+s.thn) (scp s sc) tk1).1≠0):blkE t (s::r) a sc tk=blkE t ((r.drop s.thn.toNat).take s.els.toNat) (a+1+s.thn) (scp s sc) tk1:=by
 subst htk;unfold scp at hx hy ⊢;rw[blkE_cons];simp only[h,ne_eq,not_true_eq_false,if_false,hx,hy,not_false_eq_true,if_true]
theorem blkE_next {tk2:List ByteArray} (h:stmtE t sc tk s=0) (hx:(blkE t (r.take s.thn.toNat) (a+1) (scp s sc) (scp s tk)).1=0) (htk:tk1=(blkE t (r.take s.thn.toNat) (a+1) (scp s sc) (scp s tk)).2.2)
  (hy:(blkE t ((r.drop s.thn.toNat).take s.els.toNat) (a+1+s.thn) (scp s sc) tk1).1=0) (htk2:tk2=(blkE t ((r.drop s.thn.toNat).take s.els.toNat) (a+1+s.thn) (scp s sc) tk1).2.2):blkE t (s::r) a sc tk=blkE t (r.drop (s.thn.toNat+s.els.toNat)) (a+1+s.thn+s.els) (scp s sc) tk2:=by
 subst htk htk2;unfold scp at hx hy ⊢;rw[blkE_cons];simp only[h,ne_eq,not_true_eq_false,if_false,hx,hy]
theorem blkE_nil (t:Tr) (a:Int) (sc tk:List ByteArray):blkE t [] a sc tk=(0,0,tk):=by (first | rw[blkE_cons] | rw[blkE_nil0])
theorem scp_yes (h:s.kind=1) (l:List ByteArray):scp s l=l++[s.name]:=if_pos h
theorem scp_no (h:s.kind≠1) (l:List ByteArray):scp s l=l:=if_neg h
theorem scp_len (s:St) (tk:List ByteArray):(scp s tk).length<=tk.length+1:=by unfold scp;split <;> simp
theorem blkE_len (t:Tr) (n:Nat) : ∀(ss:List St) (a:Int) (sc tk:List ByteArray),ss.length<=n->(blkE t ss a sc tk).2.2.length<=tk.length+ss.length:=by
 induction n with
 | zero=>
  intro ss a sc tk h;obtain rfl:ss = []:=List.eq_nil_of_length_eq_zero o_;simp[blkE_nil]
 | succ n ih=>
  intro ss a sc tk h;cases ss with
  | nil=>simp[blkE_nil]
  | cons s r=>
   simp only[l_c] at h ⊢;by_cases h1:stmtE t sc tk s=0
   ·have l1:=ih (r.take s.thn.toNat) (a+1) (scp s sc) (scp s tk) (by simp;omega);have l0:=scp_len s tk;have e1:(r.take s.thn.toNat).length=min s.thn.toNat r.length:=by simp
    by_cases h2:(blkE t (r.take s.thn.toNat) (a+1) (scp s sc) (scp s tk)).1=0
    ·obtain⟨tk1,htk1⟩ : ∃tk1,tk1=(blkE t (r.take s.thn.toNat) (a+1) (scp s sc) (scp s tk)).2.2:=⟨_,rfl⟩;have l2:=ih ((r.drop s.thn.toNat).take s.els.toNat) (a+1+s.thn) (scp s sc) tk1 (by simp;omega);have e2:((r.drop s.thn.toNat).take s.els.toNat).length=min s.els.toNat (r.length-s.thn.toNat):=by simp
     rw[<-htk1] at l1;by_cases h3:(blkE t ((r.drop s.thn.toNat).take s.els.toNat) (a+1+s.thn) (scp s sc) tk1).1=0
     ·obtain⟨tk2,htk2⟩ : ∃tk2,tk2=(blkE t ((r.drop s.thn.toNat).take s.els.toNat) (a+1+s.thn) (scp s sc) tk1).2.2:=⟨_,rfl⟩;rw[<-htk2] at l2;have l3:=ih (r.drop (s.thn.toNat+s.els.toNat)) (a+1+s.thn+s.els) (scp s sc) tk2 (by simp;omega);rw[blkE_next h1 h2 htk1 h3 htk2];simp only[List.length_drop] at l3;omega
     ·rw[blkE_else h1 h2 htk1 h3];omega
    ·rw[blkE_then h1 h2];omega
   ·rw[blkE_bad h1];simp
theorem flat_scp (bsn:List (List ByteArray)) (xs:List ByteArray) (s:St):(bsn++[scp s xs]).flatten=scp s (bsn++[xs]).flatten:=by
 unfold scp;split <;> simp
theorem flat_nil (bsn:List (List ByteArray)):(bsn++[[]]).flatten=bsn.flatten:=by simp
end
section
variable {t:Tr} {seen sc tk:List ByteArray} {g:Gl} {r gs:List Gl} {i:Int} {f:Fu} {s:St} {p:ByteArray}
theorem check_tree (h:treeB t=false):checkE t=(1,-1,-1):=by unfold checkE;rw[if_pos h]
theorem check_names (h:treeB t=true) (hn:(namesE t).1≠0):checkE t=namesE t:=by unfold checkE;rw[if_neg (by simp[h]),if_pos hn]
theorem check_bodies (h:treeB t=true) (hn:(namesE t).1=0) (hb:(bodiesE t 0 t.funcs).1≠0):checkE t=bodiesE t 0 t.funcs:=by unfold checkE;rw[if_neg (by simp[h]),if_neg (by simp[hn]),if_pos hb]
theorem check_circ (h:treeB t=true) (hn:(namesE t).1=0) (hb:(bodiesE t 0 t.funcs).1=0) {m:Nat} (hm:fnum t.funcs mainS=some m):checkE t=circE t m 0 t.funcs.length:=by unfold checkE;rw[if_neg (by simp[h]),if_neg (by simp[hn]),if_neg (by simp[hb]),hm];rfl
theorem off_ne {g a b:Nat} (h:a≠b):(⟨g,a,none⟩:Addr)≠⟨g,b,none⟩:=λe=>by simp[h] at e
theorem drop_cons_ {α:Type} (l:List α) (j:Nat) (h:j<l.length):l.drop j=l[j]::l.drop (j+1):=(List.getElem_cons_drop h).symm
theorem dupG_hit (h:inS seen g.name=true):dupG seen (g::r)=true:=by rw[dupG,if_pos h]
theorem dupG_step (h:inS seen g.name=false):dupG seen (g::r)=dupG (seen++[g.name]) r:=by rw[dupG,if_neg (by simp[h])]
theorem dupF_hit {r:List Fu} (h:inS seen f.name=true):dupF seen i (f::r)=some i:=by rw[dupF,if_pos h]
theorem dupF_step {r:List Fu} (h:inS seen f.name=false):dupF seen i (f::r)=dupF (seen++[f.name]) (i+1) r:=by rw[dupF,if_neg (by simp[h])]
theorem ret_val {a b:Value} (h:a=b):Ending.returned a=.returned b:=by rw[h]
theorem stmtE_expr (h:exprE t sc (s.e++s.f)≠0):stmtE t sc tk s=exprE t sc (s.e++s.f):=by
 unfold stmtE;rw[if_pos h]
theorem stmtE_decl (h:exprE t sc (s.e++s.f)=0) (hk:s.kind=1):stmtE t sc tk s=if inS tk s.name=true∨0<=globI t.globals s.name then 2 else 0:=by
 unfold stmtE;rw[if_neg (by simp[h]),if_pos hk]
theorem stmtE_use (h:exprE t sc (s.e++s.f)=0) (hk:s.kind=2∨s.kind=3):stmtE t sc tk s=useE t.globals sc s.name (decide (s.kind=3)):=by
 unfold stmtE;rw[if_neg (by simp[h]),if_neg o_,if_pos hk]
theorem stmtE_none (h:exprE t sc (s.e++s.f)=0) (h1:s.kind≠1) (h2:s.kind≠2) (h3:s.kind≠3):stmtE t sc tk s=0:=by
 unfold stmtE;rw[if_neg (by simp[h]),if_neg h1,if_neg o_]
theorem dupP_hit {r:List ByteArray} (h:inS seen p=true∨0<=globI gs p):dupP gs seen (p::r)=true:=by unfold dupP;rw[if_pos h]
theorem dupP_step {r:List ByteArray} (h : ¬(inS seen p=true∨0<=globI gs p)):dupP gs seen (p::r)=dupP gs (seen++[p]) r:=by rw[dupP,if_neg h]
theorem dupP_nil (gs:List Gl) (seen:List ByteArray):dupP gs seen []=false:=rfl
def FnOk (f:Fu):Prop:=fitB f.body=true/\(∀s∈f.body,smallS s)/\(∀s∈f.body,wfSt s)/\(∀s∈f.params,s.size<=9223372036854775807)/\f.params.length<=1000/\f.body.length<=1000
end
structure RInv (t:Tr) (f:Nat) (out work:List Nat):Prop where
 nd:out.Nodup
 come : ∀x∈out,Rch t f x
 sub : ∀x∈work,x=f∨x∈out
 shut : ∀x,(x=f∨x∈out)->x∉work->∀y,CallR t x y->y∈out
structure RMid (t:Tr) (f x:Nat) (done out work:List Nat):Prop where
 nd:out.Nodup
 come : ∀x∈out,Rch t f x
 at_:x=f∨x∈out
 sub : ∀x∈work,x=f∨x∈out
 shut : ∀z,(z=f∨z∈out)->z∉work->z≠x->∀y,CallR t z y->y∈out
 part : ∀y∈done,y∈out
theorem RInv.start (t:Tr) (f:Nat):RInv t f [] [f]:=by
 refine⟨List.nodup_nil,by simp,by simp,λx hx hn => ?_⟩;simp at hx hn;exact absurd hx hn
theorem RInv.take {t:Tr} {f x:Nat} {out work rest:List Nat} (h:RInv t f out work) (hx:x∈work) (hr : ∀y,y∈work↔y=x∨y∈rest):RMid t f x [] out rest:=by
 refine⟨h.nd,h.come,h.sub x hx,λy hy=>h.sub y ((hr y).2 (.inr hy)),λz hz hn hne y hy=>h.shut z hz (λhm => ?_) y hy,by simp⟩;rcases (hr z).1 hm with h1|h1
 ·exact hne h1
 ·exact hn h1
theorem RMid.old {t:Tr} {f x y:Nat} {done out work:List Nat} (h:RMid t f x done out work) (hy:y∈out):RMid t f x (done++[y]) out work:=
 ⟨h.nd,h.come,h.at_,h.sub,h.shut,λz hz=>by
  simp only[List.mem_append,List.mem_singleton] at hz;rcases hz with h1|rfl
  ·exact h.part z h1
  ·exact hy⟩
theorem RMid.new {t:Tr} {f x y:Nat} {done out work:List Nat} (h:RMid t f x done out work) (hy:y∉out) (hc:CallR t x y):RMid t f x (done++[y]) (out++[y]) (work++[y]):=by
 refine⟨?_,?_,?_,?_,?_,?_⟩
 ·rw[List.nodup_append];exact⟨h.nd,by simp,λa ha b hb e=>by simp only[List.mem_singleton] at hb;subst hb;subst e;exact hy ha⟩
 ·intro z hz;simp only[List.mem_append,List.mem_singleton] at hz;rcases hz with h1|rfl
  ·exact h.come z h1
  ·rcases h.at_ with rfl|h2
   ·exact .one hc
   ·exact .step (h.come _ h2) hc
 ·rcases h.at_ with h1|h1
  ·exact .inl h1
  ·exact .inr (List.mem_append_left _ h1)
 ·intro z hz;simp only[List.mem_append,List.mem_singleton] at hz ⊢;rcases hz with h1|rfl
  ·rcases h.sub z h1 with h2|h2
   ·exact .inl h2
   ·exact .inr (.inl h2)
  ·exact .inr (.inr rfl)
 ·intro z hz hn hne q hq;simp only[List.mem_append,List.mem_singleton,not_or] at hz hn;have h3:z=f∨z∈out:=by
   rcases hz with h1|h1|h1
   ·exact .inl h1
   ·exact .inr h1
   ·exact absurd h1 hn.2
  exact List.mem_append_left _ (h.shut z h3 hn.1 hne q hq)
 ·intro z hz;simp only[List.mem_append,List.mem_singleton] at hz ⊢;rcases hz with h1|rfl
  ·exact .inl (h.part z h1)
  ·exact .inr rfl
theorem RMid.done {t:Tr} {f x:Nat} {all out work:List Nat} (h:RMid t f x all out work) (ha : ∀y,CallR t x y->y∈all):RInv t f out work:=by
 refine⟨h.nd,h.come,h.sub,λz hz hn y hy => ?_⟩;by_cases e:z=x
 ·subst e;exact h.part y (ha y hy)
 ·exact h.shut z hz hn e y hy
theorem RInv.all {t:Tr} {f:Nat} {out:List Nat} (h:RInv t f out []) (g:Nat):g∈out↔Rch t f g:=
 ⟨λhg=>h.come g hg,λhg=>Rch.sub (S:=λg=>g∈out) (λg hg=>h.shut f (.inl rfl) (by simp) g hg) (λg k hg hk=>h.shut g (.inr hg) (by simp) k hk) hg⟩
theorem nodup_le (n:Nat) : ∀ {l:List Nat},l.Nodup->(∀x∈l,x<n)->l.length<=n:=by
 induction n with
 | zero=>
  intro l h hl;cases l with
  | nil=>simp
  | cons x r=>have:=hl x (by simp);omega
 | succ n ih=>
  intro l h hl;by_cases hm:n∈l
  ·have h1:=ih (h.erase n) (λx hx=>by
    have h2:=(h.mem_erase_iff).1 hx;have:=hl x h2.2
    have:=h2.1
    omega)
   rw[List.length_erase_of_mem hm] at h1;omega
  ·have h1:=ih h (λx hx=>by
    have:=hl x hx
    have:x≠n:=λe=>hm (e ▸ hx)
    omega)
   omega
theorem RMid.len {t:Tr} {f x:Nat} {done out work:List Nat} (h:RMid t f x done out work):out.length<=t.funcs.length:=nodup_le _ h.nd (λx hx=>(h.come x hx).lt)
theorem RInv.len {t:Tr} {f:Nat} {out work:List Nat} (h:RInv t f out work):out.length<=t.funcs.length:=nodup_le _ h.nd (λx hx=>(h.come x hx).lt)
theorem RInv.lt {t:Tr} {f:Nat} {out work:List Nat} (h:RInv t f out work) (hf:f<t.funcs.length) : ∀x∈work,x<t.funcs.length:=by
 intro x hx;rcases h.sub x hx with rfl|h1
 ·exact hf
 ·exact (h.come x h1).lt
theorem CallR.mem {t:Tr} {f g:Nat} (hf:f<t.funcs.length):CallR t f g↔g∈callsL t.funcs t.funcs[f].body:=by
 have e:t.funcs.getD f ⟨⟨#[]⟩,[],[]⟩=t.funcs[f]:=by simp[List.getD,hf]
 unfold CallR;rw[e];exact⟨λh=>h.2,λh=>⟨hf,h⟩⟩
section
open Go.RowKit
variable {t:Tr}
def resV (x:Int × Int × Int):Value:=.agg #[.int .i64 x.1,.int .i64 x.2.1,.int .i64 x.2.2]
theorem set3 {w:World} {b:Nat} {u0 u1 u2 y0 y1 y2:Value} (h0:w.cell? ⟨b,0,none⟩=some y0) (h1:w.cell? ⟨b,1,none⟩=some y1) (h2:w.cell? ⟨b,2,none⟩=some y2) :
  (((w.setCell ⟨b,0,none⟩ u0).setCell ⟨b,1,none⟩ u1).setCell ⟨b,2,none⟩ u2).cell? ⟨b,0,none⟩=some u0/\(((w.setCell ⟨b,0,none⟩ u0).setCell ⟨b,1,none⟩ u1).setCell ⟨b,2,none⟩ u2).cell? ⟨b,1,none⟩=some u1/\(((w.setCell ⟨b,0,none⟩ u0).setCell ⟨b,1,none⟩ u1).setCell ⟨b,2,none⟩ u2).cell? ⟨b,2,none⟩=some u2:=by
 have e1:(w.setCell ⟨b,0,none⟩ u0).cell? ⟨b,1,none⟩=some y1:=(s_ _ _ _ _ (off_ne (by decide))).trans h1;have e2:((w.setCell ⟨b,0,none⟩ u0).setCell ⟨b,1,none⟩ u1).cell? ⟨b,2,none⟩=some y2:=(s_ _ _ _ _ (off_ne (by decide))).trans ((s_ _ _ _ _ (off_ne (by decide))).trans h2);exact⟨(s_ _ _ _ _ (off_ne (by decide))).trans ((s_ _ _ _ _ (off_ne (by decide))).trans (World.cell?_setCell_same _ _ _ h0)),(s_ _ _ _ _ (off_ne (by decide))).trans (World.cell?_setCell_same _ _ _ e1),World.cell?_setCell_same _ _ _ e2⟩
end
section
variable {t:Tr} {m i n:Nat}
def topE (t:Tr):Int × Int × Int:=if dupG [] t.globals then (2,-1,-1) else match dupF (t.globals.map (·.name)) 0 t.funcs with|some i=>(2,i,-1)|none=>(0,-1,-1)
structure Okt (t:Tr):Prop where
 gl:t.globals.length<=50
 fl:t.funcs.length<=50
 g : ∀g∈t.globals,g.name.size<=9223372036854775807/\0<=g.size/\g.size<=4000
 f : ∀f∈t.funcs,FnOk f
 fn : ∀f∈t.funcs,f.name.size<=9223372036854775807
 sm : ∀f∈t.funcs,smallF f
 wf:wfFs t.funcs
theorem okt (h:treeB t=true) (hs:smallT t) (hw:wfT t):Okt t:=by
 unfold treeB at h;simp only[Bool.and_eq_true,decide_eq_true_iff,List.all_eq_true] at h;obtain⟨h1,h2,h3,h4⟩:=h;refine⟨h1,h2,λg hg => ?_,λf hf => ?_,λf hf=>(hw.2.2 f hf).1,hs.2.2,hw.2⟩
 ·have:=h3 g hg
  unfold globB at this;simp only[Bool.and_eq_true,decide_eq_true_iff] at this;exact⟨hw.1.2 g hg,this.2.1,this.2.2⟩
 ·have:=h4 f hf
  unfold funcB at this;simp only[Bool.and_eq_true,decide_eq_true_iff] at this;have hs1:=hs.2.2 f hf;have hw1:=hw.2.2 f hf;exact⟨this.2.2.2.2.2,hs1.2.2,hw1.2.2.2,hw1.2.1.2,by omega,by omega⟩
def mainE (t:Tr):Int:=match fnum t.funcs mainS with|none=>3|some m=>if (t.funcs.getD m ⟨⟨#[]⟩,[],[]⟩).params.length>0 then 3 else 0
theorem names_top (h:(topE t).1≠0):namesE t=topE t:=by
 unfold topE at h ⊢;unfold namesE;split
 ·rfl
 ·rename_i hd;rw[if_neg hd] at h;cases hq:dupF (t.globals.map (·.name)) 0 t.funcs with
  | some i=>rfl
  | none=>rw[hq] at h;simp at h
theorem names_main (h:(topE t).1=0):namesE t=(mainE t,-1,-1):=by
 unfold topE at h;unfold namesE mainE;split
 ·rename_i hd;rw[if_pos hd] at h;simp at h
 ·rename_i hd;rw[if_neg hd] at h;cases hq:dupF (t.globals.map (·.name)) 0 t.funcs with
  | some i=>rw[hq] at h;simp at h
  | none=>
   simp only;cases fnum t.funcs mainS with
   | none=>rfl
   | some m=>simp only;split <;> rfl
theorem main_zero (h:mainE t=0) : ∃m,fnum t.funcs mainS=some m:=by
 unfold mainE at h;cases hm:fnum t.funcs mainS with
 | none=>rw[hm] at h;simp at h
 | some m=>exact⟨m,rfl⟩
open Classical in
theorem circE_hit (h:(i=m∨Rch t m i)/\Rch t i i):circE t m i (n+1)=(7,(i:Int),-1):=by rw[circE,if_pos h]
open Classical in
theorem circE_step (h : ¬((i=m∨Rch t m i)/\Rch t i i)):circE t m i (n+1)=circE t m (i+1) n:=by rw[circE,if_neg h]
end
end Go.Proofs.YtffnkkpmlplfeaaGreatDoor
