import Derived.Maps.OwnSet
import Derived.Lib.SlKeysI
import Derived.Test.YtnpidjamplmgjaaGreatDoorQ05
import Derived.StringKeys
import Derived.Maps.OwnOps
set_option linter.unusedSectionVars false
variable [Inhabited Go.Proofs.YtnpidjamplmgjaaGreatDoor.Pick]
namespace Go.Proofs.YtnpidjamplmgjaaGreatDoor
open Go.Maps
open Go.RowKit
set_option linter.unusedVariables false
set_option linter.unusedSimpArgs false
set_option maxRecDepth 100000
set_option maxHeartbeats 16000000
def fnum (fs:List Fu) (s:ByteArray):Option Nat:=fs.findIdx? (fun f=>decide (f.name=s))
theorem fnum_snoc (fs:List Fu) (f:Fu) (s:ByteArray):fnum (fs++[f]) s=(fnum fs s).or (if f.name=s then some fs.length else none):=by
 unfold fnum
 rw [List.findIdx?_append]
 by_cases h:f.name=s
 ·simp [List.findIdx?_cons,h]
 ·simp [List.findIdx?_cons,h]
theorem fnum_at {fs:List Fu} {s:ByteArray} {k:Nat} (hk:k<fs.length) (h : ∀j (hj:j<k),fs[j].name≠s) (hs:fs[k].name=s):fnum fs s=some k:=by
 unfold fnum
 rw [List.findIdx?_eq_some_iff_getElem]
 exact ⟨hk,by simpa using hs,fun j hj=>by simpa using h j hj⟩
theorem fnum_no {fs:List Fu} {s:ByteArray} (h : ∀j (hj:j<fs.length),fs[j].name≠s):fnum fs s=none:=by
 unfold fnum
 rw [List.findIdx?_eq_none_iff]
 intro f hf
 obtain ⟨j,hj,rfl⟩:=List.getElem_of_mem hf
 simpa using h j hj
theorem fnum_lt {fs:List Fu} {s:ByteArray} {i:Nat} (h:fnum fs s=some i):i<fs.length:=by
 unfold fnum at h
 rw [List.findIdx?_eq_some_iff_getElem] at h
 exact h.1
def callN (fs:List Fu) (ns:List Nd):List Nat:=ns.filterMap (fun n=>if n.kind=4 then fnum fs n.name else none)
def nodesOf (ss:List St):List Nd:=ss.flatMap (fun s=>s.e++s.f)
def callsL (fs:List Fu) (ss:List St):List Nat:=(List.range fs.length).filter (fun g=>decide (g∈callN fs (nodesOf ss)))
theorem callN_snoc_no {fs:List Fu} {ns:List Nd} {n:Nd} (h:n.kind=4->fnum fs n.name=none):callN fs (ns++[n])=callN fs ns:=by
 unfold callN
 rw [List.filterMap_append]
 by_cases h4:n.kind=4
 ·simp [h4,h h4]
 ·simp [h4]
theorem callN_snoc_yes {fs:List Fu} {ns:List Nd} {n:Nd} {g:Nat} (h:n.kind=4) (hg:fnum fs n.name=some g):callN fs (ns++[n])=callN fs ns++[g]:=by
 unfold callN
 rw [List.filterMap_append]
 simp [h,hg]
theorem callN_lt {fs:List Fu} {ns:List Nd} {g:Nat} (h:g∈callN fs ns):g<fs.length:=by
 unfold callN at h
 obtain ⟨n,_,hn⟩:=List.mem_filterMap.1 h
 split at hn
 ·exact fnum_lt hn
 ·cases hn
theorem nodesOf_snoc (ss:List St) (s:St):nodesOf (ss++[s])=nodesOf ss++(s.e++s.f):=by simp [nodesOf]
theorem callsL_len (fs:List Fu) (ss:List St):(callsL fs ss).length<=fs.length:=by
 have:=List.length_filter_le (fun g=>decide (g∈callN fs (nodesOf ss))) (List.range fs.length)
 simpa [callsL] using this
abbrev kS (s:ByteArray):Lit:=.string s.data.toList
theorem kS_ne {s t:ByteArray} (h:s≠t):kS s≠kS t:=by
 intro e
 injection e with e
 exact h (by cases s;cases t;simp only at e;congr 1;exact Array.ext' e)
structure NumIs (D:DataW Unit) (fs:List Fu):Prop where
 map:IsMap D
 has : ∀s,Maps.has D (kS s)=(fnum fs s).isSome
 val : ∀s i,fnum fs s=some i->D.atKey (kS s) (.lit (.int .i64 0)) = .lit (.int .i64 (i:Int))
theorem NumIs.nil:NumIs (.map []) []:=⟨isMap_empty,fun s=>rfl,fun s i h=>by simp [fnum] at h⟩
theorem NumIs.old {D:DataW Unit} {fs:List Fu} (h:NumIs D fs) {f:Fu} (hh:Maps.has D (kS f.name)=true):NumIs D (fs++[f]):=by
 rw [h.has] at hh
 have key : ∀s,fnum (fs++[f]) s=fnum fs s:=fun s=>by
  rw [fnum_snoc]
  cases e:fnum fs s with
  | some i=>rfl
  | none=>
   by_cases hs:f.name=s
   ·rw [<-hs] at e;rw [e] at hh;cases hh
   ·simp [hs]
 exact ⟨h.map,fun s=>by rw [key];exact h.has s,fun s i hi=>by rw [key] at hi;exact h.val s i hi⟩
theorem NumIs.new {D:DataW Unit} {fs:List Fu} (h:NumIs D fs) {f:Fu} (hh:Maps.has D (kS f.name)=false):NumIs (D.put (kS f.name) (.lit (.int .i64 (fs.length:Int)))) (fs++[f]):=by
 rw [h.has] at hh
 have hn:fnum fs f.name=none:=by cases e:fnum fs f.name <;> simp [e] at hh ⊢
 refine ⟨h.map.put _ _,fun s => ?_,fun s i hi => ?_⟩
 ·rw [fnum_snoc]
  by_cases hs:f.name=s
  ·subst hs
   rw [has_put_same (k:=kS f.name) h.map trivial,hn]
   simp
  ·rw [has_put_other (kS_ne (Ne.symm hs)),h.has s]
   simp [hs]
 ·rw [fnum_snoc] at hi
  by_cases hs:f.name=s
  ·subst hs
   rw [hn] at hi
   simp at hi
   subst hi
   rw [atKey_put_same (k:=kS f.name) h.map trivial]
  ·rw [atKey_put_other (kS_ne (Ne.symm hs))]
   simp [hs] at hi
   exact h.val s i hi
structure KeysIs (D:DataW Unit) (L:List Nat):Prop where
 map:IsMap D
 has : ∀a:Int,Maps.has D (.int .i64 a)=true ↔ ∃g∈L,(g:Int)=a
theorem KeysIs.nil:KeysIs (.map []) []:=⟨isMap_empty,fun a=>by simp [Maps.has]⟩
theorem KeysIs.put {D:DataW Unit} {L:List Nat} (h:KeysIs D L) (g:Nat) (d:DataW Unit):KeysIs (D.put (.int .i64 (g:Int)) d) (L++[g]):=by
 refine ⟨h.map.put _ _,fun a => ?_⟩
 by_cases e:a=(g:Int)
 ·subst e
  rw [has_put_same (k:=.int .i64 (g:Int)) h.map trivial]
  simp
 ·rw [has_put_other (by intro h;injection h with _ h;exact e h),h.has a]
  constructor
  ·rintro ⟨x,hx,rfl⟩;exact ⟨x,by simp [hx],rfl⟩
  ·rintro ⟨x,hx,rfl⟩
   rcases List.mem_append.1 hx with hx | hx
   ·exact ⟨x,hx,rfl⟩
   ·simp at hx;subst hx;exact absurd rfl e
theorem sorted_keys {P:Program} {k:TypeId} {R:Value->Option (DataW Unit × List MemPlace)} {w:World} {b n:Nat} {D:DataW Unit} {fs:List Fu} {ss:List St} {zs:List Int} (hown:w.ownsMap P k R b n D) (hk:P.underlying k=some (.int .i64)) (hK:KeysIs D (callN fs (nodesOf ss))) (hp:zs.Perm (intKeys D)) :
  zs.mergeSort leI=(callsL fs ss).map (fun g:Nat=>(g:Int)):=by
 have hs:((callsL fs ss).map (fun g:Nat=>(g:Int))).Pairwise (fun a b=>a<b):=by
  refine List.pairwise_map.2 ?_
  have:=(List.pairwise_lt_range (n:=fs.length)).filter (fun g=>decide (g∈callN fs (nodesOf ss)))
  exact this.imp (fun h=>by omega)
 have hc:((callsL fs ss).map (fun g:Nat=>(g:Int))).Perm (intKeys D):=by
  refine CollectedI.perm (left:=fun _=>false) ⟨hs.imp (fun h=>by omega),fun x => ?_⟩ hown (int_keyed hk) hk (fun _=>rfl)
  rw [hK.has x]
  simp only [and_true,List.mem_map,callsL,List.mem_filter,List.mem_range,decide_eq_true_eq]
  constructor
  ·rintro ⟨g,⟨_,hg⟩,rfl⟩;exact ⟨g,hg,rfl⟩
  ·rintro ⟨g,hg,rfl⟩;exact ⟨g,⟨callN_lt hg,hg⟩,rfl⟩
 rw [mergeSort_of_perm_i (hp.trans hc.symm)]
 exact List.mergeSort_of_pairwise (hs.imp (fun h=>by simp only [leI,decide_eq_true_eq];omega))
def globI:List Gl->ByteArray->Int
 | [],_ => -1
 | g::r,s=>if g.name=s then g.size else globI r s
theorem globI_at {gs:List Gl} {s:ByteArray} {k:Nat} (hk:k<gs.length) (h : ∀j (hj:j<k),gs[j].name≠s) (hs:gs[k].name=s):globI gs s=gs[k].size:=by
 induction gs generalizing k with
 | nil=>simp at hk
 | cons g r ih=>
  cases k with
  | zero=>simp at hs;simp [globI,hs]
  | succ k=>
   have h0:=h 0 o_
   simp at h0
   simp only [globI,h0,if_false]
   exact ih (k:=k) (by simpa using hk) (fun j hj=>by have:=h (j+1) o_;simpa using this) (by simpa using hs)
theorem globI_no {gs:List Gl} {s:ByteArray} (h : ∀j (hj:j<gs.length),gs[j].name≠s):globI gs s = -1:=by
 induction gs with
 | nil=>rfl
 | cons g r ih=>
  have h0:=h 0 (by simp)
  simp at h0
  simp only [globI,h0,if_false]
  exact ih (fun j hj=>by have:=h (j+1) (by simpa using hj);simpa using this)
def inS (xs:List ByteArray) (s:ByteArray):Bool:=xs.any (fun x=>decide (x=s))
theorem inS_at {xs:List ByteArray} {s:ByteArray} {k:Nat} (hk:k<xs.length) (hs:xs[k]=s):inS xs s=true:=by
 unfold inS
 rw [List.any_eq_true]
 exact ⟨xs[k],List.getElem_mem hk,decide_eq_true hs⟩
theorem inS_no {xs:List ByteArray} {s:ByteArray} (h : ∀j (hj:j<xs.length),xs[j]≠s):inS xs s=false:=by
 unfold inS
 rw [List.any_eq_false]
 intro x hx
 obtain ⟨j,hj,rfl⟩:=List.getElem_of_mem hx
 simpa using h j hj
theorem inS_append (xs ys:List ByteArray) (s:ByteArray):inS (xs++ys) s=(inS xs s || inS ys s):=by simp [inS]
def useE (gs:List Gl) (scope:List ByteArray) (s:ByteArray) (arr:Bool):Int:=
 if (if inS scope s then 0 else globI gs s)<0 then 4 else if decide ((if inS scope s then 0 else globI gs s)>0)=arr then 0 else 5
def nodeE (t:Tr) (scope:List ByteArray) (n:Nd):Int:=
 if n.kind=2∨n.kind=3 then useE t.globals scope n.name (decide (n.kind=3))
 else if n.kind=4 then (match fnum t.funcs n.name with | none=>4 | some i=>if ((t.funcs.getD i ⟨⟨#[]⟩,[],[]⟩).params.length:Int)=n.val then 0 else 6)
 else 0
def exprE (t:Tr) (scope:List ByteArray):List Nd->Int
 | []=>0
 | n::r=>if nodeE t scope n=0 then exprE t scope r else nodeE t scope n
theorem exprE_append (t:Tr) (scope:List ByteArray) (a b:List Nd):exprE t scope (a++b)=if exprE t scope a=0 then exprE t scope b else exprE t scope a:=by
 induction a with
 | nil=>simp [exprE]
 | cons n r ih=>
  simp only [List.cons_append,exprE]
  by_cases h:nodeE t scope n=0
  ·simp only [h,if_true,ih]
  ·simp only [h,if_false]
theorem exprE_zero {t:Tr} {scope:List ByteArray} {ns:List Nd} (h : ∀j (hj:j<ns.length),nodeE t scope ns[j]=0):exprE t scope ns=0:=by
 induction ns with
 | nil=>rfl
 | cons n r ih=>
  have h0:=h 0 (by simp)
  simp at h0
  simp only [exprE,h0,if_true]
  exact ih (fun j hj=>by have:=h (j+1) (by simpa using hj);simpa using this)
theorem exprE_at {t:Tr} {scope:List ByteArray} {ns:List Nd} {k:Nat} (hk:k<ns.length) (h : ∀j (hj:j<k),nodeE t scope ns[j]=0) (he:nodeE t scope ns[k]≠0):exprE t scope ns=nodeE t scope ns[k]:=by
 induction ns generalizing k with
 | nil=>simp at hk
 | cons n r ih=>
  cases k with
  | zero=>simp at he;simp [exprE,he]
  | succ k=>
   have h0:=h 0 o_
   simp at h0
   simp only [exprE,h0,if_true]
   exact ih (k:=k) (by simpa using hk) (fun j hj=>by have:=h (j+1) o_;simpa using this) (by simpa using he)
def stmtE (t:Tr) (scope taken:List ByteArray) (s:St):Int:=
 if exprE t scope (s.e++s.f)≠0 then exprE t scope (s.e++s.f)
 else if s.kind=1 then (if inS taken s.name=true∨0<=globI t.globals s.name then 2 else 0)
 else if s.kind=2∨s.kind=3 then useE t.globals scope s.name (decide (s.kind=3))
 else 0
def blkEN (t : Tr) : Nat → List St → Int → List ByteArray → List ByteArray → Int × Int × List ByteArray
 | 0, _, _, _, taken => (0, 0, taken)
 | _ + 1, [], _, _, taken => (0, 0, taken)
 | n + 1, s :: r, a, scope, taken =>
  if stmtE t scope taken s≠0 then (stmtE t scope taken s,a,taken)
  else
   let scope':=if s.kind=1 then scope++[s.name] else scope
   let taken':=if s.kind=1 then taken++[s.name] else taken
   let x:=blkEN t n (r.take s.thn.toNat) (a+1) scope' taken'
   if x.1≠0 then x
   else
    let y:=blkEN t n ((r.drop s.thn.toNat).take s.els.toNat) (a+1+s.thn) scope' x.2.2
    if y.1≠0 then y
    else blkEN t n (r.drop (s.thn.toNat+s.els.toNat)) (a+1+s.thn+s.els) scope' y.2.2
theorem blkEN_any (t : Tr) : ∀ (n m : Nat) (ss : List St) (a : Int) (sc tk : List ByteArray), ss.length ≤ n → ss.length ≤ m → blkEN t n ss a sc tk = blkEN t m ss a sc tk := by
 intro n
 induction n with
 | zero =>
  intro m ss a sc tk h _
  obtain rfl : ss = [] := List.length_eq_zero_iff.1 o_
  cases m <;> rfl
 | succ n ih =>
  intro m ss a sc tk h h'
  cases ss with
  | nil => cases m <;> rfl
  | cons s r =>
   simp only [List.length_cons] at h h'
   obtain ⟨m, rfl⟩ : ∃ k, m = k + 1 := ⟨m - 1, by omega⟩
   have e1 := fun b sc tk => ih m (r.take s.thn.toNat) b sc tk (by simp <;> omega) (by simp <;> omega)
   have e2 := fun b sc tk => ih m ((r.drop s.thn.toNat).take s.els.toNat) b sc tk (by simp <;> omega) (by simp <;> omega)
   have e3 := fun b sc tk => ih m (r.drop (s.thn.toNat + s.els.toNat)) b sc tk (by simp <;> omega) (by simp <;> omega)
   simp only [blkEN, e1, e2, e3]
def blkE (t : Tr) (ss : List St) (a : Int) (scope taken : List ByteArray) : Int × Int × List ByteArray := blkEN t ss.length ss a scope taken
theorem blkE_nil0 (t : Tr) (a : Int) (scope taken : List ByteArray) : blkE t [] a scope taken = (0, 0, taken) := rfl
theorem blkE_cons (t : Tr) (s : St) (r : List St) (a : Int) (scope taken : List ByteArray) : blkE t (s :: r) a scope taken =
  if stmtE t scope taken s≠0 then (stmtE t scope taken s,a,taken)
  else
   let scope':=if s.kind=1 then scope++[s.name] else scope
   let taken':=if s.kind=1 then taken++[s.name] else taken
   let x:=blkE t (r.take s.thn.toNat) (a+1) scope' taken'
   if x.1≠0 then x
   else
    let y:=blkE t ((r.drop s.thn.toNat).take s.els.toNat) (a+1+s.thn) scope' x.2.2
    if y.1≠0 then y
    else blkE t (r.drop (s.thn.toNat+s.els.toNat)) (a+1+s.thn+s.els) scope' y.2.2 := by
 have e1 := fun b sc tk => blkEN_any t r.length (r.take s.thn.toNat).length (r.take s.thn.toNat) b sc tk (by simp <;> omega) (Nat.le_refl _)
 have e2 := fun b sc tk => blkEN_any t r.length ((r.drop s.thn.toNat).take s.els.toNat).length ((r.drop s.thn.toNat).take s.els.toNat) b sc tk (by simp <;> omega) (Nat.le_refl _)
 have e3 := fun b sc tk => blkEN_any t r.length (r.drop (s.thn.toNat + s.els.toNat)).length (r.drop (s.thn.toNat + s.els.toNat)) b sc tk (by simp <;> omega) (Nat.le_refl _)
 show blkEN t (r.length + 1) (s :: r) a scope taken = _
 simp only [blkEN, blkE, e1, e2, e3]
 rfl
def CallR (t:Tr) (f g:Nat):Prop:=f<t.funcs.length/\g∈callsL t.funcs (t.funcs.getD f ⟨⟨#[]⟩,[],[]⟩).body
structure RchC (t:Tr)(f:Nat)(P:Nat→Prop):Prop where
 c_::
 one{g:Nat}:CallR t f g→P g
 step{g h:Nat}:P g→CallR t g h→P h
structure Rch (t:Tr)(f:Nat)(a0:Nat):Prop where
 c_::
 out:∀P,RchC t f P→P a0
theorem Rch.C{t:Tr}{f:Nat}:RchC t f (Rch t f):=⟨fun {g} q0=>⟨fun P k=>k.one q0⟩,
 fun {g h} q0 q1=>⟨fun P k=>k.step (q0.out P k) q1⟩⟩
abbrev Rch.one {t f}:=@RchC.one t f _ Rch.C
abbrev Rch.step {t f}:=@RchC.step t f _ Rch.C
theorem Rch_i{t:Tr}{f:Nat}{M:∀(a0:Nat),Rch t f a0→Prop}
 (one:∀{g:Nat},CallR t f g→∀u,M g u)
 (step:∀{g h:Nat},∀q0:Rch t f g,CallR t g h→M g q0→∀u,M h u)
 {a0:Nat}(u:Rch t f a0):M a0 u:=
 (u.out (fun a0=>∃z_,M a0 z_) ⟨fun {g} q0=>⟨.one q0,one q0 _⟩,
 fun {g h} q0 q1=>⟨.step q0.1 q1,step _ q1 q0.2 _⟩⟩).2
theorem CallR.lt {t:Tr} {f g:Nat} (h:CallR t f g):g<t.funcs.length:=by
 have:=h.2
 unfold callsL at this
 simp only [List.mem_filter,List.mem_range] at this
 exact this.1
theorem Rch.lt {t:Tr} {f g:Nat} (h:Rch t f g):g<t.funcs.length:=by
 cases h using Rch_i with
 | one h=>exact h.lt
 | step _ h=>exact h.lt
theorem Rch.sub {t:Tr} {f:Nat} {S:Nat->Prop} (h0 : ∀g,CallR t f g->S g) (hc : ∀g h,S g->CallR t g h->S h) {g:Nat} (h:Rch t f g):S g:=by
 induction h using Rch_i with
 | one h=>exact h0 _ h
 | step _ h ih=>exact hc _ _ ih h
def dupG:List ByteArray->List Gl->Bool
 | _,[]=>false
 | seen,g::r=>if inS seen g.name then true else dupG (seen++[g.name]) r
def dupF:List ByteArray->Int->List Fu->Option Int
 | _,_,[]=>none
 | seen,i,f::r=>if inS seen f.name then some i else dupF (seen++[f.name]) (i+1) r
def mainS:ByteArray:=⟨#[109,97,105,110]⟩
def namesE (t:Tr):Int × Int × Int:=
 if dupG [] t.globals then (2,-1,-1)
 else match dupF (t.globals.map (·.name)) 0 t.funcs with
  | some i=>(2,i,-1)
  | none=>match fnum t.funcs mainS with
   | none=>(3,-1,-1)
   | some m=>if (t.funcs.getD m ⟨⟨#[]⟩,[],[]⟩).params.length>0 then (3,-1,-1) else (0,-1,-1)
def dupP (gs:List Gl):List ByteArray->List ByteArray->Bool
 | _,[]=>false
 | seen,p::r=>if inS seen p=true∨0<=globI gs p then true else dupP gs (seen++[p]) r
def bodyE (t:Tr) (i:Nat) (f:Fu):Int × Int × Int:=
 if dupP t.globals [] f.params then (2,i,-1)
 else if (blkE t f.body 0 f.params f.params).1≠0 then ((blkE t f.body 0 f.params f.params).1,i,(blkE t f.body 0 f.params f.params).2.1)
 else (0,-1,-1)
def bodiesE (t:Tr):Nat->List Fu->Int × Int × Int
 | _,[]=>(0,-1,-1)
 | i,f::r=>if (bodyE t i f).1≠0 then bodyE t i f else bodiesE t (i+1) r
def circE (t : Tr) (m : Nat) : Nat → Nat → Int × Int × Int
 | _, 0 => (0, -1, -1)
 | i, n + 1 => @ite _ ((i = m ∨ Rch t m i) ∧ Rch t i i) (pdQ _) (7, i, -1) (circE t m (i + 1) n)
def checkE (t:Tr):Int × Int × Int:=
 if treeB t=false then (1,-1,-1)
 else if (namesE t).1≠0 then namesE t
 else if (bodiesE t 0 t.funcs).1≠0 then bodiesE t 0 t.funcs
 else circE t ((fnum t.funcs mainS).getD 0) 0 t.funcs.length
structure MapIs (D:DataW Unit) (f:ByteArray->Option Int):Prop where
 map:Maps.IsMap D
 has : ∀s,Maps.has D (kS s)=(f s).isSome
 val : ∀s z,f s=some z->D.atKey (kS s) (.lit (.int .i64 0)) = .lit (.int .i64 z)
theorem MapIs.nil:MapIs (.map []) (fun _=>none):=⟨Maps.isMap_empty,fun s=>rfl,fun s i h=>by cases h⟩
def setN (f:ByteArray->Option Int) (n:ByteArray) (z:Int):ByteArray->Option Int:=fun s=>if n=s then some z else f s
theorem MapIs.put {D:DataW Unit} {f:ByteArray->Option Int} (h:MapIs D f) (n:ByteArray) (z:Int):MapIs (D.put (kS n) (.lit (.int .i64 z))) (setN f n z):=by
 refine ⟨h.map.put _ _,fun s => ?_,fun s i hi => ?_⟩
 ·unfold setN
  by_cases hs:n=s
  ·subst hs
   rw [Maps.has_put_same (k:=kS n) h.map trivial]
   simp
  ·rw [Maps.has_put_other (kS_ne (Ne.symm hs)),h.has s]
   simp [hs]
 ·unfold setN at hi
  by_cases hs:n=s
  ·subst hs
   simp at hi
   subst hi
   rw [Maps.atKey_put_same (k:=kS n) h.map trivial]
  ·rw [Maps.atKey_put_other (kS_ne (Ne.symm hs))]
   simp [hs] at hi
   exact h.val s i hi
theorem look_yes {W:World} {b nn:Nat} {D:DataW Unit} {f:ByteArray->Option Int} (hown:W.ownsMap Tryz.prog 9 (plainElem (H:=Unit) Tryz.prog 2) b nn D) (hN:MapIs D f) {s:ByteArray} (hs:s.size<=maxLen) {z:Int} (h:f s=some z) :
  (Instr.lookup 52 (.map (some b)) (.string s) true).run Tryz.prog W = .ok (.tuple #[.int .i64 z,.bool true]) W:=by
 obtain ⟨v,ps,hrun,hv⟩:=hown.look_ok (Maps.string_keyed Tryz.underlying9) Tryz.underlying52 (Tryz.zeroValue2 _) (plainElem_int Tryz.underlying2 (by decide)) (WideMaps.keyOf_string_mk Tryz.underlying9 hs)
 rw [hN.val s z h] at hv
 obtain ⟨c,rfl,hc,_⟩:=plainElem_int_inv Tryz.underlying2 hv
 simp only [Prod.mk.injEq,DataW.lit.injEq,Lit.int.injEq,true_and] at hc
 obtain ⟨hc,-⟩:=hc
 subst hc
 have hh:=hN.has s
 rw [h] at hh
 rw [hh] at hrun
 exact hrun
theorem look_not {W:World} {b nn:Nat} {D:DataW Unit} {f:ByteArray->Option Int} (hown:W.ownsMap Tryz.prog 9 (plainElem (H:=Unit) Tryz.prog 2) b nn D) (hN:MapIs D f) {s:ByteArray} (hs:s.size<=maxLen) (h:f s=none) :
  (Instr.lookup 52 (.map (some b)) (.string s) true).run Tryz.prog W = .ok (.tuple #[.int .i64 0,.bool false]) W:=by
 obtain ⟨v,ps,hrun,hv⟩:=hown.look_ok (Maps.string_keyed Tryz.underlying9) Tryz.underlying52 (Tryz.zeroValue2 _) (plainElem_int Tryz.underlying2 (by decide)) (WideMaps.keyOf_string_mk Tryz.underlying9 hs)
 have hh:=hN.has s
 rw [h] at hh
 rw [Maps.atKey_of_not_has hh] at hv
 obtain ⟨c,rfl,hc,_⟩:=plainElem_int_inv Tryz.underlying2 hv
 simp only [Prod.mk.injEq,DataW.lit.injEq,Lit.int.injEq,true_and] at hc
 obtain ⟨hc,-⟩:=hc
 subst hc
 rw [hh] at hrun
 exact hrun
def findS:List (ByteArray->Option Int)->ByteArray->Option Int
 | [],_=>none
 | f::r,s=>(findS r s).or (f s)
def globF (gs:List Gl):ByteArray->Option Int:=fun s=>(gs.find? (fun g=>decide (g.name=s))).map (·.size)
def wordF (xs:List ByteArray):ByteArray->Option Int:=fun s=>if inS xs s then some 0 else none
theorem wordF_nil:wordF []=fun _=>none:=by funext s;simp [wordF,inS]
theorem wordF_snoc (xs:List ByteArray) (n:ByteArray):setN (wordF xs) n 0=wordF (xs++[n]):=by
 funext s
 unfold setN wordF
 rw [inS_append]
 by_cases h:n=s
 ·simp [h,inS]
 ·have e:inS [n] s=false:=inS_no (fun j hj=>by simp at hj;subst hj;simpa using h)
  simp [h,e]
theorem globF_I {gs:List Gl} {s:ByteArray} (hp : ∀g∈gs,0<=g.size):(globF gs s=none/\globI gs s = -1)∨(∃z,globF gs s=some z/\globI gs s=z/\0<=z):=by
 induction gs with
 | nil=>exact .inl ⟨rfl,rfl⟩
 | cons g r ih=>
  by_cases h:g.name=s
  ·refine .inr ⟨g.size,?_,?_,hp g (by simp)⟩
   ·simp [globF,h]
   ·simp [globI,h]
  ·have:=ih (fun x hx=>hp x (by simp [hx]))
   simpa [globF,globI,h] using this
def scopesF (gs:List Gl) (bs:List (List ByteArray)):List (ByteArray->Option Int):=globF gs::bs.map wordF
theorem findS_words (bs:List (List ByteArray)) (s:ByteArray):findS (bs.map wordF) s=if inS bs.flatten s then some 0 else none:=by
 induction bs with
 | nil=>simp [findS,inS]
 | cons b r ih=>
  simp only [List.map_cons,findS,ih,List.flatten_cons,inS_append]
  by_cases h1:inS r.flatten s=true
  ·simp [h1]
  ·simp [h1,wordF]
theorem findS_scopes (gs:List Gl) (bs:List (List ByteArray)) (s:ByteArray):findS (scopesF gs bs) s=if inS bs.flatten s then some 0 else globF gs s:=by
 unfold scopesF
 simp only [findS,findS_words]
 by_cases h1:inS bs.flatten s=true
 ·simp [h1]
 ·simp [h1]
theorem useE_find {gs:List Gl} {bs:List (List ByteArray)} {s:ByteArray} {arr:Bool} (hp : ∀g∈gs,0<=g.size) :
  useE gs bs.flatten s arr=match findS (scopesF gs bs) s with | none=>4 | some z=>if decide (z>0)=arr then 0 else 5:=by
 rw [findS_scopes]
 unfold useE
 by_cases h1:inS bs.flatten s=true
 ·simp [h1]
 ·simp only [h1,Bool.false_eq_true,if_false]
  rcases globF_I (s:=s) hp with ⟨e1,e2⟩ | ⟨z,e1,e2,hz⟩
  ·rw [e1,e2];simp
  ·rw [e1,e2]
   simp only
   rw [if_neg o_]
end Go.Proofs.YtnpidjamplmgjaaGreatDoor
