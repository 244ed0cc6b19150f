import Derived.Test.YtffnkkpmlplfeaaGreatDoorF00
import Derived.Lib.SlKeysI
namespace Go.Proofs.YtffnkkpmlplfeaaGreatDoor
open Go.World List
set_option linter.all false
set_option maxRecDepth 100000
set_option maxHeartbeats 0
variable[Inhabited Pick]
section
open Go.Maps
variable{fs:List Fu}{s:GA}{ns:List Nd}{n:Nd}{g:Nat}{D:DataW Unit}{f:Fu}
def bO(fs:List Fu)(s:GA):Option Nat:=fs.findIdx? (λf=>decide (f.name=s))
def jU(I:List Fu)(f:Fu)(s:GA):bO (I++[f]) s=(bO I s).or (if f.name=s then some I.length else none):=by
 unfold bO;rw[findIdx?_append];by_cases h:f.name=s
 ·simp[findIdx?_cons,h]
 ·simp[findIdx?_cons,h]
def A3{k:Nat}(J:k<fs.length)(h:∀j (hj:j<k),fs[j].name≠s)(I:fs[k].name=s):bO fs s=some k:=by
 unfold bO;rw[findIdx?_eq_some_iff_getElem];exact⟨J,Fc I,λj hj=>by simpa using h j hj⟩
def A4(h:∀j (hj:j<fs.length),fs[j].name≠s):bO fs s=none:=by
 unfold bO;rw[findIdx?_eq_none_iff];intro f I;obtain⟨j,hj,rfl⟩:=getElem_of_mem I;simpa using h j hj
def de{i:Nat}(h:bO fs s=some i):i<fs.length:=by
 unfold bO at h;rw[findIdx?_eq_some_iff_getElem]at h;exact h.1
def cu(fs:List Fu)(ns:List Nd):List Nat:=ns.filterMap (λn=>if n.kind=4 then bO fs n.name else none)
def ch(ss:List St):List Nd:=ss.flatMap (λs=>s.e++s.f)
def callsL(fs:List Fu)(ss:List St):List Nat:=(List.range fs.length).filter (λg=>decide (g∈cu fs (ch ss)))
def fi(h:n.kind=4->bO fs n.name=none):cu fs (ns++[n])=cu fs ns:=by
 unfold cu;rw[filterMap_append];by_cases h4:n.kind=4
 ·simp[h4,h h4]
 ·simp[h4]
def ib(h:n.kind=4)(I:bO fs n.name=some g):cu fs (ns++[n])=cu fs ns++[g]:=by
 unfold cu;rw[filterMap_append];simp[h,I]
def xR(h:g∈cu fs ns):g<fs.length:=by
 unfold cu at h;obtain⟨n,_,I⟩:=mem_filterMap.1 h;split at I
 ·exact de I
 ·cases I
def js(ss:List St)(s:St):ch (ss++[s])=ch ss++(s.e++s.f):=by simp[ch]
abbrev kS(s:GA):Lit:=.string s.data.toList
def ky{t:GA}(h:s≠t):kS s≠kS t:=by
 intro e;injection e with e;exact h (by cases s;cases t;simp only at e;congr 1;exact Array.ext' e)
structure cR (D:DataW Unit) (fs:List Fu):Prop where
 map:IsMap D
 has:∀s,Maps.has D (kS s)=(bO fs s).isSome
 val:∀s i,bO fs s=some i->D.atKey (kS s) (.lit (.int .i64 0))=.lit (.int .i64 (i:Int))
def cR.nil:cR (.map []) []:=⟨isMap_empty,λs=>rfl,λs i h=>by simp[bO]at h⟩
theorem cR.old(h:cR D fs)(I:Maps.has D (kS f.name)=true):cR D (fs++[f]):=by
 rw[h.has]at I;have J:∀s,bO (fs++[f]) s=bO fs s:=λs=>by
  rw[jU];cases e:bO fs s with
  | some i=>rfl
  | none=>
   by_cases hs:f.name=s
   ·rw[<-hs]at e;rw[e]at I;cases I
   ·simp[hs]
 exact⟨h.map,λs=>by rw[J];exact h.has s,λs i hi=>by rw[J]at hi;exact h.val s i hi⟩
def cR.new(h:cR D fs)(J:Maps.has D (kS f.name)=false):cR (D.put (kS f.name) (.lit (.int .i64 (fs.length:Int)))) (fs++[f]):=by
 rw[h.has]at J;have I:bO fs f.name=none:=by cases e:bO fs f.name <;> simp[e]at J⊢
 refine⟨h.map.put _ _,λs=>?_,λs i hi=>?_⟩
 ·rw[jU];by_cases hs:f.name=s
  ·subst hs;rw[has_put_same (k:=kS f.name) h.map trivial,I];simp
  ·rw[has_put_other (ky (Ne.symm hs)),h.has s];simp[hs]
 ·rw[jU]at hi;by_cases hs:f.name=s
  ·subst hs;rw[I]at hi;simp at hi;subst hi;rw[atKey_put_same (k:=kS f.name) h.map trivial]
  ·rw[atKey_put_other (ky (Ne.symm hs))];simp[hs]at hi;exact h.val s i hi
structure e_ (D:DataW Unit) (L:List Nat):Prop where
 map:IsMap D
 has:∀a:Int,Maps.has D (.int .i64 a)=true ↔ ∃g∈L,(g:Int)=a
def e_.nil:e_ (.map []) []:=⟨isMap_empty,λa=>by simp[Maps.has]⟩
def e_.put{L:List Nat}(h:e_ D L)(g:Nat)(d:DataW Unit):e_ (D.put (.int .i64 (g:Int)) d) (L++[g]):=by
 refine⟨h.map.put _ _,λa=>?_⟩;by_cases e:a=(g:Int)
 ·subst e;rw[has_put_same (k:=.int .i64 (g:Int)) h.map trivial];simp
 ·rw[has_put_other (by intro h;injection h with _ h;exact e h),h.has a];constructor
  ·rintro⟨x,hx,rfl⟩;exact⟨x,by simp[hx],rfl⟩
  ·rintro⟨x,hx,rfl⟩;rcases GJ.1 hx with hx|hx
   ·exact⟨x,hx,rfl⟩
   ·simp at hx;subst hx;exact absurd rfl e
def p9{P:Program}{k:GC}{R:BY->Option (DataW Unit×List MemPlace)}{w:AT}{b n:Nat}{ss:List St}{Y:List Int}(Ja:w.ownsMap P k R b n D)(U:P.underlying k=some (.int .i64))(hK:e_ D (cu fs (ch ss)))(hp:Y.Perm (intKeys D)):
  Y.mergeSort leI=(callsL fs ss).map (λg:Nat=>(g:Int)):=by
 have J:((callsL fs ss).map (λg:Nat=>(g:Int))).Pairwise (λa b=>a<b):=by
  refine pairwise_map.2 ?_;have:=(pairwise_lt_range (n:=fs.length)).filter (λg=>decide (g∈cu fs (ch ss)));exact this.imp (λh=>by omega)
 have Z:((callsL fs ss).map (λg:Nat=>(g:Int))).Perm (intKeys D):=by
  refine CollectedI.perm (left:=λ_=>false) ⟨J.imp (λh=>by omega),λx=>?_⟩ Ja (int_keyed U) U (λ_=>rfl);rw[hK.has x];simp only[and_true,mem_map,callsL,mem_filter,mem_range,GF];constructor
  ·rintro⟨g,⟨_,I⟩,rfl⟩;exact⟨g,I,rfl⟩
  ·rintro⟨g,I,rfl⟩;exact⟨g,⟨xR I,I⟩,rfl⟩
 rw[mergeSort_of_perm_i (hp.trans Z.symm)];exact mergeSort_of_pairwise (J.imp (λh=>by simp only[leI,GF];omega))
end
section
variable{gs:List Gl}{s:GA}{k f g:Nat}{xs scope:List GA}{t:Tr}{ns:List Nd}
def globI:List Gl->GA->Int
 | [],_=> -1
 | g::r,s=>if g.name=s then g.size else globI r s
theorem xS(U:k<gs.length)(h:∀j (hj:j<k),gs[j].name≠s)(I:gs[k].name=s):globI gs s=gs[k].size:=by
 induction gs generalizing k with
 | nil=>simp at U
 | cons g r ih=>
  cases k with
  | zero=>simp at I;simp[globI,I]
  | succ k=>
   have J:=h 0 o_;simp at J;simp only[globI,J,if_false];exact ih (k:=k) (Fc U) (λj hj=>by have:=h (j+1) o_;simpa using this) (Fc I)
theorem xT(h:∀j (hj:j<gs.length),gs[j].name≠s):globI gs s= -1:=by
 induction gs with
 | nil=>rfl
 | cons g r ih=>
  have I:=h 0 i_;simp at I;simp only[globI,I,if_false];exact ih (λj hj=>by have:=h (j+1) (Fc hj);simpa using this)
def du(xs:List GA)(s:GA):Bool:=xs.any (λx=>decide (x=s))
def rP(I:k<xs.length)(h:xs[k]=s):du xs s=true:=by
 unfold du;rw[any_eq_true];exact⟨xs[k],g_ I,decide_eq_true h⟩
def oO(h:∀j (hj:j<xs.length),xs[j]≠s):du xs s=false:=by
 unfold du;rw[any_eq_false];intro x I;obtain⟨j,hj,rfl⟩:=getElem_of_mem I;simpa using h j hj
def jc(h I:List GA)(s:GA):du (h++I) s=(du h s || du I s):=by simp[du]
def dR(gs:List Gl)(scope:List GA)(s:GA)(arr:Bool):Int:=
 if (if du scope s then 0 else globI gs s)<0 then 4 else if decide ((if du scope s then 0 else globI gs s)>0)=arr then 0 else 5
def aS(t:Tr)(scope:List GA)(n:Nd):Int:=
 if n.kind=2∨n.kind=3 then dR t.globals scope n.name (decide (n.kind=3))
 else if n.kind=4 then(match bO t.funcs n.name with|none=>4|some i=>if ((t.funcs.getD i ⟨⟨#[]⟩,[],[]⟩).params.length:Int)=n.val then 0 else 6)
 else 0
def bQ(t:Tr)(scope:List GA):List Nd->Int
 | []=>0
 | n::r=>if aS t scope n=0 then bQ t scope r else aS t scope n
theorem exprE_append(t:Tr)(I:List GA)(a b:List Nd):bQ t I (a++b)=if bQ t I a=0 then bQ t I b else bQ t I a:=by
 induction a with
 | nil=>simp[bQ]
 | cons n r ih=>
  simp only[cons_append,bQ];by_cases h:aS t I n=0
  ·simp only[h,if_true,ih]
  ·simp only[h,if_false]
theorem rQ(h:∀j (hj:j<ns.length),aS t scope ns[j]=0):bQ t scope ns=0:=by
 induction ns with
 | nil=>rfl
 | cons n r ih=>
  have I:=h 0 i_;simp at I;simp only[bQ,I,if_true];exact ih (λj hj=>by have:=h (j+1) (Fc hj);simpa using this)
theorem xU(U:k<ns.length)(h:∀j (hj:j<k),aS t scope ns[j]=0)(I:aS t scope ns[k]≠0):bQ t scope ns=aS t scope ns[k]:=by
 induction ns generalizing k with
 | nil=>simp at U
 | cons n r ih=>
  cases k with
  | zero=>simp at I;simp[bQ,I]
  | succ k=>
   have J:=h 0 o_;simp at J;simp only[bQ,J,if_true];exact ih (k:=k) (Fc U) (λj hj=>by have:=h (j+1) o_;simpa using this) (Fc I)
def bX(t:Tr)(scope taken:List GA)(s:St):Int:=
 if bQ t scope (s.e++s.f)≠0 then bQ t scope (s.e++s.f)
 else if s.kind=1 then(if du taken s.name=true∨0<=globI t.globals s.name then 2 else 0)
 else if s.kind=2∨s.kind=3 then dR t.globals scope s.name (decide (s.kind=3))
 else 0
def aQN (t : Tr) : Nat → List St → Int → List GA → List GA → Int × Int × List GA
 | 0, _, _, _, taken => (0, 0, taken)
 | _ + 1, [], _, _, taken => (0, 0, taken)
 | n + 1, s :: r, a, scope, taken =>
  if bX t scope taken s≠0 then(bX t scope taken s,a,taken)
  else
   let scope':=if s.kind=1 then scope++[s.name]else scope
   let taken':=if s.kind=1 then taken++[s.name]else taken
   let x:=aQN t n (r.take s.thn.toNat) (a+1) scope' taken'
   if x.1≠0 then x
   else
    let y:=aQN t n ((r.drop s.thn.toNat).take s.els.toNat) (a+1+s.thn) scope' x.2.2
    if y.1≠0 then y
    else aQN t n (r.drop (s.thn.toNat+s.els.toNat)) (a+1+s.thn+s.els) scope' y.2.2
theorem aQN_any (t : Tr) : ∀ (n m : Nat) (ss : List St) (a : Int) (sc tk : List GA), ss.length ≤ n → ss.length ≤ m → aQN t n ss a sc tk = aQN t m ss a sc tk := by
 intro n
 induction n with
 | zero =>
  intro m ss a sc tk h _
  obtain rfl : ss = [] := length_eq_zero_iff.1 (by omega)
  cases m <;> rfl
 | succ n ih =>
  intro m ss a sc tk h h'
  cases ss with
  | nil => cases m <;> rfl
  | cons s r =>
   simp only [length_cons] at h h'
   obtain ⟨m, rfl⟩ : ∃ k, m = k + 1 := ⟨m - 1, by omega⟩
   have e1 := fun b sc tk => ih m (r.take s.thn.toNat) b sc tk (by simp <;> omega) (by simp <;> omega)
   have e2 := fun b sc tk => ih m ((r.drop s.thn.toNat).take s.els.toNat) b sc tk (by simp <;> omega) (by simp <;> omega)
   have e3 := fun b sc tk => ih m (r.drop (s.thn.toNat + s.els.toNat)) b sc tk (by simp <;> omega) (by simp <;> omega)
   simp only [aQN, e1, e2, e3]
def aQ (t : Tr) (ss : List St) (a : Int) (scope taken : List GA) : Int × Int × List GA := aQN t ss.length ss a scope taken
def aQ_nil0 (t : Tr) (a : Int) (scope taken : List GA) : aQ t [] a scope taken = (0, 0, taken) := rfl
def aQ_cons (t : Tr) (s : St) (r : List St) (a : Int) (scope taken : List GA) : aQ t (s :: r) a scope taken =
  if bX t scope taken s≠0 then(bX t scope taken s,a,taken)
  else
   let scope':=if s.kind=1 then scope++[s.name]else scope
   let taken':=if s.kind=1 then taken++[s.name]else taken
   let x:=aQ t (r.take s.thn.toNat) (a+1) scope' taken'
   if x.1≠0 then x
   else
    let y:=aQ t ((r.drop s.thn.toNat).take s.els.toNat) (a+1+s.thn) scope' x.2.2
    if y.1≠0 then y
    else aQ t (r.drop (s.thn.toNat+s.els.toNat)) (a+1+s.thn+s.els) scope' y.2.2 := by
 have e1 := fun b sc tk => aQN_any t r.length (r.take s.thn.toNat).length (r.take s.thn.toNat) b sc tk (by simp <;> omega) (Nat.le_refl _)
 have e2 := fun b sc tk => aQN_any t r.length ((r.drop s.thn.toNat).take s.els.toNat).length ((r.drop s.thn.toNat).take s.els.toNat) b sc tk (by simp <;> omega) (Nat.le_refl _)
 have e3 := fun b sc tk => aQN_any t r.length (r.drop (s.thn.toNat + s.els.toNat)).length (r.drop (s.thn.toNat + s.els.toNat)) b sc tk (by simp <;> omega) (Nat.le_refl _)
 show aQN t (r.length + 1) (s :: r) a scope taken = _
 simp only [aQN, aQ, e1, e2, e3]
 rfl
def eH(t:Tr)(f g:Nat):Prop:=f<t.funcs.length/\g∈callsL t.funcs (t.funcs.getD f ⟨⟨#[]⟩,[],[]⟩).body
structure kQC (t:Tr)(f:Nat)(P:Nat→Prop):Prop where
 c_::
 one{g:Nat}:eH t f g→P g
 step{g h:Nat}:P g→eH t g h→P h
structure kQ (t:Tr)(f:Nat)(a0:Nat):Prop where
 c_::
 out:∀P,kQC t f P→P a0
theorem kQ.C{t:Tr}{f:Nat}:kQC t f (kQ t f):=⟨fun {g} q0=>⟨fun P k=>k.one q0⟩,
 fun {g h} q0 q1=>⟨fun P k=>k.step (q0.out P k) q1⟩⟩
abbrev kQ.one {t f}:=@kQC.one t f _ kQ.C
abbrev kQ.step {t f}:=@kQC.step t f _ kQ.C
theorem kQ_i{t:Tr}{f:Nat}{M:∀(a0:Nat),kQ t f a0→Prop}
 (one:∀{g:Nat},eH t f g→∀u,M g u)
 (step:∀{g h:Nat},∀q0:kQ t f g,eH t g h→M g q0→∀u,M h u)
 {a0:Nat}(u:kQ t f a0):M a0 u:=
 (u.out (fun a0=>∃z_,M a0 z_) ⟨fun {g} q0=>⟨.one q0,one q0 _⟩,
 fun {g h} q0 q1=>⟨.step q0.1 q1,step _ q1 q0.2 _⟩⟩).2
def eH.lt(h:eH t f g):g<t.funcs.length:=by
 have:=h.2
 unfold callsL at this;simp only[mem_filter,mem_range]at this;exact this.1
theorem kQ.lt(h:kQ t f g):g<t.funcs.length:=by
 cases h using kQ_i with
 | one h=>exact h.lt
 | step _ h=>exact h.lt
theorem kQ.sub{S:D6}(I:∀g,eH t f g->S g)(J:∀g h,S g->eH t g h->S h)(h:kQ t f g):S g:=by
 induction h using kQ_i with
 | one h=>exact I _ h
 | step _ h ih=>exact J _ _ ih h
def fd:List GA->List Gl->Bool
 | _,[]=>false
 | seen,g::r=>if du seen g.name then true else fd (seen++[g.name]) r
def fG:List GA->Int->List Fu->Option Int
 | _,_,[]=>none
 | seen,i,f::r=>if du seen f.name then some i else fG (seen++[f.name]) (i+1) r
def di:GA:=⟨#[109,97,105,110]⟩
def bP(t:Tr):Int×Int×Int:=
 if fd [] t.globals then(2,-1,-1)
 else match fG (t.globals.map (·.name)) 0 t.funcs with
  | some i=>(2,i,-1)
  | none=>match bO t.funcs di with
   | none=>(3,-1,-1)
   | some m=>if (t.funcs.getD m ⟨⟨#[]⟩,[],[]⟩).params.length>0 then(3,-1,-1)else(0,-1,-1)
def fD(gs:List Gl):List GA->List GA->Bool
 | _,[]=>false
 | seen,p::r=>if du seen p=true∨0<=globI gs p then true else fD gs (seen++[p]) r
def cZ(t:Tr)(i:Nat)(f:Fu):Int×Int×Int:=
 if fD t.globals [] f.params then(2,i,-1)
 else if (aQ t f.body 0 f.params f.params).1≠0 then((aQ t f.body 0 f.params f.params).1,i,(aQ t f.body 0 f.params f.params).2.1)
 else(0,-1,-1)
def bodiesE(t:Tr):Nat->List Fu->Int×Int×Int
 | _,[]=>(0,-1,-1)
 | i,f::r=>if (cZ t i f).1≠0 then cZ t i f else bodiesE t (i+1) r
def dj (t : Tr) (m : Nat) : Nat → Nat → Int × Int × Int
 | _, 0 => (0, -1, -1)
 | i, n + 1 => @ite _ ((i = m ∨ kQ t m i) ∧ kQ t i i) (pdQ _) (7, i, -1) (dj t m (i + 1) n)
def aU(t:Tr):Int×Int×Int:=
 if df t=false then(1,-1,-1)
 else if (bP t).1≠0 then bP t
 else if (bodiesE t 0 t.funcs).1≠0 then bodiesE t 0 t.funcs
 else dj t ((bO t.funcs di).getD 0) 0 t.funcs.length
end
section
variable{t:Tr}{s:St}{r:List St}{a:Int}{sc tk tk1:List GA}
def be(s:St)(sc:List GA):List GA:=if s.kind=1 then sc++[s.name]else sc
def fQ(h:bX t sc tk s≠0):aQ t (s::r) a sc tk=(bX t sc tk s,a,tk):=by
 (first | rw [aQ_cons] | rw [aQ_nil0]);simp only[h,ne_eq,not_false_eq_true,if_true]
def gj(h:bX t sc tk s=0)(I:(aQ t (r.take s.thn.toNat) (a+1) (be s sc) (be s tk)).1≠0):aQ t (s::r) a sc tk=aQ t (r.take s.thn.toNat) (a+1) (be s sc) (be s tk):=by
 unfold be at I⊢;(first | rw [aQ_cons] | rw [aQ_nil0]);simp only[h,ne_eq,not_true_eq_false,if_false,I,not_false_eq_true,if_true]
def gm(h:bX t sc tk s=0)(J:(aQ t (r.take s.thn.toNat) (a+1) (be s sc) (be s tk)).1=0)(U:tk1=(aQ t (r.take s.thn.toNat) (a+1) (be s sc) (be s tk)).2.2)
  (I:(aQ t ((r.drop s.thn.toNat).take s.els.toNat) (a+1+s.thn) (be s sc) tk1).1≠0):aQ t (s::r) a sc tk=aQ t ((r.drop s.thn.toNat).take s.els.toNat) (a+1+s.thn) (be s sc) tk1:=by
 subst U;unfold be at J I⊢;(first | rw [aQ_cons] | rw [aQ_nil0]);simp only[h,ne_eq,not_true_eq_false,if_false,J,I,not_false_eq_true,if_true]
def gq{tk2:List GA}(h:bX t sc tk s=0)(J:(aQ t (r.take s.thn.toNat) (a+1) (be s sc) (be s tk)).1=0)(Y:tk1=(aQ t (r.take s.thn.toNat) (a+1) (be s sc) (be s tk)).2.2)
  (I:(aQ t ((r.drop s.thn.toNat).take s.els.toNat) (a+1+s.thn) (be s sc) tk1).1=0) (U:tk2=(aQ t ((r.drop s.thn.toNat).take s.els.toNat) (a+1+s.thn) (be s sc) tk1).2.2):aQ t (s::r) a sc tk=aQ t (r.drop (s.thn.toNat+s.els.toNat)) (a+1+s.thn+s.els) (be s sc) tk2:=by
 subst Y U;unfold be at J I⊢;(first | rw [aQ_cons] | rw [aQ_nil0]);simp only[h,ne_eq,not_true_eq_false,if_false,J,I]
def fm(t:Tr)(a:Int)(h tk:List GA):aQ t [] a h tk=(0,0,tk):=by (first | rw [aQ_cons] | rw [aQ_nil0])
def kR(h:s.kind=1)(l:List GA):be s l=l++[s.name]:=if_pos h
def ie(h:s.kind≠1)(l:List GA):be s l=l:=if_neg h
def jt(s:St)(tk:List GA):(be s tk).length<=tk.length+1:=by unfold be;split <;> simp
theorem ju(t:Tr)(n:Nat):∀(ss:List St) (a:Int) (sc tk:List GA),ss.length<=n->(aQ t ss a sc tk).2.2.length<=tk.length+ss.length:=by
 induction n with
 | zero=>
  intro ss a sc tk h;obtain rfl:ss=[]:=GG o_;simp[fm]
 | succ n ih=>
  intro ss a sc tk h;cases ss with
  | nil=>simp[fm]
  | cons s r=>
   simp only[l_c]at h⊢;by_cases h1:bX t sc tk s=0
   ·have Y:=ih (r.take s.thn.toNat) (a+1) (be s sc) (be s tk) ZFs;have l0:=jt s tk;have e1:(r.take s.thn.toNat).length=min s.thn.toNat r.length:=i_
    by_cases h2:(aQ t (r.take s.thn.toNat) (a+1) (be s sc) (be s tk)).1=0
    ·obtain⟨J,I⟩:=q_ ((aQ t (r.take s.thn.toNat) (a+1) (be s sc) (be s tk)).2.2);have Z:=ih ((r.drop s.thn.toNat).take s.els.toNat) (a+1+s.thn) (be s sc) J ZFs;have e2:((r.drop s.thn.toNat).take s.els.toNat).length=min s.els.toNat (r.length-s.thn.toNat):=i_
     rw[<-I]at Y;by_cases h3:(aQ t ((r.drop s.thn.toNat).take s.els.toNat) (a+1+s.thn) (be s sc) J).1=0
     ·obtain⟨Jd,U⟩:=q_ ((aQ t ((r.drop s.thn.toNat).take s.els.toNat) (a+1+s.thn) (be s sc) J).2.2);rw[<-U]at Z;have l3:=ih (r.drop (s.thn.toNat+s.els.toNat)) (a+1+s.thn+s.els) (be s sc) Jd ZFs;rw[gq h1 h2 I h3 U];simp only[length_drop]at l3;omega
     ·rw[gm h1 h2 I h3];omega
    ·rw[gj h1 h2];omega
   ·rw[fQ h1];simp
def xV(I:List (List GA))(h:List GA)(s:St):(I++[be s h]).flatten=be s (I++[h]).flatten:=by
 unfold be;split <;> simp
def xW(h:List (List GA)):(h++[[]]).flatten=h.flatten:=by simp
end
section
variable{t:Tr}{seen sc tk:List GA}{g:Gl}{r gs:List Gl}{i:Int}{f:Fu}{s:St}{p:GA}
def lC(h:df t=false):aU t=(1,-1,-1):=by unfold aU;rw[if_pos h]
def ig(h:df t=true)(I:(bP t).1≠0):aU t=bP t:=by unfold aU;rw[if_neg (by simp[h]),if_pos I]
def jv(h:df t=true)(I:(bP t).1=0)(J:(bodiesE t 0 t.funcs).1≠0):aU t=bodiesE t 0 t.funcs:=by unfold aU;rw[if_neg (by simp[h]),if_neg (by simp[I]),if_pos J]
def lD(h:df t=true)(U:(bP t).1=0)(J:(bodiesE t 0 t.funcs).1=0){m:Nat}(I:bO t.funcs di=some m):aU t=dj t m 0 t.funcs.length:=by unfold aU;rw[if_neg (by simp[h]),if_neg (by simp[U]),if_neg (by simp[J]),I];rfl
def bJ{g a b:Nat}(h:a≠b):(⟨g,a,none⟩:Addr)≠⟨g,b,none⟩:=λe=>by simp[h]at e
def dC{α:Type}(l:List α)(j:Nat)(h:j<l.length):l.drop j=l[j]::l.drop (j+1):=(getElem_cons_drop h).symm
def qb(h:du seen g.name=true):fd seen (g::r)=true:=by rw[fd,if_pos h]
def mY(h:du seen g.name=false):fd seen (g::r)=fd (seen++[g.name]) r:=by rw[fd,if_neg (by simp[h])]
def qc{r:List Fu}(h:du seen f.name=true):fG seen i (f::r)=some i:=by rw[fG,if_pos h]
def mZ{r:List Fu}(h:du seen f.name=false):fG seen i (f::r)=fG (seen++[f.name]) (i+1) r:=by rw[fG,if_neg (by simp[h])]
def aG{a b:BY}(h:a=b):Ending.returned a=rW b:=by rw[h]
def lE(h:bQ t sc (s.e++s.f)≠0):bX t sc tk s=bQ t sc (s.e++s.f):=by
 unfold bX;rw[if_pos h]
def gM(h:bQ t sc (s.e++s.f)=0)(I:s.kind=1):bX t sc tk s=if du tk s.name=true∨0<=globI t.globals s.name then 2 else 0:=by
 unfold bX;rw[if_neg (by simp[h]),if_pos I]
def jV(h:bQ t sc (s.e++s.f)=0)(I:s.kind=2∨s.kind=3):bX t sc tk s=dR t.globals sc s.name (decide (s.kind=3)):=by
 unfold bX;rw[if_neg (by simp[h]),if_neg o_,if_pos I]
def lF(h:bQ t sc (s.e++s.f)=0)(I:s.kind≠1)(h2:s.kind≠2)(h3:s.kind≠3):bX t sc tk s=0:=by
 unfold bX;rw[if_neg (by simp[h]),if_neg I,if_neg o_]
def lG{r:List GA}(h:du seen p=true∨0<=globI gs p):fD gs seen (p::r)=true:=by unfold fD;rw[if_pos h]
def nh{r:List GA}(h:¬(du seen p=true∨0<=globI gs p)):fD gs seen (p::r)=fD gs (seen++[p]) r:=by rw[fD,if_neg h]
def xX(gs:List Gl)(seen:List GA):fD gs seen []=false:=rfl
def A5(f:Fu):Prop:=cM f.body=true/\(∀s∈f.body,fP s)/\(∀s∈f.body,rO s)/\(∀s∈f.params,s.size<=9223372036854775807)/\f.params.length<=1000/\f.body.length<=1000
end
structure RInv (t:Tr) (f:Nat) (out work:List Nat):Prop where
 nd:out.Nodup
 come:∀x∈out,kQ t f x
 sub:∀x∈work,x=f∨x∈out
 shut:∀x,(x=f∨x∈out)->x∉work->∀y,eH t x y->y∈out
structure fH (t:Tr) (f x:Nat) (done out work:List Nat):Prop where
 nd:out.Nodup
 come:∀x∈out,kQ t f x
 at_:x=f∨x∈out
 sub:∀x∈work,x=f∨x∈out
 shut:∀z,(z=f∨z∈out)->z∉work->z≠x->∀y,eH t z y->y∈out
 part:∀y∈done,y∈out
def RInv.start(t:Tr)(f:Nat):RInv t f [] [f]:=by
 refine⟨nodup_nil,i_,i_,λx hx hn=>?_⟩;simp at hx hn;exact absurd hx hn
def RInv.take{t:Tr}{f x:Nat}{J I Y:List Nat}(h:RInv t f J I)(Z:x∈I)(U:∀y,y∈I↔y=x∨y∈Y):fH t f x [] J Y:=by
 refine⟨h.nd,h.come,h.sub x Z,λy hy=>h.sub y ((U y).2 (.inr hy)),λz hz hn hne y hy=>h.shut z hz (λhm=>?_) y hy,i_⟩;rcases(U z).1 hm with h1|h1
 ·exact hne h1
 ·exact hn h1
def fH.old{t:Tr}{f x y:Nat}{done out work:List Nat}(h:fH t f x done out work)(hy:y∈out):fH t f x (done++[y]) out work:=
 ⟨h.nd,h.come,h.at_,h.sub,h.shut,λz hz=>by
  simp only[GJ,GM]at hz;rcases hz with h1|rfl
  ·exact h.part z h1
  ·exact hy⟩
def fH.new{t:Tr}{f x y:Nat}{Y J Z:List Nat}(h:fH t f x Y J Z)(hy:y∉J)(hc:eH t x y):fH t f x (Y++[y]) (J++[y]) (Z++[y]):=by
 refine⟨?_,?_,?_,?_,?_,?_⟩
 ·rw[nodup_append];exact⟨h.nd,i_,λa ha b hb e=>by simp only[GM]at hb;subst hb;subst e;exact hy ha⟩
 ·intro z I;simp only[GJ,GM]at I;rcases I with h1|rfl
  ·exact h.come z h1
  ·rcases h.at_ with rfl|h2
   ·exact .one hc
   ·exact .step (h.come _ h2) hc
 ·rcases h.at_ with h1|h1
  ·exact .inl h1
  ·exact .inr (mem_append_left _ h1)
 ·intro z I;simp only[GJ,GM]at I⊢;rcases I with h1|rfl
  ·rcases h.sub z h1 with h2|h2
   ·exact .inl h2
   ·exact .inr (.inl h2)
  ·exact .inr (.inr rfl)
 ·intro z I U Jd q hq;simp only[GJ,GM,not_or]at I U;have h3:z=f∨z∈J:=by
   rcases I with h1|h1|h1
   ·exact .inl h1
   ·exact .inr h1
   ·exact absurd h1 U.2
  exact mem_append_left _ (h.shut z h3 U.1 Jd q hq)
 ·intro z I;simp only[GJ,GM]at I⊢;rcases I with h1|rfl
  ·exact .inl (h.part z h1)
  ·exact .inr rfl
def fH.done{t:Tr}{f x:Nat}{J U I:List Nat}(h:fH t f x J U I)(Y:∀y,eH t x y->y∈J):RInv t f U I:=by
 refine⟨h.nd,h.come,h.sub,λz hz hn y hy=>?_⟩;by_cases e:z=x
 ·subst e;exact h.part y (Y y hy)
 ·exact h.shut z hz hn e y hy
def RInv.all{t:Tr}{f:Nat}{out:List Nat}(h:RInv t f out [])(g:Nat):g∈out↔kQ t f g:=
 ⟨λhg=>h.come g hg,λhg=>kQ.sub (S:=λg=>g∈out) (λg hg=>h.shut f (.inl rfl) i_ g hg) (λg k hg hk=>h.shut g (.inr hg) i_ k hk) hg⟩
theorem jw(n:Nat):∀ {l:List Nat},l.Nodup->(∀x∈l,x<n)->l.length<=n:=by
 induction n with
 | zero=>
  intro l h I;cases l with
  | nil=>simp
  | cons x r=>have:=I x i_;omega
 | succ n ih=>
  intro l h I;by_cases hm:n∈l
  ·have J:=ih (h.erase n) (λx hx=>by
    have h2:=(h.mem_erase_iff).1 hx;have:=I x h2.2
    have:=h2.1
    omega)
   rw[length_erase_of_mem hm]at J;omega
  ·have J:=ih h (λx hx=>by
    have:=I x hx
    have:x≠n:=λe=>hm (e ▸ hx)
    omega)
   omega
def fH.len{t:Tr}{f x:Nat}{done out work:List Nat}(h:fH t f x done out work):out.length<=t.funcs.length:=jw _ h.nd (λx hx=>(h.come x hx).lt)
def RInv.len{t:Tr}{f:Nat}{out work:List Nat}(h:RInv t f out work):out.length<=t.funcs.length:=jw _ h.nd (λx hx=>(h.come x hx).lt)
def RInv.lt{t:Tr}{f:Nat}{Y I:List Nat}(h:RInv t f Y I)(U:f<t.funcs.length):∀x∈I,x<t.funcs.length:=by
 intro x J;rcases h.sub x J with rfl|h1
 ·exact U
 ·exact(h.come x h1).lt
def eH.mem{t:Tr}{f g:Nat}(I:f<t.funcs.length):eH t f g↔g∈callsL t.funcs t.funcs[f].body:=by
 have e:t.funcs.getD f ⟨⟨#[]⟩,[],[]⟩=t.funcs[f]:=by simp[List.getD,I]
 unfold eH;rw[e];exact⟨λh=>h.2,λh=>⟨I,h⟩⟩
section
open Go.RowKit
variable{t:Tr}
def xY(x:Int×Int×Int):BY:=.agg #[.int .i64 x.1,.int .i64 x.2.1,.int .i64 x.2.2]
def set3{w:AT}{b:Nat}{u0 u1 u2 Y I h:BY}(h0:DO w b 0 Y)(Z:DO w b 1 I)(h2:DO w b 2 h):
  DO (((w.setCell ⟨b,0,none⟩ u0).setCell ⟨b,1,none⟩ u1).setCell ⟨b,2,none⟩ u2) b 0 u0/\DO (((w.setCell ⟨b,0,none⟩ u0).setCell ⟨b,1,none⟩ u1).setCell ⟨b,2,none⟩ u2) b 1 u1/\DO (((w.setCell ⟨b,0,none⟩ u0).setCell ⟨b,1,none⟩ u1).setCell ⟨b,2,none⟩ u2) b 2 u2:=by
 have U:DO (w.setCell ⟨b,0,none⟩ u0) b 1 I:=(s_ _ _ _ _ (bJ d_)).trans Z;have J:DO ((w.setCell ⟨b,0,none⟩ u0).setCell ⟨b,1,none⟩ u1) b 2 h:=(s_ _ _ _ _ (bJ d_)).trans ((s_ _ _ _ _ (bJ d_)).trans h2);exact⟨(s_ _ _ _ _ (bJ d_)).trans ((s_ _ _ _ _ (bJ d_)).trans (cell?_setCell_same _ _ _ h0)),(s_ _ _ _ _ (bJ d_)).trans (cell?_setCell_same _ _ _ U),cell?_setCell_same _ _ _ J⟩
end
section
variable{t:Tr}{m i n:Nat}
def fX(t:Tr):Int×Int×Int:=if fd [] t.globals then(2,-1,-1)else match fG (t.globals.map (·.name)) 0 t.funcs with|some i=>(2,i,-1)|none=>(0,-1,-1)
structure Gc (t:Tr):Prop where
 gl:t.globals.length<=50
 fl:t.funcs.length<=50
 g:∀g∈t.globals,g.name.size<=9223372036854775807/\0<=g.size/\g.size<=4000
 f:∀f∈t.funcs,A5 f
 fn:∀f∈t.funcs,f.name.size<=9223372036854775807
 sm:∀f∈t.funcs,eX f
 wf:uR t.funcs
def F4(h:df t=true)(U:eZ t)(I:xQ t):Gc t:=by
 unfold df at h;simp only[GE,decide_eq_true_iff,all_eq_true]at h;obtain⟨Y,h2,h3,h4⟩:=h;refine⟨Y,h2,λg hg=>?_,λf hf=>?_,λf hf=>(I.2.2 f hf).1,U.2.2,I.2⟩
 ·have:=h3 g hg
  unfold cY at this;simp only[GE,decide_eq_true_iff]at this;exact⟨I.1.2 g hg,this.2.1,this.2.2⟩
 ·have:=h4 f hf
  unfold cQ at this;simp only[GE,decide_eq_true_iff]at this;have Z:=U.2.2 f hf;have J:=I.2.2 f hf;exact⟨this.2.2.2.2.2,Z.2.2,J.2.2.2,J.2.1.2,o_,o_⟩
def kz(t:Tr):Int:=match bO t.funcs di with|none=>3|some m=>if (t.funcs.getD m ⟨⟨#[]⟩,[],[]⟩).params.length>0 then 3 else 0
theorem jW(h:(fX t).1≠0):bP t=fX t:=by
 unfold fX at h⊢;unfold bP;split
 ·rfl
 ·rename_i hd;rw[if_neg hd]at h;cases hq:fG (t.globals.map (·.name)) 0 t.funcs with
  | some i=>rfl
  | none=>rw[hq]at h;simp at h
theorem gN(h:(fX t).1=0):bP t=(kz t,-1,-1):=by
 unfold fX at h;unfold bP kz;split
 ·rename_i hd;rw[if_pos hd]at h;simp at h
 ·rename_i hd;rw[if_neg hd]at h;cases hq:fG (t.globals.map (·.name)) 0 t.funcs with
  | some i=>rw[hq]at h;simp at h
  | none=>
   simp only;cases bO t.funcs di with
   | none=>rfl
   | some m=>simp only;split <;> rfl
theorem nj(h:kz t=0):∃m,bO t.funcs di=some m:=by
 unfold kz at h;cases hm:bO t.funcs di with
 | none=>rw[hm]at h;simp at h
 | some m=>exact⟨m,rfl⟩
open Classical in
def jX(h:(i=m∨kQ t m i)/\kQ t i i):dj t m i (n+1)=(7,(i:Int),-1):=by rw[dj,if_pos h]
open Classical in
def fR(h:¬((i=m∨kQ t m i)/\kQ t i i)):dj t m i (n+1)=dj t m (i+1) n:=by rw[dj,if_neg h]
end
end Go.Proofs.YtffnkkpmlplfeaaGreatDoor
