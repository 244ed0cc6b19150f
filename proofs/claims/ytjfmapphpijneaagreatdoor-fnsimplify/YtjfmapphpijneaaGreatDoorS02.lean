import Derived.Test.YtjfmapphpijneaaGreatDoorS01
import Derived.Lib.SlKeysI
namespace Go.Proofs.YtjfmapphpijneaaGreatDoor
open Go.World List
set_option linter.all false
set_option maxRecDepth 100000
set_option maxHeartbeats 0
variable[Inhabited Pick]
section
open Go.Maps
variable{fs:List Fu}{s:Io}{ns:List Nd}{n:Nd}{g:Nat}{D:DataW Unit}{f:Fu}
def a_(fs:List Fu)(s:Io):Option Nat:=fs.findIdx? (λf=>decide (f.nm=s))
def lJ(I:List Fu)(f:Fu)(s:Io):a_ (I++[f]) s=(a_ I s).or (if f.nm=s then some I.length else none):=by unfold a_;rw[findIdx?_append];by_cases h:f.nm=s;simp[findIdx?_cons,h];simp[findIdx?_cons,h]
def yu{k:Nat}(J:k<fs.length)(h:∀j (hj:j<k),fs[j].nm≠s)(I:fs[k].nm=s):a_ fs s=some k:=by unfold a_;rw[findIdx?_eq_some_iff_getElem];exact⟨J,IN I,λj hj=>by simpa using h j hj⟩
def EF(h:∀j (hj:j<fs.length),fs[j].nm≠s):a_ fs s=none:=by unfold a_;rw[findIdx?_eq_none_iff];intro f I;obtain⟨j,hj,rfl⟩:=getElem_of_mem I;simpa using h j hj
def dE{i:Nat}(h:a_ fs s=some i):i<fs.length:=by unfold a_ at h;rw[findIdx?_eq_some_iff_getElem]at h;exact h.1
def cO(fs:List Fu)(ns:List Nd):List Nat:=ns.filterMap (λn=>if n.kd=4 then a_ fs n.nm else none)
def ct(ss:List St):List Nd:=ss.flatMap (λs=>s.e++s.f)
def callsL(fs:List Fu)(ss:List St):List Nat:=(List.range fs.length).filter (λg=>decide (g∈cO fs (ct ss)))
def gm(h:n.kd=4->a_ fs n.nm=none):cO fs (ns++[n])=cO fs ns:=by unfold cO;rw[filterMap_append];by_cases h4:n.kd=4;simp[h4,h h4];simp[h4]
def jB(h:n.kd=4)(I:a_ fs n.nm=some g):cO fs (ns++[n])=cO fs ns++[g]:=by unfold cO;rw[filterMap_append];simp[h,I]
def BQ(h:g∈cO fs ns):g<fs.length:=by unfold cO at h;have⟨n,_,I⟩:=mem_filterMap.1 h;split at I;exact dE I;cases I
def kO(ss:List St)(s:St):ct (ss++[s])=ct ss++(s.e++s.f):=by simp[ct]
abbrev kS(s:Io):Lit:=.string s.data.toList
def mw{t:Io}(h:s≠t):kS s≠kS t:=by intro e;injection e with e;exact h (by cases s;cases t;simp only at e;congr 1;exact Array.ext' e)
structure dj (D:DataW Unit) (fs:List Fu):Prop where
 map:IsMap D
 has:∀s,Maps.has D (kS s)=(a_ fs s).isSome
 val:∀s i,a_ fs s=some i->D.atKey (kS s) (.lit (.int .i64 0))=.lit (.int .i64 (i:Int))
def dj.nil:dj (.map []) []:=⟨isMap_empty,λs=>rfl,λs i h=>by simp[a_]at h⟩
theorem dj.old(h:dj D fs)(I:Maps.has D (kS f.nm)=true):dj D (fs++[f]):=by
 rw[h.has]at I;have Ja:∀s,a_ (fs++[f]) s=a_ fs s:=λs=>by
  rw[lJ];cases e:a_ fs s with
  | some i=>rfl
  | none=>by_cases hs:f.nm=s;rw[<-hs]at e;rw[e]at I;cases I;simp[hs]
 exact⟨h.map,λs=>by rw[Ja];exact h.has s,λs i hi=>by rw[Ja]at hi;exact h.val s i hi⟩
def dj.new(h:dj D fs)(J:Maps.has D (kS f.nm)=false):dj (D.put (kS f.nm) (.lit (.int .i64 (fs.length:Int)))) (fs++[f]):=by
 rw[h.has]at J;have I:a_ fs f.nm=none:=by cases e:a_ fs f.nm <;> simp[e]at J⊢
 refine⟨h.map.put _ _,λs=>?_,λs i hi=>?_⟩;rw[lJ];by_cases hs:f.nm=s;subst hs;rw[has_put_same (k:=kS f.nm) h.map trivial,I];simp;rw[has_put_other (mw (Ne.symm hs)),h.has s];simp[hs];rw[lJ]at hi;by_cases hs:f.nm=s;subst hs;rw[I]at hi;simp at hi;subst hi;rw[atKey_put_same (k:=kS f.nm) h.map trivial];rw[atKey_put_other (mw (Ne.symm hs))];simp[hs]at hi;exact h.val s i hi
structure fX (D:DataW Unit) (L:List Nat):Prop where
 map:IsMap D
 has:∀a:Int,Maps.has D (.int .i64 a)=true ↔ ∃g∈L,(g:Int)=a
def fX.nil:fX (.map []) []:=⟨isMap_empty,λa=>by simp[Maps.has]⟩
def fX.put{L:List Nat}(h:fX D L)(g:Nat)(d:DataW Unit):fX (D.put (.int .i64 (g:Int)) d) (L++[g]):=by refine⟨h.map.put _ _,λa=>?_⟩;by_cases e:a=(g:Int);subst e;rw[has_put_same (k:=.int .i64 (g:Int)) h.map trivial];simp;rw[has_put_other (by intro h;injection h with _ h;exact e h),h.has a];constructor;rintro⟨x,hx,rfl⟩;exact⟨x,by simp[hx],rfl⟩;rintro⟨x,hx,rfl⟩;rcases J5.1 hx with hx|hx;exact⟨x,hx,rfl⟩;simp at hx;subst hx;exact absurd rfl e
def tX{P:Program}{k:JZ}{R:BY->Option (DataW Unit×List MemPlace)}{w:AT}{b n:Nat}{ss:List St}{Z:List Int}(Ja:w.ownsMap P k R b n D)(U:P.underlying k=some (.int .i64))(hK:fX D (cO fs (ct ss)))(hp:Z.Perm (intKeys D)):
  Z.mergeSort leI=(callsL fs ss).map (λg:Nat=>(g:Int)):=by
 have J:((callsL fs ss).map (λg:Nat=>(g:Int))).Pairwise (λa b=>a<b):=by refine pairwise_map.2 ?_;have:=(pairwise_lt_range (n:=fs.length)).filter (λg=>decide (g∈cO fs (ct ss)));exact this.imp (λh=>by omega)
 have hc:((callsL fs ss).map (λg:Nat=>(g:Int))).Perm (intKeys D):=by refine CollectedI.perm (left:=λ_=>false) ⟨J.imp (λh=>by omega),λx=>?_⟩ Ja (int_keyed U) U (λ_=>rfl);rw[hK.has x];simp only[and_true,mem_map,callsL,mem_filter,mem_range,J2];constructor;rintro⟨g,⟨_,I⟩,rfl⟩;exact⟨g,I,rfl⟩;rintro⟨g,I,rfl⟩;exact⟨g,⟨BQ I,I⟩,rfl⟩
 rw[mergeSort_of_perm_i (hp.trans hc.symm)];exact mergeSort_of_pairwise (J.imp (λh=>by simp only[leI,J2];omega))
end
section
variable{gs:List Gl}{s:Io}{k f g:Nat}{xs scope:List Io}{t:Tr}{ns:List Nd}
def globI:List Gl->Io->Int
 | [],_=> -1
 | g::r,s=>if g.nm=s then g.size else globI r s
theorem tY(U:k<gs.length)(h:∀j (hj:j<k),gs[j].nm≠s)(I:gs[k].nm=s):globI gs s=gs[k].size:=by
 induction gs generalizing k with
 | nil=>simp at U
 | cons g r ih=>
  cases k with
  | zero=>simp at I;simp[globI,I]
  | succ k=>have J:=h 0 o_;simp at J;simp only[globI,J,if_false];exact ih (k:=k) (IN U) (λj hj=>by have:=h (j+1) o_;simpa using this) (IN I)
theorem BS(h:∀j (hj:j<gs.length),gs[j].nm≠s):globI gs s= -1:=by
 induction gs with
 | nil=>rfl
 | cons g r ih=>have I:=h 0 i_;simp at I;simp only[globI,I,if_false];exact ih (λj hj=>by have:=h (j+1) (IN hj);simpa using this)
def dF(xs:List Io)(s:Io):Bool:=xs.any (λx=>decide (x=s))
def wK(I:k<xs.length)(h:xs[k]=s):dF xs s=true:=by unfold dF;rw[any_eq_true];exact⟨xs[k],g_ I,decide_eq_true h⟩
def rU(h:∀j (hj:j<xs.length),xs[j]≠s):dF xs s=false:=by unfold dF;rw[any_eq_false];intro x I;obtain⟨j,hj,rfl⟩:=getElem_of_mem I;simpa using h j hj
def kt(h I:List Io)(s:Io):dF (h++I) s=(dF h s || dF I s):=by simp[dF]
def dU(gs:List Gl)(scope:List Io)(s:Io)(arr:Bool):Int:=
 if (if dF scope s then 0 else globI gs s)<0 then 4 else if decide ((if dF scope s then 0 else globI gs s)>0)=arr then 0 else 5
def aO(t:Tr)(scope:List Io)(n:Nd):Int:=
 if n.kd=2\/n.kd=3 then dU t.gl scope n.nm (decide (n.kd=3))
 else if n.kd=4 then(match a_ t.fc n.nm with|none=>4|some i=>if ((t.fc.getD i ⟨⟨#[]⟩,[],[]⟩).pm.length:Int)=n.val then 0 else 6)
 else 0
def bK(t:Tr)(scope:List Io):List Nd->Int
 | []=>0
 | n::r=>if aO t scope n=0 then bK t scope r else aO t scope n
theorem exprE_append(t:Tr)(Ja:List Io)(a b:List Nd):bK t Ja (a++b)=if bK t Ja a=0 then bK t Ja b else bK t Ja a:=by
 induction a with
 | nil=>simp[bK]
 | cons n r ih=>simp only[cons_append,bK];by_cases h:aO t Ja n=0;simp only[h,if_true,ih];simp only[h,if_false]
theorem oD(h:∀j (hj:j<ns.length),aO t scope ns[j]=0):bK t scope ns=0:=by
 induction ns with
 | nil=>rfl
 | cons n r ih=>have I:=h 0 i_;simp at I;simp only[bK,I,if_true];exact ih (λj hj=>by have:=h (j+1) (IN hj);simpa using this)
theorem BT(U:k<ns.length)(h:∀j (hj:j<k),aO t scope ns[j]=0)(I:aO t scope ns[k]≠0):bK t scope ns=aO t scope ns[k]:=by
 induction ns generalizing k with
 | nil=>simp at U
 | cons n r ih=>
  cases k with
  | zero=>simp at I;simp[bK,I]
  | succ k=>have J:=h 0 o_;simp at J;simp only[bK,J,if_true];exact ih (k:=k) (IN U) (λj hj=>by have:=h (j+1) o_;simpa using this) (IN I)
def bC(t:Tr)(scope taken:List Io)(s:St):Int:=
 if bK t scope (s.e++s.f)≠0 then bK t scope (s.e++s.f)
 else if s.kd=1 then(if dF taken s.nm=true\/0<=globI t.gl s.nm then 2 else 0)
 else if s.kd=2\/s.kd=3 then dU t.gl scope s.nm (decide (s.kd=3))
 else 0
def aLN (t : Tr) : Nat -> List St -> Int -> List Io -> List Io -> Int × Int × List Io
 | 0, _, _, _, taken => (0, 0, taken)
 | _ + 1, [], _, _, taken => (0, 0, taken)
 | n + 1, s :: r, a, scope, taken =>
  if bC t scope taken s≠0 then(bC t scope taken s,a,taken)
  else
   let scope':=if s.kd=1 then scope++[s.nm]else scope
   let taken':=if s.kd=1 then taken++[s.nm]else taken
   let x:=aLN t n (r.take s.th.toNat) (a+1) scope' taken'
   if x.1≠0 then x
   else
    let y:=aLN t n ((r.drop s.th.toNat).take s.el.toNat) (a+1+s.th) scope' x.2.2
    if y.1≠0 then y
    else aLN t n (r.drop (s.th.toNat+s.el.toNat)) (a+1+s.th+s.el) scope' y.2.2
theorem aLN_any (t : Tr) : ∀ (n m : Nat) (ss : List St) (a : Int) (sc tk : List Io), ss.length ≤ n -> ss.length ≤ m -> aLN t n ss a sc tk = aLN t m ss a sc tk := by
 intro n
 induction n with
 | zero =>intro m ss a sc tk h _;obtain rfl : ss = [] := List.length_eq_zero_iff.1 (by omega);cases m <;> rfl
 | succ n ih =>
  intro m ss a sc tk h h';cases ss with
  | nil => cases m <;> rfl
  | cons s r =>
   simp only [List.length_cons] at h h';obtain ⟨m, rfl⟩ : ∃ k, m = k + 1 := ⟨m - 1, by omega⟩;have e1 := λb sc tk => ih m (r.take s.th.toNat) b sc tk (by simp <;> omega) (by simp <;> omega)
   have e2 := λb sc tk => ih m ((r.drop s.th.toNat).take s.el.toNat) b sc tk (by simp <;> omega) (by simp <;> omega)
   have e3 := λb sc tk => ih m (r.drop (s.th.toNat + s.el.toNat)) b sc tk (by simp <;> omega) (by simp <;> omega)
   simp only [aLN, e1, e2, e3]
def aL (t : Tr) (ss : List St) (a : Int) (scope taken : List Io) : Int × Int × List Io := aLN t ss.length ss a scope taken
theorem aL_nil0 (t : Tr) (a : Int) (scope taken : List Io) : aL t [] a scope taken = (0, 0, taken) := rfl
theorem aL_cons (t : Tr) (s : St) (r : List St) (a : Int) (scope taken : List Io) : aL t (s :: r) a scope taken =
  if bC t scope taken s≠0 then(bC t scope taken s,a,taken)
  else
   let scope':=if s.kd=1 then scope++[s.nm]else scope
   let taken':=if s.kd=1 then taken++[s.nm]else taken
   let x:=aL t (r.take s.th.toNat) (a+1) scope' taken'
   if x.1≠0 then x
   else
    let y:=aL t ((r.drop s.th.toNat).take s.el.toNat) (a+1+s.th) scope' x.2.2
    if y.1≠0 then y
    else aL t (r.drop (s.th.toNat+s.el.toNat)) (a+1+s.th+s.el) scope' y.2.2 := by
 have e1 := λb sc tk => aLN_any t r.length (r.take s.th.toNat).length (r.take s.th.toNat) b sc tk (by simp <;> omega) (Nat.le_refl _)
 have e2 := λb sc tk => aLN_any t r.length ((r.drop s.th.toNat).take s.el.toNat).length ((r.drop s.th.toNat).take s.el.toNat) b sc tk (by simp <;> omega) (Nat.le_refl _)
 have e3 := λb sc tk => aLN_any t r.length (r.drop (s.th.toNat + s.el.toNat)).length (r.drop (s.th.toNat + s.el.toNat)) b sc tk (by simp <;> omega) (Nat.le_refl _)
 show aLN t (r.length + 1) (s :: r) a scope taken = _;simp only [aLN, aL, e1, e2, e3];rfl
def dV(t:Tr)(f g:Nat):Prop:=f<t.fc.length/\g∈callsL t.fc (t.fc.getD f ⟨⟨#[]⟩,[],[]⟩).bd
structure iDC (t:Tr)(f:Nat)(P:Nat->Prop):Prop where
 c_::
 one:∀{g:Nat},dV t f g->P g
 step:∀{g h:Nat},P g->dV t g h->P h
structure iD (t:Tr)(f:Nat)(a0:Nat):Prop where
 c_::
 out:∀P,iDC t f P->P a0
theorem iD.C{t:Tr}{f:Nat}:iDC t f (iD t f):=⟨λ{g} q0=>⟨λP k=>k.one q0⟩,
 λ{g h} q0 q1=>⟨λP k=>k.step (q0.out P k) q1⟩⟩
abbrev iD.one {t f}:=@iDC.one t f _ iD.C
abbrev iD.step {t f}:=@iDC.step t f _ iD.C
theorem iD_i{t:Tr}{f:Nat}{M:∀(a0:Nat),iD t f a0->Prop}
 (one:∀{g:Nat},dV t f g->∀u,M g u)
 (step:∀{g h:Nat},∀q0:iD t f g,dV t g h->M g q0->∀u,M h u)
 {a0:Nat}(u:iD t f a0):M a0 u:=
 (u.out (λa0=>∃z_,M a0 z_) ⟨λ{g} q0=>⟨.one q0,one q0 _⟩,
 λ{g h} q0 q1=>⟨.step q0.1 q1,step _ q1 q0.2 _⟩⟩).2
def dV.lt(h:dV t f g):g<t.fc.length:=by
 have:=h.2
 unfold callsL at this;simp only[mem_filter,mem_range]at this;exact this.1
theorem iD.lt(h:iD t f g):g<t.fc.length:=by
 cases h using iD_i with
 | one h=>exact h.lt
 | step _ h=>exact h.lt
theorem iD.sub{S:Ft}(I:∀g,dV t f g->S g)(J:∀g h,S g->dV t g h->S h)(h:iD t f g):S g:=by
 induction h using iD_i with
 | one h=>exact I _ h
 | step _ h ih=>exact J _ _ ih h
def fU:List Io->List Gl->Bool
 | _,[]=>false
 | seen,g::r=>if dF seen g.nm then true else fU (seen++[g.nm]) r
def fL:List Io->Int->List Fu->Option Int
 | _,_,[]=>none
 | seen,i,f::r=>if dF seen f.nm then some i else fL (seen++[f.nm]) (i+1) r
def dt:Io:=⟨#[109,97,105,110]⟩
def bJ(t:Tr):Int×Int×Int:=
 if fU [] t.gl then(2,-1,-1)
 else match fL (t.gl.map (·.nm)) 0 t.fc with
  | some i=>(2,i,-1)
  | none=>match a_ t.fc dt with
   | none=>(3,-1,-1)
   | some m=>if (t.fc.getD m ⟨⟨#[]⟩,[],[]⟩).pm.length>0 then(3,-1,-1)else(0,-1,-1)
def fY(gs:List Gl):List Io->List Io->Bool
 | _,[]=>false
 | seen,p::r=>if dF seen p=true\/0<=globI gs p then true else fY gs (seen++[p]) r
def du(t:Tr)(i:Nat)(f:Fu):Int×Int×Int:=
 if fY t.gl [] f.pm then(2,i,-1)
 else if (aL t f.bd 0 f.pm f.pm).1≠0 then((aL t f.bd 0 f.pm f.pm).1,i,(aL t f.bd 0 f.pm f.pm).2.1)
 else(0,-1,-1)
def bodiesE(t:Tr):Nat->List Fu->Int×Int×Int
 | _,[]=>(0,-1,-1)
 | i,f::r=>if (du t i f).1≠0 then du t i f else bodiesE t (i+1) r
def dy (t : Tr) (m : Nat) : Nat -> Nat -> Int × Int × Int
 | _, 0 => (0, -1, -1)
 | i, n + 1 => @ite _ ((i = m \/ iD t m i) ∧ iD t i i) (pdQ _) (7, i, -1) (dy t m (i + 1) n)
def aQ(t:Tr):Int×Int×Int:=
 if cM t=false then(1,-1,-1)
 else if (bJ t).1≠0 then bJ t
 else if (bodiesE t 0 t.fc).1≠0 then bodiesE t 0 t.fc
 else dy t ((a_ t.fc dt).getD 0) 0 t.fc.length
end
section
variable{t:Tr}{s:St}{r:List St}{a:Int}{sc tk tk1:List Io}
def aP(s:St)(sc:List Io):List Io:=if s.kd=1 then sc++[s.nm]else sc
def eZ(h:bC t sc tk s≠0):aL t (s::r) a sc tk=(bC t sc tk s,a,tk):=by (first | rw [aL_cons] | rw [aL_nil0]);simp only[h,ne_eq,not_false_eq_true,if_true]
def fy(h:bC t sc tk s=0)(I:(aL t (r.take s.th.toNat) (a+1) (aP s sc) (aP s tk)).1≠0):aL t (s::r) a sc tk=aL t (r.take s.th.toNat) (a+1) (aP s sc) (aP s tk):=by unfold aP at I⊢;(first | rw [aL_cons] | rw [aL_nil0]);simp only[h,ne_eq,not_true_eq_false,if_false,I,not_false_eq_true,if_true]
def fA(h:bC t sc tk s=0)(J:(aL t (r.take s.th.toNat) (a+1) (aP s sc) (aP s tk)).1=0)(Ja:tk1=(aL t (r.take s.th.toNat) (a+1) (aP s sc) (aP s tk)).2.2)
  (I:(aL t ((r.drop s.th.toNat).take s.el.toNat) (a+1+s.th) (aP s sc) tk1).1≠0):aL t (s::r) a sc tk=aL t ((r.drop s.th.toNat).take s.el.toNat) (a+1+s.th) (aP s sc) tk1:=by
 subst Ja;unfold aP at J I⊢;(first | rw [aL_cons] | rw [aL_nil0]);simp only[h,ne_eq,not_true_eq_false,if_false,J,I,not_false_eq_true,if_true]
def ey{tk2:List Io}(h:bC t sc tk s=0)(J:(aL t (r.take s.th.toNat) (a+1) (aP s sc) (aP s tk)).1=0)(Jb:tk1=(aL t (r.take s.th.toNat) (a+1) (aP s sc) (aP s tk)).2.2)
  (I:(aL t ((r.drop s.th.toNat).take s.el.toNat) (a+1+s.th) (aP s sc) tk1).1=0) (Ja:tk2=(aL t ((r.drop s.th.toNat).take s.el.toNat) (a+1+s.th) (aP s sc) tk1).2.2):aL t (s::r) a sc tk=aL t (r.drop (s.th.toNat+s.el.toNat)) (a+1+s.th+s.el) (aP s sc) tk2:=by
 subst Jb Ja;unfold aP at J I⊢;(first | rw [aL_cons] | rw [aL_nil0]);simp only[h,ne_eq,not_true_eq_false,if_false,J,I]
def ee(t:Tr)(a:Int)(h tk:List Io):aL t [] a h tk=(0,0,tk):=by (first | rw [aL_cons] | rw [aL_nil0])
def jR(h:s.kd=1)(l:List Io):aP s l=l++[s.nm]:=if_pos h
def fm(h:s.kd≠1)(l:List Io):aP s l=l:=if_neg h
def kP(s:St)(tk:List Io):(aP s tk).length<=tk.length+1:=by unfold aP;split <;> simp
theorem kQ(t:Tr)(n:Nat):∀(ss:List St) (a:Int) (sc tk:List Io),ss.length<=n->(aL t ss a sc tk).2.2.length<=tk.length+ss.length:=by
 induction n with
 | zero=>intro ss a sc tk h;obtain rfl:ss=[]:=J3 o_;simp[ee]
 | succ n ih=>
  intro ss a sc tk h;cases ss with
  | nil=>simp[ee]
  | cons s r=>
   simp only[l_c]at h⊢;by_cases h1:bC t sc tk s=0;have I:=ih (r.take s.th.toNat) (a+1) (aP s sc) (aP s tk) H6;have Z:=kP s tk;have e1:(r.take s.th.toNat).length=min s.th.toNat r.length:=i_;by_cases h2:(aL t (r.take s.th.toNat) (a+1) (aP s sc) (aP s tk)).1=0
   have⟨Jc,Ja⟩:=q_ ((aL t (r.take s.th.toNat) (a+1) (aP s sc) (aP s tk)).2.2);have J:=ih ((r.drop s.th.toNat).take s.el.toNat) (a+1+s.th) (aP s sc) Jc H6;have e2:((r.drop s.th.toNat).take s.el.toNat).length=min s.el.toNat (r.length-s.th.toNat):=i_
   rw[<-Ja]at I;by_cases h3:(aL t ((r.drop s.th.toNat).take s.el.toNat) (a+1+s.th) (aP s sc) Jc).1=0
   have⟨Jd,Jb⟩:=q_ ((aL t ((r.drop s.th.toNat).take s.el.toNat) (a+1+s.th) (aP s sc) Jc).2.2);rw[<-Jb]at J;have U:=ih (r.drop (s.th.toNat+s.el.toNat)) (a+1+s.th+s.el) (aP s sc) Jd H6;rw[ey h1 h2 Ja h3 Jb];simp only[length_drop]at U;omega
   rw[fA h1 h2 Ja h3];omega;rw[fy h1 h2];omega;rw[eZ h1];simp
def BU(Ja:List (List Io))(h:List Io)(s:St):(Ja++[aP s h]).flatten=aP s (Ja++[h]).flatten:=by unfold aP;split <;> simp
def BV(Ja:List (List Io)):(Ja++[[]]).flatten=Ja.flatten:=by simp
end
section
variable{t:Tr}{seen sc tk:List Io}{g:Gl}{r gs:List Gl}{i:Int}{f:Fu}{s:St}{p:Io}
def ku(h:cM t=false):aQ t=(1,-1,-1):=by unfold aQ;rw[if_pos h]
def gu(h:cM t=true)(I:(bJ t).1≠0):aQ t=bJ t:=by unfold aQ;rw[if_neg (by simp[h]),if_pos I]
def gH(h:cM t=true)(I:(bJ t).1=0)(J:(bodiesE t 0 t.fc).1≠0):aQ t=bodiesE t 0 t.fc:=by unfold aQ;rw[if_neg (by simp[h]),if_neg (by simp[I]),if_pos J]
def iX(h:cM t=true)(U:(bJ t).1=0)(J:(bodiesE t 0 t.fc).1=0){m:Nat}(I:a_ t.fc dt=some m):aQ t=dy t m 0 t.fc.length:=by unfold aQ;rw[if_neg (by simp[h]),if_neg (by simp[U]),if_neg (by simp[J]),I];rfl
def bV{g a b:Nat}(h:a≠b):(⟨g,a,none⟩:Addr)≠⟨g,b,none⟩:=λe=>by simp[h]at e
def eh{α:Type}(l:List α)(j:Nat)(h:j<l.length):l.drop j=l[j]::l.drop (j+1):=(getElem_cons_drop h).symm
def tZ(h:dF seen g.nm=true):fU seen (g::r)=true:=by rw[fU,if_pos h]
def qJ(h:dF seen g.nm=false):fU seen (g::r)=fU (seen++[g.nm]) r:=by rw[fU,if_neg (by simp[h])]
def ub{r:List Fu}(h:dF seen f.nm=true):fL seen i (f::r)=some i:=by rw[fL,if_pos h]
def qK{r:List Fu}(h:dF seen f.nm=false):fL seen i (f::r)=fL (seen++[f.nm]) (i+1) r:=by rw[fL,if_neg (by simp[h])]
def aD{a b:BY}(h:a=b):Ending.returned a=rW b:=by rw[h]
def oE(h:bK t sc (s.e++s.f)≠0):bC t sc tk s=bK t sc (s.e++s.f):=by unfold bC;rw[if_pos h]
def iY(h:bK t sc (s.e++s.f)=0)(I:s.kd=1):bC t sc tk s=if dF tk s.nm=true\/0<=globI t.gl s.nm then 2 else 0:=by unfold bC;rw[if_neg (by simp[h]),if_pos I]
def lK(h:bK t sc (s.e++s.f)=0)(I:s.kd=2\/s.kd=3):bC t sc tk s=dU t.gl sc s.nm (decide (s.kd=3)):=by unfold bC;rw[if_neg (by simp[h]),if_neg o_,if_pos I]
def oG(h:bK t sc (s.e++s.f)=0)(I:s.kd≠1)(h2:s.kd≠2)(h3:s.kd≠3):bC t sc tk s=0:=by unfold bC;rw[if_neg (by simp[h]),if_neg I,if_neg o_]
def oH{r:List Io}(h:dF seen p=true\/0<=globI gs p):fY gs seen (p::r)=true:=by unfold fY;rw[if_pos h]
def qL{r:List Io}(h:¬(dF seen p=true\/0<=globI gs p)):fY gs seen (p::r)=fY gs (seen++[p]) r:=by rw[fY,if_neg h]
def BW(gs:List Gl)(seen:List Io):fY gs seen []=false:=rfl
def EG(f:Fu):Prop:=bw f.bd=true/\(∀s∈f.bd,gE s)/\(∀s∈f.bd,tV s)/\(∀s∈f.pm,s.size<=9223372036854775807)/\f.pm.length<=1000/\f.bd.length<=1000
end
structure RInv (t:Tr) (f:Nat) (out work:List Nat):Prop where
 nd:out.Nodup
 come:∀x∈out,iD t f x
 sub:∀x∈work,x=f\/x∈out
 shut:∀x,(x=f\/x∈out)->x∉work->∀y,dV t x y->y∈out
structure gI (t:Tr) (f x:Nat) (done out work:List Nat):Prop where
 nd:out.Nodup
 come:∀x∈out,iD t f x
 at_:x=f\/x∈out
 sub:∀x∈work,x=f\/x∈out
 shut:∀z,(z=f\/z∈out)->z∉work->z≠x->∀y,dV t z y->y∈out
 part:∀y∈done,y∈out
def RInv.start(t:Tr)(f:Nat):RInv t f [] [f]:=by refine⟨nodup_nil,i_,i_,λx hx hn=>?_⟩;simp at hx hn;exact absurd hx hn
def RInv.take{t:Tr}{f x:Nat}{Jc Ja Jb:List Nat}(h:RInv t f Jc Ja)(J:x∈Ja)(I:∀y,y∈Ja↔y=x\/y∈Jb):gI t f x [] Jc Jb:=by refine⟨h.nd,h.come,h.sub x J,λy hy=>h.sub y ((I y).2 (.inr hy)),λz hz hn hne y hy=>h.shut z hz (λhm=>?_) y hy,i_⟩;rcases(I z).1 hm with h1|h1;exact hne h1;exact hn h1
def gI.old{t:Tr}{f x y:Nat}{done out work:List Nat}(h:gI t f x done out work)(hy:y∈out):gI t f x (done++[y]) out work:=
 ⟨h.nd,h.come,h.at_,h.sub,h.shut,λz hz=>by simp only[J5,J7]at hz;rcases hz with h1|rfl;exact h.part z h1;exact hy⟩
def gI.new{t:Tr}{f x y:Nat}{Ja Jc Jb:List Nat}(h:gI t f x Ja Jc Jb)(hy:y∉Jc)(U:dV t x y):gI t f x (Ja++[y]) (Jc++[y]) (Jb++[y]):=by
 refine⟨?_,?_,?_,?_,?_,?_⟩;rw[nodup_append];exact⟨h.nd,i_,λa ha b hb e=>by simp only[J7]at hb;subst hb;subst e;exact hy ha⟩;intro z I;simp only[J5,J7]at I;rcases I with h1|rfl;exact h.come z h1;rcases h.at_ with rfl|h2;exact .one U;exact .step (h.come _ h2) U;rcases h.at_ with h1|h1;exact .inl h1;exact .inr (mem_append_left _ h1);intro z I;simp only[J5,J7]at I⊢;rcases I with h1|rfl;rcases h.sub z h1 with h2|h2;exact .inl h2;exact .inr (.inl h2);exact .inr (.inr rfl);intro z I J Jd q Z;simp only[J5,J7,not_or]at I J;have h3:z=f\/z∈Jc:=by rcases I with h1|h1|h1;exact .inl h1;exact .inr h1;exact absurd h1 J.2
 exact mem_append_left _ (h.shut z h3 J.1 Jd q Z);intro z I;simp only[J5,J7]at I⊢;rcases I with h1|rfl;exact .inl (h.part z h1);exact .inr rfl
def gI.done{t:Tr}{f x:Nat}{Jc Jb Ja:List Nat}(h:gI t f x Jc Jb Ja)(I:∀y,dV t x y->y∈Jc):RInv t f Jb Ja:=by refine⟨h.nd,h.come,h.sub,λz hz hn y hy=>?_⟩;by_cases e:z=x;subst e;exact h.part y (I y hy);exact h.shut z hz hn e y hy
def RInv.all{t:Tr}{f:Nat}{out:List Nat}(h:RInv t f out [])(g:Nat):g∈out↔iD t f g:=
 ⟨λhg=>h.come g hg,λhg=>iD.sub (S:=λg=>g∈out) (λg hg=>h.shut f (.inl rfl) i_ g hg) (λg k hg hk=>h.shut g (.inr hg) i_ k hk) hg⟩
theorem kR(n:Nat):∀ {l:List Nat},l.Nodup->(∀x∈l,x<n)->l.length<=n:=by
 induction n with
 | zero=>
  intro l h I;cases l with
  | nil=>simp
  | cons x r=>have:=I x i_;omega
 | succ n ih=>
  intro l h I;by_cases hm:n∈l;have J:=ih (h.erase n) (λx hx=>by
   have h2:=(h.mem_erase_iff).1 hx;have:=I x h2.2
   have:=h2.1
   omega)
  rw[length_erase_of_mem hm]at J;omega;have J:=ih h (λx hx=>by
   have:=I x hx
   have:x≠n:=λe=>hm (e ▸ hx)
   omega)
  omega
def gI.len{t:Tr}{f x:Nat}{done out work:List Nat}(h:gI t f x done out work):out.length<=t.fc.length:=kR _ h.nd (λx hx=>(h.come x hx).lt)
def RInv.len{t:Tr}{f:Nat}{out work:List Nat}(h:RInv t f out work):out.length<=t.fc.length:=kR _ h.nd (λx hx=>(h.come x hx).lt)
def RInv.lt{t:Tr}{f:Nat}{Jb Ja:List Nat}(h:RInv t f Jb Ja)(J:f<t.fc.length):∀x∈Ja,x<t.fc.length:=by intro x I;rcases h.sub x I with rfl|h1;exact J;exact(h.come x h1).lt
def dV.mem{t:Tr}{f g:Nat}(I:f<t.fc.length):dV t f g↔g∈callsL t.fc t.fc[f].bd:=by
 have e:t.fc.getD f ⟨⟨#[]⟩,[],[]⟩=t.fc[f]:=by simp[List.getD,I]
 unfold dV;rw[e];exact⟨λh=>h.2,λh=>⟨I,h⟩⟩
section
open Go.RowKit
variable{t:Tr}
def BX(x:Int×Int×Int):BY:=.agg #[V x.1,V x.2.1,V x.2.2]
def set3{w:AT}{b:Nat}{u0 u1 u2 Z I h:BY}(h0:DO w b 0 Z)(h1:DO w b 1 I)(h2:DO w b 2 h):
  DO (((w.setCell ⟨b,0,none⟩ u0).setCell ⟨b,1,none⟩ u1).setCell ⟨b,2,none⟩ u2) b 0 u0/\DO (((w.setCell ⟨b,0,none⟩ u0).setCell ⟨b,1,none⟩ u1).setCell ⟨b,2,none⟩ u2) b 1 u1/\DO (((w.setCell ⟨b,0,none⟩ u0).setCell ⟨b,1,none⟩ u1).setCell ⟨b,2,none⟩ u2) b 2 u2:=by
 have U:DO (w.setCell ⟨b,0,none⟩ u0) b 1 I:=(s_ _ _ _ _ (bV d_)).trans h1;have J:DO ((w.setCell ⟨b,0,none⟩ u0).setCell ⟨b,1,none⟩ u1) b 2 h:=(s_ _ _ _ _ (bV d_)).trans ((s_ _ _ _ _ (bV d_)).trans h2);exact⟨(s_ _ _ _ _ (bV d_)).trans ((s_ _ _ _ _ (bV d_)).trans (cell?_setCell_same _ _ _ h0)),(s_ _ _ _ _ (bV d_)).trans (cell?_setCell_same _ _ _ U),cell?_setCell_same _ _ _ J⟩
end
section
variable{t:Tr}
def JD(t:Tr)(m:Nat):Prop:=∀x,(x=m\/iD t m x)->¬iD t x x
theorem oJ{t:Tr}{m:Nat}:∀(n i:Nat),(dy t m i n).1=0->∀x,i<=x->x<i+n->(x=m\/iD t m x)->¬iD t x x
 | 0,i,_,x,h1,h2,_=>by omega
 | n+1,i,h,x,h1,h2,hx=>by
  rw[dy]at h;by_cases hz:(i=m\/iD t m i)/\iD t i i;rw[if_pos hz]at h;simp at h;rw[if_neg hz]at h;by_cases e:x=i;subst e;exact λhr=>hz ⟨hx,hr⟩
  exact oJ n (i+1) h x o_ o_ hx
end
def kw{t:Tr}(h:(aQ t).1=0):cM t=true:=by unfold aQ at h;by_cases h1:cM t=false;rw[if_pos h1]at h;cases h;simpa using h1
section
variable{t:Tr}{m i n:Nat}
def ir(t:Tr):Int×Int×Int:=if fU [] t.gl then(2,-1,-1)else match fL (t.gl.map (·.nm)) 0 t.fc with|some i=>(2,i,-1)|none=>(0,-1,-1)
structure JW (t:Tr):Prop where
 gl:t.gl.length<=50
 fl:t.fc.length<=50
 g:∀g∈t.gl,g.nm.size<=9223372036854775807/\0<=g.size/\g.size<=4000
 f:∀f∈t.fc,EG f
 fn:∀f∈t.fc,f.nm.size<=9223372036854775807
 sm:∀f∈t.fc,fk f
 wf:wJ t.fc
def JO(h:cM t=true)(J:eQ t)(I:yq t):JW t:=by
 unfold cM at h;simp only[J1,decide_eq_true_iff,all_eq_true]at h;obtain⟨U,h2,h3,h4⟩:=h;refine⟨U,h2,λg hg=>?_,λf hf=>?_,λf hf=>(I.2.2 f hf).1,J.2.2,I.2⟩
 have:=h3 g hg
 unfold dD at this;simp only[J1,decide_eq_true_iff]at this;exact⟨I.1.2 g hg,this.2.1,this.2.2⟩
 have:=h4 f hf
 unfold cC at this;simp only[J1,decide_eq_true_iff]at this;have Jb:=J.2.2 f hf;have Ja:=I.2.2 f hf;exact⟨this.2.2.2.2.2,Jb.2.2,Ja.2.2.2,Ja.2.1.2,o_,o_⟩
def my(t:Tr):Int:=match a_ t.fc dt with|none=>3|some m=>if (t.fc.getD m ⟨⟨#[]⟩,[],[]⟩).pm.length>0 then 3 else 0
theorem lL(h:(ir t).1≠0):bJ t=ir t:=by
 unfold ir at h⊢;unfold bJ;split;rfl;rename_i hd;rw[if_neg hd]at h;cases hq:fL (t.gl.map (·.nm)) 0 t.fc with
 | some i=>rfl
 | none=>rw[hq]at h;simp at h
theorem iZ(h:(ir t).1=0):bJ t=(my t,-1,-1):=by
 unfold ir at h;unfold bJ my;split;rename_i hd;rw[if_pos hd]at h;simp at h;rename_i hd;rw[if_neg hd]at h;cases hq:fL (t.gl.map (·.nm)) 0 t.fc with
 | some i=>rw[hq]at h;simp at h
 | none=>
  simp only;cases a_ t.fc dt with
  | none=>rfl
  | some m=>simp only;split <;> rfl
theorem qM(h:my t=0):∃m,a_ t.fc dt=some m:=by
 unfold my at h;cases hm:a_ t.fc dt with
 | none=>rw[hm]at h;simp at h
 | some m=>exact⟨m,rfl⟩
def lM(h:(i=m\/iD t m i)/\iD t i i):dy t m i (n+1)=(7,(i:Int),-1):=by rw[dy,@if_pos _ (pdQ _) h]
def gZ(h:¬((i=m\/iD t m i)/\iD t i i)):dy t m i (n+1)=dy t m (i+1) n:=by rw[dy,@if_neg _ (pdQ _) h]
end
end Go.Proofs.YtjfmapphpijneaaGreatDoor
