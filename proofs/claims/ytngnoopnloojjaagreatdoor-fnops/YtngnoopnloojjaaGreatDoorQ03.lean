import Derived.Test.YtngnoopnloojjaaGreatDoorQ01
import Derived.Lib.SlKeysI
namespace Go.Proofs.YtngnoopnloojjaaGreatDoor
open Go.World List
set_option linter.all false
set_option maxRecDepth 100000
set_option maxHeartbeats 0
variable[Inhabited Pick]
section
open Go.Maps
variable{fs:List Fu}{s:IF}{ns:List Nd}{n:Nd}{g:Nat}{D:DataW Unit}{f:Fu}
def bU(fs:List Fu)(s:IF):Option Nat:=fs.findIdx? (λf=>decide (f.nm=s))
def mK(H:List Fu)(f:Fu)(s:IF):bU (H++[f]) s=(bU H s).or (if f.nm=s then some H.length else none):=by unfold bU;rw[findIdx?_append];by_cases h:f.nm=s;simp[findIdx?_cons,h];simp[findIdx?_cons,h]
def jv{i:Nat}(h:bU fs s=some i):i<fs.length:=by unfold bU at h;rw[findIdx?_eq_some_iff_getElem]at h;exact h.1
def dt(fs:List Fu)(ns:List Nd):List Nat:=ns.filterMap (λn=>if n.kd=4 then bU fs n.nm else none)
def eA(ss:List St):List Nd:=ss.flatMap (λs=>s.e++s.f)
def callsL(fs:List Fu)(ss:List St):List Nat:=(List.range fs.length).filter (λg=>decide (g∈dt fs (eA ss)))
def kR(h:n.kd=4->bU fs n.nm=none):dt fs (ns++[n])=dt fs ns:=by unfold dt;rw[filterMap_append];by_cases h4:n.kd=4;simp[h4,h h4];simp[h4]
def po(h:n.kd=4)(H:bU fs n.nm=some g):dt fs (ns++[n])=dt fs ns++[g]:=by unfold dt;rw[filterMap_append];simp[h,H]
def D_(h:g∈dt fs ns):g<fs.length:=by unfold dt at h;have⟨n,_,H⟩:=mem_filterMap.1 h;split at H;exact jv H;cases H
def tH(h:List St)(s:St):eA (h++[s])=eA h++(s.e++s.f):=by simp[eA]
def yf(fs:List Fu)(ss:List St):(callsL fs ss).length ≤ fs.length:= by have:= length_filter_le (λg=>decide (g∈dt fs (eA ss))) (List.range fs.length);simpa[callsL]using this
abbrev kS(s:IF):Lit:=.string s.data.toList
def pp{t:IF}(h:s≠t):kS s≠kS t:=by intro e;injection e with e;exact h (by cases s;cases t;simp only at e;congr 1;exact Array.ext' e)
structure cY (D:DataW Unit) (fs:List Fu):Prop where
 map:IsMap D
 has:∀s,Maps.has D (kS s)=(bU fs s).isSome
 val:∀s i,bU fs s=some i->D.atKey (kS s) (.lit (.int .i64 0))=.lit (.int .i64 (i:Int))
def cY.nil:cY (.map []) []:=⟨isMap_empty,λs=>rfl,λs i h=>by simp[bU]at h⟩
theorem cY.old(h:cY D fs)(H:Maps.has D (kS f.nm)=true):cY D (fs++[f]):=by
 rw[h.has]at H;have Ja:∀s,bU (fs++[f]) s=bU fs s:=λs=>by
  rw[mK];cases e:bU fs s with
  | some i=>rfl
  | none=>by_cases hs:f.nm=s;rw[<-hs]at e;rw[e]at H;cases H;simp[hs]
 exact⟨h.map,λs=>by rw[Ja];exact h.has s,λs i hi=>by rw[Ja]at hi;exact h.val s i hi⟩
def cY.new(h:cY D fs)(I:Maps.has D (kS f.nm)=false):cY (D.put (kS f.nm) (.lit (.int .i64 (fs.length:Int)))) (fs++[f]):=by
 rw[h.has]at I;have H:bU fs f.nm=none:=by cases e:bU fs f.nm <;> simp[e]at I⊢
 refine⟨h.map.put _ _,λs=>?_,λs i hi=>?_⟩;rw[mK];by_cases hs:f.nm=s;subst hs;rw[has_put_same (k:=kS f.nm) h.map trivial,H];simp;rw[has_put_other (pp (Ne.symm hs)),h.has s];simp[hs];rw[mK]at hi;by_cases hs:f.nm=s;subst hs;rw[H]at hi;simp at hi;subst hi;rw[atKey_put_same (k:=kS f.nm) h.map trivial];rw[atKey_put_other (pp (Ne.symm hs))];simp[hs]at hi;exact h.val s i hi
structure fY (D:DataW Unit) (L:List Nat):Prop where
 map:IsMap D
 has:∀a:Int,Maps.has D (.int .i64 a)=true ↔ ∃g∈L,(g:Int)=a
def fY.nil:fY (.map []) []:=⟨isMap_empty,λa=>by simp[Maps.has]⟩
def fY.put{L:List Nat}(h:fY D L)(g:Nat)(d:DataW Unit):fY (D.put (.int .i64 (g:Int)) d) (L++[g]):=by refine⟨h.map.put _ _,λa=>?_⟩;by_cases e:a=(g:Int);subst e;rw[has_put_same (k:=.int .i64 (g:Int)) h.map trivial];simp;rw[has_put_other (by intro h;injection h with _ h;exact e h),h.has a];constructor;rintro⟨x,hx,rfl⟩;exact⟨x,by simp[hx],rfl⟩;rintro⟨x,hx,rfl⟩;rcases K5.1 hx with hx|hx;exact⟨x,hx,rfl⟩;simp at hx;subst hx;exact absurd rfl e
def uY{P:Program}{k:IN}{R:BY->Option (DataW Unit×List MemPlace)}{w:AT}{b n:Nat}{H:List St}{zs:List Int}(Ja:w.ownsMap P k R b n D)(O:P.underlying k=some (.int .i64))(Y:fY D (dt fs (eA H)))(X:zs.Perm (intKeys D)):
  zs.mergeSort leI=(callsL fs H).map (λg:Nat=>(g:Int)):=by
 have J:((callsL fs H).map (λg:Nat=>(g:Int))).Pairwise (λa b=>a<b):=by refine pairwise_map.2 ?_;have:=(pairwise_lt_range (n:=fs.length)).filter (λg=>decide (g∈dt fs (eA H)));exact this.imp (λh=>by omega)
 have U:((callsL fs H).map (λg:Nat=>(g:Int))).Perm (intKeys D):=by refine CollectedI.perm (left:=λ_=>false) ⟨J.imp (λh=>by omega),λx=>?_⟩ Ja (int_keyed O) O (λ_=>rfl);rw[Y.has x];simp only[and_true,mem_map,callsL,mem_filter,mem_range,K0];constructor;rintro⟨g,⟨_,I⟩,rfl⟩;exact⟨g,I,rfl⟩;rintro⟨g,I,rfl⟩;exact⟨g,⟨D_ I,I⟩,rfl⟩
 rw[mergeSort_of_perm_i (X.trans U.symm)];exact mergeSort_of_pairwise (J.imp (λh=>by simp only[leI,K0];omega))
end
section
variable{gs:List Gl}{s:IF}{k f g:Nat}{xs scope:List IF}{t:Tr}{ns:List Nd}
def globI:List Gl->IF->Int
 | [],_=> -1
 | g::r,s=>if g.nm=s then g.size else globI r s
def fT(xs:List IF)(s:IF):Bool:=xs.any (λx=>decide (x=s))
def Ke(H:k<xs.length)(h:xs[k]=s):fT xs s=true:=by unfold fT;rw[any_eq_true];exact⟨xs[k],g_ H,decide_eq_true h⟩
def D0(h:∀j (hj:j<xs.length),xs[j]≠s):fT xs s=false:=by unfold fT;rw[any_eq_false];intro x H;obtain⟨j,hj,rfl⟩:=getElem_of_mem H;simpa using h j hj
def lu(h H:List IF)(s:IF):fT (h++H) s=(fT h s || fT H s):=by simp[fT]
def pq(gs:List Gl)(scope:List IF)(s:IF)(arr:Bool):Int:=
 if (if fT scope s then 0 else globI gs s)<0 then 4 else if decide ((if fT scope s then 0 else globI gs s)>0)=arr then 0 else 5
def nodeE(t:Tr)(scope:List IF)(n:Nd):Int:=
 if n.kd=2\/n.kd=3 then pq t.gl scope n.nm (decide (n.kd=3))
 else if n.kd=4 then(match bU t.fc n.nm with|none=>4|some i=>if ((t.fc.getD i ⟨⟨#[]⟩,[],[]⟩).pm.length:Int)=n.val then 0 else 6)
 else 0
def exprE(t:Tr)(scope:List IF):List Nd->Int
 | []=>0
 | n::r=>if nodeE t scope n=0 then exprE t scope r else nodeE t scope n
theorem lP(t:Tr)(Ja:List IF)(a b:List Nd):exprE t Ja (a++b)=if exprE t Ja a=0 then exprE t Ja b else exprE t Ja a:=by
 induction a with
 | nil=>simp[exprE]
 | cons n r ih=>simp only[cons_append,exprE];by_cases h:nodeE t Ja n=0;simp only[h,if_true,ih];simp only[h,if_false]
def stmtE(t:Tr)(scope taken:List IF)(s:St):Int:=
 if exprE t scope (s.e++s.f)≠0 then exprE t scope (s.e++s.f)
 else if s.kd=1 then(if fT taken s.nm=true\/0<=globI t.gl s.nm then 2 else 0)
 else if s.kd=2\/s.kd=3 then pq t.gl scope s.nm (decide (s.kd=3))
 else 0
def bCN (t : Tr) : Nat -> List St -> Int -> List IF -> List IF -> Int × Int × List IF
 | 0, _, _, _, taken => (0, 0, taken)
 | _ + 1, [], _, _, taken => (0, 0, taken)
 | n + 1, s :: r, a, scope, taken =>
  if stmtE t scope taken s≠0 then(stmtE t scope taken s,a,taken)
  else
   let scope':=if s.kd=1 then scope++[s.nm]else scope
   let taken':=if s.kd=1 then taken++[s.nm]else taken
   let x:=bCN t n (r.take s.th.toNat) (a+1) scope' taken'
   if x.1≠0 then x
   else
    let y:=bCN t n ((r.drop s.th.toNat).take s.el.toNat) (a+1+s.th) scope' x.2.2
    if y.1≠0 then y
    else bCN t n (r.drop (s.th.toNat+s.el.toNat)) (a+1+s.th+s.el) scope' y.2.2
theorem bCN_any (t : Tr) : ∀ (n m : Nat) (ss : List St) (a : Int) (sc tk : List IF), ss.length ≤ n -> ss.length ≤ m -> bCN t n ss a sc tk = bCN t m ss a sc tk := by
 intro n
 induction n with
 | zero =>intro m ss a sc tk h _;obtain rfl : ss = [] := List.length_eq_zero_iff.1 (by omega);cases m <;> rfl
 | succ n ih =>
  intro m ss a sc tk h h';cases ss with
  | nil => cases m <;> rfl
  | cons s r =>
   simp only [List.length_cons] at h h';obtain ⟨m, rfl⟩ : ∃ k, m = k + 1 := ⟨m - 1, by omega⟩;have e1 := λb sc tk => ih m (r.take s.th.toNat) b sc tk (by simp <;> omega) (by simp <;> omega)
   have e2 := λb sc tk => ih m ((r.drop s.th.toNat).take s.el.toNat) b sc tk (by simp <;> omega) (by simp <;> omega)
   have e3 := λb sc tk => ih m (r.drop (s.th.toNat + s.el.toNat)) b sc tk (by simp <;> omega) (by simp <;> omega)
   simp only [bCN, e1, e2, e3]
def bC (t : Tr) (ss : List St) (a : Int) (scope taken : List IF) : Int × Int × List IF := bCN t ss.length ss a scope taken
theorem bC_nil0 (t : Tr) (a : Int) (scope taken : List IF) : bC t [] a scope taken = (0, 0, taken) := rfl
theorem bC_cons (t : Tr) (s : St) (r : List St) (a : Int) (scope taken : List IF) : bC t (s :: r) a scope taken =
  if stmtE t scope taken s≠0 then(stmtE t scope taken s,a,taken)
  else
   let scope':=if s.kd=1 then scope++[s.nm]else scope
   let taken':=if s.kd=1 then taken++[s.nm]else taken
   let x:=bC t (r.take s.th.toNat) (a+1) scope' taken'
   if x.1≠0 then x
   else
    let y:=bC t ((r.drop s.th.toNat).take s.el.toNat) (a+1+s.th) scope' x.2.2
    if y.1≠0 then y
    else bC t (r.drop (s.th.toNat+s.el.toNat)) (a+1+s.th+s.el) scope' y.2.2 := by
 have e1 := λb sc tk => bCN_any t r.length (r.take s.th.toNat).length (r.take s.th.toNat) b sc tk (by simp <;> omega) (Nat.le_refl _)
 have e2 := λb sc tk => bCN_any t r.length ((r.drop s.th.toNat).take s.el.toNat).length ((r.drop s.th.toNat).take s.el.toNat) b sc tk (by simp <;> omega) (Nat.le_refl _)
 have e3 := λb sc tk => bCN_any t r.length (r.drop (s.th.toNat + s.el.toNat)).length (r.drop (s.th.toNat + s.el.toNat)) b sc tk (by simp <;> omega) (Nat.le_refl _)
 show bCN t (r.length + 1) (s :: r) a scope taken = _;simp only [bCN, bC, e1, e2, e3];rfl
def gu(t:Tr)(f g:Nat):Prop:=f<t.fc.length/\g∈callsL t.fc (t.fc.getD f ⟨⟨#[]⟩,[],[]⟩).bd
structure gLC (t:Tr)(f:Nat)(P:Nat->Prop):Prop where
 c_::
 one:∀{g:Nat},gu t f g->P g
 step:∀{g h:Nat},P g->gu t g h->P h
structure gL (t:Tr)(f:Nat)(a0:Nat):Prop where
 c_::
 out:∀P,gLC t f P->P a0
theorem gL.C{t:Tr}{f:Nat}:gLC t f (gL t f):=⟨λ{g} q0=>⟨λP k=>k.one q0⟩,
 λ{g h} q0 q1=>⟨λP k=>k.step (q0.out P k) q1⟩⟩
abbrev gL.one {t f}:=@gLC.one t f _ gL.C
abbrev gL.step {t f}:=@gLC.step t f _ gL.C
theorem gL_i{t:Tr}{f:Nat}{M:∀(a0:Nat),gL t f a0->Prop}
 (one:∀{g:Nat},gu t f g->∀u,M g u)
 (step:∀{g h:Nat},∀q0:gL t f g,gu t g h->M g q0->∀u,M h u)
 {a0:Nat}(u:gL t f a0):M a0 u:=
 (u.out (λa0=>∃z_,M a0 z_) ⟨λ{g} q0=>⟨.one q0,one q0 _⟩,
 λ{g h} q0 q1=>⟨.step q0.1 q1,step _ q1 q0.2 _⟩⟩).2
def gu.lt(h:gu t f g):g<t.fc.length:=by
 have:=h.2
 unfold callsL at this;simp only[mem_filter,mem_range]at this;exact this.1
theorem gL.lt(h:gL t f g):g<t.fc.length:=by
 cases h using gL_i with
 | one h=>exact h.lt
 | step _ h=>exact h.lt
theorem gL.sub{S:DO}(H:∀g,gu t f g->S g)(I:∀g h,S g->gu t g h->S h)(h:gL t f g):S g:=by
 induction h using gL_i with
 | one h=>exact H _ h
 | step _ h ih=>exact I _ _ ih h
def jw:List IF->List Gl->Bool
 | _,[]=>false
 | seen,g::r=>if fT seen g.nm then true else jw (seen++[g.nm]) r
def j0:List IF->Int->List Fu->Option Int
 | _,_,[]=>none
 | seen,i,f::r=>if fT seen f.nm then some i else j0 (seen++[f.nm]) (i+1) r
def mainS:IF:=⟨#[109,97,105,110]⟩
def dQ(t:Tr):Int×Int×Int:=
 if jw [] t.gl then(2,-1,-1)
 else match j0 (t.gl.map (·.nm)) 0 t.fc with
  | some i=>(2,i,-1)
  | none=>match bU t.fc mainS with
   | none=>(3,-1,-1)
   | some m=>if (t.fc.getD m ⟨⟨#[]⟩,[],[]⟩).pm.length>0 then(3,-1,-1)else(0,-1,-1)
def jx(gs:List Gl):List IF->List IF->Bool
 | _,[]=>false
 | seen,p::r=>if fT seen p=true\/0<=globI gs p then true else jx gs (seen++[p]) r
def fe(t:Tr)(i:Nat)(f:Fu):Int×Int×Int:=
 if jx t.gl [] f.pm then(2,i,-1)
 else if (bC t f.bd 0 f.pm f.pm).1≠0 then((bC t f.bd 0 f.pm f.pm).1,i,(bC t f.bd 0 f.pm f.pm).2.1)
 else(0,-1,-1)
def bodiesE(t:Tr):Nat->List Fu->Int×Int×Int
 | _,[]=>(0,-1,-1)
 | i,f::r=>if (fe t i f).1≠0 then fe t i f else bodiesE t (i+1) r
def dK (t : Tr) (m : Nat) : Nat -> Nat -> Int × Int × Int
 | _, 0 => (0, -1, -1)
 | i, n + 1 => @ite _ ((i = m \/ gL t m i) ∧ gL t i i) (pdQ _) (7, i, -1) (dK t m (i + 1) n)
def aL(t:Tr):Int×Int×Int:=
 if co t=false then(1,-1,-1)
 else if (dQ t).1≠0 then dQ t
 else if (bodiesE t 0 t.fc).1≠0 then bodiesE t 0 t.fc
 else dK t ((bU t.fc mainS).getD 0) 0 t.fc.length
end
structure RInv (t:Tr) (f:Nat) (out work:List Nat):Prop where
 nd:out.Nodup
 come:∀x∈out,gL t f x
 sub:∀x∈work,x=f\/x∈out
 shut:∀x,(x=f\/x∈out)->x∉work->∀y,gu t x y->y∈out
structure j1 (t:Tr) (f x:Nat) (done out work:List Nat):Prop where
 nd:out.Nodup
 come:∀x∈out,gL t f x
 at_:x=f\/x∈out
 sub:∀x∈work,x=f\/x∈out
 shut:∀z,(z=f\/z∈out)->z∉work->z≠x->∀y,gu t z y->y∈out
 part:∀y∈done,y∈out
def RInv.start(t:Tr)(f:Nat):RInv t f [] [f]:=by refine⟨nodup_nil,i_,i_,λx hx hn=>?_⟩;simp at hx hn;exact absurd hx hn
def RInv.take{t:Tr}{f x:Nat}{Jc Ja Jb:List Nat}(h:RInv t f Jc Ja)(I:x∈Ja)(H:∀y,y∈Ja↔y=x\/y∈Jb):j1 t f x [] Jc Jb:=by refine⟨h.nd,h.come,h.sub x I,λy hy=>h.sub y ((H y).2 (.inr hy)),λz hz hn hne y hy=>h.shut z hz (λhm=>?_) y hy,i_⟩;rcases(H z).1 hm with h1|h1;exact hne h1;exact hn h1
def j1.old{t:Tr}{f x y:Nat}{done out work:List Nat}(h:j1 t f x done out work)(hy:y∈out):j1 t f x (done++[y]) out work:=
 ⟨h.nd,h.come,h.at_,h.sub,h.shut,λz hz=>by simp only[K5,K7]at hz;rcases hz with h1|rfl;exact h.part z h1;exact hy⟩
def j1.new{t:Tr}{f x y:Nat}{Ja Jc Jb:List Nat}(h:j1 t f x Ja Jc Jb)(U:y∉Jc)(J:gu t x y):j1 t f x (Ja++[y]) (Jc++[y]) (Jb++[y]):=by
 refine⟨?_,?_,?_,?_,?_,?_⟩;rw[nodup_append];exact⟨h.nd,i_,λa ha b hb e=>by simp only[K7]at hb;subst hb;subst e;exact U ha⟩;intro z H;simp only[K5,K7]at H;rcases H with h1|rfl;exact h.come z h1;rcases h.at_ with rfl|h2;exact .one J;exact .step (h.come _ h2) J;rcases h.at_ with h1|h1;exact .inl h1;exact .inr (mem_append_left _ h1);intro z H;simp only[K5,K7]at H⊢;rcases H with h1|rfl;rcases h.sub z h1 with h2|h2;exact .inl h2;exact .inr (.inl h2);exact .inr (.inr rfl);intro z H I Jd q O;simp only[K5,K7,not_or]at H I;have h3:z=f\/z∈Jc:=by rcases H with h1|h1|h1;exact .inl h1;exact .inr h1;exact absurd h1 I.2
 exact mem_append_left _ (h.shut z h3 I.1 Jd q O);intro z H;simp only[K5,K7]at H⊢;rcases H with h1|rfl;exact .inl (h.part z h1);exact .inr rfl
def j1.done{t:Tr}{f x:Nat}{Jc Jb Ja:List Nat}(h:j1 t f x Jc Jb Ja)(H:∀y,gu t x y->y∈Jc):RInv t f Jb Ja:=by refine⟨h.nd,h.come,h.sub,λz hz hn y hy=>?_⟩;by_cases e:z=x;subst e;exact h.part y (H y hy);exact h.shut z hz hn e y hy
def RInv.all{t:Tr}{f:Nat}{out:List Nat}(h:RInv t f out [])(g:Nat):g∈out↔gL t f g:=
 ⟨λhg=>h.come g hg,λhg=>gL.sub (S:=λg=>g∈out) (λg hg=>h.shut f (.inl rfl) i_ g hg) (λg k hg hk=>h.shut g (.inr hg) i_ k hk) hg⟩
theorem uZ(n:Nat):∀ {l:List Nat},l.Nodup->(∀x∈l,x<n)->l.length<=n:=by
 induction n with
 | zero=>
  intro l h H;cases l with
  | nil=>simp
  | cons x r=>have:=H x i_;omega
 | succ n ih=>
  intro l h H;by_cases hm:n∈l;have I:=ih (h.erase n) (λx hx=>by
   have h2:=(h.mem_erase_iff).1 hx;have:=H x h2.2
   have:=h2.1
   omega)
  rw[length_erase_of_mem hm]at I;omega;have I:=ih h (λx hx=>by
   have:=H x hx
   have:x≠n:=λe=>hm (e ▸ hx)
   omega)
  omega
def j1.len{t:Tr}{f x:Nat}{done out work:List Nat}(h:j1 t f x done out work):out.length<=t.fc.length:=uZ _ h.nd (λx hx=>(h.come x hx).lt)
def RInv.lt{t:Tr}{f:Nat}{Jb Ja:List Nat}(h:RInv t f Jb Ja)(I:f<t.fc.length):∀x∈Ja,x<t.fc.length:=by intro x H;rcases h.sub x H with rfl|h1;exact I;exact(h.come x h1).lt
section
variable{t:Tr}{seen sc tk:List IF}{g:Gl}{r gs:List Gl}{i:Int}{f:Fu}{s:St}{p:IF}
def pt(h:co t=false):aL t=(1,-1,-1):=by unfold aL;rw[if_pos h]
def j2(h:co t=true)(H:(dQ t).1≠0):aL t=dQ t:=by unfold aL;rw[if_neg (by simp[h]),if_pos H]
def lQ(h:co t=true)(H:(dQ t).1=0)(I:(bodiesE t 0 t.fc).1≠0):aL t=bodiesE t 0 t.fc:=by unfold aL;rw[if_neg (by simp[h]),if_neg (by simp[H]),if_pos I]
def pu(h:co t=true)(J:(dQ t).1=0)(I:(bodiesE t 0 t.fc).1=0){m:Nat}(H:bU t.fc mainS=some m):aL t=dK t m 0 t.fc.length:=by unfold aL;rw[if_neg (by simp[h]),if_neg (by simp[J]),if_neg (by simp[I]),H];rfl
def br{g a b:Nat}(h:a≠b):(⟨g,a,none⟩:Addr)≠⟨g,b,none⟩:=λe=>by simp[h]at e
def jy{α:Type}(l:List α)(j:Nat)(h:j<l.length):l.drop j=l[j]::l.drop (j+1):=(getElem_cons_drop h).symm
def D6(h:fT seen g.nm=true):jw seen (g::r)=true:=by rw[jw,if_pos h]
def BA(h:fT seen g.nm=false):jw seen (g::r)=jw (seen++[g.nm]) r:=by rw[jw,if_neg (by simp[h])]
def D7{r:List Fu}(h:fT seen f.nm=true):j0 seen i (f::r)=some i:=by rw[j0,if_pos h]
def BB{r:List Fu}(h:fT seen f.nm=false):j0 seen i (f::r)=j0 (seen++[f.nm]) (i+1) r:=by rw[j0,if_neg (by simp[h])]
def aC{a b:BY}(h:a=b):Ending.returned a=rW b:=by rw[h]
def yg(h:exprE t sc (s.e++s.f)≠0):stmtE t sc tk s=exprE t sc (s.e++s.f):=by unfold stmtE;rw[if_pos h]
def pw(h:exprE t sc (s.e++s.f)=0)(H:s.kd=1):stmtE t sc tk s=if fT tk s.nm=true\/0<=globI t.gl s.nm then 2 else 0:=by unfold stmtE;rw[if_neg (by simp[h]),if_pos H]
def rP(h:exprE t sc (s.e++s.f)=0)(H:s.kd=2\/s.kd=3):stmtE t sc tk s=pq t.gl sc s.nm (decide (s.kd=3)):=by unfold stmtE;rw[if_neg (by simp[h]),if_neg o_,if_pos H]
def yh(h:exprE t sc (s.e++s.f)=0)(H:s.kd≠1)(h2:s.kd≠2)(h3:s.kd≠3):stmtE t sc tk s=0:=by unfold stmtE;rw[if_neg (by simp[h]),if_neg H,if_neg o_]
def D8{r:List IF}(h:fT seen p=true\/0<=globI gs p):jx gs seen (p::r)=true:=by unfold jx;rw[if_pos h]
def BC{r:List IF}(h:¬(fT seen p=true\/0<=globI gs p)):jx gs seen (p::r)=jx gs (seen++[p]) r:=by rw[jx,if_neg h]
def D9(gs:List Gl)(seen:List IF):jx gs seen []=false:=rfl
def Kf(f:Fu):Prop:=cD f.bd=true/\(∀s∈f.bd,lq s)/\(∀s∈f.bd,uO s)/\(∀s∈f.pm,s.size<=9223372036854775807)/\f.pm.length<=1000/\f.bd.length<=1000
end
section
variable{t:Tr}{s:St}{r:List St}{a:Int}{sc tk tk1:List IF}
def ff(s:St)(sc:List IF):List IF:=if s.kd=1 then sc++[s.nm]else sc
def u_(h:stmtE t sc tk s≠0):bC t (s::r) a sc tk=(stmtE t sc tk s,a,tk):=by (first | rw [bC_cons] | rw [bC_nil0]);simp only[h,ne_eq,not_false_eq_true,if_true]
def rQ(h:stmtE t sc tk s=0)(H:(bC t (r.take s.th.toNat) (a+1) (ff s sc) (ff s tk)).1≠0):bC t (s::r) a sc tk=bC t (r.take s.th.toNat) (a+1) (ff s sc) (ff s tk):=by unfold ff at H⊢;(first | rw [bC_cons] | rw [bC_nil0]);simp only[h,ne_eq,not_true_eq_false,if_false,H,not_false_eq_true,if_true]
def rR(h:stmtE t sc tk s=0)(I:(bC t (r.take s.th.toNat) (a+1) (ff s sc) (ff s tk)).1=0)(Ja:tk1=(bC t (r.take s.th.toNat) (a+1) (ff s sc) (ff s tk)).2.2)
  (H:(bC t ((r.drop s.th.toNat).take s.el.toNat) (a+1+s.th) (ff s sc) tk1).1≠0):bC t (s::r) a sc tk=bC t ((r.drop s.th.toNat).take s.el.toNat) (a+1+s.th) (ff s sc) tk1:=by
 subst Ja;unfold ff at I H⊢;(first | rw [bC_cons] | rw [bC_nil0]);simp only[h,ne_eq,not_true_eq_false,if_false,I,H,not_false_eq_true,if_true]
def rS{tk2:List IF}(h:stmtE t sc tk s=0)(I:(bC t (r.take s.th.toNat) (a+1) (ff s sc) (ff s tk)).1=0)(Jb:tk1=(bC t (r.take s.th.toNat) (a+1) (ff s sc) (ff s tk)).2.2)
  (H:(bC t ((r.drop s.th.toNat).take s.el.toNat) (a+1+s.th) (ff s sc) tk1).1=0) (Ja:tk2=(bC t ((r.drop s.th.toNat).take s.el.toNat) (a+1+s.th) (ff s sc) tk1).2.2):bC t (s::r) a sc tk=bC t (r.drop (s.th.toNat+s.el.toNat)) (a+1+s.th+s.el) (ff s sc) tk2:=by
 subst Jb Ja;unfold ff at I H⊢;(first | rw [bC_cons] | rw [bC_nil0]);simp only[h,ne_eq,not_true_eq_false,if_false,I,H]
def lR(t:Tr)(a:Int)(h tk:List IF):bC t [] a h tk=(0,0,tk):=by (first | rw [bC_cons] | rw [bC_nil0])
def Av(h:s.kd=1)(l:List IF):ff s l=l++[s.nm]:=if_pos h
def mL(h:s.kd≠1)(l:List IF):ff s l=l:=if_neg h
def tJ(s:St)(tk:List IF):(ff s tk).length<=tk.length+1:=by unfold ff;split <;> simp
theorem vd(t:Tr)(n:Nat):∀(ss:List St) (a:Int) (sc tk:List IF),ss.length<=n->(bC t ss a sc tk).2.2.length<=tk.length+ss.length:=by
 induction n with
 | zero=>intro ss a sc tk h;obtain rfl:ss=[]:=K1 o_;simp[lR]
 | succ n ih=>
  intro ss a sc tk h;cases ss with
  | nil=>simp[lR]
  | cons s r=>
   simp only[l_c]at h⊢;by_cases h1:stmtE t sc tk s=0;have H:=ih (r.take s.th.toNat) (a+1) (ff s sc) (ff s tk) Do;have O:=tJ s tk;have U:(r.take s.th.toNat).length=min s.th.toNat r.length:=i_;by_cases h2:(bC t (r.take s.th.toNat) (a+1) (ff s sc) (ff s tk)).1=0
   have⟨Jc,Ja⟩:=q_ ((bC t (r.take s.th.toNat) (a+1) (ff s sc) (ff s tk)).2.2);have I:=ih ((r.drop s.th.toNat).take s.el.toNat) (a+1+s.th) (ff s sc) Jc Do;have X:((r.drop s.th.toNat).take s.el.toNat).length=min s.el.toNat (r.length-s.th.toNat):=i_
   rw[<-Ja]at H;by_cases h3:(bC t ((r.drop s.th.toNat).take s.el.toNat) (a+1+s.th) (ff s sc) Jc).1=0
   have⟨Jd,Jb⟩:=q_ ((bC t ((r.drop s.th.toNat).take s.el.toNat) (a+1+s.th) (ff s sc) Jc).2.2);rw[<-Jb]at I;have J:=ih (r.drop (s.th.toNat+s.el.toNat)) (a+1+s.th+s.el) (ff s sc) Jd Do;rw[rS h1 h2 Ja h3 Jb];simp only[length_drop]at J;omega
   rw[rR h1 h2 Ja h3];omega;rw[rQ h1 h2];omega;rw[u_ h1];simp
def Ea(Ja:List (List IF))(h:List IF)(s:St):(Ja++[ff s h]).flatten=ff s (Ja++[h]).flatten:=by unfold ff;split <;> simp
def Eb(Ja:List (List IF)):(Ja++[[]]).flatten=Ja.flatten:=by simp
end
section
open Go.RowKit
variable{t:Tr}
def MM{w:AT}{b:Nat}{u0 u1 u2 O H h:BY}(X:Bo w b 0 O)(U:Bo w b 1 H)(h2:Bo w b 2 h):
  Bo (((w.setCell ⟨b,0,none⟩ u0).setCell ⟨b,1,none⟩ u1).setCell ⟨b,2,none⟩ u2) b 0 u0/\Bo (((w.setCell ⟨b,0,none⟩ u0).setCell ⟨b,1,none⟩ u1).setCell ⟨b,2,none⟩ u2) b 1 u1/\Bo (((w.setCell ⟨b,0,none⟩ u0).setCell ⟨b,1,none⟩ u1).setCell ⟨b,2,none⟩ u2) b 2 u2:=by
 have J:Bo (w.setCell ⟨b,0,none⟩ u0) b 1 H:=(s_ _ _ _ _ (br d_)).trans U;have I:Bo ((w.setCell ⟨b,0,none⟩ u0).setCell ⟨b,1,none⟩ u1) b 2 h:=(s_ _ _ _ _ (br d_)).trans ((s_ _ _ _ _ (br d_)).trans h2);exact⟨(s_ _ _ _ _ (br d_)).trans ((s_ _ _ _ _ (br d_)).trans (cell?_setCell_same _ _ _ X)),(s_ _ _ _ _ (br d_)).trans (cell?_setCell_same _ _ _ J),cell?_setCell_same _ _ _ I⟩
end
def yi{t:Tr}(h:(aL t).1=0):co t=true:=by unfold aL at h;by_cases h1:co t=false;rw[if_pos h1]at h;cases h;simpa using h1
section
variable{t:Tr}
theorem gL.trans{t:Tr}{a b c:Nat}(h:gL t a b)(h':gL t b c):gL t a c:= by
  induction h' using gL_i with
  | one h1=>exact .step h h1
  | step _ h1 ih=>exact .step ih h1
def Kh(t:Tr)(m:Nat):Prop:=∀x,(x=m\/gL t m x)->¬gL t x x
theorem rT:∀ (l l':List Nat), l.Nodup -> (∀ x∈l, x∈l') -> l.length ≤ l'.length
  | [], _, _, _=>by simp
  | a :: r, l', hn, hs=>by have ha:= hs a i_;have hn':= nodup_cons.1 hn;have:= rT r (l'.erase a) hn'.2 (λx hx=>(mem_erase_of_ne (by rintro rfl; exact hn'.1 hx)).2 (hs x (by simp[hx])));rw[length_erase_of_mem ha]at this;have hp:0<l'.length:= length_pos_of_mem ha;simp only[length_cons];omega
theorem px{t:Tr}{m:Nat}:∀(n i:Nat),(dK t m i n).1=0->∀x,i<=x->x<i+n->(x=m\/gL t m x)->¬gL t x x
 | 0,i,_,x,h1,h2,_=>by omega
 | n+1,i,h,x,h1,h2,hx=>by
  rw[dK]at h;by_cases hz:(i=m\/gL t m i)/\gL t i i;rw[if_pos hz]at h;simp at h;rw[if_neg hz]at h;by_cases e:x=i;subst e;exact λhr=>hz ⟨hx,hr⟩
  exact px n (i+1) h x o_ o_ hx
end
section
variable{t:Tr}{m i n:Nat}
def iT(t:Tr):Int×Int×Int:=if jw [] t.gl then(2,-1,-1)else match j0 (t.gl.map (·.nm)) 0 t.fc with|some i=>(2,i,-1)|none=>(0,-1,-1)
structure P0 (t:Tr):Prop where
 gl:t.gl.length<=50
 fl:t.fc.length<=50
 g:∀g∈t.gl,g.nm.size<=9223372036854775807/\0<=g.size/\g.size<=4000
 f:∀f∈t.fc,Kf f
 fn:∀f∈t.fc,f.nm.size<=9223372036854775807
 sm:∀f∈t.fc,iP f
 wf:Bp t.fc
def P1(h:co t=true)(I:eK t)(H:xL t):P0 t:=by
 unfold co at h;simp only[Io,decide_eq_true_iff,all_eq_true]at h;obtain⟨J,h2,h3,h4⟩:=h;refine⟨J,h2,λg hg=>?_,λf hf=>?_,λf hf=>(H.2.2 f hf).1,I.2.2,H.2⟩
 have:=h3 g hg
 unfold fN at this;simp only[Io,decide_eq_true_iff]at this;exact⟨H.1.2 g hg,this.2.1,this.2.2⟩
 have:=h4 f hf
 unfold funcB at this;simp only[Io,decide_eq_true_iff]at this;have Jb:=I.2.2 f hf;have Ja:=H.2.2 f hf;exact⟨this.2.2.2.2.2,Jb.2.2,Ja.2.2.2,Ja.2.1.2,o_,o_⟩
def nM(t:Tr):Int:=match bU t.fc mainS with|none=>3|some m=>if (t.fc.getD m ⟨⟨#[]⟩,[],[]⟩).pm.length>0 then 3 else 0
theorem rU(h:(iT t).1≠0):dQ t=iT t:=by
 unfold iT at h⊢;unfold dQ;split;rfl;rename_i hd;rw[if_neg hd]at h;cases hq:j0 (t.gl.map (·.nm)) 0 t.fc with
 | some i=>rfl
 | none=>rw[hq]at h;simp at h
theorem lw(h:(iT t).1=0):dQ t=(nM t,-1,-1):=by
 unfold iT at h;unfold dQ nM;split;rename_i hd;rw[if_pos hd]at h;simp at h;rename_i hd;rw[if_neg hd]at h;cases hq:j0 (t.gl.map (·.nm)) 0 t.fc with
 | some i=>rw[hq]at h;simp at h
 | none=>
  simp only;cases bU t.fc mainS with
  | none=>rfl
  | some m=>simp only;split <;> rfl
theorem rX(h:nM t=0):∃m,bU t.fc mainS=some m:=by
 unfold nM at h;cases hm:bU t.fc mainS with
 | none=>rw[hm]at h;simp at h
 | some m=>exact⟨m,rfl⟩
def rY(h:(i=m\/gL t m i)/\gL t i i):dK t m i (n+1)=(7,(i:Int),-1):=by rw[dK,@if_pos _ (pdQ _) h]
def lx(h:¬((i=m\/gL t m i)/\gL t i i)):dK t m i (n+1)=dK t m (i+1) n:=by rw[dK,@if_neg _ (pdQ _) h]
end
end Go.Proofs.YtngnoopnloojjaaGreatDoor
