import Derived.WalkSpells
import Derived.BigQuiet
import Derived.Test.YtjfmapphpijneaaGreatDoorS22
variable [Inhabited Go.Proofs.YtjfmapphpijneaaGreatDoor.Pick]
namespace Go.Proofs.YtjfmapphpijneaaGreatDoor
open List
open Go.RowKit
set_option linter.all false
set_option maxRecDepth 100000
set_option maxHeartbeats 0
variable{w w':AT}{S S':Ft}{v:BY}{r:List Nd}
def gy(w:AT)(S:Ft)(v:BY)(A:Nat)(vs:Nat->BY):Prop:=∃a cap,v=.slice a A cap/\A<=cap/\cap<=9223372036854775807/\(0<A->∃B,a=some ⟨B,0,none⟩/\S B/\∀i,i<A->w.cell? ⟨B,i,none⟩=some (vs i))
structure TvC (w:AT)(S:Ft)(P:BY->List Nd->Prop):Prop where
 c_::
 num:∀v,P (.iface 157 (.agg #[.int .i64 v])) [⟨1,v,⟨#[]⟩⟩]
 var:∀s,P (.iface 199 (.agg #[.string s])) [⟨2,0,s⟩]
 index:∀s x r,P x r->P (.iface 201 (.agg #[.string s,x])) (r++[⟨3,0,s⟩])
 call:∀s ar A(vs:Nat->BY)(F:Nat->List Nd),gy w S ar A vs->(∀i,i<A->P (vs i) (F i))->P (.iface 203 (.agg #[.string s,ar])) (joinF F A++[⟨4,A,s⟩])
 inn:P (.iface 212 (.agg #[])) [⟨5,0,⟨#[]⟩⟩]
 un:∀op x r,P x r->P (.iface 205 (.agg #[.int .i64 op,x])) (r++[⟨6,op,⟨#[]⟩⟩])
 bin:∀op x y r t,P x r->P y t->P (.iface 207 (.agg #[.int .i64 op,x,y])) (r++t++[⟨7,op,⟨#[]⟩⟩])
 and:∀x y r t,P x r->P y t->P (.iface 209 (.agg #[x,y])) (r++t++[⟨8,0,⟨#[]⟩⟩])
 or:∀x y r t,P x r->P y t->P (.iface 210 (.agg #[x,y])) (r++t++[⟨9,0,⟨#[]⟩⟩])
structure Tv (w:AT)(S:Ft)(a0:BY)(a1:List Nd):Prop where
 c_::
 out:∀P,TvC w S P->P a0 a1
theorem Tv.C{w:AT}{S:Ft}:TvC w S (Tv w S):=⟨λv=>⟨λP h=>h.num v⟩,
 λs=>⟨λP h=>h.var s⟩,
 λs x r q0=>⟨λP h=>h.index s x r (q0.out P h)⟩,
 λs ar A vs F q0 q1=>⟨λP h=>h.call s ar A vs F q0 (λi o0=>(q1 i o0).out P h)⟩,
 ⟨λP h=>h.inn⟩,
 λop x r q0=>⟨λP h=>h.un op x r (q0.out P h)⟩,
 λop x y r t q0 q1=>⟨λP h=>h.bin op x y r t (q0.out P h) (q1.out P h)⟩,
 λx y r t q0 q1=>⟨λP h=>h.and x y r t (q0.out P h) (q1.out P h)⟩,
 λx y r t q0 q1=>⟨λP h=>h.or x y r t (q0.out P h) (q1.out P h)⟩⟩
abbrev Tv.num {w S}:=(Tv.C:TvC w S _).num
abbrev Tv.var {w S}:=(Tv.C:TvC w S _).var
abbrev Tv.index {w S}:=(Tv.C:TvC w S _).index
abbrev Tv.call {w S}:=(Tv.C:TvC w S _).call
abbrev Tv.inn {w S}:=(Tv.C:TvC w S _).inn
abbrev Tv.un {w S}:=(Tv.C:TvC w S _).un
abbrev Tv.bin {w S}:=(Tv.C:TvC w S _).bin
abbrev Tv.and {w S}:=(Tv.C:TvC w S _).and
abbrev Tv.or {w S}:=(Tv.C:TvC w S _).or
theorem Tv_i{w:AT}{S:Ft}{M:∀(a0:BY)(a1:List Nd),Tv w S a0 a1->Prop}
 (num:∀v,∀u,M (.iface 157 (.agg #[.int .i64 v])) [⟨1,v,⟨#[]⟩⟩] u)
 (var:∀s,∀u,M (.iface 199 (.agg #[.string s])) [⟨2,0,s⟩] u)
 (index:∀s x r,∀q0:Tv w S x r,M x r q0->∀u,M (.iface 201 (.agg #[.string s,x])) (r++[⟨3,0,s⟩]) u)
 (call:∀s ar A(vs:Nat->BY)(F:Nat->List Nd),gy w S ar A vs->∀q1:∀i,i<A->Tv w S (vs i) (F i),(∀ i (o0 : i<A),M (vs i) (F i) (q1 i o0))->∀u,M (.iface 203 (.agg #[.string s,ar])) (joinF F A++[⟨4,A,s⟩]) u)
 (inn:∀u,M (.iface 212 (.agg #[])) [⟨5,0,⟨#[]⟩⟩] u)
 (un:∀op x r,∀q0:Tv w S x r,M x r q0->∀u,M (.iface 205 (.agg #[.int .i64 op,x])) (r++[⟨6,op,⟨#[]⟩⟩]) u)
 (bin:∀op x y r t,∀q0:Tv w S x r,∀q1:Tv w S y t,M x r q0->M y t q1->∀u,M (.iface 207 (.agg #[.int .i64 op,x,y])) (r++t++[⟨7,op,⟨#[]⟩⟩]) u)
 (and:∀x y r t,∀q0:Tv w S x r,∀q1:Tv w S y t,M x r q0->M y t q1->∀u,M (.iface 209 (.agg #[x,y])) (r++t++[⟨8,0,⟨#[]⟩⟩]) u)
 (or:∀x y r t,∀q0:Tv w S x r,∀q1:Tv w S y t,M x r q0->M y t q1->∀u,M (.iface 210 (.agg #[x,y])) (r++t++[⟨9,0,⟨#[]⟩⟩]) u)
 {a0:BY}{a1:List Nd}(u:Tv w S a0 a1):M a0 a1 u:=
 (u.out (λa0 a1=>∃z_,M a0 a1 z_) ⟨λv=>⟨.num v,num v _⟩,
 λs=>⟨.var s,var s _⟩,
 λs x r q0=>⟨.index s x r q0.1,index s x r _ q0.2 _⟩,
 λs ar A vs F q0 q1=>⟨.call s ar A vs F q0 (λi o0=>(q1 i o0).1),call s ar A vs F q0 _ (λi o0=>(q1 i o0).2) _⟩,
 ⟨.inn,inn _⟩,
 λop x r q0=>⟨.un op x r q0.1,un op x r _ q0.2 _⟩,
 λop x y r t q0 q1=>⟨.bin op x y r t q0.1 q1.1,bin op x y r t _ _ q0.2 q1.2 _⟩,
 λx y r t q0 q1=>⟨.and x y r t q0.1 q1.1,and x y r t _ _ q0.2 q1.2 _⟩,
 λx y r t q0 q1=>⟨.or x y r t q0.1 q1.1,or x y r t _ _ q0.2 q1.2 _⟩⟩).2
def gy.keep{A:Nat}{vs:Nat->BY}(h:gy w S v A vs)(hS:∀B,S B->S' B)(Z:∀B,S B->w'.heap[B]? =w.heap[B]?):gy w' S' v A vs:=by obtain⟨a,Ja,rfl,J,h2,h⟩:=h;refine⟨a,Ja,rfl,J,h2,λh0=>?_⟩;obtain⟨B,rfl,I,U⟩:=h h0;exact⟨B,rfl,hS B I,λi hi=>(c_ (a:=⟨B,i,none⟩) (Z B I)).trans (U i hi)⟩
theorem Tv.keep(h:Tv w S v r)(J:∀B,S B->S' B)(I:∀B,S B->w'.heap[B]? =w.heap[B]?):Tv w' S' v r:=by
 induction h using Tv_i with
 | num v=>exact .num v
 | var s=>exact .var s
 | index s x r _ ih=>exact .index s x r ih
 | call s ar A vs F ha _ ih=>exact .call s ar A vs F (ha.keep J I) ih
 | inn=>exact .inn
 | un op x r _ ih=>exact .un op x r ih
 | bin op x y r t _ _ ih1 ih2=>exact .bin op x y r t ih1 ih2
 | and x y r t _ _ ih1 ih2=>exact .and x y r t ih1 ih2
 | or x y r t _ _ ih1 ih2=>exact .or x y r t ih1 ih2
def Tv.pos(h:Tv w S v r):0<r.length:=by cases h using Tv_i <;> simp <;> omega
def Tv.isI(h:Tv w S v r):∃t x,v=.iface t x:=by cases h using Tv_i <;> exact⟨_,_,rfl⟩
theorem Tv.some{x:Int}(h:Tv w S v r)(I:dY r=some x):v=.iface 157 (.agg #[V x]):=by
 cases h using Tv_i with
 | num v=>simp[dY]at I;rw[I]
 | var s=>simp[dY]at I
 | index s x r h=>exfalso;have:=h.pos;cases r with
  | nil=>simp at this
  | cons a l=>cases l <;> simp[dY]at I
 | call s ar A vs F _ _=>exfalso;cases hj:joinF F A with
  | nil=>rw[hj]at I;simp[dY]at I
  | cons a l=>rw[hj]at I;cases l <;> simp[dY]at I
 | inn=>simp[dY]at I
 | un op x r h=>exfalso;have:=h.pos;cases r with
  | nil=>simp at this
  | cons a l=>cases l <;> simp[dY]at I
 | bin op x y r t h1 h2=>exfalso;have:=h1.pos;cases r with
  | nil=>simp at this
  | cons a l=>cases l <;> cases t <;> simp[dY]at I
 | and x y r t h1 h2=>exfalso;have:=h1.pos;cases r with
  | nil=>simp at this
  | cons a l=>cases l <;> cases t <;> simp[dY]at I
 | or x y r t h1 h2=>exfalso;have:=h1.pos;cases r with
  | nil=>simp at this
  | cons a l=>cases l <;> cases t <;> simp[dY]at I
theorem Tv.none(h:Tv w S v r)(I:dY r=none):∃t x,v=.iface t x/\t≠157:=by
 cases h using Tv_i with
 | num v=>simp[dY]at I
 | _=>exact⟨_,_,rfl,d_⟩
end Go.Proofs.YtjfmapphpijneaaGreatDoor
namespace Go.Proofs.YtjfmapphpijneaaGreatDoor
open List
open Go.Proofs.Tryz
set_option linter.all false
set_option maxRecDepth 100000
set_option maxHeartbeats 0
section
open Go.RowKit
def Tv.bel{w w':AT}{S:Ft}{v:BY}{r:List Nd}(h:Tv w S v r)(hS:∀B,S B->B<w.heap.size)(hb:Bl w w'):Tv w' S v r:=h.keep (λ_ h=>h) (λB hB=>hb.block B (hS B hB))
theorem Gi{s:Io}(h:s.toList=[]):s=⟨#[]⟩:=by
 have J:∀(n:Nat) (i:Nat) (r:List UInt8),s.size-i=n->ByteArray.toList.loop s i r=[]->r=[]:=by
  intro n;induction n with
  | zero=>intro i r U h;rw[ByteArray.toList.loop,if_neg o_]at h;simpa using h
  | succ n ih=>intro i r U h;rw[ByteArray.toList.loop,if_pos o_]at h;have:=ih (i+1) _ o_ h;simp at this
 have I:s.size=0:=by rcases Nat.eq_zero_or_pos s.size with I|hp;exact I;rw[ByteArray.toList,ByteArray.toList.loop,if_pos hp]at h;have:=J _ _ _ rfl h;simp at this
 apply ByteArray.ext;exact Array.eq_empty_of_size_eq_zero I
def qX{n:Nd}(h:aJ n=true):(n.kd=1\/n.kd=5\/n.kd=6\/n.kd=7\/n.kd=8\/n.kd=9->n.nm=⟨#[]⟩)/\(n.kd=2\/n.kd=3\/n.kd=5\/n.kd=8\/n.kd=9->n.val=0):=by
 unfold aJ at h;refine⟨λhk=>?_,λhk=>?_⟩;apply Gi;rcases hk with hk|hk|hk|hk|hk|hk <;> (simp[hk]at h;exact h.2)
 rcases hk with hk|hk|hk|hk|hk <;> (simp[hk]at h;exact h.1)
def jC(n:Nd)(ar:BY)(vs:Nat->BY):BY:=
 if n.kd=1 then .iface 157 (.agg #[V n.val])
 else if n.kd=2 then .iface 199 (.agg #[sV n.nm])
 else if n.kd=3 then .iface 201 (.agg #[sV n.nm,vs 0])
 else if n.kd=4 then .iface 203 (.agg #[sV n.nm,ar])
 else if n.kd=6 then .iface 205 (.agg #[V n.val,vs 0])
 else if n.kd=7 then .iface 207 (.agg #[V n.val,vs 0,vs 1])
 else if n.kd=8 then .iface 209 (.agg #[vs 0,vs 1])
 else if n.kd=9 then .iface 210 (.agg #[vs 0,vs 1])
 else .iface 212 (.agg #[])
def oY(n:Nd)(hn:aJ n=true)(A:Nat)(hA:arity n=A)(S:Ft)(ar:BY)(vs:Nat->BY)(w:AT)(ha:gy w S ar A vs)(hI:∀i,i<A->∃t x,vs i=.iface t x):
  Calls prog 91 #[.agg #[V n.kd,V n.val,sV n.nm],ar] w λe w'=>e=rW (jC n ar vs)/\Bl w w':=by
 have Jd:=gO hn;obtain⟨Z,nv,nm⟩:=n;obtain⟨a,Jb,rfl,Jf,Je,hc⟩:=ha;simp only at Jd⊢;have hk:Z=1\/Z=2\/Z=3\/Z=4\/Z=5\/Z=6\/Z=7\/Z=8\/Z=9:=o_;have I:∀o,Bl w (w.alloc o):=λo=>r_.alloc n_ o;rcases hk with rfl|rfl|rfl|rfl|rfl|rfl|rfl|rfl|rfl
 ·go_in;go_wp2;go_ret;exact⟨rfl,I _⟩
 ·go_in;go_wp2;go_ret;exact⟨rfl,I _⟩
 ·have e1:A=1:=by simp[arity]at hA;omega
  subst e1;obtain⟨B,rfl,-,Ja⟩:=hc o_;have Jc:=b_ (Ja 0 o_);have q0:∀o,DO (w.alloc o) B 0 (vs 0):=λo=>((I o).cell (p:=⟨B,0,none⟩) Jc).trans (Ja 0 o_);have⟨t0,x0,U⟩:=hI 0 o_;have J:Hid (jC ⟨3,nv,nm⟩ (rV B 1 Jb) vs=.iface 201 (.agg #[sV nm,vs 0])):=rfl;rw[J.o];rw[U]at q0⊢;go_in;go_wp2_with fail;go_quiet (fail)
  go_wp2;go_ret;exact⟨rfl,below_drewN (I _) _⟩
 ·have J:Hid (jC ⟨4,nv,nm⟩ (.slice a A Jb) vs=.iface 203 (.agg #[sV nm,.slice a A Jb])):=rfl;rw[J.o];go_in;go_wp2;go_ret;exact⟨rfl,I _⟩
 ·go_in;go_wp2;go_ret;exact⟨rfl,I _⟩
 ·have e1:A=1:=by simp[arity]at hA;omega
  subst e1;obtain⟨B,rfl,-,Ja⟩:=hc o_;have Jc:=b_ (Ja 0 o_);have q0:∀o,DO (w.alloc o) B 0 (vs 0):=λo=>((I o).cell (p:=⟨B,0,none⟩) Jc).trans (Ja 0 o_);have⟨t0,x0,U⟩:=hI 0 o_;have J:Hid (jC ⟨6,nv,nm⟩ (rV B 1 Jb) vs=.iface 205 (.agg #[V nv,vs 0])):=rfl;rw[J.o];rw[U]at q0⊢;go_in;go_wp2_with fail;go_quiet (fail)
  go_wp2;go_ret;exact⟨rfl,below_drewN (I _) _⟩
 all_goals
  have e1:A=2:=by simp[arity]at hA;omega
  subst e1;obtain⟨B,rfl,-,Ja⟩:=hc o_;have Jc:=b_ (Ja 0 o_);have q0:∀o,DO (w.alloc o) B 0 (vs 0):=λo=>((I o).cell (p:=⟨B,0,none⟩) Jc).trans (Ja 0 o_);have q1:∀o,DO (w.alloc o) B 1 (vs 1):=λo=>((I o).cell (p:=⟨B,1,none⟩) Jc).trans (Ja 1 o_);have⟨t0,x0,U⟩:=hI 0 o_;have⟨t1,x1,h1⟩:=hI 1 o_
 ·have J:Hid (jC ⟨7,nv,nm⟩ (rV B 2 Jb) vs=.iface 207 (.agg #[V nv,vs 0,vs 1])):=rfl;rw[J.o];rw[U]at q0;rw[h1]at q1;rw[U,h1];go_in;go_wp2_with fail;go_quiet (fail)
  go_wp2;go_ret;exact⟨rfl,below_drewN (I _) _⟩
 ·have J:Hid (jC ⟨8,nv,nm⟩ (rV B 2 Jb) vs=.iface 209 (.agg #[vs 0,vs 1])):=rfl;rw[J.o];rw[U]at q0;rw[h1]at q1;rw[U,h1];go_in;go_wp2_with fail;go_quiet (fail)
  go_wp2;go_ret;exact⟨rfl,below_drewN (I _) _⟩
 have J:Hid (jC ⟨9,nv,nm⟩ (rV B 2 Jb) vs=.iface 210 (.agg #[vs 0,vs 1])):=rfl;rw[J.o];rw[U]at q0;rw[h1]at q1;rw[U,h1];go_in;go_wp2_with fail;go_quiet (fail);go_wp2;go_ret;exact⟨rfl,below_drewN (I _) _⟩
def IQ(n:Nd)(hn:aJ n=true)(A:Nat)(U:arity n=A)(w:AT)(S:Ft)(ar:BY)(vs:Nat->BY)(F:Nat->List Nd)(ha:gy w S ar A vs)(J:∀i,i<A->Tv w S (vs i) (F i)):Tv w S (jC n ar vs) (joinF F A++[n]):=by
 have Jc:=gO hn;have⟨Ja,Jb⟩:=qX hn;obtain⟨I,Z,nm⟩:=n;simp only at Jc Ja Jb;have hk:I=1\/I=2\/I=3\/I=4\/I=5\/I=6\/I=7\/I=8\/I=9:=o_;rcases hk with rfl|rfl|rfl|rfl|rfl|rfl|rfl|rfl|rfl;obtain rfl:=Ja o_;have h:A=0:=by simp[arity]at U;omega
 subst h;exact .num Z;obtain rfl:=Jb o_;have h:A=0:=by simp[arity]at U;omega
 subst h;exact .var nm;obtain rfl:=Jb o_;have h:A=1:=by simp[arity]at U;omega
 subst h;exact .index nm _ _ (J 0 o_);have h:Z=A:=by simp[arity]at U;omega
 subst h;exact .call nm ar A vs F ha J;obtain rfl:=Ja o_;obtain rfl:=Jb o_;have h:A=0:=by simp[arity]at U;omega
 subst h;exact .inn;obtain rfl:=Ja o_;have h:A=1:=by simp[arity]at U;omega
 subst h;exact .un Z _ _ (J 0 o_);obtain rfl:=Ja o_;have h:A=2:=by simp[arity]at U;omega
 subst h;exact .bin Z _ _ _ _ (J 0 o_) (J 1 o_);obtain rfl:=Ja o_;obtain rfl:=Jb o_;have h:A=2:=by simp[arity]at U;omega
 subst h;exact .and _ _ _ _ (J 0 o_) (J 1 o_);obtain rfl:=Ja o_;obtain rfl:=Jb o_;have h:A=2:=by simp[arity]at U;omega
 subst h;exact .or _ _ _ _ (J 0 o_) (J 1 o_)
end
section
open Go.RowKit
variable{w w':AT}{v:BY}{l:List Int}{N n:Nat}{xs:List BY}
def Ints(w:AT)(v:BY)(l:List Int):Prop:=∃a cap,v=.slice a l.length cap/\(0<l.length->∃b,a=some ⟨b,0,none⟩/\∀j (h:j<l.length),w.cell? ⟨b,j,none⟩=some (V l[j]))
def Ints.below(h:Ints w v l)(J:Bl w w'):Ints w' v l:=by obtain⟨a,Ja,rfl,h⟩:=h;refine⟨a,Ja,rfl,λh0=>?_⟩;obtain⟨b,rfl,I⟩:=h h0;exact⟨b,rfl,λj hj=>(J.cell (p:=⟨b,j,none⟩) (b_ (I j hj))).trans (I j hj)⟩
def uw(h:w.ownsRow N 2 1 v l.length (l.map (Value.int .i64))):Ints w v l:=by
 have I:=h;obtain⟨U,h⟩:=h;rcases h with⟨rfl,J⟩|⟨g,Ja,Jb,rfl,hg,Z,Jf,Jd,Je,Jc⟩;exact⟨none,0,by rw[J],λh=>absurd h o_⟩;refine⟨_,Ja,rfl,λ_=>⟨g,rfl,λj hj=>?_⟩⟩;have:=I.cells (g:=g) rfl j (V l[j]) (by simp[hj]);have e:(⟨g,0,none⟩:Addr).add j=⟨g,j,none⟩:=by simp only[Addr.add];split <;> simp_all
 rw[e]at this;exact this
end
section
open Go.RowKit
variable{w w':AT}
def uy{s:Io}(h:bh s=true):(s.toList == [])=false:=by
 have U:=((qR s).1 h).1;have I:s.toList.length=s.size:=by rw[ByteArray.toList_eq];simp
 cases e:(s.toList == []);rfl;have J:s.toList=[]:=IN e;rw[J]at I;simp at I;omega
def CA(x y:Int)(z:Io)(w:AT):(Instr.field 81 (.agg #[V x,V y,sV z]) 0).run prog w=.ok (V x) w:=by kernel_rfl
def sA{t:JZ}{I U x2 Z J x5:BY}(h:Below (w.heap.size+1) (w.alloc (.cells #[I,U,x2,Z,J,x5] t)) w'):
  w'.cell? ⟨w.heap.size,0,none⟩=some I/\w'.cell? ⟨w.heap.size,1,none⟩=some U/\w'.cell? ⟨w.heap.size,2,none⟩=some x2/\w'.cell? ⟨w.heap.size,3,none⟩=some Z/\w'.cell? ⟨w.heap.size,4,none⟩=some J/\w'.cell? ⟨w.heap.size,5,none⟩=some x5:=by
 refine⟨?_,?_,?_,?_,?_,?_⟩ <;> (rw[h.cell i_];simp)
def aw{a:Obj}(h:Below (w.heap.size+1) (w.alloc a) w'):Bl w w':=
 (ao _ _).trans (h.mono o_)
end
section
open Go.RowKit
variable{w w':AT}{S S':Ft}{v:BY}{r ss:List St}
def bW(F:Nat->List St):Nat->List St
 | 0=>[]
 | A+1=>bW F A++F A
structure BvC (w:AT)(S:Ft)(P:BY->List St->Prop):Prop where
 c_::
 decl:∀(s:St)x,s.kd=1->Tv w S x s.e->s.th=0->s.el=0->P (.iface 164 (.agg #[.string s.nm,x])) [s]
 set:∀(s:St)x,s.kd=2->Tv w S x s.e->s.th=0->s.el=0->P (.iface 165 (.agg #[.string s.nm,x])) [s]
 store:∀(s:St)x y,s.kd=3->Tv w S x s.e->Tv w S y s.f->s.th=0->s.el=0->P (.iface 167 (.agg #[.string s.nm,x,y])) [s]
 ifs:∀(s:St)x va vb A B(vs us:Nat->BY)(F H:Nat->List St),s.kd=4->Tv w S x s.e->gy w S va A vs->(∀i,i<A->P (vs i) (F i))->gy w S vb B us->(∀i,i<B->P (us i) (H i))->s.th=(bW F A).length->s.el=(bW H B).length->P (.iface 155 (.agg #[x,va,vb])) (s::bW F A++bW H B)
 whil:∀(s:St)x va A(vs:Nat->BY)(F:Nat->List St),s.kd=5->Tv w S x s.e->gy w S va A vs->(∀i,i<A->P (vs i) (F i))->s.th=(bW F A).length->s.el=0->P (.iface 160 (.agg #[x,va])) (s::bW F A)
 ret:∀(s:St)x,s.kd=6->Tv w S x s.e->s.th=0->s.el=0->P (.iface 129 (.agg #[x])) [s]
 out:∀(s:St)x,s.kd=7->Tv w S x s.e->s.th=0->s.el=0->P (.iface 168 (.agg #[x])) [s]
 call:∀(s:St)x,s.kd=8->Tv w S x s.e->s.th=0->s.el=0->P (.iface 169 (.agg #[x])) [s]
structure Bv (w:AT)(S:Ft)(a0:BY)(a1:List St):Prop where
 c_::
 f_:∀P,BvC w S P->P a0 a1
theorem Bv.C{w:AT}{S:Ft}:BvC w S (Bv w S):=⟨λs x q0 q1 q2 q3=>⟨λP h=>h.decl s x q0 q1 q2 q3⟩,
 λs x q0 q1 q2 q3=>⟨λP h=>h.set s x q0 q1 q2 q3⟩,
 λs x y q0 q1 q2 q3 q4=>⟨λP h=>h.store s x y q0 q1 q2 q3 q4⟩,
 λs x va vb A B vs us F H q0 q1 q2 q3 q4 q5 q6 q7=>⟨λP h=>h.ifs s x va vb A B vs us F H q0 q1 q2 (λi r0=>(q3 i r0).f_ P h) q4 (λi r0=>(q5 i r0).f_ P h) q6 q7⟩,
 λs x va A vs F q0 q1 q2 q3 q4 q5=>⟨λP h=>h.whil s x va A vs F q0 q1 q2 (λi r0=>(q3 i r0).f_ P h) q4 q5⟩,
 λs x q0 q1 q2 q3=>⟨λP h=>h.ret s x q0 q1 q2 q3⟩,
 λs x q0 q1 q2 q3=>⟨λP h=>h.out s x q0 q1 q2 q3⟩,
 λs x q0 q1 q2 q3=>⟨λP h=>h.call s x q0 q1 q2 q3⟩⟩
abbrev Bv.decl {w S}:=(Bv.C:BvC w S _).decl
abbrev Bv.set {w S}:=(Bv.C:BvC w S _).set
abbrev Bv.store {w S}:=(Bv.C:BvC w S _).store
abbrev Bv.ifs {w S}:=(Bv.C:BvC w S _).ifs
abbrev Bv.whil {w S}:=(Bv.C:BvC w S _).whil
abbrev Bv.ret {w S}:=(Bv.C:BvC w S _).ret
abbrev Bv.out {w S}:=(Bv.C:BvC w S _).out
abbrev Bv.call {w S}:=(Bv.C:BvC w S _).call
theorem Bv_i{w:AT}{S:Ft}{M:∀(a0:BY)(a1:List St),Bv w S a0 a1->Prop}
 (decl:∀(s:St)x,s.kd=1->Tv w S x s.e->s.th=0->s.el=0->∀t,M (.iface 164 (.agg #[.string s.nm,x])) [s] t)
 (set:∀(s:St)x,s.kd=2->Tv w S x s.e->s.th=0->s.el=0->∀t,M (.iface 165 (.agg #[.string s.nm,x])) [s] t)
 (store:∀(s:St)x y,s.kd=3->Tv w S x s.e->Tv w S y s.f->s.th=0->s.el=0->∀t,M (.iface 167 (.agg #[.string s.nm,x,y])) [s] t)
 (ifs:∀(s:St)x va vb A B(vs us:Nat->BY)(F H:Nat->List St),s.kd=4->Tv w S x s.e->gy w S va A vs->∀q3:∀i,i<A->Bv w S (vs i) (F i),gy w S vb B us->∀q5:∀i,i<B->Bv w S (us i) (H i),s.th=(bW F A).length->s.el=(bW H B).length->(∀ i (r0 : i<A),M (vs i) (F i) (q3 i r0))->(∀ i (r0 : i<B),M (us i) (H i) (q5 i r0))->∀t,M (.iface 155 (.agg #[x,va,vb])) (s::bW F A++bW H B) t)
 (whil:∀(s:St)x va A(vs:Nat->BY)(F:Nat->List St),s.kd=5->Tv w S x s.e->gy w S va A vs->∀q3:∀i,i<A->Bv w S (vs i) (F i),s.th=(bW F A).length->s.el=0->(∀ i (r0 : i<A),M (vs i) (F i) (q3 i r0))->∀t,M (.iface 160 (.agg #[x,va])) (s::bW F A) t)
 (ret:∀(s:St)x,s.kd=6->Tv w S x s.e->s.th=0->s.el=0->∀t,M (.iface 129 (.agg #[x])) [s] t)
 (out:∀(s:St)x,s.kd=7->Tv w S x s.e->s.th=0->s.el=0->∀t,M (.iface 168 (.agg #[x])) [s] t)
 (call:∀(s:St)x,s.kd=8->Tv w S x s.e->s.th=0->s.el=0->∀t,M (.iface 169 (.agg #[x])) [s] t)
 {a0:BY}{a1:List St}(t:Bv w S a0 a1):M a0 a1 t:=
 (t.f_ (λa0 a1=>∃z_,M a0 a1 z_) ⟨λs x q0 q1 q2 q3=>⟨.decl s x q0 q1 q2 q3,decl s x q0 q1 q2 q3 _⟩,
 λs x q0 q1 q2 q3=>⟨.set s x q0 q1 q2 q3,set s x q0 q1 q2 q3 _⟩,
 λs x y q0 q1 q2 q3 q4=>⟨.store s x y q0 q1 q2 q3 q4,store s x y q0 q1 q2 q3 q4 _⟩,
 λs x va vb A B vs us F H q0 q1 q2 q3 q4 q5 q6 q7=>⟨.ifs s x va vb A B vs us F H q0 q1 q2 (λi r0=>(q3 i r0).1) q4 (λi r0=>(q5 i r0).1) q6 q7,ifs s x va vb A B vs us F H q0 q1 q2 _ q4 _ q6 q7 (λi r0=>(q3 i r0).2) (λi r0=>(q5 i r0).2) _⟩,
 λs x va A vs F q0 q1 q2 q3 q4 q5=>⟨.whil s x va A vs F q0 q1 q2 (λi r0=>(q3 i r0).1) q4 q5,whil s x va A vs F q0 q1 q2 _ q4 q5 (λi r0=>(q3 i r0).2) _⟩,
 λs x q0 q1 q2 q3=>⟨.ret s x q0 q1 q2 q3,ret s x q0 q1 q2 q3 _⟩,
 λs x q0 q1 q2 q3=>⟨.out s x q0 q1 q2 q3,out s x q0 q1 q2 q3 _⟩,
 λs x q0 q1 q2 q3=>⟨.call s x q0 q1 q2 q3,call s x q0 q1 q2 q3 _⟩⟩).2
theorem Bv.keep(h:Bv w S v r)(J:∀B,S B->S' B)(I:∀B,S B->w'.heap[B]? =w.heap[B]?):Bv w' S' v r:=by
 induction h using Bv_i with
 | decl s x h1 h2 h3 h4=>exact .decl s x h1 (h2.keep J I) h3 h4
 | set s x h1 h2 h3 h4=>exact .set s x h1 (h2.keep J I) h3 h4
 | store s x y h1 h2 h3 h4 h5=>exact .store s x y h1 (h2.keep J I) (h3.keep J I) h4 h5
 | ifs s x va vb A B vs us F H h1 h2 h3 h4 h5 h6 h7 h8 ih1 ih2=>exact .ifs s x va vb A B vs us F H h1 (h2.keep J I) (h3.keep J I) ih1 (h5.keep J I) ih2 h7 h8
 | whil s x va A vs F h1 h2 h3 h4 h5 h6 ih=>exact .whil s x va A vs F h1 (h2.keep J I) (h3.keep J I) ih h5 h6
 | ret s x h1 h2 h3 h4=>exact .ret s x h1 (h2.keep J I) h3 h4
 | out s x h1 h2 h3 h4=>exact .out s x h1 (h2.keep J I) h3 h4
 | call s x h1 h2 h3 h4=>exact .call s x h1 (h2.keep J I) h3 h4
def Bv.bel(h:Bv w S v r)(hS:∀B,S B->B<w.heap.size)(hb:Bl w w'):Bv w' S v r:=h.keep (λ_ h=>h) (λB hB=>hb.block B (hS B hB))
def Bv.isI(h:Bv w S v r):∃t x,v=.iface t x:=by cases h using Bv_i <;> exact⟨_,_,rfl⟩
def Bk(w:AT)(S:Ft)(v:BY)(ss:List St):Prop:=∃(A:Nat) (vs:Nat->BY) (F:Nat->List St),gy w S v A vs/\(∀i,i<A->Bv w S (vs i) (F i))/\ss=bW F A
def Bk.keep(h:Bk w S v ss)(J:∀B,S B->S' B)(I:∀B,S B->w'.heap[B]? =w.heap[B]?):Bk w' S' v ss:=by obtain⟨A,vs,F,U,h2,h3⟩:=h;exact⟨A,vs,F,U.keep J I,λi hi=>(h2 i hi).keep J I,h3⟩
def Bk.bel(h:Bk w S v ss)(hS:∀B,S B->B<w.heap.size)(hb:Bl w w'):Bk w' S v ss:=h.keep (λ_ h=>h) (λB hB=>hb.block B (hS B hB))
end
section
variable{r b:List St}{w:AT}{S:Ft}{v:BY}{s:St}
def gQ{i j:Nat}(h:i+j<=r.length):(r++b).take i=r.take i/\((r++b).drop i).take j=(r.drop i).take j/\(r++b).drop (i+j)=r.drop (i+j)++b/\((r++b).take (i+j)).drop i=(r.take (i+j)).drop i:=by refine⟨take_append_of_le_length o_,?_,drop_append_of_le_length h,?_⟩;rw[drop_append_of_le_length o_,take_append_of_le_length H6];rw[take_append_of_le_length h]
theorem ky(N:Nat):∀a b:List St,a.length<=N->bw a=true->bw b=true->bw (a++b)=true:=by
 induction N with
 | zero=>intro a b J I h;have:a=[]:=J3 o_;subst this;simpa using h
 | succ N ih=>
  intro a b J I h;cases a with
  | nil=>simpa using h
  | cons s r=>rw[fitB_cons]at I;simp only[J1,J2]at I;obtain⟨⟨Z,p2,U,p4⟩,f1,f2,f3⟩:=I;simp only[l_c]at J;have⟨e1,e2,e3,e4⟩:=gQ (r:=r) (b:=b) (i:=s.th.toNat) (j:=s.el.toNat) o_;rw[cons_append,fitB_cons,e1,e3,e4];simp only[J1,J2];exact⟨⟨Z,by simp;omega,U,by simp;omega⟩,f1,f2,ih _ _ H6 f3 h⟩
theorem Ag{F:Nat->List St}:∀A,(∀i,i<A->bw (F i)=true)->bw (bW F A)=true
 | 0,_=>rfl
 | A+1,h=>by simp only[bW];exact ky _ _ _ n_ (Ag A (λi hi=>h i o_)) (h A o_)
def Bv.pos(h:Bv w S v r):0<r.length:=by cases h using Bv_i <;> simp
theorem f_{F:Nat->List St}:∀A,(∀i,i<A->0<(F i).length)->A<=(bW F A).length
 | 0,_=>y_
 | A+1,h=>by
  have:=f_ A (λi hi=>h i o_)
  have:=h A o_
  simp only[bW,l_a];omega
def EP{a:List St}(Z:s.th=a.length)(h2:s.el=b.length)(J:bw a=true)(U:bw b=true):bw (s::a++b)=true:=by rw[cons_append,fitB_cons];have I:s.th.toNat=a.length:=o_;have h:s.el.toNat=b.length:=o_;rw[I,h];simp only[J1,J2];refine⟨⟨o_,by simp;omega,o_,by simp;omega⟩,IN J,?_,?_⟩;rw[take_of_length_le i_,drop_left];exact U;rw[drop_of_length_le i_];rfl
end
end Go.Proofs.YtjfmapphpijneaaGreatDoor
