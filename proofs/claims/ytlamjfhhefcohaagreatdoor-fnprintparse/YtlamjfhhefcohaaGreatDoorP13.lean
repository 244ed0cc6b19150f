import Derived.Test.YtlamjfhhefcohaaGreatDoorP06
import Derived.Test.YtlamjfhhefcohaaGreatDoorP12
set_option linter.unusedSectionVars false
variable [Inhabited Go.Proofs.YtlamjfhhefcohaaGreatDoor.Pick]
namespace Go.Proofs.YtlamjfhhefcohaaGreatDoor
open Go.Proofs.Tryz
set_option linter.all false
set_option maxRecDepth 100000
set_option maxHeartbeats 16000000
section
open Go.RowKit
theorem zx(u:Nat)(hb:(u:Int)<=2147483648):((tx (Lib.decDigits u)).size:Int)<=4000000000:=by
 rw[tx_size];have:=kz u u n_;omega
theorem lm(x:Int)(h0: -2147483648<=x)(h1:x<=2147483648)(w:World):Calls prog 43 #[.int .i64 x] w fun e w'=>e=.returned (.string (tx (Lib.itoa x)))/\Below w.heap.size w w':=by
 by_cases hx:0<=x
 ·obtain⟨u,rfl⟩:∃u:Nat,x=u:=⟨x.toNat,o_⟩;have e:Lib.itoa (u:Int)=Lib.decDigits u:=by unfold Lib.itoa;rw[if_neg o_];simp
  rw[e];exact jw u u n_ o_ w
 ·obtain⟨u,rfl⟩:∃u:Nat,x= -(u:Int):=⟨x.natAbs,o_⟩;have e:Lib.itoa (-(u:Int))=45::Lib.decDigits u:=by unfold Lib.itoa;rw[if_pos o_];simp
  obtain⟨HD,HI⟩:=h2 e (jw u u n_ o_);have Jd:=zx u o_;have HE:Hid ((⟨#[45]⟩:ByteArray)++tx (Lib.decDigits u)=tx (45::Lib.decDigits u)):=aq [45] _;have Jc:(⟨#[45]⟩:ByteArray).size=1:=rfl;generalize hA:tx (Lib.decDigits u)=A at*;have hu:0<(u:Int):=o_;have Jb:(u:Int)<=2147483648:=o_;go_enter func43,ntmps43;go_wp2_with fail;(with_reducible refine Calls.mono (HI.out _) ?_);rintro e w2 ⟨rfl,Ja⟩;go_wp2;go_ret;exact⟨cC (by rw[HE.out,HD.out]),Ja⟩
end
section
variable{e:List Nd}
def aA(S:Nat->List UInt8):Nat->List UInt8
 | 0=>[]
 | i+1=>aA S i++(if i=0 then[]else[44,32])++S i
def unTab:List (List UInt8):=[[45],[33],[126]]
def dS(n:Nd)(A:Nat)(S:Nat->List UInt8)(R:Nat->Int):List UInt8:=
 if n.kind=1 then Lib.itoa n.val
 else if n.kind=2 then n.name.data.toList
 else if n.kind=3 then n.name.data.toList++[91]++S 0++[93]
 else if n.kind=4 then n.name.data.toList++[40]++aA S A++[41]
 else if n.kind=5 then[105,110,40,41]
 else if n.kind=6 then unTab.getD n.val.toNat []++cW (S 0) (decide (R 0<11))
 else cW (S 0) (decide (R 0<strN n))++[32]++wordN n++[32]++cW (S 1) (decide (R 1<=strN n))
structure PrC(P:List Nd→List UInt8→Prop):Prop where
 c_::
 mk(e:List Nd)(A:Nat)(b:Nat->Nat)(S:Nat->List UInt8):Cut e A b→(∀i,i<A->P (bH e b i) (S i))→P e (dS (ay e) A S (fun i=>strN (ay (bH e b i))))
structure Pr(a0:List Nd)(a1:List UInt8):Prop where
 c_::
 out:∀P,PrC P→P a0 a1
theorem Pr.C:PrC (Pr):=⟨fun e A b S q0 q1=>⟨fun P h=>h.mk e A b S q0 (fun i r0=>(q1 i r0).out P h)⟩⟩
abbrev Pr.mk:=(Pr.C:PrC _).mk
theorem Pr_i{M:∀(a0:List Nd)(a1:List UInt8),Pr a0 a1→Prop}
 (mk:∀(e:List Nd)(A:Nat)(b:Nat->Nat)(S:Nat->List UInt8),Cut e A b→∀q1:∀i,i<A->Pr (bH e b i) (S i),(∀ i (r0 : i<A),M (bH e b i) (S i) (q1 i r0))→∀t,M e (dS (ay e) A S (fun i=>strN (ay (bH e b i)))) t)
 {a0:List Nd}{a1:List UInt8}(t:Pr a0 a1):M a0 a1 t:=
 (t.out (fun a0 a1=>∃z_,M a0 a1 z_) ⟨fun e A b S q0 q1=>⟨.mk e A b S q0 (fun i r0=>(q1 i r0).1),mk e A b S q0 _ (fun i r0=>(q1 i r0).2) _⟩⟩).2
theorem Pr.exists(N:Nat):∀e:List Nd,e.length<=N->bW e=true->∃s,Pr e s:=by
 induction N with
 | zero=>intro e hl h;have:=ku h;omega
 | succ N ih=>
  intro e hl h;obtain⟨A,b,hc,hk⟩:=uZ h;have:∀i,∃s,i<A->Pr (bH e b i) s:=by
   intro i;by_cases hi:i<A
   ·obtain⟨s,hs⟩:=ih (bH e b i) (by have:=hc.kid_lt i hi;omega) (hk i hi);exact⟨s,fun _=>hs⟩
   ·exact⟨[],fun h=>absurd h hi⟩
  exact⟨_,Pr.mk e A b (fun i=>(this i).choose) hc (fun i hi=>(this i).choose_spec hi)⟩
theorem fB(l:List UInt8)(b:Bool):(cW l b).length<=l.length+2:=by
 cases b <;> simp[cW]
theorem o9(n:Nd):(wordN n).length<=2:=by
 unfold wordN;split
 ·simp
 ·split
  ·simp
  ·have:∀k,(dR.getD k []).length<=2:=by
    intro k;by_cases hk:k<16
    ·have:k=0∨k=1∨k=2∨k=3∨k=4∨k=5∨k=6∨k=7∨k=8∨k=9∨k=10∨k=11∨k=12∨k=13∨k=14∨k=15:=by omega
     rcases this with rfl|rfl|rfl|rfl|rfl|rfl|rfl|rfl|rfl|rfl|rfl|rfl|rfl|rfl|rfl|rfl <;> simp[dR]
    ·rw[List.getD,List.getElem?_eq_none (by simp[dR];omega)];simp
   exact this _
theorem wi(k:Nat):(unTab.getD k []).length<=1:=by
 by_cases hk:k<3
 ·have:k=0∨k=1∨k=2:=by omega
  rcases this with rfl|rfl|rfl <;> simp[unTab]
 ·rw[List.getD,List.getElem?_eq_none (by simp[unTab];omega)];simp
theorem pd(u:Nat)(h:u<=2147483648):(Lib.decDigits u).length<=10:=by
 have h1:∀k u:Nat,u<10 ^ (k+1)->(Lib.decDigits u).length<=k+1:=by
  intro k;induction k with
  | zero=>intro u hu;rw[Lib.decDigits,dif_pos o_];simp
  | succ k ih=>
   intro u hu;rw[Lib.decDigits];split
   ·simp
   ·have:=ih (u / 10) (by rw[Nat.pow_succ]at hu;omega)
    simp only[l_a,l_c,l_n];omega
 exact h1 9 u o_
theorem ph(x:Int)(h0: -2147483648<=x)(h1:x<=2147483648):(Lib.itoa x).length<=11:=by
 unfold Lib.itoa;split
 ·have:=pd x.natAbs o_;simp;omega
 ·have:=pd x.toNat o_;omega
theorem zy{n:Nd}(h:aB n=true)(h1:n.kind=1): -2147483648<=n.val/\n.val<=2147483647:=by
 unfold aB at h;simp[h1]at h;omega
theorem qz{A:Nat}{b:Nat->Nat}{S:Nat->List UInt8}(h:Cut e A b)(hS:∀i,i<A->(S i).length<=40*(bH e b i).length):∀i,i<=A->(aA S i).length<=40*b i+2*i:=by
 intro i;induction i with
 | zero=>intro _;simp[aA]
 | succ i ih=>
  intro hi;have h1:=ih o_;have h2:=hS i o_;rw[h.kid_len i o_]at h2;have h3:=(h.beg i o_).1;simp only[aA,l_a];have h4:(if i=0 then([]:List UInt8)else[44,32]).length<=2:=by split <;> simp
  omega
theorem Pr.len{s:List UInt8}(h:Pr e s):s.length ≤ 40*e.length:= by
  induction h using Pr_i with
  | mk e A b S hc hk ih=>
    have hr:= hc.root_good;have hl:= hc.len;have hA:= hc.ar;have h6:= hc.arA;have hn:= oI hr;have hnl:= i7 (ay e).name;have hlast:= hc.last;unfold dS;split
    · rename_i h1
      have:= zy hr h1;have:= ph (ay e).val o_ o_;omega
    · split
      · omega
      · split
        · rename_i h3
          have e1:A=1:= by have:arity (ay e)=1:= by simp[arity, h3]
                           omega
          subst e1;have h0:= ih 0 o_;rw[hc.kid_len 0 o_]at h0;simp only[List.length_append, List.length_cons, List.length_nil, hnl, Nat.zero_add]at h0⊢;omega
        · split
          · have:= qz hc ih A n_
            simp only[List.length_append, List.length_cons, List.length_nil, hnl];omega
          · split
            · simp; omega
            · split
              · rename_i h6'
                have e1:A=1:= by have:arity (ay e)=1:= by simp[arity, h6']
                                 omega
                subst e1;have h0:= ih 0 o_;rw[hc.kid_len 0 o_]at h0;have hu:= wi (ay e).val.toNat;have hh:= fB (S 0) (decide (strN (ay (bH e b 0))<11));simp only[List.length_append, Nat.zero_add]at h0⊢;omega
              · have hkk:= bL hr
                have e1:A=2:= by have:arity (ay e)=2:= by
                                   unfold arity;rw[if_neg o_, if_neg o_, if_pos o_]
                                 omega
                subst e1;have h0:= ih 0 o_;have h1:= ih 1 o_;rw[hc.kid_len 0 o_]at h0;rw[hc.kid_len 1 o_]at h1;have b0:= (hc.beg 0 o_).1;have b1:= (hc.beg 1 o_).1;have hw:= o9 (ay e);have hh:= fB (S 0) (decide (strN (ay (bH e b 0))<strN (ay e)));have hh1:= fB (S 1) (decide (strN (ay (bH e b 1)) ≤ strN (ay e)));simp only[List.length_append, List.length_cons, List.length_nil, Nat.zero_add, Nat.reduceAdd]at h0 h1 b0 b1 hlast⊢;omega
end
section
def gh (e : List Nd) : List UInt8 := epsQ [] (Pr e)
theorem jd {e : List Nd} (h : bW e = true) : Pr e (gh e) := epsQs (Pr.exists e.length e n_ h)
def bR(s:St)(a b:List UInt8):List UInt8:=
 if s.kind=1 then[105,110,116,32]++s.name.data.toList++[32,61,32]++(gh s.e++[59,10])
 else if s.kind=2 then s.name.data.toList++[32,61,32]++(gh s.e++[59,10])
 else if s.kind=3 then s.name.data.toList++[91]++(gh s.e++[93,32,61,32])++([]++(gh s.f++[59,10]))
 else if s.kind=4 then[105,102,32,40]++(gh s.e++[41,32,123,10])++a++(if s.els=0 then[]else[125,32,101,108,115,101,32,123,10]++b)++[125,10]
 else if s.kind=5 then[119,104,105,108,101,32,40]++(gh s.e++[41,32,123,10])++a++[125,10]
 else if s.kind=6 then[114,101,116,117,114,110,32]++(gh s.e++[59,10])
 else if s.kind=7 then[111,117,116,40]++(gh s.e++[41,59,10])
 else[]++(gh s.e++[59,10])
def gN:Nat->List St->List UInt8
 | _,[]=>[]
 | 0,_::_=>[]
 | n+1,s::r=>bR s (gN n (r.take s.thn.toNat)) (gN n ((r.take (s.thn.toNat+s.els.toNat)).drop s.thn.toNat))++gN n (r.drop (s.thn.toNat+s.els.toNat))
def aW(l:List St):List UInt8:=gN l.length l
theorem je(n m:Nat)(l:List St)(hn:l.length<=n)(hm:l.length<=m):gN n l=gN m l:=by
 induction n generalizing m l with
 | zero=>
  have:l=[]:=List.eq_nil_of_length_eq_zero o_
  subst this;cases m <;> rfl
 | succ n ih=>
  cases l with
  | nil=>cases m <;> rfl
  | cons s r=>
   cases m with
   | zero=>simp at hm
   | succ m=>
    simp only[l_c]at hn hm;simp only[gN];rw[ih m (r.take s.thn.toNat) (by simp;omega) (by simp;omega),ih m ((r.take (s.thn.toNat+s.els.toNat)).drop s.thn.toNat) (by simp;omega) (by simp;omega),ih m (r.drop (s.thn.toNat+s.els.toNat)) (by simp;omega) (by simp;omega)]
theorem linesT_nil:aW []=[]:=rfl
theorem fT(s:St)(r:List St):aW (s::r)=bR s (aW (r.take s.thn.toNat)) (aW ((r.take (s.thn.toNat+s.els.toNat)).drop s.thn.toNat))++aW (r.drop (s.thn.toNat+s.els.toNat)):=by
 have h:aW (s::r)=gN (r.length+1) (s::r):=rfl;rw[h];simp only[gN];rw[je r.length _ (r.take s.thn.toNat) (by simp;omega) n_,je r.length _ ((r.take (s.thn.toNat+s.els.toNat)).drop s.thn.toNat) (by simp;omega) n_,je r.length _ (r.drop (s.thn.toNat+s.els.toNat)) i_ n_];rfl
def jy(l:List St):Prop:=(∀s∈l,stmtB s=true)/\dx l=true
structure GoodS (s:St):Prop where
 lo:1<=s.kind
 hi:s.kind<=8
 one:bW s.e=true
 two:s.kind=3->bW s.f=true
 nof:s.kind≠3->s.f=[]
theorem pi{s:St}(h:stmtB s=true):GoodS s:=by
 unfold stmtB at h;simp only[Bool.and_eq_true,decide_eq_true_eq]at h;obtain⟨⟨⟨⟨⟨⟨h1,h2⟩,h3⟩,h4⟩,h5⟩,h6⟩,h7⟩:=h;refine⟨h1.1,h1.2,h3,fun hk=>?_,fun hk=>?_⟩
 ·rw[if_pos hk]at h4;exact h4
 ·rw[if_neg hk]at h4;exact List.eq_nil_of_length_eq_zero (by simpa using h4)
theorem jy.parts{s:St}{r:List St}(h:jy (s::r)):GoodS s/\0<=s.thn/\0<=s.els/\s.thn.toNat+s.els.toNat<=r.length/\jy (r.take s.thn.toNat)/\jy ((r.take (s.thn.toNat+s.els.toNat)).drop s.thn.toNat)/\jy (r.drop (s.thn.toNat+s.els.toNat)):=by
 obtain⟨h1,h2⟩:=h;rw[iD]at h2;simp only[Bool.and_eq_true,decide_eq_true_eq]at h2;obtain⟨h0,h3,h4,h5⟩:=h2;have hm:∀t∈r,stmtB t=true:=fun t ht=>h1 t (m_ _ ht);exact⟨pi (h1 s List.mem_cons_self),h0.1,h0.2.2.1,o_,⟨fun t ht=>hm t (List.mem_of_mem_take ht),h3⟩,⟨fun t ht=>hm t (List.mem_of_mem_take (List.mem_of_mem_drop ht)),h4⟩,⟨fun t ht=>hm t (List.mem_of_mem_drop ht),h5⟩⟩
theorem kC{s:ByteArray}(h:aK s=true):s.data.toList.length<=20:=by
 have:jm s:=by simpa[aK]using h
 rw[i7];exact this.2.1
theorem jT{s:St}(h:stmtB s=true)(hk:s.kind<=3):s.name.data.toList.length<=20:=by
 unfold stmtB at h;simp only[Bool.and_eq_true,decide_eq_true_eq]at h;obtain⟨⟨⟨⟨⟨⟨h1,h2⟩,h3⟩,h4⟩,h5⟩,h6⟩,h7⟩:=h;rw[if_pos hk]at h2;exact kC h2
theorem tP{s:St}(h:stmtB s=true)(a b:List UInt8):(bR s a b).length<=40*(s.e.length+s.f.length)+60+a.length+b.length:=by
 have g:=pi h;have he:=(jd g.one).len;unfold bR;split
 ·have:=jT h o_;rw[i7]at this;simp;omega
 ·split
  ·have:=jT h o_;rw[i7]at this;simp;omega
  ·split
   ·rename_i h3;have:=jT h o_;rw[i7]at this;have hf:=(jd (g.two h3)).len;simp;omega
   ·split
    ·split <;> (simp;omega)
    ·split
     ·simp;omega
     ·split
      ·simp;omega
      ·split
       ·simp;omega
       ·simp;omega
theorem my(n:Nat):∀l:List St,l.length<=n->jy l->(aW l).length<=40*nodeSum l+60*l.length:=by
 induction n with
 | zero=>
  intro l hl _;have:l=[]:=List.eq_nil_of_length_eq_zero o_;subst this;simp[linesT_nil]
 | succ n ih=>
  intro l hl h;cases l with
  | nil=>simp[linesT_nil]
  | cons s r=>
   obtain⟨g,h0,h1,h2,ga,gb,gc⟩:=h.parts;have hb:=h.1 s List.mem_cons_self;simp only[l_c]at hl;have la:=ih _ (by simp;omega) ga;have lb:=ih _ (by simp;omega) gb;have lc:=ih _ (by simp;omega) gc;have ls:=tP hb (aW (r.take s.thn.toNat)) (aW ((r.take (s.thn.toNat+s.els.toNat)).drop s.thn.toNat));rw[fT];have e1:nodeSum r=nodeSum (r.take s.thn.toNat)+nodeSum ((r.take (s.thn.toNat+s.els.toNat)).drop s.thn.toNat)+nodeSum (r.drop (s.thn.toNat+s.els.toNat)):=by
    have x1:=d6 (r.take (s.thn.toNat+s.els.toNat)) (r.drop (s.thn.toNat+s.els.toNat));rw[List.take_append_drop]at x1;have x2:=d6 ((r.take (s.thn.toNat+s.els.toNat)).take s.thn.toNat) ((r.take (s.thn.toNat+s.els.toNat)).drop s.thn.toNat);rw[List.take_append_drop,List.take_take,Nat.min_eq_left o_]at x2;omega
   simp only[l_a,l_c,nodeSum,List.length_take,List.length_drop]at*;omega
end
section
open Go.RowKit
variable{w wr:World}{G A k:Nat}{e:List Nd}{b:Nat->Nat}
theorem wj(A:Nat)(hA:(A:Int)<=6)(w:World):(Instr.makeSlice 141 (.int .i64 (A:Int)) (.int .i64 (A:Int))).run prog w=.ok (.slice (some ⟨w.heap.size,0,none⟩) A A) (w.alloc (.cells (madeCells (Value.slice none 0 0).cells A) 44)):=by
 obtain⟨i,h1,h2,h3,h4⟩:=info_parts kZ;have:=run_makeSlice (P:=prog) w 141 44 i (.slice none 0 0) underlying141 h1 h2 .i64 .i64 A A o_ (Int.le_refl _) (by rw[h3];omega) (by rw[h4];omega) o_;rw[this,h3];simp
def nt(w wr:World)(G A k:Nat)(e:List Nd)(b:Nat->Nat):Prop:=G<wr.heap.size/\∀j,j<A->wr.frozen? ⟨G,j,none⟩=false/\∃vj,wr.cell? ⟨G,j,none⟩=some vj/\(k<=j->ax w vj (bH e b j))
theorem nt.below{w':World}(h:nt w wr G A k e b)(hb:Below wr.heap.size wr w'):nt w w' G A k e b:=by
 obtain⟨h0,h⟩:=h;refine⟨l_ h0 hb.size,fun j hj=>?_⟩;obtain⟨h1,vj,h2,h3⟩:=h j hj;exact⟨(hb.frozen (p:=⟨G,j,none⟩) h0).trans h1,vj,(hb.cell (p:=⟨G,j,none⟩) h0).trans h2,h3⟩
theorem nt.set{u:Value}(h:nt w wr G A (k+1) e b)(hk:k<A)(hu:ax w u (bH e b k)):nt w (wr.setCell ⟨G,k,none⟩ u) G A k e b:=by
 obtain⟨h0,h⟩:=h;refine⟨by simpa using h0,fun j hj=>?_⟩;obtain⟨h1,vj,h2,h3⟩:=h j hj;refine⟨(World.frozen?_setCell _ _ _ _).trans h1,?_⟩;by_cases ej:j=k
 ·subst ej;exact⟨u,World.cell?_setCell_same _ _ _ h2,fun _=>hu⟩
 ·refine⟨vj,?_,fun h4=>h3 o_⟩;rw[s_]
  ·exact h2
  ·intro h;simp only[Addr.mk.injEq]at h;omega
theorem tQ(w W:World)(A:Nat)(e:List Nd)(b:Nat->Nat):nt w (W.alloc (.cells (madeCells (Value.slice none 0 0).cells A) 44)) W.heap.size A A e b:=by
 refine⟨i_,fun j hj=>⟨?_,.slice none 0 0,?_,fun h=>absurd h o_⟩⟩
 ·simp
 ·have h:(W.alloc (.cells (madeCells (Value.slice none 0 0).cells A) 44)).heap[W.heap.size]? =some (.cells (madeCells (Value.slice none 0 0).cells A) 44):=by
   show(W.heap.push _)[W.heap.size]? =_;simp
  generalize W.alloc (.cells (madeCells (Value.slice none 0 0).cells A) 44)=W' at h;simp[World.cell?,h,madeCells,hj,Nat.mod_one,Value.cells]
theorem tT(w0:World)(v:Value)(e:List Nd)(A:Nat)(b:Nat->Nat)(w:World)(hT:dz w)(hl:e.length<=1048576)(hc:ax w0 v e)(Jq:Below w0.heap.size w0 w)(hb:Cut e A b):
  Calls prog 185 #[v] w fun r w'=>∃v',r=.returned v'/\Kids w0 w' w.heap.size v' e b A/\Below w.heap.size w w':=by
 obtain⟨HN,Jo⟩:=h2 hc Jq;replace hc:=hc.below Jq;obtain⟨a,Jd,rfl,Jp,Jx,hc⟩:=hc;have Jb:=hb.len;obtain⟨m,hm⟩:∃m,e.length=m+1:=⟨e.length-1,o_⟩;obtain⟨bb,Jc,rfl,Jt⟩:=hc Jb;obtain⟨d0,d1,d2⟩:=Jt m o_;have hr:e[m]=ay e:=by rw[co e Jb];simp[hm]
 rw[hr]at d0 d1 d2;have Jl:=bL hb.root_good;have Jy:=hb.arA;have HA:Hid (arity (ay e)=A):=hb.ar;obtain⟨HB,HT⟩:=h2 hb hT;generalize hR:ay e=R at d0 d1 d2 Jl HA;have e1:((m+1:Nat):Int)-1=(m:Int):=o_;rw[hm]at hl Jp Jb HN⊢;have Jg:(A:Int)<=6:=o_;have HM:=ah hm;go_enter func185,ntmps185;go_wp2_with fail;refine(kB R _ HT.out Jl).mono ?_;rintro x w1 ⟨rfl,Jj⟩;rw[HA.out];have Jr:=wj A Jg;have hH:=tQ w0 w1 A e b;generalize hX:madeCells (Value.slice none 0 0).cells A=X at Jr hH;have HH:=ah hH;have Jf:=Jj.size;go_wp2;go_loopw[3,5,6] (fun en ix bg wr=>∃(k:Nat),k<=A/\en=.int .i64 (b k)/\ix=.int .i64 ((k:Int)-1)/\nt w0 wr w1.heap.size A k e b/\Bl w wr) (fun _ ix _ _=>(RowKit.intOf ix+1).toNat)
 case atStart=>exact⟨A,n_,by rw[HB.out.last,HM.out];simp,by go_num,HH,Jj.alloc Jf _⟩
 case round=>
  obtain⟨k,hk,rfl,rfl,hH,hB⟩:=hrel;have Ji:=ah hH;rcases Nat.eq_zero_or_pos k with rfl|hk0
  ·go_wp2_with fail;refine bodyPost_ret (v:=.slice (some ⟨w1.heap.size,0,none⟩) A A) (by simp[results,results185,go_sem]) rfl ⟨_,rfl,?_,hB⟩;refine⟨_,A,rfl,n_,o_,fun _=>⟨w1.heap.size,rfl,Jf,Ji.out.1,fun i hi=>?_⟩⟩;obtain⟨_,vj,h1,h2⟩:=Ji.out.2 i hi;exact⟨vj,h1,h2 y_⟩
  ·obtain⟨i,rfl⟩:∃i,k=i+1:=⟨k-1,o_⟩;have e2:((i+1:Nat):Int)-1=(i:Int):=o_
   have Ju:=(HB.out.beg i o_).1;have Jh:=HB.out.le' (i+1) o_;rw[HM.out]at Jh;have HC:=ah (tD _ e (b (i+1)) (b i) wr (HT.out.below HT.out.size hB) (by rw[HM.out];exact hl) HB.out.good (HN.out.below (Jo.out.trans (hB.mono Jo.out.size))) (by rw[HM.out];omega) (HB.out.beg i o_));have Ja:=vT (some ⟨bb,Jc,none⟩) (m+1) Jd (b i) (b (i+1)) o_ o_ Jp;have Je:Hid (ax w0 (.slice (if Jd=b i then some ⟨bb,Jc,none⟩else(some ⟨bb,Jc,none⟩:Option Addr).map (·.add (b i*3))) (b (i+1)-b i) (Jd-b i)) (bH e b i)):=ax.cut (by rw[HM.out];exact HN) (b i) (b (i+1)) o_ (by rw[HM.out];omega);generalize (if Jd=b i then some ⟨bb,Jc,none⟩else(some ⟨bb,Jc,none⟩:Option Addr).map (·.add (b i*3)))=ua at Ja Je;generalize b (i+1)-b i=un at Ja Je;generalize Jd-b i=uc at Ja Je;generalize hbi:b i=bi at*;generalize hbi1:b (i+1)=bi1 at*;go_wp2_with fail;refine HC.out.mono ?_;rintro x w2 ⟨rfl,Jn⟩;have Jm:Hid (nt w0 w2 w1.heap.size A (i+1) e b):=Ji.out.below Jn;obtain⟨Jw,vj,Jk,Jv⟩:=Jm.out.2 i o_;have Js:=hB.trans (Jn.mono hB.size);go_wp2;go_roundw
   case rel=>
    refine⟨i,o_,by rw[hbi],by go_num,Jm.out.set o_ Je,Js.setCell Jf _⟩
   case measure=>simp[RowKit.intOf]
end
section
open Go.RowKit
variable{w w':World}
def binRows:List (List UInt8×Int×Int×Int):=[([124,124],1,9,0),([38,38],2,8,0),([124],3,7,15),([94],4,7,14),([38],5,7,13),([61,61],6,7,11),([33,61],6,7,12),([60],7,7,7),([60,61],7,7,8),([62],7,7,9),([62,61],7,7,10),([60,60],8,7,5),([62,62],8,7,6),([43],9,7,3),([45],9,7,4),([42],10,7,0),([47],10,7,1),([37],10,7,2)]
def eb(k:Nat):List UInt8×Int×Int×Int:=binRows.getD k ([],0,0,0)
def fC:List Value:=binRows.flatMap fun r=>[.string (tx r.1),.int .i64 r.2.1,.int .i64 r.2.2.1,.int .i64 r.2.2.2]
def kr(w:World):Prop:=7<w.heap.size/\w.rangeAt 7 0 fC
theorem tU:(prog.info? 218).map (·.size)=some fC.length:=by kernel_rfl
theorem kr.below(h:kr w)(hb:Below w.heap.size w w'):kr w':=
 ⟨l_ h.1 hb.size,fun j v hv=>(hb.cell (p:=⟨7,0+j,none⟩) h.1).trans (h.2 j v hv)⟩
def DM(k:Nat):Value:=.agg #[.string (tx (eb k).1),.int .i64 (eb k).2.1,.int .i64 (eb k).2.2.1,.int .i64 (eb k).2.2.2]
theorem wk(k:Nat)(hk:k<18)(W:World):(Instr.index 218 (.agg fC.toArray) (.int .i64 (k:Int))).run prog W=.ok (DM k) W:=by
 have:k=0∨k=1∨k=2∨k=3∨k=4∨k=5∨k=6∨k=7∨k=8∨k=9∨k=10∨k=11∨k=12∨k=13∨k=14∨k=15∨k=16∨k=17:=by omega
 rcases this with rfl|rfl|rfl|rfl|rfl|rfl|rfl|rfl|rfl|rfl|rfl|rfl|rfl|rfl|rfl|rfl|rfl|rfl <;> (show _=_;kernel_rfl)
def ws(n:Nd)(k:Nat):Prop:=(eb k).2.2.1=n.kind/\(eb k).2.2.2=n.val
theorem wu(n:Nd)(k:Nat)(hk:k<18)(h:ws n k):(eb k).2.1=strN n/\(7<=n.kind->(eb k).1=wordN n):=by
 obtain⟨nk,nv,nm⟩:=n;have:k=0∨k=1∨k=2∨k=3∨k=4∨k=5∨k=6∨k=7∨k=8∨k=9∨k=10∨k=11∨k=12∨k=13∨k=14∨k=15∨k=16∨k=17:=by omega
 rcases this with rfl|rfl|rfl|rfl|rfl|rfl|rfl|rfl|rfl|rfl|rfl|rfl|rfl|rfl|rfl|rfl|rfl|rfl <;>
  (obtain⟨h1,h2⟩:=h;simp only[eb,binRows,List.getD,List.getElem?_cons_succ,List.getElem?_cons_zero,Option.getD_some]at h1 h2;subst h1 h2;exact⟨by simp[eb,binRows,strN,ij],fun _=>by simp[eb,binRows,wordN,dR]⟩)
theorem AR{n:Nd}(h:aB n=true)(h8:n.kind=8∨n.kind=9):n.val=0:=by
 unfold aB at h;rcases h8 with h8|h8 <;> (simp[h8]at h;exact h.1)
theorem tY(n:Nd)(hn:aB n=true)(h:∀k,k<18->¬ws n k):n.kind<7:=by
 have hk:=bL hn;by_cases h9:n.kind=9
 ·exact absurd ⟨h9.symm,(AR hn (.inr h9)).symm⟩ (h 0 o_)
 ·by_cases h8:n.kind=8
  ·exact absurd ⟨h8.symm,(AR hn (.inl h8)).symm⟩ (h 1 o_)
  ·by_cases h7:n.kind=7
   ·exfalso
    have hv:=o6 hn h7;have:n.val=0∨n.val=1∨n.val=2∨n.val=3∨n.val=4∨n.val=5∨n.val=6∨n.val=7∨n.val=8∨n.val=9∨n.val=10∨n.val=11∨n.val=12∨n.val=13∨n.val=14∨n.val=15:=o_;rcases this with e|e|e|e|e|e|e|e|e|e|e|e|e|e|e|e
    ·exact h 15 o_ ⟨h7.symm,e.symm⟩
    ·exact h 16 o_ ⟨h7.symm,e.symm⟩
    ·exact h 17 o_ ⟨h7.symm,e.symm⟩
    ·exact h 13 o_ ⟨h7.symm,e.symm⟩
    ·exact h 14 o_ ⟨h7.symm,e.symm⟩
    ·exact h 11 o_ ⟨h7.symm,e.symm⟩
    ·exact h 12 o_ ⟨h7.symm,e.symm⟩
    ·exact h 7 o_ ⟨h7.symm,e.symm⟩
    ·exact h 8 o_ ⟨h7.symm,e.symm⟩
    ·exact h 9 o_ ⟨h7.symm,e.symm⟩
    ·exact h 10 o_ ⟨h7.symm,e.symm⟩
    ·exact h 5 o_ ⟨h7.symm,e.symm⟩
    ·exact h 6 o_ ⟨h7.symm,e.symm⟩
    ·exact h 4 o_ ⟨h7.symm,e.symm⟩
    ·exact h 3 o_ ⟨h7.symm,e.symm⟩
    ·exact h 2 o_ ⟨h7.symm,e.symm⟩
   ·omega
theorem ww(n:Nd)(h:n.kind<7):strN n=11:=by
 unfold strN;rw[if_neg o_,if_neg o_,if_neg o_]
def Cb(n:Nd)(e:Ending):Prop:=∃s k v,e=.returned (.agg #[.string s,.int .i64 (strN n),.int .i64 k,.int .i64 v])/\(7<=n.kind->s=tx (wordN n))
theorem mz{t u:TypeId}{x y z a b c d:Value}(h:Below (w.heap.size+2) ((w.alloc (.cells #[x,y,z] t)).alloc (.cells #[a,b,c,d] u)) w'):
  w'.cell? ⟨w.heap.size,0,none⟩=some x/\w'.cell? ⟨w.heap.size,1,none⟩=some y/\w'.cell? ⟨w.heap.size+1,0,none⟩=some a/\w'.cell? ⟨w.heap.size+1,1,none⟩=some b/\w'.cell? ⟨w.heap.size+1,2,none⟩=some c/\w'.cell? ⟨w.heap.size+1,3,none⟩=some d/\∀j,w'.frozen? ⟨w.heap.size+1,j,none⟩=false:=by
 refine⟨?_,?_,?_,?_,?_,?_,fun j=>?_⟩
 ·rw[h.cell i_];simp
 ·rw[h.cell i_];simp
 ·rw[h.cell i_];simp
 ·rw[h.cell i_];simp
 ·rw[h.cell i_];simp
 ·rw[h.cell i_];simp
 ·rw[h.frozen i_];simp
theorem ny(n:Nd)(hn:aB n=true)(w:World)(hB:kr w):Calls prog 187 #[.agg #[.int .i64 n.kind,.int .i64 n.val,.string n.name]] w fun e w'=>Cb n e/\Below w.heap.size w w':=by
 obtain⟨HB,HN⟩:=h2 hB hn;clear hB hn;obtain⟨nk,nv,nm⟩:=n;show Calls prog 187 #[.agg #[.int .i64 nk,.int .i64 nv,.string nm]] w _;have hR:∀o1 o2,((w.alloc o1).alloc o2).rangeAt 7 0 fC:=fun o1 o2=>World.rangeAt_alloc (World.rangeAt_alloc HB.out.2 o1) o2;have HR:=ah hR;go_enter func187,ntmps187;go_wp2_with(refine wpList_load_mid rfl 218 _ rfl 7 0 rfl fC _ (HR.out _ _) underlying218 rfl tU ?_)
 generalize hC:fC.toArray=C;have HC:=ah hC;clear hC;go_wp2;go_loopw[4,6] (fun bx ix wr=>∃(k:Nat),k<=18/\ix=.int .i64 k/\(∀j,j<k->¬ws ⟨nk,nv,nm⟩ j)/\Below (w.heap.size+2) ((w.alloc (.cells #[.int .i64 nk,.int .i64 nv,.string nm] 48)).alloc (.cells #[.string {data:=#[]},.int .i64 0,.int .i64 0,.int .i64 0] 206)) wr) (fun _ ix _=>18-(RowKit.intOf ix).toNat)
 case atStart=>exact⟨0,o_,rfl,fun j hj=>absurd hj o_,r_⟩
 case round=>
  obtain⟨k,hk,rfl,Ji,Jb⟩:=hrel;have Jh:=ah Ji;have Je:w.heap.size+2<=wr.heap.size:=by have:=Jb.size;simpa using this
  have up:=fun o=>mz (Jb.alloc Je o);have d0:=fun o=>(up o).1;have d1:=fun o=>(up o).2.1;have r0:=fun o=>(up o).2.2.1;have r1:=fun o=>(up o).2.2.2.1;have r2:=fun o=>(up o).2.2.2.2.1;have r3:=fun o=>(up o).2.2.2.2.2.1;have f0:=fun o=>(up o).2.2.2.2.2.2;obtain⟨_,_,q0,q1,q2,q3,g0⟩:=mz Jb;have Jm:wr.heap.size≠w.heap.size+1:=o_
  have Jk:wr.heap.size≠w.heap.size:=o_;have Jf:Hid (Bl w wr):=((aD _ _).alloc i_ _).trans (Jb.mono o_);have Jg:=ah Jb;clear Ji Jb;by_cases hlt:k<18
  ·have Ja:=wk k hlt;rw[HC.out]at Ja;have HH:=ah (wu ⟨nk,nv,nm⟩ k hlt);have HU:Hid (ws ⟨nk,nv,nm⟩ k↔(eb k).2.2.1=nk/\(eb k).2.2.2=nv):=Iff.rfl;unfold DM at Ja;generalize hr:eb k=row at Ja HH HU;obtain⟨rs,rt,rk,rv⟩:=row;simp only at Ja;by_cases h1:rk=nk/\rv=nv
   ·obtain⟨rfl,rfl⟩:=h1;obtain⟨e1,e2⟩:=HH.out (HU.out.2 ⟨rfl,rfl⟩);simp only at e1 e2;obtain⟨Jl,Jj⟩:=h2 e1 e2;clear e1 e2;go_wp2_with fail;refine bodyPost_ret (v:=.agg #[.string (tx rs),.int .i64 rt,.int .i64 rk,.int .i64 rv]) (by simp[results,results187,go_sem,r0,r1,r2,r3]) rfl ⟨⟨tx rs,rk,rv,by rw[Jl.out],fun h=>by rw[Jj.out h]⟩,?_⟩;exact((((Jf.out.alloc o_ _).setCell i_ _).setCell i_ _).setCell i_ _).setCell i_ _
   ·have Jd:Hid (∀j,j<k+1->¬ws ⟨nk,nv,nm⟩ j):=by
     intro j hj;by_cases e:j=k
     ·subst e;intro h;exact h1 (HU.out.1 h)
     ·exact Jh.out j o_
    by_cases h2:rk=nk
    ·have h3:¬rv=nv:=fun h=>h1 ⟨h2,h⟩;subst h2;go_wp2;go_roundw
     case rel=>exact⟨k+1,o_,by go_num,Jd,Jg.out.alloc Je _⟩
     case measure=>simp[RowKit.intOf];omega
    ·go_wp2;go_roundw
     case rel=>exact⟨k+1,o_,by go_num,Jd,Jg.out.alloc Je _⟩
     case measure=>simp[RowKit.intOf];omega
  ·obtain rfl:k=18:=by omega
   have Jc:=tY ⟨nk,nv,nm⟩ HN.out Jh;have HS:Hid (strN ⟨nk,nv,nm⟩=11):=ww ⟨nk,nv,nm⟩ Jc;simp only at Jc;go_wp2_with fail;refine bodyPost_ret (v:=.agg #[.string ⟨#[]⟩,.int .i64 11,.int .i64 0,.int .i64 0]) (by simp[results,results187,go_sem,q0,q1,q2,q3]) rfl ⟨⟨⟨#[]⟩,0,0,by rw[HS.out],fun h=>?_⟩,?_⟩
   ·simp only at h;omega
   ·exact(((Jf.out.setCell i_ _).setCell i_ _).setCell i_ _).setCell i_ _
end
section
open Go.RowKit
variable{P k:Nat}{w w':World}{l:List UInt8}{v:Value}
def rb(w:World)(P:Nat):Option Nat:=(w.cell? ⟨P,0,none⟩).bind Value.ownBlock
structure Wr (P:Nat) (w w':World):Prop where
 still:w'.os=w.os/\w'.tape=w.tape/\w'.output=w.output
 size:w.heap.size<=w'.heap.size
 block:∀k,k<w.heap.size->k≠P->some k≠rb w P->w'.heap[k]? =w.heap[k]?
 row:∀k,rb w' P=some k->rb w P=some k∨w.heap.size<=k
theorem Wr.refl(P:Nat)(w:World):Wr P w w:=⟨⟨rfl,rfl,rfl⟩,n_,fun _ _ _ _=>rfl,fun _ h=>.inl h⟩
theorem Wr.trans{Ja:World}(h:Wr P w w')(h':Wr P w' Ja):Wr P w Ja:=by
 refine⟨⟨h'.still.1.trans h.still.1,h'.still.2.1.trans h.still.2.1,h'.still.2.2.trans h.still.2.2⟩,t_ h.size h'.size,fun k h1 h2 h3=>?_,fun k hk=>?_⟩
 ·rw[h'.block k (l_ h1 h.size) h2,h.block k h1 h2 h3];intro he;rcases h.row k he.symm with h4|h4
  ·exact h3 h4.symm
  ·omega
 ·rcases h'.row k hk with h4|h4
  ·exact h.row k h4
  ·exact .inr (t_ h.size h4)
theorem Wr.below(hP:P<w.heap.size)(hb:Below w.heap.size w w'):Wr P w w':=by
 refine⟨⟨hb.os,hb.tape,hb.output⟩,hb.size,fun k h1 _ _=>hb.block k h1,fun k hk=>.inl ?_⟩;unfold rb at hk⊢;rw[hb.cell (p:=⟨P,0,none⟩) hP]at hk;exact hk
def Out(w:World)(P:Nat)(l:List UInt8):Prop:=P<w.heap.size/\w.frozen? ⟨P,0,none⟩=false/\∃v,w.cell? ⟨P,0,none⟩=some v/\w.ownsRow (P+1) 5 1 v l.length (Lib.strCells (tx l))
theorem Out.below(h:Out w P l)(hb:Below w.heap.size w w'):Out w' P l:=by
 obtain⟨h0,h1,v,h2,h3⟩:=h;refine⟨l_ h0 hb.size,(hb.frozen (p:=⟨P,0,none⟩) h0).trans h1,v,(hb.cell (p:=⟨P,0,none⟩) h0).trans h2,?_⟩;obtain⟨g1,g2⟩:=h3;refine⟨g1,?_⟩;rcases g2 with g2|⟨g,Jb,Ja,rfl,g3,g4,g5⟩
 ·exact .inl g2
 ·refine .inr ⟨g,Jb,Ja,rfl,g3,?_,g5⟩;rw[hb.block g (by have:=(Array.getElem?_eq_some_iff.1 g4).1;exact this)];exact g4
def Cd(w:World)(g:Nat)(ts:List (List UInt8)):Prop:=∀j (h:j<ts.length),w.cell? ⟨g,j,none⟩=some (.string (tx ts[j]))
theorem Wr.cell(h:Wr P w w'){o:Nat}(hk:k≠P)(hr:some k≠rb w P)(hc:w.cell? ⟨k,o,none⟩=some v):w'.cell? ⟨k,o,none⟩=some v:=
 (c_ (h.block k (b_ hc) hk hr)).trans hc
theorem nA(a b:List UInt8):Lib.strCells (tx (a++b))=Lib.strCells (tx a)++Lib.strCells (tx b):=by
 simp[Lib.strCells,tx]
theorem tZ:(prog.info? 5).map (fun i=>(i.zero,i.size,i.bytes))=some (some (.int .u8 0),1,1):=by kernel_rfl
theorem wy{m:List UInt8}{v':Value}(hO:Out w P l)(hv:w.cell? ⟨P,0,none⟩=some v)(Jc:w'.ownsRow (P+1) 5 1 v' (l.length+m.length) (Lib.strCells (tx l)++Lib.strCells (tx m)))(hg:w.grownBy w' v.ownBlock)(Jh:∀k,v'.ownBlock=some k->v.ownBlock=some k∨w.heap.size<=k):
  w'.frozen? ⟨P,0,none⟩=false/\w'.cell? ⟨P,0,none⟩=some v/\Out (w'.setCell ⟨P,0,none⟩ v') P (l++m)/\Wr P w (w'.setCell ⟨P,0,none⟩ v'):=by
 obtain⟨h0,h1,v0,h2,h3⟩:=hO;rw[hv]at h2;simp only[Option.some.injEq]at h2;subst h2;have Je:some P≠v.ownBlock:=fun e=>by have:=(h3.lt P e.symm).1;omega
 have Jb:=hg.block P h0 Je;have c1:w'.cell? ⟨P,0,none⟩=some v:=(c_ (a:=⟨P,0,none⟩) Jb).trans hv;have f1:w'.frozen? ⟨P,0,none⟩=false:=(World.frozen?_of_block (a:=⟨P,0,none⟩) Jb).trans h1;have Jd:(w'.setCell ⟨P,0,none⟩ v').cell? ⟨P,0,none⟩=some v':=World.cell?_setCell_same _ _ _ c1;have Ja:∀k,k≠P->(w'.setCell ⟨P,0,none⟩ v').heap[k]? =w'.heap[k]? := by
  intro k hk;exact Below.heap_setCell _ _ _ k (fun h=>hk (by simpa using h))
 refine⟨f1,c1,⟨?_,(World.frozen?_setCell _ _ _ _).trans f1,v',Jd,?_⟩,?_⟩
 ·simp only[World.size_setCell];exact l_ h0 hg.size
 ·rw[l_a,nA];obtain⟨g1,g2⟩:=Jc;refine⟨g1,?_⟩;rcases g2 with g2|⟨g,Jf,Jg,rfl,g3,g4,g5⟩
  ·exact .inl g2
  ·refine .inr ⟨g,Jf,Jg,rfl,g3,?_,g5⟩;rw[Ja g o_];exact g4
 ·refine⟨⟨hg.os,hg.tape,hg.output⟩,by simp only[World.size_setCell];exact hg.size,fun k k1 k2 k3=>?_,fun k hk=>?_⟩
  ·rw[Ja k k2,hg.block k k1];intro e;apply k3;unfold rb;rw[hv];exact e
  ·unfold rb at hk⊢;rw[Jd]at hk;rw[hv];simp only[Option.bind_some]at hk⊢;exact Jh k hk
theorem Wr.toBelow(h:Wr P w w')(hO:Out w P l):Below P w w':=by
 refine⟨h.still.1,h.still.2.1,h.still.2.2,h.size,fun k hk=>h.block k (by have:=hO.1;omega) o_ (fun e=>?_)⟩;obtain⟨h0,h1,v,h2,h3⟩:=hO;unfold rb at e;rw[h2]at e;have:=(h3.lt k e.symm).1;omega
theorem Out.rb_lt(hO:Out w P l)(h:rb w P=some k):P<k/\k<w.heap.size:=by
 obtain⟨h0,h1,v,h2,h3⟩:=hO;unfold rb at h;rw[h2]at h;have:=h3.lt k h;omega
theorem Out.rb_ne(hO:Out w P l)(o:Obj):some w.heap.size≠rb (w.alloc o) P:=by
 intro e;have e2:rb (w.alloc o) P=rb w P:=by
  unfold rb;rw[(r_.alloc n_ o:Bl w (w.alloc o)).cell (p:=⟨P,0,none⟩) hO.1]
 rw[e2]at e;have:=hO.rb_lt e.symm;omega
section
variable{P:Program}{w:World}
theorem ud(base:Nat)(t u ty e:TypeId)(i:TypeInfo)(ht:P.underlying t=some (.slice e))(hu:P.underlying u=some .string)(hi:P.info? e=some i)(hz:i.zero=some (.int .u8 0))
  (Ja:i.size=1) (Jh:i.bytes=1)
  (v:Value) (n:Nat) (xs:List Value) (Jb:w.ownsRow base e 1 v n xs) (s:ByteArray)
  (Jg:n+s.size<=1000000000) (Je:base<=w.heap.size):
  ∃v' w',(Builtin.append_ #[t,u] ty #[v,.string s]).run P w=.ok v' w'/\w'.ownsRow base e 1 v' (n+s.size) (xs++Lib.strCells s)/\w.grownBy w' v.ownBlock/\∀k,v'.ownBlock=some k->v.ownBlock=some k∨w.heap.size<=k:=by
 obtain⟨v',w',h1,h2,h3,_⟩:=Lib.run_append_own_string (P:=P) w base t u ty e i ht hu hi hz Ja Jh v n xs Jb s (by unfold maxLen;omega) o_ Je;refine⟨v',w',h1,h2,h3,fun k hk=>?_⟩;have Jc:=Jb;have Ji:xs.length=n:=by simpa using Jb.1
 rcases Jb.2 with⟨rfl,rfl⟩|⟨g,Jf,Jk,rfl,Jn,hg,Jl,Jo,Jm,Jj⟩
 ·have hx:xs=[]:=List.eq_nil_of_length_eq_zero Ji;subst hx;obtain⟨v2,w2,g1,g2,_⟩:=Lib.run_append_own_string (P:=P) w w.heap.size t u ty e i ht hu hi hz Ja Jh (.slice none 0 0) 0 [] (World.ownsRow_nil _ _ _ _) s (by unfold maxLen;omega) o_ n_;rw[h1]at g1;simp only[Result.ok.injEq]at g1;obtain⟨rfl,rfl⟩:=g1;exact .inr (g2.lt k hk).1
 ·by_cases hroom:n+s.size<=Jf
  ·have hr:=Lib.run_append_room_string (P:=P) w t u ty e i ht hu hi Ja g n Jf Jk hg s hroom o_;rw[h1]at hr;simp only[Result.ok.injEq]at hr;obtain⟨rfl,rfl⟩:=hr;exact .inl hk
  ·have Jd:∀j u,xs[j]? =some u->w.cell? ((⟨g,0,none⟩:Addr).add j)=some u:=Jc.cells (g:=g) rfl;have hr:=Lib.run_append_grow_string (P:=P) w t u ty e i (.int .u8 0) ht hu hi hz ⟨g,0,none⟩ n Jf xs (by rw[Ja];simpa using Ji) Jd s o_ o_ (by rw[Jh];exact growslice_fits o_ o_);rw[h1]at hr;simp only[Result.ok.injEq]at hr;obtain⟨rfl,rfl⟩:=hr;simp only[Value.ownBlock,Option.some.injEq]at hk;exact .inr o_
theorem qA{ops:Array Oper}{Jb:List Oper}{o:Oper}{a:Act}{Q:Exit->Act->World->Prop}(Jg:o.guard=none)(sl x:Operand)(t u:TypeId)
  (ho:o.op=.call {callee:=.builtin .append,args:=#[sl,x],argTypes:=#[t,u]})
  (base:Nat) (e:TypeId) (i:TypeInfo) (ht:P.underlying t=some (.slice e)) (hu:P.underlying u=some .string) (hi:P.info? e=some i) (hz:i.zero=some (.int .u8 0))
  (Jc:i.size=1) (Jf:i.bytes=1)
  (v:Value) (n:Nat) (xs:List Value) (hs:a.eval sl=v) (Je:w.ownsRow base e 1 v n xs) (s:ByteArray) (hx:a.eval x=.string s)
  (Ja:n+s.size<=1000000000) (Jd:base<=w.heap.size)
  (h:∀v' w',w'.ownsRow base e 1 v' (n+s.size) (xs++Lib.strCells s)->w.grownBy w' v.ownBlock->(∀k,v'.ownBlock=some k->v.ownBlock=some k∨w.heap.size<=k)->wpList P ops Q Jb (a.put o.dst v') w'):wpList P ops Q (o::Jb) a w:=by
 refine wpList_plain Jg fun K hK=>?_;obtain⟨v',w',hr,h2,h3,h4⟩:=ud (P:=P) (w:=w) base t u o.type e i ht hu hi hz Jc Jf v n xs Je s Ja Jd;unfold Oper.wp execOp;simp only[ho,resolve,invoke,builtin,Sem.run_bind,Sem.run_pure,Result.andThen_ok,List.map_toArray,List.map_cons,List.map_nil,hs,hx,hr];exact hK _ _ (h v' w' h2 h3 h4)
end
end
section
open Go.RowKit
theorem mA(ts:List (List UInt8))(k:Nat)(h:k<ts.length):(ts.take (k+1)).flatten=(ts.take k).flatten++ts[k]:=by
 rw[bM ts k h,List.flatten_append];simp only[List.flatten_cons,List.flatten_nil,List.append_nil]
theorem zz(ts:List (List UInt8))(k:Nat):(ts.take k).flatten.length<=ts.flatten.length:=by
 have h:ts.flatten=(ts.take k).flatten++(ts.drop k).flatten:=by rw[<-List.flatten_append,List.take_append_drop]
 rw[h,l_a];omega
theorem zA(P g cap:Nat)(l:List UInt8)(ts:List (List UInt8))(w:World)(hO:Out w P l)(hg:g≠P)(Jt:some g≠rb w P)(hT:Cd w g ts)(Ju:ts.length<=cap)(Jv:cap<=1000000)(hl:l.length+ts.flatten.length<=1000000000):
  Calls prog 70 #[.pointer (some ⟨P,0,none⟩),.slice (some ⟨g,0,none⟩) ts.length cap] w fun e w'=>(∃u,e=.returned u)/\Out w' P (l++ts.flatten)/\Wr P w w':=by
 obtain⟨i0,hi,Jj,Jp,Jm⟩:=info_parts tZ;obtain⟨HT,HO,HG,HL⟩:=h4 hT hO Jt hl;go_enter func70,ntmps70;go_wp2;go_loopw[5,8] (fun pc ix wr=>∃(k:Nat),k<=ts.length/\ix=.int .i64 k/\Out wr P (l++(ts.take k).flatten)/\Wr P w wr) (fun _ ix _=>ts.length-(RowKit.intOf ix).toNat)
 case atStart=>exact⟨0,y_,rfl,by simpa using HO.out,Wr.refl _ _⟩
 case round=>
  obtain⟨k,hk,rfl,Jn,hW⟩:=hrel;obtain⟨Jd,HW⟩:=h2 Jn hW;by_cases hlt:k<ts.length
  ·have hc:=HW.out.cell hg HG.out (HT.out k hlt);obtain⟨hP,Js,v,hv,Je⟩:=Jd.out;obtain⟨Jc,HF⟩:=h2 Je Js;have Jr:(l++(ts.take k).flatten).length+(tx ts[k]).size<=1000000000:=by
    have h1:=zz ts (k+1);rw[mA ts k hlt]at h1;have h2:=HL.out;rw[tx_size];simp only[l_a]at h1⊢;omega
   obtain⟨Jf,HS⟩:=h2 Jr (mA ts k hlt);generalize hpc:ts[k]=pc at*;have Jg:Hid (l++(ts.take (k+1)).flatten=(l++(ts.take k).flatten)++pc):=by
    show _=_;rw[HS.out,List.append_assoc]
   generalize hcur:l++(ts.take k).flatten=Jq at Jg Jf Jc Jd;go_wp2_with(at_builtin;refine qA rfl _ _ 22 9 rfl (P+1) 5 i0 underlying22 underlying9 hi Jj Jp Jm v _ _ rfl Jc.out (tx pc) rfl Jf.out o_ ?_);intro v' w2 Ja Jb Jh;rw[tx_size]at Ja;obtain⟨f2,c2,Jo,Jk⟩:=wy Jd.out hv Ja Jb Jh;obtain⟨va,vn,vc,rfl⟩:∃va vn vc,v'=.slice va vn vc:=by
    rcases Ja.2 with⟨rfl,_⟩|⟨g,cap,Jq,rfl,_⟩
    ·exact⟨_,_,_,rfl⟩
    ·exact⟨_,_,_,rfl⟩
   obtain⟨Ji,Jl⟩:=h2 Jo Jk;go_wp2;go_roundw
   case rel=>exact⟨k+1,o_,by go_num,by rw[Jg.out];exact Ji,HW.out.trans Jl⟩
   case measure=>simp[RowKit.intOf];omega
  ·obtain rfl:k=ts.length:=by omega
   go_wp2_with fail;have:=Jd.out;rw[List.take_length]at this;go_end0;exact⟨⟨_,rfl⟩,this,HW⟩
end
section
open Go.RowKit
theorem Ce(P:Nat)(l:List UInt8)(ts:List (List UInt8))(w:World)(hO:Out w P l)(hn:ts.length<=3)(hl:l.length+ts.flatten.length<=1000000000):
  Calls prog 70 #[.pointer (some ⟨P,0,none⟩),.slice (some ⟨w.heap.size,0,none⟩) ts.length ts.length] (w.alloc (.cells (ts.map fun t=>Value.string (tx t)).toArray 9)) fun e w'=>(∃u,e=.returned u)/\Out w' P (l++ts.flatten)/\Wr P w w':=by
 have hb:Bl w (w.alloc (.cells (ts.map fun t=>Value.string (tx t)).toArray 9)):=aD _ _;refine(zA P w.heap.size ts.length l ts _ (hO.below hb) (by have:=hO.1;omega) (hO.rb_ne _) (fun j hj=>?_) n_ o_ hl).mono ?_
 ·simp[hj]
 ·rintro e w' ⟨h1,h2,h3⟩;exact⟨h1,h2,(Wr.below hO.1 hb).trans h3⟩
theorem ik(P:Nat)(l a:List UInt8)(w:World)(hO:Out w P l)(hl:l.length+a.length<=900000000):
  Calls prog 70 #[.pointer (some ⟨P,0,none⟩),.slice (some ⟨w.heap.size,0,none⟩) 1 1] (w.alloc (.cells #[.string (tx a)] 9)) fun e w'=>(∃u,e=.returned u)/\Out w' P (l++a)/\Wr P w w':=by
 have:=Ce P l [a] w hO i_ (by simp;omega)
 simpa using this
theorem wz(P:Nat)(l a b:List UInt8)(w:World)(hO:Out w P l)(hl:l.length+(a.length+b.length)<=900000000):
  Calls prog 70 #[.pointer (some ⟨P,0,none⟩),.slice (some ⟨w.heap.size,0,none⟩) 2 2] (w.alloc (.cells #[.string (tx a),.string (tx b)] 9)) fun e w'=>(∃u,e=.returned u)/\Out w' P (l++(a++b))/\Wr P w w':=by
 have:=Ce P l [a,b] w hO i_ (by simp;omega)
 simpa using this
theorem Cf(P:Nat)(l a b c:List UInt8)(w:World)(hO:Out w P l)(hl:l.length+(a.length+(b.length+c.length))<=900000000):
  Calls prog 70 #[.pointer (some ⟨P,0,none⟩),.slice (some ⟨w.heap.size,0,none⟩) 3 3] (w.alloc (.cells #[.string (tx a),.string (tx b),.string (tx c)] 9)) fun e w'=>(∃u,e=.returned u)/\Out w' P (l++(a++(b++c)))/\Wr P w w':=by
 have:=Ce P l [a,b,c] w hO i_ (by simp;omega)
 simpa using this
def eU(w0:World)(P:Nat)(e:List Nd)(s:List UInt8):Prop:=
 ∀(v:Value) (l:List UInt8) (w:World),ax w0 v e->Below w0.heap.size w0 w->Out w P l->l.length+s.length<=900000000 ->
  Calls prog 169 #[.pointer (some ⟨P,0,none⟩),v] w fun x w'=>(∃u,x=.returned u)/\Out w' P (l++s)/\Wr P w w'
theorem lq(w0:World)(P:Nat)(e:List Nd)(s a b:List UInt8)(hX:eU w0 P e s)(h0:w0.heap.size<=P)(v:Value)(l:List UInt8)(w:World)(hN:ax w0 v e)(hB:Below w0.heap.size w0 w)(hO:Out w P l)(hl:l.length+(a.length+(s.length+b.length))<=900000000):
  Calls prog 145 #[.pointer (some ⟨P,0,none⟩),.string (tx a),v,.string (tx b)] w fun x w'=>(∃u,x=.returned u)/\Out w' P (l++(a++(s++b)))/\Wr P w w':=by
 obtain⟨HX,HN,HB,HO,HL⟩:=h5 hX hN hB hO hl;go_enter func145,ntmps145;go_wp2_with fail;refine(ik P l a w HO.out (by have:=HL.out;omega)).mono ?_;rintro x w1 ⟨⟨u,rfl⟩,Jh,Ja⟩;obtain⟨Jd,Jg⟩:=h2 Jh Ja;have Jc:Hid (Bl w0 w1):=HB.out.trans ((Ja.toBelow HO).mono h0);go_wp2_with fail;refine(HX.out v (l++a) w1 HN.out Jc.out Jd.out (by have:=HL.out;simp only[l_a];omega)).mono ?_;rintro x w2 ⟨⟨u2,rfl⟩,Jk,Je⟩;have Jb:=ah Jk;have Jf:Hid (Wr P w w2):=Jg.out.trans Je;go_wp2_with fail;refine(ik P (l++a++s) b w2 Jb.out (by have:=HL.out;simp only[l_a];omega)).mono ?_;rintro x w3 ⟨⟨u3,rfl⟩,Ji,Jm⟩;have Jj:=ah Ji;have Jl:Hid (Wr P w w3):=Jf.out.trans Jm;go_wp2_with fail;go_end0;refine⟨⟨_,rfl⟩,?_,Jl⟩;have:=Jj.out;simpa only[List.append_assoc]using this
end
section
open Go.RowKit
theorem rX(a:ByteArray)(b c d:Int)(W:World):(Instr.field 206 (.agg #[.string a,.int .i64 b,.int .i64 c,.int .i64 d]) 1).run prog W=.ok (.int .i64 b) W:=by kernel_rfl
theorem il(w0:World)(P:Nat)(e:List Nd)(s:List UInt8)(hX:eU w0 P e s)(h0:w0.heap.size<=P)(hT:kr w0)(he:0<e.length)(Jm:e.length<=1048576)(hg:aB (ay e)=true)(t:Int)(v:Value)(l:List UInt8)(w:World)(hN:ax w0 v e)(hB:Below w0.heap.size w0 w)(hO:Out w P l)(hl:l.length+(cW s (decide (strN (ay e)<t))).length<=900000000):
  Calls prog 186 #[.pointer (some ⟨P,0,none⟩),v,.int .i64 t] w fun x w'=>(∃u,x=.returned u)/\Out w' P (l++cW s (decide (strN (ay e)<t)))/\Wr P w w':=by
 obtain⟨HX,HN,HB,HO,HL,HT,HG⟩:=h7 hX hN hB hO hl hT hg;obtain⟨m,hm⟩:∃m,e.length=m+1:=⟨e.length-1,o_⟩;obtain⟨a,Jo,rfl,Jk,Jp,hc⟩:=hN.below hB;obtain⟨bb,Jn,rfl,Jl⟩:=hc he;obtain⟨d0,d1,d2⟩:=Jl m o_;have hr:e[m]=ay e:=by rw[co e he];simp[hm]
 rw[hr]at d0 d1 d2;have Jj:Hid (kr w):=hT.below hB;generalize hR:ay e=R at d0 d1 d2 HG HL⊢;have e1:((m+1:Nat):Int)-1=(m:Int):=o_;rw[hm]at HN Jk⊢;rw[hm]at Jm;by_cases ht:t<=strN R
 ·have hd:cW s (decide (strN R<t))=s:=by rw[decide_eq_false o_];rfl
  rw[hd]at HL⊢;go_enter func186,ntmps186;go_wp2_with fail;refine(ny R HG.out w Jj).mono ?_;rintro x w1 ⟨⟨sy,k,vv,rfl,-⟩,Ja⟩;have Jc:Hid (Bl w0 w1):=HB.out.trans (Ja.mono HB.out.size);have Jd:Hid (Out w1 P l):=HO.out.below Ja;have Jf:Hid (Wr P w w1):=Wr.below HO.out.1 Ja;have Jh:=rX;go_wp2_with fail;refine(HX.out _ l w1 HN.out Jc.out Jd.out (by have:=HL.out;omega)).mono ?_;rintro x w2 ⟨⟨u2,rfl⟩,Ji,Je⟩;have Jb:=ah Ji;have Jg:Hid (Wr P w w2):=Jf.out.trans Je;go_wp2_with fail;go_end0;exact⟨⟨_,rfl⟩,Jb,Jg⟩
 ·have hd:cW s (decide (strN R<t))=[40]++(s++[41]):=by rw[decide_eq_true o_];rfl
  rw[hd]at HL⊢;go_enter func186,ntmps186;go_wp2_with fail;refine(ny R HG.out w Jj).mono ?_;rintro x w1 ⟨⟨sy,k,vv,rfl,-⟩,Ja⟩;have Jc:Hid (Bl w0 w1):=HB.out.trans (Ja.mono HB.out.size);have Jd:Hid (Out w1 P l):=HO.out.below Ja;have Jf:Hid (Wr P w w1):=Wr.below HO.out.1 Ja;have Jh:=rX;go_wp2_with fail;refine(lq w0 P e s [40] [41] HX.out h0 _ l w1 HN.out Jc.out Jd.out (by have:=HL.out;simp at this⊢;omega)).mono ?_;rintro x w2 ⟨⟨u2,rfl⟩,Ji,Je⟩;have Jb:=ah Ji;have Jg:Hid (Wr P w w2):=Jf.out.trans Je;go_wp2_with fail;go_end0;exact⟨⟨_,rfl⟩,Jb,Jg⟩
end
end Go.Proofs.YtlamjfhhefcohaaGreatDoor
