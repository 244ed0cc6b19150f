import Derived.RowKit
import Derived.Test.YtmddmgpijpjpbaaGreatDoorR06
import Derived.WalkSpells
import Derived.BigQuiet
import Derived.RegionTactic
namespace Go.Proofs.YtmddmgpijpjpbaaGreatDoor
open Go.RowKit
set_option linter.unusedVariables false
set_option linter.unusedSimpArgs false
set_option maxRecDepth 100000
set_option maxHeartbeats 16000000
def numN (v:Int):List Nd:=[⟨1,v,⟨#[]⟩⟩]
def isN:List Nd->Option Int
 | [n]=>if n.kind=1 then some n.val else none
 | _=>none
def boolN (b:Bool):Int:=if b then 1 else 0
def w32 (x:Int):Int:=wrap32 x
def unN (op a:Int):Int:=if op=0 then w32 (-a) else if op=1 then boolN (decide (a=0)) else w32 (-1-a)
def truthL (e:List Nd):List Nd:=match isN e with
 | some v=>numN (boolN (decide (v≠0)))
 | none=>e++[⟨1,0,⟨#[]⟩⟩,⟨7,12,⟨#[]⟩⟩]
def joinF (F:Nat->List Nd):Nat->List Nd
 | 0=>[]
 | i+1=>joinF F i++F i
def fold1 (ap:Int->Int->Int->Int) (n:Nd) (A:Nat) (F:Nat->List Nd):List Nd:=
 if n.kind=6 then (match isN (F 0) with | some x=>numN (unN n.val x) | none=>F 0++[n])
 else if n.kind=7 then (match isN (F 0),isN (F 1) with | some x,some y=>numN (ap n.val x y) | _,_=>F 0++F 1++[n])
 else if n.kind=8 then (match isN (F 0) with | some x=>if x=0 then numN 0 else truthL (F 1) | none=>F 0++F 1++[n])
 else if n.kind=9 then (match isN (F 0) with | some x=>if x=0 then truthL (F 1) else numN 1 | none=>F 0++F 1++[n])
 else joinF F A++[n]
structure FdC (ap:Int->Int->Int->Int)(P:List Nd→List Nd→Prop):Prop where
 c_::
 mk(e:List Nd)(A:Nat)(b:Nat->Nat)(F:Nat->List Nd):Cut e A b→(∀i,i<A->P (kid e b i) (F i))→P e (fold1 ap (rootN e) A F)
structure Fd (ap:Int->Int->Int->Int)(a0:List Nd)(a1:List Nd):Prop where
 c_::
 out:∀P,FdC ap P→P a0 a1
theorem Fd.C{ap:Int->Int->Int->Int}:FdC ap (Fd ap):=⟨fun e A b F q0 q1=>⟨fun P h=>h.mk e A b F q0 (fun i r0=>(q1 i r0).out P h)⟩⟩
abbrev Fd.mk {ap}:=(Fd.C:FdC ap _).mk
theorem Fd_i{ap:Int->Int->Int->Int}{M:∀(a0:List Nd)(a1:List Nd),Fd ap a0 a1→Prop}
 (mk:∀(e:List Nd)(A:Nat)(b:Nat->Nat)(F:Nat->List Nd),Cut e A b→∀q1:∀i,i<A->Fd ap (kid e b i) (F i),(∀ i (r0 : i<A),M (kid e b i) (F i) (q1 i r0))→∀t,M e (fold1 ap (rootN e) A F) t)
 {a0:List Nd}{a1:List Nd}(t:Fd ap a0 a1):M a0 a1 t:=
 (t.out (fun a0 a1=>∃z_,M a0 a1 z_) ⟨fun e A b F q0 q1=>⟨.mk e A b F q0 (fun i r0=>(q1 i r0).1),mk e A b F q0 _ (fun i r0=>(q1 i r0).2) _⟩⟩).2
theorem Fd.exists (ap:Int->Int->Int->Int) (N:Nat) : ∀e:List Nd,e.length<=N->oneB e=true->∃s,Fd ap e s:=by
 induction N with
 | zero=>intro e hl h;have:=one_pos h;omega
 | succ N ih=>
  intro e hl h
  obtain ⟨A,b,hc,hk⟩:=one_cuts h
  have : ∀i,∃s,i<A->Fd ap (kid e b i) s:=by
   intro i
   by_cases hi:i<A
   ·obtain ⟨s,hs⟩:=ih (kid e b i) (by have:=hc.kid_lt i hi;omega) (hk i hi)
    exact ⟨s,fun _=>hs⟩
   ·exact ⟨[],fun h=>absurd h hi⟩
  exact ⟨_,Fd.mk e A b (fun i=>(this i).choose) hc (fun i hi=>(this i).choose_spec hi)⟩
theorem begP_one {ns:List Nd} {k i j:Nat} (h:begP ns k i) (h':begP ns k j):i=j:=by
 obtain ⟨a1,a2,a3⟩:=h
 obtain ⟨b1,b2,b3⟩:=h'
 rcases Nat.lt_trichotomy i j with h | h | h
 ·have:=a3 j h (by omega);omega
 ·exact h
 ·have:=b3 i h (by omega);omega
theorem Cut.one {e:List Nd} {A A':Nat} {b b':Nat->Nat} (h:Cut e A b) (h':Cut e A' b'):A=A'/\∀i,i<=A->b i=b' i:=by
 have hA:A=A':=by have:=h.ar;have:=h'.ar;omega
 subst hA
 refine ⟨rfl,?_⟩
 have : ∀d,d<=A->b (A-d)=b' (A-d):=by
  intro d
  induction d with
  | zero=>intro _;rw [Nat.sub_zero,h.last,h'.last]
  | succ d ih=>
   intro hd
   have e1:=ih (by omega)
   have h1:=h.beg (A-(d+1)) (by omega)
   have h2:=h'.beg (A-(d+1)) (by omega)
   rw [show A-(d+1)+1=A-d by omega] at h1 h2
   rw [<-e1] at h2
   exact begP_one h1 h2
 intro i hi
 have:=this (A-i) (by omega)
 rwa [show A-(A-i)=i by omega] at this
theorem joinF_congr {F F':Nat->List Nd} (A:Nat) (h : ∀i,i<A->F i=F' i):joinF F A=joinF F' A:=by
 induction A with
 | zero=>rfl
 | succ A ih=>simp only [joinF];rw [ih (fun i hi=>h i (by omega)),h A (by omega)]
theorem Cut.ar1 {e:List Nd} {A:Nat} {b:Nat->Nat} (h:Cut e A b) (hk:(rootN e).kind=3∨(rootN e).kind=6):A=1:=by
 have:=h.ar
 unfold arity at this
 rw [if_pos hk] at this
 omega
theorem Cut.ar2 {e:List Nd} {A:Nat} {b:Nat->Nat} (h:Cut e A b) (hk:(rootN e).kind=7∨(rootN e).kind=8∨(rootN e).kind=9):A=2:=by
 have:=h.ar
 unfold arity at this
 rw [if_neg (by omega),if_neg (by omega),if_pos hk] at this
 omega
theorem fold1_congr (ap:Int->Int->Int->Int) {e:List Nd} {A:Nat} {b:Nat->Nat} (hc:Cut e A b) {F F':Nat->List Nd} (h : ∀i,i<A->F i=F' i):fold1 ap (rootN e) A F=fold1 ap (rootN e) A F':=by
 unfold fold1
 split
 ·rename_i hk
  have:=hc.ar1 (.inr hk)
  rw [h 0 (by omega)]
 ·split
  ·rename_i hk
   have:=hc.ar2 (.inl hk)
   rw [h 0 (by omega),h 1 (by omega)]
  ·split
   ·rename_i hk
    have:=hc.ar2 (.inr (.inl hk))
    rw [h 0 (by omega),h 1 (by omega)]
   ·split
    ·rename_i hk
     have:=hc.ar2 (.inr (.inr hk))
     rw [h 0 (by omega),h 1 (by omega)]
    ·rw [joinF_congr A h]
theorem Fd.one {ap:Int->Int->Int->Int} {e r r':List Nd} (h:Fd ap e r) (h':Fd ap e r'):r=r':=by
 induction h using Fd_i generalizing r' with
 | mk e A b F hc hk ih=>
  cases h' using Fd_i with
  | mk _ A' b' F' hc' hk'=>
   obtain ⟨rfl,hb⟩:=hc.one hc'
   have : ∀i,i<A->F i=F' i:=fun i hi=>ih i hi (by
    have e1:kid e b i=kid e b' i:=by unfold kid;rw [hb i (by omega),hb (i+1) (by omega)]
    rw [e1]
    exact hk' i hi)
   exact fold1_congr ap hc this
theorem joinF_len {e:List Nd} {A:Nat} {b:Nat->Nat} {F:Nat->List Nd} (hc:Cut e A b) (h : ∀i,i<A->(F i).length<=(kid e b i).length) : ∀i,i<=A->(joinF F i).length<=b i:=by
 intro i
 induction i with
 | zero=>intro _;simp [joinF]
 | succ i ih=>
  intro hi
  have h1:=ih (by omega)
  have h2:=h i (by omega)
  rw [hc.kid_len i (by omega)] at h2
  have h3:=(hc.beg i (by omega)).1
  simp only [joinF,l_a]
  omega
theorem truthL_len (e:List Nd):(truthL e).length<=e.length+2:=by
 unfold truthL
 split <;> simp [numN]
theorem Fd.len {ap:Int->Int->Int->Int} {e r:List Nd} (h:Fd ap e r):r.length<=e.length:=by
 induction h using Fd_i with
 | mk e A b F hc hk ih=>
  have hl:=hc.len
  have hlast:=hc.last
  have hj:=joinF_len hc ih A (Nat.le_refl _)
  unfold fold1
  split
  ·rename_i hk1
   have e1:=hc.ar1 (.inr hk1)
   subst e1
   have h0:=ih 0 (by omega)
   rw [hc.kid_len 0 (by omega)] at h0
   split
   ·simp [numN];omega
   ·simp only [l_a,l_c,l_n,Nat.zero_add] at *;omega
  ·split
   ·rename_i hk1
    have e1:=hc.ar2 (.inl hk1)
    subst e1
    have h0:=ih 0 (by omega)
    have h1:=ih 1 (by omega)
    have b0:=(hc.beg 0 (by omega)).1
    have b1:=(hc.beg 1 (by omega)).1
    rw [hc.kid_len 0 (by omega)] at h0
    rw [hc.kid_len 1 (by omega)] at h1
    split
    ·simp [numN];omega
    ·simp only [l_a,l_c,l_n,Nat.zero_add,Nat.reduceAdd] at *;omega
   ·split
    ·rename_i hk1
     have e1:=hc.ar2 (.inr (.inl hk1))
     subst e1
     have h0:=ih 0 (by omega)
     have h1:=ih 1 (by omega)
     have b0:=(hc.beg 0 (by omega)).1
     have b1:=(hc.beg 1 (by omega)).1
     rw [hc.kid_len 0 (by omega)] at h0
     rw [hc.kid_len 1 (by omega)] at h1
     have ht:=truthL_len (F 1)
     simp only [Nat.zero_add,Nat.reduceAdd] at *
     split
     ·split
      ·simp [numN];omega
      ·omega
     ·simp only [l_a,l_c,l_n] at *;omega
    ·split
     ·rename_i hk1
      have e1:=hc.ar2 (.inr (.inr hk1))
      subst e1
      have h0:=ih 0 (by omega)
      have h1:=ih 1 (by omega)
      have b0:=(hc.beg 0 (by omega)).1
      have b1:=(hc.beg 1 (by omega)).1
      rw [hc.kid_len 0 (by omega)] at h0
      rw [hc.kid_len 1 (by omega)] at h1
      have ht:=truthL_len (F 1)
      simp only [Nat.zero_add,Nat.reduceAdd] at *
      split
      ·split
       ·omega
       ·simp [numN];omega
      ·simp only [l_a,l_c,l_n] at *;omega
     ·simp only [l_a,l_c,l_n];omega
def moreS (s:St) (a b:List St):List St:=
 if s.kind=4 then (match isN s.e with
  | some v=>if v=0 then b else a
  | none => {s with thn:=a.length,els:=b.length}::(a++b))
 else if s.kind=5 then (if isN s.e=some 0 then [] else {s with thn:=a.length,els:=b.length}::(a++b))
 else {s with thn:=a.length,els:=b.length}::(a++b)
def endsN:Nat->List St->Bool
 | _,[]=>false
 | 0,_::_=>false
 | n+1,s::r=>decide (s.kind=6) || endsN n (r.drop (s.thn.toNat+s.els.toNat))
def endsB (l:List St):Bool:=endsN l.length l
theorem endsN_any (n m:Nat) (l:List St) (hn:l.length<=n) (hm:l.length<=m):endsN n l=endsN m l:=by
 induction n generalizing m l with
 | zero=>
  have:l = []:=List.eq_nil_of_length_eq_zero (by omega)
  subst this
  cases m <;> rfl
 | succ n ih=>
  cases l with
  | nil=>cases m <;> rfl
  | cons s r=>
   cases m with
   | zero=>simp at hm
   | succ m=>
    simp only [l_c] at hn hm
    simp only [endsN]
    rw [ih m (r.drop (s.thn.toNat+s.els.toNat)) (by simp;omega) (by simp;omega)]
theorem endsB_nil:endsB []=false:=rfl
theorem endsB_cons (s:St) (r:List St):endsB (s::r)=(decide (s.kind=6) || endsB (r.drop (s.thn.toNat+s.els.toNat))):=by
 show endsN (r.length+1) (s::r)=_
 simp only [endsN]
 rw [endsN_any r.length _ (r.drop (s.thn.toNat+s.els.toNat)) (by simp) (Nat.le_refl _)]
 rfl
def tidyN:Nat->List St->List St
 | _,[]=>[]
 | 0,_::_=>[]
 | n+1,s::r=>
  if endsB (moreS s (tidyN n (r.take s.thn.toNat)) (tidyN n ((r.drop s.thn.toNat).take s.els.toNat)))=true then moreS s (tidyN n (r.take s.thn.toNat)) (tidyN n ((r.drop s.thn.toNat).take s.els.toNat))
  else moreS s (tidyN n (r.take s.thn.toNat)) (tidyN n ((r.drop s.thn.toNat).take s.els.toNat))++tidyN n (r.drop (s.thn.toNat+s.els.toNat))
def tidyB (l:List St):List St:=tidyN l.length l
theorem tidyN_any (n m:Nat) (l:List St) (hn:l.length<=n) (hm:l.length<=m):tidyN n l=tidyN m l:=by
 induction n generalizing m l with
 | zero=>
  have:l = []:=List.eq_nil_of_length_eq_zero (by omega)
  subst this
  cases m <;> rfl
 | succ n ih=>
  cases l with
  | nil=>cases m <;> rfl
  | cons s r=>
   cases m with
   | zero=>simp at hm
   | succ m=>
    simp only [l_c] at hn hm
    simp only [tidyN]
    rw [ih m (r.take s.thn.toNat) (by simp;omega) (by simp;omega),ih m ((r.drop s.thn.toNat).take s.els.toNat) (by simp;omega) (by simp;omega),ih m (r.drop (s.thn.toNat+s.els.toNat)) (by simp;omega) (by simp;omega)]
theorem tidyB_nil:tidyB [] = []:=rfl
def headM (s:St) (r:List St):List St:=moreS s (tidyB (r.take s.thn.toNat)) (tidyB ((r.drop s.thn.toNat).take s.els.toNat))
theorem tidyB_cons (s:St) (r:List St):tidyB (s::r)=if endsB (headM s r)=true then headM s r else headM s r++tidyB (r.drop (s.thn.toNat+s.els.toNat)):=by
 show tidyN (r.length+1) (s::r)=_
 simp only [tidyN]
 rw [tidyN_any r.length _ (r.take s.thn.toNat) (by simp;omega) (Nat.le_refl _),tidyN_any r.length _ ((r.drop s.thn.toNat).take s.els.toNat) (by simp;omega) (Nat.le_refl _),tidyN_any r.length _ (r.drop (s.thn.toNat+s.els.toNat)) (by simp) (Nat.le_refl _)]
 rfl
theorem moreS_len (s:St) (a b:List St):(moreS s a b).length<=1+a.length+b.length:=by
 unfold moreS
 split
 ·split
  ·split <;> omega
  ·simp;omega
 ·split
  ·split
   ·simp
   ·simp;omega
  ·simp;omega
theorem parts_len (r:List St) (i j:Nat):(r.take i).length+((r.drop i).take j).length+(r.drop (i+j)).length<=r.length:=by
 simp only [List.length_take,List.length_drop]
 omega
theorem tidyB_len : ∀(N:Nat) (l:List St),l.length<=N->(tidyB l).length<=l.length
 | 0,l,h=>by
  have:l = []:=List.eq_nil_of_length_eq_zero (by omega)
  subst this
  simp [tidyB_nil]
 | N+1,[],h=>by simp [tidyB_nil]
 | N+1,s::r,h=>by
  simp only [l_c] at h
  rw [tidyB_cons]
  have h1:=tidyB_len N (r.take s.thn.toNat) (by simp;omega)
  have h2:=tidyB_len N ((r.drop s.thn.toNat).take s.els.toNat) (by simp;omega)
  have h3:=tidyB_len N (r.drop (s.thn.toNat+s.els.toNat)) (by simp;omega)
  have h4:=moreS_len s (tidyB (r.take s.thn.toNat)) (tidyB ((r.drop s.thn.toNat).take s.els.toNat))
  have h5:=parts_len r s.thn.toNat s.els.toNat
  split
  ·unfold headM;simp only [l_c];omega
  ·rw [l_a];unfold headM;simp only [l_c];omega
def FromS (l:List St) (x:St):Prop:=∃s∈l,x.kind=s.kind/\x.name=s.name/\x.e=s.e/\x.f=s.f
theorem FromS.mono {l l':List St} {x:St} (h:FromS l x) (hl : ∀s∈l,s∈l'):FromS l' x:=by
 obtain ⟨s,h1,h2⟩:=h
 exact ⟨s,hl s h1,h2⟩
theorem moreS_from {s:St} {a b l:List St} (hs:s∈l) (ha : ∀x∈a,FromS l x) (hb : ∀x∈b,FromS l x) : ∀x∈moreS s a b,FromS l x:=by
 have key : ∀x∈({s with thn:=a.length,els:=b.length}:St)::(a++b),FromS l x:=by
  intro x hx
  rcases List.mem_cons.1 hx with rfl | hx
  ·exact ⟨s,hs,rfl,rfl,rfl,rfl⟩
  ·rcases List.mem_append.1 hx with hx | hx
   ·exact ha x hx
   ·exact hb x hx
 unfold moreS
 split
 ·split
  ·split
   ·exact hb
   ·exact ha
  ·exact key
 ·split
  ·split
   ·intro x hx;cases hx
   ·exact key
  ·exact key
theorem tidyB_from : ∀(N:Nat) (l:List St),l.length<=N->∀x∈tidyB l,FromS l x
 | 0,l,h=>by
  have:l = []:=List.eq_nil_of_length_eq_zero (by omega)
  subst this
  intro x hx;cases hx
 | N+1,[],h=>by intro x hx;cases hx
 | N+1,s::r,h=>by
  simp only [l_c] at h
  rw [tidyB_cons]
  have h1:=tidyB_from N (r.take s.thn.toNat) (by simp;omega)
  have h2:=tidyB_from N ((r.drop s.thn.toNat).take s.els.toNat) (by simp;omega)
  have h3:=tidyB_from N (r.drop (s.thn.toNat+s.els.toNat)) (by simp;omega)
  have hm : ∀x∈headM s r,FromS (s::r) x:=moreS_from (by simp) (fun x hx=>(h1 x hx).mono fun y hy=>List.mem_cons_of_mem _ (List.mem_of_mem_take hy)) (fun x hx=>(h2 x hx).mono fun y hy=>List.mem_cons_of_mem _ (List.mem_of_mem_drop (List.mem_of_mem_take hy)))
  split
  ·exact hm
  ·intro x hx
   rcases List.mem_append.1 hx with hx | hx
   ·exact hm x hx
   ·exact (h3 x hx).mono fun y hy=>List.mem_cons_of_mem _ (List.mem_of_mem_drop hy)
def Args (w:World) (S:Nat->Prop) (v:Value) (A:Nat) (vs:Nat->Value):Prop:=∃a cap,v = .slice a A cap/\A<=cap/\cap<=9223372036854775807/\(0<A->∃B,a=some ⟨B,0,none⟩/\S B/\∀i,i<A->w.cell? ⟨B,i,none⟩=some (vs i))
structure TvC (w:World)(S:Nat->Prop)(P:Value→List Nd→Prop):Prop where
 c_::
 num(v:Int):P (.iface 222 (.agg #[.int .i64 v])) [⟨1,v,⟨#[]⟩⟩]
 var(s:ByteArray):P (.iface 243 (.agg #[.string s])) [⟨2,0,s⟩]
 index(s:ByteArray)(x:Value)(r:List Nd):P x r→P (.iface 245 (.agg #[.string s,x])) (r++[⟨3,0,s⟩])
 call(s:ByteArray)(ar:Value)(A:Nat)(vs:Nat->Value)(F:Nat->List Nd):Args w S ar A vs→(∀i,i<A->P (vs i) (F i))→P (.iface 247 (.agg #[.string s,ar])) (joinF F A++[⟨4,A,s⟩])
 inn:P (.iface 256 (.agg #[])) [⟨5,0,⟨#[]⟩⟩]
 un(op:Int)(x:Value)(r:List Nd):P x r→P (.iface 249 (.agg #[.int .i64 op,x])) (r++[⟨6,op,⟨#[]⟩⟩])
 bin(op:Int)(x y:Value)(r t:List Nd):P x r→P y t→P (.iface 251 (.agg #[.int .i64 op,x,y])) (r++t++[⟨7,op,⟨#[]⟩⟩])
 and(x y:Value)(r t:List Nd):P x r→P y t→P (.iface 253 (.agg #[x,y])) (r++t++[⟨8,0,⟨#[]⟩⟩])
 or(x y:Value)(r t:List Nd):P x r→P y t→P (.iface 254 (.agg #[x,y])) (r++t++[⟨9,0,⟨#[]⟩⟩])
structure Tv (w:World)(S:Nat->Prop)(a0:Value)(a1:List Nd):Prop where
 c_::
 out:∀P,TvC w S P→P a0 a1
theorem Tv.C{w:World}{S:Nat->Prop}:TvC w S (Tv w S):=⟨fun v=>⟨fun P h=>h.num v⟩,
 fun s=>⟨fun P h=>h.var s⟩,
 fun s x r q0=>⟨fun P h=>h.index s x r (q0.out P h)⟩,
 fun s ar A vs F q0 q1=>⟨fun P h=>h.call s ar A vs F q0 (fun i o0=>(q1 i o0).out P h)⟩,
 ⟨fun P h=>h.inn⟩,
 fun op x r q0=>⟨fun P h=>h.un op x r (q0.out P h)⟩,
 fun op x y r t q0 q1=>⟨fun P h=>h.bin op x y r t (q0.out P h) (q1.out P h)⟩,
 fun x y r t q0 q1=>⟨fun P h=>h.and x y r t (q0.out P h) (q1.out P h)⟩,
 fun x y r t q0 q1=>⟨fun P h=>h.or x y r t (q0.out P h) (q1.out P h)⟩⟩
abbrev Tv.num {w S}:=(Tv.C:TvC w S _).num
abbrev Tv.var {w S}:=(Tv.C:TvC w S _).var
abbrev Tv.index {w S}:=(Tv.C:TvC w S _).index
abbrev Tv.call {w S}:=(Tv.C:TvC w S _).call
abbrev Tv.inn {w S}:=(Tv.C:TvC w S _).inn
abbrev Tv.un {w S}:=(Tv.C:TvC w S _).un
abbrev Tv.bin {w S}:=(Tv.C:TvC w S _).bin
abbrev Tv.and {w S}:=(Tv.C:TvC w S _).and
abbrev Tv.or {w S}:=(Tv.C:TvC w S _).or
theorem Tv_i{w:World}{S:Nat->Prop}{M:∀(a0:Value)(a1:List Nd),Tv w S a0 a1→Prop}
 (num:∀(v:Int),∀u,M (.iface 222 (.agg #[.int .i64 v])) [⟨1,v,⟨#[]⟩⟩] u)
 (var:∀(s:ByteArray),∀u,M (.iface 243 (.agg #[.string s])) [⟨2,0,s⟩] u)
 (index:∀(s:ByteArray)(x:Value)(r:List Nd),∀q0:Tv w S x r,M x r q0→∀u,M (.iface 245 (.agg #[.string s,x])) (r++[⟨3,0,s⟩]) u)
 (call:∀(s:ByteArray)(ar:Value)(A:Nat)(vs:Nat->Value)(F:Nat->List Nd),Args w S ar A vs→∀q1:∀i,i<A->Tv w S (vs i) (F i),(∀ i (o0 : i<A),M (vs i) (F i) (q1 i o0))→∀u,M (.iface 247 (.agg #[.string s,ar])) (joinF F A++[⟨4,A,s⟩]) u)
 (inn:∀u,M (.iface 256 (.agg #[])) [⟨5,0,⟨#[]⟩⟩] u)
 (un:∀(op:Int)(x:Value)(r:List Nd),∀q0:Tv w S x r,M x r q0→∀u,M (.iface 249 (.agg #[.int .i64 op,x])) (r++[⟨6,op,⟨#[]⟩⟩]) u)
 (bin:∀(op:Int)(x y:Value)(r t:List Nd),∀q0:Tv w S x r,∀q1:Tv w S y t,M x r q0→M y t q1→∀u,M (.iface 251 (.agg #[.int .i64 op,x,y])) (r++t++[⟨7,op,⟨#[]⟩⟩]) u)
 (and:∀(x y:Value)(r t:List Nd),∀q0:Tv w S x r,∀q1:Tv w S y t,M x r q0→M y t q1→∀u,M (.iface 253 (.agg #[x,y])) (r++t++[⟨8,0,⟨#[]⟩⟩]) u)
 (or:∀(x y:Value)(r t:List Nd),∀q0:Tv w S x r,∀q1:Tv w S y t,M x r q0→M y t q1→∀u,M (.iface 254 (.agg #[x,y])) (r++t++[⟨9,0,⟨#[]⟩⟩]) u)
 {a0:Value}{a1:List Nd}(u:Tv w S a0 a1):M a0 a1 u:=
 (u.out (fun a0 a1=>∃z_,M a0 a1 z_) ⟨fun v=>⟨.num v,num v _⟩,
 fun s=>⟨.var s,var s _⟩,
 fun s x r q0=>⟨.index s x r q0.1,index s x r _ q0.2 _⟩,
 fun s ar A vs F q0 q1=>⟨.call s ar A vs F q0 (fun i o0=>(q1 i o0).1),call s ar A vs F q0 _ (fun i o0=>(q1 i o0).2) _⟩,
 ⟨.inn,inn _⟩,
 fun op x r q0=>⟨.un op x r q0.1,un op x r _ q0.2 _⟩,
 fun op x y r t q0 q1=>⟨.bin op x y r t q0.1 q1.1,bin op x y r t _ _ q0.2 q1.2 _⟩,
 fun x y r t q0 q1=>⟨.and x y r t q0.1 q1.1,and x y r t _ _ q0.2 q1.2 _⟩,
 fun x y r t q0 q1=>⟨.or x y r t q0.1 q1.1,or x y r t _ _ q0.2 q1.2 _⟩⟩).2
theorem Args.keep {w w':World} {S S':Nat->Prop} {v:Value} {A:Nat} {vs:Nat->Value} (h:Args w S v A vs) (hS : ∀B,S B->S' B) (hk : ∀B,S B->w'.heap[B]? = w.heap[B]?):Args w' S' v A vs:=by
 obtain ⟨a,cap,rfl,h1,h2,h⟩:=h
 refine ⟨a,cap,rfl,h1,h2,fun h0 => ?_⟩
 obtain ⟨B,rfl,hB,hc⟩:=h h0
 exact ⟨B,rfl,hS B hB,fun i hi=>(World.cell?_of_block (a:=⟨B,i,none⟩) (hk B hB)).trans (hc i hi)⟩
theorem Tv.keep {w w':World} {S S':Nat->Prop} {v:Value} {r:List Nd} (h:Tv w S v r) (hS : ∀B,S B->S' B) (hk : ∀B,S B->w'.heap[B]? = w.heap[B]?):Tv w' S' v r:=by
 induction h using Tv_i with
 | num v=>exact .num v
 | var s=>exact .var s
 | index s x r _ ih=>exact .index s x r ih
 | call s ar A vs F ha _ ih=>exact .call s ar A vs F (ha.keep hS hk) ih
 | inn=>exact .inn
 | un op x r _ ih=>exact .un op x r ih
 | bin op x y r t _ _ ih1 ih2=>exact .bin op x y r t ih1 ih2
 | and x y r t _ _ ih1 ih2=>exact .and x y r t ih1 ih2
 | or x y r t _ _ ih1 ih2=>exact .or x y r t ih1 ih2
theorem Tv.pos {w:World} {S:Nat->Prop} {v:Value} {r:List Nd} (h:Tv w S v r):0<r.length:=by
 cases h using Tv_i <;> simp <;> omega
theorem Tv.isI {w:World} {S:Nat->Prop} {v:Value} {r:List Nd} (h:Tv w S v r) : ∃t x,v = .iface t x:=by
 cases h using Tv_i <;> exact ⟨_,_,rfl⟩
theorem Tv.some {w:World} {S:Nat->Prop} {v:Value} {r:List Nd} {x:Int} (h:Tv w S v r) (hx:isN r=some x):v = .iface 222 (.agg #[.int .i64 x]):=by
 cases h using Tv_i with
 | num v=>simp [isN] at hx;rw [hx]
 | var s=>simp [isN] at hx
 | index s x r h=>exfalso;have:=h.pos;cases r with
  | nil=>simp at this
  | cons a l=>cases l <;> simp [isN] at hx
 | call s ar A vs F _ _=>exfalso;cases hj:joinF F A with
  | nil=>rw [hj] at hx;simp [isN] at hx
  | cons a l=>rw [hj] at hx;cases l <;> simp [isN] at hx
 | inn=>simp [isN] at hx
 | un op x r h=>exfalso;have:=h.pos;cases r with
  | nil=>simp at this
  | cons a l=>cases l <;> simp [isN] at hx
 | bin op x y r t h1 h2=>exfalso;have:=h1.pos;cases r with
  | nil=>simp at this
  | cons a l=>cases l <;> cases t <;> simp [isN] at hx
 | and x y r t h1 h2=>exfalso;have:=h1.pos;cases r with
  | nil=>simp at this
  | cons a l=>cases l <;> cases t <;> simp [isN] at hx
 | or x y r t h1 h2=>exfalso;have:=h1.pos;cases r with
  | nil=>simp at this
  | cons a l=>cases l <;> cases t <;> simp [isN] at hx
theorem Tv.none {w:World} {S:Nat->Prop} {v:Value} {r:List Nd} (h:Tv w S v r) (hx:isN r=none) : ∃t x,v = .iface t x/\t≠222:=by
 cases h using Tv_i with
 | num v=>simp [isN] at hx
 | _=>exact ⟨_,_,rfl,by decide⟩
theorem Tv.bel {w w':World} {S:Nat->Prop} {v:Value} {r:List Nd} (h:Tv w S v r) (hS : ∀B,S B->B<w.heap.size) (hb:Below w.heap.size w w'):Tv w' S v r:=h.keep (fun _ h=>h) (fun B hB=>hb.block B (hS B hB))
theorem size0 {s:ByteArray} (h:s.toList = []):s=⟨#[]⟩:=by
 have hl : ∀(n:Nat) (i:Nat) (r:List UInt8),s.size-i=n->ByteArray.toList.loop s i r = []->r = []:=by
  intro n
  induction n with
  | zero=>
   intro i r hi h
   rw [ByteArray.toList.loop,if_neg (by omega)] at h
   simpa using h
  | succ n ih=>
   intro i r hi h
   rw [ByteArray.toList.loop,if_pos (by omega)] at h
   have:=ih (i+1) _ (by omega) h
   simp at this
 have h0:s.size=0:=by
  rcases Nat.eq_zero_or_pos s.size with h0 | hp
  ·exact h0
  ·rw [ByteArray.toList,ByteArray.toList.loop,if_pos hp] at h
   have:=hl _ _ _ rfl h
   simp at this
 apply ByteArray.ext
 exact Array.eq_empty_of_size_eq_zero h0
theorem node_rest {n:Nd} (h:nodeB n=true):(n.kind=1∨n.kind=5∨n.kind=6∨n.kind=7∨n.kind=8∨n.kind=9->n.name=⟨#[]⟩)/\(n.kind=2∨n.kind=3∨n.kind=5∨n.kind=8∨n.kind=9->n.val=0):=by
 unfold nodeB at h
 refine ⟨fun hk => ?_,fun hk => ?_⟩
 ·apply size0
  rcases hk with hk | hk | hk | hk | hk | hk <;> (simp [hk] at h;exact h.2)
 ·rcases hk with hk | hk | hk | hk | hk <;> (simp [hk] at h;exact h.1)
def nodeV (n:Nd) (ar:Value) (vs:Nat->Value):Value:=
 if n.kind=1 then .iface 222 (.agg #[.int .i64 n.val])
 else if n.kind=2 then .iface 243 (.agg #[.string n.name])
 else if n.kind=3 then .iface 245 (.agg #[.string n.name,vs 0])
 else if n.kind=4 then .iface 247 (.agg #[.string n.name,ar])
 else if n.kind=6 then .iface 249 (.agg #[.int .i64 n.val,vs 0])
 else if n.kind=7 then .iface 251 (.agg #[.int .i64 n.val,vs 0,vs 1])
 else if n.kind=8 then .iface 253 (.agg #[vs 0,vs 1])
 else if n.kind=9 then .iface 254 (.agg #[vs 0,vs 1])
 else .iface 256 (.agg #[])
theorem nodeOf_any (n:Nd) (hn:nodeB n=true) (A:Nat) (hA:arity n=A) (S:Nat->Prop) (ar:Value) (vs:Nat->Value) (w:World) (ha:Args w S ar A vs) (hI : ∀i,i<A->∃t x,vs i = .iface t x) :
  Calls Tryz.prog 135 #[.agg #[.int .i64 n.kind,.int .i64 n.val,.string n.name],ar] w fun e w'=>e = .returned (nodeV n ar vs)/\Below w.heap.size w w':=by
 have hkk:=kind_good hn
 obtain ⟨nk,nv,nm⟩:=n
 obtain ⟨a,cap,rfl,hc1,hc2,hc⟩:=ha
 simp only at hkk ⊢
 have hk:nk=1∨nk=2∨nk=3∨nk=4∨nk=5∨nk=6∨nk=7∨nk=8∨nk=9:=by omega
 have bx : ∀o,Bl w (w.alloc o):=fun o=>(Below.refl _ _).alloc (Nat.le_refl _) o
 rcases hk with rfl | rfl | rfl | rfl | rfl | rfl | rfl | rfl | rfl
 ·go_enter Tryz.func135,Tryz.ntmps135
  go_wp2_with fail
  go_ret
  exact ⟨rfl,bx _⟩
 ·go_enter Tryz.func135,Tryz.ntmps135
  go_wp2_with fail
  go_ret
  exact ⟨rfl,bx _⟩
 ·have e1:A=1:=by simp [arity] at hA;omega
  subst e1
  obtain ⟨B,rfl,-,hcc⟩:=hc (by omega)
  have hlt:=World.block_lt_of_cell? _ _ (hcc 0 (by omega))
  have q0 : ∀o,(w.alloc o).cell? ⟨B,0,none⟩=some (vs 0):=fun o=>((bx o).cell (p:=⟨B,0,none⟩) hlt).trans (hcc 0 (by omega))
  obtain ⟨t0,x0,h0⟩:=hI 0 (by omega)
  have HE:Hid (nodeV ⟨3,nv,nm⟩ (.slice (some ⟨B,0,none⟩) 1 cap) vs = .iface 245 (.agg #[.string nm,vs 0])):=rfl
  rw [HE.out]
  rw [h0] at q0 ⊢
  clear hc hcc hI
  go_enter Tryz.func135,Tryz.ntmps135
  go_wp2_with fail
  go_quiet (fail)
  go_wp2_with fail
  go_ret
  exact ⟨rfl,below_drewN (bx _) _⟩
 ·have HE:Hid (nodeV ⟨4,nv,nm⟩ (.slice a A cap) vs = .iface 247 (.agg #[.string nm,.slice a A cap])):=rfl
  rw [HE.out]
  clear hc hI
  go_enter Tryz.func135,Tryz.ntmps135
  go_wp2_with fail
  go_ret
  exact ⟨rfl,bx _⟩
 ·go_enter Tryz.func135,Tryz.ntmps135
  go_wp2_with fail
  go_ret
  exact ⟨rfl,bx _⟩
 ·have e1:A=1:=by simp [arity] at hA;omega
  subst e1
  obtain ⟨B,rfl,-,hcc⟩:=hc (by omega)
  have hlt:=World.block_lt_of_cell? _ _ (hcc 0 (by omega))
  have q0 : ∀o,(w.alloc o).cell? ⟨B,0,none⟩=some (vs 0):=fun o=>((bx o).cell (p:=⟨B,0,none⟩) hlt).trans (hcc 0 (by omega))
  obtain ⟨t0,x0,h0⟩:=hI 0 (by omega)
  have HE:Hid (nodeV ⟨6,nv,nm⟩ (.slice (some ⟨B,0,none⟩) 1 cap) vs = .iface 249 (.agg #[.int .i64 nv,vs 0])):=rfl
  rw [HE.out]
  rw [h0] at q0 ⊢
  clear hc hcc hI
  go_enter Tryz.func135,Tryz.ntmps135
  go_wp2_with fail
  go_quiet (fail)
  go_wp2_with fail
  go_ret
  exact ⟨rfl,below_drewN (bx _) _⟩
 all_goals
  have e1:A=2:=by simp [arity] at hA;omega
  subst e1
  obtain ⟨B,rfl,-,hcc⟩:=hc (by omega)
  have hlt:=World.block_lt_of_cell? _ _ (hcc 0 (by omega))
  have q0 : ∀o,(w.alloc o).cell? ⟨B,0,none⟩=some (vs 0):=fun o=>((bx o).cell (p:=⟨B,0,none⟩) hlt).trans (hcc 0 (by omega))
  have q1 : ∀o,(w.alloc o).cell? ⟨B,1,none⟩=some (vs 1):=fun o=>((bx o).cell (p:=⟨B,1,none⟩) hlt).trans (hcc 1 (by omega))
  obtain ⟨t0,x0,h0⟩:=hI 0 (by omega)
  obtain ⟨t1,x1,h1⟩:=hI 1 (by omega)
  clear hc hcc hI
 ·have HE:Hid (nodeV ⟨7,nv,nm⟩ (.slice (some ⟨B,0,none⟩) 2 cap) vs = .iface 251 (.agg #[.int .i64 nv,vs 0,vs 1])):=rfl
  rw [HE.out]
  rw [h0] at q0
  rw [h1] at q1
  rw [h0,h1]
  go_enter Tryz.func135,Tryz.ntmps135
  go_wp2_with fail
  go_quiet (fail)
  go_wp2_with fail
  go_ret
  exact ⟨rfl,below_drewN (bx _) _⟩
 ·have HE:Hid (nodeV ⟨8,nv,nm⟩ (.slice (some ⟨B,0,none⟩) 2 cap) vs = .iface 253 (.agg #[vs 0,vs 1])):=rfl
  rw [HE.out]
  rw [h0] at q0
  rw [h1] at q1
  rw [h0,h1]
  go_enter Tryz.func135,Tryz.ntmps135
  go_wp2_with fail
  go_quiet (fail)
  go_wp2_with fail
  go_ret
  exact ⟨rfl,below_drewN (bx _) _⟩
 ·have HE:Hid (nodeV ⟨9,nv,nm⟩ (.slice (some ⟨B,0,none⟩) 2 cap) vs = .iface 254 (.agg #[vs 0,vs 1])):=rfl
  rw [HE.out]
  rw [h0] at q0
  rw [h1] at q1
  rw [h0,h1]
  go_enter Tryz.func135,Tryz.ntmps135
  go_wp2_with fail
  go_quiet (fail)
  go_wp2_with fail
  go_ret
  exact ⟨rfl,below_drewN (bx _) _⟩
theorem nodeT (n:Nd) (hn:nodeB n=true) (A:Nat) (hA:arity n=A) (w:World) (S:Nat->Prop) (ar:Value) (vs:Nat->Value) (F:Nat->List Nd) (ha:Args w S ar A vs) (hv : ∀i,i<A->Tv w S (vs i) (F i)):Tv w S (nodeV n ar vs) (joinF F A++[n]):=by
 have hkk:=kind_good hn
 obtain ⟨hr1,hr2⟩:=node_rest hn
 obtain ⟨nk,nv,nm⟩:=n
 simp only at hkk hr1 hr2
 have hk:nk=1∨nk=2∨nk=3∨nk=4∨nk=5∨nk=6∨nk=7∨nk=8∨nk=9:=by omega
 rcases hk with rfl | rfl | rfl | rfl | rfl | rfl | rfl | rfl | rfl
 ·obtain rfl:=hr1 (by omega)
  have e1:A=0:=by simp [arity] at hA;omega
  subst e1
  exact .num nv
 ·obtain rfl:=hr2 (by omega)
  have e1:A=0:=by simp [arity] at hA;omega
  subst e1
  exact .var nm
 ·obtain rfl:=hr2 (by omega)
  have e1:A=1:=by simp [arity] at hA;omega
  subst e1
  exact .index nm _ _ (hv 0 (by omega))
 ·have e1:nv=A:=by simp [arity] at hA;omega
  subst e1
  exact .call nm ar A vs F ha hv
 ·obtain rfl:=hr1 (by omega)
  obtain rfl:=hr2 (by omega)
  have e1:A=0:=by simp [arity] at hA;omega
  subst e1
  exact .inn
 ·obtain rfl:=hr1 (by omega)
  have e1:A=1:=by simp [arity] at hA;omega
  subst e1
  exact .un nv _ _ (hv 0 (by omega))
 ·obtain rfl:=hr1 (by omega)
  have e1:A=2:=by simp [arity] at hA;omega
  subst e1
  exact .bin nv _ _ _ _ (hv 0 (by omega)) (hv 1 (by omega))
 ·obtain rfl:=hr1 (by omega)
  obtain rfl:=hr2 (by omega)
  have e1:A=2:=by simp [arity] at hA;omega
  subst e1
  exact .and _ _ _ _ (hv 0 (by omega)) (hv 1 (by omega))
 ·obtain rfl:=hr1 (by omega)
  obtain rfl:=hr2 (by omega)
  have e1:A=2:=by simp [arity] at hA;omega
  subst e1
  exact .or _ _ _ _ (hv 0 (by omega)) (hv 1 (by omega))
def joinS (F:Nat->List St):Nat->List St
 | 0=>[]
 | A+1=>joinS F A++F A
structure BvC (w:World)(S:Nat->Prop)(P:Value→List St→Prop):Prop where
 c_::
 decl(s:St)(x:Value):(s.kind=1)→Tv w S x s.e→(s.thn=0)→(s.els=0)→P (.iface 198 (.agg #[.string s.name,x])) [s]
 set(s:St)(x:Value):(s.kind=2)→Tv w S x s.e→(s.thn=0)→(s.els=0)→P (.iface 199 (.agg #[.string s.name,x])) [s]
 store(s:St)(x y:Value):(s.kind=3)→Tv w S x s.e→Tv w S y s.f→(s.thn=0)→(s.els=0)→P (.iface 201 (.agg #[.string s.name,x,y])) [s]
 ifs(s:St)(x va vb:Value)(A B:Nat)(vs us:Nat->Value)(F H:Nat->List St):(s.kind=4)→Tv w S x s.e→Args w S va A vs→(∀i,i<A->P (vs i) (F i))→Args w S vb B us→(∀i,i<B->P (us i) (H i))→(s.thn=(joinS F A).length)→(s.els=(joinS H B).length)→P (.iface 203 (.agg #[x,va,vb])) (s::joinS F A++joinS H B)
 whil(s:St)(x va:Value)(A:Nat)(vs:Nat->Value)(F:Nat->List St):(s.kind=5)→Tv w S x s.e→Args w S va A vs→(∀i,i<A->P (vs i) (F i))→(s.thn=(joinS F A).length)→(s.els=0)→P (.iface 205 (.agg #[x,va])) (s::joinS F A)
 ret(s:St)(x:Value):(s.kind=6)→Tv w S x s.e→(s.thn=0)→(s.els=0)→P (.iface 172 (.agg #[x])) [s]
 out(s:St)(x:Value):(s.kind=7)→Tv w S x s.e→(s.thn=0)→(s.els=0)→P (.iface 206 (.agg #[x])) [s]
 call(s:St)(x:Value):(s.kind=8)→Tv w S x s.e→(s.thn=0)→(s.els=0)→P (.iface 207 (.agg #[x])) [s]
structure Bv (w:World)(S:Nat->Prop)(a0:Value)(a1:List St):Prop where
 c_::
 f_:∀P,BvC w S P→P a0 a1
theorem Bv.C{w:World}{S:Nat->Prop}:BvC w S (Bv w S):=⟨fun s x q0 q1 q2 q3=>⟨fun P h=>h.decl s x q0 q1 q2 q3⟩,
 fun s x q0 q1 q2 q3=>⟨fun P h=>h.set s x q0 q1 q2 q3⟩,
 fun s x y q0 q1 q2 q3 q4=>⟨fun P h=>h.store s x y q0 q1 q2 q3 q4⟩,
 fun s x va vb A B vs us F H q0 q1 q2 q3 q4 q5 q6 q7=>⟨fun P h=>h.ifs s x va vb A B vs us F H q0 q1 q2 (fun i r0=>(q3 i r0).f_ P h) q4 (fun i r0=>(q5 i r0).f_ P h) q6 q7⟩,
 fun s x va A vs F q0 q1 q2 q3 q4 q5=>⟨fun P h=>h.whil s x va A vs F q0 q1 q2 (fun i r0=>(q3 i r0).f_ P h) q4 q5⟩,
 fun s x q0 q1 q2 q3=>⟨fun P h=>h.ret s x q0 q1 q2 q3⟩,
 fun s x q0 q1 q2 q3=>⟨fun P h=>h.out s x q0 q1 q2 q3⟩,
 fun s x q0 q1 q2 q3=>⟨fun P h=>h.call s x q0 q1 q2 q3⟩⟩
abbrev Bv.decl {w S}:=(Bv.C:BvC w S _).decl
abbrev Bv.set {w S}:=(Bv.C:BvC w S _).set
abbrev Bv.store {w S}:=(Bv.C:BvC w S _).store
abbrev Bv.ifs {w S}:=(Bv.C:BvC w S _).ifs
abbrev Bv.whil {w S}:=(Bv.C:BvC w S _).whil
abbrev Bv.ret {w S}:=(Bv.C:BvC w S _).ret
abbrev Bv.out {w S}:=(Bv.C:BvC w S _).out
abbrev Bv.call {w S}:=(Bv.C:BvC w S _).call
theorem Bv_i{w:World}{S:Nat->Prop}{M:∀(a0:Value)(a1:List St),Bv w S a0 a1→Prop}
 (decl:∀(s:St)(x:Value),(s.kind=1)→Tv w S x s.e→(s.thn=0)→(s.els=0)→∀t,M (.iface 198 (.agg #[.string s.name,x])) [s] t)
 (set:∀(s:St)(x:Value),(s.kind=2)→Tv w S x s.e→(s.thn=0)→(s.els=0)→∀t,M (.iface 199 (.agg #[.string s.name,x])) [s] t)
 (store:∀(s:St)(x y:Value),(s.kind=3)→Tv w S x s.e→Tv w S y s.f→(s.thn=0)→(s.els=0)→∀t,M (.iface 201 (.agg #[.string s.name,x,y])) [s] t)
 (ifs:∀(s:St)(x va vb:Value)(A B:Nat)(vs us:Nat->Value)(F H:Nat->List St),(s.kind=4)→Tv w S x s.e→Args w S va A vs→∀q3:∀i,i<A->Bv w S (vs i) (F i),Args w S vb B us→∀q5:∀i,i<B->Bv w S (us i) (H i),(s.thn=(joinS F A).length)→(s.els=(joinS H B).length)→(∀ i (r0 : i<A),M (vs i) (F i) (q3 i r0))→(∀ i (r0 : i<B),M (us i) (H i) (q5 i r0))→∀t,M (.iface 203 (.agg #[x,va,vb])) (s::joinS F A++joinS H B) t)
 (whil:∀(s:St)(x va:Value)(A:Nat)(vs:Nat->Value)(F:Nat->List St),(s.kind=5)→Tv w S x s.e→Args w S va A vs→∀q3:∀i,i<A->Bv w S (vs i) (F i),(s.thn=(joinS F A).length)→(s.els=0)→(∀ i (r0 : i<A),M (vs i) (F i) (q3 i r0))→∀t,M (.iface 205 (.agg #[x,va])) (s::joinS F A) t)
 (ret:∀(s:St)(x:Value),(s.kind=6)→Tv w S x s.e→(s.thn=0)→(s.els=0)→∀t,M (.iface 172 (.agg #[x])) [s] t)
 (out:∀(s:St)(x:Value),(s.kind=7)→Tv w S x s.e→(s.thn=0)→(s.els=0)→∀t,M (.iface 206 (.agg #[x])) [s] t)
 (call:∀(s:St)(x:Value),(s.kind=8)→Tv w S x s.e→(s.thn=0)→(s.els=0)→∀t,M (.iface 207 (.agg #[x])) [s] t)
 {a0:Value}{a1:List St}(t:Bv w S a0 a1):M a0 a1 t:=
 (t.f_ (fun a0 a1=>∃z_,M a0 a1 z_) ⟨fun s x q0 q1 q2 q3=>⟨.decl s x q0 q1 q2 q3,decl s x q0 q1 q2 q3 _⟩,
 fun s x q0 q1 q2 q3=>⟨.set s x q0 q1 q2 q3,set s x q0 q1 q2 q3 _⟩,
 fun s x y q0 q1 q2 q3 q4=>⟨.store s x y q0 q1 q2 q3 q4,store s x y q0 q1 q2 q3 q4 _⟩,
 fun s x va vb A B vs us F H q0 q1 q2 q3 q4 q5 q6 q7=>⟨.ifs s x va vb A B vs us F H q0 q1 q2 (fun i r0=>(q3 i r0).1) q4 (fun i r0=>(q5 i r0).1) q6 q7,ifs s x va vb A B vs us F H q0 q1 q2 _ q4 _ q6 q7 (fun i r0=>(q3 i r0).2) (fun i r0=>(q5 i r0).2) _⟩,
 fun s x va A vs F q0 q1 q2 q3 q4 q5=>⟨.whil s x va A vs F q0 q1 q2 (fun i r0=>(q3 i r0).1) q4 q5,whil s x va A vs F q0 q1 q2 _ q4 q5 (fun i r0=>(q3 i r0).2) _⟩,
 fun s x q0 q1 q2 q3=>⟨.ret s x q0 q1 q2 q3,ret s x q0 q1 q2 q3 _⟩,
 fun s x q0 q1 q2 q3=>⟨.out s x q0 q1 q2 q3,out s x q0 q1 q2 q3 _⟩,
 fun s x q0 q1 q2 q3=>⟨.call s x q0 q1 q2 q3,call s x q0 q1 q2 q3 _⟩⟩).2
theorem Bv.keep {w w':World} {S S':Nat->Prop} {v:Value} {r:List St} (h:Bv w S v r) (hS : ∀B,S B->S' B) (hk : ∀B,S B->w'.heap[B]? = w.heap[B]?):Bv w' S' v r:=by
 induction h using Bv_i with
 | decl s x h1 h2 h3 h4=>exact .decl s x h1 (h2.keep hS hk) h3 h4
 | set s x h1 h2 h3 h4=>exact .set s x h1 (h2.keep hS hk) h3 h4
 | store s x y h1 h2 h3 h4 h5=>exact .store s x y h1 (h2.keep hS hk) (h3.keep hS hk) h4 h5
 | ifs s x va vb A B vs us F H h1 h2 h3 h4 h5 h6 h7 h8 ih1 ih2=>exact .ifs s x va vb A B vs us F H h1 (h2.keep hS hk) (h3.keep hS hk) ih1 (h5.keep hS hk) ih2 h7 h8
 | whil s x va A vs F h1 h2 h3 h4 h5 h6 ih=>exact .whil s x va A vs F h1 (h2.keep hS hk) (h3.keep hS hk) ih h5 h6
 | ret s x h1 h2 h3 h4=>exact .ret s x h1 (h2.keep hS hk) h3 h4
 | out s x h1 h2 h3 h4=>exact .out s x h1 (h2.keep hS hk) h3 h4
 | call s x h1 h2 h3 h4=>exact .call s x h1 (h2.keep hS hk) h3 h4
theorem Bv.bel {w w':World} {S:Nat->Prop} {v:Value} {r:List St} (h:Bv w S v r) (hS : ∀B,S B->B<w.heap.size) (hb:Below w.heap.size w w'):Bv w' S v r:=h.keep (fun _ h=>h) (fun B hB=>hb.block B (hS B hB))
theorem Bv.isI {w:World} {S:Nat->Prop} {v:Value} {r:List St} (h:Bv w S v r) : ∃t x,v = .iface t x:=by
 cases h using Bv_i <;> exact ⟨_,_,rfl⟩
def Bk (w:World) (S:Nat->Prop) (v:Value) (ss:List St):Prop:=∃(A:Nat) (vs:Nat->Value) (F:Nat->List St),Args w S v A vs/\(∀i,i<A->Bv w S (vs i) (F i))/\ss=joinS F A
theorem Bk.keep {w w':World} {S S':Nat->Prop} {v:Value} {ss:List St} (h:Bk w S v ss) (hS : ∀B,S B->S' B) (hk : ∀B,S B->w'.heap[B]? = w.heap[B]?):Bk w' S' v ss:=by
 obtain ⟨A,vs,F,h1,h2,h3⟩:=h
 exact ⟨A,vs,F,h1.keep hS hk,fun i hi=>(h2 i hi).keep hS hk,h3⟩
theorem Bk.bel {w w':World} {S:Nat->Prop} {v:Value} {ss:List St} (h:Bk w S v ss) (hS : ∀B,S B->B<w.heap.size) (hb:Below w.heap.size w w'):Bk w' S v ss:=h.keep (fun _ h=>h) (fun B hB=>hb.block B (hS B hB))
structure One (l:List St) (s:St) (a b:List St):Prop where
 is:l=s::(a++b)
 thn:s.thn=a.length
 els:s.els=b.length
theorem One.take {l:List St} {s:St} {a b:List St} (h:One l s a b) (rest:List St):(a++b++rest).take s.thn.toNat=a/\((a++b++rest).drop s.thn.toNat).take s.els.toNat=b/\(a++b++rest).drop (s.thn.toNat+s.els.toNat)=rest:=by
 have e1:s.thn.toNat=a.length:=by rw [h.thn];simp
 have e2:s.els.toNat=b.length:=by rw [h.els];simp
 rw [e1,e2]
 refine ⟨by simp,by simp,?_⟩
 rw [<-l_a]
 simp
theorem One.tidy {l:List St} {s:St} {a b:List St} (h:One l s a b) (rest:List St):tidyB (l++rest)=if endsB (moreS s (tidyB a) (tidyB b))=true then moreS s (tidyB a) (tidyB b) else moreS s (tidyB a) (tidyB b)++tidyB rest:=by
 have e:l++rest=s::(a++b++rest):=by rw [h.is];simp
 obtain ⟨e1,e2,e3⟩:=h.take rest
 rw [e,tidyB_cons]
 unfold headM
 rw [e1,e2,e3]
theorem One.ends {l:List St} {s:St} {a b:List St} (h:One l s a b) (rest:List St):endsB (l++rest)=(decide (s.kind=6) || endsB rest):=by
 have e:l++rest=s::(a++b++rest):=by rw [h.is];simp
 obtain ⟨e1,e2,e3⟩:=h.take rest
 rw [e,endsB_cons,e3]
theorem Bv.one {w:World} {S:Nat->Prop} {v:Value} {l:List St} (h:Bv w S v l) : ∃s a b,One l s a b:=by
 cases h using Bv_i with
 | decl s x h1 h2 h3 h4=>exact ⟨s,[],[],rfl,h3,h4⟩
 | set s x h1 h2 h3 h4=>exact ⟨s,[],[],rfl,h3,h4⟩
 | store s x y h1 h2 h3 h4 h5=>exact ⟨s,[],[],rfl,h4,h5⟩
 | ifs s x va vb A B vs us F H h1 h2 h3 h4 h5 h6 h7 h8=>exact ⟨s,_,_,rfl,h7,h8⟩
 | whil s x va A vs F h1 h2 h3 h4 h5 h6=>exact ⟨s,joinS F A,[],by simp,h5,h6⟩
 | ret s x h1 h2 h3 h4=>exact ⟨s,[],[],rfl,h3,h4⟩
 | out s x h1 h2 h3 h4=>exact ⟨s,[],[],rfl,h3,h4⟩
 | call s x h1 h2 h3 h4=>exact ⟨s,[],[],rfl,h3,h4⟩
end Go.Proofs.YtmddmgpijpjpbaaGreatDoor
