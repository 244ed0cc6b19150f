import Derived.WalkKit
import Derived.Test.YtnpidjamplmgjaaGreatDoorQ00
import Derived.RowKit
namespace Go.Proofs.YtnpidjamplmgjaaGreatDoor
open Go.RowKit
set_option linter.unusedVariables false
set_option linter.unusedSimpArgs false
set_option maxRecDepth 100000
set_option maxHeartbeats 16000000
structure Nd where
 kind:Int
 val:Int
 name:ByteArray
structure St where
 kind:Int
 name:ByteArray
 e:List Nd
 f:List Nd
 thn:Int
 els:Int
structure Fu where
 name:ByteArray
 params:List ByteArray
 body:List St
structure Gl where
 name:ByteArray
 size:Int
structure Tr where
 globals:List Gl
 funcs:List Fu
def smallB (c:Int):Bool:=decide (97<=c/\c<=122∨c=95)
def digitB (c:Int):Bool:=decide (48<=c/\c<=57)
def laterB (c:Int):Bool:=smallB c || digitB c
def resB (s:ByteArray):Bool:=
 s.toList == [105,110,116] || s.toList == [105,102] || s.toList == [101,108,115,101] || s.toList == [119,104,105,108,101] || s.toList == [114,101,116,117,114,110] || s.toList == [105,110] || s.toList == [111,117,116]
def byteAt (s:ByteArray) (k:Nat):Int:=((s.data.toList.getD k 0).toNat:Int)
def laterTo (s:ByteArray) (k:Nat):Prop:=∀j,j<k->laterB (byteAt s j)=true
def nameP (s:ByteArray):Prop:=1<=s.size/\s.size<=20/\smallB (byteAt s 0)=true/\(∀j,j<s.size->laterB (byteAt s j)=true)/\resB s=false
def nameB (s : ByteArray) : Bool := @decide (nameP s) (inferInstanceAs (Decidable (1<=s.size/\s.size<=20/\smallB (byteAt s 0)=true/\(∀j,j<s.size->laterB (byteAt s j)=true)/\resB s=false)))
def arity (n:Nd):Int:=if n.kind=3∨n.kind=6 then 1 else if n.kind=4 then n.val else if n.kind=7∨n.kind=8∨n.kind=9 then 2 else 0
def nodeB (n:Nd):Bool:=
 if n.kind=1 then decide (-2147483648<=n.val/\n.val<=2147483647) && n.name.toList == []
 else if n.kind=2∨n.kind=3 then decide (n.val=0) && nameB n.name
 else if n.kind=4 then decide (0<=n.val/\n.val<=6) && nameB n.name
 else if n.kind=6 then decide (0<=n.val/\n.val<=2) && n.name.toList == []
 else if n.kind=7 then decide (0<=n.val/\n.val<=15) && n.name.toList == []
 else if n.kind=5∨n.kind=8∨n.kind=9 then decide (n.val=0) && n.name.toList == []
 else false
theorem arity_good {n:Nd} (h:nodeB n=true):0<=arity n/\arity n<=6:=by
 unfold nodeB at h
 unfold arity
 by_cases h4:n.kind=4
 ·simp [h4] at h ⊢
  omega
 ·split <;> (try split) <;> (try split) <;> omega
def wholeTo:List Nd->Int->Option Int
 | [],k=>some k
 | n::r,k=>if nodeB n=true/\arity n<=k then wholeTo r (k+1-arity n) else none
def oneB (e:List Nd):Bool:=wholeTo e 0 == some 1
theorem kind_good {n:Nd} (h:nodeB n=true):1<=n.kind/\n.kind<=9:=by
 by_cases hk:n.kind<1∨9<n.kind
 ·unfold nodeB at h
  rw [if_neg o_,if_neg o_,if_neg o_,if_neg o_,if_neg o_,if_neg o_] at h
  cases h
 ·omega
theorem wholeTo_append (a b:List Nd) (k:Int):wholeTo (a++b) k=(wholeTo a k).bind (wholeTo b):=by
 induction a generalizing k with
 | nil=>rfl
 | cons n r ih=>
  simp only [List.cons_append,wholeTo]
  split
  ·exact ih _
  ·rfl
theorem wholeTo_bd (a:List Nd) (k q:Int) (h:wholeTo a k=some q) (hk:0<=k):0<=q/\q<=k+a.length:=by
 induction a generalizing k with
 | nil=>simp only [wholeTo,Option.some.injEq] at h;subst h;simp;omega
 | cons n r ih=>
  simp only [wholeTo] at h
  split at h
  ·rename_i hn
   have:=arity_good hn.1
   have:=ih _ h o_
   simp only [l_c]
   omega
  ·cases h
theorem take_succ {α:Type} (l:List α) (k:Nat) (h:k<l.length):l.take (k+1)=l.take k++[l[k]]:=by
 rw [List.take_succ_eq_append_getElem h]
theorem wholeTo_step (l:List Nd) (k:Nat) (q:Int) (h:k<l.length) (hq:wholeTo (l.take k) 0=some q) :
  wholeTo (l.take (k+1)) 0=if nodeB l[k]=true/\arity l[k]<=q then some (q+1-arity l[k]) else none:=by
 rw [take_succ l k h,wholeTo_append,hq]
 simp [wholeTo]
theorem oneB_none (l:List Nd) (k:Nat) (h:wholeTo (l.take k) 0=none):oneB l=false:=by
 have:wholeTo l 0=none:=by
  rw [<-List.take_append_drop k l,wholeTo_append,h];rfl
 simp [oneB,this]
theorem oneB_some (l:List Nd) (q:Int) (h:wholeTo (l.take l.length) 0=some q):oneB l=(q == 1):=by
 rw [List.take_length] at h
 simp only [oneB,h]
 apply Bool.eq_iff_iff.2
 simp
def defc:List Nd->Int
 | []=>1
 | n::r=>defc r+arity n-1
def goodAll (l:List Nd):Prop:=∀n∈l,nodeB n=true
theorem wholeTo_iff (l:List Nd) (hg:goodAll l) (k:Int):wholeTo l k=some 1↔defc l=k/\∀j,1<=j->j<=l.length->1<=defc (l.drop j):=by
 induction l generalizing k with
 | nil=>
  simp only [wholeTo,Option.some.injEq,defc,l_n,List.drop_nil]
  constructor
  ·rintro rfl;exact ⟨rfl,fun j _ _=>Int.le_refl _⟩
  ·rintro ⟨rfl,_⟩;rfl
 | cons n r ih=>
  have hn:nodeB n=true:=hg n (by simp)
  have ih':=ih (fun m hm=>hg m (by simp [hm]))
  simp only [wholeTo,hn,true_and]
  by_cases ha:arity n<=k
  ·rw [if_pos ha,ih',defc]
   constructor
   ·rintro ⟨h1,h2⟩
    refine ⟨by omega,fun j hj1 hj2 => ?_⟩
    obtain ⟨j',rfl⟩ : ∃j',j=j'+1:=⟨j-1,by omega⟩
    rw [List.drop_succ_cons]
    rcases Nat.eq_zero_or_pos j' with rfl | hp
    ·rw [List.drop_zero];omega
    ·exact h2 j' hp (by simpa using hj2)
   ·rintro ⟨h1,h2⟩
    refine ⟨by omega,fun j hj1 hj2 => ?_⟩
    have:=h2 (j+1) o_ (by simpa using hj2)
    rwa [List.drop_succ_cons] at this
  ·rw [if_neg ha]
   constructor
   ·intro h;cases h
   ·rintro ⟨h1,h2⟩
    exfalso
    have:=h2 1 (Nat.le_refl _) (by simp)
    simp only [List.drop_succ_cons,List.drop_zero] at this
    simp only [defc] at h1
    omega
theorem wholeTo_good (l:List Nd) (k q:Int) (h:wholeTo l k=some q):goodAll l:=by
 induction l generalizing k with
 | nil=>intro n hn;cases hn
 | cons m r ih=>
  simp only [wholeTo] at h
  split at h
  ·rename_i hm
   intro n hn
   rcases List.mem_cons.1 hn with rfl | hn
   ·exact hm.1
   ·exact ih _ h n hn
  ·cases h
theorem oneB_iff (l:List Nd):oneB l=true↔goodAll l/\defc l=0/\∀j,1<=j->j<=l.length->1<=defc (l.drop j):=by
 constructor
 ·intro h
  have h':wholeTo l 0=some 1:=by simpa [oneB] using h
  have hg:=wholeTo_good l 0 1 h'
  exact ⟨hg,(wholeTo_iff l hg 0).1 h'⟩
 ·rintro ⟨hg,h⟩
  have:=(wholeTo_iff l hg 0).2 h
  simp [oneB,this]
def fromP (l:List Nd) (r:Int):Prop:=
 (∃i:Nat,r=i/\i<l.length/\defc (l.drop i)=0/\∀j,i<j->j<=l.length->1<=defc (l.drop j))∨(r = -1/\∀j,j<=l.length->1<=defc (l.drop j))
theorem fromP_one {l:List Nd} {r:Int} (hg:goodAll l) (h:fromP l r):(r == 0)=oneB l:=by
 apply Bool.eq_iff_iff.2
 rw [oneB_iff]
 simp only [beq_iff_eq]
 rcases h with ⟨i,rfl,hi,h0,hj⟩ | ⟨rfl,hj⟩
 ·constructor
  ·intro h
   obtain rfl:i=0:=by omega
   exact ⟨hg,by simpa using h0,fun j h1 h2=>hj j o_ h2⟩
  ·rintro ⟨_,_,h⟩
   rcases Nat.eq_zero_or_pos i with rfl | hp
   ·rfl
   ·have:=h i hp o_;omega
 ·constructor
  ·intro h;omega
  ·rintro ⟨_,h,_⟩
   have:=hj 0 (Nat.zero_le _)
   rw [List.drop_zero] at this
   omega
theorem defc_drop (l:List Nd) (i:Nat) (h:i<l.length):defc (l.drop i)=defc (l.drop (i+1))+arity l[i]-1:=by
 rw [List.drop_eq_getElem_cons h,defc]
theorem defc_le (l:List Nd) (hg:goodAll l):defc l<=1+6*l.length:=by
 induction l with
 | nil=>simp [defc]
 | cons n r ih=>
  have:=ih (fun m hm=>hg m (by simp [hm]))
  have:=arity_good (hg n (by simp))
  simp only [defc,l_c]
  omega
theorem goodAll_drop {l:List Nd} (hg:goodAll l) (i:Nat):goodAll (l.drop i):=fun n hn=>hg n (List.mem_of_mem_drop hn)
def begP (ns:List Nd) (k i:Nat):Prop:=i<k/\defc ((ns.take k).drop i)=0/\∀j,i<j->j<=k->1<=defc ((ns.take k).drop j)
theorem whole_defc (l:List Nd) (k q:Int) (h:wholeTo l k=some q):defc l=1+k-q:=by
 induction l generalizing k with
 | nil=>simp only [wholeTo,Option.some.injEq] at h;subst h;simp [defc]
 | cons n r ih=>
  simp only [wholeTo] at h
  split at h
  ·have:=ih _ h
   simp only [defc]
   omega
  ·cases h
theorem whole_take (l:List Nd) (k q:Int) (h:wholeTo l k=some q) (j:Nat) : ∃p,wholeTo (l.take j) k=some p/\wholeTo (l.drop j) p=some q:=by
 rw [<-List.take_append_drop j l,wholeTo_append] at h
 cases e:wholeTo (l.take j) k with
 | none=>rw [e] at h;cases h
 | some p=>rw [e] at h;exact ⟨p,rfl,h⟩
theorem whole_pos (l:List Nd) (q:Int) (hl:0<l.length) (h:wholeTo l 0=some q):1<=q:=by
 obtain ⟨m,hm⟩ : ∃m,l.length=m+1:=⟨l.length-1,by omega⟩
 obtain ⟨p,h1,h2⟩:=whole_take l 0 q h m
 have:=wholeTo_step l m p o_ h1
 rw [<-hm,List.take_length,h] at this
 split at this
 ·rename_i hh
  simp only [Option.some.injEq] at this
  omega
 ·cases this
theorem whole_one (l:List Nd) (p:Int) (h:wholeTo l 0=some p) (m:Nat) (hm:l.length=m+1) (i:Nat) (hi:i<l.length) (a:Int) (ha:wholeTo (l.take i) 0=some a) : ∃c,wholeTo (l.take (i+1)) 0=some c/\c<=a+1:=by
 obtain ⟨c,h1,h2⟩:=whole_take l 0 p h (i+1)
 have:=wholeTo_step l i a hi ha
 rw [h1] at this
 split at this
 ·rename_i hh
  have:=arity_good hh.1
  simp only [Option.some.injEq] at *
  exact ⟨c,h1,by omega⟩
 ·cases this
theorem whole_cut (l:List Nd) (c:Int) (hc:0<=c) (h:wholeTo l 0=some (c+1)) : ∃i,i<l.length/\wholeTo (l.take i) 0=some c/\∀j,i<j->j<=l.length->∃p,wholeTo (l.take j) 0=some p/\c+1<=p:=by
 have hl:0<l.length:=by
  cases l with
  | nil=>simp only [wholeTo,Option.some.injEq] at h;omega
  | cons=>simp
 obtain ⟨m,hm⟩ : ∃m,l.length=m+1:=⟨l.length-1,by omega⟩
 have key : ∀d,d<=l.length->(∃i,l.length-d<=i/\i<l.length/\wholeTo (l.take i) 0=some c/\∀j,i<j->j<=l.length->∃p,wholeTo (l.take j) 0=some p/\c+1<=p)∨(∀j,l.length-d<=j->j<=l.length->∃p,wholeTo (l.take j) 0=some p/\c+1<=p):=by
  intro d
  induction d with
  | zero=>
   intro _
   refine .inr fun j h1 h2 => ?_
   obtain rfl:j=l.length:=by omega
   rw [List.take_length]
   exact ⟨_,h,Int.le_refl _⟩
  | succ d ih=>
   intro hd
   rcases ih o_ with ⟨i,h1,h2⟩ | hall
   ·exact .inl ⟨i,by omega,h2⟩
   ·obtain ⟨a,ha,_⟩:=whole_take l 0 _ h (l.length-(d+1))
    obtain ⟨c',h1,h2⟩:=whole_one l _ h m hm (l.length-(d+1)) o_ a ha
    obtain ⟨p,hp,hp2⟩:=hall (l.length-(d+1)+1) o_ o_
    rw [h1] at hp
    simp only [Option.some.injEq] at hp
    by_cases e:a=c
    ·subst e
     exact .inl ⟨_,Nat.le_refl _,by omega,ha,fun j h3 h4=>hall j o_ h4⟩
    ·refine .inr fun j h3 h4 => ?_
     by_cases e2:j=l.length-(d+1)
     ·subst e2;exact ⟨a,ha,by omega⟩
     ·exact hall j o_ h4
 rcases key l.length (Nat.le_refl _) with ⟨i,_,h1⟩ | hall
 ·exact ⟨i,h1⟩
 ·obtain ⟨p,hp,hp2⟩:=hall 0 o_ o_
  simp only [List.take_zero,wholeTo,Option.some.injEq] at hp
  omega
theorem whole_beg (e:List Nd) (k:Nat) (c:Int) (hk:k<=e.length) (hc:0<=c) (h:wholeTo (e.take k) 0=some (c+1)) :
  ∃i,begP e k i/\wholeTo (e.take i) 0=some c/\oneB ((e.take k).drop i)=true:=by
 have hlen:(e.take k).length=k:=by simp;omega
 obtain ⟨i,h1,h2,h3⟩:=whole_cut (e.take k) c hc h
 rw [hlen] at h1 h3
 have hd : ∀j,j<=k->∀p,wholeTo ((e.take k).take j) 0=some p->defc ((e.take k).drop j)=p-c:=by
  intro j hj p hp
  obtain ⟨p',g1,g2⟩:=whole_take (e.take k) 0 _ h j
  rw [hp] at g1
  simp only [Option.some.injEq] at g1
  subst g1
  have:=whole_defc _ _ _ g2
  omega
 have hb:begP e k i:=by
  refine ⟨h1,?_,fun j g1 g2 => ?_⟩
  ·rw [hd i o_ c h2];omega
  ·obtain ⟨p,hp,hp2⟩:=h3 j g1 g2
   rw [hd j g2 p hp];omega
 refine ⟨i,hb,?_,?_⟩
 ·rw [List.take_take,Nat.min_eq_left o_] at h2;exact h2
 ·rw [oneB_iff]
  refine ⟨fun n hn=>wholeTo_good _ _ _ h n (List.mem_of_mem_drop hn),hb.2.1,fun j g1 g2 => ?_⟩
  rw [List.drop_drop]
  simp only [List.length_drop,hlen] at g2
  exact hb.2.2 (i+j) o_ o_
def nd0:Nd:=⟨1,0,⟨#[]⟩⟩
def rootN (e:List Nd):Nd:=e.getD (e.length-1) nd0
structure Cut (e:List Nd) (A:Nat) (b:Nat->Nat):Prop where
 len:0<e.length
 ar:arity (rootN e)=A
 good:goodAll e
 last:b A=e.length-1
 first:b 0=0
 beg : ∀i,i<A->begP e (b (i+1)) (b i)
def kid (e:List Nd) (b:Nat->Nat) (i:Nat):List Nd:=(e.take (b (i+1))).drop (b i)
theorem cuts_down (e:List Nd) (he:0<e.length) (A:Nat) : ∀k,k<=e.length->wholeTo (e.take k) 0=some (A:Int)->∃b:Nat->Nat,b A=k/\b 0=0/\∀i,i<A->begP e (b (i+1)) (b i)/\oneB (kid e b i)=true:=by
 induction A with
 | zero=>
  intro k hk h
  refine ⟨fun _=>0,?_,rfl,fun i hi=>absurd hi o_⟩
  rcases Nat.eq_zero_or_pos k with rfl | hp
  ·rfl
  ·have:=whole_pos (e.take k) _ (by simp;omega) h
   omega
 | succ A ih=>
  intro k hk h
  obtain ⟨i,h1,h2,h3⟩:=whole_beg e k A hk o_ (by rw [h];rfl)
  obtain ⟨b,g1,g2,g3⟩:=ih i (by have:=h1.1;omega) h2
  refine ⟨fun j=>if j=A+1 then k else b j,by simp,by simp [g2],fun j hj => ?_⟩
  by_cases e1:j=A
  ·subst e1
   simp only [kid,if_true,Nat.succ_ne_self,if_neg (show ¬j=j+1 by omega),g1]
   exact ⟨h1,h3⟩
  ·have:=g3 j o_
   simp only [kid,if_neg (show ¬j=A+1 by omega),if_neg (show ¬j+1=A+1 by omega)]
   exact this
theorem rootN_eq (e:List Nd) (h:0<e.length):rootN e=e[e.length-1]' o_:=by
 simp [rootN,List.getD,List.getElem?_eq_getElem (show e.length-1<e.length by omega)]
theorem one_pos {e:List Nd} (h:oneB e=true):0<e.length:=by
 cases e with
 | nil=>simp [oneB,wholeTo] at h
 | cons=>simp
theorem one_good {e:List Nd} (h:oneB e=true):goodAll e:=((oneB_iff e).1 h).1
theorem one_root {e:List Nd} (h:oneB e=true):nodeB (rootN e)=true:=by
 rw [rootN_eq e (one_pos h)]
 exact one_good h _ (List.getElem_mem _)
theorem one_cuts {e:List Nd} (h:oneB e=true) : ∃A b,Cut e A b/\∀i,i<A->oneB (kid e b i)=true:=by
 have hl:=one_pos h
 have h':wholeTo e 0=some 1:=by simpa [oneB] using h
 obtain ⟨q,h1,h2⟩:=whole_take e 0 1 h' (e.length-1)
 have hs:=wholeTo_step e (e.length-1) q o_ h1
 rw [show e.length-1+1=e.length by omega,List.take_length,h'] at hs
 split at hs
 ·simp only [Option.some.injEq] at hs
  have hb:=arity_good (one_root h)
  rw [rootN_eq e hl] at hb
  obtain ⟨A,hA⟩ : ∃A:Nat,q=A:=⟨q.toNat,by omega⟩
  subst hA
  obtain ⟨b,g1,g2,g3⟩:=cuts_down e hl A (e.length-1) o_ h1
  exact ⟨A,b,⟨hl,by rw [rootN_eq e hl];omega,one_good h,g1,g2,fun i hi=>(g3 i hi).1⟩,fun i hi=>(g3 i hi).2⟩
 ·cases hs
theorem Cut.le {e:List Nd} {A:Nat} {b:Nat->Nat} (h:Cut e A b) : ∀d,d<=A->b (A-d)<=e.length-1:=by
 intro d
 induction d with
 | zero=>intro _;rw [Nat.sub_zero,h.last];exact Nat.le_refl _
 | succ d ih=>
  intro hd
  have:=ih o_
  have h2:=(h.beg (A-(d+1)) o_).1
  rw [show A-(d+1)+1=A-d by omega] at h2
  omega
theorem Cut.le' {e:List Nd} {A:Nat} {b:Nat->Nat} (h:Cut e A b) (i:Nat) (hi:i<=A):b i<=e.length-1:=by
 have:=h.le (A-i) o_
 rwa [show A-(A-i)=i by omega] at this
theorem Cut.kid_len {e:List Nd} {A:Nat} {b:Nat->Nat} (h:Cut e A b) (i:Nat) (hi:i<A):(kid e b i).length=b (i+1)-b i:=by
 have:=h.le' (i+1) o_
 simp [kid]
 omega
theorem Cut.kid_lt {e:List Nd} {A:Nat} {b:Nat->Nat} (h:Cut e A b) (i:Nat) (hi:i<A):(kid e b i).length<e.length:=by
 rw [h.kid_len i hi]
 have:=h.le' (i+1) o_
 have:=h.len
 omega
theorem Cut.root_good {e:List Nd} {A:Nat} {b:Nat->Nat} (h:Cut e A b):nodeB (rootN e)=true:=by
 rw [rootN_eq e h.len]
 exact h.good _ (List.getElem_mem _)
theorem Cut.arA {e:List Nd} {A:Nat} {b:Nat->Nat} (h:Cut e A b):A<=6:=by
 have:=arity_good h.root_good
 have:=h.ar
 omega
def joinF (F:Nat->List Nd):Nat->List Nd
 | 0=>[]
 | i+1=>joinF F i++F i
def callM (G:Nat->Int->Int):Nat->Int->Int
 | 0,d=>d+1
 | i+1,d=>max (callM G i d) (G i (d+i))
def need1 (n:Nd) (A:Nat) (G:Nat->Int->Int):Int->Int:=
 if n.kind=3∨n.kind=6 then G 0
 else if n.kind=7 then fun d=>max (G 0 d) (G 1 (d+1))
 else if n.kind=8∨n.kind=9 then fun d=>max (G 0 d) (G 1 d)
 else callM G A
def evS (stk:List (Int->Int)) (n:Nd):List (Int->Int):=need1 n (arity n).toNat (fun i=>stk.getD ((arity n).toNat-1-i) (fun d=>d))::stk.drop (arity n).toNat
def evN (e:List Nd) (stk:List (Int->Int)):List (Int->Int):=e.foldl evS stk
theorem evN_append (a b:List Nd) (stk:List (Int->Int)):evN (a++b) stk=evN b (evN a stk):=by simp [evN]
def NF (e:List Nd) (g:Int->Int):Prop:=∀stk,evN e stk=g::stk
theorem callM_congr {G H:Nat->Int->Int} : ∀(A:Nat),(∀i,i<A->G i=H i)->callM G A=callM H A
 | 0,_=>rfl
 | A+1,h=>by
  funext d
  simp only [callM]
  rw [callM_congr A (fun i hi=>h i o_),h A o_]
theorem need1_congr {n:Nd} {A:Nat} {G H:Nat->Int->Int} (h3:n.kind=3∨n.kind=6->1<=A) (h7:n.kind=7∨n.kind=8∨n.kind=9->2<=A) (h : ∀i,i<A->G i=H i):need1 n A G=need1 n A H:=by
 unfold need1
 split
 ·rename_i hk;exact h 0 (by have:=h3 hk;omega)
 ·split
  ·rename_i hk;rw [h 0 (by have:=h7 (.inl hk);omega),h 1 (by have:=h7 (.inl hk);omega)]
  ·split
   ·rename_i hk;rw [h 0 (by have:=h7 (.inr hk);omega),h 1 (by have:=h7 (.inr hk);omega)]
   ·exact callM_congr A h
theorem joinF_ev {F:Nat->List Nd} {G:Nat->Int->Int} : ∀(A:Nat) (stk:List (Int->Int)),(∀i,i<A->NF (F i) (G i))->evN (joinF F A) stk=((List.range A).map G).reverse++stk
 | 0,stk,_=>rfl
 | A+1,stk,h=>by
  rw [joinF,evN_append,joinF_ev A stk (fun i hi=>h i o_),h A o_,List.range_succ]
  simp
theorem rev_getD {G:Nat->Int->Int} {A i:Nat} (stk:List (Int->Int)) (hi:i<A):(((List.range A).map G).reverse++stk).getD (A-1-i) (fun d=>d)=G i:=by
 have hl:A-1-i<((List.range A).map G).reverse.length:=by simp;omega
 simp only [List.getD]
 rw [List.getElem?_append_left hl,List.getElem?_eq_getElem hl]
 simp only [Option.getD_some,List.getElem_reverse,List.getElem_map,List.getElem_range,List.length_map,List.length_range]
 congr 1
 omega
theorem NF.node {n:Nd} (hn:nodeB n=true) {A:Nat} (hA:arity n=A) {F:Nat->List Nd} {G:Nat->Int->Int} (h : ∀i,i<A->NF (F i) (G i)):NF (joinF F A++[n]) (need1 n A G):=by
 intro stk
 have e:(arity n).toNat=A:=by omega
 rw [evN_append,joinF_ev A stk h]
 show evS (((List.range A).map G).reverse++stk) n=_
 unfold evS
 rw [e]
 have hd:(((List.range A).map G).reverse++stk).drop A=stk:=by
  rw [List.drop_append_of_le_length (by simp)]
  simp
 rw [hd,need1_congr (H:=G) (fun hk => ?_) (fun hk => ?_) (fun i hi=>rev_getD stk hi)]
 ·rcases hk with hk | hk <;> (simp [arity,hk] at hA;omega)
 ·rcases hk with hk | hk | hk <;> (simp [arity,hk] at hA;omega)
theorem kid_join {e:List Nd} {A:Nat} {b:Nat->Nat} (hc:Cut e A b) : ∀i,i<=A->joinF (kid e b) i=e.take (b i):=by
 intro i
 induction i with
 | zero=>intro _;rw [hc.first];rfl
 | succ i ih=>
  intro hi
  have hb:=(hc.beg i o_).1
  rw [joinF,ih o_,kid]
  have e1:e.take (b i)=(e.take (b (i+1))).take (b i):=by rw [List.take_take];congr 1;omega
  rw [e1,List.take_append_drop]
theorem cut_join {e:List Nd} {A:Nat} {b:Nat->Nat} (hc:Cut e A b):joinF (kid e b) A++[rootN e]=e:=by
 have hl:=hc.len
 rw [kid_join hc A (Nat.le_refl _),hc.last,rootN_eq e hl]
 have:=List.take_succ_eq_append_getElem (l:=e) (i:=e.length-1) o_
 rw [<-this,show e.length-1+1=e.length by omega,List.take_length]
theorem NF.cut {e:List Nd} {A:Nat} {b:Nat->Nat} (hc:Cut e A b) {G:Nat->Int->Int} (h : ∀i,i<A->NF (kid e b i) (G i)):NF e (need1 (rootN e) A G):=by
 have:=NF.node hc.root_good hc.ar h
 rw [cut_join hc] at this
 exact this
def NFb (L:Nat) (g:Int->Int):Prop:=∀d,d<=g d/\g d<=d+7*L
theorem callM_bd {G:Nat->Int->Int} {L:Nat} : ∀(A:Nat) (d:Int),A<=6->(∀i,i<A->NFb L (G i))->d<=callM G A d/\callM G A d<=d+7*(L+1)
 | 0,d,_,_=>by simp only [callM];omega
 | A+1,d,hA,h=>by
  obtain ⟨h1,h2⟩:=callM_bd A d o_ (fun i hi=>h i o_)
  have h3:=h A o_ (d+A)
  simp only [callM]
  omega
theorem need1_bd {n:Nd} {A L:Nat} {G:Nat->Int->Int} (hn:nodeB n=true) (hA:arity n=A) (h : ∀i,i<A->NFb L (G i)):NFb (L+1) (need1 n A G):=by
 intro d
 have h6:=(arity_good hn).2
 unfold need1
 split
 ·rename_i hk
  have e:A=1:=by rcases hk with hk | hk <;> (simp [arity,hk] at hA;omega)
  have:=h 0 o_ d
  omega
 ·split
  ·rename_i hk
   have e:A=2:=by simp [arity,hk] at hA;omega
   have:=h 0 o_ d
   have:=h 1 o_ (d+1)
   simp only
   omega
  ·split
   ·rename_i hk
    have e:A=2:=by rcases hk with hk | hk <;> (simp [arity,hk] at hA;omega)
    have:=h 0 o_ d
    have:=h 1 o_ d
    simp only
    omega
   ·exact callM_bd A d o_ h
theorem NFb.mono {L M:Nat} {g:Int->Int} (h:NFb L g) (hl:L<=M):NFb M g:=fun d=>by have:=h d;omega
theorem NF.exists (N:Nat) : ∀e:List Nd,e.length<=N->oneB e=true->∃g,NF e g/\NFb e.length g:=by
 induction N with
 | zero=>intro e hl h;have:=one_pos h;omega
 | succ N ih=>
  intro e hl h
  obtain ⟨A,b,hc,hk⟩:=one_cuts h
  have h0 : ∀i,∃g,i<A->NF (kid e b i) g/\NFb (kid e b i).length g:=by
   intro i
   by_cases hi:i<A
   ·obtain ⟨g,hg⟩:=ih (kid e b i) (by have:=hc.kid_lt i hi;omega) (hk i hi)
    exact ⟨g,fun _=>hg⟩
   ·exact ⟨fun d=>d,fun h=>absurd h hi⟩
  refine ⟨_,NF.cut hc (G:=fun i=>(h0 i).choose) (fun i hi=>((h0 i).choose_spec hi).1),?_⟩
  have:=need1_bd (L:=e.length-1) hc.root_good hc.ar (fun i hi=>(((h0 i).choose_spec hi).2).mono (by have:=hc.kid_lt i hi;omega))
  rw [show e.length-1+1=e.length by have:=hc.len;omega] at this
  exact this
section
variable {α:Type} [Inhabited α]
def eaS (st:Nd->Nat->(Nat->α)->α) (stk:List α) (n:Nd):List α:=st n (arity n).toNat (fun i=>stk.getD ((arity n).toNat-1-i) default)::stk.drop (arity n).toNat
def eaN (st:Nd->Nat->(Nat->α)->α) (e:List Nd) (stk:List α):List α:=e.foldl (eaS st) stk
theorem eaN_append (st:Nd->Nat->(Nat->α)->α) (a b:List Nd) (stk:List α):eaN st (a++b) stk=eaN st b (eaN st a stk):=by simp [eaN]
def EA (st:Nd->Nat->(Nat->α)->α) (e:List Nd) (g:α):Prop:=∀stk,eaN st e stk=g::stk
def Own (st:Nd->Nat->(Nat->α)->α):Prop:=∀(n:Nd) (A:Nat) (G H:Nat->α),nodeB n=true->arity n=A->(∀i,i<A->G i=H i)->st n A G=st n A H
theorem joinF_ea {st:Nd->Nat->(Nat->α)->α} {F:Nat->List Nd} {G:Nat->α} : ∀(A:Nat) (stk:List α),(∀i,i<A->EA st (F i) (G i))->eaN st (joinF F A) stk=((List.range A).map G).reverse++stk
 | 0,stk,_=>rfl
 | A+1,stk,h=>by
  rw [joinF,eaN_append,joinF_ea A stk (fun i hi=>h i o_),h A o_,List.range_succ]
  simp
theorem rev_getE {G:Nat->α} {A i:Nat} (stk:List α) (hi:i<A):(((List.range A).map G).reverse++stk).getD (A-1-i) default=G i:=by
 have hl:A-1-i<((List.range A).map G).reverse.length:=by simp;omega
 simp only [List.getD]
 rw [List.getElem?_append_left hl,List.getElem?_eq_getElem hl]
 simp only [Option.getD_some,List.getElem_reverse,List.getElem_map,List.getElem_range,List.length_map,List.length_range]
 congr 1
 omega
theorem EA.node {st:Nd->Nat->(Nat->α)->α} (ho:Own st) {n:Nd} (hn:nodeB n=true) {A:Nat} (hA:arity n=A) {F:Nat->List Nd} {G:Nat->α} (h : ∀i,i<A->EA st (F i) (G i)):EA st (joinF F A++[n]) (st n A G):=by
 intro stk
 have e:(arity n).toNat=A:=by omega
 rw [eaN_append,joinF_ea A stk h]
 show eaS st (((List.range A).map G).reverse++stk) n=_
 unfold eaS
 rw [e]
 have hd:(((List.range A).map G).reverse++stk).drop A=stk:=by
  rw [List.drop_append_of_le_length (by simp)]
  simp
 rw [hd,ho n A _ G hn hA (fun i hi=>rev_getE stk hi)]
theorem EA.cut {st:Nd->Nat->(Nat->α)->α} (ho:Own st) {e:List Nd} {A:Nat} {b:Nat->Nat} (hc:Cut e A b) {G:Nat->α} (h : ∀i,i<A->EA st (kid e b i) (G i)):EA st e (st (rootN e) A G):=by
 have:=EA.node ho hc.root_good hc.ar h
 rw [cut_join hc] at this
 exact this
def eaV (st:Nd->Nat->(Nat->α)->α) (e:List Nd):α:=(eaN st e []).headD default
theorem EA.eq {st:Nd->Nat->(Nat->α)->α} {e:List Nd} {g:α} (h:EA st e g):eaV st e=g:=by
 unfold eaV;rw [h []];rfl
end
structure Ins where
 op:Int
 rd:Int
 s1:Int
 s2:Int
 im:Int
structure It where
 kind:Int
 ins:Ins
 label:Int
structure GEnv where
 n:Nat
 loc:ByteArray->Option Int
 glob:ByteArray->Int
 fn:ByteArray->Int
def insI (op rd s1 s2 im:Int):It:=⟨1,⟨op,rd,s1,s2,im⟩,0⟩
def markI (kind label:Int):It:=⟨kind,⟨0,0,0,0,0⟩,label⟩
def branI (op reg label:Int):It:=⟨3,⟨op,0,reg,0,0⟩,label⟩
def regI (d sp:Int):Int:=if d=0 then 5 else if d=1 then 6 else if d=2 then 7 else if d=3 then 28 else if d=4 then 29 else sp
def wordI (E:GEnv) (d:Int):Int:=4*((E.n:Int)+d)
def readL (E:GEnv) (d sp:Int):List It:=if 5<=d then [insI 10 sp 2 0 (wordI E d)] else []
def writeL (E:GEnv) (d:Int):List It:=if 5<=d then [insI 11 0 2 30 (wordI E d)] else []
def loadL (reg v:Int):List It:=
 if -2048<=v/\v<=2047 then [insI 12 reg 0 0 v]
 else [insI 1 reg 0 0 (((v+2048) / 4096) % 1048576)]++(if v=(v+2048) / 4096*4096 then [] else [insI 12 reg reg 0 (v-(v+2048) / 4096*4096)])
def answerL (E:GEnv) (d:Int):List It:=if 5<=d then [insI 11 0 2 10 (wordI E d)] else [insI 12 (regI d 30) 10 0 0]
def unL (op r a:Int):List It:=if op=0 then [insI 22 r 0 a 0] else if op=1 then [insI 14 r a 0 1] else [insI 15 r a 0 (-1)]
def binO (op:Int):Int:=if op=0 then 31 else if op=1 then 32 else if op=2 then 33 else if op=3 then 21 else if op=4 then 22 else if op=5 then 23 else if op=6 then 28 else if op=13 then 30 else if op=14 then 26 else 29
def binL (op r a b:Int):List It:=
 if op=7 then [insI 24 r a b 0] else if op=9 then [insI 24 r b a 0]
 else if op=8 then [insI 24 r b a 0,insI 15 r r 0 1] else if op=10 then [insI 24 r a b 0,insI 15 r r 0 1]
 else if op=11 then [insI 22 r a b 0,insI 14 r r 0 1] else if op=12 then [insI 22 r a b 0,insI 25 r 0 r 0]
 else [insI (binO op) r a b 0]
def varL (E:GEnv) (s:ByteArray) (r:Int):List It:=match E.loc s with
 | some at_=>[insI 10 r 2 0 at_]
 | none=>loadL 31 (E.glob s)++[insI 10 r 31 0 0]
abbrev Cod:=Int->Int->List It × Int
def argsC (G:Nat->Cod) (d:Int):Nat->Int->List It × Int
 | 0,l=>([],l)
 | i+1,l=>((argsC G d i l).1++(G i (d+i) (argsC G d i l).2).1,(G i (d+i) (argsC G d i l).2).2)
def keepL (E:GEnv):Nat->List It
 | 0=>[]
 | j+1=>keepL E j++[insI 11 0 2 (regI j 0) (wordI E j)]
def backL (E:GEnv):Nat->List It
 | 0=>[]
 | j+1=>backL E j++[insI 10 (regI j 0) 2 0 (wordI E j)]
def passL (E:GEnv) (d:Int):Nat->List It
 | 0=>[]
 | i+1=>passL E d i++[if d+i<5 then insI 12 (10+i) (regI (d+i) 0) 0 0 else insI 10 (10+i) 2 0 (wordI E (d+i))]
def callC (E:GEnv) (s:ByteArray) (G:Nat->Cod) (A:Nat):Cod:=fun d l=>
 ((argsC G d A l).1++keepL E (min d 5).toNat++passL E d A++[markI 5 (E.fn s)]++backL E (min d 5).toNat++answerL E d,(argsC G d A l).2)
def choiceC (E:GEnv) (op:Int) (x y:Cod):Cod:=fun d l=>
 ((x d (l+1)).1++readL E d 30++[branI op (regI d 30) l]++(y d (x d (l+1)).2).1++[markI 2 l]++readL E d 30++[insI 25 (regI d 30) 0 (regI d 30) 0]++writeL E d,(y d (x d (l+1)).2).2)
def genN (E:GEnv) (n:Nd) (A:Nat) (G:Nat->Cod):Cod:=
 if n.kind=1 then fun d l=>(loadL (regI d 30) n.val++writeL E d,l)
 else if n.kind=2 then fun d l=>(varL E n.name (regI d 30)++writeL E d,l)
 else if n.kind=3 then fun d l=>((G 0 d l).1++readL E d 30++[insI 18 (regI d 30) (regI d 30) 0 2]++loadL 31 (E.glob n.name)++[insI 21 31 31 (regI d 30) 0,insI 10 (regI d 30) 31 0 0]++writeL E d,(G 0 d l).2)
 else if n.kind=4 then callC E n.name G A
 else if n.kind=5 then fun d l=>([insI 12 17 0 0 2,insI 34 0 0 0 0]++answerL E d,l)
 else if n.kind=6 then fun d l=>((G 0 d l).1++readL E d 30++unL n.val (regI d 30) (regI d 30)++writeL E d,(G 0 d l).2)
 else if n.kind=7 then fun d l=>((G 0 d l).1++(G 1 (d+1) (G 0 d l).2).1++readL E d 30++readL E (d+1) 31++binL n.val (regI d 30) (regI d 30) (regI (d+1) 31)++writeL E d,(G 1 (d+1) (G 0 d l).2).2)
 else choiceC E (if n.kind=9 then 5 else 4) (G 0) (G 1)
theorem argsC_congr {G H:Nat->Cod} {d:Int} : ∀(A:Nat) (l:Int),(∀i,i<A->G i=H i)->argsC G d A l=argsC H d A l
 | 0,_,_=>rfl
 | A+1,l,h=>by
  simp only [argsC]
  rw [argsC_congr A l (fun i hi=>h i o_),h A o_]
theorem gen_own (E:GEnv):Own (genN E):=by
 intro n A G H hn hA h
 have hk:=kind_good hn
 unfold genN
 by_cases h1:n.kind=1
 ·simp [h1]
 by_cases h2:n.kind=2
 ·simp [h2]
 by_cases h3:n.kind=3
 ·have e:A=1:=by simp [arity,h3] at hA;omega
  simp [h3,h 0 o_]
 by_cases h4:n.kind=4
 ·simp only [h4]
  funext d l
  simp [callC,argsC_congr (d:=d) A l h]
 by_cases h5:n.kind=5
 ·simp [h5]
 by_cases h6:n.kind=6
 ·have e:A=1:=by simp [arity,h6] at hA;omega
  simp [h6,h 0 o_]
 by_cases h7:n.kind=7
 ·have e:A=2:=by simp [arity,h7] at hA;omega
  simp [h7,h 0 o_,h 1 o_]
 ·have e:A=2:=by
   have h89:n.kind=8∨n.kind=9:=by omega
   rcases h89 with hh | hh <;> (simp [arity,hh] at hA;omega)
  simp only [h1,h2,h3,h4,h5,h6,h7,if_false]
  rw [h 0 o_,h 1 o_]
def codeE (E:GEnv) (e:List Nd):Cod:=eaV (genN E) e
end Go.Proofs.YtnpidjamplmgjaaGreatDoor
