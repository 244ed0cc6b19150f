import Derived.WalkKit
import Derived.Test.YtmddmgpijpjpbaaGreatDoorR00
import Derived.Test.YtmddmgpijpjpbaaGreatDoorRows
import Derived.WalkSpells
import Derived.ProofKit
import Derived.Deep.QuietTactic
import Derived.BigQuiet
import Derived.Lib.ConvBytes
namespace Go.Proofs.YtmddmgpijpjpbaaGreatDoor
open Go.RowKit
set_option linter.unusedVariables false
set_option linter.unusedSimpArgs false
set_option maxRecDepth 100000
set_option maxHeartbeats 16000000
structure Nd where
 kind:Int
 val:Int
 name:ByteArray
structure St where
 kind:Int
 name:ByteArray
 e:List Nd
 f:List Nd
 thn:Int
 els:Int
structure Fu where
 name:ByteArray
 params:List ByteArray
 body:List St
structure Gl where
 name:ByteArray
 size:Int
structure Tr where
 globals:List Gl
 funcs:List Fu
def smallB (c:Int):Bool:=decide (97<=c/\c<=122∨c=95)
def digitB (c:Int):Bool:=decide (48<=c/\c<=57)
def laterB (c:Int):Bool:=smallB c || digitB c
def resB (s:ByteArray):Bool:=
 s.toList == [105,110,116] || s.toList == [105,102] || s.toList == [101,108,115,101] || s.toList == [119,104,105,108,101] || s.toList == [114,101,116,117,114,110] || s.toList == [105,110] || s.toList == [111,117,116]
def byteAt (s:ByteArray) (k:Nat):Int:=((s.data.toList.getD k 0).toNat:Int)
def laterTo (s:ByteArray) (k:Nat):Prop:=∀j,j<k->laterB (byteAt s j)=true
def nameP (s:ByteArray):Prop:=1<=s.size/\s.size<=20/\smallB (byteAt s 0)=true/\(∀j,j<s.size->laterB (byteAt s j)=true)/\resB s=false
def nameB (s : ByteArray) : Bool := @decide (nameP s) (inferInstanceAs (Decidable (1<=s.size/\s.size<=20/\smallB (byteAt s 0)=true/\(∀j,j<s.size->laterB (byteAt s j)=true)/\resB s=false)))
def arity (n:Nd):Int:=if n.kind=3∨n.kind=6 then 1 else if n.kind=4 then n.val else if n.kind=7∨n.kind=8∨n.kind=9 then 2 else 0
def nodeB (n:Nd):Bool:=
 if n.kind=1 then decide (-2147483648<=n.val/\n.val<=2147483647) && n.name.toList == []
 else if n.kind=2∨n.kind=3 then decide (n.val=0) && nameB n.name
 else if n.kind=4 then decide (0<=n.val/\n.val<=6) && nameB n.name
 else if n.kind=6 then decide (0<=n.val/\n.val<=2) && n.name.toList == []
 else if n.kind=7 then decide (0<=n.val/\n.val<=15) && n.name.toList == []
 else if n.kind=5∨n.kind=8∨n.kind=9 then decide (n.val=0) && n.name.toList == []
 else false
theorem arity_good {n:Nd} (h:nodeB n=true):0<=arity n/\arity n<=6:=by
 unfold nodeB at h
 unfold arity
 by_cases h4:n.kind=4
 ·simp [h4] at h ⊢
  omega
 ·split <;> (try split) <;> (try split) <;> omega
def wholeTo:List Nd->Int->Option Int
 | [],k=>some k
 | n::r,k=>if nodeB n=true/\arity n<=k then wholeTo r (k+1-arity n) else none
def oneB (e:List Nd):Bool:=wholeTo e 0 == some 1
theorem kind_good {n:Nd} (h:nodeB n=true):1<=n.kind/\n.kind<=9:=by
 by_cases hk:n.kind<1∨9<n.kind
 ·unfold nodeB at h
  rw [if_neg (by omega),if_neg (by omega),if_neg (by omega),if_neg (by omega),if_neg (by omega),if_neg (by omega)] at h
  cases h
 ·omega
theorem wholeTo_append (a b:List Nd) (k:Int):wholeTo (a++b) k=(wholeTo a k).bind (wholeTo b):=by
 induction a generalizing k with
 | nil=>rfl
 | cons n r ih=>
  simp only [List.cons_append,wholeTo]
  split
  ·exact ih _
  ·rfl
theorem wholeTo_bd (a:List Nd) (k q:Int) (h:wholeTo a k=some q) (hk:0<=k):0<=q/\q<=k+a.length:=by
 induction a generalizing k with
 | nil=>simp only [wholeTo,Option.some.injEq] at h;subst h;simp;omega
 | cons n r ih=>
  simp only [wholeTo] at h
  split at h
  ·rename_i hn
   have:=arity_good hn.1
   have:=ih _ h (by omega)
   simp only [l_c]
   omega
  ·cases h
theorem take_succ {α:Type} (l:List α) (k:Nat) (h:k<l.length):l.take (k+1)=l.take k++[l[k]]:=by
 rw [List.take_succ_eq_append_getElem h]
theorem wholeTo_step (l:List Nd) (k:Nat) (q:Int) (h:k<l.length) (hq:wholeTo (l.take k) 0=some q) :
  wholeTo (l.take (k+1)) 0=if nodeB l[k]=true/\arity l[k]<=q then some (q+1-arity l[k]) else none:=by
 rw [take_succ l k h,wholeTo_append,hq]
 simp [wholeTo]
theorem oneB_none (l:List Nd) (k:Nat) (h:wholeTo (l.take k) 0=none):oneB l=false:=by
 have:wholeTo l 0=none:=by
  rw [<-List.take_append_drop k l,wholeTo_append,h];rfl
 simp [oneB,this]
theorem oneB_some (l:List Nd) (q:Int) (h:wholeTo (l.take l.length) 0=some q):oneB l=(q == 1):=by
 rw [List.take_length] at h
 simp only [oneB,h]
 apply Bool.eq_iff_iff.2
 simp
def defc:List Nd->Int
 | []=>1
 | n::r=>defc r+arity n-1
def goodAll (l:List Nd):Prop:=∀n∈l,nodeB n=true
theorem wholeTo_iff (l:List Nd) (hg:goodAll l) (k:Int):wholeTo l k=some 1↔defc l=k/\∀j,1<=j->j<=l.length->1<=defc (l.drop j):=by
 induction l generalizing k with
 | nil=>
  simp only [wholeTo,Option.some.injEq,defc,l_n,List.drop_nil]
  constructor
  ·rintro rfl;exact ⟨rfl,fun j _ _=>Int.le_refl _⟩
  ·rintro ⟨rfl,_⟩;rfl
 | cons n r ih=>
  have hn:nodeB n=true:=hg n (by simp)
  have ih':=ih (fun m hm=>hg m (by simp [hm]))
  simp only [wholeTo,hn,true_and]
  by_cases ha:arity n<=k
  ·rw [if_pos ha,ih',defc]
   constructor
   ·rintro ⟨h1,h2⟩
    refine ⟨by omega,fun j hj1 hj2 => ?_⟩
    obtain ⟨j',rfl⟩ : ∃j',j=j'+1:=⟨j-1,by omega⟩
    rw [List.drop_succ_cons]
    rcases Nat.eq_zero_or_pos j' with rfl | hp
    ·rw [List.drop_zero];omega
    ·exact h2 j' hp (by simpa using hj2)
   ·rintro ⟨h1,h2⟩
    refine ⟨by omega,fun j hj1 hj2 => ?_⟩
    have:=h2 (j+1) (by omega) (by simpa using hj2)
    rwa [List.drop_succ_cons] at this
  ·rw [if_neg ha]
   constructor
   ·intro h;cases h
   ·rintro ⟨h1,h2⟩
    exfalso
    have:=h2 1 (Nat.le_refl _) (by simp)
    simp only [List.drop_succ_cons,List.drop_zero] at this
    simp only [defc] at h1
    omega
theorem wholeTo_good (l:List Nd) (k q:Int) (h:wholeTo l k=some q):goodAll l:=by
 induction l generalizing k with
 | nil=>intro n hn;cases hn
 | cons m r ih=>
  simp only [wholeTo] at h
  split at h
  ·rename_i hm
   intro n hn
   rcases List.mem_cons.1 hn with rfl | hn
   ·exact hm.1
   ·exact ih _ h n hn
  ·cases h
theorem oneB_iff (l:List Nd):oneB l=true↔goodAll l/\defc l=0/\∀j,1<=j->j<=l.length->1<=defc (l.drop j):=by
 constructor
 ·intro h
  have h':wholeTo l 0=some 1:=by simpa [oneB] using h
  have hg:=wholeTo_good l 0 1 h'
  exact ⟨hg,(wholeTo_iff l hg 0).1 h'⟩
 ·rintro ⟨hg,h⟩
  have:=(wholeTo_iff l hg 0).2 h
  simp [oneB,this]
def fromP (l:List Nd) (r:Int):Prop:=
 (∃i:Nat,r=i/\i<l.length/\defc (l.drop i)=0/\∀j,i<j->j<=l.length->1<=defc (l.drop j))∨(r = -1/\∀j,j<=l.length->1<=defc (l.drop j))
theorem fromP_one {l:List Nd} {r:Int} (hg:goodAll l) (h:fromP l r):(r == 0)=oneB l:=by
 apply Bool.eq_iff_iff.2
 rw [oneB_iff]
 simp only [beq_iff_eq]
 rcases h with ⟨i,rfl,hi,h0,hj⟩ | ⟨rfl,hj⟩
 ·constructor
  ·intro h
   obtain rfl:i=0:=by omega
   exact ⟨hg,by simpa using h0,fun j h1 h2=>hj j (by omega) h2⟩
  ·rintro ⟨_,_,h⟩
   rcases Nat.eq_zero_or_pos i with rfl | hp
   ·rfl
   ·have:=h i hp (by omega);omega
 ·constructor
  ·intro h;omega
  ·rintro ⟨_,h,_⟩
   have:=hj 0 (Nat.zero_le _)
   rw [List.drop_zero] at this
   omega
theorem defc_drop (l:List Nd) (i:Nat) (h:i<l.length):defc (l.drop i)=defc (l.drop (i+1))+arity l[i]-1:=by
 rw [List.drop_eq_getElem_cons h,defc]
theorem defc_le (l:List Nd) (hg:goodAll l):defc l<=1+6*l.length:=by
 induction l with
 | nil=>simp [defc]
 | cons n r ih=>
  have:=ih (fun m hm=>hg m (by simp [hm]))
  have:=arity_good (hg n (by simp))
  simp only [defc,l_c]
  omega
theorem goodAll_drop {l:List Nd} (hg:goodAll l) (i:Nat):goodAll (l.drop i):=fun n hn=>hg n (List.mem_of_mem_drop hn)
def begP (ns:List Nd) (k i:Nat):Prop:=i<k/\defc ((ns.take k).drop i)=0/\∀j,i<j->j<=k->1<=defc ((ns.take k).drop j)
theorem whole_defc (l:List Nd) (k q:Int) (h:wholeTo l k=some q):defc l=1+k-q:=by
 induction l generalizing k with
 | nil=>simp only [wholeTo,Option.some.injEq] at h;subst h;simp [defc]
 | cons n r ih=>
  simp only [wholeTo] at h
  split at h
  ·have:=ih _ h
   simp only [defc]
   omega
  ·cases h
theorem whole_take (l:List Nd) (k q:Int) (h:wholeTo l k=some q) (j:Nat) : ∃p,wholeTo (l.take j) k=some p/\wholeTo (l.drop j) p=some q:=by
 rw [<-List.take_append_drop j l,wholeTo_append] at h
 cases e:wholeTo (l.take j) k with
 | none=>rw [e] at h;cases h
 | some p=>rw [e] at h;exact ⟨p,rfl,h⟩
theorem whole_pos (l:List Nd) (q:Int) (hl:0<l.length) (h:wholeTo l 0=some q):1<=q:=by
 obtain ⟨m,hm⟩ : ∃m,l.length=m+1:=⟨l.length-1,by omega⟩
 obtain ⟨p,h1,h2⟩:=whole_take l 0 q h m
 have:=wholeTo_step l m p (by omega) h1
 rw [<-hm,List.take_length,h] at this
 split at this
 ·rename_i hh
  simp only [Option.some.injEq] at this
  omega
 ·cases this
theorem whole_one (l:List Nd) (p:Int) (h:wholeTo l 0=some p) (m:Nat) (hm:l.length=m+1) (i:Nat) (hi:i<l.length) (a:Int) (ha:wholeTo (l.take i) 0=some a) : ∃c,wholeTo (l.take (i+1)) 0=some c/\c<=a+1:=by
 obtain ⟨c,h1,h2⟩:=whole_take l 0 p h (i+1)
 have:=wholeTo_step l i a hi ha
 rw [h1] at this
 split at this
 ·rename_i hh
  have:=arity_good hh.1
  simp only [Option.some.injEq] at *
  exact ⟨c,h1,by omega⟩
 ·cases this
theorem whole_cut (l:List Nd) (c:Int) (hc:0<=c) (h:wholeTo l 0=some (c+1)) : ∃i,i<l.length/\wholeTo (l.take i) 0=some c/\∀j,i<j->j<=l.length->∃p,wholeTo (l.take j) 0=some p/\c+1<=p:=by
 have hl:0<l.length:=by
  cases l with
  | nil=>simp only [wholeTo,Option.some.injEq] at h;omega
  | cons=>simp
 obtain ⟨m,hm⟩ : ∃m,l.length=m+1:=⟨l.length-1,by omega⟩
 have key : ∀d,d<=l.length->(∃i,l.length-d<=i/\i<l.length/\wholeTo (l.take i) 0=some c/\∀j,i<j->j<=l.length->∃p,wholeTo (l.take j) 0=some p/\c+1<=p)∨(∀j,l.length-d<=j->j<=l.length->∃p,wholeTo (l.take j) 0=some p/\c+1<=p):=by
  intro d
  induction d with
  | zero=>
   intro _
   refine .inr fun j h1 h2 => ?_
   obtain rfl:j=l.length:=by omega
   rw [List.take_length]
   exact ⟨_,h,Int.le_refl _⟩
  | succ d ih=>
   intro hd
   rcases ih (by omega) with ⟨i,h1,h2⟩ | hall
   ·exact .inl ⟨i,by omega,h2⟩
   ·obtain ⟨a,ha,_⟩:=whole_take l 0 _ h (l.length-(d+1))
    obtain ⟨c',h1,h2⟩:=whole_one l _ h m hm (l.length-(d+1)) (by omega) a ha
    obtain ⟨p,hp,hp2⟩:=hall (l.length-(d+1)+1) (by omega) (by omega)
    rw [h1] at hp
    simp only [Option.some.injEq] at hp
    by_cases e:a=c
    ·subst e
     exact .inl ⟨_,Nat.le_refl _,by omega,ha,fun j h3 h4=>hall j (by omega) h4⟩
    ·refine .inr fun j h3 h4 => ?_
     by_cases e2:j=l.length-(d+1)
     ·subst e2;exact ⟨a,ha,by omega⟩
     ·exact hall j (by omega) h4
 rcases key l.length (Nat.le_refl _) with ⟨i,_,h1⟩ | hall
 ·exact ⟨i,h1⟩
 ·obtain ⟨p,hp,hp2⟩:=hall 0 (by omega) (by omega)
  simp only [List.take_zero,wholeTo,Option.some.injEq] at hp
  omega
theorem whole_beg (e:List Nd) (k:Nat) (c:Int) (hk:k<=e.length) (hc:0<=c) (h:wholeTo (e.take k) 0=some (c+1)) :
  ∃i,begP e k i/\wholeTo (e.take i) 0=some c/\oneB ((e.take k).drop i)=true:=by
 have hlen:(e.take k).length=k:=by simp;omega
 obtain ⟨i,h1,h2,h3⟩:=whole_cut (e.take k) c hc h
 rw [hlen] at h1 h3
 have hd : ∀j,j<=k->∀p,wholeTo ((e.take k).take j) 0=some p->defc ((e.take k).drop j)=p-c:=by
  intro j hj p hp
  obtain ⟨p',g1,g2⟩:=whole_take (e.take k) 0 _ h j
  rw [hp] at g1
  simp only [Option.some.injEq] at g1
  subst g1
  have:=whole_defc _ _ _ g2
  omega
 have hb:begP e k i:=by
  refine ⟨h1,?_,fun j g1 g2 => ?_⟩
  ·rw [hd i (by omega) c h2];omega
  ·obtain ⟨p,hp,hp2⟩:=h3 j g1 g2
   rw [hd j g2 p hp];omega
 refine ⟨i,hb,?_,?_⟩
 ·rw [List.take_take,Nat.min_eq_left (by omega)] at h2;exact h2
 ·rw [oneB_iff]
  refine ⟨fun n hn=>wholeTo_good _ _ _ h n (List.mem_of_mem_drop hn),hb.2.1,fun j g1 g2 => ?_⟩
  rw [List.drop_drop]
  simp only [List.length_drop,hlen] at g2
  exact hb.2.2 (i+j) (by omega) (by omega)
def nd0:Nd:=⟨1,0,⟨#[]⟩⟩
def rootN (e:List Nd):Nd:=e.getD (e.length-1) nd0
structure Cut (e:List Nd) (A:Nat) (b:Nat->Nat):Prop where
 len:0<e.length
 ar:arity (rootN e)=A
 good:goodAll e
 last:b A=e.length-1
 first:b 0=0
 beg : ∀i,i<A->begP e (b (i+1)) (b i)
def kid (e:List Nd) (b:Nat->Nat) (i:Nat):List Nd:=(e.take (b (i+1))).drop (b i)
theorem cuts_down (e:List Nd) (he:0<e.length) (A:Nat) : ∀k,k<=e.length->wholeTo (e.take k) 0=some (A:Int)->∃b:Nat->Nat,b A=k/\b 0=0/\∀i,i<A->begP e (b (i+1)) (b i)/\oneB (kid e b i)=true:=by
 induction A with
 | zero=>
  intro k hk h
  refine ⟨fun _=>0,?_,rfl,fun i hi=>absurd hi (by omega)⟩
  rcases Nat.eq_zero_or_pos k with rfl | hp
  ·rfl
  ·have:=whole_pos (e.take k) _ (by simp;omega) h
   omega
 | succ A ih=>
  intro k hk h
  obtain ⟨i,h1,h2,h3⟩:=whole_beg e k A hk (by omega) (by rw [h];rfl)
  obtain ⟨b,g1,g2,g3⟩:=ih i (by have:=h1.1;omega) h2
  refine ⟨fun j=>if j=A+1 then k else b j,by simp,by simp [g2],fun j hj => ?_⟩
  by_cases e1:j=A
  ·subst e1
   simp only [kid,if_true,Nat.succ_ne_self,if_neg (show ¬j=j+1 by omega),g1]
   exact ⟨h1,h3⟩
  ·have:=g3 j (by omega)
   simp only [kid,if_neg (show ¬j=A+1 by omega),if_neg (show ¬j+1=A+1 by omega)]
   exact this
theorem rootN_eq (e:List Nd) (h:0<e.length):rootN e=e[e.length-1]'(by omega):=by
 simp [rootN,List.getD,List.getElem?_eq_getElem (show e.length-1<e.length by omega)]
theorem one_pos {e:List Nd} (h:oneB e=true):0<e.length:=by
 cases e with
 | nil=>simp [oneB,wholeTo] at h
 | cons=>simp
theorem one_good {e:List Nd} (h:oneB e=true):goodAll e:=((oneB_iff e).1 h).1
theorem one_root {e:List Nd} (h:oneB e=true):nodeB (rootN e)=true:=by
 rw [rootN_eq e (one_pos h)]
 exact one_good h _ (List.getElem_mem _)
theorem one_cuts {e:List Nd} (h:oneB e=true) : ∃A b,Cut e A b/\∀i,i<A->oneB (kid e b i)=true:=by
 have hl:=one_pos h
 have h':wholeTo e 0=some 1:=by simpa [oneB] using h
 obtain ⟨q,h1,h2⟩:=whole_take e 0 1 h' (e.length-1)
 have hs:=wholeTo_step e (e.length-1) q (by omega) h1
 rw [show e.length-1+1=e.length by omega,List.take_length,h'] at hs
 split at hs
 ·simp only [Option.some.injEq] at hs
  have hb:=arity_good (one_root h)
  rw [rootN_eq e hl] at hb
  obtain ⟨A,hA⟩ : ∃A:Nat,q=A:=⟨q.toNat,by omega⟩
  subst hA
  obtain ⟨b,g1,g2,g3⟩:=cuts_down e hl A (e.length-1) (by omega) h1
  exact ⟨A,b,⟨hl,by rw [rootN_eq e hl];omega,one_good h,g1,g2,fun i hi=>(g3 i hi).1⟩,fun i hi=>(g3 i hi).2⟩
 ·cases hs
theorem Cut.le {e:List Nd} {A:Nat} {b:Nat->Nat} (h:Cut e A b) : ∀d,d<=A->b (A-d)<=e.length-1:=by
 intro d
 induction d with
 | zero=>intro _;rw [Nat.sub_zero,h.last];exact Nat.le_refl _
 | succ d ih=>
  intro hd
  have:=ih (by omega)
  have h2:=(h.beg (A-(d+1)) (by omega)).1
  rw [show A-(d+1)+1=A-d by omega] at h2
  omega
theorem Cut.le' {e:List Nd} {A:Nat} {b:Nat->Nat} (h:Cut e A b) (i:Nat) (hi:i<=A):b i<=e.length-1:=by
 have:=h.le (A-i) (by omega)
 rwa [show A-(A-i)=i by omega] at this
theorem Cut.kid_len {e:List Nd} {A:Nat} {b:Nat->Nat} (h:Cut e A b) (i:Nat) (hi:i<A):(kid e b i).length=b (i+1)-b i:=by
 have:=h.le' (i+1) (by omega)
 simp [kid]
 omega
theorem Cut.kid_lt {e:List Nd} {A:Nat} {b:Nat->Nat} (h:Cut e A b) (i:Nat) (hi:i<A):(kid e b i).length<e.length:=by
 rw [h.kid_len i hi]
 have:=h.le' (i+1) (by omega)
 have:=h.len
 omega
theorem Cut.root_good {e:List Nd} {A:Nat} {b:Nat->Nat} (h:Cut e A b):nodeB (rootN e)=true:=by
 rw [rootN_eq e h.len]
 exact h.good _ (List.getElem_mem _)
theorem Cut.arA {e:List Nd} {A:Nat} {b:Nat->Nat} (h:Cut e A b):A<=6:=by
 have:=arity_good h.root_good
 have:=h.ar
 omega
theorem ret_bool {a b:Bool} (h:a=b):Ending.returned (.bool a) = .returned (.bool b):=by rw [h]
theorem first_any (c:Int) (w:World):Calls Tryz.prog 117 #[.int .u8 c] w fun e w'=>e = .returned (.bool (smallB c))/\w'=w:=by
 go_enter Tryz.func117,Tryz.ntmps117
 go_wp2
 all_goals go_ret
 all_goals (refine ⟨ret_bool ?_,rfl⟩;apply Bool.eq_iff_iff.2;simp [smallB] <;> omega)
theorem later_any (c:Int) (w:World):Calls Tryz.prog 119 #[.int .u8 c] w fun e w'=>e = .returned (.bool (laterB c))/\w'=w:=by
 cases h:smallB c
 all_goals
  go_enter Tryz.func119,Tryz.ntmps119
  go_wp2_with (go_at_call 117;refine (first_any _ _).mono ?_;rintro e w' ⟨rfl,rfl⟩;rw [h])
  all_goals go_ret
  all_goals (refine ⟨ret_bool ?_,rfl⟩;apply Bool.eq_iff_iff.2;simp [laterB,digitB,h] <;> omega)
theorem small_any (c:Int) (w:World):Calls Tryz.prog 192 #[.int .u8 c] w fun e w'=>e = .returned (.bool (smallB c))/\w'=w:=by
 go_enter Tryz.func192,Tryz.ntmps192
 go_wp2
 all_goals go_ret
 all_goals (refine ⟨ret_bool ?_,rfl⟩;apply Bool.eq_iff_iff.2;simp [smallB] <;> omega)
theorem digit_any (c:Int) (w:World):Calls Tryz.prog 195 #[.int .u8 c] w fun e w'=>e = .returned (.bool (digitB c))/\w'=w:=by
 go_enter Tryz.func195,Tryz.ntmps195
 go_wp2
 all_goals go_ret
 all_goals (refine ⟨ret_bool ?_,rfl⟩;apply Bool.eq_iff_iff.2;simp [digitB] <;> omega)
theorem span1_any (c:Int) (w:World):Calls Tryz.prog 194 #[.int .u8 c] w fun e w'=>e = .returned (.bool (laterB c))/\w'=w:=by
 cases h:smallB c
 all_goals
  go_enter Tryz.func194,Tryz.ntmps194
  go_wp2_with (first | (go_at_call 192;refine (small_any _ _).mono ?_;rintro e w' ⟨rfl,rfl⟩;rw [h]) | (go_at_call 195;refine (digit_any _ _).mono ?_;rintro e w' ⟨rfl,rfl⟩))
  all_goals go_ret
  all_goals (refine ⟨ret_bool ?_,rfl⟩;simp [laterB,h])
theorem res_any (s : ByteArray) (w : World) : Calls Tryz.prog 118 #[.string s] w fun e w' => e = .returned (.bool (resB s)) ∧ w' = w := by
  go_enter Tryz.func118, Tryz.ntmps118
  go_wp2
  all_goals go_ret
  all_goals (refine ⟨ret_bool ?_, rfl⟩; simp [resB, *])
theorem resI_any (s : ByteArray) (w : World) : Calls Tryz.prog 181 #[.string s] w fun e w' => e = .returned (.bool (resB s)) ∧ w' = w := by
  go_enter Tryz.func181, Tryz.ntmps181
  go_wp2
  all_goals go_ret
  all_goals (refine ⟨ret_bool ?_, rfl⟩; first | (simp [resB, *]; done) | (exfalso; simp_all))
theorem byteAt_eq (s:ByteArray) (k:Nat) (h:k<s.size):(s[k].toNat:Int)=byteAt s k:=by
 have h':k<s.data.toList.length:=by simpa using h
 simp only [byteAt,List.getD,List.getElem?_eq_getElem h',Option.getD_some]
 rfl
theorem nameB_iff (s:ByteArray):nameB s=true↔nameP s:=by simp [nameB]
theorem nameB_false {s:ByteArray} (h : ¬nameP s):nameB s=false:=by simp [nameB,h]
theorem nameB_true {s:ByteArray} (h:nameP s):nameB s=true:=by simp [nameB,h]
theorem name_yes (s:ByteArray) (w:World) (h1:1<=s.size) (h2:s.size<=20) (h3:smallB (byteAt s 0)=true) (h4:resB s=false) :
  Calls Tryz.prog 81 #[.string s] w fun e w'=>e = .returned (.bool (nameB s))/\w'=w:=by
 have hb:0<s.size:=by omega
 go_enter Tryz.func81,Tryz.ntmps81
 go_wp2_with (first
  | (go_at_call 117;refine (first_any _ _).mono ?_;rintro e w' ⟨rfl,rfl⟩;rw [byteAt_eq _ _ hb,h3])
  | (go_at_call 118;refine (res_any _ _).mono ?_;rintro e w' ⟨rfl,rfl⟩;rw [h4]))
 go_loop [3] (fun i=>∃k:Nat,k<=s.size/\i = .int .i64 k/\laterTo s k) (fun i=>s.size-(intOf i).toNat)
 case atStart=>exact ⟨0,Nat.zero_le _,rfl,fun j hj=>absurd hj (Nat.not_lt_zero _)⟩
 case round=>
  obtain ⟨k,hk,rfl,hl⟩:=hrel
  have HL:=hide hl
  by_cases hlt:k<s.size
  ·cases hc:laterB (byteAt s k)
   ·go_wp2_with (go_at_call 119;refine (later_any _ _).mono ?_;rintro e w' ⟨rfl,rfl⟩;rw [byteAt_eq _ _ hlt,hc])
    go_ret
    exact ⟨ret_bool (nameB_false fun h=>by have:=h.2.2.2.1 k hlt;rw [hc] at this;cases this).symm,rfl⟩
   ·go_wp2_with (go_at_call 119;refine (later_any _ _).mono ?_;rintro e w' ⟨rfl,rfl⟩;rw [byteAt_eq _ _ hlt,hc])
    go_round
    case rel=>exact ⟨k+1,by omega,by go_num,fun j hj=>by by_cases e:j=k;(subst e;exact hc);exact HL.out j (by omega)⟩
    case measure=>simp [intOf];omega
  ·go_wp2_with fail
   go_ret
   exact ⟨ret_bool (nameB_true ⟨h1,h2,h3,fun j hj=>HL.out j (by omega),h4⟩).symm,rfl⟩
theorem name_no (s:ByteArray) (w:World) (h : ¬(1<=s.size/\s.size<=20/\smallB (byteAt s 0)=true/\resB s=false)) :
  Calls Tryz.prog 81 #[.string s] w fun e w'=>e = .returned (.bool (nameB s))/\w'=w:=by
 have hn:nameB s=false:=nameB_false fun hp=>h ⟨hp.1,hp.2.1,hp.2.2.1,hp.2.2.2.2⟩
 rw [hn]
 have H:=hide h
 by_cases h1:1<=s.size
 ·by_cases h2:s.size<=20
  ·have hb:0<s.size:=by omega
   cases h3:smallB (byteAt s 0)
   ·go_enter Tryz.func81,Tryz.ntmps81
    go_wp2_with (first
     | (go_at_call 117;refine (first_any _ _).mono ?_;rintro e w' ⟨rfl,rfl⟩;rw [byteAt_eq _ _ hb,h3]))
    go_ret
    exact ⟨rfl,rfl⟩
   ·have h4:resB s=true:=by
     cases e:resB s
     ·exact absurd ⟨h1,h2,h3,e⟩ H.out
     ·rfl
    go_enter Tryz.func81,Tryz.ntmps81
    go_wp2_with (first
     | (go_at_call 117;refine (first_any _ _).mono ?_;rintro e w' ⟨rfl,rfl⟩;rw [byteAt_eq _ _ hb,h3])
     | (go_at_call 118;refine (res_any _ _).mono ?_;rintro e w' ⟨rfl,rfl⟩;rw [h4]))
    go_ret
    exact ⟨rfl,rfl⟩
  ·go_enter Tryz.func81,Tryz.ntmps81
   go_wp2_with fail
   go_ret
   exact ⟨rfl,rfl⟩
 ·go_enter Tryz.func81,Tryz.ntmps81
  go_wp2_with fail
  go_ret
  exact ⟨rfl,rfl⟩
theorem name_any (s:ByteArray) (w:World):Calls Tryz.prog 81 #[.string s] w fun e w'=>e = .returned (.bool (nameB s))/\w'=w:=by
 by_cases h:1<=s.size/\s.size<=20/\smallB (byteAt s 0)=true/\resB s=false
 ·exact name_yes s w h.1 h.2.1 h.2.2.1 h.2.2.2
 ·exact name_no s w h
def spanOf (s:ByteArray) (k:Nat):Prop:=laterTo s k/\(k<s.size->laterB (byteAt s k)=false)
theorem span_any (b cap:Nat) (s:ByteArray) (w:World) (hs:s.size<=9223372036854775807) (hc : ∀j,j<s.size->w.cell? ⟨b,j,none⟩=some (.int .u8 (byteAt s j))) :
  Calls Tryz.prog 193 #[.slice (some ⟨b,0,none⟩) s.size cap,.func (.func 194) #[] #[]] w fun e w'=>∃k:Nat,k<=s.size/\spanOf s k/\e = .returned (.int .i64 k)/\w'=w:=by
 go_enter Tryz.func193,Tryz.ntmps193
 go_wp2_with fail
 go_loop [9] (fun i=>∃k:Nat,k<=s.size/\i = .int .i64 k/\laterTo s k) (fun i=>s.size-(intOf i).toNat)
 case atStart=>exact ⟨0,Nat.zero_le _,rfl,fun j hj=>absurd hj (Nat.not_lt_zero _)⟩
 case round=>
  obtain ⟨k,hk,rfl,hl⟩:=hrel
  have HL:=hide hl
  by_cases hlt:k<s.size
  ·have hck:=hc k hlt
   have HC:=hide hc
   cases hd:laterB (byteAt s k)
   ·go_wp2_with (go_at_call 194;refine (span1_any _ _).mono ?_;rintro e w' ⟨rfl,rfl⟩;rw [hd])
    go_ret
    exact ⟨k,by omega,⟨HL.out,fun _=>hd⟩,rfl,rfl⟩
   ·go_wp2_with (go_at_call 194;refine (span1_any _ _).mono ?_;rintro e w' ⟨rfl,rfl⟩;rw [hd])
    go_round
    case rel=>exact ⟨k+1,by omega,by go_num,fun j hj=>by by_cases e:j=k;(subst e;exact hd);exact HL.out j (by omega)⟩
    case measure=>simp [intOf];omega
  ·go_wp2_with fail
   go_ret
   exact ⟨s.size,by omega,⟨fun j hj=>HL.out j (by omega),fun h=>absurd h (Nat.lt_irrefl _)⟩,rfl,rfl⟩
def nspanOf (s:ByteArray) (k:Nat):Prop:=(smallB (byteAt s 0)=false/\k=0)∨(smallB (byteAt s 0)=true/\spanOf s k)
theorem nspan_any (b cap:Nat) (s:ByteArray) (w:World) (h0:0<s.size) (hs:s.size<=9223372036854775807) (hc : ∀j,j<s.size->w.cell? ⟨b,j,none⟩=some (.int .u8 (byteAt s j))) :
  Calls Tryz.prog 180 #[.slice (some ⟨b,0,none⟩) s.size cap] w fun e w'=>∃k:Nat,k<=s.size/\nspanOf s k/\e = .returned (.int .i64 k)/\w'=w:=by
 have hc0:=hc 0 h0
 have hne:((s.size:Int) == 0)=false:=by simp only [beq_eq_false_iff_ne];omega
 have HC:=hide hc
 cases hd:smallB (byteAt s 0)
 ·go_enter Tryz.func180,Tryz.ntmps180
  go_wp2_with (go_at_call 192;refine (small_any _ _).mono ?_;rintro e w' ⟨rfl,rfl⟩;rw [hd])
  go_ret
  exact ⟨0,by omega,.inl ⟨hd,rfl⟩,rfl,rfl⟩
 ·go_enter Tryz.func180,Tryz.ntmps180
  go_wp2_with (go_at_call 192;refine (small_any _ _).mono ?_;rintro e w' ⟨rfl,rfl⟩;rw [hd])
  refine (span_any b cap s _ hs HC.out).mono ?_
  rintro e w' ⟨k,hk,hsp,rfl,rfl⟩
  go_wp2_with fail
  go_ret
  exact ⟨k,hk,.inr ⟨hd,hsp⟩,rfl,rfl⟩
theorem bytesWorld_below (w:World) (e:TypeId) (s:ByteArray):Below w.heap.size w (Lib.bytesWorld w e s):=
 ⟨rfl,rfl,rfl,by rw [Lib.bytesWorld_size];omega,fun k hk=>Lib.bytesWorld_at_old w e s k hk⟩
theorem nspan_name {s:ByteArray} {k:Nat} (h1:1<=s.size) (h2:s.size<=20) (hk:k<=s.size) (h:nspanOf s k) (hr:resB s=false):(k == s.size)=nameB s:=by
 apply Bool.eq_iff_iff.2
 simp only [beq_iff_eq,nameB_iff]
 constructor
 ·rintro rfl
  rcases h with ⟨_,h⟩ | ⟨hs,hsp⟩
  ·omega
  ·exact ⟨h1,h2,hs,hsp.1,hr⟩
 ·intro hp
  rcases h with ⟨h,_⟩ | ⟨hs,hsp⟩
  ·rw [hp.2.2.1] at h;cases h
  ·by_cases e:k=s.size
   ·exact e
   ·have h':=hsp.2 (by omega)
    rw [hp.2.2.2.1 k (by omega)] at h';cases h'
theorem vname_short (s:ByteArray) (w:World) (h:s.size<1∨20<s.size) :
  Calls Tryz.prog 156 #[.string s] w fun e w'=>e = .returned (.bool (nameB s))/\Below w.heap.size w w':=by
 have hn:nameB s=false:=nameB_false fun hp=>by have:=hp.1;have:=hp.2.1;omega
 rw [hn]
 rcases h with h | h
 ·go_enter Tryz.func156,Tryz.ntmps156
  go_wp2_with fail
  go_ret
  exact ⟨rfl,Below.refl _ _⟩
 ·have h':1<=s.size:=by omega
  go_enter Tryz.func156,Tryz.ntmps156
  go_wp2_with fail
  go_ret
  exact ⟨rfl,Below.refl _ _⟩
theorem vname_long (s:ByteArray) (w:World) (h1:1<=s.size) (h2:s.size<=20) :
  Calls Tryz.prog 156 #[.string s] w fun e w'=>e = .returned (.bool (nameB s))/\Below w.heap.size w w':=by
 have hconv : ∀w,(convert 9 158 (.string s)).run Tryz.prog w = .ok (.slice (some ⟨w.heap.size,0,none⟩) s.size (grownCap w s.size 0 5)) (Lib.bytesWorld w 5 s):=fun w=>Lib.run_convert_string_bytes w 9 _ 5 s Tryz.underlying9 Tryz.underlying158 Tryz.underlying5
 go_enter Tryz.func156,Tryz.ntmps156
 go_wp2_with fail
 refine (nspan_any _ _ s _ (by omega) (by omega) (fun j hj=>Lib.bytesWorld_cell w 5 s j hj)).mono ?_
 rintro e w' ⟨k,hk,hsp,rfl,rfl⟩
 have HSP:=hide hsp
 by_cases hks:k=s.size
 ·subst hks
  cases hr:resB s
  all_goals
   go_wp2_with (go_at_call 181;refine (resI_any _ _).mono ?_;rintro e w' ⟨rfl,rfl⟩;rw [hr])
   go_ret
  ·refine ⟨ret_bool ?_,bytesWorld_below w 5 s⟩
   rw [<-nspan_name h1 h2 hk HSP.out hr];simp
  ·exact ⟨ret_bool (nameB_false fun hp=>by have:=hp.2.2.2.2;rw [hr] at this;cases this).symm,bytesWorld_below w 5 s⟩
 ·have hks':((k:Int) == (s.size:Int))=false:=by simp only [beq_eq_false_iff_ne];omega
  go_wp2_with fail
  go_ret
  refine ⟨ret_bool ?_,bytesWorld_below w 5 s⟩
  cases hr:resB s
  ·rw [<-nspan_name h1 h2 hk HSP.out hr];simp;omega
  ·exact (nameB_false fun hp=>by have:=hp.2.2.2.2;rw [hr] at this;cases this).symm
theorem vname_any (s:ByteArray) (w:World):Calls Tryz.prog 156 #[.string s] w fun e w'=>e = .returned (.bool (nameB s))/\Below w.heap.size w w':=by
 by_cases h:1<=s.size/\s.size<=20
 ·exact vname_long s w h.1 h.2
 ·exact vname_short s w (by omega)
end Go.Proofs.YtmddmgpijpjpbaaGreatDoor
