import Derived.Test.YtmddmgpijpjpbaaGreatDoorR11
import Derived.BigQuiet
import Derived.Test.YtmddmgpijpjpbaaGreatDoorRows
import Derived.WalkKit
import Derived.WalkSpells
namespace Go.Proofs.YtmddmgpijpjpbaaGreatDoor
open Go.RowKit Ap
open Go.RowKit
set_option linter.unusedVariables false
set_option linter.unusedSimpArgs false
set_option maxRecDepth 100000
set_option maxHeartbeats 16000000
def apN (op a b:Int):Int:=
 if op=0 then (wrap32 (wrap32 a*wrap32 b))
 else if op=1 then (if wrap32 b=0 then (-1) else (wrap32 ((wrap32 a).tdiv (wrap32 b))))
 else if op=2 then (if wrap32 b=0 then (wrap32 a) else ((wrap32 a).tmod (wrap32 b)))
 else if op=3 then (wrap32 (wrap32 a+wrap32 b))
 else if op=4 then (wrap32 (wrap32 a-wrap32 b))
 else if op=5 then (wrap32 (wrap32 a*2 ^ (wrap32 b % 32).toNat))
 else if op=6 then (wrap32 a / 2 ^ (wrap32 b % 32).toNat)
 else if op=7 then (if wrap32 a<wrap32 b then (1) else (0))
 else if op=8 then (if wrap32 a<=wrap32 b then (1) else (0))
 else if op=9 then (if wrap32 b<wrap32 a then (1) else (0))
 else if op=10 then (if wrap32 b<=wrap32 a then (1) else (0))
 else if op=11 then (if wrap32 a=wrap32 b then (1) else (0))
 else if op=12 then (if wrap32 a≠wrap32 b then (1) else (0))
 else if op=13 then (bits .and .i32 (wrap32 a) (wrap32 b))
 else if op=14 then (bits .xor .i32 (wrap32 a) (wrap32 b))
 else if op=15 then (bits .or .i32 (wrap32 a) (wrap32 b))
 else 0
theorem ap_i (op a b:Int) (w:World):Calls Tryz.prog 188 #[.int .i64 op,.int .i64 a,.int .i64 b] w fun e w'=>e = .returned (.int .i64 (apN op a b))/\w'=w:=by
 by_cases h:op<0∨15<op
 ·have e:apN op a b=0:=by unfold apN;rw [if_neg (by omega)];rw [if_neg (by omega)];rw [if_neg (by omega)];rw [if_neg (by omega)];rw [if_neg (by omega)];rw [if_neg (by omega)];rw [if_neg (by omega)];rw [if_neg (by omega)];rw [if_neg (by omega)];rw [if_neg (by omega)];rw [if_neg (by omega)];rw [if_neg (by omega)];rw [if_neg (by omega)];rw [if_neg (by omega)];rw [if_neg (by omega)];rw [if_neg (by omega)]
  rw [e];exact iN op a b w h
 ·have hop:op=0∨op=1∨op=2∨op=3∨op=4∨op=5∨op=6∨op=7∨op=8∨op=9∨op=10∨op=11∨op=12∨op=13∨op=14∨op=15:=by omega
  rcases hop with rfl | rfl | rfl | rfl | rfl | rfl | rfl | rfl | rfl | rfl | rfl | rfl | rfl | rfl | rfl | rfl
  ·exact i0 a b w
  ·by_cases h:wrap32 b=0
   ·have e:apN 1 a b=(-1):=by simp [apN,h]
    rw [e];exact i1z a b w h
   ·have e:apN 1 a b=(wrap32 ((wrap32 a).tdiv (wrap32 b))):=by simp [apN,h]
    rw [e];exact i1n a b w h
  ·by_cases h:wrap32 b=0
   ·have e:apN 2 a b=(wrap32 a):=by simp [apN,h]
    rw [e];exact i2z a b w h
   ·have e:apN 2 a b=((wrap32 a).tmod (wrap32 b)):=by simp [apN,h]
    rw [e];exact i2n a b w h
  ·exact i3 a b w
  ·exact i4 a b w
  ·exact i5 a b w
  ·exact i6 a b w
  ·by_cases h:wrap32 a<wrap32 b
   ·have e:apN 7 a b=(1):=by simp [apN,h]
    rw [e];exact i7t a b w h
   ·have e:apN 7 a b=(0):=by simp [apN,h]
    rw [e];exact i7f a b w h
  ·by_cases h:wrap32 a<=wrap32 b
   ·have e:apN 8 a b=(1):=by simp [apN,h]
    rw [e];exact i8t a b w h
   ·have e:apN 8 a b=(0):=by simp [apN,h]
    rw [e];exact i8f a b w h
  ·by_cases h:wrap32 b<wrap32 a
   ·have e:apN 9 a b=(1):=by simp [apN,h]
    rw [e];exact i9t a b w h
   ·have e:apN 9 a b=(0):=by simp [apN,h]
    rw [e];exact i9f a b w h
  ·by_cases h:wrap32 b<=wrap32 a
   ·have e:apN 10 a b=(1):=by simp [apN,h]
    rw [e];exact i10t a b w h
   ·have e:apN 10 a b=(0):=by simp [apN,h]
    rw [e];exact i10f a b w h
  ·by_cases h:wrap32 a=wrap32 b
   ·have e:apN 11 a b=(1):=by simp [apN,h]
    rw [e];exact i11t a b w h
   ·have e:apN 11 a b=(0):=by simp [apN,h]
    rw [e];exact i11f a b w h
  ·by_cases h:wrap32 a≠wrap32 b
   ·have e:apN 12 a b=(1):=by simp [apN,h]
    rw [e];exact i12t a b w h
   ·have e:apN 12 a b=(0):=by simp [apN,h]
    rw [e];exact i12f a b w h
  ·exact i13 a b w
  ·exact i14 a b w
  ·exact i15 a b w
theorem ap_s (op a b:Int) (w:World):Calls Tryz.prog 108 #[.int .i64 op,.int .i64 a,.int .i64 b] w fun e w'=>e = .returned (.int .i64 (apN op a b))/\w'=w:=by
 by_cases h:op<0∨15<op
 ·have e:apN op a b=0:=by unfold apN;rw [if_neg (by omega)];rw [if_neg (by omega)];rw [if_neg (by omega)];rw [if_neg (by omega)];rw [if_neg (by omega)];rw [if_neg (by omega)];rw [if_neg (by omega)];rw [if_neg (by omega)];rw [if_neg (by omega)];rw [if_neg (by omega)];rw [if_neg (by omega)];rw [if_neg (by omega)];rw [if_neg (by omega)];rw [if_neg (by omega)];rw [if_neg (by omega)];rw [if_neg (by omega)]
  rw [e];exact sN op a b w h
 ·have hop:op=0∨op=1∨op=2∨op=3∨op=4∨op=5∨op=6∨op=7∨op=8∨op=9∨op=10∨op=11∨op=12∨op=13∨op=14∨op=15:=by omega
  rcases hop with rfl | rfl | rfl | rfl | rfl | rfl | rfl | rfl | rfl | rfl | rfl | rfl | rfl | rfl | rfl | rfl
  ·exact s0 a b w
  ·by_cases h:wrap32 b=0
   ·have e:apN 1 a b=(-1):=by simp [apN,h]
    rw [e];exact s1z a b w h
   ·have e:apN 1 a b=(wrap32 ((wrap32 a).tdiv (wrap32 b))):=by simp [apN,h]
    rw [e];exact s1n a b w h
  ·by_cases h:wrap32 b=0
   ·have e:apN 2 a b=(wrap32 a):=by simp [apN,h]
    rw [e];exact s2z a b w h
   ·have e:apN 2 a b=((wrap32 a).tmod (wrap32 b)):=by simp [apN,h]
    rw [e];exact s2n a b w h
  ·exact s3 a b w
  ·exact s4 a b w
  ·exact s5 a b w
  ·exact s6 a b w
  ·by_cases h:wrap32 a<wrap32 b
   ·have e:apN 7 a b=(1):=by simp [apN,h]
    rw [e];exact s7t a b w h
   ·have e:apN 7 a b=(0):=by simp [apN,h]
    rw [e];exact s7f a b w h
  ·by_cases h:wrap32 a<=wrap32 b
   ·have e:apN 8 a b=(1):=by simp [apN,h]
    rw [e];exact s8t a b w h
   ·have e:apN 8 a b=(0):=by simp [apN,h]
    rw [e];exact s8f a b w h
  ·by_cases h:wrap32 b<wrap32 a
   ·have e:apN 9 a b=(1):=by simp [apN,h]
    rw [e];exact s9t a b w h
   ·have e:apN 9 a b=(0):=by simp [apN,h]
    rw [e];exact s9f a b w h
  ·by_cases h:wrap32 b<=wrap32 a
   ·have e:apN 10 a b=(1):=by simp [apN,h]
    rw [e];exact s10t a b w h
   ·have e:apN 10 a b=(0):=by simp [apN,h]
    rw [e];exact s10f a b w h
  ·by_cases h:wrap32 a=wrap32 b
   ·have e:apN 11 a b=(1):=by simp [apN,h]
    rw [e];exact s11t a b w h
   ·have e:apN 11 a b=(0):=by simp [apN,h]
    rw [e];exact s11f a b w h
  ·by_cases h:wrap32 a≠wrap32 b
   ·have e:apN 12 a b=(1):=by simp [apN,h]
    rw [e];exact s12t a b w h
   ·have e:apN 12 a b=(0):=by simp [apN,h]
    rw [e];exact s12f a b w h
  ·exact s13 a b w
  ·exact s14 a b w
  ·exact s15 a b w
def inB (z:Int):Prop := -2147483648<=z/\z<=2147483647
theorem div_bd (x:Int) (n:Nat) (hx : -2147483648<=x/\x<=2147483647) : -2147483648<=x / 2 ^ n/\x / 2 ^ n<=2147483647:=by
 have hp:(0:Int)<2 ^ n:=Int.pow_pos (by decide)
 have h1:(1:Int)<=2 ^ n:=by omega
 constructor
 ·rw [Int.le_ediv_iff_mul_le hp]
  have:(-2147483648:Int)*2 ^ n <= -2147483648*1:=Int.mul_le_mul_of_nonpos_left (by decide) h1
  omega
 ·have h2:x / 2 ^ n<=x∨x / 2 ^ n<0:=by
   by_cases hx0:0<=x
   ·exact .inl (Int.ediv_le_self _ hx0)
   ·exact .inr (Int.ediv_neg_of_neg_of_pos (by omega) hp)
  omega
theorem ap_bd (op a b:Int):inB (apN op a b):=by
 have ha:=w32_bd a
 have hb:=w32_bd b
 by_cases h:op<0∨15<op
 ·have e:apN op a b=0:=by unfold apN;rw [if_neg (by omega)];rw [if_neg (by omega)];rw [if_neg (by omega)];rw [if_neg (by omega)];rw [if_neg (by omega)];rw [if_neg (by omega)];rw [if_neg (by omega)];rw [if_neg (by omega)];rw [if_neg (by omega)];rw [if_neg (by omega)];rw [if_neg (by omega)];rw [if_neg (by omega)];rw [if_neg (by omega)];rw [if_neg (by omega)];rw [if_neg (by omega)];rw [if_neg (by omega)]
  rw [e];exact ⟨by decide,by decide⟩
 ·have hop:op=0∨op=1∨op=2∨op=3∨op=4∨op=5∨op=6∨op=7∨op=8∨op=9∨op=10∨op=11∨op=12∨op=13∨op=14∨op=15:=by omega
  rcases hop with rfl | rfl | rfl | rfl | rfl | rfl | rfl | rfl | rfl | rfl | rfl | rfl | rfl | rfl | rfl | rfl
  ·rw [show apN 0 a b=(wrap32 (wrap32 a*wrap32 b)) by simp [apN]];exact w32_bd _
  ·by_cases h:wrap32 b=0
   ·rw [show apN 1 a b=(-1) by simp [apN,h]];exact ⟨by decide,by decide⟩
   ·rw [show apN 1 a b=(wrap32 ((wrap32 a).tdiv (wrap32 b))) by simp [apN,h]];exact w32_bd _
  ·by_cases h:wrap32 b=0
   ·rw [show apN 2 a b=(wrap32 a) by simp [apN,h]];exact w32_bd _
   ·rw [show apN 2 a b=((wrap32 a).tmod (wrap32 b)) by simp [apN,h]];exact tmod_bd _ _ ha
  ·rw [show apN 3 a b=(wrap32 (wrap32 a+wrap32 b)) by simp [apN]];exact w32_bd _
  ·rw [show apN 4 a b=(wrap32 (wrap32 a-wrap32 b)) by simp [apN]];exact w32_bd _
  ·rw [show apN 5 a b=(wrap32 (wrap32 a*2 ^ (wrap32 b % 32).toNat)) by simp [apN]];exact w32_bd _
  ·rw [show apN 6 a b=(wrap32 a / 2 ^ (wrap32 b % 32).toNat) by simp [apN]];exact div_bd _ _ ha
  ·by_cases h:wrap32 a<wrap32 b
   ·rw [show apN 7 a b=(1) by simp [apN,h]];exact ⟨by decide,by decide⟩
   ·rw [show apN 7 a b=(0) by simp [apN,h]];exact ⟨by decide,by decide⟩
  ·by_cases h:wrap32 a<=wrap32 b
   ·rw [show apN 8 a b=(1) by simp [apN,h]];exact ⟨by decide,by decide⟩
   ·rw [show apN 8 a b=(0) by simp [apN,h]];exact ⟨by decide,by decide⟩
  ·by_cases h:wrap32 b<wrap32 a
   ·rw [show apN 9 a b=(1) by simp [apN,h]];exact ⟨by decide,by decide⟩
   ·rw [show apN 9 a b=(0) by simp [apN,h]];exact ⟨by decide,by decide⟩
  ·by_cases h:wrap32 b<=wrap32 a
   ·rw [show apN 10 a b=(1) by simp [apN,h]];exact ⟨by decide,by decide⟩
   ·rw [show apN 10 a b=(0) by simp [apN,h]];exact ⟨by decide,by decide⟩
  ·by_cases h:wrap32 a=wrap32 b
   ·rw [show apN 11 a b=(1) by simp [apN,h]];exact ⟨by decide,by decide⟩
   ·rw [show apN 11 a b=(0) by simp [apN,h]];exact ⟨by decide,by decide⟩
  ·by_cases h:wrap32 a≠wrap32 b
   ·rw [show apN 12 a b=(1) by simp [apN,h]];exact ⟨by decide,by decide⟩
   ·rw [show apN 12 a b=(0) by simp [apN,h]];exact ⟨by decide,by decide⟩
  ·rw [show apN 13 a b=(bits .and .i32 (wrap32 a) (wrap32 b)) by simp [apN]];exact bits_bd _ _ _
  ·rw [show apN 14 a b=(bits .xor .i32 (wrap32 a) (wrap32 b)) by simp [apN]];exact bits_bd _ _ _
  ·rw [show apN 15 a b=(bits .or .i32 (wrap32 a) (wrap32 b)) by simp [apN]];exact bits_bd _ _ _
theorem ap_ne0 (a:Int) (h : -2147483648<=a/\a<=2147483647):apN 12 a 0=if a=0 then 0 else 1:=by
 have e1:wrap32 a=a:=w32_id a h
 have e2:wrap32 0=0:=w32_id 0 ⟨by decide,by decide⟩
 unfold apN
 simp only [e1,e2]
 by_cases h0:a=0 <;> simp [h0]
theorem num_any (v:Int) (w:World):Calls Tryz.prog 106 #[.int .i64 v] w fun e w'=>∃x,e = .returned x/\Nodes w' x (numN v)/\(∀g,x.ownBlock=some g->w.heap.size<=g)/\Below w.heap.size w w':=by
 go_enter Tryz.func106,Tryz.ntmps106
 go_wp2_with fail
 refine bodyPost_ret (v:=.slice (some ⟨w.heap.size,0,none⟩) 1 1) (by simp [results,Tryz.results106,go_sem]) rfl ⟨_,rfl,?_,fun g hg=>by simp only [Value.ownBlock,Option.some.injEq] at hg;omega,(Below.refl _ _).alloc (Nat.le_refl _) _⟩
 refine ⟨_,1,rfl,Nat.le_refl _,by omega,fun _=>⟨w.heap.size,0,rfl,fun j hj => ?_⟩⟩
 obtain rfl:j=0:=by simp [numN] at hj;exact hj
 simp [numN]
theorem is_any (v:Value) (n:Nd) (r:List Nd) (w:World) (hl:(n::r).length<=1048576) (hN:Nodes w v (n::r)) :
  Calls Tryz.prog 68 #[v] w fun e w'=>e = .returned (.tuple #[.bool (isN (n::r)).isSome,.int .i64 n.val])/\Below w.heap.size w w':=by
 obtain ⟨a,cap,rfl,hcl,hcm,hc⟩:=hN
 obtain ⟨b,off,rfl,hc1⟩:=hc (by simp)
 obtain ⟨d0,d1,d2⟩:=hc1 0 (by simp)
 simp only [Nat.zero_mul,Nat.add_zero,List.getElem_cons_zero] at d0 d1 d2
 clear hc hc1
 obtain ⟨nk,nv,nm⟩:=n
 simp only at d0 d1 d2
 cases r with
 | nil=>
  have HE:Hid ((isN [(⟨nk,nv,nm⟩:Nd)]).isSome=decide (nk=1)):=by
   show _=_
   by_cases h:nk=1 <;> simp [isN,h]
  simp only [l_c,l_n] at *
  by_cases h1:nk=1
  ·subst h1
   go_enter Tryz.func68,Tryz.ntmps68
   go_wp2_with fail
   go_quiet (fail)
   go_wp2_with fail
   refine bodyPost_ret (v:=.tuple #[.bool true,.int .i64 nv]) (by simp [results,Tryz.results68,go_sem]) rfl ⟨?_,below_drewN (Below.refl _ _) _⟩
   rw [HE.out]
   simp
  ·have h1b:(nk == 1)=false:=by simp [h1]
   go_enter Tryz.func68,Tryz.ntmps68
   go_wp2_with fail
   go_quiet (fail)
   go_wp2_with fail
   refine bodyPost_ret (v:=.tuple #[.bool false,.int .i64 nv]) (by simp [results,Tryz.results68,go_sem]) rfl ⟨?_,below_drewN (Below.refl _ _) _⟩
   rw [HE.out]
   simp [h1]
 | cons m r=>
  have HE:Hid ((isN ((⟨nk,nv,nm⟩:Nd)::m::r)).isSome=false):=rfl
  simp only [l_c] at *
  have h1 : ¬((r.length:Int)+1+1=1):=by omega
  have h1b:((r.length:Int)+1+1 == 1)=false:=by simp;omega
  have h1c:(((r.length+1+1:Nat):Int) == 1)=false:=by simp;omega
  go_enter Tryz.func68,Tryz.ntmps68
  go_wp2_with fail
  go_quiet (fail)
  go_wp2_with fail
  refine bodyPost_ret (v:=.tuple #[.bool false,.int .i64 nv]) (by simp [results,Tryz.results68,go_sem]) rfl ⟨?_,below_drewN (Below.refl _ _) _⟩
  rw [HE.out]
theorem bool_any (b:Bool) (w:World):Calls Tryz.prog 144 #[.bool b] w fun e w'=>e = .returned (.int .i64 (boolN b))/\w'=w:=by
 cases b
 ·go_enter Tryz.func144,Tryz.ntmps144
  go_wp2_with fail
  go_ret
  exact ⟨rfl,rfl⟩
 ·go_enter Tryz.func144,Tryz.ntmps144
  go_wp2_with fail
  go_ret
  exact ⟨rfl,rfl⟩
theorem xor_m1 (a:Int) (h : -2147483648<=a/\a<=2147483647):bits .xor .i64 (-1) a = -1-a:=by
 rw [Ap.bits_xor _ _ ⟨by decide,by decide⟩ h]
 have e:bits .xor .i32 (-1) a=IntKind.i32.wrap (((BitVec.ofInt 32 (-1)) ^^^ (BitVec.ofInt 32 a)).toNat:Int):=rfl
 rw [e,Ap.wrap_toNat32]
 have e1:BitVec.ofInt 32 (-1)=BitVec.allOnes 32:=by decide
 rw [e1,BitVec.allOnes_xor,BitVec.toInt_not]
 have e2:(BitVec.ofInt 32 a).toNat=(a % 4294967296).toNat:=by simp [BitVec.toNat_ofInt]
 rw [e2]
 have h3:(0:Int)<=a % 4294967296:=by omega
 simp only [Int.bmod]
 omega
theorem unS_any (op a:Int) (h0:0<=op) (h2:op<=2) (ha:inB a) (w:World):Calls Tryz.prog 107 #[.int .i64 op,.int .i64 a] w fun e w'=>e = .returned (.int .i64 (unN op a))/\w'=w:=by
 obtain ⟨ha0,ha1⟩:=ha
 have:op=0∨op=1∨op=2:=by omega
 rcases this with rfl | rfl | rfl
 ·have HE:Hid (unN 0 a=wrap32 (-a)):=by show _=_;simp [unN,w32]
  have HW:Hid (wrap64 (wrap32 (-a))=wrap32 (-a)):=Ap.w64_32 _
  go_enter Tryz.func107,Tryz.ntmps107
  go_wp2
  all_goals go_ret
  all_goals refine ⟨Ap.ret_intA ?_,rfl⟩
  all_goals first | exact HE.out.symm | exact HW.out.trans HE.out.symm
 ·by_cases hz:a=0
  ·subst hz
   go_enter Tryz.func107,Tryz.ntmps107
   go_wp2
   all_goals go_ret
   all_goals exact ⟨rfl,rfl⟩
  ·have HE:Hid (unN 1 a=0):=by show _=_;simp [unN,boolN,hz]
   have hzb:(a == 0)=false:=by simp [hz]
   go_enter Tryz.func107,Tryz.ntmps107
   go_wp2
   all_goals go_ret
   all_goals exact ⟨Ap.ret_intA HE.out.symm,rfl⟩
 ·have HE:Hid (unN 2 a = -1-a):=by show _=_;simp only [unN,w32];rw [if_neg (by decide),if_neg (by decide)];exact Ap.w32_id _ ⟨by omega,by omega⟩
  go_enter Tryz.func107,Tryz.ntmps107
  go_wp2
  all_goals go_ret
  all_goals refine ⟨Ap.ret_intA ?_,rfl⟩
  all_goals first | exact HE.out.symm | (rw [HE.out];exact xor_m1 a ⟨ha0,ha1⟩)
theorem unI_any (op a:Int) (h0:0<=op) (h2:op<=2) (ha:inB a) (w:World):Calls Tryz.prog 170 #[.int .i64 op,.int .i64 a] w fun e w'=>e = .returned (.int .i64 (unN op a))/\w'=w:=by
 obtain ⟨ha0,ha1⟩:=ha
 have:op=0∨op=1∨op=2:=by omega
 rcases this with rfl | rfl | rfl
 ·have HE:Hid (unN 0 a=wrap32 (-a)):=by show _=_;simp [unN,w32]
  have HW:Hid (wrap64 (wrap32 (-a))=wrap32 (-a)):=Ap.w64_32 _
  go_enter Tryz.func170,Tryz.ntmps170
  go_wp2
  all_goals go_ret
  all_goals refine ⟨Ap.ret_intA ?_,rfl⟩
  all_goals first | exact HE.out.symm | exact HW.out.trans HE.out.symm
 ·by_cases hz:a=0
  ·subst hz
   go_enter Tryz.func170,Tryz.ntmps170
   go_wp2
   all_goals go_ret
   all_goals exact ⟨rfl,rfl⟩
  ·have HE:Hid (unN 1 a=0):=by show _=_;simp [unN,boolN,hz]
   have hzb:(a == 0)=false:=by simp [hz]
   go_enter Tryz.func170,Tryz.ntmps170
   go_wp2
   all_goals go_ret
   all_goals exact ⟨Ap.ret_intA HE.out.symm,rfl⟩
 ·have HE:Hid (unN 2 a = -1-a):=by show _=_;simp only [unN,w32];rw [if_neg (by decide),if_neg (by decide)];exact Ap.w32_id _ ⟨by omega,by omega⟩
  go_enter Tryz.func170,Tryz.ntmps170
  go_wp2
  all_goals go_ret
  all_goals refine ⟨Ap.ret_intA ?_,rfl⟩
  all_goals first | exact HE.out.symm | (rw [HE.out];exact xor_m1 a ⟨ha0,ha1⟩)
theorem isN_cons {n:Nd} {r:List Nd} {x:Int} (h:isN (n::r)=some x):x=n.val:=by
 cases r with
 | nil=>
  simp only [isN] at h
  split at h
  ·simpa using h.symm
  ·cases h
 | cons=>simp [isN] at h
theorem truth_any (v:Value) (r:List Nd) (w:World) (hp:0<r.length) (hl:r.length<=1048576) (hN:Nodes w v r) :
  Calls Tryz.prog 109 #[v] w fun e w'=>∃x,e = .returned x/\Nodes w' x (truthL r)/\(∀g,x.ownBlock=some g->w.heap.size<=g)/\Below w.heap.size w w':=by
 cases r with
 | nil=>simp at hp
 | cons n r=>
 have HN:=hide hN
 have HI:=hide (is_any v n r w hl hN)
 cases hx:isN (n::r) with
 | some x=>
  have HV:Hid (x=n.val):=isN_cons hx
  have HT:Hid (truthL (n::r)=numN (boolN (decide (n.val≠0)))):=by show _=_;rw [<-isN_cons hx];simp [truthL,hx]
  rw [hx] at HI
  simp only [Option.isSome_some] at HI
  generalize n.val=nv at HI HT HV
  by_cases hz:nv=0
  ·subst hz
   go_enter Tryz.func109,Tryz.ntmps109
   go_wp2_with fail
   refine HI.out.mono ?_
   rintro e w1 ⟨rfl,hb1⟩
   go_wp2_with fail
   refine (bool_any false w1).mono ?_
   rintro e w2 ⟨rfl,rfl⟩
   go_wp2_with fail
   refine (num_any _ _).mono ?_
   rintro e w3 ⟨u,rfl,hu,hfu,hb3⟩
   have HU:=hide hu
   go_wp2_with fail
   refine bodyPost_ret (v:=u) (by simp [results,Tryz.results109,go_sem]) rfl ⟨_,rfl,?_,fun g hg=>Nat.le_trans hb1.size (hfu g hg),hb1.trans (hb3.mono hb1.size)⟩
   rw [HT.out]
   exact HU.out
  ·have hzb:(nv != 0)=true:=by simp [hz]
   go_enter Tryz.func109,Tryz.ntmps109
   go_wp2_with fail
   refine HI.out.mono ?_
   rintro e w1 ⟨rfl,hb1⟩
   go_wp2_with fail
   refine (bool_any true w1).mono ?_
   rintro e w2 ⟨rfl,rfl⟩
   go_wp2_with fail
   refine (num_any _ _).mono ?_
   rintro e w3 ⟨u,rfl,hu,hfu,hb3⟩
   have HU:=hide hu
   go_wp2_with fail
   refine bodyPost_ret (v:=u) (by simp [results,Tryz.results109,go_sem]) rfl ⟨_,rfl,?_,fun g hg=>Nat.le_trans hb1.size (hfu g hg),hb1.trans (hb3.mono hb1.size)⟩
   rw [HT.out,decide_eq_true hz]
   exact HU.out
 | none=>
  have HT:Hid (truthL (n::r)=(n::r)++[⟨1,0,⟨#[]⟩⟩,⟨7,12,⟨#[]⟩⟩]):=by show _=_;simp [truthL,hx]
  rw [hx] at HI
  simp only [Option.isSome_none] at HI
  generalize hq:n::r=q at HN HT hl hp
  generalize n.val=nv at HI
  go_enter Tryz.func109,Tryz.ntmps109
  go_wp2_with fail
  refine HI.out.mono ?_
  rintro e w1 ⟨rfl,hb1⟩
  have hs1:=hb1.size
  have HL:Hid (∀W:World,NRow w1.heap.size (w1.alloc (.cells #[] 161)) (.slice (some ⟨w1.heap.size,0,none⟩) 0 0) []):=fun _=>World.ownsRow_lit w1 #[] 0 (Nat.le_refl _) (by decide) rfl
  go_wp2_with (at_builtin;refine wpList_appN rfl _ _ rfl w1.heap.size _ [] rfl (HL.out w) _ q rfl (HN.out.below (hb1.trans ((bel_a _ _).mono hs1))) hp (by simp;omega) (by simp) ?_)
  intro v2 w2 hR2 hg2 _
  have hB2:Bl w1 w2:=(bel_a _ _).grown hg2 (by simp) (fun k hk=>by simp only [Value.ownBlock,Option.some.injEq] at hk;omega)
  have HR2:=hide hR2
  have HN2:Hid (Nodes (w2.alloc (.cells #[.int .i64 1,.int .i64 0,.string ⟨#[]⟩,.int .i64 7,.int .i64 12,.string ⟨#[]⟩] 161)) (.slice (some ⟨w2.heap.size,0,none⟩) 2 2) [⟨1,0,⟨#[]⟩⟩,⟨7,12,⟨#[]⟩⟩]):=by
   refine ⟨_,2,rfl,Nat.le_refl _,by omega,fun _=>⟨w2.heap.size,0,rfl,fun j hj => ?_⟩⟩
   have:j=0∨j=1:=by simp at hj;omega
   rcases this with rfl | rfl <;> simp
  have hs2:=hB2.size
  go_wp2_with (at_builtin;refine wpList_appN rfl _ _ rfl w1.heap.size _ q rfl (HR2.out.below (bel_a _ _)) _ _ rfl HN2.out (by simp) (by simp;omega) (by simp;omega) ?_)
  intro v3 w3 hR3 hg3 _
  have hB3:Bl w1 w3:=by
   refine (hB2.alloc hs2 _).grown hg3 (by simp;omega) (fun k hk => ?_)
   rcases HR2.out.2 with ⟨rfl,_⟩ | ⟨g,cap,cur,rfl,hg,_⟩
   ·simp [Value.ownBlock] at hk
   ·simp only [Value.ownBlock,Option.some.injEq] at hk;omega
  have HF3:Hid (∀g,v3.ownBlock=some g->w1.heap.size<=g):=fun g hg=>(World.ownsRow.lt hR3 g hg).1
  have HR3:=hide (hR3.nodes)
  go_wp2_with fail
  refine bodyPost_ret (v:=v3) (by simp [results,Tryz.results109,go_sem]) rfl ⟨_,rfl,?_,fun g hg=>Nat.le_trans hs1 (HF3.out g hg),hb1.trans (hB3.mono hs1)⟩
  rw [HT.out]
  exact HR3.out
theorem as_num_yes (W:World) (v:Value):(Instr.typeAssert (.iface 222 v) 170 222 true).run Tryz.prog W = .ok (.tuple #[v,.bool true]) W:=by kernel_rfl
theorem as_num_no (W:World) (u:TypeId) (v:Value) (h:u≠222):(Instr.typeAssert (.iface u v) 170 222 true).run Tryz.prog W = .ok (.tuple #[.agg #[.int .i64 0],.bool false]) W:=by
 have e:(Instr.typeAssert (.iface u v) 170 222 true).run Tryz.prog W=(if u=222 then (pure (Value.tuple #[v,.bool true]):Sem Value) else (do pure (Value.tuple #[<-zeroValue 222,.bool false]))).run Tryz.prog W:=by kernel_rfl
 rw [e,if_neg h]
 show _=_;kernel_rfl
theorem as_var_yes (W:World) (v:Value):(Instr.typeAssert (.iface 243 v) 170 243 true).run Tryz.prog W = .ok (.tuple #[v,.bool true]) W:=by kernel_rfl
theorem as_var_no (W:World) (u:TypeId) (v:Value) (h:u≠243):(Instr.typeAssert (.iface u v) 170 243 true).run Tryz.prog W = .ok (.tuple #[.agg #[.string ⟨#[]⟩],.bool false]) W:=by
 have e:(Instr.typeAssert (.iface u v) 170 243 true).run Tryz.prog W=(if u=243 then (pure (Value.tuple #[v,.bool true]):Sem Value) else (do pure (Value.tuple #[<-zeroValue 243,.bool false]))).run Tryz.prog W:=by kernel_rfl
 rw [e,if_neg h]
 show _=_;kernel_rfl
theorem as_index_yes (W:World) (v:Value):(Instr.typeAssert (.iface 245 v) 170 245 true).run Tryz.prog W = .ok (.tuple #[v,.bool true]) W:=by kernel_rfl
theorem as_index_no (W:World) (u:TypeId) (v:Value) (h:u≠245):(Instr.typeAssert (.iface u v) 170 245 true).run Tryz.prog W = .ok (.tuple #[.agg #[.string ⟨#[]⟩,.nilIface],.bool false]) W:=by
 have e:(Instr.typeAssert (.iface u v) 170 245 true).run Tryz.prog W=(if u=245 then (pure (Value.tuple #[v,.bool true]):Sem Value) else (do pure (Value.tuple #[<-zeroValue 245,.bool false]))).run Tryz.prog W:=by kernel_rfl
 rw [e,if_neg h]
 show _=_;kernel_rfl
theorem as_call_yes (W:World) (v:Value):(Instr.typeAssert (.iface 247 v) 170 247 true).run Tryz.prog W = .ok (.tuple #[v,.bool true]) W:=by kernel_rfl
theorem as_call_no (W:World) (u:TypeId) (v:Value) (h:u≠247):(Instr.typeAssert (.iface u v) 170 247 true).run Tryz.prog W = .ok (.tuple #[.agg #[.string ⟨#[]⟩,.slice none 0 0],.bool false]) W:=by
 have e:(Instr.typeAssert (.iface u v) 170 247 true).run Tryz.prog W=(if u=247 then (pure (Value.tuple #[v,.bool true]):Sem Value) else (do pure (Value.tuple #[<-zeroValue 247,.bool false]))).run Tryz.prog W:=by kernel_rfl
 rw [e,if_neg h]
 show _=_;kernel_rfl
theorem as_un_yes (W:World) (v:Value):(Instr.typeAssert (.iface 249 v) 170 249 true).run Tryz.prog W = .ok (.tuple #[v,.bool true]) W:=by kernel_rfl
theorem as_un_no (W:World) (u:TypeId) (v:Value) (h:u≠249):(Instr.typeAssert (.iface u v) 170 249 true).run Tryz.prog W = .ok (.tuple #[.agg #[.int .i64 0,.nilIface],.bool false]) W:=by
 have e:(Instr.typeAssert (.iface u v) 170 249 true).run Tryz.prog W=(if u=249 then (pure (Value.tuple #[v,.bool true]):Sem Value) else (do pure (Value.tuple #[<-zeroValue 249,.bool false]))).run Tryz.prog W:=by kernel_rfl
 rw [e,if_neg h]
 show _=_;kernel_rfl
theorem as_bin_yes (W:World) (v:Value):(Instr.typeAssert (.iface 251 v) 170 251 true).run Tryz.prog W = .ok (.tuple #[v,.bool true]) W:=by kernel_rfl
theorem as_bin_no (W:World) (u:TypeId) (v:Value) (h:u≠251):(Instr.typeAssert (.iface u v) 170 251 true).run Tryz.prog W = .ok (.tuple #[.agg #[.int .i64 0,.nilIface,.nilIface],.bool false]) W:=by
 have e:(Instr.typeAssert (.iface u v) 170 251 true).run Tryz.prog W=(if u=251 then (pure (Value.tuple #[v,.bool true]):Sem Value) else (do pure (Value.tuple #[<-zeroValue 251,.bool false]))).run Tryz.prog W:=by kernel_rfl
 rw [e,if_neg h]
 show _=_;kernel_rfl
theorem as_and_yes (W:World) (v:Value):(Instr.typeAssert (.iface 253 v) 170 253 true).run Tryz.prog W = .ok (.tuple #[v,.bool true]) W:=by kernel_rfl
theorem as_and_no (W:World) (u:TypeId) (v:Value) (h:u≠253):(Instr.typeAssert (.iface u v) 170 253 true).run Tryz.prog W = .ok (.tuple #[.agg #[.nilIface,.nilIface],.bool false]) W:=by
 have e:(Instr.typeAssert (.iface u v) 170 253 true).run Tryz.prog W=(if u=253 then (pure (Value.tuple #[v,.bool true]):Sem Value) else (do pure (Value.tuple #[<-zeroValue 253,.bool false]))).run Tryz.prog W:=by kernel_rfl
 rw [e,if_neg h]
 show _=_;kernel_rfl
theorem as_or_yes (W:World) (v:Value):(Instr.typeAssert (.iface 254 v) 170 254 true).run Tryz.prog W = .ok (.tuple #[v,.bool true]) W:=by kernel_rfl
theorem as_or_no (W:World) (u:TypeId) (v:Value) (h:u≠254):(Instr.typeAssert (.iface u v) 170 254 true).run Tryz.prog W = .ok (.tuple #[.agg #[.nilIface,.nilIface],.bool false]) W:=by
 have e:(Instr.typeAssert (.iface u v) 170 254 true).run Tryz.prog W=(if u=254 then (pure (Value.tuple #[v,.bool true]):Sem Value) else (do pure (Value.tuple #[<-zeroValue 254,.bool false]))).run Tryz.prog W:=by kernel_rfl
 rw [e,if_neg h]
 show _=_;kernel_rfl
end Go.Proofs.YtmddmgpijpjpbaaGreatDoor
