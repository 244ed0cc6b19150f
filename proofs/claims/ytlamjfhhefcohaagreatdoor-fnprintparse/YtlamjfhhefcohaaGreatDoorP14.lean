import Derived.Test.YtlamjfhhefcohaaGreatDoorP02
import Derived.Lib.ParseIntB
import Derived.Lib.Bytealg
namespace Go.Proofs.YtlamjfhhefcohaaGreatDoor
set_option linter.all false
set_option maxRecDepth 100000
set_option maxHeartbeats 16000000
theorem wA:∀(l:List UInt8) (c:UInt8),0<=Lib.indexByte l c↔c∈l
 | [],c=>by simp[Lib.indexByte]
 | b::l,c=>by
  have ih:=wA l c;have hg:=Lib.indexByte_ge l c;unfold Lib.indexByte;by_cases e:b=c
  ·subst e;simp
  ·have:(b == c)=false:=by simpa using e
   simp only[this,Bool.false_eq_true,if_false];by_cases h1:Lib.indexByte l c= -1
   ·simp only[h1,beq_self_eq_true,if_true];have:¬c∈l:=fun h=>by have:=ih.2 h;omega
    simp[this,Ne.symm e]
   ·have h2:(Lib.indexByte l c == -1)=false:=by simpa using h1
    simp only[h2,Bool.false_eq_true,if_false];have:c∈l:=ih.1 o_;simp[this];omega
theorem pj:∀(l:List UInt8) (a:Nat),l.foldl (fun a c=>10*a+(c.toNat-48)) a≥a
 | [],a=>n_
 | c::l,a=>by
  have:=pj l (10*a+(c.toNat-48))
  simp only[List.foldl_cons];omega
def AS(acc:Nat)(l:List UInt8):Nat:=l.foldl (fun a c=>10*a+(c.toNat-48)) acc
theorem wB(Ja:Nat)(c:UInt8)(l:List UInt8):AS Ja (c::l)=AS (10*Ja+(c.toNat-48)) l:=by unfold AS;rw[List.foldl_cons]
theorem FL(M Ja:Nat):Lib.parseUintM M Ja []=.ok Ja:=by simp only[Lib.parseUintM]
theorem FM(M Ja:Nat)(c:UInt8)(l:List UInt8)(hc:48<=c.toNat/\c.toNat<=57)(ha:¬1844674407370955162<=Ja):Lib.parseUintM M Ja (c::l)=if M<10*Ja+(c.toNat-48)then .range else Lib.parseUintM M (10*Ja+(c.toNat-48)) l:=by
 simp only[Lib.parseUintM];rw[if_pos hc,if_neg ha,Nat.mul_comm Ja 10]
theorem FN(M:Nat)(hM:M<1844674407370955162)(l:List UInt8):∀(acc:Nat),acc<=M->(∀c∈l,aO c=true) ->
  (AS acc l<=M->Lib.parseUintM M acc l=.ok (AS acc l))/\(¬AS acc l<=M->Lib.parseUintM M acc l=.range):=by
 induction l with
 | nil=>
  intro acc h _;refine⟨fun _=>?_,fun h'=>absurd h h'⟩;exact FL M acc
 | cons c l ih=>
  intro acc h hd;have hc:=hd c i_;unfold aO digitB cI at hc;simp only[decide_eq_true_eq]at hc;have e:acc*10+(c.toNat-48)=10*acc+(c.toNat-48):=o_;have Ja:=FM M acc c l o_ o_;rw[Ja,wB];by_cases hm:M<10*acc+(c.toNat-48)
  ·have hb:10*acc+(c.toNat-48)<=AS (10*acc+(c.toNat-48)) l:=pj l _;rw[if_pos hm];exact⟨fun h'=>by omega,fun _=>rfl⟩
  ·rw[if_neg hm];exact ih _ o_ (fun x hx=>hd x (by simp[hx]))
theorem EX{l:List UInt8}(hn:l≠[])(hd:∀c∈l,aO c=true):(numL l<=2147483647->Lib.parseIntB 32 l=.ok (numL l:Int))/\(¬numL l<=2147483647->Lib.parseIntB 32 l=.range):=by
 cases l with
 | nil=>exact absurd rfl hn
 | cons c r=>
  have hc:=hd c i_;unfold aO digitB cI at hc;simp only[decide_eq_true_eq]at hc;have Jb:¬(c.toNat=43∨c.toNat=45):=o_;have Ja:¬c.toNat=45:=o_;have e:(2:Nat) ^ 32-1=4294967295:=d_;have e2:(2:Nat) ^ (32-1)=2147483648:=d_;obtain⟨p1,p2⟩:=FN 4294967295 d_ (c::r) 0 o_ hd;have hu:Lib.parseIntB 32 (c::r)=match Lib.parseUintM 4294967295 0 (c::r)with
   | .range=>.range
   | .ok u=>if 2147483648<=u then .range else .ok (u:Int)
   | _=>Lib.parseIntB 32 []:=by
   unfold Lib.parseIntB;dsimp only;rw[if_neg Jb];unfold Lib.parseUintB;rw[if_neg i_,e,e2];cases Lib.parseUintM 4294967295 0 (c::r) <;> simp[Ja]
  rw[hu];have en:AS 0 (c::r)=numL (c::r):=rfl;rw[en]at p1 p2;generalize numL (c::r)=N at*;by_cases h1:N<=4294967295
  ·rw[p1 h1];dsimp only;exact⟨fun h2=>by rw[if_neg o_],fun h2=>by rw[if_pos o_]⟩
  ·rw[p2 h1];exact⟨fun h2=>by omega,fun _=>rfl⟩
end Go.Proofs.YtlamjfhhefcohaaGreatDoor
