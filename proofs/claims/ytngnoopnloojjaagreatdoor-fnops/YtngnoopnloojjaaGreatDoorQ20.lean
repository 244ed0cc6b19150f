import Derived.Test.YtngnoopnloojjaaGreatDoorQ02
import Derived.Lib.ParseIntB
import Derived.Lib.Bytealg
namespace Go.Proofs.YtngnoopnloojjaaGreatDoor
open List
set_option linter.all false
set_option maxRecDepth 100000
set_option maxHeartbeats 0
variable[Inhabited Pick]
theorem Eu:∀(l:List UInt8) (c:UInt8),0<=Lib.indexByte l c↔c∈l
 | [],c=>by simp[Lib.indexByte]
 | b::l,c=>by
  have ih:=Eu l c;have hg:=Lib.indexByte_ge l c;unfold Lib.indexByte;by_cases e:b=c;subst e;simp
  have:(b == c)=false:=(D4 e);simp only[this,Bool.false_eq_true,if_false];by_cases h1:Lib.indexByte l c= -1
  simp only[h1,beq_self_eq_true,if_true];have:¬c∈l:=λh=>Ft (ih.2 h)
  simp[this,Ne.symm e];have h2:(Lib.indexByte l c == -1)=false:=(D4 h1);simp only[h2,Bool.false_eq_true,if_false];have:c∈l:=ih.1 o_;simp[this];omega
theorem vK:∀(l:List UInt8) (a:Nat),l.foldl (λa c=>10*a+(c.toNat-48)) a≥a
 | [],a=>n_
 | c::l,a=>by
  have:=vK l (10*a+(c.toNat-48))
  simp only[foldl_cons];omega
def JL(acc:Nat)(l:List UInt8):Nat:=l.foldl (λa c=>10*a+(c.toNat-48)) acc
def Ev(Ja:Nat)(c:UInt8)(l:List UInt8):JL Ja (c::l)=JL (10*Ja+(c.toNat-48)) l:=by unfold JL;rw[foldl_cons]
def P2(M Ja:Nat):Lib.parseUintM M Ja []=.ok Ja:=by simp only[Lib.parseUintM]
def P3(M Ja:Nat)(c:UInt8)(l:List UInt8)(H:48<=c.toNat/\c.toNat<=57)(h:¬1844674407370955162<=Ja):Lib.parseUintM M Ja (c::l)=if M<10*Ja+(c.toNat-48)then .range else Lib.parseUintM M (10*Ja+(c.toNat-48)) l:=by simp only[Lib.parseUintM];rw[if_pos H,if_neg h,Nat.mul_comm Ja 10]
theorem P4(M:Nat)(O:M<1844674407370955162)(l:List UInt8):∀(acc:Nat),acc<=M->(∀c∈l,a8 c=true) ->
  (JL acc l<=M->Lib.parseUintM M acc l=.ok (JL acc l))/\(¬JL acc l<=M->Lib.parseUintM M acc l=.range):=by
 induction l with
 | nil=>intro acc h _;refine⟨λ_=>?_,λh'=>absurd h h'⟩;exact P2 M acc
 | cons c l ih=>intro acc h H;have I:=H c i_;unfold a8 iL cI at I;simp only[K0]at I;have e:acc*10+(c.toNat-48)=10*acc+(c.toNat-48):=o_;have Ja:=P3 M acc c l o_ o_;rw[Ja,Ev];by_cases hm:M<10*acc+(c.toNat-48);have J:10*acc+(c.toNat-48)<=JL (10*acc+(c.toNat-48)) l:=vK l _;rw[if_pos hm];exact⟨λh'=>by omega,λ_=>rfl⟩;rw[if_neg hm];exact ih _ o_ (λx hx=>H x (by simp[hx]))
theorem O9{l:List UInt8}(Y:l≠[])(J:∀c∈l,a8 c=true):(numL l<=2147483647->Lib.parseIntB 32 l=.ok (numL l:Int))/\(¬numL l<=2147483647->Lib.parseIntB 32 l=.range):=by
 cases l with
 | nil=>exact absurd rfl Y
 | cons c r=>
  have I:=J c i_;unfold a8 iL cI at I;simp only[K0]at I;have Jb:¬(c.toNat=43\/c.toNat=45):=o_;have Ja:¬c.toNat=45:=o_;have e:(2:Nat) ^ 32-1=4294967295:=d_;have X:(2:Nat) ^ (32-1)=2147483648:=d_;have⟨h,H⟩:=P4 4294967295 d_ (c::r) 0 o_ J;have O:Lib.parseIntB 32 (c::r)=match Lib.parseUintM 4294967295 0 (c::r)with
   | .range=>.range
   | .ok u=>if 2147483648<=u then .range else .ok (u:Int)
   | _=>Lib.parseIntB 32 []:=by
   unfold Lib.parseIntB;dsimp only;rw[if_neg Jb];unfold Lib.parseUintB;rw[if_neg i_,e,X];cases Lib.parseUintM 4294967295 0 (c::r) <;> simp[Ja]
  rw[O];have U:JL 0 (c::r)=numL (c::r):=rfl;rw[U]at h H;generalize numL (c::r)=N at*;by_cases h1:N<=4294967295;rw[h h1];dsimp only;exact⟨λh2=>by rw[if_neg o_],λh2=>by rw[if_pos o_]⟩;rw[H h1];exact⟨λh2=>by omega,λ_=>rfl⟩
end Go.Proofs.YtngnoopnloojjaaGreatDoor
