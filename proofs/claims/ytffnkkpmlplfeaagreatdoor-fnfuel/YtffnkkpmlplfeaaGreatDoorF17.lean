import Derived.Test.YtffnkkpmlplfeaaGreatDoorF05
import Derived.Lib.ConvBytes
namespace Go.Proofs.YtffnkkpmlplfeaaGreatDoor
open Go.Proofs.Tryz Go.RowKit
set_option linter.all false
set_option maxRecDepth 100000
set_option maxHeartbeats 0
variable[Inhabited Pick]
def yG(s:GA)(k:Nat):Prop:=oH s k/\(k<s.size->gL (dz s k)=false)
def yH(b cap:Nat)(s:GA)(w:AT)(hs:s.size<=9223372036854775807)(U:∀j,j<s.size->DO w b j (.int .u8 (dz s j))):
  Calls prog 211 #[rV b s.size cap,.func (.func 212) #[] #[]] w λe w'=>∃k:Nat,k<=s.size/\yG s k/\e=rW (V k)/\w'=w:=by
 go_in;go_wp2_with fail;go_loop [9] (λi=>∃k:Nat,k<=s.size/\i=V k/\oH s k) (λi=>s.size-(RowKit.intOf i).toNat)
 case atStart=>exact⟨0,y_,rfl,λj hj=>absurd hj (Nat.not_lt_zero _)⟩
 case round=>
  obtain⟨k,Y,rfl,J⟩:=hrel;have I:=ah J;by_cases hlt:k<s.size
  ·have Z:=U k hlt;cases hd:gL (dz s k)
   ·go_wp2_with(go_at_call 212;refine(nu _ _).mono ?_;rintro e w' ⟨rfl,rfl⟩;rw[hd])
    go_ret;exact⟨k,o_,⟨I,λ_=>hd⟩,rfl,rfl⟩
   ·go_wp2_with(go_at_call 212;refine(nu _ _).mono ?_;rintro e w' ⟨rfl,rfl⟩;rw[hd])
    go_round
    case rel=>exact⟨k+1,o_,by go_num,λj hj=>by by_cases e:j=k;(subst e;exact hd);exact I j o_⟩
    case measure=>exact FW
  ·go_wp2;go_ret;exact⟨s.size,o_,⟨λj hj=>I j o_,λh=>absurd h (Nat.lt_irrefl _)⟩,rfl,rfl⟩
def ug(s:GA)(k:Nat):Prop:=(d9 (dz s 0)=false/\k=0)∨(d9 (dz s 0)=true/\yG s k)
def vC(b cap:Nat)(s:GA)(w:AT)(Y:0<s.size)(Z:s.size<=9223372036854775807)(h:∀j,j<s.size->DO w b j (.int .u8 (dz s j))):
  Calls prog 198 #[rV b s.size cap] w λe w'=>∃k:Nat,k<=s.size/\ug s k/\e=rW (V k)/\w'=w:=by
 have Jc:=h 0 Y;have Jb:((s.size:Int) == 0)=false:=by simp only[beq_eq_false_iff_ne];omega
 have U:=ah h;cases hd:d9 (dz s 0)
 ·go_in;go_wp2_with(go_at_call 210;refine(j_ _ _).mono ?_;rintro e w' ⟨rfl,rfl⟩;rw[hd])
  go_ret;exact⟨0,o_,.inl ⟨hd,rfl⟩,rfl,rfl⟩
 ·go_in;go_wp2_with(go_at_call 210;refine(j_ _ _).mono ?_;rintro e w' ⟨rfl,rfl⟩;rw[hd])
  refine(yH b cap s _ Z U).mono ?_;rintro e w' ⟨k,I,J,rfl,rfl⟩;go_wp2;go_ret;exact⟨k,I,.inr ⟨hd,J⟩,rfl,rfl⟩
def bytesWorld_below(w:AT)(e:GC)(s:GA):Bl w (Lib.bytesWorld w e s):=
 ⟨rfl,rfl,rfl,by rw[Lib.bytesWorld_size];omega,λk hk=>Lib.bytesWorld_at_old w e s k hk⟩
def lR{s:GA}{k:Nat}(h1:1<=s.size)(h2:s.size<=20)(hk:k<=s.size)(h:ug s k)(Z:jS s=false):(k == s.size)=aY s:=by
 apply Bool.eq_iff_iff.2;simp only[beq_iff_eq,ny];constructor
 ·rintro rfl;rcases h with⟨_,h⟩|⟨Y,I⟩
  ·omega
  ·exact⟨h1,h2,Y,I.1,Z⟩
 ·intro J;rcases h with⟨h,_⟩|⟨Y,I⟩
  ·rw[J.2.2.1]at h;cases h
  ·by_cases e:k=s.size
   ·exact e
   ·have U:=I.2 o_;rw[J.2.2.2.1 k o_]at U;cases U
def qr(s:GA)(w:AT)(h:s.size<1∨20<s.size):
  Calls prog 169 #[sV s] w λe w'=>e=rW (.bool (aY s))/\Bl w w':=by
 have I:aY s=false:=fo λhp=>Fw hp.1 hp.2.1
 rw[I];rcases h with h|h
 ·go_in;go_wp2;go_ret;exact⟨rfl,r_⟩
 ·have J:1<=s.size:=o_
  go_in;go_wp2;go_ret;exact⟨rfl,r_⟩
def sr(s:GA)(w:AT)(J:1<=s.size)(h2:s.size<=20):
  Calls prog 169 #[sV s] w λe w'=>e=rW (.bool (aY s))/\Bl w w':=by
 have Z:∀w,(convert 9 44 (sV s)).run prog w=.ok (rV w.heap.size s.size (grownCap w s.size 0 5)) (Lib.bytesWorld w 5 s):=λw=>Lib.run_convert_string_bytes w 9 _ 5 s underlying9 underlying44 underlying5;go_in;go_wp2_with fail;refine(vC _ _ s _ o_ o_ (λj hj=>Lib.bytesWorld_cell w 5 s j hj)).mono ?_;rintro e w' ⟨k,h,U,rfl,rfl⟩;have I:=ah U;by_cases hks:k=s.size
 ·subst hks;cases hr:jS s
  all_goals
   go_wp2_with(go_at_call 199;refine(yj _ _).mono ?_;rintro e w' ⟨rfl,rfl⟩;rw[hr]);go_ret
  ·refine⟨aj ?_,bytesWorld_below w 5 s⟩;rw[<-lR J h2 h I.o hr];simp
  ·exact⟨aj (fo λhp=>by have:=hp.2.2.2.2;rw[hr]at this;cases this).symm,bytesWorld_below w 5 s⟩
 ·have Y:((k:Int) == (s.size:Int))=false:=by simp only[beq_eq_false_iff_ne];omega
  go_wp2;go_ret;refine⟨aj ?_,bytesWorld_below w 5 s⟩;cases hr:jS s
  ·rw[<-lR J h2 h I.o hr];simp;omega
  ·exact(fo λhp=>by have:=hp.2.2.2.2;rw[hr]at this;cases this).symm
def iR(s:GA)(w:AT):Calls prog 169 #[sV s] w λe w'=>e=rW (.bool (aY s))/\Bl w w':=by
 by_cases h:1<=s.size/\s.size<=20
 ·exact sr s w h.1 h.2
 ·exact qr s w o_
end Go.Proofs.YtffnkkpmlplfeaaGreatDoor
