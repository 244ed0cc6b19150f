import Derived.Test.YtngnoopnloojjaaGreatDoorQ05
import Derived.Lib.ConvBytes
namespace Go.Proofs.YtngnoopnloojjaaGreatDoor
open Go.Proofs.Tryz Go.RowKit
set_option linter.all false
set_option maxRecDepth 100000
set_option maxHeartbeats 0
variable[Inhabited Pick]
def EI(s:IF)(k:Nat):Prop:=Ac s k/\(k<s.size->gR (iM s k)=false)
def EJ(b cap:Nat)(s:IF)(w:AT)(U:s.size<=9223372036854775807)(J:∀j,j<s.size->Bo w b j (.int .u8 (iM s j))):
  Calls prog 104 #[rV b s.size cap,.func (.func 155) #[] #[]] w λe w'=>∃k:Nat,k<=s.size/\EI s k/\e=rW (V k)/\w'=w:=by
 go_in;go_wp2_with fail;go_loop [9] (λi=>∃k:Nat,k<=s.size/\i=V k/\Ac s k) (λi=>s.size-(RowKit.intOf i).toNat)
 case atStart=>exact⟨0,y_,rfl,λj hj=>absurd hj (Nat.not_lt_zero _)⟩
 case round=>
  obtain⟨k,O,rfl,I⟩:=hrel;have H:=ah I;by_cases hlt:k<s.size
  ·have Ja:=J k hlt;cases hd:gR (iM s k)
   ·go_wp2_with(go_at_call 155;refine(kF _ _).mono ?_;rintro e w' ⟨rfl,rfl⟩;rw[hd])
    go_ret;exact⟨k,o_,⟨H,λ_=>hd⟩,rfl,rfl⟩
   go_wp2_with(go_at_call 155;refine(kF _ _).mono ?_;rintro e w' ⟨rfl,rfl⟩;rw[hd])
   go_round
   case rel=>exact⟨k+1,o_,by go_num,λj hj=>by by_cases e:j=k;(subst e;exact hd);exact H j o_⟩
   case measure=>exact D1
  go_wp2;go_ret;exact⟨s.size,o_,⟨λj hj=>H j o_,λh=>absurd h (Nat.lt_irrefl _)⟩,rfl,rfl⟩
def AF(s:IF)(k:Nat):Prop:=(eJ (iM s 0)=false/\k=0)\/(eJ (iM s 0)=true/\EI s k)
def BT(b cap:Nat)(s:IF)(w:AT)(O:0<s.size)(U:s.size<=9223372036854775807)(H:∀j,j<s.size->Bo w b j (.int .u8 (iM s j))):
  Calls prog 108 #[rV b s.size cap] w λe w'=>∃k:Nat,k<=s.size/\AF s k/\e=rW (V k)/\w'=w:=by
 have Jc:=H 0 O;have Jb:((s.size:Int) == 0)=false:=by simp only[beq_eq_false_iff_ne];omega
 have J:=ah H;cases hd:eJ (iM s 0)
 ·go_in;go_wp2_with(go_at_call 106;refine(dh _ _).mono ?_;rintro e w' ⟨rfl,rfl⟩;rw[hd])
  go_ret;exact⟨0,o_,.inl ⟨hd,rfl⟩,rfl,rfl⟩
 go_in;go_wp2_with(go_at_call 106;refine(dh _ _).mono ?_;rintro e w' ⟨rfl,rfl⟩;rw[hd]);refine(EJ b cap s _ U J).mono ?_;rintro e w' ⟨k,I,Ja,rfl,rfl⟩;go_wp2;go_ret;exact⟨k,I,.inr ⟨hd,Ja⟩,rfl,rfl⟩
def bytesWorld_below(w:AT)(e:IN)(s:IF):Bl w (Lib.bytesWorld w e s):=
 ⟨rfl,rfl,rfl,by rw[Lib.bytesWorld_size];omega,λk hk=>Lib.bytesWorld_at_old w e s k hk⟩
def pJ{s:IF}{k:Nat}(U:1<=s.size)(h2:s.size<=20)(X:k<=s.size)(h:AF s k)(O:i7 s=false):(k == s.size)=cU s:=by apply Bool.eq_iff_iff.2;simp only[beq_iff_eq,BJ];constructor;rintro rfl;rcases h with⟨_,h⟩|⟨J,Ja⟩;omega;exact⟨U,h2,J,Ja.1,O⟩;intro H;rcases h with⟨h,_⟩|⟨J,Ja⟩;rw[H.2.2.1]at h;cases h;by_cases e:k=s.size;exact e;have I:=Ja.2 o_;rw[H.2.2.2.1 k o_]at I;cases I
def vS(s:IF)(w:AT)(h:s.size<1\/20<s.size):
  Calls prog 103 #[sV s] w λe w'=>e=rW (.bool (cU s))/\Bl w w':=by
 have H:cU s=false:=j5 λhp=>Ht hp.1 hp.2.1
 rw[H];rcases h with h|h
 ·go_in;go_wp2;go_ret;exact⟨rfl,r_⟩
 have I:1<=s.size:=o_;go_in;go_wp2;go_ret;exact⟨rfl,r_⟩
def yL(s:IF)(w:AT)(I:1<=s.size)(h2:s.size<=20):
  Calls prog 103 #[sV s] w λe w'=>e=rW (.bool (cU s))/\Bl w w':=by
 have Jb:∀w,(convert 9 22 (sV s)).run prog w=.ok (rV w.heap.size s.size (grownCap w s.size 0 5)) (Lib.bytesWorld w 5 s):=λw=>Lib.run_convert_string_bytes w 9 _ 5 s underlying9 underlying22 underlying5;go_in;go_wp2_with fail;refine(BT _ _ s _ o_ o_ (λj hj=>Lib.bytesWorld_cell w 5 s j hj)).mono ?_;rintro e w' ⟨k,H,Jc,rfl,rfl⟩;have Ja:=ah Jc;by_cases hks:k=s.size
 ·subst hks;cases hr:i7 s
  all_goals
   go_wp2_with(go_at_call 153;refine(pz _ _).mono ?_;rintro e w' ⟨rfl,rfl⟩;rw[hr]);go_ret
  refine⟨aB ?_,bytesWorld_below w 5 s⟩;rw[<-pJ I h2 H Ja.o hr];simp;exact⟨aB (j5 λhp=>by have:=hp.2.2.2.2;rw[hr]at this;cases this).symm,bytesWorld_below w 5 s⟩
 have Jd:((k:Int) == (s.size:Int))=false:=by simp only[beq_eq_false_iff_ne];omega
 go_wp2;go_ret;refine⟨aB ?_,bytesWorld_below w 5 s⟩;cases hr:i7 s;rw[<-pJ I h2 H Ja.o hr];simp;omega;exact(j5 λhp=>by have:=hp.2.2.2.2;rw[hr]at this;cases this).symm
def kH(s:IF)(w:AT):Calls prog 103 #[sV s] w λe w'=>e=rW (.bool (cU s))/\Bl w w':=by by_cases h:1<=s.size/\s.size<=20;exact yL s w h.1 h.2;exact vS s w o_
end Go.Proofs.YtngnoopnloojjaaGreatDoor
