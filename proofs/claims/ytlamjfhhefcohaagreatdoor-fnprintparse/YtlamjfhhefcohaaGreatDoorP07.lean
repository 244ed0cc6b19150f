import Derived.Test.YtlamjfhhefcohaaGreatDoorP03
import Derived.Lib.ConvBytes
namespace Go.Proofs.YtlamjfhhefcohaaGreatDoor
open Go.Proofs.Tryz
open Go.RowKit
set_option linter.all false
set_option maxRecDepth 100000
set_option maxHeartbeats 16000000
def vP(s:ByteArray)(k:Nat):Prop:=mW s k/\(k<s.size->de (di s k)=false)
theorem vQ(b cap:Nat)(s:ByteArray)(w:World)(hs:s.size<=9223372036854775807)(hc:∀j,j<s.size->w.cell? ⟨b,j,none⟩=some (.int .u8 (di s j))):
  Calls prog 84 #[.slice (some ⟨b,0,none⟩) s.size cap,.func (.func 123) #[] #[]] w fun e w'=>∃k:Nat,k<=s.size/\vP s k/\e=.returned (.int .i64 k)/\w'=w:=by
 go_enter func84,ntmps84;go_wp2_with fail;go_loop [9] (fun i=>∃k:Nat,k<=s.size/\i=.int .i64 k/\mW s k) (fun i=>s.size-(RowKit.intOf i).toNat)
 case atStart=>exact⟨0,y_,rfl,fun j hj=>absurd hj (Nat.not_lt_zero _)⟩
 case round=>
  obtain⟨k,hk,rfl,hl⟩:=hrel;have HL:=ah hl;by_cases hlt:k<s.size
  ·have Ja:=hc k hlt;cases hd:de (di s k)
   ·go_wp2_with(go_at_call 123;refine(iH _ _).mono ?_;rintro e w' ⟨rfl,rfl⟩;rw[hd])
    go_ret;exact⟨k,o_,⟨HL,fun _=>hd⟩,rfl,rfl⟩
   ·go_wp2_with(go_at_call 123;refine(iH _ _).mono ?_;rintro e w' ⟨rfl,rfl⟩;rw[hd])
    go_round
    case rel=>exact⟨k+1,o_,by go_num,fun j hj=>by by_cases e:j=k;(subst e;exact hd);exact HL.out j o_⟩
    case measure=>simp[RowKit.intOf];omega
  ·go_wp2;go_ret;exact⟨s.size,o_,⟨fun j hj=>HL.out j o_,fun h=>absurd h (Nat.lt_irrefl _)⟩,rfl,rfl⟩
def rT(s:ByteArray)(k:Nat):Prop:=(smallB (di s 0)=false/\k=0)∨(smallB (di s 0)=true/\vP s k)
theorem tj(b cap:Nat)(s:ByteArray)(w:World)(h0:0<s.size)(hs:s.size<=9223372036854775807)(hc:∀j,j<s.size->w.cell? ⟨b,j,none⟩=some (.int .u8 (di s j))):
  Calls prog 88 #[.slice (some ⟨b,0,none⟩) s.size cap] w fun e w'=>∃k:Nat,k<=s.size/\rT s k/\e=.returned (.int .i64 k)/\w'=w:=by
 have Jb:=hc 0 h0;have Jc:((s.size:Int) == 0)=false:=by simp only[beq_eq_false_iff_ne];omega
 have HC:=ah hc;cases hd:smallB (di s 0)
 ·go_enter func88,ntmps88;go_wp2_with(go_at_call 86;refine(cQ _ _).mono ?_;rintro e w' ⟨rfl,rfl⟩;rw[hd])
  go_ret;exact⟨0,o_,.inl ⟨hd,rfl⟩,rfl,rfl⟩
 ·go_enter func88,ntmps88;go_wp2_with(go_at_call 86;refine(cQ _ _).mono ?_;rintro e w' ⟨rfl,rfl⟩;rw[hd])
  refine(vQ b cap s _ hs HC).mono ?_;rintro e w' ⟨k,hk,Ja,rfl,rfl⟩;go_wp2;go_ret;exact⟨k,hk,.inr ⟨hd,Ja⟩,rfl,rfl⟩
theorem bytesWorld_below(w:World)(e:TypeId)(s:ByteArray):Below w.heap.size w (Lib.bytesWorld w e s):=
 ⟨rfl,rfl,rfl,by rw[Lib.bytesWorld_size];omega,fun k hk=>Lib.bytesWorld_at_old w e s k hk⟩
theorem kY{s:ByteArray}{k:Nat}(h1:1<=s.size)(h2:s.size<=20)(hk:k<=s.size)(h:rT s k)(hr:dZ s=false):(k == s.size)=aK s:=by
 apply Bool.eq_iff_iff.2;simp only[beq_iff_eq,mm];constructor
 ·rintro rfl;rcases h with⟨_,h⟩|⟨hs,Ja⟩
  ·omega
  ·exact⟨h1,h2,hs,Ja.1,hr⟩
 ·intro hp;rcases h with⟨h,_⟩|⟨hs,Ja⟩
  ·rw[hp.2.2.1]at h;cases h
  ·by_cases e:k=s.size
   ·exact e
   ·have h':=Ja.2 o_;rw[hp.2.2.2.1 k o_]at h';cases h'
theorem oS(s:ByteArray)(w:World)(h:s.size<1∨20<s.size):
  Calls prog 77 #[.string s] w fun e w'=>e=.returned (.bool (aK s))/\Below w.heap.size w w':=by
 have hn:aK s=false:=eS fun hp=>by have:=hp.1;have:=hp.2.1;omega
 rw[hn];rcases h with h|h
 ·go_enter func77,ntmps77;go_wp2;go_ret;exact⟨rfl,r_⟩
 ·have h':1<=s.size:=o_
  go_enter func77,ntmps77;go_wp2;go_ret;exact⟨rfl,r_⟩
theorem qu(s:ByteArray)(w:World)(h1:1<=s.size)(h2:s.size<=20):
  Calls prog 77 #[.string s] w fun e w'=>e=.returned (.bool (aK s))/\Below w.heap.size w w':=by
 have Jb:∀w,(convert 9 22 (.string s)).run prog w=.ok (.slice (some ⟨w.heap.size,0,none⟩) s.size (grownCap w s.size 0 5)) (Lib.bytesWorld w 5 s):=fun w=>Lib.run_convert_string_bytes w 9 _ 5 s underlying9 underlying22 underlying5;go_enter func77,ntmps77;go_wp2_with fail;refine(tj _ _ s _ o_ o_ (fun j hj=>Lib.bytesWorld_cell w 5 s j hj)).mono ?_;rintro e w' ⟨k,hk,Jd,rfl,rfl⟩;have Ja:=ah Jd;by_cases hks:k=s.size
 ·subst hks;cases hr:dZ s
  all_goals
   go_wp2_with(go_at_call 110;refine(kW _ _).mono ?_;rintro e w' ⟨rfl,rfl⟩;rw[hr]);go_ret
  ·refine⟨aj ?_,bytesWorld_below w 5 s⟩;rw[<-kY h1 h2 hk Ja.out hr];simp
  ·exact⟨aj (eS fun hp=>by have:=hp.2.2.2.2;rw[hr]at this;cases this).symm,bytesWorld_below w 5 s⟩
 ·have Jc:((k:Int) == (s.size:Int))=false:=by simp only[beq_eq_false_iff_ne];omega
  go_wp2;go_ret;refine⟨aj ?_,bytesWorld_below w 5 s⟩;cases hr:dZ s
  ·rw[<-kY h1 h2 hk Ja.out hr];simp;omega
  ·exact(eS fun hp=>by have:=hp.2.2.2.2;rw[hr]at this;cases this).symm
theorem iI(s:ByteArray)(w:World):Calls prog 77 #[.string s] w fun e w'=>e=.returned (.bool (aK s))/\Below w.heap.size w w':=by
 by_cases h:1<=s.size/\s.size<=20
 ·exact qu s w h.1 h.2
 ·exact oS s w o_
end Go.Proofs.YtlamjfhhefcohaaGreatDoor
