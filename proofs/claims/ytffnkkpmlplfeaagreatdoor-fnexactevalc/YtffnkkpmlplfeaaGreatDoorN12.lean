import Derived.Test.YtffnkkpmlplfeaaGreatDoorN05
import Derived.Lib.ConvBytes
namespace Go.Proofs.YtffnkkpmlplfeaaGreatDoor
open Go.Proofs.Tryz
open Go.RowKit
set_option linter.all false
set_option maxRecDepth 100000
set_option maxHeartbeats 16000000
variable[Inhabited Pick]
def spanOf (s:ByteArray) (k:Nat):Prop:=laterTo s k/\(k<s.size->laterB (byteAt s k)=false)
theorem span_any (b cap:Nat) (s:ByteArray) (w:World) (hs:s.size<=9223372036854775807) (hc : ∀j,j<s.size->w.cell? ⟨b,j,none⟩=some (.int .u8 (byteAt s j))) :
  Calls prog 211 #[.slice (some ⟨b,0,none⟩) s.size cap,.func (.func 212) #[] #[]] w λe w'=>∃k:Nat,k<=s.size/\spanOf s k/\e=.returned (.int .i64 k)/\w'=w:=by
 go_enter func211,ntmps211;go_wp2_with fail;go_loop [9] (λi=>∃k:Nat,k<=s.size/\i=.int .i64 k/\laterTo s k) (λi=>s.size-(RowKit.intOf i).toNat)
 case atStart=>exact⟨0,y_,rfl,λj hj=>absurd hj (Nat.not_lt_zero _)⟩
 case round=>
  obtain⟨k,hk,rfl,hl⟩:=hrel;have HL:=hide hl;by_cases hlt:k<s.size
  ·have hck:=hc k hlt;have HC:=hide hc;cases hd:laterB (byteAt s k)
   ·go_wp2_with (go_at_call 212;refine (span1_any _ _).mono ?_;rintro e w' ⟨rfl,rfl⟩;rw[hd])
    go_ret;exact⟨k,by omega,⟨HL,λ_=>hd⟩,rfl,rfl⟩
   ·go_wp2_with (go_at_call 212;refine (span1_any _ _).mono ?_;rintro e w' ⟨rfl,rfl⟩;rw[hd])
    go_round
    case rel=>exact⟨k+1,by omega,by go_num,λj hj=>by by_cases e:j=k;(subst e;exact hd);exact HL j o_⟩
    case measure=>simp[RowKit.intOf];omega
  ·go_wp2;go_ret;exact⟨s.size,by omega,⟨λj hj=>HL j o_,λh=>absurd h (Nat.lt_irrefl _)⟩,rfl,rfl⟩
def nspanOf (s:ByteArray) (k:Nat):Prop:=(smallB (byteAt s 0)=false/\k=0)∨(smallB (byteAt s 0)=true/\spanOf s k)
theorem nspan_any (b cap:Nat) (s:ByteArray) (w:World) (h0:0<s.size) (hs:s.size<=9223372036854775807) (hc : ∀j,j<s.size->w.cell? ⟨b,j,none⟩=some (.int .u8 (byteAt s j))) :
  Calls prog 198 #[.slice (some ⟨b,0,none⟩) s.size cap] w λe w'=>∃k:Nat,k<=s.size/\nspanOf s k/\e=.returned (.int .i64 k)/\w'=w:=by
 have hc0:=hc 0 h0;have hne:((s.size:Int) == 0)=false:=by simp only[beq_eq_false_iff_ne];omega
 have HC:=hide hc;cases hd:smallB (byteAt s 0)
 ·go_enter func198,ntmps198;go_wp2_with (go_at_call 210;refine (small_any _ _).mono ?_;rintro e w' ⟨rfl,rfl⟩;rw[hd])
  go_ret;exact⟨0,by omega,.inl ⟨hd,rfl⟩,rfl,rfl⟩
 ·go_enter func198,ntmps198;go_wp2_with (go_at_call 210;refine (small_any _ _).mono ?_;rintro e w' ⟨rfl,rfl⟩;rw[hd])
  refine (span_any b cap s _ hs HC).mono ?_;rintro e w' ⟨k,hk,hsp,rfl,rfl⟩;go_wp2;go_ret;exact⟨k,hk,.inr ⟨hd,hsp⟩,rfl,rfl⟩
theorem bytesWorld_below (w:World) (e:TypeId) (s:ByteArray):Below w.heap.size w (Lib.bytesWorld w e s):=
 ⟨rfl,rfl,rfl,by rw[Lib.bytesWorld_size];omega,λk hk=>Lib.bytesWorld_at_old w e s k hk⟩
theorem nspan_name {s:ByteArray} {k:Nat} (h1:1<=s.size) (h2:s.size<=20) (hk:k<=s.size) (h:nspanOf s k) (hr:resB s=false):(k == s.size)=nameB s:=by
 apply Bool.eq_iff_iff.2;simp only[beq_iff_eq,nameB_iff];constructor
 ·rintro rfl;rcases h with ⟨_,h⟩|⟨hs,hsp⟩
  ·omega
  ·exact⟨h1,h2,hs,hsp.1,hr⟩
 ·intro hp;rcases h with ⟨h,_⟩|⟨hs,hsp⟩
  ·rw[hp.2.2.1] at h;cases h
  ·by_cases e:k=s.size
   ·exact e
   ·have h':=hsp.2 o_;rw[hp.2.2.2.1 k o_] at h';cases h'
theorem vname_short (s:ByteArray) (w:World) (h:s.size<1∨20<s.size) :
  Calls prog 169 #[.string s] w λe w'=>e=.returned (.bool (nameB s))/\Below w.heap.size w w':=by
 have hn:nameB s=false:=nameB_false λhp=>by have:=hp.1;have:=hp.2.1;omega
 rw[hn];rcases h with h|h
 ·go_enter func169,ntmps169;go_wp2;go_ret;exact⟨rfl,r_⟩
 ·have h':1<=s.size:=by omega
  go_enter func169,ntmps169;go_wp2;go_ret;exact⟨rfl,r_⟩
theorem vname_long (s:ByteArray) (w:World) (h1:1<=s.size) (h2:s.size<=20) :
  Calls prog 169 #[.string s] w λe w'=>e=.returned (.bool (nameB s))/\Below w.heap.size w w':=by
 have hconv : ∀w,(convert 9 44 (.string s)).run prog w=.ok (.slice (some ⟨w.heap.size,0,none⟩) s.size (grownCap w s.size 0 5)) (Lib.bytesWorld w 5 s):=λw=>Lib.run_convert_string_bytes w 9 _ 5 s underlying9 underlying44 underlying5;go_enter func169,ntmps169;go_wp2_with fail;refine (nspan_any _ _ s _ o_ o_ (λj hj=>Lib.bytesWorld_cell w 5 s j hj)).mono ?_;rintro e w' ⟨k,hk,hsp,rfl,rfl⟩;have HSP:=hide hsp;by_cases hks:k=s.size
 ·subst hks;cases hr:resB s
  all_goals
   go_wp2_with (go_at_call 199;refine (resI_any _ _).mono ?_;rintro e w' ⟨rfl,rfl⟩;rw[hr])
   go_ret
  ·refine⟨ret_bool ?_,bytesWorld_below w 5 s⟩;rw[<-nspan_name h1 h2 hk HSP.o hr];simp
  ·exact⟨ret_bool (nameB_false λhp=>by have:=hp.2.2.2.2;rw[hr] at this;cases this).symm,bytesWorld_below w 5 s⟩
 ·have hks':((k:Int) == (s.size:Int))=false:=by simp only[beq_eq_false_iff_ne];omega
  go_wp2;go_ret;refine⟨ret_bool ?_,bytesWorld_below w 5 s⟩;cases hr:resB s
  ·rw[<-nspan_name h1 h2 hk HSP.o hr];simp;omega
  ·exact (nameB_false λhp=>by have:=hp.2.2.2.2;rw[hr] at this;cases this).symm
theorem vname_any (s:ByteArray) (w:World):Calls prog 169 #[.string s] w λe w'=>e=.returned (.bool (nameB s))/\Below w.heap.size w w':=by
 by_cases h:1<=s.size/\s.size<=20
 ·exact vname_long s w h.1 h.2
 ·exact vname_short s w o_
end Go.Proofs.YtffnkkpmlplfeaaGreatDoor
