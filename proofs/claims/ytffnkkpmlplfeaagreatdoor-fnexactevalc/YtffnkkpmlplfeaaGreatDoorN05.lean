import Derived.BigQuiet
import Derived.Test.YtffnkkpmlplfeaaGreatDoorN03
namespace Go.Proofs.YtffnkkpmlplfeaaGreatDoor
open Go.Proofs.Tryz
open Go.RowKit
set_option linter.all false
set_option maxRecDepth 100000
set_option maxHeartbeats 16000000
variable[Inhabited Pick]
theorem ret_bool {a b:Bool} (h:a=b):Ending.returned (.bool a)=.returned (.bool b):=by rw[h]
theorem first_any (c:Int) (w:World):Calls prog 123 #[.int .u8 c] w λe w'=>e=.returned (.bool (smallB c))/\w'=w:=by
 go_enter func123,ntmps123;go_wp2
 all_goals go_ret
 all_goals (refine⟨ret_bool ?_,rfl⟩;apply Bool.eq_iff_iff.2;simp[smallB] <;> omega)
theorem later_any (c:Int) (w:World):Calls prog 125 #[.int .u8 c] w λe w'=>e=.returned (.bool (laterB c))/\w'=w:=by
 cases h:smallB c
 all_goals
  go_enter func125,ntmps125;go_wp2_with (go_at_call 123;refine (first_any _ _).mono ?_;rintro e w' ⟨rfl,rfl⟩;rw[h])
  all_goals go_ret
  all_goals (refine⟨ret_bool ?_,rfl⟩;apply Bool.eq_iff_iff.2;simp[laterB,digitB,h] <;> omega)
theorem small_any (c:Int) (w:World):Calls prog 210 #[.int .u8 c] w λe w'=>e=.returned (.bool (smallB c))/\w'=w:=by
 go_enter func210,ntmps210;go_wp2
 all_goals go_ret
 all_goals (refine⟨ret_bool ?_,rfl⟩;apply Bool.eq_iff_iff.2;simp[smallB] <;> omega)
theorem digit_any (c:Int) (w:World):Calls prog 213 #[.int .u8 c] w λe w'=>e=.returned (.bool (digitB c))/\w'=w:=by
 go_enter func213,ntmps213;go_wp2
 all_goals go_ret
 all_goals (refine⟨ret_bool ?_,rfl⟩;apply Bool.eq_iff_iff.2;simp[digitB] <;> omega)
theorem span1_any (c:Int) (w:World):Calls prog 212 #[.int .u8 c] w λe w'=>e=.returned (.bool (laterB c))/\w'=w:=by
 cases h:smallB c
 all_goals
  go_enter func212,ntmps212;go_wp2_with (first|(go_at_call 210;refine (small_any _ _).mono ?_;rintro e w' ⟨rfl,rfl⟩;rw[h])|(go_at_call 213;refine (digit_any _ _).mono ?_;rintro e w' ⟨rfl,rfl⟩))
  all_goals go_ret
  all_goals (refine⟨ret_bool ?_,rfl⟩;simp[laterB,h])
theorem res_any (s : ByteArray) (w : World) : Calls prog 124 #[.string s] w λe w' => e=.returned (.bool (resB s)) ∧ w' = w := by
  go_enter func124, ntmps124;go_wp2
  all_goals go_ret
  all_goals (refine⟨ret_bool ?_, rfl⟩; simp[resB, *])
theorem resI_any (s : ByteArray) (w : World) : Calls prog 199 #[.string s] w λe w' => e=.returned (.bool (resB s)) ∧ w' = w := by
  go_enter func199, ntmps199;go_wp2
  all_goals go_ret
  all_goals (refine⟨ret_bool ?_, rfl⟩; first|(simp[resB, *]; done)|(exfalso; simp_all))
def digsN : Nat → Nat → List UInt8
 | 0, _ => []
 | k + 1, m => if m = 0 then [] else digsN k (m / 10) ++ [dig m]
theorem digsN_any : ∀ k j m : Nat, m ≤ k → m ≤ j → digsN k m = digsN j m
 | 0, 0, m, _, _ => rfl
 | 0, j + 1, m, h, _ => by obtain rfl : m = 0 := by omega
                           simp[digsN]
 | k + 1, 0, m, _, h => by obtain rfl : m = 0 := by omega
                           simp[digsN]
 | k + 1, j + 1, m, h, h' => by
   simp only[digsN]
   by_cases e : m = 0
   · rw[if_pos e, if_pos e]
   · rw[if_neg e, if_neg e, digsN_any k j (m / 10) o_ o_]
def digs (m : Nat) : List UInt8 := digsN m m
theorem digs_zero : digs 0 = [] := rfl
theorem digs_pos {m : Nat} (h : 0 < m) : digs m = digs (m / 10) ++ [dig m] := by
  obtain⟨k, rfl⟩ : ∃ k, m = k + 1 := ⟨m - 1, by omega⟩
  show digsN (k + 1) (k + 1) = _
  rw[digsN, if_neg o_, digsN_any k ((k + 1) / 10) ((k + 1) / 10) o_ (Nat.le_refl _)]; rfl
theorem digs_len (n:Nat) : ∀m,m<=n->(digs m).length<=m:=by
 induction n with
 | zero=>
  intro m h;have:m=0:=by omega
  rw[this,digs_zero];simp
 | succ n ih=>
  intro m h;by_cases h0:m=0
  ·subst h0;simp[digs_zero]
  ·rw[digs_pos o_];have:=ih (m / 10) o_
   simp only[l_a,l_c,l_n];omega
def mtxt (k:Nat):ByteArray:=⟨(109::digs k).toArray⟩
theorem ba_cons (d:UInt8) (l:List UInt8):(⟨#[d]⟩:ByteArray)++⟨l.toArray⟩=⟨(d::l).toArray⟩:=by
 apply ByteArray.ext;simp
theorem conv1 (m:Nat) (w:World):(convert 44 9 (.slice (some ⟨w.heap.size,0,none⟩) 1 1)).run prog (w.alloc (.cells #[.int .u8 (48+(m:Int) % 10)] 5))=.ok (.string ⟨#[dig m]⟩) (w.alloc (.cells #[.int .u8 (48+(m:Int) % 10)] 5)):=by
 refine run_convert_bytes_back (P:=prog) (w.alloc (.cells #[.int .u8 (48+(m:Int) % 10)] 5)) 44 9 5 ⟨w.heap.size,0,none⟩ 1 [dig m] underlying44 underlying5 underlying9 (λj hj => ?_);obtain rfl:j=0:=by simpa using hj
 have e:(((dig m).toNat:Nat):Int)=48+(m:Int) % 10:=by rw[dig_toNat];omega
 simp[Addr.add,e]
theorem mtext_any (k:Nat) (hk:(k:Int)<=1000000000) (h0:0<k) (w:World):Calls prog 73 #[.int .i64 k] w λe w'=>e=.returned (.string (mtxt k))/\Below w.heap.size w w':=by
 have HK:Hid ((digs k).length<=k):=digs_len k k n_;go_enter func73,ntmps73;go_wp2_with fail;go_loopw [0,3] (λq s wr=>∃(m:Nat) (l:List UInt8),(m:Int)<=1000000000/\q=.int .i64 m/\s=.string ⟨l.toArray⟩/\digs m++l=digs k/\Bl w wr) (λq _ _=>(RowKit.intOf q).toNat)
 case atStart=>exact⟨k,[],hk,rfl,rfl,by simp,r_⟩
 case round=>
  obtain⟨m,l,hm,rfl,rfl,hl,hB⟩:=hrel;have hll:(l.length:Int)<=1000000000:=by
   have h1:=congrArg List.length hl
   have h2:=HK.o
   simp only[l_a] at h1
   omega
  have hsz:(⟨l.toArray⟩:ByteArray).size=l.length:=by simp[ByteArray.size]
  have hs1:((⟨l.toArray⟩:ByteArray).size:Int)<=1000000000:=by rw[hsz];exact hll
  have HL:=hide hl;have HE:=ba_cons (dig m) l;obtain⟨HE',HM⟩:=h2 HE (ba_cons 109 l);generalize hT:(⟨l.toArray⟩:ByteArray)=T at hs1 HE' HM ⊢;have HT:=hide hT;by_cases h1:0<m
  ·have hcv:=conv1 m;have h1c:(⟨#[dig m]⟩:ByteArray).size=1:=rfl;go_wp2_with fail;go_roundw
   case rel=>
    refine⟨m / 10,dig m::l,by omega,by go_num,by rw[<-HE'.o],?_,hB.alloc hB.size _⟩;rw[<-HL.o,digs_pos h1];simp
   case measure=>simp[RowKit.intOf];omega
  ·go_wp2;go_ret;refine⟨ret_str ?_,hB⟩;have hz:m=0:=by omega
   have:=HL.o
   rw[hz,digs_zero,List.nil_append] at this;rw[HM.o,this];rfl
section
variable {s:ByteArray}
theorem byteAt_eq (s:ByteArray) (k:Nat) (h:k<s.size):(s[k].toNat:Int)=byteAt s k:=by
 have h':k<s.data.toList.length:=by simpa using h
 simp only[byteAt,List.getD,List.getElem?_eq_getElem h',Option.getD_some];rfl
theorem nameB_iff (s:ByteArray):nameB s=true↔nameP s:=by simp[nameB]
theorem nameB_false (h : ¬nameP s):nameB s=false:=by simp[nameB,h]
theorem nameB_true (h:nameP s):nameB s=true:=by simp[nameB,h]
theorem name_yes (s:ByteArray) (w:World) (h1:1<=s.size) (h2:s.size<=20) (h3:smallB (byteAt s 0)=true) (h4:resB s=false) :
  Calls prog 87 #[.string s] w λe w'=>e=.returned (.bool (nameB s))/\w'=w:=by
 have hb:0<s.size:=by omega
 go_enter func87,ntmps87;go_wp2_with (first
  | (go_at_call 123;refine (first_any _ _).mono ?_;rintro e w' ⟨rfl,rfl⟩;rw[byteAt_eq _ _ hb,h3])
  | (go_at_call 124;refine (res_any _ _).mono ?_;rintro e w' ⟨rfl,rfl⟩;rw[h4]))
 go_loop [3] (λi=>∃k:Nat,k<=s.size/\i=.int .i64 k/\laterTo s k) (λi=>s.size-(RowKit.intOf i).toNat)
 case atStart=>exact⟨0,y_,rfl,λj hj=>absurd hj (Nat.not_lt_zero _)⟩
 case round=>
  obtain⟨k,hk,rfl,hl⟩:=hrel;have HL:=hide hl;by_cases hlt:k<s.size
  ·cases hc:laterB (byteAt s k)
   ·go_wp2_with (go_at_call 125;refine (later_any _ _).mono ?_;rintro e w' ⟨rfl,rfl⟩;rw[byteAt_eq _ _ hlt,hc])
    go_ret;exact⟨ret_bool (nameB_false λh=>by have:=h.2.2.2.1 k hlt;rw[hc] at this;cases this).symm,rfl⟩
   ·go_wp2_with (go_at_call 125;refine (later_any _ _).mono ?_;rintro e w' ⟨rfl,rfl⟩;rw[byteAt_eq _ _ hlt,hc])
    go_round
    case rel=>exact⟨k+1,by omega,by go_num,λj hj=>by by_cases e:j=k;(subst e;exact hc);exact HL j o_⟩
    case measure=>simp[RowKit.intOf];omega
  ·go_wp2;go_ret;exact⟨ret_bool (nameB_true ⟨h1,h2,h3,λj hj=>HL j o_,h4⟩).symm,rfl⟩
theorem name_no (s:ByteArray) (w:World) (h : ¬(1<=s.size/\s.size<=20/\smallB (byteAt s 0)=true/\resB s=false)) :
  Calls prog 87 #[.string s] w λe w'=>e=.returned (.bool (nameB s))/\w'=w:=by
 have hn:nameB s=false:=nameB_false λhp=>h ⟨hp.1,hp.2.1,hp.2.2.1,hp.2.2.2.2⟩;rw[hn];have H:=hide h;by_cases h1:1<=s.size
 ·by_cases h2:s.size<=20
  ·have hb:0<s.size:=by omega
   cases h3:smallB (byteAt s 0)
   ·go_enter func87,ntmps87;go_wp2_with (first
     | (go_at_call 123;refine (first_any _ _).mono ?_;rintro e w' ⟨rfl,rfl⟩;rw[byteAt_eq _ _ hb,h3]))
    go_ret;exact⟨rfl,rfl⟩
   ·have h4:resB s=true:=by
     cases e:resB s
     ·exact absurd ⟨h1,h2,h3,e⟩ H
     ·rfl
    go_enter func87,ntmps87;go_wp2_with (first
     | (go_at_call 123;refine (first_any _ _).mono ?_;rintro e w' ⟨rfl,rfl⟩;rw[byteAt_eq _ _ hb,h3])
     | (go_at_call 124;refine (res_any _ _).mono ?_;rintro e w' ⟨rfl,rfl⟩;rw[h4]))
    go_ret;exact⟨rfl,rfl⟩
  ·go_enter func87,ntmps87;go_wp2;go_ret;exact⟨rfl,rfl⟩
 ·go_enter func87,ntmps87;go_wp2;go_ret;exact⟨rfl,rfl⟩
theorem name_any (s:ByteArray) (w:World):Calls prog 87 #[.string s] w λe w'=>e=.returned (.bool (nameB s))/\w'=w:=by
 by_cases h:1<=s.size/\s.size<=20/\smallB (byteAt s 0)=true/\resB s=false
 ·exact name_yes s w h.1 h.2.1 h.2.2.1 h.2.2.2
 ·exact name_no s w h
end
end Go.Proofs.YtffnkkpmlplfeaaGreatDoor
