import Derived.Test.YtnpidjamplmgjaaGreatDoorQ14
set_option linter.unusedSectionVars false
variable [Inhabited Go.Proofs.YtnpidjamplmgjaaGreatDoor.Pick]
namespace Go.Proofs.YtnpidjamplmgjaaGreatDoor
open Go.RowKit
set_option linter.unusedVariables false
set_option linter.unusedSimpArgs false
set_option maxRecDepth 100000
set_option maxHeartbeats 16000000
theorem putI (C:IC) (hC:C.Ok) (w:World) (its:List It) (l:Int) (hG:Gi C w its l) (op rd s1 s2 im:Int) (hi:its.length<=9000000):Calls Tryz.prog 48 #[.pointer (some ⟨C.P,0,none⟩),.agg #[.int .i64 op,.int .i64 rd,.int .i64 s1,.int .i64 s2,.int .i64 im]] w fun e w'=>(∃u,e = .returned u)/\Wi C w its [insI op rd s1 s2 im] l w':=
 (putE_any C.P its _ op rd s1 s2 im w hG.es hi).mono (fun _ _ h=>⟨h.1,Wi.of hG h.2.1 h.2.2⟩)
theorem markI_any (C:IC) (hC:C.Ok) (w:World) (its:List It) (l:Int) (hG:Gi C w its l) (kd lb:Int) (hi:its.length<=9000000):Calls Tryz.prog 25 #[.pointer (some ⟨C.P,0,none⟩),.int .i64 kd,.int .i64 lb] w fun e w'=>(∃u,e = .returned u)/\Wi C w its [markI kd lb] l w':=
 (markE_any C.P its _ kd lb w hG.es hi).mono (fun _ _ h=>⟨h.1,Wi.of hG h.2.1 h.2.2⟩)
theorem branI_any (C:IC) (hC:C.Ok) (w:World) (its:List It) (l:Int) (hG:Gi C w its l) (op rg lb:Int) (hi:its.length<=9000000):Calls Tryz.prog 163 #[.pointer (some ⟨C.P,0,none⟩),.int .i64 op,.int .i64 rg,.int .i64 lb] w fun e w'=>(∃u,e = .returned u)/\Wi C w its [branI op rg lb] l w':=
 (branE_any C.P its _ op rg lb w hG.es hi).mono (fun _ _ h=>⟨h.1,Wi.of hG h.2.1 h.2.2⟩)
theorem labI (C:IC) (hC:C.Ok) (w:World) (its:List It) (l:Int) (hG:Gi C w its l) (hl:0<=l/\l<=1000000000):Calls Tryz.prog 50 #[.pointer (some ⟨C.P,0,none⟩)] w fun e w'=>e = .returned (.int .i64 l)/\Wi C w its [] (l+1) w':=by
 refine (labelE_any C.P its _ l w hG.es rfl hl).mono ?_
 rintro e w' ⟨rfl,h1,h2⟩
 refine ⟨rfl,Wi.of hG ?_ h2⟩
 rw [List.append_nil]
 refine h1.congr fun o ho hq => ?_
 have:o=0∨o=1∨o=2∨o=3∨o=4∨o=6∨o=7:=by omega
 rcases this with rfl | rfl | rfl | rfl | rfl | rfl | rfl <;> rfl
theorem combineI (C:IC) (hC:C.Ok) (w:World) (its:List It) (l:Int) (hG:Gi C w its l) (op rd s1 s2:Int) (hi:its.length<=9000000) :
  Calls Tryz.prog 170 #[.pointer (some ⟨C.P,0,none⟩),.int .i64 op,.int .i64 rd,.int .i64 s1,.int .i64 s2] w fun e w'=>(∃u,e = .returned u)/\Wi C w its ([insI op rd s1 s2 0]) l w':=by
 have HC:=hide hC
 have HG:=hide hG
 go_enter Tryz.func170,Tryz.ntmps170
 go_wp2_with fail
 refine (putI C HC.out w its (l) HG.out op rd s1 s2 0 hi).mono ?_
 rintro x w_1 ⟨⟨u_1,rfl⟩,hw_1⟩
 have HW_1:=hide hw_1
 go_wp2_with fail
 exact bodyPost_end (v:=.tuple #[]) (by simp [results,Tryz.results170,go_sem]) rfl ⟨⟨_,rfl⟩,HW_1.out⟩
theorem combineImmI (C:IC) (hC:C.Ok) (w:World) (its:List It) (l:Int) (hG:Gi C w its l) (op rd s1 im:Int) (hi:its.length<=9000000) :
  Calls Tryz.prog 51 #[.pointer (some ⟨C.P,0,none⟩),.int .i64 op,.int .i64 rd,.int .i64 s1,.int .i64 im] w fun e w'=>(∃u,e = .returned u)/\Wi C w its ([insI op rd s1 0 im]) l w':=by
 have HC:=hide hC
 have HG:=hide hG
 go_enter Tryz.func51,Tryz.ntmps51
 go_wp2_with fail
 refine (putI C HC.out w its (l) HG.out op rd s1 0 im hi).mono ?_
 rintro x w_1 ⟨⟨u_1,rfl⟩,hw_1⟩
 have HW_1:=hide hw_1
 go_wp2_with fail
 exact bodyPost_end (v:=.tuple #[]) (by simp [results,Tryz.results51,go_sem]) rfl ⟨⟨_,rfl⟩,HW_1.out⟩
theorem copyRegI (C:IC) (hC:C.Ok) (w:World) (its:List It) (l:Int) (hG:Gi C w its l) (to fr:Int) (hi:its.length<=9000000) :
  Calls Tryz.prog 140 #[.pointer (some ⟨C.P,0,none⟩),.int .i64 to,.int .i64 fr] w fun e w'=>(∃u,e = .returned u)/\Wi C w its ([insI 12 to fr 0 0]) l w':=by
 have HC:=hide hC
 have HG:=hide hG
 go_enter Tryz.func140,Tryz.ntmps140
 go_wp2_with fail
 refine (combineImmI C HC.out w its (l) HG.out 12 to fr 0 hi).mono ?_
 rintro x w_1 ⟨⟨u_1,rfl⟩,hw_1⟩
 have HW_1:=hide hw_1
 go_wp2_with fail
 exact bodyPost_end (v:=.tuple #[]) (by simp [results,Tryz.results140,go_sem]) rfl ⟨⟨_,rfl⟩,HW_1.out⟩
theorem loadWordI (C:IC) (hC:C.Ok) (w:World) (its:List It) (l:Int) (hG:Gi C w its l) (r bs off:Int) (hi:its.length<=9000000) :
  Calls Tryz.prog 56 #[.pointer (some ⟨C.P,0,none⟩),.int .i64 r,.int .i64 bs,.int .i64 off] w fun e w'=>(∃u,e = .returned u)/\Wi C w its ([insI 10 r bs 0 off]) l w':=by
 have HC:=hide hC
 have HG:=hide hG
 go_enter Tryz.func56,Tryz.ntmps56
 go_wp2_with fail
 refine (combineImmI C HC.out w its (l) HG.out 10 r bs off hi).mono ?_
 rintro x w_1 ⟨⟨u_1,rfl⟩,hw_1⟩
 have HW_1:=hide hw_1
 go_wp2_with fail
 exact bodyPost_end (v:=.tuple #[]) (by simp [results,Tryz.results56,go_sem]) rfl ⟨⟨_,rfl⟩,HW_1.out⟩
theorem storeWordI (C:IC) (hC:C.Ok) (w:World) (its:List It) (l:Int) (hG:Gi C w its l) (r bs off:Int) (hi:its.length<=9000000) :
  Calls Tryz.prog 52 #[.pointer (some ⟨C.P,0,none⟩),.int .i64 r,.int .i64 bs,.int .i64 off] w fun e w'=>(∃u,e = .returned u)/\Wi C w its ([insI 11 0 bs r off]) l w':=by
 have HC:=hide hC
 have HG:=hide hG
 go_enter Tryz.func52,Tryz.ntmps52
 go_wp2_with fail
 refine (putI C HC.out w its (l) HG.out 11 0 bs r off hi).mono ?_
 rintro x w_1 ⟨⟨u_1,rfl⟩,hw_1⟩
 have HW_1:=hide hw_1
 go_wp2_with fail
 exact bodyPost_end (v:=.tuple #[]) (by simp [results,Tryz.results52,go_sem]) rfl ⟨⟨_,rfl⟩,HW_1.out⟩
theorem hasReg_any (d:Int) (w:World):Calls Tryz.prog 192 #[.int .i64 d] w fun e w'=>e = .returned (.bool (decide (d<5)))/\w'=w:=by
 by_cases h:d<5
 ·have HD:Hid (decide (d<5)=true):=decide_eq_true h
  go_enter Tryz.func192,Tryz.ntmps192
  go_wp2_with fail
  go_ret
  exact ⟨by rw [HD.out];rfl,rfl⟩
 ·have HD:Hid (decide (d<5)=false):=decide_eq_false h
  go_enter Tryz.func192,Tryz.ntmps192
  go_wp2_with fail
  go_ret
  exact ⟨by rw [HD.out];rfl,rfl⟩
theorem regI_tab {n:Nat} {sp:Int} (h:n<5):regTab.getD n 0=regI (n:Int) sp:=by
 have:n=0∨n=1∨n=2∨n=3∨n=4:=by omega
 rcases this with rfl | rfl | rfl | rfl | rfl <;> rfl
theorem regI_big {d sp:Int} (h:5<=d):regI d sp=sp:=by
 unfold regI
 rw [if_neg o_,if_neg o_,if_neg o_,if_neg o_,if_neg o_]
theorem wordI_eq (C:IC) (d:Int):wordI C.E d=4*(C.ns.length:Int)+4*d:=by
 show 4*((C.ns.length:Int)+d)=_
 omega
theorem wordOf_any (C:IC) (hC:C.Ok) (w:World) (its:List It) (l:Int) (hG:Gi C w its l) (d:Int) (hd:0<=d) (hd1:d<=1000000):Calls Tryz.prog 190 #[.pointer (some ⟨C.P,0,none⟩),.int .i64 d] w fun e w'=>e = .returned (.int .i64 (wordI C.E d))/\w'=w:=by
 have hn:=hC.nl
 have h1:w.cell? ⟨C.P,1,none⟩=some (.int .i64 (4*(C.ns.length:Int))):=hG.es.oth 1 (by decide) (by decide)
 have k1:IntKind.i64.wrap (4*d)=4*d:=by simp [IntKind.wrap,IntKind.bits,IntKind.signed];omega
 have k2:IntKind.i64.wrap (4*(C.ns.length:Int)+4*d)=4*(C.ns.length:Int)+4*d:=by simp [IntKind.wrap,IntKind.bits,IntKind.signed];omega
 have HE:Hid (wordI C.E d=4*(C.ns.length:Int)+4*d):=wordI_eq C d
 generalize (C.ns.length:Int)=n at *
 go_enter Tryz.func190,Tryz.ntmps190
 go_wp2_with fail
 go_ret
 exact ⟨by rw [HE.out];rfl,rfl⟩
theorem target_any (C:IC) (hC:C.Ok) (w:World) (its:List It) (l:Int) (hG:Gi C w its l) (d:Int) (hd:0<=d):Calls Tryz.prog 193 #[.int .i64 d] w fun e w'=>e = .returned (.int .i64 (regI d 30))/\w'=w:=by
 obtain ⟨n,rfl⟩:=Int.eq_ofNat_of_zero_le hd
 by_cases h:(n:Int)<5
 ·have hr:=hG.reg hC n o_
  have HE:Hid (regTab.getD n 0=regI (n:Int) 30):=regI_tab o_
  generalize regTab.getD n 0=z at hr HE
  go_enter Tryz.func193,Tryz.ntmps193
  go_wp2_with fail
  refine (hasReg_any (n:Int) w).mono ?_
  rintro e w1 ⟨rfl,rfl⟩
  rw [decide_eq_true o_]
  go_wp2_with fail
  go_ret
  exact ⟨by rw [<-HE.out];rfl,rfl⟩
 ·have HE:Hid (regI (n:Int) 30=30):=regI_big o_
  go_enter Tryz.func193,Tryz.ntmps193
  go_wp2_with fail
  refine (hasReg_any (n:Int) w).mono ?_
  rintro e w1 ⟨rfl,rfl⟩
  rw [decide_eq_false o_]
  go_wp2_with fail
  go_ret
  exact ⟨by rw [HE.out];rfl,rfl⟩
theorem readI (C:IC) (hC:C.Ok) (w:World) (its:List It) (l:Int) (hG:Gi C w its l) (d sp:Int) (hi:its.length<=9000000) (hd:0<=d) (hd1:d<=1000000) :
  Calls Tryz.prog 194 #[.pointer (some ⟨C.P,0,none⟩),.int .i64 d,.int .i64 sp] w fun e w'=>e = .returned (.int .i64 (regI d sp))/\Wi C w its (readL C.E d sp) l w':=by
 have HC:=hide hC
 have HG:=hide hG
 obtain ⟨n,rfl⟩:=Int.eq_ofNat_of_zero_le hd
 by_cases h:(n:Int)<5
 ·have hr:=hG.reg hC n o_
  have HE:Hid (regTab.getD n 0=regI (n:Int) sp):=regI_tab o_
  have HL:Hid (readL C.E (n:Int) sp = []):=by show _=_;unfold readL;rw [if_neg o_]
  generalize regTab.getD n 0=z at hr HE
  go_enter Tryz.func194,Tryz.ntmps194
  go_wp2_with fail
  refine (hasReg_any (n:Int) w).mono ?_
  rintro e w1 ⟨rfl,hw1⟩
  rw [hw1,decide_eq_true o_]
  go_wp2_with fail
  go_ret
  exact ⟨by rw [<-HE.out];rfl,by rw [HL.out];exact Wi.nil HG.out⟩
 ·clear hC hG
  have HE:Hid (regI (n:Int) sp=sp):=regI_big o_
  have HL:Hid (readL C.E (n:Int) sp = [insI 10 sp 2 0 (wordI C.E (n:Int))]):=by show _=_;unfold readL;rw [if_pos o_]
  go_enter Tryz.func194,Tryz.ntmps194
  go_wp2_with fail
  refine (hasReg_any (n:Int) w).mono ?_
  rintro e w1 ⟨rfl,hw1⟩
  rw [hw1,decide_eq_false o_]
  go_wp2_with fail
  refine (wordOf_any C HC.out w its l HG.out (n:Int) o_ o_).mono ?_
  rintro e w1 ⟨rfl,hw1⟩
  rw [hw1]
  go_wp2_with fail
  refine (loadWordI C HC.out w its (l) HG.out sp 2 (wordI C.E (n:Int)) hi).mono ?_
  rintro x w_1 ⟨⟨u_1,rfl⟩,hw_1⟩
  have HW_1:=hide hw_1
  go_wp2_with fail
  go_ret
  exact ⟨by rw [HE.out];rfl,by rw [HL.out];exact HW_1.out⟩
theorem writeI (C:IC) (hC:C.Ok) (w:World) (its:List It) (l:Int) (hG:Gi C w its l) (d:Int) (hi:its.length<=9000000) (hd:0<=d) (hd1:d<=1000000) :
  Calls Tryz.prog 167 #[.pointer (some ⟨C.P,0,none⟩),.int .i64 d] w fun e w'=>(∃u,e = .returned u)/\Wi C w its (writeL C.E d) l w':=by
 have HC:=hide hC
 have HG:=hide hG
 obtain ⟨n,rfl⟩:=Int.eq_ofNat_of_zero_le hd
 by_cases h:(n:Int)<5
 ·have hr:=hG.reg hC n o_
  have HL:Hid (writeL C.E (n:Int) = []):=by show _=_;unfold writeL;rw [if_neg o_]
  go_enter Tryz.func167,Tryz.ntmps167
  go_wp2_with fail
  refine (hasReg_any (n:Int) w).mono ?_
  rintro e w1 ⟨rfl,hw1⟩
  rw [hw1,decide_eq_true o_]
  go_wp2_with fail
  exact bodyPost_end (v:=.tuple #[]) (by simp [results,Tryz.results167,go_sem]) rfl ⟨⟨_,rfl⟩,by rw [HL.out];exact Wi.nil HG.out⟩
 ·clear hC hG
  have HL:Hid (writeL C.E (n:Int) = [insI 11 0 2 30 (wordI C.E (n:Int))]):=by show _=_;unfold writeL;rw [if_pos o_]
  go_enter Tryz.func167,Tryz.ntmps167
  go_wp2_with fail
  refine (hasReg_any (n:Int) w).mono ?_
  rintro e w1 ⟨rfl,hw1⟩
  rw [hw1,decide_eq_false o_]
  go_wp2_with fail
  refine (wordOf_any C HC.out w its l HG.out (n:Int) o_ o_).mono ?_
  rintro e w1 ⟨rfl,hw1⟩
  rw [hw1]
  go_wp2_with fail
  refine (storeWordI C HC.out w its (l) HG.out 30 2 (wordI C.E (n:Int)) hi).mono ?_
  rintro x w_1 ⟨⟨u_1,rfl⟩,hw_1⟩
  have HW_1:=hide hw_1
  go_wp2_with fail
  exact bodyPost_end (v:=.tuple #[]) (by simp [results,Tryz.results167,go_sem]) rfl ⟨⟨_,rfl⟩,(by first | (rw [HL.out];exact HW_1.out) | (rw [HL.out];exact HW_1.out) | exact HW_1.out)⟩
theorem takeResultI (C:IC) (hC:C.Ok) (w:World) (its:List It) (l:Int) (hG:Gi C w its l) (d:Int) (hi:its.length<=9000000) (hd:0<=d) (hd1:d<=1000000) :
  Calls Tryz.prog 165 #[.pointer (some ⟨C.P,0,none⟩),.int .i64 d] w fun e w'=>(∃u,e = .returned u)/\Wi C w its (answerL C.E d) l w':=by
 have HC:=hide hC
 have HG:=hide hG
 obtain ⟨n,rfl⟩:=Int.eq_ofNat_of_zero_le hd
 by_cases h:(n:Int)<5
 ·have hr:=hG.reg hC n o_
  have HE:Hid (regTab.getD n 0=regI (n:Int) 30):=regI_tab o_
  have HL:Hid (answerL C.E (n:Int) = [insI 12 (regI (n:Int) 30) 10 0 0]):=by show _=_;unfold answerL;rw [if_neg o_]
  generalize regTab.getD n 0=z at hr HE
  go_enter Tryz.func165,Tryz.ntmps165
  go_wp2_with fail
  refine (hasReg_any (n:Int) w).mono ?_
  rintro e w1 ⟨rfl,hw1⟩
  rw [hw1,decide_eq_true o_]
  go_wp2_with fail
  refine (copyRegI C HC.out w its (l) HG.out z 10 hi).mono ?_
  rintro x w_1 ⟨⟨u_1,rfl⟩,hw_1⟩
  have HW_1:=hide hw_1
  go_wp2_with fail
  exact bodyPost_end (v:=.tuple #[]) (by simp [results,Tryz.results165,go_sem]) rfl ⟨⟨_,rfl⟩,(by first | (rw [HL.out,<-HE.out];exact HW_1.out) | (rw [<-HE.out];exact HW_1.out) | exact HW_1.out)⟩
 ·clear hC hG
  have HL:Hid (answerL C.E (n:Int) = [insI 11 0 2 10 (wordI C.E (n:Int))]):=by show _=_;unfold answerL;rw [if_pos o_]
  go_enter Tryz.func165,Tryz.ntmps165
  go_wp2_with fail
  refine (hasReg_any (n:Int) w).mono ?_
  rintro e w1 ⟨rfl,hw1⟩
  rw [hw1,decide_eq_false o_]
  go_wp2_with fail
  refine (wordOf_any C HC.out w its l HG.out (n:Int) o_ o_).mono ?_
  rintro e w1 ⟨rfl,hw1⟩
  rw [hw1]
  go_wp2_with fail
  refine (storeWordI C HC.out w its (l) HG.out 10 2 (wordI C.E (n:Int)) hi).mono ?_
  rintro x w_1 ⟨⟨u_1,rfl⟩,hw_1⟩
  have HW_1:=hide hw_1
  go_wp2_with fail
  exact bodyPost_end (v:=.tuple #[]) (by simp [results,Tryz.results165,go_sem]) rfl ⟨⟨_,rfl⟩,(by first | (rw [HL.out];exact HW_1.out) | (rw [HL.out];exact HW_1.out) | exact HW_1.out)⟩
theorem passI (C:IC) (hC:C.Ok) (w:World) (its:List It) (l:Int) (hG:Gi C w its l) (r d:Int) (hi:its.length<=9000000) (hd:0<=d) (hd1:d<=1000000) :
  Calls Tryz.prog 191 #[.pointer (some ⟨C.P,0,none⟩),.int .i64 r,.int .i64 d] w fun e w'=>(∃u,e = .returned u)/\Wi C w its [if d<5 then insI 12 r (regI d 0) 0 0 else insI 10 r 2 0 (wordI C.E d)] l w':=by
 have HC:=hide hC
 have HG:=hide hG
 obtain ⟨n,rfl⟩:=Int.eq_ofNat_of_zero_le hd
 by_cases h:(n:Int)<5
 ·have hr:=hG.reg hC n o_
  have HE:Hid (regTab.getD n 0=regI (n:Int) 0):=regI_tab o_
  have HL:Hid ((if (n:Int)<5 then insI 12 r (regI (n:Int) 0) 0 0 else insI 10 r 2 0 (wordI C.E (n:Int)))=insI 12 r (regI (n:Int) 0) 0 0):=if_pos o_
  generalize regTab.getD n 0=z at hr HE
  clear hC hG
  go_enter Tryz.func191,Tryz.ntmps191
  go_wp2_with fail
  refine (hasReg_any (n:Int) w).mono ?_
  rintro e w1 ⟨rfl,hw1⟩
  rw [hw1,decide_eq_true o_]
  clear hw1
  go_wp2_with fail
  refine (copyRegI C HC.out w its (l) HG.out r z hi).mono ?_
  rintro x w_1 ⟨⟨u_1,rfl⟩,hw_1⟩
  have HW_1:=hide hw_1
  clear hw_1
  go_wp2_with fail
  exact bodyPost_end (v:=.tuple #[]) (by simp [results,Tryz.results191,go_sem]) rfl ⟨⟨_,rfl⟩,(by first | (rw [HL.out,<-HE.out];exact HW_1.out) | (rw [<-HE.out];exact HW_1.out) | exact HW_1.out)⟩
 ·clear hC hG
  have HL:Hid ((if (n:Int)<5 then insI 12 r (regI (n:Int) 0) 0 0 else insI 10 r 2 0 (wordI C.E (n:Int)))=insI 10 r 2 0 (wordI C.E (n:Int))):=if_neg o_
  go_enter Tryz.func191,Tryz.ntmps191
  go_wp2_with fail
  refine (hasReg_any (n:Int) w).mono ?_
  rintro e w1 ⟨rfl,hw1⟩
  rw [hw1,decide_eq_false o_]
  clear hw1
  go_wp2_with fail
  refine (wordOf_any C HC.out w its l HG.out (n:Int) o_ o_).mono ?_
  rintro e w1 ⟨rfl,hw1⟩
  rw [hw1]
  clear hw1
  go_wp2_with fail
  refine (loadWordI C HC.out w its (l) HG.out r 2 (wordI C.E (n:Int)) hi).mono ?_
  rintro x w_1 ⟨⟨u_1,rfl⟩,hw_1⟩
  have HW_1:=hide hw_1
  clear hw_1
  go_wp2_with fail
  exact bodyPost_end (v:=.tuple #[]) (by simp [results,Tryz.results191,go_sem]) rfl ⟨⟨_,rfl⟩,(by first | (rw [HL.out];exact HW_1.out) | (rw [HL.out];exact HW_1.out) | exact HW_1.out)⟩
theorem Wrote.trans {P:Nat} {w w1 w2:World} {its a b:List It} {vg vf vn vg' vf' vn':Value} {fr en l fr' en' l':Int} (h:Wrote P w its a vg vf vn fr en l w1) (h':Wrote P w1 (its++a) b vg' vf' vn' fr' en' l' w2):Wrote P w its (a++b) vg' vf' vn' fr' en' l' w2:=
 ⟨by rw [<-List.append_assoc];exact h'.1,h.2.trans h'.2⟩
theorem putS (P:Nat) (its:List It) (vg vf vn:Value) (fr en l op rd s1 s2 im:Int) (w:World) (hO:Es P w its vg vf vn fr en l) (hi:its.length<=9000000) :
  Calls Tryz.prog 18 #[.pointer (some ⟨P,0,none⟩),.int .i64 op,.int .i64 rd,.int .i64 s1,.int .i64 s2,.int .i64 im] w fun e w'=>(∃u,e = .returned u)/\Wrote P w its [insI op rd s1 s2 im] vg vf vn fr en l w':=putG_any P its _ op rd s1 s2 im w hO hi
theorem answerG_any (P:Nat) (its:List It) (vg vf:Value) (an:Option Addr) (cn:Nat) (E:GEnv) (fr en l d:Int) (w:World) (hO:Es P w its vg vf (.slice an E.n cn) fr en l) (hi:its.length<=9000000) (hn:E.n<=1000000) (hd:0<=d) (hd1:d<=1000000) :
  Calls Tryz.prog 122 #[.pointer (some ⟨P,0,none⟩),.int .i64 d] w fun e w'=>(∃u,e = .returned u)/\Wrote P w its (answerL E d) vg vf (.slice an E.n cn) fr en l w':=by
 by_cases h5:5<=d
 ·have HL:Hid (answerL E d = [insI 11 0 2 10 (wordI E d)]):=by show _=_;unfold answerL;rw [if_pos h5]
  have HWd:=wordG_any P its vg vf an cn E fr en l d w hO hn hd hd1
  have HP:=hide (putS P its _ _ _ _ _ _ 11 0 2 10 (wordI E d) w hO hi)
  generalize wordI E d=wd at HWd HP HL
  go_enter Tryz.func122,Tryz.ntmps122
  go_wp2_with fail
  refine HWd.mono ?_
  rintro e w1 ⟨rfl,rfl⟩
  go_wp2_with fail
  refine HP.out.mono ?_
  rintro e w2 ⟨⟨u,rfl⟩,he⟩
  have HR:=hide he
  go_wp2_with fail
  exact bodyPost_end (v:=.tuple #[]) (by simp [results,Tryz.results122,go_sem]) rfl ⟨⟨_,rfl⟩,by rw [HL.out];exact HR.out⟩
 ·have HL:Hid (answerL E d = [insI 12 (regI d 30) 10 0 0]):=by show _=_;unfold answerL;rw [if_neg h5]
  have HO:=hide hO
  have hlt:=hO.lt
  go_enter Tryz.func122,Tryz.ntmps122
  go_wp2_with fail
  refine (regG_any d 30 w hd).mono ?_
  rintro e w1 ⟨rfl,hb1⟩
  have HP:=hide (putS P its _ _ _ _ _ _ 12 (regI d 30) 10 0 0 w1 (HO.out.below hb1) hi)
  have HW1:Hid (Wq 6 P w w1):=Wq.below hlt hb1
  generalize regI d 30=rg at HP HL
  go_wp2_with fail
  refine HP.out.mono ?_
  rintro e w2 ⟨⟨u,rfl⟩,he⟩
  have HR:Hid (Wrote P w its [insI 12 rg 10 0 0] vg vf (.slice an E.n cn) fr en l w2):=⟨he.1,HW1.out.trans he.2⟩
  go_wp2_with fail
  exact bodyPost_end (v:=.tuple #[]) (by simp [results,Tryz.results122,go_sem]) rfl ⟨⟨_,rfl⟩,by rw [HL.out];exact HR.out⟩
theorem and_20 (x:Int):bits .and .i64 x 1048575=x % 1048576:=by
 show IntKind.i64.wrap ((BitVec.ofInt 64 x &&& BitVec.ofInt 64 1048575).toNat:Int)=_
 have h:(BitVec.ofInt 64 x &&& BitVec.ofInt 64 1048575).toNat=(x % 1048576).toNat:=by
  rw [BitVec.toNat_and,BitVec.toNat_ofInt]
  have e:(BitVec.ofInt 64 1048575).toNat=2 ^ 20-1:=by decide
  rw [e,Nat.and_two_pow_sub_one_eq_mod]
  omega
 rw [h,IntKind.wrap_i64]
 omega
theorem loadG_any (P:Nat) (its:List It) (vg vf vn:Value) (fr en l reg v:Int) (w:World) (hO:Es P w its vg vf vn fr en l) (hi:its.length<=8999999) (hv : -2147483648<=v/\v<=2147483647) :
  Calls Tryz.prog 94 #[.pointer (some ⟨P,0,none⟩),.int .i64 reg,.int .i64 v] w fun e w'=>(∃u,e = .returned u)/\Wrote P w its (loadL reg v) vg vf vn fr en l w':=by
 by_cases h1 : -2048<=v/\v<=2047
 ·have HL:Hid (loadL reg v = [insI 12 reg 0 0 v]):=by show _=_;unfold loadL;rw [if_pos h1]
  have HP:=hide (putS P its _ _ _ _ _ _ 12 reg 0 0 v w hO o_)
  clear hO
  go_enter Tryz.func94,Tryz.ntmps94
  go_wp2_with fail
  refine (in_any v (-2048) 2047 w).mono ?_
  rintro e w1 ⟨rfl,rfl⟩
  rw [decide_eq_true h1]
  go_wp2_with fail
  refine HP.out.mono ?_
  rintro e w2 ⟨⟨u,rfl⟩,he⟩
  have HR:Hid (Wrote P w1 its [insI 12 reg 0 0 v] vg vf vn fr en l w2):=he
  clear he HP
  go_wp2_with fail
  exact bodyPost_ret (v:=.tuple #[]) (by simp [results,Tryz.results94,go_sem]) rfl ⟨⟨_,rfl⟩,by rw [HL.out];exact HR.out⟩
 ·obtain ⟨hh,hhe⟩ : ∃hh,hh=(v+2048) / 4096:=⟨_,rfl⟩
  have hL:loadL reg v = [insI 1 reg 0 0 (hh % 1048576)]++(if v=hh*4096 then [] else [insI 12 reg reg 0 (v-hh*4096)]):=by unfold loadL;rw [if_neg h1,hhe]
  have HL:=hide hL
  have HP:=hide (putS P its _ _ _ _ _ _ 1 reg 0 0 (hh % 1048576) w hO o_)
  have hhb : -600000<=hh/\hh<=600000:=by omega
  have k0:IntKind.i64.wrap (hh*4096)=hh*4096:=by simp [IntKind.wrap,IntKind.bits,IntKind.signed];omega
  have k1:IntKind.i64.wrap (v-hh*4096)=v-hh*4096:=by simp [IntKind.wrap,IntKind.bits,IntKind.signed];omega
  have K2:Hid (bits BinOp.and IntKind.i64 ((v+2048) / 4096) 1048575=hh % 1048576):=by show _=_;rw [hhe];exact and_20 _
  have K3:Hid ((v+2048) / 4096=hh):=hhe.symm
  clear hO hL hhe
  go_enter Tryz.func94,Tryz.ntmps94
  go_wp2_with fail
  refine (in_any v (-2048) 2047 w).mono ?_
  rintro e w1 ⟨rfl,rfl⟩
  rw [decide_eq_false h1]
  go_wp2_with fail
  rw [K2.out,K3.out]
  refine HP.out.mono ?_
  rintro e w2 ⟨⟨u,rfl⟩,he⟩
  by_cases hz:v=hh*4096
  ·have HR:Hid (Wrote P w1 its (loadL reg v) vg vf vn fr en l w2):=by
    show Wrote _ _ _ _ _ _ _ _ _ _ _
    rw [HL.out,if_pos hz,List.append_nil]
    exact he
   have hzz:(v == hh*4096)=true:=by simpa using hz
   clear he HP HL
   go_wp2_with fail
   exact bodyPost_end (v:=.tuple #[]) (by simp [results,Tryz.results94,go_sem]) rfl ⟨⟨_,rfl⟩,HR.out⟩
  ·have HP2:=hide (putS P _ _ _ _ _ _ _ 12 reg reg 0 (v-hh*4096) w2 he.1 (by simp;omega))
   have HE1:=hide he
   have hzz:(v == hh*4096)=false:=by simpa using hz
   have HLz:Hid (loadL reg v = [insI 1 reg 0 0 (hh % 1048576)]++[insI 12 reg reg 0 (v-hh*4096)]):=by show _=_;rw [HL.out,if_neg hz]
   clear he HP HL
   go_wp2_with fail
   refine HP2.out.mono ?_
   rintro e w3 ⟨⟨u,rfl⟩,he3⟩
   have HR:Hid (Wrote P w1 its (loadL reg v) vg vf vn fr en l w3):=by
    show Wrote _ _ _ _ _ _ _ _ _ _ _
    rw [HLz.out]
    exact HE1.out.trans he3
   clear he3 HP2 HE1 HLz
   go_wp2_with fail
   exact bodyPost_end (v:=.tuple #[]) (by simp [results,Tryz.results94,go_sem]) rfl ⟨⟨_,rfl⟩,HR.out⟩
theorem wrapped_any (v z:Int) (hz:IntKind.i32.wrap v=z) (h1 : -2147483648<=z/\z<=2147483647) (w:World):Calls Tryz.prog 76 #[.int .i64 v] w fun e w'=>e = .returned (.int .i64 z)/\w'=w:=by
 have k1:IntKind.i64.wrap z=z:=by simp [IntKind.wrap,IntKind.bits,IntKind.signed];omega
 go_enter Tryz.func76,Tryz.ntmps76
 go_wp2_with fail
 go_ret
 exact ⟨by simp,rfl⟩
theorem loadNumberI (C:IC) (hC:C.Ok) (w:World) (its:List It) (l:Int) (hG:Gi C w its l) (r v:Int) (hi:its.length<=8999999) (hv : -2147483648<=v/\v<=2147483647) :
  Calls Tryz.prog 47 #[.pointer (some ⟨C.P,0,none⟩),.int .i64 r,.int .i64 v] w fun e w'=>(∃u,e = .returned u)/\Wi C w its (loadL r v) l w':=by
 have HC:=hide hC
 have HG:=hide hG
 clear hC hG
 by_cases h1 : -2048<=v/\v<=2047
 ·have HL:Hid (loadL r v = [insI 12 r 0 0 v]):=by show _=_;unfold loadL;rw [if_pos h1]
  have h1a:=h1.1
  have h1b:=h1.2
  go_enter Tryz.func47,Tryz.ntmps47
  go_wp2_with fail
  refine (combineImmI C HC.out w its l HG.out 12 r 0 v o_).mono ?_
  rintro x w_1 ⟨⟨u,rfl⟩,hw⟩
  have HW:=hide hw
  clear hw
  go_wp2_with fail
  exact bodyPost_ret (v:=.tuple #[]) (by simp [results,Tryz.results47,go_sem]) rfl ⟨⟨_,rfl⟩,by rw [HL.out];exact HW.out⟩
 ·obtain ⟨hh,hhe⟩ : ∃hh,hh=(v+2048) / 4096:=⟨_,rfl⟩
  have hL:loadL r v = [insI 1 r 0 0 (hh % 1048576)]++(if v=hh*4096 then [] else [insI 12 r r 0 (v-hh*4096)]):=by unfold loadL;rw [if_neg h1,hhe]
  have HL:=hide hL
  have hhb : -600000<=hh/\hh<=600000:=by omega
  have k0:IntKind.i64.wrap (v+2048)=v+2048:=by simp [IntKind.wrap,IntKind.bits,IntKind.signed];omega
  have K2:Hid (bits BinOp.and IntKind.i64 ((v+2048) / 4096) 1048575=hh % 1048576):=by show _=_;rw [hhe];exact and_20 _
  obtain ⟨hg,hge⟩ : ∃hg,hg=hh % 1048576:=⟨_,rfl⟩
  have hgb:0<=hg/\hg<=1048575:=by omega
  obtain ⟨low,hlo⟩ : ∃low,low=v-hh*4096:=⟨_,rfl⟩
  have hlb : -2048<=low/\low<=2047:=by omega
  have k3:IntKind.i32.wrap (v-hg*4096)=low:=by simp [IntKind.wrap,IntKind.bits,IntKind.signed];omega
  have k4:IntKind.i64.wrap (hg*4096)=hg*4096:=by simp [IntKind.wrap,IntKind.bits,IntKind.signed];omega
  have k5:IntKind.i64.wrap (v-hg*4096)=v-hg*4096:=by simp [IntKind.wrap,IntKind.bits,IntKind.signed];omega
  rw [<-hge] at HL K2
  rw [<-hlo] at HL
  have HZ:Hid (v=hh*4096↔low=0):=by show _↔_;omega
  have hn1:v < -2048∨2047<v:=by omega
  have HP:=hide (putI C HC.out w its l HG.out 1 r 0 0 hg o_)
  clear hL hhe hge hlo h1
  have main : ∀W:Prop,W->W:=fun _ h=>h
  rcases hn1 with hn | hn
  ·go_enter Tryz.func47,Tryz.ntmps47
   go_wp2_with fail
   rw [K2.out]
   refine HP.out.mono ?_
   rintro x w_1 ⟨⟨u,rfl⟩,hw⟩
   have HW:=hide hw
   clear hw HP
   go_wp2_with fail
   refine (wrapped_any (v-hg*4096) low k3 o_ w_1).mono ?_
   rintro x w_2 ⟨rfl,hw2⟩
   rw [hw2]
   clear hw2
   by_cases hz:low=0
   ·have HE:Hid (loadL r v = [insI 1 r 0 0 hg]):=by show _=_;rw [HL.out,if_pos (HZ.out.2 hz),List.append_nil]
    subst hz
    go_wp2_with fail
    exact bodyPost_end (v:=.tuple #[]) (by simp [results,Tryz.results47,go_sem]) rfl ⟨⟨_,rfl⟩,by rw [HE.out];exact HW.out⟩
   ·have HE:Hid (loadL r v = [insI 1 r 0 0 hg]++[insI 12 r r 0 low]):=by show _=_;rw [HL.out,if_neg (fun e=>hz (HZ.out.1 e))]
    have hz2:(low == 0)=false:=by simpa using hz
    go_wp2_with fail
    refine (combineImmI C HC.out _ _ _ HW.out.gs 12 r r low (by simp;omega)).mono ?_
    rintro x w_3 ⟨⟨u3,rfl⟩,hw3⟩
    have HW3:=hide (HW.out.trans hw3)
    clear hw3
    go_wp2_with fail
    exact bodyPost_end (v:=.tuple #[]) (by simp [results,Tryz.results47,go_sem]) rfl ⟨⟨_,rfl⟩,by rw [HE.out];exact HW3.out⟩
  ·have hn2 : -2048<=v:=by omega
   go_enter Tryz.func47,Tryz.ntmps47
   go_wp2_with fail
   rw [K2.out]
   refine HP.out.mono ?_
   rintro x w_1 ⟨⟨u,rfl⟩,hw⟩
   have HW:=hide hw
   clear hw HP
   go_wp2_with fail
   refine (wrapped_any (v-hg*4096) low k3 o_ w_1).mono ?_
   rintro x w_2 ⟨rfl,hw2⟩
   rw [hw2]
   clear hw2
   by_cases hz:low=0
   ·have HE:Hid (loadL r v = [insI 1 r 0 0 hg]):=by show _=_;rw [HL.out,if_pos (HZ.out.2 hz),List.append_nil]
    subst hz
    go_wp2_with fail
    exact bodyPost_end (v:=.tuple #[]) (by simp [results,Tryz.results47,go_sem]) rfl ⟨⟨_,rfl⟩,by rw [HE.out];exact HW.out⟩
   ·have HE:Hid (loadL r v = [insI 1 r 0 0 hg]++[insI 12 r r 0 low]):=by show _=_;rw [HL.out,if_neg (fun e=>hz (HZ.out.1 e))]
    have hz2:(low == 0)=false:=by simpa using hz
    go_wp2_with fail
    refine (combineImmI C HC.out _ _ _ HW.out.gs 12 r r low (by simp;omega)).mono ?_
    rintro x w_3 ⟨⟨u3,rfl⟩,hw3⟩
    have HW3:=hide (HW.out.trans hw3)
    clear hw3
    go_wp2_with fail
    exact bodyPost_end (v:=.tuple #[]) (by simp [results,Tryz.results47,go_sem]) rfl ⟨⟨_,rfl⟩,by rw [HE.out];exact HW3.out⟩
theorem systemI (C:IC) (hC:C.Ok) (w:World) (its:List It) (l:Int) (hG:Gi C w its l) (what:Int) (hi:its.length<=8999990) (hw : -2048<=what/\what<=2047) :
  Calls Tryz.prog 26 #[.pointer (some ⟨C.P,0,none⟩),.int .i64 what] w fun e w'=>(∃u,e = .returned u)/\Wi C w its ([insI 12 17 0 0 what]++[insI 34 0 0 0 0]) l w':=by
 have HC:=hide hC
 have HG:=hide hG
 have HLo:Hid (loadL 17 what = [insI 12 17 0 0 what]):=by show _=_;unfold loadL;rw [if_pos hw]
 go_enter Tryz.func26,Tryz.ntmps26
 go_wp2_with fail
 refine (loadNumberI C HC.out w its (l) HG.out 17 what o_ o_).mono ?_
 rintro x w_1 ⟨⟨u_1,rfl⟩,hw_1z⟩
 have hw_1:Wi C w its [insI 12 17 0 0 what] (l) w_1:=by rw [<-HLo.out];exact hw_1z
 have HW_1:=hide hw_1
 go_wp2_with fail
 refine (putI C HC.out _ _ _ HW_1.out.gs 34 0 0 0 0 (by simp only [l_a,l_c,l_n] at *;omega)).mono ?_
 rintro x w_2 ⟨⟨u_2,rfl⟩,hw_2⟩
 have HW_2:=hide (HW_1.out.trans hw_2)
 go_wp2_with fail
 exact bodyPost_end (v:=.tuple #[]) (by simp [results,Tryz.results26,go_sem]) rfl ⟨⟨_,rfl⟩,HW_2.out⟩
theorem loadAddressI (C:IC) (hC:C.Ok) (w:World) (its:List It) (l:Int) (hG:Gi C w its l) (s:ByteArray) (hi:its.length<=8999990) (hs:s.size<=maxLen) (hm:s∈C.t.globals.map (·.name))  :
  Calls Tryz.prog 169 #[.pointer (some ⟨C.P,0,none⟩),.string s] w fun e w'=>(∃u,e = .returned u)/\Wi C w its (loadL 31 (C.E.glob s)) l w':=by
 have HC:=hide hC
 have HG:=hide hG
 have p4:w.cell? ⟨C.P,4,none⟩=some (.map (some C.ba)):=HG.out.es.oth 4 (by decide) (by decide)
 have hlk:=HG.out.addr HC.out hs hm
 have hgb:=IC.glob_bd HC.out s
 go_enter Tryz.func169,Tryz.ntmps169
 go_wp2_with fail
 refine (loadNumberI C HC.out w its (l) HG.out 31 (C.E.glob s) o_ o_).mono ?_
 rintro x w_1 ⟨⟨u_1,rfl⟩,hw_1⟩
 have HW_1:=hide hw_1
 go_wp2_with fail
 exact bodyPost_end (v:=.tuple #[]) (by simp [results,Tryz.results169,go_sem]) rfl ⟨⟨_,rfl⟩,HW_1.out⟩
theorem loadElementI (C:IC) (hC:C.Ok) (w:World) (its:List It) (l:Int) (hG:Gi C w its l) (s:ByteArray) (at_:Int) (hi:its.length<=8999980) (hs:s.size<=maxLen) (hm:s∈C.t.globals.map (·.name))  :
  Calls Tryz.prog 139 #[.pointer (some ⟨C.P,0,none⟩),.string s,.int .i64 at_] w fun e w'=>(∃u,e = .returned u)/\Wi C w its ([insI 18 at_ at_ 0 2]++loadL 31 (C.E.glob s)++[insI 21 31 31 at_ 0]) l w':=by
 have HC:=hide hC
 have HG:=hide hG
 have HS:=hide hs
 have HM:=hide hm
 go_enter Tryz.func139,Tryz.ntmps139
 go_wp2_with fail
 refine (combineImmI C HC.out w its (l) HG.out 18 at_ at_ 2 o_).mono ?_
 rintro x w_1 ⟨⟨u_1,rfl⟩,hw_1⟩
 have HW_1:=hide hw_1
 go_wp2_with fail
 refine (loadAddressI C HC.out _ _ _ HW_1.out.gs s (by have r_1:=loadL_len 31 (C.E.glob s);simp only [l_a,l_c,l_n] at *;omega) HS.out HM.out).mono ?_
 rintro x w_2 ⟨⟨u_2,rfl⟩,hw_2⟩
 have HW_2:=hide (HW_1.out.trans hw_2)
 go_wp2_with fail
 refine (combineI C HC.out _ _ _ HW_2.out.gs 21 31 31 at_ (by have r_1:=loadL_len 31 (C.E.glob s);simp only [l_a,l_c,l_n] at *;omega)).mono ?_
 rintro x w_3 ⟨⟨u_3,rfl⟩,hw_3⟩
 have HW_3:=hide (HW_2.out.trans hw_3)
 go_wp2_with fail
 exact bodyPost_end (v:=.tuple #[]) (by simp [results,Tryz.results139,go_sem]) rfl ⟨⟨_,rfl⟩,HW_3.out⟩
theorem locate_loc (C:IC) (hC:C.Ok) (w:World) (its:List It) (l:Int) (hG:Gi C w its l) (s:ByteArray) (hs:s.size<=maxLen) (z:Int) (hz:C.E.loc s=some z) :
  Calls Tryz.prog 168 #[.pointer (some ⟨C.P,0,none⟩),.string s] w fun e w'=>e = .returned (.tuple #[.int .i64 2,.int .i64 z])/\w'=w:=by
 have p0:w.cell? ⟨C.P,0,none⟩=some (.map (some C.bo)):=hG.es.oth 0 (by decide) (by decide)
 have hlk:=hG.loc hC hs hz
 go_enter Tryz.func168,Tryz.ntmps168
 go_wp2_with fail
 exact bodyPost_ret (v:=.tuple #[.int .i64 2,.int .i64 z]) (by simp [results,Tryz.results168,go_sem]) rfl ⟨rfl,rfl⟩
theorem locate_glob (C:IC) (hC:C.Ok) (w:World) (its:List It) (l:Int) (hG:Gi C w its l) (s:ByteArray) (hs:s.size<=maxLen) (hm:s∈C.t.globals.map (·.name)) (hz:C.E.loc s=none) (hi:its.length<=8999980) :
  Calls Tryz.prog 168 #[.pointer (some ⟨C.P,0,none⟩),.string s] w fun e w'=>e = .returned (.tuple #[.int .i64 31,.int .i64 0])/\Wi C w its (loadL 31 (C.E.glob s)) l w':=by
 have p0:w.cell? ⟨C.P,0,none⟩=some (.map (some C.bo)):=hG.es.oth 0 (by decide) (by decide)
 have hlk:=hG.noloc hC hs hz
 have HA:=hide (loadAddressI C hC w its l hG s o_ hs hm)
 go_enter Tryz.func168,Tryz.ntmps168
 go_wp2_with fail
 refine HA.out.mono ?_
 rintro x w1 ⟨⟨u,rfl⟩,hw⟩
 have HW:=hide hw
 go_wp2_with fail
 exact bodyPost_ret (v:=.tuple #[.int .i64 31,.int .i64 0]) (by simp [results,Tryz.results168,go_sem]) rfl ⟨rfl,HW.out⟩
end Go.Proofs.YtnpidjamplmgjaaGreatDoor
