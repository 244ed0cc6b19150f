import Derived.Test.YtnpidjamplmgjaaGreatDoorQ15
import Derived.RegionTactic
import Derived.Deep.RegionHeld3
set_option linter.unusedSectionVars false
variable [Inhabited Go.Proofs.YtnpidjamplmgjaaGreatDoor.Pick]
namespace Go.Proofs.YtnpidjamplmgjaaGreatDoor
open Go.RowKit
set_option linter.unusedVariables false
set_option linter.unusedSimpArgs false
set_option maxRecDepth 100000
set_option maxHeartbeats 16000000
theorem unaryI (C:IC) (hC:C.Ok) (w:World) (its:List It) (l:Int) (hG:Gi C w its l) (op r a:Int) (hi:its.length<=8999990) (h0:0<=op) (h2:op<=2) :
  Calls Tryz.prog 195 #[.pointer (some ⟨C.P,0,none⟩),.int .i64 op,.int .i64 r,.int .i64 a] w fun e w'=>(∃u,e = .returned u)/\Wi C w its (unL op r a) l w':=by
 have HC:=hide hC
 have HG:=hide hG
 have hop:op=0∨op=1∨op=2:=by omega
 rcases hop with rfl | rfl | rfl
 ·clear hC hG
  go_enter Tryz.func195,Tryz.ntmps195
  go_wp2_with fail
  refine (combineI C HC.out w its (l) HG.out 22 r 0 a o_).mono ?_
  rintro x w_1 ⟨⟨u_1,rfl⟩,hw_1⟩
  have HW_1:=hide hw_1
  go_wp2_with fail
  exact bodyPost_end (v:=.tuple #[]) (by simp [results,Tryz.results195,go_sem]) rfl ⟨⟨_,rfl⟩,HW_1.out⟩
 ·clear hC hG
  go_enter Tryz.func195,Tryz.ntmps195
  go_wp2_with fail
  refine (combineImmI C HC.out w its (l) HG.out 14 r a 1 o_).mono ?_
  rintro x w_1 ⟨⟨u_1,rfl⟩,hw_1⟩
  have HW_1:=hide hw_1
  go_wp2_with fail
  exact bodyPost_end (v:=.tuple #[]) (by simp [results,Tryz.results195,go_sem]) rfl ⟨⟨_,rfl⟩,HW_1.out⟩
 ·clear hC hG
  go_enter Tryz.func195,Tryz.ntmps195
  go_wp2_with fail
  refine (combineImmI C HC.out w its (l) HG.out 15 r a (-1) o_).mono ?_
  rintro x w_1 ⟨⟨u_1,rfl⟩,hw_1⟩
  have HW_1:=hide hw_1
  go_wp2_with fail
  exact bodyPost_end (v:=.tuple #[]) (by simp [results,Tryz.results195,go_sem]) rfl ⟨⟨_,rfl⟩,HW_1.out⟩
theorem binaryI (C:IC) (hC:C.Ok) (w:World) (its:List It) (l:Int) (hG:Gi C w its l) (op r a b:Int) (hi:its.length<=8999990) (h0:0<=op) (h15:op<=15) :
  Calls Tryz.prog 196 #[.pointer (some ⟨C.P,0,none⟩),.int .i64 op,.int .i64 r,.int .i64 a,.int .i64 b] w fun e w'=>(∃u,e = .returned u)/\Wi C w its (binL op r a b) l w':=by
 have HC:=hide hC
 have HG:=hide hG
 have hop:op=0∨op=1∨op=2∨op=3∨op=4∨op=5∨op=6∨op=7∨op=8∨op=9∨op=10∨op=11∨op=12∨op=13∨op=14∨op=15:=by omega
 rcases hop with rfl | rfl | rfl | rfl | rfl | rfl | rfl | rfl | rfl | rfl | rfl | rfl | rfl | rfl | rfl | rfl
 ·have hb:w.cell? ⟨3,0,none⟩=some (.int .i64 31):=hG.bin hC 0 (by decide)
  go_enter Tryz.func196,Tryz.ntmps196
  go_wp2_with fail
  refine (combineI C HC.out w its (l) HG.out 31 r a b o_).mono ?_
  rintro x w_1 ⟨⟨u_1,rfl⟩,hw_1⟩
  have HW_1:=hide hw_1
  go_wp2_with fail
  exact bodyPost_end (v:=.tuple #[]) (by simp [results,Tryz.results196,go_sem]) rfl ⟨⟨_,rfl⟩,HW_1.out⟩
 ·have hb:w.cell? ⟨3,1,none⟩=some (.int .i64 32):=hG.bin hC 1 (by decide)
  go_enter Tryz.func196,Tryz.ntmps196
  go_wp2_with fail
  refine (combineI C HC.out w its (l) HG.out 32 r a b o_).mono ?_
  rintro x w_1 ⟨⟨u_1,rfl⟩,hw_1⟩
  have HW_1:=hide hw_1
  go_wp2_with fail
  exact bodyPost_end (v:=.tuple #[]) (by simp [results,Tryz.results196,go_sem]) rfl ⟨⟨_,rfl⟩,HW_1.out⟩
 ·have hb:w.cell? ⟨3,2,none⟩=some (.int .i64 33):=hG.bin hC 2 (by decide)
  go_enter Tryz.func196,Tryz.ntmps196
  go_wp2_with fail
  refine (combineI C HC.out w its (l) HG.out 33 r a b o_).mono ?_
  rintro x w_1 ⟨⟨u_1,rfl⟩,hw_1⟩
  have HW_1:=hide hw_1
  go_wp2_with fail
  exact bodyPost_end (v:=.tuple #[]) (by simp [results,Tryz.results196,go_sem]) rfl ⟨⟨_,rfl⟩,HW_1.out⟩
 ·have hb:w.cell? ⟨3,3,none⟩=some (.int .i64 21):=hG.bin hC 3 (by decide)
  go_enter Tryz.func196,Tryz.ntmps196
  go_wp2_with fail
  refine (combineI C HC.out w its (l) HG.out 21 r a b o_).mono ?_
  rintro x w_1 ⟨⟨u_1,rfl⟩,hw_1⟩
  have HW_1:=hide hw_1
  go_wp2_with fail
  exact bodyPost_end (v:=.tuple #[]) (by simp [results,Tryz.results196,go_sem]) rfl ⟨⟨_,rfl⟩,HW_1.out⟩
 ·have hb:w.cell? ⟨3,4,none⟩=some (.int .i64 22):=hG.bin hC 4 (by decide)
  go_enter Tryz.func196,Tryz.ntmps196
  go_wp2_with fail
  refine (combineI C HC.out w its (l) HG.out 22 r a b o_).mono ?_
  rintro x w_1 ⟨⟨u_1,rfl⟩,hw_1⟩
  have HW_1:=hide hw_1
  go_wp2_with fail
  exact bodyPost_end (v:=.tuple #[]) (by simp [results,Tryz.results196,go_sem]) rfl ⟨⟨_,rfl⟩,HW_1.out⟩
 ·have hb:w.cell? ⟨3,5,none⟩=some (.int .i64 23):=hG.bin hC 5 (by decide)
  go_enter Tryz.func196,Tryz.ntmps196
  go_wp2_with fail
  refine (combineI C HC.out w its (l) HG.out 23 r a b o_).mono ?_
  rintro x w_1 ⟨⟨u_1,rfl⟩,hw_1⟩
  have HW_1:=hide hw_1
  go_wp2_with fail
  exact bodyPost_end (v:=.tuple #[]) (by simp [results,Tryz.results196,go_sem]) rfl ⟨⟨_,rfl⟩,HW_1.out⟩
 ·have hb:w.cell? ⟨3,6,none⟩=some (.int .i64 28):=hG.bin hC 6 (by decide)
  go_enter Tryz.func196,Tryz.ntmps196
  go_wp2_with fail
  refine (combineI C HC.out w its (l) HG.out 28 r a b o_).mono ?_
  rintro x w_1 ⟨⟨u_1,rfl⟩,hw_1⟩
  have HW_1:=hide hw_1
  go_wp2_with fail
  exact bodyPost_end (v:=.tuple #[]) (by simp [results,Tryz.results196,go_sem]) rfl ⟨⟨_,rfl⟩,HW_1.out⟩
 ·clear hC hG
  go_enter Tryz.func196,Tryz.ntmps196
  go_wp2_with fail
  refine (combineI C HC.out w its (l) HG.out 24 r a b o_).mono ?_
  rintro x w_1 ⟨⟨u_1,rfl⟩,hw_1⟩
  have HW_1:=hide hw_1
  go_wp2_with fail
  exact bodyPost_end (v:=.tuple #[]) (by simp [results,Tryz.results196,go_sem]) rfl ⟨⟨_,rfl⟩,HW_1.out⟩
 ·clear hC hG
  go_enter Tryz.func196,Tryz.ntmps196
  go_wp2_with fail
  refine (combineI C HC.out w its (l) HG.out 24 r b a o_).mono ?_
  rintro x w_1 ⟨⟨u_1,rfl⟩,hw_1⟩
  have HW_1:=hide hw_1
  go_wp2_with fail
  refine (combineImmI C HC.out _ _ _ HW_1.out.gs 15 r r 1 (by simp only [l_a,l_c,l_n] at *;omega)).mono ?_
  rintro x w_2 ⟨⟨u_2,rfl⟩,hw_2⟩
  have HW_2:=hide (HW_1.out.trans hw_2)
  go_wp2_with fail
  exact bodyPost_end (v:=.tuple #[]) (by simp [results,Tryz.results196,go_sem]) rfl ⟨⟨_,rfl⟩,HW_2.out⟩
 ·clear hC hG
  go_enter Tryz.func196,Tryz.ntmps196
  go_wp2_with fail
  refine (combineI C HC.out w its (l) HG.out 24 r b a o_).mono ?_
  rintro x w_1 ⟨⟨u_1,rfl⟩,hw_1⟩
  have HW_1:=hide hw_1
  go_wp2_with fail
  exact bodyPost_end (v:=.tuple #[]) (by simp [results,Tryz.results196,go_sem]) rfl ⟨⟨_,rfl⟩,HW_1.out⟩
 ·clear hC hG
  go_enter Tryz.func196,Tryz.ntmps196
  go_wp2_with fail
  refine (combineI C HC.out w its (l) HG.out 24 r a b o_).mono ?_
  rintro x w_1 ⟨⟨u_1,rfl⟩,hw_1⟩
  have HW_1:=hide hw_1
  go_wp2_with fail
  refine (combineImmI C HC.out _ _ _ HW_1.out.gs 15 r r 1 (by simp only [l_a,l_c,l_n] at *;omega)).mono ?_
  rintro x w_2 ⟨⟨u_2,rfl⟩,hw_2⟩
  have HW_2:=hide (HW_1.out.trans hw_2)
  go_wp2_with fail
  exact bodyPost_end (v:=.tuple #[]) (by simp [results,Tryz.results196,go_sem]) rfl ⟨⟨_,rfl⟩,HW_2.out⟩
 ·clear hC hG
  go_enter Tryz.func196,Tryz.ntmps196
  go_wp2_with fail
  refine (combineI C HC.out w its (l) HG.out 22 r a b o_).mono ?_
  rintro x w_1 ⟨⟨u_1,rfl⟩,hw_1⟩
  have HW_1:=hide hw_1
  go_wp2_with fail
  refine (combineImmI C HC.out _ _ _ HW_1.out.gs 14 r r 1 (by simp only [l_a,l_c,l_n] at *;omega)).mono ?_
  rintro x w_2 ⟨⟨u_2,rfl⟩,hw_2⟩
  have HW_2:=hide (HW_1.out.trans hw_2)
  go_wp2_with fail
  exact bodyPost_end (v:=.tuple #[]) (by simp [results,Tryz.results196,go_sem]) rfl ⟨⟨_,rfl⟩,HW_2.out⟩
 ·clear hC hG
  go_enter Tryz.func196,Tryz.ntmps196
  go_wp2_with fail
  refine (combineI C HC.out w its (l) HG.out 22 r a b o_).mono ?_
  rintro x w_1 ⟨⟨u_1,rfl⟩,hw_1⟩
  have HW_1:=hide hw_1
  go_wp2_with fail
  refine (combineI C HC.out _ _ _ HW_1.out.gs 25 r 0 r (by simp only [l_a,l_c,l_n] at *;omega)).mono ?_
  rintro x w_2 ⟨⟨u_2,rfl⟩,hw_2⟩
  have HW_2:=hide (HW_1.out.trans hw_2)
  go_wp2_with fail
  exact bodyPost_end (v:=.tuple #[]) (by simp [results,Tryz.results196,go_sem]) rfl ⟨⟨_,rfl⟩,HW_2.out⟩
 ·have hb:w.cell? ⟨3,13,none⟩=some (.int .i64 30):=hG.bin hC 13 (by decide)
  go_enter Tryz.func196,Tryz.ntmps196
  go_wp2_with fail
  refine (combineI C HC.out w its (l) HG.out 30 r a b o_).mono ?_
  rintro x w_1 ⟨⟨u_1,rfl⟩,hw_1⟩
  have HW_1:=hide hw_1
  go_wp2_with fail
  exact bodyPost_end (v:=.tuple #[]) (by simp [results,Tryz.results196,go_sem]) rfl ⟨⟨_,rfl⟩,HW_1.out⟩
 ·have hb:w.cell? ⟨3,14,none⟩=some (.int .i64 26):=hG.bin hC 14 (by decide)
  go_enter Tryz.func196,Tryz.ntmps196
  go_wp2_with fail
  refine (combineI C HC.out w its (l) HG.out 26 r a b o_).mono ?_
  rintro x w_1 ⟨⟨u_1,rfl⟩,hw_1⟩
  have HW_1:=hide hw_1
  go_wp2_with fail
  exact bodyPost_end (v:=.tuple #[]) (by simp [results,Tryz.results196,go_sem]) rfl ⟨⟨_,rfl⟩,HW_1.out⟩
 ·have hb:w.cell? ⟨3,15,none⟩=some (.int .i64 29):=hG.bin hC 15 (by decide)
  go_enter Tryz.func196,Tryz.ntmps196
  go_wp2_with fail
  refine (combineI C HC.out w its (l) HG.out 29 r a b o_).mono ?_
  rintro x w_1 ⟨⟨u_1,rfl⟩,hw_1⟩
  have HW_1:=hide hw_1
  go_wp2_with fail
  exact bodyPost_end (v:=.tuple #[]) (by simp [results,Tryz.results196,go_sem]) rfl ⟨⟨_,rfl⟩,HW_1.out⟩
theorem as_in_yes (W:World) (v:Value):(Instr.typeAssert (.iface 232 v) 170 232 true).run Tryz.prog W = .ok (.tuple #[v,.bool true]) W:=by kernel_rfl
theorem as_in_no (W:World) (u:TypeId) (v:Value) (h:u≠232):(Instr.typeAssert (.iface u v) 170 232 true).run Tryz.prog W = .ok (.tuple #[.agg #[],.bool false]) W:=by
 have e:(Instr.typeAssert (.iface u v) 170 232 true).run Tryz.prog W=(if u=232 then (pure (Value.tuple #[v,.bool true]):Sem Value) else (do pure (Value.tuple #[<-zeroValue 232,.bool false]))).run Tryz.prog W:=by kernel_rfl
 rw [e,if_neg h]
 show _=_;kernel_rfl
theorem rbq_bel {q P:Nat} {w w':World} (hb:Below w.heap.size w w') (hP:P<w.heap.size):rbq q w' P=rbq q w P:=by
 unfold rbq
 rw [hb.cell (p:=⟨P,q,none⟩) hP]
theorem Em.rlt5 {ti q n P:Nat} {w:World} {its:List It} {c:Nat->Value} (h:Em ti q n P w its c) {k:Nat} (hk:rbq q w P=some k):P<k/\k<w.heap.size:=by
 obtain ⟨v,h1,h2⟩:=h.row
 unfold rbq at hk
 rw [h1] at hk
 have:=World.ownsRow.lt h2 k hk
 omega
theorem Gi.box {C:IC} {w w':World} {its:List It} {l:Int} (hG:Gi C w its l) (o:Obj) {j:Nat} {v:Value} (hc:(w.alloc o).cell? ⟨w.heap.size,j,none⟩=some v) (h:Wq 5 C.P (w.alloc o) w'):w'.cell? ⟨w.heap.size,j,none⟩=some v:=by
 have hp:=hG.es.lt
 have hb:Bl w (w.alloc o):=(Below.refl _ _).alloc (Nat.le_refl _) o
 refine h.cell o_ (fun e => ?_) hc
 rw [rbq_bel hb hp] at e
 have:=hG.es.rlt5 e.symm
 omega
def ExprI (C:IC) (v:Value) (g:Cod) (k:Nat):Prop:=∀(w:World) (its:List It) (l d:Int),Gi C w its l->0<=d->d+7*k<=1000000->0<=l->l+k<=100000000->its.length+24*k<=8000000->Calls Tryz.prog 137 #[.pointer (some ⟨C.P,0,none⟩),v,.int .i64 d] w fun x w'=>(∃u,x = .returned u)/\Wi C w its (g d l).1 (g d l).2 w'
def ValI (C:IC) (v:Value) (g:Cod) (k:Nat):Prop:=∀(w:World) (its:List It) (l d:Int),Gi C w its l->0<=d->d+7*k<=1000000->0<=l->l+k<=100000000->its.length+24*k<=8000000->Calls Tryz.prog 166 #[.pointer (some ⟨C.P,0,none⟩),v,.int .i64 d] w fun x w'=>(∃u,x = .returned u)/\Wi C w its (g d l).1 (g d l).2 w'/\(g d l).1.length<=24*k-1
theorem val_num (C:IC) (hC:C.Ok) (v:Int) (hv : -2147483648<=v/\v<=2147483647):ValI C (.iface 228 (.agg #[.int .i64 v])) (fun d l=>(loadL (regI d 30) v,l)) (1):=by
 intro w its l d hG hd hdl hl0 hl2 hil
 have HC:=hide hC
 have HG:=hide hG
 obtain ⟨W2,hW2⟩ : ∃W2,W2=w.alloc (.cells #[.int .i64 v] 228):=⟨_,rfl⟩
 have hb2:Bl w W2:=by rw [hW2];exact (Below.refl _ _).alloc (Nat.le_refl _) _
 have HG2:Hid (Gi C W2 its l):=HG.out.below hb2
 have HWw:Hid (∀ {new l' w'},Wi C W2 its new l' w'->Wi C w its new l' w'):=fun h=>h.pre (Wq.below HG.out.es.lt hb2)
 have HCl:Hid (∀w',Wq 5 C.P W2 w'->True):=fun w' h=>trivial
 have HW2:=hide hW2
 have y_num:=as_num_yes
 go_enter Tryz.func166,Tryz.ntmps166
 go_wp2_with fail
 refine (target_any C HC.out w its l HG.out d hd).mono ?_
 rintro x w1 ⟨rfl,hw1⟩
 rw [hw1]
 go_wp2_with fail
 rw [<-HW2.out]
 refine (loadNumberI C HC.out W2 its (l) HG2.out (regI d 30) v (by obtain ⟨r_1,r_2,r_3,r_4⟩:=r_l C.E d;have r_5:=loadL_len (regI d 30) v;(try simp only [l_a,l_c,l_n]);omega) hv).mono ?_
 rintro x w_1 ⟨⟨u_1,rfl⟩,hw_1⟩
 have HW_1:=hide hw_1
 go_wp2_with fail
 have HZ:=HWw.out HW_1.out
 refine bodyPost_end (v:=.tuple #[]) (by simp [results,Tryz.results166,go_sem]) rfl ⟨⟨_,rfl⟩,?_⟩
 try simp only [List.append_assoc,List.cons_append,List.nil_append] at HZ ⊢
 exact ⟨HZ,by have r_5:=loadL_len (regI d 30) v;show (loadL (regI d 30) v).length<=_;omega⟩
theorem val_var (C:IC) (hC:C.Ok) (s:ByteArray) (hs:s.size<=maxLen) (hm:C.E.loc s=none->s∈C.t.globals.map (·.name)):ValI C (.iface 230 (.agg #[.string s])) (fun d l=>(varL C.E s (regI d 30),l)) (1):=by
 intro w its l d hG hd hdl hl0 hl2 hil
 have HC:=hide hC
 have HG:=hide hG
 obtain ⟨W2,hW2⟩ : ∃W2,W2=w.alloc (.cells #[.string s] 230):=⟨_,rfl⟩
 have hb2:Bl w W2:=by rw [hW2];exact (Below.refl _ _).alloc (Nat.le_refl _) _
 have HG2:Hid (Gi C W2 its l):=HG.out.below hb2
 have HWw:Hid (∀ {new l' w'},Wi C W2 its new l' w'->Wi C w its new l' w'):=fun h=>h.pre (Wq.below HG.out.es.lt hb2)
 have HCl:Hid (∀w',Wq 5 C.P W2 w'->True):=fun w' h=>trivial
 have HW2:=hide hW2
 have y_num:=fun W v=>as_num_no W 230 v (by decide)
 have y_var:=as_var_yes
 clear hW2 hb2 hC hG
 have HS:=hide hs
 have HM:=hide hm
 clear hs hm
 go_enter Tryz.func166,Tryz.ntmps166
 go_wp2_with fail
 refine (target_any C HC.out w its l HG.out d hd).mono ?_
 rintro x w1 ⟨rfl,hw1⟩
 rw [hw1]
 clear hw1
 go_wp2_with fail
 rw [<-HW2.out]
 cases hloc:C.E.loc s with
 | some z=>
  refine (locate_loc C HC.out W2 its l HG2.out s HS.out z hloc).mono ?_
  rintro x w0 ⟨rfl,hw0⟩
  rw [hw0]
  clear hw0
  have HV:Hid (varL C.E s (regI d 30) = [insI 10 (regI d 30) 2 0 z]):=by show _=_;simp [varL,hloc]
  go_wp2_with fail
  refine (loadWordI C HC.out W2 its (l) HG2.out (regI d 30) 2 z (by obtain ⟨r_1,r_2,r_3,r_4⟩:=r_l C.E d;(try simp only [l_a,l_c,l_n]);omega)).mono ?_
  rintro x w_1 ⟨⟨u_1,rfl⟩,hw_1⟩
  have HW_1:=hide hw_1
  clear hw_1
  go_wp2_with fail
  have HZ:=HWw.out HW_1.out
  refine bodyPost_end (v:=.tuple #[]) (by simp [results,Tryz.results166,go_sem]) rfl ⟨⟨_,rfl⟩,?_⟩
  simp only [HV.out]
  try simp only [List.append_assoc,List.cons_append,List.nil_append] at HZ ⊢
  exact ⟨HZ,by simp⟩
 | none=>
  refine (locate_glob C HC.out W2 its l HG2.out s HS.out (HM.out hloc) hloc o_).mono ?_
  rintro x w_1 ⟨rfl,hw_1⟩
  have HW_1:=hide hw_1
  clear hw_1
  have HV:Hid (varL C.E s (regI d 30)=loadL 31 (C.E.glob s)++[insI 10 (regI d 30) 31 0 0]):=by show _=_;simp [varL,hloc]
  go_wp2_with fail
  refine (loadWordI C HC.out _ _ _ HW_1.out.gs (regI d 30) 31 0 (by obtain ⟨r_1,r_2,r_3,r_4⟩:=r_l C.E d;have r_5:=loadL_len 31 (C.E.glob s);(try simp only [l_a,l_c,l_n]);omega)).mono ?_
  rintro x w_2 ⟨⟨u_2,rfl⟩,hw_2⟩
  have HW_2:=hide (HW_1.out.trans hw_2)
  clear hw_2
  go_wp2_with fail
  have HZ:=HWw.out HW_2.out
  refine bodyPost_end (v:=.tuple #[]) (by simp [results,Tryz.results166,go_sem]) rfl ⟨⟨_,rfl⟩,?_⟩
  simp only [HV.out]
  try simp only [List.append_assoc,List.cons_append,List.nil_append] at HZ ⊢
  exact ⟨HZ,by have r_5:=loadL_len 31 (C.E.glob s);simp;omega⟩
theorem val_index (C:IC) (hC:C.Ok) (s:ByteArray) (t0:TypeId) (y0:Value) (g0:Cod) (k0:Nat) (hx0:ExprI C (.iface t0 y0) g0 k0) (hb0:CB k0 g0) (hs:s.size<=maxLen) (hm:s∈C.t.globals.map (·.name)):ValI C (.iface 215 (.agg #[.string s,.iface t0 y0])) (fun d l=>((g0 d l).1++readL C.E d 30++([insI 18 (regI d 30) (regI d 30) 0 2]++loadL 31 (C.E.glob s)++[insI 21 31 31 (regI d 30) 0])++[insI 10 (regI d 30) 31 0 0],(g0 d l).2)) (k0+1):=by
 intro w its l d hG hd hdl hl0 hl2 hil
 have HC:=hide hC
 have HG:Hid (Gi C w its l):=hG
 obtain ⟨W2,hW2⟩ : ∃W2,W2=w.alloc (.cells #[.string s,.iface t0 y0] 215):=⟨_,rfl⟩
 have hb2:Bl w W2:=by rw [hW2];exact (Below.refl _ _).alloc (Nat.le_refl _) _
 have HG2:Hid (Gi C W2 its l):=HG.out.below hb2
 have HWw:Hid (∀ {new l' w'},Wi C W2 its new l' w'->Wi C w its new l' w'):=fun h=>h.pre (Wq.below HG.out.es.lt hb2)
 have HCl:Hid (∀w',Wq 5 C.P W2 w'->(w'.cell? ⟨w.heap.size,0,none⟩=some (.string s))):=fun w' h=>HG.out.box (.cells #[.string s,.iface t0 y0] 215) (by simp) (by rw [<-hW2];exact h)
 have HW2:=hide hW2
 have y_num:=fun W v=>as_num_no W 215 v (by decide)
 have y_var:=fun W v=>as_var_no W 215 v (by decide)
 have y_index:=as_index_yes
 clear hW2 hb2 hC hG
 have HS:=hide hs
 have HM:=hide hm
 obtain ⟨q0a,q0b,q0c⟩:=hb0 (d) (l)
 obtain ⟨c0,m0,hG0⟩ : ∃c m,g0 (d) (l)=(c,m):=⟨_,_,rfl⟩
 rw [hG0] at q0a q0b q0c
 simp only at q0a q0b q0c
 have HC0:Hid (∀(W:World) (its':List It),Gi C W its' (l)->its'.length+24*k0<=8000000->Calls Tryz.prog 137 #[.pointer (some ⟨C.P,0,none⟩),.iface t0 y0,.int .i64 (d)] W fun x w'=>(∃u,x = .returned u)/\Wi C W its' c0 m0 w'):=fun W its' hg hln=>by
  have:=hx0 W its' (l) (d) hg o_ o_ o_ o_ hln
  rw [hG0] at this
  exact this
 clear hx0 hb0 hs hm
 go_enter Tryz.func166,Tryz.ntmps166
 go_wp2_with fail
 refine (target_any C HC.out w its l HG.out d hd).mono ?_
 rintro x w1 ⟨rfl,hw1⟩
 rw [hw1]
 clear hw1
 go_wp2_with fail
 rw [<-HW2.out]
 refine (HC0.out W2 its HG2.out (by obtain ⟨r_1,r_2,r_3,r_4⟩:=r_l C.E d;have r_5:=loadL_len 31 (C.E.glob s);(try simp only [l_a,l_c,l_n]);omega)).mono ?_
 rintro x w_1 ⟨⟨u_1,rfl⟩,hw_1⟩
 have HW_1:=hide hw_1
 clear hw_1
 have HRd:Hid (Calls Tryz.prog 194 #[.pointer (some ⟨C.P,0,none⟩),.int .i64 d,.int .i64 30] w_1.drew fun e w'=>e = .returned (.int .i64 (regI d 30))/\Wi C W2 its (c0++readL C.E d 30) (m0) w'/\w'.cell? ⟨w.heap.size,0,none⟩=some (.string s)):=by
  refine (readI C HC.out w_1.drew (its++(c0)) (m0) (HW_1.out.gs.below (Below.refl _ _).drew) d 30 (by obtain ⟨r_1,r_2,r_3,r_4⟩:=r_l C.E d;have r_5:=loadL_len 31 (C.E.glob s);(try simp only [l_a,l_c,l_n]);omega) o_ o_).mono ?_
  rintro e w' ⟨he,h2⟩
  have h3:=HW_1.out.trans (Wi.preB HW_1.out.gs (Below.refl _ _).drew h2)
  exact ⟨he,h3,(HCl.out w' h3.wq)⟩
 have HLe:Hid (∀W,Wi C W2 its (c0++readL C.E d 30) (m0) W->Calls Tryz.prog 139 #[.pointer (some ⟨C.P,0,none⟩),.string s,.int .i64 (regI d 30)] W fun e w'=>(∃u,e = .returned u)/\Wi C W2 its (c0++readL C.E d 30++([insI 18 (regI d 30) (regI d 30) 0 2]++loadL 31 (C.E.glob s)++[insI 21 31 31 (regI d 30) 0])) (m0) w'/\w'.cell? ⟨w.heap.size,0,none⟩=some (.string s)):=fun W hW=>by
  refine (loadElementI C HC.out W (its++(c0++readL C.E d 30)) (m0) hW.gs s (regI d 30) (by obtain ⟨r_1,r_2,r_3,r_4⟩:=r_l C.E d;have r_5:=loadL_len 31 (C.E.glob s);(try simp only [l_a,l_c,l_n]);omega) HS.out HM.out).mono ?_
  rintro e w' ⟨hu,h2⟩
  have h3:=hW.trans h2
  exact ⟨hu,h3,(HCl.out w' h3.wq)⟩
 have h0:w_1.drew.cell? ⟨w.heap.size,0,none⟩=some (.string s):=(HCl.out w_1 HW_1.out.wq)
 go_wp2_with fail
 go_region_held3 (fun W=>W.cell? ⟨w.heap.size,0,none⟩=some (.string s)) (go_simp) (first | (with_reducible refine Calls.mono HRd.out ?_;rintro x wg ⟨rfl,hwg,z0⟩) | (with_reducible refine Calls.mono (HLe.out wg hwg) ?_;rintro x wl ⟨⟨ul,rfl⟩,hwl,z1⟩))
 have HW_2:=hide hwl
 clear hwl hwg z0 z1 h0 HRd HLe
 go_wp2_with fail
 refine (loadWordI C HC.out _ _ _ HW_2.out.gs (regI d 30) 31 0 (by obtain ⟨r_1,r_2,r_3,r_4⟩:=r_l C.E d;have r_5:=loadL_len 31 (C.E.glob s);(try simp only [l_a,l_c,l_n]);omega)).mono ?_
 rintro x w_3 ⟨⟨u_3,rfl⟩,hw_3⟩
 have HW_3:=hide (HW_2.out.trans hw_3)
 clear hw_3
 go_wp2_with fail
 have HZ:=HWw.out HW_3.out
 refine bodyPost_end (v:=.tuple #[]) (by simp [results,Tryz.results166,go_sem]) rfl ⟨⟨_,rfl⟩,?_⟩
 simp only [hG0]
 try simp only [List.append_assoc,List.cons_append,List.nil_append] at HZ ⊢
 exact ⟨HZ,by obtain ⟨r_1,r_2,r_3,r_4⟩:=r_l C.E d;have r_5:=loadL_len 31 (C.E.glob s);simp only [l_a,l_c,l_n];omega⟩
theorem val_un (C:IC) (hC:C.Ok) (op:Int) (t0:TypeId) (y0:Value) (g0:Cod) (k0:Nat) (hx0:ExprI C (.iface t0 y0) g0 k0) (hb0:CB k0 g0) (h0:0<=op) (h2:op<=2):ValI C (.iface 217 (.agg #[.int .i64 op,.iface t0 y0])) (fun d l=>((g0 d l).1++readL C.E d 30++unL op (regI d 30) (regI d 30),(g0 d l).2)) (k0+1):=by
 intro w its l d hG hd hdl hl0 hl2 hil
 have HC:=hide hC
 have HG:Hid (Gi C w its l):=hG
 obtain ⟨W2,hW2⟩ : ∃W2,W2=w.alloc (.cells #[.int .i64 op,.iface t0 y0] 217):=⟨_,rfl⟩
 have hb2:Bl w W2:=by rw [hW2];exact (Below.refl _ _).alloc (Nat.le_refl _) _
 have HG2:Hid (Gi C W2 its l):=HG.out.below hb2
 have HWw:Hid (∀ {new l' w'},Wi C W2 its new l' w'->Wi C w its new l' w'):=fun h=>h.pre (Wq.below HG.out.es.lt hb2)
 have HCl:Hid (∀w',Wq 5 C.P W2 w'->(w'.cell? ⟨w.heap.size,0,none⟩=some (.int .i64 op))):=fun w' h=>HG.out.box (.cells #[.int .i64 op,.iface t0 y0] 217) (by simp) (by rw [<-hW2];exact h)
 have HW2:=hide hW2
 have y_num:=fun W v=>as_num_no W 217 v (by decide)
 have y_var:=fun W v=>as_var_no W 217 v (by decide)
 have y_index:=fun W v=>as_index_no W 217 v (by decide)
 have y_un:=as_un_yes
 clear hW2 hb2 hC hG
 obtain ⟨q0a,q0b,q0c⟩:=hb0 (d) (l)
 obtain ⟨c0,m0,hG0⟩ : ∃c m,g0 (d) (l)=(c,m):=⟨_,_,rfl⟩
 rw [hG0] at q0a q0b q0c
 simp only at q0a q0b q0c
 have HC0:Hid (∀(W:World) (its':List It),Gi C W its' (l)->its'.length+24*k0<=8000000->Calls Tryz.prog 137 #[.pointer (some ⟨C.P,0,none⟩),.iface t0 y0,.int .i64 (d)] W fun x w'=>(∃u,x = .returned u)/\Wi C W its' c0 m0 w'):=fun W its' hg hln=>by
  have:=hx0 W its' (l) (d) hg o_ o_ o_ o_ hln
  rw [hG0] at this
  exact this
 clear hx0 hb0
 go_enter Tryz.func166,Tryz.ntmps166
 go_wp2_with fail
 refine (target_any C HC.out w its l HG.out d hd).mono ?_
 rintro x w1 ⟨rfl,hw1⟩
 rw [hw1]
 clear hw1
 go_wp2_with fail
 rw [<-HW2.out]
 refine (HC0.out W2 its HG2.out (by obtain ⟨r_1,r_2,r_3,r_4⟩:=r_l C.E d;have r_5:=unL_len op (regI d 30) (regI d 30);(try simp only [l_a,l_c,l_n]);omega)).mono ?_
 rintro x w_1 ⟨⟨u_1,rfl⟩,hw_1⟩
 have HW_1:=hide hw_1
 clear hw_1
 have HRd:Hid (Calls Tryz.prog 194 #[.pointer (some ⟨C.P,0,none⟩),.int .i64 d,.int .i64 30] w_1.drew fun e w'=>e = .returned (.int .i64 (regI d 30))/\Wi C W2 its (c0++readL C.E d 30) (m0) w'/\w'.cell? ⟨w.heap.size,0,none⟩=some (.int .i64 op)):=by
  refine (readI C HC.out w_1.drew (its++(c0)) (m0) (HW_1.out.gs.below (Below.refl _ _).drew) d 30 (by obtain ⟨r_1,r_2,r_3,r_4⟩:=r_l C.E d;have r_5:=unL_len op (regI d 30) (regI d 30);(try simp only [l_a,l_c,l_n]);omega) o_ o_).mono ?_
  rintro e w' ⟨he,h2⟩
  have h3:=HW_1.out.trans (Wi.preB HW_1.out.gs (Below.refl _ _).drew h2)
  exact ⟨he,h3,(HCl.out w' h3.wq)⟩
 have HLe:Hid (∀W,Wi C W2 its (c0++readL C.E d 30) (m0) W->Calls Tryz.prog 195 #[.pointer (some ⟨C.P,0,none⟩),.int .i64 op,.int .i64 (regI d 30),.int .i64 (regI d 30)] W fun e w'=>(∃u,e = .returned u)/\Wi C W2 its (c0++readL C.E d 30++unL op (regI d 30) (regI d 30)) (m0) w'/\w'.cell? ⟨w.heap.size,0,none⟩=some (.int .i64 op)):=fun W hW=>by
  refine (unaryI C HC.out W (its++(c0++readL C.E d 30)) (m0) hW.gs op (regI d 30) (regI d 30) (by obtain ⟨r_1,r_2,r_3,r_4⟩:=r_l C.E d;have r_5:=unL_len op (regI d 30) (regI d 30);(try simp only [l_a,l_c,l_n]);omega) h0 h2).mono ?_
  rintro e w' ⟨hu,h2⟩
  have h3:=hW.trans h2
  exact ⟨hu,h3,(HCl.out w' h3.wq)⟩
 have h0z:w_1.drew.cell? ⟨w.heap.size,0,none⟩=some (.int .i64 op):=(HCl.out w_1 HW_1.out.wq)
 go_wp2_with fail
 go_region_held3 (fun W=>W.cell? ⟨w.heap.size,0,none⟩=some (.int .i64 op)) (go_simp) (first | (with_reducible refine Calls.mono HRd.out ?_;rintro x wg ⟨rfl,hwg,z0⟩) | (with_reducible refine Calls.mono (HLe.out wg hwg) ?_;rintro x wl ⟨⟨ul,rfl⟩,hwl,z1⟩))
 have HW_2:=hide hwl
 clear hwl hwg z0 z1 h0z HRd HLe
 go_wp2_with fail
 have HZ:=HWw.out HW_2.out
 refine bodyPost_end (v:=.tuple #[]) (by simp [results,Tryz.results166,go_sem]) rfl ⟨⟨_,rfl⟩,?_⟩
 simp only [hG0]
 try simp only [List.append_assoc,List.cons_append,List.nil_append] at HZ ⊢
 exact ⟨HZ,by obtain ⟨r_1,r_2,r_3,r_4⟩:=r_l C.E d;have r_5:=unL_len op (regI d 30) (regI d 30);simp only [l_a,l_c,l_n];omega⟩
theorem val_bin (C:IC) (hC:C.Ok) (op:Int) (t0 t1:TypeId) (y0 y1:Value) (g0 g1:Cod) (k0 k1:Nat) (hx0:ExprI C (.iface t0 y0) g0 k0) (hb0:CB k0 g0) (hx1:ExprI C (.iface t1 y1) g1 k1) (hb1:CB k1 g1) (h0:0<=op) (h15:op<=15):ValI C (.iface 219 (.agg #[.int .i64 op,.iface t0 y0,.iface t1 y1])) (fun d l=>((g0 d l).1++(g1 (d+1) (g0 d l).2).1++readL C.E d 30++readL C.E (d+1) 31++binL op (regI d 30) (regI d 30) (regI (d+1) 31),(g1 (d+1) (g0 d l).2).2)) (k0+k1+1):=by
 intro w its l d hG hd hdl hl0 hl2 hil
 have HC:=hide hC
 have HG:=hide hG
 obtain ⟨W2,hW2⟩ : ∃W2,W2=w.alloc (.cells #[.int .i64 op,.iface t0 y0,.iface t1 y1] 219):=⟨_,rfl⟩
 have hb2:Bl w W2:=by rw [hW2];exact (Below.refl _ _).alloc (Nat.le_refl _) _
 have HG2:Hid (Gi C W2 its l):=HG.out.below hb2
 have HWw:Hid (∀ {new l' w'},Wi C W2 its new l' w'->Wi C w its new l' w'):=fun h=>h.pre (Wq.below HG.out.es.lt hb2)
 have HCl:Hid (∀w',Wq 5 C.P W2 w'->(w'.cell? ⟨w.heap.size,0,none⟩=some (.int .i64 op))/\(w'.cell? ⟨w.heap.size,2,none⟩=some (.iface t1 y1))):=fun w' h=>⟨HG.out.box (.cells #[.int .i64 op,.iface t0 y0,.iface t1 y1] 219) (by simp) (by rw [<-hW2];exact h),HG.out.box (.cells #[.int .i64 op,.iface t0 y0,.iface t1 y1] 219) (by simp) (by rw [<-hW2];exact h)⟩
 have HW2:=hide hW2
 have y_num:=fun W v=>as_num_no W 219 v (by decide)
 have y_var:=fun W v=>as_var_no W 219 v (by decide)
 have y_index:=fun W v=>as_index_no W 219 v (by decide)
 have y_un:=fun W v=>as_un_no W 219 v (by decide)
 have y_bin:=as_bin_yes
 obtain ⟨q0a,q0b,q0c⟩:=hb0 (d) (l)
 obtain ⟨c0,m0,hG0⟩ : ∃c m,g0 (d) (l)=(c,m):=⟨_,_,rfl⟩
 rw [hG0] at q0a q0b q0c
 simp only at q0a q0b q0c
 have HC0:Hid (∀(W:World) (its':List It),Gi C W its' (l)->its'.length+24*k0<=8000000->Calls Tryz.prog 137 #[.pointer (some ⟨C.P,0,none⟩),.iface t0 y0,.int .i64 (d)] W fun x w'=>(∃u,x = .returned u)/\Wi C W its' c0 m0 w'):=fun W its' hg hln=>by
  have:=hx0 W its' (l) (d) hg o_ o_ o_ o_ hln
  rw [hG0] at this
  exact this
 obtain ⟨q1a,q1b,q1c⟩:=hb1 (d+1) (m0)
 obtain ⟨c1,m1,hG1⟩ : ∃c m,g1 (d+1) (m0)=(c,m):=⟨_,_,rfl⟩
 rw [hG1] at q1a q1b q1c
 simp only at q1a q1b q1c
 have HC1:Hid (∀(W:World) (its':List It),Gi C W its' (m0)->its'.length+24*k1<=8000000->Calls Tryz.prog 137 #[.pointer (some ⟨C.P,0,none⟩),.iface t1 y1,.int .i64 (d+1)] W fun x w'=>(∃u,x = .returned u)/\Wi C W its' c1 m1 w'):=fun W its' hg hln=>by
  have:=hx1 W its' (m0) (d+1) hg o_ o_ o_ o_ hln
  rw [hG1] at this
  exact this
 have hwd:IntKind.i64.wrap (d+1)=d+1:=by simp [IntKind.wrap,IntKind.bits,IntKind.signed];omega
 go_enter Tryz.func166,Tryz.ntmps166
 go_wp2_with fail
 refine (target_any C HC.out w its l HG.out d hd).mono ?_
 rintro x w1 ⟨rfl,hw1⟩
 rw [hw1]
 go_wp2_with fail
 rw [<-HW2.out]
 refine (HC0.out W2 its HG2.out (by obtain ⟨r_1,r_2,r_3,r_4⟩:=r_l C.E d;have r_5:=binL_len op (regI d 30) (regI d 30) (regI (d+1) 31);(try simp only [l_a,l_c,l_n]);omega)).mono ?_
 rintro x w_1 ⟨⟨u_1,rfl⟩,hw_1⟩
 have HW_1:=hide hw_1
 obtain ⟨e0,e2⟩:=HCl.out w_1 HW_1.out.wq
 go_wp2_with fail
 refine (HC1.out _ _ HW_1.out.gs (by obtain ⟨r_1,r_2,r_3,r_4⟩:=r_l C.E d;have r_5:=binL_len op (regI d 30) (regI d 30) (regI (d+1) 31);(try simp only [l_a,l_c,l_n]);omega)).mono ?_
 rintro x w_2 ⟨⟨u_2,rfl⟩,hw_2⟩
 have HW_2:Hid (Wi C W2 its (c0++c1) (m1) w_2):=HW_1.out.trans hw_2
 go_wp2_with fail
 refine (readI C HC.out _ _ _ HW_2.out.gs d 30 (by obtain ⟨r_1,r_2,r_3,r_4⟩:=r_l C.E d;have r_5:=binL_len op (regI d 30) (regI d 30) (regI (d+1) 31);(try simp only [l_a,l_c,l_n]);omega) o_ o_).mono ?_
 rintro x w_3 ⟨rfl,hw_3⟩
 have HW_3:Hid (Wi C W2 its (c0++c1++readL C.E d 30) (m1) w_3):=HW_2.out.trans hw_3
 go_wp2_with fail
 refine (readI C HC.out _ _ _ HW_3.out.gs (d+1) 31 (by obtain ⟨r_1,r_2,r_3,r_4⟩:=r_l C.E d;have r_5:=binL_len op (regI d 30) (regI d 30) (regI (d+1) 31);(try simp only [l_a,l_c,l_n]);omega) o_ o_).mono ?_
 rintro x w_4 ⟨rfl,hw_4⟩
 have HW_4:=hide (HW_3.out.trans hw_4)
 obtain ⟨e0,e2⟩:=HCl.out w_4 HW_4.out.wq
 go_wp2_with fail
 refine (binaryI C HC.out _ _ _ HW_4.out.gs op (regI d 30) (regI d 30) (regI (d+1) 31) (by obtain ⟨r_1,r_2,r_3,r_4⟩:=r_l C.E d;have r_5:=binL_len op (regI d 30) (regI d 30) (regI (d+1) 31);(try simp only [l_a,l_c,l_n]);omega) h0 h15).mono ?_
 rintro x w_5 ⟨⟨u_5,rfl⟩,hw_5⟩
 have HW_5:=hide (HW_4.out.trans hw_5)
 go_wp2_with fail
 have HZ:=HWw.out HW_5.out
 refine bodyPost_end (v:=.tuple #[]) (by simp [results,Tryz.results166,go_sem]) rfl ⟨⟨_,rfl⟩,?_⟩
 simp only [hG0,hG1]
 try simp only [List.append_assoc,List.cons_append,List.nil_append] at HZ ⊢
 exact ⟨HZ,by obtain ⟨r_1,r_2,r_3,r_4⟩:=r_l C.E d;have r_5:=binL_len op (regI d 30) (regI d 30) (regI (d+1) 31);simp only [l_a,l_c,l_n];omega⟩
end Go.Proofs.YtnpidjamplmgjaaGreatDoor
