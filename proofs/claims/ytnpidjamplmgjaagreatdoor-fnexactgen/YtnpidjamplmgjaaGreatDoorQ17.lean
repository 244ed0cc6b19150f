import Derived.Test.YtnpidjamplmgjaaGreatDoorQ16
import Derived.RegionTactic
import Derived.Deep.RegionHeld3
set_option linter.unusedSectionVars false
variable [Inhabited Go.Proofs.YtnpidjamplmgjaaGreatDoor.Pick]
namespace Go.Proofs.YtnpidjamplmgjaaGreatDoor
open Go.RowKit
set_option linter.unusedVariables false
set_option linter.unusedSimpArgs false
set_option maxRecDepth 100000
set_option maxHeartbeats 16000000
theorem choiceI (C:IC) (hC:C.Ok) (op:Int) (t0 t1:TypeId) (y0 y1:Value) (g0 g1:Cod) (k0 k1:Nat) (hx0:ExprI C (.iface t0 y0) g0 k0) (hb0:CB k0 g0) (hx1:ExprI C (.iface t1 y1) g1 k1) (hb1:CB k1 g1) (w:World) (its:List It) (l d:Int) (hG:Gi C w its l) (hd:0<=d) (hdl:d+7*(k0+k1+1:Nat)<=1000000) (hl0:0<=l) (hl2:l+(k0+k1+1:Nat)<=100000000) (hil:its.length+24*(k0+k1+1)<=8000000) :
  Calls Tryz.prog 197 #[.pointer (some ⟨C.P,0,none⟩),.int .i64 op,.iface t0 y0,.iface t1 y1,.int .i64 d] w fun x w'=>(∃u,x = .returned u)/\Wi C w its (((g0 d (l+1)).1++readL C.E d 30++[branI op (regI d 30) l]++(g1 d (g0 d (l+1)).2).1++[markI 2 l]++readL C.E d 30++[insI 25 (regI d 30) 0 (regI d 30) 0],(g1 d (g0 d (l+1)).2).2)).1 (((g0 d (l+1)).1++readL C.E d 30++[branI op (regI d 30) l]++(g1 d (g0 d (l+1)).2).1++[markI 2 l]++readL C.E d 30++[insI 25 (regI d 30) 0 (regI d 30) 0],(g1 d (g0 d (l+1)).2).2)).2 w'/\(((g0 d (l+1)).1++readL C.E d 30++[branI op (regI d 30) l]++(g1 d (g0 d (l+1)).2).1++[markI 2 l]++readL C.E d 30++[insI 25 (regI d 30) 0 (regI d 30) 0],(g1 d (g0 d (l+1)).2).2)).1.length<=24*(k0+k1+1)-1:=by
 have HC:=hide hC
 have HG:=hide hG
 obtain ⟨q0a,q0b,q0c⟩:=hb0 (d) (l+1)
 obtain ⟨c0,m0,hG0⟩ : ∃c m,g0 (d) (l+1)=(c,m):=⟨_,_,rfl⟩
 rw [hG0] at q0a q0b q0c
 simp only at q0a q0b q0c
 have HC0:Hid (∀(W:World) (its':List It),Gi C W its' (l+1)->its'.length+24*k0<=8000000->Calls Tryz.prog 137 #[.pointer (some ⟨C.P,0,none⟩),.iface t0 y0,.int .i64 (d)] W fun x w'=>(∃u,x = .returned u)/\Wi C W its' c0 m0 w'):=fun W its' hg hln=>by
  have:=hx0 W its' (l+1) (d) hg o_ o_ o_ o_ hln
  rw [hG0] at this
  exact this
 obtain ⟨q1a,q1b,q1c⟩:=hb1 (d) (m0)
 obtain ⟨c1,m1,hG1⟩ : ∃c m,g1 (d) (m0)=(c,m):=⟨_,_,rfl⟩
 rw [hG1] at q1a q1b q1c
 simp only at q1a q1b q1c
 have HC1:Hid (∀(W:World) (its':List It),Gi C W its' (m0)->its'.length+24*k1<=8000000->Calls Tryz.prog 137 #[.pointer (some ⟨C.P,0,none⟩),.iface t1 y1,.int .i64 (d)] W fun x w'=>(∃u,x = .returned u)/\Wi C W its' c1 m1 w'):=fun W its' hg hln=>by
  have:=hx1 W its' (m0) (d) hg o_ o_ o_ o_ hln
  rw [hG1] at this
  exact this
 go_enter Tryz.func197,Tryz.ntmps197
 go_wp2_with fail
 refine (labI C HC.out w its (l) HG.out o_).mono ?_
 rintro x w_1 ⟨rfl,hw_1⟩
 have HW_1:=hide hw_1
 go_wp2_with fail
 refine (HC0.out _ _ HW_1.out.gs (by obtain ⟨r_1,r_2,r_3,r_4⟩:=r_l C.E d;(try simp only [l_a,l_c,l_n]);omega)).mono ?_
 rintro x w_2 ⟨⟨u_2,rfl⟩,hw_2⟩
 have HW_2:Hid (Wi C w its ([]++c0) (m0) w_2):=HW_1.out.trans hw_2
 go_wp2_with fail
 refine (readI C HC.out _ _ _ HW_2.out.gs d 30 (by obtain ⟨r_1,r_2,r_3,r_4⟩:=r_l C.E d;(try simp only [l_a,l_c,l_n]);omega) o_ o_).mono ?_
 rintro x w_3 ⟨rfl,hw_3⟩
 have HW_3:Hid (Wi C w its ([]++c0++readL C.E d 30) (m0) w_3):=HW_2.out.trans hw_3
 go_wp2_with fail
 refine (branI_any C HC.out _ _ _ HW_3.out.gs op (regI d 30) l (by obtain ⟨r_1,r_2,r_3,r_4⟩:=r_l C.E d;(try simp only [l_a,l_c,l_n]);omega)).mono ?_
 rintro x w_4 ⟨⟨u_4,rfl⟩,hw_4⟩
 have HW_4:=hide (HW_3.out.trans hw_4)
 go_wp2_with fail
 refine (HC1.out _ _ HW_4.out.gs (by obtain ⟨r_1,r_2,r_3,r_4⟩:=r_l C.E d;(try simp only [l_a,l_c,l_n]);omega)).mono ?_
 rintro x w_5 ⟨⟨u_5,rfl⟩,hw_5⟩
 have HW_5:=hide (HW_4.out.trans hw_5)
 go_wp2_with fail
 refine (markI_any C HC.out _ _ _ HW_5.out.gs 2 l (by obtain ⟨r_1,r_2,r_3,r_4⟩:=r_l C.E d;(try simp only [l_a,l_c,l_n]);omega)).mono ?_
 rintro x w_6 ⟨⟨u_6,rfl⟩,hw_6⟩
 have HW_6:=hide (HW_5.out.trans hw_6)
 go_wp2_with fail
 refine (readI C HC.out _ _ _ HW_6.out.gs d 30 (by obtain ⟨r_1,r_2,r_3,r_4⟩:=r_l C.E d;(try simp only [l_a,l_c,l_n]);omega) o_ o_).mono ?_
 rintro x w_7 ⟨rfl,hw_7⟩
 have HW_7:=hide (HW_6.out.trans hw_7)
 go_wp2_with fail
 refine (target_any C HC.out _ _ _ HW_7.out.gs d hd).mono ?_
 rintro x w0 ⟨rfl,hw0⟩
 rw [hw0]
 go_wp2_with fail
 refine (combineI C HC.out _ _ _ HW_7.out.gs 25 (regI d 30) 0 (regI d 30) (by obtain ⟨r_1,r_2,r_3,r_4⟩:=r_l C.E d;(try simp only [l_a,l_c,l_n]);omega)).mono ?_
 rintro x w_8 ⟨⟨u_8,rfl⟩,hw_8⟩
 have HW_8:=hide (HW_7.out.trans hw_8)
 go_wp2_with fail
 have HZ:=HW_8.out
 refine bodyPost_end (v:=.tuple #[]) (by simp [results,Tryz.results197,go_sem]) rfl ⟨⟨_,rfl⟩,?_⟩
 simp only [hG0,hG1]
 simp only [List.append_assoc,List.cons_append,List.nil_append] at HZ ⊢
 exact ⟨HZ,by obtain ⟨r_1,r_2,r_3,r_4⟩:=r_l C.E d;simp only [l_a,l_c,l_n];omega⟩
theorem val_and (C:IC) (hC:C.Ok) (t0 t1:TypeId) (y0 y1:Value) (g0 g1:Cod) (k0 k1:Nat) (hx0:ExprI C (.iface t0 y0) g0 k0) (hb0:CB k0 g0) (hx1:ExprI C (.iface t1 y1) g1 k1) (hb1:CB k1 g1):ValI C (.iface 221 (.agg #[.iface t0 y0,.iface t1 y1])) (fun d l=>((g0 d (l+1)).1++readL C.E d 30++[branI 4 (regI d 30) l]++(g1 d (g0 d (l+1)).2).1++[markI 2 l]++readL C.E d 30++[insI 25 (regI d 30) 0 (regI d 30) 0],(g1 d (g0 d (l+1)).2).2)) (k0+k1+1):=by
 intro w its l d hG hd hdl hl0 hl2 hil
 have HC:=hide hC
 have HG:=hide hG
 obtain ⟨W2,hW2⟩ : ∃W2,W2=w.alloc (.cells #[.iface t0 y0,.iface t1 y1] 221):=⟨_,rfl⟩
 have hb2:Bl w W2:=by rw [hW2];exact (Below.refl _ _).alloc (Nat.le_refl _) _
 have HG2:Hid (Gi C W2 its l):=HG.out.below hb2
 have HWw:Hid (∀ {new l' w'},Wi C W2 its new l' w'->Wi C w its new l' w'):=fun h=>h.pre (Wq.below HG.out.es.lt hb2)
 have HCl:Hid (∀w',Wq 5 C.P W2 w'->True):=fun w' h=>trivial
 have HW2:=hide hW2
 have y_num:=fun W v=>as_num_no W 221 v (by decide)
 have y_var:=fun W v=>as_var_no W 221 v (by decide)
 have y_index:=fun W v=>as_index_no W 221 v (by decide)
 have y_un:=fun W v=>as_un_no W 221 v (by decide)
 have y_bin:=fun W v=>as_bin_no W 221 v (by decide)
 have y_and:=as_and_yes
 have HX0:=hide hx0
 have HX1:=hide hx1
 have HB0:=hide hb0
 have HB1:=hide hb1
 go_enter Tryz.func166,Tryz.ntmps166
 go_wp2_with fail
 refine (target_any C HC.out w its l HG.out d hd).mono ?_
 rintro x w1 ⟨rfl,hw1⟩
 rw [hw1]
 go_wp2_with fail
 rw [<-HW2.out]
 refine (choiceI C HC.out 4 t0 t1 y0 y1 g0 g1 k0 k1 HX0.out HB0.out HX1.out HB1.out W2 its l d HG2.out hd o_ hl0 o_ o_).mono ?_
 rintro x w_1 ⟨⟨u,rfl⟩,hw,hlen⟩
 have HW_1:=hide hw
 have HL:=hide hlen
 go_wp2_with fail
 have HZ:=HWw.out HW_1.out
 exact bodyPost_end (v:=.tuple #[]) (by simp [results,Tryz.results166,go_sem]) rfl ⟨⟨_,rfl⟩,HZ,HL.out⟩
theorem val_or (C:IC) (hC:C.Ok) (t0 t1:TypeId) (y0 y1:Value) (g0 g1:Cod) (k0 k1:Nat) (hx0:ExprI C (.iface t0 y0) g0 k0) (hb0:CB k0 g0) (hx1:ExprI C (.iface t1 y1) g1 k1) (hb1:CB k1 g1):ValI C (.iface 222 (.agg #[.iface t0 y0,.iface t1 y1])) (fun d l=>((g0 d (l+1)).1++readL C.E d 30++[branI 5 (regI d 30) l]++(g1 d (g0 d (l+1)).2).1++[markI 2 l]++readL C.E d 30++[insI 25 (regI d 30) 0 (regI d 30) 0],(g1 d (g0 d (l+1)).2).2)) (k0+k1+1):=by
 intro w its l d hG hd hdl hl0 hl2 hil
 have HC:=hide hC
 have HG:=hide hG
 obtain ⟨W2,hW2⟩ : ∃W2,W2=w.alloc (.cells #[.iface t0 y0,.iface t1 y1] 222):=⟨_,rfl⟩
 have hb2:Bl w W2:=by rw [hW2];exact (Below.refl _ _).alloc (Nat.le_refl _) _
 have HG2:Hid (Gi C W2 its l):=HG.out.below hb2
 have HWw:Hid (∀ {new l' w'},Wi C W2 its new l' w'->Wi C w its new l' w'):=fun h=>h.pre (Wq.below HG.out.es.lt hb2)
 have HCl:Hid (∀w',Wq 5 C.P W2 w'->True):=fun w' h=>trivial
 have HW2:=hide hW2
 have y_num:=fun W v=>as_num_no W 222 v (by decide)
 have y_var:=fun W v=>as_var_no W 222 v (by decide)
 have y_index:=fun W v=>as_index_no W 222 v (by decide)
 have y_un:=fun W v=>as_un_no W 222 v (by decide)
 have y_bin:=fun W v=>as_bin_no W 222 v (by decide)
 have y_and:=fun W v=>as_and_no W 222 v (by decide)
 have y_or:=as_or_yes
 have HX0:=hide hx0
 have HX1:=hide hx1
 have HB0:=hide hb0
 have HB1:=hide hb1
 go_enter Tryz.func166,Tryz.ntmps166
 go_wp2_with fail
 refine (target_any C HC.out w its l HG.out d hd).mono ?_
 rintro x w1 ⟨rfl,hw1⟩
 rw [hw1]
 go_wp2_with fail
 rw [<-HW2.out]
 refine (choiceI C HC.out 5 t0 t1 y0 y1 g0 g1 k0 k1 HX0.out HB0.out HX1.out HB1.out W2 its l d HG2.out hd o_ hl0 o_ o_).mono ?_
 rintro x w_1 ⟨⟨u,rfl⟩,hw,hlen⟩
 have HW_1:=hide hw
 have HL:=hide hlen
 go_wp2_with fail
 have HZ:=HWw.out HW_1.out
 exact bodyPost_end (v:=.tuple #[]) (by simp [results,Tryz.results166,go_sem]) rfl ⟨⟨_,rfl⟩,HZ,HL.out⟩
theorem expr_val (C:IC) (hC:C.Ok) (t:TypeId) (y:Value) (g:Cod) (k:Nat) (h1:t≠225) (h2:t≠232) (hV:ValI C (.iface t y) g k) (hk:1<=k):ExprI C (.iface t y) (fun d l=>((g d l).1++writeL C.E d,(g d l).2)) k:=by
 intro w its l d hG hd hdl hl0 hl2 hil
 have HC:=hide hC
 have HV:=hide (hV w its l d hG hd hdl hl0 hl2 hil)
 have y1:=fun W v=>as_call_no W t v h1
 have y2:=fun W v=>as_in_no W t v h2
 go_enter Tryz.func137,Tryz.ntmps137
 go_wp2_with fail
 refine HV.out.mono ?_
 rintro x w_1 ⟨⟨u,rfl⟩,hw,hlen⟩
 have HW:=hide hw
 go_wp2_with fail
 refine (writeI C HC.out w_1 (its++(g d l).1) (g d l).2 HW.out.gs d (by simp only [l_a];omega) o_ o_).mono ?_
 rintro x w_2 ⟨⟨u2,rfl⟩,hw2⟩
 have HW2:=hide (HW.out.trans hw2)
 go_wp2_with fail
 exact bodyPost_end (v:=.tuple #[]) (by simp [results,Tryz.results137,go_sem]) rfl ⟨⟨_,rfl⟩,HW2.out⟩
theorem expr_in (C:IC) (hC:C.Ok):ExprI C (.iface 232 (.agg #[])) (fun d l=>([insI 12 17 0 0 2,insI 34 0 0 0 0]++answerL C.E d,l)) 1:=by
 intro w its l d hG hd hdl hl0 hl2 hil
 have HC:Hid C.Ok:=hC
 have HG:Hid (Gi C w its l):=hG
 have y1:=fun W v=>as_call_no W 232 v (by decide)
 have y2:=as_in_yes
 have hA : ∀o,Bl w (w.alloc o):=fun o=>(Below.refl _ _).alloc (Nat.le_refl _) o
 have HS:Hid (∀o,Calls Tryz.prog 26 #[.pointer (some ⟨C.P,0,none⟩),.int .i64 2] (w.alloc o) fun x w'=>(∃u,x = .returned u)/\Wi C w its ([insI 12 17 0 0 2]++[insI 34 0 0 0 0]) l w'):=fun o=>(systemI C HC.out (w.alloc o) its l (HG.out.below (hA o)) 2 o_ o_).mono (fun _ _ h=>⟨h.1,Wi.preB HG.out (hA o) h.2⟩)
 clear hG hC hA
 go_enter Tryz.func137,Tryz.ntmps137
 go_wp2_with fail
 refine (HS.out _).mono ?_
 rintro x w_1 ⟨⟨u,rfl⟩,hw⟩
 have HW:=hide hw
 clear hw HS y1 y2
 go_wp2_with fail
 refine (takeResultI C HC.out w_1 _ l HW.out.gs d (by simp only [l_a,l_c,l_n];omega) o_ o_).mono ?_
 rintro x w_2 ⟨⟨u2,rfl⟩,hw2⟩
 have HW2:=hide (HW.out.trans hw2)
 clear hw2
 go_wp2_with fail
 exact bodyPost_end (v:=.tuple #[]) (by simp [results,Tryz.results137,go_sem]) rfl ⟨⟨_,rfl⟩,HW2.out⟩
theorem callI_two (C:IC) (hC:C.Ok) (s:ByteArray) (ar:Value) (A:Nat) (vs:Nat->Value) (F:Nat->List Nd) (G:Nat->Cod) (hA6:A<=6) (ha:Args C.w0 C.S ar A vs) (hI : ∀i,i<A->∃t x,vs i = .iface t x) (hs:s.size<=maxLen) (hf : ∃i,fnum C.t.funcs s=some i)
  (hX : ∀i,i<A->ExprI C (vs i) (G i) (F i).length) (hbd : ∀i,i<A->CB (F i).length (G i)) (w:World) (its:List It) (l d:Int) (hG:Gi C w its l)
  (hd:0<=d) (hdl:d+7*((joinF F A).length+1:Nat)<=1000000) (hl0:0<=l) (hl2:l+((joinF F A).length+1:Nat)<=100000000) (hil:its.length+24*((joinF F A).length+1)<=8000000) (hv:d<=5∨5<d) :
  Calls Tryz.prog 164 #[.pointer (some ⟨C.P,0,none⟩),.agg #[.string s,ar],.int .i64 d] w fun x w'=>(∃u,x = .returned u)/\Wi C w its ((argsC G d A l).1++keepL C.E (min d 5).toNat++passL C.E d A++[markI 5 (C.E.fn s)]++backL C.E (min d 5).toNat) (argsC G d A l).2 w':=by
 rcases hv with hv | hv
 all_goals
  suffices H : ∀R:List It × Int,R=((argsC G d A l).1++keepL C.E (min d 5).toNat++passL C.E d A++[markI 5 (C.E.fn s)]++backL C.E (min d 5).toNat,(argsC G d A l).2)->Calls Tryz.prog 164 #[.pointer (some ⟨C.P,0,none⟩),.agg #[.string s,ar],.int .i64 d] w fun x w'=>(∃u,x = .returned u)/\Wi C w its R.1 R.2 w' by exact H _ rfl
  intro R hR
  have HC:=hide hC
  have HG:=hide hG
  obtain ⟨a,cap,rfl,hc1,hc2,hc⟩:=ha
  have HK:=hide hc
  have HI:=hide hI
  have HX:=hide hX
  have HAb:Hid (∀k,k<=A->(argsC G d k l).1.length<=24*(joinF F k).length/\l<=(argsC G d k l).2/\(argsC G d k l).2<=l+(joinF F k).length):=fun k hk=>args_cb k l (fun i hi=>hbd i o_)
  have HS:=hide hs
  have HF:=hide hf
  obtain ⟨m,hm,hm5⟩ : ∃m:Nat,(min d 5).toNat=m/\(m:Int)=min d 5:=⟨_,rfl,by omega⟩
  rw [hm] at hR
  have HE:=hide hR
  obtain ⟨W2,hW2⟩ : ∃W2,W2=w.alloc (.cells #[.string s,.slice a A cap] 225):=⟨_,rfl⟩
  have hb2:Bl w W2:=by rw [hW2];exact (Below.refl _ _).alloc (Nat.le_refl _) _
  have HG2:Hid (Gi C W2 its l):=HG.out.below hb2
  have HWw:Hid (∀ {new l' w'},Wi C W2 its new l' w'->Wi C w its new l' w'):=fun h=>h.pre (Wq.below HG.out.es.lt hb2)
  have HCl:Hid (∀w',Wq 5 C.P W2 w'->(w'.cell? ⟨w.heap.size,0,none⟩=some (.string s))/\(w'.cell? ⟨w.heap.size,1,none⟩=some (.slice a A cap))):=fun w' h=>⟨HG.out.box (.cells #[.string s,.slice a A cap] 225) (by simp) (by rw [<-hW2];exact h),HG.out.box (.cells #[.string s,.slice a A cap] 225) (by simp) (by rw [<-hW2];exact h)⟩
  have HW2:=hide hW2
  first | (have q_:d<=5:=hv;have hm6:(m:Int)=d:=o_;clear q_) | (have hm6:(m:Int)=5:=o_)
  clear hC hG hc hI hX hbd hs hf hW2 hb2 hm hm5 hR
  go_enter Tryz.func164,Tryz.ntmps164
  go_wp2_with fail
  rw [<-HW2.out]
  go_loopw [15] (fun i wr=>∃k:Nat,k<=A/\i = .int .i64 k/\Wi C W2 its (argsC G d k l).1 (argsC G d k l).2 wr) (fun i _=>A-(RowKit.intOf i).toNat)
  case atStart=>exact ⟨0,Nat.zero_le _,rfl,Wi.nil HG2.out⟩
  case round=>
   obtain ⟨k,hk,rfl,hW⟩:=hrel
   have HW:=hide hW
   clear hW
   by_cases hlt:k<A
   ·obtain ⟨B,rfl,hSB,hkc⟩:=HK.out o_
    obtain ⟨tk,xk,hvk⟩:=HI.out k hlt
    have d0:=HW.out.gs.cell hSB (hkc k hlt)
    rw [hvk] at d0
    have hj:=joinF_at F hlt
    obtain ⟨b1,b2,b3⟩:=HAb.out k hk
    have HCk:Hid (Calls Tryz.prog 137 #[.pointer (some ⟨C.P,0,none⟩),.iface tk xk,.int .i64 (d+k)] wr fun x w'=>(∃u,x = .returned u)/\Wi C W2 its (argsC G d (k+1) l).1 (argsC G d (k+1) l).2 w'):=by
     have h:=HX.out k hlt
     rw [hvk] at h
     refine (h wr (its++(argsC G d k l).1) (argsC G d k l).2 (d+k) HW.out.gs o_ o_ o_ o_ (by simp only [l_a];omega)).mono ?_
     rintro x w' ⟨hu,hw'⟩
     exact ⟨hu,HW.out.trans hw'⟩
    have hwk:IntKind.i64.wrap (d+(k:Int))=d+(k:Int):=by simp [IntKind.wrap,IntKind.bits,IntKind.signed];omega
    clear hkc HW b1 b2 b3 hvk
    go_wp2_with fail
    refine HCk.out.mono ?_
    rintro x w2 ⟨⟨u,rfl⟩,hw2⟩
    have HR:=hide hw2
    clear hw2 HCk d0
    go_wp2_with fail
    go_roundw
    case rel=>exact ⟨k+1,by omega,by go_num,HR.out⟩
    case measure=>simp [RowKit.intOf];omega
   ·obtain rfl:k=A:=by omega
    obtain ⟨b1,b2,b3⟩:=HAb.out k hk
    generalize argsC G d k l=p at HW b1 b2 b3 HE
    obtain ⟨a1,L⟩:=p
    simp only at b1 b2 b3
    have HW1:Hid (Wi C W2 its a1 L wr):=HW.out
    clear HW HX HAb HK HI
    go_wp2_with fail
    clear hlt hk
    go_loopw [30] (fun i wr=>∃j:Nat,j<=m/\i = .int .i64 j/\Wi C W2 its (a1++keepL C.E j) L wr) (fun i _=>m-(RowKit.intOf i).toNat)
    case atStart=>exact ⟨0,Nat.zero_le _,rfl,by rw [show keepL C.E 0 = [] from rfl,List.append_nil];exact HW1.out⟩
    case round=>
     clear HW1
     obtain ⟨j,hj,rfl,hW⟩:=hrel
     have HW:=hide hW
     clear hW
     have hkl:=keepL_len C.E j
     by_cases hlt:j<m
     ·first | (have q_:d<=5:=hv;have c1:(j:Int)<d:=o_;clear q_) | (have c1:(j:Int)<5:=o_)
      have c2:(j:Int)<5:=by omega
      have HZ:Hid (regTab.getD j 0=regI (j:Int) 0):=regI_tab o_
      have hr0:=HW.out.gs.reg HC.out j o_
      rw [HZ.out] at hr0
      have hr:wr.drew.cell? ⟨0,j,none⟩=some (.int .i64 (regI (j:Int) 0)):=hr0
      have HGd:Hid (Gi C wr.drew (its++(a1++keepL C.E j)) L):=HW.out.gs.below (Below.refl _ _).drew
      have HWo:=hide (wordOf_any C HC.out wr.drew _ _ HGd.out (j:Int) o_ o_)
      have HSt:Hid (Calls Tryz.prog 52 #[.pointer (some ⟨C.P,0,none⟩),.int .i64 (regI (j:Int) 0),.int .i64 2,.int .i64 (wordI C.E (j:Int))] wr.drew fun e w'=>(∃u,e = .returned u)/\Wi C W2 its (a1++keepL C.E (j+1)) L w'/\w'.cell? ⟨0,j,none⟩=some (.int .i64 (regI (j:Int) 0))):=by
       refine (storeWordI C HC.out wr.drew _ _ HGd.out (regI (j:Int) 0) 2 (wordI C.E (j:Int)) (by simp only [l_a];omega)).mono ?_
       rintro e w' ⟨hu,h2⟩
       have h3:=HW.out.trans (Wi.preB HW.out.gs (Below.refl _ _).drew h2)
       rw [List.append_assoc] at h3
       have h4:=h3.gs.reg HC.out j o_
       rw [HZ.out] at h4
       exact ⟨hu,h3,h4⟩
      clear HW HGd hr0
      go_wp2_with fail
      go_region_held3 (fun W=>W.cell? ⟨0,j,none⟩=some (.int .i64 (regI (j:Int) 0))) (go_simp) (first | (with_reducible refine Calls.mono HWo.out ?_;rintro x wg ⟨rfl,rfl⟩) | (with_reducible refine Calls.mono HSt.out ?_;rintro x w3 ⟨⟨u3,rfl⟩,hw3,z1⟩))
      have HR:=hide hw3
      clear hw3 z1 HWo HSt hr
      go_wp2_with fail
      go_roundw
      case rel=>exact ⟨j+1,by omega,by go_num,HR.out⟩
      case measure=>simp [RowKit.intOf];omega
     ·obtain rfl:j=m:=by omega
      have HW1:Hid (Wi C W2 its (a1++keepL C.E j) L wr):=HW.out
      first | (have q_:d<=5:=hv;have c1 : ¬((j:Int)<d):=o_;clear q_) | (have c1 : ¬((j:Int)<5):=o_)
      clear HW
      obtain ⟨e0,e1⟩:=HCl.out wr HW1.out.wq
      clear e0
      go_wp2_with fail
      clear hlt hj c1 e1
      go_loopw [47] (fun i wr=>∃i_:Nat,i_<=k/\i = .int .i64 i_/\Wi C W2 its (a1++keepL C.E j++passL C.E d i_) L wr) (fun i _=>k-(RowKit.intOf i).toNat)
      case atStart=>exact ⟨0,Nat.zero_le _,rfl,by rw [show passL C.E d 0 = [] from rfl,List.append_nil];exact HW1.out⟩
      case round=>
       clear HW1
       obtain ⟨i_,hi_,rfl,hW⟩:=hrel
       have HW:=hide hW
       clear hW
       have hpl:=passL_len C.E d i_
       by_cases hlt:i_<k
       ·have hw1:IntKind.i64.wrap (d+(i_:Int))=d+(i_:Int):=by simp [IntKind.wrap,IntKind.bits,IntKind.signed];omega
        have hw2:IntKind.i64.wrap (10+(i_:Int))=10+(i_:Int):=by simp [IntKind.wrap,IntKind.bits,IntKind.signed];omega
        have HPa:Hid (Calls Tryz.prog 191 #[.pointer (some ⟨C.P,0,none⟩),.int .i64 (10+(i_:Int)),.int .i64 (d+(i_:Int))] wr fun e w'=>(∃u,e = .returned u)/\Wi C W2 its (a1++keepL C.E j++passL C.E d (i_+1)) L w'):=by
         refine (passI C HC.out wr _ _ HW.out.gs (10+(i_:Int)) (d+(i_:Int)) (by simp only [l_a];omega) o_ o_).mono ?_
         rintro e w' ⟨hu,h2⟩
         have h3:=HW.out.trans h2
         refine ⟨hu,?_⟩
         rw [show passL C.E d (i_+1)=passL C.E d i_++[if d+(i_:Int)<5 then insI 12 (10+(i_:Int)) (regI (d+(i_:Int)) 0) 0 0 else insI 10 (10+(i_:Int)) 2 0 (wordI C.E (d+(i_:Int)))] from rfl,<-List.append_assoc]
         exact h3
        clear HW
        go_wp2_with fail
        refine HPa.out.mono ?_
        rintro x w3 ⟨⟨u,rfl⟩,hw3⟩
        have HR:=hide hw3
        clear hw3 HPa
        go_wp2_with fail
        go_roundw
        case rel=>exact ⟨i_+1,by omega,by go_num,HR.out⟩
        case measure=>simp [RowKit.intOf];omega
       ·obtain rfl:i_=k:=by omega
        have HW1:=hide (HW.out)
        clear HW
        obtain ⟨fi,hfi⟩:=HF.out
        obtain ⟨fz,hfz⟩ : ∃fz,fz=C.E.fn s:=⟨_,rfl⟩
        have HNum:Hid (∀(W:World) (its':List It) (l':Int),Gi C W its' l'->(Instr.lookup 52 (.map (some C.bm)) (.string s) false).run Tryz.prog W = .ok (.int .i64 fz) W):=fun W its' l' h=>by rw [hfz];exact h.num HC.out HS.out hfi
        rw [<-hfz] at HE
        have HGd:=hide (HW1.out.gs.below (Below.refl _ _).drew)
        have p3:wr.drew.cell? ⟨C.P,3,none⟩=some (.map (some C.bm)):=HGd.out.es.oth 3 (by decide) (by decide)
        have e0:wr.drew.cell? ⟨w.heap.size,0,none⟩=some (.string s):=(HCl.out wr HW1.out.wq).1
        have hlk:=HNum.out _ _ _ HGd.out
        have HMk:Hid (Calls Tryz.prog 25 #[.pointer (some ⟨C.P,0,none⟩),.int .i64 5,.int .i64 fz] wr.drew fun e w'=>(∃u,e = .returned u)/\Wi C W2 its (a1++keepL C.E j++passL C.E d i_++[markI 5 fz]) L w'/\w'.cell? ⟨C.P,3,none⟩=some (.map (some C.bm))/\w'.cell? ⟨w.heap.size,0,none⟩=some (.string s)/\(Instr.lookup 52 (.map (some C.bm)) (.string s) false).run Tryz.prog w' = .ok (.int .i64 fz) w'):=by
         refine (markI_any C HC.out wr.drew _ _ HGd.out 5 fz (by simp only [l_a];omega)).mono ?_
         rintro e w' ⟨hu,h2⟩
         have h3:=HW1.out.trans (Wi.preB HW1.out.gs (Below.refl _ _).drew h2)
         exact ⟨hu,h3,h3.gs.es.oth 3 (by decide) (by decide),(HCl.out w' h3.wq).1,HNum.out _ _ _ h3.gs⟩
        clear hfz HGd hfi
        go_wp2_with fail
        go_region_held3 (fun W=>W.cell? ⟨C.P,3,none⟩=some (.map (some C.bm))/\W.cell? ⟨w.heap.size,0,none⟩=some (.string s)/\(Instr.lookup 52 (.map (some C.bm)) (.string s) false).run Tryz.prog W = .ok (.int .i64 fz) W) (go_simp) (first | (with_reducible refine Calls.mono HMk.out ?_;rintro x w3 ⟨⟨u3,rfl⟩,hw3,z0,z1,z2⟩))
        have HW3:=hide hw3
        clear hw3 z0 z1 z2 HMk p3 e0 hlk HW1
        go_wp2_with fail
        clear hlt hi_
        go_loopw [68] (fun i wr=>∃r:Nat,r<=j/\i = .int .i64 r/\Wi C W2 its (a1++keepL C.E j++passL C.E d i_++[markI 5 fz]++backL C.E r) L wr) (fun i _=>j-(RowKit.intOf i).toNat)
        case atStart=>exact ⟨0,Nat.zero_le _,rfl,by rw [show backL C.E 0 = [] from rfl,List.append_nil];exact HW3.out⟩
        case round=>
         clear HW3
         obtain ⟨r,hr,rfl,hW⟩:=hrel
         have HW:=hide hW
         clear hW
         have hbl:=backL_len C.E r
         by_cases hlt:r<j
         ·first | (have q_:d<=5:=hv;have c1:(r:Int)<d:=o_;clear q_) | (have c1:(r:Int)<5:=o_)
          have c2:(r:Int)<5:=by omega
          have HZ:Hid (regTab.getD r 0=regI (r:Int) 0):=regI_tab o_
          have hr0:=HW.out.gs.reg HC.out r o_
          rw [HZ.out] at hr0
          have hrr:wr.drew.cell? ⟨0,r,none⟩=some (.int .i64 (regI (r:Int) 0)):=hr0
          have HGd:=hide (HW.out.gs.below (Below.refl _ _).drew)
          have HWo:=hide (wordOf_any C HC.out wr.drew _ _ HGd.out (r:Int) o_ o_)
          have HSt:Hid (Calls Tryz.prog 56 #[.pointer (some ⟨C.P,0,none⟩),.int .i64 (regI (r:Int) 0),.int .i64 2,.int .i64 (wordI C.E (r:Int))] wr.drew fun e w'=>(∃u,e = .returned u)/\Wi C W2 its (a1++keepL C.E j++passL C.E d i_++[markI 5 fz]++backL C.E (r+1)) L w'/\w'.cell? ⟨0,r,none⟩=some (.int .i64 (regI (r:Int) 0))):=by
           refine (loadWordI C HC.out wr.drew _ _ HGd.out (regI (r:Int) 0) 2 (wordI C.E (r:Int)) (by simp only [l_a,l_c,l_n];omega)).mono ?_
           rintro e w' ⟨hu,h2⟩
           have h3:=HW.out.trans (Wi.preB HW.out.gs (Below.refl _ _).drew h2)
           rw [List.append_assoc] at h3
           have h4:=h3.gs.reg HC.out r o_
           rw [HZ.out] at h4
           exact ⟨hu,h3,h4⟩
          clear HW HGd hr0
          go_wp2_with fail
          go_region_held3 (fun W=>W.cell? ⟨0,r,none⟩=some (.int .i64 (regI (r:Int) 0))) (go_simp) (first | (with_reducible refine Calls.mono HWo.out ?_;rintro x wg ⟨rfl,rfl⟩) | (with_reducible refine Calls.mono HSt.out ?_;rintro x w3 ⟨⟨u3,rfl⟩,hw3,z1⟩))
          have HR:=hide hw3
          clear hw3 z1 HWo HSt hrr
          go_wp2_with fail
          go_roundw
          case rel=>exact ⟨r+1,by omega,by go_num,HR.out⟩
          case measure=>simp [RowKit.intOf];omega
         ·obtain rfl:r=j:=by omega
          first | (have q_:d<=5:=hv;have c1 : ¬((r:Int)<d):=o_;clear q_) | (have c1 : ¬((r:Int)<5):=o_)
          have HR:=hide (HW.out)
          clear HW
          go_wp2_with fail
          exact bodyPost_end (v:=.tuple #[]) (by simp [results,Tryz.results164,go_sem]) rfl ⟨⟨_,rfl⟩,by rw [HE.out];exact HWw.out HR.out⟩
theorem expr_call (C:IC) (hC:C.Ok) (s:ByteArray) (ar:Value) (A:Nat) (vs:Nat->Value) (F:Nat->List Nd) (G:Nat->Cod) (hA6:A<=6) (ha:Args C.w0 C.S ar A vs) (hI : ∀i,i<A->∃t x,vs i = .iface t x) (hs:s.size<=maxLen) (hf : ∃i,fnum C.t.funcs s=some i)
  (hX : ∀i,i<A->ExprI C (vs i) (G i) (F i).length) (hbd : ∀i,i<A->CB (F i).length (G i)):ExprI C (.iface 225 (.agg #[.string s,ar])) (callC C.E s G A) ((joinF F A).length+1):=by
 intro w its l d hG hd hdl hl0 hl2 hil
 have HC:=hide hC
 have HG:=hide hG
 obtain ⟨W2,hW2⟩ : ∃W2,W2=w.alloc (.cells #[.string s,ar] 225):=⟨_,rfl⟩
 have hb2:Bl w W2:=by rw [hW2];exact (Below.refl _ _).alloc (Nat.le_refl _) _
 have HG2:Hid (Gi C W2 its l):=HG.out.below hb2
 have HWw:Hid (∀ {new l' w'},Wi C W2 its new l' w'->Wi C w its new l' w'):=fun h=>h.pre (Wq.below HG.out.es.lt hb2)
 obtain ⟨p1,p2,p3⟩:=args_cb (d:=d) (G:=G) (F:=F) A l hbd
 have hb:(argsC G d A l).1.length+17<=24*((joinF F A).length+1):=by omega
 have HCa:Hid (Calls Tryz.prog 164 #[.pointer (some ⟨C.P,0,none⟩),.agg #[.string s,ar],.int .i64 d] W2 fun x w'=>(∃u,x = .returned u)/\Wi C W2 its ((argsC G d A l).1++keepL C.E (min d 5).toNat++passL C.E d A++[markI 5 (C.E.fn s)]++backL C.E (min d 5).toNat) (argsC G d A l).2 w'):=by
  by_cases h5:d<=5
  ·exact callI_two C hC s ar A vs F G hA6 ha hI hs hf hX hbd W2 its l d HG2.out hd hdl hl0 hl2 hil (.inl h5)
  ·exact callI_two C hC s ar A vs F G hA6 ha hI hs hf hX hbd W2 its l d HG2.out hd hdl hl0 hl2 hil (.inr o_)
 have HE:Hid (callC C.E s G A d l=((argsC G d A l).1++keepL C.E (min d 5).toNat++passL C.E d A++[markI 5 (C.E.fn s)]++backL C.E (min d 5).toNat++answerL C.E d,(argsC G d A l).2)):=rfl
 have hlen:((argsC G d A l).1++keepL C.E (min d 5).toNat++passL C.E d A++[markI 5 (C.E.fn s)]++backL C.E (min d 5).toNat).length<=24*((joinF F A).length+1):=by
  simp only [l_a,l_c,l_n,keepL_len,passL_len,backL_len]
  omega
 have y1:=as_call_yes
 have HW2:=hide hW2
 obtain ⟨aa,cap,rfl,-⟩:=ha
 clear hC hG hI hs hf hX hbd hb2 hW2 p1 p2 p3 hb
 generalize (argsC G d A l).1++keepL C.E (min d 5).toNat++passL C.E d A++[markI 5 (C.E.fn s)]++backL C.E (min d 5).toNat=cc at HCa HE hlen
 generalize (argsC G d A l).2=L at HCa HE
 go_enter Tryz.func137,Tryz.ntmps137
 go_wp2_with fail
 rw [<-HW2.out]
 refine HCa.out.mono ?_
 rintro x w_1 ⟨⟨u,rfl⟩,hw⟩
 have HW:=hide hw
 clear hw HCa y1
 go_wp2_with fail
 refine (takeResultI C HC.out w_1 _ _ HW.out.gs d (by simp only [l_a];omega) o_ o_).mono ?_
 rintro x w_2 ⟨⟨u2,rfl⟩,hw2⟩
 have HW3:Hid (Wi C W2 its (cc++answerL C.E d) L w_2):=HW.out.trans hw2
 clear hw2
 go_wp2_with fail
 exact bodyPost_end (v:=.tuple #[]) (by simp [results,Tryz.results137,go_sem]) rfl ⟨⟨_,rfl⟩,by rw [HE.out];exact HWw.out HW3.out⟩
def ExprT (C:IC) (v:Value) (r:List Nd):Prop:=∃g,EA (genN C.E) r g/\CB r.length g/\ExprI C v g r.length
def NdOk (C:IC) (n:Nd):Prop:=nodeB n=true/\KnN C.t C.ns n
theorem name_max {n:Nd} (h:nodeB n=true) (hk:n.kind=2∨n.kind=3∨n.kind=4):n.name.size<=maxLen:=by
 have hn:nameB n.name=true:=by
  unfold nodeB at h
  rcases hk with hk | hk | hk <;> simp [hk] at h <;> exact h.2
 have hp:nameP n.name:=by simpa [nameB] using hn
 have:=hp.2.1
 unfold maxLen
 omega
theorem ExprI.congr {C:IC} {v:Value} {g h:Cod} {k:Nat} (hx:ExprI C v g k) (e : ∀d l,h d l=g d l):ExprI C v h k:=by
 have:h=g:=by funext d l;exact e d l
 rw [this];exact hx
theorem ExprT.leaf {C:IC} {v:Value} {n:Nd} (hn:nodeB n=true) (hA:arity n=0) (hx:ExprI C v (genN C.E n 0 (fun _ _ l=>([],l))) 1):ExprT C v [n]:=by
 refine ⟨_,?_,?_,hx⟩
 ·have:=EA.node (gen_own C.E) hn (A:=0) hA (F:=fun _=>[]) (G:=fun _ _ l=>([],l)) (fun i hi=>absurd hi (Nat.not_lt_zero _))
  simpa [joinF] using this
 ·have:=gen_cb C.E (F:=fun _=>[]) (G:=fun _ _ l=>([],l)) hn (A:=0) hA (fun i hi=>absurd hi (Nat.not_lt_zero _))
  simpa [joinF] using this
theorem ExprT.one {C:IC} {v:Value} {r:List Nd} {n:Nd} {g:Cod} (hn:nodeB n=true) (hA:arity n=1) (hg:EA (genN C.E) r g) (hb:CB r.length g) (hx:ExprI C v (genN C.E n 1 (fun _=>g)) (r.length+1)):ExprT C v (r++[n]):=by
 have h1:=EA.node (gen_own C.E) hn (A:=1) hA (F:=fun _=>r) (G:=fun _=>g) (fun i hi=>hg)
 have h2:=gen_cb C.E (F:=fun _=>r) (G:=fun _=>g) hn (A:=1) hA (fun i hi=>hb)
 rw [joinF_one] at h2
 have hl:(r++[n]).length=r.length+1:=by simp
 exact ⟨_,by simpa [joinF] using h1,by rw [hl];exact h2,by rw [hl];exact hx⟩
theorem ExprT.two {C:IC} {v:Value} {r t:List Nd} {n:Nd} {g h:Cod} (hn:nodeB n=true) (hA:arity n=2) (hg:EA (genN C.E) r g) (hh:EA (genN C.E) t h) (hb:CB r.length g) (hc:CB t.length h) (hx:ExprI C v (genN C.E n 2 (fun i=>if i=0 then g else h)) (r.length+t.length+1)):ExprT C v (r++t++[n]):=by
 have h1:=EA.node (gen_own C.E) hn (A:=2) hA (F:=fun i=>if i=0 then r else t) (G:=fun i=>if i=0 then g else h) (fun i hi=>by by_cases h0:i=0 <;> simp only [h0,if_true,if_false] <;> assumption)
 have h2:=gen_cb C.E (F:=fun i=>if i=0 then r else t) (G:=fun i=>if i=0 then g else h) hn (A:=2) hA (fun i hi=>by by_cases h0:i=0 <;> simp only [h0,if_true,if_false] <;> assumption)
 rw [joinF_two] at h2
 have hl:(r++t++[n]).length=r.length+t.length+1:=by simp;omega
 exact ⟨_,by simpa [joinF] using h1,by rw [hl];simpa using h2,by rw [hl];exact hx⟩
theorem loc_none_mem {C:IC} {s:ByteArray} (h:C.E.loc s=none):s∉C.ns:=locN_mem.1 h
theorem exprI_any (C:IC) (hC:C.Ok) {v:Value} {r:List Nd} (h:Tv C.w0 C.S v r) (hg : ∀n∈r,NdOk C n):ExprT C v r:=by
 induction h using Tv_i with
 | num v=>
  obtain ⟨h1,-⟩:=hg ⟨1,v,⟨#[]⟩⟩ (by simp)
  refine .leaf h1 rfl ((expr_val C hC _ _ _ 1 (by decide) (by decide) (val_num C hC v (by simp [nodeB] at h1;omega)) o_).congr fun d l => ?_)
  simp [genN]
 | var s=>
  obtain ⟨h1,h2,-⟩:=hg ⟨2,0,s⟩ (by simp)
  refine .leaf h1 rfl ((expr_val C hC _ _ _ 1 (by decide) (by decide) (val_var C hC s (name_max h1 (.inl rfl)) (fun hl => ?_)) o_).congr fun d l => ?_)
  ·rcases h2 rfl with h | h
   ·exact absurd h (loc_none_mem hl)
   ·exact globI_mem h
  ·simp [genN]
 | inn=>
  obtain ⟨h1,-⟩:=hg ⟨5,0,⟨#[]⟩⟩ (by simp)
  exact .leaf h1 (by decide) ((expr_in C hC).congr fun d l=>by simp [genN])
 | index s x r hx ih=>
  obtain ⟨t,y,rfl⟩:=hx.isI
  obtain ⟨g,k1,k2,k3⟩:=ih (fun n hn=>hg n (by simp [hn]))
  obtain ⟨h1,-,h3,-⟩:=hg ⟨3,0,s⟩ (by simp)
  refine .one h1 rfl k1 k2 ((expr_val C hC _ _ _ _ (by decide) (by decide) (val_index C hC s t y g r.length k3 k2 (name_max h1 (.inr (.inl rfl))) (globI_mem (h3 rfl))) o_).congr fun d l => ?_)
  simp [genN]
 | un op x r hx ih=>
  obtain ⟨t,y,rfl⟩:=hx.isI
  obtain ⟨g,k1,k2,k3⟩:=ih (fun n hn=>hg n (by simp [hn]))
  obtain ⟨h1,-⟩:=hg ⟨6,op,⟨#[]⟩⟩ (by simp)
  have ho:0<=op/\op<=2:=by simp [nodeB] at h1;omega
  refine .one h1 rfl k1 k2 ((expr_val C hC _ _ _ _ (by decide) (by decide) (val_un C hC op t y g r.length k3 k2 ho.1 ho.2) o_).congr fun d l => ?_)
  simp [genN]
 | bin op x y r t hx hy ih1 ih2=>
  obtain ⟨tx,x,rfl⟩:=hx.isI
  obtain ⟨ty,y,rfl⟩:=hy.isI
  obtain ⟨g,k1,k2,k3⟩:=ih1 (fun n hn=>hg n (by simp [hn]))
  obtain ⟨h,m1,m2,m3⟩:=ih2 (fun n hn=>hg n (by simp [hn]))
  obtain ⟨h1,-⟩:=hg ⟨7,op,⟨#[]⟩⟩ (by simp)
  have ho:0<=op/\op<=15:=by simp [nodeB] at h1;omega
  refine .two h1 rfl k1 m1 k2 m2 ((expr_val C hC _ _ _ _ (by decide) (by decide) (val_bin C hC op tx ty x y g h r.length t.length k3 k2 m3 m2 ho.1 ho.2) o_).congr fun d l => ?_)
  simp [genN]
 | and x y r t hx hy ih1 ih2=>
  obtain ⟨tx,x,rfl⟩:=hx.isI
  obtain ⟨ty,y,rfl⟩:=hy.isI
  obtain ⟨g,k1,k2,k3⟩:=ih1 (fun n hn=>hg n (by simp [hn]))
  obtain ⟨h,m1,m2,m3⟩:=ih2 (fun n hn=>hg n (by simp [hn]))
  obtain ⟨h1,-⟩:=hg ⟨8,0,⟨#[]⟩⟩ (by simp)
  refine .two h1 rfl k1 m1 k2 m2 ((expr_val C hC _ _ _ _ (by decide) (by decide) (val_and C hC tx ty x y g h r.length t.length k3 k2 m3 m2) o_).congr fun d l => ?_)
  simp [genN,choiceC]
 | or x y r t hx hy ih1 ih2=>
  obtain ⟨tx,x,rfl⟩:=hx.isI
  obtain ⟨ty,y,rfl⟩:=hy.isI
  obtain ⟨g,k1,k2,k3⟩:=ih1 (fun n hn=>hg n (by simp [hn]))
  obtain ⟨h,m1,m2,m3⟩:=ih2 (fun n hn=>hg n (by simp [hn]))
  obtain ⟨h1,-⟩:=hg ⟨9,0,⟨#[]⟩⟩ (by simp)
  refine .two h1 rfl k1 m1 k2 m2 ((expr_val C hC _ _ _ _ (by decide) (by decide) (val_or C hC tx ty x y g h r.length t.length k3 k2 m3 m2) o_).congr fun d l => ?_)
  simp [genN,choiceC]
 | call s ar A vs F ha hv ih=>
  obtain ⟨hn,-,-,h4⟩:=hg ⟨4,A,s⟩ (by simp)
  have hA:arity (⟨4,A,s⟩:Nd)=A:=by simp [arity]
  have h6:A<=6:=by have:=(arity_good hn).2;omega
  have h0 : ∀i,∃g,i<A->EA (genN C.E) (F i) g/\CB (F i).length g/\ExprI C (vs i) g (F i).length:=by
   intro i
   by_cases hi:i<A
   ·obtain ⟨g,hh⟩:=ih i hi (fun n hn=>hg n (by simp [joinF_mem F n A i hi hn]))
    exact ⟨g,fun _=>hh⟩
   ·exact ⟨fun _ l=>([],l),fun h=>absurd h hi⟩
  have h1:=EA.node (gen_own C.E) hn hA (F:=F) (G:=fun i=>(h0 i).choose) (fun i hi=>((h0 i).choose_spec hi).1)
  have h2:=gen_cb C.E hn hA (F:=F) (G:=fun i=>(h0 i).choose) (fun i hi=>((h0 i).choose_spec hi).2.1)
  have hl:(joinF F A++[(⟨4,A,s⟩:Nd)]).length=(joinF F A).length+1:=by simp
  refine ⟨_,h1,by rw [hl];exact h2,?_⟩
  rw [hl]
  refine (expr_call C hC s ar A vs F _ h6 ha (fun i hi=>(hv i hi).isI) (name_max hn (.inr (.inr rfl))) (h4 rfl) (fun i hi=>((h0 i).choose_spec hi).2.2) (fun i hi=>((h0 i).choose_spec hi).2.1)).congr fun d l => ?_
  simp [genN]
theorem exprI_code (C:IC) (hC:C.Ok) {v:Value} {r:List Nd} (h:Tv C.w0 C.S v r) (hg : ∀n∈r,NdOk C n):CB r.length (codeE C.E r)/\ExprI C v (codeE C.E r) r.length:=by
 obtain ⟨g,h1,h2,h3⟩:=exprI_any C hC h hg
 unfold codeE
 rw [h1.eq]
 exact ⟨h2,h3⟩
end Go.Proofs.YtnpidjamplmgjaaGreatDoor
