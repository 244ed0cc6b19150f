import Derived.Test.YtnpidjamplmgjaaGreatDoorQ18
import Derived.RegionTactic
import Derived.Deep.RegionHeld3
set_option linter.unusedSectionVars false
variable [Inhabited Go.Proofs.YtnpidjamplmgjaaGreatDoor.Pick]
namespace Go.Proofs.YtnpidjamplmgjaaGreatDoor
open Go.RowKit
set_option linter.unusedVariables false
set_option linter.unusedSimpArgs false
set_option maxRecDepth 100000
set_option maxHeartbeats 16000000
theorem plain_call (C:IC) (hC:C.Ok) (t0:TypeId) (y0:Value) (g0:Cod) (k0:Nat) (hx0:ExprI C (.iface t0 y0) g0 k0) (hb0:CB k0 g0) (hk0:k0<=2000)  (w:World) (its:List It) (l:Int) (hG:Gi C w its l) (hl0:0<=l) (hl2:l+2*(k0+1:Nat)<=100000000) (hil:its.length+24*(k0+1)<=8000000) :
  Calls Tryz.prog 107 #[.pointer (some ⟨C.P,0,none⟩),.iface 187 (.agg #[.iface t0 y0])] w fun x w'=>(∃u,x = .returned u)/\Wi C w its ((g0 0 l).1) ((g0 0 l).2) w':=by
 have HC:=hide hC
 have HG:=hide hG
 obtain ⟨q0a,q0b,q0c⟩:=hb0 (0) (l)
 obtain ⟨c0,m0,hG0⟩ : ∃c m,g0 (0) (l)=(c,m):=⟨_,_,rfl⟩
 rw [hG0] at q0a q0b q0c
 simp only at q0a q0b q0c
 have HC0:Hid (∀(W:World) (its':List It),Gi C W its' (l)->its'.length+24*k0<=8000000->Calls Tryz.prog 137 #[.pointer (some ⟨C.P,0,none⟩),.iface t0 y0,.int .i64 (0)] W fun x w'=>(∃u,x = .returned u)/\Wi C W its' c0 m0 w'):=fun W its' hg hln=>by
  have:=hx0 W its' (l) (0) hg o_ o_ o_ o_ hln
  rw [hG0] at this
  exact this
 have HM : ∀W:World,(method 424 187 (.agg #[.iface t0 y0]) "loop.example/s01725/impl.expressions").run Tryz.prog W = .ok (245,.agg #[.iface t0 y0]) W:=fun W=>by kernel_rfl
 have y_decl:=fun W v=>sa_decl_no W 187 v (by decide)
 have y_set:=fun W v=>sa_set_no W 187 v (by decide)
 have y_store:=fun W v=>sa_store_no W 187 v (by decide)
 have y_return:=fun W v=>sa_return_no W 187 v (by decide)
 have y_out:=fun W v=>sa_out_no W 187 v (by decide)
 go_enter Tryz.func107,Tryz.ntmps107
 go_wp2_with fail
 refine (ex_call t0 y0 w).mono ?_
 rintro x W2 ⟨rfl,hb2,hce⟩
 have HG2:Hid (Gi C W2 its l):=HG.out.below hb2
 have HWw:Hid (∀ {new l' w'},Wi C W2 its new l' w'->Wi C w its new l' w'):=fun h=>h.pre (Wq.below HG.out.es.lt hb2)
 have HCl:Hid (∀w',Wq 5 C.P W2 w'->w'.cell? ⟨w.heap.size+1,0,none⟩=some (.iface t0 y0)):=fun w' h=>by
  have hp:=HG.out.es.lt
  have a1:w.heap.size+1≠C.P:=by omega
  have a2:some (w.heap.size+1)≠rbq 5 W2 C.P:=fun e=>by
   rw [rbq_bel hb2 hp] at e
   have:=HG.out.es.rlt5 e.symm
   omega
  have e0:=hce
  exact h.cell a1 a2 e0
 go_wp2_with fail
 go_loopw [16] (fun i wr=>∃k:Nat,k<=1/\i = .int .i64 k/\Wi C W2 its ((fun k:Nat=>if k=0 then (([]:List It),l) else (c0,m0)) k).1 ((fun k:Nat=>if k=0 then (([]:List It),l) else (c0,m0)) k).2 wr) (fun i _=>1-(RowKit.intOf i).toNat)
 case atStart=>exact ⟨0,by omega,rfl,Wi.nil HG2.out⟩
 case round=>
  obtain ⟨k,hk,rfl,hW⟩:=hrel
  have HW:=hide hW
  have hk2:k=0∨k=1:=by omega
  rcases hk2 with rfl | rfl
  ·have HW0:Hid (Wi C W2 its ([]) (l) wr):=HW.out
   have HCk:Hid (Calls Tryz.prog 137 #[.pointer (some ⟨C.P,0,none⟩),.iface t0 y0,.int .i64 0] wr fun x w'=>(∃u,x = .returned u)/\Wi C W2 its (c0) (m0) w'):=by
    refine (HC0.out wr _ HW0.out.gs (by simp only [l_a,l_n];omega)).mono ?_
    rintro x w' ⟨hu,h2⟩
    exact ⟨hu,by have h3:=HW0.out.trans h2;simpa using h3⟩
   have e0:=HCl.out wr HW0.out.wq
   go_wp2_with fail
   refine HCk.out.mono ?_
   rintro x w3 ⟨⟨u,rfl⟩,hw3⟩
   have HR:=hide hw3
   go_wp2_with fail
   go_roundw
   case rel=>exact ⟨1,by omega,by go_num,HR.out⟩
   case measure=>simp [RowKit.intOf]
  ·have HW_0:Hid (Wi C W2 its c0 m0 wr):=HW.out
   have r0:wr.drew.cell? ⟨0,0,none⟩=some (.int .i64 5):=HW_0.out.gs.reg HC.out 0 (by decide)
   have r1:wr.drew.cell? ⟨0,1,none⟩=some (.int .i64 6):=HW_0.out.gs.reg HC.out 1 (by decide)
   skip
   go_wp2_with fail
   go_region
   skip
   have HW_1:=hide fun W (hW:Bl wr W)=>HW_0.out.bel hW
   go_wp2_with fail
   have HZ:=HWw.out (HW_1.out _ (by first | exact (Below.refl _ _).drew | exact (Below.refl _ _).drew.drew))
   refine bodyPost_end (v:=.tuple #[]) (by simp [results,Tryz.results107,go_sem]) rfl ⟨⟨_,rfl⟩,?_⟩
   simp only [hG0]
   try simp only [List.append_assoc,List.cons_append,List.nil_append] at HZ ⊢
   exact HZ
def SB (k:Nat) (g:Blk):Prop:=∀l,(g l).1.length<=24*k/\l<=(g l).2/\(g l).2<=l+2*k
theorem assignL_len (E:GEnv) (s:ByteArray) (r:Int):(assignL E s r).length<=3:=by
 unfold assignL
 split
 ·simp
 ·have:=loadL_len 31 (E.glob s);simp;omega
def szLs (ss:List St):Nat:=ss.length+nodeSum ss
theorem szLs_append (a b:List St):szLs (a++b)=szLs a+szLs b:=by simp [szLs,nodeSum_append];omega
theorem szLs_cons (s:St) (r:List St):szLs (s::r)=s.e.length+s.f.length+1+szLs r:=by simp [szLs,nodeSum];omega
theorem szLs_parts (r:List St) (i j:Nat):szLs r=szLs (r.take i)+szLs ((r.drop i).take j)+szLs (r.drop (i+j)):=by
 have er:r=r.take i++((r.drop i).take j++r.drop (i+j)):=by
  rw [<-List.drop_drop,List.take_append_drop,List.take_append_drop]
 have h:=congrArg szLs er
 rw [szLs_append,szLs_append] at h
 omega
theorem codeS_sb (E:GEnv) (en:Int) (s:St) (a b:Blk) (ka kb:Nat) (he:CB s.e.length (codeE E s.e)) (hf:s.kind=3->CB s.f.length (codeE E s.f)) (ha:SB ka a) (hb:SB kb b):SB (s.e.length+s.f.length+1+ka+kb) (codeS E en s a b):=by
 intro l
 unfold codeS
 by_cases h1:s.kind=1∨s.kind=2
 ·rw [if_pos h1]
  obtain ⟨g1,g2,g3⟩:=he 0 l
  have:=assignL_len E s.name 5
  simp only [l_a]
  refine ⟨?_,?_,?_⟩ <;> omega
 rw [if_neg h1]
 by_cases h3:s.kind=3
 ·rw [if_pos h3]
  obtain ⟨g1,g2,g3⟩:=he 0 l
  obtain ⟨k1,k2,k3⟩:=hf h3 1 (codeE E s.e 0 l).2
  have:=loadL_len 31 (E.glob s.name)
  simp only [l_a,l_c,l_n]
  refine ⟨?_,?_,?_⟩ <;> omega
 rw [if_neg h3]
 by_cases h4:s.kind=4
 ·rw [if_pos h4]
  by_cases hl:0<s.els
  ·rw [if_pos hl]
   obtain ⟨g1,g2,g3⟩:=he 0 (l+2)
   obtain ⟨k1,k2,k3⟩:=ha (codeE E s.e 0 (l+2)).2
   obtain ⟨m1,m2,m3⟩:=hb (a (codeE E s.e 0 (l+2)).2).2
   simp only [l_a,l_c,l_n]
   refine ⟨?_,?_,?_⟩ <;> omega
  ·rw [if_neg hl]
   obtain ⟨g1,g2,g3⟩:=he 0 (l+1)
   obtain ⟨k1,k2,k3⟩:=ha (codeE E s.e 0 (l+1)).2
   simp only [l_a,l_c,l_n]
   refine ⟨?_,?_,?_⟩ <;> omega
 rw [if_neg h4]
 by_cases h5:s.kind=5
 ·rw [if_pos h5]
  obtain ⟨g1,g2,g3⟩:=he 0 (l+2)
  obtain ⟨k1,k2,k3⟩:=ha (codeE E s.e 0 (l+2)).2
  simp only [l_a,l_c,l_n]
  refine ⟨?_,?_,?_⟩ <;> omega
 rw [if_neg h5]
 obtain ⟨g1,g2,g3⟩:=he 0 l
 by_cases h6:s.kind=6
 ·rw [if_pos h6]
  simp only [l_a,l_c,l_n]
  refine ⟨?_,?_,?_⟩ <;> omega
 rw [if_neg h6]
 by_cases h7:s.kind=7
 ·rw [if_pos h7]
  simp only [l_a,l_c,l_n]
  refine ⟨?_,?_,?_⟩ <;> omega
 rw [if_neg h7]
 refine ⟨?_,?_,?_⟩ <;> omega
theorem codeB_sb (E:GEnv) (en:Int) (N:Nat) : ∀ss:List St,ss.length<=N->(∀s∈ss,CB s.e.length (codeE E s.e)/\(s.kind=3->CB s.f.length (codeE E s.f)))->SB (szLs ss) (codeB E en ss):=by
 induction N with
 | zero=>
  intro ss hl h l
  have:ss = []:=List.eq_nil_of_length_eq_zero o_
  subst this
  rw [codeB_nil]
  simp [szLs,nodeSum]
 | succ N ih=>
  intro ss hl h l
  cases ss with
  | nil=>rw [codeB_nil];simp [szLs,nodeSum]
  | cons s r=>
   simp only [l_c] at hl
   rw [codeB_cons]
   have h1:=ih (r.take s.thn.toNat) (by simp;omega) (fun x hx=>h x (by simp [List.mem_of_mem_take hx]))
   have h2:=ih ((r.drop s.thn.toNat).take s.els.toNat) (by simp;omega) (fun x hx=>h x (by simp [List.mem_of_mem_drop (List.mem_of_mem_take hx)]))
   have h3:=ih (r.drop (s.thn.toNat+s.els.toNat)) (by simp;omega) (fun x hx=>h x (by simp [List.mem_of_mem_drop hx]))
   have h0:=codeS_sb E en s _ _ _ _ (h s (by simp)).1 (h s (by simp)).2 h1 h2 l
   have h4:=h3 (codeS E en s (codeB E en (r.take s.thn.toNat)) (codeB E en ((r.drop s.thn.toNat).take s.els.toNat)) l).2
   have hp:=szLs_parts r s.thn.toNat s.els.toNat
   rw [szLs_cons]
   simp only [l_a]
   obtain ⟨a1,a2,a3⟩:=h0
   obtain ⟨b1,b2,b3⟩:=h4
   refine ⟨?_,?_,?_⟩ <;> omega
def BlkI (C:IC) (v:Value) (g:Blk) (k:Nat):Prop:=SB k g/\∀(w:World) (its:List It) (l:Int),Gi C w its l->0<=l->l+2*k<=100000000->its.length+24*k<=8000000->Calls Tryz.prog 54 #[.pointer (some ⟨C.P,0,none⟩),v] w fun x w'=>(∃u,x = .returned u)/\Wi C w its (g l).1 (g l).2 w'
def StI (C:IC) (v:Value) (g:Blk) (k:Nat):Prop:=SB k g/\∀(w:World) (its:List It) (l:Int),Gi C w its l->0<=l->l+2*k<=100000000->its.length+24*k<=8000000->Calls Tryz.prog 80 #[.pointer (some ⟨C.P,0,none⟩),v] w fun x w'=>(∃u,x = .returned u)/\Wi C w its (g l).1 (g l).2 w'
theorem st_plain (C:IC) (t:TypeId) (y:Value) (g:Blk) (k:Nat) (h1:t≠174) (h2:t≠177) (hb:SB k g) (hP : ∀(w:World) (its:List It) (l:Int),Gi C w its l->0<=l->l+2*k<=100000000->its.length+24*k<=8000000->Calls Tryz.prog 107 #[.pointer (some ⟨C.P,0,none⟩),.iface t y] w fun x w'=>(∃u,x = .returned u)/\Wi C w its (g l).1 (g l).2 w'):StI C (.iface t y) g k:=by
 refine ⟨hb,?_⟩
 intro w its l hG hl0 hl2 hil
 have HP:=hide (hP w its l hG hl0 hl2 hil)
 have y1:=fun W v=>sa_if_no W t v h1
 have y2:=fun W v=>sa_while_no W t v h2
 go_enter Tryz.func80,Tryz.ntmps80
 go_wp2_with fail
 refine HP.out.mono ?_
 rintro x w1 ⟨⟨u,rfl⟩,hw⟩
 have HW:=hide hw
 go_wp2_with fail
 exact bodyPost_end (v:=.tuple #[]) (by simp [results,Tryz.results80,go_sem]) rfl ⟨⟨_,rfl⟩,HW.out⟩
theorem fork_one (C:IC) (hC:C.Ok) (t0:TypeId) (y0:Value) (g0:Cod) (k0:Nat) (hx0:ExprI C (.iface t0 y0) g0 k0) (hb0:CB k0 g0) (hk0:k0<=2000) (aa:Option Addr) (n_a ca_:Nat) (a:Blk) (ka:Nat) (ha:BlkI C (.slice aa n_a ca_) a ka) (ab:Option Addr) (n_b cb_:Nat) (b:Blk) (kb:Nat) (hb:BlkI C (.slice ab n_b cb_) b kb) (w:World) (its:List It) (l:Int) (hG:Gi C w its l) (hl0:0<=l) (hl2:l+2*(k0+1+ka+kb:Nat)<=100000000) (hil:its.length+24*(k0+1+ka+kb)<=8000000) (hnb:n_b=0) :
  Calls Tryz.prog 105 #[.pointer (some ⟨C.P,0,none⟩),.agg #[.iface t0 y0,.slice aa n_a ca_,.slice ab n_b cb_]] w fun x w'=>(∃u,x = .returned u)/\Wi C w its ((g0 0 (l+1)).1++[branI 4 5 l]++(a (g0 0 (l+1)).2).1++[markI 2 l]) ((a (g0 0 (l+1)).2).2) w':=by
 have HC:=hide hC
 have HG:=hide hG
 have HX0:=hide hx0
 have HB0:=hide hb0
 obtain ⟨W2,hW2⟩ : ∃W2,W2=w.alloc (.cells #[.iface t0 y0,.slice aa n_a ca_,.slice ab n_b cb_] 174):=⟨_,rfl⟩
 have hb2:Bl w W2:=by rw [hW2];exact (Below.refl _ _).alloc (Nat.le_refl _) _
 have HG2:Hid (Gi C W2 its l):=HG.out.below hb2
 have HWw:Hid (∀ {new l' w'},Wi C W2 its new l' w'->Wi C w its new l' w'):=fun h=>h.pre (Wq.below HG.out.es.lt hb2)
 have HCl:Hid (∀w',Wq 5 C.P W2 w'->(w'.cell? ⟨w.heap.size,0,none⟩=some (.iface t0 y0))/\(w'.cell? ⟨w.heap.size,1,none⟩=some (.slice aa n_a ca_))/\(w'.cell? ⟨w.heap.size,2,none⟩=some (.slice ab n_b cb_))):=fun w' h=>⟨HG.out.box (.cells #[.iface t0 y0,.slice aa n_a ca_,.slice ab n_b cb_] 174) (by simp) (by rw [<-hW2];exact h),HG.out.box (.cells #[.iface t0 y0,.slice aa n_a ca_,.slice ab n_b cb_] 174) (by simp) (by rw [<-hW2];exact h),HG.out.box (.cells #[.iface t0 y0,.slice aa n_a ca_,.slice ab n_b cb_] 174) (by simp) (by rw [<-hW2];exact h)⟩
 have HW2:=hide hW2
 obtain ⟨q0a,q0b,q0c⟩:=hb0 (0) (l+1)
 obtain ⟨c0,m0,hG0⟩ : ∃c m,g0 (0) (l+1)=(c,m):=⟨_,_,rfl⟩
 rw [hG0] at q0a q0b q0c
 simp only at q0a q0b q0c
 have HCd:Hid (∀(W:World) (its':List It),Gi C W its' (l+1)->its'.length+24*k0<=8000000->Calls Tryz.prog 136 #[.pointer (some ⟨C.P,0,none⟩),.iface t0 y0,.int .i64 (l)] W fun x w'=>(∃u,x = .returned u)/\Wi C W its' (c0++[branI 4 5 (l)]) m0 w'):=fun W its' hg hln=>by
  have:=conditionI C HC.out W its' (l+1) hg t0 y0 g0 k0 HX0.out HB0.out (l) hk0 o_ o_ hln
  rw [hG0] at this
  exact this
 obtain ⟨raa,rab,rac⟩:=ha.1 (m0)
 obtain ⟨ba,na,hBa⟩ : ∃c m,a (m0)=(c,m):=⟨_,_,rfl⟩
 rw [hBa] at raa rab rac
 simp only at raa rab rac
 have HKa:Hid (∀(W:World) (its':List It),Gi C W its' (m0)->its'.length+24*ka<=8000000->Calls Tryz.prog 54 #[.pointer (some ⟨C.P,0,none⟩),.slice aa n_a ca_] W fun x w'=>(∃u,x = .returned u)/\Wi C W its' ba na w'):=fun W its' hg hln=>by
  have:=ha.2 W its' (m0) hg o_ o_ hln
  rw [hBa] at this
  exact this
 subst hnb
 go_enter Tryz.func105,Tryz.ntmps105
 go_wp2_with fail
 rw [<-HW2.out]
 refine (labI C HC.out W2 its (l) HG2.out o_).mono ?_
 rintro x w_1 ⟨rfl,hw_1⟩
 have HW_1:=hide hw_1
 obtain ⟨e0,e1,e2⟩:=HCl.out w_1 HW_1.out.wq
 go_wp2_with fail
 refine (HCd.out _ _ HW_1.out.gs (by (try simp only [l_a,l_c,l_n]);omega)).mono ?_
 rintro x w_2 ⟨⟨u_2,rfl⟩,hw_2⟩
 have HW_2:=hide (HW_1.out.trans hw_2)
 obtain ⟨e0,e1,e2⟩:=HCl.out w_2 HW_2.out.wq
 go_wp2_with fail
 refine (HKa.out _ _ HW_2.out.gs (by (try simp only [l_a,l_c,l_n]);omega)).mono ?_
 rintro x w_3 ⟨⟨u_3,rfl⟩,hw_3⟩
 have HW_3:=hide (HW_2.out.trans hw_3)
 go_wp2_with fail
 refine (markI_any C HC.out _ _ _ HW_3.out.gs 2 l (by (try simp only [l_a,l_c,l_n]);omega)).mono ?_
 rintro x w_4 ⟨⟨u_4,rfl⟩,hw_4⟩
 have HW_4:=hide (HW_3.out.trans hw_4)
 go_wp2_with fail
 have HZ:=HWw.out HW_4.out
 refine bodyPost_ret (v:=.tuple #[]) (by simp [results,Tryz.results105,go_sem]) rfl ⟨⟨_,rfl⟩,?_⟩
 simp only [hG0,hBa]
 try simp only [List.append_assoc,List.cons_append,List.nil_append] at HZ ⊢
 exact HZ
theorem fork_two (C:IC) (hC:C.Ok) (t0:TypeId) (y0:Value) (g0:Cod) (k0:Nat) (hx0:ExprI C (.iface t0 y0) g0 k0) (hb0:CB k0 g0) (hk0:k0<=2000) (aa:Option Addr) (n_a ca_:Nat) (a:Blk) (ka:Nat) (ha:BlkI C (.slice aa n_a ca_) a ka) (ab:Option Addr) (n_b cb_:Nat) (b:Blk) (kb:Nat) (hb:BlkI C (.slice ab n_b cb_) b kb) (w:World) (its:List It) (l:Int) (hG:Gi C w its l) (hl0:0<=l) (hl2:l+2*(k0+1+ka+kb:Nat)<=100000000) (hil:its.length+24*(k0+1+ka+kb)<=8000000) (hnb:0<n_b) (hnb2:n_b<=1000000) :
  Calls Tryz.prog 105 #[.pointer (some ⟨C.P,0,none⟩),.agg #[.iface t0 y0,.slice aa n_a ca_,.slice ab n_b cb_]] w fun x w'=>(∃u,x = .returned u)/\Wi C w its ((g0 0 (l+2)).1++[branI 4 5 l]++(a (g0 0 (l+2)).2).1++[markI 4 (l+1),markI 2 l]++(b (a (g0 0 (l+2)).2).2).1++[markI 2 (l+1)]) ((b (a (g0 0 (l+2)).2).2).2) w':=by
 have HC:=hide hC
 have HG:=hide hG
 have HX0:=hide hx0
 have HB0:=hide hb0
 obtain ⟨W2,hW2⟩ : ∃W2,W2=w.alloc (.cells #[.iface t0 y0,.slice aa n_a ca_,.slice ab n_b cb_] 174):=⟨_,rfl⟩
 have hb2:Bl w W2:=by rw [hW2];exact (Below.refl _ _).alloc (Nat.le_refl _) _
 have HG2:Hid (Gi C W2 its l):=HG.out.below hb2
 have HWw:Hid (∀ {new l' w'},Wi C W2 its new l' w'->Wi C w its new l' w'):=fun h=>h.pre (Wq.below HG.out.es.lt hb2)
 have HCl:Hid (∀w',Wq 5 C.P W2 w'->(w'.cell? ⟨w.heap.size,0,none⟩=some (.iface t0 y0))/\(w'.cell? ⟨w.heap.size,1,none⟩=some (.slice aa n_a ca_))/\(w'.cell? ⟨w.heap.size,2,none⟩=some (.slice ab n_b cb_))):=fun w' h=>⟨HG.out.box (.cells #[.iface t0 y0,.slice aa n_a ca_,.slice ab n_b cb_] 174) (by simp) (by rw [<-hW2];exact h),HG.out.box (.cells #[.iface t0 y0,.slice aa n_a ca_,.slice ab n_b cb_] 174) (by simp) (by rw [<-hW2];exact h),HG.out.box (.cells #[.iface t0 y0,.slice aa n_a ca_,.slice ab n_b cb_] 174) (by simp) (by rw [<-hW2];exact h)⟩
 have HW2:=hide hW2
 obtain ⟨q0a,q0b,q0c⟩:=hb0 (0) (l+2)
 obtain ⟨c0,m0,hG0⟩ : ∃c m,g0 (0) (l+2)=(c,m):=⟨_,_,rfl⟩
 rw [hG0] at q0a q0b q0c
 simp only at q0a q0b q0c
 have HCd:Hid (∀(W:World) (its':List It),Gi C W its' (l+2)->its'.length+24*k0<=8000000->Calls Tryz.prog 136 #[.pointer (some ⟨C.P,0,none⟩),.iface t0 y0,.int .i64 (l)] W fun x w'=>(∃u,x = .returned u)/\Wi C W its' (c0++[branI 4 5 (l)]) m0 w'):=fun W its' hg hln=>by
  have:=conditionI C HC.out W its' (l+2) hg t0 y0 g0 k0 HX0.out HB0.out (l) hk0 o_ o_ hln
  rw [hG0] at this
  exact this
 obtain ⟨raa,rab,rac⟩:=ha.1 (m0)
 obtain ⟨ba,na,hBa⟩ : ∃c m,a (m0)=(c,m):=⟨_,_,rfl⟩
 rw [hBa] at raa rab rac
 simp only at raa rab rac
 have HKa:Hid (∀(W:World) (its':List It),Gi C W its' (m0)->its'.length+24*ka<=8000000->Calls Tryz.prog 54 #[.pointer (some ⟨C.P,0,none⟩),.slice aa n_a ca_] W fun x w'=>(∃u,x = .returned u)/\Wi C W its' ba na w'):=fun W its' hg hln=>by
  have:=ha.2 W its' (m0) hg o_ o_ hln
  rw [hBa] at this
  exact this
 obtain ⟨rba,rbb,rbc⟩:=hb.1 (na)
 obtain ⟨bb,nb,hBb⟩ : ∃c m,b (na)=(c,m):=⟨_,_,rfl⟩
 rw [hBb] at rba rbb rbc
 simp only at rba rbb rbc
 have HKb:Hid (∀(W:World) (its':List It),Gi C W its' (na)->its'.length+24*kb<=8000000->Calls Tryz.prog 54 #[.pointer (some ⟨C.P,0,none⟩),.slice ab n_b cb_] W fun x w'=>(∃u,x = .returned u)/\Wi C W its' bb nb w'):=fun W its' hg hln=>by
  have:=hb.2 W its' (na) hg o_ o_ hln
  rw [hBb] at this
  exact this
 have hnb3:((n_b:Int) == 0)=false:=by simp;omega
 go_enter Tryz.func105,Tryz.ntmps105
 go_wp2_with fail
 rw [<-HW2.out]
 refine (labI C HC.out W2 its (l) HG2.out o_).mono ?_
 rintro x w_1 ⟨rfl,hw_1⟩
 have HW_1:=hide hw_1
 obtain ⟨e0,e1,e2⟩:=HCl.out w_1 HW_1.out.wq
 go_wp2_with fail
 refine (labI C HC.out _ _ _ HW_1.out.gs o_).mono ?_
 rintro x w_2 ⟨rfl,hw_2⟩
 have HW_2:Hid (Wi C W2 its ([]++[]) (l+1+1) w_2):=HW_1.out.trans hw_2
 rw [show l+1+1=l+2 by omega] at HW_2
 obtain ⟨e0,e1,e2⟩:=HCl.out w_2 HW_2.out.wq
 go_wp2_with fail
 refine (HCd.out _ _ HW_2.out.gs (by (try simp only [l_a,l_c,l_n]);omega)).mono ?_
 rintro x w_3 ⟨⟨u_3,rfl⟩,hw_3⟩
 have HW_3:=hide (HW_2.out.trans hw_3)
 obtain ⟨e0,e1,e2⟩:=HCl.out w_3 HW_3.out.wq
 go_wp2_with fail
 refine (HKa.out _ _ HW_3.out.gs (by (try simp only [l_a,l_c,l_n]);omega)).mono ?_
 rintro x w_4 ⟨⟨u_4,rfl⟩,hw_4⟩
 have HW_4:=hide (HW_3.out.trans hw_4)
 go_wp2_with fail
 refine (markI_any C HC.out _ _ _ HW_4.out.gs 4 (l+1) (by (try simp only [l_a,l_c,l_n]);omega)).mono ?_
 rintro x w_5 ⟨⟨u_5,rfl⟩,hw_5⟩
 have HW_5:=hide (HW_4.out.trans hw_5)
 go_wp2_with fail
 refine (markI_any C HC.out _ _ _ HW_5.out.gs 2 l (by (try simp only [l_a,l_c,l_n]);omega)).mono ?_
 rintro x w_6 ⟨⟨u_6,rfl⟩,hw_6⟩
 have HW_6:=hide (HW_5.out.trans hw_6)
 obtain ⟨e0,e1,e2⟩:=HCl.out w_6 HW_6.out.wq
 go_wp2_with fail
 refine (HKb.out _ _ HW_6.out.gs (by (try simp only [l_a,l_c,l_n]);omega)).mono ?_
 rintro x w_7 ⟨⟨u_7,rfl⟩,hw_7⟩
 have HW_7:=hide (HW_6.out.trans hw_7)
 go_wp2_with fail
 refine (markI_any C HC.out _ _ _ HW_7.out.gs 2 (l+1) (by (try simp only [l_a,l_c,l_n]);omega)).mono ?_
 rintro x w_8 ⟨⟨u_8,rfl⟩,hw_8⟩
 have HW_8:=hide (HW_7.out.trans hw_8)
 go_wp2_with fail
 have HZ:=HWw.out HW_8.out
 refine bodyPost_end (v:=.tuple #[]) (by simp [results,Tryz.results105,go_sem]) rfl ⟨⟨_,rfl⟩,?_⟩
 simp only [hG0,hBa,hBb]
 try simp only [List.append_assoc,List.cons_append,List.nil_append] at HZ ⊢
 exact HZ
theorem loopI (C:IC) (hC:C.Ok) (t0:TypeId) (y0:Value) (g0:Cod) (k0:Nat) (hx0:ExprI C (.iface t0 y0) g0 k0) (hb0:CB k0 g0) (hk0:k0<=2000) (aa:Option Addr) (n_a ca_:Nat) (a:Blk) (ka:Nat) (ha:BlkI C (.slice aa n_a ca_) a ka) (w:World) (its:List It) (l:Int) (hG:Gi C w its l) (hl0:0<=l) (hl2:l+2*(k0+1+ka:Nat)<=100000000) (hil:its.length+24*(k0+1+ka)<=8000000)  :
  Calls Tryz.prog 106 #[.pointer (some ⟨C.P,0,none⟩),.agg #[.iface t0 y0,.slice aa n_a ca_]] w fun x w'=>(∃u,x = .returned u)/\Wi C w its ([markI 2 l]++(g0 0 (l+2)).1++[branI 4 5 (l+1)]++(a (g0 0 (l+2)).2).1++[markI 4 l,markI 2 (l+1)]) ((a (g0 0 (l+2)).2).2) w':=by
 have HC:=hide hC
 have HG:=hide hG
 have HX0:=hide hx0
 have HB0:=hide hb0
 obtain ⟨W2,hW2⟩ : ∃W2,W2=w.alloc (.cells #[.iface t0 y0,.slice aa n_a ca_] 177):=⟨_,rfl⟩
 have hb2:Bl w W2:=by rw [hW2];exact (Below.refl _ _).alloc (Nat.le_refl _) _
 have HG2:Hid (Gi C W2 its l):=HG.out.below hb2
 have HWw:Hid (∀ {new l' w'},Wi C W2 its new l' w'->Wi C w its new l' w'):=fun h=>h.pre (Wq.below HG.out.es.lt hb2)
 have HCl:Hid (∀w',Wq 5 C.P W2 w'->(w'.cell? ⟨w.heap.size,0,none⟩=some (.iface t0 y0))/\(w'.cell? ⟨w.heap.size,1,none⟩=some (.slice aa n_a ca_))):=fun w' h=>⟨HG.out.box (.cells #[.iface t0 y0,.slice aa n_a ca_] 177) (by simp) (by rw [<-hW2];exact h),HG.out.box (.cells #[.iface t0 y0,.slice aa n_a ca_] 177) (by simp) (by rw [<-hW2];exact h)⟩
 have HW2:=hide hW2
 obtain ⟨q0a,q0b,q0c⟩:=hb0 (0) (l+2)
 obtain ⟨c0,m0,hG0⟩ : ∃c m,g0 (0) (l+2)=(c,m):=⟨_,_,rfl⟩
 rw [hG0] at q0a q0b q0c
 simp only at q0a q0b q0c
 have HCd:Hid (∀(W:World) (its':List It),Gi C W its' (l+2)->its'.length+24*k0<=8000000->Calls Tryz.prog 136 #[.pointer (some ⟨C.P,0,none⟩),.iface t0 y0,.int .i64 (l+1)] W fun x w'=>(∃u,x = .returned u)/\Wi C W its' (c0++[branI 4 5 (l+1)]) m0 w'):=fun W its' hg hln=>by
  have:=conditionI C HC.out W its' (l+2) hg t0 y0 g0 k0 HX0.out HB0.out (l+1) hk0 o_ o_ hln
  rw [hG0] at this
  exact this
 obtain ⟨raa,rab,rac⟩:=ha.1 (m0)
 obtain ⟨ba,na,hBa⟩ : ∃c m,a (m0)=(c,m):=⟨_,_,rfl⟩
 rw [hBa] at raa rab rac
 simp only at raa rab rac
 have HKa:Hid (∀(W:World) (its':List It),Gi C W its' (m0)->its'.length+24*ka<=8000000->Calls Tryz.prog 54 #[.pointer (some ⟨C.P,0,none⟩),.slice aa n_a ca_] W fun x w'=>(∃u,x = .returned u)/\Wi C W its' ba na w'):=fun W its' hg hln=>by
  have:=ha.2 W its' (m0) hg o_ o_ hln
  rw [hBa] at this
  exact this
 go_enter Tryz.func106,Tryz.ntmps106
 go_wp2_with fail
 rw [<-HW2.out]
 refine (labI C HC.out W2 its (l) HG2.out o_).mono ?_
 rintro x w_1 ⟨rfl,hw_1⟩
 have HW_1:=hide hw_1
 go_wp2_with fail
 refine (labI C HC.out _ _ _ HW_1.out.gs o_).mono ?_
 rintro x w_2 ⟨rfl,hw_2⟩
 have HW_2:Hid (Wi C W2 its ([]++[]) (l+1+1) w_2):=HW_1.out.trans hw_2
 rw [show l+1+1=l+2 by omega] at HW_2
 go_wp2_with fail
 refine (markI_any C HC.out _ _ _ HW_2.out.gs 2 l (by (try simp only [l_a,l_c,l_n]);omega)).mono ?_
 rintro x w_3 ⟨⟨u_3,rfl⟩,hw_3⟩
 have HW_3:Hid (Wi C W2 its ([]++[]++[markI 2 l]) (l+2) w_3):=HW_2.out.trans hw_3
 obtain ⟨e0,e1⟩:=HCl.out w_3 HW_3.out.wq
 go_wp2_with fail
 refine (HCd.out _ _ HW_3.out.gs (by (try simp only [l_a,l_c,l_n]);omega)).mono ?_
 rintro x w_4 ⟨⟨u_4,rfl⟩,hw_4⟩
 have HW_4:=hide (HW_3.out.trans hw_4)
 obtain ⟨e0,e1⟩:=HCl.out w_4 HW_4.out.wq
 go_wp2_with fail
 refine (HKa.out _ _ HW_4.out.gs (by (try simp only [l_a,l_c,l_n]);omega)).mono ?_
 rintro x w_5 ⟨⟨u_5,rfl⟩,hw_5⟩
 have HW_5:=hide (HW_4.out.trans hw_5)
 go_wp2_with fail
 refine (markI_any C HC.out _ _ _ HW_5.out.gs 4 l (by (try simp only [l_a,l_c,l_n]);omega)).mono ?_
 rintro x w_6 ⟨⟨u_6,rfl⟩,hw_6⟩
 have HW_6:=hide (HW_5.out.trans hw_6)
 go_wp2_with fail
 refine (markI_any C HC.out _ _ _ HW_6.out.gs 2 (l+1) (by (try simp only [l_a,l_c,l_n]);omega)).mono ?_
 rintro x w_7 ⟨⟨u_7,rfl⟩,hw_7⟩
 have HW_7:=hide (HW_6.out.trans hw_7)
 go_wp2_with fail
 have HZ:=HWw.out HW_7.out
 refine bodyPost_end (v:=.tuple #[]) (by simp [results,Tryz.results106,go_sem]) rfl ⟨⟨_,rfl⟩,?_⟩
 simp only [hG0,hBa]
 try simp only [List.append_assoc,List.cons_append,List.nil_append] at HZ ⊢
 exact HZ
theorem cut_parts {r b:List St} {i j:Nat} (h:i+j<=r.length):(r++b).take i=r.take i/\((r++b).drop i).take j=(r.drop i).take j/\(r++b).drop (i+j)=r.drop (i+j)++b/\((r++b).take (i+j)).drop i=(r.take (i+j)).drop i:=by
 refine ⟨List.take_append_of_le_length o_,?_,List.drop_append_of_le_length h,?_⟩
 ·rw [List.drop_append_of_le_length o_,List.take_append_of_le_length (by simp;omega)]
 ·rw [List.take_append_of_le_length h]
theorem fit_append (N:Nat) : ∀a b:List St,a.length<=N->fitB a=true->fitB b=true->fitB (a++b)=true:=by
 induction N with
 | zero=>
  intro a b hl ha hb
  have:a = []:=List.eq_nil_of_length_eq_zero o_
  subst this
  simpa using hb
 | succ N ih=>
  intro a b hl ha hb
  cases a with
  | nil=>simpa using hb
  | cons s r=>
   rw [fitB_cons] at ha
   simp only [Bool.and_eq_true,decide_eq_true_eq] at ha
   obtain ⟨⟨p1,p2,p3,p4⟩,f1,f2,f3⟩:=ha
   simp only [l_c] at hl
   obtain ⟨e1,e2,e3,e4⟩:=cut_parts (r:=r) (b:=b) (i:=s.thn.toNat) (j:=s.els.toNat) o_
   rw [List.cons_append,fitB_cons,e1,e3,e4]
   simp only [Bool.and_eq_true,decide_eq_true_eq]
   exact ⟨⟨p1,by simp;omega,p3,by simp;omega⟩,f1,f2,ih _ _ (by simp;omega) f3 hb⟩
theorem joinS_fit {F:Nat->List St} : ∀A,(∀i,i<A->fitB (F i)=true)->fitB (joinS F A)=true
 | 0,_=>rfl
 | A+1,h=>by
  simp only [joinS]
  exact fit_append _ _ _ (Nat.le_refl _) (joinS_fit A (fun i hi=>h i o_)) (h A o_)
theorem Bv.pos {w:World} {S:Nat->Prop} {v:Value} {r:List St} (h:Bv w S v r):0<r.length:=by
 cases h using Bv_i <;> simp
theorem joinS_len {F:Nat->List St} : ∀A,(∀i,i<A->0<(F i).length)->A<=(joinS F A).length
 | 0,_=>Nat.zero_le _
 | A+1,h=>by
  have:=joinS_len A (fun i hi=>h i o_)
  have:=h A o_
  simp only [joinS,l_a]
  omega
theorem fit_two {s:St} {a b:List St} (h1:s.thn=a.length) (h2:s.els=b.length) (ha:fitB a=true) (hb:fitB b=true):fitB (s::a++b)=true:=by
 rw [List.cons_append,fitB_cons]
 have e1:s.thn.toNat=a.length:=by omega
 have e2:s.els.toNat=b.length:=by omega
 rw [e1,e2]
 simp only [Bool.and_eq_true,decide_eq_true_eq]
 refine ⟨⟨by omega,by simp;omega,by omega,by simp;omega⟩,by simpa using ha,?_,?_⟩
 ·rw [List.take_of_length_le (by simp),List.drop_left];exact hb
 ·rw [List.drop_of_length_le (by simp)];rfl
theorem fit_one {s:St} (h1:s.thn=0) (h2:s.els=0):fitB [s]=true:=by
 have:=fit_two (s:=s) (a:=[]) (b:=[]) (by simpa using h1) (by simpa using h2) rfl rfl
 simpa using this
theorem Bv.fit {w:World} {S:Nat->Prop} {v:Value} {r:List St} (h:Bv w S v r):fitB r=true:=by
 induction h using Bv_i with
 | decl s x h1 h2 h3 h4=>exact fit_one h3 h4
 | set s x h1 h2 h3 h4=>exact fit_one h3 h4
 | store s x y h1 h2 h3 h4 h5=>exact fit_one h4 h5
 | ifs s x va vb A B vs us F H h1 h2 h3 h4 h5 h6 h7 h8 ih1 ih2=>exact fit_two h7 h8 (joinS_fit A ih1) (joinS_fit B ih2)
 | whil s x va A vs F h1 h2 h3 h4 h5 h6 ih=>
  have:=fit_two (s:=s) (a:=joinS F A) (b:=[]) h5 (by simpa using h6) (joinS_fit A ih) rfl
  simpa using this
 | ret s x h1 h2 h3 h4=>exact fit_one h3 h4
 | out s x h1 h2 h3 h4=>exact fit_one h3 h4
 | call s x h1 h2 h3 h4=>exact fit_one h3 h4
theorem code_cbN (E:GEnv) (N:Nat) : ∀e:List Nd,e.length<=N->oneB e=true->∃g,EA (genN E) e g/\CB e.length g:=by
 induction N with
 | zero=>intro e hl h;have:=one_pos h;omega
 | succ N ih=>
  intro e hl h
  obtain ⟨A,b,hc,hk⟩:=one_cuts h
  have h0 : ∀i,∃g,i<A->EA (genN E) (kid e b i) g/\CB (kid e b i).length g:=by
   intro i
   by_cases hi:i<A
   ·obtain ⟨g,hg⟩:=ih (kid e b i) (by have:=hc.kid_lt i hi;omega) (hk i hi)
    exact ⟨g,fun _=>hg⟩
   ·exact ⟨fun _ l=>([],l),fun h=>absurd h hi⟩
  refine ⟨_,EA.cut (gen_own E) hc (G:=fun i=>(h0 i).choose) (fun i hi=>((h0 i).choose_spec hi).1),?_⟩
  rw [<-cut_len hc]
  exact gen_cb E hc.root_good hc.ar (F:=kid e b) (fun i hi=>((h0 i).choose_spec hi).2)
theorem code_cb (E:GEnv) {e:List Nd} (h:oneB e=true):CB e.length (codeE E e):=by
 obtain ⟨g,h1,h2⟩:=code_cbN E e.length e (Nat.le_refl _) h
 unfold codeE
 rw [h1.eq]
 exact h2
theorem codeB_append (E:GEnv) (en:Int) (N:Nat) : ∀(a b:List St) (l:Int),a.length<=N->fitB a=true->codeB E en (a++b) l=((codeB E en a l).1++(codeB E en b (codeB E en a l).2).1,(codeB E en b (codeB E en a l).2).2):=by
 induction N with
 | zero=>
  intro a b l hl ha
  have:a = []:=List.eq_nil_of_length_eq_zero o_
  subst this
  simp [codeB_nil]
 | succ N ih=>
  intro a b l hl ha
  cases a with
  | nil=>simp [codeB_nil]
  | cons s r=>
   rw [fitB_cons] at ha
   simp only [Bool.and_eq_true,decide_eq_true_eq] at ha
   obtain ⟨⟨p1,p2,p3,p4⟩,f1,f2,f3⟩:=ha
   simp only [l_c] at hl
   obtain ⟨e1,e2,e3,e4⟩:=cut_parts (r:=r) (b:=b) (i:=s.thn.toNat) (j:=s.els.toNat) o_
   rw [List.cons_append,codeB_cons,e1,e2,e3,ih _ _ _ (by simp;omega) f3,codeB_cons]
   simp only [List.append_assoc]
theorem codeB_one (E:GEnv) (en:Int) (s:St) (l:Int):codeB E en [s] l=codeS E en s (codeB E en []) (codeB E en []) l:=by
 rw [codeB_cons]
 simp [codeB_nil]
theorem codeB_two (E:GEnv) (en:Int) {s:St} {a b:List St} (h1:s.thn=a.length) (h2:s.els=b.length) (l:Int):codeB E en (s::a++b) l=codeS E en s (codeB E en a) (codeB E en b) l:=by
 rw [List.cons_append,codeB_cons]
 have e1:s.thn.toNat=a.length:=by omega
 have e2:s.els.toNat=b.length:=by omega
 rw [e1,e2,List.take_left,List.drop_left,List.take_of_length_le (Nat.le_refl _),List.drop_of_length_le (by simp),codeB_nil]
 simp
end Go.Proofs.YtnpidjamplmgjaaGreatDoor
