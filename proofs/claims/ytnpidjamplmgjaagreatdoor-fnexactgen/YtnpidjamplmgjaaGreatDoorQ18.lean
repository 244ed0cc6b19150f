import Derived.Test.YtnpidjamplmgjaaGreatDoorQ17
import Derived.RegionTactic
import Derived.Deep.RegionHeld3
set_option linter.unusedSectionVars false
variable [Inhabited Go.Proofs.YtnpidjamplmgjaaGreatDoor.Pick]
namespace Go.Proofs.YtnpidjamplmgjaaGreatDoor
open Go.RowKit
set_option linter.unusedVariables false
set_option linter.unusedSimpArgs false
set_option maxRecDepth 100000
set_option maxHeartbeats 16000000
theorem sa_decl_yes (W:World) (v:Value):(Instr.typeAssert (.iface 180 v) 136 180 true).run Tryz.prog W = .ok (.tuple #[v,.bool true]) W:=by kernel_rfl
theorem sa_decl_no (W:World) (u:TypeId) (v:Value) (h:u≠180):(Instr.typeAssert (.iface u v) 136 180 true).run Tryz.prog W = .ok (.tuple #[.agg #[.string ⟨#[]⟩,.nilIface],.bool false]) W:=by
 have e:(Instr.typeAssert (.iface u v) 136 180 true).run Tryz.prog W=(if u=180 then (pure (Value.tuple #[v,.bool true]):Sem Value) else (do pure (Value.tuple #[<-zeroValue 180,.bool false]))).run Tryz.prog W:=by kernel_rfl
 rw [e,if_neg h]
 show _=_;kernel_rfl
theorem sa_set_yes (W:World) (v:Value):(Instr.typeAssert (.iface 181 v) 136 181 true).run Tryz.prog W = .ok (.tuple #[v,.bool true]) W:=by kernel_rfl
theorem sa_set_no (W:World) (u:TypeId) (v:Value) (h:u≠181):(Instr.typeAssert (.iface u v) 136 181 true).run Tryz.prog W = .ok (.tuple #[.agg #[.string ⟨#[]⟩,.nilIface],.bool false]) W:=by
 have e:(Instr.typeAssert (.iface u v) 136 181 true).run Tryz.prog W=(if u=181 then (pure (Value.tuple #[v,.bool true]):Sem Value) else (do pure (Value.tuple #[<-zeroValue 181,.bool false]))).run Tryz.prog W:=by kernel_rfl
 rw [e,if_neg h]
 show _=_;kernel_rfl
theorem sa_store_yes (W:World) (v:Value):(Instr.typeAssert (.iface 183 v) 136 183 true).run Tryz.prog W = .ok (.tuple #[v,.bool true]) W:=by kernel_rfl
theorem sa_store_no (W:World) (u:TypeId) (v:Value) (h:u≠183):(Instr.typeAssert (.iface u v) 136 183 true).run Tryz.prog W = .ok (.tuple #[.agg #[.string ⟨#[]⟩,.nilIface,.nilIface],.bool false]) W:=by
 have e:(Instr.typeAssert (.iface u v) 136 183 true).run Tryz.prog W=(if u=183 then (pure (Value.tuple #[v,.bool true]):Sem Value) else (do pure (Value.tuple #[<-zeroValue 183,.bool false]))).run Tryz.prog W:=by kernel_rfl
 rw [e,if_neg h]
 show _=_;kernel_rfl
theorem sa_if_yes (W:World) (v:Value):(Instr.typeAssert (.iface 174 v) 136 174 true).run Tryz.prog W = .ok (.tuple #[v,.bool true]) W:=by kernel_rfl
theorem sa_if_no (W:World) (u:TypeId) (v:Value) (h:u≠174):(Instr.typeAssert (.iface u v) 136 174 true).run Tryz.prog W = .ok (.tuple #[.agg #[.nilIface,.slice none 0 0,.slice none 0 0],.bool false]) W:=by
 have e:(Instr.typeAssert (.iface u v) 136 174 true).run Tryz.prog W=(if u=174 then (pure (Value.tuple #[v,.bool true]):Sem Value) else (do pure (Value.tuple #[<-zeroValue 174,.bool false]))).run Tryz.prog W:=by kernel_rfl
 rw [e,if_neg h]
 show _=_;kernel_rfl
theorem sa_while_yes (W:World) (v:Value):(Instr.typeAssert (.iface 177 v) 136 177 true).run Tryz.prog W = .ok (.tuple #[v,.bool true]) W:=by kernel_rfl
theorem sa_while_no (W:World) (u:TypeId) (v:Value) (h:u≠177):(Instr.typeAssert (.iface u v) 136 177 true).run Tryz.prog W = .ok (.tuple #[.agg #[.nilIface,.slice none 0 0],.bool false]) W:=by
 have e:(Instr.typeAssert (.iface u v) 136 177 true).run Tryz.prog W=(if u=177 then (pure (Value.tuple #[v,.bool true]):Sem Value) else (do pure (Value.tuple #[<-zeroValue 177,.bool false]))).run Tryz.prog W:=by kernel_rfl
 rw [e,if_neg h]
 show _=_;kernel_rfl
theorem sa_return_yes (W:World) (v:Value):(Instr.typeAssert (.iface 185 v) 136 185 true).run Tryz.prog W = .ok (.tuple #[v,.bool true]) W:=by kernel_rfl
theorem sa_return_no (W:World) (u:TypeId) (v:Value) (h:u≠185):(Instr.typeAssert (.iface u v) 136 185 true).run Tryz.prog W = .ok (.tuple #[.agg #[.nilIface],.bool false]) W:=by
 have e:(Instr.typeAssert (.iface u v) 136 185 true).run Tryz.prog W=(if u=185 then (pure (Value.tuple #[v,.bool true]):Sem Value) else (do pure (Value.tuple #[<-zeroValue 185,.bool false]))).run Tryz.prog W:=by kernel_rfl
 rw [e,if_neg h]
 show _=_;kernel_rfl
theorem sa_out_yes (W:World) (v:Value):(Instr.typeAssert (.iface 186 v) 136 186 true).run Tryz.prog W = .ok (.tuple #[v,.bool true]) W:=by kernel_rfl
theorem sa_out_no (W:World) (u:TypeId) (v:Value) (h:u≠186):(Instr.typeAssert (.iface u v) 136 186 true).run Tryz.prog W = .ok (.tuple #[.agg #[.nilIface],.bool false]) W:=by
 have e:(Instr.typeAssert (.iface u v) 136 186 true).run Tryz.prog W=(if u=186 then (pure (Value.tuple #[v,.bool true]):Sem Value) else (do pure (Value.tuple #[<-zeroValue 186,.bool false]))).run Tryz.prog W:=by kernel_rfl
 rw [e,if_neg h]
 show _=_;kernel_rfl
theorem ex_decl (s:ByteArray) (t0:TypeId) (y0:Value) (w:World):Calls Tryz.prog 240 #[.agg #[.string s,.iface t0 y0]] w fun e w'=>e = .returned (.slice (some ⟨w.heap.size+1,0,none⟩) 1 1)/\Below w.heap.size w w'/\w'.cell? ⟨w.heap.size+1,0,none⟩=some (.iface t0 y0):=by
 go_enter Tryz.func240,Tryz.ntmps240
 go_wp2_with fail
 go_ret
 exact ⟨by simp,(bel_a _ _).alloc (by simp) _,by simp⟩
theorem ex_set (s:ByteArray) (t0:TypeId) (y0:Value) (w:World):Calls Tryz.prog 241 #[.agg #[.string s,.iface t0 y0]] w fun e w'=>e = .returned (.slice (some ⟨w.heap.size+1,0,none⟩) 1 1)/\Below w.heap.size w w'/\w'.cell? ⟨w.heap.size+1,0,none⟩=some (.iface t0 y0):=by
 go_enter Tryz.func241,Tryz.ntmps241
 go_wp2_with fail
 go_ret
 exact ⟨by simp,(bel_a _ _).alloc (by simp) _,by simp⟩
theorem ex_store (s:ByteArray) (t0:TypeId) (y0:Value) (t1:TypeId) (y1:Value) (w:World):Calls Tryz.prog 242 #[.agg #[.string s,.iface t0 y0,.iface t1 y1]] w fun e w'=>e = .returned (.slice (some ⟨w.heap.size+1,0,none⟩) 2 2)/\Below w.heap.size w w'/\w'.cell? ⟨w.heap.size+1,0,none⟩=some (.iface t0 y0)/\w'.cell? ⟨w.heap.size+1,1,none⟩=some (.iface t1 y1):=by
 go_enter Tryz.func242,Tryz.ntmps242
 go_wp2_with fail
 go_ret
 exact ⟨by simp,(bel_a _ _).alloc (by simp) _,by simp,by simp⟩
theorem ex_return (t0:TypeId) (y0:Value) (w:World):Calls Tryz.prog 243 #[.agg #[.iface t0 y0]] w fun e w'=>e = .returned (.slice (some ⟨w.heap.size+1,0,none⟩) 1 1)/\Below w.heap.size w w'/\w'.cell? ⟨w.heap.size+1,0,none⟩=some (.iface t0 y0):=by
 go_enter Tryz.func243,Tryz.ntmps243
 go_wp2_with fail
 go_ret
 exact ⟨by simp,(bel_a _ _).alloc (by simp) _,by simp⟩
theorem ex_out (t0:TypeId) (y0:Value) (w:World):Calls Tryz.prog 244 #[.agg #[.iface t0 y0]] w fun e w'=>e = .returned (.slice (some ⟨w.heap.size+1,0,none⟩) 1 1)/\Below w.heap.size w w'/\w'.cell? ⟨w.heap.size+1,0,none⟩=some (.iface t0 y0):=by
 go_enter Tryz.func244,Tryz.ntmps244
 go_wp2_with fail
 go_ret
 exact ⟨by simp,(bel_a _ _).alloc (by simp) _,by simp⟩
theorem ex_call (t0:TypeId) (y0:Value) (w:World):Calls Tryz.prog 245 #[.agg #[.iface t0 y0]] w fun e w'=>e = .returned (.slice (some ⟨w.heap.size+1,0,none⟩) 1 1)/\Below w.heap.size w w'/\w'.cell? ⟨w.heap.size+1,0,none⟩=some (.iface t0 y0):=by
 go_enter Tryz.func245,Tryz.ntmps245
 go_wp2_with fail
 go_ret
 exact ⟨by simp,(bel_a _ _).alloc (by simp) _,by simp⟩
theorem assignI (C:IC) (hC:C.Ok) (w:World) (its:List It) (l:Int) (hG:Gi C w its l) (s:ByteArray) (r:Int) (hs:s.size<=maxLen) (hm:C.E.loc s=none->s∈C.t.globals.map (·.name)) (hi:its.length<=8999900) :
  Calls Tryz.prog 138 #[.pointer (some ⟨C.P,0,none⟩),.string s,.int .i64 r] w fun e w'=>(∃u,e = .returned u)/\Wi C w its (assignL C.E s r) l w':=by
 have HC:=hide hC
 have HG:=hide hG
 cases hloc:C.E.loc s with
 | some z=>
  have HL:=locate_loc C hC w its l hG s hs z hloc
  have HE:Hid (assignL C.E s r = [insI 11 0 2 r z]):=by show _=_;simp [assignL,hloc]
  go_enter Tryz.func138,Tryz.ntmps138
  go_wp2_with fail
  refine HL.mono ?_
  rintro x w0 ⟨rfl,hw0⟩
  rw [hw0]
  go_wp2_with fail
  refine (storeWordI C HC.out w its l HG.out r 2 z o_).mono ?_
  rintro x w1 ⟨⟨u,rfl⟩,hw⟩
  have HW:=hide hw
  go_wp2_with fail
  exact bodyPost_end (v:=.tuple #[]) (by simp [results,Tryz.results138,go_sem]) rfl ⟨⟨_,rfl⟩,by rw [HE.out];exact HW.out⟩
 | none=>
  have HL:=hide (locate_glob C hC w its l hG s hs (hm hloc) hloc o_)
  have HE:Hid (assignL C.E s r=loadL 31 (C.E.glob s)++[insI 11 0 31 r 0]):=by show _=_;simp [assignL,hloc]
  have r1:=loadL_len 31 (C.E.glob s)
  go_enter Tryz.func138,Tryz.ntmps138
  go_wp2_with fail
  refine HL.out.mono ?_
  rintro x w0 ⟨rfl,hw0⟩
  have HW0:=hide hw0
  go_wp2_with fail
  refine (storeWordI C HC.out w0 _ l HW0.out.gs r 31 0 (by simp only [l_a];omega)).mono ?_
  rintro x w1 ⟨⟨u,rfl⟩,hw⟩
  have HW:=hide (HW0.out.trans hw)
  go_wp2_with fail
  exact bodyPost_end (v:=.tuple #[]) (by simp [results,Tryz.results138,go_sem]) rfl ⟨⟨_,rfl⟩,by rw [HE.out];exact HW.out⟩
theorem conditionI (C:IC) (hC:C.Ok) (w:World) (its:List It) (l:Int) (hG:Gi C w its l) (t0:TypeId) (y0:Value) (g0:Cod) (k0:Nat) (hx0:ExprI C (.iface t0 y0) g0 k0) (hb0:CB k0 g0) (lb:Int) (hk:k0<=2000) (hl0:0<=l) (hl2:l+k0<=100000000) (hi:its.length+24*k0<=8000000) :
  Calls Tryz.prog 136 #[.pointer (some ⟨C.P,0,none⟩),.iface t0 y0,.int .i64 lb] w fun e w'=>(∃u,e = .returned u)/\Wi C w its ((g0 0 l).1++[branI 4 5 lb]) (g0 0 l).2 w':=by
 have HC:=hide hC
 have HX:=hide (hx0 w its l 0 hG o_ o_ hl0 hl2 hi)
 obtain ⟨q1,q2,q3⟩:=hb0 0 l
 go_enter Tryz.func136,Tryz.ntmps136
 go_wp2_with fail
 refine HX.out.mono ?_
 rintro x w1 ⟨⟨u,rfl⟩,hw⟩
 have HW:=hide hw
 have hr:w1.cell? ⟨0,0,none⟩=some (.int .i64 5):=hw.gs.reg HC.out 0 (by decide)
 go_wp2_with fail
 refine (branI_any C HC.out w1 _ _ HW.out.gs 4 5 lb (by simp only [l_a];omega)).mono ?_
 rintro x w2 ⟨⟨u2,rfl⟩,hw2⟩
 have HW2:=hide (HW.out.trans hw2)
 go_wp2_with fail
 exact bodyPost_end (v:=.tuple #[]) (by simp [results,Tryz.results136,go_sem]) rfl ⟨⟨_,rfl⟩,HW2.out⟩
theorem plain_out (C:IC) (hC:C.Ok) (t0:TypeId) (y0:Value) (g0:Cod) (k0:Nat) (hx0:ExprI C (.iface t0 y0) g0 k0) (hb0:CB k0 g0) (hk0:k0<=2000)  (w:World) (its:List It) (l:Int) (hG:Gi C w its l) (hl0:0<=l) (hl2:l+2*(k0+1:Nat)<=100000000) (hil:its.length+24*(k0+1)<=8000000) :
  Calls Tryz.prog 107 #[.pointer (some ⟨C.P,0,none⟩),.iface 186 (.agg #[.iface t0 y0])] w fun x w'=>(∃u,x = .returned u)/\Wi C w its ((g0 0 l).1++[insI 12 10 5 0 0,insI 12 17 0 0 1,insI 34 0 0 0 0]) ((g0 0 l).2) w':=by
 have HC:=hide hC
 have HG:=hide hG
 obtain ⟨q0a,q0b,q0c⟩:=hb0 (0) (l)
 obtain ⟨c0,m0,hG0⟩ : ∃c m,g0 (0) (l)=(c,m):=⟨_,_,rfl⟩
 rw [hG0] at q0a q0b q0c
 simp only at q0a q0b q0c
 have HC0:Hid (∀(W:World) (its':List It),Gi C W its' (l)->its'.length+24*k0<=8000000->Calls Tryz.prog 137 #[.pointer (some ⟨C.P,0,none⟩),.iface t0 y0,.int .i64 (0)] W fun x w'=>(∃u,x = .returned u)/\Wi C W its' c0 m0 w'):=fun W its' hg hln=>by
  have:=hx0 W its' (l) (0) hg o_ o_ o_ o_ hln
  rw [hG0] at this
  exact this
 have HM : ∀W:World,(method 424 186 (.agg #[.iface t0 y0]) "loop.example/s01725/impl.expressions").run Tryz.prog W = .ok (244,.agg #[.iface t0 y0]) W:=fun W=>by kernel_rfl
 have y_decl:=fun W v=>sa_decl_no W 186 v (by decide)
 have y_set:=fun W v=>sa_set_no W 186 v (by decide)
 have y_store:=fun W v=>sa_store_no W 186 v (by decide)
 have y_return:=fun W v=>sa_return_no W 186 v (by decide)
 have y_out:=sa_out_yes
 go_enter Tryz.func107,Tryz.ntmps107
 go_wp2_with fail
 refine (ex_out t0 y0 w).mono ?_
 rintro x W2 ⟨rfl,hb2,hce⟩
 have HG2:Hid (Gi C W2 its l):=HG.out.below hb2
 have HWw:Hid (∀ {new l' w'},Wi C W2 its new l' w'->Wi C w its new l' w'):=fun h=>h.pre (Wq.below HG.out.es.lt hb2)
 have HCl:Hid (∀w',Wq 5 C.P W2 w'->w'.cell? ⟨w.heap.size+1,0,none⟩=some (.iface t0 y0)):=fun w' h=>by
  have hp:=HG.out.es.lt
  have a1:w.heap.size+1≠C.P:=by omega
  have a2:some (w.heap.size+1)≠rbq 5 W2 C.P:=fun e=>by
   rw [rbq_bel hb2 hp] at e
   have:=HG.out.es.rlt5 e.symm
   omega
  have e0:=hce
  exact h.cell a1 a2 e0
 go_wp2_with fail
 go_loopw [16] (fun i wr=>∃k:Nat,k<=1/\i = .int .i64 k/\Wi C W2 its ((fun k:Nat=>if k=0 then (([]:List It),l) else (c0,m0)) k).1 ((fun k:Nat=>if k=0 then (([]:List It),l) else (c0,m0)) k).2 wr) (fun i _=>1-(RowKit.intOf i).toNat)
 case atStart=>exact ⟨0,by omega,rfl,Wi.nil HG2.out⟩
 case round=>
  obtain ⟨k,hk,rfl,hW⟩:=hrel
  have HW:=hide hW
  have hk2:k=0∨k=1:=by omega
  rcases hk2 with rfl | rfl
  ·have HW0:Hid (Wi C W2 its ([]) (l) wr):=HW.out
   have HCk:Hid (Calls Tryz.prog 137 #[.pointer (some ⟨C.P,0,none⟩),.iface t0 y0,.int .i64 0] wr fun x w'=>(∃u,x = .returned u)/\Wi C W2 its (c0) (m0) w'):=by
    refine (HC0.out wr _ HW0.out.gs (by simp only [l_a,l_n];omega)).mono ?_
    rintro x w' ⟨hu,h2⟩
    exact ⟨hu,by have h3:=HW0.out.trans h2;simpa using h3⟩
   have e0:=HCl.out wr HW0.out.wq
   go_wp2_with fail
   refine HCk.out.mono ?_
   rintro x w3 ⟨⟨u,rfl⟩,hw3⟩
   have HR:=hide hw3
   go_wp2_with fail
   go_roundw
   case rel=>exact ⟨1,by omega,by go_num,HR.out⟩
   case measure=>simp [RowKit.intOf]
  ·have HW_0:Hid (Wi C W2 its c0 m0 wr):=HW.out
   have r0:wr.drew.cell? ⟨0,0,none⟩=some (.int .i64 5):=HW_0.out.gs.reg HC.out 0 (by decide)
   have r1:wr.drew.cell? ⟨0,1,none⟩=some (.int .i64 6):=HW_0.out.gs.reg HC.out 1 (by decide)
   have H1:Hid (∀W,Bl wr W->Calls Tryz.prog 140 #[.pointer (some ⟨C.P,0,none⟩),.int .i64 10,.int .i64 5] W fun e w'=>(∃u,e = .returned u)/\Wi C W2 its (c0++[insI 12 10 5 0 0]) (m0) w'):=fun W hW=>by
    refine (copyRegI C HC.out W _ _ (HW_0.out.gs.below hW) 10 5 (by (try simp only [l_a,l_c,l_n]);omega)).mono ?_
    rintro e w' ⟨hu,h2⟩
    exact ⟨hu,HW_0.out.trans (Wi.preB HW_0.out.gs hW h2)⟩
   go_wp2_with fail
   go_region
   skip
   go_wp2_with fail
   refine (H1.out _ (by first | exact (Below.refl _ _).drew | exact (Below.refl _ _).drew.alloc (Nat.le_refl _) _ | exact ((Below.refl _ _).drew.drew).alloc (Nat.le_refl _) _)).mono ?_
   rintro x w_1 ⟨⟨u_1,rfl⟩,hw_1⟩
   have HW_1:=hide hw_1
   go_wp2_with fail
   refine (systemI C HC.out _ _ _ HW_1.out.gs 1 (by (try simp only [l_a,l_c,l_n]);omega) o_).mono ?_
   rintro x w_2 ⟨⟨u_2,rfl⟩,hw_2⟩
   have HW_2:=hide (HW_1.out.trans hw_2)
   go_wp2_with fail
   have HZ:=HWw.out HW_2.out
   refine bodyPost_end (v:=.tuple #[]) (by simp [results,Tryz.results107,go_sem]) rfl ⟨⟨_,rfl⟩,?_⟩
   simp only [hG0]
   try simp only [List.append_assoc,List.cons_append,List.nil_append] at HZ ⊢
   exact HZ
theorem plain_return (C:IC) (hC:C.Ok) (t0:TypeId) (y0:Value) (g0:Cod) (k0:Nat) (hx0:ExprI C (.iface t0 y0) g0 k0) (hb0:CB k0 g0) (hk0:k0<=2000)  (w:World) (its:List It) (l:Int) (hG:Gi C w its l) (hl0:0<=l) (hl2:l+2*(k0+1:Nat)<=100000000) (hil:its.length+24*(k0+1)<=8000000) :
  Calls Tryz.prog 107 #[.pointer (some ⟨C.P,0,none⟩),.iface 185 (.agg #[.iface t0 y0])] w fun x w'=>(∃u,x = .returned u)/\Wi C w its ((g0 0 l).1++[insI 12 10 5 0 0,markI 4 C.en]) ((g0 0 l).2) w':=by
 have HC:=hide hC
 have HG:=hide hG
 obtain ⟨q0a,q0b,q0c⟩:=hb0 (0) (l)
 obtain ⟨c0,m0,hG0⟩ : ∃c m,g0 (0) (l)=(c,m):=⟨_,_,rfl⟩
 rw [hG0] at q0a q0b q0c
 simp only at q0a q0b q0c
 have HC0:Hid (∀(W:World) (its':List It),Gi C W its' (l)->its'.length+24*k0<=8000000->Calls Tryz.prog 137 #[.pointer (some ⟨C.P,0,none⟩),.iface t0 y0,.int .i64 (0)] W fun x w'=>(∃u,x = .returned u)/\Wi C W its' c0 m0 w'):=fun W its' hg hln=>by
  have:=hx0 W its' (l) (0) hg o_ o_ o_ o_ hln
  rw [hG0] at this
  exact this
 have HM : ∀W:World,(method 424 185 (.agg #[.iface t0 y0]) "loop.example/s01725/impl.expressions").run Tryz.prog W = .ok (243,.agg #[.iface t0 y0]) W:=fun W=>by kernel_rfl
 have y_decl:=fun W v=>sa_decl_no W 185 v (by decide)
 have y_set:=fun W v=>sa_set_no W 185 v (by decide)
 have y_store:=fun W v=>sa_store_no W 185 v (by decide)
 have y_return:=sa_return_yes
 go_enter Tryz.func107,Tryz.ntmps107
 go_wp2_with fail
 refine (ex_return t0 y0 w).mono ?_
 rintro x W2 ⟨rfl,hb2,hce⟩
 have HG2:Hid (Gi C W2 its l):=HG.out.below hb2
 have HWw:Hid (∀ {new l' w'},Wi C W2 its new l' w'->Wi C w its new l' w'):=fun h=>h.pre (Wq.below HG.out.es.lt hb2)
 have HCl:Hid (∀w',Wq 5 C.P W2 w'->w'.cell? ⟨w.heap.size+1,0,none⟩=some (.iface t0 y0)):=fun w' h=>by
  have hp:=HG.out.es.lt
  have a1:w.heap.size+1≠C.P:=by omega
  have a2:some (w.heap.size+1)≠rbq 5 W2 C.P:=fun e=>by
   rw [rbq_bel hb2 hp] at e
   have:=HG.out.es.rlt5 e.symm
   omega
  have e0:=hce
  exact h.cell a1 a2 e0
 go_wp2_with fail
 go_loopw [16] (fun i wr=>∃k:Nat,k<=1/\i = .int .i64 k/\Wi C W2 its ((fun k:Nat=>if k=0 then (([]:List It),l) else (c0,m0)) k).1 ((fun k:Nat=>if k=0 then (([]:List It),l) else (c0,m0)) k).2 wr) (fun i _=>1-(RowKit.intOf i).toNat)
 case atStart=>exact ⟨0,by omega,rfl,Wi.nil HG2.out⟩
 case round=>
  obtain ⟨k,hk,rfl,hW⟩:=hrel
  have HW:=hide hW
  have hk2:k=0∨k=1:=by omega
  rcases hk2 with rfl | rfl
  ·have HW0:Hid (Wi C W2 its ([]) (l) wr):=HW.out
   have HCk:Hid (Calls Tryz.prog 137 #[.pointer (some ⟨C.P,0,none⟩),.iface t0 y0,.int .i64 0] wr fun x w'=>(∃u,x = .returned u)/\Wi C W2 its (c0) (m0) w'):=by
    refine (HC0.out wr _ HW0.out.gs (by simp only [l_a,l_n];omega)).mono ?_
    rintro x w' ⟨hu,h2⟩
    exact ⟨hu,by have h3:=HW0.out.trans h2;simpa using h3⟩
   have e0:=HCl.out wr HW0.out.wq
   go_wp2_with fail
   refine HCk.out.mono ?_
   rintro x w3 ⟨⟨u,rfl⟩,hw3⟩
   have HR:=hide hw3
   go_wp2_with fail
   go_roundw
   case rel=>exact ⟨1,by omega,by go_num,HR.out⟩
   case measure=>simp [RowKit.intOf]
  ·have HW_0:Hid (Wi C W2 its c0 m0 wr):=HW.out
   have r0:wr.drew.cell? ⟨0,0,none⟩=some (.int .i64 5):=HW_0.out.gs.reg HC.out 0 (by decide)
   have r1:wr.drew.cell? ⟨0,1,none⟩=some (.int .i64 6):=HW_0.out.gs.reg HC.out 1 (by decide)
   have H1:Hid (∀W,Bl wr W->Calls Tryz.prog 140 #[.pointer (some ⟨C.P,0,none⟩),.int .i64 10,.int .i64 5] W fun e w'=>(∃u,e = .returned u)/\Wi C W2 its (c0++[insI 12 10 5 0 0]) (m0) w'):=fun W hW=>by
    refine (copyRegI C HC.out W _ _ (HW_0.out.gs.below hW) 10 5 (by (try simp only [l_a,l_c,l_n]);omega)).mono ?_
    rintro e w' ⟨hu,h2⟩
    exact ⟨hu,HW_0.out.trans (Wi.preB HW_0.out.gs hW h2)⟩
   go_wp2_with fail
   go_region
   skip
   go_wp2_with fail
   refine (H1.out _ (by first | exact (Below.refl _ _).drew | exact (Below.refl _ _).drew.alloc (Nat.le_refl _) _ | exact ((Below.refl _ _).drew.drew).alloc (Nat.le_refl _) _)).mono ?_
   rintro x w_1 ⟨⟨u_1,rfl⟩,hw_1⟩
   have HW_1:=hide hw_1
   have p7:w_1.cell? ⟨C.P,7,none⟩=some (.int .i64 C.en):=HW_1.out.gs.es.oth 7 (by decide) (by decide)
   go_wp2_with fail
   refine (markI_any C HC.out _ _ _ HW_1.out.gs 4 C.en (by (try simp only [l_a,l_c,l_n]);omega)).mono ?_
   rintro x w_2 ⟨⟨u_2,rfl⟩,hw_2⟩
   have HW_2:=hide (HW_1.out.trans hw_2)
   go_wp2_with fail
   have HZ:=HWw.out HW_2.out
   refine bodyPost_end (v:=.tuple #[]) (by simp [results,Tryz.results107,go_sem]) rfl ⟨⟨_,rfl⟩,?_⟩
   simp only [hG0]
   try simp only [List.append_assoc,List.cons_append,List.nil_append] at HZ ⊢
   exact HZ
theorem plain_decl (C:IC) (hC:C.Ok) (s:ByteArray) (t0:TypeId) (y0:Value) (g0:Cod) (k0:Nat) (hx0:ExprI C (.iface t0 y0) g0 k0) (hb0:CB k0 g0) (hk0:k0<=2000) (hs:s.size<=maxLen) (hm:C.E.loc s=none->s∈C.t.globals.map (·.name)) (w:World) (its:List It) (l:Int) (hG:Gi C w its l) (hl0:0<=l) (hl2:l+2*(k0+1:Nat)<=100000000) (hil:its.length+24*(k0+1)<=8000000) :
  Calls Tryz.prog 107 #[.pointer (some ⟨C.P,0,none⟩),.iface 180 (.agg #[.string s,.iface t0 y0])] w fun x w'=>(∃u,x = .returned u)/\Wi C w its ((g0 0 l).1++assignL C.E s 5) ((g0 0 l).2) w':=by
 have HC:=hide hC
 have HG:=hide hG
 have HS:=hide hs
 have HN:=hide hm
 obtain ⟨q0a,q0b,q0c⟩:=hb0 (0) (l)
 obtain ⟨c0,m0,hG0⟩ : ∃c m,g0 (0) (l)=(c,m):=⟨_,_,rfl⟩
 rw [hG0] at q0a q0b q0c
 simp only at q0a q0b q0c
 have HC0:Hid (∀(W:World) (its':List It),Gi C W its' (l)->its'.length+24*k0<=8000000->Calls Tryz.prog 137 #[.pointer (some ⟨C.P,0,none⟩),.iface t0 y0,.int .i64 (0)] W fun x w'=>(∃u,x = .returned u)/\Wi C W its' c0 m0 w'):=fun W its' hg hln=>by
  have:=hx0 W its' (l) (0) hg o_ o_ o_ o_ hln
  rw [hG0] at this
  exact this
 have HM : ∀W:World,(method 424 180 (.agg #[.string s,.iface t0 y0]) "loop.example/s01725/impl.expressions").run Tryz.prog W = .ok (240,.agg #[.string s,.iface t0 y0]) W:=fun W=>by kernel_rfl
 have y_decl:=sa_decl_yes
 go_enter Tryz.func107,Tryz.ntmps107
 go_wp2_with fail
 refine (ex_decl s t0 y0 w).mono ?_
 rintro x W2 ⟨rfl,hb2,hce⟩
 have HG2:Hid (Gi C W2 its l):=HG.out.below hb2
 have HWw:Hid (∀ {new l' w'},Wi C W2 its new l' w'->Wi C w its new l' w'):=fun h=>h.pre (Wq.below HG.out.es.lt hb2)
 have HCl:Hid (∀w',Wq 5 C.P W2 w'->w'.cell? ⟨w.heap.size+1,0,none⟩=some (.iface t0 y0)):=fun w' h=>by
  have hp:=HG.out.es.lt
  have a1:w.heap.size+1≠C.P:=by omega
  have a2:some (w.heap.size+1)≠rbq 5 W2 C.P:=fun e=>by
   rw [rbq_bel hb2 hp] at e
   have:=HG.out.es.rlt5 e.symm
   omega
  have e0:=hce
  exact h.cell a1 a2 e0
 go_wp2_with fail
 go_loopw [16] (fun i wr=>∃k:Nat,k<=1/\i = .int .i64 k/\Wi C W2 its ((fun k:Nat=>if k=0 then (([]:List It),l) else (c0,m0)) k).1 ((fun k:Nat=>if k=0 then (([]:List It),l) else (c0,m0)) k).2 wr) (fun i _=>1-(RowKit.intOf i).toNat)
 case atStart=>exact ⟨0,by omega,rfl,Wi.nil HG2.out⟩
 case round=>
  obtain ⟨k,hk,rfl,hW⟩:=hrel
  have HW:=hide hW
  have hk2:k=0∨k=1:=by omega
  rcases hk2 with rfl | rfl
  ·have HW0:Hid (Wi C W2 its ([]) (l) wr):=HW.out
   have HCk:Hid (Calls Tryz.prog 137 #[.pointer (some ⟨C.P,0,none⟩),.iface t0 y0,.int .i64 0] wr fun x w'=>(∃u,x = .returned u)/\Wi C W2 its (c0) (m0) w'):=by
    refine (HC0.out wr _ HW0.out.gs (by simp only [l_a,l_n];omega)).mono ?_
    rintro x w' ⟨hu,h2⟩
    exact ⟨hu,by have h3:=HW0.out.trans h2;simpa using h3⟩
   have e0:=HCl.out wr HW0.out.wq
   go_wp2_with fail
   refine HCk.out.mono ?_
   rintro x w3 ⟨⟨u,rfl⟩,hw3⟩
   have HR:=hide hw3
   go_wp2_with fail
   go_roundw
   case rel=>exact ⟨1,by omega,by go_num,HR.out⟩
   case measure=>simp [RowKit.intOf]
  ·have HW_0:Hid (Wi C W2 its c0 m0 wr):=HW.out
   have r0:wr.drew.cell? ⟨0,0,none⟩=some (.int .i64 5):=HW_0.out.gs.reg HC.out 0 (by decide)
   have r1:wr.drew.cell? ⟨0,1,none⟩=some (.int .i64 6):=HW_0.out.gs.reg HC.out 1 (by decide)
   have H1:Hid (∀W,Bl wr W->Calls Tryz.prog 138 #[.pointer (some ⟨C.P,0,none⟩),.string s,.int .i64 5] W fun e w'=>(∃u,e = .returned u)/\Wi C W2 its (c0++assignL C.E s 5) (m0) w'):=fun W hW=>by
    refine (assignI C HC.out W _ _ (HW_0.out.gs.below hW) s 5 HS.out HN.out (by have r_5:=loadL_len 31 (C.E.glob s);(try simp only [l_a,l_c,l_n]);omega)).mono ?_
    rintro e w' ⟨hu,h2⟩
    exact ⟨hu,HW_0.out.trans (Wi.preB HW_0.out.gs hW h2)⟩
   go_wp2_with fail
   go_region
   skip
   go_wp2_with fail
   refine (H1.out _ (by first | exact (Below.refl _ _).drew | exact (Below.refl _ _).drew.alloc (Nat.le_refl _) _ | exact ((Below.refl _ _).drew.drew).alloc (Nat.le_refl _) _)).mono ?_
   rintro x w_1 ⟨⟨u_1,rfl⟩,hw_1⟩
   have HW_1:=hide hw_1
   go_wp2_with fail
   have HZ:=HWw.out HW_1.out
   refine bodyPost_end (v:=.tuple #[]) (by simp [results,Tryz.results107,go_sem]) rfl ⟨⟨_,rfl⟩,?_⟩
   simp only [hG0]
   try simp only [List.append_assoc,List.cons_append,List.nil_append] at HZ ⊢
   exact HZ
theorem plain_set (C:IC) (hC:C.Ok) (s:ByteArray) (t0:TypeId) (y0:Value) (g0:Cod) (k0:Nat) (hx0:ExprI C (.iface t0 y0) g0 k0) (hb0:CB k0 g0) (hk0:k0<=2000) (hs:s.size<=maxLen) (hm:C.E.loc s=none->s∈C.t.globals.map (·.name)) (w:World) (its:List It) (l:Int) (hG:Gi C w its l) (hl0:0<=l) (hl2:l+2*(k0+1:Nat)<=100000000) (hil:its.length+24*(k0+1)<=8000000) :
  Calls Tryz.prog 107 #[.pointer (some ⟨C.P,0,none⟩),.iface 181 (.agg #[.string s,.iface t0 y0])] w fun x w'=>(∃u,x = .returned u)/\Wi C w its ((g0 0 l).1++assignL C.E s 5) ((g0 0 l).2) w':=by
 have HC:=hide hC
 have HG:=hide hG
 have HS:=hide hs
 have HN:=hide hm
 obtain ⟨q0a,q0b,q0c⟩:=hb0 (0) (l)
 obtain ⟨c0,m0,hG0⟩ : ∃c m,g0 (0) (l)=(c,m):=⟨_,_,rfl⟩
 rw [hG0] at q0a q0b q0c
 simp only at q0a q0b q0c
 have HC0:Hid (∀(W:World) (its':List It),Gi C W its' (l)->its'.length+24*k0<=8000000->Calls Tryz.prog 137 #[.pointer (some ⟨C.P,0,none⟩),.iface t0 y0,.int .i64 (0)] W fun x w'=>(∃u,x = .returned u)/\Wi C W its' c0 m0 w'):=fun W its' hg hln=>by
  have:=hx0 W its' (l) (0) hg o_ o_ o_ o_ hln
  rw [hG0] at this
  exact this
 have HM : ∀W:World,(method 424 181 (.agg #[.string s,.iface t0 y0]) "loop.example/s01725/impl.expressions").run Tryz.prog W = .ok (241,.agg #[.string s,.iface t0 y0]) W:=fun W=>by kernel_rfl
 have y_decl:=fun W v=>sa_decl_no W 181 v (by decide)
 have y_set:=sa_set_yes
 go_enter Tryz.func107,Tryz.ntmps107
 go_wp2_with fail
 refine (ex_set s t0 y0 w).mono ?_
 rintro x W2 ⟨rfl,hb2,hce⟩
 have HG2:Hid (Gi C W2 its l):=HG.out.below hb2
 have HWw:Hid (∀ {new l' w'},Wi C W2 its new l' w'->Wi C w its new l' w'):=fun h=>h.pre (Wq.below HG.out.es.lt hb2)
 have HCl:Hid (∀w',Wq 5 C.P W2 w'->w'.cell? ⟨w.heap.size+1,0,none⟩=some (.iface t0 y0)):=fun w' h=>by
  have hp:=HG.out.es.lt
  have a1:w.heap.size+1≠C.P:=by omega
  have a2:some (w.heap.size+1)≠rbq 5 W2 C.P:=fun e=>by
   rw [rbq_bel hb2 hp] at e
   have:=HG.out.es.rlt5 e.symm
   omega
  have e0:=hce
  exact h.cell a1 a2 e0
 go_wp2_with fail
 go_loopw [16] (fun i wr=>∃k:Nat,k<=1/\i = .int .i64 k/\Wi C W2 its ((fun k:Nat=>if k=0 then (([]:List It),l) else (c0,m0)) k).1 ((fun k:Nat=>if k=0 then (([]:List It),l) else (c0,m0)) k).2 wr) (fun i _=>1-(RowKit.intOf i).toNat)
 case atStart=>exact ⟨0,by omega,rfl,Wi.nil HG2.out⟩
 case round=>
  obtain ⟨k,hk,rfl,hW⟩:=hrel
  have HW:=hide hW
  have hk2:k=0∨k=1:=by omega
  rcases hk2 with rfl | rfl
  ·have HW0:Hid (Wi C W2 its ([]) (l) wr):=HW.out
   have HCk:Hid (Calls Tryz.prog 137 #[.pointer (some ⟨C.P,0,none⟩),.iface t0 y0,.int .i64 0] wr fun x w'=>(∃u,x = .returned u)/\Wi C W2 its (c0) (m0) w'):=by
    refine (HC0.out wr _ HW0.out.gs (by simp only [l_a,l_n];omega)).mono ?_
    rintro x w' ⟨hu,h2⟩
    exact ⟨hu,by have h3:=HW0.out.trans h2;simpa using h3⟩
   have e0:=HCl.out wr HW0.out.wq
   go_wp2_with fail
   refine HCk.out.mono ?_
   rintro x w3 ⟨⟨u,rfl⟩,hw3⟩
   have HR:=hide hw3
   go_wp2_with fail
   go_roundw
   case rel=>exact ⟨1,by omega,by go_num,HR.out⟩
   case measure=>simp [RowKit.intOf]
  ·have HW_0:Hid (Wi C W2 its c0 m0 wr):=HW.out
   have r0:wr.drew.cell? ⟨0,0,none⟩=some (.int .i64 5):=HW_0.out.gs.reg HC.out 0 (by decide)
   have r1:wr.drew.cell? ⟨0,1,none⟩=some (.int .i64 6):=HW_0.out.gs.reg HC.out 1 (by decide)
   have H1:Hid (∀W,Bl wr W->Calls Tryz.prog 138 #[.pointer (some ⟨C.P,0,none⟩),.string s,.int .i64 5] W fun e w'=>(∃u,e = .returned u)/\Wi C W2 its (c0++assignL C.E s 5) (m0) w'):=fun W hW=>by
    refine (assignI C HC.out W _ _ (HW_0.out.gs.below hW) s 5 HS.out HN.out (by have r_5:=loadL_len 31 (C.E.glob s);(try simp only [l_a,l_c,l_n]);omega)).mono ?_
    rintro e w' ⟨hu,h2⟩
    exact ⟨hu,HW_0.out.trans (Wi.preB HW_0.out.gs hW h2)⟩
   go_wp2_with fail
   go_region
   skip
   go_wp2_with fail
   refine (H1.out _ (by first | exact (Below.refl _ _).drew | exact (Below.refl _ _).drew.alloc (Nat.le_refl _) _ | exact ((Below.refl _ _).drew.drew).alloc (Nat.le_refl _) _)).mono ?_
   rintro x w_1 ⟨⟨u_1,rfl⟩,hw_1⟩
   have HW_1:=hide hw_1
   go_wp2_with fail
   have HZ:=HWw.out HW_1.out
   refine bodyPost_end (v:=.tuple #[]) (by simp [results,Tryz.results107,go_sem]) rfl ⟨⟨_,rfl⟩,?_⟩
   simp only [hG0]
   try simp only [List.append_assoc,List.cons_append,List.nil_append] at HZ ⊢
   exact HZ
theorem plain_store (C:IC) (hC:C.Ok) (s:ByteArray) (t0:TypeId) (y0:Value) (g0:Cod) (k0:Nat) (hx0:ExprI C (.iface t0 y0) g0 k0) (hb0:CB k0 g0) (hk0:k0<=2000) (t1:TypeId) (y1:Value) (g1:Cod) (k1:Nat) (hx1:ExprI C (.iface t1 y1) g1 k1) (hb1:CB k1 g1) (hk1:k1<=2000) (hs:s.size<=maxLen) (hm:s∈C.t.globals.map (·.name)) (w:World) (its:List It) (l:Int) (hG:Gi C w its l) (hl0:0<=l) (hl2:l+2*(k0+k1+1:Nat)<=100000000) (hil:its.length+24*(k0+k1+1)<=8000000) :
  Calls Tryz.prog 107 #[.pointer (some ⟨C.P,0,none⟩),.iface 183 (.agg #[.string s,.iface t0 y0,.iface t1 y1])] w fun x w'=>(∃u,x = .returned u)/\Wi C w its ((g0 0 l).1++(g1 1 (g0 0 l).2).1++[insI 18 5 5 0 2]++loadL 31 (C.E.glob s)++[insI 21 31 31 5 0,insI 11 0 31 6 0]) ((g1 1 (g0 0 l).2).2) w':=by
 have HC:=hide hC
 have HG:=hide hG
 have HS:=hide hs
 have HN:=hide hm
 obtain ⟨q0a,q0b,q0c⟩:=hb0 (0) (l)
 obtain ⟨c0,m0,hG0⟩ : ∃c m,g0 (0) (l)=(c,m):=⟨_,_,rfl⟩
 rw [hG0] at q0a q0b q0c
 simp only at q0a q0b q0c
 have HC0:Hid (∀(W:World) (its':List It),Gi C W its' (l)->its'.length+24*k0<=8000000->Calls Tryz.prog 137 #[.pointer (some ⟨C.P,0,none⟩),.iface t0 y0,.int .i64 (0)] W fun x w'=>(∃u,x = .returned u)/\Wi C W its' c0 m0 w'):=fun W its' hg hln=>by
  have:=hx0 W its' (l) (0) hg o_ o_ o_ o_ hln
  rw [hG0] at this
  exact this
 obtain ⟨q1a,q1b,q1c⟩:=hb1 (1) (m0)
 obtain ⟨c1,m1,hG1⟩ : ∃c m,g1 (1) (m0)=(c,m):=⟨_,_,rfl⟩
 rw [hG1] at q1a q1b q1c
 simp only at q1a q1b q1c
 have HC1:Hid (∀(W:World) (its':List It),Gi C W its' (m0)->its'.length+24*k1<=8000000->Calls Tryz.prog 137 #[.pointer (some ⟨C.P,0,none⟩),.iface t1 y1,.int .i64 (1)] W fun x w'=>(∃u,x = .returned u)/\Wi C W its' c1 m1 w'):=fun W its' hg hln=>by
  have:=hx1 W its' (m0) (1) hg o_ o_ o_ o_ hln
  rw [hG1] at this
  exact this
 have HM : ∀W:World,(method 424 183 (.agg #[.string s,.iface t0 y0,.iface t1 y1]) "loop.example/s01725/impl.expressions").run Tryz.prog W = .ok (242,.agg #[.string s,.iface t0 y0,.iface t1 y1]) W:=fun W=>by kernel_rfl
 have y_decl:=fun W v=>sa_decl_no W 183 v (by decide)
 have y_set:=fun W v=>sa_set_no W 183 v (by decide)
 have y_store:=sa_store_yes
 go_enter Tryz.func107,Tryz.ntmps107
 go_wp2_with fail
 refine (ex_store s t0 y0 t1 y1 w).mono ?_
 rintro x W2 ⟨rfl,hb2,hce⟩
 have HG2:Hid (Gi C W2 its l):=HG.out.below hb2
 have HWw:Hid (∀ {new l' w'},Wi C W2 its new l' w'->Wi C w its new l' w'):=fun h=>h.pre (Wq.below HG.out.es.lt hb2)
 have HCl:Hid (∀w',Wq 5 C.P W2 w'->w'.cell? ⟨w.heap.size+1,0,none⟩=some (.iface t0 y0)/\w'.cell? ⟨w.heap.size+1,1,none⟩=some (.iface t1 y1)):=fun w' h=>by
  have hp:=HG.out.es.lt
  have a1:w.heap.size+1≠C.P:=by omega
  have a2:some (w.heap.size+1)≠rbq 5 W2 C.P:=fun e=>by
   rw [rbq_bel hb2 hp] at e
   have:=HG.out.es.rlt5 e.symm
   omega
  obtain ⟨e0,e1⟩:=hce
  exact ⟨h.cell a1 a2 e0,h.cell a1 a2 e1⟩
 go_wp2_with fail
 go_loopw [16] (fun i wr=>∃k:Nat,k<=2/\i = .int .i64 k/\Wi C W2 its ((fun k:Nat=>if k=0 then (([]:List It),l) else if k=1 then (c0,m0) else (c0++c1,m1)) k).1 ((fun k:Nat=>if k=0 then (([]:List It),l) else if k=1 then (c0,m0) else (c0++c1,m1)) k).2 wr) (fun i _=>2-(RowKit.intOf i).toNat)
 case atStart=>exact ⟨0,by omega,rfl,Wi.nil HG2.out⟩
 case round=>
  obtain ⟨k,hk,rfl,hW⟩:=hrel
  have HW:=hide hW
  have hk2:k=0∨k=1∨k=2:=by omega
  rcases hk2 with rfl | rfl | rfl
  ·have HW0:Hid (Wi C W2 its ([]) (l) wr):=HW.out
   have HCk:Hid (Calls Tryz.prog 137 #[.pointer (some ⟨C.P,0,none⟩),.iface t0 y0,.int .i64 0] wr fun x w'=>(∃u,x = .returned u)/\Wi C W2 its (c0) (m0) w'):=by
    refine (HC0.out wr _ HW0.out.gs (by simp only [l_a,l_n];omega)).mono ?_
    rintro x w' ⟨hu,h2⟩
    exact ⟨hu,by have h3:=HW0.out.trans h2;simpa using h3⟩
   obtain ⟨e0,e1⟩:=HCl.out wr HW0.out.wq
   go_wp2_with fail
   refine HCk.out.mono ?_
   rintro x w3 ⟨⟨u,rfl⟩,hw3⟩
   have HR:=hide hw3
   go_wp2_with fail
   go_roundw
   case rel=>exact ⟨1,by omega,by go_num,HR.out⟩
   case measure=>simp [RowKit.intOf]
  ·have HW0:Hid (Wi C W2 its (c0) (m0) wr):=HW.out
   have HCk:Hid (Calls Tryz.prog 137 #[.pointer (some ⟨C.P,0,none⟩),.iface t1 y1,.int .i64 1] wr fun x w'=>(∃u,x = .returned u)/\Wi C W2 its (c0++c1) (m1) w'):=by
    refine (HC1.out wr _ HW0.out.gs (by simp only [l_a,l_n];omega)).mono ?_
    rintro x w' ⟨hu,h2⟩
    exact ⟨hu,by have h3:=HW0.out.trans h2;simpa using h3⟩
   obtain ⟨e0,e1⟩:=HCl.out wr HW0.out.wq
   go_wp2_with fail
   refine HCk.out.mono ?_
   rintro x w3 ⟨⟨u,rfl⟩,hw3⟩
   have HR:=hide hw3
   go_wp2_with fail
   go_roundw
   case rel=>exact ⟨2,by omega,by go_num,HR.out⟩
   case measure=>simp [RowKit.intOf]
  ·have HW_0:Hid (Wi C W2 its (c0++c1) m1 wr):=HW.out
   have r0:wr.drew.cell? ⟨0,0,none⟩=some (.int .i64 5):=HW_0.out.gs.reg HC.out 0 (by decide)
   have r1:wr.drew.cell? ⟨0,1,none⟩=some (.int .i64 6):=HW_0.out.gs.reg HC.out 1 (by decide)
   have H1:Hid (∀W,Bl wr W->Calls Tryz.prog 139 #[.pointer (some ⟨C.P,0,none⟩),.string s,.int .i64 5] W fun e w'=>(∃u,e = .returned u)/\Wi C W2 its (c0++c1++([insI 18 5 5 0 2]++loadL 31 (C.E.glob s)++[insI 21 31 31 5 0])) (m1) w'):=fun W hW=>by
    refine (loadElementI C HC.out W _ _ (HW_0.out.gs.below hW) s 5 (by have r_5:=loadL_len 31 (C.E.glob s);(try simp only [l_a,l_c,l_n]);omega) HS.out HN.out).mono ?_
    rintro e w' ⟨hu,h2⟩
    exact ⟨hu,HW_0.out.trans (Wi.preB HW_0.out.gs hW h2)⟩
   go_wp2_with fail
   go_region
   skip
   go_wp2_with fail
   refine (H1.out _ (by first | exact (Below.refl _ _).drew | exact (Below.refl _ _).drew.alloc (Nat.le_refl _) _ | exact ((Below.refl _ _).drew.drew).alloc (Nat.le_refl _) _)).mono ?_
   rintro x w_1 ⟨⟨u_1,rfl⟩,hw_1⟩
   have HW_1:=hide hw_1
   go_wp2_with fail
   refine (storeWordI C HC.out _ _ _ HW_1.out.gs 6 31 0 (by have r_5:=loadL_len 31 (C.E.glob s);(try simp only [l_a,l_c,l_n]);omega)).mono ?_
   rintro x w_2 ⟨⟨u_2,rfl⟩,hw_2⟩
   have HW_2:=hide (HW_1.out.trans hw_2)
   go_wp2_with fail
   have HZ:=HWw.out HW_2.out
   refine bodyPost_end (v:=.tuple #[]) (by simp [results,Tryz.results107,go_sem]) rfl ⟨⟨_,rfl⟩,?_⟩
   simp only [hG0,hG1]
   try simp only [List.append_assoc,List.cons_append,List.nil_append] at HZ ⊢
   exact HZ
end Go.Proofs.YtnpidjamplmgjaaGreatDoor
