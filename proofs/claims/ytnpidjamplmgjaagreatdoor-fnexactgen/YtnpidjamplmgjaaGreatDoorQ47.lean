import Derived.Test.YtnpidjamplmgjaaGreatDoorQ31
import Derived.OwnWalk
import Derived.Laws.OwnMore
set_option linter.unusedSectionVars false
variable [Inhabited Go.Proofs.YtnpidjamplmgjaaGreatDoor.Pick]
namespace Go.Proofs.YtnpidjamplmgjaaGreatDoor
open Go.RowKit
set_option linter.unusedVariables false
set_option linter.unusedSimpArgs false
set_option maxRecDepth 100000
set_option maxHeartbeats 16000000
theorem szNode_any (n:Nd) (left:Int) (w:World) (hl:0<=left/\left<=1048576) (hw:n.name.size<=9223372036854775807) :
  Calls Tryz.prog 142 #[.agg #[.int .i64 n.kind,.int .i64 n.val,.string n.name],.int .i64 left] w fun e w'=>e = .returned (.int .i64 (szR left (szN n)))/\Below w.heap.size w w':=by
 obtain ⟨k,v,s⟩:=n
 simp only at hw ⊢
 by_cases h:left<(s.size:Int)
 ·rw [show szR left (szN ⟨k,v,s⟩) = -1 from szR_gt h]
  go_enter Tryz.func142,Tryz.ntmps142
  go_wp2_with fail
  go_ret
  exact ⟨rfl,(Below.refl _ _).alloc (Nat.le_refl _) _⟩
 ·rw [show szR left (szN ⟨k,v,s⟩)=left-s.size from szR_le (by simp only [szN];omega)]
  go_enter Tryz.func142,Tryz.ntmps142
  go_wp2_with fail
  go_ret
  exact ⟨rfl,(Below.refl _ _).alloc (Nat.le_refl _) _⟩
theorem szGlob_any (g:Gl) (left:Int) (w:World) (hl:0<=left/\left<=1048576) (hw:g.name.size<=9223372036854775807) :
  Calls Tryz.prog 33 #[.agg #[.string g.name,.int .i64 g.size],.int .i64 left] w fun e w'=>e = .returned (.int .i64 (szR left (szG g)))/\Below w.heap.size w w':=by
 obtain ⟨s,z⟩:=g
 simp only at hw ⊢
 by_cases h:left<(s.size:Int)
 ·rw [show szR left (szG ⟨s,z⟩) = -1 from szR_gt h]
  go_enter Tryz.func33,Tryz.ntmps33
  go_wp2_with fail
  go_ret
  exact ⟨rfl,(Below.refl _ _).alloc (Nat.le_refl _) _⟩
 ·rw [show szR left (szG ⟨s,z⟩)=left-s.size from szR_le (by simp only [szG];omega)]
  go_enter Tryz.func33,Tryz.ntmps33
  go_wp2_with fail
  go_ret
  exact ⟨rfl,(Below.refl _ _).alloc (Nat.le_refl _) _⟩
theorem szStrs_any (v:Value) (ns:List ByteArray) (left:Int) (w:World) (hl:0<=left/\left<=1048576) (hw:wfPs ns) (hc:Strs w v ns) :
  Calls Tryz.prog 63 #[v,.int .i64 left] w fun e w'=>e = .returned (.int .i64 (szR left (szPs ns)))/\Below w.heap.size w w':=by
 obtain ⟨hw1,hw2⟩:=hw
 have HW:=hide hw2
 obtain ⟨a,cap,rfl,hcl,hcm,hc⟩:=hc
 have HC:=hide hc
 have HZ:Hid (szPs ns=ns.length+sumBy ByteArray.size ns):=rfl
 clear hc hw2
 by_cases h0:left<(ns.length:Int)
 ·rw [szR_gt (show left<(szPs ns:Int) by rw [HZ.out];omega)]
  go_enter Tryz.func63,Tryz.ntmps63
  go_wp2_with fail
  go_ret
  exact ⟨rfl,Below.refl _ _⟩
 go_enter Tryz.func63,Tryz.ntmps63
 go_wp2_with fail
 go_loopw [1,5] (fun q i wr=>∃k:Nat,k<=ns.length/\i = .int .i64 k/\q = .int .i64 (left-ns.length-(sumBy ByteArray.size (ns.take k):Nat))/\0<=left-ns.length-(sumBy ByteArray.size (ns.take k):Nat)/\wr=w) (fun _ i _=>ns.length-(RowKit.intOf i).toNat)
 case atStart=>exact ⟨0,Nat.zero_le _,rfl,by simp [sumBy],by simp [sumBy];omega,rfl⟩
 case round=>
  obtain ⟨k,hk,rfl,rfl,hq,rfl⟩:=hrel
  by_cases hlt:k<ns.length
  ·obtain ⟨b,off,rfl,hc⟩:=HC.out o_
   have d0:=hc k hlt
   have hws:=HW.out ns[k] (List.getElem_mem hlt)
   have HS:Hid _:=sumBy_step ByteArray.size ns k hlt
   have HLE:Hid _:=sumBy_le ByteArray.size ns (k+1)
   clear hc
   generalize ns[k]=s at d0 hws HS
   generalize hm:sumBy ByteArray.size (ns.take k)=m at hq HS ⊢
   clear hm
   by_cases h1:left-ns.length-(m:Int)<(s.size:Int)
   ·have HR:Hid (szR left (szPs ns) = -1):=szR_gt (show left<(szPs ns:Int) by have:=HS.out;have:=HLE.out;rw [HZ.out];omega)
    go_wp2_with fail
    go_ret
    exact ⟨ret_int HR.out.symm,Below.refl _ _⟩
   ·go_wp2_with fail
    go_roundw
    case rel=>exact ⟨k+1,by omega,by go_num,by rw [HS.out];go_num,by rw [HS.out];omega,by first | trivial | rfl⟩
    case measure=>simp [RowKit.intOf];omega
  ·have hE:ns.take k=ns:=List.take_of_length_le o_
   rw [hE] at hq ⊢
   have HR:Hid (szR left (szPs ns)=left-ns.length-(sumBy ByteArray.size ns:Nat)):=by
    show _=_
    rw [szR_le (show (szPs ns:Int)<=left by rw [HZ.out];omega),HZ.out];omega
   clear hE
   go_wp2_with fail
   go_ret
   exact ⟨ret_int HR.out.symm,Below.refl _ _⟩
theorem szNodes_any (v:Value) (ns:List Nd) (left:Int) (w:World) (hl:0<=left/\left<=1048576) (hw:wfNs ns) (hc:Nodes w v ns) :
  Calls Tryz.prog 109 #[v,.int .i64 left] w fun e w'=>e = .returned (.int .i64 (szR left (szNs ns)))/\Below w.heap.size w w':=by
 obtain ⟨hw1,hw2⟩:=hw
 have HW:=hide hw2
 obtain ⟨a,cap,rfl,hcl,hcm,hc⟩:=hc
 have HC:=hide hc
 have HZ:Hid (szNs ns=ns.length+sumBy szN ns):=rfl
 clear hc hw2
 by_cases h0:left<(ns.length:Int)
 ·rw [szR_gt (show left<(szNs ns:Int) by rw [HZ.out];omega)]
  go_enter Tryz.func109,Tryz.ntmps109
  go_wp2_with fail
  go_ret
  exact ⟨rfl,Below.refl _ _⟩
 go_enter Tryz.func109,Tryz.ntmps109
 go_wp2_with fail
 go_loopw [1,5] (fun q i wr=>∃k:Nat,k<=ns.length/\i = .int .i64 k/\q = .int .i64 (left-ns.length-(sumBy szN (ns.take k):Nat))/\0<=left-ns.length-(sumBy szN (ns.take k):Nat)/\Bl w wr) (fun _ i _=>ns.length-(RowKit.intOf i).toNat)
 case atStart=>exact ⟨0,Nat.zero_le _,rfl,by simp [sumBy],by simp [sumBy];omega,Below.refl _ _⟩
 case round=>
  obtain ⟨k,hk,rfl,rfl,hq,hB⟩:=hrel
  by_cases hlt:k<ns.length
  ·obtain ⟨b,off,rfl,hc⟩:=HC.out o_
   obtain ⟨d0,d1,d2⟩:=(hc.below hB) k hlt
   have HWS:Hid (ns[k].name.size<=9223372036854775807):=HW.out ns[k] (List.getElem_mem hlt)
   have HS:Hid _:=sumBy_step szN ns k hlt
   have HLE:Hid _:=sumBy_le szN ns (k+1)
   clear hc
   generalize ns[k]=s at d0 d1 d2 HWS HS
   generalize hm:sumBy szN (ns.take k)=m at hq HS ⊢
   clear hm
   go_wp2_with fail
   refine (szNode_any s _ _ ⟨by omega,by omega⟩ HWS.out).mono ?_
   rintro e w2 ⟨rfl,hb2⟩
   have hB2:=hB.trans (hb2.mono hB.size)
   clear d0 d1 d2
   by_cases h1:left-ns.length-(m:Int)<(szN s:Int)
   ·have HR:Hid (szR left (szNs ns) = -1):=szR_gt (show left<(szNs ns:Int) by have:=HS.out;have:=HLE.out;rw [HZ.out];omega)
    rw [szR_gt h1]
    go_wp2_with fail
    go_ret
    exact ⟨ret_int HR.out.symm,hB2⟩
   ·rw [szR_le (show (szN s:Int)<=left-ns.length-(m:Int) by omega)]
    generalize szN s=z at HS h1 ⊢
    go_wp2_with fail
    go_roundw
    case rel=>exact ⟨k+1,by omega,by go_num,by rw [HS.out];go_num,by rw [HS.out];omega,hB2⟩
    case measure=>simp [RowKit.intOf];omega
  ·have hE:ns.take k=ns:=List.take_of_length_le o_
   rw [hE] at hq ⊢
   have HR:Hid (szR left (szNs ns)=left-ns.length-(sumBy szN ns:Nat)):=by
    show _=_
    rw [szR_le (show (szNs ns:Int)<=left by rw [HZ.out];omega),HZ.out];omega
   clear hE
   go_wp2_with fail
   go_ret
   exact ⟨ret_int HR.out.symm,hB⟩
theorem szGlobs_any (v:Value) (ns:List Gl) (left:Int) (w:World) (hl:0<=left/\left<=1048576) (hw:wfGs ns) (hc:Globs w v ns) :
  Calls Tryz.prog 13 #[v,.int .i64 left] w fun e w'=>e = .returned (.int .i64 (szR left (szGs ns)))/\Below w.heap.size w w':=by
 obtain ⟨hw1,hw2⟩:=hw
 have HW:=hide hw2
 obtain ⟨a,cap,rfl,hcl,hcm,hc⟩:=hc
 have HC:=hide hc
 have HZ:Hid (szGs ns=ns.length+sumBy szG ns):=rfl
 clear hc hw2
 by_cases h0:left<(ns.length:Int)
 ·rw [szR_gt (show left<(szGs ns:Int) by rw [HZ.out];omega)]
  go_enter Tryz.func13,Tryz.ntmps13
  go_wp2_with fail
  go_ret
  exact ⟨rfl,Below.refl _ _⟩
 go_enter Tryz.func13,Tryz.ntmps13
 go_wp2_with fail
 go_loopw [1,5] (fun q i wr=>∃k:Nat,k<=ns.length/\i = .int .i64 k/\q = .int .i64 (left-ns.length-(sumBy szG (ns.take k):Nat))/\0<=left-ns.length-(sumBy szG (ns.take k):Nat)/\Bl w wr) (fun _ i _=>ns.length-(RowKit.intOf i).toNat)
 case atStart=>exact ⟨0,Nat.zero_le _,rfl,by simp [sumBy],by simp [sumBy];omega,Below.refl _ _⟩
 case round=>
  obtain ⟨k,hk,rfl,rfl,hq,hB⟩:=hrel
  by_cases hlt:k<ns.length
  ·obtain ⟨b,off,rfl,hc⟩:=HC.out o_
   obtain ⟨d0,d1⟩:=(hc.below hB) k hlt
   have HWS:Hid (ns[k].name.size<=9223372036854775807):=HW.out ns[k] (List.getElem_mem hlt)
   have HS:Hid _:=sumBy_step szG ns k hlt
   have HLE:Hid _:=sumBy_le szG ns (k+1)
   clear hc
   generalize ns[k]=s at d0 d1 HWS HS
   generalize hm:sumBy szG (ns.take k)=m at hq HS ⊢
   clear hm
   go_wp2_with fail
   refine (szGlob_any s _ _ ⟨by omega,by omega⟩ HWS.out).mono ?_
   rintro e w2 ⟨rfl,hb2⟩
   have hB2:=hB.trans (hb2.mono hB.size)
   clear d0 d1
   by_cases h1:left-ns.length-(m:Int)<(szG s:Int)
   ·have HR:Hid (szR left (szGs ns) = -1):=szR_gt (show left<(szGs ns:Int) by have:=HS.out;have:=HLE.out;rw [HZ.out];omega)
    rw [szR_gt h1]
    go_wp2_with fail
    go_ret
    exact ⟨ret_int HR.out.symm,hB2⟩
   ·rw [szR_le (show (szG s:Int)<=left-ns.length-(m:Int) by omega)]
    generalize szG s=z at HS h1 ⊢
    go_wp2_with fail
    go_roundw
    case rel=>exact ⟨k+1,by omega,by go_num,by rw [HS.out];go_num,by rw [HS.out];omega,hB2⟩
    case measure=>simp [RowKit.intOf];omega
  ·have hE:ns.take k=ns:=List.take_of_length_le o_
   rw [hE] at hq ⊢
   have HR:Hid (szR left (szGs ns)=left-ns.length-(sumBy szG ns:Nat)):=by
    show _=_
    rw [szR_le (show (szGs ns:Int)<=left by rw [HZ.out];omega),HZ.out];omega
   clear hE
   go_wp2_with fail
   go_ret
   exact ⟨ret_int HR.out.symm,hB⟩
theorem szStmt_any (s:St) (ve vf:Value) (left:Int) (w:World) (hl:0<=left/\left<=1048576) (hw:wfSt s) (he:Nodes w ve s.e) (hf:Nodes w vf s.f) :
  Calls Tryz.prog 85 #[.agg #[.int .i64 s.kind,.string s.name,ve,vf,.int .i64 s.thn,.int .i64 s.els],.int .i64 left] w fun e w'=>e = .returned (.int .i64 (szR left (szSt s)))/\Below w.heap.size w w':=by
 obtain ⟨kI,nI,es,fs,tI,lI⟩:=s
 have HWE:Hid (wfNs es):=hw.2.1
 have HWF:Hid (wfNs fs):=hw.2.2
 have hwn:nI.size<=9223372036854775807:=hw.1
 simp only at he hf ⊢
 have HE:=hide he
 have HF:=hide hf
 obtain ⟨ae,ce,rfl,-,-,-⟩:=he
 obtain ⟨af,cf,rfl,-,-,-⟩:=hf
 have HZ:Hid (szSt ⟨kI,nI,es,fs,tI,lI⟩=nI.size+szNs es+szNs fs):=rfl
 generalize szSt ⟨kI,nI,es,fs,tI,lI⟩=zz at HZ ⊢
 clear hw
 by_cases h0:left<(nI.size:Int)
 ·rw [szR_gt (show left<(zz:Int) by rw [HZ.out];omega)]
  go_enter Tryz.func85,Tryz.ntmps85
  go_wp2_with fail
  go_ret
  exact ⟨rfl,(Below.refl _ _).alloc (Nat.le_refl _) _⟩
 go_enter Tryz.func85,Tryz.ntmps85
 go_wp2_with fail
 refine (szNodes_any _ es _ _ ⟨by omega,by omega⟩ HWE.out (HE.out.below (bel_a _ _))).mono ?_
 rintro e w1 ⟨rfl,hb1⟩
 simp only [World.size_alloc] at hb1
 obtain ⟨x0,x1,x2,x3,x4,x5⟩:=box6 hb1
 have hB1:=one_below hb1
 by_cases h1:left-nI.size<(szNs es:Int)
 ·have HR:Hid (szR left zz = -1):=szR_gt (show left<(zz:Int) by rw [HZ.out];omega)
  rw [szR_gt h1]
  go_wp2_with fail
  go_ret
  exact ⟨ret_int HR.out.symm,hB1⟩
 rw [szR_le (show (szNs es:Int)<=left-nI.size by omega)]
 generalize szNs es=ze at HZ h1 ⊢
 go_wp2_with fail
 refine (szNodes_any _ fs _ _ ⟨by omega,by omega⟩ HWF.out (HF.out.below hB1)).mono ?_
 rintro e w2 ⟨rfl,hb2⟩
 have hB2:=hB1.trans (hb2.mono hB1.size)
 clear x0 x1 x2 x3 x4 x5
 by_cases h2:left-nI.size-ze<(szNs fs:Int)
 ·have HR:Hid (szR left zz = -1):=szR_gt (show left<(zz:Int) by rw [HZ.out];omega)
  rw [szR_gt h2]
  go_wp2_with fail
  go_ret
  exact ⟨ret_int HR.out.symm,hB2⟩
 have HR:Hid (left-nI.size-ze-(szNs fs:Nat)=szR left zz):=by
  show _=_
  rw [szR_le (show (zz:Int)<=left by rw [HZ.out];omega),HZ.out];omega
 rw [szR_le (show (szNs fs:Int)<=left-nI.size-ze by omega)]
 generalize szNs fs=zf at HZ HR h2 ⊢
 go_wp2_with fail
 go_ret
 exact ⟨ret_int HR.out,hB2⟩
theorem szStmts_any (v:Value) (ns:List St) (left:Int) (w:World) (hl:0<=left/\left<=1048576) (hw:wfSs ns) (hc:Stmts w v ns) :
  Calls Tryz.prog 64 #[v,.int .i64 left] w fun e w'=>e = .returned (.int .i64 (szR left (szSs ns)))/\Below w.heap.size w w':=by
 obtain ⟨hw1,hw2⟩:=hw
 have HW:=hide hw2
 obtain ⟨a,cap,rfl,hcl,hcm,hc⟩:=hc
 have HC:=hide hc
 have HZ:Hid (szSs ns=ns.length+sumBy szSt ns):=rfl
 clear hc hw2
 by_cases h0:left<(ns.length:Int)
 ·rw [szR_gt (show left<(szSs ns:Int) by rw [HZ.out];omega)]
  go_enter Tryz.func64,Tryz.ntmps64
  go_wp2_with fail
  go_ret
  exact ⟨rfl,Below.refl _ _⟩
 go_enter Tryz.func64,Tryz.ntmps64
 go_wp2_with fail
 go_loopw [1,5] (fun q i wr=>∃k:Nat,k<=ns.length/\i = .int .i64 k/\q = .int .i64 (left-ns.length-(sumBy szSt (ns.take k):Nat))/\0<=left-ns.length-(sumBy szSt (ns.take k):Nat)/\Bl w wr) (fun _ i _=>ns.length-(RowKit.intOf i).toNat)
 case atStart=>exact ⟨0,Nat.zero_le _,rfl,by simp [sumBy],by simp [sumBy];omega,Below.refl _ _⟩
 case round=>
  obtain ⟨k,hk,rfl,rfl,hq,hB⟩:=hrel
  by_cases hlt:k<ns.length
  ·obtain ⟨b,off,rfl,hc⟩:=HC.out o_
   obtain ⟨ve,vf,⟨d0,d1,d2,d3,d4,d5⟩,he,hf⟩:=(hc.below hB) k hlt
   have HWS:Hid (wfSt ns[k]):=HW.out ns[k] (List.getElem_mem hlt)
   have HS:Hid _:=sumBy_step szSt ns k hlt
   have HLE:Hid _:=sumBy_le szSt ns (k+1)
   clear hc
   generalize ns[k]=s at d0 d1 d2 d3 d4 d5 he hf HWS HS
   generalize hm:sumBy szSt (ns.take k)=m at hq HS ⊢
   clear hm
   have HNE:=hide he
   have HNF:=hide hf
   obtain ⟨a2,k2,rfl,-,-,-⟩:=he
   obtain ⟨a3,k3,rfl,-,-,-⟩:=hf
   go_wp2_with fail
   refine (szStmt_any s _ _ _ _ ⟨by omega,by omega⟩ HWS.out HNE.out HNF.out).mono ?_
   rintro e w2 ⟨rfl,hb2⟩
   have hB2:=hB.trans (hb2.mono hB.size)
   clear d0 d1 d2 d3 d4 d5
   by_cases h1:left-ns.length-(m:Int)<(szSt s:Int)
   ·have HR:Hid (szR left (szSs ns) = -1):=szR_gt (show left<(szSs ns:Int) by have:=HS.out;have:=HLE.out;rw [HZ.out];omega)
    rw [szR_gt h1]
    go_wp2_with fail
    go_ret
    exact ⟨ret_int HR.out.symm,hB2⟩
   ·rw [szR_le (show (szSt s:Int)<=left-ns.length-(m:Int) by omega)]
    generalize szSt s=z at HS h1 ⊢
    go_wp2_with fail
    go_roundw
    case rel=>exact ⟨k+1,by omega,by go_num,by rw [HS.out];go_num,by rw [HS.out];omega,hB2⟩
    case measure=>simp [RowKit.intOf];omega
  ·have hE:ns.take k=ns:=List.take_of_length_le o_
   rw [hE] at hq ⊢
   have HR:Hid (szR left (szSs ns)=left-ns.length-(sumBy szSt ns:Nat)):=by
    show _=_
    rw [szR_le (show (szSs ns:Int)<=left by rw [HZ.out];omega),HZ.out];omega
   clear hE
   go_wp2_with fail
   go_ret
   exact ⟨ret_int HR.out.symm,hB⟩
theorem szFunc_any (s:Fu) (ve vf:Value) (left:Int) (w:World) (hl:0<=left/\left<=1048576) (hw:wfFu s) (he:Strs w ve s.params) (hf:Stmts w vf s.body) :
  Calls Tryz.prog 34 #[.agg #[.string s.name,ve,vf],.int .i64 left] w fun e w'=>e = .returned (.int .i64 (szR left (szFu s)))/\Below w.heap.size w w':=by
 obtain ⟨nI,es,fs⟩:=s
 have HWE:Hid (wfPs es):=hw.2.1
 have HWF:Hid (wfSs fs):=hw.2.2
 have hwn:nI.size<=9223372036854775807:=hw.1
 simp only at he hf ⊢
 have HE:=hide he
 have HF:=hide hf
 obtain ⟨ae,ce,rfl,-,-,-⟩:=he
 obtain ⟨af,cf,rfl,-,-,-⟩:=hf
 have HZ:Hid (szFu ⟨nI,es,fs⟩=nI.size+szPs es+szSs fs):=rfl
 generalize szFu ⟨nI,es,fs⟩=zz at HZ ⊢
 clear hw
 by_cases h0:left<(nI.size:Int)
 ·rw [szR_gt (show left<(zz:Int) by rw [HZ.out];omega)]
  go_enter Tryz.func34,Tryz.ntmps34
  go_wp2_with fail
  go_ret
  exact ⟨rfl,(Below.refl _ _).alloc (Nat.le_refl _) _⟩
 go_enter Tryz.func34,Tryz.ntmps34
 go_wp2_with fail
 refine (szStrs_any _ es _ _ ⟨by omega,by omega⟩ HWE.out (HE.out.below (bel_a _ _))).mono ?_
 rintro e w1 ⟨rfl,hb1⟩
 simp only [World.size_alloc] at hb1
 obtain ⟨x0,x1,x2⟩:=box3 hb1
 have hB1:=one_below hb1
 by_cases h1:left-nI.size<(szPs es:Int)
 ·have HR:Hid (szR left zz = -1):=szR_gt (show left<(zz:Int) by rw [HZ.out];omega)
  rw [szR_gt h1]
  go_wp2_with fail
  go_ret
  exact ⟨ret_int HR.out.symm,hB1⟩
 rw [szR_le (show (szPs es:Int)<=left-nI.size by omega)]
 generalize szPs es=ze at HZ h1 ⊢
 go_wp2_with fail
 refine (szStmts_any _ fs _ _ ⟨by omega,by omega⟩ HWF.out (HF.out.below hB1)).mono ?_
 rintro e w2 ⟨rfl,hb2⟩
 have hB2:=hB1.trans (hb2.mono hB1.size)
 clear x0 x1 x2
 by_cases h2:left-nI.size-ze<(szSs fs:Int)
 ·have HR:Hid (szR left zz = -1):=szR_gt (show left<(zz:Int) by rw [HZ.out];omega)
  rw [szR_gt h2]
  go_wp2_with fail
  go_ret
  exact ⟨ret_int HR.out.symm,hB2⟩
 have HR:Hid (left-nI.size-ze-(szSs fs:Nat)=szR left zz):=by
  show _=_
  rw [szR_le (show (zz:Int)<=left by rw [HZ.out];omega),HZ.out];omega
 rw [szR_le (show (szSs fs:Int)<=left-nI.size-ze by omega)]
 generalize szSs fs=zf at HZ HR h2 ⊢
 go_wp2_with fail
 go_ret
 exact ⟨ret_int HR.out,hB2⟩
theorem szFuncs_any (v:Value) (ns:List Fu) (left:Int) (w:World) (hl:0<=left/\left<=1048576) (hw:wfFs ns) (hc:Funcs w v ns) :
  Calls Tryz.prog 14 #[v,.int .i64 left] w fun e w'=>e = .returned (.int .i64 (szR left (szFs ns)))/\Below w.heap.size w w':=by
 obtain ⟨hw1,hw2⟩:=hw
 have HW:=hide hw2
 obtain ⟨a,cap,rfl,hcl,hcm,hc⟩:=hc
 have HC:=hide hc
 have HZ:Hid (szFs ns=ns.length+sumBy szFu ns):=rfl
 clear hc hw2
 by_cases h0:left<(ns.length:Int)
 ·rw [szR_gt (show left<(szFs ns:Int) by rw [HZ.out];omega)]
  go_enter Tryz.func14,Tryz.ntmps14
  go_wp2_with fail
  go_ret
  exact ⟨rfl,Below.refl _ _⟩
 go_enter Tryz.func14,Tryz.ntmps14
 go_wp2_with fail
 go_loopw [1,5] (fun q i wr=>∃k:Nat,k<=ns.length/\i = .int .i64 k/\q = .int .i64 (left-ns.length-(sumBy szFu (ns.take k):Nat))/\0<=left-ns.length-(sumBy szFu (ns.take k):Nat)/\Bl w wr) (fun _ i _=>ns.length-(RowKit.intOf i).toNat)
 case atStart=>exact ⟨0,Nat.zero_le _,rfl,by simp [sumBy],by simp [sumBy];omega,Below.refl _ _⟩
 case round=>
  obtain ⟨k,hk,rfl,rfl,hq,hB⟩:=hrel
  by_cases hlt:k<ns.length
  ·obtain ⟨b,off,rfl,hc⟩:=HC.out o_
   obtain ⟨vp,vb,⟨d0,d1,d2⟩,hp,hb⟩:=(hc.below hB) k hlt
   have HWS:Hid (wfFu ns[k]):=HW.out ns[k] (List.getElem_mem hlt)
   have HS:Hid _:=sumBy_step szFu ns k hlt
   have HLE:Hid _:=sumBy_le szFu ns (k+1)
   clear hc
   generalize ns[k]=s at d0 d1 d2 hp hb HWS HS
   generalize hm:sumBy szFu (ns.take k)=m at hq HS ⊢
   clear hm
   have HNE:=hide hp
   have HNF:=hide hb
   obtain ⟨a2,k2,rfl,-,-,-⟩:=hp
   obtain ⟨a3,k3,rfl,-,-,-⟩:=hb
   go_wp2_with fail
   refine (szFunc_any s _ _ _ _ ⟨by omega,by omega⟩ HWS.out HNE.out HNF.out).mono ?_
   rintro e w2 ⟨rfl,hb2⟩
   have hB2:=hB.trans (hb2.mono hB.size)
   clear d0 d1 d2
   by_cases h1:left-ns.length-(m:Int)<(szFu s:Int)
   ·have HR:Hid (szR left (szFs ns) = -1):=szR_gt (show left<(szFs ns:Int) by have:=HS.out;have:=HLE.out;rw [HZ.out];omega)
    rw [szR_gt h1]
    go_wp2_with fail
    go_ret
    exact ⟨ret_int HR.out.symm,hB2⟩
   ·rw [szR_le (show (szFu s:Int)<=left-ns.length-(m:Int) by omega)]
    generalize szFu s=z at HS h1 ⊢
    go_wp2_with fail
    go_roundw
    case rel=>exact ⟨k+1,by omega,by go_num,by rw [HS.out];go_num,by rw [HS.out];omega,hB2⟩
    case measure=>simp [RowKit.intOf];omega
  ·have hE:ns.take k=ns:=List.take_of_length_le o_
   rw [hE] at hq ⊢
   have HR:Hid (szR left (szFs ns)=left-ns.length-(sumBy szFu ns:Nat)):=by
    show _=_
    rw [szR_le (show (szFs ns:Int)<=left by rw [HZ.out];omega),HZ.out];omega
   clear hE
   go_wp2_with fail
   go_ret
   exact ⟨ret_int HR.out.symm,hB⟩
theorem szTree_any (t:Tr) (vg vf:Value) (left:Int) (w:World) (hl:0<=left/\left<=1048576) (hw:wfT t) (hg:Globs w vg t.globals) (hf:Funcs w vf t.funcs) :
  Calls Tryz.prog 4 #[.agg #[vg,vf],.int .i64 left] w fun e w'=>e = .returned (.int .i64 (szR left (szT t)))/\Below w.heap.size w w':=by
 obtain ⟨gs,fs⟩:=t
 have HWE:Hid (wfGs gs):=hw.1
 have HWF:Hid (wfFs fs):=hw.2
 simp only at hg hf ⊢
 have HE:=hide hg
 have HF:=hide hf
 obtain ⟨ae,ce,rfl,-,-,-⟩:=hg
 obtain ⟨af,cf,rfl,-,-,-⟩:=hf
 have HZ:Hid (szT ⟨gs,fs⟩=szGs gs+szFs fs):=rfl
 generalize szT ⟨gs,fs⟩=zz at HZ ⊢
 clear hw
 go_enter Tryz.func4,Tryz.ntmps4
 go_wp2_with fail
 refine (szGlobs_any _ gs _ _ ⟨by omega,by omega⟩ HWE.out (HE.out.below (bel_a _ _))).mono ?_
 rintro e w1 ⟨rfl,hb1⟩
 simp only [World.size_alloc] at hb1
 obtain ⟨x0,x1⟩:=box2 hb1
 have hB1:=one_below hb1
 by_cases h1:left<(szGs gs:Int)
 ·have HR:Hid (szR left zz = -1):=szR_gt (show left<(zz:Int) by rw [HZ.out];omega)
  rw [szR_gt h1]
  go_wp2_with fail
  go_ret
  exact ⟨ret_int HR.out.symm,hB1⟩
 rw [szR_le (show (szGs gs:Int)<=left by omega)]
 generalize szGs gs=ze at HZ h1 ⊢
 go_wp2_with fail
 refine (szFuncs_any _ fs _ _ ⟨by omega,by omega⟩ HWF.out (HF.out.below hB1)).mono ?_
 rintro e w2 ⟨rfl,hb2⟩
 have hB2:=hB1.trans (hb2.mono hB1.size)
 clear x0 x1
 by_cases h2:left-ze<(szFs fs:Int)
 ·have HR:Hid (szR left zz = -1):=szR_gt (show left<(zz:Int) by rw [HZ.out];omega)
  rw [szR_gt h2]
  go_wp2_with fail
  go_ret
  exact ⟨ret_int HR.out.symm,hB2⟩
 have HR:Hid (left-ze-(szFs fs:Nat)=szR left zz):=by
  show _=_
  rw [szR_le (show (zz:Int)<=left by rw [HZ.out];omega),HZ.out];omega
 rw [szR_le (show (szFs fs:Int)<=left-ze by omega)]
 generalize szFs fs=zf at HZ HR h2 ⊢
 go_wp2_with fail
 go_ret
 exact ⟨ret_int HR.out,hB2⟩
theorem owns_below {w w':World} {base e size n cap g:Nat} {xs:List Value} (h:w.ownsRow base e size (.slice (some ⟨g,0,none⟩) n cap) n xs) (hb:Below w.heap.size w w'):w'.ownsRow base e size (.slice (some ⟨g,0,none⟩) n cap) n xs:=by
 refine ⟨h.1,?_⟩
 rcases h.2 with hn | ⟨g',cap',cur,he,hB,hg,rest⟩
 ·exact .inl hn
 ·refine .inr ⟨g',cap',cur,he,hB,?_,rest⟩
  rw [hb.block g' (Array.getElem?_eq_some_iff.1 hg).1]
  exact hg
def putAt (xs:List Value) (i:Nat):List Value->List Value
 | []=>xs
 | u::r=>putAt (xs.set i u) (i+1) r
def setMany (w:World) (g i:Nat):List Value->World
 | []=>w
 | u::r=>setMany (w.setCell ⟨g,i,none⟩ u) g (i+1) r
theorem putAt_get (us:List Value) : ∀xs i j,i+us.length<=xs.length->(putAt xs i us)[j]? = if i<=j/\j<i+us.length then us[j-i]? else xs[j]? := by
 induction us with
 | nil=>intro xs i j h;simp [putAt];intro h1 h2;omega
 | cons u r ih=>
  intro xs i j h
  simp only [l_c] at h
  simp only [putAt,l_c]
  rw [ih _ _ _ (by simp;omega)]
  by_cases h1:i+1<=j/\j<i+1+r.length
  ·rw [if_pos h1,if_pos o_,show j-i=(j-(i+1))+1 by omega,List.getElem?_cons_succ]
  ·rw [if_neg h1]
   by_cases h2:j=i
   ·subst h2
    rw [if_pos o_,List.getElem?_set_self o_]
    simp
   ·rw [if_neg o_,List.getElem?_set_ne o_]
theorem owns_put {base e size n cap g:Nat} (us:List Value) : ∀(w:World) (xs:List Value) (i:Nat),w.ownsRow base e size (.slice (some ⟨g,0,none⟩) n cap) n xs->(setMany w g i us).ownsRow base e size (.slice (some ⟨g,0,none⟩) n cap) n (putAt xs i us):=by
 induction us with
 | nil=>intro w xs i h;exact h
 | cons u r ih=>intro w xs i h;exact ih _ _ _ (h.stored i u).1
theorem below_put {B:Nat} {a:World} {g:Nat} (hg:B<=g) (us:List Value) : ∀(w:World) (i:Nat),Below B a w->Below B a (setMany w g i us):=by
 induction us with
 | nil=>intro w i h;exact h
 | cons u r ih=>intro w i h;exact ih _ _ (h.setCell hg u)
def RowIs (enc:Nat->List Value) (m k:Nat) (xs:List Value):Prop:=∀j,j<k->∀i,i<m->xs[j*m+i]? = (enc j)[i]?
theorem RowIs.step {enc enc':Nat->List Value} {m k:Nat} {xs us:List Value} (h:RowIs enc m k xs) (he : ∀j,j<k->enc' j=enc j) (hk:enc' k=us) (hu:us.length=m) (hl:(k+1)*m<=xs.length):RowIs enc' m (k+1) (putAt xs (k*m) us):=by
 intro j hj i hi
 have e1:(k+1)*m=k*m+m:=by rw [Nat.add_mul,Nat.one_mul]
 rw [putAt_get us xs (k*m) (j*m+i) o_]
 by_cases hjk:j=k
 ·subst hjk
  rw [if_pos o_,show j*m+i-j*m=i by omega,hk]
 ·have hlt:j<k:=by omega
  have:j*m+m<=k*m:=by
   have:=Nat.mul_le_mul_right m (show j+1<=k by omega)
   rw [Nat.add_mul,Nat.one_mul] at this
   exact this
  rw [if_neg o_,h j hlt i hi,he j hlt]
theorem RowIs.zero (enc:Nat->List Value) (m:Nat) (xs:List Value):RowIs enc m 0 xs:=fun j hj=>absurd hj (Nat.not_lt_zero _)
theorem own_old {w:World} {base e size n cap g:Nat} {xs:List Value} (h:w.ownsRow base e size (.slice (some ⟨g,0,none⟩) n cap) n xs) (j:Nat) (hj:j<n*size):(∃y,w.cell? ⟨g,j,none⟩=some y)/\w.frozen? ⟨g,j,none⟩=false:=by
 have hlen:=h.1
 exact ⟨⟨xs[j]' o_,by rw [h.cellAt j o_];simp⟩,h.frozenAt j⟩
def encN (n:Nd):List Value:=[.int .i64 n.kind,.int .i64 n.val,.string n.name]
theorem inf_node:(Tryz.prog.info? 151).map (fun i=>(i.zero,i.size,i.bytes))=some (some (.agg #[.int .i64 0,.int .i64 0,.string ⟨#[]⟩]),3,32):=by kernel_rfl
theorem toNode_any (n:Nd) (w:World):Calls Tryz.prog 151 #[.agg #[.int .i64 n.kind,.int .i64 n.val,.string n.name]] w fun e w'=>e = .returned (.agg #[.int .i64 n.kind,.int .i64 n.val,.string n.name])/\Below w.heap.size w w':=by
 obtain ⟨k,v,s⟩:=n
 simp only
 go_enter Tryz.func151,Tryz.ntmps151
 go_wp2_with fail
 exact bodyPost_ret (v:=.agg #[.int .i64 k,.int .i64 v,.string s]) (by simp [results,Tryz.results151,go_sem]) rfl ⟨rfl,((bel_a _ _).alloc (by simp) _).alloc (by simp;omega) _⟩
def NodesO (B:Nat) (w:World) (v:Value) (ns:List Nd):Prop:=∃g xs,v = .slice (some ⟨g,0,none⟩) ns.length ns.length/\w.ownsRow B 151 3 v ns.length xs/\RowIs (fun j=>encN (ns.getD j ⟨0,0,⟨#[]⟩⟩)) 3 ns.length xs
theorem NodesO.nodes {B:Nat} {w:World} {v:Value} {ns:List Nd} (h:NodesO B w v ns) (hm:ns.length<=9223372036854775807):Nodes w v ns:=by
 obtain ⟨g,xs,rfl,ho,hx⟩:=h
 refine ⟨_,_,rfl,Nat.le_refl _,hm,fun h0=>⟨g,0,rfl,fun j hj => ?_⟩⟩
 have hl:=ho.1
 have key : ∀i,i<3->w.cell? ⟨g,0+j*3+i,none⟩=(encN ns[j])[i]? := fun i hi=>by
  rw [Nat.zero_add,ho.cellAt (j*3+i) o_,hx j hj i hi]
  simp [List.getD,hj]
 exact ⟨key 0 o_,key 1 o_,key 2 o_⟩
theorem toNodes_any (v:Value) (ns:List Nd) (w:World) (hl:ns.length<=1048576) (hc:Nodes w v ns) :
  Calls Tryz.prog 124 #[v] w fun e w'=>∃v',e = .returned v'/\NodesO w.heap.size w' v' ns/\Below w.heap.size w w':=by
 obtain ⟨a,cap,rfl,hcl,hcm,hc⟩:=hc
 have HC:=hide hc
 clear hc
 obtain ⟨i0,hi,hz0,hz1,hz2⟩:=info_parts inf_node
 go_enter Tryz.func124,Tryz.ntmps124
 go_wp2_with (at_make;refine wpList_make_full _ rfl _ _ 121 rfl w.heap.size 151 i0 (.agg #[.int .i64 0,.int .i64 0,.string ⟨#[]⟩]) 3 Tryz.underlying121 hi hz0 hz1 _ _ _ _ ns.length rfl rfl o_ o_ ?_ ?_ (Nat.le_refl _) ?_)
 ·rw [hz2];omega
 ·unfold maxLen;omega
 intro w1 hown1 hgrow1
 have hnx1:Bl w w1:=(Below.refl _ _).grown hgrow1 (Nat.le_refl _) (by simp)
 go_wp2_with fail
 go_loopw [4] (fun i wr=>∃(k:Nat) (xs:List Value),k<=ns.length/\i = .int .i64 k/\wr.ownsRow w.heap.size 151 3 (.slice (some ⟨w.heap.size,0,none⟩) ns.length ns.length) ns.length xs/\RowIs (fun j=>encN (ns.getD j ⟨0,0,⟨#[]⟩⟩)) 3 k xs/\Bl w wr)
  (fun i _=>ns.length-(RowKit.intOf i).toNat)
 case atStart=>exact ⟨0,_,Nat.zero_le _,rfl,hown1,RowIs.zero _ _ _,hnx1⟩
 case round=>
  obtain ⟨k,xs,hk,rfl,hown,hxs,hB⟩:=hrel
  clear hown1 hgrow1 hnx1
  have HX:=hide hxs
  clear hxs
  by_cases hlt:k<ns.length
  ·obtain ⟨b,off,rfl,hc⟩:=HC.out o_
   obtain ⟨d0,d1,d2⟩:=(hc.below hB) k hlt
   have HN:Hid (encN (ns.getD k ⟨0,0,⟨#[]⟩⟩)=encN ns[k]):=by show _=_;simp [List.getD,hlt]
   clear hc
   generalize ns[k]=n at d0 d1 d2 HN
   have HO:=hide hown
   clear hown
   go_wp2_with fail
   refine (toNode_any n _).mono ?_
   rintro e w2 ⟨rfl,hb2⟩
   have hown2:=owns_below HO.out hb2
   obtain ⟨⟨y0,o0⟩,f0⟩:=own_old hown2 (k*3) o_
   obtain ⟨⟨y1,o1⟩,f1⟩:=own_old hown2 (k*3+1) o_
   obtain ⟨⟨y2,o2⟩,f2⟩:=own_old hown2 (k*3+2) o_
   have hB2:=hB.trans (hb2.mono hB.size)
   have HR:Hid _:=owns_put (encN n) w2 xs (k*3) hown2
   have HL:Hid (xs.length=ns.length*3):=hown2.1
   have HB3:Hid _:=below_put (Nat.le_refl _) (encN n) w2 (k*3) hB2
   clear hown2 d0 d1 d2
   go_wp2_with fail
   go_roundw
   case rel=>exact ⟨k+1,_,by omega,by go_num,HR.out,HX.out.step (fun _ _=>rfl) HN.out rfl (by have:=HL.out;omega),HB3.out⟩
   case measure=>simp [RowKit.intOf];omega
  ·have HO:=hide hown
   clear hown
   have hk':k=ns.length:=by omega
   have HK:=hide hk'
   clear hk'
   go_wp2_with fail
   go_ret
   exact ⟨_,rfl,⟨w.heap.size,xs,rfl,HO.out,by rw [<-HK.out];exact HX.out⟩,hB⟩
end Go.Proofs.YtnpidjamplmgjaaGreatDoor
