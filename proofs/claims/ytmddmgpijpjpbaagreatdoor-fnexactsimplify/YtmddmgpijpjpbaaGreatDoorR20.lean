import Derived.Test.YtmddmgpijpjpbaaGreatDoorR19
namespace Go.Proofs.YtmddmgpijpjpbaaGreatDoor
open Go.RowKit
set_option linter.unusedVariables false
set_option linter.unusedSimpArgs false
set_option maxRecDepth 100000
set_option maxHeartbeats 16000000
theorem gstmt7 (s:ByteArray) (ve vf:Value) (es fs:List Nd) (t l:Int) (w:World) (hle:es.length<=2000) (hlf:fs.length<=2000) (he:Nodes w ve es) (hf:Nodes w vf fs) :
  Calls Tryz.prog 120 #[.agg #[.int .i64 7,.string s,ve,vf,.int .i64 t,.int .i64 l]] w fun e w'=>e = .returned (.bool (gstmtB ⟨7,s,es,fs,t,l⟩))/\Below w.heap.size w w':=by
 have HE:=hide he
 have HF:=hide hf
 obtain ⟨ae,ce,rfl,-,-,-⟩:=he
 obtain ⟨af,cf,rfl,-,-,-⟩:=hf
 have HD:Hid (∀b:Bool,(decide (es.length<=2000) && b)=b):=fun b=>by simp [hle]
 have HDF:Hid (∀b:Bool,(decide (fs.length<=2000) && b)=b):=fun b=>by simp [hlf]
 go_enter Tryz.func120,Tryz.ntmps120
 go_wp2_with (go_at_call 24;refine (in_any _ _ _ _).mono ?_;rintro e w' ⟨rfl,rfl⟩)
 refine (gexpr_any _ es _ (by omega) (HE.out.below (bel_a _ _))).mono ?_
 rintro e w1 ⟨rfl,hb1⟩
 rw [HD.out]
 simp only [World.size_alloc] at hb1
 have hB1:=one_below hb1
 obtain ⟨x0,x1,x2,x3,x4,x5⟩:=box6 hb1
 cases ho:oneB es
 ·go_wp2_with fail
  go_ret
  exact ⟨ret_bool (by simp only [gstmtB,stmtB];simp [ho]),hB1⟩
 cases hn:nameB s
 case true=>
  go_wp2_with (go_at_call 81;refine (name_any _ _).mono ?_;rintro e w' ⟨rfl,rfl⟩;rw [hn])
  go_ret
  exact ⟨ret_bool (by simp only [gstmtB,stmtB];simp [ho,nameB_empty hn,-List.beq_nil_eq]),hB1⟩
 cases hs:(s.toList == [])
 ·have hs1:(s.toList != [])=true:=by rw [bne,hs];rfl
  go_wp2_with (go_at_call 81;refine (name_any _ _).mono ?_;rintro e w' ⟨rfl,rfl⟩;rw [hn])
  go_ret
  exact ⟨ret_bool (by simp only [gstmtB,stmtB];simp [ho,hs,-List.beq_nil_eq]),hB1⟩
 have hs1:(s.toList != [])=false:=by rw [bne,hs];rfl
 by_cases hf0:0<fs.length
 ·go_wp2_with (go_at_call 81;refine (name_any _ _).mono ?_;rintro e w' ⟨rfl,rfl⟩;rw [hn])
  go_ret
  refine ⟨ret_bool ?_,hB1⟩
  have:(fs.length == 0)=false:=by simp only [beq_eq_false_iff_ne];omega
  simp only [gstmtB,stmtB,this];simp [ho,hs,-List.beq_nil_eq]
 have HF0:Hid ((fs.length == 0)=true):=by show _=_;simp only [beq_iff_eq];omega
 by_cases ht:t<0
 ·go_wp2_with (go_at_call 81;refine (name_any _ _).mono ?_;rintro e w' ⟨rfl,rfl⟩;rw [hn])
  all_goals go_ret
  all_goals refine ⟨ret_bool ?_,hB1⟩
  all_goals (simp only [gstmtB,stmtB,HF0.out];simp [ho,hs,-List.beq_nil_eq] <;> omega)
 by_cases hl:l<0
 ·go_wp2_with (go_at_call 81;refine (name_any _ _).mono ?_;rintro e w' ⟨rfl,rfl⟩;rw [hn])
  all_goals go_ret
  all_goals refine ⟨ret_bool ?_,hB1⟩
  all_goals (simp only [gstmtB,stmtB,HF0.out];simp [ho,hs,-List.beq_nil_eq] <;> omega)
 by_cases ht2:0<t
 ·go_wp2_with (go_at_call 81;refine (name_any _ _).mono ?_;rintro e w' ⟨rfl,rfl⟩;rw [hn])
  all_goals go_ret
  all_goals refine ⟨ret_bool ?_,hB1⟩
  all_goals (simp only [gstmtB,stmtB,HF0.out];simp [ho,hs,-List.beq_nil_eq] <;> omega)
 by_cases hl2:0<l
 ·go_wp2_with (go_at_call 81;refine (name_any _ _).mono ?_;rintro e w' ⟨rfl,rfl⟩;rw [hn])
  all_goals go_ret
  all_goals refine ⟨ret_bool ?_,hB1⟩
  all_goals (simp only [gstmtB,stmtB,HF0.out];simp [ho,hs,-List.beq_nil_eq] <;> omega)
 go_wp2_with (go_at_call 81;refine (name_any _ _).mono ?_;rintro e w' ⟨rfl,rfl⟩;rw [hn])
 all_goals go_ret
 all_goals refine ⟨ret_bool ?_,hB1⟩
 all_goals have ht':0<=t:=by omega
 all_goals have hl':0<=l:=by omega
 all_goals have e1:t=0:=by omega
 all_goals have e2:l=0:=by omega
 all_goals (simp only [gstmtB,stmtB,HF0.out];simp [ho,hs,-List.beq_nil_eq,ht',hl',e1,e2])
theorem gstmt8 (s:ByteArray) (ve vf:Value) (es fs:List Nd) (t l:Int) (w:World) (hle:es.length<=2000) (hlf:fs.length<=2000) (he:Nodes w ve es) (hf:Nodes w vf fs) :
  Calls Tryz.prog 120 #[.agg #[.int .i64 8,.string s,ve,vf,.int .i64 t,.int .i64 l]] w fun e w'=>e = .returned (.bool (gstmtB ⟨8,s,es,fs,t,l⟩))/\Below w.heap.size w w':=by
 have HE:=hide he
 have HF:=hide hf
 obtain ⟨ae,ce,rfl,-,-,-⟩:=he
 obtain ⟨af,cf,rfl,-,-,-⟩:=hf
 have HD:Hid (∀b:Bool,(decide (es.length<=2000) && b)=b):=fun b=>by simp [hle]
 have HDF:Hid (∀b:Bool,(decide (fs.length<=2000) && b)=b):=fun b=>by simp [hlf]
 go_enter Tryz.func120,Tryz.ntmps120
 go_wp2_with (go_at_call 24;refine (in_any _ _ _ _).mono ?_;rintro e w' ⟨rfl,rfl⟩)
 refine (gexpr_any _ es _ (by omega) (HE.out.below (bel_a _ _))).mono ?_
 rintro e w1 ⟨rfl,hb1⟩
 rw [HD.out]
 simp only [World.size_alloc] at hb1
 have hB1:=one_below hb1
 obtain ⟨x0,x1,x2,x3,x4,x5⟩:=box6 hb1
 cases ho:oneB es
 ·go_wp2_with fail
  go_ret
  exact ⟨ret_bool (by simp only [gstmtB,stmtB];simp [ho]),hB1⟩
 cases hn:nameB s
 case true=>
  go_wp2_with (go_at_call 81;refine (name_any _ _).mono ?_;rintro e w' ⟨rfl,rfl⟩;rw [hn])
  go_ret
  exact ⟨ret_bool (by simp only [gstmtB,stmtB];simp [ho,nameB_empty hn,-List.beq_nil_eq]),hB1⟩
 cases hs:(s.toList == [])
 ·have hs1:(s.toList != [])=true:=by rw [bne,hs];rfl
  go_wp2_with (go_at_call 81;refine (name_any _ _).mono ?_;rintro e w' ⟨rfl,rfl⟩;rw [hn])
  go_ret
  exact ⟨ret_bool (by simp only [gstmtB,stmtB];simp [ho,hs,-List.beq_nil_eq]),hB1⟩
 have hs1:(s.toList != [])=false:=by rw [bne,hs];rfl
 by_cases hf0:0<fs.length
 ·go_wp2_with (go_at_call 81;refine (name_any _ _).mono ?_;rintro e w' ⟨rfl,rfl⟩;rw [hn])
  go_ret
  refine ⟨ret_bool ?_,hB1⟩
  have:(fs.length == 0)=false:=by simp only [beq_eq_false_iff_ne];omega
  simp only [gstmtB,stmtB,this];simp [ho,hs,-List.beq_nil_eq]
 have HF0:Hid ((fs.length == 0)=true):=by show _=_;simp only [beq_iff_eq];omega
 by_cases ht:t<0
 ·go_wp2_with (go_at_call 81;refine (name_any _ _).mono ?_;rintro e w' ⟨rfl,rfl⟩;rw [hn])
  all_goals go_ret
  all_goals refine ⟨ret_bool ?_,hB1⟩
  all_goals (simp only [gstmtB,stmtB,HF0.out];simp [ho,hs,-List.beq_nil_eq] <;> omega)
 by_cases hl:l<0
 ·go_wp2_with (go_at_call 81;refine (name_any _ _).mono ?_;rintro e w' ⟨rfl,rfl⟩;rw [hn])
  all_goals go_ret
  all_goals refine ⟨ret_bool ?_,hB1⟩
  all_goals (simp only [gstmtB,stmtB,HF0.out];simp [ho,hs,-List.beq_nil_eq] <;> omega)
 by_cases ht2:0<t
 ·go_wp2_with (go_at_call 81;refine (name_any _ _).mono ?_;rintro e w' ⟨rfl,rfl⟩;rw [hn])
  all_goals go_ret
  all_goals refine ⟨ret_bool ?_,hB1⟩
  all_goals (simp only [gstmtB,stmtB,HF0.out];simp [ho,hs,-List.beq_nil_eq] <;> omega)
 by_cases hl2:0<l
 ·go_wp2_with (go_at_call 81;refine (name_any _ _).mono ?_;rintro e w' ⟨rfl,rfl⟩;rw [hn])
  all_goals go_ret
  all_goals refine ⟨ret_bool ?_,hB1⟩
  all_goals (simp only [gstmtB,stmtB,HF0.out];simp [ho,hs,-List.beq_nil_eq] <;> omega)
 have hpos:=oneB_pos ho
 have HL:Hid (lastKind es=(es[es.length-1]'(by omega)).kind):=by
  show lastKind es=_
  simp only [lastKind]
  rw [List.getElem?_eq_getElem (by omega)]
 go_wp2_with (go_at_call 81;refine (name_any _ _).mono ?_;rintro e w' ⟨rfl,rfl⟩;rw [hn])
 refine (root_any _ es _ hpos (by omega) (HE.out.below hB1)).mono ?_
 rintro e w2 ⟨rfl,hb2⟩
 have hB2:=hB1.trans (hb2.mono hB1.size)
 generalize es[es.length-1]=n at HL ⊢
 have hfd:=run_kind n.kind n.val n.name
 have HH:Hid (0<=t/\t<=0/\0<=l/\l<=0):=⟨by omega,by omega,by omega,by omega⟩
 go_wp2_with fail
 go_ret
 refine ⟨ret_bool ?_,hB2⟩
 have hh:=HH.out
 have e1:t=0:=by omega
 have e2:l=0:=by omega
 simp only [gstmtB,stmtB,HF0.out];simp [ho,hs,-List.beq_nil_eq,HL.out,e1,e2]
theorem gstmtX (k:Int) (s:ByteArray) (ve vf:Value) (es fs:List Nd) (t l:Int) (w:World) (hk:k<1∨8<k) (he:Nodes w ve es) (hf:Nodes w vf fs) :
  Calls Tryz.prog 120 #[.agg #[.int .i64 k,.string s,ve,vf,.int .i64 t,.int .i64 l]] w fun e w'=>e = .returned (.bool (gstmtB ⟨k,s,es,fs,t,l⟩))/\Below w.heap.size w w':=by
 obtain ⟨ae,ce,rfl,-,-,-⟩:=he
 obtain ⟨af,cf,rfl,-,-,-⟩:=hf
 have hd:decide (1<=k/\k<=8)=false:=by simp;omega
 have hs:gstmtB ⟨k,s,es,fs,t,l⟩=false:=by
  simp only [gstmtB,stmtB,hd,Bool.false_and]
 rw [hs]
 have h1:(k == 1)=false:=by simp;omega
 have h2:(k == 2)=false:=by simp;omega
 have h3:(k == 3)=false:=by simp;omega
 have HD:=hide hd
 go_enter Tryz.func120,Tryz.ntmps120
 go_wp2_with (go_at_call 24;refine (in_any _ _ _ _).mono ?_;rintro e w' ⟨rfl,rfl⟩;rw [HD.out])
 go_ret
 exact ⟨rfl,(Below.refl _ _).alloc (Nat.le_refl _) _⟩
theorem gstmt_any (s:St) (ve vf:Value) (w:World) (hle:s.e.length<=2000) (hlf:s.f.length<=2000) (he:Nodes w ve s.e) (hf:Nodes w vf s.f) :
  Calls Tryz.prog 120 #[.agg #[.int .i64 s.kind,.string s.name,ve,vf,.int .i64 s.thn,.int .i64 s.els]] w fun e w'=>e = .returned (.bool (gstmtB s))/\Below w.heap.size w w':=by
 obtain ⟨k,s,es,fs,t,l⟩:=s
 by_cases hk:k<1∨8<k
 ·exact gstmtX k s ve vf es fs t l w hk he hf
 have h9:k=1∨k=2∨k=3∨k=4∨k=5∨k=6∨k=7∨k=8:=by omega
 rcases h9 with rfl | rfl | rfl | rfl | rfl | rfl | rfl | rfl
 ·exact gstmt1 s ve vf es fs t l w hle hlf he hf
 ·exact gstmt2 s ve vf es fs t l w hle hlf he hf
 ·exact gstmt3 s ve vf es fs t l w hle hlf he hf
 ·exact gstmt4 s ve vf es fs t l w hle hlf he hf
 ·exact gstmt5 s ve vf es fs t l w hle hlf he hf
 ·exact gstmt6 s ve vf es fs t l w hle hlf he hf
 ·exact gstmt7 s ve vf es fs t l w hle hlf he hf
 ·exact gstmt8 s ve vf es fs t l w hle hlf he hf
def StrsC (w:World) (b off:Nat) (ps:List ByteArray):Prop:=∀j (h:j<ps.length),w.cell? ⟨b,off+j,none⟩=some (.string ps[j])
theorem StrsC.below {w w':World} {b off:Nat} {ps:List ByteArray} (h:StrsC w b off ps) (hb:Below w.heap.size w w'):StrsC w' b off ps:=by
 intro j hj
 have c:=h j hj
 exact (hb.cell (World.block_lt_of_cell? _ _ c)).trans c
def Strs (w:World) (v:Value) (ps:List ByteArray):Prop:=∃a cap,v = .slice a ps.length cap/\ps.length<=cap/\cap<=9223372036854775807/\(0<ps.length->∃b off,a=some ⟨b,off,none⟩/\StrsC w b off ps)
theorem Strs.below {w w':World} {v:Value} {ps:List ByteArray} (h:Strs w v ps) (hb:Below w.heap.size w w'):Strs w' v ps:=by
 obtain ⟨a,cap,rfl,hl,hm,h⟩:=h
 refine ⟨a,cap,rfl,hl,hm,fun h0 => ?_⟩
 obtain ⟨b,off,rfl,hc⟩:=h h0
 exact ⟨b,off,rfl,hc.below hb⟩
theorem vfunc_any (f:Fu) (vp vb:Value) (w:World) (hT:Tab w) (hf:smallF f) (hp:Strs w vp f.params) (hb:Stmts w vb f.body) :
  Calls Tryz.prog 128 #[.agg #[.string f.name,vp,vb]] w fun e w'=>e = .returned (.bool (funcB f))/\Below w.heap.size w w':=by
 obtain ⟨name,ps,ss⟩:=f
 simp only at hp hb ⊢
 have HP:=hide hp
 have HS:=hide hb
 have HT:=hide hT
 have HF:=hide hf
 have hpl:ps.length<=1048576:=HF.out.1
 have hsl:ss.length<=1048576:=HF.out.2.1
 obtain ⟨ap,cp,rfl,-,-,hpc⟩:=hp
 obtain ⟨ab,cb,rfl,-,-,hbc⟩:=hb
 have HPC:=hide hpc
 have HBC:=hide hbc
 clear hpc hbc hf hT
 go_enter Tryz.func128,Tryz.ntmps128
 go_wp2_with fail
 refine (vname_any _ _).mono ?_
 rintro e w1 ⟨rfl,hb1⟩
 simp only [World.size_alloc] at hb1
 have hB1:=one_below hb1
 obtain ⟨x0,x1,x2⟩:=box3 hb1
 cases hn:nameB name
 ·go_wp2_with fail
  go_ret
  exact ⟨ret_bool (by simp only [funcB,hn,Bool.false_and]),hB1⟩
 by_cases h6:6<ps.length
 ·go_wp2_with fail
  go_ret
  exact ⟨ret_bool (by simp only [funcB,hn,decide_eq_false (show ¬ps.length<=6 by omega),Bool.false_and,Bool.and_false]),hB1⟩
 by_cases h5:500<ss.length
 ·go_wp2_with fail
  go_ret
  exact ⟨ret_bool (by simp only [funcB,hn,decide_eq_false (show ¬ss.length<=500 by omega),Bool.false_and,Bool.and_false]),hB1⟩
 have HFB:Hid (funcB ⟨name,ps,ss⟩=(ps.all nameB && (stmtsB stmtB ss && fitB ss))):=by
  show _=_
  simp only [funcB,hn,decide_eq_true (show ps.length<=6 by omega),decide_eq_true (show ss.length<=500 by omega),Bool.true_and]
 go_wp2_with fail
 clear x0 x1 x2
 go_loopw [27] (fun i wr=>∃k:Nat,k<=ps.length/\i = .int .i64 k/\(∀s∈ps.take k,nameB s=true)/\Below (w.heap.size+1) (w.alloc (.cells #[.string name,.slice ap ps.length cp,.slice ab ss.length cb] 85)) wr) (fun i _=>ps.length-(intOf i).toNat)
 case atStart=>exact ⟨0,Nat.zero_le _,rfl,by simp,hb1⟩
 case round=>
  obtain ⟨k,hk,rfl,hg,hB⟩:=hrel
  have HG:=hide hg
  clear hg hb1 hB1
  have hBw:=one_below hB
  by_cases hlt:k<ps.length
  ·obtain ⟨b,off,rfl,hc⟩:=HPC.out (by omega)
   have d0:=(hc.below hBw) k hlt
   have HE:Hid (ps.take (k+1)=ps.take k++[ps[k]]):=take_succ ps k hlt
   have HX:Hid (nameB ps[k]=false->ps.all nameB=false):=all_bad hlt
   clear hc
   generalize ps[k]=s at d0 HE HX
   go_wp2_with fail
   refine (vname_any _ _).mono ?_
   rintro e w2 ⟨rfl,hb2⟩
   have hB2:=hB.trans (hb2.mono (by have:=hB.size;simp at this;omega))
   clear d0
   cases hv:nameB s
   ·go_wp2_with fail
    go_ret
    exact ⟨ret_bool (by rw [HFB.out,HX.out hv];rfl),one_below hB2⟩
   ·go_wp2_with fail
    go_roundw
    case rel=>
     refine ⟨k+1,by omega,by go_num,fun m hm => ?_,hB2⟩
     rw [HE.out] at hm
     rcases List.mem_append.1 hm with hm | hm
     ·exact HG.out m hm
     ·rw [List.mem_singleton.1 hm];exact hv
    case measure=>simp [intOf];omega
  ·have HA:Hid (ps.all nameB=true):=by
    show _=_
    rw [List.all_eq_true]
    have:=HG.out
    rw [List.take_of_length_le (by omega)] at this
    exact this
   clear HG HPC
   obtain ⟨x0,x1,x2⟩:=box3 hB
   go_wp2_with fail
   clear x0 x1 x2
   go_loopw [5,38] (fun q i wr=>∃k:Nat,k<=ss.length/\i = .int .i64 k/\q = .int .i64 (nodeSum (ss.take k):Nat)/\nodeSum (ss.take k)<=2000/\(∀s∈ss.take k,stmtB s=true)/\Below (w.heap.size+1) (w.alloc (.cells #[.string name,.slice ap ps.length cp,.slice ab ss.length cb] 85)) wr) (fun _ i _=>ss.length-(intOf i).toNat)
   case atStart=>exact ⟨0,Nat.zero_le _,rfl,rfl,by simp [nodeSum],by simp,hB⟩
   case round=>
    clear hB hBw hlt
    obtain ⟨k,hk,rfl,rfl,hq,hg,hB⟩:=hrel
    have HG:=hide hg
    clear hg
    have hBw:=one_below hB
    by_cases hlt:k<ss.length
    ·obtain ⟨b,off,rfl,hc⟩:=HBC.out (by omega)
     obtain ⟨ve,vf,⟨c0,c1,c2,c3,c4,c5⟩,he,hf⟩:=(hc.below hBw) k hlt
     have HE:Hid (ss.take (k+1)=ss.take k++[ss[k]]):=take_succ ss k hlt
     have HX:Hid (stmtB ss[k]=false->stmtsB stmtB ss=false):=stmtsB_bad hlt
     have HQ:Hid _:=nodeSum_step ss k hlt
     have HY:Hid (2000<nodeSum (ss.take (k+1))->stmtsB stmtB ss=false):=stmtsB_sum
     have hsm:=HF.out.2.2 ss[k] (List.getElem_mem hlt)
     clear hc
     generalize ss[k]=s at c0 c1 c2 c3 c4 c5 he hf HE HX HQ hsm
     generalize nodeSum (ss.take k)=q at hq HQ
     have HNE:=hide he
     have HNF:=hide hf
     obtain ⟨a2,k2,rfl,-,-,-⟩:=he
     obtain ⟨a3,k3,rfl,-,-,-⟩:=hf
     have hs1:=hsm.1
     have hs2:=hsm.2
     clear hsm
     by_cases hs:2000<q+(s.e.length+s.f.length)
     ·go_wp2_with fail
      go_ret
      exact ⟨ret_bool (by rw [HFB.out,HY.out (by rw [HQ.out];omega)];simp),hBw.alloc hBw.size _⟩
     ·have hBx:Bl wr (wr.alloc (.cells #[.int .i64 s.kind,.string s.name,.slice a2 s.e.length k2,.slice a3 s.f.length k3,.int .i64 s.thn,.int .i64 s.els] 117)):=bel_a _ _
      go_wp2_with fail
      refine (vstmt_any s _ _ _ ((HT.out.below HT.out.size hBw).below (HT.out.below HT.out.size hBw).size hBx) hs1 hs2 (HNE.out.below hBx) (HNF.out.below hBx)).mono ?_
      rintro e w2 ⟨rfl,hb2⟩
      have hBx2:=hBx.trans (hb2.mono hBx.size)
      have hB2:=hB.trans (hBx2.mono (by have:=hB.size;simp at this;omega))
      clear c0 c1 c2 c3 c4 c5 hb2
      cases hv:stmtB s
      ·go_wp2_with fail
       go_ret
       exact ⟨ret_bool (by rw [HFB.out,HX.out hv];simp),one_below hB2⟩
      ·go_wp2_with fail
       go_roundw
       case rel=>
        refine ⟨k+1,by omega,by go_num,?_,by rw [HQ.out];omega,fun m hm => ?_,hB2⟩
        ·rw [HQ.out];congr 1;omega
        ·rw [HE.out] at hm
         rcases List.mem_append.1 hm with hm | hm
         ·exact HG.out m hm
         ·rw [List.mem_singleton.1 hm];exact hv
       case measure=>simp [intOf];omega
    ·have HA2:Hid (stmtsB stmtB ss=true):=by
      show _=_
      have h1:=HG.out
      rw [List.take_of_length_le (by omega)] at h1 hq
      exact stmtsB_ok hq h1
     obtain ⟨x0,x1,x2⟩:=box3 hB
     go_wp2_with fail
     refine (fit_any ss.length _ ss _ (Nat.le_refl _) hsl (HS.out.below hBw)).mono ?_
     rintro e w2 ⟨rfl,hb2⟩
     clear x0 x1 x2
     go_wp2_with fail
     go_ret
     exact ⟨ret_bool (by rw [HFB.out,HA.out,HA2.out];rfl),hBw.trans (hb2.mono hBw.size)⟩
theorem gfunc_any (f:Fu) (vp vb:Value) (w:World) (hf:smallF f) (hp:Strs w vp f.params) (hb:Stmts w vb f.body) :
  Calls Tryz.prog 82 #[.agg #[.string f.name,vp,vb]] w fun e w'=>e = .returned (.bool (funcB f))/\Below w.heap.size w w':=by
 obtain ⟨name,ps,ss⟩:=f
 simp only at hp hb ⊢
 have HP:=hide hp
 have HS:=hide hb
 have HF:=hide hf
 have hpl:ps.length<=1048576:=HF.out.1
 have hsl:ss.length<=1048576:=HF.out.2.1
 obtain ⟨ap,cp,rfl,-,-,hpc⟩:=hp
 obtain ⟨ab,cb,rfl,-,-,hbc⟩:=hb
 have HPC:=hide hpc
 have HBC:=hide hbc
 clear hpc hbc hf
 go_enter Tryz.func82,Tryz.ntmps82
 go_wp2_with fail
 refine (name_any _ _).mono ?_
 rintro e w1 ⟨rfl,rfl⟩
 have hb1:Below (w.heap.size+1) (w.alloc (.cells #[.string name,.slice ap ps.length cp,.slice ab ss.length cb] 85)) (w.alloc (.cells #[.string name,.slice ap ps.length cp,.slice ab ss.length cb] 85)):=Below.refl _ _
 have hB1:=one_below hb1
 obtain ⟨x0,x1,x2⟩:=box3 hb1
 cases hn:nameB name
 ·go_wp2_with fail
  go_ret
  exact ⟨ret_bool (by simp only [funcB,hn,Bool.false_and]),hB1⟩
 by_cases h6:6<ps.length
 ·go_wp2_with fail
  go_ret
  exact ⟨ret_bool (by simp only [funcB,hn,decide_eq_false (show ¬ps.length<=6 by omega),Bool.false_and,Bool.and_false]),hB1⟩
 by_cases h5:500<ss.length
 ·go_wp2_with fail
  go_ret
  exact ⟨ret_bool (by simp only [funcB,hn,decide_eq_false (show ¬ss.length<=500 by omega),Bool.false_and,Bool.and_false]),hB1⟩
 have HFB:Hid (funcB ⟨name,ps,ss⟩=(ps.all nameB && (stmtsB gstmtB ss && fitB ss))):=by
  show _=_
  rw [gstmts_fit]
  simp only [funcB,hn,decide_eq_true (show ps.length<=6 by omega),decide_eq_true (show ss.length<=500 by omega),Bool.true_and]
 go_wp2_with fail
 clear x0 x1 x2
 go_loopw [3] (fun i wr=>∃k:Nat,k<=ps.length/\i = .int .i64 k/\(∀s∈ps.take k,nameB s=true)/\Below (w.heap.size+1) (w.alloc (.cells #[.string name,.slice ap ps.length cp,.slice ab ss.length cb] 85)) wr) (fun i _=>ps.length-(intOf i).toNat)
 case atStart=>exact ⟨0,Nat.zero_le _,rfl,by simp,hb1⟩
 case round=>
  obtain ⟨k,hk,rfl,hg,hB⟩:=hrel
  have HG:=hide hg
  clear hg hb1 hB1
  have hBw:=one_below hB
  by_cases hlt:k<ps.length
  ·obtain ⟨b,off,rfl,hc⟩:=HPC.out (by omega)
   have d0:=(hc.below hBw) k hlt
   have HE:Hid (ps.take (k+1)=ps.take k++[ps[k]]):=take_succ ps k hlt
   have HX:Hid (nameB ps[k]=false->ps.all nameB=false):=all_bad hlt
   clear hc
   generalize ps[k]=s at d0 HE HX
   obtain ⟨x0,x1,x2⟩:=box3 hB
   have hB2:=hB
   cases hv:nameB s
   ·go_wp2_with (go_at_call 81;refine (name_any _ _).mono ?_;rintro e w' ⟨rfl,rfl⟩;rw [hv])
    go_ret
    exact ⟨ret_bool (by rw [HFB.out,HX.out hv];rfl),one_below hB2⟩
   ·go_wp2_with (go_at_call 81;refine (name_any _ _).mono ?_;rintro e w' ⟨rfl,rfl⟩;rw [hv])
    go_roundw
    case rel=>
     refine ⟨k+1,by omega,by go_num,fun m hm => ?_,hB2⟩
     rw [HE.out] at hm
     rcases List.mem_append.1 hm with hm | hm
     ·exact HG.out m hm
     ·rw [List.mem_singleton.1 hm];exact hv
    case measure=>simp [intOf];omega
  ·have HA:Hid (ps.all nameB=true):=by
    show _=_
    rw [List.all_eq_true]
    have:=HG.out
    rw [List.take_of_length_le (by omega)] at this
    exact this
   clear HG HPC
   obtain ⟨x0,x1,x2⟩:=box3 hB
   go_wp2_with fail
   clear x0 x1 x2
   go_loopw [4,5] (fun q i wr=>∃k:Nat,k<=ss.length/\i = .int .i64 k/\q = .int .i64 (nodeSum (ss.take k):Nat)/\nodeSum (ss.take k)<=2000/\(∀s∈ss.take k,gstmtB s=true)/\Below (w.heap.size+1) (w.alloc (.cells #[.string name,.slice ap ps.length cp,.slice ab ss.length cb] 85)) wr) (fun _ i _=>ss.length-(intOf i).toNat)
   case atStart=>exact ⟨0,Nat.zero_le _,rfl,rfl,by simp [nodeSum],by simp,hB⟩
   case round=>
    clear hB hBw hlt
    obtain ⟨k,hk,rfl,rfl,hq,hg,hB⟩:=hrel
    have HG:=hide hg
    clear hg
    have hBw:=one_below hB
    by_cases hlt:k<ss.length
    ·obtain ⟨b,off,rfl,hc⟩:=HBC.out (by omega)
     obtain ⟨ve,vf,⟨c0,c1,c2,c3,c4,c5⟩,he,hf⟩:=(hc.below hBw) k hlt
     have HE:Hid (ss.take (k+1)=ss.take k++[ss[k]]):=take_succ ss k hlt
     have HX:Hid (gstmtB ss[k]=false->stmtsB gstmtB ss=false):=stmtsB_bad hlt
     have HQ:Hid _:=nodeSum_step ss k hlt
     have HY:Hid (2000<nodeSum (ss.take (k+1))->stmtsB gstmtB ss=false):=stmtsB_sum
     have hsm:=HF.out.2.2 ss[k] (List.getElem_mem hlt)
     clear hc
     generalize ss[k]=s at c0 c1 c2 c3 c4 c5 he hf HE HX HQ hsm
     generalize nodeSum (ss.take k)=q at hq HQ
     have HNE:=hide he
     have HNF:=hide hf
     obtain ⟨a2,k2,rfl,-,-,-⟩:=he
     obtain ⟨a3,k3,rfl,-,-,-⟩:=hf
     have hs1:=hsm.1
     have hs2:=hsm.2
     clear hsm
     obtain ⟨x0,x1,x2⟩:=box3 hB
     go_wp2_with fail
     go_quiet (fail)
     have hBq:Below (w.heap.size+1) (w.alloc (.cells #[.string name,.slice ap ps.length cp,.slice (some ⟨b,off,none⟩) ss.length cb] 85)) (wr.drewN nq):=below_drewN hB nq
     have hBwq:=one_below hBq
     have hBy:Bl wr (wr.drewN nq):=below_drewN (Below.refl _ _) nq
     by_cases hs:2000<q+s.e.length+s.f.length
     ·go_wp2_with fail
      go_ret
      exact ⟨ret_bool (by rw [HFB.out,HY.out (by rw [HQ.out];omega)];simp),hBwq⟩
     ·go_wp2_with fail
      refine (gstmt_any s _ _ _ (by omega) (by omega) (HNE.out.below hBy) (HNF.out.below hBy)).mono ?_
      rintro e w2 ⟨rfl,hb2⟩
      have hB2:=hBq.trans (hb2.mono (by have:=hBq.size;simp at this;simp;omega))
      clear c0 c1 c2 c3 c4 c5 hb2
      cases hv:gstmtB s
      ·go_wp2_with fail
       go_ret
       exact ⟨ret_bool (by rw [HFB.out,HX.out hv];simp),one_below hB2⟩
      ·go_wp2_with fail
       go_roundw
       case rel=>
        refine ⟨k+1,by omega,by go_num,?_,by rw [HQ.out];omega,fun m hm => ?_,hB2⟩
        ·rw [HQ.out];congr 1
        ·rw [HE.out] at hm
         rcases List.mem_append.1 hm with hm | hm
         ·exact HG.out m hm
         ·rw [List.mem_singleton.1 hm];exact hv
       case measure=>simp [intOf];omega
    ·have HA2:Hid (stmtsB gstmtB ss=true):=by
      show _=_
      have h1:=HG.out
      rw [List.take_of_length_le (by omega)] at h1 hq
      exact stmtsB_ok hq h1
     have HNN:Hid (nonneg ss):=by
      have h1:=HG.out
      rw [List.take_of_length_le (by omega)] at h1
      exact gstmts_nonneg h1
     obtain ⟨x0,x1,x2⟩:=box3 hB
     go_wp2_with fail
     refine (shaped_any ss.length _ ss _ (Nat.le_refl _) hsl HNN.out (HS.out.below hBw)).mono ?_
     rintro e w2 ⟨rfl,hb2⟩
     clear x0 x1 x2
     go_wp2_with fail
     go_ret
     exact ⟨ret_bool (by rw [HFB.out,HA.out,HA2.out];rfl),hBw.trans (hb2.mono hBw.size)⟩
end Go.Proofs.YtmddmgpijpjpbaaGreatDoor
