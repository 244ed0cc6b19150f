import Derived.Test.YtnpidjamplmgjaaGreatDoorQ24
import Derived.Test.YtnpidjamplmgjaaGreatDoorQ01
import Derived.Below
set_option linter.unusedSectionVars false
variable [Inhabited Go.Proofs.YtnpidjamplmgjaaGreatDoor.Pick]
namespace Go.Proofs.YtnpidjamplmgjaaGreatDoor
open Go.RowKit
open Go.RowKit Go.Sort Go.Shelf
set_option linter.unusedVariables false
set_option linter.unusedSimpArgs false
set_option maxRecDepth 100000
set_option maxHeartbeats 16000000
theorem box3K {w w':World} {t:TypeId} {a b c:Value} (h:Below (w.heap.size+1) (w.alloc (.cells #[a,b,c] t)) w') :
  w'.cell? ⟨w.heap.size,0,none⟩=some a/\w'.cell? ⟨w.heap.size,1,none⟩=some b/\w'.cell? ⟨w.heap.size,2,none⟩=some c:=by
 refine ⟨?_,?_,?_⟩ <;> (rw [h.cell (by simp)];simp)
theorem nodeE_call {t:Tr} {scope:List ByteArray} {vl:Int} {nm:ByteArray} {i:Nat} (h:fnum t.funcs nm=some i) (hi:i<t.funcs.length):nodeE t scope ⟨4,vl,nm⟩=if ((t.funcs[i].params.length:Nat):Int)=vl then 0 else 6:=by
 unfold nodeE
 simp only
 rw [if_neg o_,if_pos trivial,h]
 simp [List.getD,hi]
theorem nodeE_nocall {t:Tr} {scope:List ByteArray} {vl:Int} {nm:ByteArray} (h:fnum t.funcs nm=none):nodeE t scope ⟨4,vl,nm⟩=4:=by
 unfold nodeE
 simp only
 rw [if_neg o_,if_pos trivial,h]
theorem l3expr_any (t:Tr) (scope:List ByteArray) (ns:List Nd) (vg vf vs ve:Value) (w:World) (hgl:t.globals.length<=1048576) (hfl:t.funcs.length<=1048576) (hsl:scope.length<=10000000) (hnl:ns.length<=1048576)
  (hg:Globs w vg t.globals) (hf:Funcs w vf t.funcs) (hs:Strs w vs scope) (hn:Nodes w ve ns) :
  Calls Tryz.prog 148 #[.agg #[vg,vf],vs,ve] w fun e w'=>e = .returned (.int .i64 (exprE t scope ns))/\Below w.heap.size w w':=by
 have HG:=hide hg
 have HF:=hide hf
 have HS:=hide hs
 obtain ⟨ag,cg,rfl,-,-,-⟩:=hg
 obtain ⟨af,cf,rfl,-,-,hfc⟩:=hf
 obtain ⟨az,cz,rfl,-,-,-⟩:=hs
 obtain ⟨an,cn,rfl,-,-,hnc⟩:=hn
 have HFC:=hide hfc
 have HNC:Hid (0<ns.length->∃b off,an=some ⟨b,off,none⟩/\NodesC w b off ns):=hnc
 clear hfc hnc
 obtain ⟨ng,hng⟩ : ∃ng,ng=t.globals.length:=⟨_,rfl⟩
 go_enter Tryz.func148,Tryz.ntmps148
 go_wp2_with fail
 clear hng
 go_loopw [7] (fun i wr=>∃k:Nat,k<=ns.length/\i = .int .i64 k/\(∀j (hj:j<ns.length),j<k->nodeE t scope ns[j]=0)/\Below (w.heap.size+1) (w.alloc (.cells #[.slice ag t.globals.length cg,.slice af t.funcs.length cf] 32)) wr) (fun i _=>ns.length-(RowKit.intOf i).toNat)
 case atStart=>exact ⟨0,Nat.zero_le _,rfl,fun j hj h=>absurd h (Nat.not_lt_zero _),Below.refl _ _⟩
 case round=>
  obtain ⟨k,hk,rfl,hz,hB⟩:=hrel
  have HN:=hide hz
  clear hz
  have hBw:=one_below hB
  obtain ⟨x0,x1⟩:=box2 hB
  have hxl:w.heap.size<wr.heap.size:=by have:=hB.size;simp at this;omega
  by_cases hlt:k<ns.length
  ·obtain ⟨b,off,rfl,hc⟩:=HNC.out o_
   obtain ⟨d0,d1,d2⟩:=(hc.below hBw) k hlt
   have HZ:=hide fun (h:nodeE t scope ns[k]≠0)=>exprE_at hlt (fun j hj=>HN.out j o_ hj) h
   have HX:Hid (nodeE t scope ns[k]=0->∀j (hj:j<ns.length),j<k+1->nodeE t scope ns[j]=0):=fun h j hj hjk=>by
    by_cases e:j=k
    ·subst e;exact h
    ·exact HN.out j hj o_
   clear hc HN
   generalize ns[k]=n at d0 d1 d2 HZ HX
   obtain ⟨kd,vl,nm⟩:=n
   simp only at d0 d1 d2
   have hA:Bl w (wr.alloc (.cells #[.int .i64 kd,.int .i64 vl,.string nm] 151)):=hBw.trans ((bel_a _ _).mono hBw.size)
   by_cases hk23:kd=2∨kd=3
   ·have HE:Hid (nodeE t scope ⟨kd,vl,nm⟩=useE t.globals scope nm (decide (kd=3))):=by
     show _=_
     unfold nodeE
     simp only
     rw [if_pos hk23]
    rcases hk23 with rfl | rfl
    all_goals
     go_wp2_with fail
     refine (l3use_any t.globals scope _ _ _ nm _ _ hgl hsl ⟨_,_,_,rfl⟩ (HG.out.below hA) (HS.out.below hA)).mono ?_
     rintro e w2 ⟨rfl,hb2⟩
     simp only [World.size_alloc] at hb2
     obtain ⟨y0,y1,y2⟩:=box3K hb2
     have hB2:Below (w.heap.size+1) (w.alloc (.cells #[.slice ag t.globals.length cg,.slice af t.funcs.length cf] 32)) w2:=hB.trans ((one_below hb2).mono o_)
     clear d0 d1 d2 x0 x1 hA
     first
      | (have HE2:Hid (nodeE t scope ⟨2,vl,nm⟩=useE t.globals scope nm false):=HE.out;clear HE;generalize useE t.globals scope nm false=z at HE2 ⊢)
      | (have HE2:Hid (nodeE t scope ⟨3,vl,nm⟩=useE t.globals scope nm true):=HE.out;clear HE;generalize useE t.globals scope nm true=z at HE2 ⊢)
     by_cases hz:z=0
     ·subst hz
      go_wp2_with fail
      go_roundw
      case rel=>exact ⟨k+1,by omega,by go_num,HX.out HE2.out,hB2⟩
      case measure=>simp [RowKit.intOf];omega
     ·go_wp2_with fail
      go_ret
      exact ⟨ret_int (by rw [HZ.out (by rw [HE2.out];exact hz),HE2.out]),one_below hB2⟩
   ·by_cases hk4:kd=4
    ·subst hk4
     clear hk23
     go_wp2_with fail
     refine (l3func_any t.funcs _ _ nm _ hfl (HF.out.below hA)).mono ?_
     rintro e w2 ⟨rfl,hb2⟩
     simp only [World.size_alloc] at hb2
     obtain ⟨y0,y1,y2⟩:=box3K hb2
     have hB2:Below (w.heap.size+1) (w.alloc (.cells #[.slice ag t.globals.length cg,.slice af t.funcs.length cf] 32)) w2:=hB.trans ((one_below hb2).mono o_)
     clear d0 d1 d2 x0 x1 hA
     obtain ⟨x0,x1⟩:=box2 hB2
     cases hfn:fnum t.funcs nm with
     | none=>
      have HE:Hid (nodeE t scope ⟨4,vl,nm⟩=4):=nodeE_nocall hfn
      rw [fnumI_none hfn]
      clear hfn
      go_wp2_with fail
      go_ret
      exact ⟨ret_int (by rw [HZ.out (by rw [HE.out];omega),HE.out]),one_below hB2⟩
     | some i=>
      have hi:=fnum_lt hfn
      have HE:Hid (nodeE t scope ⟨4,vl,nm⟩=if ((t.funcs[i].params.length:Nat):Int)=vl then 0 else 6):=nodeE_call hfn hi
      rw [fnumI_some hfn]
      clear hfn
      obtain ⟨bf,of,rfl,hfc⟩:=HFC.out o_
      obtain ⟨vp,vb,⟨f0,f1,f2⟩,⟨ap,cp,rfl,-⟩,-⟩:=(hfc.below (one_below hB2)) i hi
      clear hfc f0 f2
      generalize t.funcs[i].params.length=np at HE f1
      by_cases hv:(np:Int)=vl
      ·have HE2:Hid (nodeE t scope ⟨4,vl,nm⟩=0):=by show _=_;rw [HE.out,if_pos hv]
       clear HE
       subst hv
       go_wp2_with fail
       go_region
       go_wp2_with fail
       go_roundw
       case rel=>exact ⟨k+1,by omega,by go_num,HX.out HE2.out,hB2.drew⟩
       case measure=>simp [RowKit.intOf];omega
      ·have HE2:Hid (nodeE t scope ⟨4,vl,nm⟩=6):=by show _=_;rw [HE.out,if_neg hv]
       clear HE
       go_wp2_with fail
       go_region
       go_wp2_with fail
       go_ret
       exact ⟨ret_int (by rw [HZ.out (by rw [HE2.out];omega),HE2.out]),one_below hB2.drew⟩
    ·have HE:Hid (nodeE t scope ⟨kd,vl,nm⟩=0):=by
      show _=_
      unfold nodeE
      simp only
      rw [if_neg hk23,if_neg hk4]
     have h2 : ¬kd=2:=fun h=>hk23 (.inl h)
     have h3 : ¬kd=3:=fun h=>hk23 (.inr h)
     have b2:(kd == 2)=false:=by simpa using h2
     have b3:(kd == 3)=false:=by simpa using h3
     have b4:(kd == 4)=false:=by simpa using hk4
     clear hk23
     go_wp2_with fail
     go_roundw
     case rel=>exact ⟨k+1,by omega,by go_num,HX.out HE.out,hB.trans ((bel_a _ _).mono o_)⟩
     case measure=>simp [RowKit.intOf];omega
  ·have HR:Hid (exprE t scope ns=0):=exprE_zero (fun j hj=>HN.out j hj o_)
   go_wp2_with fail
   go_ret
   exact ⟨ret_int HR.out.symm,hBw⟩
def errV (e fn st:Int):Value:=if e=0 then .nilIface else .iface 250 (.agg #[.int .i64 e,.int .i64 fn,.int .i64 st])
theorem errV_zero (fn st:Int):errV 0 fn st = .nilIface:=rfl
theorem errV_ne {e fn st:Int} (h:e≠0):errV e fn st = .iface 250 (.agg #[.int .i64 e,.int .i64 fn,.int .i64 st]):=if_neg h
theorem ret_val {a b:Value} (h:a=b):Ending.returned a = .returned b:=by rw [h]
theorem callK_any (C bn nn:Nat) (D:DataW Unit) (t:Tr) (scope:List ByteArray) (vl fn st:Int) (nm:ByteArray) (vf:Value) (w:World) (h2:w.cell? ⟨C,2,none⟩=some vf) (h3:w.cell? ⟨C,3,none⟩=some (.map (some bn))) (h5:w.cell? ⟨C,5,none⟩=some (.int .i64 fn)) (h6:w.cell? ⟨C,6,none⟩=some (.int .i64 st))
  (hown:w.ownsMap Tryz.prog 9 (plainElem (H:=Unit) Tryz.prog 2) bn nn D) (hN:NumIs D t.funcs) (hfl:t.funcs.length<=1048576) (hf:Funcs w vf t.funcs) (hs:nm.size<=maxLen) :
  Calls Tryz.prog 219 #[.pointer (some ⟨C,0,none⟩),.agg #[.int .i64 4,.int .i64 vl,.string nm]] w fun e w'=>e = .returned (errV (nodeE t scope ⟨4,vl,nm⟩) fn st)/\Below w.heap.size w w':=by
 obtain ⟨af,cf,rfl,-,-,hfc⟩:=hf
 have HFC:=hide hfc
 have hCl:C<w.heap.size:=World.block_lt_of_cell? _ _ h2
 have hA:Bl w (w.alloc (.cells #[.int .i64 4,.int .i64 vl,.string nm] 151)).drew:=(bel_a _ _).drew
 have HM:=hide (map_below hown hA)
 have HN:=hide hN
 clear hfc hown hN
 cases hfn:fnum t.funcs nm with
 | none=>
  have hlook:(Instr.lookup 52 (.map (some bn)) (.string nm) true).run Tryz.prog (w.alloc (.cells #[.int .i64 4,.int .i64 vl,.string nm] 151)).drew=_:=look_no HM.out HN.out hs hfn
  have HE:Hid (nodeE t scope ⟨4,vl,nm⟩=4):=nodeE_nocall hfn
  have c5:=(hA.cell (p:=⟨C,5,none⟩) hCl).trans h5
  have c6:=(hA.cell (p:=⟨C,6,none⟩) hCl).trans h6
  clear hfn
  go_enter Tryz.func219,Tryz.ntmps219
  go_wp2_with fail
  go_region
  go_wp2_with fail
  refine (fault_any C 4 fn st _ c5 c6).mono ?_
  rintro e w1 ⟨rfl,hw⟩
  rw [hw]
  clear hw
  go_wp2_with fail
  go_ret
  exact ⟨ret_val (by rw [HE.out];rfl),hA⟩
 | some i=>
  have hi:=fnum_lt hfn
  have hlook:(Instr.lookup 52 (.map (some bn)) (.string nm) true).run Tryz.prog (w.alloc (.cells #[.int .i64 4,.int .i64 vl,.string nm] 151)).drew=_:=look_num HM.out HN.out hs hfn
  have HE:Hid (nodeE t scope ⟨4,vl,nm⟩=if ((t.funcs[i].params.length:Nat):Int)=vl then 0 else 6):=nodeE_call hfn hi
  obtain ⟨bf,of,rfl,hfc⟩:=HFC.out o_
  obtain ⟨vp,vb,⟨f0,f1,f2⟩,⟨ap,cp,rfl,-⟩,-⟩:=hfc i hi
  have hbl:bf<w.heap.size:=World.block_lt_of_cell? _ _ f0
  clear hfc f0 f2 hfn HFC
  generalize t.funcs[i].params.length=np at HE f1
  by_cases hv:vl=(np:Int)
  ·have HE2:Hid (nodeE t scope ⟨4,vl,nm⟩=0):=by show _=_;rw [HE.out,if_pos hv.symm]
   clear HE
   subst hv
   go_enter Tryz.func219,Tryz.ntmps219
   go_wp2_with fail
   go_region
   go_wp2_with fail
   go_region
   go_wp2_with fail
   go_ret
   exact ⟨ret_val (by rw [HE2.out];rfl),hA.drew⟩
  ·have HE2:Hid (nodeE t scope ⟨4,vl,nm⟩=6):=by show _=_;rw [HE.out,if_neg (fun h=>hv h.symm)]
   have c5:=(hA.drew.cell (p:=⟨C,5,none⟩) hCl).trans h5
   have c6:=(hA.drew.cell (p:=⟨C,6,none⟩) hCl).trans h6
   clear HE
   go_enter Tryz.func219,Tryz.ntmps219
   go_wp2_with fail
   go_region
   go_wp2_with fail
   go_region
   go_wp2_with fail
   refine (fault_any C 6 fn st _ c5 c6).mono ?_
   rintro e w1 ⟨rfl,hw⟩
   rw [hw]
   clear hw
   go_wp2_with fail
   go_ret
   exact ⟨ret_val (by rw [HE2.out];rfl),hA.drew⟩
theorem mainK_any (C bn nn:Nat) (D:DataW Unit) (t:Tr) (fn st:Int) (vf:Value) (w:World) (h2:w.cell? ⟨C,2,none⟩=some vf) (h3:w.cell? ⟨C,3,none⟩=some (.map (some bn))) (h5:w.cell? ⟨C,5,none⟩=some (.int .i64 fn)) (h6:w.cell? ⟨C,6,none⟩=some (.int .i64 st))
  (hown:w.ownsMap Tryz.prog 9 (plainElem (H:=Unit) Tryz.prog 2) bn nn D) (hN:NumIs D t.funcs) (hfl:t.funcs.length<=1048576) (hf:Funcs w vf t.funcs) :
  Calls Tryz.prog 128 #[.pointer (some ⟨C,0,none⟩)] w fun e w'=>e = .returned (errV (match fnum t.funcs mainS with | none=>3 | some m=>if (t.funcs.getD m ⟨⟨#[]⟩,[],[]⟩).params.length>0 then 3 else 0) fn st)/\Below w.heap.size w w':=by
 obtain ⟨af,cf,rfl,-,-,hfc⟩:=hf
 have hs:mainS.size<=maxLen:=by unfold maxLen;decide
 cases hfn:fnum t.funcs mainS with
 | none=>
  have hlook:(Instr.lookup 52 (.map (some bn)) (.string ⟨#[109,97,105,110]⟩) true).run Tryz.prog w=_:=look_no hown hN hs hfn
  go_enter Tryz.func128,Tryz.ntmps128
  go_wp2_with fail
  refine (fault_any C 3 fn st _ h5 h6).mono ?_
  rintro e w1 ⟨rfl,hw⟩
  rw [hw]
  go_wp2_with fail
  go_ret
  exact ⟨ret_val rfl,Below.refl _ _⟩
 | some i=>
  have hi:=fnum_lt hfn
  have hlook:(Instr.lookup 52 (.map (some bn)) (.string ⟨#[109,97,105,110]⟩) true).run Tryz.prog w=_:=look_num hown hN hs hfn
  obtain ⟨bf,of,rfl,hfd⟩:=hfc o_
  obtain ⟨vp,vb,⟨f0,f1,f2⟩,⟨ap,cp,rfl,-⟩,-⟩:=hfd i hi
  have he:(t.funcs.getD i ⟨⟨#[]⟩,[],[]⟩).params.length=t.funcs[i].params.length:=by simp [List.getD,hi]
  simp only [he]
  generalize t.funcs[i].params.length=np at f1 ⊢
  by_cases hv:0<np
  ·have HE:Hid ((if np>0 then (3:Int) else 0)=3):=if_pos hv
   go_enter Tryz.func128,Tryz.ntmps128
   go_wp2_with fail
   refine (fault_any C 3 fn st _ h5 h6).mono ?_
   rintro e w1 ⟨rfl,hw⟩
   rw [hw]
   go_wp2_with fail
   go_ret
   exact ⟨ret_val (by first | rfl | (rw [HE.out];rfl)),Below.refl _ _⟩
  ·have HE:Hid ((if np>0 then (3:Int) else 0)=0):=if_neg hv
   obtain rfl:np=0:=by omega
   go_enter Tryz.func128,Tryz.ntmps128
   go_wp2_with fail
   go_ret
   exact ⟨ret_val (by first | rfl | (rw [HE.out];rfl)),Below.refl _ _⟩
def useF (o:Option Int) (arr:Bool):Int:=match o with | none=>4 | some z=>if decide (z>0)=arr then 0 else 5
theorem useK_any (C B:Nat) (bs:List Nat) (fl:List (ByteArray->Option Int)) (v:Value) (s:ByteArray) (arr:Bool) (fn st:Int) (w:World) (hl:fl.length=bs.length) (hlen:bs.length<=1000000) (hp:0<bs.length) (hs:s.size<=maxLen)
  (hc:w.cell? ⟨C,0,none⟩=some v) (h5:w.cell? ⟨C,5,none⟩=some (.int .i64 fn)) (h6:w.cell? ⟨C,6,none⟩=some (.int .i64 st)) (hR:BRw B w v bs) (hM : ∀j,j<bs.length->∃nn D,w.ownsMap Tryz.prog 9 (plainElem (H:=Unit) Tryz.prog 2) (bs[j]?.getD 0) nn D/\MapIs D (fl.getD j noF)) :
  Calls Tryz.prog 217 #[.pointer (some ⟨C,0,none⟩),.string s,.bool arr] w fun e w'=>e = .returned (errV (useF (findS fl s) arr) fn st)/\Below w.heap.size w w':=by
 have hCl:C<w.heap.size:=World.block_lt_of_cell? _ _ hc
 have HFi:=hide (findK_any C B bs fl v s w hl hlen hp hs hc hR hM)
 cases hfi:findS fl s with
 | none=>
  rw [hfi] at HFi
  go_enter Tryz.func217,Tryz.ntmps217
  go_wp2_with fail
  refine HFi.out.mono ?_
  rintro e w1 ⟨rfl,hb1⟩
  have c5:=(hb1.cell (p:=⟨C,5,none⟩) hCl).trans h5
  have c6:=(hb1.cell (p:=⟨C,6,none⟩) hCl).trans h6
  go_wp2_with fail
  refine (fault_any C 4 fn st _ c5 c6).mono ?_
  rintro e w2 ⟨rfl,hw⟩
  rw [hw]
  go_wp2_with fail
  go_ret
  exact ⟨ret_val rfl,hb1⟩
 | some z=>
  rw [hfi] at HFi
  by_cases hz:z>0
  ·cases arr
   ·go_enter Tryz.func217,Tryz.ntmps217
    go_wp2_with fail
    refine HFi.out.mono ?_
    rintro e w1 ⟨rfl,hb1⟩
    have c5:=(hb1.cell (p:=⟨C,5,none⟩) hCl).trans h5
    have c6:=(hb1.cell (p:=⟨C,6,none⟩) hCl).trans h6
    have HE:Hid (useF (some z) false=5):=by show _=_;unfold useF;simp [hz]
    go_wp2_with fail
    refine (fault_any C 5 fn st _ c5 c6).mono ?_
    rintro e w2 ⟨rfl,hw⟩
    rw [hw]
    go_wp2_with fail
    go_ret
    exact ⟨ret_val (by rw [HE.out];rfl),hb1⟩
   ·go_enter Tryz.func217,Tryz.ntmps217
    go_wp2_with fail
    refine HFi.out.mono ?_
    rintro e w1 ⟨rfl,hb1⟩
    have HE:Hid (useF (some z) true=0):=by show _=_;unfold useF;simp [hz]
    go_wp2_with fail
    go_ret
    exact ⟨ret_val (by rw [HE.out];rfl),hb1⟩
  ·cases arr
   ·go_enter Tryz.func217,Tryz.ntmps217
    go_wp2_with fail
    refine HFi.out.mono ?_
    rintro e w1 ⟨rfl,hb1⟩
    have HE:Hid (useF (some z) false=0):=by show _=_;unfold useF;simp [hz]
    go_wp2_with fail
    go_ret
    exact ⟨ret_val (by rw [HE.out];rfl),hb1⟩
   ·go_enter Tryz.func217,Tryz.ntmps217
    go_wp2_with fail
    refine HFi.out.mono ?_
    rintro e w1 ⟨rfl,hb1⟩
    have c5:=(hb1.cell (p:=⟨C,5,none⟩) hCl).trans h5
    have c6:=(hb1.cell (p:=⟨C,6,none⟩) hCl).trans h6
    have HE:Hid (useF (some z) true=5):=by show _=_;unfold useF;simp [hz]
    have hz1:z<=0:=by omega
    have hz2:decide (0<z)=false:=by simp;omega
    have hz3:decide (z>0)=false:=by simp;omega
    go_wp2_with fail
    refine (fault_any C 5 fn st _ c5 c6).mono ?_
    rintro e w2 ⟨rfl,hw⟩
    rw [hw]
    go_wp2_with fail
    go_ret
    exact ⟨ret_val (by rw [HE.out];rfl),hb1⟩
structure Ck (w:World) (C B bn nn:Nat) (D:DataW Unit) (t:Tr) (bsn:List (List ByteArray)) (bs:List Nat) (v vf:Value) (fn st:Int):Prop where
 c0:w.cell? ⟨C,0,none⟩=some v
 c2:w.cell? ⟨C,2,none⟩=some vf
 c3:w.cell? ⟨C,3,none⟩=some (.map (some bn))
 c5:w.cell? ⟨C,5,none⟩=some (.int .i64 fn)
 c6:w.cell? ⟨C,6,none⟩=some (.int .i64 st)
 row:BRw B w v bs
 len:(scopesF t.globals bsn).length=bs.length
 small:bs.length<=1000000
 maps : ∀j,j<bs.length->∃nn D,w.ownsMap Tryz.prog 9 (plainElem (H:=Unit) Tryz.prog 2) (bs[j]?.getD 0) nn D/\MapIs D ((scopesF t.globals bsn).getD j noF)
 own:w.ownsMap Tryz.prog 9 (plainElem (H:=Unit) Tryz.prog 2) bn nn D
 num:NumIs D t.funcs
 funcs:Funcs w vf t.funcs
theorem Ck.below {w w':World} {C B bn nn:Nat} {D:DataW Unit} {t:Tr} {bsn:List (List ByteArray)} {bs:List Nat} {v vf:Value} {fn st:Int} (h:Ck w C B bn nn D t bsn bs v vf fn st) (hb:Below w.heap.size w w'):Ck w' C B bn nn D t bsn bs v vf fn st:=by
 have hC:C<w.heap.size:=World.block_lt_of_cell? _ _ h.c0
 refine ⟨(hb.cell (p:=⟨C,0,none⟩) hC).trans h.c0,(hb.cell (p:=⟨C,2,none⟩) hC).trans h.c2,(hb.cell (p:=⟨C,3,none⟩) hC).trans h.c3,(hb.cell (p:=⟨C,5,none⟩) hC).trans h.c5,(hb.cell (p:=⟨C,6,none⟩) hC).trans h.c6,h.row.below hb,h.len,h.small,fun j hj => ?_,map_below h.own hb,h.num,h.funcs.below hb⟩
 obtain ⟨nn,D,h1,h2⟩:=h.maps j hj
 exact ⟨nn,D,map_below h1 hb,h2⟩
theorem useE_F {gs:List Gl} {bs:List (List ByteArray)} {s:ByteArray} {arr:Bool} (hp : ∀g∈gs,0<=g.size):useE gs bs.flatten s arr=useF (findS (scopesF gs bs) s) arr:=by
 rw [useE_find hp]
 rfl
theorem useC_any {w:World} {C B bn nn:Nat} {D:DataW Unit} {t:Tr} {bsn:List (List ByteArray)} {bs:List Nat} {v vf:Value} {fn st:Int} (h:Ck w C B bn nn D t bsn bs v vf fn st) (hp : ∀g∈t.globals,0<=g.size) (s:ByteArray) (hs:s.size<=maxLen) (arr:Bool) :
  Calls Tryz.prog 217 #[.pointer (some ⟨C,0,none⟩),.string s,.bool arr] w fun e w'=>e = .returned (errV (useE t.globals bsn.flatten s arr) fn st)/\Below w.heap.size w w':=by
 have hpos:0<bs.length:=by rw [<-h.len];simp [scopesF]
 rw [useE_F hp]
 exact useK_any C B bs _ v s arr fn st w h.len h.small hpos hs h.c0 h.c5 h.c6 h.row h.maps
theorem nodeK_any {w:World} {C B bn nn:Nat} {D:DataW Unit} {t:Tr} {bsn:List (List ByteArray)} {bs:List Nat} {v vf:Value} {fn st:Int} (h:Ck w C B bn nn D t bsn bs v vf fn st) (hp : ∀g∈t.globals,0<=g.size) (hfl:t.funcs.length<=1048576) (n:Nd) (hs:n.name.size<=maxLen) :
  Calls Tryz.prog 216 #[.pointer (some ⟨C,0,none⟩),.agg #[.int .i64 n.kind,.int .i64 n.val,.string n.name]] w fun e w'=>e = .returned (errV (nodeE t bsn.flatten n) fn st)/\Below w.heap.size w w':=by
 obtain ⟨kd,vl,nm⟩:=n
 simp only at hs ⊢
 have hA:Bl w (w.alloc (.cells #[.int .i64 kd,.int .i64 vl,.string nm] 151)):=bel_a _ _
 have HK:=hide (h.below hA)
 clear h
 by_cases h2:kd=2
 ·subst h2
  have HE:Hid (nodeE t bsn.flatten ⟨2,vl,nm⟩=useE t.globals bsn.flatten nm false):=rfl
  go_enter Tryz.func216,Tryz.ntmps216
  go_wp2_with fail
  refine (useC_any HK.out hp nm hs false).mono ?_
  rintro e w1 ⟨rfl,hb1⟩
  have hB:=hA.trans (hb1.mono (by simp))
  rw [<-HE.out]
  obtain ⟨ev,hev⟩ : ∃ev,ev=errV (nodeE t bsn.flatten ⟨2,vl,nm⟩) fn st:=⟨_,rfl⟩
  rw [<-hev]
  have HV:=hide hev
  clear hev
  go_wp2_with fail
  go_ret
  exact ⟨ret_val HV.out,hB⟩
 by_cases h3:kd=3
 ·subst h3
  have HE:Hid (nodeE t bsn.flatten ⟨3,vl,nm⟩=useE t.globals bsn.flatten nm true):=rfl
  go_enter Tryz.func216,Tryz.ntmps216
  go_wp2_with fail
  refine (useC_any HK.out hp nm hs true).mono ?_
  rintro e w1 ⟨rfl,hb1⟩
  have hB:=hA.trans (hb1.mono (by simp))
  rw [<-HE.out]
  obtain ⟨ev,hev⟩ : ∃ev,ev=errV (nodeE t bsn.flatten ⟨3,vl,nm⟩) fn st:=⟨_,rfl⟩
  rw [<-hev]
  have HV:=hide hev
  clear hev
  go_wp2_with fail
  go_ret
  exact ⟨ret_val HV.out,hB⟩
 by_cases h4:kd=4
 ·subst h4
  go_enter Tryz.func216,Tryz.ntmps216
  go_wp2_with fail
  refine (callK_any C bn nn D t bsn.flatten vl fn st nm vf _ HK.out.c2 HK.out.c3 HK.out.c5 HK.out.c6 HK.out.own HK.out.num hfl HK.out.funcs hs).mono ?_
  rintro e w1 ⟨rfl,hb1⟩
  have hB:=hA.trans (hb1.mono (by simp))
  obtain ⟨ev,hev⟩ : ∃ev,ev=errV (nodeE t bsn.flatten ⟨4,vl,nm⟩) fn st:=⟨_,rfl⟩
  rw [<-hev]
  have HV:=hide hev
  clear hev
  go_wp2_with fail
  go_ret
  exact ⟨ret_val HV.out,hB⟩
 ·have HE:Hid (nodeE t bsn.flatten ⟨kd,vl,nm⟩=0):=by
   show _=_
   unfold nodeE
   simp only
   rw [if_neg o_,if_neg h4]
  have b2:(kd == 2)=false:=by simpa using h2
  have b3:(kd == 3)=false:=by simpa using h3
  have b4:(kd == 4)=false:=by simpa using h4
  go_enter Tryz.func216,Tryz.ntmps216
  go_wp2_with fail
  go_ret
  exact ⟨ret_val (by rw [HE.out];rfl),hA⟩
theorem sortsA (m:Nat):AnyZI.SortsIn Tryz.prog Tryz.sortedA_ren Fence.wide m:=
 ⟨fun blk off cap ss W hH hblk hsz=>callsIn_wide.2 (AnyM.slices_Sort_int Tryz.sortA blk off cap ss W hH hblk hsz),
  fun p cap W=>callsIn_wide.2 (AnyM.slices_Sort_int_none Tryz.sortA p cap W)⟩
theorem keys_any (mb:Option Nat) (w:World):Calls Tryz.prog 101 #[.map mb] w fun e w'=>e = .returned (.func (.func 133) #[] #[.pointer (some ⟨w.heap.size,0,none⟩)])/\w'=w.alloc (.cells #[.map mb] 129):=
 (callsIn_wide (n:=5)).1 (AnyZI.keys_in Tryz.keysA Fence.wide 5 trivial rfl mb w)
theorem sorted_any (b nn:Nat) (D:DataW Unit) (R:Value->Option (DataW Unit × List MemPlace)) (w:World) (hown:w.ownsMap Tryz.prog 2 R b nn D) (hmax:Maps.size D<=10000000000000) :
  Calls Tryz.prog 100 #[.func (.func 133) #[] #[.pointer (some ⟨w.heap.size,0,none⟩)]] (w.alloc (.cells #[.map (some b)] 129)) fun e w'=>∃(v:Value) (ss:List Int),e = .returned v/\ss.Perm (intKeys D) /\
   w'.ownsRow w.heap.size 2 1 v ss.length ((ss.mergeSort leI).map (Value.int .i64))/\Below w.heap.size w w':=by
 refine (callsIn_wide (n:=5)).1 ?_
 have hbl:=hown.lt
 have hseq:SeqGives Fence.wide 2 Tryz.prog 133 #[.pointer (some ⟨w.heap.size,0,none⟩)] encZ (fun ss=>ss.Perm (intKeys D)) (Maps.size D) (w.alloc (.cells #[.map (some b)] 129)):=
  AnyZI.keys_gives (ρ := Tryz.keysA_ren) {Tryz.keysA with} Fence.wide _ trivial rfl o_ w.heap.size b nn D _ (by simp) (by simp) (by
   obtain ⟨es,clock,hb,Ft,hs,hD⟩:=hown
   exact ⟨es,clock,(Below.heap_alloc _ _ b hbl).trans hb,Ft,hs,hD⟩)
 have cS:=AnyZI.sorted_in Tryz.sortedA Fence.wide 5 trivial trivial trivial trivial rfl o_ (sortsA _) (enters_of Tryz.func132 (by kernel_rfl) rfl) 133 #[.pointer (some ⟨w.heap.size,0,none⟩)] trivial (enters_of Tryz.func133 (by kernel_rfl) rfl) _ _ (by unfold maxLen;omega) o_ _ hseq
 change CallsIn _ _ Tryz.prog 100 _ _ _ at cS
 refine cS.mono ?_
 rintro e w' ⟨v,ss,rfl,hS,hrow,hnil,hb⟩
 exact ⟨v,ss,rfl,hS,ownsRow_base_a hrow (by simp),((Below.refl _ w).alloc (Nat.le_refl _) _).trans (hb.mono (by simp))⟩
theorem own_size {P:Program} {k:TypeId} {R:Value->Option (DataW Unit × List MemPlace)} {w:World} {b n:Nat} {D:DataW Unit} (h:w.ownsMap P k R b n D):Maps.size D<=n:=by
 obtain ⟨es,clock,hb,F,hs,rfl⟩:=h
 rw [Maps.size_eq,length_sorted]
 simpa using hs
def bnd (n k m j:Nat):Prop:=n<=k*2097152+m*1048576+j
theorem bnd.zero:bnd 0 0 0 0:=by unfold bnd;omega
theorem bnd.same {n k m j:Nat} (h:bnd n k m j):bnd n k m (j+1):=by unfold bnd at *;omega
theorem bnd.more {n k m j:Nat} (h:bnd n k m j):bnd (n+1) k m (j+1):=by unfold bnd at *;omega
theorem bnd.mid {n k m j:Nat} (h:bnd n k m j) (hj:j<=1048576):bnd n k (m+1) 0:=by
 have e : ∀c:Nat,(m+1)*c=m*c+c:=fun c=>Nat.succ_mul m c
 unfold bnd at h ⊢
 rw [e]
 revert h hj
 generalize (1048576:Nat)=c
 omega
theorem bnd.out {n k:Nat} (h:bnd n k 2 0):bnd n (k+1) 0 0:=by unfold bnd at *;omega
theorem bnd.le {n k m j:Nat} (h:bnd n k m j) (hk:k<=1048576) (hm:m<=2) (hj:j<=1048576):n<=10000000000000:=by unfold bnd at *;omega
def upTo (s:St) (m:Nat):List Nd:=if m=0 then [] else if m=1 then s.e else s.e++s.f
theorem callsOf_any (fs:List Fu) (f:Fu) (vp vb:Value) (b nn:Nat) (D:DataW Unit) (w:World) (hl:fs.length<=1048576) (hsm:smallF f) (hwf:wfFu f) (hp:Strs w vp f.params) (hb:Stmts w vb f.body)
  (hown:w.ownsMap Tryz.prog 9 (plainElem (H:=Unit) Tryz.prog 2) b nn D) (hN:NumIs D fs) :
  Calls Tryz.prog 75 #[.agg #[.string f.name,vp,vb],.map (some b)] w fun e w'=>∃v,e = .returned v/\w'.ownsRow w.heap.size 2 1 v (callsL fs f.body).length ((callsL fs f.body).map (fun g:Nat=>Value.int .i64 (g:Int)))/\Below w.heap.size w w':=by
 obtain ⟨ap,cp,rfl,-⟩:=hp
 obtain ⟨ab,cb,rfl,-,-,hbc⟩:=hb
 have HBC:=hide hbc
 have HW:=hide hown
 have HN:=hide hN
 have HSm:Hid (∀s∈f.body,smallS s):=hsm.2.2
 have HWf:Hid (∀s∈f.body,wfSt s):=hwf.2.2.2
 have hbl:f.body.length<=1048576:=hsm.2.1
 have hblt:=hown.lt
 clear hbc hown hN hsm hwf
 generalize f.body=body at hbl HBC HSm HWf ⊢
 have hmm := @run_makeMap Tryz.prog
 go_enter Tryz.func75,Tryz.ntmps75
 go_wp2_with fail
 go_loopw [18] (fun i wr=>∃(k n2:Nat) (D2:DataW Unit),k<=body.length/\i = .int .i64 k/\wr.ownsMap Tryz.prog 2 (plainElem (H:=Unit) Tryz.prog 2) (w.heap.size+1) n2 D2/\bnd n2 k 0 0/\KeysIs D2 (callN fs (nodesOf (body.take k)))/\Bl w wr) (fun i _=>body.length-(RowKit.intOf i).toNat)
 case atStart=>exact ⟨0,0,.map [],Nat.zero_le _,rfl,by simpa using World.ownsMap_made (w.alloc _) Tryz.prog 2 _,bnd.zero,KeysIs.nil,(bel_a _ _).alloc (by simp) _⟩
 case round=>
  clear hmm
  obtain ⟨k,n2,D2,hk,rfl,hM,hn2,hK,hB⟩:=hrel
  have HM:=hide hM
  have HK:=hide hK
  clear hM hK
  by_cases hlt:k<body.length
  ·obtain ⟨b',off,rfl,hc⟩:=HBC.out o_
   obtain ⟨ve,vf,⟨c0,c1,c2,c3,c4,c5⟩,he,hf⟩:=hc k hlt
   have hlb:=World.block_lt_of_cell? _ _ c0
   have d0:=(hB.cell (p:=⟨b',off+k*6,none⟩) hlb).trans c0
   have d1:=(hB.cell (p:=⟨b',off+k*6+1,none⟩) hlb).trans c1
   have d2:=(hB.cell (p:=⟨b',off+k*6+2,none⟩) hlb).trans c2
   have d3:=(hB.cell (p:=⟨b',off+k*6+3,none⟩) hlb).trans c3
   have d4:=(hB.cell (p:=⟨b',off+k*6+4,none⟩) hlb).trans c4
   have d5:=(hB.cell (p:=⟨b',off+k*6+5,none⟩) hlb).trans c5
   clear c0 c1 c2 c3 c4 c5
   have HE:Hid (nodesOf (body.take (k+1))=nodesOf (body.take k)++(body[k].e++body[k].f)):=by show _=_;rw [take_succ body k hlt,nodesOf_snoc]
   have HS:Hid (smallS body[k]):=HSm.out _ (List.getElem_mem hlt)
   have HWs:Hid (wfSt body[k]):=HWf.out _ (List.getElem_mem hlt)
   clear hc
   generalize body[k]=s at d0 d1 d2 d3 d4 d5 he hf HE HS HWs
   generalize nodesOf (body.take k)=pre at HK HE
   have HNe:=hide he
   have HNf:=hide hf
   obtain ⟨ae,ce,rfl,-⟩:=he
   obtain ⟨af,cf,rfl,-⟩:=hf
   go_wp2_with fail
   refine (exprs_any _ _ _ _ _ _ _ _ _ _ _).mono ?_
   rintro e w1 ⟨rfl,hb1⟩
   simp only [World.size_alloc] at hb1
   have HB1:Hid (Bl w w1):=hB.trans ((one_below hb1).mono hB.size)
   have HM1:=hide (map_below HM.out (one_below hb1))
   clear d0 d1 d2 d3 d4 d5 hb1
   go_wp2_with fail
   go_loopw [24] (fun i w2=>∃(m n3:Nat) (D3:DataW Unit),m<=2/\i = .int .i64 m/\w2.ownsMap Tryz.prog 2 (plainElem (H:=Unit) Tryz.prog 2) (w.heap.size+1) n3 D3/\bnd n3 k m 0/\KeysIs D3 (callN fs (pre++upTo s m))/\Bl w w2) (fun i _=>2-(RowKit.intOf i).toNat)
   case atStart=>exact ⟨0,n2,D2,Nat.zero_le _,rfl,HM1.out,hn2,by simpa [upTo] using HK.out,HB1.out⟩
   case round=>
    obtain ⟨m,n3,D3,hm,rfl,hM3,hn3,hK3,hB3⟩:=hrel
    have HM3:=hide hM3
    have HK3:=hide hK3
    clear hM3 hK3 HM1 HM HK hB HB1
    by_cases hm2:m<2
    ·obtain ⟨va,el,ca,hidx,hel,hnext,hll,hwfs⟩ : ∃(va:Option Addr) (el:List Nd) (ca:Nat),(∀W,(Instr.index 162 (.agg #[.slice ae s.e.length ce,.slice af s.f.length cf]) (.int .i64 (m:Int))).run Tryz.prog W = .ok (.slice va el.length ca) W)/\Nodes w (.slice va el.length ca) el/\upTo s (m+1)=upTo s m++el/\el.length<=1048576/\(∀n∈el,n.name.size<=9223372036854775807):=by
      have h01:m=0∨m=1:=by omega
      rcases h01 with rfl | rfl
      ·exact ⟨ae,s.e,ce,fun W=>idx0 _ _ W,HNe.out,by simp [upTo],HS.out.1,HWs.out.2.1.2⟩
      ·exact ⟨af,s.f,cf,fun W=>idx1 _ _ W,HNf.out,by simp [upTo],HS.out.2,HWs.out.2.2.2⟩
     have HX:=hide hnext
     have HWn:=hide hwfs
     generalize upTo s m=mid at HK3 HX
     obtain ⟨_,_,he0,-,-,hec⟩:=hel
     simp only [Value.slice.injEq] at he0
     obtain ⟨rfl,-,rfl⟩:=he0
     have HEC:=hide hec
     clear hec hnext hwfs
     have hm2d:decide ((m:Int)<2)=true:=by rw [decide_eq_true_iff];omega
     go_wp2_with fail
     go_loopw [29] (fun i w4=>∃(j n4:Nat) (D4:DataW Unit),j<=el.length/\i = .int .i64 j/\w4.ownsMap Tryz.prog 2 (plainElem (H:=Unit) Tryz.prog 2) (w.heap.size+1) n4 D4/\bnd n4 k m j/\KeysIs D4 (callN fs (pre++mid++el.take j))/\Bl w w4) (fun i _=>el.length-(RowKit.intOf i).toNat)
     case atStart=>exact ⟨0,n3,D3,Nat.zero_le _,rfl,HM3.out,hn3,by simpa using HK3.out,hB3⟩
     case round=>
      clear hidx
      obtain ⟨j,n4,D4,hj,rfl,hM4,hn4,hK4,hB4⟩:=hrel
      have HM4:Hid (wr.ownsMap Tryz.prog 2 (plainElem (H:=Unit) Tryz.prog 2) (w.heap.size+1) n4 D4):=hM4
      have HK4:Hid (KeysIs D4 (callN fs (pre++mid++el.take j))):=hK4
      clear hM4 hK4
      by_cases hjl:j<el.length
      ·obtain ⟨bn,on,rfl,hcn⟩:=HEC.out o_
       obtain ⟨c0,c1,c2⟩:=(hcn.below hB4) j hjl
       have HZ:Hid (el[j].name.size<=maxLen):=by
        have:=HWn.out el[j] (List.getElem_mem hjl)
        show _<=_
        unfold maxLen;omega
       have HT:Hid (pre++mid++el.take (j+1)=pre++mid++el.take j++[el[j]]):=by show _=_;rw [take_succ el j hjl];simp
       clear hcn
       generalize el[j]=n at c0 c1 c2 HZ HT
       generalize pre++mid++el.take j=done at HK4 HT
       have hBa:Bl w (wr.alloc (.cells #[.int .i64 n.kind,.int .i64 n.val,.string n.name] 151)):=hB4.alloc hB4.size _
       have HMa:Hid ((wr.alloc (.cells #[.int .i64 n.kind,.int .i64 n.val,.string n.name] 151)).ownsMap Tryz.prog 2 (plainElem (H:=Unit) Tryz.prog 2) (w.heap.size+1) n4 D4):=HM4.out.alloc _
       have hsz4:=hB4.size
       cases hv:fnum fs n.name with
       | none=>
        have hlook:=look_no (map_below HW.out hBa) HN.out HZ.out hv
        have HR:Hid (callN fs (done++[n])=callN fs done):=callN_snoc_no (fun _=>hv)
        clear hv
        go_wp2_with fail
        go_roundw
        case rel=>exact ⟨j+1,n4,D4,by omega,by go_num,HMa.out,hn4.same,by rw [HT.out,HR.out];exact HK4.out,hBa⟩
        case measure=>simp [RowKit.intOf];omega
       | some g=>
        have hlook:=look_num (map_below HW.out hBa) HN.out HZ.out hv
        by_cases h4:n.kind=4
        ·have HR:Hid (callN fs (done++[n])=callN fs done++[g]):=callN_snoc_yes h4 hv
         have hgl:g<fs.length:=fnum_lt hv
         clear hv
         have HT2:Hid (callN fs (pre++mid++el.take (j+1))=callN fs done++[g]):=by show _=_;rw [HT.out,HR.out]
         clear HT HR HM4
         obtain ⟨kd,vl,nm⟩:=n
         simp only at c0 c1 c2 HZ hBa HMa hlook h4
         subst h4
         obtain ⟨c,hrun2,hat,hwc⟩:=HMa.out.lookup_int (key:=.int .i64 (g:Int)) (Maps.int_keyed Tryz.underlying2) Tryz.underlying129 Tryz.underlying2 (Tryz.zeroValue2 _) (Maps.keyOf_int_mk Tryz.underlying2 (WalkArith.wf_i64 o_))
         go_wp2_with (first
          | (at_mapUpdate;refine wpList_mapUpdate_own _ rfl _ _ _ 129 rfl 2 2 (Maps.int_keyed Tryz.underlying2) Tryz.underlying129 _ (w.heap.size+1) n4 D4 rfl HMa.out (by have:=hn4.le o_ o_ o_;unfold maxLen;omega) _ _ _ rfl rfl (Maps.keyOf_int_mk Tryz.underlying2 (WalkArith.wf_i64 o_)) _ [] (plainElem_int Tryz.underlying2 (wrap64_wf _)) ?_;intro w5 hown5 hgrow5)
          | go_in)
         have HM5:=hide hown5
         have HK5:Hid (KeysIs (D4.put (.int .i64 (g:Int)) (.lit (.int .i64 (wrap64 (c+1))))) (callN fs done++[g])):=HK4.out.put g _
         have hB5:Bl w w5:=hBa.grown hgrow5 (by simp;omega) (fun j hj=>by cases hj;omega)
         have hn5:bnd (n4+1) k m (j+1):=hn4.more
         clear hown5 hgrow5 hat hwc
         generalize D4.put (.int .i64 (g:Int)) (.lit (.int .i64 (wrap64 (c+1))))=D5 at HM5 HK5
         go_roundw
         case rel=>exact ⟨j+1,n4+1,D5,by omega,by go_num,HM5.out,hn5,by rw [HT2.out];exact HK5.out,hB5⟩
         case measure=>simp [RowKit.intOf];omega
        ·have HR:Hid (callN fs (done++[n])=callN fs done):=callN_snoc_no (fun h=>absurd h h4)
         clear hv
         go_wp2_with fail
         go_roundw
         case rel=>exact ⟨j+1,n4,D4,by omega,by go_num,HMa.out,hn4.same,by rw [HT.out,HR.out];exact HK4.out,hBa⟩
         case measure=>simp [RowKit.intOf];omega
      ·obtain rfl:j=el.length:=by omega
       have hn5:bnd n4 k (m+1) 0:=hn4.mid hll
       have HR:Hid (pre++mid++el.take el.length=pre++upTo s (m+1)):=by show _=_;rw [HX.out,List.take_length,List.append_assoc]
       go_wp2_with fail
       go_roundw
       case rel=>exact ⟨m+1,n4,D4,by omega,by go_num,HM4.out,hn5,by rw [<-HR.out];exact HK4.out,hB4⟩
       case measure=>simp [RowKit.intOf];omega
    ·obtain rfl:m=2:=by omega
     have hn5:bnd n3 (k+1) 0 0:=hn3.out
     have HR:Hid (nodesOf (body.take (k+1))=pre++upTo s 2):=by show _=_;rw [HE.out];rfl
     go_wp2_with fail
     go_roundw
     case rel=>exact ⟨k+1,n3,D3,by omega,by go_num,HM3.out,hn5,by rw [HR.out];exact HK3.out,hB3⟩
     case measure=>simp [RowKit.intOf];omega
  ·have hkk:k=body.length:=by omega
   have HK2:Hid (KeysIs D2 (callN fs (nodesOf body))):=by have:=HK.out;rw [List.take_of_length_le o_] at this;exact this
   have hsz:Maps.size D2<=10000000000000:=Nat.le_trans (own_size HM.out) (hn2.le o_ o_ o_)
   go_wp2_with fail
   refine (keys_any _ _).mono ?_
   rintro e w6 ⟨rfl,rfl⟩
   go_wp2_with fail
   refine (sorted_any (w.heap.size+1) n2 D2 _ wr HM.out hsz).mono ?_
   rintro e w7 ⟨v7,zs,rfl,hp,hrow,hb7⟩
   have hsk:=sorted_keys HM.out Tryz.underlying2 HK2.out hp
   have hzl:zs.length=(callsL fs body).length:=by
    have:=congrArg List.length hsk
    simpa using this
   rw [hsk,hzl,List.map_map] at hrow
   have HRow:=hide hrow
   have hB7:=hB.trans (hb7.mono hB.size)
   clear hsk hrow hp
   go_wp2_with fail
   go_ret
   exact ⟨v7,rfl,ownsRow_base_a HRow.out hB.size,hB7⟩
end Go.Proofs.YtnpidjamplmgjaaGreatDoor
