import Derived.Test.YtmddmgpijpjpbaaGreatDoorR44
import Derived.Test.YtmddmgpijpjpbaaGreatDoorR18
set_option linter.unusedSectionVars false
variable [Inhabited Go.Proofs.YtmddmgpijpjpbaaGreatDoor.Pick]
namespace Go.Proofs.YtmddmgpijpjpbaaGreatDoor
open Go.RowKit
set_option linter.unusedVariables false
set_option linter.unusedSimpArgs false
set_option maxRecDepth 100000
set_option maxHeartbeats 16000000
theorem flat_elem {L:List (Value × List St)} {k:Nat} (hk:k<L.length):L[k].2.length<=(flatL L).length:=by
 have e:L=L.take k++(L[k]::L.drop (k+1)):=by rw [List.getElem_cons_drop,List.take_append_drop]
 have h:=congrArg (fun X=>(flatL X).length) e
 simp only [flatL_append,flatL_cons,l_a] at h
 omega
theorem any_no {M:List (Value × List St)} (h : ∀q∈M,isRet q.2=false):M.any (fun q=>isRet q.2)=false:=by
 rw [List.any_eq_false]
 intro q hq
 simp [h q hq]
theorem mem_take {M:List (Value × List St)} {j:Nat} (hj:j<M.length) {P:Value × List St->Prop} (h : ∀q∈M.take j,P q) (hq:P M[j]) : ∀q∈M.take (j+1),P q:=by
 intro q hm
 rw [List.take_succ_eq_append_getElem hj] at hm
 rcases List.mem_append.1 hm with hm | hm
 ·exact h q hm
 ·simp only [List.mem_singleton] at hm
  subst hm
  exact hq
theorem tidied_step (N:Nat) (hN:N<=1000) (IH:TidyC N):TidyC (N+1):=by
 intro ss v S w hl hB hS
 obtain ⟨L,hL,rfl⟩:=hB.toL
 have HL:=hide hL
 obtain ⟨a,cap,rfl,hc1,hc2,hcell⟩:=hL.args
 have HCe:=hide hcell
 have HS:=hide hS
 have HIH:=hide IH
 have HLen:=hide hl
 have hLl:L.length<=N+1:=by
  have:=HL.out.bk
  have h2:=HL.out.parts
  have:=joinS_len L.length (fun i hi=>(h2.2.1 i hi).pos)
  rw [h2.2.2] at this
  omega
 obtain ⟨iS,hjS,hyS0,hyS1,hyS2⟩:=info_parts info_st
 have HI:Hid (Tryz.prog.info? 153=some iS/\iS.zero=some .nilIface/\iS.size=1/\iS.bytes=16):=⟨hjS,hyS0,hyS1,hyS2⟩
 clear hcell hS IH hl hB hL hjS hyS0 hyS1 hyS2
 go_enter Tryz.func71,Tryz.ntmps71
 go_wp2_with fail
 go_loopw [3,12] (fun p i wr=>∃(k:Nat) (R:List (Value × List St)) (S':Nat->Prop),k<=L.length/\i = .int .i64 k/\TdI w wr S S' p R/\(∀q∈R,isRet q.2=false)/\tidyB (flatL L)=flatL R++tidyB (flatL (L.drop k))/\(flatL R).length+(flatL (L.drop k)).length<=N+1) (fun _ i _=>L.length-(RowKit.intOf i).toNat)
 case atStart=>exact ⟨0,[],fun _=>False,Nat.zero_le _,rfl,TdI.nil w S,fun q hq=>(by cases hq),by simp [flatL_nil],by simpa [flatL_nil] using HLen.out⟩
 case round=>
  obtain ⟨k,R,S',hk,rfl,hT,hno,hti,hlr⟩:=hrel
  have HT:=hide hT
  have HNo:=hide hno
  have HTi:=hide hti
  obtain ⟨va,vn,vc,rfl⟩ : ∃va vn vc,u3 = .slice va vn vc:=by
   rcases hT.row.2 with ⟨rfl,_⟩ | ⟨g,cp,cur,rfl,_⟩
   ·exact ⟨_,_,_,rfl⟩
   ·exact ⟨_,_,_,rfl⟩
  clear hT hno hti
  by_cases hlt:k<L.length
  ·obtain ⟨B,rfl,hSB,hcB⟩:=HCe.out (by omega)
   have hm:L[k]∈L:=List.getElem_mem hlt
   have hbv:=HL.out.bv _ hm
   obtain ⟨s,xa,xb,ho⟩:=hbv.one
   obtain ⟨tk,yk,hvk⟩:=hbv.isI
   have c0:=(HT.out.bel.cell (p:=⟨B,k,none⟩) (HS.out B hSB)).trans (hcB k hlt)
   rw [getD_at hlt,hvk] at c0
   rw [hvk] at hbv
   have hSw : ∀B,S B->B<wr.heap.size:=fun B hB=>Nat.lt_of_lt_of_le (HS.out B hB) HT.out.bel.size
   have HSt:=hide (settled_any N HIH.out (by have:=flat_elem hlt;have:=HLen.out;omega) (hbv.bel HS.out HT.out.bel) hSw ho)
   have hdr:L.drop k=L[k]::L.drop (k+1):=(List.getElem_cons_drop (h:=hlt)).symm
   have HDr:=hide hdr
   have HOn:=hide ho
   have HHm:Hid (tidyB (flatL (L.drop k))=if endsB (moreS s (tidyB xa) (tidyB xb))=true then moreS s (tidyB xa) (tidyB xb) else moreS s (tidyB xa) (tidyB xb)++tidyB (flatL (L.drop (k+1)))):=by show _=_;rw [hdr,flatL_cons];exact ho.tidy _
   have hml:(moreS s (tidyB xa) (tidyB xb)).length<=L[k].2.length:=by
    have h1:=moreS_len s (tidyB xa) (tidyB xb)
    have h2:=tidyB_len xa.length xa (Nat.le_refl _)
    have h3:=tidyB_len xb.length xb (Nat.le_refl _)
    have h4:=congrArg List.length ho.is
    simp only [l_c,l_a] at h4
    omega
   rw [hdr,flatL_cons,l_a] at hlr
   clear hm hbv hSw hdr ho hcB hvk
   generalize moreS s (tidyB xa) (tidyB xb)=mo at HSt HHm hml
   generalize hLk:L[k].2.length=lk at hml hlr
   have hlr2:(flatL R).length+mo.length+(flatL (L.drop (k+1))).length<=N+1:=by omega
   clear hLk HOn HDr hlr
   go_wp2_with fail
   refine HSt.out.mono ?_
   rintro x w1 ⟨u,rfl,⟨S2,M,hM,hS2,hfl,hrl⟩,hb1⟩
   have HFl:=hide hfl
   have HRl:=hide hrl
   have HM:=hide hM
   have hMl:M.length<=mo.length:=by
    have h2:=hM.parts
    have:=joinS_len M.length (fun i hi=>(h2.2.1 i hi).pos)
    rw [h2.2.2,hfl] at this
    exact this
   have HT1:Hid (TdI w w1 S (fun B=>S' B∨S2 B) (.slice va vn vc) R):=(HT.out.bel' HS.out hb1).more (fun B hB=>by
    obtain ⟨e1,e2⟩:=hS2 B hB
    refine ⟨Nat.le_trans HT.out.bel.size e1,e2,fun e => ?_⟩
    have:=World.ownsRow.lt HT.out.row B e.symm
    omega)
   obtain ⟨au,cu,rfl,hu1,hu2,-⟩:=hM.args
   have hRl:R.length<=2000:=by
    have h2:=joinS_len R.length (F:=fun i=>(R.getD i (.nilFunc,[])).2) (fun i hi=>by rw [getD_at hi];exact (HT.out.bv _ (List.getElem_mem hi)).pos)
    rw [flat_joinS R _ R.length (Nat.le_refl _),List.take_length] at h2
    have h3:((R.map (·.2)).flatten).length=(flatL R).length:=rfl
    omega
   clear hM hS2 hfl hrl hb1 HT c0 HSt hSB
   go_wp2_with fail
   go_loopw [3,19] (fun p i wq=>∃(j:Nat),j<=M.length/\i = .int .i64 j/\TdI w wq S (fun B=>S' B∨S2 B) p (R++M.take j)/\BkL wq (fun B=>S B∨S2 B) (.slice au M.length cu) M/\(∀q∈M.take j,isRet q.2=false)) (fun _ i _=>M.length-(RowKit.intOf i).toNat)
   case atStart=>exact ⟨0,Nat.zero_le _,rfl,by simpa using HT1.out,HM.out,by simp⟩
   case round=>
    clear HT1 HM
    obtain ⟨j,hj,rfl,hT2,hM2,hno2⟩:=hrel
    have HT2:=hide hT2
    have HM2:=hide hM2
    have HNo2:=hide hno2
    obtain ⟨va,vn,vc,rfl⟩ : ∃va vn vc,u3 = .slice va vn vc:=by
     rcases hT2.row.2 with ⟨rfl,_⟩ | ⟨g,cp,cur,rfl,_⟩
     ·exact ⟨_,_,_,rfl⟩
     ·exact ⟨_,_,_,rfl⟩
    clear hT2 hno2
    by_cases hjl:j<M.length
    ·obtain ⟨_,_,he,_,_,hcm⟩:=hM2.args
     simp only [Value.slice.injEq] at he
     obtain ⟨rfl,-,rfl⟩:=he
     obtain ⟨B2,rfl,hSB2,hcB2⟩:=hcm (by omega)
     have c1:wr.cell? ⟨B2,j,none⟩=some (M.getD j (.nilFunc,[])).1:=hcB2 j hjl
     rw [getD_at hjl] at c1
     have hmj:M[j]∈M:=List.getElem_mem hjl
     have hbj:=hM2.bv _ hmj
     obtain ⟨tj,yj,hvj⟩:=hbj.isI
     rw [hvj] at c1
     have HBj:Hid (Bv wr (fun B=>S B∨(S' B∨S2 B)) (.iface tj yj) M[j].2):=by
      rw [<-hvj]
      exact hbj.keep (fun B hB=>by rcases hB with hB | hB;exact .inl hB;exact .inr (.inr hB)) (fun _ _=>rfl)
     obtain ⟨xs,hxs⟩ : ∃xs,xs=(R++M.take j).map (·.1):=⟨_,rfl⟩
     have HXs:=hide hxs
     have HRow:Hid ((wr.alloc (.cells #[.iface tj yj] 153)).ownsRow w.heap.size 153 1 (.slice va vn vc) xs.length xs):=by rw [hxs];exact ownB HT2.out.row (bel_a _ _)
     have HSrc:=hide (Src.lit wr (.iface tj yj) 153)
     have hrl2:xs.length<=5000:=by rw [hxs];simp;omega
     have HRl2:=hide hrl2
     have hwz:=HT2.out.bel.size
     have HMj:Hid (M[j]=(.iface tj yj,M[j].2)):=by show _=_;rw [<-hvj]
     clear hcB2 hcm hM2 hmj hbj hvj hrl2 hSB2 hxs
     go_wp2_with (at_builtin;refine wpList_appV (P:=Tryz.prog) rfl _ _ 107 rfl w.heap.size 153 iS .nilIface Tryz.underlying107 HI.out.1 HI.out.2.1 HI.out.2.2.1 HI.out.2.2.2 rfl (.slice va vn vc) xs rfl HRow.out (.slice (some ⟨wr.heap.size,0,none⟩) 1 1) [.iface tj yj] rfl HSrc.out (fun u hu=>by simp only [List.mem_singleton] at hu;subst hu;rfl) (by have:=HRl2.out;simp only [List.length_singleton];omega) (by simp;omega) ?_)
     intro v3 w3 hr3 hg3 hf3
     have HT3:Hid (TdI w w3 S (fun B=>S' B∨S2 B) v3 (R++M.take (j+1))):=by
      have h:=HT2.out.next (o:=.cells #[.iface tj yj] 153) HS.out HBj.out hg3 (v':=v3) (by rw [HXs.out] at hr3;rw [l_a];exact hr3) (by simpa using hf3)
      rw [<-HMj.out,List.append_assoc,<-List.take_succ_eq_append_getElem hjl] at h
      exact h
     have HM3:=hide (HM2.out.keep (fun _ h=>h) (fun B hB=>HT2.out.keepB HS.out hg3 B (by rcases hB with hB | hB;exact .inl hB;exact .inr (.inr hB))))
     obtain ⟨va',vn',vc',rfl⟩ : ∃va vn vc,v3 = .slice va vn vc:=by
      rcases HT3.out.row.2 with ⟨rfl,_⟩ | ⟨g,cp,cur,rfl,_⟩
      ·exact ⟨_,_,_,rfl⟩
      ·exact ⟨_,_,_,rfl⟩
     clear hr3 hg3 hf3 HRow HSrc c1 HT2 HM2
     by_cases hr:isRet M[j].2=true
     ·obtain ⟨xr,hxr,tr,yr,rfl⟩:=HBj.out.ret_is hr
      simp only [Value.iface.injEq] at hxr
      obtain ⟨rfl,rfl⟩:=hxr
      have a1:=fun W v=>sa_return_yes W v
      have HEnd:Hid (RetLast (R++M)/\M.take (j+1)=M/\tidyB (flatL L)=flatL (R++M)):=by
       have hjm:j+1=M.length:=by
        by_cases h:j+1<M.length
        ·have:=HRl.out j h
         rw [getD_at hjl,hr] at this
         cases this
        ·omega
       have hen:endsB mo=true:=by
        rw [<-HFl.out,ends_flat M HM3.out.ones,List.any_eq_true]
        exact ⟨M[j],List.getElem_mem hjl,hr⟩
       refine ⟨RetLast.join HNo.out HRl.out,by rw [hjm,List.take_length],?_⟩
       rw [HTi.out,HHm.out,if_pos hen,flatL_append,HFl.out]
      clear hr
      go_wp2_with fail
      go_ret
      have hT3:=HT3.out
      rw [HEnd.out.2.1] at hT3
      refine ⟨_,rfl,?_,hT3.bel.alloc hT3.bel.size _⟩
      rw [HEnd.out.2.2]
      exact (hT3.tid HEnd.out.1).bel (fun B hB=>Nat.lt_of_lt_of_le (HS.out B hB) hT3.bel.size) (bel_a _ _)
     ·have hrf:isRet M[j].2=false:=by simpa using hr
      obtain ⟨tt,yy,hxr,htn⟩:=HBj.out.ret_no hrf
      simp only [Value.iface.injEq] at hxr
      obtain ⟨rfl,rfl⟩:=hxr
      have a1:=fun W=>sa_return_no W tj yj htn
      have HRf:=hide hrf
      have hal:Bl w3 (w3.alloc (.cells #[.nilIface] 172)):=bel_a _ _
      have HT4:=hide (HT3.out.bel' HS.out hal)
      have HM4:Hid (BkL (w3.alloc (.cells #[.nilIface] 172)) (fun B=>S B∨S2 B) (.slice (some ⟨B2,0,none⟩) M.length cu) M):=HM3.out.bel (fun B hB=>by
       rcases hB with hB | hB
       ·exact Nat.lt_of_lt_of_le (HS.out B hB) HT3.out.bel.size
       ·exact (HT3.out.rng B (.inr hB)).2.1) hal
      clear hr hrf htn hal
      go_wp2_with fail
      go_roundw
      case rel=>exact ⟨j+1,by omega,by go_num,HT4.out,HM4.out,mem_take hjl HNo2.out HRf.out⟩
      case measure=>simp [RowKit.intOf];omega
    ·have hjm:j=M.length:=by omega
     have HEnd:Hid ((∀q∈R++M,isRet q.2=false)/\TdI w wr S (fun B=>S' B∨S2 B) (.slice va vn vc) (R++M)/\tidyB (flatL L)=flatL (R++M)++tidyB (flatL (L.drop (k+1)))/\(flatL (R++M)).length+(flatL (L.drop (k+1))).length<=N+1):=by
      have h1:=HNo2.out
      have h2:=HT2.out
      rw [hjm,List.take_length] at h1 h2
      have hen:endsB mo=false:=by
       rw [<-HFl.out,ends_flat M hM2.ones]
       exact any_no h1
      refine ⟨fun q hq => ?_,h2,?_,?_⟩
      ·rcases List.mem_append.1 hq with hq | hq
       ·exact HNo.out q hq
       ·exact h1 q hq
      ·rw [HTi.out,HHm.out,hen,flatL_append,HFl.out,List.append_assoc]
       rfl
      ·rw [flatL_append,HFl.out,l_a]
       omega
     clear HT2 HM2 HNo2 hM2
     go_wp2_with fail
     go_roundw
     case rel=>exact ⟨k+1,R++M,_,by omega,by go_num,HEnd.out.2.1,HEnd.out.1,HEnd.out.2.2.1,HEnd.out.2.2.2⟩
     case measure=>simp [RowKit.intOf];omega
  ·obtain rfl:k=L.length:=by omega
   have HE:Hid (tidyB (flatL L)=flatL R):=by
    show _=_
    have:=HTi.out
    rw [List.drop_length] at this
    simpa [flatL_nil,tidyB_nil] using this
   go_wp2_with fail
   go_ret
   refine ⟨_,rfl,?_,HT.out.bel⟩
   rw [HE.out]
   have:=HT.out.tid (by simpa using RetLast.join HNo.out RetLast.nil)
   exact this
theorem tidied_zero:TidyC 0:=by
 intro ss v S w hl hB hS
 obtain ⟨L,hL,rfl⟩:=hB.toL
 have hz:L = []:=by
  have h2:=hL.parts
  have:=joinS_len L.length (fun i hi=>(h2.2.1 i hi).pos)
  rw [h2.2.2] at this
  exact List.eq_nil_of_length_eq_zero (by omega)
 subst hz
 obtain ⟨a,cap,rfl,-⟩:=hL.args
 go_enter Tryz.func71,Tryz.ntmps71
 go_wp2_with fail
 refine wp_loop_rounds 1 ?_
 rw [rounds_succ]
 go_wp2_with fail
 go_ret
 exact ⟨_,rfl,tid_nil _ _ _,Below.refl _ _⟩
theorem tidied_any : ∀N,N<=1000->TidyC N
 | 0,_=>tidied_zero
 | N+1,h=>tidied_step N (by omega) (tidied_any N (by omega))
theorem Lst.shape {w w':World} {u:Value} {ss:List St} (h:Lst w w' u ss) : ∃a c,u = .slice a ss.length c:=by
 obtain ⟨R,h1,rfl⟩:=h
 obtain ⟨a,c,rfl⟩:=h1.shape
 exact ⟨a,c,by rw [List.length_map]⟩
theorem Lst.up {w W w':World} {u:Value} {ss:List St} (h:Lst W w' u ss) (hb:w.heap.size<=W.heap.size):Lst w w' u ss:=by
 obtain ⟨R,h1,h2⟩:=h
 exact ⟨R,h1.base hb,h2⟩
theorem Lst.bel {w W w':World} {u:Value} {ss:List St} (h:Lst w W u ss) (hb:Below W.heap.size W w'):Lst w w' u ss:=by
 obtain ⟨R,h1,h2⟩:=h
 exact ⟨R,h1.below hb,h2⟩
theorem listed_while (N:Nat) (hN:N<=1000) (IH:ListC N) (e:List Nd) (x va:Value) (ss:List St) (S:Nat->Prop) (w:World) (hx:Tv w S x e) (ha:Bk w S va ss) (hla:ss.length<=N) (hl:e.length<=2000) (hS : ∀B,S B->B<w.heap.size) (hok : ∀s∈ss,PlS s) :
  Calls Tryz.prog 113 #[.iface 205 (.agg #[x,va])] w fun r w'=>∃u,r = .returned u/\Lst w w' u (⟨5,⟨#[]⟩,e,[],ss.length,0⟩::ss)/\Below w.heap.size w w':=by
 have HX:=hide hx
 have HA:=hide ha
 obtain ⟨tx,yx,rfl⟩:=hx.isI
 obtain ⟨A,vs,F,⟨aa,ca,rfl,-⟩,-⟩:=ha
 obtain ⟨W0,hW0⟩ : ∃W0,W0=w.alloc (.cells #[.iface tx yx,.slice aa A ca] 205):=⟨_,rfl⟩
 have hb0:Bl w W0:=by rw [hW0];exact (Below.refl _ _).alloc (Nat.le_refl _) _
 have hs0:W0.heap.size=w.heap.size+1:=by rw [hW0];simp
 have HY:Hid (∀W,Bl W0 W->W.cell? ⟨w.heap.size,0,none⟩=some (.iface tx yx)):=fun W hW=>(hW.cell (p:=⟨w.heap.size,0,none⟩) (by simp;omega)).trans (by rw [hW0];simp)
 have HLi:Hid (Calls Tryz.prog 74 #[.slice aa A ca] W0 fun r w'=>∃a1 c1,r = .returned (.slice a1 ss.length c1)/\Lst W0 w' (.slice a1 ss.length c1) ss/\Bl W0 w'):=by
  refine (IH ss _ S W0 hla (HA.out.bel hS hb0) (fun B hB=>Nat.lt_of_lt_of_le (hS B hB) hb0.size) hok).mono ?_
  rintro r w' ⟨u,rfl,hu,hb⟩
  obtain ⟨a1,c1,rfl⟩:=hu.shape
  exact ⟨a1,c1,rfl,hu,hb⟩
 have HL:Hid (∀W,Bl W0 W->Calls Tryz.prog 146 #[.iface tx yx] W fun r w'=>∃a n c,r = .returned (.slice a n c)/\(∃g,NOne w.heap.size w' (.slice a n c) e [g]/\W.heap.size<=g)/\Bl W w'):=fun W hW=>by
  have hbW:=hb0.trans (hW.mono hb0.size)
  refine (lowered_any _ e S W (fun B hB=>Nat.lt_of_lt_of_le (hS B hB) hbW.size) (HX.out.keep (fun _ h=>h) (fun B hB=>hbW.block B (hS B hB))) hl).mono ?_
  rintro r w' ⟨v,rfl,hv,hb⟩
  obtain ⟨g,hg,hg2,-⟩:=hv.one
  obtain ⟨g',cap,rfl,-⟩:=hv
  exact ⟨_,_,_,rfl,⟨g,hg.base hbW.size,hg2⟩,hb⟩
 have HW0:=hide hW0
 have a_decl:=fun W v=>sa_decl_no W 205 v (by decide)
 have a_set:=fun W v=>sa_set_no W 205 v (by decide)
 have a_store:=fun W v=>sa_store_no W 205 v (by decide)
 have a_if:=fun W v=>sa_if_no W 205 v (by decide)
 have a_while:=fun W v=>sa_while_yes W v
 obtain ⟨ln,hln⟩ : ∃ln:Nat,ln=ss.length:=⟨_,rfl⟩
 have HLn:=hide hln
 have hlnb:ln<=1000:=by omega
 rw [<-hln] at HLi ⊢
 clear hx hS hW0 hln hla hok IH
 go_enter Tryz.func113,Tryz.ntmps113
 go_wp2_with fail
 rw [<-HW0.out]
 refine HLi.out.mono ?_
 rintro r w1 ⟨a1,c1,rfl,hR,hb1⟩
 have y0:=HY.out w1 hb1
 clear HLi
 go_wp2_with fail
 refine (HL.out _ hb1).mono ?_
 rintro r w2 ⟨a2,n2,c2,rfl,hno,hb2⟩
 have hb02:Bl W0 w2:=hb1.trans (hb2.mono hb1.size)
 have hbw2:Bl w w2:=hb0.trans (hb02.mono hb0.size)
 obtain ⟨W4,hW4⟩ : ∃W4,W4=(w2.alloc (.cells #[.int .i64 5,.string ⟨#[]⟩,.slice a2 n2 c2,.slice none 0 0,.int .i64 (ln:Int),.int .i64 0] 117)).alloc (.cells #[.int .i64 5,.string ⟨#[]⟩,.slice a2 n2 c2,.slice none 0 0,.int .i64 (ln:Int),.int .i64 0] 117):=⟨_,rfl⟩
 obtain ⟨v',w',hr,hrow,hgr,hfr⟩ : ∃v' w',(Builtin.append_ #[83,83] 83 #[.slice (some ⟨w2.heap.size+1,0,none⟩) 1 1,.slice a1 ln c1]).run Tryz.prog W4 = .ok v' w'/\Lst w w' v' (⟨5,⟨#[]⟩,e,[],(ln:Int),0⟩::ss)/\W4.grownBy w' (some (w2.heap.size+1))/\True:=by
  obtain ⟨g,hg,hgl⟩:=hno
  have hA3:Bl w2 (w2.alloc (.cells #[.int .i64 5,.string ⟨#[]⟩,.slice a2 n2 c2,.slice none 0 0,.int .i64 (ln:Int),.int .i64 0] 117)):=bel_a _ _
  have h1:=srow_one (w:=w) (w1:=w2.alloc (.cells #[.int .i64 5,.string ⟨#[]⟩,.slice a2 n2 c2,.slice none 0 0,.int .i64 (ln:Int),.int .i64 0] 117)) ⟨⟨5,⟨#[]⟩,e,[],(ln:Int),0⟩,.slice a2 n2 c2,.slice none 0 0,[g],[]⟩ (by have:=hbw2.size;simp;omega) (hg.keep hA3.size fun x hx=>hA3.block x (hg.rng x hx).2) (NOne.nil _ _) (by simp)
  have e1:(w2.alloc (.cells #[.int .i64 5,.string ⟨#[]⟩,.slice a2 n2 c2,.slice none 0 0,.int .i64 (ln:Int),.int .i64 0] 117)).heap.size=w2.heap.size+1:=by simp
  simp only [e1] at h1
  rw [<-hW4] at h1
  have hb24:Bl w2 W4:=by rw [hW4];exact (bel_a _ _).alloc (by simp) _
  obtain ⟨R,hR1,hR2⟩:=hR
  have hR4:StRow w.heap.size W4 (.slice a1 ln c1) R:=((hR1.below hb2).below hb24).base hb0.size
  have hRl : ∀y∈blkS R,y<w1.heap.size:=fun y hy=>(hR1.rng y hy).2
  have hRn:R.length<=1000:=by
   have:=congrArg List.length hR2
   rw [List.length_map] at this
   have:=HLn.out
   omega
  obtain ⟨v',w',r1,r2,r3,r4⟩:=srow_app 83 h1 hR4 (Nat.le_trans hbw2.size hb24.size) (fun x hx y hy=>by
   have hx':x=g:=by simpa [blkS] using hx
   have:=hRl y hy
   omega) (fun z hz hm=>by
   simp only [Value.ownBlock,Option.some.injEq] at hz
   have:=hRl z hm
   have:=hb2.size
   omega) (by simp;omega)
  exact ⟨v',w',r1,⟨_,r2,by simp [hR2]⟩,r3,trivial⟩
 have hbw4:Bl w W4:=by rw [hW4];exact (hbw2.alloc hbw2.size _).alloc (by have:=hbw2.size;simp;omega) _
 have hbw':Bl w w':=hbw4.grown hgr hbw4.size (fun g hg=>by simp only [Option.some.injEq] at hg;have:=hbw2.size;omega)
 have HRow:=hide hrow
 obtain ⟨av,nv,cv,rfl⟩ : ∃a n c,v' = .slice a n c:=by obtain ⟨a,c,h⟩:=hrow.shape;exact ⟨_,_,_,h⟩
 rw [hW4] at hr
 clear hno hR hrow hgr hfr hW4 hb2 hb02 y0
 go_wp2_with (at_builtin;refine wpList_appG rfl _ _ _ rfl _ _ (.slice av nv cv) w' rfl rfl hr ?_)
 go_wp2_with fail
 go_ret
 exact ⟨_,rfl,HRow.out,hbw'⟩
theorem scut_h (a:Option Addr) (n cap:Nat) (h3:n<=cap) : ∀w:World,(Instr.slice 83 (.slice a n cap) none (some (.int .i64 0)) none).run Tryz.prog w = .ok (.slice a 0 cap) w:=by
 intro w
 have hz:Tryz.prog.elem 83=117:=by kernel_rfl
 have hs:(sizeOf 117).run Tryz.prog w = .ok 6 w:=by kernel_rfl
 have h:=run_slice_h w 83 a n cap (by rw [hz];exact Tryz.underlying83) .i64 0 (by omega) (by omega)
 rw [hz,hs] at h
 simp only [Result.andThen,sliced,Int.toNat_zero,Nat.sub_zero,Nat.zero_mul] at h
 rw [h]
 congr 2
 split
 ·rfl
 ·cases a with
  | none=>rfl
  | some ad=>simp [Addr.add]
theorem grow_any (n:Nat) (h0:0<n) (hn:n<=100000) (w:World) :
  Calls Tryz.prog 173 #[.slice none 0 0,.int .i64 (n:Int)] w fun e w'=>∃cap,e = .returned (.slice (some ⟨w.heap.size,0,none⟩) 0 cap)/\StRow w.heap.size w' (.slice (some ⟨w.heap.size,0,none⟩) 0 cap) []/\Below w.heap.size w w':=by
 obtain ⟨i0,hi,hz0,hz1,hz2⟩:=info_parts info_stmt
 have hr:=fun ty=>Lib.run_append_nil_zeros (P:=Tryz.prog) w 83 3 ty 117 i0 _ .i64 .i64 Tryz.underlying83 Tryz.underlying3 hi hz0 n h0 (by rw [hz1];decide) (by omega) (by rw [hz2];omega)
 have hge:=grownCap_ge w n 0 117
 have hle:=grownCap_le_maxLen w n 0 117 (by unfold maxLen;omega)
 generalize grownCap w n 0 117=cp at hr hge hle
 have hc0:=scut_h none 0 0 (Nat.le_refl _)
 have hc1:=scut_h (some ⟨w.heap.size,0,none⟩) n cp hge
 have hb:Bl w (w.drew.alloc (.cells (Builtin.zeroCells (Value.agg #[.int .i64 0,.string ⟨#[]⟩,.slice none 0 0,.slice none 0 0,.int .i64 0,.int .i64 0]).cells n++Builtin.zeroCells (Value.agg #[.int .i64 0,.string ⟨#[]⟩,.slice none 0 0,.slice none 0 0,.int .i64 0,.int .i64 0]).cells (cp-n)) 117)):=(Below.refl _ _).drew.alloc (by simp) _
 have HRow:Hid (StRow w.heap.size (w.drew.alloc (.cells (Builtin.zeroCells (Value.agg #[.int .i64 0,.string ⟨#[]⟩,.slice none 0 0,.slice none 0 0,.int .i64 0,.int .i64 0]).cells n++Builtin.zeroCells (Value.agg #[.int .i64 0,.string ⟨#[]⟩,.slice none 0 0,.slice none 0 0,.int .i64 0,.int .i64 0]).cells (cp-n)) 117)) (.slice (some ⟨w.heap.size,0,none⟩) 0 cp) []):=by
  refine ⟨?_,fun q hq=>(by cases hq),List.nodup_nil,fun g hg hm=>(by cases hm)⟩
  exact World.ownsRow_made w.drew _ cp (Nat.le_refl _) hle (by
   have e : ∀k,(Builtin.zeroCells (Value.agg #[.int .i64 0,.string ⟨#[]⟩,.slice none 0 0,.slice none 0 0,.int .i64 0,.int .i64 0]).cells k).size=k*6:=fun k=>by
    simp [Builtin.zeroCells,Value.cells]
   rw [Array.size_append,e,e]
   omega)
 obtain ⟨W1,hW1⟩ : ∃W1,W1=w.drew.alloc (.cells (Builtin.zeroCells (Value.agg #[.int .i64 0,.string ⟨#[]⟩,.slice none 0 0,.slice none 0 0,.int .i64 0,.int .i64 0]).cells n++Builtin.zeroCells (Value.agg #[.int .i64 0,.string ⟨#[]⟩,.slice none 0 0,.slice none 0 0,.int .i64 0,.int .i64 0]).cells (cp-n)) 117):=⟨_,rfl⟩
 rw [<-hW1] at hb HRow hr
 clear hi hz0 hz1 hz2 hW1 hge hle
 go_enter Tryz.func173,Tryz.ntmps173
 go_wp2_with (at_builtin;refine Lib.wpList_append_run _ rfl _ _ _ _ rfl _ _ rfl rfl _ _ (hr _) ?_)
 go_wp2_with fail
 go_ret
 exact ⟨cp,rfl,HRow.out,hb⟩
theorem StRow.grown {B M:Nat} {w w':World} {v:Value} {R:List SV} {row:Option Nat} (h:StRow B w v R) (hg:w.grownBy w' row) (hr : ∀g,row=some g->M<=g) (hv : ∀g,v.ownBlock=some g->g<M) (hR : ∀g∈blkS R,g<M):StRow B w' v R:=by
 have hk : ∀g∈blkS R,w'.heap[g]? = w.heap[g]? := fun g hg'=>hg.block g (h.rng g hg').2 (fun e=>by have:=hr g e.symm;have:=hR g hg';omega)
 refine ⟨ownG h.row hg (fun g hg' e=>by have:=hr g e;have:=hv g hg';omega),fun q hq=>⟨(h.each q hq).1.keep hg.size fun g hg'=>hk g ((mem_blk hq).1 g hg'),(h.each q hq).2.keep hg.size fun g hg'=>hk g ((mem_blk hq).2 g hg')⟩,h.nd,h.out⟩
theorem concat_any (G B:Nat) (u1 u2 u3:Value) (R1 R2 R3:List SV) (w:World) (d0:w.cell? ⟨G,0,none⟩=some u1) (d1:w.cell? ⟨G,1,none⟩=some u2) (d2:w.cell? ⟨G,2,none⟩=some u3) (h1:StRow B w u1 R1) (h2:StRow B w u2 R2) (h3:StRow B w u3 R3) (hp:0<R1.length) (hn:R1.length+R2.length+R3.length<=90000) (hd:(blkS R1++blkS R2++blkS R3).Nodup) (hB:B<=w.heap.size) :
  Calls Tryz.prog 149 #[.slice (some ⟨G,0,none⟩) 3 3] w fun e w'=>∃v,e = .returned v/\StRow B w' v (R1++R2++R3)/\Below w.heap.size w w':=by
 have H1:=hide h1
 have H2:=hide h2
 have H3:=hide h3
 have HD:=hide hd
 obtain ⟨a1,c1,rfl⟩:=h1.shape
 obtain ⟨a2,c2,rfl⟩:=h2.shape
 obtain ⟨a3,c3,rfl⟩:=h3.shape
 have hG:G<w.heap.size:=World.block_lt_of_cell? _ _ d0
 obtain ⟨n1,hn1⟩ : ∃n1:Nat,n1=R1.length:=⟨_,rfl⟩
 obtain ⟨n2,hn2⟩ : ∃n2:Nat,n2=R2.length:=⟨_,rfl⟩
 obtain ⟨n3,hn3⟩ : ∃n3:Nat,n3=R3.length:=⟨_,rfl⟩
 have HN:Hid (n1=R1.length/\n2=R2.length/\n3=R3.length):=⟨hn1,hn2,hn3⟩
 rw [<-hn1] at d0 H1 hp
 rw [<-hn2] at d1 H2
 rw [<-hn3] at d2 H3
 rw [<-hn1,<-hn2,<-hn3] at hn
 have b1:(n1:Int)+n2+n3<=90000:=by omega
 have b0:(0:Int)<n1:=by omega
 have HGr:Hid (Calls Tryz.prog 173 #[.slice none 0 0,.int .i64 ((n1:Int)+n2+n3)] w fun e w'=>∃cap,e = .returned (.slice (some ⟨w.heap.size,0,none⟩) 0 cap)/\StRow w.heap.size w' (.slice (some ⟨w.heap.size,0,none⟩) 0 cap) []/\Bl w w'):=by
  show Calls _ _ _ _ _
  have:=grow_any (n1+n2+n3) (by omega) (by omega) w
  simpa using this
 clear h1 h2 h3 hd hn1 hn2 hn3 hn hp
 go_enter Tryz.func149,Tryz.ntmps149
 go_wp2_with fail
 refine wp_loop_rounds 4 ?_
 rw [rounds_succ]
 go_wp2_with fail
 rw [rounds_succ]
 go_wp2_with fail
 rw [rounds_succ]
 go_wp2_with fail
 rw [rounds_succ]
 go_wp2_with fail
 refine HGr.out.mono ?_
 rintro x w1 ⟨cap,rfl,hr0,hb1⟩
 have k1 : ∀g,(Value.slice a1 n1 c1).ownBlock=some g∨g∈blkS R1->g<w.heap.size:=fun g hg=>by
  rcases hg with hg | hg
  ·exact (World.ownsRow.lt H1.out.row g hg).2
  ·exact (H1.out.rng g hg).2
 have k2 : ∀g,(Value.slice a2 n2 c2).ownBlock=some g∨g∈blkS R2->g<w.heap.size:=fun g hg=>by
  rcases hg with hg | hg
  ·exact (World.ownsRow.lt H2.out.row g hg).2
  ·exact (H2.out.rng g hg).2
 have k3 : ∀g,(Value.slice a3 n3 c3).ownBlock=some g∨g∈blkS R3->g<w.heap.size:=fun g hg=>by
  rcases hg with hg | hg
  ·exact (World.ownsRow.lt H3.out.row g hg).2
  ·exact (H3.out.rng g hg).2
 obtain ⟨m1,m2,m3⟩:=HN.out
 obtain ⟨v1,w2,r1,s1,g1,f1⟩:=srow_app 83 (hr0.base hB) (H1.out.below hb1) (Nat.le_trans hB hb1.size) (fun x hx=>by simp [blkS] at hx) (fun g hg hm=>by
  simp only [Value.ownBlock,Option.some.injEq] at hg
  have:=k1 g (.inr hm)
  omega) (by simp;omega)
 have o0 : ∀g,(Value.slice (some ⟨w.heap.size,0,none⟩) 0 cap).ownBlock=some g->w.heap.size<=g:=fun g hg=>by simp only [Value.ownBlock,Option.some.injEq] at hg;omega
 have o1 : ∀g,v1.ownBlock=some g->w.heap.size<=g:=fun g hg=>by
  rcases f1 g hg with h | h
  ·exact o0 g h
  ·exact Nat.le_trans hb1.size h
 have hb2:Bl w w2:=hb1.grown g1 hb1.size o0
 have p2:StRow B w2 (.slice a2 n2 c2) R2:=(H2.out.below hb1).grown g1 o0 (fun g hg=>k2 g (.inl hg)) (fun g hg=>k2 g (.inr hg))
 have p3:StRow B w2 (.slice a3 n3 c3) R3:=(H3.out.below hb1).grown g1 o0 (fun g hg=>k3 g (.inl hg)) (fun g hg=>k3 g (.inr hg))
 have nd:=HD.out
 rw [List.nodup_append] at nd
 obtain ⟨nd12,nd3,nd4⟩:=nd
 rw [List.nodup_append] at nd12
 obtain ⟨v2,w3,r2,s2,g2,f2⟩:=srow_app 83 s1 p2 (Nat.le_trans hB hb2.size) (fun x hx y hy=>nd12.2.2 x (by simpa using hx) y hy) (fun g hg hm=>by
  have:=o1 g hg
  have:=k2 g (.inr hm)
  omega) (by simp;omega)
 have o2 : ∀g,v2.ownBlock=some g->w.heap.size<=g:=fun g hg=>by
  rcases f2 g hg with h | h
  ·exact o1 g h
  ·exact Nat.le_trans hb2.size h
 have hb3:Bl w w3:=hb2.grown g2 hb2.size o1
 have p3':StRow B w3 (.slice a3 n3 c3) R3:=p3.grown g2 o1 (fun g hg=>k3 g (.inl hg)) (fun g hg=>k3 g (.inr hg))
 obtain ⟨v3,w4,r3,s3,g3,f3⟩:=srow_app 83 s2 p3' (Nat.le_trans hB hb3.size) (fun x hx y hy=>nd4 x (by simpa [blkS_append] using hx) y hy) (fun g hg hm=>by
  have:=o2 g hg
  have:=k3 g (.inr hm)
  omega) (by simp;omega)
 have hb4:Bl w w4:=hb3.grown g3 hb3.size o2
 have HRes:Hid (StRow B w4 v3 (R1++R2++R3)):=by show StRow _ _ _ _;simpa using s3
 have e0:=(hb1.cell (p:=⟨G,0,none⟩) hG).trans d0
 have e1:=(hb2.cell (p:=⟨G,1,none⟩) hG).trans d1
 have e2:=(hb3.cell (p:=⟨G,2,none⟩) hG).trans d2
 obtain ⟨va1,vn1,vc1,rfl⟩ : ∃a n c,v1 = .slice a n c:=by obtain ⟨a,c,h⟩:=s1.shape;exact ⟨_,_,_,h⟩
 obtain ⟨va2,vn2,vc2,rfl⟩ : ∃a n c,v2 = .slice a n c:=by obtain ⟨a,c,h⟩:=s2.shape;exact ⟨_,_,_,h⟩
 obtain ⟨va3,vn3,vc3,rfl⟩ : ∃a n c,v3 = .slice a n c:=by obtain ⟨a,c,h⟩:=s3.shape;exact ⟨_,_,_,h⟩
 clear s1 s2 s3 g1 g2 g3 f1 f2 f3 o0 o1 o2 p2 p3 p3' hb1 hb2 hb3 nd12 nd3 nd4 k1 k2 k3 hr0 m1 m2 m3 d0 d1 d2 HGr
 go_wp2_with fail
 refine wp_loop_rounds 4 ?_
 rw [rounds_succ]
 go_wp2_with (at_builtin;refine wpList_appG rfl _ _ _ rfl _ _ (.slice va1 vn1 vc1) w2 rfl rfl r1 ?_)
 go_wp2_with fail
 rw [rounds_succ]
 go_wp2_with (at_builtin;refine wpList_appG rfl _ _ _ rfl _ _ (.slice va2 vn2 vc2) w3 rfl rfl r2 ?_)
 go_wp2_with fail
 rw [rounds_succ]
 go_wp2_with (at_builtin;refine wpList_appG rfl _ _ _ rfl _ _ (.slice va3 vn3 vc3) w4 rfl rfl r3 ?_)
 go_wp2_with fail
 rw [rounds_succ]
 go_wp2_with fail
 go_ret
 exact ⟨_,rfl,HRes.out,hb4⟩
end Go.Proofs.YtmddmgpijpjpbaaGreatDoor
