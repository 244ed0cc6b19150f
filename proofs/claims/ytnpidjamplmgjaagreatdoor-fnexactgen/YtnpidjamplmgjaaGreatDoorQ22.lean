import Derived.Test.YtnpidjamplmgjaaGreatDoorQ21
set_option linter.unusedSectionVars false
variable [Inhabited Go.Proofs.YtnpidjamplmgjaaGreatDoor.Pick]
namespace Go.Proofs.YtnpidjamplmgjaaGreatDoor
open Go.RowKit
set_option linter.unusedVariables false
set_option linter.unusedSimpArgs false
set_option maxRecDepth 100000
set_option maxHeartbeats 16000000
@[reducible] def IC.ext (C:IC) (w:World) (S':Nat->Prop):IC := {C with w0:=w,S:=fun B=>C.S B∨S' B}
theorem parL_len5 : ∀j,(parL j).length=j
 | 0=>rfl
 | j+1=>by simp [parL,parL_len5 j]
theorem Wq.bel5 {P:Nat} {w0 w w':World} (h:Wq 5 P w w') (hB:Below w0.heap.size w0 w) (hP:w0.heap.size<=P) (hr : ∀k,rbq 5 w P=some k->P<k):Below w0.heap.size w0 w':=by
 refine hB.trans ⟨h.still.1,h.still.2.1,h.still.2.2,h.size,fun k hk => ?_⟩
 refine h.block k (by have:=hB.size;omega) o_ (fun e => ?_)
 have:=hr k e.symm
 omega
theorem funI_any (hBO:BlockOfC) (t:Tr) (w0:World) (P bm ba:Nat) (hP:w0.heap.size<=P) (hTab:Tab w0) (hTg:TabG w0) (hGb:0<w0.heap.size/\3<w0.heap.size) (hma : ∃nn D,w0.ownsMap Tryz.prog 9 (plainElem (H:=Unit) Tryz.prog 2) ba nn D/\AddrIs D t.globals) (hgl:t.globals.length<=50) (hgz : ∀g∈t.globals,0<=g.size/\g.size<=4000)
  (i:Nat) (hi:i<50) (f:Fu) (vp vb:Value) (hvp:Strs w0 vp f.params) (hvb:Stmts w0 vb f.body) (hfo:FrOk f) (hst : ∀s∈f.body,stmtB s=true/\s.e.length<=2000/\s.f.length<=2000) (hkn : ∀s∈f.body,KnS t (f.params++declN f.body) s) (hfit:fitB f.body=true) (hfz:4<=frameSz f/\frameSz f<=1000000) (hpl:f.params.length<=6) (hbl:f.body.length<=500)
  (w:World) (its:List It) (l:Int) (vo:Value) (pl sz en:Int) (hO:Em 70 5 8 P w its (cI vo pl sz (.map (some bm)) (.map (some ba)) l en)) (hB:Below w0.heap.size w0 w) (hmm:MmS P bm t w) (hl0:0<=l) (hl2:l+2*(szLs f.body+1)<=90000000) (hil:its.length+24*(szLs f.body+1)<=7000000) :
  Calls Tryz.prog 27 #[.pointer (some ⟨P,0,none⟩),.int .i64 (i:Int),.agg #[.string f.name,vp,vb]] w fun x w'=>(∃u,x = .returned u)/\(∃vo' pl' sz' en',Em 70 5 8 P w' (its++(codeF t i f l).1) (cI vo' pl' sz' (.map (some bm)) (.map (some ba)) (codeF t i f l).2 en'))/\Below w0.heap.size w0 w'/\MmS P bm t w':=by
 have HO:=hide hO
 have HB:=hide hB
 have HTab:=hide hTab
 have HVp:=hide hvp
 have HVb:=hide hvb
 obtain ⟨ap,cp,rfl,hp1,hp2,hpc⟩:=hvp
 obtain ⟨ab,cb,rfl,-⟩:=hvb
 have HPC:=hide hpc
 have HFo:=hide hfo
 have hlt:=hO.lt
 have HRl:Hid (∀k,rbq 5 w P=some k->P<k/\k<w.heap.size):=fun k hk=>hO.rlt5 hk
 obtain ⟨W2,hW2⟩ : ∃W2,W2=w.alloc (.cells #[.string f.name,.slice ap f.params.length cp,.slice ab f.body.length cb] 64):=⟨_,rfl⟩
 have hb2:Bl w W2:=by rw [hW2];exact (Below.refl _ _).alloc (Nat.le_refl _) _
 have hs2:W2.heap.size=w.heap.size+1:=by rw [hW2];simp
 have e0:W2.cell? ⟨w.heap.size,0,none⟩=some (.string f.name):=by rw [hW2];simp
 have e1:W2.cell? ⟨w.heap.size,1,none⟩=some (.slice ap f.params.length cp):=by rw [hW2];simp
 have e2:W2.cell? ⟨w.heap.size,2,none⟩=some (.slice ab f.body.length cb):=by rw [hW2];simp
 have hB2:Bl w0 W2:=hB.trans (hb2.mono hB.size)
 have HFr:Hid (Calls Tryz.prog 49 #[.agg #[.string f.name,.slice ap f.params.length cp,.slice ab f.body.length cb]] W2 fun e w'=>∃b,e = .returned (.agg #[.map (some b),.int .i64 (4*((f.params++declN f.body).length:Int)),.int .i64 (frameSz f)])/\Bl W2 w'/\W2.heap.size<=b/\∃nn D,w'.ownsMap Tryz.prog 9 (plainElem (H:=Unit) Tryz.prog 2) b nn D/\NamesIs D (f.params++declN f.body)):=frameOf_map f _ _ W2 (hTab.below hTab.size hB2) (HVp.out.below hB2) (HVb.out.below hB2) hfo.st hfo.nd hfo.pl o_ hfo.sz
 have hnl:(f.params++declN f.body).length<=1000:=by
  have:=declN_len f.body
  simp only [l_a]
  omega
 obtain ⟨NS,hNS⟩ : ∃NS,f.params++declN f.body=NS:=⟨_,rfl⟩
 obtain ⟨FZq,hFS⟩ : ∃FZq,FZq=frameSz f:=⟨_,rfl⟩
 have HCf:Hid (codeF t i f l=([markI 2 i,insI 12 2 2 0 (-FZq),insI 11 0 2 1 (FZq-4)]++parL f.params.length++(codeB (envF t f) l f.body (l+1)).1++[insI 12 10 0 0 0,markI 2 l,insI 10 1 2 0 (FZq-4),insI 12 2 2 0 FZq,insI 3 0 1 0 0],(codeB (envF t f) l f.body (l+1)).2)):=by rw [hFS];rfl
 have HEnv:Hid (envF t f=⟨NS.length,locN NS,fun s=>globA t.globals s 1048576,fnumG t.funcs⟩):=by rw [<-hNS];rfl
 have HNd:Hid (NS.Nodup):=by rw [<-hNS];exact hfo.nd
 have HNp:Hid (∀j (hj:j<f.params.length),NS.findIdx? (fun x=>decide (x=f.params[j]))=some j/\f.params[j].size<=maxLen):=fun j hj=>by
  have hj':j<(f.params++declN f.body).length:=by simp;omega
  have e:(f.params++declN f.body)[j]=f.params[j]:=List.getElem_append_left hj
  have h1:=find_nodup hfo.nd hj'
  rw [e] at h1
  rw [<-hNS]
  exact ⟨h1,hfo.sz _ (by simp)⟩
 have HStk:Hid (∀s∈f.body,stmtB s=true/\s.e.length<=2000/\s.f.length<=2000/\KnS t NS s):=fun s hs=>by rw [<-hNS];exact ⟨(hst s hs).1,(hst s hs).2.1,(hst s hs).2.2,hkn s hs⟩
 rw [hNS,<-hFS] at HFr
 rw [hNS] at hnl
 rw [<-hFS] at hfz
 have HW2:=hide hW2
 have HMm:=hide hmm
 have HMa:=hide hma
 have HGz:=hide hgz
 have HTg:=hide hTg
 have HFit:=hide hfit
 have HBO:=hide hBO
 obtain ⟨R,hR⟩ : ∃R,R=codeF t i f l:=⟨_,rfl⟩
 rw [<-hR]
 have HR:=hide hR
 clear hW2 hO hB hTab hpc hfo hst hkn hfit hmm hma hgz hTg hBO hNS hFS hB2 hR
 go_enter Tryz.func27,Tryz.ntmps27
 go_wp2_with fail
 rw [<-HW2.out]
 refine HFr.out.mono ?_
 rintro x w3 ⟨b,rfl,hb3,hbl1,hmo⟩
 have hbw3:Bl w w3:=hb2.trans (hb3.mono o_)
 have HO3:Hid (Em 70 5 8 P w3 its (cI vo pl sz (.map (some bm)) (.map (some ba)) l en)):=HO.out.below hbw3
 have HMo:=hide hmo
 have hbr:b<w3.heap.size:=by obtain ⟨nn,D,h,_⟩:=hmo;exact h.lt
 have hs3:w.heap.size+1<=w3.heap.size:=by have:=hb3.size;omega
 have HR3:Hid (∀k,rbq 5 w3 P=some k->P<k/\k<w.heap.size):=fun k hk=>by
  rw [rbq_bel hbw3 hlt] at hk
  exact HRl.out k hk
 have p0:w3.cell? ⟨P,0,none⟩=some vo:=HO3.out.oth 0 (by decide) (by decide)
 have p1:w3.cell? ⟨P,1,none⟩=some (.int .i64 pl):=HO3.out.oth 1 (by decide) (by decide)
 have p2:w3.cell? ⟨P,2,none⟩=some (.int .i64 sz):=HO3.out.oth 2 (by decide) (by decide)
 have f0:=HO3.out.fz 0
 have f1:=HO3.out.fz 1
 have f2:=HO3.out.fz 2
 have E1:=em_set HO3.out 0 (by decide) (by decide) (.map (some b))
 have E2:=em_set E1.1 1 (by decide) (by decide) (.int .i64 (4*(NS.length:Int)))
 have E3:=em_set E2.1 2 (by decide) (by decide) (.int .i64 FZq)
 obtain ⟨W4,hW4⟩ : ∃W4,W4=((w3.setCell ⟨P,0,none⟩ (.map (some b))).setCell ⟨P,1,none⟩ (.int .i64 (4*(NS.length:Int)))).setCell ⟨P,2,none⟩ (.int .i64 FZq):=⟨_,rfl⟩
 have HE4:Hid (Em 70 5 8 P W4 its (cI (.map (some b)) (4*(NS.length:Int)) FZq (.map (some bm)) (.map (some ba)) l en)):=by
  show Em _ _ _ _ _ _ _
  rw [hW4]
  refine E3.1.congr fun o ho hq => ?_
  have:o=0∨o=1∨o=2∨o=3∨o=4∨o=6∨o=7:=by omega
  rcases this with rfl | rfl | rfl | rfl | rfl | rfl | rfl <;> rfl
 have HQ4:Hid (Wq 5 P w3 W4):=by show Wq _ _ _ _;rw [hW4];exact (E1.2.trans E2.2).trans E3.2
 have HW4:=hide hW4
 clear E1 E2 E3 hW4 hmo HFr
 go_wp2_with fail
 rw [<-HW4.out]
 clear p0 p1 p2 f0 f1 f2
 refine (labelE_any P its _ l W4 HE4.out rfl o_).mono ?_
 rintro x w5 ⟨rfl,hem5,hq5⟩
 have HE5:Hid (Em 70 5 8 P w5 its (cI (.map (some b)) (4*(NS.length:Int)) FZq (.map (some bm)) (.map (some ba)) (l+1) en)):=by
  refine hem5.congr fun o ho hq => ?_
  have:o=0∨o=1∨o=2∨o=3∨o=4∨o=6∨o=7:=by omega
  rcases this with rfl | rfl | rfl | rfl | rfl | rfl | rfl <;> rfl
 have p7:w5.cell? ⟨P,7,none⟩=some (.int .i64 en):=HE5.out.oth 7 (by decide) (by decide)
 have f7:=HE5.out.fz 7
 have E6:=em_set HE5.out 7 (by decide) (by decide) (.int .i64 l)
 obtain ⟨W6,hW6⟩ : ∃W6,W6=w5.setCell ⟨P,7,none⟩ (.int .i64 l):=⟨_,rfl⟩
 have HE6:Hid (Em 70 5 8 P W6 its (cI (.map (some b)) (4*(NS.length:Int)) FZq (.map (some bm)) (.map (some ba)) (l+1) l)):=by
  show Em _ _ _ _ _ _ _
  rw [hW6]
  refine E6.1.congr fun o ho hq => ?_
  have:o=0∨o=1∨o=2∨o=3∨o=4∨o=6∨o=7:=by omega
  rcases this with rfl | rfl | rfl | rfl | rfl | rfl | rfl <;> rfl
 have HQ6:Hid (Wq 5 P w3 W6):=by show Wq _ _ _ _;rw [hW6];exact (HQ4.out.trans hq5).trans E6.2
 have HW6:=hide hW6
 have hB3:Bl w0 w3:=HB.out.trans (hbw3.mono HB.out.size)
 have HB6:Hid (Bl w0 W6):=HQ6.out.bel5 hB3 hP (fun k hk=>(HR3.out k hk).1)
 have HMm6:Hid (MmS P bm t W6):=(HMm.out.wq (Wq.below hlt hbw3)).wq HQ6.out
 obtain ⟨hok,hgi⟩:=function_start (t:=t) (w0:=w0) (w:=w) (w3:=w3) (W6:=W6) (P:=P) (bm:=bm) (ba:=ba) (b:=b) (its:=its) (l:=l) (FZq:=FZq) (NS:=NS) hP hlt HTg.out hGb HMm6.out HMa.out hgl HGz.out hnl HB6.out hbw3 o_ hbr HMo.out HQ6.out HR3.out HE6.out
 obtain ⟨C,hCe⟩ : ∃C:IC,C = {w0:=W6,P:=P,S:=fun B=>B=b∨B=bm∨B=ba∨B=0∨B=3,bo:=b,bm:=bm,ba:=ba,sz:=FZq,en:=l,t:=t,ns:=NS}:=⟨_,rfl⟩
 rw [<-hCe] at hok hgi
 have HC:=hide hok
 have HG2:=hide hgi
 have HCP:Hid (C.P=P):=by show _=_;rw [hCe]
 have HSz:Hid (C.sz=FZq):=by show _=_;rw [hCe]
 have HEn:Hid (C.en=l):=by show _=_;rw [hCe]
 have HCE:Hid (C.E=envF t f):=by show _=_;rw [hCe,HEnv.out];rfl
 have HCn:Hid (C.ns=NS/\C.t=t/\C.bo=b/\C.bm=bm/\C.ba=ba):=by rw [hCe];exact ⟨rfl,rfl,rfl,rfl,rfl⟩
 have HCl:Hid (∀w',Wq 5 P W6 w'->(w'.cell? ⟨w.heap.size,1,none⟩=some (.slice ap f.params.length cp))/\(w'.cell? ⟨w.heap.size,2,none⟩=some (.slice ab f.body.length cb))):=fun w' h=>by
  have a1:w.heap.size≠P:=by omega
  have a2:some w.heap.size≠rbq 5 w3 P:=fun h=>by have:=HR3.out _ h.symm;omega
  have h':=HQ6.out.trans h
  exact ⟨h'.cell a1 a2 ((hb3.cell (p:=⟨w.heap.size,1,none⟩) (by simp;omega)).trans e1),h'.cell a1 a2 ((hb3.cell (p:=⟨w.heap.size,2,none⟩) (by simp;omega)).trans e2)⟩
 have HBw:Hid (∀w',Wq 5 P W6 w'->Bl w0 w'):=fun w' h=>(HQ6.out.trans h).bel5 hB3 hP (fun k hk=>(HR3.out k hk).1)
 clear hok hgi hem5 hq5 E6 hW6 e0 e1 e2 hCe
 have k1:IntKind.i64.wrap (-FZq) = -FZq:=by simp [IntKind.wrap,IntKind.bits,IntKind.signed];omega
 have hCP:=HCP.out
 subst hCP
 go_wp2_with fail
 rw [<-HW6.out]
 clear p7 f7
 refine (markI_any C HC.out W6 its (l+1) HG2.out 2 (i:Int) (by (try simp only [l_a,l_c,l_n]);omega)).mono ?_
 rintro x w_1 ⟨⟨u_1,rfl⟩,hw_1⟩
 have HW_1:=hide hw_1
 clear hw_1
 have p2:w_1.cell? ⟨C.P,2,none⟩=some (.int .i64 C.sz):=HW_1.out.gs.es.oth 2 (by decide) (by decide)
 rw [HSz.out] at p2
 go_wp2_with fail
 refine (combineImmI C HC.out w_1 (its++([markI 2 (i:Int)])) (l+1) HW_1.out.gs 12 2 2 (-FZq) (by (try simp only [l_a,l_c,l_n]);omega)).mono ?_
 rintro x w_2 ⟨⟨u_2,rfl⟩,hw_2⟩
 have HW_2:Hid (Wi C W6 its ([markI 2 (i:Int)]++[insI 12 2 2 0 (-FZq)]) (l+1) w_2):=HW_1.out.trans hw_2
 clear hw_2
 try clear p2
 go_wp2_with fail
 refine (linkWordI C HC.out w_2 (its++([markI 2 (i:Int)]++[insI 12 2 2 0 (-FZq)])) (l+1) HW_2.out.gs (by rw [HSz.out];omega)).mono ?_
 rintro x wl_ ⟨rfl,hwl_⟩
 rw [hwl_,HSz.out]
 clear hwl_
 go_wp2_with fail
 refine (storeWordI C HC.out w_2 (its++([markI 2 (i:Int)]++[insI 12 2 2 0 (-FZq)])) (l+1) HW_2.out.gs 1 2 (FZq-4) (by (try simp only [l_a,l_c,l_n]);omega)).mono ?_
 rintro x w_3 ⟨⟨u_3,rfl⟩,hw_3⟩
 have HW_3:Hid (Wi C W6 its ([markI 2 (i:Int)]++[insI 12 2 2 0 (-FZq)]++[insI 11 0 2 1 (FZq-4)]) (l+1) w_3):=HW_2.out.trans hw_3
 clear hw_3
 have e1:=(HCl.out w_3 HW_3.out.wq).1
 go_wp2_with fail
 clear e1
 go_loopw [38] (fun i_ wr=>∃j:Nat,j<=f.params.length/\i_ = .int .i64 j/\Wi C W6 its ([markI 2 (i:Int)]++[insI 12 2 2 0 (-FZq)]++[insI 11 0 2 1 (FZq-4)]++parL j) (l+1) wr) (fun i_ _=>f.params.length-(RowKit.intOf i_).toNat)
 case atStart=>exact ⟨0,Nat.zero_le _,rfl,by rw [show parL 0 = [] from rfl,List.append_nil];exact HW_3.out⟩
 case round=>
  clear HW_3 HW_2 HW_1
  obtain ⟨j,hj,rfl,hW⟩:=hrel
  have HW:=hide hW
  clear hW
  have hpj:=parL_len5 j
  by_cases hlj:j<f.params.length
  ·obtain ⟨bp,offp,rfl,hcp⟩:=HPC.out o_
   obtain ⟨hfi,hsi⟩:=HNp.out j hlj
   have d0:wr.cell? ⟨bp,offp+j,none⟩=some (.string f.params[j]):=by
    have h1:=hcp j hlj
    exact ((HBw.out wr HW.out.wq).cell (p:=⟨bp,offp+j,none⟩) (World.block_lt_of_cell? _ _ h1)).trans h1
   have p0:wr.cell? ⟨C.P,0,none⟩=some (.map (some C.bo)):=HW.out.gs.es.oth 0 (by decide) (by decide)
   have hlk:=HW.out.gs.off HC.out hsi (by rw [HCn.out.1];exact hfi)
   have k3:IntKind.i64.wrap (10+(j:Int))=10+(j:Int):=by simp [IntKind.wrap,IntKind.bits,IntKind.signed];omega
   clear hcp hfi hsi
   generalize f.params[j]=nm at d0 hlk
   go_wp2_with fail
   refine (storeWordI C HC.out wr _ _ HW.out.gs (10+(j:Int)) 2 (4*(j:Int)) (by simp only [l_a,l_c,l_n];omega)).mono ?_
   rintro x w9 ⟨⟨u9,rfl⟩,hw9⟩
   have HRj:Hid (Wi C W6 its ([markI 2 (i:Int)]++[insI 12 2 2 0 (-FZq)]++[insI 11 0 2 1 (FZq-4)]++parL (j+1)) (l+1) w9):=by
    have h:=HW.out.trans hw9
    rw [List.append_assoc] at h
    exact h
   clear hw9 HW d0 p0 hlk
   go_wp2_with fail
   go_roundw
   case rel=>exact ⟨j+1,by omega,by go_num,HRj.out⟩
   case measure=>simp [RowKit.intOf];omega
  ·obtain rfl:j=f.params.length:=by omega
   have e2:=(HCl.out wr HW.out.wq).2
   have hBr:=HBw.out wr HW.out.wq
   have HBlo:Hid (Calls Tryz.prog 55 #[.slice ab f.body.length cb] wr fun e w'=>∃(u:Value) (S':Nat->Prop),e = .returned u/\Bk w' S' u f.body/\(∀B,S' B->wr.heap.size<=B/\B<w'.heap.size)/\Bl wr w'):=HBO.out f.body _ wr (HTab.out.below HTab.out.size hBr) (HVb.out.below hBr) HFit.out (fun s hs=>by obtain ⟨h1,h2,h3,-⟩:=HStk.out s hs;exact ⟨h1,h2,h3⟩) o_
   clear hBr
   go_wp2_with fail
   refine HBlo.out.mono ?_
   rintro x w8 ⟨ub,S8,rfl,hbk,hS8,hb8⟩
   obtain ⟨its2,hits⟩ : ∃its2,its2=its++([markI 2 (i:Int)]++[insI 12 2 2 0 (-FZq)]++[insI 11 0 2 1 (FZq-4)]++parL f.params.length):=⟨_,rfl⟩
   have HG8:Hid (Gi (C.ext w8 S8) w8 its2 (l+1)):=by rw [hits];exact IC.blocks HW.out.gs hb8 hS8
   have HC2:Hid (C.ext w8 S8).Ok:=IC.okBlocks HC.out HW.out.gs hb8
   have HSz2:Hid ((C.ext w8 S8).sz=FZq):=HSz.out
   have HEn2:Hid ((C.ext w8 S8).en=l):=HEn.out
   have hits2:its2.length<=its.length+3+f.params.length:=by rw [hits];simp [parL_len5];omega
   have HBk2:Hid (BlkI (C.ext w8 S8) ub (codeB (envF t f) l f.body) (szLs f.body)):=by
    have h:=blkI_any (C.ext w8 S8) HC2.out (hbk.keep (fun B hB=>.inr hB) (fun B hB=>rfl)) (fun s hs=>by
     obtain ⟨h1,h2,h3,h4⟩:=HStk.out s hs
     refine ⟨h1,h2,h3,?_⟩
     show KnS C.t C.ns s
     rw [HCn.out.1,HCn.out.2.1]
     exact h4) o_
    have e1:(C.ext w8 S8).E=envF t f:=HCE.out
    have e2:(C.ext w8 S8).en=l:=HEn.out
    rw [e1,e2] at h
    exact h
   obtain ⟨t1,t2,t3⟩:=HBk2.out.1 (l+1)
   obtain ⟨cb_,mb_,hcm⟩ : ∃c m,codeB (envF t f) l f.body (l+1)=(c,m):=⟨_,_,rfl⟩
   rw [hcm] at t1 t2 t3 HCf
   simp only at t1 t2 t3 HCf
   have HBlk:Hid (∀(W:World) (its':List It),Gi (C.ext w8 S8) W its' (l+1)->its'.length+24*szLs f.body<=8000000->Calls Tryz.prog 54 #[.pointer (some ⟨C.P,0,none⟩),ub] W fun x w'=>(∃u,x = .returned u)/\Wi (C.ext w8 S8) W its' cb_ mb_ w'):=fun W its' hg hln=>by
    have:=HBk2.out.2 W its' (l+1) hg o_ o_ hln
    rw [hcm] at this
    exact this
   have HFin:Hid (∀new l' w',Wi (C.ext w8 S8) w8 its2 new l' w'->(∃vo' pl' sz' en',Em 70 5 8 C.P w' (its++([markI 2 (i:Int)]++[insI 12 2 2 0 (-FZq)]++[insI 11 0 2 1 (FZq-4)]++parL f.params.length)++new) (cI vo' pl' sz' (.map (some bm)) (.map (some ba)) l' en'))/\Bl w0 w'/\MmS C.P bm t w'):=fun new l' w' h=>by
    have h1:Em 70 5 8 C.P w' (its2++new) (cI (.map (some C.bo)) (4*(C.ns.length:Int)) C.sz (.map (some C.bm)) (.map (some C.ba)) l' C.en):=h.gs.es
    have h2:Wq 5 C.P w8 w':=h.wq
    rw [HCn.out.2.2.2.1,HCn.out.2.2.2.2,hits] at h1
    have h3:=(HW.out.wq.trans (Wq.below HW.out.gs.es.lt hb8)).trans h2
    exact ⟨⟨_,_,_,_,h1⟩,HBw.out w' h3,HMm6.out.wq h3⟩
   have r_5:=loadL_len 10 0
   have HL0:Hid (loadL 10 0 = [insI 12 10 0 0 0]):=by show _=_;unfold loadL;rw [if_pos o_]
   obtain ⟨at_,nt_,ct_,rfl⟩ : ∃a n c,ub = .slice a n c:=by
    obtain ⟨A,vs,F,h1,-,-⟩:=hbk
    obtain ⟨a,c,e,-⟩:=h1
    exact ⟨a,A,c,e⟩
   clear hbk hS8 hb8 HBlo hits hcm e2 HW
   go_wp2_with fail
   refine (HBlk.out w8 its2 HG8.out (by (try simp only [l_a,l_c,l_n]);omega)).mono ?_
   rintro x v_1 ⟨⟨u_1,rfl⟩,hw_1⟩
   have HV_1:=hide hw_1
   clear hw_1
   go_wp2_with fail
   refine (loadNumberI (C.ext w8 S8) HC2.out v_1 (its2++(cb_)) (mb_) HV_1.out.gs 10 0 (by (try simp only [l_a,l_c,l_n]);omega) o_).mono ?_
   rintro x v_2 ⟨⟨u_2,rfl⟩,hw_2⟩
   have HV_2:Hid (Wi (C.ext w8 S8) w8 its2 (cb_++loadL 10 0) (mb_) v_2):=HV_1.out.trans hw_2
   clear hw_2
   have p7:v_2.cell? ⟨C.P,7,none⟩=some (.int .i64 (C.ext w8 S8).en):=HV_2.out.gs.es.oth 7 (by decide) (by decide)
   rw [HEn2.out] at p7
   go_wp2_with fail
   refine (markI_any (C.ext w8 S8) HC2.out v_2 (its2++(cb_++loadL 10 0)) (mb_) HV_2.out.gs 2 l (by (try simp only [l_a,l_c,l_n]);omega)).mono ?_
   rintro x v_3 ⟨⟨u_3,rfl⟩,hw_3⟩
   have HV_3:Hid (Wi (C.ext w8 S8) w8 its2 (cb_++loadL 10 0++[markI 2 l]) (mb_) v_3):=HV_2.out.trans hw_3
   clear hw_3
   try clear p7
   go_wp2_with fail
   refine (linkWordI (C.ext w8 S8) HC2.out v_3 (its2++(cb_++loadL 10 0++[markI 2 l])) (mb_) HV_3.out.gs (by rw [HSz2.out];omega)).mono ?_
   rintro x wl_ ⟨rfl,hwl_⟩
   rw [hwl_,HSz2.out]
   clear hwl_
   go_wp2_with fail
   refine (loadWordI (C.ext w8 S8) HC2.out v_3 (its2++(cb_++loadL 10 0++[markI 2 l])) (mb_) HV_3.out.gs 1 2 (FZq-4) (by (try simp only [l_a,l_c,l_n]);omega)).mono ?_
   rintro x v_4 ⟨⟨u_4,rfl⟩,hw_4⟩
   have HV_4:Hid (Wi (C.ext w8 S8) w8 its2 (cb_++loadL 10 0++[markI 2 l]++[insI 10 1 2 0 (FZq-4)]) (mb_) v_4):=HV_3.out.trans hw_4
   clear hw_4
   have p2:v_4.cell? ⟨C.P,2,none⟩=some (.int .i64 (C.ext w8 S8).sz):=HV_4.out.gs.es.oth 2 (by decide) (by decide)
   rw [HSz2.out] at p2
   go_wp2_with fail
   refine (combineImmI (C.ext w8 S8) HC2.out v_4 (its2++(cb_++loadL 10 0++[markI 2 l]++[insI 10 1 2 0 (FZq-4)])) (mb_) HV_4.out.gs 12 2 2 FZq (by (try simp only [l_a,l_c,l_n]);omega)).mono ?_
   rintro x v_5 ⟨⟨u_5,rfl⟩,hw_5⟩
   have HV_5:Hid (Wi (C.ext w8 S8) w8 its2 (cb_++loadL 10 0++[markI 2 l]++[insI 10 1 2 0 (FZq-4)]++[insI 12 2 2 0 FZq]) (mb_) v_5):=HV_4.out.trans hw_5
   clear hw_5
   try clear p2
   go_wp2_with fail
   refine (combineImmI (C.ext w8 S8) HC2.out v_5 (its2++(cb_++loadL 10 0++[markI 2 l]++[insI 10 1 2 0 (FZq-4)]++[insI 12 2 2 0 FZq])) (mb_) HV_5.out.gs 3 0 1 0 (by (try simp only [l_a,l_c,l_n]);omega)).mono ?_
   rintro x v_6 ⟨⟨u_6,rfl⟩,hw_6⟩
   have HV_6:Hid (Wi (C.ext w8 S8) w8 its2 (cb_++loadL 10 0++[markI 2 l]++[insI 10 1 2 0 (FZq-4)]++[insI 12 2 2 0 FZq]++[insI 3 0 1 0 0]) (mb_) v_6):=HV_5.out.trans hw_6
   clear hw_6
   go_wp2_with fail
   refine bodyPost_end (v:=.tuple #[]) (by simp [results,Tryz.results27,go_sem]) rfl ⟨⟨_,rfl⟩,?_⟩
   have HZ:=HFin.out _ _ _ HV_6.out
   rw [HR.out,HCf.out]
   rw [HL0.out] at HZ
   simp only [List.append_assoc,List.cons_append,List.nil_append] at HZ ⊢
   exact HZ
def lenV:Value->Nat
 | .slice _ n _=>n
 | _=>0
structure BoI (w wr:World) (ss rest:List St) (v:Value) (L:List (Value × List St)) (S:Nat->Prop):Prop where
 row:wr.ownsRow w.heap.size 136 1 v L.length (L.map (·.1))
 bv : ∀q∈L,Bv wr S q.1 q.2
 join:ss=(L.map (·.2)).flatten++rest
 rng : ∀B,S B->w.heap.size<=B/\B<wr.heap.size/\some B≠v.ownBlock
 bel:Below w.heap.size w wr
theorem flat_joinS (L:List (Value × List St)) (d:Value × List St) : ∀k,k<=L.length->joinS (fun i=>(L.getD i d).2) k=((L.take k).map (·.2)).flatten
 | 0,_=>rfl
 | k+1,h=>by
  have hk:k<L.length:=by omega
  simp only [joinS]
  rw [flat_joinS L d k o_,List.take_succ_eq_append_getElem hk]
  have eg:L.getD k d=L[k]:=by rw [List.getD_eq_getElem?_getD,List.getElem?_eq_getElem hk];rfl
  simp only [List.map_append,List.map_cons,List.map_nil,List.flatten_append,List.flatten_cons,List.flatten_nil,List.append_nil,eg]
theorem BoI.bk {w wr:World} {ss:List St} {v:Value} {L:List (Value × List St)} {S:Nat->Prop} (h:BoI w wr ss [] v L S) : ∃S':Nat->Prop,Bk wr S' v ss/\∀B,S' B->w.heap.size<=B/\B<wr.heap.size:=by
 have hlt:=fun k hk=>World.ownsRow.lt h.row k hk
 refine ⟨fun B=>S B∨v.ownBlock=some B,⟨L.length,fun i=>(L.getD i (.nilFunc,[])).1,fun i=>(L.getD i (.nilFunc,[])).2,?_,fun i hi => ?_,?_⟩,fun B hB => ?_⟩
 ·have h0:=h.row
  rcases h.row.2 with ⟨hv,hn⟩ | ⟨g,cap,cur,hv,hbg,hg,hnc,hcm,hcs,htake⟩
  ·refine ⟨none,0,by rw [hv,hn],by omega,by omega,fun hp=>by omega⟩
  ·refine ⟨_,cap,hv,hnc,by unfold maxLen at hcm;omega,fun hp=>⟨g,rfl,.inr (by rw [hv];rfl),fun i hi => ?_⟩⟩
   have hj:(L.map (·.1))[i]? = some ((L.getD i (.nilFunc,[])).1):=by
    simp [List.getD_eq_getElem?_getD,List.getElem?_eq_getElem hi]
   have:=World.ownsRow.cells h0 (g:=g) (by rw [hv];rfl) i _ hj
   rw [addrO] at this
   simpa using this
 ·have hm:L.getD i (.nilFunc,[])∈L:=by
   rw [List.getD_eq_getElem?_getD,List.getElem?_eq_getElem hi]
   exact List.getElem_mem hi
  exact (h.bv _ hm).keep (fun B hB=>.inl hB) (fun B _=>rfl)
 ·rw [flat_joinS L _ L.length (Nat.le_refl _),List.take_length]
  have:=h.join
  simpa using this
 ·rcases hB with hB | hB
  ·exact ⟨(h.rng B hB).1,(h.rng B hB).2.1⟩
  ·exact hlt B hB
theorem BoI.next {w wr wc w':World} {ss lst r':List St} {v v' u:Value} {L:List (Value × List St)} {S S2:Nat->Prop} (h:BoI w wr ss (lst++r') v L S) (hb:Below wr.heap.size wr wc) (hu:Bv wc S2 u lst) (hS2 : ∀B,S2 B->wr.heap.size<=B/\B<wc.heap.size)
  (hg:wc.grownBy w' v.ownBlock) (hrow:w'.ownsRow w.heap.size 136 1 v' (L.map (·.1)++[u]).length (L.map (·.1)++[u])) (hf : ∀k,v'.ownBlock=some k->v.ownBlock=some k∨wc.heap.size<=k):BoI w w' ss r' v' (L++[(u,lst)]) (fun B=>S B∨S2 B):=by
 have hlt:=fun k hk=>World.ownsRow.lt h.row k hk
 have k1 : ∀B,S B->w'.heap[B]? = wr.heap[B]? := fun B hB=>by
  obtain ⟨h1,h2,h3⟩:=h.rng B hB
  rw [hg.block B (Nat.lt_of_lt_of_le h2 hb.size) h3,hb.block B h2]
 have hn : ∀B,S2 B->some B≠v.ownBlock:=fun B hB e=>by
  have:=hlt B e.symm
  have:=hS2 B hB
  omega
 have k2 : ∀B,S2 B->w'.heap[B]? = wc.heap[B]? := fun B hB=>hg.block B (hS2 B hB).2 (hn B hB)
 refine ⟨by simpa using hrow,fun q hq => ?_,?_,fun B hB => ?_,?_⟩
 ·rcases List.mem_append.1 hq with hq | hq
  ·exact (h.bv q hq).keep (fun B hB=>.inl hB) k1
  ·simp only [List.mem_cons,List.not_mem_nil,or_false] at hq
   subst hq
   exact hu.keep (fun B hB=>.inr hB) k2
 ·rw [h.join]
  simp
 ·have hwr:=h.bel.size
  rcases hB with hB | hB
  ·obtain ⟨h1,h2,h3⟩:=h.rng B hB
   refine ⟨h1,Nat.lt_of_lt_of_le (Nat.lt_of_lt_of_le h2 hb.size) hg.size,fun e => ?_⟩
   rcases hf B e.symm with h4 | h4
   ·exact h3 h4.symm
   ·have:=hb.size;omega
  ·obtain ⟨h1,h2⟩:=hS2 B hB
   refine ⟨by omega,Nat.lt_of_lt_of_le h2 hg.size,fun e => ?_⟩
   rcases hf B e.symm with h4 | h4
   ·exact hn B hB h4.symm
   ·omega
 ·have hbc:Bl w wc:=h.bel.trans (hb.mono h.bel.size)
  exact hbc.grown hg hbc.size (fun k hk=>(hlt k hk).1)
end Go.Proofs.YtnpidjamplmgjaaGreatDoor
