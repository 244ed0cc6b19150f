import Derived.Test.YtnpidjamplmgjaaGreatDoorQ40
import Derived.Test.YtnpidjamplmgjaaGreatDoorQ34
import Derived.Deep.RegionHeld3
set_option linter.unusedSectionVars false
variable [Inhabited Go.Proofs.YtnpidjamplmgjaaGreatDoor.Pick]
namespace Go.Proofs.YtnpidjamplmgjaaGreatDoor
open Go.RowKit
set_option linter.unusedVariables false
set_option linter.unusedSimpArgs false
set_option maxRecDepth 100000
set_option maxHeartbeats 16000000
theorem parL_len : ∀j,(parL j).length=j
 | 0=>rfl
 | j+1=>by simp [parL,parL_len j]
theorem SRow.nms {B P:Nat} {w:World} {v:Value} {ns:List ByteArray} (h:SRow B w v ns) (hm:ns.length<=10000000) (hP:P<B) (hr : ∀k,rbq 6 w P=some k->k<B):NmS P w v ns:=by
 obtain ⟨a,c,e,h1,h2,h3⟩:=h.strs hm
 refine ⟨a,c,e,h1,h2,fun h0 => ?_⟩
 obtain ⟨b,off,ea,hc⟩:=h3 h0
 have hb:B<=b:=by
  have hl:v.ownBlock=some b:=by
   rw [e,ea]
   rfl
  exact (World.ownsRow.lt h b hl).1
 refine ⟨b,off,ea,by omega,fun he => ?_,hc⟩
 have:=hr b he.symm
 omega
theorem funS_any (t:Tr) (w0:World) (P:Nat) (vg vf vn:Value) (fr en:Int) (hP:w0.heap.size<=P) (hg:Globs w0 vg t.globals) (hf:Funcs w0 vf t.funcs) (hgl:t.globals.length<=50) (hgz : ∀g∈t.globals,0<=g.size/\g.size<=4000) (hfl:t.funcs.length<=50) (i:Nat) (hi:i<t.funcs.length) (hfo:FrOk t.funcs[i]) (hst : ∀s∈t.funcs[i].body,StOk s) (hfit:fitB t.funcs[i].body=true) (hfz:0<=frameSz t.funcs[i]/\frameSz t.funcs[i]<=1000000) (hpl:t.funcs[i].params.length<=6) (hb5:t.funcs[i].body.length<=500)
  (w:World) (its:List It) (l:Int) (hO:Es P w its vg vf vn fr en l) (hB:Below w0.heap.size w0 w) (hl0:0<=l) (hl2:l+2*(szLs t.funcs[i].body+1)<=90000000) (hil:its.length+24*(szLs t.funcs[i].body+1)<=7000000) :
  Calls Tryz.prog 19 #[.pointer (some ⟨P,0,none⟩),.int .i64 (i:Int)] w fun x w'=>(∃u,x = .returned u)/\(∃vn' fr' en',Es P w' (its++(codeF t i t.funcs[i] l).1) vg vf vn' fr' en' (codeF t i t.funcs[i] l).2)/\Below w0.heap.size w0 w':=by
 have HO:=hide hO
 have HB:=hide hB
 have HGb:=hide hg
 have HFu:=hide hf
 obtain ⟨ag,cg,rfl,-⟩:=hg
 obtain ⟨af,cf,rfl,hf1,hf2,hfc⟩:=hf
 obtain ⟨b,off,rfl,hcell⟩:=hfc o_
 obtain ⟨vp,vb,⟨c0,c1,c2⟩,hvp,hvb⟩:=hcell i hi
 have hlb:=World.block_lt_of_cell? _ _ c0
 have d0:=(hB.cell (p:=⟨b,off+i*3,none⟩) hlb).trans c0
 have d1:=(hB.cell (p:=⟨b,off+i*3+1,none⟩) hlb).trans c1
 have d2:=(hB.cell (p:=⟨b,off+i*3+2,none⟩) hlb).trans c2
 have p1:w.cell? ⟨P,1,none⟩=some (.slice (some ⟨b,off,none⟩) t.funcs.length cf):=hO.oth 1 (by decide) (by decide)
 have HVp:=hide hvp
 have HVb:=hide hvb
 obtain ⟨ap,cp,rfl,-⟩:=hvp
 obtain ⟨ab,cb,rfl,-⟩:=hvb
 have HFo:=hide hfo
 have HSt:=hide hst
 have HFit:=hide hfit
 have HGz:=hide hgz
 have hbl:=hfo.bl
 have hlt:=hO.lt
 have HRl:Hid (∀k,rbq 6 w P=some k->P<k/\k<w.heap.size):=fun k hk=>hO.rlt hk
 have HEnv:Hid (envF t t.funcs[i]=envG t.globals t.funcs (t.funcs[i].params++declN t.funcs[i].body)):=rfl
 have hnl:(t.funcs[i].params++declN t.funcs[i].body).length<=1000:=by
  have h1:=declN_len t.funcs[i].body
  simp only [l_a]
  omega
 obtain ⟨R,hR⟩ : ∃R,R=codeF t i t.funcs[i] l:=⟨_,rfl⟩
 rw [<-hR]
 have HR:=hide hR
 have HCf:Hid (codeF t i t.funcs[i] l=([markI 2 i,insI 12 2 2 0 (-frameSz t.funcs[i]),insI 11 0 2 1 (frameSz t.funcs[i]-4)]++parL t.funcs[i].params.length++(codeB (envF t t.funcs[i]) l t.funcs[i].body (l+1)).1++[insI 12 10 0 0 0,markI 2 l,insI 10 1 2 0 (frameSz t.funcs[i]-4),insI 12 2 2 0 (frameSz t.funcs[i]),insI 3 0 1 0 0],(codeB (envF t t.funcs[i]) l t.funcs[i].body (l+1)).2)):=rfl
 clear hR hO hB hfc hcell c0 c1 c2 hfo hst hfit hgz
 generalize t.funcs[i]=f at *
 obtain ⟨W2,hW2⟩ : ∃W2,W2=w.alloc (.cells #[.string f.name,.slice ap f.params.length cp,.slice ab f.body.length cb] 64):=⟨_,rfl⟩
 have hb2:Bl w W2:=by rw [hW2];exact (Below.refl _ _).alloc (Nat.le_refl _) _
 have hs2:W2.heap.size=w.heap.size+1:=by rw [hW2];simp
 have e0:W2.cell? ⟨w.heap.size,0,none⟩=some (.string f.name):=by rw [hW2];simp
 have e1:W2.cell? ⟨w.heap.size,1,none⟩=some (.slice ap f.params.length cp):=by rw [hW2];simp
 have e2:W2.cell? ⟨w.heap.size,2,none⟩=some (.slice ab f.body.length cb):=by rw [hW2];simp
 have HW2:=hide hW2
 have HLy:=hide (layout_row f _ _ W2 HFo.out (HVp.out.below (HB.out.trans (hb2.mono HB.out.size))) (HVb.out.below (HB.out.trans (hb2.mono HB.out.size))))
 have HNS0 : ∃NS,f.params++declN f.body=NS:=⟨_,rfl⟩
 obtain ⟨NS,hNS⟩:=HNS0
 rw [hNS] at HLy hnl
 have HNS:=hide hNS
 clear hW2 hNS
 go_enter Tryz.func19,Tryz.ntmps19
 go_wp2_with fail
 rw [<-HW2.out]
 refine HLy.out.mono ?_
 rintro x w3 ⟨an,cn,rfl,hb3,hsr⟩
 have HSr:=hide hsr
 have HOb:=hide ((HO.out.below hb2).below hb3)
 have hbw:Bl w w3:=hb2.trans (hb3.mono o_)
 have hs3:w.heap.size+1<=w3.heap.size:=by have:=hb3.size;omega
 have HNm3:Hid (NmS P w3 (.slice an NS.length cn) NS):=HSr.out.nms o_ o_ (fun k hk=>by
  rw [rbq_below hbw hlt] at hk
  have:=HRl.out k hk
  omega)
 have HCl:Hid (∀w',Wq 6 P W2 w'->(w'.cell? ⟨w.heap.size,0,none⟩=some (.string f.name))/\(w'.cell? ⟨w.heap.size,1,none⟩=some (.slice ap f.params.length cp))/\(w'.cell? ⟨w.heap.size,2,none⟩=some (.slice ab f.body.length cb))):=fun w' h=>by
  have a1:w.heap.size≠P:=by omega
  have a2:some w.heap.size≠rbq 6 W2 P:=fun h=>by
   rw [rbq_below hb2 hlt] at h
   have:=HRl.out _ h.symm
   omega
  exact ⟨h.cell a1 a2 e0,h.cell a1 a2 e1,h.cell a1 a2 e2⟩
 have HWq3:Hid (Wq 6 P W2 w3):=Wq.below o_ hb3
 have p2:w3.cell? ⟨P,2,none⟩=some vn:=HOb.out.oth 2 (by decide) (by decide)
 have f2:w3.frozen? ⟨P,2,none⟩=false:=HOb.out.fz 2
 have HE4:=hide (em_set HOb.out 2 (by decide) (by decide) (.slice an NS.length cn))
 obtain ⟨W4,hW4⟩ : ∃W4,W4=w3.setCell ⟨P,2,none⟩ (.slice an NS.length cn):=⟨_,rfl⟩
 have HES4:Hid (Es P W4 its (.slice ag t.globals.length cg) (.slice (some ⟨b,off,none⟩) t.funcs.length cf) (.slice an NS.length cn) fr en l):=by
  show Em _ _ _ _ _ _ _
  rw [hW4]
  refine HE4.out.1.congr fun o ho hq => ?_
  have:o=0∨o=1∨o=2∨o=3∨o=4∨o=5:=by omega
  rcases this with rfl | rfl | rfl | rfl | rfl | rfl <;> rfl
 have HWq4:Hid (Wq 6 P W2 W4):=by show Wq _ _ _ _;rw [hW4];exact HWq3.out.trans HE4.out.2
 have HNm4:Hid (NmS P W4 (.slice an NS.length cn) NS):=by show NmS _ _ _ _;rw [hW4];exact HNm3.out.wq HE4.out.2
 have hB4:Bl w0 W4:=by rw [hW4];exact (HB.out.trans (hbw.mono HB.out.size)).setCell hP _
 have HFrm:=hide (frameG_any f _ _ W4 HFo.out (HVp.out.below hB4) (HVb.out.below hB4))
 have HW4:=hide hW4
 obtain ⟨x0,x1,x2⟩:=HCl.out W4 HWq4.out
 rw [hW4] at x0 x1 x2
 obtain ⟨FZq,hFS⟩ : ∃FZq,FZq=frameSz f:=⟨_,rfl⟩
 rw [<-hFS] at HFrm hfz HCf
 clear hW4 hsr HLy d0 d1 d2 p1 e0 e1 e2 hFS
 go_wp2_with fail
 rw [<-HW4.out]
 clear p2 f2 x0 x1 x2
 refine HFrm.out.mono ?_
 rintro x w5 ⟨rfl,hb5'⟩
 have HES5:=hide (HES4.out.below hb5')
 have HWq5:Hid (Wq 6 P W2 w5):=HWq4.out.trans (Wq.below HES4.out.lt hb5')
 have HNm5:Hid (NmS P w5 (.slice an NS.length cn) NS):=HNm4.out.wq (Wq.below HES4.out.lt hb5')
 have hB5:Bl w0 w5:=hB4.trans (hb5'.mono hB4.size)
 have p3:w5.cell? ⟨P,3,none⟩=some (.int .i64 fr):=HES5.out.oth 3 (by decide) (by decide)
 have f3:w5.frozen? ⟨P,3,none⟩=false:=HES5.out.fz 3
 have HE6:=hide (em_set HES5.out 3 (by decide) (by decide) (.int .i64 FZq))
 obtain ⟨W6,hW6⟩ : ∃W6,W6=w5.setCell ⟨P,3,none⟩ (.int .i64 FZq):=⟨_,rfl⟩
 have HES6:Hid (Es P W6 its (.slice ag t.globals.length cg) (.slice (some ⟨b,off,none⟩) t.funcs.length cf) (.slice an NS.length cn) FZq en l):=by
  show Em _ _ _ _ _ _ _
  rw [hW6]
  refine HE6.out.1.congr fun o ho hq => ?_
  have:o=0∨o=1∨o=2∨o=3∨o=4∨o=5:=by omega
  rcases this with rfl | rfl | rfl | rfl | rfl | rfl <;> rfl
 have HWq6:Hid (Wq 6 P W2 W6):=by show Wq _ _ _ _;rw [hW6];exact HWq5.out.trans HE6.out.2
 have HNm6:Hid (NmS P W6 (.slice an NS.length cn) NS):=by show NmS _ _ _ _;rw [hW6];exact HNm5.out.wq HE6.out.2
 have hB6:Bl w0 W6:=by rw [hW6];exact hB5.setCell hP _
 have HLb:=hide (labG P its _ _ _ _ _ l W6 HES6.out o_)
 have HW6:=hide hW6
 clear hW6 hb5' hB4 HFrm
 go_wp2_with fail
 rw [<-HW6.out]
 clear p3 f3
 refine HLb.out.mono ?_
 rintro x w7 ⟨rfl,hes7,hwq7⟩
 have HES7:=hide hes7
 have p4:w7.cell? ⟨P,4,none⟩=some (.int .i64 en):=HES7.out.oth 4 (by decide) (by decide)
 have f4:w7.frozen? ⟨P,4,none⟩=false:=HES7.out.fz 4
 have HE8:=hide (em_set HES7.out 4 (by decide) (by decide) (.int .i64 l))
 obtain ⟨W8,hW8⟩ : ∃W8,W8=w7.setCell ⟨P,4,none⟩ (.int .i64 l):=⟨_,rfl⟩
 have HES8:Hid (Es P W8 its (.slice ag t.globals.length cg) (.slice (some ⟨b,off,none⟩) t.funcs.length cf) (.slice an NS.length cn) FZq l (l+1)):=by
  show Em _ _ _ _ _ _ _
  rw [hW8]
  refine HE8.out.1.congr fun o ho hq => ?_
  have:o=0∨o=1∨o=2∨o=3∨o=4∨o=5:=by omega
  rcases this with rfl | rfl | rfl | rfl | rfl | rfl <;> rfl
 have HWq68:Hid (Wq 6 P W6 W8):=by show Wq _ _ _ _;rw [hW8];exact hwq7.trans HE8.out.2
 have HWq8:Hid (Wq 6 P W2 W8):=HWq6.out.trans HWq68.out
 have HNm8:Hid (NmS P W8 (.slice an NS.length cn) NS):=HNm6.out.wq HWq68.out
 obtain ⟨C,hCe⟩ : ∃C:GC,C=⟨w0,P,.slice ag t.globals.length cg,.slice (some ⟨b,off,none⟩) t.funcs.length cf,.slice an NS.length cn,t.globals,t.funcs,NS,FZq,l⟩:=⟨_,rfl⟩
 have HCP:Hid (C.P=P):=by show _=_;rw [hCe]
 have HC:Hid C.Ok:=by
  show C.Ok
  rw [hCe]
  exact ⟨hP,HGb.out,HFu.out,hgl,HGz.out,hfl,hnl⟩
 have HCw:Hid (C.w0=w0):=by show _=_;rw [hCe]
 have HCE:Hid (C.E=envF t f):=by show _=_;rw [hCe];show envG t.globals t.funcs NS=_;rw [<-HNS.out];rfl
 have HCen:Hid (C.en=l):=by show _=_;rw [hCe]
 have HG6:Hid (Gs C W6 its l->True):=fun _=>trivial
 have HG2:Hid (Gs C W8 its (l+1)):=by
  show Gs _ _ _ _
  rw [hCe]
  refine ⟨HES8.out,?_,HNm8.out⟩
  refine hB6.trans ⟨HWq68.out.still.1,HWq68.out.still.2.1,HWq68.out.still.2.2,HWq68.out.size,fun k hk => ?_⟩
  refine HWq68.out.block k (by have:=hB6.size;omega) (by show k≠P;omega) (fun e => ?_)
  have:=HES6.out.rlt e.symm
  omega
 have HBk:Hid (BlkC C (.slice ab f.body.length cb) (codeB (envF t f) l f.body) (szLs f.body)):=by
  have h:=blockS_any C HC.out f.body.length f.body (.slice ab f.body.length cb) (Nat.le_refl _) (by rw [HCw.out];exact HVb.out) HFit.out HSt.out o_
  rw [HCE.out,HCen.out] at h
  exact h
 obtain ⟨t1,t2,t3⟩:=HBk.out.1 (l+1)
 obtain ⟨cb_,mb_,hcm⟩ : ∃c m,codeB (envF t f) l f.body (l+1)=(c,m):=⟨_,_,rfl⟩
 rw [hcm] at t1 t2 t3 HCf
 simp only at t1 t2 t3 HCf
 have HBlk:Hid (∀(W:World) (its':List It),Gs C W its' (l+1)->its'.length+24*szLs f.body<=8000000->Calls Tryz.prog 40 #[.pointer (some ⟨C.P,0,none⟩),.slice ab f.body.length cb] W fun x w'=>(∃u,x = .returned u)/\Wd C W its' cb_ mb_ w'):=fun W its' hg hln=>by
  have:=HBk.out.2 W its' (l+1) hg o_ o_ hln
  rw [hcm] at this
  exact this
 have HFin:Hid (∀new l' w',Wd C W8 its new l' w'->(∃vn' fr' en',Es P w' (its++new) (.slice ag t.globals.length cg) (.slice (some ⟨b,off,none⟩) t.funcs.length cf) vn' fr' en' l')/\Bl w0 w'):=fun new l' w' h=>by
  have h1:=h.gs.es
  have h2:=h.gs.bel
  rw [hCe] at h1 h2
  exact ⟨⟨_,_,_,h1⟩,h2⟩
 have HFr:Hid (C.fr=FZq):=by show _=_;rw [hCe]
 have HW8:=hide hW8
 clear hW8 hes7 hwq7 HLb hCe hcm hB5 hB6
 have hCP:=HCP.out
 subst hCP
 have k1:IntKind.i64.wrap (-FZq) = -FZq:=by simp [IntKind.wrap,IntKind.bits,IntKind.signed];omega
 have k2:IntKind.i64.wrap (FZq-4)=FZq-4:=by simp [IntKind.wrap,IntKind.bits,IntKind.signed];omega
 have hFrr:=HFr.out
 go_wp2_with fail
 rw [<-HW8.out]
 clear p4 f4
 refine (markC C HC.out W8 its (l+1) HG2.out 2 (i:Int) (by (try simp only [l_a,l_c,l_n]);omega)).mono ?_
 rintro x w_1 ⟨⟨u_1,rfl⟩,hw_1⟩
 have HW_1:=hide hw_1
 clear hw_1
 try clear p3
 have p3:w_1.cell? ⟨C.P,3,none⟩=some (.int .i64 C.fr):=HW_1.out.gs.es.oth 3 (by decide) (by decide)
 rw [HFr.out] at p3
 go_wp2_with fail
 refine (putC C HC.out _ _ _ HW_1.out.gs 12 2 2 0 (-FZq) (by (try simp only [l_a,l_c,l_n]);omega)).mono ?_
 rintro x w_2 ⟨⟨u_2,rfl⟩,hw_2⟩
 have HW_2:=hide (HW_1.out.trans hw_2)
 clear hw_2
 try clear p3
 have p3:w_2.cell? ⟨C.P,3,none⟩=some (.int .i64 C.fr):=HW_2.out.gs.es.oth 3 (by decide) (by decide)
 rw [HFr.out] at p3
 go_wp2_with fail
 refine (putC C HC.out _ _ _ HW_2.out.gs 11 0 2 1 (FZq-4) (by (try simp only [l_a,l_c,l_n]);omega)).mono ?_
 rintro x w_3 ⟨⟨u_3,rfl⟩,hw_3⟩
 have HW_3:=hide (HW_2.out.trans hw_3)
 clear hw_3
 try clear p3
 have e1:=(HCl.out w_3 (HWq8.out.trans HW_3.out.wq)).2.1
 go_wp2_with fail
 clear e1
 go_loopw [8] (fun i_ wr=>∃j:Nat,j<=f.params.length/\i_ = .int .i64 j/\Wd C W8 its ([markI 2 (i:Int)]++[insI 12 2 2 0 (-FZq)]++[insI 11 0 2 1 (FZq-4)]++parL j) (l+1) wr) (fun i_ _=>f.params.length-(RowKit.intOf i_).toNat)
 case atStart=>exact ⟨0,Nat.zero_le _,rfl,by rw [show parL 0 = [] from rfl,List.append_nil];exact HW_3.out⟩
 case round=>
  clear HW_3 HW_2 HW_1
  obtain ⟨j,hj,rfl,hW⟩:=hrel
  have HW:=hide hW
  clear hW
  have hpj:=parL_len j
  have e1:=(HCl.out wr (HWq8.out.trans HW.out.wq)).2.1
  by_cases hlj:j<f.params.length
  ·have k3:IntKind.i64.wrap (10+(j:Int))=10+(j:Int):=by simp [IntKind.wrap,IntKind.bits,IntKind.signed];omega
   have k4:IntKind.i64.wrap (4*(j:Int))=4*(j:Int):=by simp [IntKind.wrap,IntKind.bits,IntKind.signed];omega
   go_wp2_with fail
   refine (putC C HC.out wr _ _ HW.out.gs 11 0 2 (10+(j:Int)) (4*(j:Int)) (by simp only [l_a,l_c,l_n];omega)).mono ?_
   rintro x w9 ⟨⟨u9,rfl⟩,hw9⟩
   have HRj:Hid (Wd C W8 its ([markI 2 (i:Int)]++[insI 12 2 2 0 (-FZq)]++[insI 11 0 2 1 (FZq-4)]++parL (j+1)) (l+1) w9):=by
    have h:=HW.out.trans hw9
    rw [List.append_assoc] at h
    exact h
   clear hw9 HW e1
   go_wp2_with fail
   go_roundw
   case rel=>exact ⟨j+1,by omega,by go_num,HRj.out⟩
   case measure=>simp [RowKit.intOf];omega
  ·obtain rfl:j=f.params.length:=by omega
   have HW_4:=hide (HW.out)
   clear HW
   have e2:=(HCl.out wr (HWq8.out.trans HW_4.out.wq)).2.2
   go_wp2_with fail
   refine (HBlk.out _ _ HW_4.out.gs (by have r_1:=parL_len f.params.length;(try simp only [l_a,l_c,l_n]);omega)).mono ?_
   rintro x w_5 ⟨⟨u_5,rfl⟩,hw_5⟩
   have HW_5:=hide (HW_4.out.trans hw_5)
   clear hw_5
   try clear p3
   clear e2
   go_wp2_with fail
   refine (putC C HC.out _ _ _ HW_5.out.gs 12 10 0 0 0 (by have r_1:=parL_len f.params.length;(try simp only [l_a,l_c,l_n]);omega)).mono ?_
   rintro x w_6 ⟨⟨u_6,rfl⟩,hw_6⟩
   have HW_6:=hide (HW_5.out.trans hw_6)
   clear hw_6
   try clear p3
   go_wp2_with fail
   refine (markC C HC.out _ _ _ HW_6.out.gs 2 l (by have r_1:=parL_len f.params.length;(try simp only [l_a,l_c,l_n]);omega)).mono ?_
   rintro x w_7 ⟨⟨u_7,rfl⟩,hw_7⟩
   have HW_7:=hide (HW_6.out.trans hw_7)
   clear hw_7
   try clear p3
   have p3:w_7.cell? ⟨C.P,3,none⟩=some (.int .i64 C.fr):=HW_7.out.gs.es.oth 3 (by decide) (by decide)
   rw [HFr.out] at p3
   go_wp2_with fail
   refine (putC C HC.out _ _ _ HW_7.out.gs 10 1 2 0 (FZq-4) (by have r_1:=parL_len f.params.length;(try simp only [l_a,l_c,l_n]);omega)).mono ?_
   rintro x w_8 ⟨⟨u_8,rfl⟩,hw_8⟩
   have HW_8:=hide (HW_7.out.trans hw_8)
   clear hw_8
   try clear p3
   have p3:w_8.cell? ⟨C.P,3,none⟩=some (.int .i64 C.fr):=HW_8.out.gs.es.oth 3 (by decide) (by decide)
   rw [HFr.out] at p3
   go_wp2_with fail
   refine (putC C HC.out _ _ _ HW_8.out.gs 12 2 2 0 FZq (by have r_1:=parL_len f.params.length;(try simp only [l_a,l_c,l_n]);omega)).mono ?_
   rintro x w_9 ⟨⟨u_9,rfl⟩,hw_9⟩
   have HW_9:=hide (HW_8.out.trans hw_9)
   clear hw_9
   try clear p3
   go_wp2_with fail
   refine (putC C HC.out _ _ _ HW_9.out.gs 3 0 1 0 0 (by have r_1:=parL_len f.params.length;(try simp only [l_a,l_c,l_n]);omega)).mono ?_
   rintro x w_10 ⟨⟨u_10,rfl⟩,hw_10⟩
   have HW_10:=hide (HW_9.out.trans hw_10)
   clear hw_10
   try clear p3
   go_wp2_with fail
   refine bodyPost_end (v:=.tuple #[]) (by simp [results,Tryz.results19,go_sem]) rfl ⟨⟨_,rfl⟩,?_⟩
   have HZ:=HFin.out _ _ _ HW_10.out
   rw [HR.out,HCf.out]
   simp only [List.append_assoc,List.cons_append,List.nil_append] at HZ ⊢
   exact HZ
structure FnOkG (f:Fu):Prop where
 st : ∀s∈f.body,StOk s
 fit:fitB f.body=true
 pl:f.params.length<=6
 bl:f.body.length<=500
 ns:nodeSum f.body<=2000
theorem fnOkG {t:Tr} (h:treeB t=true):t.globals.length<=50/\t.funcs.length<=50/\(∀g∈t.globals,0<=g.size/\g.size<=4000)/\∀f∈t.funcs,FnOkG f:=by
 unfold treeB at h
 simp only [Bool.and_eq_true,decide_eq_true_eq,List.all_eq_true] at h
 obtain ⟨h1,h2,h3,h4⟩:=h
 refine ⟨h1,h2,fun g hg => ?_,fun f hf => ?_⟩
 ·have:=h3 g hg
  unfold globB at this
  simp only [Bool.and_eq_true,decide_eq_true_eq] at this
  exact this.2
 ·have:=h4 f hf
  unfold funcB at this
  simp only [Bool.and_eq_true,decide_eq_true_eq] at this
  obtain ⟨a1,a2,a3,a4,a5,a6⟩:=this
  unfold stmtsB at a5
  simp only [Bool.and_eq_true,decide_eq_true_eq,List.all_eq_true] at a5
  refine ⟨fun s hs=>⟨a5.2 s hs,?_,?_⟩,a6,a2,a3,a5.1⟩
  ·have:=nodeSum_mem hs;omega
  ·have:=nodeSum_mem hs;omega
theorem FnOkG.sz {f:Fu} (h:FnOkG f):szLs f.body<=2500:=by
 have:=h.bl
 have:=h.ns
 unfold szLs
 omega
theorem FnOkG.code {f:Fu} (h:FnOkG f) (t:Tr) (i:Nat) (l:Int):(codeF t i f l).1.length<=60100/\l<=(codeF t i f l).2/\(codeF t i f l).2<=l+5100:=by
 have hs:=codeB_sb (envF t f) l f.body.length f.body (Nat.le_refl _) (fun s hs=>⟨code_cb _ (h.st s hs).one,fun h3=>code_cb _ ((h.st s hs).two h3)⟩) (l+1)
 have h1:=h.sz
 have h2:=h.pl
 unfold codeF
 simp only [l_a,l_c,l_n,parL_len]
 obtain ⟨a1,a2,a3⟩:=hs
 refine ⟨?_,?_,?_⟩ <;> omega
theorem codeT_bd {t:Tr} (h : ∀f∈t.funcs,FnOkG f) : ∀(k:Nat) (l:Int),k<=t.funcs.length->(codeT t k l).1.length<=3+60100*k/\l<=(codeT t k l).2/\(codeT t k l).2<=l+5100*k
 | 0,l,_=>by simp [codeT]
 | k+1,l,hk=>by
  obtain ⟨a1,a2,a3⟩:=codeT_bd h k l o_
  have hm:t.funcs.getD k ⟨⟨#[]⟩,[],[]⟩∈t.funcs:=by
   rw [List.getD_eq_getElem?_getD,List.getElem?_eq_getElem o_]
   exact List.getElem_mem o_
  obtain ⟨b1,b2,b3⟩:=(h _ hm).code t k (codeT t k l).2
  simp only [codeT,l_a]
  refine ⟨?_,?_,?_⟩ <;> omega
theorem bound_ok {t:Tr} (h : ¬boundE t<0):(checkE t).1=0/\∀f∈t.funcs,frameSz f<=2032:=by
 unfold boundE at h
 by_cases hc:(checkE t).1=0/\∀x∈framesL t,x<=2032
 ·refine ⟨hc.1,fun f hf=>hc.2 _ ?_⟩
  unfold framesL
  rw [if_pos hc.1]
  exact List.mem_map.2 ⟨f,hf,rfl⟩
 ·rw [if_neg hc] at h
  omega
theorem frameSz_nonneg {f:Fu} (h : ∀s∈f.body,okE s.e/\okE s.f):4<=frameSz f:=by
 have:=places_bd f.body h
 unfold frameSz
 omega
def LiveS (t:Tr) (m x:Nat):Prop:=x=m∨Rch t m x
theorem LiveS.call {t:Tr} {m f c:Nat} (h:LiveS t m f) (hl:f<t.funcs.length) (hc:c∈clF t f):LiveS t m c:=by
 have hcr:CallR t f c:=⟨hl,hc⟩
 rcases h with rfl | h
 ·exact .inr (.one hcr)
 ·exact .inr (.step h hcr)
theorem foldl_max_mono : ∀(l:List Nat) (g h:Nat->Int) (p q:Int),p<=q->(∀c∈l,g c<=h c)->(l.map g).foldl max p<=(l.map h).foldl max q
 | [],_,_,_,_,hp,_=>hp
 | a::r,g,h,p,q,hp,hl=>foldl_max_mono r g h (max p (g a)) (max q (h a)) (by have:=hl a (by simp);omega) (fun c hc=>hl c (by simp [hc]))
theorem mxL_mono {l:List Nat} {g h:Nat->Int} (hl : ∀c∈l,g c<=h c):mxL (l.map g)<=mxL (l.map h):=foldl_max_mono l g h 0 0 (Int.le_refl _) hl
structure SumI (t:Tr) (m r:Nat) (S:Nat->Int):Prop where
 bd : ∀f,LiveS t m f->0<=S f/\S f<=deepE t f
 ok : ∀f,LiveS t m f->∀s,Dp t r f s->S f=s
structure SumK (t:Tr) (m r:Nat) (done:List Nat) (S:Nat->Int):Prop extends SumI t m r S where
 up : ∀f∈done,∀s,Dp t (r+1) f s->S f=s
def updS (S:Nat->Int) (f:Nat) (v:Int):Nat->Int:=fun x=>if x=f then v else S x
theorem SumI.zero {t:Tr} {m:Nat} (hz : ∀f,f<t.funcs.length->0<=fszF t f/\fszF t f<=1000000) (hD : ∀f,LiveS t m f->∃n s,Dp t n f s):SumI t m 0 (fun _=>0):=by
 refine ⟨fun f hf => ?_,fun f hf s hs=>by cases hs using Dp_i⟩
 obtain ⟨n,s,h⟩:=hD f hf
 rw [h.deep]
 exact ⟨Int.le_refl _,(h.bd hz).1⟩
theorem SumI.start {t:Tr} {m r:Nat} {S:Nat->Int} (h:SumI t m r S):SumK t m r [] S:=⟨h,by simp⟩
theorem deep_eq {t:Tr} {n f:Nat} {s:Int} (h:Dp t n f s):deepE t f=fszF t f+mxL ((clF t f).map (deepE t)):=by
 obtain ⟨k,rfl,hk⟩:=h.kids
 rw [h.deep]
 exact h.sums (deepE t) (fun c hc x hx=>hx.deep)
theorem SumK.step {t:Tr} {m r:Nat} {done:List Nat} {S:Nat->Int} (h:SumK t m r done S) (hz : ∀f,f<t.funcs.length->0<=fszF t f/\fszF t f<=1000000) (hD : ∀f,LiveS t m f->∃n s,Dp t n f s) {f:Nat} (hf:LiveS t m f) (hl:f<t.funcs.length) :
  SumK t m r (done++[f]) (updS S f (mxL ((clF t f).map S)+fszF t f)):=by
 have key : ∀s,Dp t (r+1) f s->mxL ((clF t f).map S)+fszF t f=s:=fun s hs=>by
  have:=hs.sums S (fun c hc x hx=>h.ok c (hf.call hl hc) x hx)
  omega
 refine ⟨⟨fun g hg => ?_,fun g hg s hs => ?_⟩,fun g hg s hs => ?_⟩
 ·unfold updS
  split
  ·rename_i e
   subst e
   obtain ⟨n,s,hd⟩:=hD g hg
   rw [deep_eq hd]
   have h1:mxL ((clF t g).map S)<=mxL ((clF t g).map (deepE t)):=mxL_mono (fun c hc=>(h.bd c (hg.call hl hc)).2)
   have h2:0<=mxL ((clF t g).map S):=foldl_max_ge _ 0
   have h3:=hz g hl
   omega
  ·exact h.bd g hg
 ·unfold updS
  split
  ·rename_i e
   subst e
   exact key s (hs.more _ o_)
  ·exact h.ok g hg s hs
 ·unfold updS
  split
  ·rename_i e
   subst e
   exact key s hs
  ·rename_i e
   rcases List.mem_append.1 hg with hg | hg
   ·exact h.up g hg s hs
   ·simp at hg;exact absurd hg e
theorem SumK.next {t:Tr} {m r:Nat} {live:List Nat} {S:Nat->Int} (h:SumK t m r live S) (hl : ∀x,LiveS t m x->x∈live):SumI t m (r+1) S:=⟨h.bd,fun f hf s hs=>h.up f (hl f hf) s hs⟩
theorem deep_bd {t:Tr} {m:Nat} (hz : ∀f,f<t.funcs.length->0<=fszF t f/\fszF t f<=1000000) (hm:m<t.funcs.length) (ha:Acyc t m) {f:Nat} (hf:LiveS t m f) : ∃s,Dp t t.funcs.length f s/\deepE t f=s/\0<=s/\s<=1000000*t.funcs.length:=by
 obtain ⟨s,hs⟩:=dp_exists hm ha t.funcs.length f hf (rk_all t f)
 have:=hs.bd hz
 exact ⟨s,hs,hs.deep,this.1,this.2⟩
open Classical in
theorem sound_any (t:Tr) (vg vf:Value) (w:World) (hT:Tab w) (hs:smallT t) (hw:wfT t) (hg:Globs w vg t.globals) (hf:Funcs w vf t.funcs) :
  Calls Tryz.prog 73 #[.agg #[vg,vf]] w fun e w'=>e = .returned (.bool (decide ((checkE t).1=0)))/\Below w.heap.size w w':=by
 obtain ⟨x,y,z,hX⟩ : ∃x y z,checkE t=(x,y,z):=⟨_,_,_,rfl⟩
 obtain ⟨ag,cg,rfl,-⟩:=id hg
 obtain ⟨af,cf,rfl,-⟩:=id hf
 have hA : ∀o,Bl w (w.alloc o):=fun o=>(Below.refl _ _).alloc (Nat.le_refl _) o
 have HC:Hid (∀W,Bl w W->Calls Tryz.prog 98 #[.agg #[.slice ag t.globals.length cg,.slice af t.funcs.length cf]] W fun e w'=>e = .returned (errV x y z)/\Bl W w'):=fun W hW=>by
  have:=checkI_any t _ _ W (hT.below hT.size hW) hs hw (hg.below hW) (hf.below hW)
  rw [hX] at this
  exact this
 rw [hX]
 simp only
 by_cases hz:x=0
 ·subst hz
  rw [decide_eq_true rfl]
  go_enter Tryz.func73,Tryz.ntmps73
  go_wp2_with fail
  refine (HC.out _ (hA _)).mono ?_
  rintro e w1 ⟨rfl,hb1⟩
  rw [errV_zero]
  have hB1:=(hA _).trans (hb1.mono (hA _).size)
  go_wp2_with fail
  go_ret
  exact ⟨rfl,hB1⟩
 ·rw [decide_eq_false hz]
  go_enter Tryz.func73,Tryz.ntmps73
  go_wp2_with fail
  refine (HC.out _ (hA _)).mono ?_
  rintro e w1 ⟨rfl,hb1⟩
  rw [errV_ne hz]
  have hB1:=(hA _).trans (hb1.mono (hA _).size)
  go_wp2_with fail
  go_ret
  exact ⟨rfl,hB1⟩
def FRow (B:Nat) (w:World) (v:Value) (l:List Int):Prop:=w.ownsRow B 2 1 v l.length (l.map (Value.int .i64))
theorem FRow.below {B:Nat} {w w':World} {v:Value} {l:List Int} (h:FRow B w v l) (hb:Below w.heap.size w w'):FRow B w' v l:=ownb_below h hb
theorem FRow.shape {B:Nat} {w:World} {v:Value} {l:List Int} (h:FRow B w v l) : ∃a c,v = .slice a l.length c:=by
 rcases h.2 with ⟨rfl,hz⟩ | ⟨g,cap,cur,rfl,_⟩
 ·exact ⟨none,0,by rw [hz]⟩
 ·exact ⟨_,cap,rfl⟩
theorem frow_lit (W:World) (B:Nat) (hB:B<=W.heap.size):FRow B (W.alloc (.cells #[] 2)) (.slice (some ⟨W.heap.size,0,none⟩) 0 0) []:=World.ownsRow_lit W #[] 0 hB (by decide) rfl
theorem wpList_appI {w:World} {ops:Array Oper} {rest:List Oper} {o:Oper} {a:Act} {Q:Exit->Act->World->Prop} (hgd:o.guard=none) (s x:Operand)
  (ho:o.op = .call {callee:=.builtin .append,args:=#[s,x],argTypes:=#[82,82]})
  (B:Nat) (v:Value) (l:List Int) (z:Int) (hs:a.eval s=v) (hown:FRow B w v l) (b c:Nat) (hx:a.eval x = .slice (some ⟨b,0,none⟩) 1 c) (hz:w.cell? ⟨b,0,none⟩=some (.int .i64 z))
  (hm:l.length<=1000000) (hbase:B<=w.heap.size)
  (h : ∀v' w',FRow B w' v' (l++[z])->w.grownBy w' v.ownBlock->wpList Tryz.prog ops Q rest (a.put o.dst v') w'):wpList Tryz.prog ops Q (o::rest) a w:=by
 obtain ⟨i1,hj,hy0,hy1,hy2⟩:=info_parts info_i64
 refine wpList_appF hgd s x _ ho B 2 i1 _ 1 8 Tryz.underlying82 hj hy0 hy1 hy2 rfl (by decide) v l.length (l.map (Value.int .i64)) hs hown ⟨b,0,none⟩ 1 c [.int .i64 z] hx rfl ?_ (by simp [Value.oneCell']) o_ (by decide) hbase fun v' w' h1 h2 h3=>h v' w' ?_ h2
 ·intro j u hj
  have hl:j=0:=by
   have:=(List.getElem?_eq_some_iff.1 hj).1
   simp at this
   omega
  subst hl
  simp at hj
  rw [<-hj]
  simpa [Addr.add] using hz
 ·unfold FRow
  rw [l_a,List.map_append]
  exact h1
theorem fld_size (b:Nat) (n z:Int) (W:World):(Instr.field 57 (.agg #[.map (some b),.int .i64 n,.int .i64 z]) 2).run Tryz.prog W = .ok (.int .i64 z) W:=by kernel_rfl
theorem framesI_any (t:Tr) (vg vf:Value) (w:World) (hT:Tab w) (hs:smallT t) (hw:wfT t) (hg:Globs w vg t.globals) (hf:Funcs w vf t.funcs) :
  Calls Tryz.prog 43 #[.agg #[vg,vf]] w fun e w'=>∃v,e = .returned v/\FRow w.heap.size w' v (framesL t)/\Below w.heap.size w w':=by
 have HT:Hid (Tab w):=hT
 have hsz:=hT.size
 have HSo:=hide fun W (hW:Bl w W)=>sound_any t vg vf W (hT.below hT.size hW) hs hw (hg.below hW) (hf.below hW)
 have HOk:=hide fun (h:(checkE t).1=0)=>frOk h hw
 obtain ⟨ag,cg,rfl,-⟩:=hg
 obtain ⟨af,cf,rfl,-,-,hfc⟩:=hf
 have HFC:=hide hfc
 clear hT hs hw hfc
 obtain ⟨W0,hW0⟩ : ∃W0,W0=w.alloc (.cells #[.slice ag t.globals.length cg,.slice af t.funcs.length cf] 32):=⟨_,rfl⟩
 have hA0:Bl w W0:=by rw [hW0];exact (Below.refl _ _).alloc (Nat.le_refl _) _
 have hs0:W0.heap.size=w.heap.size+1:=by rw [hW0];simp
 have hA1:Bl w (W0.alloc (.cells #[] 2)):=hA0.alloc hA0.size _
 have HR0:Hid (FRow w.heap.size (W0.alloc (.cells #[] 2)) (.slice (some ⟨w.heap.size+1,0,none⟩) 0 0) []):=by
  have:=frow_lit W0 w.heap.size hA0.size
  rw [hs0] at this
  exact this
 have HBx:Hid (∀W,Below (w.heap.size+1) W0 W->W.cell? ⟨w.heap.size,0,none⟩=some (.slice ag t.globals.length cg)/\W.cell? ⟨w.heap.size,1,none⟩=some (.slice af t.funcs.length cf)):=fun W hW=>by
  rw [hW0] at hW
  exact box2 hW
 have hA2:Below (w.heap.size+1) W0 (W0.alloc (.cells #[] 2)):=(Below.refl _ _).alloc o_ _
 have HW0:=hide hW0
 clear hW0 hA0
 go_enter Tryz.func43,Tryz.ntmps43
 go_wp2_with fail
 rw [<-HW0.out]
 refine (HSo.out _ hA1).mono ?_
 rintro e w1 ⟨rfl,hb1⟩
 have hB1:=hA1.trans (hb1.mono hA1.size)
 have HR1:=hide (HR0.out.below hb1)
 obtain ⟨x0,x1⟩:=HBx.out w1 (hA2.trans (hb1.mono (by have:=hA2.size;omega)))
 clear hA1 hA2 hb1 HR0 HSo HBx HW0
 by_cases hz:(checkE t).1=0
 ·obtain ⟨hfl,hfo⟩:=HOk.out hz
  have HFo:=hide hfo
  have HRes:Hid (framesL t=t.funcs.map frameSz):=framesL_yes hz
  rw [decide_eq_true hz]
  clear hz hfo HOk
  go_wp2_with fail
  go_loopw [3,14] (fun v i wr=>∃k:Nat,k<=t.funcs.length/\i = .int .i64 k/\FRow w.heap.size wr v ((t.funcs.take k).map frameSz)/\Bl w wr) (fun _ i _=>t.funcs.length-(RowKit.intOf i).toNat)
  case atStart=>exact ⟨0,Nat.zero_le _,rfl,HR1.out,hB1⟩
  case round=>
   clear HR1 hB1 x0 x1
   obtain ⟨k,hk,rfl,hR,hB⟩:=hrel
   by_cases hlt:k<t.funcs.length
   ·obtain ⟨b,off,rfl,hc⟩:=HFC.out o_
    obtain ⟨vp,vb,⟨d0,d1,d2⟩,hp,hb⟩:=(hc.below hB) k hlt
    have hok:=HFo.out _ (List.getElem_mem hlt)
    have HF:Hid (∀W,Bl wr W->Calls Tryz.prog 49 #[.agg #[.string t.funcs[k].name,vp,vb]] W fun e w'=>∃b N,e = .returned (.agg #[.map (some b),.int .i64 N,.int .i64 (frameSz t.funcs[k])])/\Bl W w'):=fun W hW=>(frameOf_any t.funcs[k] vp vb W (HT.out.below hsz (hB.trans (hW.mono hB.size))) (hp.below hW) (hb.below hW) hok.st hok.nd hok.pl (by have:=hok.bl;omega) hok.sz).mono (by rintro e w' ⟨b,rfl,h⟩;exact ⟨b,_,rfl,h⟩)
    have HN:Hid ((t.funcs.take (k+1)).map frameSz=(t.funcs.take k).map frameSz++[frameSz t.funcs[k]]):=by show _=_;rw [List.take_succ_eq_append_getElem hlt,List.map_append];rfl
    obtain ⟨ap,cp,rfl,-⟩:=hp
    obtain ⟨ab,cb,rfl,-⟩:=hb
    clear hc hok
    generalize frameSz t.funcs[k]=F at HF HN
    generalize t.funcs[k].params.length=lp at d1 HF
    generalize t.funcs[k].body.length=lb at d2 HF
    generalize t.funcs[k].name=nm at d0 HF
    have hll:((t.funcs.take k).map frameSz).length<=1000:=by simp;omega
    generalize (t.funcs.take k).map frameSz=l at hR HN hll
    obtain ⟨av,cv,rfl⟩:=hR.shape
    have hA : ∀o,Bl wr (wr.alloc o):=fun o=>(Below.refl _ _).alloc (Nat.le_refl _) o
    have HR:Hid (FRow w.heap.size wr (.slice av l.length cv) l):=hR
    clear hR
    go_wp2_with fail
    refine (HF.out _ (hA _)).mono ?_
    rintro e w2 ⟨bm,NN,rfl,hb2⟩
    have hb2':=(hA _).trans (hb2.mono (hA _).size)
    have hB2:Bl w w2:=hB.trans (hb2'.mono hB.size)
    have HR2:Hid (FRow w.heap.size (w2.alloc (.cells #[.int .i64 F] 2)) (.slice av l.length cv) l):=(HR.out.below hb2').below (bel_a _ _)
    have hz:(w2.alloc (.cells #[.int .i64 F] 2)).cell? ⟨w2.heap.size,0,none⟩=some (.int .i64 F):=by simp
    have hsz2:=hB2.size
    have hfd:=fld_size bm NN F
    clear hb2 hb2' HF d0 d1 d2 hA HR hB
    go_wp2_with (at_builtin;refine wpList_appI rfl _ _ rfl w.heap.size _ l F rfl HR2.out w2.heap.size 1 rfl hz o_ (by simp;omega) ?_)
    intro v3 w3 hr3 hg3
    have hB3:Bl w w3:=(hB2.alloc hsz2 _).grown hg3 (by simp;omega) (fun g hg=>(World.ownsRow.lt HR2.out g hg).1)
    rw [<-HN.out] at hr3
    have HR3:=hide hr3
    clear hr3 hg3 hz HR2 HN hB2 hfd
    go_wp2_with fail
    go_roundw
    case rel=>exact ⟨k+1,by omega,by go_num,HR3.out,hB3⟩
    case measure=>simp [RowKit.intOf];omega
   ·obtain rfl:k=t.funcs.length:=by omega
    rw [List.take_length,<-HRes.out] at hR
    obtain ⟨av,cv,rfl⟩:=hR.shape
    have HR:Hid (FRow w.heap.size wr (.slice av (framesL t).length cv) (framesL t)):=hR
    clear hR
    go_wp2_with fail
    go_ret
    exact ⟨_,rfl,HR.out,hB⟩
 ·have HRes:Hid (framesL t = []):=framesL_no hz
  rw [decide_eq_false hz]
  clear hz HOk
  go_wp2_with fail
  go_ret
  exact ⟨_,rfl,by rw [HRes.out];exact HR1.out,hB1⟩
end Go.Proofs.YtnpidjamplmgjaaGreatDoor
