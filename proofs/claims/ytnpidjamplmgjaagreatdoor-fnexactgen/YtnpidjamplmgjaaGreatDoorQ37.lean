import Derived.Test.YtnpidjamplmgjaaGreatDoorQ36
set_option linter.unusedSectionVars false
variable [Inhabited Go.Proofs.YtnpidjamplmgjaaGreatDoor.Pick]
namespace Go.Proofs.YtnpidjamplmgjaaGreatDoor
open Go.RowKit
set_option linter.unusedVariables false
set_option linter.unusedSimpArgs false
set_option maxRecDepth 100000
set_option maxHeartbeats 16000000
theorem exprS_kind (C:GC) (hC:C.Ok) (e:List Nd) (A:Nat) (b:Nat->Nat) (G:Nat->Cod) (hc0:Cut e A b) (hl1:e.length<=1048576) (hbd : ∀i,i<A->CB (kid e b i).length (G i)) (hX : ∀i,i<A->ExprS C (kid e b i) (G i)) (hkd:(rootN e).kind=1∨(rootN e).kind=2∨(rootN e).kind=3∨(rootN e).kind=4∨(rootN e).kind=5∨(rootN e).kind=6∨(rootN e).kind=7∨(rootN e).kind=8∨(rootN e).kind=9) :
  ExprS C e (genN C.E (rootN e) A G):=by
 intro v w its l d hN hG hd hdl hl0 hl2 hil
 have HC:=hide hC
 have HX:=hide hX
 have HBd:=hide hbd
 have hclen:=cut_len hc0
 have he:=hc0.len
 have HGd:Hid (nodeB (rootN e)=true):=hc0.root_good
 have HA:Hid (arity (rootN e)=A):=hc0.ar
 have HR:Hid (Calls Tryz.prog 90 #[v] w fun r w'=>r = .returned (.agg #[.int .i64 (rootN e).kind,.int .i64 (rootN e).val,.string (rootN e).name])/\Bl w w'):=by
  have:=root_any _ e w he hl1 (hN.below hG.bel)
  rw [<-rootN_eq e he] at this
  exact this
 have HK:=hide fun (W:World) (hW:Bl w W)=>kids_any C.w0 v e A b W hl1 hN (hG.bel.trans (hW.mono hG.bel.size)) hc0
 have HG:=hide hG
 clear hN hc0 hX hbd hG hC
 generalize hR:rootN e=R at HGd HA HR hkd ⊢
 clear hR
 obtain ⟨nk,nv,nm⟩:=R
 simp only at HR hkd
 have hba : ∀w1:World,Bl w w1->∀o,Bl w (w1.alloc o):=fun w1 h o=>h.alloc h.size o
 go_enter Tryz.func92,Tryz.ntmps92
 go_wp2_with fail
 refine HR.out.mono ?_
 rintro x w1 ⟨rfl,hb1⟩
 go_wp2_with fail
 refine (HK.out _ (hba _ hb1 _)).mono ?_
 rintro x W ⟨vk,rfl,hKd,hb2⟩
 have hbW:Bl w W:=(hba _ hb1 _).trans (hb2.mono (by have:=hb1.size;simp;omega))
 have g0:W.cell? ⟨w1.heap.size,0,none⟩=some (.int .i64 nk):=by rw [hb2.cell (by simp)];simp
 have g1:W.cell? ⟨w1.heap.size,1,none⟩=some (.int .i64 nv):=by rw [hb2.cell (by simp)];simp
 have g2:W.cell? ⟨w1.heap.size,2,none⟩=some (.string nm):=by rw [hb2.cell (by simp)];simp
 have hk1:w.heap.size<=w1.heap.size:=hb1.size
 have HKd:=hide hKd
 have HBW:=hide hbW
 have hsz1:w1.heap.size<=(w1.alloc (.cells #[.int .i64 nk,.int .i64 nv,.string nm] 151)).heap.size:=by simp
 generalize (w1.alloc (.cells #[.int .i64 nk,.int .i64 nv,.string nm] 151)).heap.size=N1 at HKd hsz1
 clear hba hb1 hb2 HR HK hKd hbW
 generalize w1.heap.size=K0 at g0 g1 g2 hk1 hsz1 ⊢
 have HG0:Hid ((W.cell? ⟨K0,0,none⟩=some (.int .i64 nk))/\(W.cell? ⟨K0,1,none⟩=some (.int .i64 nv))/\(W.cell? ⟨K0,2,none⟩=some (.string nm))):=⟨g0,g1,g2⟩
 clear g0 g1 g2
 go_wp2_with fail
 refine (regG_any d 30 W hd).mono ?_
 rintro x W2 ⟨rfl,hb3⟩
 have HB2:Hid (Bl w W2):=HBW.out.trans (hb3.mono HBW.out.size)
 have HG2:Hid (Gs C W2 its l):=HG.out.below HC.out HB2.out
 have HWw:Hid (∀ {new l' w'},Wd C W2 its new l' w'->Wd C w its new l' w'):=fun h=>h.pre (Wq.below HG.out.es.lt HB2.out)
 have HK2:Hid (Kids C.w0 W2 N1 vk e b A):=HKd.out.below hb3
 have HNe:Hid (∀k,w.heap.size<=k->k≠C.P/\some k≠rbq 6 W2 C.P):=fun k hk=>by
  have hp:=HG.out.es.lt
  refine ⟨by omega,fun h => ?_⟩
  rw [rbq_below HB2.out hp] at h
  have:=HG.out.es.rlt h.symm
  omega
 have HCl:Hid (∀w',Wq 6 C.P W2 w'->(w'.cell? ⟨K0,0,none⟩=some (.int .i64 nk))/\(w'.cell? ⟨K0,1,none⟩=some (.int .i64 nv))/\(w'.cell? ⟨K0,2,none⟩=some (.string nm))):=fun w' h=>by
  obtain ⟨a1,a2⟩:=HNe.out K0 hk1
  obtain ⟨c0,c1,c2⟩:=HG0.out
  have hlt:K0<W.heap.size:=World.block_lt_of_cell? _ _ c0
  exact ⟨h.cell a1 a2 ((hb3.cell (p:=⟨K0,0,none⟩) hlt).trans c0),h.cell a1 a2 ((hb3.cell (p:=⟨K0,1,none⟩) hlt).trans c1),h.cell a1 a2 ((hb3.cell (p:=⟨K0,2,none⟩) hlt).trans c2)⟩
 obtain ⟨vka,vkc,rfl,hAc,hAc2,hk3⟩:=HK2.out
 have HKc:Hid (0<A->∃B,vka=some ⟨B,0,none⟩/\∀i,i<A->∃vi,Nodes C.w0 vi (kid e b i)/\∀w',Wq 6 C.P W2 w'->w'.cell? ⟨B,i,none⟩=some vi):=fun h0=>by
  obtain ⟨B,rfl,hB1,hB2,hB3⟩:=hk3 h0
  obtain ⟨a1,a2⟩:=HNe.out B o_
  refine ⟨B,rfl,fun i hi => ?_⟩
  obtain ⟨vi,h5,h6⟩:=hB3 i hi
  exact ⟨vi,h6,fun w' h=>h.cell a1 a2 h5⟩
 clear hk3
 clear HNe HK2 HKd HG0 hb3 HBW HB2 hk1 hsz1
 obtain ⟨g0,g1,g2⟩:=HCl.out W2 (Wq.refl _ _ _)
 clear g1 g2
 rcases hkd with rfl | rfl | rfl | rfl | rfl | rfl | rfl | rfl | rfl
 ·as_aux_lemma=>
   have hnv : -2147483648<=nv/\nv<=2147483647:=by have:=HGd.out;simp [nodeB] at this;omega
   have HE:Hid (genN C.E ⟨1,nv,nm⟩ A G d l=(loadL (regI d 30) nv++writeL C.E d,l)):=by show _=_;simp [genN]
   obtain ⟨g0,g1,g2⟩:=HCl.out W2 (Wq.refl _ _ _)
   clear g2
   go_wp2_with fail
   refine (loadC C HC.out W2 its (l) HG2.out (regI d 30) nv o_ hnv).mono ?_
   rintro x w_1 ⟨⟨u_1,rfl⟩,hw_1⟩
   have HW_1:=hide hw_1
   clear hw_1
   go_wp2_with fail
   refine (writeC C HC.out _ _ _ HW_1.out.gs d (by obtain ⟨r_1,r_2,r_3,r_4⟩:=r_l C.E d;have r_5:=loadL_len (regI d 30) nv;(try simp only [l_a,l_c,l_n]);omega) o_ o_).mono ?_
   rintro x w_2 ⟨⟨u_2,rfl⟩,hw_2⟩
   have HW_2:=hide (HW_1.out.trans hw_2)
   clear hw_2
   go_wp2_with fail
   have HZ:=HWw.out HW_2.out
   refine bodyPost_end (v:=.tuple #[]) (by simp [results,Tryz.results92,go_sem]) rfl ⟨⟨_,rfl⟩,?_⟩
   rw [HE.out]
   simp only [List.append_assoc,List.cons_append,List.nil_append] at HZ ⊢
   exact HZ
 ·as_aux_lemma=>
   have HL:=localC C HC.out W2 its l HG2.out nm
   obtain ⟨g0,g1,g2⟩:=HCl.out W2 (Wq.refl _ _ _)
   clear g1
   go_wp2_with fail
   refine HL.mono ?_
   rintro x w0 ⟨rfl,hw0⟩
   rw [hw0]
   clear HL g0 g2 hw0
   cases hloc:locN C.ns nm with
   | some z=>
    have hz:locG C.ns nm=z/\0<=z:=locG_some hloc
    rw [hz.1]
    have HE:Hid (genN C.E ⟨2,nv,nm⟩ A G d l=([insI 10 (regI d 30) 2 0 z]++writeL C.E d,l)):=by show _=_;simp [genN,varL,GC.E,envG,hloc]
    have hz0:=hz.2
    clear hz
    go_wp2_with fail
    refine (putC C HC.out W2 its (l) HG2.out 10 (regI d 30) 2 0 z (by obtain ⟨r_1,r_2,r_3,r_4⟩:=r_l C.E d;(try simp only [l_a,l_c,l_n]);omega)).mono ?_
    rintro x w_1 ⟨⟨u_1,rfl⟩,hw_1⟩
    have HW_1:=hide hw_1
    clear hw_1
    go_wp2_with fail
    refine (writeC C HC.out _ _ _ HW_1.out.gs d (by obtain ⟨r_1,r_2,r_3,r_4⟩:=r_l C.E d;(try simp only [l_a,l_c,l_n]);omega) o_ o_).mono ?_
    rintro x w_2 ⟨⟨u_2,rfl⟩,hw_2⟩
    have HW_2:=hide (HW_1.out.trans hw_2)
    clear hw_2
    go_wp2_with fail
    have HZ:=HWw.out HW_2.out
    refine bodyPost_end (v:=.tuple #[]) (by simp [results,Tryz.results92,go_sem]) rfl ⟨⟨_,rfl⟩,?_⟩
    rw [HE.out]
    simp only [List.append_assoc,List.cons_append,List.nil_append] at HZ ⊢
    exact HZ
   | none=>
    have hz:locG C.ns nm = -1:=locG_no hloc
    rw [hz]
    have HE:Hid (genN C.E ⟨2,nv,nm⟩ A G d l=(loadL 31 (C.E.glob nm)++[insI 10 (regI d 30) 31 0 0]++writeL C.E d,l)):=by show _=_;simp [genN,varL,GC.E,envG,hloc]
    clear hz
    go_wp2_with fail
    obtain ⟨g0,g1,g2⟩:=HCl.out W2 (Wq.refl _ _ _)
    clear g0 g1
    obtain ⟨ag,cg,hvg,-⟩:=HC.out.g
    obtain ⟨af,cf,hvf,-⟩:=HC.out.f
    have p0:W2.cell? ⟨C.P,0,none⟩=some C.vg:=HG2.out.es.oth 0 (by decide) (by decide)
    have p1:W2.cell? ⟨C.P,1,none⟩=some C.vf:=HG2.out.es.oth 1 (by decide) (by decide)
    rw [hvg] at p0
    rw [hvf] at p1
    have HGl:Hid (Calls Tryz.prog 95 #[.agg #[.slice ag C.gs.length cg,.slice af C.fs.length cf],.string nm] W2.drew fun e w'=>e = .returned (.int .i64 (C.E.glob nm))/\Bl W2 w'/\w'.cell? ⟨C.P,0,none⟩=some (.slice ag C.gs.length cg)/\w'.cell? ⟨C.P,1,none⟩=some (.slice af C.fs.length cf)/\w'.cell? ⟨K0,2,none⟩=some (.string nm)):=by
     have hlt:=HG2.out.es.lt
     have hlk:=World.block_lt_of_cell? _ _ g2
     refine (globalC C HC.out W2.drew its (l) (HG2.out.below HC.out (Below.refl _ _).drew) nm _ _ hvg hvf).mono ?_
     rintro e w' ⟨he,hb⟩
     have hb':Bl W2 w':=(Below.refl _ _).drew.trans hb
     exact ⟨he,hb',(hb'.cell (p:=⟨C.P,0,none⟩) hlt).trans p0,(hb'.cell (p:=⟨C.P,1,none⟩) hlt).trans p1,(hb'.cell (p:=⟨K0,2,none⟩) hlk).trans g2⟩
    have hgb:=GC.glob_bd C HC.out nm
    have HLd:Hid (∀W,Bl W2 W->Calls Tryz.prog 94 #[.pointer (some ⟨C.P,0,none⟩),.int .i64 31,.int .i64 (C.E.glob nm)] W fun e w'=>(∃u,e = .returned u)/\Wd C W2 its (loadL 31 (C.E.glob nm)) (l) w'/\w'.cell? ⟨C.P,0,none⟩=some (.slice ag C.gs.length cg)/\w'.cell? ⟨C.P,1,none⟩=some (.slice af C.fs.length cf)/\w'.cell? ⟨K0,2,none⟩=some (.string nm)):=fun W hW=>by
     refine (loadC C HC.out W its (l) (HG2.out.below HC.out hW) 31 _ (by obtain ⟨r_1,r_2,r_3,r_4⟩:=r_l C.E d;have r_5:=loadL_len 31 (C.E.glob nm);(try simp only [l_a,l_c,l_n]);omega) o_).mono ?_
     rintro e w' ⟨hu,h2⟩
     have hwd:=h2.pre (Wq.below HG2.out.es.lt hW)
     have y0:w'.cell? ⟨C.P,0,none⟩=some C.vg:=hwd.gs.es.oth 0 (by decide) (by decide)
     have y1:w'.cell? ⟨C.P,1,none⟩=some C.vf:=hwd.gs.es.oth 1 (by decide) (by decide)
     rw [hvg] at y0
     rw [hvf] at y1
     exact ⟨hu,hwd,y0,y1,(HCl.out w' (Wq.trans (Wq.refl _ _ _) hwd.wq)).2.2⟩
    clear hvg hvf
    have q0:W2.drew.cell? ⟨C.P,0,none⟩=some (.slice ag C.gs.length cg):=p0
    have q1:W2.drew.cell? ⟨C.P,1,none⟩=some (.slice af C.fs.length cf):=p1
    have q2:W2.drew.cell? ⟨K0,2,none⟩=some (.string nm):=g2
    generalize hgz:C.E.glob nm=gz at HGl HLd hgb
    go_wp2_with fail
    go_region_held3 (fun W=>W.cell? ⟨C.P,0,none⟩=some (.slice ag C.gs.length cg)/\W.cell? ⟨C.P,1,none⟩=some (.slice af C.fs.length cf)/\W.cell? ⟨K0,2,none⟩=some (.string nm)) (go_simp) (first | (with_reducible refine Calls.mono HGl.out ?_;rintro x wg ⟨rfl,hbg,z0,z1,z2⟩) | (with_reducible refine Calls.mono (HLd.out wg hbg) ?_;rintro x wl ⟨⟨ul,rfl⟩,hwl,y0,y1,y2⟩))
    rw [<-hgz] at hwl
    have HW_1:=hide hwl
    clear hwl hbg p0 p1 q0 q1 q2 y0 y1 y2 z0 z1 z2 g2 HGl HLd
    go_wp2_with fail
    refine (putC C HC.out _ _ _ HW_1.out.gs 10 (regI d 30) 31 0 0 (by obtain ⟨r_1,r_2,r_3,r_4⟩:=r_l C.E d;have r_5:=loadL_len 31 (C.E.glob nm);(try simp only [l_a,l_c,l_n]);omega)).mono ?_
    rintro x w_2 ⟨⟨u_2,rfl⟩,hw_2⟩
    have HW_2:=hide (HW_1.out.trans hw_2)
    clear hw_2
    go_wp2_with fail
    refine (writeC C HC.out _ _ _ HW_2.out.gs d (by obtain ⟨r_1,r_2,r_3,r_4⟩:=r_l C.E d;have r_5:=loadL_len 31 (C.E.glob nm);(try simp only [l_a,l_c,l_n]);omega) o_ o_).mono ?_
    rintro x w_3 ⟨⟨u_3,rfl⟩,hw_3⟩
    have HW_3:=hide (HW_2.out.trans hw_3)
    clear hw_3
    go_wp2_with fail
    have HZ:=HWw.out HW_3.out
    refine bodyPost_end (v:=.tuple #[]) (by simp [results,Tryz.results92,go_sem]) rfl ⟨⟨_,rfl⟩,?_⟩
    rw [HE.out]
    simp only [List.append_assoc,List.cons_append,List.nil_append] at HZ ⊢
    exact HZ
 ·as_aux_lemma=>
   have hA1:A=1:=by have:=HA.out;simp [arity] at this;omega
   subst hA1
   rw [joinF_one] at hclen
   obtain ⟨B,rfl,hkc⟩:=HKc.out o_
   obtain ⟨v0,n0,hk0⟩:=hkc 0 o_
   obtain ⟨q0a,q0b,q0c⟩:=HBd.out 0 o_ (d) (l)
   obtain ⟨c0,m0,hG0⟩ : ∃c m,G 0 (d) (l)=(c,m):=⟨_,_,rfl⟩
   rw [hG0] at q0a q0b q0c
   simp only at q0a q0b q0c
   have HC0:Hid (∀(W:World) (its':List It),Gs C W its' (l)->its'.length+24*(kid e b 0).length<=8000000->Calls Tryz.prog 92 #[.pointer (some ⟨C.P,0,none⟩),v0,.int .i64 (d)] W fun x w'=>(∃u,x = .returned u)/\Wd C W its' c0 m0 w'):=fun W its' hg hln=>by
     have:=HX.out 0 o_ v0 W its' (l) (d) n0 hg o_ o_ o_ o_ hln
     rw [hG0] at this
     exact this
   have HE:Hid (genN C.E ⟨3,nv,nm⟩ 1 G d l=(c0++readL C.E d 30++[insI 18 (regI d 30) (regI d 30) 0 2]++loadL 31 (C.E.glob nm)++[insI 21 31 31 (regI d 30) 0,insI 10 (regI d 30) 31 0 0]++writeL C.E d,m0)):=by show _=_;simp [genN,hG0]
   have k0:=hk0 W2 (Wq.refl _ _ _)
   go_wp2_with fail
   refine (HC0.out W2 its HG2.out (by obtain ⟨r_1,r_2,r_3,r_4⟩:=r_l C.E d;have r_5:=loadL_len 31 (C.E.glob nm);(try simp only [l_a,l_c,l_n]);omega)).mono ?_
   rintro x w_1 ⟨⟨u_1,rfl⟩,hw_1⟩
   have HW_1:=hide hw_1
   clear hw_1
   go_wp2_with fail
   refine (readC C HC.out _ _ _ HW_1.out.gs (d) 30 (by obtain ⟨r_1,r_2,r_3,r_4⟩:=r_l C.E d;have r_5:=loadL_len 31 (C.E.glob nm);(try simp only [l_a,l_c,l_n]);omega) o_ o_).mono ?_
   rintro x w_2 ⟨rfl,hw_2⟩
   have HW_2:Hid (Wd C W2 its (c0++readL C.E (d) 30) (m0) w_2):=HW_1.out.trans hw_2
   clear hw_2
   go_wp2_with fail
   refine (putC C HC.out _ _ _ HW_2.out.gs 18 (regI d 30) (regI d 30) 0 2 (by obtain ⟨r_1,r_2,r_3,r_4⟩:=r_l C.E d;have r_5:=loadL_len 31 (C.E.glob nm);(try simp only [l_a,l_c,l_n]);omega)).mono ?_
   rintro x w_3 ⟨⟨u_3,rfl⟩,hw_3⟩
   have HW_3:=hide (HW_2.out.trans hw_3)
   clear hw_3
   obtain ⟨g0,g1,g2⟩:=HCl.out w_3 HW_3.out.wq
   clear g0 g1
   obtain ⟨ag,cg,hvg,-⟩:=HC.out.g
   obtain ⟨af,cf,hvf,-⟩:=HC.out.f
   have p0:w_3.cell? ⟨C.P,0,none⟩=some C.vg:=HW_3.out.gs.es.oth 0 (by decide) (by decide)
   have p1:w_3.cell? ⟨C.P,1,none⟩=some C.vf:=HW_3.out.gs.es.oth 1 (by decide) (by decide)
   rw [hvg] at p0
   rw [hvf] at p1
   have HGl:Hid (Calls Tryz.prog 95 #[.agg #[.slice ag C.gs.length cg,.slice af C.fs.length cf],.string nm] w_3.drew fun e w'=>e = .returned (.int .i64 (C.E.glob nm))/\Bl w_3 w'/\w'.cell? ⟨C.P,0,none⟩=some (.slice ag C.gs.length cg)/\w'.cell? ⟨C.P,1,none⟩=some (.slice af C.fs.length cf)/\w'.cell? ⟨K0,2,none⟩=some (.string nm)):=by
     have hlt:=HW_3.out.gs.es.lt
     have hlk:=World.block_lt_of_cell? _ _ g2
     refine (globalC C HC.out w_3.drew (its++(c0++readL C.E (d) 30++[insI 18 (regI d 30) (regI d 30) 0 2])) (m0) (HW_3.out.gs.below HC.out (Below.refl _ _).drew) nm _ _ hvg hvf).mono ?_
     rintro e w' ⟨he,hb⟩
     have hb':Bl w_3 w':=(Below.refl _ _).drew.trans hb
     exact ⟨he,hb',(hb'.cell (p:=⟨C.P,0,none⟩) hlt).trans p0,(hb'.cell (p:=⟨C.P,1,none⟩) hlt).trans p1,(hb'.cell (p:=⟨K0,2,none⟩) hlk).trans g2⟩
   have hgb:=GC.glob_bd C HC.out nm
   have HLd:Hid (∀W,Bl w_3 W->Calls Tryz.prog 94 #[.pointer (some ⟨C.P,0,none⟩),.int .i64 31,.int .i64 (C.E.glob nm)] W fun e w'=>(∃u,e = .returned u)/\Wd C w_3 (its++(c0++readL C.E (d) 30++[insI 18 (regI d 30) (regI d 30) 0 2])) (loadL 31 (C.E.glob nm)) (m0) w'/\w'.cell? ⟨C.P,0,none⟩=some (.slice ag C.gs.length cg)/\w'.cell? ⟨C.P,1,none⟩=some (.slice af C.fs.length cf)/\w'.cell? ⟨K0,2,none⟩=some (.string nm)):=fun W hW=>by
     refine (loadC C HC.out W (its++(c0++readL C.E (d) 30++[insI 18 (regI d 30) (regI d 30) 0 2])) (m0) (HW_3.out.gs.below HC.out hW) 31 _ (by obtain ⟨r_1,r_2,r_3,r_4⟩:=r_l C.E d;have r_5:=loadL_len 31 (C.E.glob nm);(try simp only [l_a,l_c,l_n]);omega) o_).mono ?_
     rintro e w' ⟨hu,h2⟩
     have hwd:=h2.pre (Wq.below HW_3.out.gs.es.lt hW)
     have y0:w'.cell? ⟨C.P,0,none⟩=some C.vg:=hwd.gs.es.oth 0 (by decide) (by decide)
     have y1:w'.cell? ⟨C.P,1,none⟩=some C.vf:=hwd.gs.es.oth 1 (by decide) (by decide)
     rw [hvg] at y0
     rw [hvf] at y1
     exact ⟨hu,hwd,y0,y1,(HCl.out w' (Wq.trans HW_3.out.wq hwd.wq)).2.2⟩
   clear hvg hvf
   have q0:w_3.drew.cell? ⟨C.P,0,none⟩=some (.slice ag C.gs.length cg):=p0
   have q1:w_3.drew.cell? ⟨C.P,1,none⟩=some (.slice af C.fs.length cf):=p1
   have q2:w_3.drew.cell? ⟨K0,2,none⟩=some (.string nm):=g2
   generalize hgz:C.E.glob nm=gz at HGl HLd hgb
   go_wp2_with fail
   go_region_held3 (fun W=>W.cell? ⟨C.P,0,none⟩=some (.slice ag C.gs.length cg)/\W.cell? ⟨C.P,1,none⟩=some (.slice af C.fs.length cf)/\W.cell? ⟨K0,2,none⟩=some (.string nm)) (go_simp) (first | (with_reducible refine Calls.mono HGl.out ?_;rintro x wg ⟨rfl,hbg,z0,z1,z2⟩) | (with_reducible refine Calls.mono (HLd.out wg hbg) ?_;rintro x wl ⟨⟨ul,rfl⟩,hwl,y0,y1,y2⟩))
   rw [<-hgz] at hwl
   have HW_4:=hide (HW_3.out.trans hwl)
   clear hwl hbg p0 p1 q0 q1 q2 y0 y1 y2 z0 z1 z2 g2 HGl HLd
   go_wp2_with fail
   refine (putC C HC.out _ _ _ HW_4.out.gs 21 31 31 (regI d 30) 0 (by obtain ⟨r_1,r_2,r_3,r_4⟩:=r_l C.E d;have r_5:=loadL_len 31 (C.E.glob nm);(try simp only [l_a,l_c,l_n]);omega)).mono ?_
   rintro x w_5 ⟨⟨u_5,rfl⟩,hw_5⟩
   have HW_5:=hide (HW_4.out.trans hw_5)
   clear hw_5
   go_wp2_with fail
   refine (putC C HC.out _ _ _ HW_5.out.gs 10 (regI d 30) 31 0 0 (by obtain ⟨r_1,r_2,r_3,r_4⟩:=r_l C.E d;have r_5:=loadL_len 31 (C.E.glob nm);(try simp only [l_a,l_c,l_n]);omega)).mono ?_
   rintro x w_6 ⟨⟨u_6,rfl⟩,hw_6⟩
   have HW_6:=hide (HW_5.out.trans hw_6)
   clear hw_6
   go_wp2_with fail
   refine (writeC C HC.out _ _ _ HW_6.out.gs d (by obtain ⟨r_1,r_2,r_3,r_4⟩:=r_l C.E d;have r_5:=loadL_len 31 (C.E.glob nm);(try simp only [l_a,l_c,l_n]);omega) o_ o_).mono ?_
   rintro x w_7 ⟨⟨u_7,rfl⟩,hw_7⟩
   have HW_7:=hide (HW_6.out.trans hw_7)
   clear hw_7
   go_wp2_with fail
   have HZ:=HWw.out HW_7.out
   refine bodyPost_end (v:=.tuple #[]) (by simp [results,Tryz.results92,go_sem]) rfl ⟨⟨_,rfl⟩,?_⟩
   rw [HE.out]
   simp only [List.append_assoc,List.cons_append,List.nil_append] at HZ ⊢
   exact HZ
 ·as_aux_lemma=>
   have hA6:A<=6:=by have:=(arity_good HGd.out).2;have:=HA.out;omega
   have HE:Hid (genN C.E ⟨4,nv,nm⟩ A G d l=callC C.E nm G A d l):=by show _=_;simp [genN]
   have HCa:Hid (Calls Tryz.prog 121 #[.pointer (some ⟨C.P,0,none⟩),.string nm,.slice vka A vkc,.int .i64 d] W2 fun x w'=>(∃u,x = .returned u)/\Wd C W2 its (callC C.E nm G A d l).1 (callC C.E nm G A d l).2 w'):=by
    by_cases h5:d<=5
    ·exact callS_two C HC.out nm A (kid e b) G vka vkc W2 its l d hA6 hAc hAc2 HG2.out HKc.out HX.out HBd.out hd o_ hl0 o_ o_ (.inl h5)
    ·exact callS_two C HC.out nm A (kid e b) G vka vkc W2 its l d hA6 hAc hAc2 HG2.out HKc.out HX.out HBd.out hd o_ hl0 o_ o_ (.inr o_)
   generalize callC C.E nm G A d l=cc at HCa HE
   obtain ⟨g0,g1,g2⟩:=HCl.out W2 (Wq.refl _ _ _)
   clear g1
   go_wp2_with fail
   refine HCa.out.mono ?_
   rintro x w_1 ⟨⟨u_1,rfl⟩,hw_1⟩
   have HW_1:=hide hw_1
   clear hw_1 g0 g2
   go_wp2_with fail
   have HZ:=HWw.out HW_1.out
   refine bodyPost_end (v:=.tuple #[]) (by simp [results,Tryz.results92,go_sem]) rfl ⟨⟨_,rfl⟩,?_⟩
   rw [HE.out]
   exact HZ
 ·as_aux_lemma=>
   have HE:Hid (genN C.E ⟨5,nv,nm⟩ A G d l=([insI 12 17 0 0 2,insI 34 0 0 0 0]++answerL C.E d,l)):=by show _=_;simp [genN]
   go_wp2_with fail
   refine (putC C HC.out W2 its (l) HG2.out 12 17 0 0 2 (by obtain ⟨r_1,r_2,r_3,r_4⟩:=r_l C.E d;(try simp only [l_a,l_c,l_n]);omega)).mono ?_
   rintro x w_1 ⟨⟨u_1,rfl⟩,hw_1⟩
   have HW_1:=hide hw_1
   clear hw_1
   go_wp2_with fail
   refine (putC C HC.out _ _ _ HW_1.out.gs 34 0 0 0 0 (by obtain ⟨r_1,r_2,r_3,r_4⟩:=r_l C.E d;(try simp only [l_a,l_c,l_n]);omega)).mono ?_
   rintro x w_2 ⟨⟨u_2,rfl⟩,hw_2⟩
   have HW_2:=hide (HW_1.out.trans hw_2)
   clear hw_2
   go_wp2_with fail
   refine (answerC C HC.out _ _ _ HW_2.out.gs d (by obtain ⟨r_1,r_2,r_3,r_4⟩:=r_l C.E d;(try simp only [l_a,l_c,l_n]);omega) o_ o_).mono ?_
   rintro x w_3 ⟨⟨u_3,rfl⟩,hw_3⟩
   have HW_3:=hide (HW_2.out.trans hw_3)
   clear hw_3
   go_wp2_with fail
   have HZ:=HWw.out HW_3.out
   refine bodyPost_end (v:=.tuple #[]) (by simp [results,Tryz.results92,go_sem]) rfl ⟨⟨_,rfl⟩,?_⟩
   rw [HE.out]
   simp only [List.append_assoc,List.cons_append,List.nil_append] at HZ ⊢
   exact HZ
 ·as_aux_lemma=>
   have hA1:A=1:=by have:=HA.out;simp [arity] at this;omega
   subst hA1
   rw [joinF_one] at hclen
   obtain ⟨B,rfl,hkc⟩:=HKc.out o_
   obtain ⟨v0,n0,hk0⟩:=hkc 0 o_
   obtain ⟨q0a,q0b,q0c⟩:=HBd.out 0 o_ (d) (l)
   obtain ⟨c0,m0,hG0⟩ : ∃c m,G 0 (d) (l)=(c,m):=⟨_,_,rfl⟩
   rw [hG0] at q0a q0b q0c
   simp only at q0a q0b q0c
   have HC0:Hid (∀(W:World) (its':List It),Gs C W its' (l)->its'.length+24*(kid e b 0).length<=8000000->Calls Tryz.prog 92 #[.pointer (some ⟨C.P,0,none⟩),v0,.int .i64 (d)] W fun x w'=>(∃u,x = .returned u)/\Wd C W its' c0 m0 w'):=fun W its' hg hln=>by
     have:=HX.out 0 o_ v0 W its' (l) (d) n0 hg o_ o_ o_ o_ hln
     rw [hG0] at this
     exact this
   have HE:Hid (genN C.E ⟨6,nv,nm⟩ 1 G d l=(c0++readL C.E d 30++unL nv (regI d 30) (regI d 30)++writeL C.E d,m0)):=by show _=_;simp [genN,hG0]
   have hnv:nv=0∨nv=1∨nv=2:=by have:=HGd.out;simp [nodeB] at this;omega
   have k0:=hk0 W2 (Wq.refl _ _ _)
   go_wp2_with fail
   refine (HC0.out W2 its HG2.out (by obtain ⟨r_1,r_2,r_3,r_4⟩:=r_l C.E d;(try simp only [l_a,l_c,l_n]);omega)).mono ?_
   rintro x w_1 ⟨⟨u_1,rfl⟩,hw_1⟩
   have HW_1:=hide hw_1
   clear hw_1
   go_wp2_with fail
   refine (readC C HC.out _ _ _ HW_1.out.gs (d) 30 (by obtain ⟨r_1,r_2,r_3,r_4⟩:=r_l C.E d;(try simp only [l_a,l_c,l_n]);omega) o_ o_).mono ?_
   rintro x w_2 ⟨rfl,hw_2⟩
   have HW_2:Hid (Wd C W2 its (c0++readL C.E (d) 30) (m0) w_2):=HW_1.out.trans hw_2
   clear hw_2
   rcases hnv with rfl | rfl | rfl
   ·have HU:Hid (unL 0 (regI d 30) (regI d 30) = [insI 22 (regI d 30) 0 (regI d 30) 0]):=rfl
    rw [HU.out] at HE
    obtain ⟨g0,g1,g2⟩:=HCl.out w_2 HW_2.out.wq
    clear g0
    clear g2
    go_wp2_with fail
    refine (putC C HC.out _ _ _ HW_2.out.gs 22 (regI d 30) 0 (regI d 30) 0 (by obtain ⟨r_1,r_2,r_3,r_4⟩:=r_l C.E d;(try simp only [l_a,l_c,l_n]);omega)).mono ?_
    rintro x w_3 ⟨⟨u_3,rfl⟩,hw_3⟩
    have HW_3:=hide (HW_2.out.trans hw_3)
    clear hw_3
    go_wp2_with fail
    refine (writeC C HC.out _ _ _ HW_3.out.gs d (by obtain ⟨r_1,r_2,r_3,r_4⟩:=r_l C.E d;(try simp only [l_a,l_c,l_n]);omega) o_ o_).mono ?_
    rintro x w_4 ⟨⟨u_4,rfl⟩,hw_4⟩
    have HW_4:=hide (HW_3.out.trans hw_4)
    clear hw_4
    go_wp2_with fail
    have HZ:=HWw.out HW_4.out
    refine bodyPost_end (v:=.tuple #[]) (by simp [results,Tryz.results92,go_sem]) rfl ⟨⟨_,rfl⟩,?_⟩
    rw [HE.out]
    simp only [List.append_assoc,List.cons_append,List.nil_append] at HZ ⊢
    exact HZ
   ·have HU:Hid (unL 1 (regI d 30) (regI d 30) = [insI 14 (regI d 30) (regI d 30) 0 1]):=rfl
    rw [HU.out] at HE
    obtain ⟨g0,g1,g2⟩:=HCl.out w_2 HW_2.out.wq
    clear g0
    clear g2
    go_wp2_with fail
    refine (putC C HC.out _ _ _ HW_2.out.gs 14 (regI d 30) (regI d 30) 0 1 (by obtain ⟨r_1,r_2,r_3,r_4⟩:=r_l C.E d;(try simp only [l_a,l_c,l_n]);omega)).mono ?_
    rintro x w_3 ⟨⟨u_3,rfl⟩,hw_3⟩
    have HW_3:=hide (HW_2.out.trans hw_3)
    clear hw_3
    go_wp2_with fail
    refine (writeC C HC.out _ _ _ HW_3.out.gs d (by obtain ⟨r_1,r_2,r_3,r_4⟩:=r_l C.E d;(try simp only [l_a,l_c,l_n]);omega) o_ o_).mono ?_
    rintro x w_4 ⟨⟨u_4,rfl⟩,hw_4⟩
    have HW_4:=hide (HW_3.out.trans hw_4)
    clear hw_4
    go_wp2_with fail
    have HZ:=HWw.out HW_4.out
    refine bodyPost_end (v:=.tuple #[]) (by simp [results,Tryz.results92,go_sem]) rfl ⟨⟨_,rfl⟩,?_⟩
    rw [HE.out]
    simp only [List.append_assoc,List.cons_append,List.nil_append] at HZ ⊢
    exact HZ
   ·have HU:Hid (unL 2 (regI d 30) (regI d 30) = [insI 15 (regI d 30) (regI d 30) 0 (-1)]):=rfl
    rw [HU.out] at HE
    obtain ⟨g0,g1,g2⟩:=HCl.out w_2 HW_2.out.wq
    clear g0
    clear g2
    go_wp2_with fail
    refine (putC C HC.out _ _ _ HW_2.out.gs 15 (regI d 30) (regI d 30) 0 (-1) (by obtain ⟨r_1,r_2,r_3,r_4⟩:=r_l C.E d;(try simp only [l_a,l_c,l_n]);omega)).mono ?_
    rintro x w_3 ⟨⟨u_3,rfl⟩,hw_3⟩
    have HW_3:=hide (HW_2.out.trans hw_3)
    clear hw_3
    go_wp2_with fail
    refine (writeC C HC.out _ _ _ HW_3.out.gs d (by obtain ⟨r_1,r_2,r_3,r_4⟩:=r_l C.E d;(try simp only [l_a,l_c,l_n]);omega) o_ o_).mono ?_
    rintro x w_4 ⟨⟨u_4,rfl⟩,hw_4⟩
    have HW_4:=hide (HW_3.out.trans hw_4)
    clear hw_4
    go_wp2_with fail
    have HZ:=HWw.out HW_4.out
    refine bodyPost_end (v:=.tuple #[]) (by simp [results,Tryz.results92,go_sem]) rfl ⟨⟨_,rfl⟩,?_⟩
    rw [HE.out]
    simp only [List.append_assoc,List.cons_append,List.nil_append] at HZ ⊢
    exact HZ
 ·as_aux_lemma=>
   have hA2:A=2:=by have:=HA.out;simp [arity] at this;omega
   subst hA2
   rw [joinF_two] at hclen
   obtain ⟨B,rfl,hkc⟩:=HKc.out o_
   obtain ⟨v0,n0,hk0⟩:=hkc 0 o_
   obtain ⟨v1,n1,hk1⟩:=hkc 1 o_
   obtain ⟨q0a,q0b,q0c⟩:=HBd.out 0 o_ (d) (l)
   obtain ⟨c0,m0,hG0⟩ : ∃c m,G 0 (d) (l)=(c,m):=⟨_,_,rfl⟩
   rw [hG0] at q0a q0b q0c
   simp only at q0a q0b q0c
   have HC0:Hid (∀(W:World) (its':List It),Gs C W its' (l)->its'.length+24*(kid e b 0).length<=8000000->Calls Tryz.prog 92 #[.pointer (some ⟨C.P,0,none⟩),v0,.int .i64 (d)] W fun x w'=>(∃u,x = .returned u)/\Wd C W its' c0 m0 w'):=fun W its' hg hln=>by
     have:=HX.out 0 o_ v0 W its' (l) (d) n0 hg o_ o_ o_ o_ hln
     rw [hG0] at this
     exact this
   obtain ⟨q1a,q1b,q1c⟩:=HBd.out 1 o_ (d+1) (m0)
   obtain ⟨c1,m1,hG1⟩ : ∃c m,G 1 (d+1) (m0)=(c,m):=⟨_,_,rfl⟩
   rw [hG1] at q1a q1b q1c
   simp only at q1a q1b q1c
   have HC1:Hid (∀(W:World) (its':List It),Gs C W its' (m0)->its'.length+24*(kid e b 1).length<=8000000->Calls Tryz.prog 92 #[.pointer (some ⟨C.P,0,none⟩),v1,.int .i64 (d+1)] W fun x w'=>(∃u,x = .returned u)/\Wd C W its' c1 m1 w'):=fun W its' hg hln=>by
     have:=HX.out 1 o_ v1 W its' (m0) (d+1) n1 hg o_ o_ o_ o_ hln
     rw [hG1] at this
     exact this
   have HE:Hid (genN C.E ⟨7,nv,nm⟩ 2 G d l=(c0++c1++readL C.E d 30++readL C.E (d+1) 31++binL nv (regI d 30) (regI d 30) (regI (d+1) 31)++writeL C.E d,m1)):=by show _=_;simp [genN,hG0,hG1]
   have hnv:0<=nv/\nv<=15:=by have:=HGd.out;simp [nodeB] at this;omega
   have hwd:IntKind.i64.wrap (d+1)=d+1:=by simp [IntKind.wrap,IntKind.bits,IntKind.signed];omega
   have k0:=hk0 W2 (Wq.refl _ _ _)
   go_wp2_with fail
   refine (HC0.out W2 its HG2.out (by obtain ⟨r_1,r_2,r_3,r_4⟩:=r_l C.E d;have r_5:=binL_len nv (regI d 30) (regI d 30) (regI (d+1) 31);(try simp only [l_a,l_c,l_n]);omega)).mono ?_
   rintro x w_1 ⟨⟨u_1,rfl⟩,hw_1⟩
   have HW_1:=hide hw_1
   clear hw_1
   have k1:=hk1 w_1 HW_1.out.wq
   go_wp2_with fail
   refine (HC1.out _ _ HW_1.out.gs (by obtain ⟨r_1,r_2,r_3,r_4⟩:=r_l C.E d;have r_5:=binL_len nv (regI d 30) (regI d 30) (regI (d+1) 31);(try simp only [l_a,l_c,l_n]);omega)).mono ?_
   rintro x w_2 ⟨⟨u_2,rfl⟩,hw_2⟩
   have HW_2:Hid (Wd C W2 its (c0++c1) (m1) w_2):=HW_1.out.trans hw_2
   clear hw_2
   go_wp2_with fail
   refine (readC C HC.out _ _ _ HW_2.out.gs (d) 30 (by obtain ⟨r_1,r_2,r_3,r_4⟩:=r_l C.E d;have r_5:=binL_len nv (regI d 30) (regI d 30) (regI (d+1) 31);(try simp only [l_a,l_c,l_n]);omega) o_ o_).mono ?_
   rintro x w_3 ⟨rfl,hw_3⟩
   have HW_3:=hide (HW_2.out.trans hw_3)
   clear hw_3
   go_wp2_with fail
   refine (readC C HC.out _ _ _ HW_3.out.gs (d+1) 31 (by obtain ⟨r_1,r_2,r_3,r_4⟩:=r_l C.E d;have r_5:=binL_len nv (regI d 30) (regI d 30) (regI (d+1) 31);(try simp only [l_a,l_c,l_n]);omega) o_ o_).mono ?_
   rintro x w_4 ⟨rfl,hw_4⟩
   have HW_4:=hide (HW_3.out.trans hw_4)
   clear hw_4
   obtain ⟨g0,g1,g2⟩:=HCl.out w_4 HW_4.out.wq
   clear g0
   clear g2
   go_wp2_with fail
   refine (binC C HC.out _ _ _ HW_4.out.gs nv (regI d 30) (regI d 30) (regI (d+1) 31) (by obtain ⟨r_1,r_2,r_3,r_4⟩:=r_l C.E d;have r_5:=binL_len nv (regI d 30) (regI d 30) (regI (d+1) 31);(try simp only [l_a,l_c,l_n]);omega) hnv.1 hnv.2).mono ?_
   rintro x w_5 ⟨⟨u_5,rfl⟩,hw_5⟩
   have HW_5:=hide (HW_4.out.trans hw_5)
   clear hw_5
   go_wp2_with fail
   refine (writeC C HC.out _ _ _ HW_5.out.gs d (by obtain ⟨r_1,r_2,r_3,r_4⟩:=r_l C.E d;have r_5:=binL_len nv (regI d 30) (regI d 30) (regI (d+1) 31);(try simp only [l_a,l_c,l_n]);omega) o_ o_).mono ?_
   rintro x w_6 ⟨⟨u_6,rfl⟩,hw_6⟩
   have HW_6:=hide (HW_5.out.trans hw_6)
   clear hw_6
   go_wp2_with fail
   have HZ:=HWw.out HW_6.out
   refine bodyPost_end (v:=.tuple #[]) (by simp [results,Tryz.results92,go_sem]) rfl ⟨⟨_,rfl⟩,?_⟩
   rw [HE.out]
   simp only [List.append_assoc,List.cons_append,List.nil_append] at HZ ⊢
   exact HZ
 ·as_aux_lemma=>
   have hA2:A=2:=by have:=HA.out;simp [arity] at this;omega
   subst hA2
   rw [joinF_two] at hclen
   obtain ⟨B,rfl,hkc⟩:=HKc.out o_
   obtain ⟨v0,n0,hk0⟩:=hkc 0 o_
   obtain ⟨v1,n1,hk1⟩:=hkc 1 o_
   obtain ⟨q0a,q0b,q0c⟩:=HBd.out 0 o_ (d) (l+1)
   obtain ⟨c0,m0,hG0⟩ : ∃c m,G 0 (d) (l+1)=(c,m):=⟨_,_,rfl⟩
   rw [hG0] at q0a q0b q0c
   simp only at q0a q0b q0c
   have HC0:Hid (∀(W:World) (its':List It),Gs C W its' (l+1)->its'.length+24*(kid e b 0).length<=8000000->Calls Tryz.prog 92 #[.pointer (some ⟨C.P,0,none⟩),v0,.int .i64 (d)] W fun x w'=>(∃u,x = .returned u)/\Wd C W its' c0 m0 w'):=fun W its' hg hln=>by
     have:=HX.out 0 o_ v0 W its' (l+1) (d) n0 hg o_ o_ o_ o_ hln
     rw [hG0] at this
     exact this
   obtain ⟨q1a,q1b,q1c⟩:=HBd.out 1 o_ (d) (m0)
   obtain ⟨c1,m1,hG1⟩ : ∃c m,G 1 (d) (m0)=(c,m):=⟨_,_,rfl⟩
   rw [hG1] at q1a q1b q1c
   simp only at q1a q1b q1c
   have HC1:Hid (∀(W:World) (its':List It),Gs C W its' (m0)->its'.length+24*(kid e b 1).length<=8000000->Calls Tryz.prog 92 #[.pointer (some ⟨C.P,0,none⟩),v1,.int .i64 (d)] W fun x w'=>(∃u,x = .returned u)/\Wd C W its' c1 m1 w'):=fun W its' hg hln=>by
     have:=HX.out 1 o_ v1 W its' (m0) (d) n1 hg o_ o_ o_ o_ hln
     rw [hG1] at this
     exact this
   have HE:Hid (genN C.E ⟨8,nv,nm⟩ 2 G d l=(c0++readL C.E d 30++[branI 4 (regI d 30) l]++c1++[markI 2 l]++readL C.E d 30++[insI 25 (regI d 30) 0 (regI d 30) 0]++writeL C.E d,m1)):=by show _=_;simp [genN,choiceC,hG0,hG1]
   go_wp2_with fail
   refine (labC C HC.out W2 its (l) HG2.out o_).mono ?_
   rintro x w_1 ⟨rfl,hw_1⟩
   have HW_1:=hide hw_1
   clear hw_1
   have k0:=hk0 w_1 HW_1.out.wq
   go_wp2_with fail
   refine (HC0.out _ _ HW_1.out.gs (by obtain ⟨r_1,r_2,r_3,r_4⟩:=r_l C.E d;(try simp only [l_a,l_c,l_n]);omega)).mono ?_
   rintro x w_2 ⟨⟨u_2,rfl⟩,hw_2⟩
   have HW_2:Hid (Wd C W2 its ([]++c0) (m0) w_2):=HW_1.out.trans hw_2
   clear hw_2
   go_wp2_with fail
   refine (readC C HC.out _ _ _ HW_2.out.gs (d) 30 (by obtain ⟨r_1,r_2,r_3,r_4⟩:=r_l C.E d;(try simp only [l_a,l_c,l_n]);omega) o_ o_).mono ?_
   rintro x w_3 ⟨rfl,hw_3⟩
   have HW_3:=hide (HW_2.out.trans hw_3)
   clear hw_3
   obtain ⟨g0,g1,g2⟩:=HCl.out w_3 HW_3.out.wq
   clear g1
   clear g2
   go_wp2_with fail
   refine (branC C HC.out _ _ _ HW_3.out.gs 4 (regI d 30) l (by obtain ⟨r_1,r_2,r_3,r_4⟩:=r_l C.E d;(try simp only [l_a,l_c,l_n]);omega)).mono ?_
   rintro x w_4 ⟨⟨u_4,rfl⟩,hw_4⟩
   have HW_4:=hide (HW_3.out.trans hw_4)
   clear hw_4
   have k1:=hk1 w_4 HW_4.out.wq
   go_wp2_with fail
   refine (HC1.out _ _ HW_4.out.gs (by obtain ⟨r_1,r_2,r_3,r_4⟩:=r_l C.E d;(try simp only [l_a,l_c,l_n]);omega)).mono ?_
   rintro x w_5 ⟨⟨u_5,rfl⟩,hw_5⟩
   have HW_5:=hide (HW_4.out.trans hw_5)
   clear hw_5
   go_wp2_with fail
   refine (markC C HC.out _ _ _ HW_5.out.gs 2 l (by obtain ⟨r_1,r_2,r_3,r_4⟩:=r_l C.E d;(try simp only [l_a,l_c,l_n]);omega)).mono ?_
   rintro x w_6 ⟨⟨u_6,rfl⟩,hw_6⟩
   have HW_6:=hide (HW_5.out.trans hw_6)
   clear hw_6
   go_wp2_with fail
   refine (readC C HC.out _ _ _ HW_6.out.gs (d) 30 (by obtain ⟨r_1,r_2,r_3,r_4⟩:=r_l C.E d;(try simp only [l_a,l_c,l_n]);omega) o_ o_).mono ?_
   rintro x w_7 ⟨rfl,hw_7⟩
   have HW_7:=hide (HW_6.out.trans hw_7)
   clear hw_7
   go_wp2_with fail
   refine (putC C HC.out _ _ _ HW_7.out.gs 25 (regI d 30) 0 (regI d 30) 0 (by obtain ⟨r_1,r_2,r_3,r_4⟩:=r_l C.E d;(try simp only [l_a,l_c,l_n]);omega)).mono ?_
   rintro x w_8 ⟨⟨u_8,rfl⟩,hw_8⟩
   have HW_8:=hide (HW_7.out.trans hw_8)
   clear hw_8
   go_wp2_with fail
   refine (writeC C HC.out _ _ _ HW_8.out.gs d (by obtain ⟨r_1,r_2,r_3,r_4⟩:=r_l C.E d;(try simp only [l_a,l_c,l_n]);omega) o_ o_).mono ?_
   rintro x w_9 ⟨⟨u_9,rfl⟩,hw_9⟩
   have HW_9:=hide (HW_8.out.trans hw_9)
   clear hw_9
   go_wp2_with fail
   have HZ:=HWw.out HW_9.out
   refine bodyPost_end (v:=.tuple #[]) (by simp [results,Tryz.results92,go_sem]) rfl ⟨⟨_,rfl⟩,?_⟩
   rw [HE.out]
   simp only [List.append_assoc,List.cons_append,List.nil_append] at HZ ⊢
   exact HZ
 ·as_aux_lemma=>
   have hA2:A=2:=by have:=HA.out;simp [arity] at this;omega
   subst hA2
   rw [joinF_two] at hclen
   obtain ⟨B,rfl,hkc⟩:=HKc.out o_
   obtain ⟨v0,n0,hk0⟩:=hkc 0 o_
   obtain ⟨v1,n1,hk1⟩:=hkc 1 o_
   obtain ⟨q0a,q0b,q0c⟩:=HBd.out 0 o_ (d) (l+1)
   obtain ⟨c0,m0,hG0⟩ : ∃c m,G 0 (d) (l+1)=(c,m):=⟨_,_,rfl⟩
   rw [hG0] at q0a q0b q0c
   simp only at q0a q0b q0c
   have HC0:Hid (∀(W:World) (its':List It),Gs C W its' (l+1)->its'.length+24*(kid e b 0).length<=8000000->Calls Tryz.prog 92 #[.pointer (some ⟨C.P,0,none⟩),v0,.int .i64 (d)] W fun x w'=>(∃u,x = .returned u)/\Wd C W its' c0 m0 w'):=fun W its' hg hln=>by
     have:=HX.out 0 o_ v0 W its' (l+1) (d) n0 hg o_ o_ o_ o_ hln
     rw [hG0] at this
     exact this
   obtain ⟨q1a,q1b,q1c⟩:=HBd.out 1 o_ (d) (m0)
   obtain ⟨c1,m1,hG1⟩ : ∃c m,G 1 (d) (m0)=(c,m):=⟨_,_,rfl⟩
   rw [hG1] at q1a q1b q1c
   simp only at q1a q1b q1c
   have HC1:Hid (∀(W:World) (its':List It),Gs C W its' (m0)->its'.length+24*(kid e b 1).length<=8000000->Calls Tryz.prog 92 #[.pointer (some ⟨C.P,0,none⟩),v1,.int .i64 (d)] W fun x w'=>(∃u,x = .returned u)/\Wd C W its' c1 m1 w'):=fun W its' hg hln=>by
     have:=HX.out 1 o_ v1 W its' (m0) (d) n1 hg o_ o_ o_ o_ hln
     rw [hG1] at this
     exact this
   have HE:Hid (genN C.E ⟨9,nv,nm⟩ 2 G d l=(c0++readL C.E d 30++[branI 5 (regI d 30) l]++c1++[markI 2 l]++readL C.E d 30++[insI 25 (regI d 30) 0 (regI d 30) 0]++writeL C.E d,m1)):=by show _=_;simp [genN,choiceC,hG0,hG1]
   go_wp2_with fail
   refine (labC C HC.out W2 its (l) HG2.out o_).mono ?_
   rintro x w_1 ⟨rfl,hw_1⟩
   have HW_1:=hide hw_1
   clear hw_1
   have k0:=hk0 w_1 HW_1.out.wq
   go_wp2_with fail
   refine (HC0.out _ _ HW_1.out.gs (by obtain ⟨r_1,r_2,r_3,r_4⟩:=r_l C.E d;(try simp only [l_a,l_c,l_n]);omega)).mono ?_
   rintro x w_2 ⟨⟨u_2,rfl⟩,hw_2⟩
   have HW_2:Hid (Wd C W2 its ([]++c0) (m0) w_2):=HW_1.out.trans hw_2
   clear hw_2
   go_wp2_with fail
   refine (readC C HC.out _ _ _ HW_2.out.gs (d) 30 (by obtain ⟨r_1,r_2,r_3,r_4⟩:=r_l C.E d;(try simp only [l_a,l_c,l_n]);omega) o_ o_).mono ?_
   rintro x w_3 ⟨rfl,hw_3⟩
   have HW_3:=hide (HW_2.out.trans hw_3)
   clear hw_3
   obtain ⟨g0,g1,g2⟩:=HCl.out w_3 HW_3.out.wq
   clear g1
   clear g2
   go_wp2_with fail
   refine (branC C HC.out _ _ _ HW_3.out.gs 5 (regI d 30) l (by obtain ⟨r_1,r_2,r_3,r_4⟩:=r_l C.E d;(try simp only [l_a,l_c,l_n]);omega)).mono ?_
   rintro x w_4 ⟨⟨u_4,rfl⟩,hw_4⟩
   have HW_4:=hide (HW_3.out.trans hw_4)
   clear hw_4
   have k1:=hk1 w_4 HW_4.out.wq
   go_wp2_with fail
   refine (HC1.out _ _ HW_4.out.gs (by obtain ⟨r_1,r_2,r_3,r_4⟩:=r_l C.E d;(try simp only [l_a,l_c,l_n]);omega)).mono ?_
   rintro x w_5 ⟨⟨u_5,rfl⟩,hw_5⟩
   have HW_5:=hide (HW_4.out.trans hw_5)
   clear hw_5
   go_wp2_with fail
   refine (markC C HC.out _ _ _ HW_5.out.gs 2 l (by obtain ⟨r_1,r_2,r_3,r_4⟩:=r_l C.E d;(try simp only [l_a,l_c,l_n]);omega)).mono ?_
   rintro x w_6 ⟨⟨u_6,rfl⟩,hw_6⟩
   have HW_6:=hide (HW_5.out.trans hw_6)
   clear hw_6
   go_wp2_with fail
   refine (readC C HC.out _ _ _ HW_6.out.gs (d) 30 (by obtain ⟨r_1,r_2,r_3,r_4⟩:=r_l C.E d;(try simp only [l_a,l_c,l_n]);omega) o_ o_).mono ?_
   rintro x w_7 ⟨rfl,hw_7⟩
   have HW_7:=hide (HW_6.out.trans hw_7)
   clear hw_7
   go_wp2_with fail
   refine (putC C HC.out _ _ _ HW_7.out.gs 25 (regI d 30) 0 (regI d 30) 0 (by obtain ⟨r_1,r_2,r_3,r_4⟩:=r_l C.E d;(try simp only [l_a,l_c,l_n]);omega)).mono ?_
   rintro x w_8 ⟨⟨u_8,rfl⟩,hw_8⟩
   have HW_8:=hide (HW_7.out.trans hw_8)
   clear hw_8
   go_wp2_with fail
   refine (writeC C HC.out _ _ _ HW_8.out.gs d (by obtain ⟨r_1,r_2,r_3,r_4⟩:=r_l C.E d;(try simp only [l_a,l_c,l_n]);omega) o_ o_).mono ?_
   rintro x w_9 ⟨⟨u_9,rfl⟩,hw_9⟩
   have HW_9:=hide (HW_8.out.trans hw_9)
   clear hw_9
   go_wp2_with fail
   have HZ:=HWw.out HW_9.out
   refine bodyPost_end (v:=.tuple #[]) (by simp [results,Tryz.results92,go_sem]) rfl ⟨⟨_,rfl⟩,?_⟩
   rw [HE.out]
   simp only [List.append_assoc,List.cons_append,List.nil_append] at HZ ⊢
   exact HZ
end Go.Proofs.YtnpidjamplmgjaaGreatDoor
