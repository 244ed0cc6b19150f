import Derived.Test.YtnpidjamplmgjaaGreatDoorQ38
set_option linter.unusedSectionVars false
variable [Inhabited Go.Proofs.YtnpidjamplmgjaaGreatDoor.Pick]
namespace Go.Proofs.YtnpidjamplmgjaaGreatDoor
open Go.RowKit
set_option linter.unusedVariables false
set_option linter.unusedSimpArgs false
set_option maxRecDepth 100000
set_option maxHeartbeats 16000000
theorem stmtS_kind (C:GC) (hC:C.Ok) (s:St) (hkd:s.kind=1∨s.kind=2∨s.kind=3∨s.kind=4∨s.kind=5∨s.kind=6∨s.kind=7∨s.kind=8) (ho2:s.kind=3->oneB s.f=true) (ve vf va vb:Value) (a b:Blk) (ka kb:Nat) (w:World) (its:List It) (l:Int) (hG:Gs C w its l) (hN:Nodes C.w0 ve s.e) (hF:Nodes C.w0 vf s.f) (ho:oneB s.e=true) (hle:s.e.length<=2000) (hlf:s.f.length<=2000) (ha:BlkC C va a ka) (hb:BlkC C vb b kb) (hl0:0<=l) (hl2:l+2*(s.e.length+s.f.length+1+ka+kb)<=100000000) (hil:its.length+24*(s.e.length+s.f.length+1+ka+kb)<=8000000) (hen:C.en=C.en) :
  Calls Tryz.prog 70 #[.pointer (some ⟨C.P,0,none⟩),.agg #[.int .i64 s.kind,.string s.name,ve,vf,.int .i64 s.thn,.int .i64 s.els],va,vb] w fun x w'=>(∃u,x = .returned u)/\Wd C w its (codeS C.E C.en s a b l).1 (codeS C.E C.en s a b l).2 w':=by
 obtain ⟨sk,nm,e,f,tn,ln⟩:=s
 simp only at hkd ho2 hN hF ho hle hlf hl2 hil ⊢
 obtain ⟨hcb,hx⟩:=exprS_code C hC (e:=e) o_ ho
 have HX:=hide hx
 have HBd:=hide hcb
 have HN:=hide hN
 have HF:=hide hF
 have HAb:=hide ha
 have HBb:=hide hb
 obtain ⟨ae,ce,rfl,-⟩:=hN
 obtain ⟨af,cf,rfl,-⟩:=hF
 have HC:=hide hC
 have HG:=hide hG
 obtain ⟨W2,hW2⟩ : ∃W2,W2=w.alloc (.cells #[.int .i64 sk,.string nm,.slice ae e.length ce,.slice af f.length cf,.int .i64 tn,.int .i64 ln] 123):=⟨_,rfl⟩
 have hb2:Bl w W2:=by rw [hW2];exact (Below.refl _ _).alloc (Nat.le_refl _) _
 have HG2:Hid (Gs C W2 its l):=HG.out.below HC.out hb2
 have HWw:Hid (∀ {new l' w'},Wd C W2 its new l' w'->Wd C w its new l' w'):=fun h=>h.pre (Wq.below HG.out.es.lt hb2)
 have HCl:Hid (∀w',Wq 6 C.P W2 w'->(w'.cell? ⟨w.heap.size,1,none⟩=some (.string nm))/\(w'.cell? ⟨w.heap.size,2,none⟩=some (.slice ae e.length ce))/\(w'.cell? ⟨w.heap.size,3,none⟩=some (.slice af f.length cf))/\(w'.cell? ⟨w.heap.size,5,none⟩=some (.int .i64 ln))):=fun w' h=>by
  have hp:=HG.out.es.lt
  have a1:w.heap.size≠C.P:=by omega
  have a2:some w.heap.size≠rbq 6 W2 C.P:=fun h=>by
   rw [rbq_below hb2 hp] at h
   have:=HG.out.es.rlt h.symm
   omega
  refine ⟨h.cell a1 a2 ?_,h.cell a1 a2 ?_,h.cell a1 a2 ?_,h.cell a1 a2 ?_⟩ <;> (rw [hW2];simp)
 have HW2:=hide hW2
 rcases hkd with rfl | rfl | rfl | rfl | rfl | rfl | rfl | rfl
 ·as_aux_lemma=>
   obtain ⟨q0a,q0b,q0c⟩:=HBd.out (0) (l)
   obtain ⟨c0,m0,hG0⟩ : ∃c m,codeE C.E e (0) (l)=(c,m):=⟨_,_,rfl⟩
   rw [hG0] at q0a q0b q0c
   simp only at q0a q0b q0c
   have HC0:Hid (∀(W:World) (its':List It),Gs C W its' (l)->its'.length+24*e.length<=8000000->Calls Tryz.prog 92 #[.pointer (some ⟨C.P,0,none⟩),.slice ae e.length ce,.int .i64 (0)] W fun x w'=>(∃u,x = .returned u)/\Wd C W its' c0 m0 w'):=fun W its' hg hln=>by
    have:=HX.out (.slice ae e.length ce) W its' (l) (0) HN.out hg o_ o_ o_ o_ hln
    rw [hG0] at this
    exact this
   go_enter Tryz.func70,Tryz.ntmps70
   obtain ⟨g1,g2,g3,g5⟩:=HCl.out W2 (Wq.refl _ _ _)
   go_wp2_with fail
   rw [<-HW2.out]
   refine (HC0.out W2 its HG2.out (by (try simp only [l_a,l_c,l_n]);omega)).mono ?_
   rintro x w_1 ⟨⟨u_1,rfl⟩,hw_1⟩
   have HW_1:=hide hw_1
   have HL:=localC C HC.out w_1 (its++c0) m0 HW_1.out.gs nm
   obtain ⟨g1,g2,g3,g5⟩:=HCl.out w_1 HW_1.out.wq
   go_wp2_with fail
   refine HL.mono ?_
   rintro x w0 ⟨rfl,hw0⟩
   rw [hw0]
   cases hloc:locN C.ns nm with
   | some z=>
    have hz:locG C.ns nm=z/\0<=z:=locG_some hloc
    rw [hz.1]
    have hloc2:C.E.loc nm=some z:=hloc
    have HE:Hid (codeS C.E C.en ⟨1,nm,e,f,tn,ln⟩ a b l=(c0++[insI 11 0 2 5 z],m0)):=by show _=_;simp [codeS,hG0,assignL,hloc2]
    have hz0:=hz.2
    go_wp2_with fail
    refine (putC C HC.out _ _ _ HW_1.out.gs 11 0 2 5 z (by (try simp only [l_a,l_c,l_n]);omega)).mono ?_
    rintro x w_2 ⟨⟨u_2,rfl⟩,hw_2⟩
    have HW_2:Hid (Wd C W2 its (c0++[insI 11 0 2 5 z]) (m0) w_2):=HW_1.out.trans hw_2
    go_wp2_with fail
    have HZ:=HWw.out HW_2.out
    refine bodyPost_end (v:=.tuple #[]) (by simp [results,Tryz.results70,go_sem]) rfl ⟨⟨_,rfl⟩,?_⟩
    rw [HE.out]
    simp only [List.append_assoc,List.cons_append,List.nil_append] at HZ ⊢
    exact HZ
   | none=>
    have hz:locG C.ns nm = -1:=locG_no hloc
    rw [hz]
    have hloc2:C.E.loc nm=none:=hloc
    have HE:Hid (codeS C.E C.en ⟨1,nm,e,f,tn,ln⟩ a b l=(c0++(loadL 31 (C.E.glob nm)++[insI 11 0 31 5 0]),m0)):=by show _=_;simp [codeS,hG0,assignL,hloc2]
    obtain ⟨g1,g2,g3,g5⟩:=HCl.out w_1 HW_1.out.wq
    obtain ⟨ag,cg,hvg,-⟩:=HC.out.g
    obtain ⟨af,cf,hvf,-⟩:=HC.out.f
    have p0:w_1.cell? ⟨C.P,0,none⟩=some C.vg:=HW_1.out.gs.es.oth 0 (by decide) (by decide)
    have p1:w_1.cell? ⟨C.P,1,none⟩=some C.vf:=HW_1.out.gs.es.oth 1 (by decide) (by decide)
    rw [hvg] at p0
    rw [hvf] at p1
    have HGl:Hid (Calls Tryz.prog 95 #[.agg #[.slice ag C.gs.length cg,.slice af C.fs.length cf],.string nm] w_1.drew fun e w'=>e = .returned (.int .i64 (C.E.glob nm))/\Bl w_1 w'/\w'.cell? ⟨C.P,0,none⟩=some (.slice ag C.gs.length cg)/\w'.cell? ⟨C.P,1,none⟩=some (.slice af C.fs.length cf)/\w'.cell? ⟨w.heap.size,1,none⟩=some (.string nm)):=by
     have hlt:=HW_1.out.gs.es.lt
     have hlk:=World.block_lt_of_cell? _ _ g1
     refine (globalC C HC.out w_1.drew (its++(c0)) (m0) (HW_1.out.gs.below HC.out (Below.refl _ _).drew) nm _ _ hvg hvf).mono ?_
     rintro e w' ⟨he,hb⟩
     have hb':Bl w_1 w':=(Below.refl _ _).drew.trans hb
     exact ⟨he,hb',(hb'.cell (p:=⟨C.P,0,none⟩) hlt).trans p0,(hb'.cell (p:=⟨C.P,1,none⟩) hlt).trans p1,(hb'.cell (p:=⟨w.heap.size,1,none⟩) hlk).trans g1⟩
    have hgb:=GC.glob_bd C HC.out nm
    have HLd:Hid (∀W,Bl w_1 W->Calls Tryz.prog 94 #[.pointer (some ⟨C.P,0,none⟩),.int .i64 31,.int .i64 (C.E.glob nm)] W fun e w'=>(∃u,e = .returned u)/\Wd C w_1 (its++(c0)) (loadL 31 (C.E.glob nm)) (m0) w'/\w'.cell? ⟨C.P,0,none⟩=some (.slice ag C.gs.length cg)/\w'.cell? ⟨C.P,1,none⟩=some (.slice af C.fs.length cf)/\w'.cell? ⟨w.heap.size,1,none⟩=some (.string nm)):=fun W hW=>by
     refine (loadC C HC.out W (its++(c0)) (m0) (HW_1.out.gs.below HC.out hW) 31 _ (by have r_5:=loadL_len 31 (C.E.glob nm);(try simp only [l_a,l_c,l_n]);omega) o_).mono ?_
     rintro e w' ⟨hu,h2⟩
     have hwd:=h2.pre (Wq.below HW_1.out.gs.es.lt hW)
     have y0:w'.cell? ⟨C.P,0,none⟩=some C.vg:=hwd.gs.es.oth 0 (by decide) (by decide)
     have y1:w'.cell? ⟨C.P,1,none⟩=some C.vf:=hwd.gs.es.oth 1 (by decide) (by decide)
     rw [hvg] at y0
     rw [hvf] at y1
     exact ⟨hu,hwd,y0,y1,(HCl.out w' (Wq.trans HW_1.out.wq hwd.wq)).1⟩
    have q0:w_1.drew.cell? ⟨C.P,0,none⟩=some (.slice ag C.gs.length cg):=p0
    have q1:w_1.drew.cell? ⟨C.P,1,none⟩=some (.slice af C.fs.length cf):=p1
    have q2:w_1.drew.cell? ⟨w.heap.size,1,none⟩=some (.string nm):=g1
    generalize hgz:C.E.glob nm=gz at HGl HLd hgb
    go_wp2_with fail
    go_region_held3 (fun W=>W.cell? ⟨C.P,0,none⟩=some (.slice ag C.gs.length cg)/\W.cell? ⟨C.P,1,none⟩=some (.slice af C.fs.length cf)/\W.cell? ⟨w.heap.size,1,none⟩=some (.string nm)) (go_simp) (first | (with_reducible refine Calls.mono HGl.out ?_;rintro x wg ⟨rfl,hbg,z0,z1,z2⟩) | (with_reducible refine Calls.mono (HLd.out wg hbg) ?_;rintro x wl ⟨⟨ul,rfl⟩,hwl,y0,y1,y2⟩))
    rw [<-hgz] at hwl
    have HW_2:=hide (HW_1.out.trans hwl)
    go_wp2_with fail
    refine (putC C HC.out _ _ _ HW_2.out.gs 11 0 31 5 0 (by have r_5:=loadL_len 31 (C.E.glob nm);(try simp only [l_a,l_c,l_n]);omega)).mono ?_
    rintro x w_3 ⟨⟨u_3,rfl⟩,hw_3⟩
    have HW_3:=hide (HW_2.out.trans hw_3)
    go_wp2_with fail
    have HZ:=HWw.out HW_3.out
    refine bodyPost_end (v:=.tuple #[]) (by simp [results,Tryz.results70,go_sem]) rfl ⟨⟨_,rfl⟩,?_⟩
    rw [HE.out]
    simp only [List.append_assoc,List.cons_append,List.nil_append] at HZ ⊢
    exact HZ
 ·as_aux_lemma=>
   obtain ⟨q0a,q0b,q0c⟩:=HBd.out (0) (l)
   obtain ⟨c0,m0,hG0⟩ : ∃c m,codeE C.E e (0) (l)=(c,m):=⟨_,_,rfl⟩
   rw [hG0] at q0a q0b q0c
   simp only at q0a q0b q0c
   have HC0:Hid (∀(W:World) (its':List It),Gs C W its' (l)->its'.length+24*e.length<=8000000->Calls Tryz.prog 92 #[.pointer (some ⟨C.P,0,none⟩),.slice ae e.length ce,.int .i64 (0)] W fun x w'=>(∃u,x = .returned u)/\Wd C W its' c0 m0 w'):=fun W its' hg hln=>by
    have:=HX.out (.slice ae e.length ce) W its' (l) (0) HN.out hg o_ o_ o_ o_ hln
    rw [hG0] at this
    exact this
   go_enter Tryz.func70,Tryz.ntmps70
   obtain ⟨g1,g2,g3,g5⟩:=HCl.out W2 (Wq.refl _ _ _)
   go_wp2_with fail
   rw [<-HW2.out]
   refine (HC0.out W2 its HG2.out (by (try simp only [l_a,l_c,l_n]);omega)).mono ?_
   rintro x w_1 ⟨⟨u_1,rfl⟩,hw_1⟩
   have HW_1:=hide hw_1
   have HL:=localC C HC.out w_1 (its++c0) m0 HW_1.out.gs nm
   obtain ⟨g1,g2,g3,g5⟩:=HCl.out w_1 HW_1.out.wq
   go_wp2_with fail
   refine HL.mono ?_
   rintro x w0 ⟨rfl,hw0⟩
   rw [hw0]
   cases hloc:locN C.ns nm with
   | some z=>
    have hz:locG C.ns nm=z/\0<=z:=locG_some hloc
    rw [hz.1]
    have hloc2:C.E.loc nm=some z:=hloc
    have HE:Hid (codeS C.E C.en ⟨2,nm,e,f,tn,ln⟩ a b l=(c0++[insI 11 0 2 5 z],m0)):=by show _=_;simp [codeS,hG0,assignL,hloc2]
    have hz0:=hz.2
    go_wp2_with fail
    refine (putC C HC.out _ _ _ HW_1.out.gs 11 0 2 5 z (by (try simp only [l_a,l_c,l_n]);omega)).mono ?_
    rintro x w_2 ⟨⟨u_2,rfl⟩,hw_2⟩
    have HW_2:Hid (Wd C W2 its (c0++[insI 11 0 2 5 z]) (m0) w_2):=HW_1.out.trans hw_2
    go_wp2_with fail
    have HZ:=HWw.out HW_2.out
    refine bodyPost_end (v:=.tuple #[]) (by simp [results,Tryz.results70,go_sem]) rfl ⟨⟨_,rfl⟩,?_⟩
    rw [HE.out]
    simp only [List.append_assoc,List.cons_append,List.nil_append] at HZ ⊢
    exact HZ
   | none=>
    have hz:locG C.ns nm = -1:=locG_no hloc
    rw [hz]
    have hloc2:C.E.loc nm=none:=hloc
    have HE:Hid (codeS C.E C.en ⟨2,nm,e,f,tn,ln⟩ a b l=(c0++(loadL 31 (C.E.glob nm)++[insI 11 0 31 5 0]),m0)):=by show _=_;simp [codeS,hG0,assignL,hloc2]
    obtain ⟨g1,g2,g3,g5⟩:=HCl.out w_1 HW_1.out.wq
    obtain ⟨ag,cg,hvg,-⟩:=HC.out.g
    obtain ⟨af,cf,hvf,-⟩:=HC.out.f
    have p0:w_1.cell? ⟨C.P,0,none⟩=some C.vg:=HW_1.out.gs.es.oth 0 (by decide) (by decide)
    have p1:w_1.cell? ⟨C.P,1,none⟩=some C.vf:=HW_1.out.gs.es.oth 1 (by decide) (by decide)
    rw [hvg] at p0
    rw [hvf] at p1
    have HGl:Hid (Calls Tryz.prog 95 #[.agg #[.slice ag C.gs.length cg,.slice af C.fs.length cf],.string nm] w_1.drew fun e w'=>e = .returned (.int .i64 (C.E.glob nm))/\Bl w_1 w'/\w'.cell? ⟨C.P,0,none⟩=some (.slice ag C.gs.length cg)/\w'.cell? ⟨C.P,1,none⟩=some (.slice af C.fs.length cf)/\w'.cell? ⟨w.heap.size,1,none⟩=some (.string nm)):=by
     have hlt:=HW_1.out.gs.es.lt
     have hlk:=World.block_lt_of_cell? _ _ g1
     refine (globalC C HC.out w_1.drew (its++(c0)) (m0) (HW_1.out.gs.below HC.out (Below.refl _ _).drew) nm _ _ hvg hvf).mono ?_
     rintro e w' ⟨he,hb⟩
     have hb':Bl w_1 w':=(Below.refl _ _).drew.trans hb
     exact ⟨he,hb',(hb'.cell (p:=⟨C.P,0,none⟩) hlt).trans p0,(hb'.cell (p:=⟨C.P,1,none⟩) hlt).trans p1,(hb'.cell (p:=⟨w.heap.size,1,none⟩) hlk).trans g1⟩
    have hgb:=GC.glob_bd C HC.out nm
    have HLd:Hid (∀W,Bl w_1 W->Calls Tryz.prog 94 #[.pointer (some ⟨C.P,0,none⟩),.int .i64 31,.int .i64 (C.E.glob nm)] W fun e w'=>(∃u,e = .returned u)/\Wd C w_1 (its++(c0)) (loadL 31 (C.E.glob nm)) (m0) w'/\w'.cell? ⟨C.P,0,none⟩=some (.slice ag C.gs.length cg)/\w'.cell? ⟨C.P,1,none⟩=some (.slice af C.fs.length cf)/\w'.cell? ⟨w.heap.size,1,none⟩=some (.string nm)):=fun W hW=>by
     refine (loadC C HC.out W (its++(c0)) (m0) (HW_1.out.gs.below HC.out hW) 31 _ (by have r_5:=loadL_len 31 (C.E.glob nm);(try simp only [l_a,l_c,l_n]);omega) o_).mono ?_
     rintro e w' ⟨hu,h2⟩
     have hwd:=h2.pre (Wq.below HW_1.out.gs.es.lt hW)
     have y0:w'.cell? ⟨C.P,0,none⟩=some C.vg:=hwd.gs.es.oth 0 (by decide) (by decide)
     have y1:w'.cell? ⟨C.P,1,none⟩=some C.vf:=hwd.gs.es.oth 1 (by decide) (by decide)
     rw [hvg] at y0
     rw [hvf] at y1
     exact ⟨hu,hwd,y0,y1,(HCl.out w' (Wq.trans HW_1.out.wq hwd.wq)).1⟩
    have q0:w_1.drew.cell? ⟨C.P,0,none⟩=some (.slice ag C.gs.length cg):=p0
    have q1:w_1.drew.cell? ⟨C.P,1,none⟩=some (.slice af C.fs.length cf):=p1
    have q2:w_1.drew.cell? ⟨w.heap.size,1,none⟩=some (.string nm):=g1
    generalize hgz:C.E.glob nm=gz at HGl HLd hgb
    go_wp2_with fail
    go_region_held3 (fun W=>W.cell? ⟨C.P,0,none⟩=some (.slice ag C.gs.length cg)/\W.cell? ⟨C.P,1,none⟩=some (.slice af C.fs.length cf)/\W.cell? ⟨w.heap.size,1,none⟩=some (.string nm)) (go_simp) (first | (with_reducible refine Calls.mono HGl.out ?_;rintro x wg ⟨rfl,hbg,z0,z1,z2⟩) | (with_reducible refine Calls.mono (HLd.out wg hbg) ?_;rintro x wl ⟨⟨ul,rfl⟩,hwl,y0,y1,y2⟩))
    rw [<-hgz] at hwl
    have HW_2:=hide (HW_1.out.trans hwl)
    go_wp2_with fail
    refine (putC C HC.out _ _ _ HW_2.out.gs 11 0 31 5 0 (by have r_5:=loadL_len 31 (C.E.glob nm);(try simp only [l_a,l_c,l_n]);omega)).mono ?_
    rintro x w_3 ⟨⟨u_3,rfl⟩,hw_3⟩
    have HW_3:=hide (HW_2.out.trans hw_3)
    go_wp2_with fail
    have HZ:=HWw.out HW_3.out
    refine bodyPost_end (v:=.tuple #[]) (by simp [results,Tryz.results70,go_sem]) rfl ⟨⟨_,rfl⟩,?_⟩
    rw [HE.out]
    simp only [List.append_assoc,List.cons_append,List.nil_append] at HZ ⊢
    exact HZ
 ·as_aux_lemma=>
   replace ho2:=ho2 rfl
   obtain ⟨hcf,hxf⟩:=exprS_code C HC.out (e:=f) o_ ho2
   have HXf:=hide hxf
   have HBf:=hide hcf
   obtain ⟨q0a,q0b,q0c⟩:=HBd.out (0) (l)
   obtain ⟨c0,m0,hG0⟩ : ∃c m,codeE C.E e (0) (l)=(c,m):=⟨_,_,rfl⟩
   rw [hG0] at q0a q0b q0c
   simp only at q0a q0b q0c
   have HC0:Hid (∀(W:World) (its':List It),Gs C W its' (l)->its'.length+24*e.length<=8000000->Calls Tryz.prog 92 #[.pointer (some ⟨C.P,0,none⟩),.slice ae e.length ce,.int .i64 (0)] W fun x w'=>(∃u,x = .returned u)/\Wd C W its' c0 m0 w'):=fun W its' hg hln=>by
    have:=HX.out (.slice ae e.length ce) W its' (l) (0) HN.out hg o_ o_ o_ o_ hln
    rw [hG0] at this
    exact this
   obtain ⟨q1a,q1b,q1c⟩:=HBf.out (1) (m0)
   obtain ⟨c1,m1,hG1⟩ : ∃c m,codeE C.E f (1) (m0)=(c,m):=⟨_,_,rfl⟩
   rw [hG1] at q1a q1b q1c
   simp only at q1a q1b q1c
   have HC1:Hid (∀(W:World) (its':List It),Gs C W its' (m0)->its'.length+24*f.length<=8000000->Calls Tryz.prog 92 #[.pointer (some ⟨C.P,0,none⟩),.slice af f.length cf,.int .i64 (1)] W fun x w'=>(∃u,x = .returned u)/\Wd C W its' c1 m1 w'):=fun W its' hg hln=>by
    have:=HXf.out (.slice af f.length cf) W its' (m0) (1) HF.out hg o_ o_ o_ o_ hln
    rw [hG1] at this
    exact this
   have HE:Hid (codeS C.E C.en ⟨3,nm,e,f,tn,ln⟩ a b l=(c0++c1++[insI 18 5 5 0 2]++loadL 31 (C.E.glob nm)++[insI 21 31 31 5 0,insI 11 0 31 6 0],m1)):=by show _=_;simp [codeS,hG0,hG1]
   go_enter Tryz.func70,Tryz.ntmps70
   obtain ⟨g1,g2,g3,g5⟩:=HCl.out W2 (Wq.refl _ _ _)
   go_wp2_with fail
   rw [<-HW2.out]
   refine (HC0.out W2 its HG2.out (by have r_5:=loadL_len 31 (C.E.glob nm);(try simp only [l_a,l_c,l_n]);omega)).mono ?_
   rintro x w_1 ⟨⟨u_1,rfl⟩,hw_1⟩
   have HW_1:=hide hw_1
   obtain ⟨g1,g2,g3,g5⟩:=HCl.out w_1 HW_1.out.wq
   go_wp2_with fail
   refine (HC1.out _ _ HW_1.out.gs (by have r_5:=loadL_len 31 (C.E.glob nm);(try simp only [l_a,l_c,l_n]);omega)).mono ?_
   rintro x w_2 ⟨⟨u_2,rfl⟩,hw_2⟩
   have HW_2:Hid (Wd C W2 its (c0++c1) (m1) w_2):=HW_1.out.trans hw_2
   go_wp2_with fail
   refine (putC C HC.out _ _ _ HW_2.out.gs 18 5 5 0 2 (by have r_5:=loadL_len 31 (C.E.glob nm);(try simp only [l_a,l_c,l_n]);omega)).mono ?_
   rintro x w_3 ⟨⟨u_3,rfl⟩,hw_3⟩
   have HW_3:=hide (HW_2.out.trans hw_3)
   obtain ⟨g1,g2,g3,g5⟩:=HCl.out w_3 HW_3.out.wq
   obtain ⟨ag,cg,hvg,-⟩:=HC.out.g
   obtain ⟨af,cf,hvf,-⟩:=HC.out.f
   have p0:w_3.cell? ⟨C.P,0,none⟩=some C.vg:=HW_3.out.gs.es.oth 0 (by decide) (by decide)
   have p1:w_3.cell? ⟨C.P,1,none⟩=some C.vf:=HW_3.out.gs.es.oth 1 (by decide) (by decide)
   rw [hvg] at p0
   rw [hvf] at p1
   have HGl:Hid (Calls Tryz.prog 95 #[.agg #[.slice ag C.gs.length cg,.slice af C.fs.length cf],.string nm] w_3.drew fun e w'=>e = .returned (.int .i64 (C.E.glob nm))/\Bl w_3 w'/\w'.cell? ⟨C.P,0,none⟩=some (.slice ag C.gs.length cg)/\w'.cell? ⟨C.P,1,none⟩=some (.slice af C.fs.length cf)/\w'.cell? ⟨w.heap.size,1,none⟩=some (.string nm)):=by
     have hlt:=HW_3.out.gs.es.lt
     have hlk:=World.block_lt_of_cell? _ _ g1
     refine (globalC C HC.out w_3.drew (its++(c0++c1++[insI 18 5 5 0 2])) (m1) (HW_3.out.gs.below HC.out (Below.refl _ _).drew) nm _ _ hvg hvf).mono ?_
     rintro e w' ⟨he,hb⟩
     have hb':Bl w_3 w':=(Below.refl _ _).drew.trans hb
     exact ⟨he,hb',(hb'.cell (p:=⟨C.P,0,none⟩) hlt).trans p0,(hb'.cell (p:=⟨C.P,1,none⟩) hlt).trans p1,(hb'.cell (p:=⟨w.heap.size,1,none⟩) hlk).trans g1⟩
   have hgb:=GC.glob_bd C HC.out nm
   have HLd:Hid (∀W,Bl w_3 W->Calls Tryz.prog 94 #[.pointer (some ⟨C.P,0,none⟩),.int .i64 31,.int .i64 (C.E.glob nm)] W fun e w'=>(∃u,e = .returned u)/\Wd C w_3 (its++(c0++c1++[insI 18 5 5 0 2])) (loadL 31 (C.E.glob nm)) (m1) w'/\w'.cell? ⟨C.P,0,none⟩=some (.slice ag C.gs.length cg)/\w'.cell? ⟨C.P,1,none⟩=some (.slice af C.fs.length cf)/\w'.cell? ⟨w.heap.size,1,none⟩=some (.string nm)):=fun W hW=>by
     refine (loadC C HC.out W (its++(c0++c1++[insI 18 5 5 0 2])) (m1) (HW_3.out.gs.below HC.out hW) 31 _ (by have r_5:=loadL_len 31 (C.E.glob nm);(try simp only [l_a,l_c,l_n]);omega) o_).mono ?_
     rintro e w' ⟨hu,h2⟩
     have hwd:=h2.pre (Wq.below HW_3.out.gs.es.lt hW)
     have y0:w'.cell? ⟨C.P,0,none⟩=some C.vg:=hwd.gs.es.oth 0 (by decide) (by decide)
     have y1:w'.cell? ⟨C.P,1,none⟩=some C.vf:=hwd.gs.es.oth 1 (by decide) (by decide)
     rw [hvg] at y0
     rw [hvf] at y1
     exact ⟨hu,hwd,y0,y1,(HCl.out w' (Wq.trans HW_3.out.wq hwd.wq)).1⟩
   have q0:w_3.drew.cell? ⟨C.P,0,none⟩=some (.slice ag C.gs.length cg):=p0
   have q1:w_3.drew.cell? ⟨C.P,1,none⟩=some (.slice af C.fs.length cf):=p1
   have q2:w_3.drew.cell? ⟨w.heap.size,1,none⟩=some (.string nm):=g1
   generalize hgz:C.E.glob nm=gz at HGl HLd hgb
   go_wp2_with fail
   go_region_held3 (fun W=>W.cell? ⟨C.P,0,none⟩=some (.slice ag C.gs.length cg)/\W.cell? ⟨C.P,1,none⟩=some (.slice af C.fs.length cf)/\W.cell? ⟨w.heap.size,1,none⟩=some (.string nm)) (go_simp) (first | (with_reducible refine Calls.mono HGl.out ?_;rintro x wg ⟨rfl,hbg,z0,z1,z2⟩) | (with_reducible refine Calls.mono (HLd.out wg hbg) ?_;rintro x wl ⟨⟨ul,rfl⟩,hwl,y0,y1,y2⟩))
   rw [<-hgz] at hwl
   have HW_4:=hide (HW_3.out.trans hwl)
   go_wp2_with fail
   refine (putC C HC.out _ _ _ HW_4.out.gs 21 31 31 5 0 (by have r_5:=loadL_len 31 (C.E.glob nm);(try simp only [l_a,l_c,l_n]);omega)).mono ?_
   rintro x w_5 ⟨⟨u_5,rfl⟩,hw_5⟩
   have HW_5:=hide (HW_4.out.trans hw_5)
   go_wp2_with fail
   refine (putC C HC.out _ _ _ HW_5.out.gs 11 0 31 6 0 (by have r_5:=loadL_len 31 (C.E.glob nm);(try simp only [l_a,l_c,l_n]);omega)).mono ?_
   rintro x w_6 ⟨⟨u_6,rfl⟩,hw_6⟩
   have HW_6:=hide (HW_5.out.trans hw_6)
   go_wp2_with fail
   have HZ:=HWw.out HW_6.out
   refine bodyPost_end (v:=.tuple #[]) (by simp [results,Tryz.results70,go_sem]) rfl ⟨⟨_,rfl⟩,?_⟩
   rw [HE.out]
   simp only [List.append_assoc,List.cons_append,List.nil_append] at HZ ⊢
   exact HZ
 ·as_aux_lemma=>
   by_cases hln:0<ln
   ·obtain ⟨q0a,q0b,q0c⟩:=HBd.out (0) (l+2)
    obtain ⟨c0,m0,hG0⟩ : ∃c m,codeE C.E e (0) (l+2)=(c,m):=⟨_,_,rfl⟩
    rw [hG0] at q0a q0b q0c
    simp only at q0a q0b q0c
    have HC0:Hid (∀(W:World) (its':List It),Gs C W its' (l+2)->its'.length+24*e.length<=8000000->Calls Tryz.prog 92 #[.pointer (some ⟨C.P,0,none⟩),.slice ae e.length ce,.int .i64 (0)] W fun x w'=>(∃u,x = .returned u)/\Wd C W its' c0 m0 w'):=fun W its' hg hln=>by
     have:=HX.out (.slice ae e.length ce) W its' (l+2) (0) HN.out hg o_ o_ o_ o_ hln
     rw [hG0] at this
     exact this
    obtain ⟨raa,rab,rac⟩:=HAb.out.1 (m0)
    obtain ⟨ba,na,hBa⟩ : ∃c m,a (m0)=(c,m):=⟨_,_,rfl⟩
    rw [hBa] at raa rab rac
    simp only at raa rab rac
    have HKa:Hid (∀(W:World) (its':List It),Gs C W its' (m0)->its'.length+24*ka<=8000000->Calls Tryz.prog 40 #[.pointer (some ⟨C.P,0,none⟩),va] W fun x w'=>(∃u,x = .returned u)/\Wd C W its' ba na w'):=fun W its' hg hln=>by
     have:=HAb.out.2 W its' (m0) hg o_ o_ hln
     rw [hBa] at this
     exact this
    obtain ⟨rba,rbb,rbc⟩:=HBb.out.1 (na)
    obtain ⟨bb,nb,hBb⟩ : ∃c m,b (na)=(c,m):=⟨_,_,rfl⟩
    rw [hBb] at rba rbb rbc
    simp only at rba rbb rbc
    have HKb:Hid (∀(W:World) (its':List It),Gs C W its' (na)->its'.length+24*kb<=8000000->Calls Tryz.prog 40 #[.pointer (some ⟨C.P,0,none⟩),vb] W fun x w'=>(∃u,x = .returned u)/\Wd C W its' bb nb w'):=fun W its' hg hln=>by
     have:=HBb.out.2 W its' (na) hg o_ o_ hln
     rw [hBb] at this
     exact this
    have HE:Hid (codeS C.E C.en ⟨4,nm,e,f,tn,ln⟩ a b l=(c0++[branI 4 5 l]++ba++[markI 4 (l+1),markI 2 l]++bb++[markI 2 (l+1)],nb)):=by show _=_;simp [codeS,hln,hG0,hBa,hBb]
    go_enter Tryz.func70,Tryz.ntmps70
    go_wp2_with fail
    rw [<-HW2.out]
    refine (labC C HC.out W2 its (l) HG2.out o_).mono ?_
    rintro x w_1 ⟨rfl,hw_1⟩
    have HW_1:=hide hw_1
    obtain ⟨g1,g2,g3,g5⟩:=HCl.out w_1 HW_1.out.wq
    go_wp2_with fail
    refine (labC C HC.out _ _ _ HW_1.out.gs o_).mono ?_
    rintro x w_2 ⟨rfl,hw_2⟩
    have HW_2:Hid (Wd C W2 its ([]++[]) (l+1+1) w_2):=HW_1.out.trans hw_2
    rw [show l+1+1=l+2 by omega] at HW_2
    obtain ⟨g1,g2,g3,g5⟩:=HCl.out w_2 HW_2.out.wq
    go_wp2_with fail
    refine (HC0.out _ _ HW_2.out.gs (by (try simp only [l_a,l_c,l_n]);omega)).mono ?_
    rintro x w_3 ⟨⟨u_3,rfl⟩,hw_3⟩
    have HW_3:Hid (Wd C W2 its ([]++[]++c0) (m0) w_3):=HW_2.out.trans hw_3
    go_wp2_with fail
    refine (branC C HC.out _ _ _ HW_3.out.gs 4 5 l (by (try simp only [l_a,l_c,l_n]);omega)).mono ?_
    rintro x w_4 ⟨⟨u_4,rfl⟩,hw_4⟩
    have HW_4:=hide (HW_3.out.trans hw_4)
    go_wp2_with fail
    refine (HKa.out _ _ HW_4.out.gs (by (try simp only [l_a,l_c,l_n]);omega)).mono ?_
    rintro x w_5 ⟨⟨u_5,rfl⟩,hw_5⟩
    have HW_5:=hide (HW_4.out.trans hw_5)
    obtain ⟨g1,g2,g3,g5⟩:=HCl.out w_5 HW_5.out.wq
    go_wp2_with fail
    refine (markC C HC.out _ _ _ HW_5.out.gs 4 (l+1) (by (try simp only [l_a,l_c,l_n]);omega)).mono ?_
    rintro x w_6 ⟨⟨u_6,rfl⟩,hw_6⟩
    have HW_6:=hide (HW_5.out.trans hw_6)
    go_wp2_with fail
    refine (markC C HC.out _ _ _ HW_6.out.gs 2 l (by (try simp only [l_a,l_c,l_n]);omega)).mono ?_
    rintro x w_7 ⟨⟨u_7,rfl⟩,hw_7⟩
    have HW_7:=hide (HW_6.out.trans hw_7)
    obtain ⟨g1,g2,g3,g5⟩:=HCl.out w_7 HW_7.out.wq
    go_wp2_with fail
    refine (HKb.out _ _ HW_7.out.gs (by (try simp only [l_a,l_c,l_n]);omega)).mono ?_
    rintro x w_8 ⟨⟨u_8,rfl⟩,hw_8⟩
    have HW_8:=hide (HW_7.out.trans hw_8)
    go_wp2_with fail
    refine (markC C HC.out _ _ _ HW_8.out.gs 2 (l+1) (by (try simp only [l_a,l_c,l_n]);omega)).mono ?_
    rintro x w_9 ⟨⟨u_9,rfl⟩,hw_9⟩
    have HW_9:=hide (HW_8.out.trans hw_9)
    go_wp2_with fail
    have HZ:=HWw.out HW_9.out
    refine bodyPost_end (v:=.tuple #[]) (by simp [results,Tryz.results70,go_sem]) rfl ⟨⟨_,rfl⟩,?_⟩
    rw [HE.out]
    simp only [List.append_assoc,List.cons_append,List.nil_append] at HZ ⊢
    exact HZ
   ·obtain ⟨q0a,q0b,q0c⟩:=HBd.out (0) (l+1)
    obtain ⟨c0,m0,hG0⟩ : ∃c m,codeE C.E e (0) (l+1)=(c,m):=⟨_,_,rfl⟩
    rw [hG0] at q0a q0b q0c
    simp only at q0a q0b q0c
    have HC0:Hid (∀(W:World) (its':List It),Gs C W its' (l+1)->its'.length+24*e.length<=8000000->Calls Tryz.prog 92 #[.pointer (some ⟨C.P,0,none⟩),.slice ae e.length ce,.int .i64 (0)] W fun x w'=>(∃u,x = .returned u)/\Wd C W its' c0 m0 w'):=fun W its' hg hln=>by
     have:=HX.out (.slice ae e.length ce) W its' (l+1) (0) HN.out hg o_ o_ o_ o_ hln
     rw [hG0] at this
     exact this
    obtain ⟨raa,rab,rac⟩:=HAb.out.1 (m0)
    obtain ⟨ba,na,hBa⟩ : ∃c m,a (m0)=(c,m):=⟨_,_,rfl⟩
    rw [hBa] at raa rab rac
    simp only at raa rab rac
    have HKa:Hid (∀(W:World) (its':List It),Gs C W its' (m0)->its'.length+24*ka<=8000000->Calls Tryz.prog 40 #[.pointer (some ⟨C.P,0,none⟩),va] W fun x w'=>(∃u,x = .returned u)/\Wd C W its' ba na w'):=fun W its' hg hln=>by
     have:=HAb.out.2 W its' (m0) hg o_ o_ hln
     rw [hBa] at this
     exact this
    have hln0 : ¬(0<ln):=hln
    have HE:Hid (codeS C.E C.en ⟨4,nm,e,f,tn,ln⟩ a b l=(c0++[branI 4 5 l]++ba++[markI 2 l],na)):=by show _=_;simp [codeS,hln0,hG0,hBa]
    go_enter Tryz.func70,Tryz.ntmps70
    go_wp2_with fail
    rw [<-HW2.out]
    refine (labC C HC.out W2 its (l) HG2.out o_).mono ?_
    rintro x w_1 ⟨rfl,hw_1⟩
    have HW_1:=hide hw_1
    obtain ⟨g1,g2,g3,g5⟩:=HCl.out w_1 HW_1.out.wq
    go_wp2_with fail
    refine (HC0.out _ _ HW_1.out.gs (by (try simp only [l_a,l_c,l_n]);omega)).mono ?_
    rintro x w_2 ⟨⟨u_2,rfl⟩,hw_2⟩
    have HW_2:Hid (Wd C W2 its ([]++c0) (m0) w_2):=HW_1.out.trans hw_2
    go_wp2_with fail
    refine (branC C HC.out _ _ _ HW_2.out.gs 4 5 l (by (try simp only [l_a,l_c,l_n]);omega)).mono ?_
    rintro x w_3 ⟨⟨u_3,rfl⟩,hw_3⟩
    have HW_3:Hid (Wd C W2 its ([]++c0++[branI 4 5 l]) (m0) w_3):=HW_2.out.trans hw_3
    go_wp2_with fail
    refine (HKa.out _ _ HW_3.out.gs (by (try simp only [l_a,l_c,l_n]);omega)).mono ?_
    rintro x w_4 ⟨⟨u_4,rfl⟩,hw_4⟩
    have HW_4:=hide (HW_3.out.trans hw_4)
    obtain ⟨g1,g2,g3,g5⟩:=HCl.out w_4 HW_4.out.wq
    go_wp2_with fail
    refine (markC C HC.out _ _ _ HW_4.out.gs 2 l (by (try simp only [l_a,l_c,l_n]);omega)).mono ?_
    rintro x w_5 ⟨⟨u_5,rfl⟩,hw_5⟩
    have HW_5:=hide (HW_4.out.trans hw_5)
    obtain ⟨g1,g2,g3,g5⟩:=HCl.out w_5 HW_5.out.wq
    go_wp2_with fail
    have HZ:=HWw.out HW_5.out
    refine bodyPost_end (v:=.tuple #[]) (by simp [results,Tryz.results70,go_sem]) rfl ⟨⟨_,rfl⟩,?_⟩
    rw [HE.out]
    simp only [List.append_assoc,List.cons_append,List.nil_append] at HZ ⊢
    exact HZ
 ·as_aux_lemma=>
   obtain ⟨q0a,q0b,q0c⟩:=HBd.out (0) (l+2)
   obtain ⟨c0,m0,hG0⟩ : ∃c m,codeE C.E e (0) (l+2)=(c,m):=⟨_,_,rfl⟩
   rw [hG0] at q0a q0b q0c
   simp only at q0a q0b q0c
   have HC0:Hid (∀(W:World) (its':List It),Gs C W its' (l+2)->its'.length+24*e.length<=8000000->Calls Tryz.prog 92 #[.pointer (some ⟨C.P,0,none⟩),.slice ae e.length ce,.int .i64 (0)] W fun x w'=>(∃u,x = .returned u)/\Wd C W its' c0 m0 w'):=fun W its' hg hln=>by
    have:=HX.out (.slice ae e.length ce) W its' (l+2) (0) HN.out hg o_ o_ o_ o_ hln
    rw [hG0] at this
    exact this
   obtain ⟨raa,rab,rac⟩:=HAb.out.1 (m0)
   obtain ⟨ba,na,hBa⟩ : ∃c m,a (m0)=(c,m):=⟨_,_,rfl⟩
   rw [hBa] at raa rab rac
   simp only at raa rab rac
   have HKa:Hid (∀(W:World) (its':List It),Gs C W its' (m0)->its'.length+24*ka<=8000000->Calls Tryz.prog 40 #[.pointer (some ⟨C.P,0,none⟩),va] W fun x w'=>(∃u,x = .returned u)/\Wd C W its' ba na w'):=fun W its' hg hln=>by
    have:=HAb.out.2 W its' (m0) hg o_ o_ hln
    rw [hBa] at this
    exact this
   have HE:Hid (codeS C.E C.en ⟨5,nm,e,f,tn,ln⟩ a b l=([markI 2 l]++c0++[branI 4 5 (l+1)]++ba++[markI 4 l,markI 2 (l+1)],na)):=by show _=_;simp [codeS,hG0,hBa]
   go_enter Tryz.func70,Tryz.ntmps70
   go_wp2_with fail
   rw [<-HW2.out]
   refine (labC C HC.out W2 its (l) HG2.out o_).mono ?_
   rintro x w_1 ⟨rfl,hw_1⟩
   have HW_1:=hide hw_1
   go_wp2_with fail
   refine (labC C HC.out _ _ _ HW_1.out.gs o_).mono ?_
   rintro x w_2 ⟨rfl,hw_2⟩
   have HW_2:Hid (Wd C W2 its ([]++[]) (l+1+1) w_2):=HW_1.out.trans hw_2
   rw [show l+1+1=l+2 by omega] at HW_2
   go_wp2_with fail
   refine (markC C HC.out _ _ _ HW_2.out.gs 2 l (by (try simp only [l_a,l_c,l_n]);omega)).mono ?_
   rintro x w_3 ⟨⟨u_3,rfl⟩,hw_3⟩
   have HW_3:Hid (Wd C W2 its ([]++[]++[markI 2 l]) (l+2) w_3):=HW_2.out.trans hw_3
   obtain ⟨g1,g2,g3,g5⟩:=HCl.out w_3 HW_3.out.wq
   go_wp2_with fail
   refine (HC0.out _ _ HW_3.out.gs (by (try simp only [l_a,l_c,l_n]);omega)).mono ?_
   rintro x w_4 ⟨⟨u_4,rfl⟩,hw_4⟩
   have HW_4:=hide (HW_3.out.trans hw_4)
   go_wp2_with fail
   refine (branC C HC.out _ _ _ HW_4.out.gs 4 5 (l+1) (by (try simp only [l_a,l_c,l_n]);omega)).mono ?_
   rintro x w_5 ⟨⟨u_5,rfl⟩,hw_5⟩
   have HW_5:=hide (HW_4.out.trans hw_5)
   go_wp2_with fail
   refine (HKa.out _ _ HW_5.out.gs (by (try simp only [l_a,l_c,l_n]);omega)).mono ?_
   rintro x w_6 ⟨⟨u_6,rfl⟩,hw_6⟩
   have HW_6:=hide (HW_5.out.trans hw_6)
   go_wp2_with fail
   refine (markC C HC.out _ _ _ HW_6.out.gs 4 l (by (try simp only [l_a,l_c,l_n]);omega)).mono ?_
   rintro x w_7 ⟨⟨u_7,rfl⟩,hw_7⟩
   have HW_7:=hide (HW_6.out.trans hw_7)
   go_wp2_with fail
   refine (markC C HC.out _ _ _ HW_7.out.gs 2 (l+1) (by (try simp only [l_a,l_c,l_n]);omega)).mono ?_
   rintro x w_8 ⟨⟨u_8,rfl⟩,hw_8⟩
   have HW_8:=hide (HW_7.out.trans hw_8)
   go_wp2_with fail
   have HZ:=HWw.out HW_8.out
   refine bodyPost_end (v:=.tuple #[]) (by simp [results,Tryz.results70,go_sem]) rfl ⟨⟨_,rfl⟩,?_⟩
   rw [HE.out]
   simp only [List.append_assoc,List.cons_append,List.nil_append] at HZ ⊢
   exact HZ
 ·as_aux_lemma=>
   obtain ⟨q0a,q0b,q0c⟩:=HBd.out (0) (l)
   obtain ⟨c0,m0,hG0⟩ : ∃c m,codeE C.E e (0) (l)=(c,m):=⟨_,_,rfl⟩
   rw [hG0] at q0a q0b q0c
   simp only at q0a q0b q0c
   have HC0:Hid (∀(W:World) (its':List It),Gs C W its' (l)->its'.length+24*e.length<=8000000->Calls Tryz.prog 92 #[.pointer (some ⟨C.P,0,none⟩),.slice ae e.length ce,.int .i64 (0)] W fun x w'=>(∃u,x = .returned u)/\Wd C W its' c0 m0 w'):=fun W its' hg hln=>by
    have:=HX.out (.slice ae e.length ce) W its' (l) (0) HN.out hg o_ o_ o_ o_ hln
    rw [hG0] at this
    exact this
   have HE:Hid (codeS C.E C.en ⟨6,nm,e,f,tn,ln⟩ a b l=(c0++[insI 12 10 5 0 0,markI 4 C.en],m0)):=by show _=_;simp [codeS,hG0]
   go_enter Tryz.func70,Tryz.ntmps70
   obtain ⟨g1,g2,g3,g5⟩:=HCl.out W2 (Wq.refl _ _ _)
   go_wp2_with fail
   rw [<-HW2.out]
   refine (HC0.out W2 its HG2.out (by (try simp only [l_a,l_c,l_n]);omega)).mono ?_
   rintro x w_1 ⟨⟨u_1,rfl⟩,hw_1⟩
   have HW_1:=hide hw_1
   go_wp2_with fail
   refine (putC C HC.out _ _ _ HW_1.out.gs 12 10 5 0 0 (by (try simp only [l_a,l_c,l_n]);omega)).mono ?_
   rintro x w_2 ⟨⟨u_2,rfl⟩,hw_2⟩
   have HW_2:Hid (Wd C W2 its (c0++[insI 12 10 5 0 0]) (m0) w_2):=HW_1.out.trans hw_2
   have p4:w_2.cell? ⟨C.P,4,none⟩=some (.int .i64 C.en):=HW_2.out.gs.es.oth 4 (by decide) (by decide)
   go_wp2_with fail
   refine (markC C HC.out _ _ _ HW_2.out.gs 4 C.en (by (try simp only [l_a,l_c,l_n]);omega)).mono ?_
   rintro x w_3 ⟨⟨u_3,rfl⟩,hw_3⟩
   have HW_3:=hide (HW_2.out.trans hw_3)
   go_wp2_with fail
   have HZ:=HWw.out HW_3.out
   refine bodyPost_end (v:=.tuple #[]) (by simp [results,Tryz.results70,go_sem]) rfl ⟨⟨_,rfl⟩,?_⟩
   rw [HE.out]
   simp only [List.append_assoc,List.cons_append,List.nil_append] at HZ ⊢
   exact HZ
 ·as_aux_lemma=>
   obtain ⟨q0a,q0b,q0c⟩:=HBd.out (0) (l)
   obtain ⟨c0,m0,hG0⟩ : ∃c m,codeE C.E e (0) (l)=(c,m):=⟨_,_,rfl⟩
   rw [hG0] at q0a q0b q0c
   simp only at q0a q0b q0c
   have HC0:Hid (∀(W:World) (its':List It),Gs C W its' (l)->its'.length+24*e.length<=8000000->Calls Tryz.prog 92 #[.pointer (some ⟨C.P,0,none⟩),.slice ae e.length ce,.int .i64 (0)] W fun x w'=>(∃u,x = .returned u)/\Wd C W its' c0 m0 w'):=fun W its' hg hln=>by
    have:=HX.out (.slice ae e.length ce) W its' (l) (0) HN.out hg o_ o_ o_ o_ hln
    rw [hG0] at this
    exact this
   have HE:Hid (codeS C.E C.en ⟨7,nm,e,f,tn,ln⟩ a b l=(c0++[insI 12 10 5 0 0,insI 12 17 0 0 1,insI 34 0 0 0 0],m0)):=by show _=_;simp [codeS,hG0]
   go_enter Tryz.func70,Tryz.ntmps70
   obtain ⟨g1,g2,g3,g5⟩:=HCl.out W2 (Wq.refl _ _ _)
   go_wp2_with fail
   rw [<-HW2.out]
   refine (HC0.out W2 its HG2.out (by (try simp only [l_a,l_c,l_n]);omega)).mono ?_
   rintro x w_1 ⟨⟨u_1,rfl⟩,hw_1⟩
   have HW_1:=hide hw_1
   go_wp2_with fail
   refine (putC C HC.out _ _ _ HW_1.out.gs 12 10 5 0 0 (by (try simp only [l_a,l_c,l_n]);omega)).mono ?_
   rintro x w_2 ⟨⟨u_2,rfl⟩,hw_2⟩
   have HW_2:Hid (Wd C W2 its (c0++[insI 12 10 5 0 0]) (m0) w_2):=HW_1.out.trans hw_2
   go_wp2_with fail
   refine (putC C HC.out _ _ _ HW_2.out.gs 12 17 0 0 1 (by (try simp only [l_a,l_c,l_n]);omega)).mono ?_
   rintro x w_3 ⟨⟨u_3,rfl⟩,hw_3⟩
   have HW_3:=hide (HW_2.out.trans hw_3)
   go_wp2_with fail
   refine (putC C HC.out _ _ _ HW_3.out.gs 34 0 0 0 0 (by (try simp only [l_a,l_c,l_n]);omega)).mono ?_
   rintro x w_4 ⟨⟨u_4,rfl⟩,hw_4⟩
   have HW_4:=hide (HW_3.out.trans hw_4)
   go_wp2_with fail
   have HZ:=HWw.out HW_4.out
   refine bodyPost_end (v:=.tuple #[]) (by simp [results,Tryz.results70,go_sem]) rfl ⟨⟨_,rfl⟩,?_⟩
   rw [HE.out]
   simp only [List.append_assoc,List.cons_append,List.nil_append] at HZ ⊢
   exact HZ
 ·as_aux_lemma=>
   obtain ⟨q0a,q0b,q0c⟩:=HBd.out (0) (l)
   obtain ⟨c0,m0,hG0⟩ : ∃c m,codeE C.E e (0) (l)=(c,m):=⟨_,_,rfl⟩
   rw [hG0] at q0a q0b q0c
   simp only at q0a q0b q0c
   have HC0:Hid (∀(W:World) (its':List It),Gs C W its' (l)->its'.length+24*e.length<=8000000->Calls Tryz.prog 92 #[.pointer (some ⟨C.P,0,none⟩),.slice ae e.length ce,.int .i64 (0)] W fun x w'=>(∃u,x = .returned u)/\Wd C W its' c0 m0 w'):=fun W its' hg hln=>by
    have:=HX.out (.slice ae e.length ce) W its' (l) (0) HN.out hg o_ o_ o_ o_ hln
    rw [hG0] at this
    exact this
   have HE:Hid (codeS C.E C.en ⟨8,nm,e,f,tn,ln⟩ a b l=(c0,m0)):=by show _=_;simp [codeS,hG0]
   go_enter Tryz.func70,Tryz.ntmps70
   obtain ⟨g1,g2,g3,g5⟩:=HCl.out W2 (Wq.refl _ _ _)
   go_wp2_with fail
   rw [<-HW2.out]
   refine (HC0.out W2 its HG2.out (by (try simp only [l_a,l_c,l_n]);omega)).mono ?_
   rintro x w_1 ⟨⟨u_1,rfl⟩,hw_1⟩
   have HW_1:=hide hw_1
   go_wp2_with fail
   have HZ:=HWw.out HW_1.out
   refine bodyPost_end (v:=.tuple #[]) (by simp [results,Tryz.results70,go_sem]) rfl ⟨⟨_,rfl⟩,?_⟩
   rw [HE.out]
   simp only [List.append_assoc,List.cons_append,List.nil_append] at HZ ⊢
   exact HZ
end Go.Proofs.YtnpidjamplmgjaaGreatDoor
