import Derived.Test.YtmddmgpijpjpbaaGreatDoorR47
import Derived.Deep.RegionLaw
import Derived.Test.YtmddmgpijpjpbaaGreatDoorR27
set_option linter.unusedSectionVars false
variable [Inhabited Go.Proofs.YtmddmgpijpjpbaaGreatDoor.Pick]
namespace Go.Proofs.YtmddmgpijpjpbaaGreatDoor
open Go.RowKit
set_option linter.unusedVariables false
set_option linter.unusedSimpArgs false
set_option maxRecDepth 100000
set_option maxHeartbeats 16000000
theorem tree_parts {t:Tr} (h:treeB t=true):t.globals.length<=50/\t.funcs.length<=50/\(∀g∈t.globals,g.name.size<=20)/\∀f∈t.funcs,funcB f=true:=by
 unfold treeB at h
 simp only [Bool.and_eq_true,decide_eq_true_eq,List.all_eq_true] at h
 obtain ⟨h1,h2,h3,h4⟩:=h
 refine ⟨h1,h2,fun g hg => ?_,h4⟩
 have:=h3 g hg
 unfold globB at this
 rw [Bool.and_eq_true] at this
 exact nameB_small this.1
theorem box_fr3 (w:World) (x0 x1 x2:Value) (t:TypeId):FrC (w.alloc (.cells #[x0,x1,x2] t)) w.heap.size [x0,x1,x2]:=by
 intro j x hj
 have hh:(w.alloc (.cells #[x0,x1,x2] t)).heap[w.heap.size]? = some (.cells #[x0,x1,x2] t (0,0)):=(MapKept.heap_alloc w _).1
 have hz : ∀j,(w.alloc (.cells #[x0,x1,x2] t)).frozen? ⟨w.heap.size,j,none⟩=false:=fun j=>by
  unfold World.frozen?
  simp only [hh]
  simp
 have hl:=(List.getElem?_eq_some_iff.1 hj).1
 simp only [l_c,l_n] at hl
 match j,hl with
 | 0,_=>exact ⟨by simp at hj ⊢;exact hj,hz _⟩
 | 1,_=>exact ⟨by simp at hj ⊢;exact hj,hz _⟩
 | 2,_=>exact ⟨by simp at hj ⊢;exact hj,hz _⟩
theorem FrC.three {w:World} {g:Nat} {x0 x1 x2:Value} (h:FrC w g [x0,x1,x2]):w.cell? ⟨g,0,none⟩=some x0/\w.cell? ⟨g,1,none⟩=some x1/\w.cell? ⟨g,2,none⟩=some x2:=
 ⟨(h 0 x0 rfl).1,(h 1 x1 rfl).1,(h 2 x2 rfl).1⟩
theorem simplifyI_good (t:Tr) (fs:List Fu) (m:Nat) (vg vf:Value) (w:World) (hT:Tab w) (hs:smallT t) (hw:wfT t) (hg:Globs w vg t.globals) (hf:Funcs w vf t.funcs) (hz:(checkE t).1=0) (hS:SimFs t.funcs fs) (hm:fnum t.funcs mainS=some m) :
  Calls Tryz.prog 18 #[.agg #[vg,vf]] w fun e w'=>∃vg' vf' Q,e = .returned (.agg #[vg',vf'])/\TreeOwn w.heap.size w' vg' vf' ⟨t.globals,leftL (needB t.globals fs m) fs fs.length⟩ Q/\Below w.heap.size w w':=by
 have HSd:Hid (∀W,Bl w W->Calls Tryz.prog 31 #[.agg #[vg,vf]] W fun e w'=>e = .returned (.bool true)/\Bl W w'):=fun W hW=>by
  have:=sound_any t vg vf W (hT.below hT.size hW) hs hw (hg.below hW) (hf.below hW)
  rw [decide_eq_true hz] at this
  exact this
 obtain ⟨p1,p2,p3,p4⟩:=tree_parts (sound_tree hz)
 have hfl:=hS.1
 have hsz:=hT.size
 obtain ⟨ag,cg,rfl,hgn,hgc⟩:=globs_flat hg
 have HCl:Hid (∀W,Bl w W->Calls Tryz.prog 43 #[.slice ag t.globals.length cg] W fun e w'=>∃a n c,e = .returned (.slice a n c)/\w'.ownsRow W.heap.size 58 2 (.slice a n c) t.globals.length (flatG t.globals)/\Bl W w'):=fun W hW=>by
  refine (clone_glb ag t.globals.length cg (flatG t.globals) W hgn (flatG_len _) (fun ad had j u hu=>by
   have c:=hgc ad had j u hu
   have hlt:=World.block_lt_of_cell? _ _ c
   exact (hW.cell hlt).trans c) (fun u hu=>by
    simp only [flatG,List.mem_flatMap] at hu
    obtain ⟨x,-,hu⟩:=hu
    simp only [cellsG,List.mem_cons,List.not_mem_nil,or_false] at hu
    rcases hu with rfl | rfl <;> rfl) (by omega)).mono ?_
  rintro e w' ⟨u,rfl,h1,h2⟩
  obtain ⟨a,n,c,rfl⟩ : ∃a n c,u = .slice a n c:=by
   rcases h1.2 with ⟨rfl,-⟩ | ⟨g,cap,cur,rfl,-⟩ <;> exact ⟨_,_,_,rfl⟩
  exact ⟨a,n,c,rfl,h1,h2⟩
 obtain ⟨af,cf,rfl,-,-,hfc⟩:=id hf
 have HFC:=hide hfc
 have HSf:Hid (∀(k:Nat) (h:k<t.funcs.length) (h':k<fs.length) (vp vb:Value) (W:World),Bl w W->Strs W vp t.funcs[k].params->Stmts W vb t.funcs[k].body->Calls Tryz.prog 44 #[.agg #[.string t.funcs[k].name,vp,vb]] W fun e w'=>∃pa pn pc ba bn bc R,e = .returned (.agg #[.string fs[k].name,.slice pa pn pc,.slice ba bn bc])/\FnOne W.heap.size w' (.slice pa pn pc) (.slice ba bn bc) fs[k] R/\Bl W w'):=fun k h h' vp vb W hW h1 h2=>by
  refine (simplifiedFunc_any t.funcs[k] fs[k] vp vb W (hT.below hsz hW) h1 h2 (p4 _ (List.getElem_mem h)) (hS.2 k h h')).mono ?_
  rintro e w' ⟨vp',vb',R,rfl,h3,h4⟩
  obtain ⟨a,n,c,rfl⟩ : ∃a n c,vp' = .slice a n c:=by
   rcases h3.ps.2 with ⟨rfl,-⟩ | ⟨g,cap,cur,rfl,-⟩ <;> exact ⟨_,_,_,rfl⟩
  obtain ⟨a',c',rfl⟩:=h3.body.shape
  exact ⟨a,n,c,a',_,c',R,rfl,h3,h4⟩
 have HOk:Hid (∀q:FV,q.f∈fs->OkF q.f):=fun q hq=>by
  obtain ⟨j,hj,he⟩:=List.mem_iff_getElem.1 hq
  rw [<-he]
  exact (hS.2 j (by omega) hj).ok (p4 _ (List.getElem_mem (by omega)))
 have HMn:Hid (fnum fs mainS=some m):=by show _=_;rw [hS.names];exact hm
 clear hT hs hw hz hsz hgn hgc hg hf hfc hS hm p3 p4
 go_enter Tryz.func18,Tryz.ntmps18
 go_wp2_with fail
 obtain ⟨M,hM⟩ : ∃M,M=w.heap.size:=⟨_,rfl⟩
 obtain ⟨W0,hW0⟩ : ∃W0,W0=((w.alloc (.cells #[.slice ag t.globals.length cg,.slice af t.funcs.length cf] 34)).alloc (.cells #[.slice none 0 0,.slice none 0 0] 34)):=⟨_,rfl⟩
 have hs0:W0.heap.size=M+2:=by rw [hW0,hM];simp
 have hb0:Bl w W0:=by rw [hW0];exact (bel_a _ _).alloc (by simp) _
 have HX0:Hid (FrC W0 (M+1) [.slice none 0 0,.slice none 0 0]):=by
  have:=box_fr2 (w.alloc (.cells #[.slice ag t.globals.length cg,.slice af t.funcs.length cf] 34)) (.slice none 0 0) (.slice none 0 0) 34
  rw [World.size_alloc,<-hM,<-hW0] at this
  exact this
 have HY0:Hid (FrC W0 M [.slice ag t.globals.length cg,.slice af t.funcs.length cf]):=by
  have h1:=box_fr2 w (.slice ag t.globals.length cg) (.slice af t.funcs.length cf) 34
  rw [<-hM] at h1
  rw [hW0]
  exact h1.below (bel_a _ _)
 rw [<-hW0,<-hM]
 have HMw:=hide hM
 clear hW0 hM
 refine (HSd.out W0 hb0).mono ?_
 rintro e w1 ⟨rfl,hb1⟩
 have hbw1:Bl w w1:=hb0.trans (hb1.mono hb0.size)
 have HX1:Hid (FrC w1 (M+1) [.slice none 0 0,.slice none 0 0]):=HX0.out.below hb1
 have HY1:=hide (HY0.out.below hb1)
 obtain ⟨y0,y1,-,-⟩:=HY1.out.two
 have hs1:M+2<=w1.heap.size:=by rw [<-hs0];exact hb1.size
 clear hb1 HX0 HY0 HSd hb0 hs0
 go_wp2_with fail
 refine (HCl.out w1 hbw1).mono ?_
 rintro e w2 ⟨ua,un,uc,rfl,hu,hb2⟩
 have HU:=hide hu
 have hbw2:Bl w w2:=hbw1.trans (hb2.mono hbw1.size)
 have HX2:Hid (FrC w2 (M+1) [.slice none 0 0,.slice none 0 0]):=HX1.out.below hb2
 have HY2:=hide (HY1.out.below hb2)
 have hs2:w1.heap.size<=w2.heap.size:=hb2.size
 clear y0 y1
 obtain ⟨y0,y1,-,-⟩:=HY2.out.two
 have HT3:Hid (FrC (w2.alloc (.cells #[.slice ua un uc,.slice none 0 0] 34)) w2.heap.size [.slice ua un uc,.slice none 0 0]):=box_fr2 _ _ _ _
 have hMn:M≠w2.heap.size:=by omega
 have yy1:(w2.alloc (.cells #[.slice ua un uc,.slice none 0 0] 34)).cell? ⟨M,1,none⟩=some (.slice af t.funcs.length cf):=((Below.refl w2.heap.size w2).alloc (Nat.le_refl _) _ |>.cell (p:=⟨M,1,none⟩) (by show M<_;omega)).trans y1
 clear hu hb2 HX1 HY1 HCl hbw1
 go_wp2_with fail
 go_loopw [17] (fun i wr=>∃(k:Nat) (Q:List FV) (fa:Option Addr) (fc:Nat),k<=t.funcs.length/\i = .int .i64 k/\Q.map (fun q:FV=>q.f)=fs.take k/\FnRow (w2.heap.size+1) wr (.slice fa k fc) Q/\FrC wr w2.heap.size [.slice ua un uc,.slice fa k fc]/\Bl w2 wr/\w2.heap.size<wr.heap.size) (fun i _=>t.funcs.length-(RowKit.intOf i).toNat)
 case atStart=>exact ⟨0,[],none,0,Nat.zero_le _,rfl,by simp,FnRow.nil _ _,HT3.out,(Below.refl _ _).alloc (Nat.le_refl _) _,by simp⟩
 case round=>
  obtain ⟨k,Q,fa,fc,hk,rfl,hQm,hrow,hfr,hBr,hsr⟩:=hrel
  have HRow:=hide hrow
  have HQm:=hide hQm
  have HFr:=hide hfr
  have hbw:Bl w wr:=hbw2.trans (hBr.mono hbw2.size)
  have HBr:=hide hBr
  clear hrow hQm hfr
  by_cases hlt:k<t.funcs.length
  ·obtain ⟨b,off,rfl,hfc⟩:=HFC.out (by omega)
   obtain ⟨vp,vb,⟨c0,c1,c2⟩,hvp,hvb⟩:=(hfc.below hbw) k hlt
   have hkf:k<fs.length:=by omega
   have HC:=hide fun W (hW:Bl wr W)=>HSf.out k hlt hkf vp vb W (hbw.trans (hW.mono hbw.size)) (hvp.below hW) (hvb.below hW)
   obtain ⟨pa0,pc0,rfl,-⟩:=hvp
   obtain ⟨ba0,bc0,rfl,-⟩:=hvb
   obtain ⟨lp,hlp⟩ : ∃l,t.funcs[k].params.length=l:=⟨_,rfl⟩
   obtain ⟨lb,hlb⟩ : ∃l,t.funcs[k].body.length=l:=⟨_,rfl⟩
   obtain ⟨nm,hnm⟩ : ∃l,t.funcs[k].name=l:=⟨_,rfl⟩
   obtain ⟨nm',hnm'⟩ : ∃l,fs[k].name=l:=⟨_,rfl⟩
   rw [hlp] at c1 HC
   rw [hlb] at c2 HC
   rw [hnm] at c0 HC
   rw [hnm'] at HC
   have HNm:=hide hnm'
   have i1:(0:Int)<=(k:Int):=by omega
   have i2:(k:Int)<(t.funcs.length:Int):=by omega
   obtain ⟨M5,hM5⟩ : ∃M5,M5=wr.heap.size:=⟨_,rfl⟩
   obtain ⟨W5,hW5⟩ : ∃W5,W5=wr.alloc (.cells #[.string nm,.slice pa0 lp pc0,.slice ba0 lb bc0] 85):=⟨_,rfl⟩
   obtain ⟨M3,hM3⟩ : ∃M3,M3=w2.heap.size:=⟨_,rfl⟩
   have hb5:Bl wr W5:=by rw [hW5];exact (Below.refl _ _).alloc (Nat.le_refl _) _
   have hs5:W5.heap.size=M5+1:=by rw [hW5,hM5];simp
   have HX5:Hid (FrC W5 M5 [.string nm,.slice pa0 lp pc0,.slice ba0 lb bc0]):=by rw [hW5,hM5];exact box_fr3 _ _ _ _ _
   have HF5:Hid (FrC W5 M3 [.slice ua un uc,.slice fa k fc]):=by rw [hM3];exact HFr.out.below hb5
   have hd:Bl W5 W5.drew:=(Below.refl _ _).drew
   have HCc:Hid (Calls Tryz.prog 44 #[.agg #[.string nm,.slice pa0 lp pc0,.slice ba0 lb bc0]] W5.drew fun e w'=>∃pa pn pc ba bn bc R,e = .returned (.agg #[.string nm',.slice pa pn pc,.slice ba bn bc])/\FnOne W5.heap.size w' (.slice pa pn pc) (.slice ba bn bc) fs[k] R/\Bl W5 w'):=by
    refine (HC.out W5.drew (hb5.trans (hd.mono hb5.size))).mono ?_
    rintro e w' ⟨pa,pn,pc,ba,bn,bc,R,h1,h2,h3⟩
    exact ⟨pa,pn,pc,ba,bn,bc,R,h1,h2,hd.trans h3⟩
   have HAp:Hid (∀(wt:World) (pa:Option Addr) (pn pc:Nat) (ba:Option Addr) (bn bc:Nat) (R:List SV),FnOne W5.heap.size wt (.slice pa pn pc) (.slice ba bn bc) fs[k] R->Bl W5 wt->(FrC wt M5 [.string nm,.slice pa0 lp pc0,.slice ba0 lb bc0]/\FrC wt M3 [.slice ua un uc,.slice fa k fc]/\(wt.alloc (.cells #[.string nm',.slice pa pn pc,.slice ba bn bc] 85)).cell? ⟨M3,1,none⟩=some (.slice fa k fc))/\∃va vc w7 q,(Builtin.append_ #[32,32] 32 #[.slice fa k fc,.slice (some ⟨wt.heap.size,0,none⟩) 1 1]).run Tryz.prog (wt.alloc (.cells #[.string nm',.slice pa pn pc,.slice ba bn bc] 85)) = .ok (.slice va (k+1) vc) w7/\FnRow (M3+1) w7 (.slice va (k+1) vc) (Q++[q])/\q.f=fs[k]/\FrC w7 M3 [.slice ua un uc,.slice fa k fc]/\FrC w7 M5 [.string nm,.slice pa0 lp pc0,.slice ba0 lb bc0]/\Below M3 w2 w7/\M3<w7.heap.size):=fun wt pa pn pc ba bn bc R hfn hbt=>by
    have hst:=hbt.size
    have fM5:=HX5.out.below hbt
    have fM3:=HF5.out.below hbt
    obtain ⟨kp,kb,hfv⟩:=hfn.fv
    have hQl:Q.length=k:=by
     have:=congrArg List.length HQm.out
     simp only [List.length_map,List.length_take] at this
     omega
    have hA:Bl wt (wt.alloc (.cells #[.string nm',.slice pa pn pc,.slice ba bn bc] 85)):=bel_a _ _
    have hrt:Bl wr wt:=hb5.trans (hbt.mono hb5.size)
    have hrow:FnRow (M3+1) (wt.alloc (.cells #[.string nm',.slice pa pn pc,.slice ba bn bc] 85)) (.slice fa k fc) Q:=by rw [hM3];exact (HRow.out.below hrt).below hA
    obtain ⟨v',w7,r1,r2,r3,r4⟩:=fn_app (c:=1) (ad:=⟨wt.heap.size,0,none⟩) 32 hrow ((hfv.below hA).base (show M3+1<=_ by omega)) (fun j x hx=>by
     have e:cellsF ⟨fs[k],.slice pa pn pc,.slice ba bn bc,R,kp,kb⟩ = [.string nm',.slice pa pn pc,.slice ba bn bc]:=by simp [cellsF,HNm.out]
     rw [e] at hx
     have:=(box_fr3 wt (.string nm') (.slice pa pn pc) (.slice ba bn bc) 85 j x hx).1
     simpa [addrO] using this) (fun g hg=>by
      have h1:=(hfv.rng g hg).1
      refine ⟨fun h => ?_,fun h => ?_⟩
      ·have:=(HRow.out.rng g h).2;omega
      ·have:=(World.ownsRow.lt HRow.out.row g h).2;omega) ⟨rfl,rfl⟩ (by simp;omega) (by omega)
    obtain ⟨va,vc,rfl⟩:=r2.shape
    have hl:(Q++[(⟨fs[k],.slice pa pn pc,.slice ba bn bc,R,kp,kb⟩:FV)]).length=k+1:=by simp [hQl]
    rw [hl] at r1 r2
    have hown : ∀g,(Value.slice fa k fc).ownBlock=some g->M3+1<=g/\g<M5:=fun g hg=>by
     have:=World.ownsRow.lt HRow.out.row g hg
     omega
    refine ⟨⟨fM5,fM3,(fM3.below hA).two.2.1⟩,va,vc,w7,_,r1,r2,rfl,?_,?_,?_,?_⟩
    ·exact (fM3.below hA).keep (r3.block M3 (by simp;omega) (fun e=>by have:=(hown M3 e.symm).1;omega))
    ·exact (fM5.below hA).keep (r3.block M5 (by simp;omega) (fun e=>by have:=(hown M5 e.symm).2;omega))
    ·have h1:Below M3 w2 (wt.alloc (.cells #[.string nm',.slice pa pn pc,.slice ba bn bc] 85)):=by
      rw [hM3]
      exact HBr.out.trans ((hrt.trans (hA.mono hrt.size)).mono (by omega))
     exact h1.grown r3 (by simp;omega) (fun g hg=>by have:=(hown g hg).1;omega)
    ·have:=r3.size
     simp at this
     omega
   obtain ⟨d0,d1,d2⟩:=(HX5.out.below hd).three
   obtain ⟨-,e1,-,-⟩:=(HF5.out.below hd).two
   have HK:Hid (∀(W:World) (x:Nat) (y:Value),(W.cell? ⟨M5,0,none⟩=some (.string nm)/\W.cell? ⟨M5,1,none⟩=some (.slice pa0 lp pc0)/\W.cell? ⟨M5,2,none⟩=some (.slice ba0 lb bc0))->(W.setCell ⟨M3,x,none⟩ y).cell? ⟨M5,0,none⟩=some (.string nm)/\(W.setCell ⟨M3,x,none⟩ y).cell? ⟨M5,1,none⟩=some (.slice pa0 lp pc0)/\(W.setCell ⟨M3,x,none⟩ y).cell? ⟨M5,2,none⟩=some (.slice ba0 lb bc0)):=fun W x y h=>by
    have hne:M5≠M3:=by omega
    exact ⟨(World.cell?_of_block (a:=⟨M5,0,none⟩) (Below.heap_setCell W ⟨M3,x,none⟩ y _ hne)).trans h.1,(World.cell?_of_block (a:=⟨M5,1,none⟩) (Below.heap_setCell W ⟨M3,x,none⟩ y _ hne)).trans h.2.1,(World.cell?_of_block (a:=⟨M5,2,none⟩) (Below.heap_setCell W ⟨M3,x,none⟩ y _ hne)).trans h.2.2⟩
   have HTk:Hid (fs.take (k+1)=fs.take k++[fs[k]]):=take_succ' hkf
   have HM3:=hide hM3
   have HM5:=hide hM5
   have HW5:=hide hW5
   clear hlp hlb hnm hnm' hfc hbw HX2 HSf HFC y0 y1 yy1 hM3 hM5 hW5 hb5 hd hs5 hBr hsr HC
   go_upto_region 7 with fail
   rw [<-HW5.out,<-HM5.out,<-HM3.out]
   go_region_law
    (first
    | (go_simp;(with_reducible refine Calls.mono HCc.out ?_);intro x wt hx;obtain ⟨pa,pn,pc,ba,bn,bc,R,hxe,hfn,hbt⟩:=hx;subst hxe;obtain ⟨⟨f5,f3,et2⟩,va,vc,w7,q',r1,hr7,hq7,hf7,hg7,hb7,hs7⟩:=HAp.out wt pa pn pc ba bn bc R hfn hbt;have et:=f3.two.2.1;obtain ⟨-,g1,-,g3⟩:=hf7.two;clear f5 f3 hfn hbt)
    | (refine step_appR rfl _ _ _ rfl _ _ _ _ rfl rfl r1 ?_))
   all_goals (
    have HRel:Hid (∃(k':Nat) (Q':List FV) (fa':Option Addr) (fc':Nat),k'=k+1/\(Value.slice va (k+1) vc) = .slice fa' k' fc'/\Q'.map (fun q:FV=>q.f)=fs.take k'/\FnRow (M3+1) (w7.setCell ⟨M3,1,none⟩ (.slice va (k+1) vc)) (.slice fa' k' fc') Q'/\FrC (w7.setCell ⟨M3,1,none⟩ (.slice va (k+1) vc)) M3 [.slice ua un uc,.slice fa' k' fc']/\Below M3 w2 (w7.setCell ⟨M3,1,none⟩ (.slice va (k+1) vc))/\M3<(w7.setCell ⟨M3,1,none⟩ (.slice va (k+1) vc)).heap.size):=by
     refine ⟨k+1,Q++[q'],va,vc,rfl,rfl,?_,?_,hf7.set 1 _,hb7.setCell (p:=⟨M3,1,none⟩) (Nat.le_refl _) _,by simpa using hs7⟩
     ·rw [List.map_append,HQm.out,HTk.out,List.map_cons,List.map_nil,hq7]
     ·exact hr7.keepB (by simp) (fun g h1 h2=>Below.heap_setCell _ _ _ g (by show g≠M3;omega))
    clear hr7 hq7 hf7 hg7 hb7 hs7 et et2 r1 HAp HCc HX5 HF5 HRow HQm HFr HBr
    go_wp2_with fail
    rw [HM3.out] at HRel ⊢
    go_roundw
    case rel=>
     obtain ⟨k',Q',fa',fc',rfl,hv,h1,h2,h3,h4,h5⟩:=HRel.out
     simp only [Value.slice.injEq] at hv
     obtain ⟨rfl,-,rfl⟩:=hv
     exact ⟨k+1,Q',va,vc,by omega,by go_num,h1,h2,h3,h4,h5⟩
    case measure=>simp [RowKit.intOf];omega)
  ·obtain rfl:k=t.funcs.length:=by omega
   obtain ⟨x0,x1,-,-⟩:=HFr.out.two
   obtain ⟨M3,hM3⟩ : ∃M3,M3=w2.heap.size:=⟨_,rfl⟩
   have hQf:Q.map (fun q:FV=>q.f)=fs:=by rw [HQm.out,List.take_of_length_le (by omega)]
   have hQl:Q.length=t.funcs.length:=by
    have:=congrArg List.length hQf
    simp only [List.length_map] at this
    omega
   have HNd:Hid (Calls Tryz.prog 45 #[.agg #[.slice ua un uc,.slice fa t.funcs.length fc]] wr fun e w'=>∃a n c,e = .returned (.slice a n c)/\FnRow (M3+1) w' (.slice a n c) (leftL (needB t.globals fs m) Q Q.length)/\Bl wr w'):=by
    have h:=neededFuncs_any t.globals Q m (M3+1) (.slice ua un uc) (.slice fa t.funcs.length fc) wr (by rw [hQf];exact HMn.out) (by omega) (fun q hq=>HOk.out q (by rw [<-hQf];exact List.mem_map.2 ⟨q,hq,rfl⟩)) ⟨_,_,_,rfl⟩ (by rw [hM3];exact HRow.out) (by omega)
    rw [hQf] at h
    refine h.mono ?_
    rintro e w' ⟨v,rfl,h1,h2⟩
    obtain ⟨a,c,rfl⟩:=h1.shape
    exact ⟨a,_,c,rfl,h1,h2⟩
   have HQf:Hid (Q.map (fun q:FV=>q.f)=fs/\Q.length=fs.length):=⟨hQf,by omega⟩
   have HM3:=hide hM3
   have HX3:Hid (FrC wr (M+1) [.slice none 0 0,.slice none 0 0]):=HX2.out.below (by exact hBr)
   clear hQf hQl y0 y1 yy1 HRow HQm hbw
   go_wp2_with fail
   refine HNd.out.mono ?_
   rintro e w8 ⟨na,nn,nc,rfl,hn8,hb8⟩
   have HF8:Hid (FrC w8 M3 [.slice ua un uc,.slice fa t.funcs.length fc]):=by rw [hM3];exact HFr.out.below hb8
   have HX8:Hid (FrC w8 (M+1) [.slice none 0 0,.slice none 0 0]):=HX3.out.below hb8
   have hB8:Bl w2 w8:=HBr.out.trans (hb8.mono HBr.out.size)
   obtain ⟨W9,hW9⟩ : ∃W9,W9=((w8.setCell ⟨M3,1,none⟩ (.slice na nn nc)).setCell ⟨M+1,0,none⟩ (.slice ua un uc)).setCell ⟨M+1,1,none⟩ (.slice na nn nc):=⟨_,rfl⟩
   have hk9 : ∀g,g≠M3->g≠M+1->W9.heap[g]? = w8.heap[g]? := fun g h1 h2=>by
    rw [hW9,Below.heap_setCell _ _ _ g (by simpa using h2),Below.heap_setCell _ _ _ g (by simpa using h2),Below.heap_setCell _ _ _ g (by simpa using h1)]
   have hs9:w8.heap.size<=W9.heap.size:=by rw [hW9];simp
   have hMw:=HMw.out
   have HTo:Hid (TreeOwn w.heap.size W9 (.slice ua un uc) (.slice na nn nc) ⟨t.globals,leftL (needB t.globals fs m) fs fs.length⟩ (leftL (needB t.globals fs m) Q Q.length)):=by
    have hug : ∀g,(Value.slice ua un uc).ownBlock=some g->w1.heap.size<=g/\g<w2.heap.size:=fun g hg=>World.ownsRow.lt HU.out g hg
    refine ⟨?_,?_,?_,fun g hg => ?_⟩
    ·refine own_base (own_keep HU.out fun g hg => ?_) (by omega)
     obtain ⟨h1,h2⟩:=hug g hg
     rw [hk9 g (by omega) (by omega)]
     exact hB8.block g h2
    ·exact (hn8.keepB hs9 (fun g h1 h2=>hk9 g (by omega) (by omega))).base (by omega)
    ·rw [leftL_map,HQf.out.1,HQf.out.2]
    ·obtain ⟨h1,h2⟩:=hug g hg
     exact ⟨fun h=>by have:=(hn8.rng g h).1;omega,fun h=>by have:=(World.ownsRow.lt hn8.row g h).1;omega⟩
   have HB9:Hid (Bl w W9):=by
    have h1:Bl w w8:=hbw2.trans (hB8.mono hbw2.size)
    have h2:=hbw2.size
    rw [hW9]
    exact ((h1.setCell (p:=⟨M3,1,none⟩) (by show _<=M3;omega) _).setCell (p:=⟨M+1,0,none⟩) (by show _<=M+1;omega) _).setCell (p:=⟨M+1,1,none⟩) (by show _<=M+1;omega) _
   have HFa:Hid (FrC (w8.setCell ⟨M3,1,none⟩ (.slice na nn nc)) M3 [.slice ua un uc,.slice na nn nc]):=HF8.out.set 1 _
   have HXa:Hid (FrC (w8.setCell ⟨M3,1,none⟩ (.slice na nn nc)) (M+1) [.slice none 0 0,.slice none 0 0]):=HX8.out.keep (Below.heap_setCell _ _ _ _ (by show M+1≠M3;omega))
   have HXb:Hid (FrC W9 (M+1) [.slice ua un uc,.slice na nn nc]):=by rw [hW9];exact (HXa.out.set 0 _).set 1 _
   obtain ⟨-,q1,-,q3⟩:=HF8.out.two
   obtain ⟨r0,r1,-,-⟩:=HFa.out.two
   obtain ⟨s0,s1,s2,s3⟩:=HXa.out.two
   obtain ⟨t0,t1,-,-⟩:=HXb.out.two
   have HW9:=hide hW9
   clear hn8 hb8 hB8 hk9 hs9 hMw hW9 x0 x1
   rw [<-hM3] at *
   go_wp2_with fail
   rw [<-HW9.out]
   refine bodyPost_ret (v:=.agg #[.slice ua un uc,.slice na nn nc]) (by simp [results,Tryz.results18,go_sem,t0,t1]) rfl ⟨_,_,_,rfl,HTo.out,HB9.out⟩
structure GfRow (X:List Nat) (B:Nat) (w:World) (v:Value) (Q:List FV):Prop where
 row:w.ownsRow B 85 3 v Q.length (flatF Q)
 each : ∀q∈Q,∀W,Tk (X++v.ownBlock.toList) w W->Strs W q.vp q.f.params/\Stmts W q.vb q.f.body
theorem GfRow.nil (X:List Nat) (B:Nat) (w:World):GfRow X B w (.slice none 0 0) []:=⟨World.ownsRow_nil _ _ _ _,fun q hq=>(by cases hq)⟩
theorem GfRow.tk {X:List Nat} {B:Nat} {w w':World} {v:Value} {Q:List FV} (h:GfRow X B w v Q) (hT:Tk (X++v.ownBlock.toList) w w') (hk : ∀g,v.ownBlock=some g->w'.heap[g]? = w.heap[g]?):GfRow X B w' v Q:=
 ⟨own_keep h.row hk,fun q hq W hW=>h.each q hq W (hT.trans hW)⟩
theorem GfRow.below {X:List Nat} {B:Nat} {w w':World} {v:Value} {Q:List FV} (h:GfRow X B w v Q) (hb:Below w.heap.size w w'):GfRow X B w' v Q:=
 h.tk (Tk.of_below hb) (fun g hg=>hb.block g (World.ownsRow.lt h.row g hg).2)
theorem GfRow.shape {X:List Nat} {B:Nat} {w:World} {v:Value} {Q:List FV} (h:GfRow X B w v Q) : ∃a c,v = .slice a Q.length c:=by
 rcases h.row.2 with ⟨rfl,hz⟩ | ⟨g,cap,cur,rfl,_⟩
 ·exact ⟨none,0,by rw [hz]⟩
 ·exact ⟨_,cap,rfl⟩
theorem GfRow.funcs {X:List Nat} {B:Nat} {w:World} {v:Value} {Q:List FV} (h:GfRow X B w v Q):Funcs w v (Q.map (fun q:FV=>q.f)):=by
 have h0:=h.row
 have he:=fun q hq=>h.each q hq w (Tk.refl _ _)
 rcases h.row.2 with ⟨rfl,hz⟩ | ⟨g,cap,cur,rfl,h3,h4,h5⟩
 ·exact ⟨none,0,by rw [List.length_map,hz],by rw [List.length_map,hz];exact Nat.le_refl _,by omega,fun h=>by rw [List.length_map] at h;omega⟩
 ·have hc:Q.length<=cap/\cap<=9223372036854775807:=by
   obtain ⟨q1,q2,-⟩:=h5
   unfold maxLen at q2
   exact ⟨q1,q2⟩
  refine ⟨some ⟨g,0,none⟩,cap,by rw [List.length_map],by rw [List.length_map];exact hc.1,hc.2,fun hp=>⟨g,0,rfl,fun j hj => ?_⟩⟩
  rw [List.length_map] at hj
  have key : ∀i,i<3->w.cell? ⟨g,0+j*3+i,none⟩=(cellsF Q[j])[i]? := fun i hi=>by
   have hl:(flatF Q).length=Q.length*3:=flatF_len Q
   rw [Nat.zero_add,World.ownsRow.cellAt h0 (j*3+i) (by omega),flatF_get Q j i hj hi]
  obtain ⟨e1,e2⟩:=he Q[j] (List.getElem_mem hj)
  refine ⟨Q[j].vp,Q[j].vb,?_,?_,?_⟩
  ·simp only [List.getElem_map]
   exact ⟨key 0 (by omega),key 1 (by omega),key 2 (by omega)⟩
  ·simp only [List.getElem_map];exact e1
  ·simp only [List.getElem_map];exact e2
theorem gf_app {X:List Nat} {w:World} {B c:Nat} {v:Value} {ad:Addr} {Q:List FV} {q:FV} (ty:TypeId) (h:GfRow X B w v Q) (hq : ∀W,Tk (X++v.ownBlock.toList) w W->Strs W q.vp q.f.params/\Stmts W q.vb q.f.body) (hcell : ∀j x,(cellsF q)[j]? = some x->w.cell? (ad.add j)=some x) (hone:q.vp.oneCell'=true/\q.vb.oneCell'=true) (hB:B<=w.heap.size) (hm:Q.length<=100000) :
  ∃v' w',(Builtin.append_ #[32,32] ty #[v,.slice (some ad) 1 c]).run Tryz.prog w = .ok v' w'/\GfRow X B w' v' (Q++[q])/\w.grownBy w' v.ownBlock/\∀k,v'.ownBlock=some k->v.ownBlock=some k∨w.heap.size<=k:=by
 obtain ⟨i0,hi,hz0,hz1,hz2⟩:=info_parts info_func
 obtain ⟨v',w',r1,r2,r3,r4⟩:=run_appG (P:=Tryz.prog) (w:=w) B 32 ty 85 i0 _ 3 64 Tryz.underlying32 hi hz0 hz1 hz2 rfl (by decide) v Q.length (flatF Q) h.row (some ad) 1 c (cellsF q) (fun h=>by cases h) rfl (fun a ha j x hx=>by cases ha;exact hcell j x hx) (fun u hu=>by
  simp only [cellsF,List.mem_cons,List.not_mem_nil,or_false] at hu
  rcases hu with rfl | rfl | rfl
  ·rfl
  ·exact hone.1
  ·exact hone.2) (by omega) (by decide) hB
 have hboth : ∀x∈Q++[q],∀W,Tk (X++v.ownBlock.toList) w W->Strs W x.vp x.f.params/\Stmts W x.vb x.f.body:=fun x hx=>by
  rcases List.mem_append.1 hx with hx | hx
  ·exact h.each x hx
  ·simp only [List.mem_singleton] at hx
   subst hx
   exact hq
 have hT:Tk (X++v.ownBlock.toList) w w':=⟨⟨r3.os,r3.tape,r3.output⟩,r3.size,fun b hl hb=>r3.block b hl (fun e=>hb (by rw [<-e];simp))⟩
 refine ⟨v',w',r1,⟨?_,fun x hx W hW=>hboth x hx W ?_⟩,r3,r4⟩
 ·rw [l_a,flatF_append]
  have:flatF [q]=cellsF q:=by simp [flatF]
  rw [this]
  exact r2
 ·refine ⟨⟨hW.still.1.trans hT.still.1,hW.still.2.1.trans hT.still.2.1,hW.still.2.2.trans hT.still.2.2⟩,Nat.le_trans hT.size hW.size,fun b hl hb => ?_⟩
  rw [hW.other b (Nat.lt_of_lt_of_le hl hT.size) (fun hm => ?_)]
  ·exact hT.other b hl hb
  ·rcases List.mem_append.1 hm with hm | hm
   ·exact hb (List.mem_append.2 (.inl hm))
   ·have e:v'.ownBlock=some b:=by simpa using hm
    rcases r4 b e with h | h
    ·exact hb (by rw [h];simp)
    ·omega
theorem strs_src {w:World} {v:Value} {us:List ByteArray} (h:Strs w v us):SSrc w v us:=by
 obtain ⟨a,cap,e,h1,h2⟩:=strs_flat h
 exact ⟨a,cap,e,fun ha=>List.eq_nil_of_length_eq_zero (h1 ha),h2⟩
end Go.Proofs.YtmddmgpijpjpbaaGreatDoor
