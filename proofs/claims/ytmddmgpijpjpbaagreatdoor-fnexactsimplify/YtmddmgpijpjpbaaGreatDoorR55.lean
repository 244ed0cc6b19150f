import Derived.Test.YtmddmgpijpjpbaaGreatDoorR53
import Derived.Test.YtmddmgpijpjpbaaGreatDoorR54
import Derived.Deep.RegionHeld3
namespace Go.Proofs.YtmddmgpijpjpbaaGreatDoor
open Go.RowKit
set_option linter.unusedVariables false
set_option linter.unusedSimpArgs false
set_option maxRecDepth 100000
set_option maxHeartbeats 16000000
section
set_option linter.unusedSectionVars false
variable [Inhabited Pick]
theorem sound_mainS {t:Tr} (h:(checkE t).1=0) : ∃m,fnum t.funcs mainS=some m:=by
 have hb:=sound_tree h
 by_cases hn:(namesE t).1=0
 ·exact names_ok_main hn
 ·rw [check_names hb hn] at h;exact absurd h hn
theorem SimT.exists (t:Tr) : ∃r,SimT t r:=by
 unfold SimT
 by_cases h:(checkE t).1=0
 ·obtain ⟨m,hm⟩:=sound_mainS h
  obtain ⟨fs,hfs⟩:=SimFs.exists t.funcs
  simp only [if_pos h]
  exact ⟨_,fs,m,hfs,hm,rfl⟩
 ·simp only [if_neg h]
  exact ⟨_,rfl⟩
theorem SimT.ok {t r:Tr} (h:SimT t r):r.globals.length<=50/\r.funcs.length<=50/\∀f∈r.funcs,OkF f:=by
 unfold SimT at h
 by_cases hc:(checkE t).1=0
 ·rw [if_pos hc] at h
  obtain ⟨fs,m,h1,h2,rfl⟩:=h
  obtain ⟨p1,p2,-,p4⟩:=tree_parts (sound_tree hc)
  refine ⟨p1,?_,fun f hf => ?_⟩
  ·have:=leftL_len (needB t.globals fs m) fs fs.length
   have:=h1.1
   show (leftL _ fs fs.length).length<=50
   omega
  ·obtain ⟨j,hj,rfl⟩:=List.mem_iff_getElem.1 (leftL_mem hf)
   have hl:=h1.1
   exact (h1.2 j (by omega) hj).ok (p4 _ (List.getElem_mem (by omega)))
 ·rw [if_neg hc] at h
  subst h
  exact ⟨by simp,by simp,fun f hf=>by cases hf⟩
theorem SimT.small {t r:Tr} (h:SimT t r):smallT r:=by
 obtain ⟨h1,h2,h3⟩:=h.ok
 exact ⟨by omega,by omega,fun f hf=>(h3 f hf).small⟩
theorem simI_any (t r:Tr) (vg vf:Value) (w:World) (hr:SimT t r) (hT:Tab w) (hs:smallT t) (hw:wfT t) (hg:Globs w vg t.globals) (hf:Funcs w vf t.funcs) :
  Calls Tryz.prog 18 #[.agg #[vg,vf]] w fun e w'=>∃ga gn gc fa fn fc Q,e = .returned (.agg #[.slice ga gn gc,.slice fa fn fc])/\TreeOwn w.heap.size w' (.slice ga gn gc) (.slice fa fn fc) r Q/\Below w.heap.size w w':=by
 have key:Calls Tryz.prog 18 #[.agg #[vg,vf]] w fun e w'=>∃vg' vf' Q,e = .returned (.agg #[vg',vf'])/\TreeOwn w.heap.size w' vg' vf' r Q/\Bl w w':=by
  unfold SimT at hr
  by_cases hc:(checkE t).1=0
  ·rw [if_pos hc] at hr
   obtain ⟨fs,m,h1,h2,rfl⟩:=hr
   exact simplifyI_good t fs m vg vf w hT hs hw hg hf hc h1 h2
  ·rw [if_neg hc] at hr
   subst hr
   exact simplifyI_bad t vg vf w hT hs hw hg hf hc
 refine key.mono ?_
 rintro e w' ⟨vg',vf',Q,rfl,h1,h2⟩
 obtain ⟨a,n,c,rfl⟩ : ∃a n c,vg' = .slice a n c:=by
  rcases h1.gs.2 with ⟨rfl,-⟩ | ⟨g,cap,cur,rfl,-⟩ <;> exact ⟨_,_,_,rfl⟩
 obtain ⟨a',c',rfl⟩:=h1.fs.shape
 exact ⟨a,n,c,a',_,c',Q,rfl,h1,h2⟩
theorem simG_any (t r:Tr) (vg vf:Value) (w:World) (hr:SimT t r) (hs:smallT t) (hw:wfT t) (hg:Globs w vg t.globals) (hf:Funcs w vf t.funcs) :
  Calls Tryz.prog 17 #[.agg #[vg,vf]] w fun e w'=>∃ga gn gc fa fn fc,e = .returned (.agg #[.slice ga gn gc,.slice fa fn fc])/\Globs w' (.slice ga gn gc) r.globals/\Funcs w' (.slice fa fn fc) r.funcs/\Below w.heap.size w w':=by
 have key:Calls Tryz.prog 17 #[.agg #[vg,vf]] w fun e w'=>∃vg' vf',e = .returned (.agg #[vg',vf'])/\Globs w' vg' r.globals/\Funcs w' vf' r.funcs/\Bl w w':=by
  unfold SimT at hr
  by_cases hc:(checkE t).1=0
  ·rw [if_pos hc] at hr
   obtain ⟨fs,m,h1,h2,rfl⟩:=hr
   exact simplifyG_good l3block t fs m vg vf w hs hw hg hf hc h1 h2
  ·rw [if_neg hc] at hr
   subst hr
   exact simplifyG_bad l3block t vg vf w hs hw hg hf hc
 refine key.mono ?_
 rintro e w' ⟨vg',vf',rfl,h1,h2,h3⟩
 obtain ⟨a,c,rfl,-⟩:=id h1
 obtain ⟨a',c',rfl,-⟩:=id h2
 exact ⟨a,_,c,a',_,c',rfl,h1,h2,h3⟩
theorem TreeOwn.read {B:Nat} {w:World} {vg vf:Value} {r:Tr} {Q:List FV} (h:TreeOwn B w vg vf r Q):Globs w vg r.globals/\Funcs w vf r.funcs:=by
 obtain ⟨K,h1,-⟩:=ROne.of_own h.gs
 refine ⟨h1.globs,?_⟩
 rw [<-h.map]
 exact h.fs.funcs
theorem TreeOwn.keepB {B:Nat} {w w':World} {vg vf:Value} {r:Tr} {Q:List FV} (h:TreeOwn B w vg vf r Q) (hs:w.heap.size<=w'.heap.size) (hk : ∀g,B<=g->g<w.heap.size->w'.heap[g]? = w.heap[g]?):TreeOwn B w' vg vf r Q:=
 ⟨own_keep h.gs fun g hg=>hk g (World.ownsRow.lt h.gs g hg).1 (World.ownsRow.lt h.gs g hg).2,h.fs.keepB hs hk,h.map,h.sep⟩
theorem TreeOwn.below {B:Nat} {w w':World} {vg vf:Value} {r:Tr} {Q:List FV} (h:TreeOwn B w vg vf r Q) (hb:Below w.heap.size w w'):TreeOwn B w' vg vf r Q:=h.keepB hb.size (fun g _ hg=>hb.block g hg)
theorem mark_own (B:Nat) (vg vf:Value) (r:Tr) (Q:List FV) (w:World) (hB:B<=w.heap.size) (h:TreeOwn B w vg vf r Q) (hg:r.globals.length<=50) (hf:r.funcs.length<=50) (hok : ∀f∈r.funcs,OkF f) :
  ∃N:Nat,(N:Int)<=1000000000/\(Calls Tryz.prog 13 #[.agg #[vg,vf],.int .i64 1] w fun e w'=>e = .returned (.int .i64 (N:Int))/\Below B w w'/\(∀x,x<w.heap.size->vg.ownBlock≠some x->vf.ownBlock≠some x->x∉blkF Q->w'.heap[x]? = w.heap[x]?)/\∀W,Below w'.heap.size w' W->Calls Tryz.prog 19 #[.agg #[vg,vf],.int .i64 1] W fun e w2=>e = .returned (.int .i64 (N:Int))/\Below W.heap.size W w2):=by
 obtain ⟨Kg,g1,g2⟩:=ROne.of_own h.gs
 obtain ⟨Kf,f1,f2⟩:=h.fs.m
 have hQl:Q.length<=50:=by have:=congrArg List.length h.map;simp only [List.length_map] at this;omega
 have hin : ∀q∈Q,OkF q.f:=fun q hq=>hok _ (by rw [<-h.map];exact List.mem_map.2 ⟨q,hq,rfl⟩)
 have hsv : ∀q∈Q,smallV q:=fun q hq=>by
  have o:=hin q hq
  have hm:=(h.fs.each q hq).map
  have hl:q.R.length=q.f.body.length:=by rw [<-hm];simp
  refine ⟨by have:=o.ps;omega,by have:=o.body;omega,fun x hx => ?_⟩
  have ho:=o.ok x.s (by rw [<-hm];exact List.mem_map.2 ⟨x,hx,rfl⟩)
  exact ⟨by have:=ho.e;omega,by have:=ho.f;omega⟩
 have hbig : ∀q∈Q,sumV q<=8000000:=fun q hq=>by
  have o:=hin q hq
  have hm:=(h.fs.each q hq).map
  have hb : ∀(l:List St),(∀s∈l,OkS s)->sumBy cntS l<=12004*l.length:=by
   intro l
   induction l with
   | nil=>intro _;simp [sumBy]
   | cons a l ih=>
    intro hl
    have h1:=ih (fun s hs=>hl s (by simp [hs]))
    have h2:=hl a (by simp)
    have h3:cntS a=4+3*a.e.length+3*a.f.length:=rfl
    have:=h2.e
    have:=h2.f
    simp only [sumBy,l_c]
    omega
  have h1:=hb q.f.body o.ok
  have h2:sumR q.R=sumBy cntS q.f.body:=by rw [sumR,hm]
  have:=o.body
  have:=o.ps
  show 1+q.f.params.length+sumR q.R<=_
  omega
 have hsum : ∀(l:List FV),(∀q∈l,sumV q<=8000000)->sumQ l<=8000000*l.length:=by
  intro l
  induction l with
  | nil=>intro _;simp [sumQ,sumBy]
  | cons a l ih=>
   intro hl
   have h1:=ih (fun s hs=>hl s (by simp [hs]))
   have h2:=hl a (by simp)
   have e:sumQ (a::l)=sumV a+sumQ l:=by simp [sumQ,sumBy]
   rw [e,l_c]
   omega
 have hs:=hsum Q hbig
 obtain ⟨e1,e2⟩:=mkQ_map (1+2*r.globals.length) Q (fun q hq=>(h.fs.each q hq).map)
 rw [h.map] at e1 e2
 refine ⟨1+2*r.globals.length+sumQ Q,by omega,?_⟩
 refine (markTo_any B vg vf r.globals Q Kg Kf 1 w (by omega) (by omega) hsv (by omega) (by omega) g1 f1 (fun g hg hm => ?_) hB).mono ?_
 ·obtain ⟨s1,s2⟩:=h.sep g ((g2 g).2 hg)
  rcases List.mem_append.1 hm with hm | hm
  ·exact s2 ((f2 g).2 hm)
  ·exact s1 hm
 ·rintro e w' ⟨rfl,m1,m2,m3,m4⟩
  refine ⟨rfl,m3,fun x hx n1 n2 n3=>m4.other x hx (fun hm => ?_),fun W hW => ?_⟩
  ·rcases List.mem_append.1 hm with hm | hm
   ·exact n1 ((g2 x).2 hm)
   ·rcases List.mem_append.1 hm with hm | hm
    ·exact n2 ((f2 x).2 hm)
    ·exact n3 hm
  rw [h.map] at m2
  have:=heldTo_any vg vf r.globals r.funcs 1 W (by omega) (by omega) (fun f hf=>(hok f hf).small) (by omega) (by omega) (m1.below hW) (m2.below hW)
  rw [<-e2] at this
  exact this
theorem Sh.blk {B T:Nat} {w w':World} (h:Sh B T w w') {g:Nat} (hl:g<w.heap.size) (hn:g<B∨T<=g):w'.heap[g]? = w.heap[g]? := by
 rcases h.block g hl with h | ⟨h1,h2,_⟩
 ·exact h
 ·omega
end
theorem law_simplify (t:Tr) (vg vf:Value) (w:World) (hT:Tab w) (hw:wfT t) (hg:Globs w vg t.globals) (hf:Funcs w vf t.funcs) :
  Calls Tryz.prog 4 #[.agg #[vg,vf]] w fun e w'=>e = .returned (.bool true)/\Below w.heap.size w w':=by
 haveI : Inhabited Pick := ⟨⟨fun _ h => Classical.choice h⟩⟩
 have HT:=hide hT
 have HW:=hide hw
 have HG:=hide hg
 have HF:=hide hf
 have hsz:=hT.size
 obtain ⟨r,hr⟩:=SimT.exists t
 have HR:=hide hr
 have HRs:Hid (smallT r):=hr.small
 have HRk:=hide (hr.ok)
 obtain ⟨ag,cg,rfl,-,-,-⟩:=hg
 obtain ⟨af,cf,rfl,-,-,-⟩:=hf
 clear hT hw hr
 have hA:Bl w (w.alloc (.cells #[.slice ag t.globals.length cg,.slice af t.funcs.length cf] 25)):=bel_a _ _
 have HX0:Hid (FrC (w.alloc (.cells #[.slice ag t.globals.length cg,.slice af t.funcs.length cf] 25)) w.heap.size [.slice ag t.globals.length cg,.slice af t.funcs.length cf]):=box_fr2 _ _ _ _
 go_enter Tryz.func4,Tryz.ntmps4
 go_wp2_with fail
 refine (szTree_any t _ _ _ _ ⟨by omega,by omega⟩ HW.out (HG.out.below hA) (HF.out.below hA)).mono ?_
 rintro e w1 ⟨rfl,hb1⟩
 have HX1:=hide (HX0.out.below hb1)
 have hB1:Bl w w1:=hA.trans (hb1.mono hA.size)
 have hl1:w.heap.size<w1.heap.size:=by have:=hb1.size;simp at this;omega
 by_cases hs:(1048576:Int)<(szT t:Nat)
 ·rw [szR_gt hs]
  clear hs
  go_wp2_with fail
  go_ret
  exact ⟨rfl,hB1⟩
 have HS:Hid (smallT t):=smallT_of (by omega)
 have HCn:Hid (cntT t<=4194304):=by have:=cntT_le t;show _<=_;omega
 rw [szR_le (show ((szT t:Nat):Int)<=1048576 by omega)]
 have hq:0<=(1048576:Int)-(szT t:Nat):=by omega
 generalize (1048576:Int)-(szT t:Nat)=q at hq ⊢
 obtain ⟨x0,x1,-,-⟩:=HX1.out.two
 clear hs hb1 HX0 hA
 go_wp2_with fail
 refine (toTree_any t _ _ _ HS.out (HG.out.below hB1) (HF.out.below hB1)).mono ?_
 rintro e w2 ⟨vg2,vf2,rfl,hg2,hf2,hb2⟩
 have HG2:Hid (Globs w2 vg2 t.globals):=hg2.globs (by have:=HS.out.1;omega)
 have HF2:Hid (Funcs w2 vf2 t.funcs):=hf2.funcs (by have:=HS.out.2.1;omega) HS.out.2.2
 have hB2:Bl w w2:=hB1.trans (hb2.mono hB1.size)
 have HX2:=hide (HX1.out.below hb2)
 have hl2:w.heap.size<w2.heap.size:=Nat.lt_of_lt_of_le hl1 hb2.size
 clear x0 x1 hg2 hf2 hb2 HX1 hB1 hl1
 go_wp2_with fail
 refine (simG_any t r _ _ _ HR.out HS.out HW.out HG2.out HF2.out).mono ?_
 rintro e w3 ⟨ga,gn,gc,fa,fn,fc,rfl,hgw,hfw,hb3⟩
 obtain ⟨W3,hW3⟩ : ∃W3,W3=w3.alloc (.cells #[.slice ga gn gc,.slice fa fn fc] 34):=⟨_,rfl⟩
 have hb33:Bl w3 W3:=by rw [hW3];exact (Below.refl _ _).alloc (Nat.le_refl _) _
 have hs3:W3.heap.size=w3.heap.size+1:=by rw [hW3];simp
 have HGw:Hid (∀W,Bl W3 W->Globs W (.slice ga gn gc) r.globals/\Funcs W (.slice fa fn fc) r.funcs):=fun W hW=>⟨(hgw.below hb33).below hW,(hfw.below hb33).below hW⟩
 have hB3:Bl w W3:=(hB2.trans (hb3.mono hB2.size)).trans (hb33.mono (Nat.le_trans hB2.size hb3.size))
 have HY3:Hid (FrC W3 w3.heap.size [.slice ga gn gc,.slice fa fn fc]):=by rw [hW3];exact box_fr2 _ _ _ _
 have HX3:=hide ((HX2.out.below hb3).below hb33)
 have hl3:w.heap.size<w3.heap.size:=Nat.lt_of_lt_of_le hl2 hb3.size
 obtain ⟨M4,hM4⟩ : ∃M4,M4=w3.heap.size:=⟨_,rfl⟩
 have HW3:=hide hW3
 obtain ⟨x0,x1,-,-⟩:=HX3.out.two
 have HM4:=hide hM4
 rw [<-hM4] at HY3 hs3 hl3
 rw [hW3] at x0 x1
 clear HG2 HF2 hgw hfw hb3 hb33 hB2 HX2 hl2 hW3 hM4
 go_wp2_with fail
 rw [<-HW3.out,<-HM4.out]
 refine (toTree_any t _ _ _ HS.out (HG.out.below hB3) (HF.out.below hB3)).mono ?_
 rintro e w4 ⟨vg4,vf4,rfl,hg4,hf4,hb4⟩
 have HG4:Hid (Globs w4 vg4 t.globals):=hg4.globs (by have:=HS.out.1;omega)
 have HF4:Hid (Funcs w4 vf4 t.funcs):=hf4.funcs (by have:=HS.out.2.1;omega) HS.out.2.2
 have HPG:=hide (hg4.plain)
 have HPF:Hid (FuncsM W3.heap.size w4.heap.size w4 vf4 t.funcs):=hf4.marks
 obtain ⟨g4,y4,rfl,-,-⟩:=hg4
 obtain ⟨f4,z4,V4,rfl,-,-,-⟩:=hf4
 obtain ⟨W4,hW4⟩ : ∃W4,W4=w4.alloc (.cells #[.slice (some ⟨g4,0,none⟩) t.globals.length t.globals.length,.slice (some ⟨f4,0,none⟩) t.funcs.length t.funcs.length] 34):=⟨_,rfl⟩
 have hb44:Bl w4 W4:=by rw [hW4];exact (Below.refl _ _).alloc (Nat.le_refl _) _
 have hb34:Bl W3 W4:=hb4.trans (hb44.mono hb4.size)
 obtain ⟨M5,hM5⟩ : ∃M5,M5=w4.heap.size:=⟨_,rfl⟩
 have hs4:W4.heap.size=M5+1:=by rw [hW4,hM5];simp
 have HZ4:Hid (FrC W4 M5 [.slice (some ⟨g4,0,none⟩) t.globals.length t.globals.length,.slice (some ⟨f4,0,none⟩) t.funcs.length t.funcs.length]):=by rw [hW4,hM5];exact box_fr2 _ _ _ _
 have HB34:=hide hb34
 have hB4:Bl w W4:=hB3.trans (hb34.mono hB3.size)
 have HSh4:Hid (Sh W3.heap.size w4.heap.size w4 W4):=Sh.of_below hb44
 have HGF4:Hid (Globs W4 (.slice (some ⟨g4,0,none⟩) t.globals.length t.globals.length) t.globals/\Funcs W4 (.slice (some ⟨f4,0,none⟩) t.funcs.length t.funcs.length) t.funcs):=⟨HG4.out.below hb44,HF4.out.below hb44⟩
 have hl4:M4+1<=M5:=by rw [<-hs3,hM5];exact hb4.size
 have HW4:=hide hW4
 have HM5:=hide hM5
 have HX4:=hide (HX3.out.below hb34)
 have HY4:Hid (FrC W4 M4 [.slice ga gn gc,.slice fa fn fc]):=HY3.out.below hb34
 obtain ⟨z0,z1,-,-⟩:=HZ4.out.two
 rw [hW4,hM5] at z0 z1
 clear x0 x1 hb4 hb44 hb34 hW4 hM5 HG4 HF4 HX3 HY3 hB3
 go_wp2_with fail
 rw [<-HW4.out,<-HM5.out]
 refine (simI_any t r _ _ W4 HR.out (HT.out.below hsz hB4) HS.out HW.out HGF4.out.1 HGF4.out.2).mono ?_
 rintro e w5 ⟨ha,hn_,hc,ia,in_,ic,Q,rfl,hto,hb5⟩
 obtain ⟨W5,hW5⟩ : ∃W5,W5=w5.alloc (.cells #[.slice ha hn_ hc,.slice ia in_ ic] 34):=⟨_,rfl⟩
 have hb55:Bl w5 W5:=by rw [hW5];exact (Below.refl _ _).alloc (Nat.le_refl _) _
 have hb45:Bl W4 W5:=hb5.trans (hb55.mono hb5.size)
 obtain ⟨M6,hM6⟩ : ∃M6,M6=w5.heap.size:=⟨_,rfl⟩
 have hs5:W5.heap.size=M6+1:=by rw [hW5,hM6];simp
 have HV5:Hid (FrC W5 M6 [.slice ha hn_ hc,.slice ia in_ ic]):=by rw [hW5,hM6];exact box_fr2 _ _ _ _
 have HTo:=hide (hto.below hb55)
 have HNi:Hid ((Value.slice ha hn_ hc).ownBlock≠some M6/\(Value.slice ia in_ ic).ownBlock≠some M6/\M6∉blkF Q):=⟨fun h=>by have:=(World.ownsRow.lt hto.gs M6 h).2;omega,fun h=>by have:=(World.ownsRow.lt hto.fs.row M6 h).2;omega,fun h=>by have:=(hto.fs.rng M6 h).2;omega⟩
 have HB45:=hide hb45
 have hB5:Bl w W5:=hB4.trans (hb45.mono hB4.size)
 have HB35:Hid (Bl W3 W5):=HB34.out.trans (hb45.mono HB34.out.size)
 have HX5:=hide (HX4.out.below hb45)
 have HY5:Hid (FrC W5 M4 [.slice ga gn gc,.slice fa fn fc]):=HY4.out.below hb45
 have HZ5:=hide (HZ4.out.below hb45)
 have HSh5:Hid (Sh W3.heap.size w4.heap.size w4 W5):=HSh4.out.trans (Sh.of_below hb45)
 have HGF5:Hid (Globs W5 (.slice (some ⟨g4,0,none⟩) t.globals.length t.globals.length) t.globals/\Funcs W5 (.slice (some ⟨f4,0,none⟩) t.funcs.length t.funcs.length) t.funcs):=⟨HGF4.out.1.below hb45,HGF4.out.2.below hb45⟩
 have hl5:M5+1<=M6:=by rw [<-hs4,hM6];exact hb5.size
 have HEq:=hide (eqTree_any r _ _ _ _ W5 HRs.out HTo.out.read.1 HTo.out.read.2 (HGw.out W5 HB35.out).1 (HGw.out W5 HB35.out).2)
 obtain ⟨v0,v1,-,-⟩:=HV5.out.two
 obtain ⟨y0,y1,-,-⟩:=HY5.out.two
 have HW5:=hide hW5
 have HM6:=hide hM6
 rw [hM6] at v0 v1
 rw [hW5] at v0 v1 y0 y1
 clear z0 z1 hto hb5 hb55 hb45 hM6 hW5 HX4 HY4 HZ4 HSh4 HGF4 hB4
 go_wp2_with fail
 rw [<-HW5.out,<-HM6.out]
 refine HEq.out.mono ?_
 rintro e w6 ⟨rfl,hb6⟩
 have HX6:=hide (HX5.out.below hb6)
 have HZ6:=hide (HZ5.out.below hb6)
 have hB6:Bl w w6:=hB5.trans (hb6.mono hB5.size)
 have HB56:=hide hb6
 have HGA:=hide (HG.out.below hB6)
 have HFA:Hid (Funcs w6 (.slice af t.funcs.length cf) t.funcs):=HF.out.below hB6
 have HG5:=hide (HGF5.out.1.below hb6)
 have HF5:=hide (HGF5.out.2.below hb6)
 have hdr:Bl w6 w6.drew:=(Below.refl _ _).drew
 obtain ⟨x0,x1,-,-⟩:=HX6.out.two
 obtain ⟨z0,z1,-,-⟩:=HZ6.out.two
 have hl6:M6+1<=w6.heap.size:=by rw [<-hs5];exact hb6.size
 have hl0:w.heap.size<w6.heap.size:=by omega
 have hl46:M5<w6.heap.size:=by omega
 clear v0 v1 y0 y1 hb6 HX5 HZ5 HEq HGF5 hB5
 go_wp2_with fail
 go_region_held3 (fun W=>W.cell? ⟨w.heap.size,0,none⟩=some (.slice ag t.globals.length cg)/\W.cell? ⟨w.heap.size,1,none⟩=some (.slice af t.funcs.length cf)/\W.cell? ⟨M5,0,none⟩=some (.slice (some ⟨g4,0,none⟩) t.globals.length t.globals.length)/\W.cell? ⟨M5,1,none⟩=some (.slice (some ⟨f4,0,none⟩) t.funcs.length t.funcs.length)) (go_simp)
  (first
  | (go_at_call 7;refine (toTree_any t _ _ _ HS.out (HGA.out.below hdr) (HFA.out.below hdr)).mono ?_;rintro e w7 ⟨vg7,vf7,rfl,hg7,hf7,hb7⟩;have hcc : ∀b o,b<w6.heap.size->w7.cell? ⟨b,o,none⟩=w6.cell? ⟨b,o,none⟩:=(bcell hb7).1;have HG7:Hid (Globs w7 vg7 t.globals):=hg7.globs (by have:=HS.out.1;omega);have HF7:Hid (Funcs w7 vf7 t.funcs):=hf7.funcs (by have:=HS.out.2.1;omega) HS.out.2.2;obtain ⟨g7,y7,rfl,-,-⟩:=hg7;obtain ⟨f7,z7,V7,rfl,-,-,-⟩:=hf7;have hl07:w.heap.size<w7.heap.size:=Nat.lt_of_lt_of_le hl0 hb7.size;have hl47:M5<w7.heap.size:=Nat.lt_of_lt_of_le hl46 hb7.size)
  | (go_at_call 11;refine (eqTree_any t _ _ _ _ _ HS.out (HG5.out.below (hdr.trans hb7)) (HF5.out.below (hdr.trans hb7)) HG7.out HF7.out).mono ?_;rintro e w8 ⟨rfl,hb8⟩;have hcc : ∀b o,b<w7.heap.size->w8.cell? ⟨b,o,none⟩=w7.cell? ⟨b,o,none⟩:=(bcell hb8).1))
 have hb68:Bl w6 w8:=(hdr.trans hb7).trans (hb8.mono hb7.size)
 have hb58:Bl W5 w8:=HB56.out.trans (hb68.mono HB56.out.size)
 have hB8:Bl w w8:=hB6.trans (hb68.mono hB6.size)
 have HTo8:=hide (HTo.out.below hb58)
 have HB38:Hid (Bl W3 w8):=HB35.out.trans (hb58.mono HB35.out.size)
 have HX8:=hide (HX6.out.below hb68)
 have HY8:Hid (FrC w8 M4 [.slice ga gn gc,.slice fa fn fc]):=HY5.out.below hb58
 have HZ8:=hide (HZ6.out.below hb68)
 have HV8:Hid (FrC w8 M6 [.slice ha hn_ hc,.slice ia in_ ic]):=HV5.out.below hb58
 have HSh8:Hid (Sh W3.heap.size w4.heap.size w4 w8):=HSh5.out.trans (Sh.of_below hb58)
 have hl8:M6+1<=w8.heap.size:=Nat.le_trans hl6 hb68.size
 have hM5:=HM5.out
 obtain ⟨p0,p1,-,-⟩:=HZ8.out.two
 have HMx:=hide (markTree_any W3.heap.size w4.heap.size _ _ t 1 w8 (by omega) HS.out (by omega) (by have:=HCn.out;omega) (HPG.out.sh HSh8.out) (HPF.out.sh HSh8.out))
 clear x0 x1 z0 z1 hb68 hb58 hb7 hb8 HX6 HZ6 HTo HB35 HY5 HV5 HSh5 HGA HFA HG5 HF5 HG7 HF7 hdr hl6 hl0 hl46 hl07 hl47 hB6 HB56 hM5
 go_wp2_with fail
 refine HMx.out.mono ?_
 rintro e w9 ⟨rfl,hsh⟩
 have hM5:=HM5.out
 have hk9 : ∀g,g<w8.heap.size->(g<M4+1∨M5<=g)->w9.heap[g]? = w8.heap[g]? := fun g h1 h2=>hsh.blk h1 (by omega)
 have HX9:=hide (HX8.out.keep (hk9 _ (by omega) (by omega)))
 have HY9:Hid (FrC w9 M4 [.slice ga gn gc,.slice fa fn fc]):=HY8.out.keep (hk9 _ (by omega) (by omega))
 have HV9:Hid (FrC w9 M6 [.slice ha hn_ hc,.slice ia in_ ic]):=HV8.out.keep (hk9 _ (by omega) (by omega))
 have HTo9:=hide (HTo8.out.keepB hsh.size (fun g h1 h2=>hk9 g h2 (by omega)))
 have hB89:Below W3.heap.size w8 w9:=hsh.below HB38.out.size
 have HB39:Hid (Bl W3 w9):=HB38.out.trans hB89
 have hB9:Bl w w9:=hB8.trans (hB89.mono (by omega))
 have hl9:M6+1<=w9.heap.size:=Nat.le_trans hl8 hsh.size
 have HEq9:=hide (eqTree_any r _ _ _ _ w9 HRs.out HTo9.out.read.1 HTo9.out.read.2 (HGw.out w9 HB39.out).1 (HGw.out w9 HB39.out).2)
 obtain ⟨kc,hkc⟩ : ∃kc:Int,kc=((1+cntT t:Nat):Int):=⟨_,rfl⟩
 rw [<-hkc]
 have hk0:decide (kc<0)=false:=decide_eq_false (by omega)
 obtain ⟨v0,v1,-,-⟩:=HV9.out.two
 obtain ⟨y0,y1,-,-⟩:=HY9.out.two
 clear hM5 p0 p1 hsh hk9 hkc HX8 HY8 HZ8 HV8 HTo8 HB38 HSh8 HMx hB89 hB8 hl8 HPG HPF
 go_wp2_with fail
 refine HEq9.out.mono ?_
 rintro e w10 ⟨rfl,hb10⟩
 have HX10:=hide (HX9.out.below hb10)
 have HY10:Hid (FrC w10 M4 [.slice ga gn gc,.slice fa fn fc]):=HY9.out.below hb10
 have HV10:Hid (FrC w10 M6 [.slice ha hn_ hc,.slice ia in_ ic]):=HV9.out.below hb10
 have HB310:Hid (Bl W3 w10):=HB39.out.trans (hb10.mono HB39.out.size)
 have hB10:Bl w w10:=hB9.trans (hb10.mono hB9.size)
 have hl10:M6+1<=w10.heap.size:=Nat.le_trans hl9 hb10.size
 obtain ⟨N,hN1,hN2⟩:=mark_own W4.heap.size _ _ r Q w10 (by omega) (HTo9.out.below hb10) HRk.out.1 HRk.out.2.1 HRk.out.2.2
 have HMg:=hide hN2
 obtain ⟨v0',v1',-,-⟩:=HV10.out.two
 clear v0 v1 y0 y1 hb10 hN2 HX9 HY9 HV9 HTo9 HB39 HEq9 hB9 hl9 hk0
 go_wp2_with fail
 refine HMg.out.mono ?_
 rintro e w11 ⟨rfl,hb11,hni,hhe⟩
 have HV11:Hid (FrC w11 M6 [.slice ha hn_ hc,.slice ia in_ ic]):=HV10.out.keep (hni M6 (by omega) HNi.out.1 HNi.out.2.1 HNi.out.2.2)
 have hHe:=hhe w11 (Below.refl _ _)
 have HHe:=hide hHe
 have hk11 : ∀g,g<M5+1->w11.heap[g]? = w10.heap[g]? := fun g h1=>hb11.block g (by omega)
 have HX11:=hide (HX10.out.keep (hk11 _ (by omega)))
 have HY11:Hid (FrC w11 M4 [.slice ga gn gc,.slice fa fn fc]):=HY10.out.keep (hk11 _ (by omega))
 have HB311:Hid (Bl W3 w11):=HB310.out.trans (hb11.mono (by omega))
 have hB11:Bl w w11:=hB10.trans (hb11.mono (by omega))
 have hl11:M6+1<=w11.heap.size:=Nat.le_trans hl10 hb11.size
 obtain ⟨u0,u1,-,-⟩:=HV11.out.two
 obtain ⟨mm,hmm⟩ : ∃mm:Int,(N:Int)=mm:=⟨_,rfl⟩
 rw [hmm] at HHe ⊢
 have hm0:decide (mm<0)=false:=decide_eq_false (by omega)
 clear v0' v1' hb11 hni hhe hHe hk11 HX10 HY10 HV10 HB310 HMg hB10 hl10 hmm hN1 HNi
 go_wp2_with fail
 refine HHe.out.mono ?_
 rintro e w12 ⟨rfl,hb12⟩
 have HX12:=hide (HX11.out.below hb12)
 have HY12:Hid (FrC w12 M4 [.slice ga gn gc,.slice fa fn fc]):=HY11.out.below hb12
 have HB312:Hid (Bl W3 w12):=HB311.out.trans (hb12.mono HB311.out.size)
 have hB12:Bl w w12:=hB11.trans (hb12.mono hB11.size)
 obtain ⟨x0,x1,-,-⟩:=HX12.out.two
 clear u0 u1 hb12 HX11 HY11 HV11 HB311 HHe hB11
 go_wp2_with fail
 refine (toTree_any t _ _ _ HS.out (HG.out.below hB12) (HF.out.below hB12)).mono ?_
 rintro e w13 ⟨vg13,vf13,rfl,hg13,hf13,hb13⟩
 have HG13:Hid (Globs w13 vg13 t.globals):=hg13.globs (by have:=HS.out.1;omega)
 have HF13:Hid (Funcs w13 vf13 t.funcs):=hf13.funcs (by have:=HS.out.2.1;omega) HS.out.2.2
 have hB13:Bl w w13:=hB12.trans (hb13.mono hB12.size)
 have HB313:Hid (Bl W3 w13):=HB312.out.trans (hb13.mono HB312.out.size)
 have HY13:Hid (FrC w13 M4 [.slice ga gn gc,.slice fa fn fc]):=HY12.out.below hb13
 clear x0 x1 hg13 hf13 hb13 HX12 HY12 HB312 hB12
 go_wp2_with fail
 refine (simI_any t r _ _ w13 HR.out (HT.out.below hsz hB13) HS.out HW.out HG13.out HF13.out).mono ?_
 rintro e w14 ⟨ja,jn,jc,ka,kn,kc',Q',rfl,hto',hb14⟩
 obtain ⟨W14,hW14⟩ : ∃W14,W14=w14.alloc (.cells #[.slice ja jn jc,.slice ka kn kc'] 34):=⟨_,rfl⟩
 have hbe:Bl w14 W14:=by rw [hW14];exact (Below.refl _ _).alloc (Nat.le_refl _) _
 have hb13e:Bl w13 W14:=hb14.trans (hbe.mono hb14.size)
 have HB314:Hid (Bl W3 W14):=HB313.out.trans (hb13e.mono HB313.out.size)
 have hB14:Bl w W14:=hB13.trans (hb13e.mono hB13.size)
 have hto14:=hto'.below hbe
 have HEqf:=hide (eqTree_any r _ _ _ _ W14 HRs.out hto14.read.1 hto14.read.2 (HGw.out W14 HB314.out).1 (HGw.out W14 HB314.out).2)
 have f14:FrC W14 w14.heap.size [.slice ja jn jc,.slice ka kn kc']:=by rw [hW14];exact box_fr2 _ _ _ _
 obtain ⟨v0,v1,-,-⟩:=f14.two
 obtain ⟨y0,y1,-,-⟩:=(HY13.out.below hb13e).two
 have HW14:=hide hW14
 rw [hW14] at v0 v1 y0 y1
 clear hto' hto14 hb14 hbe hb13e f14 HG13 HF13 HY13 HB313 hB13 hW14
 go_wp2_with fail
 rw [<-HW14.out]
 refine HEqf.out.mono ?_
 rintro e w15 ⟨rfl,hb15⟩
 have hB15:Bl w w15:=hB14.trans (hb15.mono hB14.size)
 clear v0 v1 y0 y1 hb15
 go_wp2_with fail
 go_ret
 exact ⟨rfl,hB15⟩
end Go.Proofs.YtmddmgpijpjpbaaGreatDoor
