import Derived.Test.YtmddmgpijpjpbaaGreatDoorR51
set_option linter.unusedSectionVars false
variable [Inhabited Go.Proofs.YtmddmgpijpjpbaaGreatDoor.Pick]
namespace Go.Proofs.YtmddmgpijpjpbaaGreatDoor
open Go.RowKit
set_option linter.unusedVariables false
set_option linter.unusedSimpArgs false
set_option maxRecDepth 100000
set_option maxHeartbeats 16000000
theorem simplifyG_good (HBl : ∀n,L3Block n) (t:Tr) (fs:List Fu) (m:Nat) (vg vf:Value) (w:World) (hs:smallT t) (hw:wfT t) (hg:Globs w vg t.globals) (hf:Funcs w vf t.funcs) (hz:(checkE t).1=0) (hS:SimFs t.funcs fs) (hm:fnum t.funcs mainS=some m) :
  Calls Tryz.prog 17 #[.agg #[vg,vf]] w fun e w'=>∃vg' vf',e = .returned (.agg #[vg',vf'])/\Globs w' vg' t.globals/\Funcs w' vf' (leftL (needB t.globals fs m) fs fs.length)/\Below w.heap.size w w':=by
 obtain ⟨x,y,z,hX⟩ : ∃x y z,checkE t=(x,y,z):=⟨_,_,_,rfl⟩
 have HSd:Hid (∀W,Bl w W->Calls Tryz.prog 22 #[.agg #[vg,vf]] W fun e w'=>e = .returned (.agg #[.int .i64 x,.int .i64 y,.int .i64 z])/\Bl W w'):=fun W hW=>by
  have:=checkCG_any HBl t vg vf W hs hw (hg.below hW) (hf.below hW)
  rw [hX] at this
  exact this
 obtain ⟨p1,p2,p3,p4⟩:=tree_parts (sound_tree hz)
 rw [hX] at hz
 have hx:x=0:=hz
 subst hx
 have hfl:=hS.1
 obtain ⟨ag,cg,rfl,hgn,hgc⟩:=globs_flat hg
 have HGf:Hid ((ag=none->t.globals.length=0)/\∀W,Bl w W->∀ad,ag=some ad->∀j u,(flatG t.globals)[j]? = some u->W.cell? (ad.add j)=some u):=⟨hgn,fun W hW ad had j u hu=>by
  have c:=hgc ad had j u hu
  have hlt:=World.block_lt_of_cell? _ _ c
  exact (hW.cell hlt).trans c⟩
 obtain ⟨af,cf,rfl,-,-,hfc⟩:=id hf
 have HFC:=hide hfc
 have HSf:Hid (∀(k:Nat) (h:k<t.funcs.length) (h':k<fs.length) (vb:Value) (W:World),Stmts W vb t.funcs[k].body->Calls Tryz.prog 40 #[vb] W fun e w'=>∃ba bn bc R,e = .returned (.slice ba bn bc)/\GsRow W.heap.size w' (.slice ba bn bc) R/\R.map (·.s)=fs[k].body/\Bl W w'):=fun k h h' vb W h2=>by
  obtain ⟨q1,q2,q3,q4,q5,q6⟩:=func_parts (p4 _ (List.getElem_mem h))
  obtain ⟨e1,e2,rs,e3,e4⟩:=hS.2 k h h'
  refine (l5block_any 501 _ rs vb W (by omega) h2 q5 q6 e3 (by omega)).mono ?_
  rintro e w' ⟨u,R,rfl,h3,h4,h5⟩
  obtain ⟨a,c,rfl,-⟩:=h3.shape
  exact ⟨a,_,c,R,rfl,h3,by rw [h4,e4],h5⟩
 have HNp:Hid (∀(k:Nat) (h:k<t.funcs.length) (h':k<fs.length),fs[k].name=t.funcs[k].name/\fs[k].params=t.funcs[k].params/\t.funcs[k].params.length<=6):=fun k h h'=>⟨(hS.2 k h h').1,(hS.2 k h h').2.1,(func_parts (p4 _ (List.getElem_mem h))).2.1⟩
 have HOk:Hid (∀f∈fs,OkF f):=fun f hq=>by
  obtain ⟨j,hj,he⟩:=List.mem_iff_getElem.1 hq
  rw [<-he]
  exact (hS.2 j (by omega) hj).ok (p4 _ (List.getElem_mem (by omega)))
 have HMn:Hid (fnum fs mainS=some m):=by show _=_;rw [hS.names];exact hm
 clear hs hw hz hX hgn hgc hg hf hfc hS hm p3 p4 HBl
 go_enter Tryz.func17,Tryz.ntmps17
 go_wp2_with fail
 obtain ⟨M,hM⟩ : ∃M,M=w.heap.size:=⟨_,rfl⟩
 obtain ⟨W0,hW0⟩ : ∃W0,W0=((w.alloc (.cells #[.slice ag t.globals.length cg,.slice af t.funcs.length cf] 34)).alloc (.cells #[.slice none 0 0,.slice none 0 0] 34)):=⟨_,rfl⟩
 have hs0:W0.heap.size=M+2:=by rw [hW0,hM];simp
 have hb0:Bl w W0:=by rw [hW0];exact (bel_a _ _).alloc (by simp) _
 have HX0:Hid (FrC W0 (M+1) [.slice none 0 0,.slice none 0 0]):=by
  have:=box_fr2 (w.alloc (.cells #[.slice ag t.globals.length cg,.slice af t.funcs.length cf] 34)) (.slice none 0 0) (.slice none 0 0) 34
  rw [World.size_alloc,<-hM,<-hW0] at this
  exact this
 have HY0:Hid (FrC W0 M [.slice ag t.globals.length cg,.slice af t.funcs.length cf]):=by
  have h1:=box_fr2 w (.slice ag t.globals.length cg) (.slice af t.funcs.length cf) 34
  rw [<-hM] at h1
  rw [hW0]
  exact h1.below (bel_a _ _)
 rw [<-hW0,<-hM]
 have HMw:=hide hM
 clear hW0 hM
 refine (HSd.out W0 hb0).mono ?_
 rintro e w1 ⟨rfl,hb1⟩
 have hbw1:Bl w w1:=hb0.trans (hb1.mono hb0.size)
 have HX1:Hid (FrC w1 (M+1) [.slice none 0 0,.slice none 0 0]):=HX0.out.below hb1
 have HY1:=hide (HY0.out.below hb1)
 obtain ⟨y0,y1,-,-⟩:=HY1.out.two
 have hs1:M+2<=w1.heap.size:=by rw [<-hs0];exact hb1.size
 have hfd:=fld_errS 0 y z
 obtain ⟨W1,hW1⟩ : ∃W1,W1=w1.alloc (.cells #[] 58):=⟨_,rfl⟩
 have hbW1:Bl w1 W1:=by rw [hW1];exact (Below.refl _ _).alloc (Nat.le_refl _) _
 obtain ⟨i0,hi,hz0,hz1,hz2⟩:=info_parts info_glb
 obtain ⟨ug,w2,r1,r2,r3,r4⟩:=run_appG (P:=Tryz.prog) (w:=W1) w1.heap.size 31 31 58 i0 _ 2 24 Tryz.underlying31 hi hz0 hz1 hz2 rfl (by decide) (.slice (some ⟨w1.heap.size,0,none⟩) 0 0) 0 [] (by rw [hW1];exact ⟨rfl,.inr ⟨w1.heap.size,0,#[],rfl,Nat.le_refl _,(MapKept.heap_alloc w1 _).1,Nat.le_refl _,by unfold maxLen;omega,rfl,rfl⟩⟩) ag t.globals.length cg (flatG t.globals) HGf.out.1 (flatG_len _) (HGf.out.2 W1 (hbw1.trans (hbW1.mono hbw1.size))) (fun u hu=>by
    simp only [flatG,List.mem_flatMap] at hu
    obtain ⟨x,-,hu⟩:=hu
    simp only [cellsG,List.mem_cons,List.not_mem_nil,or_false] at hu
    rcases hu with rfl | rfl <;> rfl) (by omega) (by decide) hbW1.size
 obtain ⟨ua,un,uc,rfl⟩ : ∃a n c,ug = .slice a n c:=by
  rcases r2.2 with ⟨rfl,-⟩ | ⟨g,cap,cur,rfl,-⟩ <;> exact ⟨_,_,_,rfl⟩
 rw [Nat.zero_add,List.nil_append] at r2
 have HU:=hide r2
 have hb12:Bl w1 w2:=hbW1.grown r3 hbW1.size (fun g hg=>by simp only [Value.ownBlock,Option.some.injEq] at hg;omega)
 have hbw2:Bl w w2:=hbw1.trans (hb12.mono hbw1.size)
 have HX2:Hid (FrC w2 (M+1) [.slice none 0 0,.slice none 0 0]):=HX1.out.below hb12
 have HY2:=hide (HY1.out.below hb12)
 have hs2:w1.heap.size<=w2.heap.size:=hb12.size
 rw [hW1] at r1
 have HR1:=hide r1
 have hMn:M≠w1.heap.size:=by omega
 have hMn2:M≠w2.heap.size:=by omega
 have yy0:(w1.alloc (.cells #[] 58)).cell? ⟨M,0,none⟩=some (.slice ag t.globals.length cg):=((Below.refl w1.heap.size w1).alloc (Nat.le_refl _) _ |>.cell (p:=⟨M,0,none⟩) (by show M<_;omega)).trans y0
 have z1:=(HY2.out.two).2.1
 have zz1:(w2.alloc (.cells #[.slice ua un uc,.slice none 0 0] 34)).cell? ⟨M,1,none⟩=some (.slice af t.funcs.length cf):=((Below.refl w2.heap.size w2).alloc (Nat.le_refl _) _ |>.cell (p:=⟨M,1,none⟩) (by show M<_;omega)).trans z1
 have HT3:Hid (FrC (w2.alloc (.cells #[.slice ua un uc,.slice none 0 0] 34)) w2.heap.size [.slice ua un uc,.slice none 0 0]):=box_fr2 _ _ _ _
 clear r1 r2 r3 r4 hi hz0 hz1 hz2 hW1 hbW1 hb1 hb0 HX0 HY0 hs0 HX1 HY1 hb12 HSd
 go_wp2_with (at_builtin;(refine wpList_appG (hgd:=rfl) (s:=.tmp 15) (x:=.tmp 17) (t:=31) (ho := ?ho) (v:=.slice (some ⟨w1.heap.size,0,none⟩) 0 0) (vx:=.slice ag t.globals.length cg) (v':=.slice ua un uc) (w':=w2) (hs:=rfl) (hx:=rfl) (hr := ?hr) (h := ?_);(case ho=>rfl);(case hr=>with_reducible exact HR1.out)))
 go_wp2_with fail
 go_loopw [4] (fun i wr=>∃(k:Nat) (Q:List FV) (fa:Option Addr) (fc:Nat),k<=t.funcs.length/\i = .int .i64 k/\Q.map (fun q:FV=>q.f)=fs.take k/\GfRow [w2.heap.size,M+1] (w2.heap.size+1) wr (.slice fa k fc) Q/\FrC wr w2.heap.size [.slice ua un uc,.slice fa k fc]/\Bl w2 wr/\w2.heap.size<wr.heap.size) (fun i _=>t.funcs.length-(RowKit.intOf i).toNat)
 case atStart=>exact ⟨0,[],none,0,Nat.zero_le _,rfl,by simp,GfRow.nil _ _ _,HT3.out,(Below.refl _ _).alloc (Nat.le_refl _) _,by simp⟩
 case round=>
  obtain ⟨k,Q,fa,fc,hk,rfl,hQm,hrow,hfr,hBr,hsr⟩:=hrel
  have HRow:=hide hrow
  have HQm:=hide hQm
  have HFr:=hide hfr
  have hbw:Bl w wr:=hbw2.trans (hBr.mono hbw2.size)
  have HBr:=hide hBr
  have HYr:=hide (HY2.out.below hBr)
  obtain ⟨-,q1,-,-⟩:=HYr.out.two
  clear hrow hQm hfr yy0 zz1 y0 y1 z1
  by_cases hlt:k<t.funcs.length
  ·obtain ⟨b,off,rfl,hfc⟩:=HFC.out (by omega)
   obtain ⟨vp,vb,⟨c0,c1,c2⟩,hvp,hvb⟩:=(hfc.below hbw) k hlt
   have hkf:k<fs.length:=by omega
   obtain ⟨nq1,nq2,nq3⟩:=HNp.out k hlt hkf
   have HC:=hide fun W (hW:Bl wr W)=>HSf.out k hlt hkf vb W (hvb.below hW)
   have HPs:=hide fun W (hW:Bl wr W)=>strs_src (hvp.below hW)
   obtain ⟨pa0,pc0,rfl,-⟩:=hvp
   obtain ⟨ba0,bc0,rfl,-⟩:=hvb
   obtain ⟨lp,hlp⟩ : ∃l,t.funcs[k].params.length=l:=⟨_,rfl⟩
   obtain ⟨lb,hlb⟩ : ∃l,t.funcs[k].body.length=l:=⟨_,rfl⟩
   obtain ⟨nm,hnm⟩ : ∃l,t.funcs[k].name=l:=⟨_,rfl⟩
   rw [hlp] at c1 HPs
   rw [hlb] at c2 HC
   rw [hnm] at c0 nq1
   have i1:(0:Int)<=(k:Int):=by omega
   have i2:(k:Int)<(t.funcs.length:Int):=by omega
   obtain ⟨M5,hM5⟩ : ∃M5,M5=wr.heap.size:=⟨_,rfl⟩
   obtain ⟨W5,hW5⟩ : ∃W5,W5=wr.alloc (.cells #[.string nm,.slice pa0 lp pc0,.slice ba0 lb bc0] 85):=⟨_,rfl⟩
   obtain ⟨M3,hM3⟩ : ∃M3,M3=w2.heap.size:=⟨_,rfl⟩
   have hb5:Bl wr W5:=by rw [hW5];exact (Below.refl _ _).alloc (Nat.le_refl _) _
   have hs5:W5.heap.size=M5+1:=by rw [hW5,hM5];simp
   have HX5:Hid (FrC W5 M5 [.string nm,.slice pa0 lp pc0,.slice ba0 lb bc0]):=by rw [hW5,hM5];exact box_fr3 _ _ _ _ _
   have HF5:Hid (FrC W5 M3 [.slice ua un uc,.slice fa k fc]):=by rw [hM3];exact HFr.out.below hb5
   have hd:Bl W5 W5.drew:=(Below.refl _ _).drew
   obtain ⟨W6,hW6⟩ : ∃W6,W6=(W5.alloc (.cells #[] 9)).drew:=⟨_,rfl⟩
   have hb6:Bl W5 W6:=by rw [hW6];exact (bel_a _ _).drew
   have hr6:SRow W5.heap.size W6 (.slice (some ⟨W5.heap.size,0,none⟩) 0 0) []:=by
    rw [hW6]
    exact ⟨rfl,.inr ⟨W5.heap.size,0,#[],rfl,Nat.le_refl _,(MapKept.heap_alloc W5 _).1,Nat.le_refl _,by unfold maxLen;omega,rfl,rfl⟩⟩
   have hrw6:Bl wr W6:=hb5.trans (hb6.mono hb5.size)
   obtain ⟨vp',w7,r7,s7,g7,o7⟩:=run_appS (w:=W6) W5.heap.size 82 _ [] hr6 (.slice pa0 lp pc0) t.funcs[k].params (HPs.out W6 hrw6) (by simp;omega) hb6.size
   have hb67:Bl W5 w7:=hb6.grown g7 hb6.size (fun g hg=>by simp only [Value.ownBlock,Option.some.injEq] at hg;omega)
   have hrw7:Bl wr w7:=hb5.trans (hb67.mono hb5.size)
   obtain ⟨pa,pc,rfl⟩ : ∃a c,vp' = .slice a ([]++t.funcs[k].params:List ByteArray).length c:=by
    rcases s7.2 with ⟨rfl,hz⟩ | ⟨g,cap,cur,rfl,_⟩
    ·exact ⟨none,0,by rw [hz]⟩
    ·exact ⟨_,cap,rfl⟩
   obtain ⟨pn,hpn⟩ : ∃pn,([]++t.funcs[k].params:List ByteArray).length=pn:=⟨_,rfl⟩
   rw [hpn] at r7 s7
   have HR7:=hide r7
   have HAp:Hid (∀(w8:World) (ba:Option Addr) (bn bc:Nat) (R:List SV),GsRow w7.heap.size w8 (.slice ba bn bc) R->R.map (·.s)=fs[k].body->Bl w7 w8->(FrC w8 M5 [.string nm,.slice pa0 lp pc0,.slice ba0 lb bc0]/\FrC w8 M3 [.slice ua un uc,.slice fa k fc])/\(FrC (w8.alloc (.cells #[.string nm,.slice pa pn pc,.slice ba bn bc] 85)) M5 [.string nm,.slice pa0 lp pc0,.slice ba0 lb bc0]/\FrC (w8.alloc (.cells #[.string nm,.slice pa pn pc,.slice ba bn bc] 85)) M3 [.slice ua un uc,.slice fa k fc])/\∃va vc w9 q,(Builtin.append_ #[32,32] 32 #[.slice fa k fc,.slice (some ⟨w8.heap.size,0,none⟩) 1 1]).run Tryz.prog (w8.alloc (.cells #[.string nm,.slice pa pn pc,.slice ba bn bc] 85)) = .ok (.slice va (k+1) vc) w9/\GfRow [M3,M+1] (M3+1) w9 (.slice va (k+1) vc) (Q++[q])/\q.f=fs[k]/\FrC w9 M3 [.slice ua un uc,.slice fa k fc]/\FrC w9 M5 [.string nm,.slice pa0 lp pc0,.slice ba0 lb bc0]/\Below M3 w2 w9/\M3<w9.heap.size):=fun w8 ba bn bc R hgs hmp hb8=>by
    have e78:=hb8.size
    have e57:=hb67.size
    have hrw8:Bl wr w8:=hrw7.trans (hb8.mono hrw7.size)
    have fM5:FrC w8 M5 [.string nm,.slice pa0 lp pc0,.slice ba0 lb bc0]:=(HX5.out.below hb67).below hb8
    have fM3:FrC w8 M3 [.slice ua un uc,.slice fa k fc]:=(HF5.out.below hb67).below hb8
    have hQl:Q.length=k:=by
     have:=congrArg List.length HQm.out
     simp only [List.length_map,List.length_take] at this
     omega
    have hA:Bl w8 (w8.alloc (.cells #[.string nm,.slice pa pn pc,.slice ba bn bc] 85)):=bel_a _ _
    have hrow:GfRow [M3,M+1] (M3+1) (w8.alloc (.cells #[.string nm,.slice pa pn pc,.slice ba bn bc] 85)) (.slice fa k fc) Q:=by rw [hM3];exact (HRow.out.below hrw8).below hA
    have hown : ∀g,(Value.slice fa k fc).ownBlock=some g->M3+1<=g/\g<M5:=fun g hg=>by
     have:=World.ownsRow.lt HRow.out.row g hg
     omega
    have hq : ∀W,Tk ([M3,M+1]++(Value.slice fa k fc).ownBlock.toList) (w8.alloc (.cells #[.string nm,.slice pa pn pc,.slice ba bn bc] 85)) W->Strs W (.slice pa pn pc) fs[k].params/\Stmts W (.slice ba bn bc) fs[k].body:=fun W hW=>by
     have hk : ∀g,W5.heap.size<=g->g<w8.heap.size->W.heap[g]? = w8.heap[g]? := fun g h1 h2=>by
      rw [hW.other g (by simp;omega) (fun hm=>by
       rcases List.mem_append.1 hm with hm | hm
       ·simp only [List.mem_cons,List.not_mem_nil,or_false] at hm;rcases hm with hm | hm <;> omega
       ·have e:(Value.slice fa k fc).ownBlock=some g:=by simpa using hm
        have:=(hown g e).2
        omega)]
      exact hA.block g h2
     refine ⟨?_,?_⟩
     ·rw [nq2]
      have s8:SRow W5.heap.size w8 (.slice pa pn pc) ([]++t.funcs[k].params):=ownB s7 hb8
      have s9:SRow W5.heap.size W (.slice pa pn pc) ([]++t.funcs[k].params):=own_keep s8 (fun g hg=>hk g (World.ownsRow.lt s8 g hg).1 (World.ownsRow.lt s8 g hg).2)
      exact s9.strs (by simp;omega)
     ·have g9:GsRow w7.heap.size W (.slice ba bn bc) R:=by
       refine ⟨own_keep hgs.row fun g hg=>hk g (by have:=(World.ownsRow.lt hgs.row g hg).1;omega) (World.ownsRow.lt hgs.row g hg).2,fun q hq => ?_,hgs.out,hgs.low⟩
       obtain ⟨n1,n2⟩:=hgs.each q hq
       exact ⟨n1.keepO fun hp g hg=>hk g (by have:=(hgs.low q hq g).1 hp hg;omega) (n1.lt hp g hg),n2.keepO fun hp g hg=>hk g (by have:=(hgs.low q hq g).2 hp hg;omega) (n2.lt hp g hg)⟩
      rw [<-hmp]
      exact g9.stmts
    obtain ⟨v',w9,r1,r2,r3,r4⟩:=gf_app (c:=1) (ad:=⟨w8.heap.size,0,none⟩) (q:=⟨fs[k],.slice pa pn pc,.slice ba bn bc,R,[],[]⟩) 32 hrow hq (fun j x hx=>by
     have e:cellsF ⟨fs[k],.slice pa pn pc,.slice ba bn bc,R,[],[]⟩ = [.string nm,.slice pa pn pc,.slice ba bn bc]:=by simp [cellsF,nq1]
     rw [e] at hx
     have:=(box_fr3 w8 (.string nm) (.slice pa pn pc) (.slice ba bn bc) 85 j x hx).1
     simpa [addrO] using this) ⟨rfl,rfl⟩ (by simp;omega) (by omega)
    obtain ⟨va,vc,rfl⟩:=r2.shape
    have hl:(Q++[(⟨fs[k],.slice pa pn pc,.slice ba bn bc,R,[],[]⟩:FV)]).length=k+1:=by simp [hQl]
    rw [hl] at r1 r2
    refine ⟨⟨fM5,fM3⟩,⟨fM5.below hA,fM3.below hA⟩,va,vc,w9,_,r1,r2,rfl,?_,?_,?_,?_⟩
    ·exact (fM3.below hA).keep (r3.block M3 (by simp;omega) (fun e=>by have:=(hown M3 e.symm).1;omega))
    ·exact (fM5.below hA).keep (r3.block M5 (by simp;omega) (fun e=>by have:=(hown M5 e.symm).2;omega))
    ·have h1:Below M3 w2 (w8.alloc (.cells #[.string nm,.slice pa pn pc,.slice ba bn bc] 85)):=by
      rw [hM3]
      exact HBr.out.trans ((hrw8.trans (hA.mono hrw8.size)).mono (by omega))
     exact h1.grown r3 (by simp;omega) (fun g hg=>by have:=(hown g hg).1;omega)
    ·have:=r3.size
     simp at this
     omega
   have HC7:=hide (HC.out w7 hrw7)
   have hS0:W5.drew.cell? ⟨M5,0,none⟩=some (.string nm)/\W5.drew.cell? ⟨M5,1,none⟩=some (.slice pa0 lp pc0)/\W5.drew.cell? ⟨M5,2,none⟩=some (.slice ba0 lb bc0)/\W5.drew.cell? ⟨M3,1,none⟩=some (.slice fa k fc):=⟨(HX5.out.below hd).three.1,(HX5.out.below hd).three.2.1,(HX5.out.below hd).three.2.2,(HF5.out.below hd).two.2.1⟩
   have HS6:Hid (W6.cell? ⟨M5,0,none⟩=some (.string nm)/\W6.cell? ⟨M5,1,none⟩=some (.slice pa0 lp pc0)/\W6.cell? ⟨M5,2,none⟩=some (.slice ba0 lb bc0)/\W6.cell? ⟨M3,1,none⟩=some (.slice fa k fc)):=⟨(HX5.out.below hb6).three.1,(HX5.out.below hb6).three.2.1,(HX5.out.below hb6).three.2.2,(HF5.out.below hb6).two.2.1⟩
   have HS7:Hid (w7.cell? ⟨M5,0,none⟩=some (.string nm)/\w7.cell? ⟨M5,1,none⟩=some (.slice pa0 lp pc0)/\w7.cell? ⟨M5,2,none⟩=some (.slice ba0 lb bc0)/\w7.cell? ⟨M3,1,none⟩=some (.slice fa k fc)):=⟨(HX5.out.below hb67).three.1,(HX5.out.below hb67).three.2.1,(HX5.out.below hb67).three.2.2,(HF5.out.below hb67).two.2.1⟩
   have HTk:Hid (fs.take (k+1)=fs.take k++[fs[k]]):=take_succ' hkf
   have HM3:=hide hM3
   have HM5:=hide hM5
   have HW5:=hide hW5
   have HW6:=hide hW6
   have HS0:=hide hS0
   clear hlp hlb hnm hfc hbw HX2 HSf HFC hM3 hM5 hW5 hb5 hd hs5 hBr hsr HC HPs hW6 hb6 hr6 hrw6 r7 s7 g7 o7 hb67 hrw7 hpn nq1 nq2 nq3 hS0
   go_upto_region 8 with fail
   rw [<-HW5.out,<-HM5.out,<-HM3.out]
   refine wp_region_E 15 (fun W=>W.cell? ⟨M5,0,none⟩=some (.string nm)/\W.cell? ⟨M5,1,none⟩=some (.slice pa0 lp pc0)/\W.cell? ⟨M5,2,none⟩=some (.slice ba0 lb bc0)/\W.cell? ⟨M3,1,none⟩=some (.slice fa k fc)) (by kernel_rfl) ?_
   have HS:=HS0
   refine wpAnyE_take (i:=0) (v := ?_) [1,13,15] rfl (by kernel_rfl) (by kernel_rfl) (by kernel_rfl) (by kernel_rfl) (fun _ _ _ h=>h) (Or.inl ⟨by rfl,?_⟩) HS.out ?_
   rotate_left
   ·(intro W hSW;(try dsimp only at hSW);go_simp;try with_reducible rfl)
   try simp only [Act.put,List.setIfInBounds_toArray,List.set_cons_zero,List.set_cons_succ]
   refine wpAnyE_take (i:=1) (v := ?_) [13,15] rfl (by kernel_rfl) (by kernel_rfl) (by kernel_rfl) (by kernel_rfl) (fun _ _ _ h=>h) (Or.inl ⟨by rfl,?_⟩) HS.out ?_
   rotate_left
   ·(intro W hSW;(try dsimp only at hSW);go_simp;try with_reducible rfl)
   try simp only [Act.put,List.setIfInBounds_toArray,List.set_cons_zero,List.set_cons_succ]
   refine wpAnyE_take (i:=2) (v := ?_) [3,11,12,13,15] rfl (by kernel_rfl) (by kernel_rfl) (by kernel_rfl) (by kernel_rfl) (fun _ _ _ h=>h) (Or.inl ⟨by rfl,?_⟩) HS.out ?_
   rotate_left
   ·(intro W hSW;(try dsimp only at hSW);go_simp;try with_reducible rfl)
   try simp only [Act.put,List.setIfInBounds_toArray,List.set_cons_zero,List.set_cons_succ]
   refine wpAnyE_take (i:=3) (v := ?_) [11,12,13,15] rfl (by kernel_rfl) (by kernel_rfl) (by kernel_rfl) (by kernel_rfl) (fun _ _ _ h=>h) (Or.inl ⟨by rfl,?_⟩) HS.out ?_
   rotate_left
   ·(intro W hSW;(try dsimp only at hSW);go_simp;try with_reducible rfl)
   try simp only [Act.put,List.setIfInBounds_toArray,List.set_cons_zero,List.set_cons_succ]
   refine wpAnyE_take (i:=5) (v := ?_) [6,7,11,12,13,15] rfl (by kernel_rfl) (by kernel_rfl) (by kernel_rfl) (by kernel_rfl) (fun _ _ _ h=>h) (Or.inl ⟨by rfl,?_⟩) HS.out ?_
   rotate_left
   ·(intro W hSW;(try dsimp only at hSW);go_simp;try with_reducible rfl)
   try simp only [Act.put,List.setIfInBounds_toArray,List.set_cons_zero,List.set_cons_succ]
   refine wpAnyE_take (i:=6) (v := ?_) [7,11,12,13,15] rfl (by kernel_rfl) (by kernel_rfl) (by kernel_rfl) (by kernel_rfl) (fun _ _ _ h=>h) (Or.inl ⟨by rfl,?_⟩) HS.out ?_
   rotate_left
   ·(intro W hSW;(try dsimp only at hSW);go_simp;try with_reducible rfl)
   try simp only [Act.put,List.setIfInBounds_toArray,List.set_cons_zero,List.set_cons_succ]
   refine wpAnyE_take (i:=8) (v := ?_) [9,10,11,12,13,15] rfl (by kernel_rfl) (by kernel_rfl) (by kernel_rfl) (by kernel_rfl) (fun _ _ _ h=>h) (Or.inl ⟨by rfl,?_⟩) HS.out ?_
   rotate_left
   ·(intro W hSW;(try dsimp only at hSW);go_simp;try with_reducible rfl)
   try simp only [Act.put,List.setIfInBounds_toArray,List.set_cons_zero,List.set_cons_succ]
   refine wpAnyE_take (i:=9) (v := ?_) [10,11,12,13,15] rfl (by kernel_rfl) (by kernel_rfl) (by kernel_rfl) (by kernel_rfl) (fun _ _ _ h=>h) (Or.inl ⟨by rfl,?_⟩) HS.out ?_
   rotate_left
   ·(intro W hSW;(try dsimp only at hSW);go_simp;try with_reducible rfl)
   try simp only [Act.put,List.setIfInBounds_toArray,List.set_cons_zero,List.set_cons_succ]
   clear HS
   refine wpAnyE_one (i:=4) (by kernel_rfl) rfl (fun K hK => ?_)
   go_simp
   rw [<-show W6=(W5.alloc (.cells #[] 9)).drew from HW6.out]
   refine hK.out _ _ (fun _=>HS6.out) ?_
   clear hK K
   refine wpAnyE_one (i:=7) (by kernel_rfl) rfl (fun K hK => ?_)
   refine step_appR rfl (.tmp 36) (.tmp 38) 82 rfl (.slice (some ⟨W5.heap.size,0,none⟩) 0 0) (.slice pa0 lp pc0) (.slice pa pn pc) w7 rfl rfl HR7.out ?_
   refine hK.out _ _ (fun _=>HS7.out) ?_
   clear hK K
   try simp only [Act.put,List.setIfInBounds_toArray,List.set_cons_zero,List.set_cons_succ]
   refine wpAnyE_one (i:=10) (by kernel_rfl) rfl (fun K hK => ?_)
   go_simp
   refine HC7.out.mono ?_
   rintro e w8 ⟨ba,bn,bc,R,rfl,hgs,hmp,hb8⟩
   obtain ⟨⟨f5,f3⟩,⟨h5,h3⟩,va,vc,w9,q',r9,hr9,hq9,hf9,hg9,hb9,hs9⟩:=HAp.out w8 ba bn bc R hgs hmp hb8
   have HS:Hid (w8.cell? ⟨M5,0,none⟩=some (.string nm)/\w8.cell? ⟨M5,1,none⟩=some (.slice pa0 lp pc0)/\w8.cell? ⟨M5,2,none⟩=some (.slice ba0 lb bc0)/\w8.cell? ⟨M3,1,none⟩=some (.slice fa k fc)):=⟨f5.three.1,f5.three.2.1,f5.three.2.2,f3.two.2.1⟩
   refine hK.out _ _ (fun _=>HS.out) ?_
   clear hK K
   refine wpAnyE_take (i:=11) (v := ?_) [12,13,15] rfl (by kernel_rfl) (by kernel_rfl) (by kernel_rfl) (by kernel_rfl) (fun _ _ _ h=>h) (Or.inl ⟨by rfl,?_⟩) HS.out ?_
   rotate_left
   ·(intro W hSW;(try dsimp only at hSW);go_simp;try with_reducible rfl)
   try simp only [Act.put,List.setIfInBounds_toArray,List.set_cons_zero,List.set_cons_succ]
   have HS8:Hid ((w8.alloc (.cells #[.string nm,.slice pa pn pc,.slice ba bn bc] 85)).cell? ⟨M5,0,none⟩=some (.string nm)/\(w8.alloc (.cells #[.string nm,.slice pa pn pc,.slice ba bn bc] 85)).cell? ⟨M5,1,none⟩=some (.slice pa0 lp pc0)/\(w8.alloc (.cells #[.string nm,.slice pa pn pc,.slice ba bn bc] 85)).cell? ⟨M5,2,none⟩=some (.slice ba0 lb bc0)/\(w8.alloc (.cells #[.string nm,.slice pa pn pc,.slice ba bn bc] 85)).cell? ⟨M3,1,none⟩=some (.slice fa k fc)):=⟨h5.three.1,h5.three.2.1,h5.three.2.2,h3.two.2.1⟩
   have HS9:Hid (w9.cell? ⟨M5,0,none⟩=some (.string nm)/\w9.cell? ⟨M5,1,none⟩=some (.slice pa0 lp pc0)/\w9.cell? ⟨M5,2,none⟩=some (.slice ba0 lb bc0)/\w9.cell? ⟨M3,1,none⟩=some (.slice fa k fc)):=⟨hg9.three.1,hg9.three.2.1,hg9.three.2.2,hf9.two.2.1⟩
   have HR9:=hide r9
   obtain ⟨-,x1,-,x3⟩:=hf9.two
   have HRel:Hid (∃(k':Nat) (Q':List FV) (fa':Option Addr) (fc':Nat),k'=k+1/\(Value.slice va (k+1) vc) = .slice fa' k' fc'/\Q'.map (fun q:FV=>q.f)=fs.take k'/\GfRow [M3,M+1] (M3+1) (w9.setCell ⟨M3,1,none⟩ (.slice va (k+1) vc)) (.slice fa' k' fc') Q'/\FrC (w9.setCell ⟨M3,1,none⟩ (.slice va (k+1) vc)) M3 [.slice ua un uc,.slice fa' k' fc']/\Below M3 w2 (w9.setCell ⟨M3,1,none⟩ (.slice va (k+1) vc))/\M3<(w9.setCell ⟨M3,1,none⟩ (.slice va (k+1) vc)).heap.size):=by
    refine ⟨k+1,Q++[q'],va,vc,rfl,rfl,?_,?_,hf9.set 1 _,hb9.setCell (p:=⟨M3,1,none⟩) (Nat.le_refl _) _,by simpa using hs9⟩
    ·rw [List.map_append,HQm.out,HTk.out,List.map_cons,List.map_nil,hq9]
    ·exact hr9.tk (Tk.put _ _ _ (by simp)) (fun g hg=>Below.heap_setCell _ _ _ g (by have:=(World.ownsRow.lt hr9.row g hg).1;show g≠M3;omega))
   clear hgs hmp hb8 f5 f3 h5 h3 r9 hr9 hq9 hf9 hg9 hb9 hs9 HS HAp HC7 HS7 HS6 HR7 HX5 HF5
   refine wpAnyE_one (i:=12) (by kernel_rfl) rfl (fun K hK => ?_)
   go_simp
   refine hK.out _ _ (fun _=>HS8.out) ?_
   clear hK K
   refine wpAnyE_one (i:=13) (by kernel_rfl) rfl (fun K hK => ?_)
   refine step_appR rfl (.tmp 33) (.tmp 44) 32 rfl (.slice fa k fc) (.slice (some ⟨w8.heap.size,0,none⟩) 1 1) (.slice va (k+1) vc) w9 rfl rfl HR9.out ?_
   refine hK.out _ _ (fun _=>HS9.out) ?_
   clear hK K
   try simp only [Act.put,List.setIfInBounds_toArray,List.set_cons_zero,List.set_cons_succ]
   have HS:=HS9
   refine wpAnyE_take (i:=14) (v := ?_) [15] rfl (by kernel_rfl) (by kernel_rfl) (by kernel_rfl) (by kernel_rfl) (fun _ _ _ h=>h) (Or.inl ⟨by rfl,?_⟩) HS.out ?_
   rotate_left
   ·(intro W hSW;(try dsimp only at hSW);go_simp;try with_reducible rfl)
   try simp only [Act.put,List.setIfInBounds_toArray,List.set_cons_zero,List.set_cons_succ]
   clear HS
   refine wpAnyE_one (i:=15) (by kernel_rfl) rfl (fun K hK => ?_)
   go_simp
   refine hK.out _ _ (fun h=>absurd rfl h) ?_
   clear hK K
   refine wpAnyE_done (by kernel_rfl) ?_ _
   go_wp2_with fail
   rw [HM3.out] at HRel ⊢
   go_roundw
   case rel=>
    obtain ⟨k',Q',fa',fc',rfl,hv,h1,h2,h3,h4,h5⟩:=HRel.out
    simp only [Value.slice.injEq] at hv
    obtain ⟨rfl,-,rfl⟩:=hv
    exact ⟨k+1,Q',va,vc,by omega,by go_num,h1,h2,h3,h4,h5⟩
   case measure=>simp [RowKit.intOf];omega
  ·obtain rfl:k=t.funcs.length:=by omega
   obtain ⟨x0,x1,-,-⟩:=HFr.out.two
   obtain ⟨M3,hM3⟩ : ∃M3,M3=w2.heap.size:=⟨_,rfl⟩
   have hQf:Q.map (fun q:FV=>q.f)=fs:=by rw [HQm.out,List.take_of_length_le (by omega)]
   have hQl:Q.length=t.funcs.length:=by
    have:=congrArg List.length hQf
    simp only [List.length_map] at this
    omega
   have HFu:Hid (∀W,Bl wr W->Funcs W (.slice fa t.funcs.length fc) fs):=fun W hW=>by
    have:=(HRow.out.below hW).funcs
    rw [hQf] at this
    exact this
   have hml:m<fs.length:=fnum_lt HMn.out
   have HL3:Hid (∀W,Bl wr W->Calls Tryz.prog 26 #[.agg #[.slice ua un uc,.slice fa t.funcs.length fc],.string mainS] W fun e w'=>e = .returned (.int .i64 (m:Int))/\Bl W w'):=fun W hW=>by
    have:=l3func_any fs (.slice ua un uc) _ mainS W (by omega) (HFu.out W hW)
    rw [fnumI_some HMn.out] at this
    exact this
   have HRc:Hid (∀W vfr,Bl wr W->Ints W vfr [(m:Int)]->(∀a n c,vfr = .slice a n c->n<=c)->Calls Tryz.prog 41 #[.agg #[.slice ua un uc,.slice fa t.funcs.length fc],vfr] W fun e w'=>∃a n c out,e = .returned (.slice a n c)/\IRow W.heap.size w' (.slice a n c) out/\(∀g,g∈out↔Rch ⟨t.globals,fs⟩ m g)/\out.length<=1000/\Bl W w'):=fun W vfr hW h1 h2=>by
    refine (l3reach_any ⟨t.globals,fs⟩ _ _ vfr m W hml (show fs.length<=1000 by omega) (fun g hg=>(HOk.out g hg).small) ⟨_,_,_,rfl⟩ (HFu.out W hW) h1 h2).mono ?_
    rintro e w' ⟨v,out,rfl,h3,h4,h5,h6⟩
    obtain ⟨a,c,rfl⟩:=h3.shape
    exact ⟨a,_,c,out,rfl,h3,h4,h5,h6⟩
   have HQf:Hid (Q.map (fun q:FV=>q.f)=fs/\Q.length=fs.length):=⟨hQf,by omega⟩
   have HM3:=hide hM3
   have HX3:Hid (FrC wr (M+1) [.slice none 0 0,.slice none 0 0]):=HX2.out.below hBr
   unfold mainS at HL3
   clear hQf hQl HQm hbw HX2 HSf HFC HNp
   go_wp2_with fail
   refine (HL3.out wr (Below.refl _ _)).mono ?_
   rintro e w3 ⟨rfl,hb3⟩
   have HF3:Hid (FrC w3 M3 [.slice ua un uc,.slice fa t.funcs.length fc]):=by rw [hM3];exact HFr.out.below hb3
   have hsz3:=hb3.size
   obtain ⟨W4,hW4⟩ : ∃W4,W4=w3.alloc (.cells #[.int .i64 (m:Int)] 2):=⟨_,rfl⟩
   have hb34:Bl w3 W4:=by rw [hW4];exact (Below.refl _ _).alloc (Nat.le_refl _) _
   have hbr4:Bl wr W4:=hb3.trans (hb34.mono hb3.size)
   have hint:Ints W4 (.slice (some ⟨w3.heap.size,0,none⟩) 1 1) [(m:Int)]:=by
    rw [hW4]
    refine ⟨_,1,rfl,fun _=>⟨w3.heap.size,rfl,fun j hj => ?_⟩⟩
    match j,hj with
    | 0,_=>simp
   have HRr:=hide (HRc.out W4 _ hbr4 hint (fun a n c h=>by simp only [Value.slice.injEq] at h;omega))
   obtain ⟨x0',x1',-,-⟩:=HF3.out.two
   have HW4:=hide hW4
   have HB4:=hide hbr4
   rw [hM3] at x0' x1'
   clear hint hb34 hW4 hb3 HL3 HRc x0 x1 hbr4
   go_wp2_with fail
   rw [<-HW4.out]
   refine HRr.out.mono ?_
   rintro e w5 ⟨oa,on_,oc,out,rfl,hir,hout,hol,hb5⟩
   obtain ⟨W6,hW6⟩ : ∃W6,W6=w5.alloc (.cells #[.int .i64 (m:Int)] 2):=⟨_,rfl⟩
   have hb56:Bl w5 W6:=by rw [hW6];exact (Below.refl _ _).alloc (Nat.le_refl _) _
   obtain ⟨i0,hi,hz0,hz1,hz2⟩:=info_parts info_i64
   have hcl : ∀ad,(some (⟨w5.heap.size,0,none⟩:Addr))=some ad->∀j u,([Value.int .i64 (m:Int)])[j]? = some u->W6.cell? (ad.add j)=some u:=fun ad had j u hu=>by
    cases had
    have hl:=(List.getElem?_eq_some_iff.1 hu).1
    simp only [l_c,l_n] at hl
    match j,hl with
    | 0,_=>rw [hW6];simp [addrO] at hu ⊢;exact hu
   obtain ⟨lv,w7,r1,r2,r3,r4⟩:=run_appG (P:=Tryz.prog) (w:=W6) W4.heap.size 26 26 2 i0 _ 1 8 Tryz.underlying26 hi hz0 hz1 hz2 rfl (by decide) (.slice oa on_ oc) out.length _ (ownB hir hb56) (some ⟨w5.heap.size,0,none⟩) 1 1 [.int .i64 (m:Int)] (fun h=>by cases h) rfl hcl (fun u hu=>by simp only [List.mem_singleton] at hu;subst hu;rfl) (by omega) (by decide) (by have:=hb5.size;have:=hb56.size;omega)
   have hlive:IRow W4.heap.size w7 lv (out++[m]):=by
    show w7.ownsRow _ 2 1 lv (out++[m]).length ((out++[m]).map (fun g:Nat=>Value.int .i64 (g:Int)))
    rw [l_a,List.map_append]
    exact r2
   obtain ⟨la,lc,rfl⟩:=hlive.shape
   obtain ⟨ln,hln⟩ : ∃ln,(out++[m]).length=ln:=⟨_,rfl⟩
   rw [hln] at r1 hlive
   have hb46:Bl W4 W6:=hb5.trans (hb56.mono hb5.size)
   have hb47:Bl W4 w7:=hb46.grown r3 hb46.size (fun g hg=>(World.ownsRow.lt hir g hg).1)
   have hbr7:Bl wr w7:=HB4.out.trans (hb47.mono HB4.out.size)
   have HIn:=hide (hlive.ints)
   have HMem:Hid (∀g,g∈out++[m]↔(g=m∨Rch ⟨t.globals,fs⟩ m g)):=fun g=>by
    rw [List.mem_append,List.mem_singleton,hout g,or_comm]
   have hol':(out++[m]).length<=10000000:=by simp;omega
   have HR1:=hide r1
   have HW6:=hide hW6
   have HF7:Hid (FrC w7 M3 [.slice ua un uc,.slice fa t.funcs.length fc]):=by rw [hM3];exact HFr.out.below hbr7
   have HX7:Hid (FrC w7 (M+1) [.slice none 0 0,.slice none 0 0]):=HX3.out.below hbr7
   have HQs:Hid (∀q∈Q,∀W,Tk [M+1] w7 W->Strs W q.vp q.f.params/\Stmts W q.vb q.f.body):=fun q hq W hW=>HRow.out.each q hq W ((Tk.of_below hbr7).trans (hW.mono (fun g hg=>by simp only [List.mem_singleton] at hg;rw [hg];simp)))
   have HR7:=hide (HRow.out.below hbr7)
   have HBr7:Hid (Bl w2 w7):=HBr.out.trans (hbr7.mono HBr.out.size)
   have hs7:w2.heap.size<w7.heap.size:=by have:=hbr7.size;omega
   obtain ⟨x0,x1,-,-⟩:=HF7.out.two
   rw [hM3] at x0 x1
   rw [hW6] at HR1
   clear hi hz0 hz1 hz2 hcl r1 r2 r3 r4 hir hout hb5 hb56 hb46 hb47 hbr7 hlive hol hW6 x0' x1' HRr HB4 HFr HRow HBr hln HF3 HW4
   go_wp2_with (at_builtin;(refine wpList_appG (hgd:=rfl) (s:=.tmp 52) (x:=.tmp 54) (t:=26) (ho := ?ho) (v:=.slice oa on_ oc) (vx:=.slice (some ⟨w5.heap.size,0,none⟩) 1 1) (v':=.slice la ln lc) (w':=w7) (hs:=rfl) (hx:=rfl) (hr := ?hr) (h := ?_);(case ho=>rfl);(case hr=>with_reducible exact HR1.out)))
   obtain ⟨P,hP⟩ : ∃P,P=needB t.globals fs m:=⟨_,rfl⟩
   have HP:=hide hP
   clear hP
   have HT8:Hid (FrC (w7.alloc (.cells #[.slice ua un uc,.slice none 0 0] 34)) w7.heap.size [.slice ua un uc,.slice none 0 0]):=box_fr2 _ _ _ _
   go_loopw [9] (fun i wq=>∃(k:Nat) (ga:Option Addr) (gl gc:Nat),k<=t.funcs.length/\i = .int .i64 k/\GfRow [w7.heap.size,M+1] (w7.heap.size+1) wq (.slice ga gl gc) (leftL P Q k)/\FrC wq w7.heap.size [.slice ua un uc,.slice ga gl gc]/\Bl w7 wq/\w7.heap.size<wq.heap.size) (fun i _=>t.funcs.length-(RowKit.intOf i).toNat)
   case atStart=>exact ⟨0,none,0,0,Nat.zero_le _,rfl,GfRow.nil _ _ _,HT8.out,(Below.refl _ _).alloc (Nat.le_refl _) _,by simp⟩
   case round=>
    obtain ⟨k,ga,gl,gc,hk,rfl,hrow,hfr,hBq,hsq⟩:=hrel
    have HRow:=hide hrow
    have HFr:=hide hfr
    have HBq:=hide hBq
    have y1:wr.cell? ⟨w2.heap.size,1,none⟩=some (.slice fa t.funcs.length fc):=(hBq.cell (p:=⟨w2.heap.size,1,none⟩) hs7).trans x1
    clear hrow hfr
    by_cases hlt:k<t.funcs.length
    ·have hkQ:k<Q.length:=by rw [HQf.out.2];omega
     have HHs:=hide (l3has_any (out++[m]) _ k wr hol' (HIn.out.below hBq))
     obtain ⟨g,hga⟩ : ∃g,fa=some ⟨g,0,none⟩:=by
      rcases HR7.out.row.2 with ⟨h,-⟩ | ⟨g,cap,cur,h,-⟩
      ·simp only [Value.slice.injEq] at h;omega
      ·simp only [Value.slice.injEq] at h;exact ⟨g,h.1⟩
     subst hga
     have hgl:=World.ownsRow.lt HR7.out.row g rfl
     have hcf : ∀i,i<3->w7.cell? ⟨g,k*3+i,none⟩=(cellsF Q[k])[i]? := fun i hi=>by
      have hl:k*3+i<(flatF Q).length:=by rw [flatF_len Q];omega
      have hc:=World.ownsRow.cells HR7.out.row (g:=g) rfl (k*3+i) _ (List.getElem?_eq_getElem hl)
      rw [<-flatF_get Q k i hkQ hi,List.getElem?_eq_getElem hl]
      simpa [addrO] using hc
     obtain ⟨e1,e2⟩:=HQs.out Q[k] (List.getElem_mem hkQ) w7 (Tk.refl _ _)
     obtain ⟨pa,pn,pc,hvp⟩ : ∃a n c,Q[k].vp = .slice a n c:=by obtain ⟨a,c,h,-⟩:=e1;exact ⟨_,_,_,h⟩
     obtain ⟨ba,bn,bc,hvb⟩ : ∃a n c,Q[k].vb = .slice a n c:=by obtain ⟨a,c,h,-⟩:=e2;exact ⟨_,_,_,h⟩
     obtain ⟨nm,hnm⟩ : ∃nm,Q[k].f.name=nm:=⟨_,rfl⟩
     have HV:Hid (cellsF Q[k] = [.string nm,.slice pa pn pc,.slice ba bn bc]):=by show _=_;rw [cellsF,hnm,hvp,hvb]
     have c0:w7.cell? ⟨g,k*3,none⟩=some (.string nm):=by have:=hcf 0 (by omega);rw [HV.out] at this;exact this
     have c1:w7.cell? ⟨g,k*3+1,none⟩=some (.slice pa pn pc):=by have:=hcf 1 (by omega);rw [HV.out] at this;exact this
     have c2:w7.cell? ⟨g,k*3+2,none⟩=some (.slice ba bn bc):=by have:=hcf 2 (by omega);rw [HV.out] at this;exact this
     have HOne:Hid (Q[k].vp.oneCell'=true/\Q[k].vb.oneCell'=true):=⟨by rw [hvp];rfl,by rw [hvb];rfl⟩
     have i1:(0:Int)<=(k:Int):=by omega
     have i2:(k:Int)<(t.funcs.length:Int):=by omega
     have HQk:=hide (HQs.out Q[k] (List.getElem_mem hkQ))
     clear hcf e1 e2 hvp hvb hnm
     by_cases hin:k∈out++[m]
     ·have HL1:Hid (leftL P Q (k+1)=leftL P Q k++[Q[k]]):=leftL_yes hkQ (by rw [HP.out];exact needB_yes ((HMem.out k).1 hin))
      rw [decide_eq_true hin] at HHs
      clear hin
      go_wp2_with fail
      refine HHs.out.mono ?_
      rintro e w8 ⟨rfl,hb8⟩
      have hb78:Bl w7 w8:=HBq.out.trans (hb8.mono HBq.out.size)
      obtain ⟨M8,hM8⟩ : ∃M8,M8=w7.heap.size:=⟨_,rfl⟩
      obtain ⟨M3',hM3'⟩ : ∃M3',M3'=w2.heap.size:=⟨_,rfl⟩
      have hb7d:Bl w7 w8.drew:=hb78.drew
      have HS:Hid (w8.drew.cell? ⟨M8,1,none⟩=some (.slice ga gl gc)/\w8.drew.cell? ⟨M3',1,none⟩=some (.slice (some ⟨g,0,none⟩) t.funcs.length fc)/\w8.drew.cell? ⟨g,k*3,none⟩=some (.string nm)/\w8.drew.cell? ⟨g,k*3+1,none⟩=some (.slice pa pn pc)/\w8.drew.cell? ⟨g,k*3+2,none⟩=some (.slice ba bn bc)):=by
       have f8:FrC w8 w7.heap.size [.slice ua un uc,.slice ga gl gc]:=HFr.out.below hb8
       refine ⟨by rw [hM8];exact f8.two.2.1,by rw [hM3'];exact (hb7d.cell (p:=⟨w2.heap.size,1,none⟩) hs7).trans x1,(hb7d.cell (p:=⟨g,k*3,none⟩) hgl.2).trans c0,(hb7d.cell (p:=⟨g,k*3+1,none⟩) hgl.2).trans c1,(hb7d.cell (p:=⟨g,k*3+2,none⟩) hgl.2).trans c2⟩
      obtain ⟨W9,hW9⟩ : ∃W9,W9=(w8.alloc (.cells #[.string nm,.slice pa pn pc,.slice ba bn bc] 85)).drew:=⟨_,rfl⟩
      have hb89:Bl w8 W9:=by rw [hW9];exact (bel_a _ _).drew
      have hb79:Bl w7 W9:=hb78.trans (hb89.mono hb78.size)
      have hbr9:Bl wr W9:=hb8.trans (hb89.mono hb8.size)
      have hown2 : ∀x,(Value.slice ga gl gc).ownBlock=some x->w7.heap.size+1<=x/\x<wr.heap.size:=fun x hx=>World.ownsRow.lt HRow.out.row x hx
      obtain ⟨v',w10,r1,r2,r3,r4⟩:=gf_app (c:=1) (ad:=⟨w8.heap.size,0,none⟩) (q:=Q[k]) 32 (HRow.out.below hbr9) (fun W hW=>HQk.out W ⟨⟨hW.still.1.trans hb79.os,hW.still.2.1.trans hb79.tape,hW.still.2.2.trans hb79.output⟩,Nat.le_trans hb79.size hW.size,fun x hx hn=>by
       rw [hW.other x (Nat.lt_of_lt_of_le hx hb79.size) (fun hm=>by
        rcases List.mem_append.1 hm with hm | hm
        ·simp only [List.mem_cons,List.not_mem_nil,or_false] at hm
         rcases hm with hm | hm
         ·omega
         ·exact hn (by rw [hm];simp)
        ·have e:(Value.slice ga gl gc).ownBlock=some x:=by simpa using hm
         have:=(hown2 x e).1
         omega)]
       exact hb79.block x hx⟩) (fun j x hx=>by
       rw [HV.out] at hx
       have:=(box_fr3 w8 (.string nm) (.slice pa pn pc) (.slice ba bn bc) 85 j x hx).1
       rw [hW9]
       simpa [addrO] using this) HOne.out (by have:=hbr9.size;omega) (by have:=leftL_len P Q k;omega)
      obtain ⟨va,vc,rfl⟩:=r2.shape
      obtain ⟨vl,hvl⟩ : ∃vl,(leftL P Q k++[Q[k]]).length=vl:=⟨_,rfl⟩
      rw [hvl] at r1 r2
      have hx9 : ∀x,x<wr.heap.size->(∀y,(Value.slice ga gl gc).ownBlock=some y->y≠x)->w10.heap[x]? = wr.heap[x]? := fun x h1 h2=>by
       rw [r3.block x (Nat.lt_of_lt_of_le h1 hbr9.size) (fun e=>h2 x e.symm rfl)]
       exact hbr9.block x h1
      have hf10:FrC w10 w7.heap.size [.slice ua un uc,.slice ga gl gc]:=HFr.out.keep (hx9 _ hsq (fun y hy e=>by have:=(hown2 y hy).1;omega))
      have hb710:Bl w7 w10:=hb79.grown r3 hb79.size (fun x hx=>by have:=(hown2 x hx).1;omega)
      have HS9:Hid (W9.cell? ⟨M8,1,none⟩=some (.slice ga gl gc)/\W9.cell? ⟨M3',1,none⟩=some (.slice (some ⟨g,0,none⟩) t.funcs.length fc)/\W9.cell? ⟨g,k*3,none⟩=some (.string nm)/\W9.cell? ⟨g,k*3+1,none⟩=some (.slice pa pn pc)/\W9.cell? ⟨g,k*3+2,none⟩=some (.slice ba bn bc)):=by
       refine ⟨by rw [hM8];exact (HFr.out.below hbr9).two.2.1,by rw [hM3'];exact (hb79.cell (p:=⟨w2.heap.size,1,none⟩) hs7).trans x1,(hb79.cell (p:=⟨g,k*3,none⟩) hgl.2).trans c0,(hb79.cell (p:=⟨g,k*3+1,none⟩) hgl.2).trans c1,(hb79.cell (p:=⟨g,k*3+2,none⟩) hgl.2).trans c2⟩
      have HS10:Hid (w10.cell? ⟨M8,1,none⟩=some (.slice ga gl gc)/\w10.cell? ⟨M3',1,none⟩=some (.slice (some ⟨g,0,none⟩) t.funcs.length fc)/\w10.cell? ⟨g,k*3,none⟩=some (.string nm)/\w10.cell? ⟨g,k*3+1,none⟩=some (.slice pa pn pc)/\w10.cell? ⟨g,k*3+2,none⟩=some (.slice ba bn bc)):=by
       refine ⟨by rw [hM8];exact hf10.two.2.1,by rw [hM3'];exact (hb710.cell (p:=⟨w2.heap.size,1,none⟩) hs7).trans x1,(hb710.cell (p:=⟨g,k*3,none⟩) hgl.2).trans c0,(hb710.cell (p:=⟨g,k*3+1,none⟩) hgl.2).trans c1,(hb710.cell (p:=⟨g,k*3+2,none⟩) hgl.2).trans c2⟩
      obtain ⟨-,z1,-,z3⟩:=hf10.two
      rw [<-hM8] at z1 z3
      have HR10:=hide r1
      have HRel:Hid (GfRow [w7.heap.size,M+1] (w7.heap.size+1) (w10.setCell ⟨w7.heap.size,1,none⟩ (.slice va vl vc)) (.slice va vl vc) (leftL P Q (k+1))/\FrC (w10.setCell ⟨w7.heap.size,1,none⟩ (.slice va vl vc)) w7.heap.size [.slice ua un uc,.slice va vl vc]/\Bl w7 (w10.setCell ⟨w7.heap.size,1,none⟩ (.slice va vl vc))/\w7.heap.size<(w10.setCell ⟨w7.heap.size,1,none⟩ (.slice va vl vc)).heap.size):=by
       rw [HL1.out]
       refine ⟨r2.tk (Tk.put _ _ _ (by simp)) (fun x hx=>Below.heap_setCell _ _ _ x (by have:=(World.ownsRow.lt r2.row x hx).1;show x≠w7.heap.size;omega)),hf10.set 1 _,hb710.setCell (p:=⟨w7.heap.size,1,none⟩) (Nat.le_refl _) _,?_⟩
       have:=r3.size
       have:=hbr9.size
       simp only [World.size_setCell]
       omega
      have HW9:=hide hW9
      have HM8:=hide hM8
      have HM3':=hide hM3'
      have HB78:=hide hb78
      have HB8:=hide hb8
      clear hb8 hb78 hb7d c0 c1 c2 y1 hM8 hM3' hW9 hb89 hb79 hbr9 hown2 r1 r2 r3 r4 hvl hx9 hf10 hb710
      go_upto_region 16 with fail
      rw [<-HM8.out,<-HM3'.out]
      refine wp_region_E 10 (fun W=>W.cell? ⟨M8,1,none⟩=some (.slice ga gl gc)/\W.cell? ⟨M3',1,none⟩=some (.slice (some ⟨g,0,none⟩) t.funcs.length fc)/\W.cell? ⟨g,k*3,none⟩=some (.string nm)/\W.cell? ⟨g,k*3+1,none⟩=some (.slice pa pn pc)/\W.cell? ⟨g,k*3+2,none⟩=some (.slice ba bn bc)) (by kernel_rfl) ?_
      refine wpAnyE_take (i:=0) (v := ?_) [10] rfl (by kernel_rfl) (by kernel_rfl) (by kernel_rfl) (by kernel_rfl) (fun _ _ _ h=>h) (Or.inl ⟨by rfl,?_⟩) HS.out ?_
      rotate_left
      ·(intro W hSW;(try dsimp only at hSW);go_simp;try with_reducible rfl)
      try simp only [Act.put,List.setIfInBounds_toArray,List.set_cons_zero,List.set_cons_succ]
      refine wpAnyE_take (i:=1) (v := ?_) [10] rfl (by kernel_rfl) (by kernel_rfl) (by kernel_rfl) (by kernel_rfl) (fun _ _ _ h=>h) (Or.inl ⟨by rfl,?_⟩) HS.out ?_
      rotate_left
      ·(intro W hSW;(try dsimp only at hSW);go_simp;try with_reducible rfl)
      try simp only [Act.put,List.setIfInBounds_toArray,List.set_cons_zero,List.set_cons_succ]
      refine wpAnyE_take (i:=2) (v := ?_) [10] rfl (by kernel_rfl) (by kernel_rfl) (by kernel_rfl) (by kernel_rfl) (fun _ _ _ h=>h) (Or.inl ⟨by rfl,?_⟩) HS.out ?_
      rotate_left
      ·(intro W hSW;(try dsimp only at hSW);go_simp;try with_reducible rfl)
      try simp only [Act.put,List.setIfInBounds_toArray,List.set_cons_zero,List.set_cons_succ]
      refine wpAnyE_take (i:=3) (v := ?_) [10] rfl (by kernel_rfl) (by kernel_rfl) (by kernel_rfl) (by kernel_rfl) (fun _ _ _ h=>h) (Or.inl ⟨by rfl,?_⟩) HS.out ?_
      rotate_left
      ·(intro W hSW;(try dsimp only at hSW);go_simp;try with_reducible rfl)
      try simp only [Act.put,List.setIfInBounds_toArray,List.set_cons_zero,List.set_cons_succ]
      refine wpAnyE_take (i:=4) (v := ?_) [10] rfl (by kernel_rfl) (by kernel_rfl) (by kernel_rfl) (by kernel_rfl) (fun _ _ _ h=>h) (Or.inl ⟨by rfl,?_⟩) HS.out ?_
      rotate_left
      ·(intro W hSW;(try dsimp only at hSW);go_simp;try with_reducible rfl)
      try simp only [Act.put,List.setIfInBounds_toArray,List.set_cons_zero,List.set_cons_succ]
      refine wpAnyE_take (i:=5) (v := ?_) [10] rfl (by kernel_rfl) (by kernel_rfl) (by kernel_rfl) (by kernel_rfl) (fun _ _ _ h=>h) (Or.inl ⟨by rfl,?_⟩) HS.out ?_
      rotate_left
      ·(intro W hSW;(try dsimp only at hSW);go_simp;try with_reducible rfl)
      try simp only [Act.put,List.setIfInBounds_toArray,List.set_cons_zero,List.set_cons_succ]
      refine wpAnyE_take (i:=6) (v := ?_) [10] rfl (by kernel_rfl) (by kernel_rfl) (by kernel_rfl) (by kernel_rfl) (fun _ _ _ h=>h) (Or.inl ⟨by rfl,?_⟩) HS.out ?_
      rotate_left
      ·(intro W hSW;(try dsimp only at hSW);go_simp;try with_reducible rfl)
      try simp only [Act.put,List.setIfInBounds_toArray,List.set_cons_zero,List.set_cons_succ]
      clear HS
      refine wpAnyE_one (i:=7) (by kernel_rfl) rfl (fun K hK => ?_)
      go_simp
      rw [<-show W9=(w8.alloc (.cells #[.string nm,.slice pa pn pc,.slice ba bn bc] 85)).drew from HW9.out]
      refine hK.out _ _ (fun _=>HS9.out) ?_
      clear hK K
      refine wpAnyE_one (i:=8) (by kernel_rfl) rfl (fun K hK => ?_)
      refine step_appR rfl (.tmp 70) (.tmp 76) 32 rfl (.slice ga gl gc) (.slice (some ⟨w8.heap.size,0,none⟩) 1 1) (.slice va vl vc) w10 rfl rfl HR10.out ?_
      refine hK.out _ _ (fun _=>HS10.out) ?_
      clear hK K
      try simp only [Act.put,List.setIfInBounds_toArray,List.set_cons_zero,List.set_cons_succ]
      have HS:=HS10
      refine wpAnyE_take (i:=9) (v := ?_) [10] rfl (by kernel_rfl) (by kernel_rfl) (by kernel_rfl) (by kernel_rfl) (fun _ _ _ h=>h) (Or.inl ⟨by rfl,?_⟩) HS.out ?_
      rotate_left
      ·(intro W hSW;(try dsimp only at hSW);go_simp;try with_reducible rfl)
      try simp only [Act.put,List.setIfInBounds_toArray,List.set_cons_zero,List.set_cons_succ]
      clear HS HS9 HS10 HR10
      refine wpAnyE_one (i:=10) (by kernel_rfl) rfl (fun K hK => ?_)
      go_simp
      refine hK.out _ _ (fun h=>absurd rfl h) ?_
      clear hK K
      refine wpAnyE_done (by kernel_rfl) ?_ _
      go_wp2_with fail
      rw [HM8.out,HM3'.out]
      go_roundw
      case rel=>exact ⟨k+1,va,vl,vc,by omega,by go_num,HRel.out.1,HRel.out.2.1,HRel.out.2.2.1,HRel.out.2.2.2⟩
      case measure=>simp [RowKit.intOf];omega
     ·have HL1:Hid (leftL P Q (k+1)=leftL P Q k):=leftL_no (by rw [HP.out];exact needB_no (fun h=>hin ((HMem.out k).2 h)))
      rw [decide_eq_false hin] at HHs
      clear hin c0 c1 c2
      go_wp2_with fail
      refine HHs.out.mono ?_
      rintro e w8 ⟨rfl,hb8⟩
      have HRel:Hid (GfRow [w7.heap.size,M+1] (w7.heap.size+1) w8 (.slice ga gl gc) (leftL P Q (k+1))/\FrC w8 w7.heap.size [.slice ua un uc,.slice ga gl gc]/\Bl w7 w8/\w7.heap.size<w8.heap.size):=by
       rw [HL1.out]
       exact ⟨HRow.out.below hb8,HFr.out.below hb8,HBq.out.trans (hb8.mono HBq.out.size),by have:=hb8.size;omega⟩
      clear hb8
      go_wp2_with fail
      go_roundw
      case rel=>exact ⟨k+1,ga,gl,gc,by omega,by go_num,HRel.out.1,HRel.out.2.1,HRel.out.2.2.1,HRel.out.2.2.2⟩
      case measure=>simp [RowKit.intOf];omega
    ·obtain rfl:k=t.funcs.length:=by omega
     obtain ⟨z0,z1,-,-⟩:=HFr.out.two
     have HXr:Hid (FrC wr (M+1) [.slice none 0 0,.slice none 0 0]):=HX7.out.below hBq
     obtain ⟨s0,s1,s2,s3⟩:=HXr.out.two
     obtain ⟨W9,hW9⟩ : ∃W9,W9=(wr.setCell ⟨M+1,0,none⟩ (.slice ua un uc)).setCell ⟨M+1,1,none⟩ (.slice ga gl gc):=⟨_,rfl⟩
     have HXb:Hid (FrC W9 (M+1) [.slice ua un uc,.slice ga gl gc]):=by rw [hW9];exact (HXr.out.set 0 _).set 1 _
     obtain ⟨t0,t1,-,-⟩:=HXb.out.two
     have hMw:=HMw.out
     have hk9 : ∀g,g≠M+1->W9.heap[g]? = wr.heap[g]? := fun g h1=>by
      rw [hW9,Below.heap_setCell _ _ _ g (by simpa using h1),Below.heap_setCell _ _ _ g (by simpa using h1)]
     have hb2r:Bl w2 wr:=HBr7.out.trans (hBq.mono (by omega))
     have HFin:Hid (Globs W9 (.slice ua un uc) t.globals/\Funcs W9 (.slice ga gl gc) (leftL P fs fs.length)/\Bl w W9):=by
      refine ⟨?_,?_,?_⟩
      ·have h1:W9.ownsRow w1.heap.size 58 2 (.slice ua un uc) t.globals.length (flatG t.globals):=own_keep HU.out fun g hg=>by
        obtain ⟨a1,a2⟩:=World.ownsRow.lt HU.out g hg
        rw [hk9 g (by omega)]
        exact hb2r.block g a2
       obtain ⟨K,h2,-⟩:=ROne.of_own h1
       exact h2.globs
      ·have hr9:=HRow.out.tk (w':=W9) (by rw [hW9];exact (Tk.put _ _ _ (by simp)).trans (Tk.put _ _ _ (by simp))) (fun g hg=>hk9 g (by have:=(World.ownsRow.lt HRow.out.row g hg).1;omega))
       have:=hr9.funcs
       rw [leftL_map,HQf.out.1] at this
       rw [show fs.length=t.funcs.length from hfl]
       exact this
      ·have h1:Bl w wr:=hbw2.trans (hb2r.mono hbw2.size)
       rw [hW9]
       exact (h1.setCell (p:=⟨M+1,0,none⟩) (by show _<=M+1;omega) _).setCell (p:=⟨M+1,1,none⟩) (by show _<=M+1;omega) _
     have HW9:=hide hW9
     clear hW9 hk9 hb2r hMw
     go_wp2_with fail
     rw [<-HW9.out]
     rw [<-HP.out]
     exact bodyPost_ret (v:=.agg #[.slice ua un uc,.slice ga gl gc]) (by simp [results,Tryz.results17,go_sem,t0,t1]) rfl ⟨_,_,rfl,HFin.out.1,HFin.out.2.1,HFin.out.2.2⟩
end Go.Proofs.YtmddmgpijpjpbaaGreatDoor
