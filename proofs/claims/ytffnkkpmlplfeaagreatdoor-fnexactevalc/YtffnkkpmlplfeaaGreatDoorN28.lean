import Derived.Test.YtffnkkpmlplfeaaGreatDoorN27
namespace Go.Proofs.YtffnkkpmlplfeaaGreatDoor
open Go.Proofs.Tryz
open Go.RowKit
set_option linter.all false
set_option maxRecDepth 100000
set_option maxHeartbeats 16000000
variable[Inhabited Pick]
section
variable {f:Fu} {C:RC} {w:World} {c vl:Int} {rt:Bool} {lb:List Nat} {vL vI vO:Value} {s s':ES}
theorem nodeSum_mem {l:List St} {s:St} (h:s∈l):s.e.length+s.f.length<=nodeSum l:=by
 induction l with
 | nil=>cases h
 | cons x r ih=>
  simp only[nodeSum] at ih ⊢;rcases List.mem_cons.1 h with rfl|h
  ·omega
  ·have:=ih h
   omega
theorem ok_body {t:Tr} (h:(checkE t).1=0) (hf:f∈t.funcs):OkB t f.params f.body/\Scp t f.params/\f.params.length<=6:=by
 obtain⟨h1,-,h2⟩:=sound_snd h;obtain⟨hs,hp⟩:=h2 f hf;simp only[treeB,Bool.and_eq_true,decide_eq_true_eq,List.all_eq_true] at h1;have hfb:=h1.2.2.2 f hf;simp only[funcB,Bool.and_eq_true,decide_eq_true_eq,stmtsB,List.all_eq_true] at hfb;obtain⟨-,q2,q3,-,⟨q5,q6⟩,q7⟩:=hfb;exact⟨⟨hs,λs hs=>⟨q6 s hs,by have:=nodeSum_mem hs;omega,by have:=nodeSum_mem hs;omega⟩,q7,by omega⟩,hp,q2⟩
theorem parL_names {vs:List Int} (h:vs.length=f.params.length):(parL f vs).map Prod.fst=f.params:=by
 unfold parL;rw[List.map_fst_zip o_]
theorem RS.now (h:RS C w c rt vl lb vL vI vO s) (x:Int) (hs:s' = {s with n:=x}) (hn:0<=x/\x+1000000000*(s.u:Int)<=100001000000000):RS C (w.setCell ⟨C.P,12,none⟩ (.int .i64 x)) c rt vl lb vL vI vO s':=by
 subst hs;exact h.boxed 12 _ rfl rfl rfl rfl h.inp ⟨h.ok.g,h.ok.l,h.ok.i⟩ h.uu ⟨hn.1,hn.2,h.nn.2.2.1,h.nn.2.2.2⟩
theorem RS.deep (h:RS C w c rt vl lb vL vI vO s) (x:Int) (hs:s' = {s with d:=x}) (hn:0<=x/\x<=100001000000000):RS C (w.setCell ⟨C.P,13,none⟩ (.int .i64 x)) c rt vl lb vL vI vO s':=by
 subst hs;exact h.boxed 13 _ rfl rfl rfl rfl h.inp ⟨h.ok.g,h.ok.l,h.ok.i⟩ h.uu ⟨h.nn.1,h.nn.2.1,hn.1,hn.2⟩
theorem RS.nort (h:RS C w c rt vl lb vL vI vO s):RS C (w.setCell ⟨C.P,9,none⟩ (.bool false)) c false vl lb vL vI vO s:=
 h.boxed 9 _ rfl rfl rfl rfl h.inp h.ok h.uu h.nn
def CI (C:RC) (W1:World) (f:Fu) (vs:List Int) (vl:Int) (vI vO:Value) (s:ES) (i:Value) (wr:World):Prop:=∃(k:Nat) (lb1:List Nat) (vL1:Value),i=.int .i64 k/\k<=f.params.length/\RS C wr 0 false vl lb1 vL1 vI vO {s with l:=(parL f vs).take k}/\(∀b∈lb1,W1.heap.size<=b)/\(∀k,vL1.ownBlock=some k->W1.heap.size<=k)/\Tcs (λk=>k=C.P) W1 wr
theorem caS_step (C:RC) (hC:C.Ok) (n:Nat) (IB:BlS C n):CaS C (n+1):=by
 intro f vs s r s' hE hsc har hvb hnb w vl lb vL vI vO va B h hA;obtain⟨hf,rb,z2,rfl,hs',hEb⟩ : ∃(hf:f<C.t.funcs.length) (rb:ER) (z2:ES),r=rb.back/\s' = {z2 with l:=s.l,n:=z2.n-C.fr.getD f 0}/\Ev C.t C.fr n (.bl C.t.funcs[f].body) {s with l:=parL C.t.funcs[f] vs,n:=s.n+C.fr.getD f 0,d:=max s.d (s.n+C.fr.getD f 0)} rb z2:=by
  cases hE using Ev_i with
  | run _ _ _ _ hf rb z2 h1=>exact⟨hf,rb,z2,rfl,rfl,h1⟩
 have hvl:=har hf;obtain⟨hOk,hSp,hp6⟩:=ok_body hC.snd (g_ hf);obtain⟨af,cf,hvf,hcf1,hcf2,hfc⟩:=hC.fs;obtain⟨b,off,haf,hc⟩:=hfc o_;obtain⟨vp,vb,⟨c0,c1,c2⟩,hps,hbs⟩:=hc f hf;obtain⟨fa,fc,hvFr,hfr1,hfr2,hfrc⟩:=hC.frs;have hflr:f<C.fr.length:=by rw[hC.frl];exact hf
 obtain⟨bF,oF,hfa,hFc⟩:=hfrc o_;have cF:=hFc f hflr;have hfg:C.fr.getD f 0=C.fr[f]:=by simp[List.getD,hflr]
 have hfb:=hC.frb _ (g_ hflr);rw[<-hfg] at cF hfb;generalize C.fr.getD f 0=F1 at cF hfb hs' hEb;have hbw:b<C.w0.heap.size:=b_ c0;have hbF:bF<C.w0.heap.size:=b_ cF;have hnm:=parL_names hvl;have hFl:=hC.sm.2;have hfrl:=hC.frl;generalize C.t.funcs[f]=fn at hvl hOk hSp hp6 c0 c1 c2 hps hbs hEb hnm;obtain⟨ap,cp,hvp,hpc1,hpc2,hpc⟩:=id hps;obtain⟨ab,cb,hvb2,-⟩:=id hbs;subst hvp hvb2;have d0:=(h.bel.cell (p:=⟨b,_,none⟩) hbw).trans c0;have d1:=(h.bel.cell (p:=⟨b,_,none⟩) hbw).trans c1;have d2:=(h.bel.cell (p:=⟨b,_,none⟩) hbw).trans c2;have y1:=(h.box 1 _ rfl).1;have y3:=(h.box 3 _ rfl).1;have f3:=(h.box 3 _ rfl).2;rw[hvf,haf] at y1;have hbr:b<w.heap.size:=l_ hbw h.bel.size;have hPw:=h.hi.1;obtain⟨W1,hW1⟩ : ∃W1,W1=w.alloc (.cells #[.string fn.name,.slice ap fn.params.length cp,.slice ab fn.body.length cb] 97):=⟨_,rfl⟩;obtain⟨M,hM⟩ : ∃M,M=w.heap.size:=⟨_,rfl⟩;have hb1:Bl w W1:=by rw[hW1];exact r_.alloc n_ _
 have hz1:W1.heap.size=M+1:=by rw[hW1,hM,World.size_alloc]
 have hfr:FrC W1 M [.string fn.name,.slice ap fn.params.length cp,.slice ab fn.body.length cb]:=by
  rw[hW1,hM];exact box_fr w #[.string fn.name,.slice ap fn.params.length cp,.slice ab fn.body.length cb] _ (by show 3<=1000;omega)
 have hR1:=h.below hb1;have hR2:=hR1.enter;obtain⟨La,Lc,hvL,-⟩:=own_shapeU h.lrow;obtain⟨Aa,Ac,hvA,-⟩:=own_shapeU hA.row;have hTEx : ∀k,TEx C vO k->k∉lb/\vL.ownBlock≠some k:=λk hk=>by
  have hnd:=h.nd;unfold RC.K at hnd;obtain⟨n1,n2⟩:=List.nodup_cons.1 hnd;obtain⟨n3,n4⟩:=List.nodup_cons.1 n2;obtain⟨n5,n6,n7⟩:=List.nodup_append.1 n4;rcases hk with rfl|hk|hk
  ·exact⟨λhm=>n1 (m_ _ (List.mem_append_right _ hm)),λe=>h.lo _ e RC.memP⟩
  ·exact⟨λhm=>n7 _ hk _ hm rfl,λe=>h.lo _ e (by unfold RC.K;exact m_ _ (m_ _ (List.mem_append_left _ hk)))⟩
  ·exact⟨λhm=>(h.oo k hk).1 (by unfold RC.K;exact m_ _ (m_ _ (List.mem_append_right _ hm))),(h.oo k hk).2⟩
 obtain⟨HTEx,HR1,HA,HRS,HPC,HFr,HPs,HBs,HOk,HSp,HEb,HIB⟩:=h12 hTEx hR1 hA h hpc hfr hps hbs hOk hSp hEb IB;obtain⟨HNm,HS',HVb,HVl,HNb,HFb,HcF,HbF⟩:=h8 hnm hs' hvb hvl hnb hfb cF hbF;have HvFr:Hid (C.vFr=.slice (some ⟨bF,oF,none⟩) C.fr.length fc):=by show _=_;rw[hvFr,hfa]
 obtain⟨HR2,Hb1⟩:=h2 hR2 hb1;have HFu:=hide hC.fu;have HM:=hide hM;subst hvL hvA;clear hfc hc hfrc hFc hpc hps hbs hC IB hE hsc har hvb hnb hOk hSp hEb hs' hnm hvl hR1 hR2 hA h c0 c1 c2 cF hfb hfr hb1 hvf haf hvFr hfa hbF hTEx;have hWe:((w.setCell ⟨C.P,3,none⟩ (.slice (some ⟨w.heap.size+1,0,none⟩) 0 0)).alloc (.cells #[.string fn.name,.slice ap fn.params.length cp,.slice ab fn.body.length cb] 97)).alloc (.cells #[] 65)=(W1.alloc (.cells #[] 65)).setCell ⟨C.P,3,none⟩ (.slice (some ⟨W1.heap.size,0,none⟩) 0 0):=by
  rw[World.setCell_alloc_past _ _ _ _ o_,hz1,hM,hW1,World.setCell_alloc_past _ _ _ _ o_]
 obtain⟨W2,hW2⟩ : ∃W2,W2=(W1.alloc (.cells #[] 65)).setCell ⟨C.P,3,none⟩ (.slice (some ⟨W1.heap.size,0,none⟩) 0 0):=⟨_,rfl⟩;have hT2:Tcs (λk=>k=C.P) W1 W2:=by
  rw[hW2];exact (((bel_a _ _):Bl W1 (W1.alloc (.cells #[] 65))).tcs (S:=λk=>k=C.P)).setCell (p:=⟨C.P,3,none⟩) rfl _
 have HT2:=hide hT2;rw[<-hW2] at HR2 hWe;have HWe:=hide hWe;clear hWe hW2 hT2;go_enter func31,ntmps31;go_wp2_with fail;rw[HWe.o,<-hM];clear HWe hM hW1 d0 d1 d2 y1 y3 f3;go_loopw [9] (λi wr=>CI C W1 fn vs vl vI vO s i wr) (λi _=>fn.params.length-(RowKit.intOf i).toNat)
 case atStart=>exact⟨0,[],_,rfl,y_,HR2,(λb hb=>by simp at hb),(λk hk=>by have e:W1.heap.size=k:=(by simpa[Value.ownBlock] using hk);omega),HT2⟩
 case round=>
  clear HR2 HT2;obtain⟨k,lb1,vL1,rfl,hk,hR,hlb1,hvL1,hT⟩:=hrel;obtain⟨HR,HLb,HvL,HT⟩:=h4 hR hlb1 hvL1 hT;have hMP:M≠C.P:=by have:=HM.o;omega
  have hfrw:=HFr.o.tcs (by omega:M<W1.heap.size) hT hMP;have HFw:=hide hfrw;have k1:=(hfrw 1 _ rfl).1;have k2:=(hfrw 2 _ rfl).1;have hws:W1.heap.size<=wr.heap.size:=hT.size;have hMw:M<wr.heap.size:=by omega
  clear hR hlb1 hvL1 hT hfrw;by_cases hlt:k<fn.params.length
  ·have hki:(k:Int)<(fn.params.length:Int):=by omega
   have hkv:k<vs.length:=by have:=HVl.o;omega
   obtain⟨bp,op,hap,hpc⟩:=HPC.o o_;subst hap;have cp0:=hpc k hlt;have hbp:bp<C.w0.heap.size:=b_ cp0;obtain⟨ad,hAd,hAn,hAB,hAl,ca0⟩:=row_cell HA.o.row k hkv;have hadP:ad≠C.P:=λe=>(HA.o.ap ad (by rw[hAd];rfl)).2.1 (by rw[e];exact RC.memP);subst hAd;go_upto_region 7 with fail;obtain⟨W3,hW3⟩ : ∃W3,W3=wr.drew:=⟨_,rfl⟩;have hb3:Bl wr W3:=by rw[hW3];exact r_.drew
   have hR3:=HR.o.below hb3;obtain⟨W4,hW4⟩ : ∃W4,W4=W3.alloc (.cells #[.int .i64 vs[k]] 2):=⟨_,rfl⟩;obtain⟨W5,hW5⟩ : ∃W5,W5=W4.alloc (.cells #[.string fn.params[k],.slice (some ⟨W3.heap.size,0,none⟩) 1 1] 65):=⟨_,rfl⟩;have hpl:(parL fn vs).length=fn.params.length:=by unfold parL;rw[List.length_zip];have:=HVl.o;omega
   have htl:((parL fn vs).take k).length=k:=by rw[List.length_take];omega
   obtain⟨va,vn,vc,w6,r6,hR6,⟨x6,f6⟩,t6,-,o6⟩:=decl_run fn.params[k] vs[k] hR3 (hW5.trans (by rw[hW4])) (by show ((parL fn vs).take k).length+1<=_;omega) (HVb.o _ (g_ hkv));have hb4:Bl W3 W4:=by rw[hW4];exact r_.alloc n_ _
   have hb5:Bl W3 W5:=by rw[hW5];exact hb4.alloc hb4.size _
   have hz4:W4.heap.size=W3.heap.size+1:=by rw[hW4,World.size_alloc]
   have hw3:wr.heap.size<=W3.heap.size:=hb3.size;have hold : ∀X,Bl wr X->(X.cell? ⟨C.P,3,none⟩=some vL1/\X.cell? ⟨M,1,none⟩=some (.slice (some ⟨bp,op,none⟩) fn.params.length cp)/\X.cell? ⟨bp,op+k,none⟩=some (.string fn.params[k])/\X.cell? ⟨ad,k,none⟩=some (.int .i64 vs[k])):=λX hX=>by
    have hX1:Tcs (λk=>k=C.P) W1 X:=HT.o.of_below hX;refine⟨((HR.o.below hX).box 3 _ rfl).1,((HFw.o.below hX) 1 _ rfl).1,((HR.o.below hX).bel.cell (p:=⟨bp,_,none⟩) hbp).trans cp0,?_⟩;refine (c_ (a:=⟨ad,k,none⟩) (hX1.block ad (l_ hAl Hb1.o.size) hadP)).trans ?_;exact (Hb1.o.cell (p:=⟨ad,k,none⟩) hAl).trans ca0
   obtain⟨HS0,HS4⟩:=h2 (hold W3 hb3) (hold W4 (hb3.trans (hb4.mono hw3)));have hS5:=hold W5 (hb3.trans (hb5.mono hw3));have HS5:=hide hS5;have hn6 : ∀g,g<wr.heap.size->g≠C.P->vL1.ownBlock≠some g->∀o,w6.cell? ⟨g,o,none⟩=W5.cell? ⟨g,o,none⟩:=λg hg h1 h2 o=>c_ (t6.block g (l_ hg (t_ hw3 hb5.size)) (λe=>e.elim h1 h2));have hbpw:bp<wr.heap.size:=l_ hbp HR.o.bel.size;have hadw:ad<wr.heap.size:=l_ hAl (t_ Hb1.o.size hws);have hbpP:bp≠C.P:=λe=>by have:=HR.o.hi.2.2.1;omega
   have HS6:Hid (w6.cell? ⟨C.P,3,none⟩=some vL1/\w6.cell? ⟨M,1,none⟩=some (.slice (some ⟨bp,op,none⟩) fn.params.length cp)/\w6.cell? ⟨bp,op+k,none⟩=some (.string fn.params[k])/\w6.cell? ⟨ad,k,none⟩=some (.int .i64 vs[k])):=⟨x6,(hn6 M hMw hMP (λe=>by have:=HvL.o _ e;omega) 1).trans hS5.2.1,(hn6 bp hbpw hbpP (λe=>by have:=HvL.o _ e;have:=HRS.o.bel.size;have:=Hb1.o.size;omega) _).trans hS5.2.2.1,(hn6 ad hadw hadP (λe=>by have:=HvL.o _ e;have:=Hb1.o.size;omega) _).trans hS5.2.2.2⟩;have HCI:Hid (CI C W1 fn vs vl vI vO s (.int .i64 ((k+1:Nat):Int)) (w6.setCell ⟨C.P,3,none⟩ (.slice va vn vc))):=by
    refine⟨k+1,lb1++[W3.heap.size],.slice va vn vc,rfl,by omega,?_,λb hb => ?_,λg hg => ?_,?_⟩
    ·have e:(parL fn vs).take (k+1)=(parL fn vs).take k++[(fn.params[k],vs[k])]:=by
      rw[List.take_succ_eq_append_getElem o_];congr 1
      simp[parL]
     rw[e];exact hR6
    ·rcases List.mem_append.1 hb with hb|hb
     ·exact HLb.o b hb
     ·simp at hb;omega
    ·rcases o6 g hg with h1|h1
     ·exact HvL.o g h1
     ·omega
    ·refine (((HT.o.of_below hb3).of_below hb5).next t6 (λg hg => ?_)).setCell (p:=⟨C.P,3,none⟩) rfl _;rcases hg with hg|hg
     ·exact .inl hg
     ·exact .inr (HvL.o g hg)
   obtain⟨Hr6,HW3,HW4,HW5,HZ4⟩:=h5 r6 hW3 hW4 hW5 hz4;obtain⟨L1a,L1c,eL,-⟩:=own_shapeU hR3.lrow;have hL1:vL1=.slice L1a k L1c:=by rw[eL];show Value.slice L1a ((parL fn vs).take k).length L1c=_;rw[htl]
   clear eL;subst hL1;generalize hvk:vs[k]=vk at *;generalize hpk:fn.params[k]=pk at *;clear hvk hpk hR6 r6 t6 o6 hb3 hb4 hb5 hR3 hW4 hW5 hz4 hold hS5 hn6 HFw cp0 ca0 hpc x6 hW3 k1 k2 htl hpl;have HS:=HS0;refine wp_region_E 20 (λX=>X.cell? ⟨C.P,3,none⟩=some (.slice L1a k L1c)/\X.cell? ⟨M,1,none⟩=some (.slice (some ⟨bp,op,none⟩) fn.params.length cp)/\X.cell? ⟨bp,op+k,none⟩=some (.string pk)/\X.cell? ⟨ad,k,none⟩=some (.int .i64 vk)) k_ ?_;rw[<-HW3.o];refine tk 0 [18,19,20] HS.o ?_;refine tk 1 [2,3,4,17,20] HS.o ?_;refine tk 2 [3,4,17,20] HS.o ?_;refine tk 3 [4,17,20] HS.o ?_;refine tk 4 [17,20] HS.o ?_;refine tk 5 [6,8,9,15,16,17,20] HS.o ?_;refine tk 6 [8,9,15,16,17,20] HS.o ?_;refine tk 7 [8,9,15,16,17,20] HS.o ?_;refine tk 8 [9,15,16,17,20] HS.o ?_;refine tk 9 [15,16,17,20] HS.o ?_;refine tk 10 [12,13,14,15,16,17,20] HS.o ?_;refine tk 11 [12,13,14,15,16,17,20] HS.o ?_;refine tk 12 [13,14,15,16,17,20] HS.o ?_;refine tk 13 [14,15,16,17,20] HS.o ?_;clear HS;refine wpAnyE_one (i:=14) k_ rfl (λK hK => ?_);go_simp;rw[<-HW4.o];refine hK.out _ _ (λ_=>HS4) ?_;clear hK K;try simp only[Act.put,tA,tB,tC]
   have HS:=HS4;refine tk 15 [16,17,20] HS.o ?_;clear HS;refine wpAnyE_one (i:=16) k_ rfl (λK hK => ?_);go_simp;rw[<-HW5.o,HZ4.o];refine hK.out _ _ (λ_=>HS5) ?_;clear hK K;try simp only[Act.put,tA,tB,tC]
   refine wpAnyE_one (i:=17) k_ rfl (λK hK => ?_);refine step_appR rfl (.tmp 38) (.tmp 50) 59 rfl (.slice L1a k L1c) (.slice (some ⟨W3.heap.size+1,0,none⟩) 1 1) (.slice va vn vc) w6 rfl rfl Hr6.o ?_;refine hK.out _ _ (λ_=>HS6) ?_;clear hK K;try simp only[Act.put,tA,tB,tC]
   have HS:=HS6;refine tk 18 [19,20] HS.o ?_;refine tk 19 [20] HS.o ?_;clear HS;have x6:=HS6.o.1;refine wpAnyE_one (i:=20) k_ rfl (λK hK => ?_);go_simp;refine hK.out _ _ (λh=>absurd rfl h) ?_;clear hK K;refine wpAnyE_done k_ ?_ _;go_wp2;go_roundw
   case rel=>
    have:=HCI.o
    rw[show ((k+1:Nat):Int)=(k:Int)+1 by omega] at this;exact this
   case measure=>simp[RowKit.intOf];omega
  ·have hki : ¬(k:Int)<(fn.params.length:Int):=by omega
   have hpl:(parL fn vs).length=fn.params.length:=by unfold parL;rw[List.length_zip];have:=HVl.o;omega
   have htk:(parL fn vs).take k=parL fn vs:=List.take_of_length_le o_;have hRa:=HR.o;rw[htk] at hRa;have HRa:=hide hRa;have hfli:(f:Int)<(C.fr.length:Int):=by omega
   have hnn:=hRa.nn;have hnn0:0<=s.n:=hnn.1;have hfb:=HFb.o;have hnb:=HNb.o;have hu0:(0:Int)<=s.u:=by omega
   have hwn:IntKind.i64.wrap (s.n+F1)=s.n+F1:=by simp[IntKind.wrap,IntKind.bits,IntKind.signed];omega
   have HBlk:=hide λX (hX:RS C X 0 false vl lb1 vL1 vI vO {s with l:=parL fn vs,n:=s.n+F1,d:=max s.d (s.n+F1)})=>HIB.o _ _ _ _ HEb.o (by show OkB C.t ((parL fn vs).map Prod.fst) _;rw[HNm.o];exact HOk) (by show Scp C.t ((parL fn vs).map Prod.fst);rw[HNm.o];exact HSp) (by show (parL fn vs).length+s.u<=200000;have:=HRa.o.uu.1;have:=HFu.o.2;have e:({s with l:=parL fn vs}:ES).u=s.u:=rfl;omega) X vl lb1 vL1 vI vO _ hX HBs;have hz2:z2.n=s.n+F1/\z2.u<=s.u/\OkW z2:=by
    have hi:=HEb.o.inv (s := {s with l:=parL fn vs,n:=s.n+F1,d:=max s.d (s.n+F1)}) ⟨HRa.o.ok.g,HRa.o.ok.l,HRa.o.ok.i⟩ trivial;exact⟨hi.2.2.2.1,hi.2.2.2.2.1,hi.1⟩
   obtain⟨HZ2,HNov⟩:=h2 hz2 (HEb.o.nov rfl);clear hRa hnn hz2;go_upto_region 8 with fail;obtain⟨W3,hW3⟩ : ∃W3,W3=wr.drew:=⟨_,rfl⟩;have hb3:Bl wr W3:=by rw[hW3];exact r_.drew
   have hR3:=HRa.o.below hb3;have x12:=(hR3.box 12 _ rfl).1;have f12:=(hR3.box 12 _ rfl).2;have x11:=(hR3.box 11 _ rfl).1;rw[HvFr.o] at x11;have HS0:Hid (W3.cell? ⟨C.P,12,none⟩=some (.int .i64 s.n)/\W3.cell? ⟨C.P,11,none⟩=some (.slice (some ⟨bF,oF,none⟩) C.fr.length fc)/\W3.cell? ⟨bF,oF+f,none⟩=some (.int .i64 F1)):=⟨x12,x11,(hR3.bel.cell (p:=⟨bF,_,none⟩) HbF).trans HcF⟩;have hR4:=hR3.now (s.n+F1) (s' := {s with l:=parL fn vs,n:=s.n+F1}) rfl ⟨by omega,by show s.n+F1+1000000000*(s.u:Int)<=_;omega⟩;obtain⟨W4,hW4⟩ : ∃W4,W4=W3.setCell ⟨C.P,12,none⟩ (.int .i64 (s.n+F1)):=⟨_,rfl⟩;rw[<-hW4] at hR4;have hT4:Tcs (λk=>k=C.P) W1 W4:=by rw[hW4];exact (HT.o.of_below hb3).setCell (p:=⟨C.P,12,none⟩) rfl _
   have hfr4:=HFr.o.tcs (by omega:M<W1.heap.size) hT4 hMP;have k24:=(hfr4 2 _ rfl).1;have z12:=(hR4.box 12 _ rfl).1;have z13:=(hR4.box 13 _ rfl).1;have g13:=(hR4.box 13 _ rfl).2;obtain⟨HR4,HT4,HW3,HW4⟩:=h4 hR4 hT4 hW3 hW4;have hM4:M<W4.heap.size:=l_ (by omega:M<W1.heap.size) hT4.size;have hP4:C.P<W4.heap.size:=hR4.hi.1;have HEnd:Hid (∀(X w7 w8 W9:World) (vl7:Int) (vL7 vI7 vO7:Value),Tcs (λk=>k=C.P) W1 X->RS C w7 (stR rb) (rtR rb) vl7 lb1 vL7 vI7 vO7 z2->Tcs (TSx C lb1 vL1 vO) X w7->(∀k,vO7.ownBlock=some k->vO.ownBlock=some k∨X.heap.size<=k)->w8=w7.setCell ⟨C.P,9,none⟩ (.bool false)->W9=w8.drew->(W9.cell? ⟨C.P,12,none⟩=some (.int .i64 (s.n+F1))/\W9.cell? ⟨C.P,11,none⟩=some (.slice (some ⟨bF,oF,none⟩) C.fr.length fc)/\W9.cell? ⟨bF,oF+f,none⟩=some (.int .i64 F1))/\W9.frozen? ⟨C.P,12,none⟩=false/\(∃v3,W9.cell? ⟨C.P,3,none⟩=some v3)/\W9.frozen? ⟨C.P,3,none⟩=false/\∀zz:Int,(∀v,rb.back=.val v->zz=v)->ExP C w lb (.slice La s.l.length Lc) vO rb.back s' (.returned (.int .i64 zz)) ((W9.setCell ⟨C.P,12,none⟩ (.int .i64 s.n)).setCell ⟨C.P,3,none⟩ (.slice La s.l.length Lc))):=λX w7 w8 W9 vl7 vL7 vI7 vO7 hX hR7 t7 ho7 e8 e9=>by
    have hR8:=hR7.nort;rw[<-e8] at hR8;have hb9:Bl w8 W9:=by rw[e9];exact r_.drew
    have hR9:=hR8.below hb9;obtain⟨q1,q2,q3⟩:=HZ2.o;have a12:=(hR9.box 12 _ rfl).1;rw[q1] at a12;have a11:=(hR9.box 11 _ rfl).1;rw[HvFr.o] at a11;refine⟨⟨a12,a11,(hR9.bel.cell (p:=⟨bF,_,none⟩) HbF).trans HcF⟩,(hR9.box 12 _ rfl).2,⟨_,(hR9.box 3 _ rfl).1⟩,(hR9.box 3 _ rfl).2,λzz hzz => ?_⟩;have hRn:=hR9.now s.n (s' := {z2 with n:=s.n}) rfl ⟨hnn0,by omega⟩;have hXs:W1.heap.size<=X.heap.size:=hX.size;have hup : ∀k,TSx C lb1 vL1 vO k->TEx C vO k∨W1.heap.size<=k:=λk hk=>by
     rcases hk with hk|hk|hk
     ·exact .inl hk
     ·exact .inr (HLb.o k hk)
     ·exact .inr (HvL.o k hk)
    have t9:Tcs (TEx C vO) W1 (W9.setCell ⟨C.P,12,none⟩ (.int .i64 s.n)):=by
     have u1:Tcs (TEx C vO) W1 w7:=(hX.mono (λk hk=>.inl hk)).next t7 hup;have u2:Tcs (TEx C vO) W1 w8:=by rw[e8];exact u1.setCell (p:=⟨C.P,9,none⟩) (.inl rfl) _
     exact (u2.of_below hb9).setCell (p:=⟨C.P,12,none⟩) (.inl rfl) _
    have ho9 : ∀k,vO7.ownBlock=some k->vO.ownBlock=some k∨W1.heap.size<=k:=λk hk=>(ho7 k hk).imp_right (λh1=>t_ hXs h1);have hRl:=HR1.o.leave hRn t9 HTEx.o ho9 (s':=s') (by rw[HS'.o,q1];simp only[Int.add_sub_cancel]);have hst:stR rb.back=stR rb:=by cases rb using ER.cs <;> rfl
    rw[<-hst] at hRl;refine⟨zz,vI7,vO7,vl7,rfl,hzz,hRl,?_,λk hk=>(ho9 k hk).imp_right (λh1=>t_ Hb1.o.size h1)⟩;exact ((Hb1.o.tcs (S:=TEx C vO)).next t9 (λk hk=>.inl hk)).setCell (p:=⟨C.P,3,none⟩) (.inl rfl) _
   clear hR3 hR4 hT4 hfr4 hb3 x11 x12 hW3 k1 k2 hpl htk hnb;have HS:=HS0;refine wp_region_E 15 (λX=>X.cell? ⟨C.P,12,none⟩=some (.int .i64 s.n)/\X.cell? ⟨C.P,11,none⟩=some (.slice (some ⟨bF,oF,none⟩) C.fr.length fc)/\X.cell? ⟨bF,oF+f,none⟩=some (.int .i64 F1)) k_ ?_;rw[<-HW3.o];refine tk 0 [13,14,15] HS.o ?_;refine tk 1 [2,3,4,12,15] HS.o ?_;refine tk 2 [3,4,12,15] HS.o ?_;refine tk 3 [4,12,15] HS.o ?_;refine tk 4 [12,15] HS.o ?_;refine tk 5 [6,7,8,10,11,12,15] HS.o ?_;refine tk 6 [7,8,10,11,12,15] HS.o ?_;refine tk 7 [8,10,11,12,15] HS.o ?_;refine tk 8 [10,11,12,15] HS.o ?_;refine tk 9 [10,11,12,15] HS.o ?_;refine tk 10 [11,12,15] HS.o ?_;refine tk 11 [12,15] HS.o ?_;refine tk 12 [15] HS.o ?_;refine tk 13 [14,15] HS.o ?_;refine tk 14 [15] HS.o ?_;clear HS;have x12:=HS0.o.1;refine wpAnyE_one (i:=15) k_ rfl (λK hK => ?_);go_simp;refine hK.out _ _ (λh=>absurd rfl h) ?_;clear hK K x12 f12;refine wpAnyE_done k_ ?_ _;rw[<-HW4.o];clear hW4;have hnb:=HNb.o;have hwn2:IntKind.i64.wrap s.n=s.n:=by simp[IntKind.wrap,IntKind.bits,IntKind.signed];omega
   have hsub:s.n+F1-F1=s.n:=by omega
   by_cases hgt:s.d<s.n+F1
   ·have hmx:max s.d (s.n+F1)=s.n+F1:=by omega
    have HX:Hid (∀m,RS C ((W4.drewN m).setCell ⟨C.P,13,none⟩ (.int .i64 (s.n+F1))) 0 false vl lb1 vL1 vI vO {s with l:=parL fn vs,n:=s.n+F1,d:=max s.d (s.n+F1)}/\Tcs (λk=>k=C.P) W1 ((W4.drewN m).setCell ⟨C.P,13,none⟩ (.int .i64 (s.n+F1)))):=λm=>by
     have hbm:Bl W4 (W4.drewN m):=below_drewN r_ m;rw[hmx];exact⟨(HR4.o.below hbm).deep (s.n+F1) rfl ⟨by omega,by omega⟩,(HT4.o.of_below hbm).setCell (p:=⟨C.P,13,none⟩) rfl _⟩
    clear hmx;go_wp2_with fail;go_quiet (fail)
    go_wp2_with fail;refine (HBlk.o _ (HX.o _).1).mono ?_;rintro x w7 ⟨⟨y,rfl⟩,vL7,vI7,vO7,vl7,hR7,hv7,t7,ho7,-⟩;have y9:=(hR7.box 9 _ rfl).1;have f9:=(hR7.box 9 _ rfl).2;have y10:=(hR7.box 10 _ rfl).1;obtain⟨HV7,HE7⟩:=h2 hv7 (λw8 W9 h8 h9=>HEnd.o _ w7 w8 W9 vl7 vL7 vI7 vO7 (HX.o _).2 hR7 t7 ho7 h8 h9);clear hR7 hv7 t7 ho7 HX;cases hrt:rtR rb with
    | true=>
     rw[hrt] at y9;go_upto_region 16 with fail;obtain⟨w8,hw8⟩ : ∃w8,w8=w7.setCell ⟨C.P,9,none⟩ (.bool false):=⟨_,rfl⟩;obtain⟨W9,hW9⟩ : ∃W9,W9=w8.drew:=⟨_,rfl⟩;obtain⟨hS9,f12,⟨v3,x3⟩,g3,hfin⟩:=HE7.o w8 W9 hw8 hW9;obtain⟨HS,HFin,HW9,Hw8⟩:=h4 hS9 hfin hW9 hw8;clear hS9 hfin hW9 hw8 y9 f9 y10;refine wp_region_E 15 (λX=>X.cell? ⟨C.P,12,none⟩=some (.int .i64 (s.n+F1))/\X.cell? ⟨C.P,11,none⟩=some (.slice (some ⟨bF,oF,none⟩) C.fr.length fc)/\X.cell? ⟨bF,oF+f,none⟩=some (.int .i64 F1)) k_ ?_;rw[<-Hw8.o,<-HW9.o];refine tk 0 [13,14,15] HS.o ?_;refine tk 1 [2,3,4,12,15] HS.o ?_;refine tk 2 [3,4,12,15] HS.o ?_;refine tk 3 [4,12,15] HS.o ?_;refine tk 4 [12,15] HS.o ?_;refine tk 5 [6,7,8,10,11,12,15] HS.o ?_;refine tk 6 [7,8,10,11,12,15] HS.o ?_;refine tk 7 [8,10,11,12,15] HS.o ?_;refine tk 8 [10,11,12,15] HS.o ?_;refine tk 9 [10,11,12,15] HS.o ?_;refine tk 10 [11,12,15] HS.o ?_;refine tk 11 [12,15] HS.o ?_;refine tk 12 [15] HS.o ?_;refine tk 13 [14,15] HS.o ?_;refine tk 14 [15] HS.o ?_;have x12:=HS.o.1;clear HS;refine wpAnyE_one (i:=15) k_ rfl (λK hK => ?_);go_simp;refine hK.out _ _ (λh=>absurd rfl h) ?_;clear hK K x12;refine wpAnyE_done k_ ?_ _;go_wp2;go_ret;exact HFin.o vl7 (λv hv=>by
      cases rb using ER.cs with
      | val v=>exact absurd rfl (HNov.o v)
      | on=>cases hrt
      | ret v=>cases hv;exact HV7.o _ rfl
      | out c=>cases hv)
    | false=>
     rw[hrt] at y9;go_upto_region 16 with fail;obtain⟨w8,hw8⟩ : ∃w8,w8=w7.setCell ⟨C.P,9,none⟩ (.bool false):=⟨_,rfl⟩;obtain⟨W9,hW9⟩ : ∃W9,W9=w8.drew:=⟨_,rfl⟩;obtain⟨hS9,f12,⟨v3,x3⟩,g3,hfin⟩:=HE7.o w8 W9 hw8 hW9;obtain⟨HS,HFin,HW9,Hw8⟩:=h4 hS9 hfin hW9 hw8;clear hS9 hfin hW9 hw8 y9 f9 y10;refine wp_region_E 15 (λX=>X.cell? ⟨C.P,12,none⟩=some (.int .i64 (s.n+F1))/\X.cell? ⟨C.P,11,none⟩=some (.slice (some ⟨bF,oF,none⟩) C.fr.length fc)/\X.cell? ⟨bF,oF+f,none⟩=some (.int .i64 F1)) k_ ?_;rw[<-Hw8.o,<-HW9.o];refine tk 0 [13,14,15] HS.o ?_;refine tk 1 [2,3,4,12,15] HS.o ?_;refine tk 2 [3,4,12,15] HS.o ?_;refine tk 3 [4,12,15] HS.o ?_;refine tk 4 [12,15] HS.o ?_;refine tk 5 [6,7,8,10,11,12,15] HS.o ?_;refine tk 6 [7,8,10,11,12,15] HS.o ?_;refine tk 7 [8,10,11,12,15] HS.o ?_;refine tk 8 [10,11,12,15] HS.o ?_;refine tk 9 [10,11,12,15] HS.o ?_;refine tk 10 [11,12,15] HS.o ?_;refine tk 11 [12,15] HS.o ?_;refine tk 12 [15] HS.o ?_;refine tk 13 [14,15] HS.o ?_;refine tk 14 [15] HS.o ?_;have x12:=HS.o.1;clear HS;refine wpAnyE_one (i:=15) k_ rfl (λK hK => ?_);go_simp;refine hK.out _ _ (λh=>absurd rfl h) ?_;clear hK K x12;refine wpAnyE_done k_ ?_ _;go_wp2;go_ret;exact HFin.o 0 (λv hv=>by
      cases rb using ER.cs with
      | val v=>exact absurd rfl (HNov.o v)
      | on=>cases hv;rfl
      | ret v=>cases hrt
      | out c=>cases hv)
   ·have hmx:max s.d (s.n+F1)=s.d:=by omega
    have HX:Hid (∀m,RS C (W4.drewN m) 0 false vl lb1 vL1 vI vO {s with l:=parL fn vs,n:=s.n+F1,d:=max s.d (s.n+F1)}/\Tcs (λk=>k=C.P) W1 (W4.drewN m)):=λm=>by
     have hbm:Bl W4 (W4.drewN m):=below_drewN r_ m;rw[hmx];exact⟨HR4.o.below hbm,HT4.o.of_below hbm⟩
    clear hmx;go_wp2_with fail;go_quiet (fail)
    go_wp2_with fail;refine (HBlk.o _ (HX.o _).1).mono ?_;rintro x w7 ⟨⟨y,rfl⟩,vL7,vI7,vO7,vl7,hR7,hv7,t7,ho7,-⟩;have y9:=(hR7.box 9 _ rfl).1;have f9:=(hR7.box 9 _ rfl).2;have y10:=(hR7.box 10 _ rfl).1;obtain⟨HV7,HE7⟩:=h2 hv7 (λw8 W9 h8 h9=>HEnd.o _ w7 w8 W9 vl7 vL7 vI7 vO7 (HX.o _).2 hR7 t7 ho7 h8 h9);clear hR7 hv7 t7 ho7 HX;cases hrt:rtR rb with
    | true=>
     rw[hrt] at y9;go_upto_region 16 with fail;obtain⟨w8,hw8⟩ : ∃w8,w8=w7.setCell ⟨C.P,9,none⟩ (.bool false):=⟨_,rfl⟩;obtain⟨W9,hW9⟩ : ∃W9,W9=w8.drew:=⟨_,rfl⟩;obtain⟨hS9,f12,⟨v3,x3⟩,g3,hfin⟩:=HE7.o w8 W9 hw8 hW9;obtain⟨HS,HFin,HW9,Hw8⟩:=h4 hS9 hfin hW9 hw8;clear hS9 hfin hW9 hw8 y9 f9 y10;refine wp_region_E 15 (λX=>X.cell? ⟨C.P,12,none⟩=some (.int .i64 (s.n+F1))/\X.cell? ⟨C.P,11,none⟩=some (.slice (some ⟨bF,oF,none⟩) C.fr.length fc)/\X.cell? ⟨bF,oF+f,none⟩=some (.int .i64 F1)) k_ ?_;rw[<-Hw8.o,<-HW9.o];refine tk 0 [13,14,15] HS.o ?_;refine tk 1 [2,3,4,12,15] HS.o ?_;refine tk 2 [3,4,12,15] HS.o ?_;refine tk 3 [4,12,15] HS.o ?_;refine tk 4 [12,15] HS.o ?_;refine tk 5 [6,7,8,10,11,12,15] HS.o ?_;refine tk 6 [7,8,10,11,12,15] HS.o ?_;refine tk 7 [8,10,11,12,15] HS.o ?_;refine tk 8 [10,11,12,15] HS.o ?_;refine tk 9 [10,11,12,15] HS.o ?_;refine tk 10 [11,12,15] HS.o ?_;refine tk 11 [12,15] HS.o ?_;refine tk 12 [15] HS.o ?_;refine tk 13 [14,15] HS.o ?_;refine tk 14 [15] HS.o ?_;have x12:=HS.o.1;clear HS;refine wpAnyE_one (i:=15) k_ rfl (λK hK => ?_);go_simp;refine hK.out _ _ (λh=>absurd rfl h) ?_;clear hK K x12;refine wpAnyE_done k_ ?_ _;go_wp2;go_ret;exact HFin.o vl7 (λv hv=>by
      cases rb using ER.cs with
      | val v=>exact absurd rfl (HNov.o v)
      | on=>cases hrt
      | ret v=>cases hv;exact HV7.o _ rfl
      | out c=>cases hv)
    | false=>
     rw[hrt] at y9;go_upto_region 16 with fail;obtain⟨w8,hw8⟩ : ∃w8,w8=w7.setCell ⟨C.P,9,none⟩ (.bool false):=⟨_,rfl⟩;obtain⟨W9,hW9⟩ : ∃W9,W9=w8.drew:=⟨_,rfl⟩;obtain⟨hS9,f12,⟨v3,x3⟩,g3,hfin⟩:=HE7.o w8 W9 hw8 hW9;obtain⟨HS,HFin,HW9,Hw8⟩:=h4 hS9 hfin hW9 hw8;clear hS9 hfin hW9 hw8 y9 f9 y10;refine wp_region_E 15 (λX=>X.cell? ⟨C.P,12,none⟩=some (.int .i64 (s.n+F1))/\X.cell? ⟨C.P,11,none⟩=some (.slice (some ⟨bF,oF,none⟩) C.fr.length fc)/\X.cell? ⟨bF,oF+f,none⟩=some (.int .i64 F1)) k_ ?_;rw[<-Hw8.o,<-HW9.o];refine tk 0 [13,14,15] HS.o ?_;refine tk 1 [2,3,4,12,15] HS.o ?_;refine tk 2 [3,4,12,15] HS.o ?_;refine tk 3 [4,12,15] HS.o ?_;refine tk 4 [12,15] HS.o ?_;refine tk 5 [6,7,8,10,11,12,15] HS.o ?_;refine tk 6 [7,8,10,11,12,15] HS.o ?_;refine tk 7 [8,10,11,12,15] HS.o ?_;refine tk 8 [10,11,12,15] HS.o ?_;refine tk 9 [10,11,12,15] HS.o ?_;refine tk 10 [11,12,15] HS.o ?_;refine tk 11 [12,15] HS.o ?_;refine tk 12 [15] HS.o ?_;refine tk 13 [14,15] HS.o ?_;refine tk 14 [15] HS.o ?_;have x12:=HS.o.1;clear HS;refine wpAnyE_one (i:=15) k_ rfl (λK hK => ?_);go_simp;refine hK.out _ _ (λh=>absurd rfl h) ?_;clear hK K x12;refine wpAnyE_done k_ ?_ _;go_wp2;go_ret;exact HFin.o 0 (λv hv=>by
      cases rb using ER.cs with
      | val v=>exact absurd rfl (HNov.o v)
      | on=>cases hv;rfl
      | ret v=>cases hrt
      | out c=>cases hv)
end
section
variable {t:Tr}
theorem all_ev (C:RC) (hC:C.Ok) : ∀n,ExS C n/\CaS C n/\BlS C n/\StS C n
 | 0=>⟨(λe s r s' h=>by cases h using Ev_i),(λf vs s r s' h=>by cases h using Ev_i),(λss z r z' h=>by cases h using Ev_i),(λs a b z r z' h=>by cases h using Ev_i)⟩
 | n+1=>by
  obtain⟨h1,h2,h3,h4⟩:=all_ev C hC n;exact⟨exS_step C hC n h1 h2,caS_step C hC n h3,blS_step C hC n h4,stS_step C hC n h1 h3⟩
theorem calE_kn {sc:List ByteArray} {e:List Nd} (h:KnE t sc e):calE t e:=λn hn hk=>by
 obtain⟨f,hf,-⟩:=node_call (h n hn) hk;exact⟨f,hf⟩
theorem wfs_all {t:Tr} : ∀(m:Nat) (ss:List St) (sc:List ByteArray),ss.length<=m->Snd t ss sc->(∀s∈ss,stmtB s=true)->∀s∈ss,WfS t s
 | 0,ss,sc,hl,_,_,s,hs=>by
  have:ss = []:=List.eq_nil_of_length_eq_zero o_
  subst this;cases hs
 | m+1,[],sc,hl,h,hB,s,hs=>by cases hs
 | m+1,x::q,sc,hl,h,hB,s,hs=>by
  obtain⟨⟨tk,h1,h2⟩,h3,h4,h5⟩:=h.cons;simp only[l_c] at hl;rcases List.mem_cons.1 hs with rfl|hs
  ·have hk:=stmt_kn h2 h1;obtain⟨p1,p2,p3⟩:=stmtB_parts (hB s (List.mem_cons_self ..));exact⟨p1,⟨p2,calE_kn hk.e⟩,λh3=>⟨p3 h3,calE_kn hk.f⟩⟩
  ·have e:q=q.take x.thn.toNat++((q.drop x.thn.toNat).take x.els.toNat++q.drop (x.thn.toNat+x.els.toNat)):=by
    rw[<-List.drop_drop,List.take_append_drop,List.take_append_drop]
   rw[e] at hs;rcases List.mem_append.1 hs with hs|hs
   ·exact wfs_all m _ _ (by simp;omega) h3 (λy hy=>hB y (m_ _ (List.mem_of_mem_take hy))) s hs
   ·rcases List.mem_append.1 hs with hs|hs
    ·exact wfs_all m _ _ (by simp;omega) h4 (λy hy=>hB y (m_ _ (List.mem_of_mem_drop (List.mem_of_mem_take hy)))) s hs
    ·exact wfs_all m _ _ (by simp;omega) h5 (λy hy=>hB y (m_ _ (List.mem_of_mem_drop hy))) s hs
theorem ev_main (fr:List Int) (h:(checkE t).1=0) (f:Nat) (hf:f<t.funcs.length) (vs:List Int) (s:ES) : ∃n r s',Ev t fr n (.c f vs) s r s'/\s'.u<=s.u:=by
 obtain⟨n,r,s',h1,h2,-⟩:=ev_ends t fr (λg hg x hx=>by
  obtain⟨hO,-,-⟩:=ok_body h hg;exact wfs_all g.body.length g.body g.params n_ hO.snd (λy hy=>(hO.ok y hy).1) x hx) s.u ((Tk.c f vs).sz t) (.c f vs) s rfl n_ hf
 exact⟨n,r,s',h1,h2⟩
end
end Go.Proofs.YtffnkkpmlplfeaaGreatDoor
