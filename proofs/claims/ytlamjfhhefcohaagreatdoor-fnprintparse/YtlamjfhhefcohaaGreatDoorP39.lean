import Derived.Test.YtlamjfhhefcohaaGreatDoorP38
import Derived.Deep.CutBlock
set_option linter.unusedSectionVars false
variable [Inhabited Go.Proofs.YtlamjfhhefcohaaGreatDoor.Pick]
namespace Go.Proofs.YtlamjfhhefcohaaGreatDoor
open Go.Proofs.Tryz
open Go.RowKit
set_option linter.all false
set_option maxRecDepth 100000
set_option maxHeartbeats 16000000
section
variable{fl:Nat}
theorem C4{k:Int}(h:0<=k/\k<14):k=0∨k=1∨k=2∨k=3∨k=4∨k=5∨k=6∨k=7∨k=8∨k=9∨k=10∨k=11∨k=12∨k=13:=by omega
theorem yq{f:Int}{n:Nat}(h:0<=f/\f<n):∃k:Nat,f=k/\k<n:=⟨f.toNat,o_,o_⟩
theorem yr{g M:Nat}{a:Option Addr}{len cap O R4 N gl:Nat}{w W:World}{b c b' c':Nat}{gs:List Gl}{Q:List FV}(h:PP g M a len cap O R4 N fl gl w W b c b' c' gs Q)(f:Nat)(hf:f<fl):
  (W.alloc (.cells #[] 46)).cell? ⟨O,1,none⟩=some (.slice (some ⟨b',0,none⟩) fl c')/\∃ba bo bn bc,(W.alloc (.cells #[] 46)).cell? ⟨b',f*3+2,none⟩=some (.slice (some ⟨ba,bo,none⟩) bn bc)/\∃bb cap' w',(Builtin.append_ #[41,41] 41 #[.slice (some ⟨W.heap.size,0,none⟩) 0 0,.slice (some ⟨ba,bo,none⟩) bn bc]).run prog (W.alloc (.cells #[] 46))=.ok (.slice (some ⟨bb,0,none⟩) bn cap') w'/\((1:Int)<=bn/\(bn:Int)<=100000)/\∃R,QP g M a len cap O R4 N fl gl w w' b c b' c' gs Q bb bn cap' R:=by
 obtain⟨ba,bo,bn,bc,-,c2,bb,cap',w',r,R,hQ⟩:=h.copy f hf 41;have hr:=hQ.rl;exact⟨(World.cell?_alloc_past _ O 1 h.lo.2.2.2.2).trans (h.box 1 _ rfl).1,ba,bo,bn,bc,c2,bb,cap',w',r,o_,R,hQ⟩
theorem C5(h:1<=fl/\fl<=20):(1:Int)<=fl/\(fl:Int)<=100000:=by omega
theorem uG(g M:Nat)(a:Option Addr)(len cap:Nat)(vg vf:Value)(t:Tr)(w:World)(hl:len<=1048576)(hM:g<M/\M<=w.heap.size)(hL:Lo g a len (S0 g) w.heap.size)(hc:dP g a len cap w)(hT:TD (fun k=>k<M) w vg vf t):
  Calls prog 76 #[.pointer (some ⟨g,0,none⟩),.agg #[vg,vf]] w fun e w'=>∃vg' vf',e=.returned (.agg #[vg',vf'])/\(∃t',TW (fun k=>k<M) w' vg' vf' t')/\Dr g a len cap (S0 g) w w':=by
 have Jr:S0 g g:=rfl;have Jc:=ah hL;have HM:=ah hM;have Yq:=ah hT;have Zd:=hT.gl;have Yc:=hT.fl;obtain⟨W0,Xe⟩:=q_ ((w.alloc (.cells #[vg,vf] 26)).alloc (.cells #[.slice none 0 0,.slice none 0 0] 26));have Yf:Bl w W0:=by rw[Xe];exact(aD _ _).alloc i_ _
 have Zk:W0.heap.size=w.heap.size+2:=by rw[Xe];simp
 obtain⟨ga,gc,eg,-⟩:=km (hT.gs w (am.refl _ _)) o_;obtain⟨fb,Jf,fc,Q,ef,-,-,Yd,Yl⟩:=hT.fs;have Yt:Q.length=t.funcs.length:=by rw[<-Yd,List.length_map]
 obtain⟨gl,Xc⟩:=q_ t.globals.length;obtain⟨fl,J_⟩:=q_ t.funcs.length;rw[Yt]at ef;rw[<-Xc]at eg Zd;rw[<-J_]at ef Yc;subst eg ef;obtain⟨P3,Zb⟩:=q_ w.heap.size;obtain⟨R4,Yn⟩:=q_ (w.heap.size+1);have Xw:=ah Xe;have Zt:=ah Zb;have Vh:=ah Yn;have Zq:aR W0 P3 [.slice (some ga) gl gc,.slice (some ⟨fb,Jf,none⟩) fl fc]:=by
  rw[Xe,Zb];exact(aJ w _ _ i_).below (aD _ _)
 have Ze:aR W0 R4 [.slice none 0 0,.slice none 0 0]:=by
  rw[Xe,Yn];have:=aJ (w.alloc (.cells #[.slice (some ga) gl gc,.slice (some ⟨fb,Jf,none⟩) fl fc] 26)) #[.slice none 0 0,.slice none 0 0] 26 i_;simp only[World.size_alloc]at this;exact this
 have H3:=ah Zq;have H4:=ah Ze;have Xt:=ah Yf;have Yz:=ah Zk;have HQ:=ah (And.intro Yt Yd);have Yg:=ah Yl;have Vl:Hid (∀x∈Q,x.vp.oneCell'=true/\x.vb.oneCell'=true):=fun x hx=>by
  obtain⟨e1,e2,-⟩:=(Yl w (am.refl _ _)).2 x hx;obtain⟨_,_,e1,-⟩:=e1;exact⟨by rw[e1];rfl,e2.one⟩
 have Vq:Hid (dP g a len cap W0):=hc.below Yf;have Xv:=ah Xc;have Yi:=ah J_;clear hL hM Xe Yf Zk Zq Ze Zb Yn hc Yt Yd hT Xc J_ Yl;go_enter func76,ntmps76;go_upto_region 1 with fail;rw[<-Xw.out,<-Vh.out,<-Zt.out];clear Xw;obtain⟨N,hN⟩:=q_ W0.heap.size;have HN:=ah hN;have Yr:Hid (∀Y,Bl W0 Y->(∀j u,(bN t.globals)[j]? =some u->Y.cell? (ga.add j)=some u)/\(∀j u,(a_ Q)[j]? =some u->Y.cell? ((⟨fb,Jf,none⟩:Addr).add j)=some u)):=fun Y hY=>by
  have Vr:Bl w Y:=Xt.out.trans (hY.mono Xt.out.size);refine⟨fun j u hu=>?_,fun j u hu=>?_⟩
  ·obtain⟨Ul,Ur,e,h⟩:=km (Yq.out.gs Y Vr.tcs) (by rw[<-Xv.out];omega);simp only[Value.slice.injEq,Option.some.injEq]at e;rw[e.1];exact h j u hu
  ·rw[gV];exact(Yg.out Y Vr.tcs).1 j u hu
 have Xi:P3<W0.heap.size:=by have:=Yz.out;have:=Zt.out;omega
 have p0:=(H3.out 0 _ rfl).1;have p1:=(H3.out 1 _ rfl).1;clear hN;refine iu k_ (n:=10) (d:=fun i=>[11,12,13,14,15,16,17,18,19,5].getD i 0) ?G
  (fun i x Y=>match i with
   | 0=>∃b,x=.slice (some ⟨b,0,none⟩) 0 0/\Y.ownsRow N 74 2 x 0 []
   | 1=>x=.pointer (some ⟨P3,0,none⟩)
   | 2=>x=.slice (some ga) gl gc
   | 3=>∃b c,x=.slice (some ⟨b,0,none⟩) gl c/\Y.ownsRow N 74 2 x gl (bN t.globals)
   | 4=>∃b,x=.slice (some ⟨b,0,none⟩) 0 0/\Y.ownsRow N 43 3 x 0 []
   | 5=>x=.pointer (some ⟨P3,1,none⟩)
   | 6=>x=.slice (some ⟨fb,Jf,none⟩) fl fc
   | 7=>∃b c,x=.slice (some ⟨b,0,none⟩) fl c/\Y.ownsRow N 43 3 x fl (a_ Q)
   | 8=>∃b c b' c',x=.agg #[.slice (some ⟨b,0,none⟩) gl c,.slice (some ⟨b',0,none⟩) fl c']/\Y.ownsRow N 74 2 (.slice (some ⟨b,0,none⟩) gl c) gl (bN t.globals)/\Y.ownsRow N 43 3 (.slice (some ⟨b',0,none⟩) fl c') fl (a_ Q)
   | _=>∃b,x=.pointer (some ⟨b,0,none⟩)/\N<=b/\Y.heap[b]? =some (.cells #[.slice none 0 0,.slice none 0 0] 26 (0,0)))
  (fun i x=>[]) ?stab ?hd ?step ?fin
 case G=>
  refine⟨rfl,?_,?_,?_⟩
  ·intro i hi;rcases ol hi with rfl|rfl|rfl|rfl|rfl|rfl|rfl|rfl|rfl|rfl <;> exact⟨_,rfl,rfl,rfl,by simp[Region.binds]⟩
  ·intro i j hi hj;rcases ol hi with rfl|rfl|rfl|rfl|rfl|rfl|rfl|rfl|rfl|rfl <;> rcases ol hj with rfl|rfl|rfl|rfl|rfl|rfl|rfl|rfl|rfl|rfl <;> simp
  ·refine⟨_,rfl,rfl,?_,i_⟩;intro i hi;rcases ol hi with rfl|rfl|rfl|rfl|rfl|rfl|rfl|rfl|rfl|rfl <;> simp[Region.binds]
 case stab=>
  intro i x Y Y' hR hO hB;by_cases hi:i<10
  ·rcases ol hi with rfl|rfl|rfl|rfl|rfl|rfl|rfl|rfl|rfl|rfl
   ·obtain⟨b,e,h⟩:=hR;exact⟨b,e,ownB h hB⟩
   ·exact hR
   ·exact hR
   ·obtain⟨b,c,e,h⟩:=hR;exact⟨b,c,e,ownB h hB⟩
   ·obtain⟨b,e,h⟩:=hR;exact⟨b,e,ownB h hB⟩
   ·exact hR
   ·exact hR
   ·obtain⟨b,c,e,h⟩:=hR;exact⟨b,c,e,ownB h hB⟩
   ·obtain⟨b,c,b',c',e,h,h'⟩:=hR;exact⟨b,c,b',c',e,ownB h hB,ownB h' hB⟩
   ·obtain⟨b,e,h1,h⟩:=hR;exact⟨b,e,h1,(hB.block _ (Array.getElem?_eq_some_iff.1 h).1).trans h⟩
  ·obtain⟨k,rfl⟩:∃k,i=k+10:=⟨i-10,o_⟩;obtain⟨b,e,h1,h⟩:=hR;exact⟨b,e,h1,(hB.block _ (Array.getElem?_eq_some_iff.1 h).1).trans h⟩
 case hd=>
  intro i hi;rcases ol hi with rfl|rfl|rfl|rfl|rfl|rfl|rfl|rfl|rfl|rfl <;> simp
 case step=>
  intro i o hi ho x Y Yp Ys Xr hB Jg Vu Uo;have t3:=Xr 3 (by intro j hj;rcases ol hj with rfl|rfl|rfl|rfl|rfl|rfl|rfl|rfl|rfl|rfl <;> decide);simp at t3;have c0:=(hB.cell (p:=⟨P3,0,none⟩) Xi).trans p0;have c1:=(hB.cell (p:=⟨P3,1,none⟩) Xi).trans p1;have Xd:N<=Y.heap.size:=by rw[HN.out];exact hB.size
  obtain⟨i1,q1,q2,q3,q4⟩:=info_parts iR;obtain⟨i2,r1,r2,r3,r4⟩:=info_parts iL;rcases ol hi with rfl|rfl|rfl|rfl|rfl|rfl|rfl|rfl|rfl|rfl
  ·simp at ho;subst ho;simp[Oper.wp,execOp,Oper.upon,Act.eval,go_sem];refine⟨_,rfl,?_,r_.alloc n_ _⟩;have Je:(Y.alloc (.cells #[] 74)).ownsRow N 74 2 (.slice (some ⟨Y.heap.size,0,none⟩) 0 0) 0 []:=World.ownsRow_lit Y #[] 0 Xd d_ rfl;first|exact Je|exact⟨⟨_,rfl⟩,Je⟩|exact⟨i_,Je⟩|exact⟨_,rfl,Je⟩
  ·simp at ho;subst ho;simp[Oper.wp,execOp,Oper.upon,Act.eval,t3,go_sem];exact⟨_,rfl,rfl,r_⟩
  ·simp at ho;subst ho;have e1:x.tmps[12]?.getD undef=.pointer (some ⟨P3,0,none⟩):=by have:=Jg ⟨1,.data⟩ i_;simpa[Act.eval]using this
   simp[Oper.wp,execOp,Oper.upon,e1,c0,go_sem];exact⟨_,rfl,rfl,r_⟩
  ·simp at ho;subst ho;obtain⟨b,e0,o0⟩:=Jg ⟨0,.data⟩ i_;have Zl:x.tmps[11]?.getD undef=.slice (some ⟨b,0,none⟩) 0 0:=by simpa[Act.eval]using e0
   have e1:x.tmps[13]?.getD undef=.slice (some ga) gl gc:=by have:=Jg ⟨2,.data⟩ i_;simpa[Act.eval]using this
   rw[e0]at o0;obtain⟨cp,w',hr,Yj,Ym⟩:=oh (P:=prog) (w:=Y) N 23 23 74 i1 _ 2 24 underlying23 q1 q2 q3 q4 rfl d_ b o0 ga gl gc (bN t.globals) (by rw[iQ,Xv.out]) (Yr.out Y hB).1 (fun u hu=>by
    simp only[bN,List.mem_flatMap]at hu;obtain⟨y,-,hu⟩:=hu;simp only[qc,List.mem_cons,List.not_mem_nil,or_false]at hu;rcases hu with rfl|rfl <;> rfl) o_ o_ d_ Xd
   unfold Oper.wp execOp;have Yy:x.eval (.tmp 11)=.slice (some ⟨b,0,none⟩) 0 0:=e0;have Yo:x.eval (.tmp 13)=.slice (some ga) gl gc:=Jg ⟨2,.data⟩ i_;simp only[resolve,invoke,builtin,Sem.run_bind,Sem.run_pure,Result.andThen_ok,List.map_toArray,List.map_cons,List.map_nil,Yy,Yo,hr];exact⟨_,rfl,⟨_,cp,rfl,Yj⟩,Ym,fun g hg=>by cases hg⟩
  ·simp at ho;subst ho;simp[Oper.wp,execOp,Oper.upon,Act.eval,go_sem];refine⟨_,rfl,?_,r_.alloc n_ _⟩;have Je:(Y.alloc (.cells #[] 43)).ownsRow N 43 3 (.slice (some ⟨Y.heap.size,0,none⟩) 0 0) 0 []:=World.ownsRow_lit Y #[] 0 Xd d_ rfl;first|exact Je|exact⟨⟨_,rfl⟩,Je⟩|exact⟨i_,Je⟩|exact⟨_,rfl,Je⟩
  ·simp at ho;subst ho;simp[Oper.wp,execOp,Oper.upon,Act.eval,t3,go_sem];exact⟨_,rfl,rfl,r_⟩
  ·simp at ho;subst ho;have e1:x.tmps[16]?.getD undef=.pointer (some ⟨P3,1,none⟩):=by have:=Jg ⟨5,.data⟩ i_;simpa[Act.eval]using this
   simp[Oper.wp,execOp,Oper.upon,e1,c1,go_sem];exact⟨_,rfl,rfl,r_⟩
  ·simp at ho;subst ho;obtain⟨b,e0,o0⟩:=Jg ⟨4,.data⟩ i_;have Yy:x.eval (.tmp 15)=.slice (some ⟨b,0,none⟩) 0 0:=e0;have Yo:x.eval (.tmp 17)=.slice (some ⟨fb,Jf,none⟩) fl fc:=Jg ⟨6,.data⟩ i_;rw[e0]at o0;obtain⟨cp,w',hr,Yj,Ym⟩:=oh (P:=prog) (w:=Y) N 24 24 43 i2 _ 3 64 underlying24 r1 r2 r3 r4 rfl d_ b o0 ⟨fb,Jf,none⟩ fl fc (a_ Q) (by rw[eI,HQ.out.1,Yi.out]) (Yr.out Y hB).2 (fun u hu=>by
    simp only[a_,List.mem_flatMap]at hu;obtain⟨y,hy,hu⟩:=hu;obtain⟨e1,e2⟩:=Vl.out y hy;simp only[a7,List.mem_cons,List.not_mem_nil,or_false]at hu;rcases hu with rfl|rfl|rfl
    ·rfl
    ·exact e1
    ·exact e2) o_ o_ d_ Xd
   unfold Oper.wp execOp;simp only[resolve,invoke,builtin,Sem.run_bind,Sem.run_pure,Result.andThen_ok,List.map_toArray,List.map_cons,List.map_nil,Yy,Yo,hr];exact⟨_,rfl,⟨_,cp,rfl,Yj⟩,Ym,fun g hg=>by cases hg⟩
  ·simp at ho;subst ho;obtain⟨b,c,e0,o0⟩:=Jg ⟨3,.data⟩ i_;obtain⟨b',c',e1,o1⟩:=Jg ⟨7,.data⟩ i_;have Zl:x.tmps[14]?.getD undef=.slice (some ⟨b,0,none⟩) gl c:=by simpa[Act.eval]using e0
   have Uj:x.tmps[18]?.getD undef=.slice (some ⟨b',0,none⟩) fl c':=by simpa[Act.eval]using e1
   rw[e0]at o0;rw[e1]at o1;simp[Oper.wp,execOp,Oper.upon,Zl,Uj,go_sem];exact⟨_,rfl,⟨b,c,b',c',rfl,o0,o1⟩,r_⟩
  ·simp at ho;subst ho;simp[Oper.wp,execOp,Oper.upon,Act.eval,go_sem];refine⟨_,rfl,?_,r_.alloc n_ _⟩;have hh:(Y.alloc (.cells #[.slice none 0 0,.slice none 0 0] 26)).heap[Y.heap.size]? =some (.cells #[.slice none 0 0,.slice none 0 0] 26 (0,0)):=(MapKept.heap_alloc Y _).1;first|exact⟨Xd,hh⟩|exact⟨_,rfl,Xd,hh⟩
 case fin=>
  intro o ho x Y hG;obtain⟨Yp,Ys,Xr,hB,hrel,-,-⟩:=hG;simp at ho;subst ho;obtain⟨b,c,b',c',e8,og,Vn⟩:=hrel 8 o_ trivial;obtain⟨O,e9,Zj,hO⟩:=hrel 9 o_ trivial;obtain⟨b0,e0,-⟩:=hrel 0 o_ trivial;have e1:=hrel 1 o_ trivial;have e2:=hrel 2 o_ trivial;obtain⟨b3,c3,e3,-⟩:=hrel 3 o_ trivial;obtain⟨b4,e4,-⟩:=hrel 4 o_ trivial;have e5:=hrel 5 o_ trivial;have e6:=hrel 6 o_ trivial;obtain⟨b7,c7,e7,-⟩:=hrel 7 o_ trivial;have E0:x.eval (.tmp 11)=_:=e0;have E1:x.eval (.tmp 12)=.pointer (some ⟨P3,0,none⟩):=e1;have E2:x.eval (.tmp 13)=.slice (some ga) gl gc:=e2;have E3:x.eval (.tmp 14)=_:=e3;have E4:x.eval (.tmp 15)=_:=e4;have E5:x.eval (.tmp 16)=.pointer (some ⟨P3,1,none⟩):=e5;have E6:x.eval (.tmp 17)=.slice (some ⟨fb,Jf,none⟩) fl fc:=e6;have E7:x.eval (.tmp 18)=_:=e7;have E8:x.eval (.tmp 19)=_:=e8;have E9:x.eval (.tmp 5)=_:=e9;have hx:=yl [11,12,13,14,15,16,17,18,19,5] Yp Ys i_ (fun t ht=>Xr t (fun j hj e=>ht (by rcases ol hj with rfl|rfl|rfl|rfl|rfl|rfl|rfl|rfl|rfl|rfl <;> (rw[<-e];simp))));simp only[List.foldl_cons,List.foldl_nil,E0,E1,E2,E3,E4,E5,E6,E7,E8,E9]at hx;clear E0 E1 E2 E3 E4 E5 E6 E7 E8 E9 e0 e1 e2 e3 e4 e5 e6 e7 e8 e9 hrel Xr Ys Yp;have Ud:= Al (g:=g) (M:=M) (a:=a) (len:=len) (cap:=cap) (O:=O) (R4:=R4) (N:=N) (fl:=fl) (gl:=gl) (w:=w) (W0:=W0) (Y:=Y) (b:=b) (c:=c) (b':=b') (c':=c') (fb:=fb) (Jg:=Jf) (vg:=.slice (some ga) gl gc) (vf:=.slice (some ⟨fb,Jf,none⟩) fl fc) (t:=t) (Q:=Q) hB og Vn Zj hO HN.out Vh.out Yz.out Xt.out Jc.out H4.out Vq.out Yq.out HQ.out HM.out Yg.out Zd Yc Xv.out Yi;obtain⟨fO,W1,Zy,Zx⟩:=Ud;subst hx;have k0:=(fO 0 _ rfl).1;have Va:=(fO 0 _ rfl).2;have k1:=(fO 1 _ rfl).1;have Vk:=(fO 1 _ rfl).2;have Xz:=ah Zx;have Zp:=ah Zy;clear Zx Zy;clear Yg Yq H3 H4 Xv Yi HQ Vl Yr;simp[Oper.wp,execOp,Oper.upon,Act.eval,Act.put,k0,Va,k1,Vk,go_sem];rw[<-Zp.out];have q1:=(Xz.out.box 1 _ rfl).1;clear Zp k0 Va k1 Vk fO hO Zj og Vn hB;have Ye:=C5 Yc;go_wp2_with fail;refine(aI g a len cap (S0 g) _ _ hl Jr Xz.out.cur Ye).mono ?_;rintro e w2 ⟨f,rfl,hf,Z_⟩;obtain⟨fn,rfl,Js⟩:=yq hf;obtain⟨q2,ba,bo,bn,bc,q3,bb,Yh,w3,r3,Vt,R,Zz⟩:=yr (Xz.out.dr Z_) fn Js;have Zi:=ah r3;have Y_:=ah Zz;clear r3 Zz q1 Z_ Xz;go_wp2_with(at_builtin;refine ao rfl (.tmp 25) (.tmp 31) _ rfl _ _ _ _ rfl rfl Zi.out ?_);refine(aI g a len cap (S0 g) _ _ hl Jr Y_.out.pp.cur ⟨d_,d_⟩).mono ?_;rintro e w4 ⟨kk,rfl,Uh,Vm⟩;have Zc:=ah (Y_.out.dr Vm);clear Vm Y_;go_wp2_with fail;refine(aI g a len cap (S0 g) _ _ hl Jr Zc.out.pp.cur Vt).mono ?_;rintro e w5 ⟨ii,rfl,Vx,Zr⟩;have Jb:=ah (Zc.out.dr Zr);clear Zr Zc;obtain⟨i,rfl,hi⟩:=yq Vx;clear Zi q2 q3 Vq Xt Yz HN;go_upto_block 0 with fail
  go_cut [7,10]from 39 to 400 (fun vb ev W=>∃vg bF cF gs Q' R',(∃xa xn xc,vb=.slice xa xn xc)/\(∃ya yn yc,vg=.slice ya yn yc)/\CP g M a len cap O R4 N fl w W vb vg bF cF gs Q' R')
  case first=>
   rcases C4 Uh with rfl|rfl|rfl|rfl|rfl|rfl|rfl|rfl|rfl|rfl|rfl|rfl|rfl|rfl
   case inl=>
    go_upto_region 8 with fail;have HS:=ah ((Jb.out.pp.box 0 _ rfl).1);refine aX 9 (fun W=>W.cell? ⟨O,0,none⟩=some (.slice (some ⟨b,0,none⟩) gl c)) k_ ?_;refine tk 0 [1,7,9] HS.out ?_;refine tk 1 [7,9] HS.out ?_;refine tk 2 [4,5,6,7,9] HS.out ?_;have Xq:=ah (((Jb.out.drew).alloc (.cells #[.string ⟨#[103]⟩,.string ⟨#[109,97,105,110]⟩,.string ⟨#[112,48]⟩,.string ⟨#[105,102]⟩,.string ⟨#[118,49]⟩] 9)).pp.box 0 _ rfl).1;clear HS;refine aw (i:=3) k_ rfl (fun K hK=>?_);go_simp;refine hK.out _ _ (fun _=>Xq) ?_;clear hK K;try simp only[Act.put,tA,tB,tC]
    refine aw (i:=4) k_ rfl (fun K hK=>?_);go_simp;refine((Jb.out.drew).pick hl Jc.out [⟨#[103]⟩,⟨#[109,97,105,110]⟩,⟨#[112,48]⟩,⟨#[105,102]⟩,⟨#[118,49]⟩] _ 5 rfl rfl d_ d_).mono ?_;rintro e w6 ⟨sx,Jd,rfl,hq⟩;have H6:=ah hq;have Ji:=ah Jd;clear hq Jd;have HS:=ah ((H6.out.pp.box 0 _ rfl).1);refine hK.out _ _ (fun _=>HS) ?_;clear hK K Xq;try simp only[Act.put,tA,tB,tC]
    refine tk 5 [6,7,9] HS.out ?_;obtain⟨q1,ya,yn,yc,w7,r7,q2,Uq,Vg⟩:=H6.out.gapp Jc.out sx Ji;have Uc:=ah q1;have Jl:=ah r7;have X_:=ah q2;have Vy:=ah Vg;clear q1 r7 q2 Vg HS;refine aw (i:=6) k_ rfl (fun K hK=>?_);go_simp;refine hK.out _ _ (fun _=>Uc) ?_;clear hK K;try simp only[Act.put,tA,tB,tC]
    refine aw (i:=7) k_ rfl (fun K hK=>?_);refine bm rfl (.tmp 43) (.tmp 48) 23 rfl (.slice (some ⟨b,0,none⟩) gl c) (.slice (some ⟨w6.heap.size,0,none⟩) 1 1) (.slice ya yn yc) w7 rfl rfl Jl.out ?_;refine hK.out _ _ (fun _=>X_.out.1) ?_;clear hK K;try simp only[Act.put,tA,tB,tC]
    have HS:=ah X_.out.1;refine tk 8 [9] HS.out ?_;clear HS;have y1:=X_.out.1;have y2:=X_.out.2;refine aw (i:=9) k_ rfl (fun K hK=>?_);go_simp;refine hK.out _ _ (fun h=>absurd rfl h) ?_;clear hK K y1 y2;refine aP k_ ?_ _;go_wp2;go_meet
    case rel=>exact⟨_,_,_,_,_,_,⟨_,_,_,rfl⟩,⟨_,_,_,rfl⟩,Vy⟩
   case inr.inl=>
    go_upto_region 10 with fail;have HS:=ah ((Jb.out.pp.box 0 _ rfl).1);have Ue:0<gl:=Zd.1;refine aX 7 (fun W=>W.cell? ⟨O,0,none⟩=some (.slice (some ⟨b,0,none⟩) gl c)) k_ ?_;refine tk 0 [1,5,6,7] HS.out ?_;refine tk 1 [5,6,7] HS.out ?_;refine tk 2 [3,7] HS.out ?_;clear HS;refine aw (i:=3) k_ rfl (fun K hK=>?_);go_simp;refine(aI g a len cap (S0 g) _ _ hl Jr Jb.out.drew.pp.cur ⟨d_,d_⟩).mono ?_;rintro e w6 ⟨y,rfl,hy,Jm⟩;have H6:=ah (Jb.out.drew.dr Jm);clear Jm;have HS:=ah ((H6.out.pp.box 0 _ rfl).1);refine hK.out _ _ (fun _=>HS) ?_;clear hK K;try simp only[Act.put,tA,tB,tC]
    refine tk 4 [7] HS.out ?_;refine tk 5 [6,7] HS.out ?_;refine tk 6 [7] HS.out ?_;obtain⟨⟨k0,y1⟩,y2,hx⟩:=H6.out.gput Jc;have HX:=ah hx;clear hx HS;refine aw (i:=7) k_ rfl (fun K hK=>?_);go_simp;refine hK.out _ _ (fun h=>absurd rfl h) ?_;clear hK K y1 y2;refine aP k_ ?_ _;go_wp2;go_meet
    case rel=>exact⟨_,_,_,_,_,_,⟨_,_,_,rfl⟩,⟨_,_,_,rfl⟩,(HX.out _).choose_spec⟩
   case inr.inr.inl=>
    go_wp2_with fail;refine(aI g a len cap (S0 g) _ _ hl Jr Jb.out.pp.cur ⟨d_,d_⟩).mono ?_;rintro e w6 ⟨y,rfl,hy,Jm⟩;have H6:=ah (Jb.out.dr Jm);clear Jm;obtain⟨⟨k0,y1⟩,y2,hx⟩:=H6.out.kind Jc.out i hi;have HX:=ah hx;clear hx;go_wp2;go_meet
    case rel=>exact⟨_,_,_,_,_,_,⟨_,_,_,rfl⟩,⟨_,_,_,rfl⟩,(HX.out _).choose_spec⟩
   case inr.inr.inr.inl=>
    go_wp2_with fail;refine(Jb.out.pick hl Jc.out [⟨#[97]⟩,⟨#[103]⟩,⟨#[122,122]⟩,⟨#[118,49]⟩,⟨#[]⟩,⟨#[102]⟩] _ 6 rfl rfl d_ d_).mono ?_;rintro e w6 ⟨sx,Jd,rfl,hq⟩;have H6:=ah hq;have Ji:=ah Jd;clear hq Jd;obtain⟨⟨k0,y1⟩,y2,hx⟩:=H6.out.nm Jc.out i hi;have HX:=ah (hx _ Ji);clear hx;go_wp2;go_meet
    case rel=>exact⟨_,_,_,_,_,_,⟨_,_,_,rfl⟩,⟨_,_,_,rfl⟩,HX.out.choose_spec⟩
   case inr.inr.inr.inr.inl=>
    obtain⟨⟨k0,y1⟩,y2,hx⟩:=Jb.out.thn Jc.out i hi;have HX:=ah hx;clear hx;go_wp2;go_meet
    case rel=>exact⟨_,_,_,_,_,_,⟨_,_,_,rfl⟩,⟨_,_,_,rfl⟩,(HX.out _).choose_spec⟩
   case inr.inr.inr.inr.inr.inl=>
    obtain⟨⟨va,vn,vc,es,y2,Yu,Vb⟩,-,-⟩:=(Jb.out.alloc (.cells #[] 48)).ex Jc.out i hi;obtain⟨ua,un,uc,w6,r6,h6,Yw⟩:=ym w5 va vn vc es (Vb _ (am.refl _ _)) (yo Yu.1);have H6:=ah (Jb.out.below Yw);have Ju:=ah Yw.size;have Xs:=ah r6;have Xu:=ah h6;have Vc:=ah Yu;clear r6 h6 Yw Yu Vb;go_wp2_with(at_builtin;refine ao rfl (.tmp 93) (.tmp 98) _ rfl _ _ _ _ rfl rfl Xs.out ?_);clear Xs y2;refine(aI g a len cap (S0 g) _ _ hl Jr H6.out.pp.cur ⟨d_,d_⟩).mono ?_;rintro e w7 ⟨y,rfl,hy,Jz⟩;have H7:=ah (H6.out.dr Jz);have Zg:aF w5.heap.size w7 (.slice ua un uc) es:=az Xu.out Jz.tcs Jb.out.low;obtain⟨xa,xn,xc,w8,r8,-,h8,t8⟩:=sK Zg (t_ Ju.out Jz.tcs.size) 6 (3*y) ⟨#[]⟩ (yo Vc.out.1);have H8:=ah (H7.out.new Jc.out t8 (fun k hk=>hk) Jb.out.hi);have Vs:=ah r8;have Ua:=ah h8;clear Jz Zg r8 h8 t8;obtain⟨⟨Xy,Yb,Ya,Ug,y2,-,-⟩,y3,hx⟩:=H8.out.ex Jc.out i hi;have HX:=ah (hx _ _ _ Ua.out ⟨Jb.out.hi.2.2.2,Jb.out.hi.1,Jb.out.hi.2.2.1⟩ ((Vc.out.app (bI.one d_)).more d_));clear hx;go_wp2_with(at_builtin;refine ao rfl (.tmp 99) (.tmp 104) _ rfl _ _ _ _ rfl rfl Vs.out ?_)
    go_meet
    case rel=>exact⟨_,_,_,_,_,_,⟨_,_,_,rfl⟩,⟨_,_,_,rfl⟩,HX.out.choose_spec⟩
   case inr.inr.inr.inr.inr.inr.inl=>
    go_wp2_with fail;refine(Jb.out.pick hl Jc.out [⟨#[97]⟩,⟨#[122,122]⟩,⟨#[118,49]⟩,⟨#[118,50]⟩,⟨#[102]⟩,⟨#[103]⟩] _ 6 rfl rfl d_ d_).mono ?_;rintro e w6 ⟨sx,Jd,rfl,hq⟩;have H6:=ah hq;have Ji:=ah Jd;clear hq Jd;obtain⟨⟨va,vn,vc,es,y1,-,-⟩,y2,hx⟩:=(H6.out.alloc (.cells #[.int .i64 2,.int .i64 0,.string sx] 48)).ex Jc.out i hi;have HX:=ah (hx _ _ _ (aQ w6 w6.heap.size n_ 2 0 sx) ⟨H6.out.hi.2.2.2,H6.out.hi.1,H6.out.hi.2.2.1⟩ ((bI.one Ji).more d_));clear hx;go_wp2;go_meet
    case rel=>exact⟨_,_,_,_,_,_,⟨_,_,_,rfl⟩,⟨_,_,_,rfl⟩,HX.out.choose_spec⟩
   case inr.inr.inr.inr.inr.inr.inr.inl=>
    go_wp2_with fail;refine(Jb.out.pick hl Jc.out [⟨#[102]⟩,⟨#[107]⟩,⟨#[109,97,105,110]⟩,⟨#[110,105,108]⟩] _ 4 rfl rfl d_ d_).mono ?_;rintro e w6 ⟨sx,Jd,rfl,hq⟩;have H6:=ah hq;have Ji:=ah Jd;clear hq Jd;obtain⟨⟨va,vn,vc,es,y1,-,-⟩,y2,hx⟩:=(H6.out.alloc (.cells #[.int .i64 4,.int .i64 0,.string sx] 48)).ex Jc.out i hi;have HX:=ah (hx _ _ _ (aQ w6 w6.heap.size n_ 4 0 sx) ⟨H6.out.hi.2.2.2,H6.out.hi.1,H6.out.hi.2.2.1⟩ ((bI.one Ji).more d_));clear hx;go_wp2;go_meet
    case rel=>exact⟨_,_,_,_,_,_,⟨_,_,_,rfl⟩,⟨_,_,_,rfl⟩,HX.out.choose_spec⟩
   case inr.inr.inr.inr.inr.inr.inr.inr.inl=>
    obtain⟨va,vn,vc,w6,r6,-,R',Xb,h6⟩:=Jb.out.rp.app Jc.out Jb.out.rlen 8 4 0 ⟨#[]⟩ ⟨#[109,97,105,110]⟩ d_ d_;have Xs:=ah r6;have H6:=ah (h6.cp (Jb.out.rlen' Xb));clear r6 h6;go_wp2_with(at_builtin;refine ao rfl (.tmp 132) (.tmp 136) _ rfl _ _ _ _ rfl rfl Xs.out ?_)
    go_meet
    case rel=>exact⟨_,_,_,_,_,_,⟨_,_,_,rfl⟩,⟨_,_,_,rfl⟩,H6⟩
   case inr.inr.inr.inr.inr.inr.inr.inr.inr.inl=>
    go_upto_region 26 with fail;have HS:=ah ((Jb.out.pp.box 1 _ rfl).1);have Vv:(0:Int)<=(fn:Int)/\(fn:Int)<(fl:Int):=sL Js;refine aX 8 (fun W=>W.cell? ⟨O,1,none⟩=some (.slice (some ⟨b',0,none⟩) fl c')) k_ ?_;refine tk 0 [1,6,7,8] HS.out ?_;refine tk 1 [6,7,8] HS.out ?_;refine tk 2 [6,7,8] HS.out ?_;refine tk 3 [5,8] HS.out ?_;have Xq:=ah (((Jb.out.drew).alloc (.cells #[.string ⟨#[109,97,105,110]⟩,.string ⟨#[103]⟩,.string ⟨#[105,110,116]⟩,.string ⟨#[102]⟩] 9)).pp.box 1 _ rfl).1;clear HS;refine aw (i:=4) k_ rfl (fun K hK=>?_);go_simp;refine hK.out _ _ (fun _=>Xq) ?_;clear hK K;try simp only[Act.put,tA,tB,tC]
    refine aw (i:=5) k_ rfl (fun K hK=>?_);go_simp;refine((Jb.out.drew).pick hl Jc.out [⟨#[109,97,105,110]⟩,⟨#[103]⟩,⟨#[105,110,116]⟩,⟨#[102]⟩] _ 4 rfl rfl d_ d_).mono ?_;rintro e w6 ⟨sx,Jd,rfl,hq⟩;have H6:=ah hq;have Ji:=ah Jd;clear hq Jd;have HS:=ah ((H6.out.pp.box 1 _ rfl).1);refine hK.out _ _ (fun _=>HS) ?_;clear hK K Xq;try simp only[Act.put,tA,tB,tC]
    refine tk 6 [7,8] HS.out ?_;refine tk 7 [8] HS.out ?_;obtain⟨⟨k0,y1⟩,y2,hx⟩:=H6.out.fnm Jc.out fn Js;have HX:=ah (hx _ Ji);clear hx HS;refine aw (i:=8) k_ rfl (fun K hK=>?_);go_simp;refine hK.out _ _ (fun h=>absurd rfl h) ?_;clear hK K y1 y2;refine aP k_ ?_ _;go_wp2;go_meet
    case rel=>exact⟨_,_,_,_,_,_,⟨_,_,_,rfl⟩,⟨_,_,_,rfl⟩,HX.out.choose_spec⟩
   case inr.inr.inr.inr.inr.inr.inr.inr.inr.inr.inl=>
    go_upto_region 28 with fail;obtain⟨⟨va,vn,vc,ps,y1,Ve,Zh⟩,-,-⟩:=Jb.out.drew.fps Jc.out fn Js;have Jv:=ah Ve;have Za:=ah Zh;have HS:=ah (And.intro (Jb.out.drew.pp.box 1 _ rfl).1 y1);clear Ve Zh y1;have Ja:=ah Jb.out.drew;have Vv:(0:Int)<=(fn:Int)/\(fn:Int)<(fl:Int):=sL Js;refine aX 18 (fun W=>W.cell? ⟨O,1,none⟩=some (.slice (some ⟨b',0,none⟩) fl c')/\W.cell? ⟨b',fn*3+1,none⟩=some (.slice va vn vc)) k_ ?_;refine tk 0 [1,16,17,18] HS.out ?_;refine tk 1 [16,17,18] HS.out ?_;refine tk 2 [16,17,18] HS.out ?_;refine tk 4 [5,7,8,9,10,13,14,15,18] HS.out ?_;refine tk 5 [7,8,9,10,13,14,15,18] HS.out ?_;refine tk 6 [7,8,9,10,13,14,15,18] HS.out ?_;refine tk 7 [8,9,10,13,14,15,18] HS.out ?_;refine tk 8 [9,10,13,14,15,18] HS.out ?_;refine tk 9 [10,13,14,15,18] HS.out ?_;refine tk 11 [13,14,15,18] HS.out ?_;refine ko (i:=3) (j:=12) k_ rfl rfl (fun K hK=>?_) (fun K hK=>?_)
    ·have Jy:=ah ((am.refl (fun k=>k=g∨w5.drew.heap.size<=k) w5.drew).alloc (.cells #[] 9));go_simp;refine hK.out _ _ (fun _=>Ja.out.keep HS.out Jy) ?_;clear hK K;try simp only[Act.put,tA,tB,tC]
     refine ko (i:=10) (j:=12) k_ rfl rfl (fun K hK=>?_) (fun K hK=>?_)
     ·obtain⟨ua,un,uc,w7,r7,h7,t7,f7⟩:=lQ (w:=w5.drew.alloc (.cells #[] 9)) (B:=w5.drew.heap.size) (e0:=w5.drew.heap.size) (World.ownsRow_lit w5.drew #[] 0 n_ d_ rfl) (dT _ _) va vn vc ps (Za.out _ ((am.refl _ _).alloc _)) (j1 Jv.out.1);have Jl:=ah r7;have Xl:=ah (Jy.out.next t7 (fun k hk=>.inl (.inr (sM hk))));have Zm:=ah ((Ja.out.alloc (.cells #[] 9)).new Jc.out t7 (fun k hk=>sM hk) Ja.out.hi);have Xk:=ah h7;have Yv:=ah (t_ (dT w5.drew (.cells #[] 9)) t7.size);clear r7 h7 t7 f7;refine bm rfl (.tmp 153) (.tmp 159) 40 rfl (.slice (some ⟨w5.drew.heap.size,0,none⟩) 0 0) (.slice va vn vc) (.slice ua un uc) w7 rfl rfl Jl.out ?_;refine hK.out _ _ (fun _=>Ja.out.keep HS.out Xl) ?_;clear hK K;try simp only[Act.put,tA,tB,tC]
      refine aw (i:=12) k_ rfl (fun K hK=>?_);go_simp;have Jx:=ah (Xl.out.alloc (.cells #[.string ⟨#[112,48]⟩,.string ⟨#[103]⟩,.string ⟨#[119]⟩,.string ⟨#[120]⟩] 9));have HX:=ah (Zm.out.alloc (.cells #[.string ⟨#[112,48]⟩,.string ⟨#[103]⟩,.string ⟨#[119]⟩,.string ⟨#[120]⟩] 9));have Jo:=ah (ownB Xk.out ((Below.refl w7.heap.size w7).alloc n_ (.cells #[.string ⟨#[112,48]⟩,.string ⟨#[103]⟩,.string ⟨#[119]⟩,.string ⟨#[120]⟩] 9)));have Jq:=ah (jh (S:=S0 g) (w:=w7) [⟨#[112,48]⟩,⟨#[103]⟩,⟨#[119]⟩,⟨#[120]⟩] #[.string ⟨#[112,48]⟩,.string ⟨#[103]⟩,.string ⟨#[119]⟩,.string ⟨#[120]⟩] 4 rfl rfl d_ Zm.out.low);have Xh:=ah (t_ Yv.out (dT w7 (.cells #[.string ⟨#[112,48]⟩,.string ⟨#[103]⟩,.string ⟨#[119]⟩,.string ⟨#[120]⟩] 9)));refine hK.out _ _ (fun _=>Ja.out.keep HS.out Jx) ?_;clear hK K;try simp only[Act.put,tA,tB,tC]
      refine aw (i:=13) k_ rfl (fun K hK=>?_);go_simp;refine(eh g a len cap (S0 g) [⟨#[112,48]⟩,⟨#[103]⟩,⟨#[119]⟩,⟨#[120]⟩] _ _ hl Jr HX.out.pp.cur Jq.out d_).mono ?_;rintro e w8 ⟨sx,Jd,rfl,Jj⟩;have H8:=ah (HX.out.dr Jj);have Jk:=ah (az Jo.out Jj.tcs Ja.out.low);have Jn:=ah (Jx.out.next Jj.tcs (fun k hk=>.inl (.inl hk)));have Xp:=ah (t_ Xh.out Jj.tcs.size);have Ji:=ah (j0 Jd d_);clear Jd Jj;refine hK.out _ _ (fun _=>Ja.out.keep HS.out Jn) ?_;clear hK K;try simp only[Act.put,tA,tB,tC]
      obtain⟨xa,xn,xc,w9,r9,h9,t9⟩:=om Jk.out Xp.out sx (j1 Jv.out.1);have Xn:=ah r9;have Jp:=ah (Jn.out.alloc (.cells #[.string sx] 9));have Jw:=ah (Jn.out.next t9 (fun k hk=>.inl (.inr hk)));have H9:=ah (H8.out.new Jc.out t9 (fun k hk=>hk) Ja.out.hi);have Jh:=ah h9;clear r9 h9 t9;refine aw (i:=14) k_ rfl (fun K hK=>?_);go_simp;refine hK.out _ _ (fun _=>Ja.out.keep HS.out Jp) ?_;clear hK K;try simp only[Act.put,tA,tB,tC]
      refine aw (i:=15) k_ rfl (fun K hK=>?_);refine bm rfl (.tmp 160) (.tmp 164) 40 rfl (.slice ua un uc) (.slice (some ⟨w8.heap.size,0,none⟩) 1 1) (.slice xa xn xc) w9 rfl rfl Xn.out ?_;refine hK.out _ _ (fun _=>Ja.out.keep HS.out Jw) ?_;clear hK K;try simp only[Act.put,tA,tB,tC]
      have Xj:=HS;have HS:=ah (Ja.out.keep Xj.out Jw);refine tk 16 [17,18] HS.out ?_;refine tk 17 [18] HS.out ?_;obtain⟨⟨Xy,Yb,Ya,Vd,y1,-,-⟩,y2,hx⟩:=H9.out.fps Jc.out fn Js;have Xo:=ah (hx _ _ _ Jh.out ⟨Ja.out.hi.1,Ja.out.hi.2.2.1⟩ (ow Jv.out Ji));clear hx HS;refine aw (i:=18) k_ rfl (fun K hK=>?_);go_simp;refine hK.out _ _ (fun h=>absurd rfl h) ?_;clear hK K y1 y2;refine aP k_ ?_ _;go_wp2;go_meet
      case rel=>exact⟨_,_,_,_,_,_,⟨_,_,_,rfl⟩,⟨_,_,_,rfl⟩,Xo.out.choose_spec⟩
     ·have Jt:=ah (Jy.out.alloc (.cells #[.string ⟨#[112,48]⟩,.string ⟨#[103]⟩,.string ⟨#[119]⟩,.string ⟨#[120]⟩] 9));go_simp;refine hK.out _ _ (fun _=>Ja.out.keep HS.out Jt) ?_;clear hK K Jy Jt;try simp only[Act.put,tA,tB,tC]
      obtain⟨ua,un,uc,w7,r7,h7,t7,f7⟩:=lQ (w:=(w5.drew.alloc (.cells #[] 9)).alloc (.cells #[.string ⟨#[112,48]⟩,.string ⟨#[103]⟩,.string ⟨#[119]⟩,.string ⟨#[120]⟩] 9)) (B:=w5.drew.heap.size) (e0:=w5.drew.heap.size) (ownB (World.ownsRow_lit w5.drew #[] 0 n_ d_ rfl) (aD _ _)) (oq _ _ _) va vn vc ps (Za.out _ (((am.refl _ _).alloc _).alloc _)) (j1 Jv.out.1);have Jl:=ah r7;have Jt:=ah (((am.refl (fun k=>k=g∨w5.drew.heap.size<=k) w5.drew).alloc (.cells #[] 9)).alloc (.cells #[.string ⟨#[112,48]⟩,.string ⟨#[103]⟩,.string ⟨#[119]⟩,.string ⟨#[120]⟩] 9));have Jx:=ah (Jt.out.next t7 (fun k hk=>.inl (.inr (sM hk))));have HX:=ah ((Ja.out.alloc (.cells #[] 9)).alloc (.cells #[.string ⟨#[112,48]⟩,.string ⟨#[103]⟩,.string ⟨#[119]⟩,.string ⟨#[120]⟩] 9) |>.new Jc.out t7 (fun k hk=>sM hk) Ja.out.hi);have Jo:=ah h7;have Jq:=ah (Ed (g:=g) [⟨#[112,48]⟩,⟨#[103]⟩,⟨#[119]⟩,⟨#[120]⟩] #[.string ⟨#[112,48]⟩,.string ⟨#[103]⟩,.string ⟨#[119]⟩,.string ⟨#[120]⟩] rfl (Ja.out.low g rfl) t7);have Xh:=ah (t_ (oq w5.drew (.cells #[] 9) (.cells #[.string ⟨#[112,48]⟩,.string ⟨#[103]⟩,.string ⟨#[119]⟩,.string ⟨#[120]⟩] 9)) t7.size);clear r7 h7 t7 f7;refine aw (i:=10) k_ rfl (fun K hK=>?_);refine bm rfl (.tmp 153) (.tmp 159) 40 rfl (.slice (some ⟨w5.drew.heap.size,0,none⟩) 0 0) (.slice va vn vc) (.slice ua un uc) w7 rfl rfl Jl.out ?_;refine hK.out _ _ (fun _=>Ja.out.keep HS.out Jx) ?_;clear hK K;try simp only[Act.put,tA,tB,tC]
      refine aw (i:=13) k_ rfl (fun K hK=>?_);go_simp;refine(eh g a len cap (S0 g) [⟨#[112,48]⟩,⟨#[103]⟩,⟨#[119]⟩,⟨#[120]⟩] _ _ hl Jr HX.out.pp.cur Jq.out d_).mono ?_;rintro e w8 ⟨sx,Jd,rfl,Jj⟩;have H8:=ah (HX.out.dr Jj);have Jk:=ah (az Jo.out Jj.tcs Ja.out.low);have Jn:=ah (Jx.out.next Jj.tcs (fun k hk=>.inl (.inl hk)));have Xp:=ah (t_ Xh.out Jj.tcs.size);have Ji:=ah (j0 Jd d_);clear Jd Jj;refine hK.out _ _ (fun _=>Ja.out.keep HS.out Jn) ?_;clear hK K;try simp only[Act.put,tA,tB,tC]
      obtain⟨xa,xn,xc,w9,r9,h9,t9⟩:=om Jk.out Xp.out sx (j1 Jv.out.1);have Xn:=ah r9;have Jp:=ah (Jn.out.alloc (.cells #[.string sx] 9));have Jw:=ah (Jn.out.next t9 (fun k hk=>.inl (.inr hk)));have H9:=ah (H8.out.new Jc.out t9 (fun k hk=>hk) Ja.out.hi);have Jh:=ah h9;clear r9 h9 t9;refine aw (i:=14) k_ rfl (fun K hK=>?_);go_simp;refine hK.out _ _ (fun _=>Ja.out.keep HS.out Jp) ?_;clear hK K;try simp only[Act.put,tA,tB,tC]
      refine aw (i:=15) k_ rfl (fun K hK=>?_);refine bm rfl (.tmp 160) (.tmp 164) 40 rfl (.slice ua un uc) (.slice (some ⟨w8.heap.size,0,none⟩) 1 1) (.slice xa xn xc) w9 rfl rfl Xn.out ?_;refine hK.out _ _ (fun _=>Ja.out.keep HS.out Jw) ?_;clear hK K;try simp only[Act.put,tA,tB,tC]
      have Xj:=HS;have HS:=ah (Ja.out.keep Xj.out Jw);refine tk 16 [17,18] HS.out ?_;refine tk 17 [18] HS.out ?_;obtain⟨⟨Xy,Yb,Ya,Vd,y1,-,-⟩,y2,hx⟩:=H9.out.fps Jc.out fn Js;have Xo:=ah (hx _ _ _ Jh.out ⟨Ja.out.hi.1,Ja.out.hi.2.2.1⟩ (ow Jv.out Ji));clear hx HS;refine aw (i:=18) k_ rfl (fun K hK=>?_);go_simp;refine hK.out _ _ (fun h=>absurd rfl h) ?_;clear hK K y1 y2;refine aP k_ ?_ _;go_wp2;go_meet
      case rel=>exact⟨_,_,_,_,_,_,⟨_,_,_,rfl⟩,⟨_,_,_,rfl⟩,Xo.out.choose_spec⟩
    ·have Jy:=ah ((am.refl (fun k=>k=g∨w5.drew.heap.size<=k) w5.drew).alloc (.cells #[.string ⟨#[112,48]⟩,.string ⟨#[103]⟩,.string ⟨#[119]⟩,.string ⟨#[120]⟩] 9));go_simp;refine hK.out _ _ (fun _=>Ja.out.keep HS.out Jy) ?_;clear hK K;try simp only[Act.put,tA,tB,tC]
     refine aw (i:=3) k_ rfl (fun K hK=>?_);have Jt:=ah (Jy.out.alloc (.cells #[] 9));go_simp;refine hK.out _ _ (fun _=>Ja.out.keep HS.out Jt) ?_;clear hK K Jy Jt;try simp only[Act.put,tA,tB,tC]
     obtain⟨ua,un,uc,w7,r7,h7,t7,f7⟩:=lQ (w:=(w5.drew.alloc (.cells #[.string ⟨#[112,48]⟩,.string ⟨#[103]⟩,.string ⟨#[119]⟩,.string ⟨#[120]⟩] 9)).alloc (.cells #[] 9)) (B:=w5.drew.heap.size) (e0:=w5.drew.heap.size+1) (Ec w5.drew (.cells #[.string ⟨#[112,48]⟩,.string ⟨#[103]⟩,.string ⟨#[119]⟩,.string ⟨#[120]⟩] 9)) (oq _ _ _) va vn vc ps (Za.out _ (((am.refl _ _).alloc _).alloc _)) (j1 Jv.out.1);have Jl:=ah r7;have Jt:=ah (((am.refl (fun k=>k=g∨w5.drew.heap.size<=k) w5.drew).alloc (.cells #[.string ⟨#[112,48]⟩,.string ⟨#[103]⟩,.string ⟨#[119]⟩,.string ⟨#[120]⟩] 9)).alloc (.cells #[] 9));have Jx:=ah (Jt.out.next t7 (fun k hk=>.inl (.inr (yp hk))));have HX:=ah ((Ja.out.alloc (.cells #[.string ⟨#[112,48]⟩,.string ⟨#[103]⟩,.string ⟨#[119]⟩,.string ⟨#[120]⟩] 9)).alloc (.cells #[] 9) |>.new Jc.out t7 (fun k hk=>yp hk) Ja.out.hi);have Jo:=ah h7;have Jq:=ah (Ee (g:=g) [⟨#[112,48]⟩,⟨#[103]⟩,⟨#[119]⟩,⟨#[120]⟩] #[.string ⟨#[112,48]⟩,.string ⟨#[103]⟩,.string ⟨#[119]⟩,.string ⟨#[120]⟩] rfl (Ja.out.low g rfl) t7);have Xh:=ah (t_ (oq w5.drew (.cells #[.string ⟨#[112,48]⟩,.string ⟨#[103]⟩,.string ⟨#[119]⟩,.string ⟨#[120]⟩] 9) (.cells #[] 9)) t7.size);clear r7 h7 t7 f7;refine aw (i:=10) k_ rfl (fun K hK=>?_);refine bm rfl (.tmp 153) (.tmp 159) 40 rfl (.slice (some ⟨w5.drew.heap.size+1,0,none⟩) 0 0) (.slice va vn vc) (.slice ua un uc) w7 rfl rfl Jl.out ?_;refine hK.out _ _ (fun _=>Ja.out.keep HS.out Jx) ?_;clear hK K;try simp only[Act.put,tA,tB,tC]
     refine aw (i:=13) k_ rfl (fun K hK=>?_);go_simp;refine(eh g a len cap (S0 g) [⟨#[112,48]⟩,⟨#[103]⟩,⟨#[119]⟩,⟨#[120]⟩] _ _ hl Jr HX.out.pp.cur Jq.out d_).mono ?_;rintro e w8 ⟨sx,Jd,rfl,Jj⟩;have H8:=ah (HX.out.dr Jj);have Jk:=ah (az Jo.out Jj.tcs Ja.out.low);have Jn:=ah (Jx.out.next Jj.tcs (fun k hk=>.inl (.inl hk)));have Xp:=ah (t_ Xh.out Jj.tcs.size);have Ji:=ah (j0 Jd d_);clear Jd Jj;refine hK.out _ _ (fun _=>Ja.out.keep HS.out Jn) ?_;clear hK K;try simp only[Act.put,tA,tB,tC]
     obtain⟨xa,xn,xc,w9,r9,h9,t9⟩:=om Jk.out Xp.out sx (j1 Jv.out.1);have Xn:=ah r9;have Jp:=ah (Jn.out.alloc (.cells #[.string sx] 9));have Jw:=ah (Jn.out.next t9 (fun k hk=>.inl (.inr hk)));have H9:=ah (H8.out.new Jc.out t9 (fun k hk=>hk) Ja.out.hi);have Jh:=ah h9;clear r9 h9 t9;refine aw (i:=14) k_ rfl (fun K hK=>?_);go_simp;refine hK.out _ _ (fun _=>Ja.out.keep HS.out Jp) ?_;clear hK K;try simp only[Act.put,tA,tB,tC]
     refine aw (i:=15) k_ rfl (fun K hK=>?_);refine bm rfl (.tmp 160) (.tmp 164) 40 rfl (.slice ua un uc) (.slice (some ⟨w8.heap.size,0,none⟩) 1 1) (.slice xa xn xc) w9 rfl rfl Xn.out ?_;refine hK.out _ _ (fun _=>Ja.out.keep HS.out Jw) ?_;clear hK K;try simp only[Act.put,tA,tB,tC]
     have Xj:=HS;have HS:=ah (Ja.out.keep Xj.out Jw);refine tk 16 [17,18] HS.out ?_;refine tk 17 [18] HS.out ?_;obtain⟨⟨Xy,Yb,Ya,Vd,y1,-,-⟩,y2,hx⟩:=H9.out.fps Jc.out fn Js;have Xo:=ah (hx _ _ _ Jh.out ⟨Ja.out.hi.1,Ja.out.hi.2.2.1⟩ (ow Jv.out Ji));clear hx HS;refine aw (i:=18) k_ rfl (fun K hK=>?_);go_simp;refine hK.out _ _ (fun h=>absurd rfl h) ?_;clear hK K y1 y2;refine aP k_ ?_ _;go_wp2;go_meet
     case rel=>exact⟨_,_,_,_,_,_,⟨_,_,_,rfl⟩,⟨_,_,_,rfl⟩,Xo.out.choose_spec⟩
   case inr.inr.inr.inr.inr.inr.inr.inr.inr.inr.inr.inl=>
    have Vf:=ah Jb.out.rp;have Xx:=ah Jb.out.rl;go_wp2;go_loopw[7] (fun u wr=>∃va vn vc R',u=.slice va vn vc/\vn=R'.length/\R'.length<=10000/\RP g M a len cap O R4 N fl gl w wr b c b' c' t.globals Q u R') (fun u _=>502-(Eb u))
    case atStart=>exact⟨_,_,_,R,rfl,Xx.out.1.symm,Xx.out.1 ▸ Xx.out.2.2,Vf⟩
    case round=>
     obtain⟨va,vn,vc,R',rfl,Xa,Xb,Zo⟩:=hrel;have H5:=ah Zo;have HV:=ah Xa;have Vw:(vn:Int)<=10000:=by rw[Xa];exact Int.ofNat_le.2 Xb
     clear Zo Xa Vf Xx;go_wp2_with fail;refine(aI g a len cap (S0 g) _ _ hl Jr H5.out.pp.cur ⟨d_,d_⟩).mono ?_;rintro e w6 ⟨y,rfl,hy,Jm⟩;have H6:=ah (H5.out.dr Jm);clear Jm;by_cases hlt:(vn:Int)<500+y
     ·obtain⟨xa,xn,xc,w7,r7,Xm,R7,Xf,h7⟩:=H6.out.app Jc.out (D9 Xb) 7 1 0 ⟨#[]⟩ ⟨#[]⟩ d_ d_;have Jl:=ah r7;have H7:=ah h7;have HN:=ah (uF hy.2 hlt HV.out Xm Xf);clear r7 h7 Xm Xf;go_wp2_with(at_builtin;refine ao rfl (.tmp 176) (.tmp 180) _ rfl _ _ _ _ rfl rfl Jl.out ?_)
      go_roundw
      case rel=>exact⟨_,_,_,R7,rfl,HN.out.1,HN.out.2.1,H7⟩
      case measure=>exact HN.out.2.2
     ·have HC:=ah (H6.out.cp (Ea Xb));go_wp2;go_meet
      case rel=>exact⟨_,_,_,_,_,_,⟨_,_,_,rfl⟩,⟨_,_,_,rfl⟩,HC⟩
   case inr.inr.inr.inr.inr.inr.inr.inr.inr.inr.inr.inr.inl=>
    go_wp2_with fail;have Xw:=ah (aQ w5 w5.heap.size n_ 1 (-5) ⟨#[]⟩);go_loopw[10] (fun u wr=>∃va vn vc ns,u=.slice va vn vc/\vn=ns.length/\ns.length<=2100/\aF w5.heap.size wr u ns/\bI ns 2100/\w5.heap.size<=wr.heap.size/\QP g M a len cap O R4 N fl gl w wr b c b' c' t.globals Q bb bn Yh R) (fun u _=>2100-(Eb u))
    case atStart=>exact⟨_,_,_,[⟨1,-5,⟨#[]⟩⟩],rfl,rfl,d_,Xw,(bI.one d_).more d_,dT _ _,Jb.out.alloc _⟩
    case round=>
     obtain⟨va,vn,vc,ns,rfl,Xa,Vi,hr,Zs,Zw,hq⟩:=hrel;have H5:=ah hq;have HV:=ah Xa;have V_:=ah hr;have Vp:=ah Zs;have Ui:=ah Zw;have Vw:(vn:Int)<=2100:=by rw[Xa];exact Int.ofNat_le.2 Vi
     clear hq Xa hr Zs Zw;go_wp2_with fail;refine(aI g a len cap (S0 g) _ _ hl Jr H5.out.pp.cur ⟨d_,d_⟩).mono ?_;rintro e w6 ⟨y,rfl,hy,Jm⟩;have H6:=ah (H5.out.dr Jm);have Vj:aF w5.heap.size w6 (.slice va vn vc) ns:=az V_.out Jm.tcs Jb.out.low;have Ju:=ah (t_ Ui.out Jm.tcs.size);have Xu:=ah Vj;clear Jm Vj;by_cases hlt:(vn:Int)<1960+y
     ·obtain⟨xa,xn,xc,w7,r7,Xm,h7,t7⟩:=sK Xu.out Ju.out 6 0 ⟨#[]⟩ (Am Vi);have Jl:=ah r7;have Vz:=ah h7;have H7:=ah (H6.out.new Jc.out t7 (fun k hk=>hk) Jb.out.hi);have HN:=ah (ri (k:=6) (x:=0) (s:=⟨#[]⟩) hy.2 hlt HV.out Xm Vp.out d_);have Yx:=ah (t_ Ju.out t7.size);clear r7 h7 Xm t7;go_wp2_with(at_builtin;refine ao rfl (.tmp 192) (.tmp 194) _ rfl _ _ _ _ rfl rfl Jl.out ?_)
      go_roundw
      case rel=>exact⟨_,_,_,_,rfl,HN.out.1,HN.out.2.1,Vz,HN.out.2.2.1,Yx,H7⟩
      case measure=>exact HN.out.2.2.2
     ·obtain⟨⟨Xy,Yb,Ya,Ug,y2,-,-⟩,y3,hx⟩:=H6.out.ex Jc.out i hi;have HX:=ah (hx _ _ _ Xu.out ⟨Jb.out.hi.2.2.2,Jb.out.hi.1,Jb.out.hi.2.2.1⟩ (Vp.out.more d_));clear hx;go_wp2;go_meet
      case rel=>exact⟨_,_,_,_,_,_,⟨_,_,_,rfl⟩,⟨_,_,_,rfl⟩,HX.out.choose_spec⟩
   case inr.inr.inr.inr.inr.inr.inr.inr.inr.inr.inr.inr.inr=>
    go_wp2_with fail;refine(Jb.out.pick hl Jc.out [⟨#[118,49]⟩,⟨#[103]⟩,⟨#[112,48]⟩,⟨#[110,101,119]⟩] _ 4 rfl rfl d_ d_).mono ?_;rintro e w6 ⟨sx,Jd,rfl,hq⟩;have H6:=ah hq;have Ji:=ah Jd;clear hq Jd;obtain⟨va,vn,vc,w7,r7,-,R',Xb,h7⟩:=H6.out.rp.app Jc.out H6.out.rlen 1 1 0 sx ⟨#[]⟩ Ji.out d_;have Jl:=ah r7;have H7:=ah (h7.cp (H6.out.rlen' Xb));clear r7 h7;go_wp2_with(at_builtin;refine ao rfl (.tmp 203) (.tmp 210) _ rfl _ _ _ _ rfl rfl Jl.out ?_)
    go_meet
    case rel=>exact⟨_,_,_,_,_,_,⟨_,_,_,rfl⟩,⟨_,_,_,rfl⟩,H7⟩
  case rest=>
   obtain⟨Um,bF,cF,Up,Q1,R1,⟨xa,xn,xc,rfl⟩,⟨ya,yn,yc,rfl⟩,Zv⟩:=hcut;obtain⟨⟨c0,⟨Un,c1⟩,Uf⟩,W6,Zu,Yk,Xg,W7,Zf,Xf,Zn,Jz⟩:=uy Zv Jc.out fn Js;have Vo:=ah Zu;have Ub:=ah Zf;have o0:=(Yk 0 _ rfl).1;have o1:=(Yk 1 _ rfl).1;have r0:=(Xg 0 _ rfl).1;have Uk:=(Xg 0 _ rfl).2;have r1:=(Xg 1 _ rfl).1;have Us:=(Xg 1 _ rfl).2;have H7:=ah (And.intro (And.intro (Xf 0 _ rfl).1 (Xf 1 _ rfl).1) (And.intro Zn Jz));clear Zu Zf Yk Xg Xf Zn Jz Zv Jb;go_upto_region 40 with fail;rw[<-Vo.out];clear c0 c1 Uf Vo;go_wp2_with fail;rw[<-Ub.out];refine bodyPost_ret (by simp[results,results76,go_sem,H7.out.1.1,H7.out.1.2];try rfl) rfl ?_;exact⟨_,_,rfl,H7.out.2.1,H7.out.2.2⟩
end
section
variable{S:Nat->Prop}{w:World}{vg vf:Value}{t:Tr}
theorem yu(h:TD S w vg vf t):∃ga gn gc fa fn fc,vg=.slice ga gn gc/\vf=.slice fa fn fc:=by
 obtain⟨ga,gc,e,-⟩:=h.gs w (am.refl _ _);obtain⟨fb,Ja,fc,Q,ef,-⟩:=h.fs;exact⟨_,_,_,_,_,_,e,ef⟩
theorem pO(h:TW S w vg vf t):∃ga gn gc fa fn fc,vg=.slice ga gn gc/\vf=.slice fa fn fc:=by
 obtain⟨ga,gc,e,-⟩:=h.gs w (am.refl _ _);obtain⟨fa,fc,ef,-⟩:=h.fs w (am.refl _ _);exact⟨_,_,_,_,_,_,e,ef⟩
theorem TW.less{S':Nat->Prop}(h:TW S w vg vf t)(hs:∀k,S' k->S k):TW S' w vg vf t:=⟨fun W hW=>h.gs W (hW.mono hs),fun W hW=>h.fs W (hW.mono hs),h.gl,h.gn,h.fl,h.fp,h.ok⟩
theorem sN(w:World):∃W0 R2,W0=w.alloc (.cells #[.slice none 0 0,.slice none 0 0] 26)/\R2=w.heap.size/\aR W0 R2 [.slice none 0 0,.slice none 0 0]/\Below w.heap.size w W0/\W0.heap.size=w.heap.size+1:=
 ⟨_,_,rfl,rfl,aJ w _ _ i_,r_.alloc n_ _,i_⟩
theorem ox{M R2:Nat}{w3:World}{o1 o2:Value}(hf:aR w3 R2 [o1,o2])(ht:TW (fun k=>k<M) w3 vg vf t)(hR:R2<M):
  (w3.cell? ⟨R2,0,none⟩=some o1/\w3.frozen? ⟨R2,0,none⟩=false/\w3.cell? ⟨R2,1,none⟩=some o2/\w3.frozen? ⟨R2,1,none⟩=false)/\∃W,W=(w3.setCell ⟨R2,0,none⟩ vg).setCell ⟨R2,1,none⟩ vf/\(W.cell? ⟨R2,0,none⟩=some vg/\W.cell? ⟨R2,1,none⟩=some vf)/\TW (fun k=>k<M) W vg vf t/\am (fun k=>k=R2) w3 W:=by
 have Ja:=(hf.set 0 vg).set 1 vf;have tS:am (fun k=>k=R2) w3 ((w3.setCell ⟨R2,0,none⟩ vg).setCell ⟨R2,1,none⟩ vf):=((am.refl (fun k=>k=R2) w3).setCell (p:=⟨R2,0,none⟩) rfl _).setCell (p:=⟨R2,1,none⟩) rfl _;exact⟨⟨(hf 0 _ rfl).1,(hf 0 _ rfl).2,(hf 1 _ rfl).1,(hf 1 _ rfl).2⟩,_,rfl,⟨(Ja 0 _ rfl).1,(Ja 1 _ rfl).1⟩,ht.tcs (tS.mono fun k hk=>by omega),tS⟩
end
theorem pP(g:Nat)(a:Option Addr)(len cap:Nat)(w:World)(hl:len<=1048576)(hL:Lo g a len (S0 g) w.heap.size)(hc:dP g a len cap w):
  Calls prog 40 #[.pointer (some ⟨g,0,none⟩)] w fun e w'=>∃vg vf,e=.returned (.agg #[vg,vf])/\(∃t,TW (fun k=>k<w.heap.size) w' vg vf t)/\Dr g a len cap (S0 g) w w':=by
 have Xd:S0 g g:=rfl;have Xq:=hL.gl;have Jk:=ah hL;obtain⟨W0,R2,Jv,J_,hf,Jo,Ju⟩:=sN w;obtain⟨Jq,Ja,HF,Jx,Jb,Xb⟩:=h6 Jv J_ hf Jo Ju (hc.below Jo);clear Jv J_ hf Jo Ju hc hL;go_enter func40,ntmps40;go_upto_region 1 with fail;rw[<-Jq.out,<-Ja.out];clear Jq;go_wp2_with fail;refine(yk g a len cap W0 hl (Jk.out.mono (by have:=Jb.out;omega)) Xb).mono ?_;rintro e w1 ⟨vg,vf,rfl,⟨t,ht⟩,Jg⟩;obtain⟨ga,gn,gc,fa,fn,fc,rfl,rfl⟩:=yu ht;have Xf:=Jg.tcs.size;obtain⟨W1,Jf⟩:=q_ (w1.alloc (.cells #[.slice ga gn gc,.slice fa fn fc] 26));have Ji:Bl w1 W1:=by rw[Jf];exact r_.alloc n_ _
 obtain⟨Jr,Jl⟩:=h2 (ht.tcs Ji.tcs) (Jg.below Ji);have Jc:aR W1 w1.heap.size [.slice ga gn gc,.slice fa fn fc]:=by rw[Jf];exact aJ w1 _ _ i_
 have Je:aR W1 R2 [.slice none 0 0,.slice none 0 0]:=(HF.out.tcs (by have:=Jb.out;have:=Ja.out;omega) Jg.tcs (fun e=>by have e:R2=g:=e;have:=Ja.out;omega)).below Ji;have Xg:w1.heap.size<W1.heap.size:=by rw[Jf];simp
 obtain⟨H4,H2,Jz⟩:=h3 Jc Je Jf;clear Jg ht Jf Jc Je Ji HF;obtain⟨B4,Jy⟩:=q_ w1.heap.size;have Jj:=ah Jy;clear Jy;go_upto_region 2 with fail;rw[<-Jz.out,<-Jj.out];clear Jz;go_wp2_with fail;refine(eZ g a len cap (S0 g) _ _ hl Xd Jl.out.cur ⟨d_,d_⟩).mono ?_;rintro e w2 ⟨x,rfl,Jd⟩;have Xo:=Jd.tcs.size;have Xe:g<W0.heap.size:=by have:=Jb.out;omega
 obtain⟨Xa,Jh⟩:=h2 (Jr.out.tcs (Jd.tcs.mono fun k hk=>by have e:k=g:=hk;omega)) (Jl.out.trans Jd);have Jc:aR w2 B4 [.slice ga gn gc,.slice fa fn fc]:=by have:=H4.out;rw[<-Jj.out]at this;exact this.tcs (by have:=Jj.out;omega) Jd.tcs (fun e=>by have e:B4=g:=e;have:=Jj.out;omega)
 have Je:aR w2 R2 [.slice none 0 0,.slice none 0 0]:=H2.out.tcs (by have:=Jb.out;have:=Ja.out;omega) Jd.tcs (fun e=>by have e:R2=g:=e;have:=Ja.out;omega);have p0:=(Jc 0 _ rfl).1;have p1:=(Jc 1 _ rfl).1;have Js:=ah Je;have Jt:R2<W0.heap.size:=by have:=Jb.out;have:=Ja.out;omega
 have Xc:R2≠g:=by have:=Ja.out;omega
 clear Jd Jc Je H4 H2 Jr Jl;cases x
 ·obtain⟨⟨z0,z1,z2,z3⟩,W,hW,⟨e0,e1⟩,ht,hS⟩:=ox Js.out Xa.out.tw Jt;obtain⟨HW,HE,HT,HS⟩:=h4 hW (And.intro e0 e1) ht hS;clear hW e0 e1 ht hS;go_wp2_with fail;rw[<-HW.out];refine bodyPost_ret (by simp[results,results40,go_sem,HE.out.1,HE.out.2];try rfl) rfl ?_;refine⟨_,_,rfl,⟨_,HT.out.less (fun k hk=>by have:=Jb.out;have hk:k<w.heap.size:=hk;show k<W0.heap.size;omega)⟩,?_⟩;exact(Dr.new (w:=w) ⟨Jh.out.cur,(Jx.out.tcs (S:=S0 g)).trans Jh.out.tcs⟩ Jk.out HS.out (fun k hk=>by have:=Ja.out;omega))
 ·go_wp2_with fail;refine(uG g W0.heap.size a len cap _ _ t w2 hl ⟨Xe,o_⟩ (Jk.out.mono (by have:=Jb.out;omega)) Jh.out.cur Xa).mono ?_;rintro e w3 ⟨Xh,Xm,rfl,⟨t',Jn⟩,Jm⟩;obtain⟨Xk,Xj,Xp,Xl,Xi,Xn,rfl,rfl⟩:=pO Jn;have Jp:aR w3 R2 [.slice none 0 0,.slice none 0 0]:=Js.out.tcs o_ Jm.tcs (fun e=>Xc e);obtain⟨⟨z0,z1,z2,z3⟩,W,hW,⟨e0,e1⟩,ht,hS⟩:=ox Jp Jn Jt;obtain⟨HW,HE,HT,HS,Jw⟩:=h5 hW (And.intro e0 e1) ht hS (Jh.out.trans Jm);clear hW e0 e1 ht hS Jm Jn Jp;go_wp2_with fail;rw[<-HW.out];refine bodyPost_ret (by simp[results,results40,go_sem,HE.out.1,HE.out.2];try rfl) rfl ?_;refine⟨_,_,rfl,⟨_,HT.out.less (fun k hk=>by have:=Jb.out;have hk:k<w.heap.size:=hk;show k<W0.heap.size;omega)⟩,?_⟩;exact(Dr.new (w:=w) ⟨Jw.out.cur,(Jx.out.tcs (S:=S0 g)).trans Jw.out.tcs⟩ Jk.out HS.out (fun k hk=>by have:=Ja.out;omega))
theorem rj(a:Option Addr)(len cap:Nat)(w:World)(hl:len<=1048576)(hb:B8 w a len):
  Calls prog 18 #[.slice a len cap] w fun e w'=>∃vg vf t,e=.returned (.agg #[vg,vf])/\TW (fun _=>False) w' vg vf t/\Below w.heap.size w w':=by
 obtain⟨W0,R2,Jl,Jp,hf,Jh,Jo⟩:=sN w;obtain⟨Jv,Jb,HF,Ji,Jg,Jm⟩:=h6 Jl Jp hf Jh Jo (hb.below Jh);clear Jl Jp hf Jh Jo hb;go_enter func18,ntmps18;go_upto_region 1 with fail;rw[<-Jv.out,<-Jb.out];go_wp2_with fail;refine(zP a len cap W0 hl Jm).mono ?_;rintro e w1 ⟨rfl,Jk,Jd,Jf,Ja⟩;obtain⟨g,hg⟩:=q_ W0.heap.size;rw[<-hg]at Jk Ja Jf⊢;obtain⟨HG,Js,Jy,Ju,Je,Jz⟩:=h6 hg Jk Ja Jf (Ji.out.trans (Jd.mono Ji.out.size)) (HF.out.below Jd);have Jw:R2≠g:=by have:=Jb.out;have:=HG.out;have:=Jg.out;omega
 have Jn:R2<w1.heap.size:=by have:=Jb.out;have:=HG.out;have:=Jg.out;have:=Ju.out;omega
 have Jt:∀k,S0 g k->w.heap.size<=k:=fun k hk=>by have e:k=g:=hk;have:=HG.out;have:=Jg.out;omega
 have Jx:∀k,k=R2->w.heap.size<=k:=fun k hk=>by have:=Jb.out;omega
 clear hg Jk Ja Jf Jd HF Jm Ji;go_wp2_with fail;refine(pP g a len cap w1 hl Jy.out Js).mono ?_;rintro e w4 ⟨Xg,Xe,rfl,⟨t',Jq⟩,Jc⟩;obtain⟨Xb,Xf,Xc,Xd,Xh,J_,rfl,rfl⟩:=pO Jq;have Jr:aR w4 R2 [.slice none 0 0,.slice none 0 0]:=Jz.out.tcs Jn Jc.tcs (fun e=>Jw e);obtain⟨⟨z0,z1,z2,z3⟩,W,hW,⟨e0,e1⟩,ht,hS⟩:=ox Jr Jq Jn;obtain⟨HW,HE,HT⟩:=h3 hW (And.intro e0 e1) ht;have Xa:=Jc.tcs.size;have Jj:Hid (Bl w W):=hS.below (Jc.tcs.below Je.out Je.out.size Jt) (by have:=Je.out.size;omega) Jx;go_wp2_with fail;rw[<-HW.out];refine bodyPost_ret (by simp[results,results18,go_sem,HE.out.1,HE.out.2];try rfl) rfl ?_;exact⟨_,_,_,rfl,HT.out.less (fun k hk=>hk.elim),Jj⟩
end Go.Proofs.YtlamjfhhefcohaaGreatDoor
