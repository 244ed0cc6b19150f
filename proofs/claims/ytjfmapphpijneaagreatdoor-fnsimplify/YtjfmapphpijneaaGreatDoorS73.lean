import Derived.Deep.CutBlock
import Derived.Test.YtjfmapphpijneaaGreatDoorS72
namespace Go.Proofs.YtjfmapphpijneaaGreatDoor
set_option linter.all false
set_option maxRecDepth 100000
set_option maxHeartbeats 0
open Go.World List Go.Proofs.Tryz Go.RowKit
variable{fl:Nat}
def Hu{k:Int}(h:0<=k/\k<14):k=0∨k=1∨k=2∨k=3∨k=4∨k=5∨k=6∨k=7∨k=8∨k=9∨k=10∨k=11∨k=12∨k=13:=by omega
def Dp{f:Int}{n:Nat}(h:0<=f/\f<n):∃k:Nat,f=k/\k<n:=⟨f.toNat,o_,o_⟩
def Dq{g M:Nat}{a:Option Addr}{len cap O R4 N Z:Nat}{w W:AT}{b c I J:Nat}{gs:List Gl}{Q:List FV}(h:PP g M a len cap O R4 N fl Z w W b c I J gs Q)(f:Nat)(hf:f<fl):
  DO (W.alloc (.cells #[] 79)) O 1 (rV I fl J)/\∃ba bo bn bc,DO (W.alloc (.cells #[] 79)) I (f*3+2) (.slice (some ⟨ba,bo,none⟩) bn bc)/\∃bb cap' w',(Builtin.append_ #[50,50] 50 #[rV W.heap.size 0 0,.slice (some ⟨ba,bo,none⟩) bn bc]).run prog (W.alloc (.cells #[] 79))=.ok (rV bb bn cap') w'/\((1:Int)<=bn/\(bn:Int)<=100000)/\∃R,QP g M a len cap O R4 N fl Z w w' b c I J gs Q bb bn cap' R:=by
 obtain⟨ba,bo,bn,bc,-,c2,bb,cap',w',r,R,U⟩:=h.copy f hf 50;have hr:=U.rl;exact⟨(cell?_alloc_past _ O 1 h.lo.2.2.2.2).trans (h.box 1 _ rfl).1,ba,bo,bn,bc,c2,bb,cap',w',r,o_,R,U⟩
def Hv(h:1<=fl/\fl<=20):(1:Int)<=fl/\(fl:Int)<=100000:=by omega
theorem A0(g M:Nat)(a:Option Addr)(len cap:Nat)(vg vf:BY)(t:Tr)(w:AT)(hl:len<=1048576)(hM:g<M/\M<=w.heap.size)(hL:Lo g a len (S0 g) w.heap.size)(hc:ew g a len cap w)(hT:TD (λk=>k<M) w vg vf t):
  Calls prog 33 #[pV g,.agg #[vg,vf]] w λe w'=>∃vg' vf',e=rW (.agg #[vg',vf'])/\(∃t',TW (λk=>k<M) w' vg' vf' t')/\Dr g a len cap (S0 g) w w':=by
 have Js:S0 g g:=rfl;have Jh:=ah hL;have HM:=ah hM;have Yy:=ah hT;have Ya:=hT.gl;have Ys:=hT.fl;obtain⟨W0,Xd⟩:=q_ ((w.alloc (.cells #[vg,vf] 26)).alloc (.cells #[nV,nV] 26));have Yk:Bl w W0:=by rw[Xd];exact(ao _ _).alloc i_ _
 have Zu:W0.heap.size=w.heap.size+2:=by rw[Xd];simp
 obtain⟨ga,gc,eg,-⟩:=mN (hT.gs w (aj.refl _ _)) o_;obtain⟨fb,Jk,fc,Q,ef,-,-,Yu,Xz⟩:=hT.fs;have X_:Q.length=t.fc.length:=by rw[<-Yu,J8]
 obtain⟨gl,Jx⟩:=q_ t.gl.length;obtain⟨fl,Jz⟩:=q_ t.fc.length;rw[X_]at ef;rw[<-Jx]at eg Ya;rw[<-Jz]at ef Ys;subst eg ef;obtain⟨P3,Y_⟩:=q_ w.heap.size;obtain⟨R4,Yg⟩:=q_ (w.heap.size+1);have Xx:=ah Xd;have Zg:=ah Y_;have Vc:=ah Yg;have Vp:aN W0 P3 [.slice (some ga) gl gc,.slice (some ⟨fb,Jk,none⟩) fl fc]:=by
  rw[Xd,Y_];exact(aI w _ _ i_).below (ao _ _)
 have Vf:aN W0 R4 [nV,nV]:=by
  rw[Xd,Yg];have:=aI (w.alloc (.cells #[.slice (some ga) gl gc,.slice (some ⟨fb,Jk,none⟩) fl fc] 26)) #[nV,nV] 26 i_;simp only[Bl,J9]at this;exact this
 have H3:=ah Vp;have H4:=ah Vf;have Xw:=ah Yk;have Yi:=ah Zu;have HQ:=ah (And.intro X_ Yu);have Yn:=ah Xz;have Zd:Hid (∀x∈Q,x.vp.oneCell'=true/\x.vb.oneCell'=true):=λx U=>by
  obtain⟨e1,e2,-⟩:=(Xz w (aj.refl _ _)).2 x U;obtain⟨_,_,e1,-⟩:=e1;exact⟨by rw[e1];rfl,e2.one⟩
 have Vd:Hid (ew g a len cap W0):=hc.below Yk;have Xs:=ah Jx;have Yv:=ah Jz;clear hL hM Xd Yk Zu Vp Vf Y_ Yg hc X_ Yu hT Jx Jz Xz;go_in;go_upto_region 1 with fail;rw[<-Xx.out,<-Vc.out,<-Zg.out];clear Xx;obtain⟨N,hN⟩:=q_ W0.heap.size;have HN:=ah hN;have Zb:Hid (∀Y,Bl W0 Y->(∀j u,(dw t.gl)[j]? =some u->Y.cell? (ga.add j)=some u)/\(∀j u,(bD Q)[j]? =some u->Y.cell? ((⟨fb,Jk,none⟩:Addr).add j)=some u)):=λY hY=>by
  have Vo:Bl w Y:=Xw.out.trans (hY.mono Xw.out.size);refine⟨λj u hu=>?_,λj u hu=>?_⟩
  ·obtain⟨Uy,Uv,e,h⟩:=mN (Yy.out.gs Y Vo.tcs) (by rw[<-Xs.out];omega);simp only[Value.slice.injEq,J0]at e;rw[e.1];exact h j u hu
  ·rw[dk];exact(Yn.out Y Vo.tcs).1 j u hu
 have Xi:P3<W0.heap.size:=Ia Yi.out Zg.out
 have p0:=(H3.out 0 _ rfl).1;have p1:=(H3.out 1 _ rfl).1;clear hN;refine oT k_ (n:=10) (d:=λi=>[11,12,13,14,15,16,17,18,19,5].getD i 0) ?G
  (λi x Y=>match i with
   | 0=>∃b,x=.slice (some ⟨b,0,none⟩) 0 0/\Y.ownsRow N 48 2 x 0 []
   | 1=>x=.pointer (some ⟨P3,0,none⟩)
   | 2=>x=.slice (some ga) gl gc
   | 3=>∃b c,x=.slice (some ⟨b,0,none⟩) gl c/\Y.ownsRow N 48 2 x gl (dw t.gl)
   | 4=>∃b,x=.slice (some ⟨b,0,none⟩) 0 0/\Y.ownsRow N 52 3 x 0 []
   | 5=>x=.pointer (some ⟨P3,1,none⟩)
   | 6=>x=.slice (some ⟨fb,Jk,none⟩) fl fc
   | 7=>∃b c,x=.slice (some ⟨b,0,none⟩) fl c/\Y.ownsRow N 52 3 x fl (bD Q)
   | 8=>∃b c b' c',x=.agg #[.slice (some ⟨b,0,none⟩) gl c,.slice (some ⟨b',0,none⟩) fl c']/\Y.ownsRow N 48 2 (.slice (some ⟨b,0,none⟩) gl c) gl (dw t.gl)/\Y.ownsRow N 52 3 (.slice (some ⟨b',0,none⟩) fl c') fl (bD Q)
   | _=>∃b,x=.pointer (some ⟨b,0,none⟩)/\N<=b/\Y.heap[b]? =some (.cells #[.slice none 0 0,.slice none 0 0] 26 (0,0)))
  (λi x=>[]) ?stab ?hd ?step ?fin
 case G=>
  refine⟨rfl,?_,?_,?_⟩
  ·intro i hi;rcases sT hi with rfl|rfl|rfl|rfl|rfl|rfl|rfl|rfl|rfl|rfl <;> exact⟨_,rfl,rfl,rfl,by simp[Region.binds]⟩
  ·intro i j hi hj;rcases sT hi with rfl|rfl|rfl|rfl|rfl|rfl|rfl|rfl|rfl|rfl <;> rcases sT hj with rfl|rfl|rfl|rfl|rfl|rfl|rfl|rfl|rfl|rfl <;> simp
  ·refine⟨_,rfl,rfl,?_,i_⟩;intro i hi;rcases sT hi with rfl|rfl|rfl|rfl|rfl|rfl|rfl|rfl|rfl|rfl <;> simp[Region.binds]
 case stab=>
  intro i x Y Y' hR hO hB;by_cases hi:i<10
  ·rcases sT hi with rfl|rfl|rfl|rfl|rfl|rfl|rfl|rfl|rfl|rfl
   ·obtain⟨b,e,h⟩:=hR;exact⟨b,e,ownB h hB⟩
   ·exact hR
   ·exact hR
   ·obtain⟨b,c,e,h⟩:=hR;exact⟨b,c,e,ownB h hB⟩
   ·obtain⟨b,e,h⟩:=hR;exact⟨b,e,ownB h hB⟩
   ·exact hR
   ·exact hR
   ·obtain⟨b,c,e,h⟩:=hR;exact⟨b,c,e,ownB h hB⟩
   ·obtain⟨b,c,b',c',e,h,h'⟩:=hR;exact⟨b,c,b',c',e,ownB h hB,ownB h' hB⟩
   ·obtain⟨b,e,h1,h⟩:=hR;exact⟨b,e,h1,(hB.block _ (Array.getElem?_eq_some_iff.1 h).1).trans h⟩
  ·obtain⟨k,rfl⟩:∃k,i=k+10:=⟨i-10,o_⟩;obtain⟨b,e,h1,h⟩:=hR;exact⟨b,e,h1,(hB.block _ (Array.getElem?_eq_some_iff.1 h).1).trans h⟩
 case hd=>
  intro i hi;rcases sT hi with rfl|rfl|rfl|rfl|rfl|rfl|rfl|rfl|rfl|rfl <;> simp
 case step=>
  intro i o hi Z x Y Yr Ye Xq hB Jm Vz Uw;have t3:=Xq 3 (by intro j hj;rcases sT hj with rfl|rfl|rfl|rfl|rfl|rfl|rfl|rfl|rfl|rfl <;> decide);simp at t3;have c0:=(hB.cell (p:=⟨P3,0,none⟩) Xi).trans p0;have c1:=(hB.cell (p:=⟨P3,1,none⟩) Xi).trans p1;have Xe:N<=Y.heap.size:=by rw[HN.out];exact hB.size
  obtain⟨i1,q1,q2,q3,q4⟩:=info_parts rD;obtain⟨i2,r1,r2,r3,r4⟩:=info_parts jY;rcases sT hi with rfl|rfl|rfl|rfl|rfl|rfl|rfl|rfl|rfl|rfl
  ·simp at Z;subst Z;simp[Oper.wp,execOp,Oper.upon,Act.eval,go_sem];refine⟨_,rfl,?_,r_.alloc n_ _⟩;have Jl:(Y.alloc (.cells #[] 48)).ownsRow N 48 2 (rV Y.heap.size 0 0) 0 []:=World.ownsRow_lit Y #[] 0 Xe d_ rfl;first|exact Jl|exact⟨⟨_,rfl⟩,Jl⟩|exact⟨i_,Jl⟩|exact⟨_,rfl,Jl⟩
  ·simp at Z;subst Z;simp[Oper.wp,execOp,Oper.upon,Act.eval,t3,go_sem];exact⟨_,rfl,rfl,r_⟩
  ·simp at Z;subst Z;have e1:x.tmps[12]?.getD undef=pV P3:=(by have:=Jm ⟨1,.data⟩ i_;simpa[Act.eval]using this);simp[Oper.wp,execOp,Oper.upon,e1,c0,go_sem];exact⟨_,rfl,rfl,r_⟩
  ·simp at Z;subst Z;obtain⟨b,e0,o0⟩:=Jm ⟨0,.data⟩ i_;have Vs:x.tmps[11]?.getD undef=rV b 0 0:=(by simpa[Act.eval]using e0);have e1:x.tmps[13]?.getD undef=.slice (some ga) gl gc:=(by have:=Jm ⟨2,.data⟩ i_;simpa[Act.eval]using this);rw[e0]at o0;obtain⟨cp,w',hr,Yb,Yl⟩:=sR (P:=prog) (w:=Y) N 23 23 48 i1 _ 2 24 underlying23 q1 q2 q3 q4 rfl d_ b o0 ga gl gc (dw t.gl) (by rw[ka,Xs.out]) (Zb.out Y hB).1 (λu hu=>by
    simp only[dw,List.mem_flatMap]at hu;obtain⟨y,-,hu⟩:=hu;simp only[AQ,List.mem_cons,List.not_mem_nil,or_false]at hu;rcases hu with rfl|rfl <;> rfl) o_ o_ d_ Xe
   unfold Oper.wp execOp;have Yc:x.eval (.tmp 11)=rV b 0 0:=e0;have Yt:x.eval (.tmp 13)=.slice (some ga) gl gc:=Jm ⟨2,.data⟩ i_;simp only[resolve,invoke,builtin,Sem.run_bind,Sem.run_pure,Result.andThen_ok,List.map_toArray,List.map_cons,List.map_nil,Yc,Yt,hr];exact⟨_,rfl,⟨_,cp,rfl,Yb⟩,Yl,λg hg=>by cases hg⟩
  ·simp at Z;subst Z;simp[Oper.wp,execOp,Oper.upon,Act.eval,go_sem];refine⟨_,rfl,?_,r_.alloc n_ _⟩;have Jl:(Y.alloc (.cells #[] 52)).ownsRow N 52 3 (rV Y.heap.size 0 0) 0 []:=World.ownsRow_lit Y #[] 0 Xe d_ rfl;first|exact Jl|exact⟨⟨_,rfl⟩,Jl⟩|exact⟨i_,Jl⟩|exact⟨_,rfl,Jl⟩
  ·simp at Z;subst Z;simp[Oper.wp,execOp,Oper.upon,Act.eval,t3,go_sem];exact⟨_,rfl,rfl,r_⟩
  ·simp at Z;subst Z;have e1:x.tmps[16]?.getD undef=.pointer (some ⟨P3,1,none⟩):=(by have:=Jm ⟨5,.data⟩ i_;simpa[Act.eval]using this);simp[Oper.wp,execOp,Oper.upon,e1,c1,go_sem];exact⟨_,rfl,rfl,r_⟩
  ·simp at Z;subst Z;obtain⟨b,e0,o0⟩:=Jm ⟨4,.data⟩ i_;have Yc:x.eval (.tmp 15)=rV b 0 0:=e0;have Yt:x.eval (.tmp 17)=.slice (some ⟨fb,Jk,none⟩) fl fc:=Jm ⟨6,.data⟩ i_;rw[e0]at o0;obtain⟨cp,w',hr,Yb,Yl⟩:=sR (P:=prog) (w:=Y) N 24 24 52 i2 _ 3 64 underlying24 r1 r2 r3 r4 rfl d_ b o0 ⟨fb,Jk,none⟩ fl fc (bD Q) (by rw[fC,HQ.out.1,Yv.out]) (Zb.out Y hB).2 (λu hu=>by
    simp only[bD,List.mem_flatMap]at hu;obtain⟨y,hy,hu⟩:=hu;obtain⟨e1,e2⟩:=Zd.out y hy;simp only[aX,List.mem_cons,List.not_mem_nil,or_false]at hu;rcases hu with rfl|rfl|rfl
    ·rfl
    ·exact e1
    ·exact e2) o_ o_ d_ Xe
   unfold Oper.wp execOp;simp only[resolve,invoke,builtin,Sem.run_bind,Sem.run_pure,Result.andThen_ok,List.map_toArray,List.map_cons,List.map_nil,Yc,Yt,hr];exact⟨_,rfl,⟨_,cp,rfl,Yb⟩,Yl,λg hg=>by cases hg⟩
  ·simp at Z;subst Z;obtain⟨b,c,e0,o0⟩:=Jm ⟨3,.data⟩ i_;obtain⟨b',c',e1,o1⟩:=Jm ⟨7,.data⟩ i_;have Vs:x.tmps[14]?.getD undef=rV b gl c:=(by simpa[Act.eval]using e0);have Uo:x.tmps[18]?.getD undef=rV b' fl c':=(by simpa[Act.eval]using e1);rw[e0]at o0;rw[e1]at o1;simp[Oper.wp,execOp,Oper.upon,Vs,Uo,go_sem];exact⟨_,rfl,⟨b,c,b',c',rfl,o0,o1⟩,r_⟩
  ·simp at Z;subst Z;simp[Oper.wp,execOp,Oper.upon,Act.eval,go_sem];refine⟨_,rfl,?_,r_.alloc n_ _⟩;have hh:(Y.alloc (.cells #[nV,nV] 26)).heap[Y.heap.size]? =some (.cells #[nV,nV] 26 (0,0)):=(MapKept.heap_alloc Y _).1;first|exact⟨Xe,hh⟩|exact⟨_,rfl,Xe,hh⟩
 case fin=>
  intro o Z x Y hG;obtain⟨Yr,Ye,Xq,hB,hrel,-,-⟩:=hG;simp at Z;subst Z;obtain⟨b,c,b',c',e8,og,Vg⟩:=hrel 8 o_ trivial;obtain⟨O,e9,Va,hO⟩:=hrel 9 o_ trivial;obtain⟨b0,e0,-⟩:=hrel 0 o_ trivial;have e1:=hrel 1 o_ trivial;have e2:=hrel 2 o_ trivial;obtain⟨b3,c3,e3,-⟩:=hrel 3 o_ trivial;obtain⟨b4,e4,-⟩:=hrel 4 o_ trivial;have e5:=hrel 5 o_ trivial;have e6:=hrel 6 o_ trivial;obtain⟨b7,c7,e7,-⟩:=hrel 7 o_ trivial;have E0:x.eval (.tmp 11)=_:=e0;have E1:x.eval (.tmp 12)=pV P3:=e1;have E2:x.eval (.tmp 13)=.slice (some ga) gl gc:=e2;have E3:x.eval (.tmp 14)=_:=e3;have E4:x.eval (.tmp 15)=_:=e4;have E5:x.eval (.tmp 16)=.pointer (some ⟨P3,1,none⟩):=e5;have E6:x.eval (.tmp 17)=.slice (some ⟨fb,Jk,none⟩) fl fc:=e6;have E7:x.eval (.tmp 18)=_:=e7;have E8:x.eval (.tmp 19)=_:=e8;have E9:x.eval (.tmp 5)=_:=e9;have U:=Di [11,12,13,14,15,16,17,18,19,5] Yr Ye i_ (λt ht=>Xq t (λj hj e=>ht (by rcases sT hj with rfl|rfl|rfl|rfl|rfl|rfl|rfl|rfl|rfl|rfl <;> (rw[<-e];simp))));simp only[List.foldl_cons,List.foldl_nil,E0,E1,E2,E3,E4,E5,E6,E7,E8,E9]at U;clear E0 E1 E2 E3 E4 E5 E6 E7 E8 E9 e0 e1 e2 e3 e4 e5 e6 e7 e8 e9 hrel Xq Ye Yr;have Vv:= Fy (vg:=.slice (some ga) gl gc) (vf:=.slice (some ⟨fb,Jk,none⟩) fl fc) (t:=t) (Q:=Q) (w:=w) (W0:=W0) (M:=M) hB og Vg Va hO HN.out Vc.out Yi.out Xw.out Jh.out H4.out Vd.out Yy.out HQ.out HM.out Yn.out Ya Ys Xs.out Yv;obtain⟨fO,W1,Zw,Zk⟩:=Vv;subst U;have k0:=(fO 0 _ rfl).1;have Zy:=(fO 0 _ rfl).2;have k1:=(fO 1 _ rfl).1;have Zz:=(fO 1 _ rfl).2;have Xp:=ah Zk;have Zo:=ah Zw;clear Zk Zw;clear Yn Yy H3 H4 Xs Yv HQ Zd Zb;simp[Oper.wp,execOp,Oper.upon,Act.eval,Act.put,k0,Zy,k1,Zz,go_sem];rw[<-Zo.out];have q1:=(Xp.out.box 1 _ rfl).1;clear Zo k0 Zy k1 Zz fO hO Va og Vg hB;have Xy:=Hv Ys;go_wp2_with fail;refine(aE g a len cap (S0 g) _ _ hl Js Xp.out.cur Xy).mono ?_;rintro e w2 ⟨f,rfl,hf,Zi⟩;obtain⟨fn,rfl,Jw⟩:=Dp hf;obtain⟨q2,ba,bo,bn,bc,q3,bb,Yq,w3,r3,Uk,R,Ve⟩:=Dq (Xp.out.dr Zi) fn Jw;have Zx:=ah r3;have Yx:=ah Ve;clear r3 Ve q1 Zi Xp;go_wp2_with(at_builtin;refine ay rfl (.tmp 25) (.tmp 31) _ rfl _ _ _ _ rfl rfl Zx.out ?_);refine(aE g a len cap (S0 g) _ _ hl Js Yx.out.pp.cur ⟨d_,d_⟩).mono ?_;rintro e w4 ⟨kk,rfl,Ub,Zp⟩;have Yw:=ah (Yx.out.dr Zp);clear Zp Yx;go_wp2_with fail;refine(aE g a len cap (S0 g) _ _ hl Js Yw.out.pp.cur Uk).mono ?_;rintro e w5 ⟨ii,rfl,V_,Zf⟩;have Jg:=ah (Yw.out.dr Zf);clear Zf Yw;obtain⟨i,rfl,hi⟩:=Dp V_;clear Zx q2 q3 Vd Xw Yi HN;go_upto_block 0 with fail
  go_cut [7,10]from 39 to 400 (λvb ev W=>∃vg bF cF gs Q' R',(∃xa xn xc,vb=.slice xa xn xc)/\(∃ya yn yc,vg=.slice ya yn yc)/\CP g M a len cap O R4 N fl w W vb vg bF cF gs Q' R')
  case first=>
   rcases Hu Ub with rfl|rfl|rfl|rfl|rfl|rfl|rfl|rfl|rfl|rfl|rfl|rfl|rfl|rfl
   case inl=>
    go_upto_region 8 with fail;have I:=ah ((Jg.out.pp.box 0 _ rfl).1);refine cq 9 (λW=>W.cell? ⟨O,0,none⟩=some (rV b gl c)) k_ ?_;refine tk 0 [1,7,9] I.out ?_;refine tk 1 [7,9] I.out ?_;refine tk 2 [4,5,6,7,9] I.out ?_;have Xk:=ah (((Jg.out.drew).alloc (.cells #[sV ⟨#[103]⟩,sV ⟨#[109,97,105,110]⟩,sV ⟨#[112,48]⟩,sV ⟨#[105,102]⟩,sV ⟨#[118,49]⟩] 9)).pp.box 0 _ rfl).1;clear I;refine aB (i:=3) k_ rfl (λK hK=>?_);go_simp;refine hK.out _ _ (λ_=>Xk) ?_;clear hK K;try simp only[Act.put,tA,tB,tC]
    refine aB (i:=4) k_ rfl (λK hK=>?_);go_simp;refine((Jg.out.drew).pick hl Jh.out [⟨#[103]⟩,⟨#[109,97,105,110]⟩,⟨#[112,48]⟩,⟨#[105,102]⟩,⟨#[118,49]⟩] _ 5 rfl rfl d_ d_).mono ?_;rintro e w6 ⟨sx,Jj,rfl,hq⟩;have J:=ah hq;have Jo:=ah Jj;clear hq Jj;have I:=ah ((J.out.pp.box 0 _ rfl).1);refine hK.out _ _ (λ_=>I) ?_;clear hK K Xk;try simp only[Act.put,tA,tB,tC]
    refine tk 5 [6,7,9] I.out ?_;obtain⟨q1,ya,yn,yc,w7,r7,q2,Ux,Vk⟩:=J.out.gapp Jh.out sx Jo;have Uc:=ah q1;have Jn:=ah r7;have Xv:=ah q2;have Un:=ah Vk;clear q1 r7 q2 Vk I;refine aB (i:=6) k_ rfl (λK hK=>?_);go_simp;refine hK.out _ _ (λ_=>Uc) ?_;clear hK K;try simp only[Act.put,tA,tB,tC]
    refine aB (i:=7) k_ rfl (λK hK=>?_);refine dW rfl (.tmp 43) (.tmp 48) 23 rfl (rV b gl c) (rV w6.heap.size 1 1) (.slice ya yn yc) w7 rfl rfl Jn.out ?_;refine hK.out _ _ (λ_=>Xv.out.1) ?_;clear hK K;try simp only[Act.put,tA,tB,tC]
    have I:=ah Xv.out.1;refine tk 8 [9] I.out ?_;clear I;have y1:=Xv.out.1;have y2:=Xv.out.2;refine aB (i:=9) k_ rfl (λK hK=>?_);go_simp;refine hK.out _ _ (λh=>absurd rfl h) ?_;clear hK K y1 y2;refine co k_ ?_ _;go_wp2;go_meet
    case rel=>exact⟨_,_,_,_,_,_,⟨_,_,_,rfl⟩,⟨_,_,_,rfl⟩,Un⟩
   case inr.inl=>
    go_upto_region 10 with fail;have I:=ah ((Jg.out.pp.box 0 _ rfl).1);have Ud:0<gl:=Ya.1;refine cq 7 (λW=>W.cell? ⟨O,0,none⟩=some (rV b gl c)) k_ ?_;refine tk 0 [1,5,6,7] I.out ?_;refine tk 1 [5,6,7] I.out ?_;refine tk 2 [3,7] I.out ?_;clear I;refine aB (i:=3) k_ rfl (λK hK=>?_);go_simp;refine(aE g a len cap (S0 g) _ _ hl Js Jg.out.drew.pp.cur ⟨d_,d_⟩).mono ?_;rintro e w6 ⟨y,rfl,hy,Jp⟩;have J:=ah (Jg.out.drew.dr Jp);clear Jp;have I:=ah ((J.out.pp.box 0 _ rfl).1);refine hK.out _ _ (λ_=>I) ?_;clear hK K;try simp only[Act.put,tA,tB,tC]
    refine tk 4 [7] I.out ?_;refine tk 5 [6,7] I.out ?_;refine tk 6 [7] I.out ?_;obtain⟨⟨k0,y1⟩,y2,U⟩:=J.out.gput Jh;have HX:=ah U;clear U I;refine aB (i:=7) k_ rfl (λK hK=>?_);go_simp;refine hK.out _ _ (λh=>absurd rfl h) ?_;clear hK K y1 y2;refine co k_ ?_ _;go_wp2;go_meet
    case rel=>exact⟨_,_,_,_,_,_,⟨_,_,_,rfl⟩,⟨_,_,_,rfl⟩,(HX.out _).choose_spec⟩
   case inr.inr.inl=>
    go_wp2_with fail;refine(aE g a len cap (S0 g) _ _ hl Js Jg.out.pp.cur ⟨d_,d_⟩).mono ?_;rintro e w6 ⟨y,rfl,hy,Jp⟩;have J:=ah (Jg.out.dr Jp);clear Jp;obtain⟨⟨k0,y1⟩,y2,U⟩:=J.out.kd Jh.out i hi;have HX:=ah U;clear U;go_wp2;go_meet
    case rel=>exact⟨_,_,_,_,_,_,⟨_,_,_,rfl⟩,⟨_,_,_,rfl⟩,(HX.out _).choose_spec⟩
   case inr.inr.inr.inl=>
    go_wp2_with fail;refine(Jg.out.pick hl Jh.out [⟨#[97]⟩,⟨#[103]⟩,⟨#[122,122]⟩,⟨#[118,49]⟩,⟨#[]⟩,⟨#[102]⟩] _ 6 rfl rfl d_ d_).mono ?_;rintro e w6 ⟨sx,Jj,rfl,hq⟩;have J:=ah hq;have Jo:=ah Jj;clear hq Jj;obtain⟨⟨k0,y1⟩,y2,U⟩:=J.out.nm Jh.out i hi;have HX:=ah (U _ Jo);clear U;go_wp2;go_meet
    case rel=>exact⟨_,_,_,_,_,_,⟨_,_,_,rfl⟩,⟨_,_,_,rfl⟩,HX.out.choose_spec⟩
   case inr.inr.inr.inr.inl=>
    obtain⟨⟨k0,y1⟩,y2,U⟩:=Jg.out.th Jh.out i hi;have HX:=ah U;clear U;go_wp2;go_meet
    case rel=>exact⟨_,_,_,_,_,_,⟨_,_,_,rfl⟩,⟨_,_,_,rfl⟩,(HX.out _).choose_spec⟩
   case inr.inr.inr.inr.inr.inl=>
    obtain⟨⟨va,vn,vc,es,y2,Yf,Zt⟩,-,-⟩:=(Jg.out.alloc (.cells #[] 81)).ex Jh.out i hi;obtain⟨ua,un,uc,w6,r6,h6,Ym⟩:=Dl w5 va vn vc es (Zt _ (aj.refl _ _)) (Dm Yf.1);have J:=ah (Jg.out.below Ym);have Jr:=ah Ym.size;have Xr:=ah r6;have Xu:=ah h6;have Vn:=ah Yf;clear r6 h6 Ym Yf Zt;go_wp2_with(at_builtin;refine ay rfl (.tmp 93) (.tmp 98) _ rfl _ _ _ _ rfl rfl Xr.out ?_);clear Xr y2;refine(aE g a len cap (S0 g) _ _ hl Js J.out.pp.cur ⟨d_,d_⟩).mono ?_;rintro e w7 ⟨y,rfl,hy,J_⟩;have H7:=ah (J.out.dr J_);have Zn:aW w5.heap.size w7 (.slice ua un uc) es:=bE Xu.out J_.tcs Jg.out.low;obtain⟨xa,xn,xc,w8,r8,-,h8,t8⟩:=y7 Zn (t_ Jr.out J_.tcs.size) 6 (3*y) ⟨#[]⟩ (Dm Vn.out.1);have H8:=ah (H7.out.new Jh.out t8 (λk hk=>hk) Jg.out.hi);have Ua:=ah r8;have Uh:=ah h8;clear J_ Zn r8 h8 t8;obtain⟨⟨Zj,Zr,Zs,Um,y2,-,-⟩,y3,U⟩:=H8.out.ex Jh.out i hi;have HX:=ah (U _ _ _ Uh.out ⟨Jg.out.hi.2.2.2,Jg.out.hi.1,Jg.out.hi.2.2.1⟩ ((Vn.out.app (cI.one d_)).more d_));clear U;go_wp2_with(at_builtin;refine ay rfl (.tmp 99) (.tmp 104) _ rfl _ _ _ _ rfl rfl Ua.out ?_)
    go_meet
    case rel=>exact⟨_,_,_,_,_,_,⟨_,_,_,rfl⟩,⟨_,_,_,rfl⟩,HX.out.choose_spec⟩
   case inr.inr.inr.inr.inr.inr.inl=>
    go_wp2_with fail;refine(Jg.out.pick hl Jh.out [⟨#[97]⟩,⟨#[122,122]⟩,⟨#[118,49]⟩,⟨#[118,50]⟩,⟨#[102]⟩,⟨#[103]⟩] _ 6 rfl rfl d_ d_).mono ?_;rintro e w6 ⟨sx,Jj,rfl,hq⟩;have J:=ah hq;have Jo:=ah Jj;clear hq Jj;obtain⟨⟨va,vn,vc,es,y1,-,-⟩,y2,U⟩:=(J.out.alloc (.cells #[V 2,V 0,sV sx] 81)).ex Jh.out i hi;have HX:=ah (U _ _ _ (cG w6 w6.heap.size n_ 2 0 sx) ⟨J.out.hi.2.2.2,J.out.hi.1,J.out.hi.2.2.1⟩ ((cI.one Jo).more d_));clear U;go_wp2;go_meet
    case rel=>exact⟨_,_,_,_,_,_,⟨_,_,_,rfl⟩,⟨_,_,_,rfl⟩,HX.out.choose_spec⟩
   case inr.inr.inr.inr.inr.inr.inr.inl=>
    go_wp2_with fail;refine(Jg.out.pick hl Jh.out [⟨#[102]⟩,⟨#[107]⟩,⟨#[109,97,105,110]⟩,⟨#[110,105,108]⟩] _ 4 rfl rfl d_ d_).mono ?_;rintro e w6 ⟨sx,Jj,rfl,hq⟩;have J:=ah hq;have Jo:=ah Jj;clear hq Jj;obtain⟨⟨va,vn,vc,es,y1,-,-⟩,y2,U⟩:=(J.out.alloc (.cells #[V 4,V 0,sV sx] 81)).ex Jh.out i hi;have HX:=ah (U _ _ _ (cG w6 w6.heap.size n_ 4 0 sx) ⟨J.out.hi.2.2.2,J.out.hi.1,J.out.hi.2.2.1⟩ ((cI.one Jo).more d_));clear U;go_wp2;go_meet
    case rel=>exact⟨_,_,_,_,_,_,⟨_,_,_,rfl⟩,⟨_,_,_,rfl⟩,HX.out.choose_spec⟩
   case inr.inr.inr.inr.inr.inr.inr.inr.inl=>
    obtain⟨va,vn,vc,w6,r6,-,R',Ju,h6⟩:=Jg.out.rp.app Jh.out Jg.out.rlen 8 4 0 ⟨#[]⟩ ⟨#[109,97,105,110]⟩ d_ d_;have Xr:=ah r6;have J:=ah (h6.cp (Jg.out.rlen' Ju));clear r6 h6;go_wp2_with(at_builtin;refine ay rfl (.tmp 132) (.tmp 136) _ rfl _ _ _ _ rfl rfl Xr.out ?_)
    go_meet
    case rel=>exact⟨_,_,_,_,_,_,⟨_,_,_,rfl⟩,⟨_,_,_,rfl⟩,J⟩
   case inr.inr.inr.inr.inr.inr.inr.inr.inr.inl=>
    go_upto_region 26 with fail;have I:=ah ((Jg.out.pp.box 1 _ rfl).1);have Vx:(0:Int)<=(fn:Int)/\(fn:Int)<(fl:Int):=y9 Jw;refine cq 8 (λW=>W.cell? ⟨O,1,none⟩=some (rV b' fl c')) k_ ?_;refine tk 0 [1,6,7,8] I.out ?_;refine tk 1 [6,7,8] I.out ?_;refine tk 2 [6,7,8] I.out ?_;refine tk 3 [5,8] I.out ?_;have Xk:=ah (((Jg.out.drew).alloc (.cells #[sV ⟨#[109,97,105,110]⟩,sV ⟨#[103]⟩,sV ⟨#[105,110,116]⟩,sV ⟨#[102]⟩] 9)).pp.box 1 _ rfl).1;clear I;refine aB (i:=4) k_ rfl (λK hK=>?_);go_simp;refine hK.out _ _ (λ_=>Xk) ?_;clear hK K;try simp only[Act.put,tA,tB,tC]
    refine aB (i:=5) k_ rfl (λK hK=>?_);go_simp;refine((Jg.out.drew).pick hl Jh.out [⟨#[109,97,105,110]⟩,⟨#[103]⟩,⟨#[105,110,116]⟩,⟨#[102]⟩] _ 4 rfl rfl d_ d_).mono ?_;rintro e w6 ⟨sx,Jj,rfl,hq⟩;have J:=ah hq;have Jo:=ah Jj;clear hq Jj;have I:=ah ((J.out.pp.box 1 _ rfl).1);refine hK.out _ _ (λ_=>I) ?_;clear hK K Xk;try simp only[Act.put,tA,tB,tC]
    refine tk 6 [7,8] I.out ?_;refine tk 7 [8] I.out ?_;obtain⟨⟨k0,y1⟩,y2,U⟩:=J.out.fnm Jh.out fn Jw;have HX:=ah (U _ Jo);clear U I;refine aB (i:=8) k_ rfl (λK hK=>?_);go_simp;refine hK.out _ _ (λh=>absurd rfl h) ?_;clear hK K y1 y2;refine co k_ ?_ _;go_wp2;go_meet
    case rel=>exact⟨_,_,_,_,_,_,⟨_,_,_,rfl⟩,⟨_,_,_,rfl⟩,HX.out.choose_spec⟩
   case inr.inr.inr.inr.inr.inr.inr.inr.inr.inr.inl=>
    go_upto_region 28 with fail;obtain⟨⟨va,vn,vc,ps,y1,Zh,Vj⟩,-,-⟩:=Jg.out.drew.fps Jh.out fn Jw;have Xj:=ah Zh;have Yp:=ah Vj;have I:=ah (And.intro (Jg.out.drew.pp.box 1 _ rfl).1 y1);clear Zh Vj y1;have Ji:=ah Jg.out.drew;have Vx:(0:Int)<=(fn:Int)/\(fn:Int)<(fl:Int):=y9 Jw;refine cq 18 (λW=>W.cell? ⟨O,1,none⟩=some (rV b' fl c')/\W.cell? ⟨b',fn*3+1,none⟩=some (.slice va vn vc)) k_ ?_;refine tk 0 [1,16,17,18] I.out ?_;refine tk 1 [16,17,18] I.out ?_;refine tk 2 [16,17,18] I.out ?_;refine tk 4 [5,7,8,9,10,13,14,15,18] I.out ?_;refine tk 5 [7,8,9,10,13,14,15,18] I.out ?_;refine tk 6 [7,8,9,10,13,14,15,18] I.out ?_;refine tk 7 [8,9,10,13,14,15,18] I.out ?_;refine tk 8 [9,10,13,14,15,18] I.out ?_;refine tk 9 [10,13,14,15,18] I.out ?_;refine tk 11 [13,14,15,18] I.out ?_;refine mP (i:=3) (j:=12) k_ rfl rfl (λK hK=>?_) (λK hK=>?_);have Jt:=ah ((aj.refl (λk=>k=g∨w5.drew.heap.size<=k) w5.drew).alloc (.cells #[] 9));go_simp;refine hK.out _ _ (λ_=>Ji.out.keep I.out Jt) ?_;clear hK K;try simp only[Act.put,tA,tB,tC]
    refine mP (i:=10) (j:=12) k_ rfl rfl (λK hK=>?_) (λK hK=>?_);obtain⟨ua,un,uc,w7,r7,h7,t7,f7⟩:=pL (w:=w5.drew.alloc (.cells #[] 9)) (B:=w5.drew.heap.size) (e0:=w5.drew.heap.size) (World.ownsRow_lit w5.drew #[] 0 n_ d_ rfl) (fg _ _) va vn vc ps (Yp.out _ ((aj.refl _ _).alloc _)) (sU Xj.out.1);have Jn:=ah r7;have Xh:=ah (Jt.out.next t7 (λk hk=>.inl (.inr (ze hk))));have Zv:=ah ((Ji.out.alloc (.cells #[] 9)).new Jh.out t7 (λk hk=>ze hk) Ji.out.hi);have Xl:=ah h7;have Yz:=ah (t_ (fg w5.drew (.cells #[] 9)) t7.size);clear r7 h7 t7 f7;refine dW rfl (.tmp 153) (.tmp 159) 49 rfl (rV w5.drew.heap.size 0 0) (.slice va vn vc) (.slice ua un uc) w7 rfl rfl Jn.out ?_;refine hK.out _ _ (λ_=>Ji.out.keep I.out Xh) ?_;clear hK K;try simp only[Act.put,tA,tB,tC]
    refine aB (i:=12) k_ rfl (λK hK=>?_);go_simp;have Xb:=ah (Xh.out.alloc (.cells #[sV ⟨#[112,48]⟩,sV ⟨#[103]⟩,sV ⟨#[119]⟩,sV ⟨#[120]⟩] 9));have HX:=ah (Zv.out.alloc (.cells #[sV ⟨#[112,48]⟩,sV ⟨#[103]⟩,sV ⟨#[119]⟩,sV ⟨#[120]⟩] 9));have Jy:=ah (ownB Xl.out ((Below.refl w7.heap.size w7).alloc n_ (.cells #[sV ⟨#[112,48]⟩,sV ⟨#[103]⟩,sV ⟨#[119]⟩,sV ⟨#[120]⟩] 9)));have Jv:=ah (kD (S:=S0 g) (w:=w7) [⟨#[112,48]⟩,⟨#[103]⟩,⟨#[119]⟩,⟨#[120]⟩] #[sV ⟨#[112,48]⟩,sV ⟨#[103]⟩,sV ⟨#[119]⟩,sV ⟨#[120]⟩] 4 rfl rfl d_ Zv.out.low);have Za:=ah (t_ Yz.out (fg w7 (.cells #[sV ⟨#[112,48]⟩,sV ⟨#[103]⟩,sV ⟨#[119]⟩,sV ⟨#[120]⟩] 9)));refine hK.out _ _ (λ_=>Ji.out.keep I.out Xb) ?_;clear hK K;try simp only[Act.put,tA,tB,tC]
    rotate_left;have Jq:=ah (Jt.out.alloc (.cells #[sV ⟨#[112,48]⟩,sV ⟨#[103]⟩,sV ⟨#[119]⟩,sV ⟨#[120]⟩] 9));go_simp;refine hK.out _ _ (λ_=>Ji.out.keep I.out Jq) ?_;clear hK K Jt Jq;try simp only[Act.put,tA,tB,tC]
    obtain⟨ua,un,uc,w7,r7,h7,t7,f7⟩:=pL (w:=(w5.drew.alloc (.cells #[] 9)).alloc (.cells #[sV ⟨#[112,48]⟩,sV ⟨#[103]⟩,sV ⟨#[119]⟩,sV ⟨#[120]⟩] 9)) (B:=w5.drew.heap.size) (e0:=w5.drew.heap.size) (ownB (World.ownsRow_lit w5.drew #[] 0 n_ d_ rfl) (ao _ _)) (sX _ _ _) va vn vc ps (Yp.out _ (((aj.refl _ _).alloc _).alloc _)) (sU Xj.out.1);have Jn:=ah r7;have Jq:=ah (((aj.refl (λk=>k=g∨w5.drew.heap.size<=k) w5.drew).alloc (.cells #[] 9)).alloc (.cells #[sV ⟨#[112,48]⟩,sV ⟨#[103]⟩,sV ⟨#[119]⟩,sV ⟨#[120]⟩] 9));have Xb:=ah (Jq.out.next t7 (λk hk=>.inl (.inr (ze hk))));have HX:=ah ((Ji.out.alloc (.cells #[] 9)).alloc (.cells #[sV ⟨#[112,48]⟩,sV ⟨#[103]⟩,sV ⟨#[119]⟩,sV ⟨#[120]⟩] 9) |>.new Jh.out t7 (λk hk=>ze hk) Ji.out.hi);have Jy:=ah h7;have Jv:=ah (Je (g:=g) [⟨#[112,48]⟩,⟨#[103]⟩,⟨#[119]⟩,⟨#[120]⟩] #[sV ⟨#[112,48]⟩,sV ⟨#[103]⟩,sV ⟨#[119]⟩,sV ⟨#[120]⟩] rfl (Ji.out.low g rfl) t7);have Za:=ah (t_ (sX w5.drew (.cells #[] 9) (.cells #[sV ⟨#[112,48]⟩,sV ⟨#[103]⟩,sV ⟨#[119]⟩,sV ⟨#[120]⟩] 9)) t7.size);clear r7 h7 t7 f7;refine aB (i:=10) k_ rfl (λK hK=>?_);refine dW rfl (.tmp 153) (.tmp 159) 49 rfl (rV w5.drew.heap.size 0 0) (.slice va vn vc) (.slice ua un uc) w7 rfl rfl Jn.out ?_;refine hK.out _ _ (λ_=>Ji.out.keep I.out Xb) ?_;clear hK K;try simp only[Act.put,tA,tB,tC]
    rotate_left;have Jt:=ah ((aj.refl (λk=>k=g∨w5.drew.heap.size<=k) w5.drew).alloc (.cells #[sV ⟨#[112,48]⟩,sV ⟨#[103]⟩,sV ⟨#[119]⟩,sV ⟨#[120]⟩] 9));go_simp;refine hK.out _ _ (λ_=>Ji.out.keep I.out Jt) ?_;clear hK K;try simp only[Act.put,tA,tB,tC]
    refine aB (i:=3) k_ rfl (λK hK=>?_);have Jq:=ah (Jt.out.alloc (.cells #[] 9));go_simp;refine hK.out _ _ (λ_=>Ji.out.keep I.out Jq) ?_;clear hK K Jt Jq;try simp only[Act.put,tA,tB,tC]
    obtain⟨ua,un,uc,w7,r7,h7,t7,f7⟩:=pL (w:=(w5.drew.alloc (.cells #[sV ⟨#[112,48]⟩,sV ⟨#[103]⟩,sV ⟨#[119]⟩,sV ⟨#[120]⟩] 9)).alloc (.cells #[] 9)) (B:=w5.drew.heap.size) (e0:=w5.drew.heap.size+1) (Jd w5.drew (.cells #[sV ⟨#[112,48]⟩,sV ⟨#[103]⟩,sV ⟨#[119]⟩,sV ⟨#[120]⟩] 9)) (sX _ _ _) va vn vc ps (Yp.out _ (((aj.refl _ _).alloc _).alloc _)) (sU Xj.out.1);have Jn:=ah r7;have Jq:=ah (((aj.refl (λk=>k=g∨w5.drew.heap.size<=k) w5.drew).alloc (.cells #[sV ⟨#[112,48]⟩,sV ⟨#[103]⟩,sV ⟨#[119]⟩,sV ⟨#[120]⟩] 9)).alloc (.cells #[] 9));have Xb:=ah (Jq.out.next t7 (λk hk=>.inl (.inr (Dn hk))));have HX:=ah ((Ji.out.alloc (.cells #[sV ⟨#[112,48]⟩,sV ⟨#[103]⟩,sV ⟨#[119]⟩,sV ⟨#[120]⟩] 9)).alloc (.cells #[] 9) |>.new Jh.out t7 (λk hk=>Dn hk) Ji.out.hi);have Jy:=ah h7;have Jv:=ah (Jf (g:=g) [⟨#[112,48]⟩,⟨#[103]⟩,⟨#[119]⟩,⟨#[120]⟩] #[sV ⟨#[112,48]⟩,sV ⟨#[103]⟩,sV ⟨#[119]⟩,sV ⟨#[120]⟩] rfl (Ji.out.low g rfl) t7);have Za:=ah (t_ (sX w5.drew (.cells #[sV ⟨#[112,48]⟩,sV ⟨#[103]⟩,sV ⟨#[119]⟩,sV ⟨#[120]⟩] 9) (.cells #[] 9)) t7.size);clear r7 h7 t7 f7;refine aB (i:=10) k_ rfl (λK hK=>?_);refine dW rfl (.tmp 153) (.tmp 159) 49 rfl (.slice (some ⟨w5.drew.heap.size+1,0,none⟩) 0 0) (.slice va vn vc) (.slice ua un uc) w7 rfl rfl Jn.out ?_;refine hK.out _ _ (λ_=>Ji.out.keep I.out Xb) ?_;clear hK K;try simp only[Act.put,tA,tB,tC]
    all_goals
     refine aB (i:=13) k_ rfl (λK hK=>?_);go_simp;refine(ik g a len cap (S0 g) [⟨#[112,48]⟩,⟨#[103]⟩,⟨#[119]⟩,⟨#[120]⟩] _ _ hl Js HX.out.pp.cur Jv.out d_).mono ?_;rintro e w8 ⟨sx,Jj,rfl,Xm⟩;have H8:=ah (HX.out.dr Xm);have Xn:=ah (bE Jy.out Xm.tcs Ji.out.low);have Yj:=ah (Xb.out.next Xm.tcs (λk hk=>.inl (.inl hk)));have Uj:=ah (t_ Za.out Xm.tcs.size);have Jo:=ah (A_ Jj d_);clear Jj Xm;refine hK.out _ _ (λ_=>Ji.out.keep I.out Yj) ?_;clear hK K;try simp only[Act.put,tA,tB,tC]
     obtain⟨xa,xn,xc,w9,r9,h9,t9⟩:=Fz Xn.out Uj.out sx (sU Xj.out.1);have Vy:=ah r9;have Yh:=ah (Yj.out.alloc (.cells #[sV sx] 9));have Zm:=ah (Yj.out.next t9 (λk hk=>.inl (.inr hk)));have H9:=ah (H8.out.new Jh.out t9 (λk hk=>hk) Ji.out.hi);have Xg:=ah h9;clear r9 h9 t9;refine aB (i:=14) k_ rfl (λK hK=>?_);go_simp;refine hK.out _ _ (λ_=>Ji.out.keep I.out Yh) ?_;clear hK K;try simp only[Act.put,tA,tB,tC]
     refine aB (i:=15) k_ rfl (λK hK=>?_);refine dW rfl (.tmp 160) (.tmp 164) 49 rfl (.slice ua un uc) (rV w8.heap.size 1 1) (.slice xa xn xc) w9 rfl rfl Vy.out ?_;refine hK.out _ _ (λ_=>Ji.out.keep I.out Zm) ?_;clear hK K;try simp only[Act.put,tA,tB,tC]
     have Ue:=I;have I:=ah (Ji.out.keep Ue.out Zm);refine tk 16 [17,18] I.out ?_;refine tk 17 [18] I.out ?_;obtain⟨⟨Zj,Zr,Zs,Ur,y1,-,-⟩,y2,U⟩:=H9.out.fps Jh.out fn Jw;have Uf:=ah (U _ _ _ Xg.out ⟨Ji.out.hi.1,Ji.out.hi.2.2.1⟩ (FB Xj.out Jo));clear U I;refine aB (i:=18) k_ rfl (λK hK=>?_);go_simp;refine hK.out _ _ (λh=>absurd rfl h) ?_;clear hK K y1 y2;refine co k_ ?_ _;go_wp2;go_meet
     case rel=>exact⟨_,_,_,_,_,_,⟨_,_,_,rfl⟩,⟨_,_,_,rfl⟩,Uf.out.choose_spec⟩
   case inr.inr.inr.inr.inr.inr.inr.inr.inr.inr.inr.inl=>
    have Vl:=ah Jg.out.rp;have Xt:=ah Jg.out.rl;go_wp2;go_loopw[7] (λu wr=>∃va vn vc R',u=.slice va vn vc/\vn=R'.length/\R'.length<=10000/\RP g M a len cap O R4 N fl gl w wr b c b' c' t.gl Q u R') (λu _=>502-(Jc u))
    case atStart=>exact⟨_,_,_,R,rfl,Xt.out.1.symm,Xt.out.1 ▸ Xt.out.2.2,Vl⟩
    case round=>
     obtain⟨va,vn,vc,R',rfl,Xa,Ju,Vh⟩:=hrel;have H5:=ah Vh;have HV:=ah Xa;have Vt:(vn:Int)<=10000:=(by rw[Xa];exact Int.ofNat_le.2 Ju);clear Vh Xa Vl Xt;go_wp2_with fail;refine(aE g a len cap (S0 g) _ _ hl Js H5.out.pp.cur ⟨d_,d_⟩).mono ?_;rintro e w6 ⟨y,rfl,hy,Jp⟩;have J:=ah (H5.out.dr Jp);clear Jp;by_cases hlt:(vn:Int)<500+y
     ·obtain⟨xa,xn,xc,w7,r7,Xf,R7,Xc,h7⟩:=J.out.app Jh.out (Ja Ju) 7 1 0 ⟨#[]⟩ ⟨#[]⟩ d_ d_;have Jn:=ah r7;have H7:=ah h7;have HN:=ah (AZ hy.2 hlt HV.out Xf Xc);clear r7 h7 Xf Xc;go_wp2_with(at_builtin;refine ay rfl (.tmp 176) (.tmp 180) _ rfl _ _ _ _ rfl rfl Jn.out ?_)
      go_roundw
      case rel=>exact⟨_,_,_,R7,rfl,HN.out.1,HN.out.2.1,H7⟩
      case measure=>exact HN.out.2.2
     ·have HC:=ah (J.out.cp (Jb Ju));go_wp2;go_meet
      case rel=>exact⟨_,_,_,_,_,_,⟨_,_,_,rfl⟩,⟨_,_,_,rfl⟩,HC⟩
   case inr.inr.inr.inr.inr.inr.inr.inr.inr.inr.inr.inr.inl=>
    go_wp2_with fail;have Xx:=ah (cG w5 w5.heap.size n_ 1 (-5) ⟨#[]⟩);go_loopw[10] (λu wr=>∃va vn vc ns,u=.slice va vn vc/\vn=ns.length/\ns.length<=2100/\aW w5.heap.size wr u ns/\cI ns 2100/\w5.heap.size<=wr.heap.size/\QP g M a len cap O R4 N fl gl w wr b c b' c' t.gl Q bb bn Yq R) (λu _=>2100-(Jc u))
    case atStart=>exact⟨_,_,_,[⟨1,-5,⟨#[]⟩⟩],rfl,rfl,d_,Xx,(cI.one d_).more d_,fg _ _,Jg.out.alloc _⟩
    case round=>
     obtain⟨va,vn,vc,ns,rfl,Xa,Z_,hr,Ze,Vm,hq⟩:=hrel;have H5:=ah hq;have HV:=ah Xa;have Ug:=ah hr;have Zc:=ah Ze;have Vu:=ah Vm;have Vt:(vn:Int)<=2100:=(by rw[Xa];exact Int.ofNat_le.2 Z_);clear hq Xa hr Ze Vm;go_wp2_with fail;refine(aE g a len cap (S0 g) _ _ hl Js H5.out.pp.cur ⟨d_,d_⟩).mono ?_;rintro e w6 ⟨y,rfl,hy,Jp⟩;have J:=ah (H5.out.dr Jp);have Zl:aW w5.heap.size w6 (.slice va vn vc) ns:=bE Ug.out Jp.tcs Jg.out.low;have Jr:=ah (t_ Vu.out Jp.tcs.size);have Xu:=ah Zl;clear Jp Zl;by_cases hlt:(vn:Int)<1960+y
     ·obtain⟨xa,xn,xc,w7,r7,Xf,h7,t7⟩:=y7 Xu.out Jr.out 6 0 ⟨#[]⟩ (FA Z_);have Jn:=ah r7;have Vw:=ah h7;have H7:=ah (J.out.new Jh.out t7 (λk hk=>hk) Jg.out.hi);have HN:=ah (xP (k:=6) (x:=0) (s:=⟨#[]⟩) hy.2 hlt HV.out Xf Zc.out d_);have Yd:=ah (t_ Jr.out t7.size);clear r7 h7 Xf t7;go_wp2_with(at_builtin;refine ay rfl (.tmp 192) (.tmp 194) _ rfl _ _ _ _ rfl rfl Jn.out ?_)
      go_roundw
      case rel=>exact⟨_,_,_,_,rfl,HN.out.1,HN.out.2.1,Vw,HN.out.2.2.1,Yd,H7⟩
      case measure=>exact HN.out.2.2.2
     ·obtain⟨⟨Zj,Zr,Zs,Um,y2,-,-⟩,y3,U⟩:=J.out.ex Jh.out i hi;have HX:=ah (U _ _ _ Xu.out ⟨Jg.out.hi.2.2.2,Jg.out.hi.1,Jg.out.hi.2.2.1⟩ (Zc.out.more d_));clear U;go_wp2;go_meet
      case rel=>exact⟨_,_,_,_,_,_,⟨_,_,_,rfl⟩,⟨_,_,_,rfl⟩,HX.out.choose_spec⟩
   case inr.inr.inr.inr.inr.inr.inr.inr.inr.inr.inr.inr.inr=>
    go_wp2_with fail;refine(Jg.out.pick hl Jh.out [⟨#[118,49]⟩,⟨#[103]⟩,⟨#[112,48]⟩,⟨#[110,101,119]⟩] _ 4 rfl rfl d_ d_).mono ?_;rintro e w6 ⟨sx,Jj,rfl,hq⟩;have J:=ah hq;have Jo:=ah Jj;clear hq Jj;obtain⟨va,vn,vc,w7,r7,-,R',Ju,h7⟩:=J.out.rp.app Jh.out J.out.rlen 1 1 0 sx ⟨#[]⟩ Jo.out d_;have Jn:=ah r7;have H7:=ah (h7.cp (J.out.rlen' Ju));clear r7 h7;go_wp2_with(at_builtin;refine ay rfl (.tmp 203) (.tmp 210) _ rfl _ _ _ _ rfl rfl Jn.out ?_)
    go_meet
    case rel=>exact⟨_,_,_,_,_,_,⟨_,_,_,rfl⟩,⟨_,_,_,rfl⟩,H7⟩
  case rest=>
   obtain⟨Ut,bF,cF,Uq,Q1,R1,⟨xa,xn,xc,rfl⟩,⟨ya,yn,yc,rfl⟩,Vb⟩:=hcut;obtain⟨⟨c0,⟨Uu,c1⟩,Ui⟩,W6,Zq,Yo,Xo,W7,Vq,Xc,Vi,J_⟩:=AV Vb Jh.out fn Jw;have Vr:=ah Zq;have Ul:=ah Vq;have o0:=(Yo 0 _ rfl).1;have o1:=(Yo 1 _ rfl).1;have r0:=(Xo 0 _ rfl).1;have Up:=(Xo 0 _ rfl).2;have r1:=(Xo 1 _ rfl).1;have Us:=(Xo 1 _ rfl).2;have H7:=ah (And.intro (And.intro (Xc 0 _ rfl).1 (Xc 1 _ rfl).1) (And.intro Vi J_));clear Zq Vq Yo Xo Xc Vi J_ Vb Jg;go_upto_region 40 with fail;rw[<-Vr.out];clear c0 c1 Ui Vr;go_wp2_with fail;rw[<-Ul.out];refine bodyPost_ret (by simp[results,results33,go_sem,H7.out.1.1,H7.out.1.2];try rfl) rfl ?_;exact⟨_,_,rfl,H7.out.2.1,H7.out.2.2⟩
