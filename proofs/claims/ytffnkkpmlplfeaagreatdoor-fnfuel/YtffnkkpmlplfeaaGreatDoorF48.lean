import Derived.Test.YtffnkkpmlplfeaaGreatDoorF47
import Derived.Deep.CutBlock
import Derived.Test.YtffnkkpmlplfeaaGreatDoorF23
namespace Go.Proofs.YtffnkkpmlplfeaaGreatDoor
open Go.World List
open Go.Proofs.Tryz Go.RowKit
set_option linter.all false
set_option maxRecDepth 100000
set_option maxHeartbeats 0
variable[Inhabited Pick]
section
variable{fl:Nat}
def DB{k:Int}(h:0<=k/\k<14):k=0∨k=1∨k=2∨k=3∨k=4∨k=5∨k=6∨k=7∨k=8∨k=9∨k=10∨k=11∨k=12∨k=13:=by omega
def zY{f:Int}{n:Nat}(h:0<=f/\f<n):∃k:Nat,f=k/\k<n:=⟨f.toNat,o_,o_⟩
def zZ{g M:Nat}{a:Option Addr}{len cap O R4 N gl:Nat}{w W:AT}{b c b' c':Nat}{gs:List Gl}{Q:List FV}(h:PP g M a len cap O R4 N fl gl w W b c b' c' gs Q)(f:Nat)(U:f<fl):
  DO (W.alloc (.cells #[] 132)) O 1 (rV b' fl c')/\∃ba bo bn bc,DO (W.alloc (.cells #[] 132)) b' (f*3+2) (.slice (some ⟨ba,bo,none⟩) bn bc)/\∃bb cap' w',(Builtin.append_ #[95,95] 95 #[rV W.heap.size 0 0,.slice (some ⟨ba,bo,none⟩) bn bc]).run prog (W.alloc (.cells #[] 132))=.ok (rV bb bn cap') w'/\((1:Int)<=bn/\(bn:Int)<=100000)/\∃R,QP g M a len cap O R4 N fl gl w w' b c b' c' gs Q bb bn cap' R:=by
 obtain⟨ba,bo,bn,bc,-,J,bb,cap',w',r,R,I⟩:=h.copy f U 95;have Y:=I.rl;exact⟨(cell?_alloc_past _ O 1 h.lo.2.2.2.2).trans (h.box 1 _ rfl).1,ba,bo,bn,bc,J,bb,cap',w',r,o_,R,I⟩
def DC(h:1<=fl/\fl<=20):(1:Int)<=fl/\(fl:Int)<=100000:=by omega
theorem wO(g M:Nat)(a:Option Addr)(len cap:Nat)(vg vf:Value)(t:Tr)(w:World)(hl:len<=1048576)(hM:g<M/\M<=w.heap.size)(hL:Lo g a len (S0 g) w.heap.size)(hc:dS g a len cap w)(hT:TD (λk=>k<M) w vg vf t):
  Calls prog 78 #[pV g,.agg #[vg,vf]] w λe w'=>∃vg' vf',e=rW (.agg #[vg',vf'])/\(∃t',TW (λk=>k<M) w' vg' vf' t')/\Dr g a len cap (S0 g) w w':=by
 have Jq:S0 g g:=rfl;have Jc:=ah hL;have HM:=ah hM;have Y_:=ah hT;have Ye:=hT.gl;have Yu:=hT.fl;obtain⟨W0,Xd⟩:=q_ ((w.alloc (.cells #[vg,vf] 34)).alloc (.cells #[nV,nV] 34));have Ym:Bl w W0:=by rw[Xd];exact(au _ _).alloc i_ _
 have Zs:W0.heap.size=w.heap.size+2:=by rw[Xd];simp
 obtain⟨ga,gc,eg,-⟩:=kH (hT.gs w (ak.refl _ _)) o_;obtain⟨fb,foff,fc,Q,ef,-,-,Yw,Yc⟩:=hT.fs;have Yd:Q.length=t.funcs.length:=by rw[<-Yw,List.length_map]
 obtain⟨gl,Jz⟩:=q_ t.globals.length;obtain⟨fl,J_⟩:=q_ t.funcs.length;rw[Yd]at ef;rw[<-Jz]at eg Ye;rw[<-J_]at ef Yu;subst eg ef;obtain⟨P3,Zb⟩:=q_ w.heap.size;obtain⟨R4,Yk⟩:=q_ (w.heap.size+1);have Ya:=ah Xd;have Zh:=ah Zb;have Va:=ah Yk;have Vn:aK W0 P3 [.slice (some ga) gl gc,.slice (some ⟨fb,foff,none⟩) fl fc]:=by
  rw[Xd,Zb];exact(aH w _ _ i_).below (au _ _)
 have Vd:aK W0 R4 [nV,nV]:=by
  rw[Xd,Yk];have:=aH (w.alloc (.cells #[.slice (some ga) gl gc,.slice (some ⟨fb,foff,none⟩) fl fc] 34)) #[nV,nV] 34 i_;simp only[World.size_alloc]at this;exact this
 have H3:=ah Vn;have H4:=ah Vd;have X_:=ah Ym;have Yl:=ah Zs;have HQ:=ah (And.intro Yd Yw);have Yp:=ah Yc;have Ze:Hid (∀x∈Q,x.vp.oneCell'=true/\x.vb.oneCell'=true):=λx J=>by
  obtain⟨e1,e2,-⟩:=(Yc w (ak.refl _ _)).2 x J;obtain⟨_,_,e1,-⟩:=e1;exact⟨by rw[e1];rfl,e2.one⟩
 have Vb:Hid (dS g a len cap W0):=hc.below Ym;have Xw:=ah Jz;have Yx:=ah J_;clear hL hM Xd Ym Zs Vn Vd Zb Yk hc Yd Yw hT Jz J_ Yc;go_in;go_upto_region 1 with fail;rw[<-Ya.out,<-Va.out,<-Zh.out];clear Ya;obtain⟨N,hN⟩:=q_ W0.heap.size;have HN:=ah hN;have Zc:Hid (∀Y,Bl W0 Y->(∀j u,(cU t.globals)[j]? =some u->Y.cell? (ga.add j)=some u)/\(∀j u,(cq Q)[j]? =some u->Y.cell? ((⟨fb,foff,none⟩:Addr).add j)=some u)):=λY hY=>by
  have Vm:Bl w Y:=X_.out.trans (hY.mono X_.out.size);refine⟨λj u hu=>?_,λj u hu=>?_⟩
  ·obtain⟨Ur,Uo,e,h⟩:=kH (Y_.out.gs Y Vm.tcs) (by rw[<-Xw.out];omega);simp only[Value.slice.injEq,Option.some.injEq]at e;rw[e.1];exact h j u hu
  ·rw[em];exact(Yp.out Y Vm.tcs).1 j u hu
 have Xi:P3<W0.heap.size:=by have:=Yl.out;have:=Zh.out;omega
 have p0:=(H3.out 0 _ rfl).1;have p1:=(H3.out 1 _ rfl).1;clear hN;refine lN k_ (n:=10) (d:=λi=>[11,12,13,14,15,16,17,18,19,5].getD i 0) ?G
  (λi x Y=>match i with
   | 0=>∃b,x=.slice (some ⟨b,0,none⟩) 0 0/\Y.ownsRow N 63 2 x 0 []
   | 1=>x=.pointer (some ⟨P3,0,none⟩)
   | 2=>x=.slice (some ga) gl gc
   | 3=>∃b c,x=.slice (some ⟨b,0,none⟩) gl c/\Y.ownsRow N 63 2 x gl (cU t.globals)
   | 4=>∃b,x=.slice (some ⟨b,0,none⟩) 0 0/\Y.ownsRow N 97 3 x 0 []
   | 5=>x=.pointer (some ⟨P3,1,none⟩)
   | 6=>x=.slice (some ⟨fb,foff,none⟩) fl fc
   | 7=>∃b c,x=.slice (some ⟨b,0,none⟩) fl c/\Y.ownsRow N 97 3 x fl (cq Q)
   | 8=>∃b c b' c',x=.agg #[.slice (some ⟨b,0,none⟩) gl c,.slice (some ⟨b',0,none⟩) fl c']/\Y.ownsRow N 63 2 (.slice (some ⟨b,0,none⟩) gl c) gl (cU t.globals)/\Y.ownsRow N 97 3 (.slice (some ⟨b',0,none⟩) fl c') fl (cq Q)
   | _=>∃b,x=.pointer (some ⟨b,0,none⟩)/\N<=b/\Y.heap[b]? =some (.cells #[.slice none 0 0,.slice none 0 0] 34 (0,0)))
  (λi x=>[]) ?stab ?hd ?step ?fin
 case G=>
  refine⟨rfl,?_,?_,?_⟩
  ·intro i hi;rcases pI hi with rfl|rfl|rfl|rfl|rfl|rfl|rfl|rfl|rfl|rfl <;> exact⟨_,rfl,rfl,rfl,by simp[Region.binds]⟩
  ·intro i j hi hj;rcases pI hi with rfl|rfl|rfl|rfl|rfl|rfl|rfl|rfl|rfl|rfl <;> rcases pI hj with rfl|rfl|rfl|rfl|rfl|rfl|rfl|rfl|rfl|rfl <;> simp
  ·refine⟨_,rfl,rfl,?_,i_⟩;intro i hi;rcases pI hi with rfl|rfl|rfl|rfl|rfl|rfl|rfl|rfl|rfl|rfl <;> simp[Region.binds]
 case stab=>
  intro i x Y Y' hR hO hB;by_cases hi:i<10
  ·rcases pI hi with rfl|rfl|rfl|rfl|rfl|rfl|rfl|rfl|rfl|rfl
   ·obtain⟨b,e,h⟩:=hR;exact⟨b,e,ownB h hB⟩
   ·exact hR
   ·exact hR
   ·obtain⟨b,c,e,h⟩:=hR;exact⟨b,c,e,ownB h hB⟩
   ·obtain⟨b,e,h⟩:=hR;exact⟨b,e,ownB h hB⟩
   ·exact hR
   ·exact hR
   ·obtain⟨b,c,e,h⟩:=hR;exact⟨b,c,e,ownB h hB⟩
   ·obtain⟨b,c,b',c',e,h,h'⟩:=hR;exact⟨b,c,b',c',e,ownB h hB,ownB h' hB⟩
   ·obtain⟨b,e,h1,h⟩:=hR;exact⟨b,e,h1,(hB.block _ (Array.getElem?_eq_some_iff.1 h).1).trans h⟩
  ·obtain⟨k,rfl⟩:∃k,i=k+10:=⟨i-10,o_⟩;obtain⟨b,e,h1,h⟩:=hR;exact⟨b,e,h1,(hB.block _ (Array.getElem?_eq_some_iff.1 h).1).trans h⟩
 case hd=>
  intro i hi;rcases pI hi with rfl|rfl|rfl|rfl|rfl|rfl|rfl|rfl|rfl|rfl <;> simp
 case step=>
  intro i o hi ho x Y Yt Yi Xs hB Jf Vw Up;have t3:=Xs 3 (by intro j hj;rcases pI hj with rfl|rfl|rfl|rfl|rfl|rfl|rfl|rfl|rfl|rfl <;> decide);simp at t3;have c0:=(hB.cell (p:=⟨P3,0,none⟩) Xi).trans p0;have c1:=(hB.cell (p:=⟨P3,1,none⟩) Xi).trans p1;have Xe:N<=Y.heap.size:=by rw[HN.out];exact hB.size
  obtain⟨i1,q1,q2,q3,q4⟩:=info_parts ow;obtain⟨i2,r1,r2,r3,r4⟩:=info_parts nO;rcases pI hi with rfl|rfl|rfl|rfl|rfl|rfl|rfl|rfl|rfl|rfl
  ·simp at ho;subst ho;simp[Oper.wp,execOp,Oper.upon,Act.eval,go_sem];refine⟨_,rfl,?_,r_.alloc n_ _⟩;have Je:(Y.alloc (.cells #[] 63)).ownsRow N 63 2 (rV Y.heap.size 0 0) 0 []:=World.ownsRow_lit Y #[] 0 Xe d_ rfl;first|exact Je|exact⟨⟨_,rfl⟩,Je⟩|exact⟨i_,Je⟩|exact⟨_,rfl,Je⟩
  ·simp at ho;subst ho;simp[Oper.wp,execOp,Oper.upon,Act.eval,t3,go_sem];exact⟨_,rfl,rfl,r_⟩
  ·simp at ho;subst ho;have e1:x.tmps[12]?.getD undef=pV P3:=by have:=Jf ⟨1,.data⟩ i_;simpa[Act.eval]using this
   simp[Oper.wp,execOp,Oper.upon,e1,c0,go_sem];exact⟨_,rfl,rfl,r_⟩
  ·simp at ho;subst ho;obtain⟨b,e0,o0⟩:=Jf ⟨0,.data⟩ i_;have Vq:x.tmps[11]?.getD undef=rV b 0 0:=by simpa[Act.eval]using e0
   have e1:x.tmps[13]?.getD undef=.slice (some ga) gl gc:=by have:=Jf ⟨2,.data⟩ i_;simpa[Act.eval]using this
   rw[e0]at o0;obtain⟨cp,w',hr,Yf,Yn⟩:=pH (P:=prog) (w:=Y) N 31 31 63 i1 _ 2 24 underlying31 q1 q2 q3 q4 rfl d_ b o0 ga gl gc (cU t.globals) (by rw[iY,Xw.out]) (Zc.out Y hB).1 (λu hu=>by
    simp only[cU,List.mem_flatMap]at hu;obtain⟨y,-,hu⟩:=hu;simp only[wI,List.mem_cons,List.not_mem_nil,or_false]at hu;rcases hu with rfl|rfl <;> rfl) o_ o_ d_ Xe
   unfold Oper.wp execOp;have Yg:x.eval (.tmp 11)=rV b 0 0:=e0;have Yv:x.eval (.tmp 13)=.slice (some ga) gl gc:=Jf ⟨2,.data⟩ i_;simp only[resolve,invoke,builtin,Sem.run_bind,Sem.run_pure,Result.andThen_ok,List.map_toArray,List.map_cons,List.map_nil,Yg,Yv,hr];exact⟨_,rfl,⟨_,cp,rfl,Yf⟩,Yn,λg hg=>by cases hg⟩
  ·simp at ho;subst ho;simp[Oper.wp,execOp,Oper.upon,Act.eval,go_sem];refine⟨_,rfl,?_,r_.alloc n_ _⟩;have Je:(Y.alloc (.cells #[] 97)).ownsRow N 97 3 (rV Y.heap.size 0 0) 0 []:=World.ownsRow_lit Y #[] 0 Xe d_ rfl;first|exact Je|exact⟨⟨_,rfl⟩,Je⟩|exact⟨i_,Je⟩|exact⟨_,rfl,Je⟩
  ·simp at ho;subst ho;simp[Oper.wp,execOp,Oper.upon,Act.eval,t3,go_sem];exact⟨_,rfl,rfl,r_⟩
  ·simp at ho;subst ho;have e1:x.tmps[16]?.getD undef=.pointer (some ⟨P3,1,none⟩):=by have:=Jf ⟨5,.data⟩ i_;simpa[Act.eval]using this
   simp[Oper.wp,execOp,Oper.upon,e1,c1,go_sem];exact⟨_,rfl,rfl,r_⟩
  ·simp at ho;subst ho;obtain⟨b,e0,o0⟩:=Jf ⟨4,.data⟩ i_;have Yg:x.eval (.tmp 15)=rV b 0 0:=e0;have Yv:x.eval (.tmp 17)=.slice (some ⟨fb,foff,none⟩) fl fc:=Jf ⟨6,.data⟩ i_;rw[e0]at o0;obtain⟨cp,w',hr,Yf,Yn⟩:=pH (P:=prog) (w:=Y) N 32 32 97 i2 _ 3 64 underlying32 r1 r2 r3 r4 rfl d_ b o0 ⟨fb,foff,none⟩ fl fc (cq Q) (by rw[gz,HQ.out.1,Yx.out]) (Zc.out Y hB).2 (λu hu=>by
    simp only[cq,List.mem_flatMap]at hu;obtain⟨y,hy,hu⟩:=hu;obtain⟨e1,e2⟩:=Ze.out y hy;simp only[cd,List.mem_cons,List.not_mem_nil,or_false]at hu;rcases hu with rfl|rfl|rfl
    ·rfl
    ·exact e1
    ·exact e2) o_ o_ d_ Xe
   unfold Oper.wp execOp;simp only[resolve,invoke,builtin,Sem.run_bind,Sem.run_pure,Result.andThen_ok,List.map_toArray,List.map_cons,List.map_nil,Yg,Yv,hr];exact⟨_,rfl,⟨_,cp,rfl,Yf⟩,Yn,λg hg=>by cases hg⟩
  ·simp at ho;subst ho;obtain⟨b,c,e0,o0⟩:=Jf ⟨3,.data⟩ i_;obtain⟨b',c',e1,o1⟩:=Jf ⟨7,.data⟩ i_;have Vq:x.tmps[14]?.getD undef=rV b gl c:=by simpa[Act.eval]using e0
   have Ui:x.tmps[18]?.getD undef=rV b' fl c':=by simpa[Act.eval]using e1
   rw[e0]at o0;rw[e1]at o1;simp[Oper.wp,execOp,Oper.upon,Vq,Ui,go_sem];exact⟨_,rfl,⟨b,c,b',c',rfl,o0,o1⟩,r_⟩
  ·simp at ho;subst ho;simp[Oper.wp,execOp,Oper.upon,Act.eval,go_sem];refine⟨_,rfl,?_,r_.alloc n_ _⟩;have hh:(Y.alloc (.cells #[nV,nV] 34)).heap[Y.heap.size]? =some (.cells #[nV,nV] 34 (0,0)):=(MapKept.heap_alloc Y _).1;first|exact⟨Xe,hh⟩|exact⟨_,rfl,Xe,hh⟩
 case fin=>
  intro o ho x Y hG;obtain⟨Yt,Yi,Xs,hB,hrel,-,-⟩:=hG;simp at ho;subst ho;obtain⟨b,c,b',c',e8,og,Ve⟩:=hrel 8 o_ trivial;obtain⟨O,e9,Zz,hO⟩:=hrel 9 o_ trivial;obtain⟨b0,e0,-⟩:=hrel 0 o_ trivial;have e1:=hrel 1 o_ trivial;have e2:=hrel 2 o_ trivial;obtain⟨b3,c3,e3,-⟩:=hrel 3 o_ trivial;obtain⟨b4,e4,-⟩:=hrel 4 o_ trivial;have e5:=hrel 5 o_ trivial;have e6:=hrel 6 o_ trivial;obtain⟨b7,c7,e7,-⟩:=hrel 7 o_ trivial;have E0:x.eval (.tmp 11)=_:=e0;have E1:x.eval (.tmp 12)=pV P3:=e1;have E2:x.eval (.tmp 13)=.slice (some ga) gl gc:=e2;have E3:x.eval (.tmp 14)=_:=e3;have E4:x.eval (.tmp 15)=_:=e4;have E5:x.eval (.tmp 16)=.pointer (some ⟨P3,1,none⟩):=e5;have E6:x.eval (.tmp 17)=.slice (some ⟨fb,foff,none⟩) fl fc:=e6;have E7:x.eval (.tmp 18)=_:=e7;have E8:x.eval (.tmp 19)=_:=e8;have E9:x.eval (.tmp 5)=_:=e9;have J:=zU [11,12,13,14,15,16,17,18,19,5] Yt Yi i_ (λt ht=>Xs t (λj hj e=>ht (by rcases pI hj with rfl|rfl|rfl|rfl|rfl|rfl|rfl|rfl|rfl|rfl <;> (rw[<-e];simp))));simp only[List.foldl_cons,List.foldl_nil,E0,E1,E2,E3,E4,E5,E6,E7,E8,E9]at J;clear E0 E1 E2 E3 E4 E5 E6 E7 E8 E9 e0 e1 e2 e3 e4 e5 e6 e7 e8 e9 hrel Xs Yi Yt;have Vt:= BF (g:=g) (M:=M) (a:=a) (len:=len) (cap:=cap) (O:=O) (R4:=R4) (N:=N) (fl:=fl) (gl:=gl) (w:=w) (W0:=W0) (Y:=Y) (b:=b) (c:=c) (b':=b') (c':=c') (fb:=fb) (foff:=foff) (vg:=.slice (some ga) gl gc) (vf:=.slice (some ⟨fb,foff,none⟩) fl fc) (t:=t) (Q:=Q) hB og Ve Zz hO HN.out Va.out Yl.out X_.out Jc.out H4.out Vb.out Y_.out HQ.out HM.out Yp.out Ye Yu Xw.out Yx;obtain⟨fO,W1,Zu,Zl⟩:=Vt;subst J;have k0:=(fO 0 _ rfl).1;have Zw:=(fO 0 _ rfl).2;have k1:=(fO 1 _ rfl).1;have Zx:=(fO 1 _ rfl).2;have Xr:=ah Zl;have Zo:=ah Zu;clear Zl Zu;clear Yp Y_ H3 H4 Xw Yx HQ Ze Zc;simp[Oper.wp,execOp,Oper.upon,Act.eval,Act.put,k0,Zw,k1,Zx,go_sem];rw[<-Zo.out];have q1:=(Xr.out.box 1 _ rfl).1;clear Zo k0 Zw k1 Zx fO hO Zz og Ve hB;have Yb:=DC Yu;go_wp2_with fail;refine(aE g a len cap (S0 g) _ _ hl Jq Xr.out.cur Yb).mono ?_;rintro e w2 ⟨f,rfl,hf,Zk⟩;obtain⟨fn,rfl,Ju⟩:=zY hf;obtain⟨q2,ba,bo,bn,bc,q3,bb,Ys,w3,r3,Ue,R,Vc⟩:=zZ (Xr.out.dr Zk) fn Ju;have Zv:=ah r3;have Yz:=ah Vc;clear r3 Vc q1 Zk Xr;go_wp2_with(at_builtin;refine aC rfl (.tmp 25) (.tmp 31) _ rfl _ _ _ _ rfl rfl Zv.out ?_);refine(aE g a len cap (S0 g) _ _ hl Jq Yz.out.pp.cur ⟨d_,d_⟩).mono ?_;rintro e w4 ⟨kk,rfl,Vz,Zp⟩;have Yy:=ah (Yz.out.dr Zp);clear Zp Yz;go_wp2_with fail;refine(aE g a len cap (S0 g) _ _ hl Jq Yy.out.pp.cur Ue).mono ?_;rintro e w5 ⟨ii,rfl,Vx,Zg⟩;have Z:=ah (Yy.out.dr Zg);clear Zg Yy;obtain⟨i,rfl,hi⟩:=zY Vx;clear Zv q2 q3 Vb X_ Yl HN;go_upto_block 0 with fail
  go_cut [7,10]from 39 to 400 (λvb ev W=>∃vg bF cF gs Q' R',(∃xa xn xc,vb=.slice xa xn xc)/\(∃ya yn yc,vg=.slice ya yn yc)/\CP g M a len cap O R4 N fl w W vb vg bF cF gs Q' R')
  case first=>
   rcases DB Vz with rfl|rfl|rfl|rfl|rfl|rfl|rfl|rfl|rfl|rfl|rfl|rfl|rfl|rfl
   case inl=>
    go_upto_region 8 with fail;have I:=ah ((Z.out.pp.box 0 _ rfl).1);refine aM 9 (λW=>W.cell? ⟨O,0,none⟩=some (rV b gl c)) k_ ?_;refine tk 0 [1,7,9] I.out ?_;refine tk 1 [7,9] I.out ?_;refine tk 2 [4,5,6,7,9] I.out ?_;have Xj:=ah (((Z.out.drew).alloc (.cells #[sV ⟨#[103]⟩,sV ⟨#[109,97,105,110]⟩,sV ⟨#[112,48]⟩,sV ⟨#[105,102]⟩,sV ⟨#[118,49]⟩] 9)).pp.box 0 _ rfl).1;clear I;refine aq (i:=3) k_ rfl (λK hK=>?_);go_simp;refine hK.out _ _ (λ_=>Xj) ?_;clear hK K;try simp only[Act.put,tA,tB,tC]
    refine aq (i:=4) k_ rfl (λK hK=>?_);go_simp;refine((Z.out.drew).pick hl Jc.out [⟨#[103]⟩,⟨#[109,97,105,110]⟩,⟨#[112,48]⟩,⟨#[105,102]⟩,⟨#[118,49]⟩] _ 5 rfl rfl d_ d_).mono ?_;rintro e w6 ⟨sx,Jd,rfl,hq⟩;have H6:=ah hq;have Jh:=ah Jd;clear hq Jd;have I:=ah ((H6.out.pp.box 0 _ rfl).1);refine hK.out _ _ (λ_=>I) ?_;clear hK K Xj;try simp only[Act.put,tA,tB,tC]
    refine tk 5 [6,7,9] I.out ?_;obtain⟨q1,ya,yn,yc,w7,r7,q2,Uq,Vi⟩:=H6.out.gapp Jc.out sx Jh;have V_:=ah q1;have Jk:=ah r7;have Xz:=ah q2;have Uh:=ah Vi;clear q1 r7 q2 Vi I;refine aq (i:=6) k_ rfl (λK hK=>?_);go_simp;refine hK.out _ _ (λ_=>V_) ?_;clear hK K;try simp only[Act.put,tA,tB,tC]
    refine aq (i:=7) k_ rfl (λK hK=>?_);refine cJ rfl (.tmp 43) (.tmp 48) 31 rfl (rV b gl c) (rV w6.heap.size 1 1) (.slice ya yn yc) w7 rfl rfl Jk.out ?_;refine hK.out _ _ (λ_=>Xz.out.1) ?_;clear hK K;try simp only[Act.put,tA,tB,tC]
    have I:=ah Xz.out.1;refine tk 8 [9] I.out ?_;clear I;have y1:=Xz.out.1;have y2:=Xz.out.2;refine aq (i:=9) k_ rfl (λK hK=>?_);go_simp;refine hK.out _ _ (λh=>absurd rfl h) ?_;clear hK K y1 y2;refine aJ k_ ?_ _;go_wp2;go_meet
    case rel=>exact⟨_,_,_,_,_,_,⟨_,_,_,rfl⟩,⟨_,_,_,rfl⟩,Uh⟩
   case inr.inl=>
    go_upto_region 10 with fail;have I:=ah ((Z.out.pp.box 0 _ rfl).1);have Ua:0<gl:=Ye.1;refine aM 7 (λW=>W.cell? ⟨O,0,none⟩=some (rV b gl c)) k_ ?_;refine tk 0 [1,5,6,7] I.out ?_;refine tk 1 [5,6,7] I.out ?_;refine tk 2 [3,7] I.out ?_;clear I;refine aq (i:=3) k_ rfl (λK hK=>?_);go_simp;refine(aE g a len cap (S0 g) _ _ hl Jq Z.out.drew.pp.cur ⟨d_,d_⟩).mono ?_;rintro e w6 ⟨y,rfl,hy,Jl⟩;have H6:=ah (Z.out.drew.dr Jl);clear Jl;have I:=ah ((H6.out.pp.box 0 _ rfl).1);refine hK.out _ _ (λ_=>I) ?_;clear hK K;try simp only[Act.put,tA,tB,tC]
    refine tk 4 [7] I.out ?_;refine tk 5 [6,7] I.out ?_;refine tk 6 [7] I.out ?_;obtain⟨⟨k0,y1⟩,y2,J⟩:=H6.out.gput Jc;have HX:=ah J;clear J I;refine aq (i:=7) k_ rfl (λK hK=>?_);go_simp;refine hK.out _ _ (λh=>absurd rfl h) ?_;clear hK K y1 y2;refine aJ k_ ?_ _;go_wp2;go_meet
    case rel=>exact⟨_,_,_,_,_,_,⟨_,_,_,rfl⟩,⟨_,_,_,rfl⟩,(HX.out _).choose_spec⟩
   case inr.inr.inl=>
    go_wp2_with fail;refine(aE g a len cap (S0 g) _ _ hl Jq Z.out.pp.cur ⟨d_,d_⟩).mono ?_;rintro e w6 ⟨y,rfl,hy,Jl⟩;have H6:=ah (Z.out.dr Jl);clear Jl;obtain⟨⟨k0,y1⟩,y2,J⟩:=H6.out.kind Jc.out i hi;have HX:=ah J;clear J;go_wp2;go_meet
    case rel=>exact⟨_,_,_,_,_,_,⟨_,_,_,rfl⟩,⟨_,_,_,rfl⟩,(HX.out _).choose_spec⟩
   case inr.inr.inr.inl=>
    go_wp2_with fail;refine(Z.out.pick hl Jc.out [⟨#[97]⟩,⟨#[103]⟩,⟨#[122,122]⟩,⟨#[118,49]⟩,⟨#[]⟩,⟨#[102]⟩] _ 6 rfl rfl d_ d_).mono ?_;rintro e w6 ⟨sx,Jd,rfl,hq⟩;have H6:=ah hq;have Jh:=ah Jd;clear hq Jd;obtain⟨⟨k0,y1⟩,y2,J⟩:=H6.out.nm Jc.out i hi;have HX:=ah (J _ Jh);clear J;go_wp2;go_meet
    case rel=>exact⟨_,_,_,_,_,_,⟨_,_,_,rfl⟩,⟨_,_,_,rfl⟩,HX.out.choose_spec⟩
   case inr.inr.inr.inr.inl=>
    obtain⟨⟨k0,y1⟩,y2,J⟩:=Z.out.thn Jc.out i hi;have HX:=ah J;clear J;go_wp2;go_meet
    case rel=>exact⟨_,_,_,_,_,_,⟨_,_,_,rfl⟩,⟨_,_,_,rfl⟩,(HX.out _).choose_spec⟩
   case inr.inr.inr.inr.inr.inl=>
    obtain⟨⟨va,vn,vc,es,y2,Yj,Zr⟩,-,-⟩:=(Z.out.alloc (.cells #[] 134)).ex Jc.out i hi;obtain⟨ua,un,uc,w6,r6,h6,Yo⟩:=zV w5 va vn vc es (Zr _ (ak.refl _ _)) (zW Yj.1);have H6:=ah (Z.out.below Yo);have Js:=ah Yo.size;have Xv:=ah r6;have Xy:=ah h6;have Vl:=ah Yj;clear r6 h6 Yo Yj Zr;go_wp2_with(at_builtin;refine aC rfl (.tmp 93) (.tmp 98) _ rfl _ _ _ _ rfl rfl Xv.out ?_);clear Xv y2;refine(aE g a len cap (S0 g) _ _ hl Jq H6.out.pp.cur ⟨d_,d_⟩).mono ?_;rintro e w7 ⟨y,rfl,hy,Xa⟩;have H7:=ah (H6.out.dr Xa);have Zn:aV w5.heap.size w7 (.slice ua un uc) es:=aN Xy.out Xa.tcs Z.out.low;obtain⟨xa,xn,xc,w8,r8,-,h8,t8⟩:=uw Zn (t_ Js.out Xa.tcs.size) 6 (3*y) ⟨#[]⟩ (zW Vl.out.1);have H8:=ah (H7.out.new Jc.out t8 (λk hk=>hk) Z.out.hi);have Vy:=ah r8;have Uc:=ah h8;clear Xa Zn r8 h8 t8;obtain⟨⟨Xq,Xt,Xu,Ug,y2,-,-⟩,y3,J⟩:=H8.out.ex Jc.out i hi;have HX:=ah (J _ _ _ Uc.out ⟨Z.out.hi.2.2.2,Z.out.hi.1,Z.out.hi.2.2.1⟩ ((Vl.out.app (bV.one d_)).more d_));clear J;go_wp2_with(at_builtin;refine aC rfl (.tmp 99) (.tmp 104) _ rfl _ _ _ _ rfl rfl Vy.out ?_)
    go_meet
    case rel=>exact⟨_,_,_,_,_,_,⟨_,_,_,rfl⟩,⟨_,_,_,rfl⟩,HX.out.choose_spec⟩
   case inr.inr.inr.inr.inr.inr.inl=>
    go_wp2_with fail;refine(Z.out.pick hl Jc.out [⟨#[97]⟩,⟨#[122,122]⟩,⟨#[118,49]⟩,⟨#[118,50]⟩,⟨#[102]⟩,⟨#[103]⟩] _ 6 rfl rfl d_ d_).mono ?_;rintro e w6 ⟨sx,Jd,rfl,hq⟩;have H6:=ah hq;have Jh:=ah Jd;clear hq Jd;obtain⟨⟨va,vn,vc,es,y1,-,-⟩,y2,J⟩:=(H6.out.alloc (.cells #[V 2,V 0,sV sx] 134)).ex Jc.out i hi;have HX:=ah (J _ _ _ (ct w6 w6.heap.size n_ 2 0 sx) ⟨H6.out.hi.2.2.2,H6.out.hi.1,H6.out.hi.2.2.1⟩ ((bV.one Jh).more d_));clear J;go_wp2;go_meet
    case rel=>exact⟨_,_,_,_,_,_,⟨_,_,_,rfl⟩,⟨_,_,_,rfl⟩,HX.out.choose_spec⟩
   case inr.inr.inr.inr.inr.inr.inr.inl=>
    go_wp2_with fail;refine(Z.out.pick hl Jc.out [⟨#[102]⟩,⟨#[107]⟩,⟨#[109,97,105,110]⟩,⟨#[110,105,108]⟩] _ 4 rfl rfl d_ d_).mono ?_;rintro e w6 ⟨sx,Jd,rfl,hq⟩;have H6:=ah hq;have Jh:=ah Jd;clear hq Jd;obtain⟨⟨va,vn,vc,es,y1,-,-⟩,y2,J⟩:=(H6.out.alloc (.cells #[V 4,V 0,sV sx] 134)).ex Jc.out i hi;have HX:=ah (J _ _ _ (ct w6 w6.heap.size n_ 4 0 sx) ⟨H6.out.hi.2.2.2,H6.out.hi.1,H6.out.hi.2.2.1⟩ ((bV.one Jh).more d_));clear J;go_wp2;go_meet
    case rel=>exact⟨_,_,_,_,_,_,⟨_,_,_,rfl⟩,⟨_,_,_,rfl⟩,HX.out.choose_spec⟩
   case inr.inr.inr.inr.inr.inr.inr.inr.inl=>
    obtain⟨va,vn,vc,w6,r6,-,R',Jy,h6⟩:=Z.out.rp.app Jc.out Z.out.rlen 8 4 0 ⟨#[]⟩ ⟨#[109,97,105,110]⟩ d_ d_;have Xv:=ah r6;have H6:=ah (h6.cp (Z.out.rlen' Jy));clear r6 h6;go_wp2_with(at_builtin;refine aC rfl (.tmp 132) (.tmp 136) _ rfl _ _ _ _ rfl rfl Xv.out ?_)
    go_meet
    case rel=>exact⟨_,_,_,_,_,_,⟨_,_,_,rfl⟩,⟨_,_,_,rfl⟩,H6⟩
   case inr.inr.inr.inr.inr.inr.inr.inr.inr.inl=>
    go_upto_region 26 with fail;have I:=ah ((Z.out.pp.box 1 _ rfl).1);have Vv:(0:Int)<=(fn:Int)/\(fn:Int)<(fl:Int):=ux Ju;refine aM 8 (λW=>W.cell? ⟨O,1,none⟩=some (rV b' fl c')) k_ ?_;refine tk 0 [1,6,7,8] I.out ?_;refine tk 1 [6,7,8] I.out ?_;refine tk 2 [6,7,8] I.out ?_;refine tk 3 [5,8] I.out ?_;have Xj:=ah (((Z.out.drew).alloc (.cells #[sV ⟨#[109,97,105,110]⟩,sV ⟨#[103]⟩,sV ⟨#[105,110,116]⟩,sV ⟨#[102]⟩] 9)).pp.box 1 _ rfl).1;clear I;refine aq (i:=4) k_ rfl (λK hK=>?_);go_simp;refine hK.out _ _ (λ_=>Xj) ?_;clear hK K;try simp only[Act.put,tA,tB,tC]
    refine aq (i:=5) k_ rfl (λK hK=>?_);go_simp;refine((Z.out.drew).pick hl Jc.out [⟨#[109,97,105,110]⟩,⟨#[103]⟩,⟨#[105,110,116]⟩,⟨#[102]⟩] _ 4 rfl rfl d_ d_).mono ?_;rintro e w6 ⟨sx,Jd,rfl,hq⟩;have H6:=ah hq;have Jh:=ah Jd;clear hq Jd;have I:=ah ((H6.out.pp.box 1 _ rfl).1);refine hK.out _ _ (λ_=>I) ?_;clear hK K Xj;try simp only[Act.put,tA,tB,tC]
    refine tk 6 [7,8] I.out ?_;refine tk 7 [8] I.out ?_;obtain⟨⟨k0,y1⟩,y2,J⟩:=H6.out.fnm Jc.out fn Ju;have HX:=ah (J _ Jh);clear J I;refine aq (i:=8) k_ rfl (λK hK=>?_);go_simp;refine hK.out _ _ (λh=>absurd rfl h) ?_;clear hK K y1 y2;refine aJ k_ ?_ _;go_wp2;go_meet
    case rel=>exact⟨_,_,_,_,_,_,⟨_,_,_,rfl⟩,⟨_,_,_,rfl⟩,HX.out.choose_spec⟩
   case inr.inr.inr.inr.inr.inr.inr.inr.inr.inr.inl=>
    go_upto_region 28 with fail;obtain⟨⟨va,vn,vc,ps,y1,Zj,Vh⟩,-,-⟩:=Z.out.drew.fps Jc.out fn Ju;have Jt:=ah Zj;have Yr:=ah Vh;have I:=ah (And.intro (Z.out.drew.pp.box 1 _ rfl).1 y1);clear Zj Vh y1;have U:=ah Z.out.drew;have Vv:(0:Int)<=(fn:Int)/\(fn:Int)<(fl:Int):=ux Ju;refine aM 18 (λW=>W.cell? ⟨O,1,none⟩=some (rV b' fl c')/\W.cell? ⟨b',fn*3+1,none⟩=some (.slice va vn vc)) k_ ?_;refine tk 0 [1,16,17,18] I.out ?_;refine tk 1 [16,17,18] I.out ?_;refine tk 2 [16,17,18] I.out ?_;refine tk 4 [5,7,8,9,10,13,14,15,18] I.out ?_;refine tk 5 [7,8,9,10,13,14,15,18] I.out ?_;refine tk 6 [7,8,9,10,13,14,15,18] I.out ?_;refine tk 7 [8,9,10,13,14,15,18] I.out ?_;refine tk 8 [9,10,13,14,15,18] I.out ?_;refine tk 9 [10,13,14,15,18] I.out ?_;refine tk 11 [13,14,15,18] I.out ?_;refine kK (i:=3) (j:=12) k_ rfl rfl (λK hK=>?_) (λK hK=>?_)
    ·have Jx:=ah ((ak.refl (λk=>k=g∨w5.drew.heap.size<=k) w5.drew).alloc (.cells #[] 9));go_simp;refine hK.out _ _ (λ_=>U.out.keep I.out Jx) ?_;clear hK K;try simp only[Act.put,tA,tB,tC]
     refine kK (i:=10) (j:=12) k_ rfl rfl (λK hK=>?_) (λK hK=>?_)
     ·obtain⟨ua,un,uc,w7,r7,h7,t7,f7⟩:=mB (w:=w5.drew.alloc (.cells #[] 9)) (B:=w5.drew.heap.size) (e0:=w5.drew.heap.size) (World.ownsRow_lit w5.drew #[] 0 n_ d_ rfl) (dX _ _) va vn vc ps (Yr.out _ ((ak.refl _ _).alloc _)) (ks Jt.out.1);have Jk:=ah r7;have Xh:=ah (Jx.out.next t7 (λk hk=>.inl (.inr (uy hk))));have Zt:=ah ((U.out.alloc (.cells #[] 9)).new Jc.out t7 (λk hk=>uy hk) U.out.hi);have Xl:=ah h7;have Za:=ah (t_ (dX w5.drew (.cells #[] 9)) t7.size);clear r7 h7 t7 f7;refine cJ rfl (.tmp 153) (.tmp 159) 94 rfl (rV w5.drew.heap.size 0 0) (.slice va vn vc) (.slice ua un uc) w7 rfl rfl Jk.out ?_;refine hK.out _ _ (λ_=>U.out.keep I.out Xh) ?_;clear hK K;try simp only[Act.put,tA,tB,tC]
      refine aq (i:=12) k_ rfl (λK hK=>?_);go_simp;have Jw:=ah (Xh.out.alloc (.cells #[sV ⟨#[112,48]⟩,sV ⟨#[103]⟩,sV ⟨#[119]⟩,sV ⟨#[120]⟩] 9));have HX:=ah (Zt.out.alloc (.cells #[sV ⟨#[112,48]⟩,sV ⟨#[103]⟩,sV ⟨#[119]⟩,sV ⟨#[120]⟩] 9));have Jp:=ah (ownB Xl.out ((Below.refl w7.heap.size w7).alloc n_ (.cells #[sV ⟨#[112,48]⟩,sV ⟨#[103]⟩,sV ⟨#[119]⟩,sV ⟨#[120]⟩] 9)));have Jo:=ah (jj (S:=S0 g) (w:=w7) [⟨#[112,48]⟩,⟨#[103]⟩,⟨#[119]⟩,⟨#[120]⟩] #[sV ⟨#[112,48]⟩,sV ⟨#[103]⟩,sV ⟨#[119]⟩,sV ⟨#[120]⟩] 4 rfl rfl d_ Zt.out.low);have Xp:=ah (t_ Za.out (dX w7 (.cells #[sV ⟨#[112,48]⟩,sV ⟨#[103]⟩,sV ⟨#[119]⟩,sV ⟨#[120]⟩] 9)));refine hK.out _ _ (λ_=>U.out.keep I.out Jw) ?_;clear hK K;try simp only[Act.put,tA,tB,tC]
      refine aq (i:=13) k_ rfl (λK hK=>?_);go_simp;refine(eP g a len cap (S0 g) [⟨#[112,48]⟩,⟨#[103]⟩,⟨#[119]⟩,⟨#[120]⟩] _ _ hl Jq HX.out.pp.cur Jo.out d_).mono ?_;rintro e w8 ⟨sx,Jd,rfl,Ji⟩;have H8:=ah (HX.out.dr Ji);have Jj:=ah (aN Jp.out Ji.tcs U.out.low);have Jn:=ah (Jw.out.next Ji.tcs (λk hk=>.inl (.inl hk)));have Xn:=ah (t_ Xp.out Ji.tcs.size);have Jh:=ah (kr Jd d_);clear Jd Ji;refine hK.out _ _ (λ_=>U.out.keep I.out Jn) ?_;clear hK K;try simp only[Act.put,tA,tB,tC]
      obtain⟨xa,xn,xc,w9,r9,h9,t9⟩:=pJ Jj.out Xn.out sx (ks Jt.out.1);have Xg:=ah r9;have Jm:=ah (Jn.out.alloc (.cells #[sV sx] 9));have Jv:=ah (Jn.out.next t9 (λk hk=>.inl (.inr hk)));have H9:=ah (H8.out.new Jc.out t9 (λk hk=>hk) U.out.hi);have Jg:=ah h9;clear r9 h9 t9;refine aq (i:=14) k_ rfl (λK hK=>?_);go_simp;refine hK.out _ _ (λ_=>U.out.keep I.out Jm) ?_;clear hK K;try simp only[Act.put,tA,tB,tC]
      refine aq (i:=15) k_ rfl (λK hK=>?_);refine cJ rfl (.tmp 160) (.tmp 164) 94 rfl (.slice ua un uc) (rV w8.heap.size 1 1) (.slice xa xn xc) w9 rfl rfl Xg.out ?_;refine hK.out _ _ (λ_=>U.out.keep I.out Jv) ?_;clear hK K;try simp only[Act.put,tA,tB,tC]
      have Xk:=I;have I:=ah (U.out.keep Xk.out Jv);refine tk 16 [17,18] I.out ?_;refine tk 17 [18] I.out ?_;obtain⟨⟨Xq,Xt,Xu,Zi,y1,-,-⟩,y2,J⟩:=H9.out.fps Jc.out fn Ju;have Xm:=ah (J _ _ _ Jg.out ⟨U.out.hi.1,U.out.hi.2.2.1⟩ (pL Jt.out Jh));clear J I;refine aq (i:=18) k_ rfl (λK hK=>?_);go_simp;refine hK.out _ _ (λh=>absurd rfl h) ?_;clear hK K y1 y2;refine aJ k_ ?_ _;go_wp2;go_meet
      case rel=>exact⟨_,_,_,_,_,_,⟨_,_,_,rfl⟩,⟨_,_,_,rfl⟩,Xm.out.choose_spec⟩
     ·have Jr:=ah (Jx.out.alloc (.cells #[sV ⟨#[112,48]⟩,sV ⟨#[103]⟩,sV ⟨#[119]⟩,sV ⟨#[120]⟩] 9));go_simp;refine hK.out _ _ (λ_=>U.out.keep I.out Jr) ?_;clear hK K Jx Jr;try simp only[Act.put,tA,tB,tC]
      obtain⟨ua,un,uc,w7,r7,h7,t7,f7⟩:=mB (w:=(w5.drew.alloc (.cells #[] 9)).alloc (.cells #[sV ⟨#[112,48]⟩,sV ⟨#[103]⟩,sV ⟨#[119]⟩,sV ⟨#[120]⟩] 9)) (B:=w5.drew.heap.size) (e0:=w5.drew.heap.size) (ownB (World.ownsRow_lit w5.drew #[] 0 n_ d_ rfl) (au _ _)) (pK _ _ _) va vn vc ps (Yr.out _ (((ak.refl _ _).alloc _).alloc _)) (ks Jt.out.1);have Jk:=ah r7;have Jr:=ah (((ak.refl (λk=>k=g∨w5.drew.heap.size<=k) w5.drew).alloc (.cells #[] 9)).alloc (.cells #[sV ⟨#[112,48]⟩,sV ⟨#[103]⟩,sV ⟨#[119]⟩,sV ⟨#[120]⟩] 9));have Jw:=ah (Jr.out.next t7 (λk hk=>.inl (.inr (uy hk))));have HX:=ah ((U.out.alloc (.cells #[] 9)).alloc (.cells #[sV ⟨#[112,48]⟩,sV ⟨#[103]⟩,sV ⟨#[119]⟩,sV ⟨#[120]⟩] 9) |>.new Jc.out t7 (λk hk=>uy hk) U.out.hi);have Jp:=ah h7;have Jo:=ah (EN (g:=g) [⟨#[112,48]⟩,⟨#[103]⟩,⟨#[119]⟩,⟨#[120]⟩] #[sV ⟨#[112,48]⟩,sV ⟨#[103]⟩,sV ⟨#[119]⟩,sV ⟨#[120]⟩] rfl (U.out.low g rfl) t7);have Xp:=ah (t_ (pK w5.drew (.cells #[] 9) (.cells #[sV ⟨#[112,48]⟩,sV ⟨#[103]⟩,sV ⟨#[119]⟩,sV ⟨#[120]⟩] 9)) t7.size);clear r7 h7 t7 f7;refine aq (i:=10) k_ rfl (λK hK=>?_);refine cJ rfl (.tmp 153) (.tmp 159) 94 rfl (rV w5.drew.heap.size 0 0) (.slice va vn vc) (.slice ua un uc) w7 rfl rfl Jk.out ?_;refine hK.out _ _ (λ_=>U.out.keep I.out Jw) ?_;clear hK K;try simp only[Act.put,tA,tB,tC]
      refine aq (i:=13) k_ rfl (λK hK=>?_);go_simp;refine(eP g a len cap (S0 g) [⟨#[112,48]⟩,⟨#[103]⟩,⟨#[119]⟩,⟨#[120]⟩] _ _ hl Jq HX.out.pp.cur Jo.out d_).mono ?_;rintro e w8 ⟨sx,Jd,rfl,Ji⟩;have H8:=ah (HX.out.dr Ji);have Jj:=ah (aN Jp.out Ji.tcs U.out.low);have Jn:=ah (Jw.out.next Ji.tcs (λk hk=>.inl (.inl hk)));have Xn:=ah (t_ Xp.out Ji.tcs.size);have Jh:=ah (kr Jd d_);clear Jd Ji;refine hK.out _ _ (λ_=>U.out.keep I.out Jn) ?_;clear hK K;try simp only[Act.put,tA,tB,tC]
      obtain⟨xa,xn,xc,w9,r9,h9,t9⟩:=pJ Jj.out Xn.out sx (ks Jt.out.1);have Xg:=ah r9;have Jm:=ah (Jn.out.alloc (.cells #[sV sx] 9));have Jv:=ah (Jn.out.next t9 (λk hk=>.inl (.inr hk)));have H9:=ah (H8.out.new Jc.out t9 (λk hk=>hk) U.out.hi);have Jg:=ah h9;clear r9 h9 t9;refine aq (i:=14) k_ rfl (λK hK=>?_);go_simp;refine hK.out _ _ (λ_=>U.out.keep I.out Jm) ?_;clear hK K;try simp only[Act.put,tA,tB,tC]
      refine aq (i:=15) k_ rfl (λK hK=>?_);refine cJ rfl (.tmp 160) (.tmp 164) 94 rfl (.slice ua un uc) (rV w8.heap.size 1 1) (.slice xa xn xc) w9 rfl rfl Xg.out ?_;refine hK.out _ _ (λ_=>U.out.keep I.out Jv) ?_;clear hK K;try simp only[Act.put,tA,tB,tC]
      have Xk:=I;have I:=ah (U.out.keep Xk.out Jv);refine tk 16 [17,18] I.out ?_;refine tk 17 [18] I.out ?_;obtain⟨⟨Xq,Xt,Xu,Zi,y1,-,-⟩,y2,J⟩:=H9.out.fps Jc.out fn Ju;have Xm:=ah (J _ _ _ Jg.out ⟨U.out.hi.1,U.out.hi.2.2.1⟩ (pL Jt.out Jh));clear J I;refine aq (i:=18) k_ rfl (λK hK=>?_);go_simp;refine hK.out _ _ (λh=>absurd rfl h) ?_;clear hK K y1 y2;refine aJ k_ ?_ _;go_wp2;go_meet
      case rel=>exact⟨_,_,_,_,_,_,⟨_,_,_,rfl⟩,⟨_,_,_,rfl⟩,Xm.out.choose_spec⟩
    ·have Jx:=ah ((ak.refl (λk=>k=g∨w5.drew.heap.size<=k) w5.drew).alloc (.cells #[sV ⟨#[112,48]⟩,sV ⟨#[103]⟩,sV ⟨#[119]⟩,sV ⟨#[120]⟩] 9));go_simp;refine hK.out _ _ (λ_=>U.out.keep I.out Jx) ?_;clear hK K;try simp only[Act.put,tA,tB,tC]
     refine aq (i:=3) k_ rfl (λK hK=>?_);have Jr:=ah (Jx.out.alloc (.cells #[] 9));go_simp;refine hK.out _ _ (λ_=>U.out.keep I.out Jr) ?_;clear hK K Jx Jr;try simp only[Act.put,tA,tB,tC]
     obtain⟨ua,un,uc,w7,r7,h7,t7,f7⟩:=mB (w:=(w5.drew.alloc (.cells #[sV ⟨#[112,48]⟩,sV ⟨#[103]⟩,sV ⟨#[119]⟩,sV ⟨#[120]⟩] 9)).alloc (.cells #[] 9)) (B:=w5.drew.heap.size) (e0:=w5.drew.heap.size+1) (EM w5.drew (.cells #[sV ⟨#[112,48]⟩,sV ⟨#[103]⟩,sV ⟨#[119]⟩,sV ⟨#[120]⟩] 9)) (pK _ _ _) va vn vc ps (Yr.out _ (((ak.refl _ _).alloc _).alloc _)) (ks Jt.out.1);have Jk:=ah r7;have Jr:=ah (((ak.refl (λk=>k=g∨w5.drew.heap.size<=k) w5.drew).alloc (.cells #[sV ⟨#[112,48]⟩,sV ⟨#[103]⟩,sV ⟨#[119]⟩,sV ⟨#[120]⟩] 9)).alloc (.cells #[] 9));have Jw:=ah (Jr.out.next t7 (λk hk=>.inl (.inr (zX hk))));have HX:=ah ((U.out.alloc (.cells #[sV ⟨#[112,48]⟩,sV ⟨#[103]⟩,sV ⟨#[119]⟩,sV ⟨#[120]⟩] 9)).alloc (.cells #[] 9) |>.new Jc.out t7 (λk hk=>zX hk) U.out.hi);have Jp:=ah h7;have Jo:=ah (EO (g:=g) [⟨#[112,48]⟩,⟨#[103]⟩,⟨#[119]⟩,⟨#[120]⟩] #[sV ⟨#[112,48]⟩,sV ⟨#[103]⟩,sV ⟨#[119]⟩,sV ⟨#[120]⟩] rfl (U.out.low g rfl) t7);have Xp:=ah (t_ (pK w5.drew (.cells #[sV ⟨#[112,48]⟩,sV ⟨#[103]⟩,sV ⟨#[119]⟩,sV ⟨#[120]⟩] 9) (.cells #[] 9)) t7.size);clear r7 h7 t7 f7;refine aq (i:=10) k_ rfl (λK hK=>?_);refine cJ rfl (.tmp 153) (.tmp 159) 94 rfl (.slice (some ⟨w5.drew.heap.size+1,0,none⟩) 0 0) (.slice va vn vc) (.slice ua un uc) w7 rfl rfl Jk.out ?_;refine hK.out _ _ (λ_=>U.out.keep I.out Jw) ?_;clear hK K;try simp only[Act.put,tA,tB,tC]
     refine aq (i:=13) k_ rfl (λK hK=>?_);go_simp;refine(eP g a len cap (S0 g) [⟨#[112,48]⟩,⟨#[103]⟩,⟨#[119]⟩,⟨#[120]⟩] _ _ hl Jq HX.out.pp.cur Jo.out d_).mono ?_;rintro e w8 ⟨sx,Jd,rfl,Ji⟩;have H8:=ah (HX.out.dr Ji);have Jj:=ah (aN Jp.out Ji.tcs U.out.low);have Jn:=ah (Jw.out.next Ji.tcs (λk hk=>.inl (.inl hk)));have Xn:=ah (t_ Xp.out Ji.tcs.size);have Jh:=ah (kr Jd d_);clear Jd Ji;refine hK.out _ _ (λ_=>U.out.keep I.out Jn) ?_;clear hK K;try simp only[Act.put,tA,tB,tC]
     obtain⟨xa,xn,xc,w9,r9,h9,t9⟩:=pJ Jj.out Xn.out sx (ks Jt.out.1);have Xg:=ah r9;have Jm:=ah (Jn.out.alloc (.cells #[sV sx] 9));have Jv:=ah (Jn.out.next t9 (λk hk=>.inl (.inr hk)));have H9:=ah (H8.out.new Jc.out t9 (λk hk=>hk) U.out.hi);have Jg:=ah h9;clear r9 h9 t9;refine aq (i:=14) k_ rfl (λK hK=>?_);go_simp;refine hK.out _ _ (λ_=>U.out.keep I.out Jm) ?_;clear hK K;try simp only[Act.put,tA,tB,tC]
     refine aq (i:=15) k_ rfl (λK hK=>?_);refine cJ rfl (.tmp 160) (.tmp 164) 94 rfl (.slice ua un uc) (rV w8.heap.size 1 1) (.slice xa xn xc) w9 rfl rfl Xg.out ?_;refine hK.out _ _ (λ_=>U.out.keep I.out Jv) ?_;clear hK K;try simp only[Act.put,tA,tB,tC]
     have Xk:=I;have I:=ah (U.out.keep Xk.out Jv);refine tk 16 [17,18] I.out ?_;refine tk 17 [18] I.out ?_;obtain⟨⟨Xq,Xt,Xu,Zi,y1,-,-⟩,y2,J⟩:=H9.out.fps Jc.out fn Ju;have Xm:=ah (J _ _ _ Jg.out ⟨U.out.hi.1,U.out.hi.2.2.1⟩ (pL Jt.out Jh));clear J I;refine aq (i:=18) k_ rfl (λK hK=>?_);go_simp;refine hK.out _ _ (λh=>absurd rfl h) ?_;clear hK K y1 y2;refine aJ k_ ?_ _;go_wp2;go_meet
     case rel=>exact⟨_,_,_,_,_,_,⟨_,_,_,rfl⟩,⟨_,_,_,rfl⟩,Xm.out.choose_spec⟩
   case inr.inr.inr.inr.inr.inr.inr.inr.inr.inr.inr.inl=>
    have Vj:=ah Z.out.rp;have Xx:=ah Z.out.rl;go_wp2;go_loopw[7] (λu wr=>∃va vn vc R',u=.slice va vn vc/\vn=R'.length/\R'.length<=10000/\RP g M a len cap O R4 N fl gl w wr b c b' c' t.globals Q u R') (λu _=>502-(EL u))
    case atStart=>exact⟨_,_,_,R,rfl,Xx.out.1.symm,Xx.out.1 ▸ Xx.out.2.2,Vj⟩
    case round=>
     obtain⟨va,vn,vc,R',rfl,Xb,Jy,Vf⟩:=hrel;have H5:=ah Vf;have HV:=ah Xb;have Vr:(vn:Int)<=10000:=by rw[Xb];exact Int.ofNat_le.2 Jy
     clear Vf Xb Vj Xx;go_wp2_with fail;refine(aE g a len cap (S0 g) _ _ hl Jq H5.out.pp.cur ⟨d_,d_⟩).mono ?_;rintro e w6 ⟨y,rfl,hy,Jl⟩;have H6:=ah (H5.out.dr Jl);clear Jl;by_cases hlt:(vn:Int)<500+y
     ·obtain⟨xa,xn,xc,w7,r7,Xf,R7,Xc,h7⟩:=H6.out.app Jc.out (EJ Jy) 7 1 0 ⟨#[]⟩ ⟨#[]⟩ d_ d_;have Jk:=ah r7;have H7:=ah h7;have HN:=ah (wN hy.2 hlt HV.out Xf Xc);clear r7 h7 Xf Xc;go_wp2_with(at_builtin;refine aC rfl (.tmp 176) (.tmp 180) _ rfl _ _ _ _ rfl rfl Jk.out ?_)
      go_roundw
      case rel=>exact⟨_,_,_,R7,rfl,HN.out.1,HN.out.2.1,H7⟩
      case measure=>exact HN.out.2.2
     ·have HC:=ah (H6.out.cp (EK Jy));go_wp2;go_meet
      case rel=>exact⟨_,_,_,_,_,_,⟨_,_,_,rfl⟩,⟨_,_,_,rfl⟩,HC⟩
   case inr.inr.inr.inr.inr.inr.inr.inr.inr.inr.inr.inr.inl=>
    go_wp2_with fail;have Ya:=ah (ct w5 w5.heap.size n_ 1 (-5) ⟨#[]⟩);go_loopw[10] (λu wr=>∃va vn vc ns,u=.slice va vn vc/\vn=ns.length/\ns.length<=2100/\aV w5.heap.size wr u ns/\bV ns 2100/\w5.heap.size<=wr.heap.size/\QP g M a len cap O R4 N fl gl w wr b c b' c' t.globals Q bb bn Ys R) (λu _=>2100-(EL u))
    case atStart=>exact⟨_,_,_,[⟨1,-5,⟨#[]⟩⟩],rfl,rfl,d_,Ya,(bV.one d_).more d_,dX _ _,Z.out.alloc _⟩
    case round=>
     obtain⟨va,vn,vc,ns,rfl,Xb,Zy,hr,Zf,Vk,hq⟩:=hrel;have H5:=ah hq;have HV:=ah Xb;have Ub:=ah hr;have Zd:=ah Zf;have Vs:=ah Vk;have Vr:(vn:Int)<=2100:=by rw[Xb];exact Int.ofNat_le.2 Zy
     clear hq Xb hr Zf Vk;go_wp2_with fail;refine(aE g a len cap (S0 g) _ _ hl Jq H5.out.pp.cur ⟨d_,d_⟩).mono ?_;rintro e w6 ⟨y,rfl,hy,Jl⟩;have H6:=ah (H5.out.dr Jl);have Zm:aV w5.heap.size w6 (.slice va vn vc) ns:=aN Ub.out Jl.tcs Z.out.low;have Js:=ah (t_ Vs.out Jl.tcs.size);have Xy:=ah Zm;clear Jl Zm;by_cases hlt:(vn:Int)<1960+y
     ·obtain⟨xa,xn,xc,w7,r7,Xf,h7,t7⟩:=uw Xy.out Js.out 6 0 ⟨#[]⟩ (BG Zy);have Jk:=ah r7;have Vu:=ah h7;have H7:=ah (H6.out.new Jc.out t7 (λk hk=>hk) Z.out.hi);have HN:=ah (td (k:=6) (x:=0) (s:=⟨#[]⟩) hy.2 hlt HV.out Xf Zd.out d_);have Yh:=ah (t_ Js.out t7.size);clear r7 h7 Xf t7;go_wp2_with(at_builtin;refine aC rfl (.tmp 192) (.tmp 194) _ rfl _ _ _ _ rfl rfl Jk.out ?_)
      go_roundw
      case rel=>exact⟨_,_,_,_,rfl,HN.out.1,HN.out.2.1,Vu,HN.out.2.2.1,Yh,H7⟩
      case measure=>exact HN.out.2.2.2
     ·obtain⟨⟨Xq,Xt,Xu,Ug,y2,-,-⟩,y3,J⟩:=H6.out.ex Jc.out i hi;have HX:=ah (J _ _ _ Xy.out ⟨Z.out.hi.2.2.2,Z.out.hi.1,Z.out.hi.2.2.1⟩ (Zd.out.more d_));clear J;go_wp2;go_meet
      case rel=>exact⟨_,_,_,_,_,_,⟨_,_,_,rfl⟩,⟨_,_,_,rfl⟩,HX.out.choose_spec⟩
   case inr.inr.inr.inr.inr.inr.inr.inr.inr.inr.inr.inr.inr=>
    go_wp2_with fail;refine(Z.out.pick hl Jc.out [⟨#[118,49]⟩,⟨#[103]⟩,⟨#[112,48]⟩,⟨#[110,101,119]⟩] _ 4 rfl rfl d_ d_).mono ?_;rintro e w6 ⟨sx,Jd,rfl,hq⟩;have H6:=ah hq;have Jh:=ah Jd;clear hq Jd;obtain⟨va,vn,vc,w7,r7,-,R',Jy,h7⟩:=H6.out.rp.app Jc.out H6.out.rlen 1 1 0 sx ⟨#[]⟩ Jh.out d_;have Jk:=ah r7;have H7:=ah (h7.cp (H6.out.rlen' Jy));clear r7 h7;go_wp2_with(at_builtin;refine aC rfl (.tmp 203) (.tmp 210) _ rfl _ _ _ _ rfl rfl Jk.out ?_)
    go_meet
    case rel=>exact⟨_,_,_,_,_,_,⟨_,_,_,rfl⟩,⟨_,_,_,rfl⟩,H7⟩
  case rest=>
   obtain⟨Um,bF,cF,Uk,Q1,R1,⟨xa,xn,xc,rfl⟩,⟨ya,yn,yc,rfl⟩,Z_⟩:=hcut;obtain⟨⟨c0,⟨Un,c1⟩,Ud⟩,W6,Zq,Yq,Xo,W7,Vo,Xc,Vg,Xa⟩:=wK Z_ Jc.out fn Ju;have Vp:=ah Zq;have Uf:=ah Vo;have o0:=(Yq 0 _ rfl).1;have o1:=(Yq 1 _ rfl).1;have r0:=(Xo 0 _ rfl).1;have Uj:=(Xo 0 _ rfl).2;have r1:=(Xo 1 _ rfl).1;have Ul:=(Xo 1 _ rfl).2;have H7:=ah (And.intro (And.intro (Xc 0 _ rfl).1 (Xc 1 _ rfl).1) (And.intro Vg Xa));clear Zq Vo Yq Xo Xc Vg Xa Z_ Z;go_upto_region 40 with fail;rw[<-Vp.out];clear c0 c1 Ud Vp;go_wp2_with fail;rw[<-Uf.out];refine bodyPost_ret (by simp[results,results78,go_sem,H7.out.1.1,H7.out.1.2];try rfl) rfl ?_;exact⟨_,_,rfl,H7.out.2.1,H7.out.2.2⟩
end
section
variable{S:D6}{w:AT}{vg vf:BY}{t:Tr}
def Ab(h:TD S w vg vf t):∃ga gn gc fa fn fc,vg=.slice ga gn gc/\vf=.slice fa fn fc:=by
 obtain⟨ga,gc,e,-⟩:=h.gs w (ak.refl _ _);obtain⟨U,J,fc,Q,I,-⟩:=h.fs;exact⟨_,_,_,_,_,_,e,I⟩
def q8(h:TW S w vg vf t):∃ga gn gc fa fn fc,vg=.slice ga gn gc/\vf=.slice fa fn fc:=by
 obtain⟨ga,gc,e,-⟩:=h.gs w (ak.refl _ _);obtain⟨fa,fc,I,-⟩:=h.fs w (ak.refl _ _);exact⟨_,_,_,_,_,_,e,I⟩
def TW.less{S':D6}(h:TW S w vg vf t)(hs:∀k,S' k->S k):TW S' w vg vf t:=⟨λW hW=>h.gs W (hW.mono hs),λW hW=>h.fs W (hW.mono hs),h.gl,h.gn,h.fl,h.fp,h.ok⟩
def uz(w:AT):∃W0 R2,W0=w.alloc (.cells #[nV,nV] 34)/\R2=w.heap.size/\aK W0 R2 [nV,nV]/\Bl w W0/\W0.heap.size=w.heap.size+1:=
 ⟨_,_,rfl,rfl,aH w _ _ i_,r_.alloc n_ _,i_⟩
def pM{M h:Nat}{w3:AT}{Z Y:BY}(I:aK w3 h [Z,Y])(ht:TW (λk=>k<M) w3 vg vf t)(hR:h<M):
  (DO w3 h 0 Z/\D4 w3 h 0/\DO w3 h 1 Y/\D4 w3 h 1)/\∃W,W=(w3.setCell ⟨h,0,none⟩ vg).setCell ⟨h,1,none⟩ vf/\(DO W h 0 vg/\DO W h 1 vf)/\TW (λk=>k<M) W vg vf t/\ak (λk=>k=h) w3 W:=by
 have J:=(I.set 0 vg).set 1 vf;have U:ak (λk=>k=h) w3 ((w3.setCell ⟨h,0,none⟩ vg).setCell ⟨h,1,none⟩ vf):=((ak.refl (λk=>k=h) w3).setCell (p:=⟨h,0,none⟩) rfl _).setCell (p:=⟨h,1,none⟩) rfl _;exact⟨⟨(I 0 _ rfl).1,(I 0 _ rfl).2,(I 1 _ rfl).1,(I 1 _ rfl).2⟩,_,rfl,⟨(J 0 _ rfl).1,(J 1 _ rfl).1⟩,ht.tcs (U.mono λk hk=>by omega),U⟩
end
def q9(g:Nat)(a:Option Addr)(len cap:Nat)(w:AT)(hl:len<=1048576)(hL:Lo g a len (S0 g) w.heap.size)(hc:dS g a len cap w):
  Calls prog 47 #[pV g] w λe w'=>∃vg vf,e=rW (.agg #[vg,vf])/\(∃t,TW (λk=>k<w.heap.size) w' vg vf t)/\Dr g a len cap (S0 g) w w':=by
 have Xd:S0 g g:=rfl;have Xi:=hL.gl;have Jh:=ah hL;obtain⟨W0,R2,Jy,Jw,hf,Jn,Jt⟩:=uz w;obtain⟨Xa,J,HF,Jx,U,Xc⟩:=h6 Jy Jw hf Jn Jt (hc.below Jn);clear Jy Jw hf Jn Jt hc hL;go_in;go_upto_region 1 with fail;rw[<-Xa.o,<-J.o];clear Xa;go_wp2_with fail;refine(zT g a len cap W0 hl (Jh.o.mono (Ft U.o)) Xc).mono ?_;rintro e w1 ⟨vg,vf,rfl,⟨t,h⟩,Ji⟩;obtain⟨ga,gn,gc,fa,fn,fc,rfl,rfl⟩:=Ab h;have Xk:=Ji.tcs.size;obtain⟨W1,Jf⟩:=q_ (w1.alloc (.cells #[.slice ga gn gc,.slice fa fn fc] 34));have Jk:Bl w1 W1:=by rw[Jf];exact r_.alloc n_ _
 obtain⟨J_,Jo⟩:=h2 (h.tcs Jk.tcs) (Ji.below Jk);have Y:aK W1 w1.heap.size [.slice ga gn gc,.slice fa fn fc]:=by rw[Jf];exact aH w1 _ _ i_
 have Je:aK W1 R2 [nV,nV]:=(HF.o.tcs (Fw U.o J.o) Ji.tcs (λe=>by have e:R2=g:=e;have:=J.o;omega)).below Jk;have Xf:w1.heap.size<W1.heap.size:=by rw[Jf];simp
 obtain⟨H4,H2,Jz⟩:=h3 Y Je Jf;clear Ji h Jf Y Je Jk HF;obtain⟨B4,Ju⟩:=q_ w1.heap.size;have Jj:=ah Ju;clear Ju;go_upto_region 2 with fail;rw[<-Jz.o,<-Jj.o];clear Jz;go_wp2_with fail;refine(dU g a len cap (S0 g) _ _ hl Xd Jo.o.cur ⟨d_,d_⟩).mono ?_;rintro e w2 ⟨x,rfl,Z⟩;have Xg:=Z.tcs.size;have Xb:g<W0.heap.size:=Ft U.o
 obtain⟨Jp,Jg⟩:=h2 (J_.o.tcs (Z.tcs.mono λk I=>by have e:k=g:=I;omega)) (Jo.o.trans Z);have Y:aK w2 B4 [.slice ga gn gc,.slice fa fn fc]:=by have:=H4.o;rw[<-Jj.o]at this;exact this.tcs (Ft Jj.o) Z.tcs (λe=>by have e:B4=g:=e;have:=Jj.o;omega)
 have Je:aK w2 R2 [nV,nV]:=H2.o.tcs (Fw U.o J.o) Z.tcs (λe=>by have e:R2=g:=e;have:=J.o;omega);have p0:=(Y 0 _ rfl).1;have p1:=(Y 1 _ rfl).1;have Js:=ah Je;have Jv:R2<W0.heap.size:=Fw U.o J.o
 have Xe:R2≠g:=Ft J.o
 clear Z Y Je H4 H2 J_ Jo;cases x
 ·obtain⟨⟨z0,z1,z2,z3⟩,W,hW,⟨e0,e1⟩,h,hS⟩:=pM Js.o Jp.o.tw Jv;obtain⟨HW,HE,HT,HS⟩:=h4 hW (And.intro e0 e1) h hS;clear hW e0 e1 h hS;go_wp2_with fail;rw[<-HW.o];refine bodyPost_ret (by simp[results,results47,go_sem,HE.o.1,HE.o.2];try rfl) rfl ?_;refine⟨_,_,rfl,⟨_,HT.o.less (λk I=>by have:=U.o;have I:k<w.heap.size:=I;show k<W0.heap.size;omega)⟩,?_⟩;exact(Dr.new (w:=w) ⟨Jg.o.cur,(Jx.o.tcs (S:=S0 g)).trans Jg.o.tcs⟩ Jh.o HS.o (λk I=>Ft J.o))
 ·go_wp2_with fail;refine(wO g W0.heap.size a len cap _ _ t w2 hl ⟨Xb,o_⟩ (Jh.o.mono (Ft U.o)) Jg.o.cur Jp).mono ?_;rintro e w3 ⟨Xh,Xm,rfl,⟨t',Jm⟩,Jl⟩;obtain⟨Xp,Xq,Xj,Xo,Xn,Xl,rfl,rfl⟩:=q8 Jm;have Jr:aK w3 R2 [nV,nV]:=Js.o.tcs o_ Jl.tcs (λe=>Xe e);obtain⟨⟨z0,z1,z2,z3⟩,W,hW,⟨e0,e1⟩,h,hS⟩:=pM Jr Jm Jv;obtain⟨HW,HE,HT,HS,Jq⟩:=h5 hW (And.intro e0 e1) h hS (Jg.o.trans Jl);clear hW e0 e1 h hS Jl Jm Jr;go_wp2_with fail;rw[<-HW.o];refine bodyPost_ret (by simp[results,results47,go_sem,HE.o.1,HE.o.2];try rfl) rfl ?_;refine⟨_,_,rfl,⟨_,HT.o.less (λk I=>by have:=U.o;have I:k<w.heap.size:=I;show k<W0.heap.size;omega)⟩,?_⟩;exact(Dr.new (w:=w) ⟨Jq.o.cur,(Jx.o.tcs (S:=S0 g)).trans Jq.o.tcs⟩ Jh.o HS.o (λk I=>Ft J.o))
section
variable{B:Nat}{w:AT}{v:BY}{zs:List Int}
def Cw(h:mA B w v zs):fW w v zs:=by
 have Y:=h;rcases h.2 with⟨rfl,Z⟩|⟨g,U,Jd,rfl,-,-,J,I,-⟩
 ·exact⟨none,0,by rw[Z],o_,o_,λhn=>by omega⟩
 ·refine⟨_,U,rfl,J,by unfold maxLen at I;omega,λhn=>⟨g,0,rfl,λj hj=>?_⟩⟩;have:=ownsRow.cells Y (g:=g) rfl j (V zs[j]) (by simp[hj])
  rw[em]at this;simpa using this
def DD{g c n:Nat}(x:Int)(h:mA B w (rV g n c) zs):mA B (w.setCell ⟨g,0,none⟩ (V x)) (rV g n c) (zs.set 0 x)/\ak (λk=>k=g) w (w.setCell ⟨g,0,none⟩ (V x)):=by
 obtain⟨J,c',e⟩:=iI h;simp only[Value.slice.injEq]at e;obtain⟨-,rfl,-⟩:=e;refine⟨?_,(ak.refl (λk=>k=g) w).setCell (p:=⟨g,0,none⟩) rfl _⟩;have I:=(ownsRow.stored h 0 (V x)).1;unfold mA;rw[length_set,map_set];exact I
def DE(h:mA B w v zs)(Z:0<zs.length):∃g c y,v=rV g zs.length c/\B<=g/\w.cell? ⟨g,0,none⟩=some (V y)/\w.frozen? ⟨g,0,none⟩=false:=by
 have Y:=h;rcases h.2 with⟨rfl,hz⟩|⟨g,J,Jb,rfl,U,I,-⟩
 ·omega
 ·have:=ownsRow.cells Y (g:=g) rfl 0 (V zs[0]) (by simp[Z])
  exact⟨g,J,zs[0],rfl,U,by simpa[Addr.add]using this,by simp[frozen?,I]⟩
def TW.none{S:D6}{vg vf:BY}{t:Tr}(h:TW S w vg vf t):TW (λ_=>False) w vg vf t:=h.less (λk hk=>hk.elim)
def wP(a:Option Addr)(len cap:Nat)(w:AT)(hl:len<=1048576)(hb:B8 w a len):
  Calls prog 18 #[.slice a len cap] w λe w'=>∃vg vf t vI zs F vFr fr,e=rW (.tuple #[.agg #[vg,vf],vI,V F,vFr])/\TW (λ_=>False) w' vg vf t/\fW w' vI zs/\fW w' vFr fr/\(zs.length<=2000/\fr.length<=100/\0<=F/\F<=100001)/\Bl w w':=by
 obtain⟨W0,R2,Xy,Xv,hf,Jy,Xp⟩:=uz w;have Yf:=ah Xy;have Jq:=ah Xv;have HF:=ah hf;have Xb:=ah Jy;have Jv:=ah Xp;have Xw:=ah (hb.below Jy);clear Xy Xv hf Jy Xp hb;go_in;go_upto_region 1 with fail;rw[<-Yf.o,<-Jq.o];clear Yf;go_wp2_with fail;refine(Bb a len cap W0 hl Xw).mono ?_;rintro e w1 ⟨rfl,Xj,Xh,Xe,Jc⟩;obtain⟨g,hg⟩:=q_ W0.heap.size;rw[<-hg]at Xj Jc Xe⊢;have Je:S0 g g:=rfl;have HG:=ah hg;have Xn:=ah Xj;have Jr:=ah Jc;have Jo:=ah Xe;have X_:=ah (Xb.o.trans (Xh.mono Xb.o.size));have Xm:=ah (HF.o.below Xh);have Xx:R2≠g:=by have:=Jq.o;have:=HG.o;have:=Jv.o;omega
 have Xq:R2<w1.heap.size:=by have:=Jq.o;have:=HG.o;have:=Jv.o;have:=Jo.o;omega
 have Yp:∀k,S0 g k->w.heap.size<=k:=λk U=>by have e:k=g:=U;have:=HG.o;have:=Jv.o;omega
 have Ys:∀k,k=R2->w.heap.size<=k:=λk U=>Ft Jq.o
 clear hg Xj Jc Xe Xh HF Xw Xb;go_wp2_with fail;refine(q9 g a len cap w1 hl Jr.o Xn).mono ?_;rintro e w4 ⟨Yv,Za,rfl,⟨t,Y⟩,Js⟩;obtain⟨ga,gn,gc,fa,fn,fc,rfl,rfl⟩:=q8 Y;obtain⟨Zd,Yz⟩:fn<=20/\1<=fn:=by
  obtain⟨_,_,e,-⟩:=Y.fs _ (ak.refl _ _);simp only[Value.slice.injEq]at e;rw[e.2.1];exact⟨Y.fl,Y.fp⟩
 obtain⟨W5,Jg⟩:=q_ (w4.alloc (.cells #[.slice ga gn gc,.slice fa fn fc] 34));obtain⟨B7,Jm⟩:=q_ w4.heap.size;have Jt:Bl w4 W5:=by rw[Jg];exact r_.alloc n_ _
 have Xo:W5.heap.size=B7+1:=by rw[Jg,Jm];simp
 have Xr:=ah (Y.tcs Jt.tcs);have Xa:=ah (Js.below Jt);have Xt:Hid (aK W5 B7 [.slice ga gn gc,.slice fa fn fc]):=by rw[Jg,Jm];exact aH w4 _ _ i_
 have Ya:=ah ((Xm.o.tcs Xq Js.tcs (λe=>Xx e)).below Jt);have hM:w1.heap.size<=B7:=by rw[Jm];exact Js.tcs.size
 have Yc:=ah Jg;have Yq:=ah Jm;have Jb:=ah Xo;clear Y Js Jt Jg Jm Xo Xm;go_upto_region 3 with fail;rw[<-Yc.o,<-Yq.o];clear Yc;go_wp2_with fail;refine(BE g a len cap W5 hl (Jr.o.mono (Ft Jb.o)) Xa.o.cur).mono ?_;rintro e w6 ⟨vI,zs,rfl,hI,Yj,Xl⟩;obtain⟨ia,ic,Yh⟩:=iI hI;obtain⟨Xu,Yi⟩:=q_ zs.length;rw[<-Yi]at Yh;subst Yh;have HI:=ah hI;have Ym:=ah Yj;have Jp:=ah Xl;clear hI Yj Xl Yi;go_wp2_with fail;refine(aE g a len cap (S0 g) _ _ hl Je Jp.o.cur o_).mono ?_;rintro e w7 ⟨x7,rfl,Zb,Yg⟩;have Xd:=ah Yg;clear Yg;go_wp2_with fail;refine(aE g a len cap (S0 g) _ _ hl Je Xd.o.cur o_).mono ?_;rintro e w8 ⟨x8,rfl,Ze,Xs⟩;have Ju:=ah (Xd.o.trans Xs);clear Xs Xd;go_upto_if 23 with fail
 go_cut [9]from 13 to 57 (λfv W=>∃F:Int,fv=V F/\(0<=F/\F<=5000)/\W=w8)
 case first=>
  by_cases h8:0<x8
  ·go_wp2;go_meet
   case rel=>exact⟨5000,rfl,o_,rfl⟩
  ·go_wp2;go_meet
   case rel=>exact⟨x7,rfl,o_,rfl⟩
 case rest=>
  obtain⟨F,rfl,hF,Jh⟩:=hcut;rw[Jh];clear Jh;go_wp2_with fail;refine(aE g a len cap (S0 g) _ _ hl Je Ju.o.cur o_).mono ?_;rintro e I ⟨kk,rfl,Yt,Yk⟩;have Jl:=ah (Ju.o.trans Yk);clear Yk Ju;go_upto_if 27 with fail
  go_cut [9]from 13 to 57 (λfv W=>∃F:Int,fv=V F/\(0<=F/\F<=100001)/\W=I)
  case first=>
   by_cases h8:kk=0
   ·subst h8;go_wp2;go_meet
    case rel=>exact⟨100001,rfl,o_,rfl⟩
   ·go_wp2;go_meet
    case rel=>exact⟨F,rfl,o_,rfl⟩
  case rest=>
   clear hF;obtain⟨F,rfl,hF,Jh⟩:=hcut;rw[Jh];clear Jh;have Yu:=Jp.o.tcs.size;have Zf:=Jl.o.tcs.size;have Xg:∀W,ak (S0 g) I W->ak (S0 g) W5 W:=λW hW=>Jp.o.tcs.trans (Jl.o.tcs.trans hW);have Jf:Hid (Lo g a len (S0 g) I.heap.size):=Jr.o.mono (Ft Jb.o);have Jx:Hid (∀W,ak (S0 g) I W->DO W B7 0 (.slice ga gn gc)/\DO W B7 1 (.slice fa fn fc)):=λW hW=>by
    have h:=Xt.o.tcs (Ft Jb.o) (Xg W hW) (λe=>by have e:B7=g:=e;have:=Jo.o;omega);exact⟨(h 0 _ rfl).1,(h 1 _ rfl).1⟩
   have Jd:Hid (∀W,Dr g a len cap (S0 g) I W->aK W R2 [nV,nV]/\TW (λk=>k<w1.heap.size) W (.slice ga gn gc) (.slice fa fn fc) t/\mA w1.heap.size W (.slice ia Xu ic) zs/\Bl w W/\R2<W.heap.size):=λW hW=>by
    have hT:=Xg W hW.tcs;have hz:=hT.size;refine⟨Ya.o.tcs (Ft Jb.o) hT (λe=>Xx e),Xr.o.tcs (hT.mono λk U=>by have e:k=g:=U;have:=Jo.o;omega),?_,?_,Ft Jb.o⟩
    ·exact aN (dK HI.o (Ft Jb.o)) (Jl.o.tcs.trans hW.tcs) (λk U=>by have e:k=g:=U;have:=Jo.o;omega)
    ·exact(Xa.o.tcs.trans hT).below X_.o X_.o.size Yp
   have Xk:Hid (Dr g a len cap (S0 g) I (I.alloc (.cells #[] 2))):=(Dr.refl Jl.o.cur).alloc _;clear Xg Jl Jp HI Ya Xr Xa Xt Xn Jr;go_wp2;go_loopw[11,12] (λov i wr=>∃(k:Nat) (us:List Int),k<=fn/\i=V k/\Hid (us.length=k)/\mA I.heap.size wr ov us/\Dr g a len cap (S0 g) I wr) (λ_ i _=>fn-(RowKit.intOf i).toNat)
   case atStart=>exact⟨0,[],y_,rfl,rfl,zR I,Xk⟩
   case round=>
    obtain⟨k,us,U,rfl,HZ,ho,hd⟩:=hrel;obtain⟨ao,co,hv⟩:=iI ho;rw[HZ.o]at hv;subst hv;have Z:=ah ho;have J:=ah hd;obtain⟨p0,p1⟩:=Jx.o _ hd.tcs;clear ho hd Xk;by_cases hlt:k<fn
    ·have J_:(k:Int)<(fn:Int):=o_
     go_wp2_with fail;refine(aE g a len cap (S0 g) _ _ hl Je J.o.cur o_).mono ?_;rintro e w2 ⟨y,rfl,hy,Ja⟩;obtain⟨va,vn,vc,w3,hr,Jn,Jj,Ji⟩:=pG (B:=I.heap.size) (w:=w2) y 26 (aN Z.o Ja.tcs Jf.o.s) (Fw Ja.tcs.size J.o.tcs.size) (Ft HZ.o);have HR:=ah hr;have Xf:=ah Jj;have Jw:Hid (Dr g a len cap (S0 g) I w3):=(J.o.trans Ja).new Jf.o Ji (pF Z);clear hr Jj Ji Ja Jn p0 p1;go_wp2_with(at_builtin;refine aC rfl _ _ _ rfl _ _ _ _ rfl rfl HR.o ?_);go_roundw
     case rel=>exact⟨k+1,us++[y],o_,by go_num,by have:=HZ.o;show(us++[y]).length=k+1;simp;omega,Xf,Jw⟩
     case measure=>exact FW
    ·have J_:¬(k:Int)<(fn:Int):=o_
     have Yw:1<=k:=o_
     go_upto_if 42 with fail
     go_cut [11]from 13 to 57 (λv W=>∃va vn vc us,v=.slice va vn vc/\mA I.heap.size W v us/\(1<=us.length/\us.length<=30)/\Dr g a len cap (S0 g) I W)
     case first=>
      by_cases h1:kk=1
      ·subst h1;obtain⟨va,vn,vc,w3,hr,Jn,Jj,Ji⟩:=pG (B:=I.heap.size) (w:=wr) 0 26 Z.o J.o.tcs.size (Ft HZ.o);have HR:=ah hr;have Xf:=ah Jj;have Jw:Hid (Dr g a len cap (S0 g) I w3):=J.o.new Jf.o Ji (pF Z);clear hr Jj Ji Jn p0 p1;go_wp2_with(at_builtin;refine aC rfl _ _ _ rfl _ _ _ _ rfl rfl HR.o ?_)
       go_meet
       case rel=>exact⟨_,_,_,us++[0],rfl,Xf,by have:=HZ.o;simp;omega,Jw⟩
      ·go_wp2;go_meet
       case rel=>exact⟨_,_,_,us,rfl,Z,Ft HZ.o,J⟩
     case rest=>
      clear Z J p0 p1 HZ;obtain⟨va,vn,vc,us,rfl,ho,Jk,hd⟩:=hcut;have Z:=ah ho;have HU:=ah Jk;have J:=ah hd;clear ho Jk hd;go_upto_if 47 with fail
      go_cut [11]from 13 to 57 (λv W=>∃va vn vc us,v=.slice va vn vc/\mA I.heap.size W v us/\(1<=us.length/\us.length<=30)/\Dr g a len cap (S0 g) I W)
      case first=>
       by_cases h1:kk=2
       ·subst h1;go_wp2_with fail;refine(aE g a len cap (S0 g) _ _ hl Je J.o.cur o_).mono ?_;rintro e w2 ⟨y,rfl,hy,Ja⟩;have Jz:mA I.heap.size w2 (.slice va vn vc) us:=aN Z.o Ja.tcs Jf.o.s;obtain⟨q,c,z,e,hq,Yx,Y_⟩:=DE Jz (Ft HU.o);simp only[Value.slice.injEq]at e;obtain⟨rfl,Jn,rfl⟩:=e;obtain⟨Yb,Xz⟩:=DD (1000000+y) Jz;have Yr:=ah Yb;have Yl:=ah ((J.o.trans Ja).new Jf.o Xz (λk U=>by rw[U];exact hq));have Yy:0<(vn:Int):=Ft HU.o
        clear Jz Ja Yb Xz Jn hq;go_wp2;go_meet
        case rel=>exact⟨_,_,_,us.set 0 _,rfl,Yr,by have:=HU.o;simp;omega,Yl⟩
       ·go_wp2;go_meet
        case rel=>exact⟨_,_,_,us,rfl,Z,HU,J⟩
      case rest=>
       clear Z HU J;obtain⟨va,vn,vc,us,rfl,ho,Jk,hd⟩:=hcut;obtain⟨p0,p1⟩:=Jx.o _ hd.tcs;obtain⟨Yd,Ye,hi,Xc,Zc⟩:=Jd.o _ hd;obtain⟨⟨z0,z1,z2,z3⟩,W,hW,⟨e0,e1⟩,Y,hS⟩:=pM Yd Ye Xq;have HW:=ah hW;have HE:=ah (And.intro e0 e1);have HT:=ah Y.none;have Yo:Hid (fW W (.slice ia Xu ic) zs):=Cw (aN hi (S:=λk=>k=R2) hS (λk U=>by omega));have Yn:Hid (fW W (.slice va vn vc) us):=Cw (aN ho (S:=λk=>k=R2) hS (λk U=>Ft Jb.o));have Xi:Hid (Bl w W):=hS.below Xc (Ft Xc.size) Ys;have HU:=ah Jk;clear hW e0 e1 Y hS ho Jk hd Yd Ye hi Xc Jd Jx;go_wp2_with fail;rw[<-HW.o];refine bodyPost_ret (by simp[results,results18,go_sem,HE.o.1,HE.o.2];try rfl) rfl ?_;exact⟨_,_,t,_,zs,F,_,rfl,HT,Yo,us,Yn,⟨Ym,Ft HU.o,hF.1,hF.2⟩,Xi⟩
end
end Go.Proofs.YtffnkkpmlplfeaaGreatDoor
