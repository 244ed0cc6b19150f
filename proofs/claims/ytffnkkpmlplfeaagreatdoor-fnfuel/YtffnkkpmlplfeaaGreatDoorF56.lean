import Derived.Test.YtffnkkpmlplfeaaGreatDoorF55
import Derived.Test.YtffnkkpmlplfeaaGreatDoorF48
import Derived.Test.YtffnkkpmlplfeaaGreatDoorF26
namespace Go.Proofs.YtffnkkpmlplfeaaGreatDoor
open Go.World
open Go.Proofs.Tryz Go.RowKit
set_option linter.all false
set_option maxRecDepth 100000
set_option maxHeartbeats 0
variable{w W W':AT}{R E B:Nat}{vg vf v:BY}{st ex us dp:Int}{o:List Int}
structure FE (w W:AT) (R:Nat) (vg vf:BY) (t:Tr) (vI:BY) (i:List Int) (vF:BY) (fr:List Int):Prop where
 box:aK W R [vg,vf]
 g:cK W vg t.globals
 f:bC W vf t.funcs
 i:fW W vI i
 fr:fW W vF fr
 lt:R<W.heap.size
 old:Bl w W
def FE.below [Inhabited Pick]{t:Tr}{vI:BY}{i:List Int}{vF:BY}{fr:List Int}(h:FE w W R vg vf t vI i vF fr)(hb:Bl W W'):FE w W' R vg vf t vI i vF fr:=
 ⟨h.box.below hb,h.g.below hb,h.f.below hb,dw h.i hb,dw h.fr hb,l_ h.lt hb.size,h.old.trans (hb.mono h.old.size)⟩
structure FB (W:AT) (E:Nat) (st:Int) (v:BY) (o:List Int) (ex us dp:Int):Prop where
 box:aK W E [V st,v,V ex,V us,V dp]
 oi:Ints W v o
 ol:o.length<=maxLen/\∀a n c,v=.slice a n c->n<=c
def FB.below(h:FB W E st v o ex us dp)(hb:Bl W W'):FB W' E st v o ex us dp:=⟨h.box.below hb,h.oi.below hb,h.ol⟩
def i8 [Inhabited Pick]{l:List Int}(h:w.ownsRow B 2 1 v l.length (l.map (Value.int .i64))):Ints w v l/\l.length<=maxLen/\∀a n c,v=.slice a n c->n<=c:=by
 have U:=h;rcases h.2 with⟨rfl,Y⟩|⟨g,I,Z,rfl,-,-,J,Jd,-⟩
 ·exact⟨⟨none,0,by rw[Y],λhn=>by omega⟩,o_,λa n c e=>by cases e;omega⟩
 ·refine⟨⟨_,I,rfl,λhn=>⟨g,rfl,λj hj=>?_⟩⟩,o_,λa n c e=>by cases e;exact J⟩;have:=ownsRow.cells U (g:=g) rfl j (V l[j]) (by simp[hj])
  rw[em]at this;simpa using this
def AU [Inhabited Pick]{h W2:AT}(Z:h.ownsRow B 2 1 v o.length (o.map (Value.int .i64)))(J:W2=h.alloc (.cells #[V st,v,V ex,V us,V dp] 29))(Y:E=h.heap.size):FB W2 E st v o ex us dp/\Bl h W2:=by
 have I:Bl h W2:=by rw[J];exact r_.alloc n_ _
 obtain⟨U,h2⟩:=i8 Z;exact⟨⟨by rw[J,Y];exact aH h _ _ i_,U.below I,h2⟩,I⟩
def D_ [Inhabited Pick]{w5 h:AT}{G:Nat}{c0 c1 Y c3 c4:BY}(Z:aK h G [c0,c1,Y,c3,c4])(hO:h.ownsRow B 2 1 v o.length (o.map (Value.int .i64)))(hG:G<B)(h5:w5.heap.size<=G)(J:Bl w5 h):
  FB (((((h.setCell ⟨G,0,none⟩ (V st)).setCell ⟨G,1,none⟩ v).setCell ⟨G,2,none⟩ (V ex)).setCell ⟨G,3,none⟩ (V us)).setCell ⟨G,4,none⟩ (V dp)) G st v o ex us dp/\Bl w5 (((((h.setCell ⟨G,0,none⟩ (V st)).setCell ⟨G,1,none⟩ v).setCell ⟨G,2,none⟩ (V ex)).setCell ⟨G,3,none⟩ (V us)).setCell ⟨G,4,none⟩ (V dp)):=by
 have I:ak (λk=>k=G) h (((((h.setCell ⟨G,0,none⟩ (V st)).setCell ⟨G,1,none⟩ v).setCell ⟨G,2,none⟩ (V ex)).setCell ⟨G,3,none⟩ (V us)).setCell ⟨G,4,none⟩ (V dp)):=(((((ak.refl (λk=>k=G) h).setCell (p:=⟨G,0,none⟩) rfl _).setCell (p:=⟨G,1,none⟩) rfl _).setCell (p:=⟨G,2,none⟩) rfl _).setCell (p:=⟨G,3,none⟩) rfl _).setCell (p:=⟨G,4,none⟩) rfl _;obtain⟨U,h2⟩:=i8 (aN hO I (λk hk=>by omega));exact⟨⟨((((Z.set 0 _).set 1 _).set 2 _).set 3 _).set 4 _,U,h2⟩,I.below J J.size (λk hk=>by omega)⟩
def C7(R E:Nat)(vg vf:BY)(st:Int)(v:BY)(ex us dp:Int)(W:AT):Prop:=W.cell? ⟨R,0,none⟩=some vg/\W.cell? ⟨R,1,none⟩=some vf/\W.cell? ⟨E,0,none⟩=some (V st)/\W.cell? ⟨E,1,none⟩=some v/\W.cell? ⟨E,2,none⟩=some (V ex)/\W.cell? ⟨E,3,none⟩=some (V us)/\W.cell? ⟨E,4,none⟩=some (V dp)
def Fb(h:aK W R [vg,vf])(h':aK W E [V st,v,V ex,V us,V dp]):C7 R E vg vf st v ex us dp W:=
 ⟨(h 0 _ rfl).1,(h 1 _ rfl).1,(h' 0 _ rfl).1,(h' 1 _ rfl).1,(h' 2 _ rfl).1,(h' 3 _ rfl).1,(h' 4 _ rfl).1⟩
theorem AV(a:Option Addr)(len cap:Nat)(a2:Option Addr)(Jb Xa:Nat)(w:World)(hT:dq w)(hl:len<=1048576)(Y_:Jb<=1048576)(hb:B8 w a len)(J_:B8 w a2 Jb):
  Calls prog 4 #[.slice a len cap,.slice a2 Jb Xa] w λe w'=>e=rW (.bool true)/\Below w.heap.size w w':=by
 haveI : Inhabited Pick := ⟨⟨fun _ h => Classical.choice h⟩⟩
 have HT:Hid (∀W,Bl w W->dq W):=λW hW=>hT.below hT.size hW;have HD:=ah (wP a len cap w hl hb);obtain⟨x,hx,Yf⟩:=wk a2 Jb Xa w Y_ J_;have Yo:=ah Yf;clear hT hb J_ Yf;have Zd:¬(1048576:Int)<(len:Int):=o_
 have Yr:¬(1048576:Int)<(Jb:Int):=o_;go_in;go_wp2_with fail;refine HD.out.mono ?_;rintro e w1 ⟨vg,vf,t,vI,zs,F,vF,fr,rfl,Xc,hI,Xq,Xt,Xo⟩;obtain⟨st,o,ex,us,dp,Jv,o2,Jw,Ju,Jr,h1,h2,h3,Ji⟩:=AS t zs fr F x hx.1;obtain⟨hsm,Xd⟩:=Xc.small;obtain⟨W,eW⟩:=q_ (w1.alloc (.cells #[vg,vf] 34));obtain⟨R,eR⟩:=q_ w1.heap.size;have Jo:Bl w1 W:=by rw[eW];exact r_.alloc n_ _
 have hk:FE w W R vg vf t vI zs vF fr:=⟨by rw[eW,eR];exact aH w1 #[vg,vf] _ (by show 2<=1000;omega),Xc.gs _ (Jo.tcs (S:=λ_=>False)),Xc.fs _ (Jo.tcs (S:=λ_=>False)),dw hI Jo,dw Xq Jo,by rw[eW,eR];simp,Xo.trans (Jo.mono Xo.size)⟩;have Yw:=ah λX (hX:FE w X R vg vf t vI zs vF fr)=>h1 X vg vf vI vF (HT.out X hX.old) hsm Xd hX.g hX.f hX.i hX.fr;have Yz:=ah λX (hX:FE w X R vg vf t vI zs vF fr)=>h2 X vg vf vI vF hsm Xd hX.g hX.f hX.i hX.fr o_ o_;have Yt:=ah λX (hX:FE w X R vg vf t vI zs vF fr)=>h3 X vg vf vI vF (HT.out X hX.old) hsm Xd hX.g hX.f hX.i hX.fr;obtain⟨ga,gc,Yk,-⟩:=id hk.g;obtain⟨fa,fc,Xs,-⟩:=id hk.f;obtain⟨ia,ic,Yg,-⟩:=id hk.i;obtain⟨ra,rc,Yc,-⟩:=id hk.fr;obtain⟨gn,Xv⟩:=q_ t.globals.length;obtain⟨fn,Ye⟩:=q_ t.funcs.length;obtain⟨Ya,Yi⟩:=q_ zs.length;obtain⟨rn,Xp⟩:=q_ fr.length;rw[<-Xv]at Yk;rw[<-Ye]at Xs;rw[<-Yi]at Yg;rw[<-Xp]at Yc;subst Yk Xs Yg Yc;have HK:=ah hk;have HW:=ah eW;have HR:=ah eR;have Yy:=ah Ji;have hF:0<=F/\F<=100001:=Xt.2.2;clear HD HT Xc hI Xq Xt Xo h1 h2 h3 Ji hsm Xd eW eR Jo hk Xv Ye Yi Xp;go_upto_region 4 with fail;rw[<-HW.out,<-HR.out];have z0:=(HK.out.box 0 _ rfl).1;have z1:=(HK.out.box 1 _ rfl).1;clear HW;go_wp2_with fail;refine(Yw.out W HK).mono ?_;rintro e w2 ⟨vO,rfl,J,J_⟩;obtain⟨W2,Xm⟩:=q_ (w2.alloc (.cells #[V st,vO,V ex,V us,V dp] 29));obtain⟨E,eE⟩:=q_ w2.heap.size;obtain⟨U,Jq⟩:=AU J Xm eE;have X_:=(HK.out.below J_).below Jq;obtain⟨oa,oc,Xz,-⟩:=id U.oi;obtain⟨on,Xr⟩:=q_ o.length;rw[<-Xr]at Xz;subst Xz;have Xe:=ah X_;have Jx:=ah U;have Xu:=ah Xm;have HE:=ah eE;clear J J_ Xm eE U Jq X_ Xr z0 z1;go_upto_region 5 with fail;rw[<-Xu.out,<-HE.out];clear Xu;have Jp:Hid (Bl W2 W2.drew):=r_.drew;have Xf:=ah λX (hX:Bl W2 X)=>Fb (Xe.out.box.below hX) (Jx.out.box.below hX);have Yj:Hid (Calls prog 7 #[.agg #[.slice ga gn gc,.slice fa fn fc],.slice ia Ya ic,V F,.slice ra rn rc] W2.drew λe w'=>∃va vn I,e=rW (.agg #[V st,.slice va vn I,V ex,V us,V dp])/\C7 R E (.slice ga gn gc) (.slice fa fn fc) st (.slice oa on oc) ex us dp w'/\Ints w' (.slice va vn I) o/\Bl W2 w'):=by
  refine(Yz.out W2.drew (Xe.out.below Jp)).mono ?_;rintro e w' ⟨v,rfl,J,hb⟩;obtain⟨hi,-⟩:=i8 J;have Jt:=Jp.out.trans (hb.mono Jp.out.size);obtain⟨va,I,rfl,-⟩:=id hi;exact⟨va,_,I,rfl,Xf.out _ Jt,hi,Jt⟩
 have Xw:Hid (∀X va vn I,Ints X (.slice va vn I) o/\Bl W2 X->Calls prog 19 #[.agg #[V st,.slice oa on oc,V ex,V us,V dp],.agg #[V st,.slice va vn I,V ex,V us,V dp]] X λe w'=>e=rW (.bool true)/\C7 R E (.slice ga gn gc) (.slice fa fn fc) st (.slice oa on oc) ex us dp w'/\Bl W2 w'):=λX va vn I hX=>by
  refine(mq st ex us dp _ _ o X Jx.out.ol.1 (Jx.out.oi.below hX.2) hX.1).mono ?_;rintro e w' ⟨rfl,hb⟩;have Jt:=hX.2.trans (hb.mono hX.2.size);exact⟨rfl,Xf.out _ Jt,Jt⟩
 obtain⟨y0,y1,y2,y3,y4,y5,y6⟩:=Xf.out _ Jp;go_region_held3 (λW=>W.cell? ⟨R,0,none⟩=some (.slice ga gn gc)/\W.cell? ⟨R,1,none⟩=some (.slice fa fn fc)/\W.cell? ⟨E,0,none⟩=some (V st)/\W.cell? ⟨E,1,none⟩=some (.slice oa on oc)/\W.cell? ⟨E,2,none⟩=some (V ex)/\W.cell? ⟨E,3,none⟩=some (V us)/\W.cell? ⟨E,4,none⟩=some (V dp)) (go_simp)
  (first
  | ((with_reducible refine Calls.mono Yj.out ?_);rintro e w4 ⟨va,vn,I,rfl,⟨s0,s1,s2,s3,s4,s5,s6⟩,Xx⟩;have Ym:=ah Xx;clear Xx)
  | ((with_reducible refine Calls.mono (Xw.out _ _ _ _ Ym.out) ?_);rintro e w5 ⟨rfl,⟨v0,v1,v2,v3,v4,v5,v6⟩,Yh⟩;have Xk:=ah Yh;clear Yh))
 have Jg:=ah (Xe.out.below Xk);have Yd:=ah (Jx.out.below Xk);clear y0 y1 y2 y3 y4 y5 y6 s0 s1 s2 s3 s4 s5 s6 Yj Xw Ym Xk Xf Xe Jx Jp;by_cases h0:st=0
 ·subst h0;go_wp2;go_ret;exact⟨rfl,Jg.out.old⟩
 ·have Jk:Hid (Bl w5 w5.drew):=r_.drew;have Js:Hid (∀o,Bl w5 (w5.alloc o).drew):=λo=>(r_.alloc n_ o).drew;have Jf:=ah λX (hX:Bl w5 X)=>Yo.out X (Jg.out.old.trans (hX.mono Jg.out.old.size));have HY:Hid (∀W,Bl w5 W->W.cell? ⟨R,0,none⟩=some (.slice ga gn gc)/\W.cell? ⟨R,1,none⟩=some (.slice fa fn fc)):=λW hW=>⟨((Jg.out.box.below hW) 0 _ rfl).1,((Jg.out.box.below hW) 1 _ rfl).1⟩;have Jm:Hid (∀X,Bl w5 X->Calls prog 10 #[.agg #[.slice ga gn gc,.slice fa fn fc],.slice ia Ya ic,V (F+x),.slice ra rn rc] X λe w'=>∃va vn I,e=rW (.agg #[V Jv,.slice va vn I,V Jw,V Ju,V Jr])/\w'.ownsRow X.heap.size 2 1 (.slice va vn I) o2.length (o2.map (Value.int .i64))/\Bl X w'):=λX hX=>by
   refine(Yt.out X (Jg.out.below hX)).mono ?_;rintro e w' ⟨v,rfl,J,hb⟩;obtain⟨va,I,rfl,-⟩:=(i8 J).1;exact⟨va,_,I,rfl,J,hb⟩
  have Yb:=ah λwn (h:Below (w5.alloc (.cells #[V 0,nV,V 0,V 0,V 0] 29)).drew.heap.size (w5.alloc (.cells #[V 0,nV,V 0,V 0,V 0] 29)).drew wn)=>((aH w5 #[V 0,nV,V 0,V 0,V 0] 29 (by show 5<=1000;omega)).below r_.drew).below h;have Zc:IntKind.i64.wrap (F+x)=F+x:=by rw[IntKind.wrap_i64];omega
  have Yx:R<w5.heap.size:=Jg.out.lt;have Yn:¬R=w5.heap.size:=o_;have Xn:¬w5.heap.size=R:=o_;go_upto_region 9 with fail;go_cut [10]from 11 to 82 (λp W=>∃G va vn I,p=pV G/\FB W G Jv (.slice va vn I) o2 Jw Ju Jr/\Bl w5 W)
  case first=>
   have y0:=(HY.out _ Jk).1;have y1:=(HY.out _ Jk).2;have k2:∀o,(w5.alloc o).drew.cell? ⟨R,0,none⟩=some (.slice ga gn gc)/\(w5.alloc o).drew.cell? ⟨R,1,none⟩=some (.slice fa fn fc):=λo=>HY.out _ (Js.out o);clear v0 v1 v2 v3 v4 v5 v6;go_region_held (λW=>W.cell? ⟨R,0,none⟩=some (.slice ga gn gc)/\W.cell? ⟨R,1,none⟩=some (.slice fa fn fc)) (first|(with_reducible exact k2 _)|(with_reducible exact qa _)|go_keep)
    (first
    | ((with_reducible refine Calls.mono (Jf.out _ Jk.out) ?_);rintro e wz ⟨rfl,Jh⟩;rw[Jh];clear Jh)
    | ((with_reducible refine Calls.mono (Jf.out _ (Js.out _)) ?_);rintro e wz ⟨rfl,Jh⟩;rw[Jh];clear Jh)
    | ((with_reducible refine Calls.mono (Jm.out _ Jk.out) ?_);intro e wn Xg;obtain⟨va,vn,I,Xh,J,Z⟩:=Xg;subst Xh;have HO:=ah J;have Yv:=ah Z;have Jn:Hid (Bl w5 wn):=Jk.out.trans (Z.mono i_);have q:=HY.out wn Jn.out;have qa:∀o,(wn.alloc o).cell? ⟨R,0,none⟩=some (.slice ga gn gc)/\(wn.alloc o).cell? ⟨R,1,none⟩=some (.slice fa fn fc):=(λo=>HY.out (wn.alloc o) ((Jk.out.trans (Z.mono i_)).alloc (by have:=Z.size;simp at this;omega) o));clear J Z)
    | ((with_reducible refine Calls.mono (Jm.out _ (Js.out _)) ?_);intro e wn Xg;obtain⟨va,vn,I,Xh,J,Z⟩:=Xg;subst Xh;have HO:=ah J;have Yv:=ah Z;have Jn:Hid (Bl w5 wn):=(Js.out _).trans (Z.mono i_);have Xy:w5.heap.size<(w5.alloc (.cells #[.int .i64 0,.slice none 0 0,.int .i64 0,.int .i64 0,.int .i64 0] 29)).drew.heap.size:=i_;have Yq:=ah Xy;clear Xy;have q:=HY.out wn Jn.out;have Jj:=Yb.out wn Z;have HQ:=ah Jj;obtain⟨b0,f0⟩:=Jj 0 _ rfl;obtain⟨b1,f1⟩:=Jj 1 _ rfl;obtain⟨b2,f2⟩:=Jj 2 _ rfl;obtain⟨b3,f3⟩:=Jj 3 _ rfl;obtain⟨b4,f4⟩:=Jj 4 _ rfl;clear J Z Jj))
   all_goals (go_wp2_with fail)
   all_goals go_meet
   all_goals first
    | (have U:=D_ (w5:=w5) (st:=Jv) (ex:=Jw) (us:=Ju) (dp:=Jr) HQ.out HO.out Yq.out n_ Jn;exact⟨w5.heap.size,_,_,_,rfl,U.1,U.2⟩)
    | (have U:=AU (E:=wn.heap.size) (st:=Jv) (ex:=Jw) (us:=Ju) (dp:=Jr) HO.out rfl rfl;exact⟨wn.heap.size,_,_,_,rfl,U.1,Jn.out.trans (U.2.mono Jn.out.size)⟩)
  case rest=>
   obtain⟨G,va,vn,I,rfl,U,Xb⟩:=hcut;have Xj:=ah (Jg.out.below Xb);have Je:=ah (Yd.out.below Xb);have Y:=ah U;have Ys:=ah (Jf.out wc Xb);clear U Xb Jg Yd Jf Jk Js HY Jm Yb v0 v1 v2 v3 v4 v5 v6 Yx Yn Xn;go_wp2_with fail;refine Ys.out.mono ?_;rintro e wz ⟨rfl,Jh⟩;rw[Jh];clear Jh;have e0:=(Je.out.box 0 _ rfl).1;have e1:=(Je.out.box 1 _ rfl).1;have e2:=(Je.out.box 2 _ rfl).1;have e3:=(Je.out.box 3 _ rfl).1;have e4:=(Je.out.box 4 _ rfl).1;have g0:=(Y.out.box 0 _ rfl).1;have g1:=(Y.out.box 1 _ rfl).1;have g2:=(Y.out.box 2 _ rfl).1;have g3:=(Y.out.box 3 _ rfl).1;have g4:=(Y.out.box 4 _ rfl).1;rcases Yy.out with hc|⟨-,Jy,rfl⟩|⟨Jy,rfl,Jz,Za,rfl⟩|⟨Jy,Zb,Ze,rfl,rfl,rfl,rfl,rfl⟩
   ·exact absurd hc h0
   ·go_wp2;go_ret;exact⟨rfl,Xj.out.old⟩
   ·have Yp:=ah (pC (.slice oa on oc) (.slice va vn I) o o2 wc Y.out.ol.1 Jz Je.out.oi Y.out.oi Y.out.ol.2);clear Jz;go_wp2_with fail;refine Yp.out.mono ?_;rintro e w6 ⟨rfl,Jl⟩;have Xl:=ah (Xj.out.below Jl);have Xi:=Je.out.below Jl;have Yl:=Y.out.below Jl;have a3:=(Xi.box 3 _ rfl).1;have a4:=(Xi.box 4 _ rfl).1;have b4:=(Yl.box 4 _ rfl).1;clear Xi Yl Jl e0 e1 e2 e3 e4 g0 g1 g2 g3 g4;go_wp2;go_ret;exact⟨rfl,Xl.out.old⟩
   ·have Yu:=ah (mq Jv Jw Ju Jr (.slice oa on oc) (.slice va vn I) o2 wc Je.out.ol.1 Je.out.oi Y.out.oi);go_wp2_with fail;refine Yu.out.mono ?_;rintro e w6 ⟨rfl,Jl⟩;have Xl:=ah (Xj.out.below Jl);clear Jl e0 e1 e2 e3 e4 g0 g1 g2 g3 g4;go_wp2;go_ret;exact⟨rfl,Xl.out.old⟩
end Go.Proofs.YtffnkkpmlplfeaaGreatDoor
