import Derived.Test.YtffnkkpmlplfeaaGreatDoorF24
import Derived.Deep.CutRange
namespace Go.Proofs.YtffnkkpmlplfeaaGreatDoor
open Go.Value Go.World List
open Go.Proofs.Tryz Go.RowKit
set_option linter.all false
set_option maxRecDepth 100000
set_option maxHeartbeats 0
variable[Inhabited Pick]
variable{t:Tr}
def jM(h:(aU t).1=0):t.globals.length<=50/\t.funcs.length<=50/\∀g∈t.globals,0<=g.size/\g.size<=4000:=by
 obtain⟨I,-,-⟩:=dH h;simp only[df,GE,GF,all_eq_true]at I;refine⟨I.1,I.2.1,λg hg=>?_⟩;have:=I.2.2.1 g hg;simp only[cY,GE,GF]at this;exact this.2
def qT(h:(aU t).1=0){m:Nat}(I:bO t.funcs di=some m):∀hl:m<t.funcs.length,([]:List Int).length=t.funcs[m].params.length:=λhl=>by
 obtain⟨-,h1,-⟩:=dH h;unfold bP at h1;rw[I]at h1;split at h1
 ·simp at h1
 ·split at h1
  ·simp at h1
  ·simp only at h1;have e:t.funcs.getD m ⟨⟨#[]⟩,[],[]⟩=t.funcs[m]:=by simp[List.getD,hl]
   rw[e]at h1;split at h1
   ·simp at h1
   ·simp;omega
def GI.drew{w1 w:AT}{P:Nat}{gs:List Gl}{vG:BY}{gb:List Nat}(h:GI w1 P gs w vG gb):GI w1 P gs w.drew vG gb:=⟨h.ll,h.row,h.lw,h.nd,h.rng,h.lo,h.tc.drew⟩
def Dm{g:Gl}(h:0<=g.size/\g.size<=4000):(dV g:Int)=(if g.size=0 then 1 else g.size)/\dV g<=4000/\1<=dV g:=by
 unfold dV;split
 ·simp
 ·refine⟨o_,o_,o_⟩
theorem zw{fr:List Int}{n f:Nat}{vs:List Int}{s:ES}{r:ER}{s':ES}(h:Ev t fr n (.c f vs) s r s'):(∃v,r=.val v)∨∃c,r=.out c/\c≠0:=by
 have I:=h.outc;cases h using Ev_i with
 | run m _ _ _ hf rb z h1=>
  cases rb using ER.cs with
  | val v=>exact .inl ⟨v,rfl⟩
  | on=>exact .inl ⟨0,rfl⟩
  | ret v=>exact .inl ⟨v,rfl⟩
  | out c=>exact .inr ⟨c,rfl,by rcases I c rfl with h|h <;> omega⟩
def EvA(r:ER)(s':ES)(F:Int)(w:AT)(e:Ending)(w':AT):Prop:=∃vO,e=rW (.agg #[V (Bi r),vO,V (cI r),V (F-s'.u),V s'.d])/\w'.ownsRow w.heap.size 2 1 vO s'.o.length (s'.o.map (Value.int .i64))/\Bl w w'
theorem zx(t:Tr)(vg vf vI Oc:Value)(i fr:List Int)(F:Int)(w:World)(Zp:∀X,Below w.heap.size w X->Calls prog 24 #[.agg #[vg,vf]] X λe w'=>(∃x y,e=rW (.agg #[V (aU t).1,V x,V y]))/\Below X.heap.size X w')(hg:cK w vg t.globals)(hf:bC w vf t.funcs)(hI:fW w vI i)(Ob:fW w Oc fr)(Po:i.length<=1048576)(Pn:fr.length<=1048576)(Pm:t.funcs.length<=1048576)
  (Yt:(aU t).1=0) (Dg:i.length<=1000) (Od:i.all eu=true) (hF:0<=F/\F<=100000) (Xj:fr.length=t.funcs.length) (Xa:fr.all frB=true) {m n:Nat} {r:ER} {s':ES} (hm:bO t.funcs di=some m) (Vr:Ev t fr n (.c m []) (gv t i F) r s'):
  Calls prog 7 #[.agg #[vg,vf],vI,V F,Oc] w λe w'=>EvA r s' F w e w':=by
 obtain⟨Uj,HI,Un,Of,Uc,Jg,Pl,Ye,J_⟩:=h9 Zp hI hg hf Xj Yt Od Ob Xa;obtain⟨ag,cg,rfl,-⟩:=hg;obtain⟨af,cf,rfl,-⟩:=hf;obtain⟨ai,ci,rfl,Oz,Op,-⟩:=hI;obtain⟨ar,cr,rfl,Oy,P_,-⟩:=Ob;obtain⟨W1,Xm⟩:=q_ ((w.alloc (.cells #[.slice ag t.globals.length cg,.slice af t.funcs.length cf] 34)).alloc (.cells #[V 0,nV,V 0,V 0,V 0] 29));have Zo:Bl w W1:=by rw[Xm];exact(au _ _).alloc i_ _
 have Ze:=ah Zo;clear Zp Zo Xa;go_in;go_wp2_with fail;rw[<-Xm];have Ul:W1.heap.size=w.heap.size+2:=by rw[Xm,World.size_alloc,World.size_alloc]
 have Vy:aK W1 (w.heap.size+1) [V 0,nV,V 0,V 0,V 0]:=by
  rw[Xm];have:=aH (w.alloc (.cells #[.slice ag t.globals.length cg,.slice af t.funcs.length cf] 34)) #[V 0,nV,V 0,V 0,V 0] 29 d_;rw[World.size_alloc]at this;exact this
 have Xx:aK W1 w.heap.size [.slice ag t.globals.length cg,.slice af t.funcs.length cf]:=by
  rw[Xm];exact(aH w #[.slice ag t.globals.length cg,.slice af t.funcs.length cf] 34 (by show 2<=1000;omega)).below (au _ _)
 obtain⟨Vb,Vi⟩:=h2 Vy Xx;clear Xm Vy Xx;obtain⟨M,hM⟩:=q_ w.heap.size;rw[<-hM]at Vb Vi Ul⊢;have HM:=ah hM;clear hM;refine(Uj W1 Ze).mono ?_;rintro e w2 ⟨⟨x,y,rfl⟩,Xp⟩;have Jd:=Vb.out.below Xp;have Yi:=Vi.out.below Xp;have y0:=(Jd 0 _ rfl).1;have z0:=(Jd 0 _ rfl).2;have y1:=(Jd 1 _ rfl).1;have z1:=(Jd 1 _ rfl).2;have y2:=(Jd 2 _ rfl).1;have z2:=(Jd 2 _ rfl).2;have y3:=(Jd 3 _ rfl).1;have z3:=(Jd 3 _ rfl).2;have y4:=(Jd 4 _ rfl).1;have z4:=(Jd 4 _ rfl).2;have Yr:Bl w w2:=Ze.out.trans (Xp.mono Ze.out.size);have Zg:=ah Yr;have Df:=mg;rw[Yt];obtain⟨Xd,Yc⟩:=h2 Yi Jd;clear Jd Yi Xp Yr;have Xx:=Xd;have x1:=(Xx 1 _ rfl).1;have Ps:¬(1000:Int)<(i.length:Int):=o_;go_wp2_with fail;have Uw:Bl w w2:=Zg;refine(jh _ i w2 ⟨ai,ci,rfl,Oz,Op,?_⟩ Po).mono ?_
 ·intro Zr;obtain⟨a',c',e',-,-,h3⟩:=HI;simp only[Value.slice.injEq]at e';obtain⟨rfl,-,rfl⟩:=e';obtain⟨b,Uy,rfl,hc⟩:=h3 Zr;exact⟨b,Uy,rfl,λj hj=>(Uw.cell (p:=⟨b,_,none⟩) (b_ (hc j hj))).trans (hc j hj)⟩
 rintro e w3 ⟨rfl,Yw⟩;have Jh:=Yc.out.below Yw;have Zf:=Xd.out.below Yw;have Zl:=ah (Zg.out.trans (Yw.mono Zg.out.size));clear x1 y0 y1 y2 y3 y4 z0 z1 z2 z3 z4 Uw;have x1:=(Zf 1 _ rfl).1;have x0:=(Zf 0 _ rfl).1;have y0:=(Jh 0 _ rfl).1;have z0:=(Jh 0 _ rfl).2;have y1:=(Jh 1 _ rfl).1;have z1:=(Jh 1 _ rfl).2;have y2:=(Jh 2 _ rfl).1;have z2:=(Jh 2 _ rfl).2;have y3:=(Jh 3 _ rfl).1;have z3:=(Jh 3 _ rfl).2;have y4:=(Jh 4 _ rfl).1;have z4:=(Jh 4 _ rfl).2;obtain⟨Ol,Uo,Uv⟩:=h3 (((((Jh.set 0 (V 0)).set 1 nV).set 2 (V 0)).set 3 (V 0)).set 4 (V 0)) Zf Jh;clear Jh Zf Yw Xx;rw[Od];go_wp2_with fail;refine(dx _ _ _ _).mono ?_;rintro e w4 ⟨rfl,X_⟩;rw[X_];clear X_;have Ji:decide ((0:Int)<=F/\F<=100000)=true:=decide_eq_true hF;rw[Ji];clear Ji;obtain⟨fl,Xi⟩:=q_ fr.length;have Vj:=ah Xi;rw[<-Xj]at x1⊢;rw[<-Xi]at x1 Pn Oy⊢;have Oq:((fl:Int) != (fl:Int))=false:=i_;clear Xi Xj;go_wp2;go_loopw[9] (λj wr=>∃k:Nat,k<=fl/\j=V (k:Int)/\(fr.take k).all frB=true/\wr=w3) (λj _=>fl-(RowKit.intOf j).toNat)
 case atStart=>exact⟨0,y_,rfl,rfl,rfl⟩
 case round=>
  obtain⟨k,hk,rfl,ha,Ur⟩:=hrel;rw[Ur];clear Ur;have V_:=ah ha;clear ha;by_cases hlt:k<fl
  ·have Oe:(k:Int)<(fl:Int):=o_
   have Za:k<fr.length:=by rw[<-Vj.out];exact hlt
   obtain⟨a',c',e',-,-,h3⟩:=Ye;simp only[Value.slice.injEq]at e';obtain⟨rfl,-,rfl⟩:=e';obtain⟨b,Uy,rfl,hc⟩:=h3 o_;have Zp:=(Zl.out.cell (p:=⟨b,_,none⟩) (b_ (hc k Za))).trans (hc k Za);obtain⟨x',hx⟩:=q_ (fr[k]);rw[<-hx]at Zp;have HX:=ah hx;clear hx hc h3;go_wp2_with fail;refine(dx _ _ _ _).mono ?_;rintro e w4 ⟨rfl,X_⟩;rw[X_];clear X_;by_cases hb:0<=x'/\x'<=1000000
   ·have Ji:decide ((0:Int)<=x'/\x'<=1000000)=true:=decide_eq_true hb;rw[Ji];have Zc:Hid ((fr.take (k+1)).all frB=true):=by show _=_;rw[List.take_succ_eq_append_getElem Za,List.all_append,V_.out];simp[<-HX.out,frB,hb]
    clear Ji hb;go_wp2;go_roundw
    case rel=>exact⟨k+1,o_,by go_num,Zc,trivial⟩
    case measure=>simp[RowKit.intOf];omega
   ·exfalso
    have:=J_.out
    rw[List.all_eq_true]at this;have h2:=this fr[k] (g_ Za);rw[<-HX.out]at h2;simp only[frB,decide_eq_true_eq]at h2;exact hb h2
  ·have Oe:¬(k:Int)<(fl:Int):=o_
   clear Ol V_;go_wp2_with fail;obtain⟨W4,Yk⟩:=q_ (w3.alloc (.cells #[.slice ag t.globals.length cg,.slice af fl cf,nV,nV,.slice ai i.length ci,nV,V F,V 0,V 0,.bool false,V 0,.slice ar fl cr,V 0,V 0] 61));have Zj:Bl w3 W4:=by rw[Yk];exact r_.alloc n_ _
   have Zw:W4.heap.size=w3.heap.size+1:=by rw[Yk,World.size_alloc]
   have Xn:aK W4 w3.heap.size [.slice ag t.globals.length cg,.slice af fl cf,nV,nV,.slice ai i.length ci,nV,V F,V 0,V 0,.bool false,V 0,.slice ar fl cr,V 0,V 0]:=by
    rw[Yk];exact aH w3 _ _ (by show 14<=1000;omega)
   have Pf:M+1<w3.heap.size:=b_ y0;rw[<-Yk];clear Yk;obtain⟨P,hP⟩:=q_ w3.heap.size;rw[<-hP]at Zw Xn Pf⊢;obtain⟨Yz,Uf,Uh,Vt,Og⟩:=h5 (Zl.out.trans (Zj.mono Zl.out.size)) (Uo.out.below Zj) (Uv.out.below Zj) Xn Zw;have Pk:w.heap.size<=P:=by rw[hP];exact Zl.out.size
   clear hP Zj Xn Uo Uv x0 x1 y0 y1 y2 y3 y4 z0 z1 z2 z3 z4 Zg Xd Yc Uj Vb Vi Ze Ul Zw;go_loopw[11] (λj wr=>∃(k:Nat) (gb:List Nat) (xa:Option Addr) (xc:Nat),k<=t.globals.length/\j=V (k:Int)/\GI W4 P (t.globals.take k) wr (.slice xa k xc) gb/\aK wr P [.slice ag t.globals.length cg,.slice af fl cf,.slice xa k xc,nV,.slice ai i.length ci,nV,V F,V 0,V 0,.bool false,V 0,.slice ar fl cr,V 0,V 0]) (λj _=>t.globals.length-(RowKit.intOf j).toNat)
   case atStart=>exact⟨0,[],none,0,y_,rfl,GI.start,Vt⟩
   case round=>
    clear Vt;obtain⟨J,gb,xa,xc,Pt,rfl,Xq,Xn⟩:=hrel;have Zu:P<W4.heap.size:=by rw[Og.out];omega
    have Pd:M+1<W4.heap.size:=o_;have Vw:M≠P:=o_;have Yq:M+1≠P:=o_;obtain⟨Vn,Zh,Yu,Uq⟩:=h4 Xq Xn (Uf.out.tcs (by omega:M<W4.heap.size) Xq.tc Vw) (Uh.out.tcs Pd Xq.tc Yq);have Ym:Bl w wr:=Xq.tc.below Yz Yz.out.size (λk hk=>by have e:k=P:=hk;omega);have U_:=ah Ym;have Pr:W4.heap.size<=wr.heap.size:=Xq.tc.size;have Os:t.globals.length<=50:=(jM Jg).1;clear Xq Xn;by_cases hlt:J<t.globals.length
    ·have Zy:(J:Int)<(t.globals.length:Int):=o_
     obtain⟨a',c',e',-,-,h3⟩:=Un;simp only[Value.slice.injEq]at e';obtain⟨rfl,-,rfl⟩:=e';obtain⟨bg,og,rfl,hc⟩:=h3 o_;obtain⟨c0,c1⟩:=hc J hlt;have Ui:bg<w.heap.size:=b_ c0;have q0:=(Ym.cell (p:=⟨bg,og+J*2,none⟩) Ui).trans c0;have q1:=(Ym.cell (p:=⟨bg,og+J*2+1,none⟩) Ui).trans c1;have Ue:=(jM Jg).2.2 _ (g_ hlt);have Zc:=ah (List.take_succ_eq_append_getElem hlt);have Vz:(t.globals.take J).length=J:=by rw[List.length_take];omega
     obtain⟨gk,Um⟩:=q_ (t.globals[J]);rw[<-Um]at c0 c1 q0 q1 Ue Zc;obtain⟨Xl,Oa,Or⟩:=Dm Ue;obtain⟨N,hN⟩:=q_ (dV gk);have HN:=ah hN;rw[<-hN]at Xl Oa Or;have m0:=(Yu 0 _ rfl).1;have Vs:=ah Vz;clear hc h3 Um Vz hN;go_upto_if 76 with fail
     go_cut [12]from 62 to 94 (λv W=>v=V (N:Int)/\W=wr)
     case first=>
      by_cases hz:gk.size=0
      ·rw[if_pos hz]at Xl;go_wp2;go_meet
       case rel=>exact⟨by rw[Xl],rfl⟩
      ·rw[if_neg hz]at Xl;have Pq:(gk.size == 0)=false:=by simpa using hz
       go_wp2;go_meet
       case rel=>exact⟨by rw[Xl],rfl⟩
     case rest=>
      obtain⟨rfl,Ut⟩:=hcut;rw[Ut];clear Ut Xl;go_upto_region 15 with fail;obtain⟨W5,Zi⟩:=q_ wr.drew;have Xk:Bl wr W5:=by rw[Zi];exact r_.drew
      have Vd:GI W4 P (t.globals.take J) W5 (.slice xa J xc) gb:=by rw[Zi];exact Vn.out.drew
      obtain⟨W6,Xz⟩:=q_ (W5.alloc (.cells (Array.replicate N (V 0)) 2));obtain⟨W7,Zk⟩:=q_ (W6.alloc (.cells #[sV gk.name,rV W5.heap.size N N] 65));obtain⟨va,vn,vc,w8,r8,Vf,t8,Zm⟩:=yX (W:=W7) gk Vd Zu (by rw[<-HN.out];omega) (by rw[Vs.out];have:=(jM Jg.out).1;omega) (by rw[Zk,Xz,HN.out]);rw[Vs.out]at Zm;have Zd:Bl W5 W6:=by rw[Xz];exact r_.alloc n_ _
      have Zn:Bl W5 W7:=by rw[Zk];exact Zd.alloc Zd.size _
      have Vu:W6.heap.size=W5.heap.size+1:=by rw[Xz,World.size_alloc]
      have Yv:wr.heap.size<=W5.heap.size:=Xk.size;have Jp:∀X,Bl wr X->(X.cell? ⟨P,2,none⟩=some (.slice xa J xc)/\X.cell? ⟨M,0,none⟩=some (.slice (some ⟨bg,og,none⟩) t.globals.length cg)/\X.cell? ⟨bg,og+J*2,none⟩=some (sV gk.name)):=λX hX=>⟨((Zh.out.below hX) 2 _ rfl).1,((Yu.out.below hX) 0 _ rfl).1,(hX.cell (p:=⟨bg,_,none⟩) (b_ q0)).trans q0⟩;obtain⟨Oh,Ux⟩:=h2 (Jp W5 Xk) (Jp W6 (Xk.trans (Zd.mono Yv)));have Xw:=Jp W7 (Xk.trans (Zn.mono Yv));have Pc:=ah Xw;have Vp:∀g,(Value.slice xa J xc).ownBlock=some g->W4.heap.size<=g:=λg hg=>(World.ownsRow.lt Vd.row g hg).1;have Dc:wr.heap.size<=W7.heap.size:=t_ Yv Zn.size;have Yx:∀g,g<W4.heap.size->∀o,w8.cell? ⟨g,o,none⟩=W7.cell? ⟨g,o,none⟩:=λg hg o=>c_ (t8.block g o_ (λe=>by have:=Vp g e;omega));have Up:w8.cell? ⟨P,2,none⟩=some (.slice xa J xc)/\w8.cell? ⟨M,0,none⟩=some (.slice (some ⟨bg,og,none⟩) t.globals.length cg)/\w8.cell? ⟨bg,og+J*2,none⟩=some (sV gk.name):=⟨(Yx P Zu _).trans Xw.1,(Yx M o_ _).trans Xw.2.1,(Yx bg (by have:=Yz.out.size;omega) _).trans Xw.2.2⟩;have Uk:=ah Up;have Yy:aK w8 P _:=(Zh.out.below (Xk.trans (Zn.mono Yv))).tcs o_ t8 (λe=>by have:=Vp P e;omega);have x8:=(Yy 2 _ rfl).1;have f8:=(Yy 2 _ rfl).2;have Jy:Hid (GI W4 P (t.globals.take (J+1)) (w8.setCell ⟨P,2,none⟩ (.slice va (J+1) vc)) (.slice va (J+1) vc) (gb++[W5.heap.size])/\aK (w8.setCell ⟨P,2,none⟩ (.slice va (J+1) vc)) P [.slice (some ⟨bg,og,none⟩) t.globals.length cg,.slice af fl cf,.slice va (J+1) vc,nV,.slice ai i.length ci,nV,V F,V 0,V 0,.bool false,V 0,.slice ar fl cr,V 0,V 0]):=by
       rw[Zm]at Vf;exact⟨by rw[Zc.out];exact Vf,Yy.set 2 _⟩
      rw[Zm]at r8;obtain⟨Ua,Om,Pi,Pe,Pb⟩:=h5 r8 Zi Xz Zk Vu;obtain⟨kk,Xf⟩:=q_ (J+1);rw[<-Xf]at Ua Jy;have On:=ah Xf;have Dd:(0:Int)<=(N:Int):=o_;clear Xf Vf r8 t8 Xk Zd Zn Vd Xz Zk Vu Jp Xw Up Yx Vp Zm Zi c0 c1 q0 q1 Ym Yy m0;have I:=Oh;refine aM 18 (λX=>X.cell? ⟨P,2,none⟩=some (.slice xa J xc)/\X.cell? ⟨M,0,none⟩=some (.slice (some ⟨bg,og,none⟩) t.globals.length cg)/\X.cell? ⟨bg,og+J*2,none⟩=some (sV gk.name)) k_ ?_;rw[<-Om.out];refine tk 0 [16,17,18] I ?_;refine tk 1 [2,3,4,15,18] I ?_;refine tk 2 [3,4,15,18] I ?_;refine tk 3 [4,15,18] I ?_;refine tk 4 [15,18] I ?_;refine tk 5 [6,8,9,10,13,14,15,18] I ?_;refine tk 6 [8,9,10,13,14,15,18] I ?_;refine tk 7 [8,9,10,13,14,15,18] I ?_;refine tk 8 [9,10,13,14,15,18] I ?_;refine tk 9 [10,13,14,15,18] I ?_;refine tk 10 [13,14,15,18] I ?_;refine tk 11 [12,13,14,15,18] I ?_;clear I;have Oi:=yI N Oa W5;refine aq (i:=12) k_ rfl (λK hK=>?_);go_simp;rw[<-Pi.out];refine hK.out _ _ (λ_=>Ux) ?_;clear hK K Oi;try simp only[Act.put,tA,tB,tC]
      have I:=Ux;refine tk 13 [14,15,18] I ?_;clear I;refine aq (i:=14) k_ rfl (λK hK=>?_);go_simp;rw[<-Pe.out,Pb.out];refine hK.out _ _ (λ_=>Pc) ?_;clear hK K;try simp only[Act.put,tA,tB,tC]
      refine aq (i:=15) k_ rfl (λK hK=>?_);refine cJ rfl (.tmp 81) (.tmp 91) 59 rfl (.slice xa J xc) (.slice (some ⟨W5.heap.size+1,0,none⟩) 1 1) (.slice va kk vc) w8 rfl rfl Ua ?_;refine hK.out _ _ (λ_=>Uk) ?_;clear hK K;try simp only[Act.put,tA,tB,tC]
      have I:=Uk;refine tk 16 [17,18] I ?_;refine tk 17 [18] I ?_;clear I;refine aq (i:=18) k_ rfl (λK hK=>?_);go_simp;refine hK.out _ _ (λh=>absurd rfl h) ?_;clear hK K;refine aJ k_ ?_ _;go_wp2;go_roundw
      case rel=>
       have:=Jy.out
       rw[On.out]at this⊢;exact⟨J+1,_,va,vc,o_,by go_num,this.1,this.2⟩
      case measure=>simp[RowKit.intOf];omega
    ·have Zy:¬(J:Int)<(t.globals.length:Int):=o_
     have Xf:J=t.globals.length:=o_;have Y_:GI W4 P t.globals wr (.slice xa t.globals.length xc) gb:=by
      have:=Vn.out
      rw[Xf,List.take_length]at this;exact this
     have Us:aK wr P [.slice ag t.globals.length cg,.slice af fl cf,.slice xa t.globals.length xc,nV,.slice ai i.length ci,nV,V F,V 0,V 0,.bool false,V 0,.slice ar fl cr,V 0,V 0]:=by
      have:=Zh.out
      rw[Xf]at this;exact this
     have Xh:fl=t.funcs.length:=Vj.out.trans Uc;have Vm:bC w (.slice af fl cf) t.funcs:=by rw[Xh];exact Of
     have Xy:fW w (.slice ar fl cr) fr:=by rw[Vj.out];exact Ye
     have Vc:=(jM Jg).2.2;have Xt:∀x∈i,et x:=λx hx=>by
      have:=List.all_eq_true.1 Pl.out x hx
      simpa[eu,et]using this
     obtain⟨bG,Vv,Ub⟩:=y7 (d:=M) (fr:=fr) Yz Y_ ⟨Pk,Zu⟩ ⟨by have:=HM.out;omega,o_,Vw⟩ Us HI Xt hF (λg hg=>⟨(Vc g hg).1,by have:=(Vc g hg).2;omega⟩);obtain⟨C,Ju⟩:∃C:RC,C=⟨w,t,fr,.slice ag t.globals.length cg,.slice af fl cf,.slice ar fl cr,P,bG,xa,xc,gb,F⟩:=⟨_,rfl⟩;have hC:C.Ok:=by
      rw[Ju];refine⟨Un,Vm,Xy,Jg,Uc,λx hx=>?_,Y_.ll,hF,⟨by show t.globals.length<=_;omega,by show t.funcs.length<=_;have:=(jM Jg.out).2.1;omega⟩,Vv⟩;have:=List.all_eq_true.1 J_.out x hx;simp only[frB,decide_eq_true_eq]at this;exact⟨this.1,o_⟩
     have Ud:RS C wr 0 false 0 [] nV (.slice ai i.length ci) nV (gv t i F):=by rw[Ju];exact Ub
     have Vg:C.t=t:=by rw[Ju]
     have Oj:C.fr=fr:=by rw[Ju]
     have Ve:C.P=P:=by rw[Ju]
     have Vo:C.w0=w:=by rw[Ju]
     have Ox:C.F=F:=by rw[Ju]
     have Ph:m<t.funcs.length:=de hm;have Jz:Hid (∀X:World,RS C X 0 false 0 [] nV (.slice ai i.length ci) nV (gv t i F)->∀(b:Nat),w.heap.size<=b->b∉C.K []->X.ownsRow b 2 1 (rV b 0 0) 0 []->Calls prog 31 #[pV P,V (m:Int),rV b 0 0] X λx w'=>kg C X [] nV nV r s' x w'):=λX hX b Zo Xp hr=>by
      have:=(zt C hC n).2.1 m [] (gv t i F) r s' (by rw[Vg,Oj];exact Vr) (by rw[Vg];exact⟨List.nodup_nil,λx hx=>by cases hx⟩) (by rw[Vg];exact qT Jg.out hm) (λx hx=>by cases hx) (by show(0:Int)+1000000000*(((F.toNat:Nat):Int)+1)<=_;omega) X 0 [] nV (.slice ai i.length ci) nV (rV b 0 0) b hX ⟨hr,λk hk=>by
       have e:b=k:=by simpa[Value.ownBlock]using hk
       subst e;exact⟨by rw[Vo];exact Zo,Xp,(λh=>by cases h),(λh=>by cases h)⟩⟩
      rw[Ve]at this;exact this
     have Yl:=zw Vr;obtain⟨Jy,Zs,Ya⟩:=h3 Yl Ud (Vm.below U_);have m0:=(Yu 0 _ rfl).1;have m1:=(Yu 1 _ rfl).1;have Vx:jG t.funcs di=(m:Int):=ed hm;rw[<-Xh]at m1;have Uu:∀b,wr.heap.size<=b->b∉C.K []:=λb hb hm=>by have:=(Zs.out.rng b hm).2;omega
     obtain⟨Ug,Pa,Db⟩:=h3 Uu Vx Ph;have Ow:Hid (∀b∈gb,W4.heap.size<=b):=λb hb=>(Y_.rng b hb).1;have Vl:Hid (C.gb=gb):=by show _=_;rw[Ju]
     clear Xh Y_ Us Vm Xy Vc Xt Ub Ju hC Ud Yl hm Vr Vv Xf Uu Vx Vn Zh Ym Uf Uh;have Vh:t.funcs.length<=1048576:=Pm;go_wp2_with fail;refine(fg t.funcs _ _ di wr Vh Ya).mono ?_;rintro e w9 ⟨rfl,Xo⟩;rw[Pa.out];obtain⟨W10,Jx⟩:=q_ (w9.alloc (.cells #[] 2));have Jr:Bl w9 W10:=by rw[Jx];exact r_.alloc n_ _
     have Yd:W10.ownsRow w9.heap.size 2 1 (rV w9.heap.size 0 0) 0 []:=by rw[Jx];exact World.ownsRow_lit w9 #[] 0 n_ d_ rfl
     obtain⟨Hc,Yp,Yb⟩:=h3 (Jz W10 ((Zs.out.below Xo).below Jr) w9.heap.size (by have:=U_.out.size;have:=Xo.size;omega) (Ug _ Xo.size) Yd) ((Uq.out.below Xo).below Jr) Jx;have Pg:W4.heap.size<=W10.heap.size:=by have:=Xo.size;have:=Jr.size;omega
     clear Xo Jr Yd Jx Jz Zs Ug Ya m0 m1 Uq;go_wp2_with fail;rw[<-Yb.out];refine Hc.out.mono ?_;rintro xx w11 ⟨z,De,Py,Pu,rfl,hz,Jl,Ys,Jk⟩;have Jo:aK w11 P _:=Ve ▸ Jl.box;obtain⟨Z,oc,Ot,-⟩:=bj Jl.out;have Xe:aK w11 (M+1) [V 0,nV,V 0,V 0,V 0]:=Yp.out.tcs o_ Ys (λe=>by
      rcases e with e|e|e
      ·exact Yq (e.trans Ve)
      ·rw[Vl.out]at e;have:=Ow.out _ e
       omega
      ·cases e)
     have Jn:=ah Jl.out;have Xr:Bl w w11:=by have:=Jl.bel;rw[Vo]at this;exact this
     have Xb:=ah Xr;have Px:P<w11.heap.size/\M+1<w11.heap.size:=⟨b_ (Jo 0 _ rfl).1,b_ (Xe 0 _ rfl).1⟩;rw[Ox]at Jo;subst Ot;rw[Vo]at Jn;obtain⟨us,Zv⟩:=q_ (F-(s'.u:Int));rw[<-Zv]at Jo;obtain⟨Uz,HZ,Zx,Z_⟩:=h4 Zv hz Xe Jk;clear Zv hz Jl Ys Jk Xe Hc Yp Yb Xr;obtain⟨W12,Xc⟩:=q_ w11.drew;have Je:Bl w11 W12:=by rw[Xc];exact r_.drew
     have Ov:w11.heap.size<=W12.heap.size:=Je.size;obtain⟨W13,Jq⟩:=q_ (W12.alloc (.cells #[V 0,nV,V 0,V 0,V 0] 29));have Jm:Bl W12 W13:=by rw[Jq];exact r_.alloc n_ _
     have Jv:aK W13 W12.heap.size [V 0,nV,V 0,V 0,V 0]:=by rw[Jq];exact aH W12 _ _ d_
     have Zt:Hid (W12.cell? ⟨P,8,none⟩=some (V (gJ r))/\W12.cell? ⟨P,5,none⟩=some (.slice Z s'.o.length oc)/\W12.cell? ⟨P,7,none⟩=some (V us)/\W12.cell? ⟨P,13,none⟩=some (V s'.d)):=⟨((Jo.below Je) 8 _ rfl).1,((Jo.below Je) 5 _ rfl).1,((Jo.below Je) 7 _ rfl).1,((Jo.below Je) 13 _ rfl).1⟩;have Jf:=(Jo.below Je).below Jm;have Jt:Hid (W13.cell? ⟨P,8,none⟩=some (V (gJ r))/\W13.cell? ⟨P,5,none⟩=some (.slice Z s'.o.length oc)/\W13.cell? ⟨P,7,none⟩=some (V us)/\W13.cell? ⟨P,13,none⟩=some (V s'.d)):=⟨(Jf 8 _ rfl).1,(Jf 5 _ rfl).1,(Jf 7 _ rfl).1,(Jf 13 _ rfl).1⟩;obtain⟨Zz,Va⟩:=h2 Xc Jq;obtain⟨Q,hQ⟩:=q_ W12.heap.size;rw[<-hQ]at Jv;obtain⟨Xg,Yg⟩:=h2 ((Zx.out.below Je).below Jm) (Xb.out.trans ((Je.trans (Jm.mono Je.size)).mono Xb.out.size));have Xs:W13.ownsRow w.heap.size 2 1 (.slice Z s'.o.length oc) s'.o.length (s'.o.map (Value.int .i64)):=ownB (ownB Jn Je) Jm;have Xu:=ah Xs;have O_:P≠Q/\M+1≠Q/\w.heap.size<=Q/\Q<W13.heap.size:=⟨o_,o_,by have:=Xb.out.size;omega,b_ (Jv 0 _ rfl).1⟩;obtain⟨Ou,Zb,Pv,Pz⟩:=O_;obtain⟨HQ,Jc⟩:=h2 hQ Jv;have Oo:Hid (Z=none∨∃g,Z=some ⟨g,0,none⟩/\g≠Q/\g≠M+1):=by
      show _∨_;rcases Jn.out.2 with⟨e,-⟩|⟨g,Pw,Pp,e,-⟩
      ·simp only[Value.slice.injEq]at e;exact .inl e.1
      ·simp only[Value.slice.injEq]at e;refine .inr ⟨g,e.1,?_,?_⟩
       ·have:=(World.ownsRow.lt Jn.out g (by rw[e.1];rfl)).2
        omega
       ·have:=Z_.out g (by rw[e.1];rfl)
        rcases this with h|h
        ·cases h
        ·omega
     clear Xc Jq Jo Jf Jv Je Jm hQ Xs;go_upto_region 17 with fail;have I:=Zt;refine aM 18 (λX=>X.cell? ⟨P,8,none⟩=some (V (gJ r))/\X.cell? ⟨P,5,none⟩=some (.slice Z s'.o.length oc)/\X.cell? ⟨P,7,none⟩=some (V us)/\X.cell? ⟨P,13,none⟩=some (V s'.d)) k_ ?_;rw[<-Zz.out];refine tk 0 [1,2,3,16,18] I ?_;refine tk 1 [2,3,16,18] I ?_;refine tk 2 [3,16,18] I ?_;refine tk 3 [16,18] I ?_;refine tk 4 [5,6,7,16,18] I ?_;refine tk 5 [6,7,16,18] I ?_;refine tk 6 [7,16,18] I ?_;refine tk 7 [16,18] I ?_;refine tk 8 [9,10,11,16,18] I ?_;refine tk 9 [10,11,16,18] I ?_;refine tk 10 [11,16,18] I ?_;refine tk 11 [16,18] I ?_;refine tk 12 [13,14,15,16,18] I ?_;refine tk 13 [14,15,16,18] I ?_;refine tk 14 [15,16,18] I ?_;refine tk 15 [16,18] I ?_;refine tk 16 [18] I ?_;clear I;refine aq (i:=17) k_ rfl (λK hK=>?_);go_simp;rw[<-Va.out,<-HQ.out];refine hK.out _ _ (λ_=>Jt) ?_;clear hK K;try simp only[Act.put,tA,tB,tC]
     have q0:=(Jc 0 _ rfl).1;have f0:=(Jc 0 _ rfl).2;have q1:=(Jc 1 _ rfl).1;have f1:=(Jc 1 _ rfl).2;have q2:=(Jc 2 _ rfl).1;have f2:=(Jc 2 _ rfl).2;have q3:=(Jc 3 _ rfl).1;have f3:=(Jc 3 _ rfl).2;have q4:=(Jc 4 _ rfl).1;have f4:=(Jc 4 _ rfl).2;refine aq (i:=18) k_ rfl (λK hK=>?_);go_simp;obtain⟨W14,Js⟩:=q_ (((((W13.setCell ⟨Q,0,none⟩ (V (gJ r))).setCell ⟨Q,1,none⟩ (.slice Z s'.o.length oc)).setCell ⟨Q,2,none⟩ (V 0)).setCell ⟨Q,3,none⟩ (V us)).setCell ⟨Q,4,none⟩ (V s'.d));have Jw:ak (λk=>k=Q) W13 W14:=by
      rw[Js];exact(((((ak.refl (λk=>k=Q) W13).setCell (p:=⟨Q,0,none⟩) rfl _).setCell (p:=⟨Q,1,none⟩) rfl _).setCell (p:=⟨Q,2,none⟩) rfl _).setCell (p:=⟨Q,3,none⟩) rfl _).setCell (p:=⟨Q,4,none⟩) rfl _
     have Y:aK W14 Q [V (gJ r),.slice Z s'.o.length oc,V 0,V us,V s'.d]:=by
      rw[Js];exact((((Jc.out.set 0 _).set 1 _).set 2 _).set 3 _).set 4 _
     have U:aK W14 (M+1) [V 0,nV,V 0,V 0,V 0]:=Xg.out.tcs (b_ (Xg 0 _ rfl).1) Jw Zb;have p8:W14.cell? ⟨P,8,none⟩=some (V (gJ r)):=(c_ (a:=⟨P,8,none⟩) (Jw.block P (b_ Jt.out.1) Ou)).trans Jt.out.1;rw[<-Js];refine hK.out _ _ (λh=>absurd rfl h) ?_;clear hK K;refine aJ k_ ?_ _;have Yf:Hid (∀X,ak (λk=>k=Q∨k=M+1) W14 X->X.ownsRow w.heap.size 2 1 (.slice Z s'.o.length oc) s'.o.length (s'.o.map (Value.int .i64))/\Bl w X):=λX hX=>by
      have hT:ak (λk=>k=Q∨k=M+1) W13 X:=(Jw.mono λk hk=>.inl hk).trans hX;refine⟨aO Xu hT (λk hk hs=>?_),hT.below Yg Yg.out.size (λk hk=>by have:=HM.out;rcases hk with h|h <;> omega)⟩;rcases Oo.out with h|⟨g,h,h1,h2⟩
      ·rw[h]at hk;cases hk
      ·rw[h]at hk;have e:g=k:=by simpa[Value.ownBlock]using hk
       subst e;exact hs.elim h1 h2
     obtain⟨Yh,Xv⟩:=h2 Y U;clear Js Jw q0 q1 q2 q3 q4 f0 f1 f2 f3 f4 Jt Jc Xg Xu;rcases Jy.out with⟨v,hr⟩|⟨c,hr,hc⟩
     ·have Yj:gJ r=0:=by rw[hr];rfl
      have Yn:Bi r=1:=by rw[hr];rfl
      have Yo:cI r=z:=by rw[hr];exact(HZ v hr).symm
      rw[Yj]at Y p8 Yh;obtain⟨Zq,Vk⟩:=h2 Yn Yo;clear Yn Yo Yj;have a0:=(Y 0 _ rfl).1;have f0:=(Y 0 _ rfl).2;have a1:=(Y 1 _ rfl).1;have a2:=(Y 2 _ rfl).1;have f2:=(Y 2 _ rfl).2;have a3:=(Y 3 _ rfl).1;have a4:=(Y 4 _ rfl).1;have b0:=(U 0 _ rfl).1;have c0:=(U 0 _ rfl).2;have b1:=(U 1 _ rfl).1;have c1:=(U 1 _ rfl).2;have b2:=(U 2 _ rfl).1;have c2:=(U 2 _ rfl).2;have b3:=(U 3 _ rfl).1;have c3:=(U 3 _ rfl).2;have b4:=(U 4 _ rfl).1;have c4:=(U 4 _ rfl).2;have Vq:¬Q=M+1:=λe=>Zb e.symm;clear Y U;go_wp2_with fail;have Pj:aK ((W14.setCell ⟨Q,0,none⟩ (V 1)).setCell ⟨Q,2,none⟩ (V z)) (M+1) [V 0,nV,V 0,V 0,V 0]:=Xv.out.tcs (b_ b0) ((((ak.refl (λk=>k=Q) W14)).setCell (p:=⟨Q,0,none⟩) rfl _).setCell (p:=⟨Q,2,none⟩) rfl _) Zb;have Jj:=((((Pj.set 0 (V 1)).set 1 (.slice Z s'.o.length oc)).set 2 (V z)).set 3 (V us)).set 4 (V s'.d);have t0:=(Jj 0 _ rfl).1;have t1:=(Jj 1 _ rfl).1;have t2:=(Jj 2 _ rfl).1;have t3:=(Jj 3 _ rfl).1;have t4:=(Jj 4 _ rfl).1;refine bodyPost_ret (v:=.agg #[V 1,.slice Z s'.o.length oc,V z,V us,V s'.d]) (by simp[results,results7,go_sem,t0,t1,t2,t3,t4]) rfl ?_;have hX:=Yf _ ((((((((ak.refl (λk=>k=Q∨k=M+1) W14)).setCell (p:=⟨Q,0,none⟩) (.inl rfl) (V 1)).setCell (p:=⟨Q,2,none⟩) (.inl rfl) (V z)).setCell (p:=⟨M+1,0,none⟩) (.inr rfl) (V 1)).setCell (p:=⟨M+1,1,none⟩) (.inr rfl) (.slice Z s'.o.length oc)).setCell (p:=⟨M+1,2,none⟩) (.inr rfl) (V z)).setCell (p:=⟨M+1,3,none⟩) (.inr rfl) (V us) |>.setCell (p:=⟨M+1,4,none⟩) (.inr rfl) (V s'.d));exact⟨_,by rw[Zq.out,Vk.out,<-Uz.out],hX.1,hX.2⟩
     ·have Yj:gJ r=c:=by rw[hr];rfl
      have Yn:Bi r=c:=by rw[hr];rfl
      have Yo:cI r=0:=by rw[hr];rfl
      rw[Yj]at Y p8 Yh;obtain⟨Zq,Vk⟩:=h2 Yn Yo;have Da:(c == 0)=false:=by simpa using hc
      clear Yn Yo Yj;have a0:=(Y 0 _ rfl).1;have a1:=(Y 1 _ rfl).1;have a2:=(Y 2 _ rfl).1;have a3:=(Y 3 _ rfl).1;have a4:=(Y 4 _ rfl).1;have b0:=(U 0 _ rfl).1;have c0:=(U 0 _ rfl).2;have b1:=(U 1 _ rfl).1;have c1:=(U 1 _ rfl).2;have b2:=(U 2 _ rfl).1;have c2:=(U 2 _ rfl).2;have b3:=(U 3 _ rfl).1;have c3:=(U 3 _ rfl).2;have b4:=(U 4 _ rfl).1;have c4:=(U 4 _ rfl).2;have Vq:¬Q=M+1:=λe=>Zb e.symm;clear Y U;go_wp2_with fail;have Jj:=((((Xv.out.set 0 (V c)).set 1 (.slice Z s'.o.length oc)).set 2 (V 0)).set 3 (V us)).set 4 (V s'.d);have t0:=(Jj 0 _ rfl).1;have t1:=(Jj 1 _ rfl).1;have t2:=(Jj 2 _ rfl).1;have t3:=(Jj 3 _ rfl).1;have t4:=(Jj 4 _ rfl).1;refine bodyPost_ret (v:=.agg #[V c,.slice Z s'.o.length oc,V 0,V us,V s'.d]) (by simp[results,results7,go_sem,t0,t1,t2,t3,t4]) rfl ?_;have hX:=Yf _ ((((((ak.refl (λk=>k=Q∨k=M+1) W14)).setCell (p:=⟨M+1,0,none⟩) (.inr rfl) (V c)).setCell (p:=⟨M+1,1,none⟩) (.inr rfl) (.slice Z s'.o.length oc)).setCell (p:=⟨M+1,2,none⟩) (.inr rfl) (V 0)).setCell (p:=⟨M+1,3,none⟩) (.inr rfl) (V us) |>.setCell (p:=⟨M+1,4,none⟩) (.inr rfl) (V s'.d));exact⟨_,by rw[Zq.out,Vk.out,<-Uz.out],hX.1,hX.2⟩
end Go.Proofs.YtffnkkpmlplfeaaGreatDoor
