import Derived.Deep.CutRange
import Derived.Test.YtjfmapphpijneaaGreatDoorS69
namespace Go.Proofs.YtjfmapphpijneaaGreatDoor
set_option linter.all false
set_option maxRecDepth 100000
set_option maxHeartbeats 0
open Go.Value Go.World List Go.Proofs.Tryz Go.RowKit
def AW{w w':AT}{B size n:Nat}{e:JZ}{v:BY}{J:List BY}(h:w.ownsRow B e size v n J)(Z:∀g,v.ownBlock=some g->w'.heap[g]? =w.heap[g]?):w'.ownsRow B e size v n J:=by
 obtain⟨I,h|⟨g,Jb,Ja,rfl,U,h2,h3⟩⟩:=h
 ·exact⟨I,.inl h⟩
 ·exact⟨I,.inr ⟨g,Jb,Ja,rfl,U,(Z g rfl).trans h2,h3⟩⟩
theorem Df(g:Nat)(a:Option Addr)(len cap:Nat)(w:AT)(hl:len<=1048576)(hL:Lo g a len (S0 g) w.heap.size)(hc:ew g a len cap w):
  Calls prog 31 #[pV g] w λe w'=>∃vg vf,e=rW (.agg #[vg,vf])/\(∃t,TD (λk=>k<w.heap.size) w' vg vf t)/\Dr g a len cap (S0 g) w w':=by
 have Ym:S0 g g:=rfl;have Jk:=ah hL;obtain⟨W1,Dn,b0,b1,b2,b3,J,hs⟩:=xL w;have Pv:=ah Dn;obtain⟨R0,Os⟩:=q_ w.heap.size;obtain⟨GL,Vm⟩:=q_ (w.heap.size+1);obtain⟨T,hT⟩:=q_ (w.heap.size+2);obtain⟨NB,Ur⟩:=q_ (w.heap.size+3);obtain⟨Vb,Vc,HT,Zm⟩:=h4 Os Vm hT Ur;rw[<-Os]at b0;rw[<-Vm]at b1;rw[<-hT,<-Vm]at b2;rw[<-Ur]at b3;obtain⟨En,Dq,Eb,Ji,P_,Uh⟩:=h6 b0 b1 b2 b3 J hs;have Pl:Hid (ew g a len cap W1):=hc.below J;clear Dn b0 b1 b2 b3 J hs Os Vm hT Ur hc hL;go_in;go_upto_region 3 with fail;rw[<-Pv.o,<-Zm.o,<-HT.o,<-Vc.o,<-Vb.o];clear Pv;go_wp2_with fail;refine(aE g a len cap (S0 g) _ _ hl Ym Pl.o o_).mono ?_;rintro e w1 ⟨n,rfl,hn,Vr⟩;obtain⟨q,hq⟩:=q_ w1.heap.size;obtain⟨W2,Yg⟩:=q_ (w1.alloc (.cells #[nV,nV,nV,nV,V 0] 106));obtain⟨Dx,Hq⟩:=h2 Yg hq;have h12:aj (S0 g) W1 W2:=by rw[Yg];exact Vr.tcs.alloc _
 have Dc:g<w.heap.size:=Jk.o.gl;have Jw:Hid (T=w.heap.size+2/\GL=w.heap.size+1/\NB=w.heap.size+3/\R0=w.heap.size/\w.heap.size+4<=q/\q<W2.heap.size/\g<w.heap.size):=⟨HT,Vc,Zm,Vb,by rw[hq,<-Uh.o];exact Vr.tcs.size,by rw[hq,Yg];simp,Dc⟩;have V_:=Uh.o;have nT:¬S0 g T:=λe=>by have:T=g:=e;have:=HT.o;omega
 have nG:¬S0 g GL:=λe=>by have:GL=g:=e;have:=Vc.o;omega
 have nN:¬S0 g NB:=λe=>by have:NB=g:=e;have:=Zm.o;omega
 have nR:¬S0 g R0:=λe=>by have:R0=g:=e;have:=Vb.o;omega
 have Oh:Hid (aN W2 R0 [nV,nV]):=En.o.tcs (Ka Vb.o) h12 nR;have Do:Hid (aN W2 GL pK):=Dq.o.tcs (Ka Vc.o) h12 nG;have Ei:Hid (aN W2 T [rV GL 4 4,nV]):=Eb.o.tcs (Ka HT.o) h12 nT;have Pm:Hid (aN W2 NB sQ):=Ji.o.tcs (Ka Zm.o) h12 nN;have Eg:Hid (aN W2 q [nV,nV,nV,nV,V 0]):=by rw[Yg,hq];exact aI w1 _ _ d_
 have Uq:Hid (ew g a len cap W2):=by rw[Yg];exact Vr.cur.alloc _
 have Ud:Hid (Dr g a len cap (S0 g) w W2):=⟨Uq,(P_.o.tcs (S:=S0 g)).trans h12⟩;clear Vr hq Yg h12 V_ nT nG nN nR En Dq Eb Ji Pl P_ Uh Dc;go_upto_region 5 with fail;rw[<-Dx.o,<-Hq.o];clear Dx Hq Vb Vc HT Zm;go_wp2;go_loopw[7,8,9,10,11] (λi fp ip np kk wr=>∃j:Nat,(j:Int)<=n/\i=V j/\JQ g a len cap T q GL W2.heap.size W2 wr j) (λi _ _ _ _ _=>n.toNat-(RowKit.intOf i).toNat)
 case atStart=>
  refine⟨0,o_,rfl,Uq,aj.refl _ _,none,0,0,[],Ei,fr_none,rfl,none,0,0,none,0,0,[],[],Eg,λW hW=>⟨⟨none,0,rfl,n_,o_,λh=>absurd h (Nat.lt_irrefl _)⟩,⟨none,0,rfl,λh=>absurd h (Nat.lt_irrefl _)⟩⟩,rfl,rfl,(λx hx=>by cases hx),λx hx=>by cases hx⟩
 case round=>
  obtain⟨j,hj,rfl,Ps⟩:=hrel;rename AT=>Wr
  have Ov:=ah Ps;obtain⟨-,Yl,fa,fn,fc,Q,Vz,Yv,Uj,ca,cn,cc,pa,pn,pc,cs,ps,Xi,Vw,Ue,Up,Vn,Vt⟩:=Ps;by_cases hlt:(j:Int)<n
  ·obtain⟨eT,eG,eN,eR,Au,Ba,eg⟩:=Jw.o;have Ow:∀k,k=GL∨k=NB∨k=R0->¬Sx g T q k:=λk hk e=>by rcases e with e|e|e <;> omega
   have Pr:aN Wr NB sQ:=Pm.o.tcs o_ Yl (Ow _ (.inr (.inl rfl)));obtain⟨nm,Be,Zb⟩:=Dd Pr (j:=j) o_;have Gg:(j:Int)<4:=o_;have Ve:=ah Zb;have Bi:W2.heap.size<=Wr.heap.size:=Yl.size;obtain⟨F,hF⟩:=q_ Wr.heap.size;obtain⟨I,hI⟩:=q_ (Wr.heap.size+1);obtain⟨W3,Jg⟩:=q_ ((Wr.alloc (.cells #[sV nm,nV,nV] 52)).alloc (.cells #[.slice ca cn cc,.slice pa pn pc,nV,nV,V 0] 106));obtain⟨Zl,HF,HI⟩:=h3 Jg hF hI;have q0:=(Xi 0 _ rfl).1;have q1:=(Xi 1 _ rfl).1;have Yo:=Xi.below ((Below.refl Wr.heap.size Wr).alloc n_ (.cells #[sV nm,nV,nV] 52));have Ai:=(Yo 0 _ rfl).1;have Bc:=(Yo 1 _ rfl).1;have Ys:Bl Wr W3:=(by rw[Jg];exact(ao _ _).alloc i_ _);have Yy:W3.heap.size=Wr.heap.size+2:=(by rw[Jg];simp);have Ji:Hid (Bl Wr W3/\W3.heap.size=Wr.heap.size+2):=⟨Ys,Yy⟩;have At:Hid (aN W3 F [sV nm,nV,nV]):=by
    rw[Jg,hF];exact(aI Wr _ _ i_).below (ao _ _)
   have Ay:Hid (aN W3 I [.slice ca cn cc,.slice pa pn pc,nV,nV,V 0]):=by
    rw[Jg,hI];have:=aI (Wr.alloc (.cells #[sV nm,nV,nV] 52)) #[.slice ca cn cc,.slice pa pn pc,nV,nV,V 0] 106 i_;simp only[Bl,J9]at this;exact this
   have Ag:Hid (∀j,W3.frozen? ⟨I,j,none⟩=false):=λj=>by
    rw[Jg,hI];have e:Wr.heap.size+1=(Wr.alloc (.cells #[sV nm,nV,nV] 52)).heap.size:=i_;rw[e];simp
   have On:Hid (ew g a len cap W3):=Ov.o.cur.below Ys;obtain⟨Ub,Jj⟩:=h2 Vz Yv;have Yq:Hid (Q.length=j/\cs.length=j/\ps.length=j):=⟨Uj,Ue,Up⟩;obtain⟨A_,Us⟩:=h2 Xi Vw;have Oo:Hid ((∀x∈ps,0<=x/\x<=6)/\∀x∈cs,x.size<=100000):=⟨Vn,Vt⟩;obtain⟨Vi,Ad⟩:=h2 Yl Ow;clear Yl Vz Yv Uj Xi Vw Ue Up Vn Vt Ow Pr Zb hF hI Jg Yo Ys Yy eT eG eN eR Au Ba eg;go_upto_region 10 with fail;rw[<-Zl.o,<-HI.o,<-HF.o];clear q0 q1 Ai Bc Zl Be;go_wp2_with fail;refine(aE g a len cap (S0 g) _ _ hl Ym On.o o_).mono ?_;rintro e w4 ⟨x4,rfl,Bb,Yu⟩;have Ui:=ah Yu;clear Yu;go_wp2_with fail;refine(fd g a len cap (S0 g) _ _ hl Ym Ui.o.cur o_).mono ?_;rintro e w5 ⟨b5,rfl,Pj⟩;have Un:Hid (Dr g a len cap (S0 g) W3 w5):=Ui.o.trans Pj;clear Pj Ui;go_upto_if 42 with fail
   go_cut [10]from 24 to 99 (λnpv W=>∃np:Nat,npv=V np/\np<=6/\W=w5)
   case first=>
    cases b5
    ·go_wp2;go_meet
     case rel=>exact⟨x4.toNat,by rw[show((x4.toNat:Nat):Int)=x4 by omega],o_,rfl⟩
    ·go_wp2;go_meet
     case rel=>exact⟨6,rfl,o_,rfl⟩
   case rest=>
    obtain⟨np,rfl,Gl,Ed⟩:=hcut;rw[Ed];clear Ed;have Yx:F<W3.heap.size/\g<F/\W3.heap.size=F+2:=(by have:=Ji.o.2;have:=HF.o;have h7:=Jw.o;omega);have nF:¬S0 g F:=λe=>by have:F=g:=e;omega
    have Ab:Hid (Lo g a len (S0 g) W3.heap.size):=Jk.o.mono (by have:=Ji.o.2;have:=Ud.o.tcs.size;have:=Vi.o.size;omega);have De:Hid (PI g a len cap F nm W3 w5 0):=⟨Un.o.cur,Un.o.tcs.mono (λk hk=>.inl hk),none,0,0,[],At.o.tcs Yx.1 Un.o.tcs nF,ownsRow_nil _ _ _ _,rfl,λx hx=>by cases hx⟩;clear nF;go_wp2;go_loopw[11] (λkv wx=>∃k:Nat,k<=np/\kv=V k/\PI g a len cap F nm W3 wx k) (λkv _=>np-(RowKit.intOf kv).toNat)
    case atStart=>exact⟨0,y_,rfl,De⟩
    case round=>
     obtain⟨k,hk,rfl,Yw⟩:=hrel;by_cases hkn:k<np
     ·obtain⟨px,pm,py,Ek⟩:∃px pm py,wr.cell? ⟨F,1,none⟩=some (.slice px pm py):=(by obtain⟨-,-,x,y,z,qs,hf,-⟩:=Yw;exact⟨x,y,z,(hf 1 _ rfl).1⟩);have Gf:(k:Int)<(np:Int):=o_;have Bf:F<wr.heap.size:=l_ Yx.1 Yw.tcs.size;have Gh:(wr.alloc (.cells #[sV ⟨#[112]⟩,sV ⟨#[113]⟩] 9)).cell? ⟨F,1,none⟩=some (.slice px pm py):=(cell?_alloc_past _ F 1 Bf).trans Ek;have V_:(tx (Lib.decDigits k)).size<=50:=by
       rw[rY];have:=sw k k n_;omega
      have Or:Hid (∀W:AT,Calls prog 55 #[V k] W λe w'=>e=rW (sV (tx (Lib.decDigits k)))/\Bl W w'):=λW=>uo k k n_ o_ W;generalize tx (Lib.decDigits k)=A at V_ Or;have Ak:((A.size:Nat):Int)<=50:=o_
      have Dl:=xM Yw ⟨Yx.2.1,Yx.1⟩ (Jk.o.mono (Ia Jw.o HF.o)) o_ A o_ px pm py Ek (.cells #[sV ⟨#[112]⟩,sV ⟨#[113]⟩] 9);have Xy:=ah Dl;have Di:Hid (Calls prog 54 #[pV g,rV wr.heap.size 2 2] ((wr.alloc (.cells #[sV ⟨#[112]⟩,sV ⟨#[113]⟩] 9)).drew) λe w'=>∃s,s∈[⟨#[112]⟩,⟨#[113]⟩]/\e=rW (sV s)/\Dr g a len cap (S0 g) ((wr.alloc (.cells #[sV ⟨#[112]⟩,sV ⟨#[113]⟩] 9)).drew) w'):=ik g a len cap (S0 g) [⟨#[112]⟩,⟨#[113]⟩] _ (wr.drew.alloc (.cells #[sV ⟨#[112]⟩,sV ⟨#[113]⟩] 9)) hl Ym (Yw.cur.below ((r_.drew).alloc n_ _)) (kD (w:=wr.drew) _ _ 2 rfl rfl d_ (λb J=>by have e:b=g:=J;have:wr.drew.heap.size=wr.heap.size:=rfl;omega)) d_;clear Dl V_ Yw De;go_upto_region 16 with fail;go_region_law
       (first
       | (go_simp;(with_reducible refine Calls.mono Di.o ?_);intro x w6 hx;obtain⟨s,Uf,Zu,Dw⟩:=hx;subst Zu;have Pn:s.size<=1:=(by simp at Uf;rcases Uf with rfl|rfl <;> decide);have Bh:((s.size:Nat):Int)<=1:=o_;have z6:=(Xy.o w6 s w6 Pn Dw r_);obtain⟨-,-,-,-,-,⟨z6,-,-⟩,-⟩:=z6;clear Uf)
       | (go_simp;(with_reducible refine Calls.mono (Or.o _) ?_);intro x w7 hx;obtain⟨Zu,Ew⟩:=hx;subst Zu;have Gi:¬9223372036854775807<s.size+A.size:=o_;obtain⟨va,vn,vc,w8,r8,⟨-,z7,Gb⟩,y8,f8,Es⟩:=Xy.o w6 s w7 Pn Dw Ew;clear Ew)
       | (refine dW rfl _ _ _ rfl _ _ _ _ rfl rfl r8 ?_))
      all_goals (
       have Um:=ah Es;clear Es r8 y8 f8 z7 Gb z6 Xy Di Or;go_wp2;go_roundw
       case rel=>exact⟨k+1,o_,by go_num,Um⟩
       case measure=>simp[RowKit.intOf];omega)
     ·obtain rfl:k=np:=(by omega);obtain⟨Db,Vv,px,pm,py,qs,Pa,Uc,Aq,Om⟩:=Yw;have hQ:=Yq.o;have Jr:=Jw.o;have Yr:=HF.o;have Yt:=HI.o;have Av:j<=3:=o_;have Xt:∀b,(Value.slice fa fn fc).ownBlock=some b->q<b/\b<Wr.heap.size:=λb J=>⟨by have:=(Jj.o.rng b J).1;omega,(Jj.o.rng b J).2⟩;obtain⟨Ya,Ux⟩:=Fr (T:=T) (q:=q) Us.o ⟨o_,o_⟩ Oo.o Ji.o.1 Yr Yt Ji.o.2 Ay.o Ag.o Db Vv Uc o_ Om ⟨o_,o_,o_,o_⟩ (Jk.o.mono o_) o_ Xt;have y1:=(Pa 1 _ rfl).1;have i2:=(Ux 2 _ rfl).1;have Bz:=(Ux 2 _ rfl).2;obtain⟨W10,Jt⟩:=q_ (wr.setCell ⟨I,2,none⟩ (.slice px pm py));have Zi:=ah Jt;rw[<-Jt]at Ya;have Dy:F<wr.heap.size:=l_ Yx.1 Vv.size;have Zj:aj (λb=>b=I) wr W10:=(by rw[Jt];exact(aj.refl (λb=>b=I) wr).setCell (p:=⟨I,2,none⟩) rfl _);have Yh:=ah Ya;have Vg:Hid (aN W10 F [sV nm,.slice px pm py,nV]):=Pa.tcs Dy Zj o_;have Yn:Hid (aj (λb=>b=g∨b=F∨b=I) W3 W10):=(Vv.mono λb J=>J.imp id .inl).trans (Zj.mono λb J=>.inr (.inr J));have Pq:Hid (∀(S:Ft) W,aj S W10 W->(∀b,S b->b<W3.heap.size∨W10.heap.size<=b)->be W (.slice px pm py) qs):=λS W hW hS=>ij (AW Uc (λb J=>by
       obtain⟨h1,h2⟩:=ownsRow.lt Uc b J;have h10:=Zj.size;rw[hW.block b o_ (λs=>by have:=hS b s;have Ga:W10.heap.size=wr.heap.size:=(by rw[Jt];simp);omega),Zj.block b h2 o_]))
      have By:Hid (qs.length<=6/\∀x∈qs,x.size<=100000):=⟨o_,Om⟩;clear Jt Ya Db Vv Pa Uc Aq Om Zj Dy Ux Yr Yt Xt hQ Jr;go_upto_region 18 with fail;rw[<-Zi.o];clear y1 i2 Bz Zi;go_wp2_with fail;refine(aE g a len cap (S0 g) _ _ hl Ym Yh.o.cur o_).mono ?_;rintro e Jx ⟨Pz,rfl,As,Yf⟩;have Vf:=ah (Yh.o.dr Yf);obtain⟨U,Za⟩:∃U:Nat,1+Pz=U:=⟨(1+Pz).toNat,o_⟩;have Pe:1<=U/\U<=4:=o_;have Uo:=ah Za;have Jc:rx 2=31:=rfl;have Jv:Hid (aj (S0 g) W10 Jx):=Yf.tcs;clear Yf Za;go_wp2_with fail;refine(iT g a len cap I 2 o_ (u_ g a len cap I hl 2 o_) U o_ _ _ Uo.o rfl (S5 g T q F I (.slice fa fn fc)) _ 10 Jx Vf.o (by rw[Jc];omega)).mono ?_;rintro e w12 ⟨vb,rfl,Rb,Yj,J_,Ox,Yd,Xz⟩;rw[Jc]at J_ Yd;obtain⟨ba,bn,bc,rfl⟩:∃x y z,vb=.slice x y z:=(by obtain⟨x,y,e⟩:=J_.shape;exact⟨x,_,y,e⟩);have Jr:=Jw.o;have Yr:=HF.o;have Yt:=HI.o;have Yk:=Ji.o;have Jf:aj (Sq g I) W10 w12:=(Jv.o.mono mL).trans Xz;have Oe:W3.heap.size<=W10.heap.size:=Yn.o.size;have Xd:aN w12 F [sV nm,.slice px pm py,nV]:=Vg.o.tcs o_ Jf (λe=>by rcases e with e|e <;> omega);have z2:=(Xd 2 _ rfl).1;have Bj:=(Xd 2 _ rfl).2;obtain⟨W13,Jp⟩:=q_ (w12.setCell ⟨F,2,none⟩ (.slice ba bn bc));have Zn:=ah Jp;have tF:aj (λb=>b=F) w12 W13:=by rw[Jp];exact(aj.refl (λb=>b=F) w12).setCell (p:=⟨F,2,none⟩) rfl _
      have Ok:W10.heap.size<=Jx.heap.size:=Jv.o.size;have X_:Hid (aN W13 F [sV nm,.slice px pm py,.slice ba bn bc]):=(by rw[Jp];exact Xd.set 2 _);have Zw:Hid (SR Jx.heap.size W13 (.slice ba bn bc) Rb (U*31)):=J_.tcs tF (λb J=>by omega);have Jb:Hid (GS g a len cap I (Sv (S5 g T q F I (.slice fa fn fc)) (.slice ba bn bc)) W13 Yj (10+U*31)):=(by rw[Jp];exact Yd.side (.inl (.inr (.inr (.inr (.inl rfl))))) o_ o_);have Vl:Hid (aj (λb=>b=g∨b=F∨b=I) W3 W13):=(Yn.o.trans (Jf.mono λb J=>by rcases J with h|h;exact .inl h;exact .inr (.inr h))).trans (tF.mono λb J=>.inr (.inl J));have Vk:Jx.heap.size<=W13.heap.size:=(Ia Xz.size tF.size);have Xm:Hid (∀(S:Ft) W,aj S W13 W->(∀b,S b->b<W3.heap.size∨Jx.heap.size<=b)->be W (.slice px pm py) qs):=λS W hW hS=>Pq.o (λb=>S b∨b=g∨b=I∨b=F) W ((((Jf.mono (T:=λb=>S b∨b=g∨b=I∨b=F) λb J=>by rcases J with h|h;exact .inr (.inl h);exact .inr (.inr (.inl h)))).trans (tF.mono λb J=>.inr (.inr (.inr J)))).trans (hW.mono λb J=>.inl J)) (λb J=>by
       rcases J with h|h|h|h
       ·have:=hS b h;omega
       ·omega
       ·omega
       ·omega)
      have Bx:W3.heap.size<=Jx.heap.size:=o_;have Pf:=ah (AS (g:=g) (a:=a) (len:=len) (cap:=cap) X_.o Zw.o ⟨o_,Vk⟩ Yx.2.1 (Jk.o.mono o_) o_);have Pd:Hid (Calls prog 57 #[pV g,.agg #[Yj.vc,Yj.vp,Yj.vs,Yj.vl,V Yj.m]] W13.drew λe w'=>∃u ns,e=rW u/\aW W13.heap.size w' u ns/\cI ns 400/\Dr g a len cap (S0 g) W13.drew w'):=eI g a len cap (S0 g) Yj (10+U*31) W13.drew hl Jb.o.lo0 (Jb.o.below r_.drew).cur (Jb.o.below r_.drew).ok0 o_;have c0:=Jb.o.box.c0;have c1:=Jb.o.box.c1;have c2:=Jb.o.box.c2;have c3:=Jb.o.box.c3;have c4:=Jb.o.box.c4;have f2:=(X_.o 2 _ rfl).1;clear J_ Ox Yd Xz Jf Xd Jp tF Jr Yr Yt Yk Oe Ok Pq Vg Yn Yh Vf Jv;go_upto_region 19 with fail;rw[<-Zn.o];clear z2 Bj Zn;go_cut [7]from 24 to 99 (λiv W=>iv=V j/\JR g a len cap F Jx.heap.size (U*31) Rb.length nm (.slice px pm py) W13 W)
      case first=>
       go_region_law
        (first
        | (go_simp;(with_reducible refine Calls.mono Pd.o ?_);intro x Az hx;obtain⟨B_,ns,Zu,Yb,Zc,Zk⟩:=hx;subst Zu;obtain⟨ua,un,uc,rfl⟩:∃x y z,B_=.slice x y z:=(by obtain⟨x,y,e,-⟩:=aH Yb;exact⟨x,_,y,e⟩);obtain⟨va,vn,vc,Al,Ep,⟨k2,Ar⟩,Bm,Bk,⟨R',Z_,Xh⟩,Xp,Xg,Xn⟩:=Pf.o Az ua un uc ns Yb Zc Zk;have Bq:Hid (JR g a len cap F Jx.heap.size (U*31) Rb.length nm (.slice px pm py) W13 (Al.setCell ⟨F,2,none⟩ (.slice va vn vc))):=⟨va,vn,vc,R',Xp,Z_,Xh,Xg,Xn⟩;clear Yb Zc Zk Z_ Xh Xp Xg Xn)
        | (refine dW rfl _ _ _ rfl _ _ _ _ rfl rfl Ep ?_))
       all_goals (
        clear Ep k2 Ar Bm Bk Pf Pd;go_wp2;go_meet
        case rel=>exact⟨rfl,Bq⟩)
      case rest=>
       obtain⟨rfl,Bt⟩:=hcut;clear c0 c1 c2 c3 c4 f2 Pf Pd;obtain⟨va,vn,vc,R',Jq,Zr,Aw,Xf,Xv⟩:=Bt;have Jr:=Jw.o;have Yr:=HF.o;have Yt:=HI.o;have Yk:=Ji.o;have Xx:∀b,(Value.slice fa fn fc).ownBlock=some b->q<b/\b<F:=λb J=>⟨by have:=(Jj.o.rng b J).1;omega,by have:=(Jj.o.rng b J).2;omega⟩;have Xb:aj (λb=>b=g∨b=F∨b=I) W3 wc:=Vl.o.next Xv (λb J=>by
        rcases J with h|h|h
        ·exact .inl (.inl h)
        ·exact .inl (.inr (.inl h))
        ·exact .inr o_)
       have Je:aj (S0 g) Wr wc:=(Ji.o.1.tcs (S:=S0 g)).next Xb (λb J=>by
        rcases J with h|h|h
        ·exact .inl h
        ·exact .inr o_
        ·exact .inr o_)
       have Ju:aN wc T [rV GL 4 4,.slice fa fn fc]:=Ub.o.tcs o_ Je (λe=>by have:T=g:=e;omega);have Xj:aN wc q [.slice ca cn cc,.slice pa pn pc,nV,nV,V 0]:=A_.o.tcs o_ Je (λe=>by have:q=g:=e;omega);have Xk:=Jj.o.tcs (Je.mono (T:=λk=>k<W2.heap.size) λk hk=>by have:k=g:=hk;omega) (λk hk=>hk);have Xr:∀W,aj (λb=>b<W3.heap.size) wc W->be W (.slice px pm py) qs:=λW hW=>Xm.o (λb=>b<W3.heap.size∨Jx.heap.size<=b) W ((Xv.mono λb J=>by
        rcases J with h|h|h
        ·exact .inl o_
        ·exact .inl o_
        ·exact .inr h).trans (hW.mono λb J=>.inl J)) (λb J=>J)
       obtain⟨na,nn,nc,Oa,Ds,⟨t1,Aj⟩,Yi,Yc,⟨Q',Jm,Bn⟩,Js,Zq,Jh⟩:=rG (g:=g) (a:=a) (len:=len) (cap:=cap) Ju Jq Xk (Ka Yq.o) Xf ⟨o_,o_,Ka Je.size,o_,Ka Xb.size⟩ (Jk.o.mono o_) Xr o_ By.o Ve.o Zr ⟨o_,o_⟩ o_ (λb J=>by have:=(Xx b J).2;omega);have Jo:aN (Oa.setCell ⟨T,1,none⟩ (.slice na nn nc)) q [.slice ca cn cc,.slice pa pn pc,nV,nV,V 0]:=Xj.tcs (Ka Je.size) Jh (λe=>by
        rcases e with e|e
        ·omega
        ·have:=(Xx q e).1;omega)
       have Xc:aj (Sv (Sx g T q) (.slice fa fn fc)) Wr (Oa.setCell ⟨T,1,none⟩ (.slice na nn nc)):=(Je.mono λb J=>.inl (.inl J)).trans (Jh.mono λb J=>by
        rcases J with h|h
        ·exact .inl (.inr (.inl h))
        ·exact .inr h)
       have Jn:=Us.o _ Xc;have Am:=(Ju 1 _ rfl).1;have Ah:=(Jq 0 _ rfl).1;have Bs:=(Jq 1 _ rfl).1;have Ac:=(Jq 2 _ rfl).1;obtain⟨Ja,Xw⟩:=q_ (Oa.setCell ⟨T,1,none⟩ (.slice na nn nc));have Yz:=ah Xw;rw[<-Xw]at Yi Yc Jm Js Jh Jo Jn Xc;have Zz:=ah Ds;have Xs:F<Ja.heap.size:=(Ia Jh.size Xb.size);obtain⟨Uk,Xl,Vh,Xo,Jl,Zy⟩:=h6 Yi Jm Js Jo Jn Xc;have Vj:Hid (aj (Sx g T q) W2 Ja):=(Vi.o.trans (Je.mono λb J=>.inl J)).next Jh (λb J=>by
        rcases J with h|h
        ·exact .inl (.inr (.inl h))
        ·exact .inr (by have:=(Jj.o.rng b h).1;omega))
       have Ae:Hid (Q'.length=j+1):=(by show _=_;have:=Yq.o;omega);have An:=ah (Yc 0 _ rfl).1;have Zg:q<Ja.heap.size:=o_;clear Jq Zr Aw Xf Xv Xb Je Ju Xj Xk Xr Ds Yi Yc Jm Js Zq Jh Jo Xc Jn Xw Xx Jr Yr Yt Yk Bn Jb X_ Zw Vl Xm;go_upto_region 21 with(at_builtin;refine ay rfl _ _ _ rfl _ _ _ _ rfl rfl Zz.o ?_);rw[<-Yz.o];clear Am Ah Bs Ac t1 Aj Yz Zz;go_cut [7]from 24 to 99 (λiv W=>iv=V j/\I8 q Ja (.slice pa pn pc) (cs++[nm]) W)
       case first=>
        obtain⟨PA,PB,PC⟩:=h3 (GW Ja _ _ Jl.o.1) (GX Ja _ _ nm Jl.o.1) (GY Ja _ _ nm Jl.o.1);have e0:=(Xo.o 0 _ rfl).1;have e1:=An.o;have eA:∀o,(Ja.alloc o).cell? ⟨q,0,none⟩=some (.slice ca cn cc):=λo=>(cell?_alloc_past o q 0 Zg).trans e0;have eB:∀o,(Ja.alloc o).cell? ⟨F,0,none⟩=some (sV nm):=λo=>(cell?_alloc_past o F 0 Xs).trans e1;have Gk:q<Ja.heap.size+1:=o_
        have eC:∀o o',((Ja.alloc o).alloc o').cell? ⟨q,0,none⟩=some (.slice ca cn cc):=λo o'=>(cell?_alloc_past o' q 0 H6).trans (eA o);have Gm:cs.length<=10:=(Ka Yq.o);have Ug:Hid (∀w2 v2,Bl Ja w2->w2.ownsRow Ja.heap.size 9 1 v2 (cs++[nm]).length ((cs++[nm]).map Value.string)->_):=λw2 v2 h1 h2=>Fv (cs:=cs++[nm]) Xo.o Zg h1 h2;go_region_law
         (first
         | (refine bU Ic _ _ Ic Ja.heap.size (.slice (some ⟨Ja.heap.size,0,none⟩) 0 0) [] Ic PA.o.1 (.slice ca cn cc) cs Ic PA.o.2.1 H6 PA.o.2.2.size ?_;intro v1 w1 Xq Ye Ez;have Jy:Bl Ja w1:=jv PA.o.2.2 PA.o.1 Ye;have yF:=(Jy.cell (p:=⟨F,0,none⟩) Xs).trans e1)
         | (refine bU Ic _ _ Ic Ja.heap.size (.slice (some ⟨Ja.heap.size,0,none⟩) 0 0) [] Ic PB.o.1 (.slice ca cn cc) cs Ic PB.o.2.1 H6 PB.o.2.2.1.size ?_;intro v1 w1 Xq Ye Ez;have Jy:Bl Ja w1:=jv PB.o.2.2.1 PB.o.1 Ye;have Ax:w1.cell? ⟨Ja.heap.size+1,0,none⟩=some (.string nm):=(c_ (a:=⟨Ja.heap.size+1,0,none⟩) (Ye.block _ i_ (by simp[ownBlock]))).trans PB.o.2.2.2)
         | (refine bU Ic _ _ Ic Ja.heap.size (.slice (some ⟨Ja.heap.size+1,0,none⟩) 0 0) [] Ic PC.o.1 (.slice ca cn cc) cs Ic PC.o.2.1 H6 PC.o.2.2.1.size ?_;intro v1 w1 Xq Ye Ez;have Jy:Bl Ja w1:=jv PC.o.2.2.1 PC.o.1 Ye;have Af:w1.cell? ⟨Ja.heap.size,0,none⟩=some (.string nm):=(c_ (a:=⟨Ja.heap.size,0,none⟩) (Ye.block _ H6 (by simp[ownBlock]))).trans PC.o.2.2.2)
         | (refine bU Ic _ _ Ic Ja.heap.size v1 cs Ic (eF.below Xq (ao _ _)) (.slice (some ⟨w1.heap.size,0,none⟩) 1 1) [nm] Ic (wY w1 nm 9) H6 (t_ Jy.size i_) ?_;intro v2 w2 Va Zp Ec;obtain⟨Z,xn,xc,rfl,⟨zq,Dp⟩,Vs⟩:=Ug.o w2 v2 (jv (Jy.alloc Jy.size _) (eF.below Xq (ao _ _)) Zp) Va)
         | (refine bU Ic _ _ Ic Ja.heap.size v1 cs Ic Xq (.slice (some ⟨Ja.heap.size+1,0,none⟩) 1 1) [nm] Ic (gT Ax) H6 Jy.size ?_;intro v2 w2 Va Zp Ec;obtain⟨Z,xn,xc,rfl,⟨zq,Dp⟩,Vs⟩:=Ug.o w2 v2 (jv Jy Xq Zp) Va)
         | (refine bU Ic _ _ Ic Ja.heap.size v1 cs Ic Xq (.slice (some ⟨Ja.heap.size,0,none⟩) 1 1) [nm] Ic (gT Af) H6 Jy.size ?_;intro v2 w2 Va Zp Ec;obtain⟨Z,xn,xc,rfl,⟨zq,Dp⟩,Vs⟩:=Ug.o w2 v2 (jv Jy Xq Zp) Va))
        all_goals (
         have Bv:=ah Vs;clear Vs;go_wp2;go_meet
         case rel=>exact⟨rfl,Bv⟩)
       case rest=>
        obtain⟨rfl,Z,xn,xc,Jz,Zs,Zd⟩:=hcut;have Jr:=Jw.o;have Zx:Ints wc (.slice pa pn pc) ps:=(Us.o wc (Zy.o.trans (Zd.mono λb J=>.inl (.inr (.inr J))))).2;obtain⟨Ge,Gj,ya,yn,yc,Of,Ev,Dz,oi,bi⟩:=Hn wc (.slice pa pn pc) ps (k:Int) Zx (Ka Yq.o) 34;have y1:=(Jz 1 _ rfl).1;have Gd:=((Jz.below ((Below.refl wc.heap.size wc).alloc n_ (.cells #[] 2))) 1 _ rfl).1;have Vu:=Jz.below bi;have z1:=(Vu 1 _ rfl).1;have Gc:=(Vu 1 _ rfl).2;obtain⟨W22,Xa⟩:=q_ (Of.setCell ⟨q,1,none⟩ (.slice ya yn yc));have Uy:=ah Xa;have tS:aj (λb=>b=q) Of W22:=(by rw[Xa];exact(aj.refl (λb=>b=q) Of).setCell (p:=⟨q,1,none⟩) rfl _);have Jd:aj (λb=>b=q) Ja W22:=(Zd.of_below bi).trans tS;have Vd:aN W22 q [.slice Z xn xc,.slice ya yn yc,nV,nV,V 0]:=(by rw[Xa];exact Vu.set 1 _);have Ob:∀b,Sv (Sx g T q) (.slice na nn nc) b->b<Ja.heap.size:=λb J=>by
         rcases J with(h|h|h)|h
         ·omega
         ·omega
         ·omega
         ·exact(Xl.o.rng b h).2
        have Bw:Hid (JQ g a len cap T q GL W2.heap.size W2 W22 (j+1)):=by
         refine⟨Vh.o.keep Jd o_ (λb off x y e=>by have:=(Jk.o.by8 b off x y).1;omega),Vj.o.trans (Jd.mono λb J=>.inr (.inr J)),na,nn,nc,Q',Uk.o.tcs o_ Jd o_,Xl.o.tcs (Jd.mono (T:=λb=>b<W2.heap.size) λb J=>by omega) (λb J=>J),Ae,Z,xn,xc,ya,yn,yc,cs++[nm],ps++[(k:Int)],Vd,λW hW=>⟨?_,?_⟩,?_,?_,?_,?_⟩
         ·have h1:=bE Zs ((bi.tcs (S:=λb=>b<Ja.heap.size)).trans (tS.mono λb J=>by omega)) (λb J=>J);exact ij (bE h1 hW Ob)
         ·have h2:=bE oi (tS.mono (T:=λb=>b<wc.heap.size) λb J=>Ka Zd.size) (λb J=>J);exact uw (bE h2 hW (λb J=>l_ (Ob b J) Zd.size))
         ·have:=Yq.o;simp;omega
         ·have:=Yq.o;simp;omega
         ·intro x hx;rcases J5.1 hx with hx|hx
          ·exact Oo.o.1 x hx
          ·simp only[J7]at hx;subst hx;omega
         ·intro x hx;rcases J5.1 hx with hx|hx
          ·exact Oo.o.2 x hx
          ·simp only[J7]at hx;subst hx;exact Ve
        obtain⟨Pb,Ut⟩:=h2 Ev Dz;clear Jz Zs Zd Jr Zx oi bi Vu Xa tS Jd Vd Ob Ev Dz;go_wp2_with(at_builtin;first
         | refine ay rfl (.tmp 92) (.tmp 94) _ rfl _ _ _ _ rfl rfl Pb.o ?_
         | refine ay rfl (.tmp 95) (.tmp 97) _ rfl _ _ _ _ rfl rfl Ut.o ?_)
        rw[<-Uy.o];go_roundw
        case rel=>exact⟨j+1,o_,by go_num,Bw⟩
        case measure=>exact IF
  ·have Jr:=Jw.o;have Bi:W2.heap.size<=Wr.heap.size:=Yl.size;have Av:j<=3:=o_
   have Xt:∀b,(Value.slice fa fn fc).ownBlock=some b->q<b/\b<Wr.heap.size:=λb J=>⟨by have:=(Yv.rng b J).1;omega,(Yv.rng b J).2⟩;have Ya:=Fw (a:=a) (len:=len) (cap:=cap) Vw ⟨o_,o_⟩ ⟨Vn,Vt⟩ Ov.o.cur ⟨o_,o_,o_,o_⟩ (Jk.o.mono o_) o_ Xt;obtain⟨I,hI⟩:=q_ Wr.heap.size;obtain⟨W3,Jg⟩:=q_ (Wr.alloc (.cells #[.slice ca cn cc,.slice pa pn pc,nV,nV,V 0] 106));obtain⟨HI,Zl⟩:=h2 hI Jg;rw[<-Jg,<-hI]at Ya;have U_:=ah Ya;have Ys:Bl Wr W3:=(by rw[Jg];exact r_.alloc n_ _);have Yy:W3.heap.size=Wr.heap.size+1:=(by rw[Jg];simp);have Ji:Hid (Bl Wr W3/\W3.heap.size=Wr.heap.size+1):=⟨Ys,Yy⟩;have q0:=(Xi 0 _ rfl).1;have q1:=(Xi 1 _ rfl).1;obtain⟨Ub,Jj,Vi⟩:=h3 Vz Yv Yl;have Ey:Hid (Q.length<=3):=(by show _<=_;omega);clear Jr Xt Ya hI Jg Ys Yy Vz Yv Yl Uj Xi Vw Ue Up Vn Vt;go_upto_region 24 with fail;rw[<-Zl.o,<-HI.o];clear q0 q1 Zl;go_wp2_with fail;refine(aE g a len cap (S0 g) _ _ hl Ym U_.o.cur o_).mono ?_;rintro e w4 ⟨x4,rfl,Bb,Yu⟩;have Dk:=ah (U_.o.dr Yu);have Ee:Hid (aj (S0 g) W3 w4):=Yu.tcs;obtain⟨U,Za⟩:∃U:Nat,2+x4=U:=⟨(2+x4).toNat,o_⟩;have Pe:2<=U/\U<=7:=o_;have Uo:=ah Za;have Jc:rx 3=127:=rfl;clear Yu Za;go_wp2_with fail;refine(iT g a len cap I 3 o_ (u_ g a len cap I hl 3 o_) U o_ _ _ Uo.o rfl (S4 g T q I (.slice fa fn fc)) _ 10 w4 Dk.o (by rw[Jc];omega)).mono ?_;rintro e w5 ⟨vb,rfl,Rb,G5,Vo,Eu,Pg,Oy⟩;rw[Jc]at Vo Pg;obtain⟨ba,bn,bc,rfl⟩:∃x y z,vb=.slice x y z:=(by obtain⟨x,y,e⟩:=Vo.shape;exact⟨x,_,y,e⟩);obtain⟨F,hF⟩:=q_ w5.heap.size;obtain⟨W6,Zf⟩:=q_ (w5.alloc (.cells #[sV ⟨#[109,97,105,110]⟩,nV,.slice ba bn bc] 52));obtain⟨HF,El⟩:=h2 hF Zf;have Vq:Bl w5 W6:=(by rw[Zf];exact r_.alloc n_ _);have Pw:Hid (aN W6 F [sV ⟨#[109,97,105,110]⟩,nV,.slice ba bn bc]):=(by rw[Zf,hF];exact aI w5 _ _ i_);have Dj:F<W6.heap.size:=(by rw[Zf,hF];simp);have Po:=ah Dj;have Pk:Hid (ew g a len cap W6):=Pg.cur.below Vq;have Pi:Hid (SR w4.heap.size W6 (.slice ba bn bc) Rb (U*127)):=Vo.below Vq;have Dv:aj (Sq g I) W3 W6:=((Ee.o.mono mL).trans Oy).of_below Vq;have Ex:Hid (aj (S0 g) Wr W6):=(Ji.o.1.tcs (S:=S0 g)).next Dv (λb J=>by
    rcases J with h|h
    ·exact .inl h
    ·exact .inr (Ka HI.o))
   have D_:=ah Eu;have Dm:Hid (Wr.heap.size<w4.heap.size/\w4.heap.size<=F):=⟨Ia Ee.o.size Ji.o.2,by rw[hF];exact Oy.size⟩;clear Vo Eu Pg Oy hF Zf Vq Dv U_ Dk Dj;go_upto_region 25 with fail;rw[<-El.o,<-HF.o];clear El;go_wp2_with fail;refine(fd g a len cap (S0 g) _ _ hl Ym Pk.o o_).mono ?_;rintro e w7 ⟨b7,rfl,Yp⟩;have Jr:=Jw.o;have Ap:=Dm.o;have Zo:aj (S0 g) Wr w7:=Ex.o.trans Yp.tcs;have Ao:Wr.heap.size<=w7.heap.size:=Zo.size;have nS:∀b,w.heap.size<=b->¬S0 g b:=λb J e=>by have:b=g:=e;omega
   have Xe:=Ub.o.tcs o_ Zo (nS T o_);have Xu:=Jj.o.tcs (Zo.mono (T:=λk=>k<W2.heap.size) λk hk=>by have:k=g:=hk;omega) (λk hk=>hk);have Zt:=Pw.o.tcs Po.o Yp.tcs (nS F o_);have Oi:=Pi.o.tcs Yp.tcs (λk hk=>by have:k=g:=hk;omega);have Ol:aj (Sx g T q) W2 w7:=Vi.o.trans (Zo.mono λb J=>.inl J);have t1:=(Xe 1 _ rfl).1;have f0:=(Zt 0 _ rfl).1;have f1:=(Zt 1 _ rfl).1;have f2:=(Zt 2 _ rfl).1;have Bd:=Ey.o;have Aa:=D_.o;have Xt:∀b,(Value.slice fa fn fc).ownBlock=some b->b<w4.heap.size/\b<w4.heap.size/\b≠F:=λb J=>by have:=(Jj.o.rng b J).2;omega
   have Og:F<w7.heap.size:=l_ Po.o Yp.tcs.size;have Dt:∀W:AT,be W nV []:=λW=>⟨none,0,rfl,n_,o_,λh=>absurd h (Nat.lt_irrefl _)⟩;obtain⟨na,nn,nc,wn,rn,⟨n1,Eo⟩,Et,-,⟨Qn,Zh,Pp⟩,Y_,-,Pt⟩:=rG (g:=g) (a:=a) (len:=len) (cap:=cap) (Bp:=w4.heap.size) (qs:=[]) Xe Zt Xu o_ Yp.cur ⟨o_,o_,o_,o_,Og⟩ (Jk.o.mono o_) (λW _=>Dt W) o_ ⟨i_,λx hx=>by cases hx⟩ d_ Oi ⟨o_,o_⟩ o_ Xt;obtain⟨ma,mn,mc,wm,rm,⟨m1,Da⟩,Eq,⟨Qm,Zv,Ef⟩,Ze,Em⟩:=xN (g:=g) (a:=a) (len:=len) (cap:=cap) (nm:=⟨#[109,97,105,110]⟩) Xe Xu o_ Yp.cur ⟨o_,o_,o_⟩ (Jk.o.mono o_) d_ Oi ⟨o_,o_⟩ o_;have Oz:∀(W:AT) (Z:Option Addr) (xn xc:Nat) (Qx:List FV),aj (Sx g T q) W2 W->aN W T [rV GL 4 4,.slice Z xn xc]->FR (λk=>k<W2.heap.size) W2.heap.size W (.slice Z xn xc) Qx->Qx.length=Q.length+1->ew g a len cap W->(W.cell? ⟨T,0,none⟩=some (rV GL 4 4)/\W.cell? ⟨T,1,none⟩=some (.slice Z xn xc))/\aN W R0 [nV,nV]/\aN ((W.setCell ⟨R0,0,none⟩ (rV GL 4 4)).setCell ⟨R0,1,none⟩ (.slice Z xn xc)) R0 [rV GL 4 4,.slice Z xn xc]/\(∃t,TD (λk=>k<w.heap.size) ((W.setCell ⟨R0,0,none⟩ (rV GL 4 4)).setCell ⟨R0,1,none⟩ (.slice Z xn xc)) (rV GL 4 4) (.slice Z xn xc) t)/\Dr g a len cap (S0 g) w ((W.setCell ⟨R0,0,none⟩ (rV GL 4 4)).setCell ⟨R0,1,none⟩ (.slice Z xn xc)):=λW Z xn xc Qx ht hT hf hQ hc=>by
    have Yg:=ht.size;have tR:aj (λb=>b=R0) W ((W.setCell ⟨R0,0,none⟩ (rV GL 4 4)).setCell ⟨R0,1,none⟩ (.slice Z xn xc)):=((aj.refl (λb=>b=R0) W).setCell (p:=⟨R0,0,none⟩) rfl _).setCell (p:=⟨R0,1,none⟩) rfl _;have nx:∀b,b=GL∨b=R0->¬Sx g T q b:=λb J e=>by rcases e with e|e|e <;> omega
    have Bg:aN W GL pK:=Do.o.tcs o_ ht (nx GL (.inl rfl));refine⟨⟨(hT 0 _ rfl).1,(hT 1 _ rfl).1⟩,Oh.o.tcs o_ ht (nx R0 (.inr rfl)),((Oh.o.tcs o_ ht (nx R0 (.inr rfl))).set 0 _).set 1 _,Hp (W2:=W) (Bg.tcs o_ tR o_) ⟨o_,Ka tR.size⟩ (hf.tcs (tR.mono (T:=λb=>b<W2.heap.size) λb J=>by omega) (λb J=>J)) o_ ⟨o_,o_⟩,hc.keep tR o_ (λb off x y e=>by have:=(Jk.o.by8 b off x y).1;omega),?_⟩;refine(Ud.o.tcs.next ht (λb J=>?_)).next tR (λb J=>.inr o_);rcases J with h|h|h
    ·exact .inl h
    ·exact .inr o_
    ·exact .inr o_
   have Dh:aj (Sx g T q) W2 (wn.setCell ⟨T,1,none⟩ (.slice na nn nc)):=Ol.next Pt (λb J=>by
    rcases J with h|h
    ·exact .inl (.inr (.inl h))
    ·exact .inr (by have:=(Jj.o.rng b h).1;omega))
   have Dg:aj (Sx g T q) W2 (wm.setCell ⟨T,1,none⟩ (.slice ma mn mc)):=Ol.trans (Em.mono λb J=>.inr (.inl J));obtain⟨⟨Px,Ej⟩,Oq,Oc,Eh,Ph⟩:=Oz _ na nn nc Qn Dh Et Zh Pp Y_;obtain⟨⟨Py,Du⟩,Oj,Ul,Er,Ea⟩:=Oz _ ma mn mc Qm Dg Eq Zv Ef Ze;have Vx:=Oq 0 _ rfl;have Vp:=Oq 1 _ rfl;have Ua:=Oj 0 _ rfl;have Vy:=Oj 1 _ rfl;obtain⟨Br,E_,Uu,Uz,Ot,Od⟩:=h6 rn rm (And.intro (Oc 0 _ rfl).1 (Oc 1 _ rfl).1) (And.intro (Ul 0 _ rfl).1 (Ul 1 _ rfl).1) (And.intro Eh Ph) (And.intro Er Ea);obtain⟨Wn,Uw⟩:=q_ (wn.setCell ⟨T,1,none⟩ (.slice na nn nc));obtain⟨Wm,Ou⟩:=q_ (wm.setCell ⟨T,1,none⟩ (.slice ma mn mc));obtain⟨Bu,Bo⟩:=h2 Uw Ou;rw[<-Uw]at Px Ej Vx Vp Ot Uu;rw[<-Ou]at Py Du Ua Vy Od Uz;have Pu:(w7.alloc (.cells #[sV ⟨#[109,97,105,110]⟩,nV,.slice ba bn bc] 52)).cell? ⟨T,1,none⟩=some (.slice fa fn fc):=(cell?_alloc_past _ T 1 o_).trans t1;obtain⟨Vx,Pc⟩:=Vx;obtain⟨Vp,O_⟩:=Vp;obtain⟨Ua,Op⟩:=Ua;obtain⟨Vy,Uv⟩:=Vy;clear Yp Jr Ap Zo Ao nS Xe Xu Zt Oi Ol Bd Aa Xt Dt rn Et Zh Pp Y_ Pt rm Eq Zv Ef Ze Em Oz Dh Dg Oq Eh Ph Oj Er Ea Oc Ul Uw Ou Ub Jj Vi Ey Ov Pw Pi Ex D_ Dm Pk Ei Pm Eg Uq Do Oh Ud Jw;cases b7
   ·clear Py Du Ua Vy Op Uv m1 Da Pu;go_upto_region 28 with(at_builtin;refine ay rfl _ _ _ rfl _ _ _ _ rfl rfl Br.o ?_);rw[<-Bu.o];clear n1 Eo t1 f0 f1 f2;go_wp2_with fail;refine bodyPost_ret (by simp[results,results31,go_sem,Uu.o.1,Uu.o.2];try rfl) rfl ?_;exact⟨_,_,rfl,Ot.o.1,Ot.o.2⟩
   ·clear Px Ej Vx Vp Pc O_ n1 Eo;go_upto_region 28 with(at_builtin;refine ay rfl _ _ _ rfl _ _ _ _ rfl rfl E_.o ?_);rw[<-Bo.o];clear m1 Da t1 f0 f1 f2 Pu;go_wp2_with fail;refine bodyPost_ret (by simp[results,results31,go_sem,Uz.o.1,Uz.o.2];try rfl) rfl ?_;exact⟨_,_,rfl,Od.o.1,Od.o.2⟩
