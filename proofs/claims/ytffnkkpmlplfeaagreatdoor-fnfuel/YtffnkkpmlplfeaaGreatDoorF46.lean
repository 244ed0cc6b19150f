import Derived.Test.YtffnkkpmlplfeaaGreatDoorF45
import Derived.Deep.RegionHeld3
namespace Go.Proofs.YtffnkkpmlplfeaaGreatDoor
open Go.Value Go.World List
open Go.Proofs.Tryz Go.RowKit
set_option linter.all false
set_option maxRecDepth 100000
set_option maxHeartbeats 0
variable[Inhabited Pick]
def FT{S:D6}{w w':AT}{t:GC}(h:ak S (w.alloc (.cells #[V 3,V 4,V 13,V 15] t)) w')(I:∀k,S k->k<w.heap.size)(y:Nat)(J:y<4):∃v:Int,DO w' w.heap.size y (V v):=by
 have e:∀o,w'.cell? ⟨w.heap.size,o,none⟩=(w.alloc (.cells #[V 3,V 4,V 13,V 15] t)).cell? ⟨w.heap.size,o,none⟩:=λo=>c_ (a:=⟨w.heap.size,o,none⟩) (h.block w.heap.size i_ (λs=>Ft (I _ s)));have:y=0∨y=1∨y=2∨y=3:=o_
 rcases this with rfl|rfl|rfl|rfl
 ·exact⟨3,(e 0).trans i_⟩
 ·exact⟨4,(e 1).trans i_⟩
 ·exact⟨13,(e 2).trans i_⟩
 ·exact⟨15,(e 3).trans i_⟩
def FU{x:Int}(h:0<=x/\x<3):om (1+x).toNat<=345:=by
 have:x=0∨x=1∨x=2:=by omega
 rcases this with rfl|rfl|rfl <;> decide
theorem dL(g:Nat)(a:Option Addr)(len cap:Nat)(S:Nat->Prop)(G:Gn)(K:Nat)(w:World)(hl:len<=1048576)(hL:Lo g a len S w.heap.size)(hc:dS g a len cap w)(hG:fh S w G K)(hK:K<=50000):
  Calls prog 117 #[pV g,.agg #[G.vc,G.vp,G.vs,G.vl,V G.m]] w λe w'=>∃u ns,e=rW u/\aV w.heap.size w' u ns/\bV ns 400/\Dr g a len cap S w w':=by
 have hS:=hL.sg;obtain⟨vc,vp,vs,vl,m,cs,ps,ss,J⟩:=G;have HG:=ah hG;obtain⟨ac,cc,e1,-⟩:=hG.c w (ak.refl _ _);obtain⟨ap,cp,I,-⟩:=hG.p w (ak.refl _ _);obtain⟨av,cv,e3,-⟩:=hG.s w (ak.refl _ _);obtain⟨al,cl,e4,-⟩:=hG.l w (ak.refl _ _);dsimp only at e1 I e3 e4;subst e1 I e3 e4;dsimp only;generalize hW0:w.alloc (.cells #[.slice ac cs.length cc,.slice ap ps.length cp,.slice av ss.length cv,.slice al J.length cl,V m] 174)=W0;have Xj:=ah hW0;have Je:Hid (Dr g a len cap S w W0):=by rw[<-hW0];exact(Dr.refl hc).alloc _
 have HX:Hid (∀W,ak S W0 W->W.cell? ⟨w.heap.size,0,none⟩=some (.slice ac cs.length cc)/\W.cell? ⟨w.heap.size,1,none⟩=some (.slice ap ps.length cp)/\W.cell? ⟨w.heap.size,2,none⟩=some (.slice av ss.length cv)/\W.cell? ⟨w.heap.size,3,none⟩=some (.slice al J.length cl)/\W.cell? ⟨w.heap.size,4,none⟩=some (V m)):=λW hW=>by rw[<-hW0]at hW;exact(Bz hW hL.s)
 have Xb:=ah λW (h:ak S W0 W)=>HG.out.tcs (Je.out.tcs.trans h);have U:Hid (Lo g a len S W0.heap.size):=hL.mono Je.out.tcs.size;have Xl:w.heap.size<W0.heap.size:=by rw[<-hW0];simp
 clear hW0 hc hL;go_in;go_upto_region 1 with fail;rw[Xj.out];obtain⟨x0,x1,x2,x3,x4⟩:=HX.out W0 (ak.refl _ _);have Xh:dS g a len cap W0.drew:=Je.out.cur.below r_.drew;have Ju:=ah Xh;go_region_held3 (λW=>W.cell? ⟨w.heap.size,0,none⟩=some (.slice ac cs.length cc)/\W.cell? ⟨w.heap.size,1,none⟩=some (.slice ap ps.length cp)/\W.cell? ⟨w.heap.size,2,none⟩=some (.slice av ss.length cv)/\W.cell? ⟨w.heap.size,3,none⟩=some (.slice al J.length cl)/\W.cell? ⟨w.heap.size,4,none⟩=some (V m)) (go_simp)
  (first
  | (go_at_call 49;refine(aE g a len cap S _ _ hl hS Ju.out o_).mono ?_;rintro e w1 ⟨x,rfl,hx,Jk⟩;have Jd:Hid (Dr g a len cap S W0 w1):=⟨Jk.cur,((ak.refl S W0).drew).trans Jk.tcs⟩;obtain⟨y0,y1,y2,y3,y4⟩:=HX.out w1 Jd.out.tcs;clear Jk)
  | (go_at_call 150;refine(mw g a len cap S hl (1+x).toNat o_ _ ⟨.slice ac cs.length cc,.slice ap ps.length cp,.slice av ss.length cv,.slice al J.length cl,m,cs,ps,ss,J⟩ K w1 (by simp only[IntKind.wrap_i64];omega) (U.out.mono Jd.out.tcs.size) Jd.out.cur (Xb.out _ Jd.out.tcs) hK).mono ?_;rintro e w2 ⟨u2,I,rfl,Jm,Xc,Jv⟩;have Jh:Hid (Dr g a len cap S W0 w2):=Jd.out.trans Jv;have Xg:Hid (aV W0.heap.size w2 u2 I):=dK Jm Jd.out.tcs.size;have Jt:Hid (bV I 345):=Xc.more (FU hx);obtain⟨z0,z1,z2,z3,z4⟩:=HX.out w2 Jh.out.tcs;clear Jm Xc Jv))
 clear x0 x1 x2 x3 x4 y0 y1 y2 y3 y4 Ju;have Jf:Hid (∀w' u ns,aV W0.heap.size w' u ns->bV ns 400->Dr g a len cap S W0 w'->aV w.heap.size w' u ns/\bV ns 400/\Dr g a len cap S w w'):=λw' u ns h1 h2 h3=>⟨dK h1 Je.out.tcs.size,h2,Je.out.trans h3⟩;go_wp2_with fail;refine(dU g a len cap S _ _ hl hS Jh.out.cur o_).mono ?_;rintro e w3 ⟨q,rfl,Jn⟩;have Js:Hid (Dr g a len cap S W0 w3):=Jh.out.trans Jn;have Jx:Hid (aV W0.heap.size w3 u2 I):=aN Xg.out Jn.tcs U.out.s;cases q with
 | false=>
  have HF:=Jf.out w3 u2 I Jx.out (Jt.out.more o_) Js;have Y:=ah HF;clear HF;go_wp2;go_ret;exact⟨_,_,rfl,Y.out.1,Y.out.2.1,Y.out.2.2⟩
 | true=>
  go_wp2;go_loopw[5,6] (λov i wr=>∃j:Nat,j<=7/\i=V j/\∃ns:List Nd,aV W0.heap.size wr ov ns/\bV ns (345+2*j)/\Dr g a len cap S W0 wr) (λ_ i _=>8-(RowKit.intOf i).toNat)
  case atStart=>exact⟨0,o_,rfl,I,Jx,Jt,Js⟩
  case round=>
   obtain⟨j,hj,rfl,ns,hr,hn,Xk⟩:=hrel;obtain⟨HR,HN,Jo⟩:=h3 hr hn Xk;have Xp:ns.length<=359:=t_ hn.1 o_;go_wp2_with fail;refine(aE g a len cap S _ _ hl hS Jo.out.cur o_).mono ?_;rintro e w4 ⟨y,rfl,hy,Jl⟩;have Z:Hid (Dr g a len cap S W0 w4):=Jo.out.trans Jl;have Jq:Hid (aV W0.heap.size w4 _ ns):=aN HR.out Jl.tcs U.out.s;have Jy:W0.heap.size<=w4.heap.size:=Z.out.tcs.size;clear Jl;by_cases hlt:(j:Int)<4+y
   ·obtain⟨x0,x1,x2,x3,x4⟩:=HX.out w4 Z.out.tcs;go_wp2_with fail;refine(fB g a len cap S ⟨.slice ac cs.length cc,.slice ap ps.length cp,.slice av ss.length cv,.slice al J.length cl,m,cs,ps,ss,J⟩ K w4 hl (U.out.mono Jy) Z.out.cur (Xb.out _ Z.out.tcs) hK).mono ?_;rintro e w5 ⟨u5,e5,rfl,Xi,Jw,Jr⟩;have Jj:Hid (Dr g a len cap S W0 w5):=Z.out.trans Jr;have Xd:=ah Jw;have Xo:e5.length<=1:=Jw.1;have Jz:Hid (∀W,ak S w5 W->aw W u5 e5):=gd Xi (U.out.mono Jy).s;have J_:Hid (∀W,ak S w5 W->aw W _ ns):=λW hW=>gd Jq.out U.out.s W (Jr.tcs.trans hW);have Xf:W0.heap.size<=w5.heap.size:=Jj.out.tcs.size;go_wp2_with fail;refine(aE g a len cap S _ _ hl hS (Jj.out.alloc _).cur o_).mono ?_;rintro e w6 ⟨z,rfl,hz,Jg⟩;have Jp:Hid (Dr g a len cap S W0 w6):=(Jj.out.alloc _).trans Jg;have Ji:ak S w5 w6:=((ak.refl S w5).alloc _).trans Jg.tcs;have Xa:Hid (aw w6 u5 e5/\aw w6 _ ns):=⟨Jz.out w6 Ji,J_.out w6 Ji⟩;obtain⟨zn,rfl⟩:∃zn:Nat,z=zn:=⟨z.toNat,o_⟩;obtain⟨vz,Xn⟩:=FT Jg.tcs (U.out.mono Xf).s zn o_;clear Jg Ji Jz J_;go_wp2_with fail;refine(iH e5 ns _ _ _ u5 _ _ Xa.out.1 Xa.out.2 o_).mono ?_;rintro e w7 ⟨u7,rfl,Xe,Xm⟩;have HE:Hid (aV W0.heap.size w7 u7 (e5++ns++[⟨7,vz,⟨#[]⟩⟩])/\bV (e5++ns++[⟨7,vz,⟨#[]⟩⟩]) (345+2*(j+1))/\Dr g a len cap S W0 w7):=⟨dK Xe Jp.out.tcs.size,bV.more ((Xd.out.app HN).app (bV.one d_)) o_,Jp.out.below Xm⟩;go_wp2;go_roundw
    case rel=>exact⟨j+1,o_,by go_num,_,HE.out.1,HE.out.2.1,HE.out.2.2⟩
    case measure=>simp[RowKit.intOf];omega
   ·have HF:=Jf.out w4 _ ns Jq.out (HN.out.more o_) Z;have Y:=ah HF;clear HF;go_wp2;go_ret;exact⟨_,_,rfl,Y.out.1,Y.out.2.1,Y.out.2.2⟩
section
variable{g q len cap K K' o:Nat}{w w':AT}{G:Gn}{a:Option Addr}{S:D6}{v:BY}
def S0(g:Nat):D6:=λk=>k=g
def Sq(g q:Nat):D6:=λk=>k=g∨k=q
def jb:∀k,S0 g k->Sq g q k:=λk h=>.inl h
structure GB (q:Nat) (w:AT) (G:Gn):Prop where
 c0:w.cell? ⟨q,0,none⟩=some G.vc
 c1:w.cell? ⟨q,1,none⟩=some G.vp
 c2:w.cell? ⟨q,2,none⟩=some G.vs
 c3:w.cell? ⟨q,3,none⟩=some G.vl
 c4:w.cell? ⟨q,4,none⟩=some (V G.m)
 fz:∀j,w.frozen? ⟨q,j,none⟩=false
def GB.keep(h:GB q w G)(hb:w'.heap[q]? =w.heap[q]?):GB q w' G:=
 ⟨(c_ (a:=⟨q,0,none⟩) hb).trans h.c0,(c_ (a:=⟨q,1,none⟩) hb).trans h.c1,(c_ (a:=⟨q,2,none⟩) hb).trans h.c2,(c_ (a:=⟨q,3,none⟩) hb).trans h.c3,(c_ (a:=⟨q,4,none⟩) hb).trans h.c4,λo=>(frozen?_of_block (a:=⟨q,o,none⟩) hb).trans (h.fz o)⟩
def GB.lt(h:GB q w G):q<w.heap.size:=b_ h.c0
def kP{a b:Nat}(h:a≠b):(⟨g,a,none⟩:Addr)≠⟨g,b,none⟩:=λe=>by simp[h]at e
def GB.set2(h:GB q w G)(v:BY)(ss:List GA):GB q (w.setCell ⟨q,2,none⟩ v) {G with vs:=v,ss:=ss}:=
 ⟨(s_ _ _ _ _ (kP d_)).trans h.c0,(s_ _ _ _ _ (kP d_)).trans h.c1,cell?_setCell_same _ _ _ h.c2,(s_ _ _ _ _ (kP d_)).trans h.c3,(s_ _ _ _ _ (kP d_)).trans h.c4,λo=>by simpa using h.fz o⟩
def GB.set3(h:GB q w G)(v:BY)(ls:List GA):GB q (w.setCell ⟨q,3,none⟩ v) {G with vl:=v,ls:=ls}:=
 ⟨(s_ _ _ _ _ (kP d_)).trans h.c0,(s_ _ _ _ _ (kP d_)).trans h.c1,(s_ _ _ _ _ (kP d_)).trans h.c2,cell?_setCell_same _ _ _ h.c3,(s_ _ _ _ _ (kP d_)).trans h.c4,λo=>by simpa using h.fz o⟩
def GB.set4(h:GB q w G)(z:Int):GB q (w.setCell ⟨q,4,none⟩ (V z)) {G with m:=z}:=
 ⟨(s_ _ _ _ _ (kP d_)).trans h.c0,(s_ _ _ _ _ (kP d_)).trans h.c1,(s_ _ _ _ _ (kP d_)).trans h.c2,(s_ _ _ _ _ (kP d_)).trans h.c3,cell?_setCell_same _ _ _ h.c4,λo=>by simpa using h.fz o⟩
structure GS (g:Nat) (a:Option Addr) (len cap q:Nat) (S:D6) (w:AT) (G:Gn) (K:Nat):Prop where
 cur:dS g a len cap w
 box:GB q w G
 ok:fh S w G K
 lo:Lo g a len S w.heap.size
 sq:S q
 ne:q≠g
def GS.lo0(h:GS g a len cap q S w G K):Lo g a len (S0 g) w.heap.size:=
 ⟨h.lo.gl,rfl,λb off x y=>⟨(h.lo.by8 b off x y).1,λe=>(h.lo.by8 b off x y).2 (e ▸ h.lo.sg)⟩,λk hk=>h.lo.s k (hk ▸ h.lo.sg)⟩
def GS.s0(h:GS g a len cap q S w G K):∀k,S0 g k->S k:=λk hk=>hk ▸ h.lo.sg
def GS.sqs(h:GS g a len cap q S w G K):∀k,Sq g q k->S k:=λk hk=>by rcases hk with rfl|rfl;exact h.lo.sg;exact h.sq
def GS.ok0(h:GS g a len cap q S w G K):fh (S0 g) w G K:=h.ok.less h.s0
def GS.dr(h:GS g a len cap q S w G K)(hd:Dr g a len cap (S0 g) w w'):GS g a len cap q S w' G K:=
 ⟨hd.cur,h.box.keep (hd.tcs.block q h.box.lt h.ne),h.ok.tcs (hd.tcs.mono h.s0),h.lo.mono hd.tcs.size,h.sq,h.ne⟩
def GS.below(h:GS g a len cap q S w G K)(hb:Bl w w'):GS g a len cap q S w' G K:=h.dr ⟨h.cur.below hb,hb.tcs⟩
def GS.alloc(h:GS g a len cap q S w G K)(o:Obj):GS g a len cap q S (w.alloc o) G K:=h.below (r_.alloc n_ o)
def Sv(S:D6)(v:BY):D6:=λk=>S k∨v.ownBlock=some k
def GS.add{w0:AT}(h:GS g a len cap q S w0 G K)(I:GS g a len cap q S w G K)(Y:ak S w0 w)(U:∀k,v.ownBlock=some k->w0.heap.size<=k/\k<w.heap.size):GS g a len cap q (Sv S v) w G K:=by
 refine⟨I.cur,I.box,?_,⟨I.lo.gl,.inl I.lo.sg,λb off x y=>⟨(I.lo.by8 b off x y).1,λe=>?_⟩,λk hk=>?_⟩,.inl I.sq,I.ne⟩
 ·have J:∀W,ak (Sv S v) w W->ak S w0 W:=λW hW=>Y.next hW λk hk=>by
   rcases hk with hk|hk
   ·exact .inl hk
   ·exact .inr (U k hk).1
  exact⟨λW hW=>h.ok.c W (J W hW),λW hW=>h.ok.p W (J W hW),λW hW=>h.ok.s W (J W hW),λW hW=>h.ok.l W (J W hW),h.ok.cp,h.ok.c4,h.ok.pb,h.ok.ns,h.ok.sl,h.ok.ll,h.ok.mb⟩
 ·rcases e with e|e
  ·exact(I.lo.by8 b off x y).2 e
  ·have:=(U b e).1
   have:=(h.lo.by8 b off x y).1
   omega
 ·rcases hk with hk|hk
  ·exact I.lo.s k hk
  ·exact(U k hk).2
def GS.app{B:Nat}{U:BY}(h:GS g a len cap q (Sv S v) w G K)(Y:Lo g a len S B)(hq:S q)(hv:∀k,v.ownBlock=some k->B<=k)(I:ak (λk=>v.ownBlock=some k) w w')(Z:∀k,U.ownBlock=some k->v.ownBlock=some k∨w.heap.size<=k)(Jb:∀k,U.ownBlock=some k->k<w'.heap.size):GS g a len cap q (Sv S U) w' G K:=by
 have J:∀W,ak (Sv S U) w' W->ak (Sv S v) w W:=λW hW=>(I.mono λk hk=>.inr hk).next hW λk hk=>by
  rcases hk with hk|hk
  ·exact .inl (.inl hk)
  ·rcases Z k hk with h1|h1
   ·exact .inl (.inr h1)
   ·exact .inr h1
 have Jc:=Y.s q hq;refine⟨h.cur.new Y I hv,h.box.keep (I.block q h.box.lt (λs=>Ft (hv q s))),⟨λW hW=>h.ok.c W (J W hW),λW hW=>h.ok.p W (J W hW),λW hW=>h.ok.s W (J W hW),λW hW=>h.ok.l W (J W hW),h.ok.cp,h.ok.c4,h.ok.pb,h.ok.ns,h.ok.sl,h.ok.ll,h.ok.mb⟩,⟨?_,.inl Y.sg,λb off x y=>⟨?_,λe=>?_⟩,λk hk=>?_⟩,.inl hq,h.ne⟩
 ·have:=h.lo.gl;have:=I.size;omega
 ·have:=(h.lo.by8 b off x y).1;have:=I.size;omega
 ·rcases e with e|e
  ·exact(h.lo.by8 b off x y).2 (.inl e)
  ·rcases Z b e with h1|h1
   ·exact(h.lo.by8 b off x y).2 (.inr h1)
   ·have:=(h.lo.by8 b off x y).1;omega
 ·rcases hk with hk|hk
  ·have:=h.lo.s k (.inl hk);have:=I.size;omega
  ·exact Jb k hk
def GS.sub{S':D6}(h:GS g a len cap q S w G K)(hs:∀k,S' k->S k)(hg:S' g)(hq:S' q):GS g a len cap q S' w G K:=
 ⟨h.cur,h.box,h.ok.less hs,⟨h.lo.gl,hg,λb off x y=>⟨(h.lo.by8 b off x y).1,λe=>(h.lo.by8 b off x y).2 (hs b e)⟩,λk hk=>h.lo.s k (hs k hk)⟩,hq,h.ne⟩
def GS.drop(h:GS g a len cap q (Sv S v) w G K)(hg:S g)(hq:S q):GS g a len cap q S w G K:=
 ⟨h.cur,h.box,h.ok.less λk hk=>.inl hk,⟨h.lo.gl,hg,λb off x y=>⟨(h.lo.by8 b off x y).1,λe=>(h.lo.by8 b off x y).2 (.inl e)⟩,λk hk=>h.lo.s k (.inl hk)⟩,hq,h.ne⟩
def GS.more(h:GS g a len cap q S w G K)(hk:K<=K'):GS g a len cap q S w G K':=⟨h.cur,h.box,h.ok.more hk,h.lo,h.sq,h.ne⟩
def GS.set{G':Gn}(h:GS g a len cap q S w G K)(hb:GB q (w.setCell ⟨q,o,none⟩ v) G')(hG:fh S w G' K'):GS g a len cap q S (w.setCell ⟨q,o,none⟩ v) G' K':=
 have ht:ak S w (w.setCell ⟨q,o,none⟩ v):=(ak.refl _ _).setCell (p:=⟨q,o,none⟩) h.sq v;have ht2:ak (λk=>k=q) w (w.setCell ⟨q,o,none⟩ v):=(ak.refl (λk=>k=q) w).setCell (p:=⟨q,o,none⟩) rfl v
 ⟨h.cur.keep ht2 (λe=>h.ne e.symm) (λb off x y e=>(h.lo.by8 b off x y).2 (e ▸ h.sq)),hb,hG.tcs ht,h.lo.mono ht.size,h.sq,h.ne⟩
def my(w:AT)(v:BY):ak (Sq g q) w (w.setCell ⟨q,o,none⟩ v):=(ak.refl _ _).setCell (p:=⟨q,o,none⟩) (.inr rfl) v
def fh.setM(h:fh S w G K):fh S w {G with m:=G.m+1} (K+1):=
 ⟨h.c,h.p,h.s,h.l,h.cp,h.c4,h.pb,h.ns,t_ h.sl (Nat.le_succ _),t_ h.ll (Nat.le_succ _),by have:=h.mb;show 0<=G.m+1/\G.m+1<=((K+1:Nat):Int);omega⟩
def fh.setS(h:fh S w G K){ss:List GA}(hs:∀W,ak S w W->a_ W v ss)(hn:∀x∈ss,x.size<=100000)(hl:ss.length<=K):fh S w {G with vs:=v,ss:=ss} K:=
 ⟨h.c,h.p,hs,h.l,h.cp,h.c4,h.pb,⟨h.ns.1,hn,h.ns.2.2⟩,hl,h.ll,h.mb⟩
def fh.setL(h:fh S w G K){ls:List GA}(hs:∀W,ak S w W->a_ W v ls)(hn:∀x∈ls,x.size<=100000)(hl:ls.length<=K):fh S w {G with vl:=v,ls:=ls} K:=
 ⟨h.c,h.p,h.s,hs,h.cp,h.c4,h.pb,⟨h.ns.1,h.ns.2.1,hn⟩,h.sl,hl,h.mb⟩
def Dx(s:GA):((⟨#[118]⟩:GA)++s).size=s.size+1:=by
 rw[ByteArray.size_append];show 1+s.size=_;omega
def kG(g:Nat)(a:Option Addr)(len cap q:Nat)(S:D6)(G:Gn)(K:Nat)(w:AT)(h:GS g a len cap q S w G K)(hK:K+1<=50000):
  Calls prog 179 #[pV q] w λe w'=>∃s,e=rW (sV s)/\s.size<=100000/\GS g a len cap q S w' {G with m:=G.m+1} (K+1)/\ak (Sq g q) w w':=by
 have hm:=h.ok.mb;obtain⟨u,I⟩:∃u:Nat,G.m+1=u:=⟨(G.m+1).toNat,o_⟩;have c4:=h.box.c4;have f4:=h.box.fz 4;obtain⟨HU,HN⟩:=h2 I (h.set (h.box.set4 _) h.ok.setM);have HT:Hid (ak (Sq g q) w (w.setCell ⟨q,4,none⟩ (V (G.m+1)))):=(ak.refl _ _).setCell (p:=⟨q,4,none⟩) (.inr rfl) _;have Z:Hid (∀W:AT,Calls prog 115 #[V (G.m+1)] W λe w'=>e=rW (sV (tx (Lib.decDigits u)))/\Bl W w'):=λW=>by rw[I];exact qp u u n_ o_ W
 have Y:(tx (Lib.decDigits u)).size<=50002:=by
  rw[oQ];have:=oZ u u n_;omega
 generalize tx (Lib.decDigits u)=A at Y Z;have Jd:((A.size:Nat):Int)<=1000000:=o_;have HS:Hid (((⟨#[118]⟩:GA)++A).size<=100000):=by show _<=_;rw[Dx];omega
 have h1:(⟨#[118]⟩:GA).size=1:=rfl;generalize G.m=m at*;clear I Y h;go_in;go_wp2_with fail;refine(Z.o _).mono ?_;rintro e w2 ⟨rfl,U⟩;have J:Hid (GS g a len cap q S w2 {G with m:=m+1} (K+1)/\ak (Sq g q) w w2):=⟨HN.o.below U,HT.o.of_below U⟩;go_wp2;go_ret;exact⟨_,rfl,HS,J.o.1,J.o.2⟩
end
section
variable{B L B' B2 L2:Nat}{w w':AT}{v u:BY}{R R2:List SV}{e:List Nd}
def AZ(R:List SV)(W:AT):Prop:=∀x∈R,aw W x.ve x.s.e/\aw W x.vf x.s.f
def EG(R:List SV):Prop:=∀x∈R,bV x.s.e 3000/\bV x.s.f 3000/\x.s.name.size<=100000
structure SR (B:Nat) (w:AT) (v:BY) (R:List SV) (L:Nat):Prop where
 row:fx 132 6 (λk=>k<B) B w v R.length (db R) (AZ R)
 ok:EG R
 len:R.length<=L
def SR.tcs{S:D6}(h:SR B w v R L)(ht:ak S w w')(hS:∀k,S k->k<B):SR B w' v R L:=⟨h.row.tcs (ht.mono hS) (λk hk=>hk),h.ok,h.len⟩
def SR.below(h:SR B w v R L)(hb:Bl w w'):SR B w' v R L:=⟨h.row.below hb,h.ok,h.len⟩
def SR.low(h:SR B w v R L)(hb:B'<=B):SR B' w v R L:=⟨(h.row.low hb).less (λk hk=>by omega),h.ok,h.len⟩
def SR.more{L':Nat}(h:SR B w v R L)(hl:L<=L'):SR B w v R L':=⟨h.row,h.ok,t_ h.len hl⟩
def SR.shape(h:SR B w v R L):∃a c,v=.slice a R.length c:=by
 obtain⟨a,c,e,-⟩:=aI h.row.row;exact⟨a,c,e⟩
def SR.rng(h:SR B w v R L):∀k,v.ownBlock=some k->B<=k/\k<w.heap.size:=λk hk=>ownsRow.lt h.row.row k hk
def Dy(w:AT)(B:Nat)(hB:B<=w.heap.size):SR B (w.alloc (.cells #[] 132)) (rV w.heap.size 0 0) [] 0:=
 ⟨⟨ownsRow_lit w #[] 0 hB d_ rfl,λW _ x hx=>by cases hx⟩,(λx hx=>by cases hx),n_⟩
def aX(W:AT):aw W nV []:=⟨none,0,rfl,n_,o_,λh=>absurd h (Nat.lt_irrefl _)⟩
def cO(h:aV B w v e)(hb:B'<=B):∀W,ak (λk=>k<B') w W->aw W v e:=gd h (λk hk=>by omega)
def kl{h vf:BY}{kd th el:Int}{nm:GA}{f:List Nd}(Y:B<=w.heap.size)(J:∀W,ak (λk=>k<B) w W->aw W h e)(hF:∀W,ak (λk=>k<B) w W->aw W vf f)(Z:bV e 3000)(U:bV f 3000)(on:nm.size<=100000):
  SR B (w.alloc (.cells #[V kd,sV nm,h,vf,V th,V el] 132)) (rV w.heap.size 1 1) [⟨⟨kd,nm,e,f,th,el⟩,h,vf,[],[]⟩] 1:=by
 refine⟨⟨ownsRow_lit w #[V kd,sV nm,h,vf,V th,V el] 1 Y d_ rfl,λW hW x hx=>?_⟩,λx hx=>?_,n_⟩
 ·simp only[GM]at hx;subst hx;have I:ak (λk=>k<B) w W:=((ak.refl _ w).alloc _).next hW λk hk=>by
   rcases hk with hk|hk
   ·exact .inl hk
   ·simp only[ownBlock,GD]at hk;exact .inr o_
  exact⟨J W I,hF W I⟩
 ·simp only[GM]at hx;subst hx;exact⟨Z,U,on⟩
def jk(J:GC)(h:SR B w v R L)(h2:SR B2 w u R2 L2)(hB:B<=w.heap.size)(hm:L+L2<=1000000)
  (Jf:∀W,ak (λk=>k<B∨v.ownBlock=some k) w W->AZ R2 W):
  ∃v' w',(Builtin.append_ #[95,95] J #[v,u]).run prog w=.ok v' w'/\SR B w' v' (R++R2) (L+L2)/\ak (λk=>v.ownBlock=some k) w w'/\∀k,v'.ownBlock=some k->v.ownBlock=some k∨w.heap.size<=k:=by
 obtain⟨i0,hi,Z,Jd,Jb⟩:=info_parts j5;obtain⟨a,c,rfl,hn,hc⟩:=aI h2.row.row;have Je:=h.len;have Ja:=h2.len;obtain⟨v',w',Y,I,U⟩:=mt (Pg:=prog) (w:=w) (T:=132) (t:=95) (c:=c) (P2:=AZ R2) J underlying95 hi Z Jd Jb rfl d_ h.row a hn (j2 R2) hc (j4 R2 λq hq=>⟨(h2.row.now q hq).1.cell1,(h2.row.now q hq).2.cell1⟩) Jf o_ d_ hB;refine⟨v',w',Y,⟨⟨by rw[l_a,jE];exact I.row,λW hW x hx=>?_⟩,λx hx=>?_,by rw[l_a];omega⟩,U⟩
 ·rcases GJ.1 hx with hx|hx
  ·exact(I.st W hW).1 x hx
  ·exact(I.st W hW).2 x hx
 ·rcases GJ.1 hx with hx|hx
  ·exact h.ok x hx
  ·exact h2.ok x hx
def iX(h2:SR B2 w u R2 L2)(hB:B<=B2)(hv:∀k,v.ownBlock=some k->k<B2):∀W,ak (λk=>k<B∨v.ownBlock=some k) w W->AZ R2 W:=λW hW=>
 h2.row.st W (hW.mono λk hk=>by
  rcases hk with hk|hk
  ·exact .inl o_
  ·exact .inl (hv k hk))
def km{w1:AT}(h2:SR B2 w1 u R2 L2)(ht:ak (λk=>k<B2) w1 w)(hB:B<=B2)(hv:∀k,v.ownBlock=some k->w1.heap.size<=k):∀W,ak (λk=>k<B∨v.ownBlock=some k) w W->AZ R2 W:=λW hW=>
 h2.row.st W ((ht.mono λk hk=>.inl hk).next hW λk hk=>by
  rcases hk with hk|hk
  ·exact .inl (.inl o_)
  ·exact .inr (hv k hk))
def li(g:Nat)(a:Option Addr)(len cap q:Nat)(S:D6)(K L m:Nat)(w:AT)(v:BY)(w':AT):Prop:=∃R G',SR w.heap.size w' v R L/\m<=R.length/\GS g a len cap q (Sv S v) w' G' (K+L)/\ak (Sq g q) w w'
def D9(g:Nat)(a:Option Addr)(len cap q d:Nat):Prop:=∀(z:Int) (S:D6) (G:Gn) (K:Nat) (w:AT),z=d->GS g a len cap q S w G K->K+oh d<=50000 ->
  Calls prog 149 #[pV g,pV q,V z] w λe w'=>∃v,e=rW v/\li g a len cap q S K (oh d) 1 w v w'
end
section
variable{B:Nat}{v:BY}
def wI(g:Gl):List BY:=[sV g.name,V g.size]
def cU(gs:List Gl):List BY:=gs.flatMap wI
theorem iY(gs:List Gl):(cU gs).length=gs.length*2:=by
 induction gs with
 | nil=>rfl
 | cons a r ih=>
  have:(cU (a::r)).length=2+(cU r).length:=by simp[cU,wI];omega
  rw[this,ih,l_c];omega
theorem iZ:∀(gs:List Gl) (j i:Nat) (hj:j<gs.length),i<2->(cU gs)[j*2+i]? =(wI gs[j])[i]?
 | x::l,0,i,_,hi=>by
  have:(wI x).length=2:=rfl
  show(wI x++cU l)[0*2+i]? =_;rw[getElem?_append_left o_];simp
 | x::l,j+1,i,hj,hi=>by
  have h7:(wI x).length=2:=rfl;show(wI x++cU l)[(j+1)*2+i]? =_;rw[getElem?_append_right o_];have e:(j+1)*2+i-(wI x).length=j*2+i:=o_;rw[e,iZ l j i (Fc hj) hi];simp
def GR(B:Nat)(w:AT)(v:BY)(gs:List Gl):Prop:=w.ownsRow B 63 2 v gs.length (cU gs)
def zI{w:AT}{gs:List Gl}(h:GR B w v gs):cK w v gs:=by
 have U:w.ownsRow B 63 2 v gs.length (cU gs):=h;rcases U.2 with⟨rfl,hz⟩|⟨g,I,Jc,rfl,h3,h4,h5⟩
 ·exact⟨none,0,by rw[hz],by rw[hz];exact n_,o_,λh=>by omega⟩
 ·have Y:gs.length<=I/\I<=9223372036854775807:=by
   obtain⟨q1,Z,-⟩:=h5;unfold maxLen at Z;exact⟨q1,Z⟩
  refine⟨some ⟨g,0,none⟩,I,rfl,Y.1,Y.2,λhp'=>⟨g,0,rfl,λj hj=>?_⟩⟩;have J:∀i,i<2->w.cell? ⟨g,0+j*2+i,none⟩=(wI gs[j])[i]? := λi hi=>by
   have hl:(cU gs).length=gs.length*2:=iY gs;rw[Nat.zero_add,ownsRow.cellAt U (j*2+i) o_,iZ gs j i hj hi]
  exact⟨J 0 o_,J 1 o_⟩
def ow:(prog.info? 63).map (λi=>(i.zero,i.size,i.bytes))=some (some (.agg #[sV ⟨#[]⟩,V 0]),2,24):=by kernel_rfl
end
def sR{d:Nat}(h:d<=4):1<=oh d/\oh d<=511:=by
 have:d=0∨d=1∨d=2∨d=3∨d=4:=by omega
 rcases this with rfl|rfl|rfl|rfl|rfl <;> decide
def gG(g:Nat)(a:Option Addr)(len cap q d:Nat)(hd:d<=4)(hX:D9 g a len cap q d)(n:Nat)(hn:n<=10)(zn zd:Int)(Jp:zn=n)(Jo:zd=d)(S:D6)(G:Gn)(K:Nat)(w:AT)(h:GS g a len cap q S w G K)(hK:K+n*oh d<=50000):
  Calls prog 116 #[pV g,pV q,V zn,V zd] w λe w'=>∃v,e=rW v/\li g a len cap q S K (n*oh d) n w v w':=by
 have Jn:=sR hd;obtain⟨D,hD⟩:=q_ (oh d);have HX:Hid (∀(S:D6) (G:Gn) (K:Nat) (w:AT),GS g a len cap q S w G K->K+D<=50000->Calls prog 149 #[pV g,pV q,V zd] w λe w'=>∃v,e=rW v/\li g a len cap q S K D 1 w v w'):=λS G K w h hk=>by rw[hD]at hk⊢;exact hX zd S G K w Jo h hk
 rw[<-hD]at Jn hK⊢;have HS:Hid (∀W,ak S w W->a_ W G.vs G.ss):=h.ok.s;have Xa:Hid (∀x∈G.ss,x.size<=100000):=h.ok.ns.2.1;have Jq:Hid (G.ss.length<=K):=h.ok.sl;have HL:Hid (Lo g a len S w.heap.size):=h.lo;have Jm:Hid (S q):=h.sq;have Jg:Hid (∀k,Sq g q k->S k):=h.sqs;have J_:Hid (GS g a len cap q (Sv S (rV w.heap.size 0 0)) (w.alloc (.cells #[] 132)) G K):=h.add (h.alloc _) ((ak.refl _ _).alloc _) (λk hk=>by simp[ownBlock]at hk;subst hk;simp);have c2:DO (w.alloc (.cells #[] 132)) q 2 G.vs:=(h.alloc _).box.c2;have Jl:DO w q 2 G.vs:=h.box.c2;have Xc:q<w.heap.size:=h.box.lt;obtain⟨U,J,Jj,-⟩:=h.ok.s w (ak.refl _ _);rw[Jj]at c2 Jl;obtain⟨sl,Jf⟩:=q_ G.ss.length;rw[<-Jf]at c2 Jl;have Jz:Hid (G.vs=.slice U sl J):=by rw[Jf];exact Jj
 have Jt:0<=zn/\zn<=10:=o_;have Jd:=ah Jp;clear Jj h hX hD Jf Jp Jo;go_in;go_wp2;go_loopw[9,11,12] (λov i mr wr=>∃j:Nat,j<=n/\i=V j/\∃(R:List SV) (Y:Gn),SR w.heap.size wr ov R (j*D)/\j<=R.length/\GS g a len cap q (Sv S ov) wr Y (K+j*D)/\ak (Sq g q) w wr) (λ_ i _ _=>n-(RowKit.intOf i).toNat)
 case atStart=>exact⟨0,o_,rfl,[],G,by rw[Nat.zero_mul];exact Dy w w.heap.size n_,i_,by rw[Nat.zero_mul];exact J_,(ak.refl _ _).alloc _⟩
 case round=>
  obtain⟨j,hj,rfl,R,Y,hr,Jv,hg,ht⟩:=hrel;obtain⟨I,Jc,Z,HJ⟩:=h4 hr hg ht Jv;by_cases hlt:(j:Int)<zn
  ·have Jh:(j+1)*D<=n*D:=Nat.mul_le_mul_right _ (Ft Jd.o);have HM:Hid ((j+1)*D=j*D+D):=Nat.succ_mul j D;have Js:n*D<=10*511:=Nat.mul_le_mul hn Jn.2;have Ju:K+j*D+D<=50000:=Ft HM.o
   have Jx:j*D+D<=1000000:=Ft HM.o
   clear Jh Js;go_wp2_with fail;refine(HX.o (Sv S u9) Y (K+j*D) wr Jc.o Ju).mono ?_;rintro e w2 ⟨u2,rfl,R2,G2,Jk,Xb,Jy,Ji⟩;have Jw:=I.o.tcs Ji (λk hk=>HL.o.s k (Jg.o k hk));obtain⟨v3,w3,r3,h3,t3,f3⟩:=jk 95 Jw Jk (t_ Z.o.size Ji.size) Jx (iX Jk Z.o.size (λk hk=>(I.o.rng k hk).2));have HE:Hid (SR w.heap.size w3 v3 (R++R2) ((j+1)*D)/\j+1<=(R++R2).length/\GS g a len cap q (Sv S v3) w3 G2 (K+(j+1)*D)/\ak (Sq g q) w w3):=by
    refine⟨by rw[HM.o];exact h3,by rw[l_a];have:=HJ.o;omega,?_,(Z.o.trans Ji).next t3 (λk hk=>.inr (I.o.rng k hk).1)⟩;rw[HM.o,<-Nat.add_assoc];exact(Jy.drop (.inl HL.o.sg) (.inl Jm)).app HL.o Jm.o (λk hk=>(I.o.rng k hk).1) t3 f3 (λk hk=>(h3.rng k hk).2)
   have Jr:=ah r3;go_wp2_with(at_builtin;refine aC rfl _ _ _ rfl _ _ _ _ rfl rfl Jr.o ?_);go_roundw
   case rel=>exact⟨j+1,Ft Jd.o,by go_num,R++R2,G2,HE.o.1,HE.o.2.1,HE.o.2.2.1,HE.o.2.2.2⟩
   case measure=>have:=Jd.o;simp[RowKit.intOf];omega
  ·obtain rfl:j=n:=Ft Jd.o
   have c2:=Jc.o.box.c2;have f2:=Jc.o.box.fz 2;have HF:Hid (SR w.heap.size (wr.setCell ⟨q,2,none⟩ (.slice U sl J)) u9 R (j*D)/\GS g a len cap q (Sv S u9) (wr.setCell ⟨q,2,none⟩ (.slice U sl J)) {Y with vs:=(.slice U sl J),ss:=G.ss} (K+j*D)/\ak (Sq g q) w (wr.setCell ⟨q,2,none⟩ (.slice U sl J))):=by
    have ht:ak (Sq g q) wr (wr.setCell ⟨q,2,none⟩ (.slice U sl J)):=my wr _;have Je:=Jc.o;refine⟨I.o.tcs ht (λk hk=>HL.o.s k (Jg.o k hk)),Je.set (Je.box.set2 _ _) (Je.ok.setS (λW hW=>?_) Xa.o (Ft Jq.o)),Z.o.trans ht⟩;have:=HS.o W ((Z.o.mono Jg.o).next hW λk hk=>by
     rcases hk with hk|hk
     ·exact .inl hk
     ·exact .inr (I.o.rng k hk).1)
    rwa[Jz]at this
   generalize Y.vs=old at c2;clear Jc;go_wp2;go_ret;exact⟨_,rfl,R,_,HF.o.1,HJ,HF.o.2.1,HF.o.2.2⟩
section
variable{e:List Nd}{L g len cap q K:Nat}{a:Option Addr}{S:D6}{w:AT}
def bV.e3(h:bV e L)(hl:L<=3000):bV e 3000:=h.more hl
def dM{w2:AT}{G2:Gn}{ve vf:BY}{f:List Nd}(kd th el:Int)(nm:GA)(h2:GS g a len cap q S w2 G2 (K+L))(ht:ak (Sq g q) w w2)(hE:∀W,ak (λk=>k<w.heap.size) w2 W->aw W ve e)(hF:∀W,ak (λk=>k<w.heap.size) w2 W->aw W vf f)(oe:bV e 3000)(of':bV f 3000)(on:nm.size<=100000)(hL:1<=L):
  li g a len cap q S K L 1 w (rV w2.heap.size 1 1) (w2.alloc (.cells #[V kd,sV nm,ve,vf,V th,V el] 132)):=
 ⟨_,G2,(kl ht.size hE hF oe of' on).more hL,n_,h2.add (h2.alloc _) ((ak.refl _ _).alloc _) (λk hk=>by simp[ownBlock]at hk;subst hk;simp),ht.alloc _⟩
def GS.strs{G:Gn}(h:GS g a len cap q S w G K):∃a c,G.vs=.slice a G.ss.length c:=by
 obtain⟨a,c,e,-⟩:=h.ok.s w (ak.refl _ _);exact⟨a,c,e⟩
theorem BA(g:Nat)(a:Option Addr)(len cap q:Nat)(hl:len<=1048576)(S:D6)(G:Gn)(K L:Nat)(Ju:1<=L)(w:AT)(h:GS g a len cap q S w G K)(hK:K<=50000):
  Calls prog 180 #[pV g,pV q] w λe w'=>∃v,e=rW v/\li g a len cap q S K L 1 w v w':=by
 have HG:=ah h;obtain⟨av,cv,hv⟩:=h.strs;have HV:=ah hv;obtain⟨sl,Jr⟩:=q_ G.ss.length;have Jl:=ah Jr;have Jz:sl<=K:=by rw[Jr];exact h.ok.sl
 have Js:S0 g g:=rfl;clear h hv Jr;go_in;go_wp2_with fail;refine(eP g a len cap (S0 g) [⟨#[103]⟩,⟨#[104]⟩] _ _ hl Js (HG.o.alloc _).cur (jj _ _ 2 rfl rfl d_ HG.o.lo0.s) d_).mono ?_;rintro e w1 ⟨nm,hn,rfl,Jw⟩;have Jk:Hid (GS g a len cap q S w1 G K):=(HG.o.alloc _).dr Jw;have Jo:Hid (ak (Sq g q) w w1):=((ak.refl _ _).alloc _).trans (Jw.tcs.mono jb);have Jp:Hid (nm.size<=100000):=by
  show _<=_;simp at hn;rcases hn with rfl|rfl <;> decide
 have c2:DO w1 q 2 (.slice av sl cv):=by have:=Jk.o.box.c2;rw[HV.o,<-Jl.o]at this;exact this
 by_cases hs:0<sl
 rotate_left 1
 ·have Jx:¬(0:Int)<(sl:Int):=o_
  have c3:=Jk.o.box.c3;go_wp2_with fail;generalize w1=J at*;generalize nm=U at*;have Y:Hid (GS g a len cap q S J G K):=Jk.o;have Jn:Hid (ak (Sq g q) w J):=Jo.o;have Jm:Hid (U.size<=100000):=Jp.o;clear Jk Jo Jp c2;all_goals (
   have Jc:G.ls.length<=10000000:=t_ Y.o.ok.ll o_;refine(fw G.ls G.vl U J Jc (Y.o.ok.l J (ak.refl _ _))).mono ?_;rintro e Z ⟨rfl,Jg⟩;have I:Hid (GS g a len cap q S Z G K):=Y.o.below Jg;have Ji:Hid (ak (Sq g q) w Z):=Jn.o.of_below Jg;have x0:=I.o.box.c0;have x1:=I.o.box.c1;have x2:=I.o.box.c2;have x3:=I.o.box.c3;have x4:=I.o.box.c4;generalize du G.ls U=bb;cases bb
   all_goals (
    go_wp2_with fail;refine(dL g a len cap (S0 g) G K Z hl I.o.lo0 I.o.cur I.o.ok0 hK).mono ?_;rintro e w5 ⟨u5,e5,rfl,Je,Jj,Jf⟩;obtain⟨a5,c5,rfl,-⟩:=aI Je;have HF:=λ(nm:GA) (on:nm.size<=100000)=>dM (L:=L) 2 0 0 nm ((I.o.dr Jf).more (Nat.le_add_right _ _)) (Ji.o.trans (Jf.tcs.mono jb)) (cO Je Ji.o.size) (λW _=>aX W) (Jj.e3 o_) (bV.nil.more y_) on Ju;have Jd:=ah HF;clear HF Je Jj Jf x0 x1 x2 x3 x4;generalize e5.length=l5 at Jd⊢;go_wp2;go_ret;first
    | exact⟨_,rfl,Jd.o _ Jm⟩
    | exact⟨_,rfl,Jd.o _ d_⟩))
 ·have Jx:(0:Int)<(sl:Int):=o_
  go_wp2_with fail;refine(aE g a len cap (S0 g) _ _ hl Js Jk.o.cur o_).mono ?_;rintro e w2 ⟨y,rfl,hy,Jv⟩;have Jh:Hid (GS g a len cap q S w2 G K):=Jk.o.dr Jv;have Jt:Hid (ak (Sq g q) w w2):=Jo.o.trans (Jv.tcs.mono jb);have Jy:DO w2 q 2 (.slice av sl cv):=by have:=Jh.o.box.c2;rw[HV.o,<-Jl.o]at this;exact this
  by_cases hy0:0<y
  ·go_wp2_with fail;have HP:Hid (∀W,ak (S0 g) w2 W->a_ W (.slice av sl cv) G.ss):=λW hW=>by have:=Jh.o.ok0.s W hW;rw[HV.o,<-Jl.o]at this;exact this
   refine(eP g a len cap (S0 g) G.ss _ w2 hl Js Jh.o.cur HP.o ⟨by rw[<-Jl.o];omega,by rw[<-Jl.o];omega⟩).mono ?_;rintro e J ⟨U,hn,rfl,Jq⟩;have Y:Hid (GS g a len cap q S J G K):=Jh.o.dr Jq;have Jn:Hid (ak (Sq g q) w J):=Jt.o.trans (Jq.tcs.mono jb);have Jm:Hid (U.size<=100000):=Jh.o.ok.ns.2.1 U hn;have c3:=Y.o.box.c3;clear Jq hn Jy HP Jh Jt Jk Jo;go_wp2_with fail;all_goals (
    have Jc:G.ls.length<=10000000:=t_ Y.o.ok.ll o_;refine(fw G.ls G.vl U J Jc (Y.o.ok.l J (ak.refl _ _))).mono ?_;rintro e Z ⟨rfl,Jg⟩;have I:Hid (GS g a len cap q S Z G K):=Y.o.below Jg;have Ji:Hid (ak (Sq g q) w Z):=Jn.o.of_below Jg;have x0:=I.o.box.c0;have x1:=I.o.box.c1;have x2:=I.o.box.c2;have x3:=I.o.box.c3;have x4:=I.o.box.c4;generalize du G.ls U=bb;cases bb
    all_goals (
     go_wp2_with fail;refine(dL g a len cap (S0 g) G K Z hl I.o.lo0 I.o.cur I.o.ok0 hK).mono ?_;rintro e w5 ⟨u5,e5,rfl,Je,Jj,Jf⟩;obtain⟨a5,c5,rfl,-⟩:=aI Je;have HF:=λ(nm:GA) (on:nm.size<=100000)=>dM (L:=L) 2 0 0 nm ((I.o.dr Jf).more (Nat.le_add_right _ _)) (Ji.o.trans (Jf.tcs.mono jb)) (cO Je Ji.o.size) (λW _=>aX W) (Jj.e3 o_) (bV.nil.more y_) on Ju;have Jd:=ah HF;clear HF Je Jj Jf x0 x1 x2 x3 x4;generalize e5.length=l5 at Jd⊢;go_wp2;go_ret;first
     | exact⟨_,rfl,Jd.o _ Jm⟩
     | exact⟨_,rfl,Jd.o _ d_⟩))
  ·have c3:=Jh.o.box.c3;go_wp2_with fail;generalize w2=J at*;generalize nm=U at*;have Y:Hid (GS g a len cap q S J G K):=Jh.o;have Jn:Hid (ak (Sq g q) w J):=Jt.o;have Jm:Hid (U.size<=100000):=Jp.o;all_goals (
    have Jc:G.ls.length<=10000000:=t_ Y.o.ok.ll o_;refine(fw G.ls G.vl U J Jc (Y.o.ok.l J (ak.refl _ _))).mono ?_;rintro e Z ⟨rfl,Jg⟩;have I:Hid (GS g a len cap q S Z G K):=Y.o.below Jg;have Ji:Hid (ak (Sq g q) w Z):=Jn.o.of_below Jg;have x0:=I.o.box.c0;have x1:=I.o.box.c1;have x2:=I.o.box.c2;have x3:=I.o.box.c3;have x4:=I.o.box.c4;generalize du G.ls U=bb;clear Jg c3;cases bb
    all_goals (
     go_wp2_with fail;refine(dL g a len cap (S0 g) G K Z hl I.o.lo0 I.o.cur I.o.ok0 hK).mono ?_;rintro e w5 ⟨u5,e5,rfl,Je,Jj,Jf⟩;obtain⟨a5,c5,rfl,-⟩:=aI Je;have HF:=λ(nm:GA) (on:nm.size<=100000)=>dM (L:=L) 2 0 0 nm ((I.o.dr Jf).more (Nat.le_add_right _ _)) (Ji.o.trans (Jf.tcs.mono jb)) (cO Je Ji.o.size) (λW _=>aX W) (Jj.e3 o_) (bV.nil.more y_) on Ju;have Jd:=ah HF;generalize e5.length=l5 at Jd⊢;go_wp2;go_ret;first
     | exact⟨_,rfl,Jd.o _ Jm⟩
     | exact⟨_,rfl,Jd.o _ d_⟩))
end
section
variable{g len cap q K:Nat}{a:Option Addr}{S:D6}{w0 w2:AT}{G:Gn}{v:BY}{ss:List GA}{nm:GA}
def pD(w:AT)(v:BY)(ss:List GA)(nm:GA)(h:a_ w v ss)(hl:ss.length<=100000)(J:GC):
  ∃v1 w1 a2 n2 c2 w2,(Builtin.append_ #[94,94] J #[rV w.heap.size 0 0,v]).run prog (w.alloc (.cells #[] 9))=.ok v1 w1/\(Builtin.append_ #[94,94] J #[v1,rV w1.heap.size 1 1]).run prog (w1.alloc (.cells #[sV nm] 9))=.ok (.slice a2 n2 c2) w2/\w2.ownsRow w.heap.size 9 1 (.slice a2 n2 c2) (ss++[nm]).length ((ss++[nm]).map Value.string)/\Bl w w2:=by
 obtain⟨i0,hi,Jd,Je,Jf⟩:=info_parts gy;have I:Bl w (w.alloc (.cells #[] 9)):=au _ _;have Z:(w.alloc (.cells #[] 9)).ownsRow w.heap.size 9 1 (rV w.heap.size 0 0) 0 []:=ownsRow_lit w #[] 0 n_ d_ rfl;obtain⟨a,c,rfl,hn,hc⟩:=(h.below I).src;obtain⟨v1,w1,r1,o1,g1,-⟩:=cE (P:=prog) (w:=w.alloc (.cells #[] 9)) w.heap.size 94 J 9 i0 _ 1 16 underlying94 hi Jd Je Jf rfl d_ _ 0 [] Z a ss.length c (ss.map Value.string) (λe=>by rw[hn e];rfl) i_ hc (λu hu=>by obtain⟨x,-,rfl⟩:=mem_map.1 hu;rfl) o_ d_ I.size;have Jh:Bl w w1:=I.grown g1 I.size (λj hj=>(ownsRow.lt Z j hj).1);have U:Bl w (w1.alloc (.cells #[sV nm] 9)):=Jh.alloc Jh.size _;have Y:=ownB o1 ((Below.refl w1.heap.size w1).alloc n_ (.cells #[sV nm] 9));have Jb:(w1.alloc (.cells #[sV nm] 9)).ownsRow w1.heap.size 9 1 (rV w1.heap.size 1 1) 1 [sV nm]:=ownsRow_lit w1 #[sV nm] 1 n_ d_ rfl;obtain⟨v2,w2,r2,o2,g2,-⟩:=cE (P:=prog) (w:=w1.alloc (.cells #[sV nm] 9)) w.heap.size 94 J 9 i0 _ 1 16 underlying94 hi Jd Je Jf rfl d_ v1 _ _ Y (some ⟨w1.heap.size,0,none⟩) 1 1 [sV nm] (λe=>by cases e) rfl (λad had j u hu=>by cases had;exact ownsRow.cells Jb (g:=w1.heap.size) rfl j u hu) (λu hu=>by simp at hu;subst hu;rfl) o_ d_ U.size;obtain⟨a2,c2,rfl,-⟩:=aI o2;refine⟨v1,w1,a2,_,c2,w2,r1,r2,?_,U.grown g2 U.size (λj hj=>(ownsRow.lt Y j hj).1)⟩;have e1:(ss++[nm]).length=0+ss.length+1:=i_;have e2:(ss++[nm]).map Value.string=[]++ss.map Value.string++[sV nm]:=i_;rw[e1,e2];exact o2
def ox(w:AT)(B:Nat)(hB:B<=w.heap.size)(k1 v1 k2 v2 k3 v3:Int)(s1 s2 s3:GA):aV B (w.alloc (.cells #[V k1,V v1,sV s1,V k2,V v2,sV s2,V k3,V v3,sV s3] 134)) (rV w.heap.size 3 3) [⟨k1,v1,s1⟩,⟨k2,v2,s2⟩,⟨k3,v3,s3⟩]:=
 ownsRow_lit w #[V k1,V v1,sV s1,V k2,V v2,sV s2,V k3,V v3,sV s3] 3 hB d_ rfl
def bV.three{k1 v1 k2 v2 k3 v3:Int}{s1 s2 s3:GA}(h1:s1.size<=100000)(h2:s2.size<=100000)(h3:s3.size<=100000):bV [⟨k1,v1,s1⟩,⟨k2,v2,s2⟩,⟨k3,v3,s3⟩] 3:=
 (bV.one h1).app ((bV.one h2).app (bV.one h3))
def ko(h:GS g a len cap q S w0 G K)(U:Bl w0 w2)(I:w2.ownsRow w0.heap.size 9 1 v (ss++[nm]).length ((ss++[nm]).map Value.string))(Y:∀x∈ss,x.size<=100000)(Z:nm.size<=100000)(J:ss.length+1<=K):GS g a len cap q S (w2.setCell ⟨q,2,none⟩ v) {G with vs:=v,ss:=ss++[nm]} K:=by
 have h2:=h.below U;refine h2.set (h2.box.set2 _ _) (h2.ok.setS (λW hW=>fV (aN I hW h.lo.s)) (λx hx=>?_) (Fc J));rcases GJ.1 hx with hx|hx
 ·exact Y x hx
 ·simp only[GM]at hx;subst hx;exact Z
def zJ(h:GS g a len cap q S w0 G K)(U:Bl w0 w2)(I:w2.ownsRow w0.heap.size 9 1 v (ss++[nm]).length ((ss++[nm]).map Value.string))(Y:∀x∈ss,x.size<=100000)(Z:nm.size<=100000)(J:ss.length+1<=K):GS g a len cap q S (w2.setCell ⟨q,3,none⟩ v) {G with vl:=v,ls:=ss++[nm]} K:=by
 have h2:=h.below U;refine h2.set (h2.box.set3 _ _) (h2.ok.setL (λW hW=>fV (aN I hW h.lo.s)) (λx hx=>?_) (Fc J));rcases GJ.1 hx with hx|hx
 ·exact Y x hx
 ·simp only[GM]at hx;subst hx;exact Z
end
theorem zK(g:Nat)(a:Option Addr)(len cap q d:Nat)(hl:len<=1048576)(hd:d<=3)(hX:D9 g a len cap q d)(z:Int)(hz:z=((d+1:Nat):Int))(S:Nat->Prop)(G:Gn)(K:Nat)(w:World)(h:GS g a len cap q S w G K)(hK:K+oh (d+1)<=50000):
  Calls prog 181 #[pV g,pV q,V z] w λe w'=>∃v,e=rW v/\li g a len cap q S K (oh (d+1)) 1 w v w':=by
 have Vn:=sR (d:=d) o_;obtain⟨D,hD⟩:=q_ (oh d);have Zu:oh (d+1)=4*D+3:=by rw[hD];rfl
 rw[Zu]at hK⊢;obtain⟨HX,HD⟩:=h2 hX hD;have Ue:1<=z/\z<=4:=o_;have HZ:Hid (z-1=d):=by show _=_;omega
 rw[<-hD]at Vn;clear hX hD Zu hz;have HG:=ah h;have Zp:S0 g g:=rfl;have HS:Hid (∀W,ak S w W->a_ W G.vs G.ss):=h.ok.s;have Vc:Hid (∀x∈G.ss,x.size<=100000):=h.ok.ns.2.1;have Vp:Hid (∀x∈G.ls,x.size<=100000):=h.ok.ns.2.2;have Y_:Hid (∀k,Sq g q k->S k):=h.sqs;have Vy:=h.ok.sl;have Uc:=h.ok.ll;have HL:Hid (Lo g a len S w.heap.size):=h.lo;have Xy:Hid (S q):=h.sq;clear h;go_in;go_wp2_with fail;refine(kG g a len cap q S G K w HG.out o_).mono ?_;rintro e w1 ⟨nm,rfl,Yf,Js,Yu⟩;obtain⟨Jw,Ui,Ub⟩:=h3 Yf Js Yu;obtain⟨Ug,Uf,xa,xn,xc,Xf,Zo,Zs,oa,ba⟩:=pD w1 G.vs G.ss nm (Js.ok.s w1 (ak.refl _ _)) o_ 94;have Yk:=ko Js ba oa Vc.out Yf o_;have Yx:ak (Sq g q) w (Xf.setCell ⟨q,2,none⟩ (.slice xa xn xc)):=(Yu.of_below ba).trans (my Xf (.slice xa xn xc));have c2:w1.cell? ⟨q,2,none⟩=some G.vs:=Js.box.c2;have Zi:(w1.alloc (.cells #[] 9)).cell? ⟨q,2,none⟩=some G.vs:=(Js.alloc _).box.c2;have Zc:=(Js.below ba).box;have d2:Xf.cell? ⟨q,2,none⟩=some G.vs:=Zc.c2;have f2:Xf.frozen? ⟨q,2,none⟩=false:=Zc.fz 2;obtain⟨W3,Yv⟩:=q_ (Xf.setCell ⟨q,2,none⟩ (.slice xa xn xc));have Zy:=ah Yv;rw[<-Yv]at Yk Yx;obtain⟨Ju,Xr,Xv,Vx⟩:=h4 Zo Zs Yk Yx;clear Yf Js Yu oa Yk Zc Zo Zs ba Yx Yv;generalize hgv:G.vs=gvs at c2 Zi d2 Ju;have Vu:=ah hgv;clear hgv;go_upto_region 4 with(at_builtin;first
  | refine aC rfl (.tmp 19) (.tmp 23) _ rfl _ _ _ _ rfl rfl Ju.out ?_
  | refine aC rfl (.tmp 24) (.tmp 26) _ rfl _ _ _ _ rfl rfl Xr.out ?_)
 rw[<-Zy.out];clear c2 Zi d2 f2 Zy Ju Xr;obtain⟨Ud,V_,ya,yn,yc,Xh,Z_,Ve,ob,bb⟩:=pD W3 G.vl G.ls nm (Xv.out.ok.l _ (ak.refl _ _)) o_ 94;have Zd:=zJ Xv.out bb ob Vp.out Jw.out o_;have Yi:ak (Sq g q) w (Xh.setCell ⟨q,3,none⟩ (.slice ya yn yc)):=(Vx.out.of_below bb).trans (my Xh (.slice ya yn yc));have d3:W3.cell? ⟨q,3,none⟩=some G.vl:=Xv.out.box.c3;have Zw:(W3.alloc (.cells #[] 9)).cell? ⟨q,3,none⟩=some G.vl:=(Xv.out.alloc _).box.c3;have Yo:=(Xv.out.below bb).box;have e3:Xh.cell? ⟨q,3,none⟩=some G.vl:=Yo.c3;have k3:Xh.frozen? ⟨q,3,none⟩=false:=Yo.fz 3;obtain⟨W5,Ys⟩:=q_ (Xh.setCell ⟨q,3,none⟩ (.slice ya yn yc));have Vd:=ah Ys;rw[<-Ys]at Zd Yi;obtain⟨G5,Zg⟩:∃G5:Gn,G5={G with m:=G.m+1,vs:=(.slice xa xn xc),ss:=G.ss++[nm],vl:=(.slice ya yn yc),ls:=G.ls++[nm]}:=⟨_,rfl⟩;have Vg:Hid (GS g a len cap q S W5 G5 (K+1)):=by rw[Zg];exact Zd
 obtain⟨Zq,Jt,Jz⟩:=h3 Yi Z_ Ve;clear Z_ Ve ob bb Zd Yi Yo Ys Zg;generalize G.vl=gvl at d3 Zw e3 Jt;go_upto_region 5 with(at_builtin;first
  | refine aC rfl (.tmp 31) (.tmp 35) _ rfl _ _ _ _ rfl rfl Jt.out ?_
  | refine aC rfl (.tmp 36) (.tmp 38) _ rfl _ _ _ _ rfl rfl Jz.out ?_)
 rw[<-Vd.out];clear d3 Zw e3 k3 Vd Jt Jz;obtain⟨Y,Jv⟩:=q_ (W5.alloc (.cells #[V 2,V 0,sV nm] 134));have Zt:=ah Jv;have Zf:Hid (GS g a len cap q S Y G5 (K+1)):=by rw[Jv];exact Vg.out.alloc _
 have Vv:Hid (ak (Sq g q) w Y):=by rw[Jv];exact Zq.out.alloc _
 obtain⟨P,hP⟩:=q_ W5.heap.size;have HP:=ah hP;have Vz:w.heap.size<=P:=by rw[hP];exact Zq.out.size
 have Vb:Hid (∀W,ak (Sq g q) Y W->W.cell? ⟨P,0,none⟩=some (V 2)/\W.cell? ⟨P,1,none⟩=some (V 0)/\W.cell? ⟨P,2,none⟩=some (sV nm)):=λW hW=>by
  have Vo:P<Y.heap.size:=by rw[Jv,hP];simp
  have e:∀o,W.cell? ⟨P,o,none⟩=Y.cell? ⟨P,o,none⟩:=λo=>c_ (a:=⟨P,o,none⟩) (hW.block P Vo (λs=>by have:=HG.out.lo.s P (Y_.out P s);omega));rw[e,e,e,Jv,hP];exact⟨i_,i_,i_⟩
 clear Jv hP;go_upto_region 6 with fail;rw[<-Zt.out,<-HP.out];clear Zt HP;go_wp2_with fail;refine(aE g a len cap (S0 g) _ _ hl Zp Zf.out.cur o_).mono ?_;rintro e Z ⟨x,rfl,hx,Yd⟩;have Yg:Hid (GS g a len cap q S Z G5 (K+1)):=Zf.out.dr Yd;have Va:Hid (ak (Sq g q) w Z):=Vv.out.trans (Yd.tcs.mono jb);have Jp:Hid (ak (Sq g q) Y Z):=Yd.tcs.mono jb;obtain⟨n,Vw⟩:=q_ ((1+x).toNat);have Vr:n<=3/\1<=n:=o_;have Vl:Hid (1+x=(n:Int)):=by show _=_;omega
 obtain⟨nD,Yq⟩:=q_ (n*oh d);have Zx:=ah Yq;have Vj:nD<=3*D:=by rw[Yq,<-HD.out];exact Nat.mul_le_mul_right _ Vr.1
 clear Yd Vw Yq;go_wp2_with fail;refine(gG g a len cap q d o_ HX.out n o_ _ _ Vl.out HZ.out S G5 (K+1) Z Yg.out (by rw[<-Zx.out];omega)).mono ?_;rintro e U ⟨vb,rfl,Rb,G8,Jl,Vi,Ze,Xm⟩;rw[<-Zx.out]at Jl Ze;obtain⟨ba,bn,bc,rfl⟩:∃ba bn bc,vb=.slice ba bn bc:=by obtain⟨x,y,e⟩:=Jl.shape;exact⟨x,_,y,e⟩
 obtain⟨p0,p1,p2⟩:=Vb.out U (Jp.out.trans Xm);have Vh:Z.heap.size<=U.heap.size:=Xm.size;have Zm:w.heap.size<=Z.heap.size:=Va.out.size;have Yh:P<U.heap.size:=b_ p0;have Jc:=kl (w:=U.alloc (.cells #[V 2,V 0,sV nm,V 1,V 1,sV ⟨#[]⟩,V 7,V 4,sV ⟨#[]⟩] 134)) (B:=U.heap.size) (kd:=2) (th:=0) (el:=0) (nm:=nm) (vf:=nV) (f:=[]) i_ (cO (ox U U.heap.size n_ 2 0 1 1 7 4 nm ⟨#[]⟩ ⟨#[]⟩) n_) (λW _=>aX W) ((bV.three Jw.out d_ d_).e3 o_) (bV.nil.more y_) Jw;have Xj:=(Jl.below ((Below.refl U.heap.size U).alloc n_ (.cells #[V 2,V 0,sV nm,V 1,V 1,sV ⟨#[]⟩,V 7,V 4,sV ⟨#[]⟩] 134))).below (r_.alloc n_ (.cells #[V 2,sV nm,rV U.heap.size 3 3,nV,V 0,V 0] 132));have Jy:=(Ze.alloc (.cells #[V 2,V 0,sV nm,V 1,V 1,sV ⟨#[]⟩,V 7,V 4,sV ⟨#[]⟩] 134)).alloc (.cells #[V 2,sV nm,rV U.heap.size 3 3,nV,V 0,V 0] 132);have Xc:=(((Va.out.trans Xm).alloc (.cells #[V 2,V 0,sV nm,V 1,V 1,sV ⟨#[]⟩,V 7,V 4,sV ⟨#[]⟩] 134)).alloc (.cells #[V 2,sV nm,rV U.heap.size 3 3,nV,V 0,V 0] 132));obtain⟨Vm,Jo,Yl,h11,Xb,Zk⟩:=jk 95 Xj Jc (by simp;omega) o_ (iX Jc Vh (λk hk=>(Jl.rng k hk).2));obtain⟨ca,cn,cc,rfl⟩:∃ca cn cc,Vm=.slice ca cn cc:=by obtain⟨x,y,e⟩:=h11.shape;exact⟨x,_,y,e⟩
 simp only[World.size_alloc]at Yl;obtain⟨Xn,Zh,Xe⟩:=h3 Yl h11 (Jy.app Yg.out.lo Xy.out (λk hk=>(Jl.rng k hk).1) Xb Zk (λk hk=>(h11.rng k hk).2));have Yp:Hid (ak (Sq g q) w Jo):=Xc.next Xb (λk hk=>.inr (t_ Zm (Jl.rng k hk).1));have Yn:Hid (ak (Sq g q) Y Jo):=(((Jp.out.trans Xm).alloc _).alloc _).next Xb (λk hk=>.inr (t_ Jp.out.size (Jl.rng k hk).1));have Vs:Z.heap.size<=Jo.heap.size:=by have:=Xb.size;simp at this;omega
 clear Jl Vi Ze Xm Jc Xj Jy Xc Yl h11 Xb Zk;go_upto_region 8 with(at_builtin;refine aC rfl _ _ _ rfl _ _ _ _ rfl rfl Xn.out ?_);clear p0 p1 p2 Xn Yh;go_wp2_with fail;refine(aE g a len cap (S0 g) _ _ hl Zp Xe.out.cur o_).mono ?_;rintro e I ⟨y,rfl,hy,Jf⟩;have Ji:=Xe.out.dr Jf;have Xd:Hid (ak (Sq g q) w I):=Yp.out.trans (Jf.tcs.mono jb);have Zb:Hid (ak (Sq g q) Y I):=Yn.out.trans (Jf.tcs.mono jb);have Jm:Hid (ak (Sq g q) Jo I):=Jf.tcs.mono jb;obtain⟨J,Ja⟩:=q_ ((I.alloc (.cells #[V 1,V y,sV ⟨#[]⟩] 134)).alloc (.cells #[V 1,sV nm,rV I.heap.size 1 1,nV,V 0,V 0] 132));have J_:=ah Ja;obtain⟨O,hO⟩:=q_ (I.heap.size+1);have HO:=ah hO;have Yb:=kl (w:=I.alloc (.cells #[V 1,V y,sV ⟨#[]⟩] 134)) (B:=I.heap.size) (kd:=1) (th:=0) (el:=0) (nm:=nm) (vf:=nV) (f:=[]) i_ (cO (ct I I.heap.size n_ 1 y ⟨#[]⟩) n_) (λW _=>aX W) ((bV.one d_).e3 o_) (bV.nil.more y_) Jw;have Jh:=GS.add (v:=.slice (some ⟨I.heap.size+1,0,none⟩) 1 1) Ji ((Ji.alloc (.cells #[V 1,V y,sV ⟨#[]⟩] 134)).alloc (.cells #[V 1,sV nm,rV I.heap.size 1 1,nV,V 0,V 0] 132)) (((ak.refl _ _).alloc _).alloc _) (λk hk=>by simp[Value.ownBlock]at hk;subst hk;simp);simp only[World.size_alloc]at Yb;rw[<-Ja]at Jh;rw[<-Ja,<-hO]at Yb;rw[<-hO]at Jh;obtain⟨Xp,Yw⟩:=h2 Yb Jh;have Yz:Hid (Lo g a len (Sv S (.slice ca cn cc)) I.heap.size):=Ji.lo;have Yj:Hid (ak (Sq g q) w J):=by rw[Ja];exact(Xd.out.alloc _).alloc _
 have Yr:Hid (ak (Sq g q) Y J):=by rw[Ja];exact(Zb.out.alloc _).alloc _
 have Xa:Hid (ak (Sq g q) Jo J):=by rw[Ja];exact(Jm.out.alloc _).alloc _
 have Xs:w.heap.size<=I.heap.size:=Xd.out.size;have Xx:I.heap.size<=J.heap.size:=by rw[Ja];simp;omega
 have Jn:Jo.heap.size<=I.heap.size:=Jm.out.size;clear Jf Ji Yb Jh Ja hO;go_upto_region 9 with fail;rw[<-J_.out,<-HO.out];clear J_ HO;obtain⟨p0,p1,p2⟩:=Vb.out J Yr;have Yh:P<J.heap.size:=b_ p0;have Jc:=kl (w:=J.alloc (.cells #[V 2,V 0,sV nm,V 1,V 0,sV ⟨#[]⟩,V 7,V 9,sV ⟨#[]⟩] 134)) (B:=J.heap.size) (kd:=5) (th:=cn) (el:=0) (nm:=⟨#[]⟩) (vf:=nV) (f:=[]) i_ (cO (ox J J.heap.size n_ 2 0 1 0 7 9 nm ⟨#[]⟩ ⟨#[]⟩) n_) (λW _=>aX W) ((bV.three Jw.out d_ d_).e3 o_) (bV.nil.more y_) d_;have Xl:=(Xp.out.below ((Below.refl J.heap.size J).alloc n_ (.cells #[V 2,V 0,sV nm,V 1,V 0,sV ⟨#[]⟩,V 7,V 9,sV ⟨#[]⟩] 134))).below (r_.alloc n_ (.cells #[V 5,sV ⟨#[]⟩,rV J.heap.size 3 3,nV,V cn,V 0] 132));have Xw:=(Yw.out.alloc (.cells #[V 2,V 0,sV nm,V 1,V 0,sV ⟨#[]⟩,V 7,V 9,sV ⟨#[]⟩] 134)).alloc (.cells #[V 5,sV ⟨#[]⟩,rV J.heap.size 3 3,nV,V cn,V 0] 132);obtain⟨Vt,Jx,Yy,X_,Xz,Zj⟩:=jk 95 Xl Jc (by simp;omega) o_ (iX Jc Xx (λk hk=>(Xp.out.rng k hk).2));obtain⟨da,dn,dc,rfl⟩:∃da dn dc,Vt=.slice da dn dc:=by obtain⟨x,y,e⟩:=X_.shape;exact⟨x,_,y,e⟩
 simp only[World.size_alloc]at Yy;obtain⟨Xu,Zv,Xg⟩:=h3 Yy X_ (Xw.app Yz.out (.inl Xy) (λk hk=>(Xp.out.rng k hk).1) Xz Zj (λk hk=>(X_.rng k hk).2));have Jr:Hid (ak (Sq g q) w Jx):=((Yj.out.alloc _).alloc _).next Xz (λk hk=>.inr (t_ Xs (Xp.out.rng k hk).1));have Xq:Hid (ak (Sq g q) Jo Jx):=((Xa.out.alloc _).alloc _).next Xz (λk hk=>.inr (t_ Jn (Xp.out.rng k hk).1));clear Jc Xl Xw Yy X_ Xz Zj;go_upto_region 10 with(at_builtin;refine aC rfl _ _ _ rfl _ _ _ _ rfl rfl Xu.out ?_);clear p0 p1 p2 Xu Yh;have Zn:a_ Jx gvs G.ss:=by have:=HS.out Jx (Jr.out.mono Y_.out);rwa[Vu]at this
 obtain⟨Uh,Ua,za,zn,zc,Ya,Zz,Zl,oc,bc⟩:=pD Jx gvs G.ss nm Zn o_ 94;have Jq:=ko Xg.out bc oc Vc.out Jw.out o_;have Ye:=(Xg.out.below bc).box;have d2:Ya.cell? ⟨q,2,none⟩=some G8.vs:=Ye.c2;have f2:Ya.frozen? ⟨q,2,none⟩=false:=Ye.fz 2;obtain⟨W19,Jk⟩:=q_ (Ya.setCell ⟨q,2,none⟩ (.slice za zn zc));have Xo:=ah Jk;have Jg:ak (Sq g q) Jx W19:=by rw[Jk];exact bc.tcs.trans (my Ya _)
 rw[<-Jk]at Jq;have Je:ak (Sq g q) Jo W19:=Xq.out.trans Jg;have Yc:∀k,Sq g q k->k<Z.heap.size:=λk hk=>Yg.out.lo.s k (Y_.out k hk);have Jj:SR w.heap.size W19 (.slice da dn dc) _ (1+1):=(Zv.out.tcs Jg (λk hk=>l_ (Yc k hk) o_)).low Xs;have Xk:=Zh.out.tcs Je Yc;obtain⟨Vq,Vk,Zr,Ym,Za,Vf⟩:=jk 95 Jj Xk (t_ Jr.out.size Jg.size) o_ (km Zh.out (Je.mono Yc) Zm (λk hk=>t_ Jn (Zv.out.rng k hk).1));have Yt:=ah Zr;have HF:Hid (li g a len cap q S K (4*D+3) 1 w Vq Vk):=by
  refine⟨_,_,Ym.more o_,i_,GS.more ((Jq.sub (S':=Sv S (.slice da dn dc)) (λk hk=>hk.imp .inl id) (.inl HL.out.sg) (.inl Xy)).app HL.out Xy.out (λk hk=>(Jj.rng k hk).1) Za Vf (λk hk=>(Ym.rng k hk).2)) o_,?_⟩;exact(Jr.out.trans Jg).next Za (λk hk=>.inr (Jj.rng k hk).1)
 obtain⟨Xi,Xt⟩:=h2 Zz Zl;clear Zz Zl oc bc Jq Ye Jk Jg Je Yc Jj Xk Zr Ym Za Vf Zn;generalize G8.vs=g8v at d2;go_upto_region 11 with(at_builtin;first
  | refine aC rfl (.tmp 79) (.tmp 80) _ rfl _ _ _ _ rfl rfl Xi.out ?_
  | refine aC rfl (.tmp 81) (.tmp 83) _ rfl _ _ _ _ rfl rfl Xt.out ?_)
 rw[<-Xo.out];clear d2 f2 Xo Xi Xt;go_wp2_with(at_builtin;refine aC rfl _ _ _ rfl _ _ _ _ rfl rfl Yt.out ?_);go_ret;exact⟨_,rfl,HF⟩
section
variable{g len cap q K:Nat}{a:Option Addr}{S:D6}{w:AT}{G:Gn}
def li.from{L m:Nat}{I w':AT}{v:BY}(h:li g a len cap q S K L m I v w')(J:ak (Sq g q) w I):li g a len cap q S K L m w v w':=by
 obtain⟨R,U,Y,h2,h3,h4⟩:=h;exact⟨R,U,Y.low J.size,h2,h3,J.trans h4⟩
def GS.k0(h:GS g a len cap q S w G K):∀k,Sq g q k->k<w.heap.size:=λk hk=>h.lo.s k (h.sqs k hk)
def GS.cs(h:GS g a len cap q S w G K):∃a c,G.vc=.slice a G.cs.length c:=by
 obtain⟨a,c,e,-⟩:=h.ok.c w (ak.refl _ _);exact⟨a,c,e⟩
theorem oy(g:Nat)(a:Option Addr)(len cap q:Nat)(hl:len<=1048576)(d:Nat)(hd:d<=4)(hX:∀d',d=d'+1->D9 g a len cap q d'):D9 g a len cap q d:=by
 intro z S G K w hz h hK;have Vq:=sR hd;obtain⟨L,hL⟩:=q_ (oh d);have Ys:=ah hL;have HX:=ah hX;rw[<-hL]at Vq hK⊢;have HG:Hid (GS g a len cap q S w G K):=h;have HZ:=ah hz;have Ut:0<=z/\z<=4:=o_;have Jz:S0 g g:=rfl;clear hX hL h hz;go_in;go_wp2_with fail;refine(aE g a len cap (S0 g) _ _ hl Jz HG.o.cur o_).mono ?_;rintro e w1 ⟨k,rfl,J,Xr⟩;have I:Hid (GS g a len cap q S w1 G K):=HG.o.dr Xr;have Jd:Hid (ak (Sq g q) w w1):=Xr.tcs.mono jb;have Ua:w.heap.size<=w1.heap.size:=Xr.tcs.size;have x0:=I.o.box.c0;have x1:=I.o.box.c1;have x2:=I.o.box.c2;have x3:=I.o.box.c3;have x4:=I.o.box.c4;clear Xr;have hk14:(k=0∨k=1)∨(k=2∨k=3)∨(k=4∨k=5)∨(k=6∨k=7)∨k=8∨k=9∨k=10∨(k=11∨k=12)∨k=13:=o_;rcases hk14 with hk14|hk14|hk14|hk14|rfl|rfl|rfl|hk14|rfl
 ·rcases hk14 with rfl|rfl;all_goals (
   go_wp2_with fail;refine(dL g a len cap (S0 g) G K w1 hl I.o.lo0 I.o.cur I.o.ok0 o_).mono ?_;rintro e w2 ⟨u2,e2,rfl,Jk,Jm,Jg⟩;obtain⟨a2,c2,rfl,-⟩:=aI Jk;have Je:Hid (GS g a len cap q S w2 G K):=I.o.dr Jg;have Jh:Hid (ak (Sq g q) w w2):=Jd.o.trans (Jg.tcs.mono jb);have Js:Hid (∀W,ak (λk=>k<w.heap.size) w2 W->aw W (.slice a2 e2.length c2) e2):=cO Jk Jd.o.size;have Xh:Hid (bV e2 3000):=Jm.e3 o_;generalize e2.length=l2 at Js⊢;clear Jk Jm Jg x0 x1 x2 x3 x4;go_wp2_with fail;refine(kG g a len cap q S G K w2 Je.o o_).mono ?_;rintro e w3 ⟨nm,rfl,Yg,Jy,Zu⟩;have Ym:Hid (nm.size<=100000):=Yg;have Uv:G.ss.length<=K:=HG.o.ok.sl;obtain⟨Of,Od,xa,xn,xc,Xo,Zg,Zm,oa,ba⟩:=pD w3 G.vs G.ss nm (Jy.ok.s w3 (ak.refl _ _)) o_ 94;have Za:=ko Jy ba oa HG.o.ok.ns.2.1 Yg o_;have Zh:DO w3 q 2 G.vs:=Jy.box.c2;have Zc:DO (w3.alloc (.cells #[] 9)) q 2 G.vs:=(Jy.alloc _).box.c2;have Yy:=(Jy.below ba).box;have d2:DO Xo q 2 G.vs:=Yy.c2;have f2:D4 Xo q 2:=Yy.fz 2;obtain⟨W5,Xq⟩:=q_ (Xo.setCell ⟨q,2,none⟩ (.slice xa xn xc));have Zx:=ah Xq;have Jr:ak (Sq g q) w2 W5:=by rw[Xq];exact(Zu.of_below ba).trans (my Xo (.slice xa xn xc))
   rw[<-Xq]at Za;have Y:Hid (li g a len cap q S K L 1 w (rV W5.heap.size 1 1) (W5.alloc (.cells #[V 1,sV nm,.slice a2 l2 c2,nV,V 0,V 0] 132))):=dM (L:=L) 1 0 0 nm (Za.more o_) (Jh.o.trans Jr) (λW hW=>Js.o W ((Jr.mono HG.o.k0).trans hW)) (λW _=>aX W) Xh.o (bV.nil.more y_) Ym.o o_;have Jv:=ah Zg;have Xk:=ah Zm;clear Yg Jy Zu oa Za Yy Zg Zm ba Jr Xq;generalize G.vs=gvs at Zh Zc d2 Jv;go_upto_region 8 with(at_builtin;first
    | refine aC rfl (.tmp 32) (.tmp 36) _ rfl _ _ _ _ rfl rfl Jv.o ?_
    | refine aC rfl (.tmp 37) (.tmp 39) _ rfl _ _ _ _ rfl rfl Xk.o ?_)
   rw[<-Zx.o];clear Zh Zc d2 f2 Zx Jv Xk;go_wp2;go_ret;exact⟨_,rfl,Y⟩)
 ·rcases hk14 with rfl|rfl;all_goals (
   go_wp2_with fail;refine(BA g a len cap q hl S G K L o_ w1 I.o o_).mono ?_;rintro e w2 ⟨v,rfl,Xg⟩;have Y:Hid (li g a len cap q S K L 1 w v w2):=Xg.from Jd;clear Xg;go_wp2;go_ret;exact⟨_,rfl,Y⟩)
 ·rcases hk14 with rfl|rfl;all_goals (
   go_wp2_with fail;refine(mw g a len cap (S0 g) hl 2 o_ 2 G K w1 rfl I.o.lo0 I.o.cur I.o.ok0 o_).mono ?_;rintro e w2 ⟨u2,e2,rfl,Jk,Jm,Jg⟩;have Je:Hid (GS g a len cap q S w2 G K):=I.o.dr Jg;have Jh:Hid (ak (Sq g q) w w2):=Jd.o.trans (Jg.tcs.mono jb);have Yd:om 2=57:=rfl;have Js:Hid (aw w2 u2 e2):=aV.nodes Jk;have Xh:Hid (bV e2 57):=Jm;have Uz:e2.length<=57:=Jm.1;clear Jk Jm Jg x0 x1 x2 x3 x4 Yd;go_wp2_with fail;refine(iH e2 _ _ _ _ u2 _ _ (Js.o.below (au _ _)) (ct w2 0 y_ _ _ _).nodes ZFs).mono ?_;rintro e w3 ⟨u3,rfl,Yh,Zo⟩;have Ju:=((Below.refl w2.heap.size w2).alloc n_ (.cells #[V 1,V 7,sV ⟨#[]⟩] 134)).trans (Zo.mono i_);obtain⟨a3,n3,Ve,rfl⟩:∃x y z,u3=.slice x y z:=by obtain⟨x,y,e,-⟩:=aI Yh;exact⟨x,_,y,e⟩
   have Ji:Hid (GS g a len cap q S w3 G K):=Je.o.below Ju;have Vg:Hid (ak (Sq g q) w w3):=Jh.o.of_below Ju;have V_:Hid (∀W,ak (λk=>k<w.heap.size) w3 W->aw W (.slice a3 n3 Ve) (e2++[⟨1,7,⟨#[]⟩⟩]++[⟨7,13,⟨#[]⟩⟩])):=cO Yh (t_ Jh.o.size i_);have x0:=Ji.o.box.c0;have x1:=Ji.o.box.c1;have x2:=Ji.o.box.c2;have x3:=Ji.o.box.c3;have x4:=Ji.o.box.c4;clear Yh Zo Ju Js;go_wp2_with fail;refine(dL g a len cap (S0 g) G K w3 hl Ji.o.lo0 Ji.o.cur Ji.o.ok0 o_).mono ?_;rintro e w5 ⟨u5,e5,rfl,Z,Jf,U⟩;obtain⟨a5,c5,rfl,-⟩:=aI Z;have Y:Hid (li g a len cap q S K L 1 w (rV w5.heap.size 1 1) (w5.alloc (.cells #[V 3,sV ⟨#[97]⟩,.slice a3 n3 Ve,.slice a5 e5.length c5,V 0,V 0] 132))):=dM (L:=L) 3 0 0 ⟨#[97]⟩ ((Ji.o.dr U).more (Nat.le_add_right _ _)) (Vg.o.trans (U.tcs.mono jb)) (λW hW=>V_.o W (((U.tcs.mono jb).mono HG.o.k0).trans hW)) (cO Z Vg.o.size) (bV.more ((Xh.o.app (bV.one d_)).app (bV.one d_)) o_) (Jf.e3 o_) d_ o_;clear Z Jf U x0 x1 x2 x3 x4;generalize e5.length=l5 at Y⊢;go_wp2;go_ret;exact⟨_,rfl,Y⟩)
 ·rcases hk14 with rfl|rfl;all_goals (
   go_wp2_with fail;refine(dL g a len cap (S0 g) G K w1 hl I.o.lo0 I.o.cur I.o.ok0 o_).mono ?_;rintro e w5 ⟨u5,e5,rfl,Z,Jf,U⟩;obtain⟨a5,c5,rfl,-⟩:=aI Z;have Y:Hid (li g a len cap q S K L 1 w (rV w5.heap.size 1 1) (w5.alloc (.cells #[V 7,sV ⟨#[]⟩,.slice a5 e5.length c5,nV,V 0,V 0] 132))):=dM (L:=L) 7 0 0 ⟨#[]⟩ ((I.o.dr U).more (Nat.le_add_right _ _)) (Jd.o.trans (U.tcs.mono jb)) (cO Z Jd.o.size) (λW _=>aX W) (Jf.e3 o_) (bV.nil.more y_) d_ o_;clear Z Jf U x0 x1 x2 x3 x4;generalize e5.length=l5 at Y⊢;go_wp2;go_ret;exact⟨_,rfl,Y⟩)
 ·go_wp2_with fail;refine(dU g a len cap (S0 g) _ _ hl Jz I.o.cur o_).mono ?_;rintro e w2 ⟨b2,rfl,Jg⟩;have Je:Hid (GS g a len cap q S w2 G K):=I.o.dr Jg;have Jh:Hid (ak (Sq g q) w w2):=Jd.o.trans (Jg.tcs.mono jb);clear Jg x0 x1 x2 x3 x4 I Jd Ua;generalize w2=w1 at*;have I:Hid (GS g a len cap q S w1 G K):=Je.o;have Jd:Hid (ak (Sq g q) w w1):=Jh.o;clear Je Jh;have x0:=I.o.box.c0;have x1:=I.o.box.c1;have x2:=I.o.box.c2;have x3:=I.o.box.c3;have x4:=I.o.box.c4;cases b2
  ·go_wp2_with fail;refine(fB g a len cap (S0 g) G K w1 hl I.o.lo0 I.o.cur I.o.ok0 o_).mono ?_;rintro e w5 ⟨u5,e5,rfl,Z,Jf,U⟩;obtain⟨a5,c5,rfl,-⟩:=aI Z;have Y:Hid (li g a len cap q S K L 1 w (rV w5.heap.size 1 1) (w5.alloc (.cells #[V 7,sV ⟨#[]⟩,.slice a5 e5.length c5,nV,V 0,V 0] 132))):=dM (L:=L) 7 0 0 ⟨#[]⟩ ((I.o.dr U).more (Nat.le_add_right _ _)) (Jd.o.trans (U.tcs.mono jb)) (cO Z Jd.o.size) (λW _=>aX W) (Jf.e3 o_) (bV.nil.more y_) d_ o_;clear Z Jf U x0 x1 x2 x3 x4;generalize e5.length=l5 at Y⊢;go_wp2;go_ret;exact⟨_,rfl,Y⟩
  ·go_wp2_with fail;refine(dL g a len cap (S0 g) G K w1 hl I.o.lo0 I.o.cur I.o.ok0 o_).mono ?_;rintro e w5 ⟨u5,e5,rfl,Z,Jf,U⟩;obtain⟨a5,c5,rfl,-⟩:=aI Z;have Y:Hid (li g a len cap q S K L 1 w (rV w5.heap.size 1 1) (w5.alloc (.cells #[V 6,sV ⟨#[]⟩,.slice a5 e5.length c5,nV,V 0,V 0] 132))):=dM (L:=L) 6 0 0 ⟨#[]⟩ ((I.o.dr U).more (Nat.le_add_right _ _)) (Jd.o.trans (U.tcs.mono jb)) (cO Z Jd.o.size) (λW _=>aX W) (Jf.e3 o_) (bV.nil.more y_) d_ o_;clear Z Jf U x0 x1 x2 x3 x4;generalize e5.length=l5 at Y⊢;go_wp2;go_ret;exact⟨_,rfl,Y⟩
 ·obtain⟨ac,cc,J_⟩:=I.o.cs;by_cases hcs:0<G.cs.length
  ·have Yq:G.cs.length<=10:=I.o.ok.c4;have Ub:G.ps.length=G.cs.length:=I.o.ok.cp;obtain⟨cl,Jo⟩:=q_ G.cs.length;have Vv:0<cl/\cl<=10:=o_
   have Vl:(0:Int)<(cl:Int):=o_;rw[J_,<-Jo]at x0;have Zd:Hid (G.vc=.slice ac cl cc):=by rw[Jo];exact J_
   have Xv:Hid (cl=G.cs.length/\cl=G.ps.length):=⟨Jo,o_⟩;clear J_ Ub hcs Yq Jo;go_wp2_with fail;refine(aE g a len cap (S0 g) _ _ hl Jz I.o.cur o_).mono ?_;rintro e w2 ⟨fz,rfl,hf,Jg⟩;obtain⟨f,rfl⟩:∃f:Nat,fz=f:=⟨fz.toNat,o_⟩;have Xm:f<G.cs.length:=Ft Xv.o.1
   have Xp:f<G.ps.length:=Ft Xv.o.2
   have Je:Hid (GS g a len cap q S w2 G K):=I.o.dr Jg;have Jh:Hid (ak (Sq g q) w w2):=Jd.o.trans (Jg.tcs.mono jb);obtain⟨pf,Ye⟩:∃pf:Int,pf=G.ps[f]:=⟨_,rfl⟩;obtain⟨nm,Yc⟩:∃nm:GA,nm=G.cs[f]:=⟨_,rfl⟩;have Up:0<=pf/\pf<=6:=by rw[Ye];exact Je.o.ok.pb _ (g_ Xp)
   have Ym:Hid (nm.size<=100000):=by rw[Yc];exact Je.o.ok.ns.1 _ (g_ Xm)
   obtain⟨pb,Jq,Yi,-⟩:=ints_at (Je.o.ok.p w2 (ak.refl _ _)) f Xp;obtain⟨cb,Xn,Jt,Jp,-⟩:=kZ (Je.o.ok.c w2 (ak.refl _ _)) f Xm;have Zi:Hid (G.vp=rV pb cl Jq):=by rw[Xv.o.2];exact Yi
   have Xa:Hid (G.vc=.slice (some ⟨cb,Xn,none⟩) cl Jt):=by rw[Xv.o.1];exact Jp
   have Vy:Hid (∀W,ak S w2 W->DO W pb f (V pf)/\DO W cb (Xn+f) (sV nm)):=λW hW=>by
    obtain⟨Uw,Ux,q1,q2⟩:=ints_at (Je.o.ok.p W hW) f Xp;obtain⟨Us,Vi,Oa,q3,q4⟩:=kZ (Je.o.ok.c W hW) f Xm;rw[Yi]at q1;rw[Jp]at q3;simp only[Value.slice.injEq,GD,Addr.mk.injEq]at q1 q3;obtain⟨⟨rfl,-,-⟩,-,rfl⟩:=q1;obtain⟨⟨rfl,rfl,-⟩,-,rfl⟩:=q3;rw[Ye,Yc];exact⟨q2,q4⟩
   have Uh:Hid (∀W,Lo g a len (S0 g) W.heap.size->dS g a len cap W->fh (S0 g) W G K->Calls prog 150 #[pV g,.agg #[.slice (some ⟨cb,Xn,none⟩) cl Jt,rV pb cl Jq,G.vs,G.vl,V G.m],V 1] W λe w'=>∃u ns,e=rW u/\aV W.heap.size w' u ns/\bV ns 9/\Dr g a len cap (S0 g) W w'):=λW h1 h2 h3=>by
    have:=mw g a len cap (S0 g) hl 1 o_ 1 G K W rfl h1 h2 h3 o_
    rw[Zi.o,Xa.o]at this;exact this
   have Uy:(f:Int)<(cl:Int):=o_;have Vr:Hid (∀W,GB q W G->DO W q 0 (.slice (some ⟨cb,Xn,none⟩) cl Jt)/\DO W q 1 (rV pb cl Jq)/\DO W q 2 G.vs/\DO W q 3 G.vl/\DO W q 4 (V G.m)):=λW hB=>by
    have h0:=hB.c0;have h1:=hB.c1;rw[Xa.o]at h0;rw[Zi.o]at h1;exact⟨h0,h1,hB.c2,hB.c3,hB.c4⟩
   have Vn:w.heap.size<=w2.heap.size:=Jh.o.size;have Vt:Hid (∀k,S k->k<w2.heap.size):=Je.o.lo.s;have Yo:Hid (Lo g a len S w2.heap.size):=Je.o.lo;have Ji:Hid (GS g a len cap q (Sv S (rV w2.heap.size 0 0)) (w2.alloc (.cells #[] 134)) G K):=Je.o.add (Je.o.alloc _) ((ak.refl _ _).alloc _) (λk J=>by simp[ownBlock]at J;subst J;simp);clear Jg Ye Yc Yi Jp x0 x1 x2 x3 x4 Xm Xp;go_wp2;go_loopw[12,13,14] (λov i ar wr=>∃j:Nat,(j:Int)<=pf/\i=V j/\∃ns:List Nd,aV w2.heap.size wr ov ns/\bV ns (j*9)/\GS g a len cap q (Sv S ov) wr G K/\ak (S0 g) w2 wr) (λ_ i _ _=>pf.toNat-(RowKit.intOf i).toNat)
   case atStart=>exact⟨0,o_,rfl,[],gF w2 w2.heap.size n_,by rw[Nat.zero_mul];exact bV.nil,Ji,(ak.refl _ _).alloc _⟩
   case round=>
    obtain⟨j,hj,rfl,ns,hr,hn,Yx,Xl⟩:=hrel;have HR:=ah hr;have HN:=ah hn;have Xc:=ah Yx;have Zv:=ah Xl;obtain⟨x0,x1,x2,x3,x4⟩:=Vr.o wr Yx.box;obtain⟨y0,y1⟩:=Vy.o wr (Xl.mono Je.o.s0);have Oe:ns.length<=54:=t_ hn.1 o_;have Vs:w2.heap.size<=wr.heap.size:=Xl.size;clear hr hn Yx Xl;by_cases hlt:(j:Int)<pf
    ·go_wp2_with fail;refine(Uh.o wr Xc.o.lo0 Xc.o.cur Xc.o.ok0).mono ?_;rintro e w4 ⟨u4,e4,rfl,Jw,Yr,Xi⟩;have Va:=aN HR.o Xi.tcs (λk J=>Vt.o k (Je.o.s0 k J));have U_:e4.length<=9:=Yr.1;obtain⟨v5,w5,r5,Yv,Zz,Zk⟩:=iG (w:=w4) w2.heap.size 130 _ ns Va u4 e4 (aV.nodes Jw) o_ (t_ Vs Xi.tcs.size);have Xz:ak (λk=>u12.ownBlock=some k) w4 w5:=ak.of_grown Zz (λk J=>J);have Xu:Hid (aV w2.heap.size w5 v5 (ns++e4)/\bV (ns++e4) (j*9+9)/\GS g a len cap q (Sv S v5) w5 G K/\ak (S0 g) w2 w5):=⟨Yv,HN.o.app Yr,(Xc.o.dr Xi).app Yo.o Je.o.sq (λk J=>(ownsRow.lt HR.o k J).1) Xz Zk (λk J=>(ownsRow.lt Yv k J).2),(Zv.o.trans Xi.tcs).next Xz (λk J=>.inr (ownsRow.lt HR.o k J).1)⟩;have Vk:=ah r5;clear Jw Yr Xi Va r5 Yv Zz Zk x0 x1 x2 x3 x4 y0 y1 Xz;go_wp2_with(at_builtin;refine aC rfl _ _ _ rfl _ _ _ _ rfl rfl Vk.o ?_)
     go_roundw
     case rel=>exact⟨j+1,o_,by go_num,ns++e4,Xu.o.1,by rw[Nat.succ_mul];exact Xu.o.2.1,Xu.o.2.2.1,Xu.o.2.2.2⟩
     case measure=>exact FW
    ·have Ur:j<=6:=o_
     go_upto_region 33 with fail;go_region_law
      (refine gE rfl (.tmp 137) (.tmp 153) rfl w2.heap.size _ ns rfl (aV.below HR.o ((r_.drew).alloc n_ _)) _ _ rfl (ct wr.drew 0 y_ _ _ _).nodes ZFs ZFs ?_
       intro u6 w6 h6 g6 f6;obtain⟨a6,n6,c6,rfl⟩:∃x y z,u6=.slice x y z:=by obtain⟨x,y,e,-⟩:=aI h6;exact⟨x,_,y,e⟩
       have X_:ak (λk=>u12.ownBlock=some k) (wr.drew.alloc (.cells #[V 4,V pf,sV nm] 134)) w6:=ak.of_grown g6 (λk J=>J);have Y_:Bl wr (wr.drew.alloc (.cells #[V 4,V pf,sV nm] 134)):=(r_.drew).alloc n_ _;have Zs:GS g a len cap q (Sv S (.slice a6 n6 c6)) w6 G K:=(Xc.o.below Y_).app Yo.o Je.o.sq (λk J=>(ownsRow.lt HR.o k J).1) X_ f6 (λk J=>(ownsRow.lt h6 k J).2);have Xf:ak (Sq g q) w w6:=(Jh.o.trans ((Zv.o.of_below Y_).next X_ (λk J=>.inr (ownsRow.lt HR.o k J).1) |>.mono jb));have Y:Hid (li g a len cap q S K L 1 w (rV w6.heap.size 1 1) (w6.alloc (.cells #[V 8,sV ⟨#[]⟩,.slice a6 n6 c6,nV,V 0,V 0] 132))):=dM (L:=L) 8 0 0 ⟨#[]⟩ ((Zs.drop Yo.o.sg Je.o.sq).more (Nat.le_add_right _ _)) Xf (cO h6 Vn) (λW _=>aX W) (bV.more (HN.o.app (bV.one Ym)) o_) (bV.nil.more y_) d_ o_;clear h6 g6 f6 X_ Y_ Zs Xf)
     all_goals (
      go_wp2;go_ret;exact⟨_,rfl,Y⟩)
  ·obtain⟨cl,Jo⟩:=q_ G.cs.length;have Un:(cl:Int)<=0:=o_
   rw[J_,<-Jo]at x0;have Zd:Hid (G.vc=.slice ac cl cc):=by rw[Jo];exact J_
   have Ud:Hid (∀W,Lo g a len (S0 g) W.heap.size->dS g a len cap W->fh (S0 g) W G K->Calls prog 152 #[pV g,.agg #[.slice ac cl cc,G.vp,G.vs,G.vl,V G.m]] W λe w'=>∃u ns,e=rW u/\aV W.heap.size w' u ns/\bV ns 1/\Dr g a len cap (S0 g) W w'):=λW h1 h2 h3=>by
    have:=fB g a len cap (S0 g) G K W hl h1 h2 h3 o_
    rw[Zd.o]at this;exact this
   clear J_ hcs Jo;go_wp2_with fail;refine(Ud.o w1 I.o.lo0 I.o.cur I.o.ok0).mono ?_;rintro e w5 ⟨u5,e5,rfl,Z,Jf,U⟩;obtain⟨a5,c5,rfl,-⟩:=aI Z;have Y:Hid (li g a len cap q S K L 1 w (rV w5.heap.size 1 1) (w5.alloc (.cells #[V 7,sV ⟨#[]⟩,.slice a5 e5.length c5,nV,V 0,V 0] 132))):=dM (L:=L) 7 0 0 ⟨#[]⟩ ((I.o.dr U).more (Nat.le_add_right _ _)) (Jd.o.trans (U.tcs.mono jb)) (cO Z Jd.o.size) (λW _=>aX W) (Jf.e3 o_) (bV.nil.more y_) d_ o_;clear Z Jf U x0 x1 x2 x3 x4;generalize e5.length=l5 at Y⊢;go_wp2;go_ret;exact⟨_,rfl,Y⟩
 ·by_cases hz0:z=0
  ·subst hz0;go_wp2_with fail;refine(fB g a len cap (S0 g) G K w1 hl I.o.lo0 I.o.cur I.o.ok0 o_).mono ?_;rintro e w5 ⟨u5,e5,rfl,Z,Jf,U⟩;obtain⟨a5,c5,rfl,-⟩:=aI Z;have Y:Hid (li g a len cap q S K L 1 w (rV w5.heap.size 1 1) (w5.alloc (.cells #[V 7,sV ⟨#[]⟩,.slice a5 e5.length c5,nV,V 0,V 0] 132))):=dM (L:=L) 7 0 0 ⟨#[]⟩ ((I.o.dr U).more (Nat.le_add_right _ _)) (Jd.o.trans (U.tcs.mono jb)) (cO Z Jd.o.size) (λW _=>aX W) (Jf.e3 o_) (bV.nil.more y_) d_ o_;clear Z Jf U x0 x1 x2 x3 x4;generalize e5.length=l5 at Y⊢;go_wp2;go_ret;exact⟨_,rfl,Y⟩
  ·have Um:0<z:=o_
   obtain⟨d',Jl⟩:∃d',d=d'+1:=⟨d-1,Ft HZ.o⟩;have Uf:Hid (∀W,ak (Sq g q) w W->GS g a len cap q S W G K->Calls prog 181 #[pV g,pV q,V z] W λe w'=>∃v,e=rW v/\li g a len cap q S K L 1 W v w'):=λW _ hW=>by
    have Vj:K+oh (d'+1)<=50000:=by rw[<-Jl,<-Ys.o];exact hK
    have:=zK g a len cap q d' hl o_ (HX.o d' Jl) z (by rw[<-Jl];exact HZ.o) S G K W hW Vj
    rw[<-Jl,<-Ys.o]at this;exact this
   clear Jl x0 x1 x2 x3 x4;go_wp2_with fail;refine(Uf.o w1 Jd.o I).mono ?_;rintro e w2 ⟨v,rfl,Xg⟩;have Y:Hid (li g a len cap q S K L 1 w v w2):=Xg.from Jd;clear Xg;go_wp2;go_ret;exact⟨_,rfl,Y⟩
 ·by_cases hz0:z=0
  ·subst hz0;rcases hk14 with rfl|rfl;all_goals (
    go_wp2_with fail;refine(fB g a len cap (S0 g) G K w1 hl I.o.lo0 I.o.cur I.o.ok0 o_).mono ?_;rintro e w5 ⟨u5,e5,rfl,Z,Jf,U⟩;obtain⟨a5,c5,rfl,-⟩:=aI Z;have Y:Hid (li g a len cap q S K L 1 w (rV w5.heap.size 1 1) (w5.alloc (.cells #[V 7,sV ⟨#[]⟩,.slice a5 e5.length c5,nV,V 0,V 0] 132))):=dM (L:=L) 7 0 0 ⟨#[]⟩ ((I.o.dr U).more (Nat.le_add_right _ _)) (Jd.o.trans (U.tcs.mono jb)) (cO Z Jd.o.size) (λW _=>aX W) (Jf.e3 o_) (bV.nil.more y_) d_ o_;clear Z Jf U x0 x1 x2 x3 x4;generalize e5.length=l5 at Y⊢;go_wp2;go_ret;exact⟨_,rfl,Y⟩)
  ·have Um:0<z:=o_
   obtain⟨d',Jl⟩:∃d',d=d'+1:=⟨d-1,Ft HZ.o⟩;have Zr:Hid (D9 g a len cap q d'):=HX.o d' Jl;obtain⟨D,hD⟩:=q_ (oh d');have Ui:L=4*D+3:=by rw[Ys.o,Jl,hD];rfl
   have HD:=ah hD;have Ob:4*D+3<=L/\L<=4*D+3:=o_;have Zj:Hid (z-1=(d':Int)):=by show _=_;have:=HZ.o;omega
   have Uq:d'<=3:=o_
   clear Jl hD Ui;rcases hk14 with rfl|rfl;all_goals (
    go_wp2_with fail;refine(dL g a len cap (S0 g) G K w1 hl I.o.lo0 I.o.cur I.o.ok0 o_).mono ?_;rintro e w2 ⟨u2,e2,rfl,Jk,Jm,Jg⟩;obtain⟨a2,n2,c2,rfl⟩:∃x y z,u2=.slice x y z:=by obtain⟨x,y,e,-⟩:=aI Jk;exact⟨x,_,y,e⟩
    have Je:Hid (GS g a len cap q S w2 G K):=I.o.dr Jg;have Jh:Hid (ak (Sq g q) w w2):=Jd.o.trans (Jg.tcs.mono jb);have Js:Hid (∀W,ak (λk=>k<w.heap.size) w2 W->aw W (.slice a2 n2 c2) e2):=cO Jk Jd.o.size;have Xh:Hid (bV e2 3000):=Jm.e3 o_;clear Jk Jm Jg x0 x1 x2 x3 x4;go_wp2_with fail;refine(aE g a len cap (S0 g) _ _ hl Jz Je.o.cur o_).mono ?_;rintro e w3 ⟨x,rfl,hx,Jx⟩;have Ji:Hid (GS g a len cap q S w3 G K):=Je.o.dr Jx;have Zf:Hid (ak (Sq g q) w2 w3):=Jx.tcs.mono jb;obtain⟨n,Uo⟩:=q_ x.toNat;have Yz:n<=2:=o_;have Vo:Hid (x=(n:Int)):=by show _=_;omega
    obtain⟨nD,Yl⟩:=q_ (n*oh d');have Zp:=ah Yl;have Vm:nD<=2*D:=by rw[Yl,<-HD.o];exact Nat.mul_le_mul_right _ Yz
    clear Jx Uo Yl;go_wp2_with fail;refine(gG g a len cap q d' o_ Zr.o n o_ _ _ Vo.o Zj.o S G K w3 Ji.o (by rw[<-Zp.o];omega)).mono ?_;rintro e w4 ⟨va,rfl,Ra,G4,Jw,-,Yu,Vc⟩;rw[<-Zp.o]at Jw Yu;obtain⟨ba,bn,bc,rfl⟩:∃x y z,va=.slice x y z:=by obtain⟨x,y,e⟩:=Jw.shape;exact⟨x,_,y,e⟩
    have Vp:=ah Jw;have Zn:=ah Yu;have Ze:Hid (ak (Sq g q) w2 w4):=Zf.o.trans Vc;clear Jw Yu Vc;go_wp2_with fail;refine(aE g a len cap (S0 g) _ _ hl Jz Zn.o.cur o_).mono ?_;rintro e w5 ⟨y,rfl,hy,U⟩;have Zb:=ah (Zn.o.dr U);have Vz:Hid (ak (Sq g q) w4 w5):=U.tcs.mono jb;clear U;go_wp2_with fail;refine(aE g a len cap (S0 g) _ _ hl Jz Zb.o.cur o_).mono ?_;rintro e w6 ⟨y2,rfl,Uu,Ya⟩;have Vh:=ah (Zb.o.dr Ya);have Vb:Hid (ak (Sq g q) w4 w6):=Vz.o.trans (Ya.tcs.mono jb);obtain⟨m,Ul⟩:∃m:Nat,m=(y*y2).toNat:=⟨_,rfl⟩;have Oc:0<=y*y2/\y*y2<=2:=by
     have:y2=0∨y2=1:=by omega
     rcases this with rfl|rfl <;> omega
    have Vu:m<=2:=o_;have Vw:Hid (y*y2=(m:Int)):=by show _=_;omega
    obtain⟨mD,Yp⟩:=q_ (m*oh d');have Zl:=ah Yp;have Ue:mD<=2*D:=by rw[Yp,<-HD.o];exact Nat.mul_le_mul_right _ Vu
    have Uj:wrap64 (y*y2)=y*y2:=by unfold wrap64;omega
    have Uc:Hid (IntKind.i64.wrap (y*y2)=y*y2):=by show _=_;rw[IntKind.wrap_i64];omega
    generalize hyz:y*y2=yy at*;clear Ya Ul Yp;go_wp2_with fail;try simp only[hyz]
    refine(gG g a len cap q d' o_ Zr.o m o_ _ _ Vw.o Zj.o (Sv S (.slice ba bn bc)) G4 (K+nD) w6 Vh.o (by rw[<-Zl.o];omega)).mono ?_;rintro e w7 ⟨vb,rfl,Rb,G7,Xd,-,Yn,Zw⟩;rw[<-Zl.o]at Xd Yn;obtain⟨da,dn,dc,rfl⟩:∃x y z,vb=.slice x y z:=by obtain⟨x,y,e⟩:=Xd.shape;exact⟨x,_,y,e⟩
    have Yb:=Vb.o.trans Zw;have Xy:=Ze.o.trans Yb;have Yj:=Jh.o.trans Xy;have Xt:w.heap.size<=w7.heap.size:=Yj.size;have Zt:∀k,Sq g q k->k<w3.heap.size:=Ji.o.k0;have Xw:=Vp.o.tcs Yb Zt;have Xj:=kl (w:=w7) (B:=w.heap.size) (kd:=4) (th:=bn) (el:=dn) (nm:=⟨#[]⟩) (vf:=nV) (f:=[]) Xt (λW hW=>Js.o W ((Xy.mono HG.o.k0).trans hW)) (λW _=>aX W) Xh.o (bV.nil.more y_) d_;obtain⟨W8,Xs⟩:=q_ (w7.alloc (.cells #[V 4,sV ⟨#[]⟩,.slice a2 n2 c2,nV,V bn,V dn] 132));have Jn:Bl w7 W8:=by rw[Xs];exact r_.alloc n_ _
    rw[<-Xs]at Xj;have Jj:∀k,(Value.slice (some ⟨w7.heap.size,0,none⟩) 1 1).ownBlock=some k->w7.heap.size<=k:=λk J=>by simp[ownBlock]at J;omega
    have Yw:w.heap.size<=w3.heap.size:=t_ Jh.o.size Zf.o.size;have Yt:w.heap.size<=w6.heap.size:=t_ Jh.o.size (Ze.o.trans Vb).size;obtain⟨v9,w9,r9,h9,t9,f9⟩:=jk 95 Xj (Xw.below Jn) (t_ Xt Jn.size) o_ (km Xw Jn.tcs Yw Jj);have Xb:ak (λ_=>False) w7 w9:=(Jn.tcs (S:=λ_=>False)).next t9 (λk J=>.inr (Jj k J));have Z_:∀k,v9.ownBlock=some k->w7.heap.size<=k:=λk J=>by
     rcases f9 k J with h|h
     ·exact Jj k h
     ·have:=Jn.size;omega
    obtain⟨Vx,Ug,Zq,h10,Yf,Zy⟩:=jk 95 h9 (Xd.tcs Xb (λk J=>J.elim)) (t_ Xt Xb.size) o_ (km Xd (Xb.mono λk J=>J.elim) Yt Z_);have Xx:=Yn.sub (S':=S) (λk J=>.inl (.inl J)) HG.o.lo.sg HG.o.sq;have Vf:=GS.add (v:=rV w7.heap.size 1 1) Xx (Xx.below Jn) Jn.tcs (λk J=>⟨Jj k J,(Xj.rng k J).2⟩);have Vd:=Vf.app HG.o.lo HG.o.sq (λk J=>(Xj.rng k J).1) t9 f9 (λk J=>(h9.rng k J).2);have Xe:=Vd.app HG.o.lo HG.o.sq (λk J=>(h9.rng k J).1) Yf Zy (λk J=>(h10.rng k J).2);have Y:Hid (li g a len cap q S K L 1 w Vx Ug):=⟨_,G7,h10.more o_,i_,Xe.more o_,(Yj.trans (Xb.mono λk J=>J.elim)).next Yf (λk J=>.inr (h9.rng k J).1)⟩;rw[Xs]at r9;have Uk:=ah r9;have Yk:=ah Zq;clear Xd Yn Zw Yb Xy Yj Xt Zt Xw Xj Jn Jj r9 h9 t9 f9 Xb Z_ Zq h10 Yf Zy Xx Vf Vd Xe Xs;go_wp2_with(at_builtin;first
     | refine aC rfl (.tmp 198) (.tmp 199) _ rfl _ _ _ _ rfl rfl Uk.o ?_
     | refine aC rfl (.tmp 200) (.tmp 201) _ rfl _ _ _ _ rfl rfl Yk.o ?_)
    go_ret;exact⟨_,rfl,Y⟩)
 ·go_wp2_with fail;refine(fB g a len cap (S0 g) G K w1 hl I.o.lo0 I.o.cur I.o.ok0 o_).mono ?_;rintro e w5 ⟨u5,e5,rfl,Z,Jf,U⟩;obtain⟨a5,c5,rfl,-⟩:=aI Z;have Y:Hid (li g a len cap q S K L 1 w (rV w5.heap.size 1 1) (w5.alloc (.cells #[V 7,sV ⟨#[]⟩,.slice a5 e5.length c5,nV,V 0,V 0] 132))):=dM (L:=L) 7 0 0 ⟨#[]⟩ ((I.o.dr U).more (Nat.le_add_right _ _)) (Jd.o.trans (U.tcs.mono jb)) (cO Z Jd.o.size) (λW _=>aX W) (Jf.e3 o_) (bV.nil.more y_) d_ o_;clear Z Jf U x0 x1 x2 x3 x4;generalize e5.length=l5 at Y⊢;go_wp2;go_ret;exact⟨_,rfl,Y⟩
theorem qY(g:Nat)(a:Option Addr)(len cap q:Nat)(J:len<=1048576)(d:Nat):d<=4->D9 g a len cap q d:=by
 induction d with
 | zero=>intro I;exact oy g a len cap q J 0 I (λd' h=>by omega)
 | succ d ih=>intro I;exact oy g a len cap q J (d+1) I (λd' h=>by
  have e:d'=d:=o_;rw[e];exact ih o_)
end
section
variable{B L:Nat}{w W w':AT}{v vg vf:BY}{R:List SV}{S S':D6}{Q:List FV}{t:Tr}
def zL(W:AT)(v:BY)(R:List SV):Prop:=(∃a c,v=.slice a R.length c/\R.length<=c/\c<=9223372036854775807/\(0<R.length->∃b off,a=some ⟨b,off,none⟩/\∀j u,(db R)[j]? =some u->W.cell? ⟨b,off+j,none⟩=some u))/\AZ R W
def zL.stmts(h:zL W v R):aW W v (R.map (·.s)):=by
 obtain⟨⟨a,c,rfl,h1,h2,h3⟩,Y⟩:=h;refine⟨a,c,by rw[GN],by rw[GN];exact h1,h2,λhp'=>?_⟩;rw[GN]at hp';obtain⟨b,U,rfl,hc⟩:=h3 hp';refine⟨b,U,rfl,λj hj=>?_⟩;rw[GN]at hj;have I:∀i (hi:i<6),W.cell? ⟨b,U+j*6+i,none⟩=(cH R[j])[i]? := λi hi=>by
  have e:=j3 R j i hj hi;have Z:i<(cH R[j]).length:=hi;rw[GH Z]at e⊢;rw[Nat.add_assoc];exact hc _ _ e
 have J:=Y R[j] (g_ hj);refine⟨R[j].ve,R[j].vf,?_,?_,?_⟩
 ·simp only[getElem_map];exact⟨I 0 o_,I 1 o_,I 2 o_,I 3 o_,I 4 o_,I 5 o_⟩
 ·simp only[getElem_map];exact J.1
 ·simp only[getElem_map];exact J.2
def Cu(J:W.ownsRow B 132 6 v R.length (db R))(hp:AZ R W):zL W v R:=by
 refine⟨?_,hp⟩;have U:=J;rcases J.2 with⟨rfl,hz⟩|⟨g,Y,Jb,rfl,h3,h4,h5⟩
 ·exact⟨none,0,by rw[hz],o_,o_,λh=>by omega⟩
 ·obtain⟨Z,I,-⟩:=h5;unfold maxLen at I;refine⟨_,Y,rfl,Z,I,λ_=>⟨g,0,rfl,λj u hu=>?_⟩⟩;have:=ownsRow.cells U (g:=g) rfl j u hu
  rwa[em]at this
def SR.rd(h:SR B w v R L):∀W,ak (λk=>k<B) w W->zL W v R:=λW hW=>
 Cu (aN h.row.row hW (λk hk=>hk)) (h.row.st W (hW.mono λk hk=>.inl hk))
def zL.one(h:zL W v R):v.oneCell'=true:=by
 obtain⟨⟨a,c,rfl,-⟩,-⟩:=h;rfl
def Cv(Q:List FV)(W:AT):Prop:=∀x∈Q,a_ W x.vp x.f.params/\zL W x.vb x.R/\x.R.map (·.s)=x.f.body
structure sT (f:Fu):Prop where
 nm:f.name.size<=100000
 pl:f.params.length<=20
 pn:∀p∈f.params,p.size<=100000
 bl:1<=f.body.length
 bu:f.body.length<=10000
 st:∀s∈f.body,bV s.e 3000/\bV s.f 3000/\s.name.size<=100000
def EG.body(h:EG R):∀s∈R.map (·.s),bV s.e 3000/\bV s.f 3000/\s.name.size<=100000:=λs hs=>by
 obtain⟨x,hx,rfl⟩:=mem_map.1 hs;exact h x hx
structure FR (S:D6) (B:Nat) (w:AT) (v:BY) (Q:List FV):Prop where
 row:fx 97 3 S B w v Q.length (cq Q) (Cv Q)
 ok:∀x∈Q,sT x.f
def FR.tcs(h:FR S B w v Q)(ht:ak S w w')(hS:∀k,S k->k<B):FR S B w' v Q:=⟨h.row.tcs ht hS,h.ok⟩
def FR.below(h:FR S B w v Q)(hb:Bl w w'):FR S B w' v Q:=⟨h.row.below hb,h.ok⟩
def FR.rng(h:FR S B w v Q):∀k,v.ownBlock=some k->B<=k/\k<w.heap.size:=λk hk=>ownsRow.lt h.row.row k hk
def FR.shape(h:FR S B w v Q):∃a c,v=.slice a Q.length c:=by
 obtain⟨a,c,e,-⟩:=aI h.row.row;exact⟨a,c,e⟩
def fr_none:FR S B w nV []:=⟨fx.nil (λW x hx=>by cases hx),λx hx=>by cases hx⟩
def zM(h0:W.ownsRow B 97 3 v Q.length (cq Q))(hp:Cv Q W):bC W v (Q.map (λq:FV=>q.f)):=by
 rcases h0.2 with⟨rfl,hz⟩|⟨g,U,Jc,rfl,h3,h4,h5⟩
 ·exact⟨none,0,by rw[GN,hz],by rw[GN,hz];exact n_,o_,λh=>by rw[GN]at h;omega⟩
 ·have Y:Q.length<=U/\U<=9223372036854775807:=by
   obtain⟨q1,Z,-⟩:=h5;unfold maxLen at Z;exact⟨q1,Z⟩
  refine⟨some ⟨g,0,none⟩,U,by rw[GN],by rw[GN];exact Y.1,Y.2,λhp'=>⟨g,0,rfl,λj hj=>?_⟩⟩;rw[GN]at hj;have J:∀i,i<3->W.cell? ⟨g,0+j*3+i,none⟩=(cd Q[j])[i]? := λi hi=>by
   have hl:(cq Q).length=Q.length*3:=gz Q;rw[Nat.zero_add,ownsRow.cellAt h0 (j*3+i) o_,gA Q j i hj hi]
  obtain⟨e1,I,e3⟩:=hp Q[j] (g_ hj);have I:=I.stmts;rw[e3]at I;refine⟨Q[j].vp,Q[j].vb,?_,?_,?_⟩
  ·simp only[getElem_map];exact⟨J 0 o_,J 1 o_,J 2 o_⟩
  ·simp only[getElem_map];exact e1
  ·simp only[getElem_map];exact I
def zN{m c:Nat}{Q2:List FV}(U:GC)(h:FR S B w v Q)(a:Option Addr)(Je:m=Q2.length)(hn:a=none->m=0)(hc:∀ad,a=some ad->∀j u,(cq Q2)[j]? =some u->w.cell? (ad.add j)=some u)(h1:∀x∈Q2,x.vp.oneCell'=true/\x.vb.oneCell'=true)(ho:∀x∈Q2,sT x.f)
  (Jd:∀W,ak (λk=>S k∨v.ownBlock=some k) w W->Cv Q2 W) (hm:Q.length+Q2.length<=100000) (hB:B<=w.heap.size):
  ∃v' w',(Builtin.append_ #[32,32] U #[v,.slice a m c]).run prog w=.ok v' w'/\FR S B w' v' (Q++Q2)/\ak (λk=>v.ownBlock=some k) w w'/\∀k,v'.ownBlock=some k->v.ownBlock=some k∨w.heap.size<=k:=by
 subst Je;obtain⟨i0,hi,Jb,Jc,Ja⟩:=info_parts nO;obtain⟨v',w',r1,J,r3,Y⟩:=mt (Pg:=prog) (w:=w) (T:=97) (t:=32) (c:=c) (P2:=Cv Q2) U underlying32 hi Jb Jc Ja rfl d_ h.row a hn (gz Q2) hc (λu I=>by
  simp only[cq,mem_flatMap]at I;obtain⟨x,hx,I⟩:=I;obtain⟨g1,Z⟩:=h1 x hx;simp only[cd,mem_cons,not_mem_nil,or_false]at I;rcases I with rfl|rfl|rfl
  ·rfl
  ·exact g1
  ·exact Z) Jd o_ d_ hB
 refine⟨v',w',r1,⟨⟨by rw[l_a,pr];exact J.row,λW hW x hx=>?_⟩,λx hx=>?_⟩,r3,Y⟩
 ·rcases GJ.1 hx with hx|hx
  ·exact(J.st W hW).1 x hx
  ·exact(J.st W hW).2 x hx
 ·rcases GJ.1 hx with hx|hx
  ·exact h.ok x hx
  ·exact ho x hx
structure TD (S:D6) (w:AT) (vg vf:BY) (t:Tr):Prop where
 gs:∀W,ak S w W->cK W vg t.globals
 fs:∃b off c,∃Q:List FV,vf=.slice (some ⟨b,off,none⟩) Q.length c/\Q.length<=c/\c<=9223372036854775807/\Q.map (λq:FV=>q.f)=t.funcs/\∀W,ak S w W->(∀j u,(cq Q)[j]? =some u->W.cell? ⟨b,off+j,none⟩=some u)/\Cv Q W
 gl:1<=t.globals.length/\t.globals.length<=20
 gn:∀x∈t.globals,x.name.size<=100000
 fl:1<=t.funcs.length/\t.funcs.length<=20
 ok:∀f∈t.funcs,sT f
def TD.tcs(h:TD S w vg vf t)(I:ak S w w'):TD S w' vg vf t:=by
 obtain⟨b,J,c,Q,U,h2,h3,h4,h5⟩:=h.fs;exact⟨λW hW=>h.gs W (I.trans hW),⟨b,J,c,Q,U,h2,h3,h4,λW hW=>h5 W (I.trans hW)⟩,h.gl,h.gn,h.fl,h.ok⟩
def TD.funcs(h:TD S w vg vf t):∀W,ak S w W->bC W vf t.funcs:=λW hW=>by
 obtain⟨b,off,c,Q,rfl,h2,h3,h4,h5⟩:=h.fs;obtain⟨hc,hp⟩:=h5 W hW;rw[<-h4];refine⟨_,c,by rw[GN],by rw[GN];exact h2,h3,λhp'=>⟨b,off,rfl,λj hj=>?_⟩⟩;rw[GN]at hj;have key:∀i (hi:i<3),W.cell? ⟨b,off+j*3+i,none⟩=(cd Q[j])[i]? := λi hi=>by
  have e:=gA Q j i hj hi;have hl:i<(cd Q[j]).length:=hi;rw[GH hl]at e⊢;rw[Nat.add_assoc];exact hc _ _ e
 obtain⟨e1,e2,e3⟩:=hp Q[j] (g_ hj);have e2:=e2.stmts;rw[e3]at e2;refine⟨Q[j].vp,Q[j].vb,?_,?_,?_⟩
 ·simp only[getElem_map];exact⟨key 0 o_,key 1 o_,key 2 o_⟩
 ·simp only[getElem_map];exact e1
 ·simp only[getElem_map];exact e2
end
section
variable{W W3 wr:AT}{b g len cap F T q pm py B L bn bc:Nat}{a px ba:Option Addr}{nm:GA}{cs qs:List GA}
def globs4:List Gl:=[⟨⟨#[103]⟩,0⟩,⟨⟨#[97]⟩,8⟩,⟨⟨#[104]⟩,0⟩,⟨⟨#[98]⟩,2⟩]
def mz:List BY:=[sV ⟨#[103]⟩,V 0,sV ⟨#[97]⟩,V 8,sV ⟨#[104]⟩,V 0,sV ⟨#[98]⟩,V 2]
def pE:List BY:=[sV ⟨#[102]⟩,sV ⟨#[107]⟩,sV ⟨#[100,101,101,112]⟩,sV ⟨#[120,49]⟩]
def zO(h:aK W b mz):cK W (rV b 4 4) globs4:=by
 refine⟨_,4,rfl,d_,d_,λ_=>⟨b,0,rfl,λj hj=>?_⟩⟩;have I:j<4:=hj;have:j=0∨j=1∨j=2∨j=3:=o_;rcases this with rfl|rfl|rfl|rfl
 ·exact⟨(h 0 _ rfl).1,(h 1 _ rfl).1⟩
 ·exact⟨(h 2 _ rfl).1,(h 3 _ rfl).1⟩
 ·exact⟨(h 4 _ rfl).1,(h 5 _ rfl).1⟩
 ·exact⟨(h 6 _ rfl).1,(h 7 _ rfl).1⟩
def zP{j:Nat}(h:aK W b pE)(I:j<4):∃s,DO W b j (sV s)/\s.size<=100000:=by
 have:j=0∨j=1∨j=2∨j=3:=by omega
 rcases this with rfl|rfl|rfl|rfl
 ·exact⟨_,(h 0 _ rfl).1,d_⟩
 ·exact⟨_,(h 1 _ rfl).1,d_⟩
 ·exact⟨_,(h 2 _ rfl).1,d_⟩
 ·exact⟨_,(h 3 _ rfl).1,d_⟩
def sU(w:AT):∃W1,W1=(((w.alloc (.cells #[nV,nV] 34)).alloc (.cells #[sV ⟨#[103]⟩,V 0,sV ⟨#[97]⟩,V 8,sV ⟨#[104]⟩,V 0,sV ⟨#[98]⟩,V 2] 63)).alloc (.cells #[.slice (some ⟨w.heap.size+1,0,none⟩) 4 4,nV] 34)).alloc (.cells #[sV ⟨#[102]⟩,sV ⟨#[107]⟩,sV ⟨#[100,101,101,112]⟩,sV ⟨#[120,49]⟩] 9) /\
  aK W1 w.heap.size [nV,nV]/\aK W1 (w.heap.size+1) mz/\aK W1 (w.heap.size+2) [.slice (some ⟨w.heap.size+1,0,none⟩) 4 4,nV]/\aK W1 (w.heap.size+3) pE/\Bl w W1/\W1.heap.size=w.heap.size+4:=by
 refine⟨_,rfl,?_,?_,?_,?_,?_,i_⟩
 ·exact(((aH w _ _ d_).below (au _ _)).below (au _ _)).below (au _ _)
 ·have:=((aH (w.alloc (.cells #[nV,nV] 34)) #[sV ⟨#[103]⟩,V 0,sV ⟨#[97]⟩,V 8,sV ⟨#[104]⟩,V 0,sV ⟨#[98]⟩,V 2] 63 d_).below (r_.alloc n_ (.cells #[.slice (some ⟨w.heap.size+1,0,none⟩) 4 4,nV] 34))).below (r_.alloc n_ (.cells #[sV ⟨#[102]⟩,sV ⟨#[107]⟩,sV ⟨#[100,101,101,112]⟩,sV ⟨#[120,49]⟩] 9))
  simp only[Bl,GO]at this;exact this
 ·have:=(aH ((w.alloc (.cells #[nV,nV] 34)).alloc (.cells #[sV ⟨#[103]⟩,V 0,sV ⟨#[97]⟩,V 8,sV ⟨#[104]⟩,V 0,sV ⟨#[98]⟩,V 2] 63)) #[.slice (some ⟨w.heap.size+1,0,none⟩) 4 4,nV] 34 i_).below (r_.alloc n_ (.cells #[sV ⟨#[102]⟩,sV ⟨#[107]⟩,sV ⟨#[100,101,101,112]⟩,sV ⟨#[120,49]⟩] 9))
  simp only[Bl,GO]at this;exact this
 ·have:=aH (((w.alloc (.cells #[nV,nV] 34)).alloc (.cells #[sV ⟨#[103]⟩,V 0,sV ⟨#[97]⟩,V 8,sV ⟨#[104]⟩,V 0,sV ⟨#[98]⟩,V 2] 63)).alloc (.cells #[.slice (some ⟨w.heap.size+1,0,none⟩) 4 4,nV] 34)) #[sV ⟨#[102]⟩,sV ⟨#[107]⟩,sV ⟨#[100,101,101,112]⟩,sV ⟨#[120,49]⟩] 9 d_
  simp only[Bl,GO]at this;exact this
 ·exact(((au _ _).alloc i_ _).alloc ZFs _).alloc ZFs _
def Sx(g T q:Nat):D6:=λk=>k=g∨k=T∨k=q
structure F6 (g:Nat) (a:Option Addr) (len cap T q GL M:Nat) (W2 wr:AT) (j:Nat):Prop where
 cur:dS g a len cap wr
 tcs:ak (Sx g T q) W2 wr
 ex:∃fa fn fc Q,aK wr T [rV GL 4 4,.slice fa fn fc]/\FR (λk=>k<M) M wr (.slice fa fn fc) Q/\Q.length=j/\∃ca cn cc pa pn pc,∃(cs:List GA) (ps:List Int),aK wr q [.slice ca cn cc,.slice pa pn pc,nV,nV,V 0]/\(∀W,ak (Sv (Sx g T q) (.slice fa fn fc)) wr W->a_ W (.slice ca cn cc) cs/\Ints W (.slice pa pn pc) ps)/\cs.length=j/\ps.length=j/\(∀x∈ps,0<=x/\x<=6)/\∀x∈cs,x.size<=100000
structure PI (g:Nat) (a:Option Addr) (len cap F:Nat) (nm:GA) (W3 wx:AT) (k:Nat):Prop where
 cur:dS g a len cap wx
 tcs:ak (λb=>b=g∨b=F) W3 wx
 ex:∃pa pn pc,∃ps:List GA,aK wx F [sV nm,.slice pa pn pc,nV]/\wx.ownsRow W3.heap.size 9 1 (.slice pa pn pc) ps.length (ps.map Value.string)/\ps.length=k/\∀x∈ps,x.size<=100000
def zQ(s t:GA):(s++t).size=s.size+t.size:=ByteArray.size_append
def sX{k:Nat}(h:PI g a len cap F nm W3 wr k)(hF:g<F/\F<W3.heap.size)(hL:Lo g a len (S0 g) F)(I:k<=10)(A:GA)(hA:A.size<=1000)(U:Option Addr)(J Y:Nat)(hy:DO wr F 1 (.slice U J Y))(P2:Obj):
  ∀w6 s w7,s.size<=1->Dr g a len cap (S0 g) (wr.drew.alloc P2) w6->Bl w6 w7->∃va vn vc w8,(Builtin.append_ #[94,94] 94 #[.slice U J Y,rV w7.heap.size 1 1]).run prog (w7.alloc (.cells #[sV (s++A)] 9))=.ok (.slice va vn vc) w8/\(DO w6 F 1 (.slice U J Y)/\DO w7 F 1 (.slice U J Y)/\DO (w7.alloc (.cells #[sV (s++A)] 9)) F 1 (.slice U J Y))/\DO w8 F 1 (.slice U J Y)/\D4 w8 F 1/\PI g a len cap F nm W3 (w8.setCell ⟨F,1,none⟩ (.slice va vn vc)) (k+1):=by
 intro w6 s w7 hs hd hb;obtain⟨Jn,ht,Jm,Jo,Jl,ps,Z,ho,Jh,Jk⟩:=h;have e:=(Z 1 _ rfl).1;rw[hy]at e;simp only[GD]at e;rw[<-e]at Z ho;have Jb:F<wr.heap.size:=l_ hF.2 ht.size;have nF:¬S0 g F:=λe=>by have:F=g:=e;omega
 have t6:ak (S0 g) wr w6:=(((ak.refl (S0 g) wr).drew).alloc P2).trans hd.tcs;have t7:ak (S0 g) wr w7:=t6.of_below hb;have Ja:ak (S0 g) wr (w7.alloc (.cells #[sV (s++A)] 9)):=t7.alloc _;have f6:=Z.tcs Jb t6 nF;have f7:=Z.tcs Jb t7 nF;have Jd:=Z.tcs Jb Ja nF;have Ji:∀k,S0 g k->k<W3.heap.size:=λk I=>by have:k=g:=I;omega
 have o7:=aN ho Ja Ji;obtain⟨i0,hi,Je,Jf,Jg⟩:=info_parts gy;have Jc:(w7.alloc (.cells #[sV (s++A)] 9)).ownsRow w7.heap.size 9 1 (rV w7.heap.size 1 1) 1 [sV (s++A)]:=ownsRow_lit w7 #[sV (s++A)] 1 n_ d_ rfl;obtain⟨v8,w8,r8,o8,g8,-⟩:=cE (P:=prog) (w:=w7.alloc (.cells #[sV (s++A)] 9)) W3.heap.size 94 94 9 i0 _ 1 16 underlying94 hi Je Jf Jg rfl d_ (.slice U J Y) _ _ o7 (some ⟨w7.heap.size,0,none⟩) 1 1 [sV (s++A)] (λe=>by cases e) rfl (λad had j u hu=>by cases had;exact ownsRow.cells Jc (g:=w7.heap.size) rfl j u hu) (λu hu=>by simp at hu;subst hu;rfl) o_ d_ (t_ ht.size Ja.size);obtain⟨va,vc,rfl,-⟩:=aI o8;have t8:ak (λk=>W3.heap.size<=k) (w7.alloc (.cells #[sV (s++A)] 9)) w8:=ak.of_grown g8 (λk I=>(ownsRow.lt o7 k I).1);have Jj:F<(w7.alloc (.cells #[sV (s++A)] 9)).heap.size:=l_ Jb Ja.size;have f8:=Jd.tcs Jj t8 o_;refine⟨va,_,vc,w8,r8,⟨(f6 1 _ rfl).1,(f7 1 _ rfl).1,(Jd 1 _ rfl).1⟩,(f8 1 _ rfl).1,(f8 1 _ rfl).2,?_,?_,va,ps.length+1,vc,ps++[s++A],?_,?_,by simp[Jh],λx hx=>?_⟩
 ·have c8:dS g a len cap w8:=((hd.cur.below hb).alloc _).new (hL.mono (Nat.le_of_lt hF.2)) t8 (λk I=>I);exact c8.keep ((ak.refl (λk=>k=F) w8).setCell (p:=⟨F,1,none⟩) rfl _) o_ (λb off x y e=>by have:=(hL.by8 b off x y).1;omega)
 ·refine((ht.trans (Ja.mono λk I=>.inl I)).next t8 (λk I=>.inr I)).setCell (p:=⟨F,1,none⟩) (.inr rfl) _
 ·exact f8.set 1 _
 ·have e1:(ps++[s++A]).length=ps.length+1:=i_
  have e2:(ps++[s++A]).map Value.string=ps.map Value.string++[sV (s++A)]:=i_;rw[e1,e2];refine aN o8 ((ak.refl (λk=>k=F) w8).setCell (p:=⟨F,1,none⟩) rfl _) (λk I=>by omega)
 ·rcases GJ.1 hx with hx|hx
  ·exact Jk x hx
  ·simp only[GM]at hx;subst hx;rw[zQ];omega
def S5(g T q F I:Nat)(v:BY):D6:=λk=>k=g∨k=T∨k=q∨k=F∨k=I∨v.ownBlock=some k
def BB{I:Nat}{J:AT}{U:BY}{ca pa:Option Addr}{cn Z pn pc:Nat}{ps:List Int} 
  (Jf:∀W,ak (Sv (Sx g T q) U) wr W->a_ W (.slice ca cn Z) cs/\Ints W (.slice pa pn pc) ps) (hl:ps.length=cs.length/\cs.length<=4) (Je:(∀x∈ps,0<=x/\x<=6)/\∀x∈cs,x.size<=100000)
  (hb:Bl wr W3) (hF:F=wr.heap.size) (hI:I=wr.heap.size+1) (hs:W3.heap.size=wr.heap.size+2) (Ji:aK W3 I [.slice ca cn Z,.slice pa pn pc,nV,nV,V 0]) (Jj:∀j,D4 W3 I j)
  (Jh:dS g a len cap J) (ht:ak (λb=>b=g∨b=F) W3 J) (ho:J.ownsRow W3.heap.size 9 1 (.slice px pm py) qs.length (qs.map Value.string)) (Jn:qs.length<=6) (Jg:∀x∈qs,x.size<=100000)
  (Jl:g<T/\T<wr.heap.size/\g<q/\q<wr.heap.size) (hL:Lo g a len (S0 g) T) (Jm:T<q) (hv:∀k,U.ownBlock=some k->q<k/\k<wr.heap.size):
  GS g a len cap I (S5 g T q F I U) (J.setCell ⟨I,2,none⟩ (.slice px pm py)) ⟨.slice ca cn Z,.slice pa pn pc,.slice px pm py,nV,0,cs,ps,qs,[]⟩ 10/\aK J I [.slice ca cn Z,.slice pa pn pc,nV,nV,V 0]:=by
 have Jd:aK J I [.slice ca cn Z,.slice pa pn pc,nV,nV,V 0]:=Ji.tcs o_ ht (λe=>by rcases e with e|e <;> omega);have Jk:=ht.size;have h5:∀k,S5 g T q F I U k->k<W3.heap.size:=λk hk=>by
  rcases hk with h|h|h|h|h|h
  ·omega
  ·omega
  ·omega
  ·omega
  ·omega
  ·have:=(hv k h).2;omega
 refine⟨?_,Jd⟩;have Jb:ak (S5 g T q F I U) J (J.setCell ⟨I,2,none⟩ (.slice px pm py)):=(ak.refl _ _).setCell (p:=⟨I,2,none⟩) (.inr (.inr (.inr (.inr (.inl rfl))))) _;have Y:=Jd.set 2 (.slice px pm py);refine⟨?_,⟨(Y 0 _ rfl).1,(Y 1 _ rfl).1,(Y 2 _ rfl).1,(Y 3 _ rfl).1,(Y 4 _ rfl).1,λj=>?_⟩,fh.tcs (w:=J) ?_ Jb,⟨?_,.inl rfl,λb off x y=>?_,λk hk=>?_⟩,.inr (.inr (.inr (.inr (.inl rfl)))),o_⟩
 ·exact Jh.keep ((ak.refl (λk=>k=I) J).setCell (p:=⟨I,2,none⟩) rfl _) o_ (λb off x y e=>by have:=(hL.by8 b off x y).1;omega)
 ·rw[frozen?_setCell];exact(frozen?_of_block (a:=⟨I,j,none⟩) (ht.block I o_ (λe=>by rcases e with e|e <;> omega))).trans (Jj j)
 ·have Jc:∀W,ak (S5 g T q F I U) J W->ak (Sv (Sx g T q) U) wr W:=λW hW=>by
   have h1:ak (Sv (Sx g T q) U) wr J:=(hb.tcs (S:=Sv (Sx g T q) U)).next ht (λk hk=>by
    rcases hk with hk|hk
    ·exact .inl (.inl (.inl hk))
    ·exact .inr o_)
   refine h1.next hW λk hk=>?_;rcases hk with h|h|h|h|h|h
   ·exact .inl (.inl (.inl h))
   ·exact .inl (.inl (.inr (.inl h)))
   ·exact .inl (.inl (.inr (.inr h)))
   ·exact .inr o_
   ·exact .inr o_
   ·exact .inl (.inr h)
  exact⟨λW hW=>(Jf W (Jc W hW)).1,λW hW=>(Jf W (Jc W hW)).2,λW hW=>fV (aN ho hW h5),λW _=>⟨none,0,rfl,n_,o_,λh=>absurd h (Nat.lt_irrefl _)⟩,hl.1,by show cs.length<=10;omega,Je.1,⟨Je.2,Jg,λx hx=>by cases hx⟩,by show qs.length<=10;omega,y_,by show(0:Int)<=0/\(0:Int)<=10;omega⟩
 ·have:(J.setCell ⟨I,2,none⟩ (.slice px pm py)).heap.size=J.heap.size:=by simp
  omega
 ·have h8:=hL.by8 b off x y;have:(J.setCell ⟨I,2,none⟩ (.slice px pm py)).heap.size=J.heap.size:=i_
  refine⟨o_,λe=>?_⟩;rcases e with h|h|h|h|h|h
  ·exact h8.2 h
  ·omega
  ·omega
  ·omega
  ·omega
  ·have:=(hv b h).1;omega
 ·have:(J.setCell ⟨I,2,none⟩ (.slice px pm py)).heap.size=J.heap.size:=by simp
  have:=h5 k hk
  omega
def GS.side{S:D6}{w:AT}{G:Gn}{K:Nat}(h:GS g a len cap q S w G K){o:Nat}{v:BY}(J:S b)(Y:b≠g)(U:b≠q):GS g a len cap q S (w.setCell ⟨b,o,none⟩ v) G K:=by
 have I:ak (λk=>k=b) w (w.setCell ⟨b,o,none⟩ v):=(ak.refl (λk=>k=b) w).setCell (p:=⟨b,o,none⟩) rfl v;exact⟨h.cur.keep I (λe=>Y e.symm) (λb' off x y e=>(h.lo.by8 b' off x y).2 (e ▸ J)),h.box.keep (I.block q h.box.lt (λe=>U e.symm)),h.ok.tcs (I.mono λk hk=>hk ▸ J),h.lo.mono I.size,h.sq,h.ne⟩
def wJ{Jl:BY}{h:AT}{Rb:List SV}(hf:aK h F [sV nm,Jl,.slice ba bn bc])(hr:SR B h (.slice ba bn bc) Rb L)(hB:F<B/\B<=h.heap.size)(hg:g<F)(hL:Lo g a len (S0 g) F)(Jt:L<=1000):
  ∀w14 ua un uc ns,aV h.heap.size w14 (.slice ua un uc) ns->bV ns 400->Dr g a len cap (S0 g) h.drew w14->∃va vn vc w15,(Builtin.append_ #[95,95] 95 #[.slice ba bn bc,rV w14.heap.size 1 1]).run prog (w14.alloc (.cells #[V 6,sV ⟨#[]⟩,.slice ua un uc,nV,V 0,V 0] 132))=.ok (.slice va vn vc) w15/\(DO w14 F 2 (.slice ba bn bc)/\DO (w14.alloc (.cells #[V 6,sV ⟨#[]⟩,.slice ua un uc,nV,V 0,V 0] 132)) F 2 (.slice ba bn bc))/\DO w15 F 2 (.slice ba bn bc)/\D4 w15 F 2/\(∃R',SR B (w15.setCell ⟨F,2,none⟩ (.slice va vn vc)) (.slice va vn vc) R' (L+1)/\R'.length=Rb.length+1)/\aK (w15.setCell ⟨F,2,none⟩ (.slice va vn vc)) F [sV nm,Jl,.slice va vn vc]/\dS g a len cap (w15.setCell ⟨F,2,none⟩ (.slice va vn vc))/\ak (λb=>b=g∨b=F∨B<=b) h (w15.setCell ⟨F,2,none⟩ (.slice va vn vc)):=by
 intro w14 ua un uc ns hn ho hd;have nF:¬S0 g F:=λe=>by have:F=g:=e;omega
 have Jm:F<h.heap.size:=o_;have Jr:∀k,S0 g k->k<B:=λk hk=>by have:k=g:=hk;omega
 have I:ak (S0 g) h w14:=((ak.refl (S0 g) h).drew).trans hd.tcs;have Jj:=hf.tcs Jm I nF;obtain⟨o,Js⟩:∃o:Obj,o=.cells #[V 6,sV ⟨#[]⟩,.slice ua un uc,nV,V 0,V 0] 132:=⟨_,rfl⟩;have Je:=Jj.below ((Below.refl w14.heap.size w14).alloc n_ o);have Ji:=(hr.tcs I Jr).below ((Below.refl w14.heap.size w14).alloc n_ o);have J:=kl (w:=w14) (B:=h.heap.size) (kd:=6) (th:=0) (el:=0) (nm:=⟨#[]⟩) (vf:=nV) (f:=[]) I.size (cO hn n_) (λW _=>aX W) (ho.e3 o_) (bV.nil.more y_) d_;rw[<-Js]at J⊢;have Jg:B<=(w14.alloc o).heap.size:=by have:=I.size;simp;omega
 obtain⟨Jn,w15,Jo,Jk,Jp,-⟩:=jk 95 Ji J Jg o_ (iX J hB.2 (λk hk=>(hr.rng k hk).2));obtain⟨va,vn,vc,rfl⟩:∃x y z,Jn=.slice x y z:=by obtain⟨x,y,e⟩:=Jk.shape;exact⟨x,_,y,e⟩
 have Z:ak (λk=>B<=k) (w14.alloc o) w15:=Jp.mono λk hk=>(hr.rng k hk).1;have Jf:F<(w14.alloc o).heap.size:=o_
 have Y:=Je.tcs Jf Z o_;have U:ak (λk=>k=F) w15 (w15.setCell ⟨F,2,none⟩ (.slice va vn vc)):=(ak.refl (λk=>k=F) w15).setCell (p:=⟨F,2,none⟩) rfl _;refine⟨va,vn,vc,w15,Jo,⟨(Jj 2 _ rfl).1,(Je 2 _ rfl).1⟩,(Y 2 _ rfl).1,(Y 2 _ rfl).2,⟨_,Jk.tcs U (λk hk=>by omega),i_⟩,Y.set 2 _,?_,?_⟩
 ·have Jq:dS g a len cap w15:=(hd.cur.alloc o).new (hL.mono o_) Z (λk hk=>hk);exact Jq.keep U o_ (λb off x y e=>by have:=(hL.by8 b off x y).1;omega)
 ·exact((((I.mono λk hk=>.inl hk).alloc o).trans (Z.mono λk hk=>.inr (.inr hk)))).trans (U.mono λk hk=>.inr (.inl hk))
def oz{Bp M:Nat}{vG:BY}{U:Option Addr}{Z Y:Nat}{I:AT}{Q:List FV}{R':List SV} 
  (hT:aK I T [vG,.slice U Z Y]) (hF:aK I F [sV nm,.slice px pm py,.slice ba bn bc]) (Jl:FR (λk=>k<M) M I (.slice U Z Y) Q) (hQ:Q.length<=10) (Jt:dS g a len cap I) (Js:g<T/\T<M/\M<=I.heap.size/\M<=F/\F<I.heap.size) (hL:Lo g a len (S0 g) T)
  (hp:∀W,ak (λb=>b<Bp) I W->a_ W (.slice px pm py) qs) (Jv:M<=Bp) (hq:qs.length<=6/\∀x∈qs,x.size<=100000) (hn:nm.size<=100000) (hr:SR B I (.slice ba bn bc) R' L) (Jw:1<=R'.length/\L<=1000) (Ju:M<=B) (Jh:∀k,(Value.slice U Z Y).ownBlock=some k->k<B/\k<Bp/\k≠F):
  ∃va vn vc w17,(Builtin.append_ #[32,32] 32 #[.slice U Z Y,rV I.heap.size 1 1]).run prog (I.alloc (.cells #[sV nm,.slice px pm py,.slice ba bn bc] 97))=.ok (.slice va vn vc) w17/\(DO w17 T 1 (.slice U Z Y)/\D4 w17 T 1)/\aK (w17.setCell ⟨T,1,none⟩ (.slice va vn vc)) T [vG,.slice va vn vc]/\aK (w17.setCell ⟨T,1,none⟩ (.slice va vn vc)) F [sV nm,.slice px pm py,.slice ba bn bc]/\(∃Q',FR (λk=>k<M) M (w17.setCell ⟨T,1,none⟩ (.slice va vn vc)) (.slice va vn vc) Q'/\Q'.length=Q.length+1)/\dS g a len cap (w17.setCell ⟨T,1,none⟩ (.slice va vn vc))/\(∀W,ak (λb=>b=T∨(Value.slice va vn vc).ownBlock=some b) (w17.setCell ⟨T,1,none⟩ (.slice va vn vc)) W->ak (λb=>b=T∨(Value.slice U Z Y).ownBlock=some b) I W)/\ak (λb=>b=T∨(Value.slice U Z Y).ownBlock=some b) I (w17.setCell ⟨T,1,none⟩ (.slice va vn vc)):=by
 obtain⟨o,Jk⟩:∃o:Obj,o=.cells #[sV nm,.slice px pm py,.slice ba bn bc] 97:=⟨_,rfl⟩;have J:Bl I (I.alloc o):=au _ _;have hc:aK (I.alloc o) I.heap.size [sV nm,.slice px pm py,.slice ba bn bc]:=by rw[Jk];exact aH I _ _ i_
 have Jg:∀W,ak (λk=>k<M∨(Value.slice U Z Y).ownBlock=some k) (I.alloc o) W->Cv [⟨⟨nm,qs,R'.map (·.s)⟩,.slice px pm py,.slice ba bn bc,R',[],[]⟩] W:=λW hW x hx=>by
  simp only[GM]at hx;subst hx;have Jp:ak (λb=>b<B) I W:=(J.tcs (S:=λb=>b<B)).trans (hW.mono λk hk=>by
   rcases hk with hk|hk
   ·omega
   ·have:=Jh k hk;omega)
  have Jm:ak (λb=>b<Bp) I W:=(J.tcs (S:=λb=>b<Bp)).trans (hW.mono λk hk=>by
   rcases hk with hk|hk
   ·omega
   ·have:=Jh k hk;omega)
  exact⟨hp W Jm,hr.rd W Jp,rfl⟩
 have Jq:sT ⟨nm,qs,R'.map (·.s)⟩:=⟨hn,by show qs.length<=20;omega,hq.2,by show 1<=(R'.map (·.s)).length;simp;omega,by show(R'.map (·.s)).length<=10000;have:=hr.len;simp;omega,hr.ok.body⟩;obtain⟨Jr,w17,Ji,Jj,Jd,Jo⟩:=zN 32 (c:=1) (m:=1) (Jl.below J) (some ⟨I.heap.size,0,none⟩) (Q2:=[⟨⟨nm,qs,R'.map (·.s)⟩,.slice px pm py,.slice ba bn bc,R',[],[]⟩]) rfl (λe=>by cases e) (λad had j u hu=>by
  cases had
  rw[em,Nat.zero_add];exact(hc j u hu).1) (λx hx=>by simp only[GM]at hx;subst hx;exact⟨rfl,rfl⟩) (λx hx=>by simp only[GM]at hx;subst hx;exact Jq) Jg ZFs (Ft J.size)
 obtain⟨va,vn,vc,rfl⟩:∃x y z,Jr=.slice x y z:=by obtain⟨x,y,e⟩:=Jj.shape;exact⟨x,_,y,e⟩
 rw[Jk]at Ji;have Jc:ak (λk=>M<=k) (I.alloc o) w17:=Jd.mono λk hk=>(Jl.rng k hk).1;have Jb:=(hT.below J).tcs (Ft J.size) Jc o_;have Je:=(hF.below J).tcs (Ft J.size) Jd (λe=>(Jh F e).2.2 rfl);have tS:ak (λk=>k=T) w17 (w17.setCell ⟨T,1,none⟩ (.slice va vn vc)):=(ak.refl (λk=>k=T) w17).setCell (p:=⟨T,1,none⟩) rfl _;have Jf:F<w17.heap.size:=Fw J.size Jd.size
 have tA:ak (λb=>b=T∨(Value.slice U Z Y).ownBlock=some b) I (w17.setCell ⟨T,1,none⟩ (.slice va vn vc)):=((J.tcs (S:=λb=>b=T∨(Value.slice U Z Y).ownBlock=some b)).trans (Jd.mono λk hk=>.inr hk)).trans (tS.mono λk hk=>.inl hk);refine⟨va,vn,vc,w17,Ji,⟨(Jb 1 _ rfl).1,(Jb 1 _ rfl).2⟩,Jb.set 1 _,Je.tcs Jf tS o_,⟨_,Jj.tcs (tS.mono λk hk=>by omega) (λk hk=>hk),i_⟩,?_,λW hW=>?_,tA⟩
 ·have Jn:dS g a len cap w17:=(Jt.alloc o).new (hL.mono (Nat.le_of_lt Js.2.1)) Jc (λk hk=>hk);exact Jn.keep tS o_ (λb off x y e=>by have:=(hL.by8 b off x y).1;omega)
 ·refine tA.next hW λk hk=>?_;rcases hk with hk|hk
  ·exact .inl (.inl hk)
  ·rcases Jo k hk with h|h
   ·exact .inl (.inr h)
   ·exact .inr (Ft J.size)
def F7(g:Nat)(a:Option Addr)(len cap F B L r:Nat)(nm:GA)(par:BY)(W13 W:AT):Prop:=∃va vn vc R',aK W F [sV nm,par,.slice va vn vc]/\SR B W (.slice va vn vc) R' (L+1)/\R'.length=r+1/\dS g a len cap W/\ak (λb=>b=g∨b=F∨B<=b) W13 W
def EH(q:Nat)(W17:AT)(vp:BY)(cs:List GA)(W:AT):Prop:=∃xa xn xc,aK W q [.slice xa xn xc,vp,nV,nV,V 0]/\W.ownsRow W17.heap.size 9 1 (.slice xa xn xc) cs.length (cs.map Value.string)/\ak (λb=>b=q) W17 W
def BC{I h:AT}{Y Z:BY}{J:BY}(hq:aK I q [Y,Z,nV,nV,V 0])(hl:q<I.heap.size)(hb:Bl I h)(hr:h.ownsRow I.heap.size 9 1 J cs.length (cs.map Value.string)):∃xa xn xc,J=.slice xa xn xc/\(DO h q 0 Y/\D4 h q 0)/\EH q I Z cs (h.setCell ⟨q,0,none⟩ J):=by
 obtain⟨xa,xc,rfl,-⟩:=aI hr;have h2:=hq.below hb;have U:ak (λb=>b=q) h (h.setCell ⟨q,0,none⟩ (.slice xa cs.length xc)):=(ak.refl (λb=>b=q) h).setCell (p:=⟨q,0,none⟩) rfl _;exact⟨xa,_,xc,rfl,h2 0 _ rfl,xa,_,xc,h2.set 0 _,aN hr U (λk hk=>by omega),(hb.tcs (S:=λb=>b=q)).trans U⟩
def kq:(prog.info? 2).map (λi=>(i.zero,i.size,i.bytes))=some (some (V 0),1,8):=by kernel_rfl
theorem Dz(w:World)(v:Value)(I:List Int)(z:Int)(h:Ints w v I)(hl:I.length<=100000)(Z:TypeId):
  ∃v1 w1 a2 n2 c2 w2,(Builtin.append_ #[26,26] Z #[rV w.heap.size 0 0,v]).run prog (w.alloc (.cells #[] 2))=.ok v1 w1/\(Builtin.append_ #[26,26] Z #[v1,rV w1.heap.size 1 1]).run prog (w1.alloc (.cells #[V z] 2))=.ok (.slice a2 n2 c2) w2/\w2.ownsRow w.heap.size 2 1 (.slice a2 n2 c2) (I++[z]).length ((I++[z]).map (Value.int .i64))/\Below w.heap.size w w2:=by
 obtain⟨i0,hi,Jd,Je,Jf⟩:=info_parts kq;have Y:Bl w (w.alloc (.cells #[] 2)):=au _ _;have h0:(w.alloc (.cells #[] 2)).ownsRow w.heap.size 2 1 (rV w.heap.size 0 0) 0 []:=World.ownsRow_lit w #[] 0 n_ d_ rfl;obtain⟨a,c,rfl,hc⟩:=h.below Y;obtain⟨v1,w1,r1,o1,g1,-⟩:=cE (P:=prog) (w:=w.alloc (.cells #[] 2)) w.heap.size 26 Z 2 i0 _ 1 8 underlying26 hi Jd Je Jf rfl d_ _ 0 [] h0 a I.length c (I.map (Value.int .i64)) (λe=>by
  rcases Nat.eq_zero_or_pos I.length with h'|h'
  ·exact h'
  ·obtain⟨b,U,-⟩:=hc h';rw[e]at U;cases U) i_ (λad had j u hu=>by
  have J:j<I.length:=by have:=(List.getElem?_eq_some_iff.1 hu).1;simpa using this
  obtain⟨b,U,Ji⟩:=hc o_;rw[had]at U;cases U
  rw[em,Nat.zero_add];have:=Ji j J;rw[this];simp[List.getElem?_eq_getElem J]at hu;subst hu;rfl) (λu hu=>by obtain⟨x,-,rfl⟩:=List.mem_map.1 hu;rfl) o_ d_ Y.size
 have Jg:Bl w w1:=Y.grown g1 Y.size (λj J=>(World.ownsRow.lt h0 j J).1);have Jc:Bl w (w1.alloc (.cells #[V z] 2)):=Jg.alloc Jg.size _;have Jh:=ownB o1 ((Below.refl w1.heap.size w1).alloc n_ (.cells #[V z] 2));have Jb:(w1.alloc (.cells #[V z] 2)).ownsRow w1.heap.size 2 1 (rV w1.heap.size 1 1) 1 [V z]:=World.ownsRow_lit w1 #[V z] 1 n_ d_ rfl;obtain⟨v2,w2,r2,o2,g2,-⟩:=cE (P:=prog) (w:=w1.alloc (.cells #[V z] 2)) w.heap.size 26 Z 2 i0 _ 1 8 underlying26 hi Jd Je Jf rfl d_ v1 _ _ Jh (some ⟨w1.heap.size,0,none⟩) 1 1 [V z] (λe=>by cases e) rfl (λad had j u hu=>by cases had;exact World.ownsRow.cells Jb (g:=w1.heap.size) rfl j u hu) (λu hu=>by simp at hu;subst hu;rfl) o_ d_ Jc.size;obtain⟨a2,c2,rfl,-⟩:=aI o2;refine⟨v1,w1,a2,_,c2,w2,r1,r2,?_,Jc.grown g2 Jc.size (λj J=>(World.ownsRow.lt Jh j J).1)⟩;have e1:(I++[z]).length=0+I.length+1:=i_;have e2:(I++[z]).map (Value.int .i64)=[]++I.map (Value.int .i64)++[V z]:=i_;rw[e1,e2];exact o2
end
section
variable{g len cap T M:Nat}{a:Option Addr}
def S4(g T q I:Nat)(v:BY):D6:=λk=>k=g∨k=T∨k=q∨k=I∨v.ownBlock=some k
def BD{q:Nat}{wr:AT}{I:BY}{U pa:Option Addr}{Y J Z pc:Nat}{cs:List GA}{ps:List Int} 
  (Jd:∀W,ak (Sv (Sx g T q) I) wr W->a_ W (.slice U Y J) cs/\Ints W (.slice pa Z pc) ps) (hl:ps.length=cs.length/\cs.length<=4) (Jc:(∀x∈ps,0<=x/\x<=6)/\∀x∈cs,x.size<=100000)
  (Je:dS g a len cap wr) (Jf:g<T/\T<wr.heap.size/\g<q/\q<wr.heap.size) (hL:Lo g a len (S0 g) T) (Jg:T<q) (hv:∀k,I.ownBlock=some k->q<k/\k<wr.heap.size):
  GS g a len cap wr.heap.size (S4 g T q wr.heap.size I) (wr.alloc (.cells #[.slice U Y J,.slice pa Z pc,nV,nV,V 0] 174)) ⟨.slice U Y J,.slice pa Z pc,nV,nV,0,cs,ps,[],[]⟩ 10:=by
 have hf:=aH wr #[.slice U Y J,.slice pa Z pc,nV,nV,V 0] 174 i_;have hs:(wr.alloc (.cells #[.slice U Y J,.slice pa Z pc,nV,nV,V 0] 174)).heap.size=wr.heap.size+1:=i_;refine⟨Je.alloc _,⟨(hf 0 _ rfl).1,(hf 1 _ rfl).1,(hf 2 _ rfl).1,(hf 3 _ rfl).1,(hf 4 _ rfl).1,λj=>by simp⟩,?_,⟨o_,.inl rfl,λb off x y=>?_,λk hk=>?_⟩,.inr (.inr (.inr (.inl rfl))),o_⟩
 ·have Ja:∀W,ak (S4 g T q wr.heap.size I) (wr.alloc (.cells #[.slice U Y J,.slice pa Z pc,nV,nV,V 0] 174)) W->ak (Sv (Sx g T q) I) wr W:=λW hW=>((ak.refl (Sv (Sx g T q) I) wr).alloc _).next hW λk hk=>by
   rcases hk with h|h|h|h|h
   ·exact .inl (.inl (.inl h))
   ·exact .inl (.inl (.inr (.inl h)))
   ·exact .inl (.inl (.inr (.inr h)))
   ·exact .inr o_
   ·exact .inl (.inr h)
  have Jb:∀W,a_ W nV []:=λW=>⟨none,0,rfl,n_,o_,λh=>absurd h (Nat.lt_irrefl _)⟩;exact⟨λW hW=>(Jd W (Ja W hW)).1,λW hW=>(Jd W (Ja W hW)).2,λW _=>Jb W,λW _=>Jb W,hl.1,by show cs.length<=10;omega,Jc.1,⟨Jc.2,(λx hx=>by cases hx),(λx hx=>by cases hx)⟩,y_,y_,by show(0:Int)<=0/\(0:Int)<=10;omega⟩
 ·have h8:=hL.by8 b off x y;refine⟨o_,λe=>?_⟩;rcases e with h|h|h|h|h
  ·exact h8.2 h
  ·omega
  ·omega
  ·omega
  ·have:=(hv b h).1;omega
 ·rcases hk with h|h|h|h|h
  ·omega
  ·omega
  ·omega
  ·omega
  ·have:=(hv k h).2;omega
def sY{B:Nat}{nm:GA}{vG:BY}{Y ba:Option Addr}{fn Z bn bc:Nat}{I:AT}{Q:List FV}{U:List SV}{L:Nat} 
  (hT:aK I T [vG,.slice Y fn Z]) (Je:FR (λk=>k<M) M I (.slice Y fn Z) Q) (hQ:Q.length<=10) (Js:dS g a len cap I) (Jr:g<T/\T<M/\M<=I.heap.size) (hL:Lo g a len (S0 g) T) (hn:nm.size<=100000) (hr:SR B I (.slice ba bn bc) U L) (Jv:1<=U.length/\L<=1000) (Ju:M<=B):
  ∃va vn vc w17,(Builtin.append_ #[32,32] 32 #[rV I.heap.size 1 1,.slice Y fn Z]).run prog (I.alloc (.cells #[sV nm,nV,.slice ba bn bc] 97))=.ok (.slice va vn vc) w17/\(DO w17 T 1 (.slice Y fn Z)/\D4 w17 T 1)/\aK (w17.setCell ⟨T,1,none⟩ (.slice va vn vc)) T [vG,.slice va vn vc]/\(∃Q',FR (λk=>k<M) M (w17.setCell ⟨T,1,none⟩ (.slice va vn vc)) (.slice va vn vc) Q'/\Q'.length=Q.length+1)/\dS g a len cap (w17.setCell ⟨T,1,none⟩ (.slice va vn vc))/\ak (λb=>b=T) I (w17.setCell ⟨T,1,none⟩ (.slice va vn vc)):=by
 obtain⟨o,Jj⟩:∃o:Obj,o=.cells #[sV nm,nV,.slice ba bn bc] 97:=⟨_,rfl⟩;have J:Bl I (I.alloc o):=au _ _;have Jo:sT ⟨nm,[],U.map (·.s)⟩:=⟨hn,by show(0:Nat)<=20;omega,(λp hp=>by cases hp),by show 1<=(U.map (·.s)).length;simp;omega,by show(U.map (·.s)).length<=10000;have:=hr.len;simp;omega,hr.ok.body⟩;have Jd:FR (λk=>k<M) M (I.alloc o) (rV I.heap.size 1 1) [⟨⟨nm,[],U.map (·.s)⟩,nV,.slice ba bn bc,U,[],[]⟩]:=by
  refine⟨⟨?_,λW hW x hx=>?_⟩,λx hx=>by simp only[GM]at hx;subst hx;exact Jo⟩
  ·rw[Jj];exact ownsRow_lit I #[sV nm,nV,.slice ba bn bc] 1 Jr.2.2 d_ rfl
  ·simp only[GM]at hx;subst hx;have Jn:ak (λb=>b<B) I W:=(J.tcs (S:=λb=>b<B)).next hW λk hk=>by
    rcases hk with hk|hk
    ·exact .inl o_
    ·simp only[ownBlock,GD]at hk;exact .inr o_
   exact⟨⟨none,0,rfl,n_,o_,λh=>absurd h (Nat.lt_irrefl _)⟩,hr.rd W Jn,rfl⟩
 have Jf:=Je.below J;obtain⟨a',c',he,Jq,Jm⟩:=aI Jf.row.row;simp only[Value.slice.injEq]at he;obtain⟨rfl,Ji,rfl⟩:=he;obtain⟨Jp,w17,Jg,Jh,Jl,Jt⟩:=zN 32 (c:=Z) (m:=fn) Jd Y (Q2:=Q) Ji (λe=>by rw[Ji];exact Jq e) Jm (λx hx=>by
  obtain⟨e1,e2,-⟩:=Jf.row.now x hx;obtain⟨_,_,e1,-⟩:=e1;exact⟨by rw[e1];rfl,e2.one⟩) Je.ok (λW hW=>Je.row.st W ((J.tcs (S:=λk=>k<M∨(Value.slice Y fn Z).ownBlock=some k)).next hW λk hk=>by
   rcases hk with hk|hk
   ·exact .inl (.inl hk)
   ·simp only[ownBlock,GD]at hk;exact .inr o_)) ZFs (Ft J.size)
 obtain⟨va,vn,vc,rfl⟩:∃x y z,Jp=.slice x y z:=by obtain⟨x,y,e⟩:=Jh.shape;exact⟨x,_,y,e⟩
 rw[Jj]at Jg;have Jc:ak (λk=>I.heap.size<=k) (I.alloc o) w17:=Jl.mono λk hk=>by simp only[ownBlock,GD]at hk;omega
 have Jb:=(hT.below J).tcs (Ft J.size) Jc o_;have tS:ak (λk=>k=T) w17 (w17.setCell ⟨T,1,none⟩ (.slice va vn vc)):=(ak.refl (λk=>k=T) w17).setCell (p:=⟨T,1,none⟩) rfl _;refine⟨va,vn,vc,w17,Jg,⟨(Jb 1 _ rfl).1,(Jb 1 _ rfl).2⟩,Jb.set 1 _,⟨_,Jh.tcs (tS.mono λk hk=>by omega) (λk hk=>hk),i_⟩,?_,?_⟩
 ·have Jk:dS g a len cap w17:=(Js.alloc o).new (hL.mono o_) Jc (λk hk=>hk);exact Jk.keep tS o_ (λb off x y e=>by have:=(hL.by8 b off x y).1;omega)
 ·exact((J.tcs (S:=λb=>b=T)).next Jc (λk hk=>.inr hk)).trans tS
def DA{J:Nat}{w W2 W:AT}{va:Option Addr}{vn vc:Nat}{h:List FV}(hg:aK W J mz)(Jd:w.heap.size<=J/\J<W.heap.size)(Y:FR (λk=>k<M) M W (.slice va vn vc) h)(hM:w.heap.size<=M)(hQ:1<=h.length/\h.length<=20):∃t,TD (λk=>k<w.heap.size) W (rV J 4 4) (.slice va vn vc) t:=by
 refine⟨⟨globs4,h.map (λq:FV=>q.f)⟩,λW' hW=>zO (hg.tcs Jd.2 hW o_),?fs,⟨(by decide:1<=globs4.length),(by decide:globs4.length<=20)⟩,?_,⟨by simp;omega,by simp;omega⟩,?_⟩
 case fs=>
  have U:=Y.row.row;rcases U.2 with⟨-,hz⟩|⟨b,Jc,Je,e,h3,h4,h5⟩
  ·omega
  ·obtain⟨q1,q2,-⟩:=h5;unfold maxLen at q2;refine⟨b,0,Jc,h,e,q1,q2,rfl,λW' hW=>?_⟩;have Z:ak (λk=>k<M) W W':=hW.mono λk hk=>by omega
   refine⟨λj u hu=>?_,Y.row.st W' (Z.mono λk hk=>.inl hk)⟩;rw[e]at U;have:=ownsRow.cells (aN U Z (λk hk=>hk)) (g:=b) rfl j u hu
   rwa[em]at this
 ·intro x I;simp only[globs4,mem_cons,not_mem_nil,or_false]at I;rcases I with rfl|rfl|rfl|rfl <;> decide
 ·intro f hf;obtain⟨x,I,rfl⟩:=mem_map.1 hf;exact Y.ok x I
end
section
variable{R:List SV}{S:D6}{B b n cap:Nat}{w w':AT}{v:BY}{Q:List FV}
theorem oA:∀(R:List SV) (i c:Nat) (u:BY) (x':SV) (hi:i<R.length),c<6->cH x'=(cH R[i]).set c u->db (R.set i x')=(db R).set (i*6+c) u
 | x::l,0,c,u,x',_,hc,hx=>by
  have h6:(cH x).length=6:=rfl;show cH x'++db l=(cH x++db l).set (0*6+c) u;rw[set_append_left _ _ o_];have:cH x'=(cH x).set c u:=hx;rw[this];simp
 | x::l,i+1,c,u,x',hi,hc,hx=>by
  have h6:(cH x).length=6:=rfl;show cH x++db (l.set i x')=(cH x++db l).set ((i+1)*6+c) u;rw[set_append_right _ _ o_,oA l i c u x' (Fc hi) hc hx];congr 2;omega
theorem oB:∀(Q:List FV) (i c:Nat) (u:BY) (x':FV) (hi:i<Q.length),c<3->cd x'=(cd Q[i]).set c u->cq (Q.set i x')=(cq Q).set (i*3+c) u
 | x::l,0,c,u,x',_,hc,hx=>by
  have h6:(cd x).length=3:=rfl;show cd x'++cq l=(cd x++cq l).set (0*3+c) u;rw[set_append_left _ _ o_];have:cd x'=(cd x).set c u:=hx;rw[this];simp
 | x::l,i+1,c,u,x',hi,hc,hx=>by
  have h6:(cd x).length=3:=rfl;show cd x++cq (l.set i x')=(cd x++cq l).set ((i+1)*3+c) u;rw[set_append_right _ _ o_,oB l i c u x' (Fc hi) hc hx];congr 2;omega
def EI(R:List SV):Prop:=∀x∈R,bV x.s.e 5000/\bV x.s.f 5000/\x.s.name.size<=100000
def EG.two(h:EG R):EI R:=λx hx=>⟨(h x hx).1.more o_,(h x hx).2.1.more o_,(h x hx).2.2⟩
structure sZ (f:Fu):Prop where
 nm:f.name.size<=100000
 pl:f.params.length<=30
 pn:∀p∈f.params,p.size<=100000
 bu:f.body.length<=20000
 st:∀s∈f.body,bV s.e 5000/\bV s.f 5000/\s.name.size<=100000
def sT.two{f:Fu}(h:sT f):sZ f:=⟨h.nm,Ft h.pl,h.pn,Ft h.bu,λs hs=>⟨(h.st s hs).1.more o_,(h.st s hs).2.1.more o_,(h.st s hs).2.2⟩⟩
structure BR (S:D6) (B:Nat) (w:AT) (v:BY) (R:List SV):Prop where
 row:fx 132 6 S B w v R.length (db R) (AZ R)
 ok:EI R
def BR.below(h:BR S B w v R)(hb:Bl w w'):BR S B w' v R:=⟨h.row.below hb,h.ok⟩
def BR.rng(h:BR S B w v R):∀k,v.ownBlock=some k->B<=k/\k<w.heap.size:=λk hk=>ownsRow.lt h.row.row k hk
def BR.put(h:BR S B w (rV b n cap) R)(i c:Nat)(u:BY)(I:SV)(hi:i<R.length)(hc:c<6)(hx:cH I=(cH R[i]).set c u)(hp:∀W,ak (λk=>S k∨k=b) w W->aw W I.ve I.s.e/\aw W I.vf I.s.f)(ho:bV I.s.e 5000/\bV I.s.f 5000/\I.s.name.size<=100000):
  BR S B (w.setCell ⟨b,i*6+c,none⟩ u) (rV b n cap) (R.set i I):=by
 have Z:n=R.length:=by
  obtain⟨_,_,e,-⟩:=aI h.row.row;simp at e;exact e.2.1
 subst Z;have Y:=(h.row.row.stored (i*6+c) u).1;refine⟨⟨by rw[length_set,oA R i c u I hi hc hx];exact Y,λW hW x J=>?_⟩,λx J=>?_⟩
 ·have U:ak (λk=>S k∨k=b) w W:=((ak.refl (λk=>S k∨k=b) w).setCell (p:=⟨b,i*6+c,none⟩) (.inr rfl) u).trans (hW.mono λk hk=>hk.imp id λe=>by simp[ownBlock]at e;exact e.symm);rcases mem_or_eq_of_mem_set J with J|rfl
  ·exact h.row.st W (U.mono λk hk=>hk.imp id λe=>by rw[e];rfl) x J
  ·exact hp W U
 ·rcases mem_or_eq_of_mem_set J with J|rfl
  ·exact h.ok x J
  ·exact ho
structure F2 (S:D6) (B:Nat) (w:AT) (v:BY) (Q:List FV):Prop where
 row:fx 97 3 S B w v Q.length (cq Q) (Cv Q)
 ok:∀x∈Q,sZ x.f
def F2.tcs(h:F2 S B w v Q)(ht:ak S w w')(hS:∀k,S k->k<B):F2 S B w' v Q:=⟨h.row.tcs ht hS,h.ok⟩
def F2.less{S':D6}(h:F2 S B w v Q)(hs:∀k,S' k->S k):F2 S' B w v Q:=⟨h.row.less hs,h.ok⟩
def F2.rng(h:F2 S B w v Q):∀k,v.ownBlock=some k->B<=k/\k<w.heap.size:=λk hk=>ownsRow.lt h.row.row k hk
def F2.funcs(h:F2 S B w v Q)(hS:∀k,S k->k<B):∀W,ak S w W->bC W v (Q.map (λq:FV=>q.f)):=λW hW=>
 zM (aN h.row.row hW hS) (h.row.st W (hW.mono λk hk=>.inl hk))
def F2.put(h:F2 S B w (rV b n cap) Q)(i c:Nat)(u:BY)(I:FV)(hi:i<Q.length)(hc:c<3)(hx:cd I=(cd Q[i]).set c u)(hp:∀W,ak (λk=>S k∨k=b) w W->a_ W I.vp I.f.params/\zL W I.vb I.R/\I.R.map (·.s)=I.f.body)(ho:sZ I.f):
  F2 S B (w.setCell ⟨b,i*3+c,none⟩ u) (rV b n cap) (Q.set i I):=by
 have Z:n=Q.length:=by
  obtain⟨_,_,e,-⟩:=aI h.row.row;simp at e;exact e.2.1
 subst Z;have Y:=(h.row.row.stored (i*3+c) u).1;refine⟨⟨by rw[length_set,oB Q i c u I hi hc hx];exact Y,λW hW x J=>?_⟩,λx J=>?_⟩
 ·have U:ak (λk=>S k∨k=b) w W:=((ak.refl (λk=>S k∨k=b) w).setCell (p:=⟨b,i*3+c,none⟩) (.inr rfl) u).trans (hW.mono λk hk=>hk.imp id λe=>by simp[ownBlock]at e;exact e.symm);rcases mem_or_eq_of_mem_set J with J|rfl
  ·exact h.row.st W (U.mono λk hk=>hk.imp id λe=>by rw[e];rfl) x J
  ·exact hp W U
 ·rcases mem_or_eq_of_mem_set J with J|rfl
  ·exact h.ok x J
  ·exact ho
end
section
variable{S:D6}{w:AT}{vg vf:BY}{t:Tr}
structure TW (S:D6) (w:AT) (vg vf:BY) (t:Tr):Prop where
 gs:∀W,ak S w W->cK W vg t.globals
 fs:∀W,ak S w W->bC W vf t.funcs
 gl:t.globals.length<=30
 gn:∀x∈t.globals,x.name.size<=100000
 fl:t.funcs.length<=20
 fp:1<=t.funcs.length
 ok:∀f∈t.funcs,sZ f
def TD.tw(h:TD S w vg vf t):TW S w vg vf t:=⟨h.gs,h.funcs,Ft h.gl.2,h.gn,h.fl.2,h.fl.1,λf hf=>(h.ok f hf).two⟩
def TW.tcs{w':AT}(h:TW S w vg vf t)(ht:ak S w w'):TW S w' vg vf t:=⟨λW hW=>h.gs W (ht.trans hW),λW hW=>h.fs W (ht.trans hW),h.gl,h.gn,h.fl,h.fp,h.ok⟩
def TW.small(h:TW S w vg vf t):eZ t/\xQ t:=by
 refine⟨⟨Ft h.gl,Ft h.fl,λf hf=>?_⟩,⟨⟨Ft h.gl,λx hx=>Ft (h.gn x hx)⟩,⟨Ft h.fl,λf hf=>?_⟩⟩⟩
 ·have k:=h.ok f hf;refine⟨Ft k.pl,Ft k.bu,λs hs=>?_⟩;obtain⟨I,h2,-⟩:=k.st s hs;exact⟨Ft I.1,Ft h2.1⟩
 ·have k:=h.ok f hf;refine⟨Ft k.nm,⟨Ft k.pl,λp hp=>Ft (k.pn p hp)⟩,⟨Ft k.bu,λs hs=>?_⟩⟩;obtain⟨I,h2,h3⟩:=k.st s hs;exact⟨o_,⟨Ft I.1,λn hn=>Ft (I.2 n hn)⟩,⟨Ft h2.1,λn hn=>Ft (h2.2 n hn)⟩⟩
end
section
variable{T:GC}{sz B n:Nat}{S:D6}{w w':AT}{v:BY}{xs:List BY}
def fI(h:w.ownsRow B T sz v n xs)(Z:ak S w w')(hS:∀k,v.ownBlock=some k->¬S k):w'.ownsRow B T sz v n xs:=by
 obtain⟨I,h|⟨g,Y,J,rfl,U,h2,h3⟩⟩:=h
 ·exact⟨I,.inl h⟩
 ·exact⟨I,.inr ⟨g,Y,J,rfl,U,(Z.block g (Array.getElem?_eq_some_iff.1 h2).1 (hS g rfl)).trans h2,h3⟩⟩
def fx.past{S':D6}{P:AT->Prop}(h:fx T sz S B w v n xs P)(ht:ak S' w w')(hs:∀k,S' k->S k)(hn:∀k,v.ownBlock=some k->¬S' k):fx T sz S B w' v n xs P:=
 ⟨fI h.row ht hn,λW hW=>h.st W ((ht.mono λk hk=>.inl (hs k hk)).trans hW)⟩
structure CP (g M:Nat) (a:Option Addr) (len cap O R4 N fl:Nat) (w W:AT) (vb vg:BY) (bF cF:Nat) (gs:List Gl) (Q:List FV) (R:List SV):Prop where
 box:aK W O [vg,rV bF fl cF]
 res:aK W R4 [nV,nV]
 gr:GR N W vg gs
 fr:F2 (λk=>k<M∨k=R4) N W (rV bF fl cF) Q
 br:BR (λk=>k<M∨k=R4∨k=bF) N W vb R
 ln:Q.length=fl/\fl<=20/\gs.length<=30/\R.length<=20000
 gn:∀x∈gs,x.name.size<=100000
 cur:dS g a len cap W
 tcs:ak (S0 g) w W
 ne:O≠bF/\O≠R4/\(∀k,vg.ownBlock=some k->k≠bF)/\(∀k,vb.ownBlock=some k->k≠bF)
 lo:(g<M/\M<=w.heap.size)/\w.heap.size<=R4/\R4<N/\w.heap.size<=O
theorem wK{g M:Nat}{a:Option Addr}{len cap O R4 N fl:Nat}{W:World}{U vg:Value}{I J:Nat}{gs:List Gl}{Q:List FV}{R:List SV}(h:CP g M a len cap O R4 N fl w W U vg I J gs Q R)(hL:Lo g a len (S0 g) w.heap.size)(f:Nat)(hf:f<fl):
  (W.cell? ⟨O,1,none⟩=some (rV I fl J)/\(∃old,W.cell? ⟨I,f*3+2,none⟩=some old)/\W.frozen? ⟨I,f*3+2,none⟩=false)/\∃W1,W1=W.setCell ⟨I,f*3+2,none⟩ U/\aK W1 O [vg,rV I fl J]/\aK W1 R4 [nV,nV]/\∃W2,W2=(W1.setCell ⟨R4,0,none⟩ vg).setCell ⟨R4,1,none⟩ (rV I fl J)/\aK W2 R4 [vg,rV I fl J]/\(∃t,TW (λk=>k<M) W2 vg (rV I fl J) t)/\Dr g a len cap (S0 g) w W2:=by
 obtain⟨Jm,Js,Jn,Jj⟩:=h.ln;obtain⟨n1,n2,n3,n4⟩:=h.ne;obtain⟨l0,l1,l2,l3⟩:=h.lo;have Jt:=hL.gl;have Jr:=h.fr.rng I rfl;have Jd:f<Q.length:=o_;have Ja:W.ownsRow N 97 3 (rV I fl J) fl (cq Q):=by have:=h.fr.row.row;rw[Jm]at this;exact this
 have Jp:(cq Q).length=Q.length*3:=gz Q;refine⟨⟨(h.box 1 _ rfl).1,⟨(cq Q)[f*3+2]'(by omega),?_⟩,World.ownsRow.frozenAt Ja _⟩,_,rfl,?_⟩
 ·rw[World.ownsRow.cellAt Ja (f*3+2) o_];exact List.getElem?_eq_getElem _
 obtain⟨W1,Je⟩:=q_ (W.setCell ⟨I,f*3+2,none⟩ U);have Y:ak (λk=>k=I) W W1:=by rw[Je];exact(ak.refl (λk=>k=I) W).setCell (p:=⟨I,f*3+2,none⟩) rfl _
 have Jl:O<W.heap.size:=b_ (h.box 0 _ rfl).1;have Jc:R4<W.heap.size:=b_ (h.res 0 _ rfl).1;have Jk:=h.box.tcs Jl Y (λe=>n1 e);have Ji:=h.res.tcs Jc Y (λe=>by have e:R4=I:=e;omega);have hp:∀W',ak (λk=>(k<M∨k=R4)∨k=I) W W'->a_ W' Q[f].vp Q[f].f.params/\zL W' U R/\R.map (·.s)=R.map (·.s):=λW' hW'=>by
  refine⟨(h.fr.row.st W' (hW'.mono λk hk=>hk.imp id λe=>by rw[e];rfl) Q[f] (g_ Jd)).1,Cu (B:=N) (fI h.br.row.row hW' λk hk hs=>?_) (h.br.row.st W' (hW'.mono λk hk=>.inl ?_)),rfl⟩
  ·have:=(h.br.rng k hk).1
   have:=n4 k hk
   rcases hs with(e|e)|e <;> omega
  ·rcases hk with(e|e)|e
   ·exact .inl e
   ·exact .inr (.inl e)
   ·exact .inr (.inr e)
 have ho:sZ ⟨Q[f].f.name,Q[f].f.params,R.map (·.s)⟩:=by
  have k:=h.fr.ok Q[f] (g_ Jd);exact⟨k.nm,k.pl,k.pn,by show(R.map (·.s)).length<=20000;simpa using Jj,λs hs=>by obtain⟨x,hx,rfl⟩:=List.mem_map.1 hs;exact h.br.ok x hx⟩
 have Jh:=h.fr.put f 2 U ⟨⟨Q[f].f.name,Q[f].f.params,R.map (·.s)⟩,Q[f].vp,U,R,[],[]⟩ Jd o_ rfl hp ho;rw[<-Je]at Jh⊢;refine⟨Jk,Ji,_,rfl,?_⟩;obtain⟨W2,Jb⟩:=q_ ((W1.setCell ⟨R4,0,none⟩ vg).setCell ⟨R4,1,none⟩ (rV I fl J));have Z:ak (λk=>k=R4) W1 W2:=by rw[Jb];exact((ak.refl (λk=>k=R4) W1).setCell (p:=⟨R4,0,none⟩) rfl _).setCell (p:=⟨R4,1,none⟩) rfl _
 have Jq:aK W2 R4 [vg,rV I fl J]:=by rw[Jb];exact(Ji.set 0 _).set 1 _
 have Jg:W.ownsRow N 63 2 vg gs.length (cU gs):=h.gr;have Jo:GR N W2 vg gs:=fI (fI Jg Y (λk hk e=>n3 k hk e)) Z (λk hk e=>by have:=(World.ownsRow.lt Jg k hk).1;have e:k=R4:=e;omega);have Jf:=Jh.tcs (Z.mono λk hk=>.inr hk) (λk hk=>by rcases hk with e|e <;> omega);rw[<-Jb];refine⟨Jq,⟨⟨gs,_⟩,λW' hW'=>zI (aN Jo hW' λk hk=>by have:k<M:=hk;omega),λW' hW'=>Jf.funcs (λk hk=>by rcases hk with e|e <;> omega) W' (hW'.mono λk hk=>.inl hk),Jn,h.gn,by simp;omega,by simp;omega,λx hx=>?_⟩,⟨?_,?_⟩⟩
 ·obtain⟨q,hq,rfl⟩:=List.mem_map.1 hx;exact Jf.ok q hq
 ·exact(h.cur.new hL Y (λk hk=>by omega)).new hL Z (λk hk=>by omega)
 ·exact(h.tcs.next Y (λk hk=>.inr o_)).next Z (λk hk=>.inr o_)
end
end Go.Proofs.YtffnkkpmlplfeaaGreatDoor
