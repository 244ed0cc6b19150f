import Derived.Deep.RegionHeld3
import Derived.Test.YtjfmapphpijneaaGreatDoorS65
namespace Go.Proofs.YtjfmapphpijneaaGreatDoor
set_option linter.all false
set_option maxRecDepth 100000
set_option maxHeartbeats 0
open Go.Value Go.World Go.Proofs.Tryz Go.RowKit
variable[Inhabited Pick]
section
open List
def JJ{S:Ft}{w w':AT}{t:JZ}(h:aj S (w.alloc (.cells #[V 3,V 4,V 13,V 15] t)) w')(I:∀k,S k->k<w.heap.size)(y:Nat)(J:y<4):∃v:Int,DO w' w.heap.size y (V v):=by
 have e:∀o,w'.cell? ⟨w.heap.size,o,none⟩=(w.alloc (.cells #[V 3,V 4,V 13,V 15] t)).cell? ⟨w.heap.size,o,none⟩:=λo=>c_ (a:=⟨w.heap.size,o,none⟩) (h.block w.heap.size i_ (λs=>Ka (I _ s)));have:y=0\/y=1\/y=2\/y=3:=o_
 rcases this with rfl|rfl|rfl|rfl;exact⟨3,(e 0).trans i_⟩;exact⟨4,(e 1).trans i_⟩;exact⟨13,(e 2).trans i_⟩;exact⟨15,(e 3).trans i_⟩
def JK{x:Int}(h:0<=x/\x<3):ry (1+x).toNat<=345:=by
 have:x=0\/x=1\/x=2:=by omega
 rcases this with rfl|rfl|rfl <;> decide
theorem eI(g:Nat)(a:Option Addr)(len cap:Nat)(S:Ft)(G:Gn)(K:Nat)(w:AT)(hl:len<=1048576)(hL:Lo g a len S w.heap.size)(hc:ew g a len cap w)(hG:gh S w G K)(hK:K<=50000):
  Calls prog 57 #[pV g,.agg #[G.vc,G.vp,G.vs,G.vl,V G.m]] w λe w'=>∃u ns,e=rW u/\aW w.heap.size w' u ns/\cI ns 400/\Dr g a len cap S w w':=by
 have hS:=hL.sg;obtain⟨vc,vp,vs,vl,m,cs,ps,ss,J⟩:=G;have HG:=ah hG;obtain⟨ac,cc,e1,-⟩:=hG.c w (aj.refl _ _);obtain⟨ap,cp,I,-⟩:=hG.p w (aj.refl _ _);obtain⟨av,cv,e3,-⟩:=hG.s w (aj.refl _ _);obtain⟨al,cl,e4,-⟩:=hG.l w (aj.refl _ _);dsimp only at e1 I e3 e4;subst e1 I e3 e4;dsimp only;generalize hW0:w.alloc (.cells #[.slice ac cs.length cc,.slice ap ps.length cp,.slice av ss.length cv,.slice al J.length cl,V m] 106)=W0;have Xj:=ah hW0;have Je:Hid (Dr g a len cap S w W0):=by rw[<-hW0];exact(Dr.refl hc).alloc _
 have HX:Hid (∀W,aj S W0 W->W.cell? ⟨w.heap.size,0,none⟩=some (.slice ac cs.length cc)/\W.cell? ⟨w.heap.size,1,none⟩=some (.slice ap ps.length cp)/\W.cell? ⟨w.heap.size,2,none⟩=some (.slice av ss.length cv)/\W.cell? ⟨w.heap.size,3,none⟩=some (.slice al J.length cl)/\W.cell? ⟨w.heap.size,4,none⟩=some (V m)):=λW hW=>by rw[<-hW0]at hW;exact(Fp hW hL.s)
 have Xb:=ah λW (h:aj S W0 W)=>HG.o.tcs (Je.o.tcs.trans h);have Jb:Hid (Lo g a len S W0.heap.size):=hL.mono Je.o.tcs.size;have Xl:w.heap.size<W0.heap.size:=by rw[<-hW0];simp
 clear hW0 hc hL;go_in;go_upto_region 1 with fail;rw[Xj.o];have⟨x0,x1,x2,x3,x4⟩:=HX.o W0 (aj.refl _ _);have Xh:ew g a len cap W0.drew:=Je.o.cur.below r_.drew;have Ju:=ah Xh;go_region_held3 (λW=>W.cell? ⟨w.heap.size,0,none⟩=some (.slice ac cs.length cc)/\W.cell? ⟨w.heap.size,1,none⟩=some (.slice ap ps.length cp)/\W.cell? ⟨w.heap.size,2,none⟩=some (.slice av ss.length cv)/\W.cell? ⟨w.heap.size,3,none⟩=some (.slice al J.length cl)/\W.cell? ⟨w.heap.size,4,none⟩=some (V m)) (go_simp)
  (first
  | (go_at_call 13;refine(aE g a len cap S _ _ hl hS Ju.o o_).mono ?_;rintro e w1 ⟨x,rfl,hx,Jk⟩;have Jd:Hid (Dr g a len cap S W0 w1):=⟨Jk.cur,((aj.refl S W0).drew).trans Jk.tcs⟩;have⟨y0,y1,y2,y3,y4⟩:=HX.o w1 Jd.o.tcs;clear Jk)
  | (go_at_call 80;refine(pH g a len cap S hl (1+x).toNat o_ _ ⟨.slice ac cs.length cc,.slice ap ps.length cp,.slice av ss.length cv,.slice al J.length cl,m,cs,ps,ss,J⟩ K w1 (by simp only[IntKind.wrap_i64];omega) (Jb.o.mono Jd.o.tcs.size) Jd.o.cur (Xb.o _ Jd.o.tcs) hK).mono ?_;rintro e w2 ⟨u2,I,rfl,Jm,Xc,Jv⟩;have Jh:Hid (Dr g a len cap S W0 w2):=Jd.o.trans Jv;have Xg:Hid (aW W0.heap.size w2 u2 I):=fi Jm Jd.o.tcs.size;have Jt:Hid (cI I 345):=Xc.more (JK hx);have⟨z0,z1,z2,z3,z4⟩:=HX.o w2 Jh.o.tcs;clear Jm Xc Jv))
 clear x0 x1 x2 x3 x4 y0 y1 y2 y3 y4 Ju;have Jf:Hid (∀w' u ns,aW W0.heap.size w' u ns->cI ns 400->Dr g a len cap S W0 w'->aW w.heap.size w' u ns/\cI ns 400/\Dr g a len cap S w w'):=λw' u ns h1 h2 h3=>⟨fi h1 Je.o.tcs.size,h2,Je.o.trans h3⟩;go_wp2_with fail;refine(fd g a len cap S _ _ hl hS Jh.o.cur o_).mono ?_;rintro e w3 ⟨q,rfl,Jn⟩;have Js:Hid (Dr g a len cap S W0 w3):=Jh.o.trans Jn;have Jx:Hid (aW W0.heap.size w3 u2 I):=bE Xg.o Jn.tcs Jb.o.s;cases q with
 | false=>have HF:=Jf.o w3 u2 I Jx.o (Jt.o.more o_) Js;have Ja:=ah HF;clear HF;go_wp2;go_ret;exact⟨_,_,rfl,Ja.o.1,Ja.o.2.1,Ja.o.2.2⟩
 | true=>
  go_wp2;go_loopw[5,6] (λov i wr=>∃j:Nat,j<=7/\i=V j/\∃ns:List Nd,aW W0.heap.size wr ov ns/\cI ns (345+2*j)/\Dr g a len cap S W0 wr) (λ_ i _=>8-(RowKit.intOf i).toNat)
  case atStart=>exact⟨0,o_,rfl,I,Jx,Jt,Js⟩
  case round=>
   obtain⟨j,hj,rfl,ns,hr,hn,Xk⟩:=hrel;have⟨HR,HN,Jo⟩:=h3 hr hn Xk;have Xp:ns.length<=359:=t_ hn.1 o_;go_wp2_with fail;refine(aE g a len cap S _ _ hl hS Jo.o.cur o_).mono ?_;rintro e U ⟨y,rfl,hy,Jl⟩;have Jc:Hid (Dr g a len cap S W0 U):=Jo.o.trans Jl;have Jq:Hid (aW W0.heap.size U _ ns):=bE HR.o Jl.tcs Jb.o.s;have Jy:W0.heap.size<=U.heap.size:=Jc.o.tcs.size;clear Jl;by_cases hlt:(j:Int)<4+y
   ·have⟨x0,x1,x2,x3,x4⟩:=HX.o U Jc.o.tcs;go_wp2_with fail;refine(gB g a len cap S ⟨.slice ac cs.length cc,.slice ap ps.length cp,.slice av ss.length cv,.slice al J.length cl,m,cs,ps,ss,J⟩ K U hl (Jb.o.mono Jy) Jc.o.cur (Xb.o _ Jc.o.tcs) hK).mono ?_;rintro e w5 ⟨u5,Z,rfl,Xi,Jw,Jr⟩;have Jj:Hid (Dr g a len cap S W0 w5):=Jc.o.trans Jr;have Xd:=ah Jw;have Xo:Z.length<=1:=Jw.1;have Jz:Hid (∀W,aj S w5 W->aC W u5 Z):=gL Xi (Jb.o.mono Jy).s;have J_:Hid (∀W,aj S w5 W->aC W _ ns):=λW hW=>gL Jq.o Jb.o.s W (Jr.tcs.trans hW);have Xf:W0.heap.size<=w5.heap.size:=Jj.o.tcs.size;go_wp2_with fail;refine(aE g a len cap S _ _ hl hS (Jj.o.alloc _).cur o_).mono ?_;rintro e w6 ⟨z,rfl,hz,Jg⟩;have Jp:Hid (Dr g a len cap S W0 w6):=(Jj.o.alloc _).trans Jg;have Ji:aj S w5 w6:=((aj.refl S w5).alloc _).trans Jg.tcs;have Xa:Hid (aC w6 u5 Z/\aC w6 _ ns):=⟨Jz.o w6 Ji,J_.o w6 Ji⟩;obtain⟨zn,rfl⟩:∃zn:Nat,z=zn:=⟨z.toNat,o_⟩;have⟨vz,Xn⟩:=JJ Jg.tcs (Jb.o.mono Xf).s zn o_;clear Jg Ji Jz J_;go_wp2_with fail;refine(jL Z ns _ _ _ u5 _ _ Xa.o.1 Xa.o.2 o_).mono ?_;rintro e w7 ⟨u7,rfl,Xe,Xm⟩;have HE:Hid (aW W0.heap.size w7 u7 (Z++ns++[⟨7,vz,⟨#[]⟩⟩])/\cI (Z++ns++[⟨7,vz,⟨#[]⟩⟩]) (345+2*(j+1))/\Dr g a len cap S W0 w7):=⟨fi Xe Jp.o.tcs.size,cI.more ((Xd.o.app HN).app (cI.one d_)) o_,Jp.o.below Xm⟩;go_wp2;go_roundw
    case rel=>exact⟨j+1,o_,by go_num,_,HE.o.1,HE.o.2.1,HE.o.2.2⟩
    case measure=>exact IF
   have HF:=Jf.o U _ ns Jq.o (HN.o.more o_) Jc;have Ja:=ah HF;clear HF;go_wp2;go_ret;exact⟨_,_,rfl,Ja.o.1,Ja.o.2.1,Ja.o.2.2⟩
section
variable{g q len cap K K' o:Nat}{w w':AT}{G:Gn}{a:Option Addr}{S:Ft}{v:BY}
def S0(g:Nat):Ft:=λk=>k=g
def Sq(g q:Nat):Ft:=λk=>k=g\/k=q
def mL:∀k,S0 g k->Sq g q k:=λk h=>.inl h
structure GB (q:Nat) (w:AT) (G:Gn):Prop where
 c0:w.cell? ⟨q,0,none⟩=some G.vc
 c1:w.cell? ⟨q,1,none⟩=some G.vp
 c2:w.cell? ⟨q,2,none⟩=some G.vs
 c3:w.cell? ⟨q,3,none⟩=some G.vl
 c4:w.cell? ⟨q,4,none⟩=some (V G.m)
 fz:∀j,w.frozen? ⟨q,j,none⟩=false
def GB.keep(h:GB q w G)(hb:w'.heap[q]? =w.heap[q]?):GB q w' G:=
 ⟨(c_ (a:=⟨q,0,none⟩) hb).trans h.c0,(c_ (a:=⟨q,1,none⟩) hb).trans h.c1,(c_ (a:=⟨q,2,none⟩) hb).trans h.c2,(c_ (a:=⟨q,3,none⟩) hb).trans h.c3,(c_ (a:=⟨q,4,none⟩) hb).trans h.c4,λo=>(frozen?_of_block (a:=⟨q,o,none⟩) hb).trans (h.fz o)⟩
def GB.lt(h:GB q w G):q<w.heap.size:=b_ h.c0
def nh{a b:Nat}(h:a≠b):(⟨g,a,none⟩:Addr)≠⟨g,b,none⟩:=λe=>by simp[h]at e
def GB.set2(h:GB q w G)(v:BY)(ss:List Io):GB q (w.setCell ⟨q,2,none⟩ v) {G with vs:=v,ss:=ss}:=
 ⟨(s_ _ _ _ _ (nh d_)).trans h.c0,(s_ _ _ _ _ (nh d_)).trans h.c1,cell?_setCell_same _ _ _ h.c2,(s_ _ _ _ _ (nh d_)).trans h.c3,(s_ _ _ _ _ (nh d_)).trans h.c4,λo=>by simpa using h.fz o⟩
def GB.set3(h:GB q w G)(v:BY)(ls:List Io):GB q (w.setCell ⟨q,3,none⟩ v) {G with vl:=v,ls:=ls}:=
 ⟨(s_ _ _ _ _ (nh d_)).trans h.c0,(s_ _ _ _ _ (nh d_)).trans h.c1,(s_ _ _ _ _ (nh d_)).trans h.c2,cell?_setCell_same _ _ _ h.c3,(s_ _ _ _ _ (nh d_)).trans h.c4,λo=>by simpa using h.fz o⟩
def GB.set4(h:GB q w G)(z:Int):GB q (w.setCell ⟨q,4,none⟩ (V z)) {G with m:=z}:=
 ⟨(s_ _ _ _ _ (nh d_)).trans h.c0,(s_ _ _ _ _ (nh d_)).trans h.c1,(s_ _ _ _ _ (nh d_)).trans h.c2,(s_ _ _ _ _ (nh d_)).trans h.c3,cell?_setCell_same _ _ _ h.c4,λo=>by simpa using h.fz o⟩
structure GS (g:Nat) (a:Option Addr) (len cap q:Nat) (S:Ft) (w:AT) (G:Gn) (K:Nat):Prop where
 cur:ew g a len cap w
 box:GB q w G
 ok:gh S w G K
 lo:Lo g a len S w.heap.size
 sq:S q
 ne:q≠g
def GS.lo0(h:GS g a len cap q S w G K):Lo g a len (S0 g) w.heap.size:=
 ⟨h.lo.gl,rfl,λb off x y=>⟨(h.lo.by8 b off x y).1,λe=>(h.lo.by8 b off x y).2 (e ▸ h.lo.sg)⟩,λk hk=>h.lo.s k (hk ▸ h.lo.sg)⟩
def GS.s0(h:GS g a len cap q S w G K):∀k,S0 g k->S k:=λk hk=>hk ▸ h.lo.sg
def GS.sqs(h:GS g a len cap q S w G K):∀k,Sq g q k->S k:=λk hk=>by rcases hk with rfl|rfl;exact h.lo.sg;exact h.sq
def GS.ok0(h:GS g a len cap q S w G K):gh (S0 g) w G K:=h.ok.less h.s0
def GS.dr(h:GS g a len cap q S w G K)(hd:Dr g a len cap (S0 g) w w'):GS g a len cap q S w' G K:=
 ⟨hd.cur,h.box.keep (hd.tcs.block q h.box.lt h.ne),h.ok.tcs (hd.tcs.mono h.s0),h.lo.mono hd.tcs.size,h.sq,h.ne⟩
def GS.below(h:GS g a len cap q S w G K)(hb:Bl w w'):GS g a len cap q S w' G K:=h.dr ⟨h.cur.below hb,hb.tcs⟩
def GS.alloc(h:GS g a len cap q S w G K)(o:Obj):GS g a len cap q S (w.alloc o) G K:=h.below (r_.alloc n_ o)
def Sv(S:Ft)(v:BY):Ft:=λk=>S k\/v.ownBlock=some k
def GS.add{w0:AT}(h:GS g a len cap q S w0 G K)(I:GS g a len cap q S w G K)(U:aj S w0 w)(J:∀k,v.ownBlock=some k->w0.heap.size<=k/\k<w.heap.size):GS g a len cap q (Sv S v) w G K:=by
 refine⟨I.cur,I.box,?_,⟨I.lo.gl,.inl I.lo.sg,λb off x y=>⟨(I.lo.by8 b off x y).1,λe=>?_⟩,λk hk=>?_⟩,.inl I.sq,I.ne⟩;have Ja:∀W,aj (Sv S v) w W->aj S w0 W:=λW hW=>U.next hW λk hk=>by rcases hk with hk|hk;exact .inl hk;exact .inr (J k hk).1
 exact⟨λW hW=>h.ok.c W (Ja W hW),λW hW=>h.ok.p W (Ja W hW),λW hW=>h.ok.s W (Ja W hW),λW hW=>h.ok.l W (Ja W hW),h.ok.cp,h.ok.c4,h.ok.pb,h.ok.ns,h.ok.sl,h.ok.ll,h.ok.mb⟩
 ·rcases e with e|e
  ·exact(I.lo.by8 b off x y).2 e
  have:=(J b e).1
  have:=(h.lo.by8 b off x y).1
  omega
 rcases hk with hk|hk;exact I.lo.s k hk;exact(J k hk).2
def GS.app{B:Nat}{v':BY}(h:GS g a len cap q (Sv S v) w G K)(J:Lo g a len S B)(Z:S q)(hv:∀k,v.ownBlock=some k->B<=k)(I:aj (λk=>v.ownBlock=some k) w w')(U:∀k,v'.ownBlock=some k->v.ownBlock=some k\/w.heap.size<=k)(Jb:∀k,v'.ownBlock=some k->k<w'.heap.size):GS g a len cap q (Sv S v') w' G K:=by
 have Ja:∀W,aj (Sv S v') w' W->aj (Sv S v) w W:=λW hW=>(I.mono λk hk=>.inr hk).next hW λk hk=>by rcases hk with hk|hk;exact .inl (.inl hk);rcases U k hk with h1|h1;exact .inl (.inr h1);exact .inr h1
 have Jc:=J.s q Z;refine⟨h.cur.new J I hv,h.box.keep (I.block q h.box.lt (λs=>Ka (hv q s))),⟨λW hW=>h.ok.c W (Ja W hW),λW hW=>h.ok.p W (Ja W hW),λW hW=>h.ok.s W (Ja W hW),λW hW=>h.ok.l W (Ja W hW),h.ok.cp,h.ok.c4,h.ok.pb,h.ok.ns,h.ok.sl,h.ok.ll,h.ok.mb⟩,⟨?_,.inl J.sg,λb off x y=>⟨?_,λe=>?_⟩,λk hk=>?_⟩,.inl Z,h.ne⟩
 have:=h.lo.gl;have:=I.size;omega
 ·have:=(h.lo.by8 b off x y).1;have:=I.size;omega
 ·rcases e with e|e
  ·exact(h.lo.by8 b off x y).2 (.inl e)
  rcases U b e with h1|h1;exact(h.lo.by8 b off x y).2 (.inr h1)
  have:=(h.lo.by8 b off x y).1;omega
 rcases hk with hk|hk
 have:=h.lo.s k (.inl hk);have:=I.size;omega
 exact Jb k hk
def GS.sub{S':Ft}(h:GS g a len cap q S w G K)(hs:∀k,S' k->S k)(hg:S' g)(hq:S' q):GS g a len cap q S' w G K:=
 ⟨h.cur,h.box,h.ok.less hs,⟨h.lo.gl,hg,λb off x y=>⟨(h.lo.by8 b off x y).1,λe=>(h.lo.by8 b off x y).2 (hs b e)⟩,λk hk=>h.lo.s k (hs k hk)⟩,hq,h.ne⟩
def GS.drop(h:GS g a len cap q (Sv S v) w G K)(hg:S g)(hq:S q):GS g a len cap q S w G K:=
 ⟨h.cur,h.box,h.ok.less λk hk=>.inl hk,⟨h.lo.gl,hg,λb off x y=>⟨(h.lo.by8 b off x y).1,λe=>(h.lo.by8 b off x y).2 (.inl e)⟩,λk hk=>h.lo.s k (.inl hk)⟩,hq,h.ne⟩
def GS.more(h:GS g a len cap q S w G K)(hk:K<=K'):GS g a len cap q S w G K':=⟨h.cur,h.box,h.ok.more hk,h.lo,h.sq,h.ne⟩
def GS.set{G':Gn}(h:GS g a len cap q S w G K)(hb:GB q (w.setCell ⟨q,o,none⟩ v) G')(hG:gh S w G' K'):GS g a len cap q S (w.setCell ⟨q,o,none⟩ v) G' K':=
 have ht:aj S w (w.setCell ⟨q,o,none⟩ v):=(aj.refl _ _).setCell (p:=⟨q,o,none⟩) h.sq v;have ht2:aj (λk=>k=q) w (w.setCell ⟨q,o,none⟩ v):=(aj.refl (λk=>k=q) w).setCell (p:=⟨q,o,none⟩) rfl v
 ⟨h.cur.keep ht2 (λe=>h.ne e.symm) (λb off x y e=>(h.lo.by8 b off x y).2 (e ▸ h.sq)),hb,hG.tcs ht,h.lo.mono ht.size,h.sq,h.ne⟩
def pI(w:AT)(v:BY):aj (Sq g q) w (w.setCell ⟨q,o,none⟩ v):=(aj.refl _ _).setCell (p:=⟨q,o,none⟩) (.inr rfl) v
def gh.setM(h:gh S w G K):gh S w {G with m:=G.m+1} (K+1):=
 ⟨h.c,h.p,h.s,h.l,h.cp,h.c4,h.pb,h.ns,t_ h.sl (Nat.le_succ _),t_ h.ll (Nat.le_succ _),by have:=h.mb;show 0<=G.m+1/\G.m+1<=((K+1:Nat):Int);omega⟩
def gh.setS(h:gh S w G K){ss:List Io}(hs:∀W,aj S w W->be W v ss)(hn:∀x∈ss,x.size<=100000)(hl:ss.length<=K):gh S w {G with vs:=v,ss:=ss} K:=
 ⟨h.c,h.p,hs,h.l,h.cp,h.c4,h.pb,⟨h.ns.1,hn,h.ns.2.2⟩,hl,h.ll,h.mb⟩
def gh.setL(h:gh S w G K){ls:List Io}(hs:∀W,aj S w W->be W v ls)(hn:∀x∈ls,x.size<=100000)(hl:ls.length<=K):gh S w {G with vl:=v,ls:=ls} K:=
 ⟨h.c,h.p,h.s,hs,h.cp,h.c4,h.pb,⟨h.ns.1,h.ns.2.1,hn⟩,h.sl,hl,h.mb⟩
def Hl(s:Io):((⟨#[118]⟩:Io)++s).size=s.size+1:=by rw[ByteArray.size_append];show 1+s.size=_;omega
def mM(g:Nat)(a:Option Addr)(len cap q:Nat)(S:Ft)(G:Gn)(K:Nat)(w:AT)(h:GS g a len cap q S w G K)(hK:K+1<=50000):
  Calls prog 107 #[pV q] w λe w'=>∃s,e=rW (sV s)/\s.size<=100000/\GS g a len cap q S w' {G with m:=G.m+1} (K+1)/\aj (Sq g q) w w':=by
 have hm:=h.ok.mb;obtain⟨u,I⟩:∃u:Nat,G.m+1=u:=⟨(G.m+1).toNat,o_⟩;have c4:=h.box.c4;have f4:=h.box.fz 4;have⟨HU,U⟩:=h2 I (h.set (h.box.set4 _) h.ok.setM);have HT:Hid (aj (Sq g q) w (w.setCell ⟨q,4,none⟩ (V (G.m+1)))):=(aj.refl _ _).setCell (p:=⟨q,4,none⟩) (.inr rfl) _;have Jb:Hid (∀W:AT,Calls prog 55 #[V (G.m+1)] W λe w'=>e=rW (sV (tx (Lib.decDigits u)))/\Bl W w'):=λW=>by rw[I];exact uo u u n_ o_ W
 have Jc:(tx (Lib.decDigits u)).size<=50002:=by rw[rY];have:=sw u u n_;omega
 generalize tx (Lib.decDigits u)=A at Jc Jb;have Jd:((A.size:Nat):Int)<=1000000:=o_;have Z:Hid (((⟨#[118]⟩:Io)++A).size<=100000):=by show _<=_;rw[Hl];omega
 have h1:(⟨#[118]⟩:Io).size=1:=rfl;generalize G.m=m at*;clear I Jc h;go_in;go_wp2_with fail;refine(Jb.o _).mono ?_;rintro e w2 ⟨rfl,Ja⟩;have J:Hid (GS g a len cap q S w2 {G with m:=m+1} (K+1)/\aj (Sq g q) w w2):=⟨U.o.below Ja,HT.o.of_below Ja⟩;go_wp2;go_ret;exact⟨_,rfl,Z,J.o.1,J.o.2⟩
end
section
variable{B L B' B2 L2:Nat}{w w':AT}{v u:BY}{R R2:List SV}{e:List Nd}
def BH(R:List SV)(W:AT):Prop:=∀x∈R,aC W x.ve x.s.e/\aC W x.vf x.s.f
def I7(R:List SV):Prop:=∀x∈R,cI x.s.e 3000/\cI x.s.f 3000/\x.s.nm.size<=100000
structure SR (B:Nat) (w:AT) (v:BY) (R:List SV) (L:Nat):Prop where
 row:ge 79 6 (λk=>k<B) B w v R.length (bO R) (BH R)
 ok:I7 R
 len:R.length<=L
def SR.tcs{S:Ft}(h:SR B w v R L)(ht:aj S w w')(hS:∀k,S k->k<B):SR B w' v R L:=⟨h.row.tcs (ht.mono hS) (λk hk=>hk),h.ok,h.len⟩
def SR.below(h:SR B w v R L)(hb:Bl w w'):SR B w' v R L:=⟨h.row.below hb,h.ok,h.len⟩
def SR.low(h:SR B w v R L)(hb:B'<=B):SR B' w v R L:=⟨(h.row.low hb).less (λk hk=>by omega),h.ok,h.len⟩
def SR.more{L':Nat}(h:SR B w v R L)(hl:L<=L'):SR B w v R L':=⟨h.row,h.ok,t_ h.len hl⟩
def SR.shape(h:SR B w v R L):∃a c,v=.slice a R.length c:=by obtain⟨a,c,e,-⟩:=aH h.row.row;exact⟨a,c,e⟩
def SR.rng(h:SR B w v R L):∀k,v.ownBlock=some k->B<=k/\k<w.heap.size:=λk hk=>ownsRow.lt h.row.row k hk
def Hm(w:AT)(B:Nat)(hB:B<=w.heap.size):SR B (w.alloc (.cells #[] 79)) (rV w.heap.size 0 0) [] 0:=
 ⟨⟨ownsRow_lit w #[] 0 hB d_ rfl,λW _ x hx=>by cases hx⟩,(λx hx=>by cases hx),n_⟩
def dd(W:AT):aC W nV []:=⟨none,0,rfl,n_,o_,λh=>absurd h (Nat.lt_irrefl _)⟩
def eJ(h:aW B w v e)(hb:B'<=B):∀W,aj (λk=>k<B') w W->aC W v e:=gL h (λk hk=>by omega)
def lY{h vf:BY}{kd th el:Int}{nm:Io}{f:List Nd}(U:B<=w.heap.size)(J:∀W,aj (λk=>k<B) w W->aC W h e)(hF:∀W,aj (λk=>k<B) w W->aC W vf f)(Z:cI e 3000)(Ja:cI f 3000)(on:nm.size<=100000):
  SR B (w.alloc (.cells #[V kd,sV nm,h,vf,V th,V el] 79)) (rV w.heap.size 1 1) [⟨⟨kd,nm,e,f,th,el⟩,h,vf,[],[]⟩] 1:=by
 refine⟨⟨ownsRow_lit w #[V kd,sV nm,h,vf,V th,V el] 1 U d_ rfl,λW hW x hx=>?_⟩,λx hx=>?_,n_⟩;simp only[J7]at hx;subst hx;have I:aj (λk=>k<B) w W:=((aj.refl _ w).alloc _).next hW λk hk=>by rcases hk with hk|hk;exact .inl hk;simp only[ownBlock,J0]at hk;exact .inr o_
 exact⟨J W I,hF W I⟩;simp only[J7]at hx;subst hx;exact⟨Z,Ja,on⟩
def kE(J:JZ)(h:SR B w v R L)(h2:SR B2 w u R2 L2)(hB:B<=w.heap.size)(hm:L+L2<=1000000)
  (Jf:∀W,aj (λk=>k<B\/v.ownBlock=some k) w W->BH R2 W):
  ∃v' w',(Builtin.append_ #[50,50] J #[v,u]).run prog w=.ok v' w'/\SR B w' v' (R++R2) (L+L2)/\aj (λk=>v.ownBlock=some k) w w'/\∀k,v'.ownBlock=some k->v.ownBlock=some k\/w.heap.size<=k:=by
 have⟨i0,hi,Jc,Jd,Jb⟩:=info_parts gS;obtain⟨a,c,rfl,hn,hc⟩:=aH h2.row.row;have Je:=h.len;have Ja:=h2.len;have⟨v',w',Z,I,U⟩:=jI (Pg:=prog) (w:=w) (T:=79) (t:=50) (c:=c) (P2:=BH R2) J underlying50 hi Jc Jd Jb rfl d_ h.row a hn (eE R2) hc (gR R2 λq hq=>⟨(h2.row.now q hq).1.cell1,(h2.row.now q hq).2.cell1⟩) Jf o_ d_ hB;refine⟨v',w',Z,⟨⟨by rw[l_a,jb];exact I.row,λW hW x hx=>?_⟩,λx hx=>?_,by rw[l_a];omega⟩,U⟩
 rcases J5.1 hx with hx|hx;exact(I.st W hW).1 x hx;exact(I.st W hW).2 x hx;rcases J5.1 hx with hx|hx;exact h.ok x hx;exact h2.ok x hx
def j9(h2:SR B2 w u R2 L2)(hB:B<=B2)(hv:∀k,v.ownBlock=some k->k<B2):∀W,aj (λk=>k<B\/v.ownBlock=some k) w W->BH R2 W:=λW hW=>h2.row.st W (hW.mono λk hk=>by rcases hk with hk|hk;exact .inl o_;exact .inl (hv k hk))
def lZ{w1:AT}(h2:SR B2 w1 u R2 L2)(ht:aj (λk=>k<B2) w1 w)(hB:B<=B2)(hv:∀k,v.ownBlock=some k->w1.heap.size<=k):∀W,aj (λk=>k<B\/v.ownBlock=some k) w W->BH R2 W:=λW hW=>h2.row.st W ((ht.mono λk hk=>.inl hk).next hW λk hk=>by rcases hk with hk|hk;exact .inl (.inl o_);exact .inr (hv k hk))
def tG(g:Nat)(a:Option Addr)(len cap q:Nat)(S:Ft)(K L m:Nat)(w:AT)(v:BY)(w':AT):Prop:=∃R G',SR w.heap.size w' v R L/\m<=R.length/\GS g a len cap q (Sv S v) w' G' (K+L)/\aj (Sq g q) w w'
def Iw(g:Nat)(a:Option Addr)(len cap q d:Nat):Prop:=∀(z:Int) (S:Ft) (G:Gn) (K:Nat) (w:AT),z=d->GS g a len cap q S w G K->K+rx d<=50000 ->
  Calls prog 79 #[pV g,pV q,V z] w λe w'=>∃v,e=rW v/\tG g a len cap q S K (rx d) 1 w v w'
end
section
variable{B:Nat}{v:BY}
def AQ(g:Gl):List BY:=[sV g.nm,V g.size]
def dw(gs:List Gl):List BY:=gs.flatMap AQ
theorem ka(gs:List Gl):(dw gs).length=gs.length*2:=by
 induction gs with
 | nil=>rfl
 | cons a r ih=>
  have:(dw (a::r)).length=2+(dw r).length:=by simp[dw,AQ];omega
  rw[this,ih,l_c];omega
theorem kc:∀(gs:List Gl) (j i:Nat) (hj:j<gs.length),i<2->(dw gs)[j*2+i]? =(AQ gs[j])[i]?
 | x::l,0,i,_,hi=>by
  have:(AQ x).length=2:=rfl
  show(AQ x++dw l)[0*2+i]? =_;rw[getElem?_append_left o_];simp
 | x::l,j+1,i,hj,hi=>by have h7:(AQ x).length=2:=rfl;show(AQ x++dw l)[(j+1)*2+i]? =_;rw[getElem?_append_right o_];have e:(j+1)*2+i-(AQ x).length=j*2+i:=o_;rw[e,kc l j i (IN hj) hi];simp
def GR(B:Nat)(w:AT)(v:BY)(gs:List Gl):Prop:=w.ownsRow B 48 2 v gs.length (dw gs)
def C4{w:AT}{gs:List Gl}(h:GR B w v gs):cD w v gs:=by
 have I:w.ownsRow B 48 2 v gs.length (dw gs):=h;rcases I.2 with⟨rfl,Z⟩|⟨g,Ja,Jc,rfl,h3,h4,h5⟩;exact⟨none,0,by rw[Z],by rw[Z];exact n_,o_,λh=>by omega⟩;have J:gs.length<=Ja/\Ja<=9223372036854775807:=by obtain⟨q1,U,-⟩:=h5;unfold maxLen at U;exact⟨q1,U⟩
 refine⟨some ⟨g,0,none⟩,Ja,rfl,J.1,J.2,λhp'=>⟨g,0,rfl,λj hj=>?_⟩⟩;have Jb:∀i,i<2->w.cell? ⟨g,0+j*2+i,none⟩=(AQ gs[j])[i]? := λi hi=>by have hl:(dw gs).length=gs.length*2:=ka gs;rw[Nat.zero_add,ownsRow.cellAt I (j*2+i) o_,kc gs j i hj hi]
 exact⟨Jb 0 o_,Jb 1 o_⟩
def rD:(prog.info? 48).map (λi=>(i.zero,i.size,i.bytes))=some (some (.agg #[sV ⟨#[]⟩,V 0]),2,24):=by kernel_rfl
end
def xJ{d:Nat}(h:d<=4):1<=rx d/\rx d<=511:=by
 have:d=0\/d=1\/d=2\/d=3\/d=4:=by omega
 rcases this with rfl|rfl|rfl|rfl|rfl <;> decide
def iT(g:Nat)(a:Option Addr)(len cap q d:Nat)(hd:d<=4)(hX:Iw g a len cap q d)(n:Nat)(hn:n<=10)(Z zd:Int)(Jp:Z=n)(Jo:zd=d)(S:Ft)(G:Gn)(K:Nat)(w:AT)(h:GS g a len cap q S w G K)(hK:K+n*rx d<=50000):
  Calls prog 56 #[pV g,pV q,V Z,V zd] w λe w'=>∃v,e=rW v/\tG g a len cap q S K (n*rx d) n w v w':=by
 have Jn:=xJ hd;have⟨D,hD⟩:=q_ (rx d);have HX:Hid (∀(S:Ft) (G:Gn) (K:Nat) (w:AT),GS g a len cap q S w G K->K+D<=50000->Calls prog 79 #[pV g,pV q,V zd] w λe w'=>∃v,e=rW v/\tG g a len cap q S K D 1 w v w'):=λS G K w h hk=>by rw[hD]at hk⊢;exact hX zd S G K w Jo h hk
 rw[<-hD]at Jn hK⊢;have HS:Hid (∀W,aj S w W->be W G.vs G.ss):=h.ok.s;have Xa:Hid (∀x∈G.ss,x.size<=100000):=h.ok.ns.2.1;have Jq:Hid (G.ss.length<=K):=h.ok.sl;have HL:Hid (Lo g a len S w.heap.size):=h.lo;have Jm:Hid (S q):=h.sq;have Jg:Hid (∀k,Sq g q k->S k):=h.sqs;have J_:Hid (GS g a len cap q (Sv S (rV w.heap.size 0 0)) (w.alloc (.cells #[] 79)) G K):=h.add (h.alloc _) ((aj.refl _ _).alloc _) (λk hk=>by simp[ownBlock]at hk;subst hk;simp);have c2:DO (w.alloc (.cells #[] 79)) q 2 G.vs:=(h.alloc _).box.c2;have Jl:DO w q 2 G.vs:=h.box.c2;have Xc:q<w.heap.size:=h.box.lt;obtain⟨Ja,Jb,Jj,-⟩:=h.ok.s w (aj.refl _ _);rw[Jj]at c2 Jl;have⟨sl,Jf⟩:=q_ G.ss.length;rw[<-Jf]at c2 Jl;have Jz:Hid (G.vs=.slice Ja sl Jb):=by rw[Jf];exact Jj
 have Jt:0<=Z/\Z<=10:=o_;have Jd:=ah Jp;clear Jj h hX hD Jf Jp Jo;go_in;go_wp2;go_loopw[9,11,12] (λov i mr wr=>∃j:Nat,j<=n/\i=V j/\∃(R:List SV) (J:Gn),SR w.heap.size wr ov R (j*D)/\j<=R.length/\GS g a len cap q (Sv S ov) wr J (K+j*D)/\aj (Sq g q) w wr) (λ_ i _ _=>n-(RowKit.intOf i).toNat)
 case atStart=>exact⟨0,o_,rfl,[],G,by rw[Nat.zero_mul];exact Hm w w.heap.size n_,i_,by rw[Nat.zero_mul];exact J_,(aj.refl _ _).alloc _⟩
 case round=>
  obtain⟨j,hj,rfl,R,J,hr,Jv,hg,ht⟩:=hrel;have⟨I,Jc,U,HJ⟩:=h4 hr hg ht Jv;by_cases hlt:(j:Int)<Z
  ·have Jh:(j+1)*D<=n*D:=Nat.mul_le_mul_right _ (Ka Jd.o);have HM:Hid ((j+1)*D=j*D+D):=Nat.succ_mul j D;have Js:n*D<=10*511:=Nat.mul_le_mul hn Jn.2;have Ju:K+j*D+D<=50000:=(Ka HM.o);have Jx:j*D+D<=1000000:=(Ka HM.o);clear Jh Js;go_wp2_with fail;refine(HX.o (Sv S u9) J (K+j*D) wr Jc.o Ju).mono ?_;rintro e w2 ⟨u2,rfl,R2,G2,Jk,Xb,Jy,Ji⟩;have Jw:=I.o.tcs Ji (λk hk=>HL.o.s k (Jg.o k hk));have⟨v3,w3,r3,h3,t3,f3⟩:=kE 50 Jw Jk (t_ U.o.size Ji.size) Jx (j9 Jk U.o.size (λk hk=>(I.o.rng k hk).2));have HE:Hid (SR w.heap.size w3 v3 (R++R2) ((j+1)*D)/\j+1<=(R++R2).length/\GS g a len cap q (Sv S v3) w3 G2 (K+(j+1)*D)/\aj (Sq g q) w w3):=by refine⟨by rw[HM.o];exact h3,by rw[l_a];have:=HJ.o;omega,?_,(U.o.trans Ji).next t3 (λk hk=>.inr (I.o.rng k hk).1)⟩;rw[HM.o,<-Nat.add_assoc];exact(Jy.drop (.inl HL.o.sg) (.inl Jm)).app HL.o Jm.o (λk hk=>(I.o.rng k hk).1) t3 f3 (λk hk=>(h3.rng k hk).2)
   have Jr:=ah r3;go_wp2_with(at_builtin;refine ay rfl _ _ _ rfl _ _ _ _ rfl rfl Jr.o ?_);go_roundw
   case rel=>exact⟨j+1,Ka Jd.o,by go_num,R++R2,G2,HE.o.1,HE.o.2.1,HE.o.2.2.1,HE.o.2.2.2⟩
   case measure=>have:=Jd.o;simp[RowKit.intOf];omega
  obtain rfl:j=n:=(Ka Jd.o);have c2:=Jc.o.box.c2;have f2:=Jc.o.box.fz 2;have HF:Hid (SR w.heap.size (wr.setCell ⟨q,2,none⟩ (.slice Ja sl Jb)) u9 R (j*D)/\GS g a len cap q (Sv S u9) (wr.setCell ⟨q,2,none⟩ (.slice Ja sl Jb)) {J with vs:=(.slice Ja sl Jb),ss:=G.ss} (K+j*D)/\aj (Sq g q) w (wr.setCell ⟨q,2,none⟩ (.slice Ja sl Jb))):=by have ht:aj (Sq g q) wr (wr.setCell ⟨q,2,none⟩ (.slice Ja sl Jb)):=pI wr _;have Je:=Jc.o;refine⟨I.o.tcs ht (λk hk=>HL.o.s k (Jg.o k hk)),Je.set (Je.box.set2 _ _) (Je.ok.setS (λW hW=>?_) Xa.o (Ka Jq.o)),U.o.trans ht⟩;have:=HS.o W ((U.o.mono Jg.o).next hW λk hk=>by rcases hk with hk|hk;exact .inl hk;exact .inr (I.o.rng k hk).1);rwa[Jz]at this
  generalize J.vs=old at c2;clear Jc;go_wp2;go_ret;exact⟨_,rfl,R,_,HF.o.1,HJ,HF.o.2.1,HF.o.2.2⟩
section
variable{e:List Nd}{L g len cap q K:Nat}{a:Option Addr}{S:Ft}{w:AT}
def cI.e3(h:cI e L)(hl:L<=3000):cI e 3000:=h.more hl
def jo{w2:AT}{G2:Gn}{ve vf:BY}{f:List Nd}(kd th el:Int)(nm:Io)(h2:GS g a len cap q S w2 G2 (K+L))(ht:aj (Sq g q) w w2)(hE:∀W,aj (λk=>k<w.heap.size) w2 W->aC W ve e)(hF:∀W,aj (λk=>k<w.heap.size) w2 W->aC W vf f)(oe:cI e 3000)(of':cI f 3000)(on:nm.size<=100000)(hL:1<=L):
  tG g a len cap q S K L 1 w (rV w2.heap.size 1 1) (w2.alloc (.cells #[V kd,sV nm,ve,vf,V th,V el] 79)):=
 ⟨_,G2,(lY ht.size hE hF oe of' on).more hL,n_,h2.add (h2.alloc _) ((aj.refl _ _).alloc _) (λk hk=>by simp[ownBlock]at hk;subst hk;simp),ht.alloc _⟩
def GS.strs{G:Gn}(h:GS g a len cap q S w G K):∃a c,G.vs=.slice a G.ss.length c:=by obtain⟨a,c,e,-⟩:=h.ok.s w (aj.refl _ _);exact⟨a,c,e⟩
theorem Fq(g:Nat)(a:Option Addr)(len cap q:Nat)(Z:len<=1048576)(S:Ft)(G:Gn)(K L:Nat)(Ju:1<=L)(w:AT)(h:GS g a len cap q S w G K)(hK:K<=50000):
  Calls prog 108 #[pV g,pV q] w λe w'=>∃v,e=rW v/\tG g a len cap q S K L 1 w v w':=by
 have HG:=ah h;have⟨av,cv,hv⟩:=h.strs;have HV:=ah hv;have⟨sl,Jr⟩:=q_ G.ss.length;have Jl:=ah Jr;have Jz:sl<=K:=by rw[Jr];exact h.ok.sl
 have Js:S0 g g:=rfl;clear h hv Jr;go_in;go_wp2_with fail;refine(ik g a len cap (S0 g) [⟨#[103]⟩,⟨#[104]⟩] _ _ Z Js (HG.o.alloc _).cur (kD _ _ 2 rfl rfl d_ HG.o.lo0.s) d_).mono ?_;rintro e w1 ⟨nm,hn,rfl,Jw⟩;have Jk:Hid (GS g a len cap q S w1 G K):=(HG.o.alloc _).dr Jw;have Jo:Hid (aj (Sq g q) w w1):=((aj.refl _ _).alloc _).trans (Jw.tcs.mono mL);have Jp:Hid (nm.size<=100000):=by show _<=_;simp at hn;rcases hn with rfl|rfl <;> decide
 have c2:DO w1 q 2 (.slice av sl cv):=by have:=Jk.o.box.c2;rw[HV.o,<-Jl.o]at this;exact this
 by_cases hs:0<sl;rotate_left 1
 ·have Jx:¬(0:Int)<(sl:Int):=o_
  have c3:=Jk.o.box.c3;go_wp2_with fail;generalize w1=I at*;generalize nm=nx at*;have Jb:Hid (GS g a len cap q S I G K):=Jk.o;have Jn:Hid (aj (Sq g q) w I):=Jo.o;have Jm:Hid (nx.size<=100000):=Jp.o;clear Jk Jo Jp c2;all_goals (
   have Jc:G.ls.length<=10000000:=t_ Jb.o.ok.ll o_;refine(gz G.ls G.vl nx I Jc (Jb.o.ok.l I (aj.refl _ _))).mono ?_;rintro e J ⟨rfl,Jg⟩;have Ja:Hid (GS g a len cap q S J G K):=Jb.o.below Jg;have Ji:Hid (aj (Sq g q) w J):=Jn.o.of_below Jg;have x0:=Ja.o.box.c0;have x1:=Ja.o.box.c1;have x2:=Ja.o.box.c2;have x3:=Ja.o.box.c3;have x4:=Ja.o.box.c4;generalize dF G.ls nx=bb;cases bb
   all_goals (
    go_wp2_with fail;refine(eI g a len cap (S0 g) G K J Z Ja.o.lo0 Ja.o.cur Ja.o.ok0 hK).mono ?_;rintro e w5 ⟨u5,e5,rfl,Je,Jj,Jf⟩;obtain⟨a5,c5,rfl,-⟩:=aH Je;have U:=λ(nm:Io) (on:nm.size<=100000)=>jo (L:=L) 2 0 0 nm ((Ja.o.dr Jf).more (Nat.le_add_right _ _)) (Ji.o.trans (Jf.tcs.mono mL)) (eJ Je Ji.o.size) (λW _=>dd W) (Jj.e3 o_) (cI.nil.more y_) on Ju;have Jd:=ah U;clear U Je Jj Jf x0 x1 x2 x3 x4;generalize e5.length=l5 at Jd⊢;go_wp2;go_ret;first
    | exact⟨_,rfl,Jd.o _ Jm⟩
    | exact⟨_,rfl,Jd.o _ d_⟩))
 have Jx:(0:Int)<(sl:Int):=o_;go_wp2_with fail;refine(aE g a len cap (S0 g) _ _ Z Js Jk.o.cur o_).mono ?_;rintro e w2 ⟨y,rfl,hy,Jv⟩;have Jh:Hid (GS g a len cap q S w2 G K):=Jk.o.dr Jv;have Jt:Hid (aj (Sq g q) w w2):=Jo.o.trans (Jv.tcs.mono mL);have Jy:DO w2 q 2 (.slice av sl cv):=by have:=Jh.o.box.c2;rw[HV.o,<-Jl.o]at this;exact this
 by_cases hy0:0<y
 ·go_wp2_with fail;have HP:Hid (∀W,aj (S0 g) w2 W->be W (.slice av sl cv) G.ss):=λW hW=>by have:=Jh.o.ok0.s W hW;rw[HV.o,<-Jl.o]at this;exact this
  refine(ik g a len cap (S0 g) G.ss _ w2 Z Js Jh.o.cur HP.o ⟨by rw[<-Jl.o];omega,by rw[<-Jl.o];omega⟩).mono ?_;rintro e I ⟨nx,hn,rfl,Jq⟩;have Jb:Hid (GS g a len cap q S I G K):=Jh.o.dr Jq;have Jn:Hid (aj (Sq g q) w I):=Jt.o.trans (Jq.tcs.mono mL);have Jm:Hid (nx.size<=100000):=Jh.o.ok.ns.2.1 nx hn;have c3:=Jb.o.box.c3;clear Jq hn Jy HP Jh Jt Jk Jo;go_wp2_with fail;all_goals (
   have Jc:G.ls.length<=10000000:=t_ Jb.o.ok.ll o_;refine(gz G.ls G.vl nx I Jc (Jb.o.ok.l I (aj.refl _ _))).mono ?_;rintro e J ⟨rfl,Jg⟩;have Ja:Hid (GS g a len cap q S J G K):=Jb.o.below Jg;have Ji:Hid (aj (Sq g q) w J):=Jn.o.of_below Jg;have x0:=Ja.o.box.c0;have x1:=Ja.o.box.c1;have x2:=Ja.o.box.c2;have x3:=Ja.o.box.c3;have x4:=Ja.o.box.c4;generalize dF G.ls nx=bb;cases bb
   all_goals (
    go_wp2_with fail;refine(eI g a len cap (S0 g) G K J Z Ja.o.lo0 Ja.o.cur Ja.o.ok0 hK).mono ?_;rintro e w5 ⟨u5,e5,rfl,Je,Jj,Jf⟩;obtain⟨a5,c5,rfl,-⟩:=aH Je;have U:=λ(nm:Io) (on:nm.size<=100000)=>jo (L:=L) 2 0 0 nm ((Ja.o.dr Jf).more (Nat.le_add_right _ _)) (Ji.o.trans (Jf.tcs.mono mL)) (eJ Je Ji.o.size) (λW _=>dd W) (Jj.e3 o_) (cI.nil.more y_) on Ju;have Jd:=ah U;clear U Je Jj Jf x0 x1 x2 x3 x4;generalize e5.length=l5 at Jd⊢;go_wp2;go_ret;first
    | exact⟨_,rfl,Jd.o _ Jm⟩
    | exact⟨_,rfl,Jd.o _ d_⟩))
 have c3:=Jh.o.box.c3;go_wp2_with fail;generalize w2=I at*;generalize nm=nx at*;have Jb:Hid (GS g a len cap q S I G K):=Jh.o;have Jn:Hid (aj (Sq g q) w I):=Jt.o;have Jm:Hid (nx.size<=100000):=Jp.o;all_goals (
  have Jc:G.ls.length<=10000000:=t_ Jb.o.ok.ll o_;refine(gz G.ls G.vl nx I Jc (Jb.o.ok.l I (aj.refl _ _))).mono ?_;rintro e J ⟨rfl,Jg⟩;have Ja:Hid (GS g a len cap q S J G K):=Jb.o.below Jg;have Ji:Hid (aj (Sq g q) w J):=Jn.o.of_below Jg;have x0:=Ja.o.box.c0;have x1:=Ja.o.box.c1;have x2:=Ja.o.box.c2;have x3:=Ja.o.box.c3;have x4:=Ja.o.box.c4;generalize dF G.ls nx=bb;clear Jg c3;cases bb
  all_goals (
   go_wp2_with fail;refine(eI g a len cap (S0 g) G K J Z Ja.o.lo0 Ja.o.cur Ja.o.ok0 hK).mono ?_;rintro e w5 ⟨u5,e5,rfl,Je,Jj,Jf⟩;obtain⟨a5,c5,rfl,-⟩:=aH Je;have U:=λ(nm:Io) (on:nm.size<=100000)=>jo (L:=L) 2 0 0 nm ((Ja.o.dr Jf).more (Nat.le_add_right _ _)) (Ji.o.trans (Jf.tcs.mono mL)) (eJ Je Ji.o.size) (λW _=>dd W) (Jj.e3 o_) (cI.nil.more y_) on Ju;have Jd:=ah U;generalize e5.length=l5 at Jd⊢;go_wp2;go_ret;first
   | exact⟨_,rfl,Jd.o _ Jm⟩
   | exact⟨_,rfl,Jd.o _ d_⟩))
end
section
variable{g len cap q K:Nat}{a:Option Addr}{S:Ft}{w0 w2:AT}{G:Gn}{v:BY}{ss:List Io}{nm:Io}
def sP(w:AT)(v:BY)(ss:List Io)(nm:Io)(h:be w v ss)(hl:ss.length<=100000)(I:JZ):
  ∃v1 w1 a2 n2 c2 w2,(Builtin.append_ #[49,49] I #[rV w.heap.size 0 0,v]).run prog (w.alloc (.cells #[] 9))=.ok v1 w1/\(Builtin.append_ #[49,49] I #[v1,rV w1.heap.size 1 1]).run prog (w1.alloc (.cells #[sV nm] 9))=.ok (.slice a2 n2 c2) w2/\w2.ownsRow w.heap.size 9 1 (.slice a2 n2 c2) (ss++[nm]).length ((ss++[nm]).map Value.string)/\Bl w w2:=by
 have⟨Z,hi,Jd,Je,Jf⟩:=info_parts iJ;have Ja:Bl w (w.alloc (.cells #[] 9)):=ao _ _;have J:(w.alloc (.cells #[] 9)).ownsRow w.heap.size 9 1 (rV w.heap.size 0 0) 0 []:=ownsRow_lit w #[] 0 n_ d_ rfl;obtain⟨a,c,rfl,hn,hc⟩:=(h.below Ja).src;obtain⟨v1,w1,r1,o1,g1,-⟩:=cU (P:=prog) (w:=w.alloc (.cells #[] 9)) w.heap.size 49 I 9 Z _ 1 16 underlying49 hi Jd Je Jf rfl d_ _ 0 [] J a ss.length c (ss.map Value.string) (λe=>by rw[hn e];rfl) i_ hc (λu hu=>by obtain⟨x,-,rfl⟩:=mem_map.1 hu;rfl) o_ d_ Ja.size;have Jh:Bl w w1:=Ja.grown g1 Ja.size (λj hj=>(ownsRow.lt J j hj).1);have Jc:Bl w (w1.alloc (.cells #[sV nm] 9)):=Jh.alloc Jh.size _;have Jg:=ownB o1 ((Below.refl w1.heap.size w1).alloc n_ (.cells #[sV nm] 9));have Jb:(w1.alloc (.cells #[sV nm] 9)).ownsRow w1.heap.size 9 1 (rV w1.heap.size 1 1) 1 [sV nm]:=ownsRow_lit w1 #[sV nm] 1 n_ d_ rfl;obtain⟨v2,w2,r2,U,g2,-⟩:=cU (P:=prog) (w:=w1.alloc (.cells #[sV nm] 9)) w.heap.size 49 I 9 Z _ 1 16 underlying49 hi Jd Je Jf rfl d_ v1 _ _ Jg (some ⟨w1.heap.size,0,none⟩) 1 1 [sV nm] (λe=>by cases e) rfl (λad had j u hu=>by cases had;exact ownsRow.cells Jb (g:=w1.heap.size) rfl j u hu) (λu hu=>by simp at hu;subst hu;rfl) o_ d_ Jc.size;obtain⟨a2,c2,rfl,-⟩:=aH U;refine⟨v1,w1,a2,_,c2,w2,r1,r2,?_,Jc.grown g2 Jc.size (λj hj=>(ownsRow.lt Jg j hj).1)⟩;have e1:(ss++[nm]).length=0+ss.length+1:=i_;have e2:(ss++[nm]).map Value.string=[]++ss.map Value.string++[sV nm]:=i_;rw[e1,e2];exact U
def rE(w:AT)(B:Nat)(hB:B<=w.heap.size)(k1 v1 k2 v2 k3 v3:Int)(s1 s2 s3:Io):aW B (w.alloc (.cells #[V k1,V v1,sV s1,V k2,V v2,sV s2,V k3,V v3,sV s3] 81)) (rV w.heap.size 3 3) [⟨k1,v1,s1⟩,⟨k2,v2,s2⟩,⟨k3,v3,s3⟩]:=
 ownsRow_lit w #[V k1,V v1,sV s1,V k2,V v2,sV s2,V k3,V v3,sV s3] 3 hB d_ rfl
def cI.three{k1 v1 k2 v2 k3 v3:Int}{s1 s2 s3:Io}(h1:s1.size<=100000)(h2:s2.size<=100000)(h3:s3.size<=100000):cI [⟨k1,v1,s1⟩,⟨k2,v2,s2⟩,⟨k3,v3,s3⟩] 3:=
 (cI.one h1).app ((cI.one h2).app (cI.one h3))
def l6(h:GS g a len cap q S w0 G K)(U:Bl w0 w2)(I:w2.ownsRow w0.heap.size 9 1 v (ss++[nm]).length ((ss++[nm]).map Value.string))(Z:∀x∈ss,x.size<=100000)(hn:nm.size<=100000)(J:ss.length+1<=K):GS g a len cap q S (w2.setCell ⟨q,2,none⟩ v) {G with vs:=v,ss:=ss++[nm]} K:=by have h2:=h.below U;refine h2.set (h2.box.set2 _ _) (h2.ok.setS (λW hW=>ij (bE I hW h.lo.s)) (λx hx=>?_) (IN J));rcases J5.1 hx with hx|hx;exact Z x hx;simp only[J7]at hx;subst hx;exact hn
def C5(h:GS g a len cap q S w0 G K)(U:Bl w0 w2)(I:w2.ownsRow w0.heap.size 9 1 v (ss++[nm]).length ((ss++[nm]).map Value.string))(Z:∀x∈ss,x.size<=100000)(hn:nm.size<=100000)(J:ss.length+1<=K):GS g a len cap q S (w2.setCell ⟨q,3,none⟩ v) {G with vl:=v,ls:=ss++[nm]} K:=by have h2:=h.below U;refine h2.set (h2.box.set3 _ _) (h2.ok.setL (λW hW=>ij (bE I hW h.lo.s)) (λx hx=>?_) (IN J));rcases J5.1 hx with hx|hx;exact Z x hx;simp only[J7]at hx;subst hx;exact hn
end
theorem C6(g:Nat)(a:Option Addr)(len cap q d:Nat)(hl:len<=1048576)(hd:d<=3)(hX:Iw g a len cap q d)(z:Int)(hz:z=((d+1:Nat):Int))(S:Ft)(G:Gn)(K:Nat)(w:AT)(h:GS g a len cap q S w G K)(hK:K+rx (d+1)<=50000):
  Calls prog 109 #[pV g,pV q,V z] w λe w'=>∃v,e=rW v/\tG g a len cap q S K (rx (d+1)) 1 w v w':=by
 have Vn:=xJ (d:=d) o_;have⟨D,hD⟩:=q_ (rx d);have Zu:rx (d+1)=4*D+3:=by rw[hD];rfl
 rw[Zu]at hK⊢;have⟨HX,HD⟩:=h2 hX hD;have Ue:1<=z/\z<=4:=o_;have HZ:Hid (z-1=d):=by show _=_;omega
 rw[<-hD]at Vn;clear hX hD Zu hz;have HG:=ah h;have Zp:S0 g g:=rfl;have HS:Hid (∀W,aj S w W->be W G.vs G.ss):=h.ok.s;have Vc:Hid (∀x∈G.ss,x.size<=100000):=h.ok.ns.2.1;have Vp:Hid (∀x∈G.ls,x.size<=100000):=h.ok.ns.2.2;have Y_:Hid (∀k,Sq g q k->S k):=h.sqs;have Vy:=h.ok.sl;have Uc:=h.ok.ll;have HL:Hid (Lo g a len S w.heap.size):=h.lo;have Xy:Hid (S q):=h.sq;clear h;go_in;go_wp2_with fail;refine(mM g a len cap q S G K w HG.o o_).mono ?_;rintro e w1 ⟨nm,rfl,Yf,Js,Yu⟩;have⟨Jw,Ui,Ub⟩:=h3 Yf Js Yu;have⟨Ug,Uf,xa,xn,xc,Xf,Zo,Zs,oa,ba⟩:=sP w1 G.vs G.ss nm (Js.ok.s w1 (aj.refl _ _)) o_ 49;have Yk:=l6 Js ba oa Vc.o Yf o_;have Yx:aj (Sq g q) w (Xf.setCell ⟨q,2,none⟩ (.slice xa xn xc)):=(Yu.of_below ba).trans (pI Xf (.slice xa xn xc));have c2:w1.cell? ⟨q,2,none⟩=some G.vs:=Js.box.c2;have Zi:(w1.alloc (.cells #[] 9)).cell? ⟨q,2,none⟩=some G.vs:=(Js.alloc _).box.c2;have Zc:=(Js.below ba).box;have d2:Xf.cell? ⟨q,2,none⟩=some G.vs:=Zc.c2;have f2:Xf.frozen? ⟨q,2,none⟩=false:=Zc.fz 2;have⟨W3,Yv⟩:=q_ (Xf.setCell ⟨q,2,none⟩ (.slice xa xn xc));have Zy:=ah Yv;rw[<-Yv]at Yk Yx;have⟨Ju,Xr,Xv,Vx⟩:=h4 Zo Zs Yk Yx;clear Yf Js Yu oa Yk Zc Zo Zs ba Yx Yv;generalize hgv:G.vs=gvs at c2 Zi d2 Ju;have Vu:=ah hgv;clear hgv;go_upto_region 4 with(at_builtin;first
  | refine ay rfl (.tmp 19) (.tmp 23) _ rfl _ _ _ _ rfl rfl Ju.o ?_
  | refine ay rfl (.tmp 24) (.tmp 26) _ rfl _ _ _ _ rfl rfl Xr.o ?_)
 rw[<-Zy.o];clear c2 Zi d2 f2 Zy Ju Xr;have⟨Ud,V_,ya,yn,yc,Xh,Z_,Ve,ob,bb⟩:=sP W3 G.vl G.ls nm (Xv.o.ok.l _ (aj.refl _ _)) o_ 49;have Zd:=C5 Xv.o bb ob Vp.o Jw.o o_;have Yi:aj (Sq g q) w (Xh.setCell ⟨q,3,none⟩ (.slice ya yn yc)):=(Vx.o.of_below bb).trans (pI Xh (.slice ya yn yc));have d3:W3.cell? ⟨q,3,none⟩=some G.vl:=Xv.o.box.c3;have Zw:(W3.alloc (.cells #[] 9)).cell? ⟨q,3,none⟩=some G.vl:=(Xv.o.alloc _).box.c3;have Yo:=(Xv.o.below bb).box;have e3:Xh.cell? ⟨q,3,none⟩=some G.vl:=Yo.c3;have k3:Xh.frozen? ⟨q,3,none⟩=false:=Yo.fz 3;have⟨W5,Ys⟩:=q_ (Xh.setCell ⟨q,3,none⟩ (.slice ya yn yc));have Vd:=ah Ys;rw[<-Ys]at Zd Yi;obtain⟨G5,Zg⟩:∃G5:Gn,G5={G with m:=G.m+1,vs:=(.slice xa xn xc),ss:=G.ss++[nm],vl:=(.slice ya yn yc),ls:=G.ls++[nm]}:=⟨_,rfl⟩;have Vg:Hid (GS g a len cap q S W5 G5 (K+1)):=by rw[Zg];exact Zd
 have⟨Zq,Jt,Jz⟩:=h3 Yi Z_ Ve;clear Z_ Ve ob bb Zd Yi Yo Ys Zg;generalize G.vl=gvl at d3 Zw e3 Jt;go_upto_region 5 with(at_builtin;first
  | refine ay rfl (.tmp 31) (.tmp 35) _ rfl _ _ _ _ rfl rfl Jt.o ?_
  | refine ay rfl (.tmp 36) (.tmp 38) _ rfl _ _ _ _ rfl rfl Jz.o ?_)
 rw[<-Vd.o];clear d3 Zw e3 k3 Vd Jt Jz;have⟨J,Jv⟩:=q_ (W5.alloc (.cells #[V 2,V 0,sV nm] 81));have Zt:=ah Jv;have Zf:Hid (GS g a len cap q S J G5 (K+1)):=by rw[Jv];exact Vg.o.alloc _
 have Vv:Hid (aj (Sq g q) w J):=by rw[Jv];exact Zq.o.alloc _
 have⟨P,hP⟩:=q_ W5.heap.size;have HP:=ah hP;have Vz:w.heap.size<=P:=by rw[hP];exact Zq.o.size
 have Vb:Hid (∀W,aj (Sq g q) J W->W.cell? ⟨P,0,none⟩=some (V 2)/\W.cell? ⟨P,1,none⟩=some (V 0)/\W.cell? ⟨P,2,none⟩=some (sV nm)):=λW hW=>by
  have Vo:P<J.heap.size:=by rw[Jv,hP];simp
  have e:∀o,W.cell? ⟨P,o,none⟩=J.cell? ⟨P,o,none⟩:=λo=>c_ (a:=⟨P,o,none⟩) (hW.block P Vo (λs=>by have:=HG.o.lo.s P (Y_.o P s);omega));rw[e,e,e,Jv,hP];exact⟨i_,i_,i_⟩
 clear Jv hP;go_upto_region 6 with fail;rw[<-Zt.o,<-HP.o];clear Zt HP;go_wp2_with fail;refine(aE g a len cap (S0 g) _ _ hl Zp Zf.o.cur o_).mono ?_;rintro e U ⟨x,rfl,hx,Yd⟩;have Yg:Hid (GS g a len cap q S U G5 (K+1)):=Zf.o.dr Yd;have Va:Hid (aj (Sq g q) w U):=Vv.o.trans (Yd.tcs.mono mL);have Jp:Hid (aj (Sq g q) J U):=Yd.tcs.mono mL;have⟨n,Vw⟩:=q_ ((1+x).toNat);have Vr:n<=3/\1<=n:=o_;have Vl:Hid (1+x=(n:Int)):=by show _=_;omega
 have⟨nD,Yq⟩:=q_ (n*rx d);have Zx:=ah Yq;have Vj:nD<=3*D:=by rw[Yq,<-HD.o];exact Nat.mul_le_mul_right _ Vr.1
 clear Yd Vw Yq;go_wp2_with fail;refine(iT g a len cap q d o_ HX.o n o_ _ _ Vl.o HZ.o S G5 (K+1) U Yg.o (by rw[<-Zx.o];omega)).mono ?_;rintro e I ⟨vb,rfl,Rb,G8,Jl,Vi,Ze,Xm⟩;rw[<-Zx.o]at Jl Ze;obtain⟨ba,bn,bc,rfl⟩:∃ba bn bc,vb=.slice ba bn bc:=by have⟨x,y,e⟩:=Jl.shape;exact⟨x,_,y,e⟩
 have⟨p0,p1,p2⟩:=Vb.o I (Jp.o.trans Xm);have Vh:U.heap.size<=I.heap.size:=Xm.size;have Zm:w.heap.size<=U.heap.size:=Va.o.size;have Yh:P<I.heap.size:=b_ p0;have Jc:=lY (w:=I.alloc (.cells #[V 2,V 0,sV nm,V 1,V 1,sV ⟨#[]⟩,V 7,V 4,sV ⟨#[]⟩] 81)) (B:=I.heap.size) (kd:=2) (th:=0) (el:=0) (nm:=nm) (vf:=nV) (f:=[]) i_ (eJ (rE I I.heap.size n_ 2 0 1 1 7 4 nm ⟨#[]⟩ ⟨#[]⟩) n_) (λW _=>dd W) ((cI.three Jw.o d_ d_).e3 o_) (cI.nil.more y_) Jw;have Xj:=(Jl.below ((Below.refl I.heap.size I).alloc n_ (.cells #[V 2,V 0,sV nm,V 1,V 1,sV ⟨#[]⟩,V 7,V 4,sV ⟨#[]⟩] 81))).below (r_.alloc n_ (.cells #[V 2,sV nm,rV I.heap.size 3 3,nV,V 0,V 0] 79));have Jy:=(Ze.alloc (.cells #[V 2,V 0,sV nm,V 1,V 1,sV ⟨#[]⟩,V 7,V 4,sV ⟨#[]⟩] 81)).alloc (.cells #[V 2,sV nm,rV I.heap.size 3 3,nV,V 0,V 0] 79);have Xc:=(((Va.o.trans Xm).alloc (.cells #[V 2,V 0,sV nm,V 1,V 1,sV ⟨#[]⟩,V 7,V 4,sV ⟨#[]⟩] 81)).alloc (.cells #[V 2,sV nm,rV I.heap.size 3 3,nV,V 0,V 0] 79));have⟨Vm,Jo,Yl,h11,Xb,Zk⟩:=kE 50 Xj Jc H6 o_ (j9 Jc Vh (λk hk=>(Jl.rng k hk).2));obtain⟨ca,cn,cc,rfl⟩:∃ca cn cc,Vm=.slice ca cn cc:=by have⟨x,y,e⟩:=h11.shape;exact⟨x,_,y,e⟩
 simp only[Bl,J9]at Yl;have⟨Xn,Zh,Xe⟩:=h3 Yl h11 (Jy.app Yg.o.lo Xy.o (λk hk=>(Jl.rng k hk).1) Xb Zk (λk hk=>(h11.rng k hk).2));have Yp:Hid (aj (Sq g q) w Jo):=Xc.next Xb (λk hk=>.inr (t_ Zm (Jl.rng k hk).1));have Yn:Hid (aj (Sq g q) J Jo):=(((Jp.o.trans Xm).alloc _).alloc _).next Xb (λk hk=>.inr (t_ Jp.o.size (Jl.rng k hk).1));have Vs:U.heap.size<=Jo.heap.size:=by have:=Xb.size;simp at this;omega
 clear Jl Vi Ze Xm Jc Xj Jy Xc Yl h11 Xb Zk;go_upto_region 8 with(at_builtin;refine ay rfl _ _ _ rfl _ _ _ _ rfl rfl Xn.o ?_);clear p0 p1 p2 Xn Yh;go_wp2_with fail;refine(aE g a len cap (S0 g) _ _ hl Zp Xe.o.cur o_).mono ?_;rintro e Jb ⟨y,rfl,hy,Jf⟩;have Ji:=Xe.o.dr Jf;have Xd:Hid (aj (Sq g q) w Jb):=Yp.o.trans (Jf.tcs.mono mL);have Zb:Hid (aj (Sq g q) J Jb):=Yn.o.trans (Jf.tcs.mono mL);have Jm:Hid (aj (Sq g q) Jo Jb):=Jf.tcs.mono mL;have⟨Jd,Ja⟩:=q_ ((Jb.alloc (.cells #[V 1,V y,sV ⟨#[]⟩] 81)).alloc (.cells #[V 1,sV nm,rV Jb.heap.size 1 1,nV,V 0,V 0] 79));have J_:=ah Ja;have⟨O,hO⟩:=q_ (Jb.heap.size+1);have HO:=ah hO;have Yb:=lY (w:=Jb.alloc (.cells #[V 1,V y,sV ⟨#[]⟩] 81)) (B:=Jb.heap.size) (kd:=1) (th:=0) (el:=0) (nm:=nm) (vf:=nV) (f:=[]) i_ (eJ (cG Jb Jb.heap.size n_ 1 y ⟨#[]⟩) n_) (λW _=>dd W) ((cI.one d_).e3 o_) (cI.nil.more y_) Jw;have Jh:=GS.add (v:=.slice (some ⟨Jb.heap.size+1,0,none⟩) 1 1) Ji ((Ji.alloc (.cells #[V 1,V y,sV ⟨#[]⟩] 81)).alloc (.cells #[V 1,sV nm,rV Jb.heap.size 1 1,nV,V 0,V 0] 79)) (((aj.refl _ _).alloc _).alloc _) (λk hk=>by simp[ownBlock]at hk;subst hk;simp);simp only[Bl,J9]at Yb;rw[<-Ja]at Jh;rw[<-Ja,<-hO]at Yb;rw[<-hO]at Jh;have⟨Xp,Yw⟩:=h2 Yb Jh;have Yz:Hid (Lo g a len (Sv S (.slice ca cn cc)) Jb.heap.size):=Ji.lo;have Yj:Hid (aj (Sq g q) w Jd):=by rw[Ja];exact(Xd.o.alloc _).alloc _
 have Yr:Hid (aj (Sq g q) J Jd):=by rw[Ja];exact(Zb.o.alloc _).alloc _
 have Xa:Hid (aj (Sq g q) Jo Jd):=by rw[Ja];exact(Jm.o.alloc _).alloc _
 have Xs:w.heap.size<=Jb.heap.size:=Xd.o.size;have Xx:Jb.heap.size<=Jd.heap.size:=by rw[Ja];simp;omega
 have Jn:Jo.heap.size<=Jb.heap.size:=Jm.o.size;clear Jf Ji Yb Jh Ja hO;go_upto_region 9 with fail;rw[<-J_.o,<-HO.o];clear J_ HO;have⟨p0,p1,p2⟩:=Vb.o Jd Yr;have Yh:P<Jd.heap.size:=b_ p0;have Jc:=lY (w:=Jd.alloc (.cells #[V 2,V 0,sV nm,V 1,V 0,sV ⟨#[]⟩,V 7,V 9,sV ⟨#[]⟩] 81)) (B:=Jd.heap.size) (kd:=5) (th:=cn) (el:=0) (nm:=⟨#[]⟩) (vf:=nV) (f:=[]) i_ (eJ (rE Jd Jd.heap.size n_ 2 0 1 0 7 9 nm ⟨#[]⟩ ⟨#[]⟩) n_) (λW _=>dd W) ((cI.three Jw.o d_ d_).e3 o_) (cI.nil.more y_) d_;have Xl:=(Xp.o.below ((Below.refl Jd.heap.size Jd).alloc n_ (.cells #[V 2,V 0,sV nm,V 1,V 0,sV ⟨#[]⟩,V 7,V 9,sV ⟨#[]⟩] 81))).below (r_.alloc n_ (.cells #[V 5,sV ⟨#[]⟩,rV Jd.heap.size 3 3,nV,V cn,V 0] 79));have Xw:=(Yw.o.alloc (.cells #[V 2,V 0,sV nm,V 1,V 0,sV ⟨#[]⟩,V 7,V 9,sV ⟨#[]⟩] 81)).alloc (.cells #[V 5,sV ⟨#[]⟩,rV Jd.heap.size 3 3,nV,V cn,V 0] 79);have⟨Vt,Z,Yy,X_,Xz,Zj⟩:=kE 50 Xl Jc H6 o_ (j9 Jc Xx (λk hk=>(Xp.o.rng k hk).2));obtain⟨da,dn,dc,rfl⟩:∃da dn dc,Vt=.slice da dn dc:=by have⟨x,y,e⟩:=X_.shape;exact⟨x,_,y,e⟩
 simp only[Bl,J9]at Yy;have⟨Xu,Zv,Xg⟩:=h3 Yy X_ (Xw.app Yz.o (.inl Xy) (λk hk=>(Xp.o.rng k hk).1) Xz Zj (λk hk=>(X_.rng k hk).2));have Jr:Hid (aj (Sq g q) w Z):=((Yj.o.alloc _).alloc _).next Xz (λk hk=>.inr (t_ Xs (Xp.o.rng k hk).1));have Xq:Hid (aj (Sq g q) Jo Z):=((Xa.o.alloc _).alloc _).next Xz (λk hk=>.inr (t_ Jn (Xp.o.rng k hk).1));clear Jc Xl Xw Yy X_ Xz Zj;go_upto_region 10 with(at_builtin;refine ay rfl _ _ _ rfl _ _ _ _ rfl rfl Xu.o ?_);clear p0 p1 p2 Xu Yh;have Zn:be Z gvs G.ss:=by have:=HS.o Z (Jr.o.mono Y_.o);rwa[Vu]at this
 have⟨Uh,Ua,za,zn,zc,Ya,Zz,Zl,oc,bc⟩:=sP Z gvs G.ss nm Zn o_ 49;have Jq:=l6 Xg.o bc oc Vc.o Jw.o o_;have Ye:=(Xg.o.below bc).box;have d2:Ya.cell? ⟨q,2,none⟩=some G8.vs:=Ye.c2;have f2:Ya.frozen? ⟨q,2,none⟩=false:=Ye.fz 2;have⟨W19,Jk⟩:=q_ (Ya.setCell ⟨q,2,none⟩ (.slice za zn zc));have Xo:=ah Jk;have Jg:aj (Sq g q) Z W19:=by rw[Jk];exact bc.tcs.trans (pI Ya _)
 rw[<-Jk]at Jq;have Je:aj (Sq g q) Jo W19:=Xq.o.trans Jg;have Yc:∀k,Sq g q k->k<U.heap.size:=λk hk=>Yg.o.lo.s k (Y_.o k hk);have Jj:SR w.heap.size W19 (.slice da dn dc) _ (1+1):=(Zv.o.tcs Jg (λk hk=>l_ (Yc k hk) o_)).low Xs;have Xk:=Zh.o.tcs Je Yc;have⟨Vq,Vk,Zr,Ym,Za,Vf⟩:=kE 50 Jj Xk (t_ Jr.o.size Jg.size) o_ (lZ Zh.o (Je.mono Yc) Zm (λk hk=>t_ Jn (Zv.o.rng k hk).1));have Yt:=ah Zr;have HF:Hid (tG g a len cap q S K (4*D+3) 1 w Vq Vk):=by refine⟨_,_,Ym.more o_,i_,GS.more ((Jq.sub (S':=Sv S (.slice da dn dc)) (λk hk=>hk.imp .inl id) (.inl HL.o.sg) (.inl Xy)).app HL.o Xy.o (λk hk=>(Jj.rng k hk).1) Za Vf (λk hk=>(Ym.rng k hk).2)) o_,?_⟩;exact(Jr.o.trans Jg).next Za (λk hk=>.inr (Jj.rng k hk).1)
 have⟨Xi,Xt⟩:=h2 Zz Zl;clear Zz Zl oc bc Jq Ye Jk Jg Je Yc Jj Xk Zr Ym Za Vf Zn;generalize G8.vs=g8v at d2;go_upto_region 11 with(at_builtin;first
  | refine ay rfl (.tmp 79) (.tmp 80) _ rfl _ _ _ _ rfl rfl Xi.o ?_
  | refine ay rfl (.tmp 81) (.tmp 83) _ rfl _ _ _ _ rfl rfl Xt.o ?_)
 rw[<-Xo.o];clear d2 f2 Xo Xi Xt;go_wp2_with(at_builtin;refine ay rfl _ _ _ rfl _ _ _ _ rfl rfl Yt.o ?_);go_ret;exact⟨_,rfl,HF⟩
end
section
variable{g len cap q K L:Nat}{a:Option Addr}{S:Ft}{w w1:AT}{G:Gn}
def tG.from{m:Nat}{w':AT}{v:BY}(h:tG g a len cap q S K L m w1 v w')(I:aj (Sq g q) w w1):tG g a len cap q S K L m w v w':=by obtain⟨R,J,U,h2,h3,h4⟩:=h;exact⟨R,J,U.low I.size,h2,h3,I.trans h4⟩
def GS.k0(h:GS g a len cap q S w G K):∀k,Sq g q k->k<w.heap.size:=λk hk=>h.lo.s k (h.sqs k hk)
def pJ{n:Nat}{w5:AT}{u:BY}{e:List Nd}(kd:Int)(hG:GS g a len cap q S w1 G K)(hT:aj (Sq g q) w w1)(hd:Dr g a len cap (S0 g) w1 w5)(hr:aW w1.heap.size w5 u e)(hn:cI e n)(hn':n<=3000)(hL:1<=L):tG g a len cap q S K L 1 w (rV w5.heap.size 1 1) (w5.alloc (.cells #[V kd,sV ⟨#[]⟩,u,nV,V 0,V 0] 79)):=
 jo (L:=L) kd 0 0 ⟨#[]⟩ ((hG.dr hd).more (Nat.le_add_right _ _)) (hT.trans (hd.tcs.mono mL)) (eJ hr hT.size) (λW _=>dd W) (hn.e3 hn') (cI.nil.more y_) d_ hL
def GS.cs(h:GS g a len cap q S w G K):∃a c,G.vc=.slice a G.cs.length c:=by obtain⟨a,c,e,-⟩:=h.ok.c w (aj.refl _ _);exact⟨a,c,e⟩
theorem rF(g:Nat)(a:Option Addr)(len cap q:Nat)(Z:len<=1048576)(d:Nat)(hd:d<=4)(hX:∀d',d=d'+1->Iw g a len cap q d'):Iw g a len cap q d:=by
 intro z S G K w hz h hK;have Vq:=xJ hd;have⟨L,hL⟩:=q_ (rx d);have Ys:=ah hL;have HX:=ah hX;rw[<-hL]at Vq hK⊢;have HG:Hid (GS g a len cap q S w G K):=h;have HZ:=ah hz;have Ut:0<=z/\z<=4:=o_;have Jz:S0 g g:=rfl;clear hX hL h hz;go_in;go_wp2_with fail;refine(aE g a len cap (S0 g) _ _ Z Jz HG.o.cur o_).mono ?_;rintro e w1 ⟨k,rfl,I,Xr⟩;have Ja:Hid (GS g a len cap q S w1 G K):=HG.o.dr Xr;have Jg:Hid (aj (Sq g q) w w1):=Xr.tcs.mono mL;have Ua:w.heap.size<=w1.heap.size:=Xr.tcs.size;have U:=Ja.o.box.c0;have x1:=Ja.o.box.c1;have x2:=Ja.o.box.c2;have x3:=Ja.o.box.c3;have x4:=Ja.o.box.c4;clear Xr;have hk14:(k=0\/k=1)\/(k=2\/k=3)\/(k=4\/k=5)\/(k=6\/k=7)\/k=8\/k=9\/k=10\/(k=11\/k=12)\/k=13:=o_;rcases hk14 with hk14|hk14|hk14|hk14|rfl|rfl|rfl|hk14|rfl
 ·rcases hk14 with rfl|rfl;all_goals (
   go_wp2_with fail;refine(eI g a len cap (S0 g) G K w1 Z Ja.o.lo0 Ja.o.cur Ja.o.ok0 o_).mono ?_;rintro e w2 ⟨u2,e2,rfl,Jk,Jm,Jf⟩;obtain⟨a2,c2,rfl,-⟩:=aH Jk;have Jd:Hid (GS g a len cap q S w2 G K):=Ja.o.dr Jf;have Jh:Hid (aj (Sq g q) w w2):=Jg.o.trans (Jf.tcs.mono mL);have Js:Hid (∀W,aj (λk=>k<w.heap.size) w2 W->aC W (.slice a2 e2.length c2) e2):=eJ Jk Jg.o.size;have Xh:Hid (cI e2 3000):=Jm.e3 o_;generalize e2.length=l2 at Js⊢;clear Jk Jm Jf U x1 x2 x3 x4;go_wp2_with fail;refine(mM g a len cap q S G K w2 Jd.o o_).mono ?_;rintro e w3 ⟨nm,rfl,Yg,Jy,Zu⟩;have Ym:Hid (nm.size<=100000):=Yg;have Uv:G.ss.length<=K:=HG.o.ok.sl;have⟨Of,Od,xa,xn,xc,Xo,Zg,Zm,oa,ba⟩:=sP w3 G.vs G.ss nm (Jy.ok.s w3 (aj.refl _ _)) o_ 49;have Za:=l6 Jy ba oa HG.o.ok.ns.2.1 Yg o_;have Zh:DO w3 q 2 G.vs:=Jy.box.c2;have Zc:DO (w3.alloc (.cells #[] 9)) q 2 G.vs:=(Jy.alloc _).box.c2;have Yy:=(Jy.below ba).box;have d2:DO Xo q 2 G.vs:=Yy.c2;have f2:D4 Xo q 2:=Yy.fz 2;have⟨W5,Xq⟩:=q_ (Xo.setCell ⟨q,2,none⟩ (.slice xa xn xc));have Zx:=ah Xq;have Jr:aj (Sq g q) w2 W5:=(by rw[Xq];exact(Zu.of_below ba).trans (pI Xo (.slice xa xn xc)));rw[<-Xq]at Za;have J:Hid (tG g a len cap q S K L 1 w (rV W5.heap.size 1 1) (W5.alloc (.cells #[V 1,sV nm,.slice a2 l2 c2,nV,V 0,V 0] 79))):=jo (L:=L) 1 0 0 nm (Za.more o_) (Jh.o.trans Jr) (λW hW=>Js.o W ((Jr.mono HG.o.k0).trans hW)) (λW _=>dd W) Xh.o (cI.nil.more y_) Ym.o o_;have Jv:=ah Zg;have Xk:=ah Zm;clear Yg Jy Zu oa Za Yy Zg Zm ba Jr Xq;generalize G.vs=gvs at Zh Zc d2 Jv;go_upto_region 8 with(at_builtin;first
    | refine ay rfl (.tmp 32) (.tmp 36) _ rfl _ _ _ _ rfl rfl Jv.o ?_
    | refine ay rfl (.tmp 37) (.tmp 39) _ rfl _ _ _ _ rfl rfl Xk.o ?_)
   rw[<-Zx.o];clear Zh Zc d2 f2 Zx Jv Xk;go_wp2;go_ret;exact⟨_,rfl,J⟩)
 ·rcases hk14 with rfl|rfl;all_goals (
   go_wp2_with fail;refine(Fq g a len cap q Z S G K L o_ w1 Ja.o o_).mono ?_;rintro e w2 ⟨v,rfl,Xg⟩;have J:Hid (tG g a len cap q S K L 1 w v w2):=Xg.from Jg;clear Xg;go_wp2;go_ret;exact⟨_,rfl,J⟩)
 ·rcases hk14 with rfl|rfl;all_goals (
   go_wp2_with fail;refine(pH g a len cap (S0 g) Z 2 o_ 2 G K w1 rfl Ja.o.lo0 Ja.o.cur Ja.o.ok0 o_).mono ?_;rintro e w2 ⟨u2,e2,rfl,Jk,Jm,Jf⟩;have Jd:Hid (GS g a len cap q S w2 G K):=Ja.o.dr Jf;have Jh:Hid (aj (Sq g q) w w2):=Jg.o.trans (Jf.tcs.mono mL);have Yd:ry 2=57:=rfl;have Js:Hid (aC w2 u2 e2):=aW.nodes Jk;have Xh:Hid (cI e2 57):=Jm;have Uz:e2.length<=57:=Jm.1;clear Jk Jm Jf U x1 x2 x3 x4 Yd;go_wp2_with fail;refine(jL e2 _ _ _ _ u2 _ _ (Js.o.below (ao _ _)) (cG w2 0 y_ _ _ _).nodes H6).mono ?_;rintro e w3 ⟨u3,rfl,Yh,Zo⟩;have Ju:=((Below.refl w2.heap.size w2).alloc n_ (.cells #[V 1,V 7,sV ⟨#[]⟩] 81)).trans (Zo.mono i_);obtain⟨a3,n3,Ve,rfl⟩:∃x y z,u3=.slice x y z:=(by obtain⟨x,y,e,-⟩:=aH Yh;exact⟨x,_,y,e⟩);have Ji:Hid (GS g a len cap q S w3 G K):=Jd.o.below Ju;have Vg:Hid (aj (Sq g q) w w3):=Jh.o.of_below Ju;have V_:Hid (∀W,aj (λk=>k<w.heap.size) w3 W->aC W (.slice a3 n3 Ve) (e2++[⟨1,7,⟨#[]⟩⟩]++[⟨7,13,⟨#[]⟩⟩])):=eJ Yh (t_ Jh.o.size i_);have U:=Ji.o.box.c0;have x1:=Ji.o.box.c1;have x2:=Ji.o.box.c2;have x3:=Ji.o.box.c3;have x4:=Ji.o.box.c4;clear Yh Zo Ju Js;go_wp2_with fail;refine(eI g a len cap (S0 g) G K w3 Z Ji.o.lo0 Ji.o.cur Ji.o.ok0 o_).mono ?_;rintro e w5 ⟨u5,e5,rfl,Jb,Je,Jc⟩;obtain⟨a5,c5,rfl,-⟩:=aH Jb;have J:Hid (tG g a len cap q S K L 1 w (rV w5.heap.size 1 1) (w5.alloc (.cells #[V 3,sV ⟨#[97]⟩,.slice a3 n3 Ve,.slice a5 e5.length c5,V 0,V 0] 79))):=jo (L:=L) 3 0 0 ⟨#[97]⟩ ((Ji.o.dr Jc).more (Nat.le_add_right _ _)) (Vg.o.trans (Jc.tcs.mono mL)) (λW hW=>V_.o W (((Jc.tcs.mono mL).mono HG.o.k0).trans hW)) (eJ Jb Vg.o.size) (cI.more ((Xh.o.app (cI.one d_)).app (cI.one d_)) o_) (Je.e3 o_) d_ o_;clear Jb Je Jc U x1 x2 x3 x4;generalize e5.length=l5 at J⊢;go_wp2;go_ret;exact⟨_,rfl,J⟩)
 ·rcases hk14 with rfl|rfl;all_goals (
   go_wp2_with fail;refine(eI g a len cap (S0 g) G K w1 Z Ja.o.lo0 Ja.o.cur Ja.o.ok0 o_).mono ?_;rintro e w5 ⟨u5,e5,rfl,Jb,Je,Jc⟩;obtain⟨a5,c5,rfl,-⟩:=aH Jb;have J:=ah (pJ (L:=L) 7 Ja.o Jg.o Jc Jb Je o_ o_);clear Jb Je Jc U x1 x2 x3 x4;generalize e5.length=l5 at J⊢;go_wp2;go_ret;exact⟨_,rfl,J⟩)
 ·go_wp2_with fail;refine(fd g a len cap (S0 g) _ _ Z Jz Ja.o.cur o_).mono ?_;rintro e w2 ⟨b2,rfl,Jf⟩;have Jd:Hid (GS g a len cap q S w2 G K):=Ja.o.dr Jf;have Jh:Hid (aj (Sq g q) w w2):=Jg.o.trans (Jf.tcs.mono mL);clear Jf U x1 x2 x3 x4 Ja Jg Ua;generalize w2=w1 at*;have Ja:Hid (GS g a len cap q S w1 G K):=Jd.o;have Jg:Hid (aj (Sq g q) w w1):=Jh.o;clear Jd Jh;have U:=Ja.o.box.c0;have x1:=Ja.o.box.c1;have x2:=Ja.o.box.c2;have x3:=Ja.o.box.c3;have x4:=Ja.o.box.c4;cases b2
  ·go_wp2_with fail;refine(gB g a len cap (S0 g) G K w1 Z Ja.o.lo0 Ja.o.cur Ja.o.ok0 o_).mono ?_;rintro e w5 ⟨u5,e5,rfl,Jb,Je,Jc⟩;obtain⟨a5,c5,rfl,-⟩:=aH Jb;have J:=ah (pJ (L:=L) 7 Ja.o Jg.o Jc Jb Je o_ o_);clear Jb Je Jc U x1 x2 x3 x4;generalize e5.length=l5 at J⊢;go_wp2;go_ret;exact⟨_,rfl,J⟩
  go_wp2_with fail;refine(eI g a len cap (S0 g) G K w1 Z Ja.o.lo0 Ja.o.cur Ja.o.ok0 o_).mono ?_;rintro e w5 ⟨u5,e5,rfl,Jb,Je,Jc⟩;obtain⟨a5,c5,rfl,-⟩:=aH Jb;have J:=ah (pJ (L:=L) 6 Ja.o Jg.o Jc Jb Je o_ o_);clear Jb Je Jc U x1 x2 x3 x4;generalize e5.length=l5 at J⊢;go_wp2;go_ret;exact⟨_,rfl,J⟩
 ·have⟨ac,cc,J_⟩:=Ja.o.cs;by_cases hcs:0<G.cs.length
  ·have Yq:G.cs.length<=10:=Ja.o.ok.c4;have Ub:G.ps.length=G.cs.length:=Ja.o.ok.cp;have⟨cl,Jo⟩:=q_ G.cs.length;have Vv:0<cl/\cl<=10:=o_
   have Vl:(0:Int)<(cl:Int):=o_;rw[J_,<-Jo]at U;have Zd:Hid (G.vc=.slice ac cl cc):=(by rw[Jo];exact J_);have Xv:Hid (cl=G.cs.length/\cl=G.ps.length):=⟨Jo,o_⟩;clear J_ Ub hcs Yq Jo;go_wp2_with fail;refine(aE g a len cap (S0 g) _ _ Z Jz Ja.o.cur o_).mono ?_;rintro e w2 ⟨fz,rfl,hf,Jf⟩;obtain⟨f,rfl⟩:∃f:Nat,fz=f:=⟨fz.toNat,o_⟩;have Xm:f<G.cs.length:=(Ka Xv.o.1);have Xp:f<G.ps.length:=(Ka Xv.o.2);have Jd:Hid (GS g a len cap q S w2 G K):=Ja.o.dr Jf;have Jh:Hid (aj (Sq g q) w w2):=Jg.o.trans (Jf.tcs.mono mL);obtain⟨pf,Ye⟩:∃pf:Int,pf=G.ps[f]:=⟨_,rfl⟩;obtain⟨nm,Yc⟩:∃nm:Io,nm=G.cs[f]:=⟨_,rfl⟩;have Up:0<=pf/\pf<=6:=(by rw[Ye];exact Jd.o.ok.pb _ (g_ Xp));have Ym:Hid (nm.size<=100000):=(by rw[Yc];exact Jd.o.ok.ns.1 _ (g_ Xm));obtain⟨pb,Jq,Yi,-⟩:=ints_at (Jd.o.ok.p w2 (aj.refl _ _)) f Xp;obtain⟨cb,Xn,Jt,Jp,-⟩:=nK (Jd.o.ok.c w2 (aj.refl _ _)) f Xm;have Zi:Hid (G.vp=rV pb cl Jq):=(by rw[Xv.o.2];exact Yi);have Xa:Hid (G.vc=.slice (some ⟨cb,Xn,none⟩) cl Jt):=(by rw[Xv.o.1];exact Jp);have Vy:Hid (∀W,aj S w2 W->DO W pb f (V pf)/\DO W cb (Xn+f) (sV nm)):=λW hW=>by have⟨Uw,Ux,q1,q2⟩:=ints_at (Jd.o.ok.p W hW) f Xp;have⟨Us,Vi,Oa,q3,q4⟩:=nK (Jd.o.ok.c W hW) f Xm;rw[Yi]at q1;rw[Jp]at q3;simp only[Value.slice.injEq,J0,Addr.mk.injEq]at q1 q3;obtain⟨⟨rfl,-,-⟩,-,rfl⟩:=q1;obtain⟨⟨rfl,rfl,-⟩,-,rfl⟩:=q3;rw[Ye,Yc];exact⟨q2,q4⟩
   have Uh:Hid (∀W,Lo g a len (S0 g) W.heap.size->ew g a len cap W->gh (S0 g) W G K->Calls prog 80 #[pV g,.agg #[.slice (some ⟨cb,Xn,none⟩) cl Jt,rV pb cl Jq,G.vs,G.vl,V G.m],V 1] W λe w'=>∃u ns,e=rW u/\aW W.heap.size w' u ns/\cI ns 9/\Dr g a len cap (S0 g) W w'):=λW h1 h2 h3=>by
    have:=pH g a len cap (S0 g) Z 1 o_ 1 G K W rfl h1 h2 h3 o_
    rw[Zi.o,Xa.o]at this;exact this
   have Uy:(f:Int)<(cl:Int):=o_;have Vr:Hid (∀W,GB q W G->DO W q 0 (.slice (some ⟨cb,Xn,none⟩) cl Jt)/\DO W q 1 (rV pb cl Jq)/\DO W q 2 G.vs/\DO W q 3 G.vl/\DO W q 4 (V G.m)):=λW hB=>by have h0:=hB.c0;have h1:=hB.c1;rw[Xa.o]at h0;rw[Zi.o]at h1;exact⟨h0,h1,hB.c2,hB.c3,hB.c4⟩
   have Vn:w.heap.size<=w2.heap.size:=Jh.o.size;have Vt:Hid (∀k,S k->k<w2.heap.size):=Jd.o.lo.s;have Yo:Hid (Lo g a len S w2.heap.size):=Jd.o.lo;have Ji:Hid (GS g a len cap q (Sv S (rV w2.heap.size 0 0)) (w2.alloc (.cells #[] 81)) G K):=Jd.o.add (Jd.o.alloc _) ((aj.refl _ _).alloc _) (λk I=>by simp[ownBlock]at I;subst I;simp);clear Jf Ye Yc Yi Jp U x1 x2 x3 x4 Xm Xp;go_wp2;go_loopw[12,13,14] (λov i ar wr=>∃j:Nat,(j:Int)<=pf/\i=V j/\∃ns:List Nd,aW w2.heap.size wr ov ns/\cI ns (j*9)/\GS g a len cap q (Sv S ov) wr G K/\aj (S0 g) w2 wr) (λ_ i _ _=>pf.toNat-(RowKit.intOf i).toNat)
   case atStart=>exact⟨0,o_,rfl,[],iR w2 w2.heap.size n_,by rw[Nat.zero_mul];exact cI.nil,Ji,(aj.refl _ _).alloc _⟩
   case round=>
    obtain⟨j,hj,rfl,ns,hr,hn,Yx,Xl⟩:=hrel;have HR:=ah hr;have HN:=ah hn;have Xc:=ah Yx;have Zv:=ah Xl;have⟨U,x1,x2,x3,x4⟩:=Vr.o wr Yx.box;have⟨y0,y1⟩:=Vy.o wr (Xl.mono Jd.o.s0);have Oe:ns.length<=54:=t_ hn.1 o_;have Vs:w2.heap.size<=wr.heap.size:=Xl.size;clear hr hn Yx Xl;by_cases hlt:(j:Int)<pf
    ·go_wp2_with fail;refine(Uh.o wr Xc.o.lo0 Xc.o.cur Xc.o.ok0).mono ?_;rintro e w4 ⟨u4,e4,rfl,Jw,Yr,Xi⟩;have Va:=bE HR.o Xi.tcs (λk I=>Vt.o k (Jd.o.s0 k I));have U_:e4.length<=9:=Yr.1;have⟨v5,w5,r5,Yv,Zz,Zk⟩:=jJ (w:=w4) w2.heap.size 77 _ ns Va u4 e4 (aW.nodes Jw) o_ (t_ Vs Xi.tcs.size);have Xz:aj (λk=>u12.ownBlock=some k) w4 w5:=aj.of_grown Zz (λk I=>I);have Xu:Hid (aW w2.heap.size w5 v5 (ns++e4)/\cI (ns++e4) (j*9+9)/\GS g a len cap q (Sv S v5) w5 G K/\aj (S0 g) w2 w5):=⟨Yv,HN.o.app Yr,(Xc.o.dr Xi).app Yo.o Jd.o.sq (λk I=>(ownsRow.lt HR.o k I).1) Xz Zk (λk I=>(ownsRow.lt Yv k I).2),(Zv.o.trans Xi.tcs).next Xz (λk I=>.inr (ownsRow.lt HR.o k I).1)⟩;have Vk:=ah r5;clear Jw Yr Xi Va r5 Yv Zz Zk U x1 x2 x3 x4 y0 y1 Xz;go_wp2_with(at_builtin;refine ay rfl _ _ _ rfl _ _ _ _ rfl rfl Vk.o ?_)
     go_roundw
     case rel=>exact⟨j+1,o_,by go_num,ns++e4,Xu.o.1,by rw[Nat.succ_mul];exact Xu.o.2.1,Xu.o.2.2.1,Xu.o.2.2.2⟩
     case measure=>exact IF
    have Ur:j<=6:=o_
    go_upto_region 33 with fail;go_region_law
     (refine iQ rfl (.tmp 137) (.tmp 153) rfl w2.heap.size _ ns rfl (aW.below HR.o ((r_.drew).alloc n_ _)) _ _ rfl (cG wr.drew 0 y_ _ _ _).nodes H6 H6 ?_
      intro u6 w6 h6 g6 f6;obtain⟨a6,n6,c6,rfl⟩:∃x y z,u6=.slice x y z:=(by obtain⟨x,y,e,-⟩:=aH h6;exact⟨x,_,y,e⟩);have X_:aj (λk=>u12.ownBlock=some k) (wr.drew.alloc (.cells #[V 4,V pf,sV nm] 81)) w6:=aj.of_grown g6 (λk I=>I);have Y_:Bl wr (wr.drew.alloc (.cells #[V 4,V pf,sV nm] 81)):=(r_.drew).alloc n_ _;have Zs:GS g a len cap q (Sv S (.slice a6 n6 c6)) w6 G K:=(Xc.o.below Y_).app Yo.o Jd.o.sq (λk I=>(ownsRow.lt HR.o k I).1) X_ f6 (λk I=>(ownsRow.lt h6 k I).2);have Xf:aj (Sq g q) w w6:=(Jh.o.trans ((Zv.o.of_below Y_).next X_ (λk I=>.inr (ownsRow.lt HR.o k I).1) |>.mono mL));have J:Hid (tG g a len cap q S K L 1 w (rV w6.heap.size 1 1) (w6.alloc (.cells #[V 8,sV ⟨#[]⟩,.slice a6 n6 c6,nV,V 0,V 0] 79))):=jo (L:=L) 8 0 0 ⟨#[]⟩ ((Zs.drop Yo.o.sg Jd.o.sq).more (Nat.le_add_right _ _)) Xf (eJ h6 Vn) (λW _=>dd W) (cI.more (HN.o.app (cI.one Ym)) o_) (cI.nil.more y_) d_ o_;clear h6 g6 f6 X_ Y_ Zs Xf)
    all_goals (
     go_wp2;go_ret;exact⟨_,rfl,J⟩)
  have⟨cl,Jo⟩:=q_ G.cs.length;have Un:(cl:Int)<=0:=o_
  rw[J_,<-Jo]at U;have Zd:Hid (G.vc=.slice ac cl cc):=(by rw[Jo];exact J_);have Ud:Hid (∀W,Lo g a len (S0 g) W.heap.size->ew g a len cap W->gh (S0 g) W G K->Calls prog 82 #[pV g,.agg #[.slice ac cl cc,G.vp,G.vs,G.vl,V G.m]] W λe w'=>∃u ns,e=rW u/\aW W.heap.size w' u ns/\cI ns 1/\Dr g a len cap (S0 g) W w'):=λW h1 h2 h3=>by
   have:=gB g a len cap (S0 g) G K W Z h1 h2 h3 o_
   rw[Zd.o]at this;exact this
  clear J_ hcs Jo;go_wp2_with fail;refine(Ud.o w1 Ja.o.lo0 Ja.o.cur Ja.o.ok0).mono ?_;rintro e w5 ⟨u5,e5,rfl,Jb,Je,Jc⟩;obtain⟨a5,c5,rfl,-⟩:=aH Jb;have J:=ah (pJ (L:=L) 7 Ja.o Jg.o Jc Jb Je o_ o_);clear Jb Je Jc U x1 x2 x3 x4;generalize e5.length=l5 at J⊢;go_wp2;go_ret;exact⟨_,rfl,J⟩
 ·by_cases hz0:z=0
  ·subst hz0;go_wp2_with fail;refine(gB g a len cap (S0 g) G K w1 Z Ja.o.lo0 Ja.o.cur Ja.o.ok0 o_).mono ?_;rintro e w5 ⟨u5,e5,rfl,Jb,Je,Jc⟩;obtain⟨a5,c5,rfl,-⟩:=aH Jb;have J:=ah (pJ (L:=L) 7 Ja.o Jg.o Jc Jb Je o_ o_);clear Jb Je Jc U x1 x2 x3 x4;generalize e5.length=l5 at J⊢;go_wp2;go_ret;exact⟨_,rfl,J⟩
  have Um:0<z:=o_;obtain⟨d',Jl⟩:∃d',d=d'+1:=⟨d-1,Ka HZ.o⟩;have Uf:Hid (∀W,aj (Sq g q) w W->GS g a len cap q S W G K->Calls prog 109 #[pV g,pV q,V z] W λe w'=>∃v,e=rW v/\tG g a len cap q S K L 1 W v w'):=λW _ hW=>by have Vj:K+rx (d'+1)<=50000:=(by rw[<-Jl,<-Ys.o];exact hK);have:=C6 g a len cap q d' Z o_ (HX.o d' Jl) z (by rw[<-Jl];exact HZ.o) S G K W hW Vj;rw[<-Jl,<-Ys.o]at this;exact this
  clear Jl U x1 x2 x3 x4;go_wp2_with fail;refine(Uf.o w1 Jg.o Ja).mono ?_;rintro e w2 ⟨v,rfl,Xg⟩;have J:Hid (tG g a len cap q S K L 1 w v w2):=Xg.from Jg;clear Xg;go_wp2;go_ret;exact⟨_,rfl,J⟩
 ·by_cases hz0:z=0
  ·subst hz0;rcases hk14 with rfl|rfl;all_goals (
    go_wp2_with fail;refine(gB g a len cap (S0 g) G K w1 Z Ja.o.lo0 Ja.o.cur Ja.o.ok0 o_).mono ?_;rintro e w5 ⟨u5,e5,rfl,Jb,Je,Jc⟩;obtain⟨a5,c5,rfl,-⟩:=aH Jb;have J:=ah (pJ (L:=L) 7 Ja.o Jg.o Jc Jb Je o_ o_);clear Jb Je Jc U x1 x2 x3 x4;generalize e5.length=l5 at J⊢;go_wp2;go_ret;exact⟨_,rfl,J⟩)
  have Um:0<z:=o_;obtain⟨d',Jl⟩:∃d',d=d'+1:=⟨d-1,Ka HZ.o⟩;have Zr:Hid (Iw g a len cap q d'):=HX.o d' Jl;have⟨D,hD⟩:=q_ (rx d');have Ui:L=4*D+3:=(by rw[Ys.o,Jl,hD];rfl);have HD:=ah hD;have Ob:4*D+3<=L/\L<=4*D+3:=o_;have Zj:Hid (z-1=(d':Int)):=(by show _=_;have:=HZ.o;omega);have Uq:d'<=3:=o_
  clear Jl hD Ui;rcases hk14 with rfl|rfl;all_goals (
   go_wp2_with fail;refine(eI g a len cap (S0 g) G K w1 Z Ja.o.lo0 Ja.o.cur Ja.o.ok0 o_).mono ?_;rintro e w2 ⟨u2,e2,rfl,Jk,Jm,Jf⟩;obtain⟨a2,n2,c2,rfl⟩:∃x y z,u2=.slice x y z:=(by obtain⟨x,y,e,-⟩:=aH Jk;exact⟨x,_,y,e⟩);have Jd:Hid (GS g a len cap q S w2 G K):=Ja.o.dr Jf;have Jh:Hid (aj (Sq g q) w w2):=Jg.o.trans (Jf.tcs.mono mL);have Js:Hid (∀W,aj (λk=>k<w.heap.size) w2 W->aC W (.slice a2 n2 c2) e2):=eJ Jk Jg.o.size;have Xh:Hid (cI e2 3000):=Jm.e3 o_;clear Jk Jm Jf U x1 x2 x3 x4;go_wp2_with fail;refine(aE g a len cap (S0 g) _ _ Z Jz Jd.o.cur o_).mono ?_;rintro e w3 ⟨x,rfl,hx,Jx⟩;have Ji:Hid (GS g a len cap q S w3 G K):=Jd.o.dr Jx;have Zf:Hid (aj (Sq g q) w2 w3):=Jx.tcs.mono mL;have⟨n,Uo⟩:=q_ x.toNat;have Yz:n<=2:=o_;have Vo:Hid (x=(n:Int)):=(by show _=_;omega);have⟨nD,Yl⟩:=q_ (n*rx d');have Zp:=ah Yl;have Vm:nD<=2*D:=(by rw[Yl,<-HD.o];exact Nat.mul_le_mul_right _ Yz);clear Jx Uo Yl;go_wp2_with fail;refine(iT g a len cap q d' o_ Zr.o n o_ _ _ Vo.o Zj.o S G K w3 Ji.o (by rw[<-Zp.o];omega)).mono ?_;rintro e w4 ⟨va,rfl,Ra,G4,Jw,-,Yu,Vc⟩;rw[<-Zp.o]at Jw Yu;obtain⟨ba,bn,bc,rfl⟩:∃x y z,va=.slice x y z:=(by have⟨x,y,e⟩:=Jw.shape;exact⟨x,_,y,e⟩);have Vp:=ah Jw;have Zn:=ah Yu;have Ze:Hid (aj (Sq g q) w2 w4):=Zf.o.trans Vc;clear Jw Yu Vc;go_wp2_with fail;refine(aE g a len cap (S0 g) _ _ Z Jz Zn.o.cur o_).mono ?_;rintro e w5 ⟨y,rfl,hy,Jc⟩;have Zb:=ah (Zn.o.dr Jc);have Vz:Hid (aj (Sq g q) w4 w5):=Jc.tcs.mono mL;clear Jc;go_wp2_with fail;refine(aE g a len cap (S0 g) _ _ Z Jz Zb.o.cur o_).mono ?_;rintro e w6 ⟨y2,rfl,Uu,Ya⟩;have Vh:=ah (Zb.o.dr Ya);have Vb:Hid (aj (Sq g q) w4 w6):=Vz.o.trans (Ya.tcs.mono mL);obtain⟨m,Ul⟩:∃m:Nat,m=(y*y2).toNat:=⟨_,rfl⟩;have Oc:0<=y*y2/\y*y2<=2:=by have:y2=0\/y2=1:=(by omega);rcases this with rfl|rfl <;> omega
   have Vu:m<=2:=o_;have Vw:Hid (y*y2=(m:Int)):=(by show _=_;omega);have⟨mD,Yp⟩:=q_ (m*rx d');have Zl:=ah Yp;have Ue:mD<=2*D:=(by rw[Yp,<-HD.o];exact Nat.mul_le_mul_right _ Vu);have Uj:wrap64 (y*y2)=y*y2:=(by unfold wrap64;omega);have Uc:Hid (IntKind.i64.wrap (y*y2)=y*y2):=(by show _=_;rw[IntKind.wrap_i64];omega);generalize hyz:y*y2=yy at*;clear Ya Ul Yp;go_wp2_with fail;try simp only[hyz]
   refine(iT g a len cap q d' o_ Zr.o m o_ _ _ Vw.o Zj.o (Sv S (.slice ba bn bc)) G4 (K+nD) w6 Vh.o (by rw[<-Zl.o];omega)).mono ?_;rintro e w7 ⟨vb,rfl,Rb,G7,Xd,-,Yn,Zw⟩;rw[<-Zl.o]at Xd Yn;obtain⟨da,dn,dc,rfl⟩:∃x y z,vb=.slice x y z:=(by have⟨x,y,e⟩:=Xd.shape;exact⟨x,_,y,e⟩);have Yb:=Vb.o.trans Zw;have Xy:=Ze.o.trans Yb;have Yj:=Jh.o.trans Xy;have Xt:w.heap.size<=w7.heap.size:=Yj.size;have Zt:∀k,Sq g q k->k<w3.heap.size:=Ji.o.k0;have Xw:=Vp.o.tcs Yb Zt;have Xj:=lY (w:=w7) (B:=w.heap.size) (kd:=4) (th:=bn) (el:=dn) (nm:=⟨#[]⟩) (vf:=nV) (f:=[]) Xt (λW hW=>Js.o W ((Xy.mono HG.o.k0).trans hW)) (λW _=>dd W) Xh.o (cI.nil.more y_) d_;have⟨W8,Xs⟩:=q_ (w7.alloc (.cells #[V 4,sV ⟨#[]⟩,.slice a2 n2 c2,nV,V bn,V dn] 79));have Jn:Bl w7 W8:=(by rw[Xs];exact r_.alloc n_ _);rw[<-Xs]at Xj;have Jj:∀k,(Value.slice (some ⟨w7.heap.size,0,none⟩) 1 1).ownBlock=some k->w7.heap.size<=k:=λk I=>by simp[ownBlock]at I;omega
   have Yw:w.heap.size<=w3.heap.size:=t_ Jh.o.size Zf.o.size;have Yt:w.heap.size<=w6.heap.size:=t_ Jh.o.size (Ze.o.trans Vb).size;have⟨v9,w9,r9,h9,t9,f9⟩:=kE 50 Xj (Xw.below Jn) (t_ Xt Jn.size) o_ (lZ Xw Jn.tcs Yw Jj);have Xb:aj (λ_=>False) w7 w9:=(Jn.tcs (S:=λ_=>False)).next t9 (λk I=>.inr (Jj k I));have Z_:∀k,v9.ownBlock=some k->w7.heap.size<=k:=λk I=>by
    rcases f9 k I with h|h;exact Jj k h
    have:=Jn.size;omega
   have⟨Vx,Ug,Zq,h10,Yf,Zy⟩:=kE 50 h9 (Xd.tcs Xb (λk I=>I.elim)) (t_ Xt Xb.size) o_ (lZ Xd (Xb.mono λk I=>I.elim) Yt Z_);have Xx:=Yn.sub (S':=S) (λk I=>.inl (.inl I)) HG.o.lo.sg HG.o.sq;have Vf:=GS.add (v:=rV w7.heap.size 1 1) Xx (Xx.below Jn) Jn.tcs (λk I=>⟨Jj k I,(Xj.rng k I).2⟩);have Vd:=Vf.app HG.o.lo HG.o.sq (λk I=>(Xj.rng k I).1) t9 f9 (λk I=>(h9.rng k I).2);have Xe:=Vd.app HG.o.lo HG.o.sq (λk I=>(h9.rng k I).1) Yf Zy (λk I=>(h10.rng k I).2);have J:Hid (tG g a len cap q S K L 1 w Vx Ug):=⟨_,G7,h10.more o_,i_,Xe.more o_,(Yj.trans (Xb.mono λk I=>I.elim)).next Yf (λk I=>.inr (h9.rng k I).1)⟩;rw[Xs]at r9;have Uk:=ah r9;have Yk:=ah Zq;clear Xd Yn Zw Yb Xy Yj Xt Zt Xw Xj Jn Jj r9 h9 t9 f9 Xb Z_ Zq h10 Yf Zy Xx Vf Vd Xe Xs;go_wp2_with(at_builtin;first
    | refine ay rfl (.tmp 198) (.tmp 199) _ rfl _ _ _ _ rfl rfl Uk.o ?_
    | refine ay rfl (.tmp 200) (.tmp 201) _ rfl _ _ _ _ rfl rfl Yk.o ?_)
   go_ret;exact⟨_,rfl,J⟩)
 go_wp2_with fail;refine(gB g a len cap (S0 g) G K w1 Z Ja.o.lo0 Ja.o.cur Ja.o.ok0 o_).mono ?_;rintro e w5 ⟨u5,e5,rfl,Jb,Je,Jc⟩;obtain⟨a5,c5,rfl,-⟩:=aH Jb;have J:=ah (pJ (L:=L) 7 Ja.o Jg.o Jc Jb Je o_ o_);clear Jb Je Jc U x1 x2 x3 x4;generalize e5.length=l5 at J⊢;go_wp2;go_ret;exact⟨_,rfl,J⟩
theorem u_(g:Nat)(a:Option Addr)(len cap q:Nat)(J:len<=1048576)(d:Nat):d<=4->Iw g a len cap q d:=by
 induction d with
 | zero=>intro I;exact rF g a len cap q J 0 I (λd' h=>by omega)
 | succ d ih=>intro I;exact rF g a len cap q J (d+1) I (λd' h=>by have e:d'=d:=o_;rw[e];exact ih o_)
end
open List
section
variable{B L:Nat}{w W w':AT}{v vg vf:BY}{R:List SV}{S S':Ft}{Q:List FV}{t:Tr}
def C7(W:AT)(v:BY)(R:List SV):Prop:=(∃a c,v=.slice a R.length c/\R.length<=c/\c<=9223372036854775807/\(0<R.length->∃b off,a=some ⟨b,off,none⟩/\∀j u,(bO R)[j]? =some u->W.cell? ⟨b,off+j,none⟩=some u))/\BH R W
def C7.stmts(h:C7 W v R):aZ W v (R.map (·.s)):=by
 obtain⟨⟨a,c,rfl,Z,h2,h3⟩,J⟩:=h;refine⟨a,c,by rw[J8],by rw[J8];exact Z,h2,λhp'=>?_⟩;rw[J8]at hp';obtain⟨b,Jb,rfl,hc⟩:=h3 hp';refine⟨b,Jb,rfl,λj hj=>?_⟩;rw[J8]at hj;have Ja:∀i (hi:i<6),W.cell? ⟨b,Jb+j*6+i,none⟩=(cellsS R[j])[i]? := λi hi=>by have e:=fB R j i hj hi;have U:i<(cellsS R[j]).length:=hi;rw[J4 U]at e⊢;rw[Nat.add_assoc];exact hc _ _ e
 have I:=J R[j] (g_ hj);refine⟨R[j].ve,R[j].vf,?_,?_,?_⟩;simp only[getElem_map];exact⟨Ja 0 o_,Ja 1 o_,Ja 2 o_,Ja 3 o_,Ja 4 o_,Ja 5 o_⟩;simp only[getElem_map];exact I.1;simp only[getElem_map];exact I.2
def C8(J:W.ownsRow B 79 6 v R.length (bO R))(hp:BH R W):C7 W v R:=by refine⟨?_,hp⟩;have U:=J;rcases J.2 with⟨rfl,hz⟩|⟨g,Ja,Jb,rfl,h3,h4,h5⟩;exact⟨none,0,by rw[hz],o_,o_,λh=>by omega⟩;obtain⟨Z,I,-⟩:=h5;unfold maxLen at I;refine⟨_,Ja,rfl,Z,I,λ_=>⟨g,0,rfl,λj u hu=>?_⟩⟩;have:=ownsRow.cells U (g:=g) rfl j u hu;rwa[dk]at this
def SR.rd(h:SR B w v R L):∀W,aj (λk=>k<B) w W->C7 W v R:=λW hW=>C8 (bE h.row.row hW (λk hk=>hk)) (h.row.st W (hW.mono λk hk=>.inl hk))
def C7.one(h:C7 W v R):v.oneCell'=true:=by obtain⟨⟨a,c,rfl,-⟩,-⟩:=h;rfl
def AR(Q:List FV)(W:AT):Prop:=∀x∈Q,be W x.vp x.f.pm/\C7 W x.vb x.R/\x.R.map (·.s)=x.f.bd
structure xK (f:Fu):Prop where
 nm:f.nm.size<=100000
 pl:f.pm.length<=20
 pn:∀p∈f.pm,p.size<=100000
 bl:1<=f.bd.length
 bu:f.bd.length<=10000
 st:∀s∈f.bd,cI s.e 3000/\cI s.f 3000/\s.nm.size<=100000
def I7.bd(h:I7 R):∀s∈R.map (·.s),cI s.e 3000/\cI s.f 3000/\s.nm.size<=100000:=λs hs=>by obtain⟨x,hx,rfl⟩:=mem_map.1 hs;exact h x hx
structure FR (S:Ft) (B:Nat) (w:AT) (v:BY) (Q:List FV):Prop where
 row:ge 52 3 S B w v Q.length (bD Q) (AR Q)
 ok:∀x∈Q,xK x.f
def FR.tcs(h:FR S B w v Q)(ht:aj S w w')(hS:∀k,S k->k<B):FR S B w' v Q:=⟨h.row.tcs ht hS,h.ok⟩
def FR.below(h:FR S B w v Q)(hb:Bl w w'):FR S B w' v Q:=⟨h.row.below hb,h.ok⟩
def FR.rng(h:FR S B w v Q):∀k,v.ownBlock=some k->B<=k/\k<w.heap.size:=λk hk=>ownsRow.lt h.row.row k hk
def FR.shape(h:FR S B w v Q):∃a c,v=.slice a Q.length c:=by obtain⟨a,c,e,-⟩:=aH h.row.row;exact⟨a,c,e⟩
def fr_none:FR S B w nV []:=⟨ge.nil (λW x hx=>by cases hx),λx hx=>by cases hx⟩
def C9(h0:W.ownsRow B 52 3 v Q.length (bD Q))(hp:AR Q W):bj W v (Q.map (λq:FV=>q.f)):=by
 rcases h0.2 with⟨rfl,Z⟩|⟨g,Jb,Jc,rfl,h3,h4,h5⟩;exact⟨none,0,by rw[J8,Z],by rw[J8,Z];exact n_,o_,λh=>by rw[J8]at h;omega⟩;have J:Q.length<=Jb/\Jb<=9223372036854775807:=by obtain⟨q1,U,-⟩:=h5;unfold maxLen at U;exact⟨q1,U⟩
 refine⟨some ⟨g,0,none⟩,Jb,by rw[J8],by rw[J8];exact J.1,J.2,λhp'=>⟨g,0,rfl,λj hj=>?_⟩⟩;rw[J8]at hj;have Ja:∀i,i<3->W.cell? ⟨g,0+j*3+i,none⟩=(aX Q[j])[i]? := λi hi=>by have hl:(bD Q).length=Q.length*3:=fC Q;rw[Nat.zero_add,ownsRow.cellAt h0 (j*3+i) o_,fD Q j i hj hi]
 have⟨e1,I,e3⟩:=hp Q[j] (g_ hj);have I:=I.stmts;rw[e3]at I;refine⟨Q[j].vp,Q[j].vb,?_,?_,?_⟩
 simp only[getElem_map];exact⟨Ja 0 o_,Ja 1 o_,Ja 2 o_⟩;simp only[getElem_map];exact e1;simp only[getElem_map];exact I
def Da{m c:Nat}{Q2:List FV}(U:JZ)(h:FR S B w v Q)(a:Option Addr)(Je:m=Q2.length)(hn:a=none->m=0)(hc:∀ad,a=some ad->∀j u,(bD Q2)[j]? =some u->w.cell? (ad.add j)=some u)(h1:∀x∈Q2,x.vp.oneCell'=true/\x.vb.oneCell'=true)(ho:∀x∈Q2,xK x.f)
  (Jd:∀W,aj (λk=>S k\/v.ownBlock=some k) w W->AR Q2 W) (hm:Q.length+Q2.length<=100000) (hB:B<=w.heap.size):
  ∃v' w',(Builtin.append_ #[24,24] U #[v,.slice a m c]).run prog w=.ok v' w'/\FR S B w' v' (Q++Q2)/\aj (λk=>v.ownBlock=some k) w w'/\∀k,v'.ownBlock=some k->v.ownBlock=some k\/w.heap.size<=k:=by
 subst Je;have⟨i0,hi,Jb,Jc,Ja⟩:=info_parts jY;have⟨v',w',r1,J,r3,Z⟩:=jI (Pg:=prog) (w:=w) (T:=52) (t:=24) (c:=c) (P2:=AR Q2) U underlying24 hi Jb Jc Ja rfl d_ h.row a hn (fC Q2) hc (λu I=>by simp only[bD,mem_flatMap]at I;obtain⟨x,hx,I⟩:=I;have⟨g1,g2⟩:=h1 x hx;simp only[aX,mem_cons,not_mem_nil,or_false]at I;rcases I with rfl|rfl|rfl;rfl;exact g1;exact g2) Jd o_ d_ hB;refine⟨v',w',r1,⟨⟨by rw[l_a,jd];exact J.row,λW hW x hx=>?_⟩,λx hx=>?_⟩,r3,Z⟩;rcases J5.1 hx with hx|hx;exact(J.st W hW).1 x hx;exact(J.st W hW).2 x hx;rcases J5.1 hx with hx|hx;exact h.ok x hx;exact ho x hx
structure TD (S:Ft) (w:AT) (vg vf:BY) (t:Tr):Prop where
 gs:∀W,aj S w W->cD W vg t.gl
 fs:∃b off c,∃Q:List FV,vf=.slice (some ⟨b,off,none⟩) Q.length c/\Q.length<=c/\c<=9223372036854775807/\Q.map (λq:FV=>q.f)=t.fc/\∀W,aj S w W->(∀j u,(bD Q)[j]? =some u->W.cell? ⟨b,off+j,none⟩=some u)/\AR Q W
 gl:1<=t.gl.length/\t.gl.length<=20
 gn:∀x∈t.gl,x.nm.size<=100000
 fl:1<=t.fc.length/\t.fc.length<=20
 ok:∀f∈t.fc,xK f
def TD.tcs(h:TD S w vg vf t)(I:aj S w w'):TD S w' vg vf t:=by have⟨b,Ja,c,Q,J,h2,h3,h4,h5⟩:=h.fs;exact⟨λW hW=>h.gs W (I.trans hW),⟨b,Ja,c,Q,J,h2,h3,h4,λW hW=>h5 W (I.trans hW)⟩,h.gl,h.gn,h.fl,h.ok⟩
def TD.fc(h:TD S w vg vf t):∀W,aj S w W->bj W vf t.fc:=λW hW=>by
 obtain⟨b,off,c,Q,rfl,h2,h3,h4,h5⟩:=h.fs;have⟨hc,hp⟩:=h5 W hW;rw[<-h4];refine⟨_,c,by rw[J8],by rw[J8];exact h2,h3,λhp'=>⟨b,off,rfl,λj hj=>?_⟩⟩;rw[J8]at hj;have key:∀i (hi:i<3),W.cell? ⟨b,off+j*3+i,none⟩=(aX Q[j])[i]? := λi hi=>by have e:=fD Q j i hj hi;have hl:i<(aX Q[j]).length:=hi;rw[J4 hl]at e⊢;rw[Nat.add_assoc];exact hc _ _ e
 have⟨e1,e2,e3⟩:=hp Q[j] (g_ hj);have e2:=e2.stmts;rw[e3]at e2;refine⟨Q[j].vp,Q[j].vb,?_,?_,?_⟩
 simp only[getElem_map];exact⟨key 0 o_,key 1 o_,key 2 o_⟩;simp only[getElem_map];exact e1;simp only[getElem_map];exact e2
end
section
variable{W W3 wr:AT}{b g len cap F T q pm py B L bn bc:Nat}{a px ba:Option Addr}{nm:Io}{cs qs:List Io}
def globs4:List Gl:=[⟨⟨#[103]⟩,0⟩,⟨⟨#[97]⟩,8⟩,⟨⟨#[104]⟩,0⟩,⟨⟨#[98]⟩,2⟩]
def pK:List BY:=[sV ⟨#[103]⟩,V 0,sV ⟨#[97]⟩,V 8,sV ⟨#[104]⟩,V 0,sV ⟨#[98]⟩,V 2]
def sQ:List BY:=[sV ⟨#[102]⟩,sV ⟨#[107]⟩,sV ⟨#[100,101,101,112]⟩,sV ⟨#[120,49]⟩]
def Dc(h:aN W b pK):cD W (rV b 4 4) globs4:=by refine⟨_,4,rfl,d_,d_,λ_=>⟨b,0,rfl,λj hj=>?_⟩⟩;have Ja:j<4:=hj;have:j=0\/j=1\/j=2\/j=3:=o_;rcases this with rfl|rfl|rfl|rfl;exact⟨(h 0 _ rfl).1,(h 1 _ rfl).1⟩;exact⟨(h 2 _ rfl).1,(h 3 _ rfl).1⟩;exact⟨(h 4 _ rfl).1,(h 5 _ rfl).1⟩;exact⟨(h 6 _ rfl).1,(h 7 _ rfl).1⟩
def Dd{j:Nat}(h:aN W b sQ)(I:j<4):∃s,DO W b j (sV s)/\s.size<=100000:=by
 have:j=0\/j=1\/j=2\/j=3:=by omega
 rcases this with rfl|rfl|rfl|rfl;exact⟨_,(h 0 _ rfl).1,d_⟩;exact⟨_,(h 1 _ rfl).1,d_⟩;exact⟨_,(h 2 _ rfl).1,d_⟩;exact⟨_,(h 3 _ rfl).1,d_⟩
def xL(w:AT):∃W1,W1=(((w.alloc (.cells #[nV,nV] 26)).alloc (.cells #[sV ⟨#[103]⟩,V 0,sV ⟨#[97]⟩,V 8,sV ⟨#[104]⟩,V 0,sV ⟨#[98]⟩,V 2] 48)).alloc (.cells #[.slice (some ⟨w.heap.size+1,0,none⟩) 4 4,nV] 26)).alloc (.cells #[sV ⟨#[102]⟩,sV ⟨#[107]⟩,sV ⟨#[100,101,101,112]⟩,sV ⟨#[120,49]⟩] 9) /\
  aN W1 w.heap.size [nV,nV]/\aN W1 (w.heap.size+1) pK/\aN W1 (w.heap.size+2) [.slice (some ⟨w.heap.size+1,0,none⟩) 4 4,nV]/\aN W1 (w.heap.size+3) sQ/\Bl w W1/\W1.heap.size=w.heap.size+4:=by
 refine⟨_,rfl,?_,?_,?_,?_,?_,i_⟩;exact(((aI w _ _ d_).below (ao _ _)).below (ao _ _)).below (ao _ _)
 ·have:=((aI (w.alloc (.cells #[nV,nV] 26)) #[sV ⟨#[103]⟩,V 0,sV ⟨#[97]⟩,V 8,sV ⟨#[104]⟩,V 0,sV ⟨#[98]⟩,V 2] 48 d_).below (r_.alloc n_ (.cells #[.slice (some ⟨w.heap.size+1,0,none⟩) 4 4,nV] 26))).below (r_.alloc n_ (.cells #[sV ⟨#[102]⟩,sV ⟨#[107]⟩,sV ⟨#[100,101,101,112]⟩,sV ⟨#[120,49]⟩] 9))
  simp only[Bl,J9]at this;exact this
 ·have:=(aI ((w.alloc (.cells #[nV,nV] 26)).alloc (.cells #[sV ⟨#[103]⟩,V 0,sV ⟨#[97]⟩,V 8,sV ⟨#[104]⟩,V 0,sV ⟨#[98]⟩,V 2] 48)) #[.slice (some ⟨w.heap.size+1,0,none⟩) 4 4,nV] 26 i_).below (r_.alloc n_ (.cells #[sV ⟨#[102]⟩,sV ⟨#[107]⟩,sV ⟨#[100,101,101,112]⟩,sV ⟨#[120,49]⟩] 9))
  simp only[Bl,J9]at this;exact this
 have:=aI (((w.alloc (.cells #[nV,nV] 26)).alloc (.cells #[sV ⟨#[103]⟩,V 0,sV ⟨#[97]⟩,V 8,sV ⟨#[104]⟩,V 0,sV ⟨#[98]⟩,V 2] 48)).alloc (.cells #[.slice (some ⟨w.heap.size+1,0,none⟩) 4 4,nV] 26)) #[sV ⟨#[102]⟩,sV ⟨#[107]⟩,sV ⟨#[100,101,101,112]⟩,sV ⟨#[120,49]⟩] 9 d_
 simp only[Bl,J9]at this;exact this;exact(((ao _ _).alloc i_ _).alloc H6 _).alloc H6 _
def Sx(g T q:Nat):Ft:=λk=>k=g\/k=T\/k=q
structure JQ (g:Nat) (a:Option Addr) (len cap T q GL M:Nat) (W2 wr:AT) (j:Nat):Prop where
 cur:ew g a len cap wr
 tcs:aj (Sx g T q) W2 wr
 ex:∃fa fn fc Q,aN wr T [rV GL 4 4,.slice fa fn fc]/\FR (λk=>k<M) M wr (.slice fa fn fc) Q/\Q.length=j/\∃ca cn cc pa pn pc,∃(cs:List Io) (ps:List Int),aN wr q [.slice ca cn cc,.slice pa pn pc,nV,nV,V 0]/\(∀W,aj (Sv (Sx g T q) (.slice fa fn fc)) wr W->be W (.slice ca cn cc) cs/\Ints W (.slice pa pn pc) ps)/\cs.length=j/\ps.length=j/\(∀x∈ps,0<=x/\x<=6)/\∀x∈cs,x.size<=100000
structure PI (g:Nat) (a:Option Addr) (len cap F:Nat) (nm:Io) (W3 wx:AT) (k:Nat):Prop where
 cur:ew g a len cap wx
 tcs:aj (λb=>b=g\/b=F) W3 wx
 ex:∃pa pn pc,∃ps:List Io,aN wx F [sV nm,.slice pa pn pc,nV]/\wx.ownsRow W3.heap.size 9 1 (.slice pa pn pc) ps.length (ps.map Value.string)/\ps.length=k/\∀x∈ps,x.size<=100000
def De(s t:Io):(s++t).size=s.size+t.size:=ByteArray.size_append
def xM{k:Nat}(h:PI g a len cap F nm W3 wr k)(hF:g<F/\F<W3.heap.size)(hL:Lo g a len (S0 g) F)(I:k<=10)(A:Io)(hA:A.size<=1000)(U:Option Addr)(J Z:Nat)(hy:DO wr F 1 (.slice U J Z))(P2:Obj):
  ∀w6 s w7,s.size<=1->Dr g a len cap (S0 g) (wr.drew.alloc P2) w6->Bl w6 w7->∃va vn vc w8,(Builtin.append_ #[49,49] 49 #[.slice U J Z,rV w7.heap.size 1 1]).run prog (w7.alloc (.cells #[sV (s++A)] 9))=.ok (.slice va vn vc) w8/\(DO w6 F 1 (.slice U J Z)/\DO w7 F 1 (.slice U J Z)/\DO (w7.alloc (.cells #[sV (s++A)] 9)) F 1 (.slice U J Z))/\DO w8 F 1 (.slice U J Z)/\D4 w8 F 1/\PI g a len cap F nm W3 (w8.setCell ⟨F,1,none⟩ (.slice va vn vc)) (k+1):=by
 intro w6 s w7 hs hd hb;obtain⟨Jn,ht,Jm,Jo,Jl,ps,hf,ho,Jh,Jk⟩:=h;have e:=(hf 1 _ rfl).1;rw[hy]at e;simp only[J0]at e;rw[<-e]at hf ho;have Jb:F<wr.heap.size:=l_ hF.2 ht.size;have nF:¬S0 g F:=λe=>by have:F=g:=e;omega
 have t6:aj (S0 g) wr w6:=(((aj.refl (S0 g) wr).drew).alloc P2).trans hd.tcs;have t7:aj (S0 g) wr w7:=t6.of_below hb;have Ja:aj (S0 g) wr (w7.alloc (.cells #[sV (s++A)] 9)):=t7.alloc _;have f6:=hf.tcs Jb t6 nF;have f7:=hf.tcs Jb t7 nF;have Jd:=hf.tcs Jb Ja nF;have Ji:∀k,S0 g k->k<W3.heap.size:=λk I=>by have:k=g:=I;omega
 have o7:=bE ho Ja Ji;have⟨i0,hi,Je,Jf,Jg⟩:=info_parts iJ;have Jc:(w7.alloc (.cells #[sV (s++A)] 9)).ownsRow w7.heap.size 9 1 (rV w7.heap.size 1 1) 1 [sV (s++A)]:=ownsRow_lit w7 #[sV (s++A)] 1 n_ d_ rfl;obtain⟨v8,w8,r8,o8,g8,-⟩:=cU (P:=prog) (w:=w7.alloc (.cells #[sV (s++A)] 9)) W3.heap.size 49 49 9 i0 _ 1 16 underlying49 hi Je Jf Jg rfl d_ (.slice U J Z) _ _ o7 (some ⟨w7.heap.size,0,none⟩) 1 1 [sV (s++A)] (λe=>by cases e) rfl (λad had j u hu=>by cases had;exact ownsRow.cells Jc (g:=w7.heap.size) rfl j u hu) (λu hu=>by simp at hu;subst hu;rfl) o_ d_ (t_ ht.size Ja.size);obtain⟨va,vc,rfl,-⟩:=aH o8;have t8:aj (λk=>W3.heap.size<=k) (w7.alloc (.cells #[sV (s++A)] 9)) w8:=aj.of_grown g8 (λk I=>(ownsRow.lt o7 k I).1);have Jj:F<(w7.alloc (.cells #[sV (s++A)] 9)).heap.size:=l_ Jb Ja.size;have f8:=Jd.tcs Jj t8 o_;refine⟨va,_,vc,w8,r8,⟨(f6 1 _ rfl).1,(f7 1 _ rfl).1,(Jd 1 _ rfl).1⟩,(f8 1 _ rfl).1,(f8 1 _ rfl).2,?_,?_,va,ps.length+1,vc,ps++[s++A],?_,?_,by simp[Jh],λx hx=>?_⟩
 ·have c8:ew g a len cap w8:=((hd.cur.below hb).alloc _).new (hL.mono (Nat.le_of_lt hF.2)) t8 (λk I=>I);exact c8.keep ((aj.refl (λk=>k=F) w8).setCell (p:=⟨F,1,none⟩) rfl _) o_ (λb off x y e=>by have:=(hL.by8 b off x y).1;omega)
 refine((ht.trans (Ja.mono λk I=>.inl I)).next t8 (λk I=>.inr I)).setCell (p:=⟨F,1,none⟩) (.inr rfl) _;exact f8.set 1 _;have e1:(ps++[s++A]).length=ps.length+1:=i_;have e2:(ps++[s++A]).map Value.string=ps.map Value.string++[sV (s++A)]:=i_;rw[e1,e2];refine bE o8 ((aj.refl (λk=>k=F) w8).setCell (p:=⟨F,1,none⟩) rfl _) (λk I=>by omega);rcases J5.1 hx with hx|hx;exact Jk x hx;simp only[J7]at hx;subst hx;rw[De];omega
def S5(g T q F I:Nat)(v:BY):Ft:=λk=>k=g\/k=T\/k=q\/k=F\/k=I\/v.ownBlock=some k
def Fr{I:Nat}{J:AT}{U:BY}{ca pa:Option Addr}{cn Z pn pc:Nat}{ps:List Int} 
  (Jf:∀W,aj (Sv (Sx g T q) U) wr W->be W (.slice ca cn Z) cs/\Ints W (.slice pa pn pc) ps) (hl:ps.length=cs.length/\cs.length<=4) (Je:(∀x∈ps,0<=x/\x<=6)/\∀x∈cs,x.size<=100000)
  (hb:Bl wr W3) (hF:F=wr.heap.size) (hI:I=wr.heap.size+1) (hs:W3.heap.size=wr.heap.size+2) (Ji:aN W3 I [.slice ca cn Z,.slice pa pn pc,nV,nV,V 0]) (Jj:∀j,D4 W3 I j)
  (Jh:ew g a len cap J) (ht:aj (λb=>b=g\/b=F) W3 J) (ho:J.ownsRow W3.heap.size 9 1 (.slice px pm py) qs.length (qs.map Value.string)) (Jn:qs.length<=6) (Jg:∀x∈qs,x.size<=100000)
  (Jl:g<T/\T<wr.heap.size/\g<q/\q<wr.heap.size) (hL:Lo g a len (S0 g) T) (Jm:T<q) (hv:∀k,U.ownBlock=some k->q<k/\k<wr.heap.size):
  GS g a len cap I (S5 g T q F I U) (J.setCell ⟨I,2,none⟩ (.slice px pm py)) ⟨.slice ca cn Z,.slice pa pn pc,.slice px pm py,nV,0,cs,ps,qs,[]⟩ 10/\aN J I [.slice ca cn Z,.slice pa pn pc,nV,nV,V 0]:=by
 have Jd:aN J I [.slice ca cn Z,.slice pa pn pc,nV,nV,V 0]:=Ji.tcs o_ ht (λe=>by rcases e with e|e <;> omega);have Jk:=ht.size;have h5:∀k,S5 g T q F I U k->k<W3.heap.size:=λk hk=>by
  rcases hk with h|h|h|h|h|h;omega;omega;omega;omega;omega
  have:=(hv k h).2;omega
 refine⟨?_,Jd⟩;have Jb:aj (S5 g T q F I U) J (J.setCell ⟨I,2,none⟩ (.slice px pm py)):=(aj.refl _ _).setCell (p:=⟨I,2,none⟩) (.inr (.inr (.inr (.inr (.inl rfl))))) _;have Ja:=Jd.set 2 (.slice px pm py);refine⟨?_,⟨(Ja 0 _ rfl).1,(Ja 1 _ rfl).1,(Ja 2 _ rfl).1,(Ja 3 _ rfl).1,(Ja 4 _ rfl).1,λj=>?_⟩,gh.tcs (w:=J) ?_ Jb,⟨?_,.inl rfl,λb off x y=>?_,λk hk=>?_⟩,.inr (.inr (.inr (.inr (.inl rfl)))),o_⟩
 ·exact Jh.keep ((aj.refl (λk=>k=I) J).setCell (p:=⟨I,2,none⟩) rfl _) o_ (λb off x y e=>by have:=(hL.by8 b off x y).1;omega)
 rw[frozen?_setCell];exact(frozen?_of_block (a:=⟨I,j,none⟩) (ht.block I o_ (λe=>by rcases e with e|e <;> omega))).trans (Jj j);have Jc:∀W,aj (S5 g T q F I U) J W->aj (Sv (Sx g T q) U) wr W:=λW hW=>by
  have h1:aj (Sv (Sx g T q) U) wr J:=(hb.tcs (S:=Sv (Sx g T q) U)).next ht (λk hk=>by rcases hk with hk|hk;exact .inl (.inl (.inl hk));exact .inr o_);refine h1.next hW λk hk=>?_;rcases hk with h|h|h|h|h|h
  exact .inl (.inl (.inl h));exact .inl (.inl (.inr (.inl h)));exact .inl (.inl (.inr (.inr h)));exact .inr o_;exact .inr o_;exact .inl (.inr h)
 exact⟨λW hW=>(Jf W (Jc W hW)).1,λW hW=>(Jf W (Jc W hW)).2,λW hW=>ij (bE ho hW h5),λW _=>⟨none,0,rfl,n_,o_,λh=>absurd h (Nat.lt_irrefl _)⟩,hl.1,by show cs.length<=10;omega,Je.1,⟨Je.2,Jg,λx hx=>by cases hx⟩,by show qs.length<=10;omega,y_,by show(0:Int)<=0/\(0:Int)<=10;omega⟩
 have:(J.setCell ⟨I,2,none⟩ (.slice px pm py)).heap.size=J.heap.size:=by simp
 omega
 ·have h8:=hL.by8 b off x y;have:(J.setCell ⟨I,2,none⟩ (.slice px pm py)).heap.size=J.heap.size:=i_
  refine⟨o_,λe=>?_⟩;rcases e with h|h|h|h|h|h;exact h8.2 h;omega;omega;omega;omega
  have:=(hv b h).1;omega
 have:(J.setCell ⟨I,2,none⟩ (.slice px pm py)).heap.size=J.heap.size:=by simp
 have:=h5 k hk
 omega
def GS.side{S:Ft}{w:AT}{G:Gn}{K:Nat}(h:GS g a len cap q S w G K){o:Nat}{v:BY}(J:S b)(Z:b≠g)(U:b≠q):GS g a len cap q S (w.setCell ⟨b,o,none⟩ v) G K:=by have I:aj (λk=>k=b) w (w.setCell ⟨b,o,none⟩ v):=(aj.refl (λk=>k=b) w).setCell (p:=⟨b,o,none⟩) rfl v;exact⟨h.cur.keep I (λe=>Z e.symm) (λb' off x y e=>(h.lo.by8 b' off x y).2 (e ▸ J)),h.box.keep (I.block q h.box.lt (λe=>U e.symm)),h.ok.tcs (I.mono λk hk=>hk ▸ J),h.lo.mono I.size,h.sq,h.ne⟩
def AS{Jl:BY}{Ja:AT}{U:List SV}(hf:aN Ja F [sV nm,Jl,.slice ba bn bc])(I:SR B Ja (.slice ba bn bc) U L)(hB:F<B/\B<=Ja.heap.size)(hg:g<F)(Z:Lo g a len (S0 g) F)(Jt:L<=1000):
  ∀w14 ua un uc ns,aW Ja.heap.size w14 (.slice ua un uc) ns->cI ns 400->Dr g a len cap (S0 g) Ja.drew w14->∃va vn vc w15,(Builtin.append_ #[50,50] 50 #[.slice ba bn bc,rV w14.heap.size 1 1]).run prog (w14.alloc (.cells #[V 6,sV ⟨#[]⟩,.slice ua un uc,nV,V 0,V 0] 79))=.ok (.slice va vn vc) w15/\(DO w14 F 2 (.slice ba bn bc)/\DO (w14.alloc (.cells #[V 6,sV ⟨#[]⟩,.slice ua un uc,nV,V 0,V 0] 79)) F 2 (.slice ba bn bc))/\DO w15 F 2 (.slice ba bn bc)/\D4 w15 F 2/\(∃R',SR B (w15.setCell ⟨F,2,none⟩ (.slice va vn vc)) (.slice va vn vc) R' (L+1)/\R'.length=U.length+1)/\aN (w15.setCell ⟨F,2,none⟩ (.slice va vn vc)) F [sV nm,Jl,.slice va vn vc]/\ew g a len cap (w15.setCell ⟨F,2,none⟩ (.slice va vn vc))/\aj (λb=>b=g\/b=F\/B<=b) Ja (w15.setCell ⟨F,2,none⟩ (.slice va vn vc)):=by
 intro w14 ua un uc ns hn ho J;have nF:¬S0 g F:=λe=>by have:F=g:=e;omega
 have Jm:F<Ja.heap.size:=o_;have Jr:∀k,S0 g k->k<B:=λk hk=>by have:k=g:=hk;omega
 have Jd:aj (S0 g) Ja w14:=((aj.refl (S0 g) Ja).drew).trans J.tcs;have Jj:=hf.tcs Jm Jd nF;obtain⟨o,Js⟩:∃o:Obj,o=.cells #[V 6,sV ⟨#[]⟩,.slice ua un uc,nV,V 0,V 0] 79:=⟨_,rfl⟩;have Je:=Jj.below ((Below.refl w14.heap.size w14).alloc n_ o);have Ji:=(I.tcs Jd Jr).below ((Below.refl w14.heap.size w14).alloc n_ o);have Jc:=lY (w:=w14) (B:=Ja.heap.size) (kd:=6) (th:=0) (el:=0) (nm:=⟨#[]⟩) (vf:=nV) (f:=[]) Jd.size (eJ hn n_) (λW _=>dd W) (ho.e3 o_) (cI.nil.more y_) d_;rw[<-Js]at Jc⊢;have Jg:B<=(w14.alloc o).heap.size:=by have:=Jd.size;simp;omega
 obtain⟨Jn,w15,Jo,Jk,Jp,-⟩:=kE 50 Ji Jc Jg o_ (j9 Jc hB.2 (λk hk=>(I.rng k hk).2));obtain⟨va,vn,vc,rfl⟩:∃x y z,Jn=.slice x y z:=by have⟨x,y,e⟩:=Jk.shape;exact⟨x,_,y,e⟩
 have Jb:aj (λk=>B<=k) (w14.alloc o) w15:=Jp.mono λk hk=>(I.rng k hk).1;have Jf:F<(w14.alloc o).heap.size:=o_
 have Jh:=Je.tcs Jf Jb o_;have h:aj (λk=>k=F) w15 (w15.setCell ⟨F,2,none⟩ (.slice va vn vc)):=(aj.refl (λk=>k=F) w15).setCell (p:=⟨F,2,none⟩) rfl _;refine⟨va,vn,vc,w15,Jo,⟨(Jj 2 _ rfl).1,(Je 2 _ rfl).1⟩,(Jh 2 _ rfl).1,(Jh 2 _ rfl).2,⟨_,Jk.tcs h (λk hk=>by omega),i_⟩,Jh.set 2 _,?_,?_⟩
 ·have Jq:ew g a len cap w15:=(J.cur.alloc o).new (Z.mono o_) Jb (λk hk=>hk);exact Jq.keep h o_ (λb off x y e=>by have:=(Z.by8 b off x y).1;omega)
 exact((((Jd.mono λk hk=>.inl hk).alloc o).trans (Jb.mono λk hk=>.inr (.inr hk)))).trans (h.mono λk hk=>.inr (.inl hk))
def rG{Bp M:Nat}{vG:BY}{J:Option Addr}{Z U:Nat}{Ja:AT}{Q:List FV}{R':List SV} 
  (hT:aN Ja T [vG,.slice J Z U]) (hF:aN Ja F [sV nm,.slice px pm py,.slice ba bn bc]) (Jl:FR (λk=>k<M) M Ja (.slice J Z U) Q) (hQ:Q.length<=10) (Jt:ew g a len cap Ja) (Js:g<T/\T<M/\M<=Ja.heap.size/\M<=F/\F<Ja.heap.size) (hL:Lo g a len (S0 g) T)
  (hp:∀W,aj (λb=>b<Bp) Ja W->be W (.slice px pm py) qs) (Jv:M<=Bp) (hq:qs.length<=6/\∀x∈qs,x.size<=100000) (hn:nm.size<=100000) (hr:SR B Ja (.slice ba bn bc) R' L) (Jw:1<=R'.length/\L<=1000) (Ju:M<=B) (Jh:∀k,(Value.slice J Z U).ownBlock=some k->k<B/\k<Bp/\k≠F):
  ∃va vn vc w17,(Builtin.append_ #[24,24] 24 #[.slice J Z U,rV Ja.heap.size 1 1]).run prog (Ja.alloc (.cells #[sV nm,.slice px pm py,.slice ba bn bc] 52))=.ok (.slice va vn vc) w17/\(DO w17 T 1 (.slice J Z U)/\D4 w17 T 1)/\aN (w17.setCell ⟨T,1,none⟩ (.slice va vn vc)) T [vG,.slice va vn vc]/\aN (w17.setCell ⟨T,1,none⟩ (.slice va vn vc)) F [sV nm,.slice px pm py,.slice ba bn bc]/\(∃Q',FR (λk=>k<M) M (w17.setCell ⟨T,1,none⟩ (.slice va vn vc)) (.slice va vn vc) Q'/\Q'.length=Q.length+1)/\ew g a len cap (w17.setCell ⟨T,1,none⟩ (.slice va vn vc))/\(∀W,aj (λb=>b=T\/(Value.slice va vn vc).ownBlock=some b) (w17.setCell ⟨T,1,none⟩ (.slice va vn vc)) W->aj (λb=>b=T\/(Value.slice J Z U).ownBlock=some b) Ja W)/\aj (λb=>b=T\/(Value.slice J Z U).ownBlock=some b) Ja (w17.setCell ⟨T,1,none⟩ (.slice va vn vc)):=by
 obtain⟨o,Jk⟩:∃o:Obj,o=.cells #[sV nm,.slice px pm py,.slice ba bn bc] 52:=⟨_,rfl⟩;have I:Bl Ja (Ja.alloc o):=ao _ _;have hc:aN (Ja.alloc o) Ja.heap.size [sV nm,.slice px pm py,.slice ba bn bc]:=by rw[Jk];exact aI Ja _ _ i_
 have Jg:∀W,aj (λk=>k<M\/(Value.slice J Z U).ownBlock=some k) (Ja.alloc o) W->AR [⟨⟨nm,qs,R'.map (·.s)⟩,.slice px pm py,.slice ba bn bc,R',[],[]⟩] W:=λW hW x hx=>by
  simp only[J7]at hx;subst hx;have Jp:aj (λb=>b<B) Ja W:=(I.tcs (S:=λb=>b<B)).trans (hW.mono λk hk=>by
   rcases hk with hk|hk;omega
   have:=Jh k hk;omega)
  have Jm:aj (λb=>b<Bp) Ja W:=(I.tcs (S:=λb=>b<Bp)).trans (hW.mono λk hk=>by
   rcases hk with hk|hk;omega
   have:=Jh k hk;omega)
  exact⟨hp W Jm,hr.rd W Jp,rfl⟩
 have Jq:xK ⟨nm,qs,R'.map (·.s)⟩:=⟨hn,by show qs.length<=20;omega,hq.2,by show 1<=(R'.map (·.s)).length;simp;omega,by show(R'.map (·.s)).length<=10000;have:=hr.len;simp;omega,hr.ok.bd⟩;have⟨Jr,w17,Ji,Jj,Jd,Jo⟩:=Da 24 (c:=1) (m:=1) (Jl.below I) (some ⟨Ja.heap.size,0,none⟩) (Q2:=[⟨⟨nm,qs,R'.map (·.s)⟩,.slice px pm py,.slice ba bn bc,R',[],[]⟩]) rfl (λe=>by cases e) (λad had j u hu=>by cases had;rw[dk,Nat.zero_add];exact(hc j u hu).1) (λx hx=>by simp only[J7]at hx;subst hx;exact⟨rfl,rfl⟩) (λx hx=>by simp only[J7]at hx;subst hx;exact Jq) Jg H6 (Ka I.size);obtain⟨va,vn,vc,rfl⟩:∃x y z,Jr=.slice x y z:=by have⟨x,y,e⟩:=Jj.shape;exact⟨x,_,y,e⟩
 rw[Jk]at Ji;have Jc:aj (λk=>M<=k) (Ja.alloc o) w17:=Jd.mono λk hk=>(Jl.rng k hk).1;have Jb:=(hT.below I).tcs (Ka I.size) Jc o_;have Je:=(hF.below I).tcs (Ka I.size) Jd (λe=>(Jh F e).2.2 rfl);have tS:aj (λk=>k=T) w17 (w17.setCell ⟨T,1,none⟩ (.slice va vn vc)):=(aj.refl (λk=>k=T) w17).setCell (p:=⟨T,1,none⟩) rfl _;have Jf:F<w17.heap.size:=Ia I.size Jd.size
 have tA:aj (λb=>b=T\/(Value.slice J Z U).ownBlock=some b) Ja (w17.setCell ⟨T,1,none⟩ (.slice va vn vc)):=((I.tcs (S:=λb=>b=T\/(Value.slice J Z U).ownBlock=some b)).trans (Jd.mono λk hk=>.inr hk)).trans (tS.mono λk hk=>.inl hk);refine⟨va,vn,vc,w17,Ji,⟨(Jb 1 _ rfl).1,(Jb 1 _ rfl).2⟩,Jb.set 1 _,Je.tcs Jf tS o_,⟨_,Jj.tcs (tS.mono λk hk=>by omega) (λk hk=>hk),i_⟩,?_,λW hW=>?_,tA⟩
 ·have Jn:ew g a len cap w17:=(Jt.alloc o).new (hL.mono (Nat.le_of_lt Js.2.1)) Jc (λk hk=>hk);exact Jn.keep tS o_ (λb off x y e=>by have:=(hL.by8 b off x y).1;omega)
 refine tA.next hW λk hk=>?_;rcases hk with hk|hk
 exact .inl (.inl hk);rcases Jo k hk with h|h;exact .inl (.inr h);exact .inr (Ka I.size)
def JR(g:Nat)(a:Option Addr)(len cap F B L r:Nat)(nm:Io)(par:BY)(W13 W:AT):Prop:=∃va vn vc R',aN W F [sV nm,par,.slice va vn vc]/\SR B W (.slice va vn vc) R' (L+1)/\R'.length=r+1/\ew g a len cap W/\aj (λb=>b=g\/b=F\/B<=b) W13 W
def I8(q:Nat)(W17:AT)(vp:BY)(cs:List Io)(W:AT):Prop:=∃xa xn xc,aN W q [.slice xa xn xc,vp,nV,nV,V 0]/\W.ownsRow W17.heap.size 9 1 (.slice xa xn xc) cs.length (cs.map Value.string)/\aj (λb=>b=q) W17 W
def Fv{Ja h:AT}{J U:BY}{v2:BY}(hq:aN Ja q [J,U,nV,nV,V 0])(hl:q<Ja.heap.size)(hb:Bl Ja h)(Z:h.ownsRow Ja.heap.size 9 1 v2 cs.length (cs.map Value.string)):∃xa xn xc,v2=.slice xa xn xc/\(DO h q 0 J/\D4 h q 0)/\I8 q Ja U cs (h.setCell ⟨q,0,none⟩ v2):=by obtain⟨xa,xc,rfl,-⟩:=aH Z;have h2:=hq.below hb;have I:aj (λb=>b=q) h (h.setCell ⟨q,0,none⟩ (.slice xa cs.length xc)):=(aj.refl (λb=>b=q) h).setCell (p:=⟨q,0,none⟩) rfl _;exact⟨xa,_,xc,rfl,h2 0 _ rfl,xa,_,xc,h2.set 0 _,bE Z I (λk hk=>by omega),(hb.tcs (S:=λb=>b=q)).trans I⟩
def AU:(prog.info? 2).map (λi=>(i.zero,i.size,i.bytes))=some (some (V 0),1,8):=by kernel_rfl
def Hn(w:AT)(v:BY)(I:List Int)(z:Int)(h:Ints w v I)(hl:I.length<=100000)(Z:JZ):
  ∃v1 w1 a2 n2 c2 w2,(Builtin.append_ #[34,34] Z #[rV w.heap.size 0 0,v]).run prog (w.alloc (.cells #[] 2))=.ok v1 w1/\(Builtin.append_ #[34,34] Z #[v1,rV w1.heap.size 1 1]).run prog (w1.alloc (.cells #[V z] 2))=.ok (.slice a2 n2 c2) w2/\w2.ownsRow w.heap.size 2 1 (.slice a2 n2 c2) (I++[z]).length ((I++[z]).map (Value.int .i64))/\Bl w w2:=by
 have⟨i0,hi,Jd,Je,Jf⟩:=info_parts AU;have Ja:Bl w (w.alloc (.cells #[] 2)):=ao _ _;have h0:(w.alloc (.cells #[] 2)).ownsRow w.heap.size 2 1 (rV w.heap.size 0 0) 0 []:=World.ownsRow_lit w #[] 0 n_ d_ rfl;obtain⟨a,c,rfl,hc⟩:=h.below Ja;obtain⟨v1,w1,r1,o1,g1,-⟩:=cU (P:=prog) (w:=w.alloc (.cells #[] 2)) w.heap.size 34 Z 2 i0 _ 1 8 underlying34 hi Jd Je Jf rfl d_ _ 0 [] h0 a I.length c (I.map (Value.int .i64)) (λe=>by
  rcases Nat.eq_zero_or_pos I.length with h'|h';exact h';obtain⟨b,U,-⟩:=hc h';rw[e]at U;cases U) i_ (λad had j u hu=>by
  have J:j<I.length:=by have:=(List.getElem?_eq_some_iff.1 hu).1;simpa using this
  have⟨b,U,Ji⟩:=hc o_;rw[had]at U;cases U
  rw[dk,Nat.zero_add];have:=Ji j J;rw[this];simp[J4 J]at hu;exact congrArg some hu) (λu hu=>by obtain⟨x,-,rfl⟩:=List.mem_map.1 hu;rfl) o_ d_ Ja.size
 have Jg:Bl w w1:=Ja.grown g1 Ja.size (λj J=>(World.ownsRow.lt h0 j J).1);have Jc:Bl w (w1.alloc (.cells #[V z] 2)):=Jg.alloc Jg.size _;have Jh:=ownB o1 ((Below.refl w1.heap.size w1).alloc n_ (.cells #[V z] 2));have Jb:(w1.alloc (.cells #[V z] 2)).ownsRow w1.heap.size 2 1 (rV w1.heap.size 1 1) 1 [V z]:=World.ownsRow_lit w1 #[V z] 1 n_ d_ rfl;obtain⟨v2,w2,r2,o2,g2,-⟩:=cU (P:=prog) (w:=w1.alloc (.cells #[V z] 2)) w.heap.size 34 Z 2 i0 _ 1 8 underlying34 hi Jd Je Jf rfl d_ v1 _ _ Jh (some ⟨w1.heap.size,0,none⟩) 1 1 [V z] (λe=>by cases e) rfl (λad had j u hu=>by cases had;exact World.ownsRow.cells Jb (g:=w1.heap.size) rfl j u hu) (λu hu=>by simp at hu;subst hu;rfl) o_ d_ Jc.size;obtain⟨a2,c2,rfl,-⟩:=aH o2;refine⟨v1,w1,a2,_,c2,w2,r1,r2,?_,Jc.grown g2 Jc.size (λj J=>(World.ownsRow.lt Jh j J).1)⟩;have e1:(I++[z]).length=0+I.length+1:=i_;have e2:(I++[z]).map (Value.int .i64)=[]++I.map (Value.int .i64)++[V z]:=i_;rw[e1,e2];exact o2
end
section
variable{g len cap T M:Nat}{a:Option Addr}
def S4(g T q I:Nat)(v:BY):Ft:=λk=>k=g\/k=T\/k=q\/k=I\/v.ownBlock=some k
def Fw{q:Nat}{wr:AT}{I:BY}{U pa:Option Addr}{Z J pn pc:Nat}{cs:List Io}{ps:List Int} 
  (Jd:∀W,aj (Sv (Sx g T q) I) wr W->be W (.slice U Z J) cs/\Ints W (.slice pa pn pc) ps) (hl:ps.length=cs.length/\cs.length<=4) (Jc:(∀x∈ps,0<=x/\x<=6)/\∀x∈cs,x.size<=100000)
  (Je:ew g a len cap wr) (Jf:g<T/\T<wr.heap.size/\g<q/\q<wr.heap.size) (hL:Lo g a len (S0 g) T) (Jg:T<q) (hv:∀k,I.ownBlock=some k->q<k/\k<wr.heap.size):
  GS g a len cap wr.heap.size (S4 g T q wr.heap.size I) (wr.alloc (.cells #[.slice U Z J,.slice pa pn pc,nV,nV,V 0] 106)) ⟨.slice U Z J,.slice pa pn pc,nV,nV,0,cs,ps,[],[]⟩ 10:=by
 have hf:=aI wr #[.slice U Z J,.slice pa pn pc,nV,nV,V 0] 106 i_;have hs:(wr.alloc (.cells #[.slice U Z J,.slice pa pn pc,nV,nV,V 0] 106)).heap.size=wr.heap.size+1:=i_;refine⟨Je.alloc _,⟨(hf 0 _ rfl).1,(hf 1 _ rfl).1,(hf 2 _ rfl).1,(hf 3 _ rfl).1,(hf 4 _ rfl).1,λj=>by simp⟩,?_,⟨o_,.inl rfl,λb off x y=>?_,λk hk=>?_⟩,.inr (.inr (.inr (.inl rfl))),o_⟩;have Ja:∀W,aj (S4 g T q wr.heap.size I) (wr.alloc (.cells #[.slice U Z J,.slice pa pn pc,nV,nV,V 0] 106)) W->aj (Sv (Sx g T q) I) wr W:=λW hW=>((aj.refl (Sv (Sx g T q) I) wr).alloc _).next hW λk hk=>by rcases hk with h|h|h|h|h;exact .inl (.inl (.inl h));exact .inl (.inl (.inr (.inl h)));exact .inl (.inl (.inr (.inr h)));exact .inr o_;exact .inl (.inr h)
 have Jb:∀W,be W nV []:=λW=>⟨none,0,rfl,n_,o_,λh=>absurd h (Nat.lt_irrefl _)⟩;exact⟨λW hW=>(Jd W (Ja W hW)).1,λW hW=>(Jd W (Ja W hW)).2,λW _=>Jb W,λW _=>Jb W,hl.1,by show cs.length<=10;omega,Jc.1,⟨Jc.2,(λx hx=>by cases hx),(λx hx=>by cases hx)⟩,y_,y_,by show(0:Int)<=0/\(0:Int)<=10;omega⟩
 ·have h8:=hL.by8 b off x y;refine⟨o_,λe=>?_⟩;rcases e with h|h|h|h|h
  ·exact h8.2 h
  omega;omega;omega
  have:=(hv b h).1;omega
 rcases hk with h|h|h|h|h;omega;omega;omega;omega
 have:=(hv k h).2;omega
def xN{B:Nat}{nm:Io}{vG:BY}{U ba:Option Addr}{fn Z bn bc:Nat}{Ja:AT}{Q:List FV}{J:List SV}{L:Nat} 
  (hT:aN Ja T [vG,.slice U fn Z]) (Je:FR (λk=>k<M) M Ja (.slice U fn Z) Q) (hQ:Q.length<=10) (Js:ew g a len cap Ja) (Jr:g<T/\T<M/\M<=Ja.heap.size) (hL:Lo g a len (S0 g) T) (hn:nm.size<=100000) (hr:SR B Ja (.slice ba bn bc) J L) (Jv:1<=J.length/\L<=1000) (Ju:M<=B):
  ∃va vn vc w17,(Builtin.append_ #[24,24] 24 #[rV Ja.heap.size 1 1,.slice U fn Z]).run prog (Ja.alloc (.cells #[sV nm,nV,.slice ba bn bc] 52))=.ok (.slice va vn vc) w17/\(DO w17 T 1 (.slice U fn Z)/\D4 w17 T 1)/\aN (w17.setCell ⟨T,1,none⟩ (.slice va vn vc)) T [vG,.slice va vn vc]/\(∃Q',FR (λk=>k<M) M (w17.setCell ⟨T,1,none⟩ (.slice va vn vc)) (.slice va vn vc) Q'/\Q'.length=Q.length+1)/\ew g a len cap (w17.setCell ⟨T,1,none⟩ (.slice va vn vc))/\aj (λb=>b=T) Ja (w17.setCell ⟨T,1,none⟩ (.slice va vn vc)):=by
 obtain⟨o,Jj⟩:∃o:Obj,o=.cells #[sV nm,nV,.slice ba bn bc] 52:=⟨_,rfl⟩;have I:Bl Ja (Ja.alloc o):=ao _ _;have Jo:xK ⟨nm,[],J.map (·.s)⟩:=⟨hn,by show(0:Nat)<=20;omega,(λp hp=>by cases hp),by show 1<=(J.map (·.s)).length;simp;omega,by show(J.map (·.s)).length<=10000;have:=hr.len;simp;omega,hr.ok.bd⟩;have Jd:FR (λk=>k<M) M (Ja.alloc o) (rV Ja.heap.size 1 1) [⟨⟨nm,[],J.map (·.s)⟩,nV,.slice ba bn bc,J,[],[]⟩]:=by
  refine⟨⟨?_,λW hW x hx=>?_⟩,λx hx=>by simp only[J7]at hx;subst hx;exact Jo⟩;rw[Jj];exact ownsRow_lit Ja #[sV nm,nV,.slice ba bn bc] 1 Jr.2.2 d_ rfl;simp only[J7]at hx;subst hx;have Jn:aj (λb=>b<B) Ja W:=(I.tcs (S:=λb=>b<B)).next hW λk hk=>by rcases hk with hk|hk;exact .inl o_;simp only[ownBlock,J0]at hk;exact .inr o_
  exact⟨⟨none,0,rfl,n_,o_,λh=>absurd h (Nat.lt_irrefl _)⟩,hr.rd W Jn,rfl⟩
 have Jf:=Je.below I;have⟨a',c',he,Jq,Jm⟩:=aH Jf.row.row;simp only[Value.slice.injEq]at he;obtain⟨rfl,Ji,rfl⟩:=he;have⟨Jp,w17,Jg,Jh,Jl,Jt⟩:=Da 24 (c:=Z) (m:=fn) Jd U (Q2:=Q) Ji (λe=>by rw[Ji];exact Jq e) Jm (λx hx=>by obtain⟨e1,e2,-⟩:=Jf.row.now x hx;obtain⟨_,_,e1,-⟩:=e1;exact⟨by rw[e1];rfl,e2.one⟩) Je.ok (λW hW=>Je.row.st W ((I.tcs (S:=λk=>k<M\/(Value.slice U fn Z).ownBlock=some k)).next hW λk hk=>by rcases hk with hk|hk;exact .inl (.inl hk);simp only[ownBlock,J0]at hk;exact .inr o_)) H6 (Ka I.size)
 obtain⟨va,vn,vc,rfl⟩:∃x y z,Jp=.slice x y z:=by have⟨x,y,e⟩:=Jh.shape;exact⟨x,_,y,e⟩
 rw[Jj]at Jg;have Jc:aj (λk=>Ja.heap.size<=k) (Ja.alloc o) w17:=Jl.mono λk hk=>by simp only[ownBlock,J0]at hk;omega
 have Jb:=(hT.below I).tcs (Ka I.size) Jc o_;have tS:aj (λk=>k=T) w17 (w17.setCell ⟨T,1,none⟩ (.slice va vn vc)):=(aj.refl (λk=>k=T) w17).setCell (p:=⟨T,1,none⟩) rfl _;refine⟨va,vn,vc,w17,Jg,⟨(Jb 1 _ rfl).1,(Jb 1 _ rfl).2⟩,Jb.set 1 _,⟨_,Jh.tcs (tS.mono λk hk=>by omega) (λk hk=>hk),i_⟩,?_,?_⟩
 ·have Jk:ew g a len cap w17:=(Js.alloc o).new (hL.mono o_) Jc (λk hk=>hk);exact Jk.keep tS o_ (λb off x y e=>by have:=(hL.by8 b off x y).1;omega)
 exact((I.tcs (S:=λb=>b=T)).next Jc (λk hk=>.inr hk)).trans tS
def Hp{J:Nat}{w W2 W:AT}{va:Option Addr}{vn vc:Nat}{h:List FV}(hg:aN W J pK)(Jd:w.heap.size<=J/\J<W.heap.size)(Ja:FR (λk=>k<M) M W (.slice va vn vc) h)(hM:w.heap.size<=M)(hQ:1<=h.length/\h.length<=20):∃t,TD (λk=>k<w.heap.size) W (rV J 4 4) (.slice va vn vc) t:=by
 refine⟨⟨globs4,h.map (λq:FV=>q.f)⟩,λW' hW=>Dc (hg.tcs Jd.2 hW o_),?fs,⟨(by decide:1<=globs4.length),(by decide:globs4.length<=20)⟩,?_,⟨by simp;omega,by simp;omega⟩,?_⟩
 case fs=>
  have U:=Ja.row.row;rcases U.2 with⟨-,hz⟩|⟨b,Jc,Je,e,h3,h4,h5⟩;omega;obtain⟨q1,Z,-⟩:=h5;unfold maxLen at Z;refine⟨b,0,Jc,h,e,q1,Z,rfl,λW' hW=>?_⟩;have Jb:aj (λk=>k<M) W W':=hW.mono λk hk=>by omega
  refine⟨λj u hu=>?_,Ja.row.st W' (Jb.mono λk hk=>.inl hk)⟩;rw[e]at U;have:=ownsRow.cells (bE U Jb (λk hk=>hk)) (g:=b) rfl j u hu;rwa[dk]at this
 intro x I;simp only[globs4,mem_cons,not_mem_nil,or_false]at I;rcases I with rfl|rfl|rfl|rfl <;> decide
 intro f hf;obtain⟨x,I,rfl⟩:=mem_map.1 hf;exact Ja.ok x I
end
section
variable{R:List SV}{S S':Ft}{B b n cap:Nat}{w w':AT}{v:BY}{Q:List FV}
theorem rH:∀(R:List SV) (i c:Nat) (u:BY) (x':SV) (hi:i<R.length),c<6->cellsS x'=(cellsS R[i]).set c u->bO (R.set i x')=(bO R).set (i*6+c) u
 | x::l,0,c,u,x',_,hc,hx=>by have h6:(cellsS x).length=6:=rfl;show cellsS x'++bO l=(cellsS x++bO l).set (0*6+c) u;rw[set_append_left _ _ o_];have:cellsS x'=(cellsS x).set c u:=hx;rw[this];simp
 | x::l,i+1,c,u,x',hi,hc,hx=>by have h6:(cellsS x).length=6:=rfl;show cellsS x++bO (l.set i x')=(cellsS x++bO l).set ((i+1)*6+c) u;rw[set_append_right _ _ o_,rH l i c u x' (IN hi) hc hx];congr 2;omega
theorem rI:∀(Q:List FV) (i c:Nat) (u:BY) (x':FV) (hi:i<Q.length),c<3->aX x'=(aX Q[i]).set c u->bD (Q.set i x')=(bD Q).set (i*3+c) u
 | x::l,0,c,u,x',_,hc,hx=>by have h6:(aX x).length=3:=rfl;show aX x'++bD l=(aX x++bD l).set (0*3+c) u;rw[set_append_left _ _ o_];have:aX x'=(aX x).set c u:=hx;rw[this];simp
 | x::l,i+1,c,u,x',hi,hc,hx=>by have h6:(aX x).length=3:=rfl;show aX x++bD (l.set i x')=(aX x++bD l).set ((i+1)*3+c) u;rw[set_append_right _ _ o_,rI l i c u x' (IN hi) hc hx];congr 2;omega
def I9(R:List SV):Prop:=∀x∈R,cI x.s.e 5000/\cI x.s.f 5000/\x.s.nm.size<=100000
def I7.two(h:I7 R):I9 R:=λx hx=>⟨(h x hx).1.more o_,(h x hx).2.1.more o_,(h x hx).2.2⟩
structure nj (f:Fu):Prop where
 nm:f.nm.size<=100000
 pl:f.pm.length<=30
 pn:∀p∈f.pm,p.size<=100000
 bu:f.bd.length<=20000
 st:∀s∈f.bd,cI s.e 5000/\cI s.f 5000/\s.nm.size<=100000
def xK.two{f:Fu}(h:xK f):nj f:=⟨h.nm,Ka h.pl,h.pn,Ka h.bu,λs hs=>⟨(h.st s hs).1.more o_,(h.st s hs).2.1.more o_,(h.st s hs).2.2⟩⟩
structure BR (S:Ft) (B:Nat) (w:AT) (v:BY) (R:List SV):Prop where
 row:ge 79 6 S B w v R.length (bO R) (BH R)
 ok:I9 R
def BR.tcs(h:BR S B w v R)(ht:aj S w w')(hS:∀k,S k->k<B):BR S B w' v R:=⟨h.row.tcs ht hS,h.ok⟩
def BR.below(h:BR S B w v R)(hb:Bl w w'):BR S B w' v R:=⟨h.row.below hb,h.ok⟩
def BR.rng(h:BR S B w v R):∀k,v.ownBlock=some k->B<=k/\k<w.heap.size:=λk hk=>ownsRow.lt h.row.row k hk
def BR.shape(h:BR S B w v R)(J:0<R.length):∃b c,v=rV b R.length c:=by rcases h.row.row.2 with⟨-,I⟩|⟨g,Ja,Jb,rfl,_⟩;omega;exact⟨g,Ja,rfl⟩
def BR.put(h:BR S B w (rV b n cap) R)(i c:Nat)(u:BY)(I:SV)(hi:i<R.length)(hc:c<6)(hx:cellsS I=(cellsS R[i]).set c u)(hp:∀W,aj (λk=>S k\/k=b) w W->aC W I.ve I.s.e/\aC W I.vf I.s.f)(ho:cI I.s.e 5000/\cI I.s.f 5000/\I.s.nm.size<=100000):
  BR S B (w.setCell ⟨b,i*6+c,none⟩ u) (rV b n cap) (R.set i I):=by
 have hn:n=R.length:=by obtain⟨_,_,e,-⟩:=aH h.row.row;simp at e;exact e.2.1
 subst hn;have Z:=(h.row.row.stored (i*6+c) u).1;refine⟨⟨by rw[length_set,rH R i c u I hi hc hx];exact Z,λW hW x J=>?_⟩,λx J=>?_⟩;have U:aj (λk=>S k\/k=b) w W:=((aj.refl (λk=>S k\/k=b) w).setCell (p:=⟨b,i*6+c,none⟩) (.inr rfl) u).trans (hW.mono λk hk=>hk.imp id λe=>by simp[ownBlock]at e;exact e.symm);rcases mem_or_eq_of_mem_set J with J|rfl;exact h.row.st W (U.mono λk hk=>hk.imp id λe=>by rw[e];rfl) x J;exact hp W U;rcases mem_or_eq_of_mem_set J with J|rfl;exact h.ok x J;exact ho
structure F2 (S:Ft) (B:Nat) (w:AT) (v:BY) (Q:List FV):Prop where
 row:ge 52 3 S B w v Q.length (bD Q) (AR Q)
 ok:∀x∈Q,nj x.f
def F2.tcs(h:F2 S B w v Q)(ht:aj S w w')(hS:∀k,S k->k<B):F2 S B w' v Q:=⟨h.row.tcs ht hS,h.ok⟩
def F2.below(h:F2 S B w v Q)(hb:Bl w w'):F2 S B w' v Q:=⟨h.row.below hb,h.ok⟩
def F2.less(h:F2 S B w v Q)(hs:∀k,S' k->S k):F2 S' B w v Q:=⟨h.row.less hs,h.ok⟩
def F2.rng(h:F2 S B w v Q):∀k,v.ownBlock=some k->B<=k/\k<w.heap.size:=λk hk=>ownsRow.lt h.row.row k hk
def F2.fc(h:F2 S B w v Q)(hS:∀k,S k->k<B):∀W,aj S w W->bj W v (Q.map (λq:FV=>q.f)):=λW hW=>C9 (bE h.row.row hW hS) (h.row.st W (hW.mono λk hk=>.inl hk))
def F2.fx{c:Nat}(h:F2 S B w (rV b n c) Q)(U:n=Q.length)(J:∀k,S k->k<B)(I:∀k,S' k->S k):∃b' off c',∃Q':List FV,Value.slice (some ⟨b,0,none⟩) n c=.slice (some ⟨b',off,none⟩) Q'.length c'/\Q'.map (λq:FV=>q.f)=Q.map (λq:FV=>q.f)/\∀W,aj S' w W->(∀j u,(bD Q')[j]? =some u->DO W b' (off+j) u)/\AR Q' W:=by subst U;refine⟨b,0,c,Q,rfl,rfl,λW hW=>⟨λj u hu=>?_,h.row.st W ((hW.mono I).mono λk hk=>.inl hk)⟩⟩;have:=ownsRow.cells (bE h.row.row (hW.mono I) J) (g:=b) rfl j u hu;rwa[dk]at this
def F2.put(h:F2 S B w (rV b n cap) Q)(i c:Nat)(u:BY)(I:FV)(hi:i<Q.length)(hc:c<3)(hx:aX I=(aX Q[i]).set c u)(hp:∀W,aj (λk=>S k\/k=b) w W->be W I.vp I.f.pm/\C7 W I.vb I.R/\I.R.map (·.s)=I.f.bd)(ho:nj I.f):
  F2 S B (w.setCell ⟨b,i*3+c,none⟩ u) (rV b n cap) (Q.set i I):=by
 have hn:n=Q.length:=by obtain⟨_,_,e,-⟩:=aH h.row.row;simp at e;exact e.2.1
 subst hn;have Z:=(h.row.row.stored (i*3+c) u).1;refine⟨⟨by rw[length_set,rI Q i c u I hi hc hx];exact Z,λW hW x J=>?_⟩,λx J=>?_⟩;have U:aj (λk=>S k\/k=b) w W:=((aj.refl (λk=>S k\/k=b) w).setCell (p:=⟨b,i*3+c,none⟩) (.inr rfl) u).trans (hW.mono λk hk=>hk.imp id λe=>by simp[ownBlock]at e;exact e.symm);rcases mem_or_eq_of_mem_set J with J|rfl;exact h.row.st W (U.mono λk hk=>hk.imp id λe=>by rw[e];rfl) x J;exact hp W U;rcases mem_or_eq_of_mem_set J with J|rfl;exact h.ok x J;exact ho
end
section
variable{S:Ft}{w:AT}{vg vf:BY}{t:Tr}
structure TW (S:Ft) (w:AT) (vg vf:BY) (t:Tr):Prop where
 gs:∀W,aj S w W->cD W vg t.gl
 fs:∀W,aj S w W->bj W vf t.fc
 fx:∃b off c,∃Q:List FV,vf=.slice (some ⟨b,off,none⟩) Q.length c/\Q.map (λq:FV=>q.f)=t.fc/\∀W,aj S w W->(∀j u,(bD Q)[j]? =some u->W.cell? ⟨b,off+j,none⟩=some u)/\AR Q W
 gl:t.gl.length<=30
 gn:∀x∈t.gl,x.nm.size<=100000
 fl:t.fc.length<=20
 fp:1<=t.fc.length
 ok:∀f∈t.fc,nj f
def TD.tw(h:TD S w vg vf t):TW S w vg vf t:=⟨h.gs,h.fc,(by obtain⟨b,off,c,Q,h1,-,-,h4,h5⟩:=h.fs;exact⟨b,off,c,Q,h1,h4,h5⟩),Ka h.gl.2,h.gn,h.fl.2,h.fl.1,λf hf=>(h.ok f hf).two⟩
def TW.tcs{w':AT}(h:TW S w vg vf t)(ht:aj S w w'):TW S w' vg vf t:=⟨λW hW=>h.gs W (ht.trans hW),λW hW=>h.fs W (ht.trans hW),(by have⟨b,off,c,Q,h1,h4,h5⟩:=h.fx;exact⟨b,off,c,Q,h1,h4,λW hW=>h5 W (ht.trans hW)⟩),h.gl,h.gn,h.fl,h.fp,h.ok⟩
def TW.small(h:TW S w vg vf t):eQ t/\yq t:=by refine⟨⟨Ka h.gl,Ka h.fl,λf hf=>?_⟩,⟨⟨Ka h.gl,λx hx=>Ka (h.gn x hx)⟩,⟨Ka h.fl,λf hf=>?_⟩⟩⟩;have k:=h.ok f hf;refine⟨Ka k.pl,Ka k.bu,λs hs=>?_⟩;obtain⟨I,h2,-⟩:=k.st s hs;exact⟨Ka I.1,Ka h2.1⟩;have k:=h.ok f hf;refine⟨Ka k.nm,⟨Ka k.pl,λp hp=>Ka (k.pn p hp)⟩,⟨Ka k.bu,λs hs=>?_⟩⟩;have⟨I,h2,h3⟩:=k.st s hs;exact⟨o_,⟨Ka I.1,λn hn=>Ka (I.2 n hn)⟩,⟨Ka h2.1,λn hn=>Ka (h2.2 n hn)⟩⟩
end
section
variable{T:JZ}{sz B n:Nat}{S:Ft}{w w':AT}{v:BY}{xs:List BY}
def gN(h:w.ownsRow B T sz v n xs)(U:aj S w w')(Z:∀k,v.ownBlock=some k->¬S k):w'.ownsRow B T sz v n xs:=by obtain⟨I,h|⟨g,Jb,Ja,rfl,J,h2,h3⟩⟩:=h;exact⟨I,.inl h⟩;exact⟨I,.inr ⟨g,Jb,Ja,rfl,J,(U.block g (Array.getElem?_eq_some_iff.1 h2).1 (Z g rfl)).trans h2,h3⟩⟩
def ge.past{S':Ft}{P:AT->Prop}(h:ge T sz S B w v n xs P)(ht:aj S' w w')(hs:∀k,S' k->S k)(hn:∀k,v.ownBlock=some k->¬S' k):ge T sz S B w' v n xs P:=
 ⟨gN h.row ht hn,λW hW=>h.st W ((ht.mono λk hk=>.inl (hs k hk)).trans hW)⟩
structure CP (g M:Nat) (a:Option Addr) (len cap O R4 N fl:Nat) (w W:AT) (vb vg:BY) (bF cF:Nat) (gs:List Gl) (Q:List FV) (R:List SV):Prop where
 box:aN W O [vg,rV bF fl cF]
 res:aN W R4 [nV,nV]
 gr:GR N W vg gs
 fr:F2 (λk=>k<M\/k=R4) N W (rV bF fl cF) Q
 br:BR (λk=>k<M\/k=R4\/k=bF) N W vb R
 ln:Q.length=fl/\fl<=20/\gs.length<=30/\R.length<=20000
 gn:∀x∈gs,x.nm.size<=100000
 cur:ew g a len cap W
 tcs:aj (S0 g) w W
 ne:O≠bF/\O≠R4/\(∀k,vg.ownBlock=some k->k≠bF)/\(∀k,vb.ownBlock=some k->k≠bF)
 lo:(g<M/\M<=w.heap.size)/\w.heap.size<=R4/\R4<N/\w.heap.size<=O
def AV{g M:Nat}{a:Option Addr}{len cap O J N U:Nat}{W:AT}{vb vg:BY}{I Z:Nat}{gs:List Gl}{Q:List FV}{R:List SV}(h:CP g M a len cap O J N U w W vb vg I Z gs Q R)(hL:Lo g a len (S0 g) w.heap.size)(f:Nat)(hf:f<U):
  (W.cell? ⟨O,1,none⟩=some (rV I U Z)/\(∃old,W.cell? ⟨I,f*3+2,none⟩=some old)/\W.frozen? ⟨I,f*3+2,none⟩=false)/\∃W1,W1=W.setCell ⟨I,f*3+2,none⟩ vb/\aN W1 O [vg,rV I U Z]/\aN W1 J [nV,nV]/\∃W2,W2=(W1.setCell ⟨J,0,none⟩ vg).setCell ⟨J,1,none⟩ (rV I U Z)/\aN W2 J [vg,rV I U Z]/\(∃t,TW (λk=>k<M) W2 vg (rV I U Z) t)/\Dr g a len cap (S0 g) w W2:=by
 have⟨Ji,Js,Jn,Jk⟩:=h.ln;have⟨n1,n2,n3,n4⟩:=h.ne;have⟨l0,l1,l2,l3⟩:=h.lo;have Jt:=hL.gl;have Jr:=h.fr.rng I rfl;have Je:f<Q.length:=o_;have Ja:W.ownsRow N 52 3 (rV I U Z) U (bD Q):=by have:=h.fr.row.row;rw[Ji]at this;exact this
 have Jp:(bD Q).length=Q.length*3:=fC Q;refine⟨⟨(h.box 1 _ rfl).1,⟨(bD Q)[f*3+2]'(by omega),?_⟩,ownsRow.frozenAt Ja _⟩,_,rfl,?_⟩;rw[ownsRow.cellAt Ja (f*3+2) o_];exact J4 _
 have⟨W1,Jf⟩:=q_ (W.setCell ⟨I,f*3+2,none⟩ vb);have t1:aj (λk=>k=I) W W1:=by rw[Jf];exact(aj.refl (λk=>k=I) W).setCell (p:=⟨I,f*3+2,none⟩) rfl _
 have Jm:O<W.heap.size:=b_ (h.box 0 _ rfl).1;have Jc:J<W.heap.size:=b_ (h.res 0 _ rfl).1;have Jl:=h.box.tcs Jm t1 (λe=>n1 e);have Jj:=h.res.tcs Jc t1 (λe=>by have e:J=I:=e;omega);have hp:∀W',aj (λk=>(k<M\/k=J)\/k=I) W W'->be W' Q[f].vp Q[f].f.pm/\C7 W' vb R/\R.map (·.s)=R.map (·.s):=λW' hW'=>by
  refine⟨(h.fr.row.st W' (hW'.mono λk hk=>hk.imp id λe=>by rw[e];rfl) Q[f] (g_ Je)).1,C8 (B:=N) (gN h.br.row.row hW' λk hk hs=>?_) (h.br.row.st W' (hW'.mono λk hk=>.inl ?_)),rfl⟩
  ·have:=(h.br.rng k hk).1
   have:=n4 k hk
   rcases hs with(e|e)|e <;> omega
  rcases hk with(e|e)|e;exact .inl e;exact .inr (.inl e);exact .inr (.inr e)
 have ho:nj ⟨Q[f].f.nm,Q[f].f.pm,R.map (·.s)⟩:=by have k:=h.fr.ok Q[f] (g_ Je);exact⟨k.nm,k.pl,k.pn,by show(R.map (·.s)).length<=20000;simpa using Jk,λs hs=>by obtain⟨x,hx,rfl⟩:=mem_map.1 hs;exact h.br.ok x hx⟩
 have Jh:=h.fr.put f 2 vb ⟨⟨Q[f].f.nm,Q[f].f.pm,R.map (·.s)⟩,Q[f].vp,vb,R,[],[]⟩ Je o_ rfl hp ho;rw[<-Jf]at Jh⊢;refine⟨Jl,Jj,_,rfl,?_⟩;have⟨W2,Jb⟩:=q_ ((W1.setCell ⟨J,0,none⟩ vg).setCell ⟨J,1,none⟩ (rV I U Z));have t2:aj (λk=>k=J) W1 W2:=by rw[Jb];exact((aj.refl (λk=>k=J) W1).setCell (p:=⟨J,0,none⟩) rfl _).setCell (p:=⟨J,1,none⟩) rfl _
 have Jq:aN W2 J [vg,rV I U Z]:=by rw[Jb];exact(Jj.set 0 _).set 1 _
 have Jg:W.ownsRow N 48 2 vg gs.length (dw gs):=h.gr;have Jo:GR N W2 vg gs:=gN (gN Jg t1 (λk hk e=>n3 k hk e)) t2 (λk hk e=>by have:=(ownsRow.lt Jg k hk).1;have e:k=J:=e;omega);have Jd:=Jh.tcs (t2.mono λk hk=>.inr hk) (λk hk=>by rcases hk with e|e <;> omega);rw[<-Jb];refine⟨Jq,⟨⟨gs,_⟩,λW' hW'=>C4 (bE Jo hW' λk hk=>by have:k<M:=hk;omega),λW' hW'=>Jd.fc (λk hk=>by rcases hk with e|e <;> omega) W' (hW'.mono λk hk=>.inl hk),Jd.fx (by simp[Ji]) (λk hk=>by rcases hk with e|e <;> omega) (λk hk=>.inl hk),Jn,h.gn,by simp;omega,by simp;omega,λx hx=>?_⟩,⟨?_,?_⟩⟩;obtain⟨q,hq,rfl⟩:=mem_map.1 hx;exact Jd.ok q hq;exact(h.cur.new hL t1 (λk hk=>by omega)).new hL t2 (λk hk=>by omega);exact(h.tcs.next t1 (λk hk=>.inr o_)).next t2 (λk hk=>.inr o_)
end
