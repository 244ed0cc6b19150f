import Derived.Test.YtlamjfhhefcohaaGreatDoorP23
import Derived.Test.YtlamjfhhefcohaaGreatDoorP29
import Derived.Test.YtlamjfhhefcohaaGreatDoorP24
import Derived.Test.YtlamjfhhefcohaaGreatDoorP13
set_option linter.unusedSectionVars false
variable [Inhabited Go.Proofs.YtlamjfhhefcohaaGreatDoor.Pick]
namespace Go.Proofs.YtlamjfhhefcohaaGreatDoor
open Go.Proofs.Tryz
set_option linter.all false
set_option maxRecDepth 100000
set_option maxHeartbeats 16000000
section
open Go.RowKit
variable{n:Nat}{s:PS}
def su(G:GT)(w:World)(a:List Nd)(s':PS)(e:Ending)(w':World):Prop:=∃u,e=.returned u/\aF w.heap.size w' u a/\aN G w' s'/\am (fun k=>k=G.P) w w'
def eu(n:Nat)(s:PS):Prop:= -8000000+(n:Int)<=s.op/\s.op+(n:Int)<=8000000
def OpC(G:GT)(n:Nat):Prop:=∀(w:World) (s:PS) (a:List Nd) (s':PS),Pa G.T n .o s (.n a) s'->a.length<=1000000->eu n s->aN G w s ->
 Calls prog 152 #[.pointer (some ⟨G.P,0,none⟩)] w (su G w a s')
def l9(G:GT)(n:Nat):Prop:=∀(w:World) (least:Int) (s:PS) (a:List Nd) (s':PS),Pa G.T n (.e least) s (.n a) s'->a.length<=1000000->eu n s->aN G w s ->
 Calls prog 119 #[.pointer (some ⟨G.P,0,none⟩),.int .i64 least] w (su G w a s')
theorem eu.le{m:Nat}(h:eu n s)(hm:m<=n):eu m s:=by unfold eu at*;omega
theorem eu.of{s1:PS}(h:eu n s)(e:s1.op=s.op):eu n s1:=by unfold eu at*;rw[e];exact h
theorem zS:∀x∈fq,aB x.2.1=true/\strN x.2.1=x.2.2/\1<=x.2.2/\x.2.2<=10:=by
 intro x hx;unfold fq at hx;simp only[List.mem_cons,List.not_mem_nil,or_false]at hx;rcases hx with rfl|rfl|rfl|rfl|rfl|rfl|rfl|rfl|rfl|rfl|rfl|rfl|rfl|rfl|rfl|rfl|rfl|rfl
 ·exact⟨by simp[aB,tx,ByteArray.toList_eq],rfl,by decide,by decide⟩
 ·exact⟨by simp[aB,tx,ByteArray.toList_eq],rfl,by decide,by decide⟩
 ·exact⟨pC 0 (by decide),rfl,by decide,by decide⟩
 ·exact⟨pC 1 (by decide),rfl,by decide,by decide⟩
 ·exact⟨pC 2 (by decide),rfl,by decide,by decide⟩
 ·exact⟨pC 3 (by decide),rfl,by decide,by decide⟩
 ·exact⟨pC 4 (by decide),rfl,by decide,by decide⟩
 ·exact⟨pC 5 (by decide),rfl,by decide,by decide⟩
 ·exact⟨pC 6 (by decide),rfl,by decide,by decide⟩
 ·exact⟨pC 7 (by decide),rfl,by decide,by decide⟩
 ·exact⟨pC 8 (by decide),rfl,by decide,by decide⟩
 ·exact⟨pC 9 (by decide),rfl,by decide,by decide⟩
 ·exact⟨pC 10 (by decide),rfl,by decide,by decide⟩
 ·exact⟨pC 11 (by decide),rfl,by decide,by decide⟩
 ·exact⟨pC 12 (by decide),rfl,by decide,by decide⟩
 ·exact⟨pC 13 (by decide),rfl,by decide,by decide⟩
 ·exact⟨pC 14 (by decide),rfl,by decide,by decide⟩
 ·exact⟨pC 15 (by decide),rfl,by decide,by decide⟩
theorem Cv{T:Nat->To}{x:List UInt8×Nd×Int}(h:gi T s=some x):x∈fq/\aC T x.1 s=true:=by
 unfold gi at h;have h2:=List.find?_some (p:=fun (o:List UInt8×Nd×Int)=>aC T o.1 s) h;exact⟨List.mem_of_find?_eq_some h,h2⟩
theorem qL{T:Nat->To}{m:Int}{o:List Nd}{a:List Nd}{s':PS}(h:Pa T n (.lp m o) s (.n a) s'):
  (s.er≠0/\a=o/\s'=s)∨(s.er=0/\(∀x,gi T s=some x->x.2.2<m)/\a=o/\s'=s) ∨
  (s.er=0/\∃k x b s1,n=k+1/\gi T s=some x/\m<=x.2.2/\Pa T k (.e (x.2.2+1)) s.ad (.n b) s1/\Pa T k (.lp m (o++b++[x.2.1])) s1 (.n a) s'):=by
 cases h using Pa_i with
 | lpd n m o s h1=>exact .inl ⟨h1,rfl,rfl⟩
 | lps n m o s h1 h2=>exact .inr (.inl ⟨h1,h2,rfl,rfl⟩)
 | lpm n m o s x b s1 r s' h1 h2 h3 h4 h5=>exact .inr (.inr ⟨h1,_,x,b,s1,rfl,h2,h3,h4,h5⟩)
theorem wW{G:GT}(hL:ft G.T G.K)(hO:OpC G n)(hE:l9 G n):l9 G (n+1):=by
  intro w Ja s a s' hP Xx Xl hS
  obtain⟨a0,s0,Xs,Xp⟩:∃a0 s0,Pa G.T n .o s (.n a0) s0/\Pa G.T n (.lp Ja a0) s0 (.n a) s':=by
    cases hP using Pa_i with
    | ex n m s a0 s0 r s' h1 h2=>exact⟨a0,s0,h1,h2⟩
  have Za:a0.length<=1000000:=t_ Xp.acc Xx
  have HO:=ah (hO w s a0 s0 Xs Za (Xl.le (Nat.le_succ n)) hS)
  have HE:=ah hE
  have HL:=ah hL
  have Yi:=ah Xp
  have Ze:=ah (Xl.le (Nat.le_succ n))
  have Yv:=ah Xs.op
  have Zb:=ah Xx
  have X_:=ah hS.lt.1
  go_enter func119,ntmps119
  go_wp2_with fail
  refine HO.out.mono ?_
  rintro e w1 ⟨u1,rfl,Xj,Xb,Xh⟩
  have Ym:=ah Xj
  have Yw:=ah Xb
  have Yn:=ah Xh
  clear Xj Xb Xh HO
  go_wp2
  go_loopg[5] n (fun gk u wr=>∃(o:List Nd) (z:PS),gk<=n/\Pa G.T gk (.lp Ja o) z (.n a) s'/\z.op=s.op/\aF w.heap.size wr u o/\aN G wr z/\am (fun k=>k=G.P) w wr)
  case atStart=>exact⟨a0,s0,n_,Yi.out,Yv.out,Ym.out,Yw.out,Yn.out⟩
  case round=>
    obtain⟨o,z,J_,hp,Ye,hR,hZ,hT⟩:=hrel
    have p3:wr.cell? ⟨G.P,3,none⟩=some (.int .i64 z.er):=(hZ.box 3 _ rfl).1
    have HR:=ah hR
    have HZ:=ah hZ
    have HT:=ah hT
    rcases qL hp with⟨h0,rfl,rfl⟩|⟨h0,Xi,rfl,rfl⟩|⟨h0,k,x,b,s1,rfl,Jz,hm,Jn,Jl⟩
    · clear hp hR hZ hT J_
      go_wp2
      go_ret
      exact⟨_,rfl,HR.out,HZ.out,HT.out⟩
    · have Jq:=ah (mI hZ Ja)
      rw[h0]at p3
      have Yp:=ah Xi
      clear hp hR hZ hT J_ Xi
      go_wp2_with fail
      refine Jq.out.mono ?_
      rintro e w2 ⟨⟨b,nd,rfl,Jw,Xf⟩,hb⟩
      have Yj:b=false:=by
        cases hf:gi G.T s' with
        | none=>exact Xf hf
        | some x=>rw[(Jw x hf).2];exact decide_eq_false (by have:=Yp.out x hf;omega)
      subst Yj
      have HB:=ah hb
      unfold DS
      go_wp2
      go_ret
      have Jb:Bl wr (w2.alloc (.cells #[.int .i64 nd.kind,.int .i64 nd.val,.string nd.name] 48)):=HB.out.alloc HB.out.size _
      exact⟨_,rfl,HR.out.below Jb,HZ.out.below Jb,HT.out.of_below Jb⟩
    · have Jq:=ah (mI hZ Ja)
      have Jy:=Cv Jz
      obtain⟨Jt,Jk,Yq,Yr⟩:=zS x Jy.1
      have Xr:=fQ HL.out hZ.wf Jy.2
      have Jd:(o++b++[x.2.1]).length<=1000000:=t_ Jl.acc Zb.out
      simp only[l_a,List.length_singleton]at Jd
      have Yx:k<=n:=by omega
      have Xe:=ah (Pa.ups Yx Jn)
      have Yc:=ah Jl
      have Ju:=ah (Ze.out.of (s1:=z.ad) Ye)
      have Yu:Hid (s1.op=s.op):=by show _=_;rw[Jn.op];exact Ye
      have Zc:=ah Jz
      have HM:=ah hm
      have Yk:=ah Xr
      rw[h0]at p3
      clear hp hR hZ hT J_ Jz Jy Jl Jn hm Xr
      obtain⟨xx,nd0,st⟩:=x
      dsimp only at Jt Jk Yq Yr Jd Xe Yc HM
      go_wp2_with fail
      refine Jq.out.mono ?_
      rintro e w2 ⟨⟨b1,nd,rfl,Jw,Xf⟩,hb⟩
      obtain⟨e1,e2⟩:=Jw _ Zc.out
      dsimp only at e1 e2
      subst e1
      subst e2
      obtain⟨nk,nv,nm⟩:=nd
      have Zf:decide (Ja<=st)=true:=decide_eq_true HM.out
      (try dsimp only)
      rw[Zf]
      have HB:=ah hb
      unfold DS
      obtain⟨W3,Jh⟩:=q_ (w2.alloc (.cells #[.int .i64 nk,.int .i64 nv,.string nm] 48))
      obtain⟨M,hM⟩:=q_ w2.heap.size
      go_upto_region 4 with fail
      rw[<-Jh,<-hM]
      have Jb:Bl wr W3:=by rw[Jh];exact HB.out.alloc HB.out.size _
      have Jv:aR W3 M [.int .i64 nk,.int .i64 nv,.string nm]:=by rw[Jh,hM];exact aJ w2 _ _ (by show 3<=1000;omega)
      have Zh:wr.heap.size<=M:=by rw[hM];exact HB.out.size
      have Yo:M<W3.heap.size:=b_ (Jv 0 _ rfl).1
      have h3:=HZ.out.below Jb
      have Xv:¬M=G.P:=by have:=HZ.out.lt.1;omega
      have Yz:¬G.P=M:=by omega
      obtain⟨⟨h4,t4⟩,q1,f1,hi⟩:=h3.adv Yk.out
      obtain⟨W4,Jx⟩:=q_ (W3.setCell ⟨G.P,1,none⟩ (.int .i64 ((z.i:Int)+1)))
      rw[<-Jx]at h4 t4
      have Je:aR W4 M [.int .i64 nk,.int .i64 nv,.string nm]:=Jv.tcs Yo t4 Xv
      obtain⟨c0,c1,c2⟩:W4.cell? ⟨M,0,none⟩=some (.int .i64 nk)/\W4.cell? ⟨M,1,none⟩=some (.int .i64 nv)/\W4.cell? ⟨M,2,none⟩=some (.string nm):=⟨(Je 0 _ rfl).1,(Je 1 _ rfl).1,(Je 2 _ rfl).1⟩
      have Xc:=ah Je
      have H4:=ah h4
      have T4:=ah ((HT.out.of_below Jb).trans t4)
      have R4:=ah (az (HR.out.below Jb) t4 (fun k hk=>by rw[hk];exact X_.out))
      have Xz:Hid (M<W4.heap.size):=b_ c0
      have Xw:=ah Jx
      have Xm:Hid (∀W,Calls prog 115 #[.agg #[.int .i64 nk,.int .i64 nv,.string nm]] W fun e w'=>e=.returned (.int .i64 st)/\Bl W w'):=fun W=>by rw[<-Jk];exact iM ⟨nk,nv,nm⟩ Jt W
      have Xg:=ah fun W (hW:aN G W z.ad)=>HE.out W _ _ b s1 Xe.out (by omega) Ju.out hW
      clear h3 h4 t4 Jv Je Jb Jx HR HZ HT HB Jt Jk Jh hM
      go_upto_region 7 with fail
      rw[<-Xw.out]
      go_wp2_with fail
      refine(Xm.out _).mono ?_
      rintro e w5 ⟨rfl,Xo⟩
      have Yd:=H4.out.below Xo
      have Jj:=ah Xo
      go_wp2_with fail
      refine(Xg.out _ Yd).mono ?_
      rintro e w6 ⟨Yh,rfl,Xq,h6,t6⟩
      have Xk:W4.heap.size<=w6.heap.size:=t_ Jj.out.size t6.size
      have Jg:am (fun k=>k=G.P) W4 w6:=(Jj.out.tcs (S:=fun k=>k=G.P)).trans t6
      have Xd:=Xc.out.tcs Xz.out Jg Xv
      have Xu:Hid (M<w6.heap.size):=l_ Xz.out Xk
      have Y_:=ah (az R4.out Jg (fun k hk=>by rw[hk];exact X_.out))
      have Xa:=ah (T4.out.trans Jg)
      have H6:=ah h6
      have HA:Hid (∀W',Bl w6 W'->ax W' u5 o):=fun W' h=>(aF.nodes Y_.out).below h
      have Yy:Hid (∀W',Bl w6 W'->ax W' Yh b):=fun W' h=>Xq.nodes.below h
      have HC:Hid (∀W',Bl w6 W'->W'.cell? ⟨M,0,none⟩=some (.int .i64 nk)/\W'.cell? ⟨M,1,none⟩=some (.int .i64 nv)/\W'.cell? ⟨M,2,none⟩=some (.string nm)):=fun W' h=>by
        have Jp:=Xd.below h
        exact⟨(Jp 0 _ rfl).1,(Jp 1 _ rfl).1,(Jp 2 _ rfl).1⟩
      obtain⟨d0,d1,d2⟩:=HC.out _ (Below.refl _ w6)
      obtain⟨m0,m1,m2⟩:=HC.out (w6.alloc (.cells #[] 48)) (aD _ _)
      have bd:Bl w6 w6.drew:=r_.drew
      have b1:Bl w6 (w6.drew.alloc (.cells #[] 48)):=bd.alloc n_ _
      have b2:Bl w6 ((w6.drew.alloc (.cells #[] 48)).alloc (.cells #[.int .i64 nk,.int .i64 nv,.string nm] 48)):=b1.alloc b1.size _
      have b3:Bl w6 ((w6.drew.alloc (.cells #[.int .i64 nk,.int .i64 nv,.string nm] 48)).alloc (.cells #[] 48)):=(bd.alloc n_ _).alloc (by simp) _
      have Jc:Hid (_/\_/\_):=And.intro b1 (And.intro b2 b3)
      have Ji:=ah (wV nk nv nm w6)
      have Zg:¬w6.heap.size=M:=by have:=Xu.out;omega
      have Zd:¬w6.heap.size+1=M:=by have:=Xu.out;omega
      clear b1 b2 b3 bd Xd h6 t6 Jg Xq Yd Jj Xc H4 T4 R4 Xw Xm Xg c0 c1 c2 Xk q1 f1
      go_upto_region 8 with fail
      go_region_law
        (first
        | (refine dX (W0:=w6) rfl (.tmp 38) (.tmp 39) rfl _ [] rfl ?own ?bel _ o rfl (HA.out _ ?bel2) (by simp;omega) ?_
           case own=>(first|exact cE w6.drew w6.heap.size n_|exact Ji.out.1.1|exact Ji.out.2.1)
           case bel=>(first|exact Jc.out.1|exact Jc.out.2.1|exact Jc.out.2.2)
           case bel2=>(first|exact Jc.out.1|exact Jc.out.2.1|exact Jc.out.2.2)
           intro v9 w9 h9 b9 g9 f9
           obtain⟨e0,e1,e2⟩:=HC.out w9 b9
           have Ya:Bl w6 (w9.alloc (.cells #[.int .i64 nk,.int .i64 nv,.string nm] 48)):=b9.alloc b9.size _
           have Jm:aF w6.heap.size w9 v9 o:=h9
           first
           | (have Xt:N1 nk nv nm w6.heap.size w9 v9:=N1.step Ji.out.2.2 g9 f9)
           | (have Xt:N1 nk nv nm (w6.heap.size+1) w9 v9:=N1.step Ji.out.1.2 g9 f9)
           | skip)
        | (refine dX (W0:=w6) rfl (.tmp 40) (.tmp 41) rfl _ o rfl ?own ?bel _ b rfl (Yy.out _ ?bel2) (by omega) ?_
           case own=>(first|exact Jm|exact Jm.below (aD _ _))
           case bel=>(first|exact b9|exact Ya)
           case bel2=>(first|exact b9|exact Ya)
           intro Zi Xy h11 Jf Xn Yf
           obtain⟨i0,i1,i2⟩:=HC.out Xy Jf
           have Jr:Bl w6 (Xy.alloc (.cells #[.int .i64 nk,.int .i64 nv,.string nm] 48)):=Jf.alloc Jf.size _
           first
           | (have Yb:=N1.step Xt Xn Yf)
           | (have Yb:=N1.step (N1.new (k:=nk) (x:=nv) (s:=nm) Jm) Xn Yf)
           | skip)
        | (refine dX (W0:=w6) rfl (.tmp 42) (.tmp 44) rfl _ (o++b) rfl ?own ?bel _ [⟨nk,nv,nm⟩] rfl ?nod (by simp;omega) ?_
           case own=>(first|exact h11|exact aF.below h11 (aD _ _))
           case bel=>(first|exact Jf|exact Jr)
           case nod=>(first|exact Yb.1|exact(N1.new (k:=nk) (x:=nv) (s:=nm) h11).1)
           intro Ys Js Yg Jo Yt Yl
           have HF:Hid (aF w.heap.size Js Ys (o++b++[⟨nk,nv,nm⟩])/\aN G Js s1/\am (fun k=>k=G.P) w Js):=⟨bK Yg Xa.out.size,H6.out.below Jo,Xa.out.of_below Jo⟩
           clear Yg Jo Yt Yl))
      all_goals
        go_wp2
        go_roundg k
        case measure=>omega
        case rel=>exact⟨o++b++[⟨nk,nv,nm⟩],s1,by omega,Yc.out,Yu.out,HF.out.1,HF.out.2.1,HF.out.2.2⟩
end
section
open Go.RowKit
theorem Fc{S:Nat->Prop}{w w':World}{t:TypeId}(h:am S (w.alloc (.cells #[.int .i64 3,.int .i64 4,.int .i64 13,.int .i64 15] t)) w')(hS:∀k,S k->k<w.heap.size)(y:Nat)(hy:y<4):∃v:Int,w'.cell? ⟨w.heap.size,y,none⟩=some (.int .i64 v):=by
 have e:∀o,w'.cell? ⟨w.heap.size,o,none⟩=(w.alloc (.cells #[.int .i64 3,.int .i64 4,.int .i64 13,.int .i64 15] t)).cell? ⟨w.heap.size,o,none⟩:=fun o=>c_ (a:=⟨w.heap.size,o,none⟩) (h.block w.heap.size (by simp) (fun s=>by have:=hS _ s;omega));have:y=0∨y=1∨y=2∨y=3:=by omega
 rcases this with rfl|rfl|rfl|rfl
 ·exact⟨3,(e 0).trans (by simp)⟩
 ·exact⟨4,(e 1).trans (by simp)⟩
 ·exact⟨13,(e 2).trans (by simp)⟩
 ·exact⟨15,(e 3).trans (by simp)⟩
theorem Fd{x:Int}(h:0<=x/\x<3):mL (1+x).toNat<=345:=by
 have:x=0∨x=1∨x=2:=by omega
 rcases this with rfl|rfl|rfl <;> decide
theorem dJ(g:Nat)(a:Option Addr)(len cap:Nat)(S:Nat->Prop)(G:Gn)(K:Nat)(w:World)(hl:len<=1048576)(hL:Lo g a len S w.heap.size)(hc:dP g a len cap w)(hG:eO S w G K)(hK:K<=50000):
  Calls prog 105 #[.pointer (some ⟨g,0,none⟩),.agg #[G.vc,G.vp,G.vs,G.vl,.int .i64 G.m]] w fun e w'=>∃u ns,e=.returned u/\aF w.heap.size w' u ns/\bI ns 400/\Dr g a len cap S w w':=by
 have hS:=hL.sg;obtain⟨vc,vp,vs,vl,m,cs,ps,ss,ls⟩:=G;have HG:=ah hG;obtain⟨ac,cc,e1,-⟩:=hG.c w (am.refl _ _);obtain⟨ap,cp,e2,-⟩:=hG.p w (am.refl _ _);obtain⟨av,cv,e3,-⟩:=hG.s w (am.refl _ _);obtain⟨al,cl,e4,-⟩:=hG.l w (am.refl _ _);dsimp only at e1 e2 e3 e4;subst e1 e2 e3 e4;dsimp only;generalize hW0:w.alloc (.cells #[.slice ac cs.length cc,.slice ap ps.length cp,.slice av ss.length cv,.slice al ls.length cl,.int .i64 m] 130)=W0;have Xd:=ah hW0;have Jf:Hid (Dr g a len cap S w W0):=by rw[<-hW0];exact(Dr.refl hc).alloc _
 have HX:Hid (∀W,am S W0 W->W.cell? ⟨w.heap.size,0,none⟩=some (.slice ac cs.length cc)/\W.cell? ⟨w.heap.size,1,none⟩=some (.slice ap ps.length cp)/\W.cell? ⟨w.heap.size,2,none⟩=some (.slice av ss.length cv)/\W.cell? ⟨w.heap.size,3,none⟩=some (.slice al ls.length cl)/\W.cell? ⟨w.heap.size,4,none⟩=some (.int .i64 m)):=fun W hW=>by rw[<-hW0]at hW;exact(zR hW hL.s)
 have Jr:=ah fun W (h:am S W0 W)=>HG.out.tcs (Jf.out.tcs.trans h);have Ja:Hid (Lo g a len S W0.heap.size):=hL.mono Jf.out.tcs.size;have Xf:w.heap.size<W0.heap.size:=by rw[<-hW0];simp
 clear hW0 hc hL;go_enter func105,ntmps105;go_upto_region 1 with fail;rw[Xd.out];obtain⟨x0,x1,x2,x3,x4⟩:=HX.out W0 (am.refl _ _);have Xk:dP g a len cap W0.drew:=Jf.out.cur.below r_.drew;have Jp:=ah Xk;go_region_held3 (fun W=>W.cell? ⟨w.heap.size,0,none⟩=some (.slice ac cs.length cc)/\W.cell? ⟨w.heap.size,1,none⟩=some (.slice ap ps.length cp)/\W.cell? ⟨w.heap.size,2,none⟩=some (.slice av ss.length cv)/\W.cell? ⟨w.heap.size,3,none⟩=some (.slice al ls.length cl)/\W.cell? ⟨w.heap.size,4,none⟩=some (.int .i64 m)) (go_simp)
  (first
  | (go_at_call 31;refine(aI g a len cap S _ _ hl hS Jp.out (by omega)).mono ?_;rintro e w1 ⟨x,rfl,hx,Ji⟩;have Jc:Hid (Dr g a len cap S W0 w1):=⟨Ji.cur,((am.refl S W0).drew).trans Ji.tcs⟩;obtain⟨y0,y1,y2,y3,y4⟩:=HX.out w1 Jc.out.tcs;clear Ji)
  | (go_at_call 138;refine(lE g a len cap S hl (1+x).toNat (by omega) _ ⟨.slice ac cs.length cc,.slice ap ps.length cp,.slice av ss.length cv,.slice al ls.length cl,m,cs,ps,ss,ls⟩ K w1 (by simp only[IntKind.wrap_i64];omega) (Ja.out.mono Jc.out.tcs.size) Jc.out.cur (Jr.out _ Jc.out.tcs) hK).mono ?_;rintro e w2 ⟨u2,e2,rfl,Jt,Xb,Jy⟩;have Jj:Hid (Dr g a len cap S W0 w2):=Jc.out.trans Jy;have Xg:Hid (aF W0.heap.size w2 u2 e2):=bK Jt Jc.out.tcs.size;have Ju:Hid (bI e2 345):=Xb.more (Fd hx);obtain⟨z0,z1,z2,z3,z4⟩:=HX.out w2 Jj.out.tcs;clear Jt Xb Jy))
 clear x0 x1 x2 x3 x4 y0 y1 y2 y3 y4 Jp;have Je:Hid (∀w' u ns,aF W0.heap.size w' u ns->bI ns 400->Dr g a len cap S W0 w'->aF w.heap.size w' u ns/\bI ns 400/\Dr g a len cap S w w'):=fun w' u ns h1 h2 h3=>⟨bK h1 Jf.out.tcs.size,h2,Jf.out.trans h3⟩;go_wp2_with fail;refine(eZ g a len cap S _ _ hl hS Jj.out.cur (by omega)).mono ?_;rintro e w3 ⟨q,rfl,Jn⟩;have Jz:Hid (Dr g a len cap S W0 w3):=Jj.out.trans Jn;have Jx:Hid (aF W0.heap.size w3 u2 e2):=az Xg.out Jn.tcs Ja.out.s;cases q with
 | false=>
  have HF:=Je.out w3 u2 e2 Jx.out (Ju.out.more (by omega)) Jz;have Jb:=ah HF;clear HF;go_wp2;go_ret;exact⟨_,_,rfl,Jb.out.1,Jb.out.2.1,Jb.out.2.2⟩
 | true=>
  go_wp2;go_loopw[5,6] (fun ov i wr=>∃j:Nat,j<=7/\i=.int .i64 j/\∃ns:List Nd,aF W0.heap.size wr ov ns/\bI ns (345+2*j)/\Dr g a len cap S W0 wr) (fun _ i _=>8-(RowKit.intOf i).toNat)
  case atStart=>exact⟨0,by omega,rfl,e2,Jx,Ju,Jz⟩
  case round=>
   obtain⟨j,hj,rfl,ns,hr,hn,Xj⟩:=hrel;obtain⟨HR,HN,Jo⟩:=h3 hr hn Xj;have Xp:ns.length<=359:=t_ hn.1 (by omega);go_wp2_with fail;refine(aI g a len cap S _ _ hl hS Jo.out.cur (by omega)).mono ?_;rintro e w4 ⟨y,rfl,hy,Jh⟩;have Jd:Hid (Dr g a len cap S W0 w4):=Jo.out.trans Jh;have Jv:Hid (aF W0.heap.size w4 _ ns):=az HR.out Jh.tcs Ja.out.s;have Js:W0.heap.size<=w4.heap.size:=Jd.out.tcs.size;clear Jh;by_cases hlt:(j:Int)<4+y
   ·obtain⟨x0,x1,x2,x3,x4⟩:=HX.out w4 Jd.out.tcs;go_wp2_with fail;refine(fd g a len cap S ⟨.slice ac cs.length cc,.slice ap ps.length cp,.slice av ss.length cv,.slice al ls.length cl,m,cs,ps,ss,ls⟩ K w4 hl (Ja.out.mono Js) Jd.out.cur (Jr.out _ Jd.out.tcs) hK).mono ?_;rintro e w5 ⟨u5,e5,rfl,Xe,Jw,Jm⟩;have Jk:Hid (Dr g a len cap S W0 w5):=Jd.out.trans Jm;have Xl:=ah Jw;have Xn:e5.length<=1:=Jw.1;have J_:Hid (∀W,am S w5 W->ax W u5 e5):=fV Xe (Ja.out.mono Js).s;have Xa:Hid (∀W,am S w5 W->ax W _ ns):=fun W hW=>fV Jv.out Ja.out.s W (Jm.tcs.trans hW);have Xh:W0.heap.size<=w5.heap.size:=Jk.out.tcs.size;go_wp2_with fail;refine(aI g a len cap S _ _ hl hS (Jk.out.alloc _).cur (by omega)).mono ?_;rintro e w6 ⟨z,rfl,hz,Jg⟩;have Xc:Hid (Dr g a len cap S W0 w6):=(Jk.out.alloc _).trans Jg;have Jl:am S w5 w6:=((am.refl S w5).alloc _).trans Jg.tcs;have Jq:Hid (ax w6 u5 e5/\ax w6 _ ns):=⟨J_.out w6 Jl,Xa.out w6 Jl⟩;obtain⟨zn,rfl⟩:∃zn:Nat,z=zn:=⟨z.toNat,by omega⟩;obtain⟨vz,Xo⟩:=Fc Jg.tcs (Ja.out.mono Xh).s zn (by omega);clear Jg Jl J_ Xa;go_wp2_with fail;refine(iz e5 ns _ _ _ u5 _ _ Jq.out.1 Jq.out.2 (by omega)).mono ?_;rintro e w7 ⟨u7,rfl,Xi,Xm⟩;have HE:Hid (aF W0.heap.size w7 u7 (e5++ns++[⟨7,vz,⟨#[]⟩⟩])/\bI (e5++ns++[⟨7,vz,⟨#[]⟩⟩]) (345+2*(j+1))/\Dr g a len cap S W0 w7):=⟨bK Xi Xc.out.tcs.size,bI.more ((Xl.out.app HN).app (bI.one (by decide))) (by omega),Xc.out.below Xm⟩;go_wp2;go_roundw
    case rel=>exact⟨j+1,by omega,by go_num,_,HE.out.1,HE.out.2.1,HE.out.2.2⟩
    case measure=>simp[RowKit.intOf];omega
   ·have HF:=Je.out w4 _ ns Jv.out (HN.out.more (by omega)) Jd;have Jb:=ah HF;clear HF;go_wp2;go_ret;exact⟨_,_,rfl,Jb.out.1,Jb.out.2.1,Jb.out.2.2⟩
end
section
open Go.RowKit
variable{n:Nat}{s:PS}{G:GT}
theorem eu.on{T:Nat->To}(x:List UInt8)(h:eu (n+1) s):eu n (bA T x s):=by unfold eu at*;rw[on_op];push_cast at h;omega
theorem eu.bd(h:eu n s): -8000000<=s.op/\s.op<=8000000:=by unfold eu at h;omega
theorem qM{T:Nat->To}{x y:List UInt8}{a:List Nd}{s':PS}(h:Pa T (n+1) (.pr x y) s (.n a) s'):
  ((bA T x s).er≠0/\a=[]/\s'=cO T y (bA T x s))∨((bA T x s).er=0/\∃s1,Pa T n (.e 1) (bA T x s) (.n a) s1/\s'=cO T y s1):=by
 cases h using Pa_i with
 | prd n x y s h1=>exact .inl ⟨h1,rfl,rfl⟩
 | pre n x y s a s1 h1 h2=>exact .inr ⟨h1,s1,h2,rfl⟩
def DW(G:GT)(n:Nat):Prop:=∀(w:World) (s:PS) (a:List Nd) (s':PS),Pa G.T n (.pr [91] [93]) s (.n a) s'->a.length<=1000000->eu n s->aN G w s ->
 Calls prog 120 #[.pointer (some ⟨G.P,0,none⟩)] w (su G w a s')
theorem wX(hL:ft G.T G.K)(hE:l9 G n):DW G (n+1):=by
 intro w s a s' hP Jh Jd hS;have HO:=ah (d8 hL hS Jd.bd [91]);have Jf:=ah (Jd.on (T:=G.T) [91]);have hc:=qM hP;generalize bA G.T [91] s=z at*;have HL:=ah hL;have HE:=ah hE;have Jn:=ah Jh;have Jk:=ah hS.lt.1;have Jc:=ah fun W z (hW:aN G W z) (hb:eu n z)=>dG HL.out hW hb.bd [93];clear hP Jh Jd hS hE hL;rcases hc with⟨h0,rfl,rfl⟩|⟨h0,s1,h2,rfl⟩
 ·go_enter func120,ntmps120;go_wp2_with fail;refine HO.out.mono ?_;rintro e w1 ⟨rfl,h1,t1⟩;obtain⟨W2,Ja⟩:=q_ (w1.alloc (.cells #[] 48));obtain⟨B,hB⟩:=q_ w1.heap.size;have Jb:Bl w1 W2:=by rw[Ja];exact r_.alloc n_ _
  have Jg:aF w.heap.size W2 (.slice (some ⟨B,0,none⟩) 0 0) []:=by rw[Ja,hB];exact cE w1 _ t1.size
  have h3:=h1.below Jb;have p3:W2.cell? ⟨G.P,3,none⟩=some (.int .i64 z.er):=(h3.box 3 _ rfl).1;have HT:=ah (t1.of_below Jb);have HR:=ah Jg;have HC:=ah (Jc.out W2 z h3 Jf);have Je:=ah Ja;have HB:=ah hB;clear h1 t1 Jb Jg h3 Ja hB HO Jc;go_upto_region 3 with fail;rw[<-Je.out,<-HB.out];go_wp2_with fail;refine HC.out.mono ?_;rintro e w4 ⟨rfl,h4,t4⟩;have HF:Hid (su G w [] (cO G.T [93] z) (.returned (.slice (some ⟨B,0,none⟩) 0 0)) w4):=⟨_,rfl,az HR.out t4 (fun k hk=>by rw[hk];exact Jk),h4,HT.out.trans t4⟩;clear h4 t4;go_wp2;go_ret;exact HF
 ·have Jj:=ah fun W (hW:aN G W z)=>HE.out W 1 z a s1 h2 Jn.out Jf.out hW;have Jl:=ah (Jf.out.of h2.op);clear h2;go_enter func120,ntmps120;go_wp2_with fail;refine HO.out.mono ?_;rintro e w1 ⟨rfl,h1,t1⟩;obtain⟨W2,Ja⟩:=q_ (w1.alloc (.cells #[] 48));have Jb:Bl w1 W2:=by rw[Ja];exact r_.alloc n_ _
  have h3:=h1.below Jb;have p3:W2.cell? ⟨G.P,3,none⟩=some (.int .i64 0):=by rw[<-h0];exact(h3.box 3 _ rfl).1
  have HT:=ah (t1.of_below Jb);have HX:=ah (Jj.out W2 h3);have Je:=ah Ja;clear h1 t1 Jb h3 Ja HO Jj;go_upto_region 3 with fail;rw[<-Je.out];go_wp2_with fail;refine HX.out.mono ?_;rintro e w3 ⟨u,rfl,Ji,h3,t3⟩;have HC:=ah (Jc.out w3 s1 h3 Jl);have HR:=ah (bK Ji HT.out.size);have Jm:=ah (HT.out.trans t3);clear Ji h3 t3 HX Jc;go_wp2_with fail;refine HC.out.mono ?_;rintro e w4 ⟨rfl,h4,t4⟩;have HF:Hid (su G w a (cO G.T [93] s1) (.returned u) w4):=⟨_,rfl,az HR.out t4 (fun k hk=>by rw[hk];exact Jk),h4,Jm.out.trans t4⟩;clear h4 t4;go_wp2;go_ret;exact HF
def AY(G:GT)(n:Nat):Prop:=∀(w:World) (s:PS) (a:List Nd) (s':PS),Pa G.T n (.pr [40] [41]) s (.n a) s'->a.length<=1000000->eu n s->aN G w s ->
 Calls prog 118 #[.pointer (some ⟨G.P,0,none⟩)] w (su G w a s')
theorem wY(hL:ft G.T G.K)(hE:l9 G n):AY G (n+1):=by
 intro w s a s' hP Jh Jd hS;have HO:=ah (d8 hL hS Jd.bd [40]);have Jf:=ah (Jd.on (T:=G.T) [40]);have hc:=qM hP;generalize bA G.T [40] s=z at*;have HL:=ah hL;have HE:=ah hE;have Jn:=ah Jh;have Jk:=ah hS.lt.1;have Jc:=ah fun W z (hW:aN G W z) (hb:eu n z)=>dG HL.out hW hb.bd [41];clear hP Jh Jd hS hE hL;rcases hc with⟨h0,rfl,rfl⟩|⟨h0,s1,h2,rfl⟩
 ·go_enter func118,ntmps118;go_wp2_with fail;refine HO.out.mono ?_;rintro e w1 ⟨rfl,h1,t1⟩;obtain⟨W2,Ja⟩:=q_ (w1.alloc (.cells #[] 48));obtain⟨B,hB⟩:=q_ w1.heap.size;have Jb:Bl w1 W2:=by rw[Ja];exact r_.alloc n_ _
  have Jg:aF w.heap.size W2 (.slice (some ⟨B,0,none⟩) 0 0) []:=by rw[Ja,hB];exact cE w1 _ t1.size
  have h3:=h1.below Jb;have p3:W2.cell? ⟨G.P,3,none⟩=some (.int .i64 z.er):=(h3.box 3 _ rfl).1;have HT:=ah (t1.of_below Jb);have HR:=ah Jg;have HC:=ah (Jc.out W2 z h3 Jf);have Je:=ah Ja;have HB:=ah hB;clear h1 t1 Jb Jg h3 Ja hB HO Jc;go_upto_region 3 with fail;rw[<-Je.out,<-HB.out];go_wp2_with fail;refine HC.out.mono ?_;rintro e w4 ⟨rfl,h4,t4⟩;have HF:Hid (su G w [] (cO G.T [41] z) (.returned (.slice (some ⟨B,0,none⟩) 0 0)) w4):=⟨_,rfl,az HR.out t4 (fun k hk=>by rw[hk];exact Jk),h4,HT.out.trans t4⟩;clear h4 t4;go_wp2;go_ret;exact HF
 ·have Jj:=ah fun W (hW:aN G W z)=>HE.out W 1 z a s1 h2 Jn.out Jf.out hW;have Jl:=ah (Jf.out.of h2.op);clear h2;go_enter func118,ntmps118;go_wp2_with fail;refine HO.out.mono ?_;rintro e w1 ⟨rfl,h1,t1⟩;obtain⟨W2,Ja⟩:=q_ (w1.alloc (.cells #[] 48));have Jb:Bl w1 W2:=by rw[Ja];exact r_.alloc n_ _
  have h3:=h1.below Jb;have p3:W2.cell? ⟨G.P,3,none⟩=some (.int .i64 0):=by rw[<-h0];exact(h3.box 3 _ rfl).1
  have HT:=ah (t1.of_below Jb);have HX:=ah (Jj.out W2 h3);have Je:=ah Ja;clear h1 t1 Jb h3 Ja HO Jj;go_upto_region 3 with fail;rw[<-Je.out];go_wp2_with fail;refine HX.out.mono ?_;rintro e w3 ⟨u,rfl,Ji,h3,t3⟩;have HC:=ah (Jc.out w3 s1 h3 Jl);have HR:=ah (bK Ji HT.out.size);have Jm:=ah (HT.out.trans t3);clear Ji h3 t3 HX Jc;go_wp2_with fail;refine HC.out.mono ?_;rintro e w4 ⟨rfl,h4,t4⟩;have HF:Hid (su G w a (cO G.T [41] s1) (.returned u) w4):=⟨_,rfl,az HR.out t4 (fun k hk=>by rw[hk];exact Jk),h4,Jm.out.trans t4⟩;clear h4 t4;go_wp2;go_ret;exact HF
end
section
open Go.RowKit
variable{g q len cap K K' o:Nat}{w w':World}{G:Gn}{a:Option Addr}{S:Nat->Prop}{v:Value}
def S0(g:Nat):Nat->Prop:=fun k=>k=g
def Sq(g q:Nat):Nat->Prop:=fun k=>k=g∨k=q
theorem iX:∀k,S0 g k->Sq g q k:=fun k h=>.inl h
structure GB (q:Nat) (w:World) (G:Gn):Prop where
 c0:w.cell? ⟨q,0,none⟩=some G.vc
 c1:w.cell? ⟨q,1,none⟩=some G.vp
 c2:w.cell? ⟨q,2,none⟩=some G.vs
 c3:w.cell? ⟨q,3,none⟩=some G.vl
 c4:w.cell? ⟨q,4,none⟩=some (.int .i64 G.m)
 fz:∀j,w.frozen? ⟨q,j,none⟩=false
theorem GB.keep(h:GB q w G)(hb:w'.heap[q]? =w.heap[q]?):GB q w' G:=
 ⟨(c_ (a:=⟨q,0,none⟩) hb).trans h.c0,(c_ (a:=⟨q,1,none⟩) hb).trans h.c1,(c_ (a:=⟨q,2,none⟩) hb).trans h.c2,(c_ (a:=⟨q,3,none⟩) hb).trans h.c3,(c_ (a:=⟨q,4,none⟩) hb).trans h.c4,fun o=>(World.frozen?_of_block (a:=⟨q,o,none⟩) hb).trans (h.fz o)⟩
theorem GB.lt(h:GB q w G):q<w.heap.size:=b_ h.c0
theorem kt{a b:Nat}(h:a≠b):(⟨g,a,none⟩:Addr)≠⟨g,b,none⟩:=fun e=>by simp[h]at e
theorem GB.set2(h:GB q w G)(v:Value)(ss:List ByteArray):GB q (w.setCell ⟨q,2,none⟩ v) {G with vs:=v,ss:=ss}:=
 ⟨(s_ _ _ _ _ (kt (by decide))).trans h.c0,(s_ _ _ _ _ (kt (by decide))).trans h.c1,World.cell?_setCell_same _ _ _ h.c2,(s_ _ _ _ _ (kt (by decide))).trans h.c3,(s_ _ _ _ _ (kt (by decide))).trans h.c4,fun o=>by simpa using h.fz o⟩
theorem GB.set3(h:GB q w G)(v:Value)(ls:List ByteArray):GB q (w.setCell ⟨q,3,none⟩ v) {G with vl:=v,ls:=ls}:=
 ⟨(s_ _ _ _ _ (kt (by decide))).trans h.c0,(s_ _ _ _ _ (kt (by decide))).trans h.c1,(s_ _ _ _ _ (kt (by decide))).trans h.c2,World.cell?_setCell_same _ _ _ h.c3,(s_ _ _ _ _ (kt (by decide))).trans h.c4,fun o=>by simpa using h.fz o⟩
theorem GB.set4(h:GB q w G)(z:Int):GB q (w.setCell ⟨q,4,none⟩ (.int .i64 z)) {G with m:=z}:=
 ⟨(s_ _ _ _ _ (kt (by decide))).trans h.c0,(s_ _ _ _ _ (kt (by decide))).trans h.c1,(s_ _ _ _ _ (kt (by decide))).trans h.c2,(s_ _ _ _ _ (kt (by decide))).trans h.c3,World.cell?_setCell_same _ _ _ h.c4,fun o=>by simpa using h.fz o⟩
structure GS (g:Nat) (a:Option Addr) (len cap q:Nat) (S:Nat->Prop) (w:World) (G:Gn) (K:Nat):Prop where
 cur:dP g a len cap w
 box:GB q w G
 ok:eO S w G K
 lo:Lo g a len S w.heap.size
 sq:S q
 ne:q≠g
theorem GS.lo0(h:GS g a len cap q S w G K):Lo g a len (S0 g) w.heap.size:=
 ⟨h.lo.gl,rfl,fun b off x y=>⟨(h.lo.by8 b off x y).1,fun e=>(h.lo.by8 b off x y).2 (e ▸ h.lo.sg)⟩,fun k hk=>h.lo.s k (hk ▸ h.lo.sg)⟩
theorem GS.s0(h:GS g a len cap q S w G K):∀k,S0 g k->S k:=fun k hk=>hk ▸ h.lo.sg
theorem GS.sqs(h:GS g a len cap q S w G K):∀k,Sq g q k->S k:=fun k hk=>by rcases hk with rfl|rfl;exact h.lo.sg;exact h.sq
theorem GS.ok0(h:GS g a len cap q S w G K):eO (S0 g) w G K:=h.ok.less h.s0
theorem GS.dr(h:GS g a len cap q S w G K)(hd:Dr g a len cap (S0 g) w w'):GS g a len cap q S w' G K:=
 ⟨hd.cur,h.box.keep (hd.tcs.block q h.box.lt h.ne),h.ok.tcs (hd.tcs.mono h.s0),h.lo.mono hd.tcs.size,h.sq,h.ne⟩
theorem GS.below(h:GS g a len cap q S w G K)(hb:Below w.heap.size w w'):GS g a len cap q S w' G K:=h.dr ⟨h.cur.below hb,hb.tcs⟩
theorem GS.alloc(h:GS g a len cap q S w G K)(o:Obj):GS g a len cap q S (w.alloc o) G K:=h.below (r_.alloc n_ o)
def Sv(S:Nat->Prop)(v:Value):Nat->Prop:=fun k=>S k∨v.ownBlock=some k
theorem GS.add{w0:World}(h:GS g a len cap q S w0 G K)(h':GS g a len cap q S w G K)(ht:am S w0 w)(hv:∀k,v.ownBlock=some k->w0.heap.size<=k/\k<w.heap.size):GS g a len cap q (Sv S v) w G K:=by
 refine⟨h'.cur,h'.box,?_,⟨h'.lo.gl,.inl h'.lo.sg,fun b off x y=>⟨(h'.lo.by8 b off x y).1,fun e=>?_⟩,fun k hk=>?_⟩,.inl h'.sq,h'.ne⟩
 ·have Ja:∀W,am (Sv S v) w W->am S w0 W:=fun W hW=>ht.next hW fun k hk=>by
   rcases hk with hk|hk
   ·exact .inl hk
   ·exact .inr (hv k hk).1
  exact⟨fun W hW=>h.ok.c W (Ja W hW),fun W hW=>h.ok.p W (Ja W hW),fun W hW=>h.ok.s W (Ja W hW),fun W hW=>h.ok.l W (Ja W hW),h.ok.cp,h.ok.c4,h.ok.pb,h.ok.ns,h.ok.sl,h.ok.ll,h.ok.mb⟩
 ·rcases e with e|e
  ·exact(h'.lo.by8 b off x y).2 e
  ·have:=(hv b e).1
   have:=(h.lo.by8 b off x y).1
   omega
 ·rcases hk with hk|hk
  ·exact h'.lo.s k hk
  ·exact(hv k hk).2
theorem GS.app{B:Nat}{v':Value}(h:GS g a len cap q (Sv S v) w G K)(hL:Lo g a len S B)(hq:S q)(hv:∀k,v.ownBlock=some k->B<=k)(ht:am (fun k=>v.ownBlock=some k) w w')(hf:∀k,v'.ownBlock=some k->v.ownBlock=some k∨w.heap.size<=k)(Jb:∀k,v'.ownBlock=some k->k<w'.heap.size):GS g a len cap q (Sv S v') w' G K:=by
 have Ja:∀W,am (Sv S v') w' W->am (Sv S v) w W:=fun W hW=>(ht.mono fun k hk=>.inr hk).next hW fun k hk=>by
  rcases hk with hk|hk
  ·exact .inl (.inl hk)
  ·rcases hf k hk with h1|h1
   ·exact .inl (.inr h1)
   ·exact .inr h1
 have Jc:=hL.s q hq;refine⟨h.cur.new hL ht hv,h.box.keep (ht.block q h.box.lt (fun s=>by have:=hv q s;omega)),⟨fun W hW=>h.ok.c W (Ja W hW),fun W hW=>h.ok.p W (Ja W hW),fun W hW=>h.ok.s W (Ja W hW),fun W hW=>h.ok.l W (Ja W hW),h.ok.cp,h.ok.c4,h.ok.pb,h.ok.ns,h.ok.sl,h.ok.ll,h.ok.mb⟩,⟨?_,.inl hL.sg,fun b off x y=>⟨?_,fun e=>?_⟩,fun k hk=>?_⟩,.inl hq,h.ne⟩
 ·have:=h.lo.gl;have:=ht.size;omega
 ·have:=(h.lo.by8 b off x y).1;have:=ht.size;omega
 ·rcases e with e|e
  ·exact(h.lo.by8 b off x y).2 (.inl e)
  ·rcases hf b e with h1|h1
   ·exact(h.lo.by8 b off x y).2 (.inr h1)
   ·have:=(h.lo.by8 b off x y).1;omega
 ·rcases hk with hk|hk
  ·have:=h.lo.s k (.inl hk);have:=ht.size;omega
  ·exact Jb k hk
theorem GS.sub{S':Nat->Prop}(h:GS g a len cap q S w G K)(hs:∀k,S' k->S k)(hg:S' g)(hq:S' q):GS g a len cap q S' w G K:=
 ⟨h.cur,h.box,h.ok.less hs,⟨h.lo.gl,hg,fun b off x y=>⟨(h.lo.by8 b off x y).1,fun e=>(h.lo.by8 b off x y).2 (hs b e)⟩,fun k hk=>h.lo.s k (hs k hk)⟩,hq,h.ne⟩
theorem GS.drop(h:GS g a len cap q (Sv S v) w G K)(hg:S g)(hq:S q):GS g a len cap q S w G K:=
 ⟨h.cur,h.box,h.ok.less fun k hk=>.inl hk,⟨h.lo.gl,hg,fun b off x y=>⟨(h.lo.by8 b off x y).1,fun e=>(h.lo.by8 b off x y).2 (.inl e)⟩,fun k hk=>h.lo.s k (.inl hk)⟩,hq,h.ne⟩
theorem GS.more(h:GS g a len cap q S w G K)(hk:K<=K'):GS g a len cap q S w G K':=⟨h.cur,h.box,h.ok.more hk,h.lo,h.sq,h.ne⟩
theorem GS.set{G':Gn}(h:GS g a len cap q S w G K)(hb:GB q (w.setCell ⟨q,o,none⟩ v) G')(hG:eO S w G' K'):GS g a len cap q S (w.setCell ⟨q,o,none⟩ v) G' K':=
 have ht:am S w (w.setCell ⟨q,o,none⟩ v):=(am.refl _ _).setCell (p:=⟨q,o,none⟩) h.sq v;have ht2:am (fun k=>k=q) w (w.setCell ⟨q,o,none⟩ v):=(am.refl (fun k=>k=q) w).setCell (p:=⟨q,o,none⟩) rfl v
 ⟨h.cur.keep ht2 (fun e=>h.ne e.symm) (fun b off x y e=>(h.lo.by8 b off x y).2 (e ▸ h.sq)),hb,hG.tcs ht,h.lo.mono ht.size,h.sq,h.ne⟩
theorem lF(w:World)(v:Value):am (Sq g q) w (w.setCell ⟨q,o,none⟩ v):=(am.refl _ _).setCell (p:=⟨q,o,none⟩) (.inr rfl) v
theorem eO.setM(h:eO S w G K):eO S w {G with m:=G.m+1} (K+1):=
 ⟨h.c,h.p,h.s,h.l,h.cp,h.c4,h.pb,h.ns,t_ h.sl (Nat.le_succ _),t_ h.ll (Nat.le_succ _),by have:=h.mb;show 0<=G.m+1/\G.m+1<=((K+1:Nat):Int);omega⟩
theorem eO.setS(h:eO S w G K){ss:List ByteArray}(hs:∀W,am S w W->Strs W v ss)(hn:∀x∈ss,x.size<=100000)(hl:ss.length<=K):eO S w {G with vs:=v,ss:=ss} K:=
 ⟨h.c,h.p,hs,h.l,h.cp,h.c4,h.pb,⟨h.ns.1,hn,h.ns.2.2⟩,hl,h.ll,h.mb⟩
theorem eO.setL(h:eO S w G K){ls:List ByteArray}(hs:∀W,am S w W->Strs W v ls)(hn:∀x∈ls,x.size<=100000)(hl:ls.length<=K):eO S w {G with vl:=v,ls:=ls} K:=
 ⟨h.c,h.p,h.s,hs,h.cp,h.c4,h.pb,⟨h.ns.1,h.ns.2.1,hn⟩,h.sl,hl,h.mb⟩
theorem Cw(s:ByteArray):((⟨#[118]⟩:ByteArray)++s).size=s.size+1:=by
 rw[ByteArray.size_append];show 1+s.size=_;omega
theorem j9(g:Nat)(a:Option Addr)(len cap q:Nat)(S:Nat->Prop)(G:Gn)(K:Nat)(w:World)(h:GS g a len cap q S w G K)(hK:K+1<=50000):
  Calls prog 160 #[.pointer (some ⟨q,0,none⟩)] w fun e w'=>∃s,e=.returned (.string s)/\s.size<=100000/\GS g a len cap q S w' {G with m:=G.m+1} (K+1)/\am (Sq g q) w w':=by
 have hm:=h.ok.mb;obtain⟨u,hu⟩:∃u:Nat,G.m+1=u:=⟨(G.m+1).toNat,by omega⟩;have c4:=h.box.c4;have f4:=h.box.fz 4;obtain⟨HU,HN⟩:=h2 hu (h.set (h.box.set4 _) h.ok.setM);have HT:Hid (am (Sq g q) w (w.setCell ⟨q,4,none⟩ (.int .i64 (G.m+1)))):=(am.refl _ _).setCell (p:=⟨q,4,none⟩) (.inr rfl) _;have Jb:Hid (∀W:World,Calls prog 43 #[.int .i64 (G.m+1)] W fun e w'=>e=.returned (.string (tx (Lib.decDigits u)))/\Bl W w'):=fun W=>by rw[hu];exact jw u u n_ (by omega) W
 have Jc:(tx (Lib.decDigits u)).size<=50002:=by
  rw[tx_size];have:=kz u u n_
  omega
 generalize tx (Lib.decDigits u)=A at Jc Jb;have Jd:((A.size:Nat):Int)<=1000000:=by omega
 have HS:Hid (((⟨#[118]⟩:ByteArray)++A).size<=100000):=by show _<=_;rw[Cw];omega
 have h1:(⟨#[118]⟩:ByteArray).size=1:=rfl;generalize G.m=m at*;clear hu Jc h;go_enter func160,ntmps160;go_wp2_with fail;refine(Jb.out _).mono ?_;rintro e w2 ⟨rfl,Ja⟩;have HF:Hid (GS g a len cap q S w2 {G with m:=m+1} (K+1)/\am (Sq g q) w w2):=⟨HN.out.below Ja,HT.out.of_below Ja⟩;go_wp2;go_ret;exact⟨_,rfl,HS,HF.out.1,HF.out.2⟩
end
section
open Go.RowKit
variable{w:World}{G:GT}{n:Nat}
theorem cu{ops:Array Oper}{Ja:List Oper}{o:Oper}{a:Act}{Q:Exit->Act->World->Prop}(Jd:o.guard=none)(s x:Operand)
  (ho:o.op=.call {callee:=.builtin .append,args:=#[s,x],argTypes:=#[44,44]})
  (B:Nat) (v:Value) (ms:List Nd) (hs:a.eval s=v) (Jc:aF B w v ms) (u:Value) (ns:List Nd) (hx:a.eval x=u) (hN:ax w u ns)
  (hb:ms.length+ns.length<=10000000) (Jb:B<=w.heap.size)
  (h:∀v' w',aF B w' v' (ms++ns)->w.grownBy w' v.ownBlock->wpList prog ops Q Ja (a.put o.dst v') w'):wpList prog ops Q (o::Ja) a w:=by
 obtain⟨v',w',r1,r2,r3,r4⟩:=fF (w:=w) B o.type v ms Jc u ns hN hb Jb;exact ao Jd s x _ ho v u v' w' hs hx r1 (h v' w' r2 r3)
theorem aN.gr{W w':World}{z:PS}{v:Value}{ms:List Nd}(h:aN G w z)(hP:G.P<W.heap.size)(hT:G.bT<W.heap.size)(ht:am (fun k=>k=G.P) W w)(hr:aF W.heap.size w v ms)(hg:w.grownBy w' v.ownBlock):
  aN G w' z/\am (fun k=>k=G.P) W w':=by
 have hj:∀k,v.ownBlock=some k->W.heap.size<=k:=fun k hk=>(World.ownsRow.lt hr k hk).1;have t:am (fun k=>v.ownBlock=some k) w w':=am.of_grown hg (fun k h=>h);exact⟨h.tcs t (fun e=>by have:=hj _ e;omega) (fun e=>by have:=hj _ e;omega),ht.next t (fun x hx=>.inr (hj x hx))⟩
theorem lG{T:Nat->To}{k:Int}{o:List Nd}{s:PS}{a:List Nd}{k':Int}{s':PS}(h:Pa T n (.al k o) s (.a a k') s'):
  (s.er≠0/\a=o/\k'=k/\s'=s)∨(s.er=0/\¬0<k/\aC T [41] s=true/\a=o/\k'=k/\s'=s) ∨
  (s.er=0/\(0<k∨aC T [41] s=false)/\∃m b s1,n=m+1/\Pa T m (.e 1) s (.n b) s1 /\
   ((aC T [44] s1=false/\a=o++b/\k'=k+1/\s'=s1)∨(aC T [44] s1=true/\Pa T m (.al (k+1) (o++b)) s1.ad (.a a k') s'))):=by
 cases h using Pa_i with
 | ald n k o s h1=>exact .inl ⟨h1,rfl,rfl,rfl⟩
 | al0 n k o s h1 h2 h3=>exact .inr (.inl ⟨h1,h2,h3,rfl,rfl,rfl⟩)
 | ale n k o s b s' h1 h2 h3 h4=>exact .inr (.inr ⟨h1,h2,_,b,_,rfl,h3,.inl ⟨h4,rfl,rfl,rfl⟩⟩)
 | alm n k o s b s1 r s' h1 h2 h3 h4 h5=>exact .inr (.inr ⟨h1,h2,_,b,s1,rfl,h3,.inr ⟨h4,h5⟩⟩)
def wZ(G:GT)(n:Nat):Prop:=∀(w:World) (x:ByteArray) (s:PS) (a:List Nd) (s':PS),Pa G.T n (.ar x) s (.n a) s'->a.length<=1000000->eu n s->aN G w s ->
 Calls prog 121 #[.pointer (some ⟨G.P,0,none⟩),.string x] w (su G w a s')
theorem w_(hL:ft G.T G.K)(hE:l9 G n):wZ G (n+1):=by
 intro w x s r s' hP Yk Jv hS;obtain⟨a,kk,s1,hp,rfl,rfl⟩:∃a kk s1,Pa G.T n (.al 0 []) (bA G.T [40] s) (.a a kk) s1/\r=a++[⟨4,kk,x⟩]/\s'=cO G.T [41] s1:=by
  cases hP using Pa_i with
  | arg n x s a k s1 h1=>exact⟨a,k,s1,h1,rfl,rfl⟩
 simp only[l_a,List.length_singleton]at Yk;obtain⟨W1,Xg⟩:=q_ (w.alloc (.cells #[] 48));have Xo:Bl w W1:=by rw[Xg];exact r_.alloc n_ _
 have Xy:aF w.heap.size W1 (.slice (some ⟨w.heap.size,0,none⟩) 0 0) []:=by rw[Xg];exact cE w _ n_
 have HO:=ah (d8 hL (hS.below Xo) Jv.bd [40]);have Yf:=ah (Jv.on (T:=G.T) [40]);have Yr:(n:Int)<=8000000:=by unfold eu at Jv;push_cast at Jv;omega
 generalize bA G.T [40] s=s0 at*;have HE:=ah hE;have HL:=ah hL;have Xw:=ah hp;have Ja:=ah hS.lt;have Xz:=ah Xy;have X_:=ah Xo;have Yd:=ah Xg;have Xh:=ah fun W z (hW:aN G W z) (hb:z.op=s0.op)=>dG HL.out hW (Yf.out.of hb).bd [41];clear hP Jv hS hE hL hp Xy Xo Xg;go_enter func121,ntmps121;go_upto_region 3 with fail;rw[<-Yd.out];go_wp2_with fail;refine HO.out.mono ?_;rintro e w2 ⟨rfl,h2,t2⟩;have Yc:=ah (az Xz.out t2 (fun k hk=>by rw[hk];exact Ja.out.1));have Yg:=ah ((X_.out.tcs (S:=fun k=>k=G.P)).trans t2);have H2:=ah h2;clear h2 t2 HO Xz X_ Yd;go_wp2;go_loopg[5,6] n (fun gk u kv wr=>∃(o:List Nd) (k:Int) (z:PS),gk<=n/\0<=k/\k+(gk:Int)<=(n:Int)/\kv=.int .i64 k/\Pa G.T gk (.al k o) z (.a a kk) s1/\z.op=s0.op/\aF w.heap.size wr u o/\aN G wr z/\am (fun k=>k=G.P) w wr)
 case atStart=>exact⟨[],0,s0,n_,by omega,by omega,rfl,Xw,rfl,Yc,H2,Yg⟩
 case round=>
  clear Yc H2 Yg Xw;obtain⟨o,k,z,Xq,Yp,Yj,rfl,hp,Ye,hR,hZ,hT⟩:=hrel;have Yo:o.length<=a.length:=hp.acc;have p3:wr.cell? ⟨G.P,3,none⟩=some (.int .i64 z.er):=(hZ.box 3 _ rfl).1;have HI:=ah (aE hZ [41]);have HR:=ah hR;have HZ:=ah hZ;have HT:=ah hT;have Xp:=ah Ye;rcases lG hp with⟨h0,rfl,rfl,rfl⟩|⟨h0,hk,Xl,rfl,rfl,rfl⟩|⟨h0,Yi,m,b,z1,rfl,Xk,Xs⟩
  ·clear hp hR hZ hT Xq HI;go_wp2_with fail;have HC:=ah (Xh.out _ _ HZ.out Xp);have Jt:=ah HR;have Jn:=ah HT;clear HZ;refine HC.out.mono ?_;rintro e w8 ⟨rfl,h8,t8⟩;have Jh:=ah (az Jt.out t8 (fun k hk=>by rw[hk];exact Ja.out.1));have Je:=ah (Jn.out.trans t8);have H8:=ah h8;have Xj:w.heap.size<=w8.heap.size:=Je.out.size;clear h8 t8 HC;obtain⟨W9,Jc⟩:=q_ (w8.alloc (.cells #[.int .i64 4,.int .i64 (kk),.string x] 48));obtain⟨B9,Jd⟩:=q_ w8.heap.size;have Jb:Bl w8 W9:=by rw[Jc];exact r_.alloc n_ _
   have Jf:Hid (aF w.heap.size W9 _ _):=aF.below Jh.out Jb;have Jo:Hid (ax W9 (.slice (some ⟨B9,0,none⟩) 1 1) [⟨4,kk,x⟩]):=by rw[Jc,Jd];exact(aQ w8 0 y_ _ _ _).nodes
   have H9:=ah (H8.out.below Jb);have Ji:=ah (Je.out.of_below Jb);have Jm:w.heap.size<=W9.heap.size:=Ji.out.size;have Jp:=ah Jc;have Js:=ah Jd;clear Jc Jd Jb Jh Je H8;go_wp2_with(at_builtin;rw[<-Jp.out,<-Js.out];refine cu rfl _ _ rfl w.heap.size _ _ rfl Jf.out _ _ rfl Jo.out (by simp;omega) Jm ?_;intro u9 w9 h9 g9;have Jg:=ah (aN.gr H9.out Ja.out.1 Ja.out.2 Ji.out Jf.out g9);have Jq:=ah h9;clear h9 g9)
   go_ret;exact⟨_,rfl,Jq,Jg.out.1,Jg.out.2⟩
  ·rw[h0]at p3;clear hp hR hZ hT Xq;go_wp2_with fail;refine HI.out.mono ?_;rintro e wq ⟨rfl,Jr⟩;rw[Xl];have Yl:=ah (HR.out.below Jr);have Yb:=ah (HZ.out.below Jr);have Yh:=ah (HT.out.of_below Jr);clear Jr;go_wp2_with fail;have HC:=ah (Xh.out _ _ Yb.out Xp);have Jt:=ah Yl;have Jn:=ah Yh;clear Yb;refine HC.out.mono ?_;rintro e w8 ⟨rfl,h8,t8⟩;have Jh:=ah (az Jt.out t8 (fun k hk=>by rw[hk];exact Ja.out.1));have Je:=ah (Jn.out.trans t8);have H8:=ah h8;have Xj:w.heap.size<=w8.heap.size:=Je.out.size;clear h8 t8 HC;obtain⟨W9,Jc⟩:=q_ (w8.alloc (.cells #[.int .i64 4,.int .i64 (kk),.string x] 48));obtain⟨B9,Jd⟩:=q_ w8.heap.size;have Jb:Bl w8 W9:=by rw[Jc];exact r_.alloc n_ _
   have Jf:Hid (aF w.heap.size W9 _ _):=aF.below Jh.out Jb;have Jo:Hid (ax W9 (.slice (some ⟨B9,0,none⟩) 1 1) [⟨4,kk,x⟩]):=by rw[Jc,Jd];exact(aQ w8 0 y_ _ _ _).nodes
   have H9:=ah (H8.out.below Jb);have Ji:=ah (Je.out.of_below Jb);have Jm:w.heap.size<=W9.heap.size:=Ji.out.size;have Jp:=ah Jc;have Js:=ah Jd;clear Jc Jd Jb Jh Je H8;go_wp2_with(at_builtin;rw[<-Jp.out,<-Js.out];refine cu rfl _ _ rfl w.heap.size _ _ rfl Jf.out _ _ rfl Jo.out (by simp;omega) Jm ?_;intro u9 w9 h9 g9;have Jg:=ah (aN.gr H9.out Ja.out.1 Ja.out.2 Ji.out Jf.out g9);have Jq:=ah h9;clear h9 g9)
   go_ret;exact⟨_,rfl,Jq,Jg.out.1,Jg.out.2⟩
  ·rw[h0]at p3;have Yq:o.length+b.length<=a.length:=by
    rcases Xs with⟨_,rfl,_,_⟩|⟨_,h5⟩
    ·simp
    ·have:=h5.acc;simp only[PT.acc,PR.sz,l_a]at this;exact this
   have Yn:m<=n:=by omega
   have Xe:=ah fun W (hW:aN G W z)=>HE.out W 1 z b z1 (Pa.ups Yn Xk) (by omega) (Yf.out.of Xp) hW;have Xd:Hid (z1.op=s0.op):=by show _=_;rw[Xk.op];exact Ye
   have Xx:=ah Xs;have Ya:k+1+(m:Int)<=(n:Int):=by push_cast at Yj;omega
   clear hp hR hZ hT Xq Xk Xs;have go:∀W,Bl wr W->aN G W z/\aF w.heap.size W u5 o/\am (fun k=>k=G.P) w W:=fun W hb=>⟨HZ.out.below hb,HR.out.below hb,HT.out.of_below hb⟩;have Xf:=ah go;clear go;by_cases hkp:0<k
   ·go_wp2_with fail;have Jj:=Xf.out wr r_;refine(Xe.out _ Jj.1).mono ?_;rintro e w3 ⟨Ym,rfl,Jz,h3,t3⟩;have Jx:=ah (az Jj.2.1 t3 (fun k hk=>by rw[hk];exact Ja.out.1));have Xr:=ah Jz.nodes;have J_:=ah (Jj.2.2.trans t3);have H3:=ah h3;have Xu:w.heap.size<=w3.heap.size:=J_.out.size;clear Jz h3 t3 Jj Xe HI HR HZ HT Xf;go_wp2_with(at_builtin;refine cu rfl _ _ rfl w.heap.size _ _ rfl Jx.out _ _ rfl Xr.out (by omega) Xu ?_;intro u9 w4 h9 g9;have Ju:=aN.gr H3.out Ja.out.1 Ja.out.2 J_.out Jx.out g9;have Xc:=ah (aE Ju.1 [44]);have Jw:=ah Ju;have Xt:=ah h9;clear h9 g9 Ju)
    refine Xc.out.mono ?_;rintro e w5 ⟨rfl,Jk⟩;have Xa:=ah (aF.below Xt.out Jk);have H5:=ah (Jw.out.1.below Jk);have Xb:=ah (Jw.out.2.of_below Jk);clear Jk Xc;rcases Xx.out with⟨Jl,rfl,rfl,rfl⟩|⟨Jl,Jy⟩
    ·rw[Jl];go_wp2_with fail;have HC:=ah (Xh.out _ _ H5.out Xd);have Jt:=ah Xa;have Jn:=ah Xb;clear H5;refine HC.out.mono ?_;rintro e w8 ⟨rfl,h8,t8⟩;have Jh:=ah (az Jt.out t8 (fun k hk=>by rw[hk];exact Ja.out.1));have Je:=ah (Jn.out.trans t8);have H8:=ah h8;have Xj:w.heap.size<=w8.heap.size:=Je.out.size;clear h8 t8 HC;obtain⟨W9,Jc⟩:=q_ (w8.alloc (.cells #[.int .i64 4,.int .i64 (k+1),.string x] 48));obtain⟨B9,Jd⟩:=q_ w8.heap.size;have Jb:Bl w8 W9:=by rw[Jc];exact r_.alloc n_ _
     have Jf:Hid (aF w.heap.size W9 _ _):=aF.below Jh.out Jb;have Jo:Hid (ax W9 (.slice (some ⟨B9,0,none⟩) 1 1) [⟨4,k+1,x⟩]):=by rw[Jc,Jd];exact(aQ w8 0 y_ _ _ _).nodes
     have H9:=ah (H8.out.below Jb);have Ji:=ah (Je.out.of_below Jb);have Jm:w.heap.size<=W9.heap.size:=Ji.out.size;have Jp:=ah Jc;have Js:=ah Jd;clear Jc Jd Jb Jh Je H8;go_wp2_with(at_builtin;rw[<-Jp.out,<-Js.out];refine cu rfl _ _ rfl w.heap.size _ _ rfl Jf.out _ _ rfl Jo.out (by simp;omega) Jm ?_;intro u9 w9 h9 g9;have Jg:=ah (aN.gr H9.out Ja.out.1 Ja.out.2 Ji.out Jf.out g9);have Jq:=ah h9;clear h9 g9)
     go_ret;exact⟨_,rfl,Jq,Jg.out.1,Jg.out.2⟩
    ·rw[Jl];have Xn:=fQ HL.out H5.out.wf Jl;have Xv:=ah Jy;obtain⟨h6,q1,f1,hi⟩:=H5.out.adv Xn;have Xm:=ah (az Xa.out h6.2 (fun k hk=>by rw[hk];exact Ja.out.1));have Xi:=ah (Xb.out.trans h6.2);have H6:=ah h6.1;clear h6 Jy;go_wp2;go_roundg m
     case measure=>omega
     case rel=>exact⟨o++b,_,_,by omega,by omega,Ya,rfl,Xv,Xd,Xm,H6,Xi⟩
   ·have Xl:aC G.T [41] z=false:=Yi.resolve_left hkp;go_wp2_with fail;refine HI.out.mono ?_;rintro e wq ⟨rfl,Jr⟩;rw[Xl];have Jj:=Xf.out wq Jr;clear Jr;go_wp2_with fail;refine(Xe.out _ Jj.1).mono ?_;rintro e w3 ⟨Ym,rfl,Jz,h3,t3⟩;have Jx:=ah (az Jj.2.1 t3 (fun k hk=>by rw[hk];exact Ja.out.1));have Xr:=ah Jz.nodes;have J_:=ah (Jj.2.2.trans t3);have H3:=ah h3;have Xu:w.heap.size<=w3.heap.size:=J_.out.size;clear Jz h3 t3 Jj Xe HI HR HZ HT Xf;go_wp2_with(at_builtin;refine cu rfl _ _ rfl w.heap.size _ _ rfl Jx.out _ _ rfl Xr.out (by omega) Xu ?_;intro u9 w4 h9 g9;have Ju:=aN.gr H3.out Ja.out.1 Ja.out.2 J_.out Jx.out g9;have Xc:=ah (aE Ju.1 [44]);have Jw:=ah Ju;have Xt:=ah h9;clear h9 g9 Ju)
    refine Xc.out.mono ?_;rintro e w5 ⟨rfl,Jk⟩;have Xa:=ah (aF.below Xt.out Jk);have H5:=ah (Jw.out.1.below Jk);have Xb:=ah (Jw.out.2.of_below Jk);clear Jk Xc;rcases Xx.out with⟨Jl,rfl,rfl,rfl⟩|⟨Jl,Jy⟩
    ·rw[Jl];go_wp2_with fail;have HC:=ah (Xh.out _ _ H5.out Xd);have Jt:=ah Xa;have Jn:=ah Xb;clear H5;refine HC.out.mono ?_;rintro e w8 ⟨rfl,h8,t8⟩;have Jh:=ah (az Jt.out t8 (fun k hk=>by rw[hk];exact Ja.out.1));have Je:=ah (Jn.out.trans t8);have H8:=ah h8;have Xj:w.heap.size<=w8.heap.size:=Je.out.size;clear h8 t8 HC;obtain⟨W9,Jc⟩:=q_ (w8.alloc (.cells #[.int .i64 4,.int .i64 (k+1),.string x] 48));obtain⟨B9,Jd⟩:=q_ w8.heap.size;have Jb:Bl w8 W9:=by rw[Jc];exact r_.alloc n_ _
     have Jf:Hid (aF w.heap.size W9 _ _):=aF.below Jh.out Jb;have Jo:Hid (ax W9 (.slice (some ⟨B9,0,none⟩) 1 1) [⟨4,k+1,x⟩]):=by rw[Jc,Jd];exact(aQ w8 0 y_ _ _ _).nodes
     have H9:=ah (H8.out.below Jb);have Ji:=ah (Je.out.of_below Jb);have Jm:w.heap.size<=W9.heap.size:=Ji.out.size;have Jp:=ah Jc;have Js:=ah Jd;clear Jc Jd Jb Jh Je H8;go_wp2_with(at_builtin;rw[<-Jp.out,<-Js.out];refine cu rfl _ _ rfl w.heap.size _ _ rfl Jf.out _ _ rfl Jo.out (by simp;omega) Jm ?_;intro u9 w9 h9 g9;have Jg:=ah (aN.gr H9.out Ja.out.1 Ja.out.2 Ji.out Jf.out g9);have Jq:=ah h9;clear h9 g9)
     go_ret;exact⟨_,rfl,Jq,Jg.out.1,Jg.out.2⟩
    ·rw[Jl];have Xn:=fQ HL.out H5.out.wf Jl;have Xv:=ah Jy;obtain⟨h6,q1,f1,hi⟩:=H5.out.adv Xn;have Xm:=ah (az Xa.out h6.2 (fun k hk=>by rw[hk];exact Ja.out.1));have Xi:=ah (Xb.out.trans h6.2);have H6:=ah h6.1;clear h6 Jy;go_wp2;go_roundg m
     case measure=>omega
     case rel=>exact⟨o++b,_,_,by omega,by omega,Ya,rfl,Xv,Xd,Xm,H6,Xi⟩
end
section
open Go.RowKit
variable{B L B' B2 L2:Nat}{w w':World}{v u:Value}{R R2:List SV}{e:List Nd}
def qN(R:List SV)(W:World):Prop:=∀x∈R,ax W x.ve x.s.e/\ax W x.vf x.s.f
def DX(R:List SV):Prop:=∀x∈R,bI x.s.e 3000/\bI x.s.f 3000/\x.s.name.size<=100000
structure SR (B:Nat) (w:World) (v:Value) (R:List SV) (L:Nat):Prop where
 row:dY 46 6 (fun k=>k<B) B w v R.length (bz R) (qN R)
 ok:DX R
 len:R.length<=L
theorem SR.tcs{S:Nat->Prop}(h:SR B w v R L)(ht:am S w w')(hS:∀k,S k->k<B):SR B w' v R L:=⟨h.row.tcs (ht.mono hS) (fun k hk=>hk),h.ok,h.len⟩
theorem SR.below(h:SR B w v R L)(hb:Below w.heap.size w w'):SR B w' v R L:=⟨h.row.below hb,h.ok,h.len⟩
theorem SR.low(h:SR B w v R L)(hb:B'<=B):SR B' w v R L:=⟨(h.row.low hb).less (fun k hk=>by omega),h.ok,h.len⟩
theorem SR.more{L':Nat}(h:SR B w v R L)(hl:L<=L'):SR B w v R L':=⟨h.row,h.ok,t_ h.len hl⟩
theorem SR.shape(h:SR B w v R L):∃a c,v=.slice a R.length c:=by
 obtain⟨a,c,e,-⟩:=au h.row.row;exact⟨a,c,e⟩
theorem SR.rng(h:SR B w v R L):∀k,v.ownBlock=some k->B<=k/\k<w.heap.size:=fun k hk=>World.ownsRow.lt h.row.row k hk
theorem xb(w:World)(B:Nat)(hB:B<=w.heap.size):SR B (w.alloc (.cells #[] 46)) (.slice (some ⟨w.heap.size,0,none⟩) 0 0) [] 0:=
 ⟨⟨World.ownsRow_lit w #[] 0 hB (by decide) rfl,fun W _ x hx=>by cases hx⟩,(fun x hx=>by cases hx),n_⟩
theorem aM(W:World):ax W (.slice none 0 0) []:=⟨none,0,rfl,n_,by omega,fun h=>absurd h (Nat.lt_irrefl _)⟩
theorem bC(h:aF B w v e)(hb:B'<=B):∀W,am (fun k=>k<B') w W->ax W v e:=fV h (fun k hk=>by omega)
theorem jW{ve vf:Value}{kd th el:Int}{nm:ByteArray}{f:List Nd}(hB:B<=w.heap.size)(hE:∀W,am (fun k=>k<B) w W->ax W ve e)(hF:∀W,am (fun k=>k<B) w W->ax W vf f)(oe:bI e 3000)(Ja:bI f 3000)(on:nm.size<=100000):
  SR B (w.alloc (.cells #[.int .i64 kd,.string nm,ve,vf,.int .i64 th,.int .i64 el] 46)) (.slice (some ⟨w.heap.size,0,none⟩) 1 1) [⟨⟨kd,nm,e,f,th,el⟩,ve,vf,[],[]⟩] 1:=by
 refine⟨⟨World.ownsRow_lit w #[.int .i64 kd,.string nm,ve,vf,.int .i64 th,.int .i64 el] 1 hB (by decide) rfl,fun W hW x hx=>?_⟩,fun x hx=>?_,n_⟩
 ·simp only[List.mem_singleton]at hx;subst hx;have ht:am (fun k=>k<B) w W:=((am.refl _ w).alloc _).next hW fun k hk=>by
   rcases hk with hk|hk
   ·exact .inl hk
   ·simp only[Value.ownBlock,Option.some.injEq]at hk;exact .inr (by omega)
  exact⟨hE W ht,hF W ht⟩
 ·simp only[List.mem_singleton]at hx;subst hx;exact⟨oe,Ja,on⟩
theorem ji(ty:TypeId)(h:SR B w v R L)(h2:SR B2 w u R2 L2)(hB:B<=w.heap.size)(hm:L+L2<=1000000)
  (Jf:∀W,am (fun k=>k<B∨v.ownBlock=some k) w W->qN R2 W):
  ∃v' w',(Builtin.append_ #[41,41] ty #[v,u]).run prog w=.ok v' w'/\SR B w' v' (R++R2) (L+L2)/\am (fun k=>v.ownBlock=some k) w w'/\∀k,v'.ownBlock=some k->v.ownBlock=some k∨w.heap.size<=k:=by
 obtain⟨i0,hi,Je,Jd,Jc⟩:=info_parts gz;obtain⟨a,c,rfl,hn,hc⟩:=au h2.row.row;have Jb:=h.len;have Ja:=h2.len;obtain⟨v',w',r1,r2,r3⟩:=jB (Pg:=prog) (w:=w) (T:=46) (t:=41) (c:=c) (P2:=qN R2) ty underlying41 hi Je Jd Jc rfl (by decide) h.row a hn (flatS_len R2) hc (iK R2 fun q hq=>⟨(h2.row.now q hq).1.cell1,(h2.row.now q hq).2.cell1⟩) Jf (by omega) (by decide) hB;refine⟨v',w',r1,⟨⟨by rw[l_a,fv];exact r2.row,fun W hW x hx=>?_⟩,fun x hx=>?_,by rw[l_a];omega⟩,r3⟩
 ·rcases List.mem_append.1 hx with hx|hx
  ·exact(r2.st W hW).1 x hx
  ·exact(r2.st W hW).2 x hx
 ·rcases List.mem_append.1 hx with hx|hx
  ·exact h.ok x hx
  ·exact h2.ok x hx
theorem iP(h2:SR B2 w u R2 L2)(hB:B<=B2)(hv:∀k,v.ownBlock=some k->k<B2):∀W,am (fun k=>k<B∨v.ownBlock=some k) w W->qN R2 W:=fun W hW=>
 h2.row.st W (hW.mono fun k hk=>by
  rcases hk with hk|hk
  ·exact .inl (by omega)
  ·exact .inl (hv k hk))
theorem jX{w1:World}(h2:SR B2 w1 u R2 L2)(ht:am (fun k=>k<B2) w1 w)(hB:B<=B2)(hv:∀k,v.ownBlock=some k->w1.heap.size<=k):∀W,am (fun k=>k<B∨v.ownBlock=some k) w W->qN R2 W:=fun W hW=>
 h2.row.st W ((ht.mono fun k hk=>.inl hk).next hW fun k hk=>by
  rcases hk with hk|hk
  ·exact .inl (.inl (by omega))
  ·exact .inr (hv k hk))
def kG(g:Nat)(a:Option Addr)(len cap q:Nat)(S:Nat->Prop)(K L m:Nat)(w:World)(v:Value)(w':World):Prop:=∃R G',SR w.heap.size w' v R L/\m<=R.length/\GS g a len cap q (Sv S v) w' G' (K+L)/\am (Sq g q) w w'
def Dl(g:Nat)(a:Option Addr)(len cap q d:Nat):Prop:=∀(z:Int) (S:Nat->Prop) (G:Gn) (K:Nat) (w:World),z=d->GS g a len cap q S w G K->K+mK d<=50000 ->
  Calls prog 137 #[.pointer (some ⟨g,0,none⟩),.pointer (some ⟨q,0,none⟩),.int .i64 z] w fun e w'=>∃v,e=.returned v/\kG g a len cap q S K (mK d) 1 w v w'
end
section
open Go.RowKit
variable{B:Nat}{v:Value}
theorem xg{W:World}{R:List SV}(h0:W.ownsRow B 46 6 v R.length (bz R))(hp:qN R W):bJ W v (R.map (·.s)):=by
 rcases h0.2 with⟨rfl,hz⟩|⟨g,Jb,Jc,rfl,h3,h4,h5⟩
 ·exact⟨none,0,by rw[List.length_map,hz],by rw[List.length_map,hz];exact n_,by omega,fun h=>by rw[List.length_map]at h;omega⟩
 ·have hc:R.length<=Jb/\Jb<=9223372036854775807:=by
   obtain⟨q1,q2,-⟩:=h5;unfold maxLen at q2;exact⟨q1,q2⟩
  refine⟨some ⟨g,0,none⟩,Jb,by rw[List.length_map],by rw[List.length_map];exact hc.1,hc.2,fun hp'=>⟨g,0,rfl,fun j hj=>?_⟩⟩;rw[List.length_map]at hj;have Ja:∀i,i<6->W.cell? ⟨g,0+j*6+i,none⟩=(aY R[j])[i]? := fun i hi=>by
   have hl:(bz R).length=R.length*6:=flatS_len R;rw[Nat.zero_add,World.ownsRow.cellAt h0 (j*6+i) (by omega),dH R j i hj hi]
  have he:=hp R[j] (g_ hj);refine⟨R[j].ve,R[j].vf,?_,?_,?_⟩
  ·simp only[List.getElem_map];exact⟨Ja 0 (by omega),Ja 1 (by omega),Ja 2 (by omega),Ja 3 (by omega),Ja 4 (by omega),Ja 5 (by omega)⟩
  ·simp only[List.getElem_map];exact he.1
  ·simp only[List.getElem_map];exact he.2
def qc(g:Gl):List Value:=[.string g.name,.int .i64 g.size]
def bN(gs:List Gl):List Value:=gs.flatMap qc
theorem iQ(gs:List Gl):(bN gs).length=gs.length*2:=by
 induction gs with
 | nil=>rfl
 | cons a r ih=>
  have:(bN (a::r)).length=2+(bN r).length:=by simp[bN,qc];omega
  rw[this,ih,l_c];omega
theorem gD:∀(gs:List Gl) (j i:Nat) (hj:j<gs.length),i<2->(bN gs)[j*2+i]? =(qc gs[j])[i]?
 | x::l,0,i,_,hi=>by
  have:(qc x).length=2:=rfl
  show(qc x++bN l)[0*2+i]? =_;rw[List.getElem?_append_left (by omega)];simp
 | x::l,j+1,i,hj,hi=>by
  have h7:(qc x).length=2:=rfl;show(qc x++bN l)[(j+1)*2+i]? =_;rw[List.getElem?_append_right (by omega)];have e:(j+1)*2+i-(qc x).length=j*2+i:=by omega
  rw[e,gD l j i (by simpa using hj) hi];simp
def GR(B:Nat)(w:World)(v:Value)(gs:List Gl):Prop:=w.ownsRow B 74 2 v gs.length (bN gs)
theorem pF{w:World}{gs:List Gl}(h:GR B w v gs):dL w v gs:=by
 have h0:w.ownsRow B 74 2 v gs.length (bN gs):=h;rcases h0.2 with⟨rfl,hz⟩|⟨g,Ja,Jc,rfl,h3,h4,h5⟩
 ·exact⟨none,0,by rw[hz],by rw[hz];exact n_,by omega,fun h=>by omega⟩
 ·have hc:gs.length<=Ja/\Ja<=9223372036854775807:=by
   obtain⟨q1,q2,-⟩:=h5;unfold maxLen at q2;exact⟨q1,q2⟩
  refine⟨some ⟨g,0,none⟩,Ja,rfl,hc.1,hc.2,fun hp'=>⟨g,0,rfl,fun j hj=>?_⟩⟩;have Jb:∀i,i<2->w.cell? ⟨g,0+j*2+i,none⟩=(qc gs[j])[i]? := fun i hi=>by
   have hl:(bN gs).length=gs.length*2:=iQ gs;rw[Nat.zero_add,World.ownsRow.cellAt h0 (j*2+i) (by omega),gD gs j i hj hi]
  exact⟨Jb 0 (by omega),Jb 1 (by omega)⟩
theorem iR:(prog.info? 74).map (fun i=>(i.zero,i.size,i.bytes))=some (some (.agg #[.string ⟨#[]⟩,.int .i64 0]),2,24):=by kernel_rfl
end
section
open Go.RowKit
theorem qO{d:Nat}(h:d<=4):1<=mK d/\mK d<=511:=by
 have:d=0∨d=1∨d=2∨d=3∨d=4:=by omega
 rcases this with rfl|rfl|rfl|rfl|rfl <;> decide
theorem gE(g:Nat)(a:Option Addr)(len cap q d:Nat)(hd:d<=4)(hX:Dl g a len cap q d)(n:Nat)(hn:n<=10)(zn zd:Int)(Jo:zn=n)(Jp:zd=d)(S:Nat->Prop)(G:Gn)(K:Nat)(w:World)(h:GS g a len cap q S w G K)(hK:K+n*mK d<=50000):
  Calls prog 104 #[.pointer (some ⟨g,0,none⟩),.pointer (some ⟨q,0,none⟩),.int .i64 zn,.int .i64 zd] w fun e w'=>∃v,e=.returned v/\kG g a len cap q S K (n*mK d) n w v w':=by
 have Jm:=qO hd;obtain⟨D,hD⟩:=q_ (mK d);have HX:Hid (∀(S:Nat->Prop) (G:Gn) (K:Nat) (w:World),GS g a len cap q S w G K->K+D<=50000->Calls prog 137 #[.pointer (some ⟨g,0,none⟩),.pointer (some ⟨q,0,none⟩),.int .i64 zd] w fun e w'=>∃v,e=.returned v/\kG g a len cap q S K D 1 w v w'):=fun S G K w h hk=>by rw[hD]at hk⊢;exact hX zd S G K w Jp h hk
 rw[<-hD]at Jm hK⊢;have HS:Hid (∀W,am S w W->Strs W G.vs G.ss):=h.ok.s;have Jw:Hid (∀x∈G.ss,x.size<=100000):=h.ok.ns.2.1;have Jy:Hid (G.ss.length<=K):=h.ok.sl;have HL:Hid (Lo g a len S w.heap.size):=h.lo;have Jl:Hid (S q):=h.sq;have Jg:Hid (∀k,Sq g q k->S k):=h.sqs;have Xa:Hid (GS g a len cap q (Sv S (.slice (some ⟨w.heap.size,0,none⟩) 0 0)) (w.alloc (.cells #[] 46)) G K):=h.add (h.alloc _) ((am.refl _ _).alloc _) (fun k hk=>by simp[Value.ownBlock]at hk;subst hk;simp);have c2:(w.alloc (.cells #[] 46)).cell? ⟨q,2,none⟩=some G.vs:=(h.alloc _).box.c2;have Jn:w.cell? ⟨q,2,none⟩=some G.vs:=h.box.c2;have Xc:q<w.heap.size:=h.box.lt;obtain⟨Ja,Jb,Jh,-⟩:=h.ok.s w (am.refl _ _);rw[Jh]at c2 Jn;obtain⟨sl,Jj⟩:=q_ G.ss.length;rw[<-Jj]at c2 Jn;have Js:Hid (G.vs=.slice Ja sl Jb):=by rw[Jj];exact Jh
 have J_:0<=zn/\zn<=10:=by omega
 have Jd:=ah Jo;clear Jh h hX hD Jj Jo Jp;go_enter func104,ntmps104;go_wp2;go_loopw[9,11,12] (fun ov i mr wr=>∃j:Nat,j<=n/\i=.int .i64 j/\∃(R:List SV) (G':Gn),SR w.heap.size wr ov R (j*D)/\j<=R.length/\GS g a len cap q (Sv S ov) wr G' (K+j*D)/\am (Sq g q) w wr) (fun _ i _ _=>n-(RowKit.intOf i).toNat)
 case atStart=>exact⟨0,by omega,rfl,[],G,by rw[Nat.zero_mul];exact xb w w.heap.size n_,by simp,by rw[Nat.zero_mul];exact Xa,(am.refl _ _).alloc _⟩
 case round=>
  obtain⟨j,hj,rfl,R,G',hr,Jv,hg,ht⟩:=hrel;obtain⟨HR,Jc,HT,HJ⟩:=h4 hr hg ht Jv;by_cases hlt:(j:Int)<zn
  ·have Jf:(j+1)*D<=n*D:=Nat.mul_le_mul_right _ (by have:=Jd.out;omega);have HM:Hid ((j+1)*D=j*D+D):=Nat.succ_mul j D;have Ju:n*D<=10*511:=Nat.mul_le_mul hn Jm.2;have Jq:K+j*D+D<=50000:=by have:=HM.out;omega
   have Jz:j*D+D<=1000000:=by have:=HM.out;omega
   clear Jf Ju;go_wp2_with fail;refine(HX.out (Sv S u9) G' (K+j*D) wr Jc.out Jq).mono ?_;rintro e w2 ⟨u2,rfl,R2,G2,Jk,Xb,Jt,Je⟩;have Jr:=HR.out.tcs Je (fun k hk=>HL.out.s k (Jg.out k hk));obtain⟨v3,w3,r3,h3,t3,f3⟩:=ji 41 Jr Jk (t_ HT.out.size Je.size) Jz (iP Jk HT.out.size (fun k hk=>(HR.out.rng k hk).2));have HE:Hid (SR w.heap.size w3 v3 (R++R2) ((j+1)*D)/\j+1<=(R++R2).length/\GS g a len cap q (Sv S v3) w3 G2 (K+(j+1)*D)/\am (Sq g q) w w3):=by
    refine⟨by rw[HM.out];exact h3,by rw[l_a];have:=HJ.out;omega,?_,(HT.out.trans Je).next t3 (fun k hk=>.inr (HR.out.rng k hk).1)⟩;rw[HM.out,<-Nat.add_assoc];exact(Jt.drop (.inl HL.out.sg) (.inl Jl)).app HL.out Jl.out (fun k hk=>(HR.out.rng k hk).1) t3 f3 (fun k hk=>(h3.rng k hk).2)
   have Jx:=ah r3;go_wp2_with(at_builtin;refine ao rfl _ _ _ rfl _ _ _ _ rfl rfl Jx.out ?_)
   go_roundw
   case rel=>exact⟨j+1,by have:=Jd.out;omega,by go_num,R++R2,G2,HE.out.1,HE.out.2.1,HE.out.2.2.1,HE.out.2.2.2⟩
   case measure=>have:=Jd.out;simp[RowKit.intOf];omega
  ·obtain rfl:j=n:=by have:=Jd.out;omega
   have c2:=Jc.out.box.c2;have f2:=Jc.out.box.fz 2;have HF:Hid (SR w.heap.size (wr.setCell ⟨q,2,none⟩ (.slice Ja sl Jb)) u9 R (j*D)/\GS g a len cap q (Sv S u9) (wr.setCell ⟨q,2,none⟩ (.slice Ja sl Jb)) {G' with vs:=(.slice Ja sl Jb),ss:=G.ss} (K+j*D)/\am (Sq g q) w (wr.setCell ⟨q,2,none⟩ (.slice Ja sl Jb))):=by
    have ht:am (Sq g q) wr (wr.setCell ⟨q,2,none⟩ (.slice Ja sl Jb)):=lF wr _;have Ji:=Jc.out;refine⟨HR.out.tcs ht (fun k hk=>HL.out.s k (Jg.out k hk)),Ji.set (Ji.box.set2 _ _) (Ji.ok.setS (fun W hW=>?_) Jw.out (by have:=Jy.out;omega)),HT.out.trans ht⟩;have:=HS.out W ((HT.out.mono Jg.out).next hW fun k hk=>by
     rcases hk with hk|hk
     ·exact .inl hk
     ·exact .inr (HR.out.rng k hk).1)
    rwa[Js]at this
   generalize G'.vs=old at c2;clear Jc;go_wp2;go_ret;exact⟨_,rfl,R,_,HF.out.1,HJ,HF.out.2.1,HF.out.2.2⟩
end
section
open Go.RowKit
variable{x y:List UInt8}{s s':PS}{n:Nat}{a:List Nd}{G:GT}{w:World}
theorem bE{T:Nat->To}(h:aC T x s=true)(hn:x≠y):aC T y s=false:=by
 obtain⟨-,-,-,h1⟩:=cL h;unfold aC;rw[h1];have:¬tx x=tx y:=fun e=>hn (by unfold tx at e;simpa using e);simp[this]
theorem nU{T:Nat->To}(h:(T s.i).kind=2):aC T y s=false:=by
 unfold aC yO;rw[h];simp
theorem pG(k:Nat)(hk:k<3):dN[k]'hk=dN.getD k []:=by
 rcases(show k=0∨k=1∨k=2 by omega)with rfl|rfl|rfl <;> rfl
theorem AZ{k j:Nat}(hk:k<3)(hj:j<3)(h:k≠j):dN.getD k []≠dN.getD j []:=by
 rcases(show k=0∨k=1∨k=2 by omega)with rfl|rfl|rfl <;> rcases(show j=0∨j=1∨j=2 by omega)with rfl|rfl|rfl <;> simp_all [dN]
theorem qP{T:Nat->To}(h:∀x∈dN,aC T x s=false)(k:Nat)(hk:k<3):aC T (dN.getD k []) s=false:=by
 rw[<-pG k hk];exact h _ (g_ _)
theorem iY{T:Nat->To}(h:Pa T (n+1) .o s (.n a) s'):
  (∃k,k<3/\aC T (dN.getD k []) s=true/\(((bA T (dN.getD k []) s).er=0/\∃b s1,Pa T n .o (bA T (dN.getD k []) s) (.n b) s1/\a=b++[⟨6,(k:Int),tx []⟩]/\s'={s1 with op:=s1.op-1}) ∨
   ((bA T (dN.getD k []) s).er≠0/\a=[⟨6,(k:Int),tx []⟩]/\s'={bA T (dN.getD k []) s with op:=(bA T (dN.getD k []) s).op-1}))) ∨
  ((∀k,k<3->aC T (dN.getD k []) s=false)/\(
   (aC T [40] s=true/\Pa T n (.pr [40] [41]) s (.n a) s') ∨
   (aC T [40] s=false/\aC T [105,110] s=true/\a=[⟨5,0,tx []⟩]/\s'=cO T [41] (bA T [40] s.ad)) ∨
   (aC T [40] s=false/\aC T [105,110] s=false/\s.er=0/\(T s.i).kind=2/\a=[⟨1,(T s.i).num,tx []⟩]/\s'=s.ad) ∨
   (aC T [40] s=false/\aC T [105,110] s=false/\¬(s.er=0/\(T s.i).kind=2)/\(
    (aC T [91] (aS T s).2=true/\∃b,Pa T n (.pr [91] [93]) (aS T s).2 (.n b) s'/\a=b++[⟨3,0,(aS T s).1⟩]) ∨
    (aC T [91] (aS T s).2=false/\aC T [40] (aS T s).2=true/\Pa T n (.ar (aS T s).1) (aS T s).2 (.n a) s') ∨
    (aC T [91] (aS T s).2=false/\aC T [40] (aS T s).2=false/\a=[⟨2,0,(aS T s).1⟩]/\s'=(aS T s).2))))):=by
 have hu:∀x:List UInt8,aC T x s=true->x∉dN->∀k,k<3->aC T (dN.getD k []) s=false:=fun x h hn k hk=>bE h (fun e=>hn (by rw[e,<-pG k hk];exact g_ _));cases h using Pa_i with
 | oun n k hk s b s1 h1 h2 h3=>rw[pG]at h1 h2 h3;exact .inl ⟨k,hk,h1,.inl ⟨h2,b,s1,h3,rfl,rfl⟩⟩
 | oud n k hk s h1 h2=>rw[pG]at h1 h2;exact .inl ⟨k,hk,h1,.inr ⟨h2,rfl,by rw[pG]⟩⟩
 | opa n s r s' h1 h2=>exact .inr ⟨hu _ h1 (by decide),.inl ⟨h1,h2⟩⟩
 | oin n s h1=>exact .inr ⟨hu _ h1 (by decide),.inr (.inl ⟨bE h1 (by decide),h1,rfl,rfl⟩)⟩
 | onu n s h1 h2=>exact .inr ⟨fun k hk=>nU h2,.inr (.inr (.inl ⟨nU h2,nU h2,h1,h2,rfl,rfl⟩))⟩
 | oix n s b s' h1 h2 h3=>exact .inr ⟨qP h1.un,.inr (.inr (.inr ⟨h1.par,h1.inn,h1.num,.inl ⟨h2,b,h3,rfl⟩⟩))⟩
 | oca n s r s' h1 h2 h3 h4=>exact .inr ⟨qP h1.un,.inr (.inr (.inr ⟨h1.par,h1.inn,h1.num,.inr (.inl ⟨h2,h3,h4⟩)⟩))⟩
 | ova n s h1 h2 h3=>exact .inr ⟨qP h1.un,.inr (.inr (.inr ⟨h1.par,h1.inn,h1.num,.inr (.inr ⟨h2,h3,rfl,rfl⟩)⟩))⟩
theorem jC{T:Nat->To}(h:Pa T n (.pr x y) s (.n a) s'):
  ((bA T x s).er≠0/\a=[]/\s'=cO T y (bA T x s))∨((bA T x s).er=0/\∃s1,Pa T n (.e 1) (bA T x s) (.n a) s1/\s'=cO T y s1):=by
 cases n with
 | zero=>cases h using Pa_i
 | succ n=>
  rcases qM h with h1|⟨h0,s1,h1,h2⟩
  ·exact .inl h1
  ·exact .inr ⟨h0,s1,h1.up,h2⟩
theorem aN.less(h:aN G w s)(ho: -8000000<=s.op/\s.op<=8000000):(aN G (w.setCell ⟨G.P,2,none⟩ (.int .i64 (s.op-1))) {s with op:=s.op-1}/\am (fun k=>k=G.P) w (w.setCell ⟨G.P,2,none⟩ (.int .i64 (s.op-1))))/\w.cell? ⟨G.P,2,none⟩=some (.int .i64 s.op)/\w.frozen? ⟨G.P,2,none⟩=false:=
 ⟨h.put (s':= {s with op:=s.op-1}) 2 _ rfl h.wf (by show -9000000<=s.op-1/\s.op-1<=9000000;omega),(h.box 2 _ rfl).1,(h.box 2 _ rfl).2⟩
theorem kH{W:World}{z:PS}(h:aN G w z)(ht:am (fun k=>k=G.P) W w)(k v:Int)(s:ByteArray):
  su G W [⟨k,v,s⟩] z (.returned (.slice (some ⟨w.heap.size,0,none⟩) 1 1)) (w.alloc (.cells #[.int .i64 k,.int .i64 v,.string s] 48)):=
 ⟨_,rfl,aQ w _ ht.size k v s,h.below (aD _ _),ht.alloc _⟩
theorem xh(hL:ft G.T G.K)(hO:OpC G n)(hE:l9 G n)(Zo:AY G n)(hB:DW G n)(hA:wZ G n):OpC G (n+1):=by
 intro w s a s' hP Xm Xv hS;have Jz:=iY hP;obtain⟨W1,Xx⟩:=q_ (w.alloc (.cells #[.string ⟨#[45]⟩,.string ⟨#[33]⟩,.string ⟨#[126]⟩] 9));obtain⟨B,Ym⟩:=q_ w.heap.size;have Yy:Bl w W1:=by rw[Xx];exact r_.alloc n_ _
 have Yw:aR W1 B [.string (tx [45]),.string (tx [33]),.string (tx [126])]:=by rw[Xx,Ym];exact aJ w #[.string ⟨#[45]⟩,.string ⟨#[33]⟩,.string ⟨#[126]⟩] _ (by show 3<=1000;omega)
 have HS:=ah hS;have HL:=ah hL;have HO:=ah hO;have HE:=ah hE;have Yt:=ah hB;have HA:=ah hA;have Jy:=ah Xv;have Jw:=ah Jz;have Js:=ah hS.lt;have Yu:=ah Yy;have Yg:=ah Yw;have Yz:=ah Xx;have Za:=ah Ym;have Zp:(n:Int)<=8000000:=by unfold eu at Xv;push_cast at Xv;omega
 clear hP Xv hS hL hO hE Zo hB hA Jz Yy Yw Xx Ym;go_enter func152,ntmps152;go_upto_region 2 with fail;rw[<-Yz.out,<-Za.out];go_wp2;go_loopw[4] (fun i wr=>∃k:Nat,k<=3/\i=.int .i64 k/\(∀j,j<k->aC G.T (dN.getD j []) s=false)/\Bl w wr/\aR wr B [.string (tx [45]),.string (tx [33]),.string (tx [126])]/\B<wr.heap.size) (fun i _=>3-(RowKit.intOf i).toNat)
 case atStart=>exact⟨0,by omega,rfl,fun j hj=>absurd hj (by omega),Yu,Yg,b_ (Yg.out 0 _ rfl).1⟩
 case round=>
  clear Yu Yg Yz;obtain⟨k,hk,rfl,Xo,hb,hx,Ys⟩:=hrel;have hZ:=HS.out.below hb;have HZ:=ah hZ;have HB:=ah hb;have HX:=ah hx;have Yb:=ah Xo;by_cases hlt:k<3
  ·have ck:wr.cell? ⟨B,k,none⟩=some (.string (tx (dN.getD k []))):=by
    rcases(show k=0∨k=1∨k=2 by omega)with rfl|rfl|rfl
    ·exact(hx 0 _ rfl).1
    ·exact(hx 1 _ rfl).1
    ·exact(hx 2 _ rfl).1
   have HI:=ah (aE hZ (dN.getD k []));have Zr:(k:Int)<3:=by omega
   cases hi:aC G.T (dN.getD k []) s with
   | false=>
    have Zb:Hid (∀j,j<k+1->aC G.T (dN.getD j []) s=false):=fun j hj=>by
     by_cases e:j=k
     ·subst e;exact hi
     ·exact Yb.out j (by omega)
    rw[hi]at HI;clear Xo hb hx hZ hi Jw;go_wp2_with fail;refine HI.out.mono ?_;rintro e w2 ⟨rfl,J_⟩;have X_:=ah (HB.out.trans (J_.mono HB.out.size));have Ze:=ah (HX.out.below J_);have Yk:B<w2.heap.size:=l_ Ys J_.size;clear J_;go_wp2;go_roundw
    case rel=>exact⟨k+1,by omega,by go_num,Zb,X_,Ze,Yk⟩
    case measure=>simp[RowKit.intOf];omega
   | true=>
    rw[hi]at HI;have Zn:((bA G.T (dN.getD k []) s).er=0/\∃b s1,Pa G.T n .o (bA G.T (dN.getD k []) s) (.n b) s1/\a=b++[⟨6,(k:Int),tx []⟩]/\s'={s1 with op:=s1.op-1}) ∨
      ((bA G.T (dN.getD k []) s).er≠0/\a=[⟨6,(k:Int),tx []⟩]/\s'={bA G.T (dN.getD k []) s with op:=(bA G.T (dN.getD k []) s).op-1}):=by
     rcases Jw.out with⟨j,hj,h1,h2⟩|⟨h1,-⟩
     ·by_cases e:j=k
      ·subst e;exact h2
      ·have:=bE h1 (AZ hj hlt e);rw[hi]at this;cases this
     ·have:=h1 k hlt;rw[hi]at this;cases this
    have Yv:Hid (∀W,aN G W s->Calls prog 54 #[.pointer (some ⟨G.P,0,none⟩),.string (tx (dN.getD k []))] W fun e w'=>e=.returned (.tuple #[])/\aN G w' (bA G.T (dN.getD k []) s)/\am (fun k=>k=G.P) W w'):=fun W hW=>d8 HL.out hW Jy.out.bd _;have Jm:=ah (Jy.out.on (T:=G.T) (dN.getD k []));generalize dN.getD k []=ux at*;generalize bA G.T ux s=z at*;clear Xo hb hx hZ hi Jw Yb;go_wp2_with fail;refine HI.out.mono ?_;rintro e w2 ⟨rfl,J_⟩;have Zf:w2.cell? ⟨B,k,none⟩=some (.string (tx ux)):=(J_.cell (p:=⟨B,k,none⟩) Ys).trans ck;have Yx:=ah (Yv.out w2 (HZ.out.below J_));have X_:=ah (HB.out.trans (J_.mono HB.out.size));clear J_ Yv;go_wp2_with fail;refine Yx.out.mono ?_;rintro e w3 ⟨rfl,h3,t3⟩;obtain⟨W4,Jr⟩:=q_ (w3.alloc (.cells #[] 48));obtain⟨B4,Xi⟩:=q_ w3.heap.size;have Xk:=(X_.out.tcs (S:=fun k=>k=G.P)).trans t3;have Jt:Bl w3 W4:=by rw[Jr];exact r_.alloc n_ _
    have Xy:aF w.heap.size W4 (.slice (some ⟨B4,0,none⟩) 0 0) []:=by rw[Jr,Xi];exact cE w3 _ Xk.size
    have h4:=h3.below Jt;have p3:W4.cell? ⟨G.P,3,none⟩=some (.int .i64 z.er):=(h4.box 3 _ rfl).1;have H4:=ah h4;have Yd:=ah (Xk.of_below Jt);have Zg:=ah Xy;have Xr:=ah Jr;have Yl:=ah Xi;clear h3 t3 Xk Jt Xy h4 Jr Xi Yx X_ Zf ck HX;go_upto_region 8 with fail;rw[<-Xr.out,<-Yl.out];rcases Zn with⟨h0,b,s1,Yn,rfl,rfl⟩|⟨h0,rfl,rfl⟩
    ·rw[h0]at p3;simp only[l_a,List.length_singleton]at Xm;have Zc:=ah (HO.out W4 z b s1 Yn (by omega) Jm.out H4);have Xw:=ah (Jm.out.of Yn.op);clear Yn;go_wp2_with fail;refine Zc.out.mono ?_;rintro e w5 ⟨u5,rfl,Xu,h5,t5⟩;have Xc:=bK Xu Yd.out.size;have Xa:=Yd.out.trans t5;obtain⟨⟨h6,t6⟩,q1,f1⟩:=h5.less Xw.out.bd;obtain⟨W6,Xd⟩:=q_ (w5.setCell ⟨G.P,2,none⟩ (.int .i64 (s1.op-1)));rw[<-Xd]at h6 t6;have Ye:=ah (az Xc t6 (fun k hk=>by rw[hk];exact Js.out.1));have Ya:=ah (Xa.trans t6);have H6:=ah h6;have Yj: -8000000<=s1.op/\s1.op<=8000000:=Xw.out.bd;obtain⟨W9,Jl⟩:=q_ (W6.alloc (.cells #[.int .i64 6,.int .i64 (k:Int),.string ⟨#[]⟩] 48));obtain⟨B9,Jo⟩:=q_ W6.heap.size;have Jk:Bl W6 W9:=by rw[Jl];exact r_.alloc n_ _
     have Ju:Hid (aF w.heap.size W9 (u5) (b)):=aF.below Ye.out Jk;have Xf:Hid (ax W9 (.slice (some ⟨B9,0,none⟩) 1 1) [⟨6,(k:Int),tx []⟩]):=by rw[Jl,Jo];exact(aQ W6 0 y_ _ _ _).nodes
     have H9:=ah (H6.out.below Jk);have Jx:=ah (Ya.out.of_below Jk);have Xe:w.heap.size<=W9.heap.size:=Jx.out.size;have Yf:=ah Xd;have Xg:=ah Jl;have Xl:=ah Jo;clear Xd Jl Jo Jk h6 t6 h5 Xc Xa;go_upto_region 11 with fail;rw[<-Yf.out];go_wp2_with(at_builtin;rw[<-Xg.out,<-Xl.out];refine cu rfl _ _ rfl w.heap.size _ _ rfl Ju.out _ _ rfl Xf.out (by first|(simp;omega)|simp) Xe ?_;intro u9 w9 h9 g9;have Jv:=ah (aN.gr H9.out Js.out.1 Js.out.2 Jx.out Ju.out g9);have Xh:=ah h9;clear h9 g9)
     go_ret;exact⟨_,rfl,Xh,Jv.out.1,Jv.out.2⟩
    ·have h5:=H4.out;have Xc:=Zg.out;have Xa:=Yd.out;obtain⟨⟨h6,t6⟩,q1,f1⟩:=h5.less Jm.out.bd;obtain⟨W6,Xd⟩:=q_ (W4.setCell ⟨G.P,2,none⟩ (.int .i64 (z.op-1)));rw[<-Xd]at h6 t6;have Ye:=ah (az Xc t6 (fun k hk=>by rw[hk];exact Js.out.1));have Ya:=ah (Xa.trans t6);have H6:=ah h6;have Yj: -8000000<=z.op/\z.op<=8000000:=Jm.out.bd;obtain⟨W9,Jl⟩:=q_ (W6.alloc (.cells #[.int .i64 6,.int .i64 (k:Int),.string ⟨#[]⟩] 48));obtain⟨B9,Jo⟩:=q_ W6.heap.size;have Jk:Bl W6 W9:=by rw[Jl];exact r_.alloc n_ _
     have Ju:=ah (aF.below Ye.out Jk);have Xf:Hid (ax W9 (.slice (some ⟨B9,0,none⟩) 1 1) [⟨6,(k:Int),tx []⟩]):=by rw[Jl,Jo];exact(aQ W6 0 y_ _ _ _).nodes
     have H9:=ah (H6.out.below Jk);have Jx:=ah (Ya.out.of_below Jk);have Xe:w.heap.size<=W9.heap.size:=Jx.out.size;have Yf:=ah Xd;have Xg:=ah Jl;have Xl:=ah Jo;clear Xd Jl Jo Jk h6 t6 h5 Xc Xa;go_upto_region 11 with fail;rw[<-Yf.out];go_wp2_with(at_builtin;rw[<-Xg.out,<-Xl.out];refine cu rfl _ _ rfl w.heap.size _ _ rfl Ju.out _ _ rfl Xf.out (by first|(simp;omega)|simp) Xe ?_;intro u9 w9 h9 g9;have Jv:=ah (aN.gr H9.out Js.out.1 Js.out.2 Jx.out Ju.out g9);have Xh:=ah h9;clear h9 g9)
     go_ret;exact⟨_,rfl,Xh,Jv.out.1,Jv.out.2⟩
  ·obtain rfl:k=3:=by omega
   rcases Jw.out with⟨j,hj,h1,-⟩|⟨-,Y_⟩
   ·exfalso
    have:=Xo j hj
    rw[h1]at this;cases this
   ·clear Jw Xo Yb HX hx;have hT:am (fun k=>k=G.P) w wr:=hb.tcs;clear hb;rcases Y_ with⟨hi,Yq⟩|⟨hi,hn,rfl,rfl⟩|⟨hi,hn,h0,h2,rfl,rfl⟩|⟨hi,hn,Zd,Yp⟩
    ·have Jz:=jC Yq;have Jm:=ah (Jy.out.on (T:=G.T) [40]);clear Yq;go_wp2_with fail;refine(aE hZ [40]).mono ?_;rintro e w2 ⟨rfl,Jd⟩;rw[hi];have Ji:=aN.below hZ Jd;have Jp:=am.of_below hT Jd;clear Jd;go_wp2_with fail;refine(d8 HL.out Ji Jy.out.bd [40]).mono ?_;rintro e w3 ⟨rfl,h3,t3⟩;generalize bA G.T [40] s=z at*;obtain⟨W4,Jr⟩:=q_ (w3.alloc (.cells #[] 48));obtain⟨B4,Xi⟩:=q_ w3.heap.size;have Xk:=Jp.trans t3;have Jt:Bl w3 W4:=by rw[Jr];exact r_.alloc n_ _
     have Xy:aF w.heap.size W4 (.slice (some ⟨B4,0,none⟩) 0 0) []:=by rw[Jr,Xi];exact cE w3 _ Xk.size
     have h4:=h3.below Jt;have p3:W4.cell? ⟨G.P,3,none⟩=some (.int .i64 z.er):=(h4.box 3 _ rfl).1;have Jn:=Xk.of_below Jt;have Xr:=ah Jr;have Yl:=ah Xi;clear h3 t3 Xk Jt Jr Xi;go_upto_region 15 with fail;rw[<-Xr.out,<-Yl.out];rcases Jz with⟨h0,rfl,rfl⟩|⟨h0,s1,Yr,rfl⟩
     ·go_wp2_with fail;refine(dG HL.out h4 Jm.out.bd [41]).mono ?_;rintro e w6 ⟨rfl,h6,t6⟩;have HF:Hid (su G w [] (cO G.T [41] z) (.returned (.slice (some ⟨B4,0,none⟩) 0 0)) w6):=⟨_,rfl,az Xy t6 (fun k hk=>by rw[hk];exact Js.out.1),h6,Jn.trans t6⟩;clear h6 t6;go_wp2;go_ret;exact HF
     ·rw[h0]at p3;have Zk:=Jm.out.of Yr.op;go_wp2_with fail;refine(HE.out W4 1 z a s1 Yr Xm Jm.out h4).mono ?_;rintro e w5 ⟨u5,rfl,Xu,h5,t5⟩;have Xc:=bK Xu Jn.size;have Xa:=Jn.trans t5;clear Xu t5;go_wp2_with fail;refine(dG HL.out h5 Zk.bd [41]).mono ?_;rintro e w6 ⟨rfl,h6,t6⟩;have HF:Hid (su G w a (cO G.T [41] s1) (.returned u5) w6):=⟨_,rfl,az Xc t6 (fun k hk=>by rw[hk];exact Js.out.1),h6,Xa.trans t6⟩;clear h6 t6;go_wp2;go_ret;exact HF
    ·go_wp2_with fail;refine(aE hZ [40]).mono ?_;rintro e w2 ⟨rfl,Jd⟩;rw[hi];have Ji:=aN.below hZ Jd;have Jp:=am.of_below hT Jd;clear Jd;go_wp2_with fail;refine(aE Ji [105,110]).mono ?_;rintro e w3 ⟨rfl,Jh⟩;rw[hn];have Jf:=aN.below Ji Jh;have Jq:=am.of_below Jp Jh;clear Jh;have Yc:=fQ HL.out Jf.wf hn;obtain⟨h6,q1,f1,Zq⟩:=Jf.adv Yc;obtain⟨W4,Jr⟩:=q_ (w3.setCell ⟨G.P,1,none⟩ (.int .i64 ((s.i:Int)+1)));rw[<-Jr]at h6;have Jn:=Jq.trans h6.2;have h4:=h6.1;have Xr:=ah Jr;have Xw:=ah ((Jy.out.of (s1:=s.ad) rfl).on (T:=G.T) [40]);have Zj:=ah (Jy.out.of (s1:=s.ad) rfl);clear h6 Jr;go_upto_region 21 with fail;rw[<-Xr.out];go_wp2_with fail;refine(d8 HL.out h4 Zj.out.bd [40]).mono ?_;rintro e w5 ⟨rfl,h5,t5⟩;generalize bA G.T [40] s.ad=z at*;have Xa:=Jn.trans t5;clear t5;go_wp2_with fail;refine(dG HL.out h5 Xw.out.bd [41]).mono ?_;rintro e w6 ⟨rfl,h6,t6⟩;have HF:=ah (kH h6 (Xa.trans t6) 5 0 (tx []));clear h6 t6;go_wp2;go_ret;exact HF
    ·go_wp2_with fail;refine(aE hZ [40]).mono ?_;rintro e w2 ⟨rfl,Jd⟩;rw[hi];have Ji:=aN.below hZ Jd;have Jp:=am.of_below hT Jd;clear Jd;go_wp2_with fail;refine(aE Ji [105,110]).mono ?_;rintro e w3 ⟨rfl,Jh⟩;rw[hn];have Jf:=aN.below Ji Jh;have Jq:=am.of_below Jp Jh;clear Jh;have p3:w3.cell? ⟨G.P,3,none⟩=some (.int .i64 0):=by rw[<-h0];exact(Jf.box 3 _ rfl).1
     have Xz:=ah (d7 Jf);have Yh:=fun W=>kX (G.T s.i) 0 _ rfl (by decide) W;simp only[h2]at Yh;go_wp2_with fail;refine Xz.out.mono ?_;rintro e w4 ⟨rfl,Jt⟩;have Zh:=Jf.below Jt;have Jn:=Jq.of_below Jt;clear Jt;go_wp2_with fail;refine(oQ HL.out Zh).mono ?_;rintro e w5 ⟨rfl,h5,t5⟩;have en:fZ G.T s=((G.T s.i).num,s.ad):=by unfold fZ;rw[if_pos ⟨h0,h2⟩]
     rw[en]at h5⊢;have HF:=ah (kH h5 (Jn.trans t5) 1 (G.T s.i).num (tx []));clear h5 t5 en Xz;go_wp2;go_ret;exact HF
    ·have Xb:(aS G.T s).2.op=s.op:=na_op s;go_wp2_with fail;refine(aE hZ [40]).mono ?_;rintro e w2 ⟨rfl,Jd⟩;rw[hi];have Ji:=aN.below hZ Jd;have Jp:=am.of_below hT Jd;clear Jd;go_wp2_with fail;refine(aE Ji [105,110]).mono ?_;rintro e w3 ⟨rfl,Jh⟩;rw[hn];have Jf:=aN.below Ji Jh;have Jq:=am.of_below Jp Jh;clear Jh;have p3:w3.cell? ⟨G.P,3,none⟩=some (.int .i64 s.er):=(Jf.box 3 _ rfl).1;by_cases h0:s.er=0
     ·have Zi:¬(G.T s.i).kind=2:=fun e=>Zd ⟨h0,e⟩;rw[h0]at p3;have Xz:=ah (d7 Jf);have Yh:=fun W=>kX (G.T s.i) 0 _ rfl (by decide) W;generalize (G.T s.i).kind=tkd at Yh Zi;go_wp2_with fail;refine Xz.out.mono ?_;rintro e wt ⟨rfl,Yo⟩;have Zm:=Jf.below Yo;have Zl:=Jq.of_below Yo;clear Yo;go_wp2_with fail;refine(dv HL.out Zm).mono ?_;rintro e w4 ⟨rfl,h4,t4⟩;have Jn:=am.trans Zl t4;clear t4;rcases Yp with⟨hc,b,Xt,rfl⟩|⟨hc,hd,Yi⟩|⟨hc,hd,rfl,rfl⟩
      ·have Xj:=ah (Jy.out.le (Nat.le_succ n) |>.of Xb);generalize (aS G.T s).1=nm at*;generalize (aS G.T s).2=z at*;go_wp2_with fail;refine(aE h4 [91]).mono ?_;rintro e w5 ⟨rfl,Ja⟩;rw[hc];have Jb:=aN.below h4 Ja;have Je:=am.of_below Jn Ja;clear Ja;go_wp2_with fail;simp only[l_a,List.length_singleton]at Xm;refine(Yt.out w5 z b s' Xt (by omega) Xj.out Jb).mono ?_;rintro e w6 ⟨u6,rfl,Xp,h6,t6⟩;have Xn:=bK Xp Je.size;have Xs:=Je.trans t6;clear Xp t6 Jb Je Xt;obtain⟨W9,Jl⟩:=q_ (w6.alloc (.cells #[.int .i64 3,.int .i64 0,.string nm] 48));obtain⟨B9,Jo⟩:=q_ w6.heap.size;have Jk:Bl w6 W9:=by rw[Jl];exact r_.alloc n_ _
       have Ju:Hid (aF w.heap.size W9 u6 b):=aF.below Xn Jk;have Xf:Hid (ax W9 (.slice (some ⟨B9,0,none⟩) 1 1) [⟨3,0,nm⟩]):=by rw[Jl,Jo];exact(aQ w6 0 y_ _ _ _).nodes
       have H9:=ah (h6.below Jk);have Jx:=ah (Xs.of_below Jk);have Xe:w.heap.size<=W9.heap.size:=Jx.out.size;have Xg:=ah Jl;have Xl:=ah Jo;clear Jl Jo Jk h6 Xn Xs;go_wp2_with(at_builtin;rw[<-Xg.out,<-Xl.out];refine cu rfl _ _ rfl w.heap.size _ _ rfl Ju.out _ _ rfl Xf.out (by simp;omega) Xe ?_;intro u9 w9 h9 g9;have Jv:=ah (aN.gr H9.out Js.out.1 Js.out.2 Jx.out Ju.out g9);have Xh:=ah h9;clear h9 g9)
       go_ret;exact⟨_,rfl,Xh,Jv.out.1,Jv.out.2⟩
      ·have Xj:=ah (Jy.out.le (Nat.le_succ n) |>.of Xb);generalize (aS G.T s).1=nm at*;generalize (aS G.T s).2=z at*;go_wp2_with fail;refine(aE h4 [91]).mono ?_;rintro e w5 ⟨rfl,Ja⟩;rw[hc];have Jb:=aN.below h4 Ja;have Je:=am.of_below Jn Ja;clear Ja;go_wp2_with fail;refine(aE Jb [40]).mono ?_;rintro e w6 ⟨rfl,Jc⟩;rw[hd];have Jj:=aN.below Jb Jc;have Jg:=am.of_below Je Jc;clear Jc;go_wp2_with fail;refine(HA.out w6 nm z a s' Yi Xm Xj.out Jj).mono ?_;rintro e w7 ⟨u7,rfl,Xq,h7,t7⟩;have HF:Hid (su G w a s' (.returned u7) w7):=⟨_,rfl,bK Xq Jg.size,h7,Jg.trans t7⟩;clear Xq h7 t7;go_wp2;go_ret;exact HF
      ·generalize (aS G.T s).1=nm at*;generalize (aS G.T s).2=z at*;go_wp2_with fail;refine(aE h4 [91]).mono ?_;rintro e w5 ⟨rfl,Ja⟩;rw[hc];have Jb:=aN.below h4 Ja;have Je:=am.of_below Jn Ja;clear Ja;go_wp2_with fail;refine(aE Jb [40]).mono ?_;rintro e w6 ⟨rfl,Jc⟩;rw[hd];have Jj:=aN.below Jb Jc;have Jg:=am.of_below Je Jc;clear Jc;have HF:=ah (kH Jj Jg 2 0 nm);clear Jj Jg;go_wp2;go_ret;exact HF
     ·go_wp2_with fail;refine(dv HL.out Jf).mono ?_;rintro e w4 ⟨rfl,h4,t4⟩;have Jn:=am.trans Jq t4;clear t4;rcases Yp with⟨hc,b,Xt,rfl⟩|⟨hc,hd,Yi⟩|⟨hc,hd,rfl,rfl⟩
      ·have Xj:=ah (Jy.out.le (Nat.le_succ n) |>.of Xb);generalize (aS G.T s).1=nm at*;generalize (aS G.T s).2=z at*;go_wp2_with fail;refine(aE h4 [91]).mono ?_;rintro e w5 ⟨rfl,Ja⟩;rw[hc];have Jb:=aN.below h4 Ja;have Je:=am.of_below Jn Ja;clear Ja;go_wp2_with fail;simp only[l_a,List.length_singleton]at Xm;refine(Yt.out w5 z b s' Xt (by omega) Xj.out Jb).mono ?_;rintro e w6 ⟨u6,rfl,Xp,h6,t6⟩;have Xn:=bK Xp Je.size;have Xs:=Je.trans t6;clear Xp t6 Jb Je Xt;obtain⟨W9,Jl⟩:=q_ (w6.alloc (.cells #[.int .i64 3,.int .i64 0,.string nm] 48));obtain⟨B9,Jo⟩:=q_ w6.heap.size;have Jk:Bl w6 W9:=by rw[Jl];exact r_.alloc n_ _
       have Ju:Hid (aF w.heap.size W9 u6 b):=aF.below Xn Jk;have Xf:Hid (ax W9 (.slice (some ⟨B9,0,none⟩) 1 1) [⟨3,0,nm⟩]):=by rw[Jl,Jo];exact(aQ w6 0 y_ _ _ _).nodes
       have H9:=ah (h6.below Jk);have Jx:=ah (Xs.of_below Jk);have Xe:w.heap.size<=W9.heap.size:=Jx.out.size;have Xg:=ah Jl;have Xl:=ah Jo;clear Jl Jo Jk h6 Xn Xs;go_wp2_with(at_builtin;rw[<-Xg.out,<-Xl.out];refine cu rfl _ _ rfl w.heap.size _ _ rfl Ju.out _ _ rfl Xf.out (by simp;omega) Xe ?_;intro u9 w9 h9 g9;have Jv:=ah (aN.gr H9.out Js.out.1 Js.out.2 Jx.out Ju.out g9);have Xh:=ah h9;clear h9 g9)
       go_ret;exact⟨_,rfl,Xh,Jv.out.1,Jv.out.2⟩
      ·have Xj:=ah (Jy.out.le (Nat.le_succ n) |>.of Xb);generalize (aS G.T s).1=nm at*;generalize (aS G.T s).2=z at*;go_wp2_with fail;refine(aE h4 [91]).mono ?_;rintro e w5 ⟨rfl,Ja⟩;rw[hc];have Jb:=aN.below h4 Ja;have Je:=am.of_below Jn Ja;clear Ja;go_wp2_with fail;refine(aE Jb [40]).mono ?_;rintro e w6 ⟨rfl,Jc⟩;rw[hd];have Jj:=aN.below Jb Jc;have Jg:=am.of_below Je Jc;clear Jc;go_wp2_with fail;refine(HA.out w6 nm z a s' Yi Xm Xj.out Jj).mono ?_;rintro e w7 ⟨u7,rfl,Xq,h7,t7⟩;have HF:Hid (su G w a s' (.returned u7) w7):=⟨_,rfl,bK Xq Jg.size,h7,Jg.trans t7⟩;clear Xq h7 t7;go_wp2;go_ret;exact HF
      ·generalize (aS G.T s).1=nm at*;generalize (aS G.T s).2=z at*;go_wp2_with fail;refine(aE h4 [91]).mono ?_;rintro e w5 ⟨rfl,Ja⟩;rw[hc];have Jb:=aN.below h4 Ja;have Je:=am.of_below Jn Ja;clear Ja;go_wp2_with fail;refine(aE Jb [40]).mono ?_;rintro e w6 ⟨rfl,Jc⟩;rw[hd];have Jj:=aN.below Jb Jc;have Jg:=am.of_below Je Jc;clear Jc;have HF:=ah (kH Jj Jg 2 0 nm);clear Jj Jg;go_wp2;go_ret;exact HF
end
section
open Go.RowKit
theorem xi{G:GT}(hL:ft G.T G.K):∀n:Nat,OpC G n/\l9 G n/\AY G n/\DW G n/\wZ G n
 | 0=>⟨fun _ _ _ _ h=>(by cases h using Pa_i),fun _ _ _ _ _ h=>(by cases h using Pa_i),fun _ _ _ _ h=>(by cases h using Pa_i),fun _ _ _ _ h=>(by cases h using Pa_i),fun _ _ _ _ _ h=>(by cases h using Pa_i)⟩
 | n+1=>by
  obtain⟨h1,h2,h3,h4,h5⟩:=xi hL n;exact⟨xh hL h1 h2 h3 h4 h5,wW hL h1 h2,wY hL h2,wX hL h2,w_ hL h2⟩
end
section
open Go.RowKit
variable{e:List Nd}{L g len cap q K:Nat}{a:Option Addr}{S:Nat->Prop}{w:World}
theorem bI.e3(h:bI e L)(hl:L<=3000):bI e 3000:=h.more hl
theorem dK{w2:World}{G2:Gn}{ve vf:Value}{f:List Nd}(kd th el:Int)(nm:ByteArray)(h2:GS g a len cap q S w2 G2 (K+L))(ht:am (Sq g q) w w2)(hE:∀W,am (fun k=>k<w.heap.size) w2 W->ax W ve e)(hF:∀W,am (fun k=>k<w.heap.size) w2 W->ax W vf f)(oe:bI e 3000)(of':bI f 3000)(on:nm.size<=100000)(hL:1<=L):
  kG g a len cap q S K L 1 w (.slice (some ⟨w2.heap.size,0,none⟩) 1 1) (w2.alloc (.cells #[.int .i64 kd,.string nm,ve,vf,.int .i64 th,.int .i64 el] 46)):=
 ⟨_,G2,(jW ht.size hE hF oe of' on).more hL,n_,h2.add (h2.alloc _) ((am.refl _ _).alloc _) (fun k hk=>by simp[Value.ownBlock]at hk;subst hk;simp),ht.alloc _⟩
theorem GS.strs{G:Gn}(h:GS g a len cap q S w G K):∃a c,G.vs=.slice a G.ss.length c:=by
 obtain⟨a,c,e,-⟩:=h.ok.s w (am.refl _ _);exact⟨a,c,e⟩
theorem zT(g:Nat)(a:Option Addr)(len cap q:Nat)(hl:len<=1048576)(S:Nat->Prop)(G:Gn)(K L:Nat)(Ju:1<=L)(w:World)(h:GS g a len cap q S w G K)(hK:K<=50000):
  Calls prog 161 #[.pointer (some ⟨g,0,none⟩),.pointer (some ⟨q,0,none⟩)] w fun e w'=>∃v,e=.returned v/\kG g a len cap q S K L 1 w v w':=by
 have HG:=ah h;obtain⟨av,cv,hv⟩:=h.strs;have HV:=ah hv;obtain⟨sl,Js⟩:=q_ G.ss.length;have Jn:=ah Js;have Jz:sl<=K:=by rw[Js];exact h.ok.sl
 have Jr:S0 g g:=rfl;clear h hv Js;go_enter func161,ntmps161;go_wp2_with fail;refine(eh g a len cap (S0 g) [⟨#[103]⟩,⟨#[104]⟩] _ _ hl Jr (HG.out.alloc _).cur (jh _ _ 2 rfl rfl (by decide) HG.out.lo0.s) (by decide)).mono ?_;rintro e w1 ⟨nm,hn,rfl,Jw⟩;have Jj:Hid (GS g a len cap q S w1 G K):=(HG.out.alloc _).dr Jw;have Jo:Hid (am (Sq g q) w w1):=((am.refl _ _).alloc _).trans (Jw.tcs.mono iX);have Jq:Hid (nm.size<=100000):=by
  show _<=_;simp at hn;rcases hn with rfl|rfl <;> decide
 have c2:w1.cell? ⟨q,2,none⟩=some (.slice av sl cv):=by have:=Jj.out.box.c2;rw[HV.out,<-Jn.out]at this;exact this
 by_cases hs:0<sl
 rotate_left 1
 ·have Jx:¬(0:Int)<(sl:Int):=by omega
  have c3:=Jj.out.box.c3;go_wp2_with fail;generalize w1=wx at*;generalize nm=nx at*;have Jb:Hid (GS g a len cap q S wx G K):=Jj.out;have Jm:Hid (am (Sq g q) w wx):=Jo.out;have Jl:Hid (nx.size<=100000):=Jq.out;clear Jj Jo Jq c2;all_goals (
   have Jd:G.ls.length<=10000000:=t_ Jb.out.ok.ll (by omega);refine(lj G.ls G.vl nx wx Jd (Jb.out.ok.l wx (am.refl _ _))).mono ?_;rintro e w4 ⟨rfl,Jg⟩;have Ja:Hid (GS g a len cap q S w4 G K):=Jb.out.below Jg;have Ji:Hid (am (Sq g q) w w4):=Jm.out.of_below Jg;have x0:=Ja.out.box.c0;have x1:=Ja.out.box.c1;have x2:=Ja.out.box.c2;have x3:=Ja.out.box.c3;have x4:=Ja.out.box.c4;generalize qb G.ls nx=bb;cases bb
   all_goals (
    go_wp2_with fail;refine(dJ g a len cap (S0 g) G K w4 hl Ja.out.lo0 Ja.out.cur Ja.out.ok0 hK).mono ?_;rintro e w5 ⟨u5,e5,rfl,Jf,Jk,Je⟩;obtain⟨a5,c5,rfl,-⟩:=au Jf;have HF:=fun (nm:ByteArray) (on:nm.size<=100000)=>dK (L:=L) 2 0 0 nm ((Ja.out.dr Je).more (Nat.le_add_right _ _)) (Ji.out.trans (Je.tcs.mono iX)) (bC Jf Ji.out.size) (fun W _=>aM W) (Jk.e3 (by omega)) (bI.nil.more y_) on Ju;have Jc:=ah HF;clear HF Jf Jk Je x0 x1 x2 x3 x4;generalize e5.length=l5 at Jc⊢;go_wp2;go_ret;first
    | exact⟨_,rfl,Jc.out _ Jl⟩
    | exact⟨_,rfl,Jc.out _ (by decide)⟩))
 ·have Jx:(0:Int)<(sl:Int):=by omega
  go_wp2_with fail;refine(aI g a len cap (S0 g) _ _ hl Jr Jj.out.cur (by omega)).mono ?_;rintro e w2 ⟨y,rfl,hy,Jv⟩;have Jh:Hid (GS g a len cap q S w2 G K):=Jj.out.dr Jv;have Jt:Hid (am (Sq g q) w w2):=Jo.out.trans (Jv.tcs.mono iX);have Jy:w2.cell? ⟨q,2,none⟩=some (.slice av sl cv):=by have:=Jh.out.box.c2;rw[HV.out,<-Jn.out]at this;exact this
  by_cases hy0:0<y
  ·go_wp2_with fail;have HP:Hid (∀W,am (S0 g) w2 W->Strs W (.slice av sl cv) G.ss):=fun W hW=>by have:=Jh.out.ok0.s W hW;rw[HV.out,<-Jn.out]at this;exact this
   refine(eh g a len cap (S0 g) G.ss _ w2 hl Jr Jh.out.cur HP.out ⟨by rw[<-Jn.out];omega,by rw[<-Jn.out];omega⟩).mono ?_;rintro e wx ⟨nx,hn,rfl,Jp⟩;have Jb:Hid (GS g a len cap q S wx G K):=Jh.out.dr Jp;have Jm:Hid (am (Sq g q) w wx):=Jt.out.trans (Jp.tcs.mono iX);have Jl:Hid (nx.size<=100000):=Jh.out.ok.ns.2.1 nx hn;have c3:=Jb.out.box.c3;clear Jp hn Jy HP Jh Jt Jj Jo;go_wp2_with fail;all_goals (
    have Jd:G.ls.length<=10000000:=t_ Jb.out.ok.ll (by omega);refine(lj G.ls G.vl nx wx Jd (Jb.out.ok.l wx (am.refl _ _))).mono ?_;rintro e w4 ⟨rfl,Jg⟩;have Ja:Hid (GS g a len cap q S w4 G K):=Jb.out.below Jg;have Ji:Hid (am (Sq g q) w w4):=Jm.out.of_below Jg;have x0:=Ja.out.box.c0;have x1:=Ja.out.box.c1;have x2:=Ja.out.box.c2;have x3:=Ja.out.box.c3;have x4:=Ja.out.box.c4;generalize qb G.ls nx=bb;cases bb
    all_goals (
     go_wp2_with fail;refine(dJ g a len cap (S0 g) G K w4 hl Ja.out.lo0 Ja.out.cur Ja.out.ok0 hK).mono ?_;rintro e w5 ⟨u5,e5,rfl,Jf,Jk,Je⟩;obtain⟨a5,c5,rfl,-⟩:=au Jf;have HF:=fun (nm:ByteArray) (on:nm.size<=100000)=>dK (L:=L) 2 0 0 nm ((Ja.out.dr Je).more (Nat.le_add_right _ _)) (Ji.out.trans (Je.tcs.mono iX)) (bC Jf Ji.out.size) (fun W _=>aM W) (Jk.e3 (by omega)) (bI.nil.more y_) on Ju;have Jc:=ah HF;clear HF Jf Jk Je x0 x1 x2 x3 x4;generalize e5.length=l5 at Jc⊢;go_wp2;go_ret;first
     | exact⟨_,rfl,Jc.out _ Jl⟩
     | exact⟨_,rfl,Jc.out _ (by decide)⟩))
  ·have c3:=Jh.out.box.c3;go_wp2_with fail;generalize w2=wx at*;generalize nm=nx at*;have Jb:Hid (GS g a len cap q S wx G K):=Jh.out;have Jm:Hid (am (Sq g q) w wx):=Jt.out;have Jl:Hid (nx.size<=100000):=Jq.out;all_goals (
    have Jd:G.ls.length<=10000000:=t_ Jb.out.ok.ll (by omega);refine(lj G.ls G.vl nx wx Jd (Jb.out.ok.l wx (am.refl _ _))).mono ?_;rintro e w4 ⟨rfl,Jg⟩;have Ja:Hid (GS g a len cap q S w4 G K):=Jb.out.below Jg;have Ji:Hid (am (Sq g q) w w4):=Jm.out.of_below Jg;have x0:=Ja.out.box.c0;have x1:=Ja.out.box.c1;have x2:=Ja.out.box.c2;have x3:=Ja.out.box.c3;have x4:=Ja.out.box.c4;generalize qb G.ls nx=bb;clear Jg c3;cases bb
    all_goals (
     go_wp2_with fail;refine(dJ g a len cap (S0 g) G K w4 hl Ja.out.lo0 Ja.out.cur Ja.out.ok0 hK).mono ?_;rintro e w5 ⟨u5,e5,rfl,Jf,Jk,Je⟩;obtain⟨a5,c5,rfl,-⟩:=au Jf;have HF:=fun (nm:ByteArray) (on:nm.size<=100000)=>dK (L:=L) 2 0 0 nm ((Ja.out.dr Je).more (Nat.le_add_right _ _)) (Ji.out.trans (Je.tcs.mono iX)) (bC Jf Ji.out.size) (fun W _=>aM W) (Jk.e3 (by omega)) (bI.nil.more y_) on Ju;have Jc:=ah HF;generalize e5.length=l5 at Jc⊢;go_wp2;go_ret;first
     | exact⟨_,rfl,Jc.out _ Jl⟩
     | exact⟨_,rfl,Jc.out _ (by decide)⟩))
end
section
variable{p q:Lm}{x s:List UInt8}{a b:List Lm}{n:Nd}
def hP(ps:List Lm)(c:Bool):List Lm:=if c then sy [40]::(ps++[sy [41]])else ps
def jj(P:Nat->List Lm):Nat->Nat->List Lm
 | _,0=>[]
 | i,1=>P i
 | i,m+2=>P i++[sy [44],bk [32]]++jj P (i+1) (m+1)
def Eq(n:Nd)(A:Nat)(P:Nat->List Lm)(R:Nat->Int):List Lm:=
 if n.kind=1 then[nu n.val]
 else if n.kind=2 then[wd n.name.data.toList]
 else if n.kind=3 then[wd n.name.data.toList,sy [91]]++P 0++[sy [93]]
 else if n.kind=4 then[wd n.name.data.toList,sy [40]]++jj P 0 A++[sy [41]]
 else if n.kind=5 then[wd [105,110],sy [40],sy [41]]
 else if n.kind=6 then sy (unTab.getD n.val.toNat [])::hP (P 0) (decide (R 0<11))
 else hP (P 0) (decide (R 0<strN n))++[bk [32],sy (wordN n),bk [32]]++hP (P 1) (decide (R 1<=strN n))
structure yQC(Q:List Nd→List Lm→Prop):Prop where
 c_::
 mk(e:List Nd)(A:Nat)(b:Nat->Nat)(P:Nat->List Lm):Cut e A b→(∀i,i<A->Q (bH e b i) (P i))→Q e (Eq (ay e) A P (fun i=>strN (ay (bH e b i))))
structure yQ(a0:List Nd)(a1:List Lm):Prop where
 c_::
 out:∀Q,yQC Q→Q a0 a1
theorem yQ.C:yQC (yQ):=⟨fun e A b P q0 q1=>⟨fun Q h=>h.mk e A b P q0 (fun i r0=>(q1 i r0).out Q h)⟩⟩
abbrev yQ.mk:=(yQ.C:yQC _).mk
theorem yQ_i{M:∀(a0:List Nd)(a1:List Lm),yQ a0 a1→Prop}
 (mk:∀(e:List Nd)(A:Nat)(b:Nat->Nat)(P:Nat->List Lm),Cut e A b→∀q1:∀i,i<A->yQ (bH e b i) (P i),(∀ i (r0 : i<A),M (bH e b i) (P i) (q1 i r0))→∀t,M e (Eq (ay e) A P (fun i=>strN (ay (bH e b i)))) t)
 {a0:List Nd}{a1:List Lm}(t:yQ a0 a1):M a0 a1 t:=
 (t.out (fun a0 a1=>∃z_,M a0 a1 z_) ⟨fun e A b P q0 q1=>⟨.mk e A b P q0 (fun i r0=>(q1 i r0).1),mk e A b P q0 _ (fun i r0=>(q1 i r0).2) _⟩⟩).2
def Dn(p:Lm):Prop:=p.k≠0/\p.x.head? ≠ some 61
def Er(p:Lm):Prop:=p.k=1∨p.k=2∨p=sy [41]∨p=sy [93]
structure xj (ps:List Lm) (s:List UInt8):Prop where
 tx:tL ps=s
 ch:Ch ps
 hd:∃p,ps.head? =some p/\Dn p
 la:∃p,ps.getLast? =some p/\Er p
theorem jk(h:Er p)(hq:q.k=0∨q.k=3):uW p q:=by
 intro h0 h1;rcases h with h|h|rfl|rfl
 ·exact⟨by omega,fun h=>by omega⟩
 ·exact⟨by omega,fun h=>by omega⟩
 ·exact⟨.inl rfl,fun _=>.inl (by decide)⟩
 ·exact⟨.inl rfl,fun _=>.inl (by decide)⟩
theorem gQ(h:(x.head?.map mJ).getD false=false∨x=[33])(hq:Dn q):uW (sy x) q:=
 fun _ _=>⟨.inl rfl,fun _=>h.imp id (fun h=>⟨h,hq.2⟩)⟩
theorem sep_bk:uW (bk x) q:=fun h=>absurd rfl h
theorem sep_kb:uW p (bk x):=fun _ h=>absurd rfl h
theorem cm(ha:Ch a)(hb:Ch b)(hp:a.getLast? =some p)(hq:b.head? =some q)(h:uW p q):Ch (a++b):=
 lC a b ha hb (fun p' q' h1 h2=>by
  rw[hp]at h1;rw[hq]at h2;obtain rfl:=Option.some.inj h1;obtain rfl:=Option.some.inj h2;exact h)
theorem aU(h:b.getLast? =some p):(a++b).getLast? =some p:=by
 rw[List.getLast?_append,h];rfl
theorem cy(h:a.head? =some p):(a++b).head? =some p:=by
 rw[List.head?_append,h];rfl
theorem gX(x:List UInt8)(h:(decide (x∈ew) || decide (x∈fK.map (fun c=>[c])))=true:=by decide):(sy x).ok:=AU (by simpa using h)
theorem xj.held{ps:List Lm}(h:xj ps s)(c:Bool):xj (hP ps c) (cW s c):=by
 cases c with
 | false=>exact h
 | true=>
  obtain⟨p,hp,Ja⟩:=h.hd;obtain⟨q,hq,Jb⟩:=h.la;refine⟨?_,?_,⟨_,rfl,by simp[Dn,sy]⟩,⟨sy [41],?_,.inr (.inr (.inl rfl))⟩⟩
  ·show tL (sy [40]::(ps++[sy [41]]))=40::s++[41];rw[tL_cons,tL_app,h.tx];simp[tL,sy]
  ·exact cm (a:=[sy [40]]) (gX [40]) (cm h.ch (gX [41]) hq rfl (jk Jb (.inr rfl))) rfl (cy hp) (gQ (.inl (by decide)) Ja)
  ·exact aU (a:=sy [40]::ps) rfl
theorem pH(S:Nat->List UInt8)(P:Nat->List Lm):∀(m i:Nat),0<m->(∀j,j<i+m->tL (P j)=S j)->aA S i++(if i=0 then[]else[44,32])++tL (jj P i m)=aA S (i+m)
 | 0,i,h,_=>absurd h (Nat.lt_irrefl _)
 | 1,i,_,hS=>by
  show aA S i++_++tL (P i)=aA S (i+1);rw[hS i (by omega)];rfl
 | m+2,i,_,hS=>by
  have:=pH S P (m+1) (i+1) (by omega) (fun j hj=>hS j (by omega))
  rw[show i+(m+2)=i+1+(m+1) by omega,<-this];show aA S i++_++tL (P i++[sy [44],bk [32]]++jj P (i+1) (m+1))=aA S (i+1)++_++_;rw[tL_app,tL_app,hS i (by omega),if_neg (show ¬i+1=0 by omega)];simp[aA,tL,sy,bk]
theorem pI(S:Nat->List UInt8)(P:Nat->List Lm)(A:Nat)(h:∀j,j<A->tL (P j)=S j):tL (jj P 0 A)=aA S A:=by
 cases A with
 | zero=>rfl
 | succ A=>
  have:=pH S P (A+1) 0 (by omega) (fun j hj=>h j (by omega))
  simpa[aA]using this
theorem xk(P:Nat->List Lm):∀(m i:Nat),0<m->(∀j,i<=j->j<i+m->∃s,xj (P j) s)->Ch (jj P i m)/\(∃p,(jj P i m).head? =some p/\Dn p)/\∃p,(jj P i m).getLast? =some p/\Er p
 | 0,i,h,_=>absurd h (Nat.lt_irrefl _)
 | 1,i,_,hS=>by
  obtain⟨s,h⟩:=hS i n_ (by omega);exact⟨h.ch,h.hd,h.la⟩
 | m+2,i,_,hS=>by
  obtain⟨s,h⟩:=hS i n_ (by omega);obtain⟨c1,⟨p1,hp1,-⟩,q1,hq1,hq2⟩:=xk P (m+1) (i+1) (by omega) (fun j h1 h2=>hS j (by omega) (by omega));obtain⟨p,hp,hp2⟩:=h.hd;obtain⟨q,hq,hq3⟩:=h.la;have hb:(bk [32]).ok:=sn ⟨by simp,by decide⟩;have c2:Ch [sy [44],bk [32]]:=⟨gX [44],sep_kb,hb⟩;refine⟨cm (cm h.ch c2 hq rfl (jk hq3 (.inr rfl))) c1 (aU rfl) hp1 sep_bk,⟨p,?_,hp2⟩,q1,aU hq1,hq2⟩;show(P i++[sy [44],bk [32]]++jj P (i+1) (m+1)).head? =some p;exact cy (cy hp)
theorem gd{s:ByteArray}(h:aK s=true):OkW s.data.toList:=by
 have h:jm s:=by simpa[aK]using h
 obtain⟨h1,h2,h3,h4,-⟩:=h;have hl:s.data.toList.length=s.size:=i7 s;refine⟨fun e=>by rw[e]at hl;simp at hl;omega,by omega,?_,fun c hc=>?_⟩
 ·cases hx:s.data.toList with
  | nil=>rw[hx]at hl;simp at hl;omega
  | cons c r=>
   unfold di at h3;rw[hx]at h3;simpa[cG,cI]using h3
 ·obtain⟨j,hj,rfl⟩:=List.getElem_of_mem hc;have:=h4 j (by omega)
  unfold di at this;rw[List.getD,List.getElem?_eq_getElem hj]at this;exact this
theorem xl(p:Lm):tL [p]=p.x:=by simp[tL]
theorem zU(h:aB n=true)(hk:7<=n.kind):(sy (wordN n)).ok:=by
 have h1:wordN n∈ew∨wordN n∈fK.map (fun c=>[c]):=by
  have hg:=bL h;unfold wordN;split
  ·exact .inl (by decide)
  ·split
   ·exact .inl (by decide)
   ·have h7:=o6 h (by omega);have Ja:∀k:Fin 16,dR.getD k.val []∈ew∨dR.getD k.val []∈fK.map (fun c=>[c]):=by decide
    exact Ja ⟨n.val.toNat,by omega⟩
 exact AU h1
theorem xo(h:aB n=true)(h6:n.kind=6):0<=n.val/\n.val<=2:=by
 unfold aB at h;simp[h6]at h;omega
theorem jD(h:aB n=true)(h6:n.kind=6):n.val=0∨n.val=1∨n.val=2:=by
 have:=xo h h6;omega
theorem gR(h:aB n=true)(hk:n.kind=2∨n.kind=3∨n.kind=4):aK n.name=true:=by
 unfold aB at h;rcases hk with hk|hk|hk <;> simp[hk]at h <;> exact h.2
theorem mM{e:List Nd}(h:Pr e s)(hn:∀n∈e,n.kind=1->0<=n.val):∃ps,xj ps s/\yQ e ps:=by
 induction h using Pr_i with
 | mk e A b S hc hk ih=>
  have Jh:∀i,∀n∈bH e b i,n∈e:=fun i n h=>List.mem_of_mem_take (List.mem_of_mem_drop h);have Jj:∀i,∃ps,i<A->xj ps (S i)/\yQ (bH e b i) ps:=by
   intro i;by_cases hi:i<A
   ·obtain⟨ps,h⟩:=ih i hi (fun n h=>hn n (Jh i n h));exact⟨ps,fun _=>h⟩
   ·exact⟨[],fun h=>absurd h hi⟩
  let P:Nat->List Lm:=fun i=>(Jj i).choose
  have Jc:∀i,i<A->xj (P i) (S i)/\yQ (bH e b i) (P i):=fun i hi=>(Jj i).choose_spec hi;refine⟨_,?_,yQ.mk e A b P hc (fun i hi=>(Jc i hi).2)⟩;have hg:=hc.root_good;have Jn:=bL hg;have Ji:=hc.ar;have Jf:ay e∈e:=by rw[co e hc.len];exact g_ _
  have hR:=hn _ Jf;generalize ay e=n at*;unfold dS Eq;by_cases k1:n.kind=1
  ·rw[if_pos k1,if_pos k1];have:=zy hg k1
   exact⟨xl _,AV (hR k1) this.2,⟨_,rfl,by simp[nu],by
    have d:=(qH n.val.toNat).2.1;show(Lib.itoa n.val).head? ≠ some 61;rw[Lib.itoa,if_neg (by have:=hR k1;omega)];intro he;have:=d 61 (List.mem_of_mem_head? he)
    simp[aO,digitB,cI]at this⟩,⟨_,rfl,.inr (.inl rfl)⟩⟩
  rw[if_neg k1,if_neg k1];have Jb:∀ {x:List UInt8},OkW x->x.head? ≠ some 61:=fun h he=>by
   have:=h.2.2.1
   rw[he]at this;simp[cG,smallB,cI]at this
  by_cases k2:n.kind=2
  ·rw[if_pos k2,if_pos k2];have hw:=gd (gR hg (.inl k2));exact⟨xl _,iy hw,⟨_,rfl,by simp[wd],Jb hw⟩,⟨_,rfl,.inl rfl⟩⟩
  rw[if_neg k2,if_neg k2];by_cases k3:n.kind=3
  ·rw[if_pos k3,if_pos k3];have hw:=gd (gR hg (.inr (.inl k3)));have hA:A=1:=by simp[arity,k3]at Ji;omega
   subst hA;have h0:=(Jc 0 (by omega)).1;obtain⟨p,hp,Ja⟩:=h0.hd;obtain⟨q,hq,Jd⟩:=h0.la;refine⟨?_,?_,⟨_,rfl,by simp[wd],Jb hw⟩,⟨sy [93],aU rfl,.inr (.inr (.inr rfl))⟩⟩
   ·rw[tL_app,tL_app,h0.tx];simp[tL,wd,sy]
   ·exact cm (cm (a:=[wd n.name.data.toList,sy [91]]) ⟨iy hw,fun _ _=>⟨.inr rfl,fun h=>by simp[wd]at h⟩,gX [91]⟩ h0.ch rfl hp (gQ (.inl (by decide)) Ja)) (gX [93]) (aU hq) rfl (jk Jd (.inr rfl))
  rw[if_neg k3,if_neg k3];by_cases k4:n.kind=4
  ·rw[if_pos k4,if_pos k4];have hw:=gd (gR hg (.inr (.inr k4)));have Je:Ch [wd n.name.data.toList,sy [40]]:=⟨iy hw,fun _ _=>⟨.inr rfl,fun h=>by simp[wd]at h⟩,gX [40]⟩;refine⟨?_,?_,⟨_,rfl,by simp[wd],Jb hw⟩,⟨sy [41],aU rfl,.inr (.inr (.inl rfl))⟩⟩
   ·rw[tL_app,tL_app,pI S P A (fun j hj=>(Jc j hj).1.tx)];simp[tL,wd,sy]
   ·by_cases hA:A=0
    ·subst hA;exact cm (a:=[wd n.name.data.toList,sy [40]]) (b:=[sy [41]]) (p:=sy [40]) (q:=sy [41]) Je (gX [41]) rfl rfl (fun _ _=>⟨.inl rfl,fun _=>.inl (by decide)⟩)
    ·obtain⟨c1,⟨p,hp,Ja⟩,q,hq,Jd⟩:=xk P A 0 (by omega) (fun j _ hj=>⟨_,(Jc j (by omega)).1⟩);exact cm (cm Je c1 rfl hp (gQ (.inl (by decide)) Ja)) (gX [41]) (aU hq) rfl (jk Jd (.inr rfl))
  rw[if_neg k4,if_neg k4];by_cases k5:n.kind=5
  ·rw[if_pos k5,if_pos k5];exact⟨rfl,⟨iy ⟨by simp,by decide,by decide,by decide⟩,fun _ _=>⟨.inr rfl,fun h=>by simp[wd]at h⟩,gX [40],fun _ _=>⟨.inl rfl,fun _=>.inl (by decide)⟩,gX [41]⟩,⟨_,rfl,by simp[wd,Dn]⟩,⟨sy [41],rfl,.inr (.inr (.inl rfl))⟩⟩
  rw[if_neg k5,if_neg k5];by_cases k6:n.kind=6
  ·rw[if_pos k6,if_pos k6];have hA:A=1:=by simp[arity,k6]at Ji;omega
   subst hA;have h0:=(Jc 0 (by omega)).1.held (decide (strN (ay (bH e b 0))<11));obtain⟨p,hp,Ja⟩:=h0.hd;obtain⟨q,hq,Jd⟩:=h0.la;have hu:∀x,x=unTab.getD n.val.toNat []->(sy x).ok/\((x.head?.map mJ).getD false=false∨x=[33])/\x.head? ≠ some 61:=by
    intro x hx;rcases jD hg k6 with v|v|v <;> rw[v]at hx <;> subst hx
    ·exact⟨gX [45],.inl (by decide),by decide⟩
    ·exact⟨gX [33],.inr rfl,by decide⟩
    ·exact⟨gX [126],.inl (by decide),by decide⟩
   obtain⟨u1,u2,u3⟩:=hu _ rfl;refine⟨?_,?_,⟨_,rfl,by simp[sy],u3⟩,⟨q,aU (a:=[sy _]) hq,Jd⟩⟩
   ·rw[tL_cons,h0.tx];rfl
   ·exact cm (a:=[sy _]) u1 h0.ch rfl hp (gQ u2 Ja)
  rw[if_neg k6,if_neg k6];have hA:A=2:=by
   have:n.kind=7∨n.kind=8∨n.kind=9:=by omega
   simp[arity,k3,k4,k6,this]at Ji;omega
  subst hA;have h0:=(Jc 0 (by omega)).1.held (decide (strN (ay (bH e b 0))<strN n));have h1:=(Jc 1 (by omega)).1.held (decide (strN (ay (bH e b 1))<=strN n));obtain⟨p,hp,Ja⟩:=h0.hd;obtain⟨q,hq,Jd⟩:=h0.la;obtain⟨p',Jm,Jk⟩:=h1.hd;obtain⟨q',Jl,Jg⟩:=h1.la;have hb:(bk [32]).ok:=sn ⟨by simp,by decide⟩;refine⟨?_,?_,⟨p,cy (cy hp),Ja⟩,⟨q',aU Jl,Jg⟩⟩
  ·rw[tL_app,tL_app,h0.tx,h1.tx];simp[tL,sy,bk]
  ·exact cm (cm (b:=[bk [32],sy (wordN n),bk [32]]) h0.ch ⟨hb,sep_bk,zU hg (by omega),sep_kb,hb⟩ hq rfl sep_kb) h1.ch (aU rfl) Jm sep_bk
end
end Go.Proofs.YtlamjfhhefcohaaGreatDoor
