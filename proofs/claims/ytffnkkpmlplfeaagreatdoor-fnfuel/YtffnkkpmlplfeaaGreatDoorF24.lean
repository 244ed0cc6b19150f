import Derived.Test.YtffnkkpmlplfeaaGreatDoorF23
import Derived.Deep.Cut
namespace Go.Proofs.YtffnkkpmlplfeaaGreatDoor
open Go.Value Go.World List
open Go.Proofs.Tryz Go.RowKit
set_option linter.all false
set_option maxRecDepth 100000
set_option maxHeartbeats 0
variable[Inhabited Pick]
theorem wh(C:RC)(hC:C.Ok)(n:Nat)(IH:Bq C n)(s:St)(a b:List St)(z:ES)(r:ER)(Y:ES)(hE:Ev C.t C.fr (n+1) (.p s a b) z r Y)(I:s.kind≠3)(Jh:s.kind≠4/\s.kind≠5)(Xf:yi C.t (z.l.map Prod.fst) s)(Xg:jd C.t (z.l.map Prod.fst))(h1:aP s.e=true)(Xs:s.e.length<=1048576)(Xq:(z.o.length:Int)+z.u+1<=C.F)(Xr:z.l.length+z.u+1<=200000)
  (w:World) (vl:Int) (lb:List Nat) (U vI vO ve vf va vb:Value) (vt vu:Int) (h:RS C w 0 false vl lb U vI vO z) (Xe:aw C.w0 ve s.e) (Zd:∃fa fn fc,vf=.slice fa fn fc) (Ze:∃fa fn fc,va=.slice fa fn fc) (Zc:∃fa fn fc,vb=.slice fa fn fc):
  Calls prog 99 #[pV C.P,.agg #[V s.kind,sV s.name,ve,vf,V vt,V vu],va,vb] w λx w'=>AY C w lb U vO r Y x w':=by
 obtain⟨ea,en,ec,rfl⟩:∃ea en ec,ve=.slice ea en ec:=⟨_,_,_,Xe.choose_spec.choose_spec.1⟩;obtain⟨fa,fn,fc,rfl⟩:=Zd;obtain⟨aa,an,ac,rfl⟩:=Ze;obtain⟨ba,bn,bc,rfl⟩:=Zc;obtain⟨sk,Ju⟩:=q_ s.kind;rw[<-Ju];obtain⟨W,hW⟩:=q_ (w.alloc (.cells #[V sk,sV s.name,.slice ea en ec,.slice fa fn fc,V vt,V vu] 132));obtain⟨B,hB⟩:=q_ w.heap.size;have Jg:Bl w W:=by rw[hW];exact r_.alloc n_ _
 have Zb:B<W.heap.size:=by rw[hW,hB,World.size_alloc];omega
 have Xb:aK W B [V sk,sV s.name,.slice ea en ec,.slice fa fn fc,V vt,V vu]:=by
  rw[hW,hB];exact aH w #[V sk,sV s.name,.slice ea en ec,.slice fa fn fc,V vt,V vu] _ (by show 6<=1000;omega)
 have Xj:=h.below Jg;have Xh:∀k,fj C vO k->k<B:=λk I=>by rw[hB];exact(fj.lt h k I).1
 have Xc:∀(r1:ER) (J:ES),Ev C.t C.fr n (.e s.e) z r1 J->Calls prog 131 #[pV C.P,.slice ea en ec] W λx w'=>kg C W lb U vO r1 J x w':=λr1 J h1'=>IH s.e z r1 J h1' Xf.e Xg h1 Xs W vl lb U vI vO _ Xj Xe;obtain⟨HO,HC,Ya,Xz,HB,Za,Xv,Yh,Y_,Yv⟩:=h10 (λ(r1:ER) (J:ES) (h':Ev C.t C.fr n (.e s.e) z r1 J)=>And.intro (h'.inv h.ok trivial) h'.ou) hC Xf Xg hB Jg Xh Zb Xb Ju;have g2:=(Xb 2 _ rfl).1;have Ja:Hid (∀(w':World) (r:ER) (Y:ES) (vI' vO':Value) (vl':Int),RS C w' (gJ r) (pv r) vl' lb U vI' vO' Y->(∀v,r=.ret v->vl'=v)->ak (f_ C lb U vO) W w'->(∀k,vO'.ownBlock=some k->vO.ownBlock=some k∨W.heap.size<=k)->AY C w lb U vO r Y (rW (.tuple #[])) w'):=λw' r Y vI' vO' vl' hR hv ht ho=>⟨⟨_,rfl⟩,lb,U,vI',vO',vl',hR,hv,⟨[],i_,λb hb=>by simp at hb⟩,(Jg.tcs (S:=f_ C lb U vO)).next ht (λk I=>.inl I),λk I=>(ho k I).imp_right (λh1=>t_ Jg.size h1),λk I=>.inl I⟩;have Jc:Hid (∀(w':World) (Y:ES) (b':Nat) (vL' vI' vO':Value) (vl':Int),RS C w' 0 false vl' (lb++[b']) vL' vI' vO' Y->w.heap.size<=b'->ak (f_ C lb U vO) W w'->(∀k,vO'.ownBlock=some k->vO.ownBlock=some k∨W.heap.size<=k)->(∀k,vL'.ownBlock=some k->U.ownBlock=some k∨W.heap.size<=k)->AY C w lb U vO .on Y (rW (.tuple #[])) w'):=λw' Y b' vL' vI' vO' vl' hR hb' ht ho hl=>⟨⟨_,rfl⟩,lb++[b'],vL',vI',vO',vl',hR,(λv hv=>by cases hv),⟨[b'],rfl,λb hb=>by simp at hb;omega⟩,(Jg.tcs (S:=f_ C lb U vO)).next ht (λk I=>.inl I),λk I=>(ho k I).imp_right (λh1=>t_ Jg.size h1),λk I=>(hl k I).imp_right (λh1=>t_ Jg.size h1)⟩;have Yw:=ah hC.fu;obtain⟨Yp,Zi⟩:=h2 h (And.intro Xq Xr);rcases kW hE I with⟨c,rfl,e1⟩|⟨v,J,e1,Ji⟩
 ·have Zk:(c == 0)=false:=by rcases e1.outc c rfl with rfl|rfl <;> rfl
  have Zo:(c != 0)=true:=by rcases e1.outc c rfl with rfl|rfl <;> rfl
  have Xn:=ah (Xc _ _ e1);clear Xc HO HC Ya Xz hE hC Xf Xg IH h1 Xs Xe Xj Xh Xb h Jg e1 I Jh Ju Jc Xq Xr;go_in;go_wp2_with fail;rw[<-hW,<-hB];clear hW hB;refine Xn.out.mono ?_;rintro x w1 ⟨z0,Js,Jt,Jw,rfl,-,Jj,t1,Jq⟩;have y8:=(Jj.box 8 _ rfl).1;simp only[gJ]at y8;have HF:=ah (Ja w1 (.out c) Y Js Jt Jw Jj (λv hv=>by cases hv) ((ak.refl (f_ C lb U vO) W).next t1 (fj.up (λk I=>.inl I))) Jq);clear Jj t1 Jq;go_wp2_with fail;exact bodyPost_ret (v:=.tuple #[]) (by simp[results,results99,go_sem]) rfl HF
 ·have Xn:=ah (Xc _ _ e1);obtain⟨⟨o1,v1,s1⟩,Xo⟩:=HO _ _ e1;have Yg:J.l=z.l:=s1.2.2.2;obtain⟨Yi,HV⟩:=h2 Yg (v1 v (.inl rfl));have Jx:(J.o.length:Int)+J.u+1<=C.F:=by have:=Xo.2.1;simp only[Tk.d]at this;omega
  have Jy:J.l.length+1<=200000:=by have:=Xo.2.2;simp only[Tk.d]at this;omega
  have J_:=ah (And.intro Jx Jy);have Jn:((sk=1/\r=.on/\Y={J with l:=J.l++[(s.name,v)]})∨(sk=2/\r=.on/\Y=J.wr C.t s.name v)∨(sk=6/\r=.ret v/\Y=J)∨(sk=7/\r=.on/\Y={J with o:=J.o++[v]})∨(sk=8/\r=.on/\Y=J)):=by
   rw[Ju];rcases Ji with h|h|h|h|h|⟨h,-⟩|⟨h,-⟩
   ·exact .inl h
   ·exact .inr (.inl h)
   ·exact .inr (.inr (.inl h))
   ·exact .inr (.inr (.inr (.inl h)))
   ·exact .inr (.inr (.inr (.inr h)))
   ·exact absurd h Jh.1
   ·exact absurd h Jh.2
  clear Xc HO hE hC Xf Xg IH h1 Xs Xe Xj Xh Xb h Jg e1 I Jh Ju Xq Xr Jx Jy Xo o1 v1 s1 Yg Ji;go_in;go_wp2_with fail;rw[<-hW,<-hB];clear hW hB;refine Xn.out.mono ?_;rintro x w1 ⟨z0,Js,Jt,Jw,rfl,hz,Jj,t1,Jq⟩;obtain rfl:v=z0:=(hz v rfl).symm;clear hz;have y8:=(Jj.box 8 _ rfl).1;simp only[gJ]at y8 Jj;have Jf:=Y_.out.tcs Yh t1 (λhx=>by have:=Xv.out _ hx;omega);have Jm:=ah ((ak.refl (f_ C lb U vO) W).next t1 (fj.up (λk I=>.inl I)));have Yt:B<w1.heap.size:=l_ Yh t1.size;have Xl:=ah t1.size;have g0:=(Jf 0 _ rfl).1;have g1:=(Jf 1 _ rfl).1;obtain⟨Xm,Jo,Jb⟩:=h3 Jf Jq Jj;have Yf:∀k,fj C Jt k->f_ C lb U vO k∨W.heap.size<=k:=fj.up Jq;have Xd:=ah Yf;clear Jj t1 Jq Jf Yf;rcases Jn with⟨rfl,rfl,rfl⟩|⟨rfl,rfl,rfl⟩|⟨rfl,rfl,rfl⟩|⟨rfl,rfl,rfl⟩|⟨rfl,rfl,rfl⟩
  ·go_upto_region 5 with fail;obtain⟨W2,Xi⟩:=q_ w1.drew;have Jl:Bl w1 W2:=by rw[Xi];exact r_.drew
   have Jp:=Jb.out.below Jl;have Je:=Xm.out.below Jl;obtain⟨W3,Jr⟩:=q_ (W2.alloc (.cells #[V v] 2));obtain⟨W4,Xa⟩:=q_ (W3.alloc (.cells #[sV s.name,rV W2.heap.size 1 1] 65));obtain⟨va,vn,vc,w5,r5,Yc,⟨x5,f5⟩,t5,Xt,o5⟩:=qO s.name v Jp (Xa.trans (by rw[Jr])) J_.out.2 HV;have Jd:Bl W2 W3:=by rw[Jr];exact r_.alloc n_ _
   have Jz:Bl W2 W4:=by rw[Xa];exact Jd.alloc Jd.size _
   have Xu:W3.heap.size=W2.heap.size+1:=by rw[Jr,World.size_alloc]
   have Xk:B<W2.heap.size:=l_ Yt Jl.size;have Yr:B≠C.P:=λe=>by have:=Xv.out C.P (.inl rfl);omega
   have Yl:U.ownBlock≠some B:=λe=>by have h1:=(World.ownsRow.lt Yp.out.lrow _ e).2;have:=HB.out;omega
   have X_:W2.cell? ⟨C.P,3,none⟩=some U/\W2.cell? ⟨B,1,none⟩=some (sV s.name):=⟨(Jp.box 3 _ rfl).1,(Je 1 _ rfl).1⟩;have Xw:Hid (W3.cell? ⟨C.P,3,none⟩=some U/\W3.cell? ⟨B,1,none⟩=some (sV s.name)):=⟨((Jp.below Jd).box 3 _ rfl).1,((Je.below Jd) 1 _ rfl).1⟩;have Yu:Hid (W4.cell? ⟨C.P,3,none⟩=some U/\W4.cell? ⟨B,1,none⟩=some (sV s.name)):=⟨((Jp.below Jz).box 3 _ rfl).1,((Je.below Jz) 1 _ rfl).1⟩;have Xx:Hid (w5.cell? ⟨C.P,3,none⟩=some U/\w5.cell? ⟨B,1,none⟩=some (sV s.name)):=⟨x5,((Je.below Jz).tcs (l_ Xk Jz.size) t5 (λe=>e.elim Yr Yl) 1 _ rfl).1⟩;have HF:=ah (Jc _ _ _ _ _ _ _ Yc (by have:=Za.out.size;have:=Xl.out;have:=Jl.size;omega) ((Jm.out.of_below Jl).next Xt (λk I=>by
    rcases I with I|I|I
    ·exact Xd k I
    ·exact .inl (.inr (.inl I))
    ·exact .inl (.inr (.inr I)))) Jo (λk I=>(o5 k I).imp_right (λh1=>by have:=Xl.out;have:=Jl.size;omega)))
   obtain⟨Yn,Yo,Yz,Zl,Yq⟩:=h5 r5 Xi Xu Jr Xa;obtain⟨La,Lc,eL,-⟩:=bj Jp.lrow;subst eL;generalize hll:J.l.length=ll at*;have Ym:=ah hll;clear hll;clear Yc r5 t5 Xt o5 Jl Jd Jz Jp Je Xa Xu Yl Ja Jc Jo Xd Jm;clear Xi;have Z:=ah X_;clear X_;refine aM 14 (λX=>X.cell? ⟨C.P,3,none⟩=some (.slice La ll Lc)/\X.cell? ⟨B,1,none⟩=some (sV s.name)) k_ ?_;rw[<-Yo.out];refine tk 0 [12,13,14] Z ?_;refine tk 1 [2,3,4,11,14] Z ?_;refine tk 2 [3,4,11,14] Z ?_;refine tk 3 [4,11,14] Z ?_;refine tk 4 [11,14] Z ?_;refine tk 5 [6,9,10,11,14] Z ?_;refine tk 6 [9,10,11,14] Z ?_;refine tk 7 [8,9,10,11,14] Z ?_;clear Z;refine aq (i:=8) k_ rfl (λK hK=>?_);go_simp;rw[<-Jr];clear Jr;refine hK.out _ _ (λ_=>Xw) ?_;clear hK K;try simp only[Act.put,tA,tB,tC]
   have Z:=Xw;refine tk 9 [10,11,14] Z ?_;clear Z;refine aq (i:=10) k_ rfl (λK hK=>?_);go_simp;rw[<-Yq.out,Yz.out];refine hK.out _ _ (λ_=>Yu) ?_;clear hK K;try simp only[Act.put,tA,tB,tC]
   refine aq (i:=11) k_ rfl (λK hK=>?_);refine cJ rfl (.tmp 26) (.tmp 32) 59 rfl (.slice La ll Lc) (.slice (some ⟨W2.heap.size+1,0,none⟩) 1 1) (.slice va vn vc) w5 rfl rfl Yn ?_;refine hK.out _ _ (λ_=>Xx) ?_;clear hK K;try simp only[Act.put,tA,tB,tC]
   have Z:=Xx;refine tk 12 [13,14] Z ?_;refine tk 13 [14] Z ?_;clear Z;refine aq (i:=14) k_ rfl (λK hK=>?_);go_simp;refine hK.out _ _ (λh=>absurd rfl h) ?_;clear hK K;refine aJ k_ ?_ _;go_wp2_with fail;rw[Ym.out];exact bodyPost_end (v:=.tuple #[]) (by simp[results,results99,go_sem]) rfl HF
  ·go_wp2_with fail;have Ye:=Ya.out.set Yv.out.symm;have Xp:(J.l.map Prod.fst).Nodup:=by rw[Yi.out];exact Xz.out.1
   refine(jK s.name Jb HC Xp).mono ?_;rintro x w3 ⟨vv,rfl,hF,Jd⟩;have Jk:s.name∈J.l.map Prod.fst∨(s.name∉J.l.map Prod.fst/\0<=globI C.t.globals s.name):=by
    rw[Yi.out];exact Ye.imp_right (λh=>⟨h.1,o_⟩)
   obtain⟨bw,nw,Yk,Zj,Zg,Xy,Yb,Yd,Yy⟩:=nZ Jb HC hF Xp Jk;have Jv:=Jb.out.below Jd;have Yj:=Jv.wr HC hF Jk Yk HV;subst Yk;have Ys:=(Jd.cell (p:=⟨bw,0,none⟩) Xy).trans Yb;have Zm:=(Jd.frozen (p:=⟨bw,0,none⟩) Xy).trans Yd;have HF:=ah (Ja _ .on _ Js Jt Jw Yj (λv hv=>by cases hv) ((Jm.out.of_below Jd).setCell (p:=⟨bw,0,none⟩) (by rcases Yy with h|h;exact .inl (.inr (.inl h));exact .inr (.inl h)) _) Jo);generalize J.rd C.t s.name=q at Ys;have Zh:(0:Int)<(nw:Int):=o_;clear Yj Jv hF Jk Jd Yb Yd Ye Xp;go_wp2_with fail;exact bodyPost_end (v:=.tuple #[]) (by simp[results,results99,go_sem]) rfl HF
  ·have y9:=(Jb.out.box 9 _ rfl).1;have f9:=(Jb.out.box 9 _ rfl).2;have Zf:=(Jb.out.box 10 _ rfl).1;have Zn:=(Jb.out.box 10 _ rfl).2;have HF:=ah (Ja _ (.ret v) Y Js Jt v (Jb.out.retd v) (λv hv=>by cases hv;rfl) ((Jm.out.setCell (p:=⟨C.P,9,none⟩) (.inl (.inl rfl)) _).setCell (p:=⟨C.P,10,none⟩) (.inl (.inl rfl)) _) Jo);go_wp2_with fail;exact bodyPost_end (v:=.tuple #[]) (by simp[results,results99,go_sem]) rfl HF
  ·obtain⟨va,vn,vc,w3,r3,Jv,⟨x5,f5⟩,t3,o3⟩:=yW v Jb J_.out.1 Yw.out.2;have HF:=ah (Ja _ .on _ Js _ Jw Jv (λv hv=>by cases hv) (Jm.out.next t3 Xd) (λk I=>by
    rcases o3 k I with h1|h1
    ·exact Jo k h1
    ·exact .inr (t_ Xl h1)))
   have y5:=(Jb.out.box 5 _ rfl).1;obtain⟨Oa,Oc,eO,-⟩:=bj Jb.out.out;subst eO;generalize J.o.length=ol at*;have Yx:=ah r3;clear r3 Jv t3 o3 Xd Jo Jm Ja;go_wp2_with(at_builtin;refine aC rfl (.tmp 59) (.tmp 61) _ rfl _ _ _ _ rfl rfl Yx ?_);exact bodyPost_end (v:=.tuple #[]) (by simp[results,results99,go_sem]) rfl HF
  ·have HF:=ah (Ja _ .on Y Js Jt Jw Jb (λv hv=>by cases hv) Jm Jo);go_wp2_with fail;exact bodyPost_end (v:=.tuple #[]) (by simp[results,results99,go_sem]) rfl HF
section
variable{x:Int}
def eu(x:Int):Bool:=decide (-2147483648<=x/\x<=2147483647)
def ze(h:eu x=true):wrap32 x=x:=by
 simp only[eu,GF]at h;unfold wrap32;omega
def uo(h:eu x=false):x≠wrap32 x:=by
 simp only[eu,decide_eq_false_iff_not]at h;intro e;apply h;rw[e];unfold wrap32;omega
theorem jh(v:Value)(l:List Int)(w:World)(hv:fW w v l)(hl:l.length<=1048576):Calls prog 29 #[v] w λe w'=>e=rW (.bool (l.all eu))/\Below w.heap.size w w':=by
 obtain⟨a,c,rfl,h1,h2,h3⟩:=hv;have HA:=ah h3;clear h3;obtain⟨n,hn⟩:=q_ l.length;rw[<-hn]at h1 hl⊢;have HN:=ah hn;clear hn;obtain⟨r,hr⟩:=q_ (l.all eu);rw[<-hr];have HR:=ah hr;clear hr;go_in;go_wp2;go_loopw[3] (λi wr=>∃k:Nat,k<=n/\i=V (k:Int)/\(l.take k).all eu=true/\Bl w wr) (λi _=>n-(RowKit.intOf i).toNat)
 case atStart=>exact⟨0,y_,rfl,rfl,r_⟩
 case round=>
  obtain⟨k,hk,rfl,ha,hB⟩:=hrel;have HB:=ah hB;have Ji:=ah ha;clear ha hB;by_cases hlt:k<n
  ·have Jj:(k:Int)<(n:Int):=o_
   have Jb:k<l.length:=by rw[<-HN.out];exact hlt
   obtain⟨b,Jh,rfl,hc⟩:=HA o_;have U:=hc k Jb;have Jm:b<w.heap.size:=b_ U;obtain⟨x,hx⟩:=q_ (l[k]);rw[<-hx]at U;have HX:=ah hx;clear hx hc;go_upto_region 4 with fail;obtain⟨W3,Z⟩:=q_ wr.drew;have Je:Bl w W3:=by rw[Z];exact HB.out.drew
   have I:=ah ((Je.cell (p:=⟨b,Jh+k,none⟩) Jm).trans U);have Jg:=ah Je;have Jn:=ah Z;clear Je Z U;refine aM 9 (λX=>X.cell? ⟨b,Jh+k,none⟩=some (V x)) k_ ?_;rw[<-Jn.out];refine tk 0 [2,3,9] I ?_;refine tk 1 [2,3,9] I ?_;refine tk 2 [3,9] I ?_;refine tk 3 [9] I ?_;refine tk 4 [6,7,8,9] I ?_;refine tk 5 [6,7,8,9] I ?_;refine tk 6 [7,8,9] I ?_;refine tk 7 [8,9] I ?_;refine aq (i:=8) k_ rfl (λK hK=>?_);go_simp;refine(lS x W3).mono ?_;rintro e w4 ⟨rfl,Jf⟩;rw[Jf];clear Jf;refine hK.out _ _ (λ_=>I) ?_;clear hK K;try simp only[Act.put,tA,tB,tC]
   by_cases hb:eu x=true
   ·have J:=ze hb;rw[J];clear J;have Jk:Hid ((l.take (k+1)).all eu=true):=by show _=_;rw[List.take_succ_eq_append_getElem Jb,List.all_append,Ji.out];simp[<-HX.out,hb]
    clear hb;refine aq (i:=9) k_ rfl (λK hK=>?_);go_simp;refine hK.out _ _ (λh=>absurd rfl h) ?_;clear hK K;refine aJ k_ ?_ _;go_wp2;go_roundw
    case rel=>exact⟨k+1,o_,by go_num,Jk,Jg⟩
    case measure=>simp[RowKit.intOf];omega
   ·have Y:eu x=false:=by simpa using hb
    have J:=uo Y;have Jo:Hid (r=false):=by
     show _=_;rw[HR.out,List.all_eq_false];exact⟨l[k],g_ Jb,by rw[<-HX.out,Y];simp⟩
    have e2:(x != wrap32 x)=true:=by simpa using J
    generalize wrap32 x=y at J e2;clear hb Y;refine aq (i:=9) k_ rfl (λK hK=>?_);go_simp;refine hK.out _ _ (λh=>absurd rfl h) ?_;clear hK K;refine aJ k_ ?_ _;go_wp2;go_ret;exact⟨aj Jo.out.symm,Jg⟩
  ·have Jj:¬(k:Int)<(n:Int):=o_
   have Jl:Hid (r=true):=by
    show _=_;have:=Ji.out;rw[List.take_of_length_le (by have:=HN.out;omega)]at this;rw[HR.out,this]
   go_wp2;go_ret;exact⟨aj Jl.out.symm,HB⟩
end
def frB(x:Int):Bool:=decide (0<=x/\x<=1000000)
def mg(x y z:Int)(W:AT):(Instr.field 52 (.agg #[V x,V y,V z]) 0).run prog W=.ok (V x) W:=by kernel_rfl
def dF{w X:AT}{M:Nat}(U:aK X M [V 0,nV,V 0,V 0,V 0])(Y:Bl w X)(J:w.heap.size<=M){I:AT}(Z:I=((((X.setCell ⟨M,0,none⟩ (V 0)).setCell ⟨M,1,none⟩ nV).setCell ⟨M,2,none⟩ (V 0)).setCell ⟨M,3,none⟩ (V 0)).setCell ⟨M,4,none⟩ (V 0)):
  (DO I M 0 (V 0)/\DO I M 1 nV/\DO I M 2 (V 0)/\DO I M 3 (V 0)/\DO I M 4 (V 0))/\Bl w I:=by
 subst Z;have h:=((((U.set 0 (V 0)).set 1 nV).set 2 (V 0)).set 3 (V 0)).set 4 (V 0);exact⟨⟨(h 0 _ rfl).1,(h 1 _ rfl).1,(h 2 _ rfl).1,(h 3 _ rfl).1,(h 4 _ rfl).1⟩,((((Y.setCell (p:=⟨M,0,none⟩) J _).setCell (p:=⟨M,1,none⟩) J _).setCell (p:=⟨M,2,none⟩) J _).setCell (p:=⟨M,3,none⟩) J _).setCell (p:=⟨M,4,none⟩) J _⟩
def dk:BY:=.agg #[V 0,nV,V 0,V 0,V 0]
theorem iC(t:Tr)(vg vf vI Xa:BY)(i fr:List Int)(F:Int)(w:AT)(Jr:∀X,Bl w X->Calls prog 24 #[.agg #[vg,vf]] X λe w'=>(∃x y,e=rW (.agg #[V (aU t).1,V x,V y]))/\Bl X w')(hg:cK w vg t.globals)(hf:bC w vf t.funcs)(hI:fW w vI i)(Xi:fW w Xa fr)(Xj:i.length<=1048576)(Xp:fr.length<=1048576)(Xq:t.funcs.length<=1048576)
  (J_:(aU t).1≠0∨1000<i.length∨i.all eu=false∨¬(0<=F/\F<=100000)∨fr.length≠t.funcs.length):
  Calls prog 7 #[.agg #[vg,vf],vI,V F,Xa] w λe w'=>e=rW dk/\Bl w w':=by
 have Xf:=ah Jr;have HI:=ah hI;have Je:=ah J_;obtain⟨ag,cg,rfl,-⟩:=hg;obtain⟨af,cf,rfl,-⟩:=hf;obtain⟨ai,ci,rfl,Xd,Xb,-⟩:=hI;obtain⟨ar,cr,rfl,Xm,Xl,-⟩:=Xi;obtain⟨W1,Jd⟩:=q_ ((w.alloc (.cells #[.slice ag t.globals.length cg,.slice af t.funcs.length cf] 34)).alloc (.cells #[V 0,nV,V 0,V 0,V 0] 29));have Jz:Bl w W1:=by rw[Jd];exact(au _ _).alloc i_ _
 have Jo:=ah Jz;clear Jr J_ Jz;go_in;go_wp2_with fail;rw[<-Jd];have Xg:W1.heap.size=w.heap.size+2:=by rw[Jd,GO,GO]
 have Jw:aK W1 (w.heap.size+1) [V 0,nV,V 0,V 0,V 0]:=by
  rw[Jd];have:=aH (w.alloc (.cells #[.slice ag t.globals.length cg,.slice af t.funcs.length cf] 34)) #[V 0,nV,V 0,V 0,V 0] 29 d_;rw[GO]at this;exact this
 have Jj:aK W1 w.heap.size [.slice ag t.globals.length cg,.slice af t.funcs.length cf]:=by
  rw[Jd];exact(aH w #[.slice ag t.globals.length cg,.slice af t.funcs.length cf] 34 i_).below (au _ _)
 have Jx:=ah Jw;have Jy:=ah Jj;clear Jd Jw Jj;obtain⟨M,hM⟩:=q_ w.heap.size;rw[<-hM]at Jx Jy Xg⊢;have HM:=ah hM;clear hM;refine(Xf W1 Jo).mono ?_;rintro e w2 ⟨⟨x,y,rfl⟩,Jk⟩;have I:=Jx.o.below Jk;have Jf:=Jy.o.below Jk;have y0:=(I 0 _ rfl).1;have z0:=(I 0 _ rfl).2;have y1:=(I 1 _ rfl).1;have z1:=(I 1 _ rfl).2;have y2:=(I 2 _ rfl).1;have z2:=(I 2 _ rfl).2;have y3:=(I 3 _ rfl).1;have z3:=(I 3 _ rfl).2;have y4:=(I 4 _ rfl).1;have z4:=(I 4 _ rfl).2;have Jv:=ah I;have Ji:Bl w w2:=Jo.o.trans (Jk.mono Jo.o.size);have Jg:=ah Ji;have hN:=Je;have Xo:=mg;generalize Jr:(aU t).1=ck at*;have Jh:=ah Jf;have Jq:=ah I;clear I Jf Jk Ji;by_cases h0:ck=0
 ·subst h0;have Jj:=Jh;have x1:=(Jj 1 _ rfl).1;by_cases h1:1000<i.length
  ·have Xh:(1000:Int)<(i.length:Int):=o_
   clear hN Je;go_wp2_with fail;obtain⟨⟨U,t1,t2,t3,Z⟩,Y⟩:=dF Jv Jg (Ft HM.o) rfl;exact bodyPost_ret (v:=dk) (by simp[results,results7,go_sem,U,t1,t2,t3,Z,dk]) rfl ⟨rfl,Y⟩
  ·have Xh:¬(1000:Int)<(i.length:Int):=o_
   go_wp2_with fail;have Jt:Bl w w2:=Jg;refine(jh _ i w2 ⟨ai,ci,rfl,Xd,Xb,?_⟩ Xj).mono ?_
   ·intro Jm;obtain⟨a',c',e',-,-,h3⟩:=HI;simp only[Value.slice.injEq]at e';obtain⟨rfl,-,rfl⟩:=e';obtain⟨b,Xe,rfl,hc⟩:=h3 Jm;exact⟨b,Xe,rfl,λj hj=>(Jt.cell (p:=⟨b,_,none⟩) (b_ (hc j hj))).trans (hc j hj)⟩
   rintro e w3 ⟨rfl,Jl⟩;have J:=Jq.o.below Jl;have Ju:=Jh.o.below Jl;have Jn:=ah (Jg.o.trans (Jl.mono Jg.o.size));clear x1 y0 y1 y2 y3 y4 z0 z1 z2 z3 z4 Jt;have x1:=(Ju 1 _ rfl).1;have y0:=(J 0 _ rfl).1;have z0:=(J 0 _ rfl).2;have y1:=(J 1 _ rfl).1;have z1:=(J 1 _ rfl).2;have y2:=(J 2 _ rfl).1;have z2:=(J 2 _ rfl).2;have y3:=(J 3 _ rfl).1;have z3:=(J 3 _ rfl).2;have y4:=(J 4 _ rfl).1;have z4:=(J 4 _ rfl).2;have Jp:=ah J;clear J Ju Jl Jj;cases hwd:i.all eu with
   | false=>
    clear hN Je;go_wp2_with fail;obtain⟨⟨U,t1,t2,t3,Z⟩,Y⟩:=dF Jp Jn (Ft HM.o) rfl;exact bodyPost_ret (v:=dk) (by simp[results,results7,go_sem,U,t1,t2,t3,Z,dk]) rfl ⟨rfl,Y⟩
   | true=>
    go_wp2_with fail;refine(dx _ _ _ _).mono ?_;rintro e w4 ⟨rfl,Js⟩;rw[Js];clear Js;by_cases hF:0<=F/\F<=100000
    ·have Jc:decide ((0:Int)<=F/\F<=100000)=true:=decide_eq_true hF;rw[Jc];have Xk:fr.length≠t.funcs.length:=by
      rcases hN with h|h|h|h|h
      ·exact absurd rfl h
      ·exact absurd h h1
      ·rw[hwd]at h;cases h
      ·exact absurd hF h
      ·exact h
     have Xc:((fr.length:Int) != (t.funcs.length:Int))=true:=by simp;omega
     clear hN Je Jc hwd;generalize fr.length=fl at*;generalize t.funcs.length=tl at*;go_wp2_with fail;obtain⟨⟨U,t1,t2,t3,Z⟩,Y⟩:=dF Jp Jn (Ft HM.o) rfl;exact bodyPost_ret (v:=dk) (by simp[results,results7,go_sem,U,t1,t2,t3,Z,dk]) rfl ⟨rfl,Y⟩
    ·have Jc:decide ((0:Int)<=F/\F<=100000)=false:=decide_eq_false hF;rw[Jc];clear hN Je;go_wp2_with fail;obtain⟨⟨U,t1,t2,t3,Z⟩,Y⟩:=dF Jp Jn (Ft HM.o) rfl;exact bodyPost_ret (v:=dk) (by simp[results,results7,go_sem,U,t1,t2,t3,Z,dk]) rfl ⟨rfl,Y⟩
 ·have Xn:(ck != 0)=true:=Fc h0
  clear hN Je;go_wp2_with fail;obtain⟨⟨U,t1,t2,t3,Z⟩,Y⟩:=dF Jv Jg (Ft HM.o) rfl;exact bodyPost_ret (v:=dk) (by simp[results,results7,go_sem,U,t1,t2,t3,Z,dk]) rfl ⟨rfl,Y⟩
def zg(t:Tr)(vg vf vI Xi:BY)(i fr:List Int)(F:Int)(w:AT)(Jo:∀X,Bl w X->Calls prog 24 #[.agg #[vg,vf]] X λe w'=>(∃x y,e=rW (.agg #[V (aU t).1,V x,V y]))/\Bl X w')(hg:cK w vg t.globals)(hf:bC w vf t.funcs)(hI:fW w vI i)(Xh:fW w Xi fr)(Xs:i.length<=1048576)(Xr:fr.length<=1048576)(Xy:t.funcs.length<=1048576)
  (Jw:(aU t).1=0) (Xz:i.length<=1000) (Xt:i.all eu=true) (hF:0<=F/\F<=100000) (Jl:fr.length=t.funcs.length) (Jk:fr.all frB=false):
  Calls prog 7 #[.agg #[vg,vf],vI,V F,Xi] w λe w'=>e=rW dk/\Bl w w':=by
 obtain⟨Xp,HI,Jv,Jq⟩:=h4 Jo hI Xh Jk;obtain⟨ag,cg,rfl,-⟩:=hg;obtain⟨af,cf,rfl,-⟩:=hf;obtain⟨ai,ci,rfl,Xm,Xj,-⟩:=hI;obtain⟨ar,cr,rfl,Xk,Xu,-⟩:=Xh;obtain⟨W1,Z⟩:=q_ ((w.alloc (.cells #[.slice ag t.globals.length cg,.slice af t.funcs.length cf] 34)).alloc (.cells #[V 0,nV,V 0,V 0,V 0] 29));have Xf:Bl w W1:=by rw[Z];exact(au _ _).alloc i_ _
 have Js:=ah Xf;clear Jo Xf Jk;go_in;go_wp2_with fail;rw[<-Z];have Xq:W1.heap.size=w.heap.size+2:=by rw[Z,GO,GO]
 have Xb:aK W1 (w.heap.size+1) [V 0,nV,V 0,V 0,V 0]:=by
  rw[Z];have:=aH (w.alloc (.cells #[.slice ag t.globals.length cg,.slice af t.funcs.length cf] 34)) #[V 0,nV,V 0,V 0,V 0] 29 d_;rw[GO]at this;exact this
 have Jj:aK W1 w.heap.size [.slice ag t.globals.length cg,.slice af t.funcs.length cf]:=by
  rw[Z];exact(aH w #[.slice ag t.globals.length cg,.slice af t.funcs.length cf] 34 i_).below (au _ _)
 obtain⟨Xc,Xd⟩:=h2 Xb Jj;clear Z Xb Jj;obtain⟨M,hM⟩:=q_ w.heap.size;rw[<-hM]at Xc Xd Xq⊢;have HM:=ah hM;clear hM;refine(Xp W1 Js).mono ?_;rintro e w2 ⟨⟨x,y,rfl⟩,Jm⟩;have I:=Xc.o.below Jm;have Jg:=Xd.o.below Jm;have y0:=(I 0 _ rfl).1;have z0:=(I 0 _ rfl).2;have y1:=(I 1 _ rfl).1;have z1:=(I 1 _ rfl).2;have y2:=(I 2 _ rfl).1;have z2:=(I 2 _ rfl).2;have y3:=(I 3 _ rfl).1;have z3:=(I 3 _ rfl).2;have y4:=(I 4 _ rfl).1;have z4:=(I 4 _ rfl).2;have Ji:Bl w w2:=Js.o.trans (Jm.mono Js.o.size);have Jr:=ah Ji;have Xx:=mg;rw[Jw];obtain⟨Jh,Jt⟩:=h2 Jg I;clear I Jg Jm Ji;have Jj:=Jh;have x1:=(Jj 1 _ rfl).1;have Xw:¬(1000:Int)<(i.length:Int):=o_;go_wp2_with fail;have Jx:Bl w w2:=Jr;refine(jh _ i w2 ⟨ai,ci,rfl,Xm,Xj,?_⟩ Xs).mono ?_
 ·intro Jp;obtain⟨a',c',e',-,-,h3⟩:=HI;simp only[Value.slice.injEq]at e';obtain⟨rfl,-,rfl⟩:=e';obtain⟨b,Jz,rfl,Y⟩:=h3 Jp;exact⟨b,Jz,rfl,λj hj=>(Jx.cell (p:=⟨b,_,none⟩) (b_ (Y j hj))).trans (Y j hj)⟩
 rintro e w3 ⟨rfl,Jn⟩;have h:=Jt.o.below Jn;have Jy:=Jh.o.below Jn;have Xa:=ah (Jr.o.trans (Jn.mono Jr.o.size));clear x1 y0 y1 y2 y3 y4 z0 z1 z2 z3 z4 Jx;have x1:=(Jy 1 _ rfl).1;have y0:=(h 0 _ rfl).1;have z0:=(h 0 _ rfl).2;have y1:=(h 1 _ rfl).1;have z1:=(h 1 _ rfl).2;have y2:=(h 2 _ rfl).1;have z2:=(h 2 _ rfl).2;have y3:=(h 3 _ rfl).1;have z3:=(h 3 _ rfl).2;have y4:=(h 4 _ rfl).1;have z4:=(h 4 _ rfl).2;have Xo:=ah h;clear h Jy Jn Jj;rw[Xt];go_wp2_with fail;refine(dx _ _ _ _).mono ?_;rintro e w4 ⟨rfl,Jf⟩;rw[Jf];clear Jf;have U:decide ((0:Int)<=F/\F<=100000)=true:=decide_eq_true hF;rw[U];clear U;obtain⟨fl,Jd⟩:=q_ fr.length;have Xg:=ah Jd;rw[<-Jl]at x1⊢;rw[<-Jd]at x1 Xr Xk⊢;have Xl:((fl:Int) != (fl:Int))=false:=i_;clear Jd Jl;go_wp2;go_loopw[9] (λj wr=>∃k:Nat,k<=fl/\j=V (k:Int)/\(fr.take k).all frB=true/\wr=w3) (λj _=>fl-(RowKit.intOf j).toNat)
 case atStart=>exact⟨0,y_,rfl,rfl,rfl⟩
 case round=>
  obtain⟨k,hk,rfl,ha,J_⟩:=hrel;rw[J_];clear J_;have Xe:=ah ha;clear ha;by_cases hlt:k<fl
  ·have Xv:(k:Int)<(fl:Int):=o_
   have Ju:k<fr.length:=by rw[<-Xg.o];exact hlt
   obtain⟨a',c',e',-,-,h3⟩:=Jv;simp only[Value.slice.injEq]at e';obtain⟨rfl,-,rfl⟩:=e';obtain⟨b,Jz,rfl,Y⟩:=h3 o_;have Jo:=(Xa.o.cell (p:=⟨b,_,none⟩) (b_ (Y k Ju))).trans (Y k Ju);obtain⟨x',hx⟩:=q_ (fr[k]);rw[<-hx]at Jo;have HX:=ah hx;clear hx Y h3;go_wp2_with fail;refine(dx _ _ _ _).mono ?_;rintro e w4 ⟨rfl,Jf⟩;rw[Jf];clear Jf;by_cases J:0<=x'/\x'<=1000000
   ·have U:decide ((0:Int)<=x'/\x'<=1000000)=true:=decide_eq_true J;rw[U];have Xn:Hid ((fr.take (k+1)).all frB=true):=by show _=_;rw[take_succ_eq_append_getElem Ju,all_append,Xe.o];simp[<-HX.o,frB,J]
    clear U J;go_wp2;go_roundw
    case rel=>exact⟨k+1,o_,by go_num,Xn,trivial⟩
    case measure=>exact FW
   ·have U:decide ((0:Int)<=x'/\x'<=1000000)=false:=decide_eq_false J;rw[U];clear U J;go_wp2_with fail;obtain⟨⟨t0,t1,t2,t3,t4⟩,hE⟩:=dF Xo Xa (Ft HM.o) rfl;exact bodyPost_ret (v:=dk) (by simp[results,results7,go_sem,t0,t1,t2,t3,t4,dk]) rfl ⟨rfl,hE⟩
  ·exfalso
   have:=Xe.o
   rw[take_of_length_le (Ft Xg.o)]at this;have J:=Jq;rw[this]at J;cases J
section
variable{s:ES}{C:RC}{lb:List Nat}{vL vO vI:BY}{w:AT}{st vl:Int}{rt:Bool}
structure kX (t:Tr) (sc:List GA) (ss:List St):Prop where
 snd:Cn t ss sc
 ok:∀s∈ss,stmtB s=true/\s.e.length<=1048576/\s.f.length<=1048576
 fit:cM ss=true
 ln:ss.length<=1000000
def FM(C:RC)(w:AT)(lb:List Nat)(vL vO:BY)(r:ER)(s':ES)(x:Ending)(w':AT):Prop:=(∃y,x=rW y)/\∃vL' vI' vO' vl',RS C w' (gJ r) (pv r) vl' lb vL' vI' vO' s'/\(∀v,r=.ret v->vl'=v)/\ak (f_ C lb vL vO) w w'/\(∀k,vO'.ownBlock=some k->vO.ownBlock=some k∨w.heap.size<=k)/\∀k,vL'.ownBlock=some k->vL.ownBlock=some k∨w.heap.size<=k
def Eu(C:RC)(n:Nat):Prop:=∀(ss:List St) (z:ES) (r:ER) (z':ES),Ev C.t C.fr n (.bl ss) z r z'->kX C.t (z.l.map Prod.fst) ss->jd C.t (z.l.map Prod.fst)->z.l.length+z.u<=200000->∀(w:AT) (vl:Int) (lb:List Nat) (vL vI vO vs:BY),RS C w 0 false vl lb vL vI vO z->aW C.w0 vs ss->Calls prog 63 #[pV C.P,vs] w λx w'=>FM C w lb vL vO r z' x w'
def Tk.va:Tk->Bool
 | .inl _ =>true
 | .inr (.inr (.inr (.inr (_, _)))) =>true
 | _=>false
theorem Ev.nov{t:Tr}{fr:List Int}{n:Nat}{k:Tk}{r:ER}{s':ES}(h:Ev t fr n k s r s'):k.va=false->∀v,r ≠ .val v:=by
 induction h using Ev_i with
 | kid n e A b st v j c s' h1 h2 h3 h4 h5 h6 i5 i6=>intro h;cases h
 | dry n e A b st v h1 h2 h3 h4 h5 i4=>intro h;cases h
 | work n e A b st v h1 h2 h3 h4 h5 h6 i5=>intro h;cases h
 | call n e A b st v f r s' h1 h2 h3 h4 h5 h6 i4 i6=>intro h;cases h
 | left n e b s c s' h1 h2 h3 i3=>intro h;cases h
 | ldry n e b s x s' h1 h2 h3 h4 i3=>intro h;cases h
 | lone n e b s x s' h1 h2 h3 h4 i3=>intro h;cases h
 | rigt n e b s x s1 c s' h1 h2 h3 h4 h5 i3 i5=>intro h;cases h
 | rdry n e b s x s1 y s' h1 h2 h3 h4 h5 h6 i3 i5=>intro h;cases h
 | both n e b s x s1 y s' h1 h2 h3 h4 h5 h6 i3 i5=>intro h;cases h
 | pbad n s a b z c z' h1 i1=>intro _ v I;cases I
 | decl n s a b z v z' h1 h2 i2=>intro _ v I;cases I
 | set n s a b z v z' h1 h2 i2=>intro _ v I;cases I
 | sbad n s a b z v z1 c z' h1 h2 h3 i2 i3=>intro _ v I;cases I
 | smis n s a b z v z1 x z' h1 h2 h3 h4 i2 i3=>intro _ v I;cases I
 | stor n s a b z v z1 x z' h1 h2 h3 h4 i2 i3=>intro _ v I;cases I
 | ifth n s a b z v z1 r z' h1 h2 h3 h4 i2 i4=>intro _;exact i4 rfl
 | ifel n s a b z z1 r z' h1 h2 h3 i2 i3=>intro _;exact i3 rfl
 | whno n s a b z z' h1 h2 i2=>intro _ v I;cases I
 | whn n s a b z v z1 r z' h1 h2 h3 h4 h5 i2 i4=>intro _;exact i4 rfl
 | whdr n s a b z v z1 z' h1 h2 h3 h4 h5 i2 i4=>intro _ v I;cases I
 | whag n s a b z v z1 z2 r z' h1 h2 h3 h4 h5 h6 i2 i4 i6=>intro _;exact i6 rfl
 | retn n s a b z v z' h1 h2 i2=>intro _ v I;cases I
 | tell n s a b z v z' h1 h2 i2=>intro _ v I;cases I
 | only n s a b z v z' h1 h2 i2=>intro _ v I;cases I
 | nil n z=>intro _ v I;cases I
 | sdry n s q z h1=>intro _ v I;cases I
 | send n s q z r z' h1 h2 h3 i2=>intro _;exact i2 rfl
 | next n s q z z1 r z' h1 h2 h3 i2 i3=>intro _;exact i3 rfl
 | blk n ss z r z' h1 i1=>intro _;exact i1 rfl
 | run n f vs z hf r z' h1 i1=>intro h;cases h
def f_.up{N:Nat}{vL1 vO1:BY}(ho:∀k,vO1.ownBlock=some k->vO.ownBlock=some k∨N<=k)(hl:∀k,vL1.ownBlock=some k->vL.ownBlock=some k∨N<=k):∀k,f_ C lb vL1 vO1 k->f_ C lb vL vO k∨N<=k:=λk hk=>by
 rcases hk with(hk|hk|hk)|hk|hk
 ·exact .inl (.inl (.inl hk))
 ·exact .inl (.inl (.inr (.inl hk)))
 ·exact(ho k hk).imp_left (λh=>.inl (.inr (.inr h)))
 ·exact .inl (.inr (.inl hk))
 ·exact(hl k hk).imp_left (λh=>.inr (.inr h))
def f_.lt(h:RS C w st rt vl lb vL vI vO s):∀k,f_ C lb vL vO k->k<w.heap.size:=λk hk=>by
 rcases hk with hk|hk|hk
 ·exact(fj.lt h k hk).1
 ·exact(h.rng k (by unfold RC.K;exact m_ _ (m_ _ (mem_append_right _ hk)))).2
 ·exact(ownsRow.lt h.lrow k hk).2
def zh(C:RC)(w:AT):Nat:=match w.cell? ⟨C.P,7,none⟩with
 | some (.int _ u)=>(C.F-u).toNat
 | _=>0
def RS.fuel(h:RS C w st rt vl lb vL vI vO s):zh C w=s.u:=by
 unfold zh;rw[(h.box 7 _ rfl).1];show(C.F-(C.F-(s.u:Int))).toNat=s.u;omega
def wb(u:Int):Nat:=if u=0 then 0 else 1
def Ct(u:Int):wb u<=1:=by unfold wb;split <;> omega
def uq{u:Int}(h:u≠0):wb u=1:=by unfold wb;rw[if_neg h]
def Ew:wb 0=0:=rfl
end
section
variable{α:Type}
def mh(e:Int):Int:=if e=3 then 2 else if e=4 then 3 else 1
def pw(e:Int)(w:AT):Calls prog 40 #[V e] w λx w'=>x=rW (V (mh e))/\w'=w:=by
 by_cases h3:e=3
 ·subst h3;go_in;go_wp2;go_ret;exact⟨rfl,rfl⟩
 ·by_cases h4:e=4
  ·subst h4;go_in;go_wp2;go_ret;exact⟨rfl,rfl⟩
  ·have I:(e == 3)=false:=Fc h3
   have J:(e == 4)=false:=Fc h4
   have U:mh e=1:=by unfold mh;rw[if_neg h3,if_neg h4]
   rw[U];go_in;go_wp2;go_ret;exact⟨rfl,rfl⟩
def qQ(x:Int)(w:AT):Calls prog 102 #[V x] w λe w'=>e=rW (V (wrap32 x))/\w'=w:=by
 have I:IntKind.i64.wrap (wrap32 x)=wrap32 x:=by
  have:=ye x
  unfold et A1 at this;simp[IntKind.wrap,IntKind.bits,IntKind.signed];omega
 go_in;go_wp2;go_ret;exact⟨rfl,rfl⟩
def qR(p:α->Bool)(l:List α)(k:Nat)(I:k<l.length)(h:(l.take k).all p=true)(J:p l[k]=true):(l.take (k+1)).all p=true:=by
 rw[take_succ_eq_append_getElem I,all_append,h];simp[J]
def ur(p:α->Bool)(l:List α)(k:Nat)(h:k<l.length)(I:p l[k]=false):l.all p=false:=by
 rw[all_eq_false];exact⟨l[k],g_ h,by simp[I]⟩
theorem pz(v:BY)(l:List Int)(w:AT)(hv:fW w v l):Calls prog 66 #[v] w λe w'=>e=rW (.bool (l.all eu))/\w'=w:=by
 obtain⟨a,c,rfl,h1,h2,h3⟩:=hv;have HA:=ah h3;clear h3;go_in;go_wp2;go_loopw[7] (λi wr=>∃k:Nat,k<=l.length/\i=V (k:Int)/\(l.take k).all eu=true/\wr=w) (λi _=>l.length-(RowKit.intOf i).toNat)
 case atStart=>exact⟨0,y_,rfl,rfl,rfl⟩
 case round=>
  obtain⟨k,hk,rfl,ha,rfl⟩:=hrel;have Y:=ah ha;by_cases hlt:k<l.length
  ·have Jd:(k:Int)<(l.length:Int):=o_
   obtain⟨b,Je,rfl,Z⟩:=HA o_;have Jc:=Z k hlt;obtain⟨x,I⟩:=q_ (l[k]);rw[<-I]at Jc;have HX:=ah I;clear I Z;go_wp2_with fail;refine(qQ x wr).mono ?_;rintro e w2 ⟨rfl,Jb⟩;rw[Jb];cases hb:eu x with
   | true=>
    have J:=ze hb;have h:Hid (eu l[k]=true):=by rw[<-HX.o];exact hb
    rw[J];clear hb J;go_wp2;go_roundw
    case rel=>exact⟨k+1,o_,by go_num,qR _ _ _ hlt Y h,by first|rfl|trivial⟩
    case measure=>exact FW
   | false=>
    have J:(wrap32 x != x)=true:=by simpa using λe=>uo hb e.symm
    have h:Hid (l.all eu=false):=ur _ _ _ hlt (by rw[<-HX.o];exact hb);go_wp2;go_ret;exact⟨by have U:=h.o;simp[U],rfl⟩
  ·obtain rfl:k=l.length:=by omega
   have h:Hid (l.all eu=true):=by have:=Y.o;rwa[take_length]at this
   go_wp2;go_ret;exact⟨by have U:=h.o;simp[U],rfl⟩
def iD(v:BY)(l:List Int)(w:AT)(J:fW w v l):Calls prog 35 #[v] w λe w'=>e=rW (.bool (decide (l.length<=1000)&&l.all eu))/\w'=w:=by
 have Z:=ah (pz v l w J);obtain⟨a,c,rfl,h1,h2,h3⟩:=J;by_cases h:l.length<=1000
 ·have Y:(l.length:Int)<=1000:=o_
  have I:decide (l.length<=1000)=true:=Fc h
  rw[I];go_in;go_wp2_with fail;refine Z.o.mono ?_;rintro e w2 ⟨rfl,U⟩;rw[U];go_wp2;go_ret;exact⟨i_,rfl⟩
 ·have Y:¬(l.length:Int)<=1000:=o_
  have I:decide (l.length<=1000)=false:=Fc h
  rw[I];go_in;go_wp2;go_ret;exact⟨i_,rfl⟩
theorem gT(vg vf v:BY)(I:List Fu)(l:List Int)(w:AT)(hf:bC w vf I)(hg:∃ag ng cg,vg=.slice ag ng cg)(hv:fW w v l):Calls prog 36 #[.agg #[vg,vf],v] w λe w'=>e=rW (.bool (decide (l.length=I.length)&&l.all frB))/\Bl w w':=by
 obtain⟨a,c,rfl,h1,h2,h3⟩:=hv;obtain⟨af,cf,rfl,-,-,-⟩:=hf;obtain⟨ag,ng,cg,rfl⟩:=hg;have HA:=ah h3;clear h3;obtain⟨W1,Jb⟩:=q_ (w.alloc (.cells #[.slice ag ng cg,.slice af I.length cf] 34));have Jg:Bl w W1:=by rw[Jb];exact r_.alloc n_ _
 have Jc:aK W1 w.heap.size [.slice ag ng cg,.slice af I.length cf]:=by rw[Jb];exact aH w _ _ i_
 obtain⟨B,J⟩:=q_ w.heap.size;rw[<-J]at Jc;have x1:=(Jc 1 _ rfl).1;have Je:=ah Jb;have Jd:=ah J;have Z:=ah Jg;clear Jb J Jg Jc;by_cases h:l.length=I.length
 ·have Y:decide (l.length=I.length)=true:=Fc h
  rw[Y,Bool.true_and];clear Y;have Jh:((l.length:Int) != (I.length:Int))=false:=by rw[h];simp
  generalize I.length=fl at*;clear h;go_in;go_upto_region 1 with fail;rw[<-Je.o,<-Jd.o];go_wp2;go_loopw[15] (λi wr=>∃k:Nat,k<=l.length/\i=V (k:Int)/\(l.take k).all frB=true/\wr=W1) (λi _=>l.length-(RowKit.intOf i).toNat)
  case atStart=>exact⟨0,y_,rfl,rfl,rfl⟩
  case round=>
   obtain⟨k,hk,rfl,ha,rfl⟩:=hrel;have Jf:=ah ha;clear ha;by_cases hlt:k<l.length
   ·have Jk:(k:Int)<(l.length:Int):=o_
    obtain⟨b,Ji,rfl,hc⟩:=HA o_;have Jj:=(Z.o.cell (p:=⟨b,Ji+k,none⟩) (b_ (hc k hlt))).trans (hc k hlt);obtain⟨x,hx⟩:=q_ (l[k]);rw[<-hx]at Jj;have HX:=ah hx;clear hx hc;cases hb:frB x with
    | true=>
     have U:Hid (frB l[k]=true):=by rw[<-HX.o];exact hb
     simp only[frB,GF]at hb;have n1:¬x<0:=o_;have n2:¬(1000000:Int)<x:=o_;clear hb;go_wp2;go_roundw
     case rel=>exact⟨k+1,o_,by go_num,qR _ _ _ hlt Jf U,by first|rfl|trivial⟩
     case measure=>exact FW
    | false=>
     have U:Hid (l.all frB=false):=ur _ _ _ hlt (by rw[<-HX.o];exact hb);simp only[frB,decide_eq_false_iff_not]at hb;by_cases n1:x<0
     ·clear hb
      go_wp2;go_ret;exact⟨by have J:=U.o;simp[J],Z.o⟩
     ·have n2:(1000000:Int)<x:=o_
      clear hb;go_wp2;go_ret;exact⟨by have J:=U.o;simp[J],Z.o⟩
   ·obtain rfl:k=l.length:=by omega
    have U:Hid (l.all frB=true):=by have:=Jf.o;rwa[take_length]at this
    go_wp2;go_ret;exact⟨by have J:=U.o;simp[J],Z.o⟩
 ·have Y:decide (l.length=I.length)=false:=Fc h
  rw[Y,Bool.false_and];clear Y;have Jh:((l.length:Int) != (I.length:Int))=true:=by simp;omega
  generalize I.length=fl at*;clear h;go_in;go_upto_region 1 with fail;rw[<-Je.o,<-Jd.o];go_wp2;go_ret;exact⟨rfl,Z⟩
end
theorem zj(C:RC)(hC:C.Ok)(n:Nat)(IH:Bq C n)(IB:Eu C n)(s:St)(a b:List St)(z:ES)(r:ER)(z':ES)(hE:Ev C.t C.fr (n+1) (.p s a b) z r z')(I:s.kind≠3)(Xs:s.kind=4∨s.kind=5)(Zf:kX C.t (z.l.map Prod.fst) a)(Zd:kX C.t (z.l.map Prod.fst) b)(Xr:yi C.t (z.l.map Prod.fst) s)(Xb:jd C.t (z.l.map Prod.fst))(J:aP s.e=true)(Yd:s.e.length<=1048576)(Zc:(z.o.length:Int)+z.u+1<=C.F)(Ze:z.l.length+z.u+1<=200000)
  (w:AT) (vl:Int) (lb:List Nat) (vL vI vO ve vf va vb:BY) (vt vu:Int) (h:RS C w 0 false vl lb vL vI vO z) (Xq:aw C.w0 ve s.e) (Vh:∃fa fn fc,vf=.slice fa fn fc) (Yb:aW C.w0 va a) (Yc:aW C.w0 vb b):
  Calls prog 99 #[pV C.P,.agg #[V s.kind,sV s.name,ve,vf,V vt,V vu],va,vb] w λx w'=>AY C w lb vL vO r z' x w':=by
 obtain⟨ea,en,ec,rfl⟩:∃ea en ec,ve=.slice ea en ec:=⟨_,_,_,Xq.choose_spec.choose_spec.1⟩;obtain⟨fa,fn,fc,rfl⟩:=Vh;obtain⟨aa,an,ac,rfl⟩:∃fa fn fc,va=.slice fa fn fc:=⟨_,_,_,Yb.choose_spec.choose_spec.1⟩;obtain⟨ba,bn,bc,rfl⟩:∃fa fn fc,vb=.slice fa fn fc:=⟨_,_,_,Yc.choose_spec.choose_spec.1⟩;obtain⟨sk,Xc⟩:=q_ s.kind;rw[<-Xc];obtain⟨W,hW⟩:=q_ (w.alloc (.cells #[V sk,sV s.name,.slice ea en ec,.slice fa fn fc,V vt,V vu] 132));obtain⟨B,hB⟩:=q_ w.heap.size;have Jt:Bl w W:=by rw[hW];exact r_.alloc n_ _
 have Vf:B<W.heap.size:=by rw[hW,hB,GO];omega
 have Xz:aK W B [V sk,sV s.name,.slice ea en ec,.slice fa fn fc,V vt,V vu]:=by
  rw[hW,hB];exact aH w #[V sk,sV s.name,.slice ea en ec,.slice fa fn fc,V vt,V vu] _ i_
 have Ym:=h.below Jt;have Ye:∀k,fj C vO k->k<B:=λk I=>by rw[hB];exact(fj.lt h k I).1
 have X_:∀(r1:ER) (U:ES),Ev C.t C.fr n (.e s.e) z r1 U->Calls prog 131 #[pV C.P,.slice ea en ec] W λx w'=>kg C W lb vL vO r1 U x w':=λr1 U h1'=>IH s.e z r1 U h1' Xr.e Xb J Yd W vl lb vL vI vO _ Ym Xq;obtain⟨HO,HC,Zz,Vg,HB,Vq,Zv,Xp,Yy,Zo⟩:=h10 (λ(r1:ER) (U:ES) (h':Ev C.t C.fr n (.e s.e) z r1 U)=>And.intro (h'.inv h.ok trivial) h'.ou) hC Xr Xb hB Jt Ye Vf Xz Xc;have g2:=(Xz 2 _ rfl).1;have Jk:Hid (∀(w':AT) (r:ER) (z':ES) (vL' vI' vO':BY) (vl':Int),RS C w' (gJ r) (pv r) vl' lb vL' vI' vO' z'->(∀v,r=.ret v->vl'=v)->ak (f_ C lb vL vO) W w'->(∀k,vO'.ownBlock=some k->vO.ownBlock=some k∨W.heap.size<=k)->(∀k,vL'.ownBlock=some k->vL.ownBlock=some k∨W.heap.size<=k)->AY C w lb vL vO r z' (rW (.tuple #[])) w'):=λw' r z' vL' vI' vO' vl' hR Y ht ho hl=>⟨⟨_,rfl⟩,lb,vL',vI',vO',vl',hR,Y,⟨[],i_,λb hb=>by simp at hb⟩,(Jt.tcs (S:=f_ C lb vL vO)).next ht (λk I=>.inl I),λk I=>(ho k I).imp_right (λJ=>t_ Jt.size J),λk I=>(hl k I).imp_right (λJ=>t_ Jt.size J)⟩;have Yk:∀k,f_ C lb vL vO k->k<B:=λk I=>by rw[hB];exact f_.lt h k I
 have Zp:=ah Yk;have Ji:∀(ss:List St) (av:Option Addr) (nv cv:Nat),kX C.t (z.l.map Prod.fst) ss->aW C.w0 (.slice av nv cv) ss->∀(U:ES) (m:Nat) (rb:ER) (zb:ES),m<=n->Ev C.t C.fr m (.bl ss) U rb zb->U.l.map Prod.fst=z.l.map Prod.fst->U.l.length+U.u<=200000->∀(w1:AT) (Jb:Int) (Jf Jc Z:BY),RS C w1 0 false Jb lb Jf Jc Z U->Calls prog 63 #[pV C.P,.slice av nv cv] w1 λx w'=>FM C w1 lb Jf Z rb zb x w':=λss av nv cv hO hS U m rb zb hm hb hn hl w1 Jb Jf Jc Z hR=>IB ss U rb zb (hb.ups hm) (by rw[hn];exact hO) (by rw[hn];exact Xb) hl w1 Jb lb Jf Jc Z _ hR hS;obtain⟨Yr,Zk⟩:=h2 (Ji a aa an ac Zf Yb) (Ji b ba bn bc Zd Yc);have Zb:∀(U:ES) (m:Nat) (r1:ER) (z2:ES),m<=n->Ev C.t C.fr m (.e s.e) U r1 z2->U.l.map Prod.fst=z.l.map Prod.fst->∀(w1:AT) (Jb:Int) (Jf Jc Z:BY),RS C w1 0 false Jb lb Jf Jc Z U->Calls prog 131 #[pV C.P,.slice ea en ec] w1 λx w'=>kg C w1 lb Jf Z r1 z2 x w':=λU m r1 z2 hm he hn w1 Jb Jf Jc Z hR=>IH s.e U r1 z2 (he.ups hm) (by rw[hn];exact Xr.e) (by rw[hn];exact Xb) J Yd w1 Jb lb Jf Jc Z _ hR Xq;have Za:=ah Zb;have Va:=ah hC.fu;obtain⟨Vi,Vm⟩:=h2 h (And.intro Zc Ze);rcases kW hE I with⟨c,rfl,e1⟩|⟨v,U,e1,Jd⟩
 ·have Vn:(c == 0)=false:=by rcases e1.outc c rfl with rfl|rfl <;> rfl
  have Vs:(c != 0)=true:=by rcases e1.outc c rfl with rfl|rfl <;> rfl
  have Yz:=ah (X_ _ _ e1);clear X_ HO HC Zz Vg hE hC Xr Xb IH J Yd Xq Ym Ye Xz h Jt e1 I Xs Xc Zc Ze Yk Ji Zb IB Zf Zd Yb Yc Yr Zk Za;go_in;go_wp2_with fail;rw[<-hW,<-hB];clear hW hB;refine Yz.o.mono ?_;rintro x w1 ⟨z0,Jc,Z,Jb,rfl,-,Jq,t1,Jz⟩;have y8:=(Jq.box 8 _ rfl).1;simp only[gJ]at y8;have HF:=ah (Jk w1 (.out c) z' vL Jc Z Jb Jq (λv Y=>by cases Y) ((ak.refl (f_ C lb vL vO) W).next t1 (fj.up (λk I=>.inl I))) Jz (λk I=>.inl I));clear Jq t1 Jz;go_wp2_with fail;exact bodyPost_ret (v:=.tuple #[]) (by simp[results,results99,go_sem]) rfl HF
 ·have Yz:=ah (X_ _ _ e1);obtain⟨⟨o1,v1,s1⟩,Ya⟩:=HO _ _ e1;have Yx:U.l=z.l:=s1.2.2.2;obtain⟨Vr,HV⟩:=h2 Yx (v1 v (.inl rfl));have Yt:(U.o.length:Int)+U.u+1<=C.F:=by have:=Ya.2.1;simp only[Tk.d]at this;omega
  have Yw:U.l.length+1<=200000:=by have:=Ya.2.2;simp only[Tk.d]at this;omega
  have Js:(sk=4/\(v≠0/\Ev C.t C.fr n (.bl a) U r z'∨v=0/\Ev C.t C.fr n (.bl b) U r z'))∨(sk=5/\Wh C.t C.fr n s a b v U r z'):=by
   rw[Xc];rcases Jd with⟨h,-⟩|⟨h,-⟩|⟨h,-⟩|⟨h,-⟩|⟨h,-⟩|h|h
   ·omega
   ·omega
   ·omega
   ·omega
   ·omega
   ·exact .inl h
   ·exact .inr h
  have Zi:U.l.length+U.u<=200000:=by have:=Ya.2.2;simp only[Tk.d]at this;omega
  have Xt:=ah Zi;have Xw:Hid (U.l.map Prod.fst=z.l.map Prod.fst):=by show _=_;rw[Yx]
  clear X_ HO hE hC Xr Xb IH J Yd Xq Ym Ye Xz h Jt e1 I Xs Xc Zc Ze Yt Yw Ya o1 v1 s1 Yx Jd Yk Ji Zb IB Zf Zd Yb Yc Zi;go_in;go_wp2_with fail;rw[<-hW,<-hB];clear hW hB;refine Yz.o.mono ?_;rintro x w1 ⟨z0,Jc,Z,Jb,rfl,hz,Jq,t1,Jz⟩;obtain rfl:v=z0:=(hz v rfl).symm;clear hz;have y8:=(Jq.box 8 _ rfl).1;simp only[gJ]at y8 Jq;have Jj:=Yy.o.tcs Xp t1 (λhx=>Ft (Zv.o _ hx));have Xx:=ah ((ak.refl (f_ C lb vL vO) W).next t1 (fj.up (λk I=>.inl I)));have Vl:B<w1.heap.size:=l_ Xp t1.size;have Xn:=ah t1.size;have g0:=(Jj 0 _ rfl).1;have g1:=(Jj 1 _ rfl).1;obtain⟨Yu,J_,Xi⟩:=h3 Jj Jz Jq;have Vc:∀k,fj C Z k->f_ C lb vL vO k∨W.heap.size<=k:=fj.up Jz;clear Jq t1 Jz Jj Vc;rcases Js with⟨rfl,Y⟩|⟨rfl,Zj⟩
  ·rcases Y with⟨Y,hb⟩|⟨rfl,hb⟩
   ·have Vp:(v != 0)=true:=Fc Y
    have Xl:=ah (Yr U n r z' n_ hb Xw Xt w1 Jb vL Jc Z Xi);clear hb Y;go_wp2_with fail;refine Xl.o.mono ?_;rintro x w2 ⟨⟨y,rfl⟩,Jg,Jl,Jh,Jm,Je,Jo,t2,Jn,Jp⟩;have HF:=ah (Jk w2 r z' Jg Jl Jh Jm Je Jo (Xx.o.next t2 (f_.up J_ (λk I=>.inl I))) (λk I=>by
     rcases Jn k I with J|J
     ·exact J_ k J
     ·exact .inr (t_ Xn J)) (λk I=>(Jp k I).imp_right (λJ=>t_ Xn J)))
    clear Je Jo t2 Jn Jp;go_wp2_with fail;exact bodyPost_end (v:=.tuple #[]) (by simp[results,results99,go_sem]) rfl HF
   ·have Xl:=ah (Zk U n r z' n_ hb Xw Xt w1 Jb vL Jc Z Xi);clear hb;go_wp2_with fail;refine Xl.o.mono ?_;rintro x w2 ⟨⟨y,rfl⟩,Jg,Jl,Jh,Jm,Je,Jo,t2,Jn,Jp⟩;have HF:=ah (Jk w2 r z' Jg Jl Jh Jm Je Jo (Xx.o.next t2 (f_.up J_ (λk I=>.inl I))) (λk I=>by
     rcases Jn k I with J|J
     ·exact J_ k J
     ·exact .inr (t_ Xn J)) (λk I=>(Jp k I).imp_right (λJ=>t_ Xn J)))
    clear Je Jo t2 Jn Jp;go_wp2_with fail;exact bodyPost_end (v:=.tuple #[]) (by simp[results,results99,go_sem]) rfl HF
  ·have Ys:=ah Zj;clear Zj;go_wp2;go_loopw[8] (λi wr=>∃(u:Int) (Jf Jc Z:BY) (Jb:Int) (zc:ES),i=V u/\(∀k,Z.ownBlock=some k->vO.ownBlock=some k∨W.heap.size<=k)/\(∀k,Jf.ownBlock=some k->vL.ownBlock=some k∨W.heap.size<=k)/\ak (f_ C lb vL vO) W wr /\
    ((u≠0/\∃m,m<=n/\Wh C.t C.fr m s a b u zc r z'/\RS C wr 0 false Jb lb Jf Jc Z zc/\zc.l.map Prod.fst=z.l.map Prod.fst/\zc.l.length+zc.u<=200000)∨((u=0∨gJ r≠0)/\RS C wr (gJ r) (pv r) Jb lb Jf Jc Z z'/\∀v,r=.ret v->Jb=v))) (λi wr=>wb (RowKit.intOf i)+2*zh C wr)
   case atStart=>
    refine⟨v,vL,Jc,Z,Jb,U,rfl,J_,λk I=>.inl I,Xx,?_⟩;by_cases Y:v=0
    ·rcases Ys.o with⟨-,rfl,rfl⟩|⟨J,-⟩
     ·exact .inr ⟨.inl Y,Xi,λv Y=>by cases Y⟩
     ·exact absurd Y J
    ·exact .inl ⟨Y,n,n_,Ys,Xi,Xw,Xt⟩
   case round=>
    clear Ys Xi Xw Xt Xx J_ Yu g0 g1 y8 Xn;obtain⟨u,Jf,Jc,Z,Jb,zc,rfl,ho,hl,ht,Zu⟩:=hrel;obtain⟨Yi,Yq,Yo⟩:=h3 ho hl ht;have Xk:=Yy.o.tcs Xp ht (λhx=>Ft (Zp.o _ hx));have k2:=(Xk 2 _ rfl).1;have Vk:B<wr.heap.size:=l_ Xp ht.size;clear ho hl ht Xk;rcases Zu with⟨hu,m,hm,hw,hR,hN,hL⟩|⟨hu,hR,Y⟩
    ·have Zw:(u != 0)=true:=Fc hu
     rcases hw with⟨J,-⟩|⟨-,rb,zb,hb,Jd⟩
     ·exact absurd J hu
     obtain⟨Yn,Xl⟩:=h2 hR (Yr zc m rb zb hm hb hN hL wr Jb Jf Jc Z hR);have Zg:=ah hb.ou;obtain⟨Vb,Zr⟩:=h2 (hb.nov rfl) (λc (h:rb=.out c)=>hb.outc c h);have Zl:zb.l.map Prod.fst=zc.l.map Prod.fst:=(hb.inv hR.ok trivial).2.2.2.2.2;obtain⟨Zx,Z_,HL,HM⟩:=h4 (Zl.trans hN) Jd hL hm;have Xy:=ah hR.fuel;clear hb Jd hR Zl hN hL hm;go_wp2_with fail;refine(gC Yn).mono ?_;rintro x w2 ⟨rfl,Xd⟩;rw[Xd];clear Xd;go_wp2_with fail;refine Xl.o.mono ?_;rintro x w2 ⟨⟨y,rfl⟩,Jg,Jl,Jh,Jm,Je,Jo,t2,Jn,Jp⟩;obtain⟨Xg,Zy,Yg⟩:=h3 Je Jo (Yo.o.next t2 (f_.up Yi Yq));have Yl:W.heap.size<=wr.heap.size:=Yo.o.size;have Jx:Hid (∀k,Jh.ownBlock=some k->vO.ownBlock=some k∨W.heap.size<=k):=λk I=>by
      rcases Jn k I with J|J
      ·exact Yi k J
      ·exact .inr (t_ Yl J)
     have Jy:Hid (∀k,Jg.ownBlock=some k->vL.ownBlock=some k∨W.heap.size<=k):=λk I=>by
      rcases Jp k I with J|J
      ·exact Yq k J
      ·exact .inr (t_ Yl J)
     have Xu:Hid (zb.u<=zc.u):=Zg.o.1;clear Je Jo t2 Jn Jp Yl;go_wp2_with fail;refine(gC Xg).mono ?_;rintro x w3 ⟨rfl,Zm⟩;rw[Zm];clear Zm;rcases Z_.o with⟨Vd,rfl,rfl⟩|⟨rfl,Jr,rfl,rfl⟩|⟨rfl,Jr,hp⟩
     ·have hg:(decide (gJ r=0) && !pv r)=false:=by
       cases r using ER.cs with
       | val v=>exact absurd rfl (Vb v)
       | on=>exact absurd rfl Vd
       | ret v=>rfl
       | out c=>rcases Zr c rfl with rfl|rfl <;> rfl
      rw[hg];go_wp2;go_roundw
      case rel=>exact⟨0,Jg,Jl,Jh,Jm,z',rfl,Jx,Jy,Yg,.inr ⟨.inl rfl,Xg,Zy⟩⟩
      case measure=>simp only[RowKit.intOf];rw[Xg.o.fuel,Xy.o,uq hu,Ew];have:=Xu.o;omega
     ·have Je:=Xg;simp only[gJ,pv]at Je;have hg:(decide (gJ .on=0) && !pv .on)=true:=rfl;rw[hg];go_wp2_with fail;refine(mf Je Jr).mono ?_;rintro x w4 ⟨⟨y,rfl⟩,Ju,t4⟩;have y8:=(Ju.box 8 _ rfl).1;obtain⟨Jw,Xa⟩:=h2 Ju (Yg.o.next t4 (λk I=>.inl (.inl (.inl I))));clear Ju t4 Je;go_wp2;go_roundw
      case rel=>exact⟨0,Jg,Jl,Jh,Jm,z',rfl,Jx,Jy,Xa,.inr ⟨.inl rfl,Jw,λv Y=>by cases Y⟩⟩
      case measure=>simp only[RowKit.intOf];rw[Jw.o.fuel,Xy.o,uq hu,Ew];have:=Xu.o;omega
     ·have Je:=Xg;simp only[gJ,pv]at Je;have hg:(decide (gJ .on=0) && !pv .on)=true:=rfl;rw[hg];have Zh:=ah hp;clear hp;go_wp2_with fail;refine(je Je Jr Va).mono ?_;rintro x w4 ⟨⟨y,rfl⟩,Ju,t4⟩;have y8:=(Ju.box 8 _ rfl).1;obtain⟨Jw,Xa⟩:=h2 Ju (Yg.o.next t4 (λk I=>.inl (.inl (.inl I))));have Xh:=Yy.o.tcs Xp Xa (λhx=>Ft (Zp.o _ hx));have k2:=(Xh 2 _ rfl).1;have Xf:zb.sp.l.map Prod.fst=z.l.map Prod.fst:=Zx;have Vo:zb.sp.u+1=zb.u:=by simp only[ES.sp];omega
      have Xm:W.heap.size<=w4.heap.size:=Xa.o.size;clear Ju t4 Je Xh;obtain⟨m',rfl⟩:∃m',m=m'+1:=by
       cases m with
       | zero=>exact absurd Zh (by intro h;first | cases h using Ev_i | cases h)
       | succ m'=>exact⟨m',rfl⟩
      have Yh:m'<=n:=Ft HM.o
      have Zs:s.kind≠3:=Ft Zo.o
      rcases kW Zh.o Zs with⟨c,rfl,e5⟩|⟨v5,z5,e5,h5⟩
      ·have hc:=e5.outc c rfl;have Yp:=ah (Za _ _ _ _ Yh e5 Xf w4 Jm Jg Jl Jh Jw);have Xv:=ah e5.ou.1;clear e5 Xf;go_wp2_with fail;refine Yp.o.mono ?_;rintro x w5 ⟨u5,Y_,Xj,Yv,rfl,-,Xo,t5,Xe⟩;obtain⟨Jv,Yj⟩:=h2 Xo (Xa.o.next t5 (λk I=>f_.up Jx Jy k (.inl I)));have Yf:Hid (∀k,Xj.ownBlock=some k->vO.ownBlock=some k∨W.heap.size<=k):=λk I=>by
        rcases Xe k I with J|J
        ·exact Jx k J
        ·exact .inr (t_ Xm J)
       clear Xo t5 Xe;go_wp2;go_roundw
       case rel=>exact⟨u5,Jg,Y_,Xj,Yv,z',rfl,Yf,Jy,Yj,.inr ⟨.inr (by show c≠0;omega),Jv,λv Y=>by cases Y⟩⟩
       case measure=>simp only[RowKit.intOf];rw[Jv.o.fuel,Xy.o,uq hu];have:=Xu.o;have:=Xv.o;have:=Ct u5;omega
      ·have Zn:Wh C.t C.fr m' s a b v5 z5 r z':=by
        have Vj:s.kind=5:=Zo.o.symm;rcases h5 with⟨h,-⟩|⟨h,-⟩|⟨h,-⟩|⟨h,-⟩|⟨h,-⟩|⟨h,-⟩|⟨-,h⟩
        ·omega
        ·omega
        ·omega
        ·omega
        ·omega
        ·omega
        ·exact h
       obtain⟨Zq,Yp⟩:=h2 Zn (Za _ _ _ _ Yh e5 Xf w4 Jm Jg Jl Jh Jw);have Xv:=ah e5.ou;have Ve:Hid (z5.l=zb.sp.l):=(e5.inv Jw.o.ok trivial).2.2.2.2.2;have Zt:=ah Xf;clear e5 Xf h5 Zn;go_wp2_with fail;refine Yp.o.mono ?_;rintro x w5 ⟨u5,Y_,Xj,Yv,rfl,hz,Xo,t5,Xe⟩;obtain rfl:v5=u5:=(hz v5 rfl).symm;clear hz;obtain⟨Jv,Yj⟩:=h2 Xo (Xa.o.next t5 (λk I=>f_.up Jx Jy k (.inl I)));have Yf:Hid (∀k,Xj.ownBlock=some k->vO.ownBlock=some k∨W.heap.size<=k):=λk I=>by
        rcases Xe k I with J|J
        ·exact Jx k J
        ·exact .inr (t_ Xm J)
       clear Xo t5 Xe;go_wp2;go_roundw
       case rel=>
        refine⟨v5,Jg,Y_,Xj,Yv,z5,rfl,Yf,Jy,Yj,?_⟩;by_cases Y:v5=0
        ·rcases Zq.o with⟨-,rfl,rfl⟩|⟨J,-⟩
         ·exact .inr ⟨.inl Y,Jv,λv Y=>by cases Y⟩
         ·exact absurd Y J
        ·refine .inl ⟨Y,m',Yh,Zq.o,Jv.o,by rw[Ve.o];exact Zt.o,?_⟩
         have J:=Xv.o.2.2;have h2:=Zg.o.2.2;have h3:=HL.o;simp only[Tk.d]at J h2;have h4:zb.sp.l.length=zb.l.length:=rfl;omega
       case measure=>simp only[RowKit.intOf];rw[Jv.o.fuel,Xy.o,uq hu];have:=Xu.o;have:=Xv.o.1;have:=Ct v5;omega
    ·have HF:=ah (Jk wr r z' Jf Jc Z Jb hR Y Yo Yi Yq);by_cases Jr:u=0
     ·subst Jr;clear hR Y hu;go_wp2_with fail;exact bodyPost_end (v:=.tuple #[]) (by simp[results,results99,go_sem]) rfl HF
     ·have Zw:(u != 0)=true:=Fc Jr
      have hg:(decide (gJ r=0) && !pv r)=false:=by
       rcases hu with h|h
       ·exact absurd h Jr
       ·simp[h]
      have Yn:=ah hR;clear hR Y hu;go_wp2_with fail;refine(gC Yn).mono ?_;rintro x w2 ⟨rfl,Xd⟩;rw[Xd,hg];clear Xd;go_wp2_with fail;exact bodyPost_end (v:=.tuple #[]) (by simp[results,results99,go_sem]) rfl HF
section
variable{s:St}{t:Tr}{w:AT}{n cap:Nat}{a:Option Addr}
def FN(C:RC)(n:Nat):Prop:=∀(s:St) (a b:List St) (z:ES) (r:ER) (z':ES),Ev C.t C.fr n (.p s a b) z r z'->yi C.t (z.l.map Prod.fst) s->jd C.t (z.l.map Prod.fst)->stmtB s=true->s.e.length<=1048576->s.f.length<=1048576->(s.kind=4∨s.kind=5->kX C.t (z.l.map Prod.fst) a/\kX C.t (z.l.map Prod.fst) b)->(z.o.length:Int)+z.u+1<=C.F->z.l.length+z.u+1<=200000 ->
 ∀(w:AT) (vl:Int) (lb:List Nat) (vL vI vO ve vf va vb:BY) (vt vu:Int),RS C w 0 false vl lb vL vI vO z->aw C.w0 ve s.e->aw C.w0 vf s.f->aW C.w0 va a->aW C.w0 vb b ->
 (s.kind=3->Calls prog 98 #[pV C.P,.agg #[V s.kind,sV s.name,ve,vf,V vt,V vu]] w λx w'=>AY C w lb vL vO r z' x w') /\
 (s.kind≠3->Calls prog 99 #[pV C.P,.agg #[V s.kind,sV s.name,ve,vf,V vt,V vu],va,vb] w λx w'=>AY C w lb vL vO r z' x w')
def iE(h:stmtB s=true):(1<=s.kind/\s.kind<=8)/\aP s.e=true/\(s.kind=3->aP s.f=true):=by
 unfold stmtB at h;simp only[GE,GF]at h;obtain⟨⟨⟨⟨⟨⟨I,-⟩,h2⟩,h3⟩,-⟩,-⟩,-⟩:=h;refine⟨I,h2,λhk=>?_⟩;rw[if_pos hk]at h3;exact h3
def zk(C:RC)(hC:C.Ok)(n:Nat)(IH:Bq C n)(IB:Eu C n):FN C (n+1):=by
 intro s a b z r J hE U Je Jm Z Jl Jk Jf Ji w vl lb vL vI vO ve vf va vb vt I h Ja Jb Jg Jh;obtain⟨hk,Y,h2⟩:=iE Jm;refine⟨λh3=>we C hC n IH s a b z r J hE h3 U Je Y (h2 h3) Z Jl w vl lb vL vI vO ve vf vt I h Ja Jb,λh3=>?_⟩;by_cases h45:s.kind=4∨s.kind=5
 ·obtain⟨Jn,Jj⟩:=Jk h45;exact zj C hC n IH IB s a b z r J hE h3 h45 Jn Jj U Je Y Z Jf Ji w vl lb vL vI vO ve vf va vb vt I h Ja ⟨_,_,_,Jb.choose_spec.choose_spec.1⟩ Jg Jh
 ·exact wh C hC n IH s a b z r J hE h3 ⟨λh=>h45 (.inl h),λh=>h45 (.inr h)⟩ U Je Y Z Jf Ji w vl lb vL vI vO ve vf va vb vt I h Ja ⟨_,_,_,Jb.choose_spec.choose_spec.1⟩ ⟨_,_,_,Jg.choose_spec.choose_spec.1⟩ ⟨_,_,_,Jh.choose_spec.choose_spec.1⟩
theorem mi{t:Tr}{fr:List Int}:∀(n:Nat) {s:St} {a b:List St} {z z':ES},Ev t fr n (.p s a b) z .on z'->OkW z->z'.l.map Prod.fst=be s (z.l.map Prod.fst)
 | 0,_,_,_,_,_,h,_=>by first | cases h using Ev_i | cases h
 | n+1,s,a,b,z,z',h,ho=>by
  have key:∀ {r z1},Ev t fr n (.e s.e) z r z1->OkW z1/\z1.l=z.l:=λh1=>by
   have:=h1.inv ho trivial
   exact⟨this.1,this.2.2.2.2.2⟩
  have keyb:∀ {ss z1 r z2},Ev t fr n (.bl ss) z1 r z2->OkW z1->OkW z2/\z2.l.map Prod.fst=z1.l.map Prod.fst:=λh1 h2=>by
   have:=h1.inv h2 trivial
   exact⟨this.1,this.2.2.2.2.2⟩
  by_cases hk:s.kind=3
  ·have hs:be s (z.l.map Prod.fst)=z.l.map Prod.fst:=by unfold be;rw[if_neg o_]
   rw[hs];rcases qP h hk with⟨c,J,-⟩|⟨v,z1,e1,⟨c,J,-⟩|⟨x,z2,e2,⟨-,J,-⟩|⟨-,-,rfl⟩⟩⟩
   ·cases J
   ·cases J
   ·cases J
   ·obtain⟨Z,I⟩:=key e1;have l2:=(e2.inv Z trivial).2.2.2.2.2;have l2:z2.l=z1.l:=l2;rw[(yh (t:=t) (s:=z2) (x:=s.name) (j:=v.toNat) (v:=x)).2.2.1,l2,I]
  ·rcases kW h hk with⟨c,J,-⟩|⟨v,z1,e1,h1⟩
   ·cases J
   ·obtain⟨Z,I⟩:=key e1;rcases h1 with⟨U,-,rfl⟩|⟨U,-,rfl⟩|⟨U,J,-⟩|⟨U,-,rfl⟩|⟨U,-,rfl⟩|⟨U,Y⟩|⟨U,hw⟩
    ·unfold be;rw[if_pos U];show(z1.l++[(s.name,v)]).map Prod.fst=_;rw[I];simp
    ·unfold be;rw[if_neg o_,(yf (t:=t) (s:=z1) (x:=s.name) (v:=v)).2.2.1,I]
    ·cases J
    ·unfold be;rw[if_neg o_];show z1.l.map Prod.fst=_;rw[I]
    ·unfold be;rw[if_neg o_,I]
    ·have hs:be s (z.l.map Prod.fst)=z.l.map Prod.fst:=by unfold be;rw[if_neg o_]
     rw[hs];rcases Y with⟨-,Y⟩|⟨-,Y⟩
     ·rw[(keyb Y Z).2,I]
     ·rw[(keyb Y Z).2,I]
    ·have hs:be s (z.l.map Prod.fst)=z.l.map Prod.fst:=by unfold be;rw[if_neg o_]
     rw[hs];rcases hw with⟨-,-,rfl⟩|⟨-,rb,zb,Y,⟨h1,h2,-⟩|⟨-,-,h2,-⟩|⟨-,-,hp⟩⟩
     ·rw[I]
     ·exact absurd h2.symm h1
     ·cases h2
     ·obtain⟨ob,lb⟩:=keyb Y Z;have:=mi n hp ⟨ob.g,ob.l,ob.i⟩
      rw[this];unfold be;rw[if_neg o_];show zb.l.map Prod.fst=_;rw[lb,I]
def kX.cons{I:List GA}{q:List St}(h:kX t I (s::q)):yi t I s/\(s.kind=4∨s.kind=5->kX t I (q.take s.thn.toNat)/\kX t I ((q.drop s.thn.toNat).take s.els.toNat))/\kX t (be s I) (q.drop (s.thn.toNat+s.els.toNat))/\(0<=s.thn/\s.thn<=q.length/\0<=s.els/\s.els<=q.length-s.thn):=by
 obtain⟨⟨tk,h1,h2⟩,h3,h4,h5⟩:=h.snd.cons;have J:=h.fit;rw[fitB_cons,GE,GE,GE,decide_eq_true_iff]at J;obtain⟨Y,Z,U,f3⟩:=J;have Ja:=h.ln;simp only[l_c]at Ja;refine⟨tV h2 h1,λh45=>?_,⟨h5,λx hx=>h.ok x (m_ _ (GK hx)),f3,by simp;omega⟩,Y⟩;have hs:be s I=I:=by unfold be;rw[if_neg o_]
 rw[hs]at h3 h4;refine⟨⟨h3,λx hx=>h.ok x (m_ _ (mem_of_mem_take hx)),Z,by simp;omega⟩,h4,λx hx=>h.ok x (m_ _ (GK (mem_of_mem_take hx))),?_,by simp;omega⟩;have e:(q.take (s.thn.toNat+s.els.toNat)).drop s.thn.toNat=(q.drop s.thn.toNat).take s.els.toNat:=by
  rw[drop_take];congr 1;omega
 rw[<-e];exact U
def zl{B size d:Nat}{e:GC}{J:List BY}(h:w.ownsRow B e size (.slice a n cap) n J)(hd:d<=n):w.ownsRow B e size (.slice a d cap) d (J.take (d*size)):=by
 have U:d*size<=n*size:=Nat.mul_le_mul_right _ hd;obtain⟨h1,h2⟩:=h;refine⟨by rw[length_take];omega,?_⟩;rcases h2 with⟨I,e2⟩|⟨g,c2,Ja,I,Y,p2,p3,Z,p5,p6⟩
 ·simp only[Value.slice.injEq]at I;obtain⟨rfl,-,rfl⟩:=I;obtain rfl:d=0:=by omega
  exact .inl ⟨rfl,rfl⟩
 ·simp only[Value.slice.injEq]at I;obtain⟨rfl,-,rfl⟩:=I;refine .inr ⟨g,cap,Ja,rfl,Y,p2,o_,Z,p5,?_⟩;rw[<-p6,take_take,Nat.min_eq_left U]
theorem RS.cutL{C:RC}{c:Int}{rt:Bool}{vl:Int}{lb m:List Nat}{vI vO:Value}{s s':ES}(h:RS C w c rt vl (lb++m) (.slice a n cap) vI vO s)(hn:n=s.l.length)(J:s'={s with l:=s.l.take lb.length}):
  RS C (w.setCell ⟨C.P,3,none⟩ (.slice a lb.length cap)) c rt vl lb (.slice a lb.length cap) vI vO s':=by
 obtain⟨p1,p2,p3,p4⟩:=h.hi;subst hn;have Jf:=h.ll;rw[l_a]at Jf;have I:ak (λk=>k=C.P) w (w.setCell ⟨C.P,3,none⟩ (.slice a lb.length cap)):=(ak.refl (λk=>k=C.P) w).setCell (p:=⟨C.P,3,none⟩) rfl _;have Jd:=h.nd;unfold RC.K at Jd;have Y:C.P∉C.bG::(C.gb++(lb++m)):=(List.nodup_cons.1 Jd).1;have U:∀k,k∈C.K lb->k∈C.K (lb++m):=λk hk=>by
  unfold RC.K at hk⊢;simp only[List.mem_cons,List.mem_append]at hk⊢;rcases hk with h|h|h|h
  ·exact .inl h
  ·exact .inr (.inl h)
  ·exact .inr (.inr (.inl h))
  ·exact .inr (.inr (.inr (.inl h)))
 have Ji:∀k (hk:k<C.gb.length),C.gb[k]≠C.P:=λk hk e=>Y (e ▸ m_ _ (List.mem_append_left _ (g_ hk)));have Jj:∀k (hk:k<(lb++m).length),(lb++m)[k]≠C.P:=λk hk e=>Y (e ▸ m_ _ (List.mem_append_right _ (g_ hk)));have Je:C.bG≠C.P:=λe=>Y (e ▸ List.mem_cons_self ..);have hc:∀o,(w.setCell ⟨C.P,3,none⟩ (.slice a lb.length cap)).cell? ⟨C.bG,o,none⟩=w.cell? ⟨C.bG,o,none⟩:=λo=>c_ (I.block C.bG p2 Je);have Jh:=h.box.set 3 (.slice a lb.length cap);have Z:∀k,(Value.slice a lb.length cap).ownBlock=some k->(Value.slice a s.l.length cap).ownBlock=some k:=λk hk=>by
  cases a with
  | none=>cases hk
  | some a=>exact hk
 subst J;refine⟨I.below h.bel h.bel.size (λk hk=>by omega),Jh,λk h1 h2=>⟨(hc _).trans (h.grow k h1 h2).1,(hc _).trans (h.grow k h1 h2).2⟩,h.gl,λk h1=>(h.gw k h1).tcs (h.rng _ (RS.gK k h1)).2 I (Ji k h1),h.g1,?_,?_,λj h1 h2=>?_,h.inp,aO h.out I (λk hk J=>(h.oo k hk).1 (by have e:k=C.P:=J;rw[e];exact RC.memP)),?_,λk hk=>⟨(h.rng k (U k hk)).1,l_ (h.rng k (U k hk)).2 I.size⟩,λk hk hm=>h.lo k (Z k hk) (U k hm),λk hk=>⟨λhm=>(h.oo k hk).1 (U k hm),λe=>(h.oo k hk).2 (Z k e)⟩,⟨h.ok.g,λx hx=>h.ok.l x (List.mem_of_mem_take hx),h.ok.i⟩,h.uu,?_,h.nn⟩
 ·show lb.length=(s.l.take lb.length).length;rw[List.length_take];omega
 ·show World.ownsRow _ _ _ _ _ (s.l.take lb.length).length (bD (s.l.take lb.length) lb);have e1:(s.l.take lb.length).length=lb.length:=by rw[List.length_take];omega
  have e2:bD (s.l.take lb.length) lb=(bD s.l (lb++m)).take (lb.length*2):=by
   rw[sE lb.length h.ll];congr 1
   simp
  rw[e1,e2];exact aO (zl h.lrow o_) I (λk hk J=>h.lo k (Z k hk) (by have e:k=C.P:=J;rw[e];exact RC.memP))
 ·have h2:j<(s.l.take lb.length).length:=h2;have hj:j<(lb++m).length:=by rw[l_a];omega
  have Jg:j<s.l.length:=by rw[List.length_take]at h2;omega
  have e1:lb[j]=(lb++m)[j]:=(List.getElem_append_left h1).symm;show aK _ lb[j] [V ((s.l.take lb.length)[j]).2];rw[List.getElem_take,e1];exact(h.lw j hj Jg).tcs (h.rng _ (RS.lK j hj)).2 I (Jj j hj)
 ·refine List.Nodup.sublist ?_ h.nd;unfold RC.K;exact List.Sublist.cons_cons _ (List.Sublist.cons_cons _ (List.Sublist.append (List.Sublist.refl _) (List.sublist_append_left _ _)))
 ·show(s.l.take lb.length).length<=_;have:=h.lm
  rw[List.length_take];omega
def zm(a:Option Addr)(n cap k:Nat)(h2:k<=n)(h3:n<=cap):∀w:AT,(Instr.slice 59 (.slice a n cap) none (some (V (k:Int))) none).run prog w=.ok (.slice a k cap) w:=by
 intro w;have h:prog.elem 59=65:=k_;have I:(sizeOf 65).run prog w=.ok 2 w:=k_;rw[run_slice_h w 59 a n cap (by rw[h];exact underlying59) .i64 _ o_ o_,h,I];cases a <;> simp[Result.andThen,sliced,Addr.add]
end
def Br{w:AT}{B size n cap:Nat}{e:GC}{a:Option Addr}{U:List BY}(h:w.ownsRow B e size (.slice a n cap) n U):n<=cap:=by
 rcases h.2 with⟨I,e2⟩|⟨g,Y,Ja,I,p1,p2,J,Z,p5,p6⟩
 ·omega
 ·simp only[Value.slice.injEq]at I;obtain⟨-,-,rfl⟩:=I;exact J
theorem zo{t:Tr}{fr:List Int}{j:Nat}{s:St}{q:List St}{z:ES}{r:ER}{I:ES}(h:Ev t fr j (.sq (s::q)) z r I):(z.u=0/\r=.out 2/\I=z)∨(0<z.u/\∃j1 r1 z1,j=j1+1/\Ev t fr j1 (.p s (q.take s.thn.toNat) ((q.drop s.thn.toNat).take s.els.toNat)) z.sp r1 z1/\((r1 ≠ .on/\r=r1/\I=z1)∨(r1=.on/\Ev t fr j1 (.sq (q.drop (s.thn.toNat+s.els.toNat))) z1 r I))):=by
 cases h using Ev_i with
 | sdry _ _ _ _ h1=>exact .inl ⟨h1,rfl,rfl⟩
 | send _ _ _ _ _ _ h1 h2 h3=>exact .inr ⟨h1,_,_,_,rfl,h2,.inl ⟨h3,rfl,rfl⟩⟩
 | next _ _ _ _ z1 _ _ h1 h2 h3=>exact .inr ⟨h1,_,_,_,rfl,h2,.inr ⟨rfl,h3⟩⟩
def f_.up2{C:RC}{N:Nat}{lb m:List Nat}{vL vO vL1 vO1:BY}(hm:∀b∈m,N<=b)(ho:∀k,vO1.ownBlock=some k->vO.ownBlock=some k∨N<=k)(hl:∀k,vL1.ownBlock=some k->vL.ownBlock=some k∨N<=k):∀k,f_ C (lb++m) vL1 vO1 k->f_ C lb vL vO k∨N<=k:=λk hk=>by
 rcases hk with(hk|hk|hk)|hk|hk
 ·exact .inl (.inl (.inl hk))
 ·exact .inl (.inl (.inr (.inl hk)))
 ·exact(ho k hk).imp_left (λh=>.inl (.inr (.inr h)))
 ·rcases GJ.1 hk with hk|hk
  ·exact .inl (.inr (.inl hk))
  ·exact .inr (hm k hk)
 ·exact(hl k hk).imp_left (λh=>.inr (.inr h))
def BI(C:RC)(n:Nat)(ss:List St)(r:ER)(z2:ES)(w:AT)(lb:List Nat)(vL vO:BY)(i:BY)(wr:AT):Prop:=∃(k:Nat) (vl1:Int) (m:List Nat) (vL1 vI1 vO1:BY) (zc:ES),i=V k/\k<=ss.length/\(∀k,vO1.ownBlock=some k->vO.ownBlock=some k∨w.heap.size<=k)/\(∀k,vL1.ownBlock=some k->vL.ownBlock=some k∨w.heap.size<=k)/\(∀b∈m,w.heap.size<=b)/\ak (f_ C lb vL vO) w wr /\
  ((∃j,j<=n/\Ev C.t C.fr j (.sq (ss.drop k)) zc r z2/\RS C wr 0 false vl1 (lb++m) vL1 vI1 vO1 zc/\kX C.t (zc.l.map Prod.fst) (ss.drop k)/\jd C.t (zc.l.map Prod.fst)/\zc.l.length+zc.u<=200000)∨((decide (gJ r=0) && !pv r)=false/\RS C wr (gJ r) (pv r) vl1 (lb++m) vL1 vI1 vO1 z2/\∀v,r=.ret v->vl1=v))
theorem zp(C:RC)(hC:C.Ok)(n:Nat)(IS:FN C n):Eu C (n+1):=by
 intro ss z r z' hE hO Yc Yo w vl lb vL vI vO vs h hS;obtain⟨z2,Yi,Yj⟩:∃z2,Ev C.t C.fr n (.sq ss) z r z2/\z'={z2 with l:=z2.l.take z.l.length}:=by
  cases hE using Ev_i with
  | blk _ _ _ _ z2 h1=>exact⟨z2,h1,rfl⟩
 obtain⟨ab,cb,rfl,Xx,Xv,Xd⟩:=hS;have HS:Hid (aW C.w0 (.slice ab ss.length cb) ss):=⟨ab,cb,rfl,Xx,Xv,Xd⟩;have Yx:=ah Xd;have Yt:=h.ll;have Yw:=ah h;have Va:=hO.ln;have Zs:=ah hC.fu;have Yz:=ah IS;have Z_:z.l.length<=200000:=h.lm;obtain⟨Yr,Yf,Zl,-⟩:=bj h.lrow;have y3:=(h.box 3 _ rfl).1;have Jk:Hid (∀(wX:AT) (vlx:Int) (mx:List Nat) (vLx vIx vOx:BY),RS C wX (gJ r) (pv r) vlx (lb++mx) vLx vIx vOx z2->(∀v,r=.ret v->vlx=v)->ak (f_ C lb vL vO) w wX->(∀k,vOx.ownBlock=some k->vO.ownBlock=some k∨w.heap.size<=k)->(∀k,vLx.ownBlock=some k->vL.ownBlock=some k∨w.heap.size<=k)->∃Y ll Z,vLx=.slice Y ll Z/\DO wX C.P 3 (.slice Y ll Z)/\D4 wX C.P 3/\(∀w:AT,(Instr.slice 59 (.slice Y ll Z) none (some (V (z.l.length:Int))) none).run prog w=.ok (.slice Y z.l.length Z) w)/\FM C w lb vL vO r z' (rW (.tuple #[])) (wX.setCell ⟨C.P,3,none⟩ (.slice Y z.l.length Z))):=λwX vlx mx vLx vIx vOx J hv ht ho hl=>by
  obtain⟨Y,Z,rfl,-⟩:=bj J.lrow;have Xf:=Br J.lrow;have Zt:=J.ll;rw[l_a]at Zt;refine⟨Y,_,Z,rfl,(J.box 3 _ rfl).1,(J.box 3 _ rfl).2,zm Y _ Z _ o_ Xf,⟨_,rfl⟩,.slice Y z.l.length Z,vIx,vOx,vlx,?_,hv,ht.setCell (p:=⟨C.P,3,none⟩) (.inl (.inl rfl)) _,ho,λk U=>hl k ?_⟩
  ·have:=J.cutL rfl (s':=z') (by rw[Yj,<-Yt])
   rw[Yt]at this;exact this
  ·cases Y with
   | none=>cases U
   | some a=>exact U
 subst Zl;have HO:=ah hO;have J_:=ah Yc;have HE:=ah Yi;clear IS hE hC hO Yc Xd Yi h Yj;go_in;go_wp2;go_loopw[5] (λi wr=>BI C n ss r z2 w lb (.slice Yr z.l.length Yf) vO i wr) (λi _=>ss.length-(RowKit.intOf i).toNat)
 case atStart=>exact⟨0,vl,[],_,vI,vO,z,rfl,y_,λk U=>.inl U,λk U=>.inl U,λb hb=>by simp at hb,ak.refl _ _,.inl ⟨n,n_,HE,Fc Yw.o,HO,J_,Yo⟩⟩
 case round=>
  clear HO J_ HE Yo y3;obtain⟨k,Jm,m,Jn,Jz,Jp,zc,rfl,U,ho,hl,hm,ht,Xl⟩:=hrel;have Js:=ah ho;have Jw:=ah hl;have Ys:=ah hm;have Xr:=ah ht;have Vc:w.heap.size<=wr.heap.size:=ht.size;clear ho hl hm ht;by_cases hlt:k<ss.length
  ·have Y_:(k:Int)<(ss.length:Int):=o_
   rcases Xl with⟨j,hj,he,J,Jo,Xq,hL⟩|⟨hg,J,hv⟩
   ·obtain⟨b,Xc,rfl,hc⟩:=Yx.o o_;obtain⟨ve,Ve,⟨c0,c1,c2,c3,c4,c5⟩,Jl,Xa⟩:=hc k hlt;have Jg:b<C.w0.heap.size:=b_ c0;replace c0:=(J.bel.cell (p:=⟨b,_,none⟩) Jg).trans c0
    replace c1:=(J.bel.cell (p:=⟨b,_,none⟩) Jg).trans c1
    replace c2:=(J.bel.cell (p:=⟨b,_,none⟩) Jg).trans c2
    replace c3:=(J.bel.cell (p:=⟨b,_,none⟩) Jg).trans c3
    replace c4:=(J.bel.cell (p:=⟨b,_,none⟩) Jg).trans c4
    replace c5:=(J.bel.cell (p:=⟨b,_,none⟩) Jg).trans c5
    have Vb:b<wr.heap.size:=l_ Jg J.bel.size;have X_:ss.drop k=ss[k]::ss.drop (k+1):=(getElem_cons_drop hlt).symm;rw[X_]at he Jo;have Xm:=Jo.ok ss[k] (mem_cons_self ..);obtain⟨Xy,Jj,Je,p1,p2,p3,p4⟩:=Jo.cons;have Zf:(ss.drop (k+1)).length=ss.length-(k+1):=i_;rw[Zf]at p2 p4;obtain⟨a3,k3,Zo,-⟩:=id Jl;obtain⟨a4,k4,Xk,-⟩:=id Xa;subst Zo;subst Xk;clear hc X_;generalize ss[k]=s at c0 c1 c2 c3 c4 c5 he Jo Xm Xy Jj Je p1 p2 p3 p4 Jl Xa;obtain⟨I,Xz⟩:=Int.eq_ofNat_of_zero_le p1;obtain⟨ln,Jr⟩:=Int.eq_ofNat_of_zero_le p3;have Yl:s.thn.toNat=I:=o_;have Yn:s.els.toNat=ln:=o_;have Zx:k+1+I<=ss.length:=o_;have Xp:k+1+I+ln<=ss.length:=o_;obtain⟨a5,k5,Zk,Yg⟩:∃a5 k5,(∀w:AT,(Instr.slice 95 (.slice (some ⟨b,Xc,none⟩) ss.length cb) (some (V ((k:Int)+1))) (some (V ((k:Int)+1+(I:Int)))) none).run prog w=.ok (.slice a5 I k5) w)/\aW C.w0 (.slice a5 I k5) ((ss.drop (k+1)).take I):=by
     have h:=fU (some ⟨b,Xc,none⟩) ss.length cb (k+1) (k+1+I) o_ o_ o_ ((k:Int)+1) ((k:Int)+1+(I:Int)) o_ o_;have h':=HS.o.cut (k+1) (k+1+I) o_ o_;rw[show k+1+I-(k+1)=I by omega]at h h';rw[drop_take,show k+1+I-(k+1)=I by omega]at h';exact⟨_,_,h,h'⟩
    obtain⟨a6,k6,Zc,Yb⟩:∃a6 k6,(∀w:AT,(Instr.slice 95 (.slice (some ⟨b,Xc,none⟩) ss.length cb) (some (V ((k:Int)+1+(I:Int)))) (some (V ((k:Int)+1+(I:Int)+(ln:Int)))) none).run prog w=.ok (.slice a6 ln k6) w)/\aW C.w0 (.slice a6 ln k6) (((ss.drop (k+1)).drop I).take ln):=by
     have h:=fU (some ⟨b,Xc,none⟩) ss.length cb (k+1+I) (k+1+I+ln) o_ o_ o_ ((k:Int)+1+(I:Int)) ((k:Int)+1+(I:Int)+(ln:Int)) o_ o_;have h':=HS.o.cut (k+1+I) (k+1+I+ln) o_ o_;rw[show k+1+I+ln-(k+1+I)=ln by omega]at h h';rw[drop_take,show k+1+I+ln-(k+1+I)=ln by omega]at h';rw[drop_drop];exact⟨_,_,h,h'⟩
    obtain⟨B0,Jx⟩:=q_ (wr.alloc (.cells #[V s.kind,sV s.name,.slice a3 s.e.length k3,.slice a4 s.f.length k4,V I,V ln] 132));obtain⟨M,hM⟩:=q_ wr.heap.size;have Xi:Bl wr B0:=by rw[Jx];exact r_.alloc n_ _
    have Yq:M<B0.heap.size:=by rw[Jx,hM,GO];omega
    have Yp:aK B0 M [V s.kind,sV s.name,.slice a3 s.e.length k3,.slice a4 s.f.length k4,V I,V ln]:=by
     rw[Jx,hM];exact aH wr #[V s.kind,sV s.name,.slice a3 s.e.length k3,.slice a4 s.f.length k4,V I,V ln] _ i_
    have Jv:=ah J;have Ya:=ah (J.below Xi);have Vg:C.P<M:=by rw[hM];exact J.hi.1
    have Zu:=ah Yp;have Yh:=ah (Xr.o.of_below Xi);have Xe:IntKind.i64.wrap ((k:Int)+1)=(k:Int)+1:=by simp[IntKind.wrap,IntKind.bits,IntKind.signed];omega
    have Vd:IntKind.i64.wrap ((k:Int)+1+(I:Int))=(k:Int)+1+(I:Int):=by simp[IntKind.wrap,IntKind.bits,IntKind.signed];omega
    have Zz:IntKind.i64.wrap ((k:Int)+1+(I:Int)+(ln:Int))=(k:Int)+1+(I:Int)+(ln:Int):=by simp[IntKind.wrap,IntKind.bits,IntKind.signed];omega
    rw[Xz]at c4;rw[Jr]at c5;have Yk:=ah he;have Xs:=ah Xm;have Ym:=ah Xy;have Zn:=ah Jj;have Yu:=ah Je;have J_:=ah Xq;have HL:=ah hL;have Zy:=ah (And.intro Yl Yn);have Zg:=ah Yg;have Zd:=ah Yb;have Zr:=ah Jl;have Zm:=ah Xa;have HJ:=ah hj;have Zw:=ah hM;clear he Xm Xy Jj Je Xq hL Yg Yb Jl Xa Jo p1 p2 p3 p4 Xz Jr Yl Yn J Xi Yp hj;go_wp2_with fail;refine(gC Jv).mono ?_;rintro x w2 ⟨rfl,Ju⟩;rw[Ju];clear Ju;go_wp2_with fail;rw[<-Jx,<-hM];clear Jx hM c0 c1 c2 c3 c4 c5 Zk Zc;rcases zo Yk.o with⟨Xn,rfl,rfl⟩|⟨Xn,j1,r1,z1,rfl,hp,hr⟩
    ·refine(mf Ya.o Xn).mono ?_;rintro x w3 ⟨⟨y,rfl⟩,Jd,t3⟩;have y8:=(Jd.box 8 _ rfl).1;obtain⟨Y,ll,Z,rfl,x3,f3,Jy,hB⟩:=Jk.o w3 Jm m Jn Jz Jp Jd (λv hv=>by cases hv) (Yh.o.next t3 (λk U=>.inl (.inl (.inl U)))) Js.o Jw;have HF:=ah hB;clear hB Jd t3;go_wp2_with fail;exact bodyPost_end (v:=.tuple #[]) (by simp[results,results63,go_sem]) rfl HF
    ·refine(je Ya.o Xn Zs).mono ?_;rintro x w3 ⟨⟨y,rfl⟩,Jd,t3⟩;have y8:=(Jd.box 8 _ rfl).1;have Ja:=Zu.o.tcs Yq t3 (λe=>by omega);have q0:=(Ja 0 _ rfl).1;have q1:=(Ja 1 _ rfl).1;have q2:=(Ja 2 _ rfl).1;have q3:=(Ja 3 _ rfl).1;have q4:=(Ja 4 _ rfl).1;have q5:=(Ja 5 _ rfl).1;have Xh:=Yh.o.next t3 (λk U=>.inl (.inl (.inl U)));have Zb:M<w3.heap.size:=l_ Yq t3.size;have Ze:=HJ.o;have Zi:zc.sp.u+1=zc.u:=by simp only[ES.sp];omega
     have Jf:=Zy.o;have Xu:=hp;rw[Jf.1,Jf.2]at Xu hr;have Jj:=Zn.o;rw[Jf.1,Jf.2]at Jj;have Je:=Yu.o;rw[Jf.1,Jf.2]at Je;have Jb:=Yz.o s _ _ zc.sp r1 z1 (Xu.ups o_) Ym.o J_.o Xs.o.1 Xs.o.2.1 Xs.o.2.2 Jj (by have:=Jv.o.uu.2;have e:zc.sp.o=zc.o:=rfl;rw[e];omega) (by have:=HL.o;have e:zc.sp.l=zc.l:=rfl;rw[e];omega) w3 Jm (lb++m) Jn Jz Jp _ _ _ _ (I:Int) (ln:Int) Jd Zr.o Zm.o Zg.o Zd;have Jc:Hid (∀x w4,AY C w3 (lb++m) Jn Jp r1 z1 x w4->(∃y,x=rW y)/\DO w4 M 4 (V I)/\DO w4 M 5 (V ln)/\BI C n ss r z2 w lb (.slice Yr z.l.length Yf) vO (V ((k+1+I+ln:Nat):Int)) w4):=λx w4 hx=>by
      obtain⟨hy,Vf,Zh,Za,Yy,Zp,Xw,Xk,⟨m4,rfl,Yv⟩,t4,Zv,Zq⟩:=hx;have Jt:=Ja.tcs Zb t4 (λe=>Fw (f_.lt Jv.o _ e) Zw.o);have Jh:w.heap.size<=w3.heap.size:=Xh.size;refine⟨hy,(Jt 4 _ rfl).1,(Jt 5 _ rfl).1,k+1+I+ln,Zp,m++m4,Zh,Za,Yy,z1,rfl,Xp,λk U=>?_,λk U=>?_,λb hb=>?_,Xh.next t4 (f_.up2 Ys.o Js.o Jw),?_⟩
      ·rcases Zv k U with h1|h1
       ·exact Js.o k h1
       ·exact .inr (t_ Jh h1)
      ·rcases Zq k U with h1|h1
       ·exact Jw.o k h1
       ·exact .inr (t_ Jh h1)
      ·rcases GJ.1 hb with hb|hb
       ·exact Ys.o b hb
       ·exact t_ Jh (Yv b hb)
      ·rw[append_assoc]at Xw;rcases hr with⟨Jl,rfl,rfl⟩|⟨rfl,Ye⟩
       ·refine .inr ⟨?_,Xw,Xk⟩;cases r using ER.cs with
        | val v=>exact absurd rfl (hp.nov rfl v)
        | on=>exact absurd rfl Jl
        | ret v=>rfl
        | out c=>rcases hp.outc c rfl with rfl|rfl <;> rfl
       ·have Xg:z1.l.map Prod.fst=be s (zc.sp.l.map Prod.fst):=mi _ hp Jd.ok;have Yd:z1.l.map Prod.fst=be s (zc.l.map Prod.fst):=Xg;refine .inl ⟨j1,o_,?_,Xw,?_,?_,?_⟩
        ·rw[drop_drop]at Ye;rw[show k+1+I+ln=k+1+(I+ln) by omega];exact Ye
        ·rw[Yd,show k+1+I+ln=k+1+(I+ln) by omega,<-drop_drop];exact Je
        ·rw[Yd];exact J_.o.add Ym
        ·have h1:=hp.ou.2.2;have h2:=HL.o;simp only[Tk.d]at h1;have e:zc.sp.l=zc.l:=rfl;rw[e]at h1;omega
     have Xt:=ah Jb.1;have Xj:=ah Jb.2;clear Jb Jd t3 Ja Xh Xu hp hr Jj Je Jf Zi Ze Yk;by_cases hk3:s.kind=3
     ·have Xb:=ah (Xt.o hk3);rw[hk3]at q0 Xb;clear hk3 Xt Xj;go_wp2_with fail;refine Xb.o.mono ?_;intro x w4 hx;obtain⟨⟨y,rfl⟩,q4,q5,Jq⟩:=Jc.o x w4 hx;have Xo:=ah Jq;clear Jq hx q0 q1 q2 q3;go_wp2;go_roundw
      case rel=>
       have:=Xo.o
       rw[show((k+1+I+ln:Nat):Int)=(k:Int)+1+(I:Int)+(ln:Int) by omega]at this;exact this
      case measure=>exact FW
     ·have Xb:=ah (Xj.o hk3);have Zj:(s.kind == 3)=false:=Fc hk3
      clear hk3 Xt Xj;go_wp2_with fail;refine Xb.o.mono ?_;intro x w4 hx;obtain⟨⟨y,rfl⟩,q4,q5,Jq⟩:=Jc.o x w4 hx;have Xo:=ah Jq;clear Jq hx q0 q1 q2 q3;go_wp2;go_roundw
      case rel=>
       have:=Xo.o
       rw[show((k+1+I+ln:Nat):Int)=(k:Int)+1+(I:Int)+(ln:Int) by omega]at this;exact this
      case measure=>exact FW
   ·obtain⟨Y,ll,Z,rfl,x3,f3,Jy,hB⟩:=Jk.o wr Jm m Jn Jz Jp J hv Xr.o Js.o Jw;have HF:=ah hB;have Jv:=ah J;clear hB J hv;go_wp2_with fail;refine(gC Jv).mono ?_;rintro x w2 ⟨rfl,Xe⟩;rw[Xe,hg];clear Xe;go_wp2_with fail;exact bodyPost_end (v:=.tuple #[]) (by simp[results,results63,go_sem]) rfl HF
  ·obtain rfl:k=ss.length:=by omega
   have Ji:RS C wr (gJ r) (pv r) Jm (lb++m) Jn Jz Jp z2/\∀v,r=.ret v->Jm=v:=by
    rcases Xl with⟨j,hj,he,J,Jo,Xq,hL⟩|⟨hg,J,hv⟩
    ·rw[drop_length]at he;cases he using Ev_i with
     | nil=>exact⟨J,λv hv=>by cases hv⟩
    ·exact⟨J,hv⟩
   obtain⟨Y,ll,Z,rfl,x3,f3,Jy,hB⟩:=Jk.o wr Jm m Jn Jz Jp Ji.1 Ji.2 Xr.o Js.o Jw;have HF:=ah hB;have Y_:¬(ss.length:Int)<(ss.length:Int):=o_;clear hB Ji Xl;go_wp2_with fail;exact bodyPost_end (v:=.tuple #[]) (by simp[results,results63,go_sem]) rfl HF
section
variable{C:RC}{w:AT}{c vl:Int}{rt:Bool}{lb:List Nat}{vL vI vO:BY}{s s':ES}
theorem RS.swap{I:List Nat}{J:Value}{l2:List (ByteArray×Int)}(h:RS C w c rt vl lb vL vI vO s)(Y:s'={s with l:=l2})(Jn:I.length=l2.length)
  (Jf:w.ownsRow C.w0.heap.size 65 2 J l2.length (bD l2 I)) (Jp:∀j (hj:j<I.length) (hl:j<l2.length),aK w I[j] [V l2[j].2]) (Jh:(C.K I).Nodup) (Jc:∀k∈C.K I,C.w0.heap.size<=k/\k<w.heap.size) (Jg:∀k,J.ownBlock=some k->k∉C.K I) (Jq:∀k,vO.ownBlock=some k->k∉C.K I/\J.ownBlock≠some k) (Jo:l2.length<=200000) (Jm:∀x∈l2,et x.2):
  RS C (w.setCell ⟨C.P,3,none⟩ J) c rt vl I J vI vO s':=by
 obtain⟨p1,p2,p3,p4⟩:=h.hi;have U:ak (λk=>k=C.P) w (w.setCell ⟨C.P,3,none⟩ J):=(ak.refl (λk=>k=C.P) w).setCell (p:=⟨C.P,3,none⟩) rfl _;have Jd:=Jh;unfold RC.K at Jd;have Z:C.P∉C.bG::(C.gb++I):=(List.nodup_cons.1 Jd).1;have Jj:∀k (hk:k<C.gb.length),C.gb[k]≠C.P:=λk hk e=>Z (e ▸ m_ _ (List.mem_append_left _ (g_ hk)));have Jl:∀k (hk:k<I.length),I[k]≠C.P:=λk hk e=>Z (e ▸ m_ _ (List.mem_append_right _ (g_ hk)));have Ji:C.bG≠C.P:=λe=>Z (e ▸ List.mem_cons_self ..);have hc:∀o,(w.setCell ⟨C.P,3,none⟩ J).cell? ⟨C.bG,o,none⟩=w.cell? ⟨C.bG,o,none⟩:=λo=>c_ (U.block C.bG p2 Ji);have Jk:=h.box.set 3 J;subst Y;exact⟨U.below h.bel h.bel.size (λk hk=>by omega),Jk,λk h1 h2=>⟨(hc _).trans (h.grow k h1 h2).1,(hc _).trans (h.grow k h1 h2).2⟩,h.gl,λk h1=>(h.gw k h1).tcs (h.rng _ (RS.gK k h1)).2 U (Jj k h1),h.g1,Jn,aO Jf U (λk hk Y=>Jg k hk (by have e:k=C.P:=Y;rw[e];exact RC.memP)),λj h1 h2=>(Jp j h1 h2).tcs (Jc _ (RS.lK j h1)).2 U (Jl j h1),h.inp,aO h.out U (λk hk Y=>(h.oo k hk).1 (by have e:k=C.P:=Y;rw[e];exact RC.memP)),Jh,λk hk=>⟨(Jc k hk).1,l_ (Jc k hk).2 U.size⟩,Jg,Jq,⟨h.ok.g,Jm,h.ok.i⟩,h.uu,Jo,h.nn⟩
theorem RS.enter(h:RS C w c rt vl lb vL vI vO s):RS C ((w.alloc (.cells #[] 65)).setCell ⟨C.P,3,none⟩ (rV w.heap.size 0 0)) c rt vl [] (rV w.heap.size 0 0) vI vO {s with l:=[]}:=by
 have hb:Bl w (w.alloc (.cells #[] 65)):=au _ _;have J:=h.below hb;have I:∀k,k∈C.K []->k∈C.K lb:=λk hk=>by
  unfold RC.K at hk⊢;simp only[List.mem_cons,List.mem_append,List.not_mem_nil,or_false]at hk⊢;rcases hk with h|h|h
  ·exact .inl h
  ·exact .inr (.inl h)
  ·exact .inr (.inr (.inl h))
 refine J.swap (l2:=[]) rfl rfl ?_ (λj hj=>by simp at hj) ?_ (λk hk=>J.rng k (I k hk)) (λk hk hm=>?_) (λk hk=>⟨λhm=>(h.oo k hk).1 (I k hm),λe=>?_⟩) i_ (λx hx=>by simp at hx)
 ·have:=World.ownsRow_lit (e:=65) (size:=2) w #[] 0 n_ d_ rfl
  refine⟨rfl,.inr ?_⟩;obtain⟨-,⟨e,-⟩|⟨g,Z,Jb,e,q1,q2,q3,U,q5,Y⟩⟩:=this
  ·cases e
  ·exact⟨g,Z,Jb,e,by have:w.heap.size<=g:=q1;have:=h.bel.size;omega,q2,q3,U,q5,Y⟩
 ·refine List.Nodup.sublist ?_ h.nd;unfold RC.K;exact List.Sublist.cons_cons _ (List.Sublist.cons_cons _ (List.Sublist.append (List.Sublist.refl _) (List.nil_sublist _)))
 ·have e:w.heap.size=k:=by simpa[Value.ownBlock]using hk
  have:=(h.rng k (I k hm)).2
  omega
 ·have e:w.heap.size=k:=by simpa[Value.ownBlock]using e
  have:=(World.ownsRow.lt h.out k hk).2
  omega
def RS.leave{w':AT}{c':Int}{rt':Bool}{vl':Int}{Jc:List Nat}{Jd Z J:BY}{s1:ES}{S:D6}(h:RS C w c rt vl lb vL vI vO s)(h1:RS C w' c' rt' vl' Jc Jd Z J s1)(U:ak S w w')(Y:∀k,S k->k∉lb/\vL.ownBlock≠some k)(ho:∀k,J.ownBlock=some k->vO.ownBlock=some k∨w.heap.size<=k)(I:s'={s1 with l:=s.l}):
  RS C (w'.setCell ⟨C.P,3,none⟩ vL) c' rt' vl' lb vL Z J s':=by
 refine h1.swap I h.ll (aO h.lrow U (λk hk I=>(Y k I).2 hk)) (λj hj hl=>(h.lw j hj hl).tcs (h.rng _ (RS.lK j hj)).2 U (λI=>(Y _ I).1 (g_ hj))) h.nd (λk hk=>⟨(h.rng k hk).1,l_ (h.rng k hk).2 U.size⟩) h.lo (λk hk=>?_) h.lm h.ok.l;rcases ho k hk with h2|h2
 ·exact h.oo k h2
 ·exact⟨λhm=>by have:=(h.rng k hm).2;omega,λe=>by have:=(ownsRow.lt h.lrow k e).2;omega⟩
end
section
variable{f:Fu}{C:RC}{w:AT}{c vl:Int}{rt:Bool}{lb:List Nat}{vL vI vO:BY}{s s':ES}
theorem kC{l:List St}{s:St}(h:s∈l):s.e.length+s.f.length<=aZ l:=by
 induction l with
 | nil=>cases h
 | cons x r ih=>
  simp only[aZ]at ih⊢;rcases mem_cons.1 h with rfl|h
  ·omega
  ·have:=ih h
   omega
def pA{t:Tr}(h:(aU t).1=0)(Y:f∈t.funcs):kX t f.params f.body/\jd t f.params/\f.params.length<=6:=by
 obtain⟨U,-,h2⟩:=dH h;obtain⟨I,Z⟩:=h2 f Y;simp only[df,GE,GF,all_eq_true]at U;have J:=U.2.2.2 f Y;simp only[cQ,GE,GF,stmtsB,all_eq_true]at J;obtain⟨-,q2,q3,-,⟨q5,q6⟩,q7⟩:=J;exact⟨⟨I,λs I=>⟨q6 s I,Ft (kC I),Ft (kC I)⟩,q7,o_⟩,Z,q2⟩
def mj{vs:List Int}(h:vs.length=f.params.length):(cP f vs).map Prod.fst=f.params:=by
 unfold cP;rw[map_fst_zip o_]
def RS.now(h:RS C w c rt vl lb vL vI vO s)(x:Int)(J:s'={s with n:=x})(I:0<=x/\x+1000000000*(s.u:Int)<=100001000000000):RS C (w.setCell ⟨C.P,12,none⟩ (V x)) c rt vl lb vL vI vO s':=by
 subst J;exact h.boxed 12 _ rfl rfl rfl rfl h.inp ⟨h.ok.g,h.ok.l,h.ok.i⟩ h.uu ⟨I.1,I.2,h.nn.2.2.1,h.nn.2.2.2⟩
def RS.deep(h:RS C w c rt vl lb vL vI vO s)(x:Int)(J:s'={s with d:=x})(I:0<=x/\x<=100001000000000):RS C (w.setCell ⟨C.P,13,none⟩ (V x)) c rt vl lb vL vI vO s':=by
 subst J;exact h.boxed 13 _ rfl rfl rfl rfl h.inp ⟨h.ok.g,h.ok.l,h.ok.i⟩ h.uu ⟨h.nn.1,h.nn.2.1,I.1,I.2⟩
def RS.nort(h:RS C w c rt vl lb vL vI vO s):RS C (w.setCell ⟨C.P,9,none⟩ (.bool false)) c false vl lb vL vI vO s:=
 h.boxed 9 _ rfl rfl rfl rfl h.inp h.ok h.uu h.nn
def CI(C:RC)(W1:AT)(f:Fu)(vs:List Int)(vl:Int)(vI vO:BY)(s:ES)(i:BY)(wr:AT):Prop:=∃(k:Nat) (lb1:List Nat) (vL1:BY),i=V k/\k<=f.params.length/\RS C wr 0 false vl lb1 vL1 vI vO {s with l:=(cP f vs).take k}/\(∀b∈lb1,W1.heap.size<=b)/\(∀k,vL1.ownBlock=some k->W1.heap.size<=k)/\ak (λk=>k=C.P) W1 wr
theorem zr(C:RC)(hC:C.Ok)(n:Nat)(IB:Eu C n):Fe C (n+1):=by
 intro f vs s r s' hE Ue Zl Vm Xk w vl lb vL vI vO va B h hA;obtain⟨hf,rb,z2,rfl,Yw,X_⟩:∃(hf:f<C.t.funcs.length) (rb:ER) (z2:ES),r=rb.back/\s'={z2 with l:=s.l,n:=z2.n-C.fr.getD f 0}/\Ev C.t C.fr n (.bl C.t.funcs[f].body) {s with l:=cP C.t.funcs[f] vs,n:=s.n+C.fr.getD f 0,d:=max s.d (s.n+C.fr.getD f 0)} rb z2:=by
  cases hE using Ev_i with
  | run _ _ _ _ hf rb z2 h1=>exact⟨hf,rb,z2,rfl,rfl,h1⟩
 have Yf:=Zl hf;obtain⟨Zd,Zg,Uv⟩:=pA hC.snd (g_ hf);obtain⟨af,cf,Zm,Om,Uk,Zo⟩:=hC.fs;obtain⟨b,Ou,Zu,hc⟩:=Zo o_;obtain⟨vp,vb,⟨c0,c1,c2⟩,Ya,Xx⟩:=hc f hf;obtain⟨fa,fc,Xl,Uu,Oj,Xm⟩:=hC.frs;have Js:f<C.fr.length:=by rw[hC.frl];exact hf
 obtain⟨J,Z,Zj,Vg⟩:=Xm o_;have cF:=Vg f Js;have Ua:C.fr.getD f 0=C.fr[f]:=by simp[List.getD,Js]
 have Xu:=hC.frb _ (g_ Js);rw[<-Ua]at cF Xu;generalize C.fr.getD f 0=F1 at cF Xu Yw X_;have Yc:b<C.w0.heap.size:=b_ c0;have Vp:J<C.w0.heap.size:=b_ cF;have Yl:=mj Yf;have Ox:=hC.sm.2;have Uz:=hC.frl;generalize C.t.funcs[f]=fn at Yf Zd Zg Uv c0 c1 c2 Ya Xx X_ Yl;obtain⟨ap,cp,Ur,Vz,Uo,Xq⟩:=id Ya;obtain⟨ab,cb,Yt,-⟩:=id Xx;subst Ur Yt;have d0:=(h.bel.cell (p:=⟨b,_,none⟩) Yc).trans c0;have d1:=(h.bel.cell (p:=⟨b,_,none⟩) Yc).trans c1;have d2:=(h.bel.cell (p:=⟨b,_,none⟩) Yc).trans c2;have y1:=(h.box 1 _ rfl).1;have y3:=(h.box 3 _ rfl).1;have f3:=(h.box 3 _ rfl).2;rw[Zm,Zu]at y1;have Ot:b<w.heap.size:=l_ Yc h.bel.size;have Or:=h.hi.1;obtain⟨W1,Xn⟩:=q_ (w.alloc (.cells #[sV fn.name,.slice ap fn.params.length cp,.slice ab fn.body.length cb] 97));obtain⟨M,hM⟩:=q_ w.heap.size;have Zh:Bl w W1:=by rw[Xn];exact r_.alloc n_ _
 have Oh:W1.heap.size=M+1:=by rw[Xn,hM,World.size_alloc]
 have Vk:aK W1 M [sV fn.name,.slice ap fn.params.length cp,.slice ab fn.body.length cb]:=by
  rw[Xn,hM];exact aH w #[sV fn.name,.slice ap fn.params.length cp,.slice ab fn.body.length cb] _ (by show 3<=1000;omega)
 have Zi:=h.below Zh;have Zz:=Zi.enter;obtain⟨La,Lc,Uq,-⟩:=bj h.lrow;obtain⟨Aa,Ac,Ut,-⟩:=bj hA.row;have Xj:∀k,fj C vO k->k∉lb/\vL.ownBlock≠some k:=λk hk=>by
  have Vt:=h.nd;unfold RC.K at Vt;obtain⟨n1,n2⟩:=List.nodup_cons.1 Vt;obtain⟨n3,n4⟩:=List.nodup_cons.1 n2;obtain⟨n5,n6,n7⟩:=List.nodup_append.1 n4;rcases hk with rfl|hk|hk
  ·exact⟨λhm=>n1 (m_ _ (List.mem_append_right _ hm)),λe=>h.lo _ e RC.memP⟩
  ·exact⟨λhm=>n7 _ hk _ hm rfl,λe=>h.lo _ e (by unfold RC.K;exact m_ _ (m_ _ (List.mem_append_left _ hk)))⟩
  ·exact⟨λhm=>(h.oo k hk).1 (by unfold RC.K;exact m_ _ (m_ _ (List.mem_append_right _ hm))),(h.oo k hk).2⟩
 obtain⟨Zb,Un,HA,Ub,Uw,Vo,Os,Vw,Vy,Uc,Yu,Ug⟩:=h12 Xj Zi hA h Xq Vk Ya Xx Zd Zg X_ IB;obtain⟨Vb,Ud,Ol,Zc,Ve,Oc,Zy,Vr⟩:=h8 Yl Yw Vm Yf Xk Xu cF Vp;have Xt:Hid (C.vFr=.slice (some ⟨J,Z,none⟩) C.fr.length fc):=by show _=_;rw[Xl,Zj]
 obtain⟨Yr,Jt⟩:=h2 Zz Zh;have U_:=ah hC.fu;have HM:=ah hM;subst Uq Ut;clear Zo hc Xm Vg Xq Ya Xx hC IB hE Ue Zl Vm Xk Zd Zg X_ Yw Yl Yf Zi Zz hA h c0 c1 c2 cF Xu Vk Zh Zm Zu Xl Zj Vp Xj;have Yj:((w.setCell ⟨C.P,3,none⟩ (.slice (some ⟨w.heap.size+1,0,none⟩) 0 0)).alloc (.cells #[sV fn.name,.slice ap fn.params.length cp,.slice ab fn.body.length cb] 97)).alloc (.cells #[] 65)=(W1.alloc (.cells #[] 65)).setCell ⟨C.P,3,none⟩ (rV W1.heap.size 0 0):=by
  rw[World.setCell_alloc_past _ _ _ _ o_,Oh,hM,Xn,World.setCell_alloc_past _ _ _ _ o_]
 obtain⟨W2,Yv⟩:=q_ ((W1.alloc (.cells #[] 65)).setCell ⟨C.P,3,none⟩ (rV W1.heap.size 0 0));have Zk:ak (λk=>k=C.P) W1 W2:=by
  rw[Yv];exact(((au _ _):Bl W1 (W1.alloc (.cells #[] 65))).tcs (S:=λk=>k=C.P)).setCell (p:=⟨C.P,3,none⟩) rfl _
 have Zt:=ah Zk;rw[<-Yv]at Yr Yj;have Vc:=ah Yj;clear Yj Yv Zk;go_in;go_wp2_with fail;rw[Vc.out,<-hM];clear Vc hM Xn d0 d1 d2 y1 y3 f3;go_loopw[9] (λi wr=>CI C W1 fn vs vl vI vO s i wr) (λi _=>fn.params.length-(RowKit.intOf i).toNat)
 case atStart=>exact⟨0,[],_,rfl,y_,Yr,(λb hb=>by simp at hb),(λk hk=>by have e:W1.heap.size=k:=(by simpa[Value.ownBlock]using hk);omega),Zt⟩
 case round=>
  clear Yr Zt;obtain⟨k,Jq,Jk,rfl,hk,hR,Xe,Xw,hT⟩:=hrel;obtain⟨HR,Vs,J_,HT⟩:=h4 hR Xe Xw hT;have Y_:M≠C.P:=by have:=HM.out;omega
  have Jm:=Vo.out.tcs (by omega:M<W1.heap.size) hT Y_;have Zp:=ah Jm;have k1:=(Jm 1 _ rfl).1;have k2:=(Jm 2 _ rfl).1;have Us:W1.heap.size<=wr.heap.size:=hT.size;have V_:M<wr.heap.size:=o_;clear hR Xe Xw hT Jm;by_cases hlt:k<fn.params.length
  ·have Uf:(k:Int)<(fn.params.length:Int):=o_
   have Zx:k<vs.length:=by have:=Zc.out;omega
   obtain⟨bp,op,Ux,Xq⟩:=Uw.out o_;subst Ux;have Yp:=Xq k hlt;have Vi:bp<C.w0.heap.size:=b_ Yp;obtain⟨ad,Zr,Pa,Oy,Yq,Vh⟩:=iB HA.out.row k Zx;have Xh:ad≠C.P:=λe=>(HA.out.ap ad (by rw[Zr];rfl)).2.1 (by rw[e];exact RC.memP);subst Zr;go_upto_region 7 with fail;obtain⟨W3,Jy⟩:=q_ wr.drew;have Jh:Bl wr W3:=by rw[Jy];exact r_.drew
   have Ji:=HR.out.below Jh;obtain⟨W4,Jj⟩:=q_ (W3.alloc (.cells #[V vs[k]] 2));obtain⟨W5,Yd⟩:=q_ (W4.alloc (.cells #[sV fn.params[k],rV W3.heap.size 1 1] 65));have Yx:(cP fn vs).length=fn.params.length:=by unfold cP;rw[List.length_zip];have:=Zc.out;omega
   have Vn:((cP fn vs).take k).length=k:=by rw[List.length_take];omega
   obtain⟨va,vn,vc,w6,r6,Vd,⟨x6,f6⟩,t6,-,o6⟩:=qO fn.params[k] vs[k] Ji (Yd.trans (by rw[Jj])) (by show((cP fn vs).take k).length+1<=_;omega) (Ol.out _ (g_ Zx));have Yi:Bl W3 W4:=by rw[Jj];exact r_.alloc n_ _
   have Yg:Bl W3 W5:=by rw[Yd];exact Yi.alloc Yi.size _
   have Vq:W4.heap.size=W3.heap.size+1:=by rw[Jj,World.size_alloc]
   have Yz:wr.heap.size<=W3.heap.size:=Jh.size;have Jp:∀X,Bl wr X->(X.cell? ⟨C.P,3,none⟩=some Jk/\X.cell? ⟨M,1,none⟩=some (.slice (some ⟨bp,op,none⟩) fn.params.length cp)/\X.cell? ⟨bp,op+k,none⟩=some (sV fn.params[k])/\X.cell? ⟨ad,k,none⟩=some (V vs[k])):=λX hX=>by
    have Vx:ak (λk=>k=C.P) W1 X:=HT.out.of_below hX;refine⟨((HR.out.below hX).box 3 _ rfl).1,((Zp.out.below hX) 1 _ rfl).1,((HR.out.below hX).bel.cell (p:=⟨bp,_,none⟩) Vi).trans Yp,?_⟩;refine(c_ (a:=⟨ad,k,none⟩) (Vx.block ad (l_ Yq Jt.out.size) Xh)).trans ?_;exact(Jt.out.cell (p:=⟨ad,k,none⟩) Yq).trans Vh
   obtain⟨Xz,Va⟩:=h2 (Jp W3 Jh) (Jp W4 (Jh.trans (Yi.mono Yz)));have Xf:=Jp W5 (Jh.trans (Yg.mono Yz));have Up:=ah Xf;have Ye:∀g,g<wr.heap.size->g≠C.P->Jk.ownBlock≠some g->∀o,w6.cell? ⟨g,o,none⟩=W5.cell? ⟨g,o,none⟩:=λg hg h1 h2 o=>c_ (t6.block g (l_ hg (t_ Yz Yg.size)) (λe=>e.elim h1 h2));have Yy:bp<wr.heap.size:=l_ Vi HR.out.bel.size;have Zf:ad<wr.heap.size:=l_ Yq (t_ Jt.out.size Us);have Yn:bp≠C.P:=λe=>by have:=HR.out.hi.2.2.1;omega
   have Ys:Hid (w6.cell? ⟨C.P,3,none⟩=some Jk/\w6.cell? ⟨M,1,none⟩=some (.slice (some ⟨bp,op,none⟩) fn.params.length cp)/\w6.cell? ⟨bp,op+k,none⟩=some (sV fn.params[k])/\w6.cell? ⟨ad,k,none⟩=some (V vs[k])):=⟨x6,(Ye M V_ Y_ (λe=>by have:=J_.out _ e;omega) 1).trans Xf.2.1,(Ye bp Yy Yn (λe=>by have:=J_.out _ e;have:=Ub.out.bel.size;have:=Jt.out.size;omega) _).trans Xf.2.2.1,(Ye ad Zf Xh (λe=>by have:=J_.out _ e;have:=Jt.out.size;omega) _).trans Xf.2.2.2⟩;have Uh:Hid (CI C W1 fn vs vl vI vO s (V ((k+1:Nat):Int)) (w6.setCell ⟨C.P,3,none⟩ (.slice va vn vc))):=by
    refine⟨k+1,Jq++[W3.heap.size],.slice va vn vc,rfl,o_,?_,λb hb=>?_,λg hg=>?_,?_⟩
    ·have e:(cP fn vs).take (k+1)=(cP fn vs).take k++[(fn.params[k],vs[k])]:=by
      rw[List.take_succ_eq_append_getElem o_];congr 1;simp[cP]
     rw[e];exact Vd
    ·rcases List.mem_append.1 hb with hb|hb
     ·exact Vs.out b hb
     ·simp at hb;omega
    ·rcases o6 g hg with h1|h1
     ·exact J_.out g h1
     ·omega
    ·refine(((HT.out.of_below Jh).of_below Yg).next t6 (λg hg=>?_)).setCell (p:=⟨C.P,3,none⟩) rfl _;rcases hg with hg|hg
     ·exact .inl hg
     ·exact .inr (J_.out g hg)
   obtain⟨Uy,Za,Yk,Od,Ul⟩:=h5 r6 Jy Jj Yd Vq;obtain⟨Xy,L1c,eL,-⟩:=bj Ji.lrow;have Um:Jk=.slice Xy k L1c:=by rw[eL];show Value.slice Xy ((cP fn vs).take k).length L1c=_;rw[Vn]
   clear eL;subst Um;generalize hvk:vs[k]=vk at*;generalize hpk:fn.params[k]=pk at*;clear hvk hpk Vd r6 t6 o6 Jh Yi Yg Ji Jj Yd Vq Jp Xf Ye Zp Yp Vh Xq x6 Jy k1 k2 Vn Yx;have I:=Xz;refine aM 20 (λX=>X.cell? ⟨C.P,3,none⟩=some (.slice Xy k L1c)/\X.cell? ⟨M,1,none⟩=some (.slice (some ⟨bp,op,none⟩) fn.params.length cp)/\X.cell? ⟨bp,op+k,none⟩=some (sV pk)/\X.cell? ⟨ad,k,none⟩=some (V vk)) k_ ?_;rw[<-Za.out];refine tk 0 [18,19,20] I.out ?_;refine tk 1 [2,3,4,17,20] I.out ?_;refine tk 2 [3,4,17,20] I.out ?_;refine tk 3 [4,17,20] I.out ?_;refine tk 4 [17,20] I.out ?_;refine tk 5 [6,8,9,15,16,17,20] I.out ?_;refine tk 6 [8,9,15,16,17,20] I.out ?_;refine tk 7 [8,9,15,16,17,20] I.out ?_;refine tk 8 [9,15,16,17,20] I.out ?_;refine tk 9 [15,16,17,20] I.out ?_;refine tk 10 [12,13,14,15,16,17,20] I.out ?_;refine tk 11 [12,13,14,15,16,17,20] I.out ?_;refine tk 12 [13,14,15,16,17,20] I.out ?_;refine tk 13 [14,15,16,17,20] I.out ?_;clear I;refine aq (i:=14) k_ rfl (λK hK=>?_);go_simp;rw[<-Yk.out];refine hK.out _ _ (λ_=>Va) ?_;clear hK K;try simp only[Act.put,tA,tB,tC]
   have I:=Va;refine tk 15 [16,17,20] I.out ?_;clear I;refine aq (i:=16) k_ rfl (λK hK=>?_);go_simp;rw[<-Od.out,Ul.out];refine hK.out _ _ (λ_=>Up) ?_;clear hK K;try simp only[Act.put,tA,tB,tC]
   refine aq (i:=17) k_ rfl (λK hK=>?_);refine cJ rfl (.tmp 38) (.tmp 50) 59 rfl (.slice Xy k L1c) (.slice (some ⟨W3.heap.size+1,0,none⟩) 1 1) (.slice va vn vc) w6 rfl rfl Uy.out ?_;refine hK.out _ _ (λ_=>Ys) ?_;clear hK K;try simp only[Act.put,tA,tB,tC]
   have I:=Ys;refine tk 18 [19,20] I.out ?_;refine tk 19 [20] I.out ?_;clear I;have x6:=Ys.out.1;refine aq (i:=20) k_ rfl (λK hK=>?_);go_simp;refine hK.out _ _ (λh=>absurd rfl h) ?_;clear hK K;refine aJ k_ ?_ _;go_wp2;go_roundw
   case rel=>
    have:=Uh.out
    rw[show((k+1:Nat):Int)=(k:Int)+1 by omega]at this;exact this
   case measure=>simp[RowKit.intOf];omega
  ·have Uf:¬(k:Int)<(fn.params.length:Int):=o_
   have Yx:(cP fn vs).length=fn.params.length:=by unfold cP;rw[List.length_zip];have:=Zc.out;omega
   have Vl:(cP fn vs).take k=cP fn vs:=List.take_of_length_le o_;have Yb:=HR.out;rw[Vl]at Yb;have Xi:=ah Yb;have Oe:(f:Int)<(C.fr.length:Int):=o_;have Vv:=Yb.nn;have Ym:0<=s.n:=Vv.1;have Xu:=Oc.out;have Xk:=Ve.out;have Ow:(0:Int)<=s.u:=o_;have Oq:IntKind.i64.wrap (s.n+F1)=s.n+F1:=by simp[IntKind.wrap,IntKind.bits,IntKind.signed];omega
   have Xr:=ah λX (hX:RS C X 0 false vl Jq Jk vI vO {s with l:=cP fn vs,n:=s.n+F1,d:=max s.d (s.n+F1)})=>Ug.out _ _ _ _ Yu.out (by show kX C.t ((cP fn vs).map Prod.fst) _;rw[Vb.out];exact Vy) (by show jd C.t ((cP fn vs).map Prod.fst);rw[Vb.out];exact Uc) (by show(cP fn vs).length+s.u<=200000;have:=Xi.out.uu.1;have:=U_.out.2;have e:({s with l:=cP fn vs}:ES).u=s.u:=rfl;omega) X vl Jq Jk vI vO _ hX Vw;have Vf:z2.n=s.n+F1/\z2.u<=s.u/\OkW z2:=by
    have hi:=Yu.out.inv (s:= {s with l:=cP fn vs,n:=s.n+F1,d:=max s.d (s.n+F1)}) ⟨Xi.out.ok.g,Xi.out.ok.l,Xi.out.ok.i⟩ trivial;exact⟨hi.2.2.2.1,hi.2.2.2.2.1,hi.1⟩
   obtain⟨Uj,Jo⟩:=h2 Vf (Yu.out.nov rfl);clear Yb Vv Vf;go_upto_region 8 with fail;obtain⟨W3,Jy⟩:=q_ wr.drew;have Jh:Bl wr W3:=by rw[Jy];exact r_.drew
   have Ji:=Xi.out.below Jh;have Jf:=(Ji.box 12 _ rfl).1;have Xd:=(Ji.box 12 _ rfl).2;have Ze:=(Ji.box 11 _ rfl).1;rw[Xt.out]at Ze;have Xz:Hid (W3.cell? ⟨C.P,12,none⟩=some (V s.n)/\W3.cell? ⟨C.P,11,none⟩=some (.slice (some ⟨J,Z,none⟩) C.fr.length fc)/\W3.cell? ⟨J,Z+f,none⟩=some (V F1)):=⟨Jf,Ze,(Ji.bel.cell (p:=⟨J,_,none⟩) Vr).trans Zy⟩;have Jz:=Ji.now (s.n+F1) (s':= {s with l:=cP fn vs,n:=s.n+F1}) rfl ⟨o_,by show s.n+F1+1000000000*(s.u:Int)<=_;omega⟩;obtain⟨W4,Jj⟩:=q_ (W3.setCell ⟨C.P,12,none⟩ (V (s.n+F1)));rw[<-Jj]at Jz;have Yh:ak (λk=>k=C.P) W1 W4:=by rw[Jj];exact(HT.out.of_below Jh).setCell (p:=⟨C.P,12,none⟩) rfl _
   have Xg:=Vo.out.tcs (by omega:M<W1.heap.size) Yh Y_;have Op:=(Xg 2 _ rfl).1;have O_:=(Jz.box 12 _ rfl).1;have Oo:=(Jz.box 13 _ rfl).1;have Oz:=(Jz.box 13 _ rfl).2;obtain⟨Zq,Vu,Za,Yk⟩:=h4 Jz Yh Jy Jj;have On:M<W4.heap.size:=l_ (by omega:M<W1.heap.size) Yh.size;have Ov:C.P<W4.heap.size:=Jz.hi.1;have Xb:Hid (∀(X w7 w8 W9:World) (Jl:Int) (Xa Jx Jn:Value),ak (λk=>k=C.P) W1 X->RS C w7 (gJ rb) (pv rb) Jl Jq Xa Jx Jn z2->ak (f_ C Jq Jk vO) X w7->(∀k,Jn.ownBlock=some k->vO.ownBlock=some k∨X.heap.size<=k)->w8=w7.setCell ⟨C.P,9,none⟩ (.bool false)->W9=w8.drew->(W9.cell? ⟨C.P,12,none⟩=some (V (s.n+F1))/\W9.cell? ⟨C.P,11,none⟩=some (.slice (some ⟨J,Z,none⟩) C.fr.length fc)/\W9.cell? ⟨J,Z+f,none⟩=some (V F1))/\W9.frozen? ⟨C.P,12,none⟩=false/\(∃v3,W9.cell? ⟨C.P,3,none⟩=some v3)/\W9.frozen? ⟨C.P,3,none⟩=false/\∀zz:Int,(∀v,rb.back=.val v->zz=v)->kg C w lb (.slice La s.l.length Lc) vO rb.back s' (rW (V zz)) ((W9.setCell ⟨C.P,12,none⟩ (V s.n)).setCell ⟨C.P,3,none⟩ (.slice La s.l.length Lc))):=λX w7 w8 W9 Jl Xa Jx Jn hX Je t7 Jv e8 e9=>by
    have Zn:=Je.nort;rw[<-e8]at Zn;have Zv:Bl w8 W9:=by rw[e9];exact r_.drew
    have Ju:=Zn.below Zv;obtain⟨q1,q2,q3⟩:=Uj.out;have Zs:=(Ju.box 12 _ rfl).1;rw[q1]at Zs;have Zw:=(Ju.box 11 _ rfl).1;rw[Xt.out]at Zw;refine⟨⟨Zs,Zw,(Ju.bel.cell (p:=⟨J,_,none⟩) Vr).trans Zy⟩,(Ju.box 12 _ rfl).2,⟨_,(Ju.box 3 _ rfl).1⟩,(Ju.box 3 _ rfl).2,λzz hzz=>?_⟩;have Oi:=Ju.now s.n (s':= {z2 with n:=s.n}) rfl ⟨Ym,o_⟩;have Ob:W1.heap.size<=X.heap.size:=hX.size;have Of:∀k,f_ C Jq Jk vO k->fj C vO k∨W1.heap.size<=k:=λk hk=>by
     rcases hk with hk|hk|hk
     ·exact .inl hk
     ·exact .inr (Vs.out k hk)
     ·exact .inr (J_.out k hk)
    have t9:ak (fj C vO) W1 (W9.setCell ⟨C.P,12,none⟩ (V s.n)):=by
     have u1:ak (fj C vO) W1 w7:=(hX.mono (λk hk=>.inl hk)).next t7 Of;have u2:ak (fj C vO) W1 w8:=by rw[e8];exact u1.setCell (p:=⟨C.P,9,none⟩) (.inl rfl) _
     exact(u2.of_below Zv).setCell (p:=⟨C.P,12,none⟩) (.inl rfl) _
    have Vj:∀k,Jn.ownBlock=some k->vO.ownBlock=some k∨W1.heap.size<=k:=λk hk=>(Jv k hk).imp_right (λh1=>t_ Ob h1);have Z_:=Un.out.leave Oi t9 Zb.out Vj (s':=s') (by rw[Ud.out,q1];simp only[Int.add_sub_cancel]);have Ui:gJ rb.back=gJ rb:=by cases rb using ER.cs <;> rfl
    rw[<-Ui]at Z_;refine⟨zz,Jx,Jn,Jl,rfl,hzz,Z_,?_,λk hk=>(Vj k hk).imp_right (λh1=>t_ Jt.out.size h1)⟩;exact((Jt.out.tcs (S:=fj C vO)).next t9 (λk hk=>.inl hk)).setCell (p:=⟨C.P,3,none⟩) (.inl rfl) _
   clear Ji Jz Yh Xg Jh Ze Jf Jy k1 k2 Yx Vl Xk;have I:=Xz;refine aM 15 (λX=>X.cell? ⟨C.P,12,none⟩=some (V s.n)/\X.cell? ⟨C.P,11,none⟩=some (.slice (some ⟨J,Z,none⟩) C.fr.length fc)/\X.cell? ⟨J,Z+f,none⟩=some (V F1)) k_ ?_;rw[<-Za.out];refine tk 0 [13,14,15] I.out ?_;refine tk 1 [2,3,4,12,15] I.out ?_;refine tk 2 [3,4,12,15] I.out ?_;refine tk 3 [4,12,15] I.out ?_;refine tk 4 [12,15] I.out ?_;refine tk 5 [6,7,8,10,11,12,15] I.out ?_;refine tk 6 [7,8,10,11,12,15] I.out ?_;refine tk 7 [8,10,11,12,15] I.out ?_;refine tk 8 [10,11,12,15] I.out ?_;refine tk 9 [10,11,12,15] I.out ?_;refine tk 10 [11,12,15] I.out ?_;refine tk 11 [12,15] I.out ?_;refine tk 12 [15] I.out ?_;refine tk 13 [14,15] I.out ?_;refine tk 14 [15] I.out ?_;clear I;have Jf:=Xz.out.1;refine aq (i:=15) k_ rfl (λK hK=>?_);go_simp;refine hK.out _ _ (λh=>absurd rfl h) ?_;clear hK K Jf Xd;refine aJ k_ ?_ _;rw[<-Yk.out];clear Jj;have Xk:=Ve.out;have Og:IntKind.i64.wrap s.n=s.n:=by simp[IntKind.wrap,IntKind.bits,IntKind.signed];omega
   have Oa:s.n+F1-F1=s.n:=o_
   by_cases hgt:s.d<s.n+F1
   ·have Xo:max s.d (s.n+F1)=s.n+F1:=o_
    have HX:Hid (∀m,RS C ((W4.drewN m).setCell ⟨C.P,13,none⟩ (V (s.n+F1))) 0 false vl Jq Jk vI vO {s with l:=cP fn vs,n:=s.n+F1,d:=max s.d (s.n+F1)}/\ak (λk=>k=C.P) W1 ((W4.drewN m).setCell ⟨C.P,13,none⟩ (V (s.n+F1)))):=λm=>by
     have Xv:Bl W4 (W4.drewN m):=below_drewN r_ m;rw[Xo];exact⟨(Zq.out.below Xv).deep (s.n+F1) rfl ⟨o_,o_⟩,(Vu.out.of_below Xv).setCell (p:=⟨C.P,13,none⟩) rfl _⟩
    clear Xo;go_wp2_with fail;go_quiet (fail);go_wp2_with fail;refine(Xr.out _ (HX.out _).1).mono ?_;rintro x w7 ⟨⟨y,rfl⟩,Xa,Jx,Jn,Jl,Je,Xs,t7,Jv,-⟩;have y9:=(Je.box 9 _ rfl).1;have f9:=(Je.box 9 _ rfl).2;have Xc:=(Je.box 10 _ rfl).1;obtain⟨Yo,Xp⟩:=h2 Xs (λw8 W9 h8 h9=>Xb.out _ w7 w8 W9 Jl Xa Jx Jn (HX.out _).2 Je t7 Jv h8 h9);clear Je Xs t7 Jv HX;cases hrt:pv rb with
    | true=>
     rw[hrt]at y9;go_upto_region 16 with fail;obtain⟨w8,Y⟩:=q_ (w7.setCell ⟨C.P,9,none⟩ (.bool false));obtain⟨W9,U⟩:=q_ w8.drew;obtain⟨Jg,Xd,⟨v3,x3⟩,g3,Ja⟩:=Xp.out w8 W9 Y U;obtain⟨I,Jd,Jr,Jw⟩:=h4 Jg Ja U Y;clear Jg Ja U Y y9 f9 Xc;refine aM 15 (λX=>X.cell? ⟨C.P,12,none⟩=some (V (s.n+F1))/\X.cell? ⟨C.P,11,none⟩=some (.slice (some ⟨J,Z,none⟩) C.fr.length fc)/\X.cell? ⟨J,Z+f,none⟩=some (V F1)) k_ ?_;rw[<-Jw.out,<-Jr.out];refine tk 0 [13,14,15] I.out ?_;refine tk 1 [2,3,4,12,15] I.out ?_;refine tk 2 [3,4,12,15] I.out ?_;refine tk 3 [4,12,15] I.out ?_;refine tk 4 [12,15] I.out ?_;refine tk 5 [6,7,8,10,11,12,15] I.out ?_;refine tk 6 [7,8,10,11,12,15] I.out ?_;refine tk 7 [8,10,11,12,15] I.out ?_;refine tk 8 [10,11,12,15] I.out ?_;refine tk 9 [10,11,12,15] I.out ?_;refine tk 10 [11,12,15] I.out ?_;refine tk 11 [12,15] I.out ?_;refine tk 12 [15] I.out ?_;refine tk 13 [14,15] I.out ?_;refine tk 14 [15] I.out ?_;have Jf:=I.out.1;clear I;refine aq (i:=15) k_ rfl (λK hK=>?_);go_simp;refine hK.out _ _ (λh=>absurd rfl h) ?_;clear hK K Jf;refine aJ k_ ?_ _;go_wp2;go_ret;exact Jd.out Jl (λv hv=>by
      cases rb using ER.cs with
      | val v=>exact absurd rfl (Jo.out v)
      | on=>cases hrt
      | ret v=>cases hv;exact Yo.out _ rfl
      | out c=>cases hv)
    | false=>
     rw[hrt]at y9;go_upto_region 16 with fail;obtain⟨w8,Y⟩:=q_ (w7.setCell ⟨C.P,9,none⟩ (.bool false));obtain⟨W9,U⟩:=q_ w8.drew;obtain⟨Jg,Xd,⟨v3,x3⟩,g3,Ja⟩:=Xp.out w8 W9 Y U;obtain⟨I,Jd,Jr,Jw⟩:=h4 Jg Ja U Y;clear Jg Ja U Y y9 f9 Xc;refine aM 15 (λX=>X.cell? ⟨C.P,12,none⟩=some (V (s.n+F1))/\X.cell? ⟨C.P,11,none⟩=some (.slice (some ⟨J,Z,none⟩) C.fr.length fc)/\X.cell? ⟨J,Z+f,none⟩=some (V F1)) k_ ?_;rw[<-Jw.out,<-Jr.out];refine tk 0 [13,14,15] I.out ?_;refine tk 1 [2,3,4,12,15] I.out ?_;refine tk 2 [3,4,12,15] I.out ?_;refine tk 3 [4,12,15] I.out ?_;refine tk 4 [12,15] I.out ?_;refine tk 5 [6,7,8,10,11,12,15] I.out ?_;refine tk 6 [7,8,10,11,12,15] I.out ?_;refine tk 7 [8,10,11,12,15] I.out ?_;refine tk 8 [10,11,12,15] I.out ?_;refine tk 9 [10,11,12,15] I.out ?_;refine tk 10 [11,12,15] I.out ?_;refine tk 11 [12,15] I.out ?_;refine tk 12 [15] I.out ?_;refine tk 13 [14,15] I.out ?_;refine tk 14 [15] I.out ?_;have Jf:=I.out.1;clear I;refine aq (i:=15) k_ rfl (λK hK=>?_);go_simp;refine hK.out _ _ (λh=>absurd rfl h) ?_;clear hK K Jf;refine aJ k_ ?_ _;go_wp2;go_ret;exact Jd.out 0 (λv hv=>by
      cases rb using ER.cs with
      | val v=>exact absurd rfl (Jo.out v)
      | on=>cases hv;rfl
      | ret v=>cases hrt
      | out c=>cases hv)
   ·have Xo:max s.d (s.n+F1)=s.d:=o_
    have HX:Hid (∀m,RS C (W4.drewN m) 0 false vl Jq Jk vI vO {s with l:=cP fn vs,n:=s.n+F1,d:=max s.d (s.n+F1)}/\ak (λk=>k=C.P) W1 (W4.drewN m)):=λm=>by
     have Xv:Bl W4 (W4.drewN m):=below_drewN r_ m;rw[Xo];exact⟨Zq.out.below Xv,Vu.out.of_below Xv⟩
    clear Xo;go_wp2_with fail;go_quiet (fail);go_wp2_with fail;refine(Xr.out _ (HX.out _).1).mono ?_;rintro x w7 ⟨⟨y,rfl⟩,Xa,Jx,Jn,Jl,Je,Xs,t7,Jv,-⟩;have y9:=(Je.box 9 _ rfl).1;have f9:=(Je.box 9 _ rfl).2;have Xc:=(Je.box 10 _ rfl).1;obtain⟨Yo,Xp⟩:=h2 Xs (λw8 W9 h8 h9=>Xb.out _ w7 w8 W9 Jl Xa Jx Jn (HX.out _).2 Je t7 Jv h8 h9);clear Je Xs t7 Jv HX;cases hrt:pv rb with
    | true=>
     rw[hrt]at y9;go_upto_region 16 with fail;obtain⟨w8,Y⟩:=q_ (w7.setCell ⟨C.P,9,none⟩ (.bool false));obtain⟨W9,U⟩:=q_ w8.drew;obtain⟨Jg,Xd,⟨v3,x3⟩,g3,Ja⟩:=Xp.out w8 W9 Y U;obtain⟨I,Jd,Jr,Jw⟩:=h4 Jg Ja U Y;clear Jg Ja U Y y9 f9 Xc;refine aM 15 (λX=>X.cell? ⟨C.P,12,none⟩=some (V (s.n+F1))/\X.cell? ⟨C.P,11,none⟩=some (.slice (some ⟨J,Z,none⟩) C.fr.length fc)/\X.cell? ⟨J,Z+f,none⟩=some (V F1)) k_ ?_;rw[<-Jw.out,<-Jr.out];refine tk 0 [13,14,15] I.out ?_;refine tk 1 [2,3,4,12,15] I.out ?_;refine tk 2 [3,4,12,15] I.out ?_;refine tk 3 [4,12,15] I.out ?_;refine tk 4 [12,15] I.out ?_;refine tk 5 [6,7,8,10,11,12,15] I.out ?_;refine tk 6 [7,8,10,11,12,15] I.out ?_;refine tk 7 [8,10,11,12,15] I.out ?_;refine tk 8 [10,11,12,15] I.out ?_;refine tk 9 [10,11,12,15] I.out ?_;refine tk 10 [11,12,15] I.out ?_;refine tk 11 [12,15] I.out ?_;refine tk 12 [15] I.out ?_;refine tk 13 [14,15] I.out ?_;refine tk 14 [15] I.out ?_;have Jf:=I.out.1;clear I;refine aq (i:=15) k_ rfl (λK hK=>?_);go_simp;refine hK.out _ _ (λh=>absurd rfl h) ?_;clear hK K Jf;refine aJ k_ ?_ _;go_wp2;go_ret;exact Jd.out Jl (λv hv=>by
      cases rb using ER.cs with
      | val v=>exact absurd rfl (Jo.out v)
      | on=>cases hrt
      | ret v=>cases hv;exact Yo.out _ rfl
      | out c=>cases hv)
    | false=>
     rw[hrt]at y9;go_upto_region 16 with fail;obtain⟨w8,Y⟩:=q_ (w7.setCell ⟨C.P,9,none⟩ (.bool false));obtain⟨W9,U⟩:=q_ w8.drew;obtain⟨Jg,Xd,⟨v3,x3⟩,g3,Ja⟩:=Xp.out w8 W9 Y U;obtain⟨I,Jd,Jr,Jw⟩:=h4 Jg Ja U Y;clear Jg Ja U Y y9 f9 Xc;refine aM 15 (λX=>X.cell? ⟨C.P,12,none⟩=some (V (s.n+F1))/\X.cell? ⟨C.P,11,none⟩=some (.slice (some ⟨J,Z,none⟩) C.fr.length fc)/\X.cell? ⟨J,Z+f,none⟩=some (V F1)) k_ ?_;rw[<-Jw.out,<-Jr.out];refine tk 0 [13,14,15] I.out ?_;refine tk 1 [2,3,4,12,15] I.out ?_;refine tk 2 [3,4,12,15] I.out ?_;refine tk 3 [4,12,15] I.out ?_;refine tk 4 [12,15] I.out ?_;refine tk 5 [6,7,8,10,11,12,15] I.out ?_;refine tk 6 [7,8,10,11,12,15] I.out ?_;refine tk 7 [8,10,11,12,15] I.out ?_;refine tk 8 [10,11,12,15] I.out ?_;refine tk 9 [10,11,12,15] I.out ?_;refine tk 10 [11,12,15] I.out ?_;refine tk 11 [12,15] I.out ?_;refine tk 12 [15] I.out ?_;refine tk 13 [14,15] I.out ?_;refine tk 14 [15] I.out ?_;have Jf:=I.out.1;clear I;refine aq (i:=15) k_ rfl (λK hK=>?_);go_simp;refine hK.out _ _ (λh=>absurd rfl h) ?_;clear hK K Jf;refine aJ k_ ?_ _;go_wp2;go_ret;exact Jd.out 0 (λv hv=>by
      cases rb using ER.cs with
      | val v=>exact absurd rfl (Jo.out v)
      | on=>cases hv;rfl
      | ret v=>cases hrt
      | out c=>cases hv)
end
section
variable{t:Tr}
theorem zt(C:RC)(hC:C.Ok):∀n,Bq C n/\Fe C n/\Eu C n/\FN C n
 | 0=>⟨(λe s r s' h=>by cases h using Ev_i),(λf vs s r s' h=>by cases h using Ev_i),(λss z r z' h=>by cases h using Ev_i),(λs a b z r z' h=>by cases h using Ev_i)⟩
 | n+1=>by
  obtain⟨h1,h2,h3,h4⟩:=zt C hC n;exact⟨yZ C hC n h1 h2,zr C hC n h3,zp C hC n h4,zk C hC n h1 h3⟩
def ut{sc:List GA}{e:List Nd}(h:rU t sc e):A6 t e:=λn hn hk=>by
 obtain⟨f,hf,-⟩:=jZ (h n hn) hk;exact⟨f,hf⟩
theorem kY{t:Tr}:∀(m:Nat) (ss:List St) (sc:List GA),ss.length<=m->Cn t ss sc->(∀s∈ss,stmtB s=true)->∀s∈ss,Cj t s
 | 0,ss,sc,hl,_,_,s,hs=>by
  have:ss=[]:=GG o_
  subst this;cases hs
 | m+1,[],sc,hl,h,hB,s,hs=>by cases hs
 | m+1,x::q,sc,hl,h,hB,s,hs=>by
  obtain⟨⟨tk,h1,h2⟩,h3,h4,h5⟩:=h.cons;simp only[l_c]at hl;rcases mem_cons.1 hs with rfl|hs
  ·have hk:=tV h2 h1;obtain⟨p1,p2,p3⟩:=iE (hB s (mem_cons_self ..));exact⟨p1,⟨p2,ut hk.e⟩,λh3=>⟨p3 h3,ut hk.f⟩⟩
  ·have e:q=q.take x.thn.toNat++((q.drop x.thn.toNat).take x.els.toNat++q.drop (x.thn.toNat+x.els.toNat)):=by
    rw[<-drop_drop,take_append_drop,take_append_drop]
   rw[e]at hs;rcases GJ.1 hs with hs|hs
   ·exact kY m _ _ ZFs h3 (λy hy=>hB y (m_ _ (mem_of_mem_take hy))) s hs
   ·rcases GJ.1 hs with hs|hs
    ·exact kY m _ _ ZFs h4 (λy hy=>hB y (m_ _ (GK (mem_of_mem_take hy)))) s hs
    ·exact kY m _ _ ZFs h5 (λy hy=>hB y (m_ _ (GK hy))) s hs
def pB(fr:List Int)(h:(aU t).1=0)(f:Nat)(U:f<t.funcs.length)(vs:List Int)(s:ES):∃n r s',Ev t fr n (.c f vs) s r s'/\s'.u<=s.u:=by
 obtain⟨n,r,s',J,h2,-⟩:=A7 t fr (λg hg x hx=>by
  obtain⟨I,-,-⟩:=pA h hg;exact kY g.body.length g.body g.params n_ I.snd (λy hy=>(I.ok y hy).1) x hx) s.u ((Tk.c f vs).sz t) (.c f vs) s rfl n_ U
 exact⟨n,r,s',J,h2⟩
end
end Go.Proofs.YtffnkkpmlplfeaaGreatDoor
