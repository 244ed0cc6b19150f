import Derived.Test.YtngnoopnloojjaaGreatDoorQ67
import Derived.Test.YtngnoopnloojjaaGreatDoorQ63
import Derived.Test.YtngnoopnloojjaaGreatDoorQ86
import Derived.Test.YtngnoopnloojjaaGreatDoorQ85
set_option linter.all false
set_option maxRecDepth 100000
set_option maxHeartbeats 0
namespace Go.Proofs.YtngnoopnloojjaaGreatDoor
open Go.Proofs.Tryz Go.RowKit
theorem IY(a b:Int)(W:World):(Instr.typeAssert (.iface 117 (.agg #[V a,V b])) 20 117 true).run prog W=.ok (.tuple #[.agg #[V a,V b],.bool true]) W:=by kernel_rfl
theorem IZ(W:World):(Instr.typeAssert .nilIface 20 117 true).run prog W=.ok (.tuple #[.agg #[V 0,V 0],.bool false]) W:=by kernel_rfl
theorem jM [Inhabited Pick](R:Nat)(x y a b:Int)(w:World)(h0:w.cell? ⟨R,0,none⟩=some (V x)/\w.frozen? ⟨R,0,none⟩=false)(h1:w.cell? ⟨R,1,none⟩=some (V y)/\w.frozen? ⟨R,1,none⟩=false)(hR:R<w.heap.size):
  CallsD prog 65 #[pV R] (.panicking [{v:=.iface 117 (.agg #[V a,V b]),recovered:=false}]) w λe u' w'=>e=rW (.tuple #[])/\u'=.panicking [{v:=.iface 117 (.agg #[V a,V b]),recovered:=true}]/\w'.cell? ⟨R,0,none⟩=some (V a)/\w'.cell? ⟨R,1,none⟩=some (V b)/\aA (λk=>k=R) w w':=by
 obtain⟨Jc,Jb⟩:=h0;obtain⟨h10,h11⟩:=h1;refine callsD_of_wpS func65 rfl λc₀ cs hu=>?_;apply wpS_seq;apply wpS_region;simp[wpOpsS,go_sem,recoverD,hu,ntmps65,Exit.thenS,IY];have⟨W1,Ja⟩:=q_ (w.alloc (.cells #[V a,V b] 117));have⟨N,I⟩:=q_ w.heap.size;have J:Bl w W1:=by rw[Ja];exact r_.alloc n_ _
 have O:dN W1 N [V a,V b]:=by rw[Ja,I];exact de w #[V a,V b] _ (by show 2<=1000;omega)
 have H:dN W1 R [V x,V y]:=dN.below (w:=w) (λj v hv=>by
  match j,hv with
  | 0,hv=>cases hv;exact⟨Jc,Jb⟩
  | 1,hv=>cases hv;exact⟨h10,h11⟩
  | j+2,hv=>simp at hv) J
 have n0:=O 0 _ rfl;have U:=O 1 _ rfl;have Y:=H 0 _ rfl;have X:=H 1 _ rfl;have Jd:¬N=R:=o_;have Z:aA (λk=>k=R) w ((W1.setCell ⟨R,0,none⟩ (V a)).setCell ⟨R,1,none⟩ (V b)):=((J.tcs (S:=λk=>k=R)).setCell (p:=⟨R,0,none⟩) rfl _).setCell (p:=⟨R,1,none⟩) rfl _;rw[<-Ja,<-I];apply wpS_seq;apply wpS_region;simp[wpOpsS,go_sem,Exit.thenS];refine wpS_cond (t:=true) (by simp[Act.eval,Array.replicate]) ?_;simp only[if_true];apply wpS_region;simp[wpOpsS,go_sem,n0,U,Y,X,bodyPostS,results,results65,Z]
theorem zA(R:Nat)(w:World):
  CallsD prog 65 #[pV R] .returning w λe u' w'=>e=rW (.tuple #[])/\u'=.returning/\Below w.heap.size w w':=by
 refine callsD_of_wpS func65 rfl λc₀ cs hu=>?_;apply wpS_seq;apply wpS_region;simp[wpOpsS,go_sem,recoverD,hu,ntmps65,Exit.thenS,IZ];apply wpS_seq;apply wpS_region;simp[wpOpsS,go_sem,Exit.thenS];refine wpS_cond (t:=false) (by simp[Act.eval,Array.replicate]) ?_;simp only[Bool.false_eq_true,if_false];refine wpS_of_wp (wp_skip ?_);cases c₀
 have H:Bl w (w.alloc (.cells #[V 0,V 0] 117)):=aq _ _;simp_all [bodyPostS,results,results65]
def I_(C:RC)(B:Nat)(w:World)(t':Tr)(s':PS)(e:Ending)(w':World):Prop:=
 (¬ls (ak C.l) s'/\e=rW (.agg #[V 0,V 0])/\(∃m',cG C m' w' s'/\Dx B w' m' t')/\Below C.B0 w w') \/
 (ls (ak C.l) s'/\e=rW (.agg #[V (qL (ak C.l) s').1,V (qL (ak C.l) s').2])/\Below C.B0 w w')
theorem zB [Inhabited Pick]{C:RC}(HN:nT C){n:Nat}(hn:n<=1000000){w:World}{k:Nat}{Y:Tr}{J:PS}{kd:Int}{tt:ByteArray}{vl pl:Int}(hC:Dv C)(hP:C.P+1=w.heap.size)(hb:∀W,Below w.heap.size w W->C.P+1<W.heap.size->mt C W (lN C.l 0:Int) kd tt vl pl ⟨nV,nV,false⟩ 0)(hp:xP (ak C.l) n k Ds Ij Y J)(Jp:Mw C.K 0 Y)(hK:C.K<=20000):
  Calls prog 42 #[pV C.P] w (I_ C (w.heap.size+1) w Y J):=by
 have⟨W1,Jc⟩:=q_ (w.alloc (.cells #[V 0,V 0] 117));have⟨R,eR⟩:=q_ w.heap.size;have Jg:Bl w W1:=by rw[Jc];exact r_.alloc n_ _
 have Jl:dN W1 R [V 0,V 0]:=by rw[Jc,eR];exact de w #[V 0,V 0] _ (by show 2<=1000;omega)
 have Ju:W1.heap.size=w.heap.size+1:=by rw[Jc];simp
 have Jo:R<W1.heap.size:=o_;have Jy:=ah ((HN W1 0 kd tt vl pl _ 0 hC (hb W1 Jg o_) y_ o_).mono λe w' hz=>hz Ds rfl rfl rfl);have Jx:=ah λm W (I:cG C m W Ds) (h2:Dx (R+1) W m Ij) (h3:R+1<=W.heap.size)=>CP HN hn hp Jp hK I h2 o_ h3;have Jk:=hC.hi;have Jd:C.B0<=W1.heap.size:=o_
 have Jb:Hid (R=C.P+1):=by show R=C.P+1;omega
 have Jh:=ah λW (h:Kp C W1 W)=>Jl.tcs Jo h (λe=>e.2 Jb);have Je:Hid (∀W z W',ls (ak C.l) z->Dm (ak C.l) z J->Kp C W1 W->aA (λk=>k=R) W W'->I_ C (R+1) w Y J (rW (.agg #[V (qL (ak C.l) z).1,V (qL (ak C.l) z).2])) W'):=λW z W' Z hm hk ht=>by have⟨U,d2⟩:=hm Z;refine .inr ⟨U,by rw[d2],?_⟩;have I:Below C.B0 w W:=(Jg.mono o_).trans (hk.low Jd);exact ht.below I (t_ Jd (aA.size hk)) (λk hk=>by rw[hk,Jb.out];omega)
 have Js:Hid (∀m W W',cG C m W J->Dx (R+1) W m Y->Kp C W1 W->aA (λk=>k=R) W W'->I_ C (R+1) w Y J (rW (.agg #[V 0,V 0])) W'):=λm W W' I h2 hk ht=>by refine .inl ⟨I.al,rfl,⟨m,I.tcs ht (λe=>by have:=Jb.out;omega) (λk hk=>by rw[hk,Jb.out];omega),?_⟩,?_⟩;exact h2.tcs ht (λk hk=>by omega);have I:Below C.B0 w W:=(Jg.mono o_).trans (hk.low Jd);exact ht.below I (t_ Jd (aA.size hk)) (λk hk=>by rw[hk,Jb.out];omega)
 have Jv:Hid (Dm (ak C.l) Ds J):=hp.pg.dm;have Jq:Hid (∀W,aA (λk=>k=C.P) W1 W->Kp C W1 W):=λW h=>aA.mono h (λk hk=>by rw[hk];exact⟨Jk,o_⟩);have Jt:=ah λW W' (I:Kp C W1 W) (h2:aA (λk=>k=C.P\/R+1<=k) W W')=>Kp.trans I (aA.mono h2 (λk hk=>by have:=Jb.out;omega));have Jz:∀(fn:Fn) (first cap:Array Value) (w:World),(Instr.makeFunc fn first cap).run prog w=.ok (.func fn first cap) w:=λ_ _ _ _=>rfl;have Jr:Hid (R+1<=W1.heap.size):=by show R+1<=_;omega
 have Jw:=ah Jc;have HR:=ah eR;clear hb hp Jp hK HN hC Jg Jl Jc eR Jo Ju Jk Jd hP;go_enter_defers func42,ntmps42;go_upto_region 2 with fail;rw[<-Jw.out,<-HR.out];go_wp2_with fail;refine Jy.out.mono (λe w2 hg=>?_);rcases hg.symm with Z|⟨-,rfl,z2,t2⟩
 ·obtain⟨U,rfl,X⟩:=Z;have H:=Jh.out w2 X;have HF:=ah (λW' ht=>Je.out w2 Ds W' U Jv.out X ht);unfold aK at*;generalize (qL (ak C.l) Ds).1=f1 at*;generalize (qL (ak C.l) Ds).2=f2 at*;clear U X;go_wp2_with fail;refine leaves_cons (f:=65) (args:=#[pV R]) i_ (by simp[go_sem]) ?_;refine(jM R 0 0 f1 f2 _ (H 0 _ rfl) (H 1 _ rfl) (b_ (H 0 _ rfl).1)).mono ?_;rintro e u' w3 ⟨rfl,rfl,c0,c1,t3⟩;have O:=HF.out w3 t3;simp[Leaves,settle,results,results42,go_sem,c0,c1];first|exact O|(rw[<-HR.out];exact O)
 have Jf:=Jq.out w2 t2;have Jn:=ah (Jx.out _ w2 z2 (IX _ _) (t_ Jr.out t2.size));clear z2 t2;go_wp2_with fail;refine Jn.out.mono (λe w3 hg=>?_);rcases hg.symm with Z|⟨-,m',rfl,Ji,Jj,t3⟩
 ·obtain⟨U,rfl,X⟩:=Z;have Ja:=Jf.trans X;have H:=Jh.out w3 Ja;have HF:=ah (λW' ht=>Je.out w3 J W' U (Dm.refl _) Ja ht);unfold aK at*;generalize (qL (ak C.l) J).1=f1 at*;generalize (qL (ak C.l) J).2=f2 at*;clear U X Ja Jf;go_wp2_with fail;refine leaves_cons (f:=65) (args:=#[pV R]) i_ (by simp[go_sem]) ?_;refine(jM R 0 0 f1 f2 _ (H 0 _ rfl) (H 1 _ rfl) (b_ (H 0 _ rfl).1)).mono ?_;rintro e u' w4 ⟨rfl,rfl,c0,c1,t4⟩;have O:=HF.out w4 t4;simp[Leaves,settle,results,results42,go_sem,c0,c1];first|exact O|(rw[<-HR.out];exact O)
 have Ja:=Jt.out w2 w3 Jf t3;have H:=Jh.out w3 Ja;have r0:=H 0 _ rfl;have r1:=H 1 _ rfl;have HF:=ah (λW' ht=>Js.out m' w3 W' Ji Jj Ja ht);have Jm:dN ((w3.setCell ⟨R,0,none⟩ (V 0)).setCell ⟨R,1,none⟩ (V 0)) R [V 0,V 0]:=(H.set 0 (V 0)).set 1 (V 0);have t5:aA (λk=>k=R) w3 ((w3.setCell ⟨R,0,none⟩ (V 0)).setCell ⟨R,1,none⟩ (V 0)):=((aA.refl (λk=>k=R) w3).setCell (p:=⟨R,0,none⟩) rfl _).setCell (p:=⟨R,1,none⟩) rfl _;have H5:=ah (And.intro Jm t5);clear Ji Jj t3 Jf Ja H Jn Jm t5;go_wp2_with fail;refine leaves_cons (f:=65) (args:=#[pV R]) i_ (by simp[go_sem]) ?_;refine(zA R _).mono ?_;rintro e u' w4 ⟨rfl,rfl,b4⟩;have O:=HF.out w4 (H5.out.2.of_below b4);have c0:=(H5.out.1.below b4 0 _ rfl).1;have c1:=(H5.out.1.below b4 1 _ rfl).1;simp[Leaves,settle,results,results42,go_sem,c0,c1];first|exact O|(rw[<-HR.out];exact O)
section
variable{B k:Nat}{w:World}{t:Tr}
def OI(r:Int×Int×Tr)(w:World)(e:Ending)(w':World):Prop:=∃vg vf Q,e=rW (.agg #[V r.1,V r.2.1,vg,vf])/\aS w.heap.size w' vg vf r.2.2 Q/\Below w.heap.size w w'
theorem aS.base[Inhabited Pick]{B':Nat}{vg vf:Value}{Q:List FV}(h:aS B w vg vf t Q)(hb:B'<=B):aS B' w vg vf t Q:=⟨mh h.gs hb,h.fs.base hb,h.map,h.sep⟩
theorem FP(h:∃g∈t.gl,g.size= -1):co t=false:=by
 obtain⟨g,H,e⟩:=h;have:t.gl.all fN=false:=by rw[List.all_eq_false];refine⟨g,H,?_⟩;unfold fN;rw[e];simp
 unfold co;rw[this];simp
theorem LK [Inhabited Pick]{v:Value}{H:List Gl}{K:List Nat}(h:ir B w v H.length (eU H) K):dz w v H:=by
 have e:eU H=AR H:=rfl;rw[e]at h;rcases h with⟨J,-,a,c,rfl,O⟩|⟨g,Jb,rfl,-,h3,h4,-,-,h7⟩;exact⟨a,c,by rw[J],o_,O,λhp=>absurd hp o_⟩;refine⟨_,Jb,rfl,h3,h4,λ_=>⟨g,0,rfl,λj hj=>?_⟩⟩;have Ja:∀i (hi:i<2),w.cell? ⟨g,0+j*2+i,none⟩=(IU H[j])[i]? := λi hi=>by have e:=sP H j i hj hi;have I:i<(IU H[j]).length:=hi;rw[List.getElem?_eq_getElem I]at e⊢;rw[Nat.zero_add];exact(h7 _ _ e).1
 exact⟨Ja 0 o_,Ja 1 o_⟩
theorem N0[Inhabited Pick]{T:Nat->To}{n:Nat}{s t t' s'}(h:xP T n k s t t' s'):ls T s'↔s'.er≠0:=by
 have:=h.pg.end4
 unfold ls;constructor
 ·rintro(h1|h1)
  ·exact h1
  ·rcases this with h2|h2
   ·exact h2
   ·rw[h1]at h2;cases h2
 ·exact λh=>.inl h
theorem CQ [Inhabited Pick](w:World)(b c:Nat)(l:List UInt8)(hT:zo w b l)(hb:b<w.heap.size)(hl:l.length<=20000)(hc:l.length<=c)(Xv:w.rangeAt 8 0 gE)(Xi:Dw w)(Jb:eG w)(Xu:8<w.heap.size){K:Nat}{s:PS}(hR:Rn l (ak l) K k t s):
  Calls prog 24 #[rV b l.length c] w (OI (ug l t s) w):=by
 have⟨W1,Jo⟩:=q_ (w.alloc (.cells #[V 0,V 0,nV,nV] 65));have⟨R,eR⟩:=q_ w.heap.size;have⟨P,eP⟩:=q_ (w.heap.size+1);have⟨W2,Jr⟩:=q_ (W1.alloc (.cells #[rV b l.length c,V 0,V 0,sV ⟨#[]⟩,V 0,V 0,nV,nV,V 0,.bool false] 115));have Xt:Bl w W1:=by rw[Jo];exact r_.alloc n_ _
 have Xa:Bl W1 W2:=by rw[Jr];exact r_.alloc n_ _
 have s1:W1.heap.size=w.heap.size+1:=by rw[Jo];simp
 have s2:W2.heap.size=W1.heap.size+1:=by rw[Jr];simp
 have Xs:dN W1 R [V 0,V 0,nV,nV]:=by rw[Jo,eR];exact de w #[V 0,V 0,nV,nV] _ (by show 4<=1000;omega)
 obtain⟨C,Z⟩:∃C:RC,C=⟨P,b,c,P,K,l⟩:=⟨_,rfl⟩;have Xj:dN W2 P (C.box 0 0 ⟨#[]⟩ 0 0 ⟨nV,nV,false⟩ 0):=by have e:P=W1.heap.size:=o_;rw[Z,Jr,e];exact de W1 #[rV b l.length c,V 0,V 0,sV ⟨#[]⟩,V 0,V 0,nV,nV,V 0,.bool false] _ (by show 10<=1000;omega)
 have Xg:5<w.heap.size:=by obtain⟨ev,h1,-⟩:=Xi;exact b_ h1
 have hC:Dv C:=by rw[Z];exact⟨by show b<P;omega,n_,by show _<P;omega,by show _<P;omega,hl,hc,hR.las⟩
 have Jg:Bl w W2:=Xt.trans (Xa.mono o_);have Xq:∀W,Bl W2 W->C.P+1<W.heap.size->mt C W (lN C.l 0:Int) 0 ⟨#[]⟩ 0 0 ⟨nV,nV,false⟩ 0:=λW hW hs=>by have hw:Bl w W:=Jg.trans (hW.mono o_);subst Z;exact⟨Xj.below hW,hT.below hw hb,λj v U=>(c_ (a:=⟨8,0+j,none⟩) (hw.block 8 Xu)).trans (Xv j v U),Xi.tcs (S:=λ_=>False) hw.tcs (λh=>h),hs⟩
 have Ya:Hid (Calls prog 42 #[pV P] W2 (I_ C (W2.heap.size+1) W2 t s)):=by
  have hK:K<=20000:=by have:=hR.kl;omega
  subst Z;exact zB (C:=⟨P,b,c,P,K,l⟩) Fy (n:=20*K+40) o_ hC (by show P+1=_;omega) Xq hR.pg hR.sm hK
 have Xn:C.B0=P/\C.P=P/\C.l=l:=by rw[Z];exact⟨rfl,rfl,rfl⟩
 have HI:=ah (And.intro Jg (And.intro (Xs.below Xa) (And.intro Jb (And.intro Xn hR))));have Xx:=ah (And.intro s1 (And.intro s2 (And.intro eR eP)));have Xy:=ah Jo;have Xw:=ah Jr;have HR:=ah eR;have HP:=ah eP;clear Jo Jr eR eP Z Xt Xa s1 s2 Xs Xj Xg hC Jg Xq hT hb Xi Jb Xu Xv hR Xn;go_in;go_upto_region 4 with fail;rw[<-Xy.out,<-HP.out,<-HR.out,<-Xw.out];go_wp2_with fail;refine Ya.out.mono (λe w3 hg=>?_);have hI:=HI.out;obtain⟨Jg,Ju,Jb,⟨Xo,Xk,Yb⟩,Jn⟩:=hI;have Jx:=Xx.out;have Jm:=N0 Jn.pg;rw[<-Yb]at Jm;have Jj:Below P W2 w3:=by rcases hg with⟨-,-,-,h⟩|⟨-,-,h⟩;rw[Xo]at h;exact h;rw[Xo]at h;exact h
 have Jk:Bl w w3:=Jg.trans (Jj.mono o_);have Jq:dN w3 R [V 0,V 0,nV,nV]:=Ju.keep (Jj.block R o_);have Jw:=Jj.size;have Jp:eG w3:=Jb.below Jb.size Jk;have Jd:Hid (∀(W X:World) (x y:Int) (vg vf:Value) (tt:Tr) (Q:List FV),Bl w3 W->aA (λk=>k=R) W X->aS (W2.heap.size+1) W vg vf tt Q->(x,y,tt)=ug l t s->OI (ug l t s) w (rW (.agg #[V x,V y,vg,vf])) X):=λW X x y vg vf tt Q h1 h2 h3 h4=>by rw[<-h4];refine⟨vg,vf,Q,rfl,(h3.tcs h2 (λk hk=>by omega)).base o_,?_⟩;have h5:Bl w W:=Jk.trans (h1.mono (by have:=Jk.size;omega));exact h2.below h5 h5.size (λk hk=>by omega)
 rcases hg with⟨Jz,rfl,⟨m',st,tr⟩,-⟩|⟨hd,rfl,-⟩
 ·have Jh:s.er=0:=by by_cases h:s.er=0;exact h;exact absurd (Jm.2 h) Jz
  have⟨W4,Je⟩:=q_ (w3.alloc (.cells #[V 0,V 0] 117));have⟨F,J⟩:=q_ w3.heap.size;have Jc:Bl w3 W4:=by rw[Je];exact r_.alloc n_ _
  have Jf:dN W4 F [V 0,V 0]:=by rw[Je,J];exact de w3 #[V 0,V 0] _ (by show 2<=1000;omega)
  have Ji:=st.below Jc;have Ja:=Jq.below Jc;have⟨I,Q,H⟩:=tr.tcs (S:=λ_=>False) Jc.tcs (λk h=>h.elim);have p9:=Ji.q.2.2;have p6:=Ji.q.1;have p7:=Ji.q.2.1;rw[Xk]at p9 p6 p7;obtain⟨ga,gc,Xe,-⟩:=fo H.own.gs;have⟨fa,fc,Xh⟩:=H.own.fs.shape;obtain⟨vg,vf,nz⟩:=m';dsimp only at p9 p6 p7 Xe Xh;have⟨gn,Jy⟩:=q_ I.gl.length;have⟨fn,Xc⟩:=q_ Q.length;rw[<-Jy]at Xe;rw[<-Xc]at Xh;subst Xe Xh;have HJ:=ah H;have Xp:=ah Jc;have Yc:Hid (eG W4):=Jp.below Jp.size Jc;have Xl:=ah Jh;have f0:=Jf 0 _ rfl;have f1:=Jf 1 _ rfl;have Jt:=ah Je;have HF:=ah J;have Yd:P≠R:=o_;cases nz
  ·have J_:I.gl=t.gl:=H.eq rfl;have Xb:=H.fu;have ht:I=t:=(by cases I;cases t;simp only at J_ Xb;rw[J_,Xb]);subst ht;have Xm:=Jn.sm.small (by have:=Jn.kl;omega);have Xd:dz W4 (.slice ga gn gc) I.gl/\cF W4 (.slice fa fn fc) I.fc:=by
    obtain⟨Kg,k1,-⟩:=ir.of_own H.own.gs;refine⟨?_,?_⟩;exact LK k1
    have:=H.own.fs.fc
    rw[H.own.map]at this;exact this
   have HV:=ah (sG I _ _ W4 Yc.out Xm Xd.1 Xd.2);have X_:=ah Ja;have Xz:=ah Ji;clear Ja Jf Je J Ji Jc st tr H Jm Jj Jk Jq Jw Jp Jx Jg Ju Jb Jn Xd Xm J_ Xb Jy Xc Jz Jh;go_upto_region 5 with fail;rw[<-Jt.out,<-HF.out];go_wp2_with fail;refine HV.out.mono ?_;rintro e w5 ⟨rfl,b5⟩;have Jl:=X_.out.below b5;have Y:=Jl 0 _ rfl;have r1:=Jl 1 _ rfl;have r2:=Jl 2 _ rfl;have r3:=Jl 3 _ rfl;have Js:=Xz.out.below b5;have q6:=Js.q.1;have q7:=Js.q.2.1;rw[Xk]at q6 q7;dsimp only at q6 q7;have Jv:=Xp.out.trans (b5.mono Xp.out.size);have Xf:=HJ.out.own.tcs (S:=λ_=>False) b5.tcs (λk h=>h.elim);cases U:co I
   ·have O:=ah λX (hX:aA (λk=>k=R) w5 X)=>Jd.out w5 X 5 _ _ _ Ij [] Jv hX (aS.nil _ _) (by unfold ug;rw[if_neg (by simp[Xl.out]),if_neg (by simp[U])]);clear Jl Js b5 Jv Xf p6 p7 p9 f0 f1;go_wp2_with fail;refine bodyPost_ret (v:=.agg #[V 5,V (l.length:Int),nV,nV]) (by simp[results,results24,go_sem,Y,r1,r2,r3]) rfl (O.out _ (((((aA.refl (λk=>k=R) w5).setCell (p:=⟨R,0,none⟩) rfl _).setCell (p:=⟨R,1,none⟩) rfl _).setCell (p:=⟨R,2,none⟩) rfl _).setCell (p:=⟨R,3,none⟩) rfl _))
   have O:=ah λX (hX:aA (λk=>k=R) w5 X)=>Jd.out w5 X 0 0 _ _ I Q Jv hX Xf (by unfold ug;rw[if_neg (by simp[Xl.out]),if_pos U]);clear Jl Js b5 Jv Xf p6 p7 p9 f0 f1;go_wp2_with fail;refine bodyPost_ret (v:=.agg #[V 0,V 0,.slice ga gn gc,.slice fa fn fc]) (by simp[results,results24,go_sem,Y,r1,r2,r3]) rfl (O.out _ (((((aA.refl (λk=>k=R) w5).setCell (p:=⟨R,0,none⟩) rfl _).setCell (p:=⟨R,1,none⟩) rfl _).setCell (p:=⟨R,2,none⟩) rfl _).setCell (p:=⟨R,3,none⟩) rfl _))
  have U:co t=false:=FP (H.bad rfl);have Y:=Ja 0 _ rfl;have r1:=Ja 1 _ rfl;have r2:=Ja 2 _ rfl;have r3:=Ja 3 _ rfl;have O:=ah λX (hX:aA (λk=>k=R) W4 X)=>Jd.out W4 X 5 _ _ _ Ij [] Jc hX (aS.nil _ _) (by unfold ug;rw[if_neg (by simp[Jh]),if_neg (by simp[U])]);clear Ja Jf Je J Ji Jc st tr H Jm Jj Jk Jq Jw Jp Jx Jg Ju Jb Jn Jy Xc Jz Jh U;go_upto_region 5 with fail;rw[<-Jt.out,<-HF.out];go_wp2_with fail;refine bodyPost_ret (v:=.agg #[V 5,V (l.length:Int),nV,nV]) (by simp[results,results24,go_sem,Y,r1,r2,r3]) rfl (O.out _ (((((aA.refl (λk=>k=R) W4).setCell (p:=⟨R,0,none⟩) rfl _).setCell (p:=⟨R,1,none⟩) rfl _).setCell (p:=⟨R,2,none⟩) rfl _).setCell (p:=⟨R,3,none⟩) rfl _))
 have Jh:s.er≠0:=Jm.1 hd;have Xr:qL (ak C.l) s=(s.er,s.pl):=by unfold qL;rw[if_neg Jh]
 rw[Xr];dsimp only;have⟨W4,Je⟩:=q_ (w3.alloc (.cells #[V s.er,V s.pl] 117));have⟨F,J⟩:=q_ w3.heap.size;have Jc:Bl w3 W4:=by rw[Je];exact r_.alloc n_ _
 have Jf:dN W4 F [V s.er,V s.pl]:=by rw[Je,J];exact de w3 #[V s.er,V s.pl] _ (by show 2<=1000;omega)
 have Ja:=Jq.below Jc;have f0:=Jf 0 _ rfl;have f1:=Jf 1 _ rfl;have Y:=Ja 0 _ rfl;have r1:=Ja 1 _ rfl;have r2:=Ja 2 _ rfl;have r3:=Ja 3 _ rfl;have Ye:F≠R:=o_;have O:=ah λX (hX:aA (λk=>k=R) W4 X)=>Jd.out W4 X _ _ _ _ Ij [] Jc hX (aS.nil _ _) (by unfold ug;rw[if_pos Jh]);have Jt:=ah Je;have HF:=ah J;clear Ja Jf Je J Jc Jm Jj Jk Jq Jw Jp Jx Jg Ju Jb Jn Xr hd Jd;generalize s.er=er at*;generalize s.pl=pl at*;go_upto_region 5 with fail;rw[<-Jt.out,<-HF.out];go_wp2_with fail;refine bodyPost_ret (v:=.agg #[V er,V pl,nV,nV]) (by simp[results,results24,go_sem,Y,r1,r2,r3]) rfl (O.out _ (((((aA.refl (λk=>k=R) W4).setCell (p:=⟨R,0,none⟩) rfl _).setCell (p:=⟨R,1,none⟩) rfl _).setCell (p:=⟨R,2,none⟩) rfl _).setCell (p:=⟨R,3,none⟩) rfl _))
end
theorem Df [Inhabited Pick](v:Value)(t:Tr)(Xc:∀f∈t.fc,∀s∈f.bd,s.kd=6/\∀n∈s.e,n.kd=5\/n.kd=7)(w:World)(r:List Int)(bd:Int)(H:eG w)(Jq:jr w)(hs:eK t)(hw:xL t)(h0:t.gl=[])(J_:∀x∈aV t,x<=2032)(Xf:dI t=bd)
  (Jk:∀r',pO (jQ t) r'->r'=r) (hr:0<r.length) (Xa:∀i,i<(jQ t).length->(Lit.int .i64 ((jQ t).getD i cV).label).wf=true) (Xe:(jQ t).length<=1048576) (Xb:(aV t).length<=1000)
  (Xd:(aL t).1=0) (Jl:Gx t t) (hP:∀W,Below w.heap.size w W->Calls prog 24 #[v] W (OI (0,0,t) W)):
  Calls prog 17 #[v] w λe w'=>∃a c,e=rW (.agg #[V 0,V 0,V 0,.slice a r.length c,V 0,V bd])/\fC w.heap.size w' (.slice a r.length c) r/\Below w.heap.size w w':=by
 have⟨W1,Jh⟩:=q_ (w.alloc (.cells #[V 0,V 0,V 0,nV,V 0,V 0] 49));have Jp:Bl w W1:=by rw[Jh];exact r_.alloc n_ _
 have Xt:W1.heap.size=w.heap.size+1:=by rw[Jh];simp
 have Xk:Hid (∀W,Bl W1 W->dN W w.heap.size [V 0,V 0,V 0,nV,V 0,V 0]):=λW h=>by
  have e:dN W1 w.heap.size [V 0,V 0,V 0,nV,V 0,V 0]:=by rw[Jh];exact de w #[V 0,V 0,V 0,nV,V 0,V 0] _ (by show 6<=1000;omega)
  exact e.below h
 have Jc:Hid (∀W,Bl W1 W->eG W):=λW h=>H.below H.size (Jp.trans (h.mono o_))
 have Xn:Hid (∀W,Bl W1 W->jr W):=λW h=>Jq.below (Jp.trans (h.mono o_))
 have Jx:Hid (Calls prog 24 #[v] W1 (OI (0,0,t) W1)):=hP W1 Jp;have Xm:=ah λW vg vf (H:eG W) (hg:dz W vg t.gl) (hf:cF W vf t.fc)=>xj t Xd vg vf W H hs hw hg hf
 have Xl:=ah λW vg vf (H:eG W) (hg:dz W vg t.gl) (hf:cF W vf t.fc)=>GA t t vg vf W Jl H hs hw hg hf
 have Xg:=ah λW vg vf (H:eG W) (Jq:jr W) (hg:dz W vg t.gl) (hf:cF W vf t.fc)=>z_ t Xc vg vf W r bd H Jq hs hw hg hf h0 J_ Xf Jk hr Xa Xe Xb
 have Xj:=ah Jh;clear Xc H Jq hs hw h0 J_ Xf Jk hr Xa Xe Xb Xd Jl hP Jh;go_in;go_wp2_with fail;rw[<-Xj.out];refine Jx.out.mono ?_;rintro x w2 ⟨vg,vf,Q,rfl,Jm,Jv⟩;obtain⟨Y,X,Z,rfl⟩:∃a n c,vg=.slice a n c:=by rcases Jm.gs.2 with⟨rfl,-⟩|⟨g,Xu,Xr,rfl,-⟩ <;> exact⟨_,_,_,rfl⟩
 obtain⟨O,U,rfl⟩:=Jm.fs.shape;generalize hnf:Q.length=nf at*;have⟨W3,Ji⟩:=q_ (w2.alloc (.cells #[V 0,V 0,.slice Y X Z,.slice O nf U] 65));have Jf:Bl w2 W3:=by rw[Ji];exact r_.alloc n_ _
 have Xq:W3.heap.size=w2.heap.size+1:=by rw[Ji];simp
 have Jr:Bl W1 W3:=Jv.trans (Jf.mono Jv.size);have Je:Hid (∀W,Bl W3 W->dN W w2.heap.size [V 0,V 0,.slice Y X Z,.slice O nf U]):=λW h=>by
  have e:dN W3 w2.heap.size [V 0,V 0,.slice Y X Z,.slice O nf U]:=by rw[Ji];exact de w2 #[V 0,V 0,.slice Y X Z,.slice O nf U] _ (by show 4<=1000;omega)
  exact e.below h
 have Jo:=ah λW (h:Bl W3 W)=>(Jm.below (Jf.trans (h.mono o_))).read
 have Xi:=ah Ji;obtain⟨p0,-⟩:=Je.out W3 r_ 0 _ rfl;obtain⟨p1,-⟩:=Je.out W3 r_ 1 _ rfl;obtain⟨p2,-⟩:=Je.out W3 r_ 2 _ rfl;obtain⟨p3,-⟩:=Je.out W3 r_ 3 _ rfl;clear Jm Ji hnf Jx;go_upto_region 2 with fail;rw[<-Xi.out];go_wp2_with fail;refine(Xm.out W3 _ _ (Jc.out W3 Jr) (Jo.out W3 r_).1 (Jo.out W3 r_).2).mono ?_;rintro x w4 ⟨rfl,Jz⟩;clear p0 p1 p2 p3;have⟨W5,Jn⟩:=q_ (w4.alloc (.cells #[V 0,V (-1),V (-1)] 68));have Jt:Bl w4 W5:=by rw[Jn];exact r_.alloc n_ _
 have Jb:Bl W3 W5:=Jz.trans (Jt.mono Jz.size);have Js:Bl W1 W5:=Jr.trans (Jb.mono Jr.size);have k0:W5.cell? ⟨w4.heap.size,0,none⟩=some (V 0):=by rw[Jn];simp
 have Xo:=ah Jn;obtain⟨p2,-⟩:=Je.out W5 Jb 2 _ rfl;obtain⟨p3,-⟩:=Je.out W5 Jb 3 _ rfl;clear Jn;go_upto_region 5 with fail;rw[<-Xo.out];go_wp2_with fail;refine(Xl.out W5 _ _ (Jc.out W5 Js) (Jo.out W5 Jb).1 (Jo.out W5 Jb).2).mono ?_;rintro x w6 ⟨ga,gn,gc,fa,fn,fc,Q6,rfl,Jj,Xh⟩;have Ja:Bl W1 w6:=Js.trans (Xh.mono Js.size);have⟨Jw,Jy⟩:=Jj.read;clear Jj k0 p2 p3;go_wp2_with fail;refine(Xg.out w6 _ _ (Jc.out w6 Ja) (Xn.out w6 Ja) Jw Jy).mono ?_;rintro x w7 ⟨a,c,rfl,Ju,Xp⟩;have Jg:Bl W1 w7:=Ja.trans (Xp.mono Ja.size);have I:=Xk.out w7 Jg;have⟨r0,f0⟩:=I 0 _ rfl;have⟨r1,f1⟩:=I 1 _ rfl;have⟨r2,f2⟩:=I 2 _ rfl;have⟨r3,f3⟩:=I 3 _ rfl;have⟨r4,f4⟩:=I 4 _ rfl;have⟨r5,f5⟩:=I 5 _ rfl;have HF:=ah (((((((I.set 0 (V 0)).set 1 (V 0)).set 2 (V 0)).set 3 (.slice a r.length c)).set 4 (V 0)).set 5 (V bd)));have HU:=ah Ju;have Xs:=Ja.size;clear I Ju Jw Jy;go_wp2_with fail;have J:=HF.out;have t0:=(J 0 _ rfl).1;have t1:=(J 1 _ rfl).1;have t2:=(J 2 _ rfl).1;have t3:=(J 3 _ rfl).1;have t4:=(J 4 _ rfl).1;have t5:=(J 5 _ rfl).1;refine bodyPost_ret (v:=.agg #[V 0,V 0,V 0,.slice a r.length c,V 0,V bd]) (by simp[results,results17,go_sem,t0,t1,t2,t3,t4,t5]) rfl ⟨a,c,rfl,?_,?_⟩;refine fC.base (gC HU.out λg hg=>?_) (B':=w.heap.size) o_;have h1:=(World.ownsRow.lt HU.out g hg).1;have Jd:g≠w.heap.size:=o_;rw[Below.heap_setCell _ _ _ g Jd,Below.heap_setCell _ _ _ g Jd,Below.heap_setCell _ _ _ g Jd,Below.heap_setCell _ _ _ g Jd,Below.heap_setCell _ _ _ g Jd,Below.heap_setCell _ _ _ g Jd];have hB:Bl w w7:=Jp.trans (Jg.mono o_);exact(((((hB.setCell (p:=⟨w.heap.size,0,none⟩) n_ _).setCell (p:=⟨w.heap.size,1,none⟩) n_ _).setCell (p:=⟨w.heap.size,2,none⟩) n_ _).setCell (p:=⟨w.heap.size,3,none⟩) n_ _).setCell (p:=⟨w.heap.size,4,none⟩) n_ _).setCell (p:=⟨w.heap.size,5,none⟩) n_ _
theorem Ba [Inhabited Pick]{op:Int}(h:0<=op/\op<=15):18<=(kw op).length/\(kw op).length<=19:=by
 rcases mA h with rfl|rfl|rfl|rfl|rfl|rfl|rfl|rfl|rfl|rfl|rfl|rfl|rfl|rfl|rfl|rfl
 all_goals decide
theorem Jq [Inhabited Pick]{op:Int}(h:0<=op/\op<=15):(Dz op).length<=1048576:=by
 rcases mA h with rfl|rfl|rfl|rfl|rfl|rfl|rfl|rfl|rfl|rfl|rfl|rfl|rfl|rfl|rfl|rfl
 all_goals decide
theorem Jr(op:Int):∀f∈(tOp op).fc,∀s∈f.bd,s.kd=6/\∀n∈s.e,n.kd=5\/n.kd=7:=by intro f h s H;simp only[tOp,List.mem_singleton]at h;subst h;simp only[List.mem_singleton]at H;subst H;refine⟨rfl,λn hn=>?_⟩;simp only[sRt,List.mem_cons,List.not_mem_nil,or_false]at hn;rcases hn with rfl|rfl|rfl;exact .inl rfl;exact .inl rfl;exact .inr rfl
theorem Js [Inhabited Pick]{op:Int}(h:0<=op/\op<=15)(w:World)(b c:Nat)(I:zo w b (oh op))(J:b<w.heap.size)(O:(oh op).length<=c)(Jd:w.rangeAt 8 0 gE)(Je:Dw w)(Ja:eG w)(Jb:jr w)(Jc:8<w.heap.size):
  Calls prog 17 #[rV b (oh op).length c] w λe w'=>∃a c',e=rW (.agg #[V 0,V 0,V 0,.slice a (kw op).length c',V 0,V 16])/\fC w.heap.size w' (.slice a (kw op).length c') (kw op)/\Below w.heap.size w w':=by
 have U:=GM h;refine Df _ (tOp op) (Jr op) w (kw op) 16 Ja Jb (GP op) (L9 op) rfl (by rw[nG h];intro x H;simp at H;omega) (xI h) (λr' hr=>hr.one (by rw[zV h];exact Ma h)) (by have:=Ba h;omega) (by rw[zV h];exact Oj) (by rw[zV h];exact Jq h) (by rw[nG h];decide) (by rw[mB h]) (L7 h) (λW hW=>?_)
 have:=CQ W b c (oh op) (I.below hW J) (by have:=hW.size;omega) o_ O (λj v hv=>(c_ (a:=⟨8,0+j,none⟩) (hW.block 8 Jc)).trans (Jd j v hv)) (Je.tcs (S:=λ_=>False) hW.tcs (λh=>h)) (Ja.below Ja.size hW) (by have:=hW.size;omega) (Oi h)
 rw[L_ h]at this;exact this
theorem Jt [Inhabited Pick]{op:Int}(h:0<=op/\op<=15):∀j,j<(kw op).length->0<=(kw op).getD j 0/\(kw op).getD j 0<=4294967295:=by
 rcases mA h with rfl|rfl|rfl|rfl|rfl|rfl|rfl|rfl|rfl|rfl|rfl|rfl|rfl|rfl|rfl|rfl
 all_goals decide
theorem Ju [Inhabited Pick]{op a b:Int}(h:0<=op/\op<=15)(ha:iB a)(hb:iB b)(w:World)(U c:Nat)(hT:zo w U (oh op))(ht:U<w.heap.size)(hc:(oh op).length<=c)(Jq:w.rangeAt 8 0 gE)(Jp:Dw w)(Jc:eG w)(Jr:jr w)(Jv:8<w.heap.size)(v:Value)(X:dy .i64 w v [a,b]):
  Calls prog 7 #[rV U (oh op).length c,v,V 100] w λe w'=>∃ra rc pc lo da dn dc sa sn sc ia inn ic oa on oc,e=rW (.agg #[.slice ra 32 rc,.int .u32 pc,.slice da dn dc,.slice sa sn sc,.slice ia inn ic,.slice oa on oc,.int .u32 lo,V 1])/\dy .u32 w' (.slice ra 32 rc) (eS op a b).regs/\Below w.heap.size w w':=by
 have⟨W1,Jg⟩:=q_ (w.alloc (.cells #[nV,.int .u32 0,nV,nV,nV,nV,.int .u32 0,V 0] 31));have Jb:Bl w W1:=by rw[Jg];exact r_.alloc n_ _
 have Xf:W1.heap.size=w.heap.size+1:=by rw[Jg];simp
 have Jn:Hid (∀W,Bl W1 W->dN W w.heap.size [nV,.int .u32 0,nV,nV,nV,nV,.int .u32 0,V 0]):=λW h=>by
  have e:dN W1 w.heap.size [nV,.int .u32 0,nV,nV,nV,nV,.int .u32 0,V 0]:=by rw[Jg];exact de w #[nV,.int .u32 0,nV,nV,nV,nV,.int .u32 0,V 0] _ (by show 8<=1000;omega)
  exact e.below h
 have Jk:=ah (Js h W1 U c (hT.below Jb ht) o_ hc (λj v X=>(c_ (a:=⟨8,0+j,none⟩) (Jb.block 8 Jv)).trans (Jq j v X)) (Jp.tcs (S:=λ_=>False) Jb.tcs (λh=>h)) (Jc.below Jc.size Jb) (Jr.below Jb) o_);have Jj:=ah λW g cap (h1:dy .i64 W v [a,b]) (h2:dy .u32 W (.slice g (kw op).length cap) (kw op))=>Ml h ha hb v g cap W h1 h2 (Ba h) (Jt h)
 have HV:=ah λW (h:Bl W1 W)=>(X.below Jb).below h
 have J_:=ah Jg;obtain⟨va,vc,rfl,-⟩:=X;clear hT Jq Jp Jc Jr Jv Jg h ha hb ht hc;go_in;go_wp2_with fail;rw[<-J_.out];refine Jk.out.mono ?_;rintro x w2 ⟨O,J,rfl,hu,Jl⟩;have⟨W3,Ji⟩:=q_ (w2.alloc (.cells #[V 0,V 0,V 0,.slice O (kw op).length J,V 0,V 16] 49));have Jd:Bl w2 W3:=by rw[Ji];exact r_.alloc n_ _
 have Jh:Bl W1 W3:=Jl.trans (Jd.mono Jl.size);have Je:Hid (dN W3 w2.heap.size [V 0,V 0,V 0,.slice O (kw op).length J,V 0,V 16]):=by rw[Ji];exact de w2 #[V 0,V 0,V 0,.slice O (kw op).length J,V 0,V 16] _ (by show 6<=1000;omega)
 have Jm:=ah ((dy.of_own hu).1.below Jd);have Jz:=ah Ji;obtain⟨p0,-⟩:=Je.out 0 _ rfl;obtain⟨p3,-⟩:=Je.out 3 _ rfl;obtain⟨p4,-⟩:=Je.out 4 _ rfl;obtain⟨p5,-⟩:=Je.out 5 _ rfl;clear hu Ji Jk;go_upto_region 2 with fail;rw[<-Jz.out];go_wp2_with fail;refine(Jj.out W3 O J (HV.out W3 Jh) Jm.out).mono ?_;rintro x w4 ⟨u,rfl,Jw,Xe⟩;obtain⟨r,d,s,i,o,rfl,hr,hd,hs,hi,Y,Xd,Z,-⟩:=Jw;have Xg:=Jh.size;have Jf:Bl W1 w4:=Jh.trans (Xe.mono Jh.size);have Jo:∀g∈blk r,W3.heap.size<=g:=λg hg=>Z g (by simp[hg])
 obtain⟨oa,oc,rfl⟩:=mM Y;have Jx:=ah hr;obtain⟨ra,rc,rfl,-⟩:=hr;obtain⟨da,dc,rfl,-⟩:=hd;obtain⟨sa,sc,rfl,-⟩:=hs;obtain⟨ia,ic,rfl,-⟩:=hi;generalize (eS op a b).data.length=dn at*;generalize (eS op a b).stack.length=sn at*;generalize (eS op a b).inn.length=inn at*;generalize (eS op a b).out.length=on at*;have Xa:(eS op a b).regs.length=32:=rfl;rw[Xa]at*;have Jy:(eS op a b).st=1:=rfl;rw[Jy]at*;generalize (eS op a b).pc=pc at*;generalize (eS op a b).low=lo at*;have H:=Jn.out w4 Jf;have⟨r0,f0⟩:=H 0 _ rfl;have⟨r1,f1⟩:=H 1 _ rfl;have⟨r2,f2⟩:=H 2 _ rfl;have⟨r3,f3⟩:=H 3 _ rfl;have⟨r4,f4⟩:=H 4 _ rfl;have⟨r5,f5⟩:=H 5 _ rfl;have⟨r6,f6⟩:=H 6 _ rfl;have⟨r7,f7⟩:=H 7 _ rfl;have HF:=ah ((((((((H.set 0 (.slice ra 32 rc)).set 1 (.int .u32 pc)).set 2 (.slice da dn dc)).set 3 (.slice sa sn sc)).set 4 (.slice ia inn ic)).set 5 (.slice oa on oc)).set 6 (.int .u32 lo)).set 7 (V 1));have Xb:=ah Jo;have Xc:=ah (Jb.trans (Jf.mono o_));clear H Y Xd Z Jo p0 p3 p4 p5 Je Jm HV Jj Jn;go_wp2_with fail;have I:=HF.out;have t0:=(I 0 _ rfl).1;have t1:=(I 1 _ rfl).1;have t2:=(I 2 _ rfl).1;have t3:=(I 3 _ rfl).1;have t4:=(I 4 _ rfl).1;have t5:=(I 5 _ rfl).1;have t6:=(I 6 _ rfl).1;have t7:=(I 7 _ rfl).1;refine bodyPost_ret (v:=.agg #[.slice ra 32 rc,.int .u32 pc,.slice da dn dc,.slice sa sn sc,.slice ia inn ic,.slice oa on oc,.int .u32 lo,V 1]) (by simp[results,results7,go_sem,t0,t1,t2,t3,t4,t5,t6,t7]) rfl ⟨ra,rc,pc,lo,da,dn,dc,sa,sn,sc,ia,inn,ic,oa,on,oc,rfl,?_,?_⟩;refine Jx.out.keep i_ λg hg hlt=>?_
 have h1:=Xb.out g hg;have Ja:g≠w.heap.size:=o_;rw[Below.heap_setCell _ _ _ g Ja,Below.heap_setCell _ _ _ g Ja,Below.heap_setCell _ _ _ g Ja,Below.heap_setCell _ _ _ g Ja,Below.heap_setCell _ _ _ g Ja,Below.heap_setCell _ _ _ g Ja,Below.heap_setCell _ _ _ g Ja,Below.heap_setCell _ _ _ g Ja];exact(((((((Xc.out.setCell (p:=⟨w.heap.size,0,none⟩) n_ _).setCell (p:=⟨w.heap.size,1,none⟩) n_ _).setCell (p:=⟨w.heap.size,2,none⟩) n_ _).setCell (p:=⟨w.heap.size,3,none⟩) n_ _).setCell (p:=⟨w.heap.size,4,none⟩) n_ _).setCell (p:=⟨w.heap.size,5,none⟩) n_ _).setCell (p:=⟨w.heap.size,6,none⟩) n_ _).setCell (p:=⟨w.heap.size,7,none⟩) n_ _
def Or:Array Value:=#[sV ⟨#[42]⟩,sV ⟨#[47]⟩,sV ⟨#[37]⟩,sV ⟨#[43]⟩,sV ⟨#[45]⟩,sV ⟨#[60,60]⟩,sV ⟨#[62,62]⟩,sV ⟨#[60]⟩,sV ⟨#[60,61]⟩,sV ⟨#[62]⟩,sV ⟨#[62,61]⟩,sV ⟨#[61,61]⟩,sV ⟨#[33,61]⟩,sV ⟨#[38]⟩,sV ⟨#[94]⟩,sV ⟨#[124]⟩]
theorem Mq{op:Int}(h:op<0\/15<op)(a b:Int):cL op a b=0:=by
 unfold cL
 iterate 16 rw[if_neg o_]
theorem Mr(n:Nat)(h:n<=15):Or.toList[n]? =some (sV (tx (oW n))):=by
 have:n=0\/n=1\/n=2\/n=3\/n=4\/n=5\/n=6\/n=7\/n=8\/n=9\/n=10\/n=11\/n=12\/n=13\/n=14\/n=15:=by omega
 rcases this with rfl|rfl|rfl|rfl|rfl|rfl|rfl|rfl|rfl|rfl|rfl|rfl|rfl|rfl|rfl|rfl
 all_goals rfl
theorem Ot(n:Nat)(h:n<=15):(tx (oW n)).size<=2:=by
 have:n=0\/n=1\/n=2\/n=3\/n=4\/n=5\/n=6\/n=7\/n=8\/n=9\/n=10\/n=11\/n=12\/n=13\/n=14\/n=15:=by omega
 rcases this with rfl|rfl|rfl|rfl|rfl|rfl|rfl|rfl|rfl|rfl|rfl|rfl|rfl|rfl|rfl|rfl
 all_goals decide
theorem Ms(W:World)(l:List UInt8):zo (Lib.bytesWorld W 5 (tx l)) W.heap.size l:=λj hj=>by rw[Lib.bytesWorld_cell W 5 (tx l) j (by rw[iD];exact hj)];simp[tx,cI,List.getD,hj]
theorem PD(W:World)(a b:Int):dy .i64 (W.alloc (.cells #[V a,V b] 2)) (rV W.heap.size 2 2) [a,b]:=by
 refine⟨_,2,rfl,λ_=>⟨W.heap.size,0,rfl,i_,λj hj=>?_,λj=>World.frozen?_alloc_at _ _ _ _ rfl⟩⟩
 have:j=0\/j=1:=by have:j<2:=hj;omega
 rcases this with rfl|rfl <;> simp
theorem Mt(W:World)(a b o:Int):a_ (W.alloc (.cells #[V 1,V a,sV ⟨#[]⟩,V 1,V b,sV ⟨#[]⟩,V 7,V o,sV ⟨#[]⟩] 36)) (rV W.heap.size 3 3) [nNu a,nNu b,nBi o]:=by
 refine⟨_,3,rfl,n_,d_,λ_=>⟨W.heap.size,0,rfl,λj hj=>?_⟩⟩
 have:j=0\/j=1\/j=2:=by have:j<3:=hj;omega
 rcases this with rfl|rfl|rfl <;> refine⟨?_,?_,?_⟩ <;> simp[nNu,nBi]
theorem Jv(l:List UInt8):(⟨#[105,110,116,32,109,97,105,110,40,41,32,123,10,114,101,116,117,114,110,32,105,110,40,41,32]⟩:ByteArray)++tx l++⟨#[32,105,110,40,41,59,10,125,10]⟩=tx (lA++l++lZ):=by apply ByteArray.ext;simp[tx,lA,lZ,ByteArray.data_append]
theorem Jw(a:Option Addr)(Jn cap:Nat)(w:World)(hl:Jn<=1048576)(hb:B8 w a Jn)(Xv:w.rangeAt 8 0 gE)(Xu:Dw w)(Jg:eG w)(Xt:jr w)(Xs:8<w.heap.size):
  Calls prog 3 #[.slice a Jn cap] w λe w'=>e=rW (.bool true)/\Below w.heap.size w w':=by
 haveI : Inhabited Pick := ⟨⟨λ_ h => Classical.choice h⟩⟩
 have HD:=ah (yB a Jn cap w hl hb);have Yf:¬(1048576:Int)<(Jn:Int):=o_;have Jh:Hid (∀W,Bl w W->W.rangeAt 8 0 gE/\Dw W/\eG W/\jr W/\8<W.heap.size):=λW hW=>⟨λj v hv=>(c_ (a:=⟨8,0+j,none⟩) (hW.block 8 Xs)).trans (Xv j v hv),Xu.tcs (S:=λ_=>False) hW.tcs (λh=>h),Jg.below Jg.size hW,Xt.below hW,by have:=hW.size;omega⟩
 clear hb Xv Xu Jg Xt Xs;go_in;go_wp2_with fail;refine HD.out.mono ?_;rintro e w1 ⟨op,x,y,rfl,Xb⟩;have⟨W2,Js⟩:=q_ (w1.alloc (.cells Or 9));have Jj:Bl w1 W2:=by rw[Js];exact r_.alloc n_ _
 have Jr:=ah (Xb.trans (Jj.mono Xb.size));have Ya:Hid (dN W2 w1.heap.size Or.toList):=by rw[Js];exact de w1 Or _ (by show 16<=1000;omega)
 have Xg:=ah Js;clear Xb Jj Js HD;unfold Or at Xg;go_upto_region 5 with fail;rw[<-Xg.out];go_wp2_with fail;refine(MG op x y W2).mono ?_;rintro e w' ⟨rfl,rfl⟩;go_wp2_with fail;refine(O_ op x y w').mono ?_;rintro e W2 ⟨rfl,rfl⟩;by_cases ho:op<0\/15<op
 ·rw[Mq ho]
  rcases ho with ho|ho
  ·go_wp2
   go_ret;exact⟨rfl,Jr.out⟩
  have Yd:¬op<0:=o_;go_wp2;go_ret;exact⟨rfl,Jr.out⟩
 obtain⟨n,rfl⟩:∃n:Nat,op=(n:Int):=⟨op.toNat,o_⟩;have hn:n<=15:=o_;generalize hv:cL n x y=v;have Ye:¬(n:Int)<0:=o_;have Xx:¬(15:Int)<(n:Int):=o_;clear ho;have Jy:0<=(n:Int)/\(n:Int)<=15:=o_;have Xr:cL n (wrap32 x) (wrap32 y)=v:=by rw[<-hv];unfold cL;simp only[Ey]
 have Xy:W2.cell? ⟨w1.heap.size,n,none⟩=some (sV (tx (oW n))):=(Ya.out n _ (Mr n hn)).1;clear hv;go_upto_region 12 with fail;rw[Ez,Ez];have hA:iB (wrap32 x):=by unfold iB wrap32;omega
 have hB:iB (wrap32 y):=by unfold iB wrap32;omega
 generalize wrap32 x=A at*;generalize wrap32 y=B at*;have Xz:∀W:World,(convert 9 22 (sV ((⟨#[105,110,116,32,109,97,105,110,40,41,32,123,10,114,101,116,117,114,110,32,105,110,40,41,32]⟩:ByteArray)++tx (oW n)++⟨#[32,105,110,40,41,59,10,125,10]⟩))).run prog W=.ok (rV W.heap.size (oh n).length (grownCap W (oh n).length 0 5)) (Lib.bytesWorld W 5 (tx (oh n))):=λW=>by rw[Jv,show lA++oW n++lZ=oh n from rfl,<-iD (oh n)];exact Lib.run_convert_string_bytes W 9 22 5 (tx (oh n)) underlying9 underlying22 underlying5
 have Yb:=Ot n hn;have⟨W3,Jk⟩:=q_ (Lib.bytesWorld W2 5 (tx (oh n)));have Xw:W3.heap.size=W2.heap.size+1:=by rw[Jk];exact Lib.bytesWorld_size _ _ _
 have Jb:Bl W2 W3:=by rw[Jk];exact bytesWorld_below _ _ _
 have⟨W4,Ji⟩:=q_ (W3.alloc (.cells #[V A,V B] 2));have X_:W4.heap.size=W2.heap.size+2:=by rw[Ji];simp;omega
 have Jf:Bl W3 W4:=by rw[Ji];exact r_.alloc n_ _
 have Je:=ah (Jr.out.trans ((Jb.trans (Jf.mono Jb.size)).mono Jr.out.size));have Xq:=ah (Ju Jy hA hB W4 W2.heap.size (grownCap W2 (oh n).length 0 5) ((Jk ▸ Ms W2 (oh n):zo W3 W2.heap.size (oh n)).below Jf o_) o_ (grownCap_ge _ _ _ _) (Jh.out W4 Je.out).1 (Jh.out W4 Je.out).2.1 (Jh.out W4 Je.out).2.2.1 (Jh.out W4 Je.out).2.2.2.1 (Jh.out W4 Je.out).2.2.2.2 (rV W3.heap.size 2 2) (Ji ▸ PD W3 A B));have Xn:=ah Jk;have Xh:=ah Ji;clear Jk Ji Jb Jf Xw X_;go_wp2_with fail;rw[<-Xn.out,<-Xh.out];refine Xq.out.mono ?_;rintro e H ⟨X,O,pc,U,da,dn,dc,J,sn,sc,ia,I,Z,oa,Y,oc,rfl,hr,J_⟩;have⟨W6,Jo⟩:=q_ (H.alloc (.cells #[.slice X 32 O,.int .u32 pc,.slice da dn dc,.slice J sn sc,.slice ia I Z,.slice oa Y oc,.int .u32 U,V 1] 31));have Jd:Bl H W6:=by rw[Jo];exact r_.alloc n_ _
 have Jt:Hid (dN W6 H.heap.size [.slice X 32 O,.int .u32 pc,.slice da dn dc,.slice J sn sc,.slice ia I Z,.slice oa Y oc,.int .u32 U,V 1]):=by rw[Jo];exact de H #[.slice X 32 O,.int .u32 pc,.slice da dn dc,.slice J sn sc,.slice ia I Z,.slice oa Y oc,.int .u32 U,V 1] _ (by show 8<=1000;omega)
 have Xf:=ah (hr.below Jd);have Jp:=ah (Je.out.trans ((J_.trans (Jd.mono J_.size)).mono Je.out.size));have Xk:=ah Jo;clear hr J_ Jd Jo Xq Xn Xh Xz Xy;go_upto_region 13 with fail;rw[<-Xk.out];have⟨W7,Jq⟩:=q_ (W6.alloc (.cells #[V 1,V A,sV ⟨#[]⟩,V 1,V B,sV ⟨#[]⟩,V 7,V n,sV ⟨#[]⟩] 36));have Jc:Bl W6 W7:=by rw[Jq];exact r_.alloc n_ _
 have Xo:=ah (Jp.out.trans (Jc.mono Jp.out.size));have Xe:=ah (m6 (rV W6.heap.size 3 3) [nNu A,nNu B,nBi n] [nNu (cL n A B)] W7 (Jh.out W7 Xo.out).2.2.1 (by show 3<=1048576;decide) (Jq ▸ Mt W6 A B n) (Jl Jy hA hB));have Jz:=ah Jc;have Xd:=ah Jq;clear Jq Jc;go_wp2_with fail;rw[<-Xd.out];refine Xe.out.mono ?_;rintro e w8 ⟨u,rfl,⟨g,cp,rfl,-,-,-,-,Xa,-⟩,Xi⟩;rw[Xr]at Xa;have Ja:Bl W6 w8:=Jz.out.trans (Xi.mono Jz.out.size);have Xc:=ah (Jp.out.trans (Ja.mono Jp.out.size));have⟨Xl,Xp,Xj⟩:=Xa 0 (by show 0<1;decide);have g0:w8.cell? ⟨g,0,none⟩=some (V 1):=Xl;have g1:w8.cell? ⟨g,1,none⟩=some (V v):=Xp;have g2:w8.cell? ⟨g,2,none⟩=some (sV ⟨#[]⟩):=Xj;clear Xl Xp Xj;have q0:=(Jt.out.below Ja 0 _ rfl).1;have q7:=(Jt.out.below Ja 7 _ rfl).1;have⟨Yc,Yg,e,Jm⟩:=Xf.out.below Ja;obtain⟨rg,ro,rfl,Xm⟩:=Jm (by show 0<32;decide);simp only[Value.slice.injEq]at e;obtain⟨rfl,-,rfl⟩:=e;have Yh:=Xm.cell 10 (by show 10<32;decide);have hR:wrap64 (wrap32 ((eS n A B).regs.getD 10 0))=v:=by rw[Ez,<-Xr];exact Oq Jy A B
 generalize (eS n A B).regs.getD 10 0=R at*;clear Jm Xm Xa Xi Ja Xd Xe Xo Jz Xf Jt Xk;go_wp2;go_ret;exact⟨rfl,Xc.out⟩
