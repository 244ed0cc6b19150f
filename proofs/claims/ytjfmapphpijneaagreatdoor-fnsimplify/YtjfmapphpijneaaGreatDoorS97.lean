import Derived.Test.YtjfmapphpijneaaGreatDoorS73
import Derived.Test.YtjfmapphpijneaaGreatDoorS71
import Derived.Test.YtjfmapphpijneaaGreatDoorS96
import Derived.Test.YtjfmapphpijneaaGreatDoorS34
namespace Go.Proofs.YtjfmapphpijneaaGreatDoor
set_option linter.all false
set_option maxRecDepth 100000
set_option maxHeartbeats 0
open Go.World List Go.Proofs.Tryz Go.RowKit
section
variable{S:Ft}{w:AT}{vg vf:BY}{t:Tr}
def Ds(h:TD S w vg vf t):∃ga gn gc fa fn fc,vg=.slice ga gn gc/\vf=.slice fa fn fc:=by obtain⟨ga,gc,e,-⟩:=h.gs w (aj.refl _ _);obtain⟨J,Ja,fc,Q,I,-⟩:=h.fs;exact⟨_,_,_,_,_,_,e,I⟩
def lr(h:TW S w vg vf t):∃ga gn gc fa fn fc,vg=.slice ga gn gc/\vf=.slice fa fn fc:=by obtain⟨ga,gc,e,-⟩:=h.gs w (aj.refl _ _);obtain⟨fa,fc,I,-⟩:=h.fs w (aj.refl _ _);exact⟨_,_,_,_,_,_,e,I⟩
def TW.less{S':Ft}(h:TW S w vg vf t)(hs:∀k,S' k->S k):TW S' w vg vf t:=⟨λW hW=>h.gs W (hW.mono hs),λW hW=>h.fs W (hW.mono hs),(by have⟨b,off,c,Q,h1,h4,h5⟩:=h.fx;exact⟨b,off,c,Q,h1,h4,λW hW=>h5 W (hW.mono hs)⟩),h.gl,h.gn,h.fl,h.fp,h.ok⟩
def zg(w:AT):∃W0 R2,W0=w.alloc (.cells #[nV,nV] 26)/\R2=w.heap.size/\aN W0 R2 [nV,nV]/\Bl w W0/\W0.heap.size=w.heap.size+1:=
 ⟨_,_,rfl,rfl,aI w _ _ i_,r_.alloc n_ _,i_⟩
def nY{M h:Nat}{w3:AT}{Z U:BY}(I:aN w3 h [Z,U])(ht:TW (λk=>k<M) w3 vg vf t)(hR:h<M):
  (DO w3 h 0 Z/\D4 w3 h 0/\DO w3 h 1 U/\D4 w3 h 1)/\∃W,W=(w3.setCell ⟨h,0,none⟩ vg).setCell ⟨h,1,none⟩ vf/\(DO W h 0 vg/\DO W h 1 vf)/\TW (λk=>k<M) W vg vf t/\aj (λk=>k=h) w3 W:=by
 have Ja:=(I.set 0 vg).set 1 vf;have J:aj (λk=>k=h) w3 ((w3.setCell ⟨h,0,none⟩ vg).setCell ⟨h,1,none⟩ vf):=((aj.refl (λk=>k=h) w3).setCell (p:=⟨h,0,none⟩) rfl _).setCell (p:=⟨h,1,none⟩) rfl _;exact⟨⟨(I 0 _ rfl).1,(I 0 _ rfl).2,(I 1 _ rfl).1,(I 1 _ rfl).2⟩,_,rfl,⟨(Ja 0 _ rfl).1,(Ja 1 _ rfl).1⟩,ht.tcs (J.mono λk hk=>by omega),J⟩
end
def sY [Inhabited Pick](g M:Nat)(a:Option Addr)(len cap:Nat)(vg vf:BY)(t:Tr)(w:AT)(hl:len<=1048576)(hM:g<M/\M<=w.heap.size)(hL:Lo g a len (S0 g) w.heap.size)(hc:ew g a len cap w)(hT:TW (λk=>k<M) w vg vf t):
  Calls prog 14 #[pV g,.agg #[vg,vf]] w λe w'=>∃vg' vf',e=rW (.agg #[vg',vf'])/\(∃t',TW (λk=>k<M) w' vg' vf' t')/\Dr g a len cap (S0 g) w w':=by
 have Jr:S0 g g:=rfl;obtain⟨ga,gn,gc,-,-,-,eg,-⟩:=lr hT;have⟨fb,Ji,fc,Q,ef,Jw,Xc⟩:=hT.fx;have Jp:Q.length=t.fc.length:=by rw[<-Jw,J8]
 have Xx:Q.length<=20:=by rw[Jp];exact hT.fl
 have Jm:=ah hL;have Xu:=ah hT;have Jx:=ah Xc;have Jo:Hid (∀k (hk:k<Q.length),nj Q[k].f):=λk hk=>hT.ok _ (by rw[<-Jw];exact mem_map.2 ⟨_,g_ hk,rfl⟩);have⟨W0,Xm,Jv⟩:=Dk (M:=M) vg vf hM hc;have⟨P3,Jt⟩:=q_ w.heap.size;have⟨R4,Jy⟩:=q_ (w.heap.size+1);have⟨O,hO⟩:=q_ (w.heap.size+2);have⟨N,hN⟩:=q_ (w.heap.size+3);have Xi:=aI w #[vg,vf] 26 i_;have Xw:=((Xi.below (r_.alloc n_ (.cells #[nV,nV] 26))) 0 _ rfl).1;rw[<-hN,<-hO,<-Jy,<-Jt]at Jv;have Ya:=ah Jv;subst eg ef;have Yc:=ah Jp;have Xp:=ah Xm;have Xv:=ah Jt;have Xs:=ah Jy;have HO:=ah hO;clear hL hM Xm Jt Jy hO hN hc hT Xc Jv Xi Jp Jw;go_in;go_upto_region 2 with fail;rw[<-Xp.o,show w.heap.size+1+1=O from HO.o.symm,<-Xs.o,<-Xv.o];clear Xp Xw;go_wp2;go_loopw[6] (λi wr=>∃k:Nat,k<=Q.length/\i=V k/\Dh g M a len cap P3 R4 O N w wr (.slice ga gn gc) (.slice (some ⟨fb,Ji,none⟩) Q.length fc) k) (λi _=>Q.length-(RowKit.intOf i).toNat)
 case atStart=>exact⟨0,y_,rfl,Ya⟩
 case round=>
  obtain⟨k,hk,rfl,hK⟩:=hrel;have p1:=(hK.b3 1 _ rfl).1;have HK:=ah hK;rename AT=>Wr
  clear hK;by_cases hlt:k<Q.length
  ·have Ye:(k:Int)<(Q.length:Int):=o_
   have⟨⟨c0,c1,c2⟩,va,vc,pa,pn,pc,ev,ep,W3,Jg,d1,d2,ba,bc,w5,r5,Je⟩:=HK.o.copy Jx.o hlt (Jo.o k hlt);have Xt:Q[k].R.length<=20000:=by have e:=((Jx.o w (aj.refl _ _)).2 _ (g_ hlt)).2.2;have:=(Jo.o k hlt).bu;rw[<-e,J8]at this;exact this
   have Jd:=λ(W:AT) (ba':Option Addr) (bn' bc':Nat) (I:List SV) (hb:xO g M a len cap w.heap.size Wr.heap.size (Wr.heap.size+1) Wr W (Q[k]'hlt).f.nm (Q[k]'hlt).vp (Q[k]'hlt).vb (.slice ba' bn' bc') I) (hR:I.length=(Q[k]'hlt).R.length)=>HK.o.step Jx.o Jm.o hlt Xx (Jo.o k hlt) ep hb hR;have Jd:=ah Jd;rw[ev]at c2 Jg Je Jd;rw[ep]at c1 Jg Je Jd;have⟨nm,Xg⟩:=q_ (Q[k].f.nm);have⟨bn,J_⟩:=q_ (Q[k].R.length);have⟨R0,Jz⟩:=q_ (Q[k].R);have Xl:R0.length=bn:=(by rw[Jz,J_]);rw[<-Xg]at c0 Jg Je Jd;rw[<-J_]at c2 Jg d1 d2 r5 Je Jd Xt;rw[<-Jz]at Je;have Xa:=ah Xl;have Xz:=ah Jg;have Xb:=ah r5;have Xq:=ah Je;have Yd:((bn:Nat):Int)<=20000:=o_;have Yf:(k:Int)+1<=20:=o_;clear Jg r5 Je ev ep Xg J_ Jz Xl;have⟨F,hF⟩:=q_ Wr.heap.size;rw[<-hF]at d1 d2;have HF:=ah hF;clear hF;go_upto_region 6 with fail;rw[<-Xz.o,<-HF.o];clear c0 c1 c2 p1;go_upto_region 7 with(at_builtin;refine ay rfl (.tmp 25) (.tmp 27) _ rfl _ _ _ _ rfl rfl Xb.o ?_);clear d1 d2 Xb;go_wp2;go_loopw[31] (λi wr=>∃(j:Nat) (I:List SV),j<=bn/\i=V j/\I.length=bn/\xO g M a len cap w.heap.size Wr.heap.size (Wr.heap.size+1) Wr wr nm (.slice pa pn pc) (.slice va bn vc) (.slice ba bn bc) I) (λi _=>bn-(RowKit.intOf i).toNat)
   case atStart=>exact⟨0,R0,y_,rfl,Xa,Xq⟩
   case round=>
    clear Xq Xa;obtain⟨j,I,hj,rfl,Jl,Z⟩:=hrel;have U:=ah Z;have HR:=ah Jl;by_cases hjl:j<bn
    ·have Yh:(j:Int)<(bn:Int):=o_
     have⟨bb,c',e'⟩:=Z.br.shape o_;simp only[Value.slice.injEq]at e';obtain⟨rfl,-,-⟩:=e';have Jb:j<I.length:=o_;obtain⟨q0,-⟩:=Z.at j Jb;have⟨kd,Ju⟩:=q_ ((I[j]'Jb).s.kd);rw[<-Ju]at q0;have Xr:=ah Ju;clear Ju Z Jl;by_cases h4:kd=4
     ·subst h4;go_wp2_with fail;refine(fd g a len cap (S0 g) _ _ hl Jr U.o.cur ⟨d_,d_⟩).mono ?_;rintro e w6 ⟨x,rfl,Xe⟩;have Jh:=ah (U.o.dr Xe);clear Xe U q0;obtain⟨q6,-⟩:=Jh.o.at j Jb;rw[<-Xr.o]at q6;cases x
      ·go_wp2;go_roundw
       case rel=>exact⟨j+1,I,o_,by go_num,HR,Jh⟩
       case measure=>exact IF
      go_wp2_with fail;refine(aE g a len cap (S0 g) _ _ hl Jr Jh.o.cur ⟨d_,d_⟩).mono ?_;rintro e J ⟨x7,rfl,Yi,Jk⟩;have Ja:=ah (Jh.o.dr Jk);have⟨W8,Jf⟩:=q_ ((J.alloc (.cells #[V 1,V x7,sV ⟨#[]⟩] 81)).setCell ⟨bb,j*6+2,none⟩ (rV J.heap.size 1 1));have Jc:=Ja.o.put Jm.o j Jb _ _ _ (cG J J.heap.size n_ 1 x7 ⟨#[]⟩) ((cI.one d_).more o_);rw[<-Jf]at Jc;obtain⟨-,ea,en,ec,q7,Jq⟩:=(Ja.o.alloc (.cells #[V 1,V x7,sV ⟨#[]⟩] 81)).at j Jb;have q8:=(Jc.at j (IN Jb)).1;simp only[getElem_set_self]at q8;rw[<-Xr.o]at q8;have Js:=ah Jc;have Jj:=ah Jf;clear Jk Jh Ja q6 Jc Jf;go_upto_region 12 with fail;rw[<-Jj.o];clear Jj q7 Jq;go_wp2;go_roundw
      case rel=>exact⟨j+1,_,o_,by go_num,(length_set ..).trans HR,Js⟩
      case measure=>exact IF
     by_cases h5:kd=5
     ·subst h5;go_wp2_with fail;refine(fd g a len cap (S0 g) _ _ hl Jr U.o.cur ⟨d_,d_⟩).mono ?_;rintro e J ⟨x,rfl,Jk⟩;have Ja:=ah (U.o.dr Jk);clear Jk U q0;cases x
      ·go_wp2;go_roundw
       case rel=>exact⟨j+1,I,o_,by go_num,HR,Ja⟩
       case measure=>exact IF
      have⟨W8,Jf⟩:=q_ ((J.alloc (.cells #[V 1,V 0,sV ⟨#[]⟩,V 6,V 0,sV ⟨#[]⟩] 81)).setCell ⟨bb,j*6+2,none⟩ (rV J.heap.size 2 2));have Jc:=Ja.o.put Jm.o j Jb _ _ _ (AX J J.heap.size n_ 1 0 6 0 ⟨#[]⟩ ⟨#[]⟩) ⟨d_,λn hn=>by simp at hn;rcases hn with rfl|rfl <;> decide⟩;rw[<-Jf]at Jc;obtain⟨-,ea,en,ec,q7,Jq⟩:=(Ja.o.alloc (.cells #[V 1,V 0,sV ⟨#[]⟩,V 6,V 0,sV ⟨#[]⟩] 81)).at j Jb;have Js:=ah Jc;have Jj:=ah Jf;clear Ja Jc Jf;go_upto_region 14 with fail;rw[<-Jj.o];clear Jj q7 Jq;go_wp2;go_roundw
      case rel=>exact⟨j+1,_,o_,by go_num,(length_set ..).trans HR,Js⟩
      case measure=>exact IF
     go_wp2;go_roundw
     case rel=>exact⟨j+1,I,o_,by go_num,HR,U⟩
     case measure=>exact IF
    obtain rfl:j=bn:=(by omega);have⟨⟨z2,Xh⟩,W6,Jn,oa,oc,o1,⟨f0,f1,f2⟩,xa,xc,w8,r8,⟨o8,Yg⟩,Xj⟩:=Jd.o _ _ _ _ _ Z Jl;rw[<-HF.o]at z2 Xh Jn f0 f1 f2;have Xk:=ah Jn;have Xy:=ah r8;have X_:=ah Xj;clear Jn r8 Xj Jd Z Jl U HR;go_upto_region 16 with fail;rw[<-Xk.o];clear z2 Xh Xk;go_wp2_with(at_builtin;refine ay rfl (.tmp 73) (.tmp 75) _ rfl _ _ _ _ rfl rfl Xy.o ?_);go_roundw
    case rel=>exact⟨k+1,o_,by go_num,X_⟩
    case measure=>exact IF
  obtain rfl:k=Q.length:=(by omega);have Xo:Dh g M a len cap P3 R4 O N w Wr (.slice ga gn gc) (.slice (some ⟨fb,Ji,none⟩) Q.length fc) t.fc.length:=(by rw[<-Yc.o];exact HK);have⟨oa,oc,⟨e0,e1⟩,⟨z0,z1,z2,z3⟩,W',Xn,hy,Xd,Xf⟩:=Dh.fin Xo Jm.o Xu;have Yb:=ah Xn;have HE:=ah hy;have HT:=ah Xd;have HD:=ah Xf;clear Xn hy Xd Xf Xo;go_wp2_with fail;rw[<-Yb.o];refine bodyPost_ret (by simp[results,results14,go_sem,HE.o.1,HE.o.2];try rfl) rfl ?_;exact⟨_,_,rfl,HT,HD⟩
def vh [Inhabited Pick](g:Nat)(a:Option Addr)(len cap:Nat)(w:AT)(hl:len<=1048576)(hL:Lo g a len (S0 g) w.heap.size)(hc:ew g a len cap w):
  Calls prog 12 #[pV g] w λe w'=>∃vg vf,e=rW (.agg #[vg,vf])/\(∃t,TW (λk=>k<w.heap.size) w' vg vf t)/\Dr g a len cap (S0 g) w w':=by
 have Xd:S0 g g:=rfl;have Xi:=hL.gl;have Jh:=ah hL;have⟨W0,R2,Jy,Jw,hf,Jn,Jt⟩:=zg w;have⟨Xa,Ja,HF,Jx,Jb,Xc⟩:=h6 Jy Jw hf Jn Jt (hc.below Jn);clear Jy Jw hf Jn Jt hc hL;go_in;go_upto_region 1 with fail;rw[<-Xa.o,<-Ja.o];clear Xa;go_wp2_with fail;refine(Df g a len cap W0 hl (Jh.o.mono (Ka Jb.o)) Xc).mono ?_;rintro e w1 ⟨vg,vf,rfl,⟨t,I⟩,Ji⟩;obtain⟨ga,gn,gc,fa,fn,fc,rfl,rfl⟩:=Ds I;have Xk:=Ji.tcs.size;have⟨W1,Jf⟩:=q_ (w1.alloc (.cells #[.slice ga gn gc,.slice fa fn fc] 26));have Jk:Bl w1 W1:=by rw[Jf];exact r_.alloc n_ _
 have⟨J_,Jo⟩:=h2 (I.tcs Jk.tcs) (Ji.below Jk);have Jc:aN W1 w1.heap.size [.slice ga gn gc,.slice fa fn fc]:=by rw[Jf];exact aI w1 _ _ i_
 have Je:aN W1 R2 [nV,nV]:=(HF.o.tcs (Ia Jb.o Ja.o) Ji.tcs (λe=>by have e:R2=g:=e;have:=Ja.o;omega)).below Jk;have Xf:w1.heap.size<W1.heap.size:=by rw[Jf];simp
 have⟨H4,H2,Jz⟩:=h3 Jc Je Jf;clear Ji I Jf Jc Je Jk HF;have⟨B4,Ju⟩:=q_ w1.heap.size;have Jj:=ah Ju;clear Ju;go_upto_region 2 with fail;rw[<-Jz.o,<-Jj.o];clear Jz;go_wp2_with fail;refine(fd g a len cap (S0 g) _ _ hl Xd Jo.o.cur ⟨d_,d_⟩).mono ?_;rintro e w2 ⟨x,rfl,Jd⟩;have Xg:=Jd.tcs.size;have Xb:g<W0.heap.size:=Ka Jb.o
 have⟨Jp,Jg⟩:=h2 (J_.o.tcs (Jd.tcs.mono λk J=>by have e:k=g:=J;omega)) (Jo.o.trans Jd);have Jc:aN w2 B4 [.slice ga gn gc,.slice fa fn fc]:=by have:=H4.o;rw[<-Jj.o]at this;exact this.tcs (Ka Jj.o) Jd.tcs (λe=>by have e:B4=g:=e;have:=Jj.o;omega)
 have Je:aN w2 R2 [nV,nV]:=H2.o.tcs (Ia Jb.o Ja.o) Jd.tcs (λe=>by have e:R2=g:=e;have:=Ja.o;omega);have p0:=(Jc 0 _ rfl).1;have p1:=(Jc 1 _ rfl).1;have Js:=ah Je;have Jv:R2<W0.heap.size:=Ia Jb.o Ja.o;have Xe:R2≠g:=Ka Ja.o;clear Jd Jc Je H4 H2 J_ Jo;cases x
 ·have⟨⟨z0,z1,z2,z3⟩,W,hW,⟨U,Z⟩,I,hS⟩:=nY Js.o Jp.o.tw Jv;have⟨HW,HE,HT,HS⟩:=h4 hW (And.intro U Z) I hS;clear hW U Z I hS;go_wp2_with fail;rw[<-HW.o];refine bodyPost_ret (by simp[results,results12,go_sem,HE.o.1,HE.o.2];try rfl) rfl ?_;refine⟨_,_,rfl,⟨_,HT.o.less (λk J=>by have:=Jb.o;have J:k<w.heap.size:=J;show k<W0.heap.size;omega)⟩,?_⟩;exact(Dr.new (w:=w) ⟨Jg.o.cur,(Jx.o.tcs (S:=S0 g)).trans Jg.o.tcs⟩ Jh.o HS.o (λk J=>Ka Ja.o))
 go_wp2_with fail;refine(A0 g W0.heap.size a len cap _ _ t w2 hl ⟨Xb,o_⟩ (Jh.o.mono (Ka Jb.o)) Jg.o.cur Jp).mono ?_;rintro e w3 ⟨Xh,Xm,rfl,⟨t',Jm⟩,Jl⟩;obtain⟨Xp,Xq,Xj,Xo,Xn,Xl,rfl,rfl⟩:=lr Jm;have Jr:aN w3 R2 [nV,nV]:=Js.o.tcs o_ Jl.tcs (λe=>Xe e);have⟨⟨z0,z1,z2,z3⟩,W,hW,⟨U,Z⟩,I,hS⟩:=nY Jr Jm Jv;have⟨HW,HE,HT,HS,Jq⟩:=h5 hW (And.intro U Z) I hS (Jg.o.trans Jl);clear hW U Z I hS Jl Jm Jr;go_wp2_with fail;rw[<-HW.o];refine bodyPost_ret (by simp[results,results12,go_sem,HE.o.1,HE.o.2];try rfl) rfl ?_;refine⟨_,_,rfl,⟨_,HT.o.less (λk J=>by have:=Jb.o;have J:k<w.heap.size:=J;show k<W0.heap.size;omega)⟩,?_⟩;exact(Dr.new (w:=w) ⟨Jq.o.cur,(Jx.o.tcs (S:=S0 g)).trans Jq.o.tcs⟩ Jh.o HS.o (λk J=>Ka Ja.o))
def qt [Inhabited Pick](a:Option Addr)(len cap:Nat)(w:AT)(hl:len<=1048576)(hb:B8 w a len):
  Calls prog 4 #[.slice a len cap] w λe w'=>∃vg vf t,e=rW (.agg #[vg,vf])/\TW (λ_=>False) w' vg vf t/\Bl w w':=by
 have⟨W0,R2,Xk,Xh,hf,Jp,Xe⟩:=zg w;have Xm:=ah Xk;have Jg:=ah Xh;have HF:=ah hf;have Jr:=ah Jp;have Jl:=ah Xe;have Xi:=ah (hb.below Jp);clear Xk Xh hf Jp Xe hb;go_in;go_upto_region 1 with fail;rw[<-Xm.o,<-Jg.o];clear Xm;go_wp2_with fail;refine(EL a len cap W0 hl Xi).mono ?_;rintro e w1 ⟨rfl,Jy,Jx,Ju,Ja⟩;have⟨g,hg⟩:=q_ W0.heap.size;rw[<-hg]at Jy Ja Ju⊢;have Xt:S0 g g:=rfl;have HG:=ah hg;have Xs:=ah Jy;have Xf:=ah Ja;have Jz:=ah Ju;have Je:=ah (Jr.o.trans (Jx.mono Jr.o.size));have Xa:=ah (HF.o.below Jx);have Jt:R2≠g:=by have:=Jg.o;have:=HG.o;have:=Jl.o;omega
 have Jq:R2<w1.heap.size:=by have:=Jg.o;have:=HG.o;have:=Jl.o;have:=Jz.o;omega
 have Xj:∀k,S0 g k->w.heap.size<=k:=λk hk=>by have e:k=g:=hk;have:=HG.o;have:=Jl.o;omega
 have Xn:∀k,k=R2->w.heap.size<=k:=λk hk=>Ka Jg.o
 have Xp:g<w1.heap.size:=Ka Jz.o;clear hg Jy Ja Ju Jx HF Xi Jr;go_wp2_with fail;refine(vh g a len cap w1 hl Xf.o Xs).mono ?_;rintro e w2 ⟨vg,vf,rfl,⟨t,I⟩,Ji⟩;obtain⟨ga,gn,gc,fa,fn,fc,rfl,rfl⟩:=lr I;have Xq:=Ji.tcs.size;have⟨W2,Jf⟩:=q_ (w2.alloc (.cells #[.slice ga gn gc,.slice fa fn fc] 26));have⟨B4,Jo⟩:=q_ w2.heap.size;have Jh:Bl w2 W2:=by rw[Jf];exact r_.alloc n_ _
 have Xu:W2.heap.size=w2.heap.size+1:=by rw[Jf];simp
 have Jj:=ah (Ji.below Jh);have Xc:=ah (I.tcs Jh.tcs);have Jd:aN W2 B4 [.slice ga gn gc,.slice fa fn fc]:=by rw[Jf,Jo];exact aI w2 _ _ i_
 have Xg:aN W2 R2 [nV,nV]:=(Xa.o.tcs Jq Ji.tcs (λe=>Jt e)).below Jh;have J_:=ah Jf;have Xl:=ah Jo;have H4:=ah Jd;have H2:=ah Xg;have Xr:B4<W2.heap.size:=o_;have Jv:B4≠g:=o_;have Js:R2<W2.heap.size:=o_;have Yc:w1.heap.size<=W2.heap.size:=o_;clear Ji I Jf Jo Jh Jd Xg Xa Xu Xq;go_upto_region 3 with fail;rw[<-J_.o,<-Xl.o];clear J_ Xl;go_wp2_with fail;refine(aE g a len cap (S0 g) _ _ hl Xt Jj.o.cur ⟨d_,d_⟩).mono ?_;rintro e w3 ⟨x,rfl,hx,Jc⟩;have Xo:=ah (Xc.o.tcs (Jc.tcs.mono λk hk=>by have e:k=g:=hk;omega));have Jn:=ah (Jj.o.trans Jc);have Xv:=Jc.tcs.size;have Xb:=ah (H2.o.tcs Js Jc.tcs (λe=>Jt e));have Jd:=H4.o.tcs Xr Jc.tcs (λe=>Jv e);have p0:=(Jd 0 _ rfl).1;have p1:=(Jd 1 _ rfl).1;clear Jc Jd H4 H2 Xc Jj;by_cases hx0:0<x
 ·go_wp2_with fail;refine(sY g w1.heap.size a len cap _ _ t w3 hl ⟨Xp,o_⟩ (Xf.o.mono o_) Jn.o.cur Xo).mono ?_;rintro e w4 ⟨Xw,X_,rfl,⟨t',Jk⟩,Jw⟩;obtain⟨Yd,Ye,Xx,Yb,Ya,Xz,rfl,rfl⟩:=lr Jk;have Xd:=Xb.o.tcs o_ Jw.tcs (λe=>Jt e);have⟨⟨z0,z1,z2,z3⟩,W,hW,⟨J,U⟩,I,hS⟩:=nY Xd Jk Jq;have HW:=ah hW;have Z:=ah (And.intro J U);have HT:=ah I;have Jm:=Jn.o.trans Jw;have Xy:=Jm.tcs.size;have Jb:Hid (Bl w W):=hS.below (Jm.tcs.below Je.o Je.o.size Xj) (Ka Je.o.size) Xn;clear hW J U I hS Jw Jk Xd Jm;go_wp2_with fail;rw[<-HW.o];refine bodyPost_ret (by simp[results,results4,go_sem,Z.o.1,Z.o.2];try rfl) rfl ?_;exact⟨_,_,_,rfl,HT.o.less (λk hk=>hk.elim),Jb⟩
 have⟨⟨z0,z1,z2,z3⟩,W,hW,⟨J,U⟩,I,hS⟩:=nY Xb.o Xo.o Jq;have HW:=ah hW;have Z:=ah (And.intro J U);have HT:=ah I;have Jb:Hid (Bl w W):=hS.below (Jn.o.tcs.below Je.o Je.o.size Xj) (Ka Je.o.size) Xn;clear hW J U I hS;go_wp2_with fail;rw[<-HW.o];refine bodyPost_ret (by simp[results,results4,go_sem,Z.o.1,Z.o.2];try rfl) rfl ?_;exact⟨_,_,_,rfl,HT.o.less (λk hk=>hk.elim),Jb⟩
variable{w W W' w5 Y X X':AT}{vg vf v:BY}{t r:Tr}{st ex us dp:Int}{o:List Int}{B G n z:Nat}
def kj{P:Program}{ops:Array Oper}{Q:Exit->Act->AT->Prop}{md:Region.Mode}{S:AT->Prop}{l:Nat}{i j:Nat}{J I:Oper}{fuel:Nat}{listed:Array Bool}{a:Act}(Z:Region.ready md ops listed=[i,j])(hi:ops[i]? =some J)(hj:ops[j]? =some I)
  (U:∀K:Act->AT->Prop,Shut (∀a' w',(i≠l->S w')->db P md ops Q S l fuel (listed.setIfInBounds i true) a' w'->K a' w')->if Region.wanted J (yielded ops a.tmps)=true then J.wp P a w K Q else K (a.put J.dst undef) w)
  (h2:∀K:Act->AT->Prop,Shut (∀a' w',(j≠l->S w')->db P md ops Q S l fuel (listed.setIfInBounds j true) a' w'->K a' w')->if Region.wanted I (yielded ops a.tmps)=true then I.wp P a w K Q else K (a.put I.dst undef) w):db P md ops Q S l (fuel+1) listed a w:=by
 have Ja:∀(k:Nat) (o:Oper),ops[k]? =some o->(∀K:Act->AT->Prop,Shut (∀a' w',(k≠l->S w')->db P md ops Q S l fuel (listed.setIfInBounds k true) a' w'->K a' w')->if Region.wanted o (yielded ops a.tmps)=true then o.wp P a w K Q else K (a.put o.dst undef) w)->wpOp P ops Q k (λa' w'=>(k≠l->S w')/\db P md ops Q S l fuel (listed.setIfInBounds k true) a' w') a w:=λk o ho h=>by unfold wpOp;simp only[ho];have:=h (λa' w'=>(k≠l->S w')/\db P md ops Q S l fuel (listed.setIfInBounds k true) a' w') (λa' w' U h2=>⟨U,h2⟩);split;rename_i hw;rw[if_pos hw]at this;exact .inl this;rename_i hw;rw[if_neg hw]at this;exact this
 refine⟨λh0=>(by rw[Z]at h0;cases h0),λk hk=>?_⟩;rw[Z]at hk;simp only[mem_cons,not_mem_nil,or_false]at hk;rcases hk with rfl|rfl;exact Ja _ _ hi U;exact Ja _ _ hj h2
structure SE (w W:AT) (R S:Nat) (vg vf:BY) (t:Tr) (sg sf:BY) (r:Tr):Prop where
 b1:aN W R [vg,vf]
 b2:aN W S [sg,sf]
 g:cD W vg t.gl
 f:bj W vf t.fc
 g2:cD W sg r.gl
 f2:bj W sf r.fc
 old:Bl w W
def SE.below{R S:Nat}{sg sf:BY}(h:SE w W R S vg vf t sg sf r)(hb:Bl W W'):SE w W' R S vg vf t sg sf r:=
 ⟨h.b1.below hb,h.b2.below hb,h.g.below hb,h.f.below hb,h.g2.below hb,h.f2.below hb,h.old.trans (hb.mono h.old.size)⟩
structure Is (W:AT) (E:Nat) (st:Int) (v:BY) (o:List Int) (ex us dp:Int):Prop where
 box:aN W E [V st,v,V ex,V us,V dp]
 oi:Ints W v o
 ol:o.length<=maxLen
def Is.below{E:Nat}(h:Is W E st v o ex us dp)(hb:Bl W W'):Is W' E st v o ex us dp:=⟨h.box.below hb,h.oi.below hb,h.ol⟩
def mu{l:List Int}(h:w.ownsRow B 2 1 v l.length (l.map (Value.int .i64))):Ints w v l/\l.length<=maxLen:=by have I:=h;rcases h.2 with⟨rfl,J⟩|⟨g,Ja,Jb,rfl,-,-,Jd,Jc,-⟩;exact⟨⟨none,0,by rw[J],λhn=>by omega⟩,o_⟩;refine⟨⟨_,Ja,rfl,λhn=>⟨g,rfl,λj hj=>?_⟩⟩,o_⟩;have:=ownsRow.cells I (g:=g) rfl j (V l[j]) (by simp[hj]);rw[dk]at this;simpa using this
def BC(Y:AT)(G:Nat)(st:Int)(v:BY)(ex us dp:Int):AT:=((((Y.setCell ⟨G,0,none⟩ (V st)).setCell ⟨G,1,none⟩ v).setCell ⟨G,2,none⟩ (V ex)).setCell ⟨G,3,none⟩ (V us)).setCell ⟨G,4,none⟩ (V dp)
def ww(Y:AT)(G:Nat)(st:Int)(v:BY)(ex us dp:Int):aj (λk=>k=G) Y (BC Y G st v ex us dp):=
 (((((aj.refl (λk=>k=G) Y).setCell (p:=⟨G,0,none⟩) rfl _).setCell (p:=⟨G,1,none⟩) rfl _).setCell (p:=⟨G,2,none⟩) rfl _).setCell (p:=⟨G,3,none⟩) rfl _).setCell (p:=⟨G,4,none⟩) rfl _
def Z5:List BY:=[V 0,nV,V 0,V 0,V 0]
def lD(U:aN Y G Z5)(Z:Y.ownsRow B 2 1 v o.length (o.map (Value.int .i64)))(hG:G<B)(h5:w5.heap.size<=G)(I:Bl w5 Y):
  Is (BC Y G st v ex us dp) G st v o ex us dp/\Bl w5 (BC Y G st v ex us dp):=by
 have h:=ww Y G st v ex us dp;have⟨J,h2⟩:=mu (bE Z h (λk hk=>by omega));exact⟨⟨((((U.set 0 _).set 1 _).set 2 _).set 3 _).set 4 _,J,h2⟩,h.below I I.size (λk hk=>by omega)⟩
def zC{h:AT}(hq:aN Y G Z5)(hO:h.ownsRow B 2 1 v o.length (o.map (Value.int .i64)))(J:Bl h Y)(hG:h.heap.size<=G)(I:Bl w5 h):
  Is (BC Y G st v ex us dp) G st v o ex us dp/\Bl w5 (BC Y G st v ex us dp):=by
 have Z:=ww Y G st v ex us dp;have⟨U,h2⟩:=mu hO;have Ja:Bl h (BC Y G st v ex us dp):=Z.below J J.size (λk hk=>by omega);exact⟨⟨((((hq.set 0 _).set 1 _).set 2 _).set 3 _).set 4 _,U.below Ja,h2⟩,I.trans (Ja.mono I.size)⟩
def wy(x y z:Int)(W:AT):(Instr.field 30 (.agg #[V x,V y,V z]) 0).run prog W=.ok (V x) W:=by kernel_rfl
def jr.wf [Inhabited Pick](h:jr t r)(I:yq t):yq r:=by
 have⟨J,h2,h3⟩:=h.ok;refine⟨?_,o_,λf hf=>(h3 f hf).wf⟩;unfold jr at h;by_cases hc:(aQ t).1=0
 rw[if_pos hc]at h;obtain⟨fs,m,-,-,rfl⟩:=h;exact I.1;rw[if_neg hc]at h;subst h;exact⟨i_,λg hg=>by cases hg⟩
def It(U:n<=4000)(J:W'=W.alloc (.cells (Array.replicate n (V 0)) 2)):nL W' (rV W.heap.size n n) (yh n):=by
 subst J;have h:=yV W (Array.replicate n (V 0)) 2 H6;have I:(yh n).length=n:=by simp[yh]
 refine⟨_,n,by rw[I],o_,o_,λ_=>⟨_,0,rfl,λj hj=>?_⟩⟩;rw[Nat.zero_add];refine(h j _ ?_).1;rw[I]at hj;simp[yh,hj]
def JY{b:Nat}{x y z:Int}(h:aN W b [V x,V y,V z]):nL W (rV b 3 3) [x,y,z]:=by
 refine⟨_,_,rfl,n_,by show 3<=_;omega,λ_=>⟨b,0,rfl,λj hj=>?_⟩⟩;rw[Nat.zero_add];refine(h j _ ?_).1;have:j=0\/j=1\/j=2:=by have:j<3:=hj;omega
 rcases this with rfl|rfl|rfl <;> rfl
structure NX (w5 X X':AT) (z:Nat) (o:Obj):Prop where
 e:X'=X.alloc o
 ez:z=X.heap.size
 b:Bl X X'
 B:Bl w5 X'
 s:X'.heap.size=z+1
 le:w5.heap.size<=z
def nx(h:Bl w5 X)(o:Obj):∃X' z,Hid (NX w5 X X' z o):=
 have b:Bl X (X.alloc o):=ao _ _
 ⟨_,_,⟨rfl,rfl,b,h.trans (b.mono h.size),i_,h.size⟩⟩
def NX.zn(h:NX w5 X X' z (.cells (Array.replicate n (V 0)) 2))(I:n<=4000):nL X' (rV z n n) (yh n):=by rw[h.ez];exact It I h.e
def NX.z5{t:JZ}(h:NX w5 X X' z (.cells #[V 0,nV,V 0,V 0,V 0] t)):aN X' z Z5:=by rw[h.e,h.ez];exact aI X _ _ i_
def JT(w5:AT):∃X0,Hid (X0=w5.drew)/\Hid (Bl w5 X0):=⟨_,rfl,r_.drew⟩
def JU(h:aN Y G Z5):(DO Y G 0 (V 0)/\D4 Y G 0)/\(DO Y G 1 nV/\D4 Y G 1)/\(DO Y G 2 (V 0)/\D4 Y G 2)/\(DO Y G 3 (V 0)/\D4 Y G 3)/\DO Y G 4 (V 0)/\D4 Y G 4:=
 ⟨h 0 _ rfl,h 1 _ rfl,h 2 _ rfl,h 3 _ rfl,h 4 _ rfl⟩
def EvW(w5:AT)(vg vf vI:BY)(n:Nat)(st:Int)(o:List Int)(ex us dp:Int):Prop:=∀(X:AT) (b:Nat),Bl w5 X->nL X (rV b n n) (yh n)->Calls prog 9 #[.agg #[vg,vf],vI,V 3000,rV b n n] X λe w'=>∃va vn vc,e=rW (.agg #[V st,.slice va vn vc,V ex,V us,V dp])/\w'.ownsRow X.heap.size 2 1 (.slice va vn vc) o.length (o.map (Value.int .i64))/\Bl X w'
def Ew{vI:BY}{i:List Int}(h:EvS t i (yh n) st o ex us dp)(hT:∀W,Bl w W->gF W)(h5:Bl w w5)(hs:eQ t)(hw:yq t)(hg:cD w5 vg t.gl)(hf:bj w5 vf t.fc)(hi:nL w5 vI i):EvW w5 vg vf vI n st o ex us dp:=λX b hX hz=>by refine(h X vg vf vI _ (hT X (h5.trans (hX.mono h5.size))) hs hw (hg.below hX) (hf.below hX) (fH hi hX) hz).mono ?_;rintro e w' ⟨v,rfl,hO,hb⟩;obtain⟨va,vc,rfl,-⟩:=(mu hO).1;exact⟨va,_,vc,rfl,hO,hb⟩
theorem Ex(a:Option Addr)(len cap:Nat)(a2:Option Addr)(Jh Jo:Nat)(w:AT)(hT:gF w)(hl:len<=1048576)(Yo:Jh<=1048576)(hb:B8 w a len)(Jn:B8 w a2 Jh):
    Calls prog 3 #[.slice a len cap,.slice a2 Jh Jo] w λe w'=>e=rW (.bool true)/\Bl w w':=by
  haveI : Inhabited Pick := ⟨⟨λ_ h => Classical.choice h⟩⟩
  have HT:Hid (∀W,Bl w W->gF W):=λW hW=>hT.below hT.size hW;have HD:=ah (qt a len cap w hl hb);have Zy:=ah Jn;clear hT hb Jn;have Vi:¬(1048576:Int)<(len:Int):=o_
  have Zv:¬(1048576:Int)<(Jh:Int):=o_;go_in;go_wp2_with fail;refine HD.out.mono ?_;rintro e w1 ⟨vg,vf,t,rfl,Xc,Yl⟩;have⟨r,hr⟩:=jr.exists t;have⟨Xw,Ye⟩:=Xc.small;have⟨W,eW⟩:=q_ (w1.alloc (.cells #[vg,vf] 26));have⟨R,eR⟩:=q_ w1.heap.size;have Xr:Bl w1 W:=by rw[eW];exact r_.alloc n_ _
  have hx:aN W R [vg,vf]:=by rw[eW,eR];exact aI w1 #[vg,vf] _ i_
  have hg:cD W vg t.gl:=Xc.gs _ (Xr.tcs (S:=λ_=>False));have hf:bj W vf t.fc:=Xc.fs _ (Xr.tcs (S:=λ_=>False));have Xv:=Yl.trans (Xr.mono Yl.size);have Zx:=Xc.fl;have Yx:=ah (wu t r vg vf W hr (HT.out W Xv) Xw Ye hg hf);obtain⟨ga,gc,Zt,-⟩:=id hg;obtain⟨fa,fc,Ys,-⟩:=id hf;have⟨gn,Yv⟩:=q_ t.gl.length;have⟨fn,Yi⟩:=q_ t.fc.length;rw[<-Yv]at Zt;rw[<-Yi]at Ys Zx;subst Zt Ys;have HX:=ah hx;have HG:=ah hg;have HF:=ah hf;have I:=ah Xv;have HW:=ah eW;have HR:=ah eR;have Zw:=ah Yi;have Zk:=ah Xw;have Xu:=ah Ye;have Xb:=ah hr;clear HD Xc Yl Xr hx hg hf Xv eW eR Yv Yi Xw Ye hr;go_upto_region 4 with fail;rw[<-HW.out,<-HR.out];have z0:=(HX.out 0 _ rfl).1;have z1:=(HX.out 1 _ rfl).1;clear HW HR;go_wp2_with fail;refine Yx.out.mono ?_;rintro e w2 ⟨sa,Z,sc,ta,U,tc,Q,rfl,Za,Jn⟩;have⟨Yj,Yc⟩:=Za.read;have Yy:Z=r.gl.length:=by obtain⟨x,y,e,-⟩:=Yj;simp only[Value.slice.injEq]at e;exact e.2.1
  have Yt:U=r.fc.length:=by obtain⟨x,y,e,-⟩:=Yc;simp only[Value.slice.injEq]at e;exact e.2.1
  have⟨W2,Xs⟩:=q_ (w2.alloc (.cells #[.slice sa Z sc,.slice ta U tc] 26));have⟨S,eS⟩:=q_ w2.heap.size;have Jf:Bl w2 W2:=by rw[Xs];exact r_.alloc n_ _
  have Xp:SE w W2 R S (.slice ga gn gc) (.slice fa fn fc) t (.slice sa Z sc) (.slice ta U tc) r:=
    ⟨(HX.out.below Jn).below Jf,by rw[Xs,eS];exact aI w2 #[.slice sa Z sc,.slice ta U tc] _ i_,(HG.out.below Jn).below Jf,(HF.out.below Jn).below Jf,Yj.below Jf,Yc.below Jf,(I.out.trans (Jn.mono I.out.size)).trans (Jf.mono (t_ I.out.size Jn.size))⟩
  obtain⟨x,y,z,Jw⟩:∃x y z,aQ t=(x,y,z):=⟨_,_,_,rfl⟩;have Jv:=mI yU t _ _ W2 Zk.out Xu.out Xp.g Xp.f;rw[Jw]at Jv;have Zl:Hid (Calls prog 6 #[.agg #[.slice ga gn gc,.slice fa fn fc]] W2 λe w'=>e=rW (.agg #[V x,V y,V z])/\Bl W2 w'):=Jv;have Xt:=ah Xp;have Yu:=ah Xs;have Yz:=ah eS;have Va:=ah Yy;have Xz:=ah Yt;have J_:=ah Jw;clear Yx Za Jn Yj Yc Xs eS Jf Xp Jv Yy Yt Jw HX HG HF I z0 z1;go_upto_region 5 with fail;rw[<-Yu.out,<-Yz.out];have z0:=(Xt.out.b1 0 _ rfl).1;have z1:=(Xt.out.b1 1 _ rfl).1;clear Yu Yz;have Ve:=wy x y z;go_wp2_with fail;refine Zl.out.mono ?_;rintro e w3 ⟨rfl,Zc⟩;have Jg:=ah (Xt.out.below Zc);clear Zc Xt Zl z0 z1;by_cases h0:x=0
  · subst h0
    have Jv:(aQ t).1=0:=(by rw[J_.out]);obtain⟨fs,m,Yg⟩:∃fs m,Sm t fs m/\r=jx t fs m:=by have h:=Xb.out;unfold jr at h;rw[if_pos Jv]at h;obtain⟨fs,m,h1,h2,h3⟩:=h;exact⟨fs,m,⟨Jv,h1,h2⟩,h3⟩
    obtain⟨hm,hr⟩:=Yg;have Xh:eQ r:=Xb.out.small;have Xk:yq r:=Xb.out.wf Xu;have Xg:U<=4000:=(Ia Xz.out Xb.out.ok.2.1);obtain⟨y2,z2,Zb⟩:∃y2 z2,aQ r=(0,y2,z2):=⟨(aQ r).2.1,(aQ r).2.2,by rw[hr];exact Prod.ext hm.sound rfl⟩;have Ze:jr r r:=(by rw[hr];exact hm.again);have HM:=ah hm;have Zi:=ah hr;have Z_:=ah Xh;have Vf:=ah Xk;have Jk:Hid (∀X,Bl w3 X->X.cell? ⟨S,0,none⟩=some (.slice sa Z sc)/\X.cell? ⟨S,1,none⟩=some (.slice ta U tc)):=λX hX=>⟨((Jg.out.below hX).b2 0 _ rfl).1,((Jg.out.below hX).b2 1 _ rfl).1⟩;have Xa:Hid (Bl w3 w3.drew):=r_.drew;have Zs:Hid (Calls prog 6 #[.agg #[.slice sa Z sc,.slice ta U tc]] w3.drew λe w'=>e=rW (.agg #[V 0,V y2,V z2])/\(w'.cell? ⟨S,0,none⟩=some (.slice sa Z sc)/\w'.cell? ⟨S,1,none⟩=some (.slice ta U tc))/\Bl w3 w'):=by have h:=mI yU r _ _ w3.drew Xh Xk (Jg.out.g2.below Xa) (Jg.out.f2.below Xa);rw[Zb]at h;refine h.mono ?_;rintro e w' ⟨he,hb⟩;have Jq:=Xa.out.trans (hb.mono Xa.out.size);exact⟨he,Jk.out _ Jq,Jq⟩
    have Yw:Hid (∀X,Bl w3 X->Calls prog 5 #[.agg #[.slice sa Z sc,.slice ta U tc]] X λe w'=>∃ua un uc xa xn xc,e=rW (.agg #[.slice ua un uc,.slice xa xn xc])/\(w'.cell? ⟨S,0,none⟩=some (.slice sa Z sc)/\w'.cell? ⟨S,1,none⟩=some (.slice ta U tc))/\(cD w' (.slice ua un uc) r.gl/\bj w' (.slice xa xn xc) r.fc/\Bl w3 w')):=λX hX=>by refine(wu r r _ _ X Ze (HT.out X (Jg.out.old.trans (hX.mono Jg.out.old.size))) Xh Xk (Jg.out.g2.below hX) (Jg.out.f2.below hX)).mono ?_;rintro e w' ⟨ua,un,uc,xa,xn,xc,Q,rfl,h1,hb⟩;have Jq:=hX.trans (hb.mono hX.size);exact⟨ua,un,uc,xa,xn,xc,rfl,Jk.out _ Jq,h1.read.1,h1.read.2,Jq⟩
    have Zn:Hid (∀X ua un uc xa xn xc,(cD X (.slice ua un uc) r.gl/\bj X (.slice xa xn xc) r.fc/\Bl w3 X)->Calls prog 7 #[.agg #[.slice ua un uc,.slice xa xn xc],.agg #[.slice sa Z sc,.slice ta U tc]] X λe w'=>e=rW (.bool true)/\(w'.cell? ⟨S,0,none⟩=some (.slice sa Z sc)/\w'.cell? ⟨S,1,none⟩=some (.slice ta U tc))/\Bl w3 w'):=λX ua un uc xa xn xc hX=>by refine(xi r _ _ _ _ X Xh hX.1 hX.2.1 (Jg.out.g2.below hX.2.2) (Jg.out.f2.below hX.2.2)).mono ?_;rintro e w' ⟨he,hb⟩;have Jq:=hX.2.2.trans (hb.mono hX.2.2.size);exact⟨he,Jk.out _ Jq,Jq⟩
    have Yn:=wy 0 y2 z2;clear hm hr Xh Xk Zb Ze Jv J_;go_upto_region 7 with fail;clear Ve;have⟨p0,p1⟩:=Jk.out _ Xa;go_region_held3 (λX=>X.cell? ⟨S,0,none⟩=some (.slice sa Z sc)/\X.cell? ⟨S,1,none⟩=some (.slice ta U tc)) (go_simp)
      (first
      | ((with_reducible refine Calls.mono Zs.out ?_);rintro e w4 ⟨rfl,⟨s0,s1⟩,Zu⟩;have Zj:=ah Zu;clear Zu)
      | ((with_reducible refine Calls.mono (Yw.out _ Zj.out) ?_);rintro e w6 ⟨ua,un,uc,xa,xn,xc,rfl,⟨k0,k1⟩,Yr⟩;have Y_:=ah Yr;clear Yr)
      | ((with_reducible refine Calls.mono (Zn.out _ _ _ _ _ _ _ Y_.out) ?_);rintro e w7 ⟨rfl,⟨v0,v1⟩,Zr⟩;have Zh:=ah Zr;clear Zr))
    have Yk:=ah (Jg.out.below Zh);clear p0 p1 s0 s1 k0 k1 v0 v1 Zs Yw Zn Zj Y_ Zh Jk Xa Jg Yn;have Xm:=ah (Zy.out.below Yk.out.old);go_wp2_with fail;refine(oO a2 Jh Jo 0 o_ w7 Yo Xm).mono ?_;rintro e wz ⟨i0,rfl,j0,j1,Jp⟩;rw[Jp];clear Jp;go_wp2_with fail;refine(oO a2 Jh Jo 1 o_ w7 Yo Xm).mono ?_;rintro e wz ⟨i1,rfl,j2,j3,Jp⟩;rw[Jp];clear Jp;go_wp2_with fail;refine(oO a2 Jh Jo 2 o_ w7 Yo Xm).mono ?_;rintro e wz ⟨i2,rfl,j4,j5,Jp⟩;rw[Jp];clear Jp;obtain⟨ng,Yp⟩:∃ng,ng= -i1:=⟨_,rfl⟩;have Yq:[i0,ng,i2].all jl=true:=(by simp[jl];omega);have⟨st,o,ex,us,dp,Xn,o2,Xq,Xl,Xi,X_,Yb,Jr⟩:=HM.out.two (i:=[i0,ng,i2]) i_ Yq;rw[<-Zw.out]at X_;rw[<-Zi.out,<-Xz.out]at Yb;have⟨w5,e5⟩:=q_ (w7.alloc (.cells #[V i0,V ng,V i2] 2));have⟨bI,Xx⟩:=q_ w7.heap.size;have Zo:Bl w7 w5:=(by rw[e5];exact r_.alloc n_ _);have hI:nL w5 (rV bI 3 3) [i0,ng,i2]:=JY (by rw[e5,Xx];exact aI w7 #[V i0,V ng,V i2] _ i_);have Xd:=Yk.out.below Zo;have Jl:=ah (Ew X_ HT.out Xd.old Zk.out Xu.out Xd.g Xd.f hI);have Zp:=ah Yb;have HI:=ah hI;have Xj:=ah Xd;have Vb:=ah Jr;have Jc:Hid (∀X,Bl w5 X->X.cell? ⟨R,0,none⟩=some (.slice ga gn gc)/\X.cell? ⟨R,1,none⟩=some (.slice fa fn fc)):=λX hX=>⟨((Xj.out.below hX).b1 0 _ rfl).1,((Xj.out.below hX).b1 1 _ rfl).1⟩;have Zm:=ah e5;have Zg:=ah Xx;have Zf:=ah Yp;have Xe:fn<=4000:=o_
    clear Yp Yq X_ Yb Jr e5 Xx Zo hI Xd j0 j1 j2 j3 j4 j5 Yk Xm HM Zi;go_upto_region 10 with fail;rw[<-Zf.out,<-Zg.out,<-Zm.out];clear Zm Zf Zg;go_cut [8]from 10 to 61 (λp W=>∃G va vn vc,p=pV G/\Is W G st (.slice va vn vc) o ex us dp/\Bl w5 W)
    case first=>
      have⟨X0,Yf,Jy⟩:=JT w5;have Jj:=ah (Jc.out X0 Jy);refine cq 8 (λX=>X.cell? ⟨R,0,none⟩=some (.slice ga gn gc)/\X.cell? ⟨R,1,none⟩=some (.slice fa fn fc)) k_ ?_;rw[<-Yf.out];refine tk 0 [6,8] Jj.out ?_;refine tk 1 [6,8] Jj.out ?_;refine tk 2 [3,4,5,6,8] Jj.out ?_;refine tk 3 [4,5,6,8] Jj.out ?_;refine tk 4 [5,6,8] Jj.out ?_;refine kj (i:=5) (j:=7) k_ rfl rfl (λK hK=>?_) (λK hK=>?_);have Jx:=pC fn Xe X0;go_simp;have⟨X1,Jz,Jb⟩:=nx Jy.out (.cells (Array.replicate fn (V 0)) 2);rw[<-Jb.out.e,<-Jb.out.ez];refine hK.out _ _ (λ_=>Jc.out _ Jb.out.B) ?_;clear hK K;try simp only[Act.put,tA,tB,tC]
      clear Jx;refine kj (i:=6) (j:=7) k_ rfl rfl (λK hK=>?_) (λK hK=>?_);go_simp;refine(Jl.out X1 Jz Jb.out.B (Jb.out.zn Xe)).mono ?_;rintro e wn ⟨va,vn,vc,rfl,I,J⟩;have I:=ah I;have J:=ah J;have Je:=ah (Jb.out.B.trans (J.out.mono Jb.out.B.size));refine hK.out _ _ (λ_=>Jc.out _ Je) ?_;clear hK K;try simp only[Act.put,tA,tB,tC]
      refine aB (i:=7) k_ rfl (λK hK=>?_);go_simp;have⟨Y1,Zz,Ji⟩:=nx Je.out (.cells #[V 0,nV,V 0,V 0,V 0] 36);rw[<-Ji.out.e,<-Ji.out.ez];refine hK.out _ _ (λ_=>Jc.out _ Ji.out.B) ?_;clear hK K;try simp only[Act.put,tA,tB,tC]
      have HQ:=ah Ji.out.z5;have Jd:=ah (zC (st:=st) (ex:=ex) (us:=us) (dp:=dp) HQ.out I.out Ji.out.b (Nat.le_of_eq Ji.out.ez.symm) Je);rotate_left;go_simp;have⟨X2,Xf,Ja⟩:=nx Jb.out.B (.cells #[V 0,nV,V 0,V 0,V 0] 36);rw[<-Ja.out.e,<-Ja.out.ez];refine hK.out _ _ (λ_=>Jc.out _ Ja.out.B) ?_;clear hK K;try simp only[Act.put,tA,tB,tC]
      refine aB (i:=6) k_ rfl (λK hK=>?_);go_simp;refine(Jl.out X2 Jz Ja.out.B (fH (Jb.out.zn Xe) Ja.out.b)).mono ?_;rintro e wn ⟨va,vn,vc,rfl,I,J⟩;have I:=ah I;have J:=ah J;have Je:=ah (Ja.out.B.trans (J.out.mono Ja.out.B.size));refine hK.out _ _ (λ_=>Jc.out _ Je) ?_;clear hK K;try simp only[Act.put,tA,tB,tC]
      have HQ:=ah (Ja.out.z5.below J);have Jd:=ah (lD (st:=st) (ex:=ex) (us:=us) (dp:=dp) HQ.out I.out (Ka Ja.out.s) Ja.out.le Je);rotate_left;go_simp;have⟨X1,Jz,Jb⟩:=nx Jy.out (.cells #[V 0,nV,V 0,V 0,V 0] 36);rw[<-Jb.out.e,<-Jb.out.ez];refine hK.out _ _ (λ_=>Jc.out _ Jb.out.B) ?_;clear hK K;try simp only[Act.put,tA,tB,tC]
      refine aB (i:=5) k_ rfl (λK hK=>?_);have Jx:=pC fn Xe X1;go_simp;have⟨X2,Xf,Ja⟩:=nx Jb.out.B (.cells (Array.replicate fn (V 0)) 2);rw[<-Ja.out.e,<-Ja.out.ez];refine hK.out _ _ (λ_=>Jc.out _ Ja.out.B) ?_;clear hK K;try simp only[Act.put,tA,tB,tC]
      clear Jx;refine aB (i:=6) k_ rfl (λK hK=>?_);go_simp;refine(Jl.out X2 Xf Ja.out.B (Ja.out.zn Xe)).mono ?_;rintro e wn ⟨va,vn,vc,rfl,I,J⟩;have I:=ah I;have J:=ah J;have Je:=ah (Ja.out.B.trans (J.out.mono Ja.out.B.size));refine hK.out _ _ (λ_=>Jc.out _ Je) ?_;clear hK K;try simp only[Act.put,tA,tB,tC]
      have HQ:=ah ((Jb.out.z5.below Ja.out.b).below J);have Jd:=ah (lD (st:=st) (ex:=ex) (us:=us) (dp:=dp) HQ.out I.out (by have:=Ja.out.s;have:=Ja.out.ez;have:=Jb.out.s;omega) Jb.out.le Je);all_goals
        have⟨⟨c0,f0⟩,⟨c1,f1⟩,⟨c2,f2⟩,⟨c3,f3⟩,c4,f4⟩:=JU HQ;refine aB (i:=8) k_ rfl (λK hK=>?_);go_simp;refine hK.out _ _ (λh=>absurd rfl h) ?_;clear hK K;refine co k_ ?_ _;go_wp2;go_meet
        case rel=>exact⟨_,_,_,_,rfl,Jd.out.1,Jd.out.2⟩
    case rest=>
      obtain⟨E,oa,on,oc,rfl,Jm,Jt⟩:=hcut;have Xy:=ah Jm;have Js:=ah (Xj.out.below Jt);have Ya:=ah (Ew Zp.out HT.out Js.out.old Z_.out Vf.out Js.out.g2 Js.out.f2 (fH HI.out Jt));clear Jm Jt Jl Jc Zp HI Xj;have⟨w5,e5⟩:=q_ wc;rw[<-e5]at Xy Js Ya⊢;clear e5;have Jl:=Ya;have Jc:Hid (∀X,Bl w5 X->X.cell? ⟨S,0,none⟩=some (.slice sa Z sc)/\X.cell? ⟨S,1,none⟩=some (.slice ta U tc)):=λX hX=>⟨((Js.out.below hX).b2 0 _ rfl).1,((Js.out.below hX).b2 1 _ rfl).1⟩;clear Ya;go_upto_region 11 with fail;go_cut [9]from 10 to 68 (λp W=>∃G va vn vc,p=pV G/\Is W G Xn (.slice va vn vc) o2 Xq Xl Xi/\Bl w5 W)
      case first=>
        have⟨X0,Yf,Jy⟩:=JT w5;have Jj:=ah (Jc.out X0 Jy);refine cq 8 (λX=>X.cell? ⟨S,0,none⟩=some (.slice sa Z sc)/\X.cell? ⟨S,1,none⟩=some (.slice ta U tc)) k_ ?_;rw[<-Yf.out];refine tk 0 [6,8] Jj.out ?_;refine tk 1 [6,8] Jj.out ?_;refine tk 2 [3,4,5,6,8] Jj.out ?_;refine tk 3 [4,5,6,8] Jj.out ?_;refine tk 4 [5,6,8] Jj.out ?_;refine kj (i:=5) (j:=7) k_ rfl rfl (λK hK=>?_) (λK hK=>?_);have Jx:=pC U Xg X0;go_simp;have⟨X1,Jz,Jb⟩:=nx Jy.out (.cells (Array.replicate U (V 0)) 2);rw[<-Jb.out.e,<-Jb.out.ez];refine hK.out _ _ (λ_=>Jc.out _ Jb.out.B) ?_;clear hK K;try simp only[Act.put,tA,tB,tC]
        clear Jx;refine kj (i:=6) (j:=7) k_ rfl rfl (λK hK=>?_) (λK hK=>?_);go_simp;refine(Jl.out X1 Jz Jb.out.B (Jb.out.zn Xg)).mono ?_;rintro e wn ⟨va,vn,vc,rfl,I,J⟩;have I:=ah I;have J:=ah J;have Je:=ah (Jb.out.B.trans (J.out.mono Jb.out.B.size));refine hK.out _ _ (λ_=>Jc.out _ Je) ?_;clear hK K;try simp only[Act.put,tA,tB,tC]
        refine aB (i:=7) k_ rfl (λK hK=>?_);go_simp;have⟨Y1,Zz,Ji⟩:=nx Je.out (.cells #[V 0,nV,V 0,V 0,V 0] 36);rw[<-Ji.out.e,<-Ji.out.ez];refine hK.out _ _ (λ_=>Jc.out _ Ji.out.B) ?_;clear hK K;try simp only[Act.put,tA,tB,tC]
        have HQ:=ah Ji.out.z5;have Jd:=ah (zC (st:=Xn) (ex:=Xq) (us:=Xl) (dp:=Xi) HQ.out I.out Ji.out.b (Nat.le_of_eq Ji.out.ez.symm) Je);rotate_left;go_simp;have⟨X2,Xf,Ja⟩:=nx Jb.out.B (.cells #[V 0,nV,V 0,V 0,V 0] 36);rw[<-Ja.out.e,<-Ja.out.ez];refine hK.out _ _ (λ_=>Jc.out _ Ja.out.B) ?_;clear hK K;try simp only[Act.put,tA,tB,tC]
        refine aB (i:=6) k_ rfl (λK hK=>?_);go_simp;refine(Jl.out X2 Jz Ja.out.B (fH (Jb.out.zn Xg) Ja.out.b)).mono ?_;rintro e wn ⟨va,vn,vc,rfl,I,J⟩;have I:=ah I;have J:=ah J;have Je:=ah (Ja.out.B.trans (J.out.mono Ja.out.B.size));refine hK.out _ _ (λ_=>Jc.out _ Je) ?_;clear hK K;try simp only[Act.put,tA,tB,tC]
        have HQ:=ah (Ja.out.z5.below J);have Jd:=ah (lD (st:=Xn) (ex:=Xq) (us:=Xl) (dp:=Xi) HQ.out I.out (Ka Ja.out.s) Ja.out.le Je);rotate_left;go_simp;have⟨X1,Jz,Jb⟩:=nx Jy.out (.cells #[V 0,nV,V 0,V 0,V 0] 36);rw[<-Jb.out.e,<-Jb.out.ez];refine hK.out _ _ (λ_=>Jc.out _ Jb.out.B) ?_;clear hK K;try simp only[Act.put,tA,tB,tC]
        refine aB (i:=5) k_ rfl (λK hK=>?_);have Jx:=pC U Xg X1;go_simp;have⟨X2,Xf,Ja⟩:=nx Jb.out.B (.cells (Array.replicate U (V 0)) 2);rw[<-Ja.out.e,<-Ja.out.ez];refine hK.out _ _ (λ_=>Jc.out _ Ja.out.B) ?_;clear hK K;try simp only[Act.put,tA,tB,tC]
        clear Jx;refine aB (i:=6) k_ rfl (λK hK=>?_);go_simp;refine(Jl.out X2 Xf Ja.out.B (Ja.out.zn Xg)).mono ?_;rintro e wn ⟨va,vn,vc,rfl,I,J⟩;have I:=ah I;have J:=ah J;have Je:=ah (Ja.out.B.trans (J.out.mono Ja.out.B.size));refine hK.out _ _ (λ_=>Jc.out _ Je) ?_;clear hK K;try simp only[Act.put,tA,tB,tC]
        have HQ:=ah ((Jb.out.z5.below Ja.out.b).below J);have Jd:=ah (lD (st:=Xn) (ex:=Xq) (us:=Xl) (dp:=Xi) HQ.out I.out (by have:=Ja.out.s;have:=Ja.out.ez;have:=Jb.out.s;omega) Jb.out.le Je);all_goals
          have⟨⟨c0,f0⟩,⟨c1,f1⟩,⟨c2,f2⟩,⟨c3,f3⟩,c4,f4⟩:=JU HQ;refine aB (i:=8) k_ rfl (λK hK=>?_);go_simp;refine hK.out _ _ (λh=>absurd rfl h) ?_;clear hK K;refine co k_ ?_ _;go_wp2;go_meet
          case rel=>exact⟨_,_,_,_,rfl,Jd.out.1,Jd.out.2⟩
      case rest=>
        obtain⟨E2,qa,qn,qc,rfl,Jm,Jt⟩:=hcut;have Zq:=ah Jm;have Ju:=ah (Xy.out.below Jt);have Zd:=ah (Js.out.below Jt);have e0:=(Ju.out.box 0 _ rfl).1;have e1:=(Ju.out.box 1 _ rfl).1;have e2:=(Ju.out.box 2 _ rfl).1;have e3:=(Ju.out.box 3 _ rfl).1;have g0:=(Jm.box 0 _ rfl).1;have g1:=(Jm.box 1 _ rfl).1;have g2:=(Jm.box 2 _ rfl).1;have g3:=(Jm.box 3 _ rfl).1;clear Jm Jt Xy Js Jl Jc;by_cases h1:st=1
        · rcases Vb.out with hc|⟨rfl,ho,rfl,Vh⟩
          · exact absurd h1 hc
          · subst h1
            have Vd:=ah (uM (.slice oa on oc) (.slice qa qn qc) o wc Ju.out.ol Ju.out.oi (by rw[<-ho];exact Zq.out.oi));clear ho;go_wp2_with fail;refine Vd.out.mono ?_;rintro e w6 ⟨rfl,Xo⟩;have Vc:=ah (Zd.out.below Xo);have Yd:=Ju.out.below Xo;have Ym:=Zq.out.below Xo;have Vg:=(Yd.box 2 _ rfl).1;have a3:=(Yd.box 3 _ rfl).1;have c2:=(Ym.box 2 _ rfl).1;have c3:=(Ym.box 3 _ rfl).1;clear Yd Ym Xo e0 e1 e2 e3 g0 g1 g2 g3;go_wp2;go_ret;exact⟨rfl,Vc.out.old⟩
        · go_wp2
          go_ret;exact⟨rfl,Zd.out.old⟩
  · have Yh:r=⟨[],[]⟩:=by have h:=Xb.out;unfold jr at h;rwa[if_neg (by rw[J_.out];exact h0)]at h
    have e1:Z=0:=(by rw[Va.out,Yh];rfl);have e2:U=0:=(by rw[Xz.out,Yh];rfl);subst e1 e2;have q0:=(Jg.out.b2 0 _ rfl).1;have q1:=(Jg.out.b2 1 _ rfl).1;clear Yh;go_wp2;go_ret;exact⟨rfl,Jg.out.old⟩