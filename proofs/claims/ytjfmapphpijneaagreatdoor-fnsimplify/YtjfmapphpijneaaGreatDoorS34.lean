import Derived.Deep.Cut
import Derived.Test.YtjfmapphpijneaaGreatDoorS27
import Derived.Test.YtjfmapphpijneaaGreatDoorS07
namespace Go.Proofs.YtjfmapphpijneaaGreatDoor
set_option linter.all false
set_option maxRecDepth 100000
set_option maxHeartbeats 0
open Go.World Go.Proofs.Tryz Go.RowKit
variable[Inhabited Pick]
section
variable{w w':AT}
def mH(v1 v2:BY)(J:List Nd)(w:AT)(hl:J.length<=1048576)(h1:aC w v1 J)(h2:aC w v2 J):
  Calls prog 51 #[v1,v2] w λe w'=>e=rW (.bool true)/\Bl w w':=by
 obtain⟨a1,c1,rfl,-,-,Jd⟩:=h1;obtain⟨a2,c2,rfl,-,-,Jc⟩:=h2;have H1:=ah Jd;have H2:=ah Jc;go_in;go_wp2;go_loopw[5] (λi wr=>∃k:Nat,k<=J.length/\i=V k/\Bl w wr) (λi _=>J.length-(RowKit.intOf i).toNat)
 case atStart=>exact⟨0,y_,rfl,r_⟩
 case round=>
  obtain⟨k,hk,rfl,I⟩:=hrel;by_cases hlt:k<J.length
  ·obtain⟨b1,o1,rfl,Jb⟩:=H1.o o_;obtain⟨b2,o2,rfl,Ja⟩:=H2.o o_;have⟨d0,d1,U⟩:=(Jb.below I) k hlt;have⟨Z,e1,e2⟩:=(Ja.below I) k hlt;generalize J[k]=n at d0 d1 U Z e1 e2;obtain⟨kd,vl,nm⟩:=n;dsimp only at d0 d1 U Z e1 e2;go_wp2_with fail;go_quiet (fail)
   go_wp2;go_roundw
   case rel=>exact⟨k+1,o_,by go_num,(⟨I.os,I.tape,I.output,I.size,I.block⟩:Bl w (wr.drewN _))⟩
   case measure=>exact IF
  go_wp2;go_ret;exact⟨rfl,I⟩
def EW{o1 o2:Obj}(h:Below (w.heap.size+1+1) ((w.alloc o1).alloc o2) w'):Bl w w':=
 ((ao _ _).alloc i_ _).trans (h.mono o_)
def JF{t u:JZ}{Z a1 a2 I U a5 b0 b1 b2 J b4 b5:BY}(h:Below (w.heap.size+1+1) ((w.alloc (.cells #[Z,a1,a2,I,U,a5] t)).alloc (.cells #[b0,b1,b2,J,b4,b5] u)) w'):
  w'.cell? ⟨w.heap.size,3,none⟩=some I/\w'.cell? ⟨w.heap.size+1,3,none⟩=some J:=by
 refine⟨?_,?_⟩;all_goals (rw[h.cell (by first|(simp;done)|(simp;omega))];go_simp;done)
def xh(v1 v2:BY)(I:List St)(w:AT)(hl:I.length<=1048576)(Jo:∀s∈I,gE s)(h1:aZ w v1 I)(h2:aZ w v2 I):
  Calls prog 25 #[v1,v2] w λe w'=>e=rW (.bool true)/\Bl w w':=by
 obtain⟨a1,c1,rfl,-,-,Jn⟩:=h1;obtain⟨a2,c2,rfl,-,-,Jk⟩:=h2;have H1:=ah Jn;have H2:=ah Jk;have Jg:=ah Jo;go_in;go_wp2;go_loopw[5] (λi wr=>∃k:Nat,k<=I.length/\i=V k/\Bl w wr) (λi _=>I.length-(RowKit.intOf i).toNat)
 case atStart=>exact⟨0,y_,rfl,r_⟩
 case round=>
  obtain⟨k,hk,rfl,J⟩:=hrel;by_cases hlt:k<I.length
  ·obtain⟨b1,o1,rfl,Ji⟩:=H1.o o_;obtain⟨b2,o2,rfl,Jf⟩:=H2.o o_;have⟨x1,y1,⟨d0,d1,d2,d3,d4,d5⟩,g1,U⟩:=(Ji.below J) k hlt;have⟨x2,y2,⟨e0,e1,e2,e3,e4,e5⟩,g3,Z⟩:=(Jf.below J) k hlt;have l1:=b_ d0;have l2:=b_ e0;simp only at l1 l2;have⟨Jb,Jc⟩:=Jg.o I[k] (g_ hlt);generalize I[k]=n at d0 d1 d2 d3 d4 d5 e0 e1 e2 e3 e4 e5 g1 U g3 Z Jb Jc;obtain⟨kd,nm,es,fs,th,el⟩:=n;dsimp only at d0 d1 d2 d3 d4 d5 e0 e1 e2 e3 e4 e5 g1 U g3 Z Jb Jc;have HA:=ah g1;have HB:=ah U;have HC:=ah g3;have HD:=ah Z;obtain⟨p1,q1,rfl,-,-,-⟩:=g1;obtain⟨p2,q2,rfl,-,-,-⟩:=U;obtain⟨p3,q3,rfl,-,-,-⟩:=g3;obtain⟨p4,q4,rfl,-,-,-⟩:=Z;have hA:Bl wr ((wr.alloc (.cells #[V kd,sV nm,.slice p1 es.length q1,.slice p2 fs.length q2,V th,V el] 79)).alloc (.cells #[V kd,sV nm,.slice p3 es.length q3,.slice p4 fs.length q4,V th,V el] 79)):=(ao _ _).alloc i_ _;have Jm:=ah (mH _ _ es _ Jb (HA.o.below hA) (HC.o.below hA));go_wp2_with fail;refine Jm.o.mono ?_;rintro e w1 ⟨rfl,Jd⟩;simp only[Bl,J9]at Jd;have⟨f3,Jp⟩:=JF Jd;have Ja:=EW Jd;have Jh:=ah (mH _ _ fs _ Jc (HB.o.below Ja) (HD.o.below Ja));have Je:=ah Ja;go_wp2_with fail;refine Jh.o.mono ?_;rintro e w2 ⟨rfl,Jl⟩;have Jj:=J.trans ((Je.o.trans (Jl.mono Je.o.size)).mono J.size);go_wp2;go_roundw
   case rel=>exact⟨k+1,o_,by go_num,Jj⟩
   case measure=>exact IF
  go_wp2;go_ret;exact⟨rfl,J⟩
def G1(w:AT)(h I U J:BY)(t:JZ):∃W B1 B2,W=(w.alloc (.cells #[h,I] t)).alloc (.cells #[U,J] t)/\B1=w.heap.size/\B2=w.heap.size+1/\Bl w W/\aN W B1 [h,I]/\aN W B2 [U,J]:=by
 refine⟨_,_,_,rfl,rfl,rfl,(ao _ _).alloc i_ _,?_,?_⟩;exact(aI w #[h,I] t i_).below (ao _ _)
 have:=aI (w.alloc (.cells #[h,I] t)) #[U,J] t i_
 simpa using this
def CG(w:AT)(h I J Z U b2:BY)(t:JZ):∃W B1 B2,W=(w.alloc (.cells #[h,I,J] t)).alloc (.cells #[Z,U,b2] t)/\B1=w.heap.size/\B2=w.heap.size+1/\Bl w W/\aN W B1 [h,I,J]/\aN W B2 [Z,U,b2]:=by
 refine⟨_,_,_,rfl,rfl,rfl,(ao _ _).alloc i_ _,?_,?_⟩;exact(aI w #[h,I,J] t i_).below (ao _ _)
 have:=aI (w.alloc (.cells #[h,I,J] t)) #[Z,U,b2] t i_
 simpa using this
def xi(t:Tr)(x1 y1 x2 y2:BY)(w:AT)(hs:eQ t)(h1:cD w x1 t.gl)(h2:bj w y1 t.fc)(h3:cD w x2 t.gl)(h4:bj w y2 t.fc):
  Calls prog 7 #[.agg #[x1,y1],.agg #[x2,y2]] w λe w'=>e=rW (.bool true)/\Bl w w':=by
 obtain⟨gs,fs⟩:=t;obtain⟨Ju,Jp,Jh⟩:=hs;dsimp only at Ju Jp Jh h1 h2 h3 h4;have⟨W,B1,B2,hW,Jn,Jt,hb,f1,f2⟩:=G1 w x1 y1 x2 y2 26;have k1:=h1.below hb;have k2:=h2.below hb;have k3:=h3.below hb;have k4:=h4.below hb;obtain⟨ga,gc,rfl,-,-,c1⟩:=k1;obtain⟨fa,fc,rfl,-,-,c2⟩:=k2;obtain⟨Xq,Xm,rfl,-,-,c3⟩:=k3;obtain⟨Xp,Xn,rfl,-,-,c4⟩:=k4;have⟨gn,Jj⟩:=q_ gs.length;have⟨fn,Jl⟩:=q_ fs.length;rw[<-Jj]at hW f1 f2 Ju c1 c3⊢;rw[<-Jl]at hW f1 f2 Jp c2 c4⊢;have HW:=ah hW;have Xh:=ah Jn;have Xe:=ah Jt;have J:=ah (And.intro f1 f2);have Xa:=ah c1;have Xd:=ah c2;have Xc:=ah c3;have J_:=ah c4;have HS:=ah Jh;have HG:=ah Jj;have Xb:=ah Jl;have Jq:=ah hb;clear h1 h2 h3 h4 hW Jn Jt f1 f2 c1 c2 c3 c4 Jh Jj Jl hb;go_in;go_upto_region 1 with fail;rw[<-HW.o,<-Xe.o,<-Xh.o];have z0:=J.o.1 0 _ rfl;have z1:=J.o.1 1 _ rfl;have z2:=J.o.2 0 _ rfl;have z3:=J.o.2 1 _ rfl;go_wp2;go_loopw[5] (λi wr=>∃k:Nat,k<=gn/\i=V k/\Bl W wr) (λi _=>gn-(RowKit.intOf i).toNat)
 case atStart=>exact⟨0,y_,rfl,r_⟩
 case round=>
  obtain⟨k,hk,rfl,I⟩:=hrel;clear z0 z1 z2 z3;have z0:=J.o.1.below I 0 _ rfl;have z1:=J.o.1.below I 1 _ rfl;have z2:=J.o.2.below I 0 _ rfl;have z3:=J.o.2.below I 1 _ rfl;by_cases hlt:k<gn
  ·obtain⟨b1,o1,rfl,Je⟩:=Xa.o o_;obtain⟨b2,o2,rfl,Jd⟩:=Xc.o o_;have Ja:k<gs.length:=(by rw[<-HG.o];exact hlt);have⟨Z,d1⟩:=(Je.below I) k Ja;have⟨U,e1⟩:=(Jd.below I) k Ja;clear Je Jd;generalize gs[k]=g at Z d1 U e1;obtain⟨nm,sz⟩:=g;dsimp only at Z d1 U e1;go_wp2_with fail;go_quiet (fail);go_wp2;go_roundw
   case rel=>exact⟨k+1,o_,by go_num,(⟨I.os,I.tape,I.output,I.size,I.block⟩:Bl W (wr.drewN _))⟩
   case measure=>exact IF
  go_wp2;go_loopw[6] (λi wr=>∃k:Nat,k<=fn/\i=V k/\Bl W wr) (λi _=>fn-(RowKit.intOf i).toNat)
  case atStart=>exact⟨0,y_,rfl,I⟩
  case round=>
   clear z0 z1 z2 z3 I hlt;obtain⟨q,hq,rfl,I⟩:=hrel;have z0:=J.o.1.below I 0 _ rfl;have z1:=J.o.1.below I 1 _ rfl;have z2:=J.o.2.below I 0 _ rfl;have z3:=J.o.2.below I 1 _ rfl;by_cases hlt:q<fn
   ·obtain⟨b1,o1,rfl,Je⟩:=Xd.o o_;obtain⟨b2,o2,rfl,Jd⟩:=J_.o o_;have Ja:q<fs.length:=(by rw[<-Xb.o];exact hlt);have⟨vp,vb,⟨Z,d1,d2⟩,p1,s1⟩:=(Je.below I) q Ja;have⟨Xi,Jo,⟨U,e1,e2⟩,p2,s2⟩:=(Jd.below I) q Ja;have⟨m1,m2,m3⟩:=HS.o fs[q] (g_ Ja);clear Je Jd;generalize fs[q]=f at Z d1 d2 U e1 e2 p1 p2 s1 s2 m1 m2 m3;obtain⟨nm,ps,bd⟩:=f;dsimp only at Z d1 d2 U e1 e2 p1 p2 s1 s2 m1 m2 m3;have⟨Vq,C1,C2,hV,Jx,Js,Jg,g1,g2⟩:=CG wr (sV nm) vp vb (sV nm) Xi Jo 52;have HL:=ah (xh vb Jo bd Vq m2 m3 (s1.below Jg) (s2.below Jg));have r1:=p1.below Jg;have r2:=p2.below Jg;obtain⟨pa,pc,rfl,-,-,u1⟩:=r1;obtain⟨Xl,Xk,rfl,-,-,u2⟩:=r2;obtain⟨ba,bc,rfl,-⟩:=s1;obtain⟨Xo,Xj,rfl,-⟩:=s2;have⟨pn,Jm⟩:=q_ ps.length;have⟨bn,Jw⟩:=q_ bd.length;rw[<-Jm]at hV g1 g2 u1 u2 m1 d1 e1;rw[<-Jw]at hV g1 g2 d2 e2 HL;have HV:=ah hV;have Ji:=ah Jx;have Jk:=ah Js;have Jb:=ah (And.intro g1 g2);have Jz:=ah u1;have Xf:=ah u2;have Jy:=ah Jm;have Jr:=ah Jg;have l1:=b_ z3.1;have l2:=b_ U;have l3:=b_ z1.1;have l4:=b_ Z;simp only at l1 l2 l3 l4;clear hV Jx Js g1 g2 u1 u2 Jm Jw Jg p1 p2 m2 m3;go_upto_region 13 with fail;rw[<-HV.o,<-Jk.o,<-Ji.o];have y0:=Jb.o.1 0 _ rfl;have y1:=Jb.o.1 1 _ rfl;have y2:=Jb.o.1 2 _ rfl;have t0:=Jb.o.2 0 _ rfl;have t1:=Jb.o.2 1 _ rfl;have t2:=Jb.o.2 2 _ rfl;clear Z d1 d2 U e1 e2;go_wp2_with fail;refine HL.o.mono ?_;rintro e w3 ⟨rfl,Jf⟩;have y0:=Jb.o.1.below Jf 0 _ rfl;have y1:=Jb.o.1.below Jf 1 _ rfl;have t0:=Jb.o.2.below Jf 0 _ rfl;have t1:=Jb.o.2.below Jf 1 _ rfl;have Xg:=ah Jf;clear Jf HL;go_wp2;go_loopw[9] (λi wr=>∃k:Nat,k<=pn/\i=V k/\Bl Vq wr) (λi _=>pn-(RowKit.intOf i).toNat)
    case atStart=>exact⟨0,y_,rfl,Xg⟩
    case round=>
     obtain⟨j,hj,rfl,Jc⟩:=hrel;clear y0 y1 y2 t0 t1 t2 z0 z1 z2 z3;have y1:=Jb.o.1.below Jc 1 _ rfl;have t1:=Jb.o.2.below Jc 1 _ rfl;by_cases hlt2:j<pn
     ·obtain⟨c1,i1,rfl,Je⟩:=Jz.o o_;obtain⟨c2,i2,rfl,Jd⟩:=Xf.o o_;have Jv:j<ps.length:=(by rw[<-Jy.o];exact hlt2);have Z:=(Je.below Jc) j Jv;have U:=(Jd.below Jc) j Jv;clear Je Jd;generalize ps[j]=p at Z U;go_wp2_with fail;go_quiet (fail);go_wp2;go_roundw
      case rel=>exact⟨j+1,o_,by go_num,(⟨Jc.os,Jc.tape,Jc.output,Jc.size,Jc.block⟩:Bl Vq (drewN _ _))⟩
      case measure=>exact IF
     go_wp2;go_roundw
     case rel=>exact⟨q+1,o_,by go_num,I.trans ((Jr.o.trans (Jc.mono Jr.o.size)).mono I.size)⟩
     case measure=>exact IF
   go_wp2;go_ret;exact⟨rfl,Jq.o.trans (I.mono Jq.o.size)⟩
end
def uM(v1 v2:BY)(l:List Int)(w:AT)(Z:l.length<=maxLen)(h1:Ints w v1 l)(h2:Ints w v2 l):
  Calls prog 10 #[v1,v2] w λe w'=>e=rW (.bool true)/\Bl w w':=by
 have Z:l.length<=9223372036854775807:=by unfold maxLen at Z;omega
 obtain⟨a1,c1,rfl,Jd⟩:=h1;obtain⟨a2,c2,rfl,Jc⟩:=h2;have H1:=ah Jd;have H2:=ah Jc;go_in;go_wp2;go_loopw[5] (λi wr=>∃k:Nat,k<=l.length/\i=V k/\Bl w wr) (λi _=>l.length-(RowKit.intOf i).toNat)
 case atStart=>exact⟨0,y_,rfl,r_⟩
 case round=>
  obtain⟨k,hk,rfl,I⟩:=hrel;by_cases hlt:k<l.length
  ·obtain⟨b1,rfl,Jb⟩:=H1.o o_;obtain⟨b2,rfl,Ja⟩:=H2.o o_;have U:=Jb k hlt;have J:=Ja k hlt;have e1:=(I.cell (p:=⟨b1,k,none⟩) (b_ U)).trans U;have e2:=(I.cell (p:=⟨b2,k,none⟩) (b_ J)).trans J;generalize l[k]=z at e1 e2;go_wp2_with fail;go_region
   go_wp2;go_roundw
   case rel=>exact⟨k+1,o_,by go_num,I.drew⟩
   case measure=>exact IF
  go_wp2;go_ret;exact⟨rfl,I⟩
