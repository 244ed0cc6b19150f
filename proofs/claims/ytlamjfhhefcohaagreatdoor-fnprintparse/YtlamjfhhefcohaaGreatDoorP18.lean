import Derived.Test.YtlamjfhhefcohaaGreatDoorP09
import Derived.Deep.Cut
set_option linter.unusedSectionVars false
variable [Inhabited Go.Proofs.YtlamjfhhefcohaaGreatDoor.Pick]
namespace Go.Proofs.YtlamjfhhefcohaaGreatDoor
open Go.Proofs.Tryz
open Go.RowKit
set_option linter.all false
set_option maxRecDepth 100000
set_option maxHeartbeats 16000000
variable{w w':World}
theorem j8(v1 v2:Value)(ns:List Nd)(w:World)(hl:ns.length<=1048576)(h1:ax w v1 ns)(h2:ax w v2 ns):
  Calls prog 69 #[v1,v2] w fun e w'=>e=.returned (.bool true)/\Below w.heap.size w w':=by
 obtain⟨a1,c1,rfl,-,-,Jd⟩:=h1;obtain⟨a2,c2,rfl,-,-,Ja⟩:=h2;obtain⟨H1,H2⟩:=h2 Jd Ja;go_enter func69,ntmps69;go_wp2;go_loopw[5] (fun i wr=>∃k:Nat,k<=ns.length/\i=.int .i64 k/\Bl w wr) (fun i _=>ns.length-(RowKit.intOf i).toNat)
 case atStart=>exact⟨0,y_,rfl,r_⟩
 case round=>
  obtain⟨k,hk,rfl,hB⟩:=hrel;by_cases hlt:k<ns.length
  ·obtain⟨b1,o1,rfl,Jb⟩:=H1.out o_;obtain⟨b2,o2,rfl,Jc⟩:=H2.out o_;obtain⟨d0,d1,d2⟩:=(Jb.below hB) k hlt;obtain⟨e0,e1,e2⟩:=(Jc.below hB) k hlt;generalize ns[k]=n at d0 d1 d2 e0 e1 e2;obtain⟨kd,vl,nm⟩:=n;dsimp only at d0 d1 d2 e0 e1 e2;go_wp2_with fail;go_quiet (fail)
   go_wp2;go_roundw
   case rel=>exact⟨k+1,o_,by go_num,(⟨hB.os,hB.tape,hB.output,hB.size,hB.block⟩:Bl w (wr.drewN _))⟩
   case measure=>simp[RowKit.intOf];omega
  ·go_wp2;go_ret;exact⟨rfl,hB⟩
theorem zM{o1 o2:Obj}(h:Below (w.heap.size+1+1) ((w.alloc o1).alloc o2) w'):Below w.heap.size w w':=
 ((aD _ _).alloc i_ _).trans (h.mono o_)
theorem Fa{t u:TypeId}{a0 a1 a2 a3 a4 a5 b0 b1 b2 b3 b4 b5:Value}(h:Below (w.heap.size+1+1) ((w.alloc (.cells #[a0,a1,a2,a3,a4,a5] t)).alloc (.cells #[b0,b1,b2,b3,b4,b5] u)) w'):
  w'.cell? ⟨w.heap.size,3,none⟩=some a3/\w'.cell? ⟨w.heap.size+1,3,none⟩=some b3:=by
 refine⟨?_,?_⟩;all_goals (rw[h.cell (by first|(simp;done)|(simp;omega))];go_simp;done)
theorem qE(v1 v2:Value)(ns:List St)(w:World)(hl:ns.length<=1048576)(Jo:∀s∈ns,kP s)(h1:bJ w v1 ns)(h2:bJ w v2 ns):
  Calls prog 34 #[v1,v2] w fun e w'=>e=.returned (.bool true)/\Below w.heap.size w w':=by
 obtain⟨a1,c1,rfl,-,-,Jm⟩:=h1;obtain⟨a2,c2,rfl,-,-,Jf⟩:=h2;obtain⟨H1,H2,Jg⟩:=h3 Jm Jf Jo;go_enter func34,ntmps34;go_wp2;go_loopw[5] (fun i wr=>∃k:Nat,k<=ns.length/\i=.int .i64 k/\Bl w wr) (fun i _=>ns.length-(RowKit.intOf i).toNat)
 case atStart=>exact⟨0,y_,rfl,r_⟩
 case round=>
  obtain⟨k,hk,rfl,hB⟩:=hrel;by_cases hlt:k<ns.length
  ·obtain⟨b1,o1,rfl,Jh⟩:=H1.out o_;obtain⟨b2,o2,rfl,Ji⟩:=H2.out o_;obtain⟨x1,y1,⟨d0,d1,d2,d3,d4,d5⟩,g1,g2⟩:=(Jh.below hB) k hlt;obtain⟨x2,y2,⟨e0,e1,e2,e3,e4,e5⟩,g3,g4⟩:=(Ji.below hB) k hlt;have l1:=b_ d0;have l2:=b_ e0;simp only at l1 l2;obtain⟨Jc,Jd⟩:=Jg.out ns[k] (g_ hlt);generalize ns[k]=n at d0 d1 d2 d3 d4 d5 e0 e1 e2 e3 e4 e5 g1 g2 g3 g4 Jc Jd;obtain⟨kd,nm,es,fs,th,el⟩:=n;dsimp only at d0 d1 d2 d3 d4 d5 e0 e1 e2 e3 e4 e5 g1 g2 g3 g4 Jc Jd;obtain⟨HA,HB,HC,HD⟩:=h4 g1 g2 g3 g4;obtain⟨p1,q1,rfl,-,-,-⟩:=g1;obtain⟨p2,q2,rfl,-,-,-⟩:=g2;obtain⟨p3,q3,rfl,-,-,-⟩:=g3;obtain⟨p4,q4,rfl,-,-,-⟩:=g4;have hA:Bl wr ((wr.alloc (.cells #[.int .i64 kd,.string nm,.slice p1 es.length q1,.slice p2 fs.length q2,.int .i64 th,.int .i64 el] 46)).alloc (.cells #[.int .i64 kd,.string nm,.slice p3 es.length q3,.slice p4 fs.length q4,.int .i64 th,.int .i64 el] 46)):=(aD _ _).alloc i_ _;have Jn:=ah (j8 _ _ es _ Jc (HA.out.below hA) (HC.out.below hA));go_wp2_with fail;refine Jn.out.mono ?_;rintro e w1 ⟨rfl,Jb⟩;simp only[World.size_alloc]at Jb;obtain⟨f3,Jp⟩:=Fa Jb;have Ja:=zM Jb;obtain⟨Jj,Je⟩:=h2 (j8 _ _ fs _ Jd (HB.out.below Ja) (HD.out.below Ja)) Ja;go_wp2_with fail;refine Jj.out.mono ?_;rintro e w2 ⟨rfl,Jk⟩;have Jl:=hB.trans ((Je.out.trans (Jk.mono Je.out.size)).mono hB.size);go_wp2;go_roundw
   case rel=>exact⟨k+1,o_,by go_num,Jl⟩
   case measure=>simp[RowKit.intOf];omega
  ·go_wp2;go_ret;exact⟨rfl,hB⟩
theorem Cp(w:World)(a0 a1 b0 b1:Value)(t:TypeId):∃W B1 B2,W=(w.alloc (.cells #[a0,a1] t)).alloc (.cells #[b0,b1] t)/\B1=w.heap.size/\B2=w.heap.size+1/\Below w.heap.size w W/\aR W B1 [a0,a1]/\aR W B2 [b0,b1]:=by
 refine⟨_,_,_,rfl,rfl,rfl,(aD _ _).alloc i_ _,?_,?_⟩
 ·exact(aJ w #[a0,a1] t (by show 2<=1000;omega)).below (aD _ _)
 ·have:=aJ (w.alloc (.cells #[a0,a1] t)) #[b0,b1] t (by show 2<=1000;omega)
  simpa using this
theorem wN(w:World)(a0 a1 a2 b0 b1 b2:Value)(t:TypeId):∃W B1 B2,W=(w.alloc (.cells #[a0,a1,a2] t)).alloc (.cells #[b0,b1,b2] t)/\B1=w.heap.size/\B2=w.heap.size+1/\Below w.heap.size w W/\aR W B1 [a0,a1,a2]/\aR W B2 [b0,b1,b2]:=by
 refine⟨_,_,_,rfl,rfl,rfl,(aD _ _).alloc i_ _,?_,?_⟩
 ·exact(aJ w #[a0,a1,a2] t (by show 3<=1000;omega)).below (aD _ _)
 ·have:=aJ (w.alloc (.cells #[a0,a1,a2] t)) #[b0,b1,b2] t (by show 3<=1000;omega)
  simpa using this
theorem qF(t:Tr)(x1 y1 x2 y2:Value)(w:World)(hs:i6 t)(h1:dL w x1 t.globals)(h2:dM w y1 t.funcs)(h3:dL w x2 t.globals)(h4:dM w y2 t.funcs):
  Calls prog 15 #[.agg #[x1,y1],.agg #[x2,y2]] w fun e w'=>e=.returned (.bool true)/\Below w.heap.size w w':=by
 obtain⟨gs,fs⟩:=t;obtain⟨Jp,Jx,Jj⟩:=hs;dsimp only at Jp Jx Jj h1 h2 h3 h4;obtain⟨W,B1,B2,hW,Jv,Ju,hb,f1,f2⟩:=Cp w x1 y1 x2 y2 26;have k1:=h1.below hb;have k2:=h2.below hb;have k3:=h3.below hb;have k4:=h4.below hb;obtain⟨ga,gc,rfl,-,-,c1⟩:=k1;obtain⟨fa,fc,rfl,-,-,c2⟩:=k2;obtain⟨Xk,Xq,rfl,-,-,c3⟩:=k3;obtain⟨Xn,Xp,rfl,-,-,c4⟩:=k4;obtain⟨gn,Jk⟩:=q_ gs.length;obtain⟨fn,Jm⟩:=q_ fs.length;rw[<-Jk]at hW f1 f2 Jp c1 c3⊢;rw[<-Jm]at hW f1 f2 Jx c2 c4⊢;obtain⟨HW,Jz,Xc,HF,Xa,Xh,J_,Xf,HS,HG,Xg,Js⟩:=h12 hW Jv Ju (And.intro f1 f2) c1 c2 c3 c4 Jj Jk Jm hb;clear h1 h2 h3 h4 hW Jv Ju f1 f2 c1 c2 c3 c4 Jj Jk Jm hb;go_enter func15,ntmps15;go_upto_region 1 with fail;rw[<-HW.out,<-Xc.out,<-Jz.out];have z0:=HF.out.1 0 _ rfl;have z1:=HF.out.1 1 _ rfl;have z2:=HF.out.2 0 _ rfl;have z3:=HF.out.2 1 _ rfl;go_wp2;go_loopw[5] (fun i wr=>∃k:Nat,k<=gn/\i=.int .i64 k/\Bl W wr) (fun i _=>gn-(RowKit.intOf i).toNat)
 case atStart=>exact⟨0,y_,rfl,r_⟩
 case round=>
  obtain⟨k,hk,rfl,hB⟩:=hrel;clear z0 z1 z2 z3;have z0:=HF.out.1.below hB 0 _ rfl;have z1:=HF.out.1.below hB 1 _ rfl;have z2:=HF.out.2.below hB 0 _ rfl;have z3:=HF.out.2.below hB 1 _ rfl;by_cases hlt:k<gn
  ·obtain⟨b1,o1,rfl,Jd⟩:=Xa.out o_;obtain⟨b2,o2,rfl,Je⟩:=J_.out o_;have Ja:k<gs.length:=by rw[<-HG.out];exact hlt
   obtain⟨d0,d1⟩:=(Jd.below hB) k Ja;obtain⟨e0,e1⟩:=(Je.below hB) k Ja;clear Jd Je;generalize gs[k]=g at d0 d1 e0 e1;obtain⟨nm,sz⟩:=g;dsimp only at d0 d1 e0 e1;go_wp2_with fail;go_quiet (fail);go_wp2;go_roundw
   case rel=>exact⟨k+1,o_,by go_num,(⟨hB.os,hB.tape,hB.output,hB.size,hB.block⟩:Bl W (wr.drewN _))⟩
   case measure=>simp[RowKit.intOf];omega
  ·go_wp2;go_loopw[6] (fun i wr=>∃k:Nat,k<=fn/\i=.int .i64 k/\Bl W wr) (fun i _=>fn-(RowKit.intOf i).toNat)
   case atStart=>exact⟨0,y_,rfl,hB⟩
   case round=>
    clear z0 z1 z2 z3 hB hlt;obtain⟨q,hq,rfl,hB⟩:=hrel;have z0:=HF.out.1.below hB 0 _ rfl;have z1:=HF.out.1.below hB 1 _ rfl;have z2:=HF.out.2.below hB 0 _ rfl;have z3:=HF.out.2.below hB 1 _ rfl;by_cases hlt:q<fn
    ·obtain⟨b1,o1,rfl,Jd⟩:=Xh.out o_;obtain⟨b2,o2,rfl,Je⟩:=Xf.out o_;have Ja:q<fs.length:=by rw[<-Xg.out];exact hlt
     obtain⟨vp,vb,⟨d0,d1,d2⟩,p1,s1⟩:=(Jd.below hB) q Ja;obtain⟨Xb,Jq,⟨e0,e1,e2⟩,p2,s2⟩:=(Je.below hB) q Ja;obtain⟨m1,m2,m3⟩:=HS.out fs[q] (g_ Ja);clear Jd Je;generalize fs[q]=f at d0 d1 d2 e0 e1 e2 p1 p2 s1 s2 m1 m2 m3;obtain⟨nm,ps,bd⟩:=f;dsimp only at d0 d1 d2 e0 e1 e2 p1 p2 s1 s2 m1 m2 m3;obtain⟨V,C1,C2,hV,Jn,Jw,Jg,g1,g2⟩:=wN wr (.string nm) vp vb (.string nm) Xb Jq 43;have HL:=ah (qE vb Jq bd V m2 m3 (s1.below Jg) (s2.below Jg));have r1:=p1.below Jg;have r2:=p2.below Jg;obtain⟨pa,pc,rfl,-,-,u1⟩:=r1;obtain⟨Xl,Xo,rfl,-,-,u2⟩:=r2;obtain⟨ba,bc,rfl,-⟩:=s1;obtain⟨Xj,Xm,rfl,-⟩:=s2;obtain⟨pn,Ji⟩:=q_ ps.length;obtain⟨bn,Jt⟩:=q_ bd.length;rw[<-Ji]at hV g1 g2 u1 u2 m1 d1 e1;rw[<-Jt]at hV g1 g2 d2 e2 HL;obtain⟨HV,Jl,Jh,Jb,Jy,Xd,Xi,Jo⟩:=h8 hV Jn Jw (And.intro g1 g2) u1 u2 Ji Jg;have l1:=b_ z3.1;have l2:=b_ e0;have l3:=b_ z1.1;have l4:=b_ d0;simp only at l1 l2 l3 l4;clear hV Jn Jw g1 g2 u1 u2 Ji Jt Jg p1 p2 m2 m3;go_upto_region 13 with fail;rw[<-HV.out,<-Jh.out,<-Jl.out];have y0:=Jb.out.1 0 _ rfl;have y1:=Jb.out.1 1 _ rfl;have y2:=Jb.out.1 2 _ rfl;have t0:=Jb.out.2 0 _ rfl;have t1:=Jb.out.2 1 _ rfl;have t2:=Jb.out.2 2 _ rfl;clear d0 d1 d2 e0 e1 e2;go_wp2_with fail;refine HL.out.mono ?_;rintro e w3 ⟨rfl,Jf⟩;have y0:=Jb.out.1.below Jf 0 _ rfl;have y1:=Jb.out.1.below Jf 1 _ rfl;have t0:=Jb.out.2.below Jf 0 _ rfl;have t1:=Jb.out.2.below Jf 1 _ rfl;have Xe:=ah Jf;clear Jf HL;go_wp2;go_loopw[9] (fun i wr=>∃k:Nat,k<=pn/\i=.int .i64 k/\Bl V wr) (fun i _=>pn-(RowKit.intOf i).toNat)
     case atStart=>exact⟨0,y_,rfl,Xe⟩
     case round=>
      obtain⟨j,hj,rfl,Jc⟩:=hrel;clear y0 y1 y2 t0 t1 t2 z0 z1 z2 z3;have y1:=Jb.out.1.below Jc 1 _ rfl;have t1:=Jb.out.2.below Jc 1 _ rfl;by_cases hlt2:j<pn
      ·obtain⟨c1,i1,rfl,Jd⟩:=Jy.out o_;obtain⟨c2,i2,rfl,Je⟩:=Xd.out o_;have Jr:j<ps.length:=by rw[<-Xi.out];exact hlt2
       have d0:=(Jd.below Jc) j Jr;have e0:=(Je.below Jc) j Jr;clear Jd Je;generalize ps[j]=p at d0 e0;go_wp2_with fail;go_quiet (fail);go_wp2;go_roundw
       case rel=>exact⟨j+1,o_,by go_num,(⟨Jc.os,Jc.tape,Jc.output,Jc.size,Jc.block⟩:Bl V (World.drewN _ _))⟩
       case measure=>simp[RowKit.intOf];omega
      ·go_wp2;go_roundw
       case rel=>exact⟨q+1,o_,by go_num,hB.trans ((Jo.out.trans (Jc.mono Jo.out.size)).mono hB.size)⟩
       case measure=>simp[RowKit.intOf];omega
    ·go_wp2;go_ret;exact⟨rfl,Js.out.trans (hB.mono Js.out.size)⟩
end Go.Proofs.YtlamjfhhefcohaaGreatDoor
