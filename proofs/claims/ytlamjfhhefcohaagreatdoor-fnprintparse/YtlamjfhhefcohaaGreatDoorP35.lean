import Derived.Test.YtlamjfhhefcohaaGreatDoorP34
import Derived.Test.YtlamjfhhefcohaaGreatDoorP33
set_option linter.unusedSectionVars false
variable [Inhabited Go.Proofs.YtlamjfhhefcohaaGreatDoor.Pick]
namespace Go.Proofs.YtlamjfhhefcohaaGreatDoor
open Go.Proofs.Tryz
open Go.RowKit
set_option linter.all false
set_option maxRecDepth 100000
set_option maxHeartbeats 16000000
section
variable{u:Value}{r a:List Nd}{V w0 W:World}{Bs M:Nat}{C:RC}{m:TV}{xs:List Value}{z:PS}
structure BI (C:RC) (m:TV) (w0:World) (M:Nat) (xs:List Value) (W:World) (z:PS):Prop where
 st:bj C m W z
 bx:aR W M xs
 t:am (fun k=>k=C.P) w0 W
 m:M<W.heap.size
 mw:w0.heap.size<=M
 hl:C.P+1<w0.heap.size
section
variable{C:RC}{m:TV}{w0 W W':World}{M:Nat}{xs:List Value}{z z':PS}
theorem BI.ne(h:BI C m w0 M xs W z):C.P≠M:=by have:=h.mw;have:=h.hl;omega
theorem BI.below(h:BI C m w0 M xs W z)(hb:Below W.heap.size W W'):BI C m w0 M xs W' z:=⟨h.st.below hb,h.bx.below hb,h.t.of_below hb,l_ h.m hb.size,h.mw,h.hl⟩
theorem BI.go(h:BI C m w0 M xs W z)(hz:bj C m W' z')(ht:am (fun k=>k=C.P) W W'):BI C m w0 M xs W' z':=⟨hz,h.bx.tcs h.m ht (fun e=>h.ne e.symm),h.t.trans ht,l_ h.m ht.size,h.mw,h.hl⟩
theorem BI.bb(h:BI C m w0 M xs W z):Kp C w0 W:=jU h.t (fun k hk=>by rw[hk];exact⟨h.st.ok.hi,o_⟩) (by have:=h.st.ok.hi;have:=h.hl;omega)
theorem BI.put(h:BI C m w0 M xs W z)(i:Nat)(u:Value)(hX:W'=W.setCell ⟨M,i,none⟩ u):BI C m w0 M (xs.set i u) W' z/\am (fun k=>k=M) W W':=by
 have t1:am (fun k=>k=M) W W':=by rw[hX];exact(am.refl (fun k=>k=M) W).setCell (p:=⟨M,i,none⟩) rfl u
 have hx:=h.bx.set i u;rw[<-hX]at hx;have h1:=h.mw;have h2:=h.hl;have h3:=h.st.ok.hi;exact⟨⟨h.st.tcs t1 o_ (fun k hk=>by omega),hx,h.t.next t1 (fun k hk=>.inr o_),l_ h.m t1.size,h.mw,h.hl⟩,t1⟩
theorem BI.q(h:BI C m w0 M xs W z){j:Nat}{v:Value}(hj:xs[j]? =some v):W.cell? ⟨M,j,none⟩=some v/\W.frozen? ⟨M,j,none⟩=false:=h.bx j v hj
theorem BI.new{w:World}(cs:Array Value)(T:TypeId)(hc:cs.size=6)(hS:bj C m w z)(hT:am (fun k=>k=C.P) w0 w)(hl:C.P+1<w0.heap.size)(hW:W=w.alloc (.cells cs T))(hM:M=w.heap.size):BI C m w0 M cs.toList W z:=by
 have hb:Bl w W:=by rw[hW];exact r_.alloc n_ _
 have hx:aR W M cs.toList:=by rw[hW,hM];exact aJ w cs _ o_
 have h0:0<cs.toList.length:=by rw[Array.length_toList];omega
 exact⟨hS.below hb,hx,hT.of_below hb,b_ (hx 0 _ (List.getElem?_eq_getElem h0)).1,by rw[hM];exact hT.size,hl⟩
theorem BI.put6{x0 x1 x2 x3 x4 x5 y0 y1 y2 y3 y4 y5:Value}(h:BI C m w0 M [x0,x1,x2,x3,x4,x5] W z)(hX:W'=(((((W.setCell ⟨M,0,none⟩ y0).setCell ⟨M,1,none⟩ y1).setCell ⟨M,2,none⟩ y2).setCell ⟨M,3,none⟩ y3).setCell ⟨M,4,none⟩ y4).setCell ⟨M,5,none⟩ y5):
  BI C m w0 M [y0,y1,y2,y3,y4,y5] W' z/\am (fun k=>k=M) W W':=by
 obtain⟨h0,t0⟩:=h.put 0 y0 rfl;obtain⟨h1,t1⟩:=h0.put 1 y1 rfl;obtain⟨h2,t2⟩:=h1.put 2 y2 rfl;obtain⟨h3,t3⟩:=h2.put 3 y3 rfl;obtain⟨h4,t4⟩:=h3.put 4 y4 rfl;obtain⟨h5,t5⟩:=h4.put 5 y5 rfl;rw[hX];exact⟨h5,((((t0.trans t1).trans t2).trans t3).trans t4).trans t5⟩
theorem BI.fr(h:BI C m w0 M xs W z)(hE:EB C m W.heap.size W (.slice none 0 0) W' u r z'):BI C m w0 M xs W' z'/\aF W.heap.size W' u r:=by
 have ht:am (fun k=>k=C.P) W W':=hE.t.mono fun k hk=>by
  rcases hk with hk|hk
  ·exact hk
  ·simp[Value.ownBlock]at hk
 exact⟨h.go hE.st ht,hE.row⟩
theorem BI.keepP(h:BI C m w0 M xs W z)(hr:aF Bs W u r)(hB:C.P+1<Bs)(t:am (fun k=>k=C.P) W V):aF Bs V u r:=az hr t (fun k hk=>by rw[hk];omega)
theorem BI.keepM(hM:M<Bs)(hr:aF Bs W u r)(t:am (fun k=>k=M) W V):aF Bs V u r:=az hr t (fun k hk=>by rw[hk];exact hM)
end
def ye(C:RC)(m:TV)(w:World)(r:List St)(s':PS)(e:Ending)(w':World):Prop:=
 (¬iV (ai C.l) s'/\∃q:SV,e=.returned (.agg #[.int .i64 q.s.kind,.string q.s.name,q.ve,q.vf,.int .i64 q.s.thn,.int .i64 q.s.els])/\r=[q.s]/\dQ w.heap.size w' q.ve q.s.e q.ke/\dQ w.heap.size w' q.vf q.s.f q.kf/\(q.ke++q.kf).Nodup/\bj C m w' s'/\am (fun k=>k=C.P) w w')∨lv C w s' e w'
theorem BI.one(h:BI C m w0 M xs W z)(k:Int)(x:ByteArray)(hr:aF Bs W u a)(hB:w0.heap.size<=Bs):ye C m w0 [⟨k,x,a,[],0,0⟩] z (.returned (.agg #[.int .i64 k,.string x,u,.slice none 0 0,.int .i64 0,.int .i64 0])) W:=by
 obtain⟨K,h1,h2,h3⟩:=jG hr;exact .inl ⟨h.st.al,⟨⟨k,x,a,[],0,0⟩,u,.slice none 0 0,K,[]⟩,rfl,rfl,h1.base hB,dQ.nil _ _,by rw[List.append_nil];exact h3,h.st,h.t⟩
theorem BI.two{Bf:Nat}{f:Value}{b:List Nd}(h:BI C m w0 M xs W z)(k:Int)(x:ByteArray)(hr:aF Bs W u a)(hB:w0.heap.size<=Bs)(hf:aF Bf W f b)(Jc:w0.heap.size<=Bf)(hu:∀g,u.ownBlock=some g->g<Bf):ye C m w0 [⟨k,x,a,b,0,0⟩] z (.returned (.agg #[.int .i64 k,.string x,u,f,.int .i64 0,.int .i64 0])) W:=by
 obtain⟨K,h1,h2,h3⟩:=jG hr;obtain⟨K',Ja,Jd,Jb⟩:=jG hf;refine .inl ⟨h.st.al,⟨⟨k,x,a,b,0,0⟩,u,f,K,K'⟩,rfl,rfl,h1.base hB,Ja.base Jc,?_,h.st,h.t⟩;show(K++K').Nodup;rw[List.nodup_append];refine⟨h3,Jb,fun p hp q hq e=>?_⟩;subst e;have:=hu p (h2 p hp)
 have:=(Ja.rng p hq).1
 omega
end
section
variable{n:Nat}
def Fk(C:RC)(n:Nat):Prop:=∀(w:World) (m:TV) (z:PS) (nm:ByteArray) (r:List St) (s':PS),
 ((aC (ai C.l) [91] z=true/\∃a s1,Pa (ai C.l) n (.pr [91] [93]) z (.n a) s1/\Pa (ai C.l) n (.sg ⟨3,nm,a,[],0,0⟩) s1 (.s r) s') ∨
   (aC (ai C.l) [91] z=false/\aC (ai C.l) [40] z=true/\∃a s1,Pa (ai C.l) n (.ar nm) z (.n a) s1/\r=[⟨8,tx [],a,[],0,0⟩]/\s'=bq (ai C.l) [59] s1) ∨
   (aC (ai C.l) [91] z=false/\aC (ai C.l) [40] z=false/\Pa (ai C.l) n (.sg (st0 2 nm)) z (.s r) s')) ->
 bj C m w z->fJ r<=1000000->Calls prog 177 #[.pointer (some ⟨C.P,0,none⟩),.string nm] w (ye C m w r s')
theorem sI{T:Nat->To}{t:St}{s:PS}{r:List St}{s':PS}(h:Pa T n (.sg t) s (.s r) s'):
  Dm T (bq T [61] s) s'/\((bq T [61] s).er=0->∃a s1,Pa T n (.e 1) (bq T [61] s) (.n a) s1/\r=[i8 t a]/\s'=bq T [59] s1):=by
 cases n with
 | zero=>cases h using Pa_i
 | succ n=>
  rcases xD h with⟨h1,-,rfl⟩|⟨h1,a,s1,hp,rfl,rfl⟩
  ·exact⟨bQ _ _,fun e=>absurd e h1⟩
  ·exact⟨hp.dm.trans (bQ _ _),fun _=>⟨a,s1,hp.up,rfl,rfl⟩⟩
theorem CZ{C:RC}(HN:gW C)(Yb:D4 C n)(Ya:CS C n)(X_:sH C n):Fk C n:=by
 intro w m z nm r s' Xg hS Jl;obtain⟨W1,Xl⟩:=q_ (w.alloc (.cells #[.int .i64 0,.string ⟨#[]⟩,.slice none 0 0,.slice none 0 0,.int .i64 0,.int .i64 0] 46));obtain⟨M,eM⟩:=q_ w.heap.size;have Jc:=BI.new #[.int .i64 0,.string ⟨#[]⟩,.slice none 0 0,.slice none 0 0,.int .i64 0,.int .i64 0] 46 rfl hS (am.refl (fun k=>k=C.P) w) hS.lt Xl eM;obtain⟨Yj,HM⟩:=h2 Xl eM;have Ye:=ah fun W y (h:bj C m W y)=>cY HN h [61] d_;have Xc:=ah fun W y x (hx:dV x=true) (h:bj C m W y)=>du h x hx;have Xt:=ah fun W y x (hx:dV x=true) (h:bj C m W y)=>dt HN h x hx;have Yg:=ah fun W y (h:bj C m W y)=>gB h 3;have Xv:=ah fun W y a s1 (hp:Pa (ai C.l) n (.e 1) y (.n a) s1) (h:bj C m W y) (hl:a.length<=1000000)=>Yb W m y a s1 hp h hl;have Yl:=ah fun W y a s1 (hp:Pa (ai C.l) n (.pr [91] [93]) y (.n a) s1) (h:bj C m W y) (hl:a.length<=1000000)=>Ya W m y [91] [93] a s1 d_ d_ hp h hl;have Yi:=ah fun W a s1 (hp:Pa (ai C.l) n (.ar nm) z (.n a) s1) (h:bj C m W z) (hl:a.length<=1000000)=>X_ W m W.heap.size z nm (.slice none 0 0) [] a s1 hp h (iT _ _) h.lt n_ (by simpa using hl);clear Yb Ya X_ HN Xl eM hS;go_enter func177,ntmps177;go_upto_region 1 with fail;rw[<-Yj.out,<-HM.out];have Xh:=Jc.st.al;go_wp2_with fail;refine(Ye.out _ _ Jc.st).mono (fun e w2 hg=>?_);rcases hg with⟨Jo,rfl,hw⟩|⟨Jo,hg⟩
 ·rw[hw];clear hw;go_wp2_with fail;rcases Xg with⟨hi,a,s1,hp,hq⟩|⟨hi,hj,a,s1,hp,rfl,rfl⟩|⟨hi,hj,hp⟩
  ·refine(Xc.out _ _ [91] d_ Jc.st).mono ?_;rintro e w9 ⟨rfl,hw⟩;rw[hw,hi];clear hw;obtain⟨Jt,Js⟩:=sI hq;have Xn:a.length<=1000000:=t_ (A7 hq rfl) Jl;obtain⟨Xi,Xe,Jx⟩:=h3 (Yl.out W1 z a s1 hp Jc.st Xn) Jt Js;clear hp hq Jt Js hi Jo;go_wp2_with fail;refine(Xi).mono (fun e w3 hg=>?_);rcases hg.symm with hd|⟨-,u3,rfl,hn⟩
   ·have HF:Hid (ye C m w r s' e w3):=.inr (hd.later ((bQ _ _).trans Xe) Jc.bb);obtain⟨-,rfl,-⟩:=hd;unfold a8 at*;go_wp2_with fail;exact⟨rfl,HF⟩
   obtain⟨Jg,Jn⟩:=Jc.fr hn;obtain⟨Ja,Jb,rfl,-⟩:=au Jn;clear hn;have Xb:=Jc.m;have Xr:=Jc.st.lt;have Jz:=Jc.t.size;obtain⟨W4,Jm⟩:=q_ (w3.alloc (.cells #[.int .i64 3,.string nm,.slice Ja a.length Jb,.slice none 0 0,.int .i64 0,.int .i64 0] 46));obtain⟨N,eN⟩:=q_ w3.heap.size;have Jf:Bl w3 W4:=by rw[Jm];exact r_.alloc n_ _
   have Ji:=Jg.below Jf;have Jv:=BI.new #[.int .i64 3,.string nm,.slice Ja a.length Jb,.slice none 0 0,.int .i64 0,.int .i64 0] 46 rfl Jg.st Jg.t Jg.hl Jm eN;have J_:=aF.below Jn Jf;have Xu:M≠N:=by have:=Jg.m;omega
   have Xz:∀g,(Value.slice Ja a.length Jb).ownBlock=some g->g<N:=fun g hg=>by have:=(World.ownsRow.lt Jn g hg).2;omega
   obtain⟨Xm,Xs⟩:=h2 Jm eN;clear Jm eN Jf Jn Jg Jc;go_upto_region 5 with fail;rw[<-Xm.out,<-Xs.out];go_wp2_with fail;refine(Xt.out _ _ [61] d_ Ji.st).mono (fun e w5 hg=>?_);rcases hg.symm with hd|⟨-,rfl,z2,t2⟩
   ·have HF:Hid (ye C m w r s' e w5):=.inr (hd.later (Xe) Ji.bb);obtain⟨-,rfl,-⟩:=hd;unfold a8 at*;go_wp2_with fail;exact⟨rfl,HF⟩
   have Jd:=Ji.go z2 t2;have Jj:=Jv.go z2 t2;have Jr:=Ji.keepP J_ Xr t2;obtain⟨b,s2,Xa,rfl,rfl⟩:=Jx.out (dB Jd.st.al);have Xk:b.length<=1000000:=by
    unfold i8 at Jl;rw[if_pos rfl,szS_cons]at Jl;simp only at Jl;omega
   have Xo:=ah (Xv.out w5 _ b s2 Xa Jd.st Xk);clear z2 t2 Xa Ji Jv J_ Jx;go_wp2_with fail;refine(Xo).mono (fun e w6 hg=>?_);rcases hg.symm with hd|⟨-,u6,rfl,hn⟩
   ·have HF:Hid (ye C m w [i8 ⟨3,nm,a,[],0,0⟩ b] (bq (ai C.l) [59] s2) e w6):=.inr (hd.later (Dm.refl _) Jd.bb);obtain⟨-,rfl,-⟩:=hd;unfold a8 at*;go_wp2_with fail;exact⟨rfl,HF⟩
   obtain⟨Je,Jq⟩:=Jd.fr hn;obtain⟨Xf,-⟩:=Jj.fr hn;have Xy:aF W1.heap.size w6 (.slice Ja a.length Jb) a:=cV Jr (S:=fun k=>k=C.P) (hn.t.mono fun k hk=>by
    rcases hk with hk|hk
    ·exact hk
    ·simp[Value.ownBlock]at hk) (fun g hg e=>by have:=(World.ownsRow.lt Jr g hg).1;omega)
   obtain⟨Jw,Jy,rfl,-⟩:=au Jq;have Yf:=Jj.m;have Yh:=Jd.m;obtain⟨W7,Xq⟩:=q_ (w6.setCell ⟨N,3,none⟩ (.slice Jw b.length Jy));obtain⟨Jk,t7⟩:=Xf.put 3 (.slice Jw b.length Jy) Xq;have c3:=(Xf.q (j:=3) rfl).1;have f3:=(Xf.q (j:=3) rfl).2;simp only[List.set_cons_zero,List.set_cons_succ]at Jk;have Jh:BI C m w M [.int .i64 0,.string ⟨#[]⟩,.slice none 0 0,.slice none 0 0,.int .i64 0,.int .i64 0] W7 (bq (ai C.l) [59] s2):=⟨Jk.st,Je.bx.tcs Je.m t7 Xu,Jk.t,l_ Je.m t7.size,Je.mw,Je.hl⟩;have Xx:aF W1.heap.size W7 (.slice Ja a.length Jb) a:=cV Xy t7 (fun g hg e=>by have:=Xz g hg;omega);have Xw:aF w5.heap.size W7 (.slice Jw b.length Jy) b:=az Jq t7 (fun k hk=>by rw[hk];exact Yf);have Yd:=ah Xq;have n0:=(Jk.q (j:=0) rfl).1;have n1:=(Jk.q (j:=1) rfl).1;have n2:=(Jk.q (j:=2) rfl).1;have n3:=(Jk.q (j:=3) rfl).1;have n4:=(Jk.q (j:=4) rfl).1;have n5:=(Jk.q (j:=5) rfl).1;have Yk:w.heap.size<=w5.heap.size:=Jd.t.size;have Xp:∀g,(Value.slice Ja a.length Jb).ownBlock=some g->g<w5.heap.size:=fun g hg=>by have:=Xz g hg;omega
   clear Xq hn Jd Jj Jr Je Xf Xy Jq Jk t7;go_upto_region 7 with fail;rw[<-Yd.out];clear c3 f3;obtain⟨X,eX⟩:=q_ ((((((W7.setCell ⟨M,0,none⟩ (.int .i64 3)).setCell ⟨M,1,none⟩ (.string nm)).setCell ⟨M,2,none⟩ (.slice Ja a.length Jb)).setCell ⟨M,3,none⟩ (.slice Jw b.length Jy)).setCell ⟨M,4,none⟩ (.int .i64 0)).setCell ⟨M,5,none⟩ (.int .i64 0));obtain⟨hX,tX⟩:=Jh.put6 eX;have g0:=(Jh.q (j:=0) rfl).1;have y0:=(Jh.q (j:=0) rfl).2;have v0:=(hX.q (j:=0) rfl).1;have g1:=(Jh.q (j:=1) rfl).1;have y1:=(Jh.q (j:=1) rfl).2;have v1:=(hX.q (j:=1) rfl).1;have g2:=(Jh.q (j:=2) rfl).1;have y2:=(Jh.q (j:=2) rfl).2;have v2:=(hX.q (j:=2) rfl).1;have g3:=(Jh.q (j:=3) rfl).1;have y3:=(Jh.q (j:=3) rfl).2;have v3:=(hX.q (j:=3) rfl).1;have g4:=(Jh.q (j:=4) rfl).1;have y4:=(Jh.q (j:=4) rfl).2;have v4:=(hX.q (j:=4) rfl).1;have g5:=(Jh.q (j:=5) rfl).1;have y5:=(Jh.q (j:=5) rfl).2;have v5:=(hX.q (j:=5) rfl).1;have Xj:M<w5.heap.size:=Yh;have HF:=ah (hX.two 3 nm (BI.keepM Xb Xx tX) Jz (BI.keepM Xj Xw tX) Yk Xp);clear Xx Xw;have HX:=ah eX;clear eX hX tX;go_wp2_with fail;rw[<-HX.out];exact bodyPost_ret (v:=.agg #[.int .i64 3,.string nm,.slice Ja a.length Jb,.slice Jw b.length Jy,.int .i64 0,.int .i64 0]) (by simp[results,results177,go_sem,v0,v1,v2,v3,v4,v5]) rfl HF
  ·refine(Xc.out _ _ [91] d_ Jc.st).mono ?_;rintro e w9 ⟨rfl,hw⟩;rw[hw,hi];clear hw;go_wp2_with fail;refine(Xc.out _ _ [40] d_ Jc.st).mono ?_;rintro e w9 ⟨rfl,hw⟩;rw[hw,hj];clear hw;have Xn:a.length<=1000000:=by rw[szS_cons]at Jl;simp only at Jl;omega
   have Xi:=ah (Yi.out W1 a s1 hp Jc.st Xn);clear hp hi hj Jo;go_wp2_with fail;refine(Xi).mono (fun e w3 hg=>?_);rcases hg.symm with hd|⟨-,u3,rfl,hn⟩
   ·have HF:Hid (ye C m w [⟨8,tx [],a,[],0,0⟩] (bq (ai C.l) [59] s1) e w3):=.inr (hd.later (bQ _ _) Jc.bb);obtain⟨-,rfl,-⟩:=hd;unfold a8 at*;go_wp2_with fail;exact⟨rfl,HF⟩
   obtain⟨Jg,Jn⟩:=Jc.fr hn;obtain⟨Ja,Jb,rfl,-⟩:=au Jn;clear hn;have Xb:=Jc.m;have Xr:=Jc.st.lt;have Jz:=Jc.t.size;simp only[List.nil_append]at Jn;obtain⟨W4,Jm⟩:=q_ (w3.alloc (.cells #[.int .i64 8,.string ⟨#[]⟩,.slice Ja a.length Jb,.slice none 0 0,.int .i64 0,.int .i64 0] 46));obtain⟨N,eN⟩:=q_ w3.heap.size;have Jf:Bl w3 W4:=by rw[Jm];exact r_.alloc n_ _
   have Ji:=Jg.below Jf;have Jv:=BI.new #[.int .i64 8,.string ⟨#[]⟩,.slice Ja a.length Jb,.slice none 0 0,.int .i64 0,.int .i64 0] 46 rfl Jg.st Jg.t Jg.hl Jm eN;have J_:=aF.below Jn Jf;have Xu:M≠N:=by have:=Jg.m;omega
   obtain⟨Xm,Xs⟩:=h2 Jm eN;clear Jm eN Jf Jn Jg Jc;go_upto_region 10 with fail;rw[<-Xm.out,<-Xs.out];go_wp2_with fail;refine(Xt.out _ _ [59] d_ Ji.st).mono (fun e w5 hg=>?_);rcases hg.symm with hd|⟨-,rfl,z2,t2⟩
   ·have HF:Hid (ye C m w [⟨8,tx [],a,[],0,0⟩] (bq (ai C.l) [59] s1) e w5):=.inr (hd.later (Dm.refl _) Ji.bb);obtain⟨-,rfl,-⟩:=hd;unfold a8 at*;go_wp2_with fail;exact⟨rfl,HF⟩
   have Jd:=Ji.go z2 t2;have Jj:=Jv.go z2 t2;have Jr:=Ji.keepP J_ Xr t2;have n0:=(Jj.q (j:=0) rfl).1;have n1:=(Jj.q (j:=1) rfl).1;have n2:=(Jj.q (j:=2) rfl).1;have n3:=(Jj.q (j:=3) rfl).1;have n4:=(Jj.q (j:=4) rfl).1;have n5:=(Jj.q (j:=5) rfl).1;clear z2 t2 Ji Jv J_ Jj;obtain⟨X,eX⟩:=q_ ((((((w5.setCell ⟨M,0,none⟩ (.int .i64 8)).setCell ⟨M,1,none⟩ (.string ⟨#[]⟩)).setCell ⟨M,2,none⟩ (.slice Ja a.length Jb)).setCell ⟨M,3,none⟩ (.slice none 0 0)).setCell ⟨M,4,none⟩ (.int .i64 0)).setCell ⟨M,5,none⟩ (.int .i64 0));obtain⟨hX,tX⟩:=Jd.put6 eX;have g0:=(Jd.q (j:=0) rfl).1;have y0:=(Jd.q (j:=0) rfl).2;have v0:=(hX.q (j:=0) rfl).1;have g1:=(Jd.q (j:=1) rfl).1;have y1:=(Jd.q (j:=1) rfl).2;have v1:=(hX.q (j:=1) rfl).1;have g2:=(Jd.q (j:=2) rfl).1;have y2:=(Jd.q (j:=2) rfl).2;have v2:=(hX.q (j:=2) rfl).1;have g3:=(Jd.q (j:=3) rfl).1;have y3:=(Jd.q (j:=3) rfl).2;have v3:=(hX.q (j:=3) rfl).1;have g4:=(Jd.q (j:=4) rfl).1;have y4:=(Jd.q (j:=4) rfl).2;have v4:=(hX.q (j:=4) rfl).1;have g5:=(Jd.q (j:=5) rfl).1;have y5:=(Jd.q (j:=5) rfl).2;have v5:=(hX.q (j:=5) rfl).1;have HF:=ah (hX.one 8 ⟨#[]⟩ (BI.keepM Xb Jr tX) Jz);clear Jr;have HX:=ah eX;clear eX hX tX;go_wp2_with fail;rw[<-HX.out];exact bodyPost_ret (v:=.agg #[.int .i64 8,.string ⟨#[]⟩,.slice Ja a.length Jb,.slice none 0 0,.int .i64 0,.int .i64 0]) (by simp[results,results177,go_sem,v0,v1,v2,v3,v4,v5]) rfl HF
  ·refine(Xc.out _ _ [91] d_ Jc.st).mono ?_;rintro e w9 ⟨rfl,hw⟩;rw[hw,hi];clear hw;go_wp2_with fail;refine(Xc.out _ _ [40] d_ Jc.st).mono ?_;rintro e w9 ⟨rfl,hw⟩;rw[hw,hj];clear hw;obtain⟨d1,d2⟩:=vy Xh Jo;obtain⟨d3,d4⟩:=(sI hp).1 d1;have HF:Hid (ye C m w r s' (a8 (3,((ai C.l z.i).pl:Int))) W1):=.inr ⟨d3,by rw[d4,d2],Jc.bb⟩;have Yc:=ah (Yg.out _ _ Jc.st);clear hp hi hj Jo d1 d2 d3 d4;generalize ((ai C.l z.i).pl:Int)=pl at*;go_wp2_with fail;refine Yc.out.mono ?_;rintro e w9 ⟨rfl,hw⟩;rw[hw];clear hw;unfold a8 at*;go_wp2_with fail;exact⟨rfl,HF⟩
 ·have hp:Pa (ai C.l) n (.sg (st0 2 nm)) z (.s r) s':=by
   rcases Xg with⟨hi,-⟩|⟨-,hj,-⟩|⟨-,-,hp⟩
   ·have:=bE Jo (y:=[91]) d_;rw[hi]at this;cases this
   ·have:=bE Jo (y:=[40]) d_;rw[hj]at this;cases this
   ·exact hp
  obtain⟨Jt,Js⟩:=sI hp;rw[qo Jo]at Jt Js;obtain⟨Xe,Jx⟩:=h2 Jt Js;clear hp Jt Js Xg Jo;rcases hg.symm with hd|⟨-,rfl,z2,t2⟩
  ·have HF:Hid (ye C m w r s' e w2):=.inr (hd.later (Xe) Jc.bb);obtain⟨-,rfl,-⟩:=hd;unfold a8 at*;go_wp2_with fail;exact⟨rfl,HF⟩
  have Jp:=Jc.go z2 t2;clear z2 t2 Jc;obtain⟨b,s2,Xa,rfl,rfl⟩:=Jx.out (dB Jp.st.al);have Xk:b.length<=1000000:=by
   unfold i8 at Jl;rw[if_neg (by show ¬(2:Int)=3;decide),szS_cons]at Jl;simp only at Jl;omega
  have Xo:=ah (Xv.out w2 _ b s2 Xa Jp.st Xk);have Xb:=Jp.m;have Jz:=Jp.t.size;clear Xa Jx;go_wp2_with fail;refine(Xo).mono (fun e w6 hg=>?_);rcases hg.symm with hd|⟨-,u6,rfl,hn⟩
  ·have HF:Hid (ye C m w [i8 (st0 2 nm) b] (bq (ai C.l) [59] s2) e w6):=.inr (hd.later (Dm.refl _) Jp.bb);obtain⟨-,rfl,-⟩:=hd;unfold a8 at*;go_wp2_with fail;exact⟨rfl,HF⟩
  obtain⟨Je,Jq⟩:=Jp.fr hn;obtain⟨Ju,Xd,rfl,-⟩:=au Jq;clear hn;clear Jp;obtain⟨X,eX⟩:=q_ ((((((w6.setCell ⟨M,0,none⟩ (.int .i64 2)).setCell ⟨M,1,none⟩ (.string nm)).setCell ⟨M,2,none⟩ (.slice Ju b.length Xd)).setCell ⟨M,3,none⟩ (.slice none 0 0)).setCell ⟨M,4,none⟩ (.int .i64 0)).setCell ⟨M,5,none⟩ (.int .i64 0));obtain⟨hX,tX⟩:=Je.put6 eX;have g0:=(Je.q (j:=0) rfl).1;have y0:=(Je.q (j:=0) rfl).2;have v0:=(hX.q (j:=0) rfl).1;have g1:=(Je.q (j:=1) rfl).1;have y1:=(Je.q (j:=1) rfl).2;have v1:=(hX.q (j:=1) rfl).1;have g2:=(Je.q (j:=2) rfl).1;have y2:=(Je.q (j:=2) rfl).2;have v2:=(hX.q (j:=2) rfl).1;have g3:=(Je.q (j:=3) rfl).1;have y3:=(Je.q (j:=3) rfl).2;have v3:=(hX.q (j:=3) rfl).1;have g4:=(Je.q (j:=4) rfl).1;have y4:=(Je.q (j:=4) rfl).2;have v4:=(hX.q (j:=4) rfl).1;have g5:=(Je.q (j:=5) rfl).1;have y5:=(Je.q (j:=5) rfl).2;have v5:=(hX.q (j:=5) rfl).1;have HF:=ah (hX.one 2 nm (BI.keepM Xb Jq tX) Jz);clear Jq;have HX:=ah eX;clear eX hX tX;go_wp2_with fail;rw[<-HX.out];exact bodyPost_ret (v:=.agg #[.int .i64 2,.string nm,.slice Ju b.length Xd,.slice none 0 0,.int .i64 0,.int .i64 0]) (by simp[results,results177,go_sem,v0,v1,v2,v3,v4,v5]) rfl HF
end
section
variable{B b:Nat}{S:Nat->Prop}{w w' w2 W:World}{vg vf:Value}{t:Tr}{Q:List FV}
structure Fl (B:Nat) (w:World) (m:TV) (t:Tr) (t':Tr) (Q:List FV):Prop where
 own:bB B w m.vg m.vf t' Q
 fu:t'.funcs=t.funcs
 len:t'.globals.length=t.globals.length
 eq:m.nz=false->t'.globals=t.globals
 bad:m.nz=true->∃g∈t.globals,g.size= -1
def sJ(B:Nat)(w:World)(m:TV)(t:Tr):Prop:=∃t' Q,Fl B w m t t' Q
theorem Af(B:Nat)(w:World):sJ B w ⟨.slice none 0 0,.slice none 0 0,false⟩ ⟨[],[]⟩:=⟨_,_,bB.nil B w,rfl,rfl,fun _=>rfl,fun h=>by cases h⟩
theorem bB.tcs(h:bB B w vg vf t Q)(ht:am S w w')(hS:∀k,S k->k<B):bB B w' vg vf t Q:=by
 have hk:∀g,B<=g->g<w.heap.size->w'.heap[g]? =w.heap[g]? := fun g h1 h2=>ht.block g h2 (fun s=>by have:=hS g s;omega);exact⟨az h.gs ht hS,h.fs.keepB ht.size hk,h.map,h.sep⟩
theorem sJ.tcs{m:TV}(h:sJ B w m t)(ht:am S w w')(hS:∀k,S k->k<B):sJ B w' m t:=by
 obtain⟨t',Q,h1⟩:=h;exact⟨t',Q,h1.own.tcs ht hS,h1.fu,h1.len,h1.eq,h1.bad⟩
def jH(C:RC)(B:Nat)(w:World)(t':Tr)(s':PS)(e:Ending)(w':World):Prop:=
 (¬iV (ai C.l) s'/\∃m',e=.returned (.tuple #[])/\bj C m' w' s'/\sJ B w' m' t'/\am (fun k=>k=C.P∨B<=k) w w')∨lv C w s' e w'
theorem bB.addF{M:Nat}{vp vb:Value}{R:List SV}(h:bB B w vg vf t Q)(nm:ByteArray)(ps:List ByteArray){B2:Nat}(ht:am S w w2)(hS:∀k,S k->k<B)(hB:B<=w.heap.size)(hM:w.heap.size<=M)(Jm:M<=B2)
  (hp:fe M w2 vp ps) (Ji:∀g,vp.ownBlock=some g->g<B2) (hb:cD B2 w2 vb R) (hW:W=w2.alloc (.cells #[.string nm,vp,vb] 43)) (Jh:b=w2.heap.size) (hl:t.funcs.length<=100000):
  ∃v' W',(Builtin.append_ #[24,24] 24 #[vf,.slice (some ⟨b,0,none⟩) 1 1]).run prog W=.ok v' W'/\am (fun k=>vf.ownBlock=some k) w2 W'/\(∃a n c,v'=.slice a n c) /\
   ∃Q',bB B W' vg v' ⟨t.globals,t.funcs++[⟨nm,ps,R.map SV.s⟩]⟩ Q':=by
 have Ja:Bl w2 W:=by rw[hW];exact r_.alloc n_ _
 have Jj:=ht.size;have Jl:Q.length=t.funcs.length:=by rw[<-h.map,List.length_map]
 have h2:=h.tcs (ht.of_below Ja) hS;obtain⟨kp,a1,a2⟩:=gZ.of_own (bK (ownB hp Ja) (t_ hB hM));obtain⟨kb,b1,b2⟩:=(hb.below Ja).m;have Jb:B<=B2:=o_;have hq:qK B W ⟨⟨nm,ps,R.map SV.s⟩,vp,vb,R,kp,kb⟩:=by
  refine⟨a1,⟨dQ.up b1.row Jb,fun x hx=>⟨(b1.each x hx).1.base Jb,(b1.each x hx).2.base Jb⟩,b1.nd⟩,rfl,?_⟩;show(kp++(kb++eH R)).Nodup;rw[List.nodup_append];refine⟨?_,b1.nd,fun x hx y hy e=>?_⟩
  ·rcases a1 with⟨-,e,-⟩|⟨g,Jk,-,e,-⟩ <;> (have e:kp=_:=e;rw[e];simp)
  ·subst e;have h1:=Ji x ((a2 x).2 hx);have h3:=(b1.rng x hy).1;omega
 have Jd:∀g∈kp++(kb++eH R),w.heap.size<=g:=fun g hg=>by
  rcases List.mem_append.1 hg with hg|hg
  ·have:=(World.ownsRow.lt hp g ((a2 g).2 hg)).1;omega
  ·have:=(b1.rng g hg).1;omega
 have Je:∀k,vf.ownBlock=some k->B<=k/\k<w.heap.size:=fun k hk=>World.ownsRow.lt h.fs.row k hk;have hx:aR W b [.string nm,vp,vb]:=by rw[hW,Jh];exact aJ w2 #[.string nm,vp,vb] _ (by show 3<=1000;omega)
 obtain⟨pa,pc,Jf,-⟩:=au hp;obtain⟨ba,bc,Jc,-⟩:=au hb.row;obtain⟨v',W',r1,r2,r3,r4⟩:=Ct (c:=1) (ad:=⟨b,0,none⟩) 24 h2.fs hq (fun j x hj=>by
  rw[mB,Nat.zero_add];exact(hx j x hj).1) (fun g hg=>⟨fun hm=>by have:=Jd g hg;have:=(h.fs.rng g hm).2;omega,fun e=>by have:=Jd g hg;have:=(Je g e).2;omega⟩) (by rw[Jf,Jc];exact⟨rfl,rfl⟩) (by have:=Ja.size;omega) o_
 have tW:am (fun k=>vf.ownBlock=some k) W W':=am.of_grown r3 (fun k h=>h);refine⟨v',W',r1,(Ja.tcs).trans tW,?_,Q++[⟨⟨nm,ps,R.map SV.s⟩,vp,vb,R,kp,kb⟩],cV h2.gs tW (fun k hk e=>(h.sep k hk).2 e),r2,by rw[List.map_append,h.map];rfl,fun g hg=>⟨fun hm=>?_,fun e=>?_⟩⟩
 ·obtain⟨a,c,e⟩:=r2.shape;exact⟨_,_,_,e⟩
 ·rw[j6]at hm;have Jg:=(World.ownsRow.lt h.gs g hg).2;rcases List.mem_append.1 hm with hm|hm
  ·exact(h.sep g hg).1 hm
  ·have hm:g∈kp++(kb++eH R):=by simpa[jP,oY]using hm
   have:=Jd g hm;omega
 ·have Jg:=(World.ownsRow.lt h.gs g hg).2;rcases r4 g e with e|e
  ·exact(h.sep g hg).2 e
  ·have:=Ja.size;omega
theorem bB.addG(h:bB B w vg vf t Q)(g0:Gl)(ht:am S w w2)(hS:∀k,S k->k<B)(hB:B<=w.heap.size)
  (hW:W=w2.alloc (.cells #[.string g0.name,.int .i64 g0.size] 74)) (Jf:b=w2.heap.size) (hl:t.globals.length<=100000):
  ∃v' W',(Builtin.append_ #[23,23] 23 #[vg,.slice (some ⟨b,0,none⟩) 1 1]).run prog W=.ok v' W'/\am (fun k=>vg.ownBlock=some k) w2 W'/\(∃a n c,v'=.slice a n c) /\
   bB B W' v' vf ⟨t.globals++[g0],t.funcs⟩ Q:=by
 have Ja:Bl w2 W:=by rw[hW];exact r_.alloc n_ _
 have Jg:=ht.size;have h2:=h.tcs (ht.of_below Ja) hS;have Jh:∀k,vg.ownBlock=some k->B<=k/\k<w.heap.size:=fun k hk=>World.ownsRow.lt h.gs k hk;have hx:aR W b [.string g0.name,.int .i64 g0.size]:=by rw[hW,Jf];exact aJ w2 #[.string g0.name,.int .i64 g0.size] _ (by show 2<=1000;omega)
 obtain⟨i0,hi,Jc,Je,Jd⟩:=info_parts iR;obtain⟨v',W',r1,r2,r3,r4⟩:=bS (P:=prog) (w:=W) B 23 23 74 i0 _ 2 24 underlying23 hi Jc Je Jd rfl d_ vg t.globals.length (iW t.globals) h2.gs (some ⟨b,0,none⟩) 1 1 [.string g0.name,.int .i64 g0.size] (fun e=>by cases e) rfl (fun ad had j u hu=>by cases had;rw[mB,Nat.zero_add];exact(hx j u hu).1) (fun u hu=>by
  simp only[List.mem_cons,List.not_mem_nil,or_false]at hu;rcases hu with rfl|rfl <;> rfl) o_ d_ (by have:=Ja.size;omega)
 have tW:am (fun k=>vg.ownBlock=some k) W W':=am.of_grown r3 (fun k h=>h);have Jb:∀k,v'.ownBlock=some k->vg.ownBlock=some k∨W.heap.size<=k:=r4;have Ji:=Ja.size;refine⟨v',W',r1,(Ja.tcs).trans tW,?_,?_,⟨cV h2.fs.row tW (fun k hk e=>(h.sep k e).2 hk),fun q hq=>(h2.fs.each q hq).keep tW.size (fun g hg=>tW.block g ((h2.fs.each q hq).rng g hg).2 (fun e=>(h.sep g e).1 (sr hq g hg))),h.fs.nd,h.fs.out⟩,h.map,fun g hg=>?_⟩
 ·obtain⟨a,c,e,-⟩:=au r2;exact⟨_,_,_,e⟩
 ·have e1:iW (t.globals++[g0])=iW t.globals++[.string g0.name,.int .i64 g0.size]:=by rw[nQ];rfl
  rw[l_a,e1];exact r2
 ·rcases Jb g hg with e|e
  ·exact h.sep g e
  ·refine⟨fun hm=>?_,fun e2=>?_⟩
   ·have:=(h.fs.rng g hm).2;omega
   ·have:=(World.ownsRow.lt h.fs.row g e2).2;omega
end
section
section
variable{u:Value}
variable{C:RC}{m:TV}{B:Nat}{w0 w w':World}{v0 v:Value}{R:List SV}{s z:PS}
theorem SB.fr{r:List Nd}(h:SB C m B w0 v0 w v R s)(hE:EB C m w.heap.size w (.slice none 0 0) w' u r z):SB C m B w0 v0 w' v R z/\aF w.heap.size w' u r:=
 ⟨h.go hE.st (hE.t.mono fun k hk=>by
  rcases hk with hk|hk
  ·exact hk
  ·simp[Value.ownBlock]at hk),hE.row⟩
def D6(Bs:Nat)(v:Value)(R:List SV):Prop:=(∀g∈eH R,g<Bs)/\∀g,v.ownBlock=some g->g<Bs
theorem SB.old(h:SB C m B w0 v0 w v R s):D6 w.heap.size v R:=⟨fun g hg=>(h.row.rng g hg).2,fun g hg=>(World.ownsRow.lt h.row.row g hg).2⟩
theorem SB.lit{w1 W:World}{b:Nat}{a:List Nd}(h:SB C m B w0 v0 w v R s)(kd:Int)(nm:ByteArray)(hr:aF w1.heap.size w u a)(ho:D6 w1.heap.size v R)(hB:B<=w1.heap.size)(hW:W=w.alloc (.cells #[.int .i64 kd,.string nm,u,.slice none 0 0,.int .i64 0,.int .i64 0] 46))(hb:b=w.heap.size)(hl:R.length<=2000000):
  ∃K u' w',(Builtin.append_ #[41,41] 41 #[v,.slice (some ⟨b,0,none⟩) 1 1]).run prog W=.ok u' w'/\SB C m B w0 v0 w' u' (R++[⟨⟨kd,nm,a,[],0,0⟩,u,.slice none 0 0,K,[]⟩]) s:=by
 obtain⟨K,h1,h2,h3⟩:=jG hr;obtain⟨u',w',r1,r2⟩:=h.app (w1:=w1) ⟨⟨kd,nm,a,[],0,0⟩,u,.slice none 0 0,K,[]⟩ h1 (dQ.nil _ _) (by rw[List.append_nil];exact h3) ho.1 ho.2 hB hW hb hl;exact⟨K,u',w',r1,r2⟩
end
def Fm(C:RC)(n:Nat):Prop:=∀(w:World) (m:TV) (B:Nat) (s:PS) (v:Value) (R:List SV) (a:List St) (s':PS),Pa (ai C.l) n .st s (.s a) s'->bj C m w s->cD B w v R->C.P+1<B->B<=w.heap.size->R.length+fJ a<=1000000 ->
 Calls prog 158 #[.pointer (some ⟨C.P,0,none⟩),v] w (gg C m w B v R a s')
def Du(C:RC)(n:Nat):Prop:=∀(w:World) (m:TV) (B:Nat) (s:PS) (v:Value) (R:List SV) (a:List St) (s':PS),Pa (ai C.l) n .bl s (.s a) s'->bj C m w s->cD B w v R->C.P+1<B->B<=w.heap.size->R.length+fJ a<=1000000 ->
 Calls prog 131 #[.pointer (some ⟨C.P,0,none⟩),v] w (gg C m w B v R a s')
end
theorem C_{C:RC}(HN:gW C){n:Nat}(Jt:CS C n){w:World}{m:TV}{B:Nat}{s:PS}{v:Value}{R:List SV}{a:List Nd}{s1:PS}(hS:bj C m w s)(hr:cD B w v R)(Ju:C.P+1<B)(Js:B<=w.heap.size)(hl:R.length+a.length+1<=1000000)(hi:aC (ai C.l) [111,117,116] s=true)(hp:Pa (ai C.l) n (.pr [40] [41]) s.ad (.n a) s1):Calls prog 158 #[.pointer (some ⟨C.P,0,none⟩),v] w (gg C m w B v R [⟨7,tx [],a,[],0,0⟩] (bq (ai C.l) [59] s1)):=by
 have Jl:=SB.start hS hr Ju Js;have Jg:=ah fun x (hx:dV x=true)=>cY HN hS x hx;have J_:=ah fun W y x (hx:dV x=true) (h:bj C m W y)=>dt HN h x hx;have p2:=hS.cki;have e1:(dF (ai C.l s.i) == 1)=false:=by rw[jl hS d_ hi];rfl
 have h1:aC (ai C.l) [105,110,116] s=false:=bE hi d_;have h2:aC (ai C.l) [105,102] s=false:=bE hi d_;have h3:aC (ai C.l) [119,104,105,108,101] s=false:=bE hi d_;have h4:aC (ai C.l) [114,101,116,117,114,110] s=false:=bE hi d_;have Jy:=ah fun W (h:bj C m W s.ad)=>Jt W m s.ad [40] [41] a s1 d_ d_ hp h o_;have Xb:Hid (Dm (ai C.l) s.ad (bq (ai C.l) [59] s1)):=hp.dm.trans (bQ _ _);clear Jt hp HN hS hr Ju Js;generalize dF (ai C.l s.i)=ki at*;go_enter func158,ntmps158;go_wp2_with fail;refine(Jg.out [105,110,116] d_).mono (fun e w9 hg=>?_);rcases hg.symm with⟨Ja,-⟩|⟨-,rfl,hw⟩
 ·rw[h1]at Ja;cases Ja
 rw[hw];clear hw;go_wp2_with fail;refine(Jg.out [105,102] d_).mono (fun e w9 hg=>?_);rcases hg.symm with⟨Ja,-⟩|⟨-,rfl,hw⟩
 ·rw[h2]at Ja;cases Ja
 rw[hw];clear hw;go_wp2_with fail;refine(Jg.out [119,104,105,108,101] d_).mono (fun e w9 hg=>?_);rcases hg.symm with⟨Ja,-⟩|⟨-,rfl,hw⟩
 ·rw[h3]at Ja;cases Ja
 rw[hw];clear hw;go_wp2_with fail;refine(Jg.out [114,101,116,117,114,110] d_).mono (fun e w9 hg=>?_);rcases hg.symm with⟨Ja,-⟩|⟨-,rfl,hw⟩
 ·rw[h4]at Ja;cases Ja
 rw[hw];clear hw;go_wp2_with fail;refine(Jg.out [111,117,116] d_).mono (fun e w2 hg=>?_);rcases hg with⟨Ja,-⟩|⟨-,hg⟩
 ·rw[hi]at Ja;cases Ja
 rcases hg.symm with hd|⟨-,rfl,z2,t2⟩
 ·have HF:Hid (gg C m w B v R [⟨7,tx [],a,[],0,0⟩] (bq (ai C.l) [59] s1) e w2):=Jl.die hd (Xb);obtain⟨-,rfl,-⟩:=hd;unfold a8 at*;go_wp2_with fail;exact⟨rfl,HF⟩
 have Je:=Jl.go z2 t2;clear z2 t2 Jl Jg;go_wp2_with fail;have HC:=ah (Jy.out w2 Je.st);have ho:=Je.old;have Jv:=Je.le;have Xf:=Je.st.lt;refine(HC).mono (fun e w3 hg=>?_);rcases hg.symm with hd|⟨-,u3,rfl,hn⟩
 ·have HF:Hid (gg C m w B v R [⟨7,tx [],a,[],0,0⟩] (bq (ai C.l) [59] s1) e w3):=Je.die hd (bQ _ _);obtain⟨-,rfl,-⟩:=hd;unfold a8 at*;go_wp2_with fail;exact⟨rfl,HF⟩
 obtain⟨Jj,Jn⟩:=Je.fr hn;obtain⟨Jb,Jc,rfl,-⟩:=au Jn;clear hn;obtain⟨W4,Jh⟩:=q_ (w3.alloc (.cells #[.int .i64 7,.string ⟨#[]⟩,.slice Jb a.length Jc,.slice none 0 0,.int .i64 0,.int .i64 0] 46));obtain⟨N,eN⟩:=q_ w3.heap.size;have Jd:Bl w3 W4:=by rw[Jh];exact r_.alloc n_ _
 have Ji:=Jj.below Jd;have Jp:=aF.below Jn Jd;have Jo:aR W4 N [.int .i64 7,.string ⟨#[]⟩,.slice Jb a.length Jc,.slice none 0 0,.int .i64 0,.int .i64 0]:=by rw[Jh,eN];exact aJ w3 #[.int .i64 7,.string ⟨#[]⟩,.slice Jb a.length Jc,.slice none 0 0,.int .i64 0,.int .i64 0] _ (by show 6<=1000;omega)
 have Xa:N<W4.heap.size:=b_ (Jo 0 _ rfl).1;have Jw:N≠C.P:=by have:=Jj.st.lt;omega
 have Jx:=ah Jh;have Xc:=ah eN;clear Jh eN Jd Jn Jj Je;go_upto_region 18 with fail;rw[<-Jx.out,<-Xc.out];go_wp2_with fail;refine(J_.out _ _ [59] d_ Ji.st).mono (fun e w5 hg=>?_);rcases hg.symm with hd|⟨-,rfl,z2,t2⟩
 ·have HF:Hid (gg C m w B v R [⟨7,tx [],a,[],0,0⟩] (bq (ai C.l) [59] s1) e w5):=Ji.die hd (Dm.refl _);obtain⟨-,rfl,-⟩:=hd;unfold a8 at*;go_wp2_with fail;exact⟨rfl,HF⟩
 have Jq:=Ji.go z2 t2;have Jr:aF w2.heap.size w5 (.slice Jb a.length Jc) a:=az Jp t2 (fun k hk=>by rw[hk];omega);have Jf:=Jo.tcs Xa t2 Jw;have n0:=(Jf 0 _ rfl).1;have n1:=(Jf 1 _ rfl).1;have n2:=(Jf 2 _ rfl).1;have n3:=(Jf 3 _ rfl).1;have n4:=(Jf 4 _ rfl).1;have n5:=(Jf 5 _ rfl).1;clear z2 t2 Ji Jp Jo Jf;obtain⟨W6,Jm⟩:=q_ (w5.alloc (.cells #[.int .i64 7,.string (⟨#[]⟩),.slice Jb a.length Jc,.slice none 0 0,.int .i64 0,.int .i64 0] 46));obtain⟨B6,Jk⟩:=q_ w5.heap.size;obtain⟨K6,u6,w6,r6,f6⟩:=Jq.lit (w1:=w2) 7 (⟨#[]⟩) Jr ho Jv Jm Jk o_;have Xe:=ah Jm;have Jz:=ah Jk;have Xd:=ah r6;clear Jm Jk r6;have HF:=ah (f6.fin (a:=[⟨7,tx [],a,[],0,0⟩]) rfl);clear f6 Jq Jr;go_wp2_with(at_builtin;rw[<-Xe.out,<-Jz.out];refine ao rfl _ _ _ rfl _ _ u6 w6 rfl rfl Xd.out ?_);go_ret;exact HF
theorem C0{C:RC}(HN:gW C){n:Nat}(Xb:D4 C n){w:World}{m:TV}{B:Nat}{s:PS}{v:Value}{R:List SV}{r:List St}{s':PS}(hS:bj C m w s)(hr:cD B w v R)(Xc:C.P+1<B)(Xa:B<=w.heap.size)(hl:R.length+fJ r<=1000000)(hi:aC (ai C.l) [105,110,116] s=true)(hp:Pa (ai C.l) n (.sg (st0 1 (aS (ai C.l) s.ad).1)) (aS (ai C.l) s.ad).2 (.s r) s'):Calls prog 158 #[.pointer (some ⟨C.P,0,none⟩),v] w (gg C m w B v R r s'):=by
 have Ji:=SB.start hS hr Xc Xa;have Jz:=ah fun x (hx:dV x=true)=>cY HN hS x hx;have Jt:=ah fun W y x (hx:dV x=true) (h:bj C m W y)=>dt HN h x hx;have p2:=hS.cki;have e1:(dF (ai C.l s.i) == 1)=false:=by rw[jl hS d_ hi];rfl
 have Jl:=ah fun W y (h:bj C m W y)=>gC HN h;obtain⟨Je,Jr⟩:=sI hp;have Jp:Hid (Dm (ai C.l) s.ad s'):=(gU _).trans ((bQ _ _).trans Je);have Jy:Hid (Dm (ai C.l) (aS (ai C.l) s.ad).2 s'):=(bQ _ _).trans Je;obtain⟨Jv,Ju⟩:=h2 Je Jr;have Jq:=ah fun W y b s2 (hp:Pa (ai C.l) n (.e 1) y (.n b) s2) (h:bj C m W y) (hl:b.length<=1000000)=>Xb W m y b s2 hp h hl;generalize dF (ai C.l s.i)=ki at*;go_enter func158,ntmps158;go_wp2_with fail;refine(Jz.out [105,110,116] d_).mono (fun e w2 hg=>?_);rcases hg with⟨Jb,-⟩|⟨-,hg⟩
 ·rw[hi]at Jb;cases Jb
 rcases hg.symm with hd|⟨-,rfl,z2,t2⟩
 ·have HF:Hid (gg C m w B v R r s' e w2):=Ji.die hd (Jp);obtain⟨-,rfl,-⟩:=hd;unfold a8 at*;go_wp2_with fail;exact⟨rfl,HF⟩
 have Jg:=Ji.go z2 t2;go_wp2_with fail;have HC:=ah (Jl.out w2 s.ad Jg.st);generalize aS (ai C.l) s.ad=nz at*;obtain⟨nm,z⟩:=nz;dsimp only at*;refine(HC).mono (fun e w3 hg=>?_);rcases hg.symm with hd|⟨-,rfl,z2,t2⟩
 ·have HF:Hid (gg C m w B v R r s' e w3):=Jg.die hd (Jy);obtain⟨-,rfl,-⟩:=hd;unfold a8 at*;go_wp2_with fail;exact⟨rfl,HF⟩
 have Jc:=Jg.go z2 t2;go_wp2_with fail;refine(Jt.out _ _ [61] d_ Jc.st).mono (fun e w4 hg=>?_);rcases hg.symm with hd|⟨-,rfl,z2,t2⟩
 ·have HF:Hid (gg C m w B v R r s' e w4):=Jc.die hd (Jv);obtain⟨-,rfl,-⟩:=hd;unfold a8 at*;go_wp2_with fail;exact⟨rfl,HF⟩
 have Ja:=Jc.go z2 t2;go_wp2_with fail;obtain⟨b,s2,Jm,rfl,rfl⟩:=Ju.out (dB Ja.st.al);have Xd:R.length+b.length+1<=1000000:=by
  unfold i8 at hl;rw[if_neg (by show ¬(1:Int)=3;decide),szS_cons]at hl;simp only at hl;omega
 have Jo:=ah (Jq.out w4 _ b s2 Jm Ja.st o_);have ho:=Ja.old;have Jn:=Ja.le;refine(Jo).mono (fun e w5 hg=>?_);rcases hg.symm with hd|⟨-,u5,rfl,hn⟩
 ·have HF:Hid (gg C m w B v R [i8 (st0 1 nm) b] (bq (ai C.l) [59] s2) e w5):=Ja.die hd (Dm.refl _);obtain⟨-,rfl,-⟩:=hd;unfold a8 at*;go_wp2_with fail;exact⟨rfl,HF⟩
 obtain⟨Jw,Jj⟩:=Ja.fr hn;obtain⟨Jd,Jf,rfl,-⟩:=au Jj;obtain⟨W6,Jk⟩:=q_ (w5.alloc (.cells #[.int .i64 1,.string (nm),.slice Jd b.length Jf,.slice none 0 0,.int .i64 0,.int .i64 0] 46));obtain⟨B6,Jh⟩:=q_ w5.heap.size;obtain⟨K6,u6,w6,r6,f6⟩:=Jw.lit (w1:=w4) 1 (nm) Jj ho Jn Jk Jh o_;obtain⟨J_,Js,Jx,HF⟩:=h4 Jk Jh r6 (f6.fin (a:=[i8 (st0 1 nm) b]) rfl);go_wp2_with(at_builtin;rw[<-J_.out,<-Js.out];refine ao rfl _ _ _ rfl _ _ u6 w6 rfl rfl Jx.out ?_);go_ret;exact HF
theorem Ag{C:RC}(HN:gW C){n:Nat}(Jr:Fk C n){w:World}{m:TV}{B:Nat}{s:PS}{v:Value}{R:List SV}{r:List St}{s':PS}(hS:bj C m w s)(hr:cD B w v R)(Jq:C.P+1<B)(Jn:B<=w.heap.size)(hl:R.length+fJ r<=1000000)(hi:dF (ai C.l s.i)=1)(Jo:(aC (ai C.l) [91] (aS (ai C.l) s).2=true/\∃a s1,Pa (ai C.l) n (.pr [91] [93]) (aS (ai C.l) s).2 (.n a) s1/\Pa (ai C.l) n (.sg ⟨3,(aS (ai C.l) s).1,a,[],0,0⟩) s1 (.s r) s') ∨
   (aC (ai C.l) [91] (aS (ai C.l) s).2=false/\aC (ai C.l) [40] (aS (ai C.l) s).2=true/\∃a s1,Pa (ai C.l) n (.ar (aS (ai C.l) s).1) (aS (ai C.l) s).2 (.n a) s1/\r=[⟨8,tx [],a,[],0,0⟩]/\s'=bq (ai C.l) [59] s1) ∨
   (aC (ai C.l) [91] (aS (ai C.l) s).2=false/\aC (ai C.l) [40] (aS (ai C.l) s).2=false/\Pa (ai C.l) n (.sg (st0 2 (aS (ai C.l) s).1)) (aS (ai C.l) s).2 (.s r) s')) (Jp:Dm (ai C.l) (aS (ai C.l) s).2 s'):Calls prog 158 #[.pointer (some ⟨C.P,0,none⟩),v] w (gg C m w B v R r s'):=by
 have Jc:=SB.start hS hr Jq Jn;have p2:=hS.cki;rw[hi]at p2;have Jf:=ah (gC HN hS);have Jj:=ah fun W (h:bj C m W (aS (ai C.l) s).2)=>Jr W m _ _ r s' Jo h o_;have Jm:=ah Jp;generalize aS (ai C.l) s=nz at*;obtain⟨nm,z⟩:=nz;dsimp only at*;go_enter func158,ntmps158;go_wp2_with fail;refine(Jf).mono (fun e w2 hg=>?_);rcases hg.symm with hd|⟨-,rfl,z2,t2⟩
 ·have HF:Hid (gg C m w B v R r s' e w2):=Jc.die hd (Jm);obtain⟨-,rfl,-⟩:=hd;unfold a8 at*;go_wp2_with fail;exact⟨rfl,HF⟩
 have Ja:=Jc.go z2 t2;have HC:=ah (Jj.out w2 Ja.st);have ho:=Ja.old;have Jg:=Ja.le;go_wp2_with fail;refine(HC).mono (fun e w3 hg=>?_);rcases hg.symm with hd|⟨-,q,rfl,rfl,he,hf,Ji,z3,t3⟩
 ·have HF:Hid (gg C m w B v R r s' e w3):=Ja.die hd (Dm.refl _);obtain⟨-,rfl,-⟩:=hd;unfold a8 at*;go_wp2_with fail;exact⟨rfl,HF⟩
 have Je:=Ja.go z3 t3;obtain⟨W4,Jb⟩:=q_ (w3.alloc (.cells #[.int .i64 q.s.kind,.string q.s.name,q.ve,q.vf,.int .i64 q.s.thn,.int .i64 q.s.els] 46));obtain⟨B4,Jd⟩:=q_ w3.heap.size;obtain⟨u4,w4,r4,f4⟩:=Je.app (w1:=w2) q he hf Ji ho.1 ho.2 Jg Jb Jd o_;have o1:=he.cellO;have o2:=hf.cellO;obtain⟨HF,Jk,Jh,Jl⟩:=h4 (f4.fin (a:=[q.s]) rfl) Jb Jd r4;generalize q.ve=ve at*;generalize q.vf=vf at*;generalize q.s.kind=qk at*;generalize q.s.name=qn at*;generalize q.s.thn=qt at*;generalize q.s.els=qe at*;go_wp2_with(at_builtin;rw[<-Jk.out,<-Jh.out];refine ao rfl _ _ _ rfl _ _ u4 w4 rfl rfl Jl.out ?_);go_ret;exact HF
end Go.Proofs.YtlamjfhhefcohaaGreatDoor
