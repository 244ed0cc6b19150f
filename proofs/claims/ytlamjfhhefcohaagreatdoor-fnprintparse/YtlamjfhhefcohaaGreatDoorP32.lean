import Derived.Test.YtlamjfhhefcohaaGreatDoorP31
set_option linter.unusedSectionVars false
variable [Inhabited Go.Proofs.YtlamjfhhefcohaaGreatDoor.Pick]
namespace Go.Proofs.YtlamjfhhefcohaaGreatDoor
open Go.Proofs.Tryz
set_option linter.all false
set_option maxRecDepth 100000
set_option maxHeartbeats 16000000
section
open Go.RowKit
theorem CD{G:GT}(hL:ft G.T G.K){n:Nat}(hA:Dq G n){w:World}{s:PS}{r:List St}{s':PS}(hS:aN G w s)(Jr:eu n s)(hq:vr G.T s)(Js:fJ r<=1000000)(hc:aC G.T [91] (aS G.T s).2=false)(hd:aC G.T [40] (aS G.T s).2=false)(hp:Pa G.T n (.sg (st0 2 (aS G.T s).1)) (aS G.T s).2 (.s r) s'):
  Calls prog 83 #[.pointer (some ⟨G.P,0,none⟩)] w (pJ G w r s'):=by
 have HL:=ah hL;have Jx:=ah hS.lt;have hT:=am.refl (fun k=>k=G.P) w;obtain⟨h1,h2,h3,Jt,Jw⟩:=hq;have HA:Hid (∀W,aN G W (aS G.T s).2->w.heap.size<=W.heap.size->Calls prog 117 #[.pointer (some ⟨G.P,0,none⟩),.agg #[.int .i64 2,.string (aS G.T s).1,.slice none 0 0,.slice none 0 0,.int .i64 0,.int .i64 0]] W (xE G W w.heap.size r s')):=fun W hW hB=>by
  have h:=hA W w.heap.size (st0 2 (aS G.T s).1) (.slice none 0 0) (.slice none 0 0) _ r s' hp Js (eu.of Jr (na_op s)) hW hB hS.lt.1 (fun W _=>aM W) (fun W _=>aM W);unfold st0 at h;dsimp only at h;exact h
 clear hp Js Jr hA;have Ju:=ah fun W (hW:aN G W s)=>dv HL.out hW;generalize aS G.T s=nz at*;obtain⟨nm,z⟩:=nz;dsimp only at*;go_enter func83,ntmps83;go_wp2_with fail;refine(aE hS [105,110,116]).mono ?_;rintro e w1 ⟨rfl,Jb⟩;rw[h1];have Jh:=aN.below hS Jb;have Jl:=am.of_below hT Jb;clear Jb;go_wp2_with fail;refine(aE Jh [105,102]).mono ?_;rintro e w2 ⟨rfl,Ja⟩;rw[h2];have Je:=aN.below Jh Ja;have Jn:=am.of_below Jl Ja;clear Ja;go_wp2_with fail;refine(aE Je [119,104,105,108,101]).mono ?_;rintro e w3 ⟨rfl,Jc⟩;rw[h3];have Jg:=aN.below Je Jc;have Jf:=am.of_below Jn Jc;clear Jc;obtain⟨W4,Jm⟩:=q_ (w3.alloc (.cells #[.int .i64 6,.string ⟨#[]⟩,.slice none 0 0,.slice none 0 0,.int .i64 0,.int .i64 0] 46));obtain⟨M,hM⟩:=q_ w3.heap.size;have h4:=fW Jg Jf Jx.out 6 Jm hM;have Jv:=ah Jm;have HM:=ah hM;clear Jm hM Jg Jf;go_upto_region 20 with fail;rw[<-Jv.out,<-HM.out];go_wp2_with fail;refine(aE h4.st [114,101,116,117,114,110]).mono ?_;rintro e w5 ⟨rfl,Ji⟩;rw[Jt];have h5:=h4.below Ji;clear Ji;go_wp2_with fail;refine(aE h5.st [111,117,116]).mono ?_;rintro e w6 ⟨rfl,Jk⟩;rw[Jw];have h6:=h5.below Jk;clear Jk;go_wp2_with fail;refine(Ju.out _ h6.st).mono ?_;rintro e Jz ⟨rfl,Jp,Jq⟩;have Jo:=h6.step Jp Jq;clear Jp Jq;go_wp2_with fail;refine(aE Jo.st [91]).mono ?_;rintro e w8 ⟨rfl,Jd⟩;rw[hc];have h8:=Jo.below Jd;clear Jd;go_wp2_with fail;refine(aE h8.st [40]).mono ?_;rintro e w9 ⟨rfl,Jj⟩;rw[hd];have h9:=h8.below Jj;clear Jj;go_wp2_with fail;refine(HA.out w9 h9.st h9.t.size).mono ?_;rintro e Jy hx;have HF:=ah (hx.st h9.t);obtain⟨u4,rfl,-⟩:=hx;go_wp2;go_ret;exact HF
end
section
open Go.RowKit
theorem xK{G:GT}(hL:ft G.T G.K){n:Nat}(hB:DW G n)(hA:Dq G n){w:World}{s:PS}{r:List St}{s':PS}{a:List Nd}{s1:PS}(hS:aN G w s)(Jo:eu n s)(hq:vr G.T s)(Jz:a.length<=1000000)(Jt:fJ r<=1000000)(hc:aC G.T [91] (aS G.T s).2=true)(hb:Pa G.T n (.pr [91] [93]) (aS G.T s).2 (.n a) s1)(hp:Pa G.T n (.sg ⟨3,(aS G.T s).1,a,[],0,0⟩) s1 (.s r) s'):
  Calls prog 83 #[.pointer (some ⟨G.P,0,none⟩)] w (pJ G w r s'):=by
 have HL:=ah hL;have Jy:=ah hS.lt;have hT:=am.refl (fun k=>k=G.P) w;obtain⟨h1,h2,h3,Ju,Jx⟩:=hq;have HA:Hid (∀W ve,aN G W s1->w.heap.size<=W.heap.size->(∀W',am (fun k=>k<w.heap.size) W W'->ax W' ve a)->Calls prog 117 #[.pointer (some ⟨G.P,0,none⟩),.agg #[.int .i64 3,.string (aS G.T s).1,ve,.slice none 0 0,.int .i64 0,.int .i64 0]] W (xE G W w.heap.size r s')):=fun W ve hW hB hE=>by
  have h:=hA W w.heap.size ⟨3,(aS G.T s).1,a,[],0,0⟩ ve (.slice none 0 0) _ r s' hp Jt (eu.of Jo (hb.op.trans (na_op s))) hW hB hS.lt.1 hE (fun W _=>aM W);dsimp only at h;exact h
 have HE:=ah fun W (hW:aN G W (aS G.T s).2)=>hB W _ a s1 hb Jz (eu.of Jo (na_op s)) hW;clear hp Jt Jo hA hB hb;have Jv:=ah fun W (hW:aN G W s)=>dv HL.out hW;generalize aS G.T s=nz at*;obtain⟨nm,z⟩:=nz;dsimp only at*;go_enter func83,ntmps83;go_wp2_with fail;refine(aE hS [105,110,116]).mono ?_;rintro e w1 ⟨rfl,Jb⟩;rw[h1];have Jh:=aN.below hS Jb;have Jk:=am.of_below hT Jb;clear Jb;go_wp2_with fail;refine(aE Jh [105,102]).mono ?_;rintro e w2 ⟨rfl,Ja⟩;rw[h2];have Je:=aN.below Jh Ja;have Jn:=am.of_below Jk Ja;clear Ja;go_wp2_with fail;refine(aE Je [119,104,105,108,101]).mono ?_;rintro e w3 ⟨rfl,Jc⟩;rw[h3];have Jg:=aN.below Je Jc;have Jf:=am.of_below Jn Jc;clear Jc;obtain⟨W4,Jl⟩:=q_ (w3.alloc (.cells #[.int .i64 6,.string ⟨#[]⟩,.slice none 0 0,.slice none 0 0,.int .i64 0,.int .i64 0] 46));obtain⟨M,hM⟩:=q_ w3.heap.size;have h4:=fW Jg Jf Jy.out 6 Jl hM;have Jw:=ah Jl;have HM:=ah hM;clear Jl hM Jg Jf;go_upto_region 20 with fail;rw[<-Jw.out,<-HM.out];go_wp2_with fail;refine(aE h4.st [114,101,116,117,114,110]).mono ?_;rintro e w5 ⟨rfl,Ji⟩;rw[Ju];have h5:=h4.below Ji;clear Ji;go_wp2_with fail;refine(aE h5.st [111,117,116]).mono ?_;rintro e w6 ⟨rfl,Jj⟩;rw[Jx];have h6:=h5.below Jj;clear Jj;go_wp2_with fail;refine(Jv.out _ h6.st).mono ?_;rintro e Xa ⟨rfl,Jr,Js⟩;have Jp:=h6.step Jr Js;clear Jr Js;go_wp2_with fail;refine(aE Jp.st [91]).mono ?_;rintro e w8 ⟨rfl,Jd⟩;rw[hc];have h8:=Jp.below Jd;clear Jd;go_wp2_with fail;refine(HE.out w8 h8.st).mono ?_;rintro e w9 ⟨u9,rfl,Jm,z9,t9⟩;obtain⟨ad,cp,rfl,-⟩:=au Jm;have h9:=h8.step z9 t9;have Jq:=bC Jm h8.t.size;have HC:=ah (HA.out w9 _ z9 h9.t.size Jq);clear Jm z9 t9 Jq;go_wp2_with fail;refine HC.out.mono ?_;rintro e J_ hx;have HF:=ah (hx.st h9.t);obtain⟨u4,rfl,-⟩:=hx;go_wp2;go_ret;exact HF
end
section
open Go.RowKit
theorem zX{G:GT}(hL:ft G.T G.K){n:Nat}(hA:wZ G n){w:World}{s:PS}{a:List Nd}{s1:PS}(hS:aN G w s)(J_:eu n s)(hq:vr G.T s)(Xi:a.length<=1000000)(hc:aC G.T [91] (aS G.T s).2=false)(hd:aC G.T [40] (aS G.T s).2=true)(hp:Pa G.T n (.ar (aS G.T s).1) (aS G.T s).2 (.n a) s1):
  Calls prog 83 #[.pointer (some ⟨G.P,0,none⟩)] w (pJ G w [⟨8,tx [],a,[],0,0⟩] (bq G.T [59] s1)):=by
 have HL:=ah hL;have Xf:=ah hS.lt;have hT:=am.refl (fun k=>k=G.P) w;obtain⟨h1,h2,h3,Xc,Xa⟩:=hq;have HE:=ah fun W (hW:aN G W (aS G.T s).2)=>hA W _ _ a s1 hp Xi (eu.of J_ (na_op s)) hW;clear hp J_ hA;have Xh:=ah fun W (hW:aN G W s)=>dv HL.out hW;generalize aS G.T s=nz at*;obtain⟨nm,z⟩:=nz;dsimp only at*;go_enter func83,ntmps83;go_wp2_with fail;refine(aE hS [105,110,116]).mono ?_;rintro e w1 ⟨rfl,Jd⟩;rw[h1];have Ji:=aN.below hS Jd;have Jp:=am.of_below hT Jd;clear Jd;go_wp2_with fail;refine(aE Ji [105,102]).mono ?_;rintro e w2 ⟨rfl,Jc⟩;rw[h2];have Jl:=aN.below Ji Jc;have Jt:=am.of_below Jp Jc;clear Jc;go_wp2_with fail;refine(aE Jl [119,104,105,108,101]).mono ?_;rintro e w3 ⟨rfl,Je⟩;rw[h3];have Jh:=aN.below Jl Je;have Jg:=am.of_below Jt Je;clear Je;obtain⟨W4,Jr⟩:=q_ (w3.alloc (.cells #[.int .i64 6,.string ⟨#[]⟩,.slice none 0 0,.slice none 0 0,.int .i64 0,.int .i64 0] 46));obtain⟨M,hM⟩:=q_ w3.heap.size;have h4:=fW Jh Jg Xf.out 6 Jr hM;have Xe:=ah Jr;have HM:=ah hM;clear Jr hM Jh Jg;go_upto_region 20 with fail;rw[<-Xe.out,<-HM.out];go_wp2_with fail;refine(aE h4.st [114,101,116,117,114,110]).mono ?_;rintro e w5 ⟨rfl,Jk⟩;rw[Xc];have h5:=h4.below Jk;clear Jk;go_wp2_with fail;refine(aE h5.st [111,117,116]).mono ?_;rintro e w6 ⟨rfl,Jj⟩;rw[Xa];have h6:=h5.below Jj;clear Jj;go_wp2_with fail;refine(Xh.out _ h6.st).mono ?_;rintro e Xk ⟨rfl,Jy,Jz⟩;have Jv:=h6.step Jy Jz;clear Jy Jz;go_wp2_with fail;refine(aE Jv.st [91]).mono ?_;rintro e w8 ⟨rfl,Jf⟩;rw[hc];have Ju:=Jv.below Jf;clear Jf;go_wp2_with fail;refine(aE Ju.st [40]).mono ?_;rintro e Xb ⟨rfl,Ja⟩;rw[hd];have Js:=Ju.below Ja;clear Ja;obtain⟨Xd,Jb⟩:=q_ (Xb.setCell ⟨M,0,none⟩ (.int .i64 8));obtain⟨Jm,Xj⟩:=Js.put 0 (.int .i64 8) Jb;have c1:=(Js.q (j:=0) rfl).1;have f1:=(Js.q (j:=0) rfl).2;simp only[List.set_cons_zero,List.set_cons_succ]at Jm;have Jn:=ah Jb;clear Jb;go_upto_region 37 with fail;rw[<-Jn.out];clear c1 f1;go_wp2_with fail;refine(HE.out Xd Jm.st).mono ?_;rintro e w7 ⟨u7,rfl,Jq,z7,t7⟩;obtain⟨ad,cp,rfl,-⟩:=au Jq;have h7:=Jm.step z7 t7;have hB:=Jm;clear z7 t7;obtain⟨X8,Jo⟩:=q_ (w7.setCell ⟨M,2,none⟩ (.slice ad a.length cp));obtain⟨h8,tX⟩:=h7.put 2 (.slice ad a.length cp) Jo;have c1:=(h7.q (j:=2) rfl).1;have f1:=(h7.q (j:=2) rfl).2;simp only[List.set_cons_zero,List.set_cons_succ]at h8;have Xg:=ah Jo;clear Jo;go_upto_region 38 with fail;rw[<-Xg.out];clear c1 f1;have Jx:=hB.row Jq tX;clear Jq tX;go_wp2_with fail;refine(ey HL.out h8.st [59]).mono ?_;rintro e w9 ⟨rfl,z9,t9⟩;have h9:=h8.step z9 t9;have Jw:=hB.row2 Jx t9;have HF:=ah (h9.fin Jw.2 (fun W _=>aM W));clear z9 t9 Jw Jx;have q0:=(h9.q (j:=0) rfl).1;have q1:=(h9.q (j:=1) rfl).1;have q2:=(h9.q (j:=2) rfl).1;have q3:=(h9.q (j:=3) rfl).1;have q4:=(h9.q (j:=4) rfl).1;have q5:=(h9.q (j:=5) rfl).1;clear h9;go_wp2;go_ret;exact HF
end
section
open Go.RowKit
variable{G:GT}{M:Nat}{w w':World}
theorem am.pm1(h:am (fun k=>k=G.P) w w'):am (fun k=>k=G.P∨k=M) w w':=h.mono fun k hk=>.inl hk
theorem am.pm2(h:am (fun k=>k=M) w w'):am (fun k=>k=G.P∨k=M) w w':=h.mono fun k hk=>.inr hk
theorem qR{X8 Jh Jf Jg Jc Ja:World}{z z8:PS}{kd th el:Int}{ve ub uc:Value}{a:List Nd}{b c:List St}(B8:Nat)(Jw:List Value)
  (h:BS G w M [.int .i64 kd,.string ⟨#[]⟩,ve,.slice none 0 0,.int .i64 th,.int .i64 el] Jc z) (h8:BS G w M Jw X8 z8) (Jy:M<B8) (Jv:w.heap.size<=B8) (Ju:aF B8 X8 ve a)
  (Jx:SQ X8.heap.size Jh ub b) (t8:am (fun k=>k=G.P) X8 Jh) (Jt:SQ Jg.heap.size Jf uc c) (Jb:am (fun k=>k=G.P) Jh Jg) (Jm:am (fun k=>k=G.P) Jg Jf) (Jl:am (fun k=>k=G.P∨k=M) Jf Jc) (hW:Ja=Jc.alloc (.cells #[.int .i64 kd,.string ⟨#[]⟩,ve,.slice none 0 0,.int .i64 th,.int .i64 el] 46)) (hl:b.length+c.length<=999999):
  ∃v1 w1 v2 w2,(Builtin.append_ #[41,41] 41 #[.slice (some ⟨Jc.heap.size,0,none⟩) 1 1,ub]).run prog Ja=.ok v1 w1/\(Builtin.append_ #[41,41] 41 #[v1,uc]).run prog w1=.ok v2 w2/\pJ G w (⟨kd,tx [],a,[],th,el⟩::(b++c)) z (.returned v2) w2:=by
 have hM:=h8.m;have hP:=h8.hl.1;have Jr:=h8.t.size;have e1:=t8.size;have e2:=Jb.size;have e3:=Jm.size;have e4:=Jl.size;have Jj:am (fun k=>k=G.P∨k=M) Jf Ja:=by rw[hW];exact Jl.alloc _
 have Jq:am (fun k=>k=G.P∨k=M) Jh Ja:=((Jb.trans Jm).pm1 (M:=M)).trans Jj;have u8:am (fun k=>k=G.P∨k=M) X8 Jc:=((t8.trans (Jb.trans Jm)).pm1 (M:=M)).trans Jl;have Jk:aF B8 Jc ve a:=az Ju u8 (fun k hk=>by omega);have Jd:SQ w.heap.size Ja (.slice (some ⟨Jc.heap.size,0,none⟩) 1 1) [⟨kd,tx [],a,[],th,el⟩]:=by
  rw[hW];exact xp h.t.size (bC Jk Jv) (fun W _=>aM W)
 have Je:w.heap.size<=Ja.heap.size:=by rw[hW];exact(h.t.alloc _).size
 have Jn:aN G Ja z:=by rw[hW];exact h.st.below (aD _ _)
 have Jp:am (fun k=>k=G.P) w Ja:=by rw[hW];exact h.t.alloc _
 obtain⟨v1,w1,r1,s1,t1,f1⟩:=qQ 41 Jd Jx (Jq.mono fun k hk=>by omega) o_ Je (by simp only[List.length_singleton];omega) (fun k hk=>by simp only[Value.ownBlock,Option.some.injEq]at hk;exact .inr o_);obtain⟨z1,Jo⟩:=aN.gr2 Jn h.hl.1 h.hl.2 Jp Jd t1;have Ji:am (fun k=>k<Jg.heap.size) Jf w1:=(Jj.mono (fun k hk=>by omega)).next t1 (fun k hk=>by simp only[Value.ownBlock,Option.some.injEq]at hk;exact .inr o_);obtain⟨v2,w2,r2,s2,t2,f2⟩:=qQ 41 s1 Jt Ji o_ (t_ Je t1.size) (by simp only[l_a,List.length_singleton];omega) (fun k hk=>by
  rcases f1 k hk with hk|hk
  ·simp only[Value.ownBlock,Option.some.injEq]at hk;exact .inr o_
  ·exact .inr (by have:=Jj.size;omega))
 obtain⟨z2,Js⟩:=aN.gr2 z1 h.hl.1 h.hl.2 Jo s1 t2;exact⟨v1,w1,v2,w2,r1,r2,_,rfl,s2,z2,Js⟩
end
section
open Go.RowKit
theorem zY{G:GT}(hL:ft G.T G.K){n:Nat}(hC:AY G n)(hB:Dp G n){w:World}{s:PS}{a:List Nd}{b:List St}{s1 s2:PS}(hS:aN G w s)(Ju:eu n s)(hi:aC G.T [105,102] s=true)(hp:Pa G.T n (.pr [40] [41]) s.ad (.n a) s1)(hb:Pa G.T n .bl s1 (.s b) s2){c:List St}{s':PS}(Jv:fJ (⟨4,tx [],a,[],(b.length:Int),(c.length:Int)⟩::(b++c))<=1000000)(he:aC G.T [101,108,115,101] s2=true)(hc:Pa G.T n .bl s2.ad (.s c) s'):
  Calls prog 83 #[.pointer (some ⟨G.P,0,none⟩)] w (pJ G w (⟨4,tx [],a,[],(b.length:Int),(c.length:Int)⟩::(b++c)) s'):=by
 have HL:=ah hL;have Yf:=ah hS.lt;have hT:=am.refl (fun k=>k=G.P) w;have h1:aC G.T [105,110,116] s=false:=bE hi d_;have h2:aC G.T [119,104,105,108,101] s=false:=bE hi d_;have Yu:=ei b;have Yj:=ah fun W (hW:aN G W s.ad)=>hC W s.ad a s1 hp (by simp only[szS_cons,szS_app]at Jv;omega) Ju hW;have Yd:=ah fun W (hW:aN G W s1)=>hB W s1 b s2 hb (by simp only[szS_cons,szS_app]at Jv;omega) (eu.of Ju hp.op) hW;have Ys:=ei c;have Xx:=ah fun W (hW:aN G W s2.ad)=>hB W s2.ad c s' hc (by simp only[szS_cons,szS_app]at Jv;omega) (eu.of Ju (hb.op.trans hp.op)) hW;clear hc;simp only[szS_cons,szS_app]at Jv;clear hC hB hp hb Ju;go_enter func83,ntmps83;go_wp2_with fail;refine(aE hS [105,110,116]).mono ?_;rintro e w1 ⟨rfl,Jm⟩;rw[h1];have Jp:=aN.below hS Jm;have Xf:=am.of_below hT Jm;clear Jm;go_wp2_with fail;refine(aE Jp [105,102]).mono ?_;rintro e w2 ⟨rfl,Jk⟩;rw[hi];have Jq:=aN.below Jp Jk;have Jr:=am.of_below Xf Jk;clear Jk;obtain⟨W3,Xc⟩:=q_ (w2.alloc (.cells #[.int .i64 4,.string ⟨#[]⟩,.slice none 0 0,.slice none 0 0,.int .i64 0,.int .i64 0] 46));obtain⟨M,hM⟩:=q_ w2.heap.size;have h3:=fW Jq Jr Yf.out 4 Xc hM;have Yk:=ah Xc;have HM:=ah hM;clear Xc hM Jq Jr;go_upto_region 7 with fail;rw[<-Yk.out,<-HM.out];go_wp2_with fail;refine(aE h3.st [119,104,105,108,101]).mono ?_;rintro e w4 ⟨rfl,Jo⟩;rw[h2];have h4:=h3.below Jo;clear Jo;obtain⟨⟨Xi,Xm⟩,q1,f1,Jz⟩:=h4.st.adv (fQ HL.out h4.st.wf hi);obtain⟨W5,Xn⟩:=q_ (w4.setCell ⟨G.P,1,none⟩ (.int .i64 ((s.i:Int)+1)));rw[<-Xn]at Xi Xm;have h5:=h4.step Xi Xm;have Yl:=ah Xn;clear Xn Xi Xm;go_upto_region 10 with fail;rw[<-Yl.out];clear q1 f1 Jz;go_wp2_with fail;refine(Yj.out W5 h5.st).mono ?_;rintro e w7 ⟨u7,rfl,Xg,z7,t7⟩;obtain⟨ad,cp,rfl,-⟩:=au Xg;have h7:=h5.step z7 t7;clear z7 t7;obtain⟨X8,Xe⟩:=q_ (w7.setCell ⟨M,2,none⟩ (.slice ad a.length cp));obtain⟨h8,tX⟩:=h7.put 2 (.slice ad a.length cp) Xe;have c1:=(h7.q (j:=2) rfl).1;have f1:=(h7.q (j:=2) rfl).2;simp only[List.set_cons_zero,List.set_cons_succ]at h8;have Yh:=ah Xe;clear Xe;go_upto_region 11 with fail;rw[<-Yh.out];clear c1 f1;have Xs:=h5.row Xg tX;have Ye:=h5.m;have Ym:=h5.t.size;clear Xg tX;go_wp2_with fail;refine(Yd.out X8 h8.st).mono ?_;rintro e Jn ⟨Yq,rfl,Xl,Xt,Jw⟩;obtain⟨ab,cb,rfl⟩:=Xl.shape;have h11:=h8.step Xt Jw;obtain⟨W12,Jb⟩:=q_ (Jn.alloc (.cells #[] 46));obtain⟨Yn,Jj⟩:=q_ Jn.heap.size;have Xp:Bl Jn W12:=by rw[Jb];exact r_.alloc n_ _
 have Yp:SQ Jn.heap.size W12 (.slice (some ⟨Yn,0,none⟩) 0 0) []:=by rw[Jb,Jj];exact nV Jn _ n_
 have h12:=h11.below Xp;have Xk:=ah Jb;have J_:=ah Jj;clear Xt Jb Jj;have c0:=(h12.q (j:=0) rfl).1;go_upto_region 13 with fail;rw[<-Xk.out,<-J_.out];go_wp2_with fail;refine(aE h12.st [101,108,115,101]).mono ?_;rintro e w13 ⟨rfl,Ja⟩;rw[he];have Jy:=h12.below Ja;have Js:am (fun k=>k=G.P) Jn w13:=(Xp.tcs).of_below Ja;clear Ja;obtain⟨⟨Je,Jc⟩,q1,f1,Jz⟩:=Jy.st.adv (fQ HL.out Jy.st.wf he);obtain⟨Yi,Jf⟩:=q_ (w13.setCell ⟨G.P,1,none⟩ (.int .i64 ((s2.i:Int)+1)));rw[<-Jf]at Je Jc;have Xv:=Jy.step Je Jc;have Xh:=ah Jf;have Yg:=Js.trans Jc;clear Jf Je Jc;go_upto_region 15 with fail;rw[<-Xh.out];clear q1 f1 Jz;go_wp2_with fail;refine(Xx.out Yi Xv.st).mono ?_;rintro e Xr ⟨Yt,rfl,Xq,Xo,Xu⟩;obtain⟨ac,cc,rfl⟩:=Xq.shape;have Xa:=Xv.step Xo Xu;clear Xo;obtain⟨Yc,Jh⟩:=q_ (Xr.setCell ⟨M,4,none⟩ (.int .i64 (b.length:Int)));obtain⟨Jt,Ya⟩:=Xa.put 4 (.int .i64 (b.length:Int)) Jh;have c1:=(Xa.q (j:=4) rfl).1;have f1:=(Xa.q (j:=4) rfl).2;simp only[List.set_cons_zero,List.set_cons_succ]at Jt;have Xb:=ah Jh;clear Jh;go_upto_region 17 with fail;rw[<-Xb.out];clear c1 f1;obtain⟨X17,Jg⟩:=q_ (Yc.setCell ⟨M,5,none⟩ (.int .i64 (c.length:Int)));obtain⟨Jd,Xy⟩:=Jt.put 5 (.int .i64 (c.length:Int)) Jg;have c1:=(Jt.q (j:=5) rfl).1;have f1:=(Jt.q (j:=5) rfl).2;simp only[List.set_cons_zero,List.set_cons_succ]at Jd;have Xd:=ah Jg;clear Jg;go_upto_region 18 with fail;rw[<-Xd.out];clear c1 f1;have Js:am (fun k=>k=G.P∨k=M) Xr X17:=Ya.pm2.trans Xy.pm2;obtain⟨Yr,Ji⟩:=q_ (X17.alloc (.cells #[.int .i64 4,.string ⟨#[]⟩,.slice ad a.length cp,.slice none 0 0,.int .i64 (b.length:Int),.int .i64 (c.length:Int)] 46));obtain⟨Yo,Jl⟩:=q_ X17.heap.size;obtain⟨v1,Xw,v2,Xz,r1,r2,hF⟩:=qR _ _ Jd h8 Ye Ym Xs Xl Jw Xq Yg Xu Js Ji (by first|omega|(simp only[l_n];omega));rw[<-Jl]at r1;have X_:=ah r1;have Yb:=ah r2;have HF:=ah hF;have Xj:=ah Ji;have Jx:=ah Jl;have q0:=(Jd.q (j:=0) rfl).1;have q1:=(Jd.q (j:=1) rfl).1;have q2:=(Jd.q (j:=2) rfl).1;have q3:=(Jd.q (j:=3) rfl).1;have q4:=(Jd.q (j:=4) rfl).1;have q5:=(Jd.q (j:=5) rfl).1;clear r1 r2 hF Ji Jl Jd h8 Xs Xl Jw Js;go_wp2_with(at_builtin;first|(refine ao rfl (.tmp 74) (.tmp 75) _ rfl _ _ v1 Xw rfl rfl (by rw[<-Xj.out,<-Jx.out];exact X_) ?_)|(refine ao rfl (.tmp 76) (.tmp 77) _ rfl _ _ v2 Xz rfl rfl Yb.out ?_));go_ret;exact HF
end
section
open Go.RowKit
theorem xL{G:GT}(hL:ft G.T G.K){n:Nat}(hC:AY G n)(hB:Dp G n){w:World}{s:PS}{a:List Nd}{b:List St}{s1 s2:PS}(hS:aN G w s)(Xj:eu n s)(hi:aC G.T [119,104,105,108,101] s=true)(hp:Pa G.T n (.pr [40] [41]) s.ad (.n a) s1)(hb:Pa G.T n .bl s1 (.s b) s2)(Xk:fJ (⟨5,tx [],a,[],(b.length:Int),0⟩::b)<=1000000):
  Calls prog 83 #[.pointer (some ⟨G.P,0,none⟩)] w (pJ G w (⟨5,tx [],a,[],(b.length:Int),0⟩::b) s2):=by
 have HL:=ah hL;have Yb:=ah hS.lt;have hT:=am.refl (fun k=>k=G.P) w;have h1:aC G.T [105,110,116] s=false:=bE hi d_;have h2:aC G.T [105,102] s=false:=bE hi d_;have Ym:=ei b;have Yd:=ah fun W (hW:aN G W s.ad)=>hC W s.ad a s1 hp (by simp only[szS_cons,szS_app]at Xk;omega) Xj hW;have X_:=ah fun W (hW:aN G W s1)=>hB W s1 b s2 hb (by simp only[szS_cons,szS_app]at Xk;omega) (eu.of Xj hp.op) hW;simp only[szS_cons,szS_app]at Xk;clear hC hB hp hb Xj;go_enter func83,ntmps83;go_wp2_with fail;refine(aE hS [105,110,116]).mono ?_;rintro e w1 ⟨rfl,Jl⟩;rw[h1];have Jm:=aN.below hS Jl;have Xa:=am.of_below hT Jl;clear Jl;go_wp2_with fail;refine(aE Jm [105,102]).mono ?_;rintro e Yj ⟨rfl,Ja⟩;rw[h2];have Jd:=aN.below Jm Ja;have Jo:=am.of_below Xa Ja;clear Ja;go_wp2_with fail;refine(aE Jd [119,104,105,108,101]).mono ?_;rintro e w2 ⟨rfl,Jj⟩;rw[hi];have Jp:=aN.below Jd Jj;have Jq:=am.of_below Jo Jj;clear Jj;obtain⟨W3,Jy⟩:=q_ (w2.alloc (.cells #[.int .i64 4,.string ⟨#[]⟩,.slice none 0 0,.slice none 0 0,.int .i64 0,.int .i64 0] 46));obtain⟨M,hM⟩:=q_ w2.heap.size;have h3:=fW Jp Jq Yb.out 4 Jy hM;have Ye:=ah Jy;have HM:=ah hM;clear Jy hM Jp Jq;go_upto_region 7 with fail;rw[<-Ye.out,<-HM.out];go_wp2_with fail;refine(aE h3.st [119,104,105,108,101]).mono ?_;rintro e Xy ⟨rfl,Je⟩;rw[hi];have Js:=h3.below Je;clear Je;obtain⟨w4,Xd⟩:=q_ (Xy.setCell ⟨M,0,none⟩ (.int .i64 5));obtain⟨h4,Yn⟩:=Js.put 0 (.int .i64 5) Xd;have c1:=(Js.q (j:=0) rfl).1;have f1:=(Js.q (j:=0) rfl).2;simp only[List.set_cons_zero,List.set_cons_succ]at h4;have Xs:=ah Xd;clear Xd;go_upto_region 9 with fail;rw[<-Xs.out];clear c1 f1;obtain⟨⟨Xc,Xh⟩,q1,f1,Xu⟩:=h4.st.adv (fQ HL.out h4.st.wf hi);obtain⟨W5,Xi⟩:=q_ (w4.setCell ⟨G.P,1,none⟩ (.int .i64 ((s.i:Int)+1)));rw[<-Xi]at Xc Xh;have h5:=h4.step Xc Xh;have Yf:=ah Xi;clear Xi Xc Xh;go_upto_region 10 with fail;rw[<-Yf.out];clear q1 f1 Xu;go_wp2_with fail;refine(Yd.out W5 h5.st).mono ?_;rintro e w7 ⟨u7,rfl,Xb,z7,t7⟩;obtain⟨ad,cp,rfl,-⟩:=au Xb;have h7:=h5.step z7 t7;clear z7 t7;obtain⟨X8,J_⟩:=q_ (w7.setCell ⟨M,2,none⟩ (.slice ad a.length cp));obtain⟨h8,tX⟩:=h7.put 2 (.slice ad a.length cp) J_;have c1:=(h7.q (j:=2) rfl).1;have f1:=(h7.q (j:=2) rfl).2;simp only[List.set_cons_zero,List.set_cons_succ]at h8;have Yc:=ah J_;clear J_;go_upto_region 11 with fail;rw[<-Yc.out];clear c1 f1;have Xm:=h5.row Xb tX;have Ya:=h5.m;have Yg:=h5.t.size;clear Xb tX;go_wp2_with fail;refine(X_.out X8 h8.st).mono ?_;rintro e Jn ⟨Yk,rfl,Xg,Xn,Jt⟩;obtain⟨ab,cb,rfl⟩:=Xg.shape;have h11:=h8.step Xn Jt;obtain⟨W12,Jb⟩:=q_ (Jn.alloc (.cells #[] 46));obtain⟨Yh,Ji⟩:=q_ Jn.heap.size;have Xl:Bl Jn W12:=by rw[Jb];exact r_.alloc n_ _
 have Xv:SQ Jn.heap.size W12 (.slice (some ⟨Yh,0,none⟩) 0 0) []:=by rw[Jb,Ji];exact nV Jn _ n_
 have h12:=h11.below Xl;have Xf:=ah Jb;have Jw:=ah Ji;clear Xn Jb Ji;have c0:=(h12.q (j:=0) rfl).1;go_upto_region 13 with fail;rw[<-Xf.out,<-Jw.out];have Jv:=h12;have c12:am (fun k=>k=G.P∨k=M) W12 W12:=am.refl _ _;obtain⟨Xz,Jg⟩:=q_ (W12.setCell ⟨M,4,none⟩ (.int .i64 (b.length:Int)));obtain⟨Jr,Xw⟩:=Jv.put 4 (.int .i64 (b.length:Int)) Jg;have c1:=(Jv.q (j:=4) rfl).1;have f1:=(Jv.q (j:=4) rfl).2;simp only[List.set_cons_zero,List.set_cons_succ]at Jr;have Jx:=ah Jg;clear Jg;go_upto_region 17 with fail;rw[<-Jx.out];clear c1 f1;obtain⟨Xo,Jf⟩:=q_ (Xz.setCell ⟨M,5,none⟩ (.int .i64 0));obtain⟨Jc,Xq⟩:=Jr.put 5 (.int .i64 0) Jf;have c1:=(Jr.q (j:=5) rfl).1;have f1:=(Jr.q (j:=5) rfl).2;simp only[List.set_cons_zero,List.set_cons_succ]at Jc;have Jz:=ah Jf;clear Jf;go_upto_region 18 with fail;rw[<-Jz.out];clear c1 f1;replace c12:=(c12.trans Xw.pm2).trans Xq.pm2;obtain⟨Yl,Jh⟩:=q_ (Xo.alloc (.cells #[.int .i64 5,.string ⟨#[]⟩,.slice ad a.length cp,.slice none 0 0,.int .i64 (b.length:Int),.int .i64 (0)] 46));obtain⟨Yi,Jk⟩:=q_ Xo.heap.size;obtain⟨v1,Xp,v2,Xr,r1,r2,hF⟩:=qR _ _ Jc h8 Ya Yg Xm Xg Jt Xv (am.refl _ _) Xl.tcs c12 Jh (by first|omega|(simp only[l_n];omega));rw[<-Jk]at r1;have Xt:=ah r1;have Xx:=ah r2;have HF:=ah hF;have Xe:=ah Jh;have Ju:=ah Jk;have q0:=(Jc.q (j:=0) rfl).1;have q1:=(Jc.q (j:=1) rfl).1;have q2:=(Jc.q (j:=2) rfl).1;have q3:=(Jc.q (j:=3) rfl).1;have q4:=(Jc.q (j:=4) rfl).1;have q5:=(Jc.q (j:=5) rfl).1;clear r1 r2 hF Jh Jk Jc h8 Xm Xg Jt c12;go_wp2_with(at_builtin;first|(refine ao rfl (.tmp 74) (.tmp 75) _ rfl _ _ v1 Xp rfl rfl (by rw[<-Xe.out,<-Ju.out];exact Xt) ?_)|(refine ao rfl (.tmp 76) (.tmp 77) _ rfl _ _ v2 Xr rfl rfl Xx.out ?_));go_ret;have hF:=HF.out;rw[List.append_nil]at hF;exact hF
end
section
open Go.RowKit
variable{B L:Nat}{w W w':World}{v vg vf:Value}{R:List SV}{S S':Nat->Prop}{Q:List FV}{t:Tr}
def xM(W:World)(v:Value)(R:List SV):Prop:=(∃a c,v=.slice a R.length c/\R.length<=c/\c<=9223372036854775807/\(0<R.length->∃b off,a=some ⟨b,off,none⟩/\∀j u,(bz R)[j]? =some u->W.cell? ⟨b,off+j,none⟩=some u))/\qN R W
theorem xM.stmts(h:xM W v R):bJ W v (R.map (·.s)):=by
 obtain⟨⟨a,c,rfl,h1,h2,h3⟩,hp⟩:=h;refine⟨a,c,by rw[List.length_map],by rw[List.length_map];exact h1,h2,fun hp'=>?_⟩;rw[List.length_map]at hp';obtain⟨b,Jb,rfl,hc⟩:=h3 hp';refine⟨b,Jb,rfl,fun j hj=>?_⟩;rw[List.length_map]at hj;have Ja:∀i (hi:i<6),W.cell? ⟨b,Jb+j*6+i,none⟩=(aY R[j])[i]? := fun i hi=>by
  have e:=dH R j i hj hi;have hl:i<(aY R[j]).length:=hi;rw[List.getElem?_eq_getElem hl]at e⊢;rw[Nat.add_assoc];exact hc _ _ e
 have he:=hp R[j] (g_ hj);refine⟨R[j].ve,R[j].vf,?_,?_,?_⟩
 ·simp only[List.getElem_map];exact⟨Ja 0 o_,Ja 1 o_,Ja 2 o_,Ja 3 o_,Ja 4 o_,Ja 5 o_⟩
 ·simp only[List.getElem_map];exact he.1
 ·simp only[List.getElem_map];exact he.2
theorem A3(h0:W.ownsRow B 46 6 v R.length (bz R))(hp:qN R W):xM W v R:=by
 refine⟨?_,hp⟩;have hh:=h0;rcases h0.2 with⟨rfl,hz⟩|⟨g,Ja,Jb,rfl,h3,h4,h5⟩
 ·exact⟨none,0,by rw[hz],o_,o_,fun h=>by omega⟩
 ·obtain⟨q1,q2,-⟩:=h5;unfold maxLen at q2;refine⟨_,Ja,rfl,q1,q2,fun _=>⟨g,0,rfl,fun j u hu=>?_⟩⟩;have:=World.ownsRow.cells hh (g:=g) rfl j u hu
  rwa[gV]at this
theorem SR.rd(h:SR B w v R L):∀W,am (fun k=>k<B) w W->xM W v R:=fun W hW=>
 A3 (az h.row.row hW (fun k hk=>hk)) (h.row.st W (hW.mono fun k hk=>.inl hk))
theorem xM.one(h:xM W v R):v.oneCell'=true:=by
 obtain⟨⟨a,c,rfl,-⟩,-⟩:=h;rfl
def A4(Q:List FV)(W:World):Prop:=∀x∈Q,Strs W x.vp x.f.params/\xM W x.vb x.R/\x.R.map (·.s)=x.f.body
structure qS (f:Fu):Prop where
 nm:f.name.size<=100000
 pl:f.params.length<=20
 pn:∀p∈f.params,p.size<=100000
 bl:1<=f.body.length
 bu:f.body.length<=10000
 st:∀s∈f.body,bI s.e 3000/\bI s.f 3000/\s.name.size<=100000
theorem DX.body(h:DX R):∀s∈R.map (·.s),bI s.e 3000/\bI s.f 3000/\s.name.size<=100000:=fun s hs=>by
 obtain⟨x,hx,rfl⟩:=List.mem_map.1 hs;exact h x hx
structure FR (S:Nat->Prop) (B:Nat) (w:World) (v:Value) (Q:List FV):Prop where
 row:dY 43 3 S B w v Q.length (a_ Q) (A4 Q)
 ok:∀x∈Q,qS x.f
theorem FR.tcs(h:FR S B w v Q)(ht:am S w w')(hS:∀k,S k->k<B):FR S B w' v Q:=⟨h.row.tcs ht hS,h.ok⟩
theorem FR.below(h:FR S B w v Q)(hb:Below w.heap.size w w'):FR S B w' v Q:=⟨h.row.below hb,h.ok⟩
theorem FR.rng(h:FR S B w v Q):∀k,v.ownBlock=some k->B<=k/\k<w.heap.size:=fun k hk=>World.ownsRow.lt h.row.row k hk
theorem FR.shape(h:FR S B w v Q):∃a c,v=.slice a Q.length c:=by
 obtain⟨a,c,e,-⟩:=au h.row.row;exact⟨a,c,e⟩
theorem fr_none:FR S B w (.slice none 0 0) []:=⟨dY.nil (fun W x hx=>by cases hx),fun x hx=>by cases hx⟩
theorem xN(h0:W.ownsRow B 43 3 v Q.length (a_ Q))(hp:A4 Q W):dM W v (Q.map (fun q:FV=>q.f)):=by
 rcases h0.2 with⟨rfl,hz⟩|⟨g,Jb,Jc,rfl,h3,h4,h5⟩
 ·exact⟨none,0,by rw[List.length_map,hz],by rw[List.length_map,hz];exact n_,o_,fun h=>by rw[List.length_map]at h;omega⟩
 ·have hc:Q.length<=Jb/\Jb<=9223372036854775807:=by
   obtain⟨q1,q2,-⟩:=h5;unfold maxLen at q2;exact⟨q1,q2⟩
  refine⟨some ⟨g,0,none⟩,Jb,by rw[List.length_map],by rw[List.length_map];exact hc.1,hc.2,fun hp'=>⟨g,0,rfl,fun j hj=>?_⟩⟩;rw[List.length_map]at hj;have Ja:∀i,i<3->W.cell? ⟨g,0+j*3+i,none⟩=(a7 Q[j])[i]? := fun i hi=>by
   have hl:(a_ Q).length=Q.length*3:=eI Q;rw[Nat.zero_add,World.ownsRow.cellAt h0 (j*3+i) o_,eJ Q j i hj hi]
  obtain⟨e1,e2,e3⟩:=hp Q[j] (g_ hj);have e2:=e2.stmts;rw[e3]at e2;refine⟨Q[j].vp,Q[j].vb,?_,?_,?_⟩
  ·simp only[List.getElem_map];exact⟨Ja 0 o_,Ja 1 o_,Ja 2 o_⟩
  ·simp only[List.getElem_map];exact e1
  ·simp only[List.getElem_map];exact e2
theorem xO{m c:Nat}{Q2:List FV}(ty:TypeId)(h:FR S B w v Q)(a:Option Addr)(Je:m=Q2.length)(hn:a=none->m=0)(hc:∀ad,a=some ad->∀j u,(a_ Q2)[j]? =some u->w.cell? (ad.add j)=some u)(h1:∀x∈Q2,x.vp.oneCell'=true/\x.vb.oneCell'=true)(ho:∀x∈Q2,qS x.f)
  (Jd:∀W,am (fun k=>S k∨v.ownBlock=some k) w W->A4 Q2 W) (hm:Q.length+Q2.length<=100000) (hB:B<=w.heap.size):
  ∃v' w',(Builtin.append_ #[24,24] ty #[v,.slice a m c]).run prog w=.ok v' w'/\FR S B w' v' (Q++Q2)/\am (fun k=>v.ownBlock=some k) w w'/\∀k,v'.ownBlock=some k->v.ownBlock=some k∨w.heap.size<=k:=by
 subst Je;obtain⟨i0,hi,Jc,Jb,Ja⟩:=info_parts iL;obtain⟨v',w',r1,r2,r3,r4⟩:=jB (Pg:=prog) (w:=w) (T:=43) (t:=24) (c:=c) (P2:=A4 Q2) ty underlying24 hi Jc Jb Ja rfl d_ h.row a hn (eI Q2) hc (fun u hu=>by
  simp only[a_,List.mem_flatMap]at hu;obtain⟨x,hx,hu⟩:=hu;obtain⟨g1,g2⟩:=h1 x hx;simp only[a7,List.mem_cons,List.not_mem_nil,or_false]at hu;rcases hu with rfl|rfl|rfl
  ·rfl
  ·exact g1
  ·exact g2) Jd o_ d_ hB
 refine⟨v',w',r1,⟨⟨by rw[l_a,gM];exact r2.row,fun W hW x hx=>?_⟩,fun x hx=>?_⟩,r3,r4⟩
 ·rcases List.mem_append.1 hx with hx|hx
  ·exact(r2.st W hW).1 x hx
  ·exact(r2.st W hW).2 x hx
 ·rcases List.mem_append.1 hx with hx|hx
  ·exact h.ok x hx
  ·exact ho x hx
structure TD (S:Nat->Prop) (w:World) (vg vf:Value) (t:Tr):Prop where
 gs:∀W,am S w W->dL W vg t.globals
 fs:∃b off c,∃Q:List FV,vf=.slice (some ⟨b,off,none⟩) Q.length c/\Q.length<=c/\c<=9223372036854775807/\Q.map (fun q:FV=>q.f)=t.funcs/\∀W,am S w W->(∀j u,(a_ Q)[j]? =some u->W.cell? ⟨b,off+j,none⟩=some u)/\A4 Q W
 gl:1<=t.globals.length/\t.globals.length<=20
 gn:∀x∈t.globals,x.name.size<=100000
 fl:1<=t.funcs.length/\t.funcs.length<=20
 ok:∀f∈t.funcs,qS f
theorem TD.tcs(h:TD S w vg vf t)(ht:am S w w'):TD S w' vg vf t:=by
 obtain⟨b,Ja,c,Q,h1,h2,h3,h4,h5⟩:=h.fs;exact⟨fun W hW=>h.gs W (ht.trans hW),⟨b,Ja,c,Q,h1,h2,h3,h4,fun W hW=>h5 W (ht.trans hW)⟩,h.gl,h.gn,h.fl,h.ok⟩
theorem TD.funcs(h:TD S w vg vf t):∀W,am S w W->dM W vf t.funcs:=fun W hW=>by
 obtain⟨b,off,c,Q,rfl,h2,h3,h4,h5⟩:=h.fs;obtain⟨hc,hp⟩:=h5 W hW;rw[<-h4];refine⟨_,c,by rw[List.length_map],by rw[List.length_map];exact h2,h3,fun hp'=>⟨b,off,rfl,fun j hj=>?_⟩⟩;rw[List.length_map]at hj;have key:∀i (hi:i<3),W.cell? ⟨b,off+j*3+i,none⟩=(a7 Q[j])[i]? := fun i hi=>by
  have e:=eJ Q j i hj hi;have hl:i<(a7 Q[j]).length:=hi;rw[List.getElem?_eq_getElem hl]at e⊢;rw[Nat.add_assoc];exact hc _ _ e
 obtain⟨e1,e2,e3⟩:=hp Q[j] (g_ hj);have e2:=e2.stmts;rw[e3]at e2;refine⟨Q[j].vp,Q[j].vb,?_,?_,?_⟩
 ·simp only[List.getElem_map];exact⟨key 0 o_,key 1 o_,key 2 o_⟩
 ·simp only[List.getElem_map];exact e1
 ·simp only[List.getElem_map];exact e2
end
section
section
variable{ps:List Lm}{t:St}{s s':PS}{n:Nat}{r:List St}{w:List UInt8}
variable{T:Nat->To}
structure GE (T:Nat->To) (e:List Nd) (ps:List Lm):Prop where
 q:QE T e ps
 o:strN (ay e)=11->OE T e ps
 f:FT T ps
 one:1<=strN (ay e)
theorem CE{e:List Nd}(h:GE T e ps)(h0:s.er=0)(hM:Mt T s.i (sy [61]::(aV ps++[sy [59]])))(hp:Pa T n (.sg t) s (.s r) s'):
  (r=[i8 t e]/\s'=gt s ((aV ps).length+2))∨s'.er=4:=by
 obtain⟨m1,m2⟩:=mt_cons.1 hM;obtain⟨m3,m4⟩:=mt_app.1 m2;have m5:=(mt_cons.1 m4).1;have Ja:=kh m1 h0;cases hp using Pa_i with
 | sgd n t s h1=>rw[Ja]at h1;exact absurd h0 h1
 | sge n t s a s1 h1 h2=>
  rw[Ja]at h2;rcases h.q.whole h.one (c:=[59]) i_ (s:=gt s 1) h0 m3 m5 h2 with⟨rfl,rfl⟩|h4
  ·refine .inl ⟨rfl,?_⟩;rw[kh (s:=gt (gt s 1) (aV ps).length) m5 h0,gt_gt,gt_gt];congr 1
   omega
  ·exact .inr (cM (bQ _ _) h4)
def D0(T:Nat->To)(l:List St)(ps:List Lm):Prop:=∀(o:List St) (s:PS) (n:Nat) (a:List St) (s':PS),s.er=0->Mt T s.i (aV ps)->Tm (T (s.i+(aV ps).length)) (sy [125])->Pa T n (.bs o) s (.s a) s'->(a=o++l/\s'=gt s (aV ps).length)∨s'.er=4
theorem zZ{l:List St}(h:D0 T l ps)(h0:s.er=0)(hM:Mt T s.i (sy [123]::(aV ps++[sy [125]])))(hp:Pa T n .bl s (.s r) s'):
  (r=l/\s'=gt s ((aV ps).length+2))∨s'.er=4:=by
 obtain⟨m1,m2⟩:=mt_cons.1 hM;obtain⟨m3,m4⟩:=mt_app.1 m2;have m5:=(mt_cons.1 m4).1;cases hp using Pa_i with
 | blk n s a s1 h1=>
  rcases kg m1 h0 with h2|h2
  ·rw[h2]at h1;rcases h [] ⟨s.i+1,s.op+1,0,s.pl⟩ _ _ _ rfl m3 m5 h1 with⟨rfl,rfl⟩|h4
   ·refine .inl ⟨rfl,?_⟩;rw[mO (s:=gt ⟨s.i+1,s.op+1,0,s.pl⟩ (aV ps).length) m5 rfl];show(⟨s.i+1+(aV ps).length+1,s.op+1-1,0,s.pl⟩:PS)=⟨s.i+((aV ps).length+2),s.op,s.er,s.pl⟩;rw[h0,show s.op+1-1=s.op by omega,show s.i+1+(aV ps).length+1=s.i+((aV ps).length+2) by omega]
   ·exact .inr (cM (bG _ _) h4)
  ·exact .inr (cM (bG _ _) (cM h1.dm h2))
def els:List UInt8:=[101,108,115,101]
def FP(T:Nat->To)(r:List St)(ps:List Lm):Prop:=∀(s:PS) (n:Nat) (a:List St) (s':PS),s.er=0->Mt T s.i (aV ps)->aC T els (nx (s.i+(aV ps).length))=false->Pa T n .st s (.s a) s'->(a=r/\s'=gt s (aV ps).length)∨s'.er=4
def FA(T:Nat->To)(ps:List Lm):Prop:=∀s:PS,s.er=0->Mt T s.i (aV ps)->aC T els s=false/\aC T [125] s=false
theorem CF{a:List St}(h:Pa T n .st s (.s a) s'):∃m,n=m+1:=by
 cases n with
 | zero=>cases h using Pa_i
 | succ m=>exact⟨m,rfl⟩
theorem ct{x:List UInt8}(h:Tm (T s.i) (wd w))(h0:s.er=0)(hx:w≠x):aC T x s=false:=by
 rw[ka h h0];simpa using hx
theorem iS(h:Tm (T s.i) (wd w))(h0:s.er=0):aC T w s=true:=by
 rw[ka h h0];simp
theorem vr.not(h:vr T s)(hi:aC T w s=true)(hw:w=[105,110,116]∨w=[105,102]∨w=[119,104,105,108,101]∨w=[114,101,116,117,114,110]∨w=[111,117,116]):False:=by
 rcases hw with rfl|rfl|rfl|rfl|rfl
 ·rw[h.int]at hi;cases hi
 ·rw[h.fi]at hi;cases hi
 ·rw[h.wh]at hi;cases hi
 ·rw[h.re]at hi;cases hi
 ·rw[h.ou]at hi;cases hi
theorem lL{s:St}(h1:s.kind=t.kind)(h2:s.name=t.name)(h3:s.e=t.e)(h4:s.f=t.f)(h5:s.thn=t.thn)(h6:s.els=t.els):s=t:=by
 cases s;cases t;simp_all
structure Ff (s:St):Prop where
 nm:s.kind<=3->aK s.name=true
 no:3<s.kind->s.name=tx []
 f:s.kind≠3->s.f=[]
 th:s.kind≠4->s.kind≠5->s.thn=0
 el:s.kind≠4->s.els=0
 ca:s.kind=8->(ay s.e).kind=4
theorem bare{s:St}(h:stmtB s=true):Ff s:=by
 have hg:=pi h;unfold stmtB at h;simp only[Bool.and_eq_true,decide_eq_true_eq]at h;obtain⟨⟨⟨⟨⟨⟨h1,h2⟩,h3⟩,h4⟩,h5⟩,h6⟩,h7⟩:=h;refine⟨fun hk=>by rw[if_pos hk]at h2;exact h2,fun hk=>?_,hg.nof,fun a b=>?_,fun a=>?_,fun hk=>?_⟩
 ·rw[if_neg o_]at h2;have e:s.name.toList=s.name.data.toList:=ByteArray.toList_eq _;have h2:s.name.toList=[]:=by simpa using h2
  rw[e]at h2;have:=dw s.name;rw[h2]at this;exact this.symm
 ·simp[a,b]at h6;exact h6
 ·simp[a]at h7;exact h7
 ·have hl:=ku h3;simp[hk]at h5;rw[co _ hl];unfold eQ at h5;simpa[List.getLast?_eq_getElem?,List.getElem?_eq_getElem (show s.e.length-1<s.e.length by omega)]using h5
end
end
section
open Go.RowKit
theorem CG{G:GT}(hL:ft G.T G.K){n:Nat}(hE:l9 G n){w:World}{s:PS}{a:List Nd}{s1:PS}(hS:aN G w s)(Js:eu n s)(Jy:a.length<=1000000)(hi:aC G.T [114,101,116,117,114,110] s=true)(hp:Pa G.T n (.e 1) s.ad (.n a) s1):
  Calls prog 83 #[.pointer (some ⟨G.P,0,none⟩)] w (pJ G w [⟨6,tx [],a,[],0,0⟩] (bq G.T [59] s1)):=by
 have HL:=ah hL;have Jw:=ah hS.lt;have hT:=am.refl (fun k=>k=G.P) w;have h1:aC G.T [105,110,116] s=false:=bE hi d_;have h2:aC G.T [105,102] s=false:=bE hi d_;have h3:aC G.T [119,104,105,108,101] s=false:=bE hi d_;have HE:=ah fun W (hW:aN G W s.ad)=>hE W 1 s.ad a s1 hp Jy Js hW;clear hE hp Js;go_enter func83,ntmps83;go_wp2_with fail;refine(aE hS [105,110,116]).mono ?_;rintro e w1 ⟨rfl,Jb⟩;rw[h1];have Jg:=aN.below hS Jb;have Jk:=am.of_below hT Jb;clear Jb;go_wp2_with fail;refine(aE Jg [105,102]).mono ?_;rintro e w2 ⟨rfl,Ja⟩;rw[h2];have Jd:=aN.below Jg Ja;have Jo:=am.of_below Jk Ja;clear Ja;go_wp2_with fail;refine(aE Jd [119,104,105,108,101]).mono ?_;rintro e w3 ⟨rfl,Jc⟩;rw[h3];have Jf:=aN.below Jd Jc;have Je:=am.of_below Jo Jc;clear Jc;obtain⟨W4,Jm⟩:=q_ (w3.alloc (.cells #[.int .i64 6,.string ⟨#[]⟩,.slice none 0 0,.slice none 0 0,.int .i64 0,.int .i64 0] 46));obtain⟨M,hM⟩:=q_ w3.heap.size;have h4:=fW Jf Je Jw.out 6 Jm hM;have Jv:=ah Jm;have HM:=ah hM;clear Jm hM Jf Je;go_upto_region 20 with fail;rw[<-Jv.out,<-HM.out];go_wp2_with fail;refine(aE h4.st [114,101,116,117,114,110]).mono ?_;rintro e w5 ⟨rfl,Jh⟩;rw[hi];have h5:=h4.below Jh;clear Jh;obtain⟨⟨Jn,Ji⟩,q1,f1,Ju⟩:=h5.st.adv (fQ HL.out h5.st.wf hi);obtain⟨W6,Jp⟩:=q_ (w5.setCell ⟨G.P,1,none⟩ (.int .i64 ((s.i:Int)+1)));rw[<-Jp]at Jn Ji;have h6:=h5.step Jn Ji;have Jx:=ah Jp;clear Jp Jn Ji;go_upto_region 22 with fail;rw[<-Jx.out];clear q1 f1 Ju;go_wp2_with fail;refine(HE.out W6 h6.st).mono ?_;rintro e w7 ⟨u7,rfl,Jl,z7,t7⟩;obtain⟨ad,cp,rfl,-⟩:=au Jl;have h7:=h6.step z7 t7;have hB:=h6;clear z7 t7;obtain⟨X8,Jj⟩:=q_ (w7.setCell ⟨M,2,none⟩ (.slice ad a.length cp));obtain⟨h8,tX⟩:=h7.put 2 (.slice ad a.length cp) Jj;have c1:=(h7.q (j:=2) rfl).1;have f1:=(h7.q (j:=2) rfl).2;simp only[List.set_cons_zero,List.set_cons_succ]at h8;have Jt:=ah Jj;clear Jj;go_upto_region 23 with fail;rw[<-Jt.out];clear c1 f1;have Jq:=hB.row Jl tX;clear Jl tX;go_wp2_with fail;refine(ey HL.out h8.st [59]).mono ?_;rintro e w9 ⟨rfl,z9,t9⟩;have h9:=h8.step z9 t9;have Jr:=hB.row2 Jq t9;have HF:=ah (h9.fin Jr.2 (fun W _=>aM W));clear z9 t9 Jr Jq;have q0:=(h9.q (j:=0) rfl).1;have q1:=(h9.q (j:=1) rfl).1;have q2:=(h9.q (j:=2) rfl).1;have q3:=(h9.q (j:=3) rfl).1;have q4:=(h9.q (j:=4) rfl).1;have q5:=(h9.q (j:=5) rfl).1;clear h9;go_wp2;go_ret;exact HF
end
section
open Go.RowKit
theorem D1{G:GT}(hL:ft G.T G.K){n:Nat}(hC:AY G n)(hB:Dp G n){w:World}{s:PS}{a:List Nd}{b:List St}{s1 s2:PS}(hS:aN G w s)(Xf:eu n s)(hi:aC G.T [105,102] s=true)(hp:Pa G.T n (.pr [40] [41]) s.ad (.n a) s1)(hb:Pa G.T n .bl s1 (.s b) s2)(Xg:fJ (⟨4,tx [],a,[],(b.length:Int),0⟩::b)<=1000000)(he:aC G.T [101,108,115,101] s2=false):
  Calls prog 83 #[.pointer (some ⟨G.P,0,none⟩)] w (pJ G w (⟨4,tx [],a,[],(b.length:Int),0⟩::b) s2):=by
 have HL:=ah hL;have Xw:=ah hS.lt;have hT:=am.refl (fun k=>k=G.P) w;have h1:aC G.T [105,110,116] s=false:=bE hi d_;have h2:aC G.T [119,104,105,108,101] s=false:=bE hi d_;have Yf:=ei b;have Xy:=ah fun W (hW:aN G W s.ad)=>hC W s.ad a s1 hp (by simp only[szS_cons,szS_app]at Xg;omega) Xf hW;have Xu:=ah fun W (hW:aN G W s1)=>hB W s1 b s2 hb (by simp only[szS_cons,szS_app]at Xg;omega) (eu.of Xf hp.op) hW;simp only[szS_cons,szS_app]at Xg;clear hC hB hp hb Xf;go_enter func83,ntmps83;go_wp2_with fail;refine(aE hS [105,110,116]).mono ?_;rintro e w1 ⟨rfl,Jj⟩;rw[h1];have Jl:=aN.below hS Jj;have Jy:=am.of_below hT Jj;clear Jj;go_wp2_with fail;refine(aE Jl [105,102]).mono ?_;rintro e w2 ⟨rfl,Jh⟩;rw[hi];have Jn:=aN.below Jl Jh;have Jo:=am.of_below Jy Jh;clear Jh;obtain⟨W3,Jv⟩:=q_ (w2.alloc (.cells #[.int .i64 4,.string ⟨#[]⟩,.slice none 0 0,.slice none 0 0,.int .i64 0,.int .i64 0] 46));obtain⟨M,hM⟩:=q_ w2.heap.size;have h3:=fW Jn Jo Xw.out 4 Jv hM;have Xz:=ah Jv;have HM:=ah hM;clear Jv hM Jn Jo;go_upto_region 7 with fail;rw[<-Xz.out,<-HM.out];go_wp2_with fail;refine(aE h3.st [119,104,105,108,101]).mono ?_;rintro e w4 ⟨rfl,Jk⟩;rw[h2];have h4:=h3.below Jk;clear Jk;obtain⟨⟨J_,Xd⟩,q1,f1,Xp⟩:=h4.st.adv (fQ HL.out h4.st.wf hi);obtain⟨W5,Xe⟩:=q_ (w4.setCell ⟨G.P,1,none⟩ (.int .i64 ((s.i:Int)+1)));rw[<-Xe]at J_ Xd;have h5:=h4.step J_ Xd;have X_:=ah Xe;clear Xe J_ Xd;go_upto_region 10 with fail;rw[<-X_.out];clear q1 f1 Xp;go_wp2_with fail;refine(Xy.out W5 h5.st).mono ?_;rintro e w7 ⟨u7,rfl,Jz,z7,t7⟩;obtain⟨ad,cp,rfl,-⟩:=au Jz;have h7:=h5.step z7 t7;clear z7 t7;obtain⟨X8,Jx⟩:=q_ (w7.setCell ⟨M,2,none⟩ (.slice ad a.length cp));obtain⟨h8,tX⟩:=h7.put 2 (.slice ad a.length cp) Jx;have c1:=(h7.q (j:=2) rfl).1;have f1:=(h7.q (j:=2) rfl).2;simp only[List.set_cons_zero,List.set_cons_succ]at h8;have Xx:=ah Jx;clear Jx;go_upto_region 11 with fail;rw[<-Xx.out];clear c1 f1;have Xi:=h5.row Jz tX;have Xv:=h5.m;have Ya:=h5.t.size;clear Jz tX;go_wp2_with fail;refine(Xu.out X8 h8.st).mono ?_;rintro e Jm ⟨Yd,rfl,Xc,Xj,Jq⟩;obtain⟨ab,cb,rfl⟩:=Xc.shape;have h11:=h8.step Xj Jq;obtain⟨W12,Ja⟩:=q_ (Jm.alloc (.cells #[] 46));obtain⟨Yb,Jg⟩:=q_ Jm.heap.size;have Xh:Bl Jm W12:=by rw[Ja];exact r_.alloc n_ _
 have Xq:SQ Jm.heap.size W12 (.slice (some ⟨Yb,0,none⟩) 0 0) []:=by rw[Ja,Jg];exact nV Jm _ n_
 have h12:=h11.below Xh;have Xb:=ah Ja;have Jt:=ah Jg;clear Xj Ja Jg;have c0:=(h12.q (j:=0) rfl).1;go_upto_region 13 with fail;rw[<-Xb.out,<-Jt.out];go_wp2_with fail;refine(aE h12.st [101,108,115,101]).mono ?_;rintro e w13 ⟨rfl,Jc⟩;rw[he];have Js:=h12.below Jc;have c12:am (fun k=>k=G.P∨k=M) W12 w13:=am.of_below (am.refl _ _) Jc;obtain⟨Xt,Je⟩:=q_ (w13.setCell ⟨M,4,none⟩ (.int .i64 (b.length:Int)));obtain⟨Jp,Xr⟩:=Js.put 4 (.int .i64 (b.length:Int)) Je;have c1:=(Js.q (j:=4) rfl).1;have f1:=(Js.q (j:=4) rfl).2;simp only[List.set_cons_zero,List.set_cons_succ]at Jp;have Ju:=ah Je;clear Je;go_upto_region 17 with fail;rw[<-Ju.out];clear c1 f1;obtain⟨Xk,Jd⟩:=q_ (Xt.setCell ⟨M,5,none⟩ (.int .i64 0));obtain⟨Jb,Xm⟩:=Jp.put 5 (.int .i64 0) Jd;have c1:=(Jp.q (j:=5) rfl).1;have f1:=(Jp.q (j:=5) rfl).2;simp only[List.set_cons_zero,List.set_cons_succ]at Jb;have Jw:=ah Jd;clear Jd;go_upto_region 18 with fail;rw[<-Jw.out];clear c1 f1;replace c12:=(c12.trans Xr.pm2).trans Xm.pm2;obtain⟨Ye,Jf⟩:=q_ (Xk.alloc (.cells #[.int .i64 4,.string ⟨#[]⟩,.slice ad a.length cp,.slice none 0 0,.int .i64 (b.length:Int),.int .i64 (0)] 46));obtain⟨Yc,Ji⟩:=q_ Xk.heap.size;obtain⟨v1,Xl,v2,Xn,r1,r2,hF⟩:=qR _ _ Jb h8 Xv Ya Xi Xc Jq Xq (am.refl _ _) Xh.tcs c12 Jf (by first|omega|(simp only[l_n];omega));rw[<-Ji]at r1;have Xo:=ah r1;have Xs:=ah r2;have HF:=ah hF;have Xa:=ah Jf;have Jr:=ah Ji;have q0:=(Jb.q (j:=0) rfl).1;have q1:=(Jb.q (j:=1) rfl).1;have q2:=(Jb.q (j:=2) rfl).1;have q3:=(Jb.q (j:=3) rfl).1;have q4:=(Jb.q (j:=4) rfl).1;have q5:=(Jb.q (j:=5) rfl).1;clear r1 r2 hF Jf Ji Jb h8 Xi Xc Jq c12;go_wp2_with(at_builtin;first|(refine ao rfl (.tmp 74) (.tmp 75) _ rfl _ _ v1 Xl rfl rfl (by rw[<-Xa.out,<-Jr.out];exact Xo) ?_)|(refine ao rfl (.tmp 76) (.tmp 77) _ rfl _ _ v2 Xn rfl rfl Xs.out ?_));go_ret;have hF:=HF.out;rw[List.append_nil]at hF;exact hF
end
section
open Go.RowKit
variable{W W3 wr:World}{b g len cap F T q pm py B L bn bc:Nat}{a px ba:Option Addr}{nm:ByteArray}{cs qs:List ByteArray}
def globs4:List Gl:=[⟨⟨#[103]⟩,0⟩,⟨⟨#[97]⟩,8⟩,⟨⟨#[104]⟩,0⟩,⟨⟨#[98]⟩,2⟩]
def lM:List Value:=[.string ⟨#[103]⟩,.int .i64 0,.string ⟨#[97]⟩,.int .i64 8,.string ⟨#[104]⟩,.int .i64 0,.string ⟨#[98]⟩,.int .i64 2]
def n7:List Value:=[.string ⟨#[102]⟩,.string ⟨#[107]⟩,.string ⟨#[100,101,101,112]⟩,.string ⟨#[120,49]⟩]
theorem xP(h:aR W b lM):dL W (.slice (some ⟨b,0,none⟩) 4 4) globs4:=by
 refine⟨_,4,rfl,d_,d_,fun _=>⟨b,0,rfl,fun j hj=>?_⟩⟩;have Ja:j<4:=hj;have:j=0∨j=1∨j=2∨j=3:=o_;rcases this with rfl|rfl|rfl|rfl
 ·exact⟨(h 0 _ rfl).1,(h 1 _ rfl).1⟩
 ·exact⟨(h 2 _ rfl).1,(h 3 _ rfl).1⟩
 ·exact⟨(h 4 _ rfl).1,(h 5 _ rfl).1⟩
 ·exact⟨(h 6 _ rfl).1,(h 7 _ rfl).1⟩
theorem xQ{j:Nat}(h:aR W b n7)(hj:j<4):∃s,W.cell? ⟨b,j,none⟩=some (.string s)/\s.size<=100000:=by
 have:j=0∨j=1∨j=2∨j=3:=by omega
 rcases this with rfl|rfl|rfl|rfl
 ·exact⟨_,(h 0 _ rfl).1,d_⟩
 ·exact⟨_,(h 1 _ rfl).1,d_⟩
 ·exact⟨_,(h 2 _ rfl).1,d_⟩
 ·exact⟨_,(h 3 _ rfl).1,d_⟩
theorem qT(w:World):∃W1,W1=(((w.alloc (.cells #[.slice none 0 0,.slice none 0 0] 26)).alloc (.cells #[.string ⟨#[103]⟩,.int .i64 0,.string ⟨#[97]⟩,.int .i64 8,.string ⟨#[104]⟩,.int .i64 0,.string ⟨#[98]⟩,.int .i64 2] 74)).alloc (.cells #[.slice (some ⟨w.heap.size+1,0,none⟩) 4 4,.slice none 0 0] 26)).alloc (.cells #[.string ⟨#[102]⟩,.string ⟨#[107]⟩,.string ⟨#[100,101,101,112]⟩,.string ⟨#[120,49]⟩] 9) /\
  aR W1 w.heap.size [.slice none 0 0,.slice none 0 0]/\aR W1 (w.heap.size+1) lM/\aR W1 (w.heap.size+2) [.slice (some ⟨w.heap.size+1,0,none⟩) 4 4,.slice none 0 0]/\aR W1 (w.heap.size+3) n7/\Below w.heap.size w W1/\W1.heap.size=w.heap.size+4:=by
 refine⟨_,rfl,?_,?_,?_,?_,?_,i_⟩
 ·exact(((aJ w _ _ d_).below (aD _ _)).below (aD _ _)).below (aD _ _)
 ·have:=((aJ (w.alloc (.cells #[.slice none 0 0,.slice none 0 0] 26)) #[.string ⟨#[103]⟩,.int .i64 0,.string ⟨#[97]⟩,.int .i64 8,.string ⟨#[104]⟩,.int .i64 0,.string ⟨#[98]⟩,.int .i64 2] 74 d_).below (r_.alloc n_ (.cells #[.slice (some ⟨w.heap.size+1,0,none⟩) 4 4,.slice none 0 0] 26))).below (r_.alloc n_ (.cells #[.string ⟨#[102]⟩,.string ⟨#[107]⟩,.string ⟨#[100,101,101,112]⟩,.string ⟨#[120,49]⟩] 9))
  simp only[World.size_alloc]at this;exact this
 ·have:=(aJ ((w.alloc (.cells #[.slice none 0 0,.slice none 0 0] 26)).alloc (.cells #[.string ⟨#[103]⟩,.int .i64 0,.string ⟨#[97]⟩,.int .i64 8,.string ⟨#[104]⟩,.int .i64 0,.string ⟨#[98]⟩,.int .i64 2] 74)) #[.slice (some ⟨w.heap.size+1,0,none⟩) 4 4,.slice none 0 0] 26 i_).below (r_.alloc n_ (.cells #[.string ⟨#[102]⟩,.string ⟨#[107]⟩,.string ⟨#[100,101,101,112]⟩,.string ⟨#[120,49]⟩] 9))
  simp only[World.size_alloc]at this;exact this
 ·have:=aJ (((w.alloc (.cells #[.slice none 0 0,.slice none 0 0] 26)).alloc (.cells #[.string ⟨#[103]⟩,.int .i64 0,.string ⟨#[97]⟩,.int .i64 8,.string ⟨#[104]⟩,.int .i64 0,.string ⟨#[98]⟩,.int .i64 2] 74)).alloc (.cells #[.slice (some ⟨w.heap.size+1,0,none⟩) 4 4,.slice none 0 0] 26)) #[.string ⟨#[102]⟩,.string ⟨#[107]⟩,.string ⟨#[100,101,101,112]⟩,.string ⟨#[120,49]⟩] 9 d_
  simp only[World.size_alloc]at this;exact this
 ·exact(((aD _ _).alloc i_ _).alloc (by simp;omega) _).alloc (by simp;omega) _
def Sx(g T q:Nat):Nat->Prop:=fun k=>k=g∨k=T∨k=q
structure LI (g:Nat) (a:Option Addr) (len cap T q GL M:Nat) (W2 wr:World) (j:Nat):Prop where
 cur:dP g a len cap wr
 tcs:am (Sx g T q) W2 wr
 ex:∃fa fn fc Q,aR wr T [.slice (some ⟨GL,0,none⟩) 4 4,.slice fa fn fc]/\FR (fun k=>k<M) M wr (.slice fa fn fc) Q/\Q.length=j/\∃ca cn cc pa pn pc,∃(cs:List ByteArray) (ps:List Int),aR wr q [.slice ca cn cc,.slice pa pn pc,.slice none 0 0,.slice none 0 0,.int .i64 0]/\(∀W,am (Sv (Sx g T q) (.slice fa fn fc)) wr W->Strs W (.slice ca cn cc) cs/\Ints W (.slice pa pn pc) ps)/\cs.length=j/\ps.length=j/\(∀x∈ps,0<=x/\x<=6)/\∀x∈cs,x.size<=100000
structure PI (g:Nat) (a:Option Addr) (len cap F:Nat) (nm:ByteArray) (W3 wx:World) (k:Nat):Prop where
 cur:dP g a len cap wx
 tcs:am (fun b=>b=g∨b=F) W3 wx
 ex:∃pa pn pc,∃ps:List ByteArray,aR wx F [.string nm,.slice pa pn pc,.slice none 0 0]/\wx.ownsRow W3.heap.size 9 1 (.slice pa pn pc) ps.length (ps.map Value.string)/\ps.length=k/\∀x∈ps,x.size<=100000
theorem xR(s t:ByteArray):(s++t).size=s.size+t.size:=ByteArray.size_append
theorem qU{k:Nat}(h:PI g a len cap F nm W3 wr k)(hF:g<F/\F<W3.heap.size)(hL:Lo g a len (S0 g) F)(hk:k<=10)(A:ByteArray)(hA:A.size<=1000)(pa:Option Addr)(pn pc:Nat)(hy:wr.cell? ⟨F,1,none⟩=some (.slice pa pn pc))(P2:Obj):
  ∀w6 s w7,s.size<=1->Dr g a len cap (S0 g) (wr.drew.alloc P2) w6->Below w6.heap.size w6 w7->∃va vn vc w8,(Builtin.append_ #[40,40] 40 #[.slice pa pn pc,.slice (some ⟨w7.heap.size,0,none⟩) 1 1]).run prog (w7.alloc (.cells #[.string (s++A)] 9))=.ok (.slice va vn vc) w8/\(w6.cell? ⟨F,1,none⟩=some (.slice pa pn pc)/\w7.cell? ⟨F,1,none⟩=some (.slice pa pn pc)/\(w7.alloc (.cells #[.string (s++A)] 9)).cell? ⟨F,1,none⟩=some (.slice pa pn pc))/\w8.cell? ⟨F,1,none⟩=some (.slice pa pn pc)/\w8.frozen? ⟨F,1,none⟩=false/\PI g a len cap F nm W3 (w8.setCell ⟨F,1,none⟩ (.slice va vn vc)) (k+1):=by
 intro w6 s w7 hs hd hb;obtain⟨Jn,ht,Jl,Jm,Jo,ps,hf,ho,Jk,Jj⟩:=h;have e:=(hf 1 _ rfl).1;rw[hy]at e;simp only[Option.some.injEq]at e;rw[<-e]at hf ho;have Jb:F<wr.heap.size:=l_ hF.2 ht.size;have nF:¬S0 g F:=fun e=>by have:F=g:=e;omega
 have t6:am (S0 g) wr w6:=(((am.refl (S0 g) wr).drew).alloc P2).trans hd.tcs;have t7:am (S0 g) wr w7:=t6.of_below hb;have Ja:am (S0 g) wr (w7.alloc (.cells #[.string (s++A)] 9)):=t7.alloc _;have f6:=hf.tcs Jb t6 nF;have f7:=hf.tcs Jb t7 nF;have Jd:=hf.tcs Jb Ja nF;have Je:∀k,S0 g k->k<W3.heap.size:=fun k hk=>by have:k=g:=hk;omega
 have o7:=az ho Ja Je;obtain⟨i0,hi,Jg,Ji,Jh⟩:=info_parts gA;have Jc:(w7.alloc (.cells #[.string (s++A)] 9)).ownsRow w7.heap.size 9 1 (.slice (some ⟨w7.heap.size,0,none⟩) 1 1) 1 [.string (s++A)]:=World.ownsRow_lit w7 #[.string (s++A)] 1 n_ d_ rfl;obtain⟨v8,w8,r8,o8,g8,-⟩:=bS (P:=prog) (w:=w7.alloc (.cells #[.string (s++A)] 9)) W3.heap.size 40 40 9 i0 _ 1 16 underlying40 hi Jg Ji Jh rfl d_ (.slice pa pn pc) _ _ o7 (some ⟨w7.heap.size,0,none⟩) 1 1 [.string (s++A)] (fun e=>by cases e) rfl (fun ad had j u hu=>by cases had;exact World.ownsRow.cells Jc (g:=w7.heap.size) rfl j u hu) (fun u hu=>by simp at hu;subst hu;rfl) o_ d_ (t_ ht.size Ja.size);obtain⟨va,vc,rfl,-⟩:=au o8;have t8:am (fun k=>W3.heap.size<=k) (w7.alloc (.cells #[.string (s++A)] 9)) w8:=am.of_grown g8 (fun k hk=>(World.ownsRow.lt o7 k hk).1);have Jf:F<(w7.alloc (.cells #[.string (s++A)] 9)).heap.size:=l_ Jb Ja.size;have f8:=Jd.tcs Jf t8 o_;refine⟨va,_,vc,w8,r8,⟨(f6 1 _ rfl).1,(f7 1 _ rfl).1,(Jd 1 _ rfl).1⟩,(f8 1 _ rfl).1,(f8 1 _ rfl).2,?_,?_,va,ps.length+1,vc,ps++[s++A],?_,?_,by simp[Jk],fun x hx=>?_⟩
 ·have c8:dP g a len cap w8:=((hd.cur.below hb).alloc _).new (hL.mono (Nat.le_of_lt hF.2)) t8 (fun k hk=>hk);exact c8.keep ((am.refl (fun k=>k=F) w8).setCell (p:=⟨F,1,none⟩) rfl _) o_ (fun b off x y e=>by have:=(hL.by8 b off x y).1;omega)
 ·refine((ht.trans (Ja.mono fun k hk=>.inl hk)).next t8 (fun k hk=>.inr hk)).setCell (p:=⟨F,1,none⟩) (.inr rfl) _
 ·exact f8.set 1 _
 ·have e1:(ps++[s++A]).length=ps.length+1:=i_
  have e2:(ps++[s++A]).map Value.string=ps.map Value.string++[.string (s++A)]:=i_;rw[e1,e2];refine az o8 ((am.refl (fun k=>k=F) w8).setCell (p:=⟨F,1,none⟩) rfl _) (fun k hk=>by omega)
 ·rcases List.mem_append.1 hx with hx|hx
  ·exact Jj x hx
  ·simp only[List.mem_singleton]at hx;subst hx;rw[xR];omega
def S5(g T q F I:Nat)(v:Value):Nat->Prop:=fun k=>k=g∨k=T∨k=q∨k=F∨k=I∨v.ownBlock=some k
theorem z_{I:Nat}{wx:World}{vF:Value}{ca pa:Option Addr}{cn cc pn pc:Nat}{ps:List Int} 
  (Je:∀W,am (Sv (Sx g T q) vF) wr W->Strs W (.slice ca cn cc) cs/\Ints W (.slice pa pn pc) ps) (hl:ps.length=cs.length/\cs.length<=4) (Jf:(∀x∈ps,0<=x/\x<=6)/\∀x∈cs,x.size<=100000)
  (hb:Below wr.heap.size wr W3) (hF:F=wr.heap.size) (hI:I=wr.heap.size+1) (hs:W3.heap.size=wr.heap.size+2) (Jh:aR W3 I [.slice ca cn cc,.slice pa pn pc,.slice none 0 0,.slice none 0 0,.int .i64 0]) (Jj:∀j,W3.frozen? ⟨I,j,none⟩=false)
  (Ji:dP g a len cap wx) (ht:am (fun b=>b=g∨b=F) W3 wx) (ho:wx.ownsRow W3.heap.size 9 1 (.slice px pm py) qs.length (qs.map Value.string)) (Jm:qs.length<=6) (Jg:∀x∈qs,x.size<=100000)
  (Jl:g<T/\T<wr.heap.size/\g<q/\q<wr.heap.size) (hL:Lo g a len (S0 g) T) (Jn:T<q) (hv:∀k,vF.ownBlock=some k->q<k/\k<wr.heap.size):
  GS g a len cap I (S5 g T q F I vF) (wx.setCell ⟨I,2,none⟩ (.slice px pm py)) ⟨.slice ca cn cc,.slice pa pn pc,.slice px pm py,.slice none 0 0,0,cs,ps,qs,[]⟩ 10/\aR wx I [.slice ca cn cc,.slice pa pn pc,.slice none 0 0,.slice none 0 0,.int .i64 0]:=by
 have Jc:aR wx I [.slice ca cn cc,.slice pa pn pc,.slice none 0 0,.slice none 0 0,.int .i64 0]:=Jh.tcs o_ ht (fun e=>by rcases e with e|e <;> omega);have Jk:=ht.size;have h5:∀k,S5 g T q F I vF k->k<W3.heap.size:=fun k hk=>by
  rcases hk with h|h|h|h|h|h
  ·omega
  ·omega
  ·omega
  ·omega
  ·omega
  ·have:=(hv k h).2;omega
 refine⟨?_,Jc⟩;have Jb:am (S5 g T q F I vF) wx (wx.setCell ⟨I,2,none⟩ (.slice px pm py)):=(am.refl _ _).setCell (p:=⟨I,2,none⟩) (.inr (.inr (.inr (.inr (.inl rfl))))) _;have Ja:=Jc.set 2 (.slice px pm py);refine⟨?_,⟨(Ja 0 _ rfl).1,(Ja 1 _ rfl).1,(Ja 2 _ rfl).1,(Ja 3 _ rfl).1,(Ja 4 _ rfl).1,fun j=>?_⟩,eO.tcs (w:=wx) ?_ Jb,⟨?_,.inl rfl,fun b off x y=>?_,fun k hk=>?_⟩,.inr (.inr (.inr (.inr (.inl rfl)))),o_⟩
 ·exact Ji.keep ((am.refl (fun k=>k=I) wx).setCell (p:=⟨I,2,none⟩) rfl _) o_ (fun b off x y e=>by have:=(hL.by8 b off x y).1;omega)
 ·rw[World.frozen?_setCell];exact(World.frozen?_of_block (a:=⟨I,j,none⟩) (ht.block I o_ (fun e=>by rcases e with e|e <;> omega))).trans (Jj j)
 ·have Jd:∀W,am (S5 g T q F I vF) wx W->am (Sv (Sx g T q) vF) wr W:=fun W hW=>by
   have h1:am (Sv (Sx g T q) vF) wr wx:=(hb.tcs (S:=Sv (Sx g T q) vF)).next ht (fun k hk=>by
    rcases hk with hk|hk
    ·exact .inl (.inl (.inl hk))
    ·exact .inr o_)
   refine h1.next hW fun k hk=>?_;rcases hk with h|h|h|h|h|h
   ·exact .inl (.inl (.inl h))
   ·exact .inl (.inl (.inr (.inl h)))
   ·exact .inl (.inl (.inr (.inr h)))
   ·exact .inr o_
   ·exact .inr o_
   ·exact .inl (.inr h)
  exact⟨fun W hW=>(Je W (Jd W hW)).1,fun W hW=>(Je W (Jd W hW)).2,fun W hW=>e_ (az ho hW h5),fun W _=>⟨none,0,rfl,n_,o_,fun h=>absurd h (Nat.lt_irrefl _)⟩,hl.1,by show cs.length<=10;omega,Jf.1,⟨Jf.2,Jg,fun x hx=>by cases hx⟩,by show qs.length<=10;omega,y_,by show(0:Int)<=0/\(0:Int)<=10;omega⟩
 ·have:(wx.setCell ⟨I,2,none⟩ (.slice px pm py)).heap.size=wx.heap.size:=by simp
  omega
 ·have h8:=hL.by8 b off x y;have:(wx.setCell ⟨I,2,none⟩ (.slice px pm py)).heap.size=wx.heap.size:=i_
  refine⟨o_,fun e=>?_⟩;rcases e with h|h|h|h|h|h
  ·exact h8.2 h
  ·omega
  ·omega
  ·omega
  ·omega
  ·have:=(hv b h).1;omega
 ·have:(wx.setCell ⟨I,2,none⟩ (.slice px pm py)).heap.size=wx.heap.size:=by simp
  have:=h5 k hk
  omega
theorem GS.side{S:Nat->Prop}{w:World}{G:Gn}{K:Nat}(h:GS g a len cap q S w G K){o:Nat}{v:Value}(hb:S b)(hg:b≠g)(hq:b≠q):GS g a len cap q S (w.setCell ⟨b,o,none⟩ v) G K:=by
 have ht:am (fun k=>k=b) w (w.setCell ⟨b,o,none⟩ v):=(am.refl (fun k=>k=b) w).setCell (p:=⟨b,o,none⟩) rfl v;exact⟨h.cur.keep ht (fun e=>hg e.symm) (fun b' off x y e=>(h.lo.by8 b' off x y).2 (e ▸ hb)),h.box.keep (ht.block q h.box.lt (fun e=>hq e.symm)),h.ok.tcs (ht.mono fun k hk=>hk ▸ hb),h.lo.mono ht.size,h.sq,h.ne⟩
theorem uw{Jl:Value}{Ja:World}{Rb:List SV}(hf:aR Ja F [.string nm,Jl,.slice ba bn bc])(hr:SR B Ja (.slice ba bn bc) Rb L)(hB:F<B/\B<=Ja.heap.size)(hg:g<F)(hL:Lo g a len (S0 g) F)(Jt:L<=1000):
  ∀w14 ua un uc ns,aF Ja.heap.size w14 (.slice ua un uc) ns->bI ns 400->Dr g a len cap (S0 g) Ja.drew w14->∃va vn vc w15,(Builtin.append_ #[41,41] 41 #[.slice ba bn bc,.slice (some ⟨w14.heap.size,0,none⟩) 1 1]).run prog (w14.alloc (.cells #[.int .i64 6,.string ⟨#[]⟩,.slice ua un uc,.slice none 0 0,.int .i64 0,.int .i64 0] 46))=.ok (.slice va vn vc) w15/\(w14.cell? ⟨F,2,none⟩=some (.slice ba bn bc)/\(w14.alloc (.cells #[.int .i64 6,.string ⟨#[]⟩,.slice ua un uc,.slice none 0 0,.int .i64 0,.int .i64 0] 46)).cell? ⟨F,2,none⟩=some (.slice ba bn bc))/\w15.cell? ⟨F,2,none⟩=some (.slice ba bn bc)/\w15.frozen? ⟨F,2,none⟩=false/\(∃R',SR B (w15.setCell ⟨F,2,none⟩ (.slice va vn vc)) (.slice va vn vc) R' (L+1)/\R'.length=Rb.length+1)/\aR (w15.setCell ⟨F,2,none⟩ (.slice va vn vc)) F [.string nm,Jl,.slice va vn vc]/\dP g a len cap (w15.setCell ⟨F,2,none⟩ (.slice va vn vc))/\am (fun b=>b=g∨b=F∨B<=b) Ja (w15.setCell ⟨F,2,none⟩ (.slice va vn vc)):=by
 intro w14 ua un uc ns hn ho hd;have nF:¬S0 g F:=fun e=>by have:F=g:=e;omega
 have Jm:F<Ja.heap.size:=o_;have Jp:∀k,S0 g k->k<B:=fun k hk=>by have:k=g:=hk;omega
 have Jd:am (S0 g) Ja w14:=((am.refl (S0 g) Ja).drew).trans hd.tcs;have Jk:=hf.tcs Jm Jd nF;obtain⟨o,Js⟩:∃o:Obj,o=.cells #[.int .i64 6,.string ⟨#[]⟩,.slice ua un uc,.slice none 0 0,.int .i64 0,.int .i64 0] 46:=⟨_,rfl⟩;have Je:=Jk.below ((Below.refl w14.heap.size w14).alloc n_ o);have Jg:=(hr.tcs Jd Jp).below ((Below.refl w14.heap.size w14).alloc n_ o);have Jb:=jW (w:=w14) (B:=Ja.heap.size) (kd:=6) (th:=0) (el:=0) (nm:=⟨#[]⟩) (vf:=.slice none 0 0) (f:=[]) Jd.size (bC hn n_) (fun W _=>aM W) (ho.e3 o_) (bI.nil.more y_) d_;rw[<-Js]at Jb⊢;have Ji:B<=(w14.alloc o).heap.size:=by have:=Jd.size;simp;omega
 obtain⟨Jo,w15,Jn,Jj,Jq,-⟩:=ji 41 Jg Jb Ji o_ (iP Jb hB.2 (fun k hk=>(hr.rng k hk).2));obtain⟨va,vn,vc,rfl⟩:∃x y z,Jo=.slice x y z:=by obtain⟨x,y,e⟩:=Jj.shape;exact⟨x,_,y,e⟩
 have Jc:am (fun k=>B<=k) (w14.alloc o) w15:=Jq.mono fun k hk=>(hr.rng k hk).1;have Jf:F<(w14.alloc o).heap.size:=o_
 have Jh:=Je.tcs Jf Jc o_;have tS:am (fun k=>k=F) w15 (w15.setCell ⟨F,2,none⟩ (.slice va vn vc)):=(am.refl (fun k=>k=F) w15).setCell (p:=⟨F,2,none⟩) rfl _;refine⟨va,vn,vc,w15,Jn,⟨(Jk 2 _ rfl).1,(Je 2 _ rfl).1⟩,(Jh 2 _ rfl).1,(Jh 2 _ rfl).2,⟨_,Jj.tcs tS (fun k hk=>by omega),i_⟩,Jh.set 2 _,?_,?_⟩
 ·have Jr:dP g a len cap w15:=(hd.cur.alloc o).new (hL.mono o_) Jc (fun k hk=>hk);exact Jr.keep tS o_ (fun b off x y e=>by have:=(hL.by8 b off x y).1;omega)
 ·exact((((Jd.mono fun k hk=>.inl hk).alloc o).trans (Jc.mono fun k hk=>.inr (.inr hk)))).trans (tS.mono fun k hk=>.inr (.inl hk))
theorem mR{Bp M:Nat}{vG:Value}{fa:Option Addr}{fn fc:Nat}{Ja:World}{Q:List FV}{R':List SV} 
  (hT:aR Ja T [vG,.slice fa fn fc]) (hF:aR Ja F [.string nm,.slice px pm py,.slice ba bn bc]) (Jl:FR (fun k=>k<M) M Ja (.slice fa fn fc) Q) (hQ:Q.length<=10) (Jt:dP g a len cap Ja) (Js:g<T/\T<M/\M<=Ja.heap.size/\M<=F/\F<Ja.heap.size) (hL:Lo g a len (S0 g) T)
  (hp:∀W,am (fun b=>b<Bp) Ja W->Strs W (.slice px pm py) qs) (Ju:M<=Bp) (hq:qs.length<=6/\∀x∈qs,x.size<=100000) (hn:nm.size<=100000) (hr:SR B Ja (.slice ba bn bc) R' L) (Jv:1<=R'.length/\L<=1000) (Jw:M<=B) (Jh:∀k,(Value.slice fa fn fc).ownBlock=some k->k<B/\k<Bp/\k≠F):
  ∃va vn vc w17,(Builtin.append_ #[24,24] 24 #[.slice fa fn fc,.slice (some ⟨Ja.heap.size,0,none⟩) 1 1]).run prog (Ja.alloc (.cells #[.string nm,.slice px pm py,.slice ba bn bc] 43))=.ok (.slice va vn vc) w17/\(w17.cell? ⟨T,1,none⟩=some (.slice fa fn fc)/\w17.frozen? ⟨T,1,none⟩=false)/\aR (w17.setCell ⟨T,1,none⟩ (.slice va vn vc)) T [vG,.slice va vn vc]/\aR (w17.setCell ⟨T,1,none⟩ (.slice va vn vc)) F [.string nm,.slice px pm py,.slice ba bn bc]/\(∃Q',FR (fun k=>k<M) M (w17.setCell ⟨T,1,none⟩ (.slice va vn vc)) (.slice va vn vc) Q'/\Q'.length=Q.length+1)/\dP g a len cap (w17.setCell ⟨T,1,none⟩ (.slice va vn vc))/\(∀W,am (fun b=>b=T∨(Value.slice va vn vc).ownBlock=some b) (w17.setCell ⟨T,1,none⟩ (.slice va vn vc)) W->am (fun b=>b=T∨(Value.slice fa fn fc).ownBlock=some b) Ja W)/\am (fun b=>b=T∨(Value.slice fa fn fc).ownBlock=some b) Ja (w17.setCell ⟨T,1,none⟩ (.slice va vn vc)):=by
 obtain⟨o,Jk⟩:∃o:Obj,o=.cells #[.string nm,.slice px pm py,.slice ba bn bc] 43:=⟨_,rfl⟩;have hb:Bl Ja (Ja.alloc o):=aD _ _;have hc:aR (Ja.alloc o) Ja.heap.size [.string nm,.slice px pm py,.slice ba bn bc]:=by rw[Jk];exact aJ Ja _ _ i_
 have Jg:∀W,am (fun k=>k<M∨(Value.slice fa fn fc).ownBlock=some k) (Ja.alloc o) W->A4 [⟨⟨nm,qs,R'.map (·.s)⟩,.slice px pm py,.slice ba bn bc,R',[],[]⟩] W:=fun W hW x hx=>by
  simp only[List.mem_singleton]at hx;subst hx;have Jp:am (fun b=>b<B) Ja W:=(hb.tcs (S:=fun b=>b<B)).trans (hW.mono fun k hk=>by
   rcases hk with hk|hk
   ·omega
   ·have:=Jh k hk;omega)
  have Jm:am (fun b=>b<Bp) Ja W:=(hb.tcs (S:=fun b=>b<Bp)).trans (hW.mono fun k hk=>by
   rcases hk with hk|hk
   ·omega
   ·have:=Jh k hk;omega)
  exact⟨hp W Jm,hr.rd W Jp,rfl⟩
 have Jo:qS ⟨nm,qs,R'.map (·.s)⟩:=⟨hn,by show qs.length<=20;omega,hq.2,by show 1<=(R'.map (·.s)).length;simp;omega,by show(R'.map (·.s)).length<=10000;have:=hr.len;simp;omega,hr.ok.body⟩;obtain⟨Jn,w17,Jj,Ji,Jd,Jr⟩:=xO 24 (c:=1) (m:=1) (Jl.below hb) (some ⟨Ja.heap.size,0,none⟩) (Q2:=[⟨⟨nm,qs,R'.map (·.s)⟩,.slice px pm py,.slice ba bn bc,R',[],[]⟩]) rfl (fun e=>by cases e) (fun ad had j u hu=>by
  cases had
  rw[gV,Nat.zero_add];exact(hc j u hu).1) (fun x hx=>by simp only[List.mem_singleton]at hx;subst hx;exact⟨rfl,rfl⟩) (fun x hx=>by simp only[List.mem_singleton]at hx;subst hx;exact Jo) Jg (by simp;omega) (by have:=hb.size;omega)
 obtain⟨va,vn,vc,rfl⟩:∃x y z,Jn=.slice x y z:=by obtain⟨x,y,e⟩:=Ji.shape;exact⟨x,_,y,e⟩
 rw[Jk]at Jj;have Jc:am (fun k=>M<=k) (Ja.alloc o) w17:=Jd.mono fun k hk=>(Jl.rng k hk).1;have Jb:=(hT.below hb).tcs (by have:=hb.size;omega) Jc o_;have Jf:=(hF.below hb).tcs (by have:=hb.size;omega) Jd (fun e=>(Jh F e).2.2 rfl);have tS:am (fun k=>k=T) w17 (w17.setCell ⟨T,1,none⟩ (.slice va vn vc)):=(am.refl (fun k=>k=T) w17).setCell (p:=⟨T,1,none⟩) rfl _;have Je:F<w17.heap.size:=by have:=hb.size;have:=Jd.size;omega
 have tA:am (fun b=>b=T∨(Value.slice fa fn fc).ownBlock=some b) Ja (w17.setCell ⟨T,1,none⟩ (.slice va vn vc)):=((hb.tcs (S:=fun b=>b=T∨(Value.slice fa fn fc).ownBlock=some b)).trans (Jd.mono fun k hk=>.inr hk)).trans (tS.mono fun k hk=>.inl hk);refine⟨va,vn,vc,w17,Jj,⟨(Jb 1 _ rfl).1,(Jb 1 _ rfl).2⟩,Jb.set 1 _,Jf.tcs Je tS o_,⟨_,Ji.tcs (tS.mono fun k hk=>by omega) (fun k hk=>hk),i_⟩,?_,fun W hW=>?_,tA⟩
 ·have Jq:dP g a len cap w17:=(Jt.alloc o).new (hL.mono (Nat.le_of_lt Js.2.1)) Jc (fun k hk=>hk);exact Jq.keep tS o_ (fun b off x y e=>by have:=(hL.by8 b off x y).1;omega)
 ·refine tA.next hW fun k hk=>?_;rcases hk with hk|hk
  ·exact .inl (.inl hk)
  ·rcases Jr k hk with h|h
   ·exact .inl (.inr h)
   ·exact .inr (by have:=hb.size;omega)
def FB(g:Nat)(a:Option Addr)(len cap F B L r:Nat)(nm:ByteArray)(par:Value)(W13 W:World):Prop:=∃va vn vc R',aR W F [.string nm,par,.slice va vn vc]/\SR B W (.slice va vn vc) R' (L+1)/\R'.length=r+1/\dP g a len cap W/\am (fun b=>b=g∨b=F∨B<=b) W13 W
def D2(q:Nat)(W17:World)(vp:Value)(cs:List ByteArray)(W:World):Prop:=∃xa xn xc,aR W q [.slice xa xn xc,vp,.slice none 0 0,.slice none 0 0,.int .i64 0]/\W.ownsRow W17.heap.size 9 1 (.slice xa xn xc) cs.length (cs.map Value.string)/\am (fun b=>b=q) W17 W
theorem Aa{Ja w2:World}{vc vp:Value}{v2:Value}(hq:aR Ja q [vc,vp,.slice none 0 0,.slice none 0 0,.int .i64 0])(hl:q<Ja.heap.size)(hb:Below Ja.heap.size Ja w2)(hr:w2.ownsRow Ja.heap.size 9 1 v2 cs.length (cs.map Value.string)):∃xa xn xc,v2=.slice xa xn xc/\(w2.cell? ⟨q,0,none⟩=some vc/\w2.frozen? ⟨q,0,none⟩=false)/\D2 q Ja vp cs (w2.setCell ⟨q,0,none⟩ v2):=by
 obtain⟨xa,xc,rfl,-⟩:=au hr;have h2:=hq.below hb;have tS:am (fun b=>b=q) w2 (w2.setCell ⟨q,0,none⟩ (.slice xa cs.length xc)):=(am.refl (fun b=>b=q) w2).setCell (p:=⟨q,0,none⟩) rfl _;exact⟨xa,_,xc,rfl,h2 0 _ rfl,xa,_,xc,h2.set 0 _,az hr tS (fun k hk=>by omega),(hb.tcs (S:=fun b=>b=q)).trans tS⟩
theorem xS:(prog.info? 2).map (fun i=>(i.zero,i.size,i.bytes))=some (some (.int .i64 0),1,8):=by kernel_rfl
theorem CH(w:World)(v:Value)(ps:List Int)(z:Int)(h:Ints w v ps)(hl:ps.length<=100000)(ty:TypeId):
  ∃v1 w1 a2 n2 c2 w2,(Builtin.append_ #[128,128] ty #[.slice (some ⟨w.heap.size,0,none⟩) 0 0,v]).run prog (w.alloc (.cells #[] 2))=.ok v1 w1/\(Builtin.append_ #[128,128] ty #[v1,.slice (some ⟨w1.heap.size,0,none⟩) 1 1]).run prog (w1.alloc (.cells #[.int .i64 z] 2))=.ok (.slice a2 n2 c2) w2/\w2.ownsRow w.heap.size 2 1 (.slice a2 n2 c2) (ps++[z]).length ((ps++[z]).map (Value.int .i64))/\Below w.heap.size w w2:=by
 obtain⟨i0,hi,Je,Jg,Jf⟩:=info_parts xS;have Ja:Bl w (w.alloc (.cells #[] 2)):=aD _ _;have h0:(w.alloc (.cells #[] 2)).ownsRow w.heap.size 2 1 (.slice (some ⟨w.heap.size,0,none⟩) 0 0) 0 []:=World.ownsRow_lit w #[] 0 n_ d_ rfl;obtain⟨a,c,rfl,hc⟩:=h.below Ja;obtain⟨v1,w1,r1,o1,g1,-⟩:=bS (P:=prog) (w:=w.alloc (.cells #[] 2)) w.heap.size 128 ty 2 i0 _ 1 8 underlying128 hi Je Jg Jf rfl d_ _ 0 [] h0 a ps.length c (ps.map (Value.int .i64)) (fun e=>by
  rcases Nat.eq_zero_or_pos ps.length with h'|h'
  ·exact h'
  ·obtain⟨b,e',-⟩:=hc h';rw[e]at e';cases e') i_ (fun ad had j u hu=>by
  have hj:j<ps.length:=by have:=(List.getElem?_eq_some_iff.1 hu).1;simpa using this
  obtain⟨b,e',Ji⟩:=hc o_;rw[had]at e';cases e'
  rw[gV,Nat.zero_add];have:=Ji j hj;rw[this];simp[List.getElem?_eq_getElem hj]at hu;rw[hu]) (fun u hu=>by obtain⟨x,-,rfl⟩:=List.mem_map.1 hu;rfl) o_ d_ Ja.size
 have Jd:Bl w w1:=Ja.grown g1 Ja.size (fun j hj=>(World.ownsRow.lt h0 j hj).1);have Jc:Bl w (w1.alloc (.cells #[.int .i64 z] 2)):=Jd.alloc Jd.size _;have Jh:=ownB o1 ((Below.refl w1.heap.size w1).alloc n_ (.cells #[.int .i64 z] 2));have Jb:(w1.alloc (.cells #[.int .i64 z] 2)).ownsRow w1.heap.size 2 1 (.slice (some ⟨w1.heap.size,0,none⟩) 1 1) 1 [.int .i64 z]:=World.ownsRow_lit w1 #[.int .i64 z] 1 n_ d_ rfl;obtain⟨v2,w2,r2,o2,g2,-⟩:=bS (P:=prog) (w:=w1.alloc (.cells #[.int .i64 z] 2)) w.heap.size 128 ty 2 i0 _ 1 8 underlying128 hi Je Jg Jf rfl d_ v1 _ _ Jh (some ⟨w1.heap.size,0,none⟩) 1 1 [.int .i64 z] (fun e=>by cases e) rfl (fun ad had j u hu=>by cases had;exact World.ownsRow.cells Jb (g:=w1.heap.size) rfl j u hu) (fun u hu=>by simp at hu;subst hu;rfl) o_ d_ Jc.size;obtain⟨a2,c2,rfl,-⟩:=au o2;refine⟨v1,w1,a2,_,c2,w2,r1,r2,?_,Jc.grown g2 Jc.size (fun j hj=>(World.ownsRow.lt Jh j hj).1)⟩;have e1:(ps++[z]).length=0+ps.length+1:=i_;have e2:(ps++[z]).map (Value.int .i64)=[]++ps.map (Value.int .i64)++[.int .i64 z]:=i_;rw[e1,e2];exact o2
end
section
section
variable{e:List Nd}{ps:List Lm}
variable{T:Nat->To}
theorem A5(s:St)(pe pf A B:List Lm):aV (sP s pe pf A B) =
 if s.kind=1 then iw::(wd s.name.data.toList::(sy [61]::(aV pe++[sy [59]])))
 else if s.kind=2 then wd s.name.data.toList::(sy [61]::(aV pe++[sy [59]]))
 else if s.kind=3 then wd s.name.data.toList::((sy [91]::(aV pe++[sy [93]]))++(sy [61]::(aV pf++[sy [59]])))
 else if s.kind=4 then wd [105,102]::((sy [40]::(aV pe++[sy [41]]))++((sy [123]::(aV A++[sy [125]]))++(if s.els=0 then[]else wd els::(sy [123]::(aV B++[sy [125]])))))
 else if s.kind=5 then wd [119,104,105,108,101]::((sy [40]::(aV pe++[sy [41]]))++(sy [123]::(aV A++[sy [125]])))
 else if s.kind=6 then wd [114,101,116,117,114,110]::(aV pe++[sy [59]])
 else if s.kind=7 then wd [111,117,116]::((sy [40]::(aV pe++[sy [41]]))++[sy [59]])
 else aV pe++[sy [59]]:=by
 unfold sP;split
 ·simp[tkn_app,tkn_bk,tkn_sy,tkn_wd,tkn_nil,iw,b1,nl]
 split
 ·simp[tkn_app,tkn_bk,tkn_sy,tkn_wd,tkn_nil,iw,b1,nl]
 split
 ·simp[tkn_app,tkn_bk,tkn_sy,tkn_wd,tkn_nil,iw,b1,nl]
 split
 ·split <;> simp[tkn_app,tkn_bk,tkn_sy,tkn_wd,tkn_nil,iw,b1,nl,els]
 split
 ·simp[tkn_app,tkn_bk,tkn_sy,tkn_wd,tkn_nil,iw,b1,nl]
 split
 ·simp[tkn_app,tkn_bk,tkn_sy,tkn_wd,tkn_nil,iw,b1,nl]
 split
 ·simp[tkn_app,tkn_bk,tkn_sy,tkn_wd,tkn_nil,iw,b1,nl]
 ·simp[tkn_app,tkn_bk,tkn_sy,tkn_wd,tkn_nil,iw,b1,nl]
theorem sE{x:List UInt8}{s:PS}(h:s.er=4)(hi:aC T x s=true):False:=by
 have:=(cL hi).2.1
 omega
theorem Fh{st:St}{pe pf A B:List Lm}{la lb:List St}(hs:stmtB st=true)(Jj:st.thn=(la.length:Int))(Jp:st.els=(lb.length:Int))(he:GE T st.e pe)(hf:st.kind=3->GE T st.f pf)(hA:D0 T la A)(hB:D0 T lb B)(Jn:st.kind=8->∃nm r,aK nm=true/\aV pe=wd nm.data.toList::(sy [40]::r)):
  FP T (st::(la++lb)) (sP st pe pf A B)/\FA T (sP st pe pf A B):=by
 have hg:=pi hs;have hb:=bare hs;have Jf:st.kind≠4->st.kind≠5->la=[]:=fun a b=>List.eq_nil_of_length_eq_zero (by have:=hb.th a b;omega);have Jg:st.kind≠4->lb=[]:=fun a=>List.eq_nil_of_length_eq_zero (by have:=hb.el a;omega);refine⟨fun s n a s' h0 hM hE hp=>?_,fun s h0 hM=>?_⟩
 ·obtain⟨n,rfl⟩:=CF hp;rw[A5]at hM hE⊢;have Jb:=qp hp;by_cases k1:st.kind=1
  ·simp only[if_pos k1]at hM hE⊢;rw[Jf o_ o_,Jg o_];obtain⟨m1,m2⟩:=mt_cons.1 hM;obtain⟨m3,m4⟩:=mt_cons.1 m2;have Jc:=hb.nm o_;have hy:=iS m1 h0;rcases Jb with⟨-,q⟩|⟨q,-⟩|⟨q,-⟩|⟨q,-⟩|⟨q,-⟩|⟨q,-⟩
   ·rw[ad_gt,kj (s:=gt s 1) m3 h0 Jc]at q;rcases CE he (s:=gt (gt s 1) 1) h0 m4 q with⟨r1,r2⟩|h4
    ·refine .inl ⟨?_,?_⟩
     ·rw[r1];have:st=⟨1,st.name,st.e,[],0,0⟩:=lL k1 rfl rfl (hb.f o_) (hb.th o_ o_) (hb.el o_)
      rw[this];rfl
     ·rw[r2,gt_gt,gt_gt];congr 1;simp;omega
    ·exact .inr h4
   ·rw[ct m1 h0 d_]at q;cases q
   ·rw[ct m1 h0 d_]at q;cases q
   ·rw[ct m1 h0 d_]at q;cases q
   ·rw[ct m1 h0 d_]at q;cases q
   ·exact(q.not hy i_).elim
  simp only[if_neg k1]at hM hE⊢;by_cases k2:st.kind=2
  ·simp only[if_pos k2]at hM hE⊢;rw[Jf o_ o_,Jg o_];obtain⟨m1,m2⟩:=mt_cons.1 hM;have m3:=(mt_cons.1 m2).1;have Jc:=hb.nm o_;have Ja:∀x,nX x=true->aC T x s=false:=fun x hx=>iA m1 h0 Jc hx;rcases Jb with⟨q,-⟩|⟨q,-⟩|⟨q,-⟩|⟨q,-⟩|⟨q,-⟩|⟨-,q⟩
   ·rw[Ja _ d_]at q;cases q
   ·rw[Ja _ d_]at q;cases q
   ·rw[Ja _ d_]at q;cases q
   ·rw[Ja _ d_]at q;cases q
   ·rw[Ja _ d_]at q;cases q
   ·rw[kj m1 h0 Jc]at q;rcases q with⟨q,-⟩|⟨-,q,-⟩|⟨-,-,q⟩
    ·rw[bU (s:=gt s 1) m3 h0]at q;simp at q
    ·rw[bU (s:=gt s 1) m3 h0]at q;simp at q
    ·rcases CE he (s:=gt s 1) h0 m2 q with⟨r1,r2⟩|h4
     ·refine .inl ⟨?_,?_⟩
      ·rw[r1];have:st=⟨2,st.name,st.e,[],0,0⟩:=lL k2 rfl rfl (hb.f o_) (hb.th o_ o_) (hb.el o_)
       rw[this];rfl
      ·rw[r2,gt_gt];congr 1;simp;omega
     ·exact .inr h4
  simp only[if_neg k2]at hM hE⊢;by_cases k3:st.kind=3
  ·simp only[if_pos k3]at hM hE⊢;rw[Jf o_ o_,Jg o_];obtain⟨m1,m2⟩:=mt_cons.1 hM;obtain⟨m3,m4⟩:=mt_app.1 m2;have m5:=(mt_cons.1 m3).1;have Jc:=hb.nm o_;have Ja:∀x,nX x=true->aC T x s=false:=fun x hx=>iA m1 h0 Jc hx;have Jd:aC T [91] (gt s 1)=true:=by rw[bU (s:=gt s 1) m5 h0];rfl
   rcases Jb with⟨q,-⟩|⟨q,-⟩|⟨q,-⟩|⟨q,-⟩|⟨q,-⟩|⟨-,q⟩
   ·rw[Ja _ d_]at q;cases q
   ·rw[Ja _ d_]at q;cases q
   ·rw[Ja _ d_]at q;cases q
   ·rw[Ja _ d_]at q;cases q
   ·rw[Ja _ d_]at q;cases q
   ·rw[kj m1 h0 Jc]at q;rcases q with⟨-,c,s1,q1,q2⟩|⟨q,-⟩|⟨q,-⟩
    ·rcases he.q.pr he.one (.inr rfl) (s:=gt s 1) h0 m3 q1 with⟨rfl,rfl⟩|h4
     ·rw[gt_gt]at q2;rcases CE (hf k3) (s:=gt s (1+((aV pe).length+2))) h0 (by
       have e:(gt s (1+((aV pe).length+2))).i=s.i+1+(sy [91]::(aV pe++[sy [93]])).length:=by simp[gt];omega
       rw[e];exact m4) q2 with⟨r1,r2⟩|h4
      ·refine .inl ⟨?_,?_⟩
       ·rw[r1];have:st=⟨3,st.name,st.e,st.f,0,0⟩:=lL k3 rfl rfl rfl (hb.th o_ o_) (hb.el o_)
        conv=>rhs;rw[this]
        rfl
       ·rw[r2,gt_gt];congr 1;simp;omega
      ·exact .inr h4
     ·exact .inr (cM q2.dm h4)
    ·rw[Jd]at q;cases q
    ·rw[Jd]at q;cases q
  simp only[if_neg k3]at hM hE⊢;have Je:=hb.no (by have:=hg.lo;omega);by_cases k4:st.kind=4
  ·simp only[if_pos k4]at hM hE⊢;obtain⟨m1,m2⟩:=mt_cons.1 hM;obtain⟨m3,m4⟩:=mt_app.1 m2;obtain⟨m5,m6⟩:=mt_app.1 m4;have hy:=iS m1 h0;rcases Jb with⟨q,-⟩|⟨-,c,s1,b2,s2,q1,q2,q3⟩|⟨q,-⟩|⟨q,-⟩|⟨q,-⟩|⟨q,-⟩
   ·rw[ct m1 h0 d_]at q;cases q
   ·rw[ad_gt]at q1;rcases he.q.pr he.one (.inl rfl) (s:=gt s 1) h0 m3 q1 with⟨rfl,rfl⟩|h4
    ·rw[gt_gt]at q2;have e1:(gt s (1+((aV pe).length+2))).i=s.i+1+(sy [40]::(aV pe++[sy [41]])).length:=by simp[gt];omega
     rcases zZ hA (s:=gt s (1+((aV pe).length+2))) h0 (by rw[e1];exact m5) q2 with⟨rfl,rfl⟩|h4
     ·rw[gt_gt]at q3;have e2:s.i+(1+((aV pe).length+2)+((aV A).length+2))=s.i+1+(sy [40]::(aV pe++[sy [41]])).length+(sy [123]::(aV A++[sy [125]])).length:=by simp;omega
      by_cases hz:st.els=0
      ·rw[if_pos hz]at hE m6⊢;have Ji:lb=[]:=List.eq_nil_of_length_eq_zero o_;subst Ji;have hx:aC T els (gt s (1+((aV pe).length+2)+((aV A).length+2)))=false:=by
        rw[sv (s:=gt s _) h0,gt_i,e2];rw[show s.i+1+(sy [40]::(aV pe++[sy [41]])).length+(sy [123]::(aV A++[sy [125]])).length=s.i+(wd [105,102]::(sy [40]::(aV pe++[sy [41]])++(sy [123]::(aV A++[sy [125]])++[]))).length by simp;omega];exact hE
       rcases q3 with⟨-,r1,r2⟩|⟨q,-⟩
       ·refine .inl ⟨?_,?_⟩
        ·rw[r1,List.append_nil];have:st=⟨4,tx [],st.e,[],(b2.length:Int),0⟩:=lL k4 Je rfl (hb.f o_) Jj hz
         rw[<-this]
        ·rw[r2];congr 1;simp;omega
       ·rw[show([101,108,115,101]:List UInt8)=els from rfl,hx]at q;cases q
      ·rw[if_neg hz]at hE m6⊢;obtain⟨m7,m8⟩:=mt_cons.1 m6;have hx:aC T els (gt s (1+((aV pe).length+2)+((aV A).length+2)))=true:=by
        refine iS ?_ h0;rw[gt_i,e2];exact m7
       rcases q3 with⟨q,-⟩|⟨-,c,r1,r2⟩
       ·rw[show([101,108,115,101]:List UInt8)=els from rfl,hx]at q;cases q
       ·rw[ad_gt,gt_gt]at r1;rcases zZ hB (s:=gt s (1+((aV pe).length+2)+((aV A).length+2)+1)) h0 (by
         rw[gt_i,<-Nat.add_assoc,e2];exact m8) r1 with⟨rfl,rfl⟩|h4
        ·refine .inl ⟨?_,?_⟩
         ·rw[r2];have:st=⟨4,tx [],st.e,[],(b2.length:Int),(c.length:Int)⟩:=lL k4 Je rfl (hb.f o_) Jj Jp
          rw[<-this]
         ·rw[gt_gt];congr 1;simp;omega
        ·exact .inr h4
     ·refine .inr ?_;rcases q3 with⟨-,-,r2⟩|⟨q,-⟩
      ·rw[r2];exact h4
      ·exact(sE h4 q).elim
    ·have h5:=cM q2.dm h4;refine .inr ?_;rcases q3 with⟨-,-,r2⟩|⟨q,-⟩
     ·rw[r2];exact h5
     ·exact(sE h5 q).elim
   ·rw[ct m1 h0 d_]at q;cases q
   ·rw[ct m1 h0 d_]at q;cases q
   ·rw[ct m1 h0 d_]at q;cases q
   ·exact(q.not hy i_).elim
  simp only[if_neg k4]at hM hE⊢;rw[Jg k4,List.append_nil];by_cases k5:st.kind=5
  ·simp only[if_pos k5]at hM hE⊢;obtain⟨m1,m2⟩:=mt_cons.1 hM;obtain⟨m3,m4⟩:=mt_app.1 m2;have hy:=iS m1 h0;rcases Jb with⟨q,-⟩|⟨q,-⟩|⟨-,c,s1,b2,q1,q2,q3⟩|⟨q,-⟩|⟨q,-⟩|⟨q,-⟩
   ·rw[ct m1 h0 d_]at q;cases q
   ·rw[ct m1 h0 d_]at q;cases q
   ·rw[ad_gt]at q1;rcases he.q.pr he.one (.inl rfl) (s:=gt s 1) h0 m3 q1 with⟨rfl,rfl⟩|h4
    ·rw[gt_gt]at q2;have e1:(gt s (1+((aV pe).length+2))).i=s.i+1+(sy [40]::(aV pe++[sy [41]])).length:=by simp[gt];omega
     rcases zZ hA (s:=gt s (1+((aV pe).length+2))) h0 (by rw[e1];exact m4) q2 with⟨rfl,rfl⟩|h4
     ·refine .inl ⟨?_,?_⟩
      ·rw[q3];have:st=⟨5,tx [],st.e,[],(b2.length:Int),0⟩:=lL k5 Je rfl (hb.f o_) Jj (hb.el o_)
       rw[<-this]
      ·rw[gt_gt];congr 1;simp;omega
     ·exact .inr h4
    ·exact .inr (cM q2.dm h4)
   ·rw[ct m1 h0 d_]at q;cases q
   ·rw[ct m1 h0 d_]at q;cases q
   ·exact(q.not hy i_).elim
  simp only[if_neg k5]at hM hE⊢;rw[Jf k4 k5];have Jh:∀k,st.kind=k->k≠3->st=⟨k,tx [],st.e,[],0,0⟩:=fun k hk h3=>lL hk Je rfl (hb.f o_) (hb.th k4 k5) (hb.el k4);by_cases k6:st.kind=6
  ·simp only[if_pos k6]at hM hE⊢;obtain⟨m1,m2⟩:=mt_cons.1 hM;obtain⟨m3,m4⟩:=mt_app.1 m2;have m5:=(mt_cons.1 m4).1;have hy:=iS m1 h0;rcases Jb with⟨q,-⟩|⟨q,-⟩|⟨q,-⟩|⟨-,c,s1,q1,q2,q3⟩|⟨q,-⟩|⟨q,-⟩
   ·rw[ct m1 h0 d_]at q;cases q
   ·rw[ct m1 h0 d_]at q;cases q
   ·rw[ct m1 h0 d_]at q;cases q
   ·rw[ad_gt]at q1;rcases he.q.whole he.one (c:=[59]) i_ (s:=gt s 1) h0 m3 m5 q1 with⟨rfl,rfl⟩|h4
    ·refine .inl ⟨?_,?_⟩
     ·rw[q2,<-Jh 6 k6 d_]
     ·rw[q3,kh (s:=gt (gt s 1) (aV pe).length) m5 h0,gt_gt,gt_gt];congr 1;simp;omega
    ·refine .inr ?_;rw[q3];exact cM (bQ _ _) h4
   ·rw[ct m1 h0 d_]at q;cases q
   ·exact(q.not hy i_).elim
  simp only[if_neg k6]at hM hE⊢;by_cases k7:st.kind=7
  ·simp only[if_pos k7]at hM hE⊢;obtain⟨m1,m2⟩:=mt_cons.1 hM;obtain⟨m3,m4⟩:=mt_app.1 m2;have m5:=(mt_cons.1 m4).1;have hy:=iS m1 h0;rcases Jb with⟨q,-⟩|⟨q,-⟩|⟨q,-⟩|⟨q,-⟩|⟨-,c,s1,q1,q2,q3⟩|⟨q,-⟩
   ·rw[ct m1 h0 d_]at q;cases q
   ·rw[ct m1 h0 d_]at q;cases q
   ·rw[ct m1 h0 d_]at q;cases q
   ·rw[ct m1 h0 d_]at q;cases q
   ·rw[ad_gt]at q1;rcases he.q.pr he.one (.inl rfl) (s:=gt s 1) h0 m3 q1 with⟨rfl,rfl⟩|h4
    ·refine .inl ⟨?_,?_⟩
     ·rw[q2,<-Jh 7 k7 d_]
     ·rw[gt_gt]at q3;have e1:(gt s (1+((aV pe).length+2))).i=s.i+1+(sy [40]::(aV pe++[sy [41]])).length:=by simp[gt];omega
      rw[q3,kh (s:=gt s (1+((aV pe).length+2))) (by rw[e1];exact m5) h0,gt_gt];congr 1;simp;omega
    ·refine .inr ?_;rw[q3];exact cM (bQ _ _) h4
   ·exact(q.not hy i_).elim
  simp only[if_neg k7]at hM hE⊢;have k8:st.kind=8:=by have:=hg.lo;have:=hg.hi;omega
  obtain⟨nm,r,Jc,hr⟩:=Jn k8;obtain⟨m3,m4⟩:=mt_app.1 hM;have m5:=(mt_cons.1 m4).1;have Jk:=m3;rw[hr]at Jk;obtain⟨m1,m2⟩:=mt_cons.1 Jk;have m6:=(mt_cons.1 m2).1;have Ja:∀x,nX x=true->aC T x s=false:=fun x hx=>iA m1 h0 Jc hx;have Jm:=kj m1 h0 Jc;have Jd:aC T [91] (aS T s).2=false:=by rw[Jm,bU (s:=gt s 1) m6 h0];rfl
  have Jl:aC T [40] (aS T s).2=true:=by rw[Jm,bU (s:=gt s 1) m6 h0];rfl
  rcases Jb with⟨q,-⟩|⟨q,-⟩|⟨q,-⟩|⟨q,-⟩|⟨q,-⟩|⟨-,q⟩
  ·rw[Ja _ d_]at q;cases q
  ·rw[Ja _ d_]at q;cases q
  ·rw[Ja _ d_]at q;cases q
  ·rw[Ja _ d_]at q;cases q
  ·rw[Ja _ d_]at q;cases q
  ·rcases q with⟨q,-⟩|⟨-,-,c,s1,q1,q2,q3⟩|⟨-,q,-⟩
   ·rw[Jd]at q;cases q
   ·have Jo:Dy T s:=⟨fun x hx=>Ja x (by revert x;decide),Ja _ d_,Ja _ d_,fun h=>by have:=h.2;rw[m1.1]at this;simp[wd]at this⟩;have h11:strN (ay st.e)=11:=(lH (kL hg.one)).2.2.2 (by rw[hb.ca k8];decide);rcases he.o h11 s _ c s1 h0 m3 (sA m5 i_ 11) (Pa.oca _ s (.n c) s1 Jo Jd Jl q1)with⟨rfl,rfl⟩|h4
    ·refine .inl ⟨?_,?_⟩
     ·rw[q2,<-Jh 8 k8 d_]
     ·rw[q3,kh (s:=gt s (aV pe).length) m5 h0,gt_gt];congr 1;simp
    ·refine .inr ?_;rw[q3];exact cM (bQ _ _) h4
   ·rw[Jl]at q;cases q
 ·rw[A5]at hM;have hw:∀ {w:List UInt8} {r:List Lm},Mt T s.i (wd w::r)->w≠els->w≠[125]->aC T els s=false/\aC T [125] s=false:=fun hM h1 h2=>⟨ct (mt_cons.1 hM).1 h0 h1,ct (mt_cons.1 hM).1 h0 h2⟩;have hn:∀ {nm:ByteArray} {r:List Lm},aK nm=true->Mt T s.i (wd nm.data.toList::r)->aC T els s=false/\aC T [125] s=false:=fun hn hM=>⟨iA (mt_cons.1 hM).1 h0 hn d_,iA (mt_cons.1 hM).1 h0 hn d_⟩;by_cases k1:st.kind=1
  ·rw[if_pos k1]at hM;exact hw hM d_ d_
  by_cases k2:st.kind=2
  ·rw[if_neg k1,if_pos k2]at hM;exact hn (hb.nm o_) hM
  by_cases k3:st.kind=3
  ·rw[if_neg k1,if_neg k2,if_pos k3]at hM;exact hn (hb.nm o_) hM
  by_cases k4:st.kind=4
  ·rw[if_neg k1,if_neg k2,if_neg k3,if_pos k4]at hM;exact hw hM d_ d_
  by_cases k5:st.kind=5
  ·rw[if_neg k1,if_neg k2,if_neg k3,if_neg k4,if_pos k5]at hM;exact hw hM d_ d_
  by_cases k6:st.kind=6
  ·rw[if_neg k1,if_neg k2,if_neg k3,if_neg k4,if_neg k5,if_pos k6]at hM;exact hw hM d_ d_
  by_cases k7:st.kind=7
  ·rw[if_neg k1,if_neg k2,if_neg k3,if_neg k4,if_neg k5,if_neg k6,if_pos k7]at hM;exact hw hM d_ d_
  ·rw[if_neg k1,if_neg k2,if_neg k3,if_neg k4,if_neg k5,if_neg k6,if_neg k7]at hM;obtain⟨nm,r,Jc,hr⟩:=Jn (by have:=hg.lo;have:=hg.hi;omega);rw[hr]at hM;exact hn Jc hM
theorem qV(h:yQ e ps)(hk:(ay e).kind=4):∃nm r,aK nm=true/\aV ps=wd nm.data.toList::(sy [40]::r):=by
 cases h using yQ_i with
 | mk e A b P hc hk'=>
  refine⟨(ay e).name,aV (jj P 0 A)++[sy [41]],gR hc.root_good (.inr (.inr hk)),?_⟩;unfold Eq;rw[if_neg o_,if_neg o_,if_neg o_,if_pos hk,tkn_app,tkn_app,tkn_wd,tkn_sy,tkn_sy,tkn_nil];rfl
theorem A6(h:yQ e ps)(h1:bW e=true):GE T e ps:=⟨(xJ h).1,(xJ h).2.1,(xJ h).2.2,(lH (kL h1)).1⟩
theorem Ab(N:Nat):∀l:List St,l.length<=N->jy l->(∀s∈l,∀n,n∈s.e∨n∈s.f->n.kind=1->0<=n.val)->∃ps,sC ps (aW l)/\∀T,D0 T l ps/\(l≠[]->FA T ps):=by
 induction N with
 | zero=>
  intro l hl hg hn;obtain rfl:=List.eq_nil_of_length_eq_zero (Nat.le_zero.1 hl);refine⟨[],⟨rfl,trivial,(fun p h=>by cases h),(fun p h=>by cases h)⟩,fun T=>⟨fun o s n a s' h0 hM ht hp=>?_,fun h=>absurd rfl h⟩⟩;have m1:Tm (T s.i) (sy [125]):=ht;rcases nY hp with⟨h1,-⟩|⟨-,-,rfl,rfl⟩|⟨-,h1,-⟩
  ·exact absurd h0 h1
  ·exact .inl ⟨i_,rfl⟩
  ·rw[bU m1 h0]at h1;simp at h1
 | succ N ih=>
  intro l hl hg hn;cases l with
  | nil=>exact ih [] y_ hg hn
  | cons st r=>
   obtain⟨g1,g2,g3,g4,g5,g6,g7⟩:=hg.parts;simp only[l_c]at hl;have hs:=hg.1 st List.mem_cons_self;have Jd:∀s∈r,∀n,n∈s.e∨n∈s.f->n.kind=1->0<=n.val:=fun s hs=>hn s (m_ _ hs);obtain⟨A,a1,a2⟩:=ih (r.take st.thn.toNat) (by simp;omega) g5 (fun s hs=>Jd s (List.mem_of_mem_take hs));obtain⟨B,c1,c2⟩:=ih ((r.take (st.thn.toNat+st.els.toNat)).drop st.thn.toNat) (by simp;omega) g6 (fun s hs=>Jd s (List.mem_of_mem_take (List.mem_of_mem_drop hs)));obtain⟨C,d1,d2⟩:=ih (r.drop (st.thn.toNat+st.els.toNat)) (by simp;omega) g7 (fun s hs=>Jd s (List.mem_of_mem_drop hs));obtain⟨pe,e1,e2⟩:=mM (jd g1.one) (fun n h=>hn st List.mem_cons_self n (.inl h));have hf:∃pf,st.kind=3->xj pf (gh st.f)/\yQ st.f pf:=by
    by_cases k3:st.kind=3
    ·obtain⟨pf,f1,f2⟩:=mM (jd (g1.two k3)) (fun n h=>hn st List.mem_cons_self n (.inr h));exact⟨pf,fun _=>⟨f1,f2⟩⟩
    ·exact⟨[],fun h=>absurd h k3⟩
   obtain⟨pf,hf⟩:=hf;have hL:=(pL hs e1 (fun h=>(hf h).1) a1 c1).app d1;refine⟨sP st pe pf A B++C,?_,fun T=>?_⟩
   ·rw[fT];exact hL
   have Ja:((r.take st.thn.toNat).length:Int)=st.thn:=by rw[List.length_take];omega
   have Jb:(((r.take (st.thn.toNat+st.els.toNat)).drop st.thn.toNat).length:Int)=st.els:=by rw[List.length_drop,List.length_take];omega
   obtain⟨q1,q2⟩:=Fh (T:=T) hs Ja.symm Jb.symm (A6 e2 g1.one) (fun h=>A6 (hf h).2 (g1.two h)) (a2 T).1 (c2 T).1 (fun h=>qV e2 ((bare hs).ca h));have Jc:r.take st.thn.toNat++(r.take (st.thn.toNat+st.els.toNat)).drop st.thn.toNat=r.take (st.thn.toNat+st.els.toNat):=by
    have e:r.take st.thn.toNat=(r.take (st.thn.toNat+st.els.toNat)).take st.thn.toNat:=by rw[List.take_take,Nat.min_eq_left o_]
    rw[e,List.take_append_drop]
   rw[Jc]at q1;refine⟨fun o s n a s' h0 hM ht hp=>?_,fun _ s h0 hM=>q2 s h0 (by rw[tkn_app]at hM;exact(mt_app.1 hM).1)⟩;rw[tkn_app]at hM ht⊢;obtain⟨m1,m2⟩:=mt_app.1 hM;rw[l_a]at ht⊢;have Je:aC T els (nx (s.i+(aV (sP st pe pf A B)).length))=false:=by
    by_cases hr:r.drop (st.thn.toNat+st.els.toNat)=[]
    ·have hC:aV C=[]:=by
      rw[hr]at d1;have h1:tL C=[]:=d1.tx;cases hC:C with
      | nil=>rfl
      | cons x y=>
       exfalso
       rw[hC]at h1 d1;obtain⟨c,u,hx,-,-,-⟩:=gO d1.ch;rw[tL_cons,hx]at h1;simp at h1
     rw[hC]at ht;rw[bU (s:=nx _) (show Tm (T (s.i+(aV (sP st pe pf A B)).length)) (sy [125]) by simpa using ht) rfl];rfl
    ·exact((d2 T).2 hr (nx _) rfl m2).1
   rcases nY hp with⟨h1,-⟩|⟨-,h1,-⟩|⟨-,-,m,b,s1,rfl,h1,h2⟩
   ·exact absurd h0 h1
   ·rw[(q2 s h0 m1).2]at h1;cases h1
   ·rcases q1 s m b s1 h0 m1 Je h1 with⟨rfl,rfl⟩|h4
    ·rcases(d2 T).1 _ (gt s _) m a s' h0 m2 (by rw[gt_i,Nat.add_assoc];exact ht) h2 with⟨r1,r2⟩|h4
     ·refine .inl ⟨?_,?_⟩
      ·rw[r1];simp[List.take_append_drop]
      ·rw[r2,gt_gt]
     ·exact .inr h4
    ·exact .inr (cM h2.dm h4)
end
end
end Go.Proofs.YtlamjfhhefcohaaGreatDoor
