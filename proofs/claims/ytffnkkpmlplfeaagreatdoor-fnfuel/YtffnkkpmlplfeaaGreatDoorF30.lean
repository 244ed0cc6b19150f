import Derived.Test.YtffnkkpmlplfeaaGreatDoorF21
import Derived.Deep.RegionHeld3
namespace Go.Proofs.YtffnkkpmlplfeaaGreatDoor
open Go.World List
open Go.Proofs.Tryz Go.RowKit
set_option linter.all false
set_option maxRecDepth 100000
set_option maxHeartbeats 0
variable[Inhabited Pick]
def a_.headS{w:AT}{a:Option Addr}{cap:Nat}{ss:List GA}(h:a_ w (.slice a ss.length cap) ss)(k:Nat)(Z:k<=ss.length):a_ w (.slice a k cap) (ss.take k):=by
 obtain⟨a',Jb,I,hl,J,h⟩:=h;simp only[Value.slice.injEq,true_and]at I;obtain⟨rfl,rfl⟩:=I;refine⟨a,cap,by simp[Nat.min_eq_left Z],by simp;omega,J,λh0=>?_⟩;simp only[length_take]at h0;obtain⟨b,U,rfl,Y⟩:=h o_;refine⟨b,U,rfl,λj hj=>?_⟩;simp only[length_take]at hj;have:=Y j o_;rw[this];simp
def wu(a:Option Addr)(n cap k:Nat)(h2:k<=n)(h3:n<=cap):∀w:AT,(Instr.slice 94 (.slice a n cap) none (some (V (k:Int))) none).run prog w=.ok (.slice a k cap) w:=by
 intro w;have h:prog.elem 94=9:=k_;have I:(sizeOf 9).run prog w=.ok 1 w:=k_;rw[run_slice_h w 94 a n cap (by rw[h];exact underlying94) .i64 _ o_ o_,h,I];cases a <;> simp[Result.andThen,sliced,Addr.add]
def ww(I:List GA)(v:BY)(s:GA)(w:AT)(hl:I.length<=10000000)(hx:a_ w v I):
  Calls prog 89 #[v,sV s] w λe w'=>e=rW (.bool (du I s))/\w'=w:=by
 obtain⟨a,c,rfl,-,-,J⟩:=hx;have HC:=ah J;clear J;go_in;go_wp2;go_loopw[5] (λi wr=>∃k:Nat,k<=I.length/\i=V k/\(∀j (hj:j<I.length),j<k->I[j]≠s)/\wr=w) (λi _=>I.length-(RowKit.intOf i).toNat)
 case atStart=>exact⟨0,y_,rfl,λj hj h=>absurd h (Nat.not_lt_zero _),rfl⟩
 case round=>
  obtain⟨k,hk,rfl,hn,hB⟩:=hrel;subst hB;have Z:=ah hn;by_cases hlt:k<I.length
  ·obtain⟨b,Jb,rfl,J⟩:=HC.o o_;have Y:=J k hlt;by_cases hs:I[k]=s
   ·have U:Hid (du I s=true):=rP hlt hs;rw[hs]at Y;clear J hs;go_wp2;go_ret;exact⟨aj U.o.symm,rfl⟩
   ·have HS:Hid (∀j (hj:j<I.length),j<k+1->I[j]≠s):=λj hj h=>by
     by_cases e:j=k
     ·subst e;exact hs
     ·exact Z.o j hj o_
    have Ja:=iW hs;generalize I[k]=fn at Y hs Ja;go_wp2;go_roundw
    case rel=>exact⟨k+1,o_,by go_num,HS,by first|trivial|rfl⟩
    case measure=>exact FW
  ·have U:Hid (du I s=false):=oO (λj hj=>Z.o j hj o_);go_wp2;go_ret;exact⟨aj U.o.symm,rfl⟩
theorem sH(Xv:∀n,pt n)(t:Tr)(vg vf:Value)(i:Nat)(w:World)(hi:i<t.funcs.length)(Ye:t.globals.length<=1000)(Yd:t.funcs.length<=1000)(Xw:A5 t.funcs[i])(hg:cK w vg t.globals)(hf:bC w vf t.funcs):
  Calls prog 56 #[.agg #[vg,vf],V (i:Int)] w λe w'=>e=rW (xY (cZ t i t.funcs[i]))/\Below w.heap.size w w':=by
 have Xl:=ah Xv;obtain⟨Jg,Jj⟩:=q_ (cZ t i t.funcs[i]);rw[<-Jj];have Jc:=ah Jj;have Xe:Hid (D8 w t vg vf):=⟨hg,hf⟩;obtain⟨Z,cg,rfl,-⟩:=hg;obtain⟨af,cf,rfl,-,-,Xi⟩:=hf;obtain⟨b,Jd,rfl,hc⟩:=Xi o_;obtain⟨vp,vb,⟨c0,c1,c2⟩,Js,Jp⟩:=hc i hi;have Yc:b<w.heap.size:=b_ c0;have Jh:=ah Xw;generalize t.funcs[i]=f at c0 c1 c2 Js Jp Jh Jc;obtain⟨Jm,Xf⟩:=h2 Js Jp;obtain⟨ap,Y,rfl,Jq,Xm,Xq⟩:=Js;obtain⟨ab,cb,rfl,-⟩:=Jp;have Xo:=ah Xq;have Yb:f.params.length<=1000:=Jh.out.2.2.2.2.1;have Ya:f.body.length<=1000:=Jh.out.2.2.2.2.2;obtain⟨W1,Jt⟩:=q_ ((w.alloc (.cells #[.slice Z t.globals.length cg,.slice (some ⟨b,Jd,none⟩) t.funcs.length cf] 34)).alloc (.cells #[V 0,V 0,V 0] 52));have Xj:=lX Jt;obtain⟨W2,Ji⟩:=q_ (W1.alloc (.cells #[sV f.name,.slice ap f.params.length Y,.slice ab f.body.length cb] 97));have Xp:W1.heap.size=w.heap.size+2:=by rw[Jt];simp
 have Xz:W2.heap.size=w.heap.size+3:=by rw[Ji];simp[Xp]
 have Jo:Hid (∀W,Below (w.heap.size+3) W2 W->(W.cell? ⟨w.heap.size,0,none⟩=some (.slice Z t.globals.length cg)/\W.cell? ⟨w.heap.size,1,none⟩=some (.slice (some ⟨b,Jd,none⟩) t.funcs.length cf))/\(W.cell? ⟨w.heap.size+1,0,none⟩=some (V 0)/\W.cell? ⟨w.heap.size+1,1,none⟩=some (V 0)/\W.cell? ⟨w.heap.size+1,2,none⟩=some (V 0))/\(∀o,W.frozen? ⟨w.heap.size+1,o,none⟩=false)/\Bl w W/\w.heap.size+3<=W.heap.size/\(W.cell? ⟨w.heap.size+1+1,1,none⟩=some (.slice ap f.params.length Y)/\W.cell? ⟨w.heap.size+1+1,2,none⟩=some (.slice ab f.body.length cb))):=λW hW=>by
  have h1:Below (w.heap.size+2) W1 W2:=by rw[Ji];exact r_.alloc o_ _
  obtain⟨q1,q2,q3,q4,q5⟩:=Xj W (h1.trans (hW.mono o_));refine⟨q1,q2,q3,q4,by have:=hW.size;omega,(hW.cell (p:=⟨w.heap.size+1+1,1,none⟩) i_).trans ?_,(hW.cell (p:=⟨w.heap.size+1+1,2,none⟩) i_).trans ?_⟩
  ·rw[Ji];exact(World.cell?_alloc_at _ _ _ _ o_).trans rfl
  ·rw[Ji];exact(World.cell?_alloc_at _ _ _ _ o_).trans rfl
 go_in;go_wp2_with fail;rw[<-Jt,<-Ji];go_loopw[6] (λj wr=>∃(k:Nat),k<=f.params.length/\j=V k/\fD t.globals [] f.params=fD t.globals (f.params.take k) (f.params.drop k)/\Below (w.heap.size+3) W2 wr) (λj _=>f.params.length-(RowKit.intOf j).toNat)
 case atStart=>exact⟨0,y_,rfl,i_,r_⟩
 case round=>
  obtain⟨k,hk,rfl,hd,hB⟩:=hrel;have HD:=ah hd;obtain⟨⟨x0,x1⟩,⟨r0,r1,r2⟩,I,J,Jv,y1,y2⟩:=Jo.out wr hB;have z0:=I 0;have z1:=I 1;have z2:=I 2;by_cases hlt:k<f.params.length
  ·obtain⟨U,op,rfl,Ju⟩:=Xo.out o_;have d0:=(J.cell (p:=⟨U,op+k,none⟩) (b_ (Ju k hlt))).trans (Ju k hlt);have Jk:Hid (fD t.globals [] f.params=fD t.globals (f.params.take k) (f.params[k]::f.params.drop (k+1))):=by show _=_;rw[HD.out,dC _ _ hlt]
   have Jy:=ah (aR _ _ hlt);have Xx:=wu (some ⟨U,op,none⟩) f.params.length Y k o_ Jq;have J_:U<wr.heap.size:=b_ d0;have Jl:w.heap.size<wr.heap.size:=o_;have Jz:w.heap.size+1+1<wr.heap.size:=o_;generalize f.params[k]=p at d0 Jk Jy;have Xu:Bl wr wr.drew:=r_.drew;have Xd:=ah (fw _ _ p wr.drew (by simp;omega) ((Jm.out.below (J.drew)).headS k o_));have Xt:Hid (cK wr (.slice Z t.globals.length cg) t.globals):=Xe.out.g.below J;cases hin:du (f.params.take k) p with
   | true=>
    have HE:Hid (Jg=(2,(i:Int),-1)):=by
     show _=_;rw[Jc.out];unfold cZ;rw[if_pos (by rw[Jk.out];exact lG (.inl hin))]
    have Xs:Hid (∀n,Calls prog 89 #[.slice (some ⟨U,op,none⟩) k Y,sV p] (wr.drewN n) λe w'=>e=rW (.bool true)/\w'=wr.drewN n):=λn=>by
     have:=ww (f.params.take k) (.slice (some ⟨U,op,none⟩) k Y) p (wr.drewN n) (by simp;omega) ((Jm.out.below (below_drewN J n)).headS k o_)
     rw[hin]at this;exact this
    have X_:(0:Int)<=(k:Int):=o_;have Xy:(k:Int)<(f.params.length:Int):=o_;go_wp2_with fail;go_quiet ((go_at_call 89;exact Calls.quiet_of_same (Xs.out _)));have Jr:Below (w.heap.size+3) W2 (wr.drewN nq):=below_drewN hB _;obtain⟨-,⟨r0,r1,r2⟩,I,J,-⟩:=Jo.out (wr.drewN nq) Jr;have z0:=I 0;have z1:=I 1;have z2:=I 2;go_wp2_with fail;obtain⟨t0,t1,t2⟩:=set3 (u0:=V 2) (u1:=V (i:Int)) (u2:=V (-1)) r0 r1 r2;refine bodyPost_ret (v:=.agg #[V 2,V (i:Int),V (-1)]) (by simp[results,results56,go_sem,t0,t1,t2]) rfl ⟨aG (by rw[HE.out];rfl),?_⟩;exact((J.setCell (p:=⟨w.heap.size+1,0,none⟩) i_ _).setCell (p:=⟨w.heap.size+1,1,none⟩) i_ _).setCell (p:=⟨w.heap.size+1,2,none⟩) i_ _
   | false=>
    rw[hin]at Xd;have Xb:Hid (∀W,Bl wr W->Calls prog 90 #[.agg #[.slice Z t.globals.length cg,.slice (some ⟨b,Jd,none⟩) t.funcs.length cf],sV p] W λe w'=>e=rW (V (globI t.globals p))/\Bl W w'):=λW hW=>gQ t.globals _ _ p W o_ (Xt.out.below hW);have Jw:Hid (0<=globI t.globals p->Jg=(2,(i:Int),-1)):=λh=>by
     rw[Jc.out];unfold cZ;rw[if_pos (by rw[Jk.out];exact lG (.inr h))]
    have Xc:Hid (¬0<=globI t.globals p->fD t.globals [] f.params=fD t.globals (f.params.take (k+1)) (f.params.drop (k+1))):=λh=>by
     rw[Jk.out,nh (by rw[hin];simpa using h),Jy.out]
    generalize globI t.globals p=gi at Xb Jw Xc;obtain⟨bg,Xa⟩:∃bg,decide (0<=gi)=bg:=⟨_,rfl⟩;go_wp2_with fail;go_region_held3 (λW=>W.cell? ⟨w.heap.size,0,none⟩=some (.slice Z t.globals.length cg)/\W.cell? ⟨w.heap.size,1,none⟩=some (.slice (some ⟨b,Jd,none⟩) t.funcs.length cf)/\W.cell? ⟨w.heap.size+1+1,1,none⟩=some (.slice (some ⟨U,op,none⟩) f.params.length Y)/\W.cell? ⟨U,op+k,none⟩=some (sV p)) (go_simp)
     (first
     | ((with_reducible refine Calls.mono Xd.out ?_);rintro e w2 ⟨rfl,Je⟩;have e0:w2.cell? ⟨w.heap.size,0,none⟩=some (.slice Z t.globals.length cg):=(Je.cell (p:=⟨w.heap.size,0,none⟩) Jl).trans x0;have e1:w2.cell? ⟨w.heap.size,1,none⟩=some (.slice (some ⟨b,Jd,none⟩) t.funcs.length cf):=(Je.cell (p:=⟨w.heap.size,1,none⟩) Jl).trans x1;have e2:w2.cell? ⟨w.heap.size+1+1,1,none⟩=some (.slice (some ⟨U,op,none⟩) f.params.length Y):=(Je.cell (p:=⟨w.heap.size+1+1,1,none⟩) Jz).trans y1;have e3:w2.cell? ⟨U,op+k,none⟩=some (.string p):=(Je.cell (p:=⟨U,op+k,none⟩) J_).trans d0;have Jf:Bl wr w2:=Xu.trans Je)
     | ((with_reducible refine Calls.mono (Xb.out _ Jf) ?_);rintro e w3 ⟨rfl,Xn⟩;have Jb:Bl wr w3:=Jf.trans (Xn.mono Jf.size);have g0:w3.cell? ⟨w.heap.size,0,none⟩=some (.slice Z t.globals.length cg):=(Jb.cell (p:=⟨w.heap.size,0,none⟩) Jl).trans x0;have g1:w3.cell? ⟨w.heap.size,1,none⟩=some (.slice (some ⟨b,Jd,none⟩) t.funcs.length cf):=(Jb.cell (p:=⟨w.heap.size,1,none⟩) Jl).trans x1;have g2:w3.cell? ⟨w.heap.size+1+1,1,none⟩=some (.slice (some ⟨U,op,none⟩) f.params.length Y):=(Jb.cell (p:=⟨w.heap.size+1+1,1,none⟩) Jz).trans y1;have g3:w3.cell? ⟨U,op+k,none⟩=some (.string p):=(Jb.cell (p:=⟨U,op+k,none⟩) J_).trans d0))
    have Jx:Below (w.heap.size+3) W2 w3:=hB.trans (Jb.mono Jv);obtain⟨-,⟨r0,r1,r2⟩,I,J,-⟩:=Jo.out w3 Jx;have z0:=I 0;have z1:=I 1;have z2:=I 2;by_cases hgi:0<=gi
    ·have HE:Hid (Jg=(2,(i:Int),-1)):=Jw.out hgi;obtain rfl:bg=true:=Xa.symm.trans (decide_eq_true hgi);go_wp2_with fail;obtain⟨t0,t1,t2⟩:=set3 (u0:=V 2) (u1:=V (i:Int)) (u2:=V (-1)) r0 r1 r2;refine bodyPost_ret (v:=.agg #[V 2,V (i:Int),V (-1)]) (by simp[results,results56,go_sem,t0,t1,t2]) rfl ⟨aG (by rw[HE.out];rfl),?_⟩;exact((J.setCell (p:=⟨w.heap.size+1,0,none⟩) i_ _).setCell (p:=⟨w.heap.size+1,1,none⟩) i_ _).setCell (p:=⟨w.heap.size+1,2,none⟩) i_ _
    ·have Xk:=ah (Xc.out o_);obtain rfl:bg=false:=Xa.symm.trans (decide_eq_false hgi);go_wp2;go_roundw
     case rel=>exact⟨k+1,o_,by go_num,Xk,Jx⟩
     case measure=>simp[RowKit.intOf];omega
  ·have Xg:k=f.params.length:=o_
   have Xh:Hid (fD t.globals [] f.params=false):=by show _=_;rw[HD.out,Xg,List.drop_length];rfl
   have Xr:Hid (Calls prog 91 #[.agg #[.slice Z t.globals.length cg,.slice (some ⟨b,Jd,none⟩) t.funcs.length cf],.slice ab f.body.length cb,V 0,.slice ap f.params.length Y,.slice ap f.params.length Y] wr λe w'=>∃vt',e=rW (.tuple #[V (aQ t f.body 0 f.params f.params).1,V (aQ t f.body 0 f.params f.params).2.1,vt'])/\a_ w' vt' (aQ t f.body 0 f.params f.params).2.2/\Bl wr w'):=
    Xl.out f.body.length t _ _ _ _ _ f.body 0 f.params f.params wr n_ (Xe.out.below J) (Xf.out.below J) Jh.out.1 Jh.out.2.1 (Jm.out.below J) (Jm.out.below J) o_ o_ o_ o_ o_ o_
   have Jn:Hid (Jg=if (aQ t f.body 0 f.params f.params).1≠0 then((aQ t f.body 0 f.params f.params).1,(i:Int),(aQ t f.body 0 f.params f.params).2.1)else(0,-1,-1)):=by
    show _=_;rw[Jc.out];unfold cZ;rw[if_neg (by rw[Xh.out];simp)]
   go_wp2_with fail;refine Xr.out.mono ?_;rintro e w2 ⟨vt,rfl,-,Je⟩;have Jr:Below (w.heap.size+3) W2 w2:=hB.trans (Je.mono Jv);obtain⟨-,⟨r0,r1,r2⟩,I,J,-⟩:=Jo.out w2 Jr;have z0:=I 0;have z1:=I 1;have z2:=I 2;generalize (aQ t f.body 0 f.params f.params).1=q1 at Jn⊢;generalize (aQ t f.body 0 f.params f.params).2.1=q2 at Jn⊢;by_cases hq:q1=0
   ·have HE:Hid (Jg=(0,-1,-1)):=by show _=_;rw[Jn.out,if_neg (by simp[hq])]
    subst hq;go_wp2_with fail;obtain⟨t0,t1,t2⟩:=set3 (u0:=V 0) (u1:=V (-1)) (u2:=V (-1)) r0 r1 r2;refine bodyPost_ret (v:=.agg #[V 0,V (-1),V (-1)]) (by simp[results,results56,go_sem,t0,t1,t2]) rfl ⟨aG (by rw[HE.out];rfl),?_⟩;exact((J.setCell (p:=⟨w.heap.size+1,0,none⟩) i_ _).setCell (p:=⟨w.heap.size+1,1,none⟩) i_ _).setCell (p:=⟨w.heap.size+1,2,none⟩) i_ _
   ·have HE:Hid (Jg=(q1,(i:Int),q2)):=by show _=_;rw[Jn.out,if_pos hq]
    have b1:(q1 == 0)=false:=by simpa using hq
    go_wp2_with fail;obtain⟨t0,t1,t2⟩:=set3 (u0:=V q1) (u1:=V (i:Int)) (u2:=V q2) r0 r1 r2;refine bodyPost_ret (v:=.agg #[V q1,V (i:Int),V q2]) (by simp[results,results56,go_sem,t0,t1,t2]) rfl ⟨aG (by rw[HE.out];rfl),?_⟩;exact((J.setCell (p:=⟨w.heap.size+1,0,none⟩) i_ _).setCell (p:=⟨w.heap.size+1,1,none⟩) i_ _).setCell (p:=⟨w.heap.size+1,2,none⟩) i_ _
end Go.Proofs.YtffnkkpmlplfeaaGreatDoor
