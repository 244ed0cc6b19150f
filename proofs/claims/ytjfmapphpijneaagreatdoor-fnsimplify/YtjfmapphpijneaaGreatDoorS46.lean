import Derived.Deep.RegionHeld3
import Derived.Deep.LoopGhost
import Derived.Test.YtjfmapphpijneaaGreatDoorS45
namespace Go.Proofs.YtjfmapphpijneaaGreatDoor
set_option linter.all false
set_option maxRecDepth 100000
set_option maxHeartbeats 0
open Go.Value Go.World List Go.Proofs.Tryz Go.RowKit
variable[Inhabited Pick]
def be.headS{w:AT}{a:Option Addr}{cap:Nat}{ss:List Io}(h:be w (.slice a ss.length cap) ss)(k:Nat)(Z:k<=ss.length):be w (.slice a k cap) (ss.take k):=by obtain⟨a',Jb,I,hl,J,h⟩:=h;simp only[Value.slice.injEq,true_and]at I;obtain⟨rfl,rfl⟩:=I;refine⟨a,cap,by simp[Nat.min_eq_left Z],by simp;omega,J,λh0=>?_⟩;simp only[length_take]at h0;obtain⟨b,Ja,rfl,U⟩:=h o_;refine⟨b,Ja,rfl,λj hj=>?_⟩;simp only[length_take]at hj;have:=U j o_;rw[this];simp
def Ay(a:Option Addr)(n cap k:Nat)(h2:k<=n)(h3:n<=cap):∀w:AT,(Instr.slice 49 (.slice a n cap) none (some (V (k:Int))) none).run prog w=.ok (.slice a k cap) w:=by intro w;have h:prog.elem 49=9:=k_;have I:(sizeOf 9).run prog w=.ok 1 w:=k_;rw[run_slice_h w 49 a n cap (by rw[h];exact underlying49) .i64 _ o_ o_,h,I];cases a <;> simp[Result.andThen,sliced,Addr.add]
def Az(I:List Io)(v:BY)(s:Io)(w:AT)(hl:I.length<=10000000)(hx:be w v I):
  Calls prog 47 #[v,sV s] w λe w'=>e=rW (.bool (dF I s))/\w'=w:=by
 obtain⟨a,c,rfl,-,-,J⟩:=hx;have HC:=ah J;clear J;go_in;go_wp2;go_loopw[5] (λi wr=>∃k:Nat,k<=I.length/\i=V k/\(∀j (hj:j<I.length),j<k->I[j]≠s)/\wr=w) (λi _=>I.length-(RowKit.intOf i).toNat)
 case atStart=>exact⟨0,y_,rfl,λj hj h=>absurd h (Nat.not_lt_zero _),rfl⟩
 case round=>
  obtain⟨k,hk,rfl,hn,hB⟩:=hrel;subst hB;have HN:=ah hn;by_cases hlt:k<I.length
  ·obtain⟨b,Jb,rfl,J⟩:=HC.o o_;have Z:=J k hlt;by_cases hs:I[k]=s
   ·have U:Hid (dF I s=true):=wK hlt hs;rw[hs]at Z;clear J hs;go_wp2;go_ret;exact⟨ak U.o.symm,rfl⟩
   have HS:Hid (∀j (hj:j<I.length),j<k+1->I[j]≠s):=λj hj h=>by by_cases e:j=k;subst e;exact hs;exact HN.o j hj o_
   have Ja:=nB hs;generalize I[k]=fn at Z hs Ja;go_wp2;go_roundw
   case rel=>exact⟨k+1,o_,by go_num,HS,by first|trivial|rfl⟩
   case measure=>exact IF
  have U:Hid (dF I s=false):=rU (λj hj=>HN.o j hj o_);go_wp2;go_ret;exact⟨ak U.o.symm,rfl⟩
theorem xj(Xv:∀n,sI n)(t:Tr)(vg vf:BY)(i:Nat)(w:AT)(hi:i<t.fc.length)(Ye:t.gl.length<=1000)(Yd:t.fc.length<=1000)(Xw:EG t.fc[i])(hg:cD w vg t.gl)(hf:bj w vf t.fc):
  Calls prog 21 #[.agg #[vg,vf],V (i:Int)] w λe w'=>e=rW (BX (du t i t.fc[i]))/\Bl w w':=by
 have Xl:=ah Xv;have⟨Jg,Jj⟩:=q_ (du t i t.fc[i]);rw[<-Jj];have Jc:=ah Jj;have Xe:Hid (Iv w t vg vf):=⟨hg,hf⟩;obtain⟨Z,cg,rfl,-⟩:=hg;obtain⟨af,cf,rfl,-,-,Xi⟩:=hf;obtain⟨b,Jd,rfl,hc⟩:=Xi o_;have⟨vp,vb,⟨c0,c1,c2⟩,Js,Jp⟩:=hc i hi;have Yc:b<w.heap.size:=b_ c0;have Jh:=ah Xw;generalize t.fc[i]=f at c0 c1 c2 Js Jp Jh Jc;have⟨Jm,Xf⟩:=h2 Js Jp;obtain⟨ap,U,rfl,Jq,Xm,Xq⟩:=Js;obtain⟨ab,cb,rfl,-⟩:=Jp;have Xo:=ah Xq;have Yb:f.pm.length<=1000:=Jh.o.2.2.2.2.1;have Ya:f.bd.length<=1000:=Jh.o.2.2.2.2.2;have⟨W1,Jt⟩:=q_ ((w.alloc (.cells #[.slice Z t.gl.length cg,.slice (some ⟨b,Jd,none⟩) t.fc.length cf] 26)).alloc (.cells #[V 0,V 0,V 0] 30));have Xj:=pr Jt;have⟨W2,Ji⟩:=q_ (W1.alloc (.cells #[sV f.nm,.slice ap f.pm.length U,.slice ab f.bd.length cb] 52));have Xp:W1.heap.size=w.heap.size+2:=by rw[Jt];simp
 have Xz:W2.heap.size=w.heap.size+3:=by rw[Ji];simp[Xp]
 have Jo:Hid (∀W,Below (w.heap.size+3) W2 W->(W.cell? ⟨w.heap.size,0,none⟩=some (.slice Z t.gl.length cg)/\W.cell? ⟨w.heap.size,1,none⟩=some (.slice (some ⟨b,Jd,none⟩) t.fc.length cf))/\(W.cell? ⟨w.heap.size+1,0,none⟩=some (V 0)/\W.cell? ⟨w.heap.size+1,1,none⟩=some (V 0)/\W.cell? ⟨w.heap.size+1,2,none⟩=some (V 0))/\(∀o,W.frozen? ⟨w.heap.size+1,o,none⟩=false)/\Bl w W/\w.heap.size+3<=W.heap.size/\(W.cell? ⟨w.heap.size+1+1,1,none⟩=some (.slice ap f.pm.length U)/\W.cell? ⟨w.heap.size+1+1,2,none⟩=some (.slice ab f.bd.length cb))):=λW hW=>by
  have h1:Below (w.heap.size+2) W1 W2:=by rw[Ji];exact r_.alloc o_ _
  have⟨q1,q2,q3,q4,q5⟩:=Xj W (h1.trans (hW.mono o_));refine⟨q1,q2,q3,q4,Ka hW.size,(hW.cell (p:=⟨w.heap.size+1+1,1,none⟩) i_).trans ?_,(hW.cell (p:=⟨w.heap.size+1+1,2,none⟩) i_).trans ?_⟩
  rw[Ji];exact(cell?_alloc_at _ _ _ _ o_).trans rfl;rw[Ji];exact(cell?_alloc_at _ _ _ _ o_).trans rfl
 go_in;go_wp2_with fail;rw[<-Jt,<-Ji];go_loopw[6] (λj wr=>∃(k:Nat),k<=f.pm.length/\j=V k/\fY t.gl [] f.pm=fY t.gl (f.pm.take k) (f.pm.drop k)/\Below (w.heap.size+3) W2 wr) (λj _=>f.pm.length-(RowKit.intOf j).toNat)
 case atStart=>exact⟨0,y_,rfl,i_,r_⟩
 case round=>
  obtain⟨k,hk,rfl,hd,hB⟩:=hrel;have HD:=ah hd;have⟨⟨x0,x1⟩,⟨r0,r1,r2⟩,I,Ja,Jv,y1,y2⟩:=Jo.o wr hB;have z0:=I 0;have z1:=I 1;have z2:=I 2;by_cases hlt:k<f.pm.length
  ·obtain⟨J,op,rfl,Ju⟩:=Xo.o o_;have d0:=(Ja.cell (p:=⟨J,op+k,none⟩) (b_ (Ju k hlt))).trans (Ju k hlt);have Jk:Hid (fY t.gl [] f.pm=fY t.gl (f.pm.take k) (f.pm[k]::f.pm.drop (k+1))):=(by show _=_;rw[HD.o,eh _ _ hlt]);have Jy:=ah (aU _ _ hlt);have Xx:=Ay (some ⟨J,op,none⟩) f.pm.length U k o_ Jq;have J_:J<wr.heap.size:=b_ d0;have Jl:w.heap.size<wr.heap.size:=o_;have Jz:w.heap.size+1+1<wr.heap.size:=o_;generalize f.pm[k]=p at d0 Jk Jy;have Xu:Bl wr wr.drew:=r_.drew;have Xd:=ah (gz _ _ p wr.drew H6 ((Jm.o.below (Ja.drew)).headS k o_));have Xt:Hid (cD wr (.slice Z t.gl.length cg) t.gl):=Xe.o.g.below Ja;cases hin:dF (f.pm.take k) p with
   | true=>
    have HE:Hid (Jg=(2,(i:Int),-1)):=by show _=_;rw[Jc.o];unfold du;rw[if_pos (by rw[Jk.o];exact oH (.inl hin))]
    have Xs:Hid (∀n,Calls prog 47 #[.slice (some ⟨J,op,none⟩) k U,sV p] (wr.drewN n) λe w'=>e=rW (.bool true)/\w'=wr.drewN n):=λn=>by
     have:=Az (f.pm.take k) (.slice (some ⟨J,op,none⟩) k U) p (wr.drewN n) H6 ((Jm.o.below (below_drewN Ja n)).headS k o_)
     rw[hin]at this;exact this
    have X_:(0:Int)<=(k:Int):=o_;have Xy:(k:Int)<(f.pm.length:Int):=o_;go_wp2_with fail;go_quiet ((go_at_call 47;exact Calls.quiet_of_same (Xs.o _)));have Jr:Below (w.heap.size+3) W2 (wr.drewN nq):=below_drewN hB _;obtain⟨-,⟨r0,r1,r2⟩,I,Ja,-⟩:=Jo.o (wr.drewN nq) Jr;have z0:=I 0;have z1:=I 1;have z2:=I 2;go_wp2_with fail;have⟨t0,t1,t2⟩:=set3 (u0:=V 2) (u1:=V (i:Int)) (u2:=V (-1)) r0 r1 r2;refine bodyPost_ret (v:=.agg #[V 2,V (i:Int),V (-1)]) (by simp[results,results21,go_sem,t0,t1,t2]) rfl ⟨aD (by rw[HE.o];rfl),?_⟩;exact If Ja
   | false=>
    rw[hin]at Xd;have Xb:Hid (∀W,Bl wr W->Calls prog 48 #[.agg #[.slice Z t.gl.length cg,.slice (some ⟨b,Jd,none⟩) t.fc.length cf],sV p] W λe w'=>e=rW (V (globI t.gl p))/\Bl W w'):=λW hW=>ji t.gl _ _ p W o_ (Xt.o.below hW);have Jw:Hid (0<=globI t.gl p->Jg=(2,(i:Int),-1)):=λh=>by rw[Jc.o];unfold du;rw[if_pos (by rw[Jk.o];exact oH (.inr h))]
    have Xc:Hid (¬0<=globI t.gl p->fY t.gl [] f.pm=fY t.gl (f.pm.take (k+1)) (f.pm.drop (k+1))):=λh=>by rw[Jk.o,qL (by rw[hin];simpa using h),Jy.o]
    generalize globI t.gl p=gi at Xb Jw Xc;obtain⟨bg,Xa⟩:∃bg,decide (0<=gi)=bg:=⟨_,rfl⟩;go_wp2_with fail;go_region_held3 (λW=>W.cell? ⟨w.heap.size,0,none⟩=some (.slice Z t.gl.length cg)/\W.cell? ⟨w.heap.size,1,none⟩=some (.slice (some ⟨b,Jd,none⟩) t.fc.length cf)/\W.cell? ⟨w.heap.size+1+1,1,none⟩=some (.slice (some ⟨J,op,none⟩) f.pm.length U)/\W.cell? ⟨J,op+k,none⟩=some (sV p)) (go_simp)
     (first
     | ((with_reducible refine Calls.mono Xd.o ?_);rintro e w2 ⟨rfl,Je⟩;have e0:w2.cell? ⟨w.heap.size,0,none⟩=some (.slice Z t.gl.length cg):=(Je.cell (p:=⟨w.heap.size,0,none⟩) Jl).trans x0;have e1:w2.cell? ⟨w.heap.size,1,none⟩=some (.slice (some ⟨b,Jd,none⟩) t.fc.length cf):=(Je.cell (p:=⟨w.heap.size,1,none⟩) Jl).trans x1;have e2:w2.cell? ⟨w.heap.size+1+1,1,none⟩=some (.slice (some ⟨J,op,none⟩) f.pm.length U):=(Je.cell (p:=⟨w.heap.size+1+1,1,none⟩) Jz).trans y1;have e3:w2.cell? ⟨J,op+k,none⟩=some (.string p):=(Je.cell (p:=⟨J,op+k,none⟩) J_).trans d0;have Jf:Bl wr w2:=Xu.trans Je)
     | ((with_reducible refine Calls.mono (Xb.o _ Jf) ?_);rintro e w3 ⟨rfl,Xn⟩;have Jb:Bl wr w3:=Jf.trans (Xn.mono Jf.size);have g0:w3.cell? ⟨w.heap.size,0,none⟩=some (.slice Z t.gl.length cg):=(Jb.cell (p:=⟨w.heap.size,0,none⟩) Jl).trans x0;have g1:w3.cell? ⟨w.heap.size,1,none⟩=some (.slice (some ⟨b,Jd,none⟩) t.fc.length cf):=(Jb.cell (p:=⟨w.heap.size,1,none⟩) Jl).trans x1;have g2:w3.cell? ⟨w.heap.size+1+1,1,none⟩=some (.slice (some ⟨J,op,none⟩) f.pm.length U):=(Jb.cell (p:=⟨w.heap.size+1+1,1,none⟩) Jz).trans y1;have g3:w3.cell? ⟨J,op+k,none⟩=some (.string p):=(Jb.cell (p:=⟨J,op+k,none⟩) J_).trans d0))
    have Jx:Below (w.heap.size+3) W2 w3:=hB.trans (Jb.mono Jv);obtain⟨-,⟨r0,r1,r2⟩,I,Ja,-⟩:=Jo.o w3 Jx;have z0:=I 0;have z1:=I 1;have z2:=I 2;by_cases hgi:0<=gi
    ·have HE:Hid (Jg=(2,(i:Int),-1)):=Jw.o hgi;obtain rfl:bg=true:=Xa.symm.trans (decide_eq_true hgi);go_wp2_with fail;have⟨t0,t1,t2⟩:=set3 (u0:=V 2) (u1:=V (i:Int)) (u2:=V (-1)) r0 r1 r2;refine bodyPost_ret (v:=.agg #[V 2,V (i:Int),V (-1)]) (by simp[results,results21,go_sem,t0,t1,t2]) rfl ⟨aD (by rw[HE.o];rfl),?_⟩;exact If Ja
    have Xk:=ah (Xc.o o_);obtain rfl:bg=false:=Xa.symm.trans (decide_eq_false hgi);go_wp2;go_roundw
    case rel=>exact⟨k+1,o_,by go_num,Xk,Jx⟩
    case measure=>exact IF
  have Xg:k=f.pm.length:=o_;have Xh:Hid (fY t.gl [] f.pm=false):=(by show _=_;rw[HD.o,Xg,drop_length];rfl);have Xr:Hid (Calls prog 49 #[.agg #[.slice Z t.gl.length cg,.slice (some ⟨b,Jd,none⟩) t.fc.length cf],.slice ab f.bd.length cb,V 0,.slice ap f.pm.length U,.slice ap f.pm.length U] wr λe w'=>∃vt',e=rW (.tuple #[V (aL t f.bd 0 f.pm f.pm).1,V (aL t f.bd 0 f.pm f.pm).2.1,vt'])/\be w' vt' (aL t f.bd 0 f.pm f.pm).2.2/\Bl wr w'):=
   Xl.o f.bd.length t _ _ _ _ _ f.bd 0 f.pm f.pm wr n_ (Xe.o.below Ja) (Xf.o.below Ja) Jh.o.1 Jh.o.2.1 (Jm.o.below Ja) (Jm.o.below Ja) o_ o_ o_ o_ o_ o_
  have Jn:Hid (Jg=if (aL t f.bd 0 f.pm f.pm).1≠0 then((aL t f.bd 0 f.pm f.pm).1,(i:Int),(aL t f.bd 0 f.pm f.pm).2.1)else(0,-1,-1)):=by show _=_;rw[Jc.o];unfold du;rw[if_neg (by rw[Xh.o];simp)]
  go_wp2_with fail;refine Xr.o.mono ?_;rintro e w2 ⟨vt,rfl,-,Je⟩;have Jr:Below (w.heap.size+3) W2 w2:=hB.trans (Je.mono Jv);obtain⟨-,⟨r0,r1,r2⟩,I,Ja,-⟩:=Jo.o w2 Jr;have z0:=I 0;have z1:=I 1;have z2:=I 2;generalize (aL t f.bd 0 f.pm f.pm).1=q1 at Jn⊢;generalize (aL t f.bd 0 f.pm f.pm).2.1=q2 at Jn⊢;by_cases hq:q1=0
  ·have HE:Hid (Jg=(0,-1,-1)):=(by show _=_;rw[Jn.o,if_neg (by simp[hq])]);subst hq;go_wp2_with fail;have⟨t0,t1,t2⟩:=set3 (u0:=V 0) (u1:=V (-1)) (u2:=V (-1)) r0 r1 r2;refine bodyPost_ret (v:=.agg #[V 0,V (-1),V (-1)]) (by simp[results,results21,go_sem,t0,t1,t2]) rfl ⟨aD (by rw[HE.o];rfl),?_⟩;exact If Ja
  have HE:Hid (Jg=(q1,(i:Int),q2)):=(by show _=_;rw[Jn.o,if_pos hq]);have b1:(q1 == 0)=false:=(IN hq);go_wp2_with fail;have⟨t0,t1,t2⟩:=set3 (u0:=V q1) (u1:=V (i:Int)) (u2:=V q2) r0 r1 r2;refine bodyPost_ret (v:=.agg #[V q1,V (i:Int),V q2]) (by simp[results,results21,go_sem,t0,t1,t2]) rfl ⟨aD (by rw[HE.o];rfl),?_⟩;exact If Ja
section
variable{w w':AT}{v:BY}{row:Option Nat}{B:Nat}{l:List Nat}
def lU(l:List Nat)(v:BY)(x:Nat)(w:AT)(hl:l.length<=10000000)(hx:Ints w v (l.map (λg:Nat=>(g:Int)))):
  Calls prog 24 #[v,V (x:Int)] w λe w'=>e=rW (.bool (decide (x∈l)))/\Bl w w':=by
 obtain⟨a,c,rfl,J⟩:=hx;rw[J8]at*;have HC:Hid (0<l.length->∃b,a=some ⟨b,0,none⟩/\∀j (h:j<l.length),w.cell? ⟨b,j,none⟩=some (V (l[j]:Int))):=λh0=>by obtain⟨b,rfl,hq⟩:=J (IN h0);refine⟨b,rfl,λj I=>?_⟩;rw[hq j (IN I)];simp
 clear J;go_in;go_wp2;go_loopw[5] (λi wr=>∃k:Nat,k<=l.length/\i=V k/\(∀j (I:j<l.length),j<k->l[j]≠x)/\Bl w wr) (λi _=>l.length-(RowKit.intOf i).toNat)
 case atStart=>exact⟨0,y_,rfl,λj I h=>absurd h (Nat.not_lt_zero _),r_⟩
 case round=>
  obtain⟨k,hk,rfl,hn,U⟩:=hrel;have HN:=ah hn;clear hn;by_cases hlt:k<l.length
  ·obtain⟨b,rfl,J⟩:=HC.o o_;have d0:=(U.cell (p:=⟨b,k,none⟩) (b_ (J k hlt))).trans (J k hlt);by_cases hs:l[k]=x
   ·have Z:Hid (decide (x∈l)=true):=(by show _=_;rw[decide_eq_true_iff,<-hs];exact g_ hlt);rw[hs]at d0;clear J hs;go_wp2;go_ret;exact⟨ak Z.o.symm,U⟩
   have HS:Hid (∀j (I:j<l.length),j<k+1->l[j]≠x):=λj I h=>by by_cases e:j=k;subst e;exact hs;exact HN.o j I o_
   have b1:((l[k]:Int) == (x:Int))=false:=by have:¬(l[k]:Int)=(x:Int):=o_;simpa using this
   clear J;generalize l[k]=y at d0 b1 hs;go_wp2;go_roundw
   case rel=>exact⟨k+1,o_,by go_num,HS,U⟩
   case measure=>exact IF
  have Z:Hid (decide (x∈l)=false):=by show _=_;rw[decide_eq_false_iff_not];intro hm;have⟨j,I,he⟩:=getElem_of_mem hm;exact HN.o j I o_ he
  go_wp2;go_ret;exact⟨ak Z.o.symm,U⟩
def Ints.grown{l:List Int}(h:Ints w v l)(J:w.grownBy w' row)(Jc:∀g,v.ownBlock=some g->row≠some g):Ints w' v l:=by obtain⟨a,Jb,rfl,h3⟩:=h;refine⟨a,Jb,rfl,λh0=>?_⟩;obtain⟨b,rfl,I⟩:=h3 h0;refine⟨b,rfl,λj hj=>?_⟩;have Ja:=b_ (I j hj);exact(c_ (a:=⟨b,j,none⟩) (J.block b Ja (λe=>Jc b rfl e.symm))).trans (I j hj)
def cy.grown(h:cy B w v l)(hg:w.grownBy w' row)(hne:∀g,v.ownBlock=some g->row≠some g):cy B w' v l:=An h hg hne
def cy.cap(h:cy B w v l):∀a n c,v=.slice a n c->n<=c:=by intro a n c I;rcases h.2 with⟨rfl,U⟩|⟨g,cap,Ja,rfl,_,_,J,_⟩;simp only[Value.slice.injEq]at I;omega;simp only[Value.slice.injEq]at I;omega
def CR(b n c:Nat)(J:1<=n)(h3:n<=c):∃ad:Addr,(∀w:AT,(Instr.slice 34 (rV b n c) (some (V 1)) none none).run prog w=.ok (.slice (some ad) (n-1) (c-1)) w)/\(∀j,j<n-1->ad.add j=⟨b,j+1,none⟩):=by by_cases hc:c=1;refine⟨⟨b,0,none⟩,λw=>?_,λj hj=>by omega⟩;have h:prog.elem 34=2:=k_;have I:(sizeOf 2).run prog w=.ok 1 w:=k_;rw[run_slice_l w 34 (some ⟨b,0,none⟩) n c (by rw[h];exact underlying34) .i64 _ o_ o_,h,I];simp[Result.andThen,sliced,hc];refine⟨⟨b,1,none⟩,λw=>?_,λj hj=>?_⟩;have h:prog.elem 34=2:=k_;have I:(sizeOf 2).run prog w=.ok 1 w:=k_;rw[run_slice_l w 34 (some ⟨b,0,none⟩) n c (by rw[h];exact underlying34) .i64 _ o_ o_,h,I];simp[Result.andThen,sliced,hc,Addr.add];rw[dk];simp[Nat.add_comm]
theorem uS(t:Tr)(vg vf Jw:BY)(f:Nat)(w:AT)(hf:f<t.fc.length)(hl:t.fc.length<=1000)(Zg:∀g∈t.fc,fk g)(I:∃a n c,vg=.slice a n c)(Zh:bj w vf t.fc)(Zf:Ints w Jw [(f:Int)])(Jx:∀a n c,Jw=.slice a n c->n<=c):
    Calls prog 23 #[.agg #[vg,vf],Jw] w λe w'=>∃v out,e=rW v/\cy w.heap.size w' v out/\(∀g,g∈out↔iD t f g)/\out.length<=1000/\Bl w w':=by
  obtain⟨ag,ng,cg,rfl⟩:=I;have Yx:Hid (bj w vf t.fc):=Zh;obtain⟨af,cf,rfl,-⟩:=Zh;have Zs:Hid (∀g∈t.fc,fk g):=Zg;have Yg:Hid (∀a n c,Jw=.slice a n c->n<=c):=Jx;have Za:Hid (Ints w Jw [(f:Int)]):=Zf;obtain⟨Vd,Zz,rfl,Ye⟩:=Zf;obtain⟨bf,rfl,Yi⟩:=Ye i_;have Zl:bf<w.heap.size:=b_ (Yi 0 i_);have⟨i1,hj,Xt,Xd,Xh⟩:=info_parts li;have⟨n,hn⟩:=q_ t.fc.length;have HN:Hid (n=t.fc.length):=hn;rw[<-hn]at Yx hf hl⊢;clear hn Zg Jx Ye Yi;go_in;go_wp2_with fail;have Zd:Hid (cy (w.heap.size+1) ((w.alloc (.cells #[.slice ag ng cg,.slice af n cf] 26)).alloc (.cells #[] 2)) (.slice (some ⟨w.heap.size+1,0,none⟩) 0 0) []):=by
    have:=pA (w.alloc (.cells #[.slice ag ng cg,.slice af n cf] 26)) (w.heap.size+1) i_
    rw[J9]at this;exact this
  have Xr:Below (w.heap.size+1) (w.alloc (.cells #[.slice ag ng cg,.slice af n cf] 26)) ((w.alloc (.cells #[.slice ag ng cg,.slice af n cf] 26)).alloc (.cells #[] 2)):=r_.alloc i_ _;go_loopg[5,6] (n+1) (λgk ov wv wr=>∃(out Jc:List Nat),gk=(n-out.length)+Jc.length/\gk<=n+1/\RInv t f out Jc/\cy (w.heap.size+1) wr ov out/\Ints wr wv (Jc.map (λg:Nat=>(g:Int)))/\(∀a n c,wv=.slice a n c->n<=c)/\(∀g,wv.ownBlock=some g->ov.ownBlock≠some g)/\Below (w.heap.size+1) (w.alloc (.cells #[.slice ag ng cg,.slice af n cf] 26)) wr)
  case atStart=>exact⟨[],[f],i_,n_,RInv.start t f,Zd,Za.out.below (aw Xr),Yg,λg I=>by simp only[Value.ownBlock,J0]at I;simp only[Value.ownBlock,ne_eq,J0];omega,Xr⟩
  case round=>
    clear Zd Xr Za Yg Zl;obtain⟨out,Jc,Zu,Z_,hI,hO,hW,Jy,Xc,hB⟩:=hrel;have Xl:=aw hB;have⟨x0,x1⟩:=jc hB;have Yf:w.heap.size+1<=wr.heap.size:=(by have:=hB.size;simpa using this);obtain⟨J,U,rfl⟩:=hO.shape;have HO:Hid (cy (w.heap.size+1) wr (.slice J out.length U) out):=hO;have Zn:=hI.len;rw[<-HN.out]at Zn;cases Jc with
    | nil=>have HE:Hid (∀g,g∈out↔iD t f g):=λg=>hI.all g;obtain⟨a6,c6,rfl,-⟩:=hW;simp only[List.map_nil,l_n];clear hI hO Jy Xc x0 x1;go_wp2;go_ret;exact⟨_,out,rfl,cy.base HO.out o_,HE,o_,Xl⟩
    | cons x rest=>
      have Zp:x<n:=(by have:=hI.lt (by rw[<-HN.out];exact hf) x i_;rw[HN.out];exact this);have HM:Hid (gI t f x [] out rest):=hI.take i_ (λy=>by simp);obtain⟨a6,c6,rfl,Xq⟩:=hW;simp only[List.map_cons,l_c,J8]at Xq Jy Xc Zu⊢;obtain⟨Z,rfl,Xn⟩:=Xq o_;have q6:wr.cell? ⟨Z,0,none⟩=some (V (x:Int)):=(by have:=Xn 0 i_;simpa using this);have Ys:Z<wr.heap.size:=b_ q6;have Zr:rest.length+1<=c6:=Jy _ _ _ rfl;have Yr:Hid (∀j,j<rest.length->∀(h:j<rest.length),wr.cell? ⟨Z,j+1,none⟩=some (V (rest[j]:Int))):=λj hj h=>by
        have:=Xn (j+1) o_
        simpa using this
      have Va:rest.length<=2000:=o_;have⟨ad,Zo,Xf⟩:=CR Z (rest.length+1) c6 o_ Zr;simp only[Nat.add_sub_cancel]at Zo Xf;have Ze:Hid (∀j,j<rest.length->ad.add j=⟨Z,j+1,none⟩):=Xf;have Xg:x<t.fc.length:=(by rw[<-HN.out];exact Zp);have Zx:Bl wr wr.drew:=r_.drew;have Xz:Hid (Calls prog 50 #[.agg #[.slice ag ng cg,.slice af n cf],V (x:Int)] wr.drew λe w'=>∃v,e=rW v/\cy wr.drew.heap.size w' v (callsL t.fc t.fc[x].bd)/\Bl wr.drew w'):=uR t.fc _ _ x wr.drew Xg (by rw[<-HN.out];omega) (Zs.out _ (g_ Xg)) ⟨_,_,_,rfl⟩ (Yx.out.below (Xl.drew));have⟨L,hL⟩:=q_ (callsL t.fc t.fc[x].bd);rw[<-hL]at Xz;have HL:Hid (∀y,dV t x y↔y∈L):=λy=>by rw[hL];exact dV.mem Xg
      have Vb:L.length<=1000:=by
        have h1:L.Nodup:=by rw[hL];unfold callsL;exact List.Pairwise.filter _ (List.nodup_range)
        have h2:=kR n h1 (λy hy=>by have:=((HL.out y).2 hy).lt;rw[HN.out];exact this);omega
      have Yk:w.heap.size<wr.heap.size:=o_
      clear hI hO Xq Xn Xf hL Jy Xc;go_wp2_with fail;go_region_held3 (λW=>W.cell? ⟨w.heap.size,0,none⟩=some (.slice ag ng cg)/\W.cell? ⟨w.heap.size,1,none⟩=some (.slice af n cf)/\W.cell? ⟨Z,0,none⟩=some (V (x:Int))) (go_simp)
        (first
        | ((with_reducible refine Calls.mono Xz.out ?_);rintro e w2 ⟨vm,rfl,Xk,Jq⟩;have e0:w2.cell? ⟨w.heap.size,0,none⟩=some (.slice ag ng cg):=(Jq.cell (p:=⟨w.heap.size,0,none⟩) Yk).trans x0;have e1:w2.cell? ⟨w.heap.size,1,none⟩=some (.slice af n cf):=(Jq.cell (p:=⟨w.heap.size,1,none⟩) Yk).trans x1;have e2:w2.cell? ⟨Z,0,none⟩=some (.int .i64 (x:Int)):=(Jq.cell (p:=⟨Z,0,none⟩) Ys).trans q6))
      have Jd:Bl wr w2:=Zx.trans Jq;have Jl:Hid (cy wr.heap.size w2 vm L):=Xk;obtain⟨am,cm,rfl⟩:=Xk.shape;have Yj:Hid (cy (w.heap.size+1) w2 (.slice J out.length U) out):=HO.out.below Jd;have Yn:=hB.trans (Jd.mono Yf);have Xu:Hid (∀g,(Value.slice J out.length U).ownBlock=some g->g<wr.heap.size):=λg I=>(World.ownsRow.lt HO.out g I).2;have Zj:wr.heap.size<=w2.heap.size:=Jd.size;have Js:Hid (∀j u,(rest.map (λg:Nat=>Value.int .i64 (g:Int)))[j]? =some u->(w2.alloc (.cells #[] 2)).cell? (ad.add j)=some u):=λj u hu=>by
        have Jh:j<rest.length:=by
          have:=(List.getElem?_eq_some_iff.1 hu).1
          simpa using this
        rw[Ze.out j Jh,World.cell?_alloc_lt _ _ ⟨Z,j+1,none⟩ (by show Z<_;omega),Jd.cell (p:=⟨Z,j+1,none⟩) Ys,Yr.out j Jh Jh,<-hu];simp[Jh]
      have Zb:Hid (cy w2.heap.size (w2.alloc (.cells #[] 2)) (rV w2.heap.size 0 0) []):=pA w2 _ n_;clear Xk Jq Jd e0 e1 e2 x0 x1 q6 Yr Ze Xz HO;go_wp2_with(at_builtin;refine cQ rfl _ _ _ rfl w2.heap.size 2 i1 _ 1 8 underlying34 hj Xt Xd Xh rfl d_ _ 0 [] rfl Zb.out ad rest.length (c6-1) (rest.map (λg:Nat=>Value.int .i64 (g:Int))) rfl i_ Js.out (by intro u hu;simp at hu;obtain⟨y,_,rfl⟩:=hu;rfl) o_ d_ i_ ?_);intro v9 w3 Yy Zc Zi;have J_:Bl w2 w3:=((Below.refl w2.heap.size w2).alloc n_ _).grown Zc i_ (λg I=>by simp only[Value.ownBlock,J0]at I;omega);have Jt:cy w2.heap.size w3 v9 rest:=by show World.ownsRow _ _ _ _ _ _ _;simpa using Yy
      have Ya:Hid (cy (w.heap.size+1) w3 v9 rest):=cy.base Jt o_;have Yd:Hid (cy (w.heap.size+1) w3 (.slice J out.length U) out):=Yj.out.below J_;have Yz:Hid (Ints w3 (.slice am L.length cm) (L.map (λg:Nat=>(g:Int)))):=(Jl.out.below J_).ints;have Jj:Hid (∀g,v9.ownBlock=some g->(Value.slice J out.length U).ownBlock≠some g):=λg I h=>by have h1:=(World.ownsRow.lt Jt g I).1;have h2:=Xu.out g h;omega
      have Je:Hid (∀g,(Value.slice am L.length cm).ownBlock=some g->(Value.slice J out.length U).ownBlock≠some g/\v9.ownBlock≠some g):=λg I=>by have h1:=World.ownsRow.lt Jl.out g I;refine⟨λh=>?_,λh=>?_⟩;have h2:=Xu.out g h;omega;have h2:=(World.ownsRow.lt Jt g h).1;omega
      have Yh:=Yn.trans (J_.mono o_);obtain⟨a9,c9,rfl⟩:=Jt.shape;clear Yy Zc Zi J_ Jt Yn Jl Yj Zb Js hB Xu;go_wp2;go_loopw[5,6,8] (λov wv i w4=>∃(j:Nat) (Jb Ja:List Nat),j<=L.length/\i=V j/\gI t f x (L.take j) Jb Ja/\cy (w.heap.size+1) w4 ov Jb/\cy (w.heap.size+1) w4 wv Ja/\Ints w4 (.slice am L.length cm) (L.map (λg:Nat=>(g:Int)))/\(∀g,wv.ownBlock=some g->ov.ownBlock≠some g)/\(∀g,(Value.slice am L.length cm).ownBlock=some g->ov.ownBlock≠some g/\wv.ownBlock≠some g)/\Jb.length+rest.length=out.length+Ja.length/\Below (w.heap.size+1) (w.alloc (.cells #[.slice ag ng cg,.slice af n cf] 26)) w4) (λ_ _ i _=>L.length-(RowKit.intOf i).toNat)
      case atStart=>exact⟨0,out,rest,y_,rfl,IN HM.out,Yd,Ya,Yz,Jj,Je,rfl,Yh⟩
      case round=>
        clear HM Yd Ya Yz Jj Je Yh Zj Yf Xl;obtain⟨j,Jb,Ja,Ve,rfl,hM,hO,hW,hI,Yt,Yp,Zk,hB⟩:=hrel;obtain⟨J,U,rfl⟩:=hO.shape;obtain⟨a6,c7,rfl⟩:=hW.shape;have HM:Hid (gI t f x (L.take j) Jb Ja):=hM;have HO:Hid (cy (w.heap.size+1) wr (.slice J Jb.length U) Jb):=hO;have HW:Hid (cy (w.heap.size+1) wr (.slice a6 Ja.length c7) Ja):=hW;have HI:Hid (Ints wr (.slice am L.length cm) (L.map (λg:Nat=>(g:Int)))):=hI;have Jj:Hid (∀g,(Value.slice a6 Ja.length c7).ownBlock=some g->(Value.slice J Jb.length U).ownBlock≠some g):=Yt;have Je:Hid (∀g,(Value.slice am L.length cm).ownBlock=some g->(Value.slice J Jb.length U).ownBlock≠some g/\(Value.slice a6 Ja.length c7).ownBlock≠some g):=Yp;have X_:=hM.len;rw[<-HN.out]at X_;have Yc:w.heap.size+1<=wr.heap.size:=(by have:=hB.size;simpa using this);have Vc:Ja.length<=5000:=o_;clear hM hO hW Yt Yp;by_cases Jh:j<L.length
        · obtain⟨_,_,Yb,Xj⟩:=hI
          simp only[Value.slice.injEq,J8,true_and]at Yb Xj;obtain⟨rfl,rfl⟩:=Yb;obtain⟨bm,rfl,Yv⟩:=Xj o_;have d0:wr.cell? ⟨bm,j,none⟩=some (V (L[j]:Int)):=(by have:=Yv j Jh;simpa using this);have Xx:bm<wr.heap.size:=b_ d0;have Xs:Hid (L.take (j+1)=L.take j++[L[j]]):=aU L j Jh;have Y_:Hid (dV t x L[j]):=(HL.out _).2 (g_ Jh);clear Yv Xj;generalize L[j]=y at d0 Xs Y_;have Yw:Hid (Calls prog 24 #[.slice J Jb.length U,V (y:Int)] wr λe w'=>e=rW (.bool (decide (y∈Jb)))/\Bl wr w'):=lU Jb _ y wr o_ HO.out.ints;go_wp2_with fail;refine Yw.out.mono ?_;rintro e w5 ⟨rfl,Jk⟩;have d5:=(Jk.cell (p:=⟨bm,j,none⟩) Xx).trans d0;have Jz:Hid (cy (w.heap.size+1) w5 (.slice J Jb.length U) Jb):=HO.out.below Jk;have Xb:Hid (cy (w.heap.size+1) w5 (.slice a6 Ja.length c7) Ja):=HW.out.below Jk;have Xy:Hid (Ints w5 (rV bm L.length cm) (L.map (λg:Nat=>(g:Int)))):=HI.out.below Jk;have Xp:=hB.trans (Jk.mono Yc);have Jo:bm<w5.heap.size:=l_ Xx Jk.size;have Xv:w.heap.size+1<=w5.heap.size:=t_ Yc Jk.size;clear Jk Yw d0 HO HW HI hB Xx;by_cases hy:y∈Jb
          · rw[decide_eq_true hy]
            have Jl:Hid (gI t f x (L.take (j+1)) Jb Ja):=(by show gI _ _ _ _ _ _;rw[Xs.out];exact HM.out.old hy);clear hy;go_wp2;go_roundw
            case rel=>exact⟨j+1,Jb,Ja,o_,by go_num,Jl,Jz,Xb,Xy,Jj,Je,Zk,Xp⟩
            case measure=>exact IF
          · rw[decide_eq_false hy]
            have Jl:Hid (gI t f x (L.take (j+1)) (Jb++[y]) (Ja++[y])):=(by show gI _ _ _ _ _ _;rw[Xs.out];exact HM.out.new hy Y_);clear hy;go_wp2_with(at_builtin;refine cQ rfl _ _ _ rfl (w.heap.size+1) 2 i1 _ 1 8 underlying34 hj Xt Xd Xh rfl d_ _ Jb.length (Jb.map (λg:Nat=>Value.int .i64 (g:Int))) rfl (Jz.out.below (ao _ _)) ⟨w5.heap.size,0,none⟩ 1 1 [V (y:Int)] rfl rfl (cell_one_new _ _ _) (by simp[Value.oneCell']) o_ d_ H6 ?_);intro v6 w6 Yq Jm Xw;have Ju:Hid (cy (w.heap.size+1) w6 v6 (Jb++[y])):=by show World.ownsRow _ _ _ _ _ _ _;simpa using Yq
            have Ji:Bl w5 (w5.alloc (.cells #[V (y:Int)] 2)):=ao _ _;have Xm:Hid (cy (w.heap.size+1) w6 (.slice a6 Ja.length c7) Ja):=(Xb.out.below Ji).grown Jm (λg I=>Jj.out g I);have Yl:Hid (Ints w6 (rV bm L.length cm) (L.map (λg:Nat=>(g:Int)))):=(Xy.out.below Ji).grown Jm (λg I=>(Je.out g I).1);have d6:w6.cell? ⟨bm,j,none⟩=some (V (y:Int)):=(c_ (a:=⟨bm,j,none⟩) (Jm.block bm H6 (λe=>(Je.out bm rfl).1 e.symm))).trans ((Ji.cell (p:=⟨bm,j,none⟩) Jo).trans d5);have Yo:=(Xp.alloc Xv (.cells #[V (y:Int)] 2)).grown Jm H6 (λg I=>(World.ownsRow.lt Jz.out g I).1);have Zt:w5.heap.size+1<=w6.heap.size:=(by have:=Jm.size;simpa using this);have Yu:Hid (∀g,(Value.slice a6 Ja.length c7).ownBlock=some g->g<w5.heap.size):=λg I=>(World.ownsRow.lt Xb.out g I).2;have Jf:Hid (∀g,(Value.slice a6 Ja.length c7).ownBlock=some g->v6.ownBlock≠some g):=λg I h=>by
              rcases Xw g h with h1|h1;exact Jj.out g I h1
              have:=Yu.out g I;omega
            have Jg:Hid (bm<w5.heap.size/\v6.ownBlock≠some bm):=⟨Jo,λh=>by rcases Xw bm h with h1|h1;exact(Je.out bm rfl).1 h1;omega⟩;have Xi:Hid (∀g,v6.ownBlock=some g->g<w6.heap.size):=λg I=>(World.ownsRow.lt Ju.out g I).2;obtain⟨a8,c8,rfl⟩:=Ju.out.shape;have Jp:(Jb++[y]).length=Jb.length+1:=i_
            rw[Jp]at Ju Jf Jg Xi⊢;clear Yq Jm Xw Ji Jz Xb Xy d5 Xp Jj HM Jp;go_wp2_with(at_builtin;refine cQ rfl _ _ _ rfl (w.heap.size+1) 2 i1 _ 1 8 underlying34 hj Xt Xd Xh rfl d_ _ Ja.length (Ja.map (λg:Nat=>Value.int .i64 (g:Int))) rfl (Xm.out.below (ao _ _)) ⟨w6.heap.size,0,none⟩ 1 1 [V (y:Int)] rfl rfl (cell_one_new _ _ _) (by simp[Value.oneCell']) o_ d_ H6 ?_);intro v7 w7 Ym Xa Xo;have Xe:Hid (cy (w.heap.size+1) w7 v7 (Ja++[y])):=by show World.ownsRow _ _ _ _ _ _ _;simpa using Ym
            have Ji:Bl w6 (w6.alloc (.cells #[V (y:Int)] 2)):=ao _ _;have Zq:Hid (cy (w.heap.size+1) w7 (.slice a8 (Jb.length+1) c8) (Jb++[y])):=(Ju.out.below Ji).grown Xa (λg I h=>Jf.out g h I);have Zm:Hid (Ints w7 (rV bm L.length cm) (L.map (λg:Nat=>(g:Int)))):=(Yl.out.below Ji).grown Xa (λg I=>(Je.out g I).2);have Zv:=(Yo.alloc o_ (.cells #[V (y:Int)] 2)).grown Xa H6 (λg I=>(World.ownsRow.lt Xm.out g I).1);have Jv:Hid (∀g,v7.ownBlock=some g->(Value.slice a8 (Jb.length+1) c8).ownBlock≠some g):=λg I h=>by
              rcases Xo g I with h1|h1;exact Jf.out g h1 h
              have:=Xi.out g h;omega
            have Jn:Hid (∀g,(Value.slice (some ⟨bm,0,none⟩) L.length cm).ownBlock=some g->(Value.slice a8 (Jb.length+1) c8).ownBlock≠some g/\v7.ownBlock≠some g):=λg I=>by
              simp only[Value.ownBlock,J0]at I;subst I;refine⟨Jg.out.2,λh=>?_⟩;rcases Xo _ h with h1|h1;exact(Je.out _ rfl).2 h1
              have:=Jg.out.1;omega
            obtain⟨a7,Zy,rfl⟩:=Xe.out.shape;have Jr:(Ja++[y]).length=Ja.length+1:=i_;rw[Jr]at Xe Jv Jn⊢;clear Ym Xa Xo Ji Ju Xm Yl d6 Yo Jf Jg Yu Xi Je Jr;go_wp2;go_roundw
            case rel=>exact⟨j+1,Jb++[y],Ja++[y],o_,by go_num,Jl,IN Zq.out,IN Xe.out,Zm,IN Jv.out,IN Jn.out,by simp;omega,Zv⟩
            case measure=>exact IF
        · have Zw:Hid (RInv t f Jb Ja):=by have h1:=HM.out;rw[List.take_of_length_le o_]at h1;exact h1.done (λy hy=>(HL.out y).1 hy)
          clear hI;go_wp2;go_roundg ((n-Jb.length)+Ja.length)
          case measure=>omega
          case rel=>exact⟨Jb,Ja,rfl,o_,Zw,HO,HW.out.ints,HW.out.cap,Jj,hB⟩
end
section
variable{t:Tr}
def AJ(t:Tr):Int×Int×Int:=if (bJ t).1≠0 then bJ t else bodiesE t 0 t.fc
def AK(h:(bJ t).1=0):bJ t=(0,-1,-1):=by by_cases ht:(ir t).1=0;rw[iZ ht]at h⊢;simp only at h;rw[h];rw[lL ht]at h;exact absurd h ht
def CS{i:Nat}{f:Fu}(h:(du t i f).1=0):du t i f=(0,-1,-1):=by unfold du at h⊢;split;rename_i h1;rw[if_pos h1]at h;simp at h;rename_i h1;rw[if_neg h1]at h;split;rename_i h2;rw[if_pos h2]at h;exact absurd h h2;rfl
def ru(h:cM t=true)(I:(AJ t).1≠0):aQ t=AJ t:=by unfold AJ at I⊢;by_cases hn:(bJ t).1=0;rw[if_neg (by simp[hn])]at I⊢;exact gH h hn I;rw[if_pos hn];exact gu h hn
def iC(h:(bJ t).1=0):∃m,a_ t.fc dt=some m:=by by_cases ht:(ir t).1=0;rw[iZ ht]at h;exact qM h;rw[lL ht]at h;exact absurd h ht
structure CT (t:Tr) (k:Nat) (r:Int×Int×Int):Prop where
 bad:r.1≠0->AJ t=r
 ok:r.1=0->(bJ t).1=0/\r=(0,-1,-1)/\bodiesE t 0 t.fc=bodiesE t k (t.fc.drop k)
def CT.start(t:Tr):CT t 0 (bJ t):=by refine⟨λh=>?_,λh=>⟨h,AK h,i_⟩⟩;unfold AJ;rw[if_pos h]
def CT.next{k:Nat}{r:Int×Int×Int}(h:CT t k r)(U:r.1=0)(J:k<t.fc.length):CT t (k+1) (du t k t.fc[k]):=by
 have⟨I,h2,h3⟩:=h.ok U;rw[eh _ _ J,bodiesE]at h3;refine⟨λhb=>?_,λhb=>⟨I,CS hb,?_⟩⟩
 unfold AJ;rw[if_neg (by simp[I]),h3,if_pos hb];rw[h3,if_neg (by simp[hb])]
def CT.all{r:Int×Int×Int}(h:CT t t.fc.length r)(J:r.1=0):(bJ t).1=0/\(bodiesE t 0 t.fc).1=0/\r=(0,-1,-1):=by have⟨I,h2,h3⟩:=h.ok J;rw[drop_length]at h3;exact⟨I,by rw[h3];rfl,h2⟩
def CU{B:Nat}{w w':AT}{x y z:BY}(h:DO w B 0 x/\DO w B 1 y/\DO w B 2 z)(U:∀o,D4 w B o)(J:Bl w w'):
  (DO w' B 0 x/\DO w' B 1 y/\DO w' B 2 z)/\∀o,D4 w' B o:=by
 have I:=b_ h.1;exact⟨⟨(J.cell (p:=⟨B,0,none⟩) I).trans h.1,(J.cell (p:=⟨B,1,none⟩) I).trans h.2.1,(J.cell (p:=⟨B,2,none⟩) I).trans h.2.2⟩,λo=>(J.frozen (p:=⟨B,o,none⟩) I).trans (U o)⟩
theorem mI(Ym:∀n,sI n)(t:Tr)(vg vf:Value)(w:World)(hs:eQ t)(hw:yq t)(hg:cD w vg t.gl)(hf:bj w vf t.fc):
  Calls prog 6 #[.agg #[vg,vf]] w λe w'=>e=rW (BX (aQ t))/\Below w.heap.size w w':=by
 have Yv:=ah Ym;have⟨Jd,Jl⟩:=q_ (aQ t);rw[<-Jl];have Je:=ah Jl;have HG:=ah hg;have HF:=ah hf;have HS:=ah hs;have HW:=ah hw;obtain⟨ag,cg,rfl,-⟩:=hg;obtain⟨af,cf,rfl,-⟩:=hf;have⟨W1,Jz⟩:=q_ ((w.alloc (.cells #[.slice ag t.gl.length cg,.slice af t.fc.length cf] 26)).alloc (.cells #[V 0,V 0,V 0] 30));have Jf:Hid (∀W,Below (w.heap.size+2) W1 W->(W.cell? ⟨w.heap.size,0,none⟩=some (.slice ag t.gl.length cg)/\W.cell? ⟨w.heap.size,1,none⟩=some (.slice af t.fc.length cf))/\(W.cell? ⟨w.heap.size+1,0,none⟩=some (V 0)/\W.cell? ⟨w.heap.size+1,1,none⟩=some (V 0)/\W.cell? ⟨w.heap.size+1,2,none⟩=some (V 0))/\(∀o,W.frozen? ⟨w.heap.size+1,o,none⟩=false)/\Bl w W/\w.heap.size+2<=W.heap.size):=pr Jz;have Yy:W1.heap.size=w.heap.size+2:=by rw[Jz];simp
 obtain⟨-,-,-,Xb,-⟩:=Jf W1 r_;clear Jl Ym hs hw;go_in;go_wp2_with fail;rw[<-Jz];clear Jz;refine(Am t _ _ W1 HS (HG.out.below Xb) (HF.out.below Xb)).mono ?_;rintro e w2 ⟨rfl,Yc⟩;have Xk:Below (w.heap.size+2) W1 w2:=Yc.mono o_;clear Yc Yy Xb;have⟨⟨x0,x1⟩,⟨J,U,Z⟩,I,Ja,Jc⟩:=Jf w2 Xk;have z0:=I 0;have z1:=I 1;have z2:=I 2;cases htb:cM t with
 | false=>have HE:Hid (Jd=(1,-1,-1)):=Je.out.trans (ku htb);clear htb I;go_wp2_with fail;have⟨t0,t1,t2⟩:=set3 (u0:=V 1) (u1:=V (-1)) (u2:=V (-1)) J U Z;refine bodyPost_ret (v:=.agg #[V 1,V (-1),V (-1)]) (by simp[results,results6,go_sem,t0,t1,t2]) rfl ⟨aD (by rw[HE.out];rfl),?_⟩;exact((Ja.setCell (p:=⟨w.heap.size+1,0,none⟩) i_ _).setCell (p:=⟨w.heap.size+1,1,none⟩) i_ _).setCell (p:=⟨w.heap.size+1,2,none⟩) i_ _
 | true=>
  have HB:=ah htb;have Jx:=JO htb HS HW;have Xv:=ah Jx;have Zf:=Jx.fl;have Ze:=Jx.gl;clear htb Jx I J U Z z0 z1 z2;go_wp2_with fail;refine(uJ t _ _ w2 o_ o_ (HG.out.below Ja) (HF.out.below Ja)).mono ?_;rintro e w3 ⟨rfl,Yd⟩;have Xh:Below (w.heap.size+2) W1 w3:=Xk.trans (Yd.mono Jc);clear x0 x1 Ja Yd Jc Xk;obtain⟨⟨x0,x1⟩,-,-,Ja,Jc⟩:=Jf w3 Xh;obtain⟨n0,n1,n2,hn⟩:∃n0 n1 n2,bJ t=(n0,n1,n2):=⟨_,_,_,rfl⟩;have Jg:Hid (CT t 0 (n0,n1,n2)):=by rw[<-hn];exact CT.start t
  rw[hn,show BX (n0,n1,n2)=.agg #[V n0,V n1,V n2]from rfl];clear hn;go_wp2_with fail;have⟨B3,Jh⟩:=q_ w3.heap.size;have Yf:Hid (Below (w.heap.size+2) W1 (w3.alloc (.cells #[V n0,V n1,V n2] 30))):=Xh.alloc Jc _;have Xd:Hid (((w3.alloc (.cells #[V n0,V n1,V n2] 30)).cell? ⟨B3,0,none⟩=some (V n0)/\(w3.alloc (.cells #[V n0,V n1,V n2] 30)).cell? ⟨B3,1,none⟩=some (V n1)/\(w3.alloc (.cells #[V n0,V n1,V n2] 30)).cell? ⟨B3,2,none⟩=some (V n2))/\∀o,(w3.alloc (.cells #[V n0,V n1,V n2] 30)).frozen? ⟨B3,o,none⟩=false):=by rw[Jh];exact⟨⟨i_,i_,i_⟩,λo=>by simp⟩
  have Xq:w.heap.size+2<=B3:=o_;rw[<-Jh];clear Jh x0 x1 Ja Jc Xh;go_loopw[4] (λi wr=>∃(k:Nat) (J U Z:Int),k<=t.fc.length/\i=V k/\(wr.cell? ⟨B3,0,none⟩=some (V J)/\wr.cell? ⟨B3,1,none⟩=some (V U)/\wr.cell? ⟨B3,2,none⟩=some (V Z))/\(∀o,wr.frozen? ⟨B3,o,none⟩=false)/\CT t k (J,U,Z)/\Below (w.heap.size+2) W1 wr) (λi _=>t.fc.length-(RowKit.intOf i).toNat)
  case atStart=>exact⟨0,n0,n1,n2,y_,rfl,Xd.out.1,Xd.out.2,Jg,Yf⟩
  case round=>
   clear Yf Xd Jg;obtain⟨k,q0,q1,q2,hk,rfl,⟨b0,b1,b2⟩,bz,Xx,hB⟩:=hrel;have Jg:=ah Xx;have Xi:=ah bz;have Xt:=bz 0;have Xz:=bz 1;have Xu:=bz 2;have Xo:B3<wr.heap.size:=b_ b0;have⟨⟨x0,x1⟩,⟨J,U,Z⟩,I,Ja,Jc⟩:=Jf wr hB;clear Xx bz;by_cases hlt:k<t.fc.length
   ·by_cases hq:q0=0
    ·subst hq;have X_:Hid (CT t (k+1) (du t k t.fc[k])):=Jg.out.next rfl hlt;have Xm:Hid (Calls prog 21 #[.agg #[.slice ag t.gl.length cg,.slice af t.fc.length cf],V (k:Int)] wr λe w'=>e=rW (BX (du t k t.fc[k]))/\Bl wr w'):=xj Yv t _ _ k wr hlt o_ o_ (Xv.out.f _ (g_ hlt)) (HG.out.below Ja) (HF.out.below Ja);obtain⟨m0,m1,m2,hm⟩:∃m0 m1 m2,du t k t.fc[k]=(m0,m1,m2):=⟨_,_,_,rfl⟩;rw[hm]at X_ Xm;have Jv:Hid (Calls prog 21 #[.agg #[.slice ag t.gl.length cg,.slice af t.fc.length cf],V (k:Int)] wr λe w'=>e=rW (.agg #[V m0,V m1,V m2])/\Bl wr w'):=Xm;clear hm Xm J U Z I;go_wp2_with fail;refine Jv.out.mono ?_;rintro e w4 ⟨rfl,Jm⟩;have⟨⟨c0,c1,c2⟩,cz⟩:=CU ⟨b0,b1,b2⟩ Xi Jm;have Zd:=cz 0;have Zh:=cz 1;have Zc:=cz 2;have Za:Hid (∀o,w4.frozen? ⟨B3,o,none⟩=false):=cz;have Jn:=hB.trans (Jm.mono Jc);have Yw:Hid _:=set3 (u0:=V m0) (u1:=V m1) (u2:=V m2) c0 c1 c2;clear Jm b0 b1 b2 Xt Xz Xu x0 x1 cz Jv;go_wp2;go_roundw
     case rel=>exact⟨k+1,m0,m1,m2,o_,by go_num,Yw,λo=>by simpa using Za o,X_,((Jn.setCell (p:=⟨B3,0,none⟩) Xq _).setCell (p:=⟨B3,1,none⟩) Xq _).setCell (p:=⟨B3,2,none⟩) Xq _⟩
     case measure=>simp[RowKit.intOf];omega
    have HE:Hid (Jd=(q0,q1,q2)):=by have h1:=Jg.out.bad hq;show _=_;rw[Je.out,ru HB.out (by rw[h1];exact hq),h1]
    have e1:(q0 == 0)=false:=(by simpa using hq);have z0:=I 0;have z1:=I 1;have z2:=I 2;clear I;go_wp2_with fail;have⟨t0,t1,t2⟩:=set3 (u0:=V q0) (u1:=V q1) (u2:=V q2) J U Z;refine bodyPost_ret (v:=.agg #[V q0,V q1,V q2]) (by simp[results,results6,go_sem,t0,t1,t2]) rfl ⟨aD (by rw[HE.out];rfl),?_⟩;exact((Ja.setCell (p:=⟨w.heap.size+1,0,none⟩) i_ _).setCell (p:=⟨w.heap.size+1,1,none⟩) i_ _).setCell (p:=⟨w.heap.size+1,2,none⟩) i_ _
   have Yo:k=t.fc.length:=o_;by_cases hq:q0=0
   ·subst hq;subst Yo;have⟨Xc,Yk,Yb⟩:=Jg.out.all rfl;simp only[Prod.mk.injEq,true_and]at Yb;obtain⟨rfl,rfl⟩:=Yb;have⟨m,hm⟩:=iC Xc;have Js:Hid (Jd=dy t m 0 t.fc.length):=Je.out.trans (iX HB Xc Yk hm);have Yx:=dE hm;have Yj:Hid (Calls prog 22 #[.agg #[.slice ag t.gl.length cg,.slice af t.fc.length cf],sV ⟨#[109,97,105,110]⟩] wr λe w'=>e=rW (V (m:Int))/\Bl wr w'):=by
     have:=jh t.fc (.slice ag t.gl.length cg) _ dt wr o_ (HF.out.below Ja)
     rw[ie hm]at this;exact this
    clear Xc Yk hm Jg J U Z I;go_wp2_with fail;refine Yj.out.mono ?_;rintro e w4 ⟨rfl,Jm⟩;have Jn:=hB.trans (Jm.mono Jc);have Yl:=CU ⟨b0,b1,b2⟩ Xi Jm;have Ya:=ah Yl;clear Jm b0 b1 b2 Xt Xz Xu x0 x1 Ja Jc Yl Yj hB Xi Xo;obtain⟨⟨x0,x1⟩,-,-,Ja,Jc⟩:=Jf w4 Jn;have Yi:Hid (∀(W:World) (f:Nat),Bl w4 W->f<t.fc.length->Calls prog 23 #[.agg #[.slice ag t.gl.length cg,.slice af t.fc.length cf],rV W.heap.size 1 1] (W.alloc (.cells #[V (f:Int)] 2)) λe w'=>∃v out,e=rW v/\cy (W.heap.size+1) w' v out/\(∀g,g∈out↔iD t f g)/\out.length<=1000/\Bl W w'):=λW f hW hfl2=>by have hA:Bl W (W.alloc (.cells #[V (f:Int)] 2)):=ao _ _;have Zb:bj (W.alloc (.cells #[V (f:Int)] 2)) (.slice af t.fc.length cf) t.fc:=(HF.out.below (Ja.trans (hW.mono Ja.size))).below hA;refine(uS t (.slice ag t.gl.length cg) _ (rV W.heap.size 1 1) f _ hfl2 o_ Xv.out.sm ⟨_,_,_,rfl⟩ Zb ?_ ?_).mono ?_;refine⟨_,1,rfl,λ_=>⟨W.heap.size,rfl,λj hj=>?_⟩⟩;have Ys:j=0:=(by simp at hj;omega);subst Ys;simp;intro a n c he;simp only[Value.slice.injEq]at he;omega;rintro e w' ⟨v,out,he,h1,h2,h3,h4⟩;simp only[Bl,World.size_alloc]at h1 h4;exact⟨v,out,he,h1,h2,h3,hA.trans (h4.mono o_)⟩
    have⟨i1,hj,Yz,Yn,Yu⟩:=info_parts li;go_wp2_with fail;refine(Yi w4 m r_ Yx).mono ?_;rintro e w5 ⟨v5,out,rfl,Xl,Xw,Zi,J_⟩;have Xn:=ah Xl;have Xy:=ah Xw;obtain⟨a5,c5,rfl⟩:=Xl.shape;have Yt:w4.heap.size<=w5.heap.size:=J_.size;clear Xl Xw x0 x1;go_wp2_with(at_builtin;refine cQ rfl _ _ _ rfl w4.heap.size 2 i1 _ 1 8 underlying34 hj Yz Yn Yu rfl d_ _ out.length (out.map (λg:Nat=>Value.int .i64 (g:Int))) rfl ((cy.base Xn o_).below (ao _ _)) ⟨w5.heap.size,0,none⟩ 1 1 [V (m:Int)] rfl rfl (cell_one_new _ _ _) (by simp[Value.oneCell']) o_ d_ (by simp;omega) ?_);intro v6 w6 Ye Yh Y_;have Xe:Hid (cy w4.heap.size w6 v6 (out++[m])):=by show World.ownsRow _ _ _ _ _ _ _;simpa using Ye
    have Yg:Bl w4 w6:=(J_.alloc J_.size (.cells #[V (m:Int)] 2)).grown Yh (by simp;omega) (λg hg=>by have:=(World.ownsRow.lt Xn.out g hg).1;omega);obtain⟨a6,c6,rfl⟩:=Xe.out.shape;have Xg:(out++[m]).length=out.length+1:=i_;rw[Xg]at Xe⊢;clear Ye Yh Y_ J_ Xn Yt;go_wp2;go_loopw[7] (λi wr=>∃(k:Nat),k<=t.fc.length/\i=V k/\Jd=dy t m k (t.fc.length-k)/\Bl w6 wr) (λi _=>t.fc.length-(RowKit.intOf i).toNat)
    case atStart=>exact⟨0,y_,rfl,by simpa using Js.out,r_⟩
    case round=>
     clear Js;obtain⟨k,hk,rfl,Jt,hB⟩:=hrel;have Js:=ah Jt;have Xa:Bl w4 wr:=Yg.trans (hB.mono Yg.size);obtain⟨⟨x0,x1⟩,⟨J,U,Z⟩,I,Jw,-⟩:=Jf wr (Jn.trans (Xa.mono Jc));have z0:=I 0;have z1:=I 1;have z2:=I 2;obtain⟨⟨b0,b1,b2⟩,-⟩:=CU Ya.out.1 Ya.out.2 Xa;clear Jt I;by_cases hlt:k<t.fc.length
     ·have Xj:Hid (Jd=dy t m k ((t.fc.length-(k+1))+1)):=by show _=_;rw[Js.out];congr 1;omega
      have Ju:Hid (Calls prog 24 #[.slice a6 (out.length+1) c6,V (k:Int)] wr λe w'=>e=rW (.bool (decide (k∈out++[m])))/\Bl wr w'):=lU (out++[m]) _ k wr (by simp;omega) (Xe.out.below hB).ints;clear J U Z z0 z1 z2 b0 b1 b2;go_wp2_with fail;refine Ju.out.mono ?_;rintro e w8 ⟨rfl,Xf⟩;have Xp:=hB.trans (Xf.mono hB.size);have Jy:Bl w4 w8:=Xa.trans (Xf.mono Xa.size);clear x0 x1 Jw Ju Xf;by_cases hin:k∈out++[m]
      ·have HA:Hid (k=m\/iD t m k):=by rw[List.mem_append,List.mem_singleton]at hin;rcases hin with h1|h1;exact .inr ((Xy k).1 h1);exact .inl h1
       rw[decide_eq_true hin];clear hin;obtain⟨⟨x0,x1⟩,-,-,-,-⟩:=Jf w8 (Jn.trans (Jy.mono Jc));go_wp2_with fail;refine(Yi w8 k Jy hlt).mono ?_;rintro e w10 ⟨Zg,Jb,rfl,Ji,Jp,Yp,Jk⟩;obtain⟨Yq,Yr,rfl⟩:=Ji.shape;have Ju:Hid (Calls prog 24 #[.slice Yq Jb.length Yr,V (k:Int)] w10 λe w'=>e=rW (.bool (decide (k∈Jb)))/\Bl w10 w'):=lU Jb _ k w10 o_ Ji.ints;have Jr:=Xp.trans (Jk.mono Xp.size);have Jo:Bl w4 w10:=Jy.trans (Jk.mono Jy.size);have Jq:=ah Jp;clear x0 x1 Ji Jk Jp;go_wp2_with fail;refine Ju.out.mono ?_;rintro e w12 ⟨rfl,Jj⟩;have Xs:=Jr.trans (Jj.mono Jr.size);have Xr:Bl w4 w12:=Jo.trans (Jj.mono Jo.size);clear Ju Jj;by_cases h10:k∈Jb
       ·rw[decide_eq_true h10];have HE:Hid (Jd=(7,(k:Int),-1)):=(by show _=_;rw[Xj.out];exact lM ⟨HA,(Jq k).1 h10⟩);obtain⟨-,⟨J,U,Z⟩,I,Ja,-⟩:=Jf w12 (Jn.trans (Xr.mono Jc));have z0:=I 0;have z1:=I 1;have z2:=I 2;clear I h10;go_wp2_with fail;have⟨t0,t1,t2⟩:=set3 (u0:=V 7) (u1:=V (k:Int)) (u2:=V (-1)) J U Z;refine bodyPost_ret (v:=.agg #[V 7,V (k:Int),V (-1)]) (by simp[results,results6,go_sem,t0,t1,t2]) rfl ⟨aD (by rw[HE.out];rfl),?_⟩;exact((Ja.setCell (p:=⟨w.heap.size+1,0,none⟩) i_ _).setCell (p:=⟨w.heap.size+1,1,none⟩) i_ _).setCell (p:=⟨w.heap.size+1,2,none⟩) i_ _
       rw[decide_eq_false h10];have HN:Hid (Jd=dy t m (k+1) (t.fc.length-(k+1))):=(by show _=_;rw[Xj.out];exact gZ (λh=>h10 ((Jq k).2 h.2)));clear h10;go_wp2;go_roundw
       case rel=>exact⟨k+1,o_,by go_num,HN,Xs⟩
       case measure=>simp[RowKit.intOf];omega
      rw[decide_eq_false hin];have HN:Hid (Jd=dy t m (k+1) (t.fc.length-(k+1))):=by show _=_;rw[Xj.out];refine gZ (λh=>hin ?_);rw[List.mem_append,List.mem_singleton];rcases h.1 with h1|h1;exact .inr h1;exact .inl ((Xy k).2 h1)
      clear hin;go_wp2;go_roundw
      case rel=>exact⟨k+1,o_,by go_num,HN,Xp⟩
      case measure=>simp[RowKit.intOf];omega
     have HE:Hid (Jd=(0,-1,-1)):=by show _=_;have e:t.fc.length-k=0:=o_;rw[Js.out,e];rfl
     have Ja:=Jw;go_wp2_with fail;have⟨t0,t1,t2⟩:=set3 (u0:=V 0) (u1:=V (-1)) (u2:=V (-1)) J U Z;refine bodyPost_ret (v:=.agg #[V 0,V (-1),V (-1)]) (by simp[results,results6,go_sem,t0,t1,t2]) rfl ⟨aD (by rw[HE.out];rfl),?_⟩;exact((Ja.setCell (p:=⟨w.heap.size+1,0,none⟩) i_ _).setCell (p:=⟨w.heap.size+1,1,none⟩) i_ _).setCell (p:=⟨w.heap.size+1,2,none⟩) i_ _
   have HE:Hid (Jd=(q0,q1,q2)):=by have h1:=Jg.out.bad hq;show _=_;rw[Je.out,ru HB.out (by rw[h1];exact hq),h1]
   have e1:(q0 == 0)=false:=(by simpa using hq);have z0:=I 0;have z1:=I 1;have z2:=I 2;clear I;go_wp2_with fail;have⟨t0,t1,t2⟩:=set3 (u0:=V q0) (u1:=V q1) (u2:=V q2) J U Z;refine bodyPost_ret (v:=.agg #[V q0,V q1,V q2]) (by simp[results,results6,go_sem,t0,t1,t2]) rfl ⟨aD (by rw[HE.out];rfl),?_⟩;exact((Ja.setCell (p:=⟨w.heap.size+1,0,none⟩) i_ _).setCell (p:=⟨w.heap.size+1,1,none⟩) i_ _).setCell (p:=⟨w.heap.size+1,2,none⟩) i_ _
end
