import Derived.Test.YtlamjfhhefcohaaGreatDoorP04
import Derived.Test.YtlamjfhhefcohaaGreatDoorP12
set_option linter.unusedSectionVars false
variable [Inhabited Go.Proofs.YtlamjfhhefcohaaGreatDoor.Pick]
namespace Go.Proofs.YtlamjfhhefcohaaGreatDoor
open Go.Proofs.Tryz
open Go.RowKit
set_option linter.all false
set_option maxRecDepth 100000
set_option maxHeartbeats 16000000
variable{w X X':World}{M:Nat}{u0 u1 u2:Value}{s:PS}{α:Type}{least:Int}
def DS(n:Nd):Value:=.agg #[.int .i64 n.kind,.int .i64 n.val,.string n.name]
theorem lB(hm:aR X M [u0,u1,u2])(hb:Below w.heap.size w X)(hM:w.heap.size<=M)(n:Nd)(hX:X'=(((X.setCell ⟨M,0,none⟩ (.int .i64 n.kind)).setCell ⟨M,1,none⟩ (.int .i64 n.val)).setCell ⟨M,2,none⟩ (.string n.name)).drew):
  (X'.cell? ⟨M,0,none⟩=some (.int .i64 n.kind)/\X'.cell? ⟨M,1,none⟩=some (.int .i64 n.val)/\X'.cell? ⟨M,2,none⟩=some (.string n.name))/\Below w.heap.size w X':=by
 subst hX;have h:=(((hm.set 0 (.int .i64 n.kind)).set 1 (.int .i64 n.val)).set 2 (.string n.name)).below r_.drew;exact⟨⟨(h 0 _ rfl).1,(h 1 _ rfl).1,(h 2 _ rfl).1⟩,(((hb.setCell (p:=⟨M,0,none⟩) hM _).setCell (p:=⟨M,1,none⟩) hM _).setCell (p:=⟨M,2,none⟩) hM _).drew⟩
theorem uq(hm:aR X M [u0,u1,u2])(hb:Below w.heap.size w X)(hM:w.heap.size<=M)(n:Nd)(hX:X'=((X.setCell ⟨M,0,none⟩ (.int .i64 n.kind)).setCell ⟨M,1,none⟩ (.int .i64 n.val)).setCell ⟨M,2,none⟩ (.string n.name)):
  (X'.cell? ⟨M,0,none⟩=some (.int .i64 n.kind)/\X'.cell? ⟨M,1,none⟩=some (.int .i64 n.val)/\X'.cell? ⟨M,2,none⟩=some (.string n.name))/\Below w.heap.size w X':=by
 subst hX;have h:=((hm.set 0 (.int .i64 n.kind)).set 1 (.int .i64 n.val)).set 2 (.string n.name);exact⟨⟨(h 0 _ rfl).1,(h 1 _ rfl).1,(h 2 _ rfl).1⟩,((hb.setCell (p:=⟨M,0,none⟩) hM _).setCell (p:=⟨M,1,none⟩) hM _).setCell (p:=⟨M,2,none⟩) hM _⟩
theorem Cr{T:Nat->To}(h1:aC T [124,124] s=false)(h2:aC T [38,38] s=false):gi T s=(fq.drop 2).find? (fun o=>aC T o.1 s):=by
 unfold gi fq;simp only[List.find?_cons,h1,h2,List.drop_succ_cons,List.drop_zero]
theorem nM(k:Nat)(hk:k<16):(fq.drop 2)[k]'(by show k<16;exact hk)=(dR.getD k [],⟨7,(k:Int),tx []⟩,strN ⟨7,(k:Int),tx []⟩):=by
 have:k=0∨k=1∨k=2∨k=3∨k=4∨k=5∨k=6∨k=7∨k=8∨k=9∨k=10∨k=11∨k=12∨k=13∨k=14∨k=15:=by omega
 rcases this with rfl|rfl|rfl|rfl|rfl|rfl|rfl|rfl|rfl|rfl|rfl|rfl|rfl|rfl|rfl|rfl <;> rfl
theorem nO{p:α->Bool}{l:List α}{k:Nat}(hk:k<l.length)(h:∀j (hj:j<k),p (l[j]'(by omega))=false)(hp:p l[k]=true):l.find? p=some l[k]:=by
 rw[List.find?_eq_some_iff_getElem];exact⟨hp,k,hk,rfl,fun j hj=>by rw[h j hj];rfl⟩
theorem zN{p:α->Bool}{l:List α}(h:∀j (hj:j<l.length),p l[j]=false):l.find? p=none:=by
 rw[List.find?_eq_none];intro x hx;obtain⟨j,hj,rfl⟩:=List.getElem_of_mem hx;rw[h j hj];simp
def Fb(T:Nat->To)(s:PS)(least:Int)(e:Ending):Prop:=∃(b:Bool) (n:Nd),e=.returned (.tuple #[.bool b,DS n])/\(∀x,gi T s=some x->n=x.2.1/\b=decide (least<=x.2.2))/\(gi T s=none->b=false)
theorem qG{T:Nat->To}{x:List UInt8×Nd×Int}(h:gi T s=some x):Fb T s least (.returned (.tuple #[.bool (decide (least<=x.2.2)),DS x.2.1])):=⟨_,_,rfl,fun y hy=>by rw[h]at hy;cases hy;exact⟨rfl,rfl⟩,fun hn=>by rw[h]at hn;cases hn⟩
theorem pC(k:Nat)(hk:k<16):aB ⟨7,(k:Int),tx []⟩=true:=by
 unfold aB;simp only[show ¬((7:Int)=1) by decide,show ¬((7:Int)=2∨(7:Int)=3) by decide,show ¬((7:Int)=4) by decide,show ¬((7:Int)=6) by decide,if_false,if_true,Bool.and_eq_true,decide_eq_true_eq];exact⟨o_,by simp[tx,ByteArray.toList_eq]⟩
theorem DT{T:Nat->To}(n:Nd)(h:gi T s=none):Fb T s least (.returned (.tuple #[.bool false,DS n])):=⟨_,_,rfl,fun y hy=>(by rw[h]at hy;cases hy),fun _=>rfl⟩
theorem mI{G:GT}(h:aN G w s)(least:Int):Calls prog 153 #[.pointer (some ⟨G.P,0,none⟩),.int .i64 least] w fun e w'=>Fb G.T s least e/\Below w.heap.size w w':=by
 obtain⟨W1,Jw⟩:=q_ ((w.alloc (.cells #[.int .i64 0,.int .i64 0,.string ⟨#[]⟩] 48)).alloc (.cells #[.int .i64 9,.int .i64 0,.string ⟨#[]⟩] 48));obtain⟨B,hB⟩:=q_ w.heap.size;have Xp:∀o,Bl w (w.alloc o):=fun o=>r_.alloc n_ _;have Xu:Bl w W1:=by rw[Jw];exact(Xp _).alloc (Xp _).size _
 have Yl:aR W1 B [.int .i64 0,.int .i64 0,.string ⟨#[]⟩]:=by rw[Jw,hB];exact(aJ w #[.int .i64 0,.int .i64 0,.string ⟨#[]⟩] 48 (by show 3<=1000;omega)).below (aD _ _)
 have Yo:aR W1 (B+1) [.int .i64 9,.int .i64 0,.string ⟨#[]⟩]:=by
  rw[Jw,hB];have:=aJ (w.alloc (.cells #[.int .i64 0,.int .i64 0,.string ⟨#[]⟩] 48)) #[.int .i64 9,.int .i64 0,.string ⟨#[]⟩] 48 (by show 3<=1000;omega);rw[World.size_alloc]at this;exact this
 have Jk:=ah (aE (h.below Xu) [124,124]);have H:=ah h;have Xt:=ah Yl;have Xv:=ah Yo;have Js:=ah Xu;have Xz:=ah Jw;have HB:=ah hB;have Jn:Hid (w.heap.size<=B):=Nat.le_of_eq hB.symm;have Zi:G.P<B:=by rw[hB];exact h.lt.1
 clear h Jw hB Xp Xu Yl Yo;cases h1:aC G.T [124,124] s with
 | true=>
  rw[h1]at Jk;have Je:gi G.T s=some ([124,124],⟨9,0,tx []⟩,1):=nO (p:=fun o:List UInt8×Nd×Int=>aC G.T o.1 s) (l:=fq) (k:=0) d_ (fun j hj=>by omega) h1;have Jj:=ah (qG (least:=least) Je);clear Je h1;go_enter func153,ntmps153;go_upto_region 2 with fail;rw[<-Xz.out,<-HB.out];go_wp2_with fail;refine Jk.out.mono ?_;rintro e w2 ⟨rfl,Jb⟩;have Jd:=Xt.out.below Jb;have Jc:=Xv.out.below Jb;obtain⟨y0,z0⟩:=Jd 0 _ rfl;obtain⟨y1,z1⟩:=Jd 1 _ rfl;obtain⟨y2,z2⟩:=Jd 2 _ rfl;have m0:=(Jc 0 _ rfl).1;have m1:=(Jc 1 _ rfl).1;have m2:=(Jc 2 _ rfl).1;have Yv:=ah Jd;have Yw:=ah (Js.out.trans (Jb.mono Js.out.size));have nB:¬B=B+1:=o_;clear Jd Jc Jb Jk;go_wp2_with fail;go_region;go_wp2_with fail;obtain⟨X,hX⟩:=q_ ((((w2.setCell ⟨B,0,none⟩ (.int .i64 9)).setCell ⟨B,1,none⟩ (.int .i64 0)).setCell ⟨B,2,none⟩ (.string ⟨#[]⟩)).drew);rw[<-hX];obtain⟨⟨t0,t1,t2⟩,hE⟩:=lB (n:=⟨9,0,tx []⟩) Yv.out Yw.out Jn.out hX;exact bodyPost_ret (v:=.tuple #[.bool (decide (least<=1)),.agg #[.int .i64 9,.int .i64 0,.string ⟨#[]⟩]]) (by simp[results,results153,go_sem];first|(rw[t0,t1,t2];rfl)|simp[t0,t1,t2,tx]) rfl ⟨Jj,hE⟩
 | false=>
  rw[h1]at Jk;cases h2:aC G.T [38,38] s with
  | true=>
   have Je:gi G.T s=some ([38,38],⟨8,0,tx []⟩,2):=nO (p:=fun o:List UInt8×Nd×Int=>aC G.T o.1 s) (l:=fq) (k:=1) d_ (fun j hj=>by cases j with|zero=>exact h1|succ j=>omega) h2;have Jj:=ah (qG (least:=least) Je);have H2:=ah h2;clear Je h1 h2;go_enter func153,ntmps153;go_upto_region 2 with fail;rw[<-Xz.out,<-HB.out];go_wp2_with fail;refine Jk.out.mono ?_;rintro e w2 ⟨rfl,Jb⟩;have Jd:=Xt.out.below Jb;have Jc:=Xv.out.below Jb;have Ja:=Js.out.trans (Jb.mono Js.out.size);obtain⟨W3,Ji⟩:=q_ (w2.setCell ⟨B+1,0,none⟩ (.int .i64 8));have Jg:am (fun k=>k=B+1) w2 W3:=by rw[Ji];exact(am.refl (fun k=>k=B+1) w2).setCell (p:=⟨B+1,0,none⟩) rfl _
   have Ju:aR W3 (B+1) [.int .i64 8,.int .i64 0,.string ⟨#[]⟩]:=by rw[Ji];exact Jc.set 0 _
   have Xj:B<w2.heap.size:=b_ (Jd 0 _ rfl).1;have Jz:=Jd.tcs Xj Jg (fun e=>by omega);have Jy:=Jg.below Ja Ja.size (fun k hk=>by have:=Jn.out;omega);have h3:=(H.out.below Ja).tcs Jg (fun e=>by omega) (fun e=>by have:=(H.out.lt).2;have:=HB.out;omega);have Jo:=ah (aE h3 [38,38]);rw[H2.out]at Jo;have c0:=(Jc 0 _ rfl).1;have f0:=(Jc 0 _ rfl).2;have Xh:=ah Jz;have Xb:=ah Ju;have Jq:=ah Jy;have Yc:=ah Ji;clear Jd Jc Jb Jk Ja Ji Jg Ju Jz Jy h3;go_wp2_with fail;rw[<-Yc.out];refine Jo.out.mono ?_;rintro e w4 ⟨rfl,Jf⟩;have Xa:=Xh.out.below Jf;have Xg:=Xb.out.below Jf;obtain⟨y0,z0⟩:=Xa 0 _ rfl;obtain⟨y1,z1⟩:=Xa 1 _ rfl;obtain⟨y2,z2⟩:=Xa 2 _ rfl;have m0:=(Xg 0 _ rfl).1;have m1:=(Xg 1 _ rfl).1;have m2:=(Xg 2 _ rfl).1;have Jt:=ah Xa;have Jv:=ah (Jq.out.trans (Jf.mono Jq.out.size));have nB:¬B=B+1:=o_;clear Xa Xg Jf Jo c0 f0;go_wp2_with fail;go_region;go_wp2_with fail;obtain⟨X,hX⟩:=q_ ((((w4.setCell ⟨B,0,none⟩ (.int .i64 8)).setCell ⟨B,1,none⟩ (.int .i64 0)).setCell ⟨B,2,none⟩ (.string ⟨#[]⟩)).drew);rw[<-hX];obtain⟨⟨t0,t1,t2⟩,hE⟩:=lB (n:=⟨8,0,tx []⟩) Jt.out Jv.out Jn.out hX;exact bodyPost_ret (v:=.tuple #[.bool (decide (least<=2)),.agg #[.int .i64 8,.int .i64 0,.string ⟨#[]⟩]]) (by simp[results,results153,go_sem];first|(rw[t0,t1,t2];rfl)|simp[t0,t1,t2,tx]) rfl ⟨Jj,hE⟩
  | false=>
   have Ye:=ah (Cr h1 h2);have H2:=ah h2;clear h1 h2;go_enter func153,ntmps153;go_upto_region 2 with fail;rw[<-Xz.out,<-HB.out];go_wp2_with fail;refine Jk.out.mono ?_;rintro e w2 ⟨rfl,Jb⟩;have Jd:=Xt.out.below Jb;have Jc:=Xv.out.below Jb;have Ja:=Js.out.trans (Jb.mono Js.out.size);obtain⟨W3,Ji⟩:=q_ (w2.setCell ⟨B+1,0,none⟩ (.int .i64 8));have Jg:am (fun k=>k=B+1) w2 W3:=by rw[Ji];exact(am.refl (fun k=>k=B+1) w2).setCell (p:=⟨B+1,0,none⟩) rfl _
   have Ju:aR W3 (B+1) [.int .i64 8,.int .i64 0,.string ⟨#[]⟩]:=by rw[Ji];exact Jc.set 0 _
   have Xj:B<w2.heap.size:=b_ (Jd 0 _ rfl).1;have Jz:=Jd.tcs Xj Jg (fun e=>by omega);have Jy:=Jg.below Ja Ja.size (fun k hk=>by have:=Jn.out;omega);have h3:=(H.out.below Ja).tcs Jg (fun e=>by omega) (fun e=>by have:=(H.out.lt).2;have:=HB.out;omega);have Jo:=ah (aE h3 [38,38]);rw[H2.out]at Jo;have c0:=(Jc 0 _ rfl).1;have f0:=(Jc 0 _ rfl).2;have Xh:=ah Jz;have Xb:=ah Ju;have Jq:=ah Jy;have Yc:=ah Ji;have Yh:=ah h3;clear Jd Jc Jb Jk Ja Ji Jg Ju Jz Jy h3 Xj;go_wp2_with fail;rw[<-Yc.out];refine Jo.out.mono ?_;rintro e w4 ⟨rfl,Jf⟩;have Jt:=ah (Xh.out.below Jf);have Xx:=ah (Xb.out.below Jf);have Xs:=ah (Yh.out.below Jf);have Jv:=ah (Jq.out.trans (Jf.mono Jq.out.size));clear Jf Jo c0 f0 Xh Xb Yh Jq;go_wp2_with fail;refine(rV w4).mono ?_;rintro e w5 ⟨rfl,J_,Yf,Xo⟩;obtain⟨bO,Xq⟩:=q_ w4.heap.size;rw[<-Xq];rw[<-Xq]at Xo Yf;have Yz:G.P<bO/\G.bT<bO/\B<bO/\B+1<bO:=by
    have:=Xs.out.lt
    have Zh:B<w4.heap.size:=b_ (Jt.out 0 _ rfl).1;have Zf:B+1<w4.heap.size:=b_ (Xx.out 0 _ rfl).1;omega
   have Jx:Hid (aN G w5 s/\aR w5 B [.int .i64 0,.int .i64 0,.string ⟨#[]⟩]/\aR w5 (B+1) [.int .i64 8,.int .i64 0,.string ⟨#[]⟩]/\(∀m,m<16->w5.cell? ⟨bO,m,none⟩=some (.string (tx (dR.getD m []))))/\Bl w w5/\bO<w5.heap.size):=⟨Xs.out.below J_,Jt.out.below J_,Xx.out.below J_,Xo,Jv.out.trans (J_.mono Jv.out.size),Yf⟩;have Xy:¬G.bT=B+1:=by have:=(H.out.lt).2;have:=HB.out;omega
   clear J_ Xo Yf Xq Jt Xx Xs Jv;go_wp2;go_loopw[8] (fun i wr=>∃(k:Nat) (a b:Int),i=.int .i64 (k:Int)/\k<=16/\(∀j,j<k->aC G.T (dR.getD j []) s=false)/\aN G wr s/\aR wr B [.int .i64 0,.int .i64 0,.string ⟨#[]⟩]/\aR wr (B+1) [.int .i64 a,.int .i64 b,.string ⟨#[]⟩]/\(∀m,m<16->wr.cell? ⟨bO,m,none⟩=some (.string (tx (dR.getD m []))))/\Bl w wr/\bO<wr.heap.size) (fun i _=>16-(RowKit.intOf i).toNat)
   case atStart=>exact⟨0,8,0,rfl,o_,fun j hj=>by omega,Jx⟩
   case round=>
    clear Jx;obtain⟨k,a,b,rfl,hk,Xd,hP,hx,hm,hc,hb,hz⟩:=hrel;have Xe:=ah Xd;have HX:=ah hx;have Hb:=ah hb;by_cases hlt:k<16
    ·have Zg:(k:Int)<16:=o_
     obtain⟨y0,z0⟩:=hm 0 _ rfl;obtain⟨y1,z1⟩:=hm 1 _ rfl;obtain⟨y2,z2⟩:=hm 2 _ rfl;obtain⟨W6,Xc⟩:=q_ (((wr.setCell ⟨B+1,0,none⟩ (.int .i64 7)).setCell ⟨B+1,1,none⟩ (.int .i64 (k:Int))).setCell ⟨B+1,2,none⟩ (.string ⟨#[]⟩));have Jr:am (fun k=>k=B+1) wr W6:=by rw[Xc];exact(((am.refl (fun k=>k=B+1) wr).setCell (p:=⟨B+1,0,none⟩) rfl _).setCell (p:=⟨B+1,1,none⟩) rfl _).setCell (p:=⟨B+1,2,none⟩) rfl _
     have Yn:aR W6 (B+1) [.int .i64 7,.int .i64 (k:Int),.string ⟨#[]⟩]:=by rw[Xc];exact((hm.set 0 _).set 1 _).set 2 _
     have Xn:=hP.tcs Jr (fun e=>by omega) Xy;have Yg:=hx.tcs (b_ (hx 0 _ rfl).1) Jr (fun e=>by omega);have Ya:∀m,m<16->W6.cell? ⟨bO,m,none⟩=some (.string (tx (dR.getD m []))):=fun m hm=>(c_ (a:=⟨bO,m,none⟩) (Jr.block bO hz (fun e=>by omega))).trans (hc m hm);have Yk:=Jr.below hb hb.size (fun k hk=>by have:=Jn.out;omega);have Zd:=Ya k hlt;have Yb:=ah (aE Xn (dR.getD k []));have Y_:=ah Yg;have Za:=ah Yn;have Zb:=ah Xn;have Yt:=ah Ya;have Ym:=ah Yk;have Yx:=ah Xc;have Yj:bO<W6.heap.size:=l_ hz Jr.size;clear Xd hP hx hm hc hb Xc Jr Yn Xn Yg Ya Yk HX Hb hz;generalize htxt:dR.getD k []=ok at*;have Xw:=ah htxt;clear htxt;go_upto_region 12 with fail;rw[<-Yx.out];go_wp2_with fail;refine Yb.out.mono ?_;rintro e w7 ⟨rfl,Jl⟩;have Jp:=Y_.out.below Jl;have Jm:=Za.out.below Jl;have Jh:=Ym.out.trans (Jl.mono Ym.out.size);clear Zd y0 z0 y1 z1 y2 z2;cases hi:aC G.T ok s with
     | true=>
      have Je:gi G.T s=some (dR.getD k [],⟨7,(k:Int),tx []⟩,strN ⟨7,(k:Int),tx []⟩):=by
       rw[Ye.out,<-nM k hlt];exact nO (p:=fun o:List UInt8×Nd×Int=>aC G.T o.1 s) (l:=fq.drop 2) (k:=k) (by show k<16;exact hlt) (fun j hj=>by rw[nM j o_];exact Xe.out j hj) (by rw[nM k hlt];rw[Xw.out];exact hi)
      have Jj:=ah (qG (least:=least) Je);obtain⟨st,Xl⟩:=q_ (strN ⟨7,(k:Int),tx []⟩);rw[<-Xl]at Jj;have Yu:Hid (∀W,Calls prog 115 #[.agg #[.int .i64 7,.int .i64 (k:Int),.string ⟨#[]⟩]] W fun e w'=>e=.returned (.int .i64 st)/\Bl W w'):=fun W=>by rw[Xl];exact iM ⟨7,(k:Int),tx []⟩ (pC k hlt) W
      obtain⟨y0,z0⟩:=Jp 0 _ rfl;obtain⟨y1,z1⟩:=Jp 1 _ rfl;obtain⟨y2,z2⟩:=Jp 2 _ rfl;have m0:=(Jm 0 _ rfl).1;have m1:=(Jm 1 _ rfl).1;have m2:=(Jm 2 _ rfl).1;have Xm:=ah Jp;have Xk:=ah Jm;have Xf:=ah Jh;have nB:¬B=B+1:=o_;clear Je Xl hi Jp Jm Jh Jl Yb Xe Ye Xw;go_wp2_with fail;go_region_held (fun W=>W.cell? ⟨B+1,0,none⟩=some (.int .i64 7)/\W.cell? ⟨B+1,1,none⟩=some (.int .i64 (k:Int))/\W.cell? ⟨B+1,2,none⟩=some (.string ⟨#[]⟩)) (go_keep)
       (first
       | ((with_reducible refine Calls.mono (Yu.out _) ?_);intro x wn hx;obtain⟨Zc,Yy⟩:=hx;subst Zc;have Xr:Bl w7 wn:=(r_.drew).trans (Yy.mono i_);have Yd:=Xk.out.below Xr;have q:wn.cell? ⟨B+1,0,none⟩=some (.int .i64 7)/\wn.cell? ⟨B+1,1,none⟩=some (.int .i64 (k:Int))/\wn.cell? ⟨B+1,2,none⟩=some (.string ⟨#[]⟩):=⟨(Yd 0 _ rfl).1,(Yd 1 _ rfl).1,(Yd 2 _ rfl).1⟩;have Xi:=Xm.out.below Xr;obtain⟨y0,z0⟩:=Xi 0 _ rfl;obtain⟨y1,z1⟩:=Xi 1 _ rfl;obtain⟨y2,z2⟩:=Xi 2 _ rfl;have Yp:=ah Xi;have Ys:=ah (Xf.out.trans (Xr.mono Xf.out.size))))
      go_wp2_with fail;obtain⟨X,hX⟩:=q_ ((((wn.setCell ⟨B,0,none⟩ (.int .i64 7)).setCell ⟨B,1,none⟩ (.int .i64 (k:Int))).setCell ⟨B,2,none⟩ (.string ⟨#[]⟩)));rw[<-hX];obtain⟨⟨t0,t1,t2⟩,hE⟩:=uq (n:=⟨7,(k:Int),⟨#[]⟩⟩) Yp.out Ys.out Jn.out hX;exact bodyPost_ret (v:=.tuple #[.bool (decide (least<=st)),.agg #[.int .i64 7,.int .i64 (k:Int),.string ⟨#[]⟩]]) (by simp[results,results153,go_sem];first|(rw[t0,t1,t2];rfl)|simp[t0,t1,t2,tx]) rfl ⟨Jj,hE⟩
     | false=>
      have Ze:=ah (Zb.out.below Jl);have Yr:=ah fun m (hm:m<16)=>(Jl.cell (p:=⟨bO,m,none⟩) Yj).trans (Yt.out m hm);have X_:Hid (∀j,j<k+1->aC G.T (dR.getD j []) s=false):=fun j hj=>by
       by_cases e:j=k
       ·subst e;rw[Xw.out];exact hi
       ·exact Xe.out j o_
      have Xm:=ah Jp;have Xk:=ah Jm;have Xf:=ah Jh;have Yq:bO<w7.heap.size:=l_ Yj Jl.size;clear hi Jp Jm Jh Jl Yb;go_wp2;go_roundw
      case rel=>exact⟨k+1,7,(k:Int),by go_num,o_,X_,Ze,Xm,Xk,Yr,Xf,Yq⟩
      case measure=>simp[RowKit.intOf];omega
    ·obtain rfl:k=16:=by omega
     have Je:gi G.T s=none:=by
      rw[Ye.out];exact zN (fun j hj=>by
       have Yi:j<16:=hj;rw[nM j Yi];exact Xd j Yi)
     have Jj:=ah (DT (least:=least) ⟨a,b,tx []⟩ Je);obtain⟨y0,z0⟩:=hx 0 _ rfl;obtain⟨y1,z1⟩:=hx 1 _ rfl;obtain⟨y2,z2⟩:=hx 2 _ rfl;have m0:=(hm 0 _ rfl).1;have m1:=(hm 1 _ rfl).1;have m2:=(hm 2 _ rfl).1;have nB:¬B=B+1:=o_;clear Je Xd hP hx hm hc hb hz Xe;go_wp2_with fail;go_region;go_wp2_with fail;obtain⟨X,hX⟩:=q_ ((((wr.setCell ⟨B,0,none⟩ (.int .i64 a)).setCell ⟨B,1,none⟩ (.int .i64 b)).setCell ⟨B,2,none⟩ (.string ⟨#[]⟩)).drew);rw[<-hX];obtain⟨⟨t0,t1,t2⟩,hE⟩:=lB (n:=⟨a,b,⟨#[]⟩⟩) HX.out Hb.out Jn.out hX;exact bodyPost_ret (v:=.tuple #[.bool false,.agg #[.int .i64 a,.int .i64 b,.string ⟨#[]⟩]]) (by simp[results,results153,go_sem];first|(rw[t0,t1,t2];rfl)|simp[t0,t1,t2,tx]) rfl ⟨Jj,hE⟩
end Go.Proofs.YtlamjfhhefcohaaGreatDoor
