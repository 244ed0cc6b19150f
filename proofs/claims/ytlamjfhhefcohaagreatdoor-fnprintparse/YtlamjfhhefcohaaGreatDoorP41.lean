import Derived.Test.YtlamjfhhefcohaaGreatDoorP40
import Derived.Deep.CutRange
import Derived.Test.YtlamjfhhefcohaaGreatDoorP09
set_option linter.unusedSectionVars false
variable [Inhabited Go.Proofs.YtlamjfhhefcohaaGreatDoor.Pick]
namespace Go.Proofs.YtlamjfhhefcohaaGreatDoor
open Go.Proofs.Tryz
open Go.RowKit
set_option linter.all false
set_option maxRecDepth 100000
set_option maxHeartbeats 16000000
theorem uH(w0:World)(P:Nat)(e:List Nd)(A:Nat)(b:Nat->Nat)(S:Nat->List UInt8)(Jx:Cut e A b)(h0:w0.heap.size<=P)(hT:dz w0)(Zf:kr w0)(Zg:jI w0)(Zh:e.length<=1048576)(hX:∀i,i<A->eU w0 P (bH e b i) (S i)):
  eU w0 P e (dS (ay e) A S (fun i=>strN (ay (bH e b i)))):=by
 intro v l w hN hB hO hl;obtain⟨HN,HB,HO,HT,Xj,Vb,Je,HX⟩:=h8 hN hB hO hT Zf Zg Jx hX;have he:=Jx.len;have HG:Hid (aB (ay e)=true):=Jx.root_good;have HA:Hid (arity (ay e)=A):=Jx.ar;obtain⟨m,hm⟩:∃m,e.length=m+1:=⟨e.length-1,o_⟩;have Vh:=hN.below hB;have HP:=ah fun (W:World) (hW:Bl w W)=>tT w0 v e A b W ((hT.below hT.size hB).below (hT.below hT.size hB).size hW) Zh hN (hB.trans (hW.mono hB.size)) Jx;obtain⟨a,Vw,rfl,Vm,Vx,hc⟩:=Vh;obtain⟨bb,Jn,rfl,Yq⟩:=hc he;obtain⟨d0,d1,d2⟩:=Yq m o_;have hr:e[m]=ay e:=by rw[co e he];simp[hm]
 rw[hr]at d0 d1 d2;have Xo:bb<w.heap.size:=b_ d0;clear hB hO hT hc Yq hr hN Jx hX Zf Zg;generalize hR:ay e=R at d0 d1 d2 hl HG HA⊢;clear hR;obtain⟨nk,nv,nm⟩:=R;obtain⟨nl,rfl⟩:∃nl,nm=tx nl:=⟨_,(dw nm).symm⟩;simp only at d0 d1 d2;generalize hTx:dS ⟨nk,nv,tx nl⟩ A S (fun i=>strN (ay (bH e b i)))=T at hl⊢;have Jp:Hid (dS ⟨nk,nv,tx nl⟩ A S (fun i=>strN (ay (bH e b i)))=T):=hTx;have HL:=ah hl;clear hl hTx;have e1:((m+1:Nat):Int)-1=(m:Int):=o_;rw[hm]at HN Vm HP Zh⊢;have HM:=ah hm;clear hm;have Zm:(0:Int)<=(m:Int):=o_;have Zp:(m:Int)<(m:Int)+1:=o_;have Zs:(m:Int)+1-1=(m:Int):=o_;have Vk:IntKind.i64.wrap (m:Int)=(m:Int):=by rw[wrap64];omega
 have Vf:IntKind.i64.wrap ((m:Int)+1-1)=(m:Int):=by rw[wrap64];omega
 have Vj:IntKind.i64.wrap (((m+1:Nat):Int)-1)=(m:Int):=by rw[wrap64];omega
 have Zt:((m+1:Nat):Int)=(m:Int)+1:=o_;have HD:Hid (Bl w w.drew):=r_.drew;have Xm:Hid (∀o,Bl w (w.alloc o).drew):=fun o=>(r_.alloc n_ o).drew;have Yy:=ah (HP.out w.drew HD);have Ym:=ah fun o=>HP.out ((w.alloc o).drew) (Xm.out o);have HQ:Hid (∀W:World,Bl w W->W.cell? ⟨bb,Jn+m*3,none⟩=some (.int .i64 nk)/\W.cell? ⟨bb,Jn+m*3+1,none⟩=some (.int .i64 nv)/\W.cell? ⟨bb,Jn+m*3+2,none⟩=some (.string (tx nl))):=fun W hW=>⟨(hW.cell (p:=⟨bb,Jn+m*3,none⟩) Xo).trans d0,(hW.cell (p:=⟨bb,Jn+m*3+1,none⟩) Xo).trans d1,(hW.cell (p:=⟨bb,Jn+m*3+2,none⟩) Xo).trans d2⟩;have Ze:=ah fun (w2:World) (h:Bl w.drew w2)=>HQ.out w2 (HD.out.trans (h.mono i_));have Yz:=ah fun (o:Obj) (w2:World) (h:Below (w.alloc o).drew.heap.size (w.alloc o).drew w2)=>HQ.out w2 ((Xm.out o).trans (h.mono i_));have Xc:=ah fun (w2:World) (h:Below ((w.alloc (.cells #[.int .i64 0,.int .i64 0,.string {data:=#[]}] 48)).drew).heap.size ((w.alloc (.cells #[.int .i64 0,.int .i64 0,.string {data:=#[]}] 48)).drew) w2)=>An h;have Zn:w.heap.size≠bb:=o_
 have X_:¬w.heap.size=bb:=o_;have Xz:¬bb=w.heap.size:=o_;go_enter func169,ntmps169;go_upto_region 0 with fail;go_cut [4,5]from 9 (fun g ps W=>∃G,g=.pointer (some ⟨G,0,none⟩)/\Fo P W G nk nv (tx nl)/\kq w0 P W ps e b A/\Bl w W)
 case first=>
  go_region_held (fun W=>W.cell? ⟨bb,Jn+m*3,none⟩=some (.int .i64 nk)/\W.cell? ⟨bb,Jn+m*3+1,none⟩=some (.int .i64 nv)/\W.cell? ⟨bb,Jn+m*3+2,none⟩=some (.string (tx nl))) (go_keep)
   (first
   | (with_reducible refine Calls.mono Yy.out ?_;intro x w2 hx;obtain⟨v',Jo,hK,Jq⟩:=hx;subst Jo;have q2:=Ze.out w2 Jq)
   | (with_reducible refine Calls.mono (Ym.out _) ?_;intro x w2 hx;obtain⟨v',Jo,hK,Jq⟩:=hx;subst Jo;have q2:=Yz.out _ w2 Jq;have b3:=Xc.out w2 Jq;obtain⟨b0,b1,b2,bf⟩:=b3))
  all_goals (go_wp2_with fail)
  all_goals go_meet
  ·have Xa:Bl w w2:=HD.out.trans (Jq.mono i_);have Js:=Xa.alloc Xa.size (.cells #[.int .i64 nk,.int .i64 nv,.string (tx nl)] 48);exact⟨_,rfl,⟨jJ HO.out Js Xa.size i_,i_,i_,i_⟩,(hK.below (aD _ _)).far HO.out Js i_,Js⟩
  ·have Xa:Bl w w2:=(Xm.out _).trans (Jq.mono i_);have Zo:=Jq.size;simp only[World.size_drew,World.size_alloc]at Zo;have Js:=((Xa.setCell (p:=⟨w.heap.size,0,none⟩) n_ (.int .i64 nk)).setCell (p:=⟨w.heap.size,1,none⟩) n_ (.int .i64 nv)).setCell (p:=⟨w.heap.size,2,none⟩) n_ (.string (tx nl));obtain⟨x0,x1,x2⟩:=Ap (x':=.int .i64 nk) (y':=.int .i64 nv) (z':=.string (tx nl)) b0 b1 b2;exact⟨_,rfl,⟨jJ HO.out Js n_ (by simp;omega),x0,x1,x2⟩,(((hK.set i_).set i_).set i_).far HO.out Js i_,Js⟩
 case rest=>
  obtain⟨G,rfl,⟨Yu,g0,g1,g2⟩,hK,Xn⟩:=hcut;have Xi:Hid (Bl w0 wc):=HB.out.trans (Xn.mono HB.out.size);have Jk:Hid (Out wc P l):=HO.out.below Xn;have Jr:Hid (Wr P w wc):=Wr.below HO.out.1 Xn;obtain⟨Zi,HK⟩:=h2 Yu hK;clear Yu hK Xn d0 d1 d2 Zm Zp Zs Vk Vf Vj Zt HD Xm Yy Ym HQ Ze Yz Xc Zn X_ Xz e1 Xo HP;have Vd:1<=nk/\nk<=9:=bL HG;have hk:nk=1∨nk=2∨nk=3∨nk=4∨nk=5∨nk=6∨7<=nk:=o_;rcases hk with rfl|rfl|rfl|rfl|rfl|rfl|hk7
  ·
   have HV:Hid (-2147483648<=nv/\nv<=2147483647):=zy HG.out rfl;have HE:Hid (T=Lib.itoa nv):=Jp.out.symm.trans rfl;rw[HE.out]at HL;go_wp2_with fail;refine(sO nv HV.out.1 HV.out.2 wc (Vb.out.below Xi)).mono ?_;rintro x w1 ⟨rfl,Jv⟩;have Jz:Hid (Out w1 P l):=Jk.out.below Jv;have Xq:Hid (Wr P w w1):=Jr.out.trans (Wr.below Jk.out.1 Jv);clear Jv g0 g1 g2;go_wp2_with fail;refine(ik P l (Lib.itoa nv) w1 Jz.out HL).mono ?_;rintro x w2 ⟨⟨u,rfl⟩,Jb,Ja⟩;have Jd:=ah Jb;have Jc:Hid (Wr P w w2):=Xq.out.trans Ja;clear Jb Ja;go_wp2_with fail;go_end0;refine⟨⟨_,rfl⟩,?_,Jc⟩;rw[HE.out];exact Jd
  ·
   have HE:Hid (T=nl):=Jp.out.symm.trans (by simp[dS,tx]);rw[HE.out]at HL;go_wp2_with fail;refine(ik P l nl wc Jk.out HL).mono ?_;rintro x w2 ⟨⟨u,rfl⟩,Jb,Ja⟩;have Jd:=ah Jb;have Jc:Hid (Wr P w w2):=Jr.out.trans Ja;clear Jb Ja;go_wp2_with fail;go_end0;refine⟨⟨_,rfl⟩,?_,Jc⟩;rw[HE.out];exact Jd
  ·
   have Yd:A=1:=by have:=HA.out;simp[arity]at this;omega
   subst Yd;obtain⟨ua,uc,rfl,Yb,Xr,Jg⟩:=HK.out;obtain⟨B,rfl,Ji,Jh⟩:=Jg o_;obtain⟨vi,Jl,Jj⟩:=Jh 0 o_;have HE:Hid (T=nl++[91]++(S 0++[93])):=Jp.out.symm.trans (by simp[dS,tx]);rw[HE.out]at HL;have HC:Hid (Calls prog 145 #[.pointer (some ⟨P,0,none⟩),.string (tx nl ++ {data:=#[91]}),vi,.string {data:=#[93]}] wc.drew fun x w'=>(∃u,x=.returned u)/\Out w' P (l++(nl++[91]++(S 0++[93])))/\Wr P wc.drew w'):=by
    have:=lq w0 P (bH e b 0) (S 0) (nl++[91]) [93] (HX.out 0 o_) h0 vi l wc.drew Jj (Xi.out.trans ((r_.drew).mono Xi.out.size)) (Jk.out.below r_.drew) (by have:=HL.out;simp only[l_a]at this⊢;omega)
    rw[<-aq]at this;exact this
   have HQ:Hid (∀w2:World,Wr P wc.drew w2->w2.cell? ⟨G,2,none⟩=some (.string (tx nl))/\w2.cell? ⟨B,0,none⟩=some vi/\Wr P w w2):=fun w2 h=>by
    have h':Wr P wc w2:=(Wr.below Jk.out.1 r_.drew).trans h;exact⟨Zi.out.cell h' g2,Ji.cell h' Jl,Jr.out.trans h'⟩
   have hs:((tx nl).size:Int)<=1000000000:=by have:=HL.out;rw[tx_size];simp only[l_a]at this;omega
   have Vo:(⟨#[91]⟩:ByteArray).size=1:=rfl;clear Ji Jh Jg Jj;go_wp2_with fail;go_region_held (fun W=>W.cell? ⟨G,2,none⟩=some (.string (tx nl))/\W.cell? ⟨B,0,none⟩=some vi) (go_keep)
    (first
    | (with_reducible refine Calls.mono HC.out ?_;intro x w2 hx;obtain⟨⟨u,Jo⟩,Jb,Ja⟩:=hx;subst Jo;obtain⟨q1,q2,q3⟩:=HQ.out w2 Ja))
   obtain⟨Jd,Jc⟩:=h2 Jb q3;clear Jb Ja;go_wp2_with fail;go_end0;refine⟨⟨_,rfl⟩,?_,Jc⟩;rw[HE.out];exact Jd
  ·
   obtain⟨ua,uc,rfl,Yb,Xr,Jg⟩:=HK.out;have HE:Hid (T=nl++[40]++aA S A++[41]):=Jp.out.symm.trans (by simp[dS,tx]);rw[HE.out]at HL;have Vp:(A:Int)<=6:=by have:=Je.out.arA;omega
   have Zq:Hid (kq w0 P wc (.slice ua A uc) e b A):=HK.out;clear Jg;go_wp2_with fail;refine(wz P l nl [40] wc Jk.out (by have:=HL.out;simp only[l_a]at this⊢;omega)).mono ?_;rintro x w1 ⟨⟨u,rfl⟩,Xd,Jf⟩;have Jz:=ah Xd;have Xq:Hid (Wr P w w1):=Jr.out.trans Jf;have Zl:Hid (kq w0 P w1 (.slice ua A uc) e b A):=Zq.out.wr Jf;clear Xd Jf g0 g1 g2;go_wp2;go_loopw[75] (fun ix W=>∃k:Nat,k<=A/\ix=.int .i64 k/\Out W P (l++(nl++[40])++aA S k)/\kq w0 P W (.slice ua A uc) e b A/\Wr P w W) (fun ix _=>A-(RowKit.intOf ix).toNat)
   case atStart=>exact⟨0,y_,rfl,by simpa only[aA,List.append_nil]using Jz.out,Zl,Xq⟩
   case round=>
    obtain⟨k,hk,rfl,Zc,Yh,Yt⟩:=hrel;obtain⟨Xy,Yk,J_⟩:=h3 Zc Yh Yt;clear Zc Yt;by_cases hkA:k<A
    ·have Xx:Hid ((aA S (k+1)).length<=(aA S A).length):=fX S (k+1) A hkA;obtain⟨Vq,Vt,he,_,_,Jg⟩:=Yh;simp only[Value.slice.injEq,true_and]at he;obtain⟨rfl,rfl⟩:=he;obtain⟨B,rfl,Ji,Jh⟩:=Jg o_;obtain⟨vi,Jl,Jj⟩:=Jh k hkA;obtain⟨Jw,Xk⟩:=h2 Ji Jj;clear Jg Jh Jj Ji;by_cases hk0:k=0
     ·subst hk0;have Zu:(0:Int)<(A:Int):=o_
      go_wp2_with fail;refine(HX.out 0 hkA vi (l++(nl++[40])++aA S 0) wr Xk.out (HB.out.trans ((J_.out.toBelow HO).mono h0)) Xy.out (by have:=HL.out;have:=Xx.out;simp only[aA,l_a]at*;omega)).mono ?_;rintro x w2 ⟨⟨u2,rfl⟩,Jb,Ja⟩;have Jd:Hid (Out w2 P (l++(nl++[40])++aA S (0+1))):=by show Out _ _ _;simpa[aA]using Jb
      have Jc:=ah Ja;clear Jb Ja;go_wp2;go_roundw
      case rel=>exact⟨0+1,o_,by go_num,Jd,Yk.out.wr Jc,J_.out.trans Jc⟩
      case measure=>simp[RowKit.intOf];omega
     ·have Vu:(0:Int)<(k:Int):=o_
      go_wp2_with fail;refine(ik P (l++(nl++[40])++aA S k) [44,32] wr Xy.out (by have:=HL.out;have:=Xx.out;simp only[aA,l_a,if_neg hk0]at*;omega)).mono ?_;rintro x w3 ⟨⟨u3,rfl⟩,Xh,Xb⟩;obtain⟨Xp,Jt⟩:=h2 Xh Xb;clear Xh Xb Jl;go_wp2_with fail;refine(HX.out k hkA vi (l++(nl++[40])++aA S k++[44,32]) w3 Xk.out (HB.out.trans (((J_.out.trans Jt).toBelow HO).mono h0)) Xp.out (by have:=HL.out;have:=Xx.out;simp only[aA,l_a,if_neg hk0]at*;omega)).mono ?_;rintro x w2 ⟨⟨u2,rfl⟩,Jb,Ja⟩;have Jd:Hid (Out w2 P (l++(nl++[40])++aA S (k+1))):=by show Out _ _ _;simpa only[aA,if_neg hk0,List.append_assoc]using Jb
      have Jc:Hid (Wr P wr w2):=Jt.out.trans Ja;clear Jb Ja;go_wp2;go_roundw
      case rel=>exact⟨k+1,o_,by go_num,Jd,Yk.out.wr Jc,J_.out.trans Jc⟩
      case measure=>simp[RowKit.intOf];omega
    ·obtain rfl:k=A:=by omega
     clear Yh;go_wp2_with fail;refine(ik P (l++(nl++[40])++aA S k) [41] wr Xy.out (by have:=HL.out;simp only[l_a]at*;omega)).mono ?_;rintro x w2 ⟨⟨u,rfl⟩,Jb,Ja⟩;have Jd:=ah Jb;have Jc:Hid (Wr P w w2):=J_.out.trans Ja;clear Jb Ja;go_wp2_with fail;go_end0;refine⟨⟨_,rfl⟩,?_,Jc⟩;rw[HE.out];simpa only[List.append_assoc]using Jd.out
  ·
   have HE:Hid (T=[105,110,40,41]):=Jp.out.symm.trans (by simp[dS]);rw[HE.out]at HL;go_wp2_with fail;refine(ik P l [105,110,40,41] wc Jk.out HL).mono ?_;rintro x w2 ⟨⟨u,rfl⟩,Jb,Ja⟩;have Jd:=ah Jb;have Jc:Hid (Wr P w w2):=Jr.out.trans Ja;clear Jb Ja;go_wp2_with fail;go_end0;refine⟨⟨_,rfl⟩,?_,Jc⟩;rw[HE.out];exact Jd
  ·
   have Yd:A=1:=by have:=HA.out;simp[arity]at this;omega
   subst Yd;obtain⟨ua,uc,rfl,Yb,Xr,Jg⟩:=HK.out;obtain⟨B,rfl,Ji,Jh⟩:=Jg o_;obtain⟨vi,Jl,Jj⟩:=Jh 0 o_;have HE:Hid (T=unTab.getD nv.toNat []++cW (S 0) (decide (strN (ay (bH e b 0))<11))):=Jp.out.symm.trans (by simp[dS]);rw[HE.out]at HL;have Vs:=Ao (S 0) (decide (strN (ay (bH e b 0))<11));have Vg:=fB (S 0) (decide (strN (ay (bH e b 0))<11));have Vi:0<=nv/\nv<=2:=Ef HG.out rfl;obtain⟨Yi,Ye⟩:=Vi;have Vv:IntKind.i64.wrap (nv+1)=nv+1:=by rw[wrap64];omega
   have Yo:=yv nv Yi Ye;generalize unTab.getD nv.toNat []=U at HE HL Yo;obtain⟨Jw,Xk,Yc⟩:=h3 Ji Jj Jl;clear Ji Jh Jg Jj Jl;go_wp2_with fail;refine(ik P l U wc Jk.out (by have:=HL.out;simp only[l_a]at this;omega)).mono ?_;rintro x w1 ⟨⟨u,rfl⟩,Xd,Jf⟩;obtain⟨Jz,Xq⟩:=h2 Xd Jf;have Jl:w1.cell? ⟨B,0,none⟩=some vi:=Jw.out.cell Jf Yc;have Yw:Hid (Wr P w w1):=Jr.out.trans Jf;have Xs:Hid (eU w0 P (bH e b 0) (S 0)):=HX.out 0 o_;clear Xd Jf g0 g1 g2 Yo;go_wp2_with fail;refine(il w0 P (bH e b 0) (S 0) Xs.out h0 Xj.out (Je.out.kid_pos 0 o_) (by have:=Je.out.kid_lt 0 o_;have:=HM.out;omega) (Je.out.kid_root 0 o_) 11 vi (l++U) w1 Xk.out (HB.out.trans ((Yw.out.toBelow HO).mono h0)) Jz.out (by have:=HL.out;simp only[l_a]at*;omega)).mono ?_;rintro x w2 ⟨⟨u2,rfl⟩,Jb,Ja⟩;have Jd:=ah Jb;have Jc:Hid (Wr P w w2):=Yw.out.trans Ja;clear Jb Ja;go_wp2_with fail;go_end0;refine⟨⟨_,rfl⟩,?_,Jc⟩;rw[HE.out];simpa only[List.append_assoc]using Jd.out
  ·
   have Z_:A=2:=by
    have h:=HA.out;unfold arity at h;simp only at h;rw[if_neg o_,if_neg o_,if_pos o_]at h;omega
   subst Z_;obtain⟨ua,uc,rfl,Yb,Xr,Jg⟩:=HK.out;obtain⟨B,rfl,Ji,Jh⟩:=Jg o_;obtain⟨v0,Y_,Jj⟩:=Jh 0 o_;obtain⟨v1,Jl,Zd⟩:=Jh 1 o_;have hE:T=cW (S 0) (decide (strN (ay (bH e b 0))<strN ⟨nk,nv,tx nl⟩))++([32]++(wordN ⟨nk,nv,tx nl⟩++[32]))++cW (S 1) (decide (strN (ay (bH e b 1))<strN ⟨nk,nv,tx nl⟩+1)):=by
    refine Jp.out.symm.trans ?_;unfold dS;simp only;rw[if_neg o_,if_neg o_,if_neg o_,if_neg o_,if_neg o_,if_neg o_];have:decide (strN (ay (bH e b 1))<strN ⟨nk,nv,tx nl⟩+1)=decide (strN (ay (bH e b 1))<=strN ⟨nk,nv,tx nl⟩):=by
     rw[decide_eq_decide];omega
    rw[this];simp only[List.append_assoc]
   have Yj:1<=strN ⟨nk,nv,tx nl⟩/\strN ⟨nk,nv,tx nl⟩<=11:=ro _ HG;have Xg:=ny ⟨nk,nv,tx nl⟩ HG.out wc (Xj.out.below Xi);have Zk:=ah hk7;generalize hg1:strN ⟨nk,nv,tx nl⟩=st at hE Yj;generalize hg2:wordN ⟨nk,nv,tx nl⟩=wd at hE;obtain⟨Zx,Zy⟩:=h2 hg1 hg2;generalize ht0:cW (S 0) (decide (strN (ay (bH e b 0))<st))=t0 at hE;generalize ht1:cW (S 1) (decide (strN (ay (bH e b 1))<st+1))=t1 at hE;obtain⟨Zb,Yn⟩:=h2 ht0 ht1;have HE:Hid (T=t0++([32]++(wd++[32]))++t1):=hE;rw[HE.out]at HL;obtain⟨Jw,Ve,Yc,Zz,Zw⟩:=h5 Ji Jj Zd Y_ Jl;have Xs:Hid (eU w0 P (bH e b 0) (S 0)):=HX.out 0 o_;have Zv:Hid (eU w0 P (bH e b 1) (S 1)):=HX.out 1 o_;have Ju:Hid (∀i,i<2->0<(bH e b i).length/\(bH e b i).length<=1048576/\aB (ay (bH e b i))=true):=fun i hi=>⟨Je.out.kid_pos i hi,by have:=Je.out.kid_lt i hi;have:=HM.out;omega,Je.out.kid_root i hi⟩;have Yg:=ah Xg;obtain⟨Vl,Yl⟩:=Yj;have Vr:IntKind.i64.wrap (st+1)=st+1:=by rw[wrap64];omega
   clear Ji Jh Jg Jj Zd Y_ Jl hE Xg hg1 hg2 ht0 ht1 Jp HK HX;have n1:¬nk=1:=o_;have n2:¬nk=2:=o_;have n3:¬nk=3:=o_;have n4:¬nk=4:=o_;have n5:¬nk=5:=o_;have n6:¬nk=6:=o_;clear hk7 Vd;go_wp2_with fail;refine Yg.out.mono ?_;rintro x w1 ⟨⟨sy,kk,vv,rfl,Za⟩,Jv⟩;rw[Zx.out];have Xv:sy=tx wd:=by rw[<-Zy.out];exact Za Zk
   subst Xv;clear Za g0 g1 g2;have Xu:=ah Jv;clear Jv;go_wp2_with fail;obtain⟨W1,Jf⟩:=q_ (w1.alloc (.cells #[.string (tx wd),.int .i64 st,.int .i64 kk,.int .i64 vv] 206));have Xl:Bl wc W1:=by rw[Jf];exact Xu.out.alloc Xu.out.size _
   have Yr:Hid (Out W1 P l):=Jk.out.below Xl;have Jm:Hid (Wr P wc W1):=Wr.below Jk.out.1 Xl;have Xt:Hid (Wr P w W1):=Jr.out.trans Jm;have Jy:Hid (oD P W1 w1.heap.size):=jJ Jk.out Xl Xu.out.size (by rw[Jf];simp);have Xw:Hid (oD P W1 B):=Jw.out.wr Jm;have c0:W1.cell? ⟨w1.heap.size,0,none⟩=some (.string (tx wd)):=by rw[Jf];simp
   have c1:W1.cell? ⟨w1.heap.size,1,none⟩=some (.int .i64 st):=by rw[Jf];simp
   have Yx:W1.cell? ⟨B,0,none⟩=some v0:=Jw.out.cell Jm.out Zz;have Ya:W1.cell? ⟨B,1,none⟩=some v1:=Jw.out.cell Jm.out Zw;rw[<-Jf];clear Jf Xl;generalize w1.heap.size=H at c0 c1 Jy⊢;have Ys:Hid (Calls prog 186 #[.pointer (some ⟨P,0,none⟩),v0,.int .i64 st] W1.drew fun x w'=>(∃u,x=.returned u)/\Out w' P (l++t0)/\Wr P W1.drew w'):=by
    have:=il w0 P (bH e b 0) (S 0) Xs.out h0 Xj.out (Ju.out 0 o_).1 (Ju.out 0 o_).2.1 (Ju.out 0 o_).2.2 st v0 l W1.drew Ve.out ((HB.out.trans ((Xt.out.toBelow HO.out).mono h0)).drew) (Yr.out.below r_.drew) (by rw[Zb.out];have:=HL.out;simp only[l_a]at this;omega)
    rw[Zb.out]at this;exact this
   have Xc:Hid (∀w2:World,Wr P W1.drew w2->w2.cell? ⟨B,0,none⟩=some v0/\w2.cell? ⟨H,1,none⟩=some (.int .i64 st)/\Wr P W1 w2):=fun w2 h=>by
    have h':Wr P W1 w2:=(Wr.below Yr.out.1 r_.drew).trans h;exact⟨Xw.out.cell h' Yx,Jy.out.cell h' c1,h'⟩
   obtain⟨Yf,Xe,Xf⟩:=h3 c0 c1 Ya;clear c0 Ya;go_region_held (fun W=>W.cell? ⟨B,0,none⟩=some v0/\W.cell? ⟨H,1,none⟩=some (.int .i64 st)) (go_keep)
    (first
    | (with_reducible refine Calls.mono Ys.out ?_;intro x w2 hx;obtain⟨⟨u,Jo⟩,Jb,Ja⟩:=hx;subst Jo;obtain⟨q1,q2,q3⟩:=Xc.out w2 Ja))
   obtain⟨Jd,Jc⟩:=h2 Jb q3;have Zr:w2.cell? ⟨H,0,none⟩=some (.string (tx wd)):=Jy.out.cell q3 Yf;clear Jb Ja q1 q2 q3 Ys Xc c1 Yx;go_wp2_with fail;refine(Cf P (l++t0) [32] wd [32] w2 Jd.out (by have:=HL.out;simp only[l_a]at*;omega)).mono ?_;rintro x w3 ⟨⟨u3,rfl⟩,Xh,Xb⟩;have Xp:=ah Xh;have Jt:Hid (Wr P W1 w3):=Jc.out.trans Xb;have c1:w3.cell? ⟨H,1,none⟩=some (.int .i64 st):=Jy.out.cell Jt.out Xe;have Ya:w3.cell? ⟨B,1,none⟩=some v1:=Xw.out.cell Jt.out Xf;clear Xh Xb Zr;have Vc:Hid (Calls prog 186 #[.pointer (some ⟨P,0,none⟩),v1,.int .i64 (st+1)] w3.drew fun x w'=>(∃u,x=.returned u)/\Out w' P (l++t0++([32]++(wd++[32]))++t1)/\Wr P w3.drew w'):=by
    have:=il w0 P (bH e b 1) (S 1) Zv.out h0 Xj.out (Ju.out 1 o_).1 (Ju.out 1 o_).2.1 (Ju.out 1 o_).2.2 (st+1) v1 (l++t0++([32]++(wd++[32]))) w3.drew Yc.out ((HB.out.trans (((Xt.out.trans Jt.out).toBelow HO.out).mono h0)).drew) (Xp.out.below r_.drew) (by rw[Yn.out];have:=HL.out;simp only[l_a]at this⊢;omega)
    rw[Yn.out]at this;exact this
   have Zj:Hid (∀w2:World,Wr P w3.drew w2->w2.cell? ⟨B,1,none⟩=some v1/\w2.cell? ⟨H,1,none⟩=some (.int .i64 st)/\Wr P w w2):=fun w2 h=>by
    have h':Wr P W1 w2:=Jt.out.trans ((Wr.below Xp.out.1 r_.drew).trans h);exact⟨Xw.out.cell h' Xf,Jy.out.cell h' Xe,Xt.out.trans h'⟩
   go_wp2_with fail;go_region_held (fun W=>W.cell? ⟨B,1,none⟩=some v1/\W.cell? ⟨H,1,none⟩=some (.int .i64 st)) (go_keep)
    (first
    | (with_reducible refine Calls.mono Vc.out ?_;intro x w4 hx;obtain⟨⟨u,Jo⟩,Yp,Yv⟩:=hx;subst Jo;obtain⟨q1,q2,q3⟩:=Zj.out w4 Yv))
   obtain⟨Vn,Va⟩:=h2 Yp q3;clear Yp Yv q1 q2 q3;go_wp2_with fail;go_end0;refine⟨⟨_,rfl⟩,?_,Va⟩;rw[HE.out];simpa only[List.append_assoc]using Vn.out
theorem uI(w0:World)(P:Nat)(h0:w0.heap.size<=P)(hT:dz w0)(Ja:kr w0)(Jb:jI w0){e:List Nd}{s:List UInt8}(hp:Pr e s)(Jc:e.length<=1048576):eU w0 P e s:=by
 induction hp using Pr_i with
 | mk e A b S hc hk ih=>exact uH w0 P e A b S hc h0 hT Ja Jb Jc fun i hi=>ih i hi (by have:=hc.kid_lt i hi;omega)
section
variable{w:World}{P:Nat}{l:List UInt8}
def gG(w0:World)(P:Nat)(v:Value)(t:List UInt8):Prop:=
 ∀(l:List UInt8) (w:World),Below w0.heap.size w0 w->Out w P l->l.length+t.length<=900000000 ->
  Calls prog 72 #[.pointer (some ⟨P,0,none⟩),v] w fun x w'=>(∃u,x=.returned u)/\Out w' P (l++t)/\Wr P w w'
def fI(w0:World)(P:Nat)(v:Value)(t:List UInt8):Prop:=
 ∀(a b l:List UInt8) (w:World),Below w0.heap.size w0 w->Out w P l->l.length+(a.length+(t.length+b.length))<=900000000 ->
  Calls prog 145 #[.pointer (some ⟨P,0,none⟩),.string (tx a),v,.string (tx b)] w fun x w'=>(∃u,x=.returned u)/\Out w' P (l++(a++(t++b)))/\Wr P w w'
theorem aZ(hO:Out w P l)(o:Obj):Out (w.alloc o) P l/\Wr P w (w.alloc o)/\oD P (w.alloc o) w.heap.size:=by
 have hb:Bl w (w.alloc o):=r_.alloc n_ o;exact⟨hO.below hb,Wr.below hO.1 hb,jJ hO hb n_ i_⟩
theorem ek{w0:World}{v:Value}{t:List UInt8}(h:fI w0 P v t)(hB:Below w0.heap.size w0 w)(hO:Out w P l)(o:Obj)(a b:List UInt8)(hl:l.length+(a.length+(t.length+b.length))<=900000000):
  Calls prog 145 #[.pointer (some ⟨P,0,none⟩),.string (tx a),v,.string (tx b)] (w.alloc o) fun x w'=>(∃u,x=.returned u)/\Out w' P (l++(a++(t++b)))/\Wr P (w.alloc o) w':=
 h a b l (w.alloc o) (hB.trans ((r_.alloc n_ o).mono hB.size)) (aZ hO o).1 hl
theorem uJ(w0:World)(P:Nat)(h0:w0.heap.size<=P)(s:St)(hs:GoodS s)(ve vf va vb:Value)(ta tb:List UInt8)(hE:fI w0 P ve (gh s.e))(hF:s.kind=3->fI w0 P vf (gh s.f))(hA:gG w0 P va ta)(Xe:gG w0 P vb tb)(l:List UInt8)(w:World)(hB:Below w0.heap.size w0 w)(hO:Out w P l)(hl:l.length+(bR s ta tb).length<=900000000):
  Calls prog 107 #[.pointer (some ⟨P,0,none⟩),.agg #[.int .i64 s.kind,.string s.name,ve,vf,.int .i64 s.thn,.int .i64 s.els],va,vb] w fun x w'=>(∃u,x=.returned u)/\Out w' P (l++bR s ta tb)/\Wr P w w':=by
 obtain⟨HE,HF,HA,Jt,HB⟩:=h5 hE hF hA Xe hB;have HO:Hid (Out w P l):=hO;obtain⟨Xb,Ju,-,-,-⟩:=hs;obtain⟨sk,nm,se,sf,th,el⟩:=s;obtain⟨nl,rfl⟩:∃nl,nm=tx nl:=⟨_,(dw nm).symm⟩;simp only at Xb Ju HE HF;generalize hTx:bR ⟨sk,tx nl,se,sf,th,el⟩ ta tb=T at hl⊢;have Jg:Hid (bR ⟨sk,tx nl,se,sf,th,el⟩ ta tb=T):=hTx;have HL:=ah hl;show Calls prog 107 #[.pointer (some ⟨P,0,none⟩),.agg #[.int .i64 sk,.string (tx nl),ve,vf,.int .i64 th,.int .i64 el],va,vb] w _;have hk:sk=1∨sk=2∨sk=3∨sk=4∨sk=5∨sk=6∨sk=7∨sk=8:=o_;rcases hk with rfl|rfl|rfl|rfl|rfl|rfl|rfl|rfl
 ·
  have HQ:Hid (T=[105,110,116,32]++nl++[32,61,32]++(gh se++[59,10])):=Jg.out.symm.trans (by simp[bR,tx]);rw[HQ.out]at HL;have hn:nl.length<=900000000:=by have:=HL.out;simp only[l_a]at this;omega
  have J_:(⟨#[105,110,116,32]⟩:ByteArray)++tx nl=tx ([105,110,116,32]++nl):=aq [105,110,116,32] nl;have Jk:tx ([105,110,116,32]++nl)++(⟨#[32,61,32]⟩:ByteArray)=tx ([105,110,116,32]++nl++[32,61,32]):=aq _ [32,61,32];have Jq:((tx nl).size:Int)<=1000000000:=by rw[tx_size];omega
  have Jw:((tx ([105,110,116,32]++nl)).size:Int)<=1000000000:=by rw[tx_size];simp;omega
  have z1:(⟨#[105,110,116,32]⟩:ByteArray).size=4:=rfl;have z2:(⟨#[32,61,32]⟩:ByteArray).size=3:=rfl;have hC:=fun o=>ek HE.out HB.out HO.out o ([105,110,116,32]++nl++[32,61,32]) [59,10] (by have:=HL.out;simp only[l_a]at*;omega);generalize tx ([105,110,116,32]++nl++[32,61,32])=X2 at Jk hC;generalize tx ([105,110,116,32]++nl)=X1 at J_ Jk Jw;have HC:=ah hC;go_enter func107,ntmps107;go_wp2_with fail;refine(HC.out _).mono ?_;rintro x w1 ⟨⟨u,rfl⟩,Jd,Ja⟩;have Jc:=ah Jd;have Jb:Hid (Wr P w w1):=(aZ HO.out _).2.1.trans Ja;go_wp2_with fail;go_end0
  refine⟨⟨_,rfl⟩,?_,Jb⟩;rw[HQ.out];exact Jc
 ·
  have HQ:Hid (T=nl++[32,61,32]++(gh se++[59,10])):=Jg.out.symm.trans (by simp[bR,tx]);rw[HQ.out]at HL;have hn:nl.length<=900000000:=by have:=HL.out;simp only[l_a]at this;omega
  have Jk:tx nl++(⟨#[32,61,32]⟩:ByteArray)=tx (nl++[32,61,32]):=aq _ [32,61,32];have Jq:((tx nl).size:Int)<=1000000000:=by rw[tx_size];omega
  have z2:(⟨#[32,61,32]⟩:ByteArray).size=3:=rfl;have hC:=fun o=>ek HE.out HB.out HO.out o (nl++[32,61,32]) [59,10] (by have:=HL.out;simp only[l_a]at*;omega);generalize tx (nl++[32,61,32])=X2 at Jk hC;have HC:=ah hC;go_enter func107,ntmps107;go_wp2_with fail;refine(HC.out _).mono ?_;rintro x w1 ⟨⟨u,rfl⟩,Jd,Ja⟩;have Jc:=ah Jd;have Jb:Hid (Wr P w w1):=(aZ HO.out _).2.1.trans Ja;go_wp2_with fail;go_end0
  refine⟨⟨_,rfl⟩,?_,Jb⟩;rw[HQ.out];exact Jc
 ·
  have HQ:Hid (T=nl++[91]++(gh se++[93,32,61,32])++([]++(gh sf++[59,10]))):=Jg.out.symm.trans (by simp[bR,tx]);rw[HQ.out]at HL;have Js:Hid (fI w0 P vf (gh sf)):=HF.out rfl;have hn:nl.length<=900000000:=by have:=HL.out;simp only[l_a]at this;omega
  have Jk:tx nl++(⟨#[91]⟩:ByteArray)=tx (nl++[91]):=aq _ [91];have Jq:((tx nl).size:Int)<=1000000000:=by rw[tx_size];omega
  have z2:(⟨#[91]⟩:ByteArray).size=1:=rfl;have hC:=fun o=>ek HE.out HB.out HO.out o (nl++[91]) [93,32,61,32] (by have:=HL.out;simp only[l_a]at*;omega);generalize tx (nl++[91])=X2 at Jk hC;have HC:=ah hC;go_enter func107,ntmps107;go_wp2_with fail;refine(HC.out _).mono ?_;rintro x w1 ⟨⟨u,rfl⟩,Jd,Ja⟩;have Jc:=ah Jd;have Jb:Hid (Wr P w w1):=(aZ HO.out _).2.1.trans Ja;have c3:w1.cell? ⟨w.heap.size,3,none⟩=some vf:=(aZ HO.out _).2.2.cell Ja i_;go_wp2_with fail;refine(Js.out [] [59,10] (l++(nl++[91]++(gh se++[93,32,61,32]))) w1 (HB.out.trans ((Jb.out.toBelow HO).mono h0)) Jc.out (by have:=HL.out;simp only[l_a]at*;omega)).mono ?_;rintro x w2 ⟨⟨u2,rfl⟩,Jj,Jf⟩;have Jh:=ah Jj;have Ji:Hid (Wr P w w2):=Jb.out.trans Jf;go_wp2_with fail;go_end0
  refine⟨⟨_,rfl⟩,?_,Ji⟩;rw[HQ.out];simpa only[List.append_assoc]using Jh.out
 ·
  by_cases hel:el=0
  ·subst hel;have HQ:Hid (T=[105,102,32,40]++(gh se++[41,32,123,10])++ta++[125,10]):=Jg.out.symm.trans (by simp[bR,tx]);rw[HQ.out]at HL;have HC:=ah fun o=>ek HE.out HB.out HO.out o [105,102,32,40] [41,32,123,10] (by have:=HL.out;simp only[l_a]at*;omega);go_enter func107,ntmps107;go_wp2_with fail;refine(HC.out _).mono ?_;rintro x w1 ⟨⟨u,rfl⟩,Jd,Ja⟩;have Jc:=ah Jd;have Jb:Hid (Wr P w w1):=(aZ HO.out _).2.1.trans Ja;have Je:Hid (oD P w1 w.heap.size):=(aZ HO.out _).2.2.wr Ja;have Jp:Hid (w1.cell? ⟨w.heap.size,5,none⟩=some (.int .i64 0)):=(aZ HO.out _).2.2.cell Ja i_;generalize [105,102,32,40]++(gh se++[41,32,123,10])=t1 at Jc HQ HL;go_wp2_with fail;refine(HA.out (l++t1) w1 (HB.out.trans ((Jb.out.toBelow HO).mono h0)) Jc.out (by have:=HL.out;simp only[l_a]at*;omega)).mono ?_;rintro x w2 ⟨⟨u2,rfl⟩,Jj,Jf⟩;have Jh:=ah Jj;have Ji:Hid (Wr P w w2):=Jb.out.trans Jf;have c5:w2.cell? ⟨w.heap.size,5,none⟩=some (.int .i64 0):=Je.out.cell Jf Jp;go_wp2_with fail;refine(ik P (l++t1++ta) [125,10] w2 Jh.out (by have:=HL.out;simp only[l_a]at*;omega)).mono ?_;rintro x w9 ⟨⟨u9,rfl⟩,Jo,Jm⟩;have Jn:=ah Jo;have Jl:Hid (Wr P w w9):=Ji.out.trans Jm;go_wp2_with fail;go_end0
   refine⟨⟨_,rfl⟩,?_,Jl⟩;rw[HQ.out];simpa only[List.append_assoc,List.append_nil,List.nil_append]using Jn.out
  ·have HQ:Hid (T=[105,102,32,40]++(gh se++[41,32,123,10])++ta++([125,32,101,108,115,101,32,123,10]++tb)++[125,10]):=Jg.out.symm.trans (by simp[bR,tx,hel]);rw[HQ.out]at HL;have HC:=ah fun o=>ek HE.out HB.out HO.out o [105,102,32,40] [41,32,123,10] (by have:=HL.out;simp only[l_a]at*;omega);go_enter func107,ntmps107;go_wp2_with fail;refine(HC.out _).mono ?_;rintro x w1 ⟨⟨u,rfl⟩,Jd,Ja⟩;have Jc:=ah Jd;have Jb:Hid (Wr P w w1):=(aZ HO.out _).2.1.trans Ja;have Je:Hid (oD P w1 w.heap.size):=(aZ HO.out _).2.2.wr Ja;have Jp:Hid (w1.cell? ⟨w.heap.size,5,none⟩=some (.int .i64 el)):=(aZ HO.out _).2.2.cell Ja i_;generalize [105,102,32,40]++(gh se++[41,32,123,10])=t1 at Jc HQ HL;go_wp2_with fail;refine(HA.out (l++t1) w1 (HB.out.trans ((Jb.out.toBelow HO).mono h0)) Jc.out (by have:=HL.out;simp only[l_a]at*;omega)).mono ?_;rintro x w2 ⟨⟨u2,rfl⟩,Jj,Jf⟩;have Jh:=ah Jj;have Ji:Hid (Wr P w w2):=Jb.out.trans Jf;have c5:w2.cell? ⟨w.heap.size,5,none⟩=some (.int .i64 el):=Je.out.cell Jf Jp;go_wp2_with fail;refine(ik P (l++t1++ta) [125,32,101,108,115,101,32,123,10] w2 Jh.out (by have:=HL.out;simp only[l_a]at*;omega)).mono ?_;rintro x w3 ⟨⟨u3,rfl⟩,Jx,Xd⟩;have Jy:=ah Jx;have Jr:Hid (Wr P w w3):=Ji.out.trans Xd;go_wp2_with fail;refine(Jt.out (l++t1++ta++[125,32,101,108,115,101,32,123,10]) w3 (HB.out.trans ((Jr.out.toBelow HO).mono h0)) Jy.out (by have:=HL.out;simp only[l_a]at*;omega)).mono ?_;rintro x w4 ⟨⟨u4,rfl⟩,Xa,Jv⟩;have Xc:=ah Xa;have Jz:Hid (Wr P w w4):=Jr.out.trans Jv;go_wp2_with fail;refine(ik P (l++t1++ta++[125,32,101,108,115,101,32,123,10]++tb) [125,10] w4 Xc.out (by have:=HL.out;simp only[l_a]at*;omega)).mono ?_;rintro x w9 ⟨⟨u9,rfl⟩,Jo,Jm⟩;have Jn:=ah Jo;have Jl:Hid (Wr P w w9):=Jz.out.trans Jm;go_wp2_with fail;go_end0
   refine⟨⟨_,rfl⟩,?_,Jl⟩;rw[HQ.out];simpa only[List.append_assoc,List.append_nil,List.nil_append]using Jn.out
 ·
  have HQ:Hid (T=[119,104,105,108,101,32,40]++(gh se++[41,32,123,10])++ta++[125,10]):=Jg.out.symm.trans (by simp[bR,tx]);rw[HQ.out]at HL;have HC:=ah fun o=>ek HE.out HB.out HO.out o [119,104,105,108,101,32,40] [41,32,123,10] (by have:=HL.out;simp only[l_a]at*;omega);go_enter func107,ntmps107;go_wp2_with fail;refine(HC.out _).mono ?_;rintro x w1 ⟨⟨u,rfl⟩,Jd,Ja⟩;have Jc:=ah Jd;have Jb:Hid (Wr P w w1):=(aZ HO.out _).2.1.trans Ja;have Je:Hid (oD P w1 w.heap.size):=(aZ HO.out _).2.2.wr Ja;have Jp:Hid (w1.cell? ⟨w.heap.size,5,none⟩=some (.int .i64 el)):=(aZ HO.out _).2.2.cell Ja i_;generalize [119,104,105,108,101,32,40]++(gh se++[41,32,123,10])=t1 at Jc HQ HL;go_wp2_with fail;refine(HA.out (l++t1) w1 (HB.out.trans ((Jb.out.toBelow HO).mono h0)) Jc.out (by have:=HL.out;simp only[l_a]at*;omega)).mono ?_;rintro x w2 ⟨⟨u2,rfl⟩,Jj,Jf⟩;have Jh:=ah Jj;have Ji:Hid (Wr P w w2):=Jb.out.trans Jf;have c5:w2.cell? ⟨w.heap.size,5,none⟩=some (.int .i64 el):=Je.out.cell Jf Jp;go_wp2_with fail;refine(ik P (l++t1++ta) [125,10] w2 Jh.out (by have:=HL.out;simp only[l_a]at*;omega)).mono ?_;rintro x w9 ⟨⟨u9,rfl⟩,Jo,Jm⟩;have Jn:=ah Jo;have Jl:Hid (Wr P w w9):=Ji.out.trans Jm;go_wp2_with fail;go_end0
  refine⟨⟨_,rfl⟩,?_,Jl⟩;rw[HQ.out];simpa only[List.append_assoc,List.append_nil,List.nil_append]using Jn.out
 ·
  have HQ:Hid (T=[114,101,116,117,114,110,32]++(gh se++[59,10])):=Jg.out.symm.trans (by simp[bR,tx]);rw[HQ.out]at HL;have HC:=ah fun o=>ek HE.out HB.out HO.out o [114,101,116,117,114,110,32] [59,10] (by have:=HL.out;simp only[l_a]at*;omega);go_enter func107,ntmps107;go_wp2_with fail;refine(HC.out _).mono ?_;rintro x w1 ⟨⟨u,rfl⟩,Jd,Ja⟩;have Jc:=ah Jd;have Jb:Hid (Wr P w w1):=(aZ HO.out _).2.1.trans Ja;go_wp2_with fail;go_end0
  refine⟨⟨_,rfl⟩,?_,Jb⟩;rw[HQ.out];exact Jc
 ·
  have HQ:Hid (T=[111,117,116,40]++(gh se++[41,59,10])):=Jg.out.symm.trans (by simp[bR,tx]);rw[HQ.out]at HL;have HC:=ah fun o=>ek HE.out HB.out HO.out o [111,117,116,40] [41,59,10] (by have:=HL.out;simp only[l_a]at*;omega);go_enter func107,ntmps107;go_wp2_with fail;refine(HC.out _).mono ?_;rintro x w1 ⟨⟨u,rfl⟩,Jd,Ja⟩;have Jc:=ah Jd;have Jb:Hid (Wr P w w1):=(aZ HO.out _).2.1.trans Ja;go_wp2_with fail;go_end0
  refine⟨⟨_,rfl⟩,?_,Jb⟩;rw[HQ.out];exact Jc
 ·
  have HQ:Hid (T=[]++(gh se++[59,10])):=Jg.out.symm.trans (by simp[bR,tx]);rw[HQ.out]at HL;have HC:=ah fun o=>ek HE.out HB.out HO.out o [] [59,10] (by have:=HL.out;simp only[l_a]at*;omega);go_enter func107,ntmps107;go_wp2_with fail;refine(HC.out _).mono ?_;rintro x w1 ⟨⟨u,rfl⟩,Jd,Ja⟩;have Jc:=ah Jd;have Jb:Hid (Wr P w w1):=(aZ HO.out _).2.1.trans Ja;go_wp2_with fail;go_end0
  refine⟨⟨_,rfl⟩,?_,Jb⟩;rw[HQ.out];exact Jc
end
section
variable{P:Nat}
def uX(l:List St):Prop:=jy l/\∀s∈l,kP s
theorem uX.parts{s:St}{r:List St}(h:uX (s::r)):GoodS s/\kP s/\0<=s.thn/\0<=s.els/\s.thn.toNat+s.els.toNat<=r.length/\uX (r.take s.thn.toNat)/\uX ((r.take (s.thn.toNat+s.els.toNat)).drop s.thn.toNat)/\uX (r.drop (s.thn.toNat+s.els.toNat)):=by
 obtain⟨h1,h2⟩:=h;obtain⟨g,a,b,c,d,e,f⟩:=h1.parts;have hm:∀t∈r,kP t:=fun t ht=>h2 t (m_ _ ht);exact⟨g,h2 s List.mem_cons_self,a,b,c,⟨d,fun t ht=>hm t (List.mem_of_mem_take ht)⟩,⟨e,fun t ht=>hm t (List.mem_of_mem_take (List.mem_of_mem_drop ht))⟩,⟨f,fun t ht=>hm t (List.mem_of_mem_drop ht)⟩⟩
theorem mU{w0:World}(h0:w0.heap.size<=P)(hT:dz w0)(hBT:kr w0)(hPT:jI w0){e:List Nd}{v:Value}(h1:bW e=true)(hl:e.length<=1048576)(hN:ax w0 v e):fI w0 P v (gh e):=
 fun a b l w hB hO hl2=>lq w0 P e (gh e) a b (uI w0 P h0 hT hBT hPT (jd h1) hl) h0 v l w hN hB hO hl2
theorem yw(a:Option Addr)(n cap hi:Nat)(h2:hi<=n)(h3:n<=cap):∀w:World,(Instr.slice 41 (.slice a n cap) none (some (.int .i64 (hi:Int))) none).run prog w=.ok (.slice a hi cap) w:=by
 intro w;have hz:prog.elem 41=46:=k_;have hs:(sizeOf 46).run prog w=.ok 6 w:=k_;rw[run_slice_h w 41 a n cap (by rw[hz];exact underlying41) .i64 _ o_ o_,hz,hs];simp only[Result.andThen,sliced,Int.toNat_natCast,Nat.sub_zero,Nat.zero_mul];have e:(if cap=0 then a else a.map (·.add 0))=a:=by
  split
  ·rfl
  ·cases a <;> simp[Addr.add]
 rw[e]
theorem Eg{w w':World}{l:List UInt8}{t:TypeId}{a b c d e f:Value}(hO:Out w P l)(h:Wr P (w.alloc (.cells #[a,b,c,d,e,f] t)) w'):
  w'.cell? ⟨w.heap.size,0,none⟩=some a/\w'.cell? ⟨w.heap.size,1,none⟩=some b/\w'.cell? ⟨w.heap.size,2,none⟩=some c/\w'.cell? ⟨w.heap.size,3,none⟩=some d/\w'.cell? ⟨w.heap.size,4,none⟩=some e/\w'.cell? ⟨w.heap.size,5,none⟩=some f:=by
 have hF:=(aZ hO (.cells #[a,b,c,d,e,f] t)).2.2;exact⟨hF.cell h i_,hF.cell h i_,hF.cell h i_,hF.cell h i_,hF.cell h i_,hF.cell h i_⟩
theorem uK(w0:World)(P:Nat)(h0:w0.heap.size<=P)(hT:dz w0)(Xk:kr w0)(Xl:jI w0)(n:Nat):∀(v:Value) (ss:List St),ss.length<=n->ss.length<=1048576->uX ss->bJ w0 v ss->gG w0 P v (aW ss):=by
 induction n with
 | zero=>
  intro v ss hn hl hk hc l w hB hO Je;have:ss=[]:=List.eq_nil_of_length_eq_zero o_;subst this;obtain⟨a,Jh,rfl,Xj,Xi,hc⟩:=hc;simp only[l_n]at*;rw[linesT_nil,List.append_nil];have HO:=ah hO;go_enter func72,ntmps72;go_wp2_with fail;refine wp_loop_rounds 1 ?_;rw[rounds_succ];go_wp2_with fail;go_end0;exact⟨⟨_,rfl⟩,HO,Wr.refl _ _⟩
 | succ n ih=>
 intro v ss hn hl hk hc l w hB hO Je;obtain⟨IH,HT,Jy,Xc,HB,HO,HL,HK,HN⟩:=h9 ih hT Xk Xl hB hO Je hk hc;obtain⟨a,Jh,rfl,Xj,Xi,hc⟩:=hc;clear hc ih hT Xk Xl hB hO Je hk;go_enter func72,ntmps72;go_wp2;go_loopw[1] (fun v wr=>∃ts dn,ts.length<=ss.length/\bJ w0 v ts/\uX ts/\aW ss=dn++aW ts/\Out wr P (l++dn)/\Wr P w wr) (fun v _=>lenOf v)
 case atStart=>exact⟨ss,[],n_,HN,HK,rfl,by rw[List.append_nil];exact HO,Wr.refl _ _⟩
 case round=>
  obtain⟨ts,dn,Yo,Xh,Xr,Jp,Xz,Xe⟩:=hrel;obtain⟨Jv,Jd,J_⟩:=h3 Jp Xz Xe;have Jj:Hid (Bl w0 wr):=HB.out.trans ((Xe.toBelow HO).mono h0);have Ja:=Xh;obtain⟨a,Jh,rfl,Xj,Xi,hc⟩:=Xh.below Jj;cases ts with
  | nil=>
   clear hc Ja;simp only[l_n];go_wp2_with fail;go_end0;refine⟨⟨_,rfl⟩,?_,J_⟩;rw[Jv.out,linesT_nil,List.append_nil];exact Jd
  | cons s r=>
   obtain⟨b,off,rfl,hs⟩:=hc i_;obtain⟨ve,vf,⟨g0,g1,g2,g3,g4,g5⟩,⟨c0,c1,c2,c3,c4,c5⟩,-,-⟩:=hs.up 0 i_;simp only[Nat.zero_mul,Nat.add_zero,List.getElem_cons_zero]at c0 c1 c2 c3 c4 c5 g0 g1 g2 g3 g4 g5;obtain⟨gS,gm,gt,ge,Xs,ga,gb,gc⟩:=Xr.parts;have Js:ax w0 ve s.e/\ax w0 vf s.f:=by
    obtain⟨a',Yh,Xd,_,_,h'⟩:=Ja;obtain⟨b',Xm,Xg,Xy⟩:=h' i_;simp only[Value.slice.injEq,true_and]at Xd;obtain⟨rfl,rfl⟩:=Xd;simp only[Option.some.injEq,Addr.mk.injEq,and_true]at Xg;obtain⟨rfl,rfl⟩:=Xg;obtain⟨Ym,Yp,⟨k0,k1,k2,k3,k4,k5⟩,n1,n2⟩:=Xy 0 i_;simp only[Nat.zero_mul,Nat.add_zero,List.getElem_cons_zero]at k0 k2 k3 n1 n2;have Xa:=b_ k0;have e2:=(Jj.out.cell (p:=⟨b,off+2,none⟩) Xa).trans k2;have e3:=(Jj.out.cell (p:=⟨b,off+3,none⟩) Xa).trans k3;rw[c2]at e2;rw[c3]at e3;simp only[Option.some.injEq]at e2 e3;subst e2 e3;exact⟨n1,n2⟩
   have Ji:bJ w0 (.slice (if Jh=1 then some ⟨b,off,none⟩else some ⟨b,off+6,none⟩) r.length (Jh-1)) r:=by
    have:=Ja.cut 1 (s::r).length i_ n_
    simpa[Addr.add]using this
   simp only[l_c]at*;have HR:=ah Ji;have h1:(1:Int)<=(r.length:Int)+1:=o_;have Yc:fI w0 P ve (gh s.e):=mU h0 HT.out Jy.out Xc.out gS.one gm.1 Js.1;have Ya:s.kind=3->fI w0 P vf (gh s.f):=fun h3=>mU h0 HT.out Jy.out Xc.out (gS.two h3) gm.2 Js.2;obtain⟨Jz,Xb,Xo,Jw,Ju,Jr,Jg⟩:=h7 Yc Ya gS ga gb gc (Jv.out.trans (by rw[fT]));obtain⟨tn,Jt⟩:=Int.eq_ofNat_of_zero_le gt;obtain⟨ln,Jl⟩:=Int.eq_ofNat_of_zero_le ge;have Jb:s.thn.toNat=tn:=by rw[Jt];rfl
   have Jc:s.els.toNat=ln:=by rw[Jl];rfl
   rw[Jb,Jc]at Xs;rw[Jb]at Jw Ju Jr Jg;rw[Jc]at Ju Jr Jg;rw[Jt]at c4 g4;rw[Jl]at c5 g5;clear gt ge Jb Jc;obtain⟨Xw,Xq⟩:=h2 Jt Jl;generalize hkI:s.kind=kI at c0 g0;generalize hnI:s.name=nI at c1 g1;obtain⟨Yj,Xu⟩:=h2 hkI hnI;clear hkI hnI;obtain⟨⟨a2,k2,Xn,-⟩,a3,k3,Xt,-⟩:=Js;subst Xn Xt;generalize s.e.length=n2 at c2 g2 Jz;generalize s.f.length=n3 at c3 g3 Xb;go_wp2_with fail;go_region;generalize (if Jh=1 then some ({block:=b,off:=off,spot:=none}:Addr)else some {block:=b,off:=off+6,spot:=none})=a1 at HR⊢;generalize hk1:Jh-1=k1 at HR⊢;have Jn:r.length<=k1:=o_;have Ye:k1<=9223372036854775807:=o_;obtain⟨W1,Jk⟩:=q_ ((wr.alloc (.cells #[.int .i64 kI,.string nI,.slice a2 n2 k2,.slice a3 n3 k3,.int .i64 tn,.int .i64 ln] 46)).drew);have Jo:Bl wr W1:=by rw[Jk];exact(aD _ _).drew
   have Jm:Wr P (wr.alloc (.cells #[.int .i64 kI,.string nI,.slice a2 n2 k2,.slice a3 n3 k3,.int .i64 tn,.int .i64 ln] 46)) W1:=by
    rw[Jk];exact Wr.below (by have:=Jd.out.1;simp;omega) r_.drew
   have Jx:Hid (Out W1 P (l++dn)):=Jd.out.below Jo;have Xf:Hid (Wr P wr W1):=Wr.below Jd.out.1 Jo;have Jf:Hid (oD P W1 wr.heap.size):=(aZ Jd.out _).2.2.wr Jm;obtain⟨b0,b1,b2,b3,b4,b5⟩:=Eg Jd.out Jm;rw[<-Jk];clear Jk Jo Jm;generalize wr.heap.size=H at b0 b1 b2 b3 b4 b5 Jf⊢;have Yq:IntKind.i64.wrap ((tn:Int)+(ln:Int))=(tn:Int)+(ln:Int):=by rw[wrap64];omega
   have Yl:=yw a1 r.length k1 tn o_ Jn;obtain⟨a5,k5,Yk,Yd⟩:∃a5 k5,(∀w:World,(Instr.slice 41 (.slice a1 r.length k1) (some (.int .i64 tn)) (some (.int .i64 ((tn:Int)+(ln:Int)))) none).run prog w=.ok (.slice a5 ln k5) w)/\bJ w0 (.slice a5 ln k5) ((r.take (tn+ln)).drop tn):=by
    have h:=ni a1 r.length k1 tn (tn+ln) o_ o_ o_;have h':=HR.out.cut tn (tn+ln) o_ o_;rw[show tn+ln-tn=ln by omega]at h h';exact⟨_,_,h,h'⟩
   obtain⟨a6,k6,Yn,Xv⟩:∃a6 k6,(∀w:World,(Instr.slice 41 (.slice a1 r.length k1) (some (.int .i64 ((tn:Int)+(ln:Int)))) none none).run prog w=.ok (.slice a6 (r.length-(tn+ln)) k6) w)/\bJ w0 (.slice a6 (r.length-(tn+ln)) k6) (r.drop (tn+ln)):=by
    have h:=mt a1 r.length k1 (tn+ln) o_ o_ ((tn:Int)+(ln:Int)) o_;have h':=HR.out.cut (tn+ln) r.length o_ o_;rw[List.take_length]at h';exact⟨_,_,h,h'⟩
   have Yg:=ah Xv;have hA:=IH.out (.slice a1 tn k1) (r.take tn) (by simp;omega) (by simp;omega) Jw.out (HR.out.head tn o_);have Jq:=IH.out (.slice a5 ln k5) ((r.take (tn+ln)).drop tn) (by simp;omega) (by simp;omega) Ju.out Yd;generalize aW (r.take tn)=ta at Jg hA;generalize aW ((r.take (tn+ln)).drop tn)=tb at Jg Jq;have X_:Hid (l.length+dn.length+(bR s ta tb).length<=900000000):=by
    show _<=_;have:=HL.out;rw[Jg.out]at this;simp only[l_a]at this;omega
   have HC:Hid (Calls prog 107 #[.pointer (some ⟨P,0,none⟩),.agg #[.int .i64 kI,.string nI,.slice a2 n2 k2,.slice a3 n3 k3,.int .i64 tn,.int .i64 ln],.slice a1 tn k1,.slice a5 ln k5] W1.drew fun x w'=>(∃u,x=.returned u)/\Out w' P (l++dn++bR s ta tb)/\Wr P W1.drew w'):=by
    have:=uJ w0 P h0 s Xo.out (.slice a2 n2 k2) (.slice a3 n3 k3) (.slice a1 tn k1) (.slice a5 ln k5) ta tb Jz.out Xb.out hA Jq (l++dn) W1.drew ((Jj.out.trans ((Xf.out.toBelow Jd.out).mono h0)).drew) (Jx.out.below r_.drew) (by have:=X_.out;simp only[l_a];omega)
    rw[Yj.out,Xu.out,Xw.out,Xq.out]at this;exact this
   clear hA Jq;have HQ:Hid (∀w2:World,Wr P W1.drew w2->(w2.cell? ⟨H,0,none⟩=some (.int .i64 kI)/\w2.cell? ⟨H,1,none⟩=some (.string nI)/\w2.cell? ⟨H,2,none⟩=some (.slice a2 n2 k2)/\w2.cell? ⟨H,3,none⟩=some (.slice a3 n3 k3)/\w2.cell? ⟨H,4,none⟩=some (.int .i64 tn)/\w2.cell? ⟨H,5,none⟩=some (.int .i64 ln))/\Wr P w w2):=fun w2 h=>by
    have h':Wr P W1 w2:=(Wr.below Jx.out.1 r_.drew).trans h;exact⟨⟨Jf.out.cell h' b0,Jf.out.cell h' b1,Jf.out.cell h' b2,Jf.out.cell h' b3,Jf.out.cell h' b4,Jf.out.cell h' b5⟩,J_.out.trans (Xf.out.trans h')⟩
   go_wp2_with fail;go_region_held (fun W=>W.cell? ⟨H,0,none⟩=some (.int .i64 kI)/\W.cell? ⟨H,1,none⟩=some (.string nI)/\W.cell? ⟨H,2,none⟩=some (.slice a2 n2 k2)/\W.cell? ⟨H,3,none⟩=some (.slice a3 n3 k3)/\W.cell? ⟨H,4,none⟩=some (.int .i64 tn)/\W.cell? ⟨H,5,none⟩=some (.int .i64 ln)) (go_keep)
    (first
    | (with_reducible refine Calls.mono HC.out ?_;intro x w2 hx;obtain⟨⟨u,Yf⟩,Yi,Xp⟩:=hx;subst Yf;obtain⟨⟨q0,q1,q2,q3,q4,q5⟩,qw⟩:=HQ.out w2 Xp))
   obtain⟨Yb,Xx⟩:=h2 Yi qw;go_wp2;go_roundw
   case rel=>exact⟨r.drop (tn+ln),dn++bR s ta tb,by simp;omega,Yg,Jr,by rw[Jg.out];simp only[List.append_assoc],by have:=Yb.out;simpa only[List.append_assoc]using this,Xx⟩
   case measure=>simp[lenOf];omega
end
def bP(g:Gl):List UInt8:=[105,110,116,32]++g.name.data.toList++(if g.size=0 then[]else[91]++(Lib.itoa g.size++[93]))++[59,10]
def fj(ps:List ByteArray)(i:Nat):List UInt8:=[105,110,116,32]++(ps.getD i ⟨#[]⟩).data.toList
def funcT(f:Fu):List UInt8:=[105,110,116,32]++(f.name.data.toList++[40])++aA (fj f.params) f.params.length++[41,32,123,10]++aW f.body++[125,10]
def cZ(t:Tr):List UInt8:=t.globals.flatMap bP++t.funcs.flatMap funcT
theorem yx(w0:World)(P:Nat)(h0:w0.heap.size<=P)(Jq:jI w0)(g:Gl)(hg:0<=g.size/\g.size<=4000)(l:List UInt8)(w:World)(hB:Below w0.heap.size w0 w)(hO:Out w P l)(hl:l.length+(bP g).length<=900000000):
  Calls prog 35 #[.pointer (some ⟨P,0,none⟩),.agg #[.string g.name,.int .i64 g.size]] w fun x w'=>(∃u,x=.returned u)/\Out w' P (l++bP g)/\Wr P w w':=by
 obtain⟨Ju,HB,HO,HG⟩:=h4 Jq hB hO hg;clear Jq hB hO hg;obtain⟨nm,z⟩:=g;obtain⟨nl,rfl⟩:∃nl,nm=tx nl:=⟨_,(dw nm).symm⟩;generalize hTx:bP ⟨tx nl,z⟩=T at hl⊢;have Jn:Hid (bP ⟨tx nl,z⟩=T):=hTx;have HL:=ah hl;simp only at HG⊢;go_enter func35,ntmps35;go_upto_region 1 with fail;obtain⟨W,hW⟩:=q_ (w.alloc (.cells #[.string (tx nl),.int .i64 z] 74));have Jm:Hid (Out W P l):=by rw[hW];exact(aZ HO.out _).1
 have Jk:Hid (Wr P w W):=by rw[hW];exact(aZ HO.out _).2.1
 have Jh:Hid (oD P W w.heap.size):=by rw[hW];exact(aZ HO.out _).2.2
 have c0:W.cell? ⟨w.heap.size,0,none⟩=some (.string (tx nl)):=by rw[hW];simp
 have c1:W.cell? ⟨w.heap.size,1,none⟩=some (.int .i64 z):=by rw[hW];simp
 rw[<-hW];clear hW;generalize w.heap.size=H at c0 c1 Jh⊢;have Jj:=ah c1;by_cases hz:z=0
 ·subst hz;have HQ:Hid (T=[105,110,116,32]++nl++[59,10]):=Jn.out.symm.trans (by simp[bP,tx]);rw[HQ.out]at HL;go_wp2_with fail;refine(wz P l [105,110,116,32] nl W Jm.out (by have:=HL.out;simp only[l_a]at*;omega)).mono ?_;rintro x w1 ⟨⟨u,rfl⟩,Jb,Ja⟩;have Jc:=ah Jb;have Jd:Hid (Wr P w w1):=Jk.out.trans Ja;have c1:w1.cell? ⟨H,1,none⟩=some (.int .i64 0):=Jh.out.cell Ja Jj;clear Jb Ja c0;go_wp2_with fail;refine(ik P (l++([105,110,116,32]++nl)) [59,10] w1 Jc.out (by have:=HL.out;simp only[l_a]at*;omega)).mono ?_;rintro x w2 ⟨⟨u2,rfl⟩,Ji,Jf⟩;have Je:=ah Ji;have Jg:Hid (Wr P w w2):=Jd.out.trans Jf;go_wp2_with fail;go_end0
  refine⟨⟨_,rfl⟩,?_,Jg⟩;rw[HQ.out];simpa only[List.append_assoc]using Je.out
 ·have HQ:Hid (T=[105,110,116,32]++nl++([91]++(Lib.itoa z++[93]))++[59,10]):=Jn.out.symm.trans (by simp[bP,tx,hz]);rw[HQ.out]at HL;go_wp2_with fail;refine(wz P l [105,110,116,32] nl W Jm.out (by have:=HL.out;simp only[l_a]at*;omega)).mono ?_;rintro x w1 ⟨⟨u,rfl⟩,Jb,Ja⟩;have Jc:=ah Jb;have Jd:Hid (Wr P w w1):=Jk.out.trans Ja;have c1:w1.cell? ⟨H,1,none⟩=some (.int .i64 z):=Jh.out.cell Ja Jj;clear Jb Ja c0;go_wp2_with fail;refine(sO z (by have:=HG.out;omega) (by have:=HG.out;omega) w1 (Ju.out.below (HB.out.trans ((Jd.out.toBelow HO).mono h0)))).mono ?_;rintro x w3 ⟨rfl,Jp⟩;have Jr:Hid (Out w3 P (l++([105,110,116,32]++nl))):=Jc.out.below Jp;have Jt:Hid (Wr P w w3):=Jd.out.trans (Wr.below Jc.out.1 Jp);go_wp2_with fail;refine(Cf P (l++([105,110,116,32]++nl)) [91] (Lib.itoa z) [93] w3 Jr.out (by have:=HL.out;simp only[l_a]at*;omega)).mono ?_;rintro x w4 ⟨⟨u4,rfl⟩,Jo,Jl⟩;have Jv:=ah Jo;have Js:Hid (Wr P w w4):=Jt.out.trans Jl;clear Jo Jl;go_wp2_with fail;refine(ik P (l++([105,110,116,32]++nl)++([91]++(Lib.itoa z++[93]))) [59,10] w4 Jv.out (by have:=HL.out;simp only[l_a]at*;omega)).mono ?_;rintro x w2 ⟨⟨u2,rfl⟩,Ji,Jf⟩;have Je:=ah Ji;have Jg:Hid (Wr P w w2):=Js.out.trans Jf;go_wp2_with fail;go_end0
  refine⟨⟨_,rfl⟩,?_,Jg⟩;rw[HQ.out];simpa only[List.append_assoc]using Je.out
theorem oy(ps:List ByteArray)(k:Nat)(h:k<ps.length):fj ps k=[105,110,116,32]++ps[k].data.toList:=by
 simp[fj,List.getD,List.getElem?_eq_getElem h]
theorem yz(w0:World)(P:Nat)(h0:w0.heap.size<=P)(f:Fu)(vp vb:Value)(hp:Strs w0 vp f.params)(Xo:f.params.length<=1048576)(hb:gG w0 P vb (aW f.body))(l:List UInt8)(w:World)(hB:Below w0.heap.size w0 w)(hO:Out w P l)(hl:l.length+(funcT f).length<=900000000):
  Calls prog 36 #[.pointer (some ⟨P,0,none⟩),.agg #[.string f.name,vp,vb]] w fun x w'=>(∃u,x=.returned u)/\Out w' P (l++funcT f)/\Wr P w w':=by
 obtain⟨HP,Jw,HB,HO⟩:=h4 hp hb hB hO;obtain⟨ap,cp,rfl,Jl,Xn,-⟩:=hp;clear hb hB hO;obtain⟨nm,ps,bd⟩:=f;obtain⟨nl,rfl⟩:∃nl,nm=tx nl:=⟨_,(dw nm).symm⟩;simp only at*;generalize hTx:funcT ⟨tx nl,ps,bd⟩=T at hl⊢;have HQ:Hid (T=[105,110,116,32]++(nl++[40])++aA (fj ps) ps.length++[41,32,123,10]++aW bd++[125,10]):=hTx.symm.trans (by simp[funcT,tx]);have HL:=ah hl;rw[HQ.out]at HL;generalize aW bd=tb at Jw HQ HL;go_enter func36,ntmps36;go_upto_region 1 with fail;obtain⟨W,hW⟩:=q_ (w.alloc (.cells #[.string (tx nl),.slice ap ps.length cp,vb] 43));have Xd:Hid (Out W P l):=by rw[hW];exact(aZ HO.out _).1
 have Jf:Hid (Wr P w W):=by rw[hW];exact(aZ HO.out _).2.1
 have Jn:Hid (oD P W w.heap.size):=by rw[hW];exact(aZ HO.out _).2.2
 have c0:W.cell? ⟨w.heap.size,0,none⟩=some (.string (tx nl)):=by rw[hW];simp
 have c1:W.cell? ⟨w.heap.size,1,none⟩=some (.slice ap ps.length cp):=by rw[hW];simp
 have c2:W.cell? ⟨w.heap.size,2,none⟩=some vb:=by rw[hW];simp
 rw[<-hW];clear hW;generalize w.heap.size=H at c0 c1 c2 Jn⊢;obtain⟨Xb,Xh⟩:=h2 c1 c2;go_wp2_with fail;refine(Cf P l [105,110,116,32] nl [40] W Xd.out (by have:=HL.out;simp only[l_a]at*;omega)).mono ?_;rintro x w1 ⟨⟨u,rfl⟩,Ju,Ji⟩;obtain⟨Jq,Xf⟩:=h2 Ju Ji;have c1:w1.cell? ⟨H,1,none⟩=some (.slice ap ps.length cp):=Jn.out.cell Ji Xb;clear Ju Ji c0;generalize [105,110,116,32]++(nl++[40])=hd at Jq HQ HL;go_wp2;go_loopw[14] (fun ix wr=>∃k:Nat,k<=ps.length/\ix=.int .i64 k/\Out wr P (l++hd++aA (fj ps) k)/\Wr P W wr) (fun ix _=>ps.length-(RowKit.intOf ix).toNat)
 case atStart=>exact⟨0,y_,rfl,by simpa only[aA,List.append_nil]using Jq.out,Xf⟩
 case round=>
  obtain⟨k,hk,rfl,Xi,Js⟩:=hrel;obtain⟨Je,Jh⟩:=h2 Xi Js;have Jy:Hid (Bl w0 wr):=HB.out.trans (((Jf.out.trans Js).toBelow HO).mono h0);by_cases hkA:k<ps.length
  ·have Jm:Hid ((aA (fj ps) (k+1)).length<=(aA (fj ps) ps.length).length):=fX _ (k+1) _ hkA;have Jv:=ah (oy ps k hkA);obtain⟨Xm,Xk,he,_,_,Jx⟩:=HP.out.below Jy;simp only[Value.slice.injEq,true_and]at he;obtain⟨rfl,rfl⟩:=he;obtain⟨bp,op,rfl,Jl⟩:=Jx o_;have hv:=Jl k hkA;clear Jx Jl;generalize hpk:ps[k]=pk at hv Jv;obtain⟨pl,rfl⟩:∃pl,pk=tx pl:=⟨_,(dw pk).symm⟩;have Jb:Hid (fj ps k=[105,110,116,32]++pl):=Jv.out;by_cases hk0:k=0
   ·subst hk0;rw[Nat.add_zero]at hv;have Xa:(0:Int)<(ps.length:Int):=o_
    go_wp2_with fail;refine(wz P (l++hd++aA (fj ps) 0) [105,110,116,32] pl wr Je.out (by have:=HL.out;have:=Jm.out;simp only[aA,Jb.out,l_a]at*;omega)).mono ?_;rintro x w2 ⟨⟨u2,rfl⟩,Jc,Ja⟩;have Jk:Hid (Out w2 P (l++hd++aA (fj ps) (0+1))):=by
     show Out _ _ _;simpa[aA,Jb.out]using Jc
    have Jg:Hid (Wr P W w2):=Jh.out.trans Ja;clear Jc Ja;go_wp2;go_roundw
    case rel=>exact⟨0+1,o_,by go_num,Jk,Jg⟩
    case measure=>simp[RowKit.intOf];omega
   ·have Xl:(0:Int)<(k:Int):=o_
    go_wp2_with fail;refine(ik P (l++hd++aA (fj ps) k) [44,32] wr Je.out (by have:=HL.out;have:=Jm.out;simp only[aA,Jb.out,l_a,if_neg hk0]at*;omega)).mono ?_;rintro x w3 ⟨⟨u3,rfl⟩,Jp,Jj⟩;have Jo:=ah Jp;have Jd:Hid (Wr P W w3):=Jh.out.trans Jj;go_wp2_with fail;refine(wz P (l++hd++aA (fj ps) k++[44,32]) [105,110,116,32] pl w3 Jo.out (by have:=HL.out;have:=Jm.out;simp only[aA,Jb.out,l_a,if_neg hk0]at*;omega)).mono ?_;rintro x w2 ⟨⟨u2,rfl⟩,Jc,Ja⟩;have Jk:Hid (Out w2 P (l++hd++aA (fj ps) (k+1))):=by
     show Out _ _ _;simpa only[aA,if_neg hk0,Jb.out,List.append_assoc]using Jc
    have Jg:Hid (Wr P W w2):=Jd.out.trans Ja;clear Jc Ja;go_wp2;go_roundw
    case rel=>exact⟨k+1,o_,by go_num,Jk,Jg⟩
    case measure=>simp[RowKit.intOf];omega
  ·obtain rfl:k=ps.length:=by omega
   generalize aA (fj ps) ps.length=tc at Je HQ HL;go_wp2_with fail;refine(ik P (l++hd++tc) [41,32,123,10] wr Je.out (by have:=HL.out;simp only[l_a]at*;omega)).mono ?_;rintro x w3 ⟨⟨u3,rfl⟩,Jp,Jj⟩;have Jo:=ah Jp;have Jd:Hid (Wr P W w3):=Jh.out.trans Jj;have c2:w3.cell? ⟨H,2,none⟩=some vb:=Jn.out.cell Jd.out Xh;go_wp2_with fail;refine(Jw.out (l++hd++tc++[41,32,123,10]) w3 (HB.out.trans (((Jf.out.trans Jd).toBelow HO).mono h0)) Jo.out (by have:=HL.out;simp only[l_a]at*;omega)).mono ?_;rintro x w4 ⟨⟨u4,rfl⟩,Jr,Jt⟩;have Xj:=ah Jr;have Xe:Hid (Wr P W w4):=Jd.out.trans Jt;clear Jr Jt c2;go_wp2_with fail;refine(ik P (l++hd++tc++[41,32,123,10]++tb) [125,10] w4 Xj.out (by have:=HL.out;simp only[l_a]at*;omega)).mono ?_;rintro x w5 ⟨⟨u5,rfl⟩,Xc,Jz⟩;have J_:=ah Xc;have Xg:Hid (Wr P w w5):=Jf.out.trans (Xe.out.trans Jz);go_wp2_with fail;go_end0;refine⟨⟨_,rfl⟩,?_,Xg⟩;rw[HQ.out];simpa only[List.append_assoc]using J_.out
section
variable{α:Type}{g:Gl}{f:Fu}{w:World}
def me(t:Tr):List UInt8:=if cK t=true then cZ t else[]
theorem gH(f:α->List UInt8)(c:Nat)(l:List α)(h:∀x∈l,(f x).length<=c)(k:Nat):((l.take k).flatMap f).length<=c*k:=by
 induction k generalizing l with
 | zero=>simp
 | succ k ih=>
  cases l with
  | nil=>simp
  | cons x r=>
   have h1:=h x List.mem_cons_self;have h2:=ih r (fun y hy=>h y (m_ _ hy));simp only[List.take_succ_cons,List.flatMap_cons,l_a];rw[Nat.mul_succ];omega
theorem gT(f:α->List UInt8)(l:List α)(k:Nat)(h:k<l.length):(l.take (k+1)).flatMap f=(l.take k).flatMap f++f l[k]:=by
 rw[bM l k h,List.flatMap_append];simp
theorem ff(h:bV g=true):aK g.name=true/\0<=g.size/\g.size<=4000:=by
 simp only[bV,Bool.and_eq_true,decide_eq_true_eq]at h;exact⟨h.1,h.2⟩
theorem gI(h:bV g=true):(bP g).length<=50:=by
 obtain⟨h1,h2,h3⟩:=ff h;have:=kC h1;have hi:=ph g.size o_ o_;unfold bP;rw[i7]at this;split <;> (simp;omega)
structure Fp (f:Fu):Prop where
 name:aK f.name=true
 np:f.params.length<=6
 pars:∀p∈f.params,aK p=true
 nb:f.body.length<=500
 good:jy f.body
 sum:nodeSum f.body<=2000
theorem dd(h:cq f=true):Fp f:=by
 simp only[cq,Bool.and_eq_true,decide_eq_true_eq,stmtsB,List.all_eq_true]at h;obtain⟨h1,h2,h3,h4,⟨h5,h6⟩,h7⟩:=h;exact⟨h1,h2,h4,h3,⟨h6,h7⟩,h5⟩
theorem uL(S:Nat->List UInt8)(c:Nat)(k:Nat)(h:∀i,i<k->(S i).length<=c):(aA S k).length<=(c+2)*k:=by
 induction k with
 | zero=>simp[aA]
 | succ k ih=>
  have h1:=ih (fun i hi=>h i o_);have h2:=h k o_;have h3:(if k=0 then([]:List UInt8)else[44,32]).length<=2:=by split <;> simp
  simp only[aA,l_a];rw[Nat.mul_succ];omega
theorem gJ(h:cq f=true):(funcT f).length<=120000:=by
 have g:=dd h;have h1:=kC g.name;have h2:=my f.body.length f.body n_ g.good;have h3:=g.nb;have h4:=g.sum;have h5:=uL (fj f.params) 24 f.params.length (fun i hi=>by
  rw[oy f.params i hi];have:=kC (g.pars f.params[i] (g_ hi));simp only[l_a,l_c,l_n];omega)
 have h6:=g.np;unfold funcT;simp only[l_a,l_c,l_n];omega
theorem fY{t:Tr}(h:cK t=true):t.globals.length<=50/\t.funcs.length<=50/\(∀g∈t.globals,bV g=true)/\∀f∈t.funcs,cq f=true:=by
 simp only[cK,Bool.and_eq_true,decide_eq_true_eq,List.all_eq_true]at h;exact⟨h.1,h.2.1,h.2.2.1,h.2.2.2⟩
theorem mV{b b':Nat}{e:TypeId}{s:Nat}{v:Value}{n:Nat}{xs:List Value}(h:w.ownsRow b e s v n xs)(hb:b'<=b):w.ownsRow b' e s v n xs:=by
 obtain⟨g1,g2⟩:=h;refine⟨g1,?_⟩;rcases g2 with g2|⟨g,Jb,Ja,rfl,g3,g4,g5⟩
 ·exact .inl g2
 ·exact .inr ⟨g,Jb,Ja,rfl,o_,g4,g5⟩
theorem Aq{w1:World}{t u:TypeId}{x y:Value}(h:Below ((w.alloc (.cells #[x,y] t)).alloc (.cells #[.slice none 0 0] u)).heap.size ((w.alloc (.cells #[x,y] t)).alloc (.cells #[.slice none 0 0] u)) w1):
  Below w.heap.size w w1/\Out w1 (w.heap.size+1) []/\oD (w.heap.size+1) w1 w.heap.size/\w1.cell? ⟨w.heap.size,0,none⟩=some x/\w1.cell? ⟨w.heap.size,1,none⟩=some y:=by
 have hs:=h.size;simp only[World.size_alloc]at hs;have hb:Bl w w1:=((aD _ _).alloc i_ _).trans (h.mono (by simp;omega));have c0:w1.cell? ⟨w.heap.size+1,0,none⟩=some (.slice none 0 0):=by
  rw[h.cell i_];have:(w.alloc (.cells #[x,y] t)).heap.size=w.heap.size+1:=by simp
  rw[<-this];simp
 have f0:w1.frozen? ⟨w.heap.size+1,0,none⟩=false:=by
  rw[h.frozen i_];have:(w.alloc (.cells #[x,y] t)).heap.size=w.heap.size+1:=by simp
  rw[<-this];simp
 refine⟨hb,⟨o_,f0,_,c0,World.ownsRow_nil _ _ _ _⟩,⟨o_,o_,?_⟩,?_,?_⟩
 ·unfold rb;rw[c0];simp[Value.ownBlock]
 ·rw[h.cell (by simp;omega)];simp
 ·rw[h.cell (by simp;omega)];simp
theorem uM(t:Tr)(vg vf:Value)(w:World)(hT:dz w)(Xt:kr w)(Xu:jI w)(ht:i6 t)(hg:dL w vg t.globals)(hf:dM w vf t.funcs):
  Calls prog 16 #[.agg #[vg,vf]] w fun e w'=>∃v,e=.returned v/\w'.ownsRow w.heap.size 5 1 v (me t).length (Lib.strCells (tx (me t)))/\Below w.heap.size w w':=by
 obtain⟨HT,Xg,Xa,HS,HG,HF⟩:=h6 hT Xt Xu ht hg hf;obtain⟨ag,cg,rfl,X_,Xp,-⟩:=hg;obtain⟨af,cf,rfl,Xz,Xn,-⟩:=hf;have Yb:t.globals.length<=1048576:=ht.1;have Xv:t.funcs.length<=1048576:=ht.2.1;go_enter func16,ntmps16;go_wp2_with fail;have Jn:∀o1 o2,Bl w ((w.alloc o1).alloc o2):=fun o1 o2=>(r_.alloc n_ o1).alloc i_ o2;refine(jO t _ _ _ (HT.out.below HT.out.size (Jn _ _)) HS.out (HG.out.below (Jn _ _)) (HF.out.below (Jn _ _))).mono ?_;rintro e w1 ⟨rfl,Xk⟩;obtain⟨Xh,Xm,Jq,x0,x1⟩:=Aq Xk;obtain⟨Jk,Jh,Jt,Xj⟩:=h4 Xh Xm Jq x1;have hP:w.heap.size<=w.heap.size+1:=o_
 cases htr:cK t
 ·have HE:Hid (me t=[]):=by show _=_;rw[me,htr];rfl
  obtain⟨_,_,v,hv,Jc⟩:=Jh.out;have HV:=ah Jc;go_wp2_with fail;refine bodyPost_ret (v:=v) (by simp[results,results16,go_sem]) rfl ⟨v,rfl,?_,Jk⟩;rw[HE.out];exact mV HV.out o_
 ·obtain⟨Jl,Xo,J_,Xb⟩:=fY htr;have HE:Hid (me t=t.globals.flatMap bP++t.funcs.flatMap funcT):=by show _=_;rw[me,if_pos htr];rfl
  obtain⟨Xr,Xi⟩:=h2 J_ Xb;have Jx:Hid (∀k,k<=50->((t.globals.take k).flatMap bP).length<=2500):=fun k hk=>by
   have:=gH bP 50 t.globals (fun g hg=>gI (J_ g hg)) k
   omega
  have Xf:Hid (∀k,k<=50->((t.funcs.take k).flatMap funcT).length<=6000000):=fun k hk=>by
   have:=gH funcT 120000 t.funcs (fun f hf=>gJ (Xb f hf)) k
   omega
  generalize hPn:w.heap.size+1=P at*;go_wp2;go_loopw[16] (fun ix wr=>∃k:Nat,k<=t.globals.length/\ix=.int .i64 k/\Out wr P ((t.globals.take k).flatMap bP)/\Wr P w1 wr) (fun ix _=>t.globals.length-(RowKit.intOf ix).toNat)
  case atStart=>exact⟨0,y_,rfl,by simpa using Jh.out,Wr.refl _ _⟩
  case round=>
   obtain⟨k,hk,rfl,Jw,Jg⟩:=hrel;obtain⟨Jb,Jd⟩:=h2 Jw Jg;have Ja:Hid (Bl w wr):=Jk.out.trans ((Jg.toBelow Jh).mono hP);by_cases hkA:k<t.globals.length
   ·have Jo:Hid (bV t.globals[k]=true):=Xr.out _ (g_ hkA);have Je:=ah (gT bP t.globals k hkA);obtain⟨Xy,Xw,he,_,_,Xs⟩:=HG.out.below Ja;simp only[Value.slice.injEq,true_and]at he;obtain⟨rfl,rfl⟩:=he;obtain⟨bg,og,rfl,Jv⟩:=Xs o_;obtain⟨y0,y1⟩:=Jv k hkA;generalize hgk:t.globals[k]=g at y0 y1 Jo Je;go_wp2_with fail;refine(yx w P hP Xa.out g (ff Jo).2 ((t.globals.take k).flatMap bP) _ (Ja.out.trans ((aD _ _).mono Ja.out.size)) (aZ Jb.out _).1 (by have h1:=Jx.out k o_;have h2:=gI Jo;omega)).mono ?_;rintro x w2 ⟨⟨u2,rfl⟩,Ju,Jj⟩;have Jr:Hid (Out w2 P ((t.globals.take (k+1)).flatMap bP)):=by show Out _ _ _;rw[Je.out];exact Ju
    have Jm:Hid (Wr P w1 w2):=Jd.out.trans ((aZ Jb.out _).2.1.trans Jj);go_wp2;go_roundw
    case rel=>exact⟨k+1,o_,by go_num,Jr,Jm⟩
    case measure=>simp[RowKit.intOf];omega
   ·obtain rfl:k=t.globals.length:=by omega
    have Jy:Hid (Out wr P (t.globals.flatMap bP)):=by have:=Jb.out;rw[List.take_length]at this;exact this
    have Jf:Hid ((t.globals.flatMap bP).length<=2500):=by have:=Jx.out _ Jl;rw[List.take_length]at this;exact this
    generalize t.globals.flatMap bP=gt at Jy Jf HE;have x1:wr.cell? ⟨w.heap.size,1,none⟩=some (.slice af t.funcs.length cf):=Jt.out.cell Jd.out Xj;go_wp2;go_loopw[26] (fun ix wr=>∃k:Nat,k<=t.funcs.length/\ix=.int .i64 k/\Out wr P (gt++(t.funcs.take k).flatMap funcT)/\Wr P w1 wr) (fun ix _=>t.funcs.length-(RowKit.intOf ix).toNat)
    case atStart=>exact⟨0,y_,rfl,by simpa using Jy.out,Jd⟩
    case round=>
     obtain⟨k,hk,rfl,Jw,Jg⟩:=hrel;obtain⟨Jb,Jd⟩:=h2 Jw Jg;have Ja:Hid (Bl w wr):=Jk.out.trans ((Jg.toBelow Jh).mono hP);by_cases hkA:k<t.funcs.length
     ·have Jp:Hid (cq t.funcs[k]=true):=Xi.out _ (g_ hkA);have Ji:Hid (iZ t.funcs[k]):=HS.out.2.2 _ (g_ hkA);have Je:=ah (gT funcT t.funcs k hkA);obtain⟨Ya,Xx,Jz,_,_,Xl⟩:=HF.out;simp only[Value.slice.injEq,true_and]at Jz;obtain⟨rfl,rfl⟩:=Jz;obtain⟨bg,og,rfl,Jv⟩:=Xl o_;obtain⟨vp,vb,⟨y0,y1,y2⟩,hp,hb⟩:=Jv k hkA;have Js:=b_ y0;have z0:=(Ja.out.cell (p:=⟨bg,og+k*3,none⟩) Js).trans y0;have z1:=(Ja.out.cell (p:=⟨bg,og+k*3+1,none⟩) Js).trans y1;have z2:=(Ja.out.cell (p:=⟨bg,og+k*3+2,none⟩) Js).trans y2;generalize hgk:t.funcs[k]=f at z0 z1 z2 Jp Je Ji hp hb;have HP:=ah hp;have Xe:uX f.body:=⟨(dd Jp).good,Ji.out.2.2⟩;have Xq:gG w P vb (aW f.body):=uK w P hP HT.out Xg.out Xa.out f.body.length vb f.body n_ Ji.out.2.1 Xe hb;have Xd:=ah Xq;obtain⟨ap,cp,rfl,-⟩:=hp;obtain⟨ab,cb,rfl,-⟩:=hb;go_wp2_with fail;refine(yz w P hP f _ _ HP.out Ji.out.1 Xd.out (gt++(t.funcs.take k).flatMap funcT) _ (Ja.out.trans ((aD _ _).mono Ja.out.size)) (aZ Jb.out _).1 (by have h1:=Xf.out k o_;have h2:=gJ Jp;have h3:=Jf.out;simp only[l_a];omega)).mono ?_;rintro x w2 ⟨⟨u2,rfl⟩,Ju,Jj⟩;have Jr:Hid (Out w2 P (gt++(t.funcs.take (k+1)).flatMap funcT)):=by show Out _ _ _;rw[Je.out,<-List.append_assoc];exact Ju
      have Jm:Hid (Wr P w1 w2):=Jd.out.trans ((aZ Jb.out _).2.1.trans Jj);go_wp2;go_roundw
      case rel=>exact⟨k+1,o_,by go_num,Jr,Jm⟩
      case measure=>simp[RowKit.intOf];omega
     ·obtain rfl:k=t.funcs.length:=by omega
      have Xc:=Jb.out;rw[List.take_length,<-HE.out]at Xc;obtain⟨_,_,v,hv,Jc⟩:=Xc;have HV:=ah Jc;go_wp2_with fail;refine bodyPost_ret (v:=v) (by simp[results,results16,go_sem]) rfl ⟨v,rfl,mV HV.out o_,Ja⟩
end
def C6(w:World)(v:Value)(l:List UInt8):Prop:=∃a cap,v=.slice a l.length cap/\l.length<=cap/\(0<l.length->∃b,a=some ⟨b,0,none⟩/\∀j (h:j<l.length),w.cell? ⟨b,j,none⟩=some (.int .u8 (l[j].toNat:Int)))
end Go.Proofs.YtlamjfhhefcohaaGreatDoor
