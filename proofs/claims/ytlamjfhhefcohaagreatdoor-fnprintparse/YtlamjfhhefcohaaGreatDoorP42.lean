import Derived.Test.YtlamjfhhefcohaaGreatDoorP21
import Derived.Lib.QuietBelow
import Derived.Test.YtlamjfhhefcohaaGreatDoorP41
set_option linter.unusedSectionVars false
variable [Inhabited Go.Proofs.YtlamjfhhefcohaaGreatDoor.Pick]
namespace Go.Proofs.YtlamjfhhefcohaaGreatDoor
open Go.Proofs.Tryz
open Go.RowKit Go.Sort
set_option linter.all false
set_option maxRecDepth 100000
set_option maxHeartbeats 16000000
def iB(w0:World)(e:List Nd)(s:List UInt8):Prop:=
 ∀(v:Value) (w:World),ax w0 v e->Below w0.heap.size w0 w ->
  Calls prog 80 #[v] w fun x w'=>x=.returned (.string (tx s))/\Below w.heap.size w w'
theorem rq(S:Nat->List UInt8)(c:Nat)(k:Nat)(h:∀i,i<k->(S i).length<=c):(aA S k).length<=(c+2)*k:=by
 induction k with
 | zero=>simp[aA]
 | succ k ih=>
  have h1:=ih (fun i hi=>h i o_);have h2:=h k o_;have h3:(if k=0 then([]:List UInt8)else[44,32]).length<=2:=by split <;> simp
  simp only[aA,l_a];rw[Nat.mul_succ];omega
theorem oz{i:Nat}(h:i<17):i=0∨i=1∨i=2∨i=3∨i=4∨i=5∨i=6∨i=7∨i=8∨i=9∨i=10∨i=11∨i=12∨i=13∨i=14∨i=15∨i=16:=by omega
def unObj:Obj:=.cells #[.string {data:=#[45]},.string {data:=#[33]},.string {data:=#[126]}] 9
theorem yA{V:World}{g m:Nat}(h:V.heap[g]? =some unObj)(hm:m<3):V.cell? ⟨g,m,none⟩=some (.string (tx (unTab.getD m []))):=by
 have:m=0∨m=1∨m=2:=by omega
 rcases this with rfl|rfl|rfl <;> simp[World.cell?,h,unObj,unTab,tx]
theorem Ar(V:World)(m:Nat)(hm:m<3):(V.alloc (.cells #[.string {data:=#[45]},.string {data:=#[33]},.string {data:=#[126]}] 9)).cell? ⟨V.heap.size,m,none⟩=some (.string (tx (unTab.getD m []))):=by
 have:m=0∨m=1∨m=2:=by omega
 rcases this with rfl|rfl|rfl <;> simp[unTab,tx]
theorem uN(w0:World)(e:List Nd)(A:Nat)(b:Nat->Nat)(S:Nat->List UInt8)(Jy:Cut e A b)(Yr:e.length<=1048576)(hS:∀i,i<A->(S i).length<=50000000)(hL:(dS (ay e) A S (fun i=>strN (ay (bH e b i)))).length<=50000000)(hX:∀i,i<A->iB w0 (bH e b i) (S i)):
  iB w0 e (dS (ay e) A S (fun i=>strN (ay (bH e b i)))):=by
 intro v w hN hB;obtain⟨HN,HB,Jb,HX,Jx⟩:=h5 hN hB Jy hX hS;have he:=Jy.len;have HG:Hid (aB (ay e)=true):=Jy.root_good;have HA:Hid (arity (ay e)=A):=Jy.ar;have HR:Hid (Calls prog 109 #[v] w fun r w'=>r=.returned (.agg #[.int .i64 (ay e).kind,.int .i64 (ay e).val,.string (ay e).name])/\Bl w w'):=by
  have:=gy _ e w he Yr (hN.below hB)
  rw[<-co e he]at this;exact this
 have HK:=ah fun (W:World) (hW:Bl w W)=>vZ w0 v e A b W Yr hN (hB.trans (hW.mono hB.size)) Jy;clear hB hN Jy hX hS;generalize hR:ay e=R at hL HG HA HR⊢;clear hR;obtain⟨nk,nv,nm⟩:=R;obtain⟨nl,rfl⟩:∃nl,nm=tx nl:=⟨_,(dw nm).symm⟩;simp only at HR;generalize hTx:dS ⟨nk,nv,tx nl⟩ A S (fun i=>strN (ay (bH e b i)))=T at hL⊢;obtain⟨Jp,HL⟩:=h2 hTx hL;clear hL hTx;have Jz:(tx nl).size<=20:=oI HG;have Ve:((tx nl).size:Int)<=20:=o_
 go_enter func80,ntmps80;go_wp2_with fail;refine HR.out.mono ?_;rintro x w1 ⟨rfl,Xh⟩;go_wp2_with fail;have Yc:∀o,Bl w (w1.alloc o):=fun o=>Xh.alloc Xh.size o;refine(HK.out _ (Yc _)).mono ?_;rintro x W ⟨vk,rfl,Jq,Jr⟩;obtain⟨g0,g1,g2⟩:W.cell? ⟨w1.heap.size,0,none⟩=some (.int .i64 nk)/\W.cell? ⟨w1.heap.size,1,none⟩=some (.int .i64 nv)/\W.cell? ⟨w1.heap.size,2,none⟩=some (.string (tx nl)):=by
  refine⟨?_,?_,?_⟩
  ·rw[Jr.cell i_];simp
  ·rw[Jr.cell i_];simp
  ·rw[Jr.cell i_];simp
 have Jg:Hid (Bl w W):=(Yc _).trans (Jr.mono (by have:=Xh.size;simp;omega));have Jd:Hid (Bl w0 W):=HB.out.trans (Jg.out.mono HB.out.size);have Za:=ah Jq;clear Yc Xh Jr HR HK;generalize w1.heap.size=G at g0 g1 g2⊢;have Yp:1<=nk/\nk<=9:=bL HG;have hk:nk=1∨nk=2∨nk=3∨nk=4∨nk=5∨nk=6∨7<=nk:=o_;rcases hk with rfl|rfl|rfl|rfl|rfl|rfl|hk7
 ·have HV:Hid (-2147483648<=nv/\nv<=2147483647):=zy HG.out rfl;have HE:Hid (T=Lib.itoa nv):=Jp.out.symm.trans rfl;clear Jq;go_wp2_with fail;refine(lm nv HV.out.1 (by have:=HV.out;omega) W).mono ?_;rintro x w2 ⟨rfl,Jr⟩;go_wp2;go_ret;exact⟨cC (by rw[HE.out]),Jg.out.trans (Jr.mono Jg.out.size)⟩
 ·have HE:Hid (T=nl):=Jp.out.symm.trans (by simp[dS,tx]);clear Jq;go_wp2;go_ret;exact⟨cC (by rw[HE.out]),Jg⟩
 ·
  have Xx:A=1:=by have:=HA.out;simp[arity]at this;omega
  subst Xx;obtain⟨ua,uc,rfl,Xw,Xj,Jh⟩:=Jq;obtain⟨B,rfl,-,-,Ji⟩:=Jh o_;obtain⟨vi,hv1,Jm⟩:=Ji 0 o_;have HE:Hid (T=nl++[91]++S 0++[93]):=Jp.out.symm.trans (by simp[dS,tx]);have Yk:Hid ((S 0).length<=50000000):=Jx.out 0 o_;have cS:∀d os,Calls prog 80 #[vi] (grow (redrawn W d) os) fun e w''=>e=.returned (.string (tx (S 0)))/\∃p:Regrown,w''=grow (redrawn W p.d) p.os:=fun d os=>Calls.regrown_of (HX.out 0 o_ vi _ Jm (Jd.out.trans ((below_regrown W d os).mono Jd.out.size)));have k2:=cell_regrown g2;have kv:=cell_regrown hv1;have Zr:(⟨#[91]⟩:ByteArray).size=1:=rfl;have Zq:(⟨#[93]⟩:ByteArray).size=1:=rfl;have Jc:tx nl++(⟨#[91]⟩:ByteArray)=tx (nl++[91]):=aq nl [91];have Jf:tx (nl++[91])++tx (S 0)=tx (nl++[91]++S 0):=aq _ _;have Xd:tx (nl++[91]++S 0)++(⟨#[93]⟩:ByteArray)=tx (nl++[91]++S 0++[93]):=aq _ [93];have Yt:((tx (nl++[91])).size:Int)<=21:=by rw[tx_size]at*;simp only[l_a,l_c,l_n];omega
  have Xy:((tx (S 0)).size:Int)<=50000000:=by have:=Yk.out;rw[tx_size];omega
  have Zl:((tx (nl++[91]++S 0)).size:Int)<=50000021:=by have:=Yk.out;rw[tx_size]at*;simp only[l_a,l_c,l_n];omega
  generalize hX3:tx (nl++[91]++S 0++[93])=X3 at Xd;have Zf:=ah hX3;clear hX3;generalize tx (nl++[91]++S 0)=X2 at Jf Xd Zl;generalize tx (nl++[91])=X1 at Jc Jf Yt;generalize tx (S 0)=X0 at Jf Xy cS;have n1:¬9223372036854775807<(tx nl).size+1:=o_;have n2:¬9223372036854775807<X1.size+X0.size:=o_;have n3:¬9223372036854775807<X2.size+1:=o_;clear Jh Ji Jm;go_wp2_with fail;refine wp_region_quiet_below k_ k_ ?_;repeat (quiet_step (first|exact cS _ _))
  refine wpQuiet_nil ?_;intro _ Zg;obtain⟨⟨dq,Xv⟩,Je⟩:=Zg;subst Je;go_wp2;go_ret;exact⟨cC (by rw[HE.out,Zf.out]),Jg.out.trans ((below_regrown W dq Xv).mono Jg.out.size)⟩
 ·
  obtain⟨ua,uc,rfl,Xw,Xj,Jh⟩:=Jq;have Yz:=ah (Za);have HE:Hid (T=nl++[40]++aA S A++[41]):=Jp.out.symm.trans (by simp[dS,tx]);have Zu:(A:Int)<=6:=by have:=Jb.out.arA;omega
  have Zd:Hid (∀k,k<=A->(aA S k).length<=400000000):=fun k hk=>by
   have:=rq S 50000000 k (fun i hi=>Jx.out i o_)
   have:(50000000+2)*k<=(50000000+2)*6:=Nat.mul_le_mul_left _ o_
   omega
  have Y_:nl.length<=20:=by rw[tx_size]at Jz;exact Jz
  have Zs:(⟨#[40]⟩:ByteArray).size=1:=rfl;have Jc:tx nl++(⟨#[40]⟩:ByteArray)=tx (nl++[40]):=aq nl [40];have Yl:Hid (tx (nl++[40])=tx (nl++[40]++aA S 0)):=by show _=_;simp[aA]
  generalize Xg:tx (nl++[40])=X1 at Jc;rw[Xg]at Yl;clear Jh Xg;go_wp2;go_loopw[5,6] (fun ot ix wr=>∃k:Nat,k<=A/\ix=.int .i64 k/\ot=.string (tx (nl++[40]++aA S k))/\Bl W wr) (fun _ ix _=>A-(RowKit.intOf ix).toNat)
  case atStart=>exact⟨0,y_,rfl,by rw[<-Yl.out],r_⟩
  case round=>
   obtain⟨k,hk,rfl,rfl,Js⟩:=hrel;have Xo:((tx (nl++[40]++aA S k)).size:Int)<=500000000:=by have:=Zd.out k hk;rw[tx_size];simp only[l_a,l_c,l_n];omega
   clear Jc;by_cases hkA:k<A
   ·obtain⟨Zv,Va,he,_,_,Jh⟩:=Yz.out;simp only[Value.slice.injEq,true_and]at he;obtain⟨rfl,rfl⟩:=he;obtain⟨B,rfl,-,Jv,Ji⟩:=Jh o_;obtain⟨vi,hv1,Jm⟩:=Ji k hkA;have hv:=(Js.cell (p:=⟨B,k,none⟩) Jv).trans hv1;have HC:=ah (HX.out k hkA vi wr Jm (Jd.out.trans (Js.mono Jd.out.size)));have Yg:((tx (S k)).size:Int)<=50000000:=by have:=Jx.out k hkA;rw[tx_size];omega
    clear Jh Ji Jm hv1;by_cases hk0:k=0
    ·subst hk0;have Zb:(0:Int)<(A:Int):=o_
     have Jf:tx (nl++[40]++aA S 0)++tx (S 0)=tx (nl++[40]++aA S (0+1)):=by rw[aq];simp[aA]
     generalize Jl:tx (nl++[40]++aA S (0+1))=X2 at Jf;have Xc:=ah Jl;generalize tx (nl++[40]++aA S 0)=Xk at Jf Xo⊢;generalize tx (S 0)=X0 at Jf Yg HC;clear Jl;go_wp2_with fail;refine HC.out.mono ?_;rintro x w3 ⟨rfl,Xs⟩;go_wp2;go_roundw
     case rel=>exact⟨0+1,o_,by go_num,by rw[Xc.out],Js.trans (Xs.mono Js.size)⟩
     case measure=>simp[RowKit.intOf];omega
    ·have Vd:(0:Int)<(k:Int):=o_
     have Zt:(⟨#[44,32]⟩:ByteArray).size=2:=rfl;have Jc:tx (nl++[40]++aA S k)++(⟨#[44,32]⟩:ByteArray)=tx (nl++[40]++aA S k++[44,32]):=aq _ [44,32];have Jf:tx (nl++[40]++aA S k++[44,32])++tx (S k)=tx (nl++[40]++aA S (k+1)):=by rw[aq];simp[aA,hk0]
     have Xy:((tx (nl++[40]++aA S k++[44,32])).size:Int)<=500000002:=by rw[tx_size]at*;simp only[l_a,l_c,l_n]at*;omega
     generalize Jl:tx (nl++[40]++aA S (k+1))=X2 at Jf;have Xc:=ah Jl;generalize tx (nl++[40]++aA S k++[44,32])=Xm at Jc Jf Xy;generalize tx (nl++[40]++aA S k)=Xk at Jc Xo⊢;generalize tx (S k)=X0 at Jf Yg HC;clear Jl;go_wp2_with fail;refine HC.out.mono ?_;rintro x w3 ⟨rfl,Xs⟩;go_wp2;go_roundw
     case rel=>exact⟨k+1,o_,by go_num,by rw[Xc.out],Js.trans (Xs.mono Js.size)⟩
     case measure=>simp[RowKit.intOf];omega
   ·obtain rfl:k=A:=by omega
    have Z_:(⟨#[41]⟩:ByteArray).size=1:=rfl;have Jc:tx (nl++[40]++aA S k)++(⟨#[41]⟩:ByteArray)=tx (nl++[40]++aA S k++[41]):=aq _ [41];generalize Jl:tx (nl++[40]++aA S k++[41])=X2 at Jc;have Xc:=ah Jl;generalize tx (nl++[40]++aA S k)=Xk at Jc Xo⊢;clear Jl;go_wp2;go_ret;exact⟨cC (by rw[HE.out,Xc.out]),Jg.out.trans (Js.mono Jg.out.size)⟩
 ·have HE:Hid (T=[105,110,40,41]):=Jp.out.symm.trans (by simp[dS]);clear Jq;go_wp2;go_ret;exact⟨cC (by rw[HE.out];rfl),Jg⟩
 ·
  have Xx:A=1:=by have:=HA.out;simp[arity]at this;omega
  subst Xx;obtain⟨ua,uc,rfl,Xw,Xj,Jh⟩:=Jq;obtain⟨B,rfl,-,Jv,Ji⟩:=Jh o_;obtain⟨vi,hv1,Jm⟩:=Ji 0 o_;have hE:T=unTab.getD nv.toNat []++cW (S 0) (decide (strN (ay (bH e b 0))<11)):=Jp.out.symm.trans (by simp[dS]);have l0:=Jx.out 0 o_;have Jw:=fB (S 0) (decide (strN (ay (bH e b 0))<11));have ul:=wi nv.toNat;obtain⟨Zp,Zn⟩:0<=nv/\nv<=2:=Ef HG.out rfl;obtain⟨m,rfl⟩:∃m:Nat,nv=m:=⟨nv.toNat,o_⟩;rw[Int.toNat_natCast]at hE ul;have hm:m<3:=o_;have Yx:(m:Int)<3:=o_;have X_:=fun (V:World)=>Ar V m hm;have Yf:=ah fun (V:World) (hV:Bl W V)=>HX.out 0 o_ vi V Jm (Jd.out.trans (hV.mono Jd.out.size));have Xf:Hid (∀V:World,Bl W V->Calls prog 109 #[vi] V fun e' w'=>e'=.returned (.agg #[.int .i64 (ay (bH e b 0)).kind,.int .i64 (ay (bH e b 0)).val,.string (ay (bH e b 0)).name])/\Bl V w'):=fun V hV=>by
   have:=gy vi (bH e b 0) V (Jb.out.kid_pos 0 o_) (by have:=Jb.out.kid_lt 0 o_;omega) (Jm.below (Jd.out.trans (hV.mono Jd.out.size)))
   rw[<-co _ (Jb.out.kid_pos 0 o_)]at this;exact this
  have Xb:=ah fun (V:World)=>iM _ (Jb.out.kid_root 0 o_) V;generalize strN (ay (bH e b 0))=st0 at hE Xb Jw;generalize (ay (bH e b 0)).kind=ak at Xf Xb;generalize (ay (bH e b 0)).val=av at Xf Xb;generalize (ay (bH e b 0)).name=an at Xf Xb;have HH:Hid (∀V:World,Calls prog 114 #[.string (tx (S 0)),.bool (decide (st0<11))] V fun e' w'=>e'=.returned (.string (tx (cW (S 0) (decide (st0<11)))))/\Bl V w'):=fun V=>(lk (S 0) _ o_ V).mono (by rintro e w' ⟨rfl,rfl⟩;exact⟨rfl,r_⟩);generalize cW (S 0) (decide (st0<11))=t0 at hE HH Jw;generalize hgU0:unTab.getD m []=U at hE X_ ul;have HE:=ah hE;have Yj:G<W.heap.size:=b_ g0;have Vb:Hid (∀V V':World,Bl V V'->Bl W V->Bl W V'/\V'.cell? ⟨G,1,none⟩=some (.int .i64 (m:Int))/\V'.cell? ⟨B,0,none⟩=some vi):=fun V V' h h'=>by
   have hb:=h'.trans (h.mono h'.size);exact⟨hb,(hb.cell (p:=⟨G,1,none⟩) Yj).trans g1,(hb.cell (p:=⟨B,0,none⟩) Jv).trans hv1⟩
  have Zy:∀V:World,Bl W V->Bl W V.drew:=fun V h=>h.drew;have Zx:Bl W W:=r_;have Vc:∀(V:World) (o:Obj),Bl W V->Bl W (V.alloc o):=fun V o h=>h.alloc h.size o;have Jc:tx U++tx t0=tx (U++t0):=aq _ _;have s0:((tx t0).size:Int)<=60000000:=by rw[tx_size];omega
  have s1:((tx U).size:Int)<=1:=by rw[tx_size];omega
  generalize hx:tx (U++t0)=YT at Jc;have HY:=ah hx;generalize tx t0=Y0 at Jc s0 HH;generalize hgU1:tx U=YU at Jc s1 X_;have Ys:tx (unTab.getD m [])=YU:=by rw[hgU0];exact hgU1
  clear hgU0 hgU1 X_;generalize tx (S 0)=YS at Yf HH;clear Jh Ji Jm hE hx Yp Jp HA HX;go_wp2_with fail;have Yi:=fun (V:World) (g:Nat) (h:V.heap[g]? =some unObj)=>yA h hm;rw[Ys]at Yi;refine iu k_ (n:=17) (d:=fun i=>[39,40,41,42,43,44,45,46,47,48,49,50,51,52,53,54,55].getD i 0) ?G
   (fun i x Y=>match i with
    | 0=>∃g,x=.slice (some ⟨g,0,none⟩) 3 3/\Y.heap[g]? =some unObj
    | 1=>x=.pointer (some ⟨G,1,none⟩)
    | 2=>x=.int .i64 (m:Int)
    | 3=>∃g,x=.pointer (some ⟨g,m,none⟩)/\Y.heap[g]? =some unObj
    | 4=>x=.string YU
    | 5=>x=.slice (some ⟨B,0,none⟩) 1 uc
    | 6=>x=.pointer (some ⟨B,0,none⟩)
    | 7=>x=vi
    | 8=>x=.string YS
    | 9=>x=.slice (some ⟨B,0,none⟩) 1 uc
    | 10=>x=.pointer (some ⟨B,0,none⟩)
    | 11=>x=vi
    | 12=>x=.agg #[.int .i64 ak,.int .i64 av,.string an]
    | 13=>x=.int .i64 st0
    | 14=>x=.bool (decide (st0<11))
    | 15=>x=.string Y0
    | _=>x=.string YT)
   (fun i x=>[]) ?stab ?hd ?step ?fin
  case G=>
   refine⟨rfl,?_,?_,?_⟩
   ·intro i hi;rcases oz hi with rfl|rfl|rfl|rfl|rfl|rfl|rfl|rfl|rfl|rfl|rfl|rfl|rfl|rfl|rfl|rfl|rfl <;> exact⟨_,rfl,rfl,rfl,by simp[Region.binds]⟩
   ·intro i j hi hj;rcases oz hi with rfl|rfl|rfl|rfl|rfl|rfl|rfl|rfl|rfl|rfl|rfl|rfl|rfl|rfl|rfl|rfl|rfl <;> rcases oz hj with rfl|rfl|rfl|rfl|rfl|rfl|rfl|rfl|rfl|rfl|rfl|rfl|rfl|rfl|rfl|rfl|rfl <;> simp
   ·refine⟨_,rfl,rfl,?_,i_⟩;intro i hi;rcases oz hi with rfl|rfl|rfl|rfl|rfl|rfl|rfl|rfl|rfl|rfl|rfl|rfl|rfl|rfl|rfl|rfl|rfl <;> simp[Region.binds]
  case stab=>
   intro i x Y Y' hR hO hB;by_cases hi:i<17
   ·rcases oz hi with rfl|rfl|rfl|rfl|rfl|rfl|rfl|rfl|rfl|rfl|rfl|rfl|rfl|rfl|rfl|rfl|rfl
    ·obtain⟨g,rfl,hg⟩:=hR;exact⟨g,rfl,(hB.block _ (Array.getElem?_eq_some_iff.1 hg).1).trans hg⟩
    ·exact hR
    ·exact hR
    ·obtain⟨g,rfl,hg⟩:=hR;exact⟨g,rfl,(hB.block _ (Array.getElem?_eq_some_iff.1 hg).1).trans hg⟩
    all_goals exact hR
   ·obtain⟨k,rfl⟩:∃k,i=k+17:=⟨i-17,o_⟩;exact hR
  case hd=>
   intro i hi;rcases oz hi with rfl|rfl|rfl|rfl|rfl|rfl|rfl|rfl|rfl|rfl|rfl|rfl|rfl|rfl|rfl|rfl|rfl <;> simp
  case step=>
   intro i o hi ho x Y Xr Yb Xe hB Ja Zh Zz;have t3:=Xe 3 (by intro j hj;rcases oz hj with rfl|rfl|rfl|rfl|rfl|rfl|rfl|rfl|rfl|rfl|rfl|rfl|rfl|rfl|rfl|rfl|rfl <;> decide);have t4:=Xe 4 (by intro j hj;rcases oz hj with rfl|rfl|rfl|rfl|rfl|rfl|rfl|rfl|rfl|rfl|rfl|rfl|rfl|rfl|rfl|rfl|rfl <;> decide);simp at t3 t4;have c1:=(hB.cell (p:=⟨G,1,none⟩) Yj).trans g1;have cv:=(hB.cell (p:=⟨B,0,none⟩) Jv).trans hv1;rcases oz hi with rfl|rfl|rfl|rfl|rfl|rfl|rfl|rfl|rfl|rfl|rfl|rfl|rfl|rfl|rfl|rfl|rfl
   ·simp at ho;subst ho;simp[Oper.wp,execOp,Oper.upon,Act.eval,go_sem];exact⟨_,rfl,⟨_,rfl,heap_alloc_new _ _⟩,r_.alloc n_ _⟩
   ·simp at ho;subst ho;simp[Oper.wp,execOp,Oper.upon,Act.eval,t3,go_sem];exact⟨_,rfl,rfl,r_⟩
   ·simp at ho;subst ho;have e1:x.tmps[40]?.getD undef=.pointer (some ⟨G,1,none⟩):=by have:=Ja ⟨1,.data⟩ i_;simpa[Act.eval]using this
    simp[Oper.wp,execOp,Oper.upon,e1,c1,go_sem];exact⟨_,rfl,rfl,r_⟩
   ·simp at ho;subst ho;obtain⟨g,e0,b0⟩:=Ja ⟨0,.data⟩ i_;have Xt:x.tmps[39]?.getD undef=.slice (some ⟨g,0,none⟩) 3 3:=by simpa[Act.eval]using e0
    have e1:x.tmps[41]?.getD undef=.int .i64 (m:Int):=by have:=Ja ⟨2,.data⟩ i_;simpa[Act.eval]using this
    simp[Oper.wp,execOp,Oper.upon,Xt,e1,Yx,hm,go_sem];exact⟨_,rfl,⟨g,rfl,b0⟩,r_⟩
   ·simp at ho;subst ho;obtain⟨g,e0,b0⟩:=Ja ⟨3,.data⟩ i_;have Xt:x.tmps[42]?.getD undef=.pointer (some ⟨g,m,none⟩):=by simpa[Act.eval]using e0
    have cc:=Yi _ _ b0;simp[Oper.wp,execOp,Oper.upon,Xt,cc,go_sem];exact⟨_,rfl,rfl,r_⟩
   ·simp at ho;subst ho;simp[Oper.wp,execOp,Oper.upon,Act.eval,t4,go_sem];exact⟨_,rfl,rfl,r_⟩
   ·simp at ho;subst ho;have e1:x.tmps[44]?.getD undef=.slice (some ⟨B,0,none⟩) 1 uc:=by have:=Ja ⟨5,.data⟩ i_;simpa[Act.eval]using this
    simp[Oper.wp,execOp,Oper.upon,e1,go_sem];exact⟨_,rfl,rfl,r_⟩
   ·simp at ho;subst ho;have e1:x.tmps[45]?.getD undef=.pointer (some ⟨B,0,none⟩):=by have:=Ja ⟨6,.data⟩ i_;simpa[Act.eval]using this
    simp[Oper.wp,execOp,Oper.upon,e1,cv,go_sem];exact⟨_,rfl,rfl,r_⟩
   ·simp at ho;subst ho;have e1:x.tmps[46]?.getD undef=vi:=by have:=Ja ⟨7,.data⟩ i_;simpa[Act.eval]using this
    simp[Oper.wp,execOp,Oper.upon,e1,go_sem];refine(Yf.out Y hB).mono ?_;rintro e w3 ⟨rfl,h3⟩;exact⟨_,rfl,rfl,h3⟩
   ·simp at ho;subst ho;simp[Oper.wp,execOp,Oper.upon,Act.eval,t4,go_sem];exact⟨_,rfl,rfl,r_⟩
   ·simp at ho;subst ho;have e1:x.tmps[48]?.getD undef=.slice (some ⟨B,0,none⟩) 1 uc:=by have:=Ja ⟨9,.data⟩ i_;simpa[Act.eval]using this
    simp[Oper.wp,execOp,Oper.upon,e1,go_sem];exact⟨_,rfl,rfl,r_⟩
   ·simp at ho;subst ho;have e1:x.tmps[49]?.getD undef=.pointer (some ⟨B,0,none⟩):=by have:=Ja ⟨10,.data⟩ i_;simpa[Act.eval]using this
    simp[Oper.wp,execOp,Oper.upon,e1,cv,go_sem];exact⟨_,rfl,rfl,r_⟩
   ·simp at ho;subst ho;have e1:x.tmps[50]?.getD undef=vi:=by have:=Ja ⟨11,.data⟩ i_;simpa[Act.eval]using this
    simp[Oper.wp,execOp,Oper.upon,e1,go_sem];refine(Xf.out Y hB).mono ?_;rintro e w3 ⟨rfl,h3⟩;exact⟨_,rfl,rfl,h3⟩
   ·simp at ho;subst ho;have e1:x.tmps[51]?.getD undef=.agg #[.int .i64 ak,.int .i64 av,.string an]:=by have:=Ja ⟨12,.data⟩ i_;simpa[Act.eval]using this
    simp[Oper.wp,execOp,Oper.upon,e1,go_sem];refine(Xb.out Y).mono ?_;rintro e w3 ⟨rfl,h3⟩;exact⟨_,rfl,rfl,h3⟩
   ·simp at ho;subst ho;have e1:x.tmps[52]?.getD undef=.int .i64 st0:=by have:=Ja ⟨13,.data⟩ i_;simpa[Act.eval]using this
    simp[Oper.wp,execOp,Oper.upon,e1,go_sem];exact⟨_,rfl,rfl,r_⟩
   ·simp at ho;subst ho;have e1:x.tmps[47]?.getD undef=.string YS:=by have:=Ja ⟨8,.data⟩ i_;simpa[Act.eval]using this
    have e2:x.tmps[53]?.getD undef=.bool (decide (st0<11)):=by have:=Ja ⟨14,.data⟩ i_;simpa[Act.eval]using this
    simp[Oper.wp,execOp,Oper.upon,e1,e2,go_sem];refine(HH.out Y).mono ?_;rintro e w3 ⟨rfl,h3⟩;exact⟨_,rfl,rfl,h3⟩
   ·simp at ho;subst ho;have e1:x.tmps[43]?.getD undef=.string YU:=by have:=Ja ⟨4,.data⟩ i_;simpa[Act.eval]using this
    have e2:x.tmps[54]?.getD undef=.string Y0:=by have:=Ja ⟨15,.data⟩ i_;simpa[Act.eval]using this
    have n1:¬9223372036854775807<YU.size+Y0.size:=o_;simp[Oper.wp,execOp,Oper.upon,e1,e2,n1,Jc,go_sem];exact⟨_,rfl,rfl,r_⟩
  case fin=>
   intro o ho x Y hG;obtain⟨Xr,Yb,Xe,hB,hrel,Xg,Jl⟩:=hG;simp at ho;subst ho;have Xi:=hrel 16 o_ trivial;simp at Xi;have J_:x.tmps[55]?.getD undef=.string YT:=by simpa[Act.eval]using Xi
   simp[Oper.wp,execOp,Oper.upon,J_,go_sem];clear hrel Xg Jl Xe Xi J_;obtain⟨tm,df⟩:=x;simp at Yb Xr;subst Xr;rename_i hK;refine hK _ _ ?_;go_wp2_with fail;refine bodyPost_ret (v:=.string YT) (by simp[results,results80,go_sem,Yb]) rfl ⟨?_,Jg.out.trans (hB.mono Jg.out.size)⟩;rw[HE.out,HY.out]
 ·
  have Zj:A=2:=by
   have h:=HA.out;unfold arity at h;simp only at h;rw[if_neg o_,if_neg o_,if_pos o_]at h;omega
  subst Zj;obtain⟨ua,uc,rfl,Xw,Xj,Jh⟩:=Jq;obtain⟨B,rfl,-,Jv,Ji⟩:=Jh o_;obtain⟨v0,Zo,Xn⟩:=Ji 0 o_;obtain⟨v1,hv1,Yd⟩:=Ji 1 o_;have hE:T=cW (S 0) (decide (strN (ay (bH e b 0))<strN ⟨nk,nv,tx nl⟩))++[32]++wordN ⟨nk,nv,tx nl⟩++[32]++cW (S 1) (decide (strN (ay (bH e b 1))<=strN ⟨nk,nv,tx nl⟩)):=by
   refine Jp.out.symm.trans ?_;unfold dS;simp only;rw[if_neg o_,if_neg o_,if_neg o_,if_neg o_,if_neg o_,if_neg o_]
  have l0:=Jx.out 0 o_;have l1:=Jx.out 1 o_;have Jw:=fB (S 0) (decide (strN (ay (bH e b 0))<strN ⟨nk,nv,tx nl⟩));have Xz:=fB (S 1) (decide (strN (ay (bH e b 1))<=strN ⟨nk,nv,tx nl⟩));have wl:=o9 ⟨nk,nv,tx nl⟩;have Xu:=ah fun (V:World) (hV:Bl W V)=>HX.out 0 o_ v0 V Xn (Jd.out.trans (hV.mono Jd.out.size));have Xp:=ah fun (V:World) (hV:Bl W V)=>HX.out 1 o_ v1 V Yd (Jd.out.trans (hV.mono Jd.out.size));have Jo:Hid (∀V:World,Bl W V->Calls prog 109 #[v0] V fun e' w'=>e'=.returned (.agg #[.int .i64 (ay (bH e b 0)).kind,.int .i64 (ay (bH e b 0)).val,.string (ay (bH e b 0)).name])/\Bl V w'):=fun V hV=>by
   have:=gy v0 (bH e b 0) V (Jb.out.kid_pos 0 o_) (by have:=Jb.out.kid_lt 0 o_;omega) (Xn.below (Jd.out.trans (hV.mono Jd.out.size)))
   rw[<-co _ (Jb.out.kid_pos 0 o_)]at this;exact this
  have Jn:Hid (∀V:World,Bl W V->Calls prog 109 #[v1] V fun e' w'=>e'=.returned (.agg #[.int .i64 (ay (bH e b 1)).kind,.int .i64 (ay (bH e b 1)).val,.string (ay (bH e b 1)).name])/\Bl V w'):=fun V hV=>by
   have:=gy v1 (bH e b 1) V (Jb.out.kid_pos 1 o_) (by have:=Jb.out.kid_lt 1 o_;omega) (Yd.below (Jd.out.trans (hV.mono Jd.out.size)))
   rw[<-co _ (Jb.out.kid_pos 1 o_)]at this;exact this
  have Jj:=ah fun (V:World)=>iM _ (Jb.out.kid_root 0 o_) V;have Jk:=ah fun (V:World)=>iM _ (Jb.out.kid_root 1 o_) V;have Jt:=ah fun (V:World)=>iM ⟨nk,nv,tx nl⟩ HG.out V;have Xl:=ah fun (V:World)=>wg ⟨nk,nv,tx nl⟩ HG.out hk7 V;generalize strN ⟨nk,nv,tx nl⟩=st at hE Jt Jw Xz;generalize wordN ⟨nk,nv,tx nl⟩=wd at hE Xl wl;generalize strN (ay (bH e b 0))=st0 at hE Jj Jw;generalize strN (ay (bH e b 1))=st1 at hE Jk Xz;generalize (ay (bH e b 0)).kind=ak at Jo Jj;generalize (ay (bH e b 0)).val=av at Jo Jj;generalize (ay (bH e b 0)).name=an at Jo Jj;generalize (ay (bH e b 1)).kind=bk at Jn Jk;generalize (ay (bH e b 1)).val=bv at Jn Jk;generalize (ay (bH e b 1)).name=bn at Jn Jk;have Yh:Hid (∀V:World,Calls prog 114 #[.string (tx (S 0)),.bool (decide (st0<st))] V fun e' w'=>e'=.returned (.string (tx (cW (S 0) (decide (st0<st)))))/\Bl V w'):=fun V=>(lk (S 0) _ o_ V).mono (by rintro e w' ⟨rfl,rfl⟩;exact⟨rfl,r_⟩);have Yo:Hid (∀V:World,Calls prog 114 #[.string (tx (S 1)),.bool (decide (st1<=st))] V fun e' w'=>e'=.returned (.string (tx (cW (S 1) (decide (st1<=st)))))/\Bl V w'):=fun V=>(lk (S 1) _ o_ V).mono (by rintro e w' ⟨rfl,rfl⟩;exact⟨rfl,r_⟩);generalize ht0:cW (S 0) (decide (st0<st))=t0 at hE Yh Jw;generalize ht1:cW (S 1) (decide (st1<=st))=t1 at hE Yo Xz;have HE:=ah hE;have Yy:=g0;have Yu:=g1;have Zm:=g2;obtain⟨Zc,Zk⟩:=h2 Jv hv1;have Ju:Hid (G<W.heap.size):=b_ g0;obtain⟨Yn,Ym,Yq⟩:=h3 g0 g1 g2;have n1:¬nk=1:=o_
  have n2:¬nk=2:=o_;have n3:¬nk=3:=o_;have n4:¬nk=4:=o_;have n5:¬nk=5:=o_;have n6:¬nk=6:=o_;clear Jh Ji Xn Yd hE ht0 ht1 hk7 Yp Jp HA HX Yy Yu Zm;have k0:=cell_regrown g0;have k1:=cell_regrown g1;have k2:=cell_regrown g2;have kv:=cell_regrown Zo;have cS:∀d os,Calls prog 80 #[v0] (grow (redrawn W d) os) fun e w''=>e=.returned (.string (tx (S 0)))/\∃p:Regrown,w''=grow (redrawn W p.d) p.os:=fun d os=>Calls.regrown_of (Xu.out _ (below_regrown W d os));have cR:∀d os,Calls prog 109 #[v0] (grow (redrawn W d) os) fun e w''=>e=.returned (.agg #[.int .i64 ak,.int .i64 av,.string an])/\∃p:Regrown,w''=grow (redrawn W p.d) p.os:=fun d os=>Calls.regrown_of (Jo.out _ (below_regrown W d os));have cT:∀d os,Calls prog 115 #[.agg #[.int .i64 ak,.int .i64 av,.string an]] (grow (redrawn W d) os) fun e w''=>e=.returned (.int .i64 st0)/\∃p:Regrown,w''=grow (redrawn W p.d) p.os:=fun d os=>Calls.regrown_of (Jj.out _);have cN:∀d os,Calls prog 115 #[.agg #[.int .i64 nk,.int .i64 nv,.string (tx nl)]] (grow (redrawn W d) os) fun e w''=>e=.returned (.int .i64 st)/\∃p:Regrown,w''=grow (redrawn W p.d) p.os:=fun d os=>Calls.regrown_of (Jt.out _);have cH:∀d os,Calls prog 114 #[.string (tx (S 0)),.bool (decide (st0<st))] (grow (redrawn W d) os) fun e w''=>e=.returned (.string (tx t0))/\∃p:Regrown,w''=grow (redrawn W p.d) p.os:=fun d os=>Calls.regrown_of (Yh.out _);go_wp2_with fail;refine wp_region_quiet_below k_ k_ ?_;repeat (quiet_step (first|(with_reducible exact cS _ _)|(with_reducible exact cR _ _)|(with_reducible exact cT _ _)|(with_reducible exact cN _ _)|(with_reducible exact cH _ _)))
  refine wpQuiet_nil ?_;intro V Yv;obtain⟨⟨dq,Xv⟩,Je⟩:=Yv;have hV:Bl W V:=by rw[Je];exact below_regrown W dq Xv
  clear Je k0 k1 k2 kv cS cR cT cN cH;replace g0:=(hV.cell (p:=⟨G,0,none⟩) Ju).trans Yn
  replace g1:=(hV.cell (p:=⟨G,1,none⟩) Ju).trans Ym
  replace g2:=(hV.cell (p:=⟨G,2,none⟩) Ju).trans Yq
  replace hv1:=(hV.cell (p:=⟨B,1,none⟩) Zc).trans Zk
  have k0:=cell_regrown g0;have k1:=cell_regrown g1;have k2:=cell_regrown g2;have kv:=cell_regrown hv1;have cS:∀d os,Calls prog 80 #[v1] (grow (redrawn V d) os) fun e w''=>e=.returned (.string (tx (S 1)))/\∃p:Regrown,w''=grow (redrawn V p.d) p.os:=fun d os=>Calls.regrown_of (Xp.out _ (hV.trans ((below_regrown V d os).mono hV.size)));have cR:∀d os,Calls prog 109 #[v1] (grow (redrawn V d) os) fun e w''=>e=.returned (.agg #[.int .i64 bk,.int .i64 bv,.string bn])/\∃p:Regrown,w''=grow (redrawn V p.d) p.os:=fun d os=>Calls.regrown_of (Jn.out _ (hV.trans ((below_regrown V d os).mono hV.size)));have cT:∀d os,Calls prog 115 #[.agg #[.int .i64 bk,.int .i64 bv,.string bn]] (grow (redrawn V d) os) fun e w''=>e=.returned (.int .i64 st1)/\∃p:Regrown,w''=grow (redrawn V p.d) p.os:=fun d os=>Calls.regrown_of (Jk.out _);have cN:∀d os,Calls prog 115 #[.agg #[.int .i64 nk,.int .i64 nv,.string (tx nl)]] (grow (redrawn V d) os) fun e w''=>e=.returned (.int .i64 st)/\∃p:Regrown,w''=grow (redrawn V p.d) p.os:=fun d os=>Calls.regrown_of (Jt.out _);have cH:∀d os,Calls prog 114 #[.string (tx (S 1)),.bool (decide (st1<=st))] (grow (redrawn V d) os) fun e w''=>e=.returned (.string (tx t1))/\∃p:Regrown,w''=grow (redrawn V p.d) p.os:=fun d os=>Calls.regrown_of (Yo.out _);go_wp2_with fail;refine wp_region_quiet_below k_ k_ ?_;repeat (quiet_step (first|(with_reducible exact cS _ _)|(with_reducible exact cR _ _)|(with_reducible exact cT _ _)|(with_reducible exact cN _ _)|(with_reducible exact cH _ _)))
  refine wpQuiet_nil ?_;intro V2 Xq;obtain⟨⟨Zi,Ye⟩,Je⟩:=Xq;have Xa:Bl W V2:=by rw[Je];exact hV.trans ((below_regrown V Zi Ye).mono hV.size)
  clear Je k0 k1 k2 kv cS cR cT cN cH;replace g0:=(Xa.cell (p:=⟨G,0,none⟩) Ju).trans Yn
  replace g1:=(Xa.cell (p:=⟨G,1,none⟩) Ju).trans Ym
  replace g2:=(Xa.cell (p:=⟨G,2,none⟩) Ju).trans Yq
  clear hv1 hV;have Zw:(⟨#[32]⟩:ByteArray).size=1:=rfl;have Jc:tx t0++(⟨#[32]⟩:ByteArray)=tx (t0++[32]):=aq _ [32];have Jf:tx (t0++[32])++tx wd=tx (t0++[32]++wd):=aq _ _;have Xd:tx (t0++[32]++wd)++(⟨#[32]⟩:ByteArray)=tx (t0++[32]++wd++[32]):=aq _ [32];have Ya:tx (t0++[32]++wd++[32])++tx t1=tx (t0++[32]++wd++[32]++t1):=aq _ _;have s0:((tx t0).size:Int)<=60000000:=by rw[tx_size];omega
  have s1:((tx t1).size:Int)<=60000000:=by rw[tx_size];omega
  have s2:((tx wd).size:Int)<=2:=by rw[tx_size];omega
  have s3:((tx (t0++[32])).size:Int)<=60000001:=by rw[tx_size];simp;omega
  have s4:((tx (t0++[32]++wd)).size:Int)<=60000003:=by rw[tx_size];simp;omega
  have s5:((tx (t0++[32]++wd++[32])).size:Int)<=60000004:=by rw[tx_size];simp;omega
  generalize hx:tx (t0++[32]++wd++[32]++t1)=Y5 at Ya;have HY:=ah hx;clear hx;generalize tx (t0++[32]++wd++[32])=Y4 at Xd Ya s5;generalize tx (t0++[32]++wd)=Y3 at Jf Xd s4;generalize tx (t0++[32])=Y2 at Jc Jf s3;generalize tx t0=Y0 at Jc s0⊢;generalize tx t1=Y1 at Ya s1⊢;generalize tx wd=Yw at Jf s2 Xl;go_wp2_with fail;refine(Xl.out V2).mono ?_;rintro x w5 ⟨rfl,Ze⟩;go_wp2;go_ret;exact⟨cC (by rw[HE.out,HY.out]),Jg.out.trans ((Xa.trans (Ze.mono Xa.size)).mono Jg.out.size)⟩
theorem pQ(w0:World){e:List Nd}{s:List UInt8}(hp:Pr e s)(Ja:e.length<=1048576):iB w0 e s:=by
 induction hp using Pr_i with
 | mk e A b S hc hk ih=>
  exact uN w0 e A b S hc Ja (fun i hi=>by have:=(hk i hi).len;have:=hc.kid_lt i hi;omega) (by have:=(Pr.mk e A b S hc hk).len;omega) fun i hi=>ih i hi (by have:=hc.kid_lt i hi;omega)
def iC(w0:World)(v:Value)(t:List UInt8):Prop:=
 ∀(w:World),Below w0.heap.size w0 w->Calls prog 44 #[v] w fun x w'=>x=.returned (.string (tx t))/\Below w.heap.size w w'
theorem pR(a:Option Addr)(n cap lo hi:Nat)(h1:lo<=hi)(h2:hi<=n)(h3:n<=cap)(l' h':Int)(Ja:l'=lo)(Jb:h'=hi):∀w:World,(Instr.slice 41 (.slice a n cap) (some (.int .i64 l')) (some (.int .i64 h')) none).run prog w=.ok (.slice (if cap=lo then a else a.map (·.add (lo*6))) (hi-lo) (cap-lo)) w:=by
 intro w;subst Ja Jb;have hz:prog.elem 41=46:=k_;have hs:(sizeOf 46).run prog w=.ok 6 w:=k_;rw[run_slice_lh w 41 a n cap (by rw[hz];exact underlying41) .i64 .i64 _ _ o_ o_ o_,hz,hs];simp only[Result.andThen,sliced,Int.toNat_natCast]
theorem Eh(ss:List St)(k tn:Nat):(ss.take (k+1+tn)).drop (k+1)=(ss.drop (k+1)).take tn:=by
 rw[List.drop_take];congr 1;omega
theorem Ei(ss:List St)(k tn ln:Nat):(ss.take (k+1+tn+ln)).drop (k+1+tn)=((ss.drop (k+1)).take (tn+ln)).drop tn:=by
 rw[List.drop_take,List.drop_take,List.drop_drop];congr 1;omega
theorem rr(w0:World)(n:Nat):∀(v:Value) (ss:List St),ss.length<=n->ss.length<=1048576->uX ss->(aW ss).length<=900000000->bJ w0 v ss->iC w0 v (aW ss):=by
 induction n with
 | zero=>
  intro v ss hn hl hk Xc hc w hB;have:ss=[]:=List.eq_nil_of_length_eq_zero o_;subst this;obtain⟨a,Xs,rfl,Zk,Zj,hc⟩:=hc;simp only[l_n]at*;rw[linesT_nil];clear hc hB hk;go_enter func44,ntmps44;go_wp2_with fail;refine wp_loop_rounds 1 ?_;rw[rounds_succ];go_wp2;go_ret;exact⟨cC rfl,r_⟩
 | succ n ih=>
 intro v ss hn hl hk Xc hc w hB;have IH:=ah ih;have HB:=ah hB;have HL:=ah Xc;have HK:=ah hk;have HN:=ah hc;obtain⟨a,Xs,rfl,Zk,Zj,hc⟩:=hc;clear hc ih hB Xc hk;go_enter func44,ntmps44;go_wp2;go_loopw[3,4] (fun ot ix wr=>∃(k:Nat) (dn:List UInt8),k<=ss.length/\ix=.int .i64 k/\ot=.string (tx dn)/\aW ss=dn++aW (ss.drop k)/\uX (ss.drop k)/\Bl w wr) (fun _ ix _=>ss.length-(RowKit.intOf ix).toNat)
 case atStart=>exact⟨0,[],y_,rfl,rfl,rfl,HK,r_⟩
 case round=>
  obtain⟨k,dn,hk,rfl,rfl,Xo,Xu,Xe⟩:=hrel;have Xz:=ah Xo;clear Xo;by_cases hkA:k<ss.length
  case neg=>
   obtain rfl:k=ss.length:=by omega
   clear Xu;go_wp2;go_ret;refine⟨cC ?_,Xe⟩;rw[Xz.out,List.drop_length,linesT_nil,List.append_nil]
  case pos=>
   have Je:Hid (Bl w0 wr):=HB.out.trans (Xe.mono HB.out.size);have Yb:ss.drop k=ss[k]::ss.drop (k+1):=List.drop_eq_getElem_cons hkA;rw[Yb]at Xu;obtain⟨gS,gm,gt,ge,Ym,ga,gb,gc⟩:=Xu.parts;obtain⟨a0,Zd,Yq,_,_,Yk⟩:=HN.out;simp only[Value.slice.injEq,true_and]at Yq;obtain⟨rfl,rfl⟩:=Yq;obtain⟨b,J_,rfl,hs⟩:=Yk o_;obtain⟨ve,vf,⟨c0,c1,c2,c3,c4,c5⟩,Yi,Yh⟩:=hs k hkA;have Yd:=b_ c0;have Xd:=ah (Xz.out.trans (by rw[Yb,fT]));have g0:=fun (W:World) (h:Bl wr W)=>((Xe.trans (h.mono Xe.size)).cell (p:=⟨b,J_+k*6,none⟩) (l_ Yd HB.out.size));clear g0 hs Yk Xu;have up:∀(W:World) (j:Nat),Bl w0 W->W.cell? ⟨b,J_+k*6+j,none⟩=w0.cell? ⟨b,J_+k*6+j,none⟩:=fun W j h=>h.cell (p:=⟨b,J_+k*6+j,none⟩) Yd;have d0:=(up wr 0 Je).trans c0;have d1:=(up wr 1 Je).trans c1;have d2:=(up wr 2 Je).trans c2;have d3:=(up wr 3 Je).trans c3;have d4:=(up wr 4 Je).trans c4;have d5:=(up wr 5 Je).trans c5;rw[Nat.add_zero]at d0;clear up c0 c1 c2 c3 c4 c5 Yd;have Ys:iB w0 ss[k].e (gh ss[k].e):=pQ w0 (jd gS.one) gm.1;have Yt:ss[k].kind=3->iB w0 ss[k].f (gh ss[k].f):=fun h3=>pQ w0 (jd (gS.two h3)) gm.2;have Xx:=ah fun W (hW:Bl w0 W)=>Ys ve W Yi hW;have Xw:Hid (ss[k].kind=3->∀W,Bl w0 W->Calls prog 80 #[vf] W fun x w'=>x=.returned (.string (tx (gh ss[k].f)))/\Bl W w'):=fun h3 W hW=>Yt h3 vf W Yh hW;obtain⟨Ye,Ya,-,-,-⟩:=gS;obtain⟨⟨a2,k2,Xt,-⟩,a3,k3,Xv,-⟩:=And.intro Yi Yh;clear Ys Yt gm Yi Yh Yb;obtain⟨tn,Xr⟩:=Int.eq_ofNat_of_zero_le gt;obtain⟨ln,Xf⟩:=Int.eq_ofNat_of_zero_le ge;have Xa:ss[k].thn.toNat=tn:=by rw[Xr];rfl
   have Xb:ss[k].els.toNat=ln:=by rw[Xf];rfl
   rw[Xa,Xb]at Ym;rw[Xa]at ga gb gc Xd;rw[Xb]at gb gc Xd;rw[Xr]at d4;rw[Xf]at d5;simp only[List.length_drop]at Ym;rw[List.drop_drop]at gc Xd;have Jq:Hid (dn.length+(bR ss[k] (aW ((ss.drop (k+1)).take tn)) (aW (((ss.drop (k+1)).take (tn+ln)).drop tn))).length<=900000000):=by
    show _<=_;have:=HL.out;rw[Xd.out]at this;simp only[l_a]at this;omega
   have Jf:Hid (uX (ss.drop (k+1+tn+ln))):=by rw[show k+1+tn+ln=k+1+(tn+ln) by omega];exact gc
   have Yp:=ah ga;have Yx:=ah gb;obtain⟨a5,k5,Zl,Yv⟩:∃a5 k5,(∀w:World,(Instr.slice 41 (.slice (some ⟨b,J_,none⟩) ss.length Xs) (some (.int .i64 ((k:Int)+1))) (some (.int .i64 ((k:Int)+1+(tn:Int)))) none).run prog w=.ok (.slice a5 tn k5) w)/\bJ w0 (.slice a5 tn k5) ((ss.drop (k+1)).take tn):=by
    have h:=pR (some ⟨b,J_,none⟩) ss.length Xs (k+1) (k+1+tn) o_ o_ o_ ((k:Int)+1) ((k:Int)+1+(tn:Int)) o_ o_;have h':=HN.out.cut (k+1) (k+1+tn) o_ o_;rw[Eh]at h';rw[show k+1+tn-(k+1)=tn by omega]at h h';exact⟨_,_,h,h'⟩
   obtain⟨a6,k6,Zb,Yo⟩:∃a6 k6,(∀w:World,(Instr.slice 41 (.slice (some ⟨b,J_,none⟩) ss.length Xs) (some (.int .i64 ((k:Int)+1+(tn:Int)))) (some (.int .i64 ((k:Int)+1+(tn:Int)+(ln:Int)))) none).run prog w=.ok (.slice a6 ln k6) w)/\bJ w0 (.slice a6 ln k6) (((ss.drop (k+1)).take (tn+ln)).drop tn):=by
    have h:=pR (some ⟨b,J_,none⟩) ss.length Xs (k+1+tn) (k+1+tn+ln) o_ o_ o_ ((k:Int)+1+(tn:Int)) ((k:Int)+1+(tn:Int)+(ln:Int)) o_ o_;have h':=HN.out.cut (k+1+tn) (k+1+tn+ln) o_ o_;rw[Ei]at h';rw[show k+1+tn+ln-(k+1+tn)=ln by omega]at h h';exact⟨_,_,h,h'⟩
   have Xj:(aW ((ss.drop (k+1)).take tn)).length<=900000000->iC w0 (.slice a5 tn k5) (aW ((ss.drop (k+1)).take tn)):=fun h=>IH.out _ _ (by simp;omega) (by simp;omega) Yp.out h Yv;have Xk:(aW (((ss.drop (k+1)).take (tn+ln)).drop tn)).length<=900000000->iC w0 (.slice a6 ln k6) (aW (((ss.drop (k+1)).take (tn+ln)).drop tn)):=fun h=>IH.out _ _ (by simp;omega) (by simp;omega) Yx.out h Yo;have Jc:Hid (aW ss=dn++bR ss[k] (aW ((ss.drop (k+1)).take tn)) (aW (((ss.drop (k+1)).take (tn+ln)).drop tn))++aW (ss.drop (k+1+tn+ln))):=by
    show _=_;rw[Xd.out,List.append_assoc,show k+1+(tn+ln)=k+1+tn+ln by omega]
   have Ju:=ah Xj;have Xn:=ah Xk;clear Xj Xk Yv Yo Yp Yx Xd Xz ga gb gc Xa Xb;generalize aW ((ss.drop (k+1)).take tn)=ta at Ju Jc Jq;generalize aW (((ss.drop (k+1)).take (tn+ln)).drop tn)=tb at Xn Jc Jq;generalize hT:bR ss[k] ta tb=T at Jc Jq;have Jw:Hid (dn.length+T.length<=900000000):=Jq.out;have Jv:=ah hT;clear Jq hT;generalize ss[k]=s at d0 d1 d2 d3 d4 d5 Xx Xw Jv Xt Xv Xr Xf Ye Ya gt ge;obtain⟨sk,nm,se,sf,th,el⟩:=s;simp only at d0 d1 d2 d3 d4 d5 Xx Xw Jv Xt Xv Xr Xf Ye Ya gt ge;subst Xr Xf;obtain⟨nl,rfl⟩:∃nl,nm=tx nl:=⟨_,(dw nm).symm⟩;generalize hxe:gh se=xe at Xx;generalize hxf:gh sf=xf at Xw;have Jt:Hid (gh se=xe):=hxe;have Zg:Hid (gh sf=xf):=hxf;have Jx:Hid (bR ⟨sk,tx nl,se,sf,(tn:Int),(ln:Int)⟩ ta tb=T):=Jv.out;clear Jv hxe hxf;generalize se.length=n2 at Xt;generalize sf.length=n3 at Xv;subst Xt Xv;have Zp:(k:Int)+1<=1048576:=o_;have Zc:(k:Int)+1+(tn:Int)+(ln:Int)<=1048576:=o_;go_wp2_with fail;refine(Xx.out _ (Je.out.trans ((aD _ _).mono Je.out.size))).mono ?_;rintro x w3 ⟨rfl,Yu⟩;have Jr:Below (wr.heap.size+1) (wr.alloc (.cells #[.int .i64 sk,.string (tx nl),.slice a2 n2 k2,.slice a3 n3 k3,.int .i64 (tn:Int),.int .i64 (ln:Int)] 46)) w3:=by
    have:=Yu
    simp only[World.size_alloc]at this;exact this
   obtain⟨x0,x1,x2,x3,x4,x5⟩:=ld Jr;have Jo:Bl w w3:=Xe.trans ((aL Jr).mono Xe.size);have Jl:Hid (Bl w0 w3):=Je.out.trans ((aL Jr).mono Je.out.size);have Js:wr.heap.size<w3.heap.size:=by have:=Jr.size;simp at this;omega
   clear Yu Jr d0 d1 d2 d3 d4 d5;generalize wr.heap.size=H at x0 x1 x2 x3 x4 x5 Js⊢;have Zf:sk=1∨sk=2∨sk=3∨sk=4∨sk=5∨sk=6∨sk=7∨sk=8:=o_;clear Ye Ya;rcases Zf with rfl|rfl|rfl|rfl|rfl|rfl|rfl|rfl
   ·
    have HQ:Hid (T=[105,110,116,32]++nl++[32,61,32]++xe++[59,10]):=Jx.out.symm.trans (by rw[<-Jt.out];simp[bR,tx]);have Ja:Hid (dn.length+([105,110,116,32]++nl++[32,61,32]++xe++[59,10]).length<=900000000):=by have:=Jw.out;rw[HQ.out]at this;exact this
    have Ji:tx (dn)++(⟨#[105,110,116,32]⟩:ByteArray)=tx (dn++[105,110,116,32]):=aq _ [105,110,116,32];have Xg:(⟨#[105,110,116,32]⟩:ByteArray).size=4:=rfl;have Jh:((tx (dn++[105,110,116,32])).size:Int)<=900000000:=by rw[tx_size];have:=Ja.out;simp only[l_a,l_c,l_n]at this⊢;omega
    have Jb:tx (dn++[105,110,116,32])++tx nl=tx (dn++[105,110,116,32]++nl):=aq _ _;have Xq:((tx nl).size:Int)<=900000000:=by rw[tx_size];have:=Ja.out;simp only[l_a,l_c,l_n]at this;omega
    have Jg:((tx (dn++[105,110,116,32]++nl)).size:Int)<=900000000:=by rw[tx_size];have:=Ja.out;simp only[l_a,l_c,l_n]at this⊢;omega
    have Jd:tx (dn++[105,110,116,32]++nl)++(⟨#[32,61,32]⟩:ByteArray)=tx (dn++[105,110,116,32]++nl++[32,61,32]):=aq _ [32,61,32];have Xh:(⟨#[32,61,32]⟩:ByteArray).size=3:=rfl;have Jk:((tx (dn++[105,110,116,32]++nl++[32,61,32])).size:Int)<=900000000:=by rw[tx_size];have:=Ja.out;simp only[l_a,l_c,l_n]at this⊢;omega
    have Jj:tx (dn++[105,110,116,32]++nl++[32,61,32])++tx xe=tx (dn++[105,110,116,32]++nl++[32,61,32]++xe):=aq _ _;have Yg:((tx xe).size:Int)<=900000000:=by rw[tx_size];have:=Ja.out;simp only[l_a,l_c,l_n]at this;omega
    have Jp:((tx (dn++[105,110,116,32]++nl++[32,61,32]++xe)).size:Int)<=900000000:=by rw[tx_size];have:=Ja.out;simp only[l_a,l_c,l_n]at this⊢;omega
    have Jn:tx (dn++[105,110,116,32]++nl++[32,61,32]++xe)++(⟨#[59,10]⟩:ByteArray)=tx (dn++[105,110,116,32]++nl++[32,61,32]++xe++[59,10]):=aq _ [59,10];have Yf:(⟨#[59,10]⟩:ByteArray).size=2:=rfl;have Jy:((tx (dn++[105,110,116,32]++nl++[32,61,32]++xe++[59,10])).size:Int)<=900000000:=by rw[tx_size];have:=Ja.out;simp only[l_a,l_c,l_n]at this⊢;omega
    generalize ch:tx (dn++[105,110,116,32]++nl++[32,61,32]++xe++[59,10])=cX5 at Jn Jy;have HX:=ah ch;clear ch;generalize tx (dn++[105,110,116,32]++nl++[32,61,32]++xe)=cX4 at Jj Jp Jn;generalize tx (dn++[105,110,116,32]++nl++[32,61,32])=cX3 at Jd Jk Jj;generalize tx (dn++[105,110,116,32]++nl)=cX2 at Jb Jg Jd;generalize tx (dn++[105,110,116,32])=cX1 at Ji Jh Jb;have Jz:((tx dn).size:Int)<=900000000:=by rw[tx_size];have:=Ja.out;omega
    go_wp2;go_roundw
    case rel=>exact⟨k+1+tn+ln,dn++T,o_,by go_num,by rw[<-HX.out,HQ.out];simp only[List.append_assoc],Jc,Jf,Jo⟩
    case measure=>simp[RowKit.intOf];omega
   ·
    have HQ:Hid (T=nl++[32,61,32]++xe++[59,10]):=Jx.out.symm.trans (by rw[<-Jt.out];simp[bR,tx]);have Ja:Hid (dn.length+(nl++[32,61,32]++xe++[59,10]).length<=900000000):=by have:=Jw.out;rw[HQ.out]at this;exact this
    have Ji:tx (dn)++tx nl=tx (dn++nl):=aq _ _;have Yn:((tx nl).size:Int)<=900000000:=by rw[tx_size];have:=Ja.out;simp only[l_a,l_c,l_n]at this;omega
    have Jh:((tx (dn++nl)).size:Int)<=900000000:=by rw[tx_size];have:=Ja.out;simp only[l_a,l_c,l_n]at this⊢;omega
    have Jb:tx (dn++nl)++(⟨#[32,61,32]⟩:ByteArray)=tx (dn++nl++[32,61,32]):=aq _ [32,61,32];have Yw:(⟨#[32,61,32]⟩:ByteArray).size=3:=rfl;have Jg:((tx (dn++nl++[32,61,32])).size:Int)<=900000000:=by rw[tx_size];have:=Ja.out;simp only[l_a,l_c,l_n]at this⊢;omega
    have Jd:tx (dn++nl++[32,61,32])++tx xe=tx (dn++nl++[32,61,32]++xe):=aq _ _;have Y_:((tx xe).size:Int)<=900000000:=by rw[tx_size];have:=Ja.out;simp only[l_a,l_c,l_n]at this;omega
    have Jk:((tx (dn++nl++[32,61,32]++xe)).size:Int)<=900000000:=by rw[tx_size];have:=Ja.out;simp only[l_a,l_c,l_n]at this⊢;omega
    have Jj:tx (dn++nl++[32,61,32]++xe)++(⟨#[59,10]⟩:ByteArray)=tx (dn++nl++[32,61,32]++xe++[59,10]):=aq _ [59,10];have Zi:(⟨#[59,10]⟩:ByteArray).size=2:=rfl;have Jp:((tx (dn++nl++[32,61,32]++xe++[59,10])).size:Int)<=900000000:=by rw[tx_size];have:=Ja.out;simp only[l_a,l_c,l_n]at this⊢;omega
    generalize ch:tx (dn++nl++[32,61,32]++xe++[59,10])=cX4 at Jj Jp;have HX:=ah ch;clear ch;generalize tx (dn++nl++[32,61,32]++xe)=cX3 at Jd Jk Jj;generalize tx (dn++nl++[32,61,32])=cX2 at Jb Jg Jd;generalize tx (dn++nl)=cX1 at Ji Jh Jb;have Jz:((tx dn).size:Int)<=900000000:=by rw[tx_size];have:=Ja.out;omega
    go_wp2;go_roundw
    case rel=>exact⟨k+1+tn+ln,dn++T,o_,by go_num,by rw[<-HX.out,HQ.out];simp only[List.append_assoc],Jc,Jf,Jo⟩
    case measure=>simp[RowKit.intOf];omega
   ·
    go_upto_region 12 with fail;have HQ:Hid (T=nl++[91]++xe++[93,32,61,32]++xf++[59,10]):=Jx.out.symm.trans (by rw[<-Jt.out,<-Zg.out];simp[bR,tx]);have Ja:Hid (dn.length+(nl++[91]++xe++[93,32,61,32]++xf++[59,10]).length<=900000000):=by have:=Jw.out;rw[HQ.out]at this;exact this
    have Ji:tx (dn)++tx nl=tx (dn++nl):=aq _ _;have Yn:((tx nl).size:Int)<=900000000:=by rw[tx_size];have:=Ja.out;simp only[l_a,l_c,l_n]at this;omega
    have Jh:((tx (dn++nl)).size:Int)<=900000000:=by rw[tx_size];have:=Ja.out;simp only[l_a,l_c,l_n]at this⊢;omega
    have Jb:tx (dn++nl)++(⟨#[91]⟩:ByteArray)=tx (dn++nl++[91]):=aq _ [91];have Yw:(⟨#[91]⟩:ByteArray).size=1:=rfl;have Jg:((tx (dn++nl++[91])).size:Int)<=900000000:=by rw[tx_size];have:=Ja.out;simp only[l_a,l_c,l_n]at this⊢;omega
    have Jd:tx (dn++nl++[91])++tx xe=tx (dn++nl++[91]++xe):=aq _ _;have Y_:((tx xe).size:Int)<=900000000:=by rw[tx_size];have:=Ja.out;simp only[l_a,l_c,l_n]at this;omega
    have Jk:((tx (dn++nl++[91]++xe)).size:Int)<=900000000:=by rw[tx_size];have:=Ja.out;simp only[l_a,l_c,l_n]at this⊢;omega
    have Jj:tx (dn++nl++[91]++xe)++(⟨#[93,32,61,32]⟩:ByteArray)=tx (dn++nl++[91]++xe++[93,32,61,32]):=aq _ [93,32,61,32];have Zi:(⟨#[93,32,61,32]⟩:ByteArray).size=4:=rfl;have Jp:((tx (dn++nl++[91]++xe++[93,32,61,32])).size:Int)<=900000000:=by rw[tx_size];have:=Ja.out;simp only[l_a,l_c,l_n]at this⊢;omega
    have Jn:tx (dn++nl++[91]++xe++[93,32,61,32])++tx xf=tx (dn++nl++[91]++xe++[93,32,61,32]++xf):=aq _ _;have Zq:((tx xf).size:Int)<=900000000:=by rw[tx_size];have:=Ja.out;simp only[l_a,l_c,l_n]at this;omega
    have Jy:((tx (dn++nl++[91]++xe++[93,32,61,32]++xf)).size:Int)<=900000000:=by rw[tx_size];have:=Ja.out;simp only[l_a,l_c,l_n]at this⊢;omega
    have Xp:tx (dn++nl++[91]++xe++[93,32,61,32]++xf)++(⟨#[59,10]⟩:ByteArray)=tx (dn++nl++[91]++xe++[93,32,61,32]++xf++[59,10]):=aq _ [59,10];have Zm:(⟨#[59,10]⟩:ByteArray).size=2:=rfl;have Xy:((tx (dn++nl++[91]++xe++[93,32,61,32]++xf++[59,10])).size:Int)<=900000000:=by rw[tx_size];have:=Ja.out;simp only[l_a,l_c,l_n]at this⊢;omega
    generalize ch:tx (dn++nl++[91]++xe++[93,32,61,32]++xf++[59,10])=cX6 at Xp Xy;have HX:=ah ch;clear ch;generalize tx (dn++nl++[91]++xe++[93,32,61,32]++xf)=cX5 at Jn Jy Xp;generalize tx (dn++nl++[91]++xe++[93,32,61,32])=cX4 at Jj Jp Jn;generalize tx (dn++nl++[91]++xe)=cX3 at Jd Jk Jj;generalize tx (dn++nl++[91])=cX2 at Jb Jg Jd;generalize tx (dn++nl)=cX1 at Ji Jh Jb;have Jz:((tx dn).size:Int)<=900000000:=by rw[tx_size];have:=Ja.out;omega
    have m0:¬9223372036854775807<(tx dn).size+(tx nl).size:=o_;have m1:¬9223372036854775807<cX1.size+1:=o_;have m2:¬9223372036854775807<cX2.size+(tx xe).size:=o_;have m3:¬9223372036854775807<cX3.size+4:=o_;have m4:¬9223372036854775807<cX4.size+(tx xf).size:=o_;have m5:¬9223372036854775807<cX5.size+2:=o_;have y1:=cell_regrown x1;have y3:=cell_regrown x3;have cS:∀d os,Calls prog 80 #[.slice a3 n3 k3] (grow (redrawn w3 d) os) fun e w''=>e=.returned (.string (tx xf))/\∃p:Regrown,w''=grow (redrawn w3 p.d) p.os:=fun d os=>Calls.regrown_of (Xw.out trivial _ (Jl.out.trans ((below_regrown w3 d os).mono Jl.out.size)));refine wp_region_quiet_below k_ k_ ?_;repeat (go_big_quiet_step (first|(with_reducible exact cS _ _)))
    refine wpQuiet_nil ?_;intro V Yz;obtain⟨⟨dq,Ze⟩,Xm⟩:=Yz;have hV:Bl w3 V:=by rw[Xm];exact below_regrown w3 dq Ze
    clear Xm y1 y3 cS;replace x4:=(hV.cell (p:=⟨H,4,none⟩) Js).trans x4
    replace x5:=(hV.cell (p:=⟨H,5,none⟩) Js).trans x5
    go_wp2;go_roundw
    case rel=>exact⟨k+1+tn+ln,dn++T,o_,by go_num,by rw[<-HX.out,HQ.out];simp only[List.append_assoc],Jc,Jf,Jo.trans (hV.mono Jo.size)⟩
    case measure=>simp[RowKit.intOf];omega
   ·
    by_cases hel:ln=0
    ·subst hel;have HQ:Hid (T=[105,102,32,40]++xe++[41,32,123,10]++ta++[125,10]):=Jx.out.symm.trans (by rw[<-Jt.out];simp[bR,tx]);have Ja:Hid (dn.length+([105,102,32,40]++xe++[41,32,123,10]++ta++[125,10]).length<=900000000):=by have:=Jw.out;rw[HQ.out]at this;exact this
     have Ji:tx (dn)++(⟨#[105,102,32,40]⟩:ByteArray)=tx (dn++[105,102,32,40]):=aq _ [105,102,32,40];have Xg:(⟨#[105,102,32,40]⟩:ByteArray).size=4:=rfl;have Jh:((tx (dn++[105,102,32,40])).size:Int)<=900000000:=by rw[tx_size];have:=Ja.out;simp only[l_a,l_c,l_n]at this⊢;omega
     have Jb:tx (dn++[105,102,32,40])++tx xe=tx (dn++[105,102,32,40]++xe):=aq _ _;have Xq:((tx xe).size:Int)<=900000000:=by rw[tx_size];have:=Ja.out;simp only[l_a,l_c,l_n]at this;omega
     have Jg:((tx (dn++[105,102,32,40]++xe)).size:Int)<=900000000:=by rw[tx_size];have:=Ja.out;simp only[l_a,l_c,l_n]at this⊢;omega
     have Jd:tx (dn++[105,102,32,40]++xe)++(⟨#[41,32,123,10]⟩:ByteArray)=tx (dn++[105,102,32,40]++xe++[41,32,123,10]):=aq _ [41,32,123,10];have Xh:(⟨#[41,32,123,10]⟩:ByteArray).size=4:=rfl;have Jk:((tx (dn++[105,102,32,40]++xe++[41,32,123,10])).size:Int)<=900000000:=by rw[tx_size];have:=Ja.out;simp only[l_a,l_c,l_n]at this⊢;omega
     have Jj:tx (dn++[105,102,32,40]++xe++[41,32,123,10])++tx ta=tx (dn++[105,102,32,40]++xe++[41,32,123,10]++ta):=aq _ _;have Yg:((tx ta).size:Int)<=900000000:=by rw[tx_size];have:=Ja.out;simp only[l_a,l_c,l_n]at this;omega
     have Jp:((tx (dn++[105,102,32,40]++xe++[41,32,123,10]++ta)).size:Int)<=900000000:=by rw[tx_size];have:=Ja.out;simp only[l_a,l_c,l_n]at this⊢;omega
     have Jn:tx (dn++[105,102,32,40]++xe++[41,32,123,10]++ta)++(⟨#[125,10]⟩:ByteArray)=tx (dn++[105,102,32,40]++xe++[41,32,123,10]++ta++[125,10]):=aq _ [125,10];have Yf:(⟨#[125,10]⟩:ByteArray).size=2:=rfl;have Jy:((tx (dn++[105,102,32,40]++xe++[41,32,123,10]++ta++[125,10])).size:Int)<=900000000:=by rw[tx_size];have:=Ja.out;simp only[l_a,l_c,l_n]at this⊢;omega
     generalize ch:tx (dn++[105,102,32,40]++xe++[41,32,123,10]++ta++[125,10])=cX5 at Jn Jy;have HX:=ah ch;clear ch;generalize tx (dn++[105,102,32,40]++xe++[41,32,123,10]++ta)=cX4 at Jj Jp Jn;generalize tx (dn++[105,102,32,40]++xe++[41,32,123,10])=cX3 at Jd Jk Jj;generalize tx (dn++[105,102,32,40]++xe)=cX2 at Jb Jg Jd;generalize tx (dn++[105,102,32,40])=cX1 at Ji Jh Jb;have Jz:((tx dn).size:Int)<=900000000:=by rw[tx_size];have:=Ja.out;omega
     have Xl:Hid (iC w0 (.slice a5 tn k5) ta):=Ju.out (by have:=Ja.out;simp only[l_a]at this;omega);go_wp2_with fail;refine(Xl.out w3 Jl).mono ?_;rintro x w4 ⟨rfl,Jm⟩;replace x4:=(Jm.cell (p:=⟨H,4,none⟩) Js).trans x4
     replace x5:=(Jm.cell (p:=⟨H,5,none⟩) Js).trans x5
     go_wp2;go_roundw
     case rel=>exact⟨k+1+tn+0,dn++T,o_,by go_num,by rw[<-HX.out,HQ.out];simp only[List.append_assoc],Jc,Jf,Jo.trans (Jm.mono Jo.size)⟩
     case measure=>simp[RowKit.intOf];omega
    ·have HQ:Hid (T=[105,102,32,40]++xe++[41,32,123,10]++ta++[125,32,101,108,115,101,32,123,10]++tb++[125,10]):=Jx.out.symm.trans (by rw[<-Jt.out];simp[bR,tx,hel]);have Ja:Hid (dn.length+([105,102,32,40]++xe++[41,32,123,10]++ta++[125,32,101,108,115,101,32,123,10]++tb++[125,10]).length<=900000000):=by have:=Jw.out;rw[HQ.out]at this;exact this
     have Ji:tx (dn)++(⟨#[105,102,32,40]⟩:ByteArray)=tx (dn++[105,102,32,40]):=aq _ [105,102,32,40];have Xg:(⟨#[105,102,32,40]⟩:ByteArray).size=4:=rfl;have Jh:((tx (dn++[105,102,32,40])).size:Int)<=900000000:=by rw[tx_size];have:=Ja.out;simp only[l_a,l_c,l_n]at this⊢;omega
     have Jb:tx (dn++[105,102,32,40])++tx xe=tx (dn++[105,102,32,40]++xe):=aq _ _;have Xq:((tx xe).size:Int)<=900000000:=by rw[tx_size];have:=Ja.out;simp only[l_a,l_c,l_n]at this;omega
     have Jg:((tx (dn++[105,102,32,40]++xe)).size:Int)<=900000000:=by rw[tx_size];have:=Ja.out;simp only[l_a,l_c,l_n]at this⊢;omega
     have Jd:tx (dn++[105,102,32,40]++xe)++(⟨#[41,32,123,10]⟩:ByteArray)=tx (dn++[105,102,32,40]++xe++[41,32,123,10]):=aq _ [41,32,123,10];have Xh:(⟨#[41,32,123,10]⟩:ByteArray).size=4:=rfl;have Jk:((tx (dn++[105,102,32,40]++xe++[41,32,123,10])).size:Int)<=900000000:=by rw[tx_size];have:=Ja.out;simp only[l_a,l_c,l_n]at this⊢;omega
     have Jj:tx (dn++[105,102,32,40]++xe++[41,32,123,10])++tx ta=tx (dn++[105,102,32,40]++xe++[41,32,123,10]++ta):=aq _ _;have Yg:((tx ta).size:Int)<=900000000:=by rw[tx_size];have:=Ja.out;simp only[l_a,l_c,l_n]at this;omega
     have Jp:((tx (dn++[105,102,32,40]++xe++[41,32,123,10]++ta)).size:Int)<=900000000:=by rw[tx_size];have:=Ja.out;simp only[l_a,l_c,l_n]at this⊢;omega
     have Jn:tx (dn++[105,102,32,40]++xe++[41,32,123,10]++ta)++(⟨#[125,32,101,108,115,101,32,123,10]⟩:ByteArray)=tx (dn++[105,102,32,40]++xe++[41,32,123,10]++ta++[125,32,101,108,115,101,32,123,10]):=aq _ [125,32,101,108,115,101,32,123,10];have Yf:(⟨#[125,32,101,108,115,101,32,123,10]⟩:ByteArray).size=9:=rfl;have Jy:((tx (dn++[105,102,32,40]++xe++[41,32,123,10]++ta++[125,32,101,108,115,101,32,123,10])).size:Int)<=900000000:=by rw[tx_size];have:=Ja.out;simp only[l_a,l_c,l_n]at this⊢;omega
     have Xp:tx (dn++[105,102,32,40]++xe++[41,32,123,10]++ta++[125,32,101,108,115,101,32,123,10])++tx tb=tx (dn++[105,102,32,40]++xe++[41,32,123,10]++ta++[125,32,101,108,115,101,32,123,10]++tb):=aq _ _;have Zo:((tx tb).size:Int)<=900000000:=by rw[tx_size];have:=Ja.out;simp only[l_a,l_c,l_n]at this;omega
     have Xy:((tx (dn++[105,102,32,40]++xe++[41,32,123,10]++ta++[125,32,101,108,115,101,32,123,10]++tb)).size:Int)<=900000000:=by rw[tx_size];have:=Ja.out;simp only[l_a,l_c,l_n]at this⊢;omega
     have Yl:tx (dn++[105,102,32,40]++xe++[41,32,123,10]++ta++[125,32,101,108,115,101,32,123,10]++tb)++(⟨#[125,10]⟩:ByteArray)=tx (dn++[105,102,32,40]++xe++[41,32,123,10]++ta++[125,32,101,108,115,101,32,123,10]++tb++[125,10]):=aq _ [125,10];have Zn:(⟨#[125,10]⟩:ByteArray).size=2:=rfl;have Zh:((tx (dn++[105,102,32,40]++xe++[41,32,123,10]++ta++[125,32,101,108,115,101,32,123,10]++tb++[125,10])).size:Int)<=900000000:=by rw[tx_size];have:=Ja.out;simp only[l_a,l_c,l_n]at this⊢;omega
     generalize ch:tx (dn++[105,102,32,40]++xe++[41,32,123,10]++ta++[125,32,101,108,115,101,32,123,10]++tb++[125,10])=cX7 at Yl Zh;have HX:=ah ch;clear ch;generalize tx (dn++[105,102,32,40]++xe++[41,32,123,10]++ta++[125,32,101,108,115,101,32,123,10]++tb)=cX6 at Xp Xy Yl;generalize tx (dn++[105,102,32,40]++xe++[41,32,123,10]++ta++[125,32,101,108,115,101,32,123,10])=cX5 at Jn Jy Xp;generalize tx (dn++[105,102,32,40]++xe++[41,32,123,10]++ta)=cX4 at Jj Jp Jn;generalize tx (dn++[105,102,32,40]++xe++[41,32,123,10])=cX3 at Jd Jk Jj;generalize tx (dn++[105,102,32,40]++xe)=cX2 at Jb Jg Jd;generalize tx (dn++[105,102,32,40])=cX1 at Ji Jh Jb;have Jz:((tx dn).size:Int)<=900000000:=by rw[tx_size];have:=Ja.out;omega
     have Yy:(0:Int)<(ln:Int):=o_;obtain⟨li,X_⟩:∃li:Int,li=(ln:Int):=⟨_,rfl⟩;rw[<-X_]at x5 Zb Yy Zc;have Xi:=ah X_;clear X_;have Za:Hid (iC w0 (.slice a6 ln k6) tb):=Xn.out (by have:=Ja.out;simp only[l_a]at this;omega);have Xl:Hid (iC w0 (.slice a5 tn k5) ta):=Ju.out (by have:=Ja.out;simp only[l_a]at this;omega);go_wp2_with fail;refine(Xl.out w3 Jl).mono ?_;rintro x w4 ⟨rfl,Jm⟩;replace x4:=(Jm.cell (p:=⟨H,4,none⟩) Js).trans x4
     replace x5:=(Jm.cell (p:=⟨H,5,none⟩) Js).trans x5
     have Yr:H<w4.heap.size:=l_ Js Jm.size;go_wp2_with fail;refine(Za.out w4 (Jl.out.trans (Jm.mono Jl.out.size))).mono ?_;rintro x w5 ⟨rfl,Yc⟩;replace x4:=(Yc.cell (p:=⟨H,4,none⟩) Yr).trans x4
     replace x5:=(Yc.cell (p:=⟨H,5,none⟩) Yr).trans x5
     have Yj:=Jm.trans (Yc.mono Jm.size);go_wp2;go_roundw
     case rel=>exact⟨k+1+tn+ln,dn++T,o_,by rw[Xi.out];go_num,by rw[<-HX.out,HQ.out];simp only[List.append_assoc],Jc,Jf,Jo.trans (Yj.mono Jo.size)⟩
     case measure=>rw[Xi.out];simp[RowKit.intOf];omega
   ·
    have HQ:Hid (T=[119,104,105,108,101,32,40]++xe++[41,32,123,10]++ta++[125,10]):=Jx.out.symm.trans (by rw[<-Jt.out];simp[bR,tx]);have Ja:Hid (dn.length+([119,104,105,108,101,32,40]++xe++[41,32,123,10]++ta++[125,10]).length<=900000000):=by have:=Jw.out;rw[HQ.out]at this;exact this
    have Ji:tx (dn)++(⟨#[119,104,105,108,101,32,40]⟩:ByteArray)=tx (dn++[119,104,105,108,101,32,40]):=aq _ [119,104,105,108,101,32,40];have Xg:(⟨#[119,104,105,108,101,32,40]⟩:ByteArray).size=7:=rfl;have Jh:((tx (dn++[119,104,105,108,101,32,40])).size:Int)<=900000000:=by rw[tx_size];have:=Ja.out;simp only[l_a,l_c,l_n]at this⊢;omega
    have Jb:tx (dn++[119,104,105,108,101,32,40])++tx xe=tx (dn++[119,104,105,108,101,32,40]++xe):=aq _ _;have Xq:((tx xe).size:Int)<=900000000:=by rw[tx_size];have:=Ja.out;simp only[l_a,l_c,l_n]at this;omega
    have Jg:((tx (dn++[119,104,105,108,101,32,40]++xe)).size:Int)<=900000000:=by rw[tx_size];have:=Ja.out;simp only[l_a,l_c,l_n]at this⊢;omega
    have Jd:tx (dn++[119,104,105,108,101,32,40]++xe)++(⟨#[41,32,123,10]⟩:ByteArray)=tx (dn++[119,104,105,108,101,32,40]++xe++[41,32,123,10]):=aq _ [41,32,123,10];have Xh:(⟨#[41,32,123,10]⟩:ByteArray).size=4:=rfl;have Jk:((tx (dn++[119,104,105,108,101,32,40]++xe++[41,32,123,10])).size:Int)<=900000000:=by rw[tx_size];have:=Ja.out;simp only[l_a,l_c,l_n]at this⊢;omega
    have Jj:tx (dn++[119,104,105,108,101,32,40]++xe++[41,32,123,10])++tx ta=tx (dn++[119,104,105,108,101,32,40]++xe++[41,32,123,10]++ta):=aq _ _;have Yg:((tx ta).size:Int)<=900000000:=by rw[tx_size];have:=Ja.out;simp only[l_a,l_c,l_n]at this;omega
    have Jp:((tx (dn++[119,104,105,108,101,32,40]++xe++[41,32,123,10]++ta)).size:Int)<=900000000:=by rw[tx_size];have:=Ja.out;simp only[l_a,l_c,l_n]at this⊢;omega
    have Jn:tx (dn++[119,104,105,108,101,32,40]++xe++[41,32,123,10]++ta)++(⟨#[125,10]⟩:ByteArray)=tx (dn++[119,104,105,108,101,32,40]++xe++[41,32,123,10]++ta++[125,10]):=aq _ [125,10];have Yf:(⟨#[125,10]⟩:ByteArray).size=2:=rfl;have Jy:((tx (dn++[119,104,105,108,101,32,40]++xe++[41,32,123,10]++ta++[125,10])).size:Int)<=900000000:=by rw[tx_size];have:=Ja.out;simp only[l_a,l_c,l_n]at this⊢;omega
    generalize ch:tx (dn++[119,104,105,108,101,32,40]++xe++[41,32,123,10]++ta++[125,10])=cX5 at Jn Jy;have HX:=ah ch;clear ch;generalize tx (dn++[119,104,105,108,101,32,40]++xe++[41,32,123,10]++ta)=cX4 at Jj Jp Jn;generalize tx (dn++[119,104,105,108,101,32,40]++xe++[41,32,123,10])=cX3 at Jd Jk Jj;generalize tx (dn++[119,104,105,108,101,32,40]++xe)=cX2 at Jb Jg Jd;generalize tx (dn++[119,104,105,108,101,32,40])=cX1 at Ji Jh Jb;have Jz:((tx dn).size:Int)<=900000000:=by rw[tx_size];have:=Ja.out;omega
    have Xl:Hid (iC w0 (.slice a5 tn k5) ta):=Ju.out (by have:=Ja.out;simp only[l_a]at this;omega);go_wp2_with fail;refine(Xl.out w3 Jl).mono ?_;rintro x w4 ⟨rfl,Jm⟩;replace x4:=(Jm.cell (p:=⟨H,4,none⟩) Js).trans x4
    replace x5:=(Jm.cell (p:=⟨H,5,none⟩) Js).trans x5
    go_wp2;go_roundw
    case rel=>exact⟨k+1+tn+ln,dn++T,o_,by go_num,by rw[<-HX.out,HQ.out];simp only[List.append_assoc],Jc,Jf,Jo.trans (Jm.mono Jo.size)⟩
    case measure=>simp[RowKit.intOf];omega
   ·
    have HQ:Hid (T=[114,101,116,117,114,110,32]++xe++[59,10]):=Jx.out.symm.trans (by rw[<-Jt.out];simp[bR,tx]);have Ja:Hid (dn.length+([114,101,116,117,114,110,32]++xe++[59,10]).length<=900000000):=by have:=Jw.out;rw[HQ.out]at this;exact this
    have Ji:tx (dn)++(⟨#[114,101,116,117,114,110,32]⟩:ByteArray)=tx (dn++[114,101,116,117,114,110,32]):=aq _ [114,101,116,117,114,110,32];have Xg:(⟨#[114,101,116,117,114,110,32]⟩:ByteArray).size=7:=rfl;have Jh:((tx (dn++[114,101,116,117,114,110,32])).size:Int)<=900000000:=by rw[tx_size];have:=Ja.out;simp only[l_a,l_c,l_n]at this⊢;omega
    have Jb:tx (dn++[114,101,116,117,114,110,32])++tx xe=tx (dn++[114,101,116,117,114,110,32]++xe):=aq _ _;have Xq:((tx xe).size:Int)<=900000000:=by rw[tx_size];have:=Ja.out;simp only[l_a,l_c,l_n]at this;omega
    have Jg:((tx (dn++[114,101,116,117,114,110,32]++xe)).size:Int)<=900000000:=by rw[tx_size];have:=Ja.out;simp only[l_a,l_c,l_n]at this⊢;omega
    have Jd:tx (dn++[114,101,116,117,114,110,32]++xe)++(⟨#[59,10]⟩:ByteArray)=tx (dn++[114,101,116,117,114,110,32]++xe++[59,10]):=aq _ [59,10];have Xh:(⟨#[59,10]⟩:ByteArray).size=2:=rfl;have Jk:((tx (dn++[114,101,116,117,114,110,32]++xe++[59,10])).size:Int)<=900000000:=by rw[tx_size];have:=Ja.out;simp only[l_a,l_c,l_n]at this⊢;omega
    generalize ch:tx (dn++[114,101,116,117,114,110,32]++xe++[59,10])=cX3 at Jd Jk;have HX:=ah ch;clear ch;generalize tx (dn++[114,101,116,117,114,110,32]++xe)=cX2 at Jb Jg Jd;generalize tx (dn++[114,101,116,117,114,110,32])=cX1 at Ji Jh Jb;have Jz:((tx dn).size:Int)<=900000000:=by rw[tx_size];have:=Ja.out;omega
    go_wp2;go_roundw
    case rel=>exact⟨k+1+tn+ln,dn++T,o_,by go_num,by rw[<-HX.out,HQ.out];simp only[List.append_assoc],Jc,Jf,Jo⟩
    case measure=>simp[RowKit.intOf];omega
   ·
    have HQ:Hid (T=[111,117,116,40]++xe++[41,59,10]):=Jx.out.symm.trans (by rw[<-Jt.out];simp[bR,tx]);have Ja:Hid (dn.length+([111,117,116,40]++xe++[41,59,10]).length<=900000000):=by have:=Jw.out;rw[HQ.out]at this;exact this
    have Ji:tx (dn)++(⟨#[111,117,116,40]⟩:ByteArray)=tx (dn++[111,117,116,40]):=aq _ [111,117,116,40];have Xg:(⟨#[111,117,116,40]⟩:ByteArray).size=4:=rfl;have Jh:((tx (dn++[111,117,116,40])).size:Int)<=900000000:=by rw[tx_size];have:=Ja.out;simp only[l_a,l_c,l_n]at this⊢;omega
    have Jb:tx (dn++[111,117,116,40])++tx xe=tx (dn++[111,117,116,40]++xe):=aq _ _;have Xq:((tx xe).size:Int)<=900000000:=by rw[tx_size];have:=Ja.out;simp only[l_a,l_c,l_n]at this;omega
    have Jg:((tx (dn++[111,117,116,40]++xe)).size:Int)<=900000000:=by rw[tx_size];have:=Ja.out;simp only[l_a,l_c,l_n]at this⊢;omega
    have Jd:tx (dn++[111,117,116,40]++xe)++(⟨#[41,59,10]⟩:ByteArray)=tx (dn++[111,117,116,40]++xe++[41,59,10]):=aq _ [41,59,10];have Xh:(⟨#[41,59,10]⟩:ByteArray).size=3:=rfl;have Jk:((tx (dn++[111,117,116,40]++xe++[41,59,10])).size:Int)<=900000000:=by rw[tx_size];have:=Ja.out;simp only[l_a,l_c,l_n]at this⊢;omega
    generalize ch:tx (dn++[111,117,116,40]++xe++[41,59,10])=cX3 at Jd Jk;have HX:=ah ch;clear ch;generalize tx (dn++[111,117,116,40]++xe)=cX2 at Jb Jg Jd;generalize tx (dn++[111,117,116,40])=cX1 at Ji Jh Jb;have Jz:((tx dn).size:Int)<=900000000:=by rw[tx_size];have:=Ja.out;omega
    go_wp2;go_roundw
    case rel=>exact⟨k+1+tn+ln,dn++T,o_,by go_num,by rw[<-HX.out,HQ.out];simp only[List.append_assoc],Jc,Jf,Jo⟩
    case measure=>simp[RowKit.intOf];omega
   ·
    have HQ:Hid (T=xe++[59,10]):=Jx.out.symm.trans (by rw[<-Jt.out];simp[bR,tx]);have Ja:Hid (dn.length+(xe++[59,10]).length<=900000000):=by have:=Jw.out;rw[HQ.out]at this;exact this
    have Ji:tx (dn)++tx xe=tx (dn++xe):=aq _ _;have Yn:((tx xe).size:Int)<=900000000:=by rw[tx_size];have:=Ja.out;simp only[l_a,l_c,l_n]at this;omega
    have Jh:((tx (dn++xe)).size:Int)<=900000000:=by rw[tx_size];have:=Ja.out;simp only[l_a,l_c,l_n]at this⊢;omega
    have Jb:tx (dn++xe)++(⟨#[59,10]⟩:ByteArray)=tx (dn++xe++[59,10]):=aq _ [59,10];have Yw:(⟨#[59,10]⟩:ByteArray).size=2:=rfl;have Jg:((tx (dn++xe++[59,10])).size:Int)<=900000000:=by rw[tx_size];have:=Ja.out;simp only[l_a,l_c,l_n]at this⊢;omega
    generalize ch:tx (dn++xe++[59,10])=cX2 at Jb Jg;have HX:=ah ch;clear ch;generalize tx (dn++xe)=cX1 at Ji Jh Jb;have Jz:((tx dn).size:Int)<=900000000:=by rw[tx_size];have:=Ja.out;omega
    go_wp2;go_roundw
    case rel=>exact⟨k+1+tn+ln,dn++T,o_,by go_num,by rw[<-HX.out,HQ.out];simp only[List.append_assoc],Jc,Jf,Jo⟩
    case measure=>simp[RowKit.intOf];omega
theorem pS(w:World)(e:TypeId)(s:ByteArray):Below w.heap.size w (Lib.bytesWorld w e s):=
 ⟨by simp[Lib.bytesWorld,World.freeze,World.alloc,World.drew,-World.alloc_eq,-World.drew_eq],by simp[Lib.bytesWorld,World.freeze,World.alloc,World.drew,-World.alloc_eq,-World.drew_eq],by simp[Lib.bytesWorld,World.freeze,World.alloc,World.drew,-World.alloc_eq,-World.drew_eq],by rw[Lib.bytesWorld_size];omega,fun k hk=>Lib.bytesWorld_at_old w e s k hk⟩
theorem uO(w:World)(l:List UInt8)(c:Nat)(hc:(tx l).size<=c):C6 (Lib.bytesWorld w 5 (tx l)) (.slice (some ⟨w.heap.size,0,none⟩) (tx l).size c) l:=by
 refine⟨_,c,by rw[tx_size],by rw[<-tx_size];exact hc,fun _=>⟨_,rfl,fun j hj=>?_⟩⟩;rw[Lib.bytesWorld_cell w 5 (tx l) j (by rw[tx_size];exact hj)];simp[tx,List.getD,List.getElem?_eq_getElem hj]
theorem lR(t:Tr)(vg vf:Value)(w:World)(ht:i6 t)(hg:dL w vg t.globals)(hf:dM w vf t.funcs):
  Calls prog 21 #[.agg #[vg,vf]] w fun e w'=>∃v,e=.returned v/\C6 w' v (me t)/\Below w.heap.size w w':=by
 have HS:=ah ht;have HG:=ah hg;have HF:=ah hf;obtain⟨ag,cg,rfl,Zp,Yz,-⟩:=hg;obtain⟨af,cf,rfl,Zl,Yw,-⟩:=hf;have Zv:t.globals.length<=1048576:=ht.1;have Y_:t.funcs.length<=1048576:=ht.2.1;clear ht;go_enter func21,ntmps21;go_wp2_with fail;have Xa:∀o1,Bl w (w.alloc o1):=fun o1=>r_.alloc n_ o1;refine(jR t _ _ _ HS.out (HG.out.below (Xa _)) (HF.out.below (Xa _))).mono ?_;rintro e w1 ⟨rfl,Xv⟩;have Jc:Below (w.heap.size+1) (w.alloc (.cells #[.slice ag t.globals.length cg,.slice af t.funcs.length cf] 26)) w1:=by
  have:=Xv
  simp only[World.size_alloc]at this;exact this
 have x0:w1.cell? ⟨w.heap.size,0,none⟩=some (.slice ag t.globals.length cg):=by rw[Jc.cell i_];simp
 have x1:w1.cell? ⟨w.heap.size,1,none⟩=some (.slice af t.funcs.length cf):=by rw[Jc.cell i_];simp
 have Xt:Bl w w1:=(Xa _).trans (Jc.mono o_);have hH:w.heap.size<w1.heap.size:=by have:=Jc.size;simp at this;omega
 have Jd:=ah Xt;have Yj:=ah x0;have Ys:=ah x1;clear Xv Jc Xa Xt;cases htr:cK t
 ·have HE:Hid (me t=[]):=by show _=_;rw[me,htr];rfl
  go_wp2_with fail;refine bodyPost_ret (v:=.slice (some ⟨w1.heap.size,0,none⟩) 0 0) (by simp[results,results21,go_sem]) rfl ⟨_,rfl,?_,Jd.out.alloc Jd.out.size _⟩;rw[HE.out];exact⟨_,_,rfl,n_,fun h=>absurd h i_⟩
 ·obtain⟨Ym,Yy,Xf,Xk⟩:=fY htr;have HE:Hid (me t=t.globals.flatMap bP++t.funcs.flatMap funcT):=by show _=_;rw[me,if_pos htr];rfl
  have Yb:=ah Xf;have Yr:=ah Xk;have Xm:Hid (∀k,k<=50->((t.globals.take k).flatMap bP).length<=2500):=fun k hk=>by
   have:=gH bP 50 t.globals (fun g hg=>gI (Xf g hg)) k
   omega
  have Yk:Hid (∀k,k<=50->((t.funcs.take k).flatMap funcT).length<=6000000):=fun k hk=>by
   have:=gH funcT 120000 t.funcs (fun f hf=>gJ (Xk f hf)) k
   omega
  clear Xf Xk htr;go_wp2;go_loopw[3,4] (fun ot ix wr=>∃(k:Nat) (dn:List UInt8),k<=t.globals.length/\ix=.int .i64 k/\ot=.string (tx dn)/\dn=(t.globals.take k).flatMap bP/\Bl w1 wr) (fun _ ix _=>t.globals.length-(RowKit.intOf ix).toNat)
  case atStart=>exact⟨0,[],y_,rfl,rfl,i_,r_⟩
  case round=>
   obtain⟨k,dn,hk,rfl,rfl,Jj,Jb⟩:=hrel;have Jn:=ah Jj;have Jh:Hid (dn.length<=2500):=by have:=Xm.out k o_;rw[<-Jj]at this;exact this
   have y0:=(Jb.cell (p:=⟨w.heap.size,0,none⟩) hH).trans Yj;have Yf:((tx dn).size:Int)<=900000000:=by rw[tx_size];have:=Jh.out;omega
   clear x0 x1 Jj;by_cases hkA:k<t.globals.length
   ·have Xg:Hid (bV t.globals[k]=true):=Yb.out _ (g_ hkA);have Ji:Hid ((t.globals.take (k+1)).flatMap bP=dn++bP t.globals[k]):=by show _=_;rw[gT bP t.globals k hkA,Jn.out]
    obtain⟨Zk,Zc,he,_,_,J_⟩:=HG.out.below (Jd.out.trans (Jb.mono Jd.out.size));simp only[Value.slice.injEq,true_and]at he;obtain⟨rfl,rfl⟩:=he;obtain⟨bg,og,rfl,Jy⟩:=J_ o_;obtain⟨z0,z1⟩:=Jy k hkA;clear J_ Jy;generalize t.globals[k]=g at z0 z1 Xg Ji;obtain⟨nm,z⟩:=g;obtain⟨nl,rfl⟩:∃nl,nm=tx nl:=⟨_,(dw nm).symm⟩;simp only at z0 z1;have Yn:Hid (aK (tx nl)=true/\0<=z/\z<=4000):=ff Xg;obtain⟨Zq,Zt⟩:=Yn.out.2;have Jl:Hid ((bP ⟨tx nl,z⟩).length<=50):=gI Xg;by_cases hz:z=0
    ·subst hz;have HQ:Hid (bP ⟨tx nl,0⟩=[105,110,116,32]++nl++[59,10]):=by show _=_;simp[bP,tx]
     have Ja:Hid (dn.length+([105,110,116,32]++nl++[59,10]).length<=900000000):=by have h1:=Jl.out;rw[HQ.out]at h1;have h2:=Jh.out;show _<=_;omega
     have Jz:tx (dn)++(⟨#[105,110,116,32]⟩:ByteArray)=tx (dn++[105,110,116,32]):=aq _ [105,110,116,32];have Xo:(⟨#[105,110,116,32]⟩:ByteArray).size=4:=rfl;have Jt:((tx (dn++[105,110,116,32])).size:Int)<=900000000:=by rw[tx_size];have:=Ja.out;simp only[l_a,l_c,l_n]at this⊢;omega
     have Jf:tx (dn++[105,110,116,32])++tx nl=tx (dn++[105,110,116,32]++nl):=aq _ _;have Ya:((tx nl).size:Int)<=900000000:=by rw[tx_size];have:=Ja.out;simp only[l_a,l_c,l_n]at this;omega
     have Jr:((tx (dn++[105,110,116,32]++nl)).size:Int)<=900000000:=by rw[tx_size];have:=Ja.out;simp only[l_a,l_c,l_n]at this⊢;omega
     have Jg:tx (dn++[105,110,116,32]++nl)++(⟨#[59,10]⟩:ByteArray)=tx (dn++[105,110,116,32]++nl++[59,10]):=aq _ [59,10];have Xq:(⟨#[59,10]⟩:ByteArray).size=2:=rfl;have Jp:((tx (dn++[105,110,116,32]++nl++[59,10])).size:Int)<=900000000:=by rw[tx_size];have:=Ja.out;simp only[l_a,l_c,l_n]at this⊢;omega
     generalize ch:tx (dn++[105,110,116,32]++nl++[59,10])=cX3 at Jg Jp;have HX:=ah ch;clear ch;generalize tx (dn++[105,110,116,32]++nl)=cX2 at Jf Jr Jg;generalize tx (dn++[105,110,116,32])=cX1 at Jz Jt Jf;go_wp2;go_roundw
     case rel=>exact⟨k+1,dn++([105,110,116,32]++nl++[59,10]),o_,by go_num,by rw[<-HX.out];simp only[List.append_assoc],by rw[Ji.out,HQ.out],Jb.alloc Jb.size _⟩
     case measure=>simp[RowKit.intOf];omega
    ·have HQ:Hid (bP ⟨tx nl,z⟩=[105,110,116,32]++nl++[91]++(Lib.itoa z)++[93]++[59,10]):=by show _=_;simp[bP,tx,hz]
     have Ja:Hid (dn.length+([105,110,116,32]++nl++[91]++(Lib.itoa z)++[93]++[59,10]).length<=900000000):=by have h1:=Jl.out;rw[HQ.out]at h1;have h2:=Jh.out;show _<=_;omega
     have Jz:tx (dn)++(⟨#[105,110,116,32]⟩:ByteArray)=tx (dn++[105,110,116,32]):=aq _ [105,110,116,32];have Xo:(⟨#[105,110,116,32]⟩:ByteArray).size=4:=rfl;have Jt:((tx (dn++[105,110,116,32])).size:Int)<=900000000:=by rw[tx_size];have:=Ja.out;simp only[l_a,l_c,l_n]at this⊢;omega
     have Jf:tx (dn++[105,110,116,32])++tx nl=tx (dn++[105,110,116,32]++nl):=aq _ _;have Ya:((tx nl).size:Int)<=900000000:=by rw[tx_size];have:=Ja.out;simp only[l_a,l_c,l_n]at this;omega
     have Jr:((tx (dn++[105,110,116,32]++nl)).size:Int)<=900000000:=by rw[tx_size];have:=Ja.out;simp only[l_a,l_c,l_n]at this⊢;omega
     have Jg:tx (dn++[105,110,116,32]++nl)++(⟨#[91]⟩:ByteArray)=tx (dn++[105,110,116,32]++nl++[91]):=aq _ [91];have Xq:(⟨#[91]⟩:ByteArray).size=1:=rfl;have Jp:((tx (dn++[105,110,116,32]++nl++[91])).size:Int)<=900000000:=by rw[tx_size];have:=Ja.out;simp only[l_a,l_c,l_n]at this⊢;omega
     have Yc:tx (dn++[105,110,116,32]++nl++[91])++tx (Lib.itoa z)=tx (dn++[105,110,116,32]++nl++[91]++(Lib.itoa z)):=aq _ _;have Zn:((tx (Lib.itoa z)).size:Int)<=900000000:=by rw[tx_size];have:=Ja.out;simp only[l_a,l_c,l_n]at this;omega
     have Yi:((tx (dn++[105,110,116,32]++nl++[91]++(Lib.itoa z))).size:Int)<=900000000:=by rw[tx_size];have:=Ja.out;simp only[l_a,l_c,l_n]at this⊢;omega
     have Xw:tx (dn++[105,110,116,32]++nl++[91]++(Lib.itoa z))++(⟨#[93]⟩:ByteArray)=tx (dn++[105,110,116,32]++nl++[91]++(Lib.itoa z)++[93]):=aq _ [93];have Zm:(⟨#[93]⟩:ByteArray).size=1:=rfl;have Yv:((tx (dn++[105,110,116,32]++nl++[91]++(Lib.itoa z)++[93])).size:Int)<=900000000:=by rw[tx_size];have:=Ja.out;simp only[l_a,l_c,l_n]at this⊢;omega
     have X_:tx (dn++[105,110,116,32]++nl++[91]++(Lib.itoa z)++[93])++(⟨#[59,10]⟩:ByteArray)=tx (dn++[105,110,116,32]++nl++[91]++(Lib.itoa z)++[93]++[59,10]):=aq _ [59,10];have Ze:(⟨#[59,10]⟩:ByteArray).size=2:=rfl;have Yg:((tx (dn++[105,110,116,32]++nl++[91]++(Lib.itoa z)++[93]++[59,10])).size:Int)<=900000000:=by rw[tx_size];have:=Ja.out;simp only[l_a,l_c,l_n]at this⊢;omega
     generalize ch:tx (dn++[105,110,116,32]++nl++[91]++(Lib.itoa z)++[93]++[59,10])=cX6 at X_ Yg;have HX:=ah ch;clear ch;generalize tx (dn++[105,110,116,32]++nl++[91]++(Lib.itoa z)++[93])=cX5 at Xw Yv X_;generalize tx (dn++[105,110,116,32]++nl++[91]++(Lib.itoa z))=cX4 at Yc Yi Xw;generalize tx (dn++[105,110,116,32]++nl++[91])=cX3 at Jg Jp Yc;generalize tx (dn++[105,110,116,32]++nl)=cX2 at Jf Jr Jg;generalize tx (dn++[105,110,116,32])=cX1 at Jz Jt Jf;have Zi:(0:Int)<z:=o_;go_wp2_with fail;refine(lm z o_ o_ _).mono ?_;rintro x w3 ⟨rfl,Xs⟩;have Yx:Bl w1 w3:=(Jb.alloc Jb.size _).trans (Xs.mono (by have:=Jb.size;simp;omega));clear Xs;go_wp2;go_roundw
     case rel=>exact⟨k+1,dn++([105,110,116,32]++nl++[91]++(Lib.itoa z)++[93]++[59,10]),o_,by go_num,by rw[<-HX.out];simp only[List.append_assoc],by rw[Ji.out,HQ.out],Yx⟩
     case measure=>simp[RowKit.intOf];omega
   ·obtain rfl:k=t.globals.length:=by omega
    have Xz:Hid (dn=t.globals.flatMap bP):=by have:=Jn.out;rw[List.take_length]at this;exact this
    rw[<-Xz.out]at HE;clear Jn Xz Yb Xm;generalize hgt:dn=gt at*;clear hgt;have Yo:=ah Jb;clear Jb;go_wp2_with fail;clear y0;go_loopw[3,6] (fun ot ix wr=>∃(k:Nat) (dn:List UInt8),k<=t.funcs.length/\ix=.int .i64 k/\ot=.string (tx dn)/\dn=gt++(t.funcs.take k).flatMap funcT/\Bl w1 wr) (fun _ ix _=>t.funcs.length-(RowKit.intOf ix).toNat)
    case atStart=>exact⟨0,gt,y_,rfl,rfl,i_,Yo⟩
    case round=>
     obtain⟨k,dn,hk,rfl,rfl,Jj,Jb⟩:=hrel;have Jn:=ah Jj;have Jh:Hid (dn.length<=6002500):=by have h1:=Yk.out k o_;have h2:=Jh.out;rw[Jj];show _<=_;simp only[l_a];omega
     have y1:=(Jb.cell (p:=⟨w.heap.size,1,none⟩) hH).trans Ys;have Yf:((tx dn).size:Int)<=900000000:=by rw[tx_size];have:=Jh.out;omega
     clear Jj;by_cases hkA:k<t.funcs.length
     ·have Jm:Hid (cq t.funcs[k]=true):=Yr.out _ (g_ hkA);have Xe:Hid (iZ t.funcs[k]):=HS.out.2.2 _ (g_ hkA);have Ji:Hid (gt++(t.funcs.take (k+1)).flatMap funcT=dn++funcT t.funcs[k]):=by show _=_;rw[gT funcT t.funcs k hkA,Jn.out,List.append_assoc]
      have Jk:Hid (Bl w wr):=Jd.out.trans (Jb.mono Jd.out.size);obtain⟨Zu,Zf,Xr,_,_,Xy⟩:=HF.out;simp only[Value.slice.injEq,true_and]at Xr;obtain⟨rfl,rfl⟩:=Xr;obtain⟨bg,og,rfl,Jy⟩:=Xy o_;obtain⟨vp,vb,⟨u0,u1,u2⟩,hp,hb⟩:=Jy k hkA;have Xb:=b_ u0;have z0:=(Jk.out.cell (p:=⟨bg,og+k*3,none⟩) Xb).trans u0;have z1:=(Jk.out.cell (p:=⟨bg,og+k*3+1,none⟩) Xb).trans u1;have z2:=(Jk.out.cell (p:=⟨bg,og+k*3+2,none⟩) Xb).trans u2;clear Xy Jy u0 u1 u2 Xb;generalize t.funcs[k]=f at z0 z1 z2 Jm Ji Xe hp hb;have HP:=ah hp;have Xp:uX f.body:=⟨(dd Jm).good,Xe.out.2.2⟩;have Yt:=my f.body.length f.body n_ (dd Jm).good;have Yp:=(dd Jm).sum;have Ye:=(dd Jm).nb;have Xd:Hid (iC w vb (aW f.body)):=rr w f.body.length vb f.body n_ Xe.out.2.1 Xp o_ hb;have Jl:Hid ((funcT f).length<=120000):=gJ Jm;have Yd:f.params.length<=6:=(dd Jm).np;obtain⟨ap,cp,rfl,-⟩:=hp;obtain⟨ab,cb,rfl,-⟩:=hb;obtain⟨nm,ps,bd⟩:=f;obtain⟨nl,rfl⟩:∃nl,nm=tx nl:=⟨_,(dw nm).symm⟩;simp only at z0 z1 z2 HP Xd Yd;clear Xp Yt Yp Ye;have HQ:Hid (funcT ⟨tx nl,ps,bd⟩=[105,110,116,32]++nl++[40]++aA (fj ps) ps.length++[41,32,123,10]++aW bd++[125,10]):=by show _=_;simp[funcT,tx]
      rw[HQ.out]at Ji Jl;generalize aW bd=tb at Xd Ji Jl;clear HQ;have Ja:Hid (dn.length+([105,110,116,32]++nl++[40]).length<=900000000):=by have h1:=Jl.out;have h2:=Jh.out;show _<=_;simp only[l_a]at*;omega
      have Xc:Hid (dn.length+([105,110,116,32]++nl++[40]).length+(aA (fj ps) ps.length).length+tb.length<=800000000):=by have h1:=Jl.out;have h2:=Jh.out;show _<=_;simp only[l_a]at*;omega
      have Jz:tx (dn)++(⟨#[105,110,116,32]⟩:ByteArray)=tx (dn++[105,110,116,32]):=aq _ [105,110,116,32];have Xo:(⟨#[105,110,116,32]⟩:ByteArray).size=4:=rfl;have Jt:((tx (dn++[105,110,116,32])).size:Int)<=900000000:=by rw[tx_size];have:=Ja.out;simp only[l_a,l_c,l_n]at this⊢;omega
      have Jf:tx (dn++[105,110,116,32])++tx nl=tx (dn++[105,110,116,32]++nl):=aq _ _;have Ya:((tx nl).size:Int)<=900000000:=by rw[tx_size];have:=Ja.out;simp only[l_a,l_c,l_n]at this;omega
      have Jr:((tx (dn++[105,110,116,32]++nl)).size:Int)<=900000000:=by rw[tx_size];have:=Ja.out;simp only[l_a,l_c,l_n]at this⊢;omega
      have Jg:tx (dn++[105,110,116,32]++nl)++(⟨#[40]⟩:ByteArray)=tx (dn++[105,110,116,32]++nl++[40]):=aq _ [40];have Xq:(⟨#[40]⟩:ByteArray).size=1:=rfl;have Jp:((tx (dn++[105,110,116,32]++nl++[40])).size:Int)<=900000000:=by rw[tx_size];have:=Ja.out;simp only[l_a,l_c,l_n]at this⊢;omega
      generalize ch:tx (dn++[105,110,116,32]++nl++[40])=cX3 at Jg Jp;have HX:=ah ch;clear ch;generalize tx (dn++[105,110,116,32]++nl)=cX2 at Jf Jr Jg;generalize tx (dn++[105,110,116,32])=cX1 at Jz Jt Jf;go_wp2;go_loopw[3,8] (fun ot ix wq=>∃(j:Nat) (da:List UInt8),j<=ps.length/\ix=.int .i64 j/\ot=.string (tx da)/\da=dn++[105,110,116,32]++nl++[40]++aA (fj ps) j/\wq=wr.alloc (.cells #[.string (tx nl),.slice ap ps.length cp,.slice ab bd.length cb] 43)) (fun _ ix _=>ps.length-(RowKit.intOf ix).toNat)
      case atStart=>exact⟨0,dn++[105,110,116,32]++nl++[40],y_,rfl,by rw[HX.out],by simp[aA],by first|rfl|trivial⟩
      case round=>
       obtain⟨j,da,hj,rfl,rfl,Xi,rfl⟩:=hrel;have Jq:=ah Xi;have Jx:Hid (da.length+tb.length<=800000000):=by
        have h1:=fX (fj ps) j ps.length hj;have h2:=Xc.out;show _<=_;rw[Xi];simp only[l_a]at*;omega
       have Zj:((tx da).size:Int)<=900000000:=by rw[tx_size];have:=Jx.out;omega
       clear Xi;by_cases hjA:j<ps.length
       ·have Xj:=ah (oy ps j hjA);have Xh:Hid ((aA (fj ps) (j+1)).length<=(aA (fj ps) ps.length).length):=fX _ (j+1) _ hjA;obtain⟨Zo,Zb,he,_,_,J_⟩:=HP.out.below (Jk.out.trans ((r_.alloc n_ (.cells #[.string (tx nl),.slice ap ps.length cp,.slice ab bd.length cb] 43)).mono Jk.out.size));simp only[Value.slice.injEq,true_and]at he;obtain⟨rfl,rfl⟩:=he;obtain⟨bp,op,rfl,Xx⟩:=J_ o_;have hv:=Xx j hjA;clear J_ Xx;generalize ps[j]=pk at hv Xj;obtain⟨pl,rfl⟩:∃pl,pk=tx pl:=⟨_,(dw pk).symm⟩;have Jw:Hid (fj ps j=[105,110,116,32]++pl):=Xj.out;clear Xj;have Zs:Hid (pl.length<=800000000):=by
         have h1:=Xh.out;have h2:=Xc.out;show _<=_;simp only[aA,Jw.out,l_a]at*;omega
        by_cases hj0:j=0
        ·subst hj0;rw[Nat.add_zero]at hv;have Yu:(0:Int)<(ps.length:Int):=o_
         have Ja:Hid (da.length+([105,110,116,32]++pl).length<=900000000):=by
          have h1:=Xh.out;have h2:=Xc.out;have h3:=Jq.out;show _<=_;rw[h3];simp only[aA,Jw.out,l_a,if_pos]at*;omega
         have Jo:tx (da)++(⟨#[105,110,116,32]⟩:ByteArray)=tx (da++[105,110,116,32]):=aq _ [105,110,116,32];have Xn:(⟨#[105,110,116,32]⟩:ByteArray).size=4:=rfl;have Ju:((tx (da++[105,110,116,32])).size:Int)<=900000000:=by rw[tx_size];have:=Ja.out;simp only[l_a,l_c,l_n]at this⊢;omega
         have Je:tx (da++[105,110,116,32])++tx pl=tx (da++[105,110,116,32]++pl):=aq _ _;have Yh:((tx pl).size:Int)<=900000000:=by rw[tx_size];have:=Ja.out;simp only[l_a,l_c,l_n]at this;omega
         have Js:((tx (da++[105,110,116,32]++pl)).size:Int)<=900000000:=by rw[tx_size];have:=Ja.out;simp only[l_a,l_c,l_n]at this⊢;omega
         generalize dh:tx (da++[105,110,116,32]++pl)=dX2 at Je Js;have HY:=ah dh;clear dh;generalize tx (da++[105,110,116,32])=dX1 at Jo Ju Je;go_wp2;go_roundw
         case rel=>exact⟨0+1,da++[105,110,116,32]++pl,o_,by go_num,by rw[HY.out],by rw[Jq.out];simp[aA,Jw.out],by first|rfl|trivial⟩
         case measure=>simp[RowKit.intOf];omega
        ·have Zh:(0:Int)<(j:Int):=o_
         have Ja:Hid (da.length+([44,32]++[105,110,116,32]++pl).length<=900000000):=by
          have h1:=Xh.out;have h2:=Xc.out;have h3:=Jq.out;show _<=_;rw[h3];simp only[aA,Jw.out,l_a,if_neg hj0]at*;omega
         have Jo:tx (da)++(⟨#[44,32]⟩:ByteArray)=tx (da++[44,32]):=aq _ [44,32];have Xn:(⟨#[44,32]⟩:ByteArray).size=2:=rfl;have Ju:((tx (da++[44,32])).size:Int)<=900000000:=by rw[tx_size];have:=Ja.out;simp only[l_a,l_c,l_n]at this⊢;omega
         have Je:tx (da++[44,32])++(⟨#[105,110,116,32]⟩:ByteArray)=tx (da++[44,32]++[105,110,116,32]):=aq _ [105,110,116,32];have Zd:(⟨#[105,110,116,32]⟩:ByteArray).size=4:=rfl;have Js:((tx (da++[44,32]++[105,110,116,32])).size:Int)<=900000000:=by rw[tx_size];have:=Ja.out;simp only[l_a,l_c,l_n]at this⊢;omega
         have Jv:tx (da++[44,32]++[105,110,116,32])++tx pl=tx (da++[44,32]++[105,110,116,32]++pl):=aq _ _;have Za:((tx pl).size:Int)<=900000000:=by rw[tx_size];have:=Ja.out;simp only[l_a,l_c,l_n]at this;omega
         have Xl:((tx (da++[44,32]++[105,110,116,32]++pl)).size:Int)<=900000000:=by rw[tx_size];have:=Ja.out;simp only[l_a,l_c,l_n]at this⊢;omega
         generalize dh:tx (da++[44,32]++[105,110,116,32]++pl)=dX3 at Jv Xl;have HY:=ah dh;clear dh;generalize tx (da++[44,32]++[105,110,116,32])=dX2 at Je Js Jv;generalize tx (da++[44,32])=dX1 at Jo Ju Je;go_wp2;go_roundw
         case rel=>exact⟨j+1,da++[44,32]++[105,110,116,32]++pl,o_,by go_num,by rw[HY.out],by rw[Jq.out];simp only[aA,Jw.out,if_neg hj0,List.append_assoc],by first|rfl|trivial⟩
         case measure=>simp[RowKit.intOf];omega
       ·obtain rfl:j=ps.length:=by omega
        have Ja:Hid (da.length+([41,32,123,10]++tb++[125,10]).length<=900000000):=by
         have h2:=Jx.out;show _<=_;simp only[l_a,l_c,l_n];omega
        have Jo:tx (da)++(⟨#[41,32,123,10]⟩:ByteArray)=tx (da++[41,32,123,10]):=aq _ [41,32,123,10];have Xn:(⟨#[41,32,123,10]⟩:ByteArray).size=4:=rfl;have Ju:((tx (da++[41,32,123,10])).size:Int)<=900000000:=by rw[tx_size];have:=Ja.out;simp only[l_a,l_c,l_n]at this⊢;omega
        have Je:tx (da++[41,32,123,10])++tx tb=tx (da++[41,32,123,10]++tb):=aq _ _;have Yh:((tx tb).size:Int)<=900000000:=by rw[tx_size];have:=Ja.out;simp only[l_a,l_c,l_n]at this;omega
        have Js:((tx (da++[41,32,123,10]++tb)).size:Int)<=900000000:=by rw[tx_size];have:=Ja.out;simp only[l_a,l_c,l_n]at this⊢;omega
        have Jv:tx (da++[41,32,123,10]++tb)++(⟨#[125,10]⟩:ByteArray)=tx (da++[41,32,123,10]++tb++[125,10]):=aq _ [125,10];have Zg:(⟨#[125,10]⟩:ByteArray).size=2:=rfl;have Xl:((tx (da++[41,32,123,10]++tb++[125,10])).size:Int)<=900000000:=by rw[tx_size];have:=Ja.out;simp only[l_a,l_c,l_n]at this⊢;omega
        generalize dh:tx (da++[41,32,123,10]++tb++[125,10])=dX3 at Jv Xl;have HY:=ah dh;clear dh;generalize tx (da++[41,32,123,10]++tb)=dX2 at Je Js Jv;generalize tx (da++[41,32,123,10])=dX1 at Jo Ju Je;go_wp2_with fail;refine(Xd.out _ (Jk.out.trans ((aD _ _).mono Jk.out.size))).mono ?_;rintro x w5 ⟨rfl,Xu⟩;have Yl:Bl w1 w5:=(Jb.alloc Jb.size _).trans (Xu.mono (by have:=Jb.size;simp;omega));clear Xu;go_wp2;go_roundw
        case rel=>exact⟨k+1,da++[41,32,123,10]++tb++[125,10],o_,by go_num,by rw[HY.out],by rw[Ji.out,Jq.out];simp only[List.append_assoc],Yl⟩
        case measure=>simp[RowKit.intOf];omega
     ·obtain rfl:k=t.funcs.length:=by omega
      have Yq:Hid (me t=dn):=by have:=Jn.out;rw[List.take_length]at this;rw[HE.out,this];rfl
      have Zr:∀W:World,(convert 9 22 (.string (tx dn))).run prog W=.ok (.slice (some ⟨W.heap.size,0,none⟩) (tx dn).size (grownCap W (tx dn).size 0 5)) (Lib.bytesWorld W 5 (tx dn)):=fun W=>Lib.run_convert_string_bytes W 9 22 5 (tx dn) underlying9 underlying22 underlying5;go_wp2_with fail;refine bodyPost_ret (v:=.slice (some ⟨wr.heap.size,0,none⟩) (tx dn).size (grownCap wr (tx dn).size 0 5)) (by simp[results,results21,go_sem]) rfl ⟨_,rfl,?_,?_⟩
      ·rw[Yq.out];exact uO _ _ _ (grownCap_ge _ _ _ _)
      ·exact(Jd.out.trans (Jb.mono Jd.out.size)).trans ((pS _ _ _).mono (t_ Jd.out.size Jb.size))
end Go.Proofs.YtlamjfhhefcohaaGreatDoor
