import Derived.Test.YtlamjfhhefcohaaGreatDoorP47
import Derived.Test.YtlamjfhhefcohaaGreatDoorP18
import Derived.Test.YtlamjfhhefcohaaGreatDoorP39
import Derived.Test.YtlamjfhhefcohaaGreatDoorP42
namespace Go.Proofs.YtlamjfhhefcohaaGreatDoor
open Go.Proofs.Tryz
open Go.RowKit
set_option linter.all false
set_option maxRecDepth 100000
set_option maxHeartbeats 16000000
variable{w W:World}{R:Nat}{vg v:Value}{t:Tr}{l:List UInt8}
structure KP (w W:World) (R:Nat) (vg vf:Value) (t:Tr):Prop where
 box:aR W R [vg,vf]
 g:dL W vg t.globals
 f:dM W vf t.funcs
 lt:R<W.heap.size
 old:Below w.heap.size w W
theorem KP.below{W':World}{vf:Value}(h:KP w W R vg vf t)(hb:Below W.heap.size W W'):KP w W' R vg vf t:=
 ⟨h.box.below hb,h.g.below hb,h.f.below hb,l_ h.lt hb.size,h.old.trans (hb.mono h.old.size)⟩
theorem KP.stmt{fa:Nat}{fc:Nat}{fo:Nat}(h:KP w W R vg (.slice (some ⟨fa,fo,none⟩) t.funcs.length fc) t):jN W fa fo t.funcs∨t.funcs.length=0:=by
 obtain⟨a,c,e,-,-,hc⟩:=h.f;by_cases h0:0<t.funcs.length
 ·obtain⟨b,o,e2,hf⟩:=hc h0;simp only[Value.slice.injEq,true_and]at e;obtain⟨rfl,-⟩:=e;simp only[Option.some.injEq,Addr.mk.injEq,and_true]at e2;obtain⟨rfl,rfl⟩:=e2;exact .inl hf
 ·exact .inr o_
def Dv(t:Tr)(i:Nat):Prop:=∀j (h:j<t.funcs.length),j<i->∀s∈t.funcs[j].body,∀n,n∈s.e∨n∈s.f->n.kind=1->0<=n.val
def Ek(b:List St)(k:Nat):Prop:=∀j (h:j<b.length),j<k->∀n,n∈b[j].e∨n∈b[j].f->n.kind=1->0<=n.val
def Ft(l:List Nd)(k:Nat):Prop:=∀j (h:j<l.length),j<k->l[j].kind=1->0<=l[j].val
theorem Dv.all(h:Dv t t.funcs.length):yK t:=λf hf=>by
 obtain⟨j,hj,rfl⟩:=List.getElem_of_mem hf;exact h j hj hj
theorem Dv.step{i:Nat}(h:Dv t i)(hi:i<t.funcs.length)(h':Ek t.funcs[i].body t.funcs[i].body.length):Dv t (i+1):=λj hj hji s hs=>by
 by_cases e:j=i
 ·subst e;obtain⟨q,hq,rfl⟩:=List.getElem_of_mem hs;exact h' q hq hq
 ·exact h j hj o_ s hs
theorem Ek.step{b:List St}{k:Nat}(h:Ek b k)(hk:k<b.length)(h':Ft (b[k].e++b[k].f) (b[k].e++b[k].f).length):Ek b (k+1):=λj hj hjk n hn=>by
 by_cases e:j=k
 ·subst e;have hm:n∈b[j].e++b[j].f:=List.mem_append.2 hn;obtain⟨q,hq,rfl⟩:=List.getElem_of_mem hm;exact h' q hq hq
 ·exact h j hj o_ n hn
theorem kJ{w':World}{b:Nat}(h:ia w b l)(hb:Below w.heap.size w w'):ia w' b l:=λj hj=>(hb.cell (p:=⟨b,j,none⟩) (b_ (h j hj))).trans (h j hj)
theorem Dg [Inhabited Pick](h:cK t=false):me t=[]:=by unfold me;rw[h];rfl
theorem kK [Inhabited Pick](h:cK t=true):me t=cZ t:=by unfold me;rw[if_pos h]
theorem pZ(h:C6 w v l)(h0:0<l.length):∃g c,v=.slice (some ⟨g,0,none⟩) l.length c/\l.length<=c/\ia w g l/\g<w.heap.size:=by
 obtain⟨a,c,rfl,hc,h⟩:=h;obtain⟨b,rfl,hb⟩:=h h0;exact⟨b,c,rfl,hc,hb,b_ (hb 0 h0)⟩
theorem AC [Inhabited Pick]{B n:Nat}(h:w.ownsRow B 5 1 v n (Lib.strCells (tx l)))(hn:n=l.length)(h0:0<l.length):∃g c,v=.slice (some ⟨g,0,none⟩) l.length c/\l.length<=c/\ia w g l/\g<w.heap.size:=by
 subst hn;rcases h.2 with⟨rfl,hz⟩|⟨g,Ja,Jb,rfl,hg,hh,Je,Jd,Jf,Jc⟩
 ·omega
 ·have ht:=uS h;exact⟨g,Ja,rfl,o_,ht,b_ (ht 0 h0)⟩
theorem Dh(a:Option Addr)(len cap:Nat)(w:World)(hl:len<=1048576)(Zm:B8 w a len)(Je:dz w)(Zn:kr w)(Zo:jI w)(Zk:w.rangeAt 7 0 fk)(Zl:yP w)(Zp:7<w.heap.size):
  Calls prog 5 #[.slice a len cap] w λe w'=>e=.returned (.bool true)/\Below w.heap.size w w':=by
 haveI : Inhabited Pick := ⟨⟨λ_ h => Classical.choice h⟩⟩
 have HD:=ah (rj a len cap w hl Zm);have HT:Hid (∀W,Bl w W->dz W):=λW hW=>Je.below Je.size hW;have Yq:=ah Zn;have Yy:=ah Zo;have Vb:=ah (λ(t:Tr) ht hn=>AB t w ht hn Je Zk Zl Zp);clear Zm Je Zn Zo Zk Zl Zp;have Vq:(len:Int)<=1048576:=o_
 go_enter func5,ntmps5;go_wp2_with fail;refine HD.out.mono ?_;rintro e w1 ⟨vg,vf,t,rfl,Jq,Xq⟩;obtain⟨W,eW⟩:=q_ (w1.alloc (.cells #[vg,vf] 26));obtain⟨R,eR⟩:=q_ w1.heap.size;have Jw:Bl w1 W:=by rw[eW];exact r_.alloc n_ _
 have hk:KP w W R vg vf t:=⟨by rw[eW,eR];exact aJ w1 #[vg,vf] _ (by show 2<=1000;omega),Jq.gs _ (Jw.tcs (S:=λ_=>False)),Jq.fs _ (Jw.tcs (S:=λ_=>False)),by rw[eW,eR];simp,Xq.trans (Jw.mono Xq.size)⟩;obtain⟨Xm,-⟩:=Jq.small;have Zc:=Jq.fp;obtain⟨ga,gc,Zi,-⟩:=id hk.g;obtain⟨fa,fc,Ym,-⟩:=id hk.f;obtain⟨gn,Zb⟩:=q_ t.globals.length;obtain⟨fn,Xb⟩:=q_ t.funcs.length;rw[<-Zb]at Zi;rw[<-Xb]at Ym Zc;subst Zi Ym;have HK:=ah hk;have Jg:=ah Xm;have HW:=ah eW;have HR:=ah eR;have Xc:=ah Xb;have Vm:fn<=1048576:=by rw[Xb];exact Xm.2.1
 clear HD Jq Xq eW eR Jw hk Xm Zb Xb;go_upto_region 4 with fail;rw[<-HW.out,<-HR.out];have z0:=HK.out.box 0 _ rfl;have z1:=HK.out.box 1 _ rfl;go_wp2_with fail;refine(uM t _ _ W (HT.out W HK.out.old) (Yq.out.below HK.out.old) (Yy.out.below HK.out.old) Jg.out HK.out.g HK.out.f).mono ?_;rintro e w2 ⟨v,rfl,o2,b2⟩;have Jk:=ah (HK.out.below b2);have HO:=ah o2;obtain⟨pa,pc,hv,-⟩:=jc o2;obtain⟨pn,Xu⟩:=q_ ((me t).length);rw[<-Xu]at hv;have Js:=ah Xu;subst hv;clear z0 z1 o2 b2 Xu HK HW Yq Yy;have z0:=Jk.out.box 0 _ rfl;have z1:=Jk.out.box 1 _ rfl;go_wp2_with fail;refine(jR t _ _ w2 Jg.out Jk.out.g Jk.out.f).mono ?_;rintro e w3 ⟨rfl,b3⟩;have Jb:=ah (Jk.out.below b3);have Xw:=ah b3;clear z0 z1 b3;have z0:=Jb.out.box 0 _ rfl;have z1:=Jb.out.box 1 _ rfl;cases htb:cK t with
 | false=>
  have Ve:pn=0:=by rw[Js.out,Dg htb];rfl
  subst Ve;have HV:=ah (jO t _ _ w3 (HT.out w3 Jb.out.old) Jg.out Jb.out.g Jb.out.f);rw[htb]at HV;clear htb;go_wp2_with fail;refine HV.out.mono ?_;rintro e w4 ⟨rfl,b4⟩;have HF:=ah (Jb.out.old.trans (b4.mono Jb.out.old.size));clear b4 z0 z1;go_wp2;go_ret;exact⟨rfl,HF⟩
 | true=>
  have Xy:0<(me t).length:=by rw[kK htb];exact uR (by rw[<-Xc.out];exact Zc)
  obtain⟨pb,c,e1,hc,hx,Jx⟩:=AC HO.out rfl Xy;simp only[Value.slice.injEq]at e1;obtain⟨rfl,-,rfl⟩:=e1;have HX:=ah (And.intro (kJ hx Xw) (And.intro (l_ Jx Xw.out.size) hc));have Jv:=ah htb;have Ys:=ah Xy;clear htb Xy hc hx Jx HO Xw Jk;go_wp2;go_loopw[5] (λi wr=>∃q:Nat,q<=fn/\i=.int .i64 q/\Bl w3 wr/\Hid (Dv t q)) (λi _=>fn-(RowKit.intOf i).toNat)
  case atStart=>exact⟨0,y_,rfl,r_,λj _ h=>absurd h (Nat.not_lt_zero _)⟩
  case round=>
   obtain⟨q,hq,rfl,hB,HN⟩:=hrel;have Jf:=ah (Jb.out.below hB);clear z0 z1;have z0:=Jf.out.box 0 _ rfl;have z1:=Jf.out.box 1 _ rfl;by_cases Jx:q<fn
   ·obtain⟨Jh,fo,Vf,Zd⟩:∃b o,fa=some ⟨b,o,none⟩/\jN w3 b o t.funcs:=by
     obtain⟨x,y,e,-,-,h⟩:=Jb.out.f;simp only[Value.slice.injEq]at e;obtain⟨rfl,-,-⟩:=e;exact h (by rw[<-Xc.out];omega)
    subst Vf;have Xl:q<t.funcs.length:=by rw[<-Xc.out];exact Jx
    obtain⟨vp,vb,⟨-,-,d2⟩,-,sb⟩:=Zd q Xl;have Xk:=ah sb;obtain⟨ba,bc,rfl,-,-,-⟩:=sb;have Jr:=(Jg.out.2.2 t.funcs[q] (g_ Xl)).2;have Xg:=ah Jr;obtain⟨bd,Ya⟩:=q_ (t.funcs[q].body);rw[<-Ya]at Xk d2 Xg;have Vi:=ah Ya;obtain⟨bn,Jy⟩:=q_ bd.length;have Vw:bn<=1048576:=by rw[Jy];exact Xg.out.1
    rw[<-Jy]at Xk d2;have Xs:=ah Jy;have Xn:=ah d2;clear Zd Jr Ya Jy d2;go_wp2;go_loopw[6] (λi wr'=>∃k:Nat,k<=bn/\i=.int .i64 k/\Bl w3 wr'/\Hid (Ek bd k)) (λi _=>bn-(RowKit.intOf i).toNat)
    case atStart=>exact⟨0,y_,rfl,hB,λj _ h=>absurd h (Nat.not_lt_zero _)⟩
    case round=>
     clear z0 z1 Jf hB;obtain⟨k,hk,rfl,hB,HS⟩:=hrel;have Jf:=ah (Jb.out.below hB);have z0:=Jf.out.box 0 _ rfl;have z1:=Jf.out.box 1 _ rfl;have Ye:Jh<w3.heap.size:=b_ Xn;have d2:=(hB.cell (p:=⟨Jh,fo+q*3+2,none⟩) Ye).trans Xn;by_cases hlt2:k<bn
     ·obtain⟨bb,ob,Vj,Ze⟩:∃b o,ba=some ⟨b,o,none⟩/\ja w3 b o bd:=by
       obtain⟨x,y,e,-,-,h⟩:=Xk.out;simp only[Value.slice.injEq]at e;obtain⟨rfl,-,-⟩:=e;exact h (by rw[<-Xs.out];omega)
      subst Vj;have Xi:k<bd.length:=by rw[<-Xs.out];exact hlt2
      obtain⟨x,y,⟨-,-,e2,e3,-,-⟩,n1,n2⟩:=Ze k Xi;have Yw:bb<w3.heap.size:=b_ e2;obtain⟨se,sf⟩:=Xg.out.2 bd[k] (g_ Xi);obtain⟨st,Xe⟩:=q_ (bd[k]);rw[<-Xe]at n1 n2 se sf;have Va:=ah n1;have Zx:=ah n2;have Zy:=ah Xe;obtain⟨ea,ec,rfl,-,-,-⟩:=n1;obtain⟨Yn,Zg,rfl,-,-,-⟩:=n2;have Jz:∀X,Bl w3 X->X.cell? ⟨R,1,none⟩=some (.slice (some ⟨Jh,fo,none⟩) fn fc)/\X.cell? ⟨Jh,fo+q*3+2,none⟩=some (.slice (some ⟨bb,ob,none⟩) bn bc)/\X.cell? ⟨bb,ob+k*6+2,none⟩=some (.slice ea st.e.length ec)/\X.cell? ⟨bb,ob+k*6+3,none⟩=some (.slice Yn st.f.length Zg):=λX hX=>⟨((Jb.out.below hX).box 1 _ rfl).1,(hX.cell (p:=⟨Jh,fo+q*3+2,none⟩) Ye).trans Xn,(hX.cell (p:=⟨bb,ob+k*6+2,none⟩) Yw).trans e2,(hX.cell (p:=⟨bb,ob+k*6+3,none⟩) Yw).trans e3⟩;have Yt:=ah Jz;have Jd:Bl w3 (World.drew _):=hB.drew;have Ja:=ah (Jz _ Jd);have Xx:Bl w3 ((World.drew _).alloc (.cells #[] 48)):=Jd.alloc hB.size _;have Yv:=ah (Jz _ Xx);have Yj:=ah (cE (World.drew _) w3.heap.size Jd.size);have Yb:=ah Xx;clear Ze Xe Jz Jd Xx e2 e3 hB;go_upto_region 13 with fail;clear z0 z1 d2;refine aX 23 (λX=>X.cell? ⟨R,1,none⟩=some (.slice (some ⟨Jh,fo,none⟩) fn fc)/\X.cell? ⟨Jh,fo+q*3+2,none⟩=some (.slice (some ⟨bb,ob,none⟩) bn bc)/\X.cell? ⟨bb,ob+k*6+2,none⟩=some (.slice ea st.e.length ec)/\X.cell? ⟨bb,ob+k*6+3,none⟩=some (.slice Yn st.f.length Zg)) k_ ?_;refine tk 1 [2,4,5,6,8,9,10,11,22,23] Ja.out ?_;refine tk 2 [4,5,6,8,9,10,11,22,23] Ja.out ?_;refine tk 3 [4,5,6,8,9,10,11,22,23] Ja.out ?_;refine tk 4 [5,6,8,9,10,11,22,23] Ja.out ?_;refine tk 5 [6,8,9,10,11,22,23] Ja.out ?_;refine tk 6 [8,9,10,11,22,23] Ja.out ?_;refine tk 7 [8,9,10,11,22,23] Ja.out ?_;refine tk 8 [9,10,11,22,23] Ja.out ?_;refine tk 9 [10,11,22,23] Ja.out ?_;refine tk 10 [11,22,23] Ja.out ?_;refine tk 12 [13,15,16,17,19,20,21,22,23] Ja.out ?_;refine tk 13 [15,16,17,19,20,21,22,23] Ja.out ?_;refine tk 14 [15,16,17,19,20,21,22,23] Ja.out ?_;refine tk 15 [16,17,19,20,21,22,23] Ja.out ?_;refine tk 16 [17,19,20,21,22,23] Ja.out ?_;refine tk 17 [19,20,21,22,23] Ja.out ?_;refine tk 18 [19,20,21,22,23] Ja.out ?_;refine tk 19 [20,21,22,23] Ja.out ?_;refine tk 20 [21,22,23] Ja.out ?_;refine tk 21 [22,23] Ja.out ?_;clear Ja;refine aw (i:=0) k_ rfl (λK hK=>?_);go_simp;refine hK.out _ _ (λ_=>Yv) ?_;clear hK K Yv;try simp only[Act.put,tA,tB,tC]
      refine aw (i:=11) k_ rfl (λK hK=>?_);refine dX (W0:=w3) rfl (.tmp 47) (.tmp 57) rfl _ [] rfl Yj.out Yb.out _ st.e rfl (Va.out.below Yb) (by simp;omega) ?_;intro v9 w9 h9 b9 g9 f9;refine hK.out _ _ (λ_=>Yt.out w9 b9) ?_;clear hK K;try simp only[Act.put,tA,tB,tC]
      refine aw (i:=22) k_ rfl (λK hK=>?_);refine dX (W0:=w3) rfl (.tmp 58) (.tmp 68) rfl _ ([]++st.e) rfl h9 b9 _ st.f rfl (Zx.out.below b9) (by simp;omega) ?_;intro Vx Xv h11 Jp Zz Vh;obtain⟨va,vc,Ji,-⟩:=jc h11;obtain⟨al,J_⟩:=q_ (st.e++st.f);obtain⟨ln,Jt⟩:=q_ al.length;have Yk:([]++st.e++st.f:List Nd)=al:=J_.symm;rw[Yk]at h11 Ji;rw[<-Jt]at Ji;have Vv:ln<=3000000:=by rw[Jt,J_,l_a];omega
      have Vc:=ah J_;have Xj:=ah Jt;subst Ji;clear Yk J_ Jt;refine hK.out _ _ (λ_=>Yt.out Xv Jp) ?_;clear hK K;try simp only[Act.put,tA,tB,tC]
      refine aw (i:=23) k_ rfl (λK hK=>?_);go_simp;refine hK.out _ _ (λh=>absurd rfl h) ?_;clear hK K;refine aP k_ ?_ _;have Yg:ax Xv _ al:=aF.nodes h11;have Vl:=ah Yg;have Jc:=ah (Jb.out.below Jp);have Xp:=ah (kJ HX.out.1 Jp);have Xz:=ah Jp;clear h11 Jp Zz Vh h9 b9 g9 f9 Yj Yb Yg;have z0:=Jc.out.box 0 _ rfl;have z1:=Jc.out.box 1 _ rfl;have Vg:Hid (∀W g2 c2,ia W pb (me t)->ia W g2 (me t)->Calls prog 20 #[.slice (some ⟨pb,0,none⟩) pn pc,.slice (some ⟨g2,0,none⟩) pn c2] W λe w'=>e=.returned (.bool true)/\w'=W):=λW g2 c2 x1 x2=>by
       rw[Js.out];exact pY pb g2 pc c2 (me t) W x1 x2
      go_wp2;go_loopw[8] (λi wr=>∃p:Nat,p<=ln/\i=.int .i64 p/\wr=Xv/\Hid (Ft al p)) (λi _=>ln-(RowKit.intOf i).toNat)
      case atStart=>exact⟨0,y_,rfl,rfl,λj _ h=>absurd h (Nat.not_lt_zero _)⟩
      case round=>
       obtain⟨p,hp,rfl,rfl,Yh⟩:=hrel;by_cases hlt3:p<ln
       ·obtain⟨nb,no,Z_,Yz⟩:∃b o,va=some ⟨b,o,none⟩/\gL wr b o al:=by
         obtain⟨x,y,e,-,-,h⟩:=Vl.out;simp only[Value.slice.injEq]at e;obtain⟨rfl,-,-⟩:=e;exact h (by rw[<-Xj.out];omega)
        subst Z_;have Vd:p<al.length:=by rw[<-Xj.out];exact hlt3
        obtain⟨c0,c1,-⟩:=Yz p Vd;have Jo:Hid (¬(al[p].kind=1/\al[p].val<0)->Ft al (p+1)):=λh j hj hjp hk=>by
         by_cases e:j=p
         ·subst e;have:=λhv=>h ⟨hk,hv⟩
          omega
         ·exact Yh.out j hj o_ hk
        clear Yz;generalize al[p].kind=kd at c0 Jo;generalize al[p].val=vl at c1 Jo;by_cases h1:kd=1
        ·subst h1;by_cases h2:vl<0
         ·clear Jo;go_wp2_with fail;refine(lR t _ _ wr Jg.out Jc.out.g Jc.out.f).mono ?_;rintro e Zw ⟨Vy,rfl,Yu,Xo⟩;obtain⟨Zu,Zv,rfl,-,Y_,-⟩:=pZ Yu Ys;rw[<-Js.out];have HC:=ah (Vg.out Zw Zu Zv (kJ Xp.out Xo) Y_);have HF:=ah ((Jc.out.below Xo).old);clear Yu Xo Y_ z0 z1 c0 c1;go_wp2_with fail;refine HC.out.mono ?_;rintro e Vp ⟨rfl,rfl⟩;go_wp2;go_ret;exact⟨rfl,HF⟩
         ·go_wp2;go_roundw
          case rel=>exact⟨p+1,o_,by go_num,(by first|rfl|trivial),Jo.out (λh=>h2 h.2)⟩
          case measure=>simp[RowKit.intOf];omega
        ·go_wp2;go_roundw
         case rel=>exact⟨p+1,o_,by go_num,(by first|rfl|trivial),Jo.out (λh=>h1 h.1)⟩
         case measure=>simp[RowKit.intOf];omega
       ·go_wp2;go_roundw
        case rel=>
         refine⟨k+1,o_,by go_num,Xz,?_⟩;refine HS.out.step Xi ?_;rw[<-Zy.out,<-Vc.out,<-Xj.out];have:p=ln:=by omega
         rw[<-this];exact Yh
        case measure=>simp[RowKit.intOf];omega
     ·go_wp2;go_roundw
      case rel=>
       refine⟨q+1,o_,by go_num,hB,?_⟩;refine HN.out.step Xl ?_;rw[<-Vi.out,<-Xs.out];have:k=bn:=by omega
       rw[<-this];exact HS
      case measure=>simp[RowKit.intOf];omega
   ·have Yl:yK t:=by
     have e:q=t.funcs.length:=by rw[<-Xc.out];omega
     have:=HN.out
     rw[e]at this;exact this.all
    obtain⟨x,y,t',Yc,hG,hI⟩:=Vb.out t Jv.out Yl;have hX:=HX.out;rw[kK Jv.out]at hX;have Yf:pn=(cZ t).length:=by rw[Js.out,kK Jv.out]
    rw[<-Yf]at hG hI hX;have Yp:=ah (hI _ pb pc (kJ hX.1 hB) (l_ hX.2.1 hB.size) hX.2.2 Jf.out.old);have HG:=ah hG;have Zr:=ah Yc;clear hX hG hI Yc Yf Yl;go_wp2_with fail;clear z0 z1;refine Yp.out.mono ?_;rintro e w4 ⟨ug,uf,Q,rfl,T4,b4⟩;dsimp only at T4;obtain⟨Vn,Vr,Yo,-⟩:=jc T4.gs;obtain⟨Vt,Vu,Zf⟩:=T4.fs.shape;obtain⟨un,Zh⟩:=q_ t'.globals.length;obtain⟨um,Yr⟩:=q_ Q.length;have Xt:=ah T4.rd;obtain⟨W5,Xd⟩:=q_ (w4.alloc (.cells #[.int .i64 x,.int .i64 y,ug,uf] 28));obtain⟨B5,Xr⟩:=q_ w4.heap.size;have b5:Bl w4 W5:=by rw[Xd];exact r_.alloc n_ _
    have x5:aR W5 B5 [.int .i64 x,.int .i64 y,ug,uf]:=by rw[Xd,Xr];exact aJ w4 #[.int .i64 x,.int .i64 y,ug,uf] _ (by show 4<=1000;omega)
    have Jl:=ah ((Jf.out.below b4).below b5);have Yd:=ah x5;have Xf:=ah (And.intro (Xt.out.1.below b5) (Xt.out.2.below b5));have Vk:=ah Xd;have Zq:=ah Xr;rw[<-Zh]at Yo;rw[<-Yr]at Zf;subst Yo Zf;clear T4 b4 b5 x5 Xd Xr Zh Yr Yp Xt;go_upto_region 20 with fail;rw[<-Vk.out,<-Zq.out];have z0:=Jl.out.box 0 _ rfl;have z1:=Jl.out.box 1 _ rfl;go_wp2_with fail;refine(lR t _ _ W5 Jg.out Jl.out.g Jl.out.f).mono ?_;rintro e w6 ⟨v6,rfl,y6,b6⟩;obtain⟨g6,c6,rfl,X_,t6,l6⟩:=pZ y6 Ys;rw[<-Js.out]at X_⊢;rw[kK Jv.out]at t6;have Yi:=ah (HG.out w6 g6 c6 t6 l6 X_);have Xa:=ah b6;clear y6 b6 t6 l6 X_ z0 z1 HG;go_wp2_with fail;refine Yi.out.mono ?_;rintro e w7 ⟨sg,sf,rfl,G7,F7,b7⟩;dsimp only at G7 F7;obtain⟨sa,sc,Za,-⟩:=id G7;obtain⟨Vs,Vo,Zj,-⟩:=id F7;obtain⟨W8,Ju⟩:=q_ (w7.alloc (.cells #[.int .i64 x,.int .i64 y,sg,sf] 28));obtain⟨B8,Xh⟩:=q_ w7.heap.size;have b8:Bl w7 W8:=by rw[Ju];exact r_.alloc n_ _
    have x8:aR W8 B8 [.int .i64 x,.int .i64 y,sg,sf]:=by rw[Ju,Xh];exact aJ w7 #[.int .i64 x,.int .i64 y,sg,sf] _ (by show 4<=1000;omega)
    have Jn:Bl W5 W8:=(Xa.out.trans (b7.mono Xa.out.size)).trans (b8.mono (t_ Xa.out.size b7.size));have Jj:=ah (Jl.out.below Jn);have Jm:=ah (And.intro (Yd.out.below Jn) x8);have Yx:=ah (And.intro (Xf.out.1.below Jn) (Xf.out.2.below Jn));have Zt:=ah Ju;have Zs:=ah Xh;generalize t'.globals.length=l1 at Za;generalize t'.funcs.length=l2 at Zj;subst Za Zj;clear G7 F7 b7 b8 x8 Jn Ju Xh Yi Xa Xf Yd Jl;go_upto_region 21 with fail;rw[<-Zt.out,<-Zs.out];have z0:=Jj.out.box 0 _ rfl;have z1:=Jj.out.box 1 _ rfl;have q0:=Jm.out.1 0 _ rfl;have q1:=Jm.out.1 1 _ rfl;have q2:=Jm.out.1 2 _ rfl;have q3:=Jm.out.1 3 _ rfl;have r0:=Jm.out.2 0 _ rfl;have r1:=Jm.out.2 1 _ rfl;rcases Zr.out with⟨rfl,rfl⟩|rfl|rfl
    ·have HL:=ah (qF t' _ _ _ _ W8 Jg.out Yx.out.1 Yx.out.2 Jj.out.g Jj.out.f);go_wp2_with fail;refine HL.out.mono ?_;rintro e w9 ⟨rfl,b9⟩;have HF:=ah ((Jj.out.below b9).old);clear b9 z0 z1 q0 q1 q2 q3 r0 r1 HL;go_wp2;go_ret;exact⟨rfl,HF⟩
    ·have HF:=ah (Jj.out.old);go_wp2;go_ret;exact⟨rfl,HF⟩
    ·have HF:=ah (Jj.out.old);go_wp2;go_ret;exact⟨rfl,HF⟩
end Go.Proofs.YtlamjfhhefcohaaGreatDoor
