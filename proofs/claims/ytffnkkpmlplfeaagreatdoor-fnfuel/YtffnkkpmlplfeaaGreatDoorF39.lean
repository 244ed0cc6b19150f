import Derived.Test.YtffnkkpmlplfeaaGreatDoorF38
import Derived.Deep.RegionHeld3
namespace Go.Proofs.YtffnkkpmlplfeaaGreatDoor
open Go.World List
open Go.Proofs.Tryz Go.RowKit
set_option linter.all false
set_option maxRecDepth 100000
set_option maxHeartbeats 0
variable[Inhabited Pick]
section
variable{α:Type}{t:Tr}{sc:List GA}{a:List Nd}{n:Nd}
def wC(l:List α)(j:Nat)(h:j<l.length):l=l.take j++l[j]::l.drop (j+1):=by
 rw[getElem_cons_drop,take_append_drop]
def wD(l r:List α)(j:Nat)(h:j<l.length):l++r=l.take j++l[j]::(l.drop (j+1)++r):=by
 calc l++r=(l.take j++l[j]::l.drop (j+1))++r:=by rw[<-wC l j h]
  _=_:=by rw[append_assoc,cons_append]
def sJ(h:bQ t sc a=0)(I:aS t sc n=0):bQ t sc (a++[n])=0:=by
 rw[exprE_append,if_pos h];simp[bQ,I]
def sK{r:List Nd}(h:bQ t sc a=0)(I:aS t sc n≠0):bQ t sc (a++n::r)=aS t sc n:=by
 rw[exprE_append,if_pos h];simp[bQ,I]
theorem Ez{E:ld}{w:World}{Jl:List (List ByteArray)}{U:List ByteArray}{bi:List Nat}{b:Nat}{v:Value}{bt:Nat}{tk:List ByteArray}{fn st:Int}(h:Cs E w (Jl++[U]) (bi++[b]) v bt tk fn st)(Xl:E.gf=cV E.t.globals)(Xn:E.gp=λs=>decide (0<=globI E.t.globals s))(hp:∀g∈E.t.globals,0<=g.size)(X_:E.t.funcs.length<=1048576)
  (s:St) (ve vf:Value) (he:aw w ve s.e) (hf:aw w vf s.f) (Xm:fP s) (Jy:rO s) (Yc:tk.length<=1000000) (Yd:U.length<=1000000):
  Calls prog 201 #[pV E.C,.agg #[V s.kind,sV s.name,ve,vf,V s.thn,V s.els]] w λe w'=>e=rW (eM (bX E.t (Jl++[U]).flatten tk s) fn st) /\
   (∃xs' tk',Cs E w' (Jl++[xs']) (bi++[b]) v bt tk' fn st/\(bX E.t (Jl++[U]).flatten tk s=0->xs'=be s U/\tk'=be s tk))/\ak (λk=>k=bt∨k=b) w w':=by
 obtain⟨sc,Jp⟩:=q_ ((Jl++[U]).flatten);rw[<-Jp];have Jw:=ah Jp;clear Jp;obtain⟨Y,Xz,Xv,HS,Xf,Jt⟩:=h6 h he hf Xm Jy Xl;have Xe:Hid (∀s,(E.gp s=true)=(0<=globI E.t.globals s)):=λs=>by rw[Xn];simp
 have HP:=ah hp;obtain⟨ae,ce,rfl,-⟩:=he;obtain⟨af,cf,rfl,-⟩:=hf;have Jg:s.name.size<=maxLen:=by have:=Jy.1;unfold maxLen;omega
 clear h Xm Jy hp Xl Xn;go_in;go_wp2_with fail;refine(nL _ _ _ _ _ _ _ _ _ _ _).mono ?_;rintro e w1 ⟨rfl,Jx⟩;simp only[Bl,World.size_alloc]at Jx;have Xg:=ah Jx;clear Jx;go_wp2;go_loopw[13] (λi w2=>∃(m:Nat),m<=2/\i=V m/\bQ E.t sc (gS s m)=0/\Below (w.heap.size+1) (w.alloc (.cells #[V s.kind,sV s.name,.slice ae s.e.length ce,.slice af s.f.length cf,V s.thn,V s.els] 132)) w2) (λi _=>2-(RowKit.intOf i).toNat)
 case atStart=>exact⟨0,y_,rfl,rfl,Xg⟩
 case round=>
  obtain⟨m,hm,rfl,hz,Z⟩:=hrel;have HZ:=ah hz;clear Xg hz;by_cases hm2:m<2
  ·obtain⟨va,I,ca,Ju,Xx,Je,⟨Jc,Jd⟩,Ya,Jj⟩:∃(va:Option Addr) (I:List Nd) (ca:Nat),(∀W,(Instr.index 244 (.agg #[.slice ae s.e.length ce,.slice af s.f.length cf]) (V (m:Int))).run prog W=.ok (.slice va I.length ca) W)/\aw w (.slice va I.length ca) I/\gS s (m+1)=gS s m++I/\(∃Jc,s.e++s.f=gS s m++I++Jc)/\I.length<=1048576/\(∀n∈I,n.name.size<=9223372036854775807):=by
    have Xp:m=0∨m=1:=o_;rcases Xp with rfl|rfl
    ·exact⟨ae,s.e,ce,λW=>Er _ _ W,Xz,by simp[gS],⟨s.f,by simp[gS]⟩,HS.out.1,Xf.out.2.1.2⟩
    ·exact⟨af,s.f,cf,λW=>Eq _ _ W,Xv,by simp[gS],⟨[],by simp[gS]⟩,HS.out.2,Xf.out.2.2.2⟩
   obtain⟨HX,Xi,Xs⟩:=h3 Je Jd Jj;generalize gS s m=mid at HZ HX Xi;obtain⟨_,_,Jz,-,-,Xb⟩:=Xx;simp only[Value.slice.injEq]at Jz;obtain⟨rfl,-,rfl⟩:=Jz;have Xy:=ah Xb;clear Xb Je Jj Jd;have Jo:decide ((m:Int)<2)=true:=by rw[decide_eq_true_iff];omega
   go_wp2;go_loopw[18] (λi w4=>∃(j:Nat),j<=I.length/\i=V j/\bQ E.t sc (mid++I.take j)=0/\Below (w.heap.size+1) (w.alloc (.cells #[V s.kind,sV s.name,.slice ae s.e.length ce,.slice af s.f.length cf,V s.thn,V s.els] 132)) w4) (λi _=>I.length-(RowKit.intOf i).toNat)
   case atStart=>exact⟨0,y_,rfl,by simpa using HZ.out,Z⟩
   case round=>
    clear Ju Z;obtain⟨j,hj,rfl,Xk,Z⟩:=hrel;have Jr:=ah Xk;clear Xk;have J:=ay Z;by_cases hjl:j<I.length
    ·obtain⟨bn,on,rfl,J_⟩:=Xy o_;obtain⟨c0,c1,c2⟩:=(J_.below J) j hjl;have Xd:Hid (I[j].name.size<=maxLen):=by
      have:=Xs.out I[j] (g_ hjl)
      show _<=_;unfold maxLen;omega
     have HT:Hid (mid++I.take (j+1)=mid++I.take j++[I[j]]):=by show _=_;rw[aR I j hjl];simp
     have HL:Hid (s.e++s.f=mid++I.take j++I[j]::(I.drop (j+1)++Jc)):=by
      show _=_;rw[Xi.out,List.append_assoc,wD I Jc j hjl,List.append_assoc]
     clear J_;generalize I[j]=n at c0 c1 c2 Xd HT HL;have Xc:Bl w (wr.alloc (.cells #[V n.kind,V n.val,sV n.name] 134)):=J.alloc J.size _;have Jm:=Z.size;simp only[Bl,World.size_alloc]at Jm;go_wp2_with fail;refine(wt ((Y.out.below Xc).ck Jt) HP X_ n Xd).mono ?_;rintro e w5 ⟨rfl,Jv⟩;simp only[Bl,World.size_alloc]at Jv;rw[<-Jw.out];have Js:Below (w.heap.size+1) (w.alloc (.cells #[V s.kind,sV s.name,.slice ae s.e.length ce,.slice af s.f.length cf,V s.thn,V s.els] 132)) w5:=Z.trans ((ay Jv).mono Jm);clear Jv c0 c1 c2 Xc Z J;by_cases hn:aS E.t sc n=0
     ·have HN:=ah hn;rw[hn,dv];clear hn;go_wp2;go_roundw
      case rel=>exact⟨j+1,o_,by go_num,by rw[HT.out];exact sJ Jr HN,Js⟩
      case measure=>simp[RowKit.intOf];omega
     ·have HN:Hid (bX E.t sc tk s=aS E.t sc n):=by
       have e1:bQ E.t sc (s.e++s.f)=aS E.t sc n:=by rw[HL.out];exact sK Jr hn
       show _=_;rw[lE (by rw[e1];exact hn),e1]
      have Jn:=ah hn;rw[bU hn];generalize aS E.t sc n=z at HN Jn⊢;clear hn;go_wp2;go_ret;exact⟨aG (by rw[HN.out,bU Jn.out];rfl),⟨U,tk,Y.out.below (ay Js),λh=>absurd (HN.out.symm.trans h) Jn⟩,(ay Js).tcs⟩
    ·have HD:Hid (gS s (m+1)=mid++I.take j):=by show _=_;rw[HX.out,List.take_of_length_le o_]
     go_wp2;go_roundw
     case rel=>exact⟨m+1,o_,by go_num,by rw[HD.out];exact Jr,Z⟩
     case measure=>simp[RowKit.intOf];omega
  ·have HQ:Hid (bQ E.t sc (s.e++s.f)=0):=by
    have:=HZ.out
    have Xq:m=2:=o_;subst Xq;exact this
   clear HZ;have J:=ay Z;obtain⟨x0,x1,-⟩:=pi Z;have Jo:decide ((m:Int)<2)=false:=by rw[decide_eq_false_iff_not];omega
   by_cases hk1:s.kind=1
   ·have Jk:=hk1;rw[hk1]at x0;by_cases hx:du tk s.name=true∨0<=globI E.t.globals s.name
    ·have HE:Hid (bX E.t sc tk s=2):=by show _=_;rw[gM HQ.out hk1,if_pos hx]
     have HX:=ah hx;clear hx;go_wp2_with fail;refine(lf (Y.out.below J) Jg (by rw[Xe.out];exact HX)).mono ?_;rintro e w2 ⟨rfl,hw⟩;rw[hw,bU d_];clear hw;go_wp2;go_ret;exact⟨aG (by rw[HE.out];rfl),⟨U,tk,Y.out.below J,λh=>absurd (HE.out.symm.trans h) d_⟩,J.tcs⟩
    ·have HE:Hid (bX E.t sc tk s=0):=by show _=_;rw[gM HQ.out hk1,if_neg hx]
     have HX:=ah hx;clear hx;go_wp2_with fail;refine(lg (Y.out.below J) Jg o_ (by rw[Xe.out];exact HX)).mono ?_;rintro e w2 ⟨rfl,Xa,Xh⟩;obtain⟨Xt,Jq⟩:=h2 Xa Xh;have Xo:w.heap.size≠bt:=by have:=Y.out.lt bt i_;omega
     have Jm:=Z.size;simp only[Bl,World.size_alloc]at Jm;have y1:w2.cell? ⟨w.heap.size,1,none⟩=some (sV s.name):=(c_ (a:=⟨w.heap.size,1,none⟩) (Jq.out.block w.heap.size o_ Xo)).trans x1;have Xw:Hid (w.heap.size<w2.drew.heap.size):=l_ o_ Jq.out.size;have Xr:Hid (¬w.heap.size=b):=by have:=Y.out.lt b i_;show ¬_;omega
     clear Xa Xh x0 x1;go_wp2_with fail;go_region_held3 (λW=>W.cell? ⟨w.heap.size,1,none⟩=some (sV s.name)) (go_simp)
      (first
      | (go_at_call 138;refine(Ey (Xt.out.below (r_.drew)) Jg o_).mono ?_;rintro e w3 ⟨⟨u,rfl⟩,Xu,Xj⟩;have Yb:w3.cell? ⟨w.heap.size,1,none⟩=some (.string s.name):=(c_ (a:=⟨w.heap.size,1,none⟩) (Xj.block w.heap.size Xw Xr)).trans y1))
     go_wp2;go_ret;exact⟨aG (by rw[HE.out];rfl),⟨U++[s.name],tk++[s.name],Xu,λ_=>⟨(kR Jk U).symm,(kR Jk tk).symm⟩⟩,(((J.tcs (S:=λk=>k=bt∨k=b)).trans (Jq.out.mono (λk h=>.inl h))).drew).trans (Xj.mono (λk h=>.inr h))⟩
   by_cases hk2:s.kind=2
   ·have HE:Hid (bX E.t sc tk s=dR E.t.globals sc s.name false):=by
     show _=_;rw[jV HQ.out (.inl hk2)];simp[hk2]
    have HK:=ah hk1;rw[hk2]at x0;clear hk2;go_wp2_with fail;refine(jL ((Y.out.below J).ck Jt) HP s.name Jg false).mono ?_;rintro e w2 ⟨rfl,Ji⟩;rw[<-Jw.out,<-HE.out];have Jh:Bl w w2:=J.trans (Ji.mono J.size);obtain⟨ev,Jf⟩:=q_ (eM (bX E.t sc tk s) fn st);rw[<-Jf];have HV:=ah Jf;clear Jf Ji;go_wp2;go_ret;exact⟨aG HV,⟨U,tk,Y.out.below Jh,λ_=>⟨(ie HK U).symm,(ie HK tk).symm⟩⟩,Jh.tcs⟩
   by_cases hk3:s.kind=3
   ·have HE:Hid (bX E.t sc tk s=dR E.t.globals sc s.name true):=by
     show _=_;rw[jV HQ.out (.inr hk3)];simp[hk3]
    have HK:=ah hk1;rw[hk3]at x0;clear hk3;go_wp2_with fail;refine(jL ((Y.out.below J).ck Jt) HP s.name Jg true).mono ?_;rintro e w2 ⟨rfl,Ji⟩;rw[<-Jw.out,<-HE.out];have Jh:Bl w w2:=J.trans (Ji.mono J.size);obtain⟨ev,Jf⟩:=q_ (eM (bX E.t sc tk s) fn st);rw[<-Jf];have HV:=ah Jf;clear Jf Ji;go_wp2;go_ret;exact⟨aG HV,⟨U,tk,Y.out.below Jh,λ_=>⟨(ie HK U).symm,(ie HK tk).symm⟩⟩,Jh.tcs⟩
   ·have HE:Hid (bX E.t sc tk s=0):=lF HQ hk1 hk2 hk3;have HK:=ah hk1;have b1:(s.kind == 1)=false:=by simpa using hk1
    have b2:(s.kind == 2)=false:=by simpa using hk2
    have b3:(s.kind == 3)=false:=by simpa using hk3
    go_wp2;go_ret;exact⟨aG (by rw[HE.out];rfl),⟨U,tk,Y.out.below J,λ_=>⟨(ie HK U).symm,(ie HK tk).symm⟩⟩,J.tcs⟩
end
structure Bd (E:ld) (vb:BY) (ss:List St):Prop where
 st:aW E.w0 vb ss
 fit:cM ss=true
 sm:∀s∈ss,fP s
 wf:∀s∈ss,rO s
def Dq(n:Nat):Prop:=∀(E:ld) (w:AT) (bsn:List (List GA)) (bi:List Nat) (v:BY) (bt:Nat) (tk:List GA) (fn st:Int) (ss:List St) (vb:BY) (a:Int),ss.length<=n->Cs E w bsn bi v bt tk fn st->Bd E vb ss->E.gf=cV E.t.globals->E.gp=(λs=>decide (0<=globI E.t.globals s))->(∀g∈E.t.globals,0<=g.size)->E.t.funcs.length<=1048576 ->
 bi.length+ss.length<=800000->tk.length+ss.length<=800000->0<=a->a+ss.length<=800000 ->
 Calls prog 174 #[pV E.C,vb,V a] w λe w'=>e=rW (eM (aQ E.t ss a bsn.flatten tk).1 fn (aQ E.t ss a bsn.flatten tk).2.1) /\
  (∃v' tk' st',Cs E w' bsn bi v' bt tk' fn st'/\((aQ E.t ss a bsn.flatten tk).1=0->tk'=(aQ E.t ss a bsn.flatten tk).2.2)/\(∀k,v'.ownBlock=some k->v.ownBlock=some k∨w.heap.size<=k))/\ak (Sb E v bt) w w'
def lh{E:ld}{v I:BY}{J N:Nat}(h:∀k,I.ownBlock=some k->v.ownBlock=some k∨N<=k):∀x,Sb E I J x->Sb E v J x∨N<=x:=by
 intro x U;rcases U with h1|h1|h1
 ·exact .inl (.inl h1)
 ·exact .inl (.inr (.inl h1))
 ·rcases h x h1 with h2|h2
  ·exact .inl (.inr (.inr h2))
  ·exact .inr h2
def ak.cell{S:D6}{W w':AT}(h:ak S W w'){M:Nat}(hM:M<W.heap.size)(hn:¬S M)(o:Nat):w'.cell? ⟨M,o,none⟩=W.cell? ⟨M,o,none⟩:=c_ (a:=⟨M,o,none⟩) (h.block M hM hn)
def sL{α:Type}(l:List α)(i j:Nat):(l.take (i+j)).drop i=(l.drop i).take j:=by
 rw[drop_take];congr 1;omega
theorem Ds(n:Nat):Dq n:=by
 induction n with
 | zero=>
  intro E w Je bi v bt tk fn st ss vb a hn Jb Jd Xw Xs hp Xa Yg Xu ha Xr;obtain rfl:ss=[]:=List.eq_nil_of_length_eq_zero o_;obtain⟨ab,cb,rfl,-⟩:=Jd.st;have Xg:=ah Jb;have U:Hid (aQ E.t [] a Je.flatten tk=(0,0,tk)):=fm _ _ _ _;clear Jb Jd;simp only[l_n]at*;go_enter_defers func174,ntmps174;go_wp2_with fail;refine(zE Xg.out o_).mono ?_;rintro e w1 ⟨⟨u,rfl⟩,v1,Jo,Xc,Xd⟩;have Jz:=ah Jo;clear Jo;go_wp2_with fail;refine wp_loop_rounds 1 ?_;rw[rounds_succ];go_wp2_with fail;refine leaves_cons (f:=173) (args:=#[pV E.C]) i_ (by simp[go_sem]) ?_;refine(ji Jz.out .returning).mono ?_;rintro e u' Xe ⟨rfl,⟨u2,rfl⟩,v2,Jf,Z,Jh⟩;exact⟨_,results_tmp rfl _ _ _,aG (by rw[U.out];rfl),⟨v2,tk,st,Jf,λ_=>by rw[U.out],λk hk=>Xd k (Jh ▸ hk)⟩,Xc.trans (Z.mono (λk h=>.inl h))⟩
 | succ n ih=>
 intro E w Je bi v bt tk fn st ss vb a hn Jb Jd Xw Xs hp Xa Yg Xu ha Xr;have IH:=ah ih;have Xg:=ah Jb;have Xv:=ah Xw;have Xt:=ah Xs;have HP:=ah hp;have Ze:=ah Jd;obtain⟨Jk,Jm⟩:=q_ (aQ E.t ss a Je.flatten tk);rw[<-Jm];have Ja:=ah Jm;obtain⟨ab,cb,rfl,-⟩:=Jd.st;clear Jb Jd Xw Xs hp ih Jm;go_enter_defers func174,ntmps174;go_wp2_with fail;refine(zE Xg.out o_).mono ?_;rintro e w1 ⟨⟨u,rfl⟩,v1,Jo,Xc,Xd⟩;obtain⟨b,hb⟩:=q_ w.heap.size;rw[<-hb]at Jo;have Jz:=ah Jo;have Yz:=ah Xc;have Yf:=ah Xd;clear Jo Xc Xd;go_wp2;go_loopw[1,2] (λvb2 a2 wr=>∃(q:List St) (z:Int) (xs tk':List ByteArray) (v':Value) (st':Int),a2=V z/\Bd E vb2 q/\Cs E wr (Je++[xs]) (bi++[b]) v' bt tk' fn st'/\Jk=aQ E.t q z (Je++[xs]).flatten tk'/\q.length<=ss.length/\xs.length+q.length<=800000/\tk'.length+q.length<=800000/\0<=z/\z+q.length<=800000/\ak (Sb E v bt) w wr/\(∀k,v'.ownBlock=some k->v.ownBlock=some k∨w.heap.size<=k)) (λvb2 _ _=>lenOf vb2)
 case atStart=>exact⟨ss,a,[],tk,v1,st,rfl,Ze,Jz,by rw[xW];exact Ja,n_,by simp;omega,Xu,ha,Xr,Yz,Yf⟩
 case round=>
  clear Jz Yz Yf Ze Ja Xg;obtain⟨q,z,xs,tk1,v1,Zq,rfl,Jd,Jb,Ji,Zy,Zp,Zk,Yl,Vb,ht,ho⟩:=hrel;have HC:=ah Jb;have HT:=ah ht;have HO:=ah ho;clear ht ho;cases q with
  | nil=>
   have U:Hid (Jk=(0,0,tk1)):=Ji.trans (fm _ _ _ _);obtain⟨a2,c2,rfl,-⟩:=Jd.st;clear Ji Jb Jd;simp only[l_n];go_wp2_with fail;refine leaves_cons (f:=173) (args:=#[pV E.C]) i_ (by simp[go_sem]) ?_;refine(ji HC.out .returning).mono ?_;rintro e u' Xe ⟨rfl,⟨u2,rfl⟩,v2,Jf,Z,Jh⟩;exact⟨_,results_tmp rfl _ _ _,aG (by rw[U.out];rfl),⟨v2,tk1,Zq,Jf,λ_=>by rw[U.out],λk hk=>HO.out k (Jh ▸ hk)⟩,HT.out.trans (Z.mono (λk h=>.inl h))⟩
  | cons s r=>
   have Ja:=ah Ji;have Xf:Hid (∀x∈s::r,fP x):=Jd.sm;have Jy:Hid (∀x∈s::r,rO x):=Jd.wf;have Js:=Jd.fit;rw[fitB_cons,Bool.and_eq_true,Bool.and_eq_true,Bool.and_eq_true,decide_eq_true_iff]at Js;obtain⟨⟨p1,p2,p3,p4⟩,Zg,Yu,Yn⟩:=Js;obtain⟨a2,Jv,rfl,Zh,Yw,hc⟩:=Jd.st;obtain⟨b0,off,rfl,hs⟩:=hc i_;have Jq:aW E.w0 (.slice (some ⟨b0,off,none⟩) (s::r).length Jv) (s::r):=⟨_,_,rfl,Zh,Yw,λ_=>⟨b0,off,rfl,hs⟩⟩;have Jj:aW E.w0 (.slice (if Jv=1 then some ⟨b0,off,none⟩else some ⟨b0,off+6,none⟩) r.length (Jv-1)) r:=by
    have:=Jq.cut 1 (s::r).length i_ n_
    simpa[Addr.add]using this
   obtain⟨Zt,Va,⟨d0,-,d2,d3,-,-⟩,Xj,Xy⟩:=hs 0 i_;have Jw:b0<E.w0.heap.size:=b_ d0;obtain⟨ve,vf,⟨g0,g1,g2,g3,g4,g5⟩,⟨c0,c1,c2,c3,c4,c5⟩,he,hf⟩:=(hs.below Jb.base).up 0 i_;simp only[Nat.zero_mul,Nat.add_zero,List.getElem_cons_zero]at c0 c1 c2 c3 c4 c5 g0 g1 g2 g3 g4 g5 he hf;simp only[Nat.zero_mul,Nat.add_zero,List.getElem_cons_zero]at d0 d2 d3 Xj Xy;obtain rfl:ve=Zt:=Option.some.inj (c2.symm.trans ((Jb.base.cell (p:=⟨b0,off+2,none⟩) Jw).trans d2));obtain rfl:vf=Va:=Option.some.inj (c3.symm.trans ((Jb.base.cell (p:=⟨b0,off+3,none⟩) Jw).trans d3));clear d0 d2 d3;simp only[l_c]at*;have HR:=ah Jj;have h1:(1:Int)<=(r.length:Int)+1:=o_;have Zw:=ah Xj;have Zs:=ah Xy;have hC:E.C<wr.heap.size:=Jb.ltC;have y6:=Jb.box.c6;have f6:=Jb.box.fz 6;have Yh:=ah Zg;have Zc:=ah Yu;have Zd:=ah Yn;obtain⟨a3,k3,rfl,-⟩:=he;obtain⟨a4,k4,rfl,-⟩:=hf;clear hs hc Jq Jj Zg Yu Yn Jb Jd Ji Xj Xy;go_wp2_with fail;go_region;generalize (if Jv=1 then some ({block:=b0,off:=off,spot:=none}:Addr)else some {block:=b0,off:=off+6,spot:=none})=a1 at HR⊢;generalize hk1:Jv-1=k1 at HR⊢;have Zz:r.length<=k1:=o_;have Zu:k1<=9223372036854775807:=o_;clear hk1 c0 c1 c2 c3 c4 c5 g0 g1 g2 g3 g4 g5 h1;go_wp2_with fail;obtain⟨W6,Jn⟩:=q_ (((wr.setCell ⟨E.C,6,none⟩ (V z)).alloc (.cells #[V s.kind,sV s.name,.slice a3 s.e.length k3,.slice a4 s.f.length k4,V s.thn,V s.els] 132)).drew);obtain⟨M,hM⟩:=q_ wr.heap.size;have Xp:Below (wr.setCell ⟨E.C,6,none⟩ (V z)).heap.size (wr.setCell ⟨E.C,6,none⟩ (V z)) W6:=by rw[Jn];exact(au _ _).drew
   have Xq:Hid (Cs E W6 (Je++[xs]) (bi++[b]) v1 bt tk1 fn z):=(HC.out.stmt z).below Xp;have Vh:Hid (ak (Sb E v1 bt) wr W6):=((ak.refl (Sb E v1 bt) wr).setCell (p:=⟨E.C,6,none⟩) (.inl rfl) _).of_below Xp;have m4:W6.cell? ⟨M,4,none⟩=some (V s.thn):=by rw[Jn];exact(World.cell?_alloc_at _ _ _ _ (by simp[hM])).trans rfl
   have m5:W6.cell? ⟨M,5,none⟩=some (V s.els):=by rw[Jn];exact(World.cell?_alloc_at _ _ _ _ (by simp[hM])).trans rfl
   have Xi:M<W6.heap.size:=by rw[Jn,hM];simp
   have Z_:Hid (¬Sb E v1 bt M):=by
    show ¬_;rintro(h|h|h)
    ·omega
    ·have:=HC.out.lt bt i_;omega
    ·have:=(HC.out.rlt _ h).2;omega
   have Yk:M≠b:=by have:=HC.out.lt b i_;omega
   have Y_:M≠bt:=by have:=HC.out.lt bt i_;omega
   rw[<-Jn,<-hM];have Vq:Hid (w.heap.size<=M):=by have:=HT.out.size;show _<=_;omega
   clear Jn Xp y6 f6 hM;refine(Ez Xq.out Xv.out Xt.out HP.out Xa s _ _ (Zw.out.below Xq.out.base) (Zs.out.below Xq.out.base) (Xf.out s i_) (Jy.out s i_) o_ o_).mono ?_;rintro e w2 ⟨rfl,⟨Vm,tk2,Jf,Jg⟩,Z⟩;have Ys:=ah Jf;have Xm:Hid (ak (Sb E v bt) w w2):=(HT.out.next Vh.out (lh HO)).next Z (λx hx=>by
    rcases hx with h|h
    ·exact .inl (.inr (.inl h))
    ·exact .inr o_)
   have n4:w2.cell? ⟨M,4,none⟩=some (V s.thn):=(Z.cell Xi (by rintro(h|h);exact Y_ h;exact Yk h) 4).trans m4;have n5:w2.cell? ⟨M,5,none⟩=some (V s.els):=(Z.cell Xi (by rintro(h|h);exact Y_ h;exact Yk h) 5).trans m5;have X_:M<w2.heap.size:=l_ Xi Z.size;obtain⟨SC,Xo⟩:=q_ ((Je++[xs]).flatten);rw[<-Xo]at Jg Ja⊢;have Vf:=ah Xo;clear m4 m5 Xi Jf Z Xo;by_cases hE:bX E.t SC tk1 s=0
   ·obtain⟨rfl,rfl⟩:=Jg hE;have U:=ah hE;rw[hE,dv];clear hE Jg;obtain⟨I,Xl⟩:=Int.eq_ofNat_of_zero_le (show 0<=s.thn by omega);obtain⟨J,Yd⟩:=Int.eq_ofNat_of_zero_le (show 0<=s.els by omega);rw[Xl]at n4 p2 p4;rw[Yd]at n5 p4;have Jl:Hid (s.thn.toNat=I/\s.els.toNat=J):=⟨o_,o_⟩;have Yj:I<=r.length:=o_
    have Vg:I+J<=r.length:=o_;rw[Jl.out.1]at Yh;rw[Jl.out.1,Jl.out.2]at Zc Zd;have Xk:Hid ((Je++[be s xs]).flatten=be s SC):=by show _=_;rw[xV,Vf.out]
    have Vd:=jt s tk1;have Zi:=jt s xs;go_wp2_with fail;refine(IH.out E w2 (Je++[be s xs]) (bi++[b]) v1 bt (be s tk1) fn z (r.take I) (.slice a1 I k1) (z+1) (by simp;omega) Ys.out ⟨HR.out.head I Yj,Yh,λx hx=>Xf.out x (by simp[List.mem_of_mem_take hx]),λx hx=>Jy.out x (by simp[List.mem_of_mem_take hx])⟩ Xv.out Xt.out HP.out Xa (by simp;omega) (by simp;omega) o_ (by simp;omega)).mono ?_;rintro e w3 ⟨rfl,⟨v3,Zv,Ym,Yv,Jx,Xx⟩,Ju⟩;rw[Xk.out]at Jx⊢;have Yq:=ah Yv;have Yc:=Xm.out.size;have Jp:=Z_.out;have q4:w3.cell? ⟨M,4,none⟩=some (V I):=(Ju.cell X_ Jp 4).trans n4;have q5:w3.cell? ⟨M,5,none⟩=some (V J):=(Ju.cell X_ Jp 5).trans n5;have Yo:M<w3.heap.size:=l_ X_ Ju.size;have Ya:Hid (ak (Sb E v bt) w w3):=Xm.out.next Ju (lh HO);have Xz:Hid (∀k,v3.ownBlock=some k->v.ownBlock=some k∨w.heap.size<=k):=λk hk=>by
     rcases Xx k hk with h|h
     ·exact HO.out k h
     ·exact .inr o_
    have Jt:Hid (¬Sb E v3 bt M):=by
     show ¬_;rintro(h|h|h)
     ·exact Jp (.inl h)
     ·exact Jp (.inr (.inl h))
     ·rcases Xx M h with h2|h2
      ·exact Jp (.inr (.inr h2))
      ·omega
    clear Yv Ju Xx n4 n5 Jp Yc;obtain⟨X,hX⟩:=q_ (aQ E.t (r.take I) (z+1) (be s SC) (be s tk1));rw[<-hX]at Jx⊢;have HX:Hid (X=aQ E.t (r.take s.thn.toNat) (z+1) (be s SC) (be s tk1)):=by show _=_;rw[Jl.out.1];exact hX
    have Zm:X.2.2.length<=(be s tk1).length+I:=by
     have:=ju E.t _ (r.take I) (z+1) (be s SC) (be s tk1) n_
     rw[<-hX]at this;simp at this;omega
    clear hX;by_cases hX1:X.1=0
    ·have Jr:=ah hX1;obtain rfl:=Jx hX1;rw[hX1,dv];clear hX1 Jx;obtain⟨a5,k5,Vn,Yp⟩:∃a5 k5,(∀w:World,(Instr.slice 95 (.slice a1 r.length k1) (some (V I)) (some (V ((I:Int)+(J:Int)))) none).run prog w=.ok (.slice a5 J k5) w)/\aW E.w0 (.slice a5 J k5) ((r.take (I+J)).drop I):=by
      have h:=pj a1 r.length k1 I (I+J) o_ o_ o_;have h':=HR.out.cut I (I+J) o_ o_;rw[show I+J-I=J by omega]at h h';exact⟨_,_,h,h'⟩
     have Zo:=ah Yp;clear Yp;have Yy:Hid (((r.take (I+J)).drop I).length=J):=by show _=_;simp;omega
     have Zl:=ah (Yq.out.below (r_.drew));have Vc:Hid (Calls prog 174 #[pV E.C,.slice a5 J k5,V (z+1+I)] w3.drew λe w'=>e=rW (eM (aQ E.t ((r.take (I+J)).drop I) (z+1+I) (be s SC) X.2.2).1 fn (aQ E.t ((r.take (I+J)).drop I) (z+1+I) (be s SC) X.2.2).2.1) /\
  (∃v' tk' st',Cs E w' (Je++[be s xs]) (bi++[b]) v' bt tk' fn st'/\((aQ E.t ((r.take (I+J)).drop I) (z+1+I) (be s SC) X.2.2).1=0->tk'=(aQ E.t ((r.take (I+J)).drop I) (z+1+I) (be s SC) X.2.2).2.2)/\(∀k,v'.ownBlock=some k->v3.ownBlock=some k∨w3.drew.heap.size<=k))/\ak (Sb E v3 bt) w3.drew w'):=by
      have hl:=Yy.out;have:=IH.out E w3.drew (Je++[be s xs]) (bi++[b]) v3 bt X.2.2 fn Ym ((r.take (I+J)).drop I) (.slice a5 J k5) (z+1+I) o_ Zl.out ⟨Zo.out,Zc.out,λx hx=>Xf.out x (by simp[List.mem_of_mem_take (List.mem_of_mem_drop hx)]),λx hx=>Jy.out x (by simp[List.mem_of_mem_take (List.mem_of_mem_drop hx)])⟩ Xv.out Xt.out HP.out Xa (by simp only[l_a,l_c,l_n];omega) o_ o_ o_;rw[Xk.out]at this;exact this
     have Vk:IntKind.i64.wrap (z+1)=z+1:=by simp[IntKind.wrap,IntKind.bits,IntKind.signed];omega
     have Yc:IntKind.i64.wrap (z+1+(I:Int))=z+1+(I:Int):=by simp[IntKind.wrap,IntKind.bits,IntKind.signed];omega
     have Vr:IntKind.i64.wrap ((I:Int)+(J:Int))=(I:Int)+(J:Int):=by simp[IntKind.wrap,IntKind.bits,IntKind.signed];omega
     have Yx:Hid (0<=z/\z+1+r.length<=800000/\X.2.2.length+J+(r.length-(I+J))<=800000/\(be s xs).length+(r.length-(I+J))<=800000/\r.length+1<=ss.length):=⟨Yl,o_,o_,o_,o_⟩;clear Vd Zi Zm Yj p1 p2 p3 p4 Zh Yw Zy Zp Zk Yl Vb Yg Xu Xr ha hn;go_wp2_with fail;go_region_held3 (λW=>W.cell? ⟨M,4,none⟩=some (V I)) (go_simp)
      (first
      | ((with_reducible refine Calls.mono Vc.out ?_);rintro e w4 ⟨rfl,⟨v4,Zj,Yb,Yr,J_,Za⟩,Xh⟩;have Vo:w4.cell? ⟨M,4,none⟩=some (.int .i64 I):=(Xh.cell Yo Jt.out 4).trans q4))
     have Yi:=ah Yr;have Vi:w4.cell? ⟨M,5,none⟩=some (V J):=(Xh.cell Yo Jt.out 5).trans q5;have Zf:Hid (ak (Sb E v bt) w w4):=(Ya.out.drew).next Xh (lh Xz);have Zr:w.heap.size<=w3.heap.size:=Ya.out.size;have Yt:Hid (∀k,v4.ownBlock=some k->v.ownBlock=some k∨w.heap.size<=k):=λk hk=>by
      rcases Za k hk with h|h
      ·exact Xz.out k h
      ·exact .inr (t_ Zr h)
     clear Yr Xh Za q4 q5;obtain⟨Y,hY⟩:=q_ (aQ E.t ((r.take (I+J)).drop I) (z+1+I) (be s SC) X.2.2);rw[<-hY]at J_⊢;have Zx:Hid (Y.2.2.length<=X.2.2.length+J):=by
      have h1:=ju E.t _ ((r.take (I+J)).drop I) (z+1+I) (be s SC) X.2.2 n_;rw[<-hY,Yy.out]at h1;exact h1
     have HY:Hid (Y=aQ E.t ((r.drop s.thn.toNat).take s.els.toNat) (z+1+s.thn) (be s SC) X.2.2):=by show _=_;rw[Jl.out.1,Jl.out.2,Xl,<-sL];exact hY
     clear hY;by_cases hY1:Y.1=0
     ·have Xb:=ah hY1;obtain rfl:=J_ hY1;rw[hY1,dv];clear hY1 J_;obtain⟨a6,k6,Vl,Ye⟩:∃a6 k6,(∀w:World,(Instr.slice 95 (.slice a1 r.length k1) (some (V ((I:Int)+(J:Int)))) none none).run prog w=.ok (.slice a6 (r.length-(I+J)) k6) w)/\aW E.w0 (.slice a6 (r.length-(I+J)) k6) (r.drop (I+J)):=by
       have h:=nK a1 r.length k1 (I+J) o_ o_ ((I:Int)+(J:Int)) o_;have h':=HR.out.cut (I+J) r.length o_ o_;rw[List.take_length]at h';exact⟨_,_,h,h'⟩
      have Zn:=ah Ye;have Ve:Hid (Jk=aQ E.t (r.drop (I+J)) (z+1+I+J) (Je++[be s xs]).flatten Y.2.2):=by
       have h1:=gq (r:=r) (a:=z) (tk1:=X.2.2) (tk2:=Y.2.2) U.out (by rw[<-HX.out];exact Jr) (by rw[<-HX.out]) (by rw[<-HY.out];exact Xb) (by rw[<-HY.out]);rw[Jl.out.1,Jl.out.2,Xl,Yd]at h1;show _=_;rw[Xk.out,Ja.out,h1]
      clear Ye;have Vj:IntKind.i64.wrap (z+1+((I:Int)+(J:Int)))=z+1+((I:Int)+(J:Int)):=by have:=Yx.out;simp[IntKind.wrap,IntKind.bits,IntKind.signed];omega
      go_wp2;go_roundw
      case rel=>
       have hb:=Yx.out;have Vp:=Zx.out;exact⟨r.drop (I+J),z+1+I+J,be s xs,Y.2.2,v4,Yb,by simp;omega,⟨Zn,Zd,λx hx=>Xf.out x (by simp[List.mem_of_mem_drop hx]),λx hx=>Jy.out x (by simp[List.mem_of_mem_drop hx])⟩,Yi,Ve,by simp;omega,by simp;omega,by simp;omega,o_,by simp;omega,Zf,Yt⟩
      case measure=>simp[lenOf];omega
     ·have Zb:Hid (Jk=Y):=by
       have h3:=gm (r:=r) (a:=z) (tk1:=X.2.2) U.out (by rw[<-HX.out];exact Jr) (by rw[<-HX.out]) (by rw[<-HY.out];exact hY1);show Jk=Y;rw[Ja.out,h3,<-HY.out]
      have Xb:=ah hY1;rw[bU hY1];clear hY1 J_ Vi;go_wp2_with fail;refine leaves_cons (f:=173) (args:=#[pV E.C]) i_ (by simp[go_sem]) ?_;refine(ji Yi.out .returning).mono ?_;rintro e u' Xe ⟨rfl,⟨u2,rfl⟩,v2,Jf,Z,Jh⟩;exact⟨_,results_tmp rfl _ _ _,aG (by rw[Zb.out,bU Xb.out];rfl),⟨v2,Zj,Yb,Jf,λh=>absurd h (by rw[Zb.out];exact Xb),λk hk=>Yt.out k (Jh ▸ hk)⟩,Zf.out.trans (Z.mono (λk h=>.inl h))⟩
    ·have U:Hid (Jk=X):=by
      have h1:=Ja.out;have h2:=HX.out;have h3:=gj (r:=r) (a:=z) U.out (by rw[<-h2];exact hX1);show Jk=X;rw[h1,h3,<-h2]
     have Jr:=ah hX1;rw[bU hX1];clear hX1 Jx q4 q5;go_wp2_with fail;refine leaves_cons (f:=173) (args:=#[pV E.C]) i_ (by simp[go_sem]) ?_;refine(ji Yq.out .returning).mono ?_;rintro e u' Xe ⟨rfl,⟨u2,rfl⟩,v2,Jf,Z,Jh⟩;exact⟨_,results_tmp rfl _ _ _,aG (by rw[U.out,bU Jr.out];rfl),⟨v2,Zv,Ym,Jf,λh=>absurd h (by rw[U.out];exact Jr),λk hk=>Xz.out k (Jh ▸ hk)⟩,Ya.out.trans (Z.mono (λk h=>.inl h))⟩
   ·have U:Hid (Jk=(bX E.t SC tk1 s,z,tk1)):=Ja.out.trans (fQ hE);have Xn:=ah hE;rw[bU hE];generalize bX E.t SC tk1 s=zz at U Xn⊢;clear hE Jg n4 n5;go_wp2_with fail;refine leaves_cons (f:=173) (args:=#[pV E.C]) i_ (by simp[go_sem]) ?_;refine(ji Ys.out .returning).mono ?_;rintro e u' Xe ⟨rfl,⟨u2,rfl⟩,v2,Jf,Z,Jh⟩;exact⟨_,results_tmp rfl _ _ _,aG (by rw[U.out,bU Xn.out];rfl),⟨v2,tk2,z,Jf,λh=>absurd h (by rw[U.out];exact Xn),λk hk=>HO.out k (Jh ▸ hk)⟩,Xm.out.trans (Z.mono (λk h=>.inl h))⟩
theorem wE{E:ld}{w:World}{v:Value}{I:Nat}{i:Nat}(h:Cs E w [] [] v I [] (i:Int) (-1))(Xc:E.gf=cV E.t.globals)(Ju:E.gp=λs=>decide (0<=globI E.t.globals s))(hp:∀g∈E.t.globals,0<=g.size)(Yc:E.t.funcs.length<=1048576)
  (f:Fu) (vp vb:Value) (Yb:a_ E.w0 vp f.params) (Jv:Bd E vb f.body) (Xd:∀s∈f.params,s.size<=9223372036854775807) (Yi:f.params.length<=1000) (Yh:f.body.length<=1000):
  Calls prog 140 #[pV E.C,.agg #[sV f.name,vp,vb]] w λe w'=>e=rW (eM (cZ E.t i f).1 (i:Int) (cZ E.t i f).2.2) /\
   (∃v' tk' st',Cs E w' [] [] v' I tk' (i:Int) st'/\(∀k,v'.ownBlock=some k->v.ownBlock=some k∨w.heap.size<=k))/\ak (Sb E v I) w w':=by
 obtain⟨Xv,Xu,Xq⟩:=h3 h Xc Ju;have Jx:Hid (∀s,(E.gp s=true)=(0<=globI E.t.globals s)):=λs=>by rw[Ju];simp
 obtain⟨HP,Xz,Xn⟩:=h3 hp Jv Xd;obtain⟨Jf,Jb⟩:=q_ (cZ E.t i f);rw[<-Jb];have Je:=ah Jb;obtain⟨ab,cb,rfl,-⟩:=Jv.st;obtain⟨ap,cp,rfl,-,-,J_⟩:=Yb;have Xp:=ah J_;obtain⟨W0,Jg⟩:=q_ (w.alloc (.cells #[sV f.name,.slice ap f.params.length cp,.slice ab f.body.length cb] 97));obtain⟨M,hM⟩:=q_ w.heap.size;have hA:Bl w W0:=by rw[Jg];exact r_.alloc n_ _
 have Xa:Hid (Cs E W0 [] [] v I [] (i:Int) (-1)):=h.below hA;have m1:W0.cell? ⟨M,1,none⟩=some (.slice ap f.params.length cp):=by rw[Jg,hM];simp
 have m2:W0.cell? ⟨M,2,none⟩=some (.slice ab f.body.length cb):=by rw[Jg,hM];simp
 have Jp:M<W0.heap.size:=by rw[Jg,hM];simp
 have Xb:Hid (¬Sb E v I M):=by
  show ¬_;rintro(q|q|q)
  ·have:=h.ltC;omega
  ·have:=h.lt I i_;omega
  ·have:=(h.rlt _ q).2;omega
 have Xt:M≠I:=by have:=h.lt I i_;omega
 have Jy:Hid (ak (Sb E v I) w W0):=hA.tcs;have Yf:w.heap.size<=W0.heap.size:=hA.size;clear h Jv Xc Ju hp Jb J_ Xd hA Xv;go_enter_defers func140,ntmps140;go_wp2_with fail;rw[<-Jg,<-hM];refine(zE Xa i_).mono ?_;rintro e w1 ⟨⟨u,rfl⟩,Z,Jt,Jh,Jz⟩;obtain⟨b,hb⟩:=q_ W0.heap.size;rw[<-hb]at Jt;have Xi:=ah Jt;have Xs:Hid (ak (Sb E v I) w w1):=Jy.out.next Jh (λx hx=>.inl hx);have Jm:Hid (∀k,Z.ownBlock=some k->v.ownBlock=some k∨w.heap.size<=k):=λk J=>by
  rcases Jz k J with q|q
  ·exact .inl q
  ·exact .inr o_
 have n1:w1.cell? ⟨M,1,none⟩=some (.slice ap f.params.length cp):=(Jh.cell Jp Xb 1).trans m1;have n2:w1.cell? ⟨M,2,none⟩=some (.slice ab f.body.length cb):=(Jh.cell Jp Xb 2).trans m2;have Ji:M<w1.heap.size:=l_ Jp Jh.size;have Xh:M≠b:=o_;have Yd:w.heap.size<=b:=o_;clear Jt Jh Jz m1 m2 hM Jy Xa hb;go_wp2;go_loopw[18] (λj wr=>∃(k:Nat),k<=f.params.length/\j=V k/\Cs E wr ([]++[f.params.take k]) ([]++[b]) Z I (f.params.take k) (i:Int) (-1)/\fD E.t.globals [] f.params=fD E.t.globals (f.params.take k) (f.params.drop k)/\wr.cell? ⟨M,2,none⟩=some (.slice ab f.body.length cb)/\M<wr.heap.size/\ak (Sb E v I) w wr) (λj _=>f.params.length-(RowKit.intOf j).toNat)
 case atStart=>exact⟨0,y_,rfl,by simpa using Xi.out,i_,n2,Ji,Xs.out⟩
 case round=>
  obtain⟨k,J,rfl,hc,hd,n2,Ji,ht⟩:=hrel;obtain⟨HC,HD,HT⟩:=h3 hc hd ht;clear hd ht;by_cases hlt:k<f.params.length
  ·obtain⟨bp,op,rfl,Jw⟩:=Xp o_;have d0:=(hc.base.cell (p:=⟨bp,op+k,none⟩) (b_ (Jw k hlt))).trans (Jw k hlt);have hZ:f.params[k].size<=maxLen:=by have:=Xn.out _ (g_ hlt);unfold maxLen;omega
   have Jl:Hid (fD E.t.globals [] f.params=fD E.t.globals (f.params.take k) (f.params[k]::f.params.drop (k+1))):=by show _=_;rw[HD.out,dC _ _ hlt]
   have Jo:=ah (aR _ _ hlt);have Yg:(f.params.take k).length<=1000:=by simp;omega
   generalize f.params[k]=p at d0 hZ Jl Jo;by_cases hx:du (f.params.take k) p=true∨0<=globI E.t.globals p
   ·have HE:Hid (Jf=(2,(i:Int),-1)):=by
     show _=_;rw[Je.out];unfold cZ;rw[if_pos (by rw[Jl.out];exact lG hx)]
    have HX:Hid (du (f.params.take k) p=true∨E.gp p=true):=by
     show _∨_;rw[Jx.out];exact hx
    clear hx;go_wp2_with fail;refine(lf HC hZ HX).mono ?_;rintro e w2 ⟨rfl,hw⟩;rw[hw,bU d_];go_wp2_with fail;refine leaves_cons (f:=173) (args:=#[pV E.C]) i_ (by simp[go_sem]) ?_;refine(ji HC .returning).mono ?_;rintro e u' Xr ⟨rfl,⟨u2,rfl⟩,v2,Y,U,Jj⟩;exact⟨_,results_tmp rfl _ _ _,aG (by rw[HE.out];rfl),⟨v2,_,_,Y,λk J=>Jm k (Jj ▸ J)⟩,HT.out.trans (U.mono (λk h=>.inl h))⟩
   ·have HX:Hid (¬(du (f.params.take k) p=true∨E.gp p=true)):=by
     show ¬(_∨_);rw[Jx.out];exact hx
    have Xm:Hid (fD E.t.globals [] f.params=fD E.t.globals (f.params.take (k+1)) (f.params.drop (k+1))):=by show _=_;rw[Jl.out,nh hx,Jo.out]
    clear hx;go_wp2_with fail;refine(lg HC hZ o_ HX).mono ?_;rintro e w2 ⟨rfl,Y,U⟩;have Jq:Hid (Cs E w2 ([]++[f.params.take k]) ([]++[b]) Z I (f.params.take k++[p]) (i:Int) (-1)):=Y;have x2:w2.cell? ⟨M,2,none⟩=some (.slice ab f.body.length cb):=(U.cell Ji Xt 2).trans n2;have Js:M<w2.heap.size:=l_ Ji U.size;have Jn:Hid (ak (Sb E v I) w w2):=HT.out.trans (U.mono (λk h=>.inr (.inl h)));go_wp2_with fail;refine(Ey Jq hZ o_).mono ?_;rintro e w3 ⟨⟨u3,rfl⟩,Jk,Jd⟩;have Xl:Hid (Cs E w3 ([]++[f.params.take (k+1)]) ([]++[b]) Z I (f.params.take (k+1)) (i:Int) (-1)):=by
     have:=Jk
     rw[<-Jo.out]at this;exact this
    have x3:w3.cell? ⟨M,2,none⟩=some (.slice ab f.body.length cb):=(Jd.cell Js Xh 2).trans x2;have Xj:M<w3.heap.size:=l_ Js Jd.size;have Ya:Hid (ak (Sb E v I) w w3):=Jn.out.next Jd (λx hx=>.inr o_);clear Jk Jd x2 Js;go_wp2;go_roundw
    case rel=>exact⟨k+1,o_,by go_num,Xl,Xm,x3,Xj,Ya⟩
    case measure=>simp[RowKit.intOf];omega
  ·have Xe:k=f.params.length:=o_
   subst Xe;have Xf:Hid (fD E.t.globals [] f.params=false):=by show _=_;rw[HD.out];simp[xX]
   have Xx:Hid (Cs E wr [f.params] [b] Z I f.params (i:Int) (-1)):=by
    have:=HC.out
    rw[List.take_length]at this;exact this
   have X_:Hid ([f.params].flatten=f.params):=by show _=_;simp
   go_wp2_with fail;refine(Ds _ E wr [f.params] [b] Z I f.params (i:Int) (-1) f.body _ 0 n_ Xx Xz Xu Xq HP Yc (by simp;omega) o_ o_ o_).mono ?_;rintro e w2 ⟨rfl,⟨v2,Xy,Xo,Y,Xg,Jj⟩,U⟩;rw[X_.out];have Jq:Hid (Cs E w2 ([]++[f.params]) ([]++[b]) v2 I Xy (i:Int) Xo):=Y;have Jn:Hid (ak (Sb E v I) w w2):=HT.out.next U (lh Jm);have Ye:=HT.out.size;have Xk:Hid (∀k,v2.ownBlock=some k->v.ownBlock=some k∨w.heap.size<=k):=λk J=>by
    rcases Jj k J with q|q
    ·exact Jm k q
    ·exact .inr o_
   have HE:Hid (eM (aQ E.t f.body 0 f.params f.params).1 (i:Int) (aQ E.t f.body 0 f.params f.params).2.1=eM Jf.1 (i:Int) Jf.2.2):=by
    show _=_;rw[Je.out];unfold cZ;rw[if_neg (by rw[Xf.out];simp)];by_cases q:(aQ E.t f.body 0 f.params f.params).1=0
    ·rw[if_neg (by simp[q]),q];rfl
    ·rw[if_pos q]
   rw[HE.out];obtain⟨ev,Jr⟩:=q_ (eM Jf.1 (i:Int) Jf.2.2);rw[<-Jr];have HV:=ah Jr;clear Y Xg Jj U n2 Jr;go_wp2_with fail;refine leaves_cons (f:=173) (args:=#[pV E.C]) i_ (by simp[go_sem]) ?_;refine(ji Jq .returning).mono ?_;rintro e u' Xr ⟨rfl,⟨u2,rfl⟩,v3,Jk,Jd,Xw⟩;exact⟨_,results_tmp rfl _ _ _,aG (by rw[<-HV.out];rfl),⟨v3,_,_,Jk,λk J=>Xk k (Xw ▸ J)⟩,Jn.out.trans (Jd.mono (λk h=>.inl h))⟩
end Go.Proofs.YtffnkkpmlplfeaaGreatDoor
