import Derived.Test.YtngnoopnloojjaaGreatDoorQ44
import Derived.Deep.RegionHeld3
namespace Go.Proofs.YtngnoopnloojjaaGreatDoor
open Go.World List
open Go.Proofs.Tryz Go.RowKit
set_option linter.all false
set_option maxRecDepth 100000
set_option maxHeartbeats 0
variable[Inhabited Pick]
section
variable{α:Type}{t:Tr}{sc:List IF}{a:List Nd}{n:Nd}
def Cq(l:List α)(j:Nat)(h:j<l.length):l=l.take j++l[j]::l.drop (j+1):=by rw[getElem_cons_drop,take_append_drop]
def Cr(l r:List α)(j:Nat)(h:j<l.length):l++r=l.take j++l[j]::(l.drop (j+1)++r):=by
 calc l++r=(l.take j++l[j]::l.drop (j+1))++r:=by rw[<-Cq l j h]
  _=_:=by rw[append_assoc,cons_append]
def yZ(h:exprE t sc a=0)(H:nodeE t sc n=0):exprE t sc (a++[n])=0:=by rw[lP,if_pos h];simp[exprE,H]
def y8{r:List Nd}(h:exprE t sc a=0)(H:nodeE t sc n≠0):exprE t sc (a++n::r)=nodeE t sc n:=by rw[lP,if_pos h];simp[exprE,H]
theorem NK{E:oO}{w:World}{Jl:List (List ByteArray)}{I:List ByteArray}{bi:List Nat}{b:Nat}{v:Value}{Y:Nat}{tk:List ByteArray}{fn st:Int}(h:Cs E w (Jl++[I]) (bi++[b]) v Y tk fn st)(Xl:E.gf=cP E.t.gl)(Xn:E.gp=λs=>decide (0<=globI E.t.gl s))(hp:∀g∈E.t.gl,0<=g.size)(X_:E.t.fc.length<=1048576)
  (s:St) (ve vf:Value) (he:a_ w ve s.e) (hf:a_ w vf s.f) (Xm:lq s) (Jy:uO s) (Yc:tk.length<=1000000) (Yd:I.length<=1000000):
  Calls prog 183 #[pV E.C,.agg #[V s.kd,sV s.nm,ve,vf,V s.th,V s.el]] w λe w'=>e=rW (fD (stmtE E.t (Jl++[I]).flatten tk s) fn st) /\
   (∃xs' tk',Cs E w' (Jl++[xs']) (bi++[b]) v Y tk' fn st/\(stmtE E.t (Jl++[I]).flatten tk s=0->xs'=ff s I/\tk'=ff s tk))/\aA (λk=>k=Y\/k=b) w w':=by
 have⟨sc,Jp⟩:=q_ ((Jl++[I]).flatten);rw[<-Jp];have Jw:=ah Jp;clear Jp;have⟨Jb,Xz,Xv,HS,Xf,Jt⟩:=h6 h he hf Xm Jy Xl;have Xe:Hid (∀s,(E.gp s=true)=(0<=globI E.t.gl s)):=λs=>by rw[Xn];simp
 have HP:=ah hp;obtain⟨ae,ce,rfl,-⟩:=he;obtain⟨af,cf,rfl,-⟩:=hf;have Jg:s.nm.size<=maxLen:=by have:=Jy.1;unfold maxLen;omega
 clear h Xm Jy hp Xl Xn;go_in;go_wp2_with fail;refine(mV _ _ _ _ _ _ _ _ _ _ _).mono ?_;rintro e w1 ⟨rfl,Jx⟩;simp only[Bl,World.size_alloc]at Jx;have Xg:=ah Jx;clear Jx;go_wp2;go_loopw[13] (λi w2=>∃(m:Nat),m<=2/\i=V m/\exprE E.t sc (jF s m)=0/\Below (w.heap.size+1) (w.alloc (.cells #[V s.kd,sV s.nm,.slice ae s.e.length ce,.slice af s.f.length cf,V s.th,V s.el] 254)) w2) (λi _=>2-(RowKit.intOf i).toNat)
 case atStart=>exact⟨0,y_,rfl,rfl,Xg⟩
 case round=>
  obtain⟨m,hm,rfl,hz,J⟩:=hrel;have HZ:=ah hz;clear Xg hz;by_cases hm2:m<2
  ·obtain⟨va,H,ca,Ju,Xx,Je,⟨Jc,Jd⟩,Ya,Jj⟩:∃(va:Option Addr) (H:List Nd) (ca:Nat),(∀W,(Instr.index 307 (.agg #[.slice ae s.e.length ce,.slice af s.f.length cf]) (V (m:Int))).run prog W=.ok (.slice va H.length ca) W)/\a_ w (.slice va H.length ca) H/\jF s (m+1)=jF s m++H/\(∃Jc,s.e++s.f=jF s m++H++Jc)/\H.length<=1048576/\(∀n∈H,n.nm.size<=9223372036854775807):=by have Xp:m=0\/m=1:=o_;rcases Xp with rfl|rfl;exact⟨ae,s.e,ce,λW=>KW _ _ W,Xz,by simp[jF],⟨s.f,by simp[jF]⟩,HS.out.1,Xf.out.2.1.2⟩;exact⟨af,s.f,cf,λW=>KV _ _ W,Xv,by simp[jF],⟨[],by simp[jF]⟩,HS.out.2,Xf.out.2.2.2⟩
   have⟨X,Xi,Xs⟩:=h3 Je Jd Jj;generalize jF s m=mid at HZ X Xi;obtain⟨_,_,Jz,-,-,Xb⟩:=Xx;simp only[Value.slice.injEq]at Jz;obtain⟨rfl,-,rfl⟩:=Jz;have Xy:=ah Xb;clear Xb Je Jj Jd;have Jo:decide ((m:Int)<2)=true:=(by rw[decide_eq_true_iff];omega);go_wp2;go_loopw[18] (λi w4=>∃(j:Nat),j<=H.length/\i=V j/\exprE E.t sc (mid++H.take j)=0/\Below (w.heap.size+1) (w.alloc (.cells #[V s.kd,sV s.nm,.slice ae s.e.length ce,.slice af s.f.length cf,V s.th,V s.el] 254)) w4) (λi _=>H.length-(RowKit.intOf i).toNat)
   case atStart=>exact⟨0,y_,rfl,by simpa using HZ.out,J⟩
   case round=>
    clear Ju J;obtain⟨j,hj,rfl,Xk,J⟩:=hrel;have Jr:=ah Xk;clear Xk;have Ja:=aR J;by_cases hjl:j<H.length
    ·obtain⟨bn,on,rfl,J_⟩:=Xy o_;have⟨c0,c1,c2⟩:=(J_.below Ja) j hjl;have Xd:Hid (H[j].nm.size<=maxLen):=by
      have:=Xs.out H[j] (g_ hjl)
      show _<=_;unfold maxLen;omega
     have HT:Hid (mid++H.take (j+1)=mid++H.take j++[H[j]]):=(by show _=_;rw[bP H j hjl];simp);have HL:Hid (s.e++s.f=mid++H.take j++H[j]::(H.drop (j+1)++Jc)):=by show _=_;rw[Xi.out,List.append_assoc,Cr H Jc j hjl,List.append_assoc]
     clear J_;generalize H[j]=n at c0 c1 c2 Xd HT HL;have Xc:Bl w (wr.alloc (.cells #[V n.kd,V n.val,sV n.nm] 36)):=Ja.alloc Ja.size _;have Jm:=J.size;simp only[Bl,World.size_alloc]at Jm;go_wp2_with fail;refine(Cp ((Jb.out.below Xc).ck Jt) HP X_ n Xd).mono ?_;rintro e w5 ⟨rfl,Jv⟩;simp only[Bl,World.size_alloc]at Jv;rw[<-Jw.out];have Js:Below (w.heap.size+1) (w.alloc (.cells #[V s.kd,sV s.nm,.slice ae s.e.length ce,.slice af s.f.length cf,V s.th,V s.el] 254)) w5:=J.trans ((aR Jv).mono Jm);clear Jv c0 c1 c2 Xc J Ja;by_cases hn:nodeE E.t sc n=0
     ·have HN:=ah hn;rw[hn,dj];clear hn;go_wp2;go_roundw
      case rel=>exact⟨j+1,o_,by go_num,by rw[HT.out];exact yZ Jr HN,Js⟩
      case measure=>simp[RowKit.intOf];omega
     have HN:Hid (stmtE E.t sc tk s=nodeE E.t sc n):=by have e1:exprE E.t sc (s.e++s.f)=nodeE E.t sc n:=(by rw[HL.out];exact y8 Jr hn);show _=_;rw[yg (by rw[e1];exact hn),e1]
     have Jn:=ah hn;rw[bI hn];generalize nodeE E.t sc n=z at HN Jn⊢;clear hn;go_wp2;go_ret;exact⟨aC (by rw[HN.out,bI Jn.out];rfl),⟨I,tk,Jb.out.below (aR Js),λh=>absurd (HN.out.symm.trans h) Jn⟩,(aR Js).tcs⟩
    have HD:Hid (jF s (m+1)=mid++H.take j):=(by show _=_;rw[X.out,List.take_of_length_le o_]);go_wp2;go_roundw
    case rel=>exact⟨m+1,o_,by go_num,by rw[HD.out];exact Jr,J⟩
    case measure=>simp[RowKit.intOf];omega
  have Z:Hid (exprE E.t sc (s.e++s.f)=0):=by
   have:=HZ.out
   have Xq:m=2:=o_;subst Xq;exact this
  clear HZ;have Ja:=aR J;obtain⟨x0,x1,-⟩:=NE J;have Jo:decide ((m:Int)<2)=false:=(by rw[decide_eq_false_iff_not];omega);by_cases hk1:s.kd=1
  ·have Jk:=hk1;rw[hk1]at x0;by_cases hx:fT tk s.nm=true\/0<=globI E.t.gl s.nm
   ·have O:Hid (stmtE E.t sc tk s=2):=(by show _=_;rw[pw Z.out hk1,if_pos hx]);have X:=ah hx;clear hx;go_wp2_with fail;refine(oP (Jb.out.below Ja) Jg (by rw[Xe.out];exact X)).mono ?_;rintro e w2 ⟨rfl,hw⟩;rw[hw,bI d_];clear hw;go_wp2;go_ret;exact⟨aC (by rw[O.out];rfl),⟨I,tk,Jb.out.below Ja,λh=>absurd (O.out.symm.trans h) d_⟩,Ja.tcs⟩
   have O:Hid (stmtE E.t sc tk s=0):=(by show _=_;rw[pw Z.out hk1,if_neg hx]);have X:=ah hx;clear hx;go_wp2_with fail;refine(oQ (Jb.out.below Ja) Jg o_ (by rw[Xe.out];exact X)).mono ?_;rintro e w2 ⟨rfl,Xa,Xh⟩;have⟨Xt,Jq⟩:=h2 Xa Xh;have Xo:w.heap.size≠Y:=(by have:=Jb.out.lt Y i_;omega);have Jm:=J.size;simp only[Bl,World.size_alloc]at Jm;have y1:w2.cell? ⟨w.heap.size,1,none⟩=some (sV s.nm):=(c_ (a:=⟨w.heap.size,1,none⟩) (Jq.out.block w.heap.size o_ Xo)).trans x1;have Xw:Hid (w.heap.size<w2.drew.heap.size):=l_ o_ Jq.out.size;have Xr:Hid (¬w.heap.size=b):=(by have:=Jb.out.lt b i_;show ¬_;omega);clear Xa Xh x0 x1;go_wp2_with fail;go_region_held3 (λW=>W.cell? ⟨w.heap.size,1,none⟩=some (sV s.nm)) (go_simp)
    (first
    | (go_at_call 124;refine(NJ (Xt.out.below (r_.drew)) Jg o_).mono ?_;rintro e w3 ⟨⟨u,rfl⟩,Xu,Xj⟩;have Yb:w3.cell? ⟨w.heap.size,1,none⟩=some (.string s.nm):=(c_ (a:=⟨w.heap.size,1,none⟩) (Xj.block w.heap.size Xw Xr)).trans y1))
   go_wp2;go_ret;exact⟨aC (by rw[O.out];rfl),⟨I++[s.nm],tk++[s.nm],Xu,λ_=>⟨(Av Jk I).symm,(Av Jk tk).symm⟩⟩,(((Ja.tcs (S:=λk=>k=Y\/k=b)).trans (Jq.out.mono (λk h=>.inl h))).drew).trans (Xj.mono (λk h=>.inr h))⟩
  by_cases hk2:s.kd=2
  ·have O:Hid (stmtE E.t sc tk s=pq E.t.gl sc s.nm false):=by show _=_;rw[rP Z.out (.inl hk2)];simp[hk2]
   have U:=ah hk1;rw[hk2]at x0;clear hk2;go_wp2_with fail;refine(ml ((Jb.out.below Ja).ck Jt) HP s.nm Jg false).mono ?_;rintro e w2 ⟨rfl,Ji⟩;rw[<-Jw.out,<-O.out];have Jh:Bl w w2:=Ja.trans (Ji.mono Ja.size);have⟨ev,Jf⟩:=q_ (fD (stmtE E.t sc tk s) fn st);rw[<-Jf];have HV:=ah Jf;clear Jf Ji;go_wp2;go_ret;exact⟨aC HV,⟨I,tk,Jb.out.below Jh,λ_=>⟨(mL U I).symm,(mL U tk).symm⟩⟩,Jh.tcs⟩
  by_cases hk3:s.kd=3
  ·have O:Hid (stmtE E.t sc tk s=pq E.t.gl sc s.nm true):=by show _=_;rw[rP Z.out (.inr hk3)];simp[hk3]
   have U:=ah hk1;rw[hk3]at x0;clear hk3;go_wp2_with fail;refine(ml ((Jb.out.below Ja).ck Jt) HP s.nm Jg true).mono ?_;rintro e w2 ⟨rfl,Ji⟩;rw[<-Jw.out,<-O.out];have Jh:Bl w w2:=Ja.trans (Ji.mono Ja.size);have⟨ev,Jf⟩:=q_ (fD (stmtE E.t sc tk s) fn st);rw[<-Jf];have HV:=ah Jf;clear Jf Ji;go_wp2;go_ret;exact⟨aC HV,⟨I,tk,Jb.out.below Jh,λ_=>⟨(mL U I).symm,(mL U tk).symm⟩⟩,Jh.tcs⟩
  have O:Hid (stmtE E.t sc tk s=0):=yh Z hk1 hk2 hk3;have U:=ah hk1;have b1:(s.kd == 1)=false:=(by simpa using hk1);have b2:(s.kd == 2)=false:=(by simpa using hk2);have b3:(s.kd == 3)=false:=(by simpa using hk3);go_wp2;go_ret;exact⟨aC (by rw[O.out];rfl),⟨I,tk,Jb.out.below Ja,λ_=>⟨(mL U I).symm,(mL U tk).symm⟩⟩,Ja.tcs⟩
end
structure Bd (E:oO) (vb:BY) (ss:List St):Prop where
 st:be E.w0 vb ss
 fit:cD ss=true
 sm:∀s∈ss,lq s
 wf:∀s∈ss,uO s
def Lh(n:Nat):Prop:=∀(E:oO) (w:AT) (bsn:List (List IF)) (bi:List Nat) (v:BY) (bt:Nat) (tk:List IF) (fn st:Int) (ss:List St) (vb:BY) (a:Int),ss.length<=n->Cs E w bsn bi v bt tk fn st->Bd E vb ss->E.gf=cP E.t.gl->E.gp=(λs=>decide (0<=globI E.t.gl s))->(∀g∈E.t.gl,0<=g.size)->E.t.fc.length<=1048576 ->
 bi.length+ss.length<=800000->tk.length+ss.length<=800000->0<=a->a+ss.length<=800000 ->
 Calls prog 167 #[pV E.C,vb,V a] w λe w'=>e=rW (fD (bC E.t ss a bsn.flatten tk).1 fn (bC E.t ss a bsn.flatten tk).2.1) /\
  (∃v' tk' st',Cs E w' bsn bi v' bt tk' fn st'/\((bC E.t ss a bsn.flatten tk).1=0->tk'=(bC E.t ss a bsn.flatten tk).2.2)/\(∀k,v'.ownBlock=some k->v.ownBlock=some k\/w.heap.size<=k))/\aA (Sb E v bt) w w'
def oR{E:oO}{v v1:BY}{H N:Nat}(h:∀k,v1.ownBlock=some k->v.ownBlock=some k\/N<=k):∀x,Sb E v1 H x->Sb E v H x\/N<=x:=by intro x I;rcases I with h1|h1|h1;exact .inl (.inl h1);exact .inl (.inr (.inl h1));rcases h x h1 with h2|h2;exact .inl (.inr (.inr h2));exact .inr h2
def aA.cell{S:DO}{W w':AT}(h:aA S W w'){M:Nat}(hM:M<W.heap.size)(hn:¬S M)(o:Nat):w'.cell? ⟨M,o,none⟩=W.cell? ⟨M,o,none⟩:=c_ (a:=⟨M,o,none⟩) (h.block M hM hn)
def y9{α:Type}(l:List α)(i j:Nat):(l.take (i+j)).drop i=(l.drop i).take j:=by rw[drop_take];congr 1;omega
theorem Li(n:Nat):Lh n:=by
 induction n with
 | zero=>
  intro E w Je bi v bt tk fn st ss vb a hn Jb Jd Xw Xs hp Xa Yg Xu ha Xr;obtain rfl:ss=[]:=List.eq_nil_of_length_eq_zero o_;obtain⟨ab,cb,rfl,-⟩:=Jd.st;have Xg:=ah Jb;have J:Hid (bC E.t [] a Je.flatten tk=(0,0,tk)):=lR _ _ _ _;clear Jb Jd;simp only[l_n]at*;go_enter_defers func167,ntmps167;go_wp2_with fail;refine(E8 Xg.out o_).mono ?_;rintro e w1 ⟨⟨u,rfl⟩,v1,Jo,Xc,Xd⟩;have Jz:=ah Jo;clear Jo;go_wp2_with fail;refine wp_loop_rounds 1 ?_;rw[rounds_succ];go_wp2_with fail;refine leaves_cons (f:=166) (args:=#[pV E.C]) i_ (by simp[go_sem]) ?_;refine(lE Jz.out .returning).mono ?_;rintro e u' Xe ⟨rfl,⟨u2,rfl⟩,Z,Jf,Jc,Jh⟩;exact⟨_,results_tmp rfl _ _ _,aC (by rw[J.out];rfl),⟨Z,tk,st,Jf,λ_=>by rw[J.out],λk hk=>Xd k (Jh ▸ hk)⟩,Xc.trans (Jc.mono (λk h=>.inl h))⟩
 | succ n ih=>
 intro E w Je bi v bt tk fn st ss vb a hn Jb Jd Xw Xs hp Xa Yg Xu ha Xr;have IH:=ah ih;have Xg:=ah Jb;have Xv:=ah Xw;have Xt:=ah Xs;have HP:=ah hp;have Ze:=ah Jd;have⟨Jk,Jm⟩:=q_ (bC E.t ss a Je.flatten tk);rw[<-Jm];have Ja:=ah Jm;obtain⟨ab,cb,rfl,-⟩:=Jd.st;clear Jb Jd Xw Xs hp ih Jm;go_enter_defers func167,ntmps167;go_wp2_with fail;refine(E8 Xg.out o_).mono ?_;rintro e w1 ⟨⟨u,rfl⟩,v1,Jo,Xc,Xd⟩;have⟨b,hb⟩:=q_ w.heap.size;rw[<-hb]at Jo;have Jz:=ah Jo;have Yz:=ah Xc;have Yf:=ah Xd;clear Jo Xc Xd;go_wp2;go_loopw[1,2] (λvb2 a2 wr=>∃(q:List St) (z:Int) (xs tk':List ByteArray) (v':Value) (st':Int),a2=V z/\Bd E vb2 q/\Cs E wr (Je++[xs]) (bi++[b]) v' bt tk' fn st'/\Jk=bC E.t q z (Je++[xs]).flatten tk'/\q.length<=ss.length/\xs.length+q.length<=800000/\tk'.length+q.length<=800000/\0<=z/\z+q.length<=800000/\aA (Sb E v bt) w wr/\(∀k,v'.ownBlock=some k->v.ownBlock=some k\/w.heap.size<=k)) (λvb2 _ _=>lenOf vb2)
 case atStart=>exact⟨ss,a,[],tk,v1,st,rfl,Ze,Jz,by rw[Eb];exact Ja,n_,by simp;omega,Xu,ha,Xr,Yz,Yf⟩
 case round=>
  clear Jz Yz Yf Ze Ja Xg;obtain⟨q,z,xs,tk1,v1,Zq,rfl,Jd,Jb,Ji,Zy,Zp,Zk,Yl,Vb,ht,ho⟩:=hrel;have HC:=ah Jb;have HT:=ah ht;have HO:=ah ho;clear ht ho;cases q with
  | nil=>
   have J:Hid (Jk=(0,0,tk1)):=Ji.trans (lR _ _ _ _);obtain⟨a2,c2,rfl,-⟩:=Jd.st;clear Ji Jb Jd;simp only[l_n];go_wp2_with fail;refine leaves_cons (f:=166) (args:=#[pV E.C]) i_ (by simp[go_sem]) ?_;refine(lE HC.out .returning).mono ?_;rintro e u' Xe ⟨rfl,⟨u2,rfl⟩,Z,Jf,Jc,Jh⟩;exact⟨_,results_tmp rfl _ _ _,aC (by rw[J.out];rfl),⟨Z,tk1,Zq,Jf,λ_=>by rw[J.out],λk hk=>HO.out k (Jh ▸ hk)⟩,HT.out.trans (Jc.mono (λk h=>.inl h))⟩
  | cons s r=>
   have Ja:=ah Ji;have Xf:Hid (∀x∈s::r,lq x):=Jd.sm;have Jy:Hid (∀x∈s::r,uO x):=Jd.wf;have Js:=Jd.fit;rw[fitB_cons,Bool.and_eq_true,Bool.and_eq_true,Bool.and_eq_true,decide_eq_true_iff]at Js;obtain⟨⟨p1,p2,p3,p4⟩,Zg,Yu,Yn⟩:=Js;obtain⟨a2,Jv,rfl,Zh,Yw,hc⟩:=Jd.st;obtain⟨U,off,rfl,hs⟩:=hc i_;have Jq:be E.w0 (.slice (some ⟨U,off,none⟩) (s::r).length Jv) (s::r):=⟨_,_,rfl,Zh,Yw,λ_=>⟨U,off,rfl,hs⟩⟩;have Jj:be E.w0 (.slice (if Jv=1 then some ⟨U,off,none⟩else some ⟨U,off+6,none⟩) r.length (Jv-1)) r:=by
    have:=Jq.cut 1 (s::r).length i_ n_
    simpa[Addr.add]using this
   obtain⟨Zt,Va,⟨d0,-,d2,d3,-,-⟩,Xj,Xy⟩:=hs 0 i_;have Jw:U<E.w0.heap.size:=b_ d0;have⟨ve,vf,⟨g0,g1,g2,g3,g4,g5⟩,⟨c0,c1,c2,c3,c4,c5⟩,he,hf⟩:=(hs.below Jb.base).up 0 i_;simp only[Nat.zero_mul,Nat.add_zero,List.getElem_cons_zero]at c0 c1 c2 c3 c4 c5 g0 g1 g2 g3 g4 g5 he hf;simp only[Nat.zero_mul,Nat.add_zero,List.getElem_cons_zero]at d0 d2 d3 Xj Xy;obtain rfl:ve=Zt:=Option.some.inj (c2.symm.trans ((Jb.base.cell (p:=⟨U,off+2,none⟩) Jw).trans d2));obtain rfl:vf=Va:=Option.some.inj (c3.symm.trans ((Jb.base.cell (p:=⟨U,off+3,none⟩) Jw).trans d3));clear d0 d2 d3;simp only[l_c]at*;have HR:=ah Jj;have h1:(1:Int)<=(r.length:Int)+1:=o_;have Zw:=ah Xj;have Zs:=ah Xy;have hC:E.C<wr.heap.size:=Jb.ltC;have y6:=Jb.box.c6;have f6:=Jb.box.fz 6;have Yh:=ah Zg;have Zc:=ah Yu;have Zd:=ah Yn;obtain⟨a3,k3,rfl,-⟩:=he;obtain⟨a4,k4,rfl,-⟩:=hf;clear hs hc Jq Jj Zg Yu Yn Jb Jd Ji Xj Xy;go_wp2_with fail;go_region;generalize (if Jv=1 then some ({block:=U,off:=off,spot:=none}:Addr)else some {block:=U,off:=off+6,spot:=none})=a1 at HR⊢;generalize hk1:Jv-1=k1 at HR⊢;have Zz:r.length<=k1:=o_;have Zu:k1<=9223372036854775807:=o_;clear hk1 c0 c1 c2 c3 c4 c5 g0 g1 g2 g3 g4 g5 h1;go_wp2_with fail;have⟨W6,Jn⟩:=q_ (((wr.setCell ⟨E.C,6,none⟩ (V z)).alloc (.cells #[V s.kd,sV s.nm,.slice a3 s.e.length k3,.slice a4 s.f.length k4,V s.th,V s.el] 254)).drew);have⟨M,hM⟩:=q_ wr.heap.size;have Xp:Below (wr.setCell ⟨E.C,6,none⟩ (V z)).heap.size (wr.setCell ⟨E.C,6,none⟩ (V z)) W6:=(by rw[Jn];exact(aq _ _).drew);have Xq:Hid (Cs E W6 (Je++[xs]) (bi++[b]) v1 bt tk1 fn z):=(HC.out.stmt z).below Xp;have Vh:Hid (aA (Sb E v1 bt) wr W6):=((aA.refl (Sb E v1 bt) wr).setCell (p:=⟨E.C,6,none⟩) (.inl rfl) _).of_below Xp;have m4:W6.cell? ⟨M,4,none⟩=some (V s.th):=(by rw[Jn];exact(World.cell?_alloc_at _ _ _ _ (by simp[hM])).trans rfl);have m5:W6.cell? ⟨M,5,none⟩=some (V s.el):=(by rw[Jn];exact(World.cell?_alloc_at _ _ _ _ (by simp[hM])).trans rfl);have Xi:M<W6.heap.size:=(by rw[Jn,hM];simp);have Z_:Hid (¬Sb E v1 bt M):=by
    show ¬_;rintro(h|h|h)
    ·omega
    ·have:=HC.out.lt bt i_;omega
    ·have:=(HC.out.rlt _ h).2;omega
   have Yk:M≠b:=(by have:=HC.out.lt b i_;omega);have Y_:M≠bt:=(by have:=HC.out.lt bt i_;omega);rw[<-Jn,<-hM];have Vq:Hid (w.heap.size<=M):=(by have:=HT.out.size;show _<=_;omega);clear Jn Xp y6 f6 hM;refine(NK Xq.out Xv.out Xt.out HP.out Xa s _ _ (Zw.out.below Xq.out.base) (Zs.out.below Xq.out.base) (Xf.out s i_) (Jy.out s i_) o_ o_).mono ?_;rintro e w2 ⟨rfl,⟨Vm,tk2,Jf,Jg⟩,Jc⟩;have Ys:=ah Jf;have Xm:Hid (aA (Sb E v bt) w w2):=(HT.out.next Vh.out (oR HO)).next Jc (λx hx=>by
    rcases hx with h|h
    ·exact .inl (.inr (.inl h))
    ·exact .inr o_)
   have n4:w2.cell? ⟨M,4,none⟩=some (V s.th):=(Jc.cell Xi (by rintro(h|h);exact Y_ h;exact Yk h) 4).trans m4;have n5:w2.cell? ⟨M,5,none⟩=some (V s.el):=(Jc.cell Xi (by rintro(h|h);exact Y_ h;exact Yk h) 5).trans m5;have X_:M<w2.heap.size:=l_ Xi Jc.size;have⟨O,Xo⟩:=q_ ((Je++[xs]).flatten);rw[<-Xo]at Jg Ja⊢;have Vf:=ah Xo;clear m4 m5 Xi Jf Jc Xo;by_cases hE:stmtE E.t O tk1 s=0
   ·obtain⟨rfl,rfl⟩:=Jg hE;have J:=ah hE;rw[hE,dj];clear hE Jg;have⟨H,Xl⟩:=Int.eq_ofNat_of_zero_le (show 0<=s.th by omega);have⟨I,Yd⟩:=Int.eq_ofNat_of_zero_le (show 0<=s.el by omega);rw[Xl]at n4 p2 p4;rw[Yd]at n5 p4;have Jl:Hid (s.th.toNat=H/\s.el.toNat=I):=⟨o_,o_⟩;have Yj:H<=r.length:=o_
    have Vg:H+I<=r.length:=o_;rw[Jl.out.1]at Yh;rw[Jl.out.1,Jl.out.2]at Zc Zd;have Xk:Hid ((Je++[ff s xs]).flatten=ff s O):=(by show _=_;rw[Ea,Vf.out]);have Vd:=tJ s tk1;have Zi:=tJ s xs;go_wp2_with fail;refine(IH.out E w2 (Je++[ff s xs]) (bi++[b]) v1 bt (ff s tk1) fn z (r.take H) (.slice a1 H k1) (z+1) (by simp;omega) Ys.out ⟨HR.out.head H Yj,Yh,λx hx=>Xf.out x (by simp[List.mem_of_mem_take hx]),λx hx=>Jy.out x (by simp[List.mem_of_mem_take hx])⟩ Xv.out Xt.out HP.out Xa (by simp;omega) (by simp;omega) o_ (by simp;omega)).mono ?_;rintro e w3 ⟨rfl,⟨v3,Zv,Ym,Yv,Jx,Xx⟩,Ju⟩;rw[Xk.out]at Jx⊢;have Yq:=ah Yv;have Yc:=Xm.out.size;have Jp:=Z_.out;have q4:w3.cell? ⟨M,4,none⟩=some (V H):=(Ju.cell X_ Jp 4).trans n4;have q5:w3.cell? ⟨M,5,none⟩=some (V I):=(Ju.cell X_ Jp 5).trans n5;have Yo:M<w3.heap.size:=l_ X_ Ju.size;have Ya:Hid (aA (Sb E v bt) w w3):=Xm.out.next Ju (oR HO);have Xz:Hid (∀k,v3.ownBlock=some k->v.ownBlock=some k\/w.heap.size<=k):=λk hk=>by
     rcases Xx k hk with h|h
     ·exact HO.out k h
     ·exact .inr o_
    have Jt:Hid (¬Sb E v3 bt M):=by
     show ¬_;rintro(h|h|h)
     ·exact Jp (.inl h)
     ·exact Jp (.inr (.inl h))
     ·rcases Xx M h with h2|h2
      ·exact Jp (.inr (.inr h2))
      ·omega
    clear Yv Ju Xx n4 n5 Jp Yc;have⟨X,hX⟩:=q_ (bC E.t (r.take H) (z+1) (ff s O) (ff s tk1));rw[<-hX]at Jx⊢;have HX:Hid (X=bC E.t (r.take s.th.toNat) (z+1) (ff s O) (ff s tk1)):=(by show _=_;rw[Jl.out.1];exact hX);have Zm:X.2.2.length<=(ff s tk1).length+H:=by
     have:=vd E.t _ (r.take H) (z+1) (ff s O) (ff s tk1) n_
     rw[<-hX]at this;simp at this;omega
    clear hX;by_cases hX1:X.1=0
    ·have Jr:=ah hX1;obtain rfl:=Jx hX1;rw[hX1,dj];clear hX1 Jx;obtain⟨a5,k5,Vn,Yp⟩:∃a5 k5,(∀w:World,(Instr.slice 141 (.slice a1 r.length k1) (some (V H)) (some (V ((H:Int)+(I:Int)))) none).run prog w=.ok (.slice a5 I k5) w)/\be E.w0 (.slice a5 I k5) ((r.take (H+I)).drop H):=by
      have h:=ud a1 r.length k1 H (H+I) o_ o_ o_;have h':=HR.out.cut H (H+I) o_ o_;rw[show H+I-H=I by omega]at h h';exact⟨_,_,h,h'⟩
     have Zo:=ah Yp;clear Yp;have Yy:Hid (((r.take (H+I)).drop H).length=I):=(by show _=_;simp;omega);have Zl:=ah (Yq.out.below (r_.drew));have Vc:Hid (Calls prog 167 #[pV E.C,.slice a5 I k5,V (z+1+H)] w3.drew λe w'=>e=rW (fD (bC E.t ((r.take (H+I)).drop H) (z+1+H) (ff s O) X.2.2).1 fn (bC E.t ((r.take (H+I)).drop H) (z+1+H) (ff s O) X.2.2).2.1) /\
  (∃v' tk' st',Cs E w' (Je++[ff s xs]) (bi++[b]) v' bt tk' fn st'/\((bC E.t ((r.take (H+I)).drop H) (z+1+H) (ff s O) X.2.2).1=0->tk'=(bC E.t ((r.take (H+I)).drop H) (z+1+H) (ff s O) X.2.2).2.2)/\(∀k,v'.ownBlock=some k->v3.ownBlock=some k\/w3.drew.heap.size<=k))/\aA (Sb E v3 bt) w3.drew w'):=by
      have hl:=Yy.out;have:=IH.out E w3.drew (Je++[ff s xs]) (bi++[b]) v3 bt X.2.2 fn Ym ((r.take (H+I)).drop H) (.slice a5 I k5) (z+1+H) o_ Zl.out ⟨Zo.out,Zc.out,λx hx=>Xf.out x (by simp[List.mem_of_mem_take (List.mem_of_mem_drop hx)]),λx hx=>Jy.out x (by simp[List.mem_of_mem_take (List.mem_of_mem_drop hx)])⟩ Xv.out Xt.out HP.out Xa (by simp only[l_a,l_c,l_n];omega) o_ o_ o_;rw[Xk.out]at this;exact this
     have Vk:IntKind.i64.wrap (z+1)=z+1:=(by simp[IntKind.wrap,IntKind.bits,IntKind.signed];omega);have Yc:IntKind.i64.wrap (z+1+(H:Int))=z+1+(H:Int):=(by simp[IntKind.wrap,IntKind.bits,IntKind.signed];omega);have Vr:IntKind.i64.wrap ((H:Int)+(I:Int))=(H:Int)+(I:Int):=(by simp[IntKind.wrap,IntKind.bits,IntKind.signed];omega);have Yx:Hid (0<=z/\z+1+r.length<=800000/\X.2.2.length+I+(r.length-(H+I))<=800000/\(ff s xs).length+(r.length-(H+I))<=800000/\r.length+1<=ss.length):=⟨Yl,o_,o_,o_,o_⟩;clear Vd Zi Zm Yj p1 p2 p3 p4 Zh Yw Zy Zp Zk Yl Vb Yg Xu Xr ha hn;go_wp2_with fail;go_region_held3 (λW=>W.cell? ⟨M,4,none⟩=some (V H)) (go_simp)
      (first
      | ((with_reducible refine Calls.mono Vc.out ?_);rintro e w4 ⟨rfl,⟨v4,Zj,Yb,Yr,J_,Za⟩,Xh⟩;have Vo:w4.cell? ⟨M,4,none⟩=some (.int .i64 H):=(Xh.cell Yo Jt.out 4).trans q4))
     have Yi:=ah Yr;have Vi:w4.cell? ⟨M,5,none⟩=some (V I):=(Xh.cell Yo Jt.out 5).trans q5;have Zf:Hid (aA (Sb E v bt) w w4):=(Ya.out.drew).next Xh (oR Xz);have Zr:w.heap.size<=w3.heap.size:=Ya.out.size;have Yt:Hid (∀k,v4.ownBlock=some k->v.ownBlock=some k\/w.heap.size<=k):=λk hk=>by
      rcases Za k hk with h|h
      ·exact Xz.out k h
      ·exact .inr (t_ Zr h)
     clear Yr Xh Za q4 q5;have⟨Y,hY⟩:=q_ (bC E.t ((r.take (H+I)).drop H) (z+1+H) (ff s O) X.2.2);rw[<-hY]at J_⊢;have Zx:Hid (Y.2.2.length<=X.2.2.length+I):=by
      have h1:=vd E.t _ ((r.take (H+I)).drop H) (z+1+H) (ff s O) X.2.2 n_;rw[<-hY,Yy.out]at h1;exact h1
     have HY:Hid (Y=bC E.t ((r.drop s.th.toNat).take s.el.toNat) (z+1+s.th) (ff s O) X.2.2):=(by show _=_;rw[Jl.out.1,Jl.out.2,Xl,<-y9];exact hY);clear hY;by_cases hY1:Y.1=0
     ·have Xb:=ah hY1;obtain rfl:=J_ hY1;rw[hY1,dj];clear hY1 J_;obtain⟨a6,k6,Vl,Ye⟩:∃a6 k6,(∀w:World,(Instr.slice 141 (.slice a1 r.length k1) (some (V ((H:Int)+(I:Int)))) none none).run prog w=.ok (.slice a6 (r.length-(H+I)) k6) w)/\be E.w0 (.slice a6 (r.length-(H+I)) k6) (r.drop (H+I)):=by
       have h:=sE a1 r.length k1 (H+I) o_ o_ ((H:Int)+(I:Int)) o_;have h':=HR.out.cut (H+I) r.length o_ o_;rw[List.take_length]at h';exact⟨_,_,h,h'⟩
      have Zn:=ah Ye;have Ve:Hid (Jk=bC E.t (r.drop (H+I)) (z+1+H+I) (Je++[ff s xs]).flatten Y.2.2):=by
       have h1:=rS (r:=r) (a:=z) (tk1:=X.2.2) (tk2:=Y.2.2) J.out (by rw[<-HX.out];exact Jr) (by rw[<-HX.out]) (by rw[<-HY.out];exact Xb) (by rw[<-HY.out]);rw[Jl.out.1,Jl.out.2,Xl,Yd]at h1;show _=_;rw[Xk.out,Ja.out,h1]
      clear Ye;have Vj:IntKind.i64.wrap (z+1+((H:Int)+(I:Int)))=z+1+((H:Int)+(I:Int)):=(by have:=Yx.out;simp[IntKind.wrap,IntKind.bits,IntKind.signed];omega);go_wp2;go_roundw
      case rel=>
       have hb:=Yx.out;have Vp:=Zx.out;exact⟨r.drop (H+I),z+1+H+I,ff s xs,Y.2.2,v4,Yb,by simp;omega,⟨Zn,Zd,λx hx=>Xf.out x (by simp[List.mem_of_mem_drop hx]),λx hx=>Jy.out x (by simp[List.mem_of_mem_drop hx])⟩,Yi,Ve,by simp;omega,by simp;omega,by simp;omega,o_,by simp;omega,Zf,Yt⟩
      case measure=>simp[lenOf];omega
     ·have Zb:Hid (Jk=Y):=by
       have h3:=rR (r:=r) (a:=z) (tk1:=X.2.2) J.out (by rw[<-HX.out];exact Jr) (by rw[<-HX.out]) (by rw[<-HY.out];exact hY1);show Jk=Y;rw[Ja.out,h3,<-HY.out]
      have Xb:=ah hY1;rw[bI hY1];clear hY1 J_ Vi;go_wp2_with fail;refine leaves_cons (f:=166) (args:=#[pV E.C]) i_ (by simp[go_sem]) ?_;refine(lE Yi.out .returning).mono ?_;rintro e u' Xe ⟨rfl,⟨u2,rfl⟩,Z,Jf,Jc,Jh⟩;exact⟨_,results_tmp rfl _ _ _,aC (by rw[Zb.out,bI Xb.out];rfl),⟨Z,Zj,Yb,Jf,λh=>absurd h (by rw[Zb.out];exact Xb),λk hk=>Yt.out k (Jh ▸ hk)⟩,Zf.out.trans (Jc.mono (λk h=>.inl h))⟩
    ·have J:Hid (Jk=X):=by
      have h1:=Ja.out;have h2:=HX.out;have h3:=rQ (r:=r) (a:=z) J.out (by rw[<-h2];exact hX1);show Jk=X;rw[h1,h3,<-h2]
     have Jr:=ah hX1;rw[bI hX1];clear hX1 Jx q4 q5;go_wp2_with fail;refine leaves_cons (f:=166) (args:=#[pV E.C]) i_ (by simp[go_sem]) ?_;refine(lE Yq.out .returning).mono ?_;rintro e u' Xe ⟨rfl,⟨u2,rfl⟩,Z,Jf,Jc,Jh⟩;exact⟨_,results_tmp rfl _ _ _,aC (by rw[J.out,bI Jr.out];rfl),⟨Z,Zv,Ym,Jf,λh=>absurd h (by rw[J.out];exact Jr),λk hk=>Xz.out k (Jh ▸ hk)⟩,Ya.out.trans (Jc.mono (λk h=>.inl h))⟩
   ·have J:Hid (Jk=(stmtE E.t O tk1 s,z,tk1)):=Ja.out.trans (u_ hE);have Xn:=ah hE;rw[bI hE];generalize stmtE E.t O tk1 s=zz at J Xn⊢;clear hE Jg n4 n5;go_wp2_with fail;refine leaves_cons (f:=166) (args:=#[pV E.C]) i_ (by simp[go_sem]) ?_;refine(lE Ys.out .returning).mono ?_;rintro e u' Xe ⟨rfl,⟨u2,rfl⟩,Z,Jf,Jc,Jh⟩;exact⟨_,results_tmp rfl _ _ _,aC (by rw[J.out,bI Xn.out];rfl),⟨Z,tk2,z,Jf,λh=>absurd h (by rw[J.out];exact Xn),λk hk=>HO.out k (Jh ▸ hk)⟩,Xm.out.trans (Jc.mono (λk h=>.inl h))⟩
theorem Ct{E:oO}{w:World}{v:Value}{H:Nat}{i:Nat}(h:Cs E w [] [] v H [] (i:Int) (-1))(Xc:E.gf=cP E.t.gl)(Ju:E.gp=λs=>decide (0<=globI E.t.gl s))(hp:∀g∈E.t.gl,0<=g.size)(Yc:E.t.fc.length<=1048576)
  (f:Fu) (vp vb:Value) (Yb:Strs E.w0 vp f.pm) (Jv:Bd E vb f.bd) (Xd:∀s∈f.pm,s.size<=9223372036854775807) (Yi:f.pm.length<=1000) (Yh:f.bd.length<=1000):
  Calls prog 126 #[pV E.C,.agg #[sV f.nm,vp,vb]] w λe w'=>e=rW (fD (fe E.t i f).1 (i:Int) (fe E.t i f).2.2) /\
   (∃v' tk' st',Cs E w' [] [] v' H tk' (i:Int) st'/\(∀k,v'.ownBlock=some k->v.ownBlock=some k\/w.heap.size<=k))/\aA (Sb E v H) w w':=by
 have⟨Xv,Xu,Xq⟩:=h3 h Xc Ju;have Jx:Hid (∀s,(E.gp s=true)=(0<=globI E.t.gl s)):=λs=>by rw[Ju];simp
 have⟨HP,Xz,Xn⟩:=h3 hp Jv Xd;have⟨Jf,Jb⟩:=q_ (fe E.t i f);rw[<-Jb];have Je:=ah Jb;obtain⟨O,U,rfl,-⟩:=Jv.st;obtain⟨ap,cp,rfl,-,-,J_⟩:=Yb;have Xp:=ah J_;have⟨W0,Jg⟩:=q_ (w.alloc (.cells #[sV f.nm,.slice ap f.pm.length cp,.slice O f.bd.length U] 143));have⟨M,X⟩:=q_ w.heap.size;have Y:Bl w W0:=by rw[Jg];exact r_.alloc n_ _
 have Xa:Hid (Cs E W0 [] [] v H [] (i:Int) (-1)):=h.below Y;have m1:W0.cell? ⟨M,1,none⟩=some (.slice ap f.pm.length cp):=by rw[Jg,X];simp
 have m2:W0.cell? ⟨M,2,none⟩=some (.slice O f.bd.length U):=by rw[Jg,X];simp
 have Jp:M<W0.heap.size:=by rw[Jg,X];simp
 have Xb:Hid (¬Sb E v H M):=by
  show ¬_;rintro(q|q|q)
  have:=h.ltC;omega
  have:=h.lt H i_;omega
  have:=(h.rlt _ q).2;omega
 have Xt:M≠H:=by have:=h.lt H i_;omega
 have Jy:Hid (aA (Sb E v H) w W0):=Y.tcs;have Yf:w.heap.size<=W0.heap.size:=Y.size;clear h Jv Xc Ju hp Jb J_ Xd Y Xv;go_enter_defers func126,ntmps126;go_wp2_with fail;rw[<-Jg,<-X];refine(E8 Xa i_).mono ?_;rintro e w1 ⟨⟨u,rfl⟩,J,Jt,Jh,Jz⟩;have⟨b,hb⟩:=q_ W0.heap.size;rw[<-hb]at Jt;have Xi:=ah Jt;have Xs:Hid (aA (Sb E v H) w w1):=Jy.out.next Jh (λx hx=>.inl hx);have Jm:Hid (∀k,J.ownBlock=some k->v.ownBlock=some k\/w.heap.size<=k):=λk I=>by rcases Jz k I with q|q;exact .inl q;exact .inr o_
 have n1:w1.cell? ⟨M,1,none⟩=some (.slice ap f.pm.length cp):=(Jh.cell Jp Xb 1).trans m1;have Z:w1.cell? ⟨M,2,none⟩=some (.slice O f.bd.length U):=(Jh.cell Jp Xb 2).trans m2;have Ji:M<w1.heap.size:=l_ Jp Jh.size;have Xh:M≠b:=o_;have Yd:w.heap.size<=b:=o_;clear Jt Jh Jz m1 m2 X Jy Xa hb;go_wp2;go_loopw[18] (λj wr=>∃(k:Nat),k<=f.pm.length/\j=V k/\Cs E wr ([]++[f.pm.take k]) ([]++[b]) J H (f.pm.take k) (i:Int) (-1)/\jx E.t.gl [] f.pm=jx E.t.gl (f.pm.take k) (f.pm.drop k)/\wr.cell? ⟨M,2,none⟩=some (.slice O f.bd.length U)/\M<wr.heap.size/\aA (Sb E v H) w wr) (λj _=>f.pm.length-(RowKit.intOf j).toNat)
 case atStart=>exact⟨0,y_,rfl,by simpa using Xi.out,i_,Z,Ji,Xs.out⟩
 case round=>
  obtain⟨k,I,rfl,hc,hd,Z,Ji,ht⟩:=hrel;have⟨HC,HD,HT⟩:=h3 hc hd ht;clear hd ht;by_cases hlt:k<f.pm.length
  ·obtain⟨bp,op,rfl,Jw⟩:=Xp o_;have d0:=(hc.base.cell (p:=⟨bp,op+k,none⟩) (b_ (Jw k hlt))).trans (Jw k hlt);have hZ:f.pm[k].size<=maxLen:=(by have:=Xn.out _ (g_ hlt);unfold maxLen;omega);have Jl:Hid (jx E.t.gl [] f.pm=jx E.t.gl (f.pm.take k) (f.pm[k]::f.pm.drop (k+1))):=(by show _=_;rw[HD.out,jy _ _ hlt]);have Jo:=ah (bP _ _ hlt);have Yg:(f.pm.take k).length<=1000:=(by simp;omega);generalize f.pm[k]=p at d0 hZ Jl Jo;by_cases hx:fT (f.pm.take k) p=true\/0<=globI E.t.gl p
   ·have HE:Hid (Jf=(2,(i:Int),-1)):=by show _=_;rw[Je.out];unfold fe;rw[if_pos (by rw[Jl.out];exact D8 hx)]
    have HX:Hid (fT (f.pm.take k) p=true\/E.gp p=true):=by show _\/_;rw[Jx.out];exact hx
    clear hx;go_wp2_with fail;refine(oP HC hZ HX).mono ?_;rintro e w2 ⟨rfl,hw⟩;rw[hw,bI d_];go_wp2_with fail;refine leaves_cons (f:=166) (args:=#[pV E.C]) i_ (by simp[go_sem]) ?_;refine(lE HC .returning).mono ?_;rintro e u' Xr ⟨rfl,⟨u2,rfl⟩,v2,Jc,Ja,Jj⟩;exact⟨_,results_tmp rfl _ _ _,aC (by rw[HE.out];rfl),⟨v2,_,_,Jc,λk I=>Jm k (Jj ▸ I)⟩,HT.out.trans (Ja.mono (λk h=>.inl h))⟩
   have HX:Hid (¬(fT (f.pm.take k) p=true\/E.gp p=true)):=by show ¬(_\/_);rw[Jx.out];exact hx
   have Xm:Hid (jx E.t.gl [] f.pm=jx E.t.gl (f.pm.take (k+1)) (f.pm.drop (k+1))):=(by show _=_;rw[Jl.out,BC hx,Jo.out]);clear hx;go_wp2_with fail;refine(oQ HC hZ o_ HX).mono ?_;rintro e w2 ⟨rfl,Jc,Ja⟩;have Jq:Hid (Cs E w2 ([]++[f.pm.take k]) ([]++[b]) J H (f.pm.take k++[p]) (i:Int) (-1)):=Jc;have x2:w2.cell? ⟨M,2,none⟩=some (.slice O f.bd.length U):=(Ja.cell Ji Xt 2).trans Z;have Js:M<w2.heap.size:=l_ Ji Ja.size;have Jn:Hid (aA (Sb E v H) w w2):=HT.out.trans (Ja.mono (λk h=>.inr (.inl h)));go_wp2_with fail;refine(NJ Jq hZ o_).mono ?_;rintro e w3 ⟨⟨u3,rfl⟩,Jk,Jd⟩;have Xl:Hid (Cs E w3 ([]++[f.pm.take (k+1)]) ([]++[b]) J H (f.pm.take (k+1)) (i:Int) (-1)):=by
    have:=Jk
    rw[<-Jo.out]at this;exact this
   have x3:w3.cell? ⟨M,2,none⟩=some (.slice O f.bd.length U):=(Jd.cell Js Xh 2).trans x2;have Xj:M<w3.heap.size:=l_ Js Jd.size;have Ya:Hid (aA (Sb E v H) w w3):=Jn.out.next Jd (λx hx=>.inr o_);clear Jk Jd x2 Js;go_wp2;go_roundw
   case rel=>exact⟨k+1,o_,by go_num,Xl,Xm,x3,Xj,Ya⟩
   case measure=>simp[RowKit.intOf];omega
  have Xe:k=f.pm.length:=o_;subst Xe;have Xf:Hid (jx E.t.gl [] f.pm=false):=(by show _=_;rw[HD.out];simp[D9]);have Xx:Hid (Cs E wr [f.pm] [b] J H f.pm (i:Int) (-1)):=by
   have:=HC.out
   rw[List.take_length]at this;exact this
  have X_:Hid ([f.pm].flatten=f.pm):=(by show _=_;simp);go_wp2_with fail;refine(Li _ E wr [f.pm] [b] J H f.pm (i:Int) (-1) f.bd _ 0 n_ Xx Xz Xu Xq HP Yc (by simp;omega) o_ o_ o_).mono ?_;rintro e w2 ⟨rfl,⟨v2,Xy,Xo,Jc,Xg,Jj⟩,Ja⟩;rw[X_.out];have Jq:Hid (Cs E w2 ([]++[f.pm]) ([]++[b]) v2 H Xy (i:Int) Xo):=Jc;have Jn:Hid (aA (Sb E v H) w w2):=HT.out.next Ja (oR Jm);have Ye:=HT.out.size;have Xk:Hid (∀k,v2.ownBlock=some k->v.ownBlock=some k\/w.heap.size<=k):=λk I=>by rcases Jj k I with q|q;exact Jm k q;exact .inr o_
  have HE:Hid (fD (bC E.t f.bd 0 f.pm f.pm).1 (i:Int) (bC E.t f.bd 0 f.pm f.pm).2.1=fD Jf.1 (i:Int) Jf.2.2):=by show _=_;rw[Je.out];unfold fe;rw[if_neg (by rw[Xf.out];simp)];by_cases q:(bC E.t f.bd 0 f.pm f.pm).1=0;rw[if_neg (by simp[q]),q];rfl;rw[if_pos q]
  rw[HE.out];have⟨ev,Jr⟩:=q_ (fD Jf.1 (i:Int) Jf.2.2);rw[<-Jr];have HV:=ah Jr;clear Jc Xg Jj Ja Z Jr;go_wp2_with fail;refine leaves_cons (f:=166) (args:=#[pV E.C]) i_ (by simp[go_sem]) ?_;refine(lE Jq .returning).mono ?_;rintro e u' Xr ⟨rfl,⟨u2,rfl⟩,v3,Jk,Jd,Xw⟩;exact⟨_,results_tmp rfl _ _ _,aC (by rw[<-HV.out];rfl),⟨v3,_,_,Jk,λk I=>Xk k (Xw ▸ I)⟩,Jn.out.trans (Jd.mono (λk h=>.inl h))⟩
end Go.Proofs.YtngnoopnloojjaaGreatDoor
