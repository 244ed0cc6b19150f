import Derived.Test.YtngnoopnloojjaaGreatDoorQ77
import Derived.Test.YtngnoopnloojjaaGreatDoorQ56
import Derived.Test.YtngnoopnloojjaaGreatDoorQ57
set_option linter.all false
set_option maxRecDepth 100000
set_option maxHeartbeats 0
namespace Go.Proofs.YtngnoopnloojjaaGreatDoor
open Go.Value Go.World List
open Go.Proofs.Tryz Go.RowKit
variable[Inhabited Pick]
section
variable{α:Type}{k:Nat}
def Jf(f r:Fu):Prop:=r.nm=f.nm/\r.pm=f.pm/\∃rs,og f.bd rs/\r.bd=aN rs
def AZ(fs rs:List Fu):Prop:=rs.length=fs.length/\∀j (h:j<fs.length) (h':j<rs.length),Jf fs[j] rs[j]
def AZ.names{I H:List Fu}(h:AZ I H)(s:IF):bU H s=bU I s:=by
 have e:H.map (·.nm)=I.map (·.nm):=by apply ext_getElem (by simp[h.1]);intro j J h2;simp only[getElem_map];exact(h.2 j (D4 h2) (D4 J)).1
 have Ja:∀l:List Fu,bU l s=(l.map (·.nm)).findIdx? (λx=>decide (x=s)):=λl=>by unfold bU;rw[findIdx?_map];rfl
 rw[Ja,Ja,e]
def GY.from{l:List St}{x:St}(h:jW l x)(Y:∀s∈l,GY s):GY x:=by obtain⟨s,X,Z,h2,h3,h4⟩:=h;have⟨O,U,H,J,I⟩:=Y s X;exact⟨by rw[h3];exact O,by rw[h4];exact U,by rw[h2];exact H,by rw[h3];exact J,by rw[h4];exact I⟩
def Jf.ok{f r:Fu}(h:Jf f r)(hf:funcB f=true):KX r:=by
 obtain⟨U,h2,rs,h3,h4⟩:=h;have⟨I,J,p3,H,p5,X⟩:=pU hf;refine⟨by rw[U];exact I,by rw[h2];exact J,?_,by rw[h2];exact H,λs hs=>?_⟩;rw[h4];have:=fX rs.length rs n_
 have:=h3.1
 omega;rw[h4]at hs;refine GY.from (gU _ rs n_ s hs) (λx hx=>?_);have⟨O,Z,Y⟩:=h3.ok X x hx;exact GY.of O Z Y
def bW{α:Type}(P:Nat->Bool)(fs:List α)(k:Nat):List α:=(List.range k).filterMap (λi=>if P i=true then fs[i]? else none)
def qC(P:Nat->Bool)(fs:List α):bW P fs 0=[]:=rfl
def nF{P:Nat->Bool}{H:List α}(I:k<H.length)(h:P k=true):bW P H (k+1)=bW P H k++[H[k]]:=by simp[bW,range_succ,filterMap_append,h,K3 I]
def xD{P:Nat->Bool}{H:List α}(h:P k=false):bW P H (k+1)=bW P H k:=by simp[bW,range_succ,filterMap_append,h]
def Da(P:Nat->Bool)(h:List α)(k:Nat):(bW P h k).length<=k:=by
 have:=length_filterMap_le (λi=>if P i=true then h[i]? else none) (List.range k)
 simpa[bW]using this
def Dc{β:Type}(P:Nat->Bool)(h:List α)(g:α->β)(k:Nat):(bW P h k).map g=bW P (h.map g) k:=by
 unfold bW;rw[map_filterMap];congr 1
 funext i
 split
 simp
 rfl
theorem td{α:Type}(P:Nat->Bool)(fs:List α):∀k,k<=fs.length->(bW P fs k).Sublist (fs.take k)
 | 0,_=>by simp[qC]
 | k+1,h=>by have ih:=td P fs k o_;rw[bP fs k o_];cases hp:P k;rw[xD hp];exact ih.trans (sublist_append_left _ _);rw[nF o_ hp];exact ih.append (List.Sublist.refl _)
def iJ(gs:List Gl)(fs:List Fu)(m i:Nat):Bool:=@decide (i=m\/gL ⟨gs,fs⟩ m i) (pdQ _)
def Gx(t:Tr)(r:Tr):Prop:=if (aL t).1=0 then ∃fs m,AZ t.fc fs/\bU t.fc mainS=some m/\r=⟨t.gl,bW (iJ t.gl fs m) fs fs.length⟩else r=⟨[],[]⟩
end
structure qD (B:Nat) (w:AT) (vp vb:BY) (r:Fu) (R:List SV):Prop where
 ps:w.ownsRow B 9 1 vp r.pm.length (jk r.pm)
 bd:aM B w vb R
 map:R.map (·.s)=r.bd
 sep:∀g,vp.ownBlock=some g->g∉cC R/\vb.ownBlock≠some g
theorem Dd{w:World}{v:Value}{H:List ByteArray}(h:Strs w v H):∃a cap,v=.slice a H.length cap/\(a=none->H.length=0)/\∀ad,a=some ad->∀j u,(jk H)[j]? =some u->w.cell? (ad.add j)=some u:=by
 obtain⟨a,cap,rfl,-,-,h⟩:=h;refine⟨a,cap,rfl,λe=>?_,λad had j u hu=>?_⟩;rcases Nat.eq_zero_or_pos H.length with h0|h0;exact h0;obtain⟨b,Ja,I,-⟩:=h h0;rw[e]at I;cases I;have J:=(List.getElem?_eq_some_iff.1 hu).1;rw[jk,List.length_map]at J;have⟨b,Ja,I,O⟩:=h o_;rw[had]at I;cases I;have e:(jk H)[j]? =some (sV H[j]):=by simp[jk,List.getElem?_eq_getElem J]
 rw[e]at hu;rw[gB,O j J,hu]
theorem lJ(f r:Fu)(vp vb:Value)(w:World)(hT:eG w)(hp:Strs w vp f.pm)(hb:be w vb f.bd)(hf:funcB f=true)(hs:Jf f r):
  Calls prog 54 #[.agg #[sV f.nm,vp,vb]] w λe w'=>∃vp' vb' R,e=rW (.agg #[sV r.nm,vp',vb'])/\qD w.heap.size w' vp' vb' r R/\Below w.heap.size w w':=by
 have⟨p1,p2,p3,p4,p5,p6⟩:=pU hf;obtain⟨s1,s2,rs,Y,s4⟩:=hs;have Jp:=hT.size;have Yf:rs.length<=500:=by rw[Y.1];exact p3
 have Xj:=ah λW (hW:Bl w W)=>qA vb f.bd rs W (hT.below Jp hW) (hb.below hW) Y o_ (λs h=>⟨by have:=(p6 s h).2.1;omega,by have:=(p6 s h).2.2;omega⟩);have Xc:=ah λW u (hW:Bl w W) (hu:be W u rs)=>nU rs u W (hT.below Jp hW) hu (by rw[Y.fit];exact p5) (Y.ok p6) o_;have Xf:Hid (od 1000):=qv 1000 n_;have Jy:Hid (oe 1000):=qB 1000 n_;have Yi:=fX rs.length rs n_;have Xh:Hid (∀s∈aN rs,Je s):=λs h=>Gw (gU _ rs n_ s h) (λx Z=>by have⟨q1,q2,q3⟩:=Y.ok p6 x Z;exact LU q1 q2 q3)
 obtain⟨J,I,rfl,Xl,Xi⟩:=Dd hp;have Yb:Hid (∀W,Bl w W->Calls prog 92 #[.slice J f.pm.length I] W λe w'=>∃u,e=rW u/\w'.ownsRow W.heap.size 9 1 u f.pm.length (jk f.pm)/\Bl W w'):=λW hW=>C7 J f.pm.length I (jk f.pm) W Xl (by simp[jk]) (λad had j u hu=>by have c:=Xi ad had j u hu;have Xp:=b_ c;exact(hW.cell Xp).trans c) (λu hu=>by simp only[jk,List.mem_map]at hu;obtain⟨x,-,rfl⟩:=hu;rfl) o_
 obtain⟨ab,cb,rfl,-⟩:=hb;have Xm:=ah s1;have Xs:=ah s2;have Xu:=ah s4;clear p1 p4 p5 p6 s1 s2 Y s4 Xl Xi hp hf hT Jp;go_in;go_wp2_with fail;have⟨M,H⟩:=q_ w.heap.size;have⟨W0,Jb⟩:=q_ (((w.alloc (.cells #[sV f.nm,.slice J f.pm.length I,.slice ab f.bd.length cb] 143)).alloc (.cells #[sV ⟨#[]⟩,nV,nV] 143)));have Xq:W0.heap.size=M+2:=by rw[Jb,H];simp
 have Ju:Bl w W0:=by rw[Jb];exact(aq _ _).alloc i_ _
 have HY:Hid (∀W,Bl W0 W->(W.cell? ⟨M,0,none⟩=some (sV f.nm)/\W.cell? ⟨M,1,none⟩=some (.slice J f.pm.length I))/\(W.cell? ⟨M+1,0,none⟩=some (sV ⟨#[]⟩)/\W.cell? ⟨M+1,1,none⟩=some nV/\W.cell? ⟨M+1,2,none⟩=some nV)/\∀j,W.frozen? ⟨M+1,j,none⟩=false):=λW hW=>by
  have e1:∀o,W.cell? ⟨M,o,none⟩=W0.cell? ⟨M,o,none⟩:=λo=>hW.cell (p:=⟨M,o,none⟩) (by show M<_;omega);have e2:∀o,W.cell? ⟨M+1,o,none⟩=W0.cell? ⟨M+1,o,none⟩:=λo=>hW.cell (p:=⟨M+1,o,none⟩) (by show M+1<_;omega);rw[e1,e1,e2,e2,e2];refine⟨⟨by rw[Jb,H];simp,by rw[Jb,H];simp⟩,⟨by rw[Jb,H];simp,by rw[Jb,H];simp,by rw[Jb,H];simp⟩,λj=>?_⟩;rw[hW.frozen (p:=⟨M+1,j,none⟩) (by show M+1<_;omega)];have hh:W0.heap[M+1]? =some (.cells #[sV ⟨#[]⟩,nV,nV] 143 (0,0)):=by
   have:=(MapKept.heap_alloc (w.alloc (.cells #[sV f.nm,.slice J f.pm.length I,.slice ab f.bd.length cb] 143)) (.cells #[sV ⟨#[]⟩,nV,nV] 143)).1
   rw[World.size_alloc,<-H,<-Jb]at this;exact this
  unfold World.frozen?;simp only[hh];simp
 have Jw:=ah λW (hW:Bl W0 W)=>Ju.trans (hW.mono Ju.size);rw[<-Jb,<-H];have Ya:=ah H;clear Jb H;refine(Xj.out W0 Ju).mono ?_;rintro e w1 ⟨u1,rfl,Ji,Jr⟩;obtain⟨Yg,Ye,rfl,-⟩:=id Ji;go_wp2_with fail;refine(Xc.out w1 _ (Jw.out w1 Jr) Ji).mono ?_;rintro e w2 ⟨u2,S2,rfl,Jl,Jx,Xg⟩;have Jj:Bl W0 w2:=Jr.trans (Xg.mono Jr.size);clear Ji;obtain⟨Yk,Yh,Yd,rfl⟩:∃a n c,u2=.slice a n c:=by obtain⟨A2,Xx,F2,⟨a,c,e,-⟩,-⟩:=id Jl;exact⟨a,A2,c,e⟩
 go_wp2_with fail;refine(Xf.out rs _ S2 w2 o_ Jl (λB hB=>(Jx B hB).2)).mono ?_;rintro e w3 ⟨u3,rfl,Xv,Jv⟩;have Jc:Bl W0 w3:=Jj.trans (Jv.mono Jj.size);obtain⟨S3,L3,Jz,J_,Xe,-⟩:=Xv;have Jh:Bk w3 (λB=>S2 B\/S3 B) u3 (aN rs):=by rw[<-Xe];exact Jz.bk
 have Jk:∀B,(S2 B\/S3 B)->B<w3.heap.size:=λB hB=>by
  rcases hB with h|h
  ·have:=(Jx B h).2;have:=Jv.size;omega
  exact(J_ B h).2
 have Xk:=ah λW (hW:Bl w3 W)=>Jy.out (aN rs) u3 _ W o_ (Jh.bel Jk hW) (λB hB=>l_ (Jk B hB) hW.size) Xh;obtain⟨Xn,Xw,Xt,rfl⟩:∃a n c,u3=.slice a n c:=by obtain⟨A2,Xx,F2,⟨a,c,e,-⟩,-⟩:=id Jh;exact⟨a,A2,c,e⟩
 clear Jl Jx Xg Jr Jj Jh Jk Jz J_ Xe Jv Xf Jy Xc Xj Xh;have HD:Hid (Bl w3 w3.drew):=r_.drew;have Jm:Bl W0 w3.drew:=Jc.trans (HD.out.mono Jc.size);obtain⟨⟨y0,y1⟩,-⟩:=HY.out _ Jm;have X:Hid (∀(W:World) (x:Nat) (y:Value),(W.cell? ⟨M,0,none⟩=some (sV f.nm)/\W.cell? ⟨M,1,none⟩=some (.slice J f.pm.length I))->(W.setCell ⟨M+1,x,none⟩ y).cell? ⟨M,0,none⟩=some (sV f.nm)/\(W.setCell ⟨M+1,x,none⟩ y).cell? ⟨M,1,none⟩=some (.slice J f.pm.length I)):=λW x y h=>⟨(c_ (a:=⟨M,0,none⟩) (Below.heap_setCell W ⟨M+1,x,none⟩ y _ (by show M≠M+1;omega))).trans h.1,(c_ (a:=⟨M,1,none⟩) (Below.heap_setCell W ⟨M+1,x,none⟩ y _ (by show M≠M+1;omega))).trans h.2⟩;have X_:Hid (Calls prog 92 #[.slice J f.pm.length I] w3.drew λe w'=>∃a n c,e=rW (.slice a n c)/\w'.ownsRow w3.heap.size 9 1 (.slice a n c) f.pm.length (jk f.pm)/\Bl w3 w'):=by
  refine(Yb.out _ (Jw.out _ Jm)).mono ?_;rintro e w' ⟨u,rfl,O,h2⟩;obtain⟨a,n,c,rfl⟩:∃a n c,u=.slice a n c:=by rcases O.2 with⟨rfl,-⟩|⟨g,Yj,Yc,rfl,-⟩ <;> exact⟨_,_,_,rfl⟩
  exact⟨a,n,c,rfl,O,HD.out.trans (h2.mono n_)⟩
 have Js:Hid (∀W,Bl w3 W->Calls prog 93 #[.slice Xn Xw Xt] W λe w'=>∃a n c,e=rW (.slice a n c)/\uC W w' (.slice a n c) (aN rs)/\Bl W w'):=λW hW=>by refine(Xk.out W hW).mono ?_;rintro e w' ⟨u,rfl,O,h2⟩;obtain⟨R,U,h3⟩:=O;obtain⟨a,c,rfl⟩:=U.shape;exact⟨a,_,c,rfl,⟨R,U,h3⟩,h2⟩
 have Ja:=ah Jc;clear Xk Jc Jm;go_upto_region 2 with fail;go_region_held3 (λW=>W.cell? ⟨M,0,none⟩=some (sV f.nm)/\W.cell? ⟨M,1,none⟩=some (.slice J f.pm.length I)) (first|go_keep|exact X.out _ _ _ q|exact X.out _ _ _ (X.out _ _ _ q)|exact X.out _ _ _ (X.out _ _ _ (X.out _ _ _ q)))
  (first
  | ((with_reducible refine Calls.mono X_.out ?_);intro x wt Z;obtain⟨a4,n4,c4,Jt,Jq,Jn⟩:=Z;subst Jt;have q:=(HY.out wt (Ja.out.trans (Jn.mono Ja.out.size))).1)
  | ((with_reducible refine Calls.mono (Js.out wt Jn) ?_);intro x wo Z;obtain⟨a5,n5,c5,Jt,Xy,Jd⟩:=Z;subst Jt;have Jo:Bl w3 wo:=Jn.trans (Jd.mono Jn.size);have q:=(HY.out wo (Ja.out.trans (Jo.mono Ja.out.size))).1;have⟨z0,z1,z2⟩:=(HY.out wo (Ja.out.trans (Jo.mono Ja.out.size))).2.1;have zf:=(HY.out wo (Ja.out.trans (Jo.mono Ja.out.size))).2.2))
 obtain⟨R,U,Xd⟩:=Xy;have Jp:M+2<=w3.heap.size/\w3.heap.size<=wt.heap.size/\wt.heap.size<=wo.heap.size:=⟨by rw[<-Xq];exact Ja.out.size,Jn.size,Jd.size⟩;have⟨W',Jg⟩:=q_ ((((wo.setCell ⟨M+1,0,none⟩ (sV f.nm)).setCell ⟨M+1,1,none⟩ (.slice a4 n4 c4)).setCell ⟨M+1,2,none⟩ (.slice a5 n5 c5)));have hk:∀g,g≠M+1->W'.heap[g]? =wo.heap[g]? := λg hg=>by rw[Jg,Below.heap_setCell _ _ _ g (by simpa using hg),Below.heap_setCell _ _ _ g (by simpa using hg),Below.heap_setCell _ _ _ g (by simpa using hg)]
 have Xa:wo.heap.size<=W'.heap.size:=by rw[Jg];simp
 have hw:=Ya.out;have Xb:Bl w W':=by have O:=Jw.out wo (Ja.out.trans (Jo.mono Ja.out.size));rw[Jg];exact((O.setCell (p:=⟨M+1,0,none⟩) (by show _<=M+1;omega) _).setCell (p:=⟨M+1,1,none⟩) (by show _<=M+1;omega) _).setCell (p:=⟨M+1,2,none⟩) (by show _<=M+1;omega) _
 have Xr:Hid (qD w.heap.size W' (.slice a4 n4 c4) (.slice a5 n5 c5) r R):=by
  refine⟨?_,?_,by rw[Xd,Xu.out],λg hg=>?_⟩
  ·rw[Xs.out];refine mh (gC (ownB Jq Jd) λg hg=>hk g ?_) o_;have:=(World.ownsRow.lt Jq g hg).1
   omega
  exact(U.keepB Xa (λg O h2=>hk g o_)).base o_;have O:=(World.ownsRow.lt Jq g hg).2;exact⟨λh=>by have:=(U.rng g h).1;omega,λh=>by have:=(World.ownsRow.lt U.row g h).1;omega⟩
 have Xo:=ah Xb;have Xz:=ah Jg;have t0:W'.cell? ⟨M+1,0,none⟩=some (sV f.nm):=by rw[Jg,s_ _ _ _ _ i_,s_ _ _ _ _ i_,World.cell?_setCell_same _ _ _ z0]
 have t1:W'.cell? ⟨M+1,1,none⟩=some (.slice a4 n4 c4):=by rw[Jg,s_ _ _ _ _ i_,World.cell?_setCell_same _ _ _ (by rw[s_ _ _ _ _ i_];exact z1)]
 have t2:W'.cell? ⟨M+1,2,none⟩=some (.slice a5 n5 c5):=by rw[Jg,World.cell?_setCell_same _ _ _ (by rw[s_ _ _ _ _ i_,s_ _ _ _ _ i_];exact z2)]
 clear U Xd Jq Jd Jo Jn hk Xa Xb Jg q;go_wp2_with fail;rw[<-Xz.out];refine bodyPost_ret (v:=.agg #[sV f.nm,.slice a4 n4 c4,.slice a5 n5 c5]) (by simp[results,results54,go_sem,t0,t1,t2]) rfl ⟨_,_,R,by rw[Xm.out],Xr,Xo⟩
def qD.fv{B:Nat}{w:AT}{O J:BY}{r:Fu}{R:List SV}(h:qD B w O J r R):∃kp kb,qN B w ⟨r,O,J,R,kp,kb⟩:=by
 have⟨kp,I,U⟩:=ir.of_own h.ps;have⟨kb,H,X⟩:=h.bd.m;refine⟨kp,kb,I,H,h.map,?_⟩;show(kp++(kb++cC R)).Nodup;rw[nodup_append];refine⟨?_,H.nd,λx hx y hy e=>?_⟩
 rcases I with⟨-,rfl,-⟩|⟨g,Ja,-,rfl,-⟩ <;> simp
 subst e;have⟨s1,s2⟩:=h.sep x ((U x).2 hx);rcases K5.1 hy with hy|hy;exact s2 ((X x).2 hy);exact s1 hy
variable{Q:List FV}{B m i:Nat}{w:AT}{gs:List Gl}{fs:List Fu}
theorem Gy{H:List FV}(h:Q.Sublist H):(kP Q).Sublist (kP H):=by
 induction h with
 | slnil=>exact List.Sublist.refl _
 | cons a h ih=>exact ih.trans (sublist_append_right (pT a) _)
 | cons_cons a h ih=>exact(List.Sublist.refl (pT a)).append ih
def bV.at{g c:Nat}(h:bV B w (rV g Q.length c) Q)(j:Nat)(H:j<Q.length):w.cell? ⟨g,j*3,none⟩=some (sV Q[j].f.nm)/\w.cell? ⟨g,j*3+1,none⟩=some Q[j].vp/\w.cell? ⟨g,j*3+2,none⟩=some Q[j].vb:=by
 have Ja:∀i,i<3->w.cell? ⟨g,j*3+i,none⟩=(dS Q[j])[i]? := λi hi=>by have I:(gy Q).length=Q.length*3:=sH Q;rw[ownsRow.cellAt h.row (j*3+i) o_,mW Q j i H hi]
 exact⟨Ja 0 o_,Ja 1 o_,Ja 2 o_⟩
def qN.slices{q:FV}(h:qN B w q):(∃a n c,q.vp=.slice a n c)/\∃a n c,q.vb=.slice a n c:=by obtain⟨a,c,I,-⟩:=h.ps.slice;obtain⟨H,c',h2,-⟩:=h.bd.row.slice;exact⟨⟨a,_,c,I⟩,⟨H,_,c',h2⟩⟩
def De(h:i=m\/gL ⟨gs,fs⟩ m i):iJ gs fs m i=true:=by exact @decide_eq_true _ (pdQ _) h
def Gz(h:¬(i=m\/gL ⟨gs,fs⟩ m i)):iJ gs fs m i=false:=by exact @decide_eq_false _ (pdQ _) h
theorem oE(gs:List Gl)(Q:List FV)(m B:Nat)(vg vf:Value)(w:World)(hm:bU (Q.map (·.f)) mainS=some m)(hl:Q.length<=1000)(Xj:∀q∈Q,KX q.f)(Z:∃a n c,vg=.slice a n c)(I:bV B w vf Q)(hB:B<=w.heap.size):
  Calls prog 55 #[.agg #[vg,vf]] w λe w'=>∃v,e=rW v/\bV B w' v (bW (iJ gs (Q.map (·.f)) m) Q Q.length)/\Below w.heap.size w w':=by
 obtain⟨U,O,X,rfl⟩:=Z;have HQ:=ah I;have Xd:Hid (cF w vf (Q.map (·.f))):=I.fc;obtain⟨af,J,rfl⟩:=I.shape;have HM:=ah hm;have Xz:m<Q.length:=by simpa using jv hm
 have HW:Hid (Bp (Q.map (·.f))):=⟨by simp;omega,λf I=>by obtain⟨q,Y,rfl⟩:=List.mem_map.1 I;exact(Xj q Y).wf⟩;have Xt:Hid (∀f∈Q.map (·.f),iP f):=λf I=>by obtain⟨q,Y,rfl⟩:=List.mem_map.1 I;exact(Xj q Y).small
 obtain⟨g,rfl⟩:∃g,af=some ⟨g,0,none⟩:=by rcases I.row.2 with⟨h,-⟩|⟨g,Yl,Yg,h,-⟩;simp only[Value.slice.injEq]at h;omega;simp only[Value.slice.injEq]at h;exact⟨g,h.1⟩
 have Yi:g<w.heap.size:=(World.ownsRow.lt I.row g rfl).2;clear I hm Xj;have⟨P,hP⟩:=q_ (iJ gs (Q.map (λq:FV=>q.f)) m);have HP:=ah hP;rw[<-hP];clear hP;go_in;go_wp2_with fail;have hA:Bl w (w.alloc (.cells #[.slice U O X,rV g Q.length J] 63)):=aq _ _;have Ji:(Q.map (·.f)).length=Q.length:=List.length_map _;have Xn:Hid (Calls prog 75 #[.agg #[.slice U O X,rV g Q.length J]] (w.alloc (.cells #[.slice U O X,rV g Q.length J] 63)) λe w'=>∃b D,e=rW (.map (some b))/\(w.alloc (.cells #[.slice U O X,rV g Q.length J] 63)).heap.size<=b/\w'.ownsMap prog 9 (plainElem (H:=Unit) prog 2) b (Q.map (·.f)).length D/\cY D (Q.map (·.f))/\Below (w.alloc (.cells #[.slice U O X,rV g Q.length J] 63)).heap.size (w.alloc (.cells #[.slice U O X,rV g Q.length J] 63)) w'):=jj (Q.map (λq:FV=>q.f)) _ _ _ (by rw[Ji];omega) HW.out (Xd.out.below hA);refine Xn.out.mono ?_;rintro e w1 ⟨bn,D,rfl,Yd,Jc,hN,Ja⟩;simp only[Bl,World.size_alloc]at Ja Yd;have⟨x0,x1⟩:=wd Ja;have Je:∀W:World,W=w1->(Instr.lookup 131 (.map (some bn)) (sV mainS) false).run prog W=.ok (V (m:Int)) W:=λW h=>by subst h;exact sN Jc hN d_ HM
 have Jb:=Je w1 rfl;have Jq:Bl w w1:=aR Ja;have Jg:=Ja.size;simp only[Bl,World.size_alloc]at Jg;clear Jc hN Xn Je;unfold mainS at Jb;have Xm:Hid (∀W,Bl w W->Calls prog 88 #[.agg #[.slice U O X,rV g Q.length J]] W λe w'=>∃v,e=rW v/\mr w' v (Q.map (λq:FV=>q.f))/\Bl W w'):=λW hW=>m7 (Q.map (λq:FV=>q.f)) _ _ W (by rw[Ji];omega) ⟨_,_,_,rfl⟩ HW.out Xt.out (Xd.out.below hW);have Xs:Hid (∀W v,mr W v (Q.map (λq:FV=>q.f))->Calls prog 94 #[v,V (m:Int)] W λe w'=>∃v out,e=rW v/\kQ W.heap.size w' v Q.length out/\(∀g,g∈out↔gL ⟨gs,Q.map (λq:FV=>q.f)⟩ m g)/\Bl W w'):=λW v hv=>by
  have:=kg ⟨gs,Q.map (λq:FV=>q.f)⟩ v m W (by rw[Ji];exact Xz) (by rw[Ji];exact hl) hv
  simp only[Ji]at this;exact this
 have Ye:=ah Ji;clear Ji hA;go_wp2_with fail;refine(Xm.out w1 Jq).mono ?_;rintro e w2 ⟨Yh,rfl,Xg,Js⟩;obtain⟨G,X_,rfl,-⟩:=id Xg;have Xq:=ah Xg;rw[Ye.out]at Xq⊢;clear Xg;have Jz:Bl w w2:=Jq.trans (Js.mono Jq.size);clear Jb x0 x1;have Xo:Below (w.heap.size+1) (w.alloc (.cells #[.slice U O X,rV g Q.length J] 63)) w2:=Ja.trans (Js.mono Jg);go_wp2_with fail;refine(Xs.out w2 _ Xq).mono ?_;rintro e w3 ⟨vr,out,rfl,Jw,Jj,Xb⟩;obtain⟨g3,c3,rfl,-,Yk⟩:=Jw.form o_;have Jk:Bl w w3:=Jz.trans (Xb.mono Jz.size);have Xi:Below (w.heap.size+1) (w.alloc (.cells #[.slice U O X,rV g Q.length J] 63)) w3:=Xo.trans (Xb.mono (by have:=Js.size;omega));have Ya:=ah Jw;have Jm:=ah Jj;have⟨x0,x1⟩:=wd Xi;clear Js Xb Jw Jj Xo Jz Jq Ja Xm Xs Xd HW Xt Jg;go_wp2_with fail;have Ym:=Jk.size;go_loopw[5,18] (λnv i wr=>∃k:Nat,k<=Q.length/\i=V k/\bV B wr nv (bW P Q k)/\(∀g,nv.ownBlock=some g->w3.heap.size<=g)/\Bl w3 wr) (λ_ i _=>Q.length-(RowKit.intOf i).toNat)
 case atStart=>exact⟨0,y_,rfl,bV.nil _ _,λg Z=>by simp[Value.ownBlock]at Z,r_⟩
 case round=>
  obtain⟨k,hk,rfl,Jh,Jc,Jd⟩:=hrel;obtain⟨av,cv,rfl⟩:=Jh.shape;have Jf:=ah Jh;have Jp:=ah Jc;have Xc:Bl w wr:=Jk.trans (Jd.mono Jk.size);have Yj:=Jd.size;clear Jh Jc;obtain⟨ll,Xf⟩:∃ll,(bW P Q k).length=ll:=⟨_,rfl⟩;rw[Xf]at Jf Jp⊢;have Xk:=ah Xf;clear Xf;by_cases hlt:k<Q.length
  ·have⟨c0,c1,c2⟩:=(HQ.out.below Xc).at k hlt;have Y:=(HQ.out.below Xc).each _ (g_ hlt);have Xw:=ah Y;have⟨⟨pa,pn,pc,hp⟩,⟨ba,Jl,bc,Jv⟩⟩:=Y.slices;rw[hp]at c1;rw[Jv]at c2;obtain⟨nm,Jx⟩:∃nm,Q[k].f.nm=nm:=⟨_,rfl⟩;rw[Jx]at c0;have HV:Hid (dS Q[k]=[sV nm,.slice pa pn pc,.slice ba Jl bc]):=(by show _=_;rw[dS,Jx,hp,Jv]);have HS:Hid (Q[k].vp.oneCell'=true/\Q[k].vb.oneCell'=true):=⟨by rw[hp];rfl,by rw[Jv];rfl⟩;have t0:=((Ya.out.below Jd).cell k hlt).1;have i1:(0:Int)<=(k:Int):=o_;have i2:(k:Int)<(Q.length:Int):=o_;have Xy:g3<wr.heap.size:=o_;have Yf:Hid ((k=m\/k∈out)->bW P Q (k+1)=bW P Q k++[Q[k]]):=λh=>nF hlt (by rw[HP.out];exact De (h.imp id (Jm.out k).1))
   have Xx:Hid (¬(k=m\/k∈out)->bW P Q (k+1)=bW P Q k):=λh=>xD (by rw[HP.out];exact Gz (λh'=>h (h'.imp id (Jm.out k).2)))
   have Jo:=td P Q k o_;have Xh:=HQ.out.nd;have Xa:Hid (∀x∈pT Q[k],x∉kP (bW P Q k)/\(Value.slice av ll cv).ownBlock≠some x):=λx hx=>by refine⟨λh=>?_,λh=>?_⟩;have e:Q=Q.take k++Q[k]::Q.drop (k+1):=(by rw[<-List.drop_eq_getElem_cons hlt,List.take_append_drop]);rw[e,blkF_append,List.nodup_append]at Xh;exact Xh.2.2 x ((Gy Jo).subset h) x (List.mem_append.2 (.inl hx)) rfl;have h1:=Jp.out x h;have h2:=(HQ.out.each _ (g_ hlt)).rng x hx;omega
   have Xp:Hid (∀W,Bl wr W->qN B W Q[k]/\bV B W (.slice av ll cv) (bW P Q k)):=λW hW=>⟨Xw.out.below hW,Jf.out.below hW⟩;clear Y hp Jv Jx Xc Jo Xh;by_cases hin:k=m\/k∈out
   ·have Jt:Hid (bW P Q (k+1)=bW P Q k++[Q[k]]):=Yf.out hin;have⟨W1,Ju⟩:=q_ ((wr.alloc (.cells #[sV nm,.slice pa pn pc,.slice ba Jl bc] 143)).alloc (.cells #[sV nm,.slice pa pn pc,.slice ba Jl bc] 143));have Ja:Bl wr W1:=(by rw[Ju];exact(aq _ _).alloc i_ _);have⟨Xu,Xl⟩:=Xp.out W1 Ja;have⟨v',w4,r1,r2,r3,r4⟩:=yW (w:=W1) (B:=B) (c:=1) (ad:=⟨wr.heap.size+1,0,none⟩) 61 Xl Xu (λj x hx=>by
     rw[HV.out]at hx;have hl:=(List.getElem?_eq_some_iff.1 hx).1;simp only[l_c,l_n]at hl;rw[Ju];match j,hl with
     | 0,_=>simp[gB]at hx⊢;exact hx
     | 1,_=>simp[gB]at hx⊢;exact hx
     | 2,_=>simp[gB]at hx⊢;exact hx) Xa.out HS.out (by have:=Ja.size;omega) (by rw[Xk.out];have:=Da P Q k;rw[Xk.out]at this;omega)
    obtain⟨Jy,Xe,rfl⟩:=r2.shape;have Xv:Bl w3 w4:=(Jd.trans (Ja.mono Jd.size)).grown r3 (by have:=Ja.size;omega) (λg Z=>Jp.out g Z);have Jn:=ah r2;have J_:Hid (∀g,(Value.slice Jy (bW P Q k++[Q[k]]).length Xe).ownBlock=some g->w3.heap.size<=g):=λg Z=>by
     rcases r4 g Z with h|h;exact Jp.out g h
     have:=Ja.size;omega
    obtain⟨l4,Xr⟩:∃l4,(bW P Q k++[Q[k]]).length=l4:=⟨_,rfl⟩;rw[Xr]at r1 Jn J_;rw[Ju]at r1;clear r2 r3 r4 Xu Xl Xr Ja Ju;by_cases Jr:k=m
    ·subst Jr;have b1:((k:Int) == (k:Int))=true:=i_
     go_wp2_with(at_builtin;refine aQ rfl _ _ _ rfl _ _ (.slice Jy l4 Xe) w4 rfl rfl r1 ?_);go_wp2;go_roundw
     case rel=>exact⟨k+1,o_,by go_num,by rw[Jt.out];exact Jn,J_,Xv⟩
     case measure=>simp[RowKit.intOf];omega
    have b1:((k:Int) == (m:Int))=false:=by have:¬(k:Int)=(m:Int):=o_;simpa using this
    rw[decide_eq_true (hin.resolve_left Jr)]at t0;go_wp2_with(at_builtin;refine aQ rfl _ _ _ rfl _ _ (.slice Jy l4 Xe) w4 rfl rfl r1 ?_);go_wp2;go_roundw
    case rel=>exact⟨k+1,o_,by go_num,by rw[Jt.out];exact Jn,J_,Xv⟩
    case measure=>simp[RowKit.intOf];omega
   have Jt:Hid (bW P Q (k+1)=bW P Q k):=Xx.out hin;have Jr:¬(k:Int)=(m:Int):=λh=>hin (.inl o_);have b1:((k:Int) == (m:Int))=false:=(by simpa using Jr);rw[decide_eq_false (λh=>hin (.inr h))]at t0;have Yc:Bl w3 (wr.alloc (.cells #[sV nm,.slice pa pn pc,.slice ba Jl bc] 143)):=Jd.alloc Jd.size _;have Jn:Hid (bV B (wr.alloc (.cells #[sV nm,.slice pa pn pc,.slice ba Jl bc] 143)) (.slice av ll cv) (bW P Q (k+1))):=by rw[Jt.out];exact(Xp.out _ (aq _ _)).2
   clear hin;go_wp2;go_roundw
   case rel=>exact⟨k+1,o_,by go_num,Jn,Jp,Yc⟩
   case measure=>simp[RowKit.intOf];omega
  obtain rfl:k=Q.length:=(by omega);have Yb:Hid (Bl w wr):=Jk.trans (Jd.mono Jk.size);go_wp2;go_ret;exact⟨_,rfl,Jf,Yb⟩
