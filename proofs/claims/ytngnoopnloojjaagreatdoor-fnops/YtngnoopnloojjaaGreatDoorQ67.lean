import Derived.Test.YtngnoopnloojjaaGreatDoorQ62
import Derived.Test.YtngnoopnloojjaaGreatDoorQ66
import Derived.Test.YtngnoopnloojjaaGreatDoorQ18
namespace Go.Proofs.YtngnoopnloojjaaGreatDoor
open Go.Value Go.World List
open Go.Proofs.Tryz Go.RowKit
set_option linter.all false
set_option maxRecDepth 100000
set_option maxHeartbeats 0
variable[Inhabited Pick]
section
variable{C:RC}{w:AT}{r:List Nd}{P:Program}{ops:Array Oper}{i:Nat}{a:Act}
structure EB (C:RC) (m:TV) (B:Nat) (w0:AT) (v0:BY) (w:AT) (v:BY) (xs:List Nd) (s:PS):Prop where
 st:cG C m w s
 row:dW B w v xs
 t:aA (λk=>k=C.P\/v0.ownBlock=some k) w0 w
 own:∀k,v.ownBlock=some k->v0.ownBlock=some k\/w0.heap.size<=k
 pb:C.P+1<B
 b0:B<=w0.heap.size
 r0:∀k,v0.ownBlock=some k->B<=k
def js(C:RC)(m:TV)(w:AT)(B:Nat)(v:BY)(r:List Nd)(s':PS)(e:Ending)(w':AT):Prop:=
 (¬ls (ak C.l) s'/\∃u,e=rW u/\EB C m B w v w' u r s')\/rh C w s' e w'
def EB.start{m:TV}{B:Nat}{v:BY}{xs:List Nd}{s:PS}(h:cG C m w s)(hr:dW B w v xs)(hp:C.P+1<B)(hb:B<=w.heap.size):EB C m B w v w v xs s:=
 ⟨h,hr,aA.refl _ _,λk hk=>.inl hk,hp,hb,λk hk=>(ownsRow.lt hr k hk).1⟩
section
variable{C:RC}{m:TV}{B:Nat}{w0 w w':AT}{v0 v:BY}{xs:List Nd}{s z:PS}
def EB.go(h:EB C m B w0 v0 w v xs s)(hz:cG C m w' z)(ht:aA (λk=>k=C.P) w w'):EB C m B w0 v0 w' v xs z:=
 ⟨hz,jE h.row ht (λk hk=>by rw[hk];have:=h.pb;omega),h.t.trans (ht.mono λk hk=>.inl hk),h.own,h.pb,h.b0,h.r0⟩
def EB.below(h:EB C m B w0 v0 w v xs s)(hb:Bl w w'):EB C m B w0 v0 w' v xs s:=
 ⟨h.st.below hb,dW.below h.row hb,h.t.of_below hb,h.own,h.pb,h.b0,h.r0⟩
def EB.then{u:BY}(h:EB C m B w0 v0 w v xs s)(h':EB C m B w v w' u r z):EB C m B w0 v0 w' u r z:=
 ⟨h'.st,h'.row,h.t.next h'.t (λk hk=>by
  rcases hk with hk|hk;exact .inl (.inl hk);rcases h.own k hk with h1|h1;exact .inl (.inr h1);exact .inr h1),λk hk=>by
  rcases h'.own k hk with h1|h1;exact h.own k h1;exact .inr (t_ h.t.size h1),h.pb,h.b0,h.r0⟩
def EB.bb(h:EB C m B w0 v0 w v xs s):Kp C w0 w:=m8 h.t (λk hk=>by
 have:=h.st.ok.hi
 have:=h.pb
 rcases hk with hk|hk;omega
 have:=h.r0 k hk;omega) (by have:=h.st.ok.hi;have:=h.pb;have:=h.b0;omega)
def EB.le(h:EB C m B w0 v0 w v xs s):B<=w.heap.size:=t_ h.b0 h.t.size
def EB.die{e:Ending}{w2:AT}{z':PS}(h:EB C m B w0 v0 w v xs s)(hd:rh C w z e w2)(hm:Dm (ak C.l) z z'):js C m w0 B v0 r z' e w2:=.inr (hd.later hm h.bb)
def EB.fin(h:EB C m B w0 v0 w v xs s):js C m w0 B v0 xs s (rW v) w:=.inl ⟨h.st.al,v,rfl,h⟩
def EB.app(h:EB C m B w0 v0 w v xs s){a:Option Addr}{c:Nat}{H:Nd}(Y:a_ w (.slice a 1 c) [H])(Z:xs.length<=2000000):
  ∃u w',(Builtin.append_ #[33,33] 33 #[v,.slice a 1 c]).run prog w=.ok u w'/\EB C m B w0 v0 w' u (xs++[H]) s/\aA (λk=>v.ownBlock=some k) w w':=by
 have⟨u,w',X,J,U,O⟩:=Fl (w:=w) B 33 v xs h.row _ [H] Y (by simp only[length_singleton];omega) h.le;have t:aA (λk=>v.ownBlock=some k) w w':=aA.of_grown U (λk h=>h);have I:∀k,v.ownBlock=some k->B<=k:=λk hk=>(ownsRow.lt h.row k hk).1;refine⟨u,w',X,⟨h.st.tcs t (λe=>Ht (I _ e) h.pb) (λk hk=>by have:=I k hk;have:=h.pb;have:=h.st.ok.hi;omega),J,h.t.next t (λk hk=>by
  rcases h.own k hk with h1|h1;exact .inl (.inr h1);exact .inr h1),λk hk=>by
  rcases O k hk with h1|h1;exact h.own k h1;exact .inr (t_ h.t.size h1),h.pb,h.b0,h.r0⟩,t⟩
def EB.lit{W:AT}{b:Nat}(h:EB C m B w0 v0 w v xs s)(J I:Int)(H:IF)(O:W=w.alloc (.cells #[V J,V I,sV H] 36))(hb:b=w.heap.size)(Z:xs.length<=2000000):
  ∃u w',(Builtin.append_ #[33,33] 33 #[v,rV b 1 1]).run prog W=.ok u w'/\js C m w0 B v0 (xs++[⟨J,I,H⟩]) s (rW u) w':=by
 have Ja:Bl w W:=by rw[O];exact r_.alloc n_ _
 have Y:a_ W (rV b 1 1) [⟨J,I,H⟩]:=by rw[O,hb];exact(qd w 0 y_ _ _ _).nodes
 obtain⟨u,w',X,U,-⟩:=(h.below Ja).app Y Z;exact⟨u,w',X,U.fin⟩
end
def zw{Q:Exit->Act->AT->Prop}{md:Region.Mode}{S:AT->Prop}{l:Nat}{j:Nat}{fuel:Nat}{listed:Array Bool}(h:Region.ready md ops listed=[i,j])
  (H:wpOp P ops Q i (λa' w'=>(i≠l->S w')/\eL P md ops Q S l fuel (listed.setIfInBounds i true) a' w') a w)
  (h2:wpOp P ops Q j (λa' w'=>(j≠l->S w')/\eL P md ops Q S l fuel (listed.setIfInBounds j true) a' w') a w):eL P md ops Q S l (fuel+1) listed a w:=by
 refine⟨λh0=>(by rw[h]at h0;cases h0),λk hk=>?_⟩;rw[h]at hk;simp only[mem_cons,not_mem_nil,or_false]at hk;rcases hk with rfl|rfl;exact H;exact h2
def AU{Q:Exit->Act->AT->Prop}{o:Oper}{K:Act->AT->Prop}(H:ops[i]? =some o)
  (h:if Region.wanted o (yielded ops a.tmps)=true then o.wp P a w K Q else K (a.put o.dst undef) w):wpOp P ops Q i K a w:=by
 unfold wpOp;simp only[H];split;rename_i hw;rw[if_pos hw]at h;exact .inl h;rename_i hw;rw[if_neg hw]at h;exact h
def OG(C:RC)(n:Nat):Prop:=∀(w:AT) (m:TV) (B:Nat) (s:PS) (least:Int) (v:BY) (xs a:List Nd) (s':PS),Pa (ak C.l) n (.e least) s (.n a) s'->cG C m w s->dW B w v xs->C.P+1<B->B<=w.heap.size->xs.length+a.length<=1000000->1<=least->least<=11 ->
 Calls prog 241 #[pV C.P,v,V least] w (js C m w B v (xs++a) s')
def OH(C:RC)(n:Nat):Prop:=∀(w:AT) (m:TV) (B:Nat) (s:PS) (v:BY) (xs a:List Nd) (s':PS),Pa (ak C.l) n .o s (.n a) s'->cG C m w s->dW B w v xs->C.P+1<B->B<=w.heap.size->xs.length+a.length<=1000000 ->
 Calls prog 258 #[pV C.P,v] w (js C m w B v (xs++a) s')
def FD(C:RC)(n:Nat):Prop:=∀(w:AT) (m:TV) (B:Nat) (s:PS) (x:IF) (v:BY) (xs a:List Nd) (s':PS),Pa (ak C.l) n (.ar x) s (.n a) s'->cG C m w s->dW B w v xs->C.P+1<B->B<=w.heap.size->xs.length+a.length<=1000000 ->
 Calls prog 217 #[pV C.P,v,sV x] w (js C m w B v (xs++a) s')
def NY(C:RC)(n:Nat):Prop:=∀(w:AT) (m:TV) (B:Nat) (s:PS) (v:BY) (xs a:List Nd) (s':PS),Pa (ak C.l) n (.e 1) s (.n a) s'->cG C m w s->dW B w v xs->C.P+1<B->B<=w.heap.size->xs.length+a.length<=1000000 ->
 Calls prog 218 #[pV C.P,v] w (js C m w B v (xs++a) s')
def FE{n:Nat}(h:OG C n):NY C n:=by
 intro w m B s v xs a s' O Y H X Z U;have HC:=ah (h w m B s 1 v xs a s' O Y H X Z U d_ d_);obtain⟨ad,cp,rfl,-⟩:=fo H;go_in;go_wp2_with fail;refine HC.o.mono ?_;rintro e w2 I;have J:=ah I;rcases I with⟨-,u,rfl,-⟩|⟨-,rfl,-⟩
 ·go_wp2;go_ret;exact J
 unfold aK at*;go_wp2_with fail;exact⟨rfl,J⟩
end
def Ps(a b c d:List Nd):a++(b++c++d)=a++b++c++d:=by simp[append_assoc]
def iw(w:AT):Bl w w.drew:=r_.drew
theorem FF{C:RC}(HN:nT C){n:Nat}(hO:OH C n)(Z:OG C n):OG C (n+1):=by
 intro w m B s Ja v xs a s' hP hS hr Xq Xu hl h1 h11;obtain⟨a0,Y,Yx,Xz⟩:∃a0 Y,Pa (ak C.l) n .o s (.n a0) Y/\Pa (ak C.l) n (.lp Ja a0) Y (.n a) s':=by
  cases hP using Pa_i with
  | ex n m s a0 Y r s' h1 h2=>exact⟨a0,Y,h1,h2⟩
 have Zc:a0.length<=a.length:=Xz.acc;have HO:=ah (hO w m B s v xs a0 Y Yx hS hr Xq Xu o_);have Xt:=ah Xz;have Yf:=ah (EB.start hS hr Xq Xu);have Zf:=ah HN;have Za:=ah λW z st u ys b z1 (hp:Pa (ak C.l) n (.e st) z (.n b) z1) (h:EB C m B w v W u ys z) (hl:ys.length+b.length<=1000000) (h1:1<=st) (h2:st<=11)=>Z W m B z st u ys b z1 hp h.st h.row h.pb h.le hl h1 h2;have Zh:=ah hl;clear hO Z hP Yx Xz Zc hS hr Xq Xu hl HN;go_in;go_wp2_with fail;refine HO.out.mono ?_;rintro e w1 (⟨-,u1,rfl,hE1⟩|hd)
 ·have Yw:=ah hE1;clear hE1 HO Yf;go_wp2;go_loopg[1] n (λgk u wr=>∃(o:List Nd) (z:PS),gk<=n/\Pa (ak C.l) gk (.lp Ja o) z (.n a) s'/\EB C m B w v wr u (xs++o) z)
  case atStart=>exact⟨a0,Y,n_,Xt,Yw⟩
  case round=>
   clear Yw Xt;obtain⟨o,z,Zt,hp,Z⟩:=hrel;have Xn:=ah (uo Z.st);have HE:=ah Z;have J_:=ah hp;clear Z hp;go_wp2_with fail;refine Xn.out.mono ?_;rintro e w2 ⟨Zo,Xj⟩;have Jg:=HE.out.below Xj;have Jt:=fR Jg.st.al;rcases Zo with⟨Yg,rfl⟩|⟨b,Zn,Js,rfl⟩
   ·rcases Fz J_.out with⟨h0,-,-⟩|⟨-,-,rfl,rfl⟩|⟨-,k,x,b,z1,-,Jn,-⟩
    ·exact absurd Jt h0
    ·have I:=ah (Jg.below (r_.alloc n_ (.cells #[sV ⟨#[]⟩,V 0,V 0,V 0] 391))).fin;have Yh:(0:Int)<Ja:=o_
     clear Jg Xj HE J_ Xn Yg Jt;go_wp2;go_ret;exact I
    rw[Yg]at Jn;cases Jn
   unfold IL;have Yd:=Hk b Zn;rcases Fz J_.out with⟨h0,-,-⟩|⟨-,Jk,rfl,rfl⟩|⟨-,k,x,U,z1,rfl,Jn,Yl,Yz,Zb⟩;exact absurd Jt h0
   ·have Yh:b.2.1<Ja:=Jk _ Js;have I:=ah (Jg.below (r_.alloc n_ (.cells #[sV (tx b.1),V b.2.1,V b.2.2.1,V b.2.2.2] 391))).fin;clear Jg Xj HE J_ Xn Js Jt Jk;generalize b.2.1=bst at*;generalize b.2.2.1=bk at*;generalize b.2.2.2=bv at*;go_wp2;go_ret;exact I
   rw[Js]at Jn;cases Jn;have Yh:¬b.2.1<Ja:=(by have h:Ja<=b.2.1:=Yl;omega);have Jq:aJ (ak C.l) b.1 z=true:=(DU Js).1;have Xa:Pa (ak C.l) k (.e (b.2.1+1)) z.ad (.n U) z1:=Yz;have Jm:Pa (ak C.l) k (.lp Ja (o++U++[⟨b.2.2.1,b.2.2.2,tx []⟩])) z1 (.n a) s':=Zb;have⟨W3,Xm⟩:=q_ (w2.alloc (.cells #[sV (tx b.1),V b.2.1,V b.2.2.1,V b.2.2.2] 391));have⟨H,Xw⟩:=q_ w2.heap.size;have Ym:Bl w2 W3:=(by rw[Xm];exact r_.alloc n_ _);have Xh:dN W3 H [sV (tx b.1),V b.2.1,V b.2.2.1,V b.2.2.2]:=(by rw[Xm,Xw];exact de w2 #[sV (tx b.1),V b.2.1,V b.2.2.1,V b.2.2.2] _ (by show 4<=1000;omega));have Xv:H<W3.heap.size:=b_ (Xh 0 _ rfl).1;have Xf:=Jg.below Ym;have Jv:C.P≠H:=(by have:=Jg.st.lt;omega);have Jr:∀k,u1.ownBlock=some k->k≠H:=λk hk=>by have:=(World.ownsRow.lt Jg.row k hk).2;omega
   have HA:=ah (oT Zf.out Xf.st (zq Xf.st Jq));have y1:=(Xh 1 _ rfl).1;have Yo:=ah Xh;have X_:=ah Xf;have Xl:=ah Xa;have Xg:=ah Jm;have Yq:=ah Xm;have Zl:=ah Xw;have Jl:=ah Jv;have Jj:=ah Jr;have Xc:=ah Yd;have Xp:k<=n:=o_;have Yy:(xs++o).length+U.length<=1000000:=by
    have:=Jm.acc
    have:=Zh.out
    simp only[PT.acc,PR.sz,l_a,List.length_singleton]at*;omega
   have Xe:=ah Yy;clear Jg Xf Xj Ym Xh Xm Xw Jv Jr Yz Zb Xa Jm Js Jt Jq Xn J_ HE Yd Yy Yl;generalize tx b.1=bsy at*;generalize b.2.1=bst at*;generalize b.2.2.1=bk at*;generalize b.2.2.2=bv at*;go_upto_region 3 with fail;rw[<-Yq.out,<-Zl.out];go_wp2_with fail;refine HA.out.mono ?_;rintro e w4 (⟨-,rfl,z4,t4⟩|hd)
   ·have Yv:=X_.out.go z4 t4;have Ye:=Yo.out.tcs Xv t4 (λe=>Jl.out e.symm);have Yr:H<w4.heap.size:=l_ Xv t4.size;have⟨W5,Xy⟩:=q_ w4.drew;have Xo:Bl w4 W5:=(by rw[Xy];exact iw w4);have Xs:=Yv.below Xo;have Jp:=Ye.below Xo;have Y_:H<W5.heap.size:=l_ Yr Xo.size;have J:=ah (show W5.cell? ⟨H,1,none⟩=some (V bst)/\W5.cell? ⟨H,2,none⟩=some (V bk)/\W5.cell? ⟨H,3,none⟩=some (V bv)from⟨(Jp 1 _ rfl).1,(Jp 2 _ rfl).1,(Jp 3 _ rfl).1⟩);have Zs:IntKind.i64.wrap (bst+1)=bst+1:=(by have:=Xc.out;rw[IntKind.wrap_i64];omega);have Yi:=ah (Za.out W5 z.ad (bst+1) u1 (xs++o) U z1 (Pa.ups Xp Xl) Xs Xe.out (by have:=Xc.out;omega) (by have:=Xc.out;omega));have Jx:=ah Xs;have Yk:=ah Jp;have Zm:=ah Xy;have Xk:=ah Y_;have Yt:=ah (Xg.out.dm);have Zp:=ah (Pa.ups Xp Xl);have Jw:Hid (∀W u,EB C m B w v W u (xs++o++U++[⟨bk,bv,tx []⟩]) z1->∃(o':List Nd) (z':PS),k<=n/\Pa (ak C.l) k (.lp Ja o') z' (.n a) s'/\EB C m B w v W u (xs++o') z'):=λW u h=>⟨_,z1,Xp,Xg,by rw[Ps];exact h⟩;clear z4 t4 Yv Ye Xo Xs Jp Xy y1 HA X_ Yo Xl Xg Yq Xv Yr Y_;go_upto_region 6 with fail;refine db 13 (λX=>X.cell? ⟨H,1,none⟩=some (V bst)/\X.cell? ⟨H,2,none⟩=some (V bk)/\X.cell? ⟨H,3,none⟩=some (V bv)) k_ ?_;rw[<-Zm.out];refine tk 0 [5,12,13] J.out ?_;refine tk 1 [5,12,13] J.out ?_;refine tk 2 [3,4,5,12,13] J.out ?_;refine tk 3 [4,5,12,13] J.out ?_;refine tk 4 [5,12,13] J.out ?_;refine tk 6 [7,10,11,12,13] J.out ?_;refine tk 7 [10,11,12,13] J.out ?_;refine tk 8 [9,10,11,12,13] J.out ?_;refine tk 9 [10,11,12,13] J.out ?_;refine tk 10 [11,12,13] J.out ?_;clear J;refine zw (i:=5) (j:=11) k_ ?_ ?_
    ·refine AU rfl ?_;go_simp;refine Yi.out.mono ?_;rintro e w6 (⟨-,u6,rfl,Je⟩|hd)
     ·have Ju:=Jx.out.then Je;have Jc:=Yk.out.tcs Xk.out Je.t (λe=>by rcases e with e|e;exact Jl.out e.symm;exact Jj.out _ e rfl);have Jy:H<w6.heap.size:=l_ Xk.out Je.t.size;have Yn:∀k,u6.ownBlock=some k->k≠H:=λk hk=>by
       rcases Je.own k hk with h|h;exact Jj.out k h
       have:=Xk.out;omega
      have⟨W7,Xi⟩:=q_ (w6.alloc (.cells #[V bk,V bv,sV ⟨#[]⟩] 36));have⟨b7,Yb⟩:=q_ w6.heap.size;have Jf:Bl w6 W7:=(by rw[Xi];exact r_.alloc n_ _);have Jz:a_ W7 (rV b7 1 1) [⟨bk,bv,tx []⟩]:=(by rw[Xi,Yb];exact(qd w6 0 y_ _ _ _).nodes);have Jd:=Jc.below Jf;have Jb:(xs++o++U).length<=2000000:=(by have:=Xe.out;rw[l_a];omega);have⟨u8,O,r8,Jo,t8⟩:=(Ju.below Jf).app Jz Jb;have Ji:=Jd.tcs (l_ Jy Jf.size) t8 (λe=>Yn _ e rfl);have Zq:=ah (show W7.cell? ⟨H,1,none⟩=some (V bst)/\W7.cell? ⟨H,2,none⟩=some (V bk)/\W7.cell? ⟨H,3,none⟩=some (V bv)from⟨(Jd 1 _ rfl).1,(Jd 2 _ rfl).1,(Jd 3 _ rfl).1⟩);have Ya:=ah (show O.cell? ⟨H,1,none⟩=some (V bst)/\O.cell? ⟨H,2,none⟩=some (V bk)/\O.cell? ⟨H,3,none⟩=some (V bv)from⟨(Ji 1 _ rfl).1,(Ji 2 _ rfl).1,(Ji 3 _ rfl).1⟩);have Xr:=ah Jo;have Yc:=ah r8;have Ze:=ah Xi;have Zk:=ah Yb;refine⟨⟨(Jc 1 _ rfl).1,(Jc 2 _ rfl).1,(Jc 3 _ rfl).1⟩,?_⟩;clear Je Ju Jc Jy Yn Xi Yb Jf Jz Jd Jb r8 Jo t8 Ji;try simp only[Act.put,tA,tB,tC]
      refine aE (i:=11) k_ rfl (λK hK=>?_);go_simp;rw[<-Ze.out,<-Zk.out];refine hK.out _ _ (λ_=>Zq) ?_;clear hK K;try simp only[Act.put,tA,tB,tC]
      refine aE (i:=12) k_ rfl (λK hK=>?_);refine gj rfl (.tmp 27) (.tmp 33) 33 rfl u6 (rV b7 1 1) u8 O rfl rfl Yc.out ?_;refine hK.out _ _ (λ_=>Ya) ?_;clear hK K;try simp only[Act.put,tA,tB,tC]
      refine aE (i:=13) k_ rfl (λK hK=>?_);go_simp;refine hK.out _ _ (λh=>absurd rfl h) ?_;clear hK K;refine ct k_ ?_ _;go_wp2;go_roundg k
      case measure=>omega
      case rel=>exact Jw.out _ _ Xr
     have I:Hid (js C m w B v (xs++a) s' e w6):=Jx.out.die hd Yt;obtain⟨-,rfl,-⟩:=hd;unfold aK at*;go_wp2_with fail;exact⟨rfl,I⟩
    refine AU rfl ?_;go_simp;have⟨W6,Xd⟩:=q_ (W5.alloc (.cells #[V bk,V bv,sV ⟨#[]⟩] 36));have⟨b6,Xx⟩:=q_ W5.heap.size;rw[<-Xd,<-Xx];have Jh:Bl W5 W6:=(by rw[Xd];exact r_.alloc n_ _);have Yp:dW W5.heap.size W6 (rV b6 1 1) [⟨bk,bv,tx []⟩]:=(by rw[Xd,Xx];exact qd W5 _ n_ _ _ _);have Jc:=Yk.out.below Jh;have Jy:H<W6.heap.size:=l_ Xk.out Jh.size;have Je:=Jx.out.below Jh;have Zg:=ah (Za.out W6 z.ad (bst+1) u1 (xs++o) U z1 Zp.out Je Xe.out (by have:=Xc.out;omega) (by have:=Xc.out;omega));have Ys:=ah Je;have Zi:=ah Yp;have Zj:=ah Jc;have Zr:C.P<W5.heap.size:=Nat.lt_of_succ_lt Jx.out.st.lt;have Zd:∀k,u1.ownBlock=some k->k<W5.heap.size:=λk hk=>(World.ownsRow.lt Jx.out.row k hk).2;refine⟨⟨(Jc 1 _ rfl).1,(Jc 2 _ rfl).1,(Jc 3 _ rfl).1⟩,?_⟩;clear Xd Xx Jh Yp Jc Je Yi;try simp only[Act.put,tA,tB,tC]
    refine aE (i:=5) k_ rfl (λK hK=>?_);go_simp;refine Zg.out.mono ?_;rintro e w6 (⟨-,u6,rfl,hE7⟩|hd)
    ·have Xb:=Ys.out.then hE7;have Jd:=Zj.out.tcs Jy hE7.t (λe=>by rcases e with e|e;exact Jl.out e.symm;exact Jj.out _ e rfl);have Yu:H<w6.heap.size:=l_ Jy hE7.t.size;have Yj:∀k,u6.ownBlock=some k->k≠H:=λk hk=>by rcases hE7.own k hk with h|h;exact Jj.out k h;omega
     have Jz:dW W5.heap.size w6 (rV b6 1 1) [⟨bk,bv,tx []⟩]:=jE Zi.out hE7.t (λk hk=>by rcases hk with hk|hk;omega;exact Zd k hk);have Jb:(xs++o++U).length<=2000000:=(by have:=Xe.out;rw[l_a];omega);have⟨u8,O,r8,Jo,t8⟩:=Xb.app Jz.nodes Jb;have Ji:=Jd.tcs Yu t8 (λe=>Yj _ e rfl);have Ya:=ah (show O.cell? ⟨H,1,none⟩=some (V bst)/\O.cell? ⟨H,2,none⟩=some (V bk)/\O.cell? ⟨H,3,none⟩=some (V bv)from⟨(Ji 1 _ rfl).1,(Ji 2 _ rfl).1,(Ji 3 _ rfl).1⟩);have Xr:=ah Jo;have Yc:=ah r8;refine hK.out _ _ (λ_=>⟨(Jd 1 _ rfl).1,(Jd 2 _ rfl).1,(Jd 3 _ rfl).1⟩) ?_;clear hK K hE7 Xb Jd Yu Yj Jz Jb r8 Jo t8 Ji;try simp only[Act.put,tA,tB,tC]
     refine aE (i:=12) k_ rfl (λK hK=>?_);refine gj rfl (.tmp 27) (.tmp 33) 33 rfl u6 (rV b6 1 1) u8 O rfl rfl Yc.out ?_;refine hK.out _ _ (λ_=>Ya) ?_;clear hK K;try simp only[Act.put,tA,tB,tC]
     refine aE (i:=13) k_ rfl (λK hK=>?_);go_simp;refine hK.out _ _ (λh=>absurd rfl h) ?_;clear hK K;refine ct k_ ?_ _;go_wp2;go_roundg k
     case measure=>omega
     case rel=>exact Jw.out _ _ Xr
    have I:Hid (js C m w B v (xs++a) s' e w6):=Ys.out.die hd Yt;obtain⟨-,rfl,-⟩:=hd;unfold aK at*;go_wp2_with fail;exact⟨rfl,I⟩
   have I:Hid (js C m w B v (xs++a) s' e w4):=by have h:=X_.out.die hd ((Xl.out.dm).trans (Xg.out.dm)) (r:=xs++a);exact h
   obtain⟨-,rfl,-⟩:=hd;unfold aK at*;go_wp2_with fail;exact⟨rfl,I⟩
 have I:Hid (js C m w B v (xs++a) s' e w1):=Yf.out.die hd Xt.out.dm;obtain⟨-,rfl,-⟩:=hd;unfold aK at*;go_wp2_with fail;exact⟨rfl,I⟩
section
variable{C:RC}{n:Nat}
def sQ(B:Nat)(w:AT):dW B w nV []:=ownsRow_nil _ _ _ _
def PK(C:RC)(m:TV)(w:AT)(r:List Nd)(s':PS)(e:Ending)(w':AT):Prop:=js C m w w.heap.size nV r s' e w'
def Pt(C:RC)(n:Nat):Prop:=∀(w:AT) (m:TV) (s:PS) (a:List Nd) (s1:PS),Pa (ak C.l) n (.e 1) s (.n a) s1->cG C m w s->a.length<=1000000 ->
 Calls prog 198 #[pV C.P] w (PK C m w a (fM (ak C.l) [59] s1))
def LD(Z:nT C)(hE:NY C n):Pt C n:=by
 intro w m s a s1 O J hl;have Jb:=EB.start J (sQ w.heap.size w) J.lt n_;have Jc:=ah (hE w m w.heap.size s nV [] a s1 O J (sQ _ w) J.lt n_ (D4 hl));have Jd:=ah λW z (h:cG C m W z)=>jI Z h [59] d_;unfold PK;clear O J hE Z;go_in;go_wp2_with fail;refine(Jc).mono (λe w1 hg=>?_);rcases hg.symm with H|⟨-,u1,rfl,X⟩
 ·have I:Hid (js C m w w.heap.size nV a (fM (ak C.l) [59] s1) e w1):=Jb.die H (gr _ _);obtain⟨-,rfl,-⟩:=H;unfold aK at*;go_wp2_with fail;exact⟨rfl,I⟩
 have Ja:=Jb.then X;clear X;go_wp2_with fail;have Je:=ah (Jd.o w1 s1 Ja.st);refine(Je).mono (λe w2 hg=>?_);rcases hg.symm with H|⟨-,rfl,Y,U⟩
 ·have I:Hid (js C m w w.heap.size nV a (fM (ak C.l) [59] s1) e w2):=Ja.die H (Dm.refl _);obtain⟨-,rfl,-⟩:=H;unfold aK at*;go_wp2_with fail;exact⟨rfl,I⟩
 have Jf:=Ja.go Y U;clear Y U;go_wp2_with fail;have I:=ah Jf.fin;go_ret;exact I
end
theorem zx{C:RC}(HN:nT C){n:Nat}(hn:n<=1000000)(hE:NY C n):FD C (n+1):=by
 intro w m B s x v xs a s' hP hS hr Jy Xc hl;obtain⟨b,U,s1,X,rfl,rfl⟩:∃b U s1,Pa (ak C.l) n (.al 0 []) (dP (ak C.l) [40] s) (.a b U) s1/\a=b++[⟨4,U,x⟩]/\s'=iz (ak C.l) [41] s1:=by
  cases hP using Pa_i with
  | arg n x s a k s1 h1=>exact⟨a,k,s1,h1,rfl,rfl⟩
 simp only[l_a,length_singleton]at hl;have Jl:=EB.start hS hr Jy Xc;have Jx:=ah (jm HN hS [40] d_);have Xl:Hid (Dm (ak C.l) (dP (ak C.l) [40] s) (iz (ak C.l) [41] s1)):=X.dm.trans (dr _ _);have Xh:Hid (1<=s1.op):=by show 1<=s1.op;rw[X.op,on_op];have:=hS.op;omega
 have Jr:=FA X;have Jz:=ah λW z x (hx:jc x=true) (h:cG C m W z)=>fL h x hx;have Xa:=ah λW z y (hy:jc y=true) (h:cG C m W z) (ho:1<=z.op)=>jn HN h ho y hy;have Xi:=ah λW z u ys b z1 (X:Pa (ak C.l) n (.e 1) z (.n b) z1) (h:EB C m B w v W u ys z) (hl:ys.length+b.length<=1000000)=>hE W m B z u ys b z1 X h.st h.row h.pb h.le hl;have Xn:=ah λW z (h:cG C m W z)=>kh HN h [44] d_;have Jm:=ah hl;generalize dP (ak C.l) [40] s=z at*;clear hS hr Jy Xc hP X hE HN hl;go_in;go_wp2_with fail;refine(Jx).mono (λe w1 I=>?_);rcases I.symm with H|⟨-,rfl,J,t2⟩
 ·have O:Hid (js C m w B v (xs++(b++[⟨4,U,x⟩])) (iz (ak C.l) [41] s1) e w1):=Jl.die H (Xl);obtain⟨-,rfl,-⟩:=H;unfold aK at*;go_wp2_with fail;exact⟨rfl,O⟩
 have Jc:=Jl.go J t2;clear J t2;go_wp2_with fail;rcases Jr with⟨h0,-⟩|⟨h0,-,Z,rfl,rfl,rfl⟩|⟨h0,Xd,k1,b1,z1,rfl,Jk,Ja⟩;exact absurd (fR Jc.st.al) h0
 ·clear Jx Jl;refine(Jz.o w1 _ [41] d_ Jc.st).mono ?_;rintro e w9 ⟨rfl,Y⟩;rw[Y,Z];clear Y;go_wp2_with fail;have Jf:EB C m B w v w1 v (xs++[]) s1:=by rw[append_nil];exact Jc
  clear Jc;have Jv:=ah (Xa.o w1 _ [41] d_ Jf.st (by exact Xh));refine(Jv).mono (λe w5 I=>?_);rcases I.symm with H|⟨-,rfl,J,t2⟩
  ·have O:Hid (js C m w B v (xs++([]++[⟨4,0,x⟩])) (iz (ak C.l) [41] s1) e w5):=Jf.die H (Dm.refl _);obtain⟨-,rfl,-⟩:=H;unfold aK at*;go_wp2_with fail;exact⟨rfl,O⟩
  have Ji:=Jf.go J t2;clear J t2;have⟨W6,Jd⟩:=q_ (w5.alloc (.cells #[V (4),V (0),sV (x)] 36));have⟨B6,Je⟩:=q_ w5.heap.size;have⟨u6,w6,r6,f6⟩:=Ji.lit (4) (0) (x) Jd Je (by have:=Jm.o;simp only[l_a]at*;omega);have Ju:=ah Jd;have Jq:=ah Je;have Jp:=ah r6;have Jw:=ah f6;clear Jd Je r6 f6 Ji;go_wp2_with(at_builtin;rw[<-Ju.o,<-Jq.o];refine aQ rfl _ _ _ rfl _ _ u6 w6 rfl rfl Jp.o ?_);go_ret;have hF:=Jw.o;rw[append_assoc]at hF;exact hF
 have Z:aJ (ak C.l) [41] z=false:=by rcases Xd with h|h;exact absurd h d_;exact h
 have Jo:(xs.length:Int)+(b1.length:Int)<=1000000:=by
  have h1:=Jm.o;rcases Ja with⟨-,rfl,-,-⟩|⟨-,hq⟩
  ·(try simp only[nil_append]at h1);omega
  have:=hq.acc;simp only[PT.acc,PR.sz,nil_append]at this;omega
 have Jg:=ah Ja;have Jn:Hid (Dm (ak C.l) z1 (iz (ak C.l) [41] s1)):=by rcases Ja with⟨-,-,-,rfl⟩|⟨hq,hr⟩;exact dr _ _;exact(Dm.no (eI hq).1)
 have J_:=ah (Xi.o w1 z v xs b1 z1 Jk.up Jc o_);clear Ja Jk Jx Jl Xd;refine(Jz.o w1 _ [41] d_ Jc.st).mono ?_;rintro e w9 ⟨rfl,Y⟩;rw[Y,Z];clear Y;go_wp2_with fail;refine(J_).mono (λe w2 I=>?_);rcases I.symm with H|⟨-,u2,rfl,hn⟩
 ·have O:Hid (js C m w B v (xs++(b++[⟨4,U,x⟩])) (iz (ak C.l) [41] s1) e w2):=Jc.die H (Jn);obtain⟨-,rfl,-⟩:=H;unfold aK at*;go_wp2_with fail;exact⟨rfl,O⟩
 have Xe:=Jc.then hn;clear hn;go_wp2_with fail;have Xj:=ah Xe;clear Xe Jc J_ Z Jo;go_loopg[1,7] k1 (λgk u cn wr=>∃(o:List Nd) (q:Nat) (y:PS),gk<=k1/\1<=q/\q+gk<=k1+1/\cn=V (q:Int)/\((aJ (ak C.l) [44] y=false/\b=o/\U=(q:Int)/\s1=y)\/(aJ (ak C.l) [44] y=true/\Pa (ak C.l) gk (.al (q:Int) o) y.ad (.a b U) s1))/\EB C m B w v wr u (xs++o) y)
 case atStart=>exact⟨b1,1,z1,n_,n_,o_,rfl,Jg,Xj⟩
 case round=>
  clear Xj Jg Jn;obtain⟨o,q,y,Xr,Xp,Xq,rfl,Ja,hE⟩:=hrel;have Js:=ah (Xn.o _ _ hE.st);have Jj:=ah hE;clear hE;go_wp2_with fail;refine(Js).mono (λe w3 I=>?_);rcases Ja with⟨Z,rfl,rfl,rfl⟩|⟨Z,X⟩
  ·rcases I with⟨-,rfl,Y⟩|⟨Jh,-⟩
   ·have Jb:=Jj.o;rw[<-Y]at Jb;clear Jj Js Y;go_wp2_with fail;have Jv:=ah (Xa.o w3 _ [41] d_ Jb.st (by exact Xh));refine(Jv).mono (λe w5 I=>?_);rcases I.symm with H|⟨-,rfl,J,t2⟩
    ·have O:Hid (js C m w B v (xs++(b++[⟨4,(q:Int),x⟩])) (iz (ak C.l) [41] s1) e w5):=Jb.die H (Dm.refl _);obtain⟨-,rfl,-⟩:=H;unfold aK at*;go_wp2_with fail;exact⟨rfl,O⟩
    have Ji:=Jb.go J t2;clear J t2;have⟨W6,Jd⟩:=q_ (w5.alloc (.cells #[V (4),V ((q:Int)),sV (x)] 36));have⟨B6,Je⟩:=q_ w5.heap.size;have⟨u6,w6,r6,f6⟩:=Ji.lit (4) ((q:Int)) (x) Jd Je (by have:=Jm.o;simp only[l_a]at*;omega);have Ju:=ah Jd;have Jq:=ah Je;have Jp:=ah r6;have Jw:=ah f6;clear Jd Je r6 f6 Ji;go_wp2_with(at_builtin;rw[<-Ju.o,<-Jq.o];refine aQ rfl _ _ _ rfl _ _ u6 w6 rfl rfl Jp.o ?_);go_ret;have hF:=Jw.o;rw[append_assoc]at hF;exact hF
   rw[Z]at Jh;cases Jh
  rcases I with⟨Jh,-⟩|⟨-,I⟩;rw[Z]at Jh;cases Jh;have Xg:=ah X.dm;rcases I.symm with H|⟨-,rfl,z3,t3⟩
  ·have O:Hid (js C m w B v (xs++(b++[⟨4,U,x⟩])) (iz (ak C.l) [41] s1) e w3):=Jj.o.die H (Xg.o.trans (dr _ _));obtain⟨-,rfl,-⟩:=H;unfold aK at*;go_wp2_with fail;exact⟨rfl,O⟩
  have Jb:=Jj.o.go z3 t3;rcases FA X with⟨h0,-⟩|⟨-,h0,-⟩|⟨-,-,k2,b2,J,rfl,Jk,Ja⟩;exact absurd (fR Jb.st.al) h0;exact absurd o_ h0;have Jo:(xs++o).length+b2.length<=1000000:=by
   have h1:=Jm.o;rw[l_a];rcases Ja with⟨-,rfl,-,-⟩|⟨-,hq⟩;rw[l_a]at h1;omega
   have:=hq.acc;simp only[PT.acc,PR.sz,l_a]at this;omega
  have Xk:k2<=k1+1:=o_;have Xb:=ah (Xi.o w3 _ _ (xs++o) b2 J (Pa.ups Xk Jk) Jb Jo);have Jn:Hid (Dm (ak C.l) J (iz (ak C.l) [41] s1)):=by rcases Ja with⟨-,-,-,rfl⟩|⟨hq,hr⟩;exact dr _ _;exact(Dm.no (eI hq).1)
  have Jt:Hid (∀W u,EB C m B w v W u (xs++o++b2) J->∃(o':List Nd) (q':Nat) (y':PS),k2<=k1/\1<=q'/\q'+k2<=k1+1/\Value.int .i64 ((q:Int)+1)=V (q':Int)/\((aJ (ak C.l) [44] y'=false/\b=o'/\U=(q':Int)/\s1=y')\/(aJ (ak C.l) [44] y'=true/\Pa (ak C.l) k2 (.al (q':Int) o') y'.ad (.a b U) s1))/\EB C m B w v W u (xs++o') y'):=λW u h=>⟨o++b2,q+1,J,o_,o_,o_,by push_cast;rfl,by push_cast;exact Ja,by rw[<-append_assoc];exact h⟩;have Xo:(q:Int)<=1000001:=o_
  clear Ja Jk X z3 t3 Jo Js Jj Xg;go_wp2_with fail;refine(Xb).mono (λe w4 I=>?_);rcases I.symm with H|⟨-,u4,rfl,hn⟩
  ·have O:Hid (js C m w B v (xs++(b++[⟨4,U,x⟩])) (iz (ak C.l) [41] s1) e w4):=Jb.die H (Jn);obtain⟨-,rfl,-⟩:=H;unfold aK at*;go_wp2_with fail;exact⟨rfl,O⟩
  have Xf:=Jb.then hn;clear hn;go_wp2_with fail;have Xm:=ah Xf;clear Xf Jb Xb;go_roundg k2
  case measure=>omega
  case rel=>exact Jt.o _ _ Xm
section
variable{C:RC}{n:Nat}
def PL(C:RC)(n:Nat):Prop:=∀(w:AT) (m:TV) (B:Nat) (z:PS) (nm:IF) (v:BY) (xs a:List Nd) (s':PS),
 ((aJ (ak C.l) [91] z=true/\∃b,Pa (ak C.l) n (.pr [91] [93]) z (.n b) s'/\a=b++[⟨3,0,nm⟩])\/(aJ (ak C.l) [91] z=false/\aJ (ak C.l) [40] z=true/\Pa (ak C.l) n (.ar nm) z (.n a) s')\/(aJ (ak C.l) [91] z=false/\aJ (ak C.l) [40] z=false/\a=[⟨2,0,nm⟩]/\s'=z)) ->
 cG C m w z->dW B w v xs->C.P+1<B->B<=w.heap.size->xs.length+a.length<=1000000->Calls prog 271 #[pV C.P,v,sV nm] w (js C m w B v (xs++a) s')
def LE(HN:nT C)(hE:NY C n)(hC:FD C n):PL C n:=by
 intro w m B z nm v xs a s' Jw hS hr Jm Jn hl;have Ja:=EB.start hS hr Jm Jn;have Jf:=ah λW z x (hx:jc x=true) (h:cG C m W z)=>fL h x hx;have Js:=ah λW z y (hy:jc y=true) (h:cG C m W z) (ho:1<=z.op)=>jn HN h ho y hy;have Jt:=ah λW z u ys b U (O:Pa (ak C.l) n (.e 1) z (.n b) U) (h:EB C m B w v W u ys z) (hl:ys.length+b.length<=1000000)=>hE W m B z u ys b U O h.st h.row h.pb h.le hl;have Jv:=ah λW z y (hy:jc y=true) (h:cG C m W z)=>jm HN h y hy;have Jy:=ah λW (h:EB C m B w v W v xs z) (O:Pa (ak C.l) n (.ar nm) z (.n a) s')=>hC W m B z nm v xs a s' O h.st h.row h.pb h.le hl;clear hS hr Jm Jn hE HN hC;rcases Jw with⟨hi,b,O,rfl⟩|⟨hi,hj,O⟩|⟨hi,hj,rfl,rfl⟩
 ·have Je:=AS O;simp only[l_a,length_singleton]at hl;clear O;go_in;go_wp2_with fail;refine(Jf.o w _ [91] d_ Ja.st).mono ?_;rintro e w9 ⟨rfl,H⟩;rw[H,hi];clear H;go_wp2_with fail;have Jz:=ah (Jv.o w _ [91] d_ Ja.st);have Jr:Hid (Dm (ak C.l) (dP (ak C.l) [91] z) s'):=by rcases Je with⟨-,-,e⟩|⟨-,U,h1,e⟩;rw[e];exact dr _ _;rw[e];exact h1.dm.trans (dr _ _)
  have Jq:Hid ((dP (ak C.l) [91] z).op=z.op+1):=on_op _ _;have J_:=Ja.st.op.1;refine(Jz).mono (λe w2 hg=>?_);rcases hg.symm with I|⟨-,rfl,Z,X⟩
  ·have J:Hid (js C m w B v (xs++(b++[⟨3,0,nm⟩])) s' e w2):=Ja.die I (Jr);obtain⟨-,rfl,-⟩:=I;unfold aK at*;go_wp2_with fail;exact⟨rfl,J⟩
  have Jd:=Ja.go Z X;clear Z X;go_wp2_with fail;rcases Je with⟨h0,-,-⟩|⟨h0,U,Jg,rfl⟩;exact absurd (fR Jd.st.al) h0;have Jx:Hid (U.op=z.op+1):=Jg.op.trans Jq;have Ju:=ah (Jt.o w2 _ _ _ b U Jg Jd o_);clear Jg;refine(Ju).mono (λe w3 hg=>?_);rcases hg.symm with I|⟨-,u3,rfl,hn⟩
  ·have J:Hid (js C m w B v (xs++(b++[⟨3,0,nm⟩])) (iz (ak C.l) [93] U) e w3):=Jd.die I (dr _ _);obtain⟨-,rfl,-⟩:=I;unfold aK at*;go_wp2_with fail;exact⟨rfl,J⟩
  have Jj:=Jd.then hn;clear hn;go_wp2_with fail;have Jp:=ah (Js.o w3 _ [93] d_ Jj.st (by rw[Jx.o];omega));refine(Jp).mono (λe w4 hg=>?_);rcases hg.symm with I|⟨-,rfl,Z,X⟩
  ·have J:Hid (js C m w B v (xs++(b++[⟨3,0,nm⟩])) (iz (ak C.l) [93] U) e w4):=Jj.die I (Dm.refl _);obtain⟨-,rfl,-⟩:=I;unfold aK at*;go_wp2_with fail;exact⟨rfl,J⟩
  have Jo:=Jj.go Z X;clear Z X;have⟨W6,Jb⟩:=q_ (w4.alloc (.cells #[V (3),V (0),sV (nm)] 36));have⟨B6,Jc⟩:=q_ w4.heap.size;have⟨u6,w6,Y,f6⟩:=Jo.lit (3) (0) (nm) Jb Jc (by simp only[l_a];omega);have Jl:=ah Jb;have Jh:=ah Jc;have Ji:=ah Y;have Jk:=ah f6;clear Jb Jc Y f6 Jo;go_wp2_with(at_builtin;rw[<-Jl.o,<-Jh.o];refine aQ rfl _ _ _ rfl _ _ u6 w6 rfl rfl Ji.o ?_);go_ret;have hF:=Jk.o;rw[append_assoc]at hF;exact hF
 ·have HC:=ah (Jy.o w Ja O);clear O;go_in;go_wp2_with fail;refine(Jf.o w _ [91] d_ Ja.st).mono ?_;rintro e w9 ⟨rfl,H⟩;rw[H,hi];clear H;go_wp2_with fail;refine(Jf.o w _ [40] d_ Ja.st).mono ?_;rintro e w9 ⟨rfl,H⟩;rw[H,hj];clear H;go_wp2_with fail;refine(HC).mono (λe w2 hg=>?_);rcases hg.symm with I|⟨-,u2,rfl,hn⟩
  ·have J:Hid (js C m w B v (xs++a) s' e w2):=Ja.die I (Dm.refl _);obtain⟨-,rfl,-⟩:=I;unfold aK at*;go_wp2_with fail;exact⟨rfl,J⟩
  have Jd:=Ja.then hn;clear hn;go_wp2_with fail;have J:=ah Jd.fin;go_ret;exact J
 go_in;go_wp2_with fail;refine(Jf.o w _ [91] d_ Ja.st).mono ?_;rintro e w9 ⟨rfl,H⟩;rw[H,hi];clear H;go_wp2_with fail;refine(Jf.o w _ [40] d_ Ja.st).mono ?_;rintro e w9 ⟨rfl,H⟩;rw[H,hj];clear H;have⟨W6,Jb⟩:=q_ (w.alloc (.cells #[V (2),V (0),sV (nm)] 36));have⟨B6,Jc⟩:=q_ w.heap.size;have⟨u6,w6,Y,f6⟩:=Ja.lit (2) (0) (nm) Jb Jc (by simp only[length_singleton]at hl;omega);have Jl:=ah Jb;have Jh:=ah Jc;have Ji:=ah Y;have Jk:=ah f6;clear Jb Jc Y f6 Ja;go_wp2_with(at_builtin;rw[<-Jl.o,<-Jh.o];refine aQ rfl _ _ _ rfl _ _ u6 w6 rfl rfl Ji.o ?_);go_ret;exact Jk
def zy{m:TV}{w:AT}{s:PS}(h:cG C m w s){x:List UInt8}(O:jc x=true)(J:aJ (ak C.l) x s=true):fQ (ak C.l s.i)=3:=by obtain⟨tt,vl,U,I,-⟩:=h.bx;have H:=As (l:=C.l) (s:=s) (fR h.al) O (tt:=tt) (λh3=>I (.inr h3));rw[J]at H;simp only[Io,K0]at H;exact H.1
def PM(C:RC)(n:Nat):Prop:=∀(w:AT) (m:TV) (B:Nat) (s:PS) (v:BY) (xs a:List Nd) (s':PS),
 ((aJ (ak C.l) [40] s=true/\Pa (ak C.l) n (.pr [40] [41]) s (.n a) s') \/
   (aJ (ak C.l) [40] s=false/\aJ (ak C.l) [105,110] s=true/\a=[⟨5,0,tx []⟩]/\s'=iz (ak C.l) [41] (dP (ak C.l) [40] s.ad)) \/
   (aJ (ak C.l) [40] s=false/\aJ (ak C.l) [105,110] s=false/\s.er=0/\(ak C.l s.i).kd=2/\a=[⟨1,(ak C.l s.i).num,tx []⟩]/\s'=s.ad) \/
   (aJ (ak C.l) [40] s=false/\aJ (ak C.l) [105,110] s=false/\¬(s.er=0/\(ak C.l s.i).kd=2)/\(
    (aJ (ak C.l) [91] (cW (ak C.l) s).2=true/\∃b,Pa (ak C.l) n (.pr [91] [93]) (cW (ak C.l) s).2 (.n b) s'/\a=b++[⟨3,0,(cW (ak C.l) s).1⟩]) \/
    (aJ (ak C.l) [91] (cW (ak C.l) s).2=false/\aJ (ak C.l) [40] (cW (ak C.l) s).2=true/\Pa (ak C.l) n (.ar (cW (ak C.l) s).1) (cW (ak C.l) s).2 (.n a) s') \/
    (aJ (ak C.l) [91] (cW (ak C.l) s).2=false/\aJ (ak C.l) [40] (cW (ak C.l) s).2=false/\a=[⟨2,0,(cW (ak C.l) s).1⟩]/\s'=(cW (ak C.l) s).2)))) ->
 cG C m w s->dW B w v xs->C.P+1<B->B<=w.heap.size->xs.length+a.length<=1000000->Calls prog 266 #[pV C.P,v] w (js C m w B v (xs++a) s')
def LF(Z:nT C)(hE:NY C n)(hU:PL C n):PM C n:=by
 intro w m B s v xs a s' Jg X hr Ji Jj hl;have Ja:=EB.start X hr Ji Jj;have Xa:=ah λW z y (hy:jc y=true) (h:cG C m W z) (ho:1<=z.op)=>jn Z h ho y hy;have Jm:=ah λW z u ys b z1 (Y:Pa (ak C.l) n (.e 1) z (.n b) z1) (h:EB C m B w v W u ys z) (hl:ys.length+b.length<=1000000)=>hE W m B z u ys b z1 Y h.st h.row h.pb h.le hl;have Jx:=ah λW z y (hy:jc y=true) (h:cG C m W z)=>jm Z h y hy;have Jd:=ah (kh Z X [105,110] d_);have p2:=X.cki;rcases Jg with⟨hi,Y⟩|⟨hi,hj,rfl,rfl⟩|⟨hi,hj,h0,h2,rfl,rfl⟩|⟨hi,hj,hn,Jg⟩
 ·rw[zy X d_ hi]at p2;have hj:aJ (ak C.l) [105,110] s=false:=lF hi d_;have Jl:=AS Y;obtain⟨b,rfl⟩:=q_ a;clear Y X hr Ji Jj hE Z hU;go_in;go_wp2_with fail;refine Jd.o.mono (λe w1 I=>?_);rcases I with⟨-,rfl,hw⟩|⟨Je,-⟩
  ·rw[hw];clear hw Jd;go_wp2_with fail;have Jk:=ah (Jx.o w _ [40] d_ Ja.st);have Xb:Hid (Dm (ak C.l) (dP (ak C.l) [40] s) s'):=by rcases Jl with⟨-,-,e⟩|⟨-,z1,h1,e⟩;rw[e];exact dr _ _;rw[e];exact h1.dm.trans (dr _ _)
   have Jw:Hid ((dP (ak C.l) [40] s).op=s.op+1):=on_op _ _;have Xl:=Ja.st.op.1;refine(Jk).mono (λe w2 I=>?_);rcases I.symm with H|⟨-,rfl,U,O⟩
   ·have J:Hid (js C m w B v (xs++b) s' e w2):=Ja.die H (Xb);obtain⟨-,rfl,-⟩:=H;unfold aK at*;go_wp2_with fail;exact⟨rfl,J⟩
   have Jc:=Ja.go U O;clear U O;go_wp2_with fail;rcases Jl with⟨h0,-,-⟩|⟨h0,z1,Ju,rfl⟩;exact absurd (fR Jc.st.al) h0;have Xd:Hid (z1.op=s.op+1):=Ju.op.trans Jw;have Xi:=ah (Jm.o w2 _ _ _ b z1 Ju Jc o_);clear Ju;refine(Xi).mono (λe w3 I=>?_);rcases I.symm with H|⟨-,u3,rfl,hn⟩
   ·have J:Hid (js C m w B v (xs++b) (iz (ak C.l) [41] z1) e w3):=Jc.die H (dr _ _);obtain⟨-,rfl,-⟩:=H;unfold aK at*;go_wp2_with fail;exact⟨rfl,J⟩
   have Jp:=Jc.then hn;clear hn;go_wp2_with fail;have Jt:=ah (Xa.o w3 _ [41] d_ Jp.st (by rw[Xd.o];omega));refine(Jt).mono (λe w4 I=>?_);rcases I.symm with H|⟨-,rfl,U,O⟩
   ·have J:Hid (js C m w B v (xs++b) (iz (ak C.l) [41] z1) e w4):=Jp.die H (Dm.refl _);obtain⟨-,rfl,-⟩:=H;unfold aK at*;go_wp2_with fail;exact⟨rfl,J⟩
   have Jn:=Jp.go U O;clear U O;go_wp2_with fail;have J:=ah Jn.fin;go_ret;exact J
  rw[hj]at Je;cases Je
 ·rw[zy X d_ hj]at p2;have Xk:=X.op.1;have Jw:Hid ((dP (ak C.l) [40] s.ad).op=s.op+1):=(on_op _ _).trans rfl;clear X hr Ji Jj hE Z hU Jm;go_in;go_wp2_with fail;refine Jd.o.mono (λe w1 I=>?_);rcases I with⟨Je,-⟩|⟨-,I⟩
  ·rw[hj]at Je;cases Je
  rcases I.symm with H|⟨-,rfl,U,O⟩
  ·have J:Hid (js C m w B v (xs++[⟨5,0,tx []⟩]) (iz (ak C.l) [41] (dP (ak C.l) [40] s.ad)) e w1):=Ja.die H ((lO _ _).trans (dr _ _));obtain⟨-,rfl,-⟩:=H;unfold aK at*;go_wp2_with fail;exact⟨rfl,J⟩
  have Jb:=Ja.go U O;clear U O Jd;have Jk:=ah (Jx.o w1 _ [40] d_ Jb.st);go_wp2_with fail;refine(Jk).mono (λe w2 I=>?_);rcases I.symm with H|⟨-,rfl,U,O⟩
  ·have J:Hid (js C m w B v (xs++[⟨5,0,tx []⟩]) (iz (ak C.l) [41] (dP (ak C.l) [40] s.ad)) e w2):=Jb.die H (dr _ _);obtain⟨-,rfl,-⟩:=H;unfold aK at*;go_wp2_with fail;exact⟨rfl,J⟩
  have Jc:=Jb.go U O;clear U O;go_wp2_with fail;have Jt:=ah (Xa.o w2 _ [41] d_ Jc.st (by rw[Jw.o];omega));refine(Jt).mono (λe w4 I=>?_);rcases I.symm with H|⟨-,rfl,U,O⟩
  ·have J:Hid (js C m w B v (xs++[⟨5,0,tx []⟩]) (iz (ak C.l) [41] (dP (ak C.l) [40] s.ad)) e w4):=Jc.die H (Dm.refl _);obtain⟨-,rfl,-⟩:=H;unfold aK at*;go_wp2_with fail;exact⟨rfl,J⟩
  have Jn:=Jc.go U O;clear U O;have⟨W6,Jf⟩:=q_ (w4.alloc (.cells #[V (5),V (0),sV (⟨#[]⟩)] 36));have⟨B6,Jh⟩:=q_ w4.heap.size;have⟨u6,w6,r6,f6⟩:=Jn.lit (5) (0) (⟨#[]⟩) Jf Jh (by simp only[length_singleton]at hl;omega);have Jz:=ah Jf;have Jv:=ah Jh;have Jo:=ah r6;have Jr:=ah f6;clear Jf Jh r6 f6 Jn;go_wp2_with(at_builtin;rw[<-Jz.o,<-Jv.o];refine aQ rfl _ _ _ rfl _ _ u6 w6 rfl rfl Jo.o ?_);go_ret;exact Jr
 ·have Xg:fQ (ak C.l s.i)=2:=(ye (fd C.l s.i).1).2 h2;rw[Xg]at p2;have J_:=ah (Fs Z X);rw[DW h0 h2]at J_;generalize (ak C.l s.i).num=nv at*;clear X hr Ji Jj hE Z hU Jm Jd;go_in;go_wp2_with fail;refine(J_).mono (λe w1 I=>?_);rcases I.symm with H|⟨-,rfl,U,O⟩
  ·have J:Hid (js C m w B v (xs++[⟨1,nv,tx []⟩]) s.ad e w1):=Ja.die H (Dm.refl _);obtain⟨-,rfl,-⟩:=H;unfold aK at*;go_wp2_with fail;exact⟨rfl,J⟩
  have Jb:=Ja.go U O;clear U O;have⟨W6,Jf⟩:=q_ (w1.alloc (.cells #[V (1),V (nv),sV (⟨#[]⟩)] 36));have⟨B6,Jh⟩:=q_ w1.heap.size;have⟨u6,w6,r6,f6⟩:=Jb.lit (1) (nv) (⟨#[]⟩) Jf Jh (by simp only[length_singleton]at hl;omega);have Jz:=ah Jf;have Jv:=ah Jh;have Jo:=ah r6;have Jr:=ah f6;clear Jf Jh r6 f6 Jb;go_wp2_with(at_builtin;rw[<-Jz.o,<-Jv.o];refine aQ rfl _ _ _ rfl _ _ u6 w6 rfl rfl Jo.o ?_);go_ret;exact Jr
 have Jy:fQ (ak C.l s.i)≠2:=λe=>hn ⟨fR X.al,(ye (fd C.l s.i).1).1 e⟩;have e2:(fQ (ak C.l s.i) == 2)=false:=D4 Jy
 by_cases h1:fQ (ak C.l s.i)=1
 ·rw[h1]at p2;have Xj:=ah (nh Z X);have Xc:=ah λW (h:EB C m B w v W v xs (cW (ak C.l) s).2)=>hU W m B _ _ v xs a s' Jg h.st h.row h.pb h.le hl;have Jq:Hid (Dm (ak C.l) (cW (ak C.l) s).2 s'):=by rcases Jg with⟨-,b,Y,-⟩|⟨-,-,Y⟩|⟨-,-,-,rfl⟩;exact Y.dm;exact Y.dm;exact Dm.refl _
  clear Jg X hr Ji Jj hE Z hU Jm Jd hn Jy e2 h1;generalize cW (ak C.l) s=nz at*;obtain⟨nm,z⟩:=nz;dsimp only at*;go_in;go_wp2_with fail;refine(Xj).mono (λe w1 I=>?_);rcases I.symm with H|⟨-,rfl,U,O⟩
  ·have J:Hid (js C m w B v (xs++a) s' e w1):=Ja.die H (Jq);obtain⟨-,rfl,-⟩:=H;unfold aK at*;go_wp2_with fail;exact⟨rfl,J⟩
  have Jb:=Ja.go U O;clear U O;go_wp2_with fail;have Xe:=ah (Xc.o w1 Jb);refine(Xe).mono (λe w2 I=>?_);rcases I.symm with H|⟨-,u2,rfl,hn⟩
  ·have J:Hid (js C m w B v (xs++a) s' e w2):=Jb.die H (Dm.refl _);obtain⟨-,rfl,-⟩:=H;unfold aK at*;go_wp2_with fail;exact⟨rfl,J⟩
  have Jc:=Jb.then hn;clear hn;go_wp2_with fail;have J:=ah Jc.fin;go_ret;exact J
 have e1:(fQ (ak C.l s.i) == 1)=false:=(D4 h1);have Js:=JF (l:=C.l) (s:=s) (fR X.al);rw[decide_eq_false h1]at Js;have⟨d1,d2⟩:=JJ X.al Js;have⟨d3,d4⟩:=JI X.al hi;have Jq:Hid (Dm (ak C.l) (dP (ak C.l) [40] s) s'):=λ_=>by
  have hx:Dm (ak C.l) (cW (ak C.l) s).2 s':=by rcases Jg with⟨-,b,Y,-⟩|⟨-,-,Y⟩|⟨-,-,-,rfl⟩;exact Y.dm;exact Y.dm;exact Dm.refl _
  have⟨q1,q2⟩:=hx d1;exact⟨q1,by rw[q2,d2,d4]⟩
 have Jk:=ah (Jx.o w _ [40] d_ X);have Xh:=ah d3;generalize fQ (ak C.l s.i)=ki at*;clear Jg X hr Ji Jj hE Z hU Jm hn Jy h1 Js d1 d2 d3 d4;go_in;go_wp2_with fail;refine Jd.o.mono (λe w1 I=>?_);rcases I with⟨-,rfl,hw⟩|⟨Je,-⟩
 ·rw[hw];clear hw Jd;go_wp2_with fail;refine Jk.o.mono (λe w2 I=>?_);rcases I.symm with H|⟨Xf,-⟩
  ·have J:Hid (js C m w B v (xs++a) s' e w2):=Ja.die H (Jq);obtain⟨-,rfl,-⟩:=H;unfold aK at*;go_wp2_with fail;exact⟨rfl,J⟩
  exact absurd Xh.o Xf
 rw[hj]at Je;cases Je
end
section
variable{s:PS}{k n:Nat}{C:RC}
def LG(k:Nat)(h:k<3)(W:AT):(Instr.slice 9 (sV ⟨#[45,33,126]⟩) (some (V (k:Int))) (some (V ((k:Int)+1))) none).run prog W=.ok (sV (tx (i6.getD k []))) W:=by rcases(show k=0\/k=1\/k=2 by omega)with rfl|rfl|rfl <;> (show _=_;kernel_rfl)
def NZ(k:Nat)(h:k<3):IntKind.i64.wrap ((k:Int)+1)=(k:Int)+1/\wrap64 ((k:Int)+1)=(k:Int)+1/\(k:Int)<3:=by refine⟨?_,?_,o_⟩;rw[IntKind.wrap_i64];omega;unfold wrap64;omega
def LH(k:Nat)(h:k<3):jc (i6.getD k [])=true:=by rcases(show k=0\/k=1\/k=2 by omega)with rfl|rfl|rfl <;> decide
def IW{T:Nat->To}(hno:∀j,j<k->aJ T (i6.getD j []) s=false)(hi:aJ T (i6.getD k []) s=false):∀j,j<k+1->aJ T (i6.getD j []) s=false:=λj hj=>by by_cases e:j=k;subst e;exact hi;exact hno j o_
def FG{T:Nat->To}{a:List Nd}{I:PS}(J:k<3)(h:Pa T (n+1) .o s (.n a) I)(O:aJ T (i6.getD k []) s=true):
  ((dP T (i6.getD k []) s).er=0/\∃b s1,Pa T n .o (dP T (i6.getD k []) s) (.n b) s1/\a=b++[⟨6,(k:Int),tx []⟩]/\I={s1 with op:=s1.op-1}) \/
   ((dP T (i6.getD k []) s).er≠0/\I={dP T (i6.getD k []) s with op:=(dP T (i6.getD k []) s).op-1}):=by
 rcases JS h with⟨j,U,H,h2⟩|⟨H,-⟩;by_cases e:j=k;subst e;rcases h2 with h2|⟨h3,-,h4⟩;exact .inl h2;exact .inr ⟨h3,h4⟩
 have:=lF H (NX U J e)
 rw[O]at this;cases this
 have:=H k J
 rw[O]at this;cases this
def EB.drewN{m:TV}{B:Nat}{w0 w:AT}{v0 v:BY}{xs:List Nd}(h:EB C m B w0 v0 w v xs s)(n:Nat):EB C m B w0 v0 (w.drewN n) v xs s:=h.below ⟨rfl,rfl,rfl,n_,λ_ _=>rfl⟩
def FH(h:k<=3)(H:¬k<3):k=3:=by omega
theorem FI(HN:nT C)(hO:OH C n)(Xc:PM C n):OH C (n+1):=by
 intro w m B s v xs a s' hP hS hr Jx Xa O;have Jz:=EB.start hS hr Jx Xa;have Je:=ah hP;have Ji:Hid (∀W x,EB C m B w v W v xs s->jc x=true->∀q,Calls prog 114 #[pV C.P,sV (tx x)] (W.drewN q) λe w'=>e=rW (.bool (aJ (ak C.l) x s))/\w'=W.drewN q):=λW x h hx q=>fL (h.drewN q).st x hx;have Jg:=ah λW x (h:EB C m B w v W v xs s) (hi:aJ (ak C.l) x s=true)=>qh HN h.st hi;have Jk:=ah λW z b z1 (hp:Pa (ak C.l) n .o z (.n b) z1) (h:EB C m B w v W v xs z) (O:xs.length+b.length<=1000000)=>hO W m B z v xs b z1 hp h.st h.row h.pb h.le O;have Jl:Hid (∀W,EB C m B w v W v xs s->(∀k,k<3->aJ (ak C.l) (i6.getD k []) s=false)->Calls prog 266 #[pV C.P,v] W (js C m W B v (xs++a) s')):=λW h Jh=>by
  rcases JS hP with⟨j,Y,h1,-⟩|⟨-,Xn⟩
  have:=Jh j Y
  rw[h1]at this;cases this;exact Xc W m B s v xs a s' Xn h.st h.row h.pb h.le O
 have Xm:=ah O;have Jy:=ah Jz;have Xw:=hS.op;clear hP hS hr Jx Xa O hO Xc HN Jz;go_in;go_wp2;go_loopw[1,6] (λev i wr=>∃k:Nat,k<=3/\i=V k/\v=ev/\(∀j,j<k->aJ (ak C.l) (i6.getD j []) s=false)/\EB C m B w v wr v xs s) (λ_ i _=>3-(RowKit.intOf i).toNat)
 case atStart=>exact⟨0,y_,rfl,rfl,λj Y=>absurd Y (Nat.not_lt_zero _),Jy⟩
 case round=>
  clear Jy;obtain⟨k,hk,rfl,rfl,Jh,hE⟩:=hrel;have Jv:=ah Jh;have J:=ah hE;clear Jh hE;by_cases hlt:k<3
  ·have⟨Xt,Xs,Xu⟩:=NZ k hlt;have Xr:=LG k hlt;have Jc:=ah (Ji.o _ _ J.o (LH k hlt));have Jp:=ah (λh=>IW (k:=k) Jv.o h);have Jn:=ah (λh=>FG hlt Je.o h);have Js:Hid (aJ (ak C.l) (i6.getD k []) s=true->Dm (ak C.l) (dP (ak C.l) (i6.getD k []) s) s'):=λh=>by rcases FG hlt Je.o h with⟨-,b,s1,h1,-,rfl⟩|⟨-,rfl⟩;exact h1.dm.trans (rN _ _);exact rN _ _
   have Jq:=ah (λW h hi=>Jg.o W (i6.getD k []) h hi);have Xq:Hid ((dP (ak C.l) (i6.getD k []) s).op=s.op+1):=on_op _ _;generalize i6.getD k []=ux at*;cases hi:aJ (ak C.l) ux s with
   | false=>
    have Xl:=ah (Jp.o hi);have Jj:Hid (∀q,Calls prog 114 #[pV C.P,sV (tx ux)] (wr.drewN q) λe w'=>e=rW (.bool false)/\w'=wr.drewN q):=(by rw[hi]at Jc;exact Jc);clear Ji Jc Jp Jn Js Jq hi Je Jl Jk Jg;go_upto_region 4 with fail;go_quiet ((go_at_call 114;exact Calls.quiet_of_same (Jj.o _)));go_wp2;go_roundw
    case rel=>exact⟨k+1,hlt,by go_num,rfl,Xl,J.o.drewN _⟩
    case measure=>exact D1
   | true=>
    have Jj:Hid (∀q,Calls prog 114 #[pV C.P,sV (tx ux)] (wr.drewN q) λe w'=>e=rW (.bool true)/\w'=wr.drewN q):=(by rw[hi]at Jc;exact Jc);have Ju:=ah (Js.o hi);have Jf:=ah (Jn.o hi);have Jw:=ah (λW h=>Jq.o W h hi);clear Ji Jc Jp Jn Js Jq hi Je Jl Jg;generalize dP (ak C.l) ux s=z at*;go_upto_region 4 with fail;go_quiet ((go_at_call 114;exact Calls.quiet_of_same (Jj.o _)));have Ja:=J.o.drewN nq;have Xj:=ah (Jw.o _ Ja);clear Jw Jj J;generalize wr.drewN nq=w1 at*;go_wp2_with fail;refine(Xj).mono (λe w2 hg=>?_);rcases hg.symm with H|⟨-,rfl,z2,t2⟩
    ·have I:Hid (js C m w B v (xs++a) s' e w2):=Ja.die H (Ju);obtain⟨-,rfl,-⟩:=H;unfold aK at*;go_wp2_with fail;exact⟨rfl,I⟩
    have Jb:=Ja.go z2 t2;clear z2 t2;go_wp2_with fail;rcases Jf.o with⟨-,b,s1,Jt,rfl,rfl⟩|⟨h0,-⟩
    ·have Xe:=Xm.o;simp only[l_a,length_singleton]at Xe;have J_:=ah (Jk.o w2 z b s1 Jt Jb o_);have Xf:Hid (s1.op=s.op+1):=Jt.op.trans Xq;clear Jt Jf Jk;refine(J_).mono (λe w3 hg=>?_);rcases hg.symm with H|⟨-,u3,rfl,U⟩
     ·have I:Hid (js C m w B v (xs++(b++[⟨6,(k:Int),tx []⟩])) {s1 with op:=s1.op-1} e w3):=Jb.die H (rN _ _);obtain⟨-,rfl,-⟩:=H;unfold aK at*;go_wp2_with fail;exact⟨rfl,I⟩
     have Jd:=Jb.then U;clear U;have c8:=Jd.st.cop.1;have f8:=Jd.st.cop.2;have Xv:1<=s1.op/\s1.op<=30:=(Ht Jd.st.op.2 Xf.o);have⟨X,Z⟩:=Jd.st.reop (s1.op-1) o_;have⟨W4,Jm⟩:=q_ (w3.setCell ⟨C.P,8,none⟩ (V (s1.op-1)));rw[<-Jm]at X Z;have Xb:=Jd.go X Z;have Xg:=ah Jm;have Xi:(xs++b).length<=2000000:=(by rw[l_a];omega);clear Jm X Z Jd Jb Ja J_;go_upto_region 8 with fail;rw[<-Xg.o];clear c8 f8;have⟨W6,Jo⟩:=q_ (W4.alloc (.cells #[V (6),V ((k:Int)),sV (⟨#[]⟩)] 36));have⟨B6,Jr⟩:=q_ W4.heap.size;have⟨u6,w6,r6,f6⟩:=Xb.lit (6) ((k:Int)) (⟨#[]⟩) Jo Jr (Xi);have Xo:=ah Jo;have Xk:=ah Jr;have Xd:=ah r6;have Xp:=ah f6;clear Jo Jr r6 f6 Xb;go_wp2_with(at_builtin;rw[<-Xo.o,<-Xk.o];refine aQ rfl _ _ _ rfl _ _ u6 w6 rfl rfl Xd.o ?_);go_ret;have hF:=Xp.o;rw[append_assoc]at hF;exact hF
    exact absurd (fR Jb.st.al) h0
  obtain rfl:=FH hk hlt;have Xh:=ah (Jl.o _ J.o Jv);have Ja:=J.o;clear Jl Ji Je Jg Jk J Jv;go_wp2_with fail;refine(Xh).mono (λe w2 hg=>?_);rcases hg.symm with H|⟨-,u2,rfl,U⟩
  ·have I:Hid (js C m w B v (xs++a) s' e w2):=Ja.die H (Dm.refl _);obtain⟨-,rfl,-⟩:=H;unfold aK at*;go_wp2_with fail;exact⟨rfl,I⟩
  have Jb:=Ja.then U;clear U;go_wp2_with fail;have I:=ah Jb.fin;go_ret;exact I
theorem FJ{C:RC}(HN:nT C):∀n:Nat,n<=1000000->OG C n/\OH C n/\FD C n
 | 0,_=>⟨λ_ _ _ _ _ _ _ _ _ h=>(by cases h using Pa_i),λ_ _ _ _ _ _ _ _ h=>(by cases h using Pa_i),λ_ _ _ _ _ _ _ _ _ h=>(by cases h using Pa_i)⟩
 | n+1,hn=>by obtain⟨h1,h2,h3⟩:=FJ HN n o_;have hE:=FE h1;exact⟨FF HN h2 h1,FI HN h2 (LF HN hE (LE HN hE h3)),zx HN o_ hE⟩
end
section
variable{B:Nat}{w w':AT}{v:BY}{ns:List Nd}{K:List Nat}{S:DO}{R:List SV}{a:List St}
def FK(h:dW B w v ns):∃K,b9 B w v ns K/\(∀g,g∈K->v.ownBlock=some g)/\K.Nodup:=by
 have H:w.ownsRow B 36 3 v ns.length (ef ns):=h;rcases H.2 with⟨rfl,O⟩|⟨g,Jb,Jc,rfl,h3,h4,h5,h6,h7⟩
 have:ns=[]:=K1 O
 subst this;exact⟨[],.inl ⟨rfl,rfl,none,0,rfl,o_⟩,(λg hg=>by cases hg),nodup_nil⟩;refine⟨[g],.inr ⟨g,Jb,rfl,rfl,h5,by unfold maxLen at h6;exact h6,h3,(Array.getElem?_eq_some_iff.1 h4).1,?_,λj I=>ownsRow.frozenAt H j⟩,λx hx=>?_,nodup_cons.2 ⟨not_mem_nil,nodup_nil⟩⟩;obtain⟨a,c,e,-,-,U⟩:=dW.nodes h;intro j I;have⟨b,Jd,J,Ja⟩:=U o_;cases e;cases J;exact Ja j I;simp only[K7]at hx;rw[hx];rfl
def b9.cellO(h:b9 B w v ns K):v.oneCell'=true:=by rcases h with⟨-,-,a,c,rfl,-⟩|⟨g,Ja,rfl,-⟩ <;> rfl
def b9.tcs(h:b9 B w v ns K)(ht:aA S w w')(hn:∀g∈K,¬S g):b9 B w' v ns K:=h.keep ht.size λg hg=>ht.block g (h.rng g hg).2 (hn g hg)
theorem aM.tcs(h:aM B w v R)(ht:aA S w w')(hv:∀g,v.ownBlock=some g->¬S g)(hn:∀g∈cC R,¬S g):aM B w' v R:=
 ⟨wl h.row ht hv,λq hq=>⟨(h.each q hq).1.tcs ht λg hg=>hn g ((eW hq).1 g hg),(h.each q hq).2.tcs ht λg hg=>hn g ((eW hq).2 g hg)⟩,h.nd,h.out⟩
structure jR (C:RC) (m:TV) (B:Nat) (w0:AT) (v0:BY) (w:AT) (v:BY) (R:List SV) (s:PS):Prop where
 st:cG C m w s
 row:aM B w v R
 t:aA (λk=>k=C.P\/v0.ownBlock=some k) w0 w
 own:∀k,v.ownBlock=some k->v0.ownBlock=some k\/w0.heap.size<=k
 pb:C.P+1<B
 b0:B<=w0.heap.size
 r0:∀k,v0.ownBlock=some k->B<=k
def jR.start{C:RC}{m:TV}{s:PS}(h:cG C m w s)(hr:aM B w v R)(hp:C.P+1<B)(hb:B<=w.heap.size):jR C m B w v w v R s:=
 ⟨h,hr,aA.refl _ _,λk hk=>.inl hk,hp,hb,λk hk=>(ownsRow.lt hr.row k hk).1⟩
def rm(C:RC)(m:TV)(w:AT)(B:Nat)(v:BY)(R:List SV)(a:List St)(s':PS)(e:Ending)(w':AT):Prop:=
 (¬ls (ak C.l) s'/\∃u R2,e=rW u/\R2.map SV.s=a/\jR C m B w v w' u (R++R2) s')\/rh C w s' e w'
section
variable{C:RC}{m:TV}{B:Nat}{w0 w w':AT}{v0 v:BY}{R:List SV}{s z:PS}
def jR.go(h:jR C m B w0 v0 w v R s)(hz:cG C m w' z)(ht:aA (λk=>k=C.P) w w'):jR C m B w0 v0 w' v R z:=
 ⟨hz,h.row.tcs ht (λg hg e=>by have:=(ownsRow.lt h.row.row g hg).1;have:=h.pb;omega) (λg hg e=>by have:=(h.row.rng g hg).1;have:=h.pb;omega),h.t.trans (ht.mono λk hk=>.inl hk),h.own,h.pb,h.b0,h.r0⟩
def jR.then{u:BY}{R':List SV}(h:jR C m B w0 v0 w v R s)(h':jR C m B w v w' u R' z):jR C m B w0 v0 w' u R' z:=
 ⟨h'.st,h'.row,h.t.next h'.t (λk hk=>by
  rcases hk with hk|hk;exact .inl (.inl hk);rcases h.own k hk with h1|h1;exact .inl (.inr h1);exact .inr h1),λk hk=>by
  rcases h'.own k hk with h1|h1;exact h.own k h1;exact .inr (t_ h.t.size h1),h.pb,h.b0,h.r0⟩
def jR.bb(h:jR C m B w0 v0 w v R s):Kp C w0 w:=m8 h.t (λk hk=>by
 have:=h.st.ok.hi
 have:=h.pb
 rcases hk with hk|hk;omega
 have:=h.r0 k hk;omega) (by have:=h.st.ok.hi;have:=h.pb;have:=h.b0;omega)
def jR.le(h:jR C m B w0 v0 w v R s):B<=w.heap.size:=t_ h.b0 h.t.size
def jR.die{e:Ending}{w2:AT}{z':PS}(h:jR C m B w0 v0 w v R s)(hd:rh C w z e w2)(hm:Dm (ak C.l) z z'){Q:List SV}:rm C m w0 B v0 Q a z' e w2:=.inr (hd.later hm h.bb)
def jR.fin{R2:List SV}(h:jR C m B w0 v0 w v (R++R2) s)(ha:R2.map SV.s=a):rm C m w0 B v0 R a s (rW v) w:=.inl ⟨h.st.al,v,R2,rfl,ha,h⟩
theorem jR.app{w1 W:World}{b:Nat}(h:jR C m B w0 v0 w v R s)(q:SV)(I:b9 w1.heap.size w q.ve q.s.e q.ke)(H:b9 w1.heap.size w q.vf q.s.f q.kf)(hn:(q.ke++q.kf).Nodup)(hR:∀g∈cC R,g<w1.heap.size)(U:∀g,v.ownBlock=some g->g<w1.heap.size)(Jf:B<=w1.heap.size)
  (X:W=w.alloc (.cells #[V q.s.kd,sV q.s.nm,q.ve,q.vf,V q.s.th,V q.s.el] 254)) (J:b=w.heap.size) (hl:R.length<=2000000):
  ∃u w',(Builtin.append_ #[141,141] 141 #[v,rV b 1 1]).run prog W=.ok u w'/\jR C m B w0 v0 w' u (R++[q]) s:=by
 have⟨i0,hi,Jg,Jh,Ji⟩:=info_parts mU;have Ja:Bl w W:=by rw[X];exact r_.alloc n_ _
 have hx:dN W b (cellsS q):=by rw[X,J];exact de w #[V q.s.kd,sV q.s.nm,q.ve,q.vf,V q.s.th,V q.s.el] _ (by show 6<=1000;omega)
 have Jb:=h.row.below Ja;have Jm:=h.le;have⟨u,w',Z,r2,Y,O⟩:=ii (P:=prog) (w:=W) B 141 141 254 i0 _ 6 88 underlying141 hi Jg Jh Ji rfl d_ v R.length (cQ R) Jb.row (some ⟨b,0,none⟩) 1 1 (cellsS q) (λh=>by cases h) rfl (λad had j x hj=>by
  cases had;rw[Fp,Nat.zero_add];exact(hx j x hj).1) (λx hx=>by
  simp only[cellsS,List.mem_cons,List.not_mem_nil,or_false]at hx;rcases hx with rfl|rfl|rfl|rfl|rfl|rfl;rfl;rfl;exact I.cellO;exact H.cellO;rfl;rfl) o_ d_ (t_ Jm Ja.size)
 have t:aA (λk=>v.ownBlock=some k) W w':=aA.of_grown Y (λk h=>h);have Je:∀k,v.ownBlock=some k->B<=k:=λk hk=>(World.ownsRow.lt h.row.row k hk).1;have Jc:=I.keep Ja.size λg hg=>Ja.block g (I.rng g hg).2;have Jd:=H.keep Ja.size λg hg=>Ja.block g (H.rng g hg).2;have Jk:=Jc.tcs t (λg hg e=>by have:=(Jc.rng g hg).1;have:=U g e;omega);have Jl:=Jd.tcs t (λg hg e=>by have:=(Jd.rng g hg).1;have:=U g e;omega);have Jj:=h.st.below Ja;refine⟨u,w',Z,⟨Jj.tcs t (λe=>by have:=Je _ e;have:=h.pb;omega) (λk hk=>by have:=Je k hk;have:=h.pb;have:=h.st.ok.hi;omega),⟨?_,λx hx=>?_,?_,λg hg hm=>?_⟩,(h.t.of_below Ja).next t (λk hk=>by
  rcases h.own k hk with h1|h1;exact .inl (.inr h1);exact .inr h1),λk hk=>by
  rcases O k hk with h1|h1;exact h.own k h1;exact .inr (t_ (t_ h.t.size Ja.size) h1),h.pb,h.b0,h.r0⟩⟩
 rw[l_a,mc];simpa[cQ]using r2;rcases List.mem_append.1 hx with hx|hx;have J:=eW hx;exact⟨(Jb.each x hx).1.tcs t λg hg e=>h.row.out g e (J.1 g hg),(Jb.each x hx).2.tcs t λg hg e=>h.row.out g e (J.2 g hg)⟩;simp only[List.mem_singleton]at hx;subst hx;exact⟨Jk.base Jf,Jl.base Jf⟩
 ·rw[fj,List.nodup_append];refine⟨h.row.nd,by simpa[cC]using hn,λx hx y hy e=>?_⟩;subst e;have h1:=hR x hx;simp only[cC,List.flatMap_cons,List.flatMap_nil,List.append_nil,List.mem_append]at hy;rcases hy with hy|hy
  ·have:=(I.rng _ hy).1;omega
  have:=(H.rng _ hy).1;omega
 rw[fj]at hm;rcases List.mem_append.1 hm with hm|hm
 ·rcases O g hg with h1|h1
  ·exact h.row.out g h1 hm
  have:=(Jb.rng g hm).2;omega
 have hq:w1.heap.size<=g/\g<W.heap.size:=by simp only[cC,List.flatMap_cons,List.flatMap_nil,List.append_nil,List.mem_append]at hm;rcases hm with hm|hm;exact Jc.rng _ hm;exact Jd.rng _ hm
 rcases O g hg with h1|h1
 have:=U g h1;omega
 omega
end
end
section
variable{u:BY}{r a:List Nd}{V w0 W:AT}{Bs M:Nat}{C:RC}{m:TV}{xs:List BY}{z:PS}
structure BI (C:RC) (m:TV) (w0:AT) (M:Nat) (xs:List BY) (W:AT) (z:PS):Prop where
 st:cG C m W z
 bx:dN W M xs
 t:aA (λk=>k=C.P) w0 W
 m:M<W.heap.size
 mw:w0.heap.size<=M
 hl:C.P+1<w0.heap.size
section
variable{C:RC}{m:TV}{w0 W W':AT}{M:Nat}{xs:List BY}{z z':PS}
def BI.ne(h:BI C m w0 M xs W z):C.P≠M:=Ht h.mw h.hl
def BI.below(h:BI C m w0 M xs W z)(hb:Bl W W'):BI C m w0 M xs W' z:=⟨h.st.below hb,h.bx.below hb,h.t.of_below hb,l_ h.m hb.size,h.mw,h.hl⟩
def BI.go(h:BI C m w0 M xs W z)(hz:cG C m W' z')(ht:aA (λk=>k=C.P) W W'):BI C m w0 M xs W' z':=⟨hz,h.bx.tcs h.m ht (λe=>h.ne e.symm),h.t.trans ht,l_ h.m ht.size,h.mw,h.hl⟩
def BI.bb(h:BI C m w0 M xs W z):Kp C w0 W:=m8 h.t (λk hk=>by rw[hk];exact⟨h.st.ok.hi,o_⟩) (Ht h.st.ok.hi h.hl)
def BI.put(h:BI C m w0 M xs W z)(i:Nat)(u:BY)(J:W'=W.setCell ⟨M,i,none⟩ u):BI C m w0 M (xs.set i u) W' z/\aA (λk=>k=M) W W':=by
 have H:aA (λk=>k=M) W W':=by rw[J];exact(aA.refl (λk=>k=M) W).setCell (p:=⟨M,i,none⟩) rfl u
 have I:=h.bx.set i u;rw[<-J]at I;have O:=h.mw;have h2:=h.hl;have h3:=h.st.ok.hi;exact⟨⟨h.st.tcs H o_ (λk hk=>by omega),I,h.t.next H (λk hk=>.inr o_),l_ h.m H.size,h.mw,h.hl⟩,H⟩
def BI.q(h:BI C m w0 M xs W z){j:Nat}{v:BY}(hj:xs[j]? =some v):Bo W M j v/\By W M j:=h.bx j v hj
end
end
section
section
variable{C:RC}{m:TV}{B:Nat}{w0 w w':AT}{v0 v:BY}{R:List SV}{s z:PS}
def jR.fr{u:BY}{r:List Nd}(h:jR C m B w0 v0 w v R s)(hE:EB C m w.heap.size w nV w' u r z):jR C m B w0 v0 w' v R z/\dW w.heap.size w' u r:=
 ⟨h.go hE.st (hE.t.mono λk hk=>by rcases hk with hk|hk;exact hk;simp[ownBlock]at hk),hE.row⟩
def N_(Bs:Nat)(v:BY)(R:List SV):Prop:=(∀g∈cC R,g<Bs)/\∀g,v.ownBlock=some g->g<Bs
def jR.old(h:jR C m B w0 v0 w v R s):N_ w.heap.size v R:=⟨λg hg=>(h.row.rng g hg).2,λg hg=>(ownsRow.lt h.row.row g hg).2⟩
def jR.lit{w1 W:AT}{b:Nat}{u:BY}{a:List Nd}(h:jR C m B w0 v0 w v R s)(I:Int)(H:IF)(hr:dW w1.heap.size w u a)(J:N_ w1.heap.size v R)(hB:B<=w1.heap.size)(Y:W=w.alloc (.cells #[V I,sV H,u,nV,V 0,V 0] 254))(hb:b=w.heap.size)(Z:R.length<=2000000):
  ∃K u' w',(Builtin.append_ #[141,141] 141 #[v,rV b 1 1]).run prog W=.ok u' w'/\jR C m B w0 v0 w' u' (R++[⟨⟨I,H,a,[],0,0⟩,u,nV,K,[]⟩]) s:=by
 have⟨K,X,h2,h3⟩:=FK hr;have⟨u',w',U,O⟩:=h.app (w1:=w1) ⟨⟨I,H,a,[],0,0⟩,u,nV,K,[]⟩ X (b9.nil _ _) (by rw[append_nil];exact h3) J.1 J.2 hB Y hb Z;exact⟨K,u',w',U,O⟩
end
def Pu(C:RC)(n:Nat):Prop:=∀(w:AT) (m:TV) (B:Nat) (s:PS) (v:BY) (R:List SV) (a:List St) (s':PS),Pa (ak C.l) n .st s (.s a) s'->cG C m w s->aM B w v R->C.P+1<B->B<=w.heap.size->R.length+oy a<=1000000 ->
 Calls prog 182 #[pV C.P,v] w (rm C m w B v R a s')
def PN(C:RC)(n:Nat):Prop:=∀(w:AT) (m:TV) (B:Nat) (s:PS) (v:BY) (R:List SV) (a:List St) (s':PS),Pa (ak C.l) n .bl s (.s a) s'->cG C m w s->aM B w v R->C.P+1<B->B<=w.heap.size->R.length+oy a<=1000000 ->
 Calls prog 163 #[pV C.P,v] w (rm C m w B v R a s')
end
theorem FL{C:RC}(HN:nT C){n:Nat}(Jp:Pu C n):PN C (n+1):=by
 intro w m B s v R a s' hP H hr Ji Jl hl;obtain⟨s1,I,rfl⟩:∃s1,Pa (ak C.l) n (.bs []) (dP (ak C.l) [123] s) (.s a) s1/\s'=iz (ak C.l) [125] s1:=by
  cases hP using Pa_i with
  | blk n s a s1 h1=>exact⟨s1,h1,rfl⟩
 have Jd:=jR.start H hr Ji Jl;have Jn:=ah (jm HN H [123] d_);have Jm:Hid (Dm (ak C.l) (dP (ak C.l) [123] s) (iz (ak C.l) [125] s1)):=I.dm.trans (dr _ _);have Jr:Hid (1<=s1.op):=by show 1<=s1.op;rw[I.op,on_op];have:=H.op;omega
 have Jq:=ah λW y (h:cG C m W y)=>fL h [125] d_;have Jt:=ah λW y (h:cG C m W y) (ho:1<=y.op)=>jn HN h ho [125] d_;have Jx:=ah λW y u Q b U (I:Pa (ak C.l) n .st y (.s b) U) (h:jR C m B w v W u Q y) (hl:Q.length+oy b<=1000000)=>Jp W m B y u Q b U I h.st h.row h.pb h.le hl;have Js:=ah hl;have Jo:=ah I;generalize dP (ak C.l) [123] s=z at*;clear H hr Ji Jl hP I Jp HN hl;go_in;go_wp2_with fail;refine(Jn).mono (λe w1 hg=>?_);rcases hg.symm with O|⟨-,rfl,z2,Z⟩
 ·have J:Hid (rm C m w B v R a (iz (ak C.l) [125] s1) e w1):=Jd.die O (Jm);obtain⟨-,rfl,-⟩:=O;unfold aK at*;go_wp2_with fail;exact⟨rfl,J⟩
 have Jj:=Jd.go z2 Z;clear z2 Z;go_wp2_with fail;have Jg:Hid (jR C m B w v w1 v (R++[]) z):=by rw[append_nil];exact Jj
 clear Jj Jd Jn Jm;go_loopg[1] n (λgk u wr=>∃(X:List SV) (y:PS),gk<=n/\Pa (ak C.l) gk (.bs (X.map SV.s)) y (.s a) s1/\jR C m B w v wr u (R++X) y)
 case atStart=>exact⟨[],z,n_,Jo,Jg⟩
 case round=>
  clear Jg Jo;obtain⟨X,y,Jh,I,H⟩:=hrel;have Y:=ah (Jq.o _ _ H.st);have HS:=ah H;rcases LC I with⟨h0,-⟩|⟨-,hi,ha,rfl⟩|⟨-,hi,k,b,U,rfl,Jf,Jc⟩;exact absurd (fR H.st.al) h0
  ·rw[hi]at Y;have Jw:=ah (Jt.o _ _ H.st Jr);have HA:=ah ha;clear I Jh H hi ha;go_wp2_with fail;refine Y.o.mono ?_;rintro e w9 ⟨rfl,hw⟩;rw[hw];clear hw Y;have H:=HS.o;go_wp2_with fail;refine(Jw).mono (λe w5 hg=>?_);rcases hg.symm with O|⟨-,rfl,z2,Z⟩
   ·have J:Hid (rm C m w B v R a (iz (ak C.l) [125] s1) e w5):=H.die O (Dm.refl _);obtain⟨-,rfl,-⟩:=O;unfold aK at*;go_wp2_with fail;exact⟨rfl,J⟩
   have Ja:=H.go z2 Z;clear z2 Z;go_wp2_with fail;have J:=ah (Ja.fin HA.o.symm);clear Ja H;go_ret;exact J
  rw[hi]at Y;have Jk:(R++X).length+oy b<=1000000:=by have h1:=Jc.acc;simp only[PT.acc,PR.sz,Ar]at h1;have h2:=IV (X.map SV.s);rw[K8]at h2;have h3:=Js.o;rw[l_a];omega
  have Je:k<=n:=o_;have HC:=ah (Jx.o _ _ _ _ b U (Pa.ups Je Jf) H Jk);have Jv:Hid (Dm (ak C.l) U (iz (ak C.l) [125] s1)):=Jc.dm.trans (dr _ _);have Jb:Hid (∀W u Q,Q.map SV.s=b->jR C m B w v W u (R++X++Q) U->∃(R3:List SV) (y':PS),k<=n/\Pa (ak C.l) k (.bs (R3.map SV.s)) y' (.s a) s1/\jR C m B w v W u (R++R3) y'):=λW u Q hq h=>⟨X++Q,U,Je,by rw[map_append,hq];exact Jc,by rw[<-append_assoc];exact h⟩;clear I Jh H hi Jf Jc Jk;go_wp2_with fail;refine Y.o.mono ?_;rintro e w9 ⟨rfl,hw⟩;rw[hw];clear hw Y;have H:=HS.o;go_wp2_with fail;refine(HC).mono (λe w5 hg=>?_);rcases hg.symm with O|⟨-,u5,Q,rfl,Ju,hn⟩
  ·have J:Hid (rm C m w B v R a (iz (ak C.l) [125] s1) e w5):=H.die O (Jv);obtain⟨-,rfl,-⟩:=O;unfold aK at*;go_wp2_with fail;exact⟨rfl,J⟩
  have Ja:=H.then hn;clear hn;have J:=ah (Jb.o _ _ Q Ju Ja);clear Ja H Jb;go_wp2;go_roundg k
  case measure=>omega
  case rel=>exact J
section
variable{B b:Nat}{S:DO}{w w' w2 W:AT}{vg vf:BY}{t:Tr}{Q:List FV}
structure PO (B:Nat) (w:AT) (m:TV) (t:Tr) (t':Tr) (Q:List FV):Prop where
 own:aS B w m.vg m.vf t' Q
 fu:t'.fc=t.fc
 len:t'.gl.length=t.gl.length
 eq:m.nz=false->t'.gl=t.gl
 bad:m.nz=true->∃g∈t.gl,g.size= -1
def Dx(B:Nat)(w:AT)(m:TV)(t:Tr):Prop:=∃t' Q,PO B w m t t' Q
def IX(B:Nat)(w:AT):Dx B w ⟨nV,nV,false⟩ ⟨[],[]⟩:=⟨_,_,aS.nil B w,rfl,rfl,λ_=>rfl,λh=>by cases h⟩
def aS.tcs(h:aS B w vg vf t Q)(H:aA S w w')(I:∀k,S k->k<B):aS B w' vg vf t Q:=by have J:∀g,B<=g->g<w.heap.size->w'.heap[g]? =w.heap[g]? := λg h1 h2=>H.block g h2 (λs=>Ft (I g s));exact⟨jE h.gs H I,h.fs.keepB H.size J,h.map,h.sep⟩
def Dx.tcs{m:TV}(h:Dx B w m t)(J:aA S w w')(O:∀k,S k->k<B):Dx B w' m t:=by obtain⟨I,Q,H⟩:=h;exact⟨I,Q,H.own.tcs J O,H.fu,H.len,H.eq,H.bad⟩
def wL(C:RC)(B:Nat)(w:AT)(t':Tr)(s':PS)(e:Ending)(w':AT):Prop:=
 (¬ls (ak C.l) s'/\∃m',e=rW (.tuple #[])/\cG C m' w' s'/\Dx B w' m' t'/\aA (λk=>k=C.P\/B<=k) w w')\/rh C w s' e w'
def aS.addF{M:Nat}{I X:BY}{R:List SV}(h:aS B w vg vf t Q)(U:IF)(Z:List IF){B2:Nat}(ht:aA S w w2)(hS:∀k,S k->k<B)(hB:B<=w.heap.size)(hM:w.heap.size<=M)(Jm:M<=B2)
  (hp:zv M w2 I Z) (Jh:∀g,I.ownBlock=some g->g<B2) (hb:aM B2 w2 X R) (hW:W=w2.alloc (.cells #[sV U,I,X] 143)) (Ji:b=w2.heap.size) (hl:t.fc.length<=100000):
  ∃v' W',(Builtin.append_ #[61,61] 61 #[vf,rV b 1 1]).run prog W=.ok v' W'/\aA (λk=>vf.ownBlock=some k) w2 W'/\(∃a n c,v'=.slice a n c) /\
   ∃Q',aS B W' vg v' ⟨t.gl,t.fc++[⟨U,Z,R.map SV.s⟩]⟩ Q':=by
 have Ja:Bl w2 W:=by rw[hW];exact r_.alloc n_ _
 have Jl:=ht.size;have Jk:Q.length=t.fc.length:=by rw[<-h.map,K8]
 have h2:=h.tcs (ht.of_below Ja) hS;have⟨J,a1,a2⟩:=ir.of_own (Is (ownB hp Ja) (t_ hB hM));have⟨Y,H,b2⟩:=(hb.below Ja).m;have Jd:B<=B2:=o_;have hq:qN B W ⟨⟨U,Z,R.map SV.s⟩,I,X,R,J,Y⟩:=by
  refine⟨a1,⟨b9.up H.row Jd,λx O=>⟨(H.each x O).1.base Jd,(H.each x O).2.base Jd⟩,H.nd⟩,rfl,?_⟩;show(J++(Y++cC R)).Nodup;rw[nodup_append];refine⟨?_,H.nd,λx O y hy e=>?_⟩;rcases a1 with⟨-,e,-⟩|⟨g,Jj,-,e,-⟩ <;> (have e:J=_:=e;rw[e];simp)
  subst e;have h1:=Jh x ((a2 x).2 O);have h3:=(H.rng x hy).1;omega
 have Jb:∀g∈J++(Y++cC R),w.heap.size<=g:=λg hg=>by
  rcases K5.1 hg with hg|hg
  ·have:=(ownsRow.lt hp g ((a2 g).2 hg)).1;omega
  have:=(H.rng g hg).1;omega
 have Jf:∀k,vf.ownBlock=some k->B<=k/\k<w.heap.size:=λk hk=>ownsRow.lt h.fs.row k hk;have O:dN W b [sV U,I,X]:=by rw[hW,Ji];exact de w2 #[sV U,I,X] _ i_
 obtain⟨pa,pc,Je,-⟩:=fo hp;obtain⟨ba,bc,Jc,-⟩:=fo hb.row;have⟨v',W',r1,r2,r3,r4⟩:=yW (c:=1) (ad:=⟨b,0,none⟩) 61 h2.fs hq (λj x hj=>by rw[Fp,Nat.zero_add];exact(O j x hj).1) (λg hg=>⟨λhm=>by have:=Jb g hg;have:=(h.fs.rng g hm).2;omega,λe=>by have:=Jb g hg;have:=(Jf g e).2;omega⟩) (by rw[Je,Jc];exact⟨rfl,rfl⟩) (Ft Ja.size) o_;have tW:aA (λk=>vf.ownBlock=some k) W W':=aA.of_grown r3 (λk h=>h);refine⟨v',W',r1,(Ja.tcs).trans tW,?_,Q++[⟨⟨U,Z,R.map SV.s⟩,I,X,R,J,Y⟩],wl h2.gs tW (λk hk e=>(h.sep k hk).2 e),r2,by rw[map_append,h.map];rfl,λg hg=>⟨λhm=>?_,λe=>?_⟩⟩
 have⟨a,c,e⟩:=r2.shape;exact⟨_,_,_,e⟩
 rw[blkF_append]at hm;have Jg:=(ownsRow.lt h.gs g hg).2;rcases K5.1 hm with hm|hm;exact(h.sep g hg).1 hm;have hm:g∈J++(Y++cC R):=(by simpa[kP,pT]using hm);have:=Jb g hm;omega;have Jg:=(ownsRow.lt h.gs g hg).2;rcases r4 g e with e|e;exact(h.sep g hg).2 e
 have:=Ja.size;omega
end
def LI{C:RC}(HN:nT C){n:Nat}(Jm:Pt C n){w:AT}{m:TV}{B:Nat}{s:PS}{v:BY}{R:List SV}{a:List Nd}{s1:PS}(X:cG C m w s)(hr:aM B w v R)(Jk:C.P+1<B)(Jl:B<=w.heap.size)(hl:R.length+a.length+1<=1000000)(U:aJ (ak C.l) [114,101,116,117,114,110] s=true)(Y:Pa (ak C.l) n (.e 1) s.ad (.n a) s1):Calls prog 182 #[pV C.P,v] w (rm C m w B v R [⟨6,tx [],a,[],0,0⟩] (fM (ak C.l) [59] s1)):=by
 have Jh:=jR.start X hr Jk Jl;have Jc:=ah λx (hx:jc x=true)=>kh HN X x hx;have p2:=X.cki;have e1:(fQ (ak C.l s.i) == 1)=false:=by rw[zy X d_ U];rfl
 have h1:aJ (ak C.l) [105,110,116] s=false:=lF U d_;have h2:aJ (ak C.l) [105,102] s=false:=lF U d_;have h3:aJ (ak C.l) [119,104,105,108,101] s=false:=lF U d_;have Jn:=ah λW (h:cG C m W s.ad)=>Jm W m s.ad a s1 Y h o_;have Jp:Hid (Dm (ak C.l) s.ad (fM (ak C.l) [59] s1)):=Y.dm.trans (gr _ _);clear Jm Y HN X hr Jk Jl;generalize fQ (ak C.l s.i)=ki at*;go_in;go_wp2_with fail;refine(Jc.o [105,110,116] d_).mono (λe w9 H=>?_);rcases H.symm with⟨Ja,-⟩|⟨-,rfl,I⟩
 rw[h1]at Ja;cases Ja;rw[I];clear I;go_wp2_with fail;refine(Jc.o [105,102] d_).mono (λe w9 H=>?_);rcases H.symm with⟨Ja,-⟩|⟨-,rfl,I⟩;rw[h2]at Ja;cases Ja;rw[I];clear I;go_wp2_with fail;refine(Jc.o [119,104,105,108,101] d_).mono (λe w9 H=>?_);rcases H.symm with⟨Ja,-⟩|⟨-,rfl,I⟩;rw[h3]at Ja;cases Ja;rw[I];clear I;go_wp2_with fail;refine(Jc.o [114,101,116,117,114,110] d_).mono (λe w2 H=>?_);rcases H with⟨Ja,-⟩|⟨-,H⟩;rw[U]at Ja;cases Ja;rcases H.symm with J|⟨-,rfl,z2,Z⟩
 ·have O:Hid (rm C m w B v R [⟨6,tx [],a,[],0,0⟩] (fM (ak C.l) [59] s1) e w2):=Jh.die J (Jp);obtain⟨-,rfl,-⟩:=J;unfold aK at*;go_wp2_with fail;exact⟨rfl,O⟩
 have Jb:=Jh.go z2 Z;clear z2 Z Jh Jc;go_wp2_with fail;have HC:=ah (Jn.o w2 Jb.st);have ho:=Jb.old;have Jo:=Jb.le;refine(HC).mono (λe w3 H=>?_);rcases H.symm with J|⟨-,u3,rfl,hn⟩
 ·have O:Hid (rm C m w B v R [⟨6,tx [],a,[],0,0⟩] (fM (ak C.l) [59] s1) e w3):=Jb.die J (Dm.refl _);obtain⟨-,rfl,-⟩:=J;unfold aK at*;go_wp2_with fail;exact⟨rfl,O⟩
 have⟨Jj,Ji⟩:=Jb.fr hn;obtain⟨Je,Jf,rfl,-⟩:=fo Ji;clear hn;have⟨W4,Jg⟩:=q_ (w3.alloc (.cells #[V 6,sV (⟨#[]⟩),.slice Je a.length Jf,nV,V 0,V 0] 254));have⟨B4,Jd⟩:=q_ w3.heap.size;have⟨K4,u4,w4,r4,f4⟩:=Jj.lit (w1:=w2) 6 (⟨#[]⟩) Ji ho Jo Jg Jd o_;have Jr:=ah Jg;have Js:=ah Jd;have Jq:=ah r4;clear Jg Jd r4;have O:=ah (f4.fin (a:=[⟨6,tx [],a,[],0,0⟩]) rfl);clear f4 Jj Jb Ji;go_wp2_with(at_builtin;rw[<-Jr.o,<-Js.o];refine aQ rfl _ _ _ rfl _ _ u4 w4 rfl rfl Jq.o ?_);go_ret;exact O
def BI.nw{C:RC}{m:TV}{w W:AT}{M:Nat}{z:PS}(h:Array BY)(T:IN)(X:0<h.size)(Y:h.size<=10)(O:cG C m w z)(J:W=w.alloc (.cells h T))(U:M=w.heap.size):BI C m w M h.toList W z:=by
 have I:Bl w W:=by rw[J];exact r_.alloc n_ _
 have H:dN W M h.toList:=by rw[J,U];exact de w h _ o_
 have X:0<h.toList.length:=by rw[Array.length_toList];omega
 exact⟨O.below I,H,(aA.refl _ _).of_below I,b_ (H 0 _ (K3 X)).1,by rw[U];exact n_,O.lt⟩
def cG.setm{C:RC}{m m':TV}{w:AT}{z:PS}(h:cG C m w z)(i:Nat)(u:BY)(I:∀pos kd tt vl pl op,(C.box pos kd tt vl pl m op).set i u=C.box pos kd tt vl pl m' op):cG C m' (w.setCell ⟨C.P,i,none⟩ u) z/\aA (λk=>k=C.P) w (w.setCell ⟨C.P,i,none⟩ u):=by have⟨tt,vl,H,h2⟩:=h.bx;have⟨h3,h4⟩:=H.put h.ok i u (I _ _ _ _ _ _);exact⟨⟨h.ok,h.al,h.wf,h.op,tt,vl,h3,h2⟩,h4⟩
def cG.q{C:RC}{m:TV}{w:AT}{z:PS}(h:cG C m w z):(Bo w C.P 6 m.vg/\By w C.P 6)/\(Bo w C.P 7 m.vf/\By w C.P 7)/\(Bo w C.P 9 (.bool m.nz)/\By w C.P 9):=by have⟨I,vl,H,h2⟩:=h.bx;exact⟨H.box 6 _ rfl,H.box 7 _ rfl,H.box 9 _ rfl⟩
def FM{C:RC}(HN:nT C){n:Nat}(Jd:Pt C n):Pu C (n+1):=by intro w m B s v R r s' Y Z O Jc Ja J;rcases Kd Y with⟨H,h⟩|⟨H,a,s1,b,s2,h,U,⟨X,rfl,rfl⟩|⟨X,c,hc,rfl⟩⟩|⟨H,a,s1,b,h,U,rfl⟩|⟨H,a,s1,h,rfl,rfl⟩|⟨H,a,s1,h,rfl,rfl⟩|⟨hq,Jb⟩;exact absurd (ya h (by show(1:Int)≠6;decide)) o_;exact absurd (ju (s:=⟨4,tx [],a,[],(b.length:Int),0⟩) (l:=b) (by show(4:Int)≠6;decide)) o_;exact absurd (ju (s:=⟨4,tx [],a,[],(b.length:Int),(c.length:Int)⟩) (l:=b++c) (by show(4:Int)≠6;decide)) o_;exact absurd (ju (s:=⟨5,tx [],a,[],(b.length:Int),0⟩) (l:=b) (by show(5:Int)≠6;decide)) o_;rw[j_,Ha]at J;simp only[l_n]at J;exact LI HN Jd Z O Jc Ja o_ H h;exact absurd (ju (s:=⟨7,tx [],a,[],0,0⟩) (l:=[]) (by show(7:Int)≠6;decide)) o_;rcases Jb with⟨-,a,s1,I,h2⟩|⟨-,-,a,s1,I,rfl,rfl⟩|⟨-,-,I⟩;exact absurd (ya h2 (by show(3:Int)≠6;decide)) o_;exact absurd (ju (s:=⟨8,tx [],a,[],0,0⟩) (l:=[]) (by show(8:Int)≠6;decide)) o_;exact absurd (ya I (by show(2:Int)≠6;decide)) o_
theorem FN{C:RC}(HN:nT C):∀n:Nat,n<=1000000->Pu C n/\PN C n
 | 0,_=>⟨λ_ _ _ _ _ _ _ _ h=>(by cases h using Pa_i),λ_ _ _ _ _ _ _ _ h=>(by cases h using Pa_i)⟩
 | n+1,hn=>by obtain⟨h1,h2⟩:=FN HN n o_;obtain⟨e1,e2,e3⟩:=FJ HN n o_;have hE:=FE e1;exact⟨FM HN (LD HN hE),FL HN h1⟩
section
variable{C:RC}{m:TV}{w:AT}{b:Nat}
def CN(O:nT C){s:PS}(h:cG C m w s):Calls prog 161 #[pV C.P] w (gG C m w (iR (ak C.l) s).2 (sV (iR (ak C.l) s).1)):=by
 have HE:=ah (jI O h [105,110,116] d_);have Jb:Hid (∀W,cG C m W (fM (ak C.l) [105,110,116] s)->Calls prog 113 #[pV C.P] W (gG C m W (iR (ak C.l) s).2 (sV (iR (ak C.l) s).1))):=λW hW=>nh O hW;have HD:Hid (Dm (ak C.l) (fM (ak C.l) [105,110,116] s) (iR (ak C.l) s).2):=jZ _;have Jc:Hid (∀W,aA (λk=>k=C.P) w W->Kp C w W):=λW ht=>h.tb ht;generalize fM (ak C.l) [105,110,116] s=z1 at*;generalize (iR (ak C.l) s).2=z2 at*;generalize (iR (ak C.l) s).1=x at*;clear h O;go_in;go_wp2_with fail;refine HE.o.mono (λe w1 hg=>?_);rcases hg.symm with H|⟨-,rfl,Z,J⟩
 ·have I:Hid (gG C m w z2 (sV x) e w1):=.inr (H.later HD.o (Kp.refl _ _));obtain⟨-,rfl,-⟩:=H;unfold aK at*;go_wp2_with fail;exact⟨rfl,I⟩
 have HC:=ah (Jb.o w1 Z);have Ja:=ah (And.intro J (Jc.o w1 J));clear Z J;go_wp2_with fail;refine HC.o.mono (λe w2 hg=>?_);rcases hg.symm with H|⟨X,rfl,U,Y⟩
 ·have I:Hid (gG C m w z2 (sV x) e w2):=.inr (H.later (Dm.refl _) Ja.o.2);obtain⟨-,rfl,-⟩:=H;unfold aK at*;go_wp2_with fail;exact⟨rfl,I⟩
 have I:Hid (gG C m w z2 (sV x) (rW (sV x)) w2):=.inl ⟨X,rfl,U,Ja.o.1.trans Y⟩;clear X U Y;go_wp2;go_ret;exact I
structure uJ (C:RC) (m:TV) (w:AT) (M:Nat) (nm:IF) (vp:BY) (o:List IF) (W:AT) (z:PS):Prop where
 bi:BI C m w M [sV nm,vp,nV] W z
 row:zv (M+1) W vp o
section
variable{C:RC}{m:TV}{w W W':AT}{M:Nat}{nm:IF}{vp:BY}{o:List IF}{z z':PS}
def uJ.bb(h:uJ C m w M nm vp o W z):Kp C w W:=h.bi.bb
def uJ.pm(h:uJ C m w M nm vp o W z):C.P<M+1:=Ht h.bi.hl h.bi.mw
def uJ.go(h:uJ C m w M nm vp o W z)(hz:cG C m W' z')(ht:aA (λk=>k=C.P) W W'):uJ C m w M nm vp o W' z':=⟨h.bi.go hz ht,jE h.row ht (λk hk=>by rw[hk];exact h.pm)⟩
def uJ.below(h:uJ C m w M nm vp o W z)(hb:Bl W W'):uJ C m w M nm vp o W' z:=⟨h.bi.below hb,ownB h.row hb⟩
def uJ.app{J:AT}(h:uJ C m w M nm vp o W z)(x:IF)(hl:o.length<=2000000)(Y:J=W.alloc (.cells #[sV x] 9))(hb:b=W.heap.size):
  ∃ua un uc w',(Builtin.append_ #[25,25] 25 #[vp,rV b 1 1]).run prog J=.ok (.slice ua un uc) w'/\Bo J M 1 vp/\(Bo w' M 1 vp/\By w' M 1)/\uJ C m w M nm (.slice ua un uc) (o++[x]) (w'.setCell ⟨M,1,none⟩ (.slice ua un uc)) z:=by
 have X:=h.bi.m;have⟨v',w',r1,U,H,r4⟩:=FB x h.row (show M+1<=W.heap.size by omega) hl Y hb;have Jd:Bl W J:=by rw[Y];exact r_.alloc n_ _
 have I:∀k,vp.ownBlock=some k->M+1<=k:=λk hk=>(ownsRow.lt h.row k hk).1;have Jf:=h.bi.st.ok.hi;have Je:=h.bi.mw;have Jb:=h.bi.hl;obtain⟨a,c,Ja,-⟩:=fo U;have⟨n,hn⟩:=q_ ((o++[x]).length);rw[<-hn]at Ja;subst Ja;have O:BI C m w M [sV nm,vp,nV] w' z:=⟨h.bi.st.tcs H (λe=>Ft (I _ e)) (λk hk=>Ft (I k hk)),h.bi.bx.tcs X H (λe=>Ft (I _ e)),h.bi.t.next H (λk hk=>.inr (Ft (I k hk))),l_ X H.size,Je,Jb⟩;have⟨Jc,Z⟩:=O.put 1 (.slice a n c) rfl;exact⟨a,n,c,w',r1,((h.bi.below Jd).q (j:=1) rfl).1,O.q (j:=1) rfl,Jc,jE U Z (λk hk=>by omega)⟩
end
def wM{B M B2:Nat}{W Z U:AT}{H:IF}{O X:BY}{Y:List IF}{R:List SV}{z:PS}{t t':Tr}{Q:List FV}(h:BI C m w M [sV H,O,X] W z)(hp:zv (M+1) W O Y)(Jg:∀g,O.ownBlock=some g->g<B2)(hr:aM B2 W X R)(Jf:M+1<=B2)(I:PO B w m t t' Q)(Jc:C.P+1<B)(hB:B<=w.heap.size)(hl:t.fc.length<=100000)
  (hb:Bl W Z) (hW:U=Z.alloc (.cells #[sV H,O,X] 143)) (Jh:b=Z.heap.size):
  ∃v8 W8,(Builtin.append_ #[61,61] 61 #[m.vf,rV b 1 1]).run prog U=.ok v8 W8/\(∃a n c,v8=.slice a n c)/\dN U M [sV H,O,X]/\Bo U C.P 7 m.vf/\dN W8 M [sV H,O,X]/\(Bo W8 C.P 7 m.vf/\By W8 C.P 7)/\wL C B w (h_ t (.inr ⟨H,Y,R.map SV.s⟩)) z (rW (.tuple #[])) (W8.setCell ⟨C.P,7,none⟩ v8):=by
 have J:=h.below hb;have Ji:=h.mw;have⟨v8,W8,r1,r2,r3,Q',r4⟩:=I.own.addF H Y (M:=M+1) J.t (λk hk=>by rw[hk];have:=Jc;omega) hB o_ Jf (ownB hp hb) Jg (hr.below hb) hW Jh (by rw[I.fu];exact hl);have Jb:∀k,m.vf.ownBlock=some k->B<=k/\k<w.heap.size:=λk hk=>ownsRow.lt I.own.fs.row k hk;have Jj:=h.st.ok.hi;have Ja:cG C m W8 z:=J.st.tcs r2 (λe=>by have:=(Jb _ e).1;omega) (λk hk=>by have:=(Jb k hk).1;omega);have Je:=J.bx.tcs J.m r2 (λe=>by have:=(Jb _ e).2;omega);have Jd:Bl Z U:=by rw[hW];exact r_.alloc n_ _
 have h7:=J.below Jd;have⟨s9,t9⟩:=Ja.setm (m':= {m with vf:=v8}) 7 v8 (λ_ _ _ _ _ _=>rfl);refine⟨v8,W8,r1,r3,h7.bx,h7.st.q.2.1.1,Je,Ja.q.2.1,.inl ⟨h.st.al,_,rfl,s9,⟨⟨t'.gl,t'.fc++[⟨H,Y,R.map SV.s⟩]⟩,Q',r4.tcs t9 (λk hk=>by rw[hk];have:=Jc;omega),?_,I.len,I.eq,I.bad⟩,?_⟩⟩;simp only[h_,I.fu];exact(((J.t.mono λk hk=>.inl hk).trans (r2.mono λk hk=>.inr (Jb k hk).1)).trans (t9.mono λk hk=>.inl hk))
end
theorem CO{C:RC}(HN:nT C){n:Nat}(hn:n<=1000000){m:TV}{w:World}{s:PS}{B:Nat}{t:Tr}(U:ByteArray){J:List ByteArray}{s1:PS}{b:List St}{s2:PS}(hS:cG C m w s)(hT:Dx B w m t)(Yx:C.P+1<B)(hB:B<=w.heap.size)(hl:t.fc.length<=100000)
  (hp:Pa (ak C.l) n (.pl []) (dP (ak C.l) [40] s) (.p J) s1) (hb:Pa (ak C.l) n .bl (iz (ak C.l) [41] s1) (.s b) s2) (Yy:J.length<=1000000/\oy b<=1000000):
  Calls prog 115 #[pV C.P,sV U] w (wL C B w (h_ t (.inr ⟨U,J,b⟩)) s2):=by
 obtain⟨t',Q,hJ⟩:=hT;have⟨W1,Ye⟩:=q_ (w.alloc (.cells #[sV U,nV,nV] 143));have⟨M,eM⟩:=q_ w.heap.size;have h1:uJ C m w M U nV [] W1 s:=⟨BI.nw #[sV U,nV,nV] 143 (show 0<3 by omega) (show 3<=10 by omega) hS Ye eM,World.ownsRow_nil _ _ _ _⟩;have Zg:=ah (jm HN h1.bi.st [40] d_);have Zb:=ah λW z (h:cG C m W z)=>fL h [41] d_;have Yw:=ah λW z (h:cG C m W z)=>CN HN h;have Zf:=ah λW z (h:cG C m W z)=>kh HN h [44] d_;have Yq:=ah λW z (h:cG C m W z) (ho:1<=z.op)=>jn HN h ho [41] d_;have Yu:Hid (1<=s1.op):=by show 1<=s1.op;rw[hp.op,on_op];have:=hS.op;omega
 have Ys:=ah λW (h:cG C m W (iz (ak C.l) [41] s1))=>(FN HN n hn).2 W m W.heap.size _ _ [] b s2 hb h ⟨World.ownsRow_nil _ _ _ _,(λq hq=>by cases hq),List.nodup_nil,λg H=>(by simp[Value.ownBlock]at H)⟩ h.lt n_ (by simp only[l_n];omega);have Xk:Hid (Dm (ak C.l) (iz (ak C.l) [41] s1) s2):=hb.dm;have Y_:Hid (Dm (ak C.l) (dP (ak C.l) [40] s) s2):=(hp.dm.trans (dr _ _)).trans hb.dm;have HJ:=ah hJ;have HB:=ah (And.intro Yx (And.intro hB hl));have Zd:=ah Ye;have HM:=ah eM;have Za:=ah Yy.1;have Ym:=ah hp;generalize dP (ak C.l) [40] s=z0 at*;clear Ye eM hS hJ Yx hB hl HN hp hb Yy;go_in;go_upto_region 1 with fail;rw[<-Zd.out,<-HM.out];go_wp2_with fail;refine(Zg).mono (λe w2 H=>?_);rcases H.symm with O|⟨-,rfl,z2,t2⟩
 ·have Y:Hid (wL C B w (h_ t (.inr ⟨U,J,b⟩)) s2 e w2):=.inr (O.later (Y_) h1.bb);obtain⟨-,rfl,-⟩:=O;unfold aK at*;go_wp2_with fail;exact⟨rfl,Y⟩
 have h2:=h1.go z2 t2;clear z2 t2;go_wp2_with fail;have Yd:=ah (Zb.out w2 z0 h2.bi.st);rcases FC Ym.out with⟨h0,-⟩|⟨h0,-,hi,Yv,Yl⟩|⟨h0,Yr,Jh⟩;exact absurd (fR h2.bi.st.al) h0
 ·subst Yl;have Yk:uJ C m w M U nV J w2 s1:=by rw[Yv];exact h2
  clear h2 Yv;refine Yd.out.mono ?_;rintro e w3 ⟨rfl,hw⟩;rw[hw,hi];clear hw Yd Ym;go_wp2_with fail;refine(Yq.out _ _ Yk.bi.st Yu).mono (λe w9 H=>?_);rcases H.symm with O|⟨-,rfl,z2,t2⟩
  ·have Y:Hid (wL C B w (h_ t (.inr ⟨U,J,b⟩)) s2 e w9):=.inr (O.later (Xk) Yk.bb);obtain⟨-,rfl,-⟩:=O;unfold aK at*;go_wp2_with fail;exact⟨rfl,Y⟩
  have h9:=Yk.go z2 t2;clear z2 t2;have m2:=(h9.bi.q (j:=2) rfl);have Xj:=ah (Ys.out w9 h9.bi.st);go_wp2_with fail;refine Xj.out.mono (λe w10 H=>?_);rcases H.symm with O|⟨-,ub,R2,rfl,Xq,Je⟩
  ·have Y:Hid (wL C B w (h_ t (.inr ⟨U,J,b⟩)) s2 e w10):=.inr (O.later (Dm.refl _) h9.bb);obtain⟨-,rfl,-⟩:=O;unfold aK at*;go_wp2_with fail;exact⟨rfl,Y⟩
  have Xn:aA (λk=>k=C.P) w9 w10:=Je.t.mono λk hk=>by rcases hk with hk|hk;exact hk;simp[Value.ownBlock]at hk
  have h10:=h9.go Je.st Xn;obtain⟨ba,bc,Yb,-⟩:=fo Je.row.row;have⟨bn,Ya⟩:=q_ (([]++R2).length);rw[<-Ya]at Yb;subst Yb;have⟨Ji,Jf⟩:=q_ (w10.setCell ⟨M,2,none⟩ (.slice ba bn bc));have⟨h11,Ju⟩:=h10.bi.put 2 (.slice ba bn bc) Jf;have h11:BI C m w M [sV U,Value.slice none 0 0,.slice ba bn bc] Ji s2:=h11;have Yf:=h9.bi.m;have Jj:zv (M+1) Ji (Value.slice none 0 0) J:=jE h10.row Ju (λk hk=>by omega);have Jk:aM w9.heap.size Ji (.slice ba bn bc) ([]++R2):=Je.row.tcs Ju (λg H e=>by have:=(World.ownsRow.lt Je.row.row g H).1;omega) (λg H e=>by have:=(Je.row.rng g H).1;omega);have Xs:∀g,(Value.slice none 0 0).ownBlock=some g->g<w9.heap.size:=λg H=>(World.ownsRow.lt h9.row g H).2;have Yo:=h10.bi.q (j:=2) rfl;have Jv:=ah Jf;have Yh:Hid (([]++R2:List SV).map SV.s=b):=Xq;clear Jf h9 h10 Xn Ju Je Ya Xq Xj;go_upto_region 8 with fail;rw[<-Jv.out];clear Yo m2;have⟨W12,Jg⟩:=q_ Ji.drew;have Jd:Bl Ji W12:=by rw[Jg];exact iw Ji
  have⟨Zc,Jc⟩:=q_ (W12.alloc (.cells #[sV U,Value.slice none 0 0,.slice ba bn bc] 143));have⟨Yj,Jb⟩:=q_ W12.heap.size;have⟨Ze,Yi,Xf,Xd,Jo,Xe,Jp,Jn,hF⟩:=wM h11 Jj Xs Jk o_ HJ.out HB.out.1 HB.out.2.1 HB.out.2.2 Jd Jc Jb;rw[Yh.out]at hF;obtain⟨va,vn,vc,rfl⟩:=Xd;have h12:=h11.below Jd;obtain⟨fa,fn,fc,Xm⟩:∃fa fn fc,m.vf=.slice fa fn fc:=by have⟨a,c,e⟩:=HJ.out.own.fs.shape;exact⟨_,_,_,e⟩
  have Jx:=h12.st.q.2.1.1;rw[Xm]at Jx Xe Jn Xf;have I:=ah (And.intro Jx (And.intro (h12.bx 0 _ rfl).1 (And.intro (h12.bx 1 _ rfl).1 (h12.bx 2 _ rfl).1)));have X_:=ah (And.intro Xe (And.intro (Jo 0 _ rfl).1 (And.intro (Jo 1 _ rfl).1 (Jo 2 _ rfl).1)));have Jl:=ah (And.intro Jn.1 (And.intro (Jp 0 _ rfl).1 (And.intro (Jp 1 _ rfl).1 (Jp 2 _ rfl).1)));have Ja:=ah Jn;have Jq:=ah Xf;have Jw:=ah Jg;have Xc:=ah Jc;have Js:=ah Jb;have Y:=ah hF;clear Jg Jc Jb Xf Jo Xe Jp Jn hF h12 Jx Jd h11 Jj Jk Xs Xm Yf;refine db 12 (λX=>X.cell? ⟨C.P,7,none⟩=some (.slice fa fn fc)/\X.cell? ⟨M,0,none⟩=some (sV U)/\X.cell? ⟨M,1,none⟩=some (Value.slice none 0 0)/\X.cell? ⟨M,2,none⟩=some (.slice ba bn bc)) k_ ?_;rw[<-Jw.out];refine tk 0 [9,10,11,12] I.out ?_;refine tk 1 [2,3,4,5,8,12] I.out ?_;refine tk 2 [3,4,5,8,12] I.out ?_;refine tk 3 [4,5,8,12] I.out ?_;refine tk 4 [5,8,12] I.out ?_;refine tk 5 [8,12] I.out ?_;refine tk 6 [7,8,12] I.out ?_;clear I;refine aE (i:=7) k_ rfl (λK hK=>?_);go_simp;rw[<-Xc.out,<-Js.out];refine hK.out _ _ (λ_=>X_) ?_;clear hK K;try simp only[Act.put,tA,tB,tC]
  refine aE (i:=8) k_ rfl (λK hK=>?_);refine gj rfl (.tmp 44) (.tmp 46) 61 rfl (.slice fa fn fc) (rV Yj 1 1) (.slice va vn vc) Yi rfl rfl Jq.out ?_;refine hK.out _ _ (λ_=>Jl) ?_;clear hK K X_;try simp only[Act.put,tA,tB,tC]
  refine tk 9 [10,11,12] Jl.out ?_;refine tk 10 [11,12] Jl.out ?_;refine tk 11 [12] Jl.out ?_;clear Jl;have Xp:=Ja.out.1;have Xv:=Ja.out.2;refine aE (i:=12) k_ rfl (λK hK=>?_);go_simp;refine hK.out _ _ (λh=>absurd rfl h) ?_;clear hK K;refine ct k_ ?_ _;go_wp2_with fail;refine bodyPost_ret (results_none rfl _ _ _) rfl ?_;exact Y
 have hi:aJ (ak C.l) [41] z0=false:=by rcases Yr with h|h;exact absurd rfl h;exact h
 refine Yd.out.mono ?_;rintro e w3 ⟨rfl,hw⟩;rw[hw,hi];clear hw Yd Yr hi w3;go_wp2_with fail;obtain⟨Z,y,Xb⟩:∃Z y,iR (ak C.l) z0=(Z,y):=⟨_,_,rfl⟩;have Xx:Hid (∀W,cG C m W z0->Calls prog 161 #[pV C.P] W (gG C m W y (sV Z))):=λW h=>by
  have:=Yw.out W z0 h
  rw[Xb]at this;exact this
 rw[Xb]at Jh;dsimp only at Jh;have Xy:Hid (Dm (ak C.l) y s2):=by rcases Jh with⟨-,-,e⟩|⟨hq,-⟩;rw[<-e];exact(dr _ _).trans Xk.out;exact Dm.no (eI hq).1
 have Xt:Hid (([]:List ByteArray).length<=2000000):=y_;have Xw:Hid ((aJ (ak C.l) [44] y=false/\J=[]++[Z]/\s1=y)\/(aJ (ak C.l) [44] y=true/\Pa (ak C.l) n (.pl ([]++[Z])) y.ad (.p J) s1)):=by rcases Jh with h|⟨hq,k,e,h⟩;exact .inl h;exact .inr ⟨hq,h.ups o_⟩
 clear Jh Xb Ym h0;have⟨W5,J_⟩:=q_ w2.drew;have Xz:Bl w2 W5:=by rw[J_];exact iw w2
 have Jm:=h2.below Xz;have HC:=ah (Xx.out W5 Jm.bi.st);have I:=ah (Jm.bi.q (j:=1) rfl).1;have Xa:=ah Jm;have Yn:=ah J_;clear J_ Xz Jm h2;go_upto_region 3 with fail;refine db 7 (λX=>X.cell? ⟨M,1,none⟩=some (Value.slice none 0 0)) k_ ?_;rw[<-Yn.out];refine tk 0 [1,5,7] I.out ?_;refine tk 1 [5,7] I.out ?_;refine tk 2 [3,4,5,7] I.out ?_;clear I;refine aE (i:=3) k_ rfl (λK hK=>?_);go_simp;refine HC.out.mono (λe w6 H=>?_);rcases H.symm with O|⟨-,rfl,z6,t6⟩
 ·have Y:Hid (wL C B w (h_ t (.inr ⟨U,J,b⟩)) s2 e w6):=.inr (O.later (Xy) Xa.out.bb);obtain⟨-,rfl,-⟩:=O;unfold aK at*;go_wp2_with fail;exact⟨rfl,Y⟩
 have Jy:=Xa.out.go z6 t6;clear z6 t6 HC Xa;have⟨W7,Jz⟩:=q_ (w6.alloc (.cells #[sV Z] 9));have⟨b7,Jt⟩:=q_ w6.heap.size;have⟨ua,un,uc,w8,r8,c7,c8,Xo⟩:=Jy.app Z Xt.out Jz Jt;have c6:=(Jy.bi.q (j:=1) rfl).1;refine hK.out _ _ (λ_=>c6) ?_;clear hK K;try simp only[Act.put,tA,tB,tC]
 have Xh:=ah Jz;have Xu:=ah Jt;have Jq:=ah r8;have Xr:=ah Xo;have Xg:=ah c7;have Ja:=ah c8;clear Jz Jt r8 Xo Jy c6 c7 c8;refine aE (i:=4) k_ rfl (λK hK=>?_);go_simp;rw[<-Xh.out,<-Xu.out];refine hK.out _ _ (λ_=>Xg) ?_;clear hK K;try simp only[Act.put,tA,tB,tC]
 refine aE (i:=5) k_ rfl (λK hK=>?_);refine gj rfl (.tmp 15) (.tmp 18) 25 rfl (Value.slice none 0 0) (rV b7 1 1) (.slice ua un uc) w8 rfl rfl Jq.out ?_;refine hK.out _ _ (λ_=>Ja.out.1) ?_;clear hK K Xg;try simp only[Act.put,tA,tB,tC]
 refine tk 6 [7] Ja.out.1 ?_;have Xp:=Ja.out.1;have Xv:=Ja.out.2;refine aE (i:=7) k_ rfl (λK hK=>?_);go_simp;refine hK.out _ _ (λh=>absurd rfl h) ?_;clear hK K;refine ct k_ ?_ _;clear Xp Xv Ja Jq Xh Xu;have Yc:Hid (∃(o:List ByteArray) (pa:Option Addr) (pn pc:Nat) (y:PS),o≠[]/\((aJ (ak C.l) [44] y=false/\J=o/\s1=y)\/(aJ (ak C.l) [44] y=true/\Pa (ak C.l) n (.pl o) y.ad (.p J) s1))/\uJ C m w M U (.slice pa pn pc) o (w8.setCell ⟨M,1,none⟩ (.slice ua un uc)) y):=⟨_,ua,un,uc,y,i_,Xw,Xr⟩;clear Xr Xw Xy Xx Xt;go_wp2;go_loopg[] n (λgk wr=>∃(o:List ByteArray) (pa:Option Addr) (pn pc:Nat) (y:PS),o≠[]/\((aJ (ak C.l) [44] y=false/\J=o/\s1=y)\/(aJ (ak C.l) [44] y=true/\Pa (ak C.l) gk (.pl o) y.ad (.p J) s1))/\uJ C m w M U (.slice pa pn pc) o wr y)
 case atStart=>exact Yc
 case round=>
  clear Yc;obtain⟨o,pa,pn,pc,y,Yz,Jh,hF⟩:=hrel;have Yg:=ah (Zf.out _ _ hF.bi.st);have Xl:=ah hF;clear hF;go_wp2_with fail;refine(Yg).mono (λe w3 H=>?_);rcases Jh with⟨hi,rfl,rfl⟩|⟨hi,hp⟩
  ·rcases H with⟨-,rfl,hw⟩|⟨Xi,-⟩
   ·have Jr:=Xl.out;rw[<-hw]at Jr;clear Xl Yg hw;go_wp2_with fail;refine(Yq.out _ _ Jr.bi.st Yu).mono (λe w9 H=>?_);rcases H.symm with O|⟨-,rfl,z2,t2⟩
    ·have Y:Hid (wL C B w (h_ t (.inr ⟨U,J,b⟩)) s2 e w9):=.inr (O.later (Xk) Jr.bb);obtain⟨-,rfl,-⟩:=O;unfold aK at*;go_wp2_with fail;exact⟨rfl,Y⟩
    have h9:=Jr.go z2 t2;clear z2 t2;have m2:=(h9.bi.q (j:=2) rfl);have Xj:=ah (Ys.out w9 h9.bi.st);go_wp2_with fail;refine Xj.out.mono (λe w10 H=>?_);rcases H.symm with O|⟨-,ub,R2,rfl,Xq,Je⟩
    ·have Y:Hid (wL C B w (h_ t (.inr ⟨U,J,b⟩)) s2 e w10):=.inr (O.later (Dm.refl _) h9.bb);obtain⟨-,rfl,-⟩:=O;unfold aK at*;go_wp2_with fail;exact⟨rfl,Y⟩
    have Xn:aA (λk=>k=C.P) w9 w10:=Je.t.mono λk hk=>by rcases hk with hk|hk;exact hk;simp[Value.ownBlock]at hk
    have h10:=h9.go Je.st Xn;obtain⟨ba,bc,Yb,-⟩:=fo Je.row.row;have⟨bn,Ya⟩:=q_ (([]++R2).length);rw[<-Ya]at Yb;subst Yb;have⟨Ji,Jf⟩:=q_ (w10.setCell ⟨M,2,none⟩ (.slice ba bn bc));have⟨h11,Ju⟩:=h10.bi.put 2 (.slice ba bn bc) Jf;have h11:BI C m w M [sV U,Value.slice pa pn pc,.slice ba bn bc] Ji s2:=h11;have Yf:=h9.bi.m;have Jj:zv (M+1) Ji (Value.slice pa pn pc) J:=jE h10.row Ju (λk hk=>by omega);have Jk:aM w9.heap.size Ji (.slice ba bn bc) ([]++R2):=Je.row.tcs Ju (λg H e=>by have:=(World.ownsRow.lt Je.row.row g H).1;omega) (λg H e=>by have:=(Je.row.rng g H).1;omega);have Xs:∀g,(Value.slice pa pn pc).ownBlock=some g->g<w9.heap.size:=λg H=>(World.ownsRow.lt h9.row g H).2;have Yo:=h10.bi.q (j:=2) rfl;have Jv:=ah Jf;have Yh:Hid (([]++R2:List SV).map SV.s=b):=Xq;clear Jf h9 h10 Xn Ju Je Ya Xq Xj;go_upto_region 8 with fail;rw[<-Jv.out];clear Yo m2;have⟨W12,Jg⟩:=q_ Ji.drew;have Jd:Bl Ji W12:=(by rw[Jg];exact iw Ji);have⟨Zc,Jc⟩:=q_ (W12.alloc (.cells #[sV U,Value.slice pa pn pc,.slice ba bn bc] 143));have⟨Yj,Jb⟩:=q_ W12.heap.size;have⟨Ze,Yi,Xf,Xd,Jo,Xe,Jp,Jn,hF⟩:=wM h11 Jj Xs Jk o_ HJ.out HB.out.1 HB.out.2.1 HB.out.2.2 Jd Jc Jb;rw[Yh.out]at hF;obtain⟨va,vn,vc,rfl⟩:=Xd;have h12:=h11.below Jd;obtain⟨fa,fn,fc,Xm⟩:∃fa fn fc,m.vf=.slice fa fn fc:=by have⟨a,c,e⟩:=HJ.out.own.fs.shape;exact⟨_,_,_,e⟩
    have Jx:=h12.st.q.2.1.1;rw[Xm]at Jx Xe Jn Xf;have I:=ah (And.intro Jx (And.intro (h12.bx 0 _ rfl).1 (And.intro (h12.bx 1 _ rfl).1 (h12.bx 2 _ rfl).1)));have X_:=ah (And.intro Xe (And.intro (Jo 0 _ rfl).1 (And.intro (Jo 1 _ rfl).1 (Jo 2 _ rfl).1)));have Jl:=ah (And.intro Jn.1 (And.intro (Jp 0 _ rfl).1 (And.intro (Jp 1 _ rfl).1 (Jp 2 _ rfl).1)));have Ja:=ah Jn;have Jq:=ah Xf;have Jw:=ah Jg;have Xc:=ah Jc;have Js:=ah Jb;have Y:=ah hF;clear Jg Jc Jb Xf Jo Xe Jp Jn hF h12 Jx Jd h11 Jj Jk Xs Xm Yf;refine db 12 (λX=>X.cell? ⟨C.P,7,none⟩=some (.slice fa fn fc)/\X.cell? ⟨M,0,none⟩=some (sV U)/\X.cell? ⟨M,1,none⟩=some (Value.slice pa pn pc)/\X.cell? ⟨M,2,none⟩=some (.slice ba bn bc)) k_ ?_;rw[<-Jw.out];refine tk 0 [9,10,11,12] I.out ?_;refine tk 1 [2,3,4,5,8,12] I.out ?_;refine tk 2 [3,4,5,8,12] I.out ?_;refine tk 3 [4,5,8,12] I.out ?_;refine tk 4 [5,8,12] I.out ?_;refine tk 5 [8,12] I.out ?_;refine tk 6 [7,8,12] I.out ?_;clear I;refine aE (i:=7) k_ rfl (λK hK=>?_);go_simp;rw[<-Xc.out,<-Js.out];refine hK.out _ _ (λ_=>X_) ?_;clear hK K;try simp only[Act.put,tA,tB,tC]
    refine aE (i:=8) k_ rfl (λK hK=>?_);refine gj rfl (.tmp 44) (.tmp 46) 61 rfl (.slice fa fn fc) (rV Yj 1 1) (.slice va vn vc) Yi rfl rfl Jq.out ?_;refine hK.out _ _ (λ_=>Jl) ?_;clear hK K X_;try simp only[Act.put,tA,tB,tC]
    refine tk 9 [10,11,12] Jl.out ?_;refine tk 10 [11,12] Jl.out ?_;refine tk 11 [12] Jl.out ?_;clear Jl;have Xp:=Ja.out.1;have Xv:=Ja.out.2;refine aE (i:=12) k_ rfl (λK hK=>?_);go_simp;refine hK.out _ _ (λh=>absurd rfl h) ?_;clear hK K;refine ct k_ ?_ _;go_wp2_with fail;refine bodyPost_ret (results_none rfl _ _ _) rfl ?_;exact Y
   rw[hi]at Xi;cases Xi
  rcases H with⟨Xi,-⟩|⟨-,H⟩;rw[hi]at Xi;cases Xi;have Yt:=ah hp.dm;rcases H.symm with O|⟨-,rfl,z3,t3⟩
  ·have Y:Hid (wL C B w (h_ t (.inr ⟨U,J,b⟩)) s2 e w3):=.inr (O.later ((Yt.out.trans (dr _ _)).trans Xk) Xl.out.bb);obtain⟨-,rfl,-⟩:=O;unfold aK at*;go_wp2_with fail;exact⟨rfl,Y⟩
  have Jr:=Xl.out.go z3 t3;have Yp:o.length<=2000000:=t_ hp.acc (t_ Za.out o_);cases gk with
  | zero=>first | cases hp using Pa_i | cases hp
  | succ g=>
  rcases FC hp with⟨h0,-⟩|⟨-,h0,-⟩|⟨-,-,Jh⟩;exact absurd (fR Jr.bi.st.al) h0;exact absurd h0 Yz;obtain⟨Z,y2,Xb⟩:∃Z y2,iR (ak C.l) y.ad=(Z,y2):=⟨_,_,rfl⟩;have Xx:Hid (∀W,cG C m W y.ad->Calls prog 161 #[pV C.P] W (gG C m W y2 (sV Z))):=λW h=>by
   have:=Yw.out W y.ad h
   rw[Xb]at this;exact this
  rw[Xb]at Jh;dsimp only at Jh;have Xy:Hid (Dm (ak C.l) y2 s2):=by rcases Jh with⟨-,-,e⟩|⟨hq,-⟩;rw[<-e];exact(dr _ _).trans Xk.out;exact Dm.no (eI hq).1
  have Xt:=ah Yp;have Xw:Hid ((aJ (ak C.l) [44] y2=false/\J=o++[Z]/\s1=y2)\/(aJ (ak C.l) [44] y2=true/\Pa (ak C.l) g (.pl (o++[Z])) y2.ad (.p J) s1)):=by rcases Jh with h|⟨hq,k,e,h⟩;exact .inl h;exact .inr ⟨hq,by have e:g=k:=o_;rw[e];exact h⟩
  clear Jh Xb hp z3 t3 Yp Yg Xl Yt hi;have⟨W5,J_⟩:=q_ w3.drew;have Xz:Bl w3 W5:=(by rw[J_];exact iw w3);have Jm:=Jr.below Xz;have HC:=ah (Xx.out W5 Jm.bi.st);have I:=ah (Jm.bi.q (j:=1) rfl).1;have Xa:=ah Jm;have Yn:=ah J_;clear J_ Xz Jm Jr;go_upto_region 5 with fail;refine db 7 (λX=>X.cell? ⟨M,1,none⟩=some (Value.slice pa pn pc)) k_ ?_;rw[<-Yn.out];refine tk 0 [1,5,7] I.out ?_;refine tk 1 [5,7] I.out ?_;refine tk 2 [3,4,5,7] I.out ?_;clear I;refine aE (i:=3) k_ rfl (λK hK=>?_);go_simp;refine HC.out.mono (λe w6 H=>?_);rcases H.symm with O|⟨-,rfl,z6,t6⟩
  ·have Y:Hid (wL C B w (h_ t (.inr ⟨U,J,b⟩)) s2 e w6):=.inr (O.later (Xy) Xa.out.bb);obtain⟨-,rfl,-⟩:=O;unfold aK at*;go_wp2_with fail;exact⟨rfl,Y⟩
  have Jy:=Xa.out.go z6 t6;clear z6 t6 HC Xa;have⟨W7,Jz⟩:=q_ (w6.alloc (.cells #[sV Z] 9));have⟨b7,Jt⟩:=q_ w6.heap.size;have⟨ua,un,uc,w8,r8,c7,c8,Xo⟩:=Jy.app Z Xt.out Jz Jt;have c6:=(Jy.bi.q (j:=1) rfl).1;refine hK.out _ _ (λ_=>c6) ?_;clear hK K;try simp only[Act.put,tA,tB,tC]
  have Xh:=ah Jz;have Xu:=ah Jt;have Jq:=ah r8;have Xr:=ah Xo;have Xg:=ah c7;have Ja:=ah c8;clear Jz Jt r8 Xo Jy c6 c7 c8;refine aE (i:=4) k_ rfl (λK hK=>?_);go_simp;rw[<-Xh.out,<-Xu.out];refine hK.out _ _ (λ_=>Xg) ?_;clear hK K;try simp only[Act.put,tA,tB,tC]
  refine aE (i:=5) k_ rfl (λK hK=>?_);refine gj rfl (.tmp 26) (.tmp 29) 25 rfl (Value.slice pa pn pc) (rV b7 1 1) (.slice ua un uc) w8 rfl rfl Jq.out ?_;refine hK.out _ _ (λ_=>Ja.out.1) ?_;clear hK K Xg;try simp only[Act.put,tA,tB,tC]
  refine tk 6 [7] Ja.out.1 ?_;have Xp:=Ja.out.1;have Xv:=Ja.out.2;refine aE (i:=7) k_ rfl (λK hK=>?_);go_simp;refine hK.out _ _ (λh=>absurd rfl h) ?_;clear hK K;refine ct k_ ?_ _;clear Xp Xv Ja Jq Xh Xu;have Yc:Hid (∃(o:List ByteArray) (pa:Option Addr) (pn pc:Nat) (y:PS),o≠[]/\((aJ (ak C.l) [44] y=false/\J=o/\s1=y)\/(aJ (ak C.l) [44] y=true/\Pa (ak C.l) g (.pl o) y.ad (.p J) s1))/\uJ C m w M U (.slice pa pn pc) o (w8.setCell ⟨M,1,none⟩ (.slice ua un uc)) y):=⟨_,ua,un,uc,y2,i_,Xw,Xr⟩;clear Xr Xw Xy Xx Xt;go_wp2;go_roundg g
  case measure=>omega
  case rel=>exact Yc
theorem Tp.dm2{T:Nat -> To}{n:Nat}{s:PS}{x:Gl ⊕ Fu}{s':PS}(h:Tp T n s x s'):Dm T (iR T s).2 s':= by
  cases h using Tp_i with
  | fn ps s1 b _ h1 h2 h3=>exact((lO _ _).trans h2.dm).trans ((dr _ _).trans h3.dm)
  | ga h1 h2=>exact(((lO _ _).trans (JE _)).trans (dr _ _)).trans (gr _ _)
  | gv h1 h2=>exact gr _ _
theorem FO{C:RC}(HN:nT C){n:Nat}(hn:n ≤ 1000000){m:TV}{w:AT}{z:PS}{B:Nat}{t:Tr}{x:Gl ⊕ Fu}{s':PS}(hx:Tp (ak C.l) n z x s')(hS:cG C m w (iR (ak C.l) z).2)(hT:Dx B w m t)(hPB:C.P+1<B)(hB:B ≤ w.heap.size)(hl:t.gl.length ≤ 100000 ∧ t.fc.length ≤ 100000)(hsz:∀ f, x=.inr f -> f.pm.length ≤ 1000000 ∧ oy f.bd ≤ 1000000)(hng:∀ g, x ≠ .inl g):
    (aJ (ak C.l) [40] (iR (ak C.l) z).2=true ∧ Calls prog 115 #[.pointer (some ⟨C.P, 0, none⟩), sV (iR (ak C.l) z).1] w (wL C B w (h_ t x) s')):= by
  cases hx using Tp_i with
  | fn ps s1 b _ h1 h2 h3=>exact⟨h1, CO HN hn _ hS hT hPB hB hl.2 h2 h3 (hsz _ rfl)⟩
  | ga h1 h2=>exact absurd rfl (hng _)
  | gv h1 h2=>exact absurd rfl (hng _)
structure LJ (C:RC) (B:Nat) (w:AT) (n gk:Nat) (t':Tr) (s':PS) (m:TV) (t0:Tr) (z:PS) (wr:AT):Prop where
  pg:xP (ak C.l) n gk z t0 t' s'
  st:cG C m wr z
  tr:Dx B wr m t0
  t:aA (λk=>k=C.P\/B ≤ k) w wr
  pb:C.P+1<B
  b:B ≤ w.heap.size
def LJ.bb{C:RC}{B:Nat}{w:AT}{n gk:Nat}{t':Tr}{s':PS}{m:TV}{t0:Tr}{z:PS}{wr:AT}(h:LJ C B w n gk t' s' m t0 z wr):Kp C w wr:= m8 h.t (λk hk=>by have:= h.st.ok.hi; have:= h.pb; omega) (by have:= h.st.ok.hi; have:= h.pb; have:= h.b; omega)
def LJ.bt{C:RC}{B:Nat}{w:AT}{n gk:Nat}{t':Tr}{s':PS}{m:TV}{t0:Tr}{z:PS}{wr W:AT}(h:LJ C B w n gk t' s' m t0 z wr)(ht:aA (λk=>k=C.P) wr W):Kp C w W:= h.bb.trans (h.st.tb ht)
set_option maxRecDepth 100000 in
set_option maxHeartbeats 4000000 in
def CP{C:RC}(HN:nT C){n:Nat}(hn:n ≤ 1000000){m:TV}{w:AT}{s:PS}{B k:Nat}{t t':Tr}{s':PS}(hp:xP (ak C.l) n k s t t' s')(hsm:Mw C.K 0 t')(hK:C.K ≤ 20000)(hS:cG C m w s)(hT:Dx B w m t)(hPB:C.P+1<B)(hB:B ≤ w.heap.size):
    Calls prog 67 #[.pointer (some ⟨C.P, 0, none⟩)] w (wL C B w t' s'):= by
  have HRl:Hid (∃ (m:TV) (t0:Tr) (z:PS), LJ C B w n k t' s' m t0 z w):= ⟨m, t, s, hp, hS, hT, aA.refl _ _, hPB, hB⟩;have HSm:= ah (And.intro hsm hK);have HNx:= ah HN;have HEx:Hid (∀ m W z, cG C m W z -> Calls prog 112 #[.pointer (some ⟨C.P, 0, none⟩), sV (tx [105, 110, 116])] W (gG C m W (fM (ak C.l) [105, 110, 116] z) (.tuple #[]))):= λm W z h=>jI HN h [105, 110, 116] d_
  have HNa:Hid (∀ m W z, cG C m W (fM (ak C.l) [105, 110, 116] z) -> Calls prog 113 #[.pointer (some ⟨C.P, 0, none⟩)] W (gG C m W (iR (ak C.l) z).2 (sV (iR (ak C.l) z).1))):= λm W z h=>nh HN h
  have HSe:Hid (∀ m W z, cG C m W z -> Calls prog 114 #[.pointer (some ⟨C.P, 0, none⟩), sV (tx [40])] W λe w'=>e=rW (.bool (aJ (ak C.l) [40] z)) ∧ w'=W):= λm W z h=>fL h [40] d_
  clear hp hS hT hPB hB hsm hK HN;go_in;go_wp2
  go_loopg[] k (λgk wr=> ∃ (m:TV) (t0:Tr) (z:PS), LJ C B w n gk t' s' m t0 z wr)
  case atStart=>exact HRl.o
  case round=>
    clear HRl;have⟨m, t0, z, h⟩:= hrel;obtain⟨tt, vl, hbx, -⟩:= h.st.bx;have p2:Bo wr C.P ( 2) (V (fQ (ak C.l z.i))):= (hbx.box 2 _ rfl).1;have hki:= J8 (t:= ak C.l z.i) (fd C.l z.i).1;clear hbx tt vl;by_cases h4:(ak C.l z.i).kd=4
    · obtain⟨rfl, rfl⟩:= h.pg.end' (.inr h4)
      rw[hki.2 h4]at p2;have HF:Hid (wL C B w t' s' (rW (.tuple #[])) wr):= .inl ⟨h.st.al, m, rfl, h.st, h.tr, h.t⟩;clear h hki h4;go_wp2_with fail;refine bodyPost_ret (results_none rfl _ _ _) rfl ?_;exact HF.o
    · have hne:¬ fQ (ak C.l z.i)=0:= λe=>h4 (hki.1 e)
      have hnb:(fQ (ak C.l z.i) != 0)=true:= D4 hne;obtain⟨g, x, s1, rfl, hx, hp1⟩:= h.pg.more' (fR h.st.al) h4;have⟨hsz1, hsz2, hng⟩:= hp1.sizes HSm.o.1 HSm.o.2;have HD1:Hid (Dm (ak C.l) s1 s'):= hp1.pg.dm;have HD2:Hid (Dm (ak C.l) (iR (ak C.l) z).2 s'):= hx.dm2.trans hp1.pg.dm;have HD3:Hid (Dm (ak C.l) (fM (ak C.l) [105, 110, 116] z) s'):= (jZ _).trans HD2.o;have HTp:Hid (∀ W, cG C m W (iR (ak C.l) z).2 -> aA (λk=>k=C.P) wr W -> (aJ (ak C.l) [40] (iR (ak C.l) z).2=true ∧ Calls prog 115 #[.pointer (some ⟨C.P, 0, none⟩), sV (iR (ak C.l) z).1] W (wL C B W (h_ t0 x) s1))):= λW hW ht=>FO HNx.o hn hx hW (h.tr.tcs ht (λk hk=>by rw[hk]; have:= h.pb; omega)) h.pb (t_ h.b (t_ h.t.size ht.size)) hsz2 hsz1 hng
      have HCe:= ah (HEx.o m wr z h.st);have HCn:Hid (∀ W, cG C m W (fM (ak C.l) [105, 110, 116] z) -> Calls prog 113 #[.pointer (some ⟨C.P, 0, none⟩)] W (gG C m W (iR (ak C.l) z).2 (sV (iR (ak C.l) z).1))):= λW hW=>HNa.o m W z hW
      have HH:= ah h;have HP1:= ah hp1;generalize iR (ak C.l) z=hz at*;have⟨nm, y⟩:= hz;dsimp only at*;generalize fM (ak C.l) [105, 110, 116] z=z1 at*;generalize fQ (ak C.l z.i)=ki at*;clear h hp1 hx hsz1 hsz2 hng hki h4;go_wp2_with fail;refine HCe.o.mono (λe w2 hg=>?_);rcases hg.symm with hd|⟨-, rfl, z2, t2⟩
      · have HF:Hid (wL C B w t' s' e w2):= .inr (hd.later (HD3.o) (HH.o.bb))
        obtain⟨-, rfl, -⟩:= hd;unfold aK at*;go_wp2_with fail;exact⟨rfl, HF.o⟩
      have HC2:= ah (HCn.o w2 z2);have HT2:= ah t2;clear z2 t2 HCe p2;go_wp2_with fail;refine HC2.o.mono (λe w3 hg=>?_);rcases hg.symm with hd|⟨-, rfl, z3, t3⟩
      · have HF:Hid (wL C B w t' s' e w3):= .inr (hd.later (HD2.o) (HH.o.bt HT2.o))
        obtain⟨-, rfl, -⟩:= hd;unfold aK at*;go_wp2_with fail;exact⟨rfl, HF.o⟩
      have ht3:= HT2.o.trans t3;have HT3:= ah ht3;have HC3:= ah (HSe.o m w3 y z3);have hcs:= HTp.o w3 z3 ht3;clear z3 t3 HC2 HT2 ht3 HTp;go_wp2_with fail;refine HC3.o.mono ?_;rintro e w4 ⟨rfl, hw⟩;rw[hw];clear hw HC3;have⟨hi, hc⟩:= hcs
      · rw[hi]
        have HC:= ah hc;clear hc hi;go_wp2_with fail;refine HC.o.mono (λe w5 hg=>?_);rcases hg.symm with hd|⟨-, m', rfl, st5, tr5, t5⟩
        · have HF:Hid (wL C B w t' s' e w5):= .inr (hd.later (HD1.o) (HH.o.bt HT3.o))
          obtain⟨-, rfl, -⟩:= hd;unfold aK at*;go_wp2_with fail;exact⟨rfl, HF.o⟩
        have HR5:Hid (∃ (m:TV) (t0:Tr) (z:PS), LJ C B w n g t' s' m t0 z w5):= ⟨m', _, s1, HP1.o, st5, tr5, (HH.o.t.trans (HT3.o.mono λk hk=>.inl hk)).trans t5, HH.o.pb, HH.o.b⟩;clear st5 tr5 t5;go_wp2
        go_roundg g
        case measure=>omega
        case rel=>exact HR5.o
end Go.Proofs.YtngnoopnloojjaaGreatDoor
