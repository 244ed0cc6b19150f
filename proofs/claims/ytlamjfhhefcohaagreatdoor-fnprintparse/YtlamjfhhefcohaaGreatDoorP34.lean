import Derived.Test.YtlamjfhhefcohaaGreatDoorP17
import Derived.Test.YtlamjfhhefcohaaGreatDoorP30
import Derived.Test.YtlamjfhhefcohaaGreatDoorP20
set_option linter.unusedSectionVars false
variable [Inhabited Go.Proofs.YtlamjfhhefcohaaGreatDoor.Pick]
namespace Go.Proofs.YtlamjfhhefcohaaGreatDoor
open Go.Proofs.Tryz
open Go.RowKit
set_option linter.all false
set_option maxRecDepth 100000
set_option maxHeartbeats 16000000
section
variable{C:RC}{w:World}{r:List Nd}{P:Program}{ops:Array Oper}{i:Nat}{a:Act}
structure EB (C:RC) (m:TV) (B:Nat) (w0:World) (v0:Value) (w:World) (v:Value) (xs:List Nd) (s:PS):Prop where
 st:bj C m w s
 row:aF B w v xs
 t:am (fun k=>k=C.P∨v0.ownBlock=some k) w0 w
 own:∀k,v.ownBlock=some k->v0.ownBlock=some k∨w0.heap.size<=k
 pb:C.P+1<B
 b0:B<=w0.heap.size
 r0:∀k,v0.ownBlock=some k->B<=k
def gf(C:RC)(m:TV)(w:World)(B:Nat)(v:Value)(r:List Nd)(s':PS)(e:Ending)(w':World):Prop:=
 (¬iV (ai C.l) s'/\∃u,e=.returned u/\EB C m B w v w' u r s')∨lv C w s' e w'
theorem EB.start{m:TV}{B:Nat}{v:Value}{xs:List Nd}{s:PS}(h:bj C m w s)(hr:aF B w v xs)(hp:C.P+1<B)(hb:B<=w.heap.size):EB C m B w v w v xs s:=
 ⟨h,hr,am.refl _ _,fun k hk=>.inl hk,hp,hb,fun k hk=>(World.ownsRow.lt hr k hk).1⟩
section
variable{C:RC}{m:TV}{B:Nat}{w0 w w':World}{v0 v:Value}{xs:List Nd}{s z:PS}
theorem EB.go(h:EB C m B w0 v0 w v xs s)(hz:bj C m w' z)(ht:am (fun k=>k=C.P) w w'):EB C m B w0 v0 w' v xs z:=
 ⟨hz,az h.row ht (fun k hk=>by rw[hk];have:=h.pb;omega),h.t.trans (ht.mono fun k hk=>.inl hk),h.own,h.pb,h.b0,h.r0⟩
theorem EB.below(h:EB C m B w0 v0 w v xs s)(hb:Below w.heap.size w w'):EB C m B w0 v0 w' v xs s:=
 ⟨h.st.below hb,aF.below h.row hb,h.t.of_below hb,h.own,h.pb,h.b0,h.r0⟩
theorem EB.then{u:Value}(h:EB C m B w0 v0 w v xs s)(h':EB C m B w v w' u r z):EB C m B w0 v0 w' u r z:=
 ⟨h'.st,h'.row,h.t.next h'.t (fun k hk=>by
  rcases hk with hk|hk
  ·exact .inl (.inl hk)
  ·rcases h.own k hk with h1|h1
   ·exact .inl (.inr h1)
   ·exact .inr h1),fun k hk=>by
  rcases h'.own k hk with h1|h1
  ·exact h.own k h1
  ·exact .inr (t_ h.t.size h1),h.pb,h.b0,h.r0⟩
theorem EB.bb(h:EB C m B w0 v0 w v xs s):Kp C w0 w:=jU h.t (fun k hk=>by
 have:=h.st.ok.hi
 have:=h.pb
 rcases hk with hk|hk
 ·omega
 ·have:=h.r0 k hk;omega) (by have:=h.st.ok.hi;have:=h.pb;have:=h.b0;omega)
theorem EB.le(h:EB C m B w0 v0 w v xs s):B<=w.heap.size:=t_ h.b0 h.t.size
theorem EB.die{e:Ending}{w2:World}{z':PS}(h:EB C m B w0 v0 w v xs s)(hd:lv C w z e w2)(hm:Dm (ai C.l) z z'):gf C m w0 B v0 r z' e w2:=.inr (hd.later hm h.bb)
theorem EB.fin(h:EB C m B w0 v0 w v xs s):gf C m w0 B v0 xs s (.returned v) w:=.inl ⟨h.st.al,v,rfl,h⟩
theorem EB.app(h:EB C m B w0 v0 w v xs s){a:Option Addr}{c:Nat}{nd:Nd}(hN:ax w (.slice a 1 c) [nd])(hl:xs.length<=2000000):
  ∃u w',(Builtin.append_ #[44,44] 44 #[v,.slice a 1 c]).run prog w=.ok u w'/\EB C m B w0 v0 w' u (xs++[nd]) s/\am (fun k=>v.ownBlock=some k) w w':=by
 obtain⟨u,w',r1,r2,r3,r4⟩:=fF (w:=w) B 44 v xs h.row _ [nd] hN (by simp only[List.length_singleton];omega) h.le;have t:am (fun k=>v.ownBlock=some k) w w':=am.of_grown r3 (fun k h=>h);have hB:∀k,v.ownBlock=some k->B<=k:=fun k hk=>(World.ownsRow.lt h.row k hk).1;refine⟨u,w',r1,⟨h.st.tcs t (fun e=>by have:=hB _ e;have:=h.pb;omega) (fun k hk=>by have:=hB k hk;have:=h.pb;have:=h.st.ok.hi;omega),r2,h.t.next t (fun k hk=>by
  rcases h.own k hk with h1|h1
  ·exact .inl (.inr h1)
  ·exact .inr h1),fun k hk=>by
  rcases r4 k hk with h1|h1
  ·exact h.own k h1
  ·exact .inr (t_ h.t.size h1),h.pb,h.b0,h.r0⟩,t⟩
theorem EB.lit{W:World}{b:Nat}(h:EB C m B w0 v0 w v xs s)(kd vl:Int)(nm:ByteArray)(hW:W=w.alloc (.cells #[.int .i64 kd,.int .i64 vl,.string nm] 48))(hb:b=w.heap.size)(hl:xs.length<=2000000):
  ∃u w',(Builtin.append_ #[44,44] 44 #[v,.slice (some ⟨b,0,none⟩) 1 1]).run prog W=.ok u w'/\gf C m w0 B v0 (xs++[⟨kd,vl,nm⟩]) s (.returned u) w':=by
 have Ja:Bl w W:=by rw[hW];exact r_.alloc n_ _
 have hN:ax W (.slice (some ⟨b,0,none⟩) 1 1) [⟨kd,vl,nm⟩]:=by rw[hW,hb];exact(aQ w 0 y_ _ _ _).nodes
 obtain⟨u,w',r1,r2,-⟩:=(h.below Ja).app hN hl;exact⟨u,w',r1,r2.fin⟩
end
theorem rc{Q:Exit->Act->World->Prop}{md:Region.Mode}{S:World->Prop}{l:Nat}{j:Nat}{fuel:Nat}{listed:Array Bool}(hr:Region.ready md ops listed=[i,j])
  (h1:wpOp P ops Q i (fun a' w'=>(i≠l->S w')/\cA P md ops Q S l fuel (listed.setIfInBounds i true) a' w') a w)
  (h2:wpOp P ops Q j (fun a' w'=>(j≠l->S w')/\cA P md ops Q S l fuel (listed.setIfInBounds j true) a' w') a w):cA P md ops Q S l (fuel+1) listed a w:=by
 refine⟨fun h0=>(by rw[hr]at h0;cases h0),fun k hk=>?_⟩;rw[hr]at hk;simp only[List.mem_cons,List.not_mem_nil,or_false]at hk;rcases hk with rfl|rfl
 ·exact h1
 ·exact h2
theorem sG{Q:Exit->Act->World->Prop}{o:Oper}{K:Act->World->Prop}(ho:ops[i]? =some o)
  (h:if Region.wanted o (yielded ops a.tmps)=true then o.wp P a w K Q else K (a.put o.dst undef) w):wpOp P ops Q i K a w:=by
 unfold wpOp;simp only[ho];split
 ·rename_i hw;rw[if_pos hw]at h;exact .inl h
 ·rename_i hw;rw[if_neg hw]at h;exact h
def Es(C:RC)(n:Nat):Prop:=∀(w:World) (m:TV) (B:Nat) (s:PS) (least:Int) (v:Value) (xs a:List Nd) (s':PS),Pa (ai C.l) n (.e least) s (.n a) s'->bj C m w s->aF B w v xs->C.P+1<B->B<=w.heap.size->xs.length+a.length<=1000000->1<=least->least<=11 ->
 Calls prog 199 #[.pointer (some ⟨C.P,0,none⟩),v,.int .i64 least] w (gf C m w B v (xs++a) s')
def Et(C:RC)(n:Nat):Prop:=∀(w:World) (m:TV) (B:Nat) (s:PS) (v:Value) (xs a:List Nd) (s':PS),Pa (ai C.l) n .o s (.n a) s'->bj C m w s->aF B w v xs->C.P+1<B->B<=w.heap.size->xs.length+a.length<=1000000 ->
 Calls prog 200 #[.pointer (some ⟨C.P,0,none⟩),v] w (gf C m w B v (xs++a) s')
def sH(C:RC)(n:Nat):Prop:=∀(w:World) (m:TV) (B:Nat) (s:PS) (x:ByteArray) (v:Value) (xs a:List Nd) (s':PS),Pa (ai C.l) n (.ar x) s (.n a) s'->bj C m w s->aF B w v xs->C.P+1<B->B<=w.heap.size->xs.length+a.length<=1000000 ->
 Calls prog 194 #[.pointer (some ⟨C.P,0,none⟩),v,.string x] w (gf C m w B v (xs++a) s')
def Dt(C:RC)(n:Nat):Prop:=∀(w:World) (m:TV) (B:Nat) (s:PS) (v:Value) (xs a:List Nd) (s':PS),Pa (ai C.l) n (.e 1) s (.n a) s'->bj C m w s->aF B w v xs->C.P+1<B->B<=w.heap.size->xs.length+a.length<=1000000 ->
 Calls prog 195 #[.pointer (some ⟨C.P,0,none⟩),v] w (gf C m w B v (xs++a) s')
theorem xX{n:Nat}(h:Es C n):Dt C n:=by
 intro w m B s v xs a s' hp hS hr hP hB hl;have HC:=ah (h w m B s 1 v xs a s' hp hS hr hP hB hl d_ d_);obtain⟨ad,cp,rfl,-⟩:=au hr;go_enter func195,ntmps195;go_wp2_with fail;refine HC.out.mono ?_;rintro e w2 hg;have HF:=ah hg;rcases hg with⟨-,u,rfl,-⟩|⟨-,rfl,-⟩
 ·go_wp2;go_ret;exact HF
 ·unfold a8 at*;go_wp2_with fail;exact⟨rfl,HF⟩
end
theorem Fj(a b c d:List Nd):a++(b++c++d)=a++b++c++d:=by simp[List.append_assoc]
theorem dD(w:World):Below w.heap.size w w.drew:=r_.drew
theorem xY{C:RC}(HN:gW C){n:Nat}(hO:Et C n)(hE:Es C n):Es C (n+1):=by
 intro w m B s Ja v xs a s' hP hS hr Yb X_ hl h1 h11;obtain⟨a0,s0,Yq,Xv⟩:∃a0 s0,Pa (ai C.l) n .o s (.n a0) s0/\Pa (ai C.l) n (.lp Ja a0) s0 (.n a) s':=by
  cases hP using Pa_i with
  | ex n m s a0 s0 r s' h1 h2=>exact⟨a0,s0,h1,h2⟩
 have Zo:a0.length<=a.length:=Xv.acc;obtain⟨HO,Xr,Yk,Ze⟩:=h4 (hO w m B s v xs a0 s0 Yq hS hr Yb X_ o_) Xv (EB.start hS hr Yb X_) HN;have Yu:=ah fun W z st u ys b z1 (hp:Pa (ai C.l) n (.e st) z (.n b) z1) (h:EB C m B w v W u ys z) (hl:ys.length+b.length<=1000000) (h1:1<=st) (h2:st<=11)=>hE W m B z st u ys b z1 hp h.st h.row h.pb h.le hl h1 h2;have Zk:=ah hl;clear hO hE hP Yq Xv Zo hS hr Yb X_ hl HN;go_enter func199,ntmps199;go_wp2_with fail;refine HO.out.mono ?_;rintro e w1 (⟨-,u1,rfl,hE1⟩|hd)
 ·have Yw:=ah hE1;clear hE1 HO Yk;go_wp2;go_loopg[1] n (fun gk u wr=>∃(o:List Nd) (z:PS),gk<=n/\Pa (ai C.l) gk (.lp Ja o) z (.n a) s'/\EB C m B w v wr u (xs++o) z)
  case atStart=>exact⟨a0,s0,n_,Xr,Yw⟩
  case round=>
   clear Yw Xr;obtain⟨o,z,Zr,hp,hE⟩:=hrel;obtain⟨Xn,HE,Jn⟩:=h3 (nJ hE.st) hE hp;clear hE hp;go_wp2_with fail;refine Xn.out.mono ?_;rintro e w2 ⟨Zh,Xg⟩;have Jg:=HE.out.below Xg;have J_:=dB Jg.st.al;rcases Zh with⟨Yg,rfl⟩|⟨b,Zc,Xb,rfl⟩
   ·rcases qL Jn.out with⟨h0,-,-⟩|⟨-,-,rfl,rfl⟩|⟨-,k,x,b,z1,-,Jo,-⟩
    ·exact absurd J_ h0
    ·have HF:=ah (Jg.below (r_.alloc n_ (.cells #[.string ⟨#[]⟩,.int .i64 0,.int .i64 0,.int .i64 0] 206))).fin;have Yp:(0:Int)<Ja:=o_
     clear Jg Xg HE Jn Xn Yg J_;go_wp2;go_ret;exact HF
    ·rw[Yg]at Jo;cases Jo
   ·unfold zK;have Yz:=zf b Zc;rcases qL Jn.out with⟨h0,-,-⟩|⟨-,Jk,rfl,rfl⟩|⟨-,k,x,b',z1,rfl,Jo,Yf,Ye,Yx⟩
    ·exact absurd J_ h0
    ·have Yp:b.2.1<Ja:=Jk _ Xb;have HF:=ah (Jg.below (r_.alloc n_ (.cells #[.string (tx b.1),.int .i64 b.2.1,.int .i64 b.2.2.1,.int .i64 b.2.2.2] 206))).fin;clear Jg Xg HE Jn Xn Xb J_ Jk;generalize b.2.1=bst at*;generalize b.2.2.1=bk at*;generalize b.2.2.2=bv at*;go_wp2;go_ret;exact HF
    ·rw[Xb]at Jo;cases Jo
     have Yp:¬b.2.1<Ja:=by have h:Ja<=b.2.1:=Yf;omega
     have Ju:aC (ai C.l) b.1 z=true:=(rJ Xb).1;have Jq:Pa (ai C.l) k (.e (b.2.1+1)) z.ad (.n b') z1:=Ye;have Jm:Pa (ai C.l) k (.lp Ja (o++b'++[⟨b.2.2.1,b.2.2.2,tx []⟩])) z1 (.n a) s':=Yx;obtain⟨W3,Xi⟩:=q_ (w2.alloc (.cells #[.string (tx b.1),.int .i64 b.2.1,.int .i64 b.2.2.1,.int .i64 b.2.2.2] 206));obtain⟨Bo,Xq⟩:=q_ w2.heap.size;have Yn:Bl w2 W3:=by rw[Xi];exact r_.alloc n_ _
     have Xj:aR W3 Bo [.string (tx b.1),.int .i64 b.2.1,.int .i64 b.2.2.1,.int .i64 b.2.2.2]:=by rw[Xi,Xq];exact aJ w2 #[.string (tx b.1),.int .i64 b.2.1,.int .i64 b.2.2.1,.int .i64 b.2.2.2] _ (by show 4<=1000;omega)
     have Ya:Bo<W3.heap.size:=b_ (Xj 0 _ rfl).1;have Xm:=Jg.below Yn;have Jr:C.P≠Bo:=by have:=Jg.st.lt;omega
     have Jy:∀k,u1.ownBlock=some k->k≠Bo:=fun k hk=>by have:=(World.ownsRow.lt Jg.row k hk).2;omega
     have HA:=ah (kE Ze.out Xm.st (qD Xm.st Ju));have y1:=(Xj 1 _ rfl).1;obtain⟨Yr,Xs,Xf,Xo,Za,Zl,Jl,Ji,Xc⟩:=h9 Xj Xm Jq Jm Xi Xq Jr Jy Yz;have Xx:k<=n:=o_;have Ys:(xs++o).length+b'.length<=1000000:=by
      have:=Jm.acc
      have:=Zk.out
      simp only[PT.acc,PR.sz,l_a,List.length_singleton]at*;omega
     have Xl:=ah Ys;clear Jg Xm Xg Yn Xj Xi Xq Jr Jy Ye Yx Jq Jm Xb J_ Ju Xn Jn HE Yz Ys Yf;generalize tx b.1=bsy at*;generalize b.2.1=bst at*;generalize b.2.2.1=bk at*;generalize b.2.2.2=bv at*;go_upto_region 3 with fail;rw[<-Za.out,<-Zl.out];go_wp2_with fail;refine HA.out.mono ?_;rintro e w4 (⟨-,rfl,z4,t4⟩|hd)
     ·have Y_:=Xs.out.go z4 t4;have Yy:=Yr.out.tcs Ya t4 (fun e=>Jl.out e.symm);have Ym:Bo<w4.heap.size:=l_ Ya t4.size;obtain⟨W5,Xt⟩:=q_ w4.drew;have Xk:Bl w4 W5:=by rw[Xt];exact dD w4
      have Xy:=Y_.below Xk;have Jv:=Yy.below Xk;have Yl:Bo<W5.heap.size:=l_ Ym Xk.size;have HS:=ah (show W5.cell? ⟨Bo,1,none⟩=some (.int .i64 bst)/\W5.cell? ⟨Bo,2,none⟩=some (.int .i64 bk)/\W5.cell? ⟨Bo,3,none⟩=some (.int .i64 bv)from⟨(Jv 1 _ rfl).1,(Jv 2 _ rfl).1,(Jv 3 _ rfl).1⟩);have Zs:IntKind.i64.wrap (bst+1)=bst+1:=by have:=Xc.out;rw[IntKind.wrap_i64];omega
      obtain⟨Yo,Jz,Yd,Zp,Xd,Yh,Zg⟩:=h7 (Yu.out W5 z.ad (bst+1) u1 (xs++o) b' z1 (Pa.ups Xx Xf) Xy Xl.out (by have:=Xc.out;omega) (by have:=Xc.out;omega)) Xy Jv Xt Yl (Xo.out.dm) (Pa.ups Xx Xf);have Xa:Hid (∀W u,EB C m B w v W u (xs++o++b'++[⟨bk,bv,tx []⟩]) z1->∃(o':List Nd) (z':PS),k<=n/\Pa (ai C.l) k (.lp Ja o') z' (.n a) s'/\EB C m B w v W u (xs++o') z'):=fun W u h=>⟨_,z1,Xx,Xo,by rw[Fj];exact h⟩;clear z4 t4 Y_ Yy Xk Xy Jv Xt y1 HA Xs Yr Xf Xo Za Ya Ym Yl;go_upto_region 6 with fail;refine aX 13 (fun X=>X.cell? ⟨Bo,1,none⟩=some (.int .i64 bst)/\X.cell? ⟨Bo,2,none⟩=some (.int .i64 bk)/\X.cell? ⟨Bo,3,none⟩=some (.int .i64 bv)) k_ ?_;rw[<-Zp.out];refine tk 0 [5,12,13] HS.out ?_;refine tk 1 [5,12,13] HS.out ?_;refine tk 2 [3,4,5,12,13] HS.out ?_;refine tk 3 [4,5,12,13] HS.out ?_;refine tk 4 [5,12,13] HS.out ?_;refine tk 6 [7,10,11,12,13] HS.out ?_;refine tk 7 [10,11,12,13] HS.out ?_;refine tk 8 [9,10,11,12,13] HS.out ?_;refine tk 9 [10,11,12,13] HS.out ?_;refine tk 10 [11,12,13] HS.out ?_;clear HS;refine rc (i:=5) (j:=11) k_ ?_ ?_
      ·refine sG rfl ?_;go_simp;refine Yo.out.mono ?_;rintro e w6 (⟨-,u6,rfl,Jh⟩|hd)
       ·have Jp:=Jz.out.then Jh;have Jb:=Yd.out.tcs Xd.out Jh.t (fun e=>by rcases e with e|e;exact Jl.out e.symm;exact Ji.out _ e rfl);have Jx:Bo<w6.heap.size:=l_ Xd.out Jh.t.size;have Yv:∀k,u6.ownBlock=some k->k≠Bo:=fun k hk=>by
         rcases Jh.own k hk with h|h
         ·exact Ji.out k h
         ·have:=Xd.out;omega
        obtain⟨W7,Xh⟩:=q_ (w6.alloc (.cells #[.int .i64 bk,.int .i64 bv,.string ⟨#[]⟩] 48));obtain⟨b7,Yc⟩:=q_ w6.heap.size;have Jj:Bl w6 W7:=by rw[Xh];exact r_.alloc n_ _
        have Js:ax W7 (.slice (some ⟨b7,0,none⟩) 1 1) [⟨bk,bv,tx []⟩]:=by rw[Xh,Yc];exact(aQ w6 0 y_ _ _ _).nodes
        have Jc:=Jb.below Jj;have Jd:(xs++o++b').length<=2000000:=by have:=Xl.out;rw[l_a];omega
        obtain⟨u8,w8,r8,Jw,t8⟩:=(Jp.below Jj).app Js Jd;have Je:=Jc.tcs (l_ Jx Jj.size) t8 (fun e=>Yv _ e rfl);obtain⟨Zd,Xp,Xz,Xw,Zj,Zi⟩:=h6 (show W7.cell? ⟨Bo,1,none⟩=some (.int .i64 bst)/\W7.cell? ⟨Bo,2,none⟩=some (.int .i64 bk)/\W7.cell? ⟨Bo,3,none⟩=some (.int .i64 bv)from⟨(Jc 1 _ rfl).1,(Jc 2 _ rfl).1,(Jc 3 _ rfl).1⟩) (show w8.cell? ⟨Bo,1,none⟩=some (.int .i64 bst)/\w8.cell? ⟨Bo,2,none⟩=some (.int .i64 bk)/\w8.cell? ⟨Bo,3,none⟩=some (.int .i64 bv)from⟨(Je 1 _ rfl).1,(Je 2 _ rfl).1,(Je 3 _ rfl).1⟩) Jw r8 Xh Yc;refine⟨⟨(Jb 1 _ rfl).1,(Jb 2 _ rfl).1,(Jb 3 _ rfl).1⟩,?_⟩;clear Jh Jp Jb Jx Yv Xh Yc Jj Js Jc Jd r8 Jw t8 Je;try simp only[Act.put,tA,tB,tC]
        refine aw (i:=11) k_ rfl (fun K hK=>?_);go_simp;rw[<-Zj.out,<-Zi.out];refine hK.out _ _ (fun _=>Zd) ?_;clear hK K;try simp only[Act.put,tA,tB,tC]
        refine aw (i:=12) k_ rfl (fun K hK=>?_);refine bm rfl (.tmp 27) (.tmp 33) 44 rfl u6 (.slice (some ⟨b7,0,none⟩) 1 1) u8 w8 rfl rfl Xw.out ?_;refine hK.out _ _ (fun _=>Xp) ?_;clear hK K;try simp only[Act.put,tA,tB,tC]
        refine aw (i:=13) k_ rfl (fun K hK=>?_);go_simp;refine hK.out _ _ (fun h=>absurd rfl h) ?_;clear hK K;refine aP k_ ?_ _;go_wp2;go_roundg k
        case measure=>omega
        case rel=>exact Xa.out _ _ Xz
       ·have HF:Hid (gf C m w B v (xs++a) s' e w6):=Jz.out.die hd Yh;obtain⟨-,rfl,-⟩:=hd;unfold a8 at*;go_wp2_with fail;exact⟨rfl,HF⟩
      ·refine sG rfl ?_;go_simp;obtain⟨W6,Xe⟩:=q_ (W5.alloc (.cells #[.int .i64 bk,.int .i64 bv,.string ⟨#[]⟩] 48));obtain⟨b6,Xu⟩:=q_ W5.heap.size;rw[<-Xe,<-Xu];have Jf:Bl W5 W6:=by rw[Xe];exact r_.alloc n_ _
       have Yt:aF W5.heap.size W6 (.slice (some ⟨b6,0,none⟩) 1 1) [⟨bk,bv,tx []⟩]:=by rw[Xe,Xu];exact aQ W5 _ n_ _ _ _
       have Jb:=Yd.out.below Jf;have Jx:Bo<W6.heap.size:=l_ Xd.out Jf.size;have Jh:=Jz.out.below Jf;obtain⟨Zf,Yj,Zq,Zn⟩:=h4 (Yu.out W6 z.ad (bst+1) u1 (xs++o) b' z1 Zg.out Jh Xl.out (by have:=Xc.out;omega) (by have:=Xc.out;omega)) Jh Yt Jb;have Zt:C.P<W5.heap.size:=Nat.lt_of_succ_lt Jz.out.st.lt;have Zm:∀k,u1.ownBlock=some k->k<W5.heap.size:=fun k hk=>(World.ownsRow.lt Jz.out.row k hk).2;refine⟨⟨(Jb 1 _ rfl).1,(Jb 2 _ rfl).1,(Jb 3 _ rfl).1⟩,?_⟩;clear Xe Xu Jf Yt Jb Jh Yo;try simp only[Act.put,tA,tB,tC]
       refine aw (i:=5) k_ rfl (fun K hK=>?_);go_simp;refine Zf.out.mono ?_;rintro e w6 (⟨-,u6,rfl,hE7⟩|hd)
       ·have Jt:=Yj.out.then hE7;have Jc:=Zn.out.tcs Jx hE7.t (fun e=>by rcases e with e|e;exact Jl.out e.symm;exact Ji.out _ e rfl);have Yi:Bo<w6.heap.size:=l_ Jx hE7.t.size;have Zb:∀k,u6.ownBlock=some k->k≠Bo:=fun k hk=>by
         rcases hE7.own k hk with h|h
         ·exact Ji.out k h
         ·omega
        have Js:aF W5.heap.size w6 (.slice (some ⟨b6,0,none⟩) 1 1) [⟨bk,bv,tx []⟩]:=az Zq.out hE7.t (fun k hk=>by
         rcases hk with hk|hk
         ·omega
         ·exact Zm k hk)
        have Jd:(xs++o++b').length<=2000000:=by have:=Xl.out;rw[l_a];omega
        obtain⟨u8,w8,r8,Jw,t8⟩:=Jt.app Js.nodes Jd;have Je:=Jc.tcs Yi t8 (fun e=>Zb _ e rfl);obtain⟨Xp,Xz,Xw⟩:=h3 (show w8.cell? ⟨Bo,1,none⟩=some (.int .i64 bst)/\w8.cell? ⟨Bo,2,none⟩=some (.int .i64 bk)/\w8.cell? ⟨Bo,3,none⟩=some (.int .i64 bv)from⟨(Je 1 _ rfl).1,(Je 2 _ rfl).1,(Je 3 _ rfl).1⟩) Jw r8;refine hK.out _ _ (fun _=>⟨(Jc 1 _ rfl).1,(Jc 2 _ rfl).1,(Jc 3 _ rfl).1⟩) ?_;clear hK K hE7 Jt Jc Yi Zb Js Jd r8 Jw t8 Je;try simp only[Act.put,tA,tB,tC]
        refine aw (i:=12) k_ rfl (fun K hK=>?_);refine bm rfl (.tmp 27) (.tmp 33) 44 rfl u6 (.slice (some ⟨b6,0,none⟩) 1 1) u8 w8 rfl rfl Xw.out ?_;refine hK.out _ _ (fun _=>Xp) ?_;clear hK K;try simp only[Act.put,tA,tB,tC]
        refine aw (i:=13) k_ rfl (fun K hK=>?_);go_simp;refine hK.out _ _ (fun h=>absurd rfl h) ?_;clear hK K;refine aP k_ ?_ _;go_wp2;go_roundg k
        case measure=>omega
        case rel=>exact Xa.out _ _ Xz
       ·have HF:Hid (gf C m w B v (xs++a) s' e w6):=Yj.out.die hd Yh;obtain⟨-,rfl,-⟩:=hd;unfold a8 at*;go_wp2_with fail;exact⟨rfl,HF⟩
     ·have HF:Hid (gf C m w B v (xs++a) s' e w4):=by
       have h:=Xs.out.die hd ((Xf.out.dm).trans (Xo.out.dm)) (r:=xs++a);exact h
      obtain⟨-,rfl,-⟩:=hd;unfold a8 at*;go_wp2_with fail;exact⟨rfl,HF⟩
 ·have HF:Hid (gf C m w B v (xs++a) s' e w1):=Yk.out.die hd Xr.out.dm;obtain⟨-,rfl,-⟩:=hd;unfold a8 at*;go_wp2_with fail;exact⟨rfl,HF⟩
section
variable{C:RC}{n:Nat}
theorem iT(B:Nat)(w:World):aF B w (.slice none 0 0) []:=World.ownsRow_nil _ _ _ _
def Eu(C:RC)(m:TV)(w:World)(r:List Nd)(s':PS)(e:Ending)(w':World):Prop:=gf C m w w.heap.size (.slice none 0 0) r s' e w'
def CS(C:RC)(n:Nat):Prop:=∀(w:World) (m:TV) (s:PS) (x y:List UInt8) (a:List Nd) (s':PS),dV x=true->dV y=true->Pa (ai C.l) n (.pr x y) s (.n a) s'->bj C m w s->a.length<=1000000 ->
 Calls prog 180 #[.pointer (some ⟨C.P,0,none⟩),.string (tx x),.string (tx y)] w (Eu C m w a s')
theorem CT(HN:gW C)(hE:Dt C n):CS C n:=by
 intro w m s x y a s' hx hy hp hS hl;have Ja:=jC hp;have Jl:=ah (eK HN hS x hx);have Je:=EB.start hS (iT w.heap.size w) hS.lt n_;have Jk:=ah fun W b z1 (h0:(bA (ai C.l) x s).er=0) (hp:Pa (ai C.l) n (.e 1) (bA (ai C.l) x s) (.n b) z1) (hl:b.length<=1000000) (h:EB C m w.heap.size w (.slice none 0 0) W (.slice none 0 0) [] (bA (ai C.l) x s))=>hE W m w.heap.size _ _ _ _ _ hp h.st h.row h.pb h.le (by simpa using hl);have Jg:=ah fun W z (h:bj C m W z) (ho:1<=z.op)=>eL HN h ho y hy;have Ji:Hid ((bA (ai C.l) x s).op=s.op+1):=on_op x s;have Jm:Hid (Dm (ai C.l) (bA (ai C.l) x s) s'):=by
  rcases Ja with⟨-,-,rfl⟩|⟨-,s1,h1,rfl⟩
  ·exact bG _ _
  ·exact h1.dm.trans (bG _ _)
 have Jo:=hS.op.1;unfold Eu;generalize bA (ai C.l) x s=z at*;generalize tx x=xx at*;generalize hty:tx y=yy at*;go_enter func180,ntmps180;go_wp2_with fail;refine(Jl).mono (fun e w1 hg=>?_);rcases hg.symm with hd|⟨-,rfl,z2,t2⟩
 ·have HF:Hid (gf C m w w.heap.size (.slice none 0 0) a s' e w1):=Je.die hd (Jm);obtain⟨-,rfl,-⟩:=hd;unfold a8 at*;go_wp2_with fail;exact⟨rfl,HF⟩
 have Jb:=Je.go z2 t2;go_wp2_with fail;rcases Ja with⟨h0,-,-⟩|⟨h0,s1,Jd,rfl⟩
 ·exact absurd (dB Jb.st.al) h0
 have Jh:=ah Jd.op;have Jf:=ah (Jk.out w1 a s1 h0 Jd hl Jb);refine(Jf).mono (fun e w2 hg=>?_);rcases hg.symm with hd|⟨-,u2,rfl,hn⟩
 ·have HF:Hid (gf C m w w.heap.size (.slice none 0 0) a (cO (ai C.l) y s1) e w2):=Jb.die hd (bG _ _);obtain⟨-,rfl,-⟩:=hd;unfold a8 at*;go_wp2_with fail;exact⟨rfl,HF⟩
 have Jc:=Jb.then hn;go_wp2_with fail;have Jj:=ah (Jg.out w2 s1 Jc.st (by rw[Jh.out,Ji.out];omega));refine(Jj).mono (fun e w3 hg=>?_);rcases hg.symm with hd|⟨-,rfl,z2,t2⟩
 ·have HF:Hid (gf C m w w.heap.size (.slice none 0 0) a (cO (ai C.l) y s1) e w3):=Jc.die hd (Dm.refl _);obtain⟨-,rfl,-⟩:=hd;unfold a8 at*;go_wp2_with fail;exact⟨rfl,HF⟩
 have Jn:=Jc.go z2 t2;go_wp2_with fail;have HF:=ah Jn.fin;go_ret;exact HF
def D4(C:RC)(n:Nat):Prop:=∀(w:World) (m:TV) (s:PS) (a:List Nd) (s1:PS),Pa (ai C.l) n (.e 1) s (.n a) s1->bj C m w s->a.length<=1000000 ->
 Calls prog 178 #[.pointer (some ⟨C.P,0,none⟩)] w (Eu C m w a (bq (ai C.l) [59] s1))
theorem CU(HN:gW C)(hE:Dt C n):D4 C n:=by
 intro w m s a s1 hp hS hl;have Jb:=EB.start hS (iT w.heap.size w) hS.lt n_;have Jf:=ah (hE w m w.heap.size s (.slice none 0 0) [] a s1 hp hS (iT _ w) hS.lt n_ (by simpa using hl));have Je:=ah fun W z (h:bj C m W z)=>dt HN h [59] d_;unfold Eu;go_enter func178,ntmps178;go_wp2_with fail;refine(Jf).mono (fun e w1 hg=>?_);rcases hg.symm with hd|⟨-,u1,rfl,hn⟩
 ·have HF:Hid (gf C m w w.heap.size (.slice none 0 0) a (bq (ai C.l) [59] s1) e w1):=Jb.die hd (bQ _ _);obtain⟨-,rfl,-⟩:=hd;unfold a8 at*;go_wp2_with fail;exact⟨rfl,HF⟩
 have Ja:=Jb.then hn;go_wp2_with fail;have Jc:=ah (Je.out w1 s1 Ja.st);refine(Jc).mono (fun e w2 hg=>?_);rcases hg.symm with hd|⟨-,rfl,z2,t2⟩
 ·have HF:Hid (gf C m w w.heap.size (.slice none 0 0) a (bq (ai C.l) [59] s1) e w2):=Ja.die hd (Dm.refl _);obtain⟨-,rfl,-⟩:=hd;unfold a8 at*;go_wp2_with fail;exact⟨rfl,HF⟩
 have Jd:=Ja.go z2 t2;go_wp2_with fail;have HF:=ah Jd.fin;go_ret;exact HF
end
theorem rh{C:RC}(HN:gW C){n:Nat}(hn:n<=1000000)(hE:Dt C n):sH C (n+1):=by
 intro w m B s x v xs a s' hP hS hr Xo Xm hl;obtain⟨b,kk,s1,hp,rfl,rfl⟩:∃b kk s1,Pa (ai C.l) n (.al 0 []) (bA (ai C.l) [40] s) (.a b kk) s1/\a=b++[⟨4,kk,x⟩]/\s'=cO (ai C.l) [41] s1:=by
  cases hP using Pa_i with
  | arg n x s a k s1 h1=>exact⟨a,k,s1,h1,rfl,rfl⟩
 simp only[l_a,List.length_singleton]at hl;have Jo:=EB.start hS hr Xo Xm;have Jy:=ah (eK HN hS [40] d_);have Xf:Hid (Dm (ai C.l) (bA (ai C.l) [40] s) (cO (ai C.l) [41] s1)):=hp.dm.trans (bG _ _);have Xc:Hid (1<=s1.op):=by show 1<=s1.op;rw[hp.op,on_op];have:=hS.op;omega
 have Jq:=lG hp;have Xb:=ah fun W z x (hx:dV x=true) (h:bj C m W z)=>du h x hx;have Jz:=ah fun W z y (hy:dV y=true) (h:bj C m W z) (ho:1<=z.op)=>eL HN h ho y hy;have Jv:=ah fun W z u ys b z1 (hp:Pa (ai C.l) n (.e 1) z (.n b) z1) (h:EB C m B w v W u ys z) (hl:ys.length+b.length<=1000000)=>hE W m B z u ys b z1 hp h.st h.row h.pb h.le hl;have Xh:=ah fun W z (h:bj C m W z)=>cY HN h [44] d_;obtain⟨Jj,Xd⟩:=h2 hl hp;generalize bA (ai C.l) [40] s=z at*;go_enter func194,ntmps194;go_wp2_with fail;refine(Jy).mono (fun e w1 hg=>?_);rcases hg.symm with hd|⟨-,rfl,z2,t2⟩
 ·have HF:Hid (gf C m w B v (xs++(b++[⟨4,kk,x⟩])) (cO (ai C.l) [41] s1) e w1):=Jo.die hd (Xf);obtain⟨-,rfl,-⟩:=hd;unfold a8 at*;go_wp2_with fail;exact⟨rfl,HF⟩
 have Jd:=Jo.go z2 t2;clear z2 t2;go_wp2_with fail;rcases Jq with⟨h0,-⟩|⟨h0,-,hi,rfl,rfl,rfl⟩|⟨h0,J_,k1,b1,z1,rfl,Ji,Ja⟩
 ·exact absurd (dB Jd.st.al) h0
 ·refine(Xb.out w1 _ [41] d_ Jd.st).mono ?_;rintro e w9 ⟨rfl,hw⟩;rw[hw,hi];clear hw;go_wp2_with fail;have Jc:EB C m B w v w1 v (xs++[]) s1:=by rw[List.append_nil];exact Jd
  have Jn:=ah (Jz.out w1 _ [41] d_ Jc.st (by exact Xc));refine(Jn).mono (fun e w5 hg=>?_);rcases hg.symm with hd|⟨-,rfl,z2,t2⟩
  ·have HF:Hid (gf C m w B v (xs++([]++[⟨4,0,x⟩])) (cO (ai C.l) [41] s1) e w5):=Jc.die hd (Dm.refl _);obtain⟨-,rfl,-⟩:=hd;unfold a8 at*;go_wp2_with fail;exact⟨rfl,HF⟩
  have Jk:=Jc.go z2 t2;clear z2 t2;obtain⟨W6,Jf⟩:=q_ (w5.alloc (.cells #[.int .i64 (4),.int .i64 (0),.string (x)] 48));obtain⟨B6,Je⟩:=q_ w5.heap.size;obtain⟨u6,w6,r6,f6⟩:=Jk.lit (4) (0) (x) Jf Je (by have:=Jj.out;simp only[l_a]at*;omega);obtain⟨Js,Jt,Jr,Jp⟩:=h4 Jf Je r6 f6;go_wp2_with(at_builtin;rw[<-Js.out,<-Jt.out];refine ao rfl _ _ _ rfl _ _ u6 w6 rfl rfl Jr.out ?_);go_ret;have hF:=Jp.out;rw[List.append_assoc]at hF;exact hF
 ·have hi:aC (ai C.l) [41] z=false:=by
   rcases J_ with h|h
   ·exact absurd h d_
   ·exact h
  have Xa:(xs.length:Int)+(b1.length:Int)<=1000000:=by
   have h1:=Jj.out;rcases Ja with⟨-,rfl,-,-⟩|⟨-,hq⟩
   ·(try simp only[List.nil_append]at h1);omega
   ·have:=hq.acc;simp only[PT.acc,PR.sz,List.nil_append]at this;omega
  have Jh:=ah Ja;have Jl:Hid (Dm (ai C.l) z1 (cO (ai C.l) [41] s1)):=by
   rcases Ja with⟨-,-,-,rfl⟩|⟨hq,hr⟩
   ·exact bG _ _
   ·exact(Dm.no (cL hq).1)
  have Xj:=ah (Jv.out w1 z v xs b1 z1 Ji.up Jd o_);clear Ja Ji Jy Jo Xd J_;refine(Xb.out w1 _ [41] d_ Jd.st).mono ?_;rintro e w9 ⟨rfl,hw⟩;rw[hw,hi];go_wp2_with fail;refine(Xj).mono (fun e w2 hg=>?_);rcases hg.symm with hd|⟨-,u2,rfl,hn⟩
  ·have HF:Hid (gf C m w B v (xs++(b++[⟨4,kk,x⟩])) (cO (ai C.l) [41] s1) e w2):=Jd.die hd (Jl);obtain⟨-,rfl,-⟩:=hd;unfold a8 at*;go_wp2_with fail;exact⟨rfl,HF⟩
  have Xk:=Jd.then hn;clear hn;go_wp2_with fail;have Jw:=ah Xk;go_loopg[1,7] k1 (fun gk u cn wr=>∃(o:List Nd) (q:Nat) (y:PS),gk<=k1/\1<=q/\q+gk<=k1+1/\cn=.int .i64 (q:Int)/\((aC (ai C.l) [44] y=false/\b=o/\kk=(q:Int)/\s1=y)∨(aC (ai C.l) [44] y=true/\Pa (ai C.l) gk (.al (q:Int) o) y.ad (.a b kk) s1))/\EB C m B w v wr u (xs++o) y)
  case atStart=>exact⟨b1,1,z1,n_,n_,o_,rfl,Jh,Jw⟩
  case round=>
   clear Jw Jh Jl;obtain⟨o,q,y,Xs,Xr,Xq,rfl,Ja,hE⟩:=hrel;obtain⟨Jx,Jm⟩:=h2 (Xh.out _ _ hE.st) hE;go_wp2_with fail;refine(Jx).mono (fun e w3 hg=>?_);rcases Ja with⟨hi,rfl,rfl,rfl⟩|⟨hi,hp⟩
   ·rcases hg with⟨-,rfl,hw⟩|⟨Jg,-⟩
    ·have Jb:=Jm.out;rw[<-hw]at Jb;clear Jm Jx hw;go_wp2_with fail;have Jn:=ah (Jz.out w3 _ [41] d_ Jb.st (by exact Xc));refine(Jn).mono (fun e w5 hg=>?_);rcases hg.symm with hd|⟨-,rfl,z2,t2⟩
     ·have HF:Hid (gf C m w B v (xs++(b++[⟨4,(q:Int),x⟩])) (cO (ai C.l) [41] s1) e w5):=Jb.die hd (Dm.refl _);obtain⟨-,rfl,-⟩:=hd;unfold a8 at*;go_wp2_with fail;exact⟨rfl,HF⟩
     have Jk:=Jb.go z2 t2;obtain⟨W6,Jf⟩:=q_ (w5.alloc (.cells #[.int .i64 (4),.int .i64 ((q:Int)),.string (x)] 48));obtain⟨B6,Je⟩:=q_ w5.heap.size;obtain⟨u6,w6,r6,f6⟩:=Jk.lit (4) ((q:Int)) (x) Jf Je (by have:=Jj.out;simp only[l_a]at*;omega);obtain⟨Js,Jt,Jr,Jp⟩:=h4 Jf Je r6 f6;clear Jf Je r6 f6 Jk;go_wp2_with(at_builtin;rw[<-Js.out,<-Jt.out];refine ao rfl _ _ _ rfl _ _ u6 w6 rfl rfl Jr.out ?_);go_ret;have hF:=Jp.out;rw[List.append_assoc]at hF;exact hF
    ·rw[hi]at Jg;cases Jg
   ·rcases hg with⟨Jg,-⟩|⟨-,hg⟩
    ·rw[hi]at Jg;cases Jg
    ·have Xe:=ah hp.dm;rcases hg.symm with hd|⟨-,rfl,z3,t3⟩
     ·have HF:Hid (gf C m w B v (xs++(b++[⟨4,kk,x⟩])) (cO (ai C.l) [41] s1) e w3):=Jm.out.die hd (Xe.out.trans (bG _ _));obtain⟨-,rfl,-⟩:=hd;unfold a8 at*;go_wp2_with fail;exact⟨rfl,HF⟩
     have Jb:=Jm.out.go z3 t3;rcases lG hp with⟨h0,-⟩|⟨-,h0,-⟩|⟨-,-,k2,b2,z2,rfl,Ji,Ja⟩
     ·exact absurd (dB Jb.st.al) h0
     ·exact absurd o_ h0
     have Xa:(xs++o).length+b2.length<=1000000:=by
      have h1:=Jj.out;rw[l_a];rcases Ja with⟨-,rfl,-,-⟩|⟨-,hq⟩
      ·rw[l_a]at h1;omega
      ·have:=hq.acc;simp only[PT.acc,PR.sz,l_a]at this;omega
     have Xl:k2<=k1+1:=o_;have Xi:=ah (Jv.out w3 _ _ (xs++o) b2 z2 (Pa.ups Xl Ji) Jb Xa);have Jl:Hid (Dm (ai C.l) z2 (cO (ai C.l) [41] s1)):=by
      rcases Ja with⟨-,-,-,rfl⟩|⟨hq,hr⟩
      ·exact bG _ _
      ·exact(Dm.no (cL hq).1)
     have Ju:Hid (∀W u,EB C m B w v W u (xs++o++b2) z2->∃(o':List Nd) (q':Nat) (y':PS),k2<=k1/\1<=q'/\q'+k2<=k1+1/\Value.int .i64 ((q:Int)+1)=.int .i64 (q':Int)/\((aC (ai C.l) [44] y'=false/\b=o'/\kk=(q':Int)/\s1=y')∨(aC (ai C.l) [44] y'=true/\Pa (ai C.l) k2 (.al (q':Int) o') y'.ad (.a b kk) s1))/\EB C m B w v W u (xs++o') y'):=fun W u h=>⟨o++b2,q+1,z2,o_,o_,o_,by push_cast;rfl,by push_cast;exact Ja,by rw[<-List.append_assoc];exact h⟩;have Xp:(q:Int)<=1000001:=o_
     go_wp2_with fail;refine(Xi).mono (fun e w4 hg=>?_);rcases hg.symm with hd|⟨-,u4,rfl,hn⟩
     ·have HF:Hid (gf C m w B v (xs++(b++[⟨4,kk,x⟩])) (cO (ai C.l) [41] s1) e w4):=Jb.die hd (Jl);obtain⟨-,rfl,-⟩:=hd;unfold a8 at*;go_wp2_with fail;exact⟨rfl,HF⟩
     have Xn:=Jb.then hn;clear hn;go_wp2_with fail;have Xg:=ah Xn;go_roundg k2
     case measure=>omega
     case rel=>exact Ju.out _ _ Xg
section
variable{C:RC}{n:Nat}
def FD(C:RC)(n:Nat):Prop:=∀(w:World) (m:TV) (B:Nat) (z:PS) (nm:ByteArray) (v:Value) (xs a:List Nd) (s':PS),
 ((aC (ai C.l) [91] z=true/\∃b,Pa (ai C.l) n (.pr [91] [93]) z (.n b) s'/\a=b++[⟨3,0,nm⟩])∨(aC (ai C.l) [91] z=false/\aC (ai C.l) [40] z=true/\Pa (ai C.l) n (.ar nm) z (.n a) s')∨(aC (ai C.l) [91] z=false/\aC (ai C.l) [40] z=false/\a=[⟨2,0,nm⟩]/\s'=z)) ->
 bj C m w z->aF B w v xs->C.P+1<B->B<=w.heap.size->xs.length+a.length<=1000000->Calls prog 203 #[.pointer (some ⟨C.P,0,none⟩),v,.string nm] w (gf C m w B v (xs++a) s')
theorem CV(HN:gW C)(hE:Dt C n)(hC:sH C n):FD C n:=by
 intro w m B z nm v xs a s' Js hS hr Jx Jr hl;have Ja:=EB.start hS hr Jx Jr;have Jc:=ah fun W z x (hx:dV x=true) (h:bj C m W z)=>du h x hx;have Jm:=ah fun W z y (hy:dV y=true) (h:bj C m W z) (ho:1<=z.op)=>eL HN h ho y hy;have Jy:=ah fun W z u ys b z1 (hp:Pa (ai C.l) n (.e 1) z (.n b) z1) (h:EB C m B w v W u ys z) (hl:ys.length+b.length<=1000000)=>hE W m B z u ys b z1 hp h.st h.row h.pb h.le hl;have Jz:=ah fun W z y (hy:dV y=true) (h:bj C m W z)=>eK HN h y hy;have Jo:=ah fun W (h:EB C m B w v W v xs z) (hp:Pa (ai C.l) n (.ar nm) z (.n a) s')=>hC W m B z nm v xs a s' hp h.st h.row h.pb h.le hl;rcases Js with⟨hi,b,hp,rfl⟩|⟨hi,hj,hp⟩|⟨hi,hj,rfl,rfl⟩
 ·have Je:=jC hp;simp only[l_a,List.length_singleton]at hl;go_enter func203,ntmps203;go_wp2_with fail;refine(Jc.out w _ [91] d_ Ja.st).mono ?_;rintro e w9 ⟨rfl,hw⟩;rw[hw,hi];go_wp2_with fail;have Jv:=ah (Jz.out w _ [91] d_ Ja.st);have Jq:Hid (Dm (ai C.l) (bA (ai C.l) [91] z) s'):=by
   rcases Je with⟨-,-,e⟩|⟨-,z1,h1,e⟩
   ·rw[e];exact bG _ _
   ·rw[e];exact h1.dm.trans (bG _ _)
  have Ju:Hid ((bA (ai C.l) [91] z).op=z.op+1):=on_op _ _;have J_:=Ja.st.op.1;refine(Jv).mono (fun e w2 hg=>?_);rcases hg.symm with hd|⟨-,rfl,z2,t2⟩
  ·have HF:Hid (gf C m w B v (xs++(b++[⟨3,0,nm⟩])) s' e w2):=Ja.die hd (Jq);obtain⟨-,rfl,-⟩:=hd;unfold a8 at*;go_wp2_with fail;exact⟨rfl,HF⟩
  have Jb:=Ja.go z2 t2;go_wp2_with fail;rcases Je with⟨h0,-,-⟩|⟨h0,z1,Jl,rfl⟩
  ·exact absurd (dB Jb.st.al) h0
  have Jp:Hid (z1.op=z.op+1):=Jl.op.trans Ju;have Jw:=ah (Jy.out w2 _ _ _ b z1 Jl Jb o_);refine(Jw).mono (fun e w3 hg=>?_);rcases hg.symm with hd|⟨-,u3,rfl,hn⟩
  ·have HF:Hid (gf C m w B v (xs++(b++[⟨3,0,nm⟩])) (cO (ai C.l) [93] z1) e w3):=Jb.die hd (bG _ _);obtain⟨-,rfl,-⟩:=hd;unfold a8 at*;go_wp2_with fail;exact⟨rfl,HF⟩
  have Jj:=Jb.then hn;go_wp2_with fail;have Jn:=ah (Jm.out w3 _ [93] d_ Jj.st (by rw[Jp.out];omega));refine(Jn).mono (fun e w4 hg=>?_);rcases hg.symm with hd|⟨-,rfl,z2,t2⟩
  ·have HF:Hid (gf C m w B v (xs++(b++[⟨3,0,nm⟩])) (cO (ai C.l) [93] z1) e w4):=Jj.die hd (Dm.refl _);obtain⟨-,rfl,-⟩:=hd;unfold a8 at*;go_wp2_with fail;exact⟨rfl,HF⟩
  have Jt:=Jj.go z2 t2;obtain⟨W6,Jf⟩:=q_ (w4.alloc (.cells #[.int .i64 (3),.int .i64 (0),.string (nm)] 48));obtain⟨B6,Jd⟩:=q_ w4.heap.size;obtain⟨u6,w6,r6,f6⟩:=Jt.lit (3) (0) (nm) Jf Jd (by simp only[l_a];omega);obtain⟨Jk,Jh,Ji,Jg⟩:=h4 Jf Jd r6 f6;go_wp2_with(at_builtin;rw[<-Jk.out,<-Jh.out];refine ao rfl _ _ _ rfl _ _ u6 w6 rfl rfl Ji.out ?_);go_ret;have hF:=Jg.out;rw[List.append_assoc]at hF;exact hF
 ·have HC:=ah (Jo.out w Ja hp);go_enter func203,ntmps203;go_wp2_with fail;refine(Jc.out w _ [91] d_ Ja.st).mono ?_;rintro e w9 ⟨rfl,hw⟩;rw[hw,hi];go_wp2_with fail;refine(Jc.out w _ [40] d_ Ja.st).mono ?_;rintro e w9 ⟨rfl,hw⟩;rw[hw,hj];go_wp2_with fail;refine(HC).mono (fun e w2 hg=>?_);rcases hg.symm with hd|⟨-,u2,rfl,hn⟩
  ·have HF:Hid (gf C m w B v (xs++a) s' e w2):=Ja.die hd (Dm.refl _);obtain⟨-,rfl,-⟩:=hd;unfold a8 at*;go_wp2_with fail;exact⟨rfl,HF⟩
  have Jb:=Ja.then hn;go_wp2_with fail;have HF:=ah Jb.fin;go_ret;exact HF
 ·go_enter func203,ntmps203;go_wp2_with fail;refine(Jc.out w _ [91] d_ Ja.st).mono ?_;rintro e w9 ⟨rfl,hw⟩;rw[hw,hi];go_wp2_with fail;refine(Jc.out w _ [40] d_ Ja.st).mono ?_;rintro e w9 ⟨rfl,hw⟩;rw[hw,hj];obtain⟨W6,Jf⟩:=q_ (w.alloc (.cells #[.int .i64 (2),.int .i64 (0),.string (nm)] 48));obtain⟨B6,Jd⟩:=q_ w.heap.size;obtain⟨u6,w6,r6,f6⟩:=Ja.lit (2) (0) (nm) Jf Jd (by simp only[List.length_singleton]at hl;omega);obtain⟨Jk,Jh,Ji,Jg⟩:=h4 Jf Jd r6 f6;go_wp2_with(at_builtin;rw[<-Jk.out,<-Jh.out];refine ao rfl _ _ _ rfl _ _ u6 w6 rfl rfl Ji.out ?_)
  go_ret;exact Jg
theorem jl{m:TV}{w:World}{s:PS}(h:bj C m w s){x:List UInt8}(hx:dV x=true)(hi:aC (ai C.l) x s=true):dF (ai C.l s.i)=3:=by
 obtain⟨tt,vl,hb,h1,-⟩:=h.bx;have hs:=rO (l:=C.l) (s:=s) (dB h.al) hx (tt:=tt) (fun h3=>h1 (.inr h3));rw[hi]at hs;simp only[Bool.and_eq_true,decide_eq_true_eq]at hs;exact hs.1
def FE(C:RC)(n:Nat):Prop:=∀(w:World) (m:TV) (B:Nat) (s:PS) (v:Value) (xs a:List Nd) (s':PS),
 ((aC (ai C.l) [40] s=true/\Pa (ai C.l) n (.pr [40] [41]) s (.n a) s') ∨
   (aC (ai C.l) [40] s=false/\aC (ai C.l) [105,110] s=true/\a=[⟨5,0,tx []⟩]/\s'=cO (ai C.l) [41] (bA (ai C.l) [40] s.ad)) ∨
   (aC (ai C.l) [40] s=false/\aC (ai C.l) [105,110] s=false/\s.er=0/\(ai C.l s.i).kind=2/\a=[⟨1,(ai C.l s.i).num,tx []⟩]/\s'=s.ad) ∨
   (aC (ai C.l) [40] s=false/\aC (ai C.l) [105,110] s=false/\¬(s.er=0/\(ai C.l s.i).kind=2)/\(
    (aC (ai C.l) [91] (aS (ai C.l) s).2=true/\∃b,Pa (ai C.l) n (.pr [91] [93]) (aS (ai C.l) s).2 (.n b) s'/\a=b++[⟨3,0,(aS (ai C.l) s).1⟩]) ∨
    (aC (ai C.l) [91] (aS (ai C.l) s).2=false/\aC (ai C.l) [40] (aS (ai C.l) s).2=true/\Pa (ai C.l) n (.ar (aS (ai C.l) s).1) (aS (ai C.l) s).2 (.n a) s') ∨
    (aC (ai C.l) [91] (aS (ai C.l) s).2=false/\aC (ai C.l) [40] (aS (ai C.l) s).2=false/\a=[⟨2,0,(aS (ai C.l) s).1⟩]/\s'=(aS (ai C.l) s).2)))) ->
 bj C m w s->aF B w v xs->C.P+1<B->B<=w.heap.size->xs.length+a.length<=1000000->Calls prog 202 #[.pointer (some ⟨C.P,0,none⟩),v] w (gf C m w B v (xs++a) s')
theorem CW(HN:gW C)(hE:Dt C n)(hU:FD C n):FE C n:=by
 intro w m B s v xs a s' Jf hS hr Jv Js hl;have Ja:=EB.start hS hr Jv Js;have Jz:=ah fun W z y (hy:dV y=true) (h:bj C m W z) (ho:1<=z.op)=>eL HN h ho y hy;have Jp:=ah fun W z u ys b z1 (hp:Pa (ai C.l) n (.e 1) z (.n b) z1) (h:EB C m B w v W u ys z) (hl:ys.length+b.length<=1000000)=>hE W m B z u ys b z1 hp h.st h.row h.pb h.le hl;have Jw:=ah fun W z y (hy:dV y=true) (h:bj C m W z)=>eK HN h y hy;have Jg:=ah (cY HN hS [105,110] d_);have p2:=hS.cki;rcases Jf with⟨hi,hp⟩|⟨hi,hj,rfl,rfl⟩|⟨hi,hj,h0,h2,rfl,rfl⟩|⟨hi,hj,hn,Jf⟩
 ·rw[jl hS d_ hi]at p2;have hj:aC (ai C.l) [105,110] s=false:=bE hi d_;have Jj:=jC hp;obtain⟨b,rfl⟩:=q_ a;go_enter func202,ntmps202;go_wp2_with fail;refine Jg.out.mono (fun e w1 hg=>?_);rcases hg with⟨-,rfl,hw⟩|⟨Jd,-⟩
  ·rw[hw];clear hw Jg;go_wp2_with fail;have Ji:=ah (Jw.out w _ [40] d_ Ja.st);have Xc:Hid (Dm (ai C.l) (bA (ai C.l) [40] s) s'):=by
    rcases Jj with⟨-,-,e⟩|⟨-,z1,h1,e⟩
    ·rw[e];exact bG _ _
    ·rw[e];exact h1.dm.trans (bG _ _)
   have Ju:Hid ((bA (ai C.l) [40] s).op=s.op+1):=on_op _ _;have Xk:=Ja.st.op.1;refine(Ji).mono (fun e w2 hg=>?_);rcases hg.symm with hd|⟨-,rfl,z2,t2⟩
   ·have HF:Hid (gf C m w B v (xs++b) s' e w2):=Ja.die hd (Xc);obtain⟨-,rfl,-⟩:=hd;unfold a8 at*;go_wp2_with fail;exact⟨rfl,HF⟩
   have Jb:=Ja.go z2 t2;go_wp2_with fail;rcases Jj with⟨h0,-,-⟩|⟨h0,z1,Jk,rfl⟩
   ·exact absurd (dB Jb.st.al) h0
   have Xh:Hid (z1.op=s.op+1):=Jk.op.trans Ju;have Xj:=ah (Jp.out w2 _ _ _ b z1 Jk Jb o_);clear Jk;refine(Xj).mono (fun e w3 hg=>?_);rcases hg.symm with hd|⟨-,u3,rfl,hn⟩
   ·have HF:Hid (gf C m w B v (xs++b) (cO (ai C.l) [41] z1) e w3):=Jb.die hd (bG _ _);obtain⟨-,rfl,-⟩:=hd;unfold a8 at*;go_wp2_with fail;exact⟨rfl,HF⟩
   have Jr:=Jb.then hn;go_wp2_with fail;have Jl:=ah (Jz.out w3 _ [41] d_ Jr.st (by rw[Xh.out];omega));refine(Jl).mono (fun e w4 hg=>?_);rcases hg.symm with hd|⟨-,rfl,z2,t2⟩
   ·have HF:Hid (gf C m w B v (xs++b) (cO (ai C.l) [41] z1) e w4):=Jr.die hd (Dm.refl _);obtain⟨-,rfl,-⟩:=hd;unfold a8 at*;go_wp2_with fail;exact⟨rfl,HF⟩
   have Jt:=Jr.go z2 t2;clear z2 t2;go_wp2_with fail;have HF:=ah Jt.fin;go_ret;exact HF
  ·rw[hj]at Jd;cases Jd
 ·rw[jl hS d_ hj]at p2;have Xl:=hS.op.1;have Ju:Hid ((bA (ai C.l) [40] s.ad).op=s.op+1):=(on_op _ _).trans rfl;go_enter func202,ntmps202;go_wp2_with fail;refine Jg.out.mono (fun e w1 hg=>?_);rcases hg with⟨Jd,-⟩|⟨-,hg⟩
  ·rw[hj]at Jd;cases Jd
  rcases hg.symm with hd|⟨-,rfl,z2,t2⟩
  ·have HF:Hid (gf C m w B v (xs++[⟨5,0,tx []⟩]) (cO (ai C.l) [41] (bA (ai C.l) [40] s.ad)) e w1):=Ja.die hd ((js _ _).trans (bG _ _));obtain⟨-,rfl,-⟩:=hd;unfold a8 at*;go_wp2_with fail;exact⟨rfl,HF⟩
  have Jc:=Ja.go z2 t2;clear z2 t2 Jg;have Ji:=ah (Jw.out w1 _ [40] d_ Jc.st);go_wp2_with fail;refine(Ji).mono (fun e w2 hg=>?_);rcases hg.symm with hd|⟨-,rfl,z2,t2⟩
  ·have HF:Hid (gf C m w B v (xs++[⟨5,0,tx []⟩]) (cO (ai C.l) [41] (bA (ai C.l) [40] s.ad)) e w2):=Jc.die hd (bG _ _);obtain⟨-,rfl,-⟩:=hd;unfold a8 at*;go_wp2_with fail;exact⟨rfl,HF⟩
  have Jb:=Jc.go z2 t2;go_wp2_with fail;have Jl:=ah (Jz.out w2 _ [41] d_ Jb.st (by rw[Ju.out];omega));refine(Jl).mono (fun e w4 hg=>?_);rcases hg.symm with hd|⟨-,rfl,z2,t2⟩
  ·have HF:Hid (gf C m w B v (xs++[⟨5,0,tx []⟩]) (cO (ai C.l) [41] (bA (ai C.l) [40] s.ad)) e w4):=Jb.die hd (Dm.refl _);obtain⟨-,rfl,-⟩:=hd;unfold a8 at*;go_wp2_with fail;exact⟨rfl,HF⟩
  have Jt:=Jb.go z2 t2;clear z2 t2;obtain⟨W6,Jh⟩:=q_ (w4.alloc (.cells #[.int .i64 (5),.int .i64 (0),.string (⟨#[]⟩)] 48));obtain⟨B6,Je⟩:=q_ w4.heap.size;obtain⟨u6,w6,r6,f6⟩:=Jt.lit (5) (0) (⟨#[]⟩) Jh Je (by simp only[List.length_singleton]at hl;omega);obtain⟨Jm,Jo,Jx,Jn⟩:=h4 Jh Je r6 f6;go_wp2_with(at_builtin;rw[<-Jm.out,<-Jo.out];refine ao rfl _ _ _ rfl _ _ u6 w6 rfl rfl Jx.out ?_);go_ret;exact Jn
 ·have Xg:dF (ai C.l s.i)=2:=(qm (dE C.l s.i).1).2 h2;rw[Xg]at p2;have Xa:=ah (pw HN hS);rw[vB h0 h2]at Xa;generalize (ai C.l s.i).num=nv at*;clear hS hr Jv Js hE HN hU Jp Jg;go_enter func202,ntmps202;go_wp2_with fail;refine(Xa).mono (fun e w1 hg=>?_);rcases hg.symm with hd|⟨-,rfl,z2,t2⟩
  ·have HF:Hid (gf C m w B v (xs++[⟨1,nv,tx []⟩]) s.ad e w1):=Ja.die hd (Dm.refl _);obtain⟨-,rfl,-⟩:=hd;unfold a8 at*;go_wp2_with fail;exact⟨rfl,HF⟩
  have Jc:=Ja.go z2 t2;obtain⟨W6,Jh⟩:=q_ (w1.alloc (.cells #[.int .i64 (1),.int .i64 (nv),.string (⟨#[]⟩)] 48));obtain⟨B6,Je⟩:=q_ w1.heap.size;obtain⟨u6,w6,r6,f6⟩:=Jc.lit (1) (nv) (⟨#[]⟩) Jh Je (by simp only[List.length_singleton]at hl;omega);obtain⟨Jm,Jo,Jx,Jn⟩:=h4 Jh Je r6 f6;clear Jh Je r6 f6 Jc;go_wp2_with(at_builtin;rw[<-Jm.out,<-Jo.out];refine ao rfl _ _ _ rfl _ _ u6 w6 rfl rfl Jx.out ?_);go_ret;exact Jn
 ·have J_:dF (ai C.l s.i)≠2:=fun e=>hn ⟨dB hS.al,(qm (dE C.l s.i).1).1 e⟩;have e2:(dF (ai C.l s.i) == 2)=false:=by simpa using J_
  by_cases h1:dF (ai C.l s.i)=1
  ·rw[h1]at p2;have Xf:=ah (gC HN hS);have Xb:=ah fun W (h:EB C m B w v W v xs (aS (ai C.l) s).2)=>hU W m B _ _ v xs a s' Jf h.st h.row h.pb h.le hl;have Jq:Hid (Dm (ai C.l) (aS (ai C.l) s).2 s'):=by
    rcases Jf with⟨-,b,hp,-⟩|⟨-,-,hp⟩|⟨-,-,-,rfl⟩
    ·exact hp.dm
    ·exact hp.dm
    ·exact Dm.refl _
   generalize aS (ai C.l) s=nz at*;obtain⟨nm,z⟩:=nz;dsimp only at*;go_enter func202,ntmps202;go_wp2_with fail;refine(Xf).mono (fun e w1 hg=>?_);rcases hg.symm with hd|⟨-,rfl,z2,t2⟩
   ·have HF:Hid (gf C m w B v (xs++a) s' e w1):=Ja.die hd (Jq);obtain⟨-,rfl,-⟩:=hd;unfold a8 at*;go_wp2_with fail;exact⟨rfl,HF⟩
   have Jc:=Ja.go z2 t2;clear z2 t2;go_wp2_with fail;have Xe:=ah (Xb.out w1 Jc);refine(Xe).mono (fun e w2 hg=>?_);rcases hg.symm with hd|⟨-,u2,rfl,hn⟩
   ·have HF:Hid (gf C m w B v (xs++a) s' e w2):=Jc.die hd (Dm.refl _);obtain⟨-,rfl,-⟩:=hd;unfold a8 at*;go_wp2_with fail;exact⟨rfl,HF⟩
   have Jb:=Jc.then hn;go_wp2_with fail;have HF:=ah Jb.fin;go_ret;exact HF
  ·have e1:(dF (ai C.l s.i) == 1)=false:=by simpa using h1
   have Jy:=vw (l:=C.l) (s:=s) (dB hS.al);rw[decide_eq_false h1]at Jy;obtain⟨d1,d2⟩:=vA hS.al Jy;obtain⟨d3,d4⟩:=AH hS.al hi;have Jq:Hid (Dm (ai C.l) (bA (ai C.l) [40] s) s'):=fun _=>by
    have hx:Dm (ai C.l) (aS (ai C.l) s).2 s':=by
     rcases Jf with⟨-,b,hp,-⟩|⟨-,-,hp⟩|⟨-,-,-,rfl⟩
     ·exact hp.dm
     ·exact hp.dm
     ·exact Dm.refl _
    obtain⟨q1,q2⟩:=hx d1;exact⟨q1,by rw[q2,d2,d4]⟩
   obtain⟨Ji,Xi⟩:=h2 (Jw.out w _ [40] d_ hS) d3;generalize dF (ai C.l s.i)=ki at*;clear Jf hS hr Jv Js hE HN hU Jp hn J_ h1 Jy d1 d2 d3 d4;go_enter func202,ntmps202;go_wp2_with fail;refine Jg.out.mono (fun e w1 hg=>?_);rcases hg with⟨-,rfl,hw⟩|⟨Jd,-⟩
   ·rw[hw];go_wp2_with fail;refine Ji.out.mono (fun e w2 hg=>?_);rcases hg.symm with hd|⟨Xd,-⟩
    ·have HF:Hid (gf C m w B v (xs++a) s' e w2):=Ja.die hd (Jq);obtain⟨-,rfl,-⟩:=hd;unfold a8 at*;go_wp2_with fail;exact⟨rfl,HF⟩
    ·exact absurd Xi.out Xd
   ·rw[hj]at Jd;cases Jd
end
section
variable{s:PS}{k n:Nat}{C:RC}
theorem CX(k:Nat)(hk:k<3)(W:World):(Instr.slice 9 (.string ⟨#[45,33,126]⟩) (some (.int .i64 (k:Int))) (some (.int .i64 ((k:Int)+1))) none).run prog W=.ok (.string (tx (dN.getD k []))) W:=by
 rcases(show k=0∨k=1∨k=2 by omega)with rfl|rfl|rfl <;> (show _=_;kernel_rfl)
theorem D5(k:Nat)(hk:k<3):IntKind.i64.wrap ((k:Int)+1)=(k:Int)+1/\wrap64 ((k:Int)+1)=(k:Int)+1/\(k:Int)<3:=by
 refine⟨?_,?_,o_⟩
 ·rw[IntKind.wrap_i64];omega
 ·unfold wrap64;omega
theorem CY(k:Nat)(hk:k<3):dV (dN.getD k [])=true:=by
 rcases(show k=0∨k=1∨k=2 by omega)with rfl|rfl|rfl <;> decide
theorem Ae{T:Nat->To}(hno:∀j,j<k->aC T (dN.getD j []) s=false)(hi:aC T (dN.getD k []) s=false):∀j,j<k+1->aC T (dN.getD j []) s=false:=fun j hj=>by
 by_cases e:j=k
 ·subst e;exact hi
 ·exact hno j o_
theorem xZ{T:Nat->To}{a:List Nd}{s':PS}(hk:k<3)(h:Pa T (n+1) .o s (.n a) s')(hi:aC T (dN.getD k []) s=true):
  ((bA T (dN.getD k []) s).er=0/\∃b s1,Pa T n .o (bA T (dN.getD k []) s) (.n b) s1/\a=b++[⟨6,(k:Int),tx []⟩]/\s'={s1 with op:=s1.op-1}) ∨
   ((bA T (dN.getD k []) s).er≠0/\s'={bA T (dN.getD k []) s with op:=(bA T (dN.getD k []) s).op-1}):=by
 rcases iY h with⟨j,hj,h1,h2⟩|⟨h1,-⟩
 ·by_cases e:j=k
  ·subst e;rcases h2 with h2|⟨h3,-,h4⟩
   ·exact .inl h2
   ·exact .inr ⟨h3,h4⟩
  ·have:=bE h1 (AZ hj hk e)
   rw[hi]at this;cases this
 ·have:=h1 k hk
  rw[hi]at this;cases this
theorem EB.drewN{m:TV}{B:Nat}{w0 w:World}{v0 v:Value}{xs:List Nd}(h:EB C m B w0 v0 w v xs s)(n:Nat):EB C m B w0 v0 (w.drewN n) v xs s:=h.below ⟨rfl,rfl,rfl,n_,fun _ _=>rfl⟩
theorem x_(h:k<=3)(h':¬k<3):k=3:=by omega
theorem x6(HN:gW C)(hO:Et C n)(Xr:FE C n):Et C (n+1):=by
 intro w m B s v xs a s' hP hS hr Xq Xo hl;have Xc:=EB.start hS hr Xq Xo;have Jg:=ah hP;have Jy:Hid (∀W x,EB C m B w v W v xs s->dV x=true->∀q,Calls prog 94 #[.pointer (some ⟨C.P,0,none⟩),.string (tx x)] (W.drewN q) fun e w'=>e=.returned (.bool (aC (ai C.l) x s))/\w'=W.drewN q):=fun W x h hx q=>du (h.drewN q).st x hx;have Jq:=ah fun W x (h:EB C m B w v W v xs s) (hi:aC (ai C.l) x s=true)=>lw HN h.st hi;have Jh:=ah fun W z b z1 (hp:Pa (ai C.l) n .o z (.n b) z1) (h:EB C m B w v W v xs z) (hl:xs.length+b.length<=1000000)=>hO W m B z v xs b z1 hp h.st h.row h.pb h.le hl;have Jt:Hid (∀W,EB C m B w v W v xs s->(∀k,k<3->aC (ai C.l) (dN.getD k []) s=false)->Calls prog 202 #[.pointer (some ⟨C.P,0,none⟩),v] W (gf C m W B v (xs++a) s')):=fun W h Ji=>by
  rcases iY hP with⟨j,hj,h1,-⟩|⟨-,Xa⟩
  ·have:=Ji j hj
   rw[h1]at this;cases this
  ·exact Xr W m B s v xs a s' Xa h.st h.row h.pb h.le hl
 obtain⟨Xh,Js⟩:=h2 hl Xc;have Xw:=hS.op;go_enter func200,ntmps200;go_wp2;go_loopw[1,6] (fun ev i wr=>∃k:Nat,k<=3/\i=.int .i64 k/\v=ev/\(∀j,j<k->aC (ai C.l) (dN.getD j []) s=false)/\EB C m B w v wr v xs s) (fun _ i _=>3-(RowKit.intOf i).toNat)
 case atStart=>exact⟨0,y_,rfl,rfl,fun j hj=>absurd hj (Nat.not_lt_zero _),Js⟩
 case round=>
  clear Js;obtain⟨k,hk,rfl,rfl,Ji,hE⟩:=hrel;obtain⟨Ju,HE⟩:=h2 Ji hE;by_cases hlt:k<3
  ·obtain⟨Xu,Xv,Xt⟩:=D5 k hlt;have Xp:=CX k hlt;obtain⟨Jd,Jp,Jv⟩:=h3 (Jy.out _ _ HE.out (CY k hlt)) (fun h=>Ae (k:=k) Ju.out h) (fun h=>xZ hlt Jg.out h);have Jr:Hid (aC (ai C.l) (dN.getD k []) s=true->Dm (ai C.l) (bA (ai C.l) (dN.getD k []) s) s'):=fun h=>by
    rcases xZ hlt Jg.out h with⟨-,b,s1,h1,-,rfl⟩|⟨-,rfl⟩
    ·exact h1.dm.trans (mj _ _)
    ·exact mj _ _
   have Jo:=ah (fun W h hi=>Jq.out W (dN.getD k []) h hi);have Xi:Hid ((bA (ai C.l) (dN.getD k []) s).op=s.op+1):=on_op _ _;generalize dN.getD k []=ux at*;cases hi:aC (ai C.l) ux s with
   | false=>
    have Xf:=ah (Jp.out hi);have Jf:Hid (∀q,Calls prog 94 #[.pointer (some ⟨C.P,0,none⟩),.string (tx ux)] (wr.drewN q) fun e w'=>e=.returned (.bool false)/\w'=wr.drewN q):=by rw[hi]at Jd;exact Jd
    clear Jy Jd Jp Jv Jr Jo hi Jg Jt Jh Jq;go_upto_region 4 with fail;go_quiet ((go_at_call 94;exact Calls.quiet_of_same (Jf.out _)));go_wp2;go_roundw
    case rel=>exact⟨k+1,hlt,by go_num,rfl,Xf,HE.out.drewN _⟩
    case measure=>simp[RowKit.intOf];omega
   | true=>
    have Jf:Hid (∀q,Calls prog 94 #[.pointer (some ⟨C.P,0,none⟩),.string (tx ux)] (wr.drewN q) fun e w'=>e=.returned (.bool true)/\w'=wr.drewN q):=by rw[hi]at Jd;exact Jd
    obtain⟨Jm,Je,Jw⟩:=h3 (Jr.out hi) (Jv.out hi) (fun W h=>Jo.out W h hi);generalize bA (ai C.l) ux s=z at*;go_upto_region 4 with fail;go_quiet ((go_at_call 94;exact Calls.quiet_of_same (Jf.out _)));have Ja:=HE.out.drewN nq;have Xl:=ah (Jw.out _ Ja);clear Jw Jf HE;generalize wr.drewN nq=w1 at*;go_wp2_with fail;refine(Xl).mono (fun e w2 hg=>?_);rcases hg.symm with hd|⟨-,rfl,z2,t2⟩
    ·have HF:Hid (gf C m w B v (xs++a) s' e w2):=Ja.die hd (Jm);obtain⟨-,rfl,-⟩:=hd;unfold a8 at*;go_wp2_with fail;exact⟨rfl,HF⟩
    have Jb:=Ja.go z2 t2;go_wp2_with fail;rcases Je.out with⟨-,b,s1,Jk,rfl,rfl⟩|⟨h0,-⟩
    ·have J_:=Xh.out;simp only[l_a,List.length_singleton]at J_;have Jx:=ah (Jh.out w2 z b s1 Jk Jb o_);have Xe:Hid (s1.op=s.op+1):=Jk.op.trans Xi;clear Jk Je Jh;refine(Jx).mono (fun e w3 hg=>?_);rcases hg.symm with hd|⟨-,u3,rfl,hn⟩
     ·have HF:Hid (gf C m w B v (xs++(b++[⟨6,(k:Int),tx []⟩])) {s1 with op:=s1.op-1} e w3):=Jb.die hd (mj _ _);obtain⟨-,rfl,-⟩:=hd;unfold a8 at*;go_wp2_with fail;exact⟨rfl,HF⟩
     have Jc:=Jb.then hn;have c8:=Jc.st.cop.1;have f8:=Jc.st.cop.2;have Xs:1<=s1.op/\s1.op<=30:=by have:=Jc.st.op.2;have:=Xe.out;omega
     obtain⟨z4,t4⟩:=Jc.st.reop (s1.op-1) o_;obtain⟨W4,Jj⟩:=q_ (w3.setCell ⟨C.P,8,none⟩ (.int .i64 (s1.op-1)));rw[<-Jj]at z4 t4;have Jz:=Jc.go z4 t4;have Xm:=ah Jj;have Xg:(xs++b).length<=2000000:=by rw[l_a];omega
     clear Jj z4 t4 Jc Jb Ja Jx;go_upto_region 8 with fail;rw[<-Xm.out];obtain⟨W6,Jn⟩:=q_ (W4.alloc (.cells #[.int .i64 (6),.int .i64 ((k:Int)),.string (⟨#[]⟩)] 48));obtain⟨B6,Jl⟩:=q_ W4.heap.size;obtain⟨u6,w6,r6,f6⟩:=Jz.lit (6) ((k:Int)) (⟨#[]⟩) Jn Jl (Xg);obtain⟨Xk,Xn,Xj,Xd⟩:=h4 Jn Jl r6 f6;clear Jn Jl r6 f6 Jz;go_wp2_with(at_builtin;rw[<-Xk.out,<-Xn.out];refine ao rfl _ _ _ rfl _ _ u6 w6 rfl rfl Xj.out ?_);go_ret;have hF:=Xd.out;rw[List.append_assoc]at hF;exact hF
    ·exact absurd (dB Jb.st.al) h0
  ·obtain rfl:=x_ hk hlt;have Xb:=ah (Jt.out _ HE.out Ju);have Ja:=HE.out;go_wp2_with fail;refine(Xb).mono (fun e w2 hg=>?_);rcases hg.symm with hd|⟨-,u2,rfl,hn⟩
   ·have HF:Hid (gf C m w B v (xs++a) s' e w2):=Ja.die hd (Dm.refl _);obtain⟨-,rfl,-⟩:=hd;unfold a8 at*;go_wp2_with fail;exact⟨rfl,HF⟩
   have Jb:=Ja.then hn;clear hn;go_wp2_with fail;have HF:=ah Jb.fin;go_ret;exact HF
theorem yb{C:RC}(HN:gW C):∀n:Nat,n<=1000000->Es C n/\Et C n/\sH C n
 | 0,_=>⟨fun _ _ _ _ _ _ _ _ _ h=>(by cases h using Pa_i),fun _ _ _ _ _ _ _ _ h=>(by cases h using Pa_i),fun _ _ _ _ _ _ _ _ _ h=>(by cases h using Pa_i)⟩
 | n+1,hn=>by
  obtain⟨h1,h2,h3⟩:=yb HN n o_;have hE:=xX h1;exact⟨xY HN h2 h1,x6 HN h2 (CW HN hE (CV HN hE h3)),rh HN o_ hE⟩
end
section
variable{B:Nat}{w w':World}{v:Value}{ns:List Nd}{K:List Nat}{S:Nat->Prop}{R:List SV}{a:List St}
theorem jG(h:aF B w v ns):∃K,dQ B w v ns K/\(∀g,g∈K->v.ownBlock=some g)/\K.Nodup:=by
 have h0:w.ownsRow B 48 3 v ns.length (dC ns):=h;rcases h0.2 with⟨rfl,hz⟩|⟨g,Jb,Jd,rfl,h3,h4,h5,h6,h7⟩
 ·have:ns=[]:=List.eq_nil_of_length_eq_zero hz
  subst this;exact⟨[],.inl ⟨rfl,rfl,none,0,rfl,o_⟩,(fun g hg=>by cases hg),List.nodup_nil⟩
 ·refine⟨[g],.inr ⟨g,Jb,rfl,rfl,h5,by unfold maxLen at h6;exact h6,h3,(Array.getElem?_eq_some_iff.1 h4).1,?_,fun j hj=>World.ownsRow.frozenAt h0 j⟩,fun x hx=>?_,List.nodup_cons.2 ⟨List.not_mem_nil,List.nodup_nil⟩⟩
  ·obtain⟨a,c,e,-,-,hc⟩:=aF.nodes h;intro j hj;obtain⟨b,Jc,e2,Ja⟩:=hc o_;cases e
   cases e2
   exact Ja j hj
  ·simp only[List.mem_singleton]at hx;rw[hx];rfl
theorem dQ.cellO(h:dQ B w v ns K):v.oneCell'=true:=by
 rcases h with⟨-,-,a,c,rfl,-⟩|⟨g,Ja,rfl,-⟩ <;> rfl
theorem dQ.tcs(h:dQ B w v ns K)(ht:am S w w')(hn:∀g∈K,¬S g):dQ B w' v ns K:=h.keep ht.size fun g hg=>ht.block g (h.rng g hg).2 (hn g hg)
theorem cD.tcs(h:cD B w v R)(ht:am S w w')(hv:∀g,v.ownBlock=some g->¬S g)(hn:∀g∈eH R,¬S g):cD B w' v R:=
 ⟨cV h.row ht hv,fun q hq=>⟨(h.each q hq).1.tcs ht fun g hg=>hn g ((fw hq).1 g hg),(h.each q hq).2.tcs ht fun g hg=>hn g ((fw hq).2 g hg)⟩,h.nd,h.out⟩
structure SB (C:RC) (m:TV) (B:Nat) (w0:World) (v0:Value) (w:World) (v:Value) (R:List SV) (s:PS):Prop where
 st:bj C m w s
 row:cD B w v R
 t:am (fun k=>k=C.P∨v0.ownBlock=some k) w0 w
 own:∀k,v.ownBlock=some k->v0.ownBlock=some k∨w0.heap.size<=k
 pb:C.P+1<B
 b0:B<=w0.heap.size
 r0:∀k,v0.ownBlock=some k->B<=k
theorem SB.start{C:RC}{m:TV}{s:PS}(h:bj C m w s)(hr:cD B w v R)(hp:C.P+1<B)(hb:B<=w.heap.size):SB C m B w v w v R s:=
 ⟨h,hr,am.refl _ _,fun k hk=>.inl hk,hp,hb,fun k hk=>(World.ownsRow.lt hr.row k hk).1⟩
def gg(C:RC)(m:TV)(w:World)(B:Nat)(v:Value)(R:List SV)(a:List St)(s':PS)(e:Ending)(w':World):Prop:=
 (¬iV (ai C.l) s'/\∃u R2,e=.returned u/\R2.map SV.s=a/\SB C m B w v w' u (R++R2) s')∨lv C w s' e w'
section
variable{C:RC}{m:TV}{B:Nat}{w0 w w':World}{v0 v:Value}{R:List SV}{s z:PS}
theorem SB.go(h:SB C m B w0 v0 w v R s)(hz:bj C m w' z)(ht:am (fun k=>k=C.P) w w'):SB C m B w0 v0 w' v R z:=
 ⟨hz,h.row.tcs ht (fun g hg e=>by have:=(World.ownsRow.lt h.row.row g hg).1;have:=h.pb;omega) (fun g hg e=>by have:=(h.row.rng g hg).1;have:=h.pb;omega),h.t.trans (ht.mono fun k hk=>.inl hk),h.own,h.pb,h.b0,h.r0⟩
theorem SB.below(h:SB C m B w0 v0 w v R s)(hb:Below w.heap.size w w'):SB C m B w0 v0 w' v R s:=
 ⟨h.st.below hb,h.row.below hb,h.t.of_below hb,h.own,h.pb,h.b0,h.r0⟩
theorem SB.then{u:Value}{R':List SV}(h:SB C m B w0 v0 w v R s)(h':SB C m B w v w' u R' z):SB C m B w0 v0 w' u R' z:=
 ⟨h'.st,h'.row,h.t.next h'.t (fun k hk=>by
  rcases hk with hk|hk
  ·exact .inl (.inl hk)
  ·rcases h.own k hk with h1|h1
   ·exact .inl (.inr h1)
   ·exact .inr h1),fun k hk=>by
  rcases h'.own k hk with h1|h1
  ·exact h.own k h1
  ·exact .inr (t_ h.t.size h1),h.pb,h.b0,h.r0⟩
theorem SB.bb(h:SB C m B w0 v0 w v R s):Kp C w0 w:=jU h.t (fun k hk=>by
 have:=h.st.ok.hi
 have:=h.pb
 rcases hk with hk|hk
 ·omega
 ·have:=h.r0 k hk;omega) (by have:=h.st.ok.hi;have:=h.pb;have:=h.b0;omega)
theorem SB.le(h:SB C m B w0 v0 w v R s):B<=w.heap.size:=t_ h.b0 h.t.size
theorem SB.die{e:Ending}{w2:World}{z':PS}(h:SB C m B w0 v0 w v R s)(hd:lv C w z e w2)(hm:Dm (ai C.l) z z'){Q:List SV}:gg C m w0 B v0 Q a z' e w2:=.inr (hd.later hm h.bb)
theorem SB.fin{R2:List SV}(h:SB C m B w0 v0 w v (R++R2) s)(ha:R2.map SV.s=a):gg C m w0 B v0 R a s (.returned v) w:=.inl ⟨h.st.al,v,R2,rfl,ha,h⟩
theorem SB.app{w1 W:World}{b:Nat}(h:SB C m B w0 v0 w v R s)(q:SV)(he:dQ w1.heap.size w q.ve q.s.e q.ke)(hf:dQ w1.heap.size w q.vf q.s.f q.kf)(hn:(q.ke++q.kf).Nodup)(hR:∀g∈eH R,g<w1.heap.size)(hv:∀g,v.ownBlock=some g->g<w1.heap.size)(Jf:B<=w1.heap.size)
  (hW:W=w.alloc (.cells #[.int .i64 q.s.kind,.string q.s.name,q.ve,q.vf,.int .i64 q.s.thn,.int .i64 q.s.els] 46)) (hb:b=w.heap.size) (hl:R.length<=2000000):
  ∃u w',(Builtin.append_ #[41,41] 41 #[v,.slice (some ⟨b,0,none⟩) 1 1]).run prog W=.ok u w'/\SB C m B w0 v0 w' u (R++[q]) s:=by
 obtain⟨i0,hi,Jh,Jl,Ji⟩:=info_parts gz;have Ja:Bl w W:=by rw[hW];exact r_.alloc n_ _
 have hx:aR W b (aY q):=by rw[hW,hb];exact aJ w #[.int .i64 q.s.kind,.string q.s.name,q.ve,q.vf,.int .i64 q.s.thn,.int .i64 q.s.els] _ (by show 6<=1000;omega)
 have Jb:=h.row.below Ja;have Jm:=h.le;obtain⟨u,w',r1,r2,r3,r4⟩:=bS (P:=prog) (w:=W) B 41 41 46 i0 _ 6 88 underlying41 hi Jh Jl Ji rfl d_ v R.length (bz R) Jb.row (some ⟨b,0,none⟩) 1 1 (aY q) (fun h=>by cases h) rfl (fun ad had j x hj=>by
  cases had
  rw[mB,Nat.zero_add];exact(hx j x hj).1) (fun x hx=>by
  simp only[aY,List.mem_cons,List.not_mem_nil,or_false]at hx;rcases hx with rfl|rfl|rfl|rfl|rfl|rfl
  ·rfl
  ·rfl
  ·exact he.cellO
  ·exact hf.cellO
  ·rfl
  ·rfl) o_ d_ (t_ Jm Ja.size)
 have t:am (fun k=>v.ownBlock=some k) W w':=am.of_grown r3 (fun k h=>h);have Je:∀k,v.ownBlock=some k->B<=k:=fun k hk=>(World.ownsRow.lt h.row.row k hk).1;have Jc:=he.keep Ja.size fun g hg=>Ja.block g (he.rng g hg).2;have Jd:=hf.keep Ja.size fun g hg=>Ja.block g (hf.rng g hg).2;have Jk:=Jc.tcs t (fun g hg e=>by have:=(Jc.rng g hg).1;have:=hv g e;omega);have Jg:=Jd.tcs t (fun g hg e=>by have:=(Jd.rng g hg).1;have:=hv g e;omega);have Jj:=h.st.below Ja;refine⟨u,w',r1,⟨Jj.tcs t (fun e=>by have:=Je _ e;have:=h.pb;omega) (fun k hk=>by have:=Je k hk;have:=h.pb;have:=h.st.ok.hi;omega),⟨?_,fun x hx=>?_,?_,fun g hg hm=>?_⟩,(h.t.of_below Ja).next t (fun k hk=>by
  rcases h.own k hk with h1|h1
  ·exact .inl (.inr h1)
  ·exact .inr h1),fun k hk=>by
  rcases r4 k hk with h1|h1
  ·exact h.own k h1
  ·exact .inr (t_ (t_ h.t.size Ja.size) h1),h.pb,h.b0,h.r0⟩⟩
 ·rw[l_a,fv];simpa[bz]using r2
 ·rcases List.mem_append.1 hx with hx|hx
  ·have hb:=fw hx;exact⟨(Jb.each x hx).1.tcs t fun g hg e=>h.row.out g e (hb.1 g hg),(Jb.each x hx).2.tcs t fun g hg e=>h.row.out g e (hb.2 g hg)⟩
  ·simp only[List.mem_singleton]at hx;subst hx;exact⟨Jk.base Jf,Jg.base Jf⟩
 ·rw[j5,List.nodup_append];refine⟨h.row.nd,by simpa[eH]using hn,fun x hx y hy e=>?_⟩;subst e;have h1:=hR x hx;simp only[eH,List.flatMap_cons,List.flatMap_nil,List.append_nil,List.mem_append]at hy;rcases hy with hy|hy
  ·have:=(he.rng _ hy).1;omega
  ·have:=(hf.rng _ hy).1;omega
 ·rw[j5]at hm;rcases List.mem_append.1 hm with hm|hm
  ·rcases r4 g hg with h1|h1
   ·exact h.row.out g h1 hm
   ·have:=(Jb.rng g hm).2;omega
  ·have hq:w1.heap.size<=g/\g<W.heap.size:=by
    simp only[eH,List.flatMap_cons,List.flatMap_nil,List.append_nil,List.mem_append]at hm;rcases hm with hm|hm
    ·exact Jc.rng _ hm
    ·exact Jd.rng _ hm
   rcases r4 g hg with h1|h1
   ·have:=hv g h1;omega
   ·omega
theorem SB.put(h:SB C m B w0 v0 w v R s)(j i:Nat)(q:SV)(x:Int)(hj:j<R.length)(hi:i<6)(hq:aY q=(aY R[j]).set i (.int .i64 x))(hk:q.ke=R[j].ke/\q.kf=R[j].kf/\q.ve=R[j].ve/\q.vf=R[j].vf/\q.s.e=R[j].s.e/\q.s.f=R[j].s.f):
  ∃g c,v=.slice (some ⟨g,0,none⟩) R.length c/\w.cell? ⟨g,j*6+i,none⟩=(aY R[j])[i]? /\ w.frozen? ⟨g,j*6+i,none⟩=false/\SB C m B w0 v0 (w.setCell ⟨g,j*6+i,none⟩ (.int .i64 x)) v (R.set j q) s:=by
 have h0:=h.row.row;rcases h.row.row.2 with⟨-,hz⟩|⟨g,Jg,Jh,rfl,h3,h4,h5⟩
 ·omega
 ·have Ja:=World.ownsRow.cellAt h0 (j*6+i) o_;rw[dH R j i hj hi]at Ja;have Jd:=World.ownsRow.stored h0 (j*6+i) (.int .i64 x);have ht:am (fun k=>k=g) w (w.setCell ⟨g,j*6+i,none⟩ (.int .i64 x)):=(am.refl (fun k=>k=g) w).setCell (p:=⟨g,j*6+i,none⟩) rfl _;have Je:(bz R).set (j*6+i) (.int .i64 x)=bz (R.set j q):=by
   apply List.ext_getElem?;intro k;have Jf:(bz (R.set j q)).length=(bz R).length:=by rw[flatS_len,flatS_len,List.length_set]
   by_cases hkl:k<(bz R).length
   ·have hR:(bz R).length=R.length*6:=flatS_len R;obtain⟨a,b,hb,rfl⟩:∃a b,b<6/\k=a*6+b:=⟨k / 6,k%6,Nat.mod_lt _ d_,o_⟩;have ha:a<R.length:=o_
    rw[dH (R.set j q) a b (by rw[List.length_set];exact ha) hb];by_cases e:a=j
    ·subst e;rw[List.getElem_set_self,hq];by_cases e2:b=i
     ·subst e2;rw[List.getElem?_set_self o_,List.getElem?_set_self (by show b<6;omega)]
     ·rw[List.getElem?_set_ne o_,List.getElem?_set_ne o_,dH R a b ha hb]
    ·rw[List.getElem_set_ne o_,List.getElem?_set_ne o_,dH R a b ha hb]
   ·rw[List.getElem?_eq_none (by rw[List.length_set];omega),List.getElem?_eq_none o_]
  have Jc:eH (R.set j q)=eH R:=by
   unfold eH;have e:(R.set j q).map (fun q=>q.ke++q.kf)=R.map (fun q=>q.ke++q.kf):=by
    rw[List.map_set];apply List.ext_getElem?;intro k;by_cases e:j=k
    ·subst e;rw[List.getElem?_set_self (by rw[List.length_map];exact hj),List.getElem?_map,List.getElem?_eq_getElem hj];simp[hk.1,hk.2.1]
    ·rw[List.getElem?_set_ne e]
   rw[List.flatMap_def,List.flatMap_def,e]
  refine⟨g,Jg,rfl,Ja,World.ownsRow.frozenAt h0 _,⟨h.st.tcs ht (fun e=>by have:=h.pb;omega) (fun k hk=>by rw[hk];have:=h.pb;have:=h.st.ok.hi;omega),⟨?_,fun x hx=>?_,by rw[Jc];exact h.row.nd,fun k hk=>by rw[Jc];exact h.row.out k hk⟩,h.t.next ht (fun k hk=>by
   rw[hk];rcases h.own g rfl with h1|h1
   ·exact .inl (.inr h1)
   ·exact .inr h1),h.own,h.pb,h.b0,h.r0⟩⟩
  ·rw[List.length_set,<-Je];exact Jd.1
  ·have Jb:∀y∈R,(∀k∈y.ke,¬k=g)/\∀k∈y.kf,¬k=g:=fun y hy=>⟨fun k hk e=>h.row.out g rfl (by rw[<-e];exact(fw hy).1 k hk),fun k hk e=>h.row.out g rfl (by rw[<-e];exact(fw hy).2 k hk)⟩;rcases List.mem_or_eq_of_mem_set hx with hx|rfl
   ·exact⟨(h.row.each x hx).1.tcs ht (Jb x hx).1,(h.row.each x hx).2.tcs ht (Jb x hx).2⟩
   ·have hm:R[j]∈R:=g_ hj;rw[hk.1,hk.2.1,hk.2.2.1,hk.2.2.2.1,hk.2.2.2.2.1,hk.2.2.2.2.2];exact⟨(h.row.each _ hm).1.tcs ht (Jb _ hm).1,(h.row.each _ hm).2.tcs ht (Jb _ hm).2⟩
end
end
end Go.Proofs.YtlamjfhhefcohaaGreatDoor
