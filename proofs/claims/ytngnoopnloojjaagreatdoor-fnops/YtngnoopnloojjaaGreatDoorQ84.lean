import Derived.Test.YtngnoopnloojjaaGreatDoorQ79
import Derived.Test.YtngnoopnloojjaaGreatDoorQ82
import Derived.Test.YtngnoopnloojjaaGreatDoorQ28
variable [Inhabited Go.Proofs.YtngnoopnloojjaaGreatDoor.Pick]
set_option linter.all false
set_option maxRecDepth 100000
set_option maxHeartbeats 0
namespace Go.Proofs.YtngnoopnloojjaaGreatDoor
open Go.Proofs.Tryz Go.RowKit
theorem zS{w:World}{v:Value}{I:List Gl}(h:dz w v I):∃a cap,v=.slice a I.length cap/\(a=none->I.length=0)/\∀ad,a=some ad->∀j u,(eU I)[j]? =some u->w.cell? (ad.add j)=some u:=by
 obtain⟨a,cap,rfl,-,-,h⟩:=h;refine⟨a,cap,rfl,λe=>?_,λad had j u hu=>?_⟩;rcases Nat.eq_zero_or_pos I.length with h0|h0;exact h0;obtain⟨b,Jb,J,-⟩:=h h0;rw[e]at J;cases J;have X:=(List.getElem?_eq_some_iff.1 hu).1;rw[sL]at X;have⟨b,Jb,J,Z⟩:=h o_;rw[had]at J;cases J
 have Ja:∀(l:List Gl) (m i:Nat) (H:m<l.length),i<2->(eU l)[m*2+i]? =(jD l[m])[i]? := by
  intro l;induction l with
  | nil=>intro m i H;simp at H
  | cons x r ih=>
   intro m i H O;cases m with
   | zero=>show(jD x++eU r)[0*2+i]? =_;have:(jD x).length=2:=rfl;rw[List.getElem?_append_left o_];simp
   | succ m=>show(jD x++eU r)[(m+1)*2+i]? =_;have h7:(jD x).length=2:=rfl;rw[List.getElem?_append_right o_];have e:(m+1)*2+i-(jD x).length=m*2+i:=o_;rw[e,ih m i (by simpa using H) O];simp
 obtain⟨m,i,rfl,O,H⟩:∃m i,j=m*2+i/\i<2/\m<I.length:=⟨j / 2,j%2,o_,o_,o_⟩;rw[Ja I m i H O]at hu;have⟨Y,U⟩:=Z m H;rw[gB,<-Nat.add_assoc];match i,O with
 | 0,_=>exact Y.trans hu
 | 1,_=>exact U.trans hu
theorem rD(t:Tr)(vg vf:Value)(w:World)(I:eG w)(hs:eK t)(Y:xL t)(hg:dz w vg t.gl)(Z:cF w vf t.fc)(hz:(aL t).1≠0):
  Calls prog 27 #[.agg #[vg,vf]] w λe w'=>∃vg' vf' Q,e=rW (.agg #[vg',vf'])/\aS w.heap.size w' vg' vf' ⟨[],[]⟩ Q/\Below w.heap.size w w':=by
 have Jh:Hid (∀W,Bl w W->Calls prog 52 #[.agg #[vg,vf]] W λe w'=>e=rW (.bool false)/\Bl W w'):=λW hW=>by
  have:=nD t vg vf W (I.below I.size hW) hs Y (hg.below hW) (Z.below hW)
  rw[decide_eq_false hz]at this;exact this
 obtain⟨X,J,rfl,-⟩:=hg;obtain⟨U,O,rfl,-⟩:=Z;clear I hs Y hz;go_in;go_wp2_with fail;have⟨M,H⟩:=q_ w.heap.size;have⟨W0,Ja⟩:=q_ (((w.alloc (.cells #[.slice X t.gl.length J,.slice U t.fc.length O] 63)).alloc (.cells #[nV,nV] 63)));have Jj:W0.heap.size=M+2:=by rw[Ja,H];simp
 have Jb:Bl w W0:=by rw[Ja];exact(aq _ _).alloc i_ _
 have Je:Hid (dN W0 (M+1) [nV,nV]):=by
  have:=oN (w.alloc (.cells #[.slice X t.gl.length J,.slice U t.fc.length O] 63)) nV nV 63
  rw[World.size_alloc,<-H,<-Ja]at this;exact this
 rw[<-Ja,<-H];have Jg:=ah H;clear Ja H;refine(Jh.out W0 Jb).mono ?_;rintro e w1 ⟨rfl,Jc⟩;have⟨y0,y1,z0,z1⟩:=(Je.out.below Jc).two;have Jd:Bl w ((w1.setCell ⟨M+1,0,none⟩ nV).setCell ⟨M+1,1,none⟩ nV):=by
  have:=Jg.out
  exact((Jb.trans (Jc.mono Jb.size)).setCell (p:=⟨M+1,0,none⟩) (by show _<=M+1;omega) _).setCell (p:=⟨M+1,1,none⟩) (by show _<=M+1;omega) _
 have Ji:=ah Jd;have Jf:=(((Je.out.below Jc).set 0 nV).set 1 nV).two;obtain⟨t0,t1,-,-⟩:=Jf;clear Jc Jb Jd;go_wp2_with fail;refine bodyPost_ret (v:=.agg #[nV,nV]) (by simp[results,results27,go_sem,t0,t1]) rfl ⟨_,_,[],rfl,aS.nil _ _,Ji⟩
theorem zT{t:Tr}(h:co t=true):t.gl.length<=50/\t.fc.length<=50/\(∀g∈t.gl,g.nm.size<=20)/\∀f∈t.fc,funcB f=true:=by unfold co at h;simp only[Bool.and_eq_true,decide_eq_true_eq,List.all_eq_true]at h;obtain⟨H,h2,h3,h4⟩:=h;refine⟨H,h2,λg hg=>?_,h4⟩;have:=h3 g hg;unfold fN at this;rw[Bool.and_eq_true]at this;exact fm this.1
theorem A_(w:World)(H I J:Value)(t:TypeId):dN (w.alloc (.cells #[H,I,J] t)) w.heap.size [H,I,J]:=by
 intro j x h;have X:(w.alloc (.cells #[H,I,J] t)).heap[w.heap.size]? =some (.cells #[H,I,J] t (0,0)):=(MapKept.heap_alloc w _).1;have O:∀j,(w.alloc (.cells #[H,I,J] t)).frozen? ⟨w.heap.size,j,none⟩=false:=λj=>by unfold World.frozen?;simp only[X];simp
 have U:=(List.getElem?_eq_some_iff.1 h).1;simp only[l_c,l_n]at U;match j,U with
 | 0,_=>exact⟨by simp at h⊢;exact h,O _⟩
 | 1,_=>exact⟨by simp at h⊢;exact h,O _⟩
 | 2,_=>exact⟨by simp at h⊢;exact h,O _⟩
theorem dN.three{w:World}{g:Nat}{x0 x1 x2:Value}(h:dN w g [x0,x1,x2]):w.cell? ⟨g,0,none⟩=some x0/\w.cell? ⟨g,1,none⟩=some x1/\w.cell? ⟨g,2,none⟩=some x2:=
 ⟨(h 0 x0 rfl).1,(h 1 x1 rfl).1,(h 2 x2 rfl).1⟩
theorem qE(t:Tr)(I:List Fu)(m:Nat)(vg vf:Value)(w:World)(hT:eG w)(hs:eK t)(hw:xL t)(hg:dz w vg t.gl)(hf:cF w vf t.fc)(hz:(aL t).1=0)(hS:AZ t.fc I)(hm:bU t.fc mainS=some m):
  Calls prog 27 #[.agg #[vg,vf]] w λe w'=>∃vg' vf' Q,e=rW (.agg #[vg',vf'])/\aS w.heap.size w' vg' vf' ⟨t.gl,bW (iJ t.gl I m) I I.length⟩ Q/\Below w.heap.size w w':=by
 have Xw:Hid (∀W,Bl w W->Calls prog 52 #[.agg #[vg,vf]] W λe w'=>e=rW (.bool true)/\Bl W w'):=λW hW=>by
  have:=nD t vg vf W (hT.below hT.size hW) hs hw (hg.below hW) (hf.below hW)
  rw[decide_eq_true hz]at this;exact this
 have⟨p1,p2,p3,p4⟩:=zT (yi hz);have Vd:=hS.1;have Xv:=hT.size;obtain⟨ag,cg,rfl,Xx,Xy⟩:=zS hg;have Yu:Hid (∀W,Bl w W->Calls prog 53 #[.slice ag t.gl.length cg] W λe w'=>∃a n c,e=rW (.slice a n c)/\w'.ownsRow W.heap.size 140 2 (.slice a n c) t.gl.length (eU t.gl)/\Bl W w'):=λW hW=>by
  refine(C8 ag t.gl.length cg (eU t.gl) W Xx (sL _) (λad had j u hu=>by have c:=Xy ad had j u hu;have Jz:=b_ c;exact(hW.cell Jz).trans c) (λu hu=>by simp only[eU,List.mem_flatMap]at hu;obtain⟨x,-,hu⟩:=hu;simp only[jD,List.mem_cons,List.not_mem_nil,or_false]at hu;rcases hu with rfl|rfl <;> rfl) o_).mono ?_
  rintro e w' ⟨u,rfl,J,h2⟩;obtain⟨a,n,c,rfl⟩:∃a n c,u=.slice a n c:=by rcases J.2 with⟨rfl,-⟩|⟨g,Zv,Zf,rfl,-⟩ <;> exact⟨_,_,_,rfl⟩
  exact⟨a,n,c,rfl,J,h2⟩
 obtain⟨af,cf,rfl,-,-,Jr⟩:=id hf;have Yx:=ah Jr;have Yg:Hid (∀(k:Nat) (h:k<t.fc.length) (h':k<I.length) (vp vb:Value) (W:World),Bl w W->Strs W vp t.fc[k].pm->be W vb t.fc[k].bd->Calls prog 54 #[.agg #[sV t.fc[k].nm,vp,vb]] W λe w'=>∃pa U Y X bn O R,e=rW (.agg #[sV I[k].nm,.slice pa U Y,.slice X bn O])/\qD W.heap.size w' (.slice pa U Y) (.slice X bn O) I[k] R/\Bl W w'):=λk h h' vp vb W hW J h2=>by
  refine(lJ t.fc[k] I[k] vp vb W (hT.below Xv hW) J h2 (p4 _ (g_ h)) (hS.2 k h h')).mono ?_;rintro e w' ⟨Zt,Zz,R,rfl,h3,h4⟩;obtain⟨a,n,c,rfl⟩:∃a n c,Zt=.slice a n c:=by rcases h3.ps.2 with⟨rfl,-⟩|⟨g,Zv,Zf,rfl,-⟩ <;> exact⟨_,_,_,rfl⟩
  obtain⟨a',c',rfl⟩:=h3.bd.shape;exact⟨a,n,c,a',_,c',R,rfl,h3,h4⟩
 have Zc:Hid (∀q:FV,q.f∈I->KX q.f):=λq hq=>by have⟨j,hj,he⟩:=List.mem_iff_getElem.1 hq;rw[<-he];exact(hS.2 j o_ hj).ok (p4 _ (g_ o_))
 have Zx:Hid (bU I mainS=some m):=by show _=_;rw[hS.names];exact hm
 clear hT hs hw hz Xv Xx Xy hg hf Jr hS hm p3 p4;go_in;go_wp2_with fail;have⟨M,hM⟩:=q_ w.heap.size;have⟨W0,Jo⟩:=q_ (((w.alloc (.cells #[.slice ag t.gl.length cg,.slice af t.fc.length cf] 63)).alloc (.cells #[nV,nV] 63)));have Yc:W0.heap.size=M+2:=by rw[Jo,hM];simp
 have Xa:Bl w W0:=by rw[Jo];exact(aq _ _).alloc i_ _
 have Yj:Hid (dN W0 (M+1) [nV,nV]):=by
  have:=oN (w.alloc (.cells #[.slice ag t.gl.length cg,.slice af t.fc.length cf] 63)) nV nV 63
  rw[World.size_alloc,<-hM,<-Jo]at this;exact this
 have Xz:Hid (dN W0 M [.slice ag t.gl.length cg,.slice af t.fc.length cf]):=by have J:=oN w (.slice ag t.gl.length cg) (.slice af t.fc.length cf) 63;rw[<-hM]at J;rw[Jo];exact J.below (aq _ _)
 rw[<-Jo,<-hM];have Zw:=ah hM;clear Jo hM;refine(Xw.out W0 Xa).mono ?_;rintro e w1 ⟨rfl,Jx⟩;have Je:Bl w w1:=Xa.trans (Jx.mono Xa.size);have Yf:Hid (dN w1 (M+1) [nV,nV]):=Yj.out.below Jx;have Xn:=ah (Xz.out.below Jx);obtain⟨y0,y1,-,-⟩:=Xn.out.two;have Ve:M+2<=w1.heap.size:=by rw[<-Yc];exact Jx.size
 clear Jx Yj Xz Xw Xa Yc;go_wp2_with fail;refine(Yu.out w1 Je).mono ?_;rintro e w2 ⟨Z,un,uc,rfl,hu,Js⟩;have HU:=ah hu;have Jb:Bl w w2:=Je.trans (Js.mono Je.size);have Yr:Hid (dN w2 (M+1) [nV,nV]):=Yf.out.below Js;have Zs:=ah (Xn.out.below Js);have Z_:w1.heap.size<=w2.heap.size:=Js.size;clear y0 y1;obtain⟨y0,y1,-,-⟩:=Zs.out.two;have Zy:Hid (dN (w2.alloc (.cells #[.slice Z un uc,nV] 63)) w2.heap.size [.slice Z un uc,nV]):=oN _ _ _ _;have Va:M≠w2.heap.size:=o_;have Yb:(w2.alloc (.cells #[.slice Z un uc,nV] 63)).cell? ⟨M,1,none⟩=some (.slice af t.fc.length cf):=((Below.refl w2.heap.size w2).alloc n_ _ |>.cell (p:=⟨M,1,none⟩) (by show M<_;omega)).trans y1;clear hu Js Yf Xn Yu Je;go_wp2;go_loopw[17] (λi wr=>∃(k:Nat) (Q:List FV) (fa:Option Addr) (fc:Nat),k<=t.fc.length/\i=V k/\Q.map (λq:FV=>q.f)=I.take k/\bV (w2.heap.size+1) wr (.slice fa k fc) Q/\dN wr w2.heap.size [.slice Z un uc,.slice fa k fc]/\Bl w2 wr/\w2.heap.size<wr.heap.size) (λi _=>t.fc.length-(RowKit.intOf i).toNat)
 case atStart=>exact⟨0,[],none,0,y_,rfl,i_,bV.nil _ _,Zy,r_.alloc n_ _,i_⟩
 case round=>
  obtain⟨k,Q,fa,fc,hk,rfl,Yn,Jd,Yo,Xf,Zj⟩:=hrel;have Ja:=ah Jd;have Jw:=ah Yn;have Xg:=ah Yo;have Ju:Bl w wr:=Jb.trans (Xf.mono Jb.size);have J_:=ah Xf;clear Jd Yn Yo;by_cases Jz:k<t.fc.length
  ·obtain⟨b,Vc,rfl,Jr⟩:=Yx.out o_;have⟨vp,vb,⟨c0,c1,c2⟩,Yd,Yq⟩:=(Jr.below Ju) k Jz;have Ym:k<I.length:=o_
   have HC:=ah λW (hW:Bl wr W)=>Yg.out k Jz Ym vp vb W (Ju.trans (hW.mono Ju.size)) (Yd.below hW) (Yq.below hW);obtain⟨Jj,Jg,rfl,-⟩:=Yd;obtain⟨Ji,Jk,rfl,-⟩:=Yq;obtain⟨lp,Yy⟩:∃l,t.fc[k].pm.length=l:=⟨_,rfl⟩;obtain⟨lb,Yz⟩:∃l,t.fc[k].bd.length=l:=⟨_,rfl⟩;obtain⟨nm,X_⟩:∃l,t.fc[k].nm=l:=⟨_,rfl⟩;obtain⟨Jf,Jl⟩:∃l,I[k].nm=l:=⟨_,rfl⟩;rw[Yy]at c1 HC;rw[Yz]at c2 HC;rw[X_]at c0 HC;rw[Jl]at HC;have Zo:=ah Jl;have i1:(0:Int)<=(k:Int):=o_
   have i2:(k:Int)<(t.fc.length:Int):=o_;have⟨M5,Xb⟩:=q_ wr.heap.size;have⟨W5,Jv⟩:=q_ (wr.alloc (.cells #[sV nm,.slice Jj lp Jg,.slice Ji lb Jk] 143));have⟨H,Jc⟩:=q_ w2.heap.size;have Jq:Bl wr W5:=(by rw[Jv];exact r_.alloc n_ _);have Zi:W5.heap.size=M5+1:=(by rw[Jv,Xb];simp);have Xm:Hid (dN W5 M5 [sV nm,.slice Jj lp Jg,.slice Ji lb Jk]):=(by rw[Jv,Xb];exact A_ _ _ _ _ _);have Xp:Hid (dN W5 H [.slice Z un uc,.slice fa k fc]):=(by rw[Jc];exact Xg.out.below Jq);have hd:Bl W5 W5.drew:=r_.drew;have Xt:Hid (Calls prog 54 #[.agg #[sV nm,.slice Jj lp Jg,.slice Ji lb Jk]] W5.drew λe w'=>∃pa U Y X bn O R,e=rW (.agg #[sV Jf,.slice pa U Y,.slice X bn O])/\qD W5.heap.size w' (.slice pa U Y) (.slice X bn O) I[k] R/\Bl W5 w'):=by refine(HC.out W5.drew (Jq.trans (hd.mono Jq.size))).mono ?_;rintro e w' ⟨pa,U,Y,X,bn,O,R,J,h2,h3⟩;exact⟨pa,U,Y,X,bn,O,R,J,h2,hd.trans h3⟩
   have Xu:Hid (∀(wt:World) (pa:Option Addr) (U Y:Nat) (X:Option Addr) (bn O:Nat) (R:List SV),qD W5.heap.size wt (.slice pa U Y) (.slice X bn O) I[k] R->Bl W5 wt->(dN wt M5 [sV nm,.slice Jj lp Jg,.slice Ji lb Jk]/\dN wt H [.slice Z un uc,.slice fa k fc]/\(wt.alloc (.cells #[sV Jf,.slice pa U Y,.slice X bn O] 143)).cell? ⟨H,1,none⟩=some (.slice fa k fc))/\∃va vc w7 q,(Builtin.append_ #[61,61] 61 #[.slice fa k fc,rV wt.heap.size 1 1]).run prog (wt.alloc (.cells #[sV Jf,.slice pa U Y,.slice X bn O] 143))=.ok (.slice va (k+1) vc) w7/\bV (H+1) w7 (.slice va (k+1) vc) (Q++[q])/\q.f=I[k]/\dN w7 H [.slice Z un uc,.slice fa k fc]/\dN w7 M5 [sV nm,.slice Jj lp Jg,.slice Ji lb Jk]/\Below H w2 w7/\H<w7.heap.size):=λwt pa U Y X bn O R Xe Jh=>by
    have Vb:=Jh.size;have Yi:=Xm.out.below Jh;have Xl:=Xp.out.below Jh;have⟨kp,kb,Yt⟩:=Xe.fv;have Xj:Q.length=k:=by
     have:=congrArg List.length Jw.out
     simp only[List.length_map,List.length_take]at this;omega
    have hA:Bl wt (wt.alloc (.cells #[sV Jf,.slice pa U Y,.slice X bn O] 143)):=aq _ _;have Xk:Bl wr wt:=Jq.trans (Jh.mono Jq.size);have Jd:bV (H+1) (wt.alloc (.cells #[sV Jf,.slice pa U Y,.slice X bn O] 143)) (.slice fa k fc) Q:=(by rw[Jc];exact(Ja.out.below Xk).below hA);have⟨v',w7,r1,r2,r3,r4⟩:=yW (c:=1) (ad:=⟨wt.heap.size,0,none⟩) 61 Jd ((Yt.below hA).base (show H+1<=_ by omega)) (λj x hx=>by
     have e:dS ⟨I[k],.slice pa U Y,.slice X bn O,R,kp,kb⟩=[sV Jf,.slice pa U Y,.slice X bn O]:=(by simp[dS,Zo.out]);rw[e]at hx;have:=(A_ wt (sV Jf) (.slice pa U Y) (.slice X bn O) 143 j x hx).1;simpa[gB]using this) (λg hg=>by
      have J:=(Yt.rng g hg).1;refine⟨λh=>?_,λh=>?_⟩
      ·have:=(Ja.out.rng g h).2;omega
      have:=(World.ownsRow.lt Ja.out.row g h).2;omega) ⟨rfl,rfl⟩ (by simp;omega) o_
    obtain⟨va,vc,rfl⟩:=r2.shape;have hl:(Q++[(⟨I[k],.slice pa U Y,.slice X bn O,R,kp,kb⟩:FV)]).length=k+1:=(by simp[Xj]);rw[hl]at r1 r2;have Jm:∀g,(Value.slice fa k fc).ownBlock=some g->H+1<=g/\g<M5:=λg hg=>by
     have:=World.ownsRow.lt Ja.out.row g hg
     omega
    refine⟨⟨Yi,Xl,(Xl.below hA).two.2.1⟩,va,vc,w7,_,r1,r2,rfl,?_,?_,?_,?_⟩
    ·exact(Xl.below hA).keep (r3.block H (by simp;omega) (λe=>by have:=(Jm H e.symm).1;omega))
    ·exact(Yi.below hA).keep (r3.block M5 (by simp;omega) (λe=>by have:=(Jm M5 e.symm).2;omega))
    ·have J:Below H w2 (wt.alloc (.cells #[sV Jf,.slice pa U Y,.slice X bn O] 143)):=by rw[Jc];exact J_.out.trans ((Xk.trans (hA.mono Xk.size)).mono o_)
     exact J.grown r3 (by simp;omega) (λg hg=>by have:=(Jm g hg).1;omega)
    have:=r3.size
    simp at this;omega
   have⟨d0,d1,d2⟩:=(Xm.out.below hd).three;obtain⟨-,e1,-,-⟩:=(Xp.out.below hd).two;have HK:Hid (∀(W:World) (x:Nat) (y:Value),(W.cell? ⟨M5,0,none⟩=some (sV nm)/\W.cell? ⟨M5,1,none⟩=some (.slice Jj lp Jg)/\W.cell? ⟨M5,2,none⟩=some (.slice Ji lb Jk))->(W.setCell ⟨H,x,none⟩ y).cell? ⟨M5,0,none⟩=some (sV nm)/\(W.setCell ⟨H,x,none⟩ y).cell? ⟨M5,1,none⟩=some (.slice Jj lp Jg)/\(W.setCell ⟨H,x,none⟩ y).cell? ⟨M5,2,none⟩=some (.slice Ji lb Jk)):=λW x y h=>by have Xi:M5≠H:=o_;exact⟨(c_ (a:=⟨M5,0,none⟩) (Below.heap_setCell W ⟨H,x,none⟩ y _ Xi)).trans h.1,(c_ (a:=⟨M5,1,none⟩) (Below.heap_setCell W ⟨H,x,none⟩ y _ Xi)).trans h.2.1,(c_ (a:=⟨M5,2,none⟩) (Below.heap_setCell W ⟨H,x,none⟩ y _ Xi)).trans h.2.2⟩
   have Zh:Hid (I.take (k+1)=I.take k++[I[k]]):=List.take_succ_eq_append_getElem Ym;have Xs:=ah Jc;have Zb:=ah Xb;have Zr:=ah Jv;clear Yy Yz X_ Jl Jr Ju Yr Yg Yx y0 y1 Yb Jc Xb Jv Jq hd Zi Xf Zj HC;go_upto_region 7 with fail;rw[<-Zr.out,<-Zb.out,<-Xs.out];go_region_law
    (first
    | (go_simp;(with_reducible refine Calls.mono Xt.out ?_);intro x wt hx;obtain⟨pa,U,Y,X,bn,O,R,Zg,Xe,Jh⟩:=hx;subst Zg;have⟨⟨f5,f3,Zk⟩,va,vc,w7,q',r1,Ya,Yp,Xo,Zp,Yw,Yl⟩:=Xu.out wt pa U Y X bn O R Xe Jh;have et:=f3.two.2.1;obtain⟨-,g1,-,g3⟩:=Xo.two;clear f5 f3 Xe Jh)
    | (refine gj rfl _ _ _ rfl _ _ _ _ rfl rfl r1 ?_))
   all_goals (
    have Jt:Hid (∃(k':Nat) (Q':List FV) (Xh:Option Addr) (Xd:Nat),k'=k+1/\(Value.slice va (k+1) vc)=.slice Xh k' Xd/\Q'.map (λq:FV=>q.f)=I.take k'/\bV (H+1) (w7.setCell ⟨H,1,none⟩ (.slice va (k+1) vc)) (.slice Xh k' Xd) Q'/\dN (w7.setCell ⟨H,1,none⟩ (.slice va (k+1) vc)) H [.slice Z un uc,.slice Xh k' Xd]/\Below H w2 (w7.setCell ⟨H,1,none⟩ (.slice va (k+1) vc))/\H<(w7.setCell ⟨H,1,none⟩ (.slice va (k+1) vc)).heap.size):=by refine⟨k+1,Q++[q'],va,vc,rfl,rfl,?_,?_,Xo.set 1 _,Yw.setCell (p:=⟨H,1,none⟩) n_ _,by simpa using Yl⟩;rw[List.map_append,Jw.out,Zh.out,List.map_cons,List.map_nil,Yp];exact Ya.keepB i_ (λg J h2=>Below.heap_setCell _ _ _ g (by show g≠H;omega))
    clear Ya Yp Xo Zp Yw Yl et Zk r1 Xu Xt Xm Xp Ja Jw Xg J_;go_wp2_with fail;rw[Xs.out]at Jt⊢;go_roundw
    case rel=>obtain⟨k',Q',Xh,Xd,rfl,hv,J,h2,h3,h4,h5⟩:=Jt.out;simp only[Value.slice.injEq]at hv;obtain⟨rfl,-,rfl⟩:=hv;exact⟨k+1,Q',va,vc,o_,by go_num,J,h2,h3,h4,h5⟩
    case measure=>simp[RowKit.intOf];omega)
  obtain rfl:k=t.fc.length:=(by omega);obtain⟨x0,x1,-,-⟩:=Xg.out.two;have⟨H,Jc⟩:=q_ w2.heap.size;have Jn:Q.map (λq:FV=>q.f)=I:=(by rw[Jw.out,List.take_of_length_le o_]);have Xj:Q.length=t.fc.length:=by
   have:=congrArg List.length Jn
   simp only[List.length_map]at this;omega
  have Zq:Hid (Calls prog 55 #[.agg #[.slice Z un uc,.slice fa t.fc.length fc]] wr λe w'=>∃a n c,e=rW (.slice a n c)/\bV (H+1) w' (.slice a n c) (bW (iJ t.gl I m) Q Q.length)/\Bl wr w'):=by have h:=oE t.gl Q m (H+1) (.slice Z un uc) (.slice fa t.fc.length fc) wr (by rw[Jn];exact Zx) o_ (λq hq=>Zc.out q (by rw[<-Jn];exact List.mem_map.2 ⟨q,hq,rfl⟩)) ⟨_,_,_,rfl⟩ (by rw[Jc];exact Ja) o_;rw[Jn]at h;refine h.mono ?_;rintro e w' ⟨v,rfl,J,h2⟩;obtain⟨a,c,rfl⟩:=J.shape;exact⟨a,_,c,rfl,J,h2⟩
  have Ye:Hid (Q.map (λq:FV=>q.f)=I/\Q.length=I.length):=⟨Jn,o_⟩;have Xs:=ah Jc;have Zn:Hid (dN wr (M+1) [nV,nV]):=Yr.out.below (by exact Xf);clear Jn Xj y0 y1 Yb Ja Jw Ju;go_wp2_with fail;refine Zq.out.mono ?_;rintro e w8 ⟨na,nn,nc,rfl,Xc,Jy⟩;have Yh:Hid (dN w8 H [.slice Z un uc,.slice fa t.fc.length fc]):=(by rw[Jc];exact Xg.out.below Jy);have Zm:Hid (dN w8 (M+1) [nV,nV]):=Zn.out.below Jy;have Xq:Bl w2 w8:=J_.out.trans (Jy.mono J_.out.size);have⟨W9,Jp⟩:=q_ (((w8.setCell ⟨H,1,none⟩ (.slice na nn nc)).setCell ⟨M+1,0,none⟩ (.slice Z un uc)).setCell ⟨M+1,1,none⟩ (.slice na nn nc));have Xr:∀g,g≠H->g≠M+1->W9.heap[g]? =w8.heap[g]? := λg J h2=>by rw[Jp,Below.heap_setCell _ _ _ g (by simpa using h2),Below.heap_setCell _ _ _ g (by simpa using h2),Below.heap_setCell _ _ _ g (by simpa using J)]
  have Ys:w8.heap.size<=W9.heap.size:=(by rw[Jp];simp);have Ze:=Zw.out;have Zd:Hid (aS w.heap.size W9 (.slice Z un uc) (.slice na nn nc) ⟨t.gl,bW (iJ t.gl I m) I I.length⟩ (bW (iJ t.gl I m) Q Q.length)):=by
   have Yv:∀g,(Value.slice Z un uc).ownBlock=some g->w1.heap.size<=g/\g<w2.heap.size:=λg hg=>World.ownsRow.lt HU.out g hg;refine⟨?_,?_,?_,λg hg=>?_⟩
   refine mh (gC HU.out λg hg=>?_) o_;have⟨J,h2⟩:=Yv g hg;rw[Xr g o_ o_];exact Xq.block g h2;exact(Xc.keepB Ys (λg J h2=>Xr g o_ o_)).base o_;rw[Dc,Ye.out.1,Ye.out.2]
   have⟨J,h2⟩:=Yv g hg;exact⟨λh=>by have:=(Xc.rng g h).1;omega,λh=>by have:=(World.ownsRow.lt Xc.row g h).1;omega⟩
  have Zl:Hid (Bl w W9):=by have J:Bl w w8:=Jb.trans (Xq.mono Jb.size);have h2:=Jb.size;rw[Jp];exact((J.setCell (p:=⟨H,1,none⟩) (by show _<=H;omega) _).setCell (p:=⟨M+1,0,none⟩) (by show _<=M+1;omega) _).setCell (p:=⟨M+1,1,none⟩) (by show _<=M+1;omega) _
  have Za:Hid (dN (w8.setCell ⟨H,1,none⟩ (.slice na nn nc)) H [.slice Z un uc,.slice na nn nc]):=Yh.out.set 1 _;have Yk:Hid (dN (w8.setCell ⟨H,1,none⟩ (.slice na nn nc)) (M+1) [nV,nV]):=Zm.out.keep (Below.heap_setCell _ _ _ _ (by show M+1≠H;omega));have Zu:Hid (dN W9 (M+1) [.slice Z un uc,.slice na nn nc]):=(by rw[Jp];exact(Yk.out.set 0 _).set 1 _);obtain⟨-,q1,-,q3⟩:=Yh.out.two;obtain⟨r0,r1,-,-⟩:=Za.out.two;have⟨s0,s1,s2,s3⟩:=Yk.out.two;obtain⟨t0,t1,-,-⟩:=Zu.out.two;have Y_:=ah Jp;clear Xc Jy Xq Xr Ys Ze Jp x0 x1;rw[<-Jc]at*;go_wp2_with fail;rw[<-Y_.out];refine bodyPost_ret (v:=.agg #[.slice Z un uc,.slice na nn nc]) (by simp[results,results27,go_sem,t0,t1]) rfl ⟨_,_,_,rfl,Zd,Zl⟩
section
variable{t r:Tr}{B:Nat}{w w':World}{vg vf:Value}{Q:List FV}
theorem GA(t r:Tr)(vg vf:Value)(w:World)(H:Gx t r)(O:eG w)(U:eK t)(I:xL t)(X:dz w vg t.gl)(J:cF w vf t.fc):
  Calls prog 27 #[.agg #[vg,vf]] w λe w'=>∃ga gn gc fa fn fc Q,e=rW (.agg #[.slice ga gn gc,.slice fa fn fc])/\aS w.heap.size w' (.slice ga gn gc) (.slice fa fn fc) r Q/\Below w.heap.size w w':=by
 have Jc:Calls prog 27 #[.agg #[vg,vf]] w λe w'=>∃Ja Jb Q,e=rW (.agg #[Ja,Jb])/\aS w.heap.size w' Ja Jb r Q/\Bl w w':=by unfold Gx at H;by_cases hc:(aL t).1=0;rw[if_pos hc]at H;obtain⟨fs,m,h,h2,rfl⟩:=H;exact qE t fs m vg vf w O U I X J hc h h2;rw[if_neg hc]at H;subst H;exact rD t vg vf w O U I X J hc
 refine Jc.mono ?_;rintro e w' ⟨Ja,Jb,Q,rfl,h,h2⟩;obtain⟨a,n,c,rfl⟩:∃a n c,Ja=.slice a n c:=by rcases h.gs.2 with⟨rfl,-⟩|⟨g,Jd,Je,rfl,-⟩ <;> exact⟨_,_,_,rfl⟩
 obtain⟨Y,c',rfl⟩:=h.fs.shape;exact⟨a,n,c,Y,_,c',Q,rfl,h,h2⟩
theorem aS.read(h:aS B w vg vf r Q):dz w vg r.gl/\cF w vf r.fc:=by obtain⟨K,H,-⟩:=ir.of_own h.gs;refine⟨H.globs,?_⟩;rw[<-h.map];exact h.fs.fc
theorem aS.keepB{B:Nat}{w w':World}{vg vf:Value}{r:Tr}{Q:List FV}(h:aS B w vg vf r Q)(hs:w.heap.size ≤ w'.heap.size)(hk:∀ g, B ≤ g -> g<w.heap.size -> w'.heap[g]? =w.heap[g]?):aS B w' vg vf r Q:=
  ⟨gC h.gs λg hg=>hk g (World.ownsRow.lt h.gs g hg).1 (World.ownsRow.lt h.gs g hg).2, h.fs.keepB hs hk, h.map, h.sep⟩
theorem aS.below{B:Nat}{w w':World}{vg vf:Value}{r:Tr}{Q:List FV}(h:aS B w vg vf r Q)(hb:Below w.heap.size w w'):aS B w' vg vf r Q:= h.keepB hb.size (λg _ hg=>hb.block g hg)
end
end Go.Proofs.YtngnoopnloojjaaGreatDoor
namespace Go.Proofs.YtngnoopnloojjaaGreatDoor
open Go.RowKit
section
variable{op:Int}{f g:Nat}
def nIn:Nd:=⟨5,0,⟨#[]⟩⟩
def nBi(op:Int):Nd:=⟨7,op,⟨#[]⟩⟩
def sRt(op:Int):St:=⟨6,⟨#[]⟩,[nIn,nIn,nBi op],[],0,0⟩
def tOp(op:Int):Tr:=⟨[],[⟨mainS,[],[sRt op]⟩]⟩
theorem mA(h:0<=op/\op<=15):op=0\/op=1\/op=2\/op=3\/op=4\/op=5\/op=6\/op=7\/op=8\/op=9\/op=10\/op=11\/op=12\/op=13\/op=14\/op=15:=by omega
theorem toL(l:List UInt8):(⟨l.toArray⟩:ByteArray).toList=l:=by rw[ByteArray.toList_eq]
theorem name_main:cU mainS=true:=by unfold cU;rw[@decide_eq_true_iff];refine⟨d_,d_,d_,d_,?_⟩;have e:mainS.toList=[109,97,105,110]:=toL [109,97,105,110];unfold i7;rw[e];decide
theorem em_nil':(⟨#[]⟩:ByteArray).toList=[]:=toL []
theorem A3(h:0<=op/\op<=15):co (tOp op)=true:=by
 have U:aD nIn=true:=by simp[aD,nIn,em_nil']
 have J:aD (nBi op)=true:=by simp[aD,nBi,em_nil',h]
 have I:oneB [nIn,nIn,nBi op]=true:=by simp[oneB,wholeTo,U,J,show arity nIn=0 from rfl,show arity (nBi op)=2 from rfl]
 have H:cD [sRt op]=true:=rfl;have O:bB (sRt op)=true:=by simp[bB,sRt,em_nil',I]
 simp[co,tOp,funcB,name_main,stmtsB,O,H,show aU [sRt op]=3 from rfl]
theorem names_op(op:Int):dQ (tOp op)=(0,-1,-1):=rfl
theorem Jh(t:Tr)(a:Int)(h tk:List ByteArray):bC t [] a h tk=(0,0,tk):=by unfold bC;rfl
theorem LV(op:Int):bC (tOp op) [sRt op] 0 [] []=(0,0,[]):=by simp[bC,bCN,sRt,stmtE,exprE,nodeE,nIn,nBi,Jh]
theorem Ji(op:Int):fe (tOp op) 0 ⟨mainS,[],[sRt op]⟩=(0,-1,-1):=by unfold fe;simp[jx,LV]
theorem bodies_op(op:Int):bodiesE (tOp op) 0 (tOp op).fc=(0,-1,-1):=by show(if (fe (tOp op) 0 ⟨mainS,[],[sRt op]⟩).1≠0 then fe (tOp op) 0 ⟨mainS,[],[sRt op]⟩else(0,-1,-1))=_;rw[Ji];rfl
theorem A4(op:Int):bU (tOp op).fc mainS=some 0:=rfl
theorem Jj(h:gu (tOp op) f g):False:=by
 obtain⟨H,h2⟩:=h;obtain rfl:f=0:=by have:(tOp op).fc.length=1:=rfl;omega
 rw[show callsL (tOp op).fc ((tOp op).fc.getD 0 ⟨⟨#[]⟩,[],[]⟩).bd=[]from rfl]at h2;cases h2
theorem LW(h:gL (tOp op) f g):False:=by
 induction h using gL_i with
 | one h=>exact Jj h
 | step _ h ih=>exact ih
theorem mB(h:0<=op/\op<=15):aL (tOp op)=(0,-1,-1):=by unfold aL;rw[A3 h,if_neg d_,names_op,if_neg d_,bodies_op,if_neg d_,A4];show dK (tOp op) 0 0 1=_;unfold dK;rw[if_neg (λx=>LW x.2)];rfl
end
section
def oW(op:Int):List UInt8:=
 if op=0 then[42]else if op=1 then[47]else if op=2 then[37]else if op=3 then[43]else if op=4 then[45]else if op=5 then[60,60]else if op=6 then[62,62]else if op=7 then[60]else if op=8 then[60,61]else if op=9 then[62]else if op=10 then[62,61]else if op=11 then[61,61]else if op=12 then[33,61]else if op=13 then[38]else if op=14 then[94]else[124]
def lA:List UInt8:=[105,110,116,32,109,97,105,110,40,41,32,123,10,114,101,116,117,114,110,32,105,110,40,41,32]
def lZ:List UInt8:=[32,105,110,40,41,59,10,125,10]
def oh(op:Int):List UInt8:=lA++oW op++lZ
def Oe(op:Int):List (Int×List UInt8):=[(1,[105,110,116]),(1,[109,97,105,110]),(3,[40]),(3,[41]),(3,[123]),(1,[114,101,116,117,114,110]),(1,[105,110]),(3,[40]),(3,[41]),(3,oW op),(1,[105,110]),(3,[40]),(3,[41]),(3,[59]),(3,[125]),(4,[])]
theorem A5{op:Int}(h:0<=op/\op<=15):∀i,i<16->(ak (oh op) i).kd=((Oe op).getD i (0,[])).1/\(i<15->(ak (oh op) i).text=tx ((Oe op).getD i (0,[])).2):=by
 rcases mA h with rfl|rfl|rfl|rfl|rfl|rfl|rfl|rfl|rfl|rfl|rfl|rfl|rfl|rfl|rfl|rfl
 all_goals decide
section
variable{T:Nat->To}{i:Nat}{o:Int}{x y:List UInt8}
theorem GH(h:(T i).kd=1\/(T i).kd=3)(H:(T i).text=tx x):aJ T x ⟨i,o,0,0⟩=true:=by simp[aJ,wdB,h,H]
theorem Of(h:(T i).text=tx y)(Ja:tx y≠tx x):aJ T x ⟨i,o,0,0⟩=false:=by simp[aJ,h,Ja]
theorem OJ(h:aJ T x ⟨i,o,0,0⟩=true):fM T x ⟨i,o,0,0⟩=⟨i+1,o,0,0⟩:=by unfold fM;rw[if_pos h];rfl
theorem Px(h:aJ T x ⟨i,o,0,0⟩=true)(H:o≠30):dP T x ⟨i,o,0,0⟩=⟨i+1,o+1,0,0⟩:=by unfold dP;rw[if_neg (λe=>H e.2),OJ h]
theorem Py(h:aJ T x ⟨i,o,0,0⟩=true):iz T x ⟨i,o,0,0⟩=⟨i+1,o-1,0,0⟩:=by unfold iz;rw[OJ h]
end
structure Og (T:Nat->To) (op:Int):Prop where
 kd:∀i,i<16->(T i).kd=((Oe op).getD i (0,[])).1
 tx:∀i,i<15->(T i).text=tx ((Oe op).getD i (0,[])).2
section
variable{T:Nat->To}{op:Int}
theorem GJ(i n:Nat)(J:(T i).kd=1)(U:(T i).text=tx [105,110])(h:(T (i+1)).kd=3/\(T (i+1)).text=tx [40])(h2:(T (i+2)).kd=3/\(T (i+2)).text=tx [41])(o:Int)(O:o≠30):Pa T (n+1) .o ⟨i,o,0,0⟩ (.n [nIn]) ⟨i+3,o,0,0⟩:=by have e:=Pa.oin (T:=T) n ⟨i,o,0,0⟩ (GH (.inl J) U);have H:(⟨i,o,0,0⟩:PS).ad=⟨i+1,o,0,0⟩:=rfl;rw[H,Px (GH (.inr h.1) h.2) O,Py (GH (.inr h2.1) h2.2)]at e;have I:o+1-1=o:=o_;rw[I]at e;exact e
theorem GK(i:Nat)(o:Int)(h:(T i).text=tx [59]):rM T ⟨i,o,0,0⟩=none:=by unfold rM;rw[List.find?_eq_none];intro x H;have:∀x∈opsL,tx [59]≠tx x.1:=d_;rw[Of h (this x H)];decide
theorem GL(h:0<=op/\op<=15)(i:Nat)(o:Int)(H:(T i).kd=3)(I:(T i).text=tx (oW op)):∃m,3<=m/\rM T ⟨i,o,0,0⟩=some (oW op,nBi op,m):=by
 have e:∀x,aJ T x ⟨i,o,0,0⟩=decide (tx (oW op)=tx x):=λx=>by simp[aJ,wdB,H,I]
 unfold rM;simp only[e];rcases mA h with rfl|rfl|rfl|rfl|rfl|rfl|rfl|rfl|rfl|rfl|rfl|rfl|rfl|rfl|rfl|rfl
 all_goals exact⟨_,d_,rfl⟩
theorem LX(H:Og T op)(h:0<=op/\op<=15)(o:Int)(J:o≠30):Pa T 10 (.e 1) ⟨6,o,0,0⟩ (.n [nIn,nIn,nBi op]) ⟨13,o,0,0⟩:=by
 have⟨m,Y,U⟩:=GL h 9 o (H.kd 9 d_) (H.tx 9 d_);have X:=GK (T:=T) 13 o (H.tx 13 d_);have O:Pa T 9 .o ⟨6,o,0,0⟩ (.n [nIn]) ⟨9,o,0,0⟩:=GJ 6 8 (H.kd 6 d_) (H.tx 6 d_) ⟨H.kd 7 d_,H.tx 7 d_⟩ ⟨H.kd 8 d_,H.tx 8 d_⟩ o J;have h2:Pa T 7 .o ⟨10,o,0,0⟩ (.n [nIn]) ⟨13,o,0,0⟩:=GJ 10 6 (H.kd 10 d_) (H.tx 10 d_) ⟨H.kd 11 d_,H.tx 11 d_⟩ ⟨H.kd 12 d_,H.tx 12 d_⟩ o J;have I:∀n m' out,Pa T (n+1) (.lp m' out) ⟨13,o,0,0⟩ (.n out) ⟨13,o,0,0⟩:=λn m' out=>Pa.lps n m' out _ rfl (λx hx=>by rw[X]at hx;cases hx)
 have h3:Pa T 8 (.e (m+1)) ⟨10,o,0,0⟩ (.n [nIn]) ⟨13,o,0,0⟩:=Pa.ex 7 _ _ _ _ _ _ h2 (I 6 _ _);exact Pa.ex 9 1 _ _ _ _ _ O (Pa.lpm 8 1 [nIn] _ (oW op,nBi op,m) [nIn] ⟨13,o,0,0⟩ _ _ rfl U (by show 1<=m;omega) h3 (I 7 _ _))
theorem LY(H:Og T op)(h:0<=op/\op<=15):Pa T 14 .bl ⟨4,0,0,0⟩ (.s [sRt op]) ⟨15,0,0,0⟩:=by
 have k:=λi hi=>H.kd i hi
 have Ja:Pa T 12 .st ⟨5,1,0,0⟩ (.s [sRt op]) ⟨14,1,0,0⟩:=by have e:=Pa.sre (T:=T) 11 ⟨5,1,0,0⟩ _ _ (GH (.inl (k 5 d_)) (H.tx 5 d_)) ((LX H h 1 d_).up);rw[OJ (x:=[59]) (GH (.inr (k 13 d_)) (H.tx 13 d_))]at e;exact e
 have I:Pa T 13 (.bs []) ⟨5,1,0,0⟩ (.s [sRt op]) ⟨14,1,0,0⟩:=Pa.bsm 12 [] _ [sRt op] ⟨14,1,0,0⟩ _ _ rfl (Of (y:=[114,101,116,117,114,110]) (H.tx 5 d_) d_) Ja (Pa.bsd 11 _ _ (.inr (GH (.inr (k 14 d_)) (H.tx 14 d_))));have e:=Pa.blk (T:=T) 13 ⟨4,0,0,0⟩ [sRt op] ⟨14,1,0,0⟩ (by rw[Px (x:=[123]) (GH (.inr (k 4 d_)) (H.tx 4 d_)) d_];exact I);rw[Py (x:=[125]) (GH (.inr (k 14 d_)) (H.tx 14 d_))]at e;exact e
theorem zU(h:Og T op):iR T Ds=(mainS,⟨2,0,0,0⟩):=by
 have J:fM T [105,110,116] Ds=⟨1,0,0,0⟩:=OJ (GH (.inl (h.kd 0 d_)) (h.tx 0 d_));have H:(T 1).text=mainS:=h.tx 1 d_;have I:i7 mainS=false:=by have e:mainS.toList=[109,97,105,110]:=toL [109,97,105,110];unfold i7;rw[e];decide
 unfold iR;rw[J];unfold cW JC;rw[if_pos (by simp[show(T 1).kd=1 from h.kd 1 d_,H,I])];show((T 1).text,_)=_;rw[H];rfl
theorem LZ(H:Og T op)(h:0<=op/\op<=15)(n:Nat)(J:14<=n):xP T n 1 Ds Ij (tOp op) ⟨15,0,0,0⟩:=by refine⟨rfl,by show(T 0).kd≠4;rw[show(T 0).kd=1 from H.kd 0 d_];decide,.inr ⟨mainS,[],[sRt op]⟩,⟨15,0,0,0⟩,?_,?_⟩;have Jb:aJ T [40] ⟨2,0,0,0⟩=true:=GH (.inr (H.kd 2 d_)) (H.tx 2 d_);have Ja:aJ T [41] ⟨3,1,0,0⟩=true:=GH (.inr (H.kd 3 d_)) (H.tx 3 d_);obtain⟨I,rfl⟩:∃I,n=I+1:=⟨n-1,o_⟩;have e:=Tp.fn (T:=T) (n:=I+1) Ds [] ⟨3,1,0,0⟩ [sRt op] ⟨15,0,0,0⟩ (by rw[zU H];exact Jb) (by rw[zU H,Px Jb d_];exact Pa.pld I [] _ (.inr ⟨rfl,Ja⟩)) (by rw[Py Ja];exact(LY H h).ups J);rw[zU H]at e;exact e;exact⟨.inr (H.kd 15 d_),rfl,rfl⟩
end
theorem Oh{op:Int}(h:0<=op/\op<=15):Og (ak (oh op)) op:=⟨λi hi=>(A5 h i hi).1,λi hi=>(A5 h i o_).2 hi⟩
theorem GM{op:Int}(h:0<=op/\op<=15):35<=(oh op).length/\(oh op).length<=36:=by
 rcases mA h with rfl|rfl|rfl|rfl|rfl|rfl|rfl|rfl|rfl|rfl|rfl|rfl|rfl|rfl|rfl|rfl
 all_goals decide
theorem Oi{op:Int}(h:0<=op/\op<=15):Rn (oh op) (ak (oh op)) 15 1 (tOp op) ⟨15,0,0,0⟩:=by
 have H:=Oh h;refine⟨⟨λi hi=>?_,by rw[show(ak (oh op) 15).kd=4 from H.kd 15 d_];decide,λi=>(fd _ i).1⟩,by have:=(GM h).1;omega,LZ H h _ o_,⟨by show 0+1+0<=15+1;decide,λf hf=>?_,rfl⟩⟩;rw[H.kd i o_]
 have:i=0\/i=1\/i=2\/i=3\/i=4\/i=5\/i=6\/i=7\/i=8\/i=9\/i=10\/i=11\/i=12\/i=13\/i=14:=by omega
 rcases this with rfl|rfl|rfl|rfl|rfl|rfl|rfl|rfl|rfl|rfl|rfl|rfl|rfl|rfl|rfl <;> (simp[Oe])
 obtain rfl:f=⟨mainS,[],[sRt op]⟩:=by simpa[tOp]using hf
 exact⟨by show 0<=6*15+7;decide,by show oy [sRt op]<=_;rw[show oy [sRt op]=4 from rfl];decide⟩
theorem L_{op:Int}(h:0<=op/\op<=15):ug (oh op) (tOp op) ⟨15,0,0,0⟩=(0,0,tOp op):=by unfold ug;rw[if_neg i_,if_pos (A3 h)]
end
section
variable{n:Nd}{op:Int}
theorem tg{F:Nat->List Nd}{A:Nat}(U:aD n=true)(O:arity n=A)(h:∀i,i<A->oneB (F i)=true):∃b,Cut (joinF F A++[n]) A b/\∀i,i<A->mE (joinF F A++[n]) b i=F i:=by
 have J:∀s∈(List.range A).map F,oneB s=true:=λs hs=>by obtain⟨i,H,rfl⟩:=List.mem_map.1 hs;exact h i (List.mem_range.1 H)
 have I:=uU ((List.range A).map F) n U (by simpa using O) J;rw[lD];have Ja:((List.range A).map F).length=A:=i_;rw[Ja]at I;refine⟨_,I,λi H=>?_⟩;have:=oG ((List.range A).map F) n i (by rw[Ja];exact H);rw[mE,this];simp
theorem A6{ap:Int->Int->Int->Int}(I:aD n=true)(J:arity n=0)(O:n.kd<6):Fd ap [n] [n]:=by
 obtain⟨b,H,-⟩:=tg (F:=λ_=>[]) (A:=0) I J (λi hi=>by omega);have h:=Fd.mk (ap:=ap) _ 0 b (λ_=>[]) H (λi hi=>by omega);have e:eH ap (d6 (joinF (λ_=>[]) 0++[n])) 0 (λ_=>[])=[n]:=by show eH ap n 0 _=_;unfold eH;rw[if_neg o_,if_neg o_,if_neg o_,if_neg o_];rfl
 rw[e]at h;exact h
theorem GN{ap:Int->Int->Int->Int}{x y:Nd}(hn:aD n=true)(h7:n.kd=7)(O:aD x=true)(H:aD y=true)(I:arity x=0)(J:arity y=0)(Z:x.kd<6)(ky:y.kd<6):Fd ap [x,y,n] (eH ap n 2 (λi=>if i=0 then[x]else[y])):=by
 have o1:∀m:Nd,aD m=true->arity m=0->oneB [m]=true:=λm h h'=>by simp[oneB,wholeTo,h,h']
 have Y:arity n=2:=by unfold arity;simp[h7]
 have⟨b,X,U⟩:=tg (F:=λi=>if i=0 then[x]else[y]) (A:=2) hn Y (λi hi=>by split;exact o1 x O I;exact o1 y H J)
 have h:=Fd.mk (ap:=ap) _ 2 b (λi=>if i=0 then[x]else[y]) X (λi hi=>by rw[U i hi];split;exact A6 O I Z;exact A6 H J ky);exact h
theorem in_ok:aD nIn=true:=by simp[aD,nIn,em_nil']
theorem A7(h:0<=op/\op<=15):aD (nBi op)=true:=by simp[aD,nBi,em_nil',h]
theorem L6(h:0<=op/\op<=15):oneB [nIn,nIn,nBi op]=true:=by simp[oneB,wholeTo,in_ok,A7 h,show arity nIn=0 from rfl,show arity (nBi op)=2 from rfl]
theorem Jk(h:0<=op/\op<=15):fq [nIn,nIn,nBi op] [nIn,nIn,nBi op]:=by unfold fq;rw[if_pos ⟨by show 3<=2000;decide,L6 h⟩];exact GN (A7 h) rfl in_ok in_ok rfl rfl d_ d_
def nNu(a:Int):Nd:=⟨1,a,⟨#[]⟩⟩
theorem Jl{a b:Int}(h:0<=op/\op<=15)(I: -2147483648<=a/\a<=2147483647)(J: -2147483648<=b/\b<=2147483647):fq [nNu a,nNu b,nBi op] [nNu (cL op a b)]:=by
 have H:aD (nNu a)=true:=by simp[aD,nNu,em_nil',I]
 have h2:aD (nNu b)=true:=by simp[aD,nNu,em_nil',J]
 unfold fq;rw[if_pos ⟨by show 3<=2000;decide,by simp[oneB,wholeTo,H,h2,A7 h,show arity (nNu a)=0 from rfl,show arity (nNu b)=0 from rfl,show arity (nBi op)=2 from rfl]⟩];exact GN (A7 h) rfl H h2 rfl rfl (by show(1:Int)<6;decide) (by show(1:Int)<6;decide)
theorem L7(h:0<=op/\op<=15):Gx (tOp op) (tOp op):=by
 unfold Gx;rw[mB h,if_pos rfl];refine⟨(tOp op).fc,0,⟨rfl,λj hj hj'=>?_⟩,rfl,?_⟩;obtain rfl:j=0:=by have:(tOp op).fc.length=1:=rfl;omega
 refine⟨rfl,rfl,[sRt op],⟨rfl,λj hj hj'=>?_⟩,rfl⟩;have:([sRt op]:List St).length=1:=rfl;obtain rfl:j=0:=by
  have:j<1:=hj
  omega
 refine⟨rfl,rfl,rfl,rfl,Jk h,?_⟩;show fq [] [];unfold fq;rw[if_neg (by simp[oneB,wholeTo])];have H:iJ [] (tOp op).fc 0 0=true:=@decide_eq_true _ (pdQ _) (.inl rfl);show tOp op=⟨[],bW (iJ [] (tOp op).fc 0) (tOp op).fc 1⟩;rw[nF (by show 0<1;decide) H,qC];rfl
theorem Jm(op:Int):kY [nIn,nIn,nBi op] 0=2:=by have h:∀stk,ME stk nIn=(λd=>d+1)::stk:=λstk=>rfl;have H:∀f g stk,ME (f::g::stk) (nBi op)=(λd=>max (g d) (f (d+1)))::stk:=λf g stk=>rfl;unfold kY JA;simp only[List.foldl,h,H];rfl
theorem size_op(op:Int):aH ⟨mainS,[],[sRt op]⟩=16:=by
 have h:places [sRt op]=2:=by show plE [] 1 (plE [nIn,nIn,nBi op] 0 0)=2;simp[plE,Jm];rfl
 have h2:([]++declN [sRt op]:List ByteArray)=[]:=rfl;unfold aH;dsimp only;rw[h,h2];rfl
theorem nG(h:0<=op/\op<=15):aV (tOp op)=[16]:=by unfold aV;rw[mB h,if_pos rfl];show[aH ⟨mainS,[],[sRt op]⟩]=_;rw[size_op]
theorem xI(h:0<=op/\op<=15):dI (tOp op)=16:=by unfold dI;rw[mB h,nG h,if_pos ⟨rfl,λx hx=>by simp at hx;omega⟩,A4];have H:Dp (tOp op) 1 0 (iZ (tOp op) 0+uK ((ld (tOp op) 0).map (λ_=>0))):=Dp.mk 0 0 _ (by show 0<1;decide) (λc hc=>by rw[show ld (tOp op) 0=[]from rfl]at hc;cases hc);show xn (tOp op) 0=16;rw[H.deep,show ld (tOp op) 0=[]from rfl,show iZ (tOp op) 0=16 from size_op op];rfl
end
section
variable{op:Int}
def gA:List It:=[aW 5 0,aw 12 17 0 0 10,aw 34 0 0 0 0,aW 2 0,aw 12 2 2 0 (-16),aw 11 0 2 1 12,aw 12 17 0 0 2,aw 34 0 0 0 0,aw 12 5 10 0 0,aw 12 17 0 0 2,aw 34 0 0 0 0,aw 12 6 10 0 0]
def gZ:List It:=[aw 12 10 5 0 0,aW 4 1,aw 12 10 0 0 0,aW 2 1,aw 10 1 2 0 12,aw 12 2 2 0 16,aw 3 0 1 0 0]
def Dz(op:Int):List It:=gA++jX op 5 5 6++gZ
theorem Jn(E:dE)(op l:Int):bG E [nIn,nIn,nBi op] 0 l=([aw 12 17 0 0 2,aw 34 0 0 0 0,aw 12 5 10 0 0,aw 12 17 0 0 2,aw 34 0 0 0 0,aw 12 6 10 0 0]++jX op 5 5 6,l):=by have e:bG E [nIn,nIn,nBi op] 0 l=([aw 12 17 0 0 2,aw 34 0 0 0 0]++ey E 0++([aw 12 17 0 0 2,aw 34 0 0 0 0]++ey E 1)++readL E 0 30++readL E 1 31++jX op (bw 0 30) (bw 0 30) (bw 1 31)++writeL E 0,l):=rfl;rw[e];simp[ey,readL,writeL,bw]
theorem GO(E:dE)(en op l:Int):bh E en [sRt op] l=([aw 12 17 0 0 2,aw 34 0 0 0 0,aw 12 5 10 0 0,aw 12 17 0 0 2,aw 34 0 0 0 0,aw 12 6 10 0 0]++jX op 5 5 6++[aw 12 10 5 0 0,aW 4 en],l):=by have e:bh E en [sRt op] l=((bG E [nIn,nIn,nBi op] 0 l).1++[aw 12 10 5 0 0,aW 4 en]++[],(bG E [nIn,nIn,nBi op] 0 l).2):=rfl;rw[e,Jn];simp
theorem zV(h:0<=op/\op<=15):jQ (tOp op)=Dz op:=by unfold jQ;rw[xI h,if_neg d_];have e:(cH (tOp op) (tOp op).fc.length ((tOp op).fc.length:Nat)).1=[aW 5 0,aw 12 17 0 0 10,aw 34 0 0 0 0]++([aW 2 0,aw 12 2 2 0 (-aH ⟨mainS,[],[sRt op]⟩),aw 11 0 2 1 (aH ⟨mainS,[],[sRt op]⟩-4)]++[]++(bh (qp (tOp op) ⟨mainS,[],[sRt op]⟩) 1 [sRt op] (1+1)).1++[aw 12 10 0 0 0,aW 2 1,aw 10 1 2 0 (aH ⟨mainS,[],[sRt op]⟩-4),aw 12 2 2 0 (aH ⟨mainS,[],[sRt op]⟩),aw 3 0 1 0 0]):=rfl;rw[e,size_op,GO];simp[Dz,gA,gZ]
theorem L8(op:Int):∀x∈Dz op,x.label=0\/x.label=1:=by
 intro x hx;unfold Dz at hx;simp only[List.mem_append]at hx;rcases hx with(hx|hx)|hx;simp only[gA,List.mem_cons,List.not_mem_nil,or_false]at hx;rcases hx with rfl|rfl|rfl|rfl|rfl|rfl|rfl|rfl|rfl|rfl|rfl|rfl <;> simp[aW,aw]
 ·left
  unfold jX at hx;repeat' split at hx
  all_goals (simp only[List.mem_cons,List.not_mem_nil,or_false]at hx)
  all_goals first|(subst hx;rfl)|(rcases hx with rfl|rfl <;> rfl)
 simp only[gZ,List.mem_cons,List.not_mem_nil,or_false]at hx;rcases hx with rfl|rfl|rfl|rfl|rfl|rfl|rfl <;> simp[aW,aw]
theorem Oj:∀i,i<(Dz op).length->(Lit.int .i64 ((Dz op).getD i cV).label).wf=true:=λi hi=>by
 have hm:(Dz op).getD i cV∈Dz op:=by
  have e:(Dz op).getD i cV=(Dz op)[i]:=by simp[List.getD,hi]
  rw[e];exact g_ hi
 rcases L8 op _ hm with e|e <;> rw[e] <;> rfl
theorem GP(op:Int):eK (tOp op):=by
 refine⟨by show 0<=1048576;decide,by show 1<=1048576;decide,λf hf=>?_⟩;obtain rfl:f=⟨mainS,[],[sRt op]⟩:=by simpa[tOp]using hf
 refine⟨by show 0<=1048576;decide,by show 1<=1048576;decide,λs hs=>?_⟩;obtain rfl:s=sRt op:=by simpa using hs
 exact⟨by show 3<=1048576;decide,by show 0<=1048576;decide⟩
theorem L9(op:Int):xL (tOp op):=by
 have H:∀n∈[nIn,nIn,nBi op],n.nm.size<=9223372036854775807:=λn H=>by simp only[List.mem_cons,List.not_mem_nil,or_false]at H;rcases H with rfl|rfl|rfl <;> (show 0<=9223372036854775807;decide)
 refine⟨⟨by show 0<=9223372036854775807;decide,λg hg=>by cases hg⟩,by show 1<=9223372036854775807;decide,λf hf=>?_⟩;obtain rfl:f=⟨mainS,[],[sRt op]⟩:=by simpa[tOp]using hf
 refine⟨by show 4<=9223372036854775807;decide,⟨by show 0<=9223372036854775807;decide,λs hs=>by cases hs⟩,by show 1<=9223372036854775807;decide,λs hs=>?_⟩;obtain rfl:s=sRt op:=by simpa using hs
 refine⟨by show 0<=9223372036854775807;decide,?_,?_⟩;exact⟨by show 3<=9223372036854775807;decide,H⟩;exact⟨by show 0<=9223372036854775807;decide,λn h=>by cases h⟩
end
def wA:List Int:=[12583151,10487955,115,4278255891,1123875,2099347,115,328339,2099347,115,328467]
def wZ:List Int:=[165139,8388719,1299,12656771,16843027,32871]
def wB(op:Int):List Int:=
 if op=0 then[40010419]else
 if op=1 then[40026803]else
 if op=2 then[40034995]else
 if op=3 then[6455987]else
 if op=4 then[1080197811]else
 if op=5 then[6460083]else
 if op=6 then[1080218291]else
 if op=7 then[6464179]else
 if op=8 then[5448371,1229459]else
 if op=9 then[5448371]else
 if op=10 then[6464179,1229459]else
 if op=11 then[1080197811,1225363]else
 if op=12 then[1080197811,5255859]else
 if op=13 then[6484659]else
 if op=14 then[6472371]else
 [6480563]
def kw(op:Int):List Int:=wA++wB op++wZ
theorem Ma{op:Int}(h:0<=op/\op<=15):pO (Dz op) (kw op):=by rcases mA h with rfl|rfl|rfl|rfl|rfl|rfl|rfl|rfl|rfl|rfl|rfl|rfl|rfl|rfl|rfl|rfl;all_goals exact .inl ⟨d_,by unfold iW;decide,by unfold Linked;decide,List.replicate _ false,⟨⟨0,rfl⟩,d_⟩,.inl ⟨d_,d_⟩⟩
