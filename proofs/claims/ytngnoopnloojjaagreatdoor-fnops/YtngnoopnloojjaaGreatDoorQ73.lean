import Derived.Test.YtngnoopnloojjaaGreatDoorQ57
import Derived.Laws.EntriesVeiled
import Derived.Test.YtngnoopnloojjaaGreatDoorQ71
import Derived.Test.YtngnoopnloojjaaGreatDoorQ56
set_option linter.all false
set_option maxRecDepth 100000
set_option maxHeartbeats 0
namespace Go.Proofs.YtngnoopnloojjaaGreatDoor
open Go.Proofs.Tryz
variable[Inhabited Pick]
section
open Go.RowKit
theorem N8(a b c d:Value)(W:World):(Instr.index 202 (.agg #[a,b,c,d]) (V 0)).run prog W=.ok a W:=by kernel_rfl
theorem N9(a b c d:Value)(W:World):(Instr.index 202 (.agg #[a,b,c,d]) (V 1)).run prog W=.ok b W:=by kernel_rfl
theorem Oa(a b c d:Value)(W:World):(Instr.index 202 (.agg #[a,b,c,d]) (V 2)).run prog W=.ok c W:=by kernel_rfl
theorem Ob(a b c d:Value)(W:World):(Instr.index 202 (.agg #[a,b,c,d]) (V 3)).run prog W=.ok d W:=by kernel_rfl
theorem qt(t:Tr)(vg vf:Value)(w:World)(hT:eG w)(hs:eK t)(Z:xL t)(hg:dz w vg t.gl)(hf:cF w vf t.fc):
  Calls prog 45 #[.agg #[vg,vf]] w λe w'=>e=rW (fD (aL t).1 (aL t).2.1 (aL t).2.2)/\Below w.heap.size w w':=by
 have⟨Jn,Jk⟩:=q_ (aL t);rw[<-Jk];have⟨Jb,HT,HS,HW,HG,HF⟩:=h6 Jk hT hs Z hg hf;obtain⟨J,O,rfl,-⟩:=hg;obtain⟨H,I,rfl,-⟩:=hf;have Yo:∀(fn:Fn) (first cap:Array Value) (w:World),(Instr.makeFunc fn first cap).run prog w=.ok (.func fn first cap) w:=λ_ _ _ _=>rfl;clear hT hs Z Jk;go_in;go_wp2_with fail;have⟨W0,Jc⟩:=q_ ((w.alloc (.cells #[.slice J t.gl.length O,.slice H t.fc.length I] 63)).alloc (.cells #[nV,.slice J t.gl.length O,.slice H t.fc.length I,.map none,.map none,V (-1),V (-1)] 198));have⟨U,Jo⟩:=q_ w.heap.size;have⟨C,Y⟩:=q_ (w.heap.size+1);have Jl:Bl w W0:=by rw[Jc];exact(aq _ _).alloc i_ _
 have a0:W0.cell? ⟨U,0,none⟩=some (.slice J t.gl.length O):=by rw[Jc,Jo,World.cell?_alloc_lt _ _ ⟨w.heap.size,0,none⟩ i_];simp
 have a1:W0.cell? ⟨U,1,none⟩=some (.slice H t.fc.length I):=by rw[Jc,Jo,World.cell?_alloc_lt _ _ ⟨w.heap.size,1,none⟩ i_];simp
 have Xv:∀o,W0.cell? ⟨C,o,none⟩=(#[nV,.slice J t.gl.length O,.slice H t.fc.length I,.map none,.map none,V (-1),V (-1)]:Array Value)[o]? := λo=>by rw[Jc];exact World.cell?_alloc_at _ _ _ _ (by simp[Y])
 have Xo:∀o,W0.frozen? ⟨C,o,none⟩=false:=λo=>by rw[Jc];exact World.frozen?_alloc_at _ _ _ _ (by simp[Y])
 have⟨Jf,Xt⟩:=h2 Xv Xo;have Jv:C<W0.heap.size:=by rw[Jc,Y];simp
 have Jy:U<W0.heap.size:=by rw[Jc,Jo];simp;omega
 have Yp:U≠C:=o_;have Xq:w.heap.size<=C:=o_;rw[<-Jc,<-Y,<-Jo];clear Jc Y Jo Xv Xo;refine(sG t _ _ _ (HT.out.below HT.out.size Jl) HS (HG.out.below Jl) (HF.out.below Jl)).mono ?_;rintro e w1 ⟨rfl,Jh⟩;have b0:=(Jh.cell (p:=⟨U,0,none⟩) Jy).trans a0;have b1:=(Jh.cell (p:=⟨U,1,none⟩) Jy).trans a1;have Jr:Bl w w1:=Jl.trans (Jh.mono Jl.size);have Ju:=ah λo=>(Jh.cell (p:=⟨C,o,none⟩) Jv).trans (Jf o);have Xk:Hid (∀o,w1.frozen? ⟨C,o,none⟩=false):=λo=>(Jh.frozen (p:=⟨C,o,none⟩) Jv).trans (Xt o);have Xi:C<w1.heap.size:=l_ Jv Jh.size;have Yq:U<w1.heap.size:=l_ Jy Jh.size;clear Jh a0 a1 Jf Xt Jv Jy Jl;cases htb:co t with
 | false=>have HE:Hid (Jn=(1,-1,-1)):=Jb.out.trans (pt htb);clear htb;go_wp2_with fail;refine(di C 1 (-1) (-1) _ (Ju 5) (Ju 6)).mono ?_;rintro e w5 ⟨rfl,Z⟩;rw[Z];clear Z;go_wp2;go_ret;exact⟨aC (by rw[HE.out];rfl),Jr⟩
 | true=>
  have HB:=ah htb;have Jt:=P1 htb HS HW;have Ji:=ah Jt;have Yj:=Jt.fl;have Yh:=Jt.gl;clear htb Jt;go_wp2_with fail;refine(jj t.fc _ _ _ o_ Ji.out.wf (HF.out.below Jr)).mono ?_;rintro e w2 ⟨bn,D,rfl,Yc,Jq,hN,Jp⟩;have Xn:Bl w w2:=Jr.trans (Jp.mono Jr.size);have Je:=ah λo=>(Jp.cell (p:=⟨C,o,none⟩) Xi).trans (Ju o);have Xg:Hid (∀o,w2.frozen? ⟨C,o,none⟩=false):=λo=>(Jp.frozen (p:=⟨C,o,none⟩) Xi).trans (Xk o);have Xa:C<w2.heap.size:=l_ Xi Jp.size;have Yb:C<bn:=o_
  have⟨Xh,HN⟩:=h2 Jq hN;have q3:w2.cell? ⟨C,3,none⟩=some (.map none):=Je 3;have qf:=Xg 3;clear Jp Jq hN Yc b0 b1 Ju Xk;have i0:=N8;have i1:=N9;have i2:=Oa;have i3:=Ob;go_wp2_with fail;have⟨W4,Jj⟩:=q_ ((w2.setCell ⟨C,3,none⟩ (.map (some bn))).alloc (.cells #[.func (.func 76) #[pV C] #[],.func (.func 77) #[pV C] #[],.func (.func 78) #[pV C] #[],.func (.func 79) #[pV C] #[]] 202));have Xm:Hid (Pp w C bn t.fc.length D t (.slice J t.gl.length O) (.slice H t.fc.length I) W4):=by
   have Ja:∀o,o≠3->W4.cell? ⟨C,o,none⟩=w2.cell? ⟨C,o,none⟩:=λo ho=>by rw[Jj,World.cell?_alloc_lt _ _ ⟨C,o,none⟩ (by simpa using Xa)];exact s_ _ _ _ _ (br (λe=>ho e.symm))
   have h3:W4.cell? ⟨C,3,none⟩=some (.map (some bn)):=by rw[Jj,World.cell?_alloc_lt _ _ ⟨C,3,none⟩ (by simpa using Xa)];exact World.cell?_setCell_same _ _ _ q3
   have Ya:Bl w W4:=by rw[Jj];exact(Xn.setCell (p:=⟨C,3,none⟩) Xq _).alloc (by have:=Xn.size;simpa using this) _
   exact⟨(Ja 0 d_).trans (Je 0),(Ja 1 d_).trans (Je 1),(Ja 2 d_).trans (Je 2),h3,⟨_,(Ja 4 d_).trans (Je 4)⟩,(Ja 5 d_).trans (Je 5),(Ja 6 d_).trans (Je 6),λo=>by rw[Jj,World.frozen?_alloc_past _ _ _ (by simpa using Xa)];simpa using Xg.out o,Xq,Ya,⟨HF.out,HG.out⟩,aI Xh.out (by rw[Jj,Below.heap_alloc _ _ _ (by have:=Xh.out.lt;simpa using this),Below.heap_setCell _ _ _ bn (λh=>by simp at h;omega)]),HN.out,Yb⟩
  refine wp_loop_rounds 5 ?_;rw[rounds_succ];go_wp2_with fail;rw[<-Jj];obtain⟨E,hE⟩:∃E:oO,E=⟨w,C,W4.heap.size+1,bn,t.fc.length,D,t,.slice J t.gl.length O,.slice H t.fc.length I,λ_=>none,λ_=>false,0⟩:=⟨_,rfl⟩;have Xf:Hid (Calls prog 76 #[pV C] W4 λe w'=>e=rW (fD (iT t).1 (iT t).2.1 (iT t).2.2) /\
   ∃gf' ng' v bt tk fn st,Cs {E with gf:=gf',ng:=ng'} w' [] [] v bt tk fn st/\((iT t).1=0->gf'=cP t.gl/\ng'<=1000/\fn= -1/\st= -1)):=by
   subst hE;exact Pq (E:=⟨w,C,W4.heap.size+1,bn,t.fc.length,D,t,.slice J t.gl.length O,.slice H t.fc.length I,λ_=>none,λ_=>false,0⟩) (w:=W4) Xm rfl rfl rfl rfl (by show t.gl.length<=_;omega) (by show t.fc.length<=_;omega) Ji.out.g Ji.out.fn
  have Jm:=ah hE;clear Jj hE Xm Je Xg Xh q3 qf;refine Xf.out.mono ?_;rintro e w5 ⟨rfl,Yl,Xs,v5,Ye,Yg,Yf,Yd,Jx,Xe⟩;have Jw:Bl w w5:=by have:=Jx.base;rw[Jm.out]at this;exact this
  by_cases hz:(iT t).1=0
  ·obtain⟨rfl,Xb,rfl,rfl⟩:=Xe hz;rw[hz,dj];have⟨HZ,Xd⟩:=h2 hz Jx;clear hz Xe Jx;go_wp2_with fail;rw[rounds_succ];go_wp2_with fail;have Xx:Hid (Calls prog 77 #[pV C] w5 λe w'=>e=rW (fD (nM t) (-1) (-1))/\Bl w5 w'):=by have h:=Xd;have X:=h.box;have hf:=h.fun0.1.below h.base;rw[Jm.out]at X hf;have h1:=h.own;have h2:=h.num;rw[Jm.out]at h1 h2;exact Co C bn t.fc.length D t (-1) (-1) _ w5 X.c2 X.c3 X.c5 X.c6 h1 h2 o_ hf
   refine Xx.out.mono ?_;rintro e w6 ⟨rfl,Xc⟩;have Xl:=ah (Xd.out.below Xc);have Xp:Bl w w6:=Jw.trans (Xc.mono Jw.size);clear Xc Xd Xx Jw;by_cases hz:nM t=0
   ·rw[hz,dj];have⟨m,hm⟩:=rX hz;have HM:=ah hm;have Xz:Hid ((dQ t).1=0):=(by show _=_;rw[lw HZ.out];exact hz);clear hz hm HZ;go_wp2_with fail;rw[rounds_succ];go_wp2_with fail;have Xr:Hid (Calls prog 78 #[pV C] w6 λe w'=>e=rW (fD (bodiesE t 0 t.fc).1 (bodiesE t 0 t.fc).2.1 (bodiesE t 0 t.fc).2.2) /\
   ∃g' v' bt' tk' fn' st',Cs {E with gf:=cP t.gl,ng:=Xs,gp:=g'} w' [] [] v' bt' tk' fn' st'/\((bodiesE t 0 t.fc).1=0->fn'= -1/\st'= -1)):=by have h:=Xl;have he:=Jm;subst he;exact zd (E:= {w0:=w,C:=C,bg:=W4.heap.size+1,bn:=bn,nn:=t.fc.length,D:=D,t:=t,vg:=.slice J t.gl.length O,vf:=.slice H t.fc.length I,gf:=cP t.gl,gp:=λs=>decide (0<=globI t.gl s),ng:=Xs}) (g0:=λ_=>false) h Xb rfl rfl (λg hg=>(Ji.out.g g hg).2.1) (by show t.fc.length<=_;omega) Ji.out.f
    refine Xr.out.mono ?_;rintro e w7 ⟨rfl,g7,v7,Yn,Yi,Ym,Yk,Js,J_⟩;have Xw:Bl w w7:=(by have:=Js.base;rw[Jm.out]at this;exact this);clear Xl Xr Xp;by_cases hz:(bodiesE t 0 t.fc).1=0
    ·obtain⟨rfl,rfl⟩:=J_ hz;rw[hz,dj];have Xj:=ah Js;have X_:Hid (Jn=dK t m 0 t.fc.length):=Jb.out.trans (pu HB Xz hz HM);clear hz J_ Js Jb;go_wp2_with fail;rw[rounds_succ];go_wp2_with fail;have Xy:Hid (Calls prog 79 #[pV C] w7 λe w'=>e=rW (fD (dK t m 0 t.fc.length).1 (dK t m 0 t.fc.length).2.1 (dK t m 0 t.fc.length).2.2)/\Bl w w'):=by have h:=Xj;have he:=Jm;subst he;exact Fo h m HM (by show t.fc.length<=_;omega) Ji.out.wf Ji.out.sm
     refine Xy.out.mono ?_;rintro e w8 ⟨rfl,Xu⟩;rw[<-X_.out];clear Xj Xy Xw;by_cases hz:Jn.1=0
     ·rw[hz,dj];have Jz:=ah hz;clear hz;go_wp2_with fail;rw[rounds_succ];go_wp2;go_ret;exact⟨aC (by rw[Jz.out];rfl),Xu⟩
     rw[bI hz];have Jz:=ah hz;clear hz;go_wp2;go_ret;exact⟨aC (by rw[bI Jz.out];rfl),Xu⟩
    have Jg:Hid (Jn=bodiesE t 0 t.fc):=Jb.out.trans (lQ HB Xz hz);have Jd:=ah hz;rw[bI hz];generalize bodiesE t 0 t.fc=z at Jg Jd⊢;clear hz J_ Js;go_wp2;go_ret;exact⟨aC (by rw[Jg.out,bI Jd.out];rfl),Xw⟩
   have Jg:Hid (Jn=(nM t,-1,-1)):=by show _=_;have:=lw HZ.out;rw[Jb.out,j2 HB.out (by rw[this];exact hz),this]
   have Jd:=ah hz;rw[bI hz];generalize nM t=z at Jg Jd⊢;clear hz;go_wp2;go_ret;exact⟨aC (by rw[Jg.out,bI Jd.out];rfl),Xp⟩
  have Jg:Hid (Jn=iT t):=by show _=_;have:=rU hz;rw[Jb.out,j2 HB.out (by rw[this];exact hz),this]
  have Jd:=ah hz;rw[bI hz];generalize iT t=z at Jg Jd⊢;clear hz Xe Jx;go_wp2;go_ret;exact⟨aC (by rw[Jg.out,bI Jd.out];rfl),Jw⟩
end
section
open Go.RowKit
theorem nD(t:Tr)(vg vf:Value)(w:World)(U:eG w)(hs:eK t)(hw:xL t)(X:dz w vg t.gl)(O:cF w vf t.fc):
  Calls prog 52 #[.agg #[vg,vf]] w λe w'=>e=rW (.bool (decide ((aL t).1=0)))/\Below w.heap.size w w':=by
 obtain⟨x,y,z,I⟩:∃x y z,aL t=(x,y,z):=⟨_,_,_,rfl⟩;obtain⟨ag,cg,rfl,-⟩:=id X;obtain⟨Z,Y,rfl,-⟩:=id O;have H:∀o,Bl w (w.alloc o):=λo=>r_.alloc n_ o;have J:Hid (∀W,Bl w W->Calls prog 45 #[.agg #[.slice ag t.gl.length cg,.slice Z t.fc.length Y]] W λe w'=>e=rW (fD x y z)/\Bl W w'):=λW hW=>by
  have:=qt t _ _ W (U.below U.size hW) hs hw (X.below hW) (O.below hW)
  rw[I]at this;exact this
 rw[I];simp only;by_cases hz:x=0
 ·subst hz;rw[decide_eq_true rfl];go_in;go_wp2_with fail;refine(J _ (H _)).mono ?_;rintro e w1 ⟨rfl,Jb⟩;rw[dj];have Ja:=(H _).trans (Jb.mono (H _).size);go_wp2;go_ret;exact⟨rfl,Ja⟩
 rw[decide_eq_false hz];go_in;go_wp2_with fail;refine(J _ (H _)).mono ?_;rintro e w1 ⟨rfl,Jb⟩;rw[bI hz];have Ja:=(H _).trans (Jb.mono (H _).size);go_wp2;go_ret;exact⟨rfl,Ja⟩
end
section
open Go.RowKit
theorem Jb(t:Value)(w:World):Calls prog 44 #[.nilIface,t] w λe w'=>e=rW (.bool false)/\w'=w:=by go_in;go_wp2;go_ret;exact⟨rfl,rfl⟩
theorem xj(t:Tr)(h0:(aL t).1=0)(vg vf:Value)(w:World)(hT:eG w)(hs:eK t)(J:xL t)(hg:dz w vg t.gl)(Z:cF w vf t.fc):
  Calls prog 25 #[.agg #[vg,vf]] w λe w'=>e=rW (.agg #[V 0,V (-1),V (-1)])/\Below w.heap.size w w':=by
 obtain⟨x,y,z,U⟩:∃x y z,aL t=(x,y,z):=⟨_,_,_,rfl⟩;have hz:x=0:=by rw[U]at h0;exact h0
 obtain⟨ag,cg,rfl,-⟩:=id hg;obtain⟨af,cf,rfl,-⟩:=id Z;have⟨W0,Jc⟩:=q_ (((w.alloc (.cells #[.slice ag t.gl.length cg,.slice af t.fc.length cf] 63)).alloc (.cells #[V 0,V 0,V 0] 68)).alloc (.cells #[V 0,V 0,V 0] 123));have⟨R,H⟩:=q_ (w.heap.size+1);have⟨F,O⟩:=q_ (w.heap.size+1+1);have I:Bl w W0:=by rw[Jc];exact((aq _ _).alloc i_ _).alloc (by simp;omega) _
 have Jj:∀o,o<3->W0.cell? ⟨R,o,none⟩=some (V 0):=λo ho=>by
  rw[Jc,World.cell?_alloc_lt _ _ ⟨R,o,none⟩ (by simp[H])];refine(World.cell?_alloc_at _ _ _ _ (by simp[H])).trans ?_;have:o=0\/o=1\/o=2:=by omega
  rcases this with rfl|rfl|rfl <;> rfl
 have Jm:∀o,o<3->W0.cell? ⟨F,o,none⟩=some (V 0):=λo ho=>by
  rw[Jc];refine(World.cell?_alloc_at _ _ _ _ (by simp[O])).trans ?_;have:o=0\/o=1\/o=2:=by omega
  rcases this with rfl|rfl|rfl <;> rfl
 have Jl:∀o,W0.frozen? ⟨R,o,none⟩=false:=λo=>by rw[Jc,World.frozen?_alloc_past _ _ _ (by simp[H])];exact World.frozen?_alloc_at _ _ _ _ (by simp[H])
 have Jk:∀o,W0.frozen? ⟨F,o,none⟩=false:=λo=>by rw[Jc];exact World.frozen?_alloc_at _ _ _ _ (by simp[O])
 have Jd:R<W0.heap.size:=by rw[Jc];simp;omega
 have Je:F<W0.heap.size:=by rw[Jc];simp;omega
 have Js:R≠F:=o_;have Jh:w.heap.size<=R:=o_;have Jq:w.heap.size<=F:=o_;have Jo:Hid (Calls prog 45 #[.agg #[.slice ag t.gl.length cg,.slice af t.fc.length cf]] W0 λe w'=>e=rW (fD x y z)/\Bl W0 w'):=by
  have:=qt t _ _ _ (hT.below hT.size I) hs J (hg.below I) (Z.below I)
  rw[U]at this;exact this
 have Jg:=ah Jj;have Jf:=ah Jm;have Jn:=ah Jl;have Ji:=ah Jk;have X:=ah I;clear U hT hs J hg Z Jj Jm Jl Jk I;go_in;go_wp2_with fail;rw[<-Jc,<-O,<-H];clear Jc H O;refine Jo.out.mono ?_;rintro e w1 ⟨rfl,Ja⟩;have Jp:Bl w w1:=X.out.trans (Ja.mono X.out.size);have r0:=(Ja.cell (p:=⟨R,0,none⟩) Jd).trans (Jg.out 0 d_);have r1:=(Ja.cell (p:=⟨R,1,none⟩) Jd).trans (Jg.out 1 d_);have r2:=(Ja.cell (p:=⟨R,2,none⟩) Jd).trans (Jg.out 2 d_);have Y:=λo=>(Ja.frozen (p:=⟨R,o,none⟩) Jd).trans (Jn.out o);have f0:=(Ja.cell (p:=⟨F,0,none⟩) Je).trans (Jf.out 0 d_);have f1:=(Ja.cell (p:=⟨F,1,none⟩) Je).trans (Jf.out 1 d_);have f2:=(Ja.cell (p:=⟨F,2,none⟩) Je).trans (Jf.out 2 d_);have fz:=λo=>(Ja.frozen (p:=⟨F,o,none⟩) Je).trans (Ji.out o);have Jt:R<w1.heap.size:=l_ Jd Ja.size;have Jr:F<w1.heap.size:=l_ Je Ja.size;clear Ja Jo Jg Jf Jn Ji X Jd Je;subst hz;rw[dj];have z0:=Y 0;have z1:=Y 1;have z2:=Y 2;go_wp2_with fail;refine(Jb _ w1).mono ?_;rintro e w2 ⟨rfl,J⟩;rw[J];clear J;go_wp2_with fail;have⟨t0,t1,t2⟩:=MM (u0:=V 0) (u1:=V (-1)) (u2:=V (-1)) r0 r1 r2;refine bodyPost_ret (v:=.agg #[V 0,V (-1),V (-1)]) (by simp[results,results25,go_sem,t0,t1,t2]) rfl ⟨rfl,?_⟩;exact((Jp.setCell (p:=⟨R,0,none⟩) Jh _).setCell (p:=⟨R,1,none⟩) Jh _).setCell (p:=⟨R,2,none⟩) Jh _
theorem Gc(a:Option Addr)(c:Nat)(w:World):Calls prog 48 #[.slice a 0 c] w λe w'=>∃b,e=rW (.tuple #[.map (some b),V 0])/\Below w.heap.size w w':=by
 have Ja:Hid (Bl w (w.alloc (.map #[] 0))):=aq _ _;have Jb:= @run_makeMap prog;go_in;go_wp2;go_loopw[3,9] (λp i wr=>i=V 0/\p=V 0/\Bl w wr) (λ_ _ _=>0)
 case atStart=>exact⟨rfl,rfl,Ja⟩
 case round=>obtain⟨rfl,rfl,H⟩:=hrel;go_wp2_with fail;exact bodyPost_ret (v:=.tuple #[.map (some w.heap.size),V 0]) (by simp[results,results48,go_sem]) rfl ⟨_,rfl,H⟩
end
section
variable{t:Tr}
theorem Gd(h:(aL t).1=0):co t=true:=by
 cases hb:co t with
 | true=>rfl
 | false=>rw[pt hb]at h;cases h
theorem lH(h:(aL t).1=0):∃m,bU t.fc mainS=some m/\m<t.fc.length/\Kh t m:=by
 have I:=Gd h;by_cases hn:(dQ t).1=0
 have⟨m,H⟩:=qZ hn;have Ja:m<t.fc.length:=jv H;refine⟨m,H,Ja,?_⟩;by_cases hz:(bodiesE t 0 t.fc).1=0
 rw[pu I hn hz H]at h;intro x hx;have Jb:x<t.fc.length:=(by rcases hx with rfl|hx;exact Ja;exact hx.lt);exact px t.fc.length 0 h x y_ o_ hx;rw[lQ I hn hz]at h;exact absurd h hz;rw[j2 I hn]at h;exact absurd h hn
end
section
open Go.RowKit
variable{B:Nat}{w:World}{v:Value}{l:List Int}
def kt(B:Nat)(w:World)(v:Value)(l:List Int):Prop:=w.ownsRow B 2 1 v l.length (l.map (Value.int .i64))
theorem kt.below{w':World}(h:kt B w v l)(hb:Below w.heap.size w w'):kt B w' v l:=yQ h hb
theorem kt.shape(h:kt B w v l):∃a c,v=.slice a l.length c:=by rcases h.2 with⟨rfl,H⟩|⟨g,Ja,Jb,rfl,_⟩;exact⟨none,0,by rw[H]⟩;exact⟨_,Ja,rfl⟩
theorem Ge(W:World)(B:Nat)(hB:B<=W.heap.size):kt B (W.alloc (.cells #[] 2)) (rV W.heap.size 0 0) []:=World.ownsRow_lit W #[] 0 hB d_ rfl
theorem xl{ops:Array Oper}{Jb:List Oper}{o:Oper}{a:Act}{Q:Exit->Act->World->Prop}(Jg:o.guard=none)(s x:Operand)
  (U:o.op=.call {callee:=.builtin .append,args:=#[s,x],argTypes:=#[29,29]})
  (B:Nat) (v:Value) (l:List Int) (z:Int) (X:a.eval s=v) (Jc:kt B w v l) (b c:Nat) (Y:a.eval x=rV b 1 c) (O:w.cell? ⟨b,0,none⟩=some (V z))
  (Z:l.length<=1000000) (Ja:B<=w.heap.size)
  (h:∀v' w',kt B w' v' (l++[z])->w.grownBy w' v.ownBlock->wpList prog ops Q Jb (a.put o.dst v') w'):wpList prog ops Q (o::Jb) a w:=by
 have⟨I,H,Je,Jd,Jf⟩:=info_parts wH;refine dY Jg s x _ U B 2 I _ 1 8 underlying29 H Je Jd Jf rfl d_ v l.length (l.map (Value.int .i64)) X Jc ⟨b,0,none⟩ 1 c [V z] Y rfl ?_ (by simp[Value.oneCell']) o_ d_ Ja λv' w' h1 h2 h3=>h v' w' ?_ h2
 ·intro j u H;have J:j=0:=by
   have:=(List.getElem?_eq_some_iff.1 H).1
   simp at this;omega
  subst J;simp at H;rw[<-H];simpa[Addr.add]using O
 unfold kt;rw[l_a,List.map_append];exact h1
theorem Gf(b:Nat)(n z:Int)(W:World):(Instr.field 204 (.agg #[.map (some b),V n,V z]) 2).run prog W=.ok (V z) W:=by kernel_rfl
theorem n9(t:Tr)(vg vf:Value)(w:World)(Y:eG w)(hs:eK t)(hw:xL t)(Z:dz w vg t.gl)(hf:cF w vf t.fc):
  Calls prog 47 #[.agg #[vg,vf]] w λe w'=>∃v,e=rW v/\kt w.heap.size w' v (aV t)/\Below w.heap.size w w':=by
 have HT:Hid (eG w):=Y;have Jy:=Y.size;have Xa:=ah λW (hW:Bl w W)=>nD t vg vf W (Y.below Y.size hW) hs hw (Z.below hW) (hf.below hW);have Ju:=ah λ(h:(aL t).1=0)=>LL h hw;obtain⟨ag,cg,rfl,-⟩:=Z;obtain⟨af,cf,rfl,-,-,Jz⟩:=hf;have Xb:=ah Jz;have⟨W0,Jd⟩:=q_ (w.alloc (.cells #[.slice ag t.gl.length cg,.slice af t.fc.length cf] 63));have Jf:Bl w W0:=by rw[Jd];exact r_.alloc n_ _
 have Jr:W0.heap.size=w.heap.size+1:=by rw[Jd];simp
 have Je:Bl w (W0.alloc (.cells #[] 2)):=Jf.alloc Jf.size _;have Jq:Hid (kt w.heap.size (W0.alloc (.cells #[] 2)) (.slice (some ⟨w.heap.size+1,0,none⟩) 0 0) []):=by
  have:=Ge W0 w.heap.size Jf.size
  rw[Jr]at this;exact this
 have Jp:Hid (∀W,Below (w.heap.size+1) W0 W->W.cell? ⟨w.heap.size,0,none⟩=some (.slice ag t.gl.length cg)/\W.cell? ⟨w.heap.size,1,none⟩=some (.slice af t.fc.length cf)):=λW hW=>by rw[Jd]at hW;exact wd hW
 have Jm:Below (w.heap.size+1) W0 (W0.alloc (.cells #[] 2)):=r_.alloc o_ _;have Js:=ah Jd;go_in;go_wp2_with fail;rw[<-Js.out];refine(Xa.out _ Je).mono ?_;rintro e w1 ⟨rfl,Jh⟩;have Ji:=Je.trans (Jh.mono Je.size);have Jk:=ah (Jq.out.below Jh);have⟨x0,x1⟩:=Jp.out w1 (Jm.trans (Jh.mono (by have:=Jm.size;omega)));by_cases H:(aL t).1=0
 ·have⟨Xf,Jx⟩:=Ju.out H;have Jw:=ah Jx;have Ja:Hid (aV t=t.fc.map aH):=km H;rw[decide_eq_true H];go_wp2;go_loopw[3,14] (λv i wr=>∃k:Nat,k<=t.fc.length/\i=V k/\kt w.heap.size wr v ((t.fc.take k).map aH)/\Bl w wr) (λ_ i _=>t.fc.length-(RowKit.intOf i).toNat)
  case atStart=>exact⟨0,y_,rfl,Jk,Ji⟩
  case round=>
   obtain⟨k,hk,rfl,I,J⟩:=hrel;by_cases hlt:k<t.fc.length
   ·obtain⟨b,Xe,rfl,hc⟩:=Xb.out o_;have⟨vp,vb,⟨d0,d1,d2⟩,hp,hb⟩:=(hc.below J) k hlt;have Jb:=Jw.out _ (g_ hlt);have O:Hid (∀W,Bl wr W->Calls prog 80 #[.agg #[sV t.fc[k].nm,vp,vb]] W λe w'=>∃b N,e=rW (.agg #[.map (some b),V N,V (aH t.fc[k])])/\Bl W w'):=λW hW=>(wU t.fc[k] vp vb W (HT.out.below Jy (J.trans (hW.mono J.size))) (hp.below hW) (hb.below hW) Jb.st Jb.nd Jb.pl (by have:=Jb.bl;omega) Jb.sz).mono (by rintro e w' ⟨b,rfl,h⟩;exact⟨b,_,rfl,h⟩);have HN:Hid ((t.fc.take (k+1)).map aH=(t.fc.take k).map aH++[aH t.fc[k]]):=(by show _=_;rw[List.take_succ_eq_append_getElem hlt,List.map_append];rfl);obtain⟨ap,cp,rfl,-⟩:=hp;obtain⟨ab,cb,rfl,-⟩:=hb;generalize aH t.fc[k]=F at O HN;generalize t.fc[k].pm.length=lp at d1 O;generalize t.fc[k].bd.length=lb at d2 O;generalize t.fc[k].nm=nm at d0 O;have Jo:((t.fc.take k).map aH).length<=1000:=(by simp;omega);generalize (t.fc.take k).map aH=l at I HN Jo;obtain⟨X,U,rfl⟩:=I.shape;have hA:∀o,Bl wr (wr.alloc o):=λo=>r_.alloc n_ o;have HR:Hid (kt w.heap.size wr (.slice X l.length U) l):=I;go_wp2_with fail;refine(O.out _ (hA _)).mono ?_;rintro e w2 ⟨bm,NN,rfl,J_⟩;have Jc:=(hA _).trans (J_.mono (hA _).size);have Jl:Bl w w2:=J.trans (Jc.mono J.size);have Jj:Hid (kt w.heap.size (w2.alloc (.cells #[V F] 2)) (.slice X l.length U) l):=(HR.out.below Jc).below (aq _ _);have H:(w2.alloc (.cells #[V F] 2)).cell? ⟨w2.heap.size,0,none⟩=some (V F):=i_
    have Jg:=Jl.size;have Xd:=Gf bm NN F;go_wp2_with(at_builtin;refine xl rfl _ _ rfl w.heap.size _ l F rfl Jj.out w2.heap.size 1 rfl H o_ (by simp;omega) ?_);intro v3 w3 Jn Jt;have Xc:Bl w w3:=(Jl.alloc Jg _).grown Jt (by simp;omega) (λg Z=>(World.ownsRow.lt Jj.out g Z).1);rw[<-HN.out]at Jn;have Jv:=ah Jn;go_wp2;go_roundw
    case rel=>exact⟨k+1,o_,by go_num,Jv,Xc⟩
    case measure=>simp[RowKit.intOf];omega
   obtain rfl:k=t.fc.length:=(by omega);rw[List.take_length,<-Ja.out]at I;obtain⟨X,U,rfl⟩:=I.shape;have HR:Hid (kt w.heap.size wr (.slice X (aV t).length U) (aV t)):=I;go_wp2;go_ret;exact⟨_,rfl,HR,J⟩
 have Ja:Hid (aV t=[]):=qn H;rw[decide_eq_false H];go_wp2;go_ret;exact⟨_,rfl,by rw[Ja.out];exact Jk,Ji⟩
end
section
open Go.RowKit
variable{t:Tr}{D:DataW Unit}{ks:List Nat}{n f b nn:Nat}{s:Int}{W:World}
structure fU (t:Tr) (D:DataW Unit) (ks:List Nat):Prop where
 map:Maps.IsMap D
 nd:ks.Nodup
 lt:∀k∈ks,k<t.fc.length
 has:∀k:Nat,Maps.has D (.int .i64 (k:Int))=decide (k∈ks)
 val:∀k∈ks,∃n s,Dp t n k s/\D.atKey (.int .i64 (k:Int)) (.lit (.int .i64 0))=.lit (.int .i64 s)
theorem fU.nil(t:Tr):fU t (.map []) []:=⟨Maps.isMap_empty,List.nodup_nil,i_,λk=>by simp[Maps.has],i_⟩
theorem fU.len(h:fU t D ks):ks.length<=t.fc.length:=by
 have:=rT ks (List.range t.fc.length) h.nd (λx hx=>List.mem_range.2 (h.lt x hx))
 simpa using this
theorem fU.put(h:fU t D ks)(H:Dp t n f s)(O:f∉ks):fU t (D.put (.int .i64 (f:Int)) (.lit (.int .i64 s))) (ks++[f]):=by
 have Ja:∀k:Nat,k≠f->(Lit.int .i64 (k:Int))≠(Lit.int .i64 (f:Int)):=λk hk e=>by
  injection e with _ e
  exact hk o_
 refine⟨h.map.put _ _,?_,?_,λk=>?_,λk hk=>?_⟩;rw[List.nodup_append];exact⟨h.nd,i_,λa ha b hb e=>by simp at hb;subst hb;subst e;exact O ha⟩;intro k hk;rcases List.mem_append.1 hk with hk|hk;exact h.lt k hk;simp at hk;subst hk;exact H.lt;by_cases e:k=f;subst e;rw[Maps.has_put_same (k:=.int .i64 (k:Int)) h.map trivial];simp;rw[Maps.has_put_other (Ja k e),h.has k];simp[e];by_cases e:k=f;subst e;exact⟨n,s,H,Maps.atKey_put_same (k:=.int .i64 (k:Int)) h.map trivial _ _⟩;have Jb:k∈ks:=by rcases List.mem_append.1 hk with hk|hk;exact hk;simp at hk;exact absurd hk e
 have⟨I,s',J,h2⟩:=h.val k Jb;exact⟨I,s',J,by rw[Maps.atKey_put_other (Ja k e)];exact h2⟩
theorem Gg(Jb:W.ownsMap prog 2 (plainElem (H:=Unit) prog 2) b nn D)(O:fU t D ks)(Z:f<=1000000)(h:f∈ks)(X:Dp t n f s):
  (Instr.lookup 286 (.map (some b)) (V (f:Int)) true).run prog W=.ok (.tuple #[V s,.bool true]) W:=by
 have⟨v,ps,Ja,J⟩:=Jb.look_ok (Maps.int_keyed underlying2) underlying286 (zeroValue2 _) (plainElem_int underlying2 d_) (Maps.keyOf_int_mk underlying2 (WalkArith.wf_i64 (n:=(f:Int)) o_));have⟨Y,s',U,h2⟩:=O.val f h;rw[h2]at J;obtain⟨c,rfl,I,_⟩:=plainElem_int_inv underlying2 J;simp only[Prod.mk.injEq,DataW.lit.injEq,Lit.int.injEq,true_and]at I;obtain⟨I,-⟩:=I;subst I;rw[O.has f,decide_eq_true h,U.one X]at Ja;exact Ja
theorem Gh(Jb:W.ownsMap prog 2 (plainElem (H:=Unit) prog 2) b nn D)(U:fU t D ks)(X:f<=1000000)(h:f∉ks):
  (Instr.lookup 286 (.map (some b)) (V (f:Int)) true).run prog W=.ok (.tuple #[V 0,.bool false]) W:=by
 have⟨v,ps,Ja,O⟩:=Jb.look_ok (Maps.int_keyed underlying2) underlying286 (zeroValue2 _) (plainElem_int underlying2 d_) (Maps.keyOf_int_mk underlying2 (WalkArith.wf_i64 (n:=(f:Int)) o_));have J:=U.has f;rw[decide_eq_false h]at J;rw[Maps.atKey_of_not_has J]at O;obtain⟨c,rfl,I,_⟩:=plainElem_int_inv underlying2 O;simp only[Prod.mk.injEq,DataW.lit.injEq,Lit.int.injEq,true_and]at I;obtain⟨I,-⟩:=I;subst I;rw[J]at Ja;exact Ja
def xn(t:Tr)(f:Nat):Int:=epsQ 0 (λs=>∃n,Dp t n f s)
theorem Dp.deep(h:Dp t n f s):xn t f=s:=by have⟨m,I⟩:=epsQs (d:=0) (p:=λs=>∃n,Dp t n f s) ⟨s,n,h⟩;exact I.one h
def dI(t:Tr):Int:=if (aL t).1=0/\∀x∈aV t,x<=2032 then xn t ((bU t.fc mainS).getD 0)else -1
theorem Gj(h:(aL t).1=0){m:Nat}(hm:bU t.fc mainS=some m)(hl:m<t.fc.length)(ha:Kh t m):∃s,Dp t t.fc.length m s:=CU hl ha t.fc.length m (.inl rfl) (LM t m)
end
section
open Go.RowKit
variable{t:Tr}
theorem C1(h:(aL t).1≠0):dI t= -1:=by unfold dI;rw[if_neg (λh'=>h h'.1)]
theorem zM(h:∃x∈aV t,2032<x):dI t= -1:=by obtain⟨x,H,I⟩:=h;unfold dI;rw[if_neg (λh'=>by have:=h'.2 x H;omega)]
theorem zN(h:(aL t).1=0)(I:∀x∈aV t,x<=2032){m:Nat}(H:bU t.fc mainS=some m):dI t=xn t m:=by unfold dI;rw[if_pos ⟨h,I⟩,H];rfl
end
section
def jQ(t:Tr):List It:=if dI t<0 then[]else(cH t t.fc.length t.fc.length).1
end
section
open Go.RowKit
variable{f:Nat}
def fromV(F G R P:Nat):Value:=.func (Fn.func 146) #[] #[pV F,pV G,pV R,pV P]
def Jc(t:Tr)(F G R P bm GG cap:Nat)(vs:Nat->Value)(vfr:Value)(w0:World):Prop:=∀w,mv bm w0 w ->
 (w.cell? ⟨F,0,none⟩=some (.map (some bm))/\w.cell? ⟨R,0,none⟩=some (fromV F G R P)/\w.cell? ⟨G,0,none⟩=some (rV GG t.fc.length cap)/\w.cell? ⟨P,0,none⟩=some vfr)/\(∀j,j<t.fc.length->w.cell? ⟨GG,j,none⟩=some (vs j)/\Ints w (vs j) (iG t.fc j))/\Ints w vfr (t.fc.map aH)
theorem mv.trans{b:Nat}{w w1 w2:World}(h:mv b w w1)(h':mv b w1 w2):mv b w w2:=⟨t_ h.1 h'.1,λB hB hn=>(h'.2 B (l_ hB h.1) hn).trans (h.2 B hB hn)⟩
def AX(t:Tr)(F G R P bm:Nat)(w0:World)(f:Nat)(s:Int):Prop:=∀(w:World) (ks:List Nat) (D:DataW Unit),mv bm w0 w->w.ownsMap prog 2 (plainElem (H:=Unit) prog 2) bm ks.length D->fU t D ks ->
 Calls prog 146 #[V (f:Int),pV F,pV G,pV R,pV P] w λe w'=>e=rW (V s)/\(mv bm w w'/\Below bm w w')/\∃ks' D',w'.ownsMap prog 2 (plainElem (H:=Unit) prog 2) bm ks'.length D'/\fU t D' ks'/\∀x∈ks',x∈ks\/x=f\/gL t f x
theorem xo(t:Tr)(f:Nat):iG t.fc f=(ld t f).map (λg:Nat=>(g:Int)):=rfl
theorem rr{t:Tr}(h:f<t.fc.length):(t.fc.map aH)[f]'(by simpa using h)=iZ t f:=by unfold iZ;simp[List.getD,h]
theorem C2(t:Tr)(F G R P bm GG cap:Nat)(vs:Nat->Value)(Ye:Value)(w0:World)(hE:Jc t F G R P bm GG cap vs Ye w0)(Yk:t.fc.length<=50)(X:∀f,f<t.fc.length->0<=iZ t f/\iZ t f<=1000000)
  (n f:Nat) (g:Nat->Int) (hn:n<=1000) (U:f<t.fc.length) (hg:∀c∈ld t f,Dp t n c (g c)) (ih:∀c∈ld t f,AX t F G R P bm w0 c (g c)):AX t F G R P bm w0 f (iZ t f+uK ((ld t f).map g)):=by
 intro w ks D Xk Ja I;have HE:=ah hE;have Jp:Dp t (n+1) f (iZ t f+uK ((ld t f).map g)):=.mk n f g U hg;have⟨Jl,Yb,Yd⟩:=h3 Jp ih Xk;have⟨⟨e1,Z,e3,e4⟩,J,hI⟩:=hE w Xk;by_cases hk:f∈ks
 ·have Jh:=Gg Ja I o_ hk Jp;have O:Hid (∃Jd D',w.ownsMap prog 2 (plainElem (H:=Unit) prog 2) bm Jd.length D'/\fU t D' Jd/\∀x∈Jd,x∈ks\/x=f\/gL t f x):=⟨ks,D,Ja,I,λx hx=>.inl hx⟩;generalize iZ t f+uK ((ld t f).map g)=s at Jh;clear Ja I Jp Jl J hI hg ih hE;go_in;go_wp2;go_ret;exact⟨rfl,⟨mv.refl _ _,r_⟩,O⟩
 have Jh:=Gh Ja I o_ hk;have HO:Hid (w.ownsMap prog 2 (plainElem (H:=Unit) prog 2) bm ks.length D/\fU t D ks):=⟨Ja,I⟩;have Xt:Hid (∀k,0<=uK (((ld t f).take k).map g)/\uK (((ld t f).take k).map g)<=1000000*n):=λk=>F0 _ _ o_ (λx hx=>by obtain⟨c,Y,rfl⟩:=List.mem_map.1 hx;exact((hg c (List.mem_of_mem_take Y)).bd X).2)
 have⟨Xp,Jm⟩:=J f U;rw[xo]at Jm;have Xs:Hid (0<=iZ t f/\iZ t f<=1000000):=X f U;obtain⟨aj,cj,Jo,-⟩:=Jm;rw[List.length_map]at Jo;have Yc:=ah Jo;rw[Jo]at Xp;have Xu:(ld t f).length<=50:=by have:=yf t.fc (t.fc.getD f ⟨⟨#[]⟩,[],[]⟩).bd;unfold ld;omega
 clear Ja I Jp hI hg ih hE J Jo;go_in;go_wp2_with fail;clear Jh e1 Z e3 e4 Xp;go_loopw[9,25] (λp i wr=>∃(k:Nat) (Jd:List Nat) (D':DataW Unit),k<=(ld t f).length/\i=.int .i64 k/\p=.int .i64 (uK (((ld t f).take k).map g))/\wr.ownsMap prog 2 (plainElem (H:=Unit) prog 2) bm Jd.length D'/\fU t D' Jd/\(∀x∈Jd,x∈ks\/gL t f x)/\mv bm w wr/\Below bm w wr) (λ_ i _=>(ld t f).length-(RowKit.intOf i).toNat)
 case atStart=>exact⟨0,ks,D,y_,rfl,rfl,HO.out.1,HO.out.2,λx hx=>.inl hx,mv.refl _ _,r_⟩
 case round=>
  obtain⟨k,Jd,D',Yf,rfl,rfl,Ja,I,Jg,Jq,Jw⟩:=hrel;have Ji:mv bm w0 wr:=Yd.out.trans Jq;have⟨⟨e1,Z,e3,e4⟩,J,hI⟩:=HE.out wr Ji;obtain⟨-,Jm⟩:=J f U;rw[xo,Yc.out]at Jm;obtain⟨Yi,Yg,J_,Js⟩:=Jm;rw[List.length_map]at J_;simp only[Value.slice.injEq,true_and]at J_;obtain⟨rfl,rfl⟩:=J_;have⟨Jx,Xd⟩:=Xt.out k;by_cases hlt:k<(ld t f).length
  ·obtain⟨b,rfl,Jj⟩:=Js (by rw[List.length_map];omega);have Y:=Jj k (by simpa using hlt);rw[List.getElem_map]at Y;have HC:=ah (Yb.out _ (g_ hlt) wr Jd D' Ji Ja I);have HN:Hid (uK (((ld t f).take (k+1)).map g)=max (uK (((ld t f).take k).map g)) (g (ld t f)[k])):=(by show _=_;rw[List.take_succ_eq_append_getElem hlt,List.map_append];exact F_ _ _);have Xe:gu t f (ld t f)[k]:=⟨U,g_ hlt⟩;have Jy:=ah Jg;clear Js Jj J hI Ja I e1 e3 e4 Jg;generalize (ld t f)[k]=c at Y HC HN Xe;have Xq:=ah Xe;clear Xe;generalize uK (((ld t f).take k).map g)=p at HN Jx Xd;generalize g c=q at HC HN;unfold fromV at Z;go_wp2_with fail;refine HC.out.mono ?_;rintro e w2 ⟨rfl,⟨Xr,Xl⟩,Jn,D2,Xn,Xm,Xg⟩;have O:Hid (w2.ownsMap prog 2 (plainElem (H:=Unit) prog 2) bm Jn.length D2/\fU t D2 Jn/\∀x∈Jn,x∈ks\/gL t f x):=⟨Xn,Xm,λx hx=>by rcases Xg x hx with h|rfl|h;exact Jy.out x h;exact .inr (.one Xq);exact .inr ((gL.one Xq).trans h)⟩
   have Jv:=Jq.trans Xr;have Xa:=Jw.trans Xl;clear Xn Xm Xg Xr Xl HC Y Z Jq Jw Ji;go_wp2;go_roundw
   case rel=>exact⟨k+1,Jn,D2,o_,by go_num,by rw[HN.out],O.out.1,O.out.2.1,O.out.2.2,Jv,Xa⟩
   case measure=>simp[RowKit.intOf];omega
  obtain rfl:k=(ld t f).length:=(by omega);rw[List.take_length]at Jx Xd⊢;have Xj:f∉Jd:=λh=>by rcases Jg f h with h|h;exact hk h;exact Dp.acyc _ Jl.out h
  have Xz:=Xs.out;obtain⟨Yh,Xv,Jt,Xh⟩:=hI;rw[List.length_map]at Jt;obtain⟨bf,rfl,Je⟩:=Xh (by rw[List.length_map];omega);have Xc:=Je f (by simpa using U);rw[rr U]at Xc;rw[Jt]at e4;have Xw:=I.len;have⟨p,hp⟩:=q_ (uK ((ld t f).map g));have⟨z,X⟩:=q_ (iZ t f);have X_:Hid (z+p=iZ t f+uK ((ld t f).map g)):=(by show _=_;rw[X,hp]);rw[<-hp]at Jx Xd Jl⊢;rw[<-X]at Xc Xz Jl;have Xx: -9223372036854775808<=z+p/\z+p<=9223372036854775807:=o_;have Xb:wr.drew.ownsMap prog 2 (plainElem (H:=Unit) prog 2) bm Jd.length D':=Ja;have Jk:=Maps.keyOf_int_mk (P:=prog) underlying2 (WalkArith.wf_i64 (n:=(f:Int)) o_);have⟨w5,Ya,Jf,Jb⟩:=Xb.update (Maps.int_keyed underlying2) underlying286 (by unfold maxLen;omega) Jk (plainElem_int (H:=Unit) underlying2 (a:=z+p) (WalkArith.wf_i64 Xx));have Xo:mv bm w0 w5:=Ji.grown Jb;have Jz:mv bm w w5:=Jq.grown Jb;have Ju:Below bm w w5:=Jw.drew.grown Jb (Nat.le_of_lt Xb.lt) (λj hj=>by cases hj;exact n_);obtain⟨⟨Yj,-,-,-⟩,-⟩:=HE.out w5 Xo;obtain⟨c,Xi,Jr,-⟩:=Jf.lookup_int (key:=.int .i64 (f:Int)) (Maps.int_keyed underlying2) underlying286 underlying2 (zeroValue2 _) Jk;have Xf:fU t (D'.put (.int .i64 (f:Int)) (.lit (.int .i64 (z+p)))) (Jd++[f]):=I.put Jl.out Xj;have Xy:c=z+p:=by rw[Maps.atKey_put_same (k:=.int .i64 (f:Int)) I.map trivial]at Jr;simp only[DataW.lit.injEq,Lit.int.injEq,true_and]at Jr;exact Jr.symm
  subst Xy;have O:Hid (∃Jd D',w5.ownsMap prog 2 (plainElem (H:=Unit) prog 2) bm Jd.length D'/\fU t D' Jd/\∀x∈Jd,x∈ks\/x=f\/gL t f x):=⟨Jd++[f],_,by rw[l_a];exact Jf,Xf,λx hx=>by rcases List.mem_append.1 hx with h|h;rcases Jg x h with h|h;exact .inl h;exact .inr (.inr h);exact .inr (.inl (by simpa using h))⟩;have k1:IntKind.i64.wrap (z+p)=z+p:=(by simp[IntKind.wrap,IntKind.bits,IntKind.signed];omega);have d1:wr.drew.cell? ⟨F,0,none⟩=some (.map (some bm)):=e1;have d4:wr.drew.cell? ⟨P,0,none⟩=some (rV bf t.fc.length Xv):=e4;have d5:wr.drew.cell? ⟨bf,f,none⟩=some (V z):=Xc;clear Ja I J Js Xh Je Jt Xb Jf Jb Jr Xf Xj Jg Z e3 Jl Jk Xo hp X;go_wp2_with fail;go_region;go_wp2;go_ret;exact⟨aC (by rw[<-X_.out];rfl),⟨Jz,Ju⟩,O⟩
theorem C3(t:Tr)(F G R P bm I cap:Nat)(H:Nat->Value)(Ja:Value)(w0:World)(J:Jc t F G R P bm I cap H Ja w0)(Jb:t.fc.length<=50)(O:∀f,f<t.fc.length->0<=iZ t f/\iZ t f<=1000000){n:Nat}{s:Int}(h:Dp t n f s):n<=1000->AX t F G R P bm w0 f s:=by
 induction h using Dp_i with
 | mk n f g hf hg ih=>exact λhn=>C2 t F G R P bm I cap H Ja w0 J Jb O n f g o_ hf hg (λc hc=>ih c hc o_)
end
section
open Go.RowKit
theorem Ints.still{w w':World}{v:Value}{l:List Int}(h:Ints w v l)(I:∀b,b<w.heap.size->w'.heap[b]? =w.heap[b]?):Ints w' v l:=by obtain⟨a,Ja,rfl,h⟩:=h;refine⟨a,Ja,rfl,λh0=>?_⟩;obtain⟨b,rfl,H⟩:=h h0;exact⟨b,rfl,λj hj=>(c_ (a:=⟨b,j,none⟩) (I b (b_ (H j hj)))).trans (H j hj)⟩
theorem s8(v:Value)(l:List Int)(w:World)(Z:l.length<=1000)(h:Ints w v l):
  Calls prog 46 #[v] w λe w'=>(∃r,e=rW (V r)/\((r= -1/\∀x∈l,x<=2032)\/(0<=r/\∃x∈l,2032<x)))/\Below w.heap.size w w':=by
 obtain⟨a,c,rfl,O⟩:=h;have U:=ah O;clear O;go_in;go_wp2;go_loopw[7] (λi wr=>∃k:Nat,k<=l.length/\i=V k/\(∀j (h:j<l.length),j<k->l[j]<=2032)/\wr=w) (λi _=>l.length-(RowKit.intOf i).toNat)
 case atStart=>exact⟨0,y_,rfl,λj _ h=>absurd h (Nat.not_lt_zero _),rfl⟩
 case round=>
  obtain⟨k,Y,rfl,Jb,rfl⟩:=hrel;have Jc:=ah Jb;clear Jb;by_cases hlt:k<l.length
  ·obtain⟨b,rfl,Ja⟩:=U.out o_;have X:=Ja k hlt;have I:Hid (l[k]∈l):=g_ hlt;have J:Hid (l[k]<=2032->∀j (h:j<l.length),j<k+1->l[j]<=2032):=λh j H hjk=>by by_cases e:j=k;subst e;exact h;exact Jc.out j H o_
   clear Ja U;generalize l[k]=z at X I J;by_cases hz:2032<z
   ·go_wp2;go_ret;exact⟨⟨_,rfl,.inr ⟨o_,z,I,hz⟩⟩,r_⟩
   go_wp2;go_roundw
   case rel=>exact⟨k+1,o_,by go_num,J.out o_,trivial⟩
   case measure=>simp[RowKit.intOf];omega
  obtain rfl:k=l.length:=(by omega);go_wp2;go_ret;exact⟨⟨_,rfl,.inl ⟨rfl,λx hx=>by obtain⟨j,H,rfl⟩:=List.getElem_of_mem hx;exact Jc.out j H H⟩⟩,r_⟩
def lsW(t:Tr)(w:World)(GG cap:Nat)(vfr:Value)(t1 t2 t3 t4:TypeId):World:=
 ((((w.alloc (.cells #[rV GG t.fc.length cap] t1)).alloc (.cells #[vfr] t2)).alloc (.map #[] 0)).alloc (.cells #[.map (some (w.heap.size+1+1))] t3)).alloc (.cells #[fromV (w.heap.size+1+1+1) w.heap.size (w.heap.size+1+1+1+1) (w.heap.size+1)] t4)
theorem LS(t:Tr)(w:World)(h cap:Nat)(Y:Nat->Value)(Ja:Value)(O J U X:TypeId)(hG:∀j,j<t.fc.length->w.cell? ⟨h,j,none⟩=some (Y j)/\Ints w (Y j) (iG t.fc j))(hI:Ints w Ja (t.fc.map aH)):
  Jc t (w.heap.size+1+1+1) w.heap.size (w.heap.size+1+1+1+1) (w.heap.size+1) (w.heap.size+1+1) h cap Y Ja (lsW t w h cap Ja O J U X)/\(lsW t w h cap Ja O J U X).ownsMap prog 2 (plainElem (H:=Unit) prog 2) (w.heap.size+1+1) 0 (.map [])/\Below w.heap.size w (lsW t w h cap Ja O J U X):=by
 have⟨W,I⟩:=q_ (lsW t w h cap Ja O J U X);rw[<-I];have hs:W.heap.size=w.heap.size+5:=by rw[I];simp[lsW]
 have hB:Bl w W:=by rw[I];exact((((aq _ _).alloc i_ _).alloc (by simp;omega) _).alloc (by simp;omega) _).alloc (by simp;omega) _
 have z0:W.cell? ⟨w.heap.size,0,none⟩=some (rV h t.fc.length cap):=by rw[I,lsW,World.cell?_alloc_past _ _ _ (by simp only[World.size_alloc];omega),World.cell?_alloc_past _ _ _ (by simp only[World.size_alloc];omega),World.cell?_alloc_past _ _ _ (by simp only[World.size_alloc];omega),World.cell?_alloc_past _ _ _ (by simp only[World.size_alloc];omega),World.cell?_alloc_at _ _ _ _ rfl];rfl
 have z1:W.cell? ⟨w.heap.size+1,0,none⟩=some Ja:=by rw[I,lsW,World.cell?_alloc_past _ _ _ (by simp only[World.size_alloc];omega),World.cell?_alloc_past _ _ _ (by simp only[World.size_alloc];omega),World.cell?_alloc_past _ _ _ (by simp only[World.size_alloc];omega),World.cell?_alloc_at _ _ _ _ (by simp only[World.size_alloc])];rfl
 have z3:W.cell? ⟨w.heap.size+1+1+1,0,none⟩=some (.map (some (w.heap.size+1+1))):=by rw[I,lsW,World.cell?_alloc_past _ _ _ (by simp only[World.size_alloc];omega),World.cell?_alloc_at _ _ _ _ (by simp only[World.size_alloc])];rfl
 have z4:W.cell? ⟨w.heap.size+1+1+1+1,0,none⟩=some (fromV (w.heap.size+1+1+1) w.heap.size (w.heap.size+1+1+1+1) (w.heap.size+1)):=by rw[I,lsW,World.cell?_alloc_at _ _ _ _ (by simp only[World.size_alloc])];rfl
 refine⟨λV hV=>?_,?_,hB⟩;have Jb:∀b,b<w.heap.size->V.heap[b]? =w.heap[b]? := λb hb=>(hV.2 b o_ o_).trans (hB.block b hb);refine⟨⟨(hV.cell (p:=⟨w.heap.size+1+1+1,0,none⟩) (by simp;omega) i_).trans z3,(hV.cell (p:=⟨w.heap.size+1+1+1+1,0,none⟩) (by simp;omega) (by simp;omega)).trans z4,(hV.cell (p:=⟨w.heap.size,0,none⟩) (by simp;omega) (by simp;omega)).trans z0,(hV.cell (p:=⟨w.heap.size+1,0,none⟩) (by simp;omega) i_).trans z1⟩,λj hj=>?_,hI.still Jb⟩;have⟨Z,h2⟩:=hG j hj;exact⟨(c_ (a:=⟨h,j,none⟩) (Jb h (b_ Z))).trans Z,h2.still Jb⟩
 rw[I,lsW];have:=World.ownsMap_made ((w.alloc (.cells #[rV h t.fc.length cap] O)).alloc (.cells #[Ja] J)) prog 2 (plainElem (H:=Unit) prog 2);simp only[Bl,World.size_alloc]at this;exact(this.alloc _).alloc _
theorem xp(t:Tr)(Je Ja:Value)(w:World)(Y:mr w Je t.fc)(J:Ints w Ja (t.fc.map aH)):
  Calls prog 87 #[Je,Ja] w λe w'=>∃F G R P bm GG cap vs,e=rW (fromV F G R P)/\Jc t F G R P bm GG cap vs Ja w'/\w'.ownsMap prog 2 (plainElem (H:=Unit) prog 2) bm 0 (.map [])/\w.heap.size<=bm/\Below w.heap.size w w':=by
 obtain⟨GG,cap,rfl,X⟩:=Y;have Jh:= @run_makeMap prog;have Ji:∀(fn:Fn) (first cap:Array Value) (w:World),(Instr.makeFunc fn first cap).run prog w=.ok (.func fn first cap) w:=λ_ _ _ _=>rfl;have Jg:∃vs:Nat->Value,∀j,j<t.fc.length->w.cell? ⟨GG,j,none⟩=some (vs j)/\Ints w (vs j) (iG t.fc j):=by
  have I:∀j,∃v,j<t.fc.length->w.cell? ⟨GG,j,none⟩=some v/\Ints w v (iG t.fc j):=λj=>by
   by_cases hj:j<t.fc.length
   have⟨v,O⟩:=X j hj;exact⟨v,λ_=>O⟩
   exact⟨.nilFunc,λh=>absurd h hj⟩
  exact⟨λj=>(I j).choose,λj hj=>(I j).choose_spec hj⟩
 obtain⟨vs,Jf⟩:=Jg;have U:=λt1 t2 t3 t4=>LS t w GG cap vs Ja t1 t2 t3 t4 Jf J;obtain⟨Z,cf,Jd,-⟩:=J;rw[List.length_map]at Jd;subst Jd;have Jb:=ah U;go_in;go_wp2_with fail;refine bodyPost_ret (v:=fromV (w.heap.size+1+1+1) w.heap.size (w.heap.size+1+1+1+1) (w.heap.size+1)) (by simp[results,results87,go_sem,fromV]) rfl ⟨_,_,_,_,_,GG,cap,vs,rfl,(Jb.out _ _ _ _).1,(Jb.out _ _ _ _).2.1,o_,(Jb.out _ _ _ _).2.2⟩
end
section
open Go.RowKit
theorem C4{W:World}{b nn:Nat}{D:DataW Unit}{I:List Fu}(Jc:W.ownsMap prog 9 (plainElem (H:=Unit) prog 2) b nn D)(O:cY D I){g:Nat}(h:bU I mainS=some g):
  (Instr.lookup 131 (.map (some b)) (sV ⟨#[109,97,105,110]⟩) false).run prog W=.ok (V (g:Int)) W:=by
 have J:mainS.size<=maxLen:=by unfold maxLen;decide
 obtain⟨c,Ja,Jb,-⟩:=Jc.lookup_int (key:=.string mainS) (Maps.string_keyed underlying9) underlying131 underlying2 (zeroValue2 _) (WideMaps.keyOf_string_mk underlying9 J);rw[O.val mainS g h]at Jb;simp only[DataW.lit.injEq,Lit.int.injEq,true_and]at Jb;rw[<-Jb]at Ja;exact Ja
theorem qu(t:Tr)(vg vf:Value)(w:World)(hT:eG w)(hs:eK t)(hw:xL t)(hg:dz w vg t.gl)(O:cF w vf t.fc):
  Calls prog 51 #[.agg #[vg,vf]] w λe w'=>e=rW (V (dI t))/\Below w.heap.size w w':=by
 have Xt:=ah λW (hW:Bl w W)=>n9 t vg vf W (hT.below hT.size hW) hs hw (hg.below hW) (O.below hW);have HS:Hid (eK t):=hs;have HW:Hid (xL t):=hw;have HF:Hid (cF w vf t.fc):=O;have Jm:=wW t;have Xz:=hs.2.1;obtain⟨ag,cg,rfl,-⟩:=hg;obtain⟨Y,cf,rfl,-⟩:=O;have hA:Bl w (w.alloc (.cells #[.slice ag t.gl.length cg,.slice Y t.fc.length cf] 63)):=aq _ _;have⟨Jp,Jc⟩:=q_ (dI t);rw[<-Jc];have Jb:=ah Jc;clear Jc;go_in;go_wp2_with fail;refine(Xt.out _ hA).mono ?_;rintro e w1 ⟨v1,rfl,Jn,Ju⟩;simp only[Bl,World.size_alloc]at Ju;have Jl:=aR Ju;have HI:Hid (Ints w1 v1 (aV t)):=pQ Jn;obtain⟨a1,c1,rfl⟩:=Jn.shape;by_cases h0:(aV t).length=0
 ·have U:Hid (Jp= -1):=by show _=_;rw[Jb.out];by_cases I:(aL t).1=0;obtain⟨m,hm,hl,-⟩:=lH I;rw[km I,List.length_map]at h0;omega;exact C1 I
  rw[h0];clear HI;go_wp2;go_ret;exact⟨aC (by rw[U.out];rfl),Jl⟩
 have Ja:0<(aV t).length:=o_;have I:(aL t).1=0:=by by_cases I:(aL t).1=0;exact I;rw[qn I]at Ja;simp at Ja
 have HC:=ah I;have⟨Xk,Xj⟩:=LL I HW;have⟨m,hm,Xl,Xr⟩:=lH I;have HM:=ah hm;have Jw:Hid (aV t=t.fc.map aH):=km I;have HZ:Hid (∀f,f<t.fc.length->0<=iZ t f/\iZ t f<=1000000):=λf O=>by
  unfold iZ;have e:t.fc.getD f ⟨⟨#[]⟩,[],[]⟩=t.fc[f]:=by simp[List.getD,O]
  rw[e];exact zG (Xj _ (g_ O))
 have⟨s,Xp⟩:=Gj I hm Xl Xr;have Jz:=ah Xp;have⟨x0,x1⟩:=wd Ju;have Jx:w.heap.size<w1.heap.size:=b_ x0;have Xa:=ah (s8 _ _ w1 o_ HI);have Xd:(((aV t).length:Int) == 0)=false:=by simp;intro h;rw[h]at Ja;simp at Ja
 have Jr:(aV t).length=t.fc.length:=by rw[Jw.out,List.length_map]
 generalize hFN:(aV t).length=n1 at Xa Xd Jr Ja⊢;have⟨Xy,Xu⟩:=h2 Jr hFN;obtain⟨X,Xx⟩:∃X:Nat,n1=X+1:=⟨n1-1,o_⟩;subst Xx;have Xv:((X:Int)+1 == 0)=false:=by simp;omega
 clear Jr hFN Jm;go_wp2_with fail;refine Xa.out.mono ?_;rintro e w2 ⟨⟨r,rfl,hr⟩,Ji⟩;have Jh:=Jl.trans (Ji.mono Jl.size);have Xo:Hid (Ints w2 (.slice a1 (X+1) c1) (t.fc.map aH)):=by
  have:=HI.out.below Ji
  rw[Xu.out,Jw.out]at this;exact this
 have y0:=(Ji.cell (p:=⟨w.heap.size,0,none⟩) Jx).trans x0;have y1:=(Ji.cell (p:=⟨w.heap.size,1,none⟩) Jx).trans x1;have Jd:w.heap.size<w2.heap.size:=b_ y0;rcases hr with⟨rfl,Jf⟩|⟨X_,Jt⟩
 ·have U:Hid (Jp=s):=by show _=_;rw[Jb.out,zN HC.out Jf HM.out];exact Jz.out.deep
  have Xe:Hid (Calls prog 88 #[.agg #[.slice ag t.gl.length cg,.slice Y t.fc.length cf]] w2 λe w'=>∃v,e=rW v/\mr w' v t.fc/\Bl w2 w'):=m7 t.fc _ _ w2 o_ ⟨_,_,_,rfl⟩ HW.out.2 HS.out.2.2 (HF.out.below Jh);clear Jf;go_wp2_with fail;refine Xe.out.mono ?_;rintro e w3 ⟨Xf,rfl,Xc,Jj⟩;have Jy:=Jh.trans (Jj.mono Jh.size);have Xb:=ah (xp t Xf _ w3 Xc (Xo.out.below Jj));have Z:=(Jj.cell (p:=⟨w.heap.size,0,none⟩) Jd).trans y0;have z1:=(Jj.cell (p:=⟨w.heap.size,1,none⟩) Jd).trans y1;have Je:w.heap.size<w3.heap.size:=b_ Z;obtain⟨Yb,Xg,rfl,-⟩:=Xc;go_wp2_with fail;refine Xb.out.mono ?_;rintro e J ⟨F,G,R,P,bm,GG,Xs,vs,rfl,hE,hO,Ya,Jk⟩;have Jo:=Jy.trans (Jk.mono Jy.size);have u0:=(Jk.cell (p:=⟨w.heap.size,0,none⟩) Je).trans Z;have u1:=(Jk.cell (p:=⟨w.heap.size,1,none⟩) Je).trans z1;have Xm:=ah hO;have Xw:Hid (AX t F G R P bm J m s):=C3 t F G R P bm GG Xs vs _ J hE Xk HZ.out Jz.out o_;have Xh:Hid (Calls prog 75 #[.agg #[.slice ag t.gl.length cg,.slice Y t.fc.length cf]] J λe w'=>∃b D,e=rW (.map (some b))/\J.heap.size<=b/\w'.ownsMap prog 9 (plainElem (H:=Unit) prog 2) b t.fc.length D/\cY D t.fc/\Bl J w'):=jj t.fc _ _ J o_ HW.out.2 (HF.out.below Jo);clear hE hO Xb Z z1 Jk;unfold fromV;go_wp2_with fail;refine Xh.out.mono ?_;rintro e w5 ⟨bn,D,rfl,Yc,Jq,hN,Js⟩;have Jg:=C4 Jq hN HM;have Xq:=Jo.trans (Js.mono Jo.size);have Jv:=ah (Xw.out w5 [] (.map []) ((mv.refl _ _).below Js) (dM Xm.out Js) (fU.nil t));have Xi:w.heap.size<=bm:=o_;go_wp2_with fail;refine Jv.out.mono ?_;rintro e w6 ⟨rfl,⟨-,J_⟩,-⟩;have Xn:Bl w w6:=Xq.trans (J_.mono Xi);clear Jv Jg J_;go_wp2;go_ret;exact⟨aC (by rw[U.out];rfl),Xn⟩
 have U:Hid (Jp= -1):=by show _=_;rw[Jb.out];exact zM Jt
 have Jn:(r == -1)=false:=by simp;omega
 go_wp2;go_ret;exact⟨aC (by rw[U.out];rfl),Jh⟩
end
