import Derived.Laws.EntriesVeiled
import Derived.Deep.CutRange
import Derived.Test.YtjfmapphpijneaaGreatDoorS59
import Derived.Test.YtjfmapphpijneaaGreatDoorS46
import Derived.Test.YtjfmapphpijneaaGreatDoorS47
import Derived.Test.YtjfmapphpijneaaGreatDoorS93
namespace Go.Proofs.YtjfmapphpijneaaGreatDoor
set_option linter.all false
set_option maxRecDepth 100000
set_option maxHeartbeats 0
open Go.World List
variable[Inhabited Pick]
section
open Go.Proofs.Tryz
section
open Go.RowKit
def I2(a b c d:BY)(W:AT):(Instr.index 122 (.agg #[a,b,c,d]) (V 0)).run prog W=.ok a W:=by kernel_rfl
def I3(a b c d:BY)(W:AT):(Instr.index 122 (.agg #[a,b,c,d]) (V 1)).run prog W=.ok b W:=by kernel_rfl
def I4(a b c d:BY)(W:AT):(Instr.index 122 (.agg #[a,b,c,d]) (V 2)).run prog W=.ok c W:=by kernel_rfl
def I5(a b c d:BY)(W:AT):(Instr.index 122 (.agg #[a,b,c,d]) (V 3)).run prog W=.ok d W:=by kernel_rfl
theorem xG(t:Tr)(vg vf:BY)(w:AT)(hT:gF w)(hs:eQ t)(hw:yq t)(hg:cD w vg t.gl)(hf:bj w vf t.fc):
  Calls prog 35 #[.agg #[vg,vf]] w λe w'=>e=rW (fR (aQ t).1 (aQ t).2.1 (aQ t).2.2)/\Bl w w':=by
 have⟨Jn,Jk⟩:=q_ (aQ t);rw[<-Jk];have⟨Jb,HT,HS,HW,HG,HF⟩:=h6 Jk hT hs hw hg hf;obtain⟨U,Z,rfl,-⟩:=hg;obtain⟨I,J,rfl,-⟩:=hf;have Yo:∀(fn:Fn) (first cap:Array BY) (w:AT),(Instr.makeFunc fn first cap).run prog w=.ok (.func fn first cap) w:=λ_ _ _ _=>rfl;clear hT hs hw Jk;go_in;go_wp2_with fail;have⟨W0,Jc⟩:=q_ ((w.alloc (.cells #[.slice U t.gl.length Z,.slice I t.fc.length J] 26)).alloc (.cells #[nV,.slice U t.gl.length Z,.slice I t.fc.length J,.map none,.map none,V (-1),V (-1)] 119));have⟨T0,Jo⟩:=q_ w.heap.size;have⟨C,hC⟩:=q_ (w.heap.size+1);have Jl:Bl w W0:=by rw[Jc];exact(ao _ _).alloc i_ _
 have a0:W0.cell? ⟨T0,0,none⟩=some (.slice U t.gl.length Z):=by rw[Jc,Jo,cell?_alloc_lt _ _ ⟨w.heap.size,0,none⟩ i_];simp
 have a1:W0.cell? ⟨T0,1,none⟩=some (.slice I t.fc.length J):=by rw[Jc,Jo,cell?_alloc_lt _ _ ⟨w.heap.size,1,none⟩ i_];simp
 have Xv:∀o,W0.cell? ⟨C,o,none⟩=(#[nV,.slice U t.gl.length Z,.slice I t.fc.length J,.map none,.map none,V (-1),V (-1)]:Array BY)[o]? := λo=>by rw[Jc];exact cell?_alloc_at _ _ _ _ (by simp[hC])
 have Xo:∀o,W0.frozen? ⟨C,o,none⟩=false:=λo=>by rw[Jc];exact frozen?_alloc_at _ _ _ _ (by simp[hC])
 have⟨Jf,Xt⟩:=h2 Xv Xo;have Jv:C<W0.heap.size:=by rw[Jc,hC];simp
 have Jy:T0<W0.heap.size:=by rw[Jc,Jo];simp;omega
 have Yp:T0≠C:=o_;have Xq:w.heap.size<=C:=o_;rw[<-Jc,<-hC,<-Jo];clear Jc hC Jo Xv Xo;refine(Al t _ _ _ (HT.o.below HT.o.size Jl) HS (HG.o.below Jl) (HF.o.below Jl)).mono ?_;rintro e w1 ⟨rfl,Jh⟩;have b0:=(Jh.cell (p:=⟨T0,0,none⟩) Jy).trans a0;have b1:=(Jh.cell (p:=⟨T0,1,none⟩) Jy).trans a1;have Jr:Bl w w1:=Jl.trans (Jh.mono Jl.size);have Ju:=ah λo=>(Jh.cell (p:=⟨C,o,none⟩) Jv).trans (Jf o);have Xk:Hid (∀o,w1.frozen? ⟨C,o,none⟩=false):=λo=>(Jh.frozen (p:=⟨C,o,none⟩) Jv).trans (Xt o);have Xi:C<w1.heap.size:=l_ Jv Jh.size;have Yq:T0<w1.heap.size:=l_ Jy Jh.size;clear Jh a0 a1 Jf Xt Jv Jy Jl;cases htb:cM t with
 | false=>have HE:Hid (Jn=(1,-1,-1)):=Jb.o.trans (ku htb);clear htb;go_wp2_with fail;refine(dJ C 1 (-1) (-1) _ (Ju 5) (Ju 6)).mono ?_;rintro e w5 ⟨rfl,hw⟩;rw[hw];clear hw;go_wp2;go_ret;exact⟨aD (by rw[HE.o];rfl),Jr⟩
 | true=>
  have HB:=ah htb;have Jt:=JO htb HS HW;have Ji:=ah Jt;have Yj:=Jt.fl;have Yh:=Jt.gl;clear htb Jt;go_wp2_with fail;refine(j6 t.fc _ _ _ o_ Ji.o.wf (HF.o.below Jr)).mono ?_;rintro e w2 ⟨bn,D,rfl,Yc,Jq,hN,Jp⟩;have Xn:Bl w w2:=Jr.trans (Jp.mono Jr.size);have Je:=ah λo=>(Jp.cell (p:=⟨C,o,none⟩) Xi).trans (Ju o);have Xg:Hid (∀o,w2.frozen? ⟨C,o,none⟩=false):=λo=>(Jp.frozen (p:=⟨C,o,none⟩) Xi).trans (Xk o);have Xa:C<w2.heap.size:=l_ Xi Jp.size;have Yb:C<bn:=o_
  have⟨Xh,HN⟩:=h2 Jq hN;have q3:w2.cell? ⟨C,3,none⟩=some (.map none):=Je 3;have qf:=Xg 3;clear Jp Jq hN Yc b0 b1 Ju Xk;have i0:=I2;have i1:=I3;have i2:=I4;have i3:=I5;go_wp2_with fail;have⟨W4,Jj⟩:=q_ ((w2.setCell ⟨C,3,none⟩ (.map (some bn))).alloc (.cells #[.func (.func 60) #[pV C] #[],.func (.func 61) #[pV C] #[],.func (.func 62) #[pV C] #[],.func (.func 63) #[pV C] #[]] 122));have Xm:Hid (JH w C bn t.fc.length D t (.slice U t.gl.length Z) (.slice I t.fc.length J) W4):=by
   have Ja:∀o,o≠3->W4.cell? ⟨C,o,none⟩=w2.cell? ⟨C,o,none⟩:=λo ho=>by rw[Jj,cell?_alloc_lt _ _ ⟨C,o,none⟩ (IN Xa)];exact s_ _ _ _ _ (bV (λe=>ho e.symm))
   have h3:W4.cell? ⟨C,3,none⟩=some (.map (some bn)):=by rw[Jj,cell?_alloc_lt _ _ ⟨C,3,none⟩ (IN Xa)];exact cell?_setCell_same _ _ _ q3
   have Ya:Bl w W4:=by rw[Jj];exact(Xn.setCell (p:=⟨C,3,none⟩) Xq _).alloc (by have:=Xn.size;simpa using this) _
   exact⟨(Ja 0 d_).trans (Je 0),(Ja 1 d_).trans (Je 1),(Ja 2 d_).trans (Je 2),h3,⟨_,(Ja 4 d_).trans (Je 4)⟩,(Ja 5 d_).trans (Je 5),(Ja 6 d_).trans (Je 6),λo=>by rw[Jj,frozen?_alloc_past _ _ _ (IN Xa)];simpa using Xg.o o,Xq,Ya,⟨HF.o,HG.o⟩,aR Xh.o (by rw[Jj,Below.heap_alloc _ _ _ (by have:=Xh.o.lt;simpa using this),Below.heap_setCell _ _ _ bn (λh=>by simp at h;omega)]),HN.o,Yb⟩
  refine wp_loop_rounds 5 ?_;rw[rounds_succ];go_wp2_with fail;rw[<-Jj];obtain⟨E,hE⟩:∃E:nQ,E=⟨w,C,W4.heap.size+1,bn,t.fc.length,D,t,.slice U t.gl.length Z,.slice I t.fc.length J,λ_=>none,λ_=>false,0⟩:=⟨_,rfl⟩;have Xf:Hid (Calls prog 60 #[pV C] W4 λe w'=>e=rW (fR (ir t).1 (ir t).2.1 (ir t).2.2) /\
   ∃gf' ng' v bt tk fn st,Cs {E with gf:=gf',ng:=ng'} w' [] [] v bt tk fn st/\((ir t).1=0->gf'=dz t.gl/\ng'<=1000/\fn= -1/\st= -1)):=by
   subst hE;exact JI (E:=⟨w,C,W4.heap.size+1,bn,t.fc.length,D,t,.slice U t.gl.length Z,.slice I t.fc.length J,λ_=>none,λ_=>false,0⟩) (w:=W4) Xm rfl rfl rfl rfl (by show t.gl.length<=_;omega) (by show t.fc.length<=_;omega) Ji.o.g Ji.o.fn
  have Jm:=ah hE;clear Jj hE Xm Je Xg Xh q3 qf;refine Xf.o.mono ?_;rintro e w5 ⟨rfl,Yl,Xs,v5,Ye,Yg,Yf,Yd,Jx,Xe⟩;have Jw:Bl w w5:=by have:=Jx.base;rw[Jm.o]at this;exact this
  by_cases hz:(ir t).1=0
  ·obtain⟨rfl,Xb,rfl,rfl⟩:=Xe hz;rw[hz,dX];have⟨HZ,Xd⟩:=h2 hz Jx;clear hz Xe Jx;go_wp2_with fail;rw[rounds_succ];go_wp2_with fail;have Xx:Hid (Calls prog 61 #[pV C] w5 λe w'=>e=rW (fR (my t) (-1) (-1))/\Bl w5 w'):=by have h:=Xd;have hb:=h.box;have hf:=h.fun0.1.below h.base;rw[Jm.o]at hb hf;have h1:=h.own;have h2:=h.num;rw[Jm.o]at h1 h2;exact Aw C bn t.fc.length D t (-1) (-1) _ w5 hb.c2 hb.c3 hb.c5 hb.c6 h1 h2 o_ hf
   refine Xx.o.mono ?_;rintro e w6 ⟨rfl,Xc⟩;have Xl:=ah (Xd.o.below Xc);have Xp:Bl w w6:=Jw.trans (Xc.mono Jw.size);clear Xc Xd Xx Jw;by_cases hz:my t=0
   ·rw[hz,dX];have⟨m,hm⟩:=qM hz;have HM:=ah hm;have Xz:Hid ((bJ t).1=0):=(by show _=_;rw[iZ HZ.o];exact hz);clear hz hm HZ;go_wp2_with fail;rw[rounds_succ];go_wp2_with fail;have Xr:Hid (Calls prog 62 #[pV C] w6 λe w'=>e=rW (fR (bodiesE t 0 t.fc).1 (bodiesE t 0 t.fc).2.1 (bodiesE t 0 t.fc).2.2) /\
   ∃g' v' bt' tk' fn' st',Cs {E with gf:=dz t.gl,ng:=Xs,gp:=g'} w' [] [] v' bt' tk' fn' st'/\((bodiesE t 0 t.fc).1=0->fn'= -1/\st'= -1)):=by have h:=Xl;have he:=Jm;subst he;exact xD (E:= {w0:=w,C:=C,bg:=W4.heap.size+1,bn:=bn,nn:=t.fc.length,D:=D,t:=t,vg:=.slice U t.gl.length Z,vf:=.slice I t.fc.length J,gf:=dz t.gl,gp:=λs=>decide (0<=globI t.gl s),ng:=Xs}) (g0:=λ_=>false) h Xb rfl rfl (λg hg=>(Ji.o.g g hg).2.1) (by show t.fc.length<=_;omega) Ji.o.f
    refine Xr.o.mono ?_;rintro e w7 ⟨rfl,g7,v7,Yn,Yi,Ym,Yk,Js,J_⟩;have Xw:Bl w w7:=(by have:=Js.base;rw[Jm.o]at this;exact this);clear Xl Xr Xp;by_cases hz:(bodiesE t 0 t.fc).1=0
    ·obtain⟨rfl,rfl⟩:=J_ hz;rw[hz,dX];have Xj:=ah Js;have X_:Hid (Jn=dy t m 0 t.fc.length):=Jb.o.trans (iX HB Xz hz HM);clear hz J_ Js Jb;go_wp2_with fail;rw[rounds_succ];go_wp2_with fail;have Xy:Hid (Calls prog 63 #[pV C] w7 λe w'=>e=rW (fR (dy t m 0 t.fc.length).1 (dy t m 0 t.fc.length).2.1 (dy t m 0 t.fc.length).2.2)/\Bl w w'):=by have h:=Xj;have he:=Jm;subst he;exact C3 h m HM (by show t.fc.length<=_;omega) Ji.o.wf Ji.o.sm
     refine Xy.o.mono ?_;rintro e w8 ⟨rfl,Xu⟩;rw[<-X_.o];clear Xj Xy Xw;by_cases hz:Jn.1=0
     ·rw[hz,dX];have Jz:=ah hz;clear hz;go_wp2_with fail;rw[rounds_succ];go_wp2;go_ret;exact⟨aD (by rw[Jz.o];rfl),Xu⟩
     rw[cE hz];have Jz:=ah hz;clear hz;go_wp2;go_ret;exact⟨aD (by rw[cE Jz.o];rfl),Xu⟩
    have Jg:Hid (Jn=bodiesE t 0 t.fc):=Jb.o.trans (gH HB Xz hz);have Jd:=ah hz;rw[cE hz];generalize bodiesE t 0 t.fc=z at Jg Jd⊢;clear hz J_ Js;go_wp2;go_ret;exact⟨aD (by rw[Jg.o,cE Jd.o];rfl),Xw⟩
   have Jg:Hid (Jn=(my t,-1,-1)):=by show _=_;have:=iZ HZ.o;rw[Jb.o,gu HB.o (by rw[this];exact hz),this]
   have Jd:=ah hz;rw[cE hz];generalize my t=z at Jg Jd⊢;clear hz;go_wp2;go_ret;exact⟨aD (by rw[Jg.o,cE Jd.o];rfl),Xp⟩
  have Jg:Hid (Jn=ir t):=by show _=_;have:=lL hz;rw[Jb.o,gu HB.o (by rw[this];exact hz),this]
  have Jd:=ah hz;rw[cE hz];generalize ir t=z at Jg Jd⊢;clear hz Xe Jx;go_wp2;go_ret;exact⟨aD (by rw[Jg.o,cE Jd.o];rfl),Jw⟩
end
section
open Go.RowKit
def lW(t:Tr)(vg vf:BY)(w:AT)(hT:gF w)(hs:eQ t)(hw:yq t)(hg:cD w vg t.gl)(Z:bj w vf t.fc):
  Calls prog 15 #[.agg #[vg,vf]] w λe w'=>e=rW (.bool (decide ((aQ t).1=0)))/\Bl w w':=by
 obtain⟨x,y,z,J⟩:∃x y z,aQ t=(x,y,z):=⟨_,_,_,rfl⟩;obtain⟨ag,cg,rfl,-⟩:=id hg;obtain⟨af,cf,rfl,-⟩:=id Z;have I:∀o,Bl w (w.alloc o):=λo=>r_.alloc n_ o;have U:Hid (∀W,Bl w W->Calls prog 35 #[.agg #[.slice ag t.gl.length cg,.slice af t.fc.length cf]] W λe w'=>e=rW (fR x y z)/\Bl W w'):=λW hW=>by
  have:=xG t _ _ W (hT.below hT.size hW) hs hw (hg.below hW) (Z.below hW)
  rw[J]at this;exact this
 rw[J];simp only;by_cases hz:x=0
 ·subst hz;rw[decide_eq_true rfl];go_in;go_wp2_with fail;refine(U _ (I _)).mono ?_;rintro e w1 ⟨rfl,Jb⟩;rw[dX];have Ja:=(I _).trans (Jb.mono (I _).size);go_wp2;go_ret;exact⟨rfl,Ja⟩
 rw[decide_eq_false hz];go_in;go_wp2_with fail;refine(U _ (I _)).mono ?_;rintro e w1 ⟨rfl,Jb⟩;rw[cE hz];have Ja:=(I _).trans (Jb.mono (I _).size);go_wp2;go_ret;exact⟨rfl,Ja⟩
end
section
variable{t:Tr}
theorem uY(h:(aQ t).1=0):cM t=true:=by
 cases hb:cM t with
 | true=>rfl
 | false=>rw[ku hb]at h;cases h
def xH(h:(aQ t).1=0):∃m,a_ t.fc dt=some m/\m<t.fc.length/\JD t m:=by
 have J:=uY h;by_cases hn:(bJ t).1=0
 have⟨m,I⟩:=iC hn;have Ja:m<t.fc.length:=dE I;refine⟨m,I,Ja,?_⟩;by_cases hz:(bodiesE t 0 t.fc).1=0
 rw[iX J hn hz I]at h;intro x hx;have Jb:x<t.fc.length:=(by rcases hx with rfl|hx;exact Ja;exact hx.lt);exact oJ t.fc.length 0 h x y_ o_ hx;rw[gH J hn hz]at h;exact absurd h hz;rw[gu J hn]at h;exact absurd h hn
end
end
section
open Go.RowKit
section
variable{t:Tr}
def uZ(h:(aQ t).1=0){m:Nat}(I:a_ t.fc dt=some m):∀hl:m<t.fc.length,([]:List Int).length=t.fc[m].pm.length:=λhl=>by
 obtain⟨-,h1,-⟩:=dA h;unfold bJ at h1;rw[I]at h1;split at h1;simp at h1;split at h1;simp at h1;simp only at h1;have e:t.fc.getD m ⟨⟨#[]⟩,[],[]⟩=t.fc[m]:=(by simp[List.getD,hl]);rw[e]at h1;split at h1;simp at h1
 simp;omega
def EvA(r:ER)(s':ES)(F:Int)(w:AT)(e:Ending)(w':AT):Prop:=∃vO,e=rW (.agg #[V (Ju r),vO,V (dg r),V (F-s'.u),V s'.d])/\w'.ownsRow w.heap.size 2 1 vO s'.o.length (s'.o.map (Value.int .i64))/\Bl w w'
end
structure Du (t:Tr) (i fr:List Int) (F:Int):Prop where
 ck:(aQ t).1=0
 il:i.length<=1000
 iw:i.all jl=true
 fu:0<=F/\F<=100000
 fl:fr.length=t.fc.length
 fb:fr.all CY=true
end
open Go.Proofs.Tryz Go.RowKit
def fH{w w':AT}{v:BY}{l:List Int}(h:nL w v l)(U:Bl w w'):nL w' v l:=by obtain⟨a,c,rfl,J,h2,h3⟩:=h;refine⟨a,c,rfl,J,h2,λhn=>?_⟩;obtain⟨b,Ja,rfl,I⟩:=h3 hn;exact⟨b,Ja,rfl,λj hj=>(U.cell (p:=⟨b,_,none⟩) (b_ (I j hj))).trans (I j hj)⟩
section
variable{t:Tr}{n:Nat}{s':ES}{r:ER}{l:List Int}
theorem Eo{l:List St}{s:St}(h:s∈l):s.e.length+s.f.length<=aK l:=by
 induction l with
 | nil=>cases h
 | cons x r ih=>
  simp only[aK];rcases mem_cons.1 h with rfl|h;omega
  have:=ih h;omega
def yb(h:(aQ t).1=0):t.gl.length<=50/\t.fc.length<=50/\(∀g∈t.gl,(0<=g.size/\g.size<=4000)/\g.nm.size<=maxLen)/\∀f∈t.fc,bw f.bd=true/\(∀s∈f.bd,stmtB s=true/\s.e.length<=2000/\s.f.length<=2000)/\f.bd.length<=1000:=by
 have I:=(dA h).1;simp only[cM,J1,J2,all_eq_true]at I;obtain⟨Z,q2,q3,U⟩:=I;refine⟨Z,q2,λg hg=>?_,λf hf=>?_⟩
 have:=q3 g hg
 unfold dD at this;simp only[J1,J2]at this;exact⟨this.2,by have J:=this.1;simp only[bh,J2]at J;have:=J.2.1;unfold maxLen;omega⟩
 have:=U f hf
 simp only[cC,J1,J2,stmtsB,all_eq_true]at this;obtain⟨-,-,p3,-,⟨p5,p6⟩,p7⟩:=this;exact⟨p7,λs hs=>⟨p6 s hs,Ka (Eo hs),Ka (Eo hs)⟩,o_⟩
def Ir{w:AT}{B J size:Nat}{e:JZ}{v:BY}{U:List BY}(h:w.ownsRow B e size v n U)(hb:J<=B):w.ownsRow J e size v n U:=by obtain⟨I,h|⟨g,Jb,Ja,rfl,Z,h2,h3⟩⟩:=h;exact⟨I,.inl h⟩;exact⟨I,.inr ⟨g,Jb,Ja,rfl,t_ hb Z,h2,h3⟩⟩
theorem Ep{fr:List Int}{f:Nat}{vs:List Int}{s:ES}(h:Ev t fr n (.c f vs) s r s'):∀v,r ≠ .ret v:=by
 cases h using Ev_i with
 | run n f vs z hf r z' h1=>cases r using ER.cs <;> simp[ER.back]
def F9(h:l.all CY=true):∀x∈l,0<=x/\x<=1000000000:=λx hx=>by
 have:=all_eq_true.1 h x hx
 unfold CY at this;simp only[J2]at this;omega
def Ga(h:l.all jl=true):∀x∈l,d7 x:=λx hx=>by have:=all_eq_true.1 h x hx;unfold jl at this;unfold d7;simpa using this
theorem ye(t:Tr)(vg vf vI Jh:BY)(i fr:List Int)(F:Int)(w:AT)(hT:gF w)(hs:eQ t)(hw:yq t)(hg:cD w vg t.gl)(hf:bj w vf t.fc)(hI:nL w vI i)(Js:nL w Jh fr)(Ja:Du t i fr F){m:Nat}(hm:a_ t.fc dt=some m)(Jt:Ev t fr n (.c m []) (sL t i F) r s'):
  Calls prog 9 #[.agg #[vg,vf],vI,V F,Jh] w λe w'=>EvA r s' F w e w':=by
 have⟨W1,Jj⟩:=q_ ((w.alloc (.cells #[vg,vf] 26)).alloc (.cells #[V 0,nV,V 0,V 0,V 0] 36));have⟨B,hB⟩:=q_ w.heap.size;have Jw:Bl w (w.alloc (.cells #[vg,vf] 26)):=ao _ _;have Xd:Bl w W1:=by rw[Jj];exact Jw.alloc Jw.size _
 have Xn:aN W1 B [vg,vf]:=by rw[Jj,hB];exact(aI w #[vg,vf] 26 i_).below (ao _ _)
 have Xm:aN W1 (B+1) [V 0,nV,V 0,V 0,V 0]:=by rw[Jj,hB];have:=aI (w.alloc (.cells #[vg,vf] 26)) #[V 0,nV,V 0,V 0,V 0] 36 i_;rw[J9]at this;exact this
 have Xl:B+1<W1.heap.size:=by rw[Jj,hB,J9,J9];omega
 have Jc:∀X,Bl W1 X->Bl w X:=λX I=>Xd.trans (I.mono Xd.size);have Yj:Hid (∀X,Bl W1 X->Calls prog 26 #[vI] X λe w'=>e=rW (.bool true)/\w'=X):=λX I=>by
  have:=pF vI i X (fH hI (Jc X I))
  rw[decide_eq_true Ja.il,Ja.iw]at this;exact this
 have Xk:Hid (∀X,Bl W1 X->Calls prog 27 #[.agg #[vg,vf],Jh] X λe w'=>e=rW (.bool true)/\Bl X w'):=λX I=>by
  have:=mZ vg vf Jh t.fc fr X (hf.below (Jc X I)) (by obtain⟨a,c,e,-⟩:=hg;exact⟨a,_,c,e⟩) (fH Js (Jc X I))
  rw[decide_eq_true Ja.fl,Ja.fb]at this;exact this
 have Yc:Hid (∀X,Bl W1 X->Calls prog 15 #[.agg #[vg,vf]] X λe w'=>e=rW (.bool true)/\Bl X w'):=λX I=>by
  have:=lW t vg vf X (hT.below hT.size (Jc X I)) hs hw (hg.below (Jc X I)) (hf.below (Jc X I))
  exact this.mono λe w' h=>⟨by rw[h.1,decide_eq_true Ja.ck],h.2⟩
 have⟨Yg,Yh,Jy,Xi⟩:=yb Ja.ck;have Xj:=ah λX (I:Bl W1 X)=>El t vg vf vI Jh F X o_ o_ hw.2 (hf.below (Jc X I)) (hg.below (Jc X I)) (hT.below hT.size (Jc X I)) Xi (λg hg=>(Jy g hg).1) (λg hg=>(Jy g hg).2) (vR Ja.ck) (by obtain⟨a,c,e,-⟩:=hI;exact⟨a,_,c,e⟩) (by obtain⟨a,c,e,-⟩:=Js;exact⟨a,_,c,e⟩);have Ys:=dE hm;have Yo:Hid (∀X,Bl W1 X->∀ {W Wm:AT} {vB:BY} {B0 P bN bM:Nat} {gb:List Nat} {S:Ft},tH X t vg vf vI F Jh B0 P bN bM t.gl.length gb Wm->Ek t vg vf vI F Jh P bN bM Wm t.fc.length vB S W->∃bB cB,(startC X W t fr vg vf Jh P bN bM bB cB S gb).Ok/\IS (startC X W t fr vg vf Jh P bN bM bB cB S gb) W none vI nV (sL t i F)):=λX I {W Wm vB B0 P bN bM gb S} h1 h2=>Em h1 h2 (hf.below (Jc X I)) (fH Js (Jc X I)) (fH hI (Jc X I)) Ja.ck Ja.fl (F9 Ja.fb) ⟨o_,o_⟩ o_ Ja.fu (Ga Ja.iw);have Ym:Hid (∀ {C:IC},C.t=t->C.fr=fr->C.Ok->∀W,IS C W none vI nV (sL t i F)->Calls prog 29 #[pV C.P,V (m:Int),nV] W λx w'=>kH C W none nV r s' x w'):=λ{C} e1 e2 hC W h=>by subst e1;subst e2;exact BA hC Ja.fu h Jt (λhl=>J3 (uZ Ja.ck hm hl).symm)
 have Yb:Hid (pE (cH r)=Ju r):=En Jt (Ep Jt);have Yi:=ah hm;have hF:=Ja.fu;obtain⟨ag,cg,rfl,-⟩:=hg;obtain⟨af,cf,rfl,-⟩:=hf;obtain⟨ai,ci,rfl,-⟩:=hI;obtain⟨ar,cr,rfl,-⟩:=Js;have⟨Xy,Yn,Jr,Ya,HB,Yk⟩:=h6 Xn Xm Jc Jj hB Xl;clear hT hs hw Ja Jj hB Jw Xd Xn Xm Jc hm Jt Yg Yh Jy Xi Xl;go_in;go_upto_region 1 with fail;rw[<-Ya.out,<-HB.out];have HX:∀X,Bl W1 X->Hid (aN X B [.slice ag t.gl.length cg,.slice af t.fc.length cf]/\aN X (B+1) [V 0,nV,V 0,V 0,V 0]/\Bl w X):=λX I=>⟨Xy.out.below I,Yn.out.below I,Jr X I⟩;have Xb:=HX W1 r_;have x0:=(Xb.out.1 0 _ rfl).1;have x1:=(Xb.out.1 1 _ rfl).1;obtain⟨Yq,Yw⟩:=hF;have Y_:¬F<0:=o_
 have Yv:¬100000<F:=o_;go_wp2_with fail;refine(Yj W1 r_).mono ?_;rintro e w2 ⟨rfl,Xo⟩;rw[Xo];go_wp2_with fail;refine(Xk W1 r_).mono ?_;rintro e w2 ⟨rfl,Jp⟩;have U:=HX w2 Jp;clear x0 x1 Xb Xk;have x0:=(U.out.1 0 _ rfl).1;have x1:=(U.out.1 1 _ rfl).1;go_wp2_with fail;refine(Yc w2 Jp).mono ?_;rintro e w3 ⟨rfl,Je⟩;have Je:=Jp.trans (Je.mono Jp.size);have Xh:=HX w3 Je;have x0:=(Xh.out.1 0 _ rfl).1;have x1:=(Xh.out.1 1 _ rfl).1;go_wp2_with fail;refine(Xj w3 Je).mono ?_;clear Xj x0 x1;rintro e w4 ⟨B0,P,bN,bM,gb,Wm,vB,S,rfl,Ye,Yl⟩;have⟨bB,cB,hC,Jz⟩:=Yo w3 Je Ye Yl;have⟨HC,Xt⟩:=h2 hC Jz;have Jm:=Ym (C:=startC w3 w4 t fr (.slice ag t.gl.length cg) (.slice af t.fc.length cf) (.slice ar fr.length cr) P bN bM bB cB S gb) rfl rfl hC w4 Jz;have Ji:=ah Jm;have y2:=(Jz.box 2 _ rfl).1;have⟨nN,D,Xc,Jx⟩:=hC.num;have Xr:(Instr.lookup 67 (.map (some bN)) (sV ⟨#[109,97,105,110]⟩) false).run prog w4=.ok (V (m:Int)) w4:=ki Xc Jx d_ Yi;have Yf:w4.cell? ⟨P,2,none⟩=some (.map (some bN)):=y2;go_wp2_with fail;refine Ji.out.mono ?_;rintro e w5 ⟨Yz,Yp,rfl,Jb,Xf,Xp⟩;have Jl:=Jb.out;obtain⟨oa,Z,rfl⟩:∃a c,Yp=.slice a s'.o.length c:=by obtain⟨g1,g2⟩:=Jl;rcases g2 with⟨h,h'⟩|⟨g,Yy,Yr,h,-⟩;rw[h,h'];exact⟨_,_,rfl⟩;exact⟨_,_,h⟩
 have Xa:=Xf.size;unfold lB;have⟨W6,Jk⟩:=q_ (w5.alloc (.cells #[V (cH r),V (dg r)] 65));have⟨M,hM⟩:=q_ w5.heap.size;obtain⟨-,-,Xz,Xu,Xg⟩:=HC.out.pg;have Jd:Bl w3 w4:=HC.out.bel;have X_:w3.heap.size<=P:=Xz;have Xx:P<w4.heap.size:=Xu;have Jg:Bl w3 w5:=Jb.tc.below Jd Jd.size (λk hk=>by rcases hk with h|h;have h':k=P:=h;omega;exact(Xg k h).1);have Jq:Bl w5 W6:=by rw[Jk];exact r_.alloc n_ _
 have Jo:Bl w3 W6:=Jg.trans (Jq.mono Jg.size);have Jf:Bl W1 W6:=Je.trans (Jo.mono Je.size);have U:=HX W6 Jf;have Jn:=Jb.box.below Jq;have Jv:aN W6 M [V (cH r),V (dg r)]:=by rw[Jk,hM];exact aI w5 _ _ i_
 obtain⟨J,J_⟩:∃J:Int,J=(s'.u:Int):=⟨_,rfl⟩;have Yd:0<=J/\J<=100000:=Ka Jb.uu.1;rw[<-J_]at Jn;have p7:W6.cell? ⟨P,7,none⟩=some (.slice oa s'.o.length Z):=(Jn 7 _ rfl).1;have p8:W6.cell? ⟨P,8,none⟩=some (V J):=(Jn 8 _ rfl).1;have Yx:W6.cell? ⟨P,11,none⟩=some (V s'.d):=(Jn 11 _ rfl).1;have m0:=(Jv 0 _ rfl).1;have m1:=(Jv 1 _ rfl).1;have⟨y0,z0⟩:=U.out.2.1 0 _ rfl;have⟨y1,z1⟩:=U.out.2.1 1 _ rfl;have⟨y2,z2⟩:=U.out.2.1 2 _ rfl;have⟨y3,z3⟩:=U.out.2.1 3 _ rfl;have⟨y4,z4⟩:=U.out.2.1 4 _ rfl;have Yu:IntKind.i64.wrap (F-J)=F-J:=by simp[IntKind.wrap,IntKind.bits,IntKind.signed];omega
 have Xs:B+1<w3.heap.size:=l_ Yk Je.size;have nP:¬B+1=P:=o_;have nM:¬B+1=M:=Ka Jg.size;have Xe:Hid (∀X,X=(((((W6.setCell ⟨B+1,0,none⟩ (V (pE (cH r)))).setCell ⟨B+1,1,none⟩ (.slice oa s'.o.length Z)).setCell ⟨B+1,2,none⟩ (V (dg r))).setCell ⟨B+1,3,none⟩ (V (F-J))).setCell ⟨B+1,4,none⟩ (V s'.d)).drew->(X.cell? ⟨B+1,0,none⟩=some (V (pE (cH r)))/\X.cell? ⟨B+1,1,none⟩=some (.slice oa s'.o.length Z)/\X.cell? ⟨B+1,2,none⟩=some (V (dg r))/\X.cell? ⟨B+1,3,none⟩=some (V (F-J))/\X.cell? ⟨B+1,4,none⟩=some (V s'.d))/\EvA r s' F w (rW (.agg #[V (pE (cH r)),.slice oa s'.o.length Z,V (dg r),V (F-J),V s'.d])) X):=λX I=>by
  have Xq:w.heap.size<=B+1:=by rw[HB.out];omega
  have hm:=U.out.2.1;have h:=(((((hm.set 0 (V (pE (cH r)))).set 1 (.slice oa s'.o.length Z)).set 2 (V (dg r))).set 3 (V (F-J))).set 4 (V s'.d)).below r_.drew;have ht:aj (λk=>k=B+1) W6 X:=by rw[I];exact((((((aj.refl (λk=>k=B+1) W6).setCell (p:=⟨B+1,0,none⟩) rfl _).setCell (p:=⟨B+1,1,none⟩) rfl _).setCell (p:=⟨B+1,2,none⟩) rfl _).setCell (p:=⟨B+1,3,none⟩) rfl _).setCell (p:=⟨B+1,4,none⟩) rfl _).drew
  subst I;refine⟨⟨(h 0 _ rfl).1,(h 1 _ rfl).1,(h 2 _ rfl).1,(h 3 _ rfl).1,(h 4 _ rfl).1⟩,.slice oa s'.o.length Z,?_,?_,?_⟩;rw[Yb.out,J_]
  ·have h1:=ownB Jb.out Jq;have h2:=fP h1 ht (λk hk e=>by have h4:w4.heap.size<=k:=(World.ownsRow.lt Jb.out k hk).1;have e':k=B+1:=e;have:=Jd.size;omega);exact Ir h2 (by have:=(Jr.out w3 Je).size;have:=Jd.size;show w.heap.size<=w4.heap.size;omega)
  exact ht.below (Jr W6 Jf) (Jr W6 Jf).size (λk hk=>by rw[hk];exact Xq)
 go_upto_region 5 with fail;rw[<-Jk,<-hM];have⟨Yt,HM⟩:=h2 Jk hM;clear Jk hM Jn Jv U HX Xt Jb Xf Xp Jl Jg Jo Jf Jq Jd Xg Xr Yf J_ HC Ji Je X_ Xx Xs Xa;generalize cH r=er at*;generalize dg r=vr at*;generalize s'.o.length=ol at*;generalize s'.d=sd at*;go_region_held (λW=>W.cell? ⟨M,0,none⟩=some (V er)/\W.cell? ⟨M,1,none⟩=some (V vr)/\W.cell? ⟨P,7,none⟩=some (.slice oa ol Z)/\W.cell? ⟨P,8,none⟩=some (V J)/\W.cell? ⟨P,11,none⟩=some (V sd)) (go_keep)
  (first
  | ((with_reducible refine Calls.mono (sN er _) ?_);intro x wn hx;obtain⟨Xv,Xw⟩:=hx;subst Xv;subst Xw))
 go_wp2_with fail;have⟨X,I⟩:=q_ ((((((W6.setCell ⟨B+1,0,none⟩ (V (pE er))).setCell ⟨B+1,1,none⟩ (.slice oa ol Z)).setCell ⟨B+1,2,none⟩ (V vr)).setCell ⟨B+1,3,none⟩ (V (F-J))).setCell ⟨B+1,4,none⟩ (V sd)).drew);rw[<-I];have⟨⟨t0,t1,t2,t3,t4⟩,hE⟩:=Xe X I;exact bodyPost_ret (v:=.agg #[V (pE er),.slice oa ol Z,V vr,V (F-J),V sd]) (by simp[results,results9,go_sem,t0,t1,t2,t3,t4]) rfl hE
end
