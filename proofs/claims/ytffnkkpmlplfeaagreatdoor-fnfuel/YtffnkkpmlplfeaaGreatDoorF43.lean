import Derived.Test.YtffnkkpmlplfeaaGreatDoorF42
import Derived.Laws.EntriesVeiled
namespace Go.Proofs.YtffnkkpmlplfeaaGreatDoor
open Go.World
open Go.Proofs.Tryz Go.RowKit
set_option linter.all false
set_option maxRecDepth 100000
set_option maxHeartbeats 0
variable[Inhabited Pick]
def EB(a b c d:BY)(W:AT):(Instr.index 165 (.agg #[a,b,c,d]) (V 0)).run prog W=.ok a W:=by kernel_rfl
def EC(a b c d:BY)(W:AT):(Instr.index 165 (.agg #[a,b,c,d]) (V 1)).run prog W=.ok b W:=by kernel_rfl
def ED(a b c d:BY)(W:AT):(Instr.index 165 (.agg #[a,b,c,d]) (V 2)).run prog W=.ok c W:=by kernel_rfl
def EE(a b c d:BY)(W:AT):(Instr.index 165 (.agg #[a,b,c,d]) (V 3)).run prog W=.ok d W:=by kernel_rfl
theorem sQ(t:Tr)(vg vf:Value)(w:World)(hT:dq w)(hs:eZ t)(hw:xQ t)(hg:cK w vg t.globals)(hf:bC w vf t.funcs):
  Calls prog 67 #[.agg #[vg,vf]] w λe w'=>e=rW (eM (aU t).1 (aU t).2.1 (aU t).2.2)/\Below w.heap.size w w':=by
 obtain⟨Jn,Jk⟩:=q_ (aU t);rw[<-Jk];obtain⟨Jb,HT,HS,HW,HG,HF⟩:=h6 Jk hT hs hw hg hf;obtain⟨ag,cg,rfl,-⟩:=hg;obtain⟨J,Y,rfl,-⟩:=hf;have Yo:∀(fn:Fn) (first cap:Array Value) (w:World),(Instr.makeFunc fn first cap).run prog w=.ok (.func fn first cap) w:=λ_ _ _ _=>rfl;clear hT hs hw Jk;go_in;go_wp2_with fail;obtain⟨W0,I⟩:=q_ ((w.alloc (.cells #[.slice ag t.globals.length cg,.slice J t.funcs.length Y] 34)).alloc (.cells #[nV,.slice ag t.globals.length cg,.slice J t.funcs.length Y,.map none,.map none,V (-1),V (-1)] 162));obtain⟨T0,Jo⟩:=q_ w.heap.size;obtain⟨C,hC⟩:=q_ (w.heap.size+1);have Jl:Bl w W0:=by rw[I];exact(au _ _).alloc i_ _
 have a0:W0.cell? ⟨T0,0,none⟩=some (.slice ag t.globals.length cg):=by rw[I,Jo,World.cell?_alloc_lt _ _ ⟨w.heap.size,0,none⟩ i_];simp
 have a1:W0.cell? ⟨T0,1,none⟩=some (.slice J t.funcs.length Y):=by rw[I,Jo,World.cell?_alloc_lt _ _ ⟨w.heap.size,1,none⟩ i_];simp
 have Xv:∀o,W0.cell? ⟨C,o,none⟩=(#[nV,.slice ag t.globals.length cg,.slice J t.funcs.length Y,.map none,.map none,V (-1),V (-1)]:Array Value)[o]? := λo=>by rw[I];exact World.cell?_alloc_at _ _ _ _ (by simp[hC])
 have Xo:∀o,W0.frozen? ⟨C,o,none⟩=false:=λo=>by rw[I];exact World.frozen?_alloc_at _ _ _ _ (by simp[hC])
 obtain⟨Jf,Xt⟩:=h2 Xv Xo;have Jv:C<W0.heap.size:=by rw[I,hC];simp
 have Jy:T0<W0.heap.size:=by rw[I,Jo];simp;omega
 have Yp:T0≠C:=o_;have Xq:w.heap.size<=C:=o_;rw[<-I,<-hC,<-Jo];clear I hC Jo Xv Xo;refine(vW t _ _ _ (HT.out.below HT.out.size Jl) HS (HG.out.below Jl) (HF.out.below Jl)).mono ?_;rintro e w1 ⟨rfl,Z⟩;have b0:=(Z.cell (p:=⟨T0,0,none⟩) Jy).trans a0;have b1:=(Z.cell (p:=⟨T0,1,none⟩) Jy).trans a1;have Jr:Bl w w1:=Jl.trans (Z.mono Jl.size);have Ju:=ah λo=>(Z.cell (p:=⟨C,o,none⟩) Jv).trans (Jf o);have Xk:Hid (∀o,w1.frozen? ⟨C,o,none⟩=false):=λo=>(Z.frozen (p:=⟨C,o,none⟩) Jv).trans (Xt o);have Xi:C<w1.heap.size:=l_ Jv Z.size;have Yq:T0<w1.heap.size:=l_ Jy Z.size;clear Z a0 a1 Jf Xt Jv Jy Jl;cases htb:df t with
 | false=>
  have HE:Hid (Jn=(1,-1,-1)):=Jb.out.trans (lC htb);clear htb;go_wp2_with fail;refine(dg C 1 (-1) (-1) _ (Ju 5) (Ju 6)).mono ?_;rintro e w5 ⟨rfl,hw⟩;rw[hw];clear hw;go_wp2;go_ret;exact⟨aG (by rw[HE.out];rfl),Jr⟩
 | true=>
  have HB:=ah htb;have Jt:=F4 htb HS HW;have Ji:=ah Jt;have Yj:=Jt.fl;have Yh:=Jt.gl;clear htb Jt;go_wp2_with fail;refine(j6 t.funcs _ _ _ o_ Ji.out.wf (HF.out.below Jr)).mono ?_;rintro e w2 ⟨bn,D,rfl,Yc,Jq,hN,Jp⟩;have Xn:Bl w w2:=Jr.trans (Jp.mono Jr.size);have Je:=ah λo=>(Jp.cell (p:=⟨C,o,none⟩) Xi).trans (Ju o);have Xg:Hid (∀o,w2.frozen? ⟨C,o,none⟩=false):=λo=>(Jp.frozen (p:=⟨C,o,none⟩) Xi).trans (Xk o);have Xa:C<w2.heap.size:=l_ Xi Jp.size;have Yb:C<bn:=o_
  obtain⟨Xh,HN⟩:=h2 Jq hN;have q3:w2.cell? ⟨C,3,none⟩=some (.map none):=Je 3;have qf:=Xg 3;clear Jp Jq hN Yc b0 b1 Ju Xk;have i0:=EB;have i1:=EC;have i2:=ED;have i3:=EE;go_wp2_with fail;obtain⟨W4,Jj⟩:=q_ ((w2.setCell ⟨C,3,none⟩ (.map (some bn))).alloc (.cells #[.func (.func 105) #[pV C] #[],.func (.func 106) #[pV C] #[],.func (.func 107) #[pV C] #[],.func (.func 108) #[pV C] #[]] 165));have Xm:Hid (FQ w C bn t.funcs.length D t (.slice ag t.globals.length cg) (.slice J t.funcs.length Y) W4):=by
   have Ja:∀o,o≠3->W4.cell? ⟨C,o,none⟩=w2.cell? ⟨C,o,none⟩:=λo ho=>by
    rw[Jj,World.cell?_alloc_lt _ _ ⟨C,o,none⟩ (by simpa using Xa)];exact s_ _ _ _ _ (bJ (λe=>ho e.symm))
   have h3:W4.cell? ⟨C,3,none⟩=some (.map (some bn)):=by
    rw[Jj,World.cell?_alloc_lt _ _ ⟨C,3,none⟩ (by simpa using Xa)];exact World.cell?_setCell_same _ _ _ q3
   have Ya:Bl w W4:=by
    rw[Jj];exact(Xn.setCell (p:=⟨C,3,none⟩) Xq _).alloc (by have:=Xn.size;simpa using this) _
   exact⟨(Ja 0 d_).trans (Je 0),(Ja 1 d_).trans (Je 1),(Ja 2 d_).trans (Je 2),h3,⟨_,(Ja 4 d_).trans (Je 4)⟩,(Ja 5 d_).trans (Je 5),(Ja 6 d_).trans (Je 6),λo=>by
    rw[Jj,World.frozen?_alloc_past _ _ _ (by simpa using Xa)];simpa using Xg.out o,Xq,Ya,⟨HF.out,HG.out⟩,aL Xh.out (by rw[Jj,Below.heap_alloc _ _ _ (by have:=Xh.out.lt;simpa using this),Below.heap_setCell _ _ _ bn (λh=>by simp at h;omega)]),HN.out,Yb⟩
  refine wp_loop_rounds 5 ?_;rw[rounds_succ];go_wp2_with fail;rw[<-Jj];obtain⟨E,hE⟩:∃E:ld,E=⟨w,C,W4.heap.size+1,bn,t.funcs.length,D,t,.slice ag t.globals.length cg,.slice J t.funcs.length Y,λ_=>none,λ_=>false,0⟩:=⟨_,rfl⟩;have Xf:Hid (Calls prog 105 #[pV C] W4 λe w'=>e=rW (eM (fX t).1 (fX t).2.1 (fX t).2.2) /\
   ∃gf' ng' v bt tk fn st,Cs {E with gf:=gf',ng:=ng'} w' [] [] v bt tk fn st/\((fX t).1=0->gf'=cV t.globals/\ng'<=1000/\fn= -1/\st= -1)):=by
   subst hE;exact FZq (E:=⟨w,C,W4.heap.size+1,bn,t.funcs.length,D,t,.slice ag t.globals.length cg,.slice J t.funcs.length Y,λ_=>none,λ_=>false,0⟩) (w:=W4) Xm rfl rfl rfl rfl (by show t.globals.length<=_;omega) (by show t.funcs.length<=_;omega) Ji.out.g Ji.out.fn
  have Jm:=ah hE;clear Jj hE Xm Je Xg Xh q3 qf;refine Xf.out.mono ?_;rintro e w5 ⟨rfl,Yl,Xs,v5,Ye,Yg,Yf,Yd,Jx,Xe⟩;have Jw:Bl w w5:=by have:=Jx.base;rw[Jm.out]at this;exact this
  by_cases hz:(fX t).1=0
  ·obtain⟨rfl,Xb,rfl,rfl⟩:=Xe hz;rw[hz,dv];obtain⟨HZ,Xd⟩:=h2 hz Jx;clear hz Xe Jx;go_wp2_with fail;rw[rounds_succ];go_wp2_with fail;have Xx:Hid (Calls prog 106 #[pV C] w5 λe w'=>e=rW (eM (kz t) (-1) (-1))/\Bl w5 w'):=by
    have h:=Xd;have hb:=h.box;have hf:=h.fun0.1.below h.base;rw[Jm.out]at hb hf;have h1:=h.own;have h2:=h.num;rw[Jm.out]at h1 h2;exact wq C bn t.funcs.length D t (-1) (-1) _ w5 hb.c2 hb.c3 hb.c5 hb.c6 h1 h2 o_ hf
   refine Xx.out.mono ?_;rintro e w6 ⟨rfl,Xc⟩;have Xl:=ah (Xd.out.below Xc);have Xp:Bl w w6:=Jw.trans (Xc.mono Jw.size);clear Xc Xd Xx Jw;by_cases hz:kz t=0
   ·rw[hz,dv];obtain⟨m,hm⟩:=nj hz;have HM:=ah hm;have Xz:Hid ((bP t).1=0):=by show _=_;rw[gN HZ.out];exact hz
    clear hz hm HZ;go_wp2_with fail;rw[rounds_succ];go_wp2_with fail;have Xr:Hid (Calls prog 107 #[pV C] w6 λe w'=>e=rW (eM (bodiesE t 0 t.funcs).1 (bodiesE t 0 t.funcs).2.1 (bodiesE t 0 t.funcs).2.2) /\
   ∃g' v' bt' tk' fn' st',Cs {E with gf:=cV t.globals,ng:=Xs,gp:=g'} w' [] [] v' bt' tk' fn' st'/\((bodiesE t 0 t.funcs).1=0->fn'= -1/\st'= -1)):=by
     have h:=Xl;have he:=Jm;subst he;exact sO (E:= {w0:=w,C:=C,bg:=W4.heap.size+1,bn:=bn,nn:=t.funcs.length,D:=D,t:=t,vg:=.slice ag t.globals.length cg,vf:=.slice J t.funcs.length Y,gf:=cV t.globals,gp:=λs=>decide (0<=globI t.globals s),ng:=Xs}) (g0:=λ_=>false) h Xb rfl rfl (λg hg=>(Ji.out.g g hg).2.1) (by show t.funcs.length<=_;omega) Ji.out.f
    refine Xr.out.mono ?_;rintro e w7 ⟨rfl,g7,v7,Yn,Yi,Ym,Yk,Js,J_⟩;have Xw:Bl w w7:=by have:=Js.base;rw[Jm.out]at this;exact this
    clear Xl Xr Xp;by_cases hz:(bodiesE t 0 t.funcs).1=0
    ·obtain⟨rfl,rfl⟩:=J_ hz;rw[hz,dv];have Xj:=ah Js;have X_:Hid (Jn=dj t m 0 t.funcs.length):=Jb.out.trans (lD HB Xz hz HM);clear hz J_ Js Jb;go_wp2_with fail;rw[rounds_succ];go_wp2_with fail;have Xy:Hid (Calls prog 108 #[pV C] w7 λe w'=>e=rW (eM (dj t m 0 t.funcs.length).1 (dj t m 0 t.funcs.length).2.1 (dj t m 0 t.funcs.length).2.2)/\Bl w w'):=by
      have h:=Xj;have he:=Jm;subst he;exact zH h m HM (by show t.funcs.length<=_;omega) Ji.out.wf Ji.out.sm
     refine Xy.out.mono ?_;rintro e w8 ⟨rfl,Xu⟩;rw[<-X_.out];clear Xj Xy Xw;by_cases hz:Jn.1=0
     ·rw[hz,dv];have Jz:=ah hz;clear hz;go_wp2_with fail;rw[rounds_succ];go_wp2;go_ret;exact⟨aG (by rw[Jz.out];rfl),Xu⟩
     ·rw[bU hz];have Jz:=ah hz;clear hz;go_wp2;go_ret;exact⟨aG (by rw[bU Jz.out];rfl),Xu⟩
    ·have Jg:Hid (Jn=bodiesE t 0 t.funcs):=Jb.out.trans (jv HB Xz hz);have U:=ah hz;rw[bU hz];generalize bodiesE t 0 t.funcs=z at Jg U⊢;clear hz J_ Js;go_wp2;go_ret;exact⟨aG (by rw[Jg.out,bU U.out];rfl),Xw⟩
   ·have Jg:Hid (Jn=(kz t,-1,-1)):=by
     show _=_;have:=gN HZ.out;rw[Jb.out,ig HB.out (by rw[this];exact hz),this]
    have U:=ah hz;rw[bU hz];generalize kz t=z at Jg U⊢;clear hz;go_wp2;go_ret;exact⟨aG (by rw[Jg.out,bU U.out];rfl),Xp⟩
  ·have Jg:Hid (Jn=fX t):=by
    show _=_;have:=jW hz;rw[Jb.out,ig HB.out (by rw[this];exact hz),this]
   have U:=ah hz;rw[bU hz];generalize fX t=z at Jg U⊢;clear hz Xe Jx;go_wp2;go_ret;exact⟨aG (by rw[Jg.out,bU U.out];rfl),Jw⟩
section
open Classical in
def oq(t:Tr)(vg vf:BY)(w:AT)(hT:dq w)(hs:eZ t)(hw:xQ t)(hg:cK w vg t.globals)(Z:bC w vf t.funcs):
  Calls prog 37 #[.agg #[vg,vf]] w λe w'=>e=rW (.bool (decide ((aU t).1=0)))/\Bl w w':=by
 obtain⟨x,y,z,U⟩:∃x y z,aU t=(x,y,z):=⟨_,_,_,rfl⟩;obtain⟨ag,cg,rfl,-⟩:=id hg;obtain⟨af,cf,rfl,-⟩:=id Z;have h:∀o,Bl w (w.alloc o):=λo=>r_.alloc n_ o;have Y:Hid (∀W,Bl w W->Calls prog 67 #[.agg #[.slice ag t.globals.length cg,.slice af t.funcs.length cf]] W λe w'=>e=rW (eM x y z)/\Bl W w'):=λW hW=>by
  have:=sQ t _ _ W (hT.below hT.size hW) hs hw (hg.below hW) (Z.below hW)
  rw[U]at this;exact this
 rw[U];simp only;by_cases hz:x=0
 ·subst hz;rw[decide_eq_true rfl];go_in;go_wp2_with fail;refine(Y _ (h _)).mono ?_;rintro e w1 ⟨rfl,J⟩;rw[dv];have I:=(h _).trans (J.mono (h _).size);go_wp2;go_ret;exact⟨rfl,I⟩
 ·rw[decide_eq_false hz];go_in;go_wp2_with fail;refine(Y _ (h _)).mono ?_;rintro e w1 ⟨rfl,J⟩;rw[bU hz];have I:=(h _).trans (J.mono (h _).size);go_wp2;go_ret;exact⟨rfl,I⟩
end
end Go.Proofs.YtffnkkpmlplfeaaGreatDoor
