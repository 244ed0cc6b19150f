import Derived.Test.YtffnkkpmlplfeaaGreatDoorF31
import Derived.Test.YtffnkkpmlplfeaaGreatDoorF34
import Derived.Test.YtffnkkpmlplfeaaGreatDoorF35
import Derived.Test.YtffnkkpmlplfeaaGreatDoorF54
import Derived.Test.YtffnkkpmlplfeaaGreatDoorF43
namespace Go.Proofs.YtffnkkpmlplfeaaGreatDoor
open Go.World List
open Go.Proofs.Tryz Go.RowKit
set_option linter.all false
set_option maxRecDepth 100000
set_option maxHeartbeats 0
variable[Inhabited Pick]
structure gU (t:Tr) (i fr:List Int) (F:Int):Prop where
 ck:(aU t).1=0
 il:i.length<=1000
 iw:i.all eu=true
 fu:0<=F/\F<=100000
 fl:fr.length=t.funcs.length
 fb:fr.all frB=true
theorem wQ(t:Tr)(vg vf J I:BY)(i fr:List Int)(F:Int)(w:AT)(Z:eZ t)(hw:xQ t)(Y:cK w vg t.globals)(U:bC w vf t.funcs)(hI:fW w J i)(Je:fW w I fr)(Jc:i.length<=1048576)(Jd:fr.length<=1048576)(Jf:¬gU t i fr F):
  Calls prog 7 #[.agg #[vg,vf],J,V F,I] w λe w'=>e=rW dk/\Bl w w':=by
 have Jb:∀X,Bl w X->Calls prog 24 #[.agg #[vg,vf]] X λe w'=>(∃x y,e=rW (.agg #[V (aU t).1,V x,V y]))/\Bl X w':=λX hX=>(kE uv t vg vf X Z hw (Y.below hX) (U.below hX)).mono λe w' h=>⟨⟨_,_,h.1⟩,h.2⟩;by_cases h1:(aU t).1=0
 ·by_cases h2:1000<i.length
  ·exact iC t vg vf J I i fr F w Jb Y U hI Je Jc Jd Z.2.1 (.inr (.inl h2))
  ·cases h3:i.all eu with
   | false=>exact iC t vg vf J I i fr F w Jb Y U hI Je Jc Jd Z.2.1 (.inr (.inr (.inl h3)))
   | true=>
    by_cases h4:0<=F/\F<=100000
    ·by_cases h5:fr.length=t.funcs.length
     ·cases h6:fr.all frB with
      | false=>exact zg t vg vf J I i fr F w Jb Y U hI Je Jc Jd Z.2.1 h1 o_ h3 h4 h5 h6
      | true=>exact absurd ⟨h1,o_,h3,h4,h5,h6⟩ Jf
     ·exact iC t vg vf J I i fr F w Jb Y U hI Je Jc Jd Z.2.1 (.inr (.inr (.inr (.inr h5))))
    ·exact iC t vg vf J I i fr F w Jb Y U hI Je Jc Jd Z.2.1 (.inr (.inr (.inr (.inl h4))))
 ·exact iC t vg vf J I i fr F w Jb Y U hI Je Jc Jd Z.2.1 (.inl h1)
def te(t:Tr)(vg vf J U:BY)(i fr:List Int)(F:Int)(w:AT)(hs:eZ t)(hw:xQ t)(Y:cK w vg t.globals)(Z:bC w vf t.funcs)(hI:fW w J i)(Jd:fW w U fr)(Jg:i.length<=1048576)(Je:fr.length<=1048576)(I:gU t i fr F){m n:Nat}{r:ER}{s':ES}(hm:bO t.funcs di=some m)(Jf:Ev t fr n (.c m []) (gv t i F) r s'):
  Calls prog 7 #[.agg #[vg,vf],J,V F,U] w λe w'=>EvA r s' F w e w':=by
 have Jc:∀X,Bl w X->Calls prog 24 #[.agg #[vg,vf]] X λe w'=>(∃x y,e=rW (.agg #[V (aU t).1,V x,V y]))/\Bl X w':=λX hX=>(kE uv t vg vf X hs hw (Y.below hX) (Z.below hX)).mono λe w' h=>⟨⟨_,_,h.1⟩,h.2⟩;exact zx t vg vf J U i fr F w Jc Y Z hI Jd Jg Je hs.2.1 I.ck I.il I.iw I.fu I.fl I.fb hm Jf
def dw{w w':AT}{v:BY}{l:List Int}(h:fW w v l)(Y:Bl w w'):fW w' v l:=by
 obtain⟨a,c,rfl,U,h2,h3⟩:=h;refine⟨a,c,rfl,U,h2,λhn=>?_⟩;obtain⟨b,J,rfl,I⟩:=h3 hn;exact⟨b,J,rfl,λj hj=>(Y.cell (p:=⟨b,_,none⟩) (b_ (I j hj))).trans (I j hj)⟩
theorem rE{t:Tr}{i fr:List Int}{F:Int}(h:¬gU t i fr F):F<0∨(0<=F/\100000<F)∨((0<=F/\F<=100000)/\((decide (i.length<=1000)&&i.all eu)=false∨(decide (i.length<=1000)&&i.all eu)=true/\((decide (fr.length=t.funcs.length)&&fr.all frB)=false∨(decide (fr.length=t.funcs.length)&&fr.all frB)=true/\(aU t).1≠0))):=by
 by_cases h1:F<0
 ·exact .inl h1
 by_cases h2:100000<F
 ·exact .inr (.inl ⟨o_,h2⟩)
 refine .inr (.inr ⟨o_,?_⟩);cases h3:(decide (i.length<=1000)&&i.all eu)with
 | false=>exact .inl rfl
 | true=>
  refine .inr ⟨rfl,?_⟩;cases h4:(decide (fr.length=t.funcs.length)&&fr.all frB)with
  | false=>exact .inl rfl
  | true=>
   refine .inr ⟨rfl,λh5=>h ?_⟩;simp only[GE,GF]at h3 h4;exact⟨h5,h3.1,h3.2,o_,h4.1,h4.2⟩
def xp(t:Tr)(vg vf vI Jk:BY)(i fr:List Int)(F:Int)(w:AT)(hT:dq w)(hs:eZ t)(hw:xQ t)(hg:cK w vg t.globals)(hf:bC w vf t.funcs)(hI:fW w vI i)(Jt:fW w Jk fr)(Js:¬gU t i fr F):
  Calls prog 10 #[.agg #[vg,vf],vI,V F,Jk] w λe w'=>e=rW dk/\Bl w w':=by
 have HN:=ah (rE Js);obtain⟨W1,Ji⟩:=q_ ((w.alloc (.cells #[vg,vf] 34)).alloc (.cells #[V 0,nV,V 0,V 0,V 0] 29));obtain⟨B,hB⟩:=q_ w.heap.size;have Jl:Bl w (w.alloc (.cells #[vg,vf] 34)):=au _ _;have Jm:Bl w W1:=by rw[Ji];exact Jl.alloc Jl.size _
 have Jq:aK W1 B [vg,vf]:=by rw[Ji,hB];exact(aH w #[vg,vf] 34 i_).below (au _ _)
 have Jp:aK W1 (B+1) [V 0,nV,V 0,V 0,V 0]:=by
  rw[Ji,hB];have:=aH (w.alloc (.cells #[vg,vf] 34)) #[V 0,nV,V 0,V 0,V 0] 29 i_;rw[GO]at this;exact this
 have Jb:∀X,Bl W1 X->Bl w X:=λX hX=>Jm.trans (hX.mono Jm.size);obtain⟨ck,Jn⟩:=q_ ((aU t).1);obtain⟨b1,Jc⟩:=q_ ((decide (i.length<=1000)&&i.all eu));obtain⟨b2,Je⟩:=q_ ((decide (fr.length=t.funcs.length)&&fr.all frB));have Jh:Hid (∀X,Bl W1 X->Calls prog 35 #[vI] X λe w'=>e=rW (.bool b1)/\w'=X):=λX hX=>by rw[Jc];exact iD vI i X (dw hI (Jb X hX))
 have Jf:Hid (∀X,Bl W1 X->Calls prog 36 #[.agg #[vg,vf],Jk] X λe w'=>e=rW (.bool b2)/\Bl X w'):=λX hX=>by rw[Je];exact gT vg vf Jk t.funcs fr X (hf.below (Jb X hX)) (by obtain⟨a,c,e,-⟩:=hg;exact⟨a,_,c,e⟩) (dw Jt (Jb X hX))
 have Jd:Hid (∀X,Bl W1 X->Calls prog 37 #[.agg #[vg,vf]] X λe w'=>e=rW (.bool (decide (ck=0)))/\Bl X w'):=λX hX=>by
  have:=oq t vg vf X (hT.below hT.size (Jb X hX)) hs hw (hg.below (Jb X hX)) (hf.below (Jb X hX))
  rw[<-Jn]at this;exact this.mono λe w' h=>⟨by rw[h.1],h.2⟩
 rw[<-Jn,<-Jc,<-Je]at HN;obtain⟨ag,cg,rfl,-⟩:=hg;obtain⟨af,cf,rfl,-⟩:=hf;obtain⟨ai,ci,rfl,-⟩:=hI;obtain⟨ar,cr,rfl,-⟩:=Jt;generalize t.globals.length=gl at*;generalize t.funcs.length=fl at*;generalize i.length=il at*;generalize fr.length=rl at*;have J_:=ah Jq;have Jy:=ah Jp;have Jw:=ah Jb;have Jx:=ah Ji;have HB:=ah hB;clear hT hs hw Js Ji hB Jl Jm Jq Jp Jb Jn Jc Je;go_in;go_upto_region 1 with fail;rw[<-Jx.o,<-HB.o];have HX:∀X,Bl W1 X->Hid (aK X B [.slice ag gl cg,.slice af fl cf]/\aK X (B+1) [V 0,nV,V 0,V 0,V 0]/\Bl w X):=λX hX=>⟨J_.o.below hX,Jy.o.below hX,Jw X hX⟩;have J:=HX W1 r_;have x0:=(J.o.1 0 _ rfl).1;have x1:=(J.o.1 1 _ rfl).1;have Jj:Hid (w.heap.size<=B+1):=by show _<=_;rw[HB.o];omega
 rcases HN.o with hF|hF|⟨hF,hN⟩
 ·have I:=J;obtain⟨y0,z0⟩:=I.o.2.1 0 _ rfl;obtain⟨y1,z1⟩:=I.o.2.1 1 _ rfl;obtain⟨y2,z2⟩:=I.o.2.1 2 _ rfl;obtain⟨y3,z3⟩:=I.o.2.1 3 _ rfl;obtain⟨y4,z4⟩:=I.o.2.1 4 _ rfl;clear HN HX Jh Jf Jd J;go_wp2_with fail;obtain⟨⟨t0,t1,U,Y,Z⟩,hE⟩:=dF I.o.2.1 I.o.2.2 (Jj) rfl;exact bodyPost_ret (v:=dk) (by simp[results,results10,go_sem,t0,t1,U,Y,Z,dk]) rfl ⟨rfl,hE⟩
 ·have I:=J;obtain⟨Ju,Jv⟩:=hF;have Jz:¬F<0:=o_
  obtain⟨y0,z0⟩:=I.o.2.1 0 _ rfl;obtain⟨y1,z1⟩:=I.o.2.1 1 _ rfl;obtain⟨y2,z2⟩:=I.o.2.1 2 _ rfl;obtain⟨y3,z3⟩:=I.o.2.1 3 _ rfl;obtain⟨y4,z4⟩:=I.o.2.1 4 _ rfl;clear HN HX Jh Jf Jd J;go_wp2_with fail;obtain⟨⟨t0,t1,U,Y,Z⟩,hE⟩:=dF I.o.2.1 I.o.2.2 (Jj) rfl;exact bodyPost_ret (v:=dk) (by simp[results,results10,go_sem,t0,t1,U,Y,Z,dk]) rfl ⟨rfl,hE⟩
 ·obtain⟨Ju,Jv⟩:=hF;have Jz:¬F<0:=o_
  have Xa:¬100000<F:=o_;go_wp2_with fail;refine(Jh W1 r_).mono ?_;rintro e w2 ⟨rfl,Jo⟩;rw[Jo];clear Jo;rcases hN with rfl|⟨rfl,hN⟩
  ·have I:=J;obtain⟨y0,z0⟩:=I.o.2.1 0 _ rfl;obtain⟨y1,z1⟩:=I.o.2.1 1 _ rfl;obtain⟨y2,z2⟩:=I.o.2.1 2 _ rfl;obtain⟨y3,z3⟩:=I.o.2.1 3 _ rfl;obtain⟨y4,z4⟩:=I.o.2.1 4 _ rfl;clear HN HX Jh Jf Jd J;go_wp2_with fail;obtain⟨⟨t0,t1,U,Y,Z⟩,hE⟩:=dF I.o.2.1 I.o.2.2 (Jj) rfl;exact bodyPost_ret (v:=dk) (by simp[results,results10,go_sem,t0,t1,U,Y,Z,dk]) rfl ⟨rfl,hE⟩
  ·go_wp2_with fail;refine(Jf W1 r_).mono ?_;rintro e w2 ⟨rfl,Jg⟩;have I:=HX w2 Jg;have x0:=(I.o.1 0 _ rfl).1;have x1:=(I.o.1 1 _ rfl).1;rcases hN with rfl|⟨rfl,hN⟩
   ·clear Jg;obtain⟨y0,z0⟩:=I.o.2.1 0 _ rfl;obtain⟨y1,z1⟩:=I.o.2.1 1 _ rfl;obtain⟨y2,z2⟩:=I.o.2.1 2 _ rfl;obtain⟨y3,z3⟩:=I.o.2.1 3 _ rfl;obtain⟨y4,z4⟩:=I.o.2.1 4 _ rfl;clear HN HX Jh Jf Jd J;go_wp2_with fail;obtain⟨⟨t0,t1,U,Y,Z⟩,hE⟩:=dF I.o.2.1 I.o.2.2 (Jj) rfl;exact bodyPost_ret (v:=dk) (by simp[results,results10,go_sem,t0,t1,U,Y,Z,dk]) rfl ⟨rfl,hE⟩
   ·have hd:decide (ck=0)=false:=decide_eq_false hN;rw[hd]at Jd;clear hd I;go_wp2_with fail;refine(Jd w2 Jg).mono ?_;rintro e w3 ⟨rfl,Jr⟩;have I:=HX w3 (Jg.trans (Jr.mono Jg.size));clear Jg Jr;obtain⟨y0,z0⟩:=I.o.2.1 0 _ rfl;obtain⟨y1,z1⟩:=I.o.2.1 1 _ rfl;obtain⟨y2,z2⟩:=I.o.2.1 2 _ rfl;obtain⟨y3,z3⟩:=I.o.2.1 3 _ rfl;obtain⟨y4,z4⟩:=I.o.2.1 4 _ rfl;clear HN HX Jh Jf Jd J;go_wp2_with fail;obtain⟨⟨t0,t1,U,Y,Z⟩,hE⟩:=dF I.o.2.1 I.o.2.2 (Jj) rfl;exact bodyPost_ret (v:=dk) (by simp[results,results10,go_sem,t0,t1,U,Y,Z,dk]) rfl ⟨rfl,hE⟩
section
variable{t:Tr}{n:Nat}{s':ES}{r:ER}{l:List Int}
theorem AP{l:List St}{s:St}(h:s∈l):s.e.length+s.f.length<=aZ l:=by
 induction l with
 | nil=>cases h
 | cons x r ih=>
  simp only[aZ];rcases mem_cons.1 h with rfl|h
  ·omega
  ·have:=ih h;omega
def tq(h:(aU t).1=0):t.globals.length<=50/\t.funcs.length<=50/\(∀g∈t.globals,(0<=g.size/\g.size<=4000)/\g.name.size<=maxLen)/\∀f∈t.funcs,cM f.body=true/\(∀s∈f.body,stmtB s=true/\s.e.length<=2000/\s.f.length<=2000)/\f.body.length<=1000:=by
 have I:=(dH h).1;simp only[df,GE,GF,all_eq_true]at I;obtain⟨Y,q2,q3,U⟩:=I;refine⟨Y,q2,λg hg=>?_,λf hf=>?_⟩
 ·have:=q3 g hg
  unfold cY at this;simp only[GE,GF]at this;exact⟨this.2,by
   have J:=this.1;simp only[aY,GF]at J;have:=J.2.1;unfold maxLen;omega⟩
 ·have:=U f hf
  simp only[cQ,GE,GF,stmtsB,all_eq_true]at this;obtain⟨-,-,p3,-,⟨p5,Z⟩,p7⟩:=this;exact⟨p7,λs hs=>⟨Z s hs,Ft (AP hs),Ft (AP hs)⟩,o_⟩
def DY{w:AT}{B J size:Nat}{e:GC}{v:BY}{U:List BY}(h:w.ownsRow B e size v n U)(hb:J<=B):w.ownsRow J e size v n U:=by
 obtain⟨I,h|⟨g,Jb,Y,rfl,Z,h2,h3⟩⟩:=h
 ·exact⟨I,.inl h⟩
 ·exact⟨I,.inr ⟨g,Jb,Y,rfl,t_ hb Z,h2,h3⟩⟩
theorem AQ{fr:List Int}{f:Nat}{vs:List Int}{s:ES}(h:Ev t fr n (.c f vs) s r s'):∀v,r ≠ .ret v:=by
 cases h using Ev_i with
 | run n f vs z hf r z' h1=>cases r using ER.cs <;> simp[ER.back]
def Ce(h:l.all frB=true):∀x∈l,0<=x/\x<=1000000000:=λx hx=>by
 have:=all_eq_true.1 h x hx
 unfold frB at this;simp only[GF]at this;omega
def Cf(h:l.all eu=true):∀x∈l,et x:=λx hx=>by have:=all_eq_true.1 h x hx;unfold eu at this;unfold et;simpa using this
theorem tr(t:Tr)(vg vf vI Jh:Value)(i fr:List Int)(F:Int)(w:World)(hT:dq w)(hs:eZ t)(hw:xQ t)(hg:cK w vg t.globals)(hf:bC w vf t.funcs)(hI:fW w vI i)(Js:fW w Jh fr)(J:gU t i fr F){m:Nat}(hm:bO t.funcs di=some m)(Jt:Ev t fr n (.c m []) (gv t i F) r s'):
  Calls prog 10 #[.agg #[vg,vf],vI,V F,Jh] w λe w'=>EvA r s' F w e w':=by
 obtain⟨W1,Jj⟩:=q_ ((w.alloc (.cells #[vg,vf] 34)).alloc (.cells #[V 0,nV,V 0,V 0,V 0] 29));obtain⟨B,hB⟩:=q_ w.heap.size;have Jv:Bl w (w.alloc (.cells #[vg,vf] 34)):=au _ _;have Xc:Bl w W1:=by rw[Jj];exact Jv.alloc Jv.size _
 have Xm:aK W1 B [vg,vf]:=by rw[Jj,hB];exact(aH w #[vg,vf] 34 (by show 2<=1000;omega)).below (au _ _)
 have Xl:aK W1 (B+1) [V 0,nV,V 0,V 0,V 0]:=by
  rw[Jj,hB];have:=aH (w.alloc (.cells #[vg,vf] 34)) #[V 0,nV,V 0,V 0,V 0] 29 (by show 5<=1000;omega);rw[World.size_alloc]at this;exact this
 have Xk:B+1<W1.heap.size:=by rw[Jj,hB,World.size_alloc,World.size_alloc];omega
 have Y:∀X,Bl W1 X->Bl w X:=λX I=>Xc.trans (I.mono Xc.size);have Yi:Hid (∀X,Bl W1 X->Calls prog 35 #[vI] X λe w'=>e=rW (.bool true)/\w'=X):=λX I=>by
  have:=iD vI i X (dw hI (Y X I))
  rw[decide_eq_true J.il,J.iw]at this;exact this
 have Xj:Hid (∀X,Bl W1 X->Calls prog 36 #[.agg #[vg,vf],Jh] X λe w'=>e=rW (.bool true)/\Bl X w'):=λX I=>by
  have:=gT vg vf Jh t.funcs fr X (hf.below (Y X I)) (by obtain⟨a,c,e,-⟩:=hg;exact⟨a,_,c,e⟩) (dw Js (Y X I))
  rw[decide_eq_true J.fl,J.fb]at this;exact this
 have Yb:Hid (∀X,Bl W1 X->Calls prog 37 #[.agg #[vg,vf]] X λe w'=>e=rW (.bool true)/\Bl X w'):=λX I=>by
  have:=oq t vg vf X (hT.below hT.size (Y X I)) hs hw (hg.below (Y X I)) (hf.below (Y X I))
  exact this.mono λe w' h=>⟨by rw[h.1,decide_eq_true J.ck],h.2⟩
 obtain⟨Yf,Yg,Jx,Xh⟩:=tq J.ck;have Xi:=ah λX (I:Bl W1 X)=>AM t vg vf vI Jh F X o_ o_ hw.2 (hf.below (Y X I)) (hg.below (Y X I)) (hT.below hT.size (Y X I)) Xh (λg hg=>(Jx g hg).1) (λg hg=>(Jx g hg).2) (rf J.ck) (by obtain⟨a,c,e,-⟩:=hI;exact⟨a,_,c,e⟩) (by obtain⟨a,c,e,-⟩:=Js;exact⟨a,_,c,e⟩);have Yr:=de hm;have Yn:Hid (∀X,Bl W1 X->∀ {W Wm:World} {vB:Value} {B0 P bN bM:Nat} {gb:List Nat} {S:Nat->Prop},pU X t vg vf vI F Jh B0 P bN bM t.globals.length gb Wm->AL t vg vf vI F Jh P bN bM Wm t.funcs.length vB S W->∃bB cB,(startC X W t fr vg vf Jh P bN bM bB cB S gb).Ok/\IS (startC X W t fr vg vf Jh P bN bM bB cB S gb) W none vI nV (gv t i F)):=λX I {W Wm vB B0 P bN bM gb S} h1 h2=>AN h1 h2 (hf.below (Y X I)) (dw Js (Y X I)) (dw hI (Y X I)) J.ck J.fl (Ce J.fb) ⟨o_,o_⟩ o_ J.fu (Cf J.iw);have Yl:Hid (∀ {C:IC},C.t=t->C.fr=fr->C.Ok->∀W,IS C W none vI nV (gv t i F)->Calls prog 39 #[pV C.P,V (m:Int),nV] W λx w'=>jm C W none nV r s' x w'):=λ{C} e1 e2 hC W h=>by
  subst e1;subst e2;exact xo hC J.fu h Jt (λhl=>List.eq_nil_of_length_eq_zero (qT J.ck hm hl).symm)
 have Ya:Hid (mh (bW r)=Bi r):=AO Jt (AQ Jt);have Yh:=ah hm;have hF:=J.fu;obtain⟨ag,cg,rfl,-⟩:=hg;obtain⟨af,cf,rfl,-⟩:=hf;obtain⟨ai,ci,rfl,-⟩:=hI;obtain⟨ar,cr,rfl,-⟩:=Js;obtain⟨Xx,Ym,Jr,X_,HB,Yj⟩:=h6 Xm Xl Y Jj hB Xk;clear hT hs hw J Jj hB Jv Xc Xm Xl Y hm Jt Yf Yg Jx Xh Xk;go_in;go_upto_region 1 with fail;rw[<-X_.out,<-HB.out];have HX:∀X,Bl W1 X->Hid (aK X B [.slice ag t.globals.length cg,.slice af t.funcs.length cf]/\aK X (B+1) [V 0,nV,V 0,V 0,V 0]/\Bl w X):=λX I=>⟨Xx.out.below I,Ym.out.below I,Jr X I⟩;have Xa:=HX W1 r_;have x0:=(Xa.out.1 0 _ rfl).1;have x1:=(Xa.out.1 1 _ rfl).1;obtain⟨Yp,Yv⟩:=hF;have Yz:¬F<0:=o_
 have Yu:¬100000<F:=o_;go_wp2_with fail;refine(Yi W1 r_).mono ?_;rintro e w2 ⟨rfl,Xn⟩;rw[Xn];go_wp2_with fail;refine(Xj W1 r_).mono ?_;rintro e w2 ⟨rfl,Jp⟩;have hQ:=HX w2 Jp;clear x0 x1 Xa Xj;have x0:=(hQ.out.1 0 _ rfl).1;have x1:=(hQ.out.1 1 _ rfl).1;go_wp2_with fail;refine(Yb w2 Jp).mono ?_;rintro e w3 ⟨rfl,Z⟩;have Z:=Jp.trans (Z.mono Jp.size);have Xg:=HX w3 Z;have x0:=(Xg.out.1 0 _ rfl).1;have x1:=(Xg.out.1 1 _ rfl).1;go_wp2_with fail;refine(Xi w3 Z).mono ?_;clear Xi x0 x1;rintro e w4 ⟨B0,P,bN,bM,gb,Wm,vB,S,rfl,Yd,Yk⟩;obtain⟨bB,cB,hC,Jy⟩:=Yn w3 Z Yd Yk;obtain⟨HC,Xs⟩:=h2 hC Jy;have Jm:=Yl (C:=startC w3 w4 t fr (.slice ag t.globals.length cg) (.slice af t.funcs.length cf) (.slice ar fr.length cr) P bN bM bB cB S gb) rfl rfl hC w4 Jy;have Ji:=ah Jm;have y2:=(Jy.box 2 _ rfl).1;obtain⟨nN,D,Xb,Jw⟩:=hC.num;have Xq:(Instr.lookup 77 (.map (some bN)) (sV ⟨#[109,97,105,110]⟩) false).run prog w4=.ok (V (m:Int)) w4:=i7 Xb Jw d_ Yh;have Ye:w4.cell? ⟨P,2,none⟩=some (.map (some bN)):=y2;go_wp2_with fail;refine Ji.out.mono ?_;rintro e w5 ⟨Yy,Yo,rfl,Jb,Xe,Xo⟩;have Jl:=Jb.out;obtain⟨oa,oc,rfl⟩:∃a c,Yo=.slice a s'.o.length c:=by
  obtain⟨g1,g2⟩:=Jl;rcases g2 with⟨h,h'⟩|⟨g,Yx,Yq,h,-⟩
  ·rw[h,h'];exact⟨_,_,rfl⟩
  ·exact⟨_,_,h⟩
 have J_:=Xe.size;unfold jR;obtain⟨W6,Jk⟩:=q_ (w5.alloc (.cells #[V (bW r),V (cI r)] 75));obtain⟨M,hM⟩:=q_ w5.heap.size;obtain⟨-,-,Xy,Xt,Xf⟩:=HC.out.pg;have Jd:Bl w3 w4:=HC.out.bel;have Xz:w3.heap.size<=P:=Xy;have Xw:P<w4.heap.size:=Xt;have Jg:Bl w3 w5:=Jb.tc.below Jd Jd.size (λk hk=>by
  rcases hk with h|h
  ·have h':k=P:=h;omega
  ·exact(Xf k h).1)
 have Jq:Bl w5 W6:=by rw[Jk];exact r_.alloc n_ _
 have Jo:Bl w3 W6:=Jg.trans (Jq.mono Jg.size);have Jf:Bl W1 W6:=Z.trans (Jo.mono Z.size);have hQ:=HX W6 Jf;have Jn:=Jb.box.below Jq;have Ju:aK W6 M [V (bW r),V (cI r)]:=by rw[Jk,hM];exact aH w5 _ _ (by show 2<=1000;omega)
 obtain⟨U,Jz⟩:∃U:Int,U=(s'.u:Int):=⟨_,rfl⟩;have Yc:0<=U/\U<=100000:=by have:=Jb.uu.1;omega
 rw[<-Jz]at Jn;have p7:W6.cell? ⟨P,7,none⟩=some (.slice oa s'.o.length oc):=(Jn 7 _ rfl).1;have p8:W6.cell? ⟨P,8,none⟩=some (V U):=(Jn 8 _ rfl).1;have Yw:W6.cell? ⟨P,11,none⟩=some (V s'.d):=(Jn 11 _ rfl).1;have m0:=(Ju 0 _ rfl).1;have m1:=(Ju 1 _ rfl).1;obtain⟨y0,z0⟩:=hQ.out.2.1 0 _ rfl;obtain⟨y1,z1⟩:=hQ.out.2.1 1 _ rfl;obtain⟨y2,z2⟩:=hQ.out.2.1 2 _ rfl;obtain⟨y3,z3⟩:=hQ.out.2.1 3 _ rfl;obtain⟨y4,z4⟩:=hQ.out.2.1 4 _ rfl;have Yt:IntKind.i64.wrap (F-U)=F-U:=by simp[IntKind.wrap,IntKind.bits,IntKind.signed];omega
 have Xr:B+1<w3.heap.size:=l_ Yj Z.size;have nP:¬B+1=P:=o_;have nM:¬B+1=M:=by have:=Jg.size;omega
 have Xd:Hid (∀X,X=(((((W6.setCell ⟨B+1,0,none⟩ (V (mh (bW r)))).setCell ⟨B+1,1,none⟩ (.slice oa s'.o.length oc)).setCell ⟨B+1,2,none⟩ (V (cI r))).setCell ⟨B+1,3,none⟩ (V (F-U))).setCell ⟨B+1,4,none⟩ (V s'.d)).drew->(X.cell? ⟨B+1,0,none⟩=some (V (mh (bW r)))/\X.cell? ⟨B+1,1,none⟩=some (.slice oa s'.o.length oc)/\X.cell? ⟨B+1,2,none⟩=some (V (cI r))/\X.cell? ⟨B+1,3,none⟩=some (V (F-U))/\X.cell? ⟨B+1,4,none⟩=some (V s'.d))/\EvA r s' F w (rW (.agg #[V (mh (bW r)),.slice oa s'.o.length oc,V (cI r),V (F-U),V s'.d])) X):=λX I=>by
  have Xp:w.heap.size<=B+1:=by rw[HB.out];omega
  have hm:=hQ.out.2.1;have h:=(((((hm.set 0 (V (mh (bW r)))).set 1 (.slice oa s'.o.length oc)).set 2 (V (cI r))).set 3 (V (F-U))).set 4 (V s'.d)).below r_.drew;have ht:ak (λk=>k=B+1) W6 X:=by
   rw[I];exact((((((ak.refl (λk=>k=B+1) W6).setCell (p:=⟨B+1,0,none⟩) rfl _).setCell (p:=⟨B+1,1,none⟩) rfl _).setCell (p:=⟨B+1,2,none⟩) rfl _).setCell (p:=⟨B+1,3,none⟩) rfl _).setCell (p:=⟨B+1,4,none⟩) rfl _).drew
  subst I;refine⟨⟨(h 0 _ rfl).1,(h 1 _ rfl).1,(h 2 _ rfl).1,(h 3 _ rfl).1,(h 4 _ rfl).1⟩,.slice oa s'.o.length oc,?_,?_,?_⟩
  ·rw[Ya.out,Jz]
  ·have h1:=ownB Jb.out Jq;have h2:=aO h1 ht (λk hk e=>by have h4:w4.heap.size<=k:=(World.ownsRow.lt Jb.out k hk).1;have e':k=B+1:=e;have:=Jd.size;omega);exact DY h2 (by have:=(Jr.out w3 Z).size;have:=Jd.size;show w.heap.size<=w4.heap.size;omega)
  ·exact ht.below (Jr W6 Jf) (Jr W6 Jf).size (λk hk=>by rw[hk];exact Xp)
 go_upto_region 5 with fail;rw[<-Jk,<-hM];obtain⟨Ys,HM⟩:=h2 Jk hM;clear Jk hM Jn Ju hQ HX Xs Jb Xe Xo Jl Jg Jo Jf Jq Jd Xf Xq Ye Jz HC Ji Z Xz Xw Xr J_;generalize bW r=er at*;generalize cI r=vr at*;generalize s'.o.length=ol at*;generalize s'.d=sd at*;go_region_held (λW=>W.cell? ⟨M,0,none⟩=some (V er)/\W.cell? ⟨M,1,none⟩=some (V vr)/\W.cell? ⟨P,7,none⟩=some (.slice oa ol oc)/\W.cell? ⟨P,8,none⟩=some (V U)/\W.cell? ⟨P,11,none⟩=some (V sd)) (go_keep)
  (first
  | ((with_reducible refine Calls.mono (pw er _) ?_);intro x wn hx;obtain⟨Xu,Xv⟩:=hx;subst Xu;subst Xv))
 go_wp2_with fail;obtain⟨X,I⟩:=q_ ((((((W6.setCell ⟨B+1,0,none⟩ (V (mh er))).setCell ⟨B+1,1,none⟩ (.slice oa ol oc)).setCell ⟨B+1,2,none⟩ (V vr)).setCell ⟨B+1,3,none⟩ (V (F-U))).setCell ⟨B+1,4,none⟩ (V sd)).drew);rw[<-I];obtain⟨⟨t0,t1,t2,t3,t4⟩,hE⟩:=Xd X I;exact bodyPost_ret (v:=.agg #[V (mh er),.slice oa ol oc,V vr,V (F-U),V sd]) (by simp[results,results10,go_sem,t0,t1,t2,t3,t4]) rfl hE
end
section
variable{t:Tr}{i fr:List Int}{F:Int}{m n:Nat}{r:ER}{s':ES}
def DZ(st:Int)(o:List Int)(ex us dp:Int)(w:AT)(e:Ending)(w':AT):Prop:=∃v,e=rW (.agg #[V st,v,V ex,V us,V dp])/\w'.ownsRow w.heap.size 2 1 v o.length (o.map (Value.int .i64))/\Bl w w'
def F_(t:Tr)(i fr:List Int)(F:Int)(P:AT->Ending->AT->Prop):Prop:=∀(W:AT) (xg xf xI xF:BY),eZ t->xQ t->cK W xg t.globals->bC W xf t.funcs->fW W xI i->fW W xF fr->i.length<=1048576->fr.length<=1048576->Calls prog 7 #[.agg #[xg,xf],xI,V F,xF] W λe w'=>P W e w'
def Fj(t:Tr)(i fr:List Int)(F:Int)(P:AT->Ending->AT->Prop):Prop:=∀(W:AT) (xg xf xI xF:BY),dq W->eZ t->xQ t->cK W xg t.globals->bC W xf t.funcs->fW W xI i->fW W xF fr->Calls prog 10 #[.agg #[xg,xf],xI,V F,xF] W λe w'=>P W e w'
def uF(h:¬gU t i fr F):F_ t i fr F (DZ 0 [] 0 0 0):=λW xg xf xI xF h1 h2 h3 h4 h5 h6 h7 h8=>(wQ t xg xf xI xF i fr F W h1 h2 h3 h4 h5 h6 h7 h8 h).mono λe w' h=>⟨nV,h.1,ownsRow_nil _ _ _ _,h.2⟩
def lr(h:¬gU t i fr F):Fj t i fr F (DZ 0 [] 0 0 0):=λW xg xf xI xF h0 h1 h2 h3 h4 h5 h6=>(xp t xg xf xI xF i fr F W h0 h1 h2 h3 h4 h5 h6 h).mono λe w' h=>⟨nV,h.1,ownsRow_nil _ _ _ _,h.2⟩
def mI(h:gU t i fr F)(hm:bO t.funcs di=some m)(hE:Ev t fr n (.c m []) (gv t i F) r s'):F_ t i fr F (DZ (Bi r) s'.o (cI r) (F-s'.u) s'.d):=λW xg xf xI xF h1 h2 h3 h4 h5 h6 h7 h8=>te t xg xf xI xF i fr F W h1 h2 h3 h4 h5 h6 h7 h8 h hm hE
def gI(h:gU t i fr F)(hm:bO t.funcs di=some m)(hE:Ev t fr n (.c m []) (gv t i F) r s'):Fj t i fr F (DZ (Bi r) s'.o (cI r) (F-s'.u) s'.d):=λW xg xf xI xF h0 h1 h2 h3 h4 h5 h6=>tr t xg xf xI xF i fr F W h0 h1 h2 h3 h4 h5 h6 h hm hE
theorem AR{k:Tk}{s:ES}(h:Ev t fr n k s r s'):Bi r≠0:=by
 cases r using ER.cs with
 | out c=>rcases h.outc c rfl with e|e <;> (subst e;decide)
 | val v=>show(1:Int)≠0;omega
 | on=>show(1:Int)≠0;omega
 | ret v=>show(1:Int)≠0;omega
theorem Cg(h:r ≠ .out 2):Bi r≠2:=by
 cases r using ER.cs with
 | out c=>exact λe=>h (by have e:c=2:=e;rw[e])
 | val v=>show(1:Int)≠2;omega
 | on=>show(1:Int)≠2;omega
 | ret v=>show(1:Int)≠2;omega
def AS(t:Tr)(i fr:List Int)(F x:Int)(hx:0<=x):∃st o ex us dp st2 o2 ex2 us2 dp2,Fj t i fr F (DZ st o ex us dp)/\F_ t i fr F (DZ st o ex us dp)/\Fj t i fr (F+x) (DZ st2 o2 ex2 us2 dp2) /\
  (st=0∨(st≠0/\100000<F+x/\st2=0)∨(¬100000<F+x/\st=2/\o <+:o2/\dp<=dp2/\us=F)∨(¬100000<F+x/\st≠0/\st≠2/\st2=st/\o2=o/\ex2=ex/\us2=us/\dp2=dp)):=by
 by_cases hok:gU t i fr F
 ·obtain⟨m,I⟩:=gh (dH hok.ck).2.1;by_cases hbig:100000<F+x
  ·obtain⟨n,r,s',J,-⟩:=pB fr hok.ck m (de I) [] (gv t i F);refine⟨_,_,_,_,_,_,_,_,_,_,gI hok I J,mI hok I J,lr (λh=>Ft h.fu),.inr (.inl ⟨?_,hbig,rfl⟩)⟩;exact AR J
  ·have U:gU t i fr (F+x):=⟨hok.ck,hok.il,hok.iw,Ft hok.fu,hok.fl,hok.fb⟩;obtain⟨n,r,z',Y,-⟩:=pB fr hok.ck m (de I) [] (gv t i (F+x));have he:gv t i (F+x)=(gv t i F).ad x.toNat:=by
    have:=hok.fu
    unfold gv ES.ad;simp only[ES.mk.injEq,true_and,and_true];omega
   rcases Y.less _ _ he with⟨s',rfl,J⟩|⟨s',J,Z⟩
   ·refine⟨_,_,_,_,_,_,_,_,_,_,gI hok I J,mI hok I J,gI U I Y,?_⟩;by_cases h2:r=.out 2
    ·exact .inr (.inr (.inl ⟨hbig,by rw[h2];rfl,prefix_refl _,Int.le_refl _,by rw[J.empty h2];simp⟩))
    ·exact .inr (.inr (.inr ⟨hbig,AR J,Cg h2,rfl,rfl,rfl,by show F+x-((s'.u+x.toNat:Nat):Int)=F-s'.u;omega,rfl⟩))
   ·exact⟨_,_,_,_,_,_,_,_,_,_,gI hok I J,mI hok I J,gI U I Y,.inr (.inr (.inl ⟨hbig,rfl,Z.1,Z.2,by rw[J.empty rfl];simp⟩))⟩
 ·by_cases U:gU t i fr (F+x)
  ·obtain⟨m,I⟩:=gh (dH U.ck).2.1;obtain⟨n,r,z',Y,-⟩:=pB fr U.ck m (de I) [] (gv t i (F+x));exact⟨_,_,_,_,_,_,_,_,_,_,lr hok,uF hok,gI U I Y,.inl rfl⟩
  ·exact⟨_,_,_,_,_,_,_,_,_,_,lr hok,uF hok,lr U,.inl rfl⟩
end
end Go.Proofs.YtffnkkpmlplfeaaGreatDoor
