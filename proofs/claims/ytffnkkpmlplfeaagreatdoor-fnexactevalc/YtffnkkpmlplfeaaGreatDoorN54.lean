import Derived.Test.YtffnkkpmlplfeaaGreatDoorN37
import Derived.Test.YtffnkkpmlplfeaaGreatDoorN42
import Derived.Test.YtffnkkpmlplfeaaGreatDoorN45
import Derived.Test.YtffnkkpmlplfeaaGreatDoorN53
import Derived.Test.YtffnkkpmlplfeaaGreatDoorN44
import Derived.Test.YtffnkkpmlplfeaaGreatDoorN38
import Derived.Lib.SmallJoins
namespace Go.Proofs.YtffnkkpmlplfeaaGreatDoor
open Go.Proofs.Tryz
open Go.RowKit
set_option linter.all false
set_option maxRecDepth 100000
set_option maxHeartbeats 16000000
structure OkRun [Inhabited Pick] (t:Tr) (i fr:List Int) (F:Int):Prop where
 ck:(checkE t).1=0
 il:i.length<=1000
 iw:i.all inBb=true
 fu:0<=F/\F<=100000
 fl:fr.length=t.funcs.length
 fb:fr.all frB=true
theorem evalG_bad [Inhabited Pick] (t:Tr) (vg vf vI vFr:Value) (i fr:List Int) (F:Int) (w:World) (hs:smallT t) (hw:wfT t) (hg:Globs w vg t.globals) (hf:Funcs w vf t.funcs) (hI:InN w vI i) (hFr:InN w vFr fr) (hil:i.length<=1048576) (hfl:fr.length<=1048576) (hno : ¬OkRun t i fr F) :
  Calls prog 7 #[.agg #[vg,vf],vI,.int .i64 F,vFr] w λe w'=>e=.returned zeroE/\Below w.heap.size w w':=by
 have hck : ∀X,Bl w X->Calls prog 24 #[.agg #[vg,vf]] X λe w'=>(∃x y,e=.returned (.agg #[.int .i64 (checkE t).1,.int .i64 x,.int .i64 y]))/\Bl X w':=λX hX=>(checkCG_any l3block t vg vf X hs hw (hg.below hX) (hf.below hX)).mono λe w' h=>⟨⟨_,_,h.1⟩,h.2⟩;by_cases h1:(checkE t).1=0
 ·by_cases h2:1000<i.length
  ·exact evalG_no t vg vf vI vFr i fr F w hck hg hf hI hFr hil hfl hs.2.1 (.inr (.inl h2))
  ·cases h3:i.all inBb with
   | false=>exact evalG_no t vg vf vI vFr i fr F w hck hg hf hI hFr hil hfl hs.2.1 (.inr (.inr (.inl h3)))
   | true=>
    by_cases h4:0<=F/\F<=100000
    ·by_cases h5:fr.length=t.funcs.length
     ·cases h6:fr.all frB with
      | false=>exact evalG_fr t vg vf vI vFr i fr F w hck hg hf hI hFr hil hfl hs.2.1 h1 o_ h3 h4 h5 h6
      | true=>exact absurd ⟨h1,by omega,h3,h4,h5,h6⟩ hno
     ·exact evalG_no t vg vf vI vFr i fr F w hck hg hf hI hFr hil hfl hs.2.1 (.inr (.inr (.inr (.inr h5))))
    ·exact evalG_no t vg vf vI vFr i fr F w hck hg hf hI hFr hil hfl hs.2.1 (.inr (.inr (.inr (.inl h4))))
 ·exact evalG_no t vg vf vI vFr i fr F w hck hg hf hI hFr hil hfl hs.2.1 (.inl h1)
theorem evalG_good [Inhabited Pick] (t:Tr) (vg vf vI vFr:Value) (i fr:List Int) (F:Int) (w:World) (hs:smallT t) (hw:wfT t) (hg:Globs w vg t.globals) (hf:Funcs w vf t.funcs) (hI:InN w vI i) (hFr:InN w vFr fr) (hil:i.length<=1048576) (hfl:fr.length<=1048576) (hok:OkRun t i fr F) {m n:Nat} {r:ER} {s':ES} (hm:fnum t.funcs mainS=some m) (hEv:Ev t fr n (.c m []) (s00 t i F) r s') :
  Calls prog 7 #[.agg #[vg,vf],vI,.int .i64 F,vFr] w λe w'=>EvA r s' F w e w':=by
 have hck : ∀X,Bl w X->Calls prog 24 #[.agg #[vg,vf]] X λe w'=>(∃x y,e=.returned (.agg #[.int .i64 (checkE t).1,.int .i64 x,.int .i64 y]))/\Bl X w':=λX hX=>(checkCG_any l3block t vg vf X hs hw (hg.below hX) (hf.below hX)).mono λe w' h=>⟨⟨_,_,h.1⟩,h.2⟩;exact evalG_go t vg vf vI vFr i fr F w hck hg hf hI hFr hil hfl hs.2.1 hok.ck hok.il hok.iw hok.fu hok.fl hok.fb hm hEv
theorem inN_below {w w':World} {v:Value} {l:List Int} (h:InN w v l) (hb:Below w.heap.size w w'):InN w' v l:=by
 obtain⟨a,c,rfl,h1,h2,h3⟩:=h;refine⟨a,c,rfl,h1,h2,λhn => ?_⟩;obtain⟨b,off,rfl,hc⟩:=h3 hn;exact⟨b,off,rfl,λj hj=>(hb.cell (p:=⟨b,_,none⟩) (b_ (hc j hj))).trans (hc j hj)⟩
theorem okRun_cases [Inhabited Pick] {t:Tr} {i fr:List Int} {F:Int} (h : ¬OkRun t i fr F):F<0∨(0<=F/\100000<F)∨((0<=F/\F<=100000)/\((decide (i.length<=1000) && i.all inBb)=false∨(decide (i.length<=1000) && i.all inBb)=true/\((decide (fr.length=t.funcs.length) && fr.all frB)=false∨(decide (fr.length=t.funcs.length) && fr.all frB)=true/\(checkE t).1≠0))):=by
 by_cases h1:F<0
 ·exact .inl h1
 by_cases h2:100000<F
 ·exact .inr (.inl ⟨by omega,h2⟩)
 refine .inr (.inr ⟨by omega,?_⟩);cases h3:(decide (i.length<=1000) && i.all inBb) with
 | false=>exact .inl rfl
 | true=>
  refine .inr ⟨rfl,?_⟩;cases h4:(decide (fr.length=t.funcs.length) && fr.all frB) with
  | false=>exact .inl rfl
  | true=>
   refine .inr ⟨rfl,λh5=>h ?_⟩;simp only[Bool.and_eq_true,decide_eq_true_eq] at h3 h4;exact⟨h5,h3.1,h3.2,by omega,h4.1,h4.2⟩
theorem evalI_bad [Inhabited Pick] (t:Tr) (vg vf vI vFr:Value) (i fr:List Int) (F:Int) (w:World) (hT:Tab w) (hs:smallT t) (hw:wfT t) (hg:Globs w vg t.globals) (hf:Funcs w vf t.funcs) (hI:InN w vI i) (hFr:InN w vFr fr) (hno : ¬OkRun t i fr F) :
  Calls prog 10 #[.agg #[vg,vf],vI,.int .i64 F,vFr] w λe w'=>e=.returned zeroE/\Below w.heap.size w w':=by
 have HN:=hide (okRun_cases hno);obtain⟨W1,hW1⟩ : ∃W1,W1=(w.alloc (.cells #[vg,vf] 34)).alloc (.cells #[.int .i64 0,.slice none 0 0,.int .i64 0,.int .i64 0,.int .i64 0] 29):=⟨_,rfl⟩;obtain⟨B,hB⟩ : ∃B,B=w.heap.size:=⟨_,rfl⟩;have hbA:Bl w (w.alloc (.cells #[vg,vf] 34)):=bel_a _ _;have hb1:Bl w W1:=by rw[hW1];exact hbA.alloc hbA.size _
 have hx1:FrC W1 B [vg,vf]:=by rw[hW1,hB];exact (box_fr w #[vg,vf] 34 (by show 2<=1000;omega)).below (bel_a _ _)
 have hm1:FrC W1 (B+1) [.int .i64 0,.slice none 0 0,.int .i64 0,.int .i64 0,.int .i64 0]:=by
  rw[hW1,hB];have:=box_fr (w.alloc (.cells #[vg,vf] 34)) #[.int .i64 0,.slice none 0 0,.int .i64 0,.int .i64 0,.int .i64 0] 29 (by show 5<=1000;omega)
  rw[World.size_alloc] at this;exact this
 have hup : ∀X,Bl W1 X->Bl w X:=λX hX=>hb1.trans (hX.mono hb1.size);obtain⟨ck,hck⟩ : ∃ck,ck=(checkE t).1:=⟨_,rfl⟩;obtain⟨b1,hb1'⟩ : ∃b1,b1=(decide (i.length<=1000) && i.all inBb):=⟨_,rfl⟩;obtain⟨b2,hb2'⟩ : ∃b2,b2=(decide (fr.length=t.funcs.length) && fr.all frB):=⟨_,rfl⟩;have HVi:Hid (∀X,Bl W1 X->Calls prog 35 #[vI] X λe w'=>e=.returned (.bool b1)/\w'=X):=λX hX=>by rw[hb1'];exact validInput_any vI i X (inN_below hI (hup X hX))
 have HVf:Hid (∀X,Bl W1 X->Calls prog 36 #[.agg #[vg,vf],vFr] X λe w'=>e=.returned (.bool b2)/\Bl X w'):=λX hX=>by rw[hb2'];exact validFrames_any vg vf vFr t.funcs fr X (hf.below (hup X hX)) (by obtain⟨a,c,e,-⟩:=hg;exact⟨a,_,c,e⟩) (inN_below hFr (hup X hX))
 have HSo:Hid (∀X,Bl W1 X->Calls prog 37 #[.agg #[vg,vf]] X λe w'=>e=.returned (.bool (decide (ck=0)))/\Bl X w'):=λX hX=>by
  have:=sound_any t vg vf X (hT.below hT.size (hup X hX)) hs hw (hg.below (hup X hX)) (hf.below (hup X hX))
  rw[<-hck] at this;exact this.mono λe w' h=>⟨by rw[h.1],h.2⟩
 rw[<-hck,<-hb1',<-hb2'] at HN;obtain⟨ag,cg,rfl,-⟩:=hg;obtain⟨af,cf,rfl,-⟩:=hf;obtain⟨ai,ci,rfl,-⟩:=hI;obtain⟨ar,cr,rfl,-⟩:=hFr;generalize t.globals.length=gl at *;generalize t.funcs.length=fl at *;generalize i.length=il at *;generalize fr.length=rl at *;have HX1:=hide hx1;have HM1:=hide hm1;have HUp:=hide hup;have HW1:=hide hW1;have HB:=hide hB;clear hT hs hw hno hW1 hB hbA hb1 hx1 hm1 hup hck hb1' hb2';go_enter func10,ntmps10;go_upto_region 1 with fail;rw[<-HW1.o,<-HB.o];have HX : ∀X,Bl W1 X->Hid (FrC X B [.slice ag gl cg,.slice af fl cf]/\FrC X (B+1) [.int .i64 0,.slice none 0 0,.int .i64 0,.int .i64 0,.int .i64 0]/\Bl w X):=λX hX=>⟨HX1.o.below hX,HM1.o.below hX,HUp X hX⟩;have hq1:=HX W1 r_;have x0:=(hq1.out.1 0 _ rfl).1;have x1:=(hq1.out.1 1 _ rfl).1;have HBM:Hid (w.heap.size<=B+1):=by show _<=_;rw[HB.o];omega
 rcases HN.o with hF|hF|⟨hF,hN⟩
 ·have hQ:=hq1;obtain⟨y0,z0⟩:=hQ.out.2.1 0 _ rfl;obtain⟨y1,z1⟩:=hQ.out.2.1 1 _ rfl;obtain⟨y2,z2⟩:=hQ.out.2.1 2 _ rfl;obtain⟨y3,z3⟩:=hQ.out.2.1 3 _ rfl;obtain⟨y4,z4⟩:=hQ.out.2.1 4 _ rfl;clear HN HX HVi HVf HSo hq1;go_wp2_with fail;obtain⟨⟨t0,t1,t2,t3,t4⟩,hE⟩:=zero_end hQ.out.2.1 hQ.out.2.2 (HBM) rfl;exact bodyPost_ret (v:=zeroE) (by simp[results,results10,go_sem,t0,t1,t2,t3,t4,zeroE]) rfl ⟨rfl,hE⟩
 ·have hQ:=hq1;obtain⟨hF0,hF1⟩:=hF;have hF2 : ¬F<0:=by omega
  obtain⟨y0,z0⟩:=hQ.out.2.1 0 _ rfl;obtain⟨y1,z1⟩:=hQ.out.2.1 1 _ rfl;obtain⟨y2,z2⟩:=hQ.out.2.1 2 _ rfl;obtain⟨y3,z3⟩:=hQ.out.2.1 3 _ rfl;obtain⟨y4,z4⟩:=hQ.out.2.1 4 _ rfl;clear HN HX HVi HVf HSo hq1;go_wp2_with fail;obtain⟨⟨t0,t1,t2,t3,t4⟩,hE⟩:=zero_end hQ.out.2.1 hQ.out.2.2 (HBM) rfl;exact bodyPost_ret (v:=zeroE) (by simp[results,results10,go_sem,t0,t1,t2,t3,t4,zeroE]) rfl ⟨rfl,hE⟩
 ·obtain⟨hF0,hF1⟩:=hF;have hF2 : ¬F<0:=by omega
  have hF3 : ¬100000<F:=by omega
  go_wp2_with fail;refine (HVi W1 r_).mono ?_;rintro e w2 ⟨rfl,hw2⟩;rw[hw2];clear hw2;rcases hN with rfl|⟨rfl,hN⟩
  ·have hQ:=hq1;obtain⟨y0,z0⟩:=hQ.out.2.1 0 _ rfl;obtain⟨y1,z1⟩:=hQ.out.2.1 1 _ rfl;obtain⟨y2,z2⟩:=hQ.out.2.1 2 _ rfl;obtain⟨y3,z3⟩:=hQ.out.2.1 3 _ rfl;obtain⟨y4,z4⟩:=hQ.out.2.1 4 _ rfl;clear HN HX HVi HVf HSo hq1;go_wp2_with fail;obtain⟨⟨t0,t1,t2,t3,t4⟩,hE⟩:=zero_end hQ.out.2.1 hQ.out.2.2 (HBM) rfl;exact bodyPost_ret (v:=zeroE) (by simp[results,results10,go_sem,t0,t1,t2,t3,t4,zeroE]) rfl ⟨rfl,hE⟩
  ·go_wp2_with fail;refine (HVf W1 r_).mono ?_;rintro e w2 ⟨rfl,hb2⟩;have hQ:=HX w2 hb2;have x0:=(hQ.out.1 0 _ rfl).1;have x1:=(hQ.out.1 1 _ rfl).1;rcases hN with rfl|⟨rfl,hN⟩
   ·clear hb2;obtain⟨y0,z0⟩:=hQ.out.2.1 0 _ rfl;obtain⟨y1,z1⟩:=hQ.out.2.1 1 _ rfl;obtain⟨y2,z2⟩:=hQ.out.2.1 2 _ rfl;obtain⟨y3,z3⟩:=hQ.out.2.1 3 _ rfl;obtain⟨y4,z4⟩:=hQ.out.2.1 4 _ rfl;clear HN HX HVi HVf HSo hq1;go_wp2_with fail;obtain⟨⟨t0,t1,t2,t3,t4⟩,hE⟩:=zero_end hQ.out.2.1 hQ.out.2.2 (HBM) rfl;exact bodyPost_ret (v:=zeroE) (by simp[results,results10,go_sem,t0,t1,t2,t3,t4,zeroE]) rfl ⟨rfl,hE⟩
   ·have hd:decide (ck=0)=false:=decide_eq_false hN;rw[hd] at HSo;clear hd hQ;go_wp2_with fail;refine (HSo w2 hb2).mono ?_;rintro e w3 ⟨rfl,hb3⟩;have hQ:=HX w3 (hb2.trans (hb3.mono hb2.size));clear hb2 hb3;obtain⟨y0,z0⟩:=hQ.out.2.1 0 _ rfl;obtain⟨y1,z1⟩:=hQ.out.2.1 1 _ rfl;obtain⟨y2,z2⟩:=hQ.out.2.1 2 _ rfl;obtain⟨y3,z3⟩:=hQ.out.2.1 3 _ rfl;obtain⟨y4,z4⟩:=hQ.out.2.1 4 _ rfl;clear HN HX HVi HVf HSo hq1;go_wp2_with fail;obtain⟨⟨t0,t1,t2,t3,t4⟩,hE⟩:=zero_end hQ.out.2.1 hQ.out.2.2 (HBM) rfl;exact bodyPost_ret (v:=zeroE) (by simp[results,results10,go_sem,t0,t1,t2,t3,t4,zeroE]) rfl ⟨rfl,hE⟩
section
variable {t:Tr} {n:Nat} {s':ES} {r:ER} {l:List Int}
theorem sum_in {l:List St} {s:St} (h:s∈l):s.e.length+s.f.length<=nodeSum l:=by
 induction l with
 | nil=>cases h
 | cons x r ih=>
  simp only[nodeSum];rcases List.mem_cons.1 h with rfl|h
  ·omega
  ·have:=ih h;omega
theorem tree_sizes [Inhabited Pick] (h:(checkE t).1=0):t.globals.length<=50/\t.funcs.length<=50/\(∀g∈t.globals,(0<=g.size/\g.size<=4000)/\g.name.size<=maxLen)/\∀f∈t.funcs,fitB f.body=true/\(∀s∈f.body,stmtB s=true/\s.e.length<=2000/\s.f.length<=2000)/\f.body.length<=1000:=by
 have h1:=(sound_snd h).1;simp only[treeB,Bool.and_eq_true,decide_eq_true_eq,List.all_eq_true] at h1;obtain⟨q1,q2,q3,q4⟩:=h1;refine⟨q1,q2,λg hg => ?_,λf hf => ?_⟩
 ·have:=q3 g hg
  unfold globB at this;simp only[Bool.and_eq_true,decide_eq_true_eq] at this;exact⟨this.2,by
   have h0:=this.1;simp only[nameB,decide_eq_true_eq] at h0;have:=h0.2.1
   unfold maxLen;omega⟩
 ·have:=q4 f hf
  simp only[funcB,Bool.and_eq_true,decide_eq_true_eq,stmtsB,List.all_eq_true] at this;obtain⟨-,-,p3,-,⟨p5,p6⟩,p7⟩:=this;exact⟨p7,λs hs=>⟨p6 s hs,by have:=sum_in hs;omega,by have:=sum_in hs;omega⟩,by omega⟩
theorem own_lo {w:World} {B B' size:Nat} {e:TypeId} {v:Value} {xs:List Value} (h:w.ownsRow B e size v n xs) (hb:B'<=B):w.ownsRow B' e size v n xs:=by
 obtain⟨hx,h|⟨g,cap,cur,rfl,h1,h2,h3⟩⟩:=h
 ·exact⟨hx,.inl h⟩
 ·exact⟨hx,.inr ⟨g,cap,cur,rfl,t_ hb h1,h2,h3⟩⟩
theorem ev_c_val [Inhabited Pick] {fr:List Int} {f:Nat} {vs:List Int} {s:ES} (h:Ev t fr n (.c f vs) s r s') : ∀v,r ≠ .ret v:=by
 cases h using Ev_i with
 | run n f vs z hf r z' h1=>cases r using ER.cs <;> simp[ER.back]
theorem all_frB (h:l.all frB=true) : ∀x∈l,0<=x/\x<=1000000000:=λx hx=>by
 have:=List.all_eq_true.1 h x hx
 unfold frB at this;simp only[decide_eq_true_eq] at this;omega
theorem all_inB (h:l.all inBb=true) : ∀x∈l,inB x:=λx hx=>by have:=List.all_eq_true.1 h x hx;unfold inBb at this;unfold inB;simpa using this
theorem evalI_good [Inhabited Pick] (t:Tr) (vg vf vI vFr:Value) (i fr:List Int) (F:Int) (w:World) (hT:Tab w) (hs:smallT t) (hw:wfT t) (hg:Globs w vg t.globals) (hf:Funcs w vf t.funcs) (hI:InN w vI i) (hFr:InN w vFr fr) (hok:OkRun t i fr F) {m:Nat} (hm:fnum t.funcs mainS=some m) (hEv:Ev t fr n (.c m []) (s00 t i F) r s') :
  Calls prog 10 #[.agg #[vg,vf],vI,.int .i64 F,vFr] w λe w'=>EvA r s' F w e w':=by
 obtain⟨W1,hW1⟩ : ∃W1,W1=(w.alloc (.cells #[vg,vf] 34)).alloc (.cells #[.int .i64 0,.slice none 0 0,.int .i64 0,.int .i64 0,.int .i64 0] 29):=⟨_,rfl⟩;obtain⟨B,hB⟩ : ∃B,B=w.heap.size:=⟨_,rfl⟩;have hbA:Bl w (w.alloc (.cells #[vg,vf] 34)):=bel_a _ _;have hb1:Bl w W1:=by rw[hW1];exact hbA.alloc hbA.size _
 have hx1:FrC W1 B [vg,vf]:=by rw[hW1,hB];exact (box_fr w #[vg,vf] 34 (by show 2<=1000;omega)).below (bel_a _ _)
 have hm1:FrC W1 (B+1) [.int .i64 0,.slice none 0 0,.int .i64 0,.int .i64 0,.int .i64 0]:=by
  rw[hW1,hB];have:=box_fr (w.alloc (.cells #[vg,vf] 34)) #[.int .i64 0,.slice none 0 0,.int .i64 0,.int .i64 0,.int .i64 0] 29 (by show 5<=1000;omega)
  rw[World.size_alloc] at this;exact this
 have hz1:B+1<W1.heap.size:=by rw[hW1,hB,World.size_alloc,World.size_alloc];omega
 have hup : ∀X,Bl W1 X->Bl w X:=λX hX=>hb1.trans (hX.mono hb1.size);have HVi:Hid (∀X,Bl W1 X->Calls prog 35 #[vI] X λe w'=>e=.returned (.bool true)/\w'=X):=λX hX=>by
  have:=validInput_any vI i X (inN_below hI (hup X hX))
  rw[decide_eq_true hok.il,hok.iw] at this;exact this
 have HVf:Hid (∀X,Bl W1 X->Calls prog 36 #[.agg #[vg,vf],vFr] X λe w'=>e=.returned (.bool true)/\Bl X w'):=λX hX=>by
  have:=validFrames_any vg vf vFr t.funcs fr X (hf.below (hup X hX)) (by obtain⟨a,c,e,-⟩:=hg;exact⟨a,_,c,e⟩) (inN_below hFr (hup X hX))
  rw[decide_eq_true hok.fl,hok.fb] at this;exact this
 have HSo:Hid (∀X,Bl W1 X->Calls prog 37 #[.agg #[vg,vf]] X λe w'=>e=.returned (.bool true)/\Bl X w'):=λX hX=>by
  have:=sound_any t vg vf X (hT.below hT.size (hup X hX)) hs hw (hg.below (hup X hX)) (hf.below (hup X hX))
  exact this.mono λe w' h=>⟨by rw[h.1,decide_eq_true hok.ck],h.2⟩
 obtain⟨ts1,ts2,ts3,ts4⟩:=tree_sizes hok.ck;have HNe:=hide λX (hX:Bl W1 X)=>newE_any t vg vf vI vFr F X o_ o_ hw.2 (hf.below (hup X hX)) (hg.below (hup X hX)) (hT.below hT.size (hup X hX)) ts4 (λg hg=>(ts3 g hg).1) (λg hg=>(ts3 g hg).2) (globs_apart hok.ck) (by obtain⟨a,c,e,-⟩:=hI;exact⟨a,_,c,e⟩) (by obtain⟨a,c,e,-⟩:=hFr;exact⟨a,_,c,e⟩);have hml:=fnum_lt hm;have HSt:Hid (∀X,Bl W1 X->∀ {W Wm:World} {vB:Value} {B0 P bN bM:Nat} {gb:List Nat} {S:Nat->Prop},NwB X t vg vf vI F vFr B0 P bN bM t.globals.length gb Wm->NwC t vg vf vI F vFr P bN bM Wm t.funcs.length vB S W->∃bB cB,(startC X W t fr vg vf vFr P bN bM bB cB S gb).Ok/\IS (startC X W t fr vg vf vFr P bN bM bB cB S gb) W none vI (.slice none 0 0) (s00 t i F)):=λX hX {W Wm vB B0 P bN bM gb S} h1 h2=>ev_start h1 h2 (hf.below (hup X hX)) (inN_below hFr (hup X hX)) (inN_below hI (hup X hX)) hok.ck hok.fl (all_frB hok.fb) ⟨by omega,by omega⟩ o_ hok.fu (all_inB hok.iw);have HMc:Hid (∀ {C:IC},C.t=t->C.fr=fr->C.Ok->∀W,IS C W none vI (.slice none 0 0) (s00 t i F)->Calls prog 39 #[.pointer (some ⟨C.P,0,none⟩),.int .i64 (m:Int),.slice none 0 0] W λx w'=>ExQ C W none (.slice none 0 0) r s' x w'):=λ{C} e1 e2 hC W h=>by
  subst e1;subst e2;exact main_call hC hok.fu h hEv (λhl=>List.eq_nil_of_length_eq_zero (main_par hok.ck hm hl).symm)
 have HRe:Hid (stOf (endR r)=stE r):=stOf_end hEv (ev_c_val hEv);have HFm:=hide hm;have hF:=hok.fu;obtain⟨ag,cg,rfl,-⟩:=hg;obtain⟨af,cf,rfl,-⟩:=hf;obtain⟨ai,ci,rfl,-⟩:=hI;obtain⟨ar,cr,rfl,-⟩:=hFr;obtain⟨HX1,HM1,HUp,HW1,HB,HZ1⟩:=h6 hx1 hm1 hup hW1 hB hz1;clear hT hs hw hok hW1 hB hbA hb1 hx1 hm1 hup hm hEv ts1 ts2 ts3 ts4 hz1;go_enter func10,ntmps10;go_upto_region 1 with fail;rw[<-HW1.o,<-HB.o];have HX : ∀X,Bl W1 X->Hid (FrC X B [.slice ag t.globals.length cg,.slice af t.funcs.length cf]/\FrC X (B+1) [.int .i64 0,.slice none 0 0,.int .i64 0,.int .i64 0,.int .i64 0]/\Bl w X):=λX hX=>⟨HX1.o.below hX,HM1.o.below hX,HUp X hX⟩;have hq1:=HX W1 r_;have x0:=(hq1.out.1 0 _ rfl).1;have x1:=(hq1.out.1 1 _ rfl).1;obtain⟨hF0,hF1⟩:=hF;have hF2 : ¬F<0:=by omega
 have hF3 : ¬100000<F:=by omega
 go_wp2_with fail;refine (HVi W1 r_).mono ?_;rintro e w2 ⟨rfl,hw2⟩;rw[hw2];go_wp2_with fail;refine (HVf W1 r_).mono ?_;rintro e w2 ⟨rfl,hb2⟩;have hQ:=HX w2 hb2;clear x0 x1 hq1 HVf;have x0:=(hQ.out.1 0 _ rfl).1;have x1:=(hQ.out.1 1 _ rfl).1;go_wp2_with fail;refine (HSo w2 hb2).mono ?_;rintro e w3 ⟨rfl,hb3⟩;have hb3:=hb2.trans (hb3.mono hb2.size);have hQ3:=HX w3 hb3;have x0:=(hQ3.out.1 0 _ rfl).1;have x1:=(hQ3.out.1 1 _ rfl).1;go_wp2_with fail;refine (HNe w3 hb3).mono ?_;clear HNe x0 x1;rintro e w4 ⟨B0,P,bN,bM,gb,Wm,vB,S,rfl,hNB,hNC⟩;obtain⟨bB,cB,hC,hIS⟩:=HSt w3 hb3 hNB hNC;obtain⟨HC,HIS⟩:=h2 hC hIS;have hcall:=HMc (C:=startC w3 w4 t fr (.slice ag t.globals.length cg) (.slice af t.funcs.length cf) (.slice ar fr.length cr) P bN bM bB cB S gb) rfl rfl hC w4 hIS;have HCall:=hide hcall;have y2:=(hIS.box 2 _ rfl).1;obtain⟨nN,D,hnum,hNum⟩:=hC.num;have hlk:(Instr.lookup 77 (.map (some bN)) (.string ⟨#[109,97,105,110]⟩) false).run prog w4=.ok (.int .i64 (m:Int)) w4:=look_num1 hnum hNum (by decide) HFm;have y2':w4.cell? ⟨P,2,none⟩=some (.map (some bN)):=y2;go_wp2_with fail;refine HCall.o.mono ?_;rintro e w5 ⟨vI5,vO5,rfl,hIS5,ht5,ho5⟩;have hout:=hIS5.out;obtain⟨oa,oc,rfl⟩ : ∃a c,vO5=.slice a s'.o.length c:=by
  obtain⟨g1,g2⟩:=hout;rcases g2 with ⟨h,h'⟩|⟨g,cap,cur,h,-⟩
  ·rw[h,h'];exact⟨_,_,rfl⟩
  ·exact⟨_,_,h⟩
 have hw45:=ht5.size;unfold outV;obtain⟨W6,hW6⟩ : ∃W6,W6=w5.alloc (.cells #[.int .i64 (endR r),.int .i64 (valR r)] 75):=⟨_,rfl⟩;obtain⟨M,hM⟩ : ∃M,M=w5.heap.size:=⟨_,rfl⟩;obtain⟨-,-,pg3,pg4,pg5⟩:=HC.o.pg;have hbel:Bl w3 w4:=HC.o.bel;have hP3:w3.heap.size<=P:=pg3;have hP4:P<w4.heap.size:=pg4;have hb35:Bl w3 w5:=hIS5.tc.below hbel hbel.size (λk hk=>by
  rcases hk with h|h
  ·have h':k=P:=h;omega
  ·exact (pg5 k h).1)
 have hb6:Bl w5 W6:=by rw[hW6];exact r_.alloc n_ _
 have hb36:Bl w3 W6:=hb35.trans (hb6.mono hb35.size);have hb16:Bl W1 W6:=hb3.trans (hb36.mono hb3.size);have hQ:=HX W6 hb16;have hbx:=hIS5.box.below hb6;have hxM:FrC W6 M [.int .i64 (endR r),.int .i64 (valR r)]:=by rw[hW6,hM];exact box_fr w5 _ _ (by show 2<=1000;omega)
 obtain⟨su,hsu⟩ : ∃su:Int,su=(s'.u:Int):=⟨_,rfl⟩;have hsu1:0<=su/\su<=100000:=by have:=hIS5.uu.1;omega
 rw[<-hsu] at hbx;have p7:W6.cell? ⟨P,7,none⟩=some (.slice oa s'.o.length oc):=(hbx 7 _ rfl).1;have p8:W6.cell? ⟨P,8,none⟩=some (.int .i64 su):=(hbx 8 _ rfl).1;have p11:W6.cell? ⟨P,11,none⟩=some (.int .i64 s'.d):=(hbx 11 _ rfl).1;have m0:=(hxM 0 _ rfl).1;have m1:=(hxM 1 _ rfl).1;obtain⟨y0,z0⟩:=hQ.out.2.1 0 _ rfl;obtain⟨y1,z1⟩:=hQ.out.2.1 1 _ rfl;obtain⟨y2,z2⟩:=hQ.out.2.1 2 _ rfl;obtain⟨y3,z3⟩:=hQ.out.2.1 3 _ rfl;obtain⟨y4,z4⟩:=hQ.out.2.1 4 _ rfl;have hwr:IntKind.i64.wrap (F-su)=F-su:=by simp[IntKind.wrap,IntKind.bits,IntKind.signed];omega
 have hBP:B+1<w3.heap.size:=l_ HZ1 hb3.size;have nP : ¬B+1=P:=by omega
 have nM : ¬B+1=M:=by have:=hb35.size;omega
 have HFin:Hid (∀X,X=(((((W6.setCell ⟨B+1,0,none⟩ (.int .i64 (stOf (endR r)))).setCell ⟨B+1,1,none⟩ (.slice oa s'.o.length oc)).setCell ⟨B+1,2,none⟩ (.int .i64 (valR r))).setCell ⟨B+1,3,none⟩ (.int .i64 (F-su))).setCell ⟨B+1,4,none⟩ (.int .i64 s'.d)).drew->(X.cell? ⟨B+1,0,none⟩=some (.int .i64 (stOf (endR r)))/\X.cell? ⟨B+1,1,none⟩=some (.slice oa s'.o.length oc)/\X.cell? ⟨B+1,2,none⟩=some (.int .i64 (valR r))/\X.cell? ⟨B+1,3,none⟩=some (.int .i64 (F-su))/\X.cell? ⟨B+1,4,none⟩=some (.int .i64 s'.d))/\EvA r s' F w (.returned (.agg #[.int .i64 (stOf (endR r)),.slice oa s'.o.length oc,.int .i64 (valR r),.int .i64 (F-su),.int .i64 s'.d])) X):=λX hX=>by
  have hM1:w.heap.size<=B+1:=by rw[HB.o];omega
  have hm:=hQ.out.2.1;have h:=(((((hm.set 0 (.int .i64 (stOf (endR r)))).set 1 (.slice oa s'.o.length oc)).set 2 (.int .i64 (valR r))).set 3 (.int .i64 (F-su))).set 4 (.int .i64 s'.d)).below r_.drew;have ht:Tcs (λk=>k=B+1) W6 X:=by
   rw[hX];exact ((((((Tcs.refl (λk=>k=B+1) W6).setCell (p:=⟨B+1,0,none⟩) rfl _).setCell (p:=⟨B+1,1,none⟩) rfl _).setCell (p:=⟨B+1,2,none⟩) rfl _).setCell (p:=⟨B+1,3,none⟩) rfl _).setCell (p:=⟨B+1,4,none⟩) rfl _).drew
  subst hX;refine⟨⟨(h 0 _ rfl).1,(h 1 _ rfl).1,(h 2 _ rfl).1,(h 3 _ rfl).1,(h 4 _ rfl).1⟩,.slice oa s'.o.length oc,?_,?_,?_⟩
  ·rw[HRe.o,hsu]
  ·have h1:=ownB hIS5.out hb6;have h2:=own_notU h1 ht (λk hk e=>by have h4:w4.heap.size<=k:=(World.ownsRow.lt hIS5.out k hk).1;have e':k=B+1:=e;have:=hbel.size;omega);exact own_lo h2 (by have:=(HUp.o w3 hb3).size;have:=hbel.size;show w.heap.size<=w4.heap.size;omega)
  ·exact ht.below (HUp W6 hb16) (HUp W6 hb16).size (λk hk=>by rw[hk];exact hM1)
 go_upto_region 5 with fail;rw[<-hW6,<-hM];obtain⟨HW6,HM⟩:=h2 hW6 hM;clear hW6 hM hbx hxM hQ HX HIS hIS5 ht5 ho5 hout hb35 hb36 hb16 hb6 hbel pg5 hlk y2' hsu HC HCall hb3 hP3 hP4 hBP hw45;generalize endR r=er at *;generalize valR r=vr at *;generalize s'.o.length=ol at *;generalize s'.d=sd at *;go_region_held (λW=>W.cell? ⟨M,0,none⟩=some (.int .i64 er)/\W.cell? ⟨M,1,none⟩=some (.int .i64 vr)/\W.cell? ⟨P,7,none⟩=some (.slice oa ol oc)/\W.cell? ⟨P,8,none⟩=some (.int .i64 su)/\W.cell? ⟨P,11,none⟩=some (.int .i64 sd)) (go_keep)
  (first
  | ((with_reducible refine Calls.mono (statusOf_any er _) ?_);intro x wn hx;obtain⟨hxe,hwn⟩:=hx;subst hxe;subst hwn))
 go_wp2_with fail;obtain⟨X,hX⟩ : ∃X,X=(((((W6.setCell ⟨B+1,0,none⟩ (.int .i64 (stOf er))).setCell ⟨B+1,1,none⟩ (.slice oa ol oc)).setCell ⟨B+1,2,none⟩ (.int .i64 vr)).setCell ⟨B+1,3,none⟩ (.int .i64 (F-su))).setCell ⟨B+1,4,none⟩ (.int .i64 sd)).drew:=⟨_,rfl⟩;rw[<-hX];obtain⟨⟨t0,t1,t2,t3,t4⟩,hE⟩:=HFin X hX;exact bodyPost_ret (v:=.agg #[.int .i64 (stOf er),.slice oa ol oc,.int .i64 vr,.int .i64 (F-su),.int .i64 sd]) (by simp[results,results10,go_sem,t0,t1,t2,t3,t4]) rfl hE
end
theorem ev_both [Inhabited Pick] (t:Tr) (i fr:List Int) (F:Int) : ∃a:EvR,a.out.length<=100000000 /\
  (∀(W:World) (xg xf xI xF:Value),smallT t->wfT t->Globs W xg t.globals->Funcs W xf t.funcs->InN W xI i->InN W xF fr->i.length<=1048576->fr.length<=1048576->Calls prog 7 #[.agg #[xg,xf],xI,.int .i64 F,xF] W λe w'=>EvB a W e w') /\
  ∀(W:World) (xg xf xI xF:Value),Tab W->smallT t->wfT t->Globs W xg t.globals->Funcs W xf t.funcs->InN W xI i->InN W xF fr->Calls prog 10 #[.agg #[xg,xf],xI,.int .i64 F,xF] W λe w'=>EvB a W e w':=by
 by_cases hok:OkRun t i fr F
 ·obtain⟨m,hm⟩:=names_ok_main (sound_snd hok.ck).2.1;obtain⟨n,r,s',hEv,-⟩:=ev_main fr hok.ck m (fnum_lt hm) [] (s00 t i F);refine⟨⟨stE r,s'.o,valR r,F-s'.u,s'.d⟩,?_,λW xg xf xI xF h1 h2 h3 h4 h5 h6 h7 h8 => ?_,λW xg xf xI xF h0 h1 h2 h3 h4 h5 h6 => ?_⟩
  ·have:=hEv.ou.2.1
   have hF:=hok.fu;have e1:(s00 t i F).u=F.toNat:=rfl;have e2:(s00 t i F).o.length=0:=rfl;have e3:(Tk.c m []).d=0:=rfl;show s'.o.length<=100000000;omega
  ·exact evalG_good t xg xf xI xF i fr F W h1 h2 h3 h4 h5 h6 h7 h8 hok hm hEv
  ·exact evalI_good t xg xf xI xF i fr F W h0 h1 h2 h3 h4 h5 h6 hok hm hEv
 ·refine⟨⟨0,[],0,0,0⟩,by simp,λW xg xf xI xF h1 h2 h3 h4 h5 h6 h7 h8 => ?_,λW xg xf xI xF h0 h1 h2 h3 h4 h5 h6 => ?_⟩
  ·exact (evalG_bad t xg xf xI xF i fr F W h1 h2 h3 h4 h5 h6 h7 h8 hok).mono λe w' h=>⟨.slice none 0 0,h.1,World.ownsRow_nil _ _ _ _,h.2⟩
  ·exact (evalI_bad t xg xf xI xF i fr F W h0 h1 h2 h3 h4 h5 h6 hok).mono λe w' h=>⟨.slice none 0 0,h.1,World.ownsRow_nil _ _ _ _,h.2⟩
theorem law_evalC (t:Tr) (vg vf vI vFr:Value) (i fr:List Int) (F:Int) (w:World) (hT:Tab w) (hw:wfT t) (hg:Globs w vg t.globals) (hf:Funcs w vf t.funcs) (hI:RdI w vI i) (hFr:RdI w vFr fr) :
  Calls prog 3 #[.agg #[vg,vf],vI,.int .i64 F,vFr] w λe w'=>e=.returned (.bool true)/\Below w.heap.size w w':=by
 haveI : Inhabited Pick := ⟨⟨λ_ h => Classical.choice h⟩⟩
 obtain⟨a,h1,h2,h3⟩:=ev_both t i fr F;exact law_eval t vg vf vI vFr i fr F w a hT hw hg hf hI hFr h1 h2 h3
section
open Go.RowKit Go.Deep Go.ChangeShapes Go.WideShapes
section
variable {t:TypeId} {fuel m:Nat} {cs:List Value} {v c:Value}
variable {H:Type} {enc:TypeId × Value->H} {W:World} {base:Nat} {spare:Nat->Bool} {held:Bool}
theorem fields1 {fs:Array Field} {x:DataW H × List MemPlace} (ht:prog.underlying t=some (.struct fs)) (hone:oneCellFields prog fs=true) (hC:prog.cellsOf t=fs.size) (h:DataW.trod enc prog W base spare held fuel t cs=some x) :
  ∃n,cs.length=fs.size/\∀i f,fs[i]? = some f->∃y,DataW.trod enc prog W base spare held n f.type [cs.getD i .nilFunc]=some y:=by
 obtain⟨xs,n,_,_,hl,hx,hf⟩:=DataW.trod_struct ht h;refine⟨n,hl.trans hC,λi f hi => ?_⟩;have hlt:i<fs.size:=(Array.getElem?_eq_some_iff.1 hi).1;obtain⟨o,c⟩:=hone_of hone i f hi;have:=hf i f hi
 rw[o,c,take1_drop cs i .nilFunc o_] at this;rw[this];exact⟨xs[i]' o_,by simp⟩
theorem elem_cells {b off i k:Nat} (h:W.cells? base ((⟨b,off,none⟩:Addr).add (i*m)) m=some cs) (hk:k<m):W.cell? ⟨b,off+i*m+k,none⟩=cs[k]? := by
 obtain⟨_,_,hc⟩:=World.cells?_some h;have:=hc k hk
 rw[add_add] at this;rw[<-this];congr 1
 simp only[Addr.add];split
 ·simp only[Addr.mk.injEq,and_true,true_and];omega
 ·simp only[Addr.mk.injEq,and_true,true_and];omega
theorem spot_none {a:Addr} (h:W.cells? base (a.add (0*m)) m=some cs) (hm:0<m) : ∃b off,a=⟨b,off,none⟩:=by
 obtain⟨b,off,spot⟩:=a;obtain⟨_,hl,hc⟩:=World.cells?_some h;have h0:=hc 0 hm;rw[List.getElem?_eq_getElem o_] at h0;have hs:spot=none:=by simpa[Addr.add] using World.cell?_spot h0
 exact⟨b,off,by rw[hs]⟩
theorem slice_list {α : Type} (i0 : α) {e:TypeId} {x:DataW H × List MemPlace} (ht:prog.underlying t=some (.slice e)) (hm:prog.cellsOf e=m) (hpos:0<m) (P:α->List Value->Prop)
  (hel : ∀n cs y,DataW.trod enc prog W base spare held n e cs=some y->∃z,P z cs) (h:DataW.trod enc prog W base spare held fuel t [v]=some x) :
  ∃(a:Option Addr) (ns:List α) (cap:Nat),v=.slice a ns.length cap/\ns.length<=cap/\cap<=9223372036854775807/\(∀z∈ns,∃cs,P z cs) /\
   (0<ns.length->∃b off,a=some ⟨b,off,none⟩/\∀j (hj:j<ns.length),∃cs,P ns[j] cs/\∀k,k<m->W.cell? ⟨b,off+j*m+k,none⟩=cs[k]?):=by
 haveI : Inhabited α := ⟨i0⟩
 rcases open_slice ht h with ⟨hc,_⟩|⟨a,len,cap,mm,n,D,Pl,hcs,_,hl,hcap,hmm,_,hx⟩
 ·simp only[List.cons.injEq,and_true] at hc;subst hc;exact⟨none,[],0,rfl,n_,by omega,by simp,λh=>absurd h (Nat.lt_irrefl _)⟩
 ·simp only[List.cons.injEq,and_true] at hcs;subst hcs;unfold maxLen at hcap;rw[hm] at hx;have hle:len<=mm:=by rw[hmm];split <;> omega
  obtain⟨f,hf⟩:=choose_lt (α:=α) (n:=len) (p:=λi z=>∃cs,P z cs/\W.cells? base (a.add (i*m)) m=some cs) (λi hi=>by
   obtain⟨cs,h1,h2⟩:=hx i o_;obtain⟨z,hz⟩:=hel _ _ _ h2;exact⟨z,cs,hz,h1⟩)
  refine⟨some a,(List.range len).map f,cap,by simp,by simpa using hl,by omega,λz hz => ?_,λh0 => ?_⟩
  ·obtain⟨i,hi,rfl⟩:=List.mem_map.1 hz;obtain⟨cs,h1,_⟩:=hf i (List.mem_range.1 hi);exact⟨cs,h1⟩
  ·simp only[List.length_map,List.length_range] at h0;obtain⟨cs0,_,hc0⟩:=hf 0 h0;obtain⟨b,off,rfl⟩:=spot_none hc0 hpos;refine⟨b,off,rfl,λj hj => ?_⟩;simp only[List.length_map,List.length_range] at hj;obtain⟨cs,h1,h2⟩:=hf j hj;refine⟨cs,by simpa using h1,λk hk=>elem_cells h2 hk⟩
def cellsN (n:Nd) (cs:List Value):Prop:=cs = [.int .i64 n.kind,.int .i64 n.val,.string n.name]/\n.name.size<=9223372036854775807
theorem list3 (h:cs.length=3):cs = [cs.getD 0 .nilFunc,cs.getD 1 .nilFunc,cs.getD 2 .nilFunc]:=by
 match cs,h with
 | [a,b,c],_=>rfl
theorem list2 (h:cs.length=2):cs = [cs.getD 0 .nilFunc,cs.getD 1 .nilFunc]:=by
 match cs,h with
 | [a,b],_=>rfl
theorem list6 (h:cs.length=6):cs = [cs.getD 0 .nilFunc,cs.getD 1 .nilFunc,cs.getD 2 .nilFunc,cs.getD 3 .nilFunc,cs.getD 4 .nilFunc,cs.getD 5 .nilFunc]:=by
 match cs,h with
 | [a,b,c,d,e,f],_=>rfl
theorem rd_int {y:DataW H × List MemPlace} (h:DataW.trod enc prog W base spare held fuel 2 [c]=some y) : ∃z:Int,c=.int .i64 z:=by
 obtain⟨z,hz,_,_⟩:=DataW.trod_int underlying2 h;exact⟨z,by simpa using hz⟩
theorem rd_str {y:DataW H × List MemPlace} (h:DataW.trod enc prog W base spare held fuel 9 [c]=some y) : ∃s:ByteArray,c=.string s/\s.size<=9223372036854775807:=by
 obtain⟨s,hs,_,hm⟩:=DataW.trod_string underlying9 h;unfold maxLen at hm;exact⟨s,by simpa using hs,by omega⟩
theorem rd_node {y:DataW H × List MemPlace} (h:DataW.trod enc prog W base spare held fuel 294 cs=some y) : ∃n,cellsN n cs:=by
 obtain⟨n,hl,hf⟩:=fields1 underlying294 k_ k_ h;obtain⟨_,h0⟩:=hf 0 _ rfl;obtain⟨_,h1⟩:=hf 1 _ rfl;obtain⟨_,h2⟩:=hf 2 _ rfl;obtain⟨k,e0⟩:=rd_int h0;obtain⟨v,e1⟩:=rd_int h1;obtain⟨s,e2,hs⟩:=rd_str h2;exact⟨⟨k,v,s⟩,by rw[list3 hl,e0,e1,e2],hs⟩
theorem rd_nodes {y:DataW H × List MemPlace} (h:DataW.trod enc prog W base spare held fuel 196 [v]=some y) : ∃ns,Nodes W v ns/\wfNs ns:=by
 obtain⟨a,ns,cap,rfl,hl,hc,hall,hx⟩:=slice_list (⟨0, 0, ⟨#[]⟩⟩ : Nd) (m:=3) underlying196 k_ o_ cellsN (λn cs y h=>rd_node h) h;refine⟨ns,⟨a,cap,rfl,hl,hc,λh0 => ?_⟩,by omega,λn hn => ?_⟩
 ·obtain⟨b,off,rfl,hj⟩:=hx h0;refine⟨b,off,rfl,λj hlt => ?_⟩;obtain⟨cs,⟨rfl,_⟩,hk⟩:=hj j hlt;exact⟨hk 0 o_,hk 1 o_,hk 2 o_⟩
 ·obtain⟨cs,_,hs⟩:=hall n hn;exact hs
def cellsS (W:World) (s:St) (cs:List Value):Prop:=∃ve vf,cs = [.int .i64 s.kind,.string s.name,ve,vf,.int .i64 s.thn,.int .i64 s.els]/\Nodes W ve s.e/\Nodes W vf s.f/\wfSt s
theorem rd_stmt {y:DataW H × List MemPlace} (h:DataW.trod enc prog W base spare held fuel 198 cs=some y) : ∃s,cellsS W s cs:=by
 obtain⟨n,hl,hf⟩:=fields1 underlying198 k_ k_ h;obtain⟨_,h0⟩:=hf 0 _ rfl;obtain⟨_,h1⟩:=hf 1 _ rfl;obtain⟨_,h2⟩:=hf 2 _ rfl;obtain⟨_,h3⟩:=hf 3 _ rfl;obtain⟨_,h4⟩:=hf 4 _ rfl;obtain⟨_,h5⟩:=hf 5 _ rfl;obtain⟨k,e0⟩:=rd_int h0;obtain⟨s,e1,hs⟩:=rd_str h1;obtain⟨es,n2,w2⟩:=rd_nodes h2;obtain⟨fs,n3,w3⟩:=rd_nodes h3;obtain⟨t,e4⟩:=rd_int h4;obtain⟨l,e5⟩:=rd_int h5;exact⟨⟨k,s,es,fs,t,l⟩,_,_,by rw[list6 hl,e0,e1,e4,e5];rfl,n2,n3,hs,w2,w3⟩
theorem rd_stmts {y:DataW H × List MemPlace} (h:DataW.trod enc prog W base spare held fuel 107 [v]=some y) : ∃ns,Stmts W v ns/\wfSs ns:=by
 obtain⟨a,ns,cap,rfl,hl,hc,hall,hx⟩:=slice_list (⟨0, ⟨#[]⟩, [], [], 0, 0⟩ : St) (m:=6) underlying107 k_ o_ (cellsS W) (λn cs y h=>rd_stmt h) h;refine⟨ns,⟨a,cap,rfl,hl,hc,λh0 => ?_⟩,by omega,λn hn => ?_⟩
 ·obtain⟨b,off,rfl,hj⟩:=hx h0;refine⟨b,off,rfl,λj hlt => ?_⟩;obtain⟨cs,⟨ve,vf,rfl,he,hf,_⟩,hk⟩:=hj j hlt;exact⟨ve,vf,⟨hk 0 o_,hk 1 o_,hk 2 o_,hk 3 o_,hk 4 o_,hk 5 o_⟩,he,hf⟩
 ·obtain⟨cs,_,_,_,_,_,hs⟩:=hall n hn;exact hs
def cellsP (s:ByteArray) (cs:List Value):Prop:=cs = [.string s]/\s.size<=9223372036854775807
theorem rd_strs {y:DataW H × List MemPlace} (h:DataW.trod enc prog W base spare held fuel 94 [v]=some y) : ∃ns,Strs W v ns/\wfPs ns:=by
 obtain⟨a,ns,cap,rfl,hl,hc,hall,hx⟩:=slice_list (⟨#[]⟩ : ByteArray) (m:=1) underlying94 k_ o_ cellsP (λn cs y h=>by
  obtain⟨s,hs,_,hm⟩:=DataW.trod_string underlying9 h;unfold maxLen at hm;exact⟨s,hs,by omega⟩) h
 refine⟨ns,⟨a,cap,rfl,hl,hc,λh0 => ?_⟩,by omega,λn hn => ?_⟩
 ·obtain⟨b,off,rfl,hj⟩:=hx h0;refine⟨b,off,rfl,λj hlt => ?_⟩;obtain⟨cs,⟨rfl,_⟩,hk⟩:=hj j hlt;have:=hk 0 o_
  rw[show off+j*1+0=off+j by omega] at this;exact this
 ·obtain⟨cs,_,hs⟩:=hall n hn;exact hs
def cellsG (g:Gl) (cs:List Value):Prop:=cs = [.string g.name,.int .i64 g.size]/\g.name.size<=9223372036854775807
theorem rd_glob {y:DataW H × List MemPlace} (h:DataW.trod enc prog W base spare held fuel 105 cs=some y) : ∃n,cellsG n cs:=by
 obtain⟨n,hl,hf⟩:=fields1 underlying105 k_ k_ h;obtain⟨_,h0⟩:=hf 0 _ rfl;obtain⟨_,h1⟩:=hf 1 _ rfl;obtain⟨s,e0,hs⟩:=rd_str h0;obtain⟨k,e1⟩:=rd_int h1;exact⟨⟨s,k⟩,by rw[list2 hl,e0,e1],hs⟩
theorem rd_globs {y:DataW H × List MemPlace} (h:DataW.trod enc prog W base spare held fuel 22 [v]=some y) : ∃ns,Globs W v ns/\wfGs ns:=by
 obtain⟨a,ns,cap,rfl,hl,hc,hall,hx⟩:=slice_list (⟨⟨#[]⟩, 0⟩ : Gl) (m:=2) underlying22 k_ o_ cellsG (λn cs y h=>rd_glob h) h;refine⟨ns,⟨a,cap,rfl,hl,hc,λh0 => ?_⟩,by omega,λn hn => ?_⟩
 ·obtain⟨b,off,rfl,hj⟩:=hx h0;refine⟨b,off,rfl,λj hlt => ?_⟩;obtain⟨cs,⟨rfl,_⟩,hk⟩:=hj j hlt;exact⟨hk 0 o_,hk 1 o_⟩
 ·obtain⟨cs,_,hs⟩:=hall n hn;exact hs
def cellsF (W:World) (s:Fu) (cs:List Value):Prop:=∃vp vb,cs = [.string s.name,vp,vb]/\Strs W vp s.params/\Stmts W vb s.body/\wfFu s
theorem rd_func {y:DataW H × List MemPlace} (h:DataW.trod enc prog W base spare held fuel 109 cs=some y) : ∃s,cellsF W s cs:=by
 obtain⟨n,hl,hf⟩:=fields1 underlying109 k_ k_ h;obtain⟨_,h0⟩:=hf 0 _ rfl;obtain⟨_,h1⟩:=hf 1 _ rfl;obtain⟨_,h2⟩:=hf 2 _ rfl;obtain⟨s,e0,hs⟩:=rd_str h0;obtain⟨ps,n1,w1⟩:=rd_strs h1;obtain⟨ss,n2,w2⟩:=rd_stmts h2;exact⟨⟨s,ps,ss⟩,_,_,by rw[list3 hl,e0];rfl,n1,n2,hs,w1,w2⟩
theorem rd_funcs {y:DataW H × List MemPlace} (h:DataW.trod enc prog W base spare held fuel 23 [v]=some y) : ∃ns,Funcs W v ns/\wfFs ns:=by
 obtain⟨a,ns,cap,rfl,hl,hc,hall,hx⟩:=slice_list (⟨⟨#[]⟩, [], []⟩ : Fu) (m:=3) underlying23 k_ o_ (cellsF W) (λn cs y h=>rd_func h) h;refine⟨ns,⟨a,cap,rfl,hl,hc,λh0 => ?_⟩,by omega,λn hn => ?_⟩
 ·obtain⟨b,off,rfl,hj⟩:=hx h0;refine⟨b,off,rfl,λj hlt => ?_⟩;obtain⟨cs,⟨vp,vb,rfl,he,hf,_⟩,hk⟩:=hj j hlt;exact⟨vp,vb,⟨hk 0 o_,hk 1 o_,hk 2 o_⟩,he,hf⟩
 ·obtain⟨cs,_,_,_,_,_,hs⟩:=hall n hn;exact hs
theorem rd_ints {y:DataW H × List MemPlace} (h:DataW.trod enc prog W base spare held fuel 26 [v]=some y) : ∃l,RdI W v l:=by
 obtain⟨a,ns,cap,rfl,hl,hc,hall,hx⟩:=slice_list (0 : Int) (m:=1) underlying26 k_ o_ (λ(z:Int) cs=>cs = [.int .i64 z]) (λn cs y h=>by
  obtain⟨z,hz,_,_⟩:=DataW.trod_int underlying2 h;exact⟨z,hz⟩) h
 refine⟨ns,a,cap,rfl,λh0 => ?_⟩;obtain⟨b,off,rfl,hj⟩:=hx h0;refine⟨b,off,rfl,λj hlt => ?_⟩;obtain⟨cs,rfl,hk⟩:=hj j hlt;have:=hk 0 o_
 rw[show off+j*1+0=off+j by omega] at this;exact this
end
end
end Go.Proofs.YtffnkkpmlplfeaaGreatDoor
