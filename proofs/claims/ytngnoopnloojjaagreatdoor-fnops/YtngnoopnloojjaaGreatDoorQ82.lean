import Derived.Lib.QuietBelow
import Derived.Deep.RegionHeld
import Derived.Test.YtngnoopnloojjaaGreatDoorQ73
import Derived.Test.YtngnoopnloojjaaGreatDoorQ72
variable [Inhabited Go.Proofs.YtngnoopnloojjaaGreatDoor.Pick]
set_option linter.all false
set_option maxRecDepth 100000
set_option maxHeartbeats 0
namespace Go.Proofs.YtngnoopnloojjaaGreatDoor

section
open Go.RowKit
variable{s:St}
structure Gk (s:St):Prop where
 b:bB s=true
 e:s.e.length<=2000
 f:s.f.length<=2000
theorem Gk.one(h:Gk s):oneB s.e=true:=by
 have:=h.b
 unfold bB at this;simp only[Bool.and_eq_true]at this;exact this.1.1.1.1.2
theorem Gk.two(h:Gk s)(H:s.kd=3):oneB s.f=true:=by
 have:=h.b
 unfold bB at this;simp only[Bool.and_eq_true,if_pos H]at this;exact this.1.1.1.2
end
section
open Go.RowKit
theorem xq:∀j,(oD j).length=j
 | 0=>rfl
 | j+1=>by simp[oD,xq j]
end
end Go.Proofs.YtngnoopnloojjaaGreatDoor
namespace Go.Proofs.YtngnoopnloojjaaGreatDoor
open Go.RowKit
variable{t:Tr}{f:Fu}
structure qF (f:Fu):Prop where
 st:∀s∈f.bd,Gk s
 fit:cD f.bd=true
 pl:f.pm.length<=6
 bl:f.bd.length<=500
 ns:aU f.bd<=2000
theorem Od(h:co t=true):t.gl.length<=50/\t.fc.length<=50/\(∀g∈t.gl,0<=g.size/\g.size<=4000)/\∀f∈t.fc,qF f:=by
 unfold co at h;simp only[Bool.and_eq_true,decide_eq_true_eq,List.all_eq_true]at h;obtain⟨J,h2,h3,h4⟩:=h;refine⟨J,h2,λg hg=>?_,λf hf=>?_⟩
 have:=h3 g hg
 unfold fN at this;simp only[Bool.and_eq_true,decide_eq_true_eq]at this;exact this.2
 have:=h4 f hf
 unfold funcB at this;simp only[Bool.and_eq_true,decide_eq_true_eq]at this;obtain⟨Y,I,O,X,H,U⟩:=this;unfold stmtsB at H;simp only[Bool.and_eq_true,decide_eq_true_eq,List.all_eq_true]at H;refine⟨λs hs=>⟨H.2 s hs,?_,?_⟩,U,I,O,H.1⟩
 have:=kj hs;omega
 have:=kj hs;omega
theorem qF.sz(h:qF f):dX f.bd<=2500:=by
 have:=h.bl
 have:=h.ns
 unfold dX;omega
theorem qF.code(h:qF f)(t:Tr)(i:Nat)(l:Int):(codeF t i f l).1.length<=60100/\l<=(codeF t i f l).2/\(codeF t i f l).2<=l+5100:=by have H:=w_ (qp t f) l f.bd.length f.bd n_ (λs H=>⟨oU _ (h.st s H).one,λh3=>oU _ ((h.st s H).two h3)⟩) (l+1);have O:=h.sz;have h2:=h.pl;unfold codeF;simp only[l_a,l_c,l_n,xq];obtain⟨I,J,U⟩:=H;refine⟨?_,?_,?_⟩ <;> omega
theorem xE{t:Tr}(h:∀f∈t.fc,qF f):∀(k:Nat) (l:Int),k<=t.fc.length->(cH t k l).1.length<=3+60100*k/\l<=(cH t k l).2/\(cH t k l).2<=l+5100*k
 | 0,l,_=>by simp[cH]
 | k+1,l,hk=>by
  have⟨a1,a2,a3⟩:=xE h k l o_;have hm:t.fc.getD k ⟨⟨#[]⟩,[],[]⟩∈t.fc:=by rw[List.getD_eq_getElem?_getD,List.getElem?_eq_getElem o_];exact g_ o_
  have⟨J,I,H⟩:=(h _ hm).code t k (cH t k l).2;simp only[cH,l_a];refine⟨?_,?_,?_⟩ <;> omega
theorem GB(h:¬dI t<0):(aL t).1=0/\∀f∈t.fc,aH f<=2032:=by unfold dI at h;by_cases hc:(aL t).1=0/\∀x∈aV t,x<=2032;refine⟨hc.1,λf hf=>hc.2 _ ?_⟩;unfold aV;rw[if_pos hc.1];exact List.mem_map.2 ⟨f,hf,rfl⟩;rw[if_neg hc]at h;omega
theorem qG(h:∀s∈f.bd,sS s.e/\sS s.f):4<=aH f:=by
 have:=nu f.bd h
 unfold aH;omega
end Go.Proofs.YtngnoopnloojjaaGreatDoor
namespace Go.Proofs.YtngnoopnloojjaaGreatDoor
open Go.Proofs.Tryz Go.RowKit
section
variable{w:World}
theorem xF(P:Nat)(its:List It)(c:Nat->Value)(op rd s1 im:Int)(w:World)(Y:Em 214 5 8 P w its c)(X:its.length<=9000000):
  Calls prog 141 #[pV P,V op,V rd,V s1,V im] w λe w'=>(∃u,e=rW u)/\Em 214 5 8 P w' (its++[aw op rd s1 0 im]) c/\Wq 5 P w w':=by
 have H:=ah Y;go_in;go_wp2_with fail;refine(qe P its c op rd s1 0 im w H.out X).mono ?_;rintro x w1 ⟨⟨u1,rfl⟩,I,J⟩;have⟨O,U⟩:=h2 I J;go_wp2_with fail;exact bodyPost_end (v:=.tuple #[]) (by simp[results,results141,go_sem]) rfl ⟨⟨_,rfl⟩,O,U⟩
theorem xG(P:Nat)(its:List It)(c:Nat->Value)(r v:Int)(w:World)(Z:Em 214 5 8 P w its c)(Y:its.length<=9000000)(X: -2048<=v/\v<=2047):
  Calls prog 138 #[pV P,V r,V v] w λe w'=>(∃u,e=rW u)/\Em 214 5 8 P w' (its++[aw 12 r 0 0 v]) c/\Wq 5 P w w':=by
 have H:=ah Z;obtain⟨Jb,Ja⟩:=X;go_in;go_wp2_with fail;refine(xF P its c 12 r 0 v w H.out Y).mono ?_;rintro x w1 ⟨⟨u1,rfl⟩,I,J⟩;have⟨O,U⟩:=h2 I J;go_wp2_with fail;exact bodyPost_ret (v:=.tuple #[]) (by simp[results,results138,go_sem]) rfl ⟨⟨_,rfl⟩,O,U⟩
theorem Jg(P:Nat)(its:List It)(c:Nat->Value)(v:Int)(w:World)(Y:Em 214 5 8 P w its c)(Z:its.length<=8000000)(X: -2048<=v/\v<=2047):
  Calls prog 85 #[pV P,V v] w λe w'=>(∃u,e=rW u)/\Em 214 5 8 P w' (its++[aw 12 17 0 0 v]++[aw 34 0 0 0 0]) c/\Wq 5 P w w':=by
 have H:=ah Y;go_in;go_wp2_with fail;refine(xG P its c 17 v w H.out o_ X).mono ?_;rintro x w1 ⟨⟨u1,rfl⟩,I,J⟩;have⟨O,U⟩:=h2 I J;go_wp2_with fail;refine(qe P (its++[aw 12 17 0 0 v]) c 34 0 0 0 0 w1 O.out (by simp;omega)).mono ?_;rintro x w2 ⟨⟨u2,rfl⟩,Jc,Jd⟩;have Ja:=ah Jc;have Jb:Hid (Wq 5 P w w2):=U.out.trans Jd;go_wp2_with fail;exact bodyPost_end (v:=.tuple #[]) (by simp[results,results85,go_sem]) rfl ⟨⟨_,rfl⟩,Ja,Jb⟩
theorem jr.below{w':World}(h:jr w)(hb:Below w.heap.size w w'):jr w':=
 ⟨λj hj=>(hb.cell (p:=⟨3,j,none⟩) (b_ (h.reg j hj))).trans (h.reg j hj),λj hj=>(hb.cell (p:=⟨7,j,none⟩) (b_ (h.bin j hj))).trans (h.bin j hj)⟩
theorem uL.num{P bm:Nat}{t:Tr}(h:uL P bm t w){s:ByteArray}(U:s.size<=maxLen){i:Nat}(I:bU t.fc s=some i):
  (Instr.lookup 131 (.map (some bm)) (sV s) false).run prog w=.ok (V (lh t.fc s)) w:=by
 obtain⟨⟨nn,D,J,O⟩,-,-⟩:=h;obtain⟨c,Ja,Jb,-⟩:=J.lookup_int (key:=.string s) (Maps.string_keyed underlying9) underlying131 underlying2 (zeroValue2 _) (WideMaps.keyOf_string_mk underlying9 U);have H:=O.val s i I;unfold kS at H;rw[H]at Jb;simp only[DataW.lit.injEq,Lit.int.injEq,true_and]at Jb;have e:lh t.fc s=c:=by unfold lh;rw[I];exact Jb
 rw[e];exact Ja
end
section
variable{w W:World}{P:Nat}{u0 u1 u2 u3 u4 u5 u6 u7:Value}
theorem A0(P:Nat){i j:Nat}(h:i≠j):(⟨P,i,none⟩:Addr)≠⟨P,j,none⟩:=by intro e;simp only[Addr.mk.injEq]at e;exact h e.2.1
theorem GC{H I J U h X Y O:Value}(Z:W=((((((((w.setCell ⟨P,0,none⟩ u0).setCell ⟨P,1,none⟩ u1).setCell ⟨P,2,none⟩ u2).setCell ⟨P,3,none⟩ u3).setCell ⟨P,4,none⟩ u4).setCell ⟨P,5,none⟩ u5).setCell ⟨P,6,none⟩ u6).setCell ⟨P,7,none⟩ u7))(h0:w.cell? ⟨P,0,none⟩=some H)(h1:w.cell? ⟨P,1,none⟩=some I)(h2:w.cell? ⟨P,2,none⟩=some J)(h3:w.cell? ⟨P,3,none⟩=some U)(h4:w.cell? ⟨P,4,none⟩=some h)(h5:w.cell? ⟨P,5,none⟩=some X)(h6:w.cell? ⟨P,6,none⟩=some Y)(h7:w.cell? ⟨P,7,none⟩=some O):
  W.cell? ⟨P,0,none⟩=some u0/\W.cell? ⟨P,1,none⟩=some u1/\W.cell? ⟨P,2,none⟩=some u2/\W.cell? ⟨P,3,none⟩=some u3/\W.cell? ⟨P,4,none⟩=some u4/\W.cell? ⟨P,5,none⟩=some u5/\W.cell? ⟨P,6,none⟩=some u6/\W.cell? ⟨P,7,none⟩=some u7:=by
 subst Z;refine⟨?_,?_,?_,?_,?_,?_,?_,?_⟩
 ·iterate 7 refine(s_ _ _ _ _ (A0 P d_)).trans ?_
  refine World.cell?_setCell_same _ _ _ (u:=H) ?_;exact h0
 ·iterate 6 refine(s_ _ _ _ _ (A0 P d_)).trans ?_
  refine World.cell?_setCell_same _ _ _ (u:=I) ?_;iterate 1 refine(s_ _ _ _ _ (A0 P d_)).trans ?_
  exact h1
 ·iterate 5 refine(s_ _ _ _ _ (A0 P d_)).trans ?_
  refine World.cell?_setCell_same _ _ _ (u:=J) ?_;iterate 2 refine(s_ _ _ _ _ (A0 P d_)).trans ?_
  exact h2
 ·iterate 4 refine(s_ _ _ _ _ (A0 P d_)).trans ?_
  refine World.cell?_setCell_same _ _ _ (u:=U) ?_;iterate 3 refine(s_ _ _ _ _ (A0 P d_)).trans ?_
  exact h3
 ·iterate 3 refine(s_ _ _ _ _ (A0 P d_)).trans ?_
  refine World.cell?_setCell_same _ _ _ (u:=h) ?_;iterate 4 refine(s_ _ _ _ _ (A0 P d_)).trans ?_
  exact h4
 ·iterate 2 refine(s_ _ _ _ _ (A0 P d_)).trans ?_
  refine World.cell?_setCell_same _ _ _ (u:=X) ?_;iterate 5 refine(s_ _ _ _ _ (A0 P d_)).trans ?_
  exact h5
 ·iterate 1 refine(s_ _ _ _ _ (A0 P d_)).trans ?_
  refine World.cell?_setCell_same _ _ _ (u:=Y) ?_;iterate 6 refine(s_ _ _ _ _ (A0 P d_)).trans ?_
  exact h6
 ·skip
  refine World.cell?_setCell_same _ _ _ (u:=O) ?_;iterate 7 refine(s_ _ _ _ _ (A0 P d_)).trans ?_
  exact h7
theorem xH{B:Nat}{v:World}(H:W=((((((((w.setCell ⟨P,0,none⟩ u0).setCell ⟨P,1,none⟩ u1).setCell ⟨P,2,none⟩ u2).setCell ⟨P,3,none⟩ u3).setCell ⟨P,4,none⟩ u4).setCell ⟨P,5,none⟩ u5).setCell ⟨P,6,none⟩ u6).setCell ⟨P,7,none⟩ u7)):(∀o,W.frozen? ⟨P,o,none⟩=w.frozen? ⟨P,o,none⟩)/\(∀k,k≠P->W.heap[k]? =w.heap[k]?)/\(Below B v w->B<=P->Below B v W):=by
 subst H;refine⟨λo=>by simp only[World.frozen?_setCell],λk hk=>?_,λhb hP=>?_⟩;have e:∀(W:World) (o:Nat) (u:Value),(W.setCell ⟨P,o,none⟩ u).heap[k]? =W.heap[k]? := λW o u=>Below.heap_setCell _ _ _ k (λh=>hk (by simpa using h));rw[e,e,e,e,e,e,e,e]
 exact(((((((hb.setCell (p:=⟨P,0,none⟩) hP _).setCell (p:=⟨P,1,none⟩) hP _).setCell (p:=⟨P,2,none⟩) hP _).setCell (p:=⟨P,3,none⟩) hP _).setCell (p:=⟨P,4,none⟩) hP _).setCell (p:=⟨P,5,none⟩) hP _).setCell (p:=⟨P,6,none⟩) hP _).setCell (p:=⟨P,7,none⟩) hP _
theorem GD{H I h:Value}{pl sz l en:Int}(O:P<w.heap.size)(J:∀o,w.frozen? ⟨P,o,none⟩=false)(X:w.cell? ⟨P,0,none⟩=some H)(U:w.cell? ⟨P,1,none⟩=some (V pl))(h2:w.cell? ⟨P,2,none⟩=some (V sz))(h3:w.cell? ⟨P,3,none⟩=some I)(h4:w.cell? ⟨P,4,none⟩=some h)(h5:w.cell? ⟨P,5,none⟩=some nV)(h6:w.cell? ⟨P,6,none⟩=some (V l))(h7:w.cell? ⟨P,7,none⟩=some (V en)):
  Em 214 5 8 P w [] (rp H pl sz I h l en):=by
 refine⟨O,J,⟨nV,h5,World.ownsRow_nil _ _ _ _⟩,λo ho hq=>?_⟩;have:o=0\/o=1\/o=2\/o=3\/o=4\/o=6\/o=7:=by omega
 rcases this with rfl|rfl|rfl|rfl|rfl|rfl|rfl;exact X;exact U;exact h2;exact h3;exact h4;exact h6;exact h7
theorem GE{bm:Nat}{t:Tr}{w':World}{nn:Nat}{D:DataW Unit}(I:w.ownsMap prog 9 (plainElem (H:=Unit) prog 2) bm nn D)(J:cY D t.fc)(Ja:bm≠P)(h:w'.heap[bm]? =w.heap[bm]?)(h5:w'.cell? ⟨P,5,none⟩=some (.slice none 0 0)):uL P bm t w':=by refine⟨⟨nn,D,gP I h,J⟩,Ja,?_⟩;unfold ow;rw[h5];simp[Value.ownBlock]
end
set_option maxRecDepth 100000 in
set_option maxHeartbeats 8000000 in
theorem GF(t:Tr)(hOn:∀f∈t.fc,∀s∈f.bd,s.kd=6/\∀n∈s.e,n.kd=5\/n.kd=7)(vg vf:Value)(w:World)(hT:eG w)(hTg:jr w)(hs:eK t)(hw:xL t)(hg:dz w vg t.gl)(hf:cF w vf t.fc):
    Calls prog 50 #[.agg #[vg,vf]] w λe w'=> ∃v,e=rW v/\yX w.heap.size w' v (jQ t)/\Below w.heap.size w w':=by
  have HOn:=ah hOn;clear hOn;have HGb:=ah hg;have HFu:=ah hf;obtain⟨ag,cg,rfl,-⟩:=hg;obtain⟨af,cf,rfl,hf1,hf2,hfc⟩:=hf;have HFC:=ah hfc;have hszT:=hT.size;have HTab:=ah hT;have HTg:=ah hTg;obtain⟨W2,hW2⟩:∃W2,W2=w.alloc (.cells #[.slice ag t.gl.length cg,.slice af t.fc.length cf] 63):=⟨_,rfl⟩;have hb2:Below w.heap.size w W2:=by rw[hW2];exact r_.alloc n_ _
  have hs2:W2.heap.size=w.heap.size+1:=by rw[hW2];simp
  have e0:W2.cell? ⟨w.heap.size,0,none⟩=some (.slice ag t.gl.length cg):=by rw[hW2];simp
  have e1:W2.cell? ⟨w.heap.size,1,none⟩=some (.slice af t.fc.length cf):=by rw[hW2];simp
  have HBd:Hid (Calls prog 51 #[.agg #[.slice ag t.gl.length cg,.slice af t.fc.length cf]] W2 λe w'=>e=rW (V (dI t))/\Below W2.heap.size W2 w'):=qu t _ _ W2 (hT.below hT.size hb2) hs hw (HGb.out.below hb2) (HFu.out.below hb2);have HW2:=ah hW2;have HWf:=ah hw;clear hW2 hs hw hT hTg hfc;go_in;go_wp2_with fail;rw[← HW2.out];refine HBd.out.mono ?_;rintro x w3 ⟨rfl,hb3⟩;have hb3w:Below w.heap.size w w3:=hb2.trans (hb3.mono o_);clear HBd;by_cases hbd:dI t<0
  · have HE:Hid (jQ t=[]):=by show _=_;unfold jQ;rw[if_pos hbd]
    generalize dI t=bz at hbd⊢;go_wp2_with fail;refine bodyPost_ret (v:=.slice (some ⟨w3.heap.size,0,none⟩) 0 0) (by simp[results,results50,go_sem]) rfl ⟨_,rfl,?_,hb3w.alloc hb3w.size _⟩;rw[HE.out];exact World.ownsRow_lit w3 #[] 0 hb3w.size d_ rfl
  · have⟨hck,hfz⟩:=GB hbd
    have⟨hfl,hfo⟩:=LL hck HWf.out;have⟨hgl,hfl5,hgz,hfn⟩:=Od (nX hck).1;obtain⟨m,hm,hmlt,-⟩:=lH hck;have HE:Hid (jQ t=(cH t t.fc.length t.fc.length).1):=by show _=_;unfold jQ;rw[if_neg hbd]
    have HFz:=ah hfz;have HFo:=ah hfo;have HGz:=ah hgz;have HFn:=ah hfn;have HCT:Hid (∀k,cH t (k+1) t.fc.length=((cH t k t.fc.length).1++(codeF t k (t.fc.getD k ⟨⟨#[]⟩,[],[]⟩) (cH t k t.fc.length).2).1,(codeF t k (t.fc.getD k ⟨⟨#[]⟩,[],[]⟩) (cH t k t.fc.length).2).2)):=λk=>rfl
    have HBdT:Hid (∀k,k<=t.fc.length->(cH t k t.fc.length).1.length<=3+60100*k/\(t.fc.length:Int)<=(cH t k t.fc.length).2/\(cH t k t.fc.length).2<=t.fc.length+5100*k):=λk hk=>xE hfn k _ hk
    have HC0:Hid (cH t 0 t.fc.length=([aW 5 (lh t.fc mainS),aw 12 17 0 0 10,aw 34 0 0 0 0],(t.fc.length:Int))):=rfl;have x0:=(hb3.cell (p:=⟨w.heap.size,0,none⟩) (by simp;omega)).trans e0;have x1:=(hb3.cell (p:=⟨w.heap.size,1,none⟩) (by simp;omega)).trans e1;have HM:=ah hm;have HAd:Hid (Calls prog 48 #[.slice ag t.gl.length cg] w3 λe w'=> ∃(b:Nat) (z:Int),e=rW (.tuple #[.map (some b),V z])/\Below w3.heap.size w3 w'/\w3.heap.size<=b/\∃nn D,w'.ownsMap prog 9 (plainElem (H:=Unit) prog 2) b nn D/\eh D t.gl):=rq t.gl _ w3 (HGb.out.below hb3w) hgl hgz (wX hck) (λg hg=>by have:=HWf.out.1.2 g hg;unfold maxLen;exact this);clear hck hfz hfo hgz hfn hm e0 e1;generalize dI t=bz at hbd⊢;go_wp2_with fail;refine HAd.out.mono ?_;rintro x w4 ⟨ba,z4,rfl,hb4,hba,hmo⟩;have HMa:=ah hmo;have hs3:w.heap.size+1<=w3.heap.size:=by have:=hb3.size;omega
    have hs4:w3.heap.size<=w4.heap.size:=hb4.size;have hb4w:Below w.heap.size w w4:=hb3w.trans (hb4.mono hb3w.size);have y0:w4.cell? ⟨w.heap.size,0,none⟩=some (.slice ag t.gl.length cg):=(hb4.cell (p:=⟨w.heap.size,0,none⟩) (by simp;omega)).trans x0;have y1:w4.cell? ⟨w.heap.size,1,none⟩=some (.slice af t.fc.length cf):=(hb4.cell (p:=⟨w.heap.size,1,none⟩) (by simp;omega)).trans x1;have HY:Hid (∀W,Below w4.heap.size w4 W->W.cell? ⟨w.heap.size,0,none⟩=some (.slice ag t.gl.length cg)/\W.cell? ⟨w.heap.size,1,none⟩=some (.slice af t.fc.length cf)):=λW hW=>⟨(hW.cell (p:=⟨w.heap.size,0,none⟩) (by simp;omega)).trans y0,(hW.cell (p:=⟨w.heap.size,1,none⟩) (by simp;omega)).trans y1⟩
    have HFnm:Hid (∀W,Below w4.heap.size w4 W->Calls prog 75 #[.agg #[.slice ag t.gl.length cg,.slice af t.fc.length cf]] W λe w'=> ∃b D,e=rW (.map (some b))/\W.heap.size<=b/\w'.ownsMap prog 9 (plainElem (H:=Unit) prog 2) b t.fc.length D/\cY D t.fc/\Below W.heap.size W w'):=λW hW=>jj t.fc _ _ W o_ HWf.out.2 (HFu.out.below (hb4w.trans (hW.mono hb4w.size)))
    have HD1:Hid (Below w4.heap.size w4 w4.drew):=r_.drew;have HD2:Hid (∀o,Below w4.heap.size w4 (w4.alloc o).drew):=λo=>(r_.alloc n_ o).drew
    have HQ3:Hid (∀wn,Below (w4.alloc (.cells #[.map none,V 0,V 0,.map none,.map none,nV,V 0,V 0] 220)).drew.heap.size (w4.alloc (.cells #[.map none,V 0,V 0,.map none,.map none,nV,V 0,V 0] 220)).drew wn->wn.cell? ⟨w4.heap.size,0,none⟩=some (.map none)/\wn.cell? ⟨w4.heap.size,1,none⟩=some (V 0)/\wn.cell? ⟨w4.heap.size,2,none⟩=some (V 0)/\wn.cell? ⟨w4.heap.size,3,none⟩=some (.map none)/\wn.cell? ⟨w4.heap.size,4,none⟩=some (.map none)/\wn.cell? ⟨w4.heap.size,5,none⟩=some nV/\wn.cell? ⟨w4.heap.size,6,none⟩=some (V 0)/\wn.cell? ⟨w4.heap.size,7,none⟩=some (V 0)/\∀o,wn.frozen? ⟨w4.heap.size,o,none⟩=false):=λwn h=>by
      have hl:w4.heap.size<(w4.alloc (.cells #[.map none,V 0,V 0,.map none,.map none,nV,V 0,V 0] 220)).drew.heap.size:=by simp
      refine⟨?_,?_,?_,?_,?_,?_,?_,?_,λo=>?_⟩
      all_goals first|(rw[h.frozen (p:=⟨w4.heap.size,o,none⟩) hl];exact World.frozen?_alloc_at _ _ _ _ rfl)|(rw[h.cell (by exact hl)];simp)
    clear x0 x1 hmo HAd y0 y1;go_upto_region 4 with fail
    go_cut [5]from 18 (λg W=> ∃P bm,g=.pointer (some ⟨P,0,none⟩)/\w4.heap.size<=P/\Em 214 5 8 P W [] (rp (.map none) 0 0 (.map (some bm)) (.map (some ba)) (t.fc.length:Int) 0)/\uL P bm t W/\Below w4.heap.size w4 W)
    case first=>
      have y0:=(HY.out _ HD1.out).1;have y1:=(HY.out _ HD1.out).2;have k2:∀o,(w4.alloc o).drew.cell? ⟨w.heap.size,0,none⟩=some (.slice ag t.gl.length cg)/\(w4.alloc o).drew.cell? ⟨w.heap.size,1,none⟩=some (.slice af t.fc.length cf):=λo=>HY.out _ (HD2.out o)
      have hne:¬ w.heap.size=w4.heap.size:=by omega
      have hne2:¬ w4.heap.size=w.heap.size:=by omega
      go_region_held (λW=>W.cell? ⟨w.heap.size,0,none⟩=some (.slice ag t.gl.length cg)/\W.cell? ⟨w.heap.size,1,none⟩=some (.slice af t.fc.length cf)) (first | (with_reducible exact k2 _) | (with_reducible exact qa _) | go_keep)
        (first
        | ((with_reducible refine Calls.mono (HFnm.out _ HD1.out) ?_);intro x wn hx;obtain⟨bm,D,hxe,hbm,hom,hnu,hbn⟩:=hx;subst hxe;have q:=HY.out wn (HD1.out.trans (hbn.mono i_));have qa:∀o,(wn.alloc o).cell? ⟨w.heap.size,0,none⟩=some (.slice ag t.gl.length cg)/\(wn.alloc o).cell? ⟨w.heap.size,1,none⟩=some (.slice af t.fc.length cf):=λo=>HY.out (wn.alloc o) ((HD1.out.trans (hbn.mono i_)).alloc (HD1.out.trans (hbn.mono i_)).size o))
        | ((with_reducible refine Calls.mono (HFnm.out _ (HD2.out _)) ?_);intro x wn hx;obtain⟨bm,D,hxe,hbm,hom,hnu,hbn⟩:=hx;subst hxe;have q:=HY.out wn ((HD2.out _).trans (hbn.mono i_));have b3:=HQ3.out wn hbn;have⟨b0,b1,b2,b3,b4,b5,b6,b7,bf⟩:=b3))
      all_goals (go_wp2_with fail)
      all_goals go_meet
      · have hbw:Below w4.heap.size w4 wn:=HD1.out.trans (hbn.mono i_)
        have hlt:=hom.lt;refine⟨wn.heap.size,bm,rfl,hbw.size,GD i_ (λo=>World.frozen?_alloc_at _ _ _ _ rfl) i_ i_ i_ i_ i_ i_ i_ i_,GE hom hnu o_ ?_ i_,hbw.alloc hbw.size _⟩;exact((Below.refl wn.heap.size wn).alloc n_ _).block bm hlt
      · have hbw:Below w4.heap.size w4 wn:=(HD2.out _).trans (hbn.mono i_)
        have hbm':w4.heap.size+1<=bm:=by simpa using hbm
        have hlw:w4.heap.size<wn.heap.size:=by have:=hbn.size;simp at this;omega
        have⟨z0,z1,z2,z3,z4',z5,z6,z7⟩:=GC (u0:=.map none) (u1:=V 0) (u2:=V 0) (u3:=.map (some bm)) (u4:=.map (some ba)) (u5:=nV) (u6:=V (t.fc.length:Int)) (u7:=V 0) rfl b0 b1 b2 b3 b4 b5 b6 b7;have k8:=xH (B:=w4.heap.size) (v:=w4) (w:=wn) (P:=w4.heap.size) (u0:=.map none) (u1:=V 0) (u2:=V 0) (u3:=.map (some bm)) (u4:=.map (some ba)) (u5:=nV) (u6:=V (t.fc.length:Int)) (u7:=V 0) rfl;exact⟨w4.heap.size,bm,rfl,n_,GD (by simpa using hlw) (λo=>(k8.1 o).trans (bf o)) z0 z1 z2 z3 z4' z5 z6 z7,GE hom hnu o_ (k8.2.1 _ o_) z5,k8.2.2 hbw n_⟩
    case rest=>
      obtain⟨P,bm,rfl,hPle,hem,hmm,hb5⟩:=hcut;have HES5:=ah hem;have HMm5:=ah hmm;have hlk:(Instr.lookup 131 (.map (some bm)) (sV ⟨#[109,97,105,110]⟩) false).run prog wc=.ok (V (lh t.fc mainS)) wc:=hmm.num (s:=mainS) d_ HM.out;have p3:wc.cell? ⟨P,3,none⟩=some (.map (some bm)):=hem.oth 3 d_ d_;have HBw:Hid (∀W,Wq 5 P wc W->Below w4.heap.size w4 W):=λW h=>h.bel5 hb5 hPle (λk hk=>(hem.rlt5 hk).1)
      clear hem hmm hb5 HD1 HD2 HQ3 HFnm;generalize hmz:lh t.fc mainS=mz at hlk HC0;go_wp2_with fail;refine(sK P [] _ 5 mz wc HES5.out i_).mono ?_;rintro x w6 ⟨⟨u6,rfl⟩,he6,hq6⟩;have HE6:=ah he6;have HQ6:=ah hq6;clear he6 hq6 p3 hlk;go_wp2_with fail;refine(Jg P _ _ 10 w6 HE6.out i_ o_).mono ?_;rintro x w8 ⟨⟨u8,rfl⟩,he8,hq8⟩;have HQ8:Hid (Wq 5 P wc w8):=HQ6.out.trans hq8;have HB8:Hid (Below w4.heap.size w4 w8):=HBw.out w8 HQ8.out;have HMm8:Hid (uL P bm t w8):=HMm5.out.wq HQ8.out;have HE8:Hid (Em 214 5 8 P w8 (cH t 0 t.fc.length).1 (rp (.map none) 0 0 (.map (some bm)) (.map (some ba)) (cH t 0 t.fc.length).2 0)):=by show Em _ _ _ _ _ _ _;rw[HC0.out];exact he8
      have q1:=(HY.out w8 HB8.out).2;clear he8 hq8 HQ8 HQ6 HE6 HES5 HMm5 hmz;go_wp2_with fail;clear q1;go_loopw[33] (λi wr=> ∃(k:Nat) (vo:Value) (pl sz en:Int),k<=t.fc.length/\i=V k/\Em 214 5 8 P wr (cH t k t.fc.length).1 (rp vo pl sz (.map (some bm)) (.map (some ba)) (cH t k t.fc.length).2 en)/\uL P bm t wr/\Below w4.heap.size w4 wr) (λi _=>t.fc.length - (RowKit.intOf i).toNat)
      case atStart=>exact⟨0,_,_,_,_,y_,rfl,HE8.out,HMm8.out,HB8.out⟩
      case round=>
        clear HE8 HMm8 HB8;obtain⟨k,vo,pl,sz,en,hk,rfl,hes,hmm,hbk⟩:=hrel;have HEs:=ah hes;have HMm:=ah hmm;clear hes hmm;by_cases hlt:k<t.fc.length
        · have hmem:t.fc[k]∈t.fc:=g_ hlt
          have hfk:=HFn.out _ hmem;have⟨b1,b2,b3⟩:=HBdT.out k hk;have hszk:=hfk.sz;obtain⟨b,off,rfl,hc⟩:=HFC.out o_;have⟨vp,vb,⟨d0,d1,d2⟩,hp,hb⟩:=(hc.below hb4w) k hlt;have hbl:=b_ d0;have c0:=(hbk.cell (p:=⟨b,off+k*3,none⟩) hbl).trans d0;have c1:=(hbk.cell (p:=⟨b,off+k*3+1,none⟩) hbl).trans d1;have c2:=(hbk.cell (p:=⟨b,off+k*3+2,none⟩) hbl).trans d2;have hT4:=HTab.out.below hszT hb4w;have hTg4:=HTg.out.below hb4w
          have HFun:Hid (∀W,Below wr.heap.size wr W->Calls prog 86 #[.pointer (some ⟨P,0,none⟩),V (k:Int),.agg #[sV t.fc[k].nm,vp,vb]] W λx w'=>(∃u,x=rW u)/\(∃vo' pl' sz' en',Em 214 5 8 P w' (cH t (k+1) t.fc.length).1 (rp vo' pl' sz' (.map (some bm)) (.map (some ba)) (cH t (k+1) t.fc.length).2 en'))/\Below w4.heap.size w4 w'/\uL P bm t w'):=λW hW=>by
            have h:=Gb nU t w4 P bm ba hPle hT4 hTg4 ⟨b_ (hTg4.reg 0 o_),b_ (hTg4.bin 0 o_)⟩ HMa.out hgl HGz.out k o_ t.fc[k] vp vb hp hb (HFo.out _ hmem) (λs hs=>⟨(hfk.st s hs).b,(hfk.st s hs).e,(hfk.st s hs).f⟩) (HOn.out _ hmem) hfk.fit ⟨by have:=qG (HFo.out _ hmem).st;omega,by have:=HFz.out _ hmem;omega⟩ hfk.pl hfk.bl W _ _ vo pl sz en (HEs.out.below hW) (hbk.trans (hW.mono hbk.size)) (HMm.out.wq (Wq.below HEs.out.lt hW)) o_ o_ o_;rw[HCT.out k];have eg:t.fc.getD k ⟨⟨#[]⟩,[],[]⟩=t.fc[k]:=by rw[List.getD_eq_getElem?_getD,List.getElem?_eq_getElem hlt];rfl
            rw[eg];exact h
          obtain⟨ap,cp,rfl,-⟩:=hp;obtain⟨ab,cb,rfl,-⟩:=hb;clear b1 b2 b3 hfk HEs HMm hmem d0 d1 d2 hc hT4 hTg4;generalize t.fc[k].pm.length=lp at c1 HFun;generalize t.fc[k].bd.length=lb at c2 HFun;generalize t.fc[k].nm=nm at c0 HFun;have hA:∀o,Below wr.heap.size wr (wr.alloc o):=λo=>r_.alloc n_ o
          go_wp2_with fail;refine(HFun.out _ (hA _)).mono ?_;rintro x w9 ⟨⟨u9,rfl⟩,⟨vo',pl',sz',en',he9⟩,hb9,hm9⟩;have HE9:=ah he9;have HM9:=ah hm9;clear he9 hm9 HFun c0 c1 c2 hA;go_wp2;go_roundw
          case rel=>exact⟨k+1,vo',pl',sz',en',by omega,by go_num,HE9.out,HM9.out,hb9⟩
          case measure=>simp[RowKit.intOf];omega
        · obtain rfl:k=t.fc.length:=by omega
          have⟨vr,hvr,hrow⟩:=HEs.out.row
          obtain⟨va,vnn,vc,rfl⟩:∃va vn vc,vr=.slice va vn vc:=by rcases hrow.2 with⟨rfl,_⟩|⟨g,cap,cur,rfl,_⟩;exact⟨_,_,_,rfl⟩;exact⟨_,_,_,rfl⟩
          have HRow:Hid (yX (P+1) wr (.slice va vnn vc) (cH t t.fc.length t.fc.length).1):=hrow;clear hrow HEs;go_wp2_with fail;refine bodyPost_ret (v:=.slice va vnn vc) (by simp[results,results50,go_sem]) rfl ⟨_,rfl,?_,hb4w.trans (hbk.mono hb4w.size)⟩;rw[HE.out];exact HRow.out.base o_
