import Derived.Test.YtngnoopnloojjaaGreatDoorQ28
import Derived.Test.YtngnoopnloojjaaGreatDoorQ33
import Derived.Test.YtngnoopnloojjaaGreatDoorQ82
variable [Inhabited Go.Proofs.YtngnoopnloojjaaGreatDoor.Pick]
set_option linter.all false
set_option maxRecDepth 100000
set_option maxHeartbeats 0
namespace Go.Proofs.YtngnoopnloojjaaGreatDoor
open Go.World List
open Go.RowKit
variable{its:List It}{B:Nat}{w:AT}{v:BY}
theorem E7(its:List It)(j i:Nat)(hj:j<its.length)(hi:i<7):(cq its)[j*7+i]? =(gJ its[j])[i]? := by
 induction its generalizing j with
 | nil=>simp at hj
 | cons x r ih=>
  have hx:(gJ x).length=7:=rfl;have e:cq (x::r)=gJ x++cq r:=rfl;rw[e];cases j with
  | zero=>rw[getElem?_append_left o_];simp
  | succ j=>rw[getElem?_append_right o_,show(j+1)*7+i-(gJ x).length=j*7+i by omega];exact ih j (D4 hj)
def yX.items(h:yX B w v its):kV w v its:=by
 have O:=h;obtain⟨Y,h2⟩:=h;rcases h2 with⟨rfl,U⟩|⟨g,Jb,Jc,rfl,h3,h4,h5⟩;exact⟨none,0,by rw[U],o_,o_,λh=>by omega⟩;have H:its.length<=Jb/\Jb<=9223372036854775807:=by obtain⟨J,I,-⟩:=h5;unfold maxLen at I;exact⟨J,I⟩
 refine⟨_,Jb,rfl,H.1,H.2,λhp=>⟨g,0,rfl,λj hj=>?_⟩⟩;have Ja:∀i,i<7->w.cell? ⟨g,0+j*7+i,none⟩=(gJ its[j])[i]? := λi hi=>by have X:(cq its).length=its.length*7:=mI its;rw[Nat.zero_add,ownsRow.cellAt O (j*7+i) o_,E7 its j i hj hi]
 exact⟨Ja 0 o_,Ja 1 o_,Ja 2 o_,Ja 3 o_,Ja 4 o_,Ja 5 o_,Ja 6 o_⟩
end Go.Proofs.YtngnoopnloojjaaGreatDoor
namespace Go.Proofs.YtngnoopnloojjaaGreatDoor
open Go.World List
open Go.Proofs.Tryz Go.RowKit
def zZ(W:AT)(M:Nat)(x y z:BY):Prop:=W.cell? ⟨M,0,none⟩=some x/\W.cell? ⟨M,1,none⟩=some y/\W.cell? ⟨M,2,none⟩=some z
def OO{X I:AT}{T:IN}{a b c:BY}(h:Below (X.alloc (.cells #[a,b,c] T)).heap.size (X.alloc (.cells #[a,b,c] T)) I):zZ I X.heap.size a b c/\∀o,I.frozen? ⟨X.heap.size,o,none⟩=false:=by have H:X.heap.size<(X.alloc (.cells #[a,b,c] T)).heap.size:=i_;refine⟨⟨?_,?_,?_⟩,λo=>?_⟩;rw[h.cell (p:=⟨X.heap.size,0,none⟩) H];simp;rw[h.cell (p:=⟨X.heap.size,1,none⟩) H];simp;rw[h.cell (p:=⟨X.heap.size,2,none⟩) H];simp;rw[h.frozen (p:=⟨X.heap.size,o,none⟩) H];exact frozen?_alloc_at _ _ _ _ rfl
def Mm{X wn:AT}{T:IN}{a b c:BY}(h:Below (X.alloc (.cells #[a,b,c] T)).drew.heap.size (X.alloc (.cells #[a,b,c] T)).drew wn):zZ wn X.heap.size a b c/\∀o,By wn X.heap.size o:=OO (T:=T) (r_.drew.trans h)
def Mn{X J:AT}{M:Nat}{a b c:BY}(h:zZ X M a b c/\∀o,By X M o)(I:Bl X J):zZ J M a b c/\∀o,By J M o:=by have H:=b_ h.1.1;exact⟨⟨(I.cell (p:=⟨M,0,none⟩) H).trans h.1.1,(I.cell (p:=⟨M,1,none⟩) H).trans h.1.2.1,(I.cell (p:=⟨M,2,none⟩) H).trans h.1.2.2⟩,λo=>(I.frozen (p:=⟨M,o,none⟩) H).trans (h.2 o)⟩
def Mp{H O I:AT}{M B:Nat}{v x y z:BY}{r:List Int}(h:zZ I M x y z)(U:fC B O v r)(hB:H.heap.size<=B)(Z:∀g,B<=g->g<O.heap.size->g≠M/\I.heap[g]? =O.heap[g]?)(J:H.heap.size<=M)(Y:Bl H I)(u0 u1 u2:BY):
  zZ (((I.setCell ⟨M,0,none⟩ u0).setCell ⟨M,1,none⟩ u1).setCell ⟨M,2,none⟩ u2) M u0 u1 u2/\fC H.heap.size (((I.setCell ⟨M,0,none⟩ u0).setCell ⟨M,1,none⟩ u1).setCell ⟨M,2,none⟩ u2) v r/\Bl H (((I.setCell ⟨M,0,none⟩ u0).setCell ⟨M,1,none⟩ u1).setCell ⟨M,2,none⟩ u2):=by
 refine⟨MM h.1 h.2.1 h.2.2,fC.base (gC U λg hg=>?_) hB,((Y.setCell (p:=⟨M,0,none⟩) J _).setCell (p:=⟨M,1,none⟩) J _).setCell (p:=⟨M,2,none⟩) J _⟩;have⟨X,h2⟩:=ownsRow.lt U g hg;have⟨h3,h4⟩:=Z g X h2;rw[Below.heap_setCell _ _ _ g h3,Below.heap_setCell _ _ _ g h3,Below.heap_setCell _ _ _ g h3,h4]
theorem z_(t:Tr)(Xf:∀f∈t.fc,∀s∈f.bd,s.kd=6/\∀n∈s.e,n.kd=5\/n.kd=7)(vg vf:Value)(w:World)(r:List Int)(bd:Int)(hT:eG w)(Xg:jr w)(hs:eK t)(hw:xL t)(hg:dz w vg t.gl)(hf:cF w vf t.fc)(h0:t.gl=[])(Xd:∀x∈aV t,x<=2032)(Xi:dI t=bd)
  (Jm:∀r',pO (jQ t) r'->r'=r) (hr:0<r.length) (Xe:∀i,i<(jQ t).length->(Lit.int .i64 ((jQ t).getD i cV).label).wf=true) (Xh:(jQ t).length<=1048576) (Xq:(aV t).length<=1000):
  Calls prog 26 #[.agg #[vg,vf]] w λe w'=>∃a c,e=rW (.agg #[V 0,V 0,V 0,.slice a r.length c,V 0,V bd])/\fC w.heap.size w' (.slice a r.length c) r/\Below w.heap.size w w':=by
 have HG:=ah hg;have HF:=ah hf;obtain⟨U,X,rfl,-⟩:=hg;obtain⟨Y,Z,rfl,-⟩:=hf;have⟨W2,Jg⟩:=q_ ((w.alloc (.cells #[.slice U t.gl.length X,.slice Y t.fc.length Z] 63)).alloc (.cells #[V 0,V 0,V 0,nV,V 0,V 0] 49));have Jb:Bl w W2:=by rw[Jg];exact(aq _ _).alloc i_ _
 have Xs:W2.heap.size=w.heap.size+2:=by rw[Jg];simp
 have Ji:Hid (∀W,Bl W2 W->W.cell? ⟨w.heap.size,0,none⟩=some (.slice U t.gl.length X)/\W.cell? ⟨w.heap.size,1,none⟩=some (.slice Y t.fc.length Z)):=λW h=>by
  have e0:W2.cell? ⟨w.heap.size,0,none⟩=some (.slice U t.gl.length X):=by rw[Jg,World.cell?_alloc_lt _ _ ⟨w.heap.size,0,none⟩ i_];simp
  have e1:W2.cell? ⟨w.heap.size,1,none⟩=some (.slice Y t.fc.length Z):=by rw[Jg,World.cell?_alloc_lt _ _ ⟨w.heap.size,1,none⟩ i_];simp
  exact⟨(h.cell (p:=⟨w.heap.size,0,none⟩) (by simp;omega)).trans e0,(h.cell (p:=⟨w.heap.size,1,none⟩) (by simp;omega)).trans e1⟩
 have Xp:Hid (∀W,Bl W2 W->dN W (w.heap.size+1) [V 0,V 0,V 0,nV,V 0,V 0]):=λW h=>by
  have e:dN W2 (w.heap.size+1) [V 0,V 0,V 0,nV,V 0,V 0]:=by
   have:=de (w.alloc (.cells #[.slice U t.gl.length X,.slice Y t.fc.length Z] 63)) #[V 0,V 0,V 0,nV,V 0,V 0] 49 (by show 6<=1000;omega)
   rw[Jg];simpa using this
  exact e.below h
 have Jc:Hid (∀W,Bl W2 W->eG W):=λW h=>hT.below hT.size (Jb.trans (h.mono o_))
 have Jw:Hid (∀W,Bl W2 W->jr W):=λW h=>Xg.below (Jb.trans (h.mono o_))
 have Jz:Hid (∀W,Bl W2 W->Calls prog 47 #[.agg #[.slice U t.gl.length X,.slice Y t.fc.length Z]] W λe w'=>∃v,e=rW v/\kt W.heap.size w' v (aV t)/\Bl W w'):=λW h=>n9 t _ _ W (Jc.out W h) hs hw (HG.out.below (Jb.trans (h.mono o_))) (HF.out.below (Jb.trans (h.mono o_)))
 have Xl:Hid (∀W,Bl W2 W->Calls prog 50 #[.agg #[.slice U t.gl.length X,.slice Y t.fc.length Z]] W λe w'=>∃v,e=rW v/\kV w' v (jQ t)/\Bl W2 w'/\Bl W w'):=λW h=>(GF t Xf _ _ W (Jc.out W h) (Jw.out W h) hs hw (HG.out.below (Jb.trans (h.mono o_))) (HF.out.below (Jb.trans (h.mono o_)))).mono λe w' ⟨v,he,hi,hb⟩=>⟨v,he,hi.items,h.trans (hb.mono h.size),hb⟩
 have Xo:Hid (∀W,Bl W2 W->Calls prog 51 #[.agg #[.slice U t.gl.length X,.slice Y t.fc.length Z]] W λe w'=>e=rW (V bd)/\Bl W2 w'/\Bl W w'):=λW h=>(qu t _ _ W (Jc.out W h) hs hw (HG.out.below (Jb.trans (h.mono o_))) (HF.out.below (Jb.trans (h.mono o_)))).mono λe w' ⟨he,hb⟩=>⟨by rw[he,Xi],h.trans (hb.mono h.size),hb⟩
 have Xj:Hid (∀W v,Bl W2 W->kV W v (jQ t)->Calls prog 49 #[v] W λe w'=>∃a c,e=rW (.slice a r.length c)/\fC W.heap.size w' (.slice a r.length c) r/\Bl W2 w'/\Bl W w'):=λW v h hi=>(EX _ v W hi Xe Xh).mono λe w' ⟨u,r',he,ha,hu,hb⟩=>by obtain rfl:=Jm r' ha;obtain⟨a,c,rfl⟩:=hu.shape;exact⟨a,c,he,hu,h.trans (hb.mono h.size),hb⟩
 have Jx:Hid (∀B W v,kt B W v (aV t)->Calls prog 46 #[v] W λe w'=>e=rW (V (-1))/\Bl W w'):=λB W v h=>
  (s8 v _ W Xq (pQ h)).mono λe w' ⟨⟨q,he,hq⟩,hb⟩=>by
   rcases hq with⟨rfl,-⟩|⟨-,x,hx,Xr⟩;exact⟨he,hb⟩
   have:=Xd x hx;omega
 have Ju:t.gl.length=0:=by rw[h0];rfl
 have Xa:Hid (∀W,Calls prog 48 #[.slice U t.gl.length X] W λe w'=>∃b,e=rW (.tuple #[.map (some b),V 0])/\Bl W w'):=λW=>by rw[Ju];exact Gc U X W
 have Xk:=ah Jg;have Jk:=ah λW W' v (h:kV W v (jQ t)) (hb:Bl W W')=>h.below hb
 clear Xf hT Xg hs hw h0 Xd Xi Jm Xe Xh Ju Jg Jc Jw HG HF;go_in;go_wp2_with fail;rw[<-Xk.out];refine(Jz.out W2 r_).mono ?_;rintro x w3 ⟨v3,rfl,Js,Jr⟩;obtain⟨a3,c3,rfl⟩:=Js.shape;have Jt:=ah Js;clear Js;go_wp2_with fail;refine(Jx.out _ w3 _ Jt.out).mono ?_;rintro x w4 ⟨rfl,Xb⟩;have Jn:Bl W2 w4:=Jr.trans (Xb.mono Jr.size);have⟨x0,x1⟩:=Ji.out w4 Jn;clear Jz Jx Jt Jr Xb;go_wp2_with fail;refine(Xa.out w4).mono ?_;rintro x w5 ⟨b5,rfl,J_⟩;have Jv:Bl W2 w5:=Jn.trans (J_.mono Jn.size);clear Xa J_ Jn x0 x1;have⟨x0,x1⟩:=Ji.out w5 Jv;have Xn:=Jv.size;go_upto_region 5 with fail
 go_cut [6]from 27 (λg W=>∃M a c,g=pV M/\zZ W M (.slice a r.length c) (V 0) (V bd)/\fC W2.heap.size W (.slice a r.length c) r/\Bl W2 W)
 case first=>
  go_region_held3 (λW=>W.cell? ⟨w.heap.size,0,none⟩=some (.slice U t.gl.length X)/\W.cell? ⟨w.heap.size,1,none⟩=some (.slice Y t.fc.length Z)) (first | exact Ji.out _ (((Below.setCell (p:=⟨_,0,none⟩) (by assumption) (by dsimp only;omega) _).setCell (p:=⟨_,1,none⟩) (by dsimp only;omega) _).setCell (p:=⟨_,2,none⟩) (by dsimp only;omega) _) | exact Ji.out _ (by(first | assumption | exact Below.drew (by assumption) | exact Below.alloc (by assumption) (Below.size (by assumption)) _ | exact Below.drew (Below.alloc (by assumption) (Below.size (by assumption)) _))) | go_keep)
   (first
   | ((with_reducible refine Calls.mono (Xl.out _ (by(first|assumption|exact Below.drew (by assumption)|exact Below.alloc (by assumption) (Below.size (by assumption)) _|exact Below.drew (Below.alloc (by assumption) (Below.size (by assumption)) _)))) ?_);intro x wn hx;obtain⟨vi,Jl,Jq,Xc,Jo⟩:=hx;subst Jl;have q:=Ji.out wn Xc;have zn:=Xc.size;(try (have Ja:=Mm Jo;have⟨⟨I,J,O⟩,H⟩:=Ja));(try (have Ja:=OO Jo;have⟨⟨I,J,O⟩,H⟩:=Ja));(try (have Ja:=Mn ⟨⟨I,J,O⟩,H⟩ Jo;clear I J O H;have⟨⟨I,J,O⟩,H⟩:=Ja));(try have f0:=H 0);(try have f1:=H 1);(try have f2:=H 2))
   | ((with_reducible refine Calls.mono (Xj.out _ _ (by(first|assumption|exact Below.drew (by assumption)|exact Below.alloc (by assumption) (Below.size (by assumption)) _|exact Below.drew (Below.alloc (by assumption) (Below.size (by assumption)) _))) (by first|exact Jq|exact Jk.out _ _ _ Jq (aq _ _)|exact Jk.out _ _ _ Jq Jd)) ?_);intro x wa hx;obtain⟨aa,ca,Jl,Jh,Jy,Je⟩:=hx;subst Jl;have q:=Ji.out wa Jy;have za:=Jy.size;(try (have Ja:=Mm Je;have⟨⟨I,J,O⟩,H⟩:=Ja));(try (have Ja:=OO Je;have⟨⟨I,J,O⟩,H⟩:=Ja));(try (have Ja:=Mn ⟨⟨I,J,O⟩,H⟩ Je;clear I J O H;have⟨⟨I,J,O⟩,H⟩:=Ja));(try have f0:=H 0);(try have f1:=H 1);(try have f2:=H 2))
   | ((with_reducible refine Calls.mono (Xo.out _ (by(first|assumption|exact Below.drew (by assumption)|exact Below.alloc (by assumption) (Below.size (by assumption)) _|exact Below.drew (Below.alloc (by assumption) (Below.size (by assumption)) _)))) ?_);intro x wb hx;obtain⟨Jl,Jf,Jd⟩:=hx;subst Jl;have q:=Ji.out wb Jf;have zb:=Jf.size;(try (have Ja:=Mm Jd;have⟨⟨I,J,O⟩,H⟩:=Ja));(try (have Ja:=OO Jd;have⟨⟨I,J,O⟩,H⟩:=Ja));(try (have Ja:=Mn ⟨⟨I,J,O⟩,H⟩ Jd;clear I J O H;have⟨⟨I,J,O⟩,H⟩:=Ja));(try have f0:=H 0);(try have f1:=H 1);(try have f2:=H 2)))
  all_goals (go_wp2_with fail)
  all_goals go_meet
  exact⟨wb.heap.size,aa,ca,rfl,⟨i_,i_,i_⟩,((Jh.below Jd).base zn).below (aq _ _),Jf.alloc Jf.size _⟩;exact⟨_,aa,ca,rfl,Mp ⟨I,J,O⟩ Jh zn (λg h1 h2=>⟨o_,(Jd.block g (by simp;omega)).trans (((Below.refl wa.heap.size wa).alloc n_ _).block g h2)⟩) za Jf _ _ _⟩;exact⟨_,aa,ca,rfl,Mp ⟨I,J,O⟩ Jh (by simp;omega) (λg h1 h2=>⟨by simp at h1;omega,Jd.block g h2⟩) zn Jf _ _ _⟩;exact⟨_,aa,ca,rfl,Mp ⟨I,J,O⟩ Jh zn (λg h1 h2=>⟨by have:=Jo.size;simp at this;omega,Jd.block g h2⟩) Xn Jf _ _ _⟩
 case rest=>obtain⟨M,a,c,rfl,Ja,Jh,Jp⟩:=hcut;obtain⟨m0,m1,m2⟩:=Ja;have hR:=Xp.out _ Jp;have⟨r0,f0⟩:=hR 0 _ rfl;have⟨r1,f1⟩:=hR 1 _ rfl;have⟨r2,f2⟩:=hR 2 _ rfl;have⟨r3,f3⟩:=hR 3 _ rfl;have⟨r4,f4⟩:=hR 4 _ rfl;have⟨r5,f5⟩:=hR 5 _ rfl;have HF:=ah (((((((hR.set 0 (V 0)).set 1 (V 0)).set 2 (V 0)).set 3 (.slice a r.length c)).set 4 (V 0)).set 5 (V bd)));clear hR;have HU:=ah Jh;have Xm:=ah Jp;have Xt:((r.length:Int) == 0)=false:=beq_eq_false_iff_ne.2 o_;clear Jh Jp;go_wp2_with fail;have hq:=HF.out;have t0:=(hq 0 _ rfl).1;have t1:=(hq 1 _ rfl).1;have t2:=(hq 2 _ rfl).1;have t3:=(hq 3 _ rfl).1;have t4:=(hq 4 _ rfl).1;have t5:=(hq 5 _ rfl).1;refine bodyPost_ret (v:=.agg #[V 0,V 0,V 0,.slice a r.length c,V 0,V bd]) (by simp[results,results26,go_sem,t0,t1,t2,t3,t4,t5]) rfl ⟨a,c,rfl,?_,?_⟩;refine fC.base (gC HU.out λg hg=>?_) (B':=w.heap.size) o_;have h1:=(World.ownsRow.lt HU.out g hg).1;have Jj:g≠w.heap.size+1:=o_;rw[Below.heap_setCell _ _ _ g Jj,Below.heap_setCell _ _ _ g Jj,Below.heap_setCell _ _ _ g Jj,Below.heap_setCell _ _ _ g Jj,Below.heap_setCell _ _ _ g Jj,Below.heap_setCell _ _ _ g Jj];have hB:Bl w wc:=Jb.trans (Xm.out.mono o_);exact(((((hB.setCell (p:=⟨w.heap.size+1,0,none⟩) (by dsimp only;omega) _).setCell (p:=⟨w.heap.size+1,1,none⟩) (by dsimp only;omega) _).setCell (p:=⟨w.heap.size+1,2,none⟩) (by dsimp only;omega) _).setCell (p:=⟨w.heap.size+1,3,none⟩) (by dsimp only;omega) _).setCell (p:=⟨w.heap.size+1,4,none⟩) (by dsimp only;omega) _).setCell (p:=⟨w.heap.size+1,5,none⟩) (by dsimp only;omega) _
