import Derived.Test.YtngnoopnloojjaaGreatDoorQ09
import Derived.Test.YtngnoopnloojjaaGreatDoorQ70
import Derived.Test.YtngnoopnloojjaaGreatDoorQ37
import Derived.Test.YtngnoopnloojjaaGreatDoorQ32
namespace Go.Proofs.YtngnoopnloojjaaGreatDoor
open Go.Proofs.Tryz
set_option linter.all false
set_option maxRecDepth 100000
set_option maxHeartbeats 0
variable[Inhabited Pick]
section
open Go.RowKit
structure bJ (D:DataW Unit) (ns:List ByteArray):Prop where
 map:Maps.IsMap D
 has:∀s,Maps.has D (kS s)=true↔s∈ns
 size:Maps.size D=ns.length
 val:∀s (i:Nat),ns.findIdx? (λx=>decide (x=s))=some i->D.atKey (kS s) (.lit (.int .i64 0))=.lit (.int .i64 (4*(i:Int)))
theorem bJ.nil:bJ (.map []) []:=⟨Maps.isMap_empty,λs=>by simp[Maps.has],rfl,λs i h=>by simp at h⟩
theorem bJ.put{D:DataW Unit}{ns:List ByteArray}(h:bJ D ns)(J:Maps.Tidy D)(n:ByteArray)(H:n∉ns):bJ (D.put (kS n) (.lit (.int .i64 (4*(ns.length:Int))))) (ns++[n]):=by
 refine⟨h.map.put _ _,λs=>?_,?_,λs i hi=>?_⟩;by_cases hs:n=s;subst hs;rw[Maps.has_put_same (k:=kS n) h.map trivial];simp;rw[Maps.has_put_other (pp (Ne.symm hs)),h.has s];simp[Ne.symm hs];rw[Maps.size_put J,if_neg (by rw[h.has];exact H),h.size];simp;rw[List.findIdx?_append]at hi;by_cases hs:n=s;subst hs;have e:ns.findIdx? (λx=>decide (x=n))=none:=by rw[List.findIdx?_eq_none_iff];intro x I;simp only[decide_eq_false_iff_not];intro e;exact H (e ▸ I)
 rw[e]at hi;simp[List.findIdx?_cons]at hi;subst hi;rw[Maps.atKey_put_same (k:=kS n) h.map trivial];rw[Maps.atKey_put_other (pp (Ne.symm hs))];simp[List.findIdx?_cons,hs]at hi;exact h.val s i hi
theorem wS(C b nn:Nat)(D:DataW Unit)(ns:List ByteArray)(w:World)(O:w.cell? ⟨C,0,none⟩=some (.map (some b)))
  (Jb:w.ownsMap prog 9 (plainElem (H:=Unit) prog 2) b nn D) (I:bJ D ns) (J:ns.length<=1000000):
  Calls prog 128 #[pV C] w λev w'=>ev=rW (V (4*(ns.length:Int)))/\w'=w:=by
 have Ja:=λty=>Jb.len underlying131 ty;rw[I.size]at Ja;have Jc:IntKind.i64.wrap (4*(ns.length:Int))=4*(ns.length:Int):=by simp[IntKind.wrap,IntKind.bits,IntKind.signed];omega
 go_in;go_wp2;go_ret;exact⟨rfl,rfl⟩
theorem wT(C b nn:Nat)(D:DataW Unit)(ns:List ByteArray)(s:ByteArray)(w:World)(h0:w.cell? ⟨C,0,none⟩=some (.map (some b)))
    (Jc:w.ownsMap prog 9 (plainElem (H:=Unit) prog 2) b nn D) (O:bJ D ns) (hl:ns.length<=1000000) (hn:nn<1000000000) (hs:s.size<=maxLen) (hf:s∉ns) (Jf:C≠b):
    Calls prog 127 #[pV C,sV s] w λev w'=>ev=rW (.tuple #[])/\∃D',w'.ownsMap prog 9 (plainElem (H:=Unit) prog 2) b (nn+1) D'/\bJ D' (ns++[s])/\w.drew.grownBy w' (some b):=by
  have U:Hid (bJ D ns):=O;have X:Hid (s.size<=maxLen):=hs;have HT:Hid (Maps.Tidy D):=Jc.tidy (Maps.string_keyed underlying9);have J:w.drew.cell? ⟨C,0,none⟩=some (.map (some b)):=h0;have Jd:Hid (w.drew.ownsMap prog 9 (plainElem (H:=Unit) prog 2) b nn D):=Jc;have Y:Hid (Calls prog 128 #[pV C] w.drew λev w'=>ev=rW (V (4*(ns.length:Int)))/\w'=w.drew):=wS C b nn D ns w.drew J Jd.out O hl;have⟨I,Je,Jb,Ja⟩:=Jd.out.update (Maps.string_keyed underlying9) underlying131 (by unfold maxLen;omega) (WideMaps.keyOf_string_mk underlying9 X) (plainElem_int (H:=Unit) underlying2 (a:=4*(ns.length:Int)) (WalkArith.wf_i64 o_));have Z:Hid (∃D',I.ownsMap prog 9 (plainElem (H:=Unit) prog 2) b (nn+1) D'/\bJ D' (ns++[s])/\w.drew.grownBy I (some b)):=⟨_,Jb,U.out.put HT.out s hf,Ja⟩;have h5:I.cell? ⟨C,0,none⟩=some (.map (some b)):=Ja.cell J (by simpa using Jf);go_in;go_wp2_with fail;go_region_held3 (λW=>W.cell? ⟨C,0,none⟩=some (.map (some b))) (go_simp)
    (first
    | ((with_reducible refine Calls.mono Y.out ?_);rintro e w2 ⟨rfl,rfl⟩))
  exact bodyPost_end (v:=.tuple #[]) (by simp[results,results127,go_sem]) rfl ⟨rfl,Z⟩
end
section
open Go.RowKit
variable{w w' w1:World}{b j:Nat}{p:Addr}{body:List St}
theorem gP{P:Program}{k:TypeId}{R:Value->Option (DataW Unit×List MemPlace)}{n:Nat}{D:DataW Unit}(h:w.ownsMap P k R b n D)(e:w'.heap[b]? =w.heap[b]?):w'.ownsMap P k R b n D:=by obtain⟨I,Ja,H,h2⟩:=h;exact⟨I,Ja,by rw[e];exact H,h2⟩
def mv(b:Nat)(w w':World):Prop:=w.heap.size<=w'.heap.size/\∀B,B<w.heap.size->B≠b->w'.heap[B]? =w.heap[B]?
theorem mv.refl(b:Nat)(w:World):mv b w w:=⟨n_,λ_ _ _=>rfl⟩
theorem mv.grown(h:mv b w w1)(hg:w1.drew.grownBy w' (some b)):mv b w w':=⟨t_ h.1 hg.size,λB hB hb=>(hg.block B (l_ hB h.1) (by simpa using hb)).trans (h.2 B hB hb)⟩
theorem mv.below(h:mv b w w1)(hb:Below w1.heap.size w1 w'):mv b w w':=⟨t_ h.1 hb.size,λB hB hn=>(hb.block B (l_ hB h.1)).trans (h.2 B hB hn)⟩
theorem mv.cell(h:mv b w w')(hp:p.block<w.heap.size)(hn:p.block≠b):w'.cell? p=w.cell? p:=c_ (h.2 p.block hp hn)
theorem mv.frozen(h:mv b w w')(hp:p.block<w.heap.size)(hn:p.block≠b):w'.frozen? p=w.frozen? p:=World.frozen?_of_block (h.2 p.block hp hn)
theorem FZ{e:List Nd}(h:sS e){d p:Int}(I:0<=d)(Ja:d<=1)(H:0<=p/\p<=14001):0<=plE e d p/\plE e d p<=14001:=by
 unfold plE;split;exact H
 have:=FY h o_ d
 omega
theorem nu(Ja:List St)(Jb:∀s∈Ja,sS s.e/\sS s.f):0<=places Ja/\places Ja<=14001:=by
 unfold places;have:∀(l:List St) (p:Int),(∀s∈l,sS s.e/\sS s.f)->0<=p/\p<=14001->0<=l.foldl (λp s=>wP s 2 p) p/\l.foldl (λp s=>wP s 2 p) p<=14001:=by
  intro l;induction l with
  | nil=>intro p _ H;exact H
  | cons s l ih=>intro p h H;refine ih _ (λs hs=>h s (by simp[hs])) ?_;have h2:=h s i_;simp only[wP];exact FZ h2.2 o_ o_ (FZ h2.1 o_ o_ H)
 exact this Ja 0 Jb o_
def declN(body:List St):List ByteArray:=(body.filter (λs=>decide (s.kd=1))).map (·.nm)
theorem zD(l:List St)(s:St):declN (l++[s])=if s.kd=1 then declN l++[s.nm]else declN l:=by unfold declN;rw[List.filter_append];by_cases h:s.kd=1 <;> simp[h]
theorem CS{H:List ByteArray}(h:(H++declN body).Nodup)(O:j<body.length)(J:body[j].kd=1):body[j].nm∉H++declN (body.take j):=by
 have e:declN body=declN (body.take j)++([body[j].nm]++declN (body.drop (j+1))):=by
  have:body=body.take j++([body[j]]++body.drop (j+1)):=by simp
  have h2:declN body=declN (body.take j++([body[j]]++body.drop (j+1))):=congrArg declN this;rw[h2];unfold declN;rw[List.filter_append,List.filter_append,List.map_append,List.map_append];congr 2;simp[J]
 rw[e,<-List.append_assoc]at h;intro I;exact(List.nodup_append.1 h).2.2 _ I _ i_ rfl
theorem CT(H:j<body.length)(h:body[j].kd=1):body[j].nm∈declN body:=by unfold declN;exact List.mem_map.2 ⟨body[j],List.mem_filter.2 ⟨g_ H,by simpa using h⟩,rfl⟩
theorem kN(Ja:List St):(declN Ja).length<=Ja.length:=by unfold declN;rw[List.length_map];exact List.length_filter_le _ _
theorem nW(f:Fu)(vp vb:Value)(w:World)(Jm:eG w)(hp:Strs w vp f.pm)(hb:be w vb f.bd)(J_:∀s∈f.bd,sS s.e/\sS s.f)(Xn:(f.pm++declN f.bd).Nodup)(Yh:f.pm.length<=1000)(Yo:f.bd.length<=100000)(Xo:∀s∈f.pm++declN f.bd,s.size<=maxLen):
  Calls prog 80 #[.agg #[sV f.nm,vp,vb]] w λe w'=>∃b,e=rW (.agg #[.map (some b),V (4*((f.pm++declN f.bd).length:Int)),V ((4*((f.pm++declN f.bd).length:Int)+4*(places f.bd+1)+15) / 16*16)])/\Below w.heap.size w w'/\w.heap.size<=b/\∃nn D,w'.ownsMap prog 9 (plainElem (H:=Unit) prog 2) b nn D/\bJ D (f.pm++declN f.bd):=by
 have Xv:=ah λW (hW:Bl w W)=>ut vb f.bd W (Jm.below Jm.size hW) (hb.below hW) J_;obtain⟨ap,cp,rfl,Yl,Yk,Xk⟩:=hp;obtain⟨ab,cb,rfl,Yn,Yj,Xa⟩:=hb;have⟨W0,Jb⟩:=q_ (((((w.alloc (.cells #[sV f.nm,.slice ap f.pm.length cp,.slice ab f.bd.length cb] 143)).alloc (.cells #[.map none,V 0,V 0] 204)).alloc (.map #[] 0)).alloc (.cells #[.map (some (w.heap.size+1+1)),V 0,V 0] 204)));have hA:∀(W:World) o,Bl W (W.alloc o):=λW o=>r_.alloc n_ o;have Xl:Bl w W0:=by rw[Jb];exact(((aq _ _).alloc i_ _).alloc (by simp;omega) _).alloc (by simp;omega) _
 have Xj:W0.ownsMap prog 9 (plainElem (H:=Unit) prog 2) (w.heap.size+1+1) 0 (.map []):=by rw[Jb];have:=World.ownsMap_made ((w.alloc (.cells #[sV f.nm,.slice ap f.pm.length cp,.slice ab f.bd.length cb] 143)).alloc (.cells #[.map none,V 0,V 0] 204)) prog 9 (plainElem (H:=Unit) prog 2);simp only[Bl,World.size_alloc]at this;exact this.alloc _
 have z0:W0.cell? ⟨w.heap.size,1,none⟩=some (.slice ap f.pm.length cp):=by rw[Jb,World.cell?_alloc_past _ _ _ (by simp only[World.size_alloc];omega),World.cell?_alloc_past _ _ _ (by simp only[World.size_alloc];omega),World.cell?_alloc_past _ _ _ (by simp only[World.size_alloc];omega),World.cell?_alloc_at _ _ _ _ rfl];rfl
 have z1:W0.cell? ⟨w.heap.size,2,none⟩=some (.slice ab f.bd.length cb):=by rw[Jb,World.cell?_alloc_past _ _ _ (by simp only[World.size_alloc];omega),World.cell?_alloc_past _ _ _ (by simp only[World.size_alloc];omega),World.cell?_alloc_past _ _ _ (by simp only[World.size_alloc];omega),World.cell?_alloc_at _ _ _ _ rfl];rfl
 have z2:W0.cell? ⟨w.heap.size+1+1+1,0,none⟩=some (.map (some (w.heap.size+1+1))):=by rw[Jb,World.cell?_alloc_at _ _ _ _ (by simp only[World.size_alloc])];rfl
 have z3:W0.cell? ⟨w.heap.size+1+1+1,1,none⟩=some (V 0):=by rw[Jb,World.cell?_alloc_at _ _ _ _ (by simp only[World.size_alloc])];rfl
 have z4:W0.cell? ⟨w.heap.size+1+1+1,2,none⟩=some (V 0):=by rw[Jb,World.cell?_alloc_at _ _ _ _ (by simp only[World.size_alloc])];rfl
 have z5:W0.cell? ⟨w.heap.size+1,0,none⟩=some (.map none):=by rw[Jb,World.cell?_alloc_past _ _ _ (by simp only[World.size_alloc];omega),World.cell?_alloc_past _ _ _ (by simp only[World.size_alloc];omega),World.cell?_alloc_at _ _ _ _ (by simp only[World.size_alloc])];rfl
 have z6:W0.cell? ⟨w.heap.size+1,1,none⟩=some (V 0):=by rw[Jb,World.cell?_alloc_past _ _ _ (by simp only[World.size_alloc];omega),World.cell?_alloc_past _ _ _ (by simp only[World.size_alloc];omega),World.cell?_alloc_at _ _ _ _ (by simp only[World.size_alloc])];rfl
 have z7:W0.cell? ⟨w.heap.size+1,2,none⟩=some (V 0):=by rw[Jb,World.cell?_alloc_past _ _ _ (by simp only[World.size_alloc];omega),World.cell?_alloc_past _ _ _ (by simp only[World.size_alloc];omega),World.cell?_alloc_at _ _ _ _ (by simp only[World.size_alloc])];rfl
 have z8:∀o,W0.frozen? ⟨w.heap.size+1+1+1,o,none⟩=false:=λo=>by rw[Jb,World.frozen?_alloc_at _ _ _ _ (by simp only[World.size_alloc])]
 have z9:∀o,W0.frozen? ⟨w.heap.size+1,o,none⟩=false:=λo=>by rw[Jb,World.frozen?_alloc_past _ _ _ (by simp only[World.size_alloc];omega),World.frozen?_alloc_past _ _ _ (by simp only[World.size_alloc];omega),World.frozen?_alloc_at _ _ _ _ (by simp only[World.size_alloc])]
 have Xp:=nu f.bd J_;have Y:Hid ((W0.cell? ⟨w.heap.size+1+1+1,1,none⟩=some (V 0)/\W0.cell? ⟨w.heap.size+1+1+1,2,none⟩=some (V 0)/\∀o,W0.frozen? ⟨w.heap.size+1+1+1,o,none⟩=false)/\W0.cell? ⟨w.heap.size+1,0,none⟩=some (.map none)/\W0.cell? ⟨w.heap.size+1,1,none⟩=some (V 0)/\W0.cell? ⟨w.heap.size+1,2,none⟩=some (V 0)/\∀o,W0.frozen? ⟨w.heap.size+1,o,none⟩=false):=⟨⟨z3,z4,z8⟩,z5,z6,z7,z9⟩;clear z3 z4 z5 z6 z7 z8 z9;have Yi:W0.heap.size=w.heap.size+4:=by rw[Jb];simp
 have⟨Yd,Xy,Xw,Xx,Xs,Xg,Xm⟩:=h7 Jb Xj Xl Xk Xa Xn Xo;clear Jb Xj Xl hA Xk Xa Xn Xo J_ Jm;have Yc:= @run_makeMap prog;go_in;go_wp2_with fail;rw[<-Yd.out];clear Yc;go_loopw[14] (λi wr=>∃(k:Nat) (D:DataW Unit),k<=f.pm.length/\i=.int .i64 k/\wr.ownsMap prog 9 (plainElem (H:=Unit) prog 2) (w.heap.size+1+1) k D/\bJ D (f.pm.take k)/\mv (w.heap.size+1+1) W0 wr/\Bl w wr) (λi _=>f.pm.length-(RowKit.intOf i).toNat)
 case atStart=>exact⟨0,_,y_,rfl,Xy,bJ.nil,mv.refl _ _,Xw⟩
 case round=>
  obtain⟨k,D,hk,rfl,U,O,Ja,J⟩:=hrel;have y2:wr.cell? ⟨w.heap.size+1+1+1,0,none⟩=some (.map (some (w.heap.size+1+1))):=(Ja.cell (p:=⟨w.heap.size+1+1+1,0,none⟩) (by simp;omega) i_).trans z2;by_cases hlt:k<f.pm.length
  ·obtain⟨b',Jk,rfl,hc⟩:=Xx.out o_;have d0:=hc.below J k hlt;have Jx:f.pm[k]∈f.pm:=g_ hlt;have HF:Hid (f.pm[k]∉f.pm.take k):=by intro hm;have Xr:=(List.nodup_append.1 Xg).1;have⟨j,hj,he⟩:=List.getElem_of_mem hm;rw[List.getElem_take]at he;simp at hj;exact List.pairwise_iff_getElem.1 Xr j k o_ hlt o_ he
   have HT:=ah (List.take_succ_eq_append_getElem hlt);have Y:Hid (f.pm[k].size<=maxLen):=Xm.out _ i_;have X:=ah (wT _ _ k D _ _ wr y2 U O (by simp;omega) o_ Y.out HF.out o_);rw[<-HT.out]at X;clear HF HT Y Jx U O hc;generalize f.pm[k]=s at d0 X;go_wp2_with fail;refine X.out.mono ?_;rintro e w2 ⟨rfl,D2,Jp,Jq,Jl⟩;have Ji:=Ja.grown Jl;have Jg:Bl w w2:=J.drew.grown Jl J.size (λj hj=>by cases hj;omega);have Z:Hid (w2.ownsMap prog 9 (plainElem (H:=Unit) prog 2) (w.heap.size+1+1) (k+1) D2/\bJ D2 (f.pm.take (k+1))):=⟨Jp,Jq⟩;clear Jp Jq Jl X d0 y2 Ja J;go_wp2;go_roundw
   case rel=>exact⟨k+1,D2,o_,by go_num,Z.out.1,Z.out.2,Ji,Jg⟩
   case measure=>simp[RowKit.intOf];omega
  have Xd:k=f.pm.length:=o_;have Xi:Hid (bJ D (f.pm++declN (f.bd.take 0))):=by show bJ _ _;have:=O;rw[List.take_of_length_le o_]at this;simpa[declN]using this
  have⟨Xf,Jr⟩:=h2 U Ja;have y1:wr.cell? ⟨w.heap.size,2,none⟩=some (.slice ab f.bd.length cb):=(Ja.cell (p:=⟨w.heap.size,2,none⟩) (by simp;omega) (by simp;omega)).trans z1;have Xq:=ah Xd;clear U O y2 Xd;go_wp2_with fail;clear hlt hk;have Ym:k<=1000:=(by rw[Xq.out];exact Yh);go_loopw[24] (λi wr=>∃(j nn:Nat) (D:DataW Unit),j<=f.bd.length/\i=.int .i64 j/\nn<=k+j/\wr.ownsMap prog 9 (plainElem (H:=Unit) prog 2) (w.heap.size+1+1) nn D/\bJ D (f.pm++declN (f.bd.take j))/\mv (w.heap.size+1+1) W0 wr/\Bl w wr) (λi _=>f.bd.length-(RowKit.intOf i).toNat)
  case atStart=>exact⟨0,k,D,y_,rfl,o_,Xf,Xi,Jr,J⟩
  case round=>
   clear Xf Xi Jr Ja J y1;obtain⟨j,nn,D,hj,rfl,Yg,U,O,Ja,J⟩:=hrel;have y2:∀o,(World.alloc _ o).cell? ⟨w.heap.size+1+1+1,0,none⟩=some (.map (some (w.heap.size+1+1))):=λo=>((Ja.below (r_.alloc n_ o)).cell (p:=⟨w.heap.size+1+1+1,0,none⟩) (by simp;omega) i_).trans z2;by_cases hlt2:j<f.bd.length
   ·obtain⟨b',Jk,rfl,hc⟩:=Xs.out o_;have⟨ve,vf,⟨c0,c1,c2,c3,c4,c5⟩,he,hf⟩:=hc j hlt2;have Jo:=b_ c0;have d0:=(J.cell (p:=⟨b',Jk+j*6,none⟩) Jo).trans c0;have d1:=(J.cell (p:=⟨b',Jk+j*6+1,none⟩) Jo).trans c1;have d2:=(J.cell (p:=⟨b',Jk+j*6+2,none⟩) Jo).trans c2;have d3:=(J.cell (p:=⟨b',Jk+j*6+3,none⟩) Jo).trans c3;have d4:=(J.cell (p:=⟨b',Jk+j*6+4,none⟩) Jo).trans c4;have d5:=(J.cell (p:=⟨b',Jk+j*6+5,none⟩) Jo).trans c5;clear c0 c1 c2 c3 c4 c5 hc;obtain⟨ae,ce,rfl,-⟩:=he;obtain⟨af,cf,rfl,-⟩:=hf;generalize f.bd[j].e.length=le at d2;generalize f.bd[j].f.length=lf at d3;have Jn:Bl wr (wr.alloc (.cells #[V f.bd[j].kd,sV f.bd[j].nm,.slice ae le ce,.slice af lf cf,V f.bd[j].th,V f.bd[j].el] 254)):=aq _ _;have Jd:=Ja.below Jn;have Jh:=J.trans (Jn.mono J.size);have Jt:=U.alloc (.cells #[V f.bd[j].kd,sV f.bd[j].nm,.slice ae le ce,.slice af lf cf,V f.bd[j].th,V f.bd[j].el] 254);have Jv:(f.pm++declN (f.bd.take j)).length<=1000000:=(by have:=kN (f.bd.take j);simp at this⊢;omega);have Jj:=zD (f.bd.take j) f.bd[j];rw[<-List.take_succ_eq_append_getElem hlt2]at Jj;by_cases h1:f.bd[j].kd=1
    ·rw[if_pos h1]at Jj;have HT:Hid (f.pm++declN (f.bd.take (j+1))=f.pm++declN (f.bd.take j)++[f.bd[j].nm]):=(by show _=_;rw[Jj,List.append_assoc]);have X:=ah (wT _ _ nn D _ _ _ (y2 _) Jt O Jv o_ (Xm.out _ (by simp[CT hlt2 h1])) (CS Xg.out hlt2 h1) o_);rw[<-HT.out]at X;clear HT Jj U O Jt Jv y2 Ja;generalize f.bd[j]=s at d0 d1 d2 d3 d4 d5 X h1 Jd Jh Jn;obtain⟨kd,nm,se,sf,th,el⟩:=s;simp only at d0 d1 d2 d3 d4 d5 X h1 Jd Jh Jn;subst h1;go_wp2_with fail;refine X.out.mono ?_;rintro e w2 ⟨rfl,D2,Jp,Jq,Jl⟩;have Ji:=Jd.grown Jl;have Jg:Bl w w2:=Jh.drew.grown Jl Jh.size (λj hj=>by cases hj;omega);have Z:Hid (w2.ownsMap prog 9 (plainElem (H:=Unit) prog 2) (w.heap.size+1+1) (nn+1) D2/\bJ D2 (f.pm++declN (f.bd.take (j+1)))):=⟨Jp,Jq⟩;clear Jp Jq Jl X d0 d1 d2 d3 d4 d5 Jd Jh Jn;go_wp2;go_roundw
     case rel=>exact⟨j+1,nn+1,D2,o_,by go_num,o_,Z.out.1,Z.out.2,Ji,Jg⟩
     case measure=>simp[RowKit.intOf];omega
    rw[if_neg h1]at Jj;rw[<-Jj]at O;have Z:Hid ((wr.alloc (.cells #[V f.bd[j].kd,sV f.bd[j].nm,.slice ae le ce,.slice af lf cf,V f.bd[j].th,V f.bd[j].el] 254)).ownsMap prog 9 (plainElem (H:=Unit) prog 2) (w.heap.size+1+1) nn D/\bJ D (f.pm++declN (f.bd.take (j+1)))):=⟨Jt,O⟩;clear Jj U O Jt Jv y2 Ja;generalize f.bd[j]=s at d0 d1 d2 d3 d4 d5 h1 Jd Jh Jn Z;go_wp2;go_roundw
    case rel=>exact⟨j+1,nn,D,o_,by go_num,o_,Z.out.1,Z.out.2,Jd,Jh⟩
    case measure=>simp[RowKit.intOf];omega
   have Xu:j=f.bd.length:=o_;rw[List.take_of_length_le o_]at O;have Yf:(f.pm++declN f.bd).length<=101000:=(by have:=kN f.bd;simp;omega);have Js:(w.heap.size+1+1+1)<W0.heap.size:=o_;have q0:=(Ja.cell (p:=⟨w.heap.size+1+1+1,0,none⟩) Js i_).trans z2;have q1:=(Ja.cell (p:=⟨w.heap.size+1+1+1,1,none⟩) Js i_).trans Y.out.1.1;have q2:=(Ja.cell (p:=⟨w.heap.size+1+1+1,2,none⟩) Js i_).trans Y.out.1.2.1;have qf:=λo=>(Ja.frozen (p:=⟨w.heap.size+1+1+1,o,none⟩) Js i_).trans (Y.out.1.2.2 o);have Ju:(w.heap.size+1)<W0.heap.size:=o_
   have r0:=(Ja.cell (p:=⟨w.heap.size+1,0,none⟩) Ju i_).trans Y.out.2.1;have r1:=(Ja.cell (p:=⟨w.heap.size+1,1,none⟩) Ju i_).trans Y.out.2.2.1;have r2:=(Ja.cell (p:=⟨w.heap.size+1,2,none⟩) Ju i_).trans Y.out.2.2.2.1;have rf:=λo=>(Ja.frozen (p:=⟨w.heap.size+1,o,none⟩) Ju i_).trans (Y.out.2.2.2.2 o);have y1:wr.cell? ⟨w.heap.size,2,none⟩=some (.slice ab f.bd.length cb):=(Ja.cell (p:=⟨w.heap.size,2,none⟩) (by simp;omega) (by simp;omega)).trans z1;have HU:=ah (wS _ _ nn D _ wr q0 U O o_);have Xz:w.heap.size+4<=wr.heap.size:=(by have:=Ja.1;omega);have Xb:Hid (wr.ownsMap prog 9 (plainElem (H:=Unit) prog 2) (w.heap.size+1+1) nn D/\bJ D (f.pm++declN f.bd)):=⟨U,O⟩;clear U O Xu y2 Ja Yg;have⟨N,Jz⟩:=q_ ((f.pm++declN f.bd).length);rw[<-Jz]at HU Yf;have Ya:=ah Jz;clear Jz;go_wp2_with fail;refine HU.out.mono ?_;rintro e w2 ⟨rfl,Xc⟩;rw[Xc];clear Xc HU;have⟨I,Jc⟩:=q_ (wr.setCell ⟨w.heap.size+1+1+1,1,none⟩ (V (4*(N:Int))));have g0:I.drew.cell? ⟨w.heap.size+1+1+1,0,none⟩=some (.map (some (w.heap.size+1+1))):=(by show I.cell? _=_;rw[Jc,s_ _ _ _ _ i_];exact q0);have g1:I.drew.cell? ⟨w.heap.size+1+1+1,1,none⟩=some (V (4*(N:Int))):=(by show I.cell? _=_;rw[Jc,World.cell?_setCell_same _ _ _ q1]);have g2:I.drew.cell? ⟨w.heap.size+1+1+1,2,none⟩=some (V 0):=(by show I.cell? _=_;rw[Jc,s_ _ _ _ _ i_];exact q2);have gf:∀o,I.drew.frozen? ⟨w.heap.size+1+1+1,o,none⟩=false:=λo=>by show I.frozen? _=_;rw[Jc,World.frozen?_setCell];exact qf o
   have t0:I.drew.cell? ⟨w.heap.size+1,0,none⟩=some (.map none):=(by show I.cell? _=_;rw[Jc,s_ _ _ _ _ i_];exact r0);have t1:I.drew.cell? ⟨w.heap.size+1,1,none⟩=some (V 0):=(by show I.cell? _=_;rw[Jc,s_ _ _ _ _ i_];exact r1);have t2:I.drew.cell? ⟨w.heap.size+1,2,none⟩=some (V 0):=(by show I.cell? _=_;rw[Jc,s_ _ _ _ _ i_];exact r2);have tf:∀o,I.drew.frozen? ⟨w.heap.size+1,o,none⟩=false:=λo=>by show I.frozen? _=_;rw[Jc,World.frozen?_setCell];exact rf o
   have b2:I.drew.cell? ⟨w.heap.size,2,none⟩=some (.slice ab f.bd.length cb):=(by show I.cell? _=_;rw[Jc,s_ _ _ _ _ i_];exact y1);have Jg:Bl w I.drew:=(by rw[Jc];exact(J.setCell (by simp;omega) _).drew);have Jf:w.heap.size+4<=I.drew.heap.size:=(by rw[Jc];simpa using Xz);have Yb:Hid (I.drew.heap[w.heap.size+1+1]? =wr.heap[w.heap.size+1+1]?):=by show I.heap[w.heap.size+1+1]? =_;rw[Jc];exact Below.heap_setCell _ _ _ _ i_
   have Xh:=Xv.out I.drew Jg;have⟨Jw,Xe⟩:=h2 Xh Jc;clear Jc Xh;have⟨P,Jy⟩:=q_ (places f.bd);rw[<-Jy]at Jw Xp;have X_:=ah Jy;clear Jy;have k1:IntKind.i64.wrap (P+1)=P+1:=(by simp[IntKind.wrap,IntKind.bits,IntKind.signed];omega);have k2:IntKind.i64.wrap (4*(P+1))=4*(P+1):=(by simp[IntKind.wrap,IntKind.bits,IntKind.signed];omega);have k3:IntKind.i64.wrap (4*(N:Int)+4*(P+1))=4*(N:Int)+4*(P+1):=(by simp[IntKind.wrap,IntKind.bits,IntKind.signed];omega);go_wp2_with fail;rw[<-Xe.out];go_region_held3 (λW=>W.cell? ⟨w.heap.size+1+1+1,1,none⟩=some (V (4*(N:Int)))/\W.cell? ⟨w.heap.size,2,none⟩=some (.slice ab f.bd.length cb)) (go_simp)
    (first
    | ((with_reducible refine Calls.mono Jw.out ?_);rintro e w3 ⟨rfl,Je⟩;have e1:w3.cell? ⟨w.heap.size+1+1+1,1,none⟩=some (.int .i64 (4*(N:Int))):=(Je.cell (p:=⟨w.heap.size+1+1+1,1,none⟩) (by simp at Jf⊢;omega)).trans g1;have e2:w3.cell? ⟨w.heap.size,2,none⟩=some (.slice ab f.bd.length cb):=(Je.cell (p:=⟨w.heap.size,2,none⟩) (by simp at Jf⊢;omega)).trans b2))
   have m0:=(Je.cell (p:=⟨w.heap.size+1+1+1,0,none⟩) (by simp at Jf⊢;omega)).trans g0;have m2:=(Je.cell (p:=⟨w.heap.size+1+1+1,2,none⟩) (by simp at Jf⊢;omega)).trans g2;have mf:=λo=>(Je.frozen (p:=⟨w.heap.size+1+1+1,o,none⟩) (by simp at Jf⊢;omega)).trans (gf o);have n0:=(Je.cell (p:=⟨w.heap.size+1,0,none⟩) (by simp at Jf⊢;omega)).trans t0;have n1:=(Je.cell (p:=⟨w.heap.size+1,1,none⟩) (by simp at Jf⊢;omega)).trans t1;have n2:=(Je.cell (p:=⟨w.heap.size+1,2,none⟩) (by simp at Jf⊢;omega)).trans t2;have nf:=λo=>(Je.frozen (p:=⟨w.heap.size+1,o,none⟩) (by simp at Jf⊢;omega)).trans (tf o);have Xt:=Jg.trans (Je.mono Jg.size);have Ye:=ah ((Je.block _ o_).trans Yb);have k4:IntKind.i64.wrap (4*(N:Int)+4*(P+1)+16)=4*(N:Int)+4*(P+1)+16:=(by simp[IntKind.wrap,IntKind.bits,IntKind.signed];omega);have k5:IntKind.i64.wrap (4*(N:Int)+4*(P+1)+16-1)=4*(N:Int)+4*(P+1)+15:=(by simp[IntKind.wrap,IntKind.bits,IntKind.signed];omega);clear g0 g1 g2 gf t0 t1 t2 tf b2 Je Jg J q0 q1 q2 qf r0 r1 r2 rf y1 Jw Xe;go_wp2_with fail;refine bodyPost_ret (v:=.agg #[.map (some (w.heap.size+1+1)),V (4*(N:Int)),V ((4*(N:Int)+4*(P+1)+15) / 16*16)]) ?_ rfl ⟨w.heap.size+1+1,?_,?_,o_,nn,D,?_,Xb.out.2⟩
   ·simp[results,results80,go_sem,n0,n1,n2]
   rw[<-Ya.out,<-X_.out];exact(((Xt.setCell (by simp;omega) _).setCell i_ _).setCell i_ _).setCell i_ _;refine gP Xb.out.1 ?_;rw[Below.heap_setCell _ _ _ _ i_,Below.heap_setCell _ _ _ _ i_,Below.heap_setCell _ _ _ _ i_,Below.heap_setCell _ _ _ _ i_];exact Ye
theorem wU(f:Fu)(vp vb:Value)(w:World)(hTab:eG w)(hp:Strs w vp f.pm)(hb:be w vb f.bd)(hok:∀s∈f.bd,sS s.e/\sS s.f)(hnd:(f.pm++declN f.bd).Nodup)(hpl:f.pm.length<=1000)(hbl:f.bd.length<=100000)(hsz:∀s∈f.pm++declN f.bd,s.size<=maxLen):
  Calls prog 80 #[.agg #[sV f.nm,vp,vb]] w λe w'=>∃b,e=rW (.agg #[.map (some b),V (4*((f.pm++declN f.bd).length:Int)),V ((4*((f.pm++declN f.bd).length:Int)+4*(places f.bd+1)+15) / 16*16)])/\Below w.heap.size w w':=
 (nW f vp vb w hTab hp hb hok hnd hpl hbl hsz).mono (λ_ _ ⟨b,h1,h2,_⟩=>⟨b,h1,h2⟩)
end
section
variable{t:Tr}
theorem my(a b:List St):declN (a++b)=declN a++declN b:=by simp[declN]
theorem zE(s:St)(r:List St):declN (s::r)=(if s.kd=1 then[s.nm]else[])++declN r:=by unfold declN;by_cases h:s.kd=1 <;> simp[h]
theorem uu{H:List ByteArray}{s:ByteArray}(h:s∈H):fT H s=true:=by unfold fT;rw[List.any_eq_true];exact⟨s,h,decide_eq_true rfl⟩
theorem zF(t:Tr)(N:Nat):∀(ss:List St) (a:Int) (scope taken:List ByteArray),ss.length<=N->(bC t ss a scope taken).1=0->taken.Nodup->(bC t ss a scope taken).2.2=taken++declN ss/\(taken++declN ss).Nodup:=by
 induction N with
 | zero=>
  intro ss a scope taken I h H;cases ss with
  | nil=>simp[bC_nil0, bC_cons,declN,H]
  | cons s r=>simp at I
 | succ N ih=>
  intro ss a scope taken I h H;cases ss with
  | nil=>simp[bC_nil0, bC_cons,declN,H]
  | cons s r=>
   simp only[l_c]at I;rw[bC_cons]at h⊢;by_cases h1:stmtE t scope taken s≠0;rw[if_pos h1]at h;exact absurd h h1;rw[if_neg h1]at h⊢;have Ja:(if s.kd=1 then taken++[s.nm]else taken).Nodup:=by
    split;rename_i hk;have Jb:s.nm∉taken:=by intro X;apply h1;unfold stmtE;by_cases he:exprE t scope (s.e++s.f)≠0;rw[if_pos he];exact he;rw[if_neg he,if_pos hk,if_pos (.inl (uu X))];decide
    rw[List.nodup_append];exact⟨H,i_,λx hx y hy=>by simp at hy;subst hy;exact λe=>Jb (e ▸ hx)⟩;exact H
   have Y:(if s.kd=1 then taken++[s.nm]else taken)=taken++(if s.kd=1 then[s.nm]else[]):=by split <;> simp
   generalize (if s.kd=1 then scope++[s.nm]else scope)=sc at h⊢;rw[Y]at h Ja⊢;have U:taken++declN (s::r)=taken++(if s.kd=1 then[s.nm]else[])++declN (r.take s.th.toNat)++declN ((r.drop s.th.toNat).take s.el.toNat)++declN (r.drop (s.th.toNat+s.el.toNat)):=by
    have J:r=r.take s.th.toNat++((r.drop s.th.toNat).take s.el.toNat++r.drop (s.th.toNat+s.el.toNat)):=by rw[<-List.drop_drop,List.take_append_drop,List.take_append_drop]
    rw[zE];conv=>lhs;rw[J]
    rw[my,my];simp only[List.append_assoc]
   rw[U];generalize taken++(if s.kd=1 then[s.nm]else[])=tk at h Ja⊢;simp only at h⊢;by_cases hx:(bC t (r.take s.th.toNat) (a+1) sc tk).1≠0;rw[if_pos hx]at h;exact absurd h hx;rw[if_neg hx]at h⊢;obtain⟨x1,x2⟩:=ih (r.take s.th.toNat) (a+1) sc tk (by simp;omega) (by simpa using hx) Ja;rw[x1]at h⊢;by_cases hy:(bC t ((r.drop s.th.toNat).take s.el.toNat) (a+1+s.th) sc (tk++declN (r.take s.th.toNat))).1≠0;rw[if_pos hy]at h;exact absurd h hy;rw[if_neg hy]at h⊢;obtain⟨O,Z⟩:=ih ((r.drop s.th.toNat).take s.el.toNat) (a+1+s.th) sc _ (by simp;omega) (by simpa using hy) x2;rw[O]at h⊢;exact ih (r.drop (s.th.toNat+s.el.toNat)) _ sc _ (by simp;omega) h Z
theorem qm(gs:List Gl):∀(ps seen:List ByteArray),seen.Nodup->jx gs seen ps=false->(seen++ps).Nodup
 | [],seen,hn,_=>by simpa using hn
 | p::r,seen,hn,h=>by
  unfold jx at h;by_cases hc:fT seen p=true\/0<=globI gs p;rw[if_pos hc]at h;cases h;rw[if_neg hc]at h;have hni:p∉seen:=λhm=>hc (.inl (uu hm));have:=qm gs r (seen++[p]) (by rw[List.nodup_append];exact⟨hn,i_,λx hx y hy=>by simp at hy;subst hy;exact λe=>hni (e ▸ hx)⟩) h
  simpa using this
theorem wV{i:Nat}{f:Fu}(h:(fe t i f).1=0):(f.pm++declN f.bd).Nodup:=by unfold fe at h;by_cases hd:jx t.gl [] f.pm=true;rw[if_pos hd]at h;cases h;rw[if_neg hd]at h;have H:=qm t.gl f.pm [] List.nodup_nil (by simpa using hd);by_cases hb:(bC t f.bd 0 f.pm f.pm).1≠0;rw[if_pos hb]at h;exact absurd h hb;exact(zF t f.bd.length f.bd 0 f.pm f.pm n_ (by simpa using hb) (by simpa using H)).2
theorem kZ{t:Tr}:∀(fs:List Fu) (i:Nat),(bodiesE t i fs).1=0->∀f∈fs,(f.pm++declN f.bd).Nodup
 | [],_,_=>λf hf=>by cases hf
 | g::r,i,h=>by unfold bodiesE at h;by_cases hb:(fe t i g).1≠0;rw[if_pos hb]at h;exact absurd h hb;rw[if_neg hb]at h;intro f hf;rcases List.mem_cons.1 hf with rfl|hf;exact wV (by simpa using hb);exact kZ r (i+1) h f hf
theorem nX(h:(aL t).1=0):co t=true/\∀f∈t.fc,(f.pm++declN f.bd).Nodup:=by unfold aL at h;by_cases h1:co t=false;rw[if_pos h1]at h;cases h;rw[if_neg h1]at h;by_cases h2:(dQ t).1≠0;rw[if_pos h2]at h;exact absurd h h2;rw[if_neg h2]at h;by_cases h3:(bodiesE t 0 t.fc).1≠0;rw[if_pos h3]at h;exact absurd h h3;exact⟨by simpa using h1,kZ t.fc 0 (by simpa using h3)⟩
end
section
variable{t:Tr}
def aH(f:Fu):Int:=(4*((f.pm++declN f.bd).length:Int)+4*(places f.bd+1)+15) / 16*16
def aV(t:Tr):List Int:=if (aL t).1=0 then t.fc.map aH else[]
structure I3 (f:Fu):Prop where
 nd:(f.pm++declN f.bd).Nodup
 st:∀s∈f.bd,sS s.e/\sS s.f
 sb:∀s∈f.bd,0<s.e.length/\(s.kd=3->0<s.f.length)/\(s.kd≠3->s.f.length=0)
 pl:f.pm.length<=1000
 bl:f.bd.length<=1000
 sz:∀s∈f.pm++declN f.bd,s.size<=maxLen
theorem kj{l:List St}{s:St}(h:s∈l):s.e.length+s.f.length<=aU l:=by
 induction l with
 | nil=>cases h
 | cons a r ih=>
  simp only[aU];rcases List.mem_cons.1 h with rfl|h;omega
  have:=ih h;omega
theorem LL(h:(aL t).1=0)(U:xL t):t.fc.length<=50/\∀f∈t.fc,I3 f:=by
 have⟨H,O⟩:=nX h;unfold co at H;simp only[Bool.and_eq_true,decide_eq_true_iff,List.all_eq_true]at H;obtain⟨X,h2,h3,h4⟩:=H;refine⟨h2,λf hf=>?_⟩;have Jc:=h4 f hf;have Jd:=U.2.2 f hf;unfold funcB stmtsB at Jc;simp only[Bool.and_eq_true,decide_eq_true_iff,List.all_eq_true]at Jc;obtain⟨-,I,Y,-,⟨Je,Jf⟩,-⟩:=Jc;have Ja:∀s∈f.bd,oneB s.e=true/\(s.kd=3->oneB s.f=true)/\(s.kd≠3->s.f.length=0):=by intro s hs;have:=Jf s hs;unfold bB at this;simp only[Bool.and_eq_true]at this;obtain⟨⟨⟨⟨⟨-,Jg⟩,Jb⟩,-⟩,-⟩,-⟩:=this;refine⟨Jg,λh=>?_,λh=>?_⟩;rw[if_pos h]at Jb;exact Jb;rw[if_neg h]at Jb;simpa using Jb
 refine⟨O f hf,λs hs=>?_,λs hs=>?_,o_,o_,λs hs=>?_⟩;have Jh:=kj hs;have⟨h5,h6,h7⟩:=Ja s hs;refine⟨⟨o_,λ_=>h5⟩,o_,λI=>?_⟩;by_cases h3:s.kd=3;exact h6 h3
 have:=h7 h3;omega
 have⟨h5,h6,h7⟩:=Ja s hs;exact⟨o7 h5,λh3=>o7 (h6 h3),h7⟩
 unfold maxLen;rcases List.mem_append.1 hs with hs|hs
 have:=Jd.2.1.2 s hs;omega
 unfold declN at hs;obtain⟨x,J,rfl⟩:=List.mem_map.1 hs;have:=(Jd.2.2.2 x (List.mem_filter.1 J).1).1;omega
theorem km(h:(aL t).1=0):aV t=t.fc.map aH:=by unfold aV;rw[if_pos h]
theorem qn(h:(aL t).1≠0):aV t=[]:=by unfold aV;rw[if_neg h]
theorem wW(t:Tr):(aV t).length<=t.fc.length:=by unfold aV;split <;> simp
theorem zG{f:Fu}(h:I3 f):0<=aH f/\aH f<=1000000:=by have H:=nu f.bd h.st;have h2:=kN f.bd;have h3:=h.pl;have h4:=h.bl;unfold aH;have:(f.pm++declN f.bd).length=f.pm.length+(declN f.bd).length:=i_;rw[this];omega
end
section
variable{l:List Nat}{t:Tr}{n f m:Nat}{s:Int}
def ld(t:Tr)(f:Nat):List Nat:=callsL t.fc (t.fc.getD f ⟨⟨#[]⟩,[],[]⟩).bd
def iZ(t:Tr)(f:Nat):Int:=aH (t.fc.getD f ⟨⟨#[]⟩,[],[]⟩)
def uK(l:List Int):Int:=l.foldl max 0
theorem F_(l:List Int)(x:Int):uK (l++[x])=max (uK l) x:=by simp[uK]
theorem uv(l:List Int):∀p:Int,p<=l.foldl max p:=by
 induction l with
 | nil=>intro p;exact Int.le_refl _
 | cons x r ih=>intro p;exact Int.le_trans (Int.le_max_left p x) (ih (max p x))
theorem uw(l:List Int)(M:Int):∀p:Int,p<=M->(∀x∈l,x<=M)->l.foldl max p<=M:=by
 induction l with
 | nil=>intro p H _;exact H
 | cons x r ih=>intro p H h;exact ih (max p x) (Int.max_le.2 ⟨H,h x i_⟩) (λy hy=>h y (by simp[hy]))
theorem F0(l:List Int)(M:Int)(hM:0<=M)(h:∀x∈l,x<=M):0<=uK l/\uK l<=M:=⟨uv l 0,uw l M 0 hM h⟩
structure DpC (t:Tr)(P:Nat->Nat->Int->Prop):Prop where
 c_::
 mk:∀n f(g:Nat->Int),f<t.fc.length->(∀c∈ld t f,P n c (g c))->P (n+1) f (iZ t f+uK ((ld t f).map g))
structure Dp (t:Tr)(a0:Nat)(a1:Nat)(a2:Int):Prop where
 c_::
 out:∀P,DpC t P->P a0 a1 a2
theorem Dp.C{t:Tr}:DpC t (Dp t):=⟨λn f g q0 q1=>⟨λP h=>h.mk n f g q0 (λc r=>(q1 c r).out P h)⟩⟩
abbrev Dp.mk {t}:=(Dp.C:DpC t _).mk
theorem Dp_i{t:Tr}{M:∀(a0:Nat)(a1:Nat)(a2:Int),Dp t a0 a1 a2->Prop}
 (mk:∀n f(g:Nat->Int),f<t.fc.length->∀q1:∀c∈ld t f,Dp t n c (g c),(∀ c (r : c ∈ ld t f),M n c (g c) (q1 c r))->∀u,M (n+1) f (iZ t f+uK ((ld t f).map g)) u)
 {a0:Nat}{a1:Nat}{a2:Int}(u:Dp t a0 a1 a2):M a0 a1 a2 u:=
 (u.out (λa0 a1 a2=>∃z_,M a0 a1 a2 z_) ⟨λn f g q0 q1=>⟨.mk n f g q0 (λc r=>(q1 c r).1),mk n f g q0 _ (λc r=>(q1 c r).2) _⟩⟩).2
theorem zH{g h:Nat->Int}(e:∀c∈l,g c=h c):l.map g=l.map h:=List.map_congr_left e
theorem Dp.one{t:Tr}{n f:Nat}{s:Int}(h:Dp t n f s):∀ {m:Nat} {s':Int},Dp t m f s'->s=s':=by
 induction h using Dp_i with
 | mk n f g hf hg ih=>
  intro m s' H;cases H using Dp_i with
  | mk m _ g' hf' hg'=>rw[zH (λc hc=>ih c hc (hg' c hc))]
theorem Dp.lt(h:Dp t n f s):f<t.fc.length:=by cases h using Dp_i with|mk n _ g hf _=>exact hf
theorem Dp.bd(I:∀f,f<t.fc.length->0<=iZ t f/\iZ t f<=1000000)(h:Dp t n f s):0<=s/\s<=1000000*n:=by
 induction h using Dp_i with
 | mk n f g hf hg ih=>have J:=I f hf;have h2:=F0 ((ld t f).map g) (1000000*n) o_ (λx hx=>by obtain⟨c,H,rfl⟩:=List.mem_map.1 hx;exact(ih c H).2);omega
theorem Dp.kids(h:Dp t n f s):∃k,n=k+1/\∀c∈ld t f,∃x,Dp t k c x:=by
 cases h using Dp_i with
 | mk k _ g hf hg=>exact⟨k,rfl,λc hc=>⟨g c,hg c hc⟩⟩
theorem Dp.rch(h:Dp t n f s){x:Nat}(O:gL t f x):∃m s',m<n/\Dp t m x s':=by
 induction O using gL_i with
 | one hc=>obtain⟨k,rfl,H⟩:=h.kids;have⟨y,I⟩:=H _ hc.2;exact⟨k,y,o_,I⟩
 | step _ hc ih=>obtain⟨m,s',U,J⟩:=ih;obtain⟨k,rfl,H⟩:=J.kids;have⟨y,I⟩:=H _ hc.2;exact⟨k,y,o_,I⟩
theorem Dp.acyc{t:Tr}(n:Nat):∀ {f:Nat} {s:Int},Dp t n f s->¬gL t f f:=by
 induction n using Nat.strongRecOn with
 | ind n ih=>intro f s h H;have⟨m,s',J,I⟩:=h.rch H;exact ih m J I H
theorem sT{p q:Nat->Bool}:∀ {l:List Nat},(∀x∈l,p x=true->q x=true)->(∃x∈l,q x=true/\p x=false)->l.countP p<l.countP q
 | [],_,⟨x,hx,_⟩=>by cases hx
 | a::r,h,⟨x,hx,h1,h2⟩=>by
  have hle:∀l:List Nat,(∀x∈l,p x=true->q x=true)->l.countP p<=l.countP q:=λl hl=>List.countP_mono_left hl;rw[List.countP_cons,List.countP_cons];rcases List.mem_cons.1 hx with rfl|hx
  have:=hle r (λy hy=>h y (by simp[hy]))
  rw[h1,h2];simp;omega
  have:=sT (l:=r) (λy hy=>h y (by simp[hy])) ⟨x,hx,h1,h2⟩
  have hh:=h a i_;cases hp:p a with
  | true=>rw[hh hp];simp;omega
  | false=>cases hq:q a <;> simp <;> omega
def JU(t:Tr)(f:Nat):Nat:=(List.range t.fc.length).countP (λx=>@decide (x=f\/gL t f x) (pdQ _))
theorem I4{c:Nat}(h:gu t f c)(H:¬gL t f f):JU t c<JU t f:=by unfold JU;refine sT (λx _ hx=>?_) ⟨f,List.mem_range.2 h.1,?_,?_⟩;rw[@decide_eq_true_iff _ (pdQ _)]at hx⊢;rcases hx with rfl|hx;exact .inr (.one h);exact .inr ((gL.one h).trans hx);exact @decide_eq_true _ (pdQ _) (.inl rfl);rw[@decide_eq_false_iff_not _ (pdQ _)];rintro(h1|h1);subst h1;exact H (.one h);exact H ((gL.one h).trans h1)
theorem CU(J:m<t.fc.length)(X:Kh t m):∀(k f:Nat),(f=m\/gL t m f)->JU t f<=k->∃s,Dp t k f s:=by
 intro k;induction k with
 | zero=>
  intro f H O;have Jb:f<t.fc.length:=by rcases H with rfl|h;exact J;exact h.lt
  have:0<JU t f:=by unfold JU;rw[List.countP_pos_iff];exact⟨f,List.mem_range.2 Jb,@decide_eq_true _ (pdQ _) (.inl rfl)⟩
  omega
 | succ k ih=>
  intro f H O;have Jb:f<t.fc.length:=by rcases H with rfl|h;exact J;exact h.lt
  have I:∀c,∃x,c∈ld t f->Dp t k c x:=by
   intro c;by_cases hc:c∈ld t f;have Jc:gu t f c:=⟨Jb,hc⟩;have Ja:c=m\/gL t m c:=by rcases H with rfl|h;exact .inr (.one Jc);exact .inr (.step h Jc)
   have⟨x,U⟩:=ih c Ja (by have:=I4 Jc (X f H);omega);exact⟨x,λ_=>U⟩
   exact⟨0,λh=>absurd h hc⟩
  exact⟨_,.mk k f (λc=>(I c).choose) Jb (λc hc=>(I c).choose_spec hc)⟩
theorem LM(t:Tr)(f:Nat):JU t f<=t.fc.length:=by unfold JU;have:=List.countP_le_length (p:=λx=>@decide (x=f\/gL t f x) (pdQ _)) (l:=List.range t.fc.length);simpa using this
end
section
variable{s:ByteArray}{gs:List Gl}{sc N:List ByteArray}{t:Tr}
theorem qo:∀(gs:List Gl) (seen:List ByteArray),seen.Nodup->jw seen gs=false->(seen++gs.map (·.nm)).Nodup
 | [],seen,hn,_=>by simpa using hn
 | g::r,seen,hn,h=>by
  unfold jw at h;by_cases hc:fT seen g.nm=true;rw[if_pos hc]at h;cases h;rw[if_neg hc]at h;have hni:g.nm∉seen:=λhm=>hc (uu hm);have:=qo r (seen++[g.nm]) (by rw[List.nodup_append];exact⟨hn,i_,λx hx y hy=>by simp at hy;subst hy;exact λe=>hni (e ▸ hx)⟩) h
  simpa using this
theorem wX(h:(aL t).1=0):(t.gl.map (·.nm)).Nodup:=by
 unfold aL at h;by_cases h1:co t=false;rw[if_pos h1]at h;simp at h;rw[if_neg h1]at h;by_cases h2:(dQ t).1≠0;rw[if_pos h2]at h;exact absurd h h2;have Ja:(dQ t).1=0:=by simpa using h2
 unfold dQ at Ja;by_cases h3:jw [] t.gl=true;rw[if_pos h3]at Ja;simp at Ja
 have:=qo t.gl [] i_ (by simpa using h3)
 simpa using this
end
def uy(E:dE)(s:ByteArray)(r:Int):List It:=match E.loc s with
 | some at_=>[aw 11 0 2 r at_]
 | none=>cK 31 (E.glob s)++[aw 11 0 31 r 0]
abbrev F1:=Int->List It×Int
def kq(E:dE)(en:Int)(s:St)(a b:F1):F1:=λl=>
 if s.kd=1\/s.kd=2 then((bG E s.e 0 l).1++uy E s.nm 5,(bG E s.e 0 l).2)
 else if s.kd=3 then((bG E s.e 0 l).1++(bG E s.f 1 (bG E s.e 0 l).2).1++[aw 18 5 5 0 2]++cK 31 (E.glob s.nm)++[aw 21 31 31 5 0,aw 11 0 31 6 0],(bG E s.f 1 (bG E s.e 0 l).2).2)
 else if s.kd=4 then
  if 0<s.el then((bG E s.e 0 (l+2)).1++[Af 4 5 l]++(a (bG E s.e 0 (l+2)).2).1++[aW 4 (l+1),aW 2 l]++(b (a (bG E s.e 0 (l+2)).2).2).1++[aW 2 (l+1)],(b (a (bG E s.e 0 (l+2)).2).2).2)
  else((bG E s.e 0 (l+1)).1++[Af 4 5 l]++(a (bG E s.e 0 (l+1)).2).1++[aW 2 l],(a (bG E s.e 0 (l+1)).2).2)
 else if s.kd=5 then([aW 2 l]++(bG E s.e 0 (l+2)).1++[Af 4 5 (l+1)]++(a (bG E s.e 0 (l+2)).2).1++[aW 4 l,aW 2 (l+1)],(a (bG E s.e 0 (l+2)).2).2)
 else if s.kd=6 then((bG E s.e 0 l).1++[aw 12 10 5 0 0,aW 4 en],(bG E s.e 0 l).2)
 else if s.kd=7 then((bG E s.e 0 l).1++[aw 12 10 5 0 0,aw 12 17 0 0 1,aw 34 0 0 0 0],(bG E s.e 0 l).2)
 else bG E s.e 0 l
def iI(E:dE)(en:Int):Nat->List St->F1
 | _,[]=>λl=>([],l)
 | 0,_::_=>λl=>([],l)
 | n+1,s::r=>λl=>
  ((kq E en s (iI E en n (r.take s.th.toNat)) (iI E en n ((r.drop s.th.toNat).take s.el.toNat)) l).1++(iI E en n (r.drop (s.th.toNat+s.el.toNat)) (kq E en s (iI E en n (r.take s.th.toNat)) (iI E en n ((r.drop s.th.toNat).take s.el.toNat)) l).2).1,
   (iI E en n (r.drop (s.th.toNat+s.el.toNat)) (kq E en s (iI E en n (r.take s.th.toNat)) (iI E en n ((r.drop s.th.toNat).take s.el.toNat)) l).2).2)
def bh(E:dE)(en:Int)(ss:List St):F1:=iI E en ss.length ss
theorem ny(E:dE)(en:Int):∀(n m:Nat) (ss:List St),ss.length<=n->ss.length<=m->iI E en n ss=iI E en m ss:=by
 intro n;induction n with
 | zero=>intro m ss H h;have:ss=[]:=List.eq_nil_of_length_eq_zero o_;subst this;cases m <;> rfl
 | succ n ih=>
  intro m ss H h;cases ss with
  | nil=>cases m <;> rfl
  | cons s r=>
   cases m with
   | zero=>simp at h
   | succ m=>simp only[l_c]at H h;simp only[iI];rw[ih m (r.take s.th.toNat) (by simp;omega) (by simp;omega),ih m ((r.drop s.th.toNat).take s.el.toNat) (by simp;omega) (by simp;omega),ih m (r.drop (s.th.toNat+s.el.toNat)) (by simp;omega) (by simp;omega)]
theorem jq(E:dE)(en l:Int):bh E en [] l=([],l):=rfl
theorem codeB_cons(E:dE)(en:Int)(s:St)(r:List St)(l:Int):bh E en (s::r) l =
  ((kq E en s (bh E en (r.take s.th.toNat)) (bh E en ((r.drop s.th.toNat).take s.el.toNat)) l).1++(bh E en (r.drop (s.th.toNat+s.el.toNat)) (kq E en s (bh E en (r.take s.th.toNat)) (bh E en ((r.drop s.th.toNat).take s.el.toNat)) l).2).1,
   (bh E en (r.drop (s.th.toNat+s.el.toNat)) (kq E en s (bh E en (r.take s.th.toNat)) (bh E en ((r.drop s.th.toNat).take s.el.toNat)) l).2).2):=by
 have h:bh E en (s::r)=iI E en (r.length+1) (s::r):=rfl;rw[h];simp only[iI];rw[ny E en r.length _ (r.take s.th.toNat) (by simp;omega) n_,ny E en r.length _ ((r.drop s.th.toNat).take s.el.toNat) (by simp;omega) n_,ny E en r.length _ (r.drop (s.th.toNat+s.el.toNat)) i_ n_];rfl
def LN(ns:List ByteArray)(s:ByteArray):Option Int:=(ns.findIdx? (λx=>decide (x=s))).map (λi:Nat=>4*(i:Int))
def globA(gs:List Gl)(s:ByteArray):Int->Int
 | at_=>match gs with
  | []=>at_
  | g::r=>if g.nm=s then at_ else globA r s (at_+4*max 1 g.size)
def lh(fs:List Fu)(s:ByteArray):Int:=match bU fs s with|some i=>(i:Int)|none=> -1
def qp(t:Tr)(f:Fu):dE:=⟨(f.pm++declN f.bd).length,LN (f.pm++declN f.bd),λs=>globA t.gl s 1048576,lh t.fc⟩
def oD:Nat->List It
 | 0=>[]
 | j+1=>oD j++[aw 11 0 2 (10+j) (4*j)]
def codeF(t:Tr)(i:Nat)(f:Fu):F1:=λl=>([aW 2 i,aw 12 2 2 0 (-aH f),aw 11 0 2 1 (aH f-4)]++oD f.pm.length++(bh (qp t f) l f.bd (l+1)).1++[aw 12 10 0 0 0,aW 2 l,aw 10 1 2 0 (aH f-4),aw 12 2 2 0 (aH f),aw 3 0 1 0 0],(bh (qp t f) l f.bd (l+1)).2)
def cH(t:Tr):Nat->F1
 | 0=>λl=>([aW 5 (lh t.fc mainS),aw 12 17 0 0 10,aw 34 0 0 0 0],l)
 | i+1=>λl=>((cH t i l).1++(codeF t i (t.fc.getD i ⟨⟨#[]⟩,[],[]⟩) (cH t i l).2).1,(codeF t i (t.fc.getD i ⟨⟨#[]⟩,[],[]⟩) (cH t i l).2).2)
def SB(k:Nat)(g:F1):Prop:=∀l,(g l).1.length<=24*k/\l<=(g l).2/\(g l).2<=l+2*k
theorem wY(E:dE)(s:ByteArray)(r:Int):(uy E s r).length<=3:=by
 unfold uy;split
 simp
 have:=gQ 31 (E.glob s);simp;omega
def dX(ss:List St):Nat:=ss.length+aU ss
theorem kr(a b:List St):dX (a++b)=dX a+dX b:=by simp[dX,gT];omega
theorem sU(s:St)(r:List St):dX (s::r)=s.e.length+s.f.length+1+dX r:=by simp[dX,aU];omega
theorem zI(r:List St)(i j:Nat):dX r=dX (r.take i)+dX ((r.drop i).take j)+dX (r.drop (i+j)):=by
 have H:r=r.take i++((r.drop i).take j++r.drop (i+j)):=by rw[<-List.drop_drop,List.take_append_drop,List.take_append_drop]
 have h:=congrArg dX H;rw[kr,kr]at h;omega
theorem F3(E:dE)(en:Int)(s:St)(a b:F1)(Z kb:Nat)(h:CB s.e.length (bG E s.e))(hf:s.kd=3->CB s.f.length (bG E s.f))(Y:SB Z a)(hb:SB kb b):SB (s.e.length+s.f.length+1+Z+kb) (kq E en s a b):=by
 intro l;unfold kq;by_cases h1:s.kd=1\/s.kd=2;rw[if_pos h1];have⟨I,H,J⟩:=h 0 l;have:=wY E s.nm 5;simp only[l_a];refine⟨?_,?_,?_⟩ <;> omega
 rw[if_neg h1];by_cases h3:s.kd=3;rw[if_pos h3];have⟨I,H,J⟩:=h 0 l;have⟨O,U,X⟩:=hf h3 1 (bG E s.e 0 l).2;have:=gQ 31 (E.glob s.nm);simp only[l_a,l_c,l_n];refine⟨?_,?_,?_⟩ <;> omega
 rw[if_neg h3];by_cases h4:s.kd=4;rw[if_pos h4];by_cases hl:0<s.el;rw[if_pos hl];have⟨I,H,J⟩:=h 0 (l+2);have⟨O,U,X⟩:=Y (bG E s.e 0 (l+2)).2;have⟨m1,m2,m3⟩:=hb (a (bG E s.e 0 (l+2)).2).2;simp only[l_a,l_c,l_n];refine⟨?_,?_,?_⟩ <;> omega
 rw[if_neg hl];have⟨I,H,J⟩:=h 0 (l+1);have⟨O,U,X⟩:=Y (bG E s.e 0 (l+1)).2;simp only[l_a,l_c,l_n];refine⟨?_,?_,?_⟩ <;> omega
 rw[if_neg h4];by_cases h5:s.kd=5;rw[if_pos h5];have⟨I,H,J⟩:=h 0 (l+2);have⟨O,U,X⟩:=Y (bG E s.e 0 (l+2)).2;simp only[l_a,l_c,l_n];refine⟨?_,?_,?_⟩ <;> omega
 rw[if_neg h5];have⟨I,H,J⟩:=h 0 l;by_cases h6:s.kd=6;rw[if_pos h6];simp only[l_a,l_c,l_n];refine⟨?_,?_,?_⟩ <;> omega
 rw[if_neg h6];by_cases h7:s.kd=7;rw[if_pos h7];simp only[l_a,l_c,l_n];refine⟨?_,?_,?_⟩ <;> omega
 rw[if_neg h7];refine⟨?_,?_,?_⟩ <;> omega
theorem w_(E:dE)(en:Int)(N:Nat):∀ss:List St,ss.length<=N->(∀s∈ss,CB s.e.length (bG E s.e)/\(s.kd=3->CB s.f.length (bG E s.f)))->SB (dX ss) (bh E en ss):=by
 induction N with
 | zero=>intro ss H h l;have:ss=[]:=List.eq_nil_of_length_eq_zero o_;subst this;rw[jq];simp[dX,aU]
 | succ N ih=>
  intro ss H h l;cases ss with
  | nil=>rw[jq];simp[dX,aU]
  | cons s r=>simp only[l_c]at H;rw[codeB_cons];have J:=ih (r.take s.th.toNat) (by simp;omega) (λx hx=>h x (by simp[List.mem_of_mem_take hx]));have h2:=ih ((r.drop s.th.toNat).take s.el.toNat) (by simp;omega) (λx hx=>h x (by simp[List.mem_of_mem_drop (List.mem_of_mem_take hx)]));have h3:=ih (r.drop (s.th.toNat+s.el.toNat)) (by simp;omega) (λx hx=>h x (by simp[List.mem_of_mem_drop hx]));have I:=F3 E en s _ _ _ _ (h s i_).1 (h s i_).2 J h2 l;have h4:=h3 (kq E en s (bh E en (r.take s.th.toNat)) (bh E en ((r.drop s.th.toNat).take s.el.toNat)) l).2;have O:=zI r s.th.toNat s.el.toNat;rw[sU];simp only[l_a];obtain⟨Z,a2,a3⟩:=I;obtain⟨U,X,Y⟩:=h4;refine⟨?_,?_,?_⟩ <;> omega
theorem F4(E:dE)(N:Nat):∀e:List Nd,e.length<=N->oneB e=true->∃g,EA (lM E) e g/\CB e.length g:=by
 induction N with
 | zero=>intro e O h;have:=lL h;omega
 | succ N ih=>
  intro e O h;have⟨A,b,H,J⟩:=uN h;have I:∀i,∃g,i<A->EA (lM E) (mE e b i) g/\CB (mE e b i).length g:=by
   intro i;by_cases hi:i<A
   have⟨g,U⟩:=ih (mE e b i) (by have:=H.kid_lt i hi;omega) (J i hi);exact⟨g,λ_=>U⟩
   exact⟨λ_ l=>([],l),λh=>absurd h hi⟩
  refine⟨_,EA.cut (tE E) H (G:=λi=>(I i).choose) (λi hi=>((I i).choose_spec hi).1),?_⟩;rw[<-G5 H];exact xZ E H.root_good H.ar (F:=mE e b) (λi hi=>((I i).choose_spec hi).2)
theorem oU(E:dE){e:List Nd}(h:oneB e=true):CB e.length (bG E e):=by have⟨g,H,h2⟩:=F4 E e.length e n_ h;unfold bG;rw[H.eq];exact h2
theorem uz(E:dE)(en:Int)(N:Nat):∀(a b:List St) (l:Int),a.length<=N->cD a=true->bh E en (a++b) l=((bh E en a l).1++(bh E en b (bh E en a l).2).1,(bh E en b (bh E en a l).2).2):=by
 induction N with
 | zero=>intro a b l H h;have:a=[]:=List.eq_nil_of_length_eq_zero o_;subst this;simp[jq]
 | succ N ih=>
  intro a b l H h;cases a with
  | nil=>simp[jq]
  | cons s r=>rw[fitB_cons]at h;simp only[Bool.and_eq_true,decide_eq_true_eq]at h;obtain⟨⟨Y,Z,U,X⟩,f1,f2,f3⟩:=h;simp only[l_c]at H;have⟨I,O,J,e4⟩:=sD (r:=r) (b:=b) (i:=s.th.toNat) (j:=s.el.toNat) o_;rw[List.cons_append,codeB_cons,I,O,J,ih _ _ _ (by simp;omega) f3,codeB_cons];simp only[List.append_assoc]
theorem CV(E:dE)(en:Int)(s:St)(l:Int):bh E en [s] l=kq E en s (bh E en []) (bh E en []) l:=by rw[codeB_cons];simp[jq]
section
open Go.RowKit
def gK:List Int:=[5,6,7,28,29]
def qq:List Int:=[31,32,33,21,22,23,28,0,0,0,0,0,0,30,26,29]
structure jr (w:World):Prop where
 reg:∀j,j<5->w.cell? ⟨3,j,none⟩=some (V (gK.getD j 0))
 bin:∀j,j<16->w.cell? ⟨7,j,none⟩=some (V (qq.getD j 0))
structure eh (D:DataW Unit) (gs:List Gl):Prop where
 map:Maps.IsMap D
 val:∀s,s∈gs.map (·.nm)->D.atKey (kS s) (.lit (.int .i64 0))=.lit (.int .i64 (globA gs s 1048576))
def rp(vo:Value)(pl sz:Int)(vm va:Value)(l en:Int):Nat->Value:=λj=>if j=0 then vo else if j=1 then V pl else if j=2 then V sz else if j=3 then vm else if j=4 then va else if j=6 then V l else V en
structure IC where
 w0:World
 P:Nat
 S:Nat->Prop
 bo:Nat
 bm:Nat
 ba:Nat
 sz:Int
 en:Int
 t:Tr
 ns:List ByteArray
structure IC.Ok (C:IC):Prop where
 so:C.S C.bo
 sm:C.S C.bm
 sa:C.S C.ba
 sr:C.S 3
 sb:C.S 7
 tab:jr C.w0
 mo:∃nn D,C.w0.ownsMap prog 9 (plainElem (H:=Unit) prog 2) C.bo nn D/\bJ D C.ns
 mm:∃nn D,C.w0.ownsMap prog 9 (plainElem (H:=Unit) prog 2) C.bm nn D/\cY D C.t.fc
 ma:∃nn D,C.w0.ownsMap prog 9 (plainElem (H:=Unit) prog 2) C.ba nn D/\eh D C.t.gl
 gl:C.t.gl.length<=50
 gz:∀g∈C.t.gl,0<=g.size/\g.size<=4000
 nl:C.ns.length<=1000
def IC.E(C:IC):dE:=⟨C.ns.length,LN C.ns,λs=>globA C.t.gl s 1048576,lh C.t.fc⟩
structure Gi (C:IC) (w:World) (its:List It) (l:Int):Prop where
 es:Em 214 5 8 C.P w its (rp (.map (some C.bo)) (4*(C.ns.length:Int)) C.sz (.map (some C.bm)) (.map (some C.ba)) l C.en)
 kp:∀B,C.S B->w.heap[B]? =C.w0.heap[B]?
 ap:∀B,C.S B->B<w.heap.size/\B≠C.P/\some B≠ow 5 w C.P
theorem Gi.wq{C:IC}{w w':World}{its Ja:List It}{l J:Int}(h:Gi C w its l)(O:Em 214 5 8 C.P w' Ja (rp (.map (some C.bo)) (4*(C.ns.length:Int)) C.sz (.map (some C.bm)) (.map (some C.ba)) J C.en))(I:Wq 5 C.P w w'):Gi C w' Ja J:=by
 refine⟨O,λB hB=>?_,λB hB=>?_⟩
 have⟨H,h2,h3⟩:=h.ap B hB;rw[I.block B H h2 h3];exact h.kp B hB
 have⟨H,h2,h3⟩:=h.ap B hB;refine⟨l_ H I.size,h2,λe=>?_⟩;rcases I.row B e.symm with h|h
 exact h3 h.symm;omega
theorem Gi.below{C:IC}{w w':World}{its:List It}{l:Int}(h:Gi C w its l)(hb:Below w.heap.size w w'):Gi C w' its l:=h.wq (h.es.below hb) (Wq.below h.es.lt hb)
theorem Gi.cell{C:IC}{w:World}{its:List It}{l:Int}(h:Gi C w its l){B o:Nat}{v:Value}(hB:C.S B)(hc:C.w0.cell? ⟨B,o,none⟩=some v):w.cell? ⟨B,o,none⟩=some v:=(c_ (a:=⟨B,o,none⟩) (h.kp B hB)).trans hc
structure Wi (C:IC) (w:World) (its new:List It) (l':Int) (w':World):Prop where
 gs:Gi C w' (its++new) l'
 wq:Wq 5 C.P w w'
theorem Wi.trans{C:IC}{w w1 w2:World}{its a b:List It}{l l':Int}(h:Wi C w its a l w1)(h':Wi C w1 (its++a) b l' w2):Wi C w its (a++b) l' w2:=⟨by rw[<-List.append_assoc];exact h'.gs,h.wq.trans h'.wq⟩
theorem Wi.pre{C:IC}{w w1 w2:World}{its a:List It}{l:Int}(h:Wi C w1 its a l w2)(hb:Wq 5 C.P w w1):Wi C w its a l w2:=⟨h.gs,hb.trans h.wq⟩
theorem Wi.preB{C:IC}{w w1 w2:World}{its its0 a:List It}{l l0:Int}(hG:Gi C w its0 l0)(hb:Below w.heap.size w w1)(h:Wi C w1 its a l w2):Wi C w its a l w2:=h.pre (Wq.below hG.es.lt hb)
theorem Wi.nil{C:IC}{w:World}{its:List It}{l:Int}(h:Gi C w its l):Wi C w its [] l w:=⟨by rw[List.append_nil];exact h,Wq.refl _ _ _⟩
theorem Wi.of{C:IC}{w w':World}{its new:List It}{l l':Int}(h:Gi C w its l)(he:Em 214 5 8 C.P w' (its++new) (rp (.map (some C.bo)) (4*(C.ns.length:Int)) C.sz (.map (some C.bm)) (.map (some C.ba)) l' C.en))(hW:Wq 5 C.P w w'):Wi C w its new l' w':=⟨h.wq he hW,hW⟩
theorem Gi.reg{C:IC}(hC:C.Ok){w:World}{its:List It}{l:Int}(h:Gi C w its l)(j:Nat)(hj:j<5):w.cell? ⟨3,j,none⟩=some (V (gK.getD j 0)):=h.cell hC.sr (hC.tab.reg j hj)
theorem Gi.bin{C:IC}(hC:C.Ok){w:World}{its:List It}{l:Int}(h:Gi C w its l)(j:Nat)(hj:j<16):w.cell? ⟨7,j,none⟩=some (V (qq.getD j 0)):=h.cell hC.sb (hC.tab.bin j hj)
end
section
open Go.RowKit
variable{l r:List Gl}{s:ByteArray}{a:Int}
def totB:List Gl->Int
 | []=>0
 | g::r=>4*max 1 g.size+totB r
theorem xc(a b:List Gl):totB (a++b)=totB a+totB b:=by
 induction a with
 | nil=>simp[totB]
 | cons g r ih=>simp only[List.cons_append,totB,ih];omega
theorem I5(h:∀g∈l,0<=g.size/\g.size<=4000):0<=totB l/\totB l<=16000*l.length:=by
 induction l with
 | nil=>simp[totB]
 | cons g r ih=>have H:=h g i_;have h2:=ih (λx hx=>h x (by simp[hx]));simp only[totB,l_c];omega
theorem CW{l r:List Gl}{s:ByteArray}:∀ {a:Int},s∈l.map (·.nm)->globA (l++r) s a=globA l s a:=by
 induction l with
 | nil=>intro a h;simp at h
 | cons g l ih=>intro a h;by_cases e:g.nm=s;simp[globA,e];simp only[List.cons_append,globA,if_neg e];refine ih ?_;simp only[List.map_cons,List.mem_cons]at h;rcases h with h|h;exact absurd h.symm e;exact h
theorem CX{l r:List Gl}{s:ByteArray}:∀ {a:Int},s∉l.map (·.nm)->globA (l++r) s a=globA r s (a+totB l):=by
 induction l with
 | nil=>intro a h;simp[totB]
 | cons g l ih=>intro a h;simp only[List.map_cons,List.mem_cons,not_or]at h;simp only[List.cons_append,globA,if_neg (Ne.symm h.1),totB];rw[ih h.2];congr 1;omega
theorem eh.nil:eh (.map []) []:=⟨Maps.isMap_empty,λs h=>by simp at h⟩
theorem eh.put{D:DataW Unit}{l:List Gl}{g:Gl}(h:eh D l)(I:g.nm∉l.map (·.nm)):eh (D.put (kS g.nm) (.lit (.int .i64 (1048576+totB l)))) (l++[g]):=by
 refine⟨h.map.put _ _,λs hs=>?_⟩;by_cases e:g.nm=s;subst e;rw[Maps.atKey_put_same (k:=kS g.nm) h.map trivial,CX I];simp[globA];rw[Maps.atKey_put_other (pp (Ne.symm e))];have H:s∈l.map (·.nm):=by simp only[List.map_append,List.mem_append,List.map_cons,List.map_nil,List.mem_cons,List.not_mem_nil,or_false]at hs;rcases hs with hs|hs;exact hs;exact absurd hs.symm e
 rw[CW H];exact h.val s H
theorem rq(I:List Gl)(vg:Value)(w:World)(X:dz w vg I)(hl:I.length<=50)(hz:∀g∈I,0<=g.size/\g.size<=4000)(Jq:(I.map (·.nm)).Nodup)(Jp:∀g∈I,g.nm.size<=maxLen):
  Calls prog 48 #[vg] w λe w'=>∃(b:Nat) (z:Int),e=rW (.tuple #[.map (some b),V z])/\Below w.heap.size w w'/\w.heap.size<=b/\∃nn D,w'.ownsMap prog 9 (plainElem (H:=Unit) prog 2) b nn D/\eh D I:=by
 obtain⟨a,c,rfl,Xb,Jz,hc⟩:=X;have⟨HC,HZ,Jv,Ju,Jm⟩:=h5 hc hz Jq Jp (World.ownsMap_made w prog 9 (plainElem (H:=Unit) prog 2));have Jh:Hid (Bl w (w.alloc (.map #[] 0))):=aq _ _;have Js:= @run_makeMap prog;clear hc hz Jq Jp;go_in;go_wp2_with fail;clear Js;go_loopw[3,9] (λp i wr=>∃(k:Nat) (D:DataW Unit),k<=I.length/\i=.int .i64 k/\p=.int .i64 (totB (I.take k))/\wr.ownsMap prog 9 (plainElem (H:=Unit) prog 2) w.heap.size k D/\eh D (I.take k)/\Bl w wr) (λ_ i _=>I.length-(RowKit.intOf i).toNat)
 case atStart=>exact⟨0,_,y_,rfl,rfl,Jm,eh.nil,Jh⟩
 case round=>
  clear Jm Jh;obtain⟨k,D,hk,rfl,rfl,O,U,Y⟩:=hrel;by_cases hlt:k<I.length
  ·obtain⟨b',Jx,rfl,Ji⟩:=HC.out o_;have⟨d0,d1⟩:=Ji.below Y k hlt;have Jd:I[k]∈I:=g_ hlt;have Jy:=HZ.out _ Jd;have Jr:=Ju.out _ Jd;have Je:I.take (k+1)=I.take k++[I[k]]:=List.take_succ_eq_append_getElem hlt;have Jn:I[k].nm∉(I.take k).map (·.nm):=by intro hm;have⟨g,X,he⟩:=List.mem_map.1 hm;obtain⟨j,hj,rfl⟩:=List.getElem_of_mem X;rw[List.getElem_take]at he;simp at hj;have h1:=List.pairwise_iff_getElem.1 Jv.out j k (by simp;omega) (by simpa using hlt) o_;simp only[List.getElem_map]at h1;exact h1 he
   have Xa:=I5 (l:=I.take k) (λg X=>HZ.out g (List.mem_of_mem_take X));have J_:(I.take k).length=k:=(by simp;omega);have Z:totB (I.take (k+1))=totB (I.take k)+4*max 1 I[k].size:=(by rw[Je,xc];simp[totB]);have Jk:Hid (eh (D.put (kS I[k].nm) (.lit (.int .i64 (1048576+totB (I.take k))))) (I.take (k+1))):=by show eh _ _;rw[Je];exact U.put Jn
   have Jo:=O.alloc (.cells #[sV I[k].nm,V I[k].size] 140);have⟨w5,Jt,Jb,Ja⟩:=Jo.update (Maps.string_keyed underlying9) underlying131 (by unfold maxLen;omega) (WideMaps.keyOf_string_mk underlying9 Jr) (plainElem_int (H:=Unit) underlying2 (a:=1048576+totB (I.take k)) (WalkArith.wf_i64 o_));have Jw:=O.lt;have Jf:Bl w (wr.alloc (.cells #[sV I[k].nm,V I[k].size] 140)):=Y.alloc Y.size _;have Jl:Bl w w5:=Jf.grown Ja Jf.size (λj hj=>by cases hj;exact n_);have x1:w5.cell? ⟨wr.heap.size,1,none⟩=some (V I[k].size):=Ja.cell i_ (by simp;omega);have J:Hid (w5.ownsMap prog 9 (plainElem (H:=Unit) prog 2) w.heap.size (k+1) _/\eh _ (I.take (k+1))):=⟨Jb,Jk⟩;clear Jb Ja Jo O U Ji Jn Jk Jf Jd Je;generalize I[k].nm=nm at*;generalize I[k].size=sz at*;generalize totB (I.take k)=tb at*;have⟨Jj,Jc⟩:=q_ (totB (I.take (k+1)));rw[<-Jc]at Z;have Jg:=ah Jc;clear Jc;have k1:IntKind.i64.wrap (1048576+tb)=1048576+tb:=(by simp[IntKind.wrap,IntKind.bits,IntKind.signed];omega);by_cases h1:sz<1
   ·have k2:IntKind.i64.wrap (tb+4)=Jj:=(by simp[IntKind.wrap,IntKind.bits,IntKind.signed];omega);clear Z;go_wp2;go_roundw
    case rel=>exact⟨k+1,_,o_,by go_num,by rw[Jg.out],J.out.1,J.out.2,Jl⟩
    case measure=>simp[RowKit.intOf];omega
   have k2:IntKind.i64.wrap (4*sz)=4*sz:=(by simp[IntKind.wrap,IntKind.bits,IntKind.signed];omega);have k3:IntKind.i64.wrap (tb+4*sz)=Jj:=(by simp[IntKind.wrap,IntKind.bits,IntKind.signed];omega);clear Z;go_wp2;go_roundw
   case rel=>exact⟨k+1,_,o_,by go_num,by rw[Jg.out],J.out.1,J.out.2,Jl⟩
   case measure=>simp[RowKit.intOf];omega
  obtain rfl:k=I.length:=(by omega);have J:Hid (wr.ownsMap prog 9 (plainElem (H:=Unit) prog 2) w.heap.size I.length D/\eh D I):=by rw[List.take_length]at U;exact⟨O,U⟩
  clear O U;generalize totB (I.take I.length)=tb;go_wp2_with fail;exact bodyPost_ret (v:=.tuple #[.map (some w.heap.size),V tb]) (by simp[results,results48,go_sem]) rfl ⟨_,_,rfl,Y,n_,_,D,J.out.1,J.out.2⟩
end
end Go.Proofs.YtngnoopnloojjaaGreatDoor
