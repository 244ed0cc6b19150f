import Derived.Test.YtffnkkpmlplfeaaGreatDoorF37
import Derived.Test.YtffnkkpmlplfeaaGreatDoorF33
namespace Go.Proofs.YtffnkkpmlplfeaaGreatDoor
open Go.Value Go.World List
open Go.Proofs.Tryz Go.RowKit
set_option linter.all false
set_option maxRecDepth 100000
set_option maxHeartbeats 0
variable[Inhabited Pick]
section
variable{w:AT}{v:BY}
def Ints.set{l:List Int}{g:Nat}(h:Ints w v l)(Y:v.ownBlock≠some g)(o:Nat)(u:BY):Ints (w.setCell ⟨g,o,none⟩ u) v l:=by
 obtain⟨a,I,rfl,h3⟩:=h;refine⟨a,I,rfl,λh0=>?_⟩;obtain⟨b,rfl,U⟩:=h3 h0;have J:b≠g:=λe=>Y (by simp[ownBlock,e]);refine⟨b,rfl,λj hj=>?_⟩;rw[s_ _ _ _ _ (by intro h;simp only[Addr.mk.injEq]at h;exact J h.1.symm)];exact U j hj
def jP(fs:List Fu)(j:Nat):List Int:=(callsL fs (fs.getD j ⟨⟨#[]⟩,[],[]⟩).body).map (λg:Nat=>(g:Int))
def qX(w:AT)(v:BY)(fs:List Fu):Prop:=∃G cap,v=rV G fs.length cap/\∀j,j<fs.length->∃vj,w.cell? ⟨G,j,none⟩=some vj/\Ints w vj (jP fs j)
def qX.below{w':AT}{J:List Fu}(h:qX w v J)(U:Bl w w'):qX w' v J:=by
 obtain⟨G,Y,rfl,h⟩:=h;refine⟨G,Y,rfl,λj hj=>?_⟩;obtain⟨Z,I,h2⟩:=h j hj;exact⟨Z,(U.cell (p:=⟨G,j,none⟩) (b_ I)).trans I,h2.below U⟩
def Bx:(prog.info? 26).map (λi=>(i.zero,i.size,i.bytes))=some (some nV,1,24):=by kernel_rfl
theorem wF(I:List Fu)(vg vf:Value)(w:World)(hl:I.length<=1000)(hg:∃a n c,vg=.slice a n c)(hw:uR I)(Xe:∀f∈I,eX f)(hf:bC w vf I):
  Calls prog 86 #[.agg #[vg,vf]] w λe w'=>∃v,e=rW v/\qX w' v I/\Below w.heap.size w w':=by
 obtain⟨ag,ng,cg,rfl⟩:=hg;have HF:=ah hf;obtain⟨af,cf,rfl,-,-,Jg⟩:=hf;obtain⟨Xx,HW,Xq⟩:=h3 Jg hw Xe;obtain⟨i0,hi,Xi,Xt,Xn⟩:=info_parts Bx;clear Jg hw Xe;go_in;go_wp2_with fail;have hA:Bl w (w.alloc (.cells #[.slice ag ng cg,.slice af I.length cf] 34)):=au _ _;refine(j6 I _ _ _ o_ HW (HF.out.below hA)).mono ?_;rintro e w1 ⟨bn,D,rfl,Xw,Jk,hN,Z⟩;simp only[Bl,World.size_alloc]at Z Xw;obtain⟨x0,x1⟩:=iy Z;obtain⟨Xd,HN⟩:=h2 Jk hN;have Xy:Bl w w1:=ay Z;have Ji:=Z.size;simp only[Bl,World.size_alloc]at Ji;clear Jk hN;go_wp2_with(at_make;refine wpList_make_full _ rfl _ _ 141 rfl w1.heap.size 26 i0 nV 1 underlying141 hi Xi Xt _ _ _ _ I.length rfl rfl o_ o_ ?_ ?_ n_ ?_)
 ·rw[Xn];omega
 ·unfold maxLen;omega
 intro w2 Jc Jb;have Jo:Bl w1 w2:=r_.grown Jb n_ i_;have Jd:Below (w.heap.size+1) (w.alloc (.cells #[.slice ag ng cg,.slice af I.length cf] 34)) w2:=Z.trans (Jo.mono Ji);have Xc:=ah (dJ Xd Jo);have Jj:∃xs,w2.ownsRow w1.heap.size 26 1 (rV w1.heap.size I.length I.length) I.length xs:=⟨_,Jc⟩;obtain⟨Xj,Jj⟩:=Jj;have Jn:=ah Jj;have hG:w1.heap.size<w2.heap.size:=(World.ownsRow.lt Jj w1.heap.size rfl).2;obtain⟨G,Xb⟩:=q_ w1.heap.size;rw[<-Xb]at Jn hG⊢;have Xs:w.heap.size+1<=G:=o_;have Jm:bn<G:=by have:=Xd.out.lt;omega
 clear Jc Jb Jj x0 x1;obtain⟨x0,x1⟩:=iy Jd;clear Z Jo Xb;go_wp2;go_loopw[16] (λi wr=>∃(k:Nat) (xs:List Value),k<=I.length/\i=V k/\wr.ownsRow G 26 1 (rV G I.length I.length) I.length xs/\(∀j,j<k->∃J,xs[j]? =some J/\Ints wr J (jP I j)/\J.ownBlock≠some G)/\wr.ownsMap prog 9 (plainElem (H:=Unit) prog 2) bn I.length D/\bn<G/\G<wr.heap.size/\Below (w.heap.size+1) (w.alloc (.cells #[.slice ag ng cg,.slice af I.length cf] 34)) wr) (λi _=>I.length-(RowKit.intOf i).toNat)
 case atStart=>exact⟨0,Xj,y_,rfl,Jn,λj hj=>absurd hj o_,Xc,Jm,hG,Jd⟩
 case round=>
  clear Xc Jn hG Jd x0 x1;obtain⟨k,xs,hk,rfl,hR,hX,hM,Xu,hG,hB⟩:=hrel;obtain⟨HR,HX,HM⟩:=h3 hR hX hM;have Jy:=ay hB;clear hR hX hM;by_cases hlt:k<I.length
  ·obtain⟨bf,of,rfl,Jg⟩:=Xx o_;obtain⟨vp,vb,⟨d0,d1,d2⟩,Jz,Jr⟩:=(Jg.below Jy) k hlt;have Xz:bf<wr.heap.size:=b_ d0;obtain⟨Jx,Jq⟩:=h2 Jz Jr;have J_:Hid (eX I[k]):=Xq _ (g_ hlt);have Jt:Hid (CH I[k]):=HW.out.2 _ (g_ hlt);have Jv:Hid (jP I k=(callsL I I[k].body).map (λg:Nat=>(g:Int))):=by show _=_;unfold jP;simp[List.getD,hlt]
   obtain⟨ap,cp,rfl,-⟩:=Jz;obtain⟨ab,cb,rfl,-⟩:=Jr;clear Jg;generalize I[k]=f at d0 d1 d2 Jx Jq J_ Jt Jv;have Y:Bl wr (wr.alloc (.cells #[sV f.name,.slice ap f.params.length cp,.slice ab f.body.length cb] 97)):=au _ _;go_wp2_with fail;refine(qW I f _ _ bn I.length D _ o_ J_ Jt (Jx.out.below Y) (Jq.out.below Y) (dJ HM Y) HN).mono ?_;rintro e w3 ⟨U,rfl,Jl,Xa⟩;have Ja:Bl wr w3:=Y.trans (Xa.mono Y.size);have Xp:Hid (Ints w3 U (jP I k)):=by
    show Ints _ _ _;rw[Jv.out];exact bR.ints (B:=_) Jl
   have Js:Hid (U.ownBlock≠some G):=λh=>by
    have:=(World.ownsRow.lt Jl G h).1
    simp at this;omega
   obtain⟨Jp,Xv⟩:=h2 (ownB HR Ja) (dJ HM Ja);have Xl:Hid (∀j,j<k->∃J,xs[j]? =some J/\Ints w3 J (jP I j)/\J.ownBlock≠some G):=λj hj=>by
    obtain⟨J,h1,h2,h3⟩:=HX j hj;exact⟨J,h1,h2.below Ja,h3⟩
   have Jw:=hB.size;simp only[Bl,World.size_alloc]at Jw;have Xh:Below (w.heap.size+1) (w.alloc (.cells #[.slice ag ng cg,.slice (some ⟨bf,of,none⟩) I.length cf] 34)) w3:=hB.trans (Ja.mono Jw);have Xk:G<w3.heap.size:=l_ hG Ja.size;have Ju:xs.length=I.length:=by have:=HR.out.1;omega
   have g0:w3.cell? ⟨G,k,none⟩=some (xs[k]'(by omega)):=by
    have:=World.ownsRow.cellAt Jp.out k o_
    rw[this];simp[Ju,hlt]
   have gf:=World.ownsRow.frozenAt Jp k;obtain⟨y,hy⟩:=q_ (xs[k]'(by omega));rw[<-hy]at g0;obtain⟨a3,c3,Xo⟩:=bR.shape (B:=_) Jl;clear Jl Xa Ja d0 d1 d2 hy HR HX HM Y;have Xg:=ah ((World.ownsRow.stored Jp k U).1);have Xr:Hid (∀j,j<k+1->∃J,(xs.set k U)[j]? =some J/\Ints (w3.setCell ⟨G,k,none⟩ U) J (jP I j)/\J.ownBlock≠some G):=λj hj=>by
    by_cases e:j=k
    ·subst e;exact⟨U,by simp[Ju,hlt],Xp.out.set Js _ _,Js⟩
    ·obtain⟨J,h1,h2,h3⟩:=Xl j o_;exact⟨J,by rw[List.getElem?_set_ne (λh=>e h.symm)];exact h1,h2.set h3 _ _,h3⟩
   have Xm:Hid ((w3.setCell ⟨G,k,none⟩ U).ownsMap prog 9 (plainElem (H:=Unit) prog 2) bn I.length D):=by
    obtain⟨es,Jh,h0,F,hs,hD⟩:=Xv;exact⟨es,Jh,(Below.heap_setCell _ _ _ bn (λh=>by simp at h;omega)).trans h0,F,hs,hD⟩
   subst Xo;go_wp2;go_roundw
   case rel=>exact⟨k+1,_,o_,by go_num,Xg,Xr,Xm,Xu,by simpa using Xk,Xh.setCell (p:=⟨G,k,none⟩) Xs _⟩
   case measure=>simp[RowKit.intOf];omega
  ·have Xf:k=I.length:=o_
   subst Xf;clear hB;go_wp2;go_ret;refine⟨_,rfl,⟨G,I.length,rfl,λj hj=>?_⟩,Jy⟩;obtain⟨J,h1,h2,-⟩:=HX j hj;exact⟨J,(World.ownsRow.cellAt HR j o_).trans h1,h2⟩
end
section
variable{B:Nat}{w:AT}{v:BY}{l:List Nat}
def Du(n:Nat):tl n []=List.replicate n (.bool false):=by
 apply ext_getElem
 ·simp[tl]
 ·intro i h h2;simp[tl]
theorem bR.cut{x:Nat}(h:bR B w v (l++[x])):∃g cap,v=rV g (l.length+1) cap/\B<=g/\l.length+1<=cap/\cap<=maxLen/\w.cell? ⟨g,l.length,none⟩=some (V (x:Int))/\bR B w (rV g l.length cap) l:=by
 have h0:=h;obtain⟨g1,g2⟩:=h;rcases g2 with⟨_,hz⟩|⟨g,cap,I,rfl,Z,g4,U,J,g7,Y⟩
 ·simp at hz
 ·simp only[l_a,l_c,l_n,Nat.zero_add,Nat.mul_one,List.map_append,List.map_cons,List.map_nil]at g1 U g7 Y;refine⟨g,cap,i_,Z,U,J,?_,i_,.inr ⟨g,cap,I,rfl,Z,g4,o_,J,o_,?_⟩⟩
  ·have:=World.ownsRow.cellAt h0 l.length i_
   rw[this];simp
  ·rw[Nat.mul_one];have e:I.toList.take l.length=(I.toList.take (l.length+1)).take l.length:=by rw[List.take_take];congr 1;omega
   rw[e,Y];simp
def zF(W:AT)(B:Nat)(hB:B<=W.heap.size)(x:Nat):bR B (W.alloc (.cells #[V (x:Int)] 2)) (rV W.heap.size 1 1) [x]:=ownsRow_lit W #[V (x:Int)] 1 hB d_ rfl
def bR.set{g o:Nat}{u:BY}(h:bR B w v l)(hg:g<B):bR B (w.setCell ⟨g,o,none⟩ u) v l:=by
 obtain⟨Y,I⟩:=h;refine⟨Y,?_⟩;rcases I with I|⟨b,Jb,Z,rfl,g3,J,U⟩
 ·exact .inl I
 ·refine .inr ⟨b,Jb,Z,rfl,g3,?_,U⟩;rw[Below.heap_setCell _ _ _ b (λh=>by simp at h;omega)];exact J
theorem kF(t:Tr)(Xj:Value)(f:Nat)(w:World)(hf:f<t.funcs.length)(hl:t.funcs.length<=1000)(hg:qX w Xj t.funcs):
  Calls prog 85 #[Xj,V (f:Int)] w λe w'=>∃v out,e=rW v/\fy w.heap.size w' v t.funcs.length out/\(∀g,g∈out↔kQ t f g)/\Below w.heap.size w w':=by
 obtain⟨G,Yk,rfl,Xa⟩:=hg;have HG:=ah Xa;obtain⟨i0,hi,Xq,Yc,Xw⟩:=info_parts n9;obtain⟨i1,hj,X_,Xm,Xr⟩:=info_parts jN;clear Xa;obtain⟨n,hn⟩:=q_ t.funcs.length;rw[<-hn]at hf hl HG⊢;have HN:=ah hn;clear hn;go_in;go_wp2_with(at_make;refine wpList_make_full _ rfl _ _ 139 rfl w.heap.size 4 i0 (.bool false) 1 underlying139 hi Xq Yc _ _ _ _ n rfl rfl o_ o_ ?_ ?_ n_ ?_)
 ·rw[Xw];omega
 ·unfold maxLen;omega
 intro w1 Jf Je;have Jw:Bl w w1:=r_.grown Je n_ i_;have Jg:Hid (fy w.heap.size w1 (rV w.heap.size n n) n []):=by
  show World.ownsRow _ _ _ _ _ _ _;rw[Du,<-toList_madeCells_one];exact Jf
 have Jq:w.heap.size<w1.heap.size:=(World.ownsRow.lt Jf w.heap.size rfl).2;obtain⟨F,hF⟩:=q_ w.heap.size;rw[<-hF]at Jg Jq⊢;have Jo:=ah hF;clear Jf Je hF;go_wp2_with fail;have J_:=ah (zF w1 _ Jq f);have Xb:Hid (fy F (w1.alloc (.cells #[V (f:Int)] 2)) (rV F n n) n []):=Jg.out.below (au _ _);have Jx:Bl w (w1.alloc (.cells #[V (f:Int)] 2)):=Jw.alloc Jw.size _;go_loopg[6] (n+1) (λgk lv wr=>∃(out Jd:List Nat),gk=(n-out.length)+Jd.length/\gk<=n+1/\RInv t f out Jd/\fy F wr (rV F n n) n out/\bR (F+1) wr lv Jd/\F<wr.heap.size/\Bl w wr)
 case atStart=>exact⟨[],[f],i_,n_,RInv.start t f,Xb,J_,by simp;omega,Jx⟩
 case round=>
  clear J_ Jg Xb Jx Jw Jq;obtain⟨out,Jd,Jk,Yf,hI,Y,hW,Ji,Z⟩:=hrel;rcases List.eq_nil_or_concat Jd with rfl|⟨U,x,rfl⟩
  ·have HE:Hid (∀g,g∈out↔kQ t f g):=λg=>hI.all g;have HT:=ah Y;obtain⟨a6,c6,rfl⟩:=hW.shape;simp only[l_n];clear Y hW hI;go_wp2;go_ret;exact⟨_,out,rfl,by rw[<-Jo.out];exact HT,HE,Z⟩
  ·simp only[List.concat_eq_append]at Jk hI hW;have Xe:x<n:=by have:=hI.lt (by rw[<-HN.out];exact hf) x i_;rw[HN.out];exact this
   have HM:Hid (fH t f x [] out U):=hI.take i_ (λy=>by simp[or_comm]);obtain⟨g6,c6,rfl,Yi,Xp,Xs,q6,Xf⟩:=hW.cut;have Jz:=ah Xf;have HT:=ah Y;obtain⟨vx,qx,Xk⟩:=HG x Xe;have Ya:=(Z.cell (p:=⟨G,x,none⟩) (b_ qx)).trans qx;obtain⟨L,hL⟩:=q_ (callsL t.funcs (t.funcs.getD x ⟨⟨#[]⟩,[],[]⟩).body);have HL:Hid (∀y,eH t x y↔y∈L):=λy=>by
    rw[hL];unfold eH;exact⟨λh=>h.2,λh=>⟨by rw[<-HN.out];exact Xe,h⟩⟩
   have Xc:Hid (jP t.funcs x=L.map (λg:Nat=>(g:Int))):=by show _=_;rw[hL];rfl
   obtain⟨ax,cx,Jy,Xi⟩:=Xk;have Jh:(jP t.funcs x).length=L.length:=by rw[Xc.out];simp
   rw[Jh]at Jy;subst Jy;have Xy:Hid (0<L.length->∃b,ax=some ⟨b,0,none⟩/\∀j (h:j<L.length),w.cell? ⟨b,j,none⟩=some (V (L[j]:Int))):=λh0=>by
    obtain⟨b,rfl,hc⟩:=Xi o_;refine⟨b,rfl,λj hj=>?_⟩;have:=hc j o_;rw[this];simp[Xc.out]
   have Yg:L.length<=1000:=by
    have h1:L.Nodup:=by
     rw[hL];unfold callsL;exact List.Pairwise.filter _ (List.nodup_range)
    have h2:=jw n h1 (λy hy=>by have:=((HL.out y).2 hy).lt;rw[HN.out];exact this);omega
   have Yh:U.length<=2000:=by simp at Jk;omega
   have Xu:(n-out.length)+U.length+1=gk:=by simp at Jk;omega
   have Xt:∀W:World,(Instr.slice 26 (rV g6 (U.length+1) c6) none (some (V (U.length:Int))) none).run prog W=.ok (rV g6 U.length c6) W:=by
    intro W;have hz:prog.elem 26=2:=k_;have hs:(sizeOf 2).run prog W=.ok 1 W:=k_;rw[run_slice_h W 26 (some ⟨g6,0,none⟩) (U.length+1) c6 (by rw[hz];exact underlying26) .i64 _ o_ o_,hz,hs];simp[Result.andThen,sliced,Addr.add]
   have Xn:=HM.out.len;rw[<-HN.out]at Xn;clear hI Y hW Xf Xi Jh hL Jk qx;go_wp2;go_loopw[6,34] (λlv i w4=>∃(j:Nat) (J I:List Nat),j<=L.length/\i=V j/\fH t f x (L.take j) J I/\fy F w4 (rV F n n) n J/\bR (F+1) w4 lv I/\J.length+U.length=out.length+I.length/\F<w4.heap.size/\Bl w w4) (λ_ i _=>L.length-(RowKit.intOf i).toNat)
   case atStart=>exact⟨0,out,U,y_,rfl,by simpa using HM.out,HT.out,Jz.out,rfl,Ji,Z⟩
   case round=>
    clear HM Jz HT q6 Ya Z Ji Xt;obtain⟨j,J,I,Yl,rfl,hM,Y,hW,Xo,Ji,Z⟩:=hrel;have HM:=ah hM;have HT:=ah Y;have Ju:=hM.len;rw[<-HN.out]at Ju;obtain⟨a6,c7,rfl⟩:=hW.shape;have HW:Hid (bR (F+1) wr (.slice a6 I.length c7) I):=hW;clear hM hW;by_cases hjl:j<L.length
    ·obtain⟨bx,rfl,Jn⟩:=Xy o_;have d0:=(Z.cell (p:=⟨bx,j,none⟩) (b_ (Jn j hjl))).trans (Jn j hjl);have Jg:Hid (L.take (j+1)=L.take j++[L[j]]):=aR L j hjl;have Jv:eH t x L[j]:=(HL _).2 (g_ hjl);have Jt:L[j]<n:=by have:=Jv.lt;rw[HN.out];exact this
     have Xh:=ah Jv;clear Jn Jv;generalize L[j]=y at d0 Jg Jt Xh;obtain⟨t0,tf⟩:=Y.cell y Jt;clear Y;by_cases hy:y∈J
     ·rw[decide_eq_true hy]at t0;have Jr:Hid (fH t f x (L.take (j+1)) J I):=by show fH _ _ _ _ _ _;rw[Jg.out];exact HM.out.old hy
      clear hy;go_wp2;go_roundw
      case rel=>exact⟨j+1,J,I,o_,by go_num,Jr,HT,HW,Xo,Ji,Z⟩
      case measure=>simp[RowKit.intOf];omega
     ·rw[decide_eq_false hy]at t0;have Jr:Hid (fH t f x (L.take (j+1)) (J++[y]) (I++[y])):=by show fH _ _ _ _ _ _;rw[Jg.out];exact HM.out.new hy Xh
      have Yb:=ah (HT.out.put y Jt);have Xd:Hid (bR (F+1) (wr.setCell ⟨F,y,none⟩ (.bool true)) (.slice a6 I.length c7) I):=HW.out.set (Nat.lt_succ_self _);have Jp:Bl w (wr.setCell ⟨F,y,none⟩ (.bool true)):=Z.setCell (p:=⟨F,y,none⟩) (by rw[Jo.out];exact n_) _;have Xz:(wr.setCell ⟨F,y,none⟩ (.bool true)).heap.size=wr.heap.size:=i_;have Yj:I.length<=2000:=o_;clear hy;go_wp2_with(at_builtin;refine cD rfl _ _ _ rfl (F+1) 2 i1 _ 1 8 underlying26 hj X_ Xm Xr rfl d_ _ I.length (I.map (λg:Nat=>Value.int .i64 (g:Int))) rfl (Xd.out.below (au _ _)) ⟨wr.heap.size,0,none⟩ 1 1 [V (y:Int)] rfl rfl (by rw[<-Xz];exact cell_one_new _ _ _) (by simp[Value.oneCell']) o_ d_ (by simp;omega) ?_);intro v9 w9 Xg Jl Xl;have Jm:Hid (bR (F+1) w9 v9 (I++[y])):=by
       show World.ownsRow _ _ _ _ _ _ _;simpa using Xg
      have Jj:∀g,(Value.slice a6 I.length c7).ownBlock=some g->F+1<=g:=λg hg=>(World.ownsRow.lt Xd g hg).1;have Xv:=ah (Di (Yb.out.below (au _ _)) Jl (λg hg h=>by simp only[Value.ownBlock,Option.some.injEq]at hg;have:=Jj g h;omega));have Ye:Bl w w9:=(Jp.alloc Jp.size _).grown Jl (by have:=Jp.size;simp;simp at this;omega) (λg hg=>by have:=Jj g hg;have:=Jo.out;omega);have Xx:F<w9.heap.size:=by have:=Jl.size;simp at this;omega
      obtain⟨a9,c9,rfl⟩:=Jm.out.shape;have Js:(I++[y]).length=I.length+1:=i_;rw[Js]at Jm⊢;clear Xg Jl Xl d0 t0 tf HW HT HM;go_wp2;go_roundw
      case rel=>exact⟨j+1,J++[y],I++[y],o_,by go_num,Jr,Xv,Jm,by simp;omega,Xx,Ye⟩
      case measure=>simp[RowKit.intOf];omega
    ·have Yd:Hid (RInv t f J I):=by
      have h1:=HM;rw[List.take_of_length_le o_]at h1;exact h1.done (λy hy=>(HL y).1 hy)
     clear Y;go_wp2;go_roundg ((n-J.length)+I.length)
     case measure=>omega
     case rel=>exact⟨J,I,rfl,o_,Yd,HT,HW,Ji,Z⟩
end
end Go.Proofs.YtffnkkpmlplfeaaGreatDoor
