import Derived.Test.YtffnkkpmlplfeaaGreatDoorF32
import Derived.Deep.RegionHeld3
namespace Go.Proofs.YtffnkkpmlplfeaaGreatDoor
open Go.Value Go.World List
open Go.Proofs.Tryz
set_option linter.all false
set_option maxRecDepth 100000
set_option maxHeartbeats 0
variable[Inhabited Pick]
section
open Go.RowKit
variable{L l:List Nat}{j B n g c:Nat}{w w':AT}{v:BY}
def pS(L:List Nat)(j:Nat):List Nat:=(List.range j).filter (λg=>decide (g∈L))
def Bt(h:j∈L):pS L (j+1)=pS L j++[j]:=by simp[pS,range_succ,filter_append,h]
def Dn(h:¬j∈L):pS L (j+1)=pS L j:=by simp[pS,range_succ,filter_append,h]
def Bu(L:List Nat)(j:Nat):(pS L j).length<=j:=by
 have:=length_filter_le (λg=>decide (g∈L)) (List.range j)
 simpa[pS]using this
def bR(B:Nat)(w:AT)(v:BY)(l:List Nat):Prop:=w.ownsRow B 2 1 v l.length (l.map (λg:Nat=>Value.int .i64 (g:Int)))
def bR.shape(h:bR B w v l):∃a c,v=.slice a l.length c:=by
 rcases h.2 with⟨rfl,J⟩|⟨g,I,U,rfl,_⟩
 ·exact⟨none,0,by rw[J]⟩
 ·exact⟨_,I,rfl⟩
def bR.below(h:bR B w v l)(hb:Bl w w'):bR B w' v l:=ownB h hb
def mu(W:AT)(B:Nat)(hB:B<=W.heap.size):bR B (W.alloc (.cells #[] 2)) (rV W.heap.size 0 0) []:=ownsRow_lit W #[] 0 hB d_ rfl
def bR.ints(h:bR B w v l):Ints w v (l.map (λg:Nat=>(g:Int))):=by
 refine qw (N:=B) ?_;rw[GN,List.map_map];exact h
def tl(n:Nat)(L:List Nat):List BY:=(List.range n).map (λg=>Value.bool (decide (g∈L)))
def Bw(n:Nat):tl n []++[.bool false]=tl (n+1) []:=by simp[tl,range_succ]
def Ex(n:Nat)(L:List Nat)(g:Nat)(h:g<n):(tl n L)[g]? =some (.bool (decide (g∈L))):=by simp[tl,h]
def Dp(n:Nat)(L:List Nat)(g:Nat)(h:g<n):(tl n L).set g (.bool true)=tl n (L++[g]):=by
 apply ext_getElem
 ·simp[tl]
 ·intro i J h2;rw[getElem_set];by_cases e:g=i
  ·subst e;simp[tl]
  ·rw[if_neg e];have I:¬i=g:=λh=>e h.symm;simp[tl,I]
def fy(B:Nat)(w:AT)(v:BY)(n:Nat)(L:List Nat):Prop:=w.ownsRow B 4 1 v n (tl n L)
def n9:(prog.info? 4).map (λi=>(i.zero,i.size,i.bytes))=some (some (.bool false),1,1):=by kernel_rfl
def jN:(prog.info? 2).map (λi=>(i.zero,i.size,i.bytes))=some (some (V 0),1,8):=by kernel_rfl
def fy.below(h:fy B w v n L)(hb:Bl w w'):fy B w' v n L:=ownB h hb
def fy.form(h:fy B w v n L)(hn:0<n):∃g c,v=rV g n c/\B<=g/\g<w.heap.size:=by
 have U:=h;rcases h.2 with⟨_,Z⟩|⟨g,J,Y,rfl,I,_⟩
 ·omega
 ·exact⟨g,J,rfl,I,(ownsRow.lt U g rfl).2⟩
def fy.shape(h:fy B w v n L):∃a c,v=.slice a n c:=by
 rcases h.2 with⟨rfl,J⟩|⟨g,I,U,rfl,_⟩
 ·exact⟨none,0,by rw[J]⟩
 ·exact⟨_,I,rfl⟩
def zy(W:AT)(B:Nat)(hB:B<=W.heap.size):fy B (W.alloc (.cells #[] 4)) (rV W.heap.size 0 0) 0 []:=ownsRow_lit W #[] 0 hB d_ rfl
def fy.cell(h:fy B w (rV g n c) n L)(j:Nat)(I:j<n):DO w g j (.bool (decide (j∈L)))/\D4 w g j:=by
 refine⟨?_,ownsRow.frozenAt h j⟩;have:=ownsRow.cells h (g:=g) rfl j _ (Ex n L j I);rw[em]at this;simpa using this
def fy.put(h:fy B w (rV g n c) n L)(j:Nat)(I:j<n):fy B (w.setCell ⟨g,j,none⟩ (.bool true)) (rV g n c) n (L++[j]):=by
 have:=(ownsRow.stored h j (.bool true)).1
 rw[Dp n L j I]at this;exact this
def aw.set{J:List Nd}(h:aw w v J)(Jc:v.ownBlock≠some g)(o:Nat)(u:BY):aw (w.setCell ⟨g,o,none⟩ u) v J:=by
 obtain⟨a,Jb,rfl,Z,h2,h3⟩:=h;refine⟨a,Jb,rfl,Z,h2,λh0=>?_⟩;obtain⟨b,Y,rfl,hc⟩:=h3 h0;have I:b≠g:=λe=>Jc (by simp[ownBlock,e]);refine⟨b,Y,rfl,λj hj=>?_⟩;obtain⟨c0,c1,U⟩:=hc j hj;refine⟨?_,?_,?_⟩
 ·rw[s_ _ _ _ _ (by intro h;simp only[Addr.mk.injEq]at h;exact I h.1.symm)];exact c0
 ·rw[s_ _ _ _ _ (by intro h;simp only[Addr.mk.injEq]at h;exact I h.1.symm)];exact c1
 ·rw[s_ _ _ _ _ (by intro h;simp only[Addr.mk.injEq]at h;exact I h.1.symm)];exact U
def wy(W:AT)(B:Nat)(hB:B<=W.heap.size):aV B (W.alloc (.cells #[] 134)) (rV W.heap.size 0 0) []:=
 ownsRow_lit W #[] 0 hB d_ rfl
def mv{W w1:AT}(hb:Bl W w1):(∀b o,b<W.heap.size->w1.cell? ⟨b,o,none⟩=W.cell? ⟨b,o,none⟩)/\(∀b o,b<W.heap.size->w1.frozen? ⟨b,o,none⟩=W.frozen? ⟨b,o,none⟩):=
 ⟨λb o h=>hb.cell (p:=⟨b,o,none⟩) h,λb o h=>hb.frozen (p:=⟨b,o,none⟩) h⟩
def bR.base{J:Nat}(h:bR B w v l)(hb:J<=B):bR J w v l:=by
 obtain⟨Y,I⟩:=h;refine⟨Y,?_⟩;rcases I with I|⟨g,Jb,Z,rfl,g3,U⟩
 ·exact .inl I
 ·exact .inr ⟨g,Jb,Z,rfl,t_ hb g3,U⟩
theorem qU(I:List Fu)(vg vf:Value)(p:Nat)(w:World)(hp:p<I.length)(hl:I.length<=1048576)(Xf:eX I[p])(hg:∃a n c,vg=.slice a n c)(hf:bC w vf I):
  Calls prog 92 #[.agg #[vg,vf],V (p:Int)] w λe w'=>∃v,e=rW v/\bR w.heap.size w' v (callsL I I[p].body)/\Below w.heap.size w w':=by
 obtain⟨ag,ng,cg,rfl⟩:=hg;have HF:=ah hf;obtain⟨af,cf,rfl,-,-,Xj⟩:=hf;obtain⟨b,Jh,rfl,hc⟩:=Xj o_;obtain⟨vp,vb,⟨d0,d1,d2⟩,-,hb⟩:=hc p hp;have Yo:b<w.heap.size:=b_ d0;have Xi:=ah d2;obtain⟨ab,cb,rfl,-,-,Xg⟩:=hb;have Xl:=ah Xg;have Xs:Hid (∀s∈I[p].body,fP s):=Xf.2.2;have Yh:I[p].body.length<=1048576:=Xf.2.1;clear Xj hc d0 d1 d2 Xg Xf;generalize I[p].body=body at Xi Xl Xs Yh⊢;obtain⟨i0,hi,Yd,Yl,Yi⟩:=info_parts n9;obtain⟨i1,hj,Yj,Xx,Ye⟩:=info_parts jN;go_in;go_wp2;go_loopw[5,6] (λv i wr=>∃k:Nat,k<=I.length/\i=V k/\fy (w.heap.size+1) wr v k []/\Below (w.heap.size+1) (w.alloc (.cells #[.slice ag ng cg,.slice (some ⟨b,Jh,none⟩) I.length cf] 34)) wr) (λ_ i _=>I.length-(RowKit.intOf i).toNat)
 case atStart=>exact⟨0,y_,rfl,(by have:=zy (w.alloc (.cells #[.slice ag ng cg,.slice (some ⟨b,Jh,none⟩) I.length cf] 34)) (w.heap.size+1) i_;rw[World.size_alloc]at this;exact this),r_.alloc i_ _⟩
 case round=>
  obtain⟨k,hk,rfl,Y,J⟩:=hrel;obtain⟨a5,c5,rfl⟩:=Y.shape;have U:=ah Y;obtain⟨x0,x1⟩:=iy J;have Jf:w.heap.size+1<=wr.heap.size:=by have:=J.size;simpa using this
  by_cases hlt:k<I.length
  ·clear Y;go_wp2_with(at_builtin;refine cD rfl _ _ _ rfl (w.heap.size+1) 4 i0 _ 1 1 underlying139 hi Yd Yl Yi rfl d_ _ k (tl k []) rfl (U.out.below (au _ _)) ⟨wr.heap.size,0,none⟩ 1 1 [.bool false] rfl rfl (cell_one_new _ _ _) (by simp[Value.oneCell']) o_ d_ (by simp;omega) ?_)
   intro v1 w1 Jl Je Jm;rw[Bw]at Jl;have Jt:Hid (fy (w.heap.size+1) w1 v1 (k+1) []):=Jl;have Z:Below (w.heap.size+1) (w.alloc (.cells #[.slice ag ng cg,.slice (some ⟨b,Jh,none⟩) I.length cf] 34)) w1:=(J.alloc Jf _).grown Je (by simp;omega) (λg hg=>(World.ownsRow.lt U g hg).1);obtain⟨a6,c6,rfl⟩:=Jt.out.shape;clear Jl Je Jm;go_wp2;go_roundw
   case rel=>exact⟨k+1,o_,by go_num,Jt,Z⟩
   case measure=>simp[RowKit.intOf];omega
  ·have Xz:k=I.length:=o_
   subst Xz;obtain⟨g5,Yr,he,Ym,Ja⟩:=Y.form o_;simp only[Value.slice.injEq,true_and]at he;obtain⟨rfl,rfl⟩:=he;have Z:=ay J;have dB:=(Z.cell (p:=⟨b,Jh+p*3+2,none⟩) Yo).trans Xi;clear Y;go_wp2_with fail;clear dB x0 x1;go_loopw[8] (λi w2=>∃q:Nat,q<=body.length/\i=V q/\fy (w.heap.size+1) w2 (rV g5 I.length c5) I.length (cu I (ch (body.take q)))/\g5<w2.heap.size/\Below (w.heap.size+1) (w.alloc (.cells #[.slice ag ng cg,.slice (some ⟨b,Jh,none⟩) I.length cf] 34)) w2) (λi _=>body.length-(RowKit.intOf i).toNat)
   case atStart=>exact⟨0,y_,rfl,U,Ja,J⟩
   case round=>
    clear J Z U Jf Ja;obtain⟨q,hq,rfl,Y,Ja,J⟩:=hrel;have U:=ah Y;have Jf:w.heap.size+1<=wr.heap.size:=by have:=J.size;simpa using this
    have Z:=ay J;clear Y;by_cases hlt:q<body.length
    ·obtain⟨b',Jb,rfl,hc⟩:=Xl o_;obtain⟨ve,vf,⟨c0,c1,c2,c3,c4,Yc⟩,he,hf⟩:=(hc.below Z) q hlt;have Jg:b'<wr.heap.size:=b_ c0;have HE:Hid (ch (body.take (q+1))=ch (body.take q)++(body[q].e++body[q].f)):=by show _=_;rw[aR body q hlt,js]
     have HS:Hid (fP body[q]):=Xs _ (g_ hlt);clear hc c0 c1 c4 Yc;generalize body[q]=s at c2 c3 he hf HE HS;generalize ch (body.take q)=pre at U HE;obtain⟨Xr,Xo⟩:=h2 he hf;obtain⟨ae,ce,rfl,-⟩:=he;obtain⟨af,Xu,rfl,-⟩:=hf;have Yq:s.e.length<=1048576:=HS.out.1;have Jm:s.f.length<=1048576:=HS.out.2;have Jv:Bl wr (wr.drew.alloc (.cells #[] 134)):=((Below.refl wr.heap.size wr).drew).alloc n_ _;have Jq:=ah (Xr.out.below Jv);have Jn:Hid (aV wr.heap.size (wr.drew.alloc (.cells #[] 134)) (rV wr.heap.size 0 0) []):=wy wr.drew _ n_;have J_:wr.heap.size<=(wr.drew.alloc (.cells #[] 134)).heap.size:=Jv.size;have Xd:=World.new_ne wr ⟨b',Jb+q*6+2,none⟩ c2;have Xb:=World.new_ne wr ⟨b',Jb+q*6+3,none⟩ c3;go_wp2_with fail;go_region_held_law (λW=>W.cell? ⟨b',Jb+q*6+2,none⟩=some (.slice ae s.e.length ce)/\W.cell? ⟨b',Jb+q*6+3,none⟩=some (.slice af s.f.length Xu)) (first|go_keep|(go_split_ands;exact⟨y0,y1⟩)|(go_split_ands;exact⟨z0,z1⟩))
      (first
      | (refine gE (by rfl) _ _ (by rfl) wr.heap.size (.slice (some ⟨wr.heap.size,0,none⟩) 0 0) [] (by rfl) Jn (.slice ae s.e.length ce) s.e (by rfl) Jq (by simp;omega) J_ ?_;intro v1 w1 Jx Je Jm;have Jj:Bl wr w1:=Jv.grown Je J_ (λj hj=>by cases hj;exact n_);have y0:=((mv Jj).1 b' (Jb+q*6+2) Jg).trans c2;have y1:=((mv Jj).1 b' (Jb+q*6+3) Jg).trans c3)
      | (refine gE (by rfl) _ _ (by rfl) wr.heap.size v1 s.e (by rfl) Jx (.slice af s.f.length Xu) s.f (by rfl) (Xo.out.below Jj) o_ Jj.size ?_;intro v2 w2 Jw Xv Yg;have Jk:Bl wr w2:=Jj.grown Xv Jj.size (λj hj=>(World.ownsRow.lt Jx j hj).1);have z0:=((mv Jk).1 b' (Jb+q*6+2) Jg).trans c2;have z1:=((mv Jk).1 b' (Jb+q*6+3) Jg).trans c3))
     have Ji:Hid (aw w2 v2 (s.e++s.f)):=Jw.nodes;have Xp:v2.ownBlock≠some g5:=λh=>by have:=(World.ownsRow.lt Jw g5 h).1;omega
     obtain⟨Xm,Xn⟩:=h2 (U.out.below Jk) (J.trans (Jk.mono Jf));have Jo:g5<w2.heap.size:=l_ Ja Jk.size;have Yb:(s.e++s.f).length<=2097152:=by simp;omega
     obtain⟨a9,c9,rfl,-⟩:=Ji.out;clear Jx Je Jm Jj Jw Xv Yg Jk y0 y1 z0 z1 c2 c3 Xd Xb Jv Jq Jn J_ Xr Xo U;generalize s.e++s.f=al at Ji Xp Yb HE⊢;go_wp2
     go_loopw[10] (λi w4=>∃j:Nat,j<=al.length/\i=V j/\fy (w.heap.size+1) w4 (rV g5 I.length c5) I.length (cu I (pre++al.take j))/\g5<w4.heap.size/\aw w4 (.slice a9 al.length c9) al/\Below (w.heap.size+1) (w.alloc (.cells #[.slice ag ng cg,.slice (some ⟨b,Jh,none⟩) I.length cf] 34)) w4) (λi _=>al.length-(RowKit.intOf i).toNat)
     case atStart=>exact⟨0,y_,rfl,by simpa using Xm.out,Jo,Ji.out,Xn.out⟩
     case round=>
      clear J Z Jf Ja Jo Ji Xn Xm;obtain⟨j,hj,rfl,Y,Ja,Jz,J⟩:=hrel;obtain⟨U,Ji⟩:=h2 Y Jz;have Jf:w.heap.size+1<=wr.heap.size:=by have:=J.size;simpa using this
      have Z:=ay J;obtain⟨x0,x1⟩:=iy J;clear Y;by_cases hjl:j<al.length
      ·obtain⟨_,_,Xh,-,-,Xt⟩:=Jz;simp only[Value.slice.injEq,true_and]at Xh;obtain⟨rfl,rfl⟩:=Xh;obtain⟨b9,o9,rfl,hC⟩:=Xt o_;obtain⟨c0,c1,c2⟩:=hC j hjl;have Yu:b9<wr.heap.size:=b_ c0;have HT:Hid (pre++al.take (j+1)=pre++al.take j++[al[j]]):=by show _=_;rw[aR al j hjl];simp
       have Yp:w.heap.size<wr.heap.size:=Jf;clear hC Xt;generalize al[j]=n at c0 c1 c2 HT;generalize pre++al.take j=done at U HT;by_cases h4:n.kind=4
       ·obtain⟨kd,vl,nm⟩:=n;simp only at c0 c1 c2 h4;subst h4;have Ya:=ah (HF.out.below (Z.trans (r_.drew.mono Z.size)));go_wp2_with fail;go_region_held3 (λW=>W.cell? ⟨w.heap.size,0,none⟩=some (.slice ag ng cg)/\W.cell? ⟨w.heap.size,1,none⟩=some (.slice (some ⟨b,Jh,none⟩) I.length cf)/\W.cell? ⟨b9,o9+j*3+2,none⟩=some (sV nm)) (go_simp)
         (first
         | (go_at_call 32;refine(fg I _ _ nm _ hl Ya).mono ?_;rintro e w5 ⟨rfl,Xc⟩;have Yk:∀b o,b<wr.heap.size->w5.cell? ⟨b,o,none⟩=wr.cell? ⟨b,o,none⟩:=(mv Xc).1))
        have Jd:Bl wr w5:=r_.drew.trans Xc;obtain⟨Ju,Jp⟩:=h2 (U.out.below Jd) (Ji.out.below Jd);have Xq:=J.trans (Jd.mono Jf);have Js:g5<w5.heap.size:=l_ Ja Jd.size;clear Xc Jd c0 c1 c2 x0 x1 Yk;cases hv:bO I nm with
        | none=>
         have HC:Hid (cu I (pre++al.take (j+1))=cu I done):=by show _=_;rw[HT.out];exact fi (λ_=>hv)
         rw[gP hv];clear hv;go_wp2;go_roundw
         case rel=>exact⟨j+1,o_,by go_num,by rw[HC.out];exact Ju,Js,Jp,Xq⟩
         case measure=>simp[RowKit.intOf];omega
        | some g=>
         have HC:Hid (cu I (pre++al.take (j+1))=cu I done++[g]):=by show _=_;rw[HT.out];exact ib rfl hv
         have Jy:g<I.length:=de hv;obtain⟨⟨y0,t0⟩,f0⟩:(∃y,w5.cell? ⟨g5,g,none⟩=some y)/\w5.frozen? ⟨g5,g,none⟩=false:=⟨⟨_,(Ju.out.cell g Jy).1⟩,(Ju.out.cell g Jy).2⟩;rw[ed hv];clear hv;go_wp2;go_roundw
         case rel=>exact⟨j+1,o_,by go_num,by rw[HC.out];exact Ju.out.put g Jy,by simpa using Js,Jp.out.set Xp _ _,Xq.setCell Ym _⟩
         case measure=>simp[RowKit.intOf];omega
       ·have HC:Hid (cu I (pre++al.take (j+1))=cu I done):=by show _=_;rw[HT.out];exact fi (λh=>absurd h h4)
        go_wp2;go_roundw
        case rel=>exact⟨j+1,o_,by go_num,by rw[HC.out];exact U,Ja,Ji,J⟩
        case measure=>simp[RowKit.intOf];omega
      ·have HC:Hid (ch (body.take (q+1))=pre++al.take j):=by show _=_;rw[HE.out,List.take_of_length_le o_]
       clear Jz x0 x1;go_wp2;go_roundw
       case rel=>exact⟨q+1,o_,by go_num,by rw[HC.out];exact U,Ja,J⟩
       case measure=>simp[RowKit.intOf];omega
    ·have HC:Hid (ch (body.take q)=ch body):=by show _=_;rw[List.take_of_length_le o_]
     have Xe:Hid (fy (w.heap.size+1) wr (rV g5 I.length c5) I.length (cu I (ch body))):=by have:=U.out;rw[HC.out]at this;exact this
     have Xw:Hid (callsL I body=pS (cu I (ch body)) I.length):=rfl;generalize cu I (ch body)=L at Xe Xw;clear U HC;go_wp2_with fail;have Xa:=ah (mu wr _ n_);have Jn:Hid (fy (w.heap.size+1) (wr.alloc (.cells #[] 2)) (rV g5 I.length c5) I.length L):=Xe.out.below (au _ _);obtain⟨M,hM⟩:=q_ wr.heap.size;have Yf:g5<M:=o_;have Xy:w.heap.size<=M:=o_;rw[<-hM]at Xa;go_loopw[12,13] (λo i w2=>∃j:Nat,j<=I.length/\i=V j/\bR M w2 o (pS L j)/\fy (w.heap.size+1) w2 (rV g5 I.length c5) I.length L/\M<=w2.heap.size/\Bl w w2) (λ_ i _=>I.length-(RowKit.intOf i).toNat)
     case atStart=>exact⟨0,y_,rfl,by rw[<-hM];exact Xa,Jn,by simp;omega,Z.alloc Z.size _⟩
     case round=>
      clear Xa Jn Xe J Z Jf Ja hM;obtain⟨j,Yt,rfl,hO,Y,Yn,J⟩:=hrel;obtain⟨a6,c6,rfl⟩:=hO.shape;obtain⟨HO,U⟩:=h2 hO Y;have Ys:=Bu L j;clear hO;by_cases hjl:j<I.length
      ·have t0:=(Y.cell j hjl).1;clear Y;by_cases hm:j∈L
       ·rw[decide_eq_true hm]at t0;have HE:Hid (pS L (j+1)=pS L j++[j]):=Bt hm;clear hm;go_wp2_with(at_builtin;refine cD rfl _ _ _ rfl M 2 i1 _ 1 8 underlying26 hj Yj Xx Ye rfl d_ _ (pS L j).length ((pS L j).map (λg:Nat=>Value.int .i64 (g:Int))) rfl (HO.out.below (au _ _)) ⟨wr.heap.size,0,none⟩ 1 1 [V (j:Int)] rfl rfl (cell_one_new _ _ _) (by simp[Value.oneCell']) o_ d_ (by simp;omega) ?_)
        intro v1 w1 Jl Je Jm;have Xk:Hid (bR M w1 v1 (pS L (j+1))):=by
         show w1.ownsRow _ _ _ _ _ _;rw[HE.out];simpa using Jl
        have Jr:∀g,(Value.slice a6 (pS L j).length c6).ownBlock=some g->M<=g:=λg hg=>(World.ownsRow.lt HO g hg).1;have Jt:Hid (fy (w.heap.size+1) w1 (rV g5 I.length c5) I.length L):=Di (U.out.below (au _ _)) Je (λg hg h=>by simp only[Value.ownBlock,Option.some.injEq]at hg;have:=Jr g h;omega);have Z:Bl w w1:=(J.alloc J.size _).grown Je (by have:=J.size;simp;omega) (λg hg=>by have:=Jr g hg;omega);have X_:M<=w1.heap.size:=by have:=Je.size;simp at this;omega
        obtain⟨a7,c7,rfl⟩:=Xk.out.shape;clear Jl Je Jm;go_wp2;go_roundw
        case rel=>exact⟨j+1,o_,by go_num,Xk,Jt,X_,Z⟩
        case measure=>simp[RowKit.intOf];omega
       ·rw[decide_eq_false hm]at t0;have HE:Hid (pS L (j+1)=pS L j):=Dn hm;clear hm;go_wp2;go_roundw
        case rel=>exact⟨j+1,o_,by go_num,by rw[HE.out];exact HO,U,Yn,J⟩
        case measure=>simp[RowKit.intOf];omega
      ·obtain rfl:j=I.length:=by omega
       clear Y;go_wp2;go_ret;exact⟨_,rfl,by rw[Xw.out];exact bR.base HO Xy,J⟩
end
end Go.Proofs.YtffnkkpmlplfeaaGreatDoor
