import Derived.Deep.RegionHeld3
import Derived.Test.YtjfmapphpijneaaGreatDoorS44
namespace Go.Proofs.YtjfmapphpijneaaGreatDoor
set_option linter.all false
set_option maxRecDepth 100000
set_option maxHeartbeats 0
open Go.Value Go.World List Go.Proofs.Tryz
variable[Inhabited Pick]
section
open Go.RowKit
variable{L l:List Nat}{j B n g c:Nat}{w w':AT}{v:BY}
def tD(L:List Nat)(j:Nat):List Nat:=(List.range j).filter (λg=>decide (g∈L))
def Ff(h:j∈L):tD L (j+1)=tD L j++[j]:=by simp[tD,range_succ,filter_append,h]
def Hb(h:¬j∈L):tD L (j+1)=tD L j:=by simp[tD,range_succ,filter_append,h]
def Fg(L:List Nat)(j:Nat):(tD L j).length<=j:=by
 have:=length_filter_le (λg=>decide (g∈L)) (List.range j)
 simpa[tD]using this
def cy(B:Nat)(w:AT)(v:BY)(l:List Nat):Prop:=w.ownsRow B 2 1 v l.length (l.map (λg:Nat=>Value.int .i64 (g:Int)))
def cy.shape(h:cy B w v l):∃a c,v=.slice a l.length c:=by rcases h.2 with⟨rfl,I⟩|⟨g,Ja,Jb,rfl,_⟩;exact⟨none,0,by rw[I]⟩;exact⟨_,Ja,rfl⟩
def cy.below(h:cy B w v l)(hb:Bl w w'):cy B w' v l:=ownB h hb
def pA(W:AT)(B:Nat)(hB:B<=W.heap.size):cy B (W.alloc (.cells #[] 2)) (rV W.heap.size 0 0) []:=ownsRow_lit W #[] 0 hB d_ rfl
def cy.ints(h:cy B w v l):Ints w v (l.map (λg:Nat=>(g:Int))):=by refine uw (N:=B) ?_;rw[J8,List.map_map];exact h
def tl(n:Nat)(L:List Nat):List BY:=(List.range n).map (λg=>Value.bool (decide (g∈L)))
def Fh(n:Nat):tl n []++[.bool false]=tl (n+1) []:=by simp[tl,range_succ]
def IY(n:Nat)(L:List Nat)(g:Nat)(h:g<n):(tl n L)[g]? =some (.bool (decide (g∈L))):=by simp[tl,h]
def Hc(n:Nat)(L:List Nat)(g:Nat)(h:g<n):(tl n L).set g (.bool true)=tl n (L++[g]):=by apply ext_getElem;simp[tl];intro i J h2;rw[getElem_set];by_cases e:g=i;subst e;simp[tl];rw[if_neg e];have I:¬i=g:=λh=>e h.symm;simp[tl,I]
def gg(B:Nat)(w:AT)(v:BY)(n:Nat)(L:List Nat):Prop:=w.ownsRow B 4 1 v n (tl n L)
def rq:(prog.info? 4).map (λi=>(i.zero,i.size,i.bytes))=some (some (.bool false),1,1):=by kernel_rfl
def li:(prog.info? 2).map (λi=>(i.zero,i.size,i.bytes))=some (some (V 0),1,8):=by kernel_rfl
def gg.below(h:gg B w v n L)(hb:Bl w w'):gg B w' v n L:=ownB h hb
def gg.form(h:gg B w v n L)(U:0<n):∃g c,v=rV g n c/\B<=g/\g<w.heap.size:=by have I:=h;rcases h.2 with⟨_,J⟩|⟨g,Jb,Jc,rfl,Ja,_⟩;omega;exact⟨g,Jb,rfl,Ja,(ownsRow.lt I g rfl).2⟩
def gg.shape(h:gg B w v n L):∃a c,v=.slice a n c:=by rcases h.2 with⟨rfl,I⟩|⟨g,Ja,Jb,rfl,_⟩;exact⟨none,0,by rw[I]⟩;exact⟨_,Ja,rfl⟩
def CQ(W:AT)(B:Nat)(hB:B<=W.heap.size):gg B (W.alloc (.cells #[] 4)) (rV W.heap.size 0 0) 0 []:=ownsRow_lit W #[] 0 hB d_ rfl
def gg.cell(h:gg B w (rV g n c) n L)(j:Nat)(I:j<n):DO w g j (.bool (decide (j∈L)))/\D4 w g j:=by refine⟨?_,ownsRow.frozenAt h j⟩;have:=ownsRow.cells h (g:=g) rfl j _ (IY n L j I);rw[dk]at this;simpa using this
def gg.put(h:gg B w (rV g n c) n L)(j:Nat)(I:j<n):gg B (w.setCell ⟨g,j,none⟩ (.bool true)) (rV g n c) n (L++[j]):=by
 have:=(ownsRow.stored h j (.bool true)).1
 rw[Hc n L j I]at this;exact this
def aC.set{J:List Nd}(h:aC w v J)(Jc:v.ownBlock≠some g)(o:Nat)(u:BY):aC (w.setCell ⟨g,o,none⟩ u) v J:=by
 obtain⟨a,Jb,rfl,Z,h2,h3⟩:=h;refine⟨a,Jb,rfl,Z,h2,λh0=>?_⟩;obtain⟨b,Ja,rfl,hc⟩:=h3 h0;have I:b≠g:=λe=>Jc (by simp[ownBlock,e]);refine⟨b,Ja,rfl,λj hj=>?_⟩;have⟨c0,c1,U⟩:=hc j hj;refine⟨?_,?_,?_⟩
 rw[s_ _ _ _ _ (by intro h;simp only[Addr.mk.injEq]at h;exact I h.1.symm)];exact c0;rw[s_ _ _ _ _ (by intro h;simp only[Addr.mk.injEq]at h;exact I h.1.symm)];exact c1;rw[s_ _ _ _ _ (by intro h;simp only[Addr.mk.injEq]at h;exact I h.1.symm)];exact U
def AI(W:AT)(B:Nat)(hB:B<=W.heap.size):aW B (W.alloc (.cells #[] 81)) (rV W.heap.size 0 0) []:=
 ownsRow_lit W #[] 0 hB d_ rfl
def pB{W w1:AT}(hb:Bl W w1):(∀b o,b<W.heap.size->w1.cell? ⟨b,o,none⟩=W.cell? ⟨b,o,none⟩)/\(∀b o,b<W.heap.size->w1.frozen? ⟨b,o,none⟩=W.frozen? ⟨b,o,none⟩):=
 ⟨λb o h=>hb.cell (p:=⟨b,o,none⟩) h,λb o h=>hb.frozen (p:=⟨b,o,none⟩) h⟩
def cy.base{J:Nat}(h:cy B w v l)(hb:J<=B):cy J w v l:=by obtain⟨Z,I⟩:=h;refine⟨Z,?_⟩;rcases I with I|⟨g,Jb,Ja,rfl,g3,U⟩;exact .inl I;exact .inr ⟨g,Jb,Ja,rfl,t_ hb g3,U⟩
theorem uR(I:List Fu)(vg vf:BY)(p:Nat)(w:AT)(hp:p<I.length)(hl:I.length<=1048576)(Xf:fk I[p])(hg:∃a n c,vg=.slice a n c)(hf:bj w vf I):
  Calls prog 50 #[.agg #[vg,vf],V (p:Int)] w λe w'=>∃v,e=rW v/\cy w.heap.size w' v (callsL I I[p].bd)/\Bl w w':=by
 obtain⟨ag,ng,cg,rfl⟩:=hg;have HF:=ah hf;obtain⟨af,cf,rfl,-,-,Xj⟩:=hf;obtain⟨b,Jh,rfl,hc⟩:=Xj o_;obtain⟨vp,vb,⟨d0,d1,d2⟩,-,hb⟩:=hc p hp;have Yo:b<w.heap.size:=b_ d0;have Xi:=ah d2;obtain⟨ab,cb,rfl,-,-,Xg⟩:=hb;have Xl:=ah Xg;have Xs:Hid (∀s∈I[p].bd,gE s):=Xf.2.2;have Yh:I[p].bd.length<=1048576:=Xf.2.1;clear Xj hc d0 d1 d2 Xg Xf;generalize I[p].bd=body at Xi Xl Xs Yh⊢;have⟨i0,hi,Yd,Yl,Yi⟩:=info_parts rq;have⟨i1,hj,Yj,Xx,Ye⟩:=info_parts li;go_in;go_wp2;go_loopw[5,6] (λv i wr=>∃k:Nat,k<=I.length/\i=V k/\gg (w.heap.size+1) wr v k []/\Below (w.heap.size+1) (w.alloc (.cells #[.slice ag ng cg,.slice (some ⟨b,Jh,none⟩) I.length cf] 26)) wr) (λ_ i _=>I.length-(RowKit.intOf i).toNat)
 case atStart=>exact⟨0,y_,rfl,(by have:=CQ (w.alloc (.cells #[.slice ag ng cg,.slice (some ⟨b,Jh,none⟩) I.length cf] 26)) (w.heap.size+1) i_;rw[J9]at this;exact this),r_.alloc i_ _⟩
 case round=>
  obtain⟨k,hk,rfl,Z,J⟩:=hrel;obtain⟨a5,c5,rfl⟩:=Z.shape;have U:=ah Z;have⟨x0,x1⟩:=jc J;have Jf:w.heap.size+1<=wr.heap.size:=by have:=J.size;simpa using this
  by_cases hlt:k<I.length
  ·clear Z;go_wp2_with(at_builtin;refine cQ rfl _ _ _ rfl (w.heap.size+1) 4 i0 _ 1 1 underlying92 hi Yd Yl Yi rfl d_ _ k (tl k []) rfl (U.o.below (ao _ _)) ⟨wr.heap.size,0,none⟩ 1 1 [.bool false] rfl rfl (cell_one_new _ _ _) (by simp[oneCell']) o_ d_ H6 ?_)
   intro v1 w1 Jl Je Jm;rw[Fh]at Jl;have Jt:Hid (gg (w.heap.size+1) w1 v1 (k+1) []):=Jl;have Jc:Below (w.heap.size+1) (w.alloc (.cells #[.slice ag ng cg,.slice (some ⟨b,Jh,none⟩) I.length cf] 26)) w1:=(J.alloc Jf _).grown Je H6 (λg hg=>(ownsRow.lt U g hg).1);obtain⟨a6,c6,rfl⟩:=Jt.o.shape;clear Jl Je Jm;go_wp2;go_roundw
   case rel=>exact⟨k+1,o_,by go_num,Jt,Jc⟩
   case measure=>exact IF
  have Xz:k=I.length:=o_;subst Xz;have⟨g5,Yr,he,Ym,Ja⟩:=Z.form o_;simp only[Value.slice.injEq,true_and]at he;obtain⟨rfl,rfl⟩:=he;have Jc:=aw J;have dB:=(Jc.cell (p:=⟨b,Jh+p*3+2,none⟩) Yo).trans Xi;clear Z;go_wp2_with fail;clear dB x0 x1;go_loopw[8] (λi w2=>∃q:Nat,q<=body.length/\i=V q/\gg (w.heap.size+1) w2 (rV g5 I.length c5) I.length (cO I (ct (body.take q)))/\g5<w2.heap.size/\Below (w.heap.size+1) (w.alloc (.cells #[.slice ag ng cg,.slice (some ⟨b,Jh,none⟩) I.length cf] 26)) w2) (λi _=>body.length-(RowKit.intOf i).toNat)
  case atStart=>exact⟨0,y_,rfl,U,Ja,J⟩
  case round=>
   clear J Jc U Jf Ja;obtain⟨q,hq,rfl,Z,Ja,J⟩:=hrel;have U:=ah Z;have Jf:w.heap.size+1<=wr.heap.size:=(by have:=J.size;simpa using this);have Jc:=aw J;clear Z;by_cases hlt:q<body.length
   ·obtain⟨b',Jb,rfl,hc⟩:=Xl o_;have⟨ve,vf,⟨c0,c1,c2,c3,c4,Yc⟩,he,hf⟩:=(hc.below Jc) q hlt;have Jg:b'<wr.heap.size:=b_ c0;have HE:Hid (ct (body.take (q+1))=ct (body.take q)++(body[q].e++body[q].f)):=(by show _=_;rw[aU body q hlt,kO]);have HS:Hid (gE body[q]):=Xs _ (g_ hlt);clear hc c0 c1 c4 Yc;generalize body[q]=s at c2 c3 he hf HE HS;generalize ct (body.take q)=pre at U HE;have⟨Xr,Xo⟩:=h2 he hf;obtain⟨ae,ce,rfl,-⟩:=he;obtain⟨af,Xu,rfl,-⟩:=hf;have Yq:s.e.length<=1048576:=HS.o.1;have Jm:s.f.length<=1048576:=HS.o.2;have Jv:Bl wr (wr.drew.alloc (.cells #[] 81)):=((Below.refl wr.heap.size wr).drew).alloc n_ _;have Jq:=ah (Xr.o.below Jv);have Jn:Hid (aW wr.heap.size (wr.drew.alloc (.cells #[] 81)) (rV wr.heap.size 0 0) []):=AI wr.drew _ n_;have J_:wr.heap.size<=(wr.drew.alloc (.cells #[] 81)).heap.size:=Jv.size;have Xd:=new_ne wr ⟨b',Jb+q*6+2,none⟩ c2;have Xb:=new_ne wr ⟨b',Jb+q*6+3,none⟩ c3;go_wp2_with fail;go_region_held_law (λW=>W.cell? ⟨b',Jb+q*6+2,none⟩=some (.slice ae s.e.length ce)/\W.cell? ⟨b',Jb+q*6+3,none⟩=some (.slice af s.f.length Xu)) (first|go_keep|(go_split_ands;exact⟨y0,y1⟩)|(go_split_ands;exact⟨z0,z1⟩))
     (first
     | (refine iQ Ic _ _ Ic wr.heap.size (.slice (some ⟨wr.heap.size,0,none⟩) 0 0) [] Ic Jn (.slice ae s.e.length ce) s.e Ic Jq H6 J_ ?_;intro v1 w1 Jx Je Jm;have Jj:Bl wr w1:=Jv.grown Je J_ (λj hj=>by cases hj;exact n_);have y0:=((pB Jj).1 b' (Jb+q*6+2) Jg).trans c2;have y1:=((pB Jj).1 b' (Jb+q*6+3) Jg).trans c3)
     | (refine iQ Ic _ _ Ic wr.heap.size v1 s.e Ic Jx (.slice af s.f.length Xu) s.f Ic (Xo.o.below Jj) o_ Jj.size ?_;intro v2 w2 Jw Xv Yg;have Jk:Bl wr w2:=Jj.grown Xv Jj.size (λj hj=>(ownsRow.lt Jx j hj).1);have z0:=((pB Jk).1 b' (Jb+q*6+2) Jg).trans c2;have z1:=((pB Jk).1 b' (Jb+q*6+3) Jg).trans c3))
    have Ji:Hid (aC w2 v2 (s.e++s.f)):=Jw.nodes;have Xp:v2.ownBlock≠some g5:=λh=>by have:=(ownsRow.lt Jw g5 h).1;omega
    have⟨Xm,Xn⟩:=h2 (U.o.below Jk) (J.trans (Jk.mono Jf));have Jo:g5<w2.heap.size:=l_ Ja Jk.size;have Yb:(s.e++s.f).length<=2097152:=H6;obtain⟨a9,c9,rfl,-⟩:=Ji.o;clear Jx Je Jm Jj Jw Xv Yg Jk y0 y1 z0 z1 c2 c3 Xd Xb Jv Jq Jn J_ Xr Xo U;generalize s.e++s.f=al at Ji Xp Yb HE⊢;go_wp2
    go_loopw[10] (λi w4=>∃j:Nat,j<=al.length/\i=V j/\gg (w.heap.size+1) w4 (rV g5 I.length c5) I.length (cO I (pre++al.take j))/\g5<w4.heap.size/\aC w4 (.slice a9 al.length c9) al/\Below (w.heap.size+1) (w.alloc (.cells #[.slice ag ng cg,.slice (some ⟨b,Jh,none⟩) I.length cf] 26)) w4) (λi _=>al.length-(RowKit.intOf i).toNat)
    case atStart=>exact⟨0,y_,rfl,IN Xm.o,Jo,Ji.o,Xn.o⟩
    case round=>
     clear J Jc Jf Ja Jo Ji Xn Xm;obtain⟨j,hj,rfl,Z,Ja,Jz,J⟩:=hrel;have⟨U,Ji⟩:=h2 Z Jz;have Jf:w.heap.size+1<=wr.heap.size:=(by have:=J.size;simpa using this);have Jc:=aw J;have⟨x0,x1⟩:=jc J;clear Z;by_cases hjl:j<al.length
     ·obtain⟨_,_,Xh,-,-,Xt⟩:=Jz;simp only[Value.slice.injEq,true_and]at Xh;obtain⟨rfl,rfl⟩:=Xh;obtain⟨b9,o9,rfl,hC⟩:=Xt o_;have⟨c0,c1,c2⟩:=hC j hjl;have Yu:b9<wr.heap.size:=b_ c0;have HT:Hid (pre++al.take (j+1)=pre++al.take j++[al[j]]):=(by show _=_;rw[aU al j hjl];simp);have Yp:w.heap.size<wr.heap.size:=Jf;clear hC Xt;generalize al[j]=n at c0 c1 c2 HT;generalize pre++al.take j=done at U HT;by_cases h4:n.kd=4
      ·obtain⟨kd,vl,nm⟩:=n;simp only at c0 c1 c2 h4;subst h4;have Ya:=ah (HF.o.below (Jc.trans (r_.drew.mono Jc.size)));go_wp2_with fail;go_region_held3 (λW=>W.cell? ⟨w.heap.size,0,none⟩=some (.slice ag ng cg)/\W.cell? ⟨w.heap.size,1,none⟩=some (.slice (some ⟨b,Jh,none⟩) I.length cf)/\W.cell? ⟨b9,o9+j*3+2,none⟩=some (sV nm)) (go_simp)
        (first
        | (go_at_call 22;refine(jh I _ _ nm _ hl Ya).mono ?_;rintro e w5 ⟨rfl,Xc⟩;have Yk:∀b o,b<wr.heap.size->w5.cell? ⟨b,o,none⟩=wr.cell? ⟨b,o,none⟩:=(pB Xc).1))
       have Jd:Bl wr w5:=r_.drew.trans Xc;have⟨Ju,Jp⟩:=h2 (U.o.below Jd) (Ji.o.below Jd);have Xq:=J.trans (Jd.mono Jf);have Js:g5<w5.heap.size:=l_ Ja Jd.size;clear Xc Jd c0 c1 c2 x0 x1 Yk;cases hv:a_ I nm with
       | none=>
        have HC:Hid (cO I (pre++al.take (j+1))=cO I done):=(by show _=_;rw[HT.o];exact gm (λ_=>hv));rw[jg hv];clear hv;go_wp2;go_roundw
        case rel=>exact⟨j+1,o_,by go_num,by rw[HC.o];exact Ju,Js,Jp,Xq⟩
        case measure=>exact IF
       | some g=>
        have HC:Hid (cO I (pre++al.take (j+1))=cO I done++[g]):=(by show _=_;rw[HT.o];exact jB rfl hv);have Jy:g<I.length:=dE hv;obtain⟨⟨y0,t0⟩,f0⟩:(∃y,w5.cell? ⟨g5,g,none⟩=some y)/\w5.frozen? ⟨g5,g,none⟩=false:=⟨⟨_,(Ju.o.cell g Jy).1⟩,(Ju.o.cell g Jy).2⟩;rw[ie hv];clear hv;go_wp2;go_roundw
        case rel=>exact⟨j+1,o_,by go_num,by rw[HC.o];exact Ju.o.put g Jy,IN Js,Jp.o.set Xp _ _,Xq.setCell Ym _⟩
        case measure=>exact IF
      have HC:Hid (cO I (pre++al.take (j+1))=cO I done):=(by show _=_;rw[HT.o];exact gm (λh=>absurd h h4));go_wp2;go_roundw
      case rel=>exact⟨j+1,o_,by go_num,by rw[HC.o];exact U,Ja,Ji,J⟩
      case measure=>exact IF
     have HC:Hid (ct (body.take (q+1))=pre++al.take j):=(by show _=_;rw[HE.o,take_of_length_le o_]);clear Jz x0 x1;go_wp2;go_roundw
     case rel=>exact⟨q+1,o_,by go_num,by rw[HC.o];exact U,Ja,J⟩
     case measure=>exact IF
   have HC:Hid (ct (body.take q)=ct body):=(by show _=_;rw[take_of_length_le o_]);have Xe:Hid (gg (w.heap.size+1) wr (rV g5 I.length c5) I.length (cO I (ct body))):=(by have:=U.o;rw[HC.o]at this;exact this);have Xw:Hid (callsL I body=tD (cO I (ct body)) I.length):=rfl;generalize cO I (ct body)=L at Xe Xw;clear U HC;go_wp2_with fail;have Xa:=ah (pA wr _ n_);have Jn:Hid (gg (w.heap.size+1) (wr.alloc (.cells #[] 2)) (rV g5 I.length c5) I.length L):=Xe.o.below (ao _ _);have⟨M,hM⟩:=q_ wr.heap.size;have Yf:g5<M:=o_;have Xy:w.heap.size<=M:=o_;rw[<-hM]at Xa;go_loopw[12,13] (λo i w2=>∃j:Nat,j<=I.length/\i=V j/\cy M w2 o (tD L j)/\gg (w.heap.size+1) w2 (rV g5 I.length c5) I.length L/\M<=w2.heap.size/\Bl w w2) (λ_ i _=>I.length-(RowKit.intOf i).toNat)
   case atStart=>exact⟨0,y_,rfl,by rw[<-hM];exact Xa,Jn,by simp;omega,Jc.alloc Jc.size _⟩
   case round=>
    clear Xa Jn Xe J Jc Jf Ja hM;obtain⟨j,Yt,rfl,hO,Z,Yn,J⟩:=hrel;obtain⟨a6,c6,rfl⟩:=hO.shape;have⟨HO,U⟩:=h2 hO Z;have Ys:=Fg L j;clear hO;by_cases hjl:j<I.length
    ·have t0:=(Z.cell j hjl).1;clear Z;by_cases hm:j∈L
     ·rw[decide_eq_true hm]at t0;have HE:Hid (tD L (j+1)=tD L j++[j]):=Ff hm;clear hm;go_wp2_with(at_builtin;refine cQ rfl _ _ _ rfl M 2 i1 _ 1 8 underlying34 hj Yj Xx Ye rfl d_ _ (tD L j).length ((tD L j).map (λg:Nat=>Value.int .i64 (g:Int))) rfl (HO.o.below (ao _ _)) ⟨wr.heap.size,0,none⟩ 1 1 [V (j:Int)] rfl rfl (cell_one_new _ _ _) (by simp[oneCell']) o_ d_ H6 ?_)
      intro v1 w1 Jl Je Jm;have Xk:Hid (cy M w1 v1 (tD L (j+1))):=by show w1.ownsRow _ _ _ _ _ _;rw[HE.o];simpa using Jl
      have Jr:∀g,(Value.slice a6 (tD L j).length c6).ownBlock=some g->M<=g:=λg hg=>(ownsRow.lt HO g hg).1;have Jt:Hid (gg (w.heap.size+1) w1 (rV g5 I.length c5) I.length L):=An (U.o.below (ao _ _)) Je (λg hg h=>by simp only[ownBlock,J0]at hg;have:=Jr g h;omega);have Jc:Bl w w1:=(J.alloc J.size _).grown Je (by have:=J.size;simp;omega) (λg hg=>Ka (Jr g hg));have X_:M<=w1.heap.size:=(by have:=Je.size;simp at this;omega);obtain⟨a7,c7,rfl⟩:=Xk.o.shape;clear Jl Je Jm;go_wp2;go_roundw
      case rel=>exact⟨j+1,o_,by go_num,Xk,Jt,X_,Jc⟩
      case measure=>exact IF
     rw[decide_eq_false hm]at t0;have HE:Hid (tD L (j+1)=tD L j):=Hb hm;clear hm;go_wp2;go_roundw
     case rel=>exact⟨j+1,o_,by go_num,by rw[HE.o];exact HO,U,Yn,J⟩
     case measure=>exact IF
    obtain rfl:j=I.length:=(by omega);clear Z;go_wp2;go_ret;exact⟨_,rfl,by rw[Xw.o];exact cy.base HO Xy,J⟩
end
