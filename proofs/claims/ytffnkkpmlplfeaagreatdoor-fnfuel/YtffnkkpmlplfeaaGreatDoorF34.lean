import Derived.Test.YtffnkkpmlplfeaaGreatDoorF33
import Derived.Deep.LoopGhost
import Derived.Test.YtffnkkpmlplfeaaGreatDoorF30
namespace Go.Proofs.YtffnkkpmlplfeaaGreatDoor
open Go.Value Go.World List
open Go.Proofs.Tryz Go.RowKit
set_option linter.all false
set_option maxRecDepth 100000
set_option maxHeartbeats 0
variable[Inhabited Pick]
section
variable{w w':AT}{v:BY}{row:Option Nat}{B:Nat}{l:List Nat}
theorem ki(l:List Nat)(v:Value)(x:Nat)(w:World)(hl:l.length<=10000000)(hx:Ints w v (l.map (λg:Nat=>(g:Int)))):
  Calls prog 58 #[v,V (x:Int)] w λe w'=>e=rW (.bool (decide (x∈l)))/\Below w.heap.size w w':=by
 obtain⟨a,c,rfl,J⟩:=hx;rw[List.length_map]at*;have HC:Hid (0<l.length->∃b,a=some ⟨b,0,none⟩/\∀j (h:j<l.length),w.cell? ⟨b,j,none⟩=some (V (l[j]:Int))):=λh0=>by
  obtain⟨b,rfl,hq⟩:=J (by simpa using h0);refine⟨b,rfl,λj I=>?_⟩;rw[hq j (by simpa using I)];simp
 clear J;go_in;go_wp2;go_loopw[5] (λi wr=>∃k:Nat,k<=l.length/\i=V k/\(∀j (I:j<l.length),j<k->l[j]≠x)/\Bl w wr) (λi _=>l.length-(RowKit.intOf i).toNat)
 case atStart=>exact⟨0,y_,rfl,λj I h=>absurd h (Nat.not_lt_zero _),r_⟩
 case round=>
  obtain⟨k,hk,rfl,hn,U⟩:=hrel;have HN:=ah hn;clear hn;by_cases hlt:k<l.length
  ·obtain⟨b,rfl,J⟩:=HC.out o_;have Z:=(U.cell (p:=⟨b,k,none⟩) (b_ (J k hlt))).trans (J k hlt);by_cases hs:l[k]=x
   ·have Y:Hid (decide (x∈l)=true):=by show _=_;rw[decide_eq_true_iff,<-hs];exact g_ hlt
    rw[hs]at Z;clear J hs;go_wp2;go_ret;exact⟨aj Y.out.symm,U⟩
   ·have HS:Hid (∀j (I:j<l.length),j<k+1->l[j]≠x):=λj I h=>by
     by_cases e:j=k
     ·subst e;exact hs
     ·exact HN.out j I o_
    have b1:((l[k]:Int) == (x:Int))=false:=by
     have:¬(l[k]:Int)=(x:Int):=o_;simpa using this
    clear J;generalize l[k]=y at Z b1 hs;go_wp2;go_roundw
    case rel=>exact⟨k+1,o_,by go_num,HS,U⟩
    case measure=>simp[RowKit.intOf];omega
  ·have Y:Hid (decide (x∈l)=false):=by
    show _=_;rw[decide_eq_false_iff_not];intro hm;obtain⟨j,I,he⟩:=List.getElem_of_mem hm;exact HN.out j I o_ he
   go_wp2;go_ret;exact⟨aj Y.out.symm,U⟩
def Ints.grown{l:List Int}(h:Ints w v l)(Y:w.grownBy w' row)(Z:∀g,v.ownBlock=some g->row≠some g):Ints w' v l:=by
 obtain⟨a,U,rfl,h3⟩:=h;refine⟨a,U,rfl,λh0=>?_⟩;obtain⟨b,rfl,I⟩:=h3 h0;refine⟨b,rfl,λj hj=>?_⟩;have J:=b_ (I j hj);exact(c_ (a:=⟨b,j,none⟩) (Y.block b J (λe=>Z b rfl e.symm))).trans (I j hj)
def bR.grown(h:bR B w v l)(hg:w.grownBy w' row)(hne:∀g,v.ownBlock=some g->row≠some g):bR B w' v l:=Di h hg hne
def bR.cap(h:bR B w v l):∀a n c,v=.slice a n c->n<=c:=by
 intro a n c I;rcases h.2 with⟨rfl,Y⟩|⟨g,cap,J,rfl,_,_,U,_⟩
 ·simp only[Value.slice.injEq]at I;omega
 ·simp only[Value.slice.injEq]at I;omega
def zA(b n c:Nat)(J:1<=n)(h3:n<=c):∃ad:Addr,(∀w:AT,(Instr.slice 26 (rV b n c) (some (V 1)) none none).run prog w=.ok (.slice (some ad) (n-1) (c-1)) w)/\(∀j,j<n-1->ad.add j=⟨b,j+1,none⟩):=by
 by_cases hc:c=1
 ·refine⟨⟨b,0,none⟩,λw=>?_,λj hj=>by omega⟩;have h:prog.elem 26=2:=k_
  have I:(sizeOf 2).run prog w=.ok 1 w:=k_;rw[run_slice_l w 26 (some ⟨b,0,none⟩) n c (by rw[h];exact underlying26) .i64 _ o_ o_,h,I];simp[Result.andThen,sliced,hc]
 ·refine⟨⟨b,1,none⟩,λw=>?_,λj hj=>?_⟩
  ·have h:prog.elem 26=2:=k_
   have I:(sizeOf 2).run prog w=.ok 1 w:=k_;rw[run_slice_l w 26 (some ⟨b,0,none⟩) n c (by rw[h];exact underlying26) .i64 _ o_ o_,h,I];simp[Result.andThen,sliced,hc,Addr.add]
  ·rw[em];simp[Nat.add_comm]
theorem qV(t:Tr)(vg vf Jw:Value)(f:Nat)(w:World)(hf:f<t.funcs.length)(hl:t.funcs.length<=1000)(Zg:∀g∈t.funcs,eX g)(I:∃a n c,vg=.slice a n c)(Zh:bC w vf t.funcs)(Zf:Ints w Jw [(f:Int)])(Jx:∀a n c,Jw=.slice a n c->n<=c):
    Calls prog 57 #[.agg #[vg,vf],Jw] w λe w'=>∃v out,e=rW v/\bR w.heap.size w' v out/\(∀g,g∈out↔kQ t f g)/\out.length<=1000/\Below w.heap.size w w':=by
  obtain⟨ag,ng,cg,rfl⟩:=I;have Yx:Hid (bC w vf t.funcs):=Zh;obtain⟨af,cf,rfl,-⟩:=Zh;have Zs:Hid (∀g∈t.funcs,eX g):=Zg;have Yg:Hid (∀a n c,Jw=.slice a n c->n<=c):=Jx;have Za:Hid (Ints w Jw [(f:Int)]):=Zf;obtain⟨Vd,Zz,rfl,Ye⟩:=Zf;obtain⟨bf,rfl,Yi⟩:=Ye i_;have Zl:bf<w.heap.size:=b_ (Yi 0 i_);obtain⟨i1,hj,Xt,Xd,Xh⟩:=info_parts jN;obtain⟨n,hn⟩:=q_ t.funcs.length;have HN:Hid (n=t.funcs.length):=hn;rw[<-hn]at Yx hf hl⊢;clear hn Zg Jx Ye Yi;go_in;go_wp2_with fail;have Zd:Hid (bR (w.heap.size+1) ((w.alloc (.cells #[.slice ag ng cg,.slice af n cf] 34)).alloc (.cells #[] 2)) (.slice (some ⟨w.heap.size+1,0,none⟩) 0 0) []):=by
    have:=mu (w.alloc (.cells #[.slice ag ng cg,.slice af n cf] 34)) (w.heap.size+1) i_
    rw[World.size_alloc]at this;exact this
  have Xr:Below (w.heap.size+1) (w.alloc (.cells #[.slice ag ng cg,.slice af n cf] 34)) ((w.alloc (.cells #[.slice ag ng cg,.slice af n cf] 34)).alloc (.cells #[] 2)):=r_.alloc i_ _;go_loopg[5,6] (n+1) (λgk ov wv wr=>∃(out Jc:List Nat),gk=(n-out.length)+Jc.length/\gk<=n+1/\RInv t f out Jc/\bR (w.heap.size+1) wr ov out/\Ints wr wv (Jc.map (λg:Nat=>(g:Int)))/\(∀a n c,wv=.slice a n c->n<=c)/\(∀g,wv.ownBlock=some g->ov.ownBlock≠some g)/\Below (w.heap.size+1) (w.alloc (.cells #[.slice ag ng cg,.slice af n cf] 34)) wr)
  case atStart=>exact⟨[],[f],i_,n_,RInv.start t f,Zd,Za.out.below (ay Xr),Yg,λg I=>by simp only[Value.ownBlock,Option.some.injEq]at I;simp only[Value.ownBlock,ne_eq,Option.some.injEq];omega,Xr⟩
  case round=>
    clear Zd Xr Za Yg Zl;obtain⟨out,Jc,Zu,Z_,hI,hO,hW,Jy,Xc,hB⟩:=hrel;have Xl:=ay hB;obtain⟨x0,x1⟩:=iy hB;have Yf:w.heap.size+1<=wr.heap.size:=by have:=hB.size;simpa using this
    obtain⟨Y,Z,rfl⟩:=hO.shape;have HO:Hid (bR (w.heap.size+1) wr (.slice Y out.length Z) out):=hO;have Zn:=hI.len;rw[<-HN.out]at Zn;cases Jc with
    | nil=>
      have HE:Hid (∀g,g∈out↔kQ t f g):=λg=>hI.all g;obtain⟨a6,c6,rfl,-⟩:=hW;simp only[List.map_nil,l_n];clear hI hO Jy Xc x0 x1;go_wp2;go_ret;exact⟨_,out,rfl,bR.base HO.out o_,HE,o_,Xl⟩
    | cons x rest=>
      have Zp:x<n:=by have:=hI.lt (by rw[<-HN.out];exact hf) x i_;rw[HN.out];exact this
      have HM:Hid (fH t f x [] out rest):=hI.take i_ (λy=>by simp);obtain⟨a6,c6,rfl,Xq⟩:=hW;simp only[List.map_cons,l_c,List.length_map]at Xq Jy Xc Zu⊢;obtain⟨b6,rfl,Xn⟩:=Xq o_;have q6:wr.cell? ⟨b6,0,none⟩=some (V (x:Int)):=by have:=Xn 0 i_;simpa using this
      have Ys:b6<wr.heap.size:=b_ q6;have Zr:rest.length+1<=c6:=Jy _ _ _ rfl;have Yr:Hid (∀j,j<rest.length->∀(h:j<rest.length),wr.cell? ⟨b6,j+1,none⟩=some (V (rest[j]:Int))):=λj hj h=>by
        have:=Xn (j+1) o_
        simpa using this
      have Va:rest.length<=2000:=o_;obtain⟨ad,Zo,Xf⟩:=zA b6 (rest.length+1) c6 o_ Zr;simp only[Nat.add_sub_cancel]at Zo Xf;have Ze:Hid (∀j,j<rest.length->ad.add j=⟨b6,j+1,none⟩):=Xf;have Xg:x<t.funcs.length:=by rw[<-HN.out];exact Zp
      have Zx:Bl wr wr.drew:=r_.drew;have Xz:Hid (Calls prog 92 #[.agg #[.slice ag ng cg,.slice af n cf],V (x:Int)] wr.drew λe w'=>∃v,e=rW v/\bR wr.drew.heap.size w' v (callsL t.funcs t.funcs[x].body)/\Bl wr.drew w'):=qU t.funcs _ _ x wr.drew Xg (by rw[<-HN.out];omega) (Zs.out _ (g_ Xg)) ⟨_,_,_,rfl⟩ (Yx.out.below (Xl.drew));obtain⟨L,hL⟩:=q_ (callsL t.funcs t.funcs[x].body);rw[<-hL]at Xz;have HL:Hid (∀y,eH t x y↔y∈L):=λy=>by rw[hL];exact eH.mem Xg
      have Vb:L.length<=1000:=by
        have h1:L.Nodup:=by
          rw[hL];unfold callsL;exact List.Pairwise.filter _ (List.nodup_range)
        have h2:=jw n h1 (λy hy=>by have:=((HL.out y).2 hy).lt;rw[HN.out];exact this);omega
      have Yk:w.heap.size<wr.heap.size:=o_
      clear hI hO Xq Xn Xf hL Jy Xc;go_wp2_with fail;go_region_held3 (λW=>W.cell? ⟨w.heap.size,0,none⟩=some (.slice ag ng cg)/\W.cell? ⟨w.heap.size,1,none⟩=some (.slice af n cf)/\W.cell? ⟨b6,0,none⟩=some (V (x:Int))) (go_simp)
        (first
        | ((with_reducible refine Calls.mono Xz.out ?_);rintro e w2 ⟨vm,rfl,Xk,Jq⟩;have e0:w2.cell? ⟨w.heap.size,0,none⟩=some (.slice ag ng cg):=(Jq.cell (p:=⟨w.heap.size,0,none⟩) Yk).trans x0;have e1:w2.cell? ⟨w.heap.size,1,none⟩=some (.slice af n cf):=(Jq.cell (p:=⟨w.heap.size,1,none⟩) Yk).trans x1;have e2:w2.cell? ⟨b6,0,none⟩=some (.int .i64 (x:Int)):=(Jq.cell (p:=⟨b6,0,none⟩) Ys).trans q6))
      have Jd:Bl wr w2:=Zx.trans Jq;have Jl:Hid (bR wr.heap.size w2 vm L):=Xk;obtain⟨am,cm,rfl⟩:=Xk.shape;have Yj:Hid (bR (w.heap.size+1) w2 (.slice Y out.length Z) out):=HO.out.below Jd;have Yn:=hB.trans (Jd.mono Yf);have Xu:Hid (∀g,(Value.slice Y out.length Z).ownBlock=some g->g<wr.heap.size):=λg I=>(World.ownsRow.lt HO.out g I).2;have Zj:wr.heap.size<=w2.heap.size:=Jd.size;have Js:Hid (∀j u,(rest.map (λg:Nat=>Value.int .i64 (g:Int)))[j]? =some u->(w2.alloc (.cells #[] 2)).cell? (ad.add j)=some u):=λj u hu=>by
        have Jh:j<rest.length:=by
          have:=(List.getElem?_eq_some_iff.1 hu).1
          simpa using this
        rw[Ze.out j Jh,World.cell?_alloc_lt _ _ ⟨b6,j+1,none⟩ (by show b6<_;omega),Jd.cell (p:=⟨b6,j+1,none⟩) Ys,Yr.out j Jh Jh,<-hu];simp[Jh]
      have Zb:Hid (bR w2.heap.size (w2.alloc (.cells #[] 2)) (rV w2.heap.size 0 0) []):=mu w2 _ n_;clear Xk Jq Jd e0 e1 e2 x0 x1 q6 Yr Ze Xz HO;go_wp2_with(at_builtin;refine cD rfl _ _ _ rfl w2.heap.size 2 i1 _ 1 8 underlying26 hj Xt Xd Xh rfl d_ _ 0 [] rfl Zb.out ad rest.length (c6-1) (rest.map (λg:Nat=>Value.int .i64 (g:Int))) rfl i_ Js.out (by intro u hu;simp at hu;obtain⟨y,_,rfl⟩:=hu;rfl) o_ d_ i_ ?_)
      intro v9 w3 Yy Zc Zi;have J_:Bl w2 w3:=((Below.refl w2.heap.size w2).alloc n_ _).grown Zc i_ (λg I=>by simp only[Value.ownBlock,Option.some.injEq]at I;omega);have Jt:bR w2.heap.size w3 v9 rest:=by
        show World.ownsRow _ _ _ _ _ _ _;simpa using Yy
      have Ya:Hid (bR (w.heap.size+1) w3 v9 rest):=bR.base Jt o_;have Yd:Hid (bR (w.heap.size+1) w3 (.slice Y out.length Z) out):=Yj.out.below J_;have Yz:Hid (Ints w3 (.slice am L.length cm) (L.map (λg:Nat=>(g:Int)))):=(Jl.out.below J_).ints;have Jj:Hid (∀g,v9.ownBlock=some g->(Value.slice Y out.length Z).ownBlock≠some g):=λg I h=>by
        have h1:=(World.ownsRow.lt Jt g I).1;have h2:=Xu.out g h;omega
      have Je:Hid (∀g,(Value.slice am L.length cm).ownBlock=some g->(Value.slice Y out.length Z).ownBlock≠some g/\v9.ownBlock≠some g):=λg I=>by
        have h1:=World.ownsRow.lt Jl.out g I;refine⟨λh=>?_,λh=>?_⟩
        · have h2:=Xu.out g h;omega
        · have h2:=(World.ownsRow.lt Jt g h).1;omega
      have Yh:=Yn.trans (J_.mono o_);obtain⟨a9,c9,rfl⟩:=Jt.shape;clear Yy Zc Zi J_ Jt Yn Jl Yj Zb Js hB Xu;go_wp2;go_loopw[5,6,8] (λov wv i w4=>∃(j:Nat) (J U:List Nat),j<=L.length/\i=V j/\fH t f x (L.take j) J U/\bR (w.heap.size+1) w4 ov J/\bR (w.heap.size+1) w4 wv U/\Ints w4 (.slice am L.length cm) (L.map (λg:Nat=>(g:Int)))/\(∀g,wv.ownBlock=some g->ov.ownBlock≠some g)/\(∀g,(Value.slice am L.length cm).ownBlock=some g->ov.ownBlock≠some g/\wv.ownBlock≠some g)/\J.length+rest.length=out.length+U.length/\Below (w.heap.size+1) (w.alloc (.cells #[.slice ag ng cg,.slice af n cf] 34)) w4) (λ_ _ i _=>L.length-(RowKit.intOf i).toNat)
      case atStart=>exact⟨0,out,rest,y_,rfl,by simpa using HM.out,Yd,Ya,Yz,Jj,Je,rfl,Yh⟩
      case round=>
        clear HM Yd Ya Yz Jj Je Yh Zj Yf Xl;obtain⟨j,J,U,Ve,rfl,hM,hO,hW,hI,Yt,Yp,Zk,hB⟩:=hrel;obtain⟨Y,Z,rfl⟩:=hO.shape;obtain⟨a6,c7,rfl⟩:=hW.shape;have HM:Hid (fH t f x (L.take j) J U):=hM;have HO:Hid (bR (w.heap.size+1) wr (.slice Y J.length Z) J):=hO;have HW:Hid (bR (w.heap.size+1) wr (.slice a6 U.length c7) U):=hW;have HI:Hid (Ints wr (.slice am L.length cm) (L.map (λg:Nat=>(g:Int)))):=hI;have Jj:Hid (∀g,(Value.slice a6 U.length c7).ownBlock=some g->(Value.slice Y J.length Z).ownBlock≠some g):=Yt;have Je:Hid (∀g,(Value.slice am L.length cm).ownBlock=some g->(Value.slice Y J.length Z).ownBlock≠some g/\(Value.slice a6 U.length c7).ownBlock≠some g):=Yp;have X_:=hM.len;rw[<-HN.out]at X_;have Yc:w.heap.size+1<=wr.heap.size:=by have:=hB.size;simpa using this
        have Vc:U.length<=5000:=o_;clear hM hO hW Yt Yp;by_cases Jh:j<L.length
        · obtain⟨_,_,Yb,Xj⟩:=hI
          simp only[Value.slice.injEq,List.length_map,true_and]at Yb Xj;obtain⟨rfl,rfl⟩:=Yb;obtain⟨bm,rfl,Yv⟩:=Xj o_;have d0:wr.cell? ⟨bm,j,none⟩=some (V (L[j]:Int)):=by have:=Yv j Jh;simpa using this
          have Xx:bm<wr.heap.size:=b_ d0;have Xs:Hid (L.take (j+1)=L.take j++[L[j]]):=aR L j Jh;have Y_:Hid (eH t x L[j]):=(HL.out _).2 (g_ Jh);clear Yv Xj;generalize L[j]=y at d0 Xs Y_;have Yw:Hid (Calls prog 58 #[.slice Y J.length Z,V (y:Int)] wr λe w'=>e=rW (.bool (decide (y∈J)))/\Bl wr w'):=ki J _ y wr o_ HO.out.ints;go_wp2_with fail;refine Yw.out.mono ?_;rintro e w5 ⟨rfl,Jk⟩;have d5:=(Jk.cell (p:=⟨bm,j,none⟩) Xx).trans d0;have Jz:Hid (bR (w.heap.size+1) w5 (.slice Y J.length Z) J):=HO.out.below Jk;have Xb:Hid (bR (w.heap.size+1) w5 (.slice a6 U.length c7) U):=HW.out.below Jk;have Xy:Hid (Ints w5 (rV bm L.length cm) (L.map (λg:Nat=>(g:Int)))):=HI.out.below Jk;have Xp:=hB.trans (Jk.mono Yc);have Jo:bm<w5.heap.size:=l_ Xx Jk.size;have Xv:w.heap.size+1<=w5.heap.size:=t_ Yc Jk.size;clear Jk Yw d0 HO HW HI hB Xx;by_cases hy:y∈J
          · rw[decide_eq_true hy]
            have Jl:Hid (fH t f x (L.take (j+1)) J U):=by show fH _ _ _ _ _ _;rw[Xs.out];exact HM.out.old hy
            clear hy;go_wp2;go_roundw
            case rel=>exact⟨j+1,J,U,o_,by go_num,Jl,Jz,Xb,Xy,Jj,Je,Zk,Xp⟩
            case measure=>simp[RowKit.intOf];omega
          · rw[decide_eq_false hy]
            have Jl:Hid (fH t f x (L.take (j+1)) (J++[y]) (U++[y])):=by show fH _ _ _ _ _ _;rw[Xs.out];exact HM.out.new hy Y_
            clear hy;go_wp2_with(at_builtin;refine cD rfl _ _ _ rfl (w.heap.size+1) 2 i1 _ 1 8 underlying26 hj Xt Xd Xh rfl d_ _ J.length (J.map (λg:Nat=>Value.int .i64 (g:Int))) rfl (Jz.out.below (au _ _)) ⟨w5.heap.size,0,none⟩ 1 1 [V (y:Int)] rfl rfl (cell_one_new _ _ _) (by simp[Value.oneCell']) o_ d_ (by simp;omega) ?_)
            intro v6 w6 Yq Jm Xw;have Ju:Hid (bR (w.heap.size+1) w6 v6 (J++[y])):=by
              show World.ownsRow _ _ _ _ _ _ _;simpa using Yq
            have Ji:Bl w5 (w5.alloc (.cells #[V (y:Int)] 2)):=au _ _;have Xm:Hid (bR (w.heap.size+1) w6 (.slice a6 U.length c7) U):=(Xb.out.below Ji).grown Jm (λg I=>Jj.out g I);have Yl:Hid (Ints w6 (rV bm L.length cm) (L.map (λg:Nat=>(g:Int)))):=(Xy.out.below Ji).grown Jm (λg I=>(Je.out g I).1);have d6:w6.cell? ⟨bm,j,none⟩=some (V (y:Int)):=(c_ (a:=⟨bm,j,none⟩) (Jm.block bm (by simp;omega) (λe=>(Je.out bm rfl).1 e.symm))).trans ((Ji.cell (p:=⟨bm,j,none⟩) Jo).trans d5);have Yo:=(Xp.alloc Xv (.cells #[V (y:Int)] 2)).grown Jm (by simp;omega) (λg I=>(World.ownsRow.lt Jz.out g I).1);have Zt:w5.heap.size+1<=w6.heap.size:=by have:=Jm.size;simpa using this
            have Yu:Hid (∀g,(Value.slice a6 U.length c7).ownBlock=some g->g<w5.heap.size):=λg I=>(World.ownsRow.lt Xb.out g I).2;have Jf:Hid (∀g,(Value.slice a6 U.length c7).ownBlock=some g->v6.ownBlock≠some g):=λg I h=>by
              rcases Xw g h with h1|h1
              · exact Jj.out g I h1
              · have:=Yu.out g I;omega
            have Jg:Hid (bm<w5.heap.size/\v6.ownBlock≠some bm):=⟨Jo,λh=>by
              rcases Xw bm h with h1|h1
              · exact(Je.out bm rfl).1 h1
              · omega⟩
            have Xi:Hid (∀g,v6.ownBlock=some g->g<w6.heap.size):=λg I=>(World.ownsRow.lt Ju.out g I).2;obtain⟨a8,c8,rfl⟩:=Ju.out.shape;have Jp:(J++[y]).length=J.length+1:=i_
            rw[Jp]at Ju Jf Jg Xi⊢;clear Yq Jm Xw Ji Jz Xb Xy d5 Xp Jj HM Jp;go_wp2_with(at_builtin;refine cD rfl _ _ _ rfl (w.heap.size+1) 2 i1 _ 1 8 underlying26 hj Xt Xd Xh rfl d_ _ U.length (U.map (λg:Nat=>Value.int .i64 (g:Int))) rfl (Xm.out.below (au _ _)) ⟨w6.heap.size,0,none⟩ 1 1 [V (y:Int)] rfl rfl (cell_one_new _ _ _) (by simp[Value.oneCell']) o_ d_ (by simp;omega) ?_)
            intro v7 w7 Ym Xa Xo;have Xe:Hid (bR (w.heap.size+1) w7 v7 (U++[y])):=by
              show World.ownsRow _ _ _ _ _ _ _;simpa using Ym
            have Ji:Bl w6 (w6.alloc (.cells #[V (y:Int)] 2)):=au _ _;have Zq:Hid (bR (w.heap.size+1) w7 (.slice a8 (J.length+1) c8) (J++[y])):=(Ju.out.below Ji).grown Xa (λg I h=>Jf.out g h I);have Zm:Hid (Ints w7 (rV bm L.length cm) (L.map (λg:Nat=>(g:Int)))):=(Yl.out.below Ji).grown Xa (λg I=>(Je.out g I).2);have Zv:=(Yo.alloc o_ (.cells #[V (y:Int)] 2)).grown Xa (by simp;omega) (λg I=>(World.ownsRow.lt Xm.out g I).1);have Jv:Hid (∀g,v7.ownBlock=some g->(Value.slice a8 (J.length+1) c8).ownBlock≠some g):=λg I h=>by
              rcases Xo g I with h1|h1
              · exact Jf.out g h1 h
              · have:=Xi.out g h;omega
            have Jn:Hid (∀g,(Value.slice (some ⟨bm,0,none⟩) L.length cm).ownBlock=some g->(Value.slice a8 (J.length+1) c8).ownBlock≠some g/\v7.ownBlock≠some g):=λg I=>by
              simp only[Value.ownBlock,Option.some.injEq]at I;subst I;refine⟨Jg.out.2,λh=>?_⟩;rcases Xo _ h with h1|h1
              · exact(Je.out _ rfl).2 h1
              · have:=Jg.out.1;omega
            obtain⟨a7,Zy,rfl⟩:=Xe.out.shape;have Jr:(U++[y]).length=U.length+1:=i_;rw[Jr]at Xe Jv Jn⊢;clear Ym Xa Xo Ji Ju Xm Yl d6 Yo Jf Jg Yu Xi Je Jr;go_wp2;go_roundw
            case rel=>exact⟨j+1,J++[y],U++[y],o_,by go_num,Jl,by simpa using Zq.out,by simpa using Xe.out,Zm,by simpa using Jv.out,by simpa using Jn.out,by simp;omega,Zv⟩
            case measure=>simp[RowKit.intOf];omega
        · have Zw:Hid (RInv t f J U):=by
            have h1:=HM.out;rw[List.take_of_length_le o_]at h1;exact h1.done (λy hy=>(HL.out y).1 hy)
          clear hI;go_wp2;go_roundg ((n-J.length)+U.length)
          case measure=>omega
          case rel=>exact⟨J,U,rfl,o_,Zw,HO,HW.out.ints,HW.out.cap,Jj,hB⟩
end
section
variable{t:Tr}
def wA(t:Tr):Int×Int×Int:=if (bP t).1≠0 then bP t else bodiesE t 0 t.funcs
def wB(h:(bP t).1=0):bP t=(0,-1,-1):=by
 by_cases ht:(fX t).1=0
 ·rw[gN ht]at h⊢;simp only at h;rw[h]
 ·rw[jW ht]at h;exact absurd h ht
def zB{i:Nat}{f:Fu}(h:(cZ t i f).1=0):cZ t i f=(0,-1,-1):=by
 unfold cZ at h⊢;split
 ·rename_i h1;rw[if_pos h1]at h;simp at h
 ·rename_i h1;rw[if_neg h1]at h;split
  ·rename_i h2;rw[if_pos h2]at h;exact absurd h h2
  ·rfl
def od(h:df t=true)(I:(wA t).1≠0):aU t=wA t:=by
 unfold wA at I⊢;by_cases hn:(bP t).1=0
 ·rw[if_neg (by simp[hn])]at I⊢;exact jv h hn I
 ·rw[if_pos hn];exact ig h hn
def gh(h:(bP t).1=0):∃m,bO t.funcs di=some m:=by
 by_cases ht:(fX t).1=0
 ·rw[gN ht]at h;exact nj h
 ·rw[jW ht]at h;exact absurd h ht
structure zC (t:Tr) (k:Nat) (r:Int×Int×Int):Prop where
 bad:r.1≠0->wA t=r
 ok:r.1=0->(bP t).1=0/\r=(0,-1,-1)/\bodiesE t 0 t.funcs=bodiesE t k (t.funcs.drop k)
def zC.start(t:Tr):zC t 0 (bP t):=by
 refine⟨λh=>?_,λh=>⟨h,wB h,i_⟩⟩;unfold wA;rw[if_pos h]
def zC.next{k:Nat}{r:Int×Int×Int}(h:zC t k r)(U:r.1=0)(J:k<t.funcs.length):zC t (k+1) (cZ t k t.funcs[k]):=by
 obtain⟨I,h2,h3⟩:=h.ok U;rw[dC _ _ J,bodiesE]at h3;refine⟨λhb=>?_,λhb=>⟨I,zB hb,?_⟩⟩
 ·unfold wA;rw[if_neg (by simp[I]),h3,if_pos hb]
 ·rw[h3,if_neg (by simp[hb])]
def zC.all{r:Int×Int×Int}(h:zC t t.funcs.length r)(J:r.1=0):(bP t).1=0/\(bodiesE t 0 t.funcs).1=0/\r=(0,-1,-1):=by
 obtain⟨I,h2,h3⟩:=h.ok J;rw[drop_length]at h3;exact⟨I,by rw[h3];rfl,h2⟩
def zD{B:Nat}{w w':AT}{x y z:BY}(h:DO w B 0 x/\DO w B 1 y/\DO w B 2 z)(U:∀o,D4 w B o)(J:Bl w w'):
  (DO w' B 0 x/\DO w' B 1 y/\DO w' B 2 z)/\∀o,D4 w' B o:=by
 have I:=b_ h.1;exact⟨⟨(J.cell (p:=⟨B,0,none⟩) I).trans h.1,(J.cell (p:=⟨B,1,none⟩) I).trans h.2.1,(J.cell (p:=⟨B,2,none⟩) I).trans h.2.2⟩,λo=>(J.frozen (p:=⟨B,o,none⟩) I).trans (U o)⟩
theorem kE(Ym:∀n,pt n)(t:Tr)(vg vf:Value)(w:World)(hs:eZ t)(hw:xQ t)(hg:cK w vg t.globals)(hf:bC w vf t.funcs):
  Calls prog 24 #[.agg #[vg,vf]] w λe w'=>e=rW (xY (aU t))/\Below w.heap.size w w':=by
 have Yv:=ah Ym;obtain⟨Jd,Jl⟩:=q_ (aU t);rw[<-Jl];have Je:=ah Jl;have HG:=ah hg;have HF:=ah hf;have HS:=ah hs;have HW:=ah hw;obtain⟨ag,cg,rfl,-⟩:=hg;obtain⟨af,cf,rfl,-⟩:=hf;obtain⟨W1,Jz⟩:=q_ ((w.alloc (.cells #[.slice ag t.globals.length cg,.slice af t.funcs.length cf] 34)).alloc (.cells #[V 0,V 0,V 0] 52));have Jf:Hid (∀W,Below (w.heap.size+2) W1 W->(W.cell? ⟨w.heap.size,0,none⟩=some (.slice ag t.globals.length cg)/\W.cell? ⟨w.heap.size,1,none⟩=some (.slice af t.funcs.length cf))/\(W.cell? ⟨w.heap.size+1,0,none⟩=some (V 0)/\W.cell? ⟨w.heap.size+1,1,none⟩=some (V 0)/\W.cell? ⟨w.heap.size+1,2,none⟩=some (V 0))/\(∀o,W.frozen? ⟨w.heap.size+1,o,none⟩=false)/\Bl w W/\w.heap.size+2<=W.heap.size):=lX Jz;have Yy:W1.heap.size=w.heap.size+2:=by rw[Jz];simp
 obtain⟨-,-,-,Xb,-⟩:=Jf W1 r_;clear Jl Ym hs hw;go_in;go_wp2_with fail;rw[<-Jz];clear Jz;refine(vX t _ _ W1 HS (HG.out.below Xb) (HF.out.below Xb)).mono ?_;rintro e w2 ⟨rfl,Yc⟩;have Xk:Below (w.heap.size+2) W1 w2:=Yc.mono o_;clear Yc Yy Xb;obtain⟨⟨x0,x1⟩,⟨U,Y,Z⟩,I,J,Jc⟩:=Jf w2 Xk;have z0:=I 0;have z1:=I 1;have z2:=I 2;cases htb:df t with
 | false=>
  have HE:Hid (Jd=(1,-1,-1)):=Je.out.trans (lC htb);clear htb I;go_wp2_with fail;obtain⟨t0,t1,t2⟩:=set3 (u0:=V 1) (u1:=V (-1)) (u2:=V (-1)) U Y Z;refine bodyPost_ret (v:=.agg #[V 1,V (-1),V (-1)]) (by simp[results,results24,go_sem,t0,t1,t2]) rfl ⟨aG (by rw[HE.out];rfl),?_⟩;exact((J.setCell (p:=⟨w.heap.size+1,0,none⟩) i_ _).setCell (p:=⟨w.heap.size+1,1,none⟩) i_ _).setCell (p:=⟨w.heap.size+1,2,none⟩) i_ _
 | true=>
  have HB:=ah htb;have Jx:=F4 htb HS HW;have Xv:=ah Jx;have Zf:=Jx.fl;have Ze:=Jx.gl;clear htb Jx I U Y Z z0 z1 z2;go_wp2_with fail;refine(qB t _ _ w2 o_ o_ (HG.out.below J) (HF.out.below J)).mono ?_;rintro e w3 ⟨rfl,Yd⟩;have Xh:Below (w.heap.size+2) W1 w3:=Xk.trans (Yd.mono Jc);clear x0 x1 J Yd Jc Xk;obtain⟨⟨x0,x1⟩,-,-,J,Jc⟩:=Jf w3 Xh;obtain⟨n0,n1,n2,hn⟩:∃n0 n1 n2,bP t=(n0,n1,n2):=⟨_,_,_,rfl⟩;have Jg:Hid (zC t 0 (n0,n1,n2)):=by rw[<-hn];exact zC.start t
  rw[hn,show xY (n0,n1,n2)=.agg #[V n0,V n1,V n2]from rfl];clear hn;go_wp2_with fail;obtain⟨B3,Jh⟩:=q_ w3.heap.size;have Yf:Hid (Below (w.heap.size+2) W1 (w3.alloc (.cells #[V n0,V n1,V n2] 52))):=Xh.alloc Jc _;have Xd:Hid (((w3.alloc (.cells #[V n0,V n1,V n2] 52)).cell? ⟨B3,0,none⟩=some (V n0)/\(w3.alloc (.cells #[V n0,V n1,V n2] 52)).cell? ⟨B3,1,none⟩=some (V n1)/\(w3.alloc (.cells #[V n0,V n1,V n2] 52)).cell? ⟨B3,2,none⟩=some (V n2))/\∀o,(w3.alloc (.cells #[V n0,V n1,V n2] 52)).frozen? ⟨B3,o,none⟩=false):=by
   rw[Jh];exact⟨⟨i_,i_,i_⟩,λo=>by simp⟩
  have Xq:w.heap.size+2<=B3:=o_;rw[<-Jh];clear Jh x0 x1 J Jc Xh;go_loopw[4] (λi wr=>∃(k:Nat) (U Y Z:Int),k<=t.funcs.length/\i=V k/\(wr.cell? ⟨B3,0,none⟩=some (V U)/\wr.cell? ⟨B3,1,none⟩=some (V Y)/\wr.cell? ⟨B3,2,none⟩=some (V Z))/\(∀o,wr.frozen? ⟨B3,o,none⟩=false)/\zC t k (U,Y,Z)/\Below (w.heap.size+2) W1 wr) (λi _=>t.funcs.length-(RowKit.intOf i).toNat)
  case atStart=>exact⟨0,n0,n1,n2,y_,rfl,Xd.out.1,Xd.out.2,Jg,Yf⟩
  case round=>
   clear Yf Xd Jg;obtain⟨k,q0,q1,q2,hk,rfl,⟨b0,b1,b2⟩,bz,Xx,hB⟩:=hrel;have Jg:=ah Xx;have Xi:=ah bz;have Xt:=bz 0;have Xz:=bz 1;have Xu:=bz 2;have Xo:B3<wr.heap.size:=b_ b0;obtain⟨⟨x0,x1⟩,⟨U,Y,Z⟩,I,J,Jc⟩:=Jf wr hB;clear Xx bz;by_cases hlt:k<t.funcs.length
   ·by_cases hq:q0=0
    ·subst hq;have X_:Hid (zC t (k+1) (cZ t k t.funcs[k])):=Jg.out.next rfl hlt;have Xm:Hid (Calls prog 56 #[.agg #[.slice ag t.globals.length cg,.slice af t.funcs.length cf],V (k:Int)] wr λe w'=>e=rW (xY (cZ t k t.funcs[k]))/\Bl wr w'):=sH Yv t _ _ k wr hlt o_ o_ (Xv.out.f _ (g_ hlt)) (HG.out.below J) (HF.out.below J);obtain⟨m0,m1,m2,hm⟩:∃m0 m1 m2,cZ t k t.funcs[k]=(m0,m1,m2):=⟨_,_,_,rfl⟩;rw[hm]at X_ Xm;have Jv:Hid (Calls prog 56 #[.agg #[.slice ag t.globals.length cg,.slice af t.funcs.length cf],V (k:Int)] wr λe w'=>e=rW (.agg #[V m0,V m1,V m2])/\Bl wr w'):=Xm;clear hm Xm U Y Z I;go_wp2_with fail;refine Jv.out.mono ?_;rintro e w4 ⟨rfl,Jm⟩;obtain⟨⟨c0,c1,c2⟩,cz⟩:=zD ⟨b0,b1,b2⟩ Xi Jm;have Zd:=cz 0;have Zh:=cz 1;have Zc:=cz 2;have Za:Hid (∀o,w4.frozen? ⟨B3,o,none⟩=false):=cz;have Jn:=hB.trans (Jm.mono Jc);have Yw:Hid _:=set3 (u0:=V m0) (u1:=V m1) (u2:=V m2) c0 c1 c2;clear Jm b0 b1 b2 Xt Xz Xu x0 x1 cz Jv;go_wp2;go_roundw
     case rel=>exact⟨k+1,m0,m1,m2,o_,by go_num,Yw,λo=>by simpa using Za o,X_,((Jn.setCell (p:=⟨B3,0,none⟩) Xq _).setCell (p:=⟨B3,1,none⟩) Xq _).setCell (p:=⟨B3,2,none⟩) Xq _⟩
     case measure=>simp[RowKit.intOf];omega
    ·have HE:Hid (Jd=(q0,q1,q2)):=by
      have h1:=Jg.out.bad hq;show _=_;rw[Je.out,od HB.out (by rw[h1];exact hq),h1]
     have e1:(q0 == 0)=false:=by simpa using hq
     have z0:=I 0;have z1:=I 1;have z2:=I 2;clear I;go_wp2_with fail;obtain⟨t0,t1,t2⟩:=set3 (u0:=V q0) (u1:=V q1) (u2:=V q2) U Y Z;refine bodyPost_ret (v:=.agg #[V q0,V q1,V q2]) (by simp[results,results24,go_sem,t0,t1,t2]) rfl ⟨aG (by rw[HE.out];rfl),?_⟩;exact((J.setCell (p:=⟨w.heap.size+1,0,none⟩) i_ _).setCell (p:=⟨w.heap.size+1,1,none⟩) i_ _).setCell (p:=⟨w.heap.size+1,2,none⟩) i_ _
   ·have Yo:k=t.funcs.length:=o_
    by_cases hq:q0=0
    ·subst hq;subst Yo;obtain⟨Xc,Yk,Yb⟩:=Jg.out.all rfl;simp only[Prod.mk.injEq,true_and]at Yb;obtain⟨rfl,rfl⟩:=Yb;obtain⟨m,hm⟩:=gh Xc;have Js:Hid (Jd=dj t m 0 t.funcs.length):=Je.out.trans (lD HB Xc Yk hm);have Yx:=de hm;have Yj:Hid (Calls prog 32 #[.agg #[.slice ag t.globals.length cg,.slice af t.funcs.length cf],sV ⟨#[109,97,105,110]⟩] wr λe w'=>e=rW (V (m:Int))/\Bl wr w'):=by
      have:=fg t.funcs (.slice ag t.globals.length cg) _ di wr o_ (HF.out.below J)
      rw[ed hm]at this;exact this
     clear Xc Yk hm Jg U Y Z I;go_wp2_with fail;refine Yj.out.mono ?_;rintro e w4 ⟨rfl,Jm⟩;have Jn:=hB.trans (Jm.mono Jc);have Yl:=zD ⟨b0,b1,b2⟩ Xi Jm;have Ya:=ah Yl;clear Jm b0 b1 b2 Xt Xz Xu x0 x1 J Jc Yl Yj hB Xi Xo;obtain⟨⟨x0,x1⟩,-,-,J,Jc⟩:=Jf w4 Jn;have Yi:Hid (∀(W:World) (f:Nat),Bl w4 W->f<t.funcs.length->Calls prog 57 #[.agg #[.slice ag t.globals.length cg,.slice af t.funcs.length cf],rV W.heap.size 1 1] (W.alloc (.cells #[V (f:Int)] 2)) λe w'=>∃v out,e=rW v/\bR (W.heap.size+1) w' v out/\(∀g,g∈out↔kQ t f g)/\out.length<=1000/\Bl W w'):=λW f hW hfl2=>by
      have hA:Bl W (W.alloc (.cells #[V (f:Int)] 2)):=au _ _;have Zb:bC (W.alloc (.cells #[V (f:Int)] 2)) (.slice af t.funcs.length cf) t.funcs:=(HF.out.below (J.trans (hW.mono J.size))).below hA;refine(qV t (.slice ag t.globals.length cg) _ (rV W.heap.size 1 1) f _ hfl2 o_ Xv.out.sm ⟨_,_,_,rfl⟩ Zb ?_ ?_).mono ?_
      ·refine⟨_,1,rfl,λ_=>⟨W.heap.size,rfl,λj hj=>?_⟩⟩;have Ys:j=0:=by simp at hj;omega
       subst Ys;simp
      ·intro a n c he;simp only[Value.slice.injEq]at he;omega
      ·rintro e w' ⟨v,out,he,h1,h2,h3,h4⟩;rw[World.size_alloc]at h1 h4;exact⟨v,out,he,h1,h2,h3,hA.trans (h4.mono o_)⟩
     obtain⟨i1,hj,Yz,Yn,Yu⟩:=info_parts jN;go_wp2_with fail;refine(Yi w4 m r_ Yx).mono ?_;rintro e w5 ⟨v5,out,rfl,Xl,Xw,Zi,J_⟩;have Xn:=ah Xl;have Xy:=ah Xw;obtain⟨a5,c5,rfl⟩:=Xl.shape;have Yt:w4.heap.size<=w5.heap.size:=J_.size;clear Xl Xw x0 x1;go_wp2_with(at_builtin;refine cD rfl _ _ _ rfl w4.heap.size 2 i1 _ 1 8 underlying26 hj Yz Yn Yu rfl d_ _ out.length (out.map (λg:Nat=>Value.int .i64 (g:Int))) rfl ((bR.base Xn o_).below (au _ _)) ⟨w5.heap.size,0,none⟩ 1 1 [V (m:Int)] rfl rfl (cell_one_new _ _ _) (by simp[Value.oneCell']) o_ d_ (by simp;omega) ?_);intro v6 w6 Ye Yh Y_;have Xe:Hid (bR w4.heap.size w6 v6 (out++[m])):=by
      show World.ownsRow _ _ _ _ _ _ _;simpa using Ye
     have Yg:Bl w4 w6:=(J_.alloc J_.size (.cells #[V (m:Int)] 2)).grown Yh (by simp;omega) (λg hg=>by have:=(World.ownsRow.lt Xn.out g hg).1;omega);obtain⟨a6,c6,rfl⟩:=Xe.out.shape;have Xg:(out++[m]).length=out.length+1:=i_;rw[Xg]at Xe⊢;clear Ye Yh Y_ J_ Xn Yt;go_wp2;go_loopw[7] (λi wr=>∃(k:Nat),k<=t.funcs.length/\i=V k/\Jd=dj t m k (t.funcs.length-k)/\Bl w6 wr) (λi _=>t.funcs.length-(RowKit.intOf i).toNat)
     case atStart=>exact⟨0,y_,rfl,by simpa using Js.out,r_⟩
     case round=>
      clear Js;obtain⟨k,hk,rfl,Jt,hB⟩:=hrel;have Js:=ah Jt;have Xa:Bl w4 wr:=Yg.trans (hB.mono Yg.size);obtain⟨⟨x0,x1⟩,⟨U,Y,Z⟩,I,Jw,-⟩:=Jf wr (Jn.trans (Xa.mono Jc));have z0:=I 0;have z1:=I 1;have z2:=I 2;obtain⟨⟨b0,b1,b2⟩,-⟩:=zD Ya.out.1 Ya.out.2 Xa;clear Jt I;by_cases hlt:k<t.funcs.length
      ·have Xj:Hid (Jd=dj t m k ((t.funcs.length-(k+1))+1)):=by
        show _=_;rw[Js.out];congr 1;omega
       have Ju:Hid (Calls prog 58 #[.slice a6 (out.length+1) c6,V (k:Int)] wr λe w'=>e=rW (.bool (decide (k∈out++[m])))/\Bl wr w'):=ki (out++[m]) _ k wr (by simp;omega) (Xe.out.below hB).ints;clear U Y Z z0 z1 z2 b0 b1 b2;go_wp2_with fail;refine Ju.out.mono ?_;rintro e w8 ⟨rfl,Xf⟩;have Xp:=hB.trans (Xf.mono hB.size);have Jy:Bl w4 w8:=Xa.trans (Xf.mono Xa.size);clear x0 x1 Jw Ju Xf;by_cases hin:k∈out++[m]
       ·have HA:Hid (k=m∨kQ t m k):=by
         rw[List.mem_append,List.mem_singleton]at hin;rcases hin with h1|h1
         ·exact .inr ((Xy k).1 h1)
         ·exact .inl h1
        rw[decide_eq_true hin];clear hin;obtain⟨⟨x0,x1⟩,-,-,-,-⟩:=Jf w8 (Jn.trans (Jy.mono Jc));go_wp2_with fail;refine(Yi w8 k Jy hlt).mono ?_;rintro e w10 ⟨Zg,Jb,rfl,Ji,Jp,Yp,Jk⟩;obtain⟨Yq,Yr,rfl⟩:=Ji.shape;have Ju:Hid (Calls prog 58 #[.slice Yq Jb.length Yr,V (k:Int)] w10 λe w'=>e=rW (.bool (decide (k∈Jb)))/\Bl w10 w'):=ki Jb _ k w10 o_ Ji.ints;have Jr:=Xp.trans (Jk.mono Xp.size);have Jo:Bl w4 w10:=Jy.trans (Jk.mono Jy.size);have Jq:=ah Jp;clear x0 x1 Ji Jk Jp;go_wp2_with fail;refine Ju.out.mono ?_;rintro e w12 ⟨rfl,Jj⟩;have Xs:=Jr.trans (Jj.mono Jr.size);have Xr:Bl w4 w12:=Jo.trans (Jj.mono Jo.size);clear Ju Jj;by_cases h10:k∈Jb
        ·rw[decide_eq_true h10];have HE:Hid (Jd=(7,(k:Int),-1)):=by show _=_;rw[Xj.out];exact jX ⟨HA,(Jq k).1 h10⟩
         obtain⟨-,⟨U,Y,Z⟩,I,J,-⟩:=Jf w12 (Jn.trans (Xr.mono Jc));have z0:=I 0;have z1:=I 1;have z2:=I 2;clear I h10;go_wp2_with fail;obtain⟨t0,t1,t2⟩:=set3 (u0:=V 7) (u1:=V (k:Int)) (u2:=V (-1)) U Y Z;refine bodyPost_ret (v:=.agg #[V 7,V (k:Int),V (-1)]) (by simp[results,results24,go_sem,t0,t1,t2]) rfl ⟨aG (by rw[HE.out];rfl),?_⟩;exact((J.setCell (p:=⟨w.heap.size+1,0,none⟩) i_ _).setCell (p:=⟨w.heap.size+1,1,none⟩) i_ _).setCell (p:=⟨w.heap.size+1,2,none⟩) i_ _
        ·rw[decide_eq_false h10];have HN:Hid (Jd=dj t m (k+1) (t.funcs.length-(k+1))):=by show _=_;rw[Xj.out];exact fR (λh=>h10 ((Jq k).2 h.2))
         clear h10;go_wp2;go_roundw
         case rel=>exact⟨k+1,o_,by go_num,HN,Xs⟩
         case measure=>simp[RowKit.intOf];omega
       ·rw[decide_eq_false hin];have HN:Hid (Jd=dj t m (k+1) (t.funcs.length-(k+1))):=by
         show _=_;rw[Xj.out];refine fR (λh=>hin ?_);rw[List.mem_append,List.mem_singleton];rcases h.1 with h1|h1
         ·exact .inr h1
         ·exact .inl ((Xy k).2 h1)
        clear hin;go_wp2;go_roundw
        case rel=>exact⟨k+1,o_,by go_num,HN,Xp⟩
        case measure=>simp[RowKit.intOf];omega
      ·have HE:Hid (Jd=(0,-1,-1)):=by
        show _=_;have e:t.funcs.length-k=0:=o_;rw[Js.out,e];rfl
       have J:=Jw;go_wp2_with fail;obtain⟨t0,t1,t2⟩:=set3 (u0:=V 0) (u1:=V (-1)) (u2:=V (-1)) U Y Z;refine bodyPost_ret (v:=.agg #[V 0,V (-1),V (-1)]) (by simp[results,results24,go_sem,t0,t1,t2]) rfl ⟨aG (by rw[HE.out];rfl),?_⟩;exact((J.setCell (p:=⟨w.heap.size+1,0,none⟩) i_ _).setCell (p:=⟨w.heap.size+1,1,none⟩) i_ _).setCell (p:=⟨w.heap.size+1,2,none⟩) i_ _
    ·have HE:Hid (Jd=(q0,q1,q2)):=by
      have h1:=Jg.out.bad hq;show _=_;rw[Je.out,od HB.out (by rw[h1];exact hq),h1]
     have e1:(q0 == 0)=false:=by simpa using hq
     have z0:=I 0;have z1:=I 1;have z2:=I 2;clear I;go_wp2_with fail;obtain⟨t0,t1,t2⟩:=set3 (u0:=V q0) (u1:=V q1) (u2:=V q2) U Y Z;refine bodyPost_ret (v:=.agg #[V q0,V q1,V q2]) (by simp[results,results24,go_sem,t0,t1,t2]) rfl ⟨aG (by rw[HE.out];rfl),?_⟩;exact((J.setCell (p:=⟨w.heap.size+1,0,none⟩) i_ _).setCell (p:=⟨w.heap.size+1,1,none⟩) i_ _).setCell (p:=⟨w.heap.size+1,2,none⟩) i_ _
end
end Go.Proofs.YtffnkkpmlplfeaaGreatDoor
