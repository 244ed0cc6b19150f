import Derived.Test.YtffnkkpmlplfeaaGreatDoorF33
import Derived.Deep.CutRange
namespace Go.Proofs.YtffnkkpmlplfeaaGreatDoor
open Go.Value List
open Go.Proofs.Tryz Go.RowKit
set_option linter.all false
set_option maxRecDepth 100000
set_option maxHeartbeats 0
variable[Inhabited Pick]
theorem uv(n:Nat):pt n:=by
 induction n with
 | zero=>
  intro t vg vf vb vs vt ss a sc tk w hn hT hS Xo Yy hs ht Xg Ya Vf Vr ha Ze;obtain rfl:ss=[]:=List.eq_nil_of_length_eq_zero o_;rw[fm];have HT:=ah ht;obtain⟨ab,cb,rfl,-⟩:=hS;obtain⟨ag,cg,rfl,-⟩:=hT.g;obtain⟨af,cf,rfl,-⟩:=hT.f;obtain⟨Ub,Ue,rfl⟩:=hs.shape;obtain⟨Zz,Ve,rfl⟩:=ht.shape;clear hT hs ht;simp only[l_n]at*;go_in;go_wp2_with fail;refine wp_loop_rounds 1 ?_;rw[rounds_succ];go_wp2_with fail;refine bodyPost_ret (v:=.tuple #[V 0,V 0,.slice Zz tk.length Ve]) (by simp[results,results91,go_sem]) rfl ⟨_,rfl,HT.out.below (au _ _),r_.alloc n_ _⟩
 | succ n ih=>
 intro t vg vf vb vs vt ss a sc tk w hn hT hS Xo Yy hs ht Xg Ya Vf Vr ha Ze;have IH:=ah ih;have HT:=ah hT;have HS:=ah hS;have HF:=ah Xo;have Zp:=ah Yy;have Xx:=ah hs;have Vg:=ah ht;obtain⟨ab,cb,rfl,Zv,Zu,Z_⟩:=hS;have Ug:=ah Z_;obtain⟨ag,cg,rfl,-⟩:=hT.g;obtain⟨af,cf,rfl,-⟩:=hT.f;obtain⟨Ub,Ue,rfl⟩:=hs.shape;obtain⟨Zz,Ve,rfl⟩:=ht.shape;clear hT hs ht Z_ Yy Xo ih;obtain⟨Jw,Xs⟩:=q_ (aQ t ss a sc tk);rw[<-Xs];have Xy:=ah Xs;clear Xs;go_in;go_wp2
 go_loopg[3,4,13] ss.length (λg sv tv i wr=>∃(k:Nat) (sc' tk':List ByteArray),g=ss.length-k/\k<=ss.length/\i=V k/\a_ wr sv sc'/\a_ wr tv tk'/\Jw=aQ t (ss.drop k) (a+k) sc' tk'/\cM (ss.drop k)=true/\sc'.length+(ss.length-k)<=800000/\tk'.length+(ss.length-k)<=800000/\Below (w.heap.size+1) (w.alloc (.cells #[.slice ag t.globals.length cg,.slice af t.funcs.length cf] 34)) wr)
 case atStart=>exact⟨0,sc,tk,rfl,y_,rfl,Xx.out.below (au _ _),Vg.out.below (au _ _),by simpa using Xy.out,by simpa using HF.out,o_,o_,r_⟩
 case round=>
  obtain⟨k,J,tk1,Oc,hk,rfl,Zl,Zm,Yd,Js,Uo,Uj,hB⟩:=hrel;obtain⟨Xz,Yb,rfl⟩:=Zl.shape;obtain⟨Xb,J_,rfl⟩:=Zm.shape;have Ud:=ah Zl;have Vt:=ah Zm;have Zc:=ah Yd;have X_:=ay hB;obtain⟨x0,x1⟩:=iy hB;have Yh:w.heap.size<wr.heap.size:=by have:=hB.size;simp at this;omega
  clear Zl Zm Yd Xx Vg Xy HF
  by_cases hlt:k<ss.length
  ·obtain⟨b,Yl,rfl,hc⟩:=Ug.out o_
   obtain⟨ve,Oa,⟨c0,c1,c2,c3,c4,c5⟩,he,hf⟩:=(hc.below X_) k hlt;have Od:b<wr.heap.size:=b_ c0;have Xj:Hid (Jw=aQ t (ss[k]::ss.drop (k+1)) (a+k) J tk1):=by show _=_;rw[Zc.out,lW _ _ hlt]
   rw[lW _ _ hlt,fitB_cons,Bool.and_eq_true,Bool.and_eq_true,Bool.and_eq_true,decide_eq_true_iff]at Js;obtain⟨⟨p1,p2,p3,p4⟩,Js,Xc,Vi⟩:=Js;have Zq:Hid (fP ss[k]):=Zp.out _ (g_ hlt);have Ym:(ss.drop (k+1)).length=ss.length-(k+1):=i_;rw[Ym]at p2 p4;have Vu:=ah he;have Vp:=ah hf;have Yi:=ah Js;have Yq:=ah Xc;have Zw:=ah Vi;obtain⟨a3,k3,rfl,-⟩:=he;obtain⟨a4,k4,rfl,-⟩:=hf;clear hc Zc Js Xc Vi;generalize ss[k]=s at c0 c1 c2 c3 c4 c5 Xj p1 p2 p3 p4 Zq Vu Vp Yi Yq Zw;have hA:Bl wr (wr.alloc (.cells #[V s.kind,sV s.name,.slice a3 s.e.length k3,.slice a4 s.f.length k4,V s.thn,V s.els] 132)):=au _ _;obtain⟨z1,Yp⟩:=q_ (bQ t J s.e);obtain⟨z2,Yn⟩:=q_ (bQ t J (s.e++s.f));have Yj:=ah Yn;have Vh:Hid (z1≠0->z2=z1):=λh=>by rw[Yn,exprE_append,<-Yp,if_neg h]
   have Ua:Hid (z1=0->z2=bQ t J s.f):=λh=>by rw[Yn,exprE_append,<-Yp,if_pos h]
   clear Yn;obtain⟨B0,Ye⟩:=q_ (wr.alloc (.cells #[V s.kind,sV s.name,.slice a3 s.e.length k3,.slice a4 s.f.length k4,V s.thn,V s.els] 132));obtain⟨M,hM⟩:=q_ wr.heap.size
   have Jk:Hid (∀W,Bl B0 W->(W.cell? ⟨M,0,none⟩=some (V s.kind)/\W.cell? ⟨M,1,none⟩=some (sV s.name)/\W.cell? ⟨M,2,none⟩=some (.slice a3 s.e.length k3)/\W.cell? ⟨M,3,none⟩=some (.slice a4 s.f.length k4)/\W.cell? ⟨M,4,none⟩=some (V s.thn)/\W.cell? ⟨M,5,none⟩=some (V s.els))/\W.cell? ⟨w.heap.size,0,none⟩=some (.slice ag t.globals.length cg)/\W.cell? ⟨w.heap.size,1,none⟩=some (.slice af t.funcs.length cf)/\M<W.heap.size/\Bl wr W):=λW hW=>by
    have Z:Below (wr.heap.size+1) (wr.alloc (.cells #[V s.kind,sV s.name,.slice a3 s.e.length k3,.slice a4 s.f.length k4,V s.thn,V s.els] 132)) W:=by
     rw[<-Ye];exact hW.mono (by rw[Ye];simp)
    have h2:=ay Z;refine⟨by rw[hM];exact pi Z,(h2.cell (p:=⟨w.heap.size,0,none⟩) Yh).trans x0,(h2.cell (p:=⟨w.heap.size,1,none⟩) Yh).trans x1,?_,h2⟩
    have:=Z.size
    simp at this;omega
   have Yg:Bl wr B0:=by rw[Ye];exact hA
   have Jz:Hid (∀W,Bl B0 W->D8 W t (.slice ag t.globals.length cg) (.slice af t.funcs.length cf)/\a_ W (.slice Xz J.length Yb) J/\a_ W (.slice Xb tk1.length J_) tk1):=λW hW=>by
    have h2:Bl wr W:=Yg.trans (hW.mono Yg.size);exact⟨HT.out.below (X_.trans (h2.mono X_.size)),Ud.out.below h2,Vt.out.below h2⟩
   have Vv:Hid (∀W,Bl B0 W->aw W (.slice a3 s.e.length k3) s.e/\aw W (.slice a4 s.f.length k4) s.f):=λW hW=>by
    have h2:Bl wr W:=Yg.trans (hW.mono Yg.size);exact⟨Vu.out.below h2,Vp.out.below h2⟩
   have Vd:s.e.length<=1048576:=Zq.out.1;have Js:s.f.length<=1048576:=Zq.out.2;have Vq:=ah hB;go_wp2_with fail;rw[<-Ye,<-hM];have Ux:w.heap.size≠M:=o_;clear Ye hM x0 x1 c0 c1 c2 c3 c4 c5 hA hB X_ Yg;obtain⟨Jr,Jl,Jd⟩:=Jz.out B0 r_;refine(lZ t J s.e _ _ _ _ B0 Xg Ya o_ Vd Jr.g Jr.f Jl (Vv.out B0 r_).1).mono ?_;rintro e w2 ⟨rfl,U⟩;rw[<-Yp];clear Yp Jr Jl Jd
   go_upto_if 31 with fail
   go_cut [15]from 17 to 169 (λe W=>e=V z2/\Bl B0 W)
   case first=>as_aux_lemma=>
    obtain⟨⟨y0,y1,y2,y3,y4,y5⟩,x0,x1,Ju,Xk⟩:=Jk.out w2 U
    by_cases h0:z1=0
    ·have HZ:Hid (z2=bQ t J s.f):=Ua.out h0
     subst h0;go_wp2_with fail;obtain⟨Jr,Jl,Jd⟩:=Jz.out w2 U;refine(lZ t J s.f _ _ _ _ w2 Xg Ya o_ Js Jr.g Jr.f Jl (Vv.out w2 U).2).mono ?_;rintro e w3 ⟨rfl,Jg⟩;clear Jr Jl Jd;go_wp2
     go_meet
     case rel=>exact⟨by rw[HZ.out],U.trans (Jg.mono U.size)⟩
    ·have HZ:Hid (z2=z1):=Vh.out h0
     go_wp2
     go_meet
     case rel=>exact⟨by rw[HZ.out],U⟩
   case rest=>
    clear U;obtain⟨rfl,U⟩:=hcut;obtain⟨b7,Xd⟩:=q_ (decide (z2=0/\s.kind=1/\(du tk1 s.name=true∨0<=globI t.globals s.name)));have Xp:=ah Xd;clear Xd;go_upto_region 7 with fail
    go_cut [56]from 17 to 169 (λe W=>e=.bool b7/\Bl B0 W)
    case first=>as_aux_lemma=>
     obtain⟨⟨y0,y1,y2,y3,y4,y5⟩,x0,x1,Ju,Xk⟩:=Jk.out wc U;clear y2 y3 y4 y5
     by_cases h0:z2=0
     ·subst h0
      by_cases hk1:s.kind=1
      ·rw[hk1]at y0
       obtain⟨Jr,Jl,Jd⟩:=Jz.out wc U;have V_:=ah (fw tk1 _ s.name wc o_ Jd);clear Jr Jl Jd;go_wp2_with fail;refine V_.out.mono ?_;rintro e w3 ⟨rfl,Jg⟩;have Jv:=U.trans (Jg.mono U.size);obtain⟨⟨q0,q1,-⟩,q6,q7,-⟩:=Jk.out w3 Jv;clear Jg y0 y1 x0 x1 V_
       cases hin:du tk1 s.name with
       | true=>
        have HV:Hid (b7=true):=by show _=_;rw[Xp.out];simp[hk1,hin]
        clear hin;go_wp2
        go_meet
        case rel=>exact⟨by rw[HV.out],Jv⟩
       | false=>
        obtain⟨Jr,Jl,Jd⟩:=Jz.out w3 Jv;have Vx:Hid (Calls prog 90 #[.agg #[.slice ag t.globals.length cg,.slice af t.funcs.length cf],sV s.name] w3 λe w'=>e=rW (V (globI t.globals s.name))/\Bl w3 w'):=gQ t.globals _ _ s.name w3 Xg Jr.g;clear Jr Jl Jd;have HV:Hid (b7=decide (0<=globI t.globals s.name)):=by show _=_;rw[Xp.out,hin];simp[hk1]
        clear hin;go_wp2_with fail;refine Vx.out.mono ?_;rintro e w4 ⟨rfl,Ji⟩;have Za:=Jv.trans (Ji.mono Jv.size);clear Ji q0 q1 q6 q7 Vx;generalize globI t.globals s.name=gi at HV⊢;go_wp2
        go_meet
        case rel=>exact⟨by rw[HV.out],Za⟩
      ·have HV:Hid (b7=false):=by show _=_;rw[Xp.out,decide_eq_false_iff_not];exact λh=>hk1 h.2.1
       have b1:(s.kind == 1)=false:=by simpa using hk1
       go_wp2
       go_meet
       case rel=>exact⟨by rw[HV.out],U⟩
     ·have HV:Hid (b7=false):=by show _=_;rw[Xp.out,decide_eq_false_iff_not];exact λh=>h0 h.1
      have b1:(z2 == 0)=false:=by simpa using h0
      go_wp2
      go_meet
      case rel=>exact⟨by rw[HV.out],U⟩
    case rest=>
     clear U;obtain⟨rfl,U⟩:=hcut;have Uy:IntKind.i64.wrap (a+(k:Int))=a+(k:Int):=by simp[IntKind.wrap,IntKind.bits,IntKind.signed];omega
     have Xh:Hid (∀W,Bl B0 W->Bl w W):=λW hW=>by
      have Z:=ay Vq.out;have h2:=(Jk.out W hW).2.2.2.2;exact Z.trans (h2.mono Z.size)
     obtain⟨z4,Vz⟩:=q_ (bX t J tk1 s);have Yk:=ah Vz;clear Vz
     cases Xd:b7 with
     | true=>
      have HE:Hid (Jw=(2,a+k,tk1)):=by
       have Z:=Xp.out;rw[Xd]at Z;have h2:=of_decide_eq_true Z.symm;have h3:bX t J tk1 s=2:=by rw[gM (by rw[<-Yj.out];exact h2.1) h2.2.1,if_pos h2.2.2]
       show _=_;rw[Xj.out,fQ (by rw[h3];decide),h3]
      clear Xd;go_wp2_with fail;refine bodyPost_ret (v:=.tuple #[V 2,V (a+k),.slice Xb tk1.length J_]) (by simp[results,results91,go_sem]) rfl ⟨_,by rw[HE.out],by rw[HE.out];exact(Jz.out wc U).2.2,Xh.out wc U⟩
     | false=>
      by_cases h0:z2=0
      ·have HQ:Hid (z4=if s.kind=2∨s.kind=3 then dR t.globals J s.name (decide (s.kind=3))else 0):=by
        have hq:bQ t J (s.e++s.f)=0:=by rw[<-Yj.out];exact h0
        have Z:=Xp.out;rw[Xd]at Z;have h2:=of_decide_eq_false Z.symm;show _=_;rw[Yk.out]
        by_cases hk1:s.kind=1
        ·rw[gM hq hk1,if_neg (λh=>h2 ⟨h0,hk1,h⟩),if_neg o_]
        ·by_cases hk2:s.kind=2∨s.kind=3
         ·rw[jV hq hk2,if_pos hk2]
         ·rw[lF hq hk1 (λh=>hk2 (.inl h)) (λh=>hk2 (.inr h)),if_neg hk2]
       subst h0;clear Xd;obtain⟨b9,Xi⟩:=q_ (decide (s.kind=2∨s.kind=3));have Xv:=ah Xi;clear Xi;go_upto_region 9 with fail
       go_cut [68]from 17 to 169 (λe W=>e=.bool b9/\W=wc)
       case first=>as_aux_lemma=>
        obtain⟨⟨y0,-⟩,-⟩:=Jk.out wc U
        by_cases hk2:s.kind=2
        ·have HV:Hid (b9=true):=by show _=_;rw[Xv.out];simp[hk2]
         rw[hk2]at y0;go_wp2
         go_meet
         case rel=>exact⟨by rw[HV.out],rfl⟩
        ·by_cases hk3:s.kind=3
         ·have HV:Hid (b9=true):=by show _=_;rw[Xv.out];simp[hk3]
          rw[hk3]at y0;go_wp2
          go_meet
          case rel=>exact⟨by rw[HV.out],rfl⟩
         ·have HV:Hid (b9=false):=by show _=_;rw[Xv.out];simp[hk2,hk3]
          have b2:(s.kind == 2)=false:=by simpa using hk2
          have b3:(s.kind == 3)=false:=by simpa using hk3
          go_wp2
          go_meet
          case rel=>exact⟨by rw[HV.out],rfl⟩
       case rest=>
        obtain⟨rfl,rfl⟩:=hcut
        go_upto_if 68 with fail
        go_cut [15]from 17 to 169 (λe W=>e=V z4/\Bl B0 W)
        case first=>as_aux_lemma=>
         cases Xi:b9 with
         | true=>
          have h2:s.kind=2∨s.kind=3:=by
           have Z:=Xv.out;rw[Xi]at Z;exact of_decide_eq_true Z.symm
          have HV:Hid (z4=dR t.globals J s.name (decide (s.kind=3))):=by show _=_;rw[HQ.out,if_pos h2]
          obtain⟨⟨y0,y1,-⟩,x0,x1,-⟩:=Jk.out wc U;obtain⟨Jr,Jl,Jd⟩:=Jz.out wc U;have Yo:Hid (∀ar,Calls prog 129 #[.agg #[.slice ag t.globals.length cg,.slice af t.funcs.length cf],.slice Xz J.length Yb,sV s.name,.bool ar] wc λe w'=>e=rW (V (dR t.globals J s.name ar))/\Bl wc w'):=λar=>nQ t.globals J _ _ _ s.name ar wc Xg o_ ⟨_,_,_,rfl⟩ Jr.g Jl
          clear Jr Jl Jd Xi;rcases h2 with h2|h2
          ·rw[h2]at y0
           have Zk:Hid (z4=dR t.globals J s.name false):=by show _=_;rw[HV.out,h2];rfl
           go_wp2_with fail;refine(Yo.out false).mono ?_;rintro e w3 ⟨rfl,Jg⟩;rw[<-Zk.out];clear y0 y1 x0 x1 Yo;go_wp2
           go_meet
           case rel=>exact⟨rfl,U.trans (Jg.mono U.size)⟩
          ·rw[h2]at y0
           have Zk:Hid (z4=dR t.globals J s.name true):=by show _=_;rw[HV.out,h2];rfl
           go_wp2_with fail;refine(Yo.out true).mono ?_;rintro e w3 ⟨rfl,Jg⟩;rw[<-Zk.out];clear y0 y1 x0 x1 Yo;go_wp2
           go_meet
           case rel=>exact⟨rfl,U.trans (Jg.mono U.size)⟩
         | false=>
          have h2:¬(s.kind=2∨s.kind=3):=by
           have Z:=Xv.out;rw[Xi]at Z;exact of_decide_eq_false Z.symm
          have HV:Hid (z4=0):=by show _=_;rw[HQ.out,if_neg h2]
          clear Xi;go_wp2
          go_meet
          case rel=>exact⟨by rw[HV.out],U⟩
        case rest=>
         clear U HQ Xv Xp Yj Vh Ua;obtain⟨rfl,U⟩:=hcut
         by_cases h4:z4=0
         ·have Yx:Hid (bX t J tk1 s=0):=by show _=_;rw[<-Yk.out];exact h4
          subst h4;clear Yk;obtain⟨⟨y0,y1,-⟩,-⟩:=Jk.out wc U
          go_upto_if 86 with fail
          go_cut [3,4]from 17 to 169 (λsv tv W=>a_ W sv (be s J)/\a_ W tv (be s tk1)/\Bl B0 W)
          case first=>as_aux_lemma=>
           obtain⟨-,Jl,Jd⟩:=Jz.out wc U;have Jy:=ah Jl;have Jq:=ah Jd;clear Jl Jd
           by_cases hk1:s.kind=1
           ·have Xx:Hid (be s J=J++[s.name]):=kR hk1 J
            have Zy:Hid (be s tk1=tk1++[s.name]):=kR hk1 tk1;rw[hk1]at y0⊢;clear hk1;have PA:=De wc _ _ Jy.out;have PB:=Df wc _ _ s.name Jy.out;have PC:=Dh wc _ _ s.name Jy.out;have Jt:=ah PA;have Jp:=ah PB;have Jo:=ah PC;clear PA PB PC;have Ju:M<wc.heap.size:=(Jk.out wc U).2.2.2.1;have Y_:M≠wc.heap.size:=o_;have Xt:M≠wc.heap.size+1:=o_;have Jj:=ah Ju;go_upto_region 14 with fail
            go_cut [3]from 17 to 169 (λsv W=>a_ W sv (J++[s.name])/\Bl wc W)
            case first=>as_aux_lemma=>
             go_region_held_law (λW=>W.cell? ⟨M,1,none⟩=some (sV s.name)) (first | go_keep | (go_split_ands;exact yA) | (go_split_ands;exact yB))
              (first
              | (refine bH (by rfl) _ _ (by rfl) wc.heap.size (.slice (some ⟨wc.heap.size,0,none⟩) 0 0) [] (by rfl) Jt.out.1 (.slice Xz J.length Yb) J (by rfl) Jt.out.2.1 (by simp;omega) Jt.out.2.2.size ?_;intro v1 w1 Jh Jm Js;have Jf:Bl wc w1:=gW Jt.out.2.2 Jt.out.1 Jm;have yA:=(Jf.cell (p:=⟨M,1,none⟩) Jj.out).trans y1)
              | (refine bH (by rfl) _ _ (by rfl) wc.heap.size (.slice (some ⟨wc.heap.size,0,none⟩) 0 0) [] (by rfl) Jp.out.1 (.slice Xz J.length Yb) J (by rfl) Jp.out.2.1 (by simp;omega) Jp.out.2.2.1.size ?_;intro v1 w1 Jh Jm Js;have Jf:Bl wc w1:=gW Jp.out.2.2.1 Jp.out.1 Jm;have yA:=(Jf.cell (p:=⟨M,1,none⟩) Jj.out).trans y1;have Zf:=(c_ (a:=⟨wc.heap.size+1,0,none⟩) (Jm.block (wc.heap.size+1) i_ (by simp[Value.ownBlock]))).trans Jp.out.2.2.2)
              | (refine bH (by rfl) _ _ (by rfl) wc.heap.size (.slice (some ⟨wc.heap.size+1,0,none⟩) 0 0) [] (by rfl) Jo.out.1 (.slice Xz J.length Yb) J (by rfl) Jo.out.2.1 (by simp;omega) Jo.out.2.2.1.size ?_;intro v1 w1 Jh Jm Js;have Jf:Bl wc w1:=gW Jo.out.2.2.1 Jo.out.1 Jm;have yA:=(Jf.cell (p:=⟨M,1,none⟩) Jj.out).trans y1;have Yv:=(c_ (a:=⟨wc.heap.size,0,none⟩) (Jm.block (wc.heap.size) (by simp;omega) (by simp[Value.ownBlock]))).trans Jo.out.2.2.2)
              | (refine bH (by rfl) _ _ (by rfl) wc.heap.size v1 J (by rfl) (dI.below Jh (au _ _)) (.slice (some ⟨w1.heap.size,0,none⟩) 1 1) [s.name] (by rfl) (sC w1 s.name 9) (by simp;omega) (t_ Jf.size i_) ?_;intro v2 w2 Xn Jx Xc;have Jc:Bl wc w2:=gW (Jf.alloc Jf.size _) (dI.below Jh (au _ _)) Jx;have yB:=(Jc.cell (p:=⟨M,1,none⟩) Jj.out).trans y1)
              | (refine bH (by rfl) _ _ (by rfl) wc.heap.size v1 J (by rfl) Jh (.slice (some ⟨wc.heap.size+1,0,none⟩) 1 1) [s.name] (by rfl) (fK Zf) (by simp;omega) Jf.size ?_;intro v2 w2 Xn Jx Xc;have Jc:Bl wc w2:=gW Jf Jh Jx;have yB:=(Jc.cell (p:=⟨M,1,none⟩) Jj.out).trans y1)
              | (refine bH (by rfl) _ _ (by rfl) wc.heap.size v1 J (by rfl) Jh (.slice (some ⟨wc.heap.size,0,none⟩) 1 1) [s.name] (by rfl) (fK Yv) (by simp;omega) Jf.size ?_;intro v2 w2 Xn Jx Xc;have Jc:Bl wc w2:=gW Jf Jh Jx;have yB:=(Jc.cell (p:=⟨M,1,none⟩) Jj.out).trans y1))
             all_goals (simp only[List.getElem_toArray,List.getElem_cons_succ,List.getElem_cons_zero])
             all_goals (go_wp2_with fail)
             all_goals go_meet
             all_goals exact⟨dI.strs Xn (by simp;omega),Jc⟩
            case rest=>
             clear Jt Jp Jo Ju Y_ Xt Jj Jy Jq y0 y1;obtain⟨Yr,Jg⟩:=hcut;have Zd:=ah Yr;obtain⟨a9,c9,rfl⟩:=Yr.shape;have Yf:(J++[s.name]).length=J.length+1:=i_;rw[Yf]at Zd⊢;clear Yf;have Je:=U.trans (Jg.mono U.size);clear U Jg Yr;obtain⟨⟨y0,y1,-⟩,-⟩:=Jk.out wc Je;have Jq:Hid (a_ wc (.slice Xb tk1.length J_) tk1):=(Jz.out wc Je).2.2;have PA:=De wc _ _ Jq.out;have PB:=Df wc _ _ s.name Jq.out;have PC:=Dh wc _ _ s.name Jq.out;have Jt:=ah PA;have Jp:=ah PB;have Jo:=ah PC;clear PA PB PC;have Ju:M<wc.heap.size:=(Jk.out wc Je).2.2.2.1;have Y_:M≠wc.heap.size:=o_;have Xt:M≠wc.heap.size+1:=o_;have Jj:=ah Ju;go_upto_region 15 with fail
             go_cut [4]from 17 to 169 (λsv W=>a_ W sv (tk1++[s.name])/\Bl wc W)
             case first=>as_aux_lemma=>
              go_region_held_law (λW=>W.cell? ⟨M,1,none⟩=some (sV s.name)) (first | go_keep | (go_split_ands;exact yA) | (go_split_ands;exact yB))
               (first
               | (refine bH (by rfl) _ _ (by rfl) wc.heap.size (.slice (some ⟨wc.heap.size,0,none⟩) 0 0) [] (by rfl) Jt.out.1 (.slice Xb tk1.length J_) tk1 (by rfl) Jt.out.2.1 (by simp;omega) Jt.out.2.2.size ?_;intro v1 w1 Jh Jm Js;have Jf:Bl wc w1:=gW Jt.out.2.2 Jt.out.1 Jm;have yA:=(Jf.cell (p:=⟨M,1,none⟩) Jj.out).trans y1)
               | (refine bH (by rfl) _ _ (by rfl) wc.heap.size (.slice (some ⟨wc.heap.size,0,none⟩) 0 0) [] (by rfl) Jp.out.1 (.slice Xb tk1.length J_) tk1 (by rfl) Jp.out.2.1 (by simp;omega) Jp.out.2.2.1.size ?_;intro v1 w1 Jh Jm Js;have Jf:Bl wc w1:=gW Jp.out.2.2.1 Jp.out.1 Jm;have yA:=(Jf.cell (p:=⟨M,1,none⟩) Jj.out).trans y1;have Zf:=(c_ (a:=⟨wc.heap.size+1,0,none⟩) (Jm.block (wc.heap.size+1) i_ (by simp[Value.ownBlock]))).trans Jp.out.2.2.2)
               | (refine bH (by rfl) _ _ (by rfl) wc.heap.size (.slice (some ⟨wc.heap.size+1,0,none⟩) 0 0) [] (by rfl) Jo.out.1 (.slice Xb tk1.length J_) tk1 (by rfl) Jo.out.2.1 (by simp;omega) Jo.out.2.2.1.size ?_;intro v1 w1 Jh Jm Js;have Jf:Bl wc w1:=gW Jo.out.2.2.1 Jo.out.1 Jm;have yA:=(Jf.cell (p:=⟨M,1,none⟩) Jj.out).trans y1;have Yv:=(c_ (a:=⟨wc.heap.size,0,none⟩) (Jm.block (wc.heap.size) (by simp;omega) (by simp[Value.ownBlock]))).trans Jo.out.2.2.2)
               | (refine bH (by rfl) _ _ (by rfl) wc.heap.size v1 tk1 (by rfl) (dI.below Jh (au _ _)) (.slice (some ⟨w1.heap.size,0,none⟩) 1 1) [s.name] (by rfl) (sC w1 s.name 9) (by simp;omega) (t_ Jf.size i_) ?_;intro v2 w2 Xn Jx Xc;have Jc:Bl wc w2:=gW (Jf.alloc Jf.size _) (dI.below Jh (au _ _)) Jx;have yB:=(Jc.cell (p:=⟨M,1,none⟩) Jj.out).trans y1)
               | (refine bH (by rfl) _ _ (by rfl) wc.heap.size v1 tk1 (by rfl) Jh (.slice (some ⟨wc.heap.size+1,0,none⟩) 1 1) [s.name] (by rfl) (fK Zf) (by simp;omega) Jf.size ?_;intro v2 w2 Xn Jx Xc;have Jc:Bl wc w2:=gW Jf Jh Jx;have yB:=(Jc.cell (p:=⟨M,1,none⟩) Jj.out).trans y1)
               | (refine bH (by rfl) _ _ (by rfl) wc.heap.size v1 tk1 (by rfl) Jh (.slice (some ⟨wc.heap.size,0,none⟩) 1 1) [s.name] (by rfl) (fK Yv) (by simp;omega) Jf.size ?_;intro v2 w2 Xn Jx Xc;have Jc:Bl wc w2:=gW Jf Jh Jx;have yB:=(Jc.cell (p:=⟨M,1,none⟩) Jj.out).trans y1))
              all_goals (simp only[List.getElem_toArray,List.getElem_cons_succ,List.getElem_cons_zero])
              all_goals (go_wp2_with fail)
              all_goals go_meet
              all_goals exact⟨dI.strs Xn (by simp;omega),Jc⟩
             case rest=>
              clear Jt Jp Jo Ju Y_ Xt Jj Jq y0 y1;obtain⟨Xw,Ji⟩:=hcut;have Us:=ah Xw;have Uk:=ah (Zd.out.below Ji);have Yz:=Je.trans (Ji.mono Je.size);clear Ji Xw Je Zd;go_wp2
              go_meet
              case rel=>exact⟨by rw[Xx.out];exact Uk.out,by rw[Zy.out];exact Us.out,Yz⟩
           ·have Xx:Hid (be s J=J):=ie hk1 J
            have Zy:Hid (be s tk1=tk1):=ie hk1 tk1;have b1:(s.kind == 1)=false:=by simpa using hk1
            go_wp2
            go_meet
            case rel=>exact⟨by rw[Xx.out];exact Jy.out,by rw[Zy.out];exact Jq.out,U⟩
          case rest=>
           clear U y0 y1;obtain⟨Yt,Zt,U⟩:=hcut;have Jy:=ah Yt;have Xr:=ah Zt;obtain⟨a8,c8,rfl⟩:=Yt.shape;obtain⟨a9,c9,rfl⟩:=Zt.shape;clear Yt Zt;obtain⟨l8,Ys⟩:=q_ ((be s J).length);obtain⟨l9,Zx⟩:=q_ ((be s tk1).length);have Va:=jt s J;have Vc:=jt s tk1;rw[<-Ys]at Jy Va⊢;rw[<-Zx]at Xr Vc⊢;have Zn:=ah Ys;have Vk:=ah Zx;clear Ys Zx;obtain⟨I,Yu⟩:=Int.eq_ofNat_of_zero_le p1;obtain⟨ln,Yw⟩:=Int.eq_ofNat_of_zero_le p3;have Xe:Hid (s.thn.toNat=I/\s.els.toNat=ln):=⟨o_,o_⟩;have Xm:Hid (s.thn=I/\s.els=ln):=⟨Yu,Yw⟩;have Ur:k+1+I<=ss.length:=o_;have Zg:k+1+I+ln<=ss.length:=o_;rw[Xe.out.1]at Yi;rw[Xe.out.1,Xe.out.2]at Yq Zw;have Uc:=ah Ym;obtain⟨a5,k5,Ul,Vj⟩:∃a5 k5,(∀w:World,(Instr.slice 95 (.slice (some ⟨b,Yl,none⟩) ss.length cb) (some (V ((k:Int)+1))) (some (V ((k:Int)+1+(I:Int)))) none).run prog w=.ok (.slice a5 I k5) w)/\aW w (.slice a5 I k5) ((ss.drop (k+1)).take I):=by
            have h:=fU (some ⟨b,Yl,none⟩) ss.length cb (k+1) (k+1+I) o_ o_ o_ ((k:Int)+1) ((k:Int)+1+(I:Int)) o_ o_;have h':=HS.out.cut (k+1) (k+1+I) o_ o_;rw[show k+1+I-(k+1)=I by omega]at h h';rw[drop_take_2]at h';exact⟨_,_,h,h'⟩
           obtain⟨a6,k6,Ui,Vb⟩:∃a6 k6,(∀w:World,(Instr.slice 95 (.slice (some ⟨b,Yl,none⟩) ss.length cb) (some (V ((k:Int)+1+(I:Int)))) (some (V ((k:Int)+1+(I:Int)+(ln:Int)))) none).run prog w=.ok (.slice a6 ln k6) w)/\aW w (.slice a6 ln k6) (((ss.drop (k+1)).take (I+ln)).drop I):=by
            have h:=fU (some ⟨b,Yl,none⟩) ss.length cb (k+1+I) (k+1+I+ln) o_ o_ o_ ((k:Int)+1+(I:Int)) ((k:Int)+1+(I:Int)+(ln:Int)) o_ o_;have h':=HS.out.cut (k+1+I) (k+1+I+ln) o_ o_;rw[show k+1+I+ln-(k+1+I)=ln by omega]at h h';rw[qA]at h';exact⟨_,_,h,h'⟩
           have Vn:=ah Vj;have Vl:=ah Vb;clear Vj Vb;have Xq:=Xh.out wc U;have Vy:Hid (Calls prog 91 #[.agg #[.slice ag t.globals.length cg,.slice af t.funcs.length cf],.slice a5 I k5,V (a+k+1),.slice a8 l8 c8,.slice a9 l9 c9] wc.drew λe w'=>∃vt',e=rW (.tuple #[V (aQ t ((ss.drop (k+1)).take I) (a+k+1) (be s J) (be s tk1)).1,V (aQ t ((ss.drop (k+1)).take I) (a+k+1) (be s J) (be s tk1)).2.1,vt'])/\a_ w' vt' (aQ t ((ss.drop (k+1)).take I) (a+k+1) (be s J) (be s tk1)).2.2/\Bl wc.drew w'):=by
            have Yc:Bl wc wc.drew:=r_.drew;have e8:=Zn.out;have e9:=Vk.out;have Ym:=Uc.out;exact IH.out t _ _ _ _ _ _ (a+k+1) (be s J) (be s tk1) wc.drew (by simp;omega) (HT.out.below (Xq.drew)) (Vn.out.below Xq.drew) Yi.out (λx hx=>Zp.out x (List.mem_of_mem_drop (List.mem_of_mem_take hx))) (Jy.out.below Yc) (Xr.out.below Yc) Xg Ya (by simp;omega) (by simp;omega) o_ (by simp;omega)
           obtain⟨⟨y0,y1,y2,y3,y4,y5⟩,x0,x1,Ju,Xk⟩:=Jk.out wc U;rw[Yu]at y4;rw[Yw]at y5;have Jn:w.heap.size<wc.heap.size:=l_ Yh Xk.size;have Uw:IntKind.i64.wrap ((k:Int)+1)=(k:Int)+1:=by simp[IntKind.wrap,IntKind.bits,IntKind.signed];omega
           have U_:IntKind.i64.wrap ((k:Int)+1+(I:Int))=(k:Int)+1+(I:Int):=by simp[IntKind.wrap,IntKind.bits,IntKind.signed];omega
           have Uv:IntKind.i64.wrap (a+(k:Int)+1)=a+(k:Int)+1:=by simp[IntKind.wrap,IntKind.bits,IntKind.signed];omega
           have Uz:IntKind.i64.wrap (a+(k:Int)+1+(I:Int))=a+(k:Int)+1+(I:Int):=by simp[IntKind.wrap,IntKind.bits,IntKind.signed];omega
           have Uu:IntKind.i64.wrap ((k:Int)+1+(I:Int)+(ln:Int))=(k:Int)+1+(I:Int)+(ln:Int):=by simp[IntKind.wrap,IntKind.bits,IntKind.signed];omega
           have Vs:Hid (0<=a/\a+ss.length<=800000/\l8+(ss.length-(k+1))<=800000/\l9+(ss.length-(k+1))<=800000/\ss.length<=n+1):=⟨ha,Ze,o_,o_,hn⟩;clear y0 y1 y2 y3 Va Vc p1 p2 p3 p4 Uo Uj Vf Vr Ze ha hn Vd Js Zv Zu Yu Yw Ym Xk Ju;go_upto_region 17 with fail
           go_cut [4,15,16]from 17 to 169 (λtv ev sv W=>ev=V (aQ t ((ss.drop (k+1)).take I) (a+k+1) (be s J) (be s tk1)).1/\sv=V (aQ t ((ss.drop (k+1)).take I) (a+k+1) (be s J) (be s tk1)).2.1/\a_ W tv (aQ t ((ss.drop (k+1)).take I) (a+k+1) (be s J) (be s tk1)).2.2/\Bl wc W)
           case first=>as_aux_lemma=>
            go_region_held3 (λW=>W.cell? ⟨w.heap.size,0,none⟩=some (.slice ag t.globals.length cg)/\W.cell? ⟨w.heap.size,1,none⟩=some (.slice af t.funcs.length cf)/\W.cell? ⟨M,4,none⟩=some (V I)) (go_simp)
             (first
             | ((with_reducible refine Calls.mono Vy.out ?_);rintro e w4 ⟨Um,rfl,Xw,Ji⟩;have Zb:w4.cell? ⟨w.heap.size,0,none⟩=some (.slice ag t.globals.length cg):=(Ji.cell (p:=⟨w.heap.size,0,none⟩) Jn).trans x0;have Zj:w4.cell? ⟨w.heap.size,1,none⟩=some (.slice af t.funcs.length cf):=(Ji.cell (p:=⟨w.heap.size,1,none⟩) Jn).trans x1;have Zr:w4.cell? ⟨M,4,none⟩=some (.int .i64 I):=(Ji.cell (p:=⟨M,4,none⟩) (Jk.out wc U).2.2.2.1).trans y4))
            go_wp2
            go_meet
            case rel=>exact⟨rfl,rfl,Xw,(r_.drew).trans Ji⟩
           case rest=>
            obtain⟨rfl,rfl,Xa,Jg⟩:=hcut;obtain⟨X,hX⟩:=q_ (aQ t ((ss.drop (k+1)).take I) (a+k+1) (be s J) (be s tk1));rw[<-hX]at Xa⊢;have HX:Hid (X=aQ t ((ss.drop (k+1)).take s.thn.toNat) (a+k+1) (be s J) (be s tk1)):=by show _=_;rw[Xe.out.1];exact hX
            have Vw:Hid (X.2.2.length<=l9+I):=by
             have Z:=ju t _ ((ss.drop (k+1)).take I) (a+k+1) (be s J) (be s tk1) n_;rw[<-hX,<-Vk.out]at Z;simp at Z;show _<=_;omega
            clear hX Vy Ul Vn Yi Xr y4 y5 x0 x1;have Xu:=ah Xa;obtain⟨a7,c7,rfl⟩:=Xa.shape;have Je:=U.trans (Jg.mono U.size);have Xf:Hid (a_ wc (.slice a8 l8 c8) (be s J)):=Jy.out.below Jg;clear Xa U Jg Jy Xq Jn;obtain⟨l7,Zo⟩:=q_ X.2.2.length;rw[<-Zo]at Xu⊢;have Zs:=ah Zo;clear Zo
            by_cases hX1:X.1=0
            ·have Vo:=ah hX1
             rw[hX1];have Xq:=Xh.out wc Je;have Vm:Hid (Calls prog 91 #[.agg #[.slice ag t.globals.length cg,.slice af t.funcs.length cf],.slice a6 ln k6,V (a+k+1+I),.slice a8 l8 c8,.slice a7 l7 c7] wc.drew λe w'=>∃vt',e=rW (.tuple #[V (aQ t (((ss.drop (k+1)).take (I+ln)).drop I) (a+k+1+I) (be s J) X.2.2).1,V (aQ t (((ss.drop (k+1)).take (I+ln)).drop I) (a+k+1+I) (be s J) X.2.2).2.1,vt'])/\a_ w' vt' (aQ t (((ss.drop (k+1)).take (I+ln)).drop I) (a+k+1+I) (be s J) X.2.2).2.2/\Bl wc.drew w'):=by
              have Yc:Bl wc wc.drew:=r_.drew;have e8:=Zn.out;have e7:=Zs.out;have Uh:=Vw.out;have Ut:=Vs.out;have Uf:(((ss.drop (k+1)).take (I+ln)).drop I).length=ln:=by simp;omega
              exact IH.out t _ _ _ _ _ _ (a+k+1+I) (be s J) X.2.2 wc.drew o_ (HT.out.below (Xq.drew)) (Vl.out.below Xq.drew) Yq.out (λx hx=>Zp.out x (List.mem_of_mem_drop (List.mem_of_mem_take (List.mem_of_mem_drop hx)))) (Xf.out.below Yc) (Xu.out.below Yc) Xg Ya o_ o_ o_ o_
             obtain⟨⟨-,-,-,-,y4,y5⟩,x0,x1,Ju,Xk⟩:=Jk.out wc Je;rw[Xm.out.1]at y4;rw[Xm.out.2]at y5;have Jn:w.heap.size<wc.heap.size:=l_ Yh Xk.size;clear hX1 Xk Xq;go_upto_region 19 with fail
             go_cut [4,15,16]from 17 to 169 (λtv ev sv W=>ev=V (aQ t (((ss.drop (k+1)).take (I+ln)).drop I) (a+k+1+I) (be s J) X.2.2).1/\sv=V (aQ t (((ss.drop (k+1)).take (I+ln)).drop I) (a+k+1+I) (be s J) X.2.2).2.1/\a_ W tv (aQ t (((ss.drop (k+1)).take (I+ln)).drop I) (a+k+1+I) (be s J) X.2.2).2.2/\Bl wc W)
             case first=>as_aux_lemma=>
              go_region_held3 (λW=>W.cell? ⟨w.heap.size,0,none⟩=some (.slice ag t.globals.length cg)/\W.cell? ⟨w.heap.size,1,none⟩=some (.slice af t.funcs.length cf)/\W.cell? ⟨M,4,none⟩=some (V I)/\W.cell? ⟨M,5,none⟩=some (V ln)) (go_simp)
               (first
               | ((with_reducible refine Calls.mono Vm.out ?_);rintro e w4 ⟨Um,rfl,Xw,Ji⟩;have Zb:w4.cell? ⟨w.heap.size,0,none⟩=some (.slice ag t.globals.length cg):=(Ji.cell (p:=⟨w.heap.size,0,none⟩) Jn).trans x0;have Zj:w4.cell? ⟨w.heap.size,1,none⟩=some (.slice af t.funcs.length cf):=(Ji.cell (p:=⟨w.heap.size,1,none⟩) Jn).trans x1;have Zr:w4.cell? ⟨M,4,none⟩=some (.int .i64 I):=(Ji.cell (p:=⟨M,4,none⟩) Ju).trans y4;have Uq:w4.cell? ⟨M,5,none⟩=some (.int .i64 ln):=(Ji.cell (p:=⟨M,5,none⟩) Ju).trans y5))
              go_wp2
              go_meet
              case rel=>exact⟨rfl,rfl,Xw,(r_.drew).trans Ji⟩
             case rest=>
              obtain⟨rfl,rfl,Xa,Jg⟩:=hcut;obtain⟨Y,hY⟩:=q_ (aQ t (((ss.drop (k+1)).take (I+ln)).drop I) (a+k+1+I) (be s J) X.2.2);rw[<-hY]at Xa⊢;have HY:Hid (Y=aQ t (((ss.drop (k+1)).drop s.thn.toNat).take s.els.toNat) (a+k+1+s.thn) (be s J) X.2.2):=by show _=_;rw[Xe.out.1,Xe.out.2,Xm.out.1,<-drop_take_2];exact hY
              have Un:Hid (Y.2.2.length<=l7+ln):=by
               have Z:=ju t _ (((ss.drop (k+1)).take (I+ln)).drop I) (a+k+1+I) (be s J) X.2.2 n_;rw[<-hY,<-Zs.out]at Z;simp at Z;show _<=_;omega
              clear hY Vm Ui Vl Yq Xu y4 y5 x0 x1;have Xu:=ah Xa;obtain⟨a7,c7,rfl⟩:=Xa.shape;have Xl:=Je.trans (Jg.mono Je.size);have Zh:Hid (a_ wc (.slice a8 l8 c8) (be s J)):=Xf.out.below Jg;clear Xa Je Jg Xf Jn Ju
              by_cases hY1:Y.1=0
              ·have Up:Hid (Jw=aQ t (ss.drop (k+1+I+ln)) (a+((k+1+I+ln:Nat):Int)) (be s J) Y.2.2):=by
                have Z:=gq (r:=ss.drop (k+1)) (a:=a+k) (tk1:=X.2.2) (tk2:=Y.2.2) Yx.out (by rw[<-HX.out];exact Vo.out) (by rw[<-HX.out]) (by rw[<-HY.out];exact hY1) (by rw[<-HY.out]);rw[Xe.out.1,Xe.out.2,Xm.out.1,Xm.out.2,List.drop_drop]at Z;show _=_;rw[Xj.out,Z]
                congr 1
                ·congr 1;omega
                ·omega
               have Zi:Hid (cM (ss.drop (k+1+I+ln))=true):=by
                have Z:=Zw.out;rw[List.drop_drop]at Z;have e:k+1+(I+ln)=k+1+I+ln:=o_;rw[e]at Z;exact Z
               rw[hY1];obtain⟨⟨-,-,-,-,y4,y5⟩,-⟩:=Jk.out wc Xl;rw[Xm.out.1]at y4;rw[Xm.out.2]at y5;clear hY1;go_wp2
               go_roundg (ss.length-(k+1+I+ln))
               case measure=>omega
               case rel=>
                have e8:=Zn.out;have e7:=Zs.out;have Ob:=Un.out;have Uh:=Vw.out;have Ut:=Vs.out;exact⟨k+1+I+ln,be s J,Y.2.2,rfl,Zg,i_,Zh.out,Xu.out,Up.out,Zi.out,o_,o_,by
                 have Z:=Vq.out;have h2:=(Jk.out wc Xl).2.2.2.2;exact Z.trans (h2.mono (by have:=Z.size;simpa using this))⟩
              ·have HE:Hid (Jw=Y):=by
                have h3:=gm (r:=ss.drop (k+1)) (a:=a+k) (tk1:=X.2.2) Yx.out (by rw[<-HX.out];exact Vo.out) (by rw[<-HX.out]) (by rw[<-HY.out];exact hY1);show Jw=Y;rw[Xj.out,h3,<-HY.out]
               have b1:(Y.1 == 0)=false:=by simpa using hY1
               go_wp2_with fail;refine bodyPost_ret (v:=.tuple #[V Y.1,V Y.2.1,.slice a7 Y.2.2.length c7]) (by simp[results,results91,go_sem]) rfl ⟨_,by rw[HE.out],by rw[HE.out];exact Xu.out,Xh.out wc Xl⟩
            ·have HE:Hid (Jw=X):=by
              have h3:=gj (r:=ss.drop (k+1)) (a:=a+k) Yx.out (by rw[<-HX.out];exact hX1);show Jw=X;rw[Xj.out,h3,<-HX.out]
             have b1:(X.1 == 0)=false:=by simpa using hX1
             go_wp2_with fail;refine bodyPost_ret (v:=.tuple #[V X.1,V X.2.1,.slice a7 l7 c7]) (by simp[results,results91,go_sem]) rfl ⟨_,by rw[HE.out],by rw[HE.out];exact Xu.out,Xh.out wc Je⟩
         ·have HE:Hid (Jw=(z4,a+k,tk1)):=by
           have h3:=Yk.out;show _=_;rw[Xj.out,fQ (by rw[<-h3];exact h4),<-h3]
          have b1:(z4 == 0)=false:=by simpa using h4
          go_wp2_with fail;refine bodyPost_ret (v:=.tuple #[V z4,V (a+k),.slice Xb tk1.length J_]) (by simp[results,results91,go_sem]) rfl ⟨_,by rw[HE.out],by rw[HE.out];exact(Jz.out wc U).2.2,Xh.out wc U⟩
      ·have HE:Hid (Jw=(z2,a+k,tk1)):=by
        have Z:=Yj.out;have h3:bX t J tk1 s=z2:=by rw[lE (by rw[<-Z];exact h0),<-Z]
        show _=_;rw[Xj.out,fQ (by rw[h3];exact h0),h3]
       have b1:(z2 == 0)=false:=by simpa using h0
       clear Xd;go_wp2_with fail;refine bodyPost_ret (v:=.tuple #[V z2,V (a+k),.slice Xb tk1.length J_]) (by simp[results,results91,go_sem]) rfl ⟨_,by rw[HE.out],by rw[HE.out];exact(Jz.out wc U).2.2,Xh.out wc U⟩
  ·have HN:Hid (Jw=(0,0,tk1)):=by
    show _=_;rw[Zc.out,List.drop_of_length_le o_,fm]
   clear hB;go_wp2_with fail;refine bodyPost_ret (v:=.tuple #[V 0,V 0,.slice Xb tk1.length J_]) (by simp[results,results91,go_sem]) rfl ⟨_,by rw[HN.out],by rw[HN.out];exact Vt.out,X_⟩
end Go.Proofs.YtffnkkpmlplfeaaGreatDoor
