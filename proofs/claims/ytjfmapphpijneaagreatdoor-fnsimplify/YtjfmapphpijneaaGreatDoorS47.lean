import Derived.Deep.CutRange
import Derived.Test.YtjfmapphpijneaaGreatDoorS45
namespace Go.Proofs.YtjfmapphpijneaaGreatDoor
set_option linter.all false
set_option maxRecDepth 100000
set_option maxHeartbeats 0
open Go.Value List Go.Proofs.Tryz Go.RowKit
variable[Inhabited Pick]
theorem yU(n:Nat):sI n:=by
 induction n with
 | zero=>intro t vg vf vb vs vt ss a sc tk w hn hT hS Xo Yy hs ht Xg Ya Vf Vr ha Ze;obtain rfl:ss=[]:=J3 o_;rw[ee];have HT:=ah ht;obtain⟨ab,cb,rfl,-⟩:=hS;obtain⟨ag,cg,rfl,-⟩:=hT.g;obtain⟨af,cf,rfl,-⟩:=hT.f;obtain⟨Ub,Ue,rfl⟩:=hs.shape;obtain⟨Zz,Ve,rfl⟩:=ht.shape;clear hT hs ht;simp only[l_n]at*;go_in;go_wp2_with fail;refine wp_loop_rounds 1 ?_;rw[rounds_succ];go_wp2_with fail;refine bodyPost_ret (v:=.tuple #[V 0,V 0,.slice Zz tk.length Ve]) (by simp[results,results49,go_sem]) rfl ⟨_,rfl,HT.o.below (ao _ _),r_.alloc n_ _⟩
 | succ n ih=>
 intro t vg vf vb vs vt ss a sc tk w hn hT hS Xo Yy hs ht Xg Ya Vf Vr ha Ze;have IH:=ah ih;have HT:=ah hT;have HS:=ah hS;have HF:=ah Xo;have Zp:=ah Yy;have Xx:=ah hs;have Vg:=ah ht;obtain⟨ab,cb,rfl,Zv,Zu,Z_⟩:=hS;have Ug:=ah Z_;obtain⟨ag,cg,rfl,-⟩:=hT.g;obtain⟨af,cf,rfl,-⟩:=hT.f;obtain⟨Ub,Ue,rfl⟩:=hs.shape;obtain⟨Zz,Ve,rfl⟩:=ht.shape;clear hT hs ht Z_ Yy Xo ih;have⟨Jw,Xs⟩:=q_ (aL t ss a sc tk);rw[<-Xs];have Xy:=ah Xs;clear Xs;go_in;go_wp2;go_loopg[3,4,13] ss.length (λg sv tv i wr=>∃(k:Nat) (sc' tk':List Io),g=ss.length-k/\k<=ss.length/\i=V k/\be wr sv sc'/\be wr tv tk'/\Jw=aL t (ss.drop k) (a+k) sc' tk'/\bw (ss.drop k)=true/\sc'.length+(ss.length-k)<=800000/\tk'.length+(ss.length-k)<=800000/\Below (w.heap.size+1) (w.alloc (.cells #[.slice ag t.gl.length cg,.slice af t.fc.length cf] 26)) wr)
 case atStart=>exact⟨0,sc,tk,rfl,y_,rfl,Xx.o.below (ao _ _),Vg.o.below (ao _ _),IN Xy.o,IN HF.o,o_,o_,r_⟩
 case round=>
  obtain⟨k,Ja,tk1,Oc,hk,rfl,Zl,Zm,Yd,Js,Uo,Uj,hB⟩:=hrel;obtain⟨Xz,Yb,rfl⟩:=Zl.shape;obtain⟨Xb,J_,rfl⟩:=Zm.shape;have Ud:=ah Zl;have Vt:=ah Zm;have Zc:=ah Yd;have X_:=aw hB;have⟨x0,x1⟩:=jc hB;have Yh:w.heap.size<wr.heap.size:=by have:=hB.size;simp at this;omega
  clear Zl Zm Yd Xx Vg Xy HF;by_cases hlt:k<ss.length
  ·obtain⟨b,Yl,rfl,hc⟩:=Ug.o o_;have⟨ve,Oa,⟨c0,c1,c2,c3,c4,c5⟩,he,hf⟩:=(hc.below X_) k hlt;have Od:b<wr.heap.size:=b_ c0;have Xj:Hid (Jw=aL t (ss[k]::ss.drop (k+1)) (a+k) Ja tk1):=(by show _=_;rw[Zc.o,pd _ _ hlt]);rw[pd _ _ hlt,fitB_cons,J1,J1,J1,decide_eq_true_iff]at Js;obtain⟨⟨p1,p2,p3,p4⟩,Js,Xc,Vi⟩:=Js;have Zq:Hid (gE ss[k]):=Zp.o _ (g_ hlt);have Ym:(ss.drop (k+1)).length=ss.length-(k+1):=i_;rw[Ym]at p2 p4;have Vu:=ah he;have Vp:=ah hf;have Yi:=ah Js;have Yq:=ah Xc;have Zw:=ah Vi;obtain⟨a3,k3,rfl,-⟩:=he;obtain⟨a4,k4,rfl,-⟩:=hf;clear hc Zc Js Xc Vi;generalize ss[k]=s at c0 c1 c2 c3 c4 c5 Xj p1 p2 p3 p4 Zq Vu Vp Yi Yq Zw;have hA:Bl wr (wr.alloc (.cells #[V s.kd,sV s.nm,.slice a3 s.e.length k3,.slice a4 s.f.length k4,V s.th,V s.el] 79)):=ao _ _;have⟨z1,Yp⟩:=q_ (bK t Ja s.e);have⟨z2,Yn⟩:=q_ (bK t Ja (s.e++s.f));have Yj:=ah Yn;have Vh:Hid (z1≠0->z2=z1):=λh=>by rw[Yn,exprE_append,<-Yp,if_neg h]
   have Ua:Hid (z1=0->z2=bK t Ja s.f):=λh=>by rw[Yn,exprE_append,<-Yp,if_pos h]
   clear Yn;have⟨B0,Ye⟩:=q_ (wr.alloc (.cells #[V s.kd,sV s.nm,.slice a3 s.e.length k3,.slice a4 s.f.length k4,V s.th,V s.el] 79));have⟨M,hM⟩:=q_ wr.heap.size;have Jk:Hid (∀W,Bl B0 W->(W.cell? ⟨M,0,none⟩=some (V s.kd)/\W.cell? ⟨M,1,none⟩=some (sV s.nm)/\W.cell? ⟨M,2,none⟩=some (.slice a3 s.e.length k3)/\W.cell? ⟨M,3,none⟩=some (.slice a4 s.f.length k4)/\W.cell? ⟨M,4,none⟩=some (V s.th)/\W.cell? ⟨M,5,none⟩=some (V s.el))/\W.cell? ⟨w.heap.size,0,none⟩=some (.slice ag t.gl.length cg)/\W.cell? ⟨w.heap.size,1,none⟩=some (.slice af t.fc.length cf)/\M<W.heap.size/\Bl wr W):=λW hW=>by
    have J:Below (wr.heap.size+1) (wr.alloc (.cells #[V s.kd,sV s.nm,.slice a3 s.e.length k3,.slice a4 s.f.length k4,V s.th,V s.el] 79)) W:=by rw[<-Ye];exact hW.mono (by rw[Ye];simp)
    have h2:=aw J;refine⟨by rw[hM];exact sA J,(h2.cell (p:=⟨w.heap.size,0,none⟩) Yh).trans x0,(h2.cell (p:=⟨w.heap.size,1,none⟩) Yh).trans x1,?_,h2⟩;have:=J.size;simp at this;omega
   have Yg:Bl wr B0:=(by rw[Ye];exact hA);have Jz:Hid (∀W,Bl B0 W->Iv W t (.slice ag t.gl.length cg) (.slice af t.fc.length cf)/\be W (.slice Xz Ja.length Yb) Ja/\be W (.slice Xb tk1.length J_) tk1):=λW hW=>by have h2:Bl wr W:=Yg.trans (hW.mono Yg.size);exact⟨HT.o.below (X_.trans (h2.mono X_.size)),Ud.o.below h2,Vt.o.below h2⟩
   have Vv:Hid (∀W,Bl B0 W->aC W (.slice a3 s.e.length k3) s.e/\aC W (.slice a4 s.f.length k4) s.f):=λW hW=>by have h2:Bl wr W:=Yg.trans (hW.mono Yg.size);exact⟨Vu.o.below h2,Vp.o.below h2⟩
   have Vd:s.e.length<=1048576:=Zq.o.1;have Js:s.f.length<=1048576:=Zq.o.2;have Vq:=ah hB;go_wp2_with fail;rw[<-Ye,<-hM];have Ux:w.heap.size≠M:=o_;clear Ye hM x0 x1 c0 c1 c2 c3 c4 c5 hA hB X_ Yg;have⟨Jr,Jl,Jd⟩:=Jz.o B0 r_;refine(pq t Ja s.e _ _ _ _ B0 Xg Ya o_ Vd Jr.g Jr.f Jl (Vv.o B0 r_).1).mono ?_;rintro e w2 ⟨rfl,Jb⟩;rw[<-Yp];clear Yp Jr Jl Jd;go_upto_if 31 with fail
   go_cut [15]from 17 to 169 (λe W=>e=V z2/\Bl B0 W)
   case first=>as_aux_lemma=>
    have⟨⟨y0,Z,y2,y3,y4,y5⟩,x0,x1,Ju,Xk⟩:=Jk.o w2 Jb;by_cases h0:z1=0
    ·have HZ:Hid (z2=bK t Ja s.f):=Ua.o h0;subst h0;go_wp2_with fail;have⟨Jr,Jl,Jd⟩:=Jz.o w2 Jb;refine(pq t Ja s.f _ _ _ _ w2 Xg Ya o_ Js Jr.g Jr.f Jl (Vv.o w2 Jb).2).mono ?_;rintro e w3 ⟨rfl,Jg⟩;clear Jr Jl Jd;go_wp2;go_meet
     case rel=>exact⟨by rw[HZ.o],Jb.trans (Jg.mono Jb.size)⟩
    have HZ:Hid (z2=z1):=Vh.o h0;go_wp2;go_meet
    case rel=>exact⟨by rw[HZ.o],Jb⟩
   case rest=>
    clear Jb;obtain⟨rfl,Jb⟩:=hcut;have⟨b7,Xd⟩:=q_ (decide (z2=0/\s.kd=1/\(dF tk1 s.nm=true\/0<=globI t.gl s.nm)));have Xp:=ah Xd;clear Xd;go_upto_region 7 with fail;go_cut [56]from 17 to 169 (λe W=>e=.bool b7/\Bl B0 W)
    case first=>as_aux_lemma=>
     have⟨⟨y0,Z,y2,y3,y4,y5⟩,x0,x1,Ju,Xk⟩:=Jk.o wc Jb;clear y2 y3 y4 y5;by_cases h0:z2=0
     ·subst h0;by_cases hk1:s.kd=1
      ·rw[hk1]at y0;have⟨Jr,Jl,Jd⟩:=Jz.o wc Jb;have V_:=ah (gz tk1 _ s.nm wc o_ Jd);clear Jr Jl Jd;go_wp2_with fail;refine V_.o.mono ?_;rintro e w3 ⟨rfl,Jg⟩;have Jv:=Jb.trans (Jg.mono Jb.size);obtain⟨⟨q0,q1,-⟩,q6,q7,-⟩:=Jk.o w3 Jv;clear Jg y0 Z x0 x1 V_;cases hin:dF tk1 s.nm with
       | true=>
        have HV:Hid (b7=true):=(by show _=_;rw[Xp.o];simp[hk1,hin]);clear hin;go_wp2;go_meet
        case rel=>exact⟨by rw[HV.o],Jv⟩
       | false=>
        have⟨Jr,Jl,Jd⟩:=Jz.o w3 Jv;have Vx:Hid (Calls prog 48 #[.agg #[.slice ag t.gl.length cg,.slice af t.fc.length cf],sV s.nm] w3 λe w'=>e=rW (V (globI t.gl s.nm))/\Bl w3 w'):=ji t.gl _ _ s.nm w3 Xg Jr.g;clear Jr Jl Jd;have HV:Hid (b7=decide (0<=globI t.gl s.nm)):=(by show _=_;rw[Xp.o,hin];simp[hk1]);clear hin;go_wp2_with fail;refine Vx.o.mono ?_;rintro e w4 ⟨rfl,Ji⟩;have Za:=Jv.trans (Ji.mono Jv.size);clear Ji q0 q1 q6 q7 Vx;generalize globI t.gl s.nm=gi at HV⊢;go_wp2;go_meet
        case rel=>exact⟨by rw[HV.o],Za⟩
      have HV:Hid (b7=false):=(by show _=_;rw[Xp.o,decide_eq_false_iff_not];exact λh=>hk1 h.2.1);have b1:(s.kd == 1)=false:=(IN hk1);go_wp2;go_meet
      case rel=>exact⟨by rw[HV.o],Jb⟩
     have HV:Hid (b7=false):=(by show _=_;rw[Xp.o,decide_eq_false_iff_not];exact λh=>h0 h.1);have b1:(z2 == 0)=false:=(IN h0);go_wp2;go_meet
     case rel=>exact⟨by rw[HV.o],Jb⟩
    case rest=>
     clear Jb;obtain⟨rfl,Jb⟩:=hcut;have Uy:IntKind.i64.wrap (a+(k:Int))=a+(k:Int):=(by simp[IntKind.wrap,IntKind.bits,IntKind.signed];omega);have Xh:Hid (∀W,Bl B0 W->Bl w W):=λW hW=>by have J:=aw Vq;have h2:=(Jk.o W hW).2.2.2.2;exact J.trans (h2.mono J.size)
     have⟨z4,Vz⟩:=q_ (bC t Ja tk1 s);have Yk:=ah Vz;clear Vz;cases Xd:b7 with
     | true=>
      have HE:Hid (Jw=(2,a+k,tk1)):=by have J:=Xp.o;rw[Xd]at J;have h2:=of_decide_eq_true J.symm;have h3:bC t Ja tk1 s=2:=(by rw[iY (by rw[<-Yj.o];exact h2.1) h2.2.1,if_pos h2.2.2]);show _=_;rw[Xj.o,eZ (by rw[h3];decide),h3]
      clear Xd;go_wp2_with fail;refine bodyPost_ret (v:=.tuple #[V 2,V (a+k),.slice Xb tk1.length J_]) (by simp[results,results49,go_sem]) rfl ⟨_,by rw[HE.o],by rw[HE.o];exact(Jz.o wc Jb).2.2,Xh.o wc Jb⟩
     | false=>
      by_cases h0:z2=0
      ·have HQ:Hid (z4=if s.kd=2\/s.kd=3 then dU t.gl Ja s.nm (decide (s.kd=3))else 0):=by have hq:bK t Ja (s.e++s.f)=0:=(by rw[<-Yj.o];exact h0);have J:=Xp.o;rw[Xd]at J;have h2:=of_decide_eq_false J.symm;show _=_;rw[Yk.o];by_cases hk1:s.kd=1;rw[iY hq hk1,if_neg (λh=>h2 ⟨h0,hk1,h⟩),if_neg o_];by_cases hk2:s.kd=2\/s.kd=3;rw[lK hq hk2,if_pos hk2];rw[oG hq hk1 (λh=>hk2 (.inl h)) (λh=>hk2 (.inr h)),if_neg hk2]
       subst h0;clear Xd;have⟨b9,Xi⟩:=q_ (decide (s.kd=2\/s.kd=3));have Xv:=ah Xi;clear Xi;go_upto_region 9 with fail;go_cut [68]from 17 to 169 (λe W=>e=.bool b9/\W=wc)
       case first=>as_aux_lemma=>
        obtain⟨⟨y0,-⟩,-⟩:=Jk.o wc Jb;by_cases hk2:s.kd=2
        ·have HV:Hid (b9=true):=(by show _=_;rw[Xv.o];simp[hk2]);rw[hk2]at y0;go_wp2;go_meet
         case rel=>exact⟨by rw[HV.o],rfl⟩
        by_cases hk3:s.kd=3
        ·have HV:Hid (b9=true):=(by show _=_;rw[Xv.o];simp[hk3]);rw[hk3]at y0;go_wp2;go_meet
         case rel=>exact⟨by rw[HV.o],rfl⟩
        have HV:Hid (b9=false):=(by show _=_;rw[Xv.o];simp[hk2,hk3]);have b2:(s.kd == 2)=false:=(IN hk2);have b3:(s.kd == 3)=false:=(IN hk3);go_wp2;go_meet
        case rel=>exact⟨by rw[HV.o],rfl⟩
       case rest=>
        obtain⟨rfl,rfl⟩:=hcut;go_upto_if 68 with fail
        go_cut [15]from 17 to 169 (λe W=>e=V z4/\Bl B0 W)
        case first=>as_aux_lemma=>
         cases Xi:b9 with
         | true=>
          have h2:s.kd=2\/s.kd=3:=by have J:=Xv.o;rw[Xi]at J;exact of_decide_eq_true J.symm
          have HV:Hid (z4=dU t.gl Ja s.nm (decide (s.kd=3))):=(by show _=_;rw[HQ.o,if_pos h2]);obtain⟨⟨y0,Z,-⟩,x0,x1,-⟩:=Jk.o wc Jb;have⟨Jr,Jl,Jd⟩:=Jz.o wc Jb;have Yo:Hid (∀ar,Calls prog 76 #[.agg #[.slice ag t.gl.length cg,.slice af t.fc.length cf],.slice Xz Ja.length Yb,sV s.nm,.bool ar] wc λe w'=>e=rW (V (dU t.gl Ja s.nm ar))/\Bl wc w'):=λar=>rh t.gl Ja _ _ _ s.nm ar wc Xg o_ ⟨_,_,_,rfl⟩ Jr.g Jl;clear Jr Jl Jd Xi;rcases h2 with h2|h2
          ·rw[h2]at y0;have Zk:Hid (z4=dU t.gl Ja s.nm false):=(by show _=_;rw[HV.o,h2];rfl);go_wp2_with fail;refine(Yo.o false).mono ?_;rintro e w3 ⟨rfl,Jg⟩;rw[<-Zk.o];clear y0 Z x0 x1 Yo;go_wp2;go_meet
           case rel=>exact⟨rfl,Jb.trans (Jg.mono Jb.size)⟩
          rw[h2]at y0;have Zk:Hid (z4=dU t.gl Ja s.nm true):=(by show _=_;rw[HV.o,h2];rfl);go_wp2_with fail;refine(Yo.o true).mono ?_;rintro e w3 ⟨rfl,Jg⟩;rw[<-Zk.o];clear y0 Z x0 x1 Yo;go_wp2;go_meet
          case rel=>exact⟨rfl,Jb.trans (Jg.mono Jb.size)⟩
         | false=>
          have h2:¬(s.kd=2\/s.kd=3):=by have J:=Xv.o;rw[Xi]at J;exact of_decide_eq_false J.symm
          have HV:Hid (z4=0):=(by show _=_;rw[HQ.o,if_neg h2]);clear Xi;go_wp2;go_meet
          case rel=>exact⟨by rw[HV.o],Jb⟩
        case rest=>
         clear Jb HQ Xv Xp Yj Vh Ua;obtain⟨rfl,Jb⟩:=hcut;by_cases h4:z4=0
         ·have Yx:Hid (bC t Ja tk1 s=0):=(by show _=_;rw[<-Yk.o];exact h4);subst h4;clear Yk;obtain⟨⟨y0,Z,-⟩,-⟩:=Jk.o wc Jb;go_upto_if 86 with fail
          go_cut [3,4]from 17 to 169 (λsv tv W=>be W sv (aP s Ja)/\be W tv (aP s tk1)/\Bl B0 W)
          case first=>as_aux_lemma=>
           obtain⟨-,Jl,Jd⟩:=Jz.o wc Jb;have Jy:=ah Jl;have Jq:=ah Jd;clear Jl Jd;by_cases hk1:s.kd=1
           ·have Xx:Hid (aP s Ja=Ja++[s.nm]):=jR hk1 Ja;have Zy:Hid (aP s tk1=tk1++[s.nm]):=jR hk1 tk1;rw[hk1]at y0⊢;clear hk1;have PA:=GW wc _ _ Jy;have PB:=GX wc _ _ s.nm Jy;have PC:=GY wc _ _ s.nm Jy;have Jt:=ah PA;have Jp:=ah PB;have Jo:=ah PC;clear PA PB PC;have Ju:M<wc.heap.size:=(Jk.o wc Jb).2.2.2.1;have Y_:M≠wc.heap.size:=o_
            have Xt:M≠wc.heap.size+1:=o_;have Jj:=ah Ju;go_upto_region 14 with fail;go_cut [3]from 17 to 169 (λsv W=>be W sv (Ja++[s.nm])/\Bl wc W)
            case first=>as_aux_lemma=>
             go_region_held_law (λW=>W.cell? ⟨M,1,none⟩=some (sV s.nm)) (first | go_keep | (go_split_ands;exact yA) | (go_split_ands;exact yB))
              (first
              | (refine bU Ic _ _ Ic wc.heap.size (.slice (some ⟨wc.heap.size,0,none⟩) 0 0) [] Ic Jt.o.1 (.slice Xz Ja.length Yb) Ja Ic Jt.o.2.1 H6 Jt.o.2.2.size ?_;intro v1 w1 Jh Jm Js;have Jf:Bl wc w1:=jv Jt.o.2.2 Jt.o.1 Jm;have yA:=(Jf.cell (p:=⟨M,1,none⟩) Jj).trans Z)
              | (refine bU Ic _ _ Ic wc.heap.size (.slice (some ⟨wc.heap.size,0,none⟩) 0 0) [] Ic Jp.o.1 (.slice Xz Ja.length Yb) Ja Ic Jp.o.2.1 H6 Jp.o.2.2.1.size ?_;intro v1 w1 Jh Jm Js;have Jf:Bl wc w1:=jv Jp.o.2.2.1 Jp.o.1 Jm;have yA:=(Jf.cell (p:=⟨M,1,none⟩) Jj).trans Z;have Zf:=(c_ (a:=⟨wc.heap.size+1,0,none⟩) (Jm.block (wc.heap.size+1) i_ (by simp[ownBlock]))).trans Jp.o.2.2.2)
              | (refine bU Ic _ _ Ic wc.heap.size (.slice (some ⟨wc.heap.size+1,0,none⟩) 0 0) [] Ic Jo.o.1 (.slice Xz Ja.length Yb) Ja Ic Jo.o.2.1 H6 Jo.o.2.2.1.size ?_;intro v1 w1 Jh Jm Js;have Jf:Bl wc w1:=jv Jo.o.2.2.1 Jo.o.1 Jm;have yA:=(Jf.cell (p:=⟨M,1,none⟩) Jj).trans Z;have Yv:=(c_ (a:=⟨wc.heap.size,0,none⟩) (Jm.block (wc.heap.size) H6 (by simp[ownBlock]))).trans Jo.o.2.2.2)
              | (refine bU Ic _ _ Ic wc.heap.size v1 Ja Ic (eF.below Jh (ao _ _)) (.slice (some ⟨w1.heap.size,0,none⟩) 1 1) [s.nm] Ic (wY w1 s.nm 9) H6 (t_ Jf.size i_) ?_;intro v2 w2 Xn Jx Xc;have Jc:Bl wc w2:=jv (Jf.alloc Jf.size _) (eF.below Jh (ao _ _)) Jx;have yB:=(Jc.cell (p:=⟨M,1,none⟩) Jj).trans Z)
              | (refine bU Ic _ _ Ic wc.heap.size v1 Ja Ic Jh (.slice (some ⟨wc.heap.size+1,0,none⟩) 1 1) [s.nm] Ic (gT Zf) H6 Jf.size ?_;intro v2 w2 Xn Jx Xc;have Jc:Bl wc w2:=jv Jf Jh Jx;have yB:=(Jc.cell (p:=⟨M,1,none⟩) Jj).trans Z)
              | (refine bU Ic _ _ Ic wc.heap.size v1 Ja Ic Jh (.slice (some ⟨wc.heap.size,0,none⟩) 1 1) [s.nm] Ic (gT Yv) H6 Jf.size ?_;intro v2 w2 Xn Jx Xc;have Jc:Bl wc w2:=jv Jf Jh Jx;have yB:=(Jc.cell (p:=⟨M,1,none⟩) Jj).trans Z))
             all_goals (simp only[getElem_toArray,getElem_cons_succ,getElem_cons_zero])
             all_goals (go_wp2_with fail)
             all_goals go_meet
             all_goals exact⟨eF.strs Xn H6,Jc⟩
            case rest=>
             clear Jt Jp Jo Ju Y_ Xt Jj Jy Jq y0 Z;obtain⟨Yr,Jg⟩:=hcut;have Zd:=ah Yr;obtain⟨a9,c9,rfl⟩:=Yr.shape;have Yf:(Ja++[s.nm]).length=Ja.length+1:=i_;rw[Yf]at Zd⊢;clear Yf;have Je:=Jb.trans (Jg.mono Jb.size);clear Jb Jg Yr;obtain⟨⟨y0,Z,-⟩,-⟩:=Jk.o wc Je;have Jq:Hid (be wc (.slice Xb tk1.length J_) tk1):=(Jz.o wc Je).2.2;have PA:=GW wc _ _ Jq;have PB:=GX wc _ _ s.nm Jq;have PC:=GY wc _ _ s.nm Jq;have Jt:=ah PA;have Jp:=ah PB;have Jo:=ah PC;clear PA PB PC;have Ju:M<wc.heap.size:=(Jk.o wc Je).2.2.2.1;have Y_:M≠wc.heap.size:=o_;have Xt:M≠wc.heap.size+1:=o_;have Jj:=ah Ju;go_upto_region 15 with fail;go_cut [4]from 17 to 169 (λsv W=>be W sv (tk1++[s.nm])/\Bl wc W)
             case first=>as_aux_lemma=>
              go_region_held_law (λW=>W.cell? ⟨M,1,none⟩=some (sV s.nm)) (first | go_keep | (go_split_ands;exact yA) | (go_split_ands;exact yB))
               (first
               | (refine bU Ic _ _ Ic wc.heap.size (.slice (some ⟨wc.heap.size,0,none⟩) 0 0) [] Ic Jt.o.1 (.slice Xb tk1.length J_) tk1 Ic Jt.o.2.1 H6 Jt.o.2.2.size ?_;intro v1 w1 Jh Jm Js;have Jf:Bl wc w1:=jv Jt.o.2.2 Jt.o.1 Jm;have yA:=(Jf.cell (p:=⟨M,1,none⟩) Jj).trans Z)
               | (refine bU Ic _ _ Ic wc.heap.size (.slice (some ⟨wc.heap.size,0,none⟩) 0 0) [] Ic Jp.o.1 (.slice Xb tk1.length J_) tk1 Ic Jp.o.2.1 H6 Jp.o.2.2.1.size ?_;intro v1 w1 Jh Jm Js;have Jf:Bl wc w1:=jv Jp.o.2.2.1 Jp.o.1 Jm;have yA:=(Jf.cell (p:=⟨M,1,none⟩) Jj).trans Z;have Zf:=(c_ (a:=⟨wc.heap.size+1,0,none⟩) (Jm.block (wc.heap.size+1) i_ (by simp[ownBlock]))).trans Jp.o.2.2.2)
               | (refine bU Ic _ _ Ic wc.heap.size (.slice (some ⟨wc.heap.size+1,0,none⟩) 0 0) [] Ic Jo.o.1 (.slice Xb tk1.length J_) tk1 Ic Jo.o.2.1 H6 Jo.o.2.2.1.size ?_;intro v1 w1 Jh Jm Js;have Jf:Bl wc w1:=jv Jo.o.2.2.1 Jo.o.1 Jm;have yA:=(Jf.cell (p:=⟨M,1,none⟩) Jj).trans Z;have Yv:=(c_ (a:=⟨wc.heap.size,0,none⟩) (Jm.block (wc.heap.size) H6 (by simp[ownBlock]))).trans Jo.o.2.2.2)
               | (refine bU Ic _ _ Ic wc.heap.size v1 tk1 Ic (eF.below Jh (ao _ _)) (.slice (some ⟨w1.heap.size,0,none⟩) 1 1) [s.nm] Ic (wY w1 s.nm 9) H6 (t_ Jf.size i_) ?_;intro v2 w2 Xn Jx Xc;have Jc:Bl wc w2:=jv (Jf.alloc Jf.size _) (eF.below Jh (ao _ _)) Jx;have yB:=(Jc.cell (p:=⟨M,1,none⟩) Jj).trans Z)
               | (refine bU Ic _ _ Ic wc.heap.size v1 tk1 Ic Jh (.slice (some ⟨wc.heap.size+1,0,none⟩) 1 1) [s.nm] Ic (gT Zf) H6 Jf.size ?_;intro v2 w2 Xn Jx Xc;have Jc:Bl wc w2:=jv Jf Jh Jx;have yB:=(Jc.cell (p:=⟨M,1,none⟩) Jj).trans Z)
               | (refine bU Ic _ _ Ic wc.heap.size v1 tk1 Ic Jh (.slice (some ⟨wc.heap.size,0,none⟩) 1 1) [s.nm] Ic (gT Yv) H6 Jf.size ?_;intro v2 w2 Xn Jx Xc;have Jc:Bl wc w2:=jv Jf Jh Jx;have yB:=(Jc.cell (p:=⟨M,1,none⟩) Jj).trans Z))
              all_goals (simp only[getElem_toArray,getElem_cons_succ,getElem_cons_zero])
              all_goals (go_wp2_with fail)
              all_goals go_meet
              all_goals exact⟨eF.strs Xn H6,Jc⟩
             case rest=>
              clear Jt Jp Jo Ju Y_ Xt Jj Jq y0 Z;obtain⟨Xw,Ji⟩:=hcut;have Us:=ah Xw;have Uk:=ah (Zd.o.below Ji);have Yz:=Je.trans (Ji.mono Je.size);clear Ji Xw Je Zd;go_wp2;go_meet
              case rel=>exact⟨by rw[Xx.o];exact Uk,by rw[Zy.o];exact Us,Yz⟩
           have Xx:Hid (aP s Ja=Ja):=fm hk1 Ja;have Zy:Hid (aP s tk1=tk1):=fm hk1 tk1;have b1:(s.kd == 1)=false:=(IN hk1);go_wp2;go_meet
           case rel=>exact⟨by rw[Xx.o];exact Jy,by rw[Zy.o];exact Jq,Jb⟩
          case rest=>
           clear Jb y0 Z;obtain⟨Yt,Zt,Jb⟩:=hcut;have Jy:=ah Yt;have Xr:=ah Zt;obtain⟨a8,c8,rfl⟩:=Yt.shape;obtain⟨a9,c9,rfl⟩:=Zt.shape;clear Yt Zt;have⟨l8,Ys⟩:=q_ ((aP s Ja).length);have⟨l9,Zx⟩:=q_ ((aP s tk1).length);have Va:=kP s Ja;have Vc:=kP s tk1;rw[<-Ys]at Jy Va⊢;rw[<-Zx]at Xr Vc⊢;have Zn:=ah Ys;have Vk:=ah Zx;clear Ys Zx;have⟨I,Yu⟩:=Int.eq_ofNat_of_zero_le p1;have⟨U,Yw⟩:=Int.eq_ofNat_of_zero_le p3;have Xe:Hid (s.th.toNat=I/\s.el.toNat=U):=⟨o_,o_⟩;have Xm:Hid (s.th=I/\s.el=U):=⟨Yu,Yw⟩;have Ur:k+1+I<=ss.length:=o_;have Zg:k+1+I+U<=ss.length:=o_;rw[Xe.o.1]at Yi;rw[Xe.o.1,Xe.o.2]at Yq Zw;have Uc:=ah Ym;obtain⟨a5,k5,Ul,Vj⟩:∃a5 k5,(∀w:AT,(Instr.slice 50 (.slice (some ⟨b,Yl,none⟩) ss.length cb) (some (V ((k:Int)+1))) (some (V ((k:Int)+1+(I:Int)))) none).run prog w=.ok (.slice a5 I k5) w)/\aZ w (.slice a5 I k5) ((ss.drop (k+1)).take I):=by have h:=jD (some ⟨b,Yl,none⟩) ss.length cb (k+1) (k+1+I) o_ o_ o_ ((k:Int)+1) ((k:Int)+1+(I:Int)) o_ o_;have h':=HS.o.cut (k+1) (k+1+I) o_ o_;rw[show k+1+I-(k+1)=I by omega]at h h';rw[drop_take_2]at h';exact⟨_,_,h,h'⟩
           obtain⟨a6,k6,Ui,Vb⟩:∃a6 k6,(∀w:AT,(Instr.slice 50 (.slice (some ⟨b,Yl,none⟩) ss.length cb) (some (V ((k:Int)+1+(I:Int)))) (some (V ((k:Int)+1+(I:Int)+(U:Int)))) none).run prog w=.ok (.slice a6 U k6) w)/\aZ w (.slice a6 U k6) (((ss.drop (k+1)).take (I+U)).drop I):=by have h:=jD (some ⟨b,Yl,none⟩) ss.length cb (k+1+I) (k+1+I+U) o_ o_ o_ ((k:Int)+1+(I:Int)) ((k:Int)+1+(I:Int)+(U:Int)) o_ o_;have h':=HS.o.cut (k+1+I) (k+1+I+U) o_ o_;rw[show k+1+I+U-(k+1+I)=U by omega]at h h';rw[uI]at h';exact⟨_,_,h,h'⟩
           have Vn:=ah Vj;have Vl:=ah Vb;clear Vj Vb;have Xq:=Xh.o wc Jb;have Vy:Hid (Calls prog 49 #[.agg #[.slice ag t.gl.length cg,.slice af t.fc.length cf],.slice a5 I k5,V (a+k+1),.slice a8 l8 c8,.slice a9 l9 c9] wc.drew λe w'=>∃vt',e=rW (.tuple #[V (aL t ((ss.drop (k+1)).take I) (a+k+1) (aP s Ja) (aP s tk1)).1,V (aL t ((ss.drop (k+1)).take I) (a+k+1) (aP s Ja) (aP s tk1)).2.1,vt'])/\be w' vt' (aL t ((ss.drop (k+1)).take I) (a+k+1) (aP s Ja) (aP s tk1)).2.2/\Bl wc.drew w'):=by have Yc:Bl wc wc.drew:=r_.drew;have e8:=Zn.o;have e9:=Vk.o;have Ym:=Uc.o;exact IH.o t _ _ _ _ _ _ (a+k+1) (aP s Ja) (aP s tk1) wc.drew H6 (HT.o.below (Xq.drew)) (Vn.o.below Xq.drew) Yi.o (λx hx=>Zp.o x (J6 (mem_of_mem_take hx))) (Jy.o.below Yc) (Xr.o.below Yc) Xg Ya H6 H6 o_ H6
           have⟨⟨y0,Z,y2,y3,y4,y5⟩,x0,x1,Ju,Xk⟩:=Jk.o wc Jb;rw[Yu]at y4;rw[Yw]at y5;have Jn:w.heap.size<wc.heap.size:=l_ Yh Xk.size;have Uw:IntKind.i64.wrap ((k:Int)+1)=(k:Int)+1:=(by simp[IntKind.wrap,IntKind.bits,IntKind.signed];omega);have U_:IntKind.i64.wrap ((k:Int)+1+(I:Int))=(k:Int)+1+(I:Int):=(by simp[IntKind.wrap,IntKind.bits,IntKind.signed];omega);have Uv:IntKind.i64.wrap (a+(k:Int)+1)=a+(k:Int)+1:=(by simp[IntKind.wrap,IntKind.bits,IntKind.signed];omega);have Uz:IntKind.i64.wrap (a+(k:Int)+1+(I:Int))=a+(k:Int)+1+(I:Int):=(by simp[IntKind.wrap,IntKind.bits,IntKind.signed];omega);have Uu:IntKind.i64.wrap ((k:Int)+1+(I:Int)+(U:Int))=(k:Int)+1+(I:Int)+(U:Int):=(by simp[IntKind.wrap,IntKind.bits,IntKind.signed];omega);have Vs:Hid (0<=a/\a+ss.length<=800000/\l8+(ss.length-(k+1))<=800000/\l9+(ss.length-(k+1))<=800000/\ss.length<=n+1):=⟨ha,Ze,o_,o_,hn⟩;clear y0 Z y2 y3 Va Vc p1 p2 p3 p4 Uo Uj Vf Vr Ze ha hn Vd Js Zv Zu Yu Yw Ym Xk Ju;go_upto_region 17 with fail;go_cut [4,15,16]from 17 to 169 (λtv ev sv W=>ev=V (aL t ((ss.drop (k+1)).take I) (a+k+1) (aP s Ja) (aP s tk1)).1/\sv=V (aL t ((ss.drop (k+1)).take I) (a+k+1) (aP s Ja) (aP s tk1)).2.1/\be W tv (aL t ((ss.drop (k+1)).take I) (a+k+1) (aP s Ja) (aP s tk1)).2.2/\Bl wc W)
           case first=>as_aux_lemma=>
            go_region_held3 (λW=>W.cell? ⟨w.heap.size,0,none⟩=some (.slice ag t.gl.length cg)/\W.cell? ⟨w.heap.size,1,none⟩=some (.slice af t.fc.length cf)/\W.cell? ⟨M,4,none⟩=some (V I)) (go_simp)
             (first
             | ((with_reducible refine Calls.mono Vy.o ?_);rintro e w4 ⟨Um,rfl,Xw,Ji⟩;have Zb:w4.cell? ⟨w.heap.size,0,none⟩=some (.slice ag t.gl.length cg):=(Ji.cell (p:=⟨w.heap.size,0,none⟩) Jn).trans x0;have Zj:w4.cell? ⟨w.heap.size,1,none⟩=some (.slice af t.fc.length cf):=(Ji.cell (p:=⟨w.heap.size,1,none⟩) Jn).trans x1;have Zr:w4.cell? ⟨M,4,none⟩=some (.int .i64 I):=(Ji.cell (p:=⟨M,4,none⟩) (Jk.o wc Jb).2.2.2.1).trans y4))
            go_wp2;go_meet
            case rel=>exact⟨rfl,rfl,Xw,(r_.drew).trans Ji⟩
           case rest=>
            obtain⟨rfl,rfl,Xa,Jg⟩:=hcut;have⟨X,hX⟩:=q_ (aL t ((ss.drop (k+1)).take I) (a+k+1) (aP s Ja) (aP s tk1));rw[<-hX]at Xa⊢;have HX:Hid (X=aL t ((ss.drop (k+1)).take s.th.toNat) (a+k+1) (aP s Ja) (aP s tk1)):=(by show _=_;rw[Xe.o.1];exact hX);have Vw:Hid (X.2.2.length<=l9+I):=by have J:=kQ t _ ((ss.drop (k+1)).take I) (a+k+1) (aP s Ja) (aP s tk1) n_;rw[<-hX,<-Vk.o]at J;simp at J;show _<=_;omega
            clear hX Vy Ul Vn Yi Xr y4 y5 x0 x1;have Xu:=ah Xa;obtain⟨a7,c7,rfl⟩:=Xa.shape;have Je:=Jb.trans (Jg.mono Jb.size);have Xf:Hid (be wc (.slice a8 l8 c8) (aP s Ja)):=Jy.o.below Jg;clear Xa Jb Jg Jy Xq Jn;have⟨l7,Zo⟩:=q_ X.2.2.length;rw[<-Zo]at Xu⊢;have Zs:=ah Zo;clear Zo;by_cases hX1:X.1=0
            ·have Vo:=ah hX1;rw[hX1];have Xq:=Xh.o wc Je;have Vm:Hid (Calls prog 49 #[.agg #[.slice ag t.gl.length cg,.slice af t.fc.length cf],.slice a6 U k6,V (a+k+1+I),.slice a8 l8 c8,.slice a7 l7 c7] wc.drew λe w'=>∃vt',e=rW (.tuple #[V (aL t (((ss.drop (k+1)).take (I+U)).drop I) (a+k+1+I) (aP s Ja) X.2.2).1,V (aL t (((ss.drop (k+1)).take (I+U)).drop I) (a+k+1+I) (aP s Ja) X.2.2).2.1,vt'])/\be w' vt' (aL t (((ss.drop (k+1)).take (I+U)).drop I) (a+k+1+I) (aP s Ja) X.2.2).2.2/\Bl wc.drew w'):=by have Yc:Bl wc wc.drew:=r_.drew;have e8:=Zn.o;have e7:=Zs.o;have Uh:=Vw.o;have Ut:=Vs.o;have Uf:(((ss.drop (k+1)).take (I+U)).drop I).length=U:=H6;exact IH.o t _ _ _ _ _ _ (a+k+1+I) (aP s Ja) X.2.2 wc.drew o_ (HT.o.below (Xq.drew)) (Vl.o.below Xq.drew) Yq.o (λx hx=>Zp.o x (J6 (mem_of_mem_take (J6 hx)))) (Xf.o.below Yc) (Xu.o.below Yc) Xg Ya o_ o_ o_ o_
             obtain⟨⟨-,-,-,-,y4,y5⟩,x0,x1,Ju,Xk⟩:=Jk.o wc Je;rw[Xm.o.1]at y4;rw[Xm.o.2]at y5;have Jn:w.heap.size<wc.heap.size:=l_ Yh Xk.size;clear hX1 Xk Xq;go_upto_region 19 with fail;go_cut [4,15,16]from 17 to 169 (λtv ev sv W=>ev=V (aL t (((ss.drop (k+1)).take (I+U)).drop I) (a+k+1+I) (aP s Ja) X.2.2).1/\sv=V (aL t (((ss.drop (k+1)).take (I+U)).drop I) (a+k+1+I) (aP s Ja) X.2.2).2.1/\be W tv (aL t (((ss.drop (k+1)).take (I+U)).drop I) (a+k+1+I) (aP s Ja) X.2.2).2.2/\Bl wc W)
             case first=>as_aux_lemma=>
              go_region_held3 (λW=>W.cell? ⟨w.heap.size,0,none⟩=some (.slice ag t.gl.length cg)/\W.cell? ⟨w.heap.size,1,none⟩=some (.slice af t.fc.length cf)/\W.cell? ⟨M,4,none⟩=some (V I)/\W.cell? ⟨M,5,none⟩=some (V U)) (go_simp)
               (first
               | ((with_reducible refine Calls.mono Vm.o ?_);rintro e w4 ⟨Um,rfl,Xw,Ji⟩;have Zb:w4.cell? ⟨w.heap.size,0,none⟩=some (.slice ag t.gl.length cg):=(Ji.cell (p:=⟨w.heap.size,0,none⟩) Jn).trans x0;have Zj:w4.cell? ⟨w.heap.size,1,none⟩=some (.slice af t.fc.length cf):=(Ji.cell (p:=⟨w.heap.size,1,none⟩) Jn).trans x1;have Zr:w4.cell? ⟨M,4,none⟩=some (.int .i64 I):=(Ji.cell (p:=⟨M,4,none⟩) Ju).trans y4;have Uq:w4.cell? ⟨M,5,none⟩=some (.int .i64 U):=(Ji.cell (p:=⟨M,5,none⟩) Ju).trans y5))
              go_wp2;go_meet
              case rel=>exact⟨rfl,rfl,Xw,(r_.drew).trans Ji⟩
             case rest=>
              obtain⟨rfl,rfl,Xa,Jg⟩:=hcut;have⟨Y,hY⟩:=q_ (aL t (((ss.drop (k+1)).take (I+U)).drop I) (a+k+1+I) (aP s Ja) X.2.2);rw[<-hY]at Xa⊢;have HY:Hid (Y=aL t (((ss.drop (k+1)).drop s.th.toNat).take s.el.toNat) (a+k+1+s.th) (aP s Ja) X.2.2):=(by show _=_;rw[Xe.o.1,Xe.o.2,Xm.o.1,<-drop_take_2];exact hY);have Un:Hid (Y.2.2.length<=l7+U):=by have J:=kQ t _ (((ss.drop (k+1)).take (I+U)).drop I) (a+k+1+I) (aP s Ja) X.2.2 n_;rw[<-hY,<-Zs.o]at J;simp at J;show _<=_;omega
              clear hY Vm Ui Vl Yq Xu y4 y5 x0 x1;have Xu:=ah Xa;obtain⟨a7,c7,rfl⟩:=Xa.shape;have Xl:=Je.trans (Jg.mono Je.size);have Zh:Hid (be wc (.slice a8 l8 c8) (aP s Ja)):=Xf.o.below Jg;clear Xa Je Jg Xf Jn Ju;by_cases hY1:Y.1=0
              ·have Up:Hid (Jw=aL t (ss.drop (k+1+I+U)) (a+((k+1+I+U:Nat):Int)) (aP s Ja) Y.2.2):=by
                have J:=ey (r:=ss.drop (k+1)) (a:=a+k) (tk1:=X.2.2) (tk2:=Y.2.2) Yx.o (by rw[<-HX.o];exact Vo) (by rw[<-HX.o]) (by rw[<-HY.o];exact hY1) (by rw[<-HY.o]);rw[Xe.o.1,Xe.o.2,Xm.o.1,Xm.o.2,drop_drop]at J;show _=_;rw[Xj.o,J];congr 1
                congr 1;omega
                omega
               have Zi:Hid (bw (ss.drop (k+1+I+U))=true):=by have J:=Zw.o;rw[drop_drop]at J;have e:k+1+(I+U)=k+1+I+U:=o_;rw[e]at J;exact J
               rw[hY1];obtain⟨⟨-,-,-,-,y4,y5⟩,-⟩:=Jk.o wc Xl;rw[Xm.o.1]at y4;rw[Xm.o.2]at y5;clear hY1;go_wp2;go_roundg (ss.length-(k+1+I+U))
               case measure=>omega
               case rel=>have e8:=Zn.o;have e7:=Zs.o;have Ob:=Un.o;have Uh:=Vw.o;have Ut:=Vs.o;exact⟨k+1+I+U,aP s Ja,Y.2.2,rfl,Zg,i_,Zh,Xu,Up,Zi,o_,o_,by have J:=Vq.o;have h2:=(Jk.o wc Xl).2.2.2.2;exact J.trans (h2.mono (by have:=J.size;simpa using this))⟩
              have HE:Hid (Jw=Y):=by have h3:=fA (r:=ss.drop (k+1)) (a:=a+k) (tk1:=X.2.2) Yx.o (by rw[<-HX.o];exact Vo) (by rw[<-HX.o]) (by rw[<-HY.o];exact hY1);show Jw=Y;rw[Xj.o,h3,<-HY.o]
              have b1:(Y.1 == 0)=false:=(IN hY1);go_wp2_with fail;refine bodyPost_ret (v:=.tuple #[V Y.1,V Y.2.1,.slice a7 Y.2.2.length c7]) (by simp[results,results49,go_sem]) rfl ⟨_,by rw[HE.o],by rw[HE.o];exact Xu,Xh.o wc Xl⟩
            have HE:Hid (Jw=X):=by have h3:=fy (r:=ss.drop (k+1)) (a:=a+k) Yx.o (by rw[<-HX.o];exact hX1);show Jw=X;rw[Xj.o,h3,<-HX.o]
            have b1:(X.1 == 0)=false:=(IN hX1);go_wp2_with fail;refine bodyPost_ret (v:=.tuple #[V X.1,V X.2.1,.slice a7 l7 c7]) (by simp[results,results49,go_sem]) rfl ⟨_,by rw[HE.o],by rw[HE.o];exact Xu,Xh.o wc Je⟩
         have HE:Hid (Jw=(z4,a+k,tk1)):=by have h3:=Yk.o;show _=_;rw[Xj.o,eZ (by rw[<-h3];exact h4),<-h3]
         have b1:(z4 == 0)=false:=(IN h4);go_wp2_with fail;refine bodyPost_ret (v:=.tuple #[V z4,V (a+k),.slice Xb tk1.length J_]) (by simp[results,results49,go_sem]) rfl ⟨_,by rw[HE.o],by rw[HE.o];exact(Jz.o wc Jb).2.2,Xh.o wc Jb⟩
      have HE:Hid (Jw=(z2,a+k,tk1)):=by have J:=Yj.o;have h3:bC t Ja tk1 s=z2:=(by rw[oE (by rw[<-J];exact h0),<-J]);show _=_;rw[Xj.o,eZ (by rw[h3];exact h0),h3]
      have b1:(z2 == 0)=false:=(IN h0);clear Xd;go_wp2_with fail;refine bodyPost_ret (v:=.tuple #[V z2,V (a+k),.slice Xb tk1.length J_]) (by simp[results,results49,go_sem]) rfl ⟨_,by rw[HE.o],by rw[HE.o];exact(Jz.o wc Jb).2.2,Xh.o wc Jb⟩
  have HN:Hid (Jw=(0,0,tk1)):=by show _=_;rw[Zc.o,drop_of_length_le o_,ee]
  clear hB;go_wp2_with fail;refine bodyPost_ret (v:=.tuple #[V 0,V 0,.slice Xb tk1.length J_]) (by simp[results,results49,go_sem]) rfl ⟨_,by rw[HN.o],by rw[HN.o];exact Vt,X_⟩
