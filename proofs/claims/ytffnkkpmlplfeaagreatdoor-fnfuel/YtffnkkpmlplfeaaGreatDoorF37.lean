import Derived.Test.YtffnkkpmlplfeaaGreatDoorF09
import Derived.Test.YtffnkkpmlplfeaaGreatDoorF21
namespace Go.Proofs.YtffnkkpmlplfeaaGreatDoor
open Go.World List
open Go.Proofs.Tryz Go.RowKit
set_option linter.all false
set_option maxRecDepth 100000
set_option maxHeartbeats 0
variable[Inhabited Pick]
variable{n k m j:Nat}
def jO(n k m j:Nat):Prop:=n<=k*2097152+m*1048576+j
def jO.zero:jO 0 0 0 0:=by unfold jO;omega
def jO.same(h:jO n k m j):jO n k m (j+1):=by unfold jO at*;omega
def jO.more(h:jO n k m j):jO (n+1) k m (j+1):=by unfold jO at*;omega
def jO.mid(h:jO n k m j)(I:j<=1048576):jO n k (m+1) 0:=by
 have e:∀c:Nat,(m+1)*c=m*c+c:=λc=>Nat.succ_mul m c;unfold jO at h⊢;rw[e];revert h I
 generalize (1048576:Nat)=c;omega
def jO.o(h:jO n k 2 0):jO n (k+1) 0 0:=by unfold jO at*;omega
def jO.le(h:jO n k m j)(J:k<=1048576)(I:m<=2)(U:j<=1048576):n<=10000000000000:=by unfold jO at*;omega
def gS(s:St)(m:Nat):List Nd:=if m=0 then[]else if m=1 then s.e else s.e++s.f
theorem qW(J:List Fu)(f:Fu)(vp vb:BY)(b nn:Nat)(D:DataW Unit)(w:AT)(hl:J.length<=1048576)(Xf:eX f)(Yh:CH f)(hp:a_ w vp f.params)(hb:aW w vb f.body)
  (Jn:w.ownsMap prog 9 (plainElem (H:=Unit) prog 2) b nn D) (hN:cR D J):
  Calls prog 122 #[.agg #[sV f.name,vp,vb],.map (some b)] w λe w'=>∃v,e=rW v/\w'.ownsRow w.heap.size 2 1 v (callsL J f.body).length ((callsL J f.body).map (λg:Nat=>Value.int .i64 (g:Int)))/\Bl w w':=by
 obtain⟨ap,cp,rfl,-⟩:=hp;obtain⟨ab,cb,rfl,-,-,Xg⟩:=hb;obtain⟨Jx,HW,HN⟩:=h3 Xg Jn hN;have Xc:Hid (∀s∈f.body,fP s):=Xf.2.2;have Jt:Hid (∀s∈f.body,rO s):=Yh.2.2.2;have Xt:f.body.length<=1048576:=Xf.2.1;have Yb:=Jn.lt;generalize f.body=body at Xt Jx Xc Jt⊢;have Yl:= @run_makeMap prog;go_in;go_wp2;go_loopw[18] (λi wr=>∃(k n2:Nat) (D2:DataW Unit),k<=body.length/\i=.int .i64 k/\wr.ownsMap prog 2 (plainElem (H:=Unit) prog 2) (w.heap.size+1) n2 D2/\jO n2 k 0 0/\e_ D2 (cu J (ch (body.take k)))/\Bl w wr) (λi _=>body.length-(RowKit.intOf i).toNat)
 case atStart=>exact⟨0,0,.map [],y_,rfl,by simpa using ownsMap_made (w.alloc _) prog 2 _,jO.zero,e_.nil,(au _ _).alloc i_ _⟩
 case round=>
  obtain⟨k,n2,D2,hk,rfl,hM,Xe,hK,Z⟩:=hrel;obtain⟨HM,HK⟩:=h2 hM hK;by_cases hlt:k<body.length
  ·obtain⟨b',Jc,rfl,hc⟩:=Jx o_;obtain⟨ve,vf,⟨c0,c1,c2,c3,c4,c5⟩,he,hf⟩:=hc k hlt;have Je:=b_ c0;have d0:=(Z.cell (p:=⟨b',Jc+k*6,none⟩) Je).trans c0;have d1:=(Z.cell (p:=⟨b',Jc+k*6+1,none⟩) Je).trans c1;have d2:=(Z.cell (p:=⟨b',Jc+k*6+2,none⟩) Je).trans c2;have d3:=(Z.cell (p:=⟨b',Jc+k*6+3,none⟩) Je).trans c3;have d4:=(Z.cell (p:=⟨b',Jc+k*6+4,none⟩) Je).trans c4;have d5:=(Z.cell (p:=⟨b',Jc+k*6+5,none⟩) Je).trans c5;have HE:Hid (ch (body.take (k+1))=ch (body.take k)++(body[k].e++body[k].f)):=by show _=_;rw[aR body k hlt,js]
   have HS:Hid (fP body[k]):=Xc _ (g_ hlt);have Jp:Hid (rO body[k]):=Jt _ (g_ hlt);generalize body[k]=s at d0 d1 d2 d3 d4 d5 he hf HE HS Jp;generalize ch (body.take k)=pre at HK HE;obtain⟨Ya,Xv⟩:=h2 he hf;obtain⟨ae,ce,rfl,-⟩:=he;obtain⟨af,cf,rfl,-⟩:=hf;go_wp2_with fail;refine(nL _ _ _ _ _ _ _ _ _ _ _).mono ?_;rintro e w1 ⟨rfl,Js⟩;simp only[Bl,GO]at Js;have Xz:Hid (Bl w w1):=Z.trans ((ay Js).mono Z.size);have Yg:=ah (dJ HM (ay Js));go_wp2;go_loopw[24] (λi w2=>∃(m n3:Nat) (D3:DataW Unit),m<=2/\i=.int .i64 m/\w2.ownsMap prog 2 (plainElem (H:=Unit) prog 2) (w.heap.size+1) n3 D3/\jO n3 k m 0/\e_ D3 (cu J (pre++gS s m))/\Bl w w2) (λi _=>2-(RowKit.intOf i).toNat)
   case atStart=>exact⟨0,n2,D2,y_,rfl,Yg.o,Xe,by simpa[gS]using HK.o,Xz.o⟩
   case round=>
    obtain⟨m,n3,D3,hm,rfl,Xq,J_,Xu,Jz⟩:=hrel;obtain⟨Xd,Jr⟩:=h2 Xq Xu;by_cases hm2:m<2
    ·obtain⟨va,I,ca,Yd,Xw,Jg,Yc,Jq⟩:∃(va:Option Addr) (I:List Nd) (ca:Nat),(∀W,(Instr.index 244 (.agg #[.slice ae s.e.length ce,.slice af s.f.length cf]) (V (m:Int))).run prog W=.ok (.slice va I.length ca) W)/\aw w (.slice va I.length ca) I/\gS s (m+1)=gS s m++I/\I.length<=1048576/\(∀n∈I,n.name.size<=9223372036854775807):=by
      have Xl:m=0∨m=1:=o_;rcases Xl with rfl|rfl
      ·exact⟨ae,s.e,ce,λW=>Er _ _ W,Ya,by simp[gS],HS.o.1,Jp.o.2.1.2⟩
      ·exact⟨af,s.f,cf,λW=>Eq _ _ W,Xv,by simp[gS],HS.o.2,Jp.o.2.2.2⟩
     obtain⟨HX,Xr⟩:=h2 Jg Jq;generalize gS s m=mid at Jr HX;obtain⟨_,_,Jv,-,-,Xs⟩:=Xw;simp only[Value.slice.injEq]at Jv;obtain⟨rfl,-,rfl⟩:=Jv;have X_:=ah Xs;have Xn:decide ((m:Int)<2)=true:=by rw[decide_eq_true_iff];omega
     go_wp2;go_loopw[29] (λi w4=>∃(j Y:Nat) (U:DataW Unit),j<=I.length/\i=.int .i64 j/\w4.ownsMap prog 2 (plainElem (H:=Unit) prog 2) (w.heap.size+1) Y U/\jO Y k m j/\e_ U (cu J (pre++mid++I.take j))/\Bl w w4) (λi _=>I.length-(RowKit.intOf i).toNat)
     case atStart=>exact⟨0,n3,D3,y_,rfl,Xd.o,J_,Fc Jr.o,Jz⟩
     case round=>
      obtain⟨j,Y,U,hj,rfl,Xi,Jk,Xm,Jf⟩:=hrel;have Xa:Hid (wr.ownsMap prog 2 (plainElem (H:=Unit) prog 2) (w.heap.size+1) Y U):=Xi;have Jl:Hid (e_ U (cu J (pre++mid++I.take j))):=Xm;by_cases hjl:j<I.length
      ·obtain⟨bn,on,rfl,Xh⟩:=X_ o_;obtain⟨c0,c1,c2⟩:=(Xh.below Jf) j hjl;have HZ:Hid (I[j].name.size<=maxLen):=by
        have:=Xr.o I[j] (g_ hjl)
        show _<=_;unfold maxLen;omega
       have HT:Hid (pre++mid++I.take (j+1)=pre++mid++I.take j++[I[j]]):=by show _=_;rw[aR I j hjl];simp
       generalize I[j]=n at c0 c1 c2 HZ HT;generalize pre++mid++I.take j=done at Jl HT;have Jd:Bl w (wr.alloc (.cells #[V n.kind,V n.val,sV n.name] 134)):=Jf.alloc Jf.size _;have Jm:Hid ((wr.alloc (.cells #[V n.kind,V n.val,sV n.name] 134)).ownsMap prog 2 (plainElem (H:=Unit) prog 2) (w.heap.size+1) Y U):=Xa.o.alloc _;have Xp:=Jf.size;cases hv:bO J n.name with
       | none=>
        have Ja:=kU (dJ HW Jd) HN HZ hv;have HR:Hid (cu J (done++[n])=cu J done):=fi (λ_=>hv);go_wp2;go_roundw
        case rel=>exact⟨j+1,Y,U,o_,by go_num,Jm,Jk.same,by rw[HT.o,HR.o];exact Jl,Jd⟩
        case measure=>exact FW
       | some g=>
        have Ja:=jH (dJ HW Jd) HN HZ hv;by_cases h4:n.kind=4
        ·have HR:Hid (cu J (done++[n])=cu J done++[g]):=ib h4 hv;have Yj:g<J.length:=de hv;have Xo:Hid (cu J (pre++mid++I.take (j+1))=cu J done++[g]):=by show _=_;rw[HT.o,HR.o]
         obtain⟨kd,vl,nm⟩:=n;simp only at c0 c1 c2 HZ Jd Jm Ja h4;subst h4;obtain⟨c,Jy,Ym,Yk⟩:=Jm.o.lookup_int (key:=V (g:Int)) (Maps.int_keyed underlying2) underlying243 underlying2 (zeroValue2 _) (Maps.keyOf_int_mk underlying2 (WalkArith.wf_i64 o_));go_wp2_with(first
          | (at_mapUpdate;refine wpList_mapUpdate_own _ rfl _ _ _ 243 rfl 2 2 (Maps.int_keyed underlying2) underlying243 _ (w.heap.size+1) Y U rfl Jm (by have:=Jk.le o_ o_ o_;unfold maxLen;omega) _ _ _ rfl rfl (Maps.keyOf_int_mk underlying2 (WalkArith.wf_i64 o_)) _ [] (plainElem_int underlying2 (wrap64_wf _)) ?_;intro w5 Ji Jb)
          | go_in)
         have Jw:=ah Ji;have Xb:Hid (e_ (U.put (.int .i64 (g:Int)) (.lit (.int .i64 (wrap64 (c+1))))) (cu J done++[g])):=Jl.o.put g _;have Xy:Bl w w5:=Jd.grown Jb ZFs (λj hj=>by cases hj;omega);have Jh:jO (Y+1) k m (j+1):=Jk.more;generalize U.put (.int .i64 (g:Int)) (.lit (.int .i64 (wrap64 (c+1))))=D5 at Jw Xb;go_roundw
         case rel=>exact⟨j+1,Y+1,D5,o_,by go_num,Jw,Jh,by rw[Xo.o];exact Xb,Xy⟩
         case measure=>exact FW
        ·have HR:Hid (cu J (done++[n])=cu J done):=fi (λh=>absurd h h4);go_wp2;go_roundw
         case rel=>exact⟨j+1,Y,U,o_,by go_num,Jm,Jk.same,by rw[HT.o,HR.o];exact Jl,Jd⟩
         case measure=>exact FW
      ·obtain rfl:j=I.length:=by omega
       have Jh:jO Y k (m+1) 0:=Jk.mid Yc;have HR:Hid (pre++mid++I.take I.length=pre++gS s (m+1)):=by show _=_;rw[HX.o,take_length,append_assoc]
       go_wp2;go_roundw
       case rel=>exact⟨m+1,Y,U,o_,by go_num,Xa,Jh,by rw[<-HR.o];exact Jl,Jf⟩
       case measure=>exact FW
    ·obtain rfl:m=2:=by omega
     have Jh:jO n3 (k+1) 0 0:=J_.o;have HR:Hid (ch (body.take (k+1))=pre++gS s 2):=by show _=_;rw[HE.o];rfl
     go_wp2;go_roundw
     case rel=>exact⟨k+1,n3,D3,o_,by go_num,Xd,Jh,by rw[HR.o];exact Jr,Jz⟩
     case measure=>exact FW
  ·have Yi:k=body.length:=o_
   have Xx:Hid (e_ D2 (cu J (ch body))):=by have:=HK.o;rw[take_of_length_le o_]at this;exact this
   have Xk:Maps.size D2<=10000000000000:=t_ (yr HM) (Xe.le o_ o_ o_);go_wp2_with fail;refine(yq _ _).mono ?_;rintro e w6 ⟨rfl,rfl⟩;go_wp2_with fail;refine(sj (w.heap.size+1) n2 D2 _ wr HM Xk).mono ?_;rintro e w7 ⟨v7,zs,rfl,hp,Jj,Yf⟩;have Ju:=p9 HM underlying2 Xx hp;have Xj:zs.length=(callsL J body).length:=by
    have:=congrArg List.length Ju
    simpa using this
   rw[Ju,Xj,List.map_map]at Jj;have Jo:=ah Jj;have Ye:=Z.trans (Yf.mono Z.size);go_wp2;go_ret;exact⟨v7,rfl,ownsRow_base_a Jo Z.size,Ye⟩
end Go.Proofs.YtffnkkpmlplfeaaGreatDoor
