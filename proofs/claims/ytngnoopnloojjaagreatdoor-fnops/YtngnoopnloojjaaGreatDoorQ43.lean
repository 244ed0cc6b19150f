import Derived.Test.YtngnoopnloojjaaGreatDoorQ10
import Derived.Test.YtngnoopnloojjaaGreatDoorQ32
variable [Inhabited Go.Proofs.YtngnoopnloojjaaGreatDoor.Pick]
namespace Go.Proofs.YtngnoopnloojjaaGreatDoor
open Go.World List
open Go.Proofs.Tryz Go.RowKit Go.Sort Go.Shelf
set_option linter.all false
set_option maxRecDepth 100000
set_option maxHeartbeats 0
def Ko(m:Nat):AnyZI.SortsIn prog Tryz.sortedA_ren Fence.wide m:=
 ⟨λblk off cap ss W hH hblk hsz=>callsIn_wide.2 (AnyM.slices_Sort_int Tryz.sortA blk off cap ss W hH hblk hsz),
  λp cap W=>callsIn_wide.2 (AnyM.slices_Sort_int_none Tryz.sortA p cap W)⟩
def Eo(mb:Option Nat)(w:AT):Calls prog 176 #[.map mb] w λe w'=>e=rW (.func (.func 189) #[] #[pV w.heap.size])/\w'=w.alloc (.cells #[.map mb] 286):=
 (callsIn_wide (n:=5)).1 (AnyZI.keys_in Tryz.keysA Fence.wide 5 trivial rfl mb w)
def yD(b nn:Nat)(D:DataW Unit)(R:BY->Option (DataW Unit×List MemPlace))(w:AT)(Jb:w.ownsMap prog 2 R b nn D)(Jg:Maps.size D<=10000000000000):
  Calls prog 175 #[.func (.func 189) #[] #[pV w.heap.size]] (w.alloc (.cells #[.map (some b)] 286)) λe w'=>∃(v:BY) (ss:List Int),e=rW v/\ss.Perm (intKeys D) /\
   w'.ownsRow w.heap.size 2 1 v ss.length ((ss.mergeSort leI).map (Value.int .i64))/\Bl w w':=by
 refine(callsIn_wide (n:=5)).1 ?_;have Jf:=Jb.lt;have Jc:SeqGives Fence.wide 2 prog 189 #[pV w.heap.size] encZ (λss=>ss.Perm (intKeys D)) (Maps.size D) (w.alloc (.cells #[.map (some b)] 286)):=
  AnyZI.keys_gives (ρ:= Tryz.keysA_ren) {Tryz.keysA with} Fence.wide _ trivial rfl o_ w.heap.size b nn D _ i_ i_ (by obtain⟨J,Ja,h,H,O,U⟩:=Jb;exact⟨J,Ja,(Below.heap_alloc _ _ b Jf).trans h,H,O,U⟩)
 have cS:=AnyZI.sorted_in Tryz.sortedA Fence.wide 5 trivial trivial trivial trivial rfl o_ (Ko _) (enters_of func188 k_ rfl) 189 #[pV w.heap.size] trivial (enters_of func189 k_ rfl) _ _ (by unfold maxLen;omega) o_ _ Jc;change CallsIn _ _ prog 175 _ _ _ at cS;refine cS.mono ?_;rintro e w' ⟨v,ss,rfl,I,Jd,Je,h⟩;exact⟨v,ss,rfl,I,ownsRow_base_a Jd i_,((Below.refl _ w).alloc n_ _).trans (h.mono i_)⟩
def Ep{P:Program}{k:IN}{R:BY->Option (DataW Unit×List MemPlace)}{w:AT}{b n:Nat}{D:DataW Unit}(h:w.ownsMap P k R b n D):Maps.size D<=n:=by obtain⟨I,Ja,J,F,H,rfl⟩:=h;rw[Maps.size_eq,length_sorted];simpa using H
end Go.Proofs.YtngnoopnloojjaaGreatDoor
namespace Go.Proofs.YtngnoopnloojjaaGreatDoor
open Go.World List
open Go.Proofs.Tryz Go.RowKit
set_option linter.all false
set_option maxRecDepth 100000
set_option maxHeartbeats 0
variable{n k m j:Nat}
def mn(n k m j:Nat):Prop:=n<=k*2097152+m*1048576+j
def mn.zero:mn 0 0 0 0:=by unfold mn;omega
def mn.same(h:mn n k m j):mn n k m (j+1):=by unfold mn at*;omega
def mn.more(h:mn n k m j):mn (n+1) k m (j+1):=by unfold mn at*;omega
def mn.mid(h:mn n k m j)(H:j<=1048576):mn n k (m+1) 0:=by
 have e:∀c:Nat,(m+1)*c=m*c+c:=λc=>Nat.succ_mul m c;unfold mn at h⊢;rw[e];revert h H
 generalize (1048576:Nat)=c;omega
def mn.o(h:mn n k 2 0):mn n (k+1) 0 0:=by unfold mn at*;omega
def mn.le(h:mn n k m j)(I:k<=1048576)(H:m<=2)(J:j<=1048576):n<=10000000000000:=by unfold mn at*;omega
def jF(s:St)(m:Nat):List Nd:=if m=0 then[]else if m=1 then s.e else s.e++s.f
theorem wD(J:List Fu)(f:Fu)(vp vb:BY)(b nn:Nat)(D:DataW Unit)(w:AT)(hl:J.length<=1048576)(Xf:iP f)(Yh:G0 f)(hp:Strs w vp f.pm)(hb:be w vb f.bd)
  (Jn:w.ownsMap prog 9 (plainElem (H:=Unit) prog 2) b nn D) (hN:cY D J):
  Calls prog 147 #[.agg #[sV f.nm,vp,vb],.map (some b)] w λe w'=>∃v,e=rW v/\w'.ownsRow w.heap.size 2 1 v (callsL J f.bd).length ((callsL J f.bd).map (λg:Nat=>Value.int .i64 (g:Int)))/\Bl w w':=by
 obtain⟨ap,cp,rfl,-⟩:=hp;obtain⟨ab,cb,rfl,-,-,Xg⟩:=hb;have⟨Jx,HW,HN⟩:=h3 Xg Jn hN;have Xc:Hid (∀s∈f.bd,lq s):=Xf.2.2;have Jt:Hid (∀s∈f.bd,uO s):=Yh.2.2.2;have Xt:f.bd.length<=1048576:=Xf.2.1;have Yb:=Jn.lt;generalize f.bd=body at Xt Jx Xc Jt⊢;have Yl:= @run_makeMap prog;go_in;go_wp2;go_loopw[18] (λi wr=>∃(k n2:Nat) (Z:DataW Unit),k<=body.length/\i=.int .i64 k/\wr.ownsMap prog 2 (plainElem (H:=Unit) prog 2) (w.heap.size+1) n2 Z/\mn n2 k 0 0/\fY Z (dt J (eA (body.take k)))/\Bl w wr) (λi _=>body.length-(RowKit.intOf i).toNat)
 case atStart=>exact⟨0,0,.map [],y_,rfl,by simpa using ownsMap_made (w.alloc _) prog 2 _,mn.zero,fY.nil,(aq _ _).alloc i_ _⟩
 case round=>
  obtain⟨k,n2,Z,hk,rfl,hM,Xe,hK,X⟩:=hrel;have⟨HM,HK⟩:=h2 hM hK;by_cases hlt:k<body.length
  ·obtain⟨b',Jc,rfl,hc⟩:=Jx o_;have⟨ve,vf,⟨c0,c1,c2,c3,c4,c5⟩,he,hf⟩:=hc k hlt;have Je:=b_ c0;have d0:=(X.cell (p:=⟨b',Jc+k*6,none⟩) Je).trans c0;have d1:=(X.cell (p:=⟨b',Jc+k*6+1,none⟩) Je).trans c1;have d2:=(X.cell (p:=⟨b',Jc+k*6+2,none⟩) Je).trans c2;have d3:=(X.cell (p:=⟨b',Jc+k*6+3,none⟩) Je).trans c3;have d4:=(X.cell (p:=⟨b',Jc+k*6+4,none⟩) Je).trans c4;have d5:=(X.cell (p:=⟨b',Jc+k*6+5,none⟩) Je).trans c5;have HE:Hid (eA (body.take (k+1))=eA (body.take k)++(body[k].e++body[k].f)):=(by show _=_;rw[bP body k hlt,tH]);have HS:Hid (lq body[k]):=Xc _ (g_ hlt);have Jp:Hid (uO body[k]):=Jt _ (g_ hlt);generalize body[k]=s at d0 d1 d2 d3 d4 d5 he hf HE HS Jp;generalize eA (body.take k)=pre at HK HE;have⟨Ya,Xv⟩:=h2 he hf;obtain⟨ae,ce,rfl,-⟩:=he;obtain⟨af,cf,rfl,-⟩:=hf;go_wp2_with fail;refine(mV _ _ _ _ _ _ _ _ _ _ _).mono ?_;rintro e w1 ⟨rfl,Js⟩;simp only[Bl,K9]at Js;have Xz:Hid (Bl w w1):=X.trans ((aR Js).mono X.size);have Yg:=ah (dM HM (aR Js));go_wp2;go_loopw[24] (λi w2=>∃(m n3:Nat) (D3:DataW Unit),m<=2/\i=.int .i64 m/\w2.ownsMap prog 2 (plainElem (H:=Unit) prog 2) (w.heap.size+1) n3 D3/\mn n3 k m 0/\fY D3 (dt J (pre++jF s m))/\Bl w w2) (λi _=>2-(RowKit.intOf i).toNat)
   case atStart=>exact⟨0,n2,Z,y_,rfl,Yg.o,Xe,by simpa[jF]using HK.o,Xz.o⟩
   case round=>
    obtain⟨m,n3,D3,hm,rfl,Xq,J_,Xu,Jz⟩:=hrel;have⟨Xd,Jr⟩:=h2 Xq Xu;by_cases hm2:m<2
    ·obtain⟨va,I,ca,Yd,Xw,Jg,Yc,Jq⟩:∃(va:Option Addr) (I:List Nd) (ca:Nat),(∀W,(Instr.index 307 (.agg #[.slice ae s.e.length ce,.slice af s.f.length cf]) (V (m:Int))).run prog W=.ok (.slice va I.length ca) W)/\a_ w (.slice va I.length ca) I/\jF s (m+1)=jF s m++I/\I.length<=1048576/\(∀n∈I,n.nm.size<=9223372036854775807):=by have Xl:m=0\/m=1:=o_;rcases Xl with rfl|rfl;exact⟨ae,s.e,ce,λW=>KW _ _ W,Ya,by simp[jF],HS.o.1,Jp.o.2.1.2⟩;exact⟨af,s.f,cf,λW=>KV _ _ W,Xv,by simp[jF],HS.o.2,Jp.o.2.2.2⟩
     have⟨HX,Xr⟩:=h2 Jg Jq;generalize jF s m=mid at Jr HX;obtain⟨_,_,Jv,-,-,Xs⟩:=Xw;simp only[Value.slice.injEq]at Jv;obtain⟨rfl,-,rfl⟩:=Jv;have X_:=ah Xs;have Xn:decide ((m:Int)<2)=true:=(by rw[decide_eq_true_iff];omega);go_wp2;go_loopw[29] (λi w4=>∃(j U:Nat) (O:DataW Unit),j<=I.length/\i=.int .i64 j/\w4.ownsMap prog 2 (plainElem (H:=Unit) prog 2) (w.heap.size+1) U O/\mn U k m j/\fY O (dt J (pre++mid++I.take j))/\Bl w w4) (λi _=>I.length-(RowKit.intOf i).toNat)
     case atStart=>exact⟨0,n3,D3,y_,rfl,Xd.o,J_,D4 Jr.o,Jz⟩
     case round=>
      obtain⟨j,U,O,hj,rfl,Xi,Jk,Xm,Jf⟩:=hrel;have Xa:Hid (wr.ownsMap prog 2 (plainElem (H:=Unit) prog 2) (w.heap.size+1) U O):=Xi;have Jl:Hid (fY O (dt J (pre++mid++I.take j))):=Xm;by_cases hjl:j<I.length
      ·obtain⟨bn,on,rfl,Xh⟩:=X_ o_;have⟨c0,c1,c2⟩:=(Xh.below Jf) j hjl;have HZ:Hid (I[j].nm.size<=maxLen):=by
        have:=Xr.o I[j] (g_ hjl)
        show _<=_;unfold maxLen;omega
       have HT:Hid (pre++mid++I.take (j+1)=pre++mid++I.take j++[I[j]]):=(by show _=_;rw[bP I j hjl];simp);generalize I[j]=n at c0 c1 c2 HZ HT;generalize pre++mid++I.take j=done at Jl HT;have Jd:Bl w (wr.alloc (.cells #[V n.kd,V n.val,sV n.nm] 36)):=Jf.alloc Jf.size _;have Jm:Hid ((wr.alloc (.cells #[V n.kd,V n.val,sV n.nm] 36)).ownsMap prog 2 (plainElem (H:=Unit) prog 2) (w.heap.size+1) U O):=Xa.o.alloc _;have Xp:=Jf.size;cases hv:bU J n.nm with
       | none=>
        have Ja:=oM (dM HW Jd) HN HZ hv;have Y:Hid (dt J (done++[n])=dt J done):=kR (λ_=>hv);go_wp2;go_roundw
        case rel=>exact⟨j+1,U,O,o_,by go_num,Jm,Jk.same,by rw[HT.o,Y.o];exact Jl,Jd⟩
        case measure=>exact D1
       | some g=>
        have Ja:=mg (dM HW Jd) HN HZ hv;by_cases h4:n.kd=4
        ·have Y:Hid (dt J (done++[n])=dt J done++[g]):=po h4 hv;have Yj:g<J.length:=jv hv;have Xo:Hid (dt J (pre++mid++I.take (j+1))=dt J done++[g]):=(by show _=_;rw[HT.o,Y.o]);obtain⟨kd,vl,nm⟩:=n;simp only at c0 c1 c2 HZ Jd Jm Ja h4;subst h4;have⟨c,Jy,Ym,Yk⟩:=Jm.o.lookup_int (key:=.int .i64 (g:Int)) (Maps.int_keyed underlying2) underlying286 underlying2 (zeroValue2 _) (Maps.keyOf_int_mk underlying2 (WalkArith.wf_i64 o_));go_wp2_with(first
          | (at_mapUpdate;refine wpList_mapUpdate_own _ rfl _ _ _ 286 rfl 2 2 (Maps.int_keyed underlying2) underlying286 _ (w.heap.size+1) U O rfl Jm (by have:=Jk.le o_ o_ o_;unfold maxLen;omega) _ _ _ rfl rfl (Maps.keyOf_int_mk underlying2 (WalkArith.wf_i64 o_)) _ [] (plainElem_int underlying2 (wrap64_wf _)) ?_;intro w5 Ji Jb)
          | go_in)
         have Jw:=ah Ji;have Xb:Hid (fY (O.put (.int .i64 (g:Int)) (.lit (.int .i64 (wrap64 (c+1))))) (dt J done++[g])):=Jl.o.put g _;have Xy:Bl w w5:=Jd.grown Jb Do (λj hj=>by cases hj;omega);have Jh:mn (U+1) k m (j+1):=Jk.more;generalize O.put (.int .i64 (g:Int)) (.lit (.int .i64 (wrap64 (c+1))))=D5 at Jw Xb;go_roundw
         case rel=>exact⟨j+1,U+1,D5,o_,by go_num,Jw,Jh,by rw[Xo.o];exact Xb,Xy⟩
         case measure=>exact D1
        have Y:Hid (dt J (done++[n])=dt J done):=kR (λh=>absurd h h4);go_wp2;go_roundw
        case rel=>exact⟨j+1,U,O,o_,by go_num,Jm,Jk.same,by rw[HT.o,Y.o];exact Jl,Jd⟩
        case measure=>exact D1
      obtain rfl:j=I.length:=(by omega);have Jh:mn U k (m+1) 0:=Jk.mid Yc;have Y:Hid (pre++mid++I.take I.length=pre++jF s (m+1)):=(by show _=_;rw[HX.o,take_length,append_assoc]);go_wp2;go_roundw
      case rel=>exact⟨m+1,U,O,o_,by go_num,Xa,Jh,by rw[<-Y.o];exact Jl,Jf⟩
      case measure=>exact D1
    obtain rfl:m=2:=(by omega);have Jh:mn n3 (k+1) 0 0:=J_.o;have Y:Hid (eA (body.take (k+1))=pre++jF s 2):=(by show _=_;rw[HE.o];rfl);go_wp2;go_roundw
    case rel=>exact⟨k+1,n3,D3,o_,by go_num,Xd,Jh,by rw[Y.o];exact Jr,Jz⟩
    case measure=>exact D1
  have Yi:k=body.length:=o_;have Xx:Hid (fY Z (dt J (eA body))):=(by have:=HK.o;rw[take_of_length_le o_]at this;exact this);have Xk:Maps.size Z<=10000000000000:=t_ (Ep HM) (Xe.le o_ o_ o_);go_wp2_with fail;refine(Eo _ _).mono ?_;rintro e w6 ⟨rfl,rfl⟩;go_wp2_with fail;refine(yD (w.heap.size+1) n2 Z _ wr HM Xk).mono ?_;rintro e w7 ⟨v7,zs,rfl,hp,Jj,Yf⟩;have Ju:=uY HM underlying2 Xx hp;have Xj:zs.length=(callsL J body).length:=by
   have:=congrArg List.length Ju
   simpa using this
  rw[Ju,Xj,List.map_map]at Jj;have Jo:=ah Jj;have Ye:=X.trans (Yf.mono X.size);go_wp2;go_ret;exact⟨v7,rfl,ownsRow_base_a Jo X.size,Ye⟩
end Go.Proofs.YtngnoopnloojjaaGreatDoor
