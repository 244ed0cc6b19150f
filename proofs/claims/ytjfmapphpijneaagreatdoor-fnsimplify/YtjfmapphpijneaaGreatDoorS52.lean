import Derived.Test.YtjfmapphpijneaaGreatDoorS09
import Derived.Test.YtjfmapphpijneaaGreatDoorS31
namespace Go.Proofs.YtjfmapphpijneaaGreatDoor
set_option linter.all false
set_option maxRecDepth 100000
set_option maxHeartbeats 0
open Go.World List Go.Proofs.Tryz Go.RowKit
variable[Inhabited Pick]
section
open Go.Sort Go.Shelf
def GK(m:Nat):AnyZI.SortsIn prog Tryz.sortedA_ren Fence.wide m:=
 ⟨λblk off cap ss W hH hblk hsz=>callsIn_wide.2 (AnyM.slices_Sort_int Tryz.sortA blk off cap ss W hH hblk hsz),
  λp cap W=>callsIn_wide.2 (AnyM.slices_Sort_int_none Tryz.sortA p cap W)⟩
def Cj(mb:Option Nat)(w:AT):Calls prog 99 #[.map mb] w λe w'=>e=rW (.func (.func 129) #[] #[pV w.heap.size])/\w'=w.alloc (.cells #[.map mb] 175):=
 (callsIn_wide (n:=5)).1 (AnyZI.keys_in Tryz.keysA Fence.wide 5 trivial rfl mb w)
def wQ(b nn:Nat)(D:DataW Unit)(R:BY->Option (DataW Unit×List MemPlace))(w:AT)(Jb:w.ownsMap prog 2 R b nn D)(Jg:Maps.size D<=10000000000000):
  Calls prog 98 #[.func (.func 129) #[] #[pV w.heap.size]] (w.alloc (.cells #[.map (some b)] 175)) λe w'=>∃(v:BY) (ss:List Int),e=rW v/\ss.Perm (intKeys D) /\
   w'.ownsRow w.heap.size 2 1 v ss.length ((ss.mergeSort leI).map (Value.int .i64))/\Bl w w':=by
 refine(callsIn_wide (n:=5)).1 ?_;have Jf:=Jb.lt;have Jc:SeqGives Fence.wide 2 prog 129 #[pV w.heap.size] encZ (λss=>ss.Perm (intKeys D)) (Maps.size D) (w.alloc (.cells #[.map (some b)] 175)):=
  AnyZI.keys_gives (ρ:= Tryz.keysA_ren) {Tryz.keysA with} Fence.wide _ trivial rfl o_ w.heap.size b nn D _ i_ i_ (by obtain⟨Z,Ja,h,J,hs,hD⟩:=Jb;exact⟨Z,Ja,(Below.heap_alloc _ _ b Jf).trans h,J,hs,hD⟩)
 have I:=AnyZI.sorted_in Tryz.sortedA Fence.wide 5 trivial trivial trivial trivial rfl o_ (GK _) (enters_of func128 k_ rfl) 129 #[pV w.heap.size] trivial (enters_of func129 k_ rfl) _ _ (by unfold maxLen;omega) o_ _ Jc;change CallsIn _ _ prog 98 _ _ _ at I;refine I.mono ?_;rintro e w' ⟨v,ss,rfl,U,Jd,Je,h⟩;exact⟨v,ss,rfl,U,ownsRow_base_a Jd i_,((Below.refl _ w).alloc n_ _).trans (h.mono i_)⟩
def Cl{P:Program}{k:JZ}{R:BY->Option (DataW Unit×List MemPlace)}{w:AT}{b n:Nat}{D:DataW Unit}(h:w.ownsMap P k R b n D):Maps.size D<=n:=by obtain⟨J,Ja,U,F,I,rfl⟩:=h;rw[Maps.size_eq,length_sorted];simpa using I
end
variable{n k m j:Nat}
def lj(n k m j:Nat):Prop:=n<=k*2097152+m*1048576+j
def lj.zero:lj 0 0 0 0:=by unfold lj;omega
def lj.same(h:lj n k m j):lj n k m (j+1):=by unfold lj at*;omega
def lj.more(h:lj n k m j):lj (n+1) k m (j+1):=by unfold lj at*;omega
def lj.mid(h:lj n k m j)(I:j<=1048576):lj n k (m+1) 0:=by
 have e:∀c:Nat,(m+1)*c=m*c+c:=λc=>Nat.succ_mul m c;unfold lj at h⊢;rw[e];revert h I
 generalize (1048576:Nat)=c;omega
def lj.o(h:lj n k 2 0):lj n (k+1) 0 0:=by unfold lj at*;omega
def lj.le(h:lj n k m j)(J:k<=1048576)(I:m<=2)(U:j<=1048576):n<=10000000000000:=by unfold lj at*;omega
def jm(s:St)(m:Nat):List Nd:=if m=0 then[]else if m=1 then s.e else s.e++s.f
theorem uX(J:List Fu)(f:Fu)(vp vb:BY)(b nn:Nat)(D:DataW Unit)(w:AT)(hl:J.length<=1048576)(Xf:fk f)(Yh:EE f)(hp:be w vp f.pm)(hb:aZ w vb f.bd)
  (Jn:w.ownsMap prog 9 (plainElem (H:=Unit) prog 2) b nn D) (hN:dj D J):
  Calls prog 69 #[.agg #[sV f.nm,vp,vb],.map (some b)] w λe w'=>∃v,e=rW v/\w'.ownsRow w.heap.size 2 1 v (callsL J f.bd).length ((callsL J f.bd).map (λg:Nat=>Value.int .i64 (g:Int)))/\Bl w w':=by
 obtain⟨ap,cp,rfl,-⟩:=hp;obtain⟨ab,cb,rfl,-,-,Xg⟩:=hb;have⟨Jx,HW,HN⟩:=h3 Xg Jn hN;have Xc:Hid (∀s∈f.bd,gE s):=Xf.2.2;have Jt:Hid (∀s∈f.bd,tV s):=Yh.2.2.2;have Xt:f.bd.length<=1048576:=Xf.2.1;have Yb:=Jn.lt;generalize f.bd=body at Xt Jx Xc Jt⊢;have Yl:= @run_makeMap prog;go_in;go_wp2;go_loopw[18] (λi wr=>∃(k n2:Nat) (D2:DataW Unit),k<=body.length/\i=.int .i64 k/\wr.ownsMap prog 2 (plainElem (H:=Unit) prog 2) (w.heap.size+1) n2 D2/\lj n2 k 0 0/\fX D2 (cO J (ct (body.take k)))/\Bl w wr) (λi _=>body.length-(RowKit.intOf i).toNat)
 case atStart=>exact⟨0,0,.map [],y_,rfl,by simpa using ownsMap_made (w.alloc _) prog 2 _,lj.zero,fX.nil,(ao _ _).alloc i_ _⟩
 case round=>
  obtain⟨k,n2,D2,hk,rfl,hM,Xe,hK,hB⟩:=hrel;have⟨HM,HK⟩:=h2 hM hK;by_cases hlt:k<body.length
  ·obtain⟨b',Jc,rfl,hc⟩:=Jx o_;have⟨ve,vf,⟨c0,c1,c2,c3,c4,c5⟩,he,hf⟩:=hc k hlt;have Je:=b_ c0;have d0:=(hB.cell (p:=⟨b',Jc+k*6,none⟩) Je).trans c0;have d1:=(hB.cell (p:=⟨b',Jc+k*6+1,none⟩) Je).trans c1;have d2:=(hB.cell (p:=⟨b',Jc+k*6+2,none⟩) Je).trans c2;have d3:=(hB.cell (p:=⟨b',Jc+k*6+3,none⟩) Je).trans c3;have d4:=(hB.cell (p:=⟨b',Jc+k*6+4,none⟩) Je).trans c4;have d5:=(hB.cell (p:=⟨b',Jc+k*6+5,none⟩) Je).trans c5;have HE:Hid (ct (body.take (k+1))=ct (body.take k)++(body[k].e++body[k].f)):=(by show _=_;rw[aU body k hlt,kO]);have HS:Hid (gE body[k]):=Xc _ (g_ hlt);have Jp:Hid (tV body[k]):=Jt _ (g_ hlt);generalize body[k]=s at d0 d1 d2 d3 d4 d5 he hf HE HS Jp;generalize ct (body.take k)=pre at HK HE;have⟨Ya,Xv⟩:=h2 he hf;obtain⟨ae,ce,rfl,-⟩:=he;obtain⟨af,cf,rfl,-⟩:=hf;go_wp2_with fail;refine(qZ _ _ _ _ _ _ _ _ _ _ _).mono ?_;rintro e w1 ⟨rfl,Js⟩;simp only[Bl,J9]at Js;have Xz:Hid (Bl w w1):=hB.trans ((aw Js).mono hB.size);have Yg:=ah (eH HM (aw Js));go_wp2;go_loopw[24] (λi w2=>∃(m n3:Nat) (D3:DataW Unit),m<=2/\i=.int .i64 m/\w2.ownsMap prog 2 (plainElem (H:=Unit) prog 2) (w.heap.size+1) n3 D3/\lj n3 k m 0/\fX D3 (cO J (pre++jm s m))/\Bl w w2) (λi _=>2-(RowKit.intOf i).toNat)
   case atStart=>exact⟨0,n2,D2,y_,rfl,Yg.o,Xe,by simpa[jm]using HK.o,Xz.o⟩
   case round=>
    obtain⟨m,n3,D3,hm,rfl,Xq,J_,Xu,Jz⟩:=hrel;have⟨Xd,Jr⟩:=h2 Xq Xu;by_cases hm2:m<2
    ·obtain⟨va,I,ca,Yd,Xw,Jg,Yc,Jq⟩:∃(va:Option Addr) (I:List Nd) (ca:Nat),(∀W,(Instr.index 176 (.agg #[.slice ae s.e.length ce,.slice af s.f.length cf]) (V (m:Int))).run prog W=.ok (.slice va I.length ca) W)/\aC w (.slice va I.length ca) I/\jm s (m+1)=jm s m++I/\I.length<=1048576/\(∀n∈I,n.nm.size<=9223372036854775807):=by have Xl:m=0\/m=1:=o_;rcases Xl with rfl|rfl;exact⟨ae,s.e,ce,λW=>IT _ _ W,Ya,by simp[jm],HS.o.1,Jp.o.2.1.2⟩;exact⟨af,s.f,cf,λW=>IR _ _ W,Xv,by simp[jm],HS.o.2,Jp.o.2.2.2⟩
     have⟨HX,Xr⟩:=h2 Jg Jq;generalize jm s m=mid at Jr HX;obtain⟨_,_,Jv,-,-,Xs⟩:=Xw;simp only[Value.slice.injEq]at Jv;obtain⟨rfl,-,rfl⟩:=Jv;have X_:=ah Xs;have Xn:decide ((m:Int)<2)=true:=(by rw[decide_eq_true_iff];omega);go_wp2;go_loopw[29] (λi w4=>∃(j Z:Nat) (U:DataW Unit),j<=I.length/\i=.int .i64 j/\w4.ownsMap prog 2 (plainElem (H:=Unit) prog 2) (w.heap.size+1) Z U/\lj Z k m j/\fX U (cO J (pre++mid++I.take j))/\Bl w w4) (λi _=>I.length-(RowKit.intOf i).toNat)
     case atStart=>exact⟨0,n3,D3,y_,rfl,Xd.o,J_,IN Jr.o,Jz⟩
     case round=>
      obtain⟨j,Z,U,hj,rfl,Xi,Jk,Xm,Jf⟩:=hrel;have Xa:Hid (wr.ownsMap prog 2 (plainElem (H:=Unit) prog 2) (w.heap.size+1) Z U):=Xi;have Jl:Hid (fX U (cO J (pre++mid++I.take j))):=Xm;by_cases hjl:j<I.length
      ·obtain⟨bn,on,rfl,Xh⟩:=X_ o_;have⟨c0,c1,c2⟩:=(Xh.below Jf) j hjl;have HZ:Hid (I[j].nm.size<=maxLen):=by
        have:=Xr.o I[j] (g_ hjl)
        show _<=_;unfold maxLen;omega
       have HT:Hid (pre++mid++I.take (j+1)=pre++mid++I.take j++[I[j]]):=(by show _=_;rw[aU I j hjl];simp);generalize I[j]=n at c0 c1 c2 HZ HT;generalize pre++mid++I.take j=done at Jl HT;have Jd:Bl w (wr.alloc (.cells #[V n.kd,V n.val,sV n.nm] 81)):=Jf.alloc Jf.size _;have Jm:Hid ((wr.alloc (.cells #[V n.kd,V n.val,sV n.nm] 81)).ownsMap prog 2 (plainElem (H:=Unit) prog 2) (w.heap.size+1) Z U):=Xa.o.alloc _;have Xp:=Jf.size;cases hv:a_ J n.nm with
       | none=>
        have Ja:=nC (eH HW Jd) HN HZ hv;have HR:Hid (cO J (done++[n])=cO J done):=gm (λ_=>hv);go_wp2;go_roundw
        case rel=>exact⟨j+1,Z,U,o_,by go_num,Jm,Jk.same,by rw[HT.o,HR.o];exact Jl,Jd⟩
        case measure=>exact IF
       | some g=>
        have Ja:=kY (eH HW Jd) HN HZ hv;by_cases h4:n.kd=4
        ·have HR:Hid (cO J (done++[n])=cO J done++[g]):=jB h4 hv;have Yj:g<J.length:=dE hv;have Xo:Hid (cO J (pre++mid++I.take (j+1))=cO J done++[g]):=(by show _=_;rw[HT.o,HR.o]);obtain⟨kd,vl,nm⟩:=n;simp only at c0 c1 c2 HZ Jd Jm Ja h4;subst h4;have⟨c,Jy,Ym,Yk⟩:=Jm.o.lookup_int (key:=.int .i64 (g:Int)) (Maps.int_keyed underlying2) underlying175 underlying2 (zeroValue2 _) (Maps.keyOf_int_mk underlying2 (WalkArith.wf_i64 o_));go_wp2_with(first
          | (at_mapUpdate;refine wpList_mapUpdate_own _ rfl _ _ _ 175 rfl 2 2 (Maps.int_keyed underlying2) underlying175 _ (w.heap.size+1) Z U rfl Jm (by have:=Jk.le o_ o_ o_;unfold maxLen;omega) _ _ _ rfl rfl (Maps.keyOf_int_mk underlying2 (WalkArith.wf_i64 o_)) _ [] (plainElem_int underlying2 (wrap64_wf _)) ?_;intro w5 Ji Jb)
          | go_in)
         have Jw:=ah Ji;have Xb:Hid (fX (U.put (.int .i64 (g:Int)) (.lit (.int .i64 (wrap64 (c+1))))) (cO J done++[g])):=Jl.o.put g _;have Xy:Bl w w5:=Jd.grown Jb H6 (λj hj=>by cases hj;omega);have Jh:lj (Z+1) k m (j+1):=Jk.more;generalize U.put (.int .i64 (g:Int)) (.lit (.int .i64 (wrap64 (c+1))))=D5 at Jw Xb;go_roundw
         case rel=>exact⟨j+1,Z+1,D5,o_,by go_num,Jw,Jh,by rw[Xo.o];exact Xb,Xy⟩
         case measure=>exact IF
        have HR:Hid (cO J (done++[n])=cO J done):=gm (λh=>absurd h h4);go_wp2;go_roundw
        case rel=>exact⟨j+1,Z,U,o_,by go_num,Jm,Jk.same,by rw[HT.o,HR.o];exact Jl,Jd⟩
        case measure=>exact IF
      obtain rfl:j=I.length:=(by omega);have Jh:lj Z k (m+1) 0:=Jk.mid Yc;have HR:Hid (pre++mid++I.take I.length=pre++jm s (m+1)):=(by show _=_;rw[HX.o,take_length,append_assoc]);go_wp2;go_roundw
      case rel=>exact⟨m+1,Z,U,o_,by go_num,Xa,Jh,by rw[<-HR.o];exact Jl,Jf⟩
      case measure=>exact IF
    obtain rfl:m=2:=(by omega);have Jh:lj n3 (k+1) 0 0:=J_.o;have HR:Hid (ct (body.take (k+1))=pre++jm s 2):=(by show _=_;rw[HE.o];rfl);go_wp2;go_roundw
    case rel=>exact⟨k+1,n3,D3,o_,by go_num,Xd,Jh,by rw[HR.o];exact Jr,Jz⟩
    case measure=>exact IF
  have Yi:k=body.length:=o_;have Xx:Hid (fX D2 (cO J (ct body))):=(by have:=HK.o;rw[take_of_length_le o_]at this;exact this);have Xk:Maps.size D2<=10000000000000:=t_ (Cl HM) (Xe.le o_ o_ o_);go_wp2_with fail;refine(Cj _ _).mono ?_;rintro e w6 ⟨rfl,rfl⟩;go_wp2_with fail;refine(wQ (w.heap.size+1) n2 D2 _ wr HM Xk).mono ?_;rintro e w7 ⟨v7,zs,rfl,hp,Jj,Yf⟩;have Ju:=tX HM underlying2 Xx hp;have Xj:zs.length=(callsL J body).length:=by
   have:=congrArg List.length Ju
   simpa using this
  rw[Ju,Xj,List.map_map]at Jj;have Jo:=ah Jj;have Ye:=hB.trans (Yf.mono hB.size);go_wp2;go_ret;exact⟨v7,rfl,ownsRow_base_a Jo hB.size,Ye⟩
