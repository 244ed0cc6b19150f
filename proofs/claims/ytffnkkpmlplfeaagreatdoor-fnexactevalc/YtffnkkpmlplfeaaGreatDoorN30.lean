import Derived.Test.YtffnkkpmlplfeaaGreatDoorN09
import Derived.Test.YtffnkkpmlplfeaaGreatDoorN20
namespace Go.Proofs.YtffnkkpmlplfeaaGreatDoor
open Go.Proofs.Tryz
open Go.RowKit
set_option linter.all false
set_option maxRecDepth 100000
set_option maxHeartbeats 16000000
variable[Inhabited Pick]
variable {n k m j:Nat}
def bnd (n k m j:Nat):Prop:=n<=k*2097152+m*1048576+j
theorem bnd.zero:bnd 0 0 0 0:=by unfold bnd;omega
theorem bnd.same (h:bnd n k m j):bnd n k m (j+1):=by unfold bnd at *;omega
theorem bnd.more (h:bnd n k m j):bnd (n+1) k m (j+1):=by unfold bnd at *;omega
theorem bnd.mid (h:bnd n k m j) (hj:j<=1048576):bnd n k (m+1) 0:=by
 have e : ∀c:Nat,(m+1)*c=m*c+c:=λc=>Nat.succ_mul m c;unfold bnd at h ⊢;rw[e];revert h hj
 generalize (1048576:Nat)=c;omega
theorem bnd.out (h:bnd n k 2 0):bnd n (k+1) 0 0:=by unfold bnd at *;omega
theorem bnd.le (h:bnd n k m j) (hk:k<=1048576) (hm:m<=2) (hj:j<=1048576):n<=10000000000000:=by unfold bnd at *;omega
def upTo (s:St) (m:Nat):List Nd:=if m=0 then [] else if m=1 then s.e else s.e++s.f
theorem callsOf_any (fs:List Fu) (f:Fu) (vp vb:Value) (b nn:Nat) (D:DataW Unit) (w:World) (hl:fs.length<=1048576) (hsm:smallF f) (hwf:wfFu f) (hp:Strs w vp f.params) (hb:Stmts w vb f.body)
  (hown:w.ownsMap prog 9 (plainElem (H:=Unit) prog 2) b nn D) (hN:NumIs D fs) :
  Calls prog 122 #[.agg #[.string f.name,vp,vb],.map (some b)] w λe w'=>∃v,e=.returned v/\w'.ownsRow w.heap.size 2 1 v (callsL fs f.body).length ((callsL fs f.body).map (λg:Nat=>Value.int .i64 (g:Int)))/\Below w.heap.size w w':=by
 obtain⟨ap,cp,rfl,-⟩:=hp;obtain⟨ab,cb,rfl,-,-,hbc⟩:=hb;obtain⟨HBC,HW,HN⟩:=h3 hbc hown hN;have HSm:Hid (∀s∈f.body,smallS s):=hsm.2.2;have HWf:Hid (∀s∈f.body,wfSt s):=hwf.2.2.2;have hbl:f.body.length<=1048576:=hsm.2.1;have hblt:=hown.lt;generalize f.body=body at hbl HBC HSm HWf ⊢;have hmm := @run_makeMap prog;go_enter func122,ntmps122;go_wp2_with fail;go_loopw [18] (λi wr=>∃(k n2:Nat) (D2:DataW Unit),k<=body.length/\i=.int .i64 k/\wr.ownsMap prog 2 (plainElem (H:=Unit) prog 2) (w.heap.size+1) n2 D2/\bnd n2 k 0 0/\KeysIs D2 (callN fs (nodesOf (body.take k)))/\Bl w wr) (λi _=>body.length-(RowKit.intOf i).toNat)
 case atStart=>exact⟨0,0,.map [],y_,rfl,by simpa using World.ownsMap_made (w.alloc _) prog 2 _,bnd.zero,KeysIs.nil,(bel_a _ _).alloc (by simp) _⟩
 case round=>
  obtain⟨k,n2,D2,hk,rfl,hM,hn2,hK,hB⟩:=hrel;obtain⟨HM,HK⟩:=h2 hM hK;by_cases hlt:k<body.length
  ·obtain⟨b',off,rfl,hc⟩:=HBC o_;obtain⟨ve,vf,⟨c0,c1,c2,c3,c4,c5⟩,he,hf⟩:=hc k hlt;have hlb:=b_ c0;have d0:=(hB.cell (p:=⟨b',off+k*6,none⟩) hlb).trans c0;have d1:=(hB.cell (p:=⟨b',off+k*6+1,none⟩) hlb).trans c1;have d2:=(hB.cell (p:=⟨b',off+k*6+2,none⟩) hlb).trans c2;have d3:=(hB.cell (p:=⟨b',off+k*6+3,none⟩) hlb).trans c3;have d4:=(hB.cell (p:=⟨b',off+k*6+4,none⟩) hlb).trans c4;have d5:=(hB.cell (p:=⟨b',off+k*6+5,none⟩) hlb).trans c5;have HE:Hid (nodesOf (body.take (k+1))=nodesOf (body.take k)++(body[k].e++body[k].f)):=by show _=_;rw[take_succ body k hlt,nodesOf_snoc]
   have HS:Hid (smallS body[k]):=HSm _ (g_ hlt);have HWs:Hid (wfSt body[k]):=HWf _ (g_ hlt);generalize body[k]=s at d0 d1 d2 d3 d4 d5 he hf HE HS HWs;generalize nodesOf (body.take k)=pre at HK HE;obtain⟨HNe,HNf⟩:=h2 he hf;obtain⟨ae,ce,rfl,-⟩:=he;obtain⟨af,cf,rfl,-⟩:=hf;go_wp2_with fail;refine (exprs_any _ _ _ _ _ _ _ _ _ _ _).mono ?_;rintro e w1 ⟨rfl,hb1⟩;simp only[World.size_alloc] at hb1;have HB1:Hid (Bl w w1):=hB.trans ((one_below hb1).mono hB.size);have HM1:=hide (map_below HM (one_below hb1));go_wp2_with fail;go_loopw [24] (λi w2=>∃(m n3:Nat) (D3:DataW Unit),m<=2/\i=.int .i64 m/\w2.ownsMap prog 2 (plainElem (H:=Unit) prog 2) (w.heap.size+1) n3 D3/\bnd n3 k m 0/\KeysIs D3 (callN fs (pre++upTo s m))/\Bl w w2) (λi _=>2-(RowKit.intOf i).toNat)
   case atStart=>exact⟨0,n2,D2,y_,rfl,HM1.o,hn2,by simpa[upTo] using HK.o,HB1.o⟩
   case round=>
    obtain⟨m,n3,D3,hm,rfl,hM3,hn3,hK3,hB3⟩:=hrel;obtain⟨HM3,HK3⟩:=h2 hM3 hK3;by_cases hm2:m<2
    ·obtain⟨va,el,ca,hidx,hel,hnext,hll,hwfs⟩ : ∃(va:Option Addr) (el:List Nd) (ca:Nat),(∀W,(Instr.index 244 (.agg #[.slice ae s.e.length ce,.slice af s.f.length cf]) (.int .i64 (m:Int))).run prog W=.ok (.slice va el.length ca) W)/\Nodes w (.slice va el.length ca) el/\upTo s (m+1)=upTo s m++el/\el.length<=1048576/\(∀n∈el,n.name.size<=9223372036854775807):=by
      have h01:m=0∨m=1:=by omega
      rcases h01 with rfl|rfl
      ·exact⟨ae,s.e,ce,λW=>idx0 _ _ W,HNe,by simp[upTo],HS.o.1,HWs.o.2.1.2⟩
      ·exact⟨af,s.f,cf,λW=>idx1 _ _ W,HNf,by simp[upTo],HS.o.2,HWs.o.2.2.2⟩
     obtain⟨HX,HWn⟩:=h2 hnext hwfs;generalize upTo s m=mid at HK3 HX;obtain⟨_,_,he0,-,-,hec⟩:=hel;simp only[Value.slice.injEq] at he0;obtain⟨rfl,-,rfl⟩:=he0;have HEC:=hide hec;have hm2d:decide ((m:Int)<2)=true:=by rw[decide_eq_true_iff];omega
     go_wp2_with fail;go_loopw [29] (λi w4=>∃(j n4:Nat) (D4:DataW Unit),j<=el.length/\i=.int .i64 j/\w4.ownsMap prog 2 (plainElem (H:=Unit) prog 2) (w.heap.size+1) n4 D4/\bnd n4 k m j/\KeysIs D4 (callN fs (pre++mid++el.take j))/\Bl w w4) (λi _=>el.length-(RowKit.intOf i).toNat)
     case atStart=>exact⟨0,n3,D3,y_,rfl,HM3.o,hn3,by simpa using HK3.o,hB3⟩
     case round=>
      obtain⟨j,n4,D4,hj,rfl,hM4,hn4,hK4,hB4⟩:=hrel;have HM4:Hid (wr.ownsMap prog 2 (plainElem (H:=Unit) prog 2) (w.heap.size+1) n4 D4):=hM4;have HK4:Hid (KeysIs D4 (callN fs (pre++mid++el.take j))):=hK4;by_cases hjl:j<el.length
      ·obtain⟨bn,on,rfl,hcn⟩:=HEC o_;obtain⟨c0,c1,c2⟩:=(hcn.below hB4) j hjl;have HZ:Hid (el[j].name.size<=maxLen):=by
        have:=HWn.o el[j] (g_ hjl)
        show _<=_;unfold maxLen;omega
       have HT:Hid (pre++mid++el.take (j+1)=pre++mid++el.take j++[el[j]]):=by show _=_;rw[take_succ el j hjl];simp
       generalize el[j]=n at c0 c1 c2 HZ HT;generalize pre++mid++el.take j=done at HK4 HT;have hBa:Bl w (wr.alloc (.cells #[.int .i64 n.kind,.int .i64 n.val,.string n.name] 134)):=hB4.alloc hB4.size _;have HMa:Hid ((wr.alloc (.cells #[.int .i64 n.kind,.int .i64 n.val,.string n.name] 134)).ownsMap prog 2 (plainElem (H:=Unit) prog 2) (w.heap.size+1) n4 D4):=HM4.o.alloc _;have hsz4:=hB4.size;cases hv:fnum fs n.name with
       | none=>
        have hlook:=look_no (map_below HW hBa) HN HZ hv;have HR:Hid (callN fs (done++[n])=callN fs done):=callN_snoc_no (λ_=>hv);go_wp2_with fail;go_roundw
        case rel=>exact⟨j+1,n4,D4,by omega,by go_num,HMa,hn4.same,by rw[HT.o,HR.o];exact HK4,hBa⟩
        case measure=>simp[RowKit.intOf];omega
       | some g=>
        have hlook:=look_num (map_below HW hBa) HN HZ hv;by_cases h4:n.kind=4
        ·have HR:Hid (callN fs (done++[n])=callN fs done++[g]):=callN_snoc_yes h4 hv;have hgl:g<fs.length:=fnum_lt hv;have HT2:Hid (callN fs (pre++mid++el.take (j+1))=callN fs done++[g]):=by show _=_;rw[HT.o,HR.o]
         obtain⟨kd,vl,nm⟩:=n;simp only at c0 c1 c2 HZ hBa HMa hlook h4;subst h4;obtain⟨c,hrun2,hat,hwc⟩:=HMa.o.lookup_int (key:=.int .i64 (g:Int)) (Maps.int_keyed underlying2) underlying243 underlying2 (zeroValue2 _) (Maps.keyOf_int_mk underlying2 (WalkArith.wf_i64 o_));go_wp2_with (first
          | (at_mapUpdate;refine wpList_mapUpdate_own _ rfl _ _ _ 243 rfl 2 2 (Maps.int_keyed underlying2) underlying243 _ (w.heap.size+1) n4 D4 rfl HMa (by have:=hn4.le o_ o_ o_;unfold maxLen;omega) _ _ _ rfl rfl (Maps.keyOf_int_mk underlying2 (WalkArith.wf_i64 o_)) _ [] (plainElem_int underlying2 (wrap64_wf _)) ?_;intro w5 hown5 hgrow5)
          | go_in)
         have HM5:=hide hown5;have HK5:Hid (KeysIs (D4.put (.int .i64 (g:Int)) (.lit (.int .i64 (wrap64 (c+1))))) (callN fs done++[g])):=HK4.o.put g _;have hB5:Bl w w5:=hBa.grown hgrow5 (by simp;omega) (λj hj=>by cases hj;omega);have hn5:bnd (n4+1) k m (j+1):=hn4.more;generalize D4.put (.int .i64 (g:Int)) (.lit (.int .i64 (wrap64 (c+1))))=D5 at HM5 HK5;go_roundw
         case rel=>exact⟨j+1,n4+1,D5,by omega,by go_num,HM5,hn5,by rw[HT2.o];exact HK5,hB5⟩
         case measure=>simp[RowKit.intOf];omega
        ·have HR:Hid (callN fs (done++[n])=callN fs done):=callN_snoc_no (λh=>absurd h h4);go_wp2_with fail;go_roundw
         case rel=>exact⟨j+1,n4,D4,by omega,by go_num,HMa,hn4.same,by rw[HT.o,HR.o];exact HK4,hBa⟩
         case measure=>simp[RowKit.intOf];omega
      ·obtain rfl:j=el.length:=by omega
       have hn5:bnd n4 k (m+1) 0:=hn4.mid hll;have HR:Hid (pre++mid++el.take el.length=pre++upTo s (m+1)):=by show _=_;rw[HX.o,List.take_length,List.append_assoc]
       go_wp2_with fail;go_roundw
       case rel=>exact⟨m+1,n4,D4,by omega,by go_num,HM4,hn5,by rw[<-HR.o];exact HK4,hB4⟩
       case measure=>simp[RowKit.intOf];omega
    ·obtain rfl:m=2:=by omega
     have hn5:bnd n3 (k+1) 0 0:=hn3.out;have HR:Hid (nodesOf (body.take (k+1))=pre++upTo s 2):=by show _=_;rw[HE.o];rfl
     go_wp2_with fail;go_roundw
     case rel=>exact⟨k+1,n3,D3,by omega,by go_num,HM3,hn5,by rw[HR.o];exact HK3,hB3⟩
     case measure=>simp[RowKit.intOf];omega
  ·have hkk:k=body.length:=by omega
   have HK2:Hid (KeysIs D2 (callN fs (nodesOf body))):=by have:=HK.o;rw[List.take_of_length_le o_] at this;exact this
   have hsz:Maps.size D2<=10000000000000:=t_ (own_size HM) (hn2.le o_ o_ o_);go_wp2_with fail;refine (keys_any _ _).mono ?_;rintro e w6 ⟨rfl,rfl⟩;go_wp2_with fail;refine (sorted_any (w.heap.size+1) n2 D2 _ wr HM hsz).mono ?_;rintro e w7 ⟨v7,zs,rfl,hp,hrow,hb7⟩;have hsk:=sorted_keys HM underlying2 HK2 hp;have hzl:zs.length=(callsL fs body).length:=by
    have:=congrArg List.length hsk
    simpa using this
   rw[hsk,hzl,List.map_map] at hrow;have HRow:=hide hrow;have hB7:=hB.trans (hb7.mono hB.size);go_wp2;go_ret;exact⟨v7,rfl,ownsRow_base_a HRow hB.size,hB7⟩
end Go.Proofs.YtffnkkpmlplfeaaGreatDoor
