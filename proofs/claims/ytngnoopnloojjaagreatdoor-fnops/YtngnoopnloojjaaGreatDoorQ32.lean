import Derived.Test.YtngnoopnloojjaaGreatDoorQ30
import Derived.Test.YtngnoopnloojjaaGreatDoorQ03
namespace Go.Proofs.YtngnoopnloojjaaGreatDoor
open Go.World List
open Go.Proofs.Tryz
set_option linter.all false
set_option maxRecDepth 100000
set_option maxHeartbeats 0
variable[Inhabited Pick]
section
open Go.RowKit
variable{b nn:Nat}{D:DataW Unit}{W:AT}{fs:List Fu}{s:IF}
def dM{P:Program}{k:IN}{R:BY->Option (DataW Unit×List MemPlace)}{w w':AT}{n:Nat}(h:w.ownsMap P k R b n D)(U:Bl w w'):w'.ownsMap P k R b n D:=by have Jb:=h.lt;obtain⟨H,Ja,I,F,J,O⟩:=h;exact⟨H,Ja,(U.block b Jb).trans I,F,J,O⟩
def mg(Jb:W.ownsMap prog 9 (plainElem (H:=Unit) prog 2) b nn D)(U:cY D fs)(X:s.size<=maxLen){g:Nat}(h:bU fs s=some g):
  (Instr.lookup 131 (.map (some b)) (sV s) true).run prog W=.ok (.tuple #[V (g:Int),.bool true]) W:=by
 have⟨v,ps,Ja,J⟩:=Jb.look_ok (Maps.string_keyed underlying9) underlying131 (zeroValue2 _) (plainElem_int underlying2 d_) (WideMaps.keyOf_string_mk underlying9 X);rw[U.val s g h]at J;obtain⟨c,rfl,I,_⟩:=plainElem_int_inv underlying2 J;simp only[Prod.mk.injEq,DataW.lit.injEq,Lit.int.injEq,true_and]at I;obtain⟨I,-⟩:=I;subst I;have O:=U.has s;rw[h]at O;rw[O]at Ja;exact Ja
def oM(Jb:W.ownsMap prog 9 (plainElem (H:=Unit) prog 2) b nn D)(X:cY D fs)(U:s.size<=maxLen)(h:bU fs s=none):
  (Instr.lookup 131 (.map (some b)) (sV s) true).run prog W=.ok (.tuple #[V 0,.bool false]) W:=by
 have⟨v,ps,Ja,O⟩:=Jb.look_ok (Maps.string_keyed underlying9) underlying131 (zeroValue2 _) (plainElem_int underlying2 d_) (WideMaps.keyOf_string_mk underlying9 U);have J:=X.has s;rw[h]at J;rw[Maps.atKey_of_not_has J]at O;obtain⟨c,rfl,I,_⟩:=plainElem_int_inv underlying2 O;simp only[Prod.mk.injEq,DataW.lit.injEq,Lit.int.injEq,true_and]at I;obtain⟨I,-⟩:=I;subst I;rw[J]at Ja;exact Ja
theorem jj(I:List Fu)(vg vf:BY)(w:AT)(hl:I.length<=1048576)(hw:Bp I)(hf:cF w vf I):
  Calls prog 75 #[.agg #[vg,vf]] w λe w'=>∃b D,e=rW (.map (some b))/\w.heap.size<=b/\w'.ownsMap prog 9 (plainElem (H:=Unit) prog 2) b I.length D/\cY D I/\Bl w w':=by
 obtain⟨af,cf,rfl,-,-,Jh⟩:=hf;have⟨Jl,HW⟩:=h2 Jh hw;have Jm:= @run_makeMap prog;go_in;go_wp2;go_loopw[12] (λi wr=>∃(k:Nat) (D:DataW Unit),k<=I.length/\i=.int .i64 k/\wr.ownsMap prog 9 (plainElem (H:=Unit) prog 2) (w.heap.size+1) k D/\cY D (I.take k)/\Bl w wr) (λi _=>I.length-(RowKit.intOf i).toNat)
 case atStart=>exact⟨0,.map [],y_,rfl,by simpa using ownsMap_made (w.alloc _) prog 9 _,cY.nil,(aq _ _).alloc i_ _⟩
 case round=>
  obtain⟨k,D,hk,rfl,hM,hN,O⟩:=hrel;have HM:Hid (wr.ownsMap prog 9 (plainElem (H:=Unit) prog 2) (w.heap.size+1) k D):=hM;have J:=ah hN;have Jj:=hM.lt;by_cases hlt:k<I.length
  ·obtain⟨b,Jn,rfl,hc⟩:=Jl o_;obtain⟨vp,vb,⟨d0,d1,Z⟩,⟨ap,cp,rfl,-⟩,⟨ab,cb,rfl,-⟩⟩:=(hc.below O) k hlt;generalize I[k].pm.length=np at d1;generalize I[k].bd.length=nb at Z;have Y:Hid (I.take (k+1)=I.take k++[I[k]]):=bP I k hlt;have U:Hid (I[k].nm.size<=maxLen):=by
    have:=(HW.o.2 I[k] (g_ hlt)).1
    show _<=_;unfold maxLen;omega
   have Ji:Hid ((I.take k).length=k):=(by show _=_;simp;omega);generalize I[k]=f at d0 d1 Z Y U;have Jd:Hid ((wr.alloc (.cells #[sV f.nm,.slice ap np cp,.slice ab nb cb] 143)).ownsMap prog 9 (plainElem (H:=Unit) prog 2) (w.heap.size+1) k D):=HM.o.alloc _;cases hv:bU (I.take k) f.nm with
   | none=>
    have Jc:=oM Jd J U hv;have X:Hid (Maps.has D (kS f.nm)=false):=(by show _=_;rw[J.o.has,hv];rfl);go_wp2_with(first
     | (at_mapUpdate;refine wpList_mapUpdate_own _ rfl _ _ _ 131 rfl 9 2 (Maps.string_keyed underlying9) underlying131 _ (w.heap.size+1) k D rfl Jd (by unfold maxLen;omega) _ _ _ rfl rfl (WideMaps.keyOf_string_mk underlying9 U) _ [] (plainElem_int underlying2 (WalkArith.wf_i64 o_)) ?_;intro w1 Jb Ja)
     | go_in)
    have Jk:=ah Jb;have Jg:Hid (cY (D.put (kS f.nm) (.lit (.int .i64 (k:Int)))) (I.take (k+1))):=by
     have:=J.o.new X.o
     rw[Ji.o]at this;rw[Y.o];exact this
    have Je:Bl w w1:=(O.alloc O.size _).grown Ja (by have:=O.size;simp;omega) (λj hj=>by cases hj;omega);go_wp2;go_roundw
    case rel=>exact⟨k+1,_,o_,by go_num,Jk,Jg,Je⟩
    case measure=>exact D1
   | some g=>
    have Jc:=mg Jd J U hv;have X:Hid (Maps.has D (kS f.nm)=true):=(by show _=_;rw[J.o.has,hv];rfl);go_wp2;go_roundw
    case rel=>exact⟨k+1,D,o_,by go_num,Jd.o.mono o_,by rw[Y.o];exact J.o.old X,O.alloc O.size _⟩
    case measure=>exact D1
  have Jf:k=I.length:=o_;have HR:Hid (cY D I):=(by have:=J.o;rw[take_of_length_le o_]at this;exact this);go_wp2;go_ret;exact⟨_,D,rfl,o_,by rw[<-Jf];exact HM,HR,O⟩
end
section
open Go.RowKit
variable{t:Tr}{scope:List IF}{vl:Int}{nm:IF}
def yV{i:Nat}(h:bU t.fc nm=some i)(H:i<t.fc.length):nodeE t scope ⟨4,vl,nm⟩=if ((t.fc[i].pm.length:Nat):Int)=vl then 0 else 6:=by unfold nodeE;simp only;rw[if_neg o_,if_pos trivial,h];simp[List.getD,H]
def ul(h:bU t.fc nm=none):nodeE t scope ⟨4,vl,nm⟩=4:=by unfold nodeE;simp only;rw[if_neg o_,if_pos trivial,h]
end
end Go.Proofs.YtngnoopnloojjaaGreatDoor
