import Derived.Test.YtffnkkpmlplfeaaGreatDoorN20
import Derived.Test.YtffnkkpmlplfeaaGreatDoorN10
namespace Go.Proofs.YtffnkkpmlplfeaaGreatDoor
open Go.Proofs.Tryz
open Go.RowKit
set_option linter.all false
set_option maxRecDepth 100000
set_option maxHeartbeats 16000000
variable[Inhabited Pick]
def errV (e fn st:Int):Value:=if e=0 then .nilIface else .iface 205 (.agg #[.int .i64 e,.int .i64 fn,.int .i64 st])
theorem errV_zero (fn st:Int):errV 0 fn st=.nilIface:=rfl
theorem errV_ne {e fn st:Int} (h:e≠0):errV e fn st=.iface 205 (.agg #[.int .i64 e,.int .i64 fn,.int .i64 st]):=if_neg h
theorem callK_any (C bn nn:Nat) (D:DataW Unit) (t:Tr) (scope:List ByteArray) (vl fn st:Int) (nm:ByteArray) (vf:Value) (w:World) (h2:w.cell? ⟨C,2,none⟩=some vf) (h3:w.cell? ⟨C,3,none⟩=some (.map (some bn))) (h5:w.cell? ⟨C,5,none⟩=some (.int .i64 fn)) (h6:w.cell? ⟨C,6,none⟩=some (.int .i64 st))
  (hown:w.ownsMap prog 9 (plainElem (H:=Unit) prog 2) bn nn D) (hN:NumIs D t.funcs) (hfl:t.funcs.length<=1048576) (hf:Funcs w vf t.funcs) (hs:nm.size<=maxLen) :
  Calls prog 232 #[.pointer (some ⟨C,0,none⟩),.agg #[.int .i64 4,.int .i64 vl,.string nm]] w λe w'=>e=.returned (errV (nodeE t scope ⟨4,vl,nm⟩) fn st)/\Below w.heap.size w w':=by
 obtain⟨af,cf,rfl,-,-,hfc⟩:=hf;have HFC:=hide hfc;have hCl:C<w.heap.size:=b_ h2;have hA:Bl w (w.alloc (.cells #[.int .i64 4,.int .i64 vl,.string nm] 134)).drew:=(bel_a _ _).drew;have HM:=hide (map_below hown hA);have HN:=hide hN;clear hfc hown hN;cases hfn:fnum t.funcs nm with
 | none=>
  have hlook:(Instr.lookup 77 (.map (some bn)) (.string nm) true).run prog (w.alloc (.cells #[.int .i64 4,.int .i64 vl,.string nm] 134)).drew=_:=look_no HM HN hs hfn;have HE:Hid (nodeE t scope ⟨4,vl,nm⟩=4):=nodeE_nocall hfn;have c5:=(hA.cell (p:=⟨C,5,none⟩) hCl).trans h5;have c6:=(hA.cell (p:=⟨C,6,none⟩) hCl).trans h6;clear hfn;go_enter func232,ntmps232;go_wp2_with fail;go_region
  go_wp2_with fail;refine (fault_any C 4 fn st _ c5 c6).mono ?_;rintro e w1 ⟨rfl,hw⟩;rw[hw];clear hw;go_wp2_with fail;go_ret;exact⟨ret_val (by rw[HE.o];rfl),hA⟩
 | some i=>
  have hi:=fnum_lt hfn;have hlook:(Instr.lookup 77 (.map (some bn)) (.string nm) true).run prog (w.alloc (.cells #[.int .i64 4,.int .i64 vl,.string nm] 134)).drew=_:=look_num HM HN hs hfn;have HE:Hid (nodeE t scope ⟨4,vl,nm⟩=if ((t.funcs[i].params.length:Nat):Int)=vl then 0 else 6):=nodeE_call hfn hi;obtain⟨bf,of,rfl,hfc⟩:=HFC o_;obtain⟨vp,vb,⟨f0,f1,f2⟩,⟨ap,cp,rfl,-⟩,-⟩:=hfc i hi;have hbl:bf<w.heap.size:=b_ f0;clear hfc f0 f2 hfn HFC;generalize t.funcs[i].params.length=np at HE f1;by_cases hv:vl=(np:Int)
  ·have HE2:Hid (nodeE t scope ⟨4,vl,nm⟩=0):=by show _=_;rw[HE.o,if_pos hv.symm]
   clear HE;subst hv;go_enter func232,ntmps232;go_wp2_with fail;go_region
   go_wp2_with fail;go_region
   go_wp2_with fail;go_ret;exact⟨ret_val (by rw[HE2.o];rfl),hA.drew⟩
  ·have HE2:Hid (nodeE t scope ⟨4,vl,nm⟩=6):=by show _=_;rw[HE.o,if_neg (λh=>hv h.symm)]
   have c5:=(hA.drew.cell (p:=⟨C,5,none⟩) hCl).trans h5;have c6:=(hA.drew.cell (p:=⟨C,6,none⟩) hCl).trans h6;clear HE;go_enter func232,ntmps232;go_wp2_with fail;go_region
   go_wp2_with fail;go_region
   go_wp2_with fail;refine (fault_any C 6 fn st _ c5 c6).mono ?_;rintro e w1 ⟨rfl,hw⟩;rw[hw];clear hw;go_wp2_with fail;go_ret;exact⟨ret_val (by rw[HE2.o];rfl),hA.drew⟩
theorem mainK_any (C bn nn:Nat) (D:DataW Unit) (t:Tr) (fn st:Int) (vf:Value) (w:World) (h2:w.cell? ⟨C,2,none⟩=some vf) (h3:w.cell? ⟨C,3,none⟩=some (.map (some bn))) (h5:w.cell? ⟨C,5,none⟩=some (.int .i64 fn)) (h6:w.cell? ⟨C,6,none⟩=some (.int .i64 st))
  (hown:w.ownsMap prog 9 (plainElem (H:=Unit) prog 2) bn nn D) (hN:NumIs D t.funcs) (hfl:t.funcs.length<=1048576) (hf:Funcs w vf t.funcs) :
  Calls prog 106 #[.pointer (some ⟨C,0,none⟩)] w λe w'=>e=.returned (errV (match fnum t.funcs mainS with|none=>3|some m=>if (t.funcs.getD m ⟨⟨#[]⟩,[],[]⟩).params.length>0 then 3 else 0) fn st)/\Below w.heap.size w w':=by
 obtain⟨af,cf,rfl,-,-,hfc⟩:=hf;have hs:mainS.size<=maxLen:=by unfold maxLen;decide
 cases hfn:fnum t.funcs mainS with
 | none=>
  have hlook:(Instr.lookup 77 (.map (some bn)) (.string ⟨#[109,97,105,110]⟩) true).run prog w=_:=look_no hown hN hs hfn;go_enter func106,ntmps106;go_wp2_with fail;refine (fault_any C 3 fn st _ h5 h6).mono ?_;rintro e w1 ⟨rfl,hw⟩;rw[hw];go_wp2;go_ret;exact⟨ret_val rfl,r_⟩
 | some i=>
  have hi:=fnum_lt hfn;have hlook:(Instr.lookup 77 (.map (some bn)) (.string ⟨#[109,97,105,110]⟩) true).run prog w=_:=look_num hown hN hs hfn;obtain⟨bf,of,rfl,hfd⟩:=hfc o_;obtain⟨vp,vb,⟨f0,f1,f2⟩,⟨ap,cp,rfl,-⟩,-⟩:=hfd i hi;have he:(t.funcs.getD i ⟨⟨#[]⟩,[],[]⟩).params.length=t.funcs[i].params.length:=by simp[List.getD,hi]
  simp only[he];generalize t.funcs[i].params.length=np at f1 ⊢;by_cases hv:0<np
  ·have HE:Hid ((if np>0 then (3:Int) else 0)=3):=if_pos hv;go_enter func106,ntmps106;go_wp2_with fail;refine (fault_any C 3 fn st _ h5 h6).mono ?_;rintro e w1 ⟨rfl,hw⟩;rw[hw];go_wp2;go_ret;exact⟨ret_val (by first|rfl|(rw[HE.o];rfl)),r_⟩
  ·have HE:Hid ((if np>0 then (3:Int) else 0)=0):=if_neg hv;obtain rfl:np=0:=by omega
   go_enter func106,ntmps106;go_wp2;go_ret;exact⟨ret_val (by first|rfl|(rw[HE.o];rfl)),r_⟩
end Go.Proofs.YtffnkkpmlplfeaaGreatDoor
