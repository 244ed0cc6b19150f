import Derived.Test.YtffnkkpmlplfeaaGreatDoorF21
import Derived.Test.YtffnkkpmlplfeaaGreatDoorF15
namespace Go.Proofs.YtffnkkpmlplfeaaGreatDoor
open Go.Proofs.Tryz Go.RowKit
set_option linter.all false
set_option maxRecDepth 100000
set_option maxHeartbeats 0
variable[Inhabited Pick]
def eM(e fn st:Int):BY:=if e=0 then .nilIface else .iface 205 (.agg #[V e,V fn,V st])
def dv(fn st:Int):eM 0 fn st=.nilIface:=rfl
def bU{e fn st:Int}(h:e≠0):eM e fn st=.iface 205 (.agg #[V e,V fn,V st]):=if_neg h
theorem wo(C bn nn:Nat)(D:DataW Unit)(t:Tr)(Z:List GA)(vl fn st:Int)(nm:GA)(vf:BY)(w:AT)(h2:DO w C 2 vf)(h3:DO w C 3 (.map (some bn)))(h5:DO w C 5 (.int .i64 fn))(h6:DO w C 6 (.int .i64 st))
  (Jd:w.ownsMap prog 9 (plainElem (H:=Unit) prog 2) bn nn D) (hN:cR D t.funcs) (Ji:t.funcs.length<=1048576) (hf:bC w vf t.funcs) (hs:nm.size<=maxLen):
  Calls prog 232 #[pV C,.agg #[V 4,V vl,sV nm]] w λe w'=>e=rW (eM (aS t Z ⟨4,vl,nm⟩) fn st)/\Bl w w':=by
 obtain⟨af,cf,rfl,-,-,Y⟩:=hf;have Jg:=ah Y;have Je:C<w.heap.size:=b_ h2;have I:Bl w (w.alloc (.cells #[V 4,V vl,sV nm] 134)).drew:=(au _ _).drew;have HM:=ah (dJ Jd I);have HN:=ah hN;clear Y Jd hN;cases hfn:bO t.funcs nm with
 | none=>
  have Jc:(Instr.lookup 77 (.map (some bn)) (sV nm) true).run prog (w.alloc (.cells #[V 4,V vl,sV nm] 134)).drew=_:=kU HM HN hs hfn;have J:Hid (aS t Z ⟨4,vl,nm⟩=4):=jI hfn;have c5:=(I.cell (p:=⟨C,5,none⟩) Je).trans h5;have c6:=(I.cell (p:=⟨C,6,none⟩) Je).trans h6;clear hfn;go_in;go_wp2_with fail;go_region;go_wp2_with fail;refine(dg C 4 fn st _ c5 c6).mono ?_;rintro e w1 ⟨rfl,U⟩;rw[U];clear U;go_wp2;go_ret;exact⟨aG (by rw[J.o];rfl),I⟩
 | some i=>
  have hi:=de hfn;have Jc:(Instr.lookup 77 (.map (some bn)) (sV nm) true).run prog (w.alloc (.cells #[V 4,V vl,sV nm] 134)).drew=_:=jH HM HN hs hfn;have J:Hid (aS t Z ⟨4,vl,nm⟩=if ((t.funcs[i].params.length:Nat):Int)=vl then 0 else 6):=lY hfn hi;obtain⟨bf,of,rfl,Y⟩:=Jg o_;obtain⟨vp,vb,⟨f0,f1,f2⟩,⟨ap,cp,rfl,-⟩,-⟩:=Y i hi;have Jh:bf<w.heap.size:=b_ f0;clear Y f0 f2 hfn Jg;generalize t.funcs[i].params.length=np at J f1;by_cases hv:vl=(np:Int)
  ·have Jf:Hid (aS t Z ⟨4,vl,nm⟩=0):=by show _=_;rw[J.o,if_pos hv.symm]
   clear J;subst hv;go_in;go_wp2_with fail;go_region;go_wp2_with fail;go_region;go_wp2;go_ret;exact⟨aG (by rw[Jf.o];rfl),I.drew⟩
  ·have Jf:Hid (aS t Z ⟨4,vl,nm⟩=6):=by show _=_;rw[J.o,if_neg (λh=>hv h.symm)]
   have c5:=(I.drew.cell (p:=⟨C,5,none⟩) Je).trans h5;have c6:=(I.drew.cell (p:=⟨C,6,none⟩) Je).trans h6;clear J;go_in;go_wp2_with fail;go_region;go_wp2_with fail;go_region;go_wp2_with fail;refine(dg C 6 fn st _ c5 c6).mono ?_;rintro e w1 ⟨rfl,U⟩;rw[U];clear U;go_wp2;go_ret;exact⟨aG (by rw[Jf.o];rfl),I.drew⟩
theorem wq(C bn nn:Nat)(D:DataW Unit)(t:Tr)(h st:Int)(vf:BY)(w:AT)(h2:DO w C 2 vf)(h3:DO w C 3 (.map (some bn)))(h5:DO w C 5 (.int .i64 h))(h6:DO w C 6 (.int .i64 st))
  (Z:w.ownsMap prog 9 (plainElem (H:=Unit) prog 2) bn nn D) (hN:cR D t.funcs) (Je:t.funcs.length<=1048576) (hf:bC w vf t.funcs):
  Calls prog 106 #[pV C] w λe w'=>e=rW (eM (match bO t.funcs di with|none=>3|some m=>if (t.funcs.getD m ⟨⟨#[]⟩,[],[]⟩).params.length>0 then 3 else 0) h st)/\Bl w w':=by
 obtain⟨af,cf,rfl,-,-,Jc⟩:=hf;have U:di.size<=maxLen:=by unfold maxLen;decide
 cases hfn:bO t.funcs di with
 | none=>
  have Ja:(Instr.lookup 77 (.map (some bn)) (sV ⟨#[109,97,105,110]⟩) true).run prog w=_:=kU Z hN U hfn;go_in;go_wp2_with fail;refine(dg C 3 h st _ h5 h6).mono ?_;rintro e w1 ⟨rfl,I⟩;rw[I];go_wp2;go_ret;exact⟨aG rfl,r_⟩
 | some i=>
  have Y:=de hfn;have Ja:(Instr.lookup 77 (.map (some bn)) (sV ⟨#[109,97,105,110]⟩) true).run prog w=_:=jH Z hN U hfn;obtain⟨bf,of,rfl,Jd⟩:=Jc o_;obtain⟨vp,vb,⟨f0,f1,f2⟩,⟨ap,cp,rfl,-⟩,-⟩:=Jd i Y;have he:(t.funcs.getD i ⟨⟨#[]⟩,[],[]⟩).params.length=t.funcs[i].params.length:=by simp[List.getD,Y]
  simp only[he];generalize t.funcs[i].params.length=np at f1⊢;by_cases hv:0<np
  ·have J:Hid ((if np>0 then(3:Int)else 0)=3):=if_pos hv;go_in;go_wp2_with fail;refine(dg C 3 h st _ h5 h6).mono ?_;rintro e w1 ⟨rfl,I⟩;rw[I];go_wp2;go_ret;exact⟨aG (by first|rfl|(rw[J.o];rfl)),r_⟩
  ·have J:Hid ((if np>0 then(3:Int)else 0)=0):=if_neg hv;obtain rfl:np=0:=o_
   go_in;go_wp2;go_ret;exact⟨aG (by first|rfl|(rw[J.o];rfl)),r_⟩
end Go.Proofs.YtffnkkpmlplfeaaGreatDoor
