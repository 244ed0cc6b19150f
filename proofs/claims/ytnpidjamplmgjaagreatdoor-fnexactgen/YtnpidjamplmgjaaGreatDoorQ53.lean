import Derived.Test.YtnpidjamplmgjaaGreatDoorQ52
import Derived.Test.YtnpidjamplmgjaaGreatDoorTie
import Derived.Test.YtnpidjamplmgjaaGreatDoorCards
import Derived.ProofKit
import Derived.LaidMore
import Derived.OpenShut
import Derived.Carry
import Derived.ChangeOld
import Derived.WalkSmall
import Derived.Stop.Joined
import Derived.SevenTiedAt
import Derived.Lib.LaidTab
namespace Go.Proofs.YtnpidjamplmgjaaGreatDoor
open Go.ChangeShapes Go.WideShapes Go.ChangeAt Go.WideMaps Go.WideElems Go.RowKit Go.Joins Go.Deep
set_option linter.unusedVariables false
set_option linter.unusedSimpArgs false
set_option maxRecDepth 100000
set_option maxHeartbeats 16000000
theorem own:ownKnob Tryz.prog.godebug=none:=by kernel_rfl
theorem laidOut:laidOutB Tryz.prog=true:=by kernel_rfl
def litV {H:Type}:DataW H->Value
 | .lit (.int k n)=>.int k n
 | .lit (.bool b)=>.bool b
 | _=>.nilFunc
def partsD {H:Type}:DataW H->List (DataW H)
 | .agg ds=>ds
 | _=>[]
theorem tab_cells {H:Type} {enc:TypeId × Value->H} {W:World} {base:Nat} {spare:Nat->Bool} {held:Bool} {fuel n:Nat} {ta ts:TypeId} {fs:Array Field} {cs:List Value} {D:DataW H} {p:List MemPlace}
  (hta:Tryz.prog.underlying ta=some (.array n ts)) (hts:Tryz.prog.underlying ts=some (.struct fs)) (hone:oneCellFields Tryz.prog fs=true) (hC:Tryz.prog.cellsOf ts=fs.size)
  (hlit : ∀(i:Nat) (f:Field),fs[i]? = some f->Tryz.prog.underlying f.type=some (.int .i64)∨Tryz.prog.underlying f.type=some .bool) (h:DataW.trod enc Tryz.prog W base spare held fuel ta cs=some (D,p)) :
  ∀i,i<n->∀k,k<fs.size->cs[i*fs.size+k]? = some (litV ((partsD ((partsD D).getD i .nil)).getD k .nil)):=by
 intro i hi k hk
 obtain ⟨xs,m,_,hx,hl,hxl,hel⟩:=DataW.trod_array hta h
 have h1:=hel i hi
 rw [List.getElem?_eq_getElem o_,hC] at h1
 obtain ⟨ys,m',_,hy,hl',hyl,hf⟩:=DataW.trod_struct hts h1
 have hfk:fs[k]? = some fs[k]:=by simp [hk]
 have h2:=hf k _ hfk
 obtain ⟨o,c⟩:=hone_of hone k _ hfk
 rw [o,c,List.getElem?_eq_getElem o_,take1_drop _ k .nilFunc o_] at h2
 have eD:(partsD D).getD i .nil=(xs[i]' o_).1:=by
  have:D = .agg (xs.map (·.1)):=congrArg Prod.fst hx
  rw [this]
  simp only [partsD,List.getD,List.getElem?_map]
  rw [List.getElem?_eq_getElem o_]
  rfl
 have eY:(partsD (xs[i]' o_).1).getD k .nil=(ys[k]' o_).1:=by
  rw [hy]
  simp only [partsD,List.getD,List.getElem?_map]
  rw [List.getElem?_eq_getElem o_]
  rfl
 rw [eD,eY]
 have eC:cs[i*fs.size+k]? = some (((cs.drop (i*fs.size)).take fs.size).getD k .nilFunc):=by
  have hlt:k<((cs.drop (i*fs.size)).take fs.size).length:=by omega
  have e1:cs[i*fs.size+k]? = ((cs.drop (i*fs.size)).take fs.size)[k]? := by
   rw [List.getElem?_take,if_pos hk,List.getElem?_drop]
  rw [e1]
  simp only [List.getD]
  rw [List.getElem?_eq_getElem hlt]
  rfl
 rw [eC]
 rcases hlit k _ hfk with hu | hu
 ·obtain ⟨z,e,ez,_⟩:=DataW.trod_int hu h2
  rw [ez]
  simp only [List.cons.injEq,and_true] at e
  rw [e];rfl
 ·obtain ⟨z,e,ez⟩:=DataW.trod_bool hu h2
  rw [ez]
  simp only [List.cons.injEq,and_true] at e
  rw [e];rfl
theorem gStmt:Tryz.prog.globalNamed "loop.example/s01725/impl.stmtRules" = some 2:=by kernel_rfl
theorem gNode:Tryz.prog.globalNamed "loop.example/s01725/impl.nodeRules" = some 1:=by kernel_rfl
theorem tStmt:(Tryz.prog.globals[2]?).map (·.type)=some 287:=by kernel_rfl
theorem tNode:(Tryz.prog.globals[1]?).map (·.type)=some 260:=by kernel_rfl
theorem nodeTab_is:(List.range 40).map (fun j=>litV ((partsD ((partsD (Rows.laid_loop_example_s01725_impl_nodeRules (H:=Unit))).getD (j / 4) .nil)).getD (j % 4) .nil))=nodeTab:=by rfl
theorem stmtTab_is:(List.range 45).map (fun j=>litV ((partsD ((partsD (Rows.laid_loop_example_s01725_impl_stmtRules (H:=Unit))).getD (j / 5) .nil)).getD (j % 5) .nil))=stmtTab.map Value.bool:=by rfl
theorem gReg:Tryz.prog.globalNamed "loop.example/s01725/impl.placeRegs" = some 0:=by kernel_rfl
theorem gOps:Tryz.prog.globalNamed "loop.example/s01725/impl.binaryOps" = some 3:=by kernel_rfl
theorem tReg:(Tryz.prog.globals[0]?).map (·.type)=some 235:=by kernel_rfl
theorem tOps:(Tryz.prog.globals[3]?).map (·.type)=some 296:=by kernel_rfl
theorem reg_is:(Rows.laid_loop_example_s01725_impl_placeRegs:DataW Unit)=Lib.tabData .i64 regTab:=by rfl
theorem ops_is:(Rows.laid_loop_example_s01725_impl_binaryOps:DataW Unit)=Lib.tabData .i64 binTab:=by rfl
theorem vars_four {H:Type} {enc:TypeId × Value->H} {W:World} {sp:Nat->Bool} {a b c d:String} : ∀ {ds:List (DataW H)} {ps:List MemPlace},DataW.TrodVars enc Tryz.prog W sp [a,b,c,d] ds ps->∃x y z u,ds = [x,y,z,u]
 | [x,y,z,u],_,_=>⟨x,y,z,u,rfl⟩
 | [],_,h=>by simp [DataW.TrodVars] at h
 | [_],_,h=>by simp [DataW.TrodVars] at h
 | [_,_],_,h=>by simp [DataW.TrodVars] at h
 | [_,_,_],_,h=>by simp [DataW.TrodVars] at h
 | _::_::_::_::_::_,_,h=>by simp [DataW.TrodVars] at h
theorem tab_of_laid {W:World} (h:laidMetH Tryz.prog Rows.fnExactGenRow.laid W):Tab W/\TabG W:=by
 rw [MakeChecks.laidMetH_plain _ _ _ (by kernel_rfl)] at h
 obtain ⟨ps,⟨g0,t0,cs0,f0,p0,q0,hg0,ht0,hv0,hd0,⟨g1,t1,cs1,f1,p1,q1,hg1,ht1,hv1,hd1,⟨g2,t2,cs2,f2,p2,q2,hg2,ht2,hv2,hd2,⟨g3,t3,cs3,f3,p3,q3,hg3,ht3,hv3,hd3,_,_⟩,_⟩,_⟩,_⟩,_,_⟩:=h
 obtain rfl:=Option.some.inj (gReg.symm.trans hg2)
 obtain rfl:=Option.some.inj (gOps.symm.trans hg3)
 obtain rfl:=Option.some.inj (tReg.symm.trans ht2)
 obtain rfl:=Option.some.inj (tOps.symm.trans ht3)
 obtain rfl:=Option.some.inj (gNode.symm.trans hg0)
 obtain rfl:=Option.some.inj (gStmt.symm.trans hg1)
 obtain rfl:=Option.some.inj (tNode.symm.trans ht0)
 obtain rfl:=Option.some.inj (tStmt.symm.trans ht1)
 have hn:=tab_cells Tryz.underlying260 Tryz.underlying259 (by kernel_rfl) (by kernel_rfl) (fun i f hi=>by
  match i with
  | 0=>exact .inr (by obtain rfl:=Option.some.inj hi;exact Tryz.underlying4)
  | 1=>exact .inl (by obtain rfl:=Option.some.inj hi;exact Tryz.underlying2)
  | 2=>exact .inl (by obtain rfl:=Option.some.inj hi;exact Tryz.underlying2)
  | 3=>exact .inl (by obtain rfl:=Option.some.inj hi;exact Tryz.underlying2)
  | (n+4)=>simp at hi) hd0
 have hs:=tab_cells Tryz.underlying287 Tryz.underlying286 (by kernel_rfl) (by kernel_rfl) (fun i f hi=>by
  match i with
  | 0=>exact .inr (by obtain rfl:=Option.some.inj hi;exact Tryz.underlying4)
  | 1=>exact .inr (by obtain rfl:=Option.some.inj hi;exact Tryz.underlying4)
  | 2=>exact .inr (by obtain rfl:=Option.some.inj hi;exact Tryz.underlying4)
  | 3=>exact .inr (by obtain rfl:=Option.some.inj hi;exact Tryz.underlying4)
  | 4=>exact .inr (by obtain rfl:=Option.some.inj hi;exact Tryz.underlying4)
  | (n+5)=>simp at hi) hd1
 have cN : ∀j,j<40->W.cell? ⟨1,j,none⟩=some (nodeTab.getD j .nilFunc):=fun j hj=>by
  rw [World.var?_cell hg0 hv0 j]
  have:=hn (j / 4) o_ (j % 4) (Nat.mod_lt _ (by decide))
  have e:j / 4*4+j % 4=j:=by omega
  have e':cs0.toList[j]? = some (litV ((partsD ((partsD (Rows.laid_loop_example_s01725_impl_nodeRules (H:=Unit))).getD (j / 4) .nil)).getD (j % 4) .nil)):=by
   rw [<-this];congr 1;exact e.symm
  rw [<-nodeTab_is]
  simp only [List.getD,List.getElem?_map,List.getElem?_range,hj]
  simpa using e'
 have cS : ∀j,j<45->W.cell? ⟨2,j,none⟩=some (.bool (stmtTab.getD j false)):=fun j hj=>by
  rw [World.var?_cell hg1 hv1 j]
  have:=hs (j / 5) o_ (j % 5) (Nat.mod_lt _ (by decide))
  have e:j / 5*5+j % 5=j:=by omega
  have e':cs1.toList[j]? = some (litV ((partsD ((partsD (Rows.laid_loop_example_s01725_impl_stmtRules (H:=Unit))).getD (j / 5) .nil)).getD (j % 5) .nil)):=by
   rw [<-this];congr 1;exact e.symm
  have e2:(stmtTab.map Value.bool)[j]? = some (litV ((partsD ((partsD (Rows.laid_loop_example_s01725_impl_stmtRules (H:=Unit))).getD (j / 5) .nil)).getD (j % 5) .nil)):=by
   rw [<-stmtTab_is]
   simp [List.getElem?_map,hj]
  have e3:(stmtTab.map Value.bool)[j]? = some (.bool (stmtTab.getD j false)):=by
   have hl:j<stmtTab.length:=hj
   simp [List.getD,hl]
  rw [e2] at e3
  rw [<-e3]
  simpa using e'
 have l0:=World.block_lt_of_cell? _ _ (cN 0 o_)
 have l1:=World.block_lt_of_cell? _ _ (cS 0 o_)
 simp only at l0 l1
 rw [reg_is] at hd2
 rw [ops_is] at hd3
 have hcR:=Lib.cells_of_tab Tryz.underlying235 Tryz.underlying2 (by kernel_rfl) (by kernel_rfl) (zs:=regTab) (k:=.i64) hd2
 have hcO:=Lib.cells_of_tab Tryz.underlying296 Tryz.underlying2 (by kernel_rfl) (by kernel_rfl) (zs:=binTab) (k:=.i64) hd3
 refine ⟨⟨cN,fun _=>cS,l0,l1⟩,⟨fun j hj => ?_,fun j hj => ?_⟩⟩
 ·rw [World.var?_cell hg2 hv2 j,<-Array.getElem?_toList,hcR]
  have hl:j<regTab.length:=hj
  simp [List.getD,hl]
 ·rw [World.var?_cell hg3 hv3 j,<-Array.getElem?_toList,hcO]
  have hl:j<binTab.length:=hj
  simp [List.getD,hl]
theorem door_met (os:Os) (args:Array Value):laidMetH Tryz.prog Rows.fnExactGenRow.laid ((World.doorLaid Tryz.prog 46 os).forCall (fun _ _=>0) ⟨#[],args,[]⟩).memory:=
 laidMetH_of_parts3 (fuel:=8) (laidMet_of_run' 8 (by kernel_rfl) (by kernel_rfl)) (by kernel_rfl) (by kernel_rfl)
theorem vars_below {H:Type} {enc:TypeId × Value->H} {W W':World} (hb:Below W.heap.size W W') : ∀ {ns:List String} {ds:List (DataW H)} {ps:List MemPlace},(∀n∈ns,∀g t,Tryz.prog.globalNamed n=some g->(Tryz.prog.globals[g]?).map (·.type)=some t->Tryz.prog.readableRec t=true/\t<Tryz.prog.types.size/\g<W.heap.size) ->
  DataW.TrodVars enc Tryz.prog W (fun _=>true) ns ds ps->(∀x∈ps,x.block<W.heap.size)->DataW.TrodVars enc Tryz.prog W' (fun b=>decide (b<W.heap.size)) ns ds ps
 | [],[],ps,_,h,_=>h
 | [],_::_,ps,_,h,_=>by simp [DataW.TrodVars] at h
 | _::_,[],ps,_,h,_=>by simp [DataW.TrodVars] at h
 | n::ns,d::ds,ps,hr,h,hlt=>by
  obtain ⟨g,t,cs,fuel,p,q,hg,ht,hv,hd,hrest,rfl⟩:=h
  obtain ⟨r1,r2,r3⟩:=hr n (by simp) g t hg ht
  have hT:DataW.Trod enc Tryz.prog W 0 (fun _=>true) true t (.agg cs) d p:=⟨fuel,by simpa [Value.cells] using hd⟩
  obtain ⟨fuel',hd'⟩:=Below.trod laidOut r1 r2 hT hb (fun x hx=>hlt x (by simp [hx]))
  exact ⟨g,t,cs,fuel',p,q,hg,ht,var?_below hb hg r3 hv,by simpa [Value.cells] using hd',vars_below hb (fun m hm=>hr m (by simp [hm])) hrest (fun x hx=>hlt x (by simp [hx])),rfl⟩
theorem lifted (os:Os) (started:os.Started) (H:Type) (enc:TypeId × Value->H) :
  ReturnsInHanded {} Tryz.checked os 3 .any (fun w args=>(Rows.fnExactGenSpec.pre enc Tryz.prog Tryz.f3 [] false w args/\laidMetH Tryz.prog Rows.fnExactGenRow.laid w)/\sizedMet enc Tryz.prog Tryz.f3 (OpenSpec.ofChange Rows.fnExactGenSpec) false w args)
   (Rows.fnExactGenSpec.post enc Tryz.prog Tryz.f3 false true false false):=by
 refine returnsInHanded_of_change_and (C:=Tryz.checked) (X:=fun w _=>laidMetH Tryz.prog Rows.fnExactGenRow.laid w) (fun _ _ _ hh h=>h.of_heap hh) own started (by kernel_rfl) Tryz.func3
  (ChangeSpec.witness_shaped (enc:=enc) (C:=Tryz.checked) (os:=os) (X:=fun w _=>laidMetH Tryz.prog Rows.fnExactGenRow.laid w) false (World.doorLaid Tryz.prog 46 os) #[.agg #[.slice none 0 0,.slice none 0 0]] 8 rfl (World.shaped_of_RefB (by kernel_rfl) (by kernel_rfl)) (by kernel_rfl) (by kernel_rfl) (by kernel_rfl) (door_met os _)) ?_
 intro W base args ds gs before hval0 hW _ _ hL _
 have hval : ∀(j:Nat) t v,Tryz.f3.params[j]? = some t->args[j]? = some v->Value.okWide Tryz.prog W .any base t v:=hval0
 have hW':=hW
 obtain ⟨p,q,hA0,hV,rfl,hfz,hnd⟩:=hW
 have hA:DataW.TrodAll enc Tryz.prog W 0 (fun _=>true) true Tryz.f3.params.toList args.toList ds p:=hA0
 rw [Tryz.params3] at hA hval
 obtain ⟨v0,vs0,d0,ds0,p0,q0,hargs,rfl,rfl,h0,r0⟩:=trodAll_cons hA
 obtain ⟨rfl,rfl,rfl⟩:=trodAll_nil r0
 obtain rfl:args = #[v0]:=by cases args;simp_all
 obtain ⟨hT,hTg⟩:=tab_of_laid hL
 have hV1:DataW.TrodVars enc Tryz.prog W (fun _=>true) ["loop.example/s01725/impl.stmtRules", "loop.example/s01725/impl.nodeRules", "loop.example/s01725/impl.placeRegs", "loop.example/s01725/impl.binaryOps"] gs q:=hV
 have hVlt:=DataW.TrodVars.lt hV1
 have k0:=h0
 have lt0 : ∀x∈p0,x.block<W.heap.size:=by obtain ⟨m,hm⟩:=k0;exact DataW.trod_lt m _ _ _ hm
 obtain ⟨c0,c1,y0,y1,m,rfl,rfl,rfl,hy0,hy1⟩:=open_agg2 Tryz.underlying25 (by kernel_rfl) (by kernel_rfl) (hval 0 25 v0 rfl rfl) h0
 obtain ⟨gsl,hg,wg⟩:=rd_globs hy0
 obtain ⟨fsl,hf,wf⟩:=rd_funcs hy1
 obtain ⟨e0,e1,e2,e3,rfl⟩:=vars_four hV1
 refine (law_gen ⟨gsl,fsl⟩ c0 c1 W hT hTg ⟨wg,wf⟩ hg hf).mono fun e W' ⟨he,bel⟩ => ?_
 subst he
 refine ⟨_,rfl,_,_,_,[],_,_,hW',trodAll_mk1 (shut_bool Tryz.underlying4 _),trodAll_cons_mk (Below.trod laidOut (by kernel_rfl) (of_decide_eq_true (by kernel_rfl)) k0 bel lt0) trodAll_mk0,vars_below bel ?_ hV1 hVlt,bel.frame _,fun h=>by cases h⟩
 intro n hn g t hg ht
 have hsz:=hT.size
 have hn2:n= "loop.example/s01725/impl.stmtRules" ∨ n= "loop.example/s01725/impl.nodeRules" ∨ n= "loop.example/s01725/impl.placeRegs" ∨ n= "loop.example/s01725/impl.binaryOps" := by
  have hn3:n ∈ ["loop.example/s01725/impl.stmtRules", "loop.example/s01725/impl.nodeRules", "loop.example/s01725/impl.placeRegs", "loop.example/s01725/impl.binaryOps"]:=hn
  simpa using hn3
 rcases hn2 with rfl | rfl | rfl | rfl
 ·obtain rfl:=Option.some.inj (gStmt.symm.trans hg)
  obtain rfl:=Option.some.inj (tStmt.symm.trans ht)
  exact ⟨by kernel_rfl,of_decide_eq_true (by kernel_rfl),by omega⟩
 ·obtain rfl:=Option.some.inj (gNode.symm.trans hg)
  obtain rfl:=Option.some.inj (tNode.symm.trans ht)
  exact ⟨by kernel_rfl,of_decide_eq_true (by kernel_rfl),by omega⟩
 ·obtain rfl:=Option.some.inj (gReg.symm.trans hg)
  obtain rfl:=Option.some.inj (tReg.symm.trans ht)
  exact ⟨by kernel_rfl,of_decide_eq_true (by kernel_rfl),World.block_lt_of_cell? _ _ (hTg.reg 0 o_)⟩
 ·obtain rfl:=Option.some.inj (gOps.symm.trans hg)
  obtain rfl:=Option.some.inj (tOps.symm.trans ht)
  exact ⟨by kernel_rfl,of_decide_eq_true (by kernel_rfl),World.block_lt_of_cell? _ _ (hTg.bin 0 o_)⟩
theorem row_holds:Rows.FnExactGenSaid:=
 OpenClaim.holds_of_wide 3 Tryz.f3 rfl rfl rfl rfl rfl rfl rfl ⟨rfl,rfl,rfl,rfl,rfl⟩ rfl rfl rfl rfl rfl (by kernel_rfl) Tryz.func3 (by kernel_rfl)
  (of_decide_eq_true (by kernel_rfl)) (by unfold Func.isWrapper;first | (rw [if_pos (by decide +kernel)];kernel_rfl) | (rw [if_neg (by decide +kernel)];exact ⟨rfl,rfl⟩))
  (fun os started H enc _=>lifted os started H enc)
theorem card_holds:Rows.FnExactGenCardSaid:=
 Claim7.holds_tied_plain_at .later [] [.data,.data,.data,.data] true _ true
  row_holds (fun _ h=>by cases h) (by kernel_rfl) (fun _ h=>by cases h) fnExactGen_row_tie rfl ⟨rfl,rfl⟩ (by kernel_rfl) rfl
  (fun f fn hf hfn=>by
   obtain rfl:f=3:=Option.some.inj ((show Tryz.prog.funcNamed "loop.example/s01725/laws.FnExactGen" = some 3 by kernel_rfl).symm.trans hf) |>.symm
   obtain rfl:fn=Tryz.f3:=(Option.some.inj (Tryz.func3.symm.trans hfn)).symm
   exact ⟨by kernel_rfl,fun j t ht=>by
    rw [Tryz.params3] at ht
    have hm:t ∈ [25]:=by simpa using Array.mem_of_getElem? ht
    have hall:([25].all fun u => !Tryz.prog.wantsStandIn u)=true:=by kernel_rfl
    exact (show Tryz.prog.wantsStandIn t=false by simpa using List.all_eq_true.1 hall t hm)⟩)
  (by kernel_rfl)
#print axioms card_holds
end Go.Proofs.YtnpidjamplmgjaaGreatDoor
