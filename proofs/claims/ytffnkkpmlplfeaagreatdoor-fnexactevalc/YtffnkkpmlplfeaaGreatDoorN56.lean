import Derived.Test.YtffnkkpmlplfeaaGreatDoorN54
import Derived.Test.YtffnkkpmlplfeaaGreatDoorTie
import Derived.Test.YtffnkkpmlplfeaaGreatDoorCards
import Derived.LaidMore
namespace Go.Proofs.YtffnkkpmlplfeaaGreatDoor
open Go.Proofs.Tryz
open Go.ChangeShapes Go.WideShapes Go.ChangeAt Go.WideMaps Go.WideElems Go.RowKit Go.Joins Go.Deep
set_option linter.all false
set_option maxRecDepth 100000
set_option maxHeartbeats 16000000
variable {H:Type} {W:World}
theorem own:ownKnob prog.godebug=none:=by kernel_rfl
theorem laidOut:laidOutB prog=true:=by kernel_rfl
def litV {H:Type}:DataW H->Value
 | .lit (.int k n)=>.int k n
 | .lit (.bool b)=>.bool b
 | _=>.nilFunc
def partsD {H:Type}:DataW H->List (DataW H)
 | .agg ds=>ds
 | _=>[]
theorem tab_cells {enc:TypeId × Value->H} {base:Nat} {spare:Nat->Bool} {held:Bool} {fuel n:Nat} {ta ts:TypeId} {fs:Array Field} {cs:List Value} {D:DataW H} {p:List MemPlace} 
  (hta:prog.underlying ta=some (.array n ts)) (hts:prog.underlying ts=some (.struct fs)) (hone:oneCellFields prog fs=true) (hC:prog.cellsOf ts=fs.size)
  (hlit : ∀(i:Nat) (f:Field),fs[i]? = some f->prog.underlying f.type=some (.int .i64)∨prog.underlying f.type=some .bool) (h:DataW.trod enc prog W base spare held fuel ta cs=some (D,p)) :
  ∀i,i<n->∀k,k<fs.size->cs[i*fs.size+k]? = some (litV ((partsD ((partsD D).getD i .nil)).getD k .nil)):=by
 intro i hi k hk;obtain⟨xs,m,_,hx,hl,hxl,hel⟩:=DataW.trod_array hta h;have h1:=hel i hi;rw[List.getElem?_eq_getElem o_,hC] at h1;obtain⟨ys,m',_,hy,hl',hyl,hf⟩:=DataW.trod_struct hts h1;have hfk:fs[k]? = some fs[k]:=by simp[hk]
 have h2:=hf k _ hfk;obtain⟨o,c⟩:=hone_of hone k _ hfk;rw[o,c,List.getElem?_eq_getElem o_,take1_drop _ k .nilFunc o_] at h2;have eD:(partsD D).getD i .nil=(xs[i]' o_).1:=by
  have:D=.agg (xs.map (·.1)):=congrArg Prod.fst hx
  rw[this];simp only[partsD,List.getD,List.getElem?_map];rw[List.getElem?_eq_getElem o_];rfl
 have eY:(partsD (xs[i]' o_).1).getD k .nil=(ys[k]' o_).1:=by
  rw[hy];simp only[partsD,List.getD,List.getElem?_map];rw[List.getElem?_eq_getElem o_];rfl
 rw[eD,eY];have eC:cs[i*fs.size+k]? = some (((cs.drop (i*fs.size)).take fs.size).getD k .nilFunc):=by
  have hlt:k<((cs.drop (i*fs.size)).take fs.size).length:=by omega
  have e1:cs[i*fs.size+k]? = ((cs.drop (i*fs.size)).take fs.size)[k]? := by
   rw[List.getElem?_take,if_pos hk,List.getElem?_drop]
  rw[e1];simp only[List.getD];rw[List.getElem?_eq_getElem hlt];rfl
 rw[eC];rcases hlit k _ hfk with hu|hu
 ·obtain⟨z,e,ez,_⟩:=DataW.trod_int hu h2;rw[ez];simp only[List.cons.injEq,and_true] at e;rw[e];rfl
 ·obtain⟨z,e,ez⟩:=DataW.trod_bool hu h2;rw[ez];simp only[List.cons.injEq,and_true] at e;rw[e];rfl
theorem gStmt:prog.globalNamed "loop.example/s01725/impl.stmtRules" = some 0:=by kernel_rfl
theorem gNode:prog.globalNamed "loop.example/s01725/impl.nodeRules" = some 1:=by kernel_rfl
theorem tStmt:(prog.globals[0]?).map (·.type)=some 299:=by kernel_rfl
theorem tNode:(prog.globals[1]?).map (·.type)=some 304:=by kernel_rfl
theorem nodeTab_is:(List.range 40).map (λj=>litV ((partsD ((partsD (Rows.laid_loop_example_s01725_impl_nodeRules (H:=Unit))).getD (j / 4) .nil)).getD (j % 4) .nil))=nodeTab:=by rfl
theorem stmtTab_is:(List.range 45).map (λj=>litV ((partsD ((partsD (Rows.laid_loop_example_s01725_impl_stmtRules (H:=Unit))).getD (j / 5) .nil)).getD (j % 5) .nil))=stmtTab.map Value.bool:=by rfl
theorem tab_of_laid (h:laidMetH prog Rows.fnExactEvalCRow.laid W):Tab W:=by
 rw[MakeChecks.laidMetH_plain _ _ _ k_] at h;obtain⟨ps,⟨g0,t0,cs0,f0,p0,q0,hg0,ht0,hv0,hd0,⟨g1,t1,cs1,f1,p1,q1,hg1,ht1,hv1,hd1,_,_⟩,_⟩,_,_⟩:=h;obtain rfl:=Option.some.inj (gNode.symm.trans hg0);obtain rfl:=Option.some.inj (gStmt.symm.trans hg1);obtain rfl:=Option.some.inj (tNode.symm.trans ht0);obtain rfl:=Option.some.inj (tStmt.symm.trans ht1);have hn:=tab_cells underlying304 underlying303 k_ k_ (λi f hi=>by
  match i with
  | 0=>exact .inr (by obtain rfl:=Option.some.inj hi;exact underlying4)
  | 1=>exact .inl (by obtain rfl:=Option.some.inj hi;exact underlying2)
  | 2=>exact .inl (by obtain rfl:=Option.some.inj hi;exact underlying2)
  | 3=>exact .inl (by obtain rfl:=Option.some.inj hi;exact underlying2)
  | (n+4)=>simp at hi) hd0
 have hs:=tab_cells underlying299 underlying298 k_ k_ (λi f hi=>by
  match i with
  | 0=>exact .inr (by obtain rfl:=Option.some.inj hi;exact underlying4)
  | 1=>exact .inr (by obtain rfl:=Option.some.inj hi;exact underlying4)
  | 2=>exact .inr (by obtain rfl:=Option.some.inj hi;exact underlying4)
  | 3=>exact .inr (by obtain rfl:=Option.some.inj hi;exact underlying4)
  | 4=>exact .inr (by obtain rfl:=Option.some.inj hi;exact underlying4)
  | (n+5)=>simp at hi) hd1
 have cN : ∀j,j<40->W.cell? ⟨1,j,none⟩=some (nodeTab.getD j .nilFunc):=λj hj=>by
  rw[World.var?_cell hg0 hv0 j];have:=hn (j / 4) o_ (j % 4) (Nat.mod_lt _ (by decide))
  have e:j / 4*4+j % 4=j:=by omega
  have e':cs0.toList[j]? = some (litV ((partsD ((partsD (Rows.laid_loop_example_s01725_impl_nodeRules (H:=Unit))).getD (j / 4) .nil)).getD (j % 4) .nil)):=by
   rw[<-this];congr 1;exact e.symm
  rw[<-nodeTab_is];simp only[List.getD,List.getElem?_map,List.getElem?_range,hj];simpa using e'
 have cS : ∀j,j<45->W.cell? ⟨0,j,none⟩=some (.bool (stmtTab.getD j false)):=λj hj=>by
  rw[World.var?_cell hg1 hv1 j];have:=hs (j / 5) o_ (j % 5) (Nat.mod_lt _ (by decide))
  have e:j / 5*5+j % 5=j:=by omega
  have e':cs1.toList[j]? = some (litV ((partsD ((partsD (Rows.laid_loop_example_s01725_impl_stmtRules (H:=Unit))).getD (j / 5) .nil)).getD (j % 5) .nil)):=by
   rw[<-this];congr 1;exact e.symm
  have e2:(stmtTab.map Value.bool)[j]? = some (litV ((partsD ((partsD (Rows.laid_loop_example_s01725_impl_stmtRules (H:=Unit))).getD (j / 5) .nil)).getD (j % 5) .nil)):=by
   rw[<-stmtTab_is];simp[List.getElem?_map,hj]
  have e3:(stmtTab.map Value.bool)[j]? = some (.bool (stmtTab.getD j false)):=by
   have hl:j<stmtTab.length:=hj;simp[List.getD,hl]
  rw[e2] at e3;rw[<-e3];simpa using e'
 have l0:=b_ (cN 0 o_);have l1:=b_ (cS 0 o_);simp only at l0 l1;exact⟨cN,λ_=>cS,l0,l1⟩
theorem door_met (os:Os) (args:Array Value):laidMetH prog Rows.fnExactEvalCRow.laid ((World.doorLaid prog 36 os).forCall (λ_ _=>0) ⟨#[],args,[]⟩).memory:=
 laidMetH_of_parts3 (fuel:=8) (laidMet_of_run' 8 k_ k_) k_ k_
theorem vars_below {H:Type} {enc:TypeId × Value->H} {W W':World} (hb:Below W.heap.size W W') : ∀ {ns:List String} {ds:List (DataW H)} {ps:List MemPlace},(∀n∈ns,∀g t,prog.globalNamed n=some g->(prog.globals[g]?).map (·.type)=some t->prog.readableRec t=true/\t<prog.types.size/\g<W.heap.size) ->
  DataW.TrodVars enc prog W (λ_=>true) ns ds ps->(∀x∈ps,x.block<W.heap.size)->DataW.TrodVars enc prog W' (λb=>decide (b<W.heap.size)) ns ds ps
 | [],[],ps,_,h,_=>h
 | [],_::_,ps,_,h,_=>by simp[DataW.TrodVars] at h
 | _::_,[],ps,_,h,_=>by simp[DataW.TrodVars] at h
 | n::ns,d::ds,ps,hr,h,hlt=>by
  obtain⟨g,t,cs,fuel,p,q,hg,ht,hv,hd,hrest,rfl⟩:=h;obtain⟨r1,r2,r3⟩:=hr n (by simp) g t hg ht;have hT:DataW.Trod enc prog W 0 (λ_=>true) true t (.agg cs) d p:=⟨fuel,by simpa[Value.cells] using hd⟩;obtain⟨fuel',hd'⟩:=Below.trod laidOut r1 r2 hT hb (λx hx=>hlt x (by simp[hx]));exact⟨g,t,cs,fuel',p,q,hg,ht,var?_below hb hg r3 hv,by simpa[Value.cells] using hd',vars_below hb (λm hm=>hr m (by simp[hm])) hrest (λx hx=>hlt x (by simp[hx])),rfl⟩
theorem lifted (os:Os) (started:os.Started) (H:Type) (enc:TypeId × Value->H) :
  ReturnsInHanded {} Tryz.checked os 3 .any (λw args=>(Rows.fnExactEvalCSpec.pre enc prog Tryz.f3 [] false w args/\laidMetH prog Rows.fnExactEvalCRow.laid w)/\sizedMet enc prog Tryz.f3 (OpenSpec.ofChange Rows.fnExactEvalCSpec) false w args)
   (Rows.fnExactEvalCSpec.post enc prog Tryz.f3 false true false false):=by
 refine returnsInHanded_of_change_and (C:=Tryz.checked) (X:=λw _=>laidMetH prog Rows.fnExactEvalCRow.laid w) (λ_ _ _ hh h=>h.of_heap hh) own started k_ func3
  (ChangeSpec.witness_shaped (enc:=enc) (C:=Tryz.checked) (os:=os) (X:=λw _=>laidMetH prog Rows.fnExactEvalCRow.laid w) false (World.doorLaid prog 36 os) #[.agg #[.slice none 0 0,.slice none 0 0],.slice none 0 0,.int .i64 0,.slice none 0 0] 8 rfl (World.shaped_of_RefB k_ k_) k_ k_ k_ (door_met os _)) ?_
 intro W base args ds gs before hval0 hW _ _ hL _;have hval : ∀(j:Nat) t v,Tryz.f3.params[j]? = some t->args[j]? = some v->Value.okWide prog W .any base t v:=hval0;have hW':=hW;obtain⟨p,q,hA0,hV,rfl,hfz,hnd⟩:=hW;have hA:DataW.TrodAll enc prog W 0 (λ_=>true) true Tryz.f3.params.toList args.toList ds p:=hA0;rw[params3] at hA hval;obtain⟨v0,vs0,d0,ds0,p0,q0,hargs,rfl,rfl,h0,r0⟩:=trodAll_cons hA;obtain⟨v1,vs1,d1,ds1,p1,q1,rfl,rfl,rfl,h1,r1⟩:=trodAll_cons r0;obtain⟨v2,vs2,d2,ds2,p2,q2,rfl,rfl,rfl,h2,r2⟩:=trodAll_cons r1;obtain⟨v3,vs3,d3,ds3,p3,q3,rfl,rfl,rfl,h3,r3⟩:=trodAll_cons r2;obtain⟨rfl,rfl,rfl⟩:=trodAll_nil r3;obtain rfl:args = #[v0,v1,v2,v3]:=by cases args;simp_all
 have hT:=tab_of_laid hL;have hV1:DataW.TrodVars enc prog W (λ_=>true) ["loop.example/s01725/impl.stmtRules", "loop.example/s01725/impl.nodeRules"] gs q:=hV;have hVlt:=DataW.TrodVars.lt hV1;have k0:=h0;have k1:=h1;have lt1 : ∀x∈p1,x.block<W.heap.size:=by obtain⟨m,hm⟩:=k1;exact DataW.trod_lt m _ _ _ hm
 have k2:=h2;have k3:=h3;have lt2 : ∀x∈p2,x.block<W.heap.size:=by obtain⟨m,hm⟩:=k2;exact DataW.trod_lt m _ _ _ hm
 have lt3 : ∀x∈p3,x.block<W.heap.size:=by obtain⟨m,hm⟩:=k3;exact DataW.trod_lt m _ _ _ hm
 obtain⟨z,rfl⟩:=okWide_int underlying2 (hval 2 2 v2 rfl rfl);obtain⟨a1,n1,c1',rfl⟩:=okWide_slice underlying26 (hval 1 26 v1 rfl rfl);obtain⟨a3,n3,c3',rfl⟩:=okWide_slice underlying26 (hval 3 26 v3 rfl rfl);obtain⟨m1,hm1⟩:=h1;obtain⟨m3,hm3⟩:=h3;obtain⟨il,hil⟩:=rd_ints (v:=.slice a1 n1 c1') hm1;obtain⟨fl,hfl⟩:=rd_ints (v:=.slice a3 n3 c3') hm3;have lt0 : ∀x∈p0,x.block<W.heap.size:=by obtain⟨m,hm⟩:=k0;exact DataW.trod_lt m _ _ _ hm
 obtain⟨c0,c1,y0,y1,m,rfl,rfl,rfl,hy0,hy1⟩:=open_agg2 underlying25 k_ k_ (hval 0 25 v0 rfl rfl) h0;obtain⟨gsl,hg,wg⟩:=rd_globs hy0;obtain⟨fsl,hf,wf⟩:=rd_funcs hy1;obtain⟨_,_,_,_,e0,_,_,_,_,_,e1,_,rfl,-⟩:=trodVars_two hV1;refine (law_evalC ⟨gsl,fsl⟩ c0 c1 _ _ il fl z W hT ⟨wg,wf⟩ hg hf hil hfl).mono λe W' ⟨he,bel⟩ => ?_;subst he;refine⟨_,rfl,_,_,_,[],_,_,hW',trodAll_mk1 (shut_bool underlying4 _),trodAll_cons_mk (Below.trod laidOut k_ (of_decide_eq_true k_) k0 bel lt0) (trodAll_cons_mk (Below.trod laidOut k_ (of_decide_eq_true k_) k1 bel lt1) (trodAll_cons_mk (Below.trod laidOut k_ (of_decide_eq_true k_) k2 bel lt2) (trodAll_cons_mk (Below.trod laidOut k_ (of_decide_eq_true k_) k3 bel lt3) trodAll_mk0))),vars_below bel ?_ hV1 hVlt,bel.frame _,λh=>by cases h⟩;intro n hn g t hg ht;have hsz:=hT.size;have hn2:n= "loop.example/s01725/impl.stmtRules" ∨ n= "loop.example/s01725/impl.nodeRules" := by
  have hn3:n ∈ ["loop.example/s01725/impl.stmtRules", "loop.example/s01725/impl.nodeRules"]:=hn;simpa using hn3
 rcases hn2 with rfl|rfl
 ·obtain rfl:=Option.some.inj (gStmt.symm.trans hg);obtain rfl:=Option.some.inj (tStmt.symm.trans ht);exact⟨by kernel_rfl,of_decide_eq_true k_,by omega⟩
 ·obtain rfl:=Option.some.inj (gNode.symm.trans hg);obtain rfl:=Option.some.inj (tNode.symm.trans ht);exact⟨by kernel_rfl,of_decide_eq_true k_,by omega⟩
theorem row_holds:Rows.FnExactEvalCSaid:=
 OpenClaim.holds_of_wide 3 Tryz.f3 rfl rfl rfl rfl rfl rfl rfl ⟨rfl,rfl,rfl,rfl,rfl⟩ rfl rfl rfl rfl rfl k_ func3 k_
  (of_decide_eq_true k_) (by unfold Func.isWrapper;first|(rw[if_pos (by decide +kernel)];kernel_rfl)|(rw[if_neg (by decide +kernel)];exact⟨rfl,rfl⟩))
  (λos started H enc _=>lifted os started H enc)
theorem card_holds:Rows.FnExactEvalCCardSaid:=
 Claim7.holds_tied_plain_at .later [] [.data,.data] true _ true
  row_holds (λ_ h=>by cases h) k_ (λ_ h=>by cases h) fnExactEvalC_row_tie rfl ⟨rfl,rfl⟩ k_ rfl
  (λf fn hf hfn=>by
   obtain rfl:f=3:=Option.some.inj ((show prog.funcNamed "loop.example/s01725/laws.FnExactEvalC" = some 3 by kernel_rfl).symm.trans hf) |>.symm;obtain rfl:fn=Tryz.f3:=(Option.some.inj (func3.symm.trans hfn)).symm;exact⟨by kernel_rfl,λj t ht=>by
    rw[params3] at ht;have hm:t ∈ [25,26,2,26]:=by simpa using Array.mem_of_getElem? ht
    have hall:([25,26,2,26].all λu => !prog.wantsStandIn u)=true:=by kernel_rfl
    exact (show prog.wantsStandIn t=false by simpa using List.all_eq_true.1 hall t hm)⟩)
  k_
#print axioms card_holds
end Go.Proofs.YtffnkkpmlplfeaaGreatDoor
