import Derived.Test.YtngnoopnloojjaaGreatDoorQ88
import Derived.Lib.SmallJoins
import Derived.Test.YtngnoopnloojjaaGreatDoorTie
import Derived.Test.YtngnoopnloojjaaGreatDoorCards
import Derived.LaidMore
import Derived.Test.YtngnoopnloojjaaGreatDoorQ16
set_option linter.all false
set_option maxRecDepth 100000
set_option maxHeartbeats 0
namespace Go.Proofs.YtngnoopnloojjaaGreatDoor
open Go.Value Go.World List
open Go.Proofs.Tryz Go.ChangeShapes Go.WideShapes Go.ChangeAt Go.WideMaps Go.WideElems Go.RowKit Go.Joins Go.Deep
def own:ownKnob prog.godebug=none:=by kernel_rfl
def laidOut:laidOutB prog=true:=by kernel_rfl
def uH{H:Type}:DataW H->BY
 | .lit (.int k n)=>.int k n
 | .lit (.bool b)=>.bool b
 | .lit (.string l)=>.string (tx l)
 | _=>.nilFunc
def dk{H:Type}:DataW H->List (DataW H)
 | .agg ds=>ds
 | _=>[]
def nH{H:Type}{enc:IN×BY->H}{W:AT}{Jc:Nat}{Ja:Nat->Bool}{Jd:Bool}{fuel n:Nat}{Z U:IN}{I:Array Field}{J:List BY}{D:DataW H}{p:List MemPlace}
  (Jj:prog.underlying Z=some (.array n U)) (Ji:prog.underlying U=some (.struct I)) (Jf:oneCellFields prog I=true) (hC:prog.cellsOf U=I.size)
  (Je:∀(i:Nat) (f:Field),I[i]? =some f->prog.underlying f.type=some (.int .i64)\/prog.underlying f.type=some .bool\/prog.underlying f.type=some .string) (h:DataW.trod enc prog W Jc Ja Jd fuel Z J=some (D,p)):
  ∀i,i<n->∀k,k<I.size->J[i*I.size+k]? =some (uH ((dk ((dk D).getD i .nil)).getD k .nil)):=by
 intro i hi k X;have⟨xs,m,_,hx,hl,Jk,Jh⟩:=DataW.trod_array Jj h;have Y:=Jh i hi;rw[K3 o_,hC]at Y;have⟨ys,m',_,hy,Jm,Jl,hf⟩:=DataW.trod_struct Ji Y;have Jb:I[k]? =some I[k]:=by simp[X]
 have h2:=hf k _ Jb;have⟨o,c⟩:=hone_of Jf k _ Jb;rw[o,c,K3 o_,take1_drop _ k .nilFunc o_]at h2;have eD:(dk D).getD i .nil=(xs[i]'(by omega)).1:=by
  have:D=.agg (xs.map (·.1)):=congrArg Prod.fst hx
  rw[this];simp only[dk,List.getD,getElem?_map];rw[K3 o_];rfl
 have eY:(dk (xs[i]'(by omega)).1).getD k .nil=(ys[k]'(by omega)).1:=by rw[hy];simp only[dk,List.getD,getElem?_map];rw[K3 o_];rfl
 rw[eD,eY];have eC:J[i*I.size+k]? =some (((J.drop (i*I.size)).take I.size).getD k .nilFunc):=by
  have Jg:k<((J.drop (i*I.size)).take I.size).length:=o_;have e1:J[i*I.size+k]? =((J.drop (i*I.size)).take I.size)[k]? := by rw[getElem?_take,if_pos X,getElem?_drop]
  rw[e1];simp only[List.getD];rw[K3 Jg];rfl
 rw[eC];rcases Je k _ Jb with hu|hu|hu
 have⟨z,e,O,_⟩:=DataW.trod_int hu h2
 rw[O];simp only[List.cons.injEq,and_true]at e;rw[e];rfl
 have⟨z,e,O⟩:=DataW.trod_bool hu h2
 rw[O];simp only[List.cons.injEq,and_true]at e;rw[e];rfl
 have⟨z,e,O,_⟩:=DataW.trod_string hu h2
 rw[O];simp only[List.cons.injEq,and_true]at e;rw[e];simp only[uH,G6]
def Ou{H:Type}{enc:IN×BY->H}{W:AT}{Jg:Nat}{Jd:Nat->Bool}{Jh:Bool}{n:Nat}{v:BY}{y:DataW H×List MemPlace}
  (h:DataW.trod enc prog W Jg Jd Jh n 22 [v]=some y):
  ∃a len cap,v=.slice a len cap/\len<=9223372036854775807/\B8 W a len:=by
 rcases open_ints underlying22 underlying5 k_ h with⟨Jc,_⟩|⟨x,l,c,zs,Jc,_,U,O,J,_,Ja,Jk⟩;simp at Jc;subst Jc;exact⟨none,0,0,rfl,o_,λh=>absurd h (Nat.lt_irrefl _)⟩;simp at Jc;subst Jc;unfold maxLen at O;have Jl:l<=zs.length:=by rw[J];split <;> omega
 refine⟨some x,l,c,rfl,o_,λh=>?_⟩;obtain⟨b,Jf,Je⟩:=x;have Ji:=Ja 0 o_;have Jb:Je=none:=by simpa[Addr.add]using cell?_spot Ji
 subst Jb;refine⟨b,Jf,rfl,?_,λj hj=>?_⟩
 have:=b_ Ji
 simpa[Addr.add]using this;have Jj:=Ja j o_;have e:(⟨b,Jf,none⟩:Addr).add j=⟨b,Jf+j,none⟩:=by simp only[Addr.add];split <;> simp_all
 rw[e]at Jj;have I:=bounds_u8 (Jk (zs.getD j 0) (by rw[getD_eq_getElem?_getD,K3 o_];exact g_ _));exact⟨zs.getD j 0,I.1,I.2,Jj⟩
def JX:prog.globalNamed "loop.example/s01725/impl.stmtRules" =some 2:=by kernel_rfl
def JY:prog.globalNamed "loop.example/s01725/impl.nodeRules" =some 0:=by kernel_rfl
def JZ:(prog.globals[2]?).map (·.type)=some 302:=by kernel_rfl
def J_:(prog.globals[0]?).map (·.type)=some 166:=by kernel_rfl
def Ov:prog.globalNamed "loop.example/s01725/impl.binaries" =some 8:=by kernel_rfl
def Ow:(prog.globals[8]?).map (·.type)=some 402:=by kernel_rfl
def Dh:(List.range 72).map (λj=>uH ((dk ((dk (Rows.laid_loop_example_s01725_impl_binaries (H:=Unit))).getD (j / 4) .nil)).getD (j%4) .nil))=gE:=by rfl
def Ox:prog.globalNamed "loop.example/s01725/impl.placeRegs" =some 3:=by kernel_rfl
def Oy:prog.globalNamed "loop.example/s01725/impl.binaryOps" =some 7:=by kernel_rfl
def Oz:(prog.globals[3]?).map (·.type)=some 350:=by kernel_rfl
def OA:(prog.globals[7]?).map (·.type)=some 394:=by kernel_rfl
def Mu:(Rows.laid_loop_example_s01725_impl_placeRegs:DataW Unit)=Lib.tabData .i64 gK:=by rfl
def Mv:(Rows.laid_loop_example_s01725_impl_binaryOps:DataW Unit)=Lib.tabData .i64 qq:=by rfl
theorem Di{H:Type}{enc:IN×BY->H}{W:AT}{sp:Nat->Bool}{a b c d f:String}:∀ {ds:List (DataW H)} {ps:List MemPlace},DataW.TrodVars enc prog W sp [a,b,c,d,f] ds ps->∃x y z u v,ds=[x,y,z,u,v]
 | [x,y,z,u,v],_,_=>⟨x,y,z,u,v,rfl⟩
 | [],_,h=>by simp[DataW.TrodVars]at h
 | [_],_,h=>by simp[DataW.TrodVars]at h
 | [_,_],_,h=>by simp[DataW.TrodVars]at h
 | [_,_,_],_,h=>by simp[DataW.TrodVars]at h
 | [_,_,_,_],_,h=>by simp[DataW.TrodVars]at h
 | _::_::_::_::_::_::_,_,h=>by simp[DataW.TrodVars]at h
def Aa:(List.range 40).map (λj=>uH ((dk ((dk (Rows.laid_loop_example_s01725_impl_nodeRules (H:=Unit))).getD (j / 4) .nil)).getD (j%4) .nil))=oJ:=by rfl
def Ab:(List.range 45).map (λj=>uH ((dk ((dk (Rows.laid_loop_example_s01725_impl_stmtRules (H:=Unit))).getD (j / 5) .nil)).getD (j%5) .nil))=iE.map Value.bool:=by rfl
def Jy(a:Option Addr)(Ja cap:Nat)(w:AT)(I:(1048576:Int)<Ja)(H:Ja<=9223372036854775807):Calls prog 3 #[.slice a Ja cap] w λe w'=>e=rW (.bool true)/\Bl w w':=by go_in;go_wp2;go_ret;exact⟨rfl,r_⟩
def Qy:prog.globalNamed "strconv.ErrRange" =some 5:=by kernel_rfl
def Qz:(prog.globals[5]?).map (·.type)=some 126:=by kernel_rfl
theorem GU{H:Type}{enc:IN×BY->H}{P:Program}{W:AT}{Jb:Nat}{Ja:Nat->Bool}{Jc:Bool}{fuel:Nat}{t:IN}{I:List BY}{x:DataW H×List MemPlace}{ms}(J:P.underlying t=some (.interface ms))(h:DataW.trod enc P W Jb Ja Jc fuel t I=some x):I=[.nilIface]\/∃u v,I=[.iface u v]:=by
 haveI : Inhabited Pick := ⟨⟨λ_ h => Classical.choice h⟩⟩
 cases fuel with
 | zero=>simp[DataW.trod]at h
 | succ n=>unfold DataW.trod at h;rw[J]at h;split at h <;> simp_all
theorem xK{W:World}(h0:laidMetH prog Rows.fnOpsRow.laid W):eG W/\(W.rangeAt 8 0 gE/\8<W.heap.size)/\Dw W/\jr W:=by
 have h':laidMet prog [("math/bits.deBruijn32tab",Rows.laid_math_bits_deBruijn32tab),("math/bits.deBruijn64tab",Rows.laid_math_bits_deBruijn64tab),("internal/strconv.uint64pow10",Rows.laid_internal_strconv_uint64pow10),("strconv.ErrRange",Rows.laid_strconv_ErrRange),("strconv.ErrSyntax",Rows.laid_strconv_ErrSyntax),("loop.example/s01725/impl.nodeRules",Rows.laid_loop_example_s01725_impl_nodeRules),("loop.example/s01725/impl.stmtRules",Rows.laid_loop_example_s01725_impl_stmtRules),("loop.example/s01725/impl.binaries",Rows.laid_loop_example_s01725_impl_binaries),("loop.example/s01725/impl.placeRegs",Rows.laid_loop_example_s01725_impl_placeRegs),("loop.example/s01725/impl.binaryOps",Rows.laid_loop_example_s01725_impl_binaryOps)] W/\handlesMet prog [("errors.errorType",Rows.laid_errors_errorType)] W:=h0;have h:=h'.1;obtain⟨ps,⟨g0,t0,cs0,f0,p0,q0,hg0,ht0,hv0,hd0,⟨g1,t1,cs1,f1,p1,q1,hg1,ht1,hv1,hd1,⟨g2,t2,cs2,f2,p2,q2,hg2,ht2,hv2,hd2,⟨g3,t3,cs3,f3,p3,q3,hg3,ht3,hv3,hd3,⟨g4,t4,cs4,f4,p4,q4,hg4,ht4,hv4,hd4,⟨g5,t5,cs5,f5,p5,q5,hg5,ht5,hv5,hd5,⟨g6,t6,cs6,f6,p6,q6,hg6,ht6,hv6,hd6,⟨g7,t7,cs7,f7,p7,q7,hg7,ht7,hv7,hd7,⟨g8,t8,cs8,f8,p8,q8,hg8,ht8,hv8,hd8,⟨g9,t9,cs9,f9,p9,q9,hg9,ht9,hv9,hd9,_,_⟩,_⟩,_⟩,_⟩,_⟩,_⟩,_⟩,_⟩,_⟩,_⟩,_,_⟩:=h;obtain rfl:=Option.some.inj (Ox.symm.trans hg8);obtain rfl:=Option.some.inj (Oy.symm.trans hg9);obtain rfl:=Option.some.inj (Oz.symm.trans ht8);obtain rfl:=Option.some.inj (OA.symm.trans ht9);obtain rfl:=Option.some.inj (JY.symm.trans hg5);obtain rfl:=Option.some.inj (JX.symm.trans hg6);obtain rfl:=Option.some.inj (Qy.symm.trans hg3);obtain rfl:=Option.some.inj (Qz.symm.trans ht3);obtain rfl:=Option.some.inj (Ov.symm.trans hg7);obtain rfl:=Option.some.inj (J_.symm.trans ht5);obtain rfl:=Option.some.inj (JZ.symm.trans ht6);obtain rfl:=Option.some.inj (Ow.symm.trans ht7);have hn:=nH underlying166 underlying165 k_ k_ (λi f hi=>by
  match i with
  | 0=>exact .inr (.inl (by obtain rfl:=Option.some.inj hi;exact underlying4))
  | 1=>exact .inl (by obtain rfl:=Option.some.inj hi;exact underlying2)
  | 2=>exact .inl (by obtain rfl:=Option.some.inj hi;exact underlying2)
  | 3=>exact .inl (by obtain rfl:=Option.some.inj hi;exact underlying2)
  | (n+4)=>simp at hi) hd5
 have hs:=nH underlying302 underlying301 k_ k_ (λi f hi=>by
  match i with
  | 0=>exact .inr (.inl (by obtain rfl:=Option.some.inj hi;exact underlying4))
  | 1=>exact .inr (.inl (by obtain rfl:=Option.some.inj hi;exact underlying4))
  | 2=>exact .inr (.inl (by obtain rfl:=Option.some.inj hi;exact underlying4))
  | 3=>exact .inr (.inl (by obtain rfl:=Option.some.inj hi;exact underlying4))
  | 4=>exact .inr (.inl (by obtain rfl:=Option.some.inj hi;exact underlying4))
  | (n+5)=>simp at hi) hd6
 have cN:∀j,j<40->W.cell? ⟨0,j,none⟩=some (oJ.getD j .nilFunc):=λj hj=>by
  rw[World.var?_cell hg5 hv5 j]
  have:=hn (j / 4) o_ (j%4) (Nat.mod_lt _ d_)
  have e:j / 4*4+j%4=j:=o_;have e':cs5.toList[j]? =some (uH ((dk ((dk (Rows.laid_loop_example_s01725_impl_nodeRules (H:=Unit))).getD (j / 4) .nil)).getD (j%4) .nil)):=by rw[<-this];congr 1;exact e.symm
  rw[<-Aa];simp only[List.getD,List.getElem?_map,List.getElem?_range,hj];simpa using e'
 have cS:∀j,j<45->W.cell? ⟨2,j,none⟩=some (.bool (iE.getD j false)):=λj hj=>by
  rw[World.var?_cell hg6 hv6 j]
  have:=hs (j / 5) o_ (j%5) (Nat.mod_lt _ d_)
  have e:j / 5*5+j%5=j:=o_;have e':cs6.toList[j]? =some (uH ((dk ((dk (Rows.laid_loop_example_s01725_impl_stmtRules (H:=Unit))).getD (j / 5) .nil)).getD (j%5) .nil)):=by rw[<-this];congr 1;exact e.symm
  have e2:(iE.map Value.bool)[j]? =some (uH ((dk ((dk (Rows.laid_loop_example_s01725_impl_stmtRules (H:=Unit))).getD (j / 5) .nil)).getD (j%5) .nil)):=by rw[<-Ab];simp[List.getElem?_map,hj]
  have e3:(iE.map Value.bool)[j]? =some (.bool (iE.getD j false)):=by have hl:j<iE.length:=hj;simp[List.getD,hl]
  rw[e2]at e3;rw[<-e3];simpa using e'
 have hb:=nH underlying402 underlying391 k_ k_ (λi f hi=>by
  match i with
  | 0=>exact .inr (.inr (by obtain rfl:=Option.some.inj hi;exact underlying9))
  | 1=>exact .inl (by obtain rfl:=Option.some.inj hi;exact underlying2)
  | 2=>exact .inl (by obtain rfl:=Option.some.inj hi;exact underlying2)
  | 3=>exact .inl (by obtain rfl:=Option.some.inj hi;exact underlying2)
  | (n+4)=>simp at hi) hd7
 have cB:∀j,j<72->W.cell? ⟨8,j,none⟩=some (gE.getD j .nilFunc):=λj hj=>by
  rw[World.var?_cell hg7 hv7 j]
  have:=hb (j / 4) o_ (j%4) (Nat.mod_lt _ d_)
  have e:j / 4*4+j%4=j:=o_;have e':cs7.toList[j]? =some (uH ((dk ((dk (Rows.laid_loop_example_s01725_impl_binaries (H:=Unit))).getD (j / 4) .nil)).getD (j%4) .nil)):=by rw[<-this];congr 1;exact e.symm
  rw[<-Dh];simp only[List.getD,List.getElem?_map,List.getElem?_range,hj];simpa using e'
 have hE:Dw W:=by have hc:=World.var?_cell hg3 hv3 0;rcases GU underlying126 hd3 with e|⟨u,v,e⟩;have e2:cs3[0]? =some .nilIface:=(by rw[<-Array.getElem?_toList,e];rfl);exact⟨_,hc.trans e2,.inl rfl⟩;have e2:cs3[0]? =some (.iface u v):=(by rw[<-Array.getElem?_toList,e];rfl);exact⟨_,hc.trans e2,.inr ⟨_,_,rfl⟩⟩
 have l0:=b_ (cN 0 o_);have l1:=b_ (cS 0 o_);have l2:=b_ (cB 0 o_);simp only at l0 l1 l2;rw[Mu]at hd8;rw[Mv]at hd9;have hcR:=Lib.cells_of_tab underlying350 underlying2 k_ k_ (zs:=gK) (k:=.i64) hd8;have hcO:=Lib.cells_of_tab underlying394 underlying2 k_ k_ (zs:=qq) (k:=.i64) hd9;have hTG:jr W:=⟨λj hj=>by
  rw[World.var?_cell hg8 hv8 j,<-Array.getElem?_toList,hcR];have hl:j<gK.length:=hj;simp[List.getD,hl],λj hj=>by
  rw[World.var?_cell hg9 hv9 j,<-Array.getElem?_toList,hcO];have hl:j<qq.length:=hj;simp[List.getD,hl]⟩
 refine⟨⟨cN,λ_=>cS,l0,l1⟩,⟨λj v hv=>?_,l2⟩,hE,hTG⟩;obtain⟨hlt,rfl⟩:=List.getElem?_eq_some_iff.1 hv;rw[Nat.zero_add,cB j (by rw[show gE.length=72 from rfl]at hlt;exact hlt)];simp[List.getD,List.getElem?_eq_getElem hlt]
def GV(os:Os)(args:Array BY):laidMetH prog Rows.fnOpsRow.laid ((doorLaid prog 129 os).forCall (λ_ _=>0) ⟨#[],args,[]⟩).memory:=
 laidMetH_of_parts3 (fuel:=8) (laidMet_of_run' 8 k_ k_) k_ k_
theorem qK{H:Type}{enc:IN×BY->H}{W W':AT}(hb:Bl W W'):∀ {ns:List String} {ds:List (DataW H)} {ps:List MemPlace},(∀n∈ns,∀g t,prog.globalNamed n=some g->(prog.globals[g]?).map (·.type)=some t->prog.readableRec t=true/\t<prog.types.size/\g<W.heap.size) ->
  DataW.TrodVars enc prog W (λ_=>true) ns ds ps->(∀x∈ps,x.block<W.heap.size)->DataW.TrodVars enc prog W' (λb=>decide (b<W.heap.size)) ns ds ps
 | [],[],ps,_,h,_=>h
 | [],_::_,ps,_,h,_=>by simp[DataW.TrodVars]at h
 | _::_,[],ps,_,h,_=>by simp[DataW.TrodVars]at h
 | n::ns,d::ds,ps,hr,h,hlt=>by obtain⟨g,t,cs,fuel,p,q,hg,ht,hv,hd,hrest,rfl⟩:=h;have⟨r1,r2,r3⟩:=hr n i_ g t hg ht;have hT:DataW.Trod enc prog W 0 (λ_=>true) true t (.agg cs) d p:=⟨fuel,by simpa[Value.cells]using hd⟩;have⟨fuel',hd'⟩:=Below.trod laidOut r1 r2 hT hb (λx hx=>hlt x (by simp[hx]));exact⟨g,t,cs,fuel',p,q,hg,ht,var?_below hb hg r3 hv,by simpa[Value.cells]using hd',qK hb (λm hm=>hr m (by simp[hm])) hrest (λx hx=>hlt x (by simp[hx])),rfl⟩
def GX(a:Option Addr)(Ja cap:Nat)(w:AT)(O:eG w)(H:w.rangeAt 8 0 gE/\8<w.heap.size)(X:jr w)(I:Dw w)(J:Ja<=9223372036854775807)(U:B8 w a Ja):
  Calls prog 3 #[.slice a Ja cap] w λe w'=>e=rW (.bool true)/\Bl w w':=by
 by_cases h:Ja<=1048576;exact Jw a Ja cap w h U H.1 I O X H.2;exact Jy a Ja cap w o_ J
def lifted(os:Os)(started:os.Started)(H:Type)(enc:IN×BY->H):
  ReturnsInHanded {} Tryz.checked os 3 .any (λw args=>(Rows.fnOpsSpec.pre enc prog Tryz.f3 [] false w args/\laidMetH prog Rows.fnOpsRow.laid w)/\sizedMet enc prog Tryz.f3 (OpenSpec.ofChange Rows.fnOpsSpec) false w args)
   (Rows.fnOpsSpec.post enc prog Tryz.f3 false true false false):=by
 refine returnsInHanded_of_change_and (C:=Tryz.checked) (X:=λw _=>laidMetH prog Rows.fnOpsRow.laid w) (λ_ _ _ hh h=>h.of_heap hh) own started k_ func3
  (ChangeSpec.witness_shaped (enc:=enc) (C:=Tryz.checked) (os:=os) (X:=λw _=>laidMetH prog Rows.fnOpsRow.laid w) false (doorLaid prog 129 os) #[nV] 8 rfl (shaped_of_RefB k_ k_) k_ k_ k_ (GV os _)) ?_
 intro W base args ds gs before hval0 hW _ _ hL _;have hval:∀(j:Nat) t v,Tryz.f3.params[j]? =some t->args[j]? =some v->okWide prog W .any base t v:=hval0;have hW':=hW;obtain⟨p,q,hA0,hV,rfl,hfz,hnd⟩:=hW;have hA:DataW.TrodAll enc prog W 0 (λ_=>true) true Tryz.f3.params.toList args.toList ds p:=hA0;rw[params3]at hA hval;obtain⟨v0,vs0,d0,ds0,p0,q0,hargs,rfl,rfl,h0,r0⟩:=trodAll_cons hA;obtain⟨rfl,rfl,rfl⟩:=trodAll_nil r0;obtain rfl:args=#[v0]:=by cases args;simp_all
 have⟨hT,hBT,hER,hPT⟩:=xK hL;have hV1:DataW.TrodVars enc prog W (λ_=>true) ["loop.example/s01725/impl.binaries", "loop.example/s01725/impl.stmtRules", "loop.example/s01725/impl.nodeRules", "loop.example/s01725/impl.placeRegs", "loop.example/s01725/impl.binaryOps"] gs q:=hV;have hVlt:=DataW.TrodVars.lt hV1;have k0:=h0;have lt0:∀x∈p0,x.block<W.heap.size:=by obtain⟨m,hm⟩:=k0;exact DataW.trod_lt m _ _ _ hm
 obtain⟨x0,y0,z0,rfl⟩:=okWide_slice underlying22 (hval 0 22 v0 rfl rfl);obtain⟨f0,hf0⟩:=h0;have⟨a0,l0,c0,e9,m0,b0⟩:=Ou (v:=.slice x0 y0 z0) hf0;simp only[Value.slice.injEq]at e9;obtain⟨rfl,rfl,rfl⟩:=e9;obtain⟨e0,e1,e2,e3,e4,rfl⟩:=Di hV1;refine(GX x0 y0 z0 W hT hBT hPT hER m0 b0).mono λe W' ⟨he,bel⟩=>?_
 subst he;refine⟨_,rfl,_,_,_,[],_,_,hW',trodAll_mk1 (shut_bool underlying4 _),trodAll_cons_mk (Below.trod laidOut k_ (of_decide_eq_true k_) k0 bel lt0) trodAll_mk0,qK bel ?_ hV1 hVlt,bel.frame _,λh=>by cases h⟩;intro n hn g t hg ht;have hsz:=hT.size;have hn2:n= "loop.example/s01725/impl.binaries" \/ n= "loop.example/s01725/impl.stmtRules" \/ n= "loop.example/s01725/impl.nodeRules" \/ n= "loop.example/s01725/impl.placeRegs" \/ n= "loop.example/s01725/impl.binaryOps" := by have hn3:n∈["loop.example/s01725/impl.binaries", "loop.example/s01725/impl.stmtRules", "loop.example/s01725/impl.nodeRules", "loop.example/s01725/impl.placeRegs", "loop.example/s01725/impl.binaryOps"]:=hn;simpa using hn3
 rcases hn2 with rfl|rfl|rfl|rfl|rfl;obtain rfl:=Option.some.inj (Ov.symm.trans hg);obtain rfl:=Option.some.inj (Ow.symm.trans ht);exact⟨k_,of_decide_eq_true k_,hBT.2⟩;obtain rfl:=Option.some.inj (JX.symm.trans hg);obtain rfl:=Option.some.inj (JZ.symm.trans ht);exact⟨k_,of_decide_eq_true k_,o_⟩;obtain rfl:=Option.some.inj (JY.symm.trans hg);obtain rfl:=Option.some.inj (J_.symm.trans ht);exact⟨k_,of_decide_eq_true k_,o_⟩;obtain rfl:=Option.some.inj (Ox.symm.trans hg);obtain rfl:=Option.some.inj (Oz.symm.trans ht);exact⟨k_,of_decide_eq_true k_,b_ (hPT.reg 0 d_)⟩;obtain rfl:=Option.some.inj (Oy.symm.trans hg);obtain rfl:=Option.some.inj (OA.symm.trans ht);exact⟨k_,of_decide_eq_true k_,b_ (hPT.bin 0 d_)⟩
def Dk:Rows.FnOpsSaid:=
  OpenClaim.holds_of_wide 3 Tryz.f3 rfl rfl rfl rfl rfl rfl rfl ⟨rfl, rfl, rfl, rfl, rfl⟩ rfl rfl rfl rfl rfl k_ func3 (@yE ⟨⟨λ_ h=>Classical.choice h⟩⟩)
    (of_decide_eq_true k_) (by unfold Func.isWrapper; first|(rw[if_pos (by decide+kernel)]; kernel_rfl)|(rw[if_neg (by decide+kernel)]; exact⟨rfl, rfl⟩))
    (λos started H enc _=>lifted os started H enc)
theorem card_holds:Rows.FnOpsCardSaid:=
  Claim7.holds_tied_plain_at .later [] [.data, .data, .data, .handle, .sentinel, .sentinel, .data, .data, .data, .data, .data] true _ true
    Dk (λ_ h=>by cases h) k_ (λ_ h=>by cases h) fnOps_row_tie rfl ⟨rfl, rfl⟩ k_ rfl
    (λf fn hf hfn=>by
      obtain rfl:f=3:= Option.some.inj ((show prog.funcNamed "loop.example/s01725/laws.FnOps" =some 3 by kernel_rfl).symm.trans hf) |>.symm;obtain rfl:fn=Tryz.f3:= (Option.some.inj (func3.symm.trans hfn)).symm
      exact⟨k_, λj t ht=>by
        rw[params3]at ht;have hm:t∈[22]:= by simpa using Array.mem_of_getElem? ht
        have hall:([22].all λu=> !prog.wantsStandIn u)=true:= by kernel_rfl
        exact(show prog.wantsStandIn t=false by simpa using all_eq_true.1 hall t hm)⟩)
    k_
#print axioms card_holds
