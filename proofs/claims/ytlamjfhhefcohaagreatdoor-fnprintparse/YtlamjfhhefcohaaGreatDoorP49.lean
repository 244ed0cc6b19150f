import Derived.Test.YtlamjfhhefcohaaGreatDoorP48
import Derived.Lib.SmallJoins
import Derived.Test.YtlamjfhhefcohaaGreatDoorTie
import Derived.Test.YtlamjfhhefcohaaGreatDoorCards
import Derived.LaidMore
namespace Go.Proofs.YtlamjfhhefcohaaGreatDoor
open Go.Proofs.Tryz
open Go.ChangeShapes Go.WideShapes Go.ChangeAt Go.WideMaps Go.WideElems Go.RowKit Go.Joins Go.Deep
set_option linter.all false
set_option maxRecDepth 100000
set_option maxHeartbeats 16000000
theorem own:ownKnob prog.godebug=none:=k_
theorem laidOut:laidOutB prog=true:=k_
def oB{H:Type}:DataW H->Value
 | .lit (.int k n)=>.int k n
 | .lit (.bool b)=>.bool b
 | .lit (.string l)=>.string (tx l)
 | _=>.nilFunc
def db{H:Type}:DataW H->List (DataW H)
 | .agg ds=>ds
 | _=>[]
theorem j2{H:Type}{enc:TypeId×Value->H}{W:World}{base:Nat}{Ja:Nat->Bool}{Je:Bool}{fuel n:Nat}{ta ts:TypeId}{fs:Array Field}{cs:List Value}{D:DataW H}{p:List MemPlace}
  (Ji:prog.underlying ta=some (.array n ts)) (Jh:prog.underlying ts=some (.struct fs)) (Jd:oneCellFields prog fs=true) (hC:prog.cellsOf ts=fs.size)
  (Jc:∀(i:Nat) (f:Field),fs[i]? =some f->prog.underlying f.type=some (.int .i64)∨prog.underlying f.type=some .bool∨prog.underlying f.type=some .string) (h:DataW.trod enc prog W base Ja Je fuel ta cs=some (D,p)):
  ∀i,i<n->∀k,k<fs.size->cs[i*fs.size+k]? =some (oB ((db ((db D).getD i .nil)).getD k .nil)):=by
 intro i hi k hk;obtain⟨xs,m,_,hx,hl,Jl,Jg⟩:=DataW.trod_array Ji h;have h1:=Jg i hi;rw[List.getElem?_eq_getElem o_,hC]at h1;obtain⟨ys,m',_,hy,Jj,Jk,hf⟩:=DataW.trod_struct Jh h1;have Jb:fs[k]? =some fs[k]:=by simp[hk]
 have h2:=hf k _ Jb;obtain⟨o,c⟩:=hone_of Jd k _ Jb;rw[o,c,List.getElem?_eq_getElem o_,take1_drop _ k .nilFunc o_]at h2;have eD:(db D).getD i .nil=(xs[i]'o_).1:=by
  have:D=.agg (xs.map (·.1)):=congrArg Prod.fst hx
  rw[this];simp only[db,List.getD,List.getElem?_map];rw[List.getElem?_eq_getElem o_]
  rfl
 have eY:(db (xs[i]'o_).1).getD k .nil=(ys[k]'o_).1:=by
  rw[hy];simp only[db,List.getD,List.getElem?_map];rw[List.getElem?_eq_getElem o_]
  rfl
 rw[eD,eY]
 have eC:cs[i*fs.size+k]? =some (((cs.drop (i*fs.size)).take fs.size).getD k .nilFunc):=by
  have Jf:k<((cs.drop (i*fs.size)).take fs.size).length:=o_;have e1:cs[i*fs.size+k]? =((cs.drop (i*fs.size)).take fs.size)[k]? := by
   rw[List.getElem?_take,if_pos hk,List.getElem?_drop]
  rw[e1];simp only[List.getD];rw[List.getElem?_eq_getElem Jf]
  rfl
 rw[eC];rcases Jc k _ Jb with hu|hu|hu
 ·obtain⟨z,e,ez,_⟩:=DataW.trod_int hu h2
  rw[ez];simp only[List.cons.injEq,and_true]at e;rw[e];rfl
 ·obtain⟨z,e,ez⟩:=DataW.trod_bool hu h2
  rw[ez];simp only[List.cons.injEq,and_true]at e;rw[e];rfl
 ·obtain⟨z,e,ez,_⟩:=DataW.trod_string hu h2
  rw[ez];simp only[List.cons.injEq,and_true]at e;rw[e];simp only[oB,dw]
theorem El{H:Type}{enc:TypeId×Value->H}{W:World}{base:Nat}{Jd:Nat->Bool}{Jg:Bool}{n:Nat}{v:Value}{y:DataW H×List MemPlace}
  (h:DataW.trod enc prog W base Jd Jg n 22 [v]=some y):
  ∃a len cap,v=.slice a len cap/\len<=9223372036854775807/\B8 W a len:=by
 rcases open_ints underlying22 underlying5 k_ h with⟨Jc,_⟩|⟨x,l,c,zs,Jc,_,hl,hm,hz,_,Ja,Jj⟩
 ·simp at Jc
  subst Jc;exact⟨none,0,0,rfl,o_,λh=>absurd h (Nat.lt_irrefl _)⟩
 ·simp at Jc
  subst Jc;unfold maxLen at hm;have Jk:l<=zs.length:=by rw[hz];split <;> omega
  refine⟨some x,l,c,rfl,o_,λh=>?_⟩;obtain⟨b,Je,Jf⟩:=x;have Jh:=Ja 0 o_;have Jb:Jf=none:=by simpa[Addr.add]using World.cell?_spot Jh
  subst Jb;refine⟨b,Je,rfl,?_,λj hj=>?_⟩
  ·have:=b_ Jh
   simpa[Addr.add]using this
  ·have Ji:=Ja j o_
   have e:(⟨b,Je,none⟩:Addr).add j=⟨b,Je+j,none⟩:=by simp only[Addr.add];split <;> simp_all
   rw[e]at Ji;have hr:=bounds_u8 (Jj (zs.getD j 0) (by rw[List.getD_eq_getElem?_getD,List.getElem?_eq_getElem o_];exact g_ _));exact⟨zs.getD j 0,hr.1,hr.2,Ji⟩
theorem Bb:prog.globalNamed "loop.example/s01725/impl.stmtRules" =some 0:=k_
theorem Bc:prog.globalNamed "loop.example/s01725/impl.nodeRules" =some 2:=k_
theorem Bd:(prog.globals[0]?).map (·.type)=some 139:=k_
theorem Be:(prog.globals[2]?).map (·.type)=some 192:=k_
theorem Em:prog.globalNamed "loop.example/s01725/impl.binaries" =some 7:=k_
theorem En:(prog.globals[7]?).map (·.type)=some 218:=k_
theorem uT:(List.range 72).map (λj=>oB ((db ((db (Rows.laid_loop_example_s01725_impl_binaries (H:=Unit))).getD (j / 4) .nil)).getD (j%4) .nil))=fk:=by rfl
theorem rB{H:Type}{enc:TypeId×Value->H}{W:World}{sp:Nat->Bool}{a b c:String}:∀ {ds:List (DataW H)} {ps:List MemPlace},DataW.TrodVars enc prog W sp [a,b,c] ds ps->∃x y z,ds=[x,y,z]
 | [x,y,z],_,_=>⟨x,y,z,rfl⟩
 | [],_,h=>by simp[DataW.TrodVars]at h
 | [_],_,h=>by simp[DataW.TrodVars]at h
 | [_,_],_,h=>by simp[DataW.TrodVars]at h
 | _::_::_::_::_,_,h=>by simp[DataW.TrodVars]at h
theorem rC:(List.range 40).map (λj=>oB ((db ((db (Rows.laid_loop_example_s01725_impl_nodeRules (H:=Unit))).getD (j / 4) .nil)).getD (j%4) .nil))=kA:=by rfl
theorem rD:(List.range 45).map (λj=>oB ((db ((db (Rows.laid_loop_example_s01725_impl_stmtRules (H:=Unit))).getD (j / 5) .nil)).getD (j%5) .nil))=fR.map Value.bool:=by rfl
theorem Fv:prog.globalNamed "internal/strconv.uint64pow10" =some 1:=k_
theorem Fw:(prog.globals[1]?).map (·.type)=some 183:=k_
theorem Di:(Rows.laid_internal_strconv_uint64pow10:DataW Unit)=Lib.tabData .u64 Lib.pow10Tab:=by rfl
theorem Dj(a:Option Addr)(len cap:Nat)(w:World)(hl:(1048576:Int)<len)(hm:len<=9223372036854775807):Calls prog 5 #[.slice a len cap] w λe w'=>e=.returned (.bool true)/\Below w.heap.size w w':=by
 go_enter func5,ntmps5;go_wp2;go_ret;exact⟨rfl,r_⟩
theorem yL:fC=fk:=rfl
theorem FZq:prog.globalNamed "strconv.ErrRange" =some 4:=k_
theorem FU:(prog.globals[4]?).map (·.type)=some 152:=k_
theorem yM{H:Type}{enc:TypeId×Value->H}{P:Program}{W:World}{base:Nat}{Ja:Nat->Bool}{Jb:Bool}{fuel:Nat}{t:TypeId}{cs:List Value}{x:DataW H×List MemPlace}{ms}(ht:P.underlying t=some (.interface ms))(h:DataW.trod enc P W base Ja Jb fuel t cs=some x):cs=[.nilIface]∨∃u v,cs=[.iface u v]:=by
 cases fuel with
 | zero=>simp[DataW.trod]at h
 | succ n=>
  unfold DataW.trod at h;rw[ht]at h
  split at h <;> simp_all
theorem p_{W:World}(h:laidMetH prog Rows.fnPrintParseRow.laid W):dz W/\(W.rangeAt 7 0 fk/\7<W.heap.size)/\yP W/\jI W:=by
 rw[MakeChecks.laidMetH_plain _ _ _ k_]at h;obtain⟨ps,⟨g0,t0,cs0,f0,p0,q0,hg0,ht0,hv0,hd0,⟨g1,t1,cs1,f1,p1,q1,hg1,ht1,hv1,hd1,⟨g2,t2,cs2,f2,p2,q2,hg2,ht2,hv2,hd2,⟨g3,t3,cs3,f3,p3,q3,hg3,ht3,hv3,hd3,⟨g4,t4,cs4,f4,p4,q4,hg4,ht4,hv4,hd4,⟨g5,t5,cs5,f5,p5,q5,hg5,ht5,hv5,hd5,⟨g6,t6,cs6,f6,p6,q6,hg6,ht6,hv6,hd6,⟨g7,t7,cs7,f7,p7,q7,hg7,ht7,hv7,hd7,_,_⟩,_⟩,_⟩,_⟩,_⟩,_⟩,_⟩,_⟩,_,_⟩:=h;obtain rfl:=Option.some.inj (Bc.symm.trans hg5);obtain rfl:=Option.some.inj (Bb.symm.trans hg6);obtain rfl:=Option.some.inj (FZq.symm.trans hg3);obtain rfl:=Option.some.inj (FU.symm.trans ht3);obtain rfl:=Option.some.inj (Em.symm.trans hg7);obtain rfl:=Option.some.inj (Fv.symm.trans hg2);obtain rfl:=Option.some.inj (Fw.symm.trans ht2);obtain rfl:=Option.some.inj (Be.symm.trans ht5);obtain rfl:=Option.some.inj (Bd.symm.trans ht6);obtain rfl:=Option.some.inj (En.symm.trans ht7);have hn:=j2 underlying192 underlying191 k_ k_ (λi f hi=>by
  match i with
  | 0=>exact .inr (.inl (by obtain rfl:=Option.some.inj hi;exact underlying4))
  | 1=>exact .inl (by obtain rfl:=Option.some.inj hi;exact underlying2)
  | 2=>exact .inl (by obtain rfl:=Option.some.inj hi;exact underlying2)
  | 3=>exact .inl (by obtain rfl:=Option.some.inj hi;exact underlying2)
  | (n+4)=>simp at hi) hd5
 have hs:=j2 underlying139 underlying138 k_ k_ (λi f hi=>by
  match i with
  | 0=>exact .inr (.inl (by obtain rfl:=Option.some.inj hi;exact underlying4))
  | 1=>exact .inr (.inl (by obtain rfl:=Option.some.inj hi;exact underlying4))
  | 2=>exact .inr (.inl (by obtain rfl:=Option.some.inj hi;exact underlying4))
  | 3=>exact .inr (.inl (by obtain rfl:=Option.some.inj hi;exact underlying4))
  | 4=>exact .inr (.inl (by obtain rfl:=Option.some.inj hi;exact underlying4))
  | (n+5)=>simp at hi) hd6
 have cN:∀j,j<40->W.cell? ⟨2,j,none⟩=some (kA.getD j .nilFunc):=λj hj=>by
  rw[World.var?_cell hg5 hv5 j]
  have:=hn (j / 4) o_ (j%4) (Nat.mod_lt _ d_)
  have e:j / 4*4+j%4=j:=o_;have e':cs5.toList[j]? =some (oB ((db ((db (Rows.laid_loop_example_s01725_impl_nodeRules (H:=Unit))).getD (j / 4) .nil)).getD (j%4) .nil)):=by
   rw[<-this];congr 1;exact e.symm
  rw[<-rC];simp only[List.getD,List.getElem?_map,List.getElem?_range,hj];simpa using e'
 have cS:∀j,j<45->W.cell? ⟨0,j,none⟩=some (.bool (fR.getD j false)):=λj hj=>by
  rw[World.var?_cell hg6 hv6 j]
  have:=hs (j / 5) o_ (j%5) (Nat.mod_lt _ d_)
  have e:j / 5*5+j%5=j:=o_;have e':cs6.toList[j]? =some (oB ((db ((db (Rows.laid_loop_example_s01725_impl_stmtRules (H:=Unit))).getD (j / 5) .nil)).getD (j%5) .nil)):=by
   rw[<-this];congr 1;exact e.symm
  have e2:(fR.map Value.bool)[j]? =some (oB ((db ((db (Rows.laid_loop_example_s01725_impl_stmtRules (H:=Unit))).getD (j / 5) .nil)).getD (j%5) .nil)):=by
   rw[<-rD];simp[List.getElem?_map,hj]
  have e3:(fR.map Value.bool)[j]? =some (.bool (fR.getD j false)):=by
   have hl:j<fR.length:=hj;simp[List.getD,hl]
  rw[e2]at e3;rw[<-e3];simpa using e'
 have hb:=j2 underlying218 underlying206 k_ k_ (λi f hi=>by
  match i with
  | 0=>exact .inr (.inr (by obtain rfl:=Option.some.inj hi;exact underlying9))
  | 1=>exact .inl (by obtain rfl:=Option.some.inj hi;exact underlying2)
  | 2=>exact .inl (by obtain rfl:=Option.some.inj hi;exact underlying2)
  | 3=>exact .inl (by obtain rfl:=Option.some.inj hi;exact underlying2)
  | (n+4)=>simp at hi) hd7
 have cB:∀j,j<72->W.cell? ⟨7,j,none⟩=some (fk.getD j .nilFunc):=λj hj=>by
  rw[World.var?_cell hg7 hv7 j]
  have:=hb (j / 4) o_ (j%4) (Nat.mod_lt _ d_)
  have e:j / 4*4+j%4=j:=o_;have e':cs7.toList[j]? =some (oB ((db ((db (Rows.laid_loop_example_s01725_impl_binaries (H:=Unit))).getD (j / 4) .nil)).getD (j%4) .nil)):=by
   rw[<-this];congr 1;exact e.symm
  rw[<-uT];simp only[List.getD,List.getElem?_map,List.getElem?_range,hj];simpa using e'
 have hE:yP W:=by
  have hc:=World.var?_cell hg3 hv3 0;rcases yM underlying152 hd3 with e|⟨u,v,e⟩
  ·have e2:cs3[0]? =some .nilIface:=by rw[<-Array.getElem?_toList,e];rfl
   exact⟨_,hc.trans e2,.inl rfl⟩
  ·have e2:cs3[0]? =some (.iface u v):=by rw[<-Array.getElem?_toList,e];rfl
   exact⟨_,hc.trans e2,.inr ⟨_,_,rfl⟩⟩
 have hP:jI W:=by
  rw[Di]at hd2;have hc:=Lib.cells_of_tab underlying183 underlying164 k_ k_ (zs:=Lib.pow10Tab) (k:=.u64) hd2;show W.var? prog "internal/strconv.uint64pow10" =_;rw[hv2]
  congr 1
  apply Array.ext';simpa using hc
 have l0:=b_ (cN 0 o_);have l1:=b_ (cS 0 o_);have l2:=b_ (cB 0 o_);simp only at l0 l1 l2;refine⟨⟨cN,λ_=>cS,l0,l1⟩,⟨λj v hv=>?_,l2⟩,hE,hP⟩;obtain⟨hlt,rfl⟩:=List.getElem?_eq_some_iff.1 hv;rw[Nat.zero_add,cB j (by rw[show fk.length=72 from rfl]at hlt;exact hlt)];simp[List.getD,List.getElem?_eq_getElem hlt]
theorem yN(os:Os)(args:Array Value):laidMetH prog Rows.fnPrintParseRow.laid ((World.doorLaid prog 112 os).forCall (λ_ _=>0) ⟨#[],args,[]⟩).memory:=
 laidMetH_of_parts3 (fuel:=8) (laidMet_of_run' 8 k_ k_) k_ k_
theorem lT{H:Type}{enc:TypeId×Value->H}{W W':World}(hb:Below W.heap.size W W'):∀ {ns:List String} {ds:List (DataW H)} {ps:List MemPlace},(∀n∈ns,∀g t,prog.globalNamed n=some g->(prog.globals[g]?).map (·.type)=some t->prog.readableRec t=true/\t<prog.types.size/\g<W.heap.size) ->
  DataW.TrodVars enc prog W (λ_=>true) ns ds ps->(∀x∈ps,x.block<W.heap.size)->DataW.TrodVars enc prog W' (λb=>decide (b<W.heap.size)) ns ds ps
 | [],[],ps,_,h,_=>h
 | [],_::_,ps,_,h,_=>by simp[DataW.TrodVars]at h
 | _::_,[],ps,_,h,_=>by simp[DataW.TrodVars]at h
 | n::ns,d::ds,ps,hr,h,hlt=>by
  obtain⟨g,t,cs,fuel,p,q,hg,ht,hv,hd,hrest,rfl⟩:=h;obtain⟨r1,r2,r3⟩:=hr n i_ g t hg ht;have hT:DataW.Trod enc prog W 0 (λ_=>true) true t (.agg cs) d p:=⟨fuel,by simpa[Value.cells]using hd⟩;obtain⟨fuel',hd'⟩:=Below.trod laidOut r1 r2 hT hb (λx hx=>hlt x (by simp[hx]));exact⟨g,t,cs,fuel',p,q,hg,ht,var?_below hb hg r3 hv,by simpa[Value.cells]using hd',lT hb (λm hm=>hr m (by simp[hm])) hrest (λx hx=>hlt x (by simp[hx])),rfl⟩
theorem AD(a:Option Addr)(len cap:Nat)(w:World)(hT:dz w)(hB:w.rangeAt 7 0 fk/\7<w.heap.size)(hP:jI w)(hE:yP w)(hm:len<=9223372036854775807)(hb:B8 w a len):
  Calls prog 5 #[.slice a len cap] w λe w'=>e=.returned (.bool true)/\Below w.heap.size w w':=by
 by_cases h:len<=1048576
 ·exact Dh a len cap w h hb hT ⟨hB.2,by rw[yL];exact hB.1⟩ hP hB.1 hE hB.2
 ·exact Dj a len cap w o_ hm
theorem lifted(os:Os)(started:os.Started)(H:Type)(enc:TypeId×Value->H):
  ReturnsInHanded {} Tryz.checked os 5 .any (λw args=>(Rows.fnPrintParseSpec.pre enc prog Tryz.f5 [] false w args/\laidMetH prog Rows.fnPrintParseRow.laid w)/\sizedMet enc prog Tryz.f5 (OpenSpec.ofChange Rows.fnPrintParseSpec) false w args)
   (Rows.fnPrintParseSpec.post enc prog Tryz.f5 false true false false):=by
 refine returnsInHanded_of_change_and (C:=Tryz.checked) (X:=λw _=>laidMetH prog Rows.fnPrintParseRow.laid w) (λ_ _ _ hh h=>h.of_heap hh) own started k_ func5
  (ChangeSpec.witness_shaped (enc:=enc) (C:=Tryz.checked) (os:=os) (X:=λw _=>laidMetH prog Rows.fnPrintParseRow.laid w) false (World.doorLaid prog 112 os) #[.slice none 0 0] 8 rfl (World.shaped_of_RefB k_ k_) k_ k_ k_ (yN os _)) ?_
 intro W base args ds gs before hval0 hW _ _ hL _;have hval:∀(j:Nat) t v,Tryz.f5.params[j]? =some t->args[j]? =some v->Value.okWide prog W .any base t v:=hval0;have hW':=hW;obtain⟨p,q,hA0,hV,rfl,hfz,hnd⟩:=hW;have hA:DataW.TrodAll enc prog W 0 (λ_=>true) true Tryz.f5.params.toList args.toList ds p:=hA0;rw[params5]at hA hval;obtain⟨v0,vs0,d0,ds0,p0,q0,hargs,rfl,rfl,h0,r0⟩:=trodAll_cons hA;obtain⟨rfl,rfl,rfl⟩:=trodAll_nil r0;obtain rfl:args=#[v0]:=by cases args;simp_all
 obtain⟨hT,hBT,hER,hPT⟩:=p_ hL;have hV1:DataW.TrodVars enc prog W (λ_=>true) ["loop.example/s01725/impl.stmtRules", "loop.example/s01725/impl.nodeRules", "loop.example/s01725/impl.binaries"] gs q:=hV;have hVlt:=DataW.TrodVars.lt hV1;have k0:=h0;have lt0:∀x∈p0,x.block<W.heap.size:=by obtain⟨m,hm⟩:=k0;exact DataW.trod_lt m _ _ _ hm
 obtain⟨x0,y0,z0,rfl⟩:=okWide_slice underlying22 (hval 0 22 v0 rfl rfl);obtain⟨f0,hf0⟩:=h0;obtain⟨a0,l0,c0,e9,m0,b0⟩:=El (v:=.slice x0 y0 z0) hf0;simp only[Value.slice.injEq]at e9;obtain⟨rfl,rfl,rfl⟩:=e9;obtain⟨e0,e1,e2,rfl⟩:=rB hV1;clear hA0 hval0;refine(AD x0 y0 z0 W hT hBT hPT hER m0 b0).mono λe W' ⟨he,bel⟩=>?_
 subst he;refine⟨_,rfl,_,_,_,[],_,_,hW',trodAll_mk1 (shut_bool underlying4 _),trodAll_cons_mk (Below.trod laidOut k_ (of_decide_eq_true k_) k0 bel lt0) trodAll_mk0,lT bel ?_ hV1 hVlt,bel.frame _,λh=>by cases h⟩;intro n hn g t hg ht;have hsz:=hT.size;have hn2:n= "loop.example/s01725/impl.stmtRules" ∨ n= "loop.example/s01725/impl.nodeRules" ∨ n= "loop.example/s01725/impl.binaries" := by
  have hn3:n∈["loop.example/s01725/impl.stmtRules", "loop.example/s01725/impl.nodeRules", "loop.example/s01725/impl.binaries"]:=hn;simpa using hn3
 rcases hn2 with rfl|rfl|rfl
 ·obtain rfl:=Option.some.inj (Bb.symm.trans hg)
  obtain rfl:=Option.some.inj (Bd.symm.trans ht);exact⟨k_,of_decide_eq_true k_,o_⟩
 ·obtain rfl:=Option.some.inj (Bc.symm.trans hg)
  obtain rfl:=Option.some.inj (Be.symm.trans ht);exact⟨k_,of_decide_eq_true k_,o_⟩
 ·obtain rfl:=Option.some.inj (Em.symm.trans hg)
  obtain rfl:=Option.some.inj (En.symm.trans ht);exact⟨k_,of_decide_eq_true k_,hBT.2⟩
theorem uU:Rows.FnPrintParseSaid:=
 OpenClaim.holds_of_wide 5 Tryz.f5 rfl rfl rfl rfl rfl rfl rfl ⟨rfl,rfl,rfl,rfl,rfl⟩ rfl rfl rfl rfl rfl k_ func5 k_
  (of_decide_eq_true k_) (by unfold Func.isWrapper;first|(rw[if_pos (by decide+kernel)];kernel_rfl)|(rw[if_neg (by decide+kernel)];exact⟨rfl,rfl⟩))
  (λos started H enc _=>lifted os started H enc)
theorem card_holds:Rows.FnPrintParseCardSaid:=
 Claim7.holds_tied_plain_at .later [] [.data,.data,.data,.sentinel,.sentinel,.data,.data,.data] true _ true
  uU (λ_ h=>by cases h) k_ (λ_ h=>by cases h) fnPrintParse_row_tie rfl ⟨rfl,rfl⟩ k_ rfl
  (λf fn hf hfn=>by
   obtain rfl:f=5:=Option.some.inj ((show prog.funcNamed "loop.example/s01725/laws.FnPrintParse" =some 5 by kernel_rfl).symm.trans hf) |>.symm;obtain rfl:fn=Tryz.f5:=(Option.some.inj (func5.symm.trans hfn)).symm;exact⟨k_,λj t ht=>by
    rw[params5]at ht;have hm:t∈[22]:=by simpa using Array.mem_of_getElem? ht
    have hall:([22].all λu=> !prog.wantsStandIn u)=true:=k_;exact(show prog.wantsStandIn t=false by simpa using List.all_eq_true.1 hall t hm)⟩)
  k_
#print axioms card_holds
end Go.Proofs.YtlamjfhhefcohaaGreatDoor
