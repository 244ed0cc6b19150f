import Derived.Lib.SmallJoins
import Derived.Test.YtjfmapphpijneaaGreatDoorTie
import Derived.Test.YtjfmapphpijneaaGreatDoorCards
import Derived.LaidMore
import Derived.Test.YtjfmapphpijneaaGreatDoorS97
namespace Go.Proofs.YtjfmapphpijneaaGreatDoor
set_option linter.all false
set_option maxRecDepth 100000
set_option maxHeartbeats 0
open Go.Value Go.World List Go.Proofs.Tryz Go.ChangeShapes Go.WideShapes Go.ChangeAt Go.WideMaps Go.WideElems Go.RowKit Go.Joins Go.Deep
variable{H:Type}{W:AT}{base n:Nat}{held:Bool}
def own:ownKnob prog.godebug=none:=by kernel_rfl
def laidOut:laidOutB prog=true:=by kernel_rfl
def BD{H:Type}:DataW H->BY
 | .lit (.int k n)=>.int k n
 | .lit (.bool b)=>.bool b
 | _=>.nilFunc
def eX{H:Type}:DataW H->List (DataW H)
 | .agg ds=>ds
 | _=>[]
def rP{enc:JZ×BY->H}{Ja:Nat->Bool}{fuel:Nat}{ta U:JZ}{I:Array Field}{cs:List BY}{D:DataW H}{p:List MemPlace} 
  (Jh:prog.underlying ta=some (.array n U)) (Jg:prog.underlying U=some (.struct I)) (Jd:oneCellFields prog I=true) (hC:prog.cellsOf U=I.size)
  (Jc:∀(i:Nat) (f:Field),I[i]? =some f->prog.underlying f.type=some (.int .i64)\/prog.underlying f.type=some .bool) (h:DataW.trod enc prog W base Ja held fuel ta cs=some (D,p)):
  ∀i,i<n->∀k,k<I.size->cs[i*I.size+k]? =some (BD ((eX ((eX D).getD i .nil)).getD k .nil)):=by
 intro i hi k Z;have⟨xs,m,_,hx,hl,Ji,Jf⟩:=DataW.trod_array Jh h;have h1:=Jf i hi;rw[J4 o_,hC]at h1;have⟨ys,m',_,hy,Jk,Jj,hf⟩:=DataW.trod_struct Jg h1;have Jb:I[k]? =some I[k]:=by simp[Z]
 have h2:=hf k _ Jb;have⟨o,c⟩:=hone_of Jd k _ Jb;rw[o,c,J4 o_,take1_drop _ k .nilFunc o_]at h2;have eD:(eX D).getD i .nil=(xs[i]'(by omega)).1:=by
  have:D=.agg (xs.map (·.1)):=congrArg Prod.fst hx
  rw[this];simp only[eX,List.getD,getElem?_map];rw[J4 o_];rfl
 have eY:(eX (xs[i]'(by omega)).1).getD k .nil=(ys[k]'(by omega)).1:=by rw[hy];simp only[eX,List.getD,getElem?_map];rw[J4 o_];rfl
 rw[eD,eY];have eC:cs[i*I.size+k]? =some (((cs.drop (i*I.size)).take I.size).getD k .nilFunc):=by
  have Je:k<((cs.drop (i*I.size)).take I.size).length:=o_;have e1:cs[i*I.size+k]? =((cs.drop (i*I.size)).take I.size)[k]? := by rw[getElem?_take,if_pos Z,getElem?_drop]
  rw[e1];simp only[List.getD];rw[J4 Je];rfl
 rw[eC];rcases Jc k _ Jb with hu|hu
 have⟨z,e,J,_⟩:=DataW.trod_int hu h2;rw[J];simp only[List.cons.injEq,and_true]at e;rw[e];rfl
 have⟨z,e,J⟩:=DataW.trod_bool hu h2;rw[J];simp only[List.cons.injEq,and_true]at e;rw[e];rfl
def Gv:prog.globalNamed "loop.example/s01725/impl.stmtRules" =some 0:=by kernel_rfl
def Gw:prog.globalNamed "loop.example/s01725/impl.nodeRules" =some 1:=by kernel_rfl
def Gx:(prog.globals[0]?).map (·.type)=some 230:=by kernel_rfl
def Gy:(prog.globals[1]?).map (·.type)=some 235:=by kernel_rfl
def yi:(List.range 40).map (λj=>BD ((eX ((eX (Rows.laid_loop_example_s01725_impl_nodeRules (H:=Unit))).getD (j / 4) .nil)).getD (j%4) .nil))=ny:=by rfl
def yl:(List.range 45).map (λj=>BD ((eX ((eX (Rows.laid_loop_example_s01725_impl_stmtRules (H:=Unit))).getD (j / 5) .nil)).getD (j%5) .nil))=it.map Value.bool:=by rfl
theorem wA(h:laidMetH prog Rows.fnSimplifyRow.laid W):gF W:=by
 haveI : Inhabited Pick := ⟨⟨λ_ h => Classical.choice h⟩⟩
 rw[MakeChecks.laidMetH_plain _ _ _ k_]at h;obtain⟨ps,⟨g0,t0,Jd,f0,p0,q0,Jb,Ji,Jf,Jj,⟨g1,t1,Jh,f1,p1,q1,Ja,Jg,Jc,Je,_,_⟩,_⟩,_,_⟩:=h;obtain rfl:=Option.some.inj (Gw.symm.trans Jb);obtain rfl:=Option.some.inj (Gv.symm.trans Ja);obtain rfl:=Option.some.inj (Gy.symm.trans Ji);obtain rfl:=Option.some.inj (Gx.symm.trans Jg);have hn:=rP underlying235 underlying234 k_ k_ (λi f hi=>by
  match i with
  | 0=>exact .inr (by obtain rfl:=Option.some.inj hi;exact underlying4)
  | 1=>exact .inl (by obtain rfl:=Option.some.inj hi;exact underlying2)
  | 2=>exact .inl (by obtain rfl:=Option.some.inj hi;exact underlying2)
  | 3=>exact .inl (by obtain rfl:=Option.some.inj hi;exact underlying2)
  | (n+4)=>simp at hi) Jj
 have hs:=rP underlying230 underlying229 k_ k_ (λi f hi=>by
  match i with
  | 0=>exact .inr (by obtain rfl:=Option.some.inj hi;exact underlying4)
  | 1=>exact .inr (by obtain rfl:=Option.some.inj hi;exact underlying4)
  | 2=>exact .inr (by obtain rfl:=Option.some.inj hi;exact underlying4)
  | 3=>exact .inr (by obtain rfl:=Option.some.inj hi;exact underlying4)
  | 4=>exact .inr (by obtain rfl:=Option.some.inj hi;exact underlying4)
  | (n+5)=>simp at hi) Je
 have U:∀j,j<40->W.cell? ⟨1,j,none⟩=some (ny.getD j .nilFunc):=λj hj=>by
  rw[var?_cell Jb Jf j];have:=hn (j / 4) o_ (j%4) (Nat.mod_lt _ d_);have e:j / 4*4+j%4=j:=o_;have I:Jd.toList[j]? =some (BD ((eX ((eX (Rows.laid_loop_example_s01725_impl_nodeRules (H:=Unit))).getD (j / 4) .nil)).getD (j%4) .nil)):=by rw[<-this];congr 1;exact e.symm
  rw[<-yi];simp only[List.getD,getElem?_map,getElem?_range,hj];simpa using I
 have J:∀j,j<45->W.cell? ⟨0,j,none⟩=some (.bool (it.getD j false)):=λj hj=>by
  rw[var?_cell Ja Jc j];have:=hs (j / 5) o_ (j%5) (Nat.mod_lt _ d_);have e:j / 5*5+j%5=j:=o_;have I:Jh.toList[j]? =some (BD ((eX ((eX (Rows.laid_loop_example_s01725_impl_stmtRules (H:=Unit))).getD (j / 5) .nil)).getD (j%5) .nil)):=by rw[<-this];congr 1;exact e.symm
  have e2:(it.map Value.bool)[j]? =some (BD ((eX ((eX (Rows.laid_loop_example_s01725_impl_stmtRules (H:=Unit))).getD (j / 5) .nil)).getD (j%5) .nil)):=by rw[<-yl];simp[getElem?_map,hj]
  have e3:(it.map Value.bool)[j]? =some (.bool (it.getD j false)):=by have hl:j<it.length:=hj;simp[List.getD,hl]
  rw[e2]at e3;rw[<-e3];simpa using I
 have Z:=b_ (U 0 o_);have l1:=b_ (J 0 o_);simp only at Z l1;exact⟨U,λ_=>J,Z,l1⟩
def Ey(os:Os)(args:Array BY):laidMetH prog Rows.fnSimplifyRow.laid ((doorLaid prog 36 os).forCall (λ_ _=>0) ⟨#[],args,[]⟩).memory:=
 laidMetH_of_parts3 (fuel:=8) (laidMet_of_run' 8 k_ k_) k_ k_
def Gz{enc:JZ×BY->H}{Jd:Nat->Bool}{v:BY}{y:DataW H×List MemPlace}
  (h:DataW.trod enc prog W base Jd held n 22 [v]=some y):
  ∃a len cap,v=.slice a len cap/\len<=9223372036854775807/\B8 W a len:=by
 rcases open_ints underlying22 underlying5 k_ h with⟨Jc,_⟩|⟨x,l,c,I,Jc,_,hl,Z,U,_,Ja,Ji⟩;simp at Jc;subst Jc;exact⟨none,0,0,rfl,o_,λh=>absurd h (Nat.lt_irrefl _)⟩;simp at Jc;subst Jc;unfold maxLen at Z;have Jj:l<=I.length:=by rw[U];split <;> omega
 refine⟨some x,l,c,rfl,o_,λh=>?_⟩;obtain⟨b,Jf,Je⟩:=x;have Jg:=Ja 0 o_;have Jb:Je=none:=by simpa[Addr.add]using cell?_spot Jg
 subst Jb;refine⟨b,Jf,rfl,?_,λj hj=>?_⟩
 have:=b_ Jg
 simpa[Addr.add]using this;have Jh:=Ja j o_;have e:(⟨b,Jf,none⟩:Addr).add j=⟨b,Jf+j,none⟩:=by simp only[Addr.add];split <;> simp_all
 rw[e]at Jh;have J:=bounds_u8 (Ji (I.getD j 0) (by rw[getD_eq_getElem?_getD,J4 o_];exact g_ _));exact⟨I.getD j 0,J.1,J.2,Jh⟩
def Ez(a:Option Addr)(len cap:Nat)(I:Option Addr)(Ja Jb:Nat)(w:AT)(U:(1048576:Int)<len)(J:len<=9223372036854775807):
  Calls prog 3 #[.slice a len cap,.slice I Ja Jb] w λe w'=>e=rW (.bool true)/\Bl w w':=by
 go_in;go_wp2;go_ret;exact⟨rfl,r_⟩
def BE(a:Option Addr)(len cap:Nat)(I:Option Addr)(Ja Jb:Nat)(w:AT)(Z:¬(1048576:Int)<len)(U:(1048576:Int)<Ja)(J:Ja<=9223372036854775807):
  Calls prog 3 #[.slice a len cap,.slice I Ja Jb] w λe w'=>e=rW (.bool true)/\Bl w w':=by
 go_in;go_wp2;go_ret;exact⟨rfl,r_⟩
def BF(a:Option Addr)(len cap:Nat)(I:Option Addr)(Ja Jb:Nat)(w:AT)(U:gF w)(J:len<=9223372036854775807)(Jd:Ja<=9223372036854775807)(Z:B8 w a len)(Jc:B8 w I Ja):
  Calls prog 3 #[.slice a len cap,.slice I Ja Jb] w λe w'=>e=rW (.bool true)/\Bl w w':=by
 by_cases h:len<=1048576;by_cases h2:Ja<=1048576;exact Ex a len cap I Ja Jb w U h h2 Z Jc;exact BE a len cap I Ja Jb w o_ o_ Jd;exact Ez a len cap I Ja Jb w o_ J
theorem qh{H:Type}{enc:JZ×BY->H}{W W':AT}(hb:Bl W W'):∀ {ns:List String} {ds:List (DataW H)} {ps:List MemPlace},(∀n∈ns,∀g t,prog.globalNamed n=some g->(prog.globals[g]?).map (·.type)=some t->prog.readableRec t=true/\t<prog.types.size/\g<W.heap.size) ->
  DataW.TrodVars enc prog W (λ_=>true) ns ds ps->(∀x∈ps,x.block<W.heap.size)->DataW.TrodVars enc prog W' (λb=>decide (b<W.heap.size)) ns ds ps
 | [],[],ps,_,h,_=>h
 | [],_::_,ps,_,h,_=>by simp[DataW.TrodVars]at h
 | _::_,[],ps,_,h,_=>by simp[DataW.TrodVars]at h
 | n::ns,d::ds,ps,hr,h,hlt=>by obtain⟨g,t,cs,fuel,p,q,hg,ht,hv,hd,hrest,rfl⟩:=h;have⟨r1,r2,r3⟩:=hr n i_ g t hg ht;have hT:DataW.Trod enc prog W 0 (λ_=>true) true t (.agg cs) d p:=⟨fuel,by simpa[Value.cells]using hd⟩;have⟨fuel',hd'⟩:=Below.trod laidOut r1 r2 hT hb (λx hx=>hlt x (by simp[hx]));exact⟨g,t,cs,fuel',p,q,hg,ht,var?_below hb hg r3 hv,by simpa[Value.cells]using hd',qh hb (λm hm=>hr m (by simp[hm])) hrest (λx hx=>hlt x (by simp[hx])),rfl⟩
def lifted(os:Os)(started:os.Started)(H:Type)(enc:JZ×BY->H):
  ReturnsInHanded {} Tryz.checked os 3 .any (λw args=>(Rows.fnSimplifySpec.pre enc prog Tryz.f3 [] false w args/\laidMetH prog Rows.fnSimplifyRow.laid w)/\sizedMet enc prog Tryz.f3 (OpenSpec.ofChange Rows.fnSimplifySpec) false w args)
   (Rows.fnSimplifySpec.post enc prog Tryz.f3 false true false false):=by
 refine returnsInHanded_of_change_and (C:=Tryz.checked) (X:=λw _=>laidMetH prog Rows.fnSimplifyRow.laid w) (λ_ _ _ hh h=>h.of_heap hh) own started k_ func3
  (ChangeSpec.witness_shaped (enc:=enc) (C:=Tryz.checked) (os:=os) (X:=λw _=>laidMetH prog Rows.fnSimplifyRow.laid w) false (doorLaid prog 36 os) #[nV,nV] 8 rfl (shaped_of_RefB k_ k_) k_ k_ k_ (Ey os _)) ?_
 intro W base args ds gs before hval0 hW _ _ hL _;have hval:∀(j:Nat) t v,Tryz.f3.params[j]? =some t->args[j]? =some v->okWide prog W .any base t v:=hval0;have hW':=hW;obtain⟨p,q,hA0,hV,rfl,hfz,hnd⟩:=hW;have hA:DataW.TrodAll enc prog W 0 (λ_=>true) true Tryz.f3.params.toList args.toList ds p:=hA0;rw[params3]at hA hval;obtain⟨v0,vs0,d0,ds0,p0,q0,hargs,rfl,rfl,h0,r0⟩:=trodAll_cons hA;obtain⟨v1,vs1,d1,ds1,p1,q1,rfl,rfl,rfl,h1,r1⟩:=trodAll_cons r0;obtain⟨rfl,rfl,rfl⟩:=trodAll_nil r1;obtain rfl:args=#[v0,v1]:=by cases args;simp_all
 have hT:=wA hL;have hV1:DataW.TrodVars enc prog W (λ_=>true) ["loop.example/s01725/impl.stmtRules", "loop.example/s01725/impl.nodeRules"] gs q:=hV;have hVlt:=DataW.TrodVars.lt hV1;have k0:=h0;have k1:=h1;have lt1:∀x∈p1,x.block<W.heap.size:=by obtain⟨m,hm⟩:=k1;exact DataW.trod_lt m _ _ _ hm
 have lt0:∀x∈p0,x.block<W.heap.size:=by obtain⟨m,hm⟩:=k0;exact DataW.trod_lt m _ _ _ hm
 obtain⟨x0,y0,z0,rfl⟩:=okWide_slice underlying22 (hval 0 22 v0 rfl rfl);obtain⟨x1,y1,z1,rfl⟩:=okWide_slice underlying22 (hval 1 22 v1 rfl rfl);obtain⟨f0,hf0⟩:=h0;obtain⟨f1,hf1⟩:=h1;have⟨a0,l0,c0,e9,m0,b0⟩:=Gz (v:=.slice x0 y0 z0) hf0;simp only[Value.slice.injEq]at e9;obtain⟨rfl,rfl,rfl⟩:=e9;have⟨a1,l1,c1,e9,m1,b1⟩:=Gz (v:=.slice x1 y1 z1) hf1;simp only[Value.slice.injEq]at e9;obtain⟨rfl,rfl,rfl⟩:=e9;obtain⟨_,_,_,_,e0,_,_,_,_,_,e1,_,rfl,-⟩:=trodVars_two hV1;refine(BF x0 y0 z0 x1 y1 z1 W hT m0 m1 b0 b1).mono λe W' ⟨he,bel⟩=>?_;subst he;refine⟨_,rfl,_,_,_,[],_,_,hW',trodAll_mk1 (shut_bool underlying4 _),trodAll_cons_mk (Below.trod laidOut k_ (of_decide_eq_true k_) k0 bel lt0) (trodAll_cons_mk (Below.trod laidOut k_ (of_decide_eq_true k_) k1 bel lt1) trodAll_mk0),qh bel ?_ hV1 hVlt,bel.frame _,λh=>by cases h⟩;intro n hn g t hg ht;have hsz:=hT.size;have hn2:n= "loop.example/s01725/impl.stmtRules" \/ n= "loop.example/s01725/impl.nodeRules" := by have hn3:n∈["loop.example/s01725/impl.stmtRules", "loop.example/s01725/impl.nodeRules"]:=hn;simpa using hn3
 rcases hn2 with rfl|rfl;obtain rfl:=Option.some.inj (Gv.symm.trans hg);obtain rfl:=Option.some.inj (Gx.symm.trans ht);exact⟨k_,of_decide_eq_true k_,o_⟩;obtain rfl:=Option.some.inj (Gw.symm.trans hg);obtain rfl:=Option.some.inj (Gy.symm.trans ht);exact⟨k_,of_decide_eq_true k_,o_⟩
def BG:Rows.FnSimplifySaid:=
 OpenClaim.holds_of_wide 3 Tryz.f3 rfl rfl rfl rfl rfl rfl rfl ⟨rfl,rfl,rfl,rfl,rfl⟩ rfl rfl rfl rfl rfl k_ func3 k_
  (of_decide_eq_true k_) (by unfold Func.isWrapper;first|(rw[if_pos (by decide+kernel)];kernel_rfl)|(rw[if_neg (by decide+kernel)];exact⟨rfl,rfl⟩))
  (λos started H enc _=>lifted os started H enc)
theorem card_holds:Rows.FnSimplifyCardSaid:=
 Claim7.holds_tied_plain_at .later [] [.data,.data] true _ true
  BG (λ_ h=>by cases h) k_ (λ_ h=>by cases h) fnSimplify_row_tie rfl ⟨rfl,rfl⟩ k_ rfl
  (λf fn hf hfn=>by obtain rfl:f=3:=Option.some.inj ((show prog.funcNamed "loop.example/s01725/laws.FnSimplify" =some 3 by kernel_rfl).symm.trans hf) |>.symm;obtain rfl:fn=Tryz.f3:=(Option.some.inj (func3.symm.trans hfn)).symm;exact⟨k_,λj t ht=>by rw[params3]at ht;have hm:t∈[22,22]:=(by simpa using Array.mem_of_getElem? ht);have hall:([22,22].all λu=> !prog.wantsStandIn u)=true:=k_;exact(show prog.wantsStandIn t=false by simpa using all_eq_true.1 hall t hm)⟩)
  k_
#print axioms card_holds
