import Derived.Test.YtffnkkpmlplfeaaGreatDoorF56
import Derived.Lib.SmallJoins
import Derived.Test.YtffnkkpmlplfeaaGreatDoorTie
import Derived.Test.YtffnkkpmlplfeaaGreatDoorCards
import Derived.LaidMore
namespace Go.Proofs.YtffnkkpmlplfeaaGreatDoor
open Go.Value Go.World List
open Go.Proofs.Tryz Go.ChangeShapes Go.WideShapes Go.ChangeAt Go.WideMaps Go.WideElems Go.RowKit Go.Joins Go.Deep
set_option linter.all false
set_option maxRecDepth 100000
set_option maxHeartbeats 0
variable{H:Type}{W:AT}{base n:Nat}{held:Bool}
def own:ownKnob prog.godebug=none:=by kernel_rfl
def z_:laidOutB prog=true:=by kernel_rfl
def xq{H:Type}:DataW H->BY
 | .lit (.int k n)=>.int k n
 | .lit (.bool b)=>.bool b
 | _=>.nilFunc
def dT{H:Type}:DataW H->List (DataW H)
 | .agg ds=>ds
 | _=>[]
def oG{enc:GC×BY->H}{Ja:Nat->Bool}{fuel:Nat}{ta Y:GC}{I:Array Field}{cs:List BY}{D:DataW H}{p:List MemPlace} 
  (Jh:prog.underlying ta=some (.array n Y)) (Jg:prog.underlying Y=some (.struct I)) (Jd:oneCellFields prog I=true) (hC:prog.cellsOf Y=I.size)
  (Jc:∀(i:Nat) (f:Field),I[i]? =some f->prog.underlying f.type=some (.int .i64)∨prog.underlying f.type=some .bool) (h:DataW.trod enc prog W base Ja held fuel ta cs=some (D,p)):
  ∀i,i<n->∀k,k<I.size->cs[i*I.size+k]? =some (xq ((dT ((dT D).getD i .nil)).getD k .nil)):=by
 intro i hi k Z;obtain⟨xs,m,_,hx,hl,Ji,Jf⟩:=DataW.trod_array Jh h;have h1:=Jf i hi;rw[GH o_,hC]at h1;obtain⟨ys,m',_,hy,Jk,Jj,hf⟩:=DataW.trod_struct Jg h1;have U:I[k]? =some I[k]:=by simp[Z]
 have h2:=hf k _ U;obtain⟨o,c⟩:=hone_of Jd k _ U;rw[o,c,GH o_,take1_drop _ k .nilFunc o_]at h2;have eD:(dT D).getD i .nil=(xs[i]'(by omega)).1:=by
  have:D=.agg (xs.map (·.1)):=congrArg Prod.fst hx
  rw[this];simp only[dT,List.getD,getElem?_map];rw[GH o_];rfl
 have eY:(dT (xs[i]'(by omega)).1).getD k .nil=(ys[k]'(by omega)).1:=by
  rw[hy];simp only[dT,List.getD,getElem?_map];rw[GH o_];rfl
 rw[eD,eY];have eC:cs[i*I.size+k]? =some (((cs.drop (i*I.size)).take I.size).getD k .nilFunc):=by
  have Je:k<((cs.drop (i*I.size)).take I.size).length:=o_;have e1:cs[i*I.size+k]? =((cs.drop (i*I.size)).take I.size)[k]? := by
   rw[getElem?_take,if_pos Z,getElem?_drop]
  rw[e1];simp only[List.getD];rw[GH Je];rfl
 rw[eC];rcases Jc k _ U with hu|hu
 ·obtain⟨z,e,J,_⟩:=DataW.trod_int hu h2;rw[J];simp only[List.cons.injEq,and_true]at e;rw[e];rfl
 ·obtain⟨z,e,J⟩:=DataW.trod_bool hu h2;rw[J];simp only[List.cons.injEq,and_true]at e;rw[e];rfl
def CA:prog.globalNamed "loop.example/s01725/impl.stmtRules" =some 0:=by kernel_rfl
def CB:prog.globalNamed "loop.example/s01725/impl.nodeRules" =some 1:=by kernel_rfl
def CC:(prog.globals[0]?).map (·.type)=some 299:=by kernel_rfl
def CD:(prog.globals[1]?).map (·.type)=some 304:=by kernel_rfl
def tz:(List.range 40).map (λj=>xq ((dT ((dT (Rows.laid_loop_example_s01725_impl_nodeRules (H:=Unit))).getD (j / 4) .nil)).getD (j%4) .nil))=kT:=by rfl
def tD:(List.range 45).map (λj=>xq ((dT ((dT (Rows.laid_loop_example_s01725_impl_stmtRules (H:=Unit))).getD (j / 5) .nil)).getD (j%5) .nil))=fZ.map Value.bool:=by rfl
theorem rF(h:laidMetH prog Rows.fnFuelRow.laid W):dq W:=by
 rw[MakeChecks.laidMetH_plain _ _ _ k_]at h;obtain⟨ps,⟨g0,t0,Jd,f0,p0,q0,Z,Ji,Jf,Jj,⟨g1,t1,Jh,f1,p1,q1,Ja,Jg,Jc,Je,_,_⟩,_⟩,_,_⟩:=h;obtain rfl:=Option.some.inj (CB.symm.trans Z);obtain rfl:=Option.some.inj (CA.symm.trans Ja);obtain rfl:=Option.some.inj (CD.symm.trans Ji);obtain rfl:=Option.some.inj (CC.symm.trans Jg);have hn:=oG underlying304 underlying303 k_ k_ (λi f hi=>by
  match i with
  | 0=>exact .inr (by obtain rfl:=Option.some.inj hi;exact underlying4)
  | 1|2|3=>exact .inl (by obtain rfl:=Option.some.inj hi;exact underlying2)
  | (n+4)=>simp at hi) Jj
 have hs:=oG underlying299 underlying298 k_ k_ (λi f hi=>by
  match i with
  | 0|1|2|3|4=>exact .inr (by obtain rfl:=Option.some.inj hi;exact underlying4)
  | (n+5)=>simp at hi) Je
 have U:∀j,j<40->W.cell? ⟨1,j,none⟩=some (kT.getD j .nilFunc):=λj hj=>by
  rw[World.var?_cell Z Jf j];have:=hn (j / 4) o_ (j%4) (Nat.mod_lt _ d_);have e:j / 4*4+j%4=j:=o_;have I:Jd.toList[j]? =some (xq ((dT ((dT (Rows.laid_loop_example_s01725_impl_nodeRules (H:=Unit))).getD (j / 4) .nil)).getD (j%4) .nil)):=by
   rw[<-this];congr 1;exact e.symm
  rw[<-tz];simp only[List.getD,List.getElem?_map,List.getElem?_range,hj];simpa using I
 have J:∀j,j<45->W.cell? ⟨0,j,none⟩=some (.bool (fZ.getD j false)):=λj hj=>by
  rw[World.var?_cell Ja Jc j];have:=hs (j / 5) o_ (j%5) (Nat.mod_lt _ d_);have e:j / 5*5+j%5=j:=o_;have I:Jh.toList[j]? =some (xq ((dT ((dT (Rows.laid_loop_example_s01725_impl_stmtRules (H:=Unit))).getD (j / 5) .nil)).getD (j%5) .nil)):=by
   rw[<-this];congr 1;exact e.symm
  have e2:(fZ.map Value.bool)[j]? =some (xq ((dT ((dT (Rows.laid_loop_example_s01725_impl_stmtRules (H:=Unit))).getD (j / 5) .nil)).getD (j%5) .nil)):=by
   rw[<-tD];simp[List.getElem?_map,hj]
  have e3:(fZ.map Value.bool)[j]? =some (.bool (fZ.getD j false)):=by
   have hl:j<fZ.length:=hj;simp[List.getD,hl]
  rw[e2]at e3;rw[<-e3];simpa using I
 have Y:=b_ (U 0 o_);have l1:=b_ (J 0 o_);simp only at Y l1;exact⟨U,λ_=>J,Y,l1⟩
def AW(os:Os)(args:Array BY):laidMetH prog Rows.fnFuelRow.laid ((doorLaid prog 36 os).forCall (λ_ _=>0) ⟨#[],args,[]⟩).memory:=
 laidMetH_of_parts3 (fuel:=8) (laidMet_of_run' 8 k_ k_) k_ k_
def CE{enc:GC×BY->H}{Jd:Nat->Bool}{v:BY}{y:DataW H×List MemPlace}
  (h:DataW.trod enc prog W base Jd held n 44 [v]=some y):
  ∃a len cap,v=.slice a len cap/\len<=9223372036854775807/\B8 W a len:=by
 rcases open_ints underlying44 underlying5 k_ h with⟨I,_⟩|⟨x,l,c,zs,I,_,hl,hm,hz,_,Ja,Ji⟩
 ·simp at I;subst I;exact⟨none,0,0,rfl,o_,λh=>absurd h (Nat.lt_irrefl _)⟩
 ·simp at I;subst I;unfold maxLen at hm;have Jj:l<=zs.length:=by rw[hz];split <;> omega
  refine⟨some x,l,c,rfl,o_,λh=>?_⟩;obtain⟨b,J,Je⟩:=x;have U:=Ja 0 o_;have Jb:Je=none:=by simpa[Addr.add]using cell?_spot U
  subst Jb;refine⟨b,J,rfl,?_,λj hj=>?_⟩
  ·have:=b_ U
   simpa[Addr.add]using this
  ·have Z:=Ja j o_;have e:(⟨b,J,none⟩:Addr).add j=⟨b,J+j,none⟩:=by simp only[Addr.add];split <;> simp_all
   rw[e]at Z;have Y:=bounds_u8 (Ji (zs.getD j 0) (by rw[getD_eq_getElem?_getD,GH o_];exact g_ _));exact⟨zs.getD j 0,Y.1,Y.2,Z⟩
def AX(a:Option Addr)(len cap:Nat)(h:Option Addr)(I J:Nat)(w:AT)(Y:(1048576:Int)<len/\len<=9223372036854775807∨ ¬(1048576:Int)<len/\(1048576:Int)<I/\I<=9223372036854775807):
  Calls prog 4 #[.slice a len cap,.slice h I J] w λe w'=>e=rW (.bool true)/\Bl w w':=by
 rcases Y with⟨U,Y⟩|⟨U,Y,Z⟩ <;> (go_in;go_wp2;go_ret;exact⟨rfl,r_⟩)
def xw(a:Option Addr)(len cap:Nat)(J:Option Addr)(I U:Nat)(w:AT)(Z:dq w)(Y:len<=9223372036854775807)(Jd:I<=9223372036854775807)(hb:B8 w a len)(Jc:B8 w J I):
  Calls prog 4 #[.slice a len cap,.slice J I U] w λe w'=>e=rW (.bool true)/\Bl w w':=by
 by_cases h:len<=1048576
 ·by_cases h2:I<=1048576
  ·exact AV a len cap J I U w Z h h2 hb Jc
  ·exact AX a len cap J I U w (.inr ⟨o_,o_,Jd⟩)
 ·exact AX a len cap J I U w (.inl ⟨o_,Y⟩)
theorem mJ{H:Type}{enc:GC×BY->H}{W W':AT}(hb:Bl W W'):∀ {ns:List String} {ds:List (DataW H)} {ps:List MemPlace},(∀n∈ns,∀g t,prog.globalNamed n=some g->(prog.globals[g]?).map (·.type)=some t->prog.readableRec t=true/\t<prog.types.size/\g<W.heap.size) ->
  DataW.TrodVars enc prog W (λ_=>true) ns ds ps->(∀x∈ps,x.block<W.heap.size)->DataW.TrodVars enc prog W' (λb=>decide (b<W.heap.size)) ns ds ps
 | [],[],ps,_,h,_=>h
 | [],_::_,ps,_,h,_=>by simp[DataW.TrodVars]at h
 | _::_,[],ps,_,h,_=>by simp[DataW.TrodVars]at h
 | n::ns,d::ds,ps,hr,h,hlt=>by
  obtain⟨g,t,cs,fuel,p,q,hg,ht,hv,hd,hs,rfl⟩:=h;obtain⟨r1,r2,r3⟩:=hr n i_ g t hg ht;have hT:DataW.Trod enc prog W 0 (λ_=>true) true t (.agg cs) d p:=⟨fuel,by simpa[cells]using hd⟩;obtain⟨fuel',hd'⟩:=Below.trod z_ r1 r2 hT hb (λx hx=>hlt x (by simp[hx]));exact⟨g,t,cs,fuel',p,q,hg,ht,var?_below hb hg r3 hv,by simpa[cells]using hd',mJ hb (λm hm=>hr m (by simp[hm])) hs (λx hx=>hlt x (by simp[hx])),rfl⟩
def xr(os:Os)(J5:os.Started)(H:Type)(enc:GC×BY->H):
  ReturnsInHanded {} Tryz.checked os 4 .any (λw args=>(Rows.fnFuelSpec.pre enc prog f4 [] false w args/\laidMetH prog Rows.fnFuelRow.laid w)/\sizedMet enc prog f4 (OpenSpec.ofChange Rows.fnFuelSpec) false w args)
   (Rows.fnFuelSpec.post enc prog f4 false true false false):=by
 refine returnsInHanded_of_change_and (C:=Tryz.checked) (X:=λw _=>laidMetH prog Rows.fnFuelRow.laid w) (λ_ _ _ hh h=>h.of_heap hh) own J5 k_ func4
  (ChangeSpec.witness_shaped (enc:=enc) (C:=Tryz.checked) (os:=os) (X:=λw _=>laidMetH prog Rows.fnFuelRow.laid w) false (doorLaid prog 36 os) #[nV,nV] 8 rfl (shaped_of_RefB k_ k_) k_ k_ k_ (AW os _)) ?_
 intro W base args ds gs _ J0 hW _ _ hL _;have J1:∀(j:Nat) t v,f4.params[j]? =some t->args[j]? =some v->okWide prog W .any base t v:=J0;have hW':=hW;obtain⟨p,q,J3,hV,rfl,_,_⟩:=hW;have hA:DataW.TrodAll enc prog W 0 (λ_=>true) true f4.params.toList args.toList ds p:=J3;rw[params4]at hA J1;obtain⟨v0,_,d0,_,p0,q0,_,rfl,rfl,h0,r0⟩:=trodAll_cons hA;obtain⟨v1,_,d1,_,p1,q1,rfl,rfl,rfl,h1,r1⟩:=trodAll_cons r0;obtain⟨rfl,rfl,rfl⟩:=trodAll_nil r1;obtain rfl:args=#[v0,v1]:=by cases args;simp_all
 have hT:=rF hL;have J4:DataW.TrodVars enc prog W (λ_=>true) ["loop.example/s01725/impl.stmtRules", "loop.example/s01725/impl.nodeRules"] gs q:=hV;have J2:=DataW.TrodVars.lt J4;have k0:=h0;have k1:=h1;have t9:∀x∈p1,x.block<W.heap.size:=by obtain⟨m,hm⟩:=k1;exact DataW.trod_lt m _ _ _ hm
 have t8:∀x∈p0,x.block<W.heap.size:=by obtain⟨m,hm⟩:=k0;exact DataW.trod_lt m _ _ _ hm
 obtain⟨x0,y0,z0,rfl⟩:=okWide_slice underlying44 (J1 0 44 v0 rfl rfl);obtain⟨x1,y1,z1,rfl⟩:=okWide_slice underlying44 (J1 1 44 v1 rfl rfl);obtain⟨f0,t6⟩:=h0;obtain⟨f1,t7⟩:=h1;obtain⟨a0,l0,c0,e9,m0,b0⟩:=CE (v:=.slice x0 y0 z0) t6;simp only[Value.slice.injEq]at e9;obtain⟨rfl,rfl,rfl⟩:=e9;obtain⟨a1,l1,c1,e9,m1,b1⟩:=CE (v:=.slice x1 y1 z1) t7;simp only[Value.slice.injEq]at e9;obtain⟨rfl,rfl,rfl⟩:=e9;obtain⟨_,_,_,_,e0,_,_,_,_,_,e1,_,rfl,-⟩:=trodVars_two J4;refine(xw x0 y0 z0 x1 y1 z1 W hT m0 m1 b0 b1).mono λe W' ⟨he,bl⟩=>?_;subst he;refine⟨_,rfl,_,_,_,[],_,_,hW',trodAll_mk1 (shut_bool underlying4 _),trodAll_cons_mk (Below.trod z_ k_ (of_decide_eq_true k_) k0 bl t8) (trodAll_cons_mk (Below.trod z_ k_ (of_decide_eq_true k_) k1 bl t9) trodAll_mk0),mJ bl ?_ J4 J2,bl.frame _,λh=>by cases h⟩;intro n hn g t hg ht;have hsz:=hT.size;have h2:n= "loop.example/s01725/impl.stmtRules" ∨ n= "loop.example/s01725/impl.nodeRules" := by
  have h3:n∈["loop.example/s01725/impl.stmtRules", "loop.example/s01725/impl.nodeRules"]:=hn;simpa using h3
 rcases h2 with rfl|rfl
 ·obtain rfl:=Option.some.inj (CA.symm.trans hg);obtain rfl:=Option.some.inj (CC.symm.trans ht);exact⟨k_,of_decide_eq_true k_,o_⟩
 ·obtain rfl:=Option.some.inj (CB.symm.trans hg);obtain rfl:=Option.some.inj (CD.symm.trans ht);exact⟨k_,of_decide_eq_true k_,o_⟩
def xz:Rows.FnFuelSaid:=
 OpenClaim.holds_of_wide 4 f4 rfl rfl rfl rfl rfl rfl rfl ⟨rfl,rfl,rfl,rfl,rfl⟩ rfl rfl rfl rfl rfl k_ func4 k_
  (of_decide_eq_true k_) (by unfold Func.isWrapper;first|(rw[if_pos (by decide+kernel)];kernel_rfl)|(rw[if_neg (by decide+kernel)];exact⟨rfl,rfl⟩))
  (λo s H e _=>xr o s H e)
theorem card_holds:Rows.FnFuelCardSaid:=
 Claim7.holds_tied_plain_at .later [] [.data,.data] true _ true
  xz (λ_ h=>by cases h) k_ (λ_ h=>by cases h) fnFuel_row_tie rfl ⟨rfl,rfl⟩ k_ rfl
  (λf fn hf hfn=>by
   obtain rfl:f=4:=Option.some.inj ((show prog.funcNamed "loop.example/s01725/laws.FnFuel" =some 4 by kernel_rfl).symm.trans hf) |>.symm;obtain rfl:fn=f4:=(Option.some.inj (func4.symm.trans hfn)).symm;exact⟨k_,λj t ht=>by
    rw[params4]at ht;have hm:t∈[44,44]:=by simpa using Array.mem_of_getElem? ht
    have ha:([44,44].all λu=> !prog.wantsStandIn u)=true:=k_;exact(show prog.wantsStandIn t=false by simpa using all_eq_true.1 ha t hm)⟩)
  k_
end Go.Proofs.YtffnkkpmlplfeaaGreatDoor
