import Derived.Test.YtngnoopnloojjaaGreatDoorQ08
import Derived.Laws.AppendOwnNone
import Derived.Deep.RegionWith
import Derived.ProofKit
import Derived.Deep.RegionHeld3
import Derived.OpenShut
import Derived.Test.YtngnoopnloojjaaGreatDoorQ06
variable [Inhabited Go.Proofs.YtngnoopnloojjaaGreatDoor.Pick]
namespace Go.Proofs.YtngnoopnloojjaaGreatDoor
open Go.Value Go.World List
open Go.Proofs.Tryz Go.RowKit
set_option linter.all false
set_option maxRecDepth 100000
set_option maxHeartbeats 0
def Tryz.infu32:(prog.info? 28).map (λi=>(i.zero,i.size,i.bytes))=some (some (.int .u32 0),1,4):=by kernel_rfl
def Tryz.infu8:(prog.info? 5).map (λi=>(i.zero,i.size,i.bytes))=some (some (.int .u8 0),1,1):=by kernel_rfl
def Tryz.infi64:(prog.info? 2).map (λi=>(i.zero,i.size,i.bytes))=some (some (V 0),1,8):=by kernel_rfl
theorem BO(v:Value)(zs:List Int)(w:World)(hl:zs.length<=2097152)(h:dy .i64 w v zs):
  Calls prog 58 #[v] w λe w'=>∃u,e=rW u/\w'.ownsRow w.heap.size 2 1 u zs.length (zs.map (Value.int .i64))/\Below w.heap.size w w':=by
 have⟨i0,hi,Jg,Jh,Ji⟩:=info_parts Tryz.infi64;obtain⟨a,Jb,rfl,I⟩:=h;cases a with
 | none=>
  have U:zs=[]:=by
   by_cases hn:0<zs.length
   have⟨g,Jf,e,_⟩:=I hn;simp at e
   exact List.eq_nil_of_length_eq_zero o_
  subst U;simp only[l_n];have Je:∀w:World,(binOp .eql 29 (.slice none 0 Jb) nV).run prog w=.ok (.bool true) w:=λw=>Lib.run_eql_slice_nil w 29 2 none 0 Jb 0 0 underlying29;go_in;go_wp2
  go_ret;exact⟨_,rfl,World.ownsRow_nil _ _ _ _,r_⟩
 | some ad=>
  have Jc:∀j u,(zs.map (Value.int .i64))[j]? =some u->(w.alloc (.cells #[] 2)).cell? (ad.add j)=some u:=by
   intro j u H;have Jj:j<zs.length:=by
    have:=(List.getElem?_eq_some_iff.mp H).1
    simpa using this
   have⟨g,Jf,e,O⟩:=I o_;simp only[Option.some.injEq]at e;subst e;rw[Addr.add_lit];rw[((Below.refl w.heap.size w).alloc n_ _).cell (p:=⟨g,Jf+j,none⟩) O.lt,O.cell j Jj];simp only[List.getElem?_map,Option.map_eq_some_iff]at H;obtain⟨z,Z,rfl⟩:=H;simp[List.getD,Z]
  have Y:∀u∈zs.map (Value.int .i64),u.oneCell'=true:=by intro u J;simp only[List.mem_map]at J;obtain⟨z,_,rfl⟩:=J;rfl
  have Je:∀w:World,(binOp .eql 29 (.slice (some ad) zs.length Jb) nV).run prog w=.ok (.bool false) w:=λw=>Lib.run_eql_slice_nil w 29 2 (some ad) zs.length Jb 0 0 underlying29;go_in;go_wp2_with(at_builtin;refine wpList_append_own _ rfl _ _ 29 rfl w.heap.size 2 i0 (V 0) 1 8 underlying29 hi Jg Jh Ji rfl d_ _ 0 [] rfl (World.ownsRow_lit w #[] 0 n_ d_ rfl) ad zs.length Jb (zs.map (Value.int .i64)) rfl i_ Jc Y (by unfold maxLen;omega) o_ i_ ?_)
  intro v' w1 Ja Jd _;have X:Bl w w1:=(aq _ _).grown Jd i_ (by simp[Value.ownBlock]);try rw[List.nil_append]at Ja
  try rw[Nat.zero_add]at Ja
  have HL:=ah Ja;go_wp2;go_ret;exact⟨_,rfl,HL,X⟩
def Hr(z:Int):Bool:=decide (-2147483648<=z/\z<=2147483647)
def vE(zs:List Int):Bool:=zs.all Hr
def vF(z:Int):(IntKind.i32.wrap z=z)↔Hr z=true:=by unfold Hr;rw[IntKind.wrap_i32];simp only[K0];omega
def vG{a b:Bool}(h:a=b):Ending.returned (.bool a)=rW (.bool b):=by rw[h]
def Hs(zs:List Int)(k:Nat)(h:k<zs.length)(H:Hr (zs.getD k 0)=false):vE zs=false:=by unfold vE;rw[all_eq_false];refine⟨zs.getD k 0,?_,by rw[H];decide⟩;simp[List.getD,h]
def Er(zs:List Int)(h:∀j,j<zs.length->Hr (zs.getD j 0)=true):vE zs=true:=by unfold vE;rw[all_eq_true];intro x I;obtain⟨j,H,rfl⟩:=getElem_of_mem I;have:=h j H;simpa[List.getD,H]using this
def Es(z:Int)(w:AT):Calls prog 64 #[V z] w λe w'=>e=rW (V (IntKind.i32.wrap z))/\w'=w:=by
 go_in;go_wp2;go_ret;refine⟨?_,rfl⟩;have h:wrap64 (wrap32 z)=IntKind.i32.wrap z:=by rw[IntKind.wrap_i32];unfold wrap64 wrap32;omega
 rw[<-h];rfl
end Go.Proofs.YtngnoopnloojjaaGreatDoor
namespace Go.Proofs.YtngnoopnloojjaaGreatDoor
open Go.Value Go.World List
open Go.Proofs.Tryz
set_option linter.all false
set_option maxRecDepth 100000
set_option maxHeartbeats 0
section
open Go.RowKit
theorem Hu(v:BY)(zs:List Int)(w:AT)(X:zs.length<=2097152)(h:dy .i64 w v zs):
  Calls prog 95 #[v] w λe w'=>e=rW (.bool (vE zs))/\∃n,w'=w.drewN n:=by
 rcases h.cases with⟨rfl,a,Jd,rfl⟩|⟨Z,g,Je,Jd,rfl,I⟩
 ·clear h X;go_in;go_wp2
  refine wp_loop_rounds 1 ?_;rw[rounds_succ];go_wp2;go_ret;exact⟨rfl,0,rfl⟩
 have Ja:=I.cell;clear h I;go_in;go_wp2;go_loopw[7] (λi wr=>∃k:Nat,k<=zs.length/\i=V k/\(∀j,j<k->Hr (zs.getD j 0)=true)/\∃n,wr=w.drewN n) (λi _=>zs.length-(RowKit.intOf i).toNat)
 case atStart=>exact⟨0,y_,rfl,λj hj=>absurd hj (Nat.not_lt_zero _),0,rfl⟩
 case round=>
  obtain⟨k,Y,rfl,Jb,n,rfl⟩:=hrel;have O:=ah Jb;clear Jb;by_cases hlt:k<zs.length
  ·have U:=Ja k hlt;clear Ja;generalize hz:zs.getD k 0=z at U;have J:=ah hz;clear hz;by_cases hw:Hr z=true
   ·have Jc:wrap32 z=z:=(by have:=(vF z).mpr hw;rw[IntKind.wrap_i32]at this;unfold wrap32;exact this);have H:=ah hw;clear hw;go_wp2_with(go_at_call 64;refine(Es _ _).mono ?_;rintro e w1 ⟨rfl,rfl⟩)
    all_goals go_roundw
    all_goals first
     | exact⟨k+1,o_,by go_num,λj hj=>by by_cases hjk:j=k;subst hjk;rw[J.o];exact H;exact O.o j o_,_,rfl⟩
     | (simp[RowKit.intOf];omega)
   have Jc:¬wrap32 z=z:=λe=>hw ((vF z).mp (by rw[IntKind.wrap_i32];unfold wrap32 at e;exact e));have H:=ah hw;clear hw;go_wp2_with(go_at_call 64;refine(Es _ _).mono ?_;rintro e w1 ⟨rfl,rfl⟩)
   all_goals go_ret
   all_goals exact⟨vG (Hs zs k hlt (by rw[J.o];exact Bool.not_eq_true _ ▸ H)).symm,_,rfl⟩
  go_wp2;go_ret;exact⟨vG (Er zs λj hj=>O.o j o_).symm,_,rfl⟩
def pA(zs:List Int):Bool:=decide (zs.length<=1000)&&vE zs
def Hv(v:BY)(zs:List Int)(w:AT)(J:zs.length<=2097152)(h:dy .i64 w v zs):
  Calls prog 57 #[v] w λe w'=>e=rW (.bool (pA zs))/\Bl w w':=by
 have H:=ah h;obtain⟨a,Ja,rfl⟩:=h.len0;by_cases h1:zs.length<=1000
 ·have I:∀w' n,w'=w.drewN n->Bl w w':=λw' n e=>e ▸ below_drewN r_ n;go_in;go_wp2_with(go_at_call 95;refine(Hu _ zs _ J H).mono ?_;rintro e w1 ⟨rfl,n,rfl⟩)
  go_ret;exact⟨vG (by simp[pA,h1]),I _ _ rfl⟩
 go_in;go_wp2;go_ret;exact⟨vG (by simp[pA];omega),r_⟩
def oA(n:Nat)(d b:Int):Bool:=decide (1<=n/\n<=20000/\0<=d/\d<=65536/\d%4=0/\0<=b/\b<=1000000/\b%16=0)
def Kq(a:Option Addr)(Ja cap:Nat)(d bd:Int)(w:AT)(H:Ja<=1048576):
  Calls prog 56 #[.agg #[.slice a Ja cap,V d,V bd]] w λe w'=>e=rW (.bool (oA Ja d bd))/\Bl w w':=by
 go_in;go_wp2
 all_goals go_ret
 all_goals refine⟨vG ?_,r_.alloc n_ _⟩
 all_goals (unfold oA;rw[Bool.eq_iff_iff];simp;try omega)
end
end Go.Proofs.YtngnoopnloojjaaGreatDoor
namespace Go.Proofs.YtngnoopnloojjaaGreatDoor
open Go.Value Go.World List
open Go.RowKit
set_option linter.all false
set_option maxRecDepth 100000
set_option maxHeartbeats 0
variable{listed l:Array Bool}{i id n:Nat}{md:Region.Mode}{ops:Array Oper}{P:Program}{a a0:Act}{w w0:AT}{t:Tmp}{v:BY}
def Kr(listed:Array Bool):Nat:=listed.toList.countP (λb=> !b)
def Az(h:listed.getD i true=false):Kr (listed.setIfInBounds i true)+1=Kr listed:=by
 have I:i<listed.size:=by by_cases hlt:i<listed.size;exact hlt;simp[Array.getD,hlt]at h
 have H:listed[i]=false:=by simpa[Array.getD,I]using h
 unfold Kr;have e:(listed.setIfInBounds i true).toList=listed.toList.set i true:=i_;rw[e,countP_set (D4 I)];have J:0<listed.toList.countP (λb=> !b):=by rw[countP_pos_iff];exact⟨listed[i],i_,by simp[H]⟩
 simp only[Array.getElem_toList,H,Bool.not_false,Bool.not_true,if_true,Bool.false_eq_true,if_false];omega
def tR(h:Kr listed=0):Region.ready md ops listed=[]:=by rw[eq_nil_iff_forall_not_mem];intro i H;have:=Az (mem_ready.1 H).1;omega
def qQ(n:Nat):Kr (Array.replicate n false)=n:=by simp[Kr,countP_replicate]
theorem sw{P:Program}{md:Region.Mode}{ops:Array Oper}{Q:Exit->Act->AT->Prop}(I:Array Bool->Act->AT->Prop)
  (step:∀listed a w,I listed a w->∀i∈Region.ready md ops listed,wpOp P ops Q i (I (listed.setIfInBounds i true)) a w)
  (fin:∀listed a w,I listed a w->Region.ready md ops listed=[]->Q .normal a w):
  ∀(fuel:Nat) (listed:Array Bool) (a:Act) (w:AT),Kr listed<=fuel->I listed a w->wpAny P md ops Q fuel listed a w
 | 0,listed,a,w,hu,hI=>by have hr:=tR (md:=md) (ops:=ops) (listed:=listed) o_;exact⟨hr,fin listed a w hI hr⟩
 | fuel+1,listed,a,w,hu,hI=>⟨λhr=>fin listed a w hI hr,λi hi=>wpOp_mono (λa' w' h'=>sw I step fin fuel _ a' w' (by have:=Az (mem_ready.1 hi).1;omega) h') (step listed a w hI i hi)⟩
def qR{Q:Exit->Act->AT->Prop}(hm:P.follows .mixedOrders=true)(I:Array Bool->Act->AT->Prop)
  (step:∀listed a w,I listed a w->∀i∈Region.ready .any ops listed,wpOp P ops Q i (I (listed.setIfInBounds i true)) a w)
  (fin:∀listed a w,I listed a w->Region.ready .any ops listed=[]->Q .normal a w) (h0:I (Array.replicate ops.size false) a w.drew):(Code.region id ops true).wp P Q a w:=
 wp_region_any hm (sw I step fin ops.size _ a _ (by rw[qQ];exact n_) h0)
structure Gr (ops:Array Oper) (n:Nat) (d:Nat->Tmp):Prop where
 size:ops.size=n+1
 op:∀i,i<n->∃o,ops[i]? =some o/\o.dst=some (d i)/\o.guard=none/\∀e∈o.after,e.on<i/\Region.binds .any e=true
 inj:∀i j,i<n->j<n->d i=d j->i=j
 last:∃o,ops[n]? =some o/\o.guard=none/\(∀i,i<n->∃e∈o.after,e.on=i/\Region.binds .any e=true)/\∀e∈o.after,e.on<n
def cE(h:l.getD i false=true):l.getD i true=true:=by by_cases hi:i<l.size;simp[Array.getD,hi]at h⊢;exact h;simp[Array.getD,hi]
def ie(H:i<l.size)(h:l.getD i true=true):l.getD i false=true:=by simp[Array.getD,H]at h⊢;exact h
def qT:(l.setIfInBounds i true).getD i true=true:=by by_cases hi:i<l.size <;> simp[Array.getD,hi]
def ig{j:Nat}(h:i≠j):(l.setIfInBounds i true).getD j true=l.getD j true:=by by_cases hj:j<l.size;simp[Array.getD,hj,h];simp[Array.getD,hj]
def qU(h:t<a.tmps.size):(a.put (some t) v).eval (.tmp t)=v:=by simp[Act.eval,Act.put,h]
def pB{s:Tmp}(h:t≠s):(a.put (some t) v).eval (.tmp s)=a.eval (.tmp s):=
 Act.eval_put λd hd he=>by simp at hd he;exact h (hd.trans he.symm)
structure M6 (n:Nat) (d:Nat->Tmp) (R:Nat->BY->AT->Prop) (O:Nat->BY->List Nat) (a0:Act) (w0:AT) (done:DO) (a:Act) (w:AT):Prop where
 defers:a.defers=a0.defers
 tsize:a.tmps.size=a0.tmps.size
 frame:∀t,(∀j,j<n->d j≠t)->a.tmps[t]? =a0.tmps[t]?
 below:Bl w0 w
 rel:∀i,i<n->done i->R i (a.eval (.tmp (d i))) w
 own:∀i,i<n->done i->∀g∈O i (a.eval (.tmp (d i))),w0.heap.size<=g/\g<w.heap.size
 apart:∀i j,i<n->j<n->i≠j->done i->done j->∀g∈O i (a.eval (.tmp (d i))),g∉O j (a.eval (.tmp (d j)))
def M6.step{d:Nat->Tmp}{R:Nat->BY->AT->Prop}{O:Nat->BY->List Nat}{Jd Jc:DO}{w':AT} 
  (Jg:∀i v w w',R i v w->(∀g∈O i v,g<w.heap.size)->Bl w w'->R i v w')
  (Ji:∀i j,i<n->j<n->d i=d j->i=j) (hd:∀j,j<n->d j<a0.tmps.size) (h:M6 n d R O a0 w0 Jd a w) (X:i<n) (Ja:∀j,Jc j->j=i\/Jd j)
  (hR:R i v w') (U:Bl w w') (J:∀g∈O i v,w.heap.size<=g/\g<w'.heap.size):M6 n d R O a0 w0 Jc (a.put (some (d i)) v) w':=by
 have Z:d i<a.tmps.size:=by rw[h.tsize];exact hd i X
 have Jh:=h.below.size;have I:∀j,j<n->j≠i->(a.put (some (d i)) v).eval (.tmp (d j))=a.eval (.tmp (d j)):=λj hj hne=>pB λe=>hne (Ji j i hj X e.symm);have Je:(a.put (some (d i)) v).eval (.tmp (d i))=v:=qU Z;refine⟨h.defers,by simp[Act.put];exact h.tsize,λt ht=>?_,h.below.trans (U.mono Jh),λj hj hdj=>?_,λj hj hdj=>?_,λj k hj hk hne hdj hdk=>?_⟩
 rw[<-h.frame t ht];have:d i≠t:=ht i X;simp[Act.put,Array.getElem?_setIfInBounds_ne this];by_cases hji:j=i;subst hji;rw[Je];exact hR;rw[I j hj hji];have Jb:=(Ja j hdj).resolve_left hji;exact Jg j _ w w' (h.rel j hj Jb) (λg H=>(h.own j hj Jb g H).2) U;by_cases hji:j=i;subst hji;rw[Je];exact λg H=>⟨t_ Jh (J g H).1,(J g H).2⟩
 rw[I j hj hji];have Jb:=(Ja j hdj).resolve_left hji;exact λg H=>⟨(h.own j hj Jb g H).1,l_ (h.own j hj Jb g H).2 U.size⟩
 by_cases hji:j=i;subst hji;rw[Je,I k hk (λe=>hne e.symm)];have Jb:=(Ja k hdk).resolve_left (λe=>hne e.symm);intro g H Jf;have Y:=(J g H).1;have h2:=(h.own k hk Jb g Jf).2;omega;by_cases hki:k=i;subst hki;rw[Je,I j hj hji];have Jb:=(Ja j hdj).resolve_left hji;intro g H Jf;have Y:=(J g Jf).1;have h2:=(h.own j hj Jb g H).2;omega;rw[I j hj hji,I k hk hki];exact h.apart j k hj hk hne ((Ja j hdj).resolve_left hji) ((Ja k hdk).resolve_left hki)
theorem j6{Q:Exit->Act->AT->Prop}(hm:P.follows .mixedOrders=true){d:Nat->Tmp}(G:Gr ops n d)
  (R:Nat->BY->AT->Prop) (O:Nat->BY->List Nat) (Jh:∀i v w w',R i v w->(∀g∈O i v,g<w.heap.size)->Bl w w'->R i v w') (hd:∀j,j<n->d j<a0.tmps.size)
  (step:∀i o,i<n->ops[i]? =some o->∀a w,a.defers=a0.defers->a.tmps.size=a0.tmps.size->(∀t,(∀j,j<n->d j≠t)->a.tmps[t]? =a0.tmps[t]?)->Bl w0 w->(∀e∈o.after,R e.on (a.eval (.tmp (d e.on))) w)->(∀e∈o.after,∀g∈O e.on (a.eval (.tmp (d e.on))),w0.heap.size<=g/\g<w.heap.size) ->
   (∀e∈o.after,∀f∈o.after,e.on≠f.on->∀g∈O e.on (a.eval (.tmp (d e.on))),g∉O f.on (a.eval (.tmp (d f.on)))) ->
   o.wp P a w (λa' w'=>∃v,a'=a.put (some (d i)) v/\R i v w'/\Bl w w'/\∀g∈O i v,w.heap.size<=g/\g<w'.heap.size) Q)
  (Jl:∀o,ops[n]? =some o->∀a w,M6 n d R O a0 w0 (λ_=>True) a w->o.wp P a w (λa' w'=>Q .normal a' w') Q):(Code.region id ops true).wp P Q a0 w0:=by
 refine qR hm (λlisted a w=>(listed.size=n+1/\listed.getD n true=false/\M6 n d R O a0 w0 (λi=>listed.getD i true=true) a w)\/(Q .normal a w/\∀i,listed.getD i true=true)) ?_ ?_ ?_
 ·rintro listed a w (⟨hsz,hn,hI⟩|⟨_,Ja⟩) i hi
  ·have⟨hu,o,J,Jc⟩:=mem_ready.1 hi;have Jm:i<n+1:=by rw[<-G.size];exact(Array.getElem?_eq_some_iff.mp J).1
   by_cases hlt:i<n
   have⟨Z,Jf,Ji,X,Jb⟩:=G.op i hlt;obtain rfl:o=Z:=(by rw[J]at Jf;exact Option.some.inj Jf);unfold wpOp;simp only[J];rw[if_pos (by simp[Region.wanted,X])];refine .inl (Oper.wp_mono ?_ (step i o hlt J a w hI.defers hI.tsize hI.frame hI.below (λe H=>?_) (λe H=>?_) (λe H f hf hne=>?_)))
   rintro a' w' ⟨v,rfl,hR,hB,hO⟩;refine .inl ⟨D4 hsz,by rw[ig o_];exact hn,hI.step Jh G.inj hd hlt (λj I=>?_) hR hB hO⟩;by_cases hji:j=i;exact .inl hji;exact .inr (by rwa[ig (λe=>hji e.symm)]at I);exact hI.rel e.on (Nat.lt_trans (Jb e H).1 hlt) (cE (Jc e H (Jb e H).2));exact hI.own e.on (Nat.lt_trans (Jb e H).1 hlt) (cE (Jc e H (Jb e H).2));exact hI.apart e.on f.on (Nat.lt_trans (Jb e H).1 hlt) (Nat.lt_trans (Jb f hf).1 hlt) hne (cE (Jc e H (Jb e H).2)) (cE (Jc f hf (Jb f hf).2));obtain rfl:i=n:=(by omega);have⟨Z,Jf,X,Je,_⟩:=G.last;obtain rfl:o=Z:=(by rw[J]at Jf;exact Option.some.inj Jf);have Ja:∀j,j<i->listed.getD j true=true:=λj I=>by obtain⟨e,H,rfl,U⟩:=Je j I;exact cE (Jc e H U)
   unfold wpOp;simp only[J];rw[if_pos (by simp[Region.wanted,X])];refine .inl (Oper.wp_mono ?_ (Jl o J a w ⟨hI.defers,hI.tsize,hI.frame,hI.below,λj I _=>hI.rel j I (Ja j I),λj I _=>hI.own j I (Ja j I),λj k I hk hne _ _=>hI.apart j k I hk hne (Ja j I) (Ja k hk)⟩));intro a' w' Y;refine .inr ⟨Y,λj=>?_⟩;by_cases hji:j=i;subst hji;exact qT;rw[ig (λe=>hji e.symm)];by_cases I:j<i;exact Ja j I
   have:¬j<listed.size:=o_
   simp[Array.getD,this]
  have:=(mem_ready.1 hi).1
  rw[Ja i]at this;cases this
 ·rintro listed a w (⟨hsz,hn,hI⟩|⟨Y,_⟩) hr
  ·exfalso
   have Jj:∀m,∀j,j<m->j<=n->listed.getD j true=true:=by
    intro m;induction m with
    | zero=>intro j I;omega
    | succ m ih=>
     intro j I Jk;by_cases hjm:j<m;exact ih j hjm Jk;obtain rfl:j=m:=(by omega);cases U:listed.getD j true with
     | true=>rfl
     | false=>
      exfalso;have Jg:j∈Region.ready .any ops listed:=by
       rw[mem_ready];refine⟨U,?_⟩;by_cases hlt:j<n
       ·have⟨o,J,_,_,Jb⟩:=G.op j hlt;exact⟨o,J,λe H _=>ie (by have:=(Jb e H).1;omega) (ih e.on (Jb e H).1 (by have:=(Jb e H).1;omega))⟩
       obtain rfl:j=n:=(by omega);have⟨o,J,_,_,Jd⟩:=G.last;exact⟨o,J,λe H _=>ie (Ft (Jd e H)) (ih e.on (Jd e H) (Ft (Jd e H)))⟩
      rw[hr]at Jg;cases Jg
   rw[Jj (n+1) n (Nat.lt_succ_self _) n_]at hn;cases hn
  exact Y
 refine .inl ⟨by simp[G.size],by simp[Array.getD,G.size],⟨rfl,rfl,λ_ _=>rfl,r_.drew,λi hi h=>?_,λi hi h=>?_,λi j hi I hne h=>?_⟩⟩ <;>
  (exfalso;simp[Array.getD,G.size]at h;omega)
end Go.Proofs.YtngnoopnloojjaaGreatDoor
namespace Go.Proofs.YtngnoopnloojjaaGreatDoor
open Go.Value Go.World List
open Go.Proofs.Tryz Go.RowKit
set_option linter.all false
set_option maxRecDepth 100000
set_option maxHeartbeats 0
variable{W W':AT}{B e n g size i:Nat}{v:BY}{xs:List BY}{k:IntKind}{zs:List Int}
structure Mc where
 regs:List Int
 pc:Int
 data:List Int
 stack:List Int
 inn:List Int
 out:List Int
 low:Int
 st:Int
def Ni:Mc:=⟨[],0,[],[],[],[],0,0⟩
def regs0:List Int:=(List.replicate 32 0).set 2 1073741824
def j7(n:Nat)(d b:Int)(zs:List Int):Mc:=if oA n d b&&pA zs then⟨regs0,4096,List.replicate d.toNat 0,List.replicate b.toNat 0,zs,[],1073741824,0⟩else Ni
def fy:BY->List Nat
 | .slice (some a) _ _=>[a.block]
 | _=>[]
def dU:BY->Prop
 | .slice _ n c=>n<=c
 | _=>True
def Hw(h:W.ownsRow B e 1 v n xs):dU v:=by rcases h.2 with⟨rfl,H⟩|⟨g,Jf,Jc,rfl,Jd,I,Jb,Je,Jg,Ja⟩;exact n_;exact Jb
def pF(w:World)(B:Nat)(v:Value)(c:Mc):Prop:=
 ∃r d s i o,v=.agg #[r,.int .u32 c.pc,d,s,i,o,.int .u32 c.low,V c.st]/\dy .u32 w r c.regs/\dy .u8 w d c.data/\dy .u8 w s c.stack/\dy .i64 w i c.inn /\
  w.ownsRow B 2 1 o c.out.length (c.out.map (Value.int .i64))/\(blk r++blk d++blk s++blk i++fy o).Nodup/\(∀g∈blk r++blk d++blk s++blk i++fy o,B<=g)/\dU d/\dU s/\dU i
def pG{e:IN}(h:W.heap[g]? =some (.cells (madeCells #[.int k 0] n) e)):dy k W (rV g n n) (List.replicate n 0):=by refine⟨_,n,i_,λ_=>⟨g,0,rfl,(Array.getElem?_eq_some_iff.mp h).1,λj hj=>?_,λj=>?_⟩⟩;simp only[length_replicate]at hj;simp[cell?,h,madeCells,hj,Nat.mod_one];simp[frozen?,h]
theorem am{l:List BY}(h:l.length=n+1):∃x xs,l=x::xs/\xs.length=n:=by
 cases l with
 | nil=>simp at h
 | cons x xs=>exact⟨x,xs,rfl,D4 h⟩
def Nj(a:Array BY)(h:a.size=29):∃t0 t1 t2 t3 t4 t5 t6 t7 t8 t9 t10 t11 t12 t13 t14 t15 t16 t17 t18 t19 t20 t21 t22 t23 t24 t25 t26 t27 t28,a=#[t0,t1,t2,t3,t4,t5,t6,t7,t8,t9,t10,t11,t12,t13,t14,t15,t16,t17,t18,t19,t20,t21,t22,t23,t24,t25,t26,t27,t28]:=by obtain⟨l⟩:=a;simp only[size_toArray]at h;obtain⟨t0,X,rfl,H⟩:=am h;obtain⟨t1,l1,rfl,I⟩:=am H;obtain⟨t2,l2,rfl,h2⟩:=am I;obtain⟨t3,O,rfl,h3⟩:=am h2;obtain⟨t4,U,rfl,h4⟩:=am h3;obtain⟨t5,l5,rfl,h5⟩:=am h4;obtain⟨t6,l6,rfl,h6⟩:=am h5;obtain⟨t7,Z,rfl,h7⟩:=am h6;obtain⟨t8,l8,rfl,h8⟩:=am h7;obtain⟨t9,l9,rfl,h9⟩:=am h8;obtain⟨t10,Jr,rfl,h10⟩:=am h9;obtain⟨t11,Xe,rfl,h11⟩:=am h10;obtain⟨t12,Xf,rfl,h12⟩:=am h11;obtain⟨t13,Jz,rfl,Ja⟩:=am h12;obtain⟨t14,Jt,rfl,Jb⟩:=am Ja;obtain⟨t15,Xb,rfl,Jc⟩:=am Jb;obtain⟨t16,J_,rfl,Je⟩:=am Jc;obtain⟨t17,Xc,rfl,Jj⟩:=am Je;obtain⟨t18,Xd,rfl,Jm⟩:=am Jj;obtain⟨t19,Ju,rfl,Ji⟩:=am Jm;obtain⟨t20,Jw,rfl,Jf⟩:=am Ji;obtain⟨t21,Xa,rfl,Jl⟩:=am Jf;obtain⟨t22,Jy,rfl,Jo⟩:=am Jl;obtain⟨t23,Jv,rfl,Jn⟩:=am Jo;obtain⟨t24,Js,rfl,Jg⟩:=am Jn;obtain⟨t25,Xh,rfl,Jp⟩:=am Jg;obtain⟨t26,J,rfl,Jh⟩:=am Jp;obtain⟨t27,Y,rfl,Jd⟩:=am Jh;obtain⟨t28,Jq,rfl,Jk⟩:=am Jd;obtain rfl:Jq=[]:=K1 Jk;exact⟨t0,t1,t2,t3,t4,t5,t6,t7,t8,t9,t10,t11,t12,t13,t14,t15,t16,t17,t18,t19,t20,t21,t22,t23,t24,t25,t26,t27,t28,rfl⟩
def pH(h:W.ownsRow B e size v n xs)(I:Bl W W'):W'.ownsRow B e size v n xs:=by refine⟨h.1,h.2.imp id ?_⟩;rintro⟨g,Jb,Ja,H,h2,h3,h4⟩;exact⟨g,Jb,Ja,H,h2,(I.block g (Array.getElem?_eq_some_iff.mp h3).1).trans h3,h4⟩
def vL{B':Nat}(h:W.ownsRow B e size v n xs)(I:B'<=B):W.ownsRow B' e size v n xs:=by refine⟨h.1,h.2.imp id ?_⟩;rintro⟨g,Jb,Ja,H,h2,h4⟩;exact⟨g,Jb,Ja,H,t_ I h2,h4⟩
def Ew{t:Nat}{Jb:Array BY}(h:W.ownsRow B e size v n xs)(I:g∈fy v)(H:W.heap[g]? =some (.cells Jb t)):t=e:=by rcases h.2 with⟨rfl,_⟩|⟨J,Jc,Ja,rfl,_,h3,_⟩;simp[fy]at I;simp only[fy,K7]at I;subst I;rw[h3]at H;simp at H;exact H.2.symm
def oH(h:W.ownsRow B e size v n xs):(fy v).Nodup/\∀g∈fy v,B<=g/\g<W.heap.size:=by rcases h.2 with⟨rfl,_⟩|⟨H,Jb,Ja,rfl,h2,h3,_⟩;simp[fy];refine⟨by simp[fy],λg hg=>?_⟩;simp only[fy,K7]at hg;subst hg;exact⟨h2,(Array.getElem?_eq_some_iff.mp h3).1⟩
def fI(h:g∈blk v):g∈fy v:=by unfold blk at h;split at h;simpa[fy]using h;simp at h
def Row.set{off:Nat}{z:Int}(h:Row k W g off zs)(H:i<zs.length):Row k (W.setCell ⟨g,off+i,none⟩ (.int k z)) g off (zs.set i z):=by refine⟨D4 h.lt,λj hj=>?_,λj=>?_⟩;simp only[length_set]at hj;by_cases hji:i=j;subst hji;rw[cell?_setCell_same _ _ _ (h.cell i H)];simp[List.getD,H];rw[s_ _ _ _ _ (by intro e;simp only[Addr.mk.injEq]at e;omega),h.cell j hj];simp[List.getD,getElem?_set_ne hji];simpa using h.froz j
theorem yF{w:World}{H O U h q:Nat}{J I:Nat}{X:Value}(Z x1 x2 x3 x4 x5 x6 x7 y0 y1 y2 y3 y4 y5 y6 y7:Value)
  (L1:dy .u32 W (rV H 32 32) (List.replicate 32 0)) (L2:dy .u8 W (rV O J J) (List.replicate J 0)) (L3:dy .u8 W (rV U I I) (List.replicate I 0))
  (b4:W.ownsRow B 2 1 X zs.length (zs.map (Value.int .i64))) (Jl:([H,O,U]++fy X).Nodup) (Jc:∀g∈[H,O,U]++fy X,B<=g/\g<W.heap.size)
  (m1:¬H=h) (m2:¬O=h) (m3:¬U=h) (m4:h∉fy X) (hq:q<B) (Jp:w.heap.size<=q) (h5:B<=h) (BW:Below w.heap.size w W):
  pF (((((((((((((((((W.setCell ⟨h,0,none⟩ Z).setCell ⟨h,1,none⟩ x1).setCell ⟨h,2,none⟩ x2).setCell ⟨h,3,none⟩ x3).setCell ⟨h,4,none⟩ x4).setCell ⟨h,5,none⟩ x5).setCell ⟨h,6,none⟩ x6).setCell ⟨h,7,none⟩ x7).setCell ⟨H,2,none⟩ (.int .u32 1073741824)).setCell ⟨q,0,none⟩ y0).setCell ⟨q,1,none⟩ y1).setCell ⟨q,2,none⟩ y2).setCell ⟨q,3,none⟩ y3).setCell ⟨q,4,none⟩ y4).setCell ⟨q,5,none⟩ y5).setCell ⟨q,6,none⟩ y6).setCell ⟨q,7,none⟩ y7) w.heap.size (.agg #[rV H 32 32,.int .u32 4096,rV O J J,rV U I I,X,nV,.int .u32 1073741824,V 0]) ⟨regs0,4096,List.replicate J 0,List.replicate I 0,zs,[],1073741824,0⟩/\Below w.heap.size w (((((((((((((((((W.setCell ⟨h,0,none⟩ Z).setCell ⟨h,1,none⟩ x1).setCell ⟨h,2,none⟩ x2).setCell ⟨h,3,none⟩ x3).setCell ⟨h,4,none⟩ x4).setCell ⟨h,5,none⟩ x5).setCell ⟨h,6,none⟩ x6).setCell ⟨h,7,none⟩ x7).setCell ⟨H,2,none⟩ (.int .u32 1073741824)).setCell ⟨q,0,none⟩ y0).setCell ⟨q,1,none⟩ y1).setCell ⟨q,2,none⟩ y2).setCell ⟨q,3,none⟩ y3).setCell ⟨q,4,none⟩ y4).setCell ⟨q,5,none⟩ y5).setCell ⟨q,6,none⟩ y6).setCell ⟨q,7,none⟩ y7):=by
 have Je:Row .u32 W H 0 (List.replicate 32 0):=by obtain⟨ar,cr,er,hr⟩:=L1;have⟨g,Jn,e,hR⟩:=hr i_;simp at er;obtain⟨rfl,_⟩:=er;simp at e;obtain⟨rfl,rfl⟩:=e;exact hR
 have TA:=(aA.refl (λk=>k=h) W).set8 h rfl Z x1 x2 x3 x4 x5 x6 x7;have Jh:=(Je.keep TA.size (TA.block H Je.lt m1)).set (i:=2) (z:=1073741824) i_;have TB:=λ(W9:World)=>(aA.refl (λk=>k=q) W9).set8 q rfl y0 y1 y2 y3 y4 y5 y6 y7;have Y:=(((aA.refl (λk=>k=h\/k=H\/k=q) W).set8 h (.inl rfl) Z x1 x2 x3 x4 x5 x6 x7).setCell (p:=⟨H,2,none⟩) (.inr (.inl rfl)) (.int .u32 1073741824)).set8 q (.inr (.inr rfl)) y0 y1 y2 y3 y4 y5 y6 y7;have o1:=Jc H i_;have o2:=Jc O i_;have o3:=Jc U i_;have hn:=Jl;simp only[List.cons_append,List.nil_append,List.nodup_cons,List.mem_cons,not_or]at hn;obtain⟨⟨Jk,Ji,Jd⟩,⟨Jj,Jf⟩,Jg,Jm⟩:=hn;have ob:∀g∈fy X,B<=g/\g<W.heap.size:=λg hg=>Jc g (by simp[hg]);refine⟨⟨_,_,_,_,_,rfl,(dy.of_row (cap:=32) Jh).tcs (TB _) ?_,L2.tcs Y ?_,L3.tcs Y ?_,(dy.of_own b4).1.tcs Y ?_,World.ownsRow_nil _ _ _ _,?_,?_,n_,n_,Hw b4⟩,Y.below BW BW.size ?_⟩
 intro g hg;have:=fI hg;simp[fy]at this;omega;intro g hg;have:=fI hg;simp[fy]at this;omega;intro g hg;have:=fI hg;simp[fy]at this;omega;intro g hg;have h1:=fI hg;have h2:=ob g h1;rintro(rfl|rfl|rfl);exact m4 h1;exact Jd h1;omega;rw[show fy nV=[]from rfl,List.append_nil];have hs:∀(a:Option Addr) (n c g:Nat),a=some ⟨g,0,none⟩->∀x∈blk (.slice a n c),x=g:=by rintro a n c g rfl x hx;have:=fI hx;simpa[fy]using this
 have k1:=hs _ 32 32 H rfl;have k2:=hs _ J J O rfl;have k3:=hs _ I I U rfl;have Jb:∀v:Value,(blk v).Nodup:=by intro v;unfold blk;split <;> simp
 simp only[List.nodup_append,List.mem_append];refine⟨⟨⟨Jb _,Jb _,λx hx y hy=>?_⟩,Jb _,λx hx y hy=>?_⟩,Jb _,λx hx y hy=>?_⟩;rw[k1 x hx,k2 y hy];exact Jk;rw[k3 y hy];rcases hx with hx|hx;rw[k1 x hx];exact Ji;rw[k2 x hx];exact Jj;have Ja:=fI hy;rintro rfl;rcases hx with(hx|hx)|hx;rw[k1 x hx]at Ja;exact Jd Ja;rw[k2 x hx]at Ja;exact Jf Ja;rw[k3 x hx]at Ja;exact Jg Ja;intro g hg;have Jo:w.heap.size<=B:=o_;rw[show fy nV=[]from rfl,List.append_nil]at hg;simp only[List.mem_append]at hg;rcases hg with((hg|hg)|hg)|hg
 have:=fI hg
 simp[fy]at this;omega
 have:=fI hg
 simp[fy]at this;omega
 have:=fI hg
 simp[fy]at this;omega
 have:=ob g (fI hg)
 omega;rintro k (rfl|rfl|rfl) <;> omega
def qV(h:i<11):i=0\/i=1\/i=2\/i=3\/i=4\/i=5\/i=6\/i=7\/i=8\/i=9\/i=10:=by omega
def bL{o:Obj}(h:W.heap[g]? =some o)(hb:Bl W W'):W'.heap[g]? =some o:=(hb.block g (Array.getElem?_eq_some_iff.mp h).1).trans h
theorem yG(a:Option Addr)(Jc cap:Nat)(d bd:Int)(v:Value)(zs:List Int)(w:World)(hl:Jc<=1048576)(hz:zs.length<=2097152)(h:dy .i64 w v zs)(hv:oA Jc d bd=true)(H:pA zs=true):
  Calls prog 28 #[.agg #[.slice a Jc cap,V d,V bd],v] w λe w'=>∃u,e=rW u/\pF w' w.heap.size u (j7 Jc d bd zs)/\Below w.heap.size w w':=by
 have⟨i0,hi,Ju,Jy,Jw⟩:=info_parts Tryz.infu8;have⟨i1,Xc,J_,Xi,Xd⟩:=info_parts Tryz.infu32;have Yj:0<=d/\d<=65536/\0<=bd/\bd<=1000000:=by
  have:=hv
  unfold oA at this;simp only[decide_eq_true_eq]at this;omega
 have Xh:∀W:World,(Instr.makeSlice 27 (V 32) (V 32)).run prog W=.ok (rV W.heap.size 32 32) (W.alloc (.cells (madeCells #[.int .u32 0] 32) 28)):=λW=>by
  have:=run_make (P:=prog) W 27 28 i1 (.int .u32 0) underlying27 Xc J_ .i64 .i64 32 32 o_ o_ (by rw[Xd];omega) o_
  rw[Xi]at this;exact this
 have Xe:∀W:World,(Instr.makeSlice 22 (V d) (V d)).run prog W=.ok (rV W.heap.size d.toNat d.toNat) (W.alloc (.cells (madeCells #[.int .u8 0] d.toNat) 5)):=λW=>by
  have:=run_make (P:=prog) W 22 5 i0 (.int .u8 0) underlying22 hi Ju .i64 .i64 d d o_ o_ (by rw[Jw];omega) o_
  rw[Jy,Nat.mul_one]at this;exact this
 have Xg:∀W:World,(Instr.makeSlice 22 (V bd) (V bd)).run prog W=.ok (rV W.heap.size bd.toNat bd.toNat) (W.alloc (.cells (madeCells #[.int .u8 0] bd.toNat) 5)):=λW=>by
  have:=run_make (P:=prog) W 22 5 i0 (.int .u8 0) underlying22 hi Ju .i64 .i64 bd bd o_ o_ (by rw[Jw];omega) o_
  rw[Jy,Nat.mul_one]at this;exact this
 have HL:=ah h;have Xf:Bl w ((w.alloc (.cells #[.slice a Jc cap,V d,V bd] 47)).alloc (.cells #[nV,.int .u32 0,nV,nV,nV,nV,.int .u32 0,V 0] 31)):=(aq _ _).alloc i_ _;go_in;go_wp2_with fail;refine(Kq a Jc cap d bd _ hl).mono ?_;rintro e w1 ⟨rfl,Jj⟩;have k1:w1.cell? ⟨w.heap.size,1,none⟩=some (V d)/\w1.cell? ⟨w.heap.size,2,none⟩=some (V bd):=by constructor <;> (rw[Jj.cell (by simp;omega)];simp)
 have B1:Bl w w1:=Xf.trans (Jj.mono (by simp;omega));simp only[Bl,World.size_alloc]at Jj;have s1:w.heap.size+2<=w1.heap.size:=by have:=Jj.size;simp at this;omega
 rw[hv];go_wp2_with fail;refine(Hv v zs _ hz (dy.below HL.out B1)).mono ?_;rintro e w2 ⟨rfl,Jf⟩;have k2:w2.cell? ⟨w.heap.size,1,none⟩=some (V d)/\w2.cell? ⟨w.heap.size,2,none⟩=some (V bd):=by constructor;rw[Jf.cell (by simp;omega)];exact k1.1;rw[Jf.cell (by simp;omega)];exact k1.2
 have B2:Bl w w2:=B1.trans (Jf.mono o_);have R2:Below (w.heap.size+2) ((w.alloc (.cells #[.slice a Jc cap,V d,V bd] 47)).alloc (.cells #[nV,.int .u32 0,nV,nV,nV,nV,.int .u32 0,V 0] 31)) w2:=Jj.trans (Jf.mono o_);have s2:w.heap.size+2<=w2.heap.size:=by have:=Jf.size;omega
 rw[H];have HB:Hid (∀W,Bl w2 W->Calls prog 58 #[v] W λe w'=>∃u,e=rW u/\w'.ownsRow W.heap.size 2 1 u zs.length (zs.map (Value.int .i64))/\Bl W w'):=by intro W hW;exact BO v zs W hz (dy.below (dy.below HL.out B2) hW)
 go_wp2_with fail;refine j6 k_ (n:=11) (d:=λi=>[15,16,17,18,19,20,21,22,23,24,5].getD i 0) ?G
  (λi x W=>match i with
   | 0=>∃g,x=.slice (some ⟨g,0,none⟩) 32 32/\W.heap[g]? =some (.cells (madeCells #[.int .u32 0] 32) 28)
   | 1=>x=.pointer (some ⟨w.heap.size,1,none⟩)
   | 2=>x=.int .i64 d
   | 3=>∃g,x=.slice (some ⟨g,0,none⟩) d.toNat d.toNat/\W.heap[g]? =some (.cells (madeCells #[.int .u8 0] d.toNat) 5)
   | 4=>x=.pointer (some ⟨w.heap.size,2,none⟩)
   | 5=>x=.int .i64 bd
   | 6=>∃g,x=.slice (some ⟨g,0,none⟩) bd.toNat bd.toNat/\W.heap[g]? =some (.cells (madeCells #[.int .u8 0] bd.toNat) 5)
   | 7=>x=v
   | 8=>W.ownsRow w2.heap.size 2 1 x zs.length (zs.map (Value.int .i64))
   | 9=>∃O Y Z i,x=.agg #[.slice (some ⟨O,0,none⟩) 32 32,.int .u32 4096,.slice (some ⟨Y,0,none⟩) d.toNat d.toNat,.slice (some ⟨Z,0,none⟩) bd.toNat bd.toNat,i,.slice none 0 0,.int .u32 1073741824,.int .i64 0] /\
     W.heap[O]? =some (.cells (madeCells #[.int .u32 0] 32) 28)/\W.heap[Y]? =some (.cells (madeCells #[.int .u8 0] d.toNat) 5)/\W.heap[Z]? =some (.cells (madeCells #[.int .u8 0] bd.toNat) 5)/\W.ownsRow w2.heap.size 2 1 i zs.length (zs.map (Value.int .i64)) /\
     ([O,Y,Z]++fy i).Nodup/\∀g∈[O,Y,Z]++fy i,w2.heap.size<=g/\g<W.heap.size
   | _=>∃g,x=.pointer (some ⟨g,0,none⟩)/\w2.heap.size<=g/\W.heap[g]? =some (.cells #[.slice none 0 0,.int .u32 0,.slice none 0 0,.slice none 0 0,.slice none 0 0,.slice none 0 0,.int .u32 0,.int .i64 0] 31))
  (λi x=>match i with
   | 0=>fy x
   | 3=>fy x
   | 6=>fy x
   | 8=>fy x
   | _=>[]) ?stab ?hd ?step ?fin
 case G=>
  refine⟨rfl,?_,?_,?_⟩;intro i hi;rcases qV hi with rfl|rfl|rfl|rfl|rfl|rfl|rfl|rfl|rfl|rfl|rfl <;> exact⟨_,rfl,rfl,rfl,by simp[Region.binds]⟩
  intro i j hi hj;rcases qV hi with rfl|rfl|rfl|rfl|rfl|rfl|rfl|rfl|rfl|rfl|rfl <;> rcases qV hj with rfl|rfl|rfl|rfl|rfl|rfl|rfl|rfl|rfl|rfl|rfl <;> simp
  refine⟨_,rfl,rfl,?_,i_⟩;intro i hi;rcases qV hi with rfl|rfl|rfl|rfl|rfl|rfl|rfl|rfl|rfl|rfl|rfl <;> simp[Region.binds]
 case stab=>intro i x W W' hR hO J;by_cases hi:i<11;rcases qV hi with rfl|rfl|rfl|rfl|rfl|rfl|rfl|rfl|rfl|rfl|rfl;obtain⟨g,rfl,I⟩:=hR;exact⟨g,rfl,bL I J⟩;exact hR;exact hR;obtain⟨g,rfl,I⟩:=hR;exact⟨g,rfl,bL I J⟩;exact hR;exact hR;obtain⟨g,rfl,I⟩:=hR;exact⟨g,rfl,bL I J⟩;exact hR;exact pH hR J;obtain⟨O,Y,Z,i,rfl,h1,h2,h3,h4,h5,h6⟩:=hR;exact⟨O,Y,Z,i,rfl,bL h1 J,bL h2 J,bL h3 J,pH h4 J,h5,λg I=>⟨(h6 g I).1,l_ (h6 g I).2 J.size⟩⟩;obtain⟨g,rfl,I,Jo⟩:=hR;exact⟨g,rfl,I,bL Jo J⟩;obtain⟨k,rfl⟩:∃k,i=k+11:=⟨i-11,o_⟩;obtain⟨g,rfl,I,Jo⟩:=hR;exact⟨g,rfl,I,bL Jo J⟩
 case hd=>intro i hi;rcases qV hi with rfl|rfl|rfl|rfl|rfl|rfl|rfl|rfl|rfl|rfl|rfl <;> simp
 case step=>
  intro i o hi H x W Jp Jx Jg J Ja Jb Jd;have t1:=Jg 1 (by intro j hj;rcases qV hj with rfl|rfl|rfl|rfl|rfl|rfl|rfl|rfl|rfl|rfl|rfl <;> decide);have t2:=Jg 2 (by intro j hj;rcases qV hj with rfl|rfl|rfl|rfl|rfl|rfl|rfl|rfl|rfl|rfl|rfl <;> decide);simp at t1 t2;rcases qV hi with rfl|rfl|rfl|rfl|rfl|rfl|rfl|rfl|rfl|rfl|rfl;simp at H;subst H;simp[Oper.wp,execOp,Oper.upon,Act.eval,Xh];exact⟨_,rfl,⟨_,rfl,heap_alloc_new _ _⟩,r_.alloc n_ _,by intro g I;simp[fy]at I;omega⟩
  ·simp at H;subst H;simp[Oper.wp,execOp,Oper.upon,Act.eval,t2,go_sem];exact⟨_,rfl,rfl,r_⟩
  ·simp at H;subst H;have U:x.tmps[16]?.getD undef=.pointer (some ⟨w.heap.size,1,none⟩):=(by have:=Ja ⟨1,.data⟩ i_;simpa[Act.eval]using this);have c1:=(J.cell (p:=⟨w.heap.size,1,none⟩) (by dsimp only;omega)).trans k2.1;simp[Oper.wp,execOp,Oper.upon,U,c1,go_sem];exact⟨_,rfl,rfl,r_⟩
  simp at H;subst H;have U:=Ja ⟨2,.data⟩ i_;simp at U;simp[Oper.wp,execOp,Oper.upon,U,Xe];exact⟨_,rfl,⟨_,rfl,heap_alloc_new _ _⟩,r_.alloc n_ _,by intro g I;simp[fy]at I;omega⟩
  ·simp at H;subst H;simp[Oper.wp,execOp,Oper.upon,Act.eval,t2,go_sem];exact⟨_,rfl,rfl,r_⟩
  ·simp at H;subst H;have U:x.tmps[19]?.getD undef=.pointer (some ⟨w.heap.size,2,none⟩):=(by have:=Ja ⟨4,.data⟩ i_;simpa[Act.eval]using this);have c1:=(J.cell (p:=⟨w.heap.size,2,none⟩) (by dsimp only;omega)).trans k2.2;simp[Oper.wp,execOp,Oper.upon,U,c1,go_sem];exact⟨_,rfl,rfl,r_⟩
  simp at H;subst H;have U:=Ja ⟨5,.data⟩ i_;simp at U;simp[Oper.wp,execOp,Oper.upon,U,Xg];exact⟨_,rfl,⟨_,rfl,heap_alloc_new _ _⟩,r_.alloc n_ _,by intro g I;simp[fy]at I;omega⟩
  ·simp at H;subst H;simp[Oper.wp,execOp,Oper.upon,Act.eval,t1,go_sem];exact⟨_,rfl,rfl,r_⟩
  ·simp at H;subst H;have U:x.tmps[22]?.getD undef=v:=(by have:=Ja ⟨7,.data⟩ i_;simpa[Act.eval]using this);simp[Oper.wp,execOp,Oper.upon,U,go_sem];refine(HB.out W J).mono ?_;rintro e w3 ⟨u,rfl,h1,h3⟩;exact⟨u,rfl,vL h1 J.size,h3,(oH h1).2⟩
  ·simp at H;subst H;have o1:=Jb ⟨0,.data⟩ i_;have o2:=Jb ⟨3,.data⟩ i_;have o3:=Jb ⟨6,.data⟩ i_;have o4:=Jb ⟨8,.data⟩ i_;have Jh:=Jd ⟨0,.data⟩ i_ ⟨3,.data⟩ i_ i_;have Je:=Jd ⟨0,.data⟩ i_ ⟨6,.data⟩ i_ i_;have Jn:=Jd ⟨0,.data⟩ i_ ⟨8,.data⟩ i_ i_;have Ji:=Jd ⟨3,.data⟩ i_ ⟨6,.data⟩ i_ i_;have Jk:=Jd ⟨3,.data⟩ i_ ⟨8,.data⟩ i_ i_;have Jl:=Jd ⟨6,.data⟩ i_ ⟨8,.data⟩ i_ i_;have⟨O,U,b1⟩:=Ja ⟨0,.data⟩ i_;have⟨Y,e2,b2⟩:=Ja ⟨3,.data⟩ i_;have⟨Z,e3,b3⟩:=Ja ⟨6,.data⟩ i_;have b4:W.ownsRow w2.heap.size 2 1 (x.eval (.tmp 23)) zs.length (zs.map (Value.int .i64)):=Ja ⟨8,.data⟩ i_;have⟨ai,ci,e4⟩:=(dy.of_own b4).1.len0;simp only[List.getD_cons_succ,List.getD_cons_zero]at U e2 e3 o1 o2 o3 o4 Jh Je Jn Ji Jk Jl;rw[U]at o1 Jh Je Jn;rw[e2]at o2 Jh Ji Jk;rw[e3]at o3 Je Ji Jl;rw[e4]at o4 Jn Jk Jl b4;have q4:=oH b4;simp only[fy,List.mem_singleton,forall_eq]at o1 o2 o3 Jh Je Ji;have Jr:∀g∈fy (.slice ai zs.length ci),g≠O:=λg I e=>Jn O (by simp[fy]) (e ▸ I);have Js:∀g∈fy (.slice ai zs.length ci),g≠Y:=λg I e=>Jk Y (by simp[fy]) (e ▸ I);have Jq:∀g∈fy (.slice ai zs.length ci),g≠Z:=λg I e=>Jl Z (by simp[fy]) (e ▸ I);simp only[Act.eval]at U e2 e3 e4;have Xk:x.tmps[15]?.getD undef=rV O 32 32:=(by simpa using U);have Jz:x.tmps[18]?.getD undef=rV Y d.toNat d.toNat:=(by simpa using e2);have Xb:x.tmps[21]?.getD undef=rV Z bd.toNat bd.toNat:=(by simpa using e3);have Xa:x.tmps[23]?.getD undef=.slice ai zs.length ci:=(by simpa using e4);simp[Oper.wp,execOp,Oper.upon,Xk,Jz,Xb,Xa,go_sem];refine⟨_,rfl,⟨O,Y,Z,_,rfl,b1,b2,b3,b4,?_,?_⟩,r_⟩
   ·exact⟨⟨Jh,Je,λh=>Jr O h rfl⟩,⟨Ji,λh=>Js Y h rfl⟩,λh=>Jq Z h rfl,q4.1⟩
   exact⟨o1,o2,o3,q4.2⟩
  simp at H;subst H;simp[Oper.wp,execOp,Oper.upon,go_sem];exact⟨_,rfl,⟨_,rfl,J.size,heap_alloc_new _ _⟩,r_.alloc n_ _⟩
 case fin=>
  intro o H x W hG;obtain⟨Jp,Jx,Jg,J,hrel,Yd,Xl⟩:=hG;simp at H;subst H;have⟨O,Y,Z,vi,e9,b1,b2,b3,b4,Jt,Jm⟩:=hrel 9 o_ trivial;have⟨X,Jv,Xj,b5⟩:=hrel 10 o_ trivial;obtain⟨tm,df⟩:=x;obtain⟨t0,t1,t2,t3,t4,t5,t6,t7,t8,t9,Xu,Xr,X_,Xp,Yf,Xx,Xn,Xv,Yg,Xy,Ye,Yc,Xz,Yh,Xq,Xm,Xo,Xs,Ya,rfl⟩:=Nj tm (by simpa using Jx);have F:∀t,(∀j,j<11->[15,16,17,18,19,20,21,22,23,24,5].getD j 0≠t)->_:=Jg;have f0:=Jg 4 (by intro j hj;rcases qV hj with rfl|rfl|rfl|rfl|rfl|rfl|rfl|rfl|rfl|rfl|rfl <;> decide);obtain⟨ai,ci,rfl⟩:=(dy.of_own b4).1.len0;simp[Act.eval]at e9 Jv f0 Jp;subst e9 Jv f0 Jp;rename_i hK;have c0:W.cell? ⟨X,0,none⟩=some nV:=by simp[World.cell?,b5]
  have c1:W.cell? ⟨X,1,none⟩=some (.int .u32 0):=by simp[World.cell?,b5]
  have c2:W.cell? ⟨X,2,none⟩=some nV:=by simp[World.cell?,b5]
  have c3:W.cell? ⟨X,3,none⟩=some nV:=by simp[World.cell?,b5]
  have c4:W.cell? ⟨X,4,none⟩=some nV:=by simp[World.cell?,b5]
  have c5:W.cell? ⟨X,5,none⟩=some nV:=by simp[World.cell?,b5]
  have c6:W.cell? ⟨X,6,none⟩=some (.int .u32 0):=by simp[World.cell?,b5]
  have c7:W.cell? ⟨X,7,none⟩=some (V 0):=by simp[World.cell?,b5]
  have f5:∀j,W.frozen? ⟨X,j,none⟩=false:=by intro j;simp[World.frozen?,b5]
  simp[Oper.wp,execOp,Oper.upon,go_sem,c0,c1,c2,c3,c4,c5,c6,c7,f5];have n1:¬O=X:=by intro e;rw[e,b5]at b1;simp at b1
  have n2:¬Y=X:=by intro e;rw[e,b5]at b2;simp at b2
  have n3:¬Z=X:=by intro e;rw[e,b5]at b3;simp at b3
  have n4:X∉fy (.slice ai zs.length ci):=λI=>by
   have:=Ew b4 I b5
   simp at this
  have L1:=pG b1;have L2:=pG b2;have L3:=pG b3;have Yi:W.cell? ⟨O,2,none⟩=some (.int .u32 0):=by simp[World.cell?,b1,madeCells,Nat.mod_one]
  have Xw:∀j,W.frozen? ⟨O,j,none⟩=false:=by intro j;simp[World.frozen?,b1]
  have m1:=(Jm O i_).1;have Xt:¬X=O:=λe=>n1 e.symm;have n6:¬w.heap.size+1=X:=o_
  have Yb:¬X=w.heap.size+1:=o_;have n7:¬w.heap.size+1=O:=o_;have HW:Hid _:=And.intro L1 (And.intro L2 (And.intro L3 b4));have HD:Hid _:=And.intro Jt Jm;have zz:W.heap[w.heap.size+1]? =some (.cells #[nV,.int .u32 0,nV,nV,nV,nV,.int .u32 0,V 0] 31):=(J.block _ o_).trans ((R2.block _ o_).trans (by have h:=heap_alloc_new (w.alloc (.cells #[.slice a Jc cap,V d,V bd] 47)) (.cells #[nV,.int .u32 0,nV,nV,nV,nV,.int .u32 0,V 0] 31);simpa only[World.size_alloc]using h));have z0:W.cell? ⟨w.heap.size+1,0,none⟩=some nV:=by simp[World.cell?,zz]
  have z1:W.cell? ⟨w.heap.size+1,1,none⟩=some (.int .u32 0):=by simp[World.cell?,zz]
  have z2:W.cell? ⟨w.heap.size+1,2,none⟩=some nV:=by simp[World.cell?,zz]
  have z3:W.cell? ⟨w.heap.size+1,3,none⟩=some nV:=by simp[World.cell?,zz]
  have z4:W.cell? ⟨w.heap.size+1,4,none⟩=some nV:=by simp[World.cell?,zz]
  have z5:W.cell? ⟨w.heap.size+1,5,none⟩=some nV:=by simp[World.cell?,zz]
  have z6:W.cell? ⟨w.heap.size+1,6,none⟩=some (.int .u32 0):=by simp[World.cell?,zz]
  have z7:W.cell? ⟨w.heap.size+1,7,none⟩=some (V 0):=by simp[World.cell?,zz]
  have fz:∀j,W.frozen? ⟨w.heap.size+1,j,none⟩=false:=by intro j;simp[World.frozen?,zz]
  have BW:Bl w W:=B2.trans (J.mono o_);refine hK _ _ ?_;go_wp2;refine bodyPost_ret (v:=.agg #[rV O 32 32,.int .u32 4096,rV Y d.toNat d.toNat,rV Z bd.toNat bd.toNat,.slice ai zs.length ci,nV,.int .u32 1073741824,V 0])
   (by simp[results,results28,go_sem,z0,z1,z2,z3,z4,z5,z6,z7]) rfl ?_
  have⟨L1,L2,L3,b4⟩:=HW.out;have⟨Jt,Jm⟩:=HD.out;refine⟨_,rfl,?_⟩;rw[show j7 Jc d bd zs=⟨regs0,4096,List.replicate d.toNat 0,List.replicate bd.toNat 0,zs,[],1073741824,0⟩ by unfold j7;rw[hv,H];rfl];exact yF _ _ _ _ _ _ _ _ _ _ _ _ _ _ _ _ L1 L2 L3 b4 Jt Jm n1 n2 n3 n4 o_ o_ Xj BW
end Go.Proofs.YtngnoopnloojjaaGreatDoor
namespace Go.Proofs.YtngnoopnloojjaaGreatDoor
open Go.Value Go.World List
open Go.Proofs.Tryz
set_option linter.all false
set_option maxRecDepth 100000
set_option maxHeartbeats 0
section
open Go.RowKit
variable{W:AT}{B e size n:Nat}{v:BY}{xs:List BY}
def lW(op a b:Int):Int:=
 if op=12\/op=21 then(a+b)%4294967296 else if op=22 then(a-b)%4294967296 else if op=23 then a*2 ^ (b%32).toNat%4294967296
 else if op=24 then(if wrap32 a<wrap32 b then 1 else 0)else if op=14\/op=25 then(if a<b then 1 else 0)
 else if op=15\/op=26 then bits .xor .u32 a b else if op=28 then wrap32 a / 2 ^ (b%32).toNat%4294967296
 else if op=29 then bits .or .u32 a b else if op=30 then bits .and .u32 a b else if op=31 then a*b%4294967296
 else if op=32 then(if wrap32 b=0 then 4294967295 else wrap32 ((wrap32 a).tdiv (wrap32 b))%4294967296)
 else(if wrap32 b=0 then wrap32 a%4294967296 else(wrap32 a).tmod (wrap32 b)%4294967296)
def vM(op a b r:Int):Prop:=(0<=r/\r<=4294967295)/\(∀w,Calls prog 102 #[V op,.int .u32 a,.int .u32 b] w λe w'=>e=rW (.int .u32 r)/\w'=w)/\True
def fJ{S:DO}{H:AT}(h:W.ownsRow B e size v n xs)(I:aA S W H)(J:∀g∈fy v,¬S g):H.ownsRow B e size v n xs:=by refine⟨h.1,h.2.imp id ?_⟩;rintro⟨g,Jb,Ja,rfl,h2,h3,h4⟩;exact⟨g,Jb,Ja,rfl,h2,(I.block g (Array.getElem?_eq_some_iff.mp h3).1 (J g (by simp[fy]))).trans h3,h4⟩
def mM(h:W.ownsRow B e size v n xs):∃a c,v=.slice a n c:=by rcases h.2 with⟨rfl,rfl⟩|⟨g,Jb,Ja,rfl,_⟩;exact⟨_,_,rfl⟩;exact⟨_,_,rfl⟩
def iV(x:Int):0<=x%4294967296/\x%4294967296<=4294967295:=by omega
def Ex(op:BinOp)(a b:Int):0<=bits op .u32 a b/\bits op .u32 a b<=4294967295:=by have h:=wf_bits op .u32 a b;have:=bounds_u32 h;omega
def Ey(a:Int):wrap32 (wrap32 a)=wrap32 a:=by unfold wrap32;omega
def Ez(a:Int):wrap64 (wrap32 a)=wrap32 a:=by unfold wrap32 wrap64;omega
def yH:List Int:=[12,14,15,21,22,23,24,25,26,28,29,30,31,32,33]
def EC{op:Int}(Ja:op∈yH)(a b:Int)(U:0<=a/\a<=4294967295)(X:0<=b/\b<=4294967295):vM op a b (lW op a b):=by
 have I:=Ey a;have O:=Ey b;have H:=Ez a;have J:=Ez b;simp only[yH,mem_cons,not_mem_nil,or_false]at Ja;rcases Ja with rfl|rfl|rfl|rfl|rfl|rfl|rfl|rfl|rfl|rfl|rfl|rfl|rfl|rfl|rfl;all_goals simp only[lW,Int.reduceEq,or_self,or_true,true_or,if_true,if_false,or_false,false_or]
 all_goals (try split)
 all_goals refine⟨by first|omega|exact iV _|exact Ex _ _ _,λw=>?_,trivial⟩
 all_goals go_in
 all_goals go_wp2
 all_goals go_ret
 all_goals exact⟨rfl,rfl⟩
end
section
open Go.RowKit
variable{g C:Nat}{w w':AT}{L:List Nat}{c:Mc}
def az(w:World)(C:Nat)(L:List Nat)(c:Mc):Prop:=
 ∃r d s i o,Bx w C r (.int .u32 c.pc) d s i o (.int .u32 c.low) (V c.st)/\dy .u32 w r c.regs/\dy .u8 w d c.data/\dy .u8 w s c.stack/\dy .i64 w i c.inn /\
  w.ownsRow 0 2 1 o c.out.length (c.out.map (Value.int .i64))/\(dU d/\dU s/\dU i)/\L=C::(blk r++blk d++blk s++blk i++fy o)/\L.Nodup
structure Good (c:Mc):Prop where
 r32:c.regs.length=32
 ru:∀j,j<32->0<=c.regs.getD j 0/\c.regs.getD j 0<=4294967295
 r0:c.regs.getD 0 0=0
 pcu:0<=c.pc/\c.pc<=4294967295
 lou:0<=c.low/\c.low<=4294967295
 dl:c.data.length<=65536
 du:∀j,j<c.data.length->0<=c.data.getD j 0/\c.data.getD j 0<=255
 sl:c.stack.length<=1000000
 su:∀j,j<c.stack.length->0<=c.stack.getD j 0/\c.stack.getD j 0<=255
 il:c.inn.length<=1000
 iu:∀j,j<c.inn.length -> -2147483648<=c.inn.getD j 0/\c.inn.getD j 0<=2147483647
 ol:c.out.length<=1000000
 ou:∀j,j<c.out.length -> -2147483648<=c.out.getD j 0/\c.out.getD j 0<=2147483647
 st:0<=c.st/\c.st<=2
def dR(c:Mc)(rd v:Int):Mc:=if rd=0 then c else {c with regs:=c.regs.set rd.toNat v}
def mN{A B:List Nat}(h:(A++B).Nodup)(H:g∈A):g∉B:=by rw[nodup_append]at h;exact λhb=>h.2.2 g H g hb rfl
def aZ{k:IntKind}{v:BY}{zs:List Int}(h:dy k w v zs)(H:0<zs.length):∃g off cap,v=.slice (some ⟨g,off,none⟩) zs.length cap/\Row k w g off zs/\blk v=[g]:=by obtain⟨a,cap,rfl,J⟩:=h;obtain⟨g,off,rfl,I⟩:=J H;exact⟨g,off,cap,rfl,I,fG _ _ _ H⟩
theorem az.regs{off cap:Nat}{d s i o:Value}{I:List Int} 
  (J:Bx w C (.slice (some ⟨g,off,none⟩) c.regs.length cap) (.int .u32 c.pc) d s i o (.int .u32 c.low) (V c.st)) (hd:dy .u8 w d c.data) (hs:dy .u8 w s c.stack) (hi:dy .i64 w i c.inn)
  (ho:w.ownsRow 0 2 1 o c.out.length (c.out.map (Value.int .i64))) (O:L=C::(blk (.slice (some ⟨g,off,none⟩) c.regs.length cap)++blk d++blk s++blk i++fy o)) (Jb:L.Nodup) (h:dU d/\dU s/\dU i) (hn:0<c.regs.length)
  (H:aA (λk=>k=g) w w') (hl:I.length=c.regs.length) (hr:Row .u32 w' g off I):az w' C L {c with regs:=I}:=by
 have Jd:=fG ⟨g,off,none⟩ c.regs.length cap hn;have Ja:=Jb;rw[O,Jd]at Ja;simp only[List.append_assoc,List.cons_append,List.nil_append,List.nodup_cons,List.mem_cons,List.mem_append,not_or]at Ja;obtain⟨⟨Jc,_⟩,⟨Y,X,Z,U⟩,_⟩:=Ja;refine⟨.slice (some ⟨g,off,none⟩) c.regs.length cap,d,s,i,o,J.keep (H.block C J.lt Jc),?_,hd.tcs H λk h e=>Y (e ▸ h),hs.tcs H λk h e=>X (e ▸ h),hi.tcs H λk h e=>Z (e ▸ h),fJ ho H λk h e=>U (e ▸ h),h,O,Jb⟩;exact⟨_,cap,by simp[hl],λ_=>⟨g,off,rfl,hr⟩⟩
theorem yI(C:Nat)(L:List Nat)(c:Mc)(rd v:Int)(w:World)(hg:c.regs.length=32)(Jf:1<=rd/\rd<=31)(h:az w C L c):
  Calls prog 96 #[pV C,V rd,.int .u32 v] w λe w'=>e=rW (.tuple #[])/\az w' C L (dR c rd v)/\aA (λg=>g∈L) w w':=by
 obtain⟨r,d,s,i,o,I,hr,O,Y,Z,X,U,J,Jc⟩:=h;obtain⟨g,Ja,Je,rfl,H,Jb⟩:=aZ hr o_;obtain⟨k,rfl⟩:∃k:Nat,rd=k:=⟨rd.toNat,o_⟩;have Jd:c.regs.length=32:=hg;have c0:=I.c0;rw[Jd]at c0;have ck:=H.cell k o_;have fk:=H.froz (Ja+k);have HC:Hid _:=And.intro I (And.intro H (And.intro O (And.intro Y (And.intro Z (And.intro X (And.intro J (And.intro Jc (And.intro Jb U))))))));go_in;go_wp2
 go_end0
 have⟨I,H,O,Y,Z,X,J,Jc,Jb,U⟩:=HC.out;refine⟨rfl,?_,?_⟩
 rw[show dR c (k:Int) v={c with regs:=c.regs.set k v} by unfold dR;rw[if_neg o_];rfl];exact az.regs I O Y Z X J Jc U o_ ((aA.refl (λx=>x=g) w).setCell (p:=⟨g,Ja+k,none⟩) rfl _) i_ (H.set o_);refine(aA.refl (λx=>x∈L) w).setCell (p:=⟨g,Ja+k,none⟩) ?_ _;show g∈L;rw[J,Jb];simp
def BP(C:Nat)(L:List Nat)(c:Mc)(v:Int)(w:AT)(h:az w C L c):
  Calls prog 96 #[pV C,V 0,.int .u32 v] w λe w'=>e=rW (.tuple #[])/\az w' C L (dR c 0 v)/\aA (λg=>g∈L) w w':=by
 go_in;go_wp2
 go_end0
 exact⟨rfl,h,aA.refl _ _⟩
def bH(C:Nat)(L:List Nat)(c:Mc)(rd v:Int)(w:AT)(H:c.regs.length=32)(Ja:0<=rd/\rd<=31)(h:az w C L c):
  Calls prog 96 #[pV C,V rd,.int .u32 v] w λe w'=>e=rW (.tuple #[])/\az w' C L (dR c rd v)/\aA (λg=>g∈L) w w':=by
 by_cases h0:rd=0;subst h0;exact BP C L c v w h;exact yI C L c rd v w H o_ h
theorem az.lt(h:az w C L c):∀g∈L,g<w.heap.size:=by obtain⟨r,d,s,i,o,O,J,H,U,X,I,Y,rfl,Ja⟩:=h;intro g hg;simp only[List.mem_cons,List.mem_append]at hg;rcases hg with rfl|(((hg|hg)|hg)|hg)|hg;exact O.lt;exact J.lt g hg;exact H.lt g hg;exact U.lt g hg;exact X.lt g hg;exact((oH I).2 g hg).2
theorem az.tcs{S:Nat->Prop}(h:az w C L c)(I:aA S w w')(H:∀g∈L,¬S g):az w' C L c:=by obtain⟨r,d,s,i,o,J,Y,O,Z,hi,X,U,rfl,Ja⟩:=h;simp only[List.mem_cons,List.mem_append]at H;exact⟨r,d,s,i,o,J.keep (I.block C J.lt (H C (.inl rfl))),Y.tcs I λg hg=>H g (.inr (.inl (.inl (.inl (.inl hg))))),O.tcs I λg hg=>H g (.inr (.inl (.inl (.inl (.inr hg))))),Z.tcs I λg hg=>H g (.inr (.inl (.inl (.inr hg)))),hi.tcs I λg hg=>H g (.inr (.inl (.inr hg))),fJ X I λg hg=>H g (.inr (.inr hg)),U,rfl,Ja⟩
def az.below(h:az w C L c)(hb:Bl w w'):az w' C L c:=h.tcs (Below.tcs (S:=λ_=>False) hb) (λ_ _ f=>f)
theorem az.pc(h:az w C L c)(x:Int):az (w.setCell ⟨C,1,none⟩ (.int .u32 x)) C L {c with pc:=x}:=by obtain⟨r,d,s,i,o,U,hr,J,hs,hi,ho,Z,rfl,Ja⟩:=h;have H:=(aA.refl (λk=>k=C) w).setCell (p:=⟨C,1,none⟩) rfl (.int .u32 x);have I:=(List.nodup_cons.mp Ja).1;simp only[List.mem_append,not_or]at I;obtain⟨⟨⟨⟨n1,n2⟩,X⟩,Y⟩,O⟩:=I;exact⟨r,d,s,i,o,U.s1 _,hr.tcs H λg hg e=>n1 (e ▸ hg),J.tcs H λg hg e=>n2 (e ▸ hg),hs.tcs H λg hg e=>X (e ▸ hg),hi.tcs H λg hg e=>Y (e ▸ hg),fJ ho H λg hg e=>O (e ▸ hg),Z,rfl,Ja⟩
theorem az.low(h:az w C L c)(x:Int):az (w.setCell ⟨C,6,none⟩ (.int .u32 x)) C L {c with low:=x}:=by obtain⟨r,d,s,i,o,U,hr,J,hs,hi,ho,Z,rfl,Ja⟩:=h;have H:=(aA.refl (λk=>k=C) w).setCell (p:=⟨C,6,none⟩) rfl (.int .u32 x);have I:=(List.nodup_cons.mp Ja).1;simp only[List.mem_append,not_or]at I;obtain⟨⟨⟨⟨n1,n2⟩,X⟩,Y⟩,O⟩:=I;exact⟨r,d,s,i,o,U.s6 _,hr.tcs H λg hg e=>n1 (e ▸ hg),J.tcs H λg hg e=>n2 (e ▸ hg),hs.tcs H λg hg e=>X (e ▸ hg),hi.tcs H λg hg e=>Y (e ▸ hg),fJ ho H λg hg e=>O (e ▸ hg),Z,rfl,Ja⟩
theorem az.stt(h:az w C L c)(x:Int):az (w.setCell ⟨C,7,none⟩ (V x)) C L {c with st:=x}:=by obtain⟨r,d,s,i,o,U,hr,J,hs,hi,ho,Z,rfl,Ja⟩:=h;have H:=(aA.refl (λk=>k=C) w).setCell (p:=⟨C,7,none⟩) rfl (V x);have I:=(List.nodup_cons.mp Ja).1;simp only[List.mem_append,not_or]at I;obtain⟨⟨⟨⟨n1,n2⟩,X⟩,Y⟩,O⟩:=I;exact⟨r,d,s,i,o,U.s7 _,hr.tcs H λg hg e=>n1 (e ▸ hg),J.tcs H λg hg e=>n2 (e ▸ hg),hs.tcs H λg hg e=>X (e ▸ hg),hi.tcs H λg hg e=>Y (e ▸ hg),fJ ho H λg hg e=>O (e ▸ hg),Z,rfl,Ja⟩
theorem az.mem(h:az w C L c):C∈L:=by obtain⟨r,d,s,i,o,U,O,H,X,Y,J,I,rfl,Ja⟩:=h;simp
end
section
open Go.RowKit
def P5(p q r s:Int)(hp:0<=p/\p<=255)(hq:0<=q/\q<=255)(hr:0<=r/\r<=255)(hs:0<=s/\s<=255):
  bits .or .u32 (bits .or .u32 (bits .or .u32 p (q*256)) (r*65536)) (s*16777216)=p+q*256+r*65536+s*16777216:=by
 obtain⟨P,rfl⟩:=Int.eq_ofNat_of_zero_le hp.1;obtain⟨Q,rfl⟩:=Int.eq_ofNat_of_zero_le hq.1;obtain⟨R,rfl⟩:=Int.eq_ofNat_of_zero_le hr.1;obtain⟨S,rfl⟩:=Int.eq_ofNat_of_zero_le hs.1;have J:P<4294967296:=o_;have O:((Q:Int)*256:Int)=((2 ^ 8*Q:Nat):Int):=o_;have I:2 ^ 8*Q<4294967296:=o_;have U:((R:Int)*65536:Int)=((2 ^ 16*R:Nat):Int):=o_;have X:2 ^ 16*R<4294967296:=o_;have l3:((S:Int)*16777216:Int)=((2 ^ 24*S:Nat):Int):=o_;have Z:2 ^ 24*S<4294967296:=o_;rw[O,U,l3];have h:=jT P (2 ^ 8*Q) J I;rw[h.1];have H:=jT _ (2 ^ 16*R) h.2 X;rw[H.1];have Y:=jT _ (2 ^ 24*S) H.2 Z;rw[Y.1];have e:(((P ||| (2 ^ 8*Q)) ||| (2 ^ 16*R)) ||| (2 ^ 24*S))=(2 ^ 24*S ||| (2 ^ 16*R ||| (2 ^ 8*Q ||| P))):=by ac_rfl
 rw[e,or_hi 8 Q _ o_,or_hi 16 R _ o_,or_hi 24 S _ o_];omega
def vN(g off n cap:Nat)(o:Nat)(w:AT)(O:n<=1048576)(J:n<=cap)(I:o+4<=n):
  Calls prog 152 #[.slice (some ⟨g,off,none⟩) n cap,.int .u32 o] w λe w'=>e=rW (.slice (some ⟨g,off+o,none⟩) 4 (cap-o))/\w'=w:=by
 have h4:((o:Int)+4)%4294967296=((o+4:Nat):Int):=o_;have Ja:((o+4:Nat):Int)<=(cap:Int):=o_;have H:o+4-o=4:=o_;go_in;go_wp2;go_ret;refine⟨?_,rfl⟩;show Ending.returned (.slice (some ⟨g,off+o,none⟩) (o+4-o) (cap-o))=_;rw[H]
def Hx(a:Option Addr)(n cap:Nat)(o:Int)(w:AT)(J:n<=1048576)(I:0<=o/\o<=4294967295)(H:(n:Int)<o+4):
  Calls prog 152 #[.slice a n cap,.int .u32 o] w λe w'=>e=rW nV/\w'=w:=by
 go_in;go_wp2;go_ret;exact⟨rfl,rfl⟩
def vO(g off cap:Nat)(p q r s:Int)(w:AT)(H:0<=p/\p<=255)(I:0<=q/\q<=255)(J:0<=r/\r<=255)(O:0<=s/\s<=255)
  (Y:Bo w g off (.int .u8 p)) (Z:Bo w g (off+1) (.int .u8 q)) (U:Bo w g (off+2) (.int .u8 r)) (X:Bo w g (off+3) (.int .u8 s)):
  Calls prog 99 #[.slice (some ⟨g,off,none⟩) 4 cap] w λe w'=>e=rW (.int .u32 (p+q*256+r*65536+s*16777216))/\∃n,w'=w.drewN n:=by
 go_in;go_wp2
 go_quiet (fail)
 go_wp2;go_ret;refine⟨?_,_,rfl⟩;rw[<-P5 p q r s H I J O];rfl
def sx(g off cap:Nat)(v:Int)(p q r s:BY)(w:AT)(J:0<=v/\v<=4294967295)
  (U:Bo w g off p) (X:Bo w g (off+1) q) (I:Bo w g (off+2) r) (O:Bo w g (off+3) s) (H:∀j,By w g j):
  Calls prog 100 #[.slice (some ⟨g,off,none⟩) 4 cap,.int .u32 v] w λe w'=>e=rW (.tuple #[])/\w'=(((w.setCell ⟨g,off,none⟩ (.int .u8 (v%256))).setCell ⟨g,off+1,none⟩ (.int .u8 (v / 256%256))).setCell ⟨g,off+2,none⟩ (.int .u8 (v / 65536%256))).setCell ⟨g,off+3,none⟩ (.int .u8 (v / 16777216)):=by
 go_in;go_wp2;refine wp_loop_rounds 5 ?_;rw[rounds_succ];go_wp2;rw[rounds_succ];go_wp2;rw[rounds_succ];go_wp2;rw[rounds_succ];go_wp2;rw[rounds_succ];go_wp2
 go_end0
 exact⟨rfl,rfl⟩
def AB(a:Option Addr)(l c:Nat)(w:AT):(binOp .neq 22 (.slice a l c) nV).run prog w=.ok (.bool (!a.isNone)) w:=run_neq_slice_nil_any w 22 5 a l c 0 0 underlying22
end
section
open Go.RowKit
def gN(c:Mc)(rd v:Int):(dR c rd v).st=c.st:=by unfold dR;split <;> rfl
def gO(c:Mc)(rd v:Int):(dR c rd v).pc=c.pc:=by unfold dR;split <;> rfl
theorem P6(C:Nat)(L:List Nat)(c:Mc)(op r:Int)(rd s1 s2:Nat)(im:Int)(w:World)(J:Good c)(h:az w C L c)(Jo:21<=op/\op<=33)(Jp:rd<32)(h1:s1<32)(h2:s2<32)
  (Jg:c.st=0) (hA:vM op (c.regs.getD s1 0) (c.regs.getD s2 0) r):
  Calls prog 59 #[pV C,.agg #[V op,V rd,V s1,V s2,V im]] w λe w'=>e=rW (.bool true)/\az w' C L {dR c rd r with pc:=(c.pc+4)%4294967296}/\aA (λg=>g∈L) w w':=by
 have T0:=(aA.refl (λg=>g∈L) w).alloc (.cells #[V op,V rd,V s1,V s2,V im] 84);have O:=h.below ((Below.refl w.heap.size w).alloc n_ (.cells #[V op,V rd,V s1,V s2,V im] 84));have⟨rv,d,s,i,o,U,hr,hd,hs,hi,ho,hk,hL,Jm⟩:=id O;obtain⟨g,Jk,Jj,rfl,Z,Jl⟩:=aZ hr (by have:=J.r32;omega);have Jf:=J.r32;have c0:=U.c0;rw[Jf]at c0;have c1:=U.c1;have Jn:=Z.cell s1 o_;have Jh:=Z.cell s2 o_;have Y:∀ {W:World},aA (λg=>g∈L) (w.alloc (.cells #[V op,V rd,V s1,V s2,V im] 84)) W->W.cell? ⟨w.heap.size,0,none⟩=some (V op)/\W.cell? ⟨w.heap.size,1,none⟩=some (V rd):=by intro W H;have Jd:=H.block w.heap.size i_ (λhm=>by have:=h.lt _ hm;omega);constructor <;> (rw[c_ (w:=w.alloc _) Jd];simp)
 have HS:Hid (∀W v,Below (w.alloc (.cells #[V op,V rd,V s1,V s2,V im] 84)).heap.size (w.alloc (.cells #[V op,V rd,V s1,V s2,V im] 84)) W ->
   Calls prog 96 #[pV C,V rd,.int .u32 v] W λe w'=>e=rW (.tuple #[])/\az w' C L (dR c rd v)/\aA (λg=>g∈L) w w'/\(w'.cell? ⟨w.heap.size,0,none⟩=some (V op)/\w'.cell? ⟨w.heap.size,1,none⟩=some (V rd))):=by
  intro W v H;refine(bH C L c rd v W J.r32 o_ (O.below H)).mono ?_;rintro e w' ⟨rfl,hc,ht⟩;have X:=(Below.tcs (S:=λg=>g∈L) H).trans ht;exact⟨rfl,hc,T0.trans X,Y X⟩
 have Jc:=Y (aA.refl _ _);have HI:=ah hA;generalize hx1:c.regs.getD s1 0=a at*;generalize hx2:c.regs.getD s2 0=b at*;go_in;go_wp2_with fail;go_quiet (fail);go_wp2_with fail;go_region_held3 (λW=>W.cell? ⟨w.heap.size,0,none⟩=some (V op)/\W.cell? ⟨w.heap.size,1,none⟩=some (V rd)) (first|exact Jc|assumption|(go_simp;done))
  (first
  | (go_at_call 102;refine(HI.out.2.1 _).mono ?_;rintro e w1 ⟨rfl,rfl⟩)
  | (go_at_call 96;refine(HS.out _ _ ?_).mono ?_;(first|exact below_drewN r_ _|exact(below_drewN r_ _).drew|exact r_.drew|exact r_);rintro e w2 ⟨rfl,Jb,Je,x2⟩))
 have⟨rv,d2,Ji,i2,o2,Ja,_,_,_,_,_,_,_⟩:=id Jb;have q1:=Ja.c1;have q7:=Ja.c7;have qf:=Ja.fz 1;rw[gO]at q1;rw[gN,Jg]at q7;have I:Hid _:=And.intro Jb Je;go_wp2;go_ret;exact⟨rfl,I.out.1.pc _,I.out.2.setCell I.out.1.mem _⟩
end
section
open Go.RowKit
theorem Nk(C g off n cap o:Nat)(ad:Option Addr)(H I:Nat)(w:AT)(h4:((1073741824:Int)-n+o)%4=0)(Z:w.cell? ⟨C,2,none⟩=some (.slice ad H I))(Jb:H<=1048576)
  (U:w.cell? ⟨C,3,none⟩=some (.slice (some ⟨g,off,none⟩) n cap)) (hn:n<=1000000) (X:n<=cap) (O:o+4<=n):
  Calls prog 98 #[pV C,.int .u32 (1073741824-n+o)] w λe w'=>e=rW (.slice (some ⟨g,off+o,none⟩) 4 (cap-o))/\∃n,w'=w.drewN n:=by
 have Ja:=AB none 0 0;simp only[Option.isNone_none,Bool.not_true]at Ja;go_in;go_wp2_with fail;refine(Hx ad H I _ _ Jb ?_ ?_).mono ?_;omega;omega;rintro e w1 ⟨rfl,rfl⟩;have Y:((1073741824:Int)-n+o-(1073741824-n))=o:=o_;have J:=ah λ(W:AT) (y:Int) (hy:y=o)=>hy ▸ vN g off n cap o W o_ X O;go_wp2_with fail;go_region_held3 (λW=>W.cell? ⟨C,3,none⟩=some (.slice (some ⟨g,off,none⟩) n cap)) (first|exact U|assumption|(go_simp;done))
  (first
  | (go_at_call 152;refine(J.o _ _ ?_).mono ?_;(simp only[IntKind.wrap_u32];omega);rintro e w2 ⟨rfl,rfl⟩))
 go_wp2;go_ret;exact⟨rfl,1,rfl⟩
end
section
open Go.RowKit
theorem Hz(C:Nat)(L:List Nat)(c:Mc)(w:World)(O:Good c)(h:az w C L c)(Jd:c.regs.getD 17 0=10):
  Calls prog 101 #[pV C] w λe w'=>e=rW (.bool true)/\az w' C L {c with st:=1}/\aA (λg=>g∈L) w w':=by
 have⟨rv,d,s,i,o,H,U,X,hs,hi,ho,Y,Z,Ji⟩:=id h;obtain⟨g,Jb,Jg,rfl,I,Jh⟩:=aZ U (by have:=O.r32;omega);have Jc:=O.r32;have c0:=H.c0;rw[Jc]at c0;have Ja:=I.cell 17 o_;have Jf:=I.cell 10 o_;have Je:=I.froz (Jb+10);have f7:=H.fz 7;have c7:=H.c7;rw[Jd]at Ja;have J:=ah h;go_in;go_wp2;go_ret;exact⟨rfl,J.out.stt 1,(aA.refl _ _).setCell J.out.mem _⟩
end
section
open Go.RowKit
theorem P7(C:Nat)(L:List Nat)(c:Mc) (rd s1 s2:Nat)(im:Int)(w:World)(J:Good c)(h:az w C L c) (Jo:rd<32)(h1:s1<32)(h2:s2<32)
  (Jf:c.st=0)  :
  Calls prog 59 #[pV C,.agg #[V 2,V rd,V s1,V s2,V im]] w λe w'=>e=rW (.bool true)/\az w' C L {dR c rd ((c.pc+4)%4294967296)with pc:=(c.pc+im)%4294967296}/\aA (λg=>g∈L) w w':=by
 have T0:=(aA.refl (λg=>g∈L) w).alloc (.cells #[V 2,V rd,V s1,V s2,V im] 84);have O:=h.below ((Below.refl w.heap.size w).alloc n_ (.cells #[V 2,V rd,V s1,V s2,V im] 84));have⟨rv,d,s,i,o,U,hr,hd,hs,hi,ho,hk,hL,Jm⟩:=id O;obtain⟨g,Jk,Ji,rfl,Z,Jl⟩:=aZ hr (by have:=J.r32;omega);have Je:=J.r32;have c0:=U.c0;rw[Je]at c0;have c1:=U.c1;have Jn:=Z.cell s1 o_;have Jg:=Z.cell s2 o_;have Y:∀ {W:World},aA (λg=>g∈L) (w.alloc (.cells #[V 2,V rd,V s1,V s2,V im] 84)) W->W.cell? ⟨w.heap.size,0,none⟩=some (V 2)/\W.cell? ⟨w.heap.size,1,none⟩=some (V rd):=by intro W H;have Jc:=H.block w.heap.size i_ (λhm=>by have:=h.lt _ hm;omega);constructor <;> (rw[c_ (w:=w.alloc _) Jc];simp)
 have HS:Hid (∀W v,Below (w.alloc (.cells #[V 2,V rd,V s1,V s2,V im] 84)).heap.size (w.alloc (.cells #[V 2,V rd,V s1,V s2,V im] 84)) W ->
   Calls prog 96 #[pV C,V rd,.int .u32 v] W λe w'=>e=rW (.tuple #[])/\az w' C L (dR c rd v)/\aA (λg=>g∈L) w w'/\(w'.cell? ⟨w.heap.size,0,none⟩=some (V 2)/\w'.cell? ⟨w.heap.size,1,none⟩=some (V rd))):=by
  intro W v H;refine(bH C L c rd v W J.r32 o_ (O.below H)).mono ?_;rintro e w' ⟨rfl,hc,ht⟩;have X:=(Below.tcs (S:=λg=>g∈L) H).trans ht;exact⟨rfl,hc,T0.trans X,Y X⟩
 have Jj:=Y (aA.refl _ _);generalize hx1:c.regs.getD s1 0=a at*;generalize hx2:c.regs.getD s2 0=b at*;go_in;go_wp2_with fail;go_quiet (fail);go_wp2_with fail;refine(HS.out _ _ ?_).mono ?_;exact below_drewN r_ _;rintro e w2 ⟨rfl,Jb,Jd,x2⟩;have⟨rv,d2,Jh,i2,o2,Ja,_,_,_,_,_,_,_⟩:=id Jb;have q1:=Ja.c1;have q7:=Ja.c7;have qf:=Ja.fz 1;rw[gO]at q1;rw[gN,Jf]at q7;have I:Hid _:=And.intro Jb Jd;go_wp2;go_ret;exact⟨rfl,I.out.1.pc _,I.out.2.setCell I.out.1.mem _⟩
theorem Pb(C:Nat)(L:List Nat)(c:Mc) (rd s1 s2:Nat)(im:Int)(w:World)(J:Good c)(h:az w C L c) (Jo:rd<32)(h1:s1<32)(h2:s2<32)
  (Jf:c.st=0)  :
  Calls prog 59 #[pV C,.agg #[V 3,V rd,V s1,V s2,V im]] w λe w'=>e=rW (.bool true)/\az w' C L {dR c rd ((c.pc+4)%4294967296)with pc:=bits .andNot .u32 ((c.regs.getD s1 0+im)%4294967296) 1}/\aA (λg=>g∈L) w w':=by
 have T0:=(aA.refl (λg=>g∈L) w).alloc (.cells #[V 3,V rd,V s1,V s2,V im] 84);have O:=h.below ((Below.refl w.heap.size w).alloc n_ (.cells #[V 3,V rd,V s1,V s2,V im] 84));have⟨rv,d,s,i,o,U,hr,hd,hs,hi,ho,hk,hL,Jm⟩:=id O;obtain⟨g,Jk,Ji,rfl,Z,Jl⟩:=aZ hr (by have:=J.r32;omega);have Je:=J.r32;have c0:=U.c0;rw[Je]at c0;have c1:=U.c1;have Jn:=Z.cell s1 o_;have Jg:=Z.cell s2 o_;have Y:∀ {W:World},aA (λg=>g∈L) (w.alloc (.cells #[V 3,V rd,V s1,V s2,V im] 84)) W->W.cell? ⟨w.heap.size,0,none⟩=some (V 3)/\W.cell? ⟨w.heap.size,1,none⟩=some (V rd):=by intro W H;have Jc:=H.block w.heap.size i_ (λhm=>by have:=h.lt _ hm;omega);constructor <;> (rw[c_ (w:=w.alloc _) Jc];simp)
 have HS:Hid (∀W v,Below (w.alloc (.cells #[V 3,V rd,V s1,V s2,V im] 84)).heap.size (w.alloc (.cells #[V 3,V rd,V s1,V s2,V im] 84)) W ->
   Calls prog 96 #[pV C,V rd,.int .u32 v] W λe w'=>e=rW (.tuple #[])/\az w' C L (dR c rd v)/\aA (λg=>g∈L) w w'/\(w'.cell? ⟨w.heap.size,0,none⟩=some (V 3)/\w'.cell? ⟨w.heap.size,1,none⟩=some (V rd))):=by
  intro W v H;refine(bH C L c rd v W J.r32 o_ (O.below H)).mono ?_;rintro e w' ⟨rfl,hc,ht⟩;have X:=(Below.tcs (S:=λg=>g∈L) H).trans ht;exact⟨rfl,hc,T0.trans X,Y X⟩
 have Jj:=Y (aA.refl _ _);generalize hx1:c.regs.getD s1 0=a at*;generalize hx2:c.regs.getD s2 0=b at*;go_in;go_wp2_with fail;go_quiet (fail);go_wp2_with fail;refine(HS.out _ _ ?_).mono ?_;exact below_drewN r_ _;rintro e w2 ⟨rfl,Jb,Jd,x2⟩;have⟨rv,d2,Jh,i2,o2,Ja,_,_,_,_,_,_,_⟩:=id Jb;have q1:=Ja.c1;have q7:=Ja.c7;have qf:=Ja.fz 1;rw[gO]at q1;rw[gN,Jf]at q7;have I:Hid _:=And.intro Jb Jd;go_wp2;go_ret;exact⟨rfl,I.out.1.pc _,I.out.2.setCell I.out.1.mem _⟩
end
section
open Go.RowKit
theorem Nl(C:Nat)(L:List Nat)(c:Mc) (rd s1 s2:Nat)(im:Int)(w:World)(J:Good c)(h:az w C L c)(r:Int)(Jo:rd<32)(h1:s1<32)(h2:s2<32)
  (Jg:c.st=0) (hA:vM 12 (c.regs.getD s1 0) (im%4294967296) r):
  Calls prog 59 #[pV C,.agg #[V 12,V rd,V s1,V s2,V im]] w λe w'=>e=rW (.bool true)/\az w' C L {dR c rd r with pc:=(c.pc+4)%4294967296}/\aA (λg=>g∈L) w w':=by
 have T0:=(aA.refl (λg=>g∈L) w).alloc (.cells #[V 12,V rd,V s1,V s2,V im] 84);have O:=h.below ((Below.refl w.heap.size w).alloc n_ (.cells #[V 12,V rd,V s1,V s2,V im] 84));have⟨rv,d,s,i,o,U,hr,hd,hs,hi,ho,hk,hL,Jm⟩:=id O;obtain⟨g,Jk,Jj,rfl,Z,Jl⟩:=aZ hr (by have:=J.r32;omega);have Jf:=J.r32;have c0:=U.c0;rw[Jf]at c0;have c1:=U.c1;have Jn:=Z.cell s1 o_;have Jh:=Z.cell s2 o_;have Y:∀ {W:World},aA (λg=>g∈L) (w.alloc (.cells #[V 12,V rd,V s1,V s2,V im] 84)) W->W.cell? ⟨w.heap.size,0,none⟩=some (V 12)/\W.cell? ⟨w.heap.size,1,none⟩=some (V rd):=by intro W H;have Jd:=H.block w.heap.size i_ (λhm=>by have:=h.lt _ hm;omega);constructor <;> (rw[c_ (w:=w.alloc _) Jd];simp)
 have HS:Hid (∀W v,Below (w.alloc (.cells #[V 12,V rd,V s1,V s2,V im] 84)).heap.size (w.alloc (.cells #[V 12,V rd,V s1,V s2,V im] 84)) W ->
   Calls prog 96 #[pV C,V rd,.int .u32 v] W λe w'=>e=rW (.tuple #[])/\az w' C L (dR c rd v)/\aA (λg=>g∈L) w w'/\(w'.cell? ⟨w.heap.size,0,none⟩=some (V 12)/\w'.cell? ⟨w.heap.size,1,none⟩=some (V rd))):=by
  intro W v H;refine(bH C L c rd v W J.r32 o_ (O.below H)).mono ?_;rintro e w' ⟨rfl,hc,ht⟩;have X:=(Below.tcs (S:=λg=>g∈L) H).trans ht;exact⟨rfl,hc,T0.trans X,Y X⟩
 have Jc:=Y (aA.refl _ _);have HI:=ah hA;generalize hx1:c.regs.getD s1 0=a at*;generalize hx2:c.regs.getD s2 0=b at*;go_in;go_wp2_with fail;go_quiet (fail);go_wp2_with fail;go_region_held3 (λW=>W.cell? ⟨w.heap.size,0,none⟩=some (V 12)/\W.cell? ⟨w.heap.size,1,none⟩=some (V rd)) (first|exact Jc|assumption|(go_simp;done))
  (first
  | (go_at_call 102;refine(HI.out.2.1 _).mono ?_;rintro e w1 ⟨rfl,rfl⟩)
  | (go_at_call 96;refine(HS.out _ _ ?_).mono ?_;(first|exact below_drewN r_ _|exact(below_drewN r_ _).drew|exact r_.drew|exact r_);rintro e w2 ⟨rfl,Jb,Je,x2⟩))
 have⟨rv,d2,Ji,i2,o2,Ja,_,_,_,_,_,_,_⟩:=id Jb;have q1:=Ja.c1;have q7:=Ja.c7;have qf:=Ja.fz 1;rw[gO]at q1;rw[gN,Jg]at q7;have I:Hid _:=And.intro Jb Je;go_wp2;go_ret;exact⟨rfl,I.out.1.pc _,I.out.2.setCell I.out.1.mem _⟩
theorem Nm(C:Nat)(L:List Nat)(c:Mc) (rd s1 s2:Nat)(im:Int)(w:World)(J:Good c)(h:az w C L c)(r:Int)(Jo:rd<32)(h1:s1<32)(h2:s2<32)
  (Jg:c.st=0) (hA:vM 14 (c.regs.getD s1 0) (im%4294967296) r):
  Calls prog 59 #[pV C,.agg #[V 14,V rd,V s1,V s2,V im]] w λe w'=>e=rW (.bool true)/\az w' C L {dR c rd r with pc:=(c.pc+4)%4294967296}/\aA (λg=>g∈L) w w':=by
 have T0:=(aA.refl (λg=>g∈L) w).alloc (.cells #[V 14,V rd,V s1,V s2,V im] 84);have O:=h.below ((Below.refl w.heap.size w).alloc n_ (.cells #[V 14,V rd,V s1,V s2,V im] 84));have⟨rv,d,s,i,o,U,hr,hd,hs,hi,ho,hk,hL,Jm⟩:=id O;obtain⟨g,Jk,Jj,rfl,Z,Jl⟩:=aZ hr (by have:=J.r32;omega);have Jf:=J.r32;have c0:=U.c0;rw[Jf]at c0;have c1:=U.c1;have Jn:=Z.cell s1 o_;have Jh:=Z.cell s2 o_;have Y:∀ {W:World},aA (λg=>g∈L) (w.alloc (.cells #[V 14,V rd,V s1,V s2,V im] 84)) W->W.cell? ⟨w.heap.size,0,none⟩=some (V 14)/\W.cell? ⟨w.heap.size,1,none⟩=some (V rd):=by intro W H;have Jd:=H.block w.heap.size i_ (λhm=>by have:=h.lt _ hm;omega);constructor <;> (rw[c_ (w:=w.alloc _) Jd];simp)
 have HS:Hid (∀W v,Below (w.alloc (.cells #[V 14,V rd,V s1,V s2,V im] 84)).heap.size (w.alloc (.cells #[V 14,V rd,V s1,V s2,V im] 84)) W ->
   Calls prog 96 #[pV C,V rd,.int .u32 v] W λe w'=>e=rW (.tuple #[])/\az w' C L (dR c rd v)/\aA (λg=>g∈L) w w'/\(w'.cell? ⟨w.heap.size,0,none⟩=some (V 14)/\w'.cell? ⟨w.heap.size,1,none⟩=some (V rd))):=by
  intro W v H;refine(bH C L c rd v W J.r32 o_ (O.below H)).mono ?_;rintro e w' ⟨rfl,hc,ht⟩;have X:=(Below.tcs (S:=λg=>g∈L) H).trans ht;exact⟨rfl,hc,T0.trans X,Y X⟩
 have Jc:=Y (aA.refl _ _);have HI:=ah hA;generalize hx1:c.regs.getD s1 0=a at*;generalize hx2:c.regs.getD s2 0=b at*;go_in;go_wp2_with fail;go_quiet (fail);go_wp2_with fail;go_region_held3 (λW=>W.cell? ⟨w.heap.size,0,none⟩=some (V 14)/\W.cell? ⟨w.heap.size,1,none⟩=some (V rd)) (first|exact Jc|assumption|(go_simp;done))
  (first
  | (go_at_call 102;refine(HI.out.2.1 _).mono ?_;rintro e w1 ⟨rfl,rfl⟩)
  | (go_at_call 96;refine(HS.out _ _ ?_).mono ?_;(first|exact below_drewN r_ _|exact(below_drewN r_ _).drew|exact r_.drew|exact r_);rintro e w2 ⟨rfl,Jb,Je,x2⟩))
 have⟨rv,d2,Ji,i2,o2,Ja,_,_,_,_,_,_,_⟩:=id Jb;have q1:=Ja.c1;have q7:=Ja.c7;have qf:=Ja.fz 1;rw[gO]at q1;rw[gN,Jg]at q7;have I:Hid _:=And.intro Jb Je;go_wp2;go_ret;exact⟨rfl,I.out.1.pc _,I.out.2.setCell I.out.1.mem _⟩
end
section
open Go.RowKit
theorem Nn(C:Nat)(L:List Nat)(c:Mc) (rd s1 s2:Nat)(im:Int)(w:World)(J:Good c)(h:az w C L c)(r:Int)(Jo:rd<32)(h1:s1<32)(h2:s2<32)
  (Jg:c.st=0) (hA:vM 15 (c.regs.getD s1 0) (im%4294967296) r):
  Calls prog 59 #[pV C,.agg #[V 15,V rd,V s1,V s2,V im]] w λe w'=>e=rW (.bool true)/\az w' C L {dR c rd r with pc:=(c.pc+4)%4294967296}/\aA (λg=>g∈L) w w':=by
 have T0:=(aA.refl (λg=>g∈L) w).alloc (.cells #[V 15,V rd,V s1,V s2,V im] 84);have O:=h.below ((Below.refl w.heap.size w).alloc n_ (.cells #[V 15,V rd,V s1,V s2,V im] 84));have⟨rv,d,s,i,o,U,hr,hd,hs,hi,ho,hk,hL,Jm⟩:=id O;obtain⟨g,Jk,Jj,rfl,Z,Jl⟩:=aZ hr (by have:=J.r32;omega);have Jf:=J.r32;have c0:=U.c0;rw[Jf]at c0;have c1:=U.c1;have Jn:=Z.cell s1 o_;have Jh:=Z.cell s2 o_;have Y:∀ {W:World},aA (λg=>g∈L) (w.alloc (.cells #[V 15,V rd,V s1,V s2,V im] 84)) W->W.cell? ⟨w.heap.size,0,none⟩=some (V 15)/\W.cell? ⟨w.heap.size,1,none⟩=some (V rd):=by intro W H;have Jd:=H.block w.heap.size i_ (λhm=>by have:=h.lt _ hm;omega);constructor <;> (rw[c_ (w:=w.alloc _) Jd];simp)
 have HS:Hid (∀W v,Below (w.alloc (.cells #[V 15,V rd,V s1,V s2,V im] 84)).heap.size (w.alloc (.cells #[V 15,V rd,V s1,V s2,V im] 84)) W ->
   Calls prog 96 #[pV C,V rd,.int .u32 v] W λe w'=>e=rW (.tuple #[])/\az w' C L (dR c rd v)/\aA (λg=>g∈L) w w'/\(w'.cell? ⟨w.heap.size,0,none⟩=some (V 15)/\w'.cell? ⟨w.heap.size,1,none⟩=some (V rd))):=by
  intro W v H;refine(bH C L c rd v W J.r32 o_ (O.below H)).mono ?_;rintro e w' ⟨rfl,hc,ht⟩;have X:=(Below.tcs (S:=λg=>g∈L) H).trans ht;exact⟨rfl,hc,T0.trans X,Y X⟩
 have Jc:=Y (aA.refl _ _);have HI:=ah hA;generalize hx1:c.regs.getD s1 0=a at*;generalize hx2:c.regs.getD s2 0=b at*;go_in;go_wp2_with fail;go_quiet (fail);go_wp2_with fail;go_region_held3 (λW=>W.cell? ⟨w.heap.size,0,none⟩=some (V 15)/\W.cell? ⟨w.heap.size,1,none⟩=some (V rd)) (first|exact Jc|assumption|(go_simp;done))
  (first
  | (go_at_call 102;refine(HI.out.2.1 _).mono ?_;rintro e w1 ⟨rfl,rfl⟩)
  | (go_at_call 96;refine(HS.out _ _ ?_).mono ?_;(first|exact below_drewN r_ _|exact(below_drewN r_ _).drew|exact r_.drew|exact r_);rintro e w2 ⟨rfl,Jb,Je,x2⟩))
 have⟨rv,d2,Ji,i2,o2,Ja,_,_,_,_,_,_,_⟩:=id Jb;have q1:=Ja.c1;have q7:=Ja.c7;have qf:=Ja.fz 1;rw[gO]at q1;rw[gN,Jg]at q7;have I:Hid _:=And.intro Jb Je;go_wp2;go_ret;exact⟨rfl,I.out.1.pc _,I.out.2.setCell I.out.1.mem _⟩
end
section
open Go.RowKit
variable{w w' W:AT}{v d s i o:BY}{L:List Nat}{c:Mc}{C g off cap:Nat}
def jO(w:World)(v:Value)(L:List Nat)(c:Mc):Prop:=
 ∃r d s i o,v=.agg #[r,.int .u32 c.pc,d,s,i,o,.int .u32 c.low,V c.st]/\dy .u32 w r c.regs/\dy .u8 w d c.data/\dy .u8 w s c.stack/\dy .i64 w i c.inn /\
  w.ownsRow 0 2 1 o c.out.length (c.out.map (Value.int .i64))/\(dU d/\dU s/\dU i)/\L=blk r++blk d++blk s++blk i++fy o/\L.Nodup
theorem jO.lt(h:jO w v L c):∀g∈L,g<w.heap.size:=by obtain⟨r,d,s,i,o,rfl,J,H,O,U,I,X,rfl,Ja⟩:=h;intro g hg;simp only[List.mem_append]at hg;rcases hg with(((hg|hg)|hg)|hg)|hg;exact J.lt g hg;exact H.lt g hg;exact O.lt g hg;exact U.lt g hg;exact((oH I).2 g hg).2
theorem jO.tcs{S:Nat->Prop}(h:jO w v L c)(I:aA S w w')(H:∀g∈L,¬S g):jO w' v L c:=by obtain⟨r,d,s,i,o,rfl,X,J,Y,Z,U,O,rfl,Ja⟩:=h;simp only[List.mem_append]at H;exact⟨r,d,s,i,o,rfl,X.tcs I λg hg=>H g (.inl (.inl (.inl (.inl hg)))),J.tcs I λg hg=>H g (.inl (.inl (.inl (.inr hg)))),Y.tcs I λg hg=>H g (.inl (.inl (.inr hg))),Z.tcs I λg hg=>H g (.inl (.inr hg)),fJ U I λg hg=>H g (.inr hg),O,rfl,Ja⟩
def jO.below(h:jO w v L c)(hb:Bl w w'):jO w' v L c:=h.tcs (Below.tcs (S:=λ_=>False) hb) (λ_ _ f=>f)
theorem az.value(h:az W C L c):∃r d s i o,Bx W C r (.int .u32 c.pc) d s i o (.int .u32 c.low) (V c.st)/\∃L',L=C::L'/\jO W (.agg #[r,.int .u32 c.pc,d,s,i,o,.int .u32 c.low,V c.st]) L' c /\
  (∃n1 n2 n3 n4 n5 x1 y1 x2 y2 x3 y3 x4 y4 x5 y5,r=.slice x1 n1 y1/\d=.slice x2 n2 y2/\s=.slice x3 n3 y3/\i=.slice x4 n4 y4/\o=.slice x5 n5 y5):=by
 obtain⟨r,d,s,i,o,Y,J,H,O,U,I,Z,rfl,Ja⟩:=h;have⟨x1,y1,e1⟩:=J.len0;have⟨x2,y2,e2⟩:=H.len0;have⟨x3,y3,e3⟩:=O.len0;have⟨x4,y4,e4⟩:=U.len0;have⟨x5,y5,X⟩:=mM I;exact⟨r,d,s,i,o,Y,_,rfl,⟨r,d,s,i,o,rfl,J,H,O,U,I,Z,rfl,(List.nodup_cons.mp Ja).2⟩,_,_,_,_,_,x1,y1,x2,y2,x3,y3,x4,y4,x5,y5,e1,e2,e3,e4,X⟩
theorem jO.shape32(h:jO w v L c)(Jc:c.regs.length=32):∃g off y1 n2 n3 n4 n5 x2 y2 x3 y3 x4 y4 x5 y5,v=.agg #[.slice (some ⟨g,off,none⟩) 32 y1,.int .u32 c.pc,.slice x2 n2 y2,.slice x3 n3 y3,.slice x4 n4 y4,.slice x5 n5 y5,.int .u32 c.low,V c.st]/\g∈L:=by obtain⟨r,d,s,i,o,rfl,J,H,O,U,I,X,rfl,Jd⟩:=h;obtain⟨g,off,Ja,rfl,Y,Jb⟩:=aZ J o_;obtain⟨x2,y2,rfl⟩:=H.len0;obtain⟨x3,y3,rfl⟩:=O.len0;obtain⟨x4,y4,rfl⟩:=U.len0;obtain⟨x5,y5,rfl⟩:=mM I;refine⟨g,off,Ja,_,_,_,_,x2,y2,x3,y3,x4,y4,x5,y5,by rw[Jc],?_⟩;rw[Jb];simp
end
section
open Go.RowKit
variable{W:AT}{C:Nat}{L:List Nat}{c:Mc}
def ED(c:Mc)(x:Int)(o:Nat):Prop:=x%4=0/\x=1073741824-c.stack.length+o/\o+4<=c.stack.length
theorem Np(I:Good c)(h:az W C L c)(x:Int)(o:Nat)(hn:ED c x o):
  ∃g off cap,(∀W',Below W.heap.size W W'->Calls prog 98 #[pV C,.int .u32 x] W' λe w'=>e=rW (.slice (some ⟨g,off+o,none⟩) 4 cap)/\∃n,w'=W'.drewN n) /\
   Row .u8 W g off c.stack/\(∃rv d i o' k,Bx W C rv (.int .u32 c.pc) d (.slice (some ⟨g,off,none⟩) c.stack.length k) i o' (.int .u32 c.low) (V c.st)):=by
 obtain⟨r,d,s,i,o',H,hr,J,Y,hi,ho,U,hL,Jb⟩:=h;obtain⟨h4,rfl,X⟩:=hn;obtain⟨g,off,cap,rfl,hR,Ja⟩:=aZ Y o_;obtain⟨O,Z,rfl⟩:=J.len0;refine⟨g,off,cap-o,λW' hW=>?_,hR,r,_,i,o',cap,H⟩;exact Nk C g off _ cap o O _ Z W' h4 (H.below hW).c2 (by have:=I.dl;omega) (H.below hW).c3 I.sl U.2.1 X
def oI(a:Option Addr)(l c:Nat)(w:AT):(binOp .eql 22 (.slice a l c) nV).run prog w=.ok (.bool a.isNone) w:=Lib.run_eql_slice_nil w 22 5 a l c 0 0 underlying22
def vP(zs:List Int)(o:Nat):Int:=zs.getD o 0+zs.getD (o+1) 0*256+zs.getD (o+2) 0*65536+zs.getD (o+3) 0*16777216
end
section
open Go.RowKit
variable{g off C cap:Nat}{w w':AT}{L:List Nat}{c:Mc}{r i o:BY}{rs:List Int}
def put4(zs:List Int)(o:Nat)(v:Int):List Int:=(((zs.set o (v%256)).set (o+1) (v / 256%256)).set (o+2) (v / 65536%256)).set (o+3) (v / 16777216)
def vQ(zs:List Int)(o:Nat)(v:Int):(put4 zs o v).length=zs.length:=by simp[put4]
def Row.put4{W:AT}{o:Nat}{zs:List Int}{v:Int}(h:Row .u8 W g off zs)(H:o+4<=zs.length):
  Row .u8 ((((W.setCell ⟨g,off+o,none⟩ (.int .u8 (v%256))).setCell ⟨g,off+o+1,none⟩ (.int .u8 (v / 256%256))).setCell ⟨g,off+o+2,none⟩ (.int .u8 (v / 65536%256))).setCell ⟨g,off+o+3,none⟩ (.int .u8 (v / 16777216))) g off (put4 zs o v):=by
 rw[Nat.add_assoc off o 1,Nat.add_assoc off o 2,Nat.add_assoc off o 3];exact(((h.set o_).set Do).set Do).set Do
theorem az.stk{d:Value} 
  (O:Bx w C r (.int .u32 c.pc) d (.slice (some ⟨g,off,none⟩) c.stack.length cap) i o (.int .u32 c.low) (V c.st)) (hr:dy .u32 w r c.regs) (Y:dy .u8 w d c.data) (hi:dy .i64 w i c.inn)
  (Z:w.ownsRow 0 2 1 o c.out.length (c.out.map (Value.int .i64))) (h:dU d/\dU (.slice (some ⟨g,off,none⟩) c.stack.length cap)/\dU i) (U:L=C::(blk r++blk d++blk (.slice (some ⟨g,off,none⟩) c.stack.length cap)++blk i++fy o)) (Jb:L.Nodup) (hn:0<c.stack.length)
  (H:aA (λk=>k=g) w w') (hl:rs.length=c.stack.length) (hR:Row .u8 w' g off rs):az w' C L {c with stack:=rs}:=by
 have Jc:=fG ⟨g,off,none⟩ c.stack.length cap hn;have Ja:=Jb;rw[U,Jc]at Ja;have X:C≠g:=λe=>(List.nodup_cons.mp Ja).1 (by simp[e]);have h2:=(List.nodup_cons.mp Ja).2;rw[List.append_assoc,List.append_assoc]at h2;have I:g∉blk r++blk d:=λhm=>mN h2 hm i_;have J:g∉blk i/\g∉fy o:=by rw[List.nodup_append]at h2;have h3:=h2.2.1;simp only[List.cons_append,List.nil_append,List.nodup_cons,List.mem_append,not_or]at h3;exact h3.1
 simp only[List.mem_append,not_or]at I;refine⟨r,d,.slice (some ⟨g,off,none⟩) c.stack.length cap,i,o,O.keep (H.block C O.lt X),hr.tcs H λk h e=>I.1 (e ▸ h),Y.tcs H λk h e=>I.2 (e ▸ h),?_,hi.tcs H λk h e=>J.1 (e ▸ h),fJ Z H λk h e=>J.2 (e ▸ h),h,U,Jb⟩;exact⟨_,cap,by simp[hl],λ_=>⟨g,off,rfl,hR⟩⟩
theorem Nq(C:Nat)(L:List Nat)(c:Mc)(rd s1 s2:Nat)(im:Int)(w:World)(H:Good c)(h:az w C L c)(m:Nat)(Jr:rd<32)(h1:s1<32)(h2:s2<32)
  (Jj:c.st=0) (U:ED c ((c.regs.getD s1 0+im)%4294967296) m):
  Calls prog 59 #[pV C,.agg #[V 10,V rd,V s1,V s2,V im]] w λe w'=>e=rW (.bool true)/\az w' C L {dR c rd (vP c.stack m)with pc:=(c.pc+4)%4294967296}/\aA (λg=>g∈L) w w':=by
 have T0:=(aA.refl (λg=>g∈L) w).alloc (.cells #[V 10,V rd,V s1,V s2,V im] 84);have X:=h.below ((Below.refl w.heap.size w).alloc n_ (.cells #[V 10,V rd,V s1,V s2,V im] 84));have⟨rv,d,s,i,o,hb,hr,hd,hs,hi,ho,hk,hL,Jp⟩:=id X;obtain⟨g,Jn,Jm,rfl,hR,Jo⟩:=aZ hr (by have:=H.r32;omega);have Ji:=H.r32;have c0:=hb.c0;rw[Ji]at c0;have c1:=hb.c1;have Jq:=hR.cell s1 o_;have Jk:=hR.cell s2 o_;have X0:∀ {W:World},aA (λg=>g∈L) (w.alloc (.cells #[V 10,V rd,V s1,V s2,V im] 84)) W->W.cell? ⟨w.heap.size,0,none⟩=some (V 10)/\W.cell? ⟨w.heap.size,1,none⟩=some (V rd):=by intro W I;have Jg:=I.block w.heap.size i_ (λU=>by have:=h.lt _ U;omega);constructor <;> (rw[c_ (w:=w.alloc _) Jg];simp)
 have HS:Hid (∀W v,Below (w.alloc (.cells #[V 10,V rd,V s1,V s2,V im] 84)).heap.size (w.alloc (.cells #[V 10,V rd,V s1,V s2,V im] 84)) W ->
   Calls prog 96 #[pV C,V rd,.int .u32 v] W λe w'=>e=rW (.tuple #[])/\az w' C L (dR c rd v)/\aA (λg=>g∈L) w w'/\(w'.cell? ⟨w.heap.size,0,none⟩=some (V 10)/\w'.cell? ⟨w.heap.size,1,none⟩=some (V rd))):=by
  intro W v I;refine(bH C L c rd v W H.r32 o_ (X.below I)).mono ?_;rintro e w' ⟨rfl,hc,ht⟩;have t1:=(Below.tcs (S:=λg=>g∈L) I).trans ht;exact⟨rfl,hc,T0.trans t1,X0 t1⟩
 have Jf:=X0 (aA.refl _ _);have⟨J,Z,Y,Jd,Ja,_⟩:=Np H X _ m U;have HM:=ah Jd;have HR:Hid (∀W,Below (w.alloc (.cells #[V 10,V rd,V s1,V s2,V im] 84)).heap.size (w.alloc (.cells #[V 10,V rd,V s1,V s2,V im] 84)) W->Calls prog 99 #[.slice (some ⟨J,Z+m,none⟩) 4 Y] W λe w'=>e=rW (.int .u32 (vP c.stack m))/\∃n,w'=W.drewN n):=by intro W I;have hl:=U.2.2;have O:=Ja.keep I.size (I.block J Ja.lt);exact vO J (Z+m) Y _ _ _ _ W (H.su m o_) (H.su (m+1) o_) (H.su (m+2) o_) (H.su (m+3) o_) (O.cell m o_) (O.cell (m+1) o_) (O.cell (m+2) o_) (O.cell (m+3) o_)
 have Jb:=oI (some ⟨J,Z+m,none⟩) 4 Y;simp only[Option.isNone_some]at Jb;generalize hx1:c.regs.getD s1 0=a at*;generalize hx2:c.regs.getD s2 0=b at*;go_in;go_wp2_with fail;go_quiet (fail);go_wp2_with fail;refine(HM.out _ ?_).mono ?_;exact below_drewN r_ _;rintro e w1 ⟨rfl,n1,rfl⟩;go_wp2_with fail;go_region_held3 (λW=>W.cell? ⟨w.heap.size,0,none⟩=some (V 10)/\W.cell? ⟨w.heap.size,1,none⟩=some (V rd)) (first|exact Jf|assumption|(go_simp;done))
  (first
  | (go_at_call 99;refine(HR.out _ ?_).mono ?_;(first|exact below_drewN r_ _|exact(below_drewN r_ _).drew|exact r_.drew|exact r_);rintro e w1 ⟨rfl,n2,rfl⟩)
  | (go_at_call 96;refine(HS.out _ _ ?_).mono ?_;(first|exact below_drewN r_ _|exact(below_drewN r_ _).drew|exact r_.drew|exact r_);rintro e w2 ⟨rfl,Je,Jh,x2⟩))
 have⟨rv,d2,Jl,i2,o2,Jc,_,_,_,_,_,_,_⟩:=id Je;have q1:=Jc.c1;have q7:=Jc.c7;have qf:=Jc.fz 1;rw[gO]at q1;rw[gN,Jj]at q7;have HE:Hid _:=And.intro Je Jh;go_wp2;go_ret;exact⟨rfl,HE.out.1.pc _,HE.out.2.setCell HE.out.1.mem _⟩
end
section
open Go.RowKit
theorem Nr(C:Nat)(L:List Nat)(c:Mc) (rd s1 s2:Nat)(im:Int)(w:World)(X:Good c)(h:az w C L c)(m:Nat)(Xi:rd<32)(h1:s1<32)(h2:s2<32)
  (Jt:c.st=0) (Z:ED c ((c.regs.getD s1 0+im)%4294967296) m):
  Calls prog 59 #[pV C,.agg #[V 11,V rd,V s1,V s2,V im]] w λe w'=>e=rW (.bool true)/\az w' C L {c with stack:=put4 c.stack m (c.regs.getD s2 0),pc:=(c.pc+4)%4294967296}/\aA (λg=>g∈L) w w':=by
 have T0:=(aA.refl (λg=>g∈L) w).alloc (.cells #[V 11,V rd,V s1,V s2,V im] 84);have Y:=h.below ((Below.refl w.heap.size w).alloc n_ (.cells #[V 11,V rd,V s1,V s2,V im] 84));have⟨rv,d,s,i,o,hb,hr,hd,hs,hi,ho,hk,hL,Xh⟩:=id Y;obtain⟨g,Jx,Xe,rfl,hR,Xg⟩:=aZ hr (by have:=X.r32;omega);have Js:=X.r32;have c0:=hb.c0;rw[Js]at c0;have c1:=hb.c1;have Jy:=hR.cell s1 o_;have Xa:=hR.cell s2 o_;have X0:∀ {W:World},aA (λg=>g∈L) (w.alloc (.cells #[V 11,V rd,V s1,V s2,V im] 84)) W->W.cell? ⟨w.heap.size,0,none⟩=some (V 11)/\W.cell? ⟨w.heap.size,1,none⟩=some (V rd):=by intro W J;have Jl:=J.block w.heap.size i_ (λZ=>by have:=h.lt _ Z;omega);constructor <;> (rw[c_ (w:=w.alloc _) Jl];simp)
 have HS:Hid (∀W v,Below (w.alloc (.cells #[V 11,V rd,V s1,V s2,V im] 84)).heap.size (w.alloc (.cells #[V 11,V rd,V s1,V s2,V im] 84)) W ->
   Calls prog 96 #[pV C,V rd,.int .u32 v] W λe w'=>e=rW (.tuple #[])/\az w' C L (dR c rd v)/\aA (λg=>g∈L) w w'/\(w'.cell? ⟨w.heap.size,0,none⟩=some (V 11)/\w'.cell? ⟨w.heap.size,1,none⟩=some (V rd))):=by
  intro W v J;refine(bH C L c rd v W X.r32 o_ (Y.below J)).mono ?_;rintro e w' ⟨rfl,hc,ht⟩;have t1:=(Below.tcs (S:=λg=>g∈L) J).trans ht;exact⟨rfl,hc,T0.trans t1,X0 t1⟩
 have Xf:=X0 (aA.refl _ _);have Jq:=X.ru s2 o_;have HX:∃H I O,(∀W,Below (w.alloc (.cells #[V 11,V rd,V s1,V s2,V im] 84)).heap.size (w.alloc (.cells #[V 11,V rd,V s1,V s2,V im] 84)) W->Calls prog 98 #[pV C,.int .u32 ((c.regs.getD s1 0+im)%4294967296)] W λe w'=>e=rW (.slice (some ⟨H,I+m,none⟩) 4 O)/\∃n,w'=W.drewN n) /\
   (∀W,Below (w.alloc (.cells #[V 11,V rd,V s1,V s2,V im] 84)).heap.size (w.alloc (.cells #[V 11,V rd,V s1,V s2,V im] 84)) W->Calls prog 100 #[.slice (some ⟨H,I+m,none⟩) 4 O,.int .u32 (c.regs.getD s2 0)] W λe w'=>e=rW (.tuple #[])/\az w' C L {c with stack:=put4 c.stack m (c.regs.getD s2 0)}/\aA (λg=>g∈L) w w'):=by
  have⟨H,I,O,Ja,Jb,Jw,Xb,Xc,J_,Xd,Jn⟩:=Np X Y _ m Z;refine⟨H,I,O,Ja,λW J=>?_⟩;have hl:=Z.2.2;have⟨Jv,d',s',i',o',Jg,Ji,Jm,Jz,Jk,Jo,Jj,Jh,Je⟩:=Y.below J;have U:=Jb.keep J.size (J.block H Jb.lt);refine(sx H (I+m) O _ _ _ _ _ W Jq (U.cell m o_) (U.cell (m+1) o_) (U.cell (m+2) o_) (U.cell (m+3) o_) U.froz).mono ?_;rintro e w' ⟨rfl,rfl⟩;obtain rfl:s'=_:=Option.some.inj (Jg.c3.symm.trans (Jn.below J).c3);have T:=((((aA.refl (λk=>k=H) W).setCell (p:=⟨H,I+m,none⟩) rfl (.int .u8 (c.regs.getD s2 0%256))).setCell (p:=⟨H,I+m+1,none⟩) rfl (.int .u8 (c.regs.getD s2 0 / 256%256))).setCell (p:=⟨H,I+m+2,none⟩) rfl (.int .u8 (c.regs.getD s2 0 / 65536%256))).setCell (p:=⟨H,I+m+3,none⟩) rfl (.int .u8 (c.regs.getD s2 0 / 16777216));refine⟨rfl,az.stk Jg Ji Jm Jk Jo Jj Jh Je o_ T (vQ _ _ _) (U.put4 hl),(T0.trans (Below.tcs J)).trans (T.mono λk hk=>?_)⟩;subst hk;rw[Jh,fG _ _ _ o_];simp
 obtain⟨H,I,O,Ja,Jp⟩:=HX;have HM:=ah Ja;have HW:=ah Jp;have Jc:=oI (some ⟨H,I+m,none⟩) 4 O;simp only[Option.isNone_some]at Jc;generalize hx1:c.regs.getD s1 0=a at*;generalize hx2:c.regs.getD s2 0=b at*;go_in;go_wp2_with fail;go_quiet (fail);go_wp2_with fail;refine(HM.out _ ?_).mono ?_;exact below_drewN r_ _;rintro e w1 ⟨rfl,n1,rfl⟩;go_wp2_with fail;refine(HW.out _ ?_).mono ?_
 first|exact below_drewN r_ _|exact below_drewN (below_drewN r_ _) _
 rintro e w2 ⟨rfl,Jf,Jr⟩;have⟨rv,d2,Ju,i2,o2,Jd,_,_,_,_,_,_,_⟩:=id Jf;have q1:=Jd.c1;have q7:=Jd.c7;have qf:=Jd.fz 1;dsimp only at q1 q7;rw[Jt]at q7;have HE:Hid _:=And.intro Jf Jr;go_wp2;go_ret;exact⟨rfl,HE.out.1.pc _,HE.out.2.setCell HE.out.1.mem _⟩
end
end Go.Proofs.YtngnoopnloojjaaGreatDoor
