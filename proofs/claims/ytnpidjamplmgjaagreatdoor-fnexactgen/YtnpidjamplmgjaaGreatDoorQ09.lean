import Derived.Test.YtnpidjamplmgjaaGreatDoorQ08
import Derived.WalkKit
import Derived.WalkSpells
import Derived.BigQuiet
import Derived.Laws.OwnMore
import Derived.Shelf.RegionOpen
import Derived.Deep.RegionHeld
import Derived.Deep.RegionHeldLaw
import Derived.Test.YtnpidjamplmgjaaGreatDoorRows
set_option linter.unusedSectionVars false
variable [Inhabited Go.Proofs.YtnpidjamplmgjaaGreatDoor.Pick]
namespace Go.Proofs.YtnpidjamplmgjaaGreatDoor
open Go.RowKit
set_option linter.unusedVariables false
set_option linter.unusedSimpArgs false
set_option maxRecDepth 100000
set_option maxHeartbeats 16000000
theorem info_nv:(Tryz.prog.info? 170).map (fun i=>(i.zero,i.size,i.bytes))=some (some .nilIface,1,16):=by kernel_rfl
def VRow (B:Nat) (w:World) (v:Value) (us:List Value):Prop:=w.ownsRow B 170 1 v us.length us
theorem VRow.form {B:Nat} {w:World} {v:Value} {us:List Value} (h:VRow B w v us) : ∃a cap,v = .slice a us.length cap/\us.length<=cap/\cap<=9223372036854775807/\(a=none->us = [])/\(∀ad,a=some ad->∃g,ad=⟨g,0,none⟩/\B<=g/\g<w.heap.size/\∀j u,us[j]? = some u->w.cell? ⟨g,j,none⟩=some u):=by
 have h0:=h
 rcases h.2 with ⟨rfl,hn⟩ | ⟨g,cap,cur,rfl,hbg,hg,hnc,hcm,hcs,htake⟩
 ·refine ⟨none,0,by rw [hn],by omega,by omega,fun _=>List.eq_nil_of_length_eq_zero hn,fun ad hh => ?_⟩
  cases hh
 ·refine ⟨_,cap,rfl,hnc,by unfold maxLen at hcm;omega,fun hh => ?_,fun ad hh => ?_⟩
  ·cases hh
  ·simp only [Option.some.injEq] at hh
   refine ⟨g,hh.symm,hbg,(World.ownsRow.lt h0 g rfl).2,fun j u hj => ?_⟩
   have:=World.ownsRow.cells h0 (g:=g) rfl j u hj
   rw [addrO] at this
   simpa using this
theorem VRow.head {B:Nat} {w:World} {a:Option Addr} {n cap:Nat} {us:List Value} (h:VRow B w (.slice a n cap) us) (lo:Nat) (hlo:lo<=us.length):VRow B w (.slice a lo cap) (us.take lo):=by
 have hl:(us.take lo).length=lo:=by simp;omega
 rcases h.2 with ⟨he,hn⟩ | ⟨g,cap',cur,he,hbg,hg,hnc,hcm,hcs,htake⟩
 ·simp only [Value.slice.injEq] at he
  obtain ⟨rfl,rfl,rfl⟩:=he
  have:lo=0:=by omega
  subst this
  refine ⟨by simp,.inl ⟨by simp,by simp⟩⟩
 ·simp only [Value.slice.injEq] at he
  obtain ⟨rfl,rfl,rfl⟩:=he
  refine ⟨by simp,.inr ⟨g,cap,cur,by rw [hl],hbg,hg,by rw [hl];omega,hcm,hcs,?_⟩⟩
  rw [hl,<-htake,List.take_take,Nat.mul_one,Nat.mul_one,Nat.min_eq_left o_]
theorem VRow.own {B:Nat} {w:World} {v:Value} {us:List Value} (h:VRow B w v us) (g:Nat) (hg:v.ownBlock=some g):B<=g/\g<w.heap.size:=World.ownsRow.lt h g hg
def Src (w:World) (v:Value) (us:List Value):Prop:=∃a cap,v = .slice a us.length cap/\(a=none->us = [])/\∀ad,a=some ad->∀j u,us[j]? = some u->w.cell? (ad.add j)=some u
theorem Src.below {w w':World} {v:Value} {us:List Value} (h:Src w v us) (hb:Below w.heap.size w w'):Src w' v us:=by
 obtain ⟨a,cap,rfl,h1,h2⟩:=h
 refine ⟨a,cap,rfl,h1,fun ad he j u hj => ?_⟩
 have:=h2 ad he j u hj
 exact (hb.cell (p:=ad.add j) (World.block_lt_of_cell? _ _ this)).trans this
theorem VRow.tail {B:Nat} {w:World} {a:Option Addr} {n cap:Nat} {us:List Value} (h:VRow B w (.slice a n cap) us) (lo:Nat) (hlo:lo<=us.length):Src w (.slice (if cap=lo then a else a.map (·.add (lo*1))) (n-lo) (cap-lo)) (us.drop lo):=by
 obtain ⟨a',cap',he,hlc,_,h1,h2⟩:=h.form
 simp only [Value.slice.injEq] at he
 obtain ⟨rfl,rfl,rfl⟩:=he
 refine ⟨_,_,by rw [List.length_drop],fun hh => ?_,fun ad hh j u hj => ?_⟩
 ·have ha:a=none:=by
   split at hh
   ·exact hh
   ·cases a with
    | none=>rfl
    | some x=>cases hh
  rw [h1 ha];simp
 ·have hj':=(List.getElem?_eq_some_iff.mp hj).1
  rw [List.length_drop] at hj'
  rw [if_neg o_] at hh
  cases a with
  | none=>cases hh
  | some x=>
   simp only [Option.map_some,Option.some.injEq] at hh
   obtain ⟨g,rfl,_,_,h3⟩:=h2 x rfl
   subst hh
   rw [List.getElem?_drop] at hj
   have:=h3 _ _ hj
   rw [addrO,addrO]
   simpa using this
theorem run_appV {P:Program} {w:World} (base:Nat) (t ty e:TypeId) (i:TypeInfo) (z:Value) (ht:P.underlying t=some (.slice e)) (hi:P.info? e=some i) (hz:i.zero=some z)
  (hsize:i.size=1) (hby:i.bytes=16) (hzs:z.cells.size=1)
  (v:Value) (xs:List Value) (hown:w.ownsRow base e 1 v xs.length xs) (x:Value) (us:List Value) (hx:Src w x us) (h1 : ∀u∈us,u.oneCell'=true)
  (hm:xs.length+us.length<=10000000) (hbase:base<=w.heap.size) :
  ∃v' w',(Builtin.append_ #[t,t] ty #[v,x]).run P w = .ok v' w'/\w'.ownsRow base e 1 v' (xs++us).length (xs++us)/\w.grownBy w' v.ownBlock/\∀k,v'.ownBlock=some k->v.ownBlock=some k∨w.heap.size<=k:=by
 obtain ⟨a,cap,rfl,h2,h3⟩:=hx
 cases a with
 | none=>
  obtain rfl:=h2 rfl
  have hr:(Builtin.append_ #[t,t] ty #[v,.slice none ([]:List Value).length cap]).run P w = .ok v w:=by
   rcases hown.2 with ⟨rfl,hn⟩ | ⟨g,cap',cur,rfl,_,_,hnc,_⟩
   ·simp [Builtin.append_,run_underlying ht,sizeOf,typeInfo,hi,Builtin.lenOf,Builtin.firstCells]
   ·simp [Builtin.append_,run_underlying ht,sizeOf,typeInfo,hi,Builtin.lenOf,Builtin.firstCells,hnc,storeCells]
  refine ⟨v,w,hr,by simpa using hown,⟨rfl,rfl,rfl,Nat.le_refl _,fun _ _ _=>rfl⟩,fun k hk=>.inl hk⟩
 | some ad=>
  obtain ⟨v',w',r1,r2,r3,r4⟩:=app_freshG (P:=P) (w:=w) base t ty e i z 1 16 ht hi hz hsize hby hzs (by decide) v xs.length xs hown ad us.length cap us (by simp) (h3 ad rfl) h1 hm (by decide) hbase
  exact ⟨v',w',r1,by rw [l_a];exact r2,r3,r4⟩
theorem step_appV {P:Program} {w:World} {ops:Array Oper} {o:Oper} {a:Act} {K:Act->World->Prop} {Q:Exit->Act->World->Prop} {E:Prop} (hgd:o.guard=none) (s x:Operand) (t:TypeId)
  (ho:o.op = .call {callee:=.builtin .append,args:=#[s,x],argTypes:=#[t,t]})
  (base:Nat) (e:TypeId) (i:TypeInfo) (z:Value) (ht:P.underlying t=some (.slice e)) (hi:P.info? e=some i) (hz:i.zero=some z)
  (hsize:i.size=1) (hby:i.bytes=16) (hzs:z.cells.size=1)
  (v:Value) (xs:List Value) (hs:a.eval s=v) (hown:w.ownsRow base e 1 v xs.length xs) (xv:Value) (us:List Value) (hxv:a.eval x=xv) (hx:Src w xv us) (h1 : ∀u∈us,u.oneCell'=true)
  (hm:xs.length+us.length<=10000000) (hbase:base<=w.heap.size)
  (h : ∀v' w',w'.ownsRow base e 1 v' (xs++us).length (xs++us)->w.grownBy w' v.ownBlock->(∀k,v'.ownBlock=some k->v.ownBlock=some k∨w.heap.size<=k)->K (a.put o.dst v') w') :
  if Region.wanted o (yielded ops a.tmps)=true then Oper.wp P o a w K Q else E:=by
 have hw:Region.wanted o (yielded ops a.tmps)=true:=by simp [Region.wanted,hgd]
 rw [if_pos hw]
 obtain ⟨v',w',hr,h2,h3,h4⟩:=run_appV (P:=P) (w:=w) base t o.type e i z ht hi hz hsize hby hzs v xs hown xv us hx h1 hm hbase
 unfold Oper.wp execOp
 simp only [ho,resolve,invoke,builtin,Sem.run_bind,Sem.run_pure,Result.andThen_ok,List.map_toArray,List.map_cons,List.map_nil,hs,hxv,hr]
 exact h v' w' h2 h3 h4
theorem wpList_appV {P:Program} {w:World} {ops:Array Oper} {rest:List Oper} {o:Oper} {a:Act} {Q:Exit->Act->World->Prop} (hgd:o.guard=none) (s x:Operand) (t:TypeId)
  (ho:o.op = .call {callee:=.builtin .append,args:=#[s,x],argTypes:=#[t,t]})
  (base:Nat) (e:TypeId) (i:TypeInfo) (z:Value) (ht:P.underlying t=some (.slice e)) (hi:P.info? e=some i) (hz:i.zero=some z)
  (hsize:i.size=1) (hby:i.bytes=16) (hzs:z.cells.size=1)
  (v:Value) (xs:List Value) (hs:a.eval s=v) (hown:w.ownsRow base e 1 v xs.length xs) (xv:Value) (us:List Value) (hxv:a.eval x=xv) (hx:Src w xv us) (h1 : ∀u∈us,u.oneCell'=true)
  (hm:xs.length+us.length<=10000000) (hbase:base<=w.heap.size)
  (h : ∀v' w',w'.ownsRow base e 1 v' (xs++us).length (xs++us)->w.grownBy w' v.ownBlock->(∀k,v'.ownBlock=some k->v.ownBlock=some k∨w.heap.size<=k)->wpList P ops Q rest (a.put o.dst v') w'):wpList P ops Q (o::rest) a w:=by
 refine wpList_plain hgd fun K hK => ?_
 obtain ⟨v',w',hr,h2,h3,h4⟩:=run_appV (P:=P) (w:=w) base t o.type e i z ht hi hz hsize hby hzs v xs hown xv us hx h1 hm hbase
 unfold Oper.wp execOp
 simp only [ho,resolve,invoke,builtin,Sem.run_bind,Sem.run_pure,Result.andThen_ok,List.map_toArray,List.map_cons,List.map_nil,hs,hxv,hr]
 exact hK _ _ (h v' w' h2 h3 h4)
theorem clone_nv (v:Value) (us:List Value) (w:World) (hl:us.length<=2097152) (h:Src w v us) (h1 : ∀u∈us,u.oneCell'=true) :
  Calls Tryz.prog 135 #[v] w fun e w'=>∃u,e = .returned u/\VRow w.heap.size w' u us/\Below w.heap.size w w':=by
 obtain ⟨i0,hi,hz0,hz1,hz2⟩:=info_parts info_nv
 have hs:=h.below ((Below.refl w.heap.size w).alloc (Nat.le_refl _) (.cells #[] 170))
 obtain ⟨a,cap,rfl,ha,hr⟩:=h
 cases a with
 | none=>
  obtain rfl:=ha rfl
  simp only [l_n]
  have hnil : ∀w:World,(binOp .eql 223 (.slice none 0 cap) (.slice none 0 0)).run Tryz.prog w = .ok (.bool true) w:=fun w=>Lib.run_eql_slice_nil w 223 170 none 0 cap 0 0 Tryz.underlying223
  go_enter Tryz.func135,Tryz.ntmps135
  go_wp2
  go_ret
  exact ⟨_,rfl,World.ownsRow_nil _ _ _ _,Below.refl _ _⟩
 | some ad=>
  have hnil : ∀w:World,(binOp .eql 223 (.slice (some ad) us.length cap) (.slice none 0 0)).run Tryz.prog w = .ok (.bool false) w:=fun w=>Lib.run_eql_slice_nil w 223 170 (some ad) us.length cap 0 0 Tryz.underlying223
  go_enter Tryz.func135,Tryz.ntmps135
  go_wp2_with (at_builtin;refine wpList_appV rfl _ _ 223 rfl w.heap.size 170 i0 .nilIface Tryz.underlying223 hi hz0 hz1 hz2 rfl _ [] rfl (World.ownsRow_lit w #[] 0 (Nat.le_refl _) (by decide) rfl) _ us rfl hs h1 (by simp;omega) (by simp) ?_)
  intro v' w1 hown hgrow _
  have hb:Bl w w1:=(bel_a _ _).grown hgrow (by simp) (by simp [Value.ownBlock])
  try rw [List.nil_append] at hown
  have HL:=hide hown
  go_wp2
  go_ret
  exact ⟨_,rfl,HL.out,hb⟩
abbrev EntJ:=List Nd × List Nd × Value
def vsJ (L:List EntJ) (i:Nat):Value:=(L.getD i ([],[],.nilIface)).2.2
def fsJ (L:List EntJ) (i:Nat):List Nd:=(L.getD i ([],[],.nilIface)).2.1
structure RJ (w wr:World) (e:List Nd) (k:Nat) (v:Value) (T:List EntJ) (S:Nat->Prop):Prop where
 flat:(T.map (·.1)).flatten=e.take k
 each : ∀t∈T,oneB t.1=true/\t.2.1=t.1/\Tv wr S t.2.2 t.2.1
 row:VRow w.heap.size wr v (T.map (·.2.2))
 sep : ∀B,S B->w.heap.size<=B/\B<wr.heap.size/\v.ownBlock≠some B
 bel:Below w.heap.size w wr
theorem RJ.below {w wr w':World} {e:List Nd} {k:Nat} {v:Value} {T:List EntJ} {S:Nat->Prop} (h:RJ w wr e k v T S) (hb:Below wr.heap.size wr w'):RJ w w' e k v T S:=by
 refine ⟨h.flat,fun t ht=>⟨(h.each t ht).1,(h.each t ht).2.1,(h.each t ht).2.2.bel (fun B hB=>(h.sep B hB).2.1) hb⟩,ownB h.row hb,fun B hB => ?_,h.bel.trans (hb.mono h.bel.size)⟩
 have:=h.sep B hB
 exact ⟨this.1,Nat.lt_of_lt_of_le this.2.1 hb.size,this.2.2⟩
theorem RJ.one {w wr:World} {e:List Nd} {k:Nat} {v:Value} {T:List EntJ} {S:Nat->Prop} (h:RJ w wr e k v T S) : ∀u∈T.map (·.2.2),u.oneCell'=true:=by
 intro u hu
 simp only [List.mem_map] at hu
 obtain ⟨t,ht,rfl⟩:=hu
 obtain ⟨a,b,hab⟩:=(h.each t ht).2.2.isI
 rw [hab]
 rfl
theorem RJ.segs {w wr:World} {e:List Nd} {k:Nat} {v:Value} {T:List EntJ} {S:Nat->Prop} (h:RJ w wr e k v T S) : ∀s∈T.map (·.1),oneB s=true:=by
 intro s hs
 simp only [List.mem_map] at hs
 obtain ⟨t,ht,rfl⟩:=hs
 exact (h.each t ht).1
def addJ (S:Nat->Prop) (u:Value) (B:Nat):Prop:=S B∨u.ownBlock=some B
theorem RJ.kids {w wr w3:World} {e:List Nd} {k:Nat} {v:Value} {T:List EntJ} {S:Nat->Prop} (h:RJ w wr e k v T S) (lo A:Nat) (hlo:lo+A=T.length) (hb:Below wr.heap.size wr w3) {u:Value} (hu:VRow wr.heap.size w3 u ((T.drop lo).map (·.2.2))) :
  Args w3 (addJ S u) u A (vsJ (T.drop lo))/\(∀i,i<A->Tv w3 (addJ S u) (vsJ (T.drop lo) i) (fsJ (T.drop lo) i))/\∀B,addJ S u B->B<w3.heap.size:=by
 have hlen:(T.drop lo).length=A:=by simp;omega
 have hget : ∀i (hi:i<A),(T.drop lo).getD i ([],[],.nilIface)=(T.drop lo)[i]' o_/\(T.drop lo)[i]' o_∈T:=by
  intro i hi
  refine ⟨by simp [List.getD,List.getElem?_eq_getElem (show i<(T.drop lo).length by omega)],List.mem_of_mem_drop (List.getElem_mem _)⟩
 refine ⟨?_,fun i hi => ?_,fun B hB => ?_⟩
 ·obtain ⟨a,cap,rfl,h1,h2,h3,h4⟩:=hu.form
  simp only [List.length_map,hlen] at h1 ⊢
  refine ⟨a,cap,rfl,h1,h2,fun h0 => ?_⟩
  cases a with
  | none=>
   have:=h3 rfl
   have h5:=congrArg List.length this
   simp only [List.length_map,l_n] at h5
   omega
  | some ad=>
   obtain ⟨g,rfl,hg1,hg2,hc⟩:=h4 ad rfl
   refine ⟨g,rfl,.inr rfl,fun i hi => ?_⟩
   refine hc i _ ?_
   rw [List.getElem?_map,List.getElem?_eq_getElem (show i<(T.drop lo).length by omega),Option.map_some,vsJ,(hget i hi).1]
 ·have:=(h.each _ (hget i hi).2).2.2
  rw [vsJ,fsJ,(hget i hi).1]
  exact this.keep (fun B hB=>.inl hB) (fun B hB=>hb.block B (h.sep B hB).2.1)
 ·rcases hB with hB | hB
  ·exact Nat.lt_of_lt_of_le (h.sep B hB).2.1 hb.size
  ·exact (hu.own B hB).2
theorem RJ.step {w wr w3 w4 w5 w6:World} {e:List Nd} {k:Nat} {v v' u u':Value} {T:List EntJ} {S:Nat->Prop} (h:RJ w wr e k v T S) (hk:k<e.length) (lo A:Nat) (hlo:lo+A=T.length) (hn:nodeB e[k]=true) (hA:arity e[k]=A)
  (hb:Below wr.heap.size wr w3) (hu:VRow wr.heap.size w3 u ((T.drop lo).map (·.2.2))) (hb4:Below w3.heap.size w3 w4) (hT:Tv w4 (addJ S u) u' (joinF (fsJ (T.drop lo)) A++[e[k]])) (hb5:Below w4.heap.size w4 w5)
  (hr:VRow w.heap.size w6 v' ((T.take lo).map (·.2.2)++[u'])) (hg:w5.grownBy w6 v.ownBlock) (hf : ∀g,v'.ownBlock=some g->v.ownBlock=some g∨w5.heap.size<=g) :
  ∃T' S',RJ w w6 e (k+1) v' T' S':=by
 have hvo : ∀g,v.ownBlock=some g->w.heap.size<=g/\g<wr.heap.size:=fun g hg=>h.row.own g hg
 have hb5':Bl wr w5:=(hb.trans (hb4.mono hb.size)).trans (hb5.mono (Nat.le_trans hb.size hb4.size))
 have hSlt : ∀B,addJ S u B->B<w3.heap.size/\w.heap.size<=B/\v.ownBlock≠some B:=by
  intro B hB
  rcases hB with hB | hB
  ·exact ⟨Nat.lt_of_lt_of_le (h.sep B hB).2.1 hb.size,(h.sep B hB).1,(h.sep B hB).2.2⟩
  ·have h1:=hu.own B hB
   have h2:=h.bel.size
   refine ⟨h1.2,by omega,fun hh => ?_⟩
   have:=hvo B hh
   omega
 have hs5:w3.heap.size<=w5.heap.size:=Nat.le_trans hb4.size hb5.size
 have hkeep : ∀B,addJ S u B->w6.heap[B]? = w5.heap[B]? := fun B hB=>hg.block B (by have:=(hSlt B hB).1;omega) (fun hh=>(hSlt B hB).2.2 hh.symm)
 refine ⟨T.take lo++[(((T.drop lo).map (·.1)).flatten++[e[k]],joinF (fsJ (T.drop lo)) A++[e[k]],u')],addJ S u,?_,?_,?_,?_,?_⟩
 ·simp only [List.map_append,List.map_cons,List.map_nil,List.flatten_append,List.flatten_cons,List.flatten_nil,List.append_nil]
  rw [<-List.append_assoc,<-List.flatten_append,<-List.map_append,List.take_append_drop,h.flat,List.take_succ_eq_append_getElem hk]
 ·intro t ht
  rw [List.mem_append] at ht
  rcases ht with ht | ht
  ·have:=h.each t (List.mem_of_mem_take ht)
   refine ⟨this.1,this.2.1,this.2.2.keep (fun B hB=>.inl hB) (fun B hB => ?_)⟩
   rw [hkeep B (.inl hB)]
   exact hb5'.block B (h.sep B hB).2.1
  ·simp only [List.mem_singleton] at ht
   subst ht
   have hsegs : ∀s∈(T.drop lo).map (·.1),oneB s=true:=by
    intro s hs
    simp only [List.mem_map] at hs
    obtain ⟨t,ht,rfl⟩:=hs
    exact (h.each t (List.mem_of_mem_drop ht)).1
   have hlen:((T.drop lo).map (·.1)).length=A:=by simp;omega
   refine ⟨push_one _ _ hn (by rw [hlen,hA]) hsegs,?_,hT.keep (fun _ hB=>hB) (fun B hB => ?_)⟩
   ·have hj : ∀m,m<=A->joinF (fsJ (T.drop lo)) m=(((T.drop lo).map (·.1)).take m).flatten:=by
     intro m
     induction m with
     | zero=>intro _;rfl
     | succ m ih=>
      intro hm
      have hm':m<(T.drop lo).length:=by simp;omega
      rw [joinF,ih o_,List.take_succ_eq_append_getElem (by simpa using hm'),List.flatten_append]
      simp only [List.getElem_map,List.flatten_cons,List.flatten_nil,List.append_nil]
      congr 1
      rw [fsJ]
      simp only [List.getD,List.getElem?_eq_getElem hm',Option.getD_some]
      exact (h.each _ (List.mem_of_mem_drop (List.getElem_mem _))).2.1
    rw [hj A (Nat.le_refl _),List.take_of_length_le (by rw [hlen];exact Nat.le_refl _)]
   ·rw [hkeep B hB]
    exact hb5.block B (by have:=(hSlt B hB).1;have:=hb4.size;omega)
 ·have e1:(T.take lo++[(((T.drop lo).map (·.1)).flatten++[e[k]],joinF (fsJ (T.drop lo)) A++[e[k]],u')]).map (·.2.2)=(T.take lo).map (·.2.2)++[u']:=by simp
  rw [e1]
  exact hr
 ·intro B hB
  have h1:=hSlt B hB
  refine ⟨h1.2.1,by have:=hg.size;omega,fun hh => ?_⟩
  rcases hf B hh with h2 | h2
  ·exact h1.2.2 h2
  ·omega
 ·have hb0:Bl w w5:=h.bel.trans (hb5'.mono h.bel.size)
  exact hb0.grown hg hb0.size (fun g hg=>(hvo g hg).1)
theorem RJ.fin {w wr:World} {e:List Nd} {v:Value} {T:List EntJ} {S:Nat->Prop} (h:RJ w wr e e.length v T S) (he:oneB e=true) : ∃u g,(∃cap,v = .slice (some ⟨g,0,none⟩) 1 cap)/\wr.cell? ⟨g,0,none⟩=some u/\Tv wr S u e:=by
 have h1:T.map (·.1) = [e]:=segs_end he h.segs (by rw [h.flat,List.take_length])
 have hl:T.length=1:=by have:=congrArg List.length h1;simpa using this
 obtain ⟨t,rfl⟩:=List.length_eq_one_iff.1 hl
 simp only [List.map_cons,List.map_nil,List.cons.injEq,and_true] at h1
 have h2:=h.each t (by simp)
 rw [h1] at h2
 rw [h2.2.1] at h2
 obtain ⟨a,cap,hv,_,_,h5,h6⟩:=h.row.form
 cases a with
 | none=>have:=h5 rfl;simp at this
 | some ad=>
  obtain ⟨g,rfl,_,_,h7⟩:=h6 ad rfl
  exact ⟨t.2.2,g,⟨cap,hv⟩,h7 0 _ (by simp),h2.2.2⟩
theorem wrapI64 (n:Int):IntKind.i64.wrap n=(n+9223372036854775808) % 18446744073709551616-9223372036854775808:=by
 simp [IntKind.wrap,IntKind.bits,IntKind.signed];omega
theorem VRow.mono {B B':Nat} {w:World} {v:Value} {us:List Value} (h:VRow B w v us) (hB:B'<=B):VRow B' w v us:=by
 refine ⟨h.1,?_⟩
 rcases h.2 with h1 | ⟨g,cap,cur,h1,h2,h3⟩
 ·exact .inl h1
 ·exact .inr ⟨g,cap,cur,h1,by omega,h3⟩
theorem Src.lit (w:World) (x:Value) (t:TypeId):Src (w.alloc (.cells #[x] t)) (.slice (some ⟨w.heap.size,0,none⟩) 1 1) [x]:=by
 refine ⟨_,_,rfl,fun h=>(by cases h),fun ad had j y hy => ?_⟩
 simp only [Option.some.injEq] at had
 subst had
 cases j with
 | zero=>simp at hy;subst hy;simp [Addr.add]
 | succ j=>simp at hy
theorem vcut_l (a:Option Addr) (n cap lo:Nat) (h2:lo<=n) (h3:n<=cap) : ∀w:World,(Instr.slice 223 (.slice a n cap) (some (.int .i64 lo)) none none).run Tryz.prog w = .ok (.slice (if cap=lo then a else a.map (·.add (lo*1))) (n-lo) (cap-lo)) w:=by
 intro w
 have hz:Tryz.prog.elem 223=170:=by kernel_rfl
 have hs:(sizeOf 170).run Tryz.prog w = .ok 1 w:=by kernel_rfl
 rw [run_slice_l w 223 a n cap (by rw [hz];exact Tryz.underlying223) .i64 _ o_ o_,hz,hs]
 simp only [Result.andThen,sliced,Int.toNat_natCast]
theorem vcut_h (a:Option Addr) (n cap lo:Nat) (h2:lo<=n) (h3:n<=cap) : ∀w:World,(Instr.slice 223 (.slice a n cap) none (some (.int .i64 lo)) none).run Tryz.prog w = .ok (.slice a lo cap) w:=by
 intro w
 have hz:Tryz.prog.elem 223=170:=by kernel_rfl
 have hs:(sizeOf 170).run Tryz.prog w = .ok 1 w:=by kernel_rfl
 rw [run_slice_h w 223 a n cap (by rw [hz];exact Tryz.underlying223) .i64 _ o_ o_,hz,hs]
 cases a <;> simp [Result.andThen,sliced,Addr.add]
theorem raisedJ_any (v:Value) (e:List Nd) (w:World) (hTab:Tab w) (hN:Nodes w v e) (hone:oneB e=true) (hl:e.length<=2000) :
    Calls Tryz.prog 103 #[v,.func (Fn.func 104) #[] #[]] w fun x w'=>∃u S,x = .returned u/\Tv w' S u e/\(∀B,S B->w.heap.size<=B/\B<w'.heap.size)/\Below w.heap.size w w':=by
  obtain ⟨i0,hi0,hz0,hz1,hz2⟩:=info_parts info_nv
  obtain ⟨a,cap,rfl,hcl,hcm,hc⟩:=hN
  have HC:Hid (0<e.length->∃b off,a=some ⟨b,off,none⟩/\NodesC w b off e):=hc
  have HOne:Hid (oneB e=true):=hone
  have HTab:Hid (Tab w):=hTab
  clear hc hone hTab
  go_enter Tryz.func103,Tryz.ntmps103
  go_wp2_with fail
  go_loopw [5,12] (fun st ix wr=>∃k:Nat,k<=e.length/\ix = .int .i64 k/\∃T S,RJ w wr e k st T S) (fun _ ix _=>e.length-(intOf ix).toNat)
  case atStart=>exact ⟨0,Nat.zero_le _,rfl,[],fun _=>False,by simp,by simp,World.ownsRow_nil _ _ _ _,fun B h=>h.elim,Below.refl _ _⟩
  case round=>
    obtain ⟨k,hk,rfl,T,S,hI⟩:=hrel
    have HI:Hid (RJ w wr e k u5 T S):=hI
    obtain ⟨pa,pc,rfl,hp1,hp2,hp3,hp4⟩:=hI.row.form
    simp only [List.length_map] at hp1 HI ⊢
    by_cases hlt:k<e.length
    · obtain ⟨b,off,rfl,hcc⟩:=HC.out o_
      obtain ⟨d0,d1,d2⟩:=(hcc.below hI.bel) k hlt
      obtain ⟨hn,hA⟩:=segs_room HOne.out hI.segs hlt hI.flat
      rw [List.length_map] at hA
      have hA0:=arity_good hn
      obtain ⟨A,hAe⟩ : ∃A:Nat,arity e[k]=A:=⟨(arity e[k]).toNat,by omega⟩
      obtain ⟨lo,hlo⟩ : ∃lo,lo+A=T.length:=⟨T.length-A,by omega⟩
      have HAe:Hid (arity e[k]=A):=hAe
      have HNb:Hid (nodeB e[k]=true):=hn
      have hkb:=kind_good hn
      have HOp:Hid (∀W,Below wr.heap.size wr W->Calls Tryz.prog 134 #[.agg #[.int .i64 e[k].kind,.int .i64 e[k].val,.string e[k].name]] W fun x w'=>x = .returned (.int .i64 A)/\Below W.heap.size W w'):=fun W hW=>by
        have:=opc_any e[k] W (HTab.out.below HTab.out.size (hI.bel.trans (hW.mono hI.bel.size))) hkb
        rw [hAe] at this
        exact this
      have hTl:T.length<=2000:=by
        have h1:=wholeTo_segs _ hI.segs 0 (Int.le_refl _)
        have h2:=(wholeTo_bd _ _ _ h1 (Int.le_refl 0)).2
        rw [hI.flat] at h2
        simp only [List.length_map,List.length_take] at h2
        omega
      have hsl : ∀W:World,(Instr.slice 223 (.slice pa T.length pc) (some (.int .i64 lo)) none none).run Tryz.prog W = .ok (.slice (if pc=lo then pa else pa.map (·.add (lo*1))) (T.length-lo) (pc-lo)) W:=vcut_l pa T.length pc lo o_ hp1
      have hsh : ∀W:World,(Instr.slice 223 (.slice pa T.length pc) none (some (.int .i64 lo)) none).run Tryz.prog W = .ok (.slice pa lo pc) W:=vcut_h pa T.length pc lo o_ hp1
      have hw1:IntKind.i64.wrap ((T.length:Int)-(A:Int))=(lo:Int):=by rw [wrapI64];omega
      have hw2:((T.length:Int)-(A:Int))=(lo:Int):=by omega
      have HSrc:Hid (∀W,Below wr.heap.size wr W->Src W (.slice (if pc=lo then pa else pa.map (·.add (lo*1))) (T.length-lo) (pc-lo)) ((T.drop lo).map (·.2.2))):=fun W hW=>by
        have:=(hI.row.tail lo (by rw [List.length_map];omega)).below hW
        rw [List.length_map,<-List.map_drop] at this
        exact this
      have HOC:Hid (∀u∈(T.drop lo).map (·.2.2),u.oneCell'=true):=fun u hu=>hI.one u (by
        simp only [List.mem_map] at hu ⊢
        obtain ⟨t,ht,rfl⟩:=hu
        exact ⟨t,List.mem_of_mem_drop ht,rfl⟩)
      clear hcc hp3 hp4 hn hI
      have hkk:off+k*3=off+k*3:=rfl
      generalize hnn:e[k]=n at d0 d1 d2 HOp hkb hA hA0 hAe HAe HNb
      have HNn:Hid (e[k]=n):=hnn
      clear hnn hAe hkb hA hA0
      obtain ⟨nk,nv,nm⟩:=n
      simp only at d0 d1 d2 HOp
      generalize (Value.slice (if pc=lo then pa else pa.map (·.add (lo*1))) (T.length-lo) (pc-lo))=sv at hsl HSrc
      go_wp2_with fail
      have hba : ∀o,Below wr.heap.size wr (wr.alloc o):=fun o=>(Below.refl _ _).alloc (Nat.le_refl _) o
      refine (HOp.out _ (hba _)).mono ?_
      rintro x w2 ⟨rfl,hb2⟩
      have hbw2:Below wr.heap.size wr w2:=(hba _).trans (hb2.mono (by simp))
      simp only [World.size_alloc] at hb2
      obtain ⟨f0,f1,f2⟩:=box3 hb2
      have HS2:Hid (Src w2 sv ((T.drop lo).map (·.2.2))):=HSrc.out w2 hbw2
      have HW2:Hid (Below wr.heap.size wr w2):=hbw2
      clear hba hb2 d0 d1 d2 hbw2 HSrc
      go_wp2_with fail
      refine (clone_nv sv _ w2 (by simp;omega) HS2.out HOC.out).mono ?_
      rintro x w3 ⟨uc,rfl,hv3,hb3⟩
      have hbw3:Below wr.heap.size wr w3:=HW2.out.trans (hb3.mono HW2.out.size)
      have g0:=(hb3.cell (p:=⟨wr.heap.size,0,none⟩) (World.block_lt_of_cell? _ _ f0)).trans f0
      have g1:=(hb3.cell (p:=⟨wr.heap.size,1,none⟩) (World.block_lt_of_cell? _ _ f1)).trans f1
      have g2:=(hb3.cell (p:=⟨wr.heap.size,2,none⟩) (World.block_lt_of_cell? _ _ f2)).trans f2
      have HV3:Hid (VRow wr.heap.size w3 uc ((T.drop lo).map (·.2.2))):=VRow.mono hv3 HW2.out.size
      have HW3:Hid (Below wr.heap.size wr w3):=hbw3
      have hbxlt:wr.heap.size<w3.heap.size:=World.block_lt_of_cell? _ _ g0
      have HBd:Hid (Calls Tryz.prog 104 #[.agg #[.int .i64 nk,.int .i64 nv,.string nm],uc] w3.drew fun x w'=>∃ta tb,x = .returned (.iface ta tb)/\(Tv w' (addJ S uc) (.iface ta tb) (joinF (fsJ (T.drop lo)) A++[⟨nk,nv,nm⟩])/\Bl w3 w')/\w'.cell? ⟨wr.heap.size,0,none⟩=some (.int .i64 nk)/\w'.cell? ⟨wr.heap.size,1,none⟩=some (.int .i64 nv)/\w'.cell? ⟨wr.heap.size,2,none⟩=some (.string nm)):=by
        have hd:Below wr.heap.size wr w3.drew:=hbw3.drew
        obtain ⟨k1,k2,k4⟩:=HI.out.kids lo A hlo hd (u:=uc) (World.ownsRow.drew HV3.out)
        refine (nodeOf_any ⟨nk,nv,nm⟩ HNb.out A HAe.out _ uc _ w3.drew k1 (fun i hi=>(k2 i hi).isI)).mono ?_
        rintro x w' ⟨rfl,h2⟩
        have h1:Tv w' (addJ S uc) (nodeV ⟨nk,nv,nm⟩ uc (vsJ (T.drop lo))) (joinF (fsJ (T.drop lo)) A++[⟨nk,nv,nm⟩]):=(nodeT ⟨nk,nv,nm⟩ HNb.out A HAe.out _ _ uc _ _ k1 k2).bel k4 h2
        have h3:Below w3.heap.size w3 w':=(Below.refl _ _).drew.trans h2
        obtain ⟨ta,tb,htab⟩:=h1.isI
        rw [htab] at h1
        refine ⟨ta,tb,by rw [htab],⟨h1,h3⟩,(h3.cell (p:=⟨wr.heap.size,0,none⟩) hbxlt).trans g0,(h3.cell (p:=⟨wr.heap.size,1,none⟩) hbxlt).trans g1,(h3.cell (p:=⟨wr.heap.size,2,none⟩) hbxlt).trans g2⟩
      have HRw:Hid (∀w4 u' o,(Tv w4 (addJ S uc) u' (joinF (fsJ (T.drop lo)) A++[⟨nk,nv,nm⟩])/\Bl w3 w4)->(w4.alloc o).ownsRow w.heap.size 170 1 (.slice pa lo pc) ((T.take lo).map (·.2.2)).length ((T.take lo).map (·.2.2))/\w.heap.size<=(w4.alloc o).heap.size):=by
        intro w4 u' o ⟨_,h⟩
        have h1:=(HI.out.below (hbw3.trans (h.mono hbw3.size))).below ((Below.refl _ _).alloc (Nat.le_refl _) o)
        have h2:=h1.row.head lo (by rw [List.length_map];omega)
        rw [<-List.map_take] at h2
        exact ⟨h2,h1.bel.size⟩
      have HGr:Hid (∀(W W':World) (o:Obj),W.cell? ⟨wr.heap.size,0,none⟩=some (.int .i64 nk)->W.cell? ⟨wr.heap.size,1,none⟩=some (.int .i64 nv)->W.cell? ⟨wr.heap.size,2,none⟩=some (.string nm)->(W.alloc o).grownBy W' (Value.slice pa lo pc).ownBlock->W'.cell? ⟨wr.heap.size,0,none⟩=some (.int .i64 nk)/\W'.cell? ⟨wr.heap.size,1,none⟩=some (.int .i64 nv)/\W'.cell? ⟨wr.heap.size,2,none⟩=some (.string nm)):=by
        intro W W' o h0 h1 h2 hg
        have hne:some wr.heap.size≠(Value.slice pa lo pc).ownBlock:=fun h=>by
          have:=(HI.out.row.own wr.heap.size (by cases pa <;> exact h.symm)).2
          omega
        have key : ∀i v,W.cell? ⟨wr.heap.size,i,none⟩=some v->W'.cell? ⟨wr.heap.size,i,none⟩=some v:=fun i v h=>hg.cell ((((Below.refl W.heap.size W).alloc (Nat.le_refl _) o).cell (p:=⟨wr.heap.size,i,none⟩) (World.block_lt_of_cell? _ _ h)).trans h) hne
        exact ⟨key _ _ h0,key _ _ h1,key _ _ h2⟩
      clear hv3 hb3 f0 f1 f2 hbw3 HS2 HOC HOp
      go_wp2_with fail
      go_region_held_law (fun W=>W.cell? ⟨wr.heap.size,0,none⟩=some (.int .i64 nk)/\W.cell? ⟨wr.heap.size,1,none⟩=some (.int .i64 nv)/\W.cell? ⟨wr.heap.size,2,none⟩=some (.string nm)) (first | go_keep | (go_split_ands;exact ⟨y0,y1,y2⟩))
        (first
        | ((with_reducible refine Calls.mono HBd.out ?_);intro x w4 hx;obtain ⟨ta,tb,hx1,hx2,q0,q1,q2⟩:=hx;subst hx1)
        | (refine step_appV (by rfl) _ _ 223 (by rfl) w.heap.size 170 i0 .nilIface Tryz.underlying223 hi0 hz0 hz1 hz2 (by rfl) (.slice pa lo pc) ((T.take lo).map (·.2.2)) (by rfl) (HRw.out _ _ _ hx2).1 (.slice (some ⟨w4.heap.size,0,none⟩) 1 1) [.iface ta tb] (by rfl) (Src.lit _ _ _) (fun y hy=>by simp at hy;subst hy;rfl) (by simp;omega) (HRw.out _ _ _ hx2).2 ?_;intro v' w6 hown6 hgrow6 hfr6;obtain ⟨y0,y1,y2⟩:=HGr.out _ _ _ q0 q1 q2 hgrow6))
      have HI6:Hid (∃T' S',RJ w w6 e (k+1) v' T' S'):=by
        have hnn:=HNn.out
        refine HI.out.step (w3:=w3) (w4:=w4) (w5:=w4.alloc (.cells #[.iface ta tb] 170)) (u:=uc) hlt lo A hlo (by rw [hnn];exact HNb.out) (by rw [hnn];exact HAe.out) HW3.out HV3.out hx2.2 (by rw [hnn];exact hx2.1) ((Below.refl _ _).alloc (Nat.le_refl _) _) hown6 ?_ ?_
        · have e1:(Value.slice pa lo pc).ownBlock=(Value.slice pa T.length pc).ownBlock:=by cases pa <;> rfl
          rw [<-e1];exact hgrow6
        · have e1:(Value.slice pa lo pc).ownBlock=(Value.slice pa T.length pc).ownBlock:=by cases pa <;> rfl
          rw [<-e1];exact hfr6
      obtain ⟨va,vn,vc,rfl⟩ : ∃va vn vc,v' = .slice va vn vc:=by
        obtain ⟨va,vc,h,_⟩:=VRow.form hown6
        exact ⟨_,_,_,h⟩
      clear hown6 hgrow6 hfr6 hx2 HBd HRw HGr
      go_wp2_with fail
      go_roundw
      case rel=>exact ⟨k+1,by omega,by go_num,HI6.out⟩
      case measure=>simp [intOf];omega
    · obtain rfl:k=e.length:=by omega
      obtain ⟨u,g,⟨cp,hv⟩,hcell,htv⟩:=hI.fin HOne.out
      simp only [Value.slice.injEq] at hv
      obtain ⟨rfl,hv2,rfl⟩:=hv
      have hT1:T.length=1:=by simpa using hv2
      clear hp3 hp4 hv2
      rw [hT1]
      go_wp2_with fail
      go_ret
      exact ⟨_,S,rfl,htv,fun B hB=>⟨(HI.out.sep B hB).1,(HI.out.sep B hB).2.1⟩,HI.out.bel⟩
theorem as_num_yes (W:World) (v:Value):(Instr.typeAssert (.iface 228 v) 170 228 true).run Tryz.prog W = .ok (.tuple #[v,.bool true]) W:=by kernel_rfl
theorem as_num_no (W:World) (u:TypeId) (v:Value) (h:u≠228):(Instr.typeAssert (.iface u v) 170 228 true).run Tryz.prog W = .ok (.tuple #[.agg #[.int .i64 0],.bool false]) W:=by
 have e:(Instr.typeAssert (.iface u v) 170 228 true).run Tryz.prog W=(if u=228 then (pure (Value.tuple #[v,.bool true]):Sem Value) else (do pure (Value.tuple #[<-zeroValue 228,.bool false]))).run Tryz.prog W:=by kernel_rfl
 rw [e,if_neg h]
 show _=_;kernel_rfl
theorem as_var_yes (W:World) (v:Value):(Instr.typeAssert (.iface 230 v) 170 230 true).run Tryz.prog W = .ok (.tuple #[v,.bool true]) W:=by kernel_rfl
theorem as_var_no (W:World) (u:TypeId) (v:Value) (h:u≠230):(Instr.typeAssert (.iface u v) 170 230 true).run Tryz.prog W = .ok (.tuple #[.agg #[.string ⟨#[]⟩],.bool false]) W:=by
 have e:(Instr.typeAssert (.iface u v) 170 230 true).run Tryz.prog W=(if u=230 then (pure (Value.tuple #[v,.bool true]):Sem Value) else (do pure (Value.tuple #[<-zeroValue 230,.bool false]))).run Tryz.prog W:=by kernel_rfl
 rw [e,if_neg h]
 show _=_;kernel_rfl
theorem as_index_yes (W:World) (v:Value):(Instr.typeAssert (.iface 215 v) 170 215 true).run Tryz.prog W = .ok (.tuple #[v,.bool true]) W:=by kernel_rfl
theorem as_index_no (W:World) (u:TypeId) (v:Value) (h:u≠215):(Instr.typeAssert (.iface u v) 170 215 true).run Tryz.prog W = .ok (.tuple #[.agg #[.string ⟨#[]⟩,.nilIface],.bool false]) W:=by
 have e:(Instr.typeAssert (.iface u v) 170 215 true).run Tryz.prog W=(if u=215 then (pure (Value.tuple #[v,.bool true]):Sem Value) else (do pure (Value.tuple #[<-zeroValue 215,.bool false]))).run Tryz.prog W:=by kernel_rfl
 rw [e,if_neg h]
 show _=_;kernel_rfl
theorem as_call_yes (W:World) (v:Value):(Instr.typeAssert (.iface 225 v) 170 225 true).run Tryz.prog W = .ok (.tuple #[v,.bool true]) W:=by kernel_rfl
theorem as_call_no (W:World) (u:TypeId) (v:Value) (h:u≠225):(Instr.typeAssert (.iface u v) 170 225 true).run Tryz.prog W = .ok (.tuple #[.agg #[.string ⟨#[]⟩,.slice none 0 0],.bool false]) W:=by
 have e:(Instr.typeAssert (.iface u v) 170 225 true).run Tryz.prog W=(if u=225 then (pure (Value.tuple #[v,.bool true]):Sem Value) else (do pure (Value.tuple #[<-zeroValue 225,.bool false]))).run Tryz.prog W:=by kernel_rfl
 rw [e,if_neg h]
 show _=_;kernel_rfl
theorem as_un_yes (W:World) (v:Value):(Instr.typeAssert (.iface 217 v) 170 217 true).run Tryz.prog W = .ok (.tuple #[v,.bool true]) W:=by kernel_rfl
theorem as_un_no (W:World) (u:TypeId) (v:Value) (h:u≠217):(Instr.typeAssert (.iface u v) 170 217 true).run Tryz.prog W = .ok (.tuple #[.agg #[.int .i64 0,.nilIface],.bool false]) W:=by
 have e:(Instr.typeAssert (.iface u v) 170 217 true).run Tryz.prog W=(if u=217 then (pure (Value.tuple #[v,.bool true]):Sem Value) else (do pure (Value.tuple #[<-zeroValue 217,.bool false]))).run Tryz.prog W:=by kernel_rfl
 rw [e,if_neg h]
 show _=_;kernel_rfl
theorem as_bin_yes (W:World) (v:Value):(Instr.typeAssert (.iface 219 v) 170 219 true).run Tryz.prog W = .ok (.tuple #[v,.bool true]) W:=by kernel_rfl
theorem as_bin_no (W:World) (u:TypeId) (v:Value) (h:u≠219):(Instr.typeAssert (.iface u v) 170 219 true).run Tryz.prog W = .ok (.tuple #[.agg #[.int .i64 0,.nilIface,.nilIface],.bool false]) W:=by
 have e:(Instr.typeAssert (.iface u v) 170 219 true).run Tryz.prog W=(if u=219 then (pure (Value.tuple #[v,.bool true]):Sem Value) else (do pure (Value.tuple #[<-zeroValue 219,.bool false]))).run Tryz.prog W:=by kernel_rfl
 rw [e,if_neg h]
 show _=_;kernel_rfl
theorem as_and_yes (W:World) (v:Value):(Instr.typeAssert (.iface 221 v) 170 221 true).run Tryz.prog W = .ok (.tuple #[v,.bool true]) W:=by kernel_rfl
theorem as_and_no (W:World) (u:TypeId) (v:Value) (h:u≠221):(Instr.typeAssert (.iface u v) 170 221 true).run Tryz.prog W = .ok (.tuple #[.agg #[.nilIface,.nilIface],.bool false]) W:=by
 have e:(Instr.typeAssert (.iface u v) 170 221 true).run Tryz.prog W=(if u=221 then (pure (Value.tuple #[v,.bool true]):Sem Value) else (do pure (Value.tuple #[<-zeroValue 221,.bool false]))).run Tryz.prog W:=by kernel_rfl
 rw [e,if_neg h]
 show _=_;kernel_rfl
theorem as_or_yes (W:World) (v:Value):(Instr.typeAssert (.iface 222 v) 170 222 true).run Tryz.prog W = .ok (.tuple #[v,.bool true]) W:=by kernel_rfl
theorem as_or_no (W:World) (u:TypeId) (v:Value) (h:u≠222):(Instr.typeAssert (.iface u v) 170 222 true).run Tryz.prog W = .ok (.tuple #[.agg #[.nilIface,.nilIface],.bool false]) W:=by
 have e:(Instr.typeAssert (.iface u v) 170 222 true).run Tryz.prog W=(if u=222 then (pure (Value.tuple #[v,.bool true]):Sem Value) else (do pure (Value.tuple #[<-zeroValue 222,.bool false]))).run Tryz.prog W:=by kernel_rfl
 rw [e,if_neg h]
 show _=_;kernel_rfl
end Go.Proofs.YtnpidjamplmgjaaGreatDoor
