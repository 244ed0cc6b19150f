import Derived.Test.YtmddmgpijpjpbaaGreatDoorR07
import Derived.WalkKit
import Derived.WalkSpells
import Derived.BigQuiet
import Derived.Laws.OwnMore
import Derived.Shelf.RegionOpen
namespace Go.Proofs.YtmddmgpijpjpbaaGreatDoor
open Go.RowKit
set_option linter.unusedVariables false
set_option linter.unusedSimpArgs false
set_option maxRecDepth 100000
set_option maxHeartbeats 16000000
theorem cut_parts {r b:List St} {i j:Nat} (h:i+j<=r.length):(r++b).take i=r.take i/\((r++b).drop i).take j=(r.drop i).take j/\(r++b).drop (i+j)=r.drop (i+j)++b/\((r++b).take (i+j)).drop i=(r.take (i+j)).drop i:=by
 refine ⟨List.take_append_of_le_length (by omega),?_,List.drop_append_of_le_length h,?_⟩
 ·rw [List.drop_append_of_le_length (by omega),List.take_append_of_le_length (by simp;omega)]
 ·rw [List.take_append_of_le_length h]
theorem fit_append (N:Nat) : ∀a b:List St,a.length<=N->fitB a=true->fitB b=true->fitB (a++b)=true:=by
 induction N with
 | zero=>
  intro a b hl ha hb
  have:a = []:=List.eq_nil_of_length_eq_zero (by omega)
  subst this
  simpa using hb
 | succ N ih=>
  intro a b hl ha hb
  cases a with
  | nil=>simpa using hb
  | cons s r=>
   rw [fitB_cons] at ha
   simp only [Bool.and_eq_true,decide_eq_true_eq] at ha
   obtain ⟨⟨p1,p2,p3,p4⟩,f1,f2,f3⟩:=ha
   simp only [l_c] at hl
   obtain ⟨e1,e2,e3,e4⟩:=cut_parts (r:=r) (b:=b) (i:=s.thn.toNat) (j:=s.els.toNat) (by omega)
   rw [List.cons_append,fitB_cons,e1,e3,e4]
   simp only [Bool.and_eq_true,decide_eq_true_eq]
   exact ⟨⟨p1,by simp;omega,p3,by simp;omega⟩,f1,f2,ih _ _ (by simp;omega) f3 hb⟩
theorem joinS_fit {F:Nat->List St} : ∀A,(∀i,i<A->fitB (F i)=true)->fitB (joinS F A)=true
 | 0,_=>rfl
 | A+1,h=>by
  simp only [joinS]
  exact fit_append _ _ _ (Nat.le_refl _) (joinS_fit A (fun i hi=>h i (by omega))) (h A (by omega))
theorem Bv.pos {w:World} {S:Nat->Prop} {v:Value} {r:List St} (h:Bv w S v r):0<r.length:=by
 cases h using Bv_i <;> simp
theorem joinS_len {F:Nat->List St} : ∀A,(∀i,i<A->0<(F i).length)->A<=(joinS F A).length
 | 0,_=>Nat.zero_le _
 | A+1,h=>by
  have:=joinS_len A (fun i hi=>h i (by omega))
  have:=h A (by omega)
  simp only [joinS,l_a]
  omega
theorem joinS_zero {F:Nat->List St}:joinS F 0 = []:=rfl
theorem fit_two {s:St} {a b:List St} (h1:s.thn=a.length) (h2:s.els=b.length) (ha:fitB a=true) (hb:fitB b=true):fitB (s::a++b)=true:=by
 rw [List.cons_append,fitB_cons]
 have e1:s.thn.toNat=a.length:=by omega
 have e2:s.els.toNat=b.length:=by omega
 rw [e1,e2]
 simp only [Bool.and_eq_true,decide_eq_true_eq]
 refine ⟨⟨by omega,by simp;omega,by omega,by simp;omega⟩,by simpa using ha,?_,?_⟩
 ·rw [List.take_of_length_le (by simp),List.drop_left];exact hb
 ·rw [List.drop_of_length_le (by simp)];rfl
theorem fit_one {s:St} (h1:s.thn=0) (h2:s.els=0):fitB [s]=true:=by
 have:=fit_two (s:=s) (a:=[]) (b:=[]) (by simpa using h1) (by simpa using h2) rfl rfl
 simpa using this
theorem Bv.fit {w:World} {S:Nat->Prop} {v:Value} {r:List St} (h:Bv w S v r):fitB r=true:=by
 induction h using Bv_i with
 | decl s x h1 h2 h3 h4=>exact fit_one h3 h4
 | set s x h1 h2 h3 h4=>exact fit_one h3 h4
 | store s x y h1 h2 h3 h4 h5=>exact fit_one h4 h5
 | ifs s x va vb A B vs us F H h1 h2 h3 h4 h5 h6 h7 h8 ih1 ih2=>exact fit_two h7 h8 (joinS_fit A ih1) (joinS_fit B ih2)
 | whil s x va A vs F h1 h2 h3 h4 h5 h6 ih=>
  have:=fit_two (s:=s) (a:=joinS F A) (b:=[]) h5 (by simpa using h6) (joinS_fit A ih) rfl
  simpa using this
 | ret s x h1 h2 h3 h4=>exact fit_one h3 h4
 | out s x h1 h2 h3 h4=>exact fit_one h3 h4
 | call s x h1 h2 h3 h4=>exact fit_one h3 h4
theorem wholeTo_add (l:List Nd) (d:Int) (hd:0<=d) : ∀(k q:Int),wholeTo l k=some q->wholeTo l (k+d)=some (q+d):=by
 induction l with
 | nil=>intro k q h;simp only [wholeTo,Option.some.injEq] at *;omega
 | cons n r ih=>
  intro k q h
  simp only [wholeTo] at *
  split at h
  ·rename_i hh
   rw [if_pos ⟨hh.1,by omega⟩]
   have:=ih _ _ h
   rw [show k+d+1-arity n=k+1-arity n+d by omega]
   exact this
  ·cases h
theorem one_whole {s:List Nd} (h:oneB s=true):wholeTo s 0=some 1:=by simpa [oneB] using h
theorem wholeTo_segs (T:List (List Nd)) (h : ∀s∈T,oneB s=true) : ∀k:Int,0<=k->wholeTo T.flatten k=some (k+T.length):=by
 induction T with
 | nil=>intro k hk;simp [wholeTo]
 | cons s T ih=>
  intro k hk
  rw [List.flatten_cons,wholeTo_append]
  have h1:=wholeTo_add s k hk 0 1 (one_whole (h s (by simp)))
  rw [show (0:Int)+k=k by omega] at h1
  rw [h1,Option.bind_some,ih (fun s hs=>h s (by simp [hs])) (1+k) (by omega)]
  simp only [l_c,Option.some.injEq]
  omega
theorem flat_take (T:List (List Nd)) (i:Nat) (hi:i<T.length):T.flatten.take (T.take (i+1)).flatten.length=(T.take i).flatten++T[i]:=by
 have e:T=T.take (i+1)++T.drop (i+1):=(List.take_append_drop _ _).symm
 have e2:T.flatten=(T.take (i+1)).flatten++(T.drop (i+1)).flatten:=by rw [<-List.flatten_append,<-e]
 rw [e2,List.take_left,List.take_add_one,List.flatten_append]
 simp [List.getElem?_eq_getElem hi]
theorem flat_len (T:List (List Nd)) (i:Nat) (hi:i<T.length):(T.take (i+1)).flatten.length=(T.take i).flatten.length+T[i].length:=by
 rw [List.take_add_one,List.flatten_append,l_a]
 simp [List.getElem?_eq_getElem hi]
theorem flat_le (T:List (List Nd)) (i:Nat):(T.take i).flatten.length<=T.flatten.length:=by
 have e2:T.flatten=(T.take i).flatten++(T.drop i).flatten:=by rw [<-List.flatten_append,List.take_append_drop]
 rw [e2,l_a]
 omega
theorem seg_kid (T:List (List Nd)) (n:Nd) (i:Nat) (hi:i<T.length):((T.flatten++[n]).take (T.take (i+1)).flatten.length).drop (T.take i).flatten.length=T[i]:=by
 rw [List.take_append_of_le_length (flat_le T _),flat_take T i hi,List.drop_left]
theorem root_snoc (l:List Nd) (n:Nd):rootN (l++[n])=n:=by
 simp [rootN]
theorem push_one (T:List (List Nd)) (n:Nd) (hn:nodeB n=true) (hA:arity n=T.length) (h : ∀s∈T,oneB s=true):oneB (T.flatten++[n])=true:=by
 have:wholeTo (T.flatten++[n]) 0=some 1:=by
  rw [wholeTo_append,wholeTo_segs T h 0 (Int.le_refl _),Option.bind_some]
  simp only [wholeTo]
  rw [if_pos ⟨hn,by omega⟩]
  simp only [Option.some.injEq]
  omega
 simpa [oneB] using this
theorem push_cut (T:List (List Nd)) (n:Nd) (hn:nodeB n=true) (hA:arity n=T.length) (h : ∀s∈T,oneB s=true) :
  Cut (T.flatten++[n]) T.length (fun i=>(T.take i).flatten.length):=by
 refine ⟨by simp,by rw [root_snoc];exact hA,one_good (push_one T n hn hA h),by simp,by simp,fun i hi => ?_⟩
 have hl:=flat_len T i hi
 have ho:=(oneB_iff T[i]).1 (h _ (List.getElem_mem _))
 have hp:=one_pos (h _ (List.getElem_mem hi))
 refine ⟨by omega,?_,fun j h1 h2 => ?_⟩
 ·rw [seg_kid T n i hi];exact ho.2.1
 ·have e:((T.flatten++[n]).take (T.take (i+1)).flatten.length).drop j=T[i].drop (j-(T.take i).flatten.length):=by
   rw [<-seg_kid T n i hi,List.drop_drop]
   congr 1
   omega
  rw [e]
  exact ho.2.2 _ (by omega) (by omega)
theorem push_fd (ap:Int->Int->Int->Int) (T:List (List Nd)) (n:Nd) (hn:nodeB n=true) (hA:arity n=T.length) (h : ∀s∈T,oneB s=true) (F:Nat->List Nd) (hF : ∀i (hi:i<T.length),Fd ap T[i] (F i)) :
  Fd ap (T.flatten++[n]) (fold1 ap n T.length F):=by
 have:=Fd.mk (ap:=ap) (T.flatten++[n]) T.length _ F (push_cut T n hn hA h) (fun i hi=>by rw [kid,seg_kid T n i hi];exact hF i hi)
 rwa [root_snoc] at this
theorem segs_room {e:List Nd} (he:oneB e=true) {T:List (List Nd)} (h : ∀s∈T,oneB s=true) {k:Nat} (hk:k<e.length) (hT:T.flatten=e.take k):nodeB e[k]=true/\arity e[k]<=T.length:=by
 have h1:=one_whole he
 obtain ⟨p,h2,h3⟩:=whole_take e 0 1 h1 (k+1)
 have h4:=wholeTo_segs T h 0 (Int.le_refl _)
 rw [hT] at h4
 have:=wholeTo_step e k _ hk h4
 rw [h2] at this
 split at this
 ·rename_i hh
  exact ⟨hh.1,by omega⟩
 ·cases this
theorem segs_end {e:List Nd} (he:oneB e=true) {T:List (List Nd)} (h : ∀s∈T,oneB s=true) (hT:T.flatten=e):T = [e]:=by
 have h4:=wholeTo_segs T h 0 (Int.le_refl _)
 rw [hT,one_whole he] at h4
 simp only [Option.some.injEq] at h4
 have h5:T.length=1:=by omega
 obtain ⟨s,rfl⟩:=List.length_eq_one_iff.1 h5
 simp at hT
 rw [hT]
theorem info_nv:(Tryz.prog.info? 170).map (fun i=>(i.zero,i.size,i.bytes))=some (some .nilIface,1,16):=by kernel_rfl
def VRow (B:Nat) (w:World) (v:Value) (us:List Value):Prop:=w.ownsRow B 170 1 v us.length us
theorem VRow.form {B:Nat} {w:World} {v:Value} {us:List Value} (h:VRow B w v us) : ∃a cap,v = .slice a us.length cap/\us.length<=cap/\cap<=9223372036854775807/\(a=none->us = [])/\(∀ad,a=some ad->∃g,ad=⟨g,0,none⟩/\B<=g/\g<w.heap.size/\∀j u,us[j]? = some u->w.cell? ⟨g,j,none⟩=some u):=by
 have h0:=h
 rcases h.2 with ⟨rfl,hn⟩ | ⟨g,cap,cur,rfl,hbg,hg,hnc,hcm,hcs,htake⟩
 ·refine ⟨none,0,by rw [hn],by omega,by omega,fun _=>List.eq_nil_of_length_eq_zero hn,fun ad hh => ?_⟩
  cases hh
 ·refine ⟨_,cap,rfl,hnc,by unfold maxLen at hcm;omega,fun hh => ?_,fun ad hh => ?_⟩
  ·cases hh
  ·simp only [Option.some.injEq] at hh
   refine ⟨g,hh.symm,hbg,(World.ownsRow.lt h0 g rfl).2,fun j u hj => ?_⟩
   have:=World.ownsRow.cells h0 (g:=g) rfl j u hj
   rw [addrO] at this
   simpa using this
theorem VRow.head {B:Nat} {w:World} {a:Option Addr} {n cap:Nat} {us:List Value} (h:VRow B w (.slice a n cap) us) (lo:Nat) (hlo:lo<=us.length):VRow B w (.slice a lo cap) (us.take lo):=by
 have hl:(us.take lo).length=lo:=by simp;omega
 rcases h.2 with ⟨he,hn⟩ | ⟨g,cap',cur,he,hbg,hg,hnc,hcm,hcs,htake⟩
 ·simp only [Value.slice.injEq] at he
  obtain ⟨rfl,rfl,rfl⟩:=he
  have:lo=0:=by omega
  subst this
  refine ⟨by simp,.inl ⟨by simp,by simp⟩⟩
 ·simp only [Value.slice.injEq] at he
  obtain ⟨rfl,rfl,rfl⟩:=he
  refine ⟨by simp,.inr ⟨g,cap,cur,by rw [hl],hbg,hg,by rw [hl];omega,hcm,hcs,?_⟩⟩
  rw [hl,<-htake,List.take_take,Nat.mul_one,Nat.mul_one,Nat.min_eq_left (by omega)]
theorem VRow.own {B:Nat} {w:World} {v:Value} {us:List Value} (h:VRow B w v us) (g:Nat) (hg:v.ownBlock=some g):B<=g/\g<w.heap.size:=World.ownsRow.lt h g hg
def Src (w:World) (v:Value) (us:List Value):Prop:=∃a cap,v = .slice a us.length cap/\(a=none->us = [])/\∀ad,a=some ad->∀j u,us[j]? = some u->w.cell? (ad.add j)=some u
theorem Src.below {w w':World} {v:Value} {us:List Value} (h:Src w v us) (hb:Below w.heap.size w w'):Src w' v us:=by
 obtain ⟨a,cap,rfl,h1,h2⟩:=h
 refine ⟨a,cap,rfl,h1,fun ad he j u hj => ?_⟩
 have:=h2 ad he j u hj
 exact (hb.cell (p:=ad.add j) (World.block_lt_of_cell? _ _ this)).trans this
theorem VRow.src {B:Nat} {w:World} {v:Value} {us:List Value} (h:VRow B w v us):Src w v us:=by
 obtain ⟨a,cap,rfl,_,_,h1,h2⟩:=h.form
 refine ⟨a,cap,rfl,h1,fun ad he j u hj => ?_⟩
 obtain ⟨g,rfl,_,_,h3⟩:=h2 ad he
 have:=h3 j u hj
 rw [addrO]
 simpa using this
theorem VRow.tail {B:Nat} {w:World} {a:Option Addr} {n cap:Nat} {us:List Value} (h:VRow B w (.slice a n cap) us) (lo:Nat) (hlo:lo<=us.length):Src w (.slice (if cap=lo then a else a.map (·.add (lo*1))) (n-lo) (cap-lo)) (us.drop lo):=by
 obtain ⟨a',cap',he,hlc,_,h1,h2⟩:=h.form
 simp only [Value.slice.injEq] at he
 obtain ⟨rfl,rfl,rfl⟩:=he
 refine ⟨_,_,by rw [List.length_drop],fun hh => ?_,fun ad hh j u hj => ?_⟩
 ·have ha:a=none:=by
   split at hh
   ·exact hh
   ·cases a with
    | none=>rfl
    | some x=>cases hh
  rw [h1 ha];simp
 ·have hj':=(List.getElem?_eq_some_iff.mp hj).1
  rw [List.length_drop] at hj'
  rw [if_neg (by omega)] at hh
  cases a with
  | none=>cases hh
  | some x=>
   simp only [Option.map_some,Option.some.injEq] at hh
   obtain ⟨g,rfl,_,_,h3⟩:=h2 x rfl
   subst hh
   rw [List.getElem?_drop] at hj
   have:=h3 _ _ hj
   rw [addrO,addrO]
   simpa using this
theorem run_appV {P:Program} {w:World} (base:Nat) (t ty e:TypeId) (i:TypeInfo) (z:Value) (ht:P.underlying t=some (.slice e)) (hi:P.info? e=some i) (hz:i.zero=some z)
  (hsize:i.size=1) (hby:i.bytes=16) (hzs:z.cells.size=1)
  (v:Value) (xs:List Value) (hown:w.ownsRow base e 1 v xs.length xs) (x:Value) (us:List Value) (hx:Src w x us) (h1 : ∀u∈us,u.oneCell'=true)
  (hm:xs.length+us.length<=10000000) (hbase:base<=w.heap.size) :
  ∃v' w',(Builtin.append_ #[t,t] ty #[v,x]).run P w = .ok v' w'/\w'.ownsRow base e 1 v' (xs++us).length (xs++us)/\w.grownBy w' v.ownBlock/\∀k,v'.ownBlock=some k->v.ownBlock=some k∨w.heap.size<=k:=by
 obtain ⟨a,cap,rfl,h2,h3⟩:=hx
 cases a with
 | none=>
  obtain rfl:=h2 rfl
  have hr:(Builtin.append_ #[t,t] ty #[v,.slice none ([]:List Value).length cap]).run P w = .ok v w:=by
   rcases hown.2 with ⟨rfl,hn⟩ | ⟨g,cap',cur,rfl,_,_,hnc,_⟩
   ·simp [Builtin.append_,run_underlying ht,sizeOf,typeInfo,hi,Builtin.lenOf,Builtin.firstCells]
   ·simp [Builtin.append_,run_underlying ht,sizeOf,typeInfo,hi,Builtin.lenOf,Builtin.firstCells,hnc,storeCells]
  refine ⟨v,w,hr,by simpa using hown,⟨rfl,rfl,rfl,Nat.le_refl _,fun _ _ _=>rfl⟩,fun k hk=>.inl hk⟩
 | some ad=>
  obtain ⟨v',w',r1,r2,r3,r4⟩:=app_freshG (P:=P) (w:=w) base t ty e i z 1 16 ht hi hz hsize hby hzs (by decide) v xs.length xs hown ad us.length cap us (by simp) (h3 ad rfl) h1 hm (by decide) hbase
  exact ⟨v',w',r1,by rw [l_a];exact r2,r3,r4⟩
theorem step_appV {P:Program} {w:World} {ops:Array Oper} {o:Oper} {a:Act} {K:Act->World->Prop} {Q:Exit->Act->World->Prop} {E:Prop} (hgd:o.guard=none) (s x:Operand) (t:TypeId)
  (ho:o.op = .call {callee:=.builtin .append,args:=#[s,x],argTypes:=#[t,t]})
  (base:Nat) (e:TypeId) (i:TypeInfo) (z:Value) (ht:P.underlying t=some (.slice e)) (hi:P.info? e=some i) (hz:i.zero=some z)
  (hsize:i.size=1) (hby:i.bytes=16) (hzs:z.cells.size=1)
  (v:Value) (xs:List Value) (hs:a.eval s=v) (hown:w.ownsRow base e 1 v xs.length xs) (xv:Value) (us:List Value) (hxv:a.eval x=xv) (hx:Src w xv us) (h1 : ∀u∈us,u.oneCell'=true)
  (hm:xs.length+us.length<=10000000) (hbase:base<=w.heap.size)
  (h : ∀v' w',w'.ownsRow base e 1 v' (xs++us).length (xs++us)->w.grownBy w' v.ownBlock->(∀k,v'.ownBlock=some k->v.ownBlock=some k∨w.heap.size<=k)->K (a.put o.dst v') w') :
  if Region.wanted o (yielded ops a.tmps)=true then Oper.wp P o a w K Q else E:=by
 have hw:Region.wanted o (yielded ops a.tmps)=true:=by simp [Region.wanted,hgd]
 rw [if_pos hw]
 obtain ⟨v',w',hr,h2,h3,h4⟩:=run_appV (P:=P) (w:=w) base t o.type e i z ht hi hz hsize hby hzs v xs hown xv us hx h1 hm hbase
 unfold Oper.wp execOp
 simp only [ho,resolve,invoke,builtin,Sem.run_bind,Sem.run_pure,Result.andThen_ok,List.map_toArray,List.map_cons,List.map_nil,hs,hxv,hr]
 exact h v' w' h2 h3 h4
theorem wpList_appV {P:Program} {w:World} {ops:Array Oper} {rest:List Oper} {o:Oper} {a:Act} {Q:Exit->Act->World->Prop} (hgd:o.guard=none) (s x:Operand) (t:TypeId)
  (ho:o.op = .call {callee:=.builtin .append,args:=#[s,x],argTypes:=#[t,t]})
  (base:Nat) (e:TypeId) (i:TypeInfo) (z:Value) (ht:P.underlying t=some (.slice e)) (hi:P.info? e=some i) (hz:i.zero=some z)
  (hsize:i.size=1) (hby:i.bytes=16) (hzs:z.cells.size=1)
  (v:Value) (xs:List Value) (hs:a.eval s=v) (hown:w.ownsRow base e 1 v xs.length xs) (xv:Value) (us:List Value) (hxv:a.eval x=xv) (hx:Src w xv us) (h1 : ∀u∈us,u.oneCell'=true)
  (hm:xs.length+us.length<=10000000) (hbase:base<=w.heap.size)
  (h : ∀v' w',w'.ownsRow base e 1 v' (xs++us).length (xs++us)->w.grownBy w' v.ownBlock->(∀k,v'.ownBlock=some k->v.ownBlock=some k∨w.heap.size<=k)->wpList P ops Q rest (a.put o.dst v') w'):wpList P ops Q (o::rest) a w:=by
 refine wpList_plain hgd fun K hK => ?_
 obtain ⟨v',w',hr,h2,h3,h4⟩:=run_appV (P:=P) (w:=w) base t o.type e i z ht hi hz hsize hby hzs v xs hown xv us hx h1 hm hbase
 unfold Oper.wp execOp
 simp only [ho,resolve,invoke,builtin,Sem.run_bind,Sem.run_pure,Result.andThen_ok,List.map_toArray,List.map_cons,List.map_nil,hs,hxv,hr]
 exact hK _ _ (h v' w' h2 h3 h4)
theorem clone_nv (v:Value) (us:List Value) (w:World) (hl:us.length<=2097152) (h:Src w v us) (h1 : ∀u∈us,u.oneCell'=true) :
  Calls Tryz.prog 163 #[v] w fun e w'=>∃u,e = .returned u/\VRow w.heap.size w' u us/\Below w.heap.size w w':=by
 obtain ⟨i0,hi,hz0,hz1,hz2⟩:=info_parts info_nv
 have hs:=h.below ((Below.refl w.heap.size w).alloc (Nat.le_refl _) (.cells #[] 170))
 obtain ⟨a,cap,rfl,ha,hr⟩:=h
 cases a with
 | none=>
  obtain rfl:=ha rfl
  simp only [l_n]
  have hnil : ∀w:World,(binOp .eql 211 (.slice none 0 cap) (.slice none 0 0)).run Tryz.prog w = .ok (.bool true) w:=fun w=>Lib.run_eql_slice_nil w 211 170 none 0 cap 0 0 Tryz.underlying211
  go_enter Tryz.func163,Tryz.ntmps163
  go_wp2
  go_ret
  exact ⟨_,rfl,World.ownsRow_nil _ _ _ _,Below.refl _ _⟩
 | some ad=>
  have hnil : ∀w:World,(binOp .eql 211 (.slice (some ad) us.length cap) (.slice none 0 0)).run Tryz.prog w = .ok (.bool false) w:=fun w=>Lib.run_eql_slice_nil w 211 170 (some ad) us.length cap 0 0 Tryz.underlying211
  go_enter Tryz.func163,Tryz.ntmps163
  go_wp2_with (at_builtin;refine wpList_appV rfl _ _ 211 rfl w.heap.size 170 i0 .nilIface Tryz.underlying211 hi hz0 hz1 hz2 rfl _ [] rfl (World.ownsRow_lit w #[] 0 (Nat.le_refl _) (by decide) rfl) _ us rfl hs h1 (by simp;omega) (by simp) ?_)
  intro v' w1 hown hgrow _
  have hb:Bl w w1:=(bel_a _ _).grown hgrow (by simp) (by simp [Value.ownBlock])
  try rw [List.nil_append] at hown
  have HL:=hide hown
  go_wp2
  go_ret
  exact ⟨_,rfl,HL.out,hb⟩
abbrev EntJ:=List Nd × List Nd × Value
def vsJ (L:List EntJ) (i:Nat):Value:=(L.getD i ([],[],.nilIface)).2.2
def fsJ (L:List EntJ) (i:Nat):List Nd:=(L.getD i ([],[],.nilIface)).2.1
structure RJ (w wr:World) (e:List Nd) (k:Nat) (v:Value) (T:List EntJ) (S:Nat->Prop):Prop where
 flat:(T.map (·.1)).flatten=e.take k
 each : ∀t∈T,oneB t.1=true/\t.2.1=t.1/\Tv wr S t.2.2 t.2.1
 row:VRow w.heap.size wr v (T.map (·.2.2))
 sep : ∀B,S B->w.heap.size<=B/\B<wr.heap.size/\v.ownBlock≠some B
 bel:Below w.heap.size w wr
theorem RJ.below {w wr w':World} {e:List Nd} {k:Nat} {v:Value} {T:List EntJ} {S:Nat->Prop} (h:RJ w wr e k v T S) (hb:Below wr.heap.size wr w'):RJ w w' e k v T S:=by
 refine ⟨h.flat,fun t ht=>⟨(h.each t ht).1,(h.each t ht).2.1,(h.each t ht).2.2.bel (fun B hB=>(h.sep B hB).2.1) hb⟩,ownB h.row hb,fun B hB => ?_,h.bel.trans (hb.mono h.bel.size)⟩
 have:=h.sep B hB
 exact ⟨this.1,Nat.lt_of_lt_of_le this.2.1 hb.size,this.2.2⟩
theorem RJ.one {w wr:World} {e:List Nd} {k:Nat} {v:Value} {T:List EntJ} {S:Nat->Prop} (h:RJ w wr e k v T S) : ∀u∈T.map (·.2.2),u.oneCell'=true:=by
 intro u hu
 simp only [List.mem_map] at hu
 obtain ⟨t,ht,rfl⟩:=hu
 obtain ⟨a,b,hab⟩:=(h.each t ht).2.2.isI
 rw [hab]
 rfl
theorem RJ.segs {w wr:World} {e:List Nd} {k:Nat} {v:Value} {T:List EntJ} {S:Nat->Prop} (h:RJ w wr e k v T S) : ∀s∈T.map (·.1),oneB s=true:=by
 intro s hs
 simp only [List.mem_map] at hs
 obtain ⟨t,ht,rfl⟩:=hs
 exact (h.each t ht).1
def addJ (S:Nat->Prop) (u:Value) (B:Nat):Prop:=S B∨u.ownBlock=some B
theorem RJ.kids {w wr w3:World} {e:List Nd} {k:Nat} {v:Value} {T:List EntJ} {S:Nat->Prop} (h:RJ w wr e k v T S) (lo A:Nat) (hlo:lo+A=T.length) (hb:Below wr.heap.size wr w3) {u:Value} (hu:VRow wr.heap.size w3 u ((T.drop lo).map (·.2.2))) :
  Args w3 (addJ S u) u A (vsJ (T.drop lo))/\(∀i,i<A->Tv w3 (addJ S u) (vsJ (T.drop lo) i) (fsJ (T.drop lo) i))/\∀B,addJ S u B->B<w3.heap.size:=by
 have hlen:(T.drop lo).length=A:=by simp;omega
 have hget : ∀i (hi:i<A),(T.drop lo).getD i ([],[],.nilIface)=(T.drop lo)[i]'(by omega)/\(T.drop lo)[i]'(by omega)∈T:=by
  intro i hi
  refine ⟨by simp [List.getD,List.getElem?_eq_getElem (show i<(T.drop lo).length by omega)],List.mem_of_mem_drop (List.getElem_mem _)⟩
 refine ⟨?_,fun i hi => ?_,fun B hB => ?_⟩
 ·obtain ⟨a,cap,rfl,h1,h2,h3,h4⟩:=hu.form
  simp only [List.length_map,hlen] at h1 ⊢
  refine ⟨a,cap,rfl,h1,h2,fun h0 => ?_⟩
  cases a with
  | none=>
   have:=h3 rfl
   have h5:=congrArg List.length this
   simp only [List.length_map,l_n] at h5
   omega
  | some ad=>
   obtain ⟨g,rfl,hg1,hg2,hc⟩:=h4 ad rfl
   refine ⟨g,rfl,.inr rfl,fun i hi => ?_⟩
   refine hc i _ ?_
   rw [List.getElem?_map,List.getElem?_eq_getElem (show i<(T.drop lo).length by omega),Option.map_some,vsJ,(hget i hi).1]
 ·have:=(h.each _ (hget i hi).2).2.2
  rw [vsJ,fsJ,(hget i hi).1]
  exact this.keep (fun B hB=>.inl hB) (fun B hB=>hb.block B (h.sep B hB).2.1)
 ·rcases hB with hB | hB
  ·exact Nat.lt_of_lt_of_le (h.sep B hB).2.1 hb.size
  ·exact (hu.own B hB).2
theorem RJ.step {w wr w3 w4 w5 w6:World} {e:List Nd} {k:Nat} {v v' u u':Value} {T:List EntJ} {S:Nat->Prop} (h:RJ w wr e k v T S) (hk:k<e.length) (lo A:Nat) (hlo:lo+A=T.length) (hn:nodeB e[k]=true) (hA:arity e[k]=A)
  (hb:Below wr.heap.size wr w3) (hu:VRow wr.heap.size w3 u ((T.drop lo).map (·.2.2))) (hb4:Below w3.heap.size w3 w4) (hT:Tv w4 (addJ S u) u' (joinF (fsJ (T.drop lo)) A++[e[k]])) (hb5:Below w4.heap.size w4 w5)
  (hr:VRow w.heap.size w6 v' ((T.take lo).map (·.2.2)++[u'])) (hg:w5.grownBy w6 v.ownBlock) (hf : ∀g,v'.ownBlock=some g->v.ownBlock=some g∨w5.heap.size<=g) :
  ∃T' S',RJ w w6 e (k+1) v' T' S':=by
 have hvo : ∀g,v.ownBlock=some g->w.heap.size<=g/\g<wr.heap.size:=fun g hg=>h.row.own g hg
 have hb5':Bl wr w5:=(hb.trans (hb4.mono hb.size)).trans (hb5.mono (Nat.le_trans hb.size hb4.size))
 have hSlt : ∀B,addJ S u B->B<w3.heap.size/\w.heap.size<=B/\v.ownBlock≠some B:=by
  intro B hB
  rcases hB with hB | hB
  ·exact ⟨Nat.lt_of_lt_of_le (h.sep B hB).2.1 hb.size,(h.sep B hB).1,(h.sep B hB).2.2⟩
  ·have h1:=hu.own B hB
   have h2:=h.bel.size
   refine ⟨h1.2,by omega,fun hh => ?_⟩
   have:=hvo B hh
   omega
 have hs5:w3.heap.size<=w5.heap.size:=Nat.le_trans hb4.size hb5.size
 have hkeep : ∀B,addJ S u B->w6.heap[B]? = w5.heap[B]? := fun B hB=>hg.block B (by have:=(hSlt B hB).1;omega) (fun hh=>(hSlt B hB).2.2 hh.symm)
 refine ⟨T.take lo++[(((T.drop lo).map (·.1)).flatten++[e[k]],joinF (fsJ (T.drop lo)) A++[e[k]],u')],addJ S u,?_,?_,?_,?_,?_⟩
 ·simp only [List.map_append,List.map_cons,List.map_nil,List.flatten_append,List.flatten_cons,List.flatten_nil,List.append_nil]
  rw [<-List.append_assoc,<-List.flatten_append,<-List.map_append,List.take_append_drop,h.flat,List.take_succ_eq_append_getElem hk]
 ·intro t ht
  rw [List.mem_append] at ht
  rcases ht with ht | ht
  ·have:=h.each t (List.mem_of_mem_take ht)
   refine ⟨this.1,this.2.1,this.2.2.keep (fun B hB=>.inl hB) (fun B hB => ?_)⟩
   rw [hkeep B (.inl hB)]
   exact hb5'.block B (h.sep B hB).2.1
  ·simp only [List.mem_singleton] at ht
   subst ht
   have hsegs : ∀s∈(T.drop lo).map (·.1),oneB s=true:=by
    intro s hs
    simp only [List.mem_map] at hs
    obtain ⟨t,ht,rfl⟩:=hs
    exact (h.each t (List.mem_of_mem_drop ht)).1
   have hlen:((T.drop lo).map (·.1)).length=A:=by simp;omega
   refine ⟨push_one _ _ hn (by rw [hlen,hA]) hsegs,?_,hT.keep (fun _ hB=>hB) (fun B hB => ?_)⟩
   ·have hj : ∀m,m<=A->joinF (fsJ (T.drop lo)) m=(((T.drop lo).map (·.1)).take m).flatten:=by
     intro m
     induction m with
     | zero=>intro _;rfl
     | succ m ih=>
      intro hm
      have hm':m<(T.drop lo).length:=by simp;omega
      rw [joinF,ih (by omega),List.take_succ_eq_append_getElem (by simpa using hm'),List.flatten_append]
      simp only [List.getElem_map,List.flatten_cons,List.flatten_nil,List.append_nil]
      congr 1
      rw [fsJ]
      simp only [List.getD,List.getElem?_eq_getElem hm',Option.getD_some]
      exact (h.each _ (List.mem_of_mem_drop (List.getElem_mem _))).2.1
    rw [hj A (Nat.le_refl _),List.take_of_length_le (by rw [hlen];exact Nat.le_refl _)]
   ·rw [hkeep B hB]
    exact hb5.block B (by have:=(hSlt B hB).1;have:=hb4.size;omega)
 ·have e1:(T.take lo++[(((T.drop lo).map (·.1)).flatten++[e[k]],joinF (fsJ (T.drop lo)) A++[e[k]],u')]).map (·.2.2)=(T.take lo).map (·.2.2)++[u']:=by simp
  rw [e1]
  exact hr
 ·intro B hB
  have h1:=hSlt B hB
  refine ⟨h1.2.1,by have:=hg.size;omega,fun hh => ?_⟩
  rcases hf B hh with h2 | h2
  ·exact h1.2.2 h2
  ·omega
 ·have hb0:Bl w w5:=h.bel.trans (hb5'.mono h.bel.size)
  exact hb0.grown hg hb0.size (fun g hg=>(hvo g hg).1)
theorem RJ.fin {w wr:World} {e:List Nd} {v:Value} {T:List EntJ} {S:Nat->Prop} (h:RJ w wr e e.length v T S) (he:oneB e=true) : ∃u g,(∃cap,v = .slice (some ⟨g,0,none⟩) 1 cap)/\wr.cell? ⟨g,0,none⟩=some u/\Tv wr S u e:=by
 have h1:T.map (·.1) = [e]:=segs_end he h.segs (by rw [h.flat,List.take_length])
 have hl:T.length=1:=by have:=congrArg List.length h1;simpa using this
 obtain ⟨t,rfl⟩:=List.length_eq_one_iff.1 hl
 simp only [List.map_cons,List.map_nil,List.cons.injEq,and_true] at h1
 have h2:=h.each t (by simp)
 rw [h1] at h2
 rw [h2.2.1] at h2
 obtain ⟨a,cap,hv,_,_,h5,h6⟩:=h.row.form
 cases a with
 | none=>have:=h5 rfl;simp at this
 | some ad=>
  obtain ⟨g,rfl,_,_,h7⟩:=h6 ad rfl
  exact ⟨t.2.2,g,⟨cap,hv⟩,h7 0 _ (by simp),h2.2.2⟩
theorem wrapI64 (n:Int):IntKind.i64.wrap n=(n+9223372036854775808) % 18446744073709551616-9223372036854775808:=by
 simp [IntKind.wrap,IntKind.bits,IntKind.signed];omega
theorem VRow.mono {B B':Nat} {w:World} {v:Value} {us:List Value} (h:VRow B w v us) (hB:B'<=B):VRow B' w v us:=by
 refine ⟨h.1,?_⟩
 rcases h.2 with h1 | ⟨g,cap,cur,h1,h2,h3⟩
 ·exact .inl h1
 ·exact .inr ⟨g,cap,cur,h1,by omega,h3⟩
theorem Src.lit (w:World) (x:Value) (t:TypeId):Src (w.alloc (.cells #[x] t)) (.slice (some ⟨w.heap.size,0,none⟩) 1 1) [x]:=by
 refine ⟨_,_,rfl,fun h=>(by cases h),fun ad had j y hy => ?_⟩
 simp only [Option.some.injEq] at had
 subst had
 cases j with
 | zero=>simp at hy;subst hy;simp [Addr.add]
 | succ j=>simp at hy
theorem vcut_l (a:Option Addr) (n cap lo:Nat) (h2:lo<=n) (h3:n<=cap) : ∀w:World,(Instr.slice 211 (.slice a n cap) (some (.int .i64 lo)) none none).run Tryz.prog w = .ok (.slice (if cap=lo then a else a.map (·.add (lo*1))) (n-lo) (cap-lo)) w:=by
 intro w
 have hz:Tryz.prog.elem 211=170:=by kernel_rfl
 have hs:(sizeOf 170).run Tryz.prog w = .ok 1 w:=by kernel_rfl
 rw [run_slice_l w 211 a n cap (by rw [hz];exact Tryz.underlying211) .i64 _ (by omega) (by omega),hz,hs]
 simp only [Result.andThen,sliced,Int.toNat_natCast]
theorem vcut_h (a:Option Addr) (n cap lo:Nat) (h2:lo<=n) (h3:n<=cap) : ∀w:World,(Instr.slice 211 (.slice a n cap) none (some (.int .i64 lo)) none).run Tryz.prog w = .ok (.slice a lo cap) w:=by
 intro w
 have hz:Tryz.prog.elem 211=170:=by kernel_rfl
 have hs:(sizeOf 170).run Tryz.prog w = .ok 1 w:=by kernel_rfl
 rw [run_slice_h w 211 a n cap (by rw [hz];exact Tryz.underlying211) .i64 _ (by omega) (by omega),hz,hs]
 cases a <;> simp [Result.andThen,sliced,Addr.add]
end Go.Proofs.YtmddmgpijpjpbaaGreatDoor
