import Derived.WalkKit
import Derived.OwnWalk
import Derived.Laws.OwnMore
import Derived.Test.YtnpidjamplmgjaaGreatDoorQ02
import Derived.Test.YtnpidjamplmgjaaGreatDoorRows
import Derived.WalkSpells
import Derived.ProofKit
import Derived.Deep.QuietTactic
import Derived.BigQuiet
import Derived.Lib.ConvBytes
import Derived.Deep.RegionWith
import Derived.WalkSmall
namespace Go.Proofs.YtnpidjamplmgjaaGreatDoor
open Go.RowKit
set_option linter.unusedVariables false
set_option linter.unusedSimpArgs false
set_option maxRecDepth 100000
set_option maxHeartbeats 16000000
section
variable {P:Program} {w:World}
theorem app_freshG (base:Nat) (t ty e:TypeId) (i:TypeInfo) (z:Value) (size bytes:Nat) (ht:P.underlying t=some (.slice e)) (hi:P.info? e=some i) (hz:i.zero=some z)
  (hsize:i.size=size) (hby:i.bytes=bytes) (hzs:z.cells.size=size) (hsz:0<size)
  (v:Value) (n:Nat) (xs:List Value) (hown:w.ownsRow base e size v n xs)
  (a:Addr) (m c:Nat) (news:List Value) (hl:news.length=m*size) (hnews : ∀j u,news[j]? = some u->w.cell? (a.add j)=some u) (h1 : ∀u∈news,u.oneCell'=true)
  (hm:n+m<=10000000) (hbb:bytes<=1000) (hbase:base<=w.heap.size) :
  ∃v' w',(Builtin.append_ #[t,t] ty #[v,.slice (some a) m c]).run P w = .ok v' w'/\w'.ownsRow base e size v' (n+m) (xs++news)/\w.grownBy w' v.ownBlock/\∀k,v'.ownBlock=some k->v.ownBlock=some k∨w.heap.size<=k:=by
 have hbytes:(n+m)*bytes<=140737488355328:=by
  have:(n+m)*bytes<=10000000*1000:=Nat.mul_le_mul hm hbb
  omega
 have h63:n+m<=maxLen:=by unfold maxLen;omega
 obtain ⟨v',w',r1,r2,r3,r4⟩:=run_append_own (P:=P) w base t ty e i z size bytes ht hi hz hsize hby hzs hsz v n xs hown a m c news hl hnews h1 h63 hbytes hbase
 refine ⟨v',w',r1,r2,r3,fun k hk => ?_⟩
 have hown0:=hown
 rcases hown.2 with ⟨rfl,rfl⟩ | ⟨g,cap,cur,rfl,hbg,hg,hnc,hcm,hcs,htake⟩
 ·have hx:xs = []:=List.eq_nil_of_length_eq_zero (by have:=hown.1;simpa using this)
  subst hx
  obtain ⟨v2,w2,g1,g2,_⟩:=run_append_own (P:=P) w w.heap.size t ty e i z size bytes ht hi hz hsize hby hzs hsz (.slice none 0 0) 0 [] (World.ownsRow_nil _ _ _ _) a m c news hl hnews h1 h63 hbytes (Nat.le_refl _)
  rw [r1] at g1
  simp only [Result.ok.injEq] at g1
  obtain ⟨rfl,rfl⟩:=g1
  exact .inr (g2.lt k hk).1
 ·by_cases hroom:n+m<=cap
  ·have hfit:n*i.size+news.length<=cur.size:=by
    rw [hsize,hl,hcs,<-Nat.add_mul]
    exact Nat.mul_le_mul_right _ hroom
   have hr:=run_append_room (P:=P) w t ty e i ht hi g n cap cur hg a m c news (by rw [hsize];exact hl) hnews h1 hroom hfit
   rw [r1] at hr
   simp only [Result.ok.injEq] at hr
   obtain ⟨rfl,rfl⟩:=hr
   exact .inl hk
  ·have holds : ∀j u,xs[j]? = some u->w.cell? ((⟨g,0,none⟩:Addr).add j)=some u:=hown0.cells (g:=g) rfl
   have hr:=run_append_grow (P:=P) w t ty e i z ht hi hz ⟨g,0,none⟩ n cap xs (by rw [hsize];exact hown0.1) holds a m c news (by rw [hsize];exact hl) hnews o_ o_ (by rw [hby];exact growslice_fits o_ o_)
   rw [r1] at hr
   simp only [Result.ok.injEq] at hr
   obtain ⟨rfl,rfl⟩:=hr
   simp only [Value.ownBlock,Option.some.injEq] at hk
   exact .inr o_
theorem wpList_appF {ops:Array Oper} {rest:List Oper} {o:Oper} {a:Act} {Q:Exit->Act->World->Prop} (hgd:o.guard=none) (s x:Operand) (t:TypeId)
  (ho:o.op = .call {callee:=.builtin .append,args:=#[s,x],argTypes:=#[t,t]})
  (base:Nat) (e:TypeId) (i:TypeInfo) (z:Value) (size bytes:Nat) (ht:P.underlying t=some (.slice e)) (hi:P.info? e=some i) (hz:i.zero=some z)
  (hsize:i.size=size) (hby:i.bytes=bytes) (hzs:z.cells.size=size) (hsz:0<size)
  (v:Value) (n:Nat) (xs:List Value) (hs:a.eval s=v) (hown:w.ownsRow base e size v n xs)
  (ad:Addr) (m c:Nat) (news:List Value) (hx:a.eval x = .slice (some ad) m c) (hl:news.length=m*size) (hnews : ∀j u,news[j]? = some u->w.cell? (ad.add j)=some u) (h1 : ∀u∈news,u.oneCell'=true)
  (hm:n+m<=10000000) (hbb:bytes<=1000) (hbase:base<=w.heap.size)
  (h : ∀v' w',w'.ownsRow base e size v' (n+m) (xs++news)->w.grownBy w' v.ownBlock->(∀k,v'.ownBlock=some k->v.ownBlock=some k∨w.heap.size<=k)->wpList P ops Q rest (a.put o.dst v') w'):wpList P ops Q (o::rest) a w:=by
 refine wpList_plain hgd fun K hK => ?_
 obtain ⟨v',w',hr,h2,h3,h4⟩:=app_freshG (P:=P) (w:=w) base t o.type e i z size bytes ht hi hz hsize hby hzs hsz v n xs hown ad m c news hl hnews h1 hm hbb hbase
 unfold Oper.wp execOp
 simp only [ho,resolve,invoke,builtin,Sem.run_bind,Sem.run_pure,Result.andThen_ok,List.map_toArray,List.map_cons,List.map_nil,hs,hx,hr]
 exact hK _ _ (h v' w' h2 h3 h4)
end
def cellsI (x:It):List Value:=[.int .i64 x.kind,.int .i64 x.ins.op,.int .i64 x.ins.rd,.int .i64 x.ins.s1,.int .i64 x.ins.s2,.int .i64 x.ins.im,.int .i64 x.label]
def flatI (l:List It):List Value:=l.flatMap cellsI
theorem flatI_len (l:List It):(flatI l).length=l.length*7:=by
 induction l with
 | nil=>rfl
 | cons a r ih=>
  have:(flatI (a::r)).length=7+(flatI r).length:=by simp [flatI,cellsI];omega
  rw [this,ih,l_c]
  omega
theorem flatI_append (a b:List It):flatI (a++b)=flatI a++flatI b:=by simp [flatI]
def rbq (q:Nat) (w:World) (P:Nat):Option Nat:=(w.cell? ⟨P,q,none⟩).bind Value.ownBlock
structure Wq (q P:Nat) (w w':World):Prop where
 still:w'.os=w.os/\w'.tape=w.tape/\w'.output=w.output
 size:w.heap.size<=w'.heap.size
 block : ∀k,k<w.heap.size->k≠P->some k≠rbq q w P->w'.heap[k]? = w.heap[k]?
 row : ∀k,rbq q w' P=some k->rbq q w P=some k∨w.heap.size<=k
theorem Wq.refl (q P:Nat) (w:World):Wq q P w w:=⟨⟨rfl,rfl,rfl⟩,Nat.le_refl _,fun _ _ _ _=>rfl,fun _ h=>.inl h⟩
theorem Wq.trans {q P:Nat} {w w' w'':World} (h:Wq q P w w') (h':Wq q P w' w''):Wq q P w w'':=by
 refine ⟨⟨h'.still.1.trans h.still.1,h'.still.2.1.trans h.still.2.1,h'.still.2.2.trans h.still.2.2⟩,Nat.le_trans h.size h'.size,fun k h1 h2 h3 => ?_,fun k hk => ?_⟩
 ·rw [h'.block k (Nat.lt_of_lt_of_le h1 h.size) h2,h.block k h1 h2 h3]
  intro he
  rcases h.row k he.symm with h4 | h4
  ·exact h3 h4.symm
  ·omega
 ·rcases h'.row k hk with h4 | h4
  ·exact h.row k h4
  ·exact .inr (Nat.le_trans h.size h4)
theorem Wq.below {q P:Nat} {w w':World} (hP:P<w.heap.size) (hb:Below w.heap.size w w'):Wq q P w w':=by
 refine ⟨⟨hb.os,hb.tape,hb.output⟩,hb.size,fun k h1 _ _=>hb.block k h1,fun k hk=>.inl ?_⟩
 unfold rbq at hk ⊢
 rw [hb.cell (p:=⟨P,q,none⟩) hP] at hk
 exact hk
theorem Wq.cell {q P:Nat} {w w':World} (h:Wq q P w w') {k o:Nat} {v:Value} (hk:k≠P) (hr:some k≠rbq q w P) (hc:w.cell? ⟨k,o,none⟩=some v):w'.cell? ⟨k,o,none⟩=some v:=
 (World.cell?_of_block (h.block k (World.block_lt_of_cell? _ _ hc) hk hr)).trans hc
structure Em (ti q n P:Nat) (w:World) (its:List It) (c:Nat->Value):Prop where
 lt:P<w.heap.size
 fz : ∀o,w.frozen? ⟨P,o,none⟩=false
 row : ∃v,w.cell? ⟨P,q,none⟩=some v/\w.ownsRow (P+1) ti 7 v its.length (flatI its)
 oth : ∀o,o<n->o≠q->w.cell? ⟨P,o,none⟩=some (c o)
theorem Em.below {ti q n P:Nat} {w w':World} {its:List It} {c:Nat->Value} (h:Em ti q n P w its c) (hb:Below w.heap.size w w'):Em ti q n P w' its c:=by
 obtain ⟨h0,h1,⟨v,h2,h3⟩,h4⟩:=h
 refine ⟨Nat.lt_of_lt_of_le h0 hb.size,fun o=>(hb.frozen (p:=⟨P,o,none⟩) h0).trans (h1 o),⟨v,(hb.cell (p:=⟨P,q,none⟩) h0).trans h2,?_⟩,fun o ho hq=>(hb.cell (p:=⟨P,o,none⟩) h0).trans (h4 o ho hq)⟩
 obtain ⟨g1,g2⟩:=h3
 refine ⟨g1,?_⟩
 rcases g2 with g2 | ⟨g,cap,cur,rfl,g3,g4,g5⟩
 ·exact .inl g2
 ·refine .inr ⟨g,cap,cur,rfl,g3,?_,g5⟩
  rw [hb.block g (Array.getElem?_eq_some_iff.1 g4).1]
  exact g4
theorem em_step {ti q n P:Nat} {w w':World} {l m:List It} {c:Nat->Value} {v v':Value} (hO:Em ti q n P w l c) (hv:w.cell? ⟨P,q,none⟩=some v) (hown:w'.ownsRow (P+1) ti 7 v' (l.length+m.length) (flatI l++flatI m)) (hg:w.grownBy w' v.ownBlock) (hfr : ∀k,v'.ownBlock=some k->v.ownBlock=some k∨w.heap.size<=k) :
  w'.frozen? ⟨P,q,none⟩=false/\w'.cell? ⟨P,q,none⟩=some v/\Em ti q n P (w'.setCell ⟨P,q,none⟩ v') (l++m) c/\Wq q P w (w'.setCell ⟨P,q,none⟩ v'):=by
 obtain ⟨h0,h1,⟨v0,h2,h3⟩,h4⟩:=hO
 rw [hv] at h2
 simp only [Option.some.injEq] at h2
 subst h2
 have hne:some P≠v.ownBlock:=fun e=>by have:=(World.ownsRow.lt h3 P e.symm).1;omega
 have hblk:=hg.block P h0 hne
 have c1 : ∀o,w'.cell? ⟨P,o,none⟩=w.cell? ⟨P,o,none⟩:=fun o=>World.cell?_of_block (a:=⟨P,o,none⟩) hblk
 have f1 : ∀o,w'.frozen? ⟨P,o,none⟩=false:=fun o=>(World.frozen?_of_block (a:=⟨P,o,none⟩) hblk).trans (h1 o)
 have hc2:(w'.setCell ⟨P,q,none⟩ v').cell? ⟨P,q,none⟩=some v':=World.cell?_setCell_same _ _ _ ((c1 q).trans hv)
 have hoth : ∀k,k≠P->(w'.setCell ⟨P,q,none⟩ v').heap[k]? = w'.heap[k]? := fun k hk=>Below.heap_setCell _ _ _ k (fun h=>hk (by simpa using h))
 refine ⟨f1 q,(c1 q).trans hv,⟨?_,fun o=>(World.frozen?_setCell _ _ _ _).trans (f1 o),⟨v',hc2,?_⟩,fun o ho hq => ?_⟩,?_⟩
 ·simp only [World.size_setCell];exact Nat.lt_of_lt_of_le h0 hg.size
 ·rw [l_a,flatI_append]
  obtain ⟨g1,g2⟩:=hown
  refine ⟨g1,?_⟩
  rcases g2 with g2 | ⟨g,cap,cur,rfl,g3,g4,g5⟩
  ·exact .inl g2
  ·refine .inr ⟨g,cap,cur,rfl,g3,?_,g5⟩
   rw [hoth g o_]
   exact g4
 ·rw [World.cell?_setCell_other _ _ _ _ (by intro h;simp only [Addr.mk.injEq] at h;exact hq h.2.1.symm),c1 o]
  exact h4 o ho hq
 ·refine ⟨⟨hg.os,hg.tape,hg.output⟩,by simp only [World.size_setCell];exact hg.size,fun k k1 k2 k3 => ?_,fun k hk => ?_⟩
  ·rw [hoth k k2,hg.block k k1]
   intro e
   apply k3
   unfold rbq
   rw [hv]
   exact e
  ·unfold rbq at hk ⊢
   rw [hc2] at hk
   rw [hv]
   simp only [Option.bind_some] at hk ⊢
   exact hfr k hk
theorem em_set {ti q n P:Nat} {w:World} {l:List It} {c:Nat->Value} (hO:Em ti q n P w l c) (o:Nat) (ho:o<n) (hq:o≠q) (u:Value):Em ti q n P (w.setCell ⟨P,o,none⟩ u) l (fun j=>if j=o then u else c j)/\Wq q P w (w.setCell ⟨P,o,none⟩ u):=by
 obtain ⟨h0,h1,⟨v,h2,h3⟩,h4⟩:=hO
 have hoth : ∀k,k≠P->(w.setCell ⟨P,o,none⟩ u).heap[k]? = w.heap[k]? := fun k hk=>Below.heap_setCell _ _ _ k (fun h=>hk (by simpa using h))
 have hcq:(w.setCell ⟨P,o,none⟩ u).cell? ⟨P,q,none⟩=some v:=(World.cell?_setCell_other _ _ _ _ (by intro h;simp only [Addr.mk.injEq] at h;exact hq h.2.1)).trans h2
 have hb0:=(Below.refl 0 w).setCell (p:=⟨P,o,none⟩) (Nat.zero_le _) u
 refine ⟨⟨by simpa using h0,fun j=>(World.frozen?_setCell _ _ _ _).trans (h1 j),⟨v,hcq,?_⟩,fun j hj hjq => ?_⟩,⟨hb0.os,hb0.tape,hb0.output⟩,by simp,fun k _ k2 _=>hoth k k2,fun k hk=>.inl ?_⟩
 ·obtain ⟨g1,g2⟩:=h3
  refine ⟨g1,?_⟩
  rcases g2 with g2 | ⟨g,cap,cur,rfl,g3,g4,g5⟩
  ·exact .inl g2
  ·refine .inr ⟨g,cap,cur,rfl,g3,?_,g5⟩
   rw [hoth g o_]
   exact g4
 ·by_cases e:j=o
  ·subst e
   simp only [if_true]
   exact World.cell?_setCell_same _ _ _ (h4 j hj hjq)
  ·rw [if_neg e,World.cell?_setCell_other _ _ _ _ (by intro h;simp only [Addr.mk.injEq] at h;exact e h.2.1.symm)]
   exact h4 j hj hjq
 ·unfold rbq at hk ⊢
  rw [hcq] at hk
  rw [h2]
  exact hk
theorem ret_bool {a b:Bool} (h:a=b):Ending.returned (.bool a) = .returned (.bool b):=by rw [h]
theorem first_any (c:Int) (w:World):Calls Tryz.prog 143 #[.int .u8 c] w fun e w'=>e = .returned (.bool (smallB c))/\w'=w:=by
 go_enter Tryz.func143,Tryz.ntmps143
 go_wp2
 all_goals go_ret
 all_goals (refine ⟨ret_bool ?_,rfl⟩;apply Bool.eq_iff_iff.2;simp [smallB] <;> omega)
theorem later_any (c:Int) (w:World):Calls Tryz.prog 145 #[.int .u8 c] w fun e w'=>e = .returned (.bool (laterB c))/\w'=w:=by
 cases h:smallB c
 all_goals
  go_enter Tryz.func145,Tryz.ntmps145
  go_wp2_with (go_at_call 143;refine (first_any _ _).mono ?_;rintro e w' ⟨rfl,rfl⟩;rw [h])
  all_goals go_ret
  all_goals (refine ⟨ret_bool ?_,rfl⟩;apply Bool.eq_iff_iff.2;simp [laterB,digitB,h] <;> omega)
theorem small_any (c:Int) (w:World):Calls Tryz.prog 211 #[.int .u8 c] w fun e w'=>e = .returned (.bool (smallB c))/\w'=w:=by
 go_enter Tryz.func211,Tryz.ntmps211
 go_wp2
 all_goals go_ret
 all_goals (refine ⟨ret_bool ?_,rfl⟩;apply Bool.eq_iff_iff.2;simp [smallB] <;> omega)
theorem digit_any (c:Int) (w:World):Calls Tryz.prog 214 #[.int .u8 c] w fun e w'=>e = .returned (.bool (digitB c))/\w'=w:=by
 go_enter Tryz.func214,Tryz.ntmps214
 go_wp2
 all_goals go_ret
 all_goals (refine ⟨ret_bool ?_,rfl⟩;apply Bool.eq_iff_iff.2;simp [digitB] <;> omega)
theorem span1_any (c:Int) (w:World):Calls Tryz.prog 213 #[.int .u8 c] w fun e w'=>e = .returned (.bool (laterB c))/\w'=w:=by
 cases h:smallB c
 all_goals
  go_enter Tryz.func213,Tryz.ntmps213
  go_wp2_with (first | (go_at_call 211;refine (small_any _ _).mono ?_;rintro e w' ⟨rfl,rfl⟩;rw [h]) | (go_at_call 214;refine (digit_any _ _).mono ?_;rintro e w' ⟨rfl,rfl⟩))
  all_goals go_ret
  all_goals (refine ⟨ret_bool ?_,rfl⟩;simp [laterB,h])
theorem res_any (s : ByteArray) (w : World) : Calls Tryz.prog 144 #[.string s] w fun e w' => e = .returned (.bool (resB s)) ∧ w' = w := by
  go_enter Tryz.func144, Tryz.ntmps144
  go_wp2
  all_goals go_ret
  all_goals (refine ⟨ret_bool ?_, rfl⟩; simp [resB, *])
theorem resI_any (s : ByteArray) (w : World) : Calls Tryz.prog 200 #[.string s] w fun e w' => e = .returned (.bool (resB s)) ∧ w' = w := by
  go_enter Tryz.func200, Tryz.ntmps200
  go_wp2
  all_goals go_ret
  all_goals (refine ⟨ret_bool ?_, rfl⟩; first | (simp [resB, *]; done) | (exfalso; simp_all))
theorem byteAt_eq (s:ByteArray) (k:Nat) (h:k<s.size):(s[k].toNat:Int)=byteAt s k:=by
 have h':k<s.data.toList.length:=by simpa using h
 simp only [byteAt,List.getD,List.getElem?_eq_getElem h',Option.getD_some]
 rfl
theorem nameB_iff (s:ByteArray):nameB s=true↔nameP s:=by simp [nameB]
theorem nameB_false {s:ByteArray} (h : ¬nameP s):nameB s=false:=by simp [nameB,h]
theorem nameB_true {s:ByteArray} (h:nameP s):nameB s=true:=by simp [nameB,h]
theorem name_yes (s:ByteArray) (w:World) (h1:1<=s.size) (h2:s.size<=20) (h3:smallB (byteAt s 0)=true) (h4:resB s=false) :
  Calls Tryz.prog 110 #[.string s] w fun e w'=>e = .returned (.bool (nameB s))/\w'=w:=by
 have hb:0<s.size:=by omega
 go_enter Tryz.func110,Tryz.ntmps110
 go_wp2_with (first
  | (go_at_call 143;refine (first_any _ _).mono ?_;rintro e w' ⟨rfl,rfl⟩;rw [byteAt_eq _ _ hb,h3])
  | (go_at_call 144;refine (res_any _ _).mono ?_;rintro e w' ⟨rfl,rfl⟩;rw [h4]))
 go_loop [3] (fun i=>∃k:Nat,k<=s.size/\i = .int .i64 k/\laterTo s k) (fun i=>s.size-(intOf i).toNat)
 case atStart=>exact ⟨0,Nat.zero_le _,rfl,fun j hj=>absurd hj (Nat.not_lt_zero _)⟩
 case round=>
  obtain ⟨k,hk,rfl,hl⟩:=hrel
  have HL:=hide hl
  by_cases hlt:k<s.size
  ·cases hc:laterB (byteAt s k)
   ·go_wp2_with (go_at_call 145;refine (later_any _ _).mono ?_;rintro e w' ⟨rfl,rfl⟩;rw [byteAt_eq _ _ hlt,hc])
    go_ret
    exact ⟨ret_bool (nameB_false fun h=>by have:=h.2.2.2.1 k hlt;rw [hc] at this;cases this).symm,rfl⟩
   ·go_wp2_with (go_at_call 145;refine (later_any _ _).mono ?_;rintro e w' ⟨rfl,rfl⟩;rw [byteAt_eq _ _ hlt,hc])
    go_round
    case rel=>exact ⟨k+1,by omega,by go_num,fun j hj=>by by_cases e:j=k;(subst e;exact hc);exact HL.out j o_⟩
    case measure=>simp [intOf];omega
  ·go_wp2_with fail
   go_ret
   exact ⟨ret_bool (nameB_true ⟨h1,h2,h3,fun j hj=>HL.out j o_,h4⟩).symm,rfl⟩
theorem name_no (s:ByteArray) (w:World) (h : ¬(1<=s.size/\s.size<=20/\smallB (byteAt s 0)=true/\resB s=false)) :
  Calls Tryz.prog 110 #[.string s] w fun e w'=>e = .returned (.bool (nameB s))/\w'=w:=by
 have hn:nameB s=false:=nameB_false fun hp=>h ⟨hp.1,hp.2.1,hp.2.2.1,hp.2.2.2.2⟩
 rw [hn]
 have H:=hide h
 by_cases h1:1<=s.size
 ·by_cases h2:s.size<=20
  ·have hb:0<s.size:=by omega
   cases h3:smallB (byteAt s 0)
   ·go_enter Tryz.func110,Tryz.ntmps110
    go_wp2_with (first
     | (go_at_call 143;refine (first_any _ _).mono ?_;rintro e w' ⟨rfl,rfl⟩;rw [byteAt_eq _ _ hb,h3]))
    go_ret
    exact ⟨rfl,rfl⟩
   ·have h4:resB s=true:=by
     cases e:resB s
     ·exact absurd ⟨h1,h2,h3,e⟩ H.out
     ·rfl
    go_enter Tryz.func110,Tryz.ntmps110
    go_wp2_with (first
     | (go_at_call 143;refine (first_any _ _).mono ?_;rintro e w' ⟨rfl,rfl⟩;rw [byteAt_eq _ _ hb,h3])
     | (go_at_call 144;refine (res_any _ _).mono ?_;rintro e w' ⟨rfl,rfl⟩;rw [h4]))
    go_ret
    exact ⟨rfl,rfl⟩
  ·go_enter Tryz.func110,Tryz.ntmps110
   go_wp2_with fail
   go_ret
   exact ⟨rfl,rfl⟩
 ·go_enter Tryz.func110,Tryz.ntmps110
  go_wp2_with fail
  go_ret
  exact ⟨rfl,rfl⟩
theorem name_any (s:ByteArray) (w:World):Calls Tryz.prog 110 #[.string s] w fun e w'=>e = .returned (.bool (nameB s))/\w'=w:=by
 by_cases h:1<=s.size/\s.size<=20/\smallB (byteAt s 0)=true/\resB s=false
 ·exact name_yes s w h.1 h.2.1 h.2.2.1 h.2.2.2
 ·exact name_no s w h
def spanOf (s:ByteArray) (k:Nat):Prop:=laterTo s k/\(k<s.size->laterB (byteAt s k)=false)
theorem span_any (b cap:Nat) (s:ByteArray) (w:World) (hs:s.size<=9223372036854775807) (hc : ∀j,j<s.size->w.cell? ⟨b,j,none⟩=some (.int .u8 (byteAt s j))) :
  Calls Tryz.prog 212 #[.slice (some ⟨b,0,none⟩) s.size cap,.func (.func 213) #[] #[]] w fun e w'=>∃k:Nat,k<=s.size/\spanOf s k/\e = .returned (.int .i64 k)/\w'=w:=by
 go_enter Tryz.func212,Tryz.ntmps212
 go_wp2_with fail
 go_loop [9] (fun i=>∃k:Nat,k<=s.size/\i = .int .i64 k/\laterTo s k) (fun i=>s.size-(intOf i).toNat)
 case atStart=>exact ⟨0,Nat.zero_le _,rfl,fun j hj=>absurd hj (Nat.not_lt_zero _)⟩
 case round=>
  obtain ⟨k,hk,rfl,hl⟩:=hrel
  have HL:=hide hl
  by_cases hlt:k<s.size
  ·have hck:=hc k hlt
   have HC:=hide hc
   cases hd:laterB (byteAt s k)
   ·go_wp2_with (go_at_call 213;refine (span1_any _ _).mono ?_;rintro e w' ⟨rfl,rfl⟩;rw [hd])
    go_ret
    exact ⟨k,by omega,⟨HL.out,fun _=>hd⟩,rfl,rfl⟩
   ·go_wp2_with (go_at_call 213;refine (span1_any _ _).mono ?_;rintro e w' ⟨rfl,rfl⟩;rw [hd])
    go_round
    case rel=>exact ⟨k+1,by omega,by go_num,fun j hj=>by by_cases e:j=k;(subst e;exact hd);exact HL.out j o_⟩
    case measure=>simp [intOf];omega
  ·go_wp2_with fail
   go_ret
   exact ⟨s.size,by omega,⟨fun j hj=>HL.out j o_,fun h=>absurd h (Nat.lt_irrefl _)⟩,rfl,rfl⟩
def nspanOf (s:ByteArray) (k:Nat):Prop:=(smallB (byteAt s 0)=false/\k=0)∨(smallB (byteAt s 0)=true/\spanOf s k)
theorem nspan_any (b cap:Nat) (s:ByteArray) (w:World) (h0:0<s.size) (hs:s.size<=9223372036854775807) (hc : ∀j,j<s.size->w.cell? ⟨b,j,none⟩=some (.int .u8 (byteAt s j))) :
  Calls Tryz.prog 199 #[.slice (some ⟨b,0,none⟩) s.size cap] w fun e w'=>∃k:Nat,k<=s.size/\nspanOf s k/\e = .returned (.int .i64 k)/\w'=w:=by
 have hc0:=hc 0 h0
 have hne:((s.size:Int) == 0)=false:=by simp only [beq_eq_false_iff_ne];omega
 have HC:=hide hc
 cases hd:smallB (byteAt s 0)
 ·go_enter Tryz.func199,Tryz.ntmps199
  go_wp2_with (go_at_call 211;refine (small_any _ _).mono ?_;rintro e w' ⟨rfl,rfl⟩;rw [hd])
  go_ret
  exact ⟨0,by omega,.inl ⟨hd,rfl⟩,rfl,rfl⟩
 ·go_enter Tryz.func199,Tryz.ntmps199
  go_wp2_with (go_at_call 211;refine (small_any _ _).mono ?_;rintro e w' ⟨rfl,rfl⟩;rw [hd])
  refine (span_any b cap s _ hs HC.out).mono ?_
  rintro e w' ⟨k,hk,hsp,rfl,rfl⟩
  go_wp2_with fail
  go_ret
  exact ⟨k,hk,.inr ⟨hd,hsp⟩,rfl,rfl⟩
theorem bytesWorld_below (w:World) (e:TypeId) (s:ByteArray):Below w.heap.size w (Lib.bytesWorld w e s):=
 ⟨rfl,rfl,rfl,by rw [Lib.bytesWorld_size];omega,fun k hk=>Lib.bytesWorld_at_old w e s k hk⟩
theorem nspan_name {s:ByteArray} {k:Nat} (h1:1<=s.size) (h2:s.size<=20) (hk:k<=s.size) (h:nspanOf s k) (hr:resB s=false):(k == s.size)=nameB s:=by
 apply Bool.eq_iff_iff.2
 simp only [beq_iff_eq,nameB_iff]
 constructor
 ·rintro rfl
  rcases h with ⟨_,h⟩ | ⟨hs,hsp⟩
  ·omega
  ·exact ⟨h1,h2,hs,hsp.1,hr⟩
 ·intro hp
  rcases h with ⟨h,_⟩ | ⟨hs,hsp⟩
  ·rw [hp.2.2.1] at h;cases h
  ·by_cases e:k=s.size
   ·exact e
   ·have h':=hsp.2 o_
    rw [hp.2.2.2.1 k o_] at h';cases h'
theorem vname_short (s:ByteArray) (w:World) (h:s.size<1∨20<s.size) :
  Calls Tryz.prog 173 #[.string s] w fun e w'=>e = .returned (.bool (nameB s))/\Below w.heap.size w w':=by
 have hn:nameB s=false:=nameB_false fun hp=>by have:=hp.1;have:=hp.2.1;omega
 rw [hn]
 rcases h with h | h
 ·go_enter Tryz.func173,Tryz.ntmps173
  go_wp2_with fail
  go_ret
  exact ⟨rfl,Below.refl _ _⟩
 ·have h':1<=s.size:=by omega
  go_enter Tryz.func173,Tryz.ntmps173
  go_wp2_with fail
  go_ret
  exact ⟨rfl,Below.refl _ _⟩
theorem vname_long (s:ByteArray) (w:World) (h1:1<=s.size) (h2:s.size<=20) :
  Calls Tryz.prog 173 #[.string s] w fun e w'=>e = .returned (.bool (nameB s))/\Below w.heap.size w w':=by
 have hconv : ∀w,(convert 9 141 (.string s)).run Tryz.prog w = .ok (.slice (some ⟨w.heap.size,0,none⟩) s.size (grownCap w s.size 0 5)) (Lib.bytesWorld w 5 s):=fun w=>Lib.run_convert_string_bytes w 9 _ 5 s Tryz.underlying9 Tryz.underlying141 Tryz.underlying5
 go_enter Tryz.func173,Tryz.ntmps173
 go_wp2_with fail
 refine (nspan_any _ _ s _ o_ o_ (fun j hj=>Lib.bytesWorld_cell w 5 s j hj)).mono ?_
 rintro e w' ⟨k,hk,hsp,rfl,rfl⟩
 have HSP:=hide hsp
 by_cases hks:k=s.size
 ·subst hks
  cases hr:resB s
  all_goals
   go_wp2_with (go_at_call 200;refine (resI_any _ _).mono ?_;rintro e w' ⟨rfl,rfl⟩;rw [hr])
   go_ret
  ·refine ⟨ret_bool ?_,bytesWorld_below w 5 s⟩
   rw [<-nspan_name h1 h2 hk HSP.out hr];simp
  ·exact ⟨ret_bool (nameB_false fun hp=>by have:=hp.2.2.2.2;rw [hr] at this;cases this).symm,bytesWorld_below w 5 s⟩
 ·have hks':((k:Int) == (s.size:Int))=false:=by simp only [beq_eq_false_iff_ne];omega
  go_wp2_with fail
  go_ret
  refine ⟨ret_bool ?_,bytesWorld_below w 5 s⟩
  cases hr:resB s
  ·rw [<-nspan_name h1 h2 hk HSP.out hr];simp;omega
  ·exact (nameB_false fun hp=>by have:=hp.2.2.2.2;rw [hr] at this;cases this).symm
theorem vname_any (s:ByteArray) (w:World):Calls Tryz.prog 173 #[.string s] w fun e w'=>e = .returned (.bool (nameB s))/\Below w.heap.size w w':=by
 by_cases h:1<=s.size/\s.size<=20
 ·exact vname_long s w h.1 h.2
 ·exact vname_short s w o_
theorem ret_int {k:IntKind} {a b:Int} (h:a=b):Ending.returned (.int k a) = .returned (.int k b):=by rw [h]
theorem in_any (v lo hi:Int) (w:World):Calls Tryz.prog 111 #[.int .i64 v,.int .i64 lo,.int .i64 hi] w fun e w'=>e = .returned (.bool (decide (lo<=v/\v<=hi)))/\w'=w:=by
 go_enter Tryz.func111,Tryz.ntmps111
 go_wp2
 all_goals go_ret
 all_goals (refine ⟨ret_bool ?_,rfl⟩;apply Bool.eq_iff_iff.2;simp <;> omega)
theorem wrap_any (v:Int) (w:World):Calls Tryz.prog 210 #[.int .i64 v] w fun e w'=>e = .returned (.int .i64 (wrap32 v))/\w'=w:=by
 go_enter Tryz.func210,Tryz.ntmps210
 go_wp2
 go_ret
 exact ⟨ret_int (by unfold wrap64 wrap32;omega),rfl⟩
theorem wrap32_eq (v:Int):v=wrap32 v ↔ -2147483648<=v/\v<=2147483647:=by
 unfold wrap32;omega
theorem arity_any (k v : Int) (s : ByteArray) (w : World) : Calls Tryz.prog 116 #[.agg #[.int .i64 k, .int .i64 v, .string s]] w fun e w' => e = .returned (.int .i64 (arity ⟨k, v, s⟩)) ∧ Below w.heap.size w w' := by
  go_enter Tryz.func116, Tryz.ntmps116
  go_wp2
  all_goals go_ret
  all_goals (refine ⟨ret_int ?_, (Below.refl _ _).alloc (Nat.le_refl _) _⟩; simp only [beq_iff_eq, beq_eq_false_iff_ne, ne_eq] at *; (try subst k); first | (exfalso; omega) | (simp [arity, *]; done))
theorem gnode1 (v:Int) (s:ByteArray) (w:World):Calls Tryz.prog 198 #[.agg #[.int .i64 1,.int .i64 v,.string s]] w fun e w'=>e = .returned (.bool (nodeB ⟨1,v,s⟩))/\Below w.heap.size w w':=by
  cases h:(v == wrap32 v)
  · go_enter Tryz.func198,Tryz.ntmps198
    go_wp2_with fail
    go_quiet ((go_at_call 210;exact Calls.quiet_of_same (wrap_any _ _)))
    go_wp2_with fail
    go_ret
    exact ⟨ret_bool (by have : ¬(v=wrap32 v):=by simpa using h
                        rw [wrap32_eq] at this
                        simp [nodeB];omega),below_drewN (bel_a _ _) _⟩
  · go_enter Tryz.func198,Tryz.ntmps198
    go_wp2_with fail
    go_quiet ((go_at_call 210;exact Calls.quiet_of_same (wrap_any _ _)))
    go_wp2_with fail
    go_ret
    exact ⟨ret_bool (by have:(v=wrap32 v):=by simpa using h
                        rw [wrap32_eq] at this
                        simp [nodeB,this]),below_drewN (bel_a _ _) _⟩
theorem gnode23 (k v:Int) (hk:k=2∨k=3) (s:ByteArray) (w:World):Calls Tryz.prog 198 #[.agg #[.int .i64 k,.int .i64 v,.string s]] w fun e w'=>e = .returned (.bool (nodeB ⟨k,v,s⟩))/\Below w.heap.size w w':=by
 by_cases h:v=0
 ·subst h
  rcases hk with rfl | rfl
  all_goals
   go_enter Tryz.func198,Tryz.ntmps198
   go_wp2_with (go_at_call 110;refine (name_any _ _).mono ?_;rintro e w' ⟨rfl,rfl⟩)
   go_ret
   exact ⟨ret_bool (by simp [nodeB]),(Below.refl _ _).alloc (Nat.le_refl _) _⟩
 ·have h':(v == 0)=false:=by simpa using h
  rcases hk with rfl | rfl
  all_goals
   go_enter Tryz.func198,Tryz.ntmps198
   go_wp2_with fail
   go_ret
   exact ⟨ret_bool (by simp [nodeB,h]),(Below.refl _ _).alloc (Nat.le_refl _) _⟩
theorem gnode4 (v:Int) (s:ByteArray) (w:World):Calls Tryz.prog 198 #[.agg #[.int .i64 4,.int .i64 v,.string s]] w fun e w'=>e = .returned (.bool (nodeB ⟨4,v,s⟩))/\Below w.heap.size w w':=by
 cases h:decide (0<=v/\v<=6)
 all_goals
  go_enter Tryz.func198,Tryz.ntmps198
  go_wp2_with (first | (go_at_call 111;refine (in_any _ _ _ _).mono ?_;rintro e w' ⟨rfl,rfl⟩;rw [h]) | (go_at_call 110;refine (name_any _ _).mono ?_;rintro e w' ⟨rfl,rfl⟩))
  go_ret
  exact ⟨ret_bool (by simp only [nodeB];simp [h]),(Below.refl _ _).alloc (Nat.le_refl _) _⟩
theorem gnode6 (v:Int) (s:ByteArray) (w:World):Calls Tryz.prog 198 #[.agg #[.int .i64 6,.int .i64 v,.string s]] w fun e w'=>e = .returned (.bool (nodeB ⟨6,v,s⟩))/\Below w.heap.size w w':=by
 cases h:decide (0<=v/\v<=2)
 all_goals
  go_enter Tryz.func198,Tryz.ntmps198
  go_wp2_with (first | (go_at_call 111;refine (in_any _ _ _ _).mono ?_;rintro e w' ⟨rfl,rfl⟩;rw [h]))
  go_ret
  exact ⟨ret_bool (by simp only [nodeB];simp [h]),(Below.refl _ _).alloc (Nat.le_refl _) _⟩
theorem gnode7 (v:Int) (s:ByteArray) (w:World):Calls Tryz.prog 198 #[.agg #[.int .i64 7,.int .i64 v,.string s]] w fun e w'=>e = .returned (.bool (nodeB ⟨7,v,s⟩))/\Below w.heap.size w w':=by
 cases h:decide (0<=v/\v<=15)
 all_goals
  go_enter Tryz.func198,Tryz.ntmps198
  go_wp2_with (first | (go_at_call 111;refine (in_any _ _ _ _).mono ?_;rintro e w' ⟨rfl,rfl⟩;rw [h]))
  go_ret
  exact ⟨ret_bool (by simp only [nodeB];simp [h]),(Below.refl _ _).alloc (Nat.le_refl _) _⟩
theorem gnode589 (k v:Int) (hk:k=5∨k=8∨k=9) (s:ByteArray) (w:World):Calls Tryz.prog 198 #[.agg #[.int .i64 k,.int .i64 v,.string s]] w fun e w'=>e = .returned (.bool (nodeB ⟨k,v,s⟩))/\Below w.heap.size w w':=by
 by_cases h:v=0
 ·subst h
  rcases hk with rfl | rfl | rfl
  all_goals
   go_enter Tryz.func198,Tryz.ntmps198
   go_wp2_with fail
   go_ret
   exact ⟨ret_bool (by simp [nodeB]),(Below.refl _ _).alloc (Nat.le_refl _) _⟩
 ·have h':(v == 0)=false:=by simpa using h
  rcases hk with rfl | rfl | rfl
  all_goals
   go_enter Tryz.func198,Tryz.ntmps198
   go_wp2_with fail
   go_ret
   exact ⟨ret_bool (by simp [nodeB,h]),(Below.refl _ _).alloc (Nat.le_refl _) _⟩
theorem gnodeX (k v:Int) (hk:k<1∨9<k) (s:ByteArray) (w:World):Calls Tryz.prog 198 #[.agg #[.int .i64 k,.int .i64 v,.string s]] w fun e w'=>e = .returned (.bool (nodeB ⟨k,v,s⟩))/\Below w.heap.size w w':=by
 have h1:(k == 1)=false:=by simp;omega
 have h2:(k == 2)=false:=by simp;omega
 have h3:(k == 3)=false:=by simp;omega
 have h4:(k == 4)=false:=by simp;omega
 have h5:(k == 5)=false:=by simp;omega
 have h6:(k == 6)=false:=by simp;omega
 have h7:(k == 7)=false:=by simp;omega
 have h8:(k == 8)=false:=by simp;omega
 have h9:(k == 9)=false:=by simp;omega
 have hn:nodeB ⟨k,v,s⟩=false:=by
  simp at h1 h2 h3 h4 h5 h6 h7 h8 h9
  simp [nodeB,h1,h2,h3,h4,h5,h6,h7,h8,h9]
 rw [hn]
 go_enter Tryz.func198,Tryz.ntmps198
 go_wp2_with fail
 go_ret
 exact ⟨rfl,(Below.refl _ _).alloc (Nat.le_refl _) _⟩
theorem gnode_any (n:Nd) (w:World):Calls Tryz.prog 198 #[.agg #[.int .i64 n.kind,.int .i64 n.val,.string n.name]] w fun e w'=>e = .returned (.bool (nodeB n))/\Below w.heap.size w w':=by
 obtain ⟨k,v,s⟩:=n
 by_cases hx:k<1∨9<k
 ·exact gnodeX k v hx s w
 ·have:k=1∨(k=2∨k=3)∨k=4∨k=6∨k=7∨(k=5∨k=8∨k=9):=by omega
  rcases this with rfl | h | rfl | rfl | rfl | h
  ·exact gnode1 v s w
  ·exact gnode23 k v h s w
  ·exact gnode4 v s w
  ·exact gnode6 v s w
  ·exact gnode7 v s w
  ·exact gnode589 k v h s w
end Go.Proofs.YtnpidjamplmgjaaGreatDoor
