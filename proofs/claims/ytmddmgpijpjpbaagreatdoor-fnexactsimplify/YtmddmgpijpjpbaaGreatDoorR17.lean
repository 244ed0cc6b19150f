import Derived.Test.YtmddmgpijpjpbaaGreatDoorR16
import Derived.Deep.RegionHeld
import Derived.Lib.AppendZeros
import Derived.OwnWalk
import Derived.Laws.OwnMore
import Derived.WalkSpells
import Derived.BigQuiet
import Derived.Deep.RegionHeld3
namespace Go.Proofs.YtmddmgpijpjpbaaGreatDoor
open Go.RowKit
set_option linter.unusedVariables false
set_option linter.unusedSimpArgs false
set_option maxRecDepth 100000
set_option maxHeartbeats 16000000
theorem own_lit (w:World) (B:Nat) (q:SV) (hb:B<=w.heap.size):(w.alloc (.cells #[.int .i64 q.s.kind,.string q.s.name,q.ve,q.vf,.int .i64 q.s.thn,.int .i64 q.s.els] 117)).ownsRow B 117 6 (.slice (some ⟨w.heap.size,0,none⟩) 1 1) 1 (flatS [q]):=
 World.ownsRow_lit w #[.int .i64 q.s.kind,.string q.s.name,q.ve,q.vf,.int .i64 q.s.thn,.int .i64 q.s.els] 1 hb (by decide) rfl
theorem srow_one {w w1:World} (q:SV) (hb:w.heap.size<=w1.heap.size) (he:NOne w.heap.size w1 q.ve q.s.e q.ke) (hf:NOne w.heap.size w1 q.vf q.s.f q.kf) (hn:(q.ke++q.kf).Nodup) :
  StRow w.heap.size (w1.alloc (.cells #[.int .i64 q.s.kind,.string q.s.name,q.ve,q.vf,.int .i64 q.s.thn,.int .i64 q.s.els] 117)) (.slice (some ⟨w1.heap.size,0,none⟩) 1 1) [q]:=by
 have hA:Bl w1 (w1.alloc (.cells #[.int .i64 q.s.kind,.string q.s.name,q.ve,q.vf,.int .i64 q.s.thn,.int .i64 q.s.els] 117)):=bel_a _ _
 refine ⟨own_lit w1 _ q hb,fun x hx => ?_,?_,fun g hg hm => ?_⟩
 ·simp only [List.mem_singleton] at hx
  subst hx
  exact ⟨he.keep hA.size fun g hg=>hA.block g (he.rng g hg).2,hf.keep hA.size fun g hg=>hA.block g (hf.rng g hg).2⟩
 ·simpa [blkS] using hn
 ·simp only [Value.ownBlock,Option.some.injEq] at hg
  subst hg
  simp only [blkS,List.flatMap_cons,List.flatMap_nil,List.append_nil,List.mem_append] at hm
  rcases hm with hm | hm
  ·have:=(he.rng _ hm).2;omega
  ·have:=(hf.rng _ hm).2;omega
def Lst (w w':World) (u:Value) (ss:List St):Prop:=∃R,StRow w.heap.size w' u R/\R.map (·.s)=ss
theorem info_stmt:(Tryz.prog.info? 117).map (fun i=>(i.zero,i.size,i.bytes))=some (some (.agg #[.int .i64 0,.string ⟨#[]⟩,.slice none 0 0,.slice none 0 0,.int .i64 0,.int .i64 0]),6,88):=by kernel_rfl
theorem run_appG {P:Program} {w:World} (base:Nat) (t ty e:TypeId) (i:TypeInfo) (z:Value) (size bytes:Nat) (ht:P.underlying t=some (.slice e)) (hi:P.info? e=some i) (hz:i.zero=some z)
  (hsize:i.size=size) (hby:i.bytes=bytes) (hzs:z.cells.size=size) (hsz:0<size) (v:Value) (n:Nat) (xs:List Value) (hown:w.ownsRow base e size v n xs)
  (a:Option Addr) (m c:Nat) (us:List Value) (hn:a=none->m=0) (hl:us.length=m*size) (hc : ∀ad,a=some ad->∀j u,us[j]? = some u->w.cell? (ad.add j)=some u) (h1 : ∀u∈us,u.oneCell'=true)
  (hm:n+m<=10000000) (hbb:bytes<=1000) (hbase:base<=w.heap.size) :
  ∃v' w',(Builtin.append_ #[t,t] ty #[v,.slice a m c]).run P w = .ok v' w'/\w'.ownsRow base e size v' (n+m) (xs++us)/\w.grownBy w' v.ownBlock/\∀k,v'.ownBlock=some k->v.ownBlock=some k∨w.heap.size<=k:=by
 cases a with
 | none=>
  obtain rfl:=hn rfl
  obtain rfl:us = []:=List.eq_nil_of_length_eq_zero (by omega)
  have hr:(Builtin.append_ #[t,t] ty #[v,.slice none 0 c]).run P w = .ok v w:=by
   rcases hown.2 with ⟨rfl,hn⟩ | ⟨g,cap',cur,rfl,_,_,hnc,_⟩
   ·simp [Builtin.append_,run_underlying ht,sizeOf,typeInfo,hi,Builtin.lenOf,Builtin.firstCells]
   ·simp [Builtin.append_,run_underlying ht,sizeOf,typeInfo,hi,Builtin.lenOf,Builtin.firstCells,hnc,storeCells]
  exact ⟨v,w,hr,by simpa using hown,⟨rfl,rfl,rfl,Nat.le_refl _,fun _ _ _=>rfl⟩,fun k hk=>.inl hk⟩
 | some ad=>exact app_freshG (P:=P) (w:=w) base t ty e i z size bytes ht hi hz hsize hby hzs hsz v n xs hown ad m c us hl (hc ad rfl) h1 hm hbb hbase
theorem wpList_appG {P:Program} {w:World} {ops:Array Oper} {rest:List Oper} {o:Oper} {a:Act} {Q:Exit->Act->World->Prop} (hgd:o.guard=none) (s x:Operand) (t:TypeId)
  (ho:o.op = .call {callee:=.builtin .append,args:=#[s,x],argTypes:=#[t,t]}) (v vx v':Value) (w':World) (hs:a.eval s=v) (hx:a.eval x=vx)
  (hr:(Builtin.append_ #[t,t] o.type #[v,vx]).run P w = .ok v' w') (h:wpList P ops Q rest (a.put o.dst v') w'):wpList P ops Q (o::rest) a w:=by
 refine wpList_plain hgd fun K hK => ?_
 unfold Oper.wp execOp
 simp only [ho,resolve,invoke,builtin,Sem.run_bind,Sem.run_pure,Result.andThen_ok,List.map_toArray,List.map_cons,List.map_nil,hs,hx,hr]
 exact hK _ _ h
theorem flatS_one (R:List SV) (h : ∀q∈R,q.ve.oneCell'=true/\q.vf.oneCell'=true) : ∀u∈flatS R,u.oneCell'=true:=by
 intro u hu
 simp only [flatS,List.mem_flatMap] at hu
 obtain ⟨q,hq,hu⟩:=hu
 obtain ⟨h1,h2⟩:=h q hq
 simp only [cellsS,List.mem_cons,List.not_mem_nil,or_false] at hu
 rcases hu with rfl | rfl | rfl | rfl | rfl | rfl
 ·rfl
 ·rfl
 ·exact h1
 ·exact h2
 ·rfl
 ·rfl
theorem NOne.cell1 {B:Nat} {w:World} {v:Value} {ns:List Nd} {K:List Nat} (h:NOne B w v ns K):v.oneCell'=true:=by
 rcases h with ⟨-,-,a,c,rfl,-⟩ | ⟨g,cap,rfl,-⟩ <;> rfl
theorem srow_app {w:World} {B:Nat} {v u:Value} {R R2:List SV} (ty:TypeId) (h:StRow B w v R) (h2:StRow B w u R2) (hB:B<=w.heap.size) (hsep : ∀x∈blkS R,∀y∈blkS R2,x≠y) (hv : ∀g,v.ownBlock=some g->g∉blkS R2) (hm:R.length+R2.length<=100000) :
  ∃v' w',(Builtin.append_ #[83,83] ty #[v,u]).run Tryz.prog w = .ok v' w'/\StRow B w' v' (R++R2)/\w.grownBy w' v.ownBlock/\∀k,v'.ownBlock=some k->v.ownBlock=some k∨w.heap.size<=k:=by
 obtain ⟨i0,hi,hz0,hz1,hz2⟩:=info_parts info_stmt
 obtain ⟨a,c,rfl⟩:=h2.shape
 have hcell : ∀ad,a=some ad->∀j x,(flatS R2)[j]? = some x->w.cell? (ad.add j)=some x:=fun ad hh j x hj=>by
  subst hh
  rcases h2.row.2 with ⟨he,-⟩ | ⟨g,cap,cur,he,-⟩
  ·simp at he
  ·simp only [Value.slice.injEq,Option.some.injEq] at he
   obtain ⟨rfl,-,-⟩:=he
   exact World.ownsRow.cells h2.row (g:=g) rfl j x hj
 have hnil:a=none->R2.length=0:=fun hh=>by
  subst hh
  rcases h2.row.2 with ⟨-,hz⟩ | ⟨g,cap,cur,he,-⟩
  ·exact hz
  ·simp at he
 obtain ⟨v',w',r1,r2,r3,r4⟩:=run_appG (P:=Tryz.prog) (w:=w) B 83 ty 117 i0 _ 6 88 Tryz.underlying83 hi hz0 hz1 hz2 rfl (by decide) v R.length (flatS R) h.row a R2.length c (flatS R2) hnil (flatS_len R2) hcell (flatS_one R2 fun q hq=>⟨(h2.each q hq).1.cell1,(h2.each q hq).2.cell1⟩) (by omega) (by decide) hB
 refine ⟨v',w',r1,⟨by rw [l_a,flatS_append];exact r2,fun q hq => ?_,?_,fun g hg hmem => ?_⟩,r3,r4⟩
 ·have hk : ∀g∈blkS (R++R2),w'.heap[g]? = w.heap[g]? := fun g hg=>by
   rw [blkS_append] at hg
   rcases List.mem_append.1 hg with hg | hg
   ·exact r3.block g (h.rng g hg).2 (fun e=>h.out g e.symm hg)
   ·exact r3.block g (h2.rng g hg).2 (fun e=>hv g e.symm hg)
  have hm2:=mem_blk hq
  rcases List.mem_append.1 hq with hq' | hq'
  ·exact ⟨(h.each q hq').1.keep r3.size fun g hg=>hk g (hm2.1 g hg),(h.each q hq').2.keep r3.size fun g hg=>hk g (hm2.2 g hg)⟩
  ·exact ⟨(h2.each q hq').1.keep r3.size fun g hg=>hk g (hm2.1 g hg),(h2.each q hq').2.keep r3.size fun g hg=>hk g (hm2.2 g hg)⟩
 ·rw [blkS_append,List.nodup_append]
  exact ⟨h.nd,h2.nd,hsep⟩
 ·rw [blkS_append] at hmem
  rcases r4 g hg with hg' | hg'
  ·rcases List.mem_append.1 hmem with hmem | hmem
   ·exact h.out g hg' hmem
   ·exact hv g hg' hmem
  ·rcases List.mem_append.1 hmem with hmem | hmem
   ·have:=(h.rng g hmem).2;omega
   ·have:=(h2.rng g hmem).2;omega
theorem info_stm:(Tryz.prog.info? 117).map (fun i=>(i.zero,i.size,i.bytes))=some (some (.agg #[.int .i64 0,.string ⟨#[]⟩,.slice none 0 0,.slice none 0 0,.int .i64 0,.int .i64 0]),6,88):=by kernel_rfl
theorem clone_stm (a:Option Addr) (n cap:Nat) (us:List Value) (w:World) (hn:a=none->n=0) (hl:us.length=n*6) (hc : ∀ad,a=some ad->∀j u,us[j]? = some u->w.cell? (ad.add j)=some u) (h1 : ∀u∈us,u.oneCell'=true) (hm:n<=2000000) :
  Calls Tryz.prog 111 #[.slice a n cap] w fun e w'=>∃u,e = .returned u/\w'.ownsRow w.heap.size 117 6 u n us/\Below w.heap.size w w':=by
 obtain ⟨i0,hi,hz0,hz1,hz2⟩:=info_parts info_stm
 cases a with
 | none=>
  obtain rfl:=hn rfl
  obtain rfl:us = []:=List.eq_nil_of_length_eq_zero (by omega)
  have hnil : ∀w:World,(binOp .eql 83 (.slice none 0 cap) (.slice none 0 0)).run Tryz.prog w = .ok (.bool true) w:=fun w=>Lib.run_eql_slice_nil w 83 117 none 0 cap 0 0 Tryz.underlying83
  go_enter Tryz.func111,Tryz.ntmps111
  go_wp2
  go_ret
  exact ⟨_,rfl,World.ownsRow_nil _ _ _ _,Below.refl _ _⟩
 | some ad=>
  have hnil : ∀w:World,(binOp .eql 83 (.slice (some ad) n cap) (.slice none 0 0)).run Tryz.prog w = .ok (.bool false) w:=fun w=>Lib.run_eql_slice_nil w 83 117 (some ad) n cap 0 0 Tryz.underlying83
  have hA:Bl w (w.alloc (.cells #[] 117)):=bel_a _ _
  obtain ⟨v',w',r1,r2,r3,-⟩:=run_appG (P:=Tryz.prog) (w:=w.alloc (.cells #[] 117)) w.heap.size 83 83 117 i0 _ 6 88 Tryz.underlying83 hi hz0 hz1 hz2 rfl (by decide) (.slice (some ⟨w.heap.size,0,none⟩) 0 0) 0 [] (World.ownsRow_lit w #[] 0 (Nat.le_refl _) (by decide) rfl) (some ad) n cap us (fun h=>by cases h) hl (fun x hx j u hu=>(hA.cell (p:=x.add j) (World.block_lt_of_cell? _ _ (hc x hx j u hu))).trans (hc x hx j u hu)) h1 (by omega) (by decide) (by simp)
  have hb:Bl w w':=hA.grown r3 (by simp) (fun g hg=>by simp only [Value.ownBlock,Option.some.injEq] at hg;omega)
  rw [Nat.zero_add,List.nil_append] at r2
  have HR:=hide r2
  obtain ⟨va,vn,vc,rfl⟩ : ∃va vn vc,v' = .slice va vn vc:=by
   rcases r2.2 with ⟨rfl,_⟩ | ⟨g,cp,cur,rfl,_⟩
   ·exact ⟨_,_,_,rfl⟩
   ·exact ⟨_,_,_,rfl⟩
  go_enter Tryz.func111,Tryz.ntmps111
  go_wp2_with (at_builtin;refine wpList_appG rfl _ _ _ rfl _ _ (.slice va vn vc) w' rfl rfl r1 ?_)
  go_wp2_with fail
  go_ret
  exact ⟨_,rfl,HR.out,hb⟩
theorem info_str:(Tryz.prog.info? 9).map (fun i=>(i.zero,i.size,i.bytes))=some (some (.string ⟨#[]⟩),1,16):=by kernel_rfl
theorem clone_str (a:Option Addr) (n cap:Nat) (us:List Value) (w:World) (hn:a=none->n=0) (hl:us.length=n*1) (hc : ∀ad,a=some ad->∀j u,us[j]? = some u->w.cell? (ad.add j)=some u) (h1 : ∀u∈us,u.oneCell'=true) (hm:n<=2000000) :
  Calls Tryz.prog 73 #[.slice a n cap] w fun e w'=>∃u,e = .returned u/\w'.ownsRow w.heap.size 9 1 u n us/\Below w.heap.size w w':=by
 obtain ⟨i0,hi,hz0,hz1,hz2⟩:=info_parts info_str
 cases a with
 | none=>
  obtain rfl:=hn rfl
  obtain rfl:us = []:=List.eq_nil_of_length_eq_zero (by omega)
  have hnil : ∀w:World,(binOp .eql 82 (.slice none 0 cap) (.slice none 0 0)).run Tryz.prog w = .ok (.bool true) w:=fun w=>Lib.run_eql_slice_nil w 82 9 none 0 cap 0 0 Tryz.underlying82
  go_enter Tryz.func73,Tryz.ntmps73
  go_wp2
  go_ret
  exact ⟨_,rfl,World.ownsRow_nil _ _ _ _,Below.refl _ _⟩
 | some ad=>
  have hnil : ∀w:World,(binOp .eql 82 (.slice (some ad) n cap) (.slice none 0 0)).run Tryz.prog w = .ok (.bool false) w:=fun w=>Lib.run_eql_slice_nil w 82 9 (some ad) n cap 0 0 Tryz.underlying82
  have hA:Bl w (w.alloc (.cells #[] 9)):=bel_a _ _
  obtain ⟨v',w',r1,r2,r3,-⟩:=run_appG (P:=Tryz.prog) (w:=w.alloc (.cells #[] 9)) w.heap.size 82 82 9 i0 _ 1 16 Tryz.underlying82 hi hz0 hz1 hz2 rfl (by decide) (.slice (some ⟨w.heap.size,0,none⟩) 0 0) 0 [] (World.ownsRow_lit w #[] 0 (Nat.le_refl _) (by decide) rfl) (some ad) n cap us (fun h=>by cases h) hl (fun x hx j u hu=>(hA.cell (p:=x.add j) (World.block_lt_of_cell? _ _ (hc x hx j u hu))).trans (hc x hx j u hu)) h1 (by omega) (by decide) (by simp)
  have hb:Bl w w':=hA.grown r3 (by simp) (fun g hg=>by simp only [Value.ownBlock,Option.some.injEq] at hg;omega)
  rw [Nat.zero_add,List.nil_append] at r2
  have HR:=hide r2
  obtain ⟨va,vn,vc,rfl⟩ : ∃va vn vc,v' = .slice va vn vc:=by
   rcases r2.2 with ⟨rfl,_⟩ | ⟨g,cp,cur,rfl,_⟩
   ·exact ⟨_,_,_,rfl⟩
   ·exact ⟨_,_,_,rfl⟩
  go_enter Tryz.func73,Tryz.ntmps73
  go_wp2_with (at_builtin;refine wpList_appG rfl _ _ _ rfl _ _ (.slice va vn vc) w' rfl rfl r1 ?_)
  go_wp2_with fail
  go_ret
  exact ⟨_,rfl,HR.out,hb⟩
theorem info_glb:(Tryz.prog.info? 58).map (fun i=>(i.zero,i.size,i.bytes))=some (some (.agg #[.string ⟨#[]⟩,.int .i64 0]),2,24):=by kernel_rfl
theorem clone_glb (a:Option Addr) (n cap:Nat) (us:List Value) (w:World) (hn:a=none->n=0) (hl:us.length=n*2) (hc : ∀ad,a=some ad->∀j u,us[j]? = some u->w.cell? (ad.add j)=some u) (h1 : ∀u∈us,u.oneCell'=true) (hm:n<=2000000) :
  Calls Tryz.prog 43 #[.slice a n cap] w fun e w'=>∃u,e = .returned u/\w'.ownsRow w.heap.size 58 2 u n us/\Below w.heap.size w w':=by
 obtain ⟨i0,hi,hz0,hz1,hz2⟩:=info_parts info_glb
 cases a with
 | none=>
  obtain rfl:=hn rfl
  obtain rfl:us = []:=List.eq_nil_of_length_eq_zero (by omega)
  have hnil : ∀w:World,(binOp .eql 31 (.slice none 0 cap) (.slice none 0 0)).run Tryz.prog w = .ok (.bool true) w:=fun w=>Lib.run_eql_slice_nil w 31 58 none 0 cap 0 0 Tryz.underlying31
  go_enter Tryz.func43,Tryz.ntmps43
  go_wp2
  go_ret
  exact ⟨_,rfl,World.ownsRow_nil _ _ _ _,Below.refl _ _⟩
 | some ad=>
  have hnil : ∀w:World,(binOp .eql 31 (.slice (some ad) n cap) (.slice none 0 0)).run Tryz.prog w = .ok (.bool false) w:=fun w=>Lib.run_eql_slice_nil w 31 58 (some ad) n cap 0 0 Tryz.underlying31
  have hA:Bl w (w.alloc (.cells #[] 58)):=bel_a _ _
  obtain ⟨v',w',r1,r2,r3,-⟩:=run_appG (P:=Tryz.prog) (w:=w.alloc (.cells #[] 58)) w.heap.size 31 31 58 i0 _ 2 24 Tryz.underlying31 hi hz0 hz1 hz2 rfl (by decide) (.slice (some ⟨w.heap.size,0,none⟩) 0 0) 0 [] (World.ownsRow_lit w #[] 0 (Nat.le_refl _) (by decide) rfl) (some ad) n cap us (fun h=>by cases h) hl (fun x hx j u hu=>(hA.cell (p:=x.add j) (World.block_lt_of_cell? _ _ (hc x hx j u hu))).trans (hc x hx j u hu)) h1 (by omega) (by decide) (by simp)
  have hb:Bl w w':=hA.grown r3 (by simp) (fun g hg=>by simp only [Value.ownBlock,Option.some.injEq] at hg;omega)
  rw [Nat.zero_add,List.nil_append] at r2
  have HR:=hide r2
  obtain ⟨va,vn,vc,rfl⟩ : ∃va vn vc,v' = .slice va vn vc:=by
   rcases r2.2 with ⟨rfl,_⟩ | ⟨g,cp,cur,rfl,_⟩
   ·exact ⟨_,_,_,rfl⟩
   ·exact ⟨_,_,_,rfl⟩
  go_enter Tryz.func43,Tryz.ntmps43
  go_wp2_with (at_builtin;refine wpList_appG rfl _ _ _ rfl _ _ (.slice va vn vc) w' rfl rfl r1 ?_)
  go_wp2_with fail
  go_ret
  exact ⟨_,rfl,HR.out,hb⟩
def FoldR (e r:List Nd):Prop:=if e.length<=2000/\oneB e=true then Fd apN e r else r = []
theorem FoldR.exists (e:List Nd) : ∃r,FoldR e r:=by
 unfold FoldR
 split
 ·rename_i h
  exact Fd.exists apN e.length e (Nat.le_refl _) h.2
 ·exact ⟨[],rfl⟩
theorem FoldR.yes {e r:List Nd} (h:FoldR e r) (h1:e.length<=2000) (h2:oneB e=true):Fd apN e r:=by
 unfold FoldR at h
 rw [if_pos ⟨h1,h2⟩] at h
 exact h
theorem FoldR.no {e r:List Nd} (h:FoldR e r) (h1:e.length<=2000->oneB e=false):r = []:=by
 unfold FoldR at h
 rw [if_neg (by rintro ⟨a,b⟩;rw [h1 a] at b;cases b)] at h
 exact h
theorem FoldR.len {e r:List Nd} (h:FoldR e r):r.length<=2000:=by
 unfold FoldR at h
 split at h
 ·rename_i h1
  have:=h.len
  omega
 ·subst h;simp
theorem NFree.mono {B B':Nat} {w:World} {v:Value} {ns:List Nd} (h:NFree B w v ns) (hB:B'<=B):NFree B' w v ns:=by
 obtain ⟨g,cap,e,h1,h2,h3,h4⟩:=h
 exact ⟨g,cap,e,h1,h2,Nat.le_trans hB h3,h4⟩
theorem nfree_nil (w:World) (B:Nat) (hB:B<=w.heap.size) (t:TypeId):NFree B (w.alloc (.cells #[] t)) (.slice (some ⟨w.heap.size,0,none⟩) 0 0) []:=
 ⟨w.heap.size,0,rfl,Nat.le_refl _,by omega,hB,by simp,fun j hj=>absurd hj (by simp),fun j hj=>absurd hj (by simp)⟩
theorem foldI_any (v:Value) (e r:List Nd) (w:World) (hT:Tab w) (hl:e.length<=1048576) (hN:Nodes w v e) (hr:FoldR e r) :
  Calls Tryz.prog 112 #[v] w fun x w'=>∃u,x = .returned u/\NFree w.heap.size w' u r/\Below w.heap.size w w':=by
 have HN:=hide hN
 have HT:=hide hT
 have HR:=hide hr
 have hsz:=hT.size
 obtain ⟨a,cap,rfl,hcl,hcm,-⟩:=hN
 by_cases h2:2000<e.length
 ·obtain rfl:=HR.out.no (fun h=>absurd h (by omega))
  go_enter Tryz.func112,Tryz.ntmps112
  go_wp2_with fail
  go_ret
  exact ⟨_,rfl,nfree_nil w _ (Nat.le_refl _) _,(Below.refl _ _).alloc (Nat.le_refl _) _⟩
 ·go_enter Tryz.func112,Tryz.ntmps112
  go_wp2_with fail
  refine (one_any _ e _ HT.out (by omega) HN.out).mono ?_
  rintro x w1 ⟨rfl,hb1⟩
  have HB1:=hide hb1
  cases ho:oneB e
  ·obtain rfl:=HR.out.no (fun _=>ho)
   go_wp2_with fail
   go_ret
   exact ⟨_,rfl,nfree_nil w1 _ HB1.out.size _,HB1.out.alloc HB1.out.size _⟩
  ·have HO:=hide ho
   have HF:Hid (Fd apN e r):=HR.out.yes (by omega) ho
   have HLen:Hid (r.length<=2000):=HR.out.len
   go_wp2_with fail
   refine (mapped_any _ e r _ (HT.out.below hsz HB1.out) (HN.out.below HB1.out) HO.out (by omega) HF.out).mono ?_
   rintro x w2 ⟨u,S,rfl,hT2,hS2,hb2⟩
   have HT2:=hide hT2
   have HS2:Hid (∀B,S B->B<w2.heap.size):=fun B hB=>(hS2 B hB).2
   have HB2:Hid (Bl w w2):=HB1.out.trans (hb2.mono HB1.out.size)
   obtain ⟨ta,tb,rfl⟩:=hT2.isI
   go_wp2_with fail
   refine (lowered_any _ r S _ HS2.out HT2.out HLen.out).mono ?_
   rintro x w3 ⟨v3,rfl,h3,hb3⟩
   have HN3:=hide h3
   have HB3:Hid (Bl w w3):=HB2.out.trans (hb3.mono HB2.out.size)
   obtain ⟨g3,c3,rfl,-⟩:=h3
   go_wp2_with fail
   go_ret
   exact ⟨_,rfl,HN3.out.mono HB2.out.size,HB3.out⟩
def FoldS (s r:St):Prop:=r.kind=s.kind/\r.name=s.name/\r.thn=s.thn/\r.els=s.els/\FoldR s.e r.e/\FoldR s.f r.f
def FoldB (ss rs:List St):Prop:=rs.length=ss.length/\∀j (h:j<ss.length) (h':j<rs.length),FoldS ss[j] rs[j]
theorem FoldB.exists : ∀ss:List St,∃rs,FoldB ss rs
 | []=>⟨[],rfl,fun j h=>absurd h (by simp)⟩
 | s::l=>by
  obtain ⟨rs,h1,h2⟩:=FoldB.exists l
  obtain ⟨re,hre⟩:=FoldR.exists s.e
  obtain ⟨rf,hrf⟩:=FoldR.exists s.f
  refine ⟨{s with e:=re,f:=rf}::rs,by simp [h1],fun j h h' => ?_⟩
  cases j with
  | zero=>exact ⟨rfl,rfl,rfl,rfl,hre,hrf⟩
  | succ j=>exact h2 j (by simpa using h) (by simpa using h')
theorem flatS_set : ∀(Q:List SV) (k:Nat) (hk:k<Q.length) (x:SV),x.s.kind=Q[k].s.kind->x.s.name=Q[k].s.name->x.s.thn=Q[k].s.thn->x.s.els=Q[k].s.els->((flatS Q).set (k*6+2) x.ve).set (k*6+3) x.vf=flatS (Q.set k x)
 | [],k,hk,_,_,_,_,_=>absurd hk (by simp)
 | a::l,0,_,x,h1,h2,h3,h4=>by
  simp only [List.getElem_cons_zero] at h1 h2 h3 h4
  simp [flatS,cellsS,h1,h2,h3,h4]
 | a::l,k+1,hk,x,h1,h2,h3,h4=>by
  have ih:=flatS_set l k (by simpa using hk) x (by simpa using h1) (by simpa using h2) (by simpa using h3) (by simpa using h4)
  have e1:(k+1)*6+2=(k*6+2)+6:=by omega
  have e2:(k+1)*6+3=(k*6+3)+6:=by omega
  show ((cellsS a++flatS l).set ((k+1)*6+2) x.ve).set ((k+1)*6+3) x.vf=cellsS a++flatS (l.set k x)
  rw [<-ih,e1,e2]
  rfl
theorem stmts_sv {w:World} {v:Value} {ss:List St} (h:Stmts w v ss) : ∃a cap,∃R:List SV,v = .slice a ss.length cap/\R.length=ss.length/\(∀j (h:j<ss.length) (h':j<R.length),R[j].s=ss[j]/\Nodes w R[j].ve ss[j].e/\Nodes w R[j].vf ss[j].f)/\(∀ad,a=some ad->∀j u,(flatS R)[j]? = some u->w.cell? (ad.add j)=some u)/\(a=none->ss.length=0):=by
 obtain ⟨a,cap,rfl,-,-,hc⟩:=h
 by_cases h0:0<ss.length
 ·obtain ⟨b,off,rfl,hC⟩:=hc h0
  have hC' : ∀j:Fin ss.length,∃p:Value × Value,(w.cell? ⟨b,off+j*6,none⟩=some (.int .i64 ss[j].kind)/\w.cell? ⟨b,off+j*6+1,none⟩=some (.string ss[j].name)/\w.cell? ⟨b,off+j*6+2,none⟩=some p.1/\w.cell? ⟨b,off+j*6+3,none⟩=some p.2/\w.cell? ⟨b,off+j*6+4,none⟩=some (.int .i64 ss[j].thn)/\w.cell? ⟨b,off+j*6+5,none⟩=some (.int .i64 ss[j].els))/\Nodes w p.1 ss[j].e/\Nodes w p.2 ss[j].f:=fun j=>by
   obtain ⟨ve,vf,h⟩:=hC j.1 j.2
   exact ⟨(ve,vf),h⟩
  obtain ⟨f,hf⟩:=Classical.axiomOfChoice hC'
  refine ⟨_,cap,List.ofFn (fun j:Fin ss.length=>(⟨ss[j],(f j).1,(f j).2,[],[]⟩:SV)),rfl,by simp,fun j h h' => ?_,fun ad had j u hu => ?_,fun h=>by cases h⟩
  ·rw [List.getElem_ofFn]
   exact ⟨rfl,(hf ⟨j,h⟩).2.1,(hf ⟨j,h⟩).2.2⟩
  ·cases had
   have hl:=(List.getElem?_eq_some_iff.1 hu).1
   rw [flatS_len,List.length_ofFn] at hl
   obtain ⟨m,i,rfl,hi,hm⟩ : ∃m i,j=m*6+i/\i<6/\m<ss.length:=⟨j / 6,j % 6,by omega,by omega,by omega⟩
   rw [flatS_get _ m i (by simpa using hm) hi,List.getElem_ofFn] at hu
   obtain ⟨⟨c0,c1,c2,c3,c4,c5⟩,-⟩:=hf ⟨m,hm⟩
   rw [addrO,<-Nat.add_assoc]
   match i,hi with
   | 0,_=>exact c0.trans hu
   | 1,_=>exact c1.trans hu
   | 2,_=>exact c2.trans hu
   | 3,_=>exact c3.trans hu
   | 4,_=>exact c4.trans hu
   | 5,_=>exact c5.trans hu
 ·have h1:ss.length=0:=by omega
  exact ⟨a,cap,[],rfl,by simp [h1],fun j h=>absurd h (by omega),fun ad _ j u hu=>by simp [flatS] at hu,fun _=>h1⟩
theorem Nodes.cell1 {w:World} {v:Value} {ns:List Nd} (h:Nodes w v ns):v.oneCell'=true:=by
 obtain ⟨a,c,rfl,-⟩:=h
 rfl
structure FoldI (w:World) (B:Nat) (ss rs:List St) (k:Nat) (Q:List SV) (W:World) (u:Value):Prop where
 len:Q.length=ss.length
 row:W.ownsRow w.heap.size 117 6 u ss.length (flatS Q)
 done : ∀j (h:j<Q.length) (h':j<rs.length),j<k->Q[j].s=rs[j]/\NFree B W Q[j].ve rs[j].e/\NFree B W Q[j].vf rs[j].f
 todo : ∀j (h:j<Q.length) (h':j<ss.length),k<=j->Q[j].s=ss[j]/\Nodes w Q[j].ve ss[j].e/\Nodes w Q[j].vf ss[j].f
theorem FoldI.stmts {w:World} {B:Nat} {ss rs:List St} {Q:List SV} {W:World} {u:Value} (h:FoldI w B ss rs ss.length Q W u) (hB:FoldB ss rs):Stmts W u rs:=by
 have hl:=h.len
 have hr:=hB.1
 obtain ⟨hx,⟨rfl,h0⟩ | ⟨g,cap,cur,rfl,-,hh,hc1,hc2,-⟩⟩:=h.row
 ·exact ⟨none,0,by rw [hr,h0],by omega,by decide,fun hp=>absurd hp (by omega)⟩
 ·refine ⟨some ⟨g,0,none⟩,cap,by rw [hr],by omega,hc2,fun _=>⟨g,0,rfl,fun j hj => ?_⟩⟩
  have hj':j<Q.length:=by omega
  obtain ⟨d1,d2,d3⟩:=h.done j hj' hj (by omega)
  have hcell : ∀i,i<6->W.cell? ⟨g,0+j*6+i,none⟩=(cellsS Q[j])[i]? := fun i hi=>by
   rw [Nat.zero_add,h.row.cellAt (j*6+i) (by omega),flatS_get Q j i hj' hi]
  rw [<-d1]
  refine ⟨Q[j].ve,Q[j].vf,⟨hcell 0 (by omega),hcell 1 (by omega),hcell 2 (by omega),hcell 3 (by omega),hcell 4 (by omega),hcell 5 (by omega)⟩,?_,?_⟩
  ·rw [d1];exact d2.nodes
  ·rw [d1];exact d3.nodes
theorem NFree.blk {B:Nat} {w w':World} {v:Value} {ns:List Nd} (h:NFree B w v ns) (hs:w.heap.size<=w'.heap.size) (hb : ∀g,B<=g->g<w.heap.size->w'.heap[g]? = w.heap[g]?):NFree B w' v ns:=by
 obtain ⟨g,cap,rfl,h1,h2,h3,h4,h5,h6⟩:=h
 have e:=hb g h3 h4
 refine ⟨g,cap,rfl,h1,h2,h3,by omega,fun j hj => ?_,fun j hj=>(World.frozen?_of_block (a:=⟨g,j,none⟩) e).trans (h6 j hj)⟩
 obtain ⟨c0,c1,c2⟩:=h5 j hj
 exact ⟨(World.cell?_of_block (a:=⟨g,0+j*3,none⟩) e).trans c0,(World.cell?_of_block (a:=⟨g,0+j*3+1,none⟩) e).trans c1,(World.cell?_of_block (a:=⟨g,0+j*3+2,none⟩) e).trans c2⟩
theorem World.ownsRow.bel {w w':World} {base:Nat} {e:TypeId} {size n:Nat} {v:Value} {xs:List Value} (h:w.ownsRow base e size v n xs) (hb:Below w.heap.size w w'):w'.ownsRow base e size v n xs:=by
 obtain ⟨hx,h | ⟨g,cap,cur,rfl,h1,h2,h3⟩⟩:=h
 ·exact ⟨hx,.inl h⟩
 ·have hlt:g<w.heap.size:=by
   rcases Nat.lt_or_ge g w.heap.size with h | h
   ·exact h
   ·rw [Array.getElem?_eq_none h] at h2;cases h2
  exact ⟨hx,.inr ⟨g,cap,cur,rfl,h1,(hb.block g hlt).trans h2,h3⟩⟩
theorem FoldI.next {w:World} {B k g n cp:Nat} {ss rs:List St} {Q:List SV} {W W1:World} {v1 v2:Value} (h:FoldI w B ss rs k Q W (.slice (some ⟨g,0,none⟩) n cp)) (hF:FoldB ss rs) (hk:k<ss.length) (hk':k<rs.length) (hn:n=ss.length) (hg:g<B) (hb:Below W.heap.size W W1) (h1:NFree B W1 v1 rs[k].e) (h2:NFree B W1 v2 rs[k].f) (hB:B<=W.heap.size) :
  ∃Q',FoldI w B ss rs (k+1) Q' ((W1.setCell ⟨g,k*6+2,none⟩ v1).setCell ⟨g,k*6+3,none⟩ v2) (.slice (some ⟨g,0,none⟩) n cp):=by
 subst hn
 have hl:=h.len
 have hkQ:k<Q.length:=by omega
 obtain ⟨t1,-,-⟩:=h.todo k hkQ hk (Nat.le_refl _)
 obtain ⟨f1,f2,f3,f4,-⟩:=hF.2 k hk hk'
 have hset:=flatS_set Q k hkQ ⟨rs[k],v1,v2,[],[]⟩ (by rw [t1];exact f1) (by rw [t1];exact f2) (by rw [t1];exact f3) (by rw [t1];exact f4)
 have hfree : ∀ {v:Value} {ns:List Nd},NFree B W1 v ns->NFree B ((W1.setCell ⟨g,k*6+2,none⟩ v1).setCell ⟨g,k*6+3,none⟩ v2) v ns:=fun h=>h.blk (by simp) (fun x hx _=>by rw [Below.heap_setCell _ _ _ _ (by show x≠g;omega),Below.heap_setCell _ _ _ _ (by show x≠g;omega)])
 have hold : ∀ {v:Value} {ns:List Nd},NFree B W v ns->NFree B W1 v ns:=fun h=>h.blk hb.size (fun x _ hx=>hb.block x hx)
 refine ⟨Q.set k ⟨rs[k],v1,v2,[],[]⟩,by simp [hl],?_,fun j h3 h4 h5 => ?_,fun j h3 h4 h5 => ?_⟩
 ·rw [<-hset]
  exact (((World.ownsRow.bel h.row hb).stored (k*6+2) v1).1.stored (k*6+3) v2).1
 ·rw [List.getElem_set]
  by_cases e:k=j
  ·subst e
   rw [if_pos rfl]
   exact ⟨rfl,hfree h1,hfree h2⟩
  ·rw [if_neg e]
   obtain ⟨d1,d2,d3⟩:=h.done j (by simpa using h3) h4 (by omega)
   exact ⟨d1,hfree (hold d2),hfree (hold d3)⟩
 ·rw [List.getElem_set,if_neg (by omega)]
  exact h.todo j (by simpa using h3) h4 (by omega)
end Go.Proofs.YtmddmgpijpjpbaaGreatDoor
