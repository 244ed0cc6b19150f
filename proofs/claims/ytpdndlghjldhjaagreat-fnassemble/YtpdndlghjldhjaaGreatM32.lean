import Derived.Test.YtpdndlghjldhjaaGreatM28
import Derived.Test.YtpdndlghjldhjaaGreatM15
import Derived.Test.YtpdndlghjldhjaaGreatM31
import Derived.OwnWalk
import Derived.Lib.AppendZeros
set_option linter.unusedSectionVars false
variable [Inhabited Go.Proofs.YtpdndlghjldhjaaGreat.Pick]
namespace Go.Proofs.YtpdndlghjldhjaaGreat
set_option linter.unusedVariables false
set_option linter.unusedSimpArgs false
set_option maxRecDepth 100000
set_option maxHeartbeats 16000000
section
open Go.RowKit
theorem flatI_at (its:List It) (j i:Nat) (hj:j<its.length) (hi:i<7):(flatI its)[j*7+i]? = (cellsI its[j])[i]? := by
 induction its generalizing j with
 | nil=>simp at hj
 | cons x r ih=>
  have hx:(cellsI x).length=7:=rfl
  have e:flatI (x::r)=cellsI x++flatI r:=rfl
  rw [e]
  cases j with
  | zero=>rw [List.getElem?_append_left (by omega)];simp
  | succ j=>
   rw [List.getElem?_append_right (by omega),show (j+1)*7+i-(cellsI x).length=j*7+i by omega]
   exact ih j (by simpa using hj)
theorem flatI_upd {its:List It} {k i:Nat} {x:It} {u:Value} (hk:k<its.length) (hi:i<7) (h:cellsI x=(cellsI its[k]).set i u):flatI (its.set k x)=(flatI its).set (k*7+i) u:=by
 induction its generalizing k with
 | nil=>simp at hk
 | cons y r ih=>
  have hy:(cellsI y).length=7:=rfl
  have e:flatI (y::r)=cellsI y++flatI r:=rfl
  rw [e]
  cases k with
  | zero=>
   have e2:flatI ((y::r).set 0 x)=cellsI x++flatI r:=rfl
   rw [e2,List.set_append_left _ _ (by omega),h]
   simp
  | succ k=>
   have e2:flatI ((y::r).set (k+1) x)=cellsI y++flatI (r.set k x):=rfl
   rw [e2,List.set_append_right _ _ (by omega),show (k+1)*7+i-(cellsI y).length=k*7+i by omega,ih (by simpa using hk) (by simpa using h)]
theorem GRow.shape {B:Nat} {w:World} {v:Value} {its:List It} (h:GRow B w v its) : ∃a c,v = .slice a its.length c:=by
 rcases h.2 with ⟨rfl,hz⟩ | ⟨g,cap,cur,rfl,_⟩
 ·exact ⟨none,0,by rw [hz]⟩
 ·exact ⟨_,cap,rfl⟩
theorem GRow.items {B:Nat} {w:World} {v:Value} {its:List It} (h:GRow B w v its):Items w v its:=by
 have h0:=h
 obtain ⟨h1,h2⟩:=h
 rcases h2 with ⟨rfl,hz⟩ | ⟨g,cap,cur,rfl,h3,h4,h5⟩
 ·exact ⟨none,0,by rw [hz],by omega,by omega,fun h=>by omega⟩
 ·have hc:its.length<=cap/\cap<=9223372036854775807:=by
   obtain ⟨q1,q2,-⟩:=h5
   unfold maxLen at q2
   exact ⟨q1,q2⟩
  refine ⟨_,cap,rfl,hc.1,hc.2,fun hp=>⟨g,0,rfl,fun j hj => ?_⟩⟩
  have key : ∀i,i<7->w.cell? ⟨g,0+j*7+i,none⟩=(cellsI its[j])[i]? := fun i hi=>by
   have hl:(flatI its).length=its.length*7:=flatI_len its
   rw [Nat.zero_add,World.ownsRow.cellAt h0 (j*7+i) (by omega),flatI_at its j i hj hi]
  exact ⟨key 0 (by omega),key 1 (by omega),key 2 (by omega),key 3 (by omega),key 4 (by omega),key 5 (by omega),key 6 (by omega)⟩
theorem it_blk {B:Nat} {w:World} {v:Value} {its:List It} (h:GRow B w v its) : ∀k,v.ownBlock=some k->B<=k:=fun k hk=>(World.ownsRow.lt h k hk).1
theorem it_lit (w:World) (B:Nat) (hB:B<=w.heap.size):GRow B (w.alloc (.cells #[] 31)) (.slice (some ⟨w.heap.size,0,none⟩) 0 0) []:=World.ownsRow_lit w #[] 0 hB (by decide) rfl
theorem it_app {B:Nat} {w:World} {v:Value} {its:List It} (kd op rd s1 s2 im lb:Int) (ty:TypeId) (h:GRow B w v its) (hB:B<=w.heap.size) (hl:its.length<=100000) :
  ∃va vn vc w',(Builtin.append_ #[23,23] ty #[v,.slice (some ⟨w.heap.size,0,none⟩) 1 1]).run Tryz.prog (w.alloc (.cells #[.int .i64 kd,.int .i64 op,.int .i64 rd,.int .i64 s1,.int .i64 s2,.int .i64 im,.int .i64 lb] 31)) = .ok (.slice va vn vc) w'/\GRow B w' (.slice va vn vc) (its++[⟨kd,⟨op,rd,s1,s2,im⟩,lb⟩])/\Tcs (fun k=>v.ownBlock=some k) w w':=by
 obtain ⟨i0,hi,hz0,hz1,hz2⟩:=info_parts info_item
 have hb0:=bel_a w (.cells #[.int .i64 kd,.int .i64 op,.int .i64 rd,.int .i64 s1,.int .i64 s2,.int .i64 im,.int .i64 lb] 31)
 obtain ⟨v',w',r1,r2,r3,r4⟩:=run_appG (P:=Tryz.prog) (w:=w.alloc (.cells #[.int .i64 kd,.int .i64 op,.int .i64 rd,.int .i64 s1,.int .i64 s2,.int .i64 im,.int .i64 lb] 31)) B 23 ty 31 i0 _ 7 56 Tryz.underlying23 hi hz0 hz1 hz2 rfl (by decide) v _ _ (ownB h hb0) (some ⟨w.heap.size,0,none⟩) 1 1 (flatI [⟨kd,⟨op,rd,s1,s2,im⟩,lb⟩]) (fun e=>by cases e) (flatI_len _) (fun ad had k u hu=>by cases had;exact item_cells w ⟨kd,⟨op,rd,s1,s2,im⟩,lb⟩ _ k u hu) (fun u hu=>cellsI_one ⟨kd,⟨op,rd,s1,s2,im⟩,lb⟩ u (by rw [flatI_single] at hu;exact hu)) (by omega) (by decide) (by have:=hb0.size;omega)
 have r2':GRow B w' v' (its++[⟨kd,⟨op,rd,s1,s2,im⟩,lb⟩]):=by
  unfold GRow
  rw [l_a,flatI_append]
  exact r2
 obtain ⟨a,c,rfl⟩:=GRow.shape r2'
 exact ⟨a,_,c,w',r1,r2',(hb0.tcs).trans (Tcs.of_grown r3 (fun k hk=>hk))⟩
theorem it_pos {B:Nat} {w:World} {v:Value} {its:List It} (h:GRow B w v its) (hp:0<its.length) : ∃g c,v = .slice (some ⟨g,0,none⟩) its.length c/\B<=g/\(∀j i (hj:j<its.length),i<7->w.cell? ⟨g,0+j*7+i,none⟩=(cellsI its[j])[i]? /\ w.frozen? ⟨g,0+j*7+i,none⟩=false) /\
  ∀j i x (hj:j<its.length),i<7->∀u,cellsI x=(cellsI its[j]).set i u->GRow B (w.setCell ⟨g,0+j*7+i,none⟩ u) v (its.set j x)/\Tcs (fun k=>k=g) w (w.setCell ⟨g,0+j*7+i,none⟩ u):=by
 have h0:=h
 have h1:=h
 obtain ⟨-,h2⟩:=h1
 rcases h2 with ⟨rfl,hz⟩ | ⟨g,cap,cur,rfl,h3,h4,h5⟩
 ·omega
 ·have hl:(flatI its).length=its.length*7:=flatI_len its
  refine ⟨g,cap,rfl,h3,fun j i hj hi=>⟨?_,by simp [World.frozen?,h4]⟩,fun j i x hj hi u hu=>⟨?_,(Tcs.refl (fun k=>k=g) w).setCell (p:=⟨g,0+j*7+i,none⟩) rfl _⟩⟩
  ·rw [Nat.zero_add,World.ownsRow.cellAt h0 (j*7+i) (by omega),flatI_at its j i hj hi]
  ·have:=(World.ownsRow.stored h0 (j*7+i) u).1
   unfold GRow
   rw [List.length_set,flatI_upd hj hi hu,Nat.zero_add]
   exact this
theorem Lk.snoc {M:Int} {l:List It} {x:It} (h:Lk M l) (hx : -1<=x.label/\x.label<=M):Lk M (l++[x]):=(lk_app _ _ _).2 ⟨h,(lk_cons _ _ _).2 ⟨hx,(lk_nil _).2 trivial⟩⟩
theorem Lk.set {M:Int} {l:List It} (h:Lk M l) (k:Nat) (x:It) (hx : -1<=x.label/\x.label<=M):Lk M (l.set k x):=fun y hy=>by
 rcases List.mem_or_eq_of_mem_set hy with hy | rfl
 ·exact h y hy
 ·exact hx
end
section
open Go.RowKit
theorem info_i64S:(Tryz.prog.info? 2).map (fun i=>(i.zero,i.size,i.bytes))=some (some (.int .i64 0),1,8):=by kernel_rfl
def IR (B:Nat) (w:World) (v:Value) (zs:List Int):Prop:=w.ownsRow B 2 1 v zs.length (zs.map (Value.int .i64))
theorem ir_shape {B:Nat} {w:World} {v:Value} {zs:List Int} (h:IR B w v zs) : ∃a c,v = .slice a zs.length c:=by
 rcases h.2 with ⟨rfl,hz⟩ | ⟨g,cap,cur,rfl,_⟩
 ·exact ⟨none,0,by rw [hz]⟩
 ·exact ⟨_,cap,rfl⟩
theorem own_kp {w w':World} {B size n:Nat} {e:TypeId} {v:Value} {xs:List Value} (h:w.ownsRow B e size v n xs) (hk : ∀g,v.ownBlock=some g->w'.heap[g]? = w.heap[g]?):w'.ownsRow B e size v n xs:=by
 obtain ⟨g1,g2⟩:=h
 refine ⟨g1,?_⟩
 rcases g2 with g2 | ⟨g,cap,cur,rfl,g3,g4,g5⟩
 ·exact .inl g2
 ·refine .inr ⟨g,cap,cur,rfl,g3,?_,g5⟩
  rw [hk g rfl]
  exact g4
theorem ir_cell {B g c n:Nat} {w:World} {zs:List Int} (h:IR B w (.slice (some ⟨g,0,none⟩) n c) zs) {j:Nat} {z:Int} (hz:zs[j]? = some z):w.cell? ⟨g,j,none⟩=some (.int .i64 z):=by
 have:=World.ownsRow.cells h (g:=g) rfl j (.int .i64 z) (by simp [hz])
 rwa [addr_add] at this
theorem ir_app {B:Nat} {w:World} {v:Value} {zs:List Int} (z:Int) (ty:TypeId) (h:IR B w v zs) (hB:B<=w.heap.size) (hl:zs.length<=1000000) :
  ∃va vn vc w',(Builtin.append_ #[27,27] ty #[v,.slice (some ⟨w.heap.size,0,none⟩) 1 1]).run Tryz.prog (w.alloc (.cells #[.int .i64 z] 2)) = .ok (.slice va vn vc) w'/\IR B w' (.slice va vn vc) (zs++[z])/\Tcs (fun k=>v.ownBlock=some k) w w'/\∀k,(Value.slice va vn vc).ownBlock=some k->v.ownBlock=some k∨w.heap.size<=k:=by
 obtain ⟨i0,hi,hz0,hz1,hz2⟩:=info_parts info_i64S
 have hb0:=bel_a w (.cells #[.int .i64 z] 2)
 have hlit:(w.alloc (.cells #[.int .i64 z] 2)).ownsRow w.heap.size 2 1 (.slice (some ⟨w.heap.size,0,none⟩) 1 1) 1 [.int .i64 z]:=World.ownsRow_lit w #[.int .i64 z] 1 (Nat.le_refl _) (by decide) rfl
 obtain ⟨v',w',r1,r2,r3,r4⟩:=run_appG (P:=Tryz.prog) (w:=w.alloc (.cells #[.int .i64 z] 2)) B 27 ty 2 i0 _ 1 8 Tryz.underlying27 hi hz0 hz1 hz2 rfl (by decide) v _ _ (ownB h hb0) (some ⟨w.heap.size,0,none⟩) 1 1 [.int .i64 z] (fun e=>by cases e) rfl (fun ad had k u hu=>by cases had;exact World.ownsRow.cells hlit (g:=w.heap.size) rfl k u hu) (fun u hu=>by simp at hu;rw [hu];rfl) (by omega) (by decide) (by have:=hb0.size;omega)
 have r2':IR B w' v' (zs++[z]):=by
  unfold IR
  rw [l_a,List.map_append]
  exact r2
 obtain ⟨a,c,rfl⟩:=ir_shape r2'
 exact ⟨a,_,c,w',r1,r2',(hb0.tcs).trans (Tcs.of_grown r3 (fun k hk=>hk)),fun k hk=>(r4 k hk).imp id (fun h=>by have:=hb0.size;omega)⟩
structure LS (B:Nat) (w:World) (vl vt vf:Value) (L ts fs:List Int):Prop where
 l:IR B w vl L
 t:IR B w vt ts
 f:IR B w vf fs
 lt : ∀k,vl.ownBlock=some k->vt.ownBlock≠some k
 lf : ∀k,vl.ownBlock=some k->vf.ownBlock≠some k
 tf : ∀k,vt.ownBlock=some k->vf.ownBlock≠some k
theorem LS.keep {B:Nat} {w w':World} {vl vt vf:Value} {L ts fs:List Int} {S:Nat->Prop} (h:LS B w vl vt vf L ts fs) (ht:Tcs S w w') (hS : ∀k,S k->vl.ownBlock≠some k/\vt.ownBlock≠some k/\vf.ownBlock≠some k):LS B w' vl vt vf L ts fs:=
 ⟨own_kp h.l fun g hg=>ht.block g (World.ownsRow.lt h.l g hg).2 (fun e=>(hS g e).1 hg),own_kp h.t fun g hg=>ht.block g (World.ownsRow.lt h.t g hg).2 (fun e=>(hS g e).2.1 hg),own_kp h.f fun g hg=>ht.block g (World.ownsRow.lt h.f g hg).2 (fun e=>(hS g e).2.2 hg),h.lt,h.lf,h.tf⟩
theorem LS.below {B:Nat} {w w':World} {vl vt vf:Value} {L ts fs:List Int} (h:LS B w vl vt vf L ts fs) (hb:Below w.heap.size w w'):LS B w' vl vt vf L ts fs:=h.keep (S:=fun _=>False) hb.tcs (fun k hk=>hk.elim)
theorem LS.appF {B:Nat} {w:World} {vl vt vf:Value} {L ts fs:List Int} (h:LS B w vl vt vf L ts fs) (z:Int) (ty:TypeId) (hB:B<=w.heap.size) (hl:fs.length<=1000000) :
  ∃va vn vc w',(Builtin.append_ #[27,27] ty #[vf,.slice (some ⟨w.heap.size,0,none⟩) 1 1]).run Tryz.prog (w.alloc (.cells #[.int .i64 z] 2)) = .ok (.slice va vn vc) w'/\LS B w' vl vt (.slice va vn vc) L ts (fs++[z])/\Tcs (fun k=>B<=k/\vf.ownBlock=some k) w w':=by
 obtain ⟨va,vn,vc,w',r1,r2,r3,r4⟩:=ir_app z ty h.f hB hl
 refine ⟨va,vn,vc,w',r1,⟨own_kp h.l fun g hg=>r3.block g (World.ownsRow.lt h.l g hg).2 (fun e=>h.lf g hg e),own_kp h.t fun g hg=>r3.block g (World.ownsRow.lt h.t g hg).2 (fun e=>h.tf g hg e),r2,h.lt,fun k hk e => ?_,fun k hk e => ?_⟩,r3.mono fun k hk=>⟨(World.ownsRow.lt h.f k hk).1,hk⟩⟩
 ·rcases r4 k e with e | e
  ·exact h.lf k hk e
  ·have:=(World.ownsRow.lt h.l k hk).2;omega
 ·rcases r4 k e with e | e
  ·exact h.tf k hk e
  ·have:=(World.ownsRow.lt h.t k hk).2;omega
theorem LS.appT {B:Nat} {w:World} {vl vt vf:Value} {L ts fs:List Int} (h:LS B w vl vt vf L ts fs) (z:Int) (ty:TypeId) (hB:B<=w.heap.size) (hl:ts.length<=1000000) :
  ∃va vn vc w',(Builtin.append_ #[27,27] ty #[vt,.slice (some ⟨w.heap.size,0,none⟩) 1 1]).run Tryz.prog (w.alloc (.cells #[.int .i64 z] 2)) = .ok (.slice va vn vc) w'/\LS B w' vl (.slice va vn vc) vf L (ts++[z]) fs/\Tcs (fun k=>B<=k/\vt.ownBlock=some k) w w':=by
 obtain ⟨va,vn,vc,w',r1,r2,r3,r4⟩:=ir_app z ty h.t hB hl
 refine ⟨va,vn,vc,w',r1,⟨own_kp h.l fun g hg=>r3.block g (World.ownsRow.lt h.l g hg).2 (fun e=>h.lt g hg e),r2,own_kp h.f fun g hg=>r3.block g (World.ownsRow.lt h.f g hg).2 (fun e=>h.tf g e hg),fun k hk e => ?_,h.lf,fun k e hk => ?_⟩,r3.mono fun k hk=>⟨(World.ownsRow.lt h.t k hk).1,hk⟩⟩
 ·rcases r4 k e with e | e
  ·exact h.lt k hk e
  ·have:=(World.ownsRow.lt h.l k hk).2;omega
 ·rcases r4 k e with e | e
  ·exact h.tf k e hk
  ·have:=(World.ownsRow.lt h.f k hk).2;omega
theorem LS.putL {B g n c:Nat} {w:World} {vt vf:Value} {L ts fs:List Int} (h:LS B w (.slice (some ⟨g,0,none⟩) n c) vt vf L ts fs) (j:Nat) (z:Int):LS B (w.setCell ⟨g,j,none⟩ (.int .i64 z)) (.slice (some ⟨g,0,none⟩) n c) vt vf (L.set j z) ts fs/\Tcs (fun k=>B<=k/\k=g) w (w.setCell ⟨g,j,none⟩ (.int .i64 z)):=by
 have hB:=(World.ownsRow.lt h.l g rfl).1
 have ht:Tcs (fun k=>B<=k/\k=g) w (w.setCell ⟨g,j,none⟩ (.int .i64 z)):=(Tcs.refl _ w).setCell (p:=⟨g,j,none⟩) ⟨hB,rfl⟩ _
 obtain ⟨a',c',e⟩:=ir_shape h.l
 simp only [Value.slice.injEq] at e
 obtain ⟨-,rfl,-⟩:=e
 refine ⟨⟨?_,own_kp h.t fun k hk=>ht.block k (World.ownsRow.lt h.t k hk).2 (fun e=>h.lt g rfl (by rw [<-e.2];exact hk)),own_kp h.f fun k hk=>ht.block k (World.ownsRow.lt h.f k hk).2 (fun e=>h.lf g rfl (by rw [<-e.2];exact hk)),h.lt,h.lf,h.tf⟩,ht⟩
 have h1:=(World.ownsRow.stored h.l j (.int .i64 z)).1
 unfold IR
 rw [List.length_set,List.map_set]
 exact h1
theorem ir_fz {B g c n:Nat} {w:World} {zs:List Int} (h:IR B w (.slice (some ⟨g,0,none⟩) n c) zs) (j:Nat):w.frozen? ⟨g,j,none⟩=false:=by
 rcases h.2 with ⟨e,-⟩ | ⟨g',cap,cur,e,-,hh,-⟩
 ·cases e
 ·simp only [Value.slice.injEq,Option.some.injEq,Addr.mk.injEq,and_true] at e
  obtain ⟨rfl,-⟩:=e
  simp [World.frozen?,hh]
theorem asmI_big (its:List It) (v:Value) (w:World) (hv:Items w v its) (h2:20000<its.length) (h3:its.length<=9000000) :
  Calls Tryz.prog 5 #[v] w fun e w'=>∃u r,e = .returned u/\AsmR its r/\URow w.heap.size w' u r/\Below w.heap.size w w':=by
 have HR:Hid (AsmR its []):=.inr ⟨fun h=>by omega,rfl⟩
 obtain ⟨av,cv,rfl,hcl,hcm,-⟩:=hv
 go_enter Tryz.func5,Tryz.ntmps5
 go_wp2_with fail
 go_ret
 exact ⟨_,[],rfl,HR.out,urow_lit w _ (Nat.le_refl _),(Below.refl _ _).alloc (Nat.le_refl _) _⟩
end
end Go.Proofs.YtpdndlghjldhjaaGreat
