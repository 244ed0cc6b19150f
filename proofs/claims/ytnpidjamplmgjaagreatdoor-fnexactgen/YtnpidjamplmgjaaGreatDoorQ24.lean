import Derived.Test.YtnpidjamplmgjaaGreatDoorQ23
import Derived.Deep.RegionHeldLaw
import Derived.Defers
import Derived.RangeFuncNested
import Derived.RangeFuncBound
import Derived.RangeFuncCalls
import Derived.RangeFuncLeaves
import Derived.Shelf.Abstract
import Derived.Shelf.RegionOpen
import Derived.WalkKit
import Derived.OwnWalkIn
import Derived.TacticsInMore
import Derived.LoopNIn
import Derived.LoopIn
import Derived.RegionTactic
set_option linter.unusedSectionVars false
variable [Inhabited Go.Proofs.YtnpidjamplmgjaaGreatDoor.Pick]
namespace Go.Proofs.YtnpidjamplmgjaaGreatDoor
open Go.RowKit
open Go.RowKit Go.Shelf
set_option linter.unusedVariables false
set_option linter.unusedSimpArgs false
set_option maxRecDepth 100000
set_option maxHeartbeats 16000000
def BRw (B:Nat) (w:World) (v:Value) (bs:List Nat):Prop:=w.ownsRow B 52 1 v bs.length (bs.map (fun b=>Value.map (some b)))
theorem BRw.below {B:Nat} {w w':World} {v:Value} {bs:List Nat} (h:BRw B w v bs) (hb:Below w.heap.size w w'):BRw B w' v bs:=by
 obtain ⟨g1,g2⟩:=h
 refine ⟨g1,?_⟩
 rcases g2 with g2 | ⟨g,cap,cur,rfl,g3,g4,g5⟩
 ·exact .inl g2
 ·refine .inr ⟨g,cap,cur,rfl,g3,?_,g5⟩
  rw [hb.block g (Array.getElem?_eq_some_iff.1 g4).1]
  exact g4
theorem BRw.other {B c o:Nat} {w:World} {v u:Value} {bs:List Nat} (h:BRw B w v bs) (hc:c<B):BRw B (w.setCell ⟨c,o,none⟩ u) v bs:=by
 obtain ⟨g1,g2⟩:=h
 refine ⟨g1,?_⟩
 rcases g2 with g2 | ⟨g,cap,cur,rfl,g3,g4,g5⟩
 ·exact .inl g2
 ·refine .inr ⟨g,cap,cur,rfl,g3,?_,g5⟩
  rw [Below.heap_setCell _ _ _ g (fun h=>by simp at h;omega)]
  exact g4
theorem BRw.cut {B:Nat} {w:World} {v:Value} {bs:List Nat} {b:Nat} (h:BRw B w v (bs++[b])) : ∃g cap,v = .slice (some ⟨g,0,none⟩) (bs.length+1) cap/\B<=g/\bs.length+1<=cap/\cap<=maxLen/\w.cell? ⟨g,bs.length,none⟩=some (.map (some b))/\BRw B w (.slice (some ⟨g,0,none⟩) bs.length cap) bs:=by
 have h0:=h
 obtain ⟨g1,g2⟩:=h
 rcases g2 with ⟨_,hz⟩ | ⟨g,cap,cur,rfl,g3,g4,g5,g6,g7,g8⟩
 ·simp at hz
 ·simp only [l_a,l_c,l_n,Nat.zero_add,Nat.mul_one,List.map_append,List.map_cons,List.map_nil] at g1 g5 g7 g8
  refine ⟨g,cap,by simp,g3,g5,g6,?_,by simp,.inr ⟨g,cap,cur,rfl,g3,g4,by omega,g6,by omega,?_⟩⟩
  ·have:=World.ownsRow.cellAt h0 bs.length (by simp)
   rw [this]
   simp
  ·rw [Nat.mul_one]
   have e:cur.toList.take bs.length=(cur.toList.take (bs.length+1)).take bs.length:=by rw [List.take_take];congr 1;omega
   rw [e,g8]
   simp
theorem closeD_any (u:FrameMode) (C B b:Nat) (bs:List Nat) (v:Value) (w:World) (hC:C<B) (hc:w.cell? ⟨C,0,none⟩=some v) (hf:w.frozen? ⟨C,0,none⟩=false) (hR:BRw B w v (bs++[b])) (hl:bs.length<=1000000) :
  CallsD Tryz.prog 177 #[.pointer (some ⟨C,0,none⟩)] u w fun e u' w'=>u'=u/\(∃u,e = .returned u)/\∃v',w'=(w.setCell ⟨C,0,none⟩ v').drew/\BRw B w' v' bs/\v'.ownBlock=v.ownBlock:=by
 obtain ⟨g,cap,rfl,hg,h1,h2,h3,h4⟩:=hR.cut
 have HB:=hide h4
 have hsl : ∀W:World,(Instr.slice 204 (.slice (some ⟨g,0,none⟩) (bs.length+1) cap) none (some (.int .i64 (bs.length:Int))) none).run Tryz.prog W = .ok (.slice (some ⟨g,0,none⟩) bs.length cap) W:=by
  intro W
  have hz:Tryz.prog.elem 204=52:=by kernel_rfl
  have hs:(sizeOf 52).run Tryz.prog W = .ok 1 W:=by kernel_rfl
  rw [run_slice_h W 204 (some ⟨g,0,none⟩) (bs.length+1) cap (by rw [hz];exact Tryz.underlying204) .i64 _ o_ o_,hz,hs]
  simp [Result.andThen,sliced,Addr.add]
 go_enter_d Tryz.func177,Tryz.ntmps177
 go_wp2_with fail
 go_region
 go_wp2_with fail
 go_end0
 exact ⟨⟨_,rfl⟩,_,rfl,HB.out.other hC |>.below ((Below.refl _ _).drew),rfl⟩
theorem add_any (C B b nn:Nat) (bs:List Nat) (v:Value) (D:DataW Unit) (f:ByteArray->Option Int) (s:ByteArray) (z:Int) (w:World) (hc:w.cell? ⟨C,0,none⟩=some v) (hR:BRw B w v (bs++[b])) (hl:bs.length<=1000000) (hCb:C≠b) (hvb : ∀x,v.ownBlock=some x->x≠b)
    (hown:w.ownsMap Tryz.prog 9 (plainElem (H:=Unit) Tryz.prog 2) b nn D) (hM:MapIs D f) (hn:nn<1000000000) (hs:s.size<=maxLen) (hz:(Lit.int .i64 z).wf=true) :
    Calls Tryz.prog 156 #[.pointer (some ⟨C,0,none⟩),.string s,.int .i64 z] w fun e w'=>(∃u,e = .returned u)/\∃D',w'.ownsMap Tryz.prog 9 (plainElem (H:=Unit) Tryz.prog 2) b (nn+1) D'/\MapIs D' (setN f s z)/\w.drew.grownBy w' (some b):=by
  obtain ⟨g,cap,rfl,hg,h1,h2,h3,-⟩:=hR.cut
  have hgb:g≠b:=hvb g rfl
  clear hvb
  have HO:Hid (w.drew.ownsMap Tryz.prog 9 (plainElem (H:=Unit) Tryz.prog 2) b nn D):=hown
  have HM:Hid (MapIs D f):=hM
  have HS:Hid (s.size<=maxLen):=hs
  have HW:Hid ((Lit.int .i64 z).wf=true):=hz
  clear hR hown hM hs hz
  generalize bs.length=m at hc h1 h3 hl ⊢
  obtain ⟨w',hrun,r1,r2⟩:=HO.out.update (Maps.string_keyed Tryz.underlying9) Tryz.underlying52 (by unfold maxLen;omega) (WideMaps.keyOf_string_mk Tryz.underlying9 HS.out) (plainElem_int Tryz.underlying2 HW.out)
  have HR1:Hid (w'.ownsMap Tryz.prog 9 (plainElem (H:=Unit) Tryz.prog 2) b (nn+1) (D.put (kS s) (.lit (.int .i64 z)))):=r1
  have HR2:Hid (w.drew.grownBy w' (some b)):=r2
  clear r1 r2
  go_enter Tryz.func156,Tryz.ntmps156
  go_wp2_with fail
  go_region
  go_wp2_with fail
  go_end0
  exact ⟨⟨_,rfl⟩,_,HR1.out,HM.out.put s z,HR2.out⟩
theorem map_keep {k:TypeId} {R:Value->Option (DataW Unit × List MemPlace)} {w w':World} {b n:Nat} {D:DataW Unit} (h:w.ownsMap Tryz.prog k R b n D) (hb:w'.heap[b]? = w.heap[b]?):w'.ownsMap Tryz.prog k R b n D:=by
 obtain ⟨es,clock,h0,F,hs,hD⟩:=h
 exact ⟨es,clock,hb.trans h0,F,hs,hD⟩
theorem info_map:(Tryz.prog.info? 52).map (fun i=>(i.zero,i.size,i.bytes))=some (some (.map none),1,8):=by kernel_rfl
theorem BRw.shape {B:Nat} {w:World} {v:Value} {bs:List Nat} (h:BRw B w v bs) : ∃a c,v = .slice a bs.length c:=by
 rcases h.2 with ⟨rfl,hz⟩ | ⟨g,cap,cur,rfl,_⟩
 ·exact ⟨none,0,by rw [hz]⟩
 ·exact ⟨_,cap,rfl⟩
theorem open_any (C B:Nat) (bs:List Nat) (v:Value) (w:World) (hC:C<B) (hBs:B<=w.heap.size) (hc:w.cell? ⟨C,0,none⟩=some v) (hf:w.frozen? ⟨C,0,none⟩=false) (hR:BRw B w v bs) (hl:bs.length<=1000000) :
  Calls Tryz.prog 154 #[.pointer (some ⟨C,0,none⟩)] w fun e w'=>(∃u,e = .returned u)/\∃(v':Value) (w1:World),w'=w1.setCell ⟨C,0,none⟩ v'/\BRw B w' v' (bs++[w.heap.size])/\w'.ownsMap Tryz.prog 9 (plainElem (H:=Unit) Tryz.prog 2) w.heap.size 0 (.map [])/\w.grownBy w1 v.ownBlock/\(∀k,v'.ownBlock=some k->v.ownBlock=some k∨w.heap.size<k):=by
 have HB:Hid (BRw B w v bs):=hR
 obtain ⟨a,c,rfl⟩:=hR.shape
 clear hR
 have hmm := @run_makeMap Tryz.prog
 obtain ⟨i0,hi,hz0,hz1,hz2⟩:=info_parts info_map
 have HB2:Hid (BRw B ((w.alloc (.map #[] 0)).alloc (.cells #[.map (some w.heap.size)] 52)) (.slice a bs.length c) bs):=HB.out.below ((bel_a _ _).alloc (by simp) _)
 go_enter Tryz.func154,Tryz.ntmps154
 go_wp2_with (at_builtin;refine wpList_appF rfl _ _ _ rfl B 52 i0 _ 1 8 Tryz.underlying204 hi hz0 hz1 hz2 rfl (by decide) _ bs.length (bs.map (fun b=>Value.map (some b))) rfl HB2.out ⟨w.heap.size+1,0,none⟩ 1 1 [.map (some w.heap.size)] rfl rfl (by simpa using cell_one_new (w.alloc (.map #[] 0)) (.map (some w.heap.size)) 52) (by simp [Value.oneCell']) o_ (by decide) (by simp;omega) ?_)
 intro v1 w1 ho1 hg1 hf1
 have hCl:C<w.heap.size:=by omega
 have hA:Bl w ((w.alloc (.map #[] 0)).alloc (.cells #[.map (some w.heap.size)] 52)):=(bel_a _ _).alloc (by simp) _
 have hrow : ∀k,(Value.slice a bs.length c).ownBlock=some k->B<=k/\k<w.heap.size:=fun k hk=>World.ownsRow.lt HB.out k hk
 have hCr:some C≠(Value.slice a bs.length c).ownBlock:=fun h=>by have:=(hrow C h.symm).1;omega
 have HR1:Hid (BRw B w1 v1 (bs++[w.heap.size])):=by
  show BRw B w1 v1 _
  unfold BRw
  rw [l_a,List.map_append]
  exact ho1
 have hblk:=hg1.block
 have y0:w1.cell? ⟨C,0,none⟩=some (.slice a bs.length c):=(World.cell?_of_block (a:=⟨C,0,none⟩) ((hblk C (by simp;omega) hCr).trans (hA.block C hCl))).trans hc
 have y1:w1.frozen? ⟨C,0,none⟩=false:=(World.frozen?_of_block (a:=⟨C,0,none⟩) ((hblk C (by simp;omega) hCr).trans (hA.block C hCl))).trans hf
 have HM:Hid (∀u,(w1.setCell ⟨C,0,none⟩ u).ownsMap Tryz.prog 9 (plainElem (H:=Unit) Tryz.prog 2) w.heap.size 0 (.map [])):=fun u=>by
  refine map_keep (World.ownsMap_made w Tryz.prog 9 _) ?_
  rw [Below.heap_setCell _ _ _ w.heap.size (fun h=>by simp at h;omega),hblk w.heap.size (by simp;omega) (fun h=>by have:=(hrow _ h.symm).2;omega)]
  exact (((Below.refl (w.heap.size+1) (w.alloc (.map #[] 0))).alloc (by simp) _).block w.heap.size o_)
 have HG:Hid (w.grownBy w1 (Value.slice a bs.length c).ownBlock):=by
  obtain ⟨q1,q2,q3,q4,q5⟩:=hg1
  exact ⟨q1,q2,q3,by simp at q4;omega,fun k hk hne=>(q5 k (by simp;omega) hne).trans (hA.block k hk)⟩
 have HF:Hid (∀k,v1.ownBlock=some k->(Value.slice a bs.length c).ownBlock=some k∨w.heap.size<k):=fun k hk=>by
  rcases hf1 k hk with h | h
  ·exact .inl h
  ·exact .inr (by (try simp at h);omega)
 obtain ⟨a1,c1,rfl⟩:=HR1.out.shape
 have hlen:(bs++[w.heap.size]).length=bs.length+1:=by simp
 rw [hlen] at HR1 HF
 rw [hlen]
 clear hlen
 clear ho1 hg1 hf1 hblk hrow hA hmm HB HB2
 go_wp2_with fail
 go_end0
 exact ⟨⟨_,rfl⟩,_,w1,rfl,HR1.out.other hC,HM.out _,HG.out,HF.out⟩
attribute [local go_sem] Oper.semAt_some
abbrev Ix (bs:List Nat) := {q:Nat // q<bs.length}
def bk (bs:List Nat) (k:Nat):List (Ix bs):=(List.range k).filterMap (fun j=>if h:bs.length-1-j<bs.length then some ⟨bs.length-1-j,h⟩ else none)
theorem bk_succ (bs:List Nat) (k:Nat) (h:bs.length-1-k<bs.length):bk bs (k+1)=bk bs k++[⟨bs.length-1-k,h⟩]:=by simp [bk,List.range_succ,List.filterMap_append,h]
theorem bk_length (bs:List Nat) (k:Nat):(bk bs k).length<=k:=by
 have:=List.length_filterMap_le (fun j=>if h:bs.length-1-j<bs.length then some (⟨bs.length-1-j,h⟩:Ix bs) else none) (List.range k)
 simpa [bk] using this
def Kp2 (g Bs:Nat) (W W':World):Prop:=W'.heap[g]? = W.heap[g]? /\ W'.heap[Bs]? = W.heap[Bs]?
theorem Kp2.refl (g Bs:Nat) (W:World):Kp2 g Bs W W:=⟨rfl,rfl⟩
theorem Kp2.trans {g Bs:Nat} {A B C:World} (h:Kp2 g Bs A B) (k:Kp2 g Bs B C):Kp2 g Bs A C:=⟨k.1.trans h.1,k.2.trans h.2⟩
theorem Kp2.put {g Bs:Nat} {w:World} (hg:g<w.heap.size) (hB:Bs<w.heap.size) (W:World) (l:Nat) (o o':Obj) (hl:w.heap.size<=l) (h1:W.heap[l]? = some o) (h2:o.isCells=false) (h3:o.isWalk=false):Kp2 g Bs W (W.putObj l o'):=
 ⟨World.putObj_heap_other o_,World.putObj_heap_other o_⟩
theorem back1_in (F:Fence) (n:Nat) (hFn:F.fn 222) (hro:F.round=none) (hn:1<=n) (l Bs g cap:Nat) (bs:List Nat) (hlen:bs.length<=1000000) (hcap:bs.length<=cap) (J Jx:List (Ix bs)->World->Prop)
  (hY : ∀pre (x:Ix bs) W,J pre W->pre.length<bs.length->YieldAt F (n-1) Tryz.prog l #[.int .i64 (x.1:Int),.map (some (bs[x.1]?.getD 0))] W fun e W'=>
   (e = .returned (.bool true)/\J (pre++[x]) W'/\Kp2 g Bs W W')∨(e = .returned (.bool false)/\Jx (pre++[x]) W'))
  (W:World) (hBs:W.cell? ⟨Bs,0,none⟩=some (.slice (some ⟨g,0,none⟩) bs.length cap)) (hc : ∀j,j<bs.length->W.cell? ⟨g,j,none⟩=some (.map (some (bs[j]?.getD 0)))) (h0:J [] W) :
  CallsIn F n Tryz.prog 222 #[.func (.yield l) #[] #[],.pointer (some ⟨Bs,0,none⟩)] W fun e W'=>(∃v,e = .returned v) /\
   ((∃ys,ys=bk bs bs.length/\J ys W')∨∃pre,(∃k,k<=bs.length/\pre=bk bs k)/\Jx pre W'):=by
 refine callsIn_of_wp Tryz.func222 rfl hFn ?_ hro
 simp only [Tryz.ntmps222,List.size_toArray,l_c,l_n,Nat.reduceAdd,Nat.reduceSub,Array.replicate_succ,Array.replicate_zero,List.push_toArray,List.append_toArray,List.nil_append,List.cons_append]
 gi_wp2
 gi_loopw [3] (fun i wr=>∃k:Nat,k<=bs.length/\i = .int .i64 ((bs.length:Int)-1-k)/\J (bk bs k) wr/\Kp2 g Bs W wr)
  (fun i _=>((RowKit.intOf i)+1).toNat)
 case atStart=>exact ⟨0,Nat.zero_le _,by simp,h0,Kp2.refl _ _ _⟩
 case round=>
  obtain ⟨k,hk,rfl,hJs,hnx⟩:=hrel
  by_cases hlt:k<bs.length
  ·have hqk:bs.length-1-k<bs.length:=by omega
   have HS0:=hide (bk_succ bs k hqk)
   obtain ⟨q,hq⟩ : ∃q:Nat,q=bs.length-1-k:=⟨_,rfl⟩
   have hqi:(bs.length:Int)-1-k=(q:Int):=by omega
   have hql:q<bs.length:=by omega
   have HS:Hid (bk bs (k+1)=bk bs k++[⟨q,hql⟩]):=by subst hq;exact HS0.out
   rw [hqi]
   have hcx:=(World.cell?_of_block (a:=⟨g,q,none⟩) hnx.1).trans (hc q hql)
   have hbx:=(World.cell?_of_block (a:=⟨Bs,0,none⟩) hnx.2).trans hBs
   obtain ⟨fn,tmps,assign,body,hy,hR⟩:=hY _ ⟨q,hql⟩ wr hJs (by have:=bk_length bs k;omega)
   have HQ:Hid ((q:Int)-1=(bs.length:Int)-1-((k+1:Nat):Int)):=by show _=_;omega
   dsimp only at hy
   clear hq hqi HS0 hqk
   generalize bs[q]?.getD 0=bq at hcx hy
   gi_wp2
   refine hR.mono ?_
   rintro e W3 (⟨rfl,hJ3,hk3⟩ | ⟨rfl,hJx3⟩)
   ·gi_wp2
    go_roundw
    case rel=>exact ⟨k+1,by omega,by rw [<-HQ.out],by rw [HS.out];exact hJ3,hnx.trans hk3⟩
    case measure=>simp [RowKit.intOf]
   ·gi_wp2
    refine bodyPost_ret (results_none rfl _ _ _) rfl ?_
    exact ⟨⟨_,rfl⟩,.inr ⟨_,⟨k+1,by omega,rfl⟩,by rw [HS.out];exact hJx3⟩⟩
  ·obtain rfl:k=bs.length:=by omega
   rw [show (bs.length:Int)-1-(bs.length:Nat) = -1 by omega]
   gi_wp2
   go_end0
   exact ⟨⟨_,rfl⟩,.inl ⟨_,rfl,hJs⟩⟩
theorem back_in (F:Fence) (n:Nat) (hFn:F.fn 221) (hro:F.round=none) (a:Option Addr) (len cap:Nat) (w:World) :
  CallsIn F n Tryz.prog 221 #[.slice a len cap] w fun e w'=>e = .returned (.func (.func 222) #[] #[.pointer (some ⟨w.heap.size,0,none⟩)])/\w'=w.alloc (.cells #[.slice a len cap] 204):=by
 refine callsIn_of_wp Tryz.func221 rfl hFn ?_ hro
 simp only [Tryz.ntmps221,List.size_toArray,l_c,l_n,Nat.reduceAdd,Nat.reduceSub,Array.replicate_succ,Array.replicate_zero,List.push_toArray,List.append_toArray,List.nil_append,List.cons_append]
 gi_wp2
 go_ret
 exact ⟨rfl,rfl⟩
theorem back_stops (F:Fence) (n:Nat) (hFn:F.fn 222) (hro:F.round=none) (hn:1<=n) (Bs g cap:Nat) (bs:List Nat) (hlen:bs.length<=1000000) (hcap:bs.length<=cap) (w:World) (hg:g<w.heap.size) (hB:Bs<w.heap.size)
  (hBs:w.cell? ⟨Bs,0,none⟩=some (.slice (some ⟨g,0,none⟩) bs.length cap)) (hc : ∀j,j<bs.length->w.cell? ⟨g,j,none⟩=some (.map (some (bs[j]?.getD 0)))) :
  SeqStopsK F n Tryz.prog 222 #[.pointer (some ⟨Bs,0,none⟩)] (fun x:Ix bs=>#[Value.int .i64 (x.1:Int),Value.map (some (bs[x.1]?.getD 0))]) (Kp2 g Bs) (fun ys=>ys=bk bs bs.length) (fun pre=>∃k,k<=bs.length/\pre=bk bs k) bs.length w:=fun l J Jx W hW _ _ hY h0=>
 back1_in F n hFn hro hn l Bs g cap bs hlen hcap J Jx hY W ((hW.cell (p:=⟨Bs,0,none⟩) hB).trans hBs) (fun j hj=>(hW.cell (p:=⟨g,j,none⟩) hg).trans (hc j hj)) h0
attribute [local go_sem] Oper.semAt_some
theorem two_cells {W:World} {a b:Addr} {u v x y:Value} (ha:W.cell? a=some x) (hb:W.cell? b=some y) (hab:a≠b):((W.setCell a u).setCell b v).cell? a=some u/\((W.setCell a u).setCell b v).cell? b=some v:=by
 constructor
 ·rw [World.cell?_setCell_other _ _ _ _ (by first | exact hab | exact fun h=>hab h.symm)]
  exact World.cell?_setCell_same _ _ _ ha
 ·have h:(W.setCell a u).cell? b=some y:=by
   rw [World.cell?_setCell_other _ _ _ _ (by first | exact hab | exact fun h=>hab h.symm)]
   exact hb
  exact World.cell?_setCell_same _ _ _ h
theorem mem_bk (bs:List Nat) (k j:Nat) (hj:j<bs.length) (h:bs.length-1-j<k):(⟨j,hj⟩:Ix bs)∈bk bs k:=by
 unfold bk
 rw [List.mem_filterMap]
 refine ⟨bs.length-1-j,List.mem_range.2 h,?_⟩
 have e:bs.length-1-(bs.length-1-j)=j:=by omega
 rw [dif_pos o_]
 simp [e]
theorem find_in (F:Fence) (n:Nat) (hF1:F.fn 220) (hF2:F.fn 221) (hF3:F.fn 222) (hro:F.round=none) (hn:3<=n)
  (C g cap:Nat) (bs:List Nat) (fs:Nat->ByteArray->Option Int) (s:ByteArray) (w:World) (hlen:bs.length<=1000000) (hcap:bs.length<=cap) (hs:s.size<=maxLen)
  (hc:w.cell? ⟨C,0,none⟩=some (.slice (some ⟨g,0,none⟩) bs.length cap)) (hg:g<w.heap.size) (hcs : ∀j,j<bs.length->w.cell? ⟨g,j,none⟩=some (.map (some (bs[j]?.getD 0))))
  (hM : ∀j,j<bs.length->∃nn D,w.ownsMap Tryz.prog 9 (plainElem (H:=Unit) Tryz.prog 2) (bs[j]?.getD 0) nn D/\MapIs D (fs j)) :
  CallsIn F n Tryz.prog 220 #[.pointer (some ⟨C,0,none⟩),.string s] w fun e W'=>
   ((e = .returned (.tuple #[.int .i64 0,.bool false])/\∀j,j<bs.length->fs j s=none)∨(∃(q:Nat) (z:Int),q<bs.length/\e = .returned (.tuple #[.int .i64 z,.bool true])/\fs q s=some z/\∀j,q<j->j<bs.length->fs j s=none))/\Below w.heap.size w W':=by
 have h1:1<=n:=by omega
 have hCl:C<w.heap.size:=World.block_lt_of_cell? _ _ hc
 have hA:Bl w (((w.alloc (.cells #[.string s] 9)).alloc (.cells #[.int .i64 0] 2)).alloc (.cells #[.bool false] 4)):=((bel_a _ _).alloc (by simp) _).alloc (by simp;omega) _
 have hcA:=(hA.cell (p:=⟨C,0,none⟩) hCl).trans hc
 refine callsIn_of_wp_marks Tryz.func220 rfl hF1 ?_ hro
 simp only [Tryz.ntmps220,List.size_toArray,l_c,l_n,Nat.reduceAdd,Nat.reduceSub,Array.replicate_succ,Array.replicate_zero,List.push_toArray,List.append_toArray,List.nil_append,List.cons_append]
 gi_wp2_with (gi_at_call 221;refine (back_in F (n-1) hF2 hro _ _ _ _).mono ?_;rintro e w' ⟨rfl,rfl⟩)
 obtain ⟨S,hS⟩ : ∃S,S=w.heap.size:=⟨_,rfl⟩
 have bS:=((Boxed.new w 9 (.string s)).alloc (.cells #[.int .i64 0] 2)).alloc (.cells #[.bool false] 4) |>.alloc (.cells #[.slice (some ⟨g,0,none⟩) bs.length cap] 204)
 have bZ:=((Boxed.new (w.alloc (.cells #[.string s] 9)) 2 (.int .i64 0)).alloc (.cells #[.bool false] 4)).alloc (.cells #[.slice (some ⟨g,0,none⟩) bs.length cap] 204)
 have bT:=(Boxed.new ((w.alloc (.cells #[.string s] 9)).alloc (.cells #[.int .i64 0] 2)) 4 (.bool false)).alloc (.cells #[.slice (some ⟨g,0,none⟩) bs.length cap] 204)
 have bN:=Boxed.new (((w.alloc (.cells #[.string s] 9)).alloc (.cells #[.int .i64 0] 2)).alloc (.cells #[.bool false] 4)) 204 (.slice (some ⟨g,0,none⟩) bs.length cap)
 simp only [World.size_alloc] at bZ bT bN
 have hB0:Bl w ((((w.alloc (.cells #[.string s] 9)).alloc (.cells #[.int .i64 0] 2)).alloc (.cells #[.bool false] 4)).alloc (.cells #[.slice (some ⟨g,0,none⟩) bs.length cap] 204)):=hA.alloc (by simp;omega) _
 have hsz:((((w.alloc (.cells #[.string s] 9)).alloc (.cells #[.int .i64 0] 2)).alloc (.cells #[.bool false] 4)).alloc (.cells #[.slice (some ⟨g,0,none⟩) bs.length cap] 204)).heap.size=w.heap.size+1+1+1+1:=by simp
 refine wpIn_rangeFunc_ownG hro h1 (gf:=222) (lb:=#[.pointer (some ⟨w.heap.size+1+1+1,0,none⟩)]) rfl hF3 (enters_of Tryz.func222 (by kernel_rfl) rfl)
  (back_stops F (n-1) hF3 hro o_ (w.heap.size+1+1+1) g cap bs hlen hcap _ (by rw [hsz];omega) (by rw [hsz];omega) bN.cell (fun j hj=>(hB0.cell (p:=⟨g,j,none⟩) hg).trans (hcs j hj))) Kp2.trans (Kp2.put (by rw [hsz];omega) (by rw [hsz];omega)) (Below.refl _ _) (fun _=>rfl)
  (fun pre W=>((∀p∈pre,fs p.1 s=none)/\W.cell? ⟨w.heap.size,0,none⟩=some (.string s)/\(W.cell? ⟨w.heap.size+1,0,none⟩=some (.int .i64 0)/\W.frozen? ⟨w.heap.size+1,0,none⟩=false)/\W.cell? ⟨w.heap.size+1+1,0,none⟩=some (.bool false)/\W.frozen? ⟨w.heap.size+1+1,0,none⟩=false)/\Bl w W)
  (fun c pre W=>(c = .ret/\∃ini last z,pre=ini++[last]/\(∀p∈ini,fs p.1 s=none)/\fs last.1 s=some z/\W.cell? ⟨w.heap.size+1,0,none⟩=some (.int .i64 z)/\W.cell? ⟨w.heap.size+1+1,0,none⟩=some (.bool true))/\Bl w W)
  (OwnFrom.and (Own.from (fun q A B row hq hg hr=>⟨hq.1,cell_kept hq.2.1 hg hr,⟨cell_kept hq.2.2.1.1 hg hr,(frozen_kept hq.2.2.1.1 hg hr).trans hq.2.2.1.2⟩,cell_kept hq.2.2.2.1 hg hr,(frozen_kept hq.2.2.2.1 hg hr).trans hq.2.2.2.2⟩) _) (ownFrom_below (Nat.le_refl _) (by rw [hsz];omega)))
  (fun c=>OwnFrom.and (Own.from (fun q A B row hq hg hr=>by obtain ⟨hc,ini,last,z,e1,e2,e3,e4,e5⟩:=hq;exact ⟨hc,ini,last,z,e1,e2,e3,cell_kept e4 hg hr,cell_kept e5 hg hr⟩) _) (ownFrom_below (Nat.le_refl _) (by rw [hsz];omega)))
  ⟨⟨by simp,bS.cell,⟨bZ.cell,bZ.frozen⟩,bT.cell,bT.frozen⟩,hB0⟩
  (fun x => {tmps:=#[.pointer (some ⟨C,0,none⟩),.string s,undef,.pointer (some ⟨w.heap.size,0,none⟩),.pointer (some ⟨w.heap.size+1,0,none⟩),.pointer (some ⟨w.heap.size+1+1,0,none⟩),undef,.map (some (bs[x.1]?.getD 0)),.pointer (some ⟨C,0,none⟩),.pointer (some ⟨C,0,none⟩),.pointer (some ⟨C,0,none⟩),.slice (some ⟨g,0,none⟩) bs.length cap,.func (.func 222) #[] #[.pointer (some ⟨w.heap.size+1+1+1,0,none⟩)],.int .i64 (x.1:Int),.map (some (bs[x.1]?.getD 0)),undef,undef,undef,undef,undef,undef,undef,undef],defers:=[]}) ?assign ?body ?done ?stop
 case assign=>
  intro l x W K hK
  gi_wp2
  exact hK
 case body=>
  rintro l pre x W ⟨⟨hp,hcs0,⟨hz,hzf⟩,ht,htf⟩,hB⟩ _
  obtain ⟨nn,D,hown,hMI⟩:=hM x.1 x.2
  have hownW:=map_keep (w':=W) hown (hB.block _ hown.lt)
  cases hv:fs x.1 s with
  | none=>
   have hlook:=look_not hownW hMI hs hv
   gi_wp2
   refine ⟨((KeepsOthers.setCell _ _ _).trans (KeepsOthers.setCell _ _ _)).from _,⟨?_,?_⟩,⟨fun p hp'=>(List.mem_append.1 hp').elim (hp p) (fun e=>by simp at e;subst e;exact hv),?_,⟨?_,?_⟩,?_,?_⟩,(hB.setCell (p:=⟨w.heap.size+1,0,none⟩) (by simp) _).setCell (p:=⟨w.heap.size+1+1,0,none⟩) (by simp;omega) _⟩
   ·rw [Below.heap_setCell _ _ _ _ (by simp;omega),Below.heap_setCell _ _ _ _ (by simp;omega)]
   ·rw [Below.heap_setCell _ _ _ _ (by show w.heap.size+1+1+1≠w.heap.size+1+1;omega),Below.heap_setCell _ _ _ _ (by show w.heap.size+1+1+1≠w.heap.size+1;omega)]
   all_goals (first | (go_simp;done) | (simp [hcs0,hz,hzf,ht,htf];done) | skip)
  | some z=>
   have hlook:=look_yes hownW hMI hs hv
   gi_wp2
   refine ⟨((((KeepsOthers.setCell _ _ _).trans (KeepsOthers.setCell _ _ _)).trans (KeepsOthers.setCell _ _ _)).trans (KeepsOthers.setCell _ _ _)).from _,⟨rfl,pre,x,z,rfl,hp,hv,?_,?_⟩,(((hB.setCell (p:=⟨w.heap.size+1,0,none⟩) (by simp) _).setCell (p:=⟨w.heap.size+1+1,0,none⟩) (by simp;omega) _).setCell (p:=⟨w.heap.size+1,0,none⟩) (by simp) _).setCell (p:=⟨w.heap.size+1+1,0,none⟩) (by simp;omega) _⟩
   all_goals
    have hab:(⟨w.heap.size+1,0,none⟩:Addr)≠⟨w.heap.size+1+1,0,none⟩:=by simp
    obtain ⟨p1,p2⟩:=two_cells (u:=.int .i64 z) (v:=.bool true) hz ht hab
    obtain ⟨q1,q2⟩:=two_cells (u:=.int .i64 z) (v:=.bool true) p1 p2 hab
    first | exact q1 | exact q2
 case done=>
  rintro D ys W hD rfl ⟨⟨hne,hcs0,⟨hz,hzf⟩,ht,htf⟩,hB⟩ hK
  gi_wp2
  have hK':=(KeepsOthers.setCell (W.setCell ⟨w.heap.size+1,0,none⟩ (.int .i64 0)) ⟨w.heap.size+1+1,0,none⟩ (.bool false)).same D _ ((KeepsOthers.setCell W ⟨w.heap.size+1,0,none⟩ (.int .i64 0)).same D _ hK rfl) rfl
  refine ⟨by simp,.inl ⟨_,_,rfl,run_takeDeferred hK',?_⟩⟩
  have c1:((W.setCell ⟨w.heap.size+1,0,none⟩ (.int .i64 0)).setCell ⟨w.heap.size+1+1,0,none⟩ (.bool false)).cell? ⟨w.heap.size+1,0,none⟩=some (.int .i64 0):=by go_simp
  have c2:((W.setCell ⟨w.heap.size+1,0,none⟩ (.int .i64 0)).setCell ⟨w.heap.size+1+1,0,none⟩ (.bool false)).cell? ⟨w.heap.size+1+1,0,none⟩=some (.bool false):=by go_simp
  have hc5:=cell_kept c1 (grownBy_putObj' _ D (.deferred none)) (fun r e=>by cases e;exact ⟨_,hK',rfl⟩)
  have hc6:=cell_kept c2 (grownBy_putObj' _ D (.deferred none)) (fun r e=>by cases e;exact ⟨_,hK',rfl⟩)
  refine ⟨.tuple #[.int .i64 0,.bool false],?_,.inl ⟨rfl,fun j hj=>hne ⟨j,hj⟩ (mem_bk bs bs.length j hj o_)⟩,((hB.setCell (p:=⟨w.heap.size+1,0,none⟩) (by simp) _).setCell (p:=⟨w.heap.size+1+1,0,none⟩) (by simp;omega) _).trans (belowK_b (w:=w) (Nat.le_refl _) _ D _ _ (by simp at hD;omega) hK' rfl rfl)⟩
  simp [results,Tryz.results220,go_sem,hc5,hc6]
 case stop=>
  rintro D c pre W hD ⟨k,hk,rfl⟩ ⟨⟨rfl,ini,last,z,e1,e2,e3,hz,ht⟩,hB⟩ hK
  gi_wp2
  refine ⟨by simp,.inl ⟨_,_,rfl,run_takeDeferred hK,?_⟩⟩
  have hc5:=cell_kept hz (grownBy_putObj' _ D (.deferred none)) (fun r e=>by cases e;exact ⟨_,hK,rfl⟩)
  have hc6:=cell_kept ht (grownBy_putObj' _ D (.deferred none)) (fun r e=>by cases e;exact ⟨_,hK,rfl⟩)
  refine ⟨.tuple #[.int .i64 z,.bool true],?_,.inr ⟨last.1,z,last.2,rfl,e3,fun j h1 h2 => ?_⟩,hB.trans (belowK_b (w:=w) (Nat.le_refl _) W D _ _ (by simp at hD;omega) hK rfl rfl)⟩
  ·simp [results,Tryz.results220,go_sem,hc5,hc6]
  ·obtain ⟨k',rfl⟩ : ∃k',k=k'+1:=by
    cases k with
    | zero=>simp [bk] at e1
    | succ k'=>exact ⟨k',rfl⟩
   rw [bk_succ bs k' o_] at e1
   obtain ⟨rfl,e5⟩:=List.append_inj' e1 rfl
   have e6:last.1=bs.length-1-k':=by
    have:=e5
    simp only [List.cons.injEq,and_true] at this
    rw [<-this]
   exact e2 ⟨j,h2⟩ (mem_bk bs k' j h2 o_)
def noF:ByteArray->Option Int:=fun _=>none
theorem findS_none {fl:List (ByteArray->Option Int)} {s:ByteArray} (h : ∀j,j<fl.length->(fl.getD j noF) s=none):findS fl s=none:=by
 induction fl with
 | nil=>rfl
 | cons f r ih=>
  have h0:=h 0 (by simp)
  simp at h0
  simp only [findS]
  rw [ih (fun j hj=>by have:=h (j+1) (by simpa using hj);simpa using this),h0]
  rfl
theorem findS_hit {fl:List (ByteArray->Option Int)} {s:ByteArray} {q:Nat} {z:Int} (hq:q<fl.length) (hz:(fl.getD q noF) s=some z) (h : ∀j,q<j->j<fl.length->(fl.getD j noF) s=none):findS fl s=some z:=by
 induction fl generalizing q with
 | nil=>simp at hq
 | cons f r ih=>
  simp only [findS]
  cases q with
  | zero=>
   rw [findS_none (fun j hj=>by have:=h (j+1) o_ (by simpa using hj);simpa using this)]
   simpa using hz
  | succ q=>
   rw [ih (q:=q) (by simpa using hq) (by simpa using hz) (fun j h1 h2=>by have:=h (j+1) o_ (by simpa using h2);simpa using this)]
   rfl
theorem findK_any (C B:Nat) (bs:List Nat) (fl:List (ByteArray->Option Int)) (v:Value) (s:ByteArray) (w:World) (hl:fl.length=bs.length) (hlen:bs.length<=1000000) (hp:0<bs.length) (hs:s.size<=maxLen)
  (hc:w.cell? ⟨C,0,none⟩=some v) (hR:BRw B w v bs) (hM : ∀j,j<bs.length->∃nn D,w.ownsMap Tryz.prog 9 (plainElem (H:=Unit) Tryz.prog 2) (bs[j]?.getD 0) nn D/\MapIs D (fl.getD j noF)) :
  Calls Tryz.prog 220 #[.pointer (some ⟨C,0,none⟩),.string s] w fun e w'=>e = .returned (match findS fl s with | none=>.tuple #[.int .i64 0,.bool false] | some z=>.tuple #[.int .i64 z,.bool true])/\Below w.heap.size w w':=by
 have hR0:=hR
 rcases hR.2 with ⟨_,hz⟩ | ⟨g,cap,cur,rfl,hbg,hh,hc1,_⟩
 ·omega
 ·refine (callsIn_wide.1 (find_in Fence.wide 3 trivial trivial trivial rfl (Nat.le_refl _) C g cap bs (fun j=>fl.getD j noF) s w hlen hc1 hs hc (Array.getElem?_eq_some_iff.1 hh).1 (fun j hj => ?_) hM)).mono ?_
  ·have:=World.ownsRow.cellAt hR0 j (by simpa using hj)
   rw [this]
   simp [hj]
  ·rintro e w' ⟨⟨rfl,h⟩ | ⟨q,z,hq,rfl,h1,h2⟩,hB⟩
   ·rw [findS_none (fun j hj=>h j o_)]
    exact ⟨rfl,hB⟩
   ·rw [findS_hit (q:=q) o_ h1 (fun j h3 h4=>h2 j h3 o_)]
    exact ⟨rfl,hB⟩
def fnumI (fs:List Fu) (s:ByteArray):Int:=match fnum fs s with | some i=>(i:Int) | none => -1
theorem fnumI_some {fs:List Fu} {s:ByteArray} {i:Nat} (h:fnum fs s=some i):fnumI fs s=i:=by unfold fnumI;rw [h]
theorem fnumI_none {fs:List Fu} {s:ByteArray} (h:fnum fs s=none):fnumI fs s = -1:=by unfold fnumI;rw [h]
theorem ne_list {a b:ByteArray} (h:a≠b):(a.toList == b.toList)=false:=by
 rw [beq_eq_false_iff_ne]
 intro e
 rw [ByteArray.toList_eq,ByteArray.toList_eq] at e
 exact h (ByteArray.ext (Array.ext' e))
theorem l3func_any (fs:List Fu) (vg vf:Value) (s:ByteArray) (w:World) (hl:fs.length<=1048576) (hf:Funcs w vf fs) :
  Calls Tryz.prog 17 #[.agg #[vg,vf],.string s] w fun e w'=>e = .returned (.int .i64 (fnumI fs s))/\Below w.heap.size w w':=by
 obtain ⟨af,cf,rfl,-,-,hfc⟩:=hf
 have HFC:=hide hfc
 go_enter Tryz.func17,Tryz.ntmps17
 go_wp2_with fail
 go_loopw [5] (fun i wr=>∃k:Nat,k<=fs.length/\i = .int .i64 k/\(∀j (hj:j<fs.length),j<k->fs[j].name≠s)/\Below (w.heap.size+1) (w.alloc (.cells #[vg,.slice af fs.length cf] 32)) wr) (fun i _=>fs.length-(RowKit.intOf i).toNat)
 case atStart=>exact ⟨0,Nat.zero_le _,rfl,fun j hj h=>absurd h (Nat.not_lt_zero _),Below.refl _ _⟩
 case round=>
  obtain ⟨k,hk,rfl,hn,hB⟩:=hrel
  have HN:=hide hn
  have hBw:=one_below hB
  obtain ⟨x0,x1⟩:=box2 hB
  by_cases hlt:k<fs.length
  ·obtain ⟨b,off,rfl,hc⟩:=HFC.out o_
   obtain ⟨vp,vb,⟨d0,d1,d2⟩,-,-⟩:=(hc.below hBw) k hlt
   by_cases hs:fs[k].name=s
   ·have HR:Hid (fnumI fs s=k):=fnumI_some (fnum_at hlt (fun j hj=>HN.out j o_ hj) hs)
    rw [hs] at d0
    go_wp2_with fail
    go_ret
    exact ⟨ret_int HR.out.symm,hBw⟩
   ·have HS:Hid (∀j (hj:j<fs.length),j<k+1->fs[j].name≠s):=fun j hj h=>by
     by_cases e:j=k
     ·subst e;exact hs
     ·exact HN.out j hj o_
    have hs':=ne_list hs
    generalize fs[k].name=fn at d0 hs hs'
    go_wp2_with fail
    go_roundw
    case rel=>exact ⟨k+1,by omega,by go_num,HS.out,hB⟩
    case measure=>simp [RowKit.intOf];omega
  ·have HR:Hid (fnumI fs s = -1):=fnumI_none (fnum_no (fun j hj=>HN.out j hj o_))
   go_wp2_with fail
   go_ret
   exact ⟨ret_int HR.out.symm,hBw⟩
theorem l3in_any (xs:List ByteArray) (v:Value) (s:ByteArray) (w:World) (hl:xs.length<=10000000) (hx:Strs w v xs) :
  Calls Tryz.prog 113 #[v,.string s] w fun e w'=>e = .returned (.bool (inS xs s))/\Below w.heap.size w w':=by
 obtain ⟨a,c,rfl,-,-,hc⟩:=hx
 have HC:=hide hc
 clear hc
 go_enter Tryz.func113,Tryz.ntmps113
 go_wp2_with fail
 go_loopw [5] (fun i wr=>∃k:Nat,k<=xs.length/\i = .int .i64 k/\(∀j (hj:j<xs.length),j<k->xs[j]≠s)/\Bl w wr) (fun i _=>xs.length-(RowKit.intOf i).toNat)
 case atStart=>exact ⟨0,Nat.zero_le _,rfl,fun j hj h=>absurd h (Nat.not_lt_zero _),Below.refl _ _⟩
 case round=>
  obtain ⟨k,hk,rfl,hn,hB⟩:=hrel
  have HN:=hide hn
  clear hn
  by_cases hlt:k<xs.length
  ·obtain ⟨b,off,rfl,hc⟩:=HC.out o_
   have d0:=(hc.below hB) k hlt
   by_cases hs:xs[k]=s
   ·have HR:Hid (inS xs s=true):=inS_at hlt hs
    rw [hs] at d0
    clear hc hs
    go_wp2_with fail
    go_ret
    exact ⟨ret_bool HR.out.symm,hB⟩
   ·have HS:Hid (∀j (hj:j<xs.length),j<k+1->xs[j]≠s):=fun j hj h=>by
     by_cases e:j=k
     ·subst e;exact hs
     ·exact HN.out j hj o_
    clear hc
    have hs':=ne_list hs
    generalize xs[k]=fn at d0 hs hs'
    go_wp2_with fail
    go_roundw
    case rel=>exact ⟨k+1,by omega,by go_num,HS.out,hB⟩
    case measure=>simp [RowKit.intOf];omega
  ·have HR:Hid (inS xs s=false):=inS_no (fun j hj=>HN.out j hj o_)
   go_wp2_with fail
   go_ret
   exact ⟨ret_bool HR.out.symm,hB⟩
theorem l3global_any (gs:List Gl) (vg vf:Value) (s:ByteArray) (w:World) (hl:gs.length<=1048576) (hg:Globs w vg gs) :
  Calls Tryz.prog 114 #[.agg #[vg,vf],.string s] w fun e w'=>e = .returned (.int .i64 (globI gs s))/\Below w.heap.size w w':=by
 obtain ⟨ag,cg,rfl,-,-,hgc⟩:=hg
 have HGC:=hide hgc
 go_enter Tryz.func114,Tryz.ntmps114
 go_wp2_with fail
 go_loopw [5] (fun i wr=>∃k:Nat,k<=gs.length/\i = .int .i64 k/\(∀j (hj:j<gs.length),j<k->gs[j].name≠s)/\Below (w.heap.size+1) (w.alloc (.cells #[.slice ag gs.length cg,vf] 32)) wr) (fun i _=>gs.length-(RowKit.intOf i).toNat)
 case atStart=>exact ⟨0,Nat.zero_le _,rfl,fun j hj h=>absurd h (Nat.not_lt_zero _),Below.refl _ _⟩
 case round=>
  obtain ⟨k,hk,rfl,hn,hB⟩:=hrel
  have HN:=hide hn
  have hBw:=one_below hB
  obtain ⟨x0,x1⟩:=box2 hB
  by_cases hlt:k<gs.length
  ·obtain ⟨b,off,rfl,hc⟩:=HGC.out o_
   obtain ⟨d0,d1⟩:=(hc.below hBw) k hlt
   by_cases hs:gs[k].name=s
   ·have HR:Hid (globI gs s=gs[k].size):=globI_at hlt (fun j hj=>HN.out j o_ hj) hs
    rw [hs] at d0
    generalize gs[k].size=z at d1 HR
    go_wp2_with fail
    go_ret
    exact ⟨ret_int HR.out.symm,hBw⟩
   ·have HS:Hid (∀j (hj:j<gs.length),j<k+1->gs[j].name≠s):=fun j hj h=>by
     by_cases e:j=k
     ·subst e;exact hs
     ·exact HN.out j hj o_
    have hs':=ne_list hs
    generalize gs[k].name=fn at d0 hs hs'
    go_wp2_with fail
    go_roundw
    case rel=>exact ⟨k+1,by omega,by go_num,HS.out,hB⟩
    case measure=>simp [RowKit.intOf];omega
  ·have HR:Hid (globI gs s = -1):=globI_no (fun j hj=>HN.out j hj o_)
   go_wp2_with fail
   go_ret
   exact ⟨ret_int HR.out.symm,hBw⟩
theorem useE_of {gs:List Gl} {scope:List ByteArray} {s:ByteArray} {arr:Bool} {z:Int} (h:(if inS scope s then 0 else globI gs s)=z):useE gs scope s arr=if z<0 then 4 else if decide (z>0)=arr then 0 else 5:=by
 unfold useE
 rw [h]
theorem l3use_any (gs:List Gl) (scope:List ByteArray) (vg vf vs:Value) (s:ByteArray) (arr:Bool) (w:World) (hl:gs.length<=1048576) (hsl:scope.length<=10000000) (hf : ∃a n c,vf = .slice a n c) (hg:Globs w vg gs) (hs:Strs w vs scope) :
  Calls Tryz.prog 149 #[.agg #[vg,vf],vs,.string s,.bool arr] w fun e w'=>e = .returned (.int .i64 (useE gs scope s arr))/\Below w.heap.size w w':=by
 have HG:=hide hg
 have HS:=hide hs
 obtain ⟨af,nf,cf,rfl⟩:=hf
 obtain ⟨ag,cg,rfl,-,-,-⟩:=hg
 obtain ⟨az,cz,rfl,-,-,-⟩:=hs
 go_enter Tryz.func149,Tryz.ntmps149
 go_wp2_with fail
 have hA:Bl w (w.alloc (.cells #[.slice ag gs.length cg,.slice af nf cf] 32)):=bel_a _ _
 refine (l3in_any scope _ s _ hsl (HS.out.below hA)).mono ?_
 rintro e w1 ⟨rfl,hb1⟩
 simp only [World.size_alloc] at hb1
 have hB1:=one_below hb1
 obtain ⟨x0,x1⟩:=box2 hb1
 by_cases hin:inS scope s=true
 ·have HU:Hid (useE gs scope s arr=if arr=false then 0 else 5):=by
   show _=_
   rw [useE_of (show (if inS scope s=true then (0:Int) else globI gs s)=0 by rw [if_pos hin])]
   cases arr <;> rfl
  rw [hin]
  clear hin
  cases arr
  ·go_wp2_with fail
   go_ret
   exact ⟨ret_int HU.out.symm,hB1⟩
  ·go_wp2_with fail
   go_ret
   exact ⟨ret_int HU.out.symm,hB1⟩
 ·have hin':inS scope s=false:=by simpa using hin
  have HU:Hid (useE gs scope s arr=if globI gs s<0 then 4 else if decide (globI gs s>0)=arr then 0 else 5):=useE_of (by rw [if_neg hin])
  rw [hin']
  clear hin hin'
  go_wp2_with fail
  refine (l3global_any gs _ _ s _ hl (HG.out.below hB1)).mono ?_
  rintro e w2 ⟨rfl,hb2⟩
  have hB2:=hB1.trans (hb2.mono hB1.size)
  generalize globI gs s=z at HU ⊢
  clear x0 x1 hb1 hb2 hA
  by_cases h0:z<0
  ·have HU2:Hid (useE gs scope s arr=4):=by show _=_;rw [HU.out,if_pos h0]
   clear HU
   go_wp2_with fail
   go_ret
   exact ⟨ret_int HU2.out.symm,hB2⟩
  ·by_cases h1:z>0
   ·have HU2:Hid (useE gs scope s arr=if arr=true then 0 else 5):=by show _=_;rw [HU.out,if_neg h0,decide_eq_true h1];cases arr <;> rfl
    clear HU
    cases arr
    ·go_wp2_with fail
     go_ret
     exact ⟨ret_int HU2.out.symm,hB2⟩
    ·go_wp2_with fail
     go_ret
     exact ⟨ret_int HU2.out.symm,hB2⟩
   ·obtain rfl:z=0:=by omega
    have HU2:Hid (useE gs scope s arr=if arr=false then 0 else 5):=by show _=_;rw [HU.out];cases arr <;> rfl
    clear HU h0 h1
    cases arr
    ·go_wp2_with fail
     go_ret
     exact ⟨ret_int HU2.out.symm,hB2⟩
    ·go_wp2_with fail
     go_ret
     exact ⟨ret_int HU2.out.symm,hB2⟩
end Go.Proofs.YtnpidjamplmgjaaGreatDoor
