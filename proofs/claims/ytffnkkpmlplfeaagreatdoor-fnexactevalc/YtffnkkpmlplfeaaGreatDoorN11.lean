import Derived.RangeFuncNested
import Derived.RangeFuncBound
import Derived.Shelf.RegionOpen
import Derived.OwnWalkIn
import Derived.LoopNIn
import Derived.LoopIn
import Derived.Test.YtffnkkpmlplfeaaGreatDoorN10
namespace Go.Proofs.YtffnkkpmlplfeaaGreatDoor
open Go.Proofs.Tryz
open Go.RowKit Go.Shelf
set_option linter.all false
set_option maxRecDepth 100000
set_option maxHeartbeats 16000000
variable[Inhabited Pick]
section
attribute [local go_sem] Oper.semAt_some
variable {g Bs:Nat}
abbrev Ix (bs:List Nat) := {q:Nat // q<bs.length}
def bk (bs:List Nat) (k:Nat):List (Ix bs):=(List.range k).filterMap (λj=>if h:bs.length-1-j<bs.length then some ⟨bs.length-1-j,h⟩ else none)
theorem bk_succ (bs:List Nat) (k:Nat) (h:bs.length-1-k<bs.length):bk bs (k+1)=bk bs k++[⟨bs.length-1-k,h⟩]:=by simp[bk,List.range_succ,List.filterMap_append,h]
theorem bk_length (bs:List Nat) (k:Nat):(bk bs k).length<=k:=by
 have:=List.length_filterMap_le (λj=>if h:bs.length-1-j<bs.length then some (⟨bs.length-1-j,h⟩:Ix bs) else none) (List.range k)
 simpa[bk] using this
def Kp2 (g Bs:Nat) (W W':World):Prop:=W'.heap[g]? = W.heap[g]? /\ W'.heap[Bs]? = W.heap[Bs]?
theorem Kp2.refl (g Bs:Nat) (W:World):Kp2 g Bs W W:=⟨rfl,rfl⟩
theorem Kp2.trans {A B C:World} (h:Kp2 g Bs A B) (k:Kp2 g Bs B C):Kp2 g Bs A C:=⟨k.1.trans h.1,k.2.trans h.2⟩
theorem Kp2.put {w:World} (hg:g<w.heap.size) (hB:Bs<w.heap.size) (W:World) (l:Nat) (o o':Obj) (hl:w.heap.size<=l) (h1:W.heap[l]? = some o) (h2:o.isCells=false) (h3:o.isWalk=false):Kp2 g Bs W (W.putObj l o'):=
 ⟨World.putObj_heap_other o_,World.putObj_heap_other o_⟩
theorem back1_in (F:Fence) (n:Nat) (hFn:F.fn 242) (hro:F.round=none) (hn:1<=n) (l Bs g cap:Nat) (bs:List Nat) (hlen:bs.length<=1000000) (hcap:bs.length<=cap) (J Jx:List (Ix bs)->World->Prop)
  (hY : ∀pre (x:Ix bs) W,J pre W->pre.length<bs.length->YieldAt F (n-1) prog l #[.int .i64 (x.1:Int),.map (some (bs[x.1]?.getD 0))] W λe W'=>
   (e=.returned (.bool true)/\J (pre++[x]) W'/\Kp2 g Bs W W')∨(e=.returned (.bool false)/\Jx (pre++[x]) W'))
  (W:World) (hBs:W.cell? ⟨Bs,0,none⟩=some (.slice (some ⟨g,0,none⟩) bs.length cap)) (hc : ∀j,j<bs.length->W.cell? ⟨g,j,none⟩=some (.map (some (bs[j]?.getD 0)))) (h0:J [] W) :
  CallsIn F n prog 242 #[.func (.yield l) #[] #[],.pointer (some ⟨Bs,0,none⟩)] W λe W'=>(∃v,e=.returned v) /\
   ((∃ys,ys=bk bs bs.length/\J ys W')∨∃pre,(∃k,k<=bs.length/\pre=bk bs k)/\Jx pre W'):=by
 refine callsIn_of_wp func242 rfl hFn ?_ hro;simp only[ntmps242,List.size_toArray,l_c,l_n,Nat.reduceAdd,Nat.reduceSub,Array.replicate_succ,Array.replicate_zero,List.push_toArray,List.append_toArray,List.nil_append,List.cons_append];gi_wp2
 gi_loopw [3] (λi wr=>∃k:Nat,k<=bs.length/\i=.int .i64 ((bs.length:Int)-1-k)/\J (bk bs k) wr/\Kp2 g Bs W wr)
  (λi _=>((RowKit.intOf i)+1).toNat)
 case atStart=>exact⟨0,y_,by simp,h0,Kp2.refl _ _ _⟩
 case round=>
  obtain⟨k,hk,rfl,hJs,hnx⟩:=hrel;by_cases hlt:k<bs.length
  ·have hqk:bs.length-1-k<bs.length:=by omega
   have HS0:=hide (bk_succ bs k hqk);obtain⟨q,hq⟩ : ∃q:Nat,q=bs.length-1-k:=⟨_,rfl⟩;have hqi:(bs.length:Int)-1-k=(q:Int):=by omega
   have hql:q<bs.length:=by omega
   have HS:Hid (bk bs (k+1)=bk bs k++[⟨q,hql⟩]):=by subst hq;exact HS0
   rw[hqi];have hcx:=(c_ (a:=⟨g,q,none⟩) hnx.1).trans (hc q hql);have hbx:=(c_ (a:=⟨Bs,0,none⟩) hnx.2).trans hBs;obtain⟨fn,tmps,assign,body,hy,hR⟩:=hY _ ⟨q,hql⟩ wr hJs (by have:=bk_length bs k;omega);have HQ:Hid ((q:Int)-1=(bs.length:Int)-1-((k+1:Nat):Int)):=by show _=_;omega
   dsimp only at hy;clear hq hqi HS0 hqk;generalize bs[q]?.getD 0=bq at hcx hy;gi_wp2
   refine hR.mono ?_;rintro e W3 (⟨rfl,hJ3,hk3⟩|⟨rfl,hJx3⟩)
   ·gi_wp2
    go_roundw
    case rel=>exact⟨k+1,by omega,by rw[<-HQ.o],by rw[HS.o];exact hJ3,hnx.trans hk3⟩
    case measure=>simp[RowKit.intOf]
   ·gi_wp2
    refine bodyPost_ret (results_none rfl _ _ _) rfl ?_;exact⟨⟨_,rfl⟩,.inr ⟨_,⟨k+1,by omega,rfl⟩,by rw[HS.o];exact hJx3⟩⟩
  ·obtain rfl:k=bs.length:=by omega
   rw[show (bs.length:Int)-1-(bs.length:Nat) = -1 by omega];gi_wp2
   go_end0
   exact⟨⟨_,rfl⟩,.inl ⟨_,rfl,hJs⟩⟩
theorem back_in (F:Fence) (n:Nat) (hFn:F.fn 240) (hro:F.round=none) (a:Option Addr) (len cap:Nat) (w:World) :
  CallsIn F n prog 240 #[.slice a len cap] w λe w'=>e=.returned (.func (.func 242) #[] #[.pointer (some ⟨w.heap.size,0,none⟩)])/\w'=w.alloc (.cells #[.slice a len cap] 158):=by
 refine callsIn_of_wp func240 rfl hFn ?_ hro;simp only[ntmps240,List.size_toArray,l_c,l_n,Nat.reduceAdd,Nat.reduceSub,Array.replicate_succ,Array.replicate_zero,List.push_toArray,List.append_toArray,List.nil_append,List.cons_append];gi_wp2
 go_ret;exact⟨rfl,rfl⟩
theorem back_stops (F:Fence) (n:Nat) (hFn:F.fn 242) (hro:F.round=none) (hn:1<=n) (Bs g cap:Nat) (bs:List Nat) (hlen:bs.length<=1000000) (hcap:bs.length<=cap) (w:World) (hg:g<w.heap.size) (hB:Bs<w.heap.size)
  (hBs:w.cell? ⟨Bs,0,none⟩=some (.slice (some ⟨g,0,none⟩) bs.length cap)) (hc : ∀j,j<bs.length->w.cell? ⟨g,j,none⟩=some (.map (some (bs[j]?.getD 0)))) :
  SeqStopsK F n prog 242 #[.pointer (some ⟨Bs,0,none⟩)] (λx:Ix bs=>#[Value.int .i64 (x.1:Int),Value.map (some (bs[x.1]?.getD 0))]) (Kp2 g Bs) (λys=>ys=bk bs bs.length) (λpre=>∃k,k<=bs.length/\pre=bk bs k) bs.length w:=λl J Jx W hW _ _ hY h0=>
 back1_in F n hFn hro hn l Bs g cap bs hlen hcap J Jx hY W ((hW.cell (p:=⟨Bs,0,none⟩) hB).trans hBs) (λj hj=>(hW.cell (p:=⟨g,j,none⟩) hg).trans (hc j hj)) h0
end
section
attribute [local go_sem] Oper.semAt_some
variable {s:ByteArray}
theorem two_cells {W:World} {a b:Addr} {u v x y:Value} (ha:W.cell? a=some x) (hb:W.cell? b=some y) (hab:a≠b):((W.setCell a u).setCell b v).cell? a=some u/\((W.setCell a u).setCell b v).cell? b=some v:=by
 constructor
 ·rw[s_ _ _ _ _ (by first|exact hab|exact λh=>hab h.symm)];exact World.cell?_setCell_same _ _ _ ha
 ·have h:(W.setCell a u).cell? b=some y:=by
   rw[s_ _ _ _ _ (by first|exact hab|exact λh=>hab h.symm)];exact hb
  exact World.cell?_setCell_same _ _ _ h
theorem mem_bk (bs:List Nat) (k j:Nat) (hj:j<bs.length) (h:bs.length-1-j<k):(⟨j,hj⟩:Ix bs)∈bk bs k:=by
 unfold bk;rw[List.mem_filterMap];refine⟨bs.length-1-j,List.mem_range.2 h,?_⟩;have e:bs.length-1-(bs.length-1-j)=j:=by omega
 rw[dif_pos o_];simp[e]
theorem find_in (F:Fence) (n:Nat) (hF1:F.fn 233) (hF2:F.fn 240) (hF3:F.fn 242) (hro:F.round=none) (hn:3<=n)
  (C g cap:Nat) (bs:List Nat) (fs:Nat->ByteArray->Option Int) (s:ByteArray) (w:World) (hlen:bs.length<=1000000) (hcap:bs.length<=cap) (hs:s.size<=maxLen)
  (hc:w.cell? ⟨C,0,none⟩=some (.slice (some ⟨g,0,none⟩) bs.length cap)) (hg:g<w.heap.size) (hcs : ∀j,j<bs.length->w.cell? ⟨g,j,none⟩=some (.map (some (bs[j]?.getD 0))))
  (hM : ∀j,j<bs.length->∃nn D,w.ownsMap prog 9 (plainElem (H:=Unit) prog 2) (bs[j]?.getD 0) nn D/\MapIs D (fs j)) :
  CallsIn F n prog 233 #[.pointer (some ⟨C,0,none⟩),.string s] w λe W'=>
   ((e=.returned (.tuple #[.int .i64 0,.bool false])/\∀j,j<bs.length->fs j s=none)∨(∃(q:Nat) (z:Int),q<bs.length/\e=.returned (.tuple #[.int .i64 z,.bool true])/\fs q s=some z/\∀j,q<j->j<bs.length->fs j s=none))/\Below w.heap.size w W':=by
 have h1:1<=n:=by omega
 have hCl:C<w.heap.size:=b_ hc;have hA:Bl w (((w.alloc (.cells #[.string s] 9)).alloc (.cells #[.int .i64 0] 2)).alloc (.cells #[.bool false] 4)):=((bel_a _ _).alloc (by simp) _).alloc (by simp;omega) _;have hcA:=(hA.cell (p:=⟨C,0,none⟩) hCl).trans hc;refine callsIn_of_wp_marks func233 rfl hF1 ?_ hro;simp only[ntmps233,List.size_toArray,l_c,l_n,Nat.reduceAdd,Nat.reduceSub,Array.replicate_succ,Array.replicate_zero,List.push_toArray,List.append_toArray,List.nil_append,List.cons_append];gi_wp2_with (gi_at_call 240;refine (back_in F (n-1) hF2 hro _ _ _ _).mono ?_;rintro e w' ⟨rfl,rfl⟩)
 obtain⟨S,hS⟩ : ∃S,S=w.heap.size:=⟨_,rfl⟩;have bS:=((Boxed.new w 9 (.string s)).alloc (.cells #[.int .i64 0] 2)).alloc (.cells #[.bool false] 4) |>.alloc (.cells #[.slice (some ⟨g,0,none⟩) bs.length cap] 158);have bZ:=((Boxed.new (w.alloc (.cells #[.string s] 9)) 2 (.int .i64 0)).alloc (.cells #[.bool false] 4)).alloc (.cells #[.slice (some ⟨g,0,none⟩) bs.length cap] 158);have bT:=(Boxed.new ((w.alloc (.cells #[.string s] 9)).alloc (.cells #[.int .i64 0] 2)) 4 (.bool false)).alloc (.cells #[.slice (some ⟨g,0,none⟩) bs.length cap] 158);have bN:=Boxed.new (((w.alloc (.cells #[.string s] 9)).alloc (.cells #[.int .i64 0] 2)).alloc (.cells #[.bool false] 4)) 158 (.slice (some ⟨g,0,none⟩) bs.length cap);simp only[World.size_alloc] at bZ bT bN;have hB0:Bl w ((((w.alloc (.cells #[.string s] 9)).alloc (.cells #[.int .i64 0] 2)).alloc (.cells #[.bool false] 4)).alloc (.cells #[.slice (some ⟨g,0,none⟩) bs.length cap] 158)):=hA.alloc (by simp;omega) _;have hsz:((((w.alloc (.cells #[.string s] 9)).alloc (.cells #[.int .i64 0] 2)).alloc (.cells #[.bool false] 4)).alloc (.cells #[.slice (some ⟨g,0,none⟩) bs.length cap] 158)).heap.size=w.heap.size+1+1+1+1:=by simp
 refine wpIn_rangeFunc_ownG hro h1 (gf:=242) (lb:=#[.pointer (some ⟨w.heap.size+1+1+1,0,none⟩)]) rfl hF3 (enters_of func242 k_ rfl)
  (back_stops F (n-1) hF3 hro o_ (w.heap.size+1+1+1) g cap bs hlen hcap _ (by rw[hsz];omega) (by rw[hsz];omega) bN.cell (λj hj=>(hB0.cell (p:=⟨g,j,none⟩) hg).trans (hcs j hj))) Kp2.trans (Kp2.put (by rw[hsz];omega) (by rw[hsz];omega)) r_ (λ_=>rfl)
  (λpre W=>((∀p∈pre,fs p.1 s=none)/\W.cell? ⟨w.heap.size,0,none⟩=some (.string s)/\(W.cell? ⟨w.heap.size+1,0,none⟩=some (.int .i64 0)/\W.frozen? ⟨w.heap.size+1,0,none⟩=false)/\W.cell? ⟨w.heap.size+1+1,0,none⟩=some (.bool false)/\W.frozen? ⟨w.heap.size+1+1,0,none⟩=false)/\Bl w W)
  (λc pre W=>(c=.ret/\∃ini last z,pre=ini++[last]/\(∀p∈ini,fs p.1 s=none)/\fs last.1 s=some z/\W.cell? ⟨w.heap.size+1,0,none⟩=some (.int .i64 z)/\W.cell? ⟨w.heap.size+1+1,0,none⟩=some (.bool true))/\Bl w W)
  (OwnFrom.and (Own.from (λq A B row hq hg hr=>⟨hq.1,cell_kept hq.2.1 hg hr,⟨cell_kept hq.2.2.1.1 hg hr,(frozen_kept hq.2.2.1.1 hg hr).trans hq.2.2.1.2⟩,cell_kept hq.2.2.2.1 hg hr,(frozen_kept hq.2.2.2.1 hg hr).trans hq.2.2.2.2⟩) _) (ownFrom_below n_ (by rw[hsz];omega)))
  (λc=>OwnFrom.and (Own.from (λq A B row hq hg hr=>by obtain⟨hc,ini,last,z,e1,e2,e3,e4,e5⟩:=hq;exact⟨hc,ini,last,z,e1,e2,e3,cell_kept e4 hg hr,cell_kept e5 hg hr⟩) _) (ownFrom_below n_ (by rw[hsz];omega)))
  ⟨⟨by simp,bS.cell,⟨bZ.cell,bZ.frozen⟩,bT.cell,bT.frozen⟩,hB0⟩
  (λx => {tmps:=#[.pointer (some ⟨C,0,none⟩),.string s,undef,.pointer (some ⟨w.heap.size,0,none⟩),.pointer (some ⟨w.heap.size+1,0,none⟩),.pointer (some ⟨w.heap.size+1+1,0,none⟩),undef,.map (some (bs[x.1]?.getD 0)),.pointer (some ⟨C,0,none⟩),.pointer (some ⟨C,0,none⟩),.pointer (some ⟨C,0,none⟩),.slice (some ⟨g,0,none⟩) bs.length cap,.func (.func 242) #[] #[.pointer (some ⟨w.heap.size+1+1+1,0,none⟩)],.int .i64 (x.1:Int),.map (some (bs[x.1]?.getD 0)),undef,undef,undef,undef,undef,undef,undef,undef],defers:=[]}) ?assign ?body ?done ?stop
 case assign=>
  intro l x W K hK;gi_wp2
  exact hK
 case body=>
  rintro l pre x W ⟨⟨hp,hcs0,⟨hz,hzf⟩,ht,htf⟩,hB⟩ _;obtain⟨nn,D,hown,hMI⟩:=hM x.1 x.2;have hownW:=map_keep (w':=W) hown (hB.block _ hown.lt);cases hv:fs x.1 s with
  | none=>
   have hlook:=look_not hownW hMI hs hv;gi_wp2
   refine⟨((KeepsOthers.setCell _ _ _).trans (KeepsOthers.setCell _ _ _)).from _,⟨?_,?_⟩,⟨λp hp'=>(List.mem_append.1 hp').elim (hp p) (λe=>by simp at e;subst e;exact hv),?_,⟨?_,?_⟩,?_,?_⟩,(hB.setCell (p:=⟨w.heap.size+1,0,none⟩) (by simp) _).setCell (p:=⟨w.heap.size+1+1,0,none⟩) (by simp;omega) _⟩
   ·rw[Below.heap_setCell _ _ _ _ (by simp;omega),Below.heap_setCell _ _ _ _ (by simp;omega)]
   ·rw[Below.heap_setCell _ _ _ _ (by show w.heap.size+1+1+1≠w.heap.size+1+1;omega),Below.heap_setCell _ _ _ _ (by show w.heap.size+1+1+1≠w.heap.size+1;omega)]
   all_goals (first|(go_simp;done)|(simp[hcs0,hz,hzf,ht,htf];done)|skip)
  | some z=>
   have hlook:=look_yes hownW hMI hs hv;gi_wp2
   refine⟨((((KeepsOthers.setCell _ _ _).trans (KeepsOthers.setCell _ _ _)).trans (KeepsOthers.setCell _ _ _)).trans (KeepsOthers.setCell _ _ _)).from _,⟨rfl,pre,x,z,rfl,hp,hv,?_,?_⟩,(((hB.setCell (p:=⟨w.heap.size+1,0,none⟩) (by simp) _).setCell (p:=⟨w.heap.size+1+1,0,none⟩) (by simp;omega) _).setCell (p:=⟨w.heap.size+1,0,none⟩) (by simp) _).setCell (p:=⟨w.heap.size+1+1,0,none⟩) (by simp;omega) _⟩;all_goals
    have hab:(⟨w.heap.size+1,0,none⟩:Addr)≠⟨w.heap.size+1+1,0,none⟩:=by simp
    obtain⟨p1,p2⟩:=two_cells (u:=.int .i64 z) (v:=.bool true) hz ht hab;obtain⟨q1,q2⟩:=two_cells (u:=.int .i64 z) (v:=.bool true) p1 p2 hab;first|exact q1|exact q2
 case done=>
  rintro D ys W hD rfl ⟨⟨hne,hcs0,⟨hz,hzf⟩,ht,htf⟩,hB⟩ hK;gi_wp2
  have hK':=(KeepsOthers.setCell (W.setCell ⟨w.heap.size+1,0,none⟩ (.int .i64 0)) ⟨w.heap.size+1+1,0,none⟩ (.bool false)).same D _ ((KeepsOthers.setCell W ⟨w.heap.size+1,0,none⟩ (.int .i64 0)).same D _ hK rfl) rfl;refine⟨by simp,.inl ⟨_,_,rfl,run_takeDeferred hK',?_⟩⟩;have c1:((W.setCell ⟨w.heap.size+1,0,none⟩ (.int .i64 0)).setCell ⟨w.heap.size+1+1,0,none⟩ (.bool false)).cell? ⟨w.heap.size+1,0,none⟩=some (.int .i64 0):=by go_simp
  have c2:((W.setCell ⟨w.heap.size+1,0,none⟩ (.int .i64 0)).setCell ⟨w.heap.size+1+1,0,none⟩ (.bool false)).cell? ⟨w.heap.size+1+1,0,none⟩=some (.bool false):=by go_simp
  have hc5:=cell_kept c1 (grownBy_putObj' _ D (.deferred none)) (λr e=>by cases e;exact⟨_,hK',rfl⟩);have hc6:=cell_kept c2 (grownBy_putObj' _ D (.deferred none)) (λr e=>by cases e;exact⟨_,hK',rfl⟩);refine⟨.tuple #[.int .i64 0,.bool false],?_,.inl ⟨rfl,λj hj=>hne ⟨j,hj⟩ (mem_bk bs bs.length j hj o_)⟩,((hB.setCell (p:=⟨w.heap.size+1,0,none⟩) (by simp) _).setCell (p:=⟨w.heap.size+1+1,0,none⟩) (by simp;omega) _).trans (belowK_b (w:=w) n_ _ D _ _ (by simp at hD;omega) hK' rfl rfl)⟩;simp[results,results233,go_sem,hc5,hc6]
 case stop=>
  rintro D c pre W hD ⟨k,hk,rfl⟩ ⟨⟨rfl,ini,last,z,e1,e2,e3,hz,ht⟩,hB⟩ hK;gi_wp2
  refine⟨by simp,.inl ⟨_,_,rfl,run_takeDeferred hK,?_⟩⟩;have hc5:=cell_kept hz (grownBy_putObj' _ D (.deferred none)) (λr e=>by cases e;exact⟨_,hK,rfl⟩);have hc6:=cell_kept ht (grownBy_putObj' _ D (.deferred none)) (λr e=>by cases e;exact⟨_,hK,rfl⟩);refine⟨.tuple #[.int .i64 z,.bool true],?_,.inr ⟨last.1,z,last.2,rfl,e3,λj h1 h2 => ?_⟩,hB.trans (belowK_b (w:=w) n_ W D _ _ (by simp at hD;omega) hK rfl rfl)⟩
  ·simp[results,results233,go_sem,hc5,hc6]
  ·obtain⟨k',rfl⟩ : ∃k',k=k'+1:=by
    cases k with
    | zero=>simp[bk] at e1
    | succ k'=>exact⟨k',rfl⟩
   rw[bk_succ bs k' o_] at e1;obtain⟨rfl,e5⟩:=List.append_inj' e1 rfl;have e6:last.1=bs.length-1-k':=by
    have:=e5
    simp only[List.cons.injEq,and_true] at this;rw[<-this]
   exact e2 ⟨j,h2⟩ (mem_bk bs k' j h2 o_)
def noF:ByteArray->Option Int:=λ_=>none
theorem findS_none {fl:List (ByteArray->Option Int)} (h : ∀j,j<fl.length->(fl.getD j noF) s=none):findS fl s=none:=by
 induction fl with
 | nil=>rfl
 | cons f r ih=>
  have h0:=h 0 (by simp);simp at h0;simp only[findS];rw[ih (λj hj=>by have:=h (j+1) (by simpa using hj);simpa using this),h0];rfl
theorem findS_hit {fl:List (ByteArray->Option Int)} {q:Nat} {z:Int} (hq:q<fl.length) (hz:(fl.getD q noF) s=some z) (h : ∀j,q<j->j<fl.length->(fl.getD j noF) s=none):findS fl s=some z:=by
 induction fl generalizing q with
 | nil=>simp at hq
 | cons f r ih=>
  simp only[findS];cases q with
  | zero=>
   rw[findS_none (λj hj=>by have:=h (j+1) o_ (by simpa using hj);simpa using this)];simpa using hz
  | succ q=>
   rw[ih (q:=q) (by simpa using hq) (by simpa using hz) (λj h1 h2=>by have:=h (j+1) o_ (by simpa using h2);simpa using this)];rfl
theorem findK_any (C B:Nat) (bs:List Nat) (fl:List (ByteArray->Option Int)) (v:Value) (s:ByteArray) (w:World) (hl:fl.length=bs.length) (hlen:bs.length<=1000000) (hp:0<bs.length) (hs:s.size<=maxLen)
  (hc:w.cell? ⟨C,0,none⟩=some v) (hR:BRw B w v bs) (hM : ∀j,j<bs.length->∃nn D,w.ownsMap prog 9 (plainElem (H:=Unit) prog 2) (bs[j]?.getD 0) nn D/\MapIs D (fl.getD j noF)) :
  Calls prog 233 #[.pointer (some ⟨C,0,none⟩),.string s] w λe w'=>e=.returned (match findS fl s with|none=>.tuple #[.int .i64 0,.bool false]|some z=>.tuple #[.int .i64 z,.bool true])/\Below w.heap.size w w':=by
 have hR0:=hR;rcases hR.2 with ⟨_,hz⟩|⟨g,cap,cur,rfl,hbg,hh,hc1,_⟩
 ·omega
 ·refine (callsIn_wide.1 (find_in Fence.wide 3 trivial trivial trivial rfl n_ C g cap bs (λj=>fl.getD j noF) s w hlen hc1 hs hc (Array.getElem?_eq_some_iff.1 hh).1 (λj hj => ?_) hM)).mono ?_
  ·have:=World.ownsRow.cellAt hR0 j (by simpa using hj)
   rw[this];simp[hj]
  ·rintro e w' ⟨⟨rfl,h⟩|⟨q,z,hq,rfl,h1,h2⟩,hB⟩
   ·rw[findS_none (λj hj=>h j o_)];exact⟨rfl,hB⟩
   ·rw[findS_hit (q:=q) o_ h1 (λj h3 h4=>h2 j h3 o_)];exact⟨rfl,hB⟩
end
end Go.Proofs.YtffnkkpmlplfeaaGreatDoor
