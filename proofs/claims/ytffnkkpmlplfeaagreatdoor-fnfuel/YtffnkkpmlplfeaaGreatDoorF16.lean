import Derived.RangeFuncNested
import Derived.RangeFuncBound
import Derived.Shelf.RegionOpen
import Derived.OwnWalkIn
import Derived.LoopNIn
import Derived.LoopIn
import Derived.Test.YtffnkkpmlplfeaaGreatDoorF15
namespace Go.Proofs.YtffnkkpmlplfeaaGreatDoor
open Go.World List
open Go.Proofs.Tryz Go.RowKit Go.Shelf
set_option linter.all false
set_option maxRecDepth 100000
set_option maxHeartbeats 0
variable[Inhabited Pick]
section
attribute [local go_sem] Oper.semAt_some
variable{g Bs:Nat}
abbrev Ix(bs:List Nat):= {q:Nat // q<bs.length}
def bk(bs:List Nat)(k:Nat):List (Ix bs):=(List.range k).filterMap (λj=>if h:bs.length-1-j<bs.length then some ⟨bs.length-1-j,h⟩else none)
def ue(bs:List Nat)(k:Nat)(h:bs.length-1-k<bs.length):bk bs (k+1)=bk bs k++[⟨bs.length-1-k,h⟩]:=by simp[bk,range_succ,filterMap_append,h]
def vq(bs:List Nat)(k:Nat):(bk bs k).length<=k:=by
 have:=length_filterMap_le (λj=>if h:bs.length-1-j<bs.length then some (⟨bs.length-1-j,h⟩:Ix bs)else none) (List.range k)
 simpa[bk]using this
def uf(g Bs:Nat)(W W':AT):Prop:=W'.heap[g]? =W.heap[g]? /\ W'.heap[Bs]? =W.heap[Bs]?
def uf.refl(g Bs:Nat)(W:AT):uf g Bs W W:=⟨rfl,rfl⟩
def uf.trans{A B C:AT}(h:uf g Bs A B)(k:uf g Bs B C):uf g Bs A C:=⟨k.1.trans h.1,k.2.trans h.2⟩
def uf.put{w:AT}(hg:g<w.heap.size)(hB:Bs<w.heap.size)(W:AT)(l:Nat)(o o':Obj)(hl:w.heap.size<=l)(h1:W.heap[l]? =some o)(h2:o.isCells=false)(h3:o.isWalk=false):uf g Bs W (W.putObj l o'):=
 ⟨putObj_heap_other o_,putObj_heap_other o_⟩
def yD(F:Fence)(n:Nat)(Jk:F.fn 242)(Jl:F.round=none)(hn:1<=n)(l h g cap:Nat)(bs:List Nat)(Jn:bs.length<=1000000)(Jm:bs.length<=cap)(J Jx:List (Ix bs)->AT->Prop)
  (hY:∀pre (x:Ix bs) W,J pre W->pre.length<bs.length->YieldAt F (n-1) prog l #[V (x.1:Int),.map (some (bs[x.1]?.getD 0))] W λe W'=>
   (e=rW (.bool true)/\J (pre++[x]) W'/\uf g h W W')∨(e=rW (.bool false)/\Jx (pre++[x]) W'))
  (W:AT) (Jo:DO W h 0 (rV g bs.length cap)) (hc:∀j,j<bs.length->DO W g j (.map (some (bs[j]?.getD 0)))) (h0:J [] W):
  CallsIn F n prog 242 #[.func (.yield l) #[] #[],pV h] W λe W'=>(∃v,e=rW v) /\
   ((∃ys,ys=bk bs bs.length/\J ys W')∨∃pre,(∃k,k<=bs.length/\pre=bk bs k)/\Jx pre W'):=by
 refine callsIn_of_wp func242 rfl Jk ?_ Jl;simp only[ntmps242,size_toArray,l_c,l_n,Nat.reduceAdd,Nat.reduceSub,Array.replicate_succ,Array.replicate_zero,push_toArray,append_toArray,nil_append,cons_append];gi_wp2
 gi_loopw [3] (λi wr=>∃k:Nat,k<=bs.length/\i=V ((bs.length:Int)-1-k)/\J (bk bs k) wr/\uf g h W wr)
  (λi _=>((RowKit.intOf i)+1).toNat)
 case atStart=>exact⟨0,y_,i_,h0,uf.refl _ _ _⟩
 case round=>
  obtain⟨k,hk,rfl,Je,U⟩:=hrel;by_cases hlt:k<bs.length
  ·have Jd:bs.length-1-k<bs.length:=o_
   have Z:=ah (ue bs k Jd);obtain⟨q,hq⟩:∃q:Nat,q=bs.length-1-k:=⟨_,rfl⟩;have Y:(bs.length:Int)-1-k=(q:Int):=o_;have I:q<bs.length:=o_;have HS:Hid (bk bs (k+1)=bk bs k++[⟨q,I⟩]):=by subst hq;exact Z
   rw[Y];have Jh:=(c_ (a:=⟨g,q,none⟩) U.1).trans (hc q I);have Jp:=(c_ (a:=⟨h,0,none⟩) U.2).trans Jo;obtain⟨fn,Jj,Ja,Ji,hy,hR⟩:=hY _ ⟨q,I⟩ wr Je (Ft (vq bs k));have HQ:Hid ((q:Int)-1=(bs.length:Int)-1-((k+1:Nat):Int)):=by show _=_;omega
   dsimp only at hy;clear hq Y Z Jd;generalize bs[q]?.getD 0=bq at Jh hy;gi_wp2;refine hR.mono ?_;rintro e W3 (⟨rfl,hJ3,hk3⟩|⟨rfl,hJx3⟩)
   ·gi_wp2
    go_roundw
    case rel=>exact⟨k+1,o_,by rw[<-HQ.o],by rw[HS.o];exact hJ3,U.trans hk3⟩
    case measure=>simp[RowKit.intOf]
   ·gi_wp2
    refine bodyPost_ret (results_none rfl _ _ _) rfl ?_;exact⟨⟨_,rfl⟩,.inr ⟨_,⟨k+1,o_,rfl⟩,by rw[HS.o];exact hJx3⟩⟩
  ·obtain rfl:k=bs.length:=by omega
   rw[show(bs.length:Int)-1-(bs.length:Nat)= -1 by omega];gi_wp2
   go_end0
   exact⟨⟨_,rfl⟩,.inl ⟨_,rfl,Je⟩⟩
def Bc(F:Fence)(n:Nat)(h:F.fn 240)(I:F.round=none)(a:Option Addr)(len cap:Nat)(w:AT):
  CallsIn F n prog 240 #[.slice a len cap] w λe w'=>e=rW (.func (.func 242) #[] #[pV w.heap.size])/\w'=w.alloc (.cells #[.slice a len cap] 158):=by
 refine callsIn_of_wp func240 rfl h ?_ I;simp only[ntmps240,size_toArray,l_c,l_n,Nat.reduceAdd,Nat.reduceSub,Array.replicate_succ,Array.replicate_zero,push_toArray,append_toArray,nil_append,cons_append];gi_wp2;go_ret;exact⟨rfl,rfl⟩
def so(F:Fence)(n:Nat)(hFn:F.fn 242)(hro:F.round=none)(hn:1<=n)(Bs g cap:Nat)(bs:List Nat)(hlen:bs.length<=1000000)(hcap:bs.length<=cap)(w:AT)(hg:g<w.heap.size)(hB:Bs<w.heap.size)
  (hBs:DO w Bs 0 (rV g bs.length cap)) (hc:∀j,j<bs.length->DO w g j (.map (some (bs[j]?.getD 0)))):
  SeqStopsK F n prog 242 #[pV Bs] (λx:Ix bs=>#[Value.int .i64 (x.1:Int),Value.map (some (bs[x.1]?.getD 0))]) (uf g Bs) (λys=>ys=bk bs bs.length) (λpre=>∃k,k<=bs.length/\pre=bk bs k) bs.length w:=λl J Jx W hW _ _ hY h0=>
 yD F n hFn hro hn l Bs g cap bs hlen hcap J Jx hY W ((hW.cell (p:=⟨Bs,0,none⟩) hB).trans hBs) (λj hj=>(hW.cell (p:=⟨g,j,none⟩) hg).trans (hc j hj)) h0
end
section
attribute [local go_sem] Oper.semAt_some
variable{s:GA}
def nC{W:AT}{a b:Addr}{u v x y:BY}(J:W.cell? a=some x)(U:W.cell? b=some y)(I:a≠b):((W.setCell a u).setCell b v).cell? a=some u/\((W.setCell a u).setCell b v).cell? b=some v:=by
 constructor
 ·rw[s_ _ _ _ _ (by first|exact I|exact λh=>I h.symm)];exact cell?_setCell_same _ _ _ J
 ·have h:(W.setCell a u).cell? b=some y:=by
   rw[s_ _ _ _ _ (by first|exact I|exact λh=>I h.symm)];exact U
  exact cell?_setCell_same _ _ _ h
def yE(bs:List Nat)(k j:Nat)(I:j<bs.length)(h:bs.length-1-j<k):(⟨j,I⟩:Ix bs)∈bk bs k:=by
 unfold bk;rw[mem_filterMap];refine⟨bs.length-1-j,mem_range.2 h,?_⟩;have e:bs.length-1-(bs.length-1-j)=j:=o_;rw[dif_pos o_];simp[e]
theorem Be(F:Fence)(n:Nat)(Jw:F.fn 233)(Jy:F.fn 240)(Jt:F.fn 242)(Jj:F.round=none)(hn:3<=n)
  (C g cap:Nat) (bs:List Nat) (U:Nat->ByteArray->Option Int) (s:ByteArray) (w:World) (Jn:bs.length<=1000000) (Jm:bs.length<=cap) (hs:s.size<=maxLen)
  (hc:w.cell? ⟨C,0,none⟩=some (rV g bs.length cap)) (h:g<w.heap.size) (Jx:∀j,j<bs.length->w.cell? ⟨g,j,none⟩=some (.map (some (bs[j]?.getD 0))))
  (hM:∀j,j<bs.length->∃nn D,w.ownsMap prog 9 (plainElem (H:=Unit) prog 2) (bs[j]?.getD 0) nn D/\dy D (U j)):
  CallsIn F n prog 233 #[pV C,sV s] w λe W'=>
   ((e=rW (.tuple #[V 0,.bool false])/\∀j,j<bs.length->U j s=none)∨(∃(q:Nat) (z:Int),q<bs.length/\e=rW (.tuple #[V z,.bool true])/\U q s=some z/\∀j,q<j->j<bs.length->U j s=none))/\Below w.heap.size w W':=by
 have h1:1<=n:=o_;have Jv:C<w.heap.size:=b_ hc;have hA:Bl w (((w.alloc (.cells #[sV s] 9)).alloc (.cells #[V 0] 2)).alloc (.cells #[.bool false] 4)):=((au _ _).alloc i_ _).alloc (by simp;omega) _;have Jz:=(hA.cell (p:=⟨C,0,none⟩) Jv).trans hc;refine callsIn_of_wp_marks func233 rfl Jw ?_ Jj;simp only[ntmps233,List.size_toArray,l_c,l_n,Nat.reduceAdd,Nat.reduceSub,Array.replicate_succ,Array.replicate_zero,List.push_toArray,List.append_toArray,List.nil_append,List.cons_append];gi_wp2_with (gi_at_call 240;refine(Bc F (n-1) Jy Jj _ _ _ _).mono ?_;rintro e w' ⟨rfl,rfl⟩);obtain⟨S,hS⟩:=q_ w.heap.size;have bS:=((Boxed.new w 9 (sV s)).alloc (.cells #[V 0] 2)).alloc (.cells #[.bool false] 4) |>.alloc (.cells #[rV g bs.length cap] 158);have bZ:=((Boxed.new (w.alloc (.cells #[sV s] 9)) 2 (V 0)).alloc (.cells #[.bool false] 4)).alloc (.cells #[rV g bs.length cap] 158);have bT:=(Boxed.new ((w.alloc (.cells #[sV s] 9)).alloc (.cells #[V 0] 2)) 4 (.bool false)).alloc (.cells #[rV g bs.length cap] 158);have bN:=Boxed.new (((w.alloc (.cells #[sV s] 9)).alloc (.cells #[V 0] 2)).alloc (.cells #[.bool false] 4)) 158 (rV g bs.length cap);simp only[World.size_alloc]at bZ bT bN;have Jr:Bl w ((((w.alloc (.cells #[sV s] 9)).alloc (.cells #[V 0] 2)).alloc (.cells #[.bool false] 4)).alloc (.cells #[rV g bs.length cap] 158)):=hA.alloc (by simp;omega) _;have Jd:((((w.alloc (.cells #[sV s] 9)).alloc (.cells #[V 0] 2)).alloc (.cells #[.bool false] 4)).alloc (.cells #[rV g bs.length cap] 158)).heap.size=w.heap.size+1+1+1+1:=i_;refine wpIn_rangeFunc_ownG Jj h1 (gf:=242) (lb:=#[.pointer (some ⟨w.heap.size+1+1+1,0,none⟩)]) rfl Jt (enters_of func242 k_ rfl)
  (so F (n-1) Jt Jj o_ (w.heap.size+1+1+1) g cap bs Jn Jm _ (by rw[Jd];omega) (by rw[Jd];omega) bN.cell (λj hj=>(Jr.cell (p:=⟨g,j,none⟩) h).trans (Jx j hj))) uf.trans (uf.put (by rw[Jd];omega) (by rw[Jd];omega)) r_ (λ_=>rfl)
  (λJc W=>((∀p∈Jc,U p.1 s=none)/\W.cell? ⟨w.heap.size,0,none⟩=some (sV s)/\(W.cell? ⟨w.heap.size+1,0,none⟩=some (V 0)/\W.frozen? ⟨w.heap.size+1,0,none⟩=false)/\W.cell? ⟨w.heap.size+1+1,0,none⟩=some (.bool false)/\W.frozen? ⟨w.heap.size+1+1,0,none⟩=false)/\Bl w W)
  (λc Jc W=>(c=.ret/\∃Jf J z,Jc=Jf++[J]/\(∀p∈Jf,U p.1 s=none)/\U J.1 s=some z/\W.cell? ⟨w.heap.size+1,0,none⟩=some (V z)/\W.cell? ⟨w.heap.size+1+1,0,none⟩=some (.bool true))/\Bl w W)
  (OwnFrom.and (Own.from (λq A B row hq h hr=>⟨hq.1,cell_kept hq.2.1 h hr,⟨cell_kept hq.2.2.1.1 h hr,(frozen_kept hq.2.2.1.1 h hr).trans hq.2.2.1.2⟩,cell_kept hq.2.2.2.1 h hr,(frozen_kept hq.2.2.2.1 h hr).trans hq.2.2.2.2⟩) _) (ownFrom_below n_ (by rw[Jd];omega)))
  (λc=>OwnFrom.and (Own.from (λq A B row hq h hr=>by obtain⟨hc,Jf,J,z,e1,e2,e3,e4,e5⟩:=hq;exact⟨hc,Jf,J,z,e1,e2,e3,cell_kept e4 h hr,cell_kept e5 h hr⟩) _) (ownFrom_below n_ (by rw[Jd];omega)))
  ⟨⟨i_,bS.cell,⟨bZ.cell,bZ.frozen⟩,bT.cell,bT.frozen⟩,Jr⟩
  (λx=> {tmps:=#[pV C,sV s,undef,pV w.heap.size,.pointer (some ⟨w.heap.size+1,0,none⟩),.pointer (some ⟨w.heap.size+1+1,0,none⟩),undef,.map (some (bs[x.1]?.getD 0)),pV C,pV C,pV C,rV g bs.length cap,.func (.func 242) #[] #[.pointer (some ⟨w.heap.size+1+1+1,0,none⟩)],V (x.1:Int),.map (some (bs[x.1]?.getD 0)),undef,undef,undef,undef,undef,undef,undef,undef],defers:=[]}) ?assign ?body ?done ?stop
 case assign=>
  intro l x W K I;gi_wp2;exact I
 case body=>
  rintro l Jc x W ⟨⟨hp,Jh,⟨hz,Js⟩,ht,Jq⟩,Z⟩ _;obtain⟨nn,D,Je,Jp⟩:=hM x.1 x.2;have Jb:=aL (w':=W) Je (Z.block _ Je.lt);cases hv:U x.1 s with
  | none=>
   have Jg:=qi Jb Jp hs hv;gi_wp2;refine⟨((KeepsOthers.setCell _ _ _).trans (KeepsOthers.setCell _ _ _)).from _,⟨?_,?_⟩,⟨λp hp'=>(List.mem_append.1 hp').elim (hp p) (λe=>by simp at e;subst e;exact hv),?_,⟨?_,?_⟩,?_,?_⟩,(Z.setCell (p:=⟨w.heap.size+1,0,none⟩) i_ _).setCell (p:=⟨w.heap.size+1+1,0,none⟩) (by simp;omega) _⟩
   ·rw[Below.heap_setCell _ _ _ _ (by simp;omega),Below.heap_setCell _ _ _ _ (by simp;omega)]
   ·rw[Below.heap_setCell _ _ _ _ (by show w.heap.size+1+1+1≠w.heap.size+1+1;omega),Below.heap_setCell _ _ _ _ (by show w.heap.size+1+1+1≠w.heap.size+1;omega)]
   all_goals (first|(go_simp;done)|(simp[Jh,hz,Js,ht,Jq];done)|skip)
  | some z=>
   have Jg:=qh Jb Jp hs hv;gi_wp2;refine⟨((((KeepsOthers.setCell _ _ _).trans (KeepsOthers.setCell _ _ _)).trans (KeepsOthers.setCell _ _ _)).trans (KeepsOthers.setCell _ _ _)).from _,⟨rfl,Jc,x,z,rfl,hp,hv,?_,?_⟩,(((Z.setCell (p:=⟨w.heap.size+1,0,none⟩) i_ _).setCell (p:=⟨w.heap.size+1+1,0,none⟩) (by simp;omega) _).setCell (p:=⟨w.heap.size+1,0,none⟩) i_ _).setCell (p:=⟨w.heap.size+1+1,0,none⟩) (by simp;omega) _⟩;all_goals
    have Jo:(⟨w.heap.size+1,0,none⟩:Addr)≠⟨w.heap.size+1+1,0,none⟩:=i_;obtain⟨p1,p2⟩:=nC (u:=V z) (v:=.bool true) hz ht Jo;obtain⟨q1,q2⟩:=nC (u:=V z) (v:=.bool true) p1 p2 Jo;first|exact q1|exact q2
 case done=>
  rintro D ys W hD rfl ⟨⟨Ju,Jh,⟨hz,Js⟩,ht,Jq⟩,Z⟩ I;gi_wp2;have Ji:=(KeepsOthers.setCell (W.setCell ⟨w.heap.size+1,0,none⟩ (V 0)) ⟨w.heap.size+1+1,0,none⟩ (.bool false)).same D _ ((KeepsOthers.setCell W ⟨w.heap.size+1,0,none⟩ (V 0)).same D _ I rfl) rfl;refine⟨i_,.inl ⟨_,_,rfl,run_takeDeferred Ji,?_⟩⟩;have c1:((W.setCell ⟨w.heap.size+1,0,none⟩ (V 0)).setCell ⟨w.heap.size+1+1,0,none⟩ (.bool false)).cell? ⟨w.heap.size+1,0,none⟩=some (V 0):=by go_simp
  have c2:((W.setCell ⟨w.heap.size+1,0,none⟩ (V 0)).setCell ⟨w.heap.size+1+1,0,none⟩ (.bool false)).cell? ⟨w.heap.size+1+1,0,none⟩=some (.bool false):=by go_simp
  have Jk:=cell_kept c1 (grownBy_putObj' _ D (.deferred none)) (λr e=>by cases e;exact⟨_,Ji,rfl⟩);have Jl:=cell_kept c2 (grownBy_putObj' _ D (.deferred none)) (λr e=>by cases e;exact⟨_,Ji,rfl⟩);refine⟨.tuple #[V 0,.bool false],?_,.inl ⟨rfl,λj hj=>Ju ⟨j,hj⟩ (yE bs bs.length j hj o_)⟩,((Z.setCell (p:=⟨w.heap.size+1,0,none⟩) i_ _).setCell (p:=⟨w.heap.size+1+1,0,none⟩) (by simp;omega) _).trans (belowK_b (w:=w) n_ _ D _ _ (by simp at hD;omega) Ji rfl rfl)⟩;simp[results,results233,go_sem,Jk,Jl]
 case stop=>
  rintro D c Jc W hD ⟨k,hk,rfl⟩ ⟨⟨rfl,Jf,J,z,e1,e2,e3,hz,ht⟩,Z⟩ I;gi_wp2;refine⟨i_,.inl ⟨_,_,rfl,run_takeDeferred I,?_⟩⟩;have Jk:=cell_kept hz (grownBy_putObj' _ D (.deferred none)) (λr e=>by cases e;exact⟨_,I,rfl⟩);have Jl:=cell_kept ht (grownBy_putObj' _ D (.deferred none)) (λr e=>by cases e;exact⟨_,I,rfl⟩);refine⟨.tuple #[V z,.bool true],?_,.inr ⟨J.1,z,J.2,rfl,e3,λj h1 h2=>?_⟩,Z.trans (belowK_b (w:=w) n_ W D _ _ (by simp at hD;omega) I rfl rfl)⟩
  ·simp[results,results233,go_sem,Jk,Jl]
  ·obtain⟨Y,rfl⟩:∃Y,k=Y+1:=by
    cases k with
    | zero=>simp[bk]at e1
    | succ Y=>exact⟨Y,rfl⟩
   rw[ue bs Y o_]at e1;obtain⟨rfl,e5⟩:=List.append_inj' e1 rfl;have e6:J.1=bs.length-1-Y:=by
    have:=e5
    simp only[List.cons.injEq,and_true]at this;rw[<-this]
   exact e2 ⟨j,h2⟩ (yE bs Y j h2 o_)
def Co:GA->Option Int:=λ_=>none
theorem lQ{fl:List (GA->Option Int)}(h:∀j,j<fl.length->(fl.getD j Co) s=none):findS fl s=none:=by
 induction fl with
 | nil=>rfl
 | cons f r ih=>
  have I:=h 0 i_;simp at I;simp only[findS];rw[ih (λj hj=>by have:=h (j+1) (Fc hj);simpa using this),I];rfl
theorem vw{fl:List (GA->Option Int)}{q:Nat}{z:Int}(I:q<fl.length)(J:(fl.getD q Co) s=some z)(h:∀j,q<j->j<fl.length->(fl.getD j Co) s=none):findS fl s=some z:=by
 induction fl generalizing q with
 | nil=>simp at I
 | cons f r ih=>
  simp only[findS];cases q with
  | zero=>
   rw[lQ (λj hj=>by have:=h (j+1) o_ (Fc hj);simpa using this)];simpa using J
  | succ q=>
   rw[ih (q:=q) (Fc I) (Fc J) (λj h1 h2=>by have:=h (j+1) o_ (Fc h2);simpa using this)];rfl
theorem vA(C B:Nat)(bs:List Nat)(fl:List (ByteArray->Option Int))(v:Value)(s:ByteArray)(w:World)(hl:fl.length=bs.length)(Ja:bs.length<=1000000)(hp:0<bs.length)(hs:s.size<=maxLen)
  (hc:w.cell? ⟨C,0,none⟩=some v) (J:ja B w v bs) (hM:∀j,j<bs.length->∃nn D,w.ownsMap prog 9 (plainElem (H:=Unit) prog 2) (bs[j]?.getD 0) nn D/\dy D (fl.getD j Co)):
  Calls prog 233 #[pV C,sV s] w λe w'=>e=rW (match findS fl s with|none=>.tuple #[V 0,.bool false]|some z=>.tuple #[V z,.bool true])/\Below w.heap.size w w':=by
 have U:=J;rcases J.2 with⟨_,hz⟩|⟨g,Jb,Je,rfl,Jf,hh,Z,_⟩
 ·omega
 ·refine(callsIn_wide.1 (Be Fence.wide 3 trivial trivial trivial rfl n_ C g Jb bs (λj=>fl.getD j Co) s w Ja Z hs hc (Array.getElem?_eq_some_iff.1 hh).1 (λj hj=>?_) hM)).mono ?_
  ·have:=World.ownsRow.cellAt U j (by simpa using hj)
   rw[this];simp[hj]
  ·rintro e w' ⟨⟨rfl,h⟩|⟨q,z,hq,rfl,Y,h2⟩,I⟩
   ·rw[lQ (λj hj=>h j o_)];exact⟨rfl,I⟩
   ·rw[vw (q:=q) o_ Y (λj h3 h4=>h2 j h3 o_)];exact⟨rfl,I⟩
end
end Go.Proofs.YtffnkkpmlplfeaaGreatDoor
