import Derived.Test.YtngnoopnloojjaaGreatDoorQ09
import Derived.Deep.RegionHeldLaw
import Derived.RangeFuncNested
import Derived.RangeFuncBound
import Derived.Shelf.RegionOpen
import Derived.OwnWalkIn
import Derived.LoopNIn
import Derived.LoopIn
import Derived.Test.YtngnoopnloojjaaGreatDoorQ43
variable [Inhabited Go.Proofs.YtngnoopnloojjaaGreatDoor.Pick]
namespace Go.Proofs.YtngnoopnloojjaaGreatDoor
open Go.Value Go.World List
open Go.Proofs.Tryz Go.RowKit
set_option linter.all false
set_option maxRecDepth 100000
set_option maxHeartbeats 0
variable{B b:Nat}{w w':AT}{v:BY}{bs:List Nat}
def kU(B:Nat)(w:AT)(v:BY)(bs:List Nat):Prop:=w.ownsRow B 131 1 v bs.length (bs.map (λb=>Value.map (some b)))
def kU.below(h:kU B w v bs)(X:Bl w w'):kU B w' v bs:=by obtain⟨O,H⟩:=h;refine⟨O,?_⟩;rcases H with H|⟨g,Jb,Ja,rfl,U,I,J⟩;exact .inl H;refine .inr ⟨g,Jb,Ja,rfl,U,?_,J⟩;rw[X.block g (Array.getElem?_eq_some_iff.1 I).1];exact I
def kU.other{c o:Nat}{u:BY}(h:kU B w v bs)(X:c<B):kU B (w.setCell ⟨c,o,none⟩ u) v bs:=by obtain⟨O,H⟩:=h;refine⟨O,?_⟩;rcases H with H|⟨g,Jb,Ja,rfl,U,I,J⟩;exact .inl H;refine .inr ⟨g,Jb,Ja,rfl,U,?_,J⟩;rw[Below.heap_setCell _ _ _ g (λh=>by simp at h;omega)];exact I
theorem kU.cut(h:kU B w v (bs++[b])):∃g cap,v=rV g (bs.length+1) cap/\B<=g/\bs.length+1<=cap/\cap<=maxLen/\w.cell? ⟨g,bs.length,none⟩=some (.map (some b))/\kU B w (rV g bs.length cap) bs:=by
 have Z:=h;obtain⟨Y,X⟩:=h;rcases X with⟨_,hz⟩|⟨g,cap,Ja,rfl,O,U,I,H,g7,J⟩;simp at hz;simp only[l_a,l_c,l_n,Nat.zero_add,Nat.mul_one,List.map_append,List.map_cons,List.map_nil]at Y I g7 J;refine⟨g,cap,i_,O,I,H,?_,i_,.inr ⟨g,cap,Ja,rfl,O,U,o_,H,o_,?_⟩⟩
 have:=World.ownsRow.cellAt Z bs.length i_
 rw[this];simp;rw[Nat.mul_one];have e:Ja.toList.take bs.length=(Ja.toList.take (bs.length+1)).take bs.length:=(by rw[List.take_take];congr 1;omega);rw[e,J];simp
def yJ(u:FrameMode)(C B b:Nat)(bs:List Nat)(v:BY)(w:AT)(O:C<B)(hc:Bo w C 0 v)(Z:By w C 0)(U:kU B w v (bs++[b]))(hl:bs.length<=1000000):
  CallsD prog 166 #[pV C] u w λe u' w'=>u'=u/\(∃u,e=rW u)/\∃v',w'=(w.setCell ⟨C,0,none⟩ v').drew/\kU B w' v' bs/\v'.ownBlock=v.ownBlock:=by
 obtain⟨g,Ja,rfl,Y,X,h2,h3,h4⟩:=U.cut;have I:=ah h4;have Jb:∀W:AT,(Instr.slice 194 (rV g (bs.length+1) Ja) none (some (V (bs.length:Int))) none).run prog W=.ok (rV g bs.length Ja) W:=by intro W;have H:prog.elem 194=131:=k_;have J:(sizeOf 131).run prog W=.ok 1 W:=k_;rw[run_slice_h W 194 (some ⟨g,0,none⟩) (bs.length+1) Ja (by rw[H];exact underlying194) .i64 _ o_ o_,H,J];simp[Result.andThen,sliced,Addr.add]
 go_enter_d func166,ntmps166;go_wp2_with fail;go_region;go_wp2_with fail;go_end0;exact⟨⟨_,rfl⟩,_,rfl,I.o.other O |>.below (r_.drew),rfl⟩
def AC(C B b nn:Nat)(bs:List Nat)(v:BY)(D:DataW Unit)(f:IF->Option Int)(s:IF)(z:Int)(w:AT)(hc:Bo w C 0 v)(hR:kU B w v (bs++[b]))(hl:bs.length<=1000000)(Jh:C≠b)(Je:∀x,v.ownBlock=some x->x≠b)
    (Ja:w.ownsMap prog 9 (plainElem (H:=Unit) prog 2) b nn D) (hM:dT D f) (hn:nn<1000000000) (hs:s.size<=maxLen) (hz:(Lit.int .i64 z).wf=true):
    Calls prog 124 #[pV C,sV s,V z] w λe w'=>(∃u,e=rW u)/\∃D',w'.ownsMap prog 9 (plainElem (H:=Unit) prog 2) b (nn+1) D'/\dT D' (oz f s z)/\w.drew.grownBy w' (some b):=by
  obtain⟨g,Jg,rfl,hg,U,h2,h3,-⟩:=hR.cut;have Jf:g≠b:=Je g rfl;have J:Hid (w.drew.ownsMap prog 9 (plainElem (H:=Unit) prog 2) b nn D):=Ja;have X:Hid (dT D f):=hM;have Y:Hid (s.size<=maxLen):=hs;have Z:Hid ((Lit.int .i64 z).wf=true):=hz;generalize bs.length=m at hc U h3 hl⊢;have⟨w',Jc,O,I⟩:=J.o.update (Maps.string_keyed underlying9) underlying131 (by unfold maxLen;omega) (WideMaps.keyOf_string_mk underlying9 Y) (plainElem_int underlying2 Z);have Jb:Hid (w'.ownsMap prog 9 (plainElem (H:=Unit) prog 2) b (nn+1) (D.put (kS s) (.lit (.int .i64 z)))):=O;have Jd:Hid (w.drew.grownBy w' (some b)):=I;go_in;go_wp2_with fail;go_region;go_wp2_with fail;go_end0;exact⟨⟨_,rfl⟩,_,Jb,X.o.put s z,Jd⟩
def aI{k:IN}{R:BY->Option (DataW Unit×List MemPlace)}{n:Nat}{D:DataW Unit}(h:w.ownsMap prog k R b n D)(U:w'.heap[b]? =w.heap[b]?):w'.ownsMap prog k R b n D:=by obtain⟨H,Ja,I,F,J,O⟩:=h;exact⟨H,Ja,U.trans I,F,J,O⟩
def EF:(prog.info? 131).map (λi=>(i.zero,i.size,i.bytes))=some (some (.map none),1,8):=by kernel_rfl
def kU.shape(h:kU B w v bs):∃a c,v=.slice a bs.length c:=by rcases h.2 with⟨rfl,H⟩|⟨g,Ja,Jb,rfl,_⟩;exact⟨none,0,by rw[H]⟩;exact⟨_,Ja,rfl⟩
def vR(C B:Nat)(bs:List Nat)(v:BY)(w:AT)(hC:C<B)(Jo:B<=w.heap.size)(hc:Bo w C 0 v)(hf:By w C 0)(X:kU B w v bs)(hl:bs.length<=1000000):
  Calls prog 122 #[pV C] w λe w'=>(∃u,e=rW u)/\∃(v':BY) (w1:AT),w'=w1.setCell ⟨C,0,none⟩ v'/\kU B w' v' (bs++[w.heap.size])/\w'.ownsMap prog 9 (plainElem (H:=Unit) prog 2) w.heap.size 0 (.map [])/\w.grownBy w1 v.ownBlock/\(∀k,v'.ownBlock=some k->v.ownBlock=some k\/w.heap.size<k):=by
 have U:Hid (kU B w v bs):=X;obtain⟨a,c,rfl⟩:=X.shape;have Jn:= @run_makeMap prog;have⟨i0,hi,Jh,Ji,Jj⟩:=info_parts EF;have Jl:Hid (kU B ((w.alloc (.map #[] 0)).alloc (.cells #[.map (some w.heap.size)] 131)) (.slice a bs.length c) bs):=U.o.below ((aq _ _).alloc i_ _);go_in;go_wp2_with(at_builtin;refine dY rfl _ _ _ rfl B 131 i0 _ 1 8 underlying194 hi Jh Ji Jj rfl d_ _ bs.length (bs.map (λb=>Value.map (some b))) rfl Jl ⟨w.heap.size+1,0,none⟩ 1 1 [.map (some w.heap.size)] rfl rfl (by simpa using cell_one_new (w.alloc (.map #[] 0)) (.map (some w.heap.size)) 131) (by simp[oneCell']) o_ d_ Do ?_);intro I w1 Jk Jf Jm;have Jg:C<w.heap.size:=o_;have J:Bl w ((w.alloc (.map #[] 0)).alloc (.cells #[.map (some w.heap.size)] 131)):=(aq _ _).alloc i_ _;have Jc:∀k,(Value.slice a bs.length c).ownBlock=some k->B<=k/\k<w.heap.size:=λk hk=>ownsRow.lt U k hk;have Je:some C≠(Value.slice a bs.length c).ownBlock:=λh=>by have:=(Jc C h.symm).1;omega
 have Jd:Hid (kU B w1 I (bs++[w.heap.size])):=by show kU B w1 I _;unfold kU;rw[l_a,map_append];exact Jk
 have Ja:=Jf.block;have y0:Bo w1 C 0 (.slice a bs.length c):=(c_ (a:=⟨C,0,none⟩) ((Ja C Do Je).trans (J.block C Jg))).trans hc;have y1:By w1 C 0:=(frozen?_of_block (a:=⟨C,0,none⟩) ((Ja C Do Je).trans (J.block C Jg))).trans hf;have Y:Hid (∀u,(w1.setCell ⟨C,0,none⟩ u).ownsMap prog 9 (plainElem (H:=Unit) prog 2) w.heap.size 0 (.map [])):=λu=>by refine aI (ownsMap_made w prog 9 _) ?_;rw[Below.heap_setCell _ _ _ w.heap.size (λh=>by simp at h;omega),Ja w.heap.size Do (λh=>by have:=(Jc _ h.symm).2;omega)];exact(((Below.refl (w.heap.size+1) (w.alloc (.map #[] 0))).alloc i_ _).block w.heap.size o_)
 have Z:Hid (w.grownBy w1 (Value.slice a bs.length c).ownBlock):=by obtain⟨q1,q2,q3,q4,q5⟩:=Jf;exact⟨q1,q2,q3,by simp at q4;omega,λk hk hne=>(q5 k Do hne).trans (J.block k hk)⟩
 have O:Hid (∀k,I.ownBlock=some k->(Value.slice a bs.length c).ownBlock=some k\/w.heap.size<k):=λk hk=>by rcases Jm k hk with h|h;exact .inl h;exact .inr (by(try simp at h);omega)
 obtain⟨a1,c1,rfl⟩:=Jd.o.shape;have Jb:(bs++[w.heap.size]).length=bs.length+1:=i_;rw[Jb]at Jd O;rw[Jb];go_wp2_with fail;go_end0;exact⟨⟨_,rfl⟩,_,w1,rfl,Jd.o.other hC,Y _,Z,O⟩
end Go.Proofs.YtngnoopnloojjaaGreatDoor
namespace Go.Proofs.YtngnoopnloojjaaGreatDoor
open Go.Value Go.World List
open Go.Proofs.Tryz Go.RowKit Go.Shelf
set_option linter.all false
set_option maxRecDepth 100000
set_option maxHeartbeats 0
section
attribute [local go_sem] Oper.semAt_some
variable{g Bs:Nat}
abbrev Ix(bs:List Nat):= {q:Nat // q<bs.length}
def bk(bs:List Nat)(k:Nat):List (Ix bs):=(List.range k).filterMap (λj=>if h:bs.length-1-j<bs.length then some ⟨bs.length-1-j,h⟩else none)
def AD(bs:List Nat)(k:Nat)(h:bs.length-1-k<bs.length):bk bs (k+1)=bk bs k++[⟨bs.length-1-k,h⟩]:=by simp[bk,range_succ,filterMap_append,h]
def BQ(bs:List Nat)(k:Nat):(bk bs k).length<=k:=by
 have:=length_filterMap_le (λj=>if h:bs.length-1-j<bs.length then some (⟨bs.length-1-j,h⟩:Ix bs)else none) (List.range k)
 simpa[bk]using this
def AE(g Bs:Nat)(W W':AT):Prop:=W'.heap[g]? =W.heap[g]? /\ W'.heap[Bs]? =W.heap[Bs]?
def AE.refl(g Bs:Nat)(W:AT):AE g Bs W W:=⟨rfl,rfl⟩
def AE.trans{A B C:AT}(h:AE g Bs A B)(k:AE g Bs B C):AE g Bs A C:=⟨k.1.trans h.1,k.2.trans h.2⟩
def AE.put{w:AT}(hg:g<w.heap.size)(hB:Bs<w.heap.size)(W:AT)(l:Nat)(o o':Obj)(hl:w.heap.size<=l)(h1:W.heap[l]? =some o)(h2:o.isCells=false)(h3:o.isWalk=false):AE g Bs W (W.putObj l o'):=
 ⟨putObj_heap_other o_,putObj_heap_other o_⟩
def EG(F:Fence)(n:Nat)(Jk:F.fn 260)(Jl:F.round=none)(hn:1<=n)(l H g cap:Nat)(bs:List Nat)(Jn:bs.length<=1000000)(Jm:bs.length<=cap)(J X:List (Ix bs)->AT->Prop)
  (hY:∀pre (x:Ix bs) W,J pre W->pre.length<bs.length->YieldAt F (n-1) prog l #[V (x.1:Int),.map (some (bs[x.1]?.getD 0))] W λe W'=>(e=rW (.bool true)/\J (pre++[x]) W'/\AE g H W W')\/(e=rW (.bool false)/\X (pre++[x]) W'))
  (W:AT) (Jo:Bo W H 0 (rV g bs.length cap)) (hc:∀j,j<bs.length->Bo W g j (.map (some (bs[j]?.getD 0)))) (h0:J [] W):
  CallsIn F n prog 260 #[.func (.yield l) #[] #[],pV H] W λe W'=>(∃v,e=rW v) /\
   ((∃ys,ys=bk bs bs.length/\J ys W')\/∃pre,(∃k,k<=bs.length/\pre=bk bs k)/\X pre W'):=by
 refine callsIn_of_wp func260 rfl Jk ?_ Jl;simp only[ntmps260,size_toArray,l_c,l_n,Nat.reduceAdd,Nat.reduceSub,Array.replicate_succ,Array.replicate_zero,push_toArray,append_toArray,nil_append,cons_append];gi_wp2
 gi_loopw [3] (λi wr=>∃k:Nat,k<=bs.length/\i=V ((bs.length:Int)-1-k)/\J (bk bs k) wr/\AE g H W wr)
  (λi _=>((RowKit.intOf i)+1).toNat)
 case atStart=>exact⟨0,y_,i_,h0,AE.refl _ _ _⟩
 case round=>
  obtain⟨k,hk,rfl,Je,Jb⟩:=hrel;by_cases hlt:k<bs.length
  ·have Jd:bs.length-1-k<bs.length:=o_
   have Jf:=ah (AD bs k Jd);obtain⟨q,I⟩:∃q:Nat,q=bs.length-1-k:=⟨_,rfl⟩;have Jg:(bs.length:Int)-1-k=(q:Int):=o_;have Jc:q<bs.length:=o_;have U:Hid (bk bs (k+1)=bk bs k++[⟨q,Jc⟩]):=(by subst I;exact Jf);rw[Jg];have Jh:=(c_ (a:=⟨g,q,none⟩) Jb.1).trans (hc q Jc);have Jp:=(c_ (a:=⟨H,0,none⟩) Jb.2).trans Jo;have⟨fn,Jj,Ja,Ji,O,Z⟩:=hY _ ⟨q,Jc⟩ wr Je (Ft (BQ bs k));have Y:Hid ((q:Int)-1=(bs.length:Int)-1-((k+1:Nat):Int)):=(by show _=_;omega);dsimp only at O;clear I Jg Jf Jd;generalize bs[q]?.getD 0=bq at Jh O;gi_wp2;refine Z.mono ?_;rintro e W3 (⟨rfl,hJ3,hk3⟩|⟨rfl,hJx3⟩)
   ·gi_wp2
    go_roundw
    case rel=>exact⟨k+1,o_,by rw[<-Y.o],by rw[U.o];exact hJ3,Jb.trans hk3⟩
    case measure=>simp[RowKit.intOf]
   gi_wp2
   refine bodyPost_ret (results_none rfl _ _ _) rfl ?_;exact⟨⟨_,rfl⟩,.inr ⟨_,⟨k+1,o_,rfl⟩,by rw[U.o];exact hJx3⟩⟩
  obtain rfl:k=bs.length:=(by omega);rw[show(bs.length:Int)-1-(bs.length:Nat)= -1 by omega];gi_wp2
  go_end0
  exact⟨⟨_,rfl⟩,.inl ⟨_,rfl,Je⟩⟩
def H6(F:Fence)(n:Nat)(Jb:F.fn 242)(Jc:F.round=none)(a:Option Addr)(Ja cap:Nat)(w:AT):
  CallsIn F n prog 242 #[.slice a Ja cap] w λe w'=>e=rW (.func (.func 260) #[] #[pV w.heap.size])/\w'=w.alloc (.cells #[.slice a Ja cap] 194):=by
 refine callsIn_of_wp func242 rfl Jb ?_ Jc;simp only[ntmps242,size_toArray,l_c,l_n,Nat.reduceAdd,Nat.reduceSub,Array.replicate_succ,Array.replicate_zero,push_toArray,append_toArray,nil_append,cons_append];gi_wp2;go_ret;exact⟨rfl,rfl⟩
def yK(F:Fence)(n:Nat)(hFn:F.fn 260)(hro:F.round=none)(hn:1<=n)(Bs g cap:Nat)(bs:List Nat)(hlen:bs.length<=1000000)(hcap:bs.length<=cap)(w:AT)(hg:g<w.heap.size)(hB:Bs<w.heap.size)
  (hBs:Bo w Bs 0 (rV g bs.length cap)) (hc:∀j,j<bs.length->Bo w g j (.map (some (bs[j]?.getD 0)))):
  SeqStopsK F n prog 260 #[pV Bs] (λx:Ix bs=>#[Value.int .i64 (x.1:Int),Value.map (some (bs[x.1]?.getD 0))]) (AE g Bs) (λys=>ys=bk bs bs.length) (λpre=>∃k,k<=bs.length/\pre=bk bs k) bs.length w:=λl J Jx W hW _ _ hY h0=>
 EG F n hFn hro hn l Bs g cap bs hlen hcap J Jx hY W ((hW.cell (p:=⟨Bs,0,none⟩) hB).trans hBs) (λj hj=>(hW.cell (p:=⟨g,j,none⟩) hg).trans (hc j hj)) h0
end
section
attribute [local go_sem] Oper.semAt_some
variable{s:IF}
def sA{W:AT}{a b:Addr}{u v x y:BY}(H:W.cell? a=some x)(I:W.cell? b=some y)(Ja:a≠b):((W.setCell a u).setCell b v).cell? a=some u/\((W.setCell a u).setCell b v).cell? b=some v:=by
 constructor;rw[s_ _ _ _ _ (by first|exact Ja|exact λh=>Ja h.symm)];exact cell?_setCell_same _ _ _ H;have h:(W.setCell a u).cell? b=some y:=by rw[s_ _ _ _ _ (by first|exact Ja|exact λh=>Ja h.symm)];exact I
 exact cell?_setCell_same _ _ _ h
def EH(bs:List Nat)(k j:Nat)(H:j<bs.length)(h:bs.length-1-j<k):(⟨j,H⟩:Ix bs)∈bk bs k:=by unfold bk;rw[mem_filterMap];refine⟨bs.length-1-j,mem_range.2 h,?_⟩;have e:bs.length-1-(bs.length-1-j)=j:=o_;rw[dif_pos o_];simp[e]
theorem H7(F:Fence)(n:Nat)(Jw:F.fn 220)(Jy:F.fn 242)(Jt:F.fn 260)(Jj:F.round=none)(hn:3<=n)
  (C g cap:Nat) (bs:List Nat) (O:Nat->ByteArray->Option Int) (s:ByteArray) (w:World) (Jn:bs.length<=1000000) (Jm:bs.length<=cap) (hs:s.size<=maxLen)
  (hc:w.cell? ⟨C,0,none⟩=some (rV g bs.length cap)) (I:g<w.heap.size) (Jx:∀j,j<bs.length->w.cell? ⟨g,j,none⟩=some (.map (some (bs[j]?.getD 0))))
  (hM:∀j,j<bs.length->∃nn D,w.ownsMap prog 9 (plainElem (H:=Unit) prog 2) (bs[j]?.getD 0) nn D/\dT D (O j)):
  CallsIn F n prog 220 #[pV C,sV s] w λe W'=>((e=rW (.tuple #[V 0,.bool false])/\∀j,j<bs.length->O j s=none)\/(∃(q:Nat) (z:Int),q<bs.length/\e=rW (.tuple #[V z,.bool true])/\O q s=some z/\∀j,q<j->j<bs.length->O j s=none))/\Below w.heap.size w W':=by
 have h1:1<=n:=o_;have Jv:C<w.heap.size:=b_ hc;have hA:Bl w (((w.alloc (.cells #[sV s] 9)).alloc (.cells #[V 0] 2)).alloc (.cells #[.bool false] 4)):=((aq _ _).alloc i_ _).alloc (by simp;omega) _;have Jz:=(hA.cell (p:=⟨C,0,none⟩) Jv).trans hc;refine callsIn_of_wp_marks func220 rfl Jw ?_ Jj;simp only[ntmps220,List.size_toArray,l_c,l_n,Nat.reduceAdd,Nat.reduceSub,Array.replicate_succ,Array.replicate_zero,List.push_toArray,List.append_toArray,List.nil_append,List.cons_append];gi_wp2_with (gi_at_call 242;refine(H6 F (n-1) Jy Jj _ _ _ _).mono ?_;rintro e w' ⟨rfl,rfl⟩);have⟨S,hS⟩:=q_ w.heap.size;have bS:=((Boxed.new w 9 (sV s)).alloc (.cells #[V 0] 2)).alloc (.cells #[.bool false] 4) |>.alloc (.cells #[rV g bs.length cap] 194);have bZ:=((Boxed.new (w.alloc (.cells #[sV s] 9)) 2 (V 0)).alloc (.cells #[.bool false] 4)).alloc (.cells #[rV g bs.length cap] 194);have bT:=(Boxed.new ((w.alloc (.cells #[sV s] 9)).alloc (.cells #[V 0] 2)) 4 (.bool false)).alloc (.cells #[rV g bs.length cap] 194);have bN:=Boxed.new (((w.alloc (.cells #[sV s] 9)).alloc (.cells #[V 0] 2)).alloc (.cells #[.bool false] 4)) 194 (rV g bs.length cap);simp only[Bl,World.size_alloc]at bZ bT bN;have Jr:Bl w ((((w.alloc (.cells #[sV s] 9)).alloc (.cells #[V 0] 2)).alloc (.cells #[.bool false] 4)).alloc (.cells #[rV g bs.length cap] 194)):=hA.alloc (by simp;omega) _;have Jd:((((w.alloc (.cells #[sV s] 9)).alloc (.cells #[V 0] 2)).alloc (.cells #[.bool false] 4)).alloc (.cells #[rV g bs.length cap] 194)).heap.size=w.heap.size+1+1+1+1:=i_;refine wpIn_rangeFunc_ownG Jj h1 (gf:=260) (lb:=#[.pointer (some ⟨w.heap.size+1+1+1,0,none⟩)]) rfl Jt (enters_of func260 k_ rfl)
  (yK F (n-1) Jt Jj o_ (w.heap.size+1+1+1) g cap bs Jn Jm _ (by rw[Jd];omega) (by rw[Jd];omega) bN.cell (λj hj=>(Jr.cell (p:=⟨g,j,none⟩) I).trans (Jx j hj))) AE.trans (AE.put (by rw[Jd];omega) (by rw[Jd];omega)) r_ (λ_=>rfl)
  (λJc W=>((∀p∈Jc,O p.1 s=none)/\W.cell? ⟨w.heap.size,0,none⟩=some (sV s)/\(W.cell? ⟨w.heap.size+1,0,none⟩=some (V 0)/\W.frozen? ⟨w.heap.size+1,0,none⟩=false)/\W.cell? ⟨w.heap.size+1+1,0,none⟩=some (.bool false)/\W.frozen? ⟨w.heap.size+1+1,0,none⟩=false)/\Bl w W)
  (λc Jc W=>(c=.ret/\∃Jf Ja z,Jc=Jf++[Ja]/\(∀p∈Jf,O p.1 s=none)/\O Ja.1 s=some z/\W.cell? ⟨w.heap.size+1,0,none⟩=some (V z)/\W.cell? ⟨w.heap.size+1+1,0,none⟩=some (.bool true))/\Bl w W)
  (OwnFrom.and (Own.from (λq A B row hq I hr=>⟨hq.1,cell_kept hq.2.1 I hr,⟨cell_kept hq.2.2.1.1 I hr,(frozen_kept hq.2.2.1.1 I hr).trans hq.2.2.1.2⟩,cell_kept hq.2.2.2.1 I hr,(frozen_kept hq.2.2.2.1 I hr).trans hq.2.2.2.2⟩) _) (ownFrom_below n_ (by rw[Jd];omega)))
  (λc=>OwnFrom.and (Own.from (λq A B row hq I hr=>by obtain⟨hc,Jf,Ja,z,e1,e2,e3,e4,e5⟩:=hq;exact⟨hc,Jf,Ja,z,e1,e2,e3,cell_kept e4 I hr,cell_kept e5 I hr⟩) _) (ownFrom_below n_ (by rw[Jd];omega)))
  ⟨⟨i_,bS.cell,⟨bZ.cell,bZ.frozen⟩,bT.cell,bT.frozen⟩,Jr⟩
  (λx=> {tmps:=#[pV C,sV s,undef,pV w.heap.size,.pointer (some ⟨w.heap.size+1,0,none⟩),.pointer (some ⟨w.heap.size+1+1,0,none⟩),undef,.map (some (bs[x.1]?.getD 0)),pV C,pV C,pV C,rV g bs.length cap,.func (.func 260) #[] #[.pointer (some ⟨w.heap.size+1+1+1,0,none⟩)],V (x.1:Int),.map (some (bs[x.1]?.getD 0)),undef,undef,undef,undef,undef,undef,undef,undef],defers:=[]}) ?assign ?body ?done ?stop
 case assign=>intro l x W K J;gi_wp2;exact J
 case body=>
  rintro l Jc x W ⟨⟨hp,Jh,⟨Z,Js⟩,Y,Jq⟩,X⟩ _;have⟨nn,D,Je,Jp⟩:=hM x.1 x.2;have Jb:=aI (w':=W) Je (X.block _ Je.lt);cases hv:O x.1 s with
  | none=>
   have Jg:=vC Jb Jp hs hv;gi_wp2;refine⟨((KeepsOthers.setCell _ _ _).trans (KeepsOthers.setCell _ _ _)).from _,⟨?_,?_⟩,⟨λp hp'=>(List.mem_append.1 hp').elim (hp p) (λe=>by simp at e;subst e;exact hv),?_,⟨?_,?_⟩,?_,?_⟩,(X.setCell (p:=⟨w.heap.size+1,0,none⟩) i_ _).setCell (p:=⟨w.heap.size+1+1,0,none⟩) (by simp;omega) _⟩;rw[Below.heap_setCell _ _ _ _ (by simp;omega),Below.heap_setCell _ _ _ _ (by simp;omega)];rw[Below.heap_setCell _ _ _ _ (by show w.heap.size+1+1+1≠w.heap.size+1+1;omega),Below.heap_setCell _ _ _ _ (by show w.heap.size+1+1+1≠w.heap.size+1;omega)]
   all_goals (first|(go_simp;done)|(simp[Jh,Z,Js,Y,Jq];done)|skip)
  | some z=>
   have Jg:=vB Jb Jp hs hv;gi_wp2;refine⟨((((KeepsOthers.setCell _ _ _).trans (KeepsOthers.setCell _ _ _)).trans (KeepsOthers.setCell _ _ _)).trans (KeepsOthers.setCell _ _ _)).from _,⟨rfl,Jc,x,z,rfl,hp,hv,?_,?_⟩,(((X.setCell (p:=⟨w.heap.size+1,0,none⟩) i_ _).setCell (p:=⟨w.heap.size+1+1,0,none⟩) (by simp;omega) _).setCell (p:=⟨w.heap.size+1,0,none⟩) i_ _).setCell (p:=⟨w.heap.size+1+1,0,none⟩) (by simp;omega) _⟩;all_goals
    have Jo:(⟨w.heap.size+1,0,none⟩:Addr)≠⟨w.heap.size+1+1,0,none⟩:=i_;have⟨p1,p2⟩:=sA (u:=V z) (v:=.bool true) Z Y Jo;have⟨q1,q2⟩:=sA (u:=V z) (v:=.bool true) p1 p2 Jo;first|exact q1|exact q2
 case done=>
  rintro D ys W hD rfl ⟨⟨Ju,Jh,⟨Z,Js⟩,Y,Jq⟩,X⟩ J;gi_wp2;have Ji:=(KeepsOthers.setCell (W.setCell ⟨w.heap.size+1,0,none⟩ (V 0)) ⟨w.heap.size+1+1,0,none⟩ (.bool false)).same D _ ((KeepsOthers.setCell W ⟨w.heap.size+1,0,none⟩ (V 0)).same D _ J rfl) rfl;refine⟨i_,.inl ⟨_,_,rfl,run_takeDeferred Ji,?_⟩⟩;have c1:((W.setCell ⟨w.heap.size+1,0,none⟩ (V 0)).setCell ⟨w.heap.size+1+1,0,none⟩ (.bool false)).cell? ⟨w.heap.size+1,0,none⟩=some (V 0):=by go_simp
  have c2:((W.setCell ⟨w.heap.size+1,0,none⟩ (V 0)).setCell ⟨w.heap.size+1+1,0,none⟩ (.bool false)).cell? ⟨w.heap.size+1+1,0,none⟩=some (.bool false):=by go_simp
  have Jk:=cell_kept c1 (grownBy_putObj' _ D (.deferred none)) (λr e=>by cases e;exact⟨_,Ji,rfl⟩);have Jl:=cell_kept c2 (grownBy_putObj' _ D (.deferred none)) (λr e=>by cases e;exact⟨_,Ji,rfl⟩);refine⟨.tuple #[V 0,.bool false],?_,.inl ⟨rfl,λj hj=>Ju ⟨j,hj⟩ (EH bs bs.length j hj o_)⟩,((X.setCell (p:=⟨w.heap.size+1,0,none⟩) i_ _).setCell (p:=⟨w.heap.size+1+1,0,none⟩) (by simp;omega) _).trans (belowK_b (w:=w) n_ _ D _ _ (by simp at hD;omega) Ji rfl rfl)⟩;simp[results,results220,go_sem,Jk,Jl]
 case stop=>
  rintro D c Jc W hD ⟨k,hk,rfl⟩ ⟨⟨rfl,Jf,Ja,z,e1,e2,e3,Z,Y⟩,X⟩ J;gi_wp2;refine⟨i_,.inl ⟨_,_,rfl,run_takeDeferred J,?_⟩⟩;have Jk:=cell_kept Z (grownBy_putObj' _ D (.deferred none)) (λr e=>by cases e;exact⟨_,J,rfl⟩);have Jl:=cell_kept Y (grownBy_putObj' _ D (.deferred none)) (λr e=>by cases e;exact⟨_,J,rfl⟩);refine⟨.tuple #[V z,.bool true],?_,.inr ⟨Ja.1,z,Ja.2,rfl,e3,λj h1 h2=>?_⟩,X.trans (belowK_b (w:=w) n_ W D _ _ (by simp at hD;omega) J rfl rfl)⟩
  ·simp[results,results220,go_sem,Jk,Jl]
  obtain⟨U,rfl⟩:∃U,k=U+1:=by
   cases k with
   | zero=>simp[bk]at e1
   | succ U=>exact⟨U,rfl⟩
  rw[AD bs U o_]at e1;obtain⟨rfl,e5⟩:=List.append_inj' e1 rfl;have e6:Ja.1=bs.length-1-U:=by
   have:=e5
   simp only[List.cons.injEq,and_true]at this;rw[<-this]
  exact e2 ⟨j,h2⟩ (EH bs U j h2 o_)
def JM:IF->Option Int:=λ_=>none
theorem pI{H:List (IF->Option Int)}(h:∀j,j<H.length->(H.getD j JM) s=none):findS H s=none:=by
 induction H with
 | nil=>rfl
 | cons f r ih=>have I:=h 0 i_;simp at I;simp only[findS];rw[ih (λj hj=>by have:=h (j+1) (D4 hj);simpa using this),I];rfl
theorem BR{H:List (IF->Option Int)}{q:Nat}{z:Int}(I:q<H.length)(J:(H.getD q JM) s=some z)(h:∀j,q<j->j<H.length->(H.getD j JM) s=none):findS H s=some z:=by
 induction H generalizing q with
 | nil=>simp at I
 | cons f r ih=>
  simp only[findS];cases q with
  | zero=>rw[pI (λj hj=>by have:=h (j+1) o_ (D4 hj);simpa using this)];simpa using J
  | succ q=>rw[ih (q:=q) (D4 I) (D4 J) (λj h1 h2=>by have:=h (j+1) o_ (D4 h2);simpa using this)];rfl
theorem BS(C B:Nat)(bs:List Nat)(I:List (ByteArray->Option Int))(v:Value)(s:ByteArray)(w:World)(hl:I.length=bs.length)(Ja:bs.length<=1000000)(hp:0<bs.length)(Z:s.size<=maxLen)
  (hc:w.cell? ⟨C,0,none⟩=some v) (O:kU B w v bs) (Y:∀j,j<bs.length->∃nn D,w.ownsMap prog 9 (plainElem (H:=Unit) prog 2) (bs[j]?.getD 0) nn D/\dT D (I.getD j JM)):
  Calls prog 220 #[pV C,sV s] w λe w'=>e=rW (match findS I s with|none=>.tuple #[V 0,.bool false]|some z=>.tuple #[V z,.bool true])/\Below w.heap.size w w':=by
 have Jc:=O;rcases O.2 with⟨_,hz⟩|⟨g,Jb,Je,rfl,Jf,X,Jd,_⟩;omega;refine(callsIn_wide.1 (H7 Fence.wide 3 trivial trivial trivial rfl n_ C g Jb bs (λj=>I.getD j JM) s w Ja Jd Z hc (Array.getElem?_eq_some_iff.1 X).1 (λj hj=>?_) Y)).mono ?_
 have:=World.ownsRow.cellAt Jc j (by simpa using hj)
 rw[this];simp[hj];rintro e w' ⟨⟨rfl,h⟩|⟨q,z,hq,rfl,U,h2⟩,J⟩;rw[pI (λj hj=>h j o_)];exact⟨rfl,J⟩;rw[BR (q:=q) o_ U (λj h3 h4=>h2 j h3 o_)];exact⟨rfl,J⟩
end
end Go.Proofs.YtngnoopnloojjaaGreatDoor
namespace Go.Proofs.YtngnoopnloojjaaGreatDoor
open Go.Value Go.World List
open Go.Proofs.Tryz Go.RowKit
set_option linter.all false
set_option maxRecDepth 100000
set_option maxHeartbeats 0
def fD(e fn st:Int):BY:=if e=0 then .nilIface else .iface 123 (.agg #[V e,V fn,V st])
def dj(fn st:Int):fD 0 fn st=.nilIface:=rfl
def bI{e fn st:Int}(h:e≠0):fD e fn st=.iface 123 (.agg #[V e,V fn,V st]):=if_neg h
theorem Cn(C bn nn:Nat)(D:DataW Unit)(t:Tr)(Ja:List IF)(J Y st:Int)(I:IF)(vf:BY)(w:AT)(h2:Bo w C 2 vf)(h3:Bo w C 3 (.map (some bn)))(h5:Bo w C 5 (.int .i64 Y))(h6:Bo w C 6 (.int .i64 st))
  (Jd:w.ownsMap prog 9 (plainElem (H:=Unit) prog 2) bn nn D) (hN:cY D t.fc) (Ji:t.fc.length<=1048576) (hf:cF w vf t.fc) (hs:I.size<=maxLen):
  Calls prog 219 #[pV C,.agg #[V 4,V J,sV I]] w λe w'=>e=rW (fD (nodeE t Ja ⟨4,J,I⟩) Y st)/\Bl w w':=by
 obtain⟨af,cf,rfl,-,-,Jb⟩:=hf;have Jg:=ah Jb;have Je:C<w.heap.size:=b_ h2;have O:Bl w (w.alloc (.cells #[V 4,V J,sV I] 36)).drew:=(aq _ _).drew;have HM:=ah (dM Jd O);have HN:=ah hN;clear Jb Jd hN;cases hfn:bU t.fc I with
 | none=>have Jc:(Instr.lookup 131 (.map (some bn)) (sV I) true).run prog (w.alloc (.cells #[V 4,V J,sV I] 36)).drew=_:=oM HM HN hs hfn;have U:Hid (nodeE t Ja ⟨4,J,I⟩=4):=ul hfn;have Z:=(O.cell (p:=⟨C,5,none⟩) Je).trans h5;have c6:=(O.cell (p:=⟨C,6,none⟩) Je).trans h6;clear hfn;go_in;go_wp2_with fail;go_region;go_wp2_with fail;refine(di C 4 Y st _ Z c6).mono ?_;rintro e w1 ⟨rfl,X⟩;rw[X];clear X;go_wp2;go_ret;exact⟨aC (by rw[U.o];rfl),O⟩
 | some i=>
  have hi:=jv hfn;have Jc:(Instr.lookup 131 (.map (some bn)) (sV I) true).run prog (w.alloc (.cells #[V 4,V J,sV I] 36)).drew=_:=mg HM HN hs hfn;have U:Hid (nodeE t Ja ⟨4,J,I⟩=if ((t.fc[i].pm.length:Nat):Int)=J then 0 else 6):=yV hfn hi;obtain⟨bf,of,rfl,Jb⟩:=Jg o_;obtain⟨vp,vb,⟨f0,f1,f2⟩,⟨ap,cp,rfl,-⟩,-⟩:=Jb i hi;have Jh:bf<w.heap.size:=b_ f0;clear Jb f0 f2 hfn Jg;generalize t.fc[i].pm.length=np at U f1;by_cases hv:J=(np:Int)
  ·have Jf:Hid (nodeE t Ja ⟨4,J,I⟩=0):=(by show _=_;rw[U.o,if_pos hv.symm]);clear U;subst hv;go_in;go_wp2_with fail;go_region;go_wp2_with fail;go_region;go_wp2;go_ret;exact⟨aC (by rw[Jf.o];rfl),O.drew⟩
  have Jf:Hid (nodeE t Ja ⟨4,J,I⟩=6):=(by show _=_;rw[U.o,if_neg (λh=>hv h.symm)]);have Z:=(O.drew.cell (p:=⟨C,5,none⟩) Je).trans h5;have c6:=(O.drew.cell (p:=⟨C,6,none⟩) Je).trans h6;clear U;go_in;go_wp2_with fail;go_region;go_wp2_with fail;go_region;go_wp2_with fail;refine(di C 6 Y st _ Z c6).mono ?_;rintro e w1 ⟨rfl,X⟩;rw[X];clear X;go_wp2;go_ret;exact⟨aC (by rw[Jf.o];rfl),O.drew⟩
theorem Co(C bn nn:Nat)(D:DataW Unit)(t:Tr)(I st:Int)(vf:BY)(w:AT)(h2:Bo w C 2 vf)(h3:Bo w C 3 (.map (some bn)))(h5:Bo w C 5 (.int .i64 I))(h6:Bo w C 6 (.int .i64 st))
  (Jb:w.ownsMap prog 9 (plainElem (H:=Unit) prog 2) bn nn D) (Y:cY D t.fc) (Je:t.fc.length<=1048576) (hf:cF w vf t.fc):
  Calls prog 77 #[pV C] w λe w'=>e=rW (fD (match bU t.fc mainS with|none=>3|some m=>if (t.fc.getD m ⟨⟨#[]⟩,[],[]⟩).pm.length>0 then 3 else 0) I st)/\Bl w w':=by
 obtain⟨af,cf,rfl,-,-,Jc⟩:=hf;have U:mainS.size<=maxLen:=by unfold maxLen;decide
 cases hfn:bU t.fc mainS with
 | none=>have Ja:(Instr.lookup 131 (.map (some bn)) (sV ⟨#[109,97,105,110]⟩) true).run prog w=_:=oM Jb Y U hfn;go_in;go_wp2_with fail;refine(di C 3 I st _ h5 h6).mono ?_;rintro e w1 ⟨rfl,J⟩;rw[J];go_wp2;go_ret;exact⟨aC rfl,r_⟩
 | some i=>
  have X:=jv hfn;have Ja:(Instr.lookup 131 (.map (some bn)) (sV ⟨#[109,97,105,110]⟩) true).run prog w=_:=mg Jb Y U hfn;obtain⟨bf,of,rfl,Jd⟩:=Jc o_;obtain⟨vp,vb,⟨f0,Z,f2⟩,⟨ap,cp,rfl,-⟩,-⟩:=Jd i X;have he:(t.fc.getD i ⟨⟨#[]⟩,[],[]⟩).pm.length=t.fc[i].pm.length:=by simp[List.getD,X]
  simp only[he];generalize t.fc[i].pm.length=np at Z⊢;by_cases hv:0<np
  ·have O:Hid ((if np>0 then(3:Int)else 0)=3):=if_pos hv;go_in;go_wp2_with fail;refine(di C 3 I st _ h5 h6).mono ?_;rintro e w1 ⟨rfl,J⟩;rw[J];go_wp2;go_ret;exact⟨aC (by first|rfl|(rw[O.o];rfl)),r_⟩
  have O:Hid ((if np>0 then(3:Int)else 0)=0):=if_neg hv;obtain rfl:np=0:=o_;go_in;go_wp2;go_ret;exact⟨aC (by first|rfl|(rw[O.o];rfl)),r_⟩
def qY(o:Option Int)(arr:Bool):Int:=match o with|none=>4|some z=>if decide (z>0)=arr then 0 else 5
theorem E5(C B:Nat)(bs:List Nat)(Y:List (IF->Option Int))(v:BY)(s:IF)(Jd:Bool)(X st:Int)(w:AT)(hl:Y.length=bs.length)(Je:bs.length<=1000000)(hp:0<bs.length)(hs:s.size<=maxLen)
  (Z:Bo w C 0 v) (h5:Bo w C 5 (V X)) (h6:Bo w C 6 (V st)) (hR:kU B w v bs) (hM:∀j,j<bs.length->∃nn D,w.ownsMap prog 9 (plainElem (H:=Unit) prog 2) (bs[j]?.getD 0) nn D/\dT D (Y.getD j JM)):
  Calls prog 202 #[pV C,sV s,.bool Jd] w λe w'=>e=rW (fD (qY (findS Y s) Jd) X st)/\Bl w w':=by
 have Jc:C<w.heap.size:=b_ Z;have Jb:=ah (BS C B bs Y v s w hl Je hp hs Z hR hM);cases hfi:findS Y s with
 | none=>rw[hfi]at Jb;go_in;go_wp2_with fail;refine Jb.o.mono ?_;rintro e w1 ⟨rfl,Ja⟩;have U:=(Ja.cell (p:=⟨C,5,none⟩) Jc).trans h5;have O:=(Ja.cell (p:=⟨C,6,none⟩) Jc).trans h6;go_wp2_with fail;refine(di C 4 X st _ U O).mono ?_;rintro e w2 ⟨rfl,J⟩;rw[J];go_wp2;go_ret;exact⟨aC rfl,Ja⟩
 | some z=>
  rw[hfi]at Jb;by_cases hz:z>0
  ·cases Jd
   ·go_in;go_wp2_with fail;refine Jb.o.mono ?_;rintro e w1 ⟨rfl,Ja⟩;have U:=(Ja.cell (p:=⟨C,5,none⟩) Jc).trans h5;have O:=(Ja.cell (p:=⟨C,6,none⟩) Jc).trans h6;have I:Hid (qY (some z) false=5):=(by show _=_;unfold qY;simp[hz]);go_wp2_with fail;refine(di C 5 X st _ U O).mono ?_;rintro e w2 ⟨rfl,J⟩;rw[J];go_wp2;go_ret;exact⟨aC (by rw[I.o];rfl),Ja⟩
   go_in;go_wp2_with fail;refine Jb.o.mono ?_;rintro e w1 ⟨rfl,Ja⟩;have I:Hid (qY (some z) true=0):=(by show _=_;unfold qY;simp[hz]);go_wp2;go_ret;exact⟨aC (by rw[I.o];rfl),Ja⟩
  cases Jd
  ·go_in;go_wp2_with fail;refine Jb.o.mono ?_;rintro e w1 ⟨rfl,Ja⟩;have I:Hid (qY (some z) false=0):=(by show _=_;unfold qY;simp[hz]);go_wp2;go_ret;exact⟨aC (by rw[I.o];rfl),Ja⟩
  go_in;go_wp2_with fail;refine Jb.o.mono ?_;rintro e w1 ⟨rfl,Ja⟩;have U:=(Ja.cell (p:=⟨C,5,none⟩) Jc).trans h5;have O:=(Ja.cell (p:=⟨C,6,none⟩) Jc).trans h6;have I:Hid (qY (some z) true=5):=(by show _=_;unfold qY;simp[hz]);have Jg:z<=0:=o_;have Jf:decide (0<z)=false:=Do;have Jh:decide (z>0)=false:=Do;go_wp2_with fail;refine(di C 5 X st _ U O).mono ?_;rintro e w2 ⟨rfl,J⟩;rw[J];go_wp2;go_ret;exact⟨aC (by rw[I.o];rfl),Ja⟩
section
variable{w:AT}{C B bn nn:Nat}{D:DataW Unit}{t:Tr}{bsn:List (List IF)}{bs:List Nat}{v vf:BY}{fn st:Int}
structure Ck (w:AT) (C B bn nn:Nat) (D:DataW Unit) (t:Tr) (bsn:List (List IF)) (bs:List Nat) (v vf:BY) (fn st:Int):Prop where
 c0:w.cell? ⟨C,0,none⟩=some v
 c2:w.cell? ⟨C,2,none⟩=some vf
 c3:w.cell? ⟨C,3,none⟩=some (.map (some bn))
 c5:w.cell? ⟨C,5,none⟩=some (V fn)
 c6:w.cell? ⟨C,6,none⟩=some (V st)
 row:kU B w v bs
 len:(fH t.gl bsn).length=bs.length
 small:bs.length<=1000000
 maps:∀j,j<bs.length->∃nn D,w.ownsMap prog 9 (plainElem (H:=Unit) prog 2) (bs[j]?.getD 0) nn D/\dT D ((fH t.gl bsn).getD j JM)
 own:w.ownsMap prog 9 (plainElem (H:=Unit) prog 2) bn nn D
 num:cY D t.fc
 fc:cF w vf t.fc
def Ck.below{w':AT}(h:Ck w C B bn nn D t bsn bs v vf fn st)(H:Bl w w'):Ck w' C B bn nn D t bsn bs v vf fn st:=by have I:C<w.heap.size:=b_ h.c0;refine⟨(H.cell (p:=⟨C,0,none⟩) I).trans h.c0,(H.cell (p:=⟨C,2,none⟩) I).trans h.c2,(H.cell (p:=⟨C,3,none⟩) I).trans h.c3,(H.cell (p:=⟨C,5,none⟩) I).trans h.c5,(H.cell (p:=⟨C,6,none⟩) I).trans h.c6,h.row.below H,h.len,h.small,λj hj=>?_,dM h.own H,h.num,h.fc.below H⟩;have⟨nn,D,J,h2⟩:=h.maps j hj;exact⟨nn,D,dM J H,h2⟩
def Lg{h:List Gl}{bs:List (List IF)}{s:IF}{Ja:Bool}(H:∀g∈h,0<=g.size):pq h bs.flatten s Ja=qY (findS (fH h bs) s) Ja:=by rw[BM H];rfl
def ml(h:Ck w C B bn nn D t bsn bs v vf fn st)(H:∀g∈t.gl,0<=g.size)(s:IF)(I:s.size<=maxLen)(Jb:Bool):
  Calls prog 202 #[pV C,sV s,.bool Jb] w λe w'=>e=rW (fD (pq t.gl bsn.flatten s Jb) fn st)/\Bl w w':=by
 have Ja:0<bs.length:=by rw[<-h.len];simp[fH]
 rw[Lg H];exact E5 C B bs _ v s Jb fn st w h.len h.small Ja I h.c0 h.c5 h.c6 h.row h.maps
def Cp(h:Ck w C B bn nn D t bsn bs v vf fn st)(hp:∀g∈t.gl,0<=g.size)(Jc:t.fc.length<=1048576)(n:Nd)(Y:n.nm.size<=maxLen):
  Calls prog 201 #[pV C,.agg #[V n.kd,V n.val,sV n.nm]] w λe w'=>e=rW (fD (nodeE t bsn.flatten n) fn st)/\Bl w w':=by
 obtain⟨I,vl,nm⟩:=n;simp only at Y⊢;have X:Bl w (w.alloc (.cells #[V I,V vl,sV nm] 36)):=aq _ _;have H:=ah (h.below X);clear h;by_cases h2:I=2
 ·subst h2;have U:Hid (nodeE t bsn.flatten ⟨2,vl,nm⟩=pq t.gl bsn.flatten nm false):=rfl;go_in;go_wp2_with fail;refine(ml H hp nm Y false).mono ?_;rintro e w1 ⟨rfl,Jb⟩;have O:=X.trans (Jb.mono i_);rw[<-U.o];have⟨Z,Ja⟩:=q_ (fD (nodeE t bsn.flatten ⟨2,vl,nm⟩) fn st);rw[<-Ja];have J:=ah Ja;clear Ja;go_wp2;go_ret;exact⟨aC J,O⟩
 by_cases h3:I=3
 ·subst h3;have U:Hid (nodeE t bsn.flatten ⟨3,vl,nm⟩=pq t.gl bsn.flatten nm true):=rfl;go_in;go_wp2_with fail;refine(ml H hp nm Y true).mono ?_;rintro e w1 ⟨rfl,Jb⟩;have O:=X.trans (Jb.mono i_);rw[<-U.o];have⟨Z,Ja⟩:=q_ (fD (nodeE t bsn.flatten ⟨3,vl,nm⟩) fn st);rw[<-Ja];have J:=ah Ja;clear Ja;go_wp2;go_ret;exact⟨aC J,O⟩
 by_cases h4:I=4
 ·subst h4;go_in;go_wp2_with fail;refine(Cn C bn nn D t bsn.flatten vl fn st nm vf _ H.o.c2 H.o.c3 H.o.c5 H.o.c6 H.o.own H.o.num Jc H.o.fc Y).mono ?_;rintro e w1 ⟨rfl,Jb⟩;have O:=X.trans (Jb.mono i_);have⟨Z,Ja⟩:=q_ (fD (nodeE t bsn.flatten ⟨4,vl,nm⟩) fn st);rw[<-Ja];have J:=ah Ja;clear Ja;go_wp2;go_ret;exact⟨aC J,O⟩
 have U:Hid (nodeE t bsn.flatten ⟨I,vl,nm⟩=0):=by show _=_;unfold nodeE;simp only;rw[if_neg o_,if_neg h4]
 have b2:(I == 2)=false:=D4 h2;have b3:(I == 3)=false:=D4 h3;have b4:(I == 4)=false:=D4 h4;go_in;go_wp2;go_ret;exact⟨aC (by rw[U.o];rfl),X⟩
end
structure jP (w:AT) (C:Nat) (v vg vf:BY) (bn bt:Nat) (fn st:Int):Prop where
 c0:w.cell? ⟨C,0,none⟩=some v
 c1:w.cell? ⟨C,1,none⟩=some vg
 c2:w.cell? ⟨C,2,none⟩=some vf
 c3:w.cell? ⟨C,3,none⟩=some (.map (some bn))
 c4:w.cell? ⟨C,4,none⟩=some (.map (some bt))
 c5:w.cell? ⟨C,5,none⟩=some (V fn)
 c6:w.cell? ⟨C,6,none⟩=some (V st)
 fz:∀o,w.frozen? ⟨C,o,none⟩=false
def jP.keep{w w':AT}{C:Nat}{v vg vf:BY}{bn bt:Nat}{fn st:Int}(h:jP w C v vg vf bn bt fn st)(hb:w'.heap[C]? =w.heap[C]?):jP w' C v vg vf bn bt fn st:=
 ⟨(c_ (a:=⟨C,0,none⟩) hb).trans h.c0,(c_ (a:=⟨C,1,none⟩) hb).trans h.c1,(c_ (a:=⟨C,2,none⟩) hb).trans h.c2,(c_ (a:=⟨C,3,none⟩) hb).trans h.c3,(c_ (a:=⟨C,4,none⟩) hb).trans h.c4,(c_ (a:=⟨C,5,none⟩) hb).trans h.c5,(c_ (a:=⟨C,6,none⟩) hb).trans h.c6,λo=>(frozen?_of_block (a:=⟨C,o,none⟩) hb).trans (h.fz o)⟩
def jP.s0{w:AT}{C:Nat}{v vg vf:BY}{bn bt:Nat}{fn st:Int}(h:jP w C v vg vf bn bt fn st)(v':BY):jP (w.setCell ⟨C,0,none⟩ v') C v' vg vf bn bt fn st:=
 ⟨cell?_setCell_same _ _ _ h.c0,(s_ _ _ _ _ (br d_)).trans h.c1,(s_ _ _ _ _ (br d_)).trans h.c2,(s_ _ _ _ _ (br d_)).trans h.c3,(s_ _ _ _ _ (br d_)).trans h.c4,(s_ _ _ _ _ (br d_)).trans h.c5,(s_ _ _ _ _ (br d_)).trans h.c6,λo=>by simpa using h.fz o⟩
def jP.s4{w:AT}{C:Nat}{v vg vf:BY}{bn bt:Nat}{fn st:Int}(h:jP w C v vg vf bn bt fn st)(bt':Nat):jP (w.setCell ⟨C,4,none⟩ (.map (some bt'))) C v vg vf bn bt' fn st:=
 ⟨(s_ _ _ _ _ (br d_)).trans h.c0,(s_ _ _ _ _ (br d_)).trans h.c1,(s_ _ _ _ _ (br d_)).trans h.c2,(s_ _ _ _ _ (br d_)).trans h.c3,cell?_setCell_same _ _ _ h.c4,(s_ _ _ _ _ (br d_)).trans h.c5,(s_ _ _ _ _ (br d_)).trans h.c6,λo=>by simpa using h.fz o⟩
def jP.s5{w:AT}{C:Nat}{v vg vf:BY}{bn bt:Nat}{fn st:Int}(h:jP w C v vg vf bn bt fn st)(z:Int):jP (w.setCell ⟨C,5,none⟩ (V z)) C v vg vf bn bt z st:=
 ⟨(s_ _ _ _ _ (br d_)).trans h.c0,(s_ _ _ _ _ (br d_)).trans h.c1,(s_ _ _ _ _ (br d_)).trans h.c2,(s_ _ _ _ _ (br d_)).trans h.c3,(s_ _ _ _ _ (br d_)).trans h.c4,cell?_setCell_same _ _ _ h.c5,(s_ _ _ _ _ (br d_)).trans h.c6,λo=>by simpa using h.fz o⟩
def jP.s6{w:AT}{C:Nat}{v vg vf:BY}{bn bt:Nat}{fn st:Int}(h:jP w C v vg vf bn bt fn st)(z:Int):jP (w.setCell ⟨C,6,none⟩ (V z)) C v vg vf bn bt fn z:=
 ⟨(s_ _ _ _ _ (br d_)).trans h.c0,(s_ _ _ _ _ (br d_)).trans h.c1,(s_ _ _ _ _ (br d_)).trans h.c2,(s_ _ _ _ _ (br d_)).trans h.c3,(s_ _ _ _ _ (br d_)).trans h.c4,(s_ _ _ _ _ (br d_)).trans h.c5,cell?_setCell_same _ _ _ h.c6,λo=>by simpa using h.fz o⟩
structure oO where
 w0:AT
 C:Nat
 bg:Nat
 bn:Nat
 nn:Nat
 D:DataW Unit
 t:Tr
 vg:BY
 vf:BY
 gf:IF->Option Int
 gp:IF->Bool
 ng:Nat
def kU.keep{B:Nat}{w w':AT}{v:BY}{bs:List Nat}(h:kU B w v bs)(X:∀x,v.ownBlock=some x->w'.heap[x]? =w.heap[x]?):kU B w' v bs:=by obtain⟨O,H⟩:=h;refine⟨O,?_⟩;rcases H with H|⟨g,Jb,Ja,rfl,U,I,J⟩;exact .inl H;refine .inr ⟨g,Jb,Ja,rfl,U,?_,J⟩;rw[X g rfl];exact I
structure Cs (E:oO) (w:AT) (bsn:List (List IF)) (bi:List Nat) (v:BY) (bt:Nat) (tk:List IF) (fn st:Int):Prop where
 box:jP w E.C v E.vg E.vf E.bn bt fn st
 low:E.w0.heap.size<=E.C
 base:Below E.w0.heap.size E.w0 w
 fun0:cF E.w0 E.vf E.t.fc/\dz E.w0 E.vg E.t.gl
 row:kU (E.C+1) w v (E.bg::bi)
 len:bsn.length=bi.length
 small:bi.length<=900000
 glob:∃ng Dg,ng<=E.ng/\w.ownsMap prog 9 (plainElem (H:=Unit) prog 2) E.bg ng Dg/\dT Dg E.gf
 maps:∀j,j<bi.length->∃n Dj,n<=(bsn.getD j []).length/\w.ownsMap prog 9 (plainElem (H:=Unit) prog 2) (bi.getD j 0) n Dj/\dT Dj (kT (bsn.getD j []))
 own:w.ownsMap prog 9 (plainElem (H:=Unit) prog 2) E.bn E.nn E.D
 num:cY E.D E.t.fc
 tak:∃nt Dt ft,nt<=tk.length+1000/\w.ownsMap prog 9 (plainElem (H:=Unit) prog 2) bt nt Dt/\dT Dt ft/\∀s,(ft s).isSome=(fT tk s || E.gp s)
 nd:(E.bg::E.bn::bt::bi).Nodup
 gt:∀b∈E.bg::E.bn::bt::bi,E.C<b
 rown:∀x,v.ownBlock=some x->x∉E.bg::E.bn::bt::bi
def gD{H:List Nat}{j:Nat}(h:j<H.length):H.getD j 0∈H:=by
 have:H.getD j 0=H[j]:=by simp[List.getD,h]
 rw[this];exact g_ h
def Cs.keep{E:oO}{w w':AT}{Ja:List (List IF)}{I:List Nat}{v:BY}{J:Nat}{tk:List IF}{O st:Int}(h:Cs E w Ja I v J tk O st)(hb:Below E.w0.heap.size E.w0 w')
  (hC:w'.heap[E.C]? =w.heap[E.C]?) (hr:∀x,v.ownBlock=some x->w'.heap[x]? =w.heap[x]?) (H:∀b∈E.bg::E.bn::J::I,w'.heap[b]? =w.heap[b]?):Cs E w' Ja I v J tk O st:=by
 have⟨ng,Dg,g0,Z,U⟩:=h.glob;have⟨nt,Dt,X,t0,t1,Y⟩:=h.tak;refine⟨h.box.keep hC,h.low,hb,h.fun0,h.row.keep hr,h.len,h.small,⟨ng,Dg,g0,aI Z (H _ i_),U⟩,λj hj=>?_,aI h.own (H _ i_),h.num,⟨nt,Dt,X,t0,aI t1 (H _ i_),Y⟩,h.nd,h.gt,h.rown⟩;have⟨n,Dj,m0,m1,m2⟩:=h.maps j hj;exact⟨n,Dj,m0,aI m1 (H _ (by have:=gD hj;simp only[mem_cons];exact .inr (.inr (.inr this)))),m2⟩
def Cs.ltC{E:oO}{w:AT}{bsn:List (List IF)}{bi:List Nat}{v:BY}{bt:Nat}{tk:List IF}{fn st:Int}(h:Cs E w bsn bi v bt tk fn st):E.C<w.heap.size:=b_ h.box.c0
def Cs.lt{E:oO}{w:AT}{Ja:List (List IF)}{I:List Nat}{v:BY}{J:Nat}{tk:List IF}{Y st:Int}(h:Cs E w Ja I v J tk Y st):∀b∈E.bg::E.bn::J::I,b<w.heap.size:=by
 intro b hb;simp only[mem_cons]at hb;rcases hb with rfl|rfl|rfl|hb
 have⟨ng,Dg,g0,O,g2⟩:=h.glob;exact O.lt
 exact h.own.lt
 have⟨nt,Dt,ft,t0,U,Z⟩:=h.tak;exact U.lt
 obtain⟨j,H,rfl⟩:=getElem_of_mem hb;have⟨n,Dj,m0,X,m2⟩:=h.maps j H;have:=X.lt;simpa[List.getD,H]using this
def Cs.rlt{E:oO}{w:AT}{bsn:List (List IF)}{bi:List Nat}{v:BY}{bt:Nat}{tk:List IF}{fn st:Int}(h:Cs E w bsn bi v bt tk fn st):∀x,v.ownBlock=some x->E.C<x/\x<w.heap.size:=λx hx=>ownsRow.lt h.row x hx
def Cs.below{E:oO}{w w':AT}{bsn:List (List IF)}{bi:List Nat}{v:BY}{bt:Nat}{tk:List IF}{fn st:Int}(h:Cs E w bsn bi v bt tk fn st)(hb:Bl w w'):Cs E w' bsn bi v bt tk fn st:=
 h.keep (h.base.trans (hb.mono h.base.size)) (hb.block _ h.ltC) (λx hx=>hb.block _ (h.rlt x hx).2) (λb hm=>hb.block _ (h.lt b hm))
def yY(Ja:List (List IF))(h:List Gl)(j:Nat)(H:j<Ja.length):(fH h Ja).getD (j+1) JM=kT (Ja.getD j []):=by simp[fH,List.getD,H]
theorem Cs.ck{E:oO}{w:AT}{Jb:List (List IF)}{H:List Nat}{v:BY}{bt:Nat}{tk:List IF}{I st:Int}(h:Cs E w Jb H v bt tk I st)(Jc:E.gf=cP E.t.gl):Ck w E.C (E.C+1) E.bn E.nn E.D E.t Jb (E.bg::H) v E.vf I st:=by
 refine⟨h.box.c0,h.box.c2,h.box.c3,h.box.c5,h.box.c6,h.row,by simp[fH,h.len],by have:=h.small;simp;omega,λj hj=>?_,h.own,h.num,h.fun0.1.below h.base⟩;cases j with
 | zero=>have⟨ng,X,g0,O,J⟩:=h.glob;exact⟨ng,X,D4 O,by simpa[fH,List.getD,<-Jc]using J⟩
 | succ j=>
  have Ja:j<H.length:=D4 hj
  have⟨n,Y,m0,Z,U⟩:=h.maps j Ja;refine⟨n,Y,by simpa[List.getD]using Z,?_⟩;rw[yY _ _ _ (by rw[h.len];exact Ja)];exact U
def Cs.put{E:oO}{w:AT}{Ja:List (List IF)}{J:List Nat}{v:BY}{I:Nat}{tk:List IF}{fn st Jb Jc:Int}(h:Cs E w Ja J v I tk fn st)(o:Nat)(u:BY)(hx:jP (w.setCell ⟨E.C,o,none⟩ u) E.C v E.vg E.vf E.bn I Jb Jc):Cs E (w.setCell ⟨E.C,o,none⟩ u) Ja J v I tk Jb Jc:=by have H:∀b,E.C<b->(w.setCell ⟨E.C,o,none⟩ u).heap[b]? =w.heap[b]? := λb hb=>Below.heap_setCell _ _ _ b (λe=>by simp at e;omega);have⟨ng,Dg,g0,Y,O⟩:=h.glob;have⟨nt,Dt,U,t0,Z,X⟩:=h.tak;refine⟨hx,h.low,h.base.setCell (p:=⟨E.C,o,none⟩) h.low u,h.fun0,h.row.other o_,h.len,h.small,⟨ng,Dg,g0,aI Y (H _ (h.gt _ i_)),O⟩,λj hj=>?_,aI h.own (H _ (h.gt _ i_)),h.num,⟨nt,Dt,U,t0,aI Z (H _ (h.gt _ i_)),X⟩,h.nd,h.gt,h.rown⟩;have⟨n,Dj,m0,m1,m2⟩:=h.maps j hj;exact⟨n,Dj,m0,aI m1 (H _ (h.gt _ (by have:=gD hj;simp only[mem_cons];exact .inr (.inr (.inr this))))),m2⟩
def Cs.stmt{E:oO}{w:AT}{bsn:List (List IF)}{bi:List Nat}{v:BY}{bt:Nat}{tk:List IF}{fn st:Int}(h:Cs E w bsn bi v bt tk fn st)(z:Int):Cs E (w.setCell ⟨E.C,6,none⟩ (V z)) bsn bi v bt tk fn z:=h.put 6 _ (h.box.s6 z)
section
variable{α:Type}{E:oO}{bt b:Nat}{bi:List Nat}{w:AT}{bsn:List (List IF)}{v:BY}{tk xs:List IF}{fn st:Int}{s:IF}
def bR(l:List α)(x d:α)(j:Nat)(h:j<l.length):(l++[x]).getD j d=l.getD j d:=by simp[List.getD,getElem?_append_left h]
def dF(l:List α)(x d:α)(j:Nat)(h:j=l.length):(l++[x]).getD j d=x:=by subst h;simp[List.getD]
def mem3{x:Nat}(h:x∈bi):x∈E.bg::E.bn::bt::bi:=by simp[h]
def Sb(E:oO)(v:BY)(bt:Nat):DO:=λk=>k=E.C\/k=bt\/v.ownBlock=some k
def E8(h:Cs E w bsn bi v bt tk fn st)(hs:bi.length<900000):
  Calls prog 122 #[pV E.C] w λe w'=>(∃u,e=rW u)/\∃v',Cs E w' (bsn++[[]]) (bi++[w.heap.size]) v' bt tk fn st/\aA (Sb E v bt) w w'/\(∀k,v'.ownBlock=some k->v.ownBlock=some k\/w.heap.size<=k):=by
 have J:=h.ltC;refine(vR E.C (E.C+1) (E.bg::bi) v w o_ J h.box.c0 (h.box.fz 0) h.row Do).mono ?_;rintro e w' ⟨he,v',w1,rfl,Jc,Jb,I,Ja⟩;have hm:∀b,b<w.heap.size->b≠E.C->some b≠v.ownBlock->(w1.setCell ⟨E.C,0,none⟩ v').heap[b]? =w.heap[b]? := λb hb hc hr=>(Below.heap_setCell _ _ _ b (λe=>hc e)).trans (I.block b hb hr);have H:∀b∈E.bg::E.bn::bt::bi,(w1.setCell ⟨E.C,0,none⟩ v').heap[b]? =w.heap[b]? := λb hb=>hm b (h.lt b hb) (Ft (h.gt b hb)) (λe=>h.rown b e.symm hb);have Jf:w1.heap[E.C]? =w.heap[E.C]? := I.block E.C J (λe=>by have:=(h.rlt _ e.symm).1;omega);have⟨ng,Z,g0,g1,Y⟩:=h.glob;have⟨nt,Dt,O,t0,t1,U⟩:=h.tak;have Je:∀k,v.ownBlock=some k->E.w0.heap.size<=k:=λk H=>by have:=(h.rlt k H).1;have:=h.low;omega
 refine⟨he,v',⟨(h.box.keep Jf).s0 v',h.low,((h.base.grown I h.base.size Je).setCell (p:=⟨E.C,0,none⟩) h.low v'),h.fun0,Jc,by simp[h.len],by simp;omega,⟨ng,Z,g0,aI g1 (H _ i_),Y⟩,λj hj=>?_,aI h.own (H _ i_),h.num,⟨nt,Dt,O,t0,aI t1 (H _ i_),U⟩,?_,?_,?_⟩,?_,?_⟩;simp only[l_a,l_c,l_n]at hj;by_cases hl:j<bi.length
 have⟨n,Dj,m0,m1,X⟩:=h.maps j hl;refine⟨n,Dj,?_,?_,?_⟩
 rw[bR _ _ _ _ (by rw[h.len];exact hl)];exact m0;rw[bR _ _ _ _ hl];exact aI m1 (H _ (mem3 (gD hl)));rw[bR _ _ _ _ (by rw[h.len];exact hl)];exact X;have Jd:j=bi.length:=o_;refine⟨0,.map [],y_,?_,?_⟩;rw[dF _ _ _ _ Jd];exact Jb;rw[dF _ _ _ _ (by rw[h.len];exact Jd),BL];exact dT.nil;have e:E.bg::E.bn::bt::(bi++[w.heap.size])=(E.bg::E.bn::bt::bi)++[w.heap.size]:=i_;rw[e,nodup_append];refine⟨h.nd,i_,λa ha b hb=>?_⟩;simp only[K7]at hb;have:=h.lt a ha;omega;intro b hb;have e:E.bg::E.bn::bt::(bi++[w.heap.size])=(E.bg::E.bn::bt::bi)++[w.heap.size]:=i_;rw[e,K5]at hb;rcases hb with hb|hb;exact h.gt b hb;simp only[K7]at hb;omega
 ·intro x hx hb;have e:E.bg::E.bn::bt::(bi++[w.heap.size])=(E.bg::E.bn::bt::bi)++[w.heap.size]:=i_
  rw[e,K5,K7]at hb;rcases Ja x hx with h1|h1
  ·rcases hb with hb|hb
   ·exact h.rown x h1 hb
   have:=(h.rlt x h1).2;omega
  rcases hb with hb|hb
  have:=h.lt x hb;omega
  omega
 refine(aA.of_grown I (S:=Sb E v bt) (λk H=>.inr (.inr H))).setCell (p:=⟨E.C,0,none⟩) (.inl rfl) v';intro k H;rcases Ja k H with h1|h1;exact .inl h1;exact .inr o_
def lE(h:Cs E w (bsn++[xs]) (bi++[b]) v bt tk fn st)(u:FrameMode):
  CallsD prog 166 #[pV E.C] u w λe u' w'=>u'=u/\(∃u,e=rW u)/\∃v',Cs E w' bsn bi v' bt tk fn st/\aA (λk=>k=E.C) w w'/\v'.ownBlock=v.ownBlock:=by
 have hC:=h.ltC;have Je:=h.small;simp only[l_a,l_c,l_n]at Je;refine(yJ u E.C (E.C+1) b (E.bg::bi) v w o_ h.box.c0 (h.box.fz 0) h.row Do).mono ?_;rintro e u' w' ⟨hu,he,v',rfl,Jd,Jb⟩;have H:∀b,E.C<b->(w.setCell ⟨E.C,0,none⟩ v').drew.heap[b]? =w.heap[b]? := λb hb=>Below.heap_setCell _ _ _ b (λe=>by simp at e;omega);have⟨ng,Z,g0,g1,Y⟩:=h.glob;have⟨nt,Dt,X,t0,t1,U⟩:=h.tak;have Jc:bsn.length=bi.length:=by have:=h.len;simpa using this
 have Ja:∀x∈E.bg::E.bn::bt::bi,x∈E.bg::E.bn::bt::(bi++[b]):=λx hx=>by simp only[mem_cons,K5]at hx⊢;rcases hx with h1|h1|h1|h1;exact .inl h1;exact .inr (.inl h1);exact .inr (.inr (.inl h1));exact .inr (.inr (.inr (.inl h1)))
 refine⟨hu,he,v',⟨(h.box.s0 v').keep rfl,h.low,(h.base.setCell (p:=⟨E.C,0,none⟩) h.low v').drew,h.fun0,Jd,Jc,o_,⟨ng,Z,g0,aI g1 (H _ (h.gt _ i_)),Y⟩,λj hj=>?_,aI h.own (H _ (h.gt _ i_)),h.num,⟨nt,Dt,X,t0,aI t1 (H _ (h.gt _ i_)),U⟩,?_,λx hx=>h.gt x (Ja x hx),λx hx hb=>h.rown x (Jb ▸ hx) (Ja x hb)⟩,((aA.refl (λk=>k=E.C) w).setCell (p:=⟨E.C,0,none⟩) rfl v').drew,Jb⟩
 have⟨n,Dj,J,O,I⟩:=h.maps j Do;rw[bR _ _ _ _ o_]at J I;rw[bR _ _ _ _ hj]at O;exact⟨n,Dj,J,aI O (H _ (h.gt _ (Ja _ (mem3 (gD hj))))),I⟩
 have e:E.bg::E.bn::bt::(bi++[b])=(E.bg::E.bn::bt::bi)++[b]:=i_
 have:=h.nd
 rw[e,nodup_append]at this;exact this.1
def oP(h:Cs E w bsn bi v bt tk fn st)(hs:s.size<=maxLen)(hx:fT tk s=true\/E.gp s=true):
  Calls prog 123 #[pV E.C,sV s] w λev w'=>ev=rW (fD 2 fn st)/\w'=w:=by
 have⟨Y,Z,H,t0,U,J,O⟩:=h.tak;have I:(H s).isSome=true:=by rw[O];rcases hx with h1|h1;simp[h1];simp[h1]
 have⟨z,X⟩:=Option.isSome_iff_exists.1 I;exact El E.C bt Y fn st Z H s z w h.box.c4 h.box.c5 h.box.c6 U J hs X
theorem oQ(h:Cs E w bsn bi v bt tk fn st)(hs:s.size<=maxLen)(Jc:tk.length<=100000000)(I:¬(fT tk s=true\/E.gp s=true)):
  Calls prog 123 #[pV E.C,sV s] w λev w'=>ev=.returned .nilIface/\Cs E w' bsn bi v bt (tk++[s]) fn st/\aA (λk=>k=bt) w w':=by
 have⟨X,Dt,J,t0,t1,Y,U⟩:=h.tak;have hf:J s=none:=by
  have:=U s
  cases hfs:J s with
  | none=>rfl
  | some z=>rw[hfs]at this;have h2:(fT tk s || E.gp s)=true:=(by rw[<-this];rfl);rw[Bool.or_eq_true]at h2;exact(I h2).elim
 refine(En E.C bt X Dt J s w h.box.c4 t1 Y o_ hs hf).mono ?_;rintro ev w' ⟨rfl,D',d1,Z,O⟩;have Ja:=h.nd;simp only[nodup_cons,mem_cons,not_or]at Ja;obtain⟨⟨n1,n2,n3⟩,⟨n4,n5⟩,n6,n7⟩:=Ja;have H:∀b,b<w.heap.size->b≠bt->w'.heap[b]? =w.heap[b]? := λb hb hc=>O.block b hb (λe=>hc (D4 e));have Jb:=h.gt bt i_;have⟨ng,Dg,g0,g1,g2⟩:=h.glob;refine⟨rfl,⟨h.box.keep (H _ h.ltC o_),h.low,h.base.grown O h.base.size (λk hk=>by cases hk;have:=h.low;omega),h.fun0,h.row.keep (λx I=>H x (h.rlt x I).2 (λe=>h.rown x I (by simp[e]))),h.len,h.small,⟨ng,Dg,g0,aI g1 (H _ (h.lt _ i_) n2),g2⟩,λj hj=>?_,aI h.own (H _ (h.lt _ i_) n4),h.num,⟨X+1,D',_,by simp;omega,d1,Z,λx=>?_⟩,h.nd,h.gt,h.rown⟩,aA.of_grown O (λk hk=>by cases hk;rfl)⟩
 have⟨n,Dj,m0,m1,m2⟩:=h.maps j hj;refine⟨n,Dj,m0,aI m1 (H _ (h.lt _ (mem3 (gD hj))) (λe=>n6 (e ▸ gD hj))),m2⟩
 unfold oz;rw[lu];by_cases hsx:s=x
 have:fT [s] x=true:=Ke (k:=0) i_ (D4 hsx)
 simp[hsx,this];simp[hsx]at this;simp[this]
 have:fT [s] x=false:=D0 (λj hj=>by simp at hj;subst hj;simpa using hsx)
 simp[hsx,this,U x]
def NJ(h:Cs E w (bsn++[xs]) (bi++[b]) v bt tk fn st)(hs:s.size<=maxLen)(Jh:xs.length<=100000000):
  Calls prog 124 #[pV E.C,sV s,V 0] w λe w'=>(∃u,e=rW u)/\Cs E w' (bsn++[xs++[s]]) (bi++[b]) v bt tk fn st/\aA (λk=>k=b) w w':=by
 have Je:=h.small;simp only[l_a,l_c,l_n]at Je;have Ja:bsn.length=bi.length:=by have:=h.len;simpa using this
 have Jc:b∈E.bg::E.bn::bt::(bi++[b]):=i_;have⟨Y,Db,b0,U,b2⟩:=h.maps bi.length i_;rw[dF _ _ _ _ Ja.symm]at b0 b2;rw[dF _ _ _ _ rfl]at U;have Jg:=h.gt b Jc;refine(AC E.C (E.C+1) b Y (E.bg::bi) v Db _ s 0 w h.box.c0 h.row Do o_ (λx hx e=>h.rown x hx (e ▸ Jc)) U b2 o_ hs d_).mono ?_;rintro e w' ⟨he,D',d1,d2,H⟩;have Jb:=h.nd;have e:E.bg::E.bn::bt::(bi++[b])=(E.bg::E.bn::bt::bi)++[b]:=i_;rw[e,nodup_append]at Jb;obtain⟨-,-,Jb⟩:=Jb;have I:∀k,k<w.heap.size->k≠b->w'.heap[k]? =w.heap[k]? := λk hk hc=>(H.block k hk (λe=>hc (D4 e)));have O:∀k∈E.bg::E.bn::bt::bi,k≠b:=λk hk=>Jb k hk b i_;have J:∀k∈E.bg::E.bn::bt::bi,k<w.heap.size:=λk hk=>h.lt k (by rw[e];exact mem_append_left _ hk);have⟨ng,Dg,g0,g1,g2⟩:=h.glob;have⟨nt,Dt,ft,t0,t1,t2⟩:=h.tak;have Jd:w.grownBy w' (some b):=⟨H.os,H.tape,H.output,H.size,H.block⟩;refine⟨he,⟨h.box.keep (I _ h.ltC o_),h.low,h.base.grown Jd h.base.size (λk hk=>by cases hk;have:=h.low;omega),h.fun0,h.row.keep (λx hx=>I x (h.rlt x hx).2 (λe=>h.rown x hx (e ▸ Jc))),by simp[Ja],h.small,⟨ng,Dg,g0,aI g1 (I _ (J _ i_) (O _ i_)),g2⟩,λj hj=>?_,aI h.own (I _ (J _ i_) (O _ i_)),h.num,⟨nt,Dt,ft,t0,aI t1 (I _ (J _ i_) (O _ i_)),t2⟩,h.nd,h.gt,h.rown⟩,aA.of_grown Jd (λk hk=>by cases hk;rfl)⟩;simp only[l_a,l_c,l_n]at hj;by_cases hjl:j<bi.length
 have⟨n,Dj,Z,m1,X⟩:=h.maps j Do;rw[bR _ _ _ _ o_]at Z X;rw[bR _ _ _ _ hjl]at m1;refine⟨n,Dj,?_,?_,?_⟩
 rw[bR _ _ _ _ o_];exact Z;rw[bR _ _ _ _ hjl];exact aI m1 (I _ (J _ (mem3 (gD hjl))) (O _ (mem3 (gD hjl))));rw[bR _ _ _ _ o_];exact X;have Jf:j=bi.length:=o_;refine⟨Y+1,D',?_,?_,?_⟩;rw[dF _ _ _ _ o_];simp;omega;rw[dF _ _ _ _ Jf];exact d1;rw[dF _ _ _ _ o_,<-yC];exact d2
def Po(h:Cs E w [] [] v bt tk fn st){z:Int}(hs:s.size<=maxLen)(hz:(Lit.int .i64 z).wf=true)(Je:E.ng<=100000000):
  Calls prog 124 #[pV E.C,sV s,V z] w λe w'=>(∃u,e=rW u)/\Cs {E with gf:=oz E.gf s z,ng:=E.ng+1} w' [] [] v bt tk fn st/\aA (λk=>k=E.bg) w w':=by
 have⟨J,Z,b0,Y,b2⟩:=h.glob;have Ja:E.bg∈E.bg::E.bn::bt::[]:=i_;have Jd:=h.gt E.bg Ja;refine(AC E.C (E.C+1) E.bg J [] v Z _ s z w h.box.c0 h.row i_ o_ (λx hx e=>h.rown x hx (e ▸ Ja)) Y b2 o_ hs hz).mono ?_;rintro e w' ⟨he,D',d1,O,H⟩;have Jb:=h.nd;simp only[nodup_cons,mem_cons,not_or,not_mem_nil,not_false_eq_true,and_true]at Jb;obtain⟨⟨n1,n2⟩,n4,-⟩:=Jb;have I:∀k,k<w.heap.size->k≠E.bg->w'.heap[k]? =w.heap[k]? := λk hk hc=>(H.block k hk (λe=>hc (D4 e)));have⟨nt,Dt,U,t0,t1,X⟩:=h.tak;have Jc:w.grownBy w' (some E.bg):=⟨H.os,H.tape,H.output,H.size,H.block⟩;exact⟨he,⟨h.box.keep (I _ h.ltC o_),h.low,h.base.grown Jc h.base.size (λk hk=>by cases hk;have:=h.low;omega),h.fun0,h.row.keep (λx hx=>I x (h.rlt x hx).2 (λe=>h.rown x hx (e ▸ Ja))),rfl,h.small,⟨J+1,D',Nat.succ_le_succ b0,d1,O⟩,λj hj=>absurd hj i_,aI h.own (I _ (h.lt _ i_) (λe=>n1 e.symm)),h.num,⟨nt,Dt,U,t0,aI t1 (I _ (h.lt _ i_) (λe=>n2 e.symm)),X⟩,h.nd,h.gt,h.rown⟩,aA.of_grown Jc (λk hk=>by cases hk;rfl)⟩
end
end Go.Proofs.YtngnoopnloojjaaGreatDoor
