import Derived.Test.YtffnkkpmlplfeaaGreatDoorN06
import Derived.Deep.RegionHeldLaw
namespace Go.Proofs.YtffnkkpmlplfeaaGreatDoor
open Go.Proofs.Tryz
open Go.RowKit
set_option linter.all false
set_option maxRecDepth 100000
set_option maxHeartbeats 16000000
variable[Inhabited Pick]
variable {B b:Nat} {w w':World} {v:Value} {bs:List Nat}
def BRw (B:Nat) (w:World) (v:Value) (bs:List Nat):Prop:=w.ownsRow B 77 1 v bs.length (bs.map (λb=>Value.map (some b)))
theorem BRw.below (h:BRw B w v bs) (hb:Below w.heap.size w w'):BRw B w' v bs:=by
 obtain⟨g1,g2⟩:=h;refine⟨g1,?_⟩;rcases g2 with g2|⟨g,cap,cur,rfl,g3,g4,g5⟩
 ·exact .inl g2
 ·refine .inr ⟨g,cap,cur,rfl,g3,?_,g5⟩;rw[hb.block g (Array.getElem?_eq_some_iff.1 g4).1];exact g4
theorem BRw.other {c o:Nat} {u:Value} (h:BRw B w v bs) (hc:c<B):BRw B (w.setCell ⟨c,o,none⟩ u) v bs:=by
 obtain⟨g1,g2⟩:=h;refine⟨g1,?_⟩;rcases g2 with g2|⟨g,cap,cur,rfl,g3,g4,g5⟩
 ·exact .inl g2
 ·refine .inr ⟨g,cap,cur,rfl,g3,?_,g5⟩;rw[Below.heap_setCell _ _ _ g (λh=>by simp at h;omega)];exact g4
theorem BRw.cut (h:BRw B w v (bs++[b])) : ∃g cap,v=.slice (some ⟨g,0,none⟩) (bs.length+1) cap/\B<=g/\bs.length+1<=cap/\cap<=maxLen/\w.cell? ⟨g,bs.length,none⟩=some (.map (some b))/\BRw B w (.slice (some ⟨g,0,none⟩) bs.length cap) bs:=by
 have h0:=h;obtain⟨g1,g2⟩:=h;rcases g2 with ⟨_,hz⟩|⟨g,cap,cur,rfl,g3,g4,g5,g6,g7,g8⟩
 ·simp at hz
 ·simp only[l_a,l_c,l_n,Nat.zero_add,Nat.mul_one,List.map_append,List.map_cons,List.map_nil] at g1 g5 g7 g8;refine⟨g,cap,by simp,g3,g5,g6,?_,by simp,.inr ⟨g,cap,cur,rfl,g3,g4,by omega,g6,by omega,?_⟩⟩
  ·have:=World.ownsRow.cellAt h0 bs.length (by simp)
   rw[this];simp
  ·rw[Nat.mul_one];have e:cur.toList.take bs.length=(cur.toList.take (bs.length+1)).take bs.length:=by rw[List.take_take];congr 1;omega
   rw[e,g8];simp
theorem closeD_any (u:FrameMode) (C B b:Nat) (bs:List Nat) (v:Value) (w:World) (hC:C<B) (hc:w.cell? ⟨C,0,none⟩=some v) (hf:w.frozen? ⟨C,0,none⟩=false) (hR:BRw B w v (bs++[b])) (hl:bs.length<=1000000) :
  CallsD prog 173 #[.pointer (some ⟨C,0,none⟩)] u w λe u' w'=>u'=u/\(∃u,e=.returned u)/\∃v',w'=(w.setCell ⟨C,0,none⟩ v').drew/\BRw B w' v' bs/\v'.ownBlock=v.ownBlock:=by
 obtain⟨g,cap,rfl,hg,h1,h2,h3,h4⟩:=hR.cut;have HB:=hide h4;have hsl : ∀W:World,(Instr.slice 158 (.slice (some ⟨g,0,none⟩) (bs.length+1) cap) none (some (.int .i64 (bs.length:Int))) none).run prog W=.ok (.slice (some ⟨g,0,none⟩) bs.length cap) W:=by
  intro W;have hz:prog.elem 158=77:=by kernel_rfl
  have hs:(sizeOf 77).run prog W=.ok 1 W:=by kernel_rfl
  rw[run_slice_h W 158 (some ⟨g,0,none⟩) (bs.length+1) cap (by rw[hz];exact underlying158) .i64 _ o_ o_,hz,hs];simp[Result.andThen,sliced,Addr.add]
 go_enter_d func173,ntmps173;go_wp2_with fail;go_region
 go_wp2_with fail;go_end0
 exact⟨⟨_,rfl⟩,_,rfl,HB.o.other hC |>.below (r_.drew),rfl⟩
theorem add_any (C B b nn:Nat) (bs:List Nat) (v:Value) (D:DataW Unit) (f:ByteArray->Option Int) (s:ByteArray) (z:Int) (w:World) (hc:w.cell? ⟨C,0,none⟩=some v) (hR:BRw B w v (bs++[b])) (hl:bs.length<=1000000) (hCb:C≠b) (hvb : ∀x,v.ownBlock=some x->x≠b)
    (hown:w.ownsMap prog 9 (plainElem (H:=Unit) prog 2) b nn D) (hM:MapIs D f) (hn:nn<1000000000) (hs:s.size<=maxLen) (hz:(Lit.int .i64 z).wf=true) :
    Calls prog 138 #[.pointer (some ⟨C,0,none⟩),.string s,.int .i64 z] w λe w'=>(∃u,e=.returned u)/\∃D',w'.ownsMap prog 9 (plainElem (H:=Unit) prog 2) b (nn+1) D'/\MapIs D' (setN f s z)/\w.drew.grownBy w' (some b):=by
  obtain⟨g,cap,rfl,hg,h1,h2,h3,-⟩:=hR.cut;have hgb:g≠b:=hvb g rfl;have HO:Hid (w.drew.ownsMap prog 9 (plainElem (H:=Unit) prog 2) b nn D):=hown;have HM:Hid (MapIs D f):=hM;have HS:Hid (s.size<=maxLen):=hs;have HW:Hid ((Lit.int .i64 z).wf=true):=hz;generalize bs.length=m at hc h1 h3 hl ⊢;obtain⟨w',hrun,r1,r2⟩:=HO.o.update (Maps.string_keyed underlying9) underlying77 (by unfold maxLen;omega) (WideMaps.keyOf_string_mk underlying9 HS) (plainElem_int underlying2 HW);have HR1:Hid (w'.ownsMap prog 9 (plainElem (H:=Unit) prog 2) b (nn+1) (D.put (kS s) (.lit (.int .i64 z)))):=r1;have HR2:Hid (w.drew.grownBy w' (some b)):=r2;go_enter func138,ntmps138;go_wp2_with fail;go_region
  go_wp2_with fail;go_end0
  exact⟨⟨_,rfl⟩,_,HR1,HM.o.put s z,HR2⟩
theorem map_keep {k:TypeId} {R:Value->Option (DataW Unit × List MemPlace)} {n:Nat} {D:DataW Unit} (h:w.ownsMap prog k R b n D) (hb:w'.heap[b]? = w.heap[b]?):w'.ownsMap prog k R b n D:=by
 obtain⟨es,clock,h0,F,hs,hD⟩:=h;exact⟨es,clock,hb.trans h0,F,hs,hD⟩
theorem info_map:(prog.info? 77).map (λi=>(i.zero,i.size,i.bytes))=some (some (.map none),1,8):=by kernel_rfl
theorem BRw.shape (h:BRw B w v bs) : ∃a c,v=.slice a bs.length c:=by
 rcases h.2 with ⟨rfl,hz⟩|⟨g,cap,cur,rfl,_⟩
 ·exact⟨none,0,by rw[hz]⟩
 ·exact⟨_,cap,rfl⟩
theorem open_any (C B:Nat) (bs:List Nat) (v:Value) (w:World) (hC:C<B) (hBs:B<=w.heap.size) (hc:w.cell? ⟨C,0,none⟩=some v) (hf:w.frozen? ⟨C,0,none⟩=false) (hR:BRw B w v bs) (hl:bs.length<=1000000) :
  Calls prog 136 #[.pointer (some ⟨C,0,none⟩)] w λe w'=>(∃u,e=.returned u)/\∃(v':Value) (w1:World),w'=w1.setCell ⟨C,0,none⟩ v'/\BRw B w' v' (bs++[w.heap.size])/\w'.ownsMap prog 9 (plainElem (H:=Unit) prog 2) w.heap.size 0 (.map [])/\w.grownBy w1 v.ownBlock/\(∀k,v'.ownBlock=some k->v.ownBlock=some k∨w.heap.size<k):=by
 have HB:Hid (BRw B w v bs):=hR;obtain⟨a,c,rfl⟩:=hR.shape;have hmm := @run_makeMap prog;obtain⟨i0,hi,hz0,hz1,hz2⟩:=info_parts info_map;have HB2:Hid (BRw B ((w.alloc (.map #[] 0)).alloc (.cells #[.map (some w.heap.size)] 77)) (.slice a bs.length c) bs):=HB.o.below ((bel_a _ _).alloc (by simp) _);go_enter func136,ntmps136;go_wp2_with (at_builtin;refine wpList_appF rfl _ _ _ rfl B 77 i0 _ 1 8 underlying158 hi hz0 hz1 hz2 rfl (by decide) _ bs.length (bs.map (λb=>Value.map (some b))) rfl HB2 ⟨w.heap.size+1,0,none⟩ 1 1 [.map (some w.heap.size)] rfl rfl (by simpa using cell_one_new (w.alloc (.map #[] 0)) (.map (some w.heap.size)) 77) (by simp[Value.oneCell']) o_ (by decide) (by simp;omega) ?_)
 intro v1 w1 ho1 hg1 hf1;have hCl:C<w.heap.size:=by omega
 have hA:Bl w ((w.alloc (.map #[] 0)).alloc (.cells #[.map (some w.heap.size)] 77)):=(bel_a _ _).alloc (by simp) _;have hrow : ∀k,(Value.slice a bs.length c).ownBlock=some k->B<=k/\k<w.heap.size:=λk hk=>World.ownsRow.lt HB k hk;have hCr:some C≠(Value.slice a bs.length c).ownBlock:=λh=>by have:=(hrow C h.symm).1;omega
 have HR1:Hid (BRw B w1 v1 (bs++[w.heap.size])):=by
  show BRw B w1 v1 _;unfold BRw;rw[l_a,List.map_append];exact ho1
 have hblk:=hg1.block;have y0:w1.cell? ⟨C,0,none⟩=some (.slice a bs.length c):=(c_ (a:=⟨C,0,none⟩) ((hblk C (by simp;omega) hCr).trans (hA.block C hCl))).trans hc;have y1:w1.frozen? ⟨C,0,none⟩=false:=(World.frozen?_of_block (a:=⟨C,0,none⟩) ((hblk C (by simp;omega) hCr).trans (hA.block C hCl))).trans hf;have HM:Hid (∀u,(w1.setCell ⟨C,0,none⟩ u).ownsMap prog 9 (plainElem (H:=Unit) prog 2) w.heap.size 0 (.map [])):=λu=>by
  refine map_keep (World.ownsMap_made w prog 9 _) ?_;rw[Below.heap_setCell _ _ _ w.heap.size (λh=>by simp at h;omega),hblk w.heap.size (by simp;omega) (λh=>by have:=(hrow _ h.symm).2;omega)];exact (((Below.refl (w.heap.size+1) (w.alloc (.map #[] 0))).alloc (by simp) _).block w.heap.size o_)
 have HG:Hid (w.grownBy w1 (Value.slice a bs.length c).ownBlock):=by
  obtain⟨q1,q2,q3,q4,q5⟩:=hg1;exact⟨q1,q2,q3,by simp at q4;omega,λk hk hne=>(q5 k (by simp;omega) hne).trans (hA.block k hk)⟩
 have HF:Hid (∀k,v1.ownBlock=some k->(Value.slice a bs.length c).ownBlock=some k∨w.heap.size<k):=λk hk=>by
  rcases hf1 k hk with h|h
  ·exact .inl h
  ·exact .inr (by (try simp at h);omega)
 obtain⟨a1,c1,rfl⟩:=HR1.o.shape;have hlen:(bs++[w.heap.size]).length=bs.length+1:=by simp
 rw[hlen] at HR1 HF;rw[hlen];go_wp2_with fail;go_end0
 exact⟨⟨_,rfl⟩,_,w1,rfl,HR1.o.other hC,HM _,HG,HF⟩
end Go.Proofs.YtffnkkpmlplfeaaGreatDoor
