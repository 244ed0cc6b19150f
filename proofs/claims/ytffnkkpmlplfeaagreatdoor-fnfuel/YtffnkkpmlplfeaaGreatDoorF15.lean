import Derived.Test.YtffnkkpmlplfeaaGreatDoorF06
import Derived.Deep.RegionHeldLaw
namespace Go.Proofs.YtffnkkpmlplfeaaGreatDoor
open Go.Value Go.World List
open Go.Proofs.Tryz Go.RowKit
set_option linter.all false
set_option maxRecDepth 100000
set_option maxHeartbeats 0
variable[Inhabited Pick]
variable{B b:Nat}{w w':AT}{v:BY}{bs:List Nat}
def ja(B:Nat)(w:AT)(v:BY)(bs:List Nat):Prop:=w.ownsRow B 77 1 v bs.length (bs.map (λb=>Value.map (some b)))
def ja.below(h:ja B w v bs)(hb:Bl w w'):ja B w' v bs:=by
 obtain⟨Y,I⟩:=h;refine⟨Y,?_⟩;rcases I with I|⟨g,Jb,Z,rfl,g3,J,U⟩
 ·exact .inl I
 ·refine .inr ⟨g,Jb,Z,rfl,g3,?_,U⟩;rw[hb.block g (Array.getElem?_eq_some_iff.1 J).1];exact J
def ja.other{c o:Nat}{u:BY}(h:ja B w v bs)(hc:c<B):ja B (w.setCell ⟨c,o,none⟩ u) v bs:=by
 obtain⟨Y,I⟩:=h;refine⟨Y,?_⟩;rcases I with I|⟨g,Jb,Z,rfl,g3,J,U⟩
 ·exact .inl I
 ·refine .inr ⟨g,Jb,Z,rfl,g3,?_,U⟩;rw[Below.heap_setCell _ _ _ g (λh=>by simp at h;omega)];exact J
theorem ja.cut(h:ja B w v (bs++[b])):∃g cap,v=rV g (bs.length+1) cap/\B<=g/\bs.length+1<=cap/\cap<=maxLen/\w.cell? ⟨g,bs.length,none⟩=some (.map (some b))/\ja B w (rV g bs.length cap) bs:=by
 have h0:=h;obtain⟨g1,g2⟩:=h;rcases g2 with⟨_,hz⟩|⟨g,cap,I,rfl,Z,g4,U,J,g7,Y⟩
 ·simp at hz
 ·simp only[l_a,l_c,l_n,Nat.zero_add,Nat.mul_one,List.map_append,List.map_cons,List.map_nil]at g1 U g7 Y;refine⟨g,cap,i_,Z,U,J,?_,i_,.inr ⟨g,cap,I,rfl,Z,g4,o_,J,o_,?_⟩⟩
  ·have:=World.ownsRow.cellAt h0 bs.length i_
   rw[this];simp
  ·rw[Nat.mul_one];have e:I.toList.take bs.length=(I.toList.take (bs.length+1)).take bs.length:=by rw[List.take_take];congr 1;omega
   rw[e,Y];simp
def sn(u:FrameMode)(C B b:Nat)(bs:List Nat)(v:BY)(w:AT)(Y:C<B)(hc:DO w C 0 v)(hf:D4 w C 0)(Z:ja B w v (bs++[b]))(hl:bs.length<=1000000):
  CallsD prog 173 #[pV C] u w λe u' w'=>u'=u/\(∃u,e=rW u)/\∃v',w'=(w.setCell ⟨C,0,none⟩ v').drew/\ja B w' v' bs/\v'.ownBlock=v.ownBlock:=by
 obtain⟨g,h,rfl,hg,h1,h2,h3,h4⟩:=Z.cut;have J:=ah h4;have Jb:∀W:AT,(Instr.slice 158 (rV g (bs.length+1) h) none (some (V (bs.length:Int))) none).run prog W=.ok (rV g bs.length h) W:=by
  intro W;have I:prog.elem 158=77:=k_;have U:(sizeOf 77).run prog W=.ok 1 W:=k_;rw[run_slice_h W 158 (some ⟨g,0,none⟩) (bs.length+1) h (by rw[I];exact underlying158) .i64 _ o_ o_,I,U];simp[Result.andThen,sliced,Addr.add]
 go_enter_d func173,ntmps173;go_wp2_with fail;go_region;go_wp2_with fail;go_end0;exact⟨⟨_,rfl⟩,_,rfl,J.o.other Y |>.below (r_.drew),rfl⟩
def ud(C B b nn:Nat)(bs:List Nat)(v:BY)(D:DataW Unit)(f:GA->Option Int)(s:GA)(z:Int)(w:AT)(hc:DO w C 0 v)(hR:ja B w v (bs++[b]))(hl:bs.length<=1000000)(Jh:C≠b)(Je:∀x,v.ownBlock=some x->x≠b)
    (Ja:w.ownsMap prog 9 (plainElem (H:=Unit) prog 2) b nn D) (hM:dy D f) (hn:nn<1000000000) (hs:s.size<=maxLen) (hz:(Lit.int .i64 z).wf=true):
    Calls prog 138 #[pV C,sV s,V z] w λe w'=>(∃u,e=rW u)/\∃D',w'.ownsMap prog 9 (plainElem (H:=Unit) prog 2) b (nn+1) D'/\dy D' (kN f s z)/\w.drew.grownBy w' (some b):=by
  obtain⟨g,Jg,rfl,hg,U,h2,h3,-⟩:=hR.cut;have Jf:g≠b:=Je g rfl;have I:Hid (w.drew.ownsMap prog 9 (plainElem (H:=Unit) prog 2) b nn D):=Ja;have HM:Hid (dy D f):=hM;have HS:Hid (s.size<=maxLen):=hs;have HW:Hid ((Lit.int .i64 z).wf=true):=hz;generalize bs.length=m at hc U h3 hl⊢;obtain⟨w',Jc,J,h⟩:=I.o.update (Maps.string_keyed underlying9) underlying77 (by unfold maxLen;omega) (WideMaps.keyOf_string_mk underlying9 HS) (plainElem_int underlying2 HW);have Z:Hid (w'.ownsMap prog 9 (plainElem (H:=Unit) prog 2) b (nn+1) (D.put (kS s) (.lit (.int .i64 z)))):=J;have Y:Hid (w.drew.grownBy w' (some b)):=h;go_in;go_wp2_with fail;go_region;go_wp2_with fail;go_end0;exact⟨⟨_,rfl⟩,_,Z,HM.o.put s z,Y⟩
def aL{k:GC}{R:BY->Option (DataW Unit×List MemPlace)}{n:Nat}{D:DataW Unit}(h:w.ownsMap prog k R b n D)(hb:w'.heap[b]? =w.heap[b]?):w'.ownsMap prog k R b n D:=by
 obtain⟨J,I,U,F,Y,Z⟩:=h;exact⟨J,I,hb.trans U,F,Y,Z⟩
def yC:(prog.info? 77).map (λi=>(i.zero,i.size,i.bytes))=some (some (.map none),1,8):=by kernel_rfl
def ja.shape(h:ja B w v bs):∃a c,v=.slice a bs.length c:=by
 rcases h.2 with⟨rfl,J⟩|⟨g,I,U,rfl,_⟩
 ·exact⟨none,0,by rw[J]⟩
 ·exact⟨_,I,rfl⟩
def qq(C B:Nat)(bs:List Nat)(v:BY)(w:AT)(hC:C<B)(Jo:B<=w.heap.size)(hc:DO w C 0 v)(hf:D4 w C 0)(hR:ja B w v bs)(hl:bs.length<=1000000):
  Calls prog 136 #[pV C] w λe w'=>(∃u,e=rW u)/\∃(v':BY) (w1:AT),w'=w1.setCell ⟨C,0,none⟩ v'/\ja B w' v' (bs++[w.heap.size])/\w'.ownsMap prog 9 (plainElem (H:=Unit) prog 2) w.heap.size 0 (.map [])/\w.grownBy w1 v.ownBlock/\(∀k,v'.ownBlock=some k->v.ownBlock=some k∨w.heap.size<k):=by
 have HB:Hid (ja B w v bs):=hR;obtain⟨a,c,rfl⟩:=hR.shape;have Jn:= @run_makeMap prog;obtain⟨i0,hi,Jh,Ji,Jj⟩:=info_parts yC;have Jl:Hid (ja B ((w.alloc (.map #[] 0)).alloc (.cells #[.map (some w.heap.size)] 77)) (.slice a bs.length c) bs):=HB.o.below ((au _ _).alloc i_ _);go_in;go_wp2_with(at_builtin;refine cD rfl _ _ _ rfl B 77 i0 _ 1 8 underlying158 hi Jh Ji Jj rfl d_ _ bs.length (bs.map (λb=>Value.map (some b))) rfl Jl ⟨w.heap.size+1,0,none⟩ 1 1 [.map (some w.heap.size)] rfl rfl (by simpa using cell_one_new (w.alloc (.map #[] 0)) (.map (some w.heap.size)) 77) (by simp[oneCell']) o_ d_ ZFs ?_);intro J w1 Jk Jf Jm;have Z:C<w.heap.size:=o_;have U:Bl w ((w.alloc (.map #[] 0)).alloc (.cells #[.map (some w.heap.size)] 77)):=(au _ _).alloc i_ _;have Jc:∀k,(Value.slice a bs.length c).ownBlock=some k->B<=k/\k<w.heap.size:=λk hk=>ownsRow.lt HB k hk;have Je:some C≠(Value.slice a bs.length c).ownBlock:=λh=>by have:=(Jc C h.symm).1;omega
 have I:Hid (ja B w1 J (bs++[w.heap.size])):=by
  show ja B w1 J _;unfold ja;rw[l_a,map_append];exact Jk
 have Y:=Jf.block;have y0:DO w1 C 0 (.slice a bs.length c):=(c_ (a:=⟨C,0,none⟩) ((Y C ZFs Je).trans (U.block C Z))).trans hc;have y1:D4 w1 C 0:=(frozen?_of_block (a:=⟨C,0,none⟩) ((Y C ZFs Je).trans (U.block C Z))).trans hf;have HM:Hid (∀u,(w1.setCell ⟨C,0,none⟩ u).ownsMap prog 9 (plainElem (H:=Unit) prog 2) w.heap.size 0 (.map [])):=λu=>by
  refine aL (ownsMap_made w prog 9 _) ?_;rw[Below.heap_setCell _ _ _ w.heap.size (λh=>by simp at h;omega),Y w.heap.size ZFs (λh=>by have:=(Jc _ h.symm).2;omega)];exact(((Below.refl (w.heap.size+1) (w.alloc (.map #[] 0))).alloc i_ _).block w.heap.size o_)
 have HG:Hid (w.grownBy w1 (Value.slice a bs.length c).ownBlock):=by
  obtain⟨q1,q2,q3,q4,q5⟩:=Jf;exact⟨q1,q2,q3,by simp at q4;omega,λk hk hne=>(q5 k ZFs hne).trans (U.block k hk)⟩
 have HF:Hid (∀k,J.ownBlock=some k->(Value.slice a bs.length c).ownBlock=some k∨w.heap.size<k):=λk hk=>by
  rcases Jm k hk with h|h
  ·exact .inl h
  ·exact .inr (by(try simp at h);omega)
 obtain⟨a1,c1,rfl⟩:=I.o.shape;have Jb:(bs++[w.heap.size]).length=bs.length+1:=i_;rw[Jb]at I HF;rw[Jb];go_wp2_with fail;go_end0;exact⟨⟨_,rfl⟩,_,w1,rfl,I.o.other hC,HM _,HG,HF⟩
end Go.Proofs.YtffnkkpmlplfeaaGreatDoor
