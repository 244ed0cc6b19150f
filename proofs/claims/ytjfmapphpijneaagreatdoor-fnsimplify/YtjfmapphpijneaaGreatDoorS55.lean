import Derived.Deep.RegionHeldLaw
import Derived.RangeFuncNested
import Derived.RangeFuncBound
import Derived.Shelf.RegionOpen
import Derived.OwnWalkIn
import Derived.LoopNIn
import Derived.LoopIn
import Derived.Deep.RegionHeld3
import Derived.Test.YtjfmapphpijneaaGreatDoorS52
namespace Go.Proofs.YtjfmapphpijneaaGreatDoor
set_option linter.all false
set_option maxRecDepth 100000
set_option maxHeartbeats 0
open Go.World List Go.Proofs.Tryz Go.RowKit
variable[Inhabited Pick]
section
open Go.Value
section
variable{D:DataW Unit}{W:AT}{b nn:Nat}{s:Io}{gs:List Gl}
structure dZ (D:DataW Unit) (f:Io->Option Int):Prop where
 map:Maps.IsMap D
 has:∀s,Maps.has D (kS s)=(f s).isSome
 val:∀s z,f s=some z->D.atKey (kS s) (.lit (.int .i64 0))=.lit (.int .i64 z)
def dZ.nil:dZ (.map []) (λ_=>none):=⟨Maps.isMap_empty,λs=>rfl,λs i h=>by cases h⟩
def mW(f:Io->Option Int)(n:Io)(z:Int):Io->Option Int:=λs=>if n=s then some z else f s
def dZ.put{f:Io->Option Int}(h:dZ D f)(n:Io)(z:Int):dZ (D.put (kS n) (.lit (.int .i64 z))) (mW f n z):=by refine⟨h.map.put _ _,λs=>?_,λs i hi=>?_⟩;unfold mW;by_cases hs:n=s;subst hs;rw[Maps.has_put_same (k:=kS n) h.map trivial];simp;rw[Maps.has_put_other (mw (Ne.symm hs)),h.has s];simp[hs];unfold mW at hi;by_cases hs:n=s;subst hs;simp at hi;subst hi;rw[Maps.atKey_put_same (k:=kS n) h.map trivial];rw[Maps.atKey_put_other (mw (Ne.symm hs))];simp[hs]at hi;exact h.val s i hi
def uh{f:Io->Option Int}(Jb:W.ownsMap prog 9 (plainElem (H:=Unit) prog 2) b nn D)(Z:dZ D f)(hs:s.size<=maxLen){z:Int}(h:f s=some z):
  (Instr.lookup 67 (.map (some b)) (sV s) true).run prog W=.ok (.tuple #[V z,.bool true]) W:=by
 have⟨v,ps,Ja,J⟩:=Jb.look_ok (Maps.string_keyed underlying9) underlying67 (zeroValue2 _) (plainElem_int underlying2 d_) (WideMaps.keyOf_string_mk underlying9 hs);rw[Z.val s z h]at J;obtain⟨c,rfl,I,_⟩:=plainElem_int_inv underlying2 J;simp only[Prod.mk.injEq,DataW.lit.injEq,Lit.int.injEq,true_and]at I;obtain⟨I,-⟩:=I;subst I;have U:=Z.has s;rw[h]at U;rw[U]at Ja;exact Ja
def ui{f:Io->Option Int}(Jb:W.ownsMap prog 9 (plainElem (H:=Unit) prog 2) b nn D)(hN:dZ D f)(Z:s.size<=maxLen)(h:f s=none):
  (Instr.lookup 67 (.map (some b)) (sV s) true).run prog W=.ok (.tuple #[V 0,.bool false]) W:=by
 have⟨v,ps,Ja,U⟩:=Jb.look_ok (Maps.string_keyed underlying9) underlying67 (zeroValue2 _) (plainElem_int underlying2 d_) (WideMaps.keyOf_string_mk underlying9 Z);have J:=hN.has s;rw[h]at J;rw[Maps.atKey_of_not_has J]at U;obtain⟨c,rfl,I,_⟩:=plainElem_int_inv underlying2 U;simp only[Prod.mk.injEq,DataW.lit.injEq,Lit.int.injEq,true_and]at I;obtain⟨I,-⟩:=I;subst I;rw[J]at Ja;exact Ja
def findS:List (Io->Option Int)->Io->Option Int
 | [],_=>none
 | f::r,s=>(findS r s).or (f s)
def dz(gs:List Gl):Io->Option Int:=λs=>(gs.find? (λg=>decide (g.nm=s))).map (·.size)
def km(xs:List Io):Io->Option Int:=λs=>if dF xs s then some 0 else none
def zU:km []=λ_=>none:=by funext s;simp[km,dF]
def wP(I:List Io)(n:Io):mW (km I) n 0=km (I++[n]):=by
 funext s
 unfold mW km;rw[kt];by_cases h:n=s;simp[h,dF];have e:dF [n] s=false:=rU (λj hj=>by simp at hj;subst hj;simpa using h);simp[h,e]
theorem yG(I:∀g∈gs,0<=g.size):(dz gs s=none/\globI gs s= -1)\/(∃z,dz gs s=some z/\globI gs s=z/\0<=z):=by
 induction gs with
 | nil=>exact .inl ⟨rfl,rfl⟩
 | cons g r ih=>
  by_cases h:g.nm=s;refine .inr ⟨g.size,?_,?_,I g i_⟩;simp[dz,h];simp[globI,h]
  have:=ih (λx hx=>I x (by simp[hx]))
  simpa[dz,globI,h]using this
def fM(gs:List Gl)(bs:List (List Io)):List (Io->Option Int):=dz gs::bs.map km
theorem uj(bs:List (List Io))(s:Io):findS (bs.map km) s=if dF bs.flatten s then some 0 else none:=by
 induction bs with
 | nil=>simp[findS,dF]
 | cons b r ih=>simp only[map_cons,findS,ih,flatten_cons,kt];by_cases h1:dF r.flatten s=true;simp[h1];simp[h1,km]
def sk(gs:List Gl)(bs:List (List Io))(s:Io):findS (fM gs bs) s=if dF bs.flatten s then some 0 else dz gs s:=by unfold fM;simp only[findS,uj];by_cases h1:dF bs.flatten s=true;simp[h1];simp[h1]
theorem zV{bs:List (List Io)}{Ja:Bool}(J:∀g∈gs,0<=g.size):
  dU gs bs.flatten s Ja=match findS (fM gs bs) s with|none=>4|some z=>if decide (z>0)=Ja then 0 else 5:=by
 rw[sk];unfold dU;by_cases h1:dF bs.flatten s=true;simp[h1];simp only[h1,Bool.false_eq_true,if_false];rcases yG (s:=s) J with⟨I,h⟩|⟨z,I,h,U⟩;rw[I,h];simp;rw[I,h];simp only;rw[if_neg o_]
end
def dJ(C:Nat)(e I st:Int)(w:AT)(h5:DO w C 5 (V I))(h6:DO w C 6 (V st)):
  Calls prog 59 #[pV C,V e] w λev w'=>ev=rW (.iface 149 (.agg #[V e,V I,V st]))/\w'=w:=by
 go_in;go_wp2;go_ret;exact⟨rfl,rfl⟩
def zW{W:AT}{b nn:Nat}{D:DataW Unit}{f:Io->Option Int}(Jb:W.ownsMap prog 9 (plainElem (H:=Unit) prog 2) b nn D)(Z:dZ D f){s:Io}(U:s.size<=maxLen)(h:f s=none):
  (Instr.lookup 67 (.map (some b)) (sV s) false).run prog W=.ok (V 0) W:=by
 have⟨c,Ja,I,_⟩:=Jb.lookup_int (Maps.string_keyed underlying9) underlying67 underlying2 (zeroValue2 _) (WideMaps.keyOf_string_mk underlying9 U);have J:=Z.has s;rw[h]at J;rw[Maps.atKey_of_not_has J]at I;simp only[DataW.lit.injEq,Lit.int.injEq,true_and]at I;subst I;exact Ja
def Cd(C J nn:Nat)(I st:Int)(D:DataW Unit)(f:Io->Option Int)(s:Io)(z:Int)(w:AT)(h4:DO w C 4 (.map (some J)))(h5:DO w C 5 (.int .i64 I))(h6:DO w C 6 (.int .i64 st))
  (Ja:w.ownsMap prog 9 (plainElem (H:=Unit) prog 2) J nn D) (hM:dZ D f) (hs:s.size<=maxLen) (Z:f s=some z):
  Calls prog 86 #[pV C,sV s] w λev w'=>ev=rW (.iface 149 (.agg #[V 2,V I,V st]))/\w'=w:=by
 have Jb:=uh Ja hM hs Z;go_in;go_wp2_with fail;refine(dJ C 2 I st _ h5 h6).mono ?_;rintro e w1 ⟨rfl,U⟩;rw[U];go_wp2;go_ret;exact⟨rfl,rfl⟩
def Ce(C I nn:Nat)(D:DataW Unit)(f:Io->Option Int)(s:Io)(w:AT)(h4:DO w C 4 (.map (some I)))
  (Jb:w.ownsMap prog 9 (plainElem (H:=Unit) prog 2) I nn D) (J:dZ D f) (hn:nn<1000000000) (U:s.size<=maxLen) (Z:f s=none):
  Calls prog 86 #[pV C,sV s] w λev w'=>ev=.returned .nilIface/\∃D',w'.ownsMap prog 9 (plainElem (H:=Unit) prog 2) I (nn+1) D'/\dZ D' (mW f s 1)/\w.grownBy w' (some I):=by
 have Je:=ui Jb J U Z;have Jd:=zW Jb J U Z;have⟨HO,HM,HS⟩:=h3 Jb J U;go_in;go_wp2_with(at_mapUpdate;refine wpList_mapUpdate_own _ rfl _ _ _ 67 rfl 9 2 (Maps.string_keyed underlying9) underlying67 _ I nn D rfl HO (by unfold maxLen;omega) _ _ _ rfl rfl (WideMaps.keyOf_string_mk underlying9 HS) _ [] (plainElem_int underlying2 (WalkArith.wf_i64 o_)) ?_);intro w1 Jc Ja;have⟨Jf,HG⟩:=h2 Jc Ja;go_wp2;go_ret;exact⟨rfl,_,Jf,HM.o.put s 1,HG⟩
variable{B b:Nat}{w w':AT}{v:BY}{bs:List Nat}
def ko(B:Nat)(w:AT)(v:BY)(bs:List Nat):Prop:=w.ownsRow B 67 1 v bs.length (bs.map (λb=>Value.map (some b)))
def ko.below(h:ko B w v bs)(hb:Bl w w'):ko B w' v bs:=by obtain⟨Z,I⟩:=h;refine⟨Z,?_⟩;rcases I with I|⟨g,Jb,Ja,rfl,g3,J,U⟩;exact .inl I;refine .inr ⟨g,Jb,Ja,rfl,g3,?_,U⟩;rw[hb.block g (Array.getElem?_eq_some_iff.1 J).1];exact J
def ko.other{c o:Nat}{u:BY}(h:ko B w v bs)(hc:c<B):ko B (w.setCell ⟨c,o,none⟩ u) v bs:=by obtain⟨Z,I⟩:=h;refine⟨Z,?_⟩;rcases I with I|⟨g,Jb,Ja,rfl,g3,J,U⟩;exact .inl I;refine .inr ⟨g,Jb,Ja,rfl,g3,?_,U⟩;rw[Below.heap_setCell _ _ _ g (λh=>by simp at h;omega)];exact J
def ko.cut(h:ko B w v (bs++[b])):∃g cap,v=rV g (bs.length+1) cap/\B<=g/\bs.length+1<=cap/\cap<=maxLen/\w.cell? ⟨g,bs.length,none⟩=some (.map (some b))/\ko B w (rV g bs.length cap) bs:=by
 have h0:=h;obtain⟨g1,g2⟩:=h;rcases g2 with⟨_,hz⟩|⟨g,cap,Ja,rfl,Z,g4,J,I,g7,U⟩;simp at hz;simp only[l_a,l_c,l_n,Nat.zero_add,Nat.mul_one,map_append,map_cons,map_nil]at g1 J g7 U;refine⟨g,cap,i_,Z,J,I,?_,i_,.inr ⟨g,cap,Ja,rfl,Z,g4,o_,I,o_,?_⟩⟩
 have:=ownsRow.cellAt h0 bs.length i_
 rw[this];simp;rw[Nat.mul_one];have e:Ja.toList.take bs.length=(Ja.toList.take (bs.length+1)).take bs.length:=(by rw[take_take];congr 1;omega);rw[e,U];simp
def wS(u:FrameMode)(C B b:Nat)(bs:List Nat)(v:BY)(w:AT)(Z:C<B)(hc:DO w C 0 v)(hf:D4 w C 0)(hR:ko B w v (bs++[b]))(hl:bs.length<=1000000):
  CallsD prog 115 #[pV C] u w λe u' w'=>u'=u/\(∃u,e=rW u)/\∃v',w'=(w.setCell ⟨C,0,none⟩ v').drew/\ko B w' v' bs/\v'.ownBlock=v.ownBlock:=by
 obtain⟨g,Ja,rfl,hg,h1,h2,h3,h4⟩:=hR.cut;have J:=ah h4;have Jb:∀W:AT,(Instr.slice 115 (rV g (bs.length+1) Ja) none (some (V (bs.length:Int))) none).run prog W=.ok (rV g bs.length Ja) W:=by intro W;have I:prog.elem 115=67:=k_;have U:(sizeOf 67).run prog W=.ok 1 W:=k_;rw[run_slice_h W 115 (some ⟨g,0,none⟩) (bs.length+1) Ja (by rw[I];exact underlying115) .i64 _ o_ o_,I,U];simp[Result.andThen,sliced,Addr.add]
 go_enter_d func115,ntmps115;go_wp2_with fail;go_region;go_wp2_with fail;go_end0;exact⟨⟨_,rfl⟩,_,rfl,J.o.other Z |>.below (r_.drew),rfl⟩
def yK(C B b nn:Nat)(bs:List Nat)(v:BY)(D:DataW Unit)(f:Io->Option Int)(s:Io)(z:Int)(w:AT)(hc:DO w C 0 v)(hR:ko B w v (bs++[b]))(hl:bs.length<=1000000)(Jh:C≠b)(Je:∀x,v.ownBlock=some x->x≠b)
    (Ja:w.ownsMap prog 9 (plainElem (H:=Unit) prog 2) b nn D) (hM:dZ D f) (hn:nn<1000000000) (hs:s.size<=maxLen) (hz:(Lit.int .i64 z).wf=true):
    Calls prog 87 #[pV C,sV s,V z] w λe w'=>(∃u,e=rW u)/\∃D',w'.ownsMap prog 9 (plainElem (H:=Unit) prog 2) b (nn+1) D'/\dZ D' (mW f s z)/\w.drew.grownBy w' (some b):=by
  obtain⟨g,Jg,rfl,hg,Z,h2,h3,-⟩:=hR.cut;have Jf:g≠b:=Je g rfl;have J:Hid (w.drew.ownsMap prog 9 (plainElem (H:=Unit) prog 2) b nn D):=Ja;have HM:Hid (dZ D f):=hM;have HS:Hid (s.size<=maxLen):=hs;have HW:Hid ((Lit.int .i64 z).wf=true):=hz;generalize bs.length=m at hc Z h3 hl⊢;have⟨w',Jc,U,I⟩:=J.o.update (Maps.string_keyed underlying9) underlying67 (by unfold maxLen;omega) (WideMaps.keyOf_string_mk underlying9 HS) (plainElem_int underlying2 HW);have Jb:Hid (w'.ownsMap prog 9 (plainElem (H:=Unit) prog 2) b (nn+1) (D.put (kS s) (.lit (.int .i64 z)))):=U;have Jd:Hid (w.drew.grownBy w' (some b)):=I;go_in;go_wp2_with fail;go_region;go_wp2_with fail;go_end0;exact⟨⟨_,rfl⟩,_,Jb,HM.o.put s z,Jd⟩
def aR{k:JZ}{R:BY->Option (DataW Unit×List MemPlace)}{n:Nat}{D:DataW Unit}(h:w.ownsMap prog k R b n D)(hb:w'.heap[b]? =w.heap[b]?):w'.ownsMap prog k R b n D:=by obtain⟨I,Ja,J,F,U,Z⟩:=h;exact⟨I,Ja,hb.trans J,F,U,Z⟩
def Cn:(prog.info? 67).map (λi=>(i.zero,i.size,i.bytes))=some (some (.map none),1,8):=by kernel_rfl
def ko.shape(h:ko B w v bs):∃a c,v=.slice a bs.length c:=by rcases h.2 with⟨rfl,I⟩|⟨g,Ja,Jb,rfl,_⟩;exact⟨none,0,by rw[I]⟩;exact⟨_,Ja,rfl⟩
def uq(C B:Nat)(bs:List Nat)(v:BY)(w:AT)(hC:C<B)(Jo:B<=w.heap.size)(hc:DO w C 0 v)(hf:D4 w C 0)(hR:ko B w v bs)(hl:bs.length<=1000000):
  Calls prog 85 #[pV C] w λe w'=>(∃u,e=rW u)/\∃(v':BY) (w1:AT),w'=w1.setCell ⟨C,0,none⟩ v'/\ko B w' v' (bs++[w.heap.size])/\w'.ownsMap prog 9 (plainElem (H:=Unit) prog 2) w.heap.size 0 (.map [])/\w.grownBy w1 v.ownBlock/\(∀k,v'.ownBlock=some k->v.ownBlock=some k\/w.heap.size<k):=by
 have Z:Hid (ko B w v bs):=hR;obtain⟨a,c,rfl⟩:=hR.shape;have Jn:= @run_makeMap prog;have⟨i0,hi,Jh,Ji,Jj⟩:=info_parts Cn;have Jl:Hid (ko B ((w.alloc (.map #[] 0)).alloc (.cells #[.map (some w.heap.size)] 67)) (.slice a bs.length c) bs):=Z.o.below ((ao _ _).alloc i_ _);go_in;go_wp2_with(at_builtin;refine cQ rfl _ _ _ rfl B 67 i0 _ 1 8 underlying115 hi Jh Ji Jj rfl d_ _ bs.length (bs.map (λb=>Value.map (some b))) rfl Jl ⟨w.heap.size+1,0,none⟩ 1 1 [.map (some w.heap.size)] rfl rfl (by simpa using cell_one_new (w.alloc (.map #[] 0)) (.map (some w.heap.size)) 67) (by simp[oneCell']) o_ d_ H6 ?_);intro I w1 Jk Jf Jm;have Jg:C<w.heap.size:=o_;have J:Bl w ((w.alloc (.map #[] 0)).alloc (.cells #[.map (some w.heap.size)] 67)):=(ao _ _).alloc i_ _;have Jc:∀k,(Value.slice a bs.length c).ownBlock=some k->B<=k/\k<w.heap.size:=λk hk=>ownsRow.lt Z k hk;have Je:some C≠(Value.slice a bs.length c).ownBlock:=λh=>by have:=(Jc C h.symm).1;omega
 have Jd:Hid (ko B w1 I (bs++[w.heap.size])):=by show ko B w1 I _;unfold ko;rw[l_a,map_append];exact Jk
 have Ja:=Jf.block;have y0:DO w1 C 0 (.slice a bs.length c):=(c_ (a:=⟨C,0,none⟩) ((Ja C H6 Je).trans (J.block C Jg))).trans hc;have y1:D4 w1 C 0:=(frozen?_of_block (a:=⟨C,0,none⟩) ((Ja C H6 Je).trans (J.block C Jg))).trans hf;have HM:Hid (∀u,(w1.setCell ⟨C,0,none⟩ u).ownsMap prog 9 (plainElem (H:=Unit) prog 2) w.heap.size 0 (.map [])):=λu=>by refine aR (ownsMap_made w prog 9 _) ?_;rw[Below.heap_setCell _ _ _ w.heap.size (λh=>by simp at h;omega),Ja w.heap.size H6 (λh=>by have:=(Jc _ h.symm).2;omega)];exact(((Below.refl (w.heap.size+1) (w.alloc (.map #[] 0))).alloc i_ _).block w.heap.size o_)
 have HG:Hid (w.grownBy w1 (Value.slice a bs.length c).ownBlock):=by obtain⟨q1,q2,q3,q4,q5⟩:=Jf;exact⟨q1,q2,q3,by simp at q4;omega,λk hk hne=>(q5 k H6 hne).trans (J.block k hk)⟩
 have U:Hid (∀k,I.ownBlock=some k->(Value.slice a bs.length c).ownBlock=some k\/w.heap.size<k):=λk hk=>by rcases Jm k hk with h|h;exact .inl h;exact .inr (by(try simp at h);omega)
 obtain⟨a1,c1,rfl⟩:=Jd.o.shape;have Jb:(bs++[w.heap.size]).length=bs.length+1:=i_;rw[Jb]at Jd U;rw[Jb];go_wp2_with fail;go_end0;exact⟨⟨_,rfl⟩,_,w1,rfl,Jd.o.other hC,HM _,HG,U⟩
end
section
open Go.Value Go.Shelf
section
attribute [local go_sem] Oper.semAt_some
variable{g Bs:Nat}
abbrev Ix(bs:List Nat):= {q:Nat // q<bs.length}
def bk(bs:List Nat)(k:Nat):List (Ix bs):=(List.range k).filterMap (λj=>if h:bs.length-1-j<bs.length then some ⟨bs.length-1-j,h⟩else none)
def yL(bs:List Nat)(k:Nat)(h:bs.length-1-k<bs.length):bk bs (k+1)=bk bs k++[⟨bs.length-1-k,h⟩]:=by simp[bk,range_succ,filterMap_append,h]
def zZ(bs:List Nat)(k:Nat):(bk bs k).length<=k:=by
 have:=length_filterMap_le (λj=>if h:bs.length-1-j<bs.length then some (⟨bs.length-1-j,h⟩:Ix bs)else none) (List.range k)
 simpa[bk]using this
def yM(g Bs:Nat)(W W':AT):Prop:=W'.heap[g]? =W.heap[g]? /\ W'.heap[Bs]? =W.heap[Bs]?
def yM.refl(g Bs:Nat)(W:AT):yM g Bs W W:=⟨rfl,rfl⟩
def yM.trans{A B C:AT}(h:yM g Bs A B)(k:yM g Bs B C):yM g Bs A C:=⟨k.1.trans h.1,k.2.trans h.2⟩
def yM.put{w:AT}(hg:g<w.heap.size)(hB:Bs<w.heap.size)(W:AT)(l:Nat)(o o':Obj)(hl:w.heap.size<=l)(h1:W.heap[l]? =some o)(h2:o.isCells=false)(h3:o.isWalk=false):yM g Bs W (W.putObj l o'):=
 ⟨putObj_heap_other o_,putObj_heap_other o_⟩
def Co(F:Fence)(n:Nat)(Jk:F.fn 178)(Jl:F.round=none)(hn:1<=n)(l I g cap:Nat)(bs:List Nat)(Jn:bs.length<=1000000)(Jm:bs.length<=cap)(J Jx:List (Ix bs)->AT->Prop)
  (hY:∀pre (x:Ix bs) W,J pre W->pre.length<bs.length->YieldAt F (n-1) prog l #[V (x.1:Int),.map (some (bs[x.1]?.getD 0))] W λe W'=>(e=rW (.bool true)/\J (pre++[x]) W'/\yM g I W W')\/(e=rW (.bool false)/\Jx (pre++[x]) W'))
  (W:AT) (Jo:DO W I 0 (rV g bs.length cap)) (hc:∀j,j<bs.length->DO W g j (.map (some (bs[j]?.getD 0)))) (h0:J [] W):
  CallsIn F n prog 178 #[.func (.yield l) #[] #[],pV I] W λe W'=>(∃v,e=rW v) /\
   ((∃ys,ys=bk bs bs.length/\J ys W')\/∃pre,(∃k,k<=bs.length/\pre=bk bs k)/\Jx pre W'):=by
 refine callsIn_of_wp func178 rfl Jk ?_ Jl;simp only[ntmps178,size_toArray,l_c,l_n,Nat.reduceAdd,Nat.reduceSub,Array.replicate_succ,Array.replicate_zero,push_toArray,append_toArray,nil_append,cons_append];gi_wp2
 gi_loopw [3] (λi wr=>∃k:Nat,k<=bs.length/\i=V ((bs.length:Int)-1-k)/\J (bk bs k) wr/\yM g I W wr)
  (λi _=>((RowKit.intOf i)+1).toNat)
 case atStart=>exact⟨0,y_,i_,h0,yM.refl _ _ _⟩
 case round=>
  obtain⟨k,hk,rfl,Je,Jb⟩:=hrel;by_cases hlt:k<bs.length
  ·have Jd:bs.length-1-k<bs.length:=o_
   have Jf:=ah (yL bs k Jd);obtain⟨q,U⟩:∃q:Nat,q=bs.length-1-k:=⟨_,rfl⟩;have Jg:(bs.length:Int)-1-k=(q:Int):=o_;have Jc:q<bs.length:=o_;have HS:Hid (bk bs (k+1)=bk bs k++[⟨q,Jc⟩]):=(by subst U;exact Jf);rw[Jg];have Jh:=(c_ (a:=⟨g,q,none⟩) Jb.1).trans (hc q Jc);have Jp:=(c_ (a:=⟨I,0,none⟩) Jb.2).trans Jo;have⟨fn,Jj,Ja,Ji,Z,hR⟩:=hY _ ⟨q,Jc⟩ wr Je (Ka (zZ bs k));have HQ:Hid ((q:Int)-1=(bs.length:Int)-1-((k+1:Nat):Int)):=(by show _=_;omega);dsimp only at Z;clear U Jg Jf Jd;generalize bs[q]?.getD 0=bq at Jh Z;gi_wp2;refine hR.mono ?_;rintro e W3 (⟨rfl,hJ3,hk3⟩|⟨rfl,hJx3⟩)
   ·gi_wp2
    go_roundw
    case rel=>exact⟨k+1,o_,by rw[<-HQ.o],by rw[HS.o];exact hJ3,Jb.trans hk3⟩
    case measure=>simp[RowKit.intOf]
   gi_wp2
   refine bodyPost_ret (results_none rfl _ _ _) rfl ?_;exact⟨⟨_,rfl⟩,.inr ⟨_,⟨k+1,o_,rfl⟩,by rw[HS.o];exact hJx3⟩⟩
  obtain rfl:k=bs.length:=(by omega);rw[show(bs.length:Int)-1-(bs.length:Nat)= -1 by omega];gi_wp2
  go_end0
  exact⟨⟨_,rfl⟩,.inl ⟨_,rfl,Je⟩⟩
def EM(F:Fence)(n:Nat)(Ja:F.fn 176)(Jb:F.round=none)(a:Option Addr)(len cap:Nat)(w:AT):
  CallsIn F n prog 176 #[.slice a len cap] w λe w'=>e=rW (.func (.func 178) #[] #[pV w.heap.size])/\w'=w.alloc (.cells #[.slice a len cap] 115):=by
 refine callsIn_of_wp func176 rfl Ja ?_ Jb;simp only[ntmps176,size_toArray,l_c,l_n,Nat.reduceAdd,Nat.reduceSub,Array.replicate_succ,Array.replicate_zero,push_toArray,append_toArray,nil_append,cons_append];gi_wp2;go_ret;exact⟨rfl,rfl⟩
def wT(F:Fence)(n:Nat)(hFn:F.fn 178)(hro:F.round=none)(hn:1<=n)(Bs g cap:Nat)(bs:List Nat)(hlen:bs.length<=1000000)(hcap:bs.length<=cap)(w:AT)(hg:g<w.heap.size)(hB:Bs<w.heap.size)
  (hBs:DO w Bs 0 (rV g bs.length cap)) (hc:∀j,j<bs.length->DO w g j (.map (some (bs[j]?.getD 0)))):
  SeqStopsK F n prog 178 #[pV Bs] (λx:Ix bs=>#[Value.int .i64 (x.1:Int),Value.map (some (bs[x.1]?.getD 0))]) (yM g Bs) (λys=>ys=bk bs bs.length) (λpre=>∃k,k<=bs.length/\pre=bk bs k) bs.length w:=λl J Jx W hW _ _ hY h0=>
 Co F n hFn hro hn l Bs g cap bs hlen hcap J Jx hY W ((hW.cell (p:=⟨Bs,0,none⟩) hB).trans hBs) (λj hj=>(hW.cell (p:=⟨g,j,none⟩) hg).trans (hc j hj)) h0
end
section
attribute [local go_sem] Oper.semAt_some
variable{s:Io}
def qU{W:AT}{a b:Addr}{u v x y:BY}(I:W.cell? a=some x)(J:W.cell? b=some y)(Ja:a≠b):((W.setCell a u).setCell b v).cell? a=some u/\((W.setCell a u).setCell b v).cell? b=some v:=by
 constructor;rw[s_ _ _ _ _ (by first|exact Ja|exact λh=>Ja h.symm)];exact cell?_setCell_same _ _ _ I;have h:(W.setCell a u).cell? b=some y:=by rw[s_ _ _ _ _ (by first|exact Ja|exact λh=>Ja h.symm)];exact J
 exact cell?_setCell_same _ _ _ h
def Cp(bs:List Nat)(k j:Nat)(I:j<bs.length)(h:bs.length-1-j<k):(⟨j,I⟩:Ix bs)∈bk bs k:=by unfold bk;rw[mem_filterMap];refine⟨bs.length-1-j,mem_range.2 h,?_⟩;have e:bs.length-1-(bs.length-1-j)=j:=o_;rw[dif_pos o_];simp[e]
theorem EN(F:Fence)(n:Nat)(Jw:F.fn 169)(Jy:F.fn 176)(Jt:F.fn 178)(Jj:F.round=none)(hn:3<=n)
  (C g cap:Nat) (bs:List Nat) (U:Nat->Io->Option Int) (s:Io) (w:AT) (Jn:bs.length<=1000000) (Jm:bs.length<=cap) (hs:s.size<=maxLen)
  (hc:w.cell? ⟨C,0,none⟩=some (rV g bs.length cap)) (I:g<w.heap.size) (Jx:∀j,j<bs.length->w.cell? ⟨g,j,none⟩=some (.map (some (bs[j]?.getD 0))))
  (hM:∀j,j<bs.length->∃nn D,w.ownsMap prog 9 (plainElem (H:=Unit) prog 2) (bs[j]?.getD 0) nn D/\dZ D (U j)):
  CallsIn F n prog 169 #[pV C,sV s] w λe W'=>((e=rW (.tuple #[V 0,.bool false])/\∀j,j<bs.length->U j s=none)\/(∃(q:Nat) (z:Int),q<bs.length/\e=rW (.tuple #[V z,.bool true])/\U q s=some z/\∀j,q<j->j<bs.length->U j s=none))/\Bl w W':=by
 have h1:1<=n:=o_;have Jv:C<w.heap.size:=b_ hc;have hA:Bl w (((w.alloc (.cells #[sV s] 9)).alloc (.cells #[V 0] 2)).alloc (.cells #[.bool false] 4)):=((ao _ _).alloc i_ _).alloc H6 _;have Jz:=(hA.cell (p:=⟨C,0,none⟩) Jv).trans hc;refine callsIn_of_wp_marks func169 rfl Jw ?_ Jj;simp only[ntmps169,size_toArray,l_c,l_n,Nat.reduceAdd,Nat.reduceSub,Array.replicate_succ,Array.replicate_zero,push_toArray,append_toArray,nil_append,cons_append];gi_wp2_with (gi_at_call 176;refine(EM F (n-1) Jy Jj _ _ _ _).mono ?_;rintro e w' ⟨rfl,rfl⟩);have⟨S,hS⟩:=q_ w.heap.size;have bS:=((Boxed.new w 9 (sV s)).alloc (.cells #[V 0] 2)).alloc (.cells #[.bool false] 4) |>.alloc (.cells #[rV g bs.length cap] 115);have bZ:=((Boxed.new (w.alloc (.cells #[sV s] 9)) 2 (V 0)).alloc (.cells #[.bool false] 4)).alloc (.cells #[rV g bs.length cap] 115);have bT:=(Boxed.new ((w.alloc (.cells #[sV s] 9)).alloc (.cells #[V 0] 2)) 4 (.bool false)).alloc (.cells #[rV g bs.length cap] 115);have bN:=Boxed.new (((w.alloc (.cells #[sV s] 9)).alloc (.cells #[V 0] 2)).alloc (.cells #[.bool false] 4)) 115 (rV g bs.length cap);simp only[Bl,J9]at bZ bT bN;have Jr:Bl w ((((w.alloc (.cells #[sV s] 9)).alloc (.cells #[V 0] 2)).alloc (.cells #[.bool false] 4)).alloc (.cells #[rV g bs.length cap] 115)):=hA.alloc H6 _;have Jd:((((w.alloc (.cells #[sV s] 9)).alloc (.cells #[V 0] 2)).alloc (.cells #[.bool false] 4)).alloc (.cells #[rV g bs.length cap] 115)).heap.size=w.heap.size+1+1+1+1:=i_;refine wpIn_rangeFunc_ownG Jj h1 (gf:=178) (lb:=#[.pointer (some ⟨w.heap.size+1+1+1,0,none⟩)]) rfl Jt (enters_of func178 k_ rfl)
  (wT F (n-1) Jt Jj o_ (w.heap.size+1+1+1) g cap bs Jn Jm _ (by rw[Jd];omega) (by rw[Jd];omega) bN.cell (λj hj=>(Jr.cell (p:=⟨g,j,none⟩) I).trans (Jx j hj))) yM.trans (yM.put (by rw[Jd];omega) (by rw[Jd];omega)) r_ (λ_=>rfl)
  (λJc W=>((∀p∈Jc,U p.1 s=none)/\W.cell? ⟨w.heap.size,0,none⟩=some (sV s)/\(W.cell? ⟨w.heap.size+1,0,none⟩=some (V 0)/\W.frozen? ⟨w.heap.size+1,0,none⟩=false)/\W.cell? ⟨w.heap.size+1+1,0,none⟩=some (.bool false)/\W.frozen? ⟨w.heap.size+1+1,0,none⟩=false)/\Bl w W)
  (λc Jc W=>(c=.ret/\∃Jf Ja z,Jc=Jf++[Ja]/\(∀p∈Jf,U p.1 s=none)/\U Ja.1 s=some z/\W.cell? ⟨w.heap.size+1,0,none⟩=some (V z)/\W.cell? ⟨w.heap.size+1+1,0,none⟩=some (.bool true))/\Bl w W)
  (OwnFrom.and (Own.from (λq A B row hq I hr=>⟨hq.1,cell_kept hq.2.1 I hr,⟨cell_kept hq.2.2.1.1 I hr,(frozen_kept hq.2.2.1.1 I hr).trans hq.2.2.1.2⟩,cell_kept hq.2.2.2.1 I hr,(frozen_kept hq.2.2.2.1 I hr).trans hq.2.2.2.2⟩) _) (ownFrom_below n_ (by rw[Jd];omega)))
  (λc=>OwnFrom.and (Own.from (λq A B row hq I hr=>by obtain⟨hc,Jf,Ja,z,e1,e2,e3,e4,e5⟩:=hq;exact⟨hc,Jf,Ja,z,e1,e2,e3,cell_kept e4 I hr,cell_kept e5 I hr⟩) _) (ownFrom_below n_ (by rw[Jd];omega)))
  ⟨⟨i_,bS.cell,⟨bZ.cell,bZ.frozen⟩,bT.cell,bT.frozen⟩,Jr⟩
  (λx=> {tmps:=#[pV C,sV s,undef,pV w.heap.size,.pointer (some ⟨w.heap.size+1,0,none⟩),.pointer (some ⟨w.heap.size+1+1,0,none⟩),undef,.map (some (bs[x.1]?.getD 0)),pV C,pV C,pV C,rV g bs.length cap,.func (.func 178) #[] #[.pointer (some ⟨w.heap.size+1+1+1,0,none⟩)],V (x.1:Int),.map (some (bs[x.1]?.getD 0)),undef,undef,undef,undef,undef,undef,undef,undef],defers:=[]}) ?assign ?body ?done ?stop
 case assign=>intro l x W K J;gi_wp2;exact J
 case body=>
  rintro l Jc x W ⟨⟨hp,Jh,⟨hz,Js⟩,ht,Jq⟩,hB⟩ _;have⟨nn,D,Je,Jp⟩:=hM x.1 x.2;have Jb:=aR (w':=W) Je (hB.block _ Je.lt);cases hv:U x.1 s with
  | none=>
   have Jg:=ui Jb Jp hs hv;gi_wp2;refine⟨((KeepsOthers.setCell _ _ _).trans (KeepsOthers.setCell _ _ _)).from _,⟨?_,?_⟩,⟨λp hp'=>(J5.1 hp').elim (hp p) (λe=>by simp at e;subst e;exact hv),?_,⟨?_,?_⟩,?_,?_⟩,(hB.setCell (p:=⟨w.heap.size+1,0,none⟩) i_ _).setCell (p:=⟨w.heap.size+1+1,0,none⟩) H6 _⟩;rw[Below.heap_setCell _ _ _ _ H6,Below.heap_setCell _ _ _ _ H6];rw[Below.heap_setCell _ _ _ _ (by show w.heap.size+1+1+1≠w.heap.size+1+1;omega),Below.heap_setCell _ _ _ _ (by show w.heap.size+1+1+1≠w.heap.size+1;omega)]
   all_goals (first|(go_simp;done)|(simp[Jh,hz,Js,ht,Jq];done)|skip)
  | some z=>
   have Jg:=uh Jb Jp hs hv;gi_wp2;refine⟨((((KeepsOthers.setCell _ _ _).trans (KeepsOthers.setCell _ _ _)).trans (KeepsOthers.setCell _ _ _)).trans (KeepsOthers.setCell _ _ _)).from _,⟨rfl,Jc,x,z,rfl,hp,hv,?_,?_⟩,(((hB.setCell (p:=⟨w.heap.size+1,0,none⟩) i_ _).setCell (p:=⟨w.heap.size+1+1,0,none⟩) H6 _).setCell (p:=⟨w.heap.size+1,0,none⟩) i_ _).setCell (p:=⟨w.heap.size+1+1,0,none⟩) H6 _⟩;all_goals
    have Jo:(⟨w.heap.size+1,0,none⟩:Addr)≠⟨w.heap.size+1+1,0,none⟩:=i_;have⟨p1,p2⟩:=qU (u:=V z) (v:=.bool true) hz ht Jo;have⟨q1,q2⟩:=qU (u:=V z) (v:=.bool true) p1 p2 Jo;first|exact q1|exact q2
 case done=>
  rintro D ys W hD rfl ⟨⟨Ju,Jh,⟨hz,Js⟩,ht,Jq⟩,hB⟩ J;gi_wp2;have Ji:=(KeepsOthers.setCell (W.setCell ⟨w.heap.size+1,0,none⟩ (V 0)) ⟨w.heap.size+1+1,0,none⟩ (.bool false)).same D _ ((KeepsOthers.setCell W ⟨w.heap.size+1,0,none⟩ (V 0)).same D _ J rfl) rfl;refine⟨i_,.inl ⟨_,_,rfl,run_takeDeferred Ji,?_⟩⟩;have c1:((W.setCell ⟨w.heap.size+1,0,none⟩ (V 0)).setCell ⟨w.heap.size+1+1,0,none⟩ (.bool false)).cell? ⟨w.heap.size+1,0,none⟩=some (V 0):=by go_simp
  have c2:((W.setCell ⟨w.heap.size+1,0,none⟩ (V 0)).setCell ⟨w.heap.size+1+1,0,none⟩ (.bool false)).cell? ⟨w.heap.size+1+1,0,none⟩=some (.bool false):=by go_simp
  have Jk:=cell_kept c1 (grownBy_putObj' _ D (.deferred none)) (λr e=>by cases e;exact⟨_,Ji,rfl⟩);have Jl:=cell_kept c2 (grownBy_putObj' _ D (.deferred none)) (λr e=>by cases e;exact⟨_,Ji,rfl⟩);refine⟨.tuple #[V 0,.bool false],?_,.inl ⟨rfl,λj hj=>Ju ⟨j,hj⟩ (Cp bs bs.length j hj o_)⟩,((hB.setCell (p:=⟨w.heap.size+1,0,none⟩) i_ _).setCell (p:=⟨w.heap.size+1+1,0,none⟩) H6 _).trans (belowK_b (w:=w) n_ _ D _ _ (by simp at hD;omega) Ji rfl rfl)⟩;simp[results,results169,go_sem,Jk,Jl]
 case stop=>
  rintro D c Jc W hD ⟨k,hk,rfl⟩ ⟨⟨rfl,Jf,Ja,z,e1,e2,e3,hz,ht⟩,hB⟩ J;gi_wp2;refine⟨i_,.inl ⟨_,_,rfl,run_takeDeferred J,?_⟩⟩;have Jk:=cell_kept hz (grownBy_putObj' _ D (.deferred none)) (λr e=>by cases e;exact⟨_,J,rfl⟩);have Jl:=cell_kept ht (grownBy_putObj' _ D (.deferred none)) (λr e=>by cases e;exact⟨_,J,rfl⟩);refine⟨.tuple #[V z,.bool true],?_,.inr ⟨Ja.1,z,Ja.2,rfl,e3,λj h1 h2=>?_⟩,hB.trans (belowK_b (w:=w) n_ W D _ _ (by simp at hD;omega) J rfl rfl)⟩
  ·simp[results,results169,go_sem,Jk,Jl]
  obtain⟨Z,rfl⟩:∃Z,k=Z+1:=by
   cases k with
   | zero=>simp[bk]at e1
   | succ Z=>exact⟨Z,rfl⟩
  rw[yL bs Z o_]at e1;obtain⟨rfl,e5⟩:=append_inj' e1 rfl;have e6:Ja.1=bs.length-1-Z:=by
   have:=e5
   simp only[List.cons.injEq,and_true]at this;rw[<-this]
  exact e2 ⟨j,h2⟩ (Cp bs Z j h2 o_)
def Gh:Io->Option Int:=λ_=>none
theorem oW{I:List (Io->Option Int)}(h:∀j,j<I.length->(I.getD j Gh) s=none):findS I s=none:=by
 induction I with
 | nil=>rfl
 | cons f r ih=>have J:=h 0 i_;simp at J;simp only[findS];rw[ih (λj hj=>by have:=h (j+1) (IN hj);simpa using this),J];rfl
theorem z_{I:List (Io->Option Int)}{q:Nat}{z:Int}(J:q<I.length)(U:(I.getD q Gh) s=some z)(h:∀j,q<j->j<I.length->(I.getD j Gh) s=none):findS I s=some z:=by
 induction I generalizing q with
 | nil=>simp at J
 | cons f r ih=>
  simp only[findS];cases q with
  | zero=>rw[oW (λj hj=>by have:=h (j+1) o_ (IN hj);simpa using this)];simpa using U
  | succ q=>rw[ih (q:=q) (IN J) (IN U) (λj h1 h2=>by have:=h (j+1) o_ (IN h2);simpa using this)];rfl
theorem Aa(C B:Nat)(bs:List Nat)(I:List (Io->Option Int))(v:BY)(s:Io)(w:AT)(hl:I.length=bs.length)(Ja:bs.length<=1000000)(hp:0<bs.length)(hs:s.size<=maxLen)
  (hc:w.cell? ⟨C,0,none⟩=some v) (U:ko B w v bs) (hM:∀j,j<bs.length->∃nn D,w.ownsMap prog 9 (plainElem (H:=Unit) prog 2) (bs[j]?.getD 0) nn D/\dZ D (I.getD j Gh)):
  Calls prog 169 #[pV C,sV s] w λe w'=>e=rW (match findS I s with|none=>.tuple #[V 0,.bool false]|some z=>.tuple #[V z,.bool true])/\Bl w w':=by
 have Jc:=U;rcases U.2 with⟨_,hz⟩|⟨g,Jb,Je,rfl,Jf,hh,Jd,_⟩;omega;refine(callsIn_wide.1 (EN Fence.wide 3 trivial trivial trivial rfl n_ C g Jb bs (λj=>I.getD j Gh) s w Ja Jd hs hc (Array.getElem?_eq_some_iff.1 hh).1 (λj hj=>?_) hM)).mono ?_
 have:=ownsRow.cellAt Jc j (IN hj)
 rw[this];simp[hj];rintro e w' ⟨⟨rfl,h⟩|⟨q,z,hq,rfl,Z,h2⟩,J⟩;rw[oW (λj hj=>h j o_)];exact⟨rfl,J⟩;rw[z_ (q:=q) o_ Z (λj h3 h4=>h2 j h3 o_)];exact⟨rfl,J⟩
end
end
section
open Go.Value
def fR(e fn st:Int):BY:=if e=0 then .nilIface else .iface 149 (.agg #[V e,V fn,V st])
def dX(fn st:Int):fR 0 fn st=.nilIface:=rfl
def cE{e fn st:Int}(h:e≠0):fR e fn st=.iface 149 (.agg #[V e,V fn,V st]):=if_neg h
theorem Av(C bn nn:Nat)(D:DataW Unit)(t:Tr)(Ja:List Io)(vl Z st:Int)(nm:Io)(vf:BY)(w:AT)(h2:DO w C 2 vf)(h3:DO w C 3 (.map (some bn)))(h5:DO w C 5 (.int .i64 Z))(h6:DO w C 6 (.int .i64 st))
  (Jd:w.ownsMap prog 9 (plainElem (H:=Unit) prog 2) bn nn D) (hN:dj D t.fc) (Ji:t.fc.length<=1048576) (hf:bj w vf t.fc) (hs:nm.size<=maxLen):
  Calls prog 168 #[pV C,.agg #[V 4,V vl,sV nm]] w λe w'=>e=rW (fR (aO t Ja ⟨4,vl,nm⟩) Z st)/\Bl w w':=by
 obtain⟨af,cf,rfl,-,-,Jb⟩:=hf;have Jg:=ah Jb;have Je:C<w.heap.size:=b_ h2;have I:Bl w (w.alloc (.cells #[V 4,V vl,sV nm] 81)).drew:=(ao _ _).drew;have HM:=ah (eH Jd I);have HN:=ah hN;clear Jb Jd hN;cases hfn:a_ t.fc nm with
 | none=>have Jc:(Instr.lookup 67 (.map (some bn)) (sV nm) true).run prog (w.alloc (.cells #[V 4,V vl,sV nm] 81)).drew=_:=nC HM HN hs hfn;have J:Hid (aO t Ja ⟨4,vl,nm⟩=4):=kZ hfn;have c5:=(I.cell (p:=⟨C,5,none⟩) Je).trans h5;have c6:=(I.cell (p:=⟨C,6,none⟩) Je).trans h6;clear hfn;go_in;go_wp2_with fail;go_region;go_wp2_with fail;refine(dJ C 4 Z st _ c5 c6).mono ?_;rintro e w1 ⟨rfl,U⟩;rw[U];clear U;go_wp2;go_ret;exact⟨aD (by rw[J.o];rfl),I⟩
 | some i=>
  have hi:=dE hfn;have Jc:(Instr.lookup 67 (.map (some bn)) (sV nm) true).run prog (w.alloc (.cells #[V 4,V vl,sV nm] 81)).drew=_:=kY HM HN hs hfn;have J:Hid (aO t Ja ⟨4,vl,nm⟩=if ((t.fc[i].pm.length:Nat):Int)=vl then 0 else 6):=po hfn hi;obtain⟨bf,of,rfl,Jb⟩:=Jg o_;obtain⟨vp,vb,⟨f0,f1,f2⟩,⟨ap,cp,rfl,-⟩,-⟩:=Jb i hi;have Jh:bf<w.heap.size:=b_ f0;clear Jb f0 f2 hfn Jg;generalize t.fc[i].pm.length=np at J f1;by_cases hv:vl=(np:Int)
  ·have Jf:Hid (aO t Ja ⟨4,vl,nm⟩=0):=(by show _=_;rw[J.o,if_pos hv.symm]);clear J;subst hv;go_in;go_wp2_with fail;go_region;go_wp2_with fail;go_region;go_wp2;go_ret;exact⟨aD (by rw[Jf.o];rfl),I.drew⟩
  have Jf:Hid (aO t Ja ⟨4,vl,nm⟩=6):=(by show _=_;rw[J.o,if_neg (λh=>hv h.symm)]);have c5:=(I.drew.cell (p:=⟨C,5,none⟩) Je).trans h5;have c6:=(I.drew.cell (p:=⟨C,6,none⟩) Je).trans h6;clear J;go_in;go_wp2_with fail;go_region;go_wp2_with fail;go_region;go_wp2_with fail;refine(dJ C 6 Z st _ c5 c6).mono ?_;rintro e w1 ⟨rfl,U⟩;rw[U];clear U;go_wp2;go_ret;exact⟨aD (by rw[Jf.o];rfl),I.drew⟩
theorem Aw(C bn nn:Nat)(D:DataW Unit)(t:Tr)(I st:Int)(vf:BY)(w:AT)(h2:DO w C 2 vf)(h3:DO w C 3 (.map (some bn)))(h5:DO w C 5 (.int .i64 I))(h6:DO w C 6 (.int .i64 st))
  (Jb:w.ownsMap prog 9 (plainElem (H:=Unit) prog 2) bn nn D) (hN:dj D t.fc) (Je:t.fc.length<=1048576) (hf:bj w vf t.fc):
  Calls prog 61 #[pV C] w λe w'=>e=rW (fR (match a_ t.fc dt with|none=>3|some m=>if (t.fc.getD m ⟨⟨#[]⟩,[],[]⟩).pm.length>0 then 3 else 0) I st)/\Bl w w':=by
 obtain⟨af,cf,rfl,-,-,Jc⟩:=hf;have Z:dt.size<=maxLen:=by unfold maxLen;decide
 cases hfn:a_ t.fc dt with
 | none=>have Ja:(Instr.lookup 67 (.map (some bn)) (sV ⟨#[109,97,105,110]⟩) true).run prog w=_:=nC Jb hN Z hfn;go_in;go_wp2_with fail;refine(dJ C 3 I st _ h5 h6).mono ?_;rintro e w1 ⟨rfl,J⟩;rw[J];go_wp2;go_ret;exact⟨aD rfl,r_⟩
 | some i=>
  have hi:=dE hfn;have Ja:(Instr.lookup 67 (.map (some bn)) (sV ⟨#[109,97,105,110]⟩) true).run prog w=_:=kY Jb hN Z hfn;obtain⟨bf,of,rfl,Jd⟩:=Jc o_;obtain⟨vp,vb,⟨f0,f1,f2⟩,⟨ap,cp,rfl,-⟩,-⟩:=Jd i hi;have he:(t.fc.getD i ⟨⟨#[]⟩,[],[]⟩).pm.length=t.fc[i].pm.length:=by simp[List.getD,hi]
  simp only[he];generalize t.fc[i].pm.length=np at f1⊢;by_cases hv:0<np
  ·have U:Hid ((if np>0 then(3:Int)else 0)=3):=if_pos hv;go_in;go_wp2_with fail;refine(dJ C 3 I st _ h5 h6).mono ?_;rintro e w1 ⟨rfl,J⟩;rw[J];go_wp2;go_ret;exact⟨aD (by first|rfl|(rw[U.o];rfl)),r_⟩
  have U:Hid ((if np>0 then(3:Int)else 0)=0):=if_neg hv;obtain rfl:np=0:=o_;go_in;go_wp2;go_ret;exact⟨aD (by first|rfl|(rw[U.o];rfl)),r_⟩
def qr(o:Option Int)(arr:Bool):Int:=match o with|none=>4|some z=>if decide (z>0)=arr then 0 else 5
theorem CH(C B:Nat)(bs:List Nat)(fl:List (Io->Option Int))(v:BY)(s:Io)(Jd:Bool)(fn st:Int)(w:AT)(hl:fl.length=bs.length)(Je:bs.length<=1000000)(hp:0<bs.length)(hs:s.size<=maxLen)
  (hc:DO w C 0 v) (h5:DO w C 5 (V fn)) (h6:DO w C 6 (V st)) (hR:ko B w v bs) (hM:∀j,j<bs.length->∃nn D,w.ownsMap prog 9 (plainElem (H:=Unit) prog 2) (bs[j]?.getD 0) nn D/\dZ D (fl.getD j Gh)):
  Calls prog 151 #[pV C,sV s,.bool Jd] w λe w'=>e=rW (fR (qr (findS fl s) Jd) fn st)/\Bl w w':=by
 have Jc:C<w.heap.size:=b_ hc;have Jb:=ah (Aa C B bs fl v s w hl Je hp hs hc hR hM);cases hfi:findS fl s with
 | none=>rw[hfi]at Jb;go_in;go_wp2_with fail;refine Jb.o.mono ?_;rintro e w1 ⟨rfl,Ja⟩;have Z:=(Ja.cell (p:=⟨C,5,none⟩) Jc).trans h5;have U:=(Ja.cell (p:=⟨C,6,none⟩) Jc).trans h6;go_wp2_with fail;refine(dJ C 4 fn st _ Z U).mono ?_;rintro e w2 ⟨rfl,J⟩;rw[J];go_wp2;go_ret;exact⟨aD rfl,Ja⟩
 | some z=>
  rw[hfi]at Jb;by_cases hz:z>0
  ·cases Jd
   ·go_in;go_wp2_with fail;refine Jb.o.mono ?_;rintro e w1 ⟨rfl,Ja⟩;have Z:=(Ja.cell (p:=⟨C,5,none⟩) Jc).trans h5;have U:=(Ja.cell (p:=⟨C,6,none⟩) Jc).trans h6;have I:Hid (qr (some z) false=5):=(by show _=_;unfold qr;simp[hz]);go_wp2_with fail;refine(dJ C 5 fn st _ Z U).mono ?_;rintro e w2 ⟨rfl,J⟩;rw[J];go_wp2;go_ret;exact⟨aD (by rw[I.o];rfl),Ja⟩
   go_in;go_wp2_with fail;refine Jb.o.mono ?_;rintro e w1 ⟨rfl,Ja⟩;have I:Hid (qr (some z) true=0):=(by show _=_;unfold qr;simp[hz]);go_wp2;go_ret;exact⟨aD (by rw[I.o];rfl),Ja⟩
  cases Jd
  ·go_in;go_wp2_with fail;refine Jb.o.mono ?_;rintro e w1 ⟨rfl,Ja⟩;have I:Hid (qr (some z) false=0):=(by show _=_;unfold qr;simp[hz]);go_wp2;go_ret;exact⟨aD (by rw[I.o];rfl),Ja⟩
  go_in;go_wp2_with fail;refine Jb.o.mono ?_;rintro e w1 ⟨rfl,Ja⟩;have Z:=(Ja.cell (p:=⟨C,5,none⟩) Jc).trans h5;have U:=(Ja.cell (p:=⟨C,6,none⟩) Jc).trans h6;have I:Hid (qr (some z) true=5):=(by show _=_;unfold qr;simp[hz]);have Jg:z<=0:=o_;have Jf:decide (0<z)=false:=H6;have Jh:decide (z>0)=false:=H6;go_wp2_with fail;refine(dJ C 5 fn st _ Z U).mono ?_;rintro e w2 ⟨rfl,J⟩;rw[J];go_wp2;go_ret;exact⟨aD (by rw[I.o];rfl),Ja⟩
section
variable{w:AT}{C B bn nn:Nat}{D:DataW Unit}{t:Tr}{bsn:List (List Io)}{bs:List Nat}{v vf:BY}{fn st:Int}
structure Ck (w:AT) (C B bn nn:Nat) (D:DataW Unit) (t:Tr) (bsn:List (List Io)) (bs:List Nat) (v vf:BY) (fn st:Int):Prop where
 c0:w.cell? ⟨C,0,none⟩=some v
 c2:w.cell? ⟨C,2,none⟩=some vf
 c3:w.cell? ⟨C,3,none⟩=some (.map (some bn))
 c5:w.cell? ⟨C,5,none⟩=some (V fn)
 c6:w.cell? ⟨C,6,none⟩=some (V st)
 row:ko B w v bs
 len:(fM t.gl bsn).length=bs.length
 small:bs.length<=1000000
 maps:∀j,j<bs.length->∃nn D,w.ownsMap prog 9 (plainElem (H:=Unit) prog 2) (bs[j]?.getD 0) nn D/\dZ D ((fM t.gl bsn).getD j Gh)
 own:w.ownsMap prog 9 (plainElem (H:=Unit) prog 2) bn nn D
 num:dj D t.fc
 fc:bj w vf t.fc
def Ck.below{w':AT}(h:Ck w C B bn nn D t bsn bs v vf fn st)(I:Bl w w'):Ck w' C B bn nn D t bsn bs v vf fn st:=by have J:C<w.heap.size:=b_ h.c0;refine⟨(I.cell (p:=⟨C,0,none⟩) J).trans h.c0,(I.cell (p:=⟨C,2,none⟩) J).trans h.c2,(I.cell (p:=⟨C,3,none⟩) J).trans h.c3,(I.cell (p:=⟨C,5,none⟩) J).trans h.c5,(I.cell (p:=⟨C,6,none⟩) J).trans h.c6,h.row.below I,h.len,h.small,λj hj=>?_,eH h.own I,h.num,h.fc.below I⟩;have⟨nn,D,U,h2⟩:=h.maps j hj;exact⟨nn,D,eH U I,h2⟩
def G6{gs:List Gl}{bs:List (List Io)}{s:Io}{Ja:Bool}(h:∀g∈gs,0<=g.size):dU gs bs.flatten s Ja=qr (findS (fM gs bs) s) Ja:=by rw[zV h];rfl
def lh(h:Ck w C B bn nn D t bsn bs v vf fn st)(I:∀g∈t.gl,0<=g.size)(s:Io)(J:s.size<=maxLen)(Jb:Bool):
  Calls prog 151 #[pV C,sV s,.bool Jb] w λe w'=>e=rW (fR (dU t.gl bsn.flatten s Jb) fn st)/\Bl w w':=by
 have Ja:0<bs.length:=by rw[<-h.len];simp[fM]
 rw[G6 I];exact CH C B bs _ v s Jb fn st w h.len h.small Ja J h.c0 h.c5 h.c6 h.row h.maps
def Ax(h:Ck w C B bn nn D t bsn bs v vf fn st)(hp:∀g∈t.gl,0<=g.size)(Jc:t.fc.length<=1048576)(n:Nd)(hs:n.nm.size<=maxLen):
  Calls prog 150 #[pV C,.agg #[V n.kd,V n.val,sV n.nm]] w λe w'=>e=rW (fR (aO t bsn.flatten n) fn st)/\Bl w w':=by
 obtain⟨J,vl,nm⟩:=n;simp only at hs⊢;have hA:Bl w (w.alloc (.cells #[V J,V vl,sV nm] 81)):=ao _ _;have I:=ah (h.below hA);clear h;by_cases h2:J=2
 ·subst h2;have HE:Hid (aO t bsn.flatten ⟨2,vl,nm⟩=dU t.gl bsn.flatten nm false):=rfl;go_in;go_wp2_with fail;refine(lh I hp nm hs false).mono ?_;rintro e w1 ⟨rfl,Jb⟩;have Z:=hA.trans (Jb.mono i_);rw[<-HE.o];have⟨ev,Ja⟩:=q_ (fR (aO t bsn.flatten ⟨2,vl,nm⟩) fn st);rw[<-Ja];have U:=ah Ja;clear Ja;go_wp2;go_ret;exact⟨aD U,Z⟩
 by_cases h3:J=3
 ·subst h3;have HE:Hid (aO t bsn.flatten ⟨3,vl,nm⟩=dU t.gl bsn.flatten nm true):=rfl;go_in;go_wp2_with fail;refine(lh I hp nm hs true).mono ?_;rintro e w1 ⟨rfl,Jb⟩;have Z:=hA.trans (Jb.mono i_);rw[<-HE.o];have⟨ev,Ja⟩:=q_ (fR (aO t bsn.flatten ⟨3,vl,nm⟩) fn st);rw[<-Ja];have U:=ah Ja;clear Ja;go_wp2;go_ret;exact⟨aD U,Z⟩
 by_cases h4:J=4
 ·subst h4;go_in;go_wp2_with fail;refine(Av C bn nn D t bsn.flatten vl fn st nm vf _ I.o.c2 I.o.c3 I.o.c5 I.o.c6 I.o.own I.o.num Jc I.o.fc hs).mono ?_;rintro e w1 ⟨rfl,Jb⟩;have Z:=hA.trans (Jb.mono i_);have⟨ev,Ja⟩:=q_ (fR (aO t bsn.flatten ⟨4,vl,nm⟩) fn st);rw[<-Ja];have U:=ah Ja;clear Ja;go_wp2;go_ret;exact⟨aD U,Z⟩
 have HE:Hid (aO t bsn.flatten ⟨J,vl,nm⟩=0):=by show _=_;unfold aO;simp only;rw[if_neg o_,if_neg h4]
 have b2:(J == 2)=false:=IN h2;have b3:(J == 3)=false:=IN h3;have b4:(J == 4)=false:=IN h4;go_in;go_wp2;go_ret;exact⟨aD (by rw[HE.o];rfl),hA⟩
end
structure jw (w:AT) (C:Nat) (v vg vf:BY) (bn bt:Nat) (fn st:Int):Prop where
 c0:w.cell? ⟨C,0,none⟩=some v
 c1:w.cell? ⟨C,1,none⟩=some vg
 c2:w.cell? ⟨C,2,none⟩=some vf
 c3:w.cell? ⟨C,3,none⟩=some (.map (some bn))
 c4:w.cell? ⟨C,4,none⟩=some (.map (some bt))
 c5:w.cell? ⟨C,5,none⟩=some (V fn)
 c6:w.cell? ⟨C,6,none⟩=some (V st)
 fz:∀o,w.frozen? ⟨C,o,none⟩=false
def jw.keep{w w':AT}{C:Nat}{v vg vf:BY}{bn bt:Nat}{fn st:Int}(h:jw w C v vg vf bn bt fn st)(hb:w'.heap[C]? =w.heap[C]?):jw w' C v vg vf bn bt fn st:=
 ⟨(c_ (a:=⟨C,0,none⟩) hb).trans h.c0,(c_ (a:=⟨C,1,none⟩) hb).trans h.c1,(c_ (a:=⟨C,2,none⟩) hb).trans h.c2,(c_ (a:=⟨C,3,none⟩) hb).trans h.c3,(c_ (a:=⟨C,4,none⟩) hb).trans h.c4,(c_ (a:=⟨C,5,none⟩) hb).trans h.c5,(c_ (a:=⟨C,6,none⟩) hb).trans h.c6,λo=>(frozen?_of_block (a:=⟨C,o,none⟩) hb).trans (h.fz o)⟩
def jw.s0{w:AT}{C:Nat}{v vg vf:BY}{bn bt:Nat}{fn st:Int}(h:jw w C v vg vf bn bt fn st)(v':BY):jw (w.setCell ⟨C,0,none⟩ v') C v' vg vf bn bt fn st:=
 ⟨cell?_setCell_same _ _ _ h.c0,(s_ _ _ _ _ (bV d_)).trans h.c1,(s_ _ _ _ _ (bV d_)).trans h.c2,(s_ _ _ _ _ (bV d_)).trans h.c3,(s_ _ _ _ _ (bV d_)).trans h.c4,(s_ _ _ _ _ (bV d_)).trans h.c5,(s_ _ _ _ _ (bV d_)).trans h.c6,λo=>by simpa using h.fz o⟩
def jw.s4{w:AT}{C:Nat}{v vg vf:BY}{bn bt:Nat}{fn st:Int}(h:jw w C v vg vf bn bt fn st)(bt':Nat):jw (w.setCell ⟨C,4,none⟩ (.map (some bt'))) C v vg vf bn bt' fn st:=
 ⟨(s_ _ _ _ _ (bV d_)).trans h.c0,(s_ _ _ _ _ (bV d_)).trans h.c1,(s_ _ _ _ _ (bV d_)).trans h.c2,(s_ _ _ _ _ (bV d_)).trans h.c3,cell?_setCell_same _ _ _ h.c4,(s_ _ _ _ _ (bV d_)).trans h.c5,(s_ _ _ _ _ (bV d_)).trans h.c6,λo=>by simpa using h.fz o⟩
def jw.s5{w:AT}{C:Nat}{v vg vf:BY}{bn bt:Nat}{fn st:Int}(h:jw w C v vg vf bn bt fn st)(z:Int):jw (w.setCell ⟨C,5,none⟩ (V z)) C v vg vf bn bt z st:=
 ⟨(s_ _ _ _ _ (bV d_)).trans h.c0,(s_ _ _ _ _ (bV d_)).trans h.c1,(s_ _ _ _ _ (bV d_)).trans h.c2,(s_ _ _ _ _ (bV d_)).trans h.c3,(s_ _ _ _ _ (bV d_)).trans h.c4,cell?_setCell_same _ _ _ h.c5,(s_ _ _ _ _ (bV d_)).trans h.c6,λo=>by simpa using h.fz o⟩
def jw.s6{w:AT}{C:Nat}{v vg vf:BY}{bn bt:Nat}{fn st:Int}(h:jw w C v vg vf bn bt fn st)(z:Int):jw (w.setCell ⟨C,6,none⟩ (V z)) C v vg vf bn bt fn z:=
 ⟨(s_ _ _ _ _ (bV d_)).trans h.c0,(s_ _ _ _ _ (bV d_)).trans h.c1,(s_ _ _ _ _ (bV d_)).trans h.c2,(s_ _ _ _ _ (bV d_)).trans h.c3,(s_ _ _ _ _ (bV d_)).trans h.c4,(s_ _ _ _ _ (bV d_)).trans h.c5,cell?_setCell_same _ _ _ h.c6,λo=>by simpa using h.fz o⟩
structure nQ where
 w0:AT
 C:Nat
 bg:Nat
 bn:Nat
 nn:Nat
 D:DataW Unit
 t:Tr
 vg:BY
 vf:BY
 gf:Io->Option Int
 gp:Io->Bool
 ng:Nat
def ko.keep{B:Nat}{w w':AT}{v:BY}{bs:List Nat}(h:ko B w v bs)(hb:∀x,v.ownBlock=some x->w'.heap[x]? =w.heap[x]?):ko B w' v bs:=by obtain⟨Z,I⟩:=h;refine⟨Z,?_⟩;rcases I with I|⟨g,Jb,Ja,rfl,g3,J,U⟩;exact .inl I;refine .inr ⟨g,Jb,Ja,rfl,g3,?_,U⟩;rw[hb g rfl];exact J
structure Cs (E:nQ) (w:AT) (bsn:List (List Io)) (bi:List Nat) (v:BY) (bt:Nat) (tk:List Io) (fn st:Int):Prop where
 box:jw w E.C v E.vg E.vf E.bn bt fn st
 low:E.w0.heap.size<=E.C
 base:Below E.w0.heap.size E.w0 w
 fun0:bj E.w0 E.vf E.t.fc/\cD E.w0 E.vg E.t.gl
 row:ko (E.C+1) w v (E.bg::bi)
 len:bsn.length=bi.length
 small:bi.length<=900000
 glob:∃ng Dg,ng<=E.ng/\w.ownsMap prog 9 (plainElem (H:=Unit) prog 2) E.bg ng Dg/\dZ Dg E.gf
 maps:∀j,j<bi.length->∃n Dj,n<=(bsn.getD j []).length/\w.ownsMap prog 9 (plainElem (H:=Unit) prog 2) (bi.getD j 0) n Dj/\dZ Dj (km (bsn.getD j []))
 own:w.ownsMap prog 9 (plainElem (H:=Unit) prog 2) E.bn E.nn E.D
 num:dj E.D E.t.fc
 tak:∃nt Dt ft,nt<=tk.length+1000/\w.ownsMap prog 9 (plainElem (H:=Unit) prog 2) bt nt Dt/\dZ Dt ft/\∀s,(ft s).isSome=(dF tk s || E.gp s)
 nd:(E.bg::E.bn::bt::bi).Nodup
 gt:∀b∈E.bg::E.bn::bt::bi,E.C<b
 rown:∀x,v.ownBlock=some x->x∉E.bg::E.bn::bt::bi
def gA{I:List Nat}{j:Nat}(h:j<I.length):I.getD j 0∈I:=by
 have:I.getD j 0=I[j]:=by simp[List.getD,h]
 rw[this];exact g_ h
def Cs.keep{E:nQ}{w w':AT}{Ja:List (List Io)}{J:List Nat}{v:BY}{U:Nat}{tk:List Io}{Z st:Int}(h:Cs E w Ja J v U tk Z st)(hb:Below E.w0.heap.size E.w0 w')
  (hC:w'.heap[E.C]? =w.heap[E.C]?) (hr:∀x,v.ownBlock=some x->w'.heap[x]? =w.heap[x]?) (I:∀b∈E.bg::E.bn::U::J,w'.heap[b]? =w.heap[b]?):Cs E w' Ja J v U tk Z st:=by
 have⟨ng,Dg,g0,g1,g2⟩:=h.glob;have⟨nt,Dt,ft,t0,t1,t2⟩:=h.tak;refine⟨h.box.keep hC,h.low,hb,h.fun0,h.row.keep hr,h.len,h.small,⟨ng,Dg,g0,aR g1 (I _ i_),g2⟩,λj hj=>?_,aR h.own (I _ i_),h.num,⟨nt,Dt,ft,t0,aR t1 (I _ i_),t2⟩,h.nd,h.gt,h.rown⟩;have⟨n,Dj,m0,m1,m2⟩:=h.maps j hj;exact⟨n,Dj,m0,aR m1 (I _ (by have:=gA hj;simp only[mem_cons];exact .inr (.inr (.inr this)))),m2⟩
def Cs.ltC{E:nQ}{w:AT}{bsn:List (List Io)}{bi:List Nat}{v:BY}{bt:Nat}{tk:List Io}{fn st:Int}(h:Cs E w bsn bi v bt tk fn st):E.C<w.heap.size:=b_ h.box.c0
def Cs.lt{E:nQ}{w:AT}{Ja:List (List Io)}{J:List Nat}{v:BY}{U:Nat}{tk:List Io}{fn st:Int}(h:Cs E w Ja J v U tk fn st):∀b∈E.bg::E.bn::U::J,b<w.heap.size:=by
 intro b hb;simp only[mem_cons]at hb;rcases hb with rfl|rfl|rfl|hb
 have⟨ng,Dg,g0,Z,g2⟩:=h.glob;exact Z.lt
 exact h.own.lt
 have⟨nt,Dt,ft,t0,t1,t2⟩:=h.tak;exact t1.lt
 obtain⟨j,I,rfl⟩:=getElem_of_mem hb;have⟨n,Dj,m0,m1,m2⟩:=h.maps j I;have:=m1.lt;simpa[List.getD,I]using this
def Cs.rlt{E:nQ}{w:AT}{bsn:List (List Io)}{bi:List Nat}{v:BY}{bt:Nat}{tk:List Io}{fn st:Int}(h:Cs E w bsn bi v bt tk fn st):∀x,v.ownBlock=some x->E.C<x/\x<w.heap.size:=λx hx=>ownsRow.lt h.row x hx
def Cs.below{E:nQ}{w w':AT}{bsn:List (List Io)}{bi:List Nat}{v:BY}{bt:Nat}{tk:List Io}{fn st:Int}(h:Cs E w bsn bi v bt tk fn st)(hb:Bl w w'):Cs E w' bsn bi v bt tk fn st:=
 h.keep (h.base.trans (hb.mono h.base.size)) (hb.block _ h.ltC) (λx hx=>hb.block _ (h.rlt x hx).2) (λb hm=>hb.block _ (h.lt b hm))
def xw(Ja:List (List Io))(gs:List Gl)(j:Nat)(h:j<Ja.length):(fM gs Ja).getD (j+1) Gh=km (Ja.getD j []):=by simp[fM,List.getD,h]
theorem Cs.ck{E:nQ}{w:AT}{Jb:List (List Io)}{I:List Nat}{v:BY}{bt:Nat}{tk:List Io}{J st:Int}(h:Cs E w Jb I v bt tk J st)(Jc:E.gf=dz E.t.gl):Ck w E.C (E.C+1) E.bn E.nn E.D E.t Jb (E.bg::I) v E.vf J st:=by
 refine⟨h.box.c0,h.box.c2,h.box.c3,h.box.c5,h.box.c6,h.row,by simp[fM,h.len],by have:=h.small;simp;omega,λj hj=>?_,h.own,h.num,h.fun0.1.below h.base⟩;cases j with
 | zero=>have⟨ng,Dg,g0,Z,U⟩:=h.glob;exact⟨ng,Dg,IN Z,by simpa[fM,List.getD,<-Jc]using U⟩
 | succ j=>
  have Ja:j<I.length:=IN hj
  have⟨n,Dj,m0,m1,m2⟩:=h.maps j Ja;refine⟨n,Dj,by simpa[List.getD]using m1,?_⟩;rw[xw _ _ _ (by rw[h.len];exact Ja)];exact m2
def Cs.put{E:nQ}{w:AT}{Ja:List (List Io)}{U:List Nat}{v:BY}{J:Nat}{tk:List Io}{fn st Jb Jc:Int}(h:Cs E w Ja U v J tk fn st)(o:Nat)(u:BY)(hx:jw (w.setCell ⟨E.C,o,none⟩ u) E.C v E.vg E.vf E.bn J Jb Jc):Cs E (w.setCell ⟨E.C,o,none⟩ u) Ja U v J tk Jb Jc:=by have I:∀b,E.C<b->(w.setCell ⟨E.C,o,none⟩ u).heap[b]? =w.heap[b]? := λb hb=>Below.heap_setCell _ _ _ b (λe=>by simp at e;omega);have⟨ng,Dg,g0,g1,Z⟩:=h.glob;have⟨nt,Dt,ft,t0,t1,t2⟩:=h.tak;refine⟨hx,h.low,h.base.setCell (p:=⟨E.C,o,none⟩) h.low u,h.fun0,h.row.other o_,h.len,h.small,⟨ng,Dg,g0,aR g1 (I _ (h.gt _ i_)),Z⟩,λj hj=>?_,aR h.own (I _ (h.gt _ i_)),h.num,⟨nt,Dt,ft,t0,aR t1 (I _ (h.gt _ i_)),t2⟩,h.nd,h.gt,h.rown⟩;have⟨n,Dj,m0,m1,m2⟩:=h.maps j hj;exact⟨n,Dj,m0,aR m1 (I _ (h.gt _ (by have:=gA hj;simp only[mem_cons];exact .inr (.inr (.inr this))))),m2⟩
def Cs.stmt{E:nQ}{w:AT}{bsn:List (List Io)}{bi:List Nat}{v:BY}{bt:Nat}{tk:List Io}{fn st:Int}(h:Cs E w bsn bi v bt tk fn st)(z:Int):Cs E (w.setCell ⟨E.C,6,none⟩ (V z)) bsn bi v bt tk fn z:=h.put 6 _ (h.box.s6 z)
section
variable{α:Type}{E:nQ}{bt b:Nat}{bi:List Nat}{w:AT}{bsn:List (List Io)}{v:BY}{tk xs:List Io}{fn st:Int}{s:Io}
def cP(l:List α)(x d:α)(j:Nat)(h:j<l.length):(l++[x]).getD j d=l.getD j d:=by simp[List.getD,getElem?_append_left h]
def dQ(l:List α)(x d:α)(j:Nat)(h:j=l.length):(l++[x]).getD j d=x:=by subst h;simp[List.getD]
def mem3{x:Nat}(h:x∈bi):x∈E.bg::E.bn::bt::bi:=by simp[h]
def Sb(E:nQ)(v:BY)(bt:Nat):Ft:=λk=>k=E.C\/k=bt\/v.ownBlock=some k
def CZ(h:Cs E w bsn bi v bt tk fn st)(hs:bi.length<900000):
  Calls prog 85 #[pV E.C] w λe w'=>(∃u,e=rW u)/\∃v',Cs E w' (bsn++[[]]) (bi++[w.heap.size]) v' bt tk fn st/\aj (Sb E v bt) w w'/\(∀k,v'.ownBlock=some k->v.ownBlock=some k\/w.heap.size<=k):=by
 have U:=h.ltC;refine(uq E.C (E.C+1) (E.bg::bi) v w o_ U h.box.c0 (h.box.fz 0) h.row H6).mono ?_;rintro e w' ⟨he,v',w1,rfl,Jc,Jb,J,Ja⟩;have hm:∀b,b<w.heap.size->b≠E.C->some b≠v.ownBlock->(w1.setCell ⟨E.C,0,none⟩ v').heap[b]? =w.heap[b]? := λb hb hc hr=>(Below.heap_setCell _ _ _ b (λe=>hc e)).trans (J.block b hb hr);have I:∀b∈E.bg::E.bn::bt::bi,(w1.setCell ⟨E.C,0,none⟩ v').heap[b]? =w.heap[b]? := λb hb=>hm b (h.lt b hb) (Ka (h.gt b hb)) (λe=>h.rown b e.symm hb);have Jf:w1.heap[E.C]? =w.heap[E.C]? := J.block E.C U (λe=>by have:=(h.rlt _ e.symm).1;omega);have⟨ng,Dg,g0,g1,g2⟩:=h.glob;have⟨nt,Dt,Z,t0,t1,t2⟩:=h.tak;have Je:∀k,v.ownBlock=some k->E.w0.heap.size<=k:=λk I=>by have:=(h.rlt k I).1;have:=h.low;omega
 refine⟨he,v',⟨(h.box.keep Jf).s0 v',h.low,((h.base.grown J h.base.size Je).setCell (p:=⟨E.C,0,none⟩) h.low v'),h.fun0,Jc,by simp[h.len],by simp;omega,⟨ng,Dg,g0,aR g1 (I _ i_),g2⟩,λj hj=>?_,aR h.own (I _ i_),h.num,⟨nt,Dt,Z,t0,aR t1 (I _ i_),t2⟩,?_,?_,?_⟩,?_,?_⟩;simp only[l_a,l_c,l_n]at hj;by_cases hl:j<bi.length
 have⟨n,Dj,m0,m1,m2⟩:=h.maps j hl;refine⟨n,Dj,?_,?_,?_⟩
 rw[cP _ _ _ _ (by rw[h.len];exact hl)];exact m0;rw[cP _ _ _ _ hl];exact aR m1 (I _ (mem3 (gA hl)));rw[cP _ _ _ _ (by rw[h.len];exact hl)];exact m2;have Jd:j=bi.length:=o_;refine⟨0,.map [],y_,?_,?_⟩;rw[dQ _ _ _ _ Jd];exact Jb;rw[dQ _ _ _ _ (by rw[h.len];exact Jd),zU];exact dZ.nil;have e:E.bg::E.bn::bt::(bi++[w.heap.size])=(E.bg::E.bn::bt::bi)++[w.heap.size]:=i_;rw[e,nodup_append];refine⟨h.nd,i_,λa ha b hb=>?_⟩;simp only[J7]at hb;have:=h.lt a ha;omega;intro b hb;have e:E.bg::E.bn::bt::(bi++[w.heap.size])=(E.bg::E.bn::bt::bi)++[w.heap.size]:=i_;rw[e,J5]at hb;rcases hb with hb|hb;exact h.gt b hb;simp only[J7]at hb;omega
 ·intro x hx hb;have e:E.bg::E.bn::bt::(bi++[w.heap.size])=(E.bg::E.bn::bt::bi)++[w.heap.size]:=i_
  rw[e,J5,J7]at hb;rcases Ja x hx with h1|h1
  ·rcases hb with hb|hb
   ·exact h.rown x h1 hb
   have:=(h.rlt x h1).2;omega
  rcases hb with hb|hb
  have:=h.lt x hb;omega
  omega
 refine(aj.of_grown J (S:=Sb E v bt) (λk I=>.inr (.inr I))).setCell (p:=⟨E.C,0,none⟩) (.inl rfl) v';intro k I;rcases Ja k I with h1|h1;exact .inl h1;exact .inr o_
def kC(h:Cs E w (bsn++[xs]) (bi++[b]) v bt tk fn st)(u:FrameMode):
  CallsD prog 115 #[pV E.C] u w λe u' w'=>u'=u/\(∃u,e=rW u)/\∃v',Cs E w' bsn bi v' bt tk fn st/\aj (λk=>k=E.C) w w'/\v'.ownBlock=v.ownBlock:=by
 have hC:=h.ltC;have Je:=h.small;simp only[l_a,l_c,l_n]at Je;refine(wS u E.C (E.C+1) b (E.bg::bi) v w o_ h.box.c0 (h.box.fz 0) h.row H6).mono ?_;rintro e u' w' ⟨hu,he,v',rfl,Jd,Jb⟩;have I:∀b,E.C<b->(w.setCell ⟨E.C,0,none⟩ v').drew.heap[b]? =w.heap[b]? := λb hb=>Below.heap_setCell _ _ _ b (λe=>by simp at e;omega);have⟨ng,Dg,g0,g1,g2⟩:=h.glob;have⟨nt,Dt,ft,t0,t1,t2⟩:=h.tak;have Jc:bsn.length=bi.length:=by have:=h.len;simpa using this
 have Ja:∀x∈E.bg::E.bn::bt::bi,x∈E.bg::E.bn::bt::(bi++[b]):=λx hx=>by simp only[mem_cons,J5]at hx⊢;rcases hx with h1|h1|h1|h1;exact .inl h1;exact .inr (.inl h1);exact .inr (.inr (.inl h1));exact .inr (.inr (.inr (.inl h1)))
 refine⟨hu,he,v',⟨(h.box.s0 v').keep rfl,h.low,(h.base.setCell (p:=⟨E.C,0,none⟩) h.low v').drew,h.fun0,Jd,Jc,o_,⟨ng,Dg,g0,aR g1 (I _ (h.gt _ i_)),g2⟩,λj hj=>?_,aR h.own (I _ (h.gt _ i_)),h.num,⟨nt,Dt,ft,t0,aR t1 (I _ (h.gt _ i_)),t2⟩,?_,λx hx=>h.gt x (Ja x hx),λx hx hb=>h.rown x (Jb ▸ hx) (Ja x hb)⟩,((aj.refl (λk=>k=E.C) w).setCell (p:=⟨E.C,0,none⟩) rfl v').drew,Jb⟩
 have⟨n,Dj,U,Z,J⟩:=h.maps j H6;rw[cP _ _ _ _ o_]at U J;rw[cP _ _ _ _ hj]at Z;exact⟨n,Dj,U,aR Z (I _ (h.gt _ (Ja _ (mem3 (gA hj))))),J⟩
 have e:E.bg::E.bn::bt::(bi++[b])=(E.bg::E.bn::bt::bi)++[b]:=i_
 have:=h.nd
 rw[e,nodup_append]at this;exact this.1
def nU(h:Cs E w bsn bi v bt tk fn st)(hs:s.size<=maxLen)(hx:dF tk s=true\/E.gp s=true):
  Calls prog 86 #[pV E.C,sV s] w λev w'=>ev=rW (fR 2 fn st)/\w'=w:=by
 have⟨nt,Dt,I,t0,t1,U,Z⟩:=h.tak;have J:(I s).isSome=true:=by rw[Z];rcases hx with h1|h1;simp[h1];simp[h1]
 have⟨z,hz⟩:=Option.isSome_iff_exists.1 J;exact Cd E.C bt nt fn st Dt I s z w h.box.c4 h.box.c5 h.box.c6 t1 U hs hz
theorem nW(h:Cs E w bsn bi v bt tk fn st)(hs:s.size<=maxLen)(Jc:tk.length<=100000000)(J:¬(dF tk s=true\/E.gp s=true)):
  Calls prog 86 #[pV E.C,sV s] w λev w'=>ev=.returned .nilIface/\Cs E w' bsn bi v bt (tk++[s]) fn st/\aj (λk=>k=bt) w w':=by
 have⟨nt,Dt,U,t0,t1,t2,t3⟩:=h.tak;have hf:U s=none:=by
  have:=t3 s
  cases hfs:U s with
  | none=>rfl
  | some z=>rw[hfs]at this;have h2:(dF tk s || E.gp s)=true:=(by rw[<-this];rfl);rw[Bool.or_eq_true]at h2;exact(J h2).elim
 refine(Ce E.C bt nt Dt U s w h.box.c4 t1 t2 o_ hs hf).mono ?_;rintro ev w' ⟨rfl,D',d1,d2,Z⟩;have Ja:=h.nd;simp only[nodup_cons,mem_cons,not_or]at Ja;obtain⟨⟨n1,n2,n3⟩,⟨n4,n5⟩,n6,n7⟩:=Ja;have I:∀b,b<w.heap.size->b≠bt->w'.heap[b]? =w.heap[b]? := λb hb hc=>Z.block b hb (λe=>hc (IN e));have Jb:=h.gt bt i_;have⟨ng,Dg,g0,g1,g2⟩:=h.glob;refine⟨rfl,⟨h.box.keep (I _ h.ltC o_),h.low,h.base.grown Z h.base.size (λk hk=>by cases hk;have:=h.low;omega),h.fun0,h.row.keep (λx J=>I x (h.rlt x J).2 (λe=>h.rown x J (by simp[e]))),h.len,h.small,⟨ng,Dg,g0,aR g1 (I _ (h.lt _ i_) n2),g2⟩,λj hj=>?_,aR h.own (I _ (h.lt _ i_) n4),h.num,⟨nt+1,D',_,by simp;omega,d1,d2,λx=>?_⟩,h.nd,h.gt,h.rown⟩,aj.of_grown Z (λk hk=>by cases hk;rfl)⟩
 have⟨n,Dj,m0,m1,m2⟩:=h.maps j hj;refine⟨n,Dj,m0,aR m1 (I _ (h.lt _ (mem3 (gA hj))) (λe=>n6 (e ▸ gA hj))),m2⟩
 unfold mW;rw[kt];by_cases hsx:s=x
 have:dF [s] x=true:=wK (k:=0) i_ (IN hsx)
 simp[hsx,this];simp[hsx]at this;simp[this]
 have:dF [s] x=false:=rU (λj hj=>by simp at hj;subst hj;simpa using hsx)
 simp[hsx,this,t3 x]
def I_(h:Cs E w (bsn++[xs]) (bi++[b]) v bt tk fn st)(hs:s.size<=maxLen)(Jh:xs.length<=100000000):
  Calls prog 87 #[pV E.C,sV s,V 0] w λe w'=>(∃u,e=rW u)/\Cs E w' (bsn++[xs++[s]]) (bi++[b]) v bt tk fn st/\aj (λk=>k=b) w w':=by
 have Je:=h.small;simp only[l_a,l_c,l_n]at Je;have Ja:bsn.length=bi.length:=by have:=h.len;simpa using this
 have Jc:b∈E.bg::E.bn::bt::(bi++[b]):=i_;have⟨nb,Db,b0,b1,b2⟩:=h.maps bi.length i_;rw[dQ _ _ _ _ Ja.symm]at b0 b2;rw[dQ _ _ _ _ rfl]at b1;have Jg:=h.gt b Jc;refine(yK E.C (E.C+1) b nb (E.bg::bi) v Db _ s 0 w h.box.c0 h.row H6 o_ (λx hx e=>h.rown x hx (e ▸ Jc)) b1 b2 o_ hs d_).mono ?_;rintro e w' ⟨he,D',d1,d2,I⟩;have Jb:=h.nd;have e:E.bg::E.bn::bt::(bi++[b])=(E.bg::E.bn::bt::bi)++[b]:=i_;rw[e,nodup_append]at Jb;obtain⟨-,-,Jb⟩:=Jb;have J:∀k,k<w.heap.size->k≠b->w'.heap[k]? =w.heap[k]? := λk hk hc=>(I.block k hk (λe=>hc (IN e)));have Z:∀k∈E.bg::E.bn::bt::bi,k≠b:=λk hk=>Jb k hk b i_;have U:∀k∈E.bg::E.bn::bt::bi,k<w.heap.size:=λk hk=>h.lt k (by rw[e];exact mem_append_left _ hk);have⟨ng,Dg,g0,g1,g2⟩:=h.glob;have⟨nt,Dt,ft,t0,t1,t2⟩:=h.tak;have Jd:w.grownBy w' (some b):=⟨I.os,I.tape,I.output,I.size,I.block⟩;refine⟨he,⟨h.box.keep (J _ h.ltC o_),h.low,h.base.grown Jd h.base.size (λk hk=>by cases hk;have:=h.low;omega),h.fun0,h.row.keep (λx hx=>J x (h.rlt x hx).2 (λe=>h.rown x hx (e ▸ Jc))),by simp[Ja],h.small,⟨ng,Dg,g0,aR g1 (J _ (U _ i_) (Z _ i_)),g2⟩,λj hj=>?_,aR h.own (J _ (U _ i_) (Z _ i_)),h.num,⟨nt,Dt,ft,t0,aR t1 (J _ (U _ i_) (Z _ i_)),t2⟩,h.nd,h.gt,h.rown⟩,aj.of_grown Jd (λk hk=>by cases hk;rfl)⟩;simp only[l_a,l_c,l_n]at hj;by_cases hjl:j<bi.length
 have⟨n,Dj,m0,m1,m2⟩:=h.maps j H6;rw[cP _ _ _ _ o_]at m0 m2;rw[cP _ _ _ _ hjl]at m1;refine⟨n,Dj,?_,?_,?_⟩
 rw[cP _ _ _ _ o_];exact m0;rw[cP _ _ _ _ hjl];exact aR m1 (J _ (U _ (mem3 (gA hjl))) (Z _ (mem3 (gA hjl))));rw[cP _ _ _ _ o_];exact m2;have Jf:j=bi.length:=o_;refine⟨nb+1,D',?_,?_,?_⟩;rw[dQ _ _ _ _ o_];simp;omega;rw[dQ _ _ _ _ Jf];exact d1;rw[dQ _ _ _ _ o_,<-wP];exact d2
def JG(h:Cs E w [] [] v bt tk fn st){z:Int}(hs:s.size<=maxLen)(hz:(Lit.int .i64 z).wf=true)(Je:E.ng<=100000000):
  Calls prog 87 #[pV E.C,sV s,V z] w λe w'=>(∃u,e=rW u)/\Cs {E with gf:=mW E.gf s z,ng:=E.ng+1} w' [] [] v bt tk fn st/\aj (λk=>k=E.bg) w w':=by
 have⟨U,Db,b0,b1,b2⟩:=h.glob;have Ja:E.bg∈E.bg::E.bn::bt::[]:=i_;have Jd:=h.gt E.bg Ja;refine(yK E.C (E.C+1) E.bg U [] v Db _ s z w h.box.c0 h.row i_ o_ (λx hx e=>h.rown x hx (e ▸ Ja)) b1 b2 o_ hs hz).mono ?_;rintro e w' ⟨he,D',d1,Z,I⟩;have Jb:=h.nd;simp only[nodup_cons,mem_cons,not_or,not_mem_nil,not_false_eq_true,and_true]at Jb;obtain⟨⟨n1,n2⟩,n4,-⟩:=Jb;have J:∀k,k<w.heap.size->k≠E.bg->w'.heap[k]? =w.heap[k]? := λk hk hc=>(I.block k hk (λe=>hc (IN e)));have⟨nt,Dt,ft,t0,t1,t2⟩:=h.tak;have Jc:w.grownBy w' (some E.bg):=⟨I.os,I.tape,I.output,I.size,I.block⟩;exact⟨he,⟨h.box.keep (J _ h.ltC o_),h.low,h.base.grown Jc h.base.size (λk hk=>by cases hk;have:=h.low;omega),h.fun0,h.row.keep (λx hx=>J x (h.rlt x hx).2 (λe=>h.rown x hx (e ▸ Ja))),rfl,h.small,⟨U+1,D',Nat.succ_le_succ b0,d1,Z⟩,λj hj=>absurd hj i_,aR h.own (J _ (h.lt _ i_) (λe=>n1 e.symm)),h.num,⟨nt,Dt,ft,t0,aR t1 (J _ (h.lt _ i_) (λe=>n2 e.symm)),t2⟩,h.nd,h.gt,h.rown⟩,aj.of_grown Jc (λk hk=>by cases hk;rfl)⟩
end
variable{α:Type}{t:Tr}{sc:List Io}{a:List Nd}{n:Nd}
def AM(l:List α)(j:Nat)(h:j<l.length):l=l.take j++l[j]::l.drop (j+1):=by rw[getElem_cons_drop,take_append_drop]
def AN(l r:List α)(j:Nat)(h:j<l.length):l++r=l.take j++l[j]::(l.drop (j+1)++r):=by
 calc l++r=(l.take j++l[j]::l.drop (j+1))++r:=by rw[<-AM l j h]
  _=_:=by rw[append_assoc,cons_append]
def xz(h:bK t sc a=0)(I:aO t sc n=0):bK t sc (a++[n])=0:=by rw[exprE_append,if_pos h];simp[bK,I]
def xA{r:List Nd}(h:bK t sc a=0)(I:aO t sc n≠0):bK t sc (a++n::r)=aO t sc n:=by rw[exprE_append,if_pos h];simp[bK,I]
theorem I0{E:nQ}{w:AT}{Jl:List (List Io)}{J:List Io}{bi:List Nat}{b:Nat}{v:BY}{bt:Nat}{tk:List Io}{fn st:Int}(h:Cs E w (Jl++[J]) (bi++[b]) v bt tk fn st)(Xl:E.gf=dz E.t.gl)(Xn:E.gp=λs=>decide (0<=globI E.t.gl s))(hp:∀g∈E.t.gl,0<=g.size)(X_:E.t.fc.length<=1048576)
  (s:St) (ve vf:BY) (he:aC w ve s.e) (hf:aC w vf s.f) (Xm:gE s) (Jy:tV s) (Yc:tk.length<=1000000) (Yd:J.length<=1000000):
  Calls prog 136 #[pV E.C,.agg #[V s.kd,sV s.nm,ve,vf,V s.th,V s.el]] w λe w'=>e=rW (fR (bC E.t (Jl++[J]).flatten tk s) fn st) /\
   (∃xs' tk',Cs E w' (Jl++[xs']) (bi++[b]) v bt tk' fn st/\(bC E.t (Jl++[J]).flatten tk s=0->xs'=aP s J/\tk'=aP s tk))/\aj (λk=>k=bt\/k=b) w w':=by
 have⟨sc,Jp⟩:=q_ ((Jl++[J]).flatten);rw[<-Jp];have Jw:=ah Jp;clear Jp;have⟨Jb,Xz,Xv,HS,Xf,Jt⟩:=h6 h he hf Xm Jy Xl;have Xe:Hid (∀s,(E.gp s=true)=(0<=globI E.t.gl s)):=λs=>by rw[Xn];simp
 have HP:=ah hp;obtain⟨ae,ce,rfl,-⟩:=he;obtain⟨af,cf,rfl,-⟩:=hf;have Jg:s.nm.size<=maxLen:=by have:=Jy.1;unfold maxLen;omega
 clear h Xm Jy hp Xl Xn;go_in;go_wp2_with fail;refine(qZ _ _ _ _ _ _ _ _ _ _ _).mono ?_;rintro e w1 ⟨rfl,Jx⟩;simp only[Bl,J9]at Jx;have Xg:=ah Jx;clear Jx;go_wp2;go_loopw[13] (λi w2=>∃(m:Nat),m<=2/\i=V m/\bK E.t sc (jm s m)=0/\Below (w.heap.size+1) (w.alloc (.cells #[V s.kd,sV s.nm,.slice ae s.e.length ce,.slice af s.f.length cf,V s.th,V s.el] 79)) w2) (λi _=>2-(RowKit.intOf i).toNat)
 case atStart=>exact⟨0,y_,rfl,rfl,Xg⟩
 case round=>
  obtain⟨m,hm,rfl,hz,U⟩:=hrel;have HZ:=ah hz;clear Xg hz;by_cases hm2:m<2
  ·obtain⟨va,I,ca,Ju,Xx,Je,⟨Jc,Jd⟩,Ya,Jj⟩:∃(va:Option Addr) (I:List Nd) (ca:Nat),(∀W,(Instr.index 176 (.agg #[.slice ae s.e.length ce,.slice af s.f.length cf]) (V (m:Int))).run prog W=.ok (.slice va I.length ca) W)/\aC w (.slice va I.length ca) I/\jm s (m+1)=jm s m++I/\(∃Jc,s.e++s.f=jm s m++I++Jc)/\I.length<=1048576/\(∀n∈I,n.nm.size<=9223372036854775807):=by have Xp:m=0\/m=1:=o_;rcases Xp with rfl|rfl;exact⟨ae,s.e,ce,λW=>IT _ _ W,Xz,by simp[jm],⟨s.f,by simp[jm]⟩,HS.o.1,Xf.o.2.1.2⟩;exact⟨af,s.f,cf,λW=>IR _ _ W,Xv,by simp[jm],⟨[],by simp[jm]⟩,HS.o.2,Xf.o.2.2.2⟩
   have⟨HX,Xi,Xs⟩:=h3 Je Jd Jj;generalize jm s m=mid at HZ HX Xi;obtain⟨_,_,Jz,-,-,Xb⟩:=Xx;simp only[Value.slice.injEq]at Jz;obtain⟨rfl,-,rfl⟩:=Jz;have Xy:=ah Xb;clear Xb Je Jj Jd;have Jo:decide ((m:Int)<2)=true:=(by rw[decide_eq_true_iff];omega);go_wp2;go_loopw[18] (λi w4=>∃(j:Nat),j<=I.length/\i=V j/\bK E.t sc (mid++I.take j)=0/\Below (w.heap.size+1) (w.alloc (.cells #[V s.kd,sV s.nm,.slice ae s.e.length ce,.slice af s.f.length cf,V s.th,V s.el] 79)) w4) (λi _=>I.length-(RowKit.intOf i).toNat)
   case atStart=>exact⟨0,y_,rfl,IN HZ.o,U⟩
   case round=>
    clear Ju U;obtain⟨j,hj,rfl,Xk,U⟩:=hrel;have Jr:=ah Xk;clear Xk;have Ja:=aw U;by_cases hjl:j<I.length
    ·obtain⟨bn,on,rfl,J_⟩:=Xy o_;have⟨c0,c1,c2⟩:=(J_.below Ja) j hjl;have Xd:Hid (I[j].nm.size<=maxLen):=by
      have:=Xs.o I[j] (g_ hjl)
      show _<=_;unfold maxLen;omega
     have HT:Hid (mid++I.take (j+1)=mid++I.take j++[I[j]]):=(by show _=_;rw[aU I j hjl];simp);have HL:Hid (s.e++s.f=mid++I.take j++I[j]::(I.drop (j+1)++Jc)):=by show _=_;rw[Xi.o,append_assoc,AN I Jc j hjl,append_assoc]
     clear J_;generalize I[j]=n at c0 c1 c2 Xd HT HL;have Xc:Bl w (wr.alloc (.cells #[V n.kd,V n.val,sV n.nm] 81)):=Ja.alloc Ja.size _;have Jm:=U.size;simp only[Bl,J9]at Jm;go_wp2_with fail;refine(Ax ((Jb.o.below Xc).ck Jt) HP X_ n Xd).mono ?_;rintro e w5 ⟨rfl,Jv⟩;simp only[Bl,J9]at Jv;rw[<-Jw.o];have Js:Below (w.heap.size+1) (w.alloc (.cells #[V s.kd,sV s.nm,.slice ae s.e.length ce,.slice af s.f.length cf,V s.th,V s.el] 79)) w5:=U.trans ((aw Jv).mono Jm);clear Jv c0 c1 c2 Xc U Ja;by_cases hn:aO E.t sc n=0
     ·have HN:=ah hn;rw[hn,dX];clear hn;go_wp2;go_roundw
      case rel=>exact⟨j+1,o_,by go_num,by rw[HT.o];exact xz Jr HN,Js⟩
      case measure=>exact IF
     have HN:Hid (bC E.t sc tk s=aO E.t sc n):=by have e1:bK E.t sc (s.e++s.f)=aO E.t sc n:=(by rw[HL.o];exact xA Jr hn);show _=_;rw[oE (by rw[e1];exact hn),e1]
     have Jn:=ah hn;rw[cE hn];generalize aO E.t sc n=z at HN Jn⊢;clear hn;go_wp2;go_ret;exact⟨aD (by rw[HN.o,cE Jn.o];rfl),⟨J,tk,Jb.o.below (aw Js),λh=>absurd (HN.o.symm.trans h) Jn⟩,(aw Js).tcs⟩
    have HD:Hid (jm s (m+1)=mid++I.take j):=(by show _=_;rw[HX.o,take_of_length_le o_]);go_wp2;go_roundw
    case rel=>exact⟨m+1,o_,by go_num,by rw[HD.o];exact Jr,U⟩
    case measure=>exact IF
  have HQ:Hid (bK E.t sc (s.e++s.f)=0):=by
   have:=HZ.o
   have Xq:m=2:=o_;subst Xq;exact this
  clear HZ;have Ja:=aw U;obtain⟨x0,x1,-⟩:=sA U;have Jo:decide ((m:Int)<2)=false:=(by rw[decide_eq_false_iff_not];omega);by_cases hk1:s.kd=1
  ·have Jk:=hk1;rw[hk1]at x0;by_cases hx:dF tk s.nm=true\/0<=globI E.t.gl s.nm
   ·have Z:Hid (bC E.t sc tk s=2):=(by show _=_;rw[iY HQ.o hk1,if_pos hx]);have HX:=ah hx;clear hx;go_wp2_with fail;refine(nU (Jb.o.below Ja) Jg (by rw[Xe.o];exact HX)).mono ?_;rintro e w2 ⟨rfl,hw⟩;rw[hw,cE d_];clear hw;go_wp2;go_ret;exact⟨aD (by rw[Z.o];rfl),⟨J,tk,Jb.o.below Ja,λh=>absurd (Z.o.symm.trans h) d_⟩,Ja.tcs⟩
   have Z:Hid (bC E.t sc tk s=0):=(by show _=_;rw[iY HQ.o hk1,if_neg hx]);have HX:=ah hx;clear hx;go_wp2_with fail;refine(nW (Jb.o.below Ja) Jg o_ (by rw[Xe.o];exact HX)).mono ?_;rintro e w2 ⟨rfl,Xa,Xh⟩;have⟨Xt,Jq⟩:=h2 Xa Xh;have Xo:w.heap.size≠bt:=(Ka (Jb.o.lt bt i_));have Jm:=U.size;simp only[Bl,J9]at Jm;have y1:w2.cell? ⟨w.heap.size,1,none⟩=some (sV s.nm):=(c_ (a:=⟨w.heap.size,1,none⟩) (Jq.o.block w.heap.size o_ Xo)).trans x1;have Xw:Hid (w.heap.size<w2.drew.heap.size):=l_ o_ Jq.o.size;have Xr:Hid (¬w.heap.size=b):=(by have:=Jb.o.lt b i_;show ¬_;omega);clear Xa Xh x0 x1;go_wp2_with fail;go_region_held3 (λW=>W.cell? ⟨w.heap.size,1,none⟩=some (sV s.nm)) (go_simp)
    (first
    | (go_at_call 87;refine(I_ (Xt.o.below (r_.drew)) Jg o_).mono ?_;rintro e w3 ⟨⟨u,rfl⟩,Xu,Xj⟩;have Yb:w3.cell? ⟨w.heap.size,1,none⟩=some (.string s.nm):=(c_ (a:=⟨w.heap.size,1,none⟩) (Xj.block w.heap.size Xw Xr)).trans y1))
   go_wp2;go_ret;exact⟨aD (by rw[Z.o];rfl),⟨J++[s.nm],tk++[s.nm],Xu,λ_=>⟨(jR Jk J).symm,(jR Jk tk).symm⟩⟩,(((Ja.tcs (S:=λk=>k=bt\/k=b)).trans (Jq.o.mono (λk h=>.inl h))).drew).trans (Xj.mono (λk h=>.inr h))⟩
  by_cases hk2:s.kd=2
  ·have Z:Hid (bC E.t sc tk s=dU E.t.gl sc s.nm false):=by show _=_;rw[lK HQ.o (.inl hk2)];simp[hk2]
   have HK:=ah hk1;rw[hk2]at x0;clear hk2;go_wp2_with fail;refine(lh ((Jb.o.below Ja).ck Jt) HP s.nm Jg false).mono ?_;rintro e w2 ⟨rfl,Ji⟩;rw[<-Jw.o,<-Z.o];have Jh:Bl w w2:=Ja.trans (Ji.mono Ja.size);have⟨ev,Jf⟩:=q_ (fR (bC E.t sc tk s) fn st);rw[<-Jf];have HV:=ah Jf;clear Jf Ji;go_wp2;go_ret;exact⟨aD HV,⟨J,tk,Jb.o.below Jh,λ_=>⟨(fm HK J).symm,(fm HK tk).symm⟩⟩,Jh.tcs⟩
  by_cases hk3:s.kd=3
  ·have Z:Hid (bC E.t sc tk s=dU E.t.gl sc s.nm true):=by show _=_;rw[lK HQ.o (.inr hk3)];simp[hk3]
   have HK:=ah hk1;rw[hk3]at x0;clear hk3;go_wp2_with fail;refine(lh ((Jb.o.below Ja).ck Jt) HP s.nm Jg true).mono ?_;rintro e w2 ⟨rfl,Ji⟩;rw[<-Jw.o,<-Z.o];have Jh:Bl w w2:=Ja.trans (Ji.mono Ja.size);have⟨ev,Jf⟩:=q_ (fR (bC E.t sc tk s) fn st);rw[<-Jf];have HV:=ah Jf;clear Jf Ji;go_wp2;go_ret;exact⟨aD HV,⟨J,tk,Jb.o.below Jh,λ_=>⟨(fm HK J).symm,(fm HK tk).symm⟩⟩,Jh.tcs⟩
  have Z:Hid (bC E.t sc tk s=0):=oG HQ hk1 hk2 hk3;have HK:=ah hk1;have b1:(s.kd == 1)=false:=(IN hk1);have b2:(s.kd == 2)=false:=(IN hk2);have b3:(s.kd == 3)=false:=(IN hk3);go_wp2;go_ret;exact⟨aD (by rw[Z.o];rfl),⟨J,tk,Jb.o.below Ja,λ_=>⟨(fm HK J).symm,(fm HK tk).symm⟩⟩,Ja.tcs⟩
end
structure Bd (E:nQ) (vb:BY) (ss:List St):Prop where
 st:aZ E.w0 vb ss
 fit:bw ss=true
 sm:∀s∈ss,gE s
 wf:∀s∈ss,tV s
def Hg(n:Nat):Prop:=∀(E:nQ) (w:AT) (bsn:List (List Io)) (bi:List Nat) (v:BY) (bt:Nat) (tk:List Io) (fn st:Int) (ss:List St) (vb:BY) (a:Int),ss.length<=n->Cs E w bsn bi v bt tk fn st->Bd E vb ss->E.gf=dz E.t.gl->E.gp=(λs=>decide (0<=globI E.t.gl s))->(∀g∈E.t.gl,0<=g.size)->E.t.fc.length<=1048576 ->
 bi.length+ss.length<=800000->tk.length+ss.length<=800000->0<=a->a+ss.length<=800000 ->
 Calls prog 116 #[pV E.C,vb,V a] w λe w'=>e=rW (fR (aL E.t ss a bsn.flatten tk).1 fn (aL E.t ss a bsn.flatten tk).2.1) /\
  (∃v' tk' st',Cs E w' bsn bi v' bt tk' fn st'/\((aL E.t ss a bsn.flatten tk).1=0->tk'=(aL E.t ss a bsn.flatten tk).2.2)/\(∀k,v'.ownBlock=some k->v.ownBlock=some k\/w.heap.size<=k))/\aj (Sb E v bt) w w'
def nX{E:nQ}{v v1:BY}{I N:Nat}(h:∀k,v1.ownBlock=some k->v.ownBlock=some k\/N<=k):∀x,Sb E v1 I x->Sb E v I x\/N<=x:=by intro x J;rcases J with h1|h1|h1;exact .inl (.inl h1);exact .inl (.inr (.inl h1));rcases h x h1 with h2|h2;exact .inl (.inr (.inr h2));exact .inr h2
def aj.cell{S:Ft}{W w':AT}(h:aj S W w'){M:Nat}(hM:M<W.heap.size)(hn:¬S M)(o:Nat):w'.cell? ⟨M,o,none⟩=W.cell? ⟨M,o,none⟩:=c_ (a:=⟨M,o,none⟩) (h.block M hM hn)
def xB{α:Type}(l:List α)(i j:Nat):(l.take (i+j)).drop i=(l.drop i).take j:=by rw[drop_take];congr 1;omega
theorem Hh(n:Nat):Hg n:=by
 induction n with
 | zero=>
  intro E w Je bi v bt tk fn st ss vb a hn Jb Jd Xw Xs hp Xa Yg Xu ha Xr;obtain rfl:ss=[]:=J3 o_;obtain⟨ab,cb,rfl,-⟩:=Jd.st;have Xg:=ah Jb;have U:Hid (aL E.t [] a Je.flatten tk=(0,0,tk)):=ee _ _ _ _;clear Jb Jd;simp only[l_n]at*;go_enter_defers func116,ntmps116;go_wp2_with fail;refine(CZ Xg.o o_).mono ?_;rintro e w1 ⟨⟨u,rfl⟩,v1,Jo,Xc,Xd⟩;have Jz:=ah Jo;clear Jo;go_wp2_with fail;refine wp_loop_rounds 1 ?_;rw[rounds_succ];go_wp2_with fail;refine leaves_cons (f:=115) (args:=#[pV E.C]) i_ (by simp[go_sem]) ?_;refine(kC Jz.o .returning).mono ?_;rintro e u' Xe ⟨rfl,⟨u2,rfl⟩,v2,Jf,Jc,Jh⟩;exact⟨_,results_tmp rfl _ _ _,aD (by rw[U.o];rfl),⟨v2,tk,st,Jf,λ_=>by rw[U.o],λk hk=>Xd k (Jh ▸ hk)⟩,Xc.trans (Jc.mono (λk h=>.inl h))⟩
 | succ n ih=>
 intro E w Je bi v bt tk fn st ss vb a hn Jb Jd Xw Xs hp Xa Yg Xu ha Xr;have IH:=ah ih;have Xg:=ah Jb;have Xv:=ah Xw;have Xt:=ah Xs;have HP:=ah hp;have Ze:=ah Jd;have⟨Jk,Jm⟩:=q_ (aL E.t ss a Je.flatten tk);rw[<-Jm];have Ja:=ah Jm;obtain⟨ab,cb,rfl,-⟩:=Jd.st;clear Jb Jd Xw Xs hp ih Jm;go_enter_defers func116,ntmps116;go_wp2_with fail;refine(CZ Xg.o o_).mono ?_;rintro e w1 ⟨⟨u,rfl⟩,v1,Jo,Xc,Xd⟩;have⟨b,hb⟩:=q_ w.heap.size;rw[<-hb]at Jo;have Jz:=ah Jo;have Yz:=ah Xc;have Yf:=ah Xd;clear Jo Xc Xd;go_wp2;go_loopw[1,2] (λvb2 a2 wr=>∃(q:List St) (z:Int) (xs tk':List Io) (v':BY) (st':Int),a2=V z/\Bd E vb2 q/\Cs E wr (Je++[xs]) (bi++[b]) v' bt tk' fn st'/\Jk=aL E.t q z (Je++[xs]).flatten tk'/\q.length<=ss.length/\xs.length+q.length<=800000/\tk'.length+q.length<=800000/\0<=z/\z+q.length<=800000/\aj (Sb E v bt) w wr/\(∀k,v'.ownBlock=some k->v.ownBlock=some k\/w.heap.size<=k)) (λvb2 _ _=>lenOf vb2)
 case atStart=>exact⟨ss,a,[],tk,v1,st,rfl,Ze,Jz,by rw[BV];exact Ja,n_,by simp;omega,Xu,ha,Xr,Yz,Yf⟩
 case round=>
  clear Jz Yz Yf Ze Ja Xg;obtain⟨q,z,xs,tk1,v1,Zq,rfl,Jd,Jb,Ji,Zy,Zp,Zk,Yl,Vb,ht,ho⟩:=hrel;have HC:=ah Jb;have HT:=ah ht;have HO:=ah ho;clear ht ho;cases q with
  | nil=>
   have U:Hid (Jk=(0,0,tk1)):=Ji.trans (ee _ _ _ _);obtain⟨a2,c2,rfl,-⟩:=Jd.st;clear Ji Jb Jd;simp only[l_n];go_wp2_with fail;refine leaves_cons (f:=115) (args:=#[pV E.C]) i_ (by simp[go_sem]) ?_;refine(kC HC.o .returning).mono ?_;rintro e u' Xe ⟨rfl,⟨u2,rfl⟩,v2,Jf,Jc,Jh⟩;exact⟨_,results_tmp rfl _ _ _,aD (by rw[U.o];rfl),⟨v2,tk1,Zq,Jf,λ_=>by rw[U.o],λk hk=>HO.o k (Jh ▸ hk)⟩,HT.o.trans (Jc.mono (λk h=>.inl h))⟩
  | cons s r=>
   have Ja:=ah Ji;have Xf:Hid (∀x∈s::r,gE x):=Jd.sm;have Jy:Hid (∀x∈s::r,tV x):=Jd.wf;have Js:=Jd.fit;rw[fitB_cons,J1,J1,J1,decide_eq_true_iff]at Js;obtain⟨⟨p1,p2,p3,p4⟩,Zg,Yu,Yn⟩:=Js;obtain⟨a2,Jv,rfl,Zh,Yw,hc⟩:=Jd.st;obtain⟨b0,off,rfl,hs⟩:=hc i_;have Jq:aZ E.w0 (.slice (some ⟨b0,off,none⟩) (s::r).length Jv) (s::r):=⟨_,_,rfl,Zh,Yw,λ_=>⟨b0,off,rfl,hs⟩⟩;have Jj:aZ E.w0 (.slice (if Jv=1 then some ⟨b0,off,none⟩else some ⟨b0,off+6,none⟩) r.length (Jv-1)) r:=by
    have:=Jq.cut 1 (s::r).length i_ n_
    simpa[Addr.add]using this
   obtain⟨Zt,Va,⟨d0,-,d2,d3,-,-⟩,Xj,Xy⟩:=hs 0 i_;have Jw:b0<E.w0.heap.size:=b_ d0;have⟨ve,vf,⟨g0,g1,g2,g3,g4,g5⟩,⟨c0,c1,c2,c3,c4,c5⟩,he,hf⟩:=(hs.below Jb.base).up 0 i_;simp only[Nat.zero_mul,Nat.add_zero,getElem_cons_zero]at c0 c1 c2 c3 c4 c5 g0 g1 g2 g3 g4 g5 he hf;simp only[Nat.zero_mul,Nat.add_zero,getElem_cons_zero]at d0 d2 d3 Xj Xy;obtain rfl:ve=Zt:=Option.some.inj (c2.symm.trans ((Jb.base.cell (p:=⟨b0,off+2,none⟩) Jw).trans d2));obtain rfl:vf=Va:=Option.some.inj (c3.symm.trans ((Jb.base.cell (p:=⟨b0,off+3,none⟩) Jw).trans d3));clear d0 d2 d3;simp only[l_c]at*;have HR:=ah Jj;have h1:(1:Int)<=(r.length:Int)+1:=o_;have Zw:=ah Xj;have Zs:=ah Xy;have hC:E.C<wr.heap.size:=Jb.ltC;have y6:=Jb.box.c6;have f6:=Jb.box.fz 6;have Yh:=ah Zg;have Zc:=ah Yu;have Zd:=ah Yn;obtain⟨a3,k3,rfl,-⟩:=he;obtain⟨a4,k4,rfl,-⟩:=hf;clear hs hc Jq Jj Zg Yu Yn Jb Jd Ji Xj Xy;go_wp2_with fail;go_region;generalize (if Jv=1 then some ({block:=b0,off:=off,spot:=none}:Addr)else some {block:=b0,off:=off+6,spot:=none})=a1 at HR⊢;generalize hk1:Jv-1=k1 at HR⊢;have Zz:r.length<=k1:=o_;have Zu:k1<=9223372036854775807:=o_;clear hk1 c0 c1 c2 c3 c4 c5 g0 g1 g2 g3 g4 g5 h1;go_wp2_with fail;have⟨W6,Jn⟩:=q_ (((wr.setCell ⟨E.C,6,none⟩ (V z)).alloc (.cells #[V s.kd,sV s.nm,.slice a3 s.e.length k3,.slice a4 s.f.length k4,V s.th,V s.el] 79)).drew);have⟨M,hM⟩:=q_ wr.heap.size;have Xp:Below (wr.setCell ⟨E.C,6,none⟩ (V z)).heap.size (wr.setCell ⟨E.C,6,none⟩ (V z)) W6:=(by rw[Jn];exact(ao _ _).drew);have Xq:Hid (Cs E W6 (Je++[xs]) (bi++[b]) v1 bt tk1 fn z):=(HC.o.stmt z).below Xp;have Vh:Hid (aj (Sb E v1 bt) wr W6):=((aj.refl (Sb E v1 bt) wr).setCell (p:=⟨E.C,6,none⟩) (.inl rfl) _).of_below Xp;have m4:W6.cell? ⟨M,4,none⟩=some (V s.th):=(by rw[Jn];exact(cell?_alloc_at _ _ _ _ (by simp[hM])).trans rfl);have m5:W6.cell? ⟨M,5,none⟩=some (V s.el):=(by rw[Jn];exact(cell?_alloc_at _ _ _ _ (by simp[hM])).trans rfl);have Xi:M<W6.heap.size:=(by rw[Jn,hM];simp);have Z_:Hid (¬Sb E v1 bt M):=by
    show ¬_;rintro(h|h|h)
    ·omega
    ·have:=HC.o.lt bt i_;omega
    ·have:=(HC.o.rlt _ h).2;omega
   have Yk:M≠b:=(Ka (HC.o.lt b i_));have Y_:M≠bt:=(Ka (HC.o.lt bt i_));rw[<-Jn,<-hM];have Vq:Hid (w.heap.size<=M):=(by have:=HT.o.size;show _<=_;omega);clear Jn Xp y6 f6 hM;refine(I0 Xq.o Xv.o Xt.o HP.o Xa s _ _ (Zw.o.below Xq.o.base) (Zs.o.below Xq.o.base) (Xf.o s i_) (Jy.o s i_) o_ o_).mono ?_;rintro e w2 ⟨rfl,⟨Vm,tk2,Jf,Jg⟩,Jc⟩;have Ys:=ah Jf;have Xm:Hid (aj (Sb E v bt) w w2):=(HT.o.next Vh.o (nX HO)).next Jc (λx hx=>by
    rcases hx with h|h
    ·exact .inl (.inr (.inl h))
    ·exact .inr o_)
   have n4:w2.cell? ⟨M,4,none⟩=some (V s.th):=(Jc.cell Xi (by rintro(h|h);exact Y_ h;exact Yk h) 4).trans m4;have n5:w2.cell? ⟨M,5,none⟩=some (V s.el):=(Jc.cell Xi (by rintro(h|h);exact Y_ h;exact Yk h) 5).trans m5;have X_:M<w2.heap.size:=l_ Xi Jc.size;have⟨Z,Xo⟩:=q_ ((Je++[xs]).flatten);rw[<-Xo]at Jg Ja⊢;have Vf:=ah Xo;clear m4 m5 Xi Jf Jc Xo;by_cases hE:bC E.t Z tk1 s=0
   ·obtain⟨rfl,rfl⟩:=Jg hE;have U:=ah hE;rw[hE,dX];clear hE Jg;have⟨I,Xl⟩:=Int.eq_ofNat_of_zero_le (show 0<=s.th by omega);have⟨J,Yd⟩:=Int.eq_ofNat_of_zero_le (show 0<=s.el by omega);rw[Xl]at n4 p2 p4;rw[Yd]at n5 p4;have Jl:Hid (s.th.toNat=I/\s.el.toNat=J):=⟨o_,o_⟩;have Yj:I<=r.length:=o_
    have Vg:I+J<=r.length:=o_;rw[Jl.o.1]at Yh;rw[Jl.o.1,Jl.o.2]at Zc Zd;have Xk:Hid ((Je++[aP s xs]).flatten=aP s Z):=(by show _=_;rw[BU,Vf.o]);have Vd:=kP s tk1;have Zi:=kP s xs;go_wp2_with fail;refine(IH.o E w2 (Je++[aP s xs]) (bi++[b]) v1 bt (aP s tk1) fn z (r.take I) (.slice a1 I k1) (z+1) H6 Ys.o ⟨HR.o.head I Yj,Yh,λx hx=>Xf.o x (by simp[mem_of_mem_take hx]),λx hx=>Jy.o x (by simp[mem_of_mem_take hx])⟩ Xv.o Xt.o HP.o Xa H6 H6 o_ H6).mono ?_;rintro e w3 ⟨rfl,⟨v3,Zv,Ym,Yv,Jx,Xx⟩,Ju⟩;rw[Xk.o]at Jx⊢;have Yq:=ah Yv;have Yc:=Xm.o.size;have Jp:=Z_.o;have q4:w3.cell? ⟨M,4,none⟩=some (V I):=(Ju.cell X_ Jp 4).trans n4;have q5:w3.cell? ⟨M,5,none⟩=some (V J):=(Ju.cell X_ Jp 5).trans n5;have Yo:M<w3.heap.size:=l_ X_ Ju.size;have Ya:Hid (aj (Sb E v bt) w w3):=Xm.o.next Ju (nX HO);have Xz:Hid (∀k,v3.ownBlock=some k->v.ownBlock=some k\/w.heap.size<=k):=λk hk=>by
     rcases Xx k hk with h|h
     ·exact HO.o k h
     ·exact .inr o_
    have Jt:Hid (¬Sb E v3 bt M):=by
     show ¬_;rintro(h|h|h)
     ·exact Jp (.inl h)
     ·exact Jp (.inr (.inl h))
     ·rcases Xx M h with h2|h2
      ·exact Jp (.inr (.inr h2))
      ·omega
    clear Yv Ju Xx n4 n5 Jp Yc;have⟨X,hX⟩:=q_ (aL E.t (r.take I) (z+1) (aP s Z) (aP s tk1));rw[<-hX]at Jx⊢;have HX:Hid (X=aL E.t (r.take s.th.toNat) (z+1) (aP s Z) (aP s tk1)):=(by show _=_;rw[Jl.o.1];exact hX);have Zm:X.2.2.length<=(aP s tk1).length+I:=by
     have:=kQ E.t _ (r.take I) (z+1) (aP s Z) (aP s tk1) n_
     rw[<-hX]at this;simp at this;omega
    clear hX;by_cases hX1:X.1=0
    ·have Jr:=ah hX1;obtain rfl:=Jx hX1;rw[hX1,dX];clear hX1 Jx;obtain⟨a5,k5,Vn,Yp⟩:∃a5 k5,(∀w:AT,(Instr.slice 50 (.slice a1 r.length k1) (some (V I)) (some (V ((I:Int)+(J:Int)))) none).run prog w=.ok (.slice a5 J k5) w)/\aZ E.w0 (.slice a5 J k5) ((r.take (I+J)).drop I):=by
      have h:=sB a1 r.length k1 I (I+J) o_ o_ o_;have h':=HR.o.cut I (I+J) o_ o_;rw[show I+J-I=J by omega]at h h';exact⟨_,_,h,h'⟩
     have Zo:=ah Yp;clear Yp;have Yy:Hid (((r.take (I+J)).drop I).length=J):=(by show _=_;simp;omega);have Zl:=ah (Yq.o.below (r_.drew));have Vc:Hid (Calls prog 116 #[pV E.C,.slice a5 J k5,V (z+1+I)] w3.drew λe w'=>e=rW (fR (aL E.t ((r.take (I+J)).drop I) (z+1+I) (aP s Z) X.2.2).1 fn (aL E.t ((r.take (I+J)).drop I) (z+1+I) (aP s Z) X.2.2).2.1) /\
  (∃v' tk' st',Cs E w' (Je++[aP s xs]) (bi++[b]) v' bt tk' fn st'/\((aL E.t ((r.take (I+J)).drop I) (z+1+I) (aP s Z) X.2.2).1=0->tk'=(aL E.t ((r.take (I+J)).drop I) (z+1+I) (aP s Z) X.2.2).2.2)/\(∀k,v'.ownBlock=some k->v3.ownBlock=some k\/w3.drew.heap.size<=k))/\aj (Sb E v3 bt) w3.drew w'):=by
      have hl:=Yy.o;have:=IH.o E w3.drew (Je++[aP s xs]) (bi++[b]) v3 bt X.2.2 fn Ym ((r.take (I+J)).drop I) (.slice a5 J k5) (z+1+I) o_ Zl.o ⟨Zo.o,Zc.o,λx hx=>Xf.o x (by simp[mem_of_mem_take (J6 hx)]),λx hx=>Jy.o x (by simp[mem_of_mem_take (J6 hx)])⟩ Xv.o Xt.o HP.o Xa (by simp only[l_a,l_c,l_n];omega) o_ o_ o_;rw[Xk.o]at this;exact this
     have Vk:IntKind.i64.wrap (z+1)=z+1:=(by simp[IntKind.wrap,IntKind.bits,IntKind.signed];omega);have Yc:IntKind.i64.wrap (z+1+(I:Int))=z+1+(I:Int):=(by simp[IntKind.wrap,IntKind.bits,IntKind.signed];omega);have Vr:IntKind.i64.wrap ((I:Int)+(J:Int))=(I:Int)+(J:Int):=(by simp[IntKind.wrap,IntKind.bits,IntKind.signed];omega);have Yx:Hid (0<=z/\z+1+r.length<=800000/\X.2.2.length+J+(r.length-(I+J))<=800000/\(aP s xs).length+(r.length-(I+J))<=800000/\r.length+1<=ss.length):=⟨Yl,o_,o_,o_,o_⟩;clear Vd Zi Zm Yj p1 p2 p3 p4 Zh Yw Zy Zp Zk Yl Vb Yg Xu Xr ha hn;go_wp2_with fail;go_region_held3 (λW=>W.cell? ⟨M,4,none⟩=some (V I)) (go_simp)
      (first
      | ((with_reducible refine Calls.mono Vc.o ?_);rintro e w4 ⟨rfl,⟨v4,Zj,Yb,Yr,J_,Za⟩,Xh⟩;have Vo:w4.cell? ⟨M,4,none⟩=some (.int .i64 I):=(Xh.cell Yo Jt.o 4).trans q4))
     have Yi:=ah Yr;have Vi:w4.cell? ⟨M,5,none⟩=some (V J):=(Xh.cell Yo Jt.o 5).trans q5;have Zf:Hid (aj (Sb E v bt) w w4):=(Ya.o.drew).next Xh (nX Xz);have Zr:w.heap.size<=w3.heap.size:=Ya.o.size;have Yt:Hid (∀k,v4.ownBlock=some k->v.ownBlock=some k\/w.heap.size<=k):=λk hk=>by
      rcases Za k hk with h|h
      ·exact Xz.o k h
      ·exact .inr (t_ Zr h)
     clear Yr Xh Za q4 q5;have⟨Y,hY⟩:=q_ (aL E.t ((r.take (I+J)).drop I) (z+1+I) (aP s Z) X.2.2);rw[<-hY]at J_⊢;have Zx:Hid (Y.2.2.length<=X.2.2.length+J):=by
      have h1:=kQ E.t _ ((r.take (I+J)).drop I) (z+1+I) (aP s Z) X.2.2 n_;rw[<-hY,Yy.o]at h1;exact h1
     have HY:Hid (Y=aL E.t ((r.drop s.th.toNat).take s.el.toNat) (z+1+s.th) (aP s Z) X.2.2):=(by show _=_;rw[Jl.o.1,Jl.o.2,Xl,<-xB];exact hY);clear hY;by_cases hY1:Y.1=0
     ·have Xb:=ah hY1;obtain rfl:=J_ hY1;rw[hY1,dX];clear hY1 J_;obtain⟨a6,k6,Vl,Ye⟩:∃a6 k6,(∀w:AT,(Instr.slice 50 (.slice a1 r.length k1) (some (V ((I:Int)+(J:Int)))) none none).run prog w=.ok (.slice a6 (r.length-(I+J)) k6) w)/\aZ E.w0 (.slice a6 (r.length-(I+J)) k6) (r.drop (I+J)):=by
       have h:=qY a1 r.length k1 (I+J) o_ o_ ((I:Int)+(J:Int)) o_;have h':=HR.o.cut (I+J) r.length o_ o_;rw[take_length]at h';exact⟨_,_,h,h'⟩
      have Zn:=ah Ye;have Ve:Hid (Jk=aL E.t (r.drop (I+J)) (z+1+I+J) (Je++[aP s xs]).flatten Y.2.2):=by
       have h1:=ey (r:=r) (a:=z) (tk1:=X.2.2) (tk2:=Y.2.2) U.o (by rw[<-HX.o];exact Jr) (by rw[<-HX.o]) (by rw[<-HY.o];exact Xb) (by rw[<-HY.o]);rw[Jl.o.1,Jl.o.2,Xl,Yd]at h1;show _=_;rw[Xk.o,Ja.o,h1]
      clear Ye;have Vj:IntKind.i64.wrap (z+1+((I:Int)+(J:Int)))=z+1+((I:Int)+(J:Int)):=(by have:=Yx.o;simp[IntKind.wrap,IntKind.bits,IntKind.signed];omega);go_wp2;go_roundw
      case rel=>
       have hb:=Yx.o;have Vp:=Zx.o;exact⟨r.drop (I+J),z+1+I+J,aP s xs,Y.2.2,v4,Yb,by simp;omega,⟨Zn,Zd,λx hx=>Xf.o x (by simp[J6 hx]),λx hx=>Jy.o x (by simp[J6 hx])⟩,Yi,Ve,by simp;omega,by simp;omega,by simp;omega,o_,by simp;omega,Zf,Yt⟩
      case measure=>simp[lenOf];omega
     ·have Zb:Hid (Jk=Y):=by
       have h3:=fA (r:=r) (a:=z) (tk1:=X.2.2) U.o (by rw[<-HX.o];exact Jr) (by rw[<-HX.o]) (by rw[<-HY.o];exact hY1);show Jk=Y;rw[Ja.o,h3,<-HY.o]
      have Xb:=ah hY1;rw[cE hY1];clear hY1 J_ Vi;go_wp2_with fail;refine leaves_cons (f:=115) (args:=#[pV E.C]) i_ (by simp[go_sem]) ?_;refine(kC Yi.o .returning).mono ?_;rintro e u' Xe ⟨rfl,⟨u2,rfl⟩,v2,Jf,Jc,Jh⟩;exact⟨_,results_tmp rfl _ _ _,aD (by rw[Zb.o,cE Xb.o];rfl),⟨v2,Zj,Yb,Jf,λh=>absurd h (by rw[Zb.o];exact Xb),λk hk=>Yt.o k (Jh ▸ hk)⟩,Zf.o.trans (Jc.mono (λk h=>.inl h))⟩
    ·have U:Hid (Jk=X):=by
      have h1:=Ja.o;have h2:=HX.o;have h3:=fy (r:=r) (a:=z) U.o (by rw[<-h2];exact hX1);show Jk=X;rw[h1,h3,<-h2]
     have Jr:=ah hX1;rw[cE hX1];clear hX1 Jx q4 q5;go_wp2_with fail;refine leaves_cons (f:=115) (args:=#[pV E.C]) i_ (by simp[go_sem]) ?_;refine(kC Yq.o .returning).mono ?_;rintro e u' Xe ⟨rfl,⟨u2,rfl⟩,v2,Jf,Jc,Jh⟩;exact⟨_,results_tmp rfl _ _ _,aD (by rw[U.o,cE Jr.o];rfl),⟨v2,Zv,Ym,Jf,λh=>absurd h (by rw[U.o];exact Jr),λk hk=>Xz.o k (Jh ▸ hk)⟩,Ya.o.trans (Jc.mono (λk h=>.inl h))⟩
   ·have U:Hid (Jk=(bC E.t Z tk1 s,z,tk1)):=Ja.o.trans (eZ hE);have Xn:=ah hE;rw[cE hE];generalize bC E.t Z tk1 s=zz at U Xn⊢;clear hE Jg n4 n5;go_wp2_with fail;refine leaves_cons (f:=115) (args:=#[pV E.C]) i_ (by simp[go_sem]) ?_;refine(kC Ys.o .returning).mono ?_;rintro e u' Xe ⟨rfl,⟨u2,rfl⟩,v2,Jf,Jc,Jh⟩;exact⟨_,results_tmp rfl _ _ _,aD (by rw[U.o,cE Xn.o];rfl),⟨v2,tk2,z,Jf,λh=>absurd h (by rw[U.o];exact Xn),λk hk=>HO.o k (Jh ▸ hk)⟩,Xm.o.trans (Jc.mono (λk h=>.inl h))⟩
