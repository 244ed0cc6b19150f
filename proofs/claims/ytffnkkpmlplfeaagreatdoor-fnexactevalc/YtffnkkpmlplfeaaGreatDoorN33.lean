import Derived.Test.YtffnkkpmlplfeaaGreatDoorN32
import Derived.Test.YtffnkkpmlplfeaaGreatDoorN30
namespace Go.Proofs.YtffnkkpmlplfeaaGreatDoor
open Go.Proofs.Tryz
open Go.RowKit
set_option linter.all false
set_option maxRecDepth 100000
set_option maxHeartbeats 16000000
variable[Inhabited Pick]
structure CBox (w:World) (C:Nat) (v vg vf:Value) (bn bt:Nat) (fn st:Int):Prop where
 c0:w.cell? ⟨C,0,none⟩=some v
 c1:w.cell? ⟨C,1,none⟩=some vg
 c2:w.cell? ⟨C,2,none⟩=some vf
 c3:w.cell? ⟨C,3,none⟩=some (.map (some bn))
 c4:w.cell? ⟨C,4,none⟩=some (.map (some bt))
 c5:w.cell? ⟨C,5,none⟩=some (.int .i64 fn)
 c6:w.cell? ⟨C,6,none⟩=some (.int .i64 st)
 fz : ∀o,w.frozen? ⟨C,o,none⟩=false
theorem CBox.keep {w w':World} {C:Nat} {v vg vf:Value} {bn bt:Nat} {fn st:Int} (h:CBox w C v vg vf bn bt fn st) (hb:w'.heap[C]? = w.heap[C]?):CBox w' C v vg vf bn bt fn st:=
 ⟨(c_ (a:=⟨C,0,none⟩) hb).trans h.c0,(c_ (a:=⟨C,1,none⟩) hb).trans h.c1,(c_ (a:=⟨C,2,none⟩) hb).trans h.c2,(c_ (a:=⟨C,3,none⟩) hb).trans h.c3,(c_ (a:=⟨C,4,none⟩) hb).trans h.c4,(c_ (a:=⟨C,5,none⟩) hb).trans h.c5,(c_ (a:=⟨C,6,none⟩) hb).trans h.c6,λo=>(World.frozen?_of_block (a:=⟨C,o,none⟩) hb).trans (h.fz o)⟩
theorem CBox.s0 {w:World} {C:Nat} {v vg vf:Value} {bn bt:Nat} {fn st:Int} (h:CBox w C v vg vf bn bt fn st) (v':Value):CBox (w.setCell ⟨C,0,none⟩ v') C v' vg vf bn bt fn st:=
 ⟨World.cell?_setCell_same _ _ _ h.c0,(s_ _ _ _ _ (off_ne (by decide))).trans h.c1,(s_ _ _ _ _ (off_ne (by decide))).trans h.c2,(s_ _ _ _ _ (off_ne (by decide))).trans h.c3,(s_ _ _ _ _ (off_ne (by decide))).trans h.c4,(s_ _ _ _ _ (off_ne (by decide))).trans h.c5,(s_ _ _ _ _ (off_ne (by decide))).trans h.c6,λo=>by simpa using h.fz o⟩
theorem CBox.s4 {w:World} {C:Nat} {v vg vf:Value} {bn bt:Nat} {fn st:Int} (h:CBox w C v vg vf bn bt fn st) (bt':Nat):CBox (w.setCell ⟨C,4,none⟩ (.map (some bt'))) C v vg vf bn bt' fn st:=
 ⟨(s_ _ _ _ _ (off_ne (by decide))).trans h.c0,(s_ _ _ _ _ (off_ne (by decide))).trans h.c1,(s_ _ _ _ _ (off_ne (by decide))).trans h.c2,(s_ _ _ _ _ (off_ne (by decide))).trans h.c3,World.cell?_setCell_same _ _ _ h.c4,(s_ _ _ _ _ (off_ne (by decide))).trans h.c5,(s_ _ _ _ _ (off_ne (by decide))).trans h.c6,λo=>by simpa using h.fz o⟩
theorem CBox.s5 {w:World} {C:Nat} {v vg vf:Value} {bn bt:Nat} {fn st:Int} (h:CBox w C v vg vf bn bt fn st) (z:Int):CBox (w.setCell ⟨C,5,none⟩ (.int .i64 z)) C v vg vf bn bt z st:=
 ⟨(s_ _ _ _ _ (off_ne (by decide))).trans h.c0,(s_ _ _ _ _ (off_ne (by decide))).trans h.c1,(s_ _ _ _ _ (off_ne (by decide))).trans h.c2,(s_ _ _ _ _ (off_ne (by decide))).trans h.c3,(s_ _ _ _ _ (off_ne (by decide))).trans h.c4,World.cell?_setCell_same _ _ _ h.c5,(s_ _ _ _ _ (off_ne (by decide))).trans h.c6,λo=>by simpa using h.fz o⟩
theorem CBox.s6 {w:World} {C:Nat} {v vg vf:Value} {bn bt:Nat} {fn st:Int} (h:CBox w C v vg vf bn bt fn st) (z:Int):CBox (w.setCell ⟨C,6,none⟩ (.int .i64 z)) C v vg vf bn bt fn z:=
 ⟨(s_ _ _ _ _ (off_ne (by decide))).trans h.c0,(s_ _ _ _ _ (off_ne (by decide))).trans h.c1,(s_ _ _ _ _ (off_ne (by decide))).trans h.c2,(s_ _ _ _ _ (off_ne (by decide))).trans h.c3,(s_ _ _ _ _ (off_ne (by decide))).trans h.c4,(s_ _ _ _ _ (off_ne (by decide))).trans h.c5,World.cell?_setCell_same _ _ _ h.c6,λo=>by simpa using h.fz o⟩
structure CkV where
 w0:World
 C:Nat
 bg:Nat
 bn:Nat
 nn:Nat
 D:DataW Unit
 t:Tr
 vg:Value
 vf:Value
 gf:ByteArray->Option Int
 gp:ByteArray->Bool
 ng:Nat
theorem BRw.keep {B:Nat} {w w':World} {v:Value} {bs:List Nat} (h:BRw B w v bs) (hb : ∀x,v.ownBlock=some x->w'.heap[x]? = w.heap[x]?):BRw B w' v bs:=by
 obtain⟨g1,g2⟩:=h;refine⟨g1,?_⟩;rcases g2 with g2|⟨g,cap,cur,rfl,g3,g4,g5⟩
 ·exact .inl g2
 ·refine .inr ⟨g,cap,cur,rfl,g3,?_,g5⟩;rw[hb g rfl];exact g4
structure Cs (E:CkV) (w:World) (bsn:List (List ByteArray)) (bi:List Nat) (v:Value) (bt:Nat) (tk:List ByteArray) (fn st:Int):Prop where
 box:CBox w E.C v E.vg E.vf E.bn bt fn st
 low:E.w0.heap.size<=E.C
 base:Below E.w0.heap.size E.w0 w
 fun0:Funcs E.w0 E.vf E.t.funcs/\Globs E.w0 E.vg E.t.globals
 row:BRw (E.C+1) w v (E.bg::bi)
 len:bsn.length=bi.length
 small:bi.length<=900000
 glob : ∃ng Dg,ng<=E.ng/\w.ownsMap prog 9 (plainElem (H:=Unit) prog 2) E.bg ng Dg/\MapIs Dg E.gf
 maps : ∀j,j<bi.length->∃n Dj,n<=(bsn.getD j []).length/\w.ownsMap prog 9 (plainElem (H:=Unit) prog 2) (bi.getD j 0) n Dj/\MapIs Dj (wordF (bsn.getD j []))
 own:w.ownsMap prog 9 (plainElem (H:=Unit) prog 2) E.bn E.nn E.D
 num:NumIs E.D E.t.funcs
 tak : ∃nt Dt ft,nt<=tk.length+1000/\w.ownsMap prog 9 (plainElem (H:=Unit) prog 2) bt nt Dt/\MapIs Dt ft/\∀s,(ft s).isSome=(inS tk s || E.gp s)
 nd:(E.bg::E.bn::bt::bi).Nodup
 gt : ∀b∈E.bg::E.bn::bt::bi,E.C<b
 rown : ∀x,v.ownBlock=some x->x∉E.bg::E.bn::bt::bi
theorem mem_getD {bi:List Nat} {j:Nat} (h:j<bi.length):bi.getD j 0∈bi:=by
 have:bi.getD j 0=bi[j]:=by simp[List.getD,h]
 rw[this];exact g_ h
theorem Cs.keep {E:CkV} {w w':World} {bsn:List (List ByteArray)} {bi:List Nat} {v:Value} {bt:Nat} {tk:List ByteArray} {fn st:Int} (h:Cs E w bsn bi v bt tk fn st) (hb:Below E.w0.heap.size E.w0 w')
  (hC:w'.heap[E.C]? = w.heap[E.C]?) (hr : ∀x,v.ownBlock=some x->w'.heap[x]? = w.heap[x]?) (hm : ∀b∈E.bg::E.bn::bt::bi,w'.heap[b]? = w.heap[b]?):Cs E w' bsn bi v bt tk fn st:=by
 obtain⟨ng,Dg,g0,g1,g2⟩:=h.glob;obtain⟨nt,Dt,ft,t0,t1,t2⟩:=h.tak;refine⟨h.box.keep hC,h.low,hb,h.fun0,h.row.keep hr,h.len,h.small,⟨ng,Dg,g0,map_keep g1 (hm _ (by simp)),g2⟩,λj hj => ?_,map_keep h.own (hm _ (by simp)),h.num,⟨nt,Dt,ft,t0,map_keep t1 (hm _ (by simp)),t2⟩,h.nd,h.gt,h.rown⟩;obtain⟨n,Dj,m0,m1,m2⟩:=h.maps j hj;exact⟨n,Dj,m0,map_keep m1 (hm _ (by have:=mem_getD hj;simp only[List.mem_cons];exact .inr (.inr (.inr this)))),m2⟩
theorem Cs.ltC {E:CkV} {w:World} {bsn:List (List ByteArray)} {bi:List Nat} {v:Value} {bt:Nat} {tk:List ByteArray} {fn st:Int} (h:Cs E w bsn bi v bt tk fn st):E.C<w.heap.size:=b_ h.box.c0
theorem Cs.lt {E:CkV} {w:World} {bsn:List (List ByteArray)} {bi:List Nat} {v:Value} {bt:Nat} {tk:List ByteArray} {fn st:Int} (h:Cs E w bsn bi v bt tk fn st) : ∀b∈E.bg::E.bn::bt::bi,b<w.heap.size:=by
 intro b hb;simp only[List.mem_cons] at hb;rcases hb with rfl|rfl|rfl|hb
 ·obtain⟨ng,Dg,g0,g1,g2⟩:=h.glob;exact g1.lt
 ·exact h.own.lt
 ·obtain⟨nt,Dt,ft,t0,t1,t2⟩:=h.tak;exact t1.lt
 ·obtain⟨j,hj,rfl⟩:=List.getElem_of_mem hb;obtain⟨n,Dj,m0,m1,m2⟩:=h.maps j hj;have:=m1.lt
  simpa[List.getD,hj] using this
theorem Cs.rlt {E:CkV} {w:World} {bsn:List (List ByteArray)} {bi:List Nat} {v:Value} {bt:Nat} {tk:List ByteArray} {fn st:Int} (h:Cs E w bsn bi v bt tk fn st) : ∀x,v.ownBlock=some x->E.C<x/\x<w.heap.size:=λx hx=>World.ownsRow.lt h.row x hx
theorem Cs.below {E:CkV} {w w':World} {bsn:List (List ByteArray)} {bi:List Nat} {v:Value} {bt:Nat} {tk:List ByteArray} {fn st:Int} (h:Cs E w bsn bi v bt tk fn st) (hb:Below w.heap.size w w'):Cs E w' bsn bi v bt tk fn st:=
 h.keep (h.base.trans (hb.mono h.base.size)) (hb.block _ h.ltC) (λx hx=>hb.block _ (h.rlt x hx).2) (λb hm=>hb.block _ (h.lt b hm))
theorem wordF_getD (bsn:List (List ByteArray)) (gs:List Gl) (j:Nat) (hj:j<bsn.length):(scopesF gs bsn).getD (j+1) noF=wordF (bsn.getD j []):=by
 simp[scopesF,List.getD,hj]
theorem Cs.ck {E:CkV} {w:World} {bsn:List (List ByteArray)} {bi:List Nat} {v:Value} {bt:Nat} {tk:List ByteArray} {fn st:Int} (h:Cs E w bsn bi v bt tk fn st) (hgf:E.gf=globF E.t.globals):Ck w E.C (E.C+1) E.bn E.nn E.D E.t bsn (E.bg::bi) v E.vf fn st:=by
 refine⟨h.box.c0,h.box.c2,h.box.c3,h.box.c5,h.box.c6,h.row,by simp[scopesF,h.len],by have:=h.small;simp;omega,λj hj => ?_,h.own,h.num,h.fun0.1.below h.base⟩;cases j with
 | zero=>
  obtain⟨ng,Dg,g0,g1,g2⟩:=h.glob;exact⟨ng,Dg,by simpa using g1,by simpa[scopesF,List.getD,<-hgf] using g2⟩
 | succ j=>
  have hj':j<bi.length:=by simpa using hj
  obtain⟨n,Dj,m0,m1,m2⟩:=h.maps j hj';refine⟨n,Dj,by simpa[List.getD] using m1,?_⟩;rw[wordF_getD _ _ _ (by rw[h.len];exact hj')];exact m2
theorem Cs.put {E:CkV} {w:World} {bsn:List (List ByteArray)} {bi:List Nat} {v:Value} {bt:Nat} {tk:List ByteArray} {fn st fn' st':Int} (h:Cs E w bsn bi v bt tk fn st) (o:Nat) (u:Value) (hx:CBox (w.setCell ⟨E.C,o,none⟩ u) E.C v E.vg E.vf E.bn bt fn' st'):Cs E (w.setCell ⟨E.C,o,none⟩ u) bsn bi v bt tk fn' st':=by
 have hm : ∀b,E.C<b->(w.setCell ⟨E.C,o,none⟩ u).heap[b]? = w.heap[b]? := λb hb=>Below.heap_setCell _ _ _ b (λe=>by simp at e;omega);obtain⟨ng,Dg,g0,g1,g2⟩:=h.glob;obtain⟨nt,Dt,ft,t0,t1,t2⟩:=h.tak;refine⟨hx,h.low,h.base.setCell (p:=⟨E.C,o,none⟩) h.low u,h.fun0,h.row.other o_,h.len,h.small,⟨ng,Dg,g0,map_keep g1 (hm _ (h.gt _ (by simp))),g2⟩,λj hj => ?_,map_keep h.own (hm _ (h.gt _ (by simp))),h.num,⟨nt,Dt,ft,t0,map_keep t1 (hm _ (h.gt _ (by simp))),t2⟩,h.nd,h.gt,h.rown⟩;obtain⟨n,Dj,m0,m1,m2⟩:=h.maps j hj;exact⟨n,Dj,m0,map_keep m1 (hm _ (h.gt _ (by have:=mem_getD hj;simp only[List.mem_cons];exact .inr (.inr (.inr this))))),m2⟩
theorem Cs.stmt {E:CkV} {w:World} {bsn:List (List ByteArray)} {bi:List Nat} {v:Value} {bt:Nat} {tk:List ByteArray} {fn st:Int} (h:Cs E w bsn bi v bt tk fn st) (z:Int):Cs E (w.setCell ⟨E.C,6,none⟩ (.int .i64 z)) bsn bi v bt tk fn z:=h.put 6 _ (h.box.s6 z)
section
variable {α:Type} {E:CkV} {bt b:Nat} {bi:List Nat} {w:World} {bsn:List (List ByteArray)} {v:Value} {tk xs:List ByteArray} {fn st:Int} {s:ByteArray}
theorem getD_snoc_lt (l:List α) (x d:α) (j:Nat) (h:j<l.length):(l++[x]).getD j d=l.getD j d:=by simp[List.getD,List.getElem?_append_left h]
theorem getD_snoc_at (l:List α) (x d:α) (j:Nat) (h:j=l.length):(l++[x]).getD j d=x:=by subst h;simp[List.getD]
theorem mem3 {x:Nat} (h:x∈bi):x∈E.bg::E.bn::bt::bi:=by simp[h]
def Sb (E:CkV) (v:Value) (bt:Nat):Nat->Prop:=λk=>k=E.C∨k=bt∨v.ownBlock=some k
theorem openK (h:Cs E w bsn bi v bt tk fn st) (hs:bi.length<900000) :
  Calls prog 136 #[.pointer (some ⟨E.C,0,none⟩)] w λe w'=>(∃u,e=.returned u)/\∃v',Cs E w' (bsn++[[]]) (bi++[w.heap.size]) v' bt tk fn st/\Tcs (Sb E v bt) w w'/\(∀k,v'.ownBlock=some k->v.ownBlock=some k∨w.heap.size<=k):=by
 have hC:=h.ltC;refine (open_any E.C (E.C+1) (E.bg::bi) v w o_ hC h.box.c0 (h.box.fz 0) h.row (by simp;omega)).mono ?_;rintro e w' ⟨he,v',w1,rfl,hrow,hmap,hg,hown⟩;have hm : ∀b,b<w.heap.size->b≠E.C->some b≠v.ownBlock->(w1.setCell ⟨E.C,0,none⟩ v').heap[b]? = w.heap[b]? := λb hb hc hr=>(Below.heap_setCell _ _ _ b (λe=>hc e)).trans (hg.block b hb hr);have hk : ∀b∈E.bg::E.bn::bt::bi,(w1.setCell ⟨E.C,0,none⟩ v').heap[b]? = w.heap[b]? := λb hb=>hm b (h.lt b hb) (by have:=h.gt b hb;omega) (λe=>h.rown b e.symm hb);have hC1:w1.heap[E.C]? = w.heap[E.C]? := hg.block E.C hC (λe=>by have:=(h.rlt _ e.symm).1;omega);obtain⟨ng,Dg,g0,g1,g2⟩:=h.glob;obtain⟨nt,Dt,ft,t0,t1,t2⟩:=h.tak;have hr0 : ∀k,v.ownBlock=some k->E.w0.heap.size<=k:=λk hk=>by have:=(h.rlt k hk).1;have:=h.low;omega
 refine⟨he,v',⟨(h.box.keep hC1).s0 v',h.low,((h.base.grown hg h.base.size hr0).setCell (p:=⟨E.C,0,none⟩) h.low v'),h.fun0,hrow,by simp[h.len],by simp;omega,⟨ng,Dg,g0,map_keep g1 (hk _ (by simp)),g2⟩,λj hj => ?_,map_keep h.own (hk _ (by simp)),h.num,⟨nt,Dt,ft,t0,map_keep t1 (hk _ (by simp)),t2⟩,?_,?_,?_⟩,?_,?_⟩
 ·simp only[l_a,l_c,l_n] at hj;by_cases hl:j<bi.length
  ·obtain⟨n,Dj,m0,m1,m2⟩:=h.maps j hl;refine⟨n,Dj,?_,?_,?_⟩
   ·rw[getD_snoc_lt _ _ _ _ (by rw[h.len];exact hl)];exact m0
   ·rw[getD_snoc_lt _ _ _ _ hl];exact map_keep m1 (hk _ (mem3 (mem_getD hl)))
   ·rw[getD_snoc_lt _ _ _ _ (by rw[h.len];exact hl)];exact m2
  ·have hj0:j=bi.length:=by omega
   refine⟨0,.map [],y_,?_,?_⟩
   ·rw[getD_snoc_at _ _ _ _ hj0];exact hmap
   ·rw[getD_snoc_at _ _ _ _ (by rw[h.len];exact hj0),wordF_nil];exact MapIs.nil
 ·have e:E.bg::E.bn::bt::(bi++[w.heap.size])=(E.bg::E.bn::bt::bi)++[w.heap.size]:=by simp
  rw[e,List.nodup_append];refine⟨h.nd,by simp,λa ha b hb => ?_⟩;simp only[List.mem_singleton] at hb;have:=h.lt a ha
  omega
 ·intro b hb;have e:E.bg::E.bn::bt::(bi++[w.heap.size])=(E.bg::E.bn::bt::bi)++[w.heap.size]:=by simp
  rw[e,List.mem_append] at hb;rcases hb with hb|hb
  ·exact h.gt b hb
  ·simp only[List.mem_singleton] at hb;omega
 ·intro x hx hb;have e:E.bg::E.bn::bt::(bi++[w.heap.size])=(E.bg::E.bn::bt::bi)++[w.heap.size]:=by simp
  rw[e,List.mem_append,List.mem_singleton] at hb;rcases hown x hx with h1|h1
  ·rcases hb with hb|hb
   ·exact h.rown x h1 hb
   ·have:=(h.rlt x h1).2;omega
  ·rcases hb with hb|hb
   ·have:=h.lt x hb;omega
   ·omega
 ·refine (Tcs.of_grown hg (S:=Sb E v bt) (λk hk=>.inr (.inr hk))).setCell (p:=⟨E.C,0,none⟩) (.inl rfl) v'
 ·intro k hk;rcases hown k hk with h1|h1
  ·exact .inl h1
  ·exact .inr o_
theorem closeK (h:Cs E w (bsn++[xs]) (bi++[b]) v bt tk fn st) (u:FrameMode) :
  CallsD prog 173 #[.pointer (some ⟨E.C,0,none⟩)] u w λe u' w'=>u'=u/\(∃u,e=.returned u)/\∃v',Cs E w' bsn bi v' bt tk fn st/\Tcs (λk=>k=E.C) w w'/\v'.ownBlock=v.ownBlock:=by
 have hC:=h.ltC;have hsm:=h.small;simp only[l_a,l_c,l_n] at hsm;refine (closeD_any u E.C (E.C+1) b (E.bg::bi) v w o_ h.box.c0 (h.box.fz 0) h.row (by simp;omega)).mono ?_;rintro e u' w' ⟨hu,he,v',rfl,hrow,hown⟩;have hm : ∀b,E.C<b->(w.setCell ⟨E.C,0,none⟩ v').drew.heap[b]? = w.heap[b]? := λb hb=>Below.heap_setCell _ _ _ b (λe=>by simp at e;omega);obtain⟨ng,Dg,g0,g1,g2⟩:=h.glob;obtain⟨nt,Dt,ft,t0,t1,t2⟩:=h.tak;have hlen:bsn.length=bi.length:=by have:=h.len;simpa using this
 have hsub : ∀x∈E.bg::E.bn::bt::bi,x∈E.bg::E.bn::bt::(bi++[b]):=λx hx=>by
  simp only[List.mem_cons,List.mem_append] at hx ⊢;rcases hx with h1|h1|h1|h1
  ·exact .inl h1
  ·exact .inr (.inl h1)
  ·exact .inr (.inr (.inl h1))
  ·exact .inr (.inr (.inr (.inl h1)))
 refine⟨hu,he,v',⟨(h.box.s0 v').keep rfl,h.low,(h.base.setCell (p:=⟨E.C,0,none⟩) h.low v').drew,h.fun0,hrow,hlen,by omega,⟨ng,Dg,g0,map_keep g1 (hm _ (h.gt _ (by simp))),g2⟩,λj hj => ?_,map_keep h.own (hm _ (h.gt _ (by simp))),h.num,⟨nt,Dt,ft,t0,map_keep t1 (hm _ (h.gt _ (by simp))),t2⟩,?_,λx hx=>h.gt x (hsub x hx),λx hx hb=>h.rown x (hown ▸ hx) (hsub x hb)⟩,((Tcs.refl (λk=>k=E.C) w).setCell (p:=⟨E.C,0,none⟩) rfl v').drew,hown⟩
 ·obtain⟨n,Dj,m0,m1,m2⟩:=h.maps j (by simp;omega);rw[getD_snoc_lt _ _ _ _ o_] at m0 m2;rw[getD_snoc_lt _ _ _ _ hj] at m1;exact⟨n,Dj,m0,map_keep m1 (hm _ (h.gt _ (hsub _ (mem3 (mem_getD hj))))),m2⟩
 ·have e:E.bg::E.bn::bt::(bi++[b])=(E.bg::E.bn::bt::bi)++[b]:=by simp
  have:=h.nd
  rw[e,List.nodup_append] at this;exact this.1
theorem takeOld (h:Cs E w bsn bi v bt tk fn st) (hs:s.size<=maxLen) (hx:inS tk s=true∨E.gp s=true) :
  Calls prog 137 #[.pointer (some ⟨E.C,0,none⟩),.string s] w λev w'=>ev=.returned (errV 2 fn st)/\w'=w:=by
 obtain⟨nt,Dt,ft,t0,t1,t2,t3⟩:=h.tak;have hf:(ft s).isSome=true:=by
  rw[t3];rcases hx with h1|h1
  ·simp[h1]
  ·simp[h1]
 obtain⟨z,hz⟩:=Option.isSome_iff_exists.1 hf;exact take_old E.C bt nt fn st Dt ft s z w h.box.c4 h.box.c5 h.box.c6 t1 t2 hs hz
theorem takeNew (h:Cs E w bsn bi v bt tk fn st) (hs:s.size<=maxLen) (htk:tk.length<=100000000) (hx : ¬(inS tk s=true∨E.gp s=true)) :
  Calls prog 137 #[.pointer (some ⟨E.C,0,none⟩),.string s] w λev w'=>ev=.returned .nilIface/\Cs E w' bsn bi v bt (tk++[s]) fn st/\Tcs (λk=>k=bt) w w':=by
 obtain⟨nt,Dt,ft,t0,t1,t2,t3⟩:=h.tak;have hf:ft s=none:=by
  have:=t3 s
  cases hfs:ft s with
  | none=>rfl
  | some z=>
   rw[hfs] at this;have h2:(inS tk s || E.gp s)=true:=by rw[<-this];rfl
   rw[Bool.or_eq_true] at h2;exact (hx h2).elim
 refine (take_new E.C bt nt Dt ft s w h.box.c4 t1 t2 o_ hs hf).mono ?_;rintro ev w' ⟨rfl,D',d1,d2,hg⟩;have hnd:=h.nd;simp only[List.nodup_cons,List.mem_cons,not_or] at hnd;obtain⟨⟨n1,n2,n3⟩,⟨n4,n5⟩,n6,n7⟩:=hnd;have hm : ∀b,b<w.heap.size->b≠bt->w'.heap[b]? = w.heap[b]? := λb hb hc=>hg.block b hb (λe=>hc (by simpa using e));have hbt:=h.gt bt (by simp);obtain⟨ng,Dg,g0,g1,g2⟩:=h.glob;refine⟨rfl,⟨h.box.keep (hm _ h.ltC o_),h.low,h.base.grown hg h.base.size (λk hk=>by cases hk;have:=h.low;omega),h.fun0,h.row.keep (λx hx=>hm x (h.rlt x hx).2 (λe=>h.rown x hx (by simp[e]))),h.len,h.small,⟨ng,Dg,g0,map_keep g1 (hm _ (h.lt _ (by simp)) n2),g2⟩,λj hj => ?_,map_keep h.own (hm _ (h.lt _ (by simp)) n4),h.num,⟨nt+1,D',_,by simp;omega,d1,d2,λx => ?_⟩,h.nd,h.gt,h.rown⟩,Tcs.of_grown hg (λk hk=>by cases hk;rfl)⟩
 ·obtain⟨n,Dj,m0,m1,m2⟩:=h.maps j hj;refine⟨n,Dj,m0,map_keep m1 (hm _ (h.lt _ (mem3 (mem_getD hj))) (λe=>n6 (e ▸ mem_getD hj))),m2⟩
 ·unfold setN;rw[inS_append];by_cases hsx:s=x
  ·have:inS [s] x=true:=inS_at (k:=0) (by simp) (by simpa using hsx)
   simp[hsx,this];simp[hsx] at this;simp[this]
  ·have:inS [s] x=false:=inS_no (λj hj=>by simp at hj;subst hj;simpa using hsx)
   simp[hsx,this,t3 x]
theorem addK (h:Cs E w (bsn++[xs]) (bi++[b]) v bt tk fn st) (hs:s.size<=maxLen) (hxs:xs.length<=100000000) :
  Calls prog 138 #[.pointer (some ⟨E.C,0,none⟩),.string s,.int .i64 0] w λe w'=>(∃u,e=.returned u)/\Cs E w' (bsn++[xs++[s]]) (bi++[b]) v bt tk fn st/\Tcs (λk=>k=b) w w':=by
 have hsm:=h.small;simp only[l_a,l_c,l_n] at hsm;have hlen:bsn.length=bi.length:=by have:=h.len;simpa using this
 have hbm:b∈E.bg::E.bn::bt::(bi++[b]):=by simp
 obtain⟨nb,Db,b0,b1,b2⟩:=h.maps bi.length (by simp);rw[getD_snoc_at _ _ _ _ hlen.symm] at b0 b2;rw[getD_snoc_at _ _ _ _ rfl] at b1;have hCb:=h.gt b hbm;refine (add_any E.C (E.C+1) b nb (E.bg::bi) v Db _ s 0 w h.box.c0 h.row (by simp;omega) o_ (λx hx e=>h.rown x hx (e ▸ hbm)) b1 b2 o_ hs (by decide)).mono ?_;rintro e w' ⟨he,D',d1,d2,hg⟩;have hnd:=h.nd;have e:E.bg::E.bn::bt::(bi++[b])=(E.bg::E.bn::bt::bi)++[b]:=by simp
 rw[e,List.nodup_append] at hnd;obtain⟨-,-,hnd⟩:=hnd;have hm : ∀k,k<w.heap.size->k≠b->w'.heap[k]? = w.heap[k]? := λk hk hc=>(hg.block k hk (λe=>hc (by simpa using e)));have hn : ∀k∈E.bg::E.bn::bt::bi,k≠b:=λk hk=>hnd k hk b (by simp);have hl : ∀k∈E.bg::E.bn::bt::bi,k<w.heap.size:=λk hk=>h.lt k (by rw[e];exact List.mem_append_left _ hk);obtain⟨ng,Dg,g0,g1,g2⟩:=h.glob;obtain⟨nt,Dt,ft,t0,t1,t2⟩:=h.tak;have hg0:w.grownBy w' (some b):=⟨hg.os,hg.tape,hg.output,hg.size,hg.block⟩;refine⟨he,⟨h.box.keep (hm _ h.ltC o_),h.low,h.base.grown hg0 h.base.size (λk hk=>by cases hk;have:=h.low;omega),h.fun0,h.row.keep (λx hx=>hm x (h.rlt x hx).2 (λe=>h.rown x hx (e ▸ hbm))),by simp[hlen],h.small,⟨ng,Dg,g0,map_keep g1 (hm _ (hl _ (by simp)) (hn _ (by simp))),g2⟩,λj hj => ?_,map_keep h.own (hm _ (hl _ (by simp)) (hn _ (by simp))),h.num,⟨nt,Dt,ft,t0,map_keep t1 (hm _ (hl _ (by simp)) (hn _ (by simp))),t2⟩,h.nd,h.gt,h.rown⟩,Tcs.of_grown hg0 (λk hk=>by cases hk;rfl)⟩;simp only[l_a,l_c,l_n] at hj;by_cases hjl:j<bi.length
 ·obtain⟨n,Dj,m0,m1,m2⟩:=h.maps j (by simp;omega);rw[getD_snoc_lt _ _ _ _ o_] at m0 m2;rw[getD_snoc_lt _ _ _ _ hjl] at m1;refine⟨n,Dj,?_,?_,?_⟩
  ·rw[getD_snoc_lt _ _ _ _ o_];exact m0
  ·rw[getD_snoc_lt _ _ _ _ hjl];exact map_keep m1 (hm _ (hl _ (mem3 (mem_getD hjl))) (hn _ (mem3 (mem_getD hjl))))
  ·rw[getD_snoc_lt _ _ _ _ o_];exact m2
 ·have hj0:j=bi.length:=by omega
  refine⟨nb+1,D',?_,?_,?_⟩
  ·rw[getD_snoc_at _ _ _ _ o_];simp;omega
  ·rw[getD_snoc_at _ _ _ _ hj0];exact d1
  ·rw[getD_snoc_at _ _ _ _ o_,<-wordF_snoc];exact d2
theorem addG (h:Cs E w [] [] v bt tk fn st) {z:Int} (hs:s.size<=maxLen) (hz:(Lit.int .i64 z).wf=true) (hng:E.ng<=100000000) :
  Calls prog 138 #[.pointer (some ⟨E.C,0,none⟩),.string s,.int .i64 z] w λe w'=>(∃u,e=.returned u)/\Cs {E with gf:=setN E.gf s z,ng:=E.ng+1} w' [] [] v bt tk fn st/\Tcs (λk=>k=E.bg) w w':=by
 obtain⟨nb,Db,b0,b1,b2⟩:=h.glob;have hbm:E.bg∈E.bg::E.bn::bt::[]:=by simp
 have hCb:=h.gt E.bg hbm;refine (add_any E.C (E.C+1) E.bg nb [] v Db _ s z w h.box.c0 h.row (by simp) o_ (λx hx e=>h.rown x hx (e ▸ hbm)) b1 b2 o_ hs hz).mono ?_;rintro e w' ⟨he,D',d1,d2,hg⟩;have hnd:=h.nd;simp only[List.nodup_cons,List.mem_cons,not_or,List.not_mem_nil,not_false_eq_true,and_true] at hnd;obtain⟨⟨n1,n2⟩,n4,-⟩:=hnd;have hm : ∀k,k<w.heap.size->k≠E.bg->w'.heap[k]? = w.heap[k]? := λk hk hc=>(hg.block k hk (λe=>hc (by simpa using e)));obtain⟨nt,Dt,ft,t0,t1,t2⟩:=h.tak;have hg0:w.grownBy w' (some E.bg):=⟨hg.os,hg.tape,hg.output,hg.size,hg.block⟩;exact⟨he,⟨h.box.keep (hm _ h.ltC o_),h.low,h.base.grown hg0 h.base.size (λk hk=>by cases hk;have:=h.low;omega),h.fun0,h.row.keep (λx hx=>hm x (h.rlt x hx).2 (λe=>h.rown x hx (e ▸ hbm))),rfl,h.small,⟨nb+1,D',Nat.succ_le_succ b0,d1,d2⟩,λj hj=>absurd hj (by simp),map_keep h.own (hm _ (h.lt _ (by simp)) (λe=>n1 e.symm)),h.num,⟨nt,Dt,ft,t0,map_keep t1 (hm _ (h.lt _ (by simp)) (λe=>n2 e.symm)),t2⟩,h.nd,h.gt,h.rown⟩,Tcs.of_grown hg0 (λk hk=>by cases hk;rfl)⟩
end
end Go.Proofs.YtffnkkpmlplfeaaGreatDoor
