import Derived.Test.YtffnkkpmlplfeaaGreatDoorF28
import Derived.Test.YtffnkkpmlplfeaaGreatDoorF37
namespace Go.Proofs.YtffnkkpmlplfeaaGreatDoor
open Go.World List
open Go.Proofs.Tryz Go.RowKit
set_option linter.all false
set_option maxRecDepth 100000
set_option maxHeartbeats 0
variable[Inhabited Pick]
structure gX (w:AT) (C:Nat) (v vg vf:BY) (bn bt:Nat) (fn st:Int):Prop where
 c0:w.cell? ⟨C,0,none⟩=some v
 c1:w.cell? ⟨C,1,none⟩=some vg
 c2:w.cell? ⟨C,2,none⟩=some vf
 c3:w.cell? ⟨C,3,none⟩=some (.map (some bn))
 c4:w.cell? ⟨C,4,none⟩=some (.map (some bt))
 c5:w.cell? ⟨C,5,none⟩=some (V fn)
 c6:w.cell? ⟨C,6,none⟩=some (V st)
 fz:∀o,w.frozen? ⟨C,o,none⟩=false
def gX.keep{w w':AT}{C:Nat}{v vg vf:BY}{bn bt:Nat}{fn st:Int}(h:gX w C v vg vf bn bt fn st)(hb:w'.heap[C]? =w.heap[C]?):gX w' C v vg vf bn bt fn st:=
 ⟨(c_ (a:=⟨C,0,none⟩) hb).trans h.c0,(c_ (a:=⟨C,1,none⟩) hb).trans h.c1,(c_ (a:=⟨C,2,none⟩) hb).trans h.c2,(c_ (a:=⟨C,3,none⟩) hb).trans h.c3,(c_ (a:=⟨C,4,none⟩) hb).trans h.c4,(c_ (a:=⟨C,5,none⟩) hb).trans h.c5,(c_ (a:=⟨C,6,none⟩) hb).trans h.c6,λo=>(frozen?_of_block (a:=⟨C,o,none⟩) hb).trans (h.fz o)⟩
def gX.s0{w:AT}{C:Nat}{v vg vf:BY}{bn bt:Nat}{fn st:Int}(h:gX w C v vg vf bn bt fn st)(v':BY):gX (w.setCell ⟨C,0,none⟩ v') C v' vg vf bn bt fn st:=
 ⟨cell?_setCell_same _ _ _ h.c0,(s_ _ _ _ _ (bJ d_)).trans h.c1,(s_ _ _ _ _ (bJ d_)).trans h.c2,(s_ _ _ _ _ (bJ d_)).trans h.c3,(s_ _ _ _ _ (bJ d_)).trans h.c4,(s_ _ _ _ _ (bJ d_)).trans h.c5,(s_ _ _ _ _ (bJ d_)).trans h.c6,λo=>by simpa using h.fz o⟩
def gX.s4{w:AT}{C:Nat}{v vg vf:BY}{bn bt:Nat}{fn st:Int}(h:gX w C v vg vf bn bt fn st)(bt':Nat):gX (w.setCell ⟨C,4,none⟩ (.map (some bt'))) C v vg vf bn bt' fn st:=
 ⟨(s_ _ _ _ _ (bJ d_)).trans h.c0,(s_ _ _ _ _ (bJ d_)).trans h.c1,(s_ _ _ _ _ (bJ d_)).trans h.c2,(s_ _ _ _ _ (bJ d_)).trans h.c3,cell?_setCell_same _ _ _ h.c4,(s_ _ _ _ _ (bJ d_)).trans h.c5,(s_ _ _ _ _ (bJ d_)).trans h.c6,λo=>by simpa using h.fz o⟩
def gX.s5{w:AT}{C:Nat}{v vg vf:BY}{bn bt:Nat}{fn st:Int}(h:gX w C v vg vf bn bt fn st)(z:Int):gX (w.setCell ⟨C,5,none⟩ (V z)) C v vg vf bn bt z st:=
 ⟨(s_ _ _ _ _ (bJ d_)).trans h.c0,(s_ _ _ _ _ (bJ d_)).trans h.c1,(s_ _ _ _ _ (bJ d_)).trans h.c2,(s_ _ _ _ _ (bJ d_)).trans h.c3,(s_ _ _ _ _ (bJ d_)).trans h.c4,cell?_setCell_same _ _ _ h.c5,(s_ _ _ _ _ (bJ d_)).trans h.c6,λo=>by simpa using h.fz o⟩
def gX.s6{w:AT}{C:Nat}{v vg vf:BY}{bn bt:Nat}{fn st:Int}(h:gX w C v vg vf bn bt fn st)(z:Int):gX (w.setCell ⟨C,6,none⟩ (V z)) C v vg vf bn bt fn z:=
 ⟨(s_ _ _ _ _ (bJ d_)).trans h.c0,(s_ _ _ _ _ (bJ d_)).trans h.c1,(s_ _ _ _ _ (bJ d_)).trans h.c2,(s_ _ _ _ _ (bJ d_)).trans h.c3,(s_ _ _ _ _ (bJ d_)).trans h.c4,(s_ _ _ _ _ (bJ d_)).trans h.c5,cell?_setCell_same _ _ _ h.c6,λo=>by simpa using h.fz o⟩
structure ld where
 w0:AT
 C:Nat
 bg:Nat
 bn:Nat
 nn:Nat
 D:DataW Unit
 t:Tr
 vg:BY
 vf:BY
 gf:GA->Option Int
 gp:GA->Bool
 ng:Nat
def ja.keep{B:Nat}{w w':AT}{v:BY}{bs:List Nat}(h:ja B w v bs)(hb:∀x,v.ownBlock=some x->w'.heap[x]? =w.heap[x]?):ja B w' v bs:=by
 obtain⟨Y,I⟩:=h;refine⟨Y,?_⟩;rcases I with I|⟨g,Jb,Z,rfl,g3,J,U⟩
 ·exact .inl I
 ·refine .inr ⟨g,Jb,Z,rfl,g3,?_,U⟩;rw[hb g rfl];exact J
structure Cs (E:ld) (w:AT) (bsn:List (List GA)) (bi:List Nat) (v:BY) (bt:Nat) (tk:List GA) (fn st:Int):Prop where
 box:gX w E.C v E.vg E.vf E.bn bt fn st
 low:E.w0.heap.size<=E.C
 base:Below E.w0.heap.size E.w0 w
 fun0:bC E.w0 E.vf E.t.funcs/\cK E.w0 E.vg E.t.globals
 row:ja (E.C+1) w v (E.bg::bi)
 len:bsn.length=bi.length
 small:bi.length<=900000
 glob:∃ng Dg,ng<=E.ng/\w.ownsMap prog 9 (plainElem (H:=Unit) prog 2) E.bg ng Dg/\dy Dg E.gf
 maps:∀j,j<bi.length->∃n Dj,n<=(bsn.getD j []).length/\w.ownsMap prog 9 (plainElem (H:=Unit) prog 2) (bi.getD j 0) n Dj/\dy Dj (i9 (bsn.getD j []))
 own:w.ownsMap prog 9 (plainElem (H:=Unit) prog 2) E.bn E.nn E.D
 num:cR E.D E.t.funcs
 tak:∃nt Dt ft,nt<=tk.length+1000/\w.ownsMap prog 9 (plainElem (H:=Unit) prog 2) bt nt Dt/\dy Dt ft/\∀s,(ft s).isSome=(du tk s || E.gp s)
 nd:(E.bg::E.bn::bt::bi).Nodup
 gt:∀b∈E.bg::E.bn::bt::bi,E.C<b
 rown:∀x,v.ownBlock=some x->x∉E.bg::E.bn::bt::bi
def fA{I:List Nat}{j:Nat}(h:j<I.length):I.getD j 0∈I:=by
 have:I.getD j 0=I[j]:=by simp[List.getD,h]
 rw[this];exact g_ h
def Cs.keep{E:ld}{w w':AT}{Z:List (List GA)}{J:List Nat}{v:BY}{U:Nat}{tk:List GA}{Y st:Int}(h:Cs E w Z J v U tk Y st)(hb:Below E.w0.heap.size E.w0 w')
  (hC:w'.heap[E.C]? =w.heap[E.C]?) (hr:∀x,v.ownBlock=some x->w'.heap[x]? =w.heap[x]?) (I:∀b∈E.bg::E.bn::U::J,w'.heap[b]? =w.heap[b]?):Cs E w' Z J v U tk Y st:=by
 obtain⟨ng,Dg,g0,g1,g2⟩:=h.glob;obtain⟨nt,Dt,ft,t0,t1,t2⟩:=h.tak;refine⟨h.box.keep hC,h.low,hb,h.fun0,h.row.keep hr,h.len,h.small,⟨ng,Dg,g0,aL g1 (I _ i_),g2⟩,λj hj=>?_,aL h.own (I _ i_),h.num,⟨nt,Dt,ft,t0,aL t1 (I _ i_),t2⟩,h.nd,h.gt,h.rown⟩;obtain⟨n,Dj,m0,m1,m2⟩:=h.maps j hj;exact⟨n,Dj,m0,aL m1 (I _ (by have:=fA hj;simp only[mem_cons];exact .inr (.inr (.inr this)))),m2⟩
def Cs.ltC{E:ld}{w:AT}{bsn:List (List GA)}{bi:List Nat}{v:BY}{bt:Nat}{tk:List GA}{fn st:Int}(h:Cs E w bsn bi v bt tk fn st):E.C<w.heap.size:=b_ h.box.c0
def Cs.lt{E:ld}{w:AT}{Ja:List (List GA)}{J:List Nat}{v:BY}{U:Nat}{tk:List GA}{fn st:Int}(h:Cs E w Ja J v U tk fn st):∀b∈E.bg::E.bn::U::J,b<w.heap.size:=by
 intro b hb;simp only[mem_cons]at hb;rcases hb with rfl|rfl|rfl|hb
 ·obtain⟨ng,Dg,g0,Y,g2⟩:=h.glob;exact Y.lt
 ·exact h.own.lt
 ·obtain⟨nt,Dt,ft,t0,Z,t2⟩:=h.tak;exact Z.lt
 ·obtain⟨j,I,rfl⟩:=getElem_of_mem hb;obtain⟨n,Dj,m0,m1,m2⟩:=h.maps j I;have:=m1.lt
  simpa[List.getD,I]using this
def Cs.rlt{E:ld}{w:AT}{bsn:List (List GA)}{bi:List Nat}{v:BY}{bt:Nat}{tk:List GA}{fn st:Int}(h:Cs E w bsn bi v bt tk fn st):∀x,v.ownBlock=some x->E.C<x/\x<w.heap.size:=λx hx=>ownsRow.lt h.row x hx
def Cs.below{E:ld}{w w':AT}{bsn:List (List GA)}{bi:List Nat}{v:BY}{bt:Nat}{tk:List GA}{fn st:Int}(h:Cs E w bsn bi v bt tk fn st)(hb:Bl w w'):Cs E w' bsn bi v bt tk fn st:=
 h.keep (h.base.trans (hb.mono h.base.size)) (hb.block _ h.ltC) (λx hx=>hb.block _ (h.rlt x hx).2) (λb hm=>hb.block _ (h.lt b hm))
def sI(h:List (List GA))(gs:List Gl)(j:Nat)(I:j<h.length):(eI gs h).getD (j+1) Co=i9 (h.getD j []):=by
 simp[eI,List.getD,I]
theorem Cs.ck{E:ld}{w:AT}{Y:List (List GA)}{I:List Nat}{v:BY}{bt:Nat}{tk:List GA}{U st:Int}(h:Cs E w Y I v bt tk U st)(Jc:E.gf=cV E.t.globals):Ck w E.C (E.C+1) E.bn E.nn E.D E.t Y (E.bg::I) v E.vf U st:=by
 refine⟨h.box.c0,h.box.c2,h.box.c3,h.box.c5,h.box.c6,h.row,by simp[eI,h.len],by have:=h.small;simp;omega,λj hj=>?_,h.own,h.num,h.fun0.1.below h.base⟩;cases j with
 | zero=>
  obtain⟨ng,Dg,g0,g1,Z⟩:=h.glob;exact⟨ng,Dg,Fc g1,by simpa[eI,List.getD,<-Jc]using Z⟩
 | succ j=>
  have J:j<I.length:=Fc hj
  obtain⟨n,Dj,m0,m1,m2⟩:=h.maps j J;refine⟨n,Dj,by simpa[List.getD]using m1,?_⟩;rw[sI _ _ _ (by rw[h.len];exact J)];exact m2
def Cs.put{E:ld}{w:AT}{Y:List (List GA)}{U:List Nat}{v:BY}{J:Nat}{tk:List GA}{fn st Z st':Int}(h:Cs E w Y U v J tk fn st)(o:Nat)(u:BY)(hx:gX (w.setCell ⟨E.C,o,none⟩ u) E.C v E.vg E.vf E.bn J Z st'):Cs E (w.setCell ⟨E.C,o,none⟩ u) Y U v J tk Z st':=by
 have I:∀b,E.C<b->(w.setCell ⟨E.C,o,none⟩ u).heap[b]? =w.heap[b]? := λb hb=>Below.heap_setCell _ _ _ b (λe=>by simp at e;omega);obtain⟨ng,Dg,g0,g1,g2⟩:=h.glob;obtain⟨nt,Dt,ft,t0,t1,t2⟩:=h.tak;refine⟨hx,h.low,h.base.setCell (p:=⟨E.C,o,none⟩) h.low u,h.fun0,h.row.other o_,h.len,h.small,⟨ng,Dg,g0,aL g1 (I _ (h.gt _ i_)),g2⟩,λj hj=>?_,aL h.own (I _ (h.gt _ i_)),h.num,⟨nt,Dt,ft,t0,aL t1 (I _ (h.gt _ i_)),t2⟩,h.nd,h.gt,h.rown⟩;obtain⟨n,Dj,m0,m1,m2⟩:=h.maps j hj;exact⟨n,Dj,m0,aL m1 (I _ (h.gt _ (by have:=fA hj;simp only[mem_cons];exact .inr (.inr (.inr this))))),m2⟩
def Cs.stmt{E:ld}{w:AT}{bsn:List (List GA)}{bi:List Nat}{v:BY}{bt:Nat}{tk:List GA}{fn st:Int}(h:Cs E w bsn bi v bt tk fn st)(z:Int):Cs E (w.setCell ⟨E.C,6,none⟩ (V z)) bsn bi v bt tk fn z:=h.put 6 _ (h.box.s6 z)
section
variable{α:Type}{E:ld}{bt b:Nat}{bi:List Nat}{w:AT}{bsn:List (List GA)}{v:BY}{tk xs:List GA}{fn st:Int}{s:GA}
def cy(l:List α)(x d:α)(j:Nat)(h:j<l.length):(l++[x]).getD j d=l.getD j d:=by simp[List.getD,getElem?_append_left h]
def dm(l:List α)(x d:α)(j:Nat)(h:j=l.length):(l++[x]).getD j d=x:=by subst h;simp[List.getD]
def mem3{x:Nat}(h:x∈bi):x∈E.bg::E.bn::bt::bi:=by simp[h]
def Sb(E:ld)(v:BY)(bt:Nat):D6:=λk=>k=E.C∨k=bt∨v.ownBlock=some k
def zE(h:Cs E w bsn bi v bt tk fn st)(hs:bi.length<900000):
  Calls prog 136 #[pV E.C] w λe w'=>(∃u,e=rW u)/\∃v',Cs E w' (bsn++[[]]) (bi++[w.heap.size]) v' bt tk fn st/\ak (Sb E v bt) w w'/\(∀k,v'.ownBlock=some k->v.ownBlock=some k∨w.heap.size<=k):=by
 have U:=h.ltC;refine(qq E.C (E.C+1) (E.bg::bi) v w o_ U h.box.c0 (h.box.fz 0) h.row ZFs).mono ?_;rintro e w' ⟨he,v',w1,rfl,Jc,Jb,J,Z⟩;have hm:∀b,b<w.heap.size->b≠E.C->some b≠v.ownBlock->(w1.setCell ⟨E.C,0,none⟩ v').heap[b]? =w.heap[b]? := λb hb hc hr=>(Below.heap_setCell _ _ _ b (λe=>hc e)).trans (J.block b hb hr);have I:∀b∈E.bg::E.bn::bt::bi,(w1.setCell ⟨E.C,0,none⟩ v').heap[b]? =w.heap[b]? := λb hb=>hm b (h.lt b hb) (Ft (h.gt b hb)) (λe=>h.rown b e.symm hb);have Jf:w1.heap[E.C]? =w.heap[E.C]? := J.block E.C U (λe=>by have:=(h.rlt _ e.symm).1;omega);obtain⟨ng,Dg,g0,g1,g2⟩:=h.glob;obtain⟨nt,Dt,ft,t0,t1,t2⟩:=h.tak;have Je:∀k,v.ownBlock=some k->E.w0.heap.size<=k:=λk I=>by have:=(h.rlt k I).1;have:=h.low;omega
 refine⟨he,v',⟨(h.box.keep Jf).s0 v',h.low,((h.base.grown J h.base.size Je).setCell (p:=⟨E.C,0,none⟩) h.low v'),h.fun0,Jc,by simp[h.len],by simp;omega,⟨ng,Dg,g0,aL g1 (I _ i_),g2⟩,λj hj=>?_,aL h.own (I _ i_),h.num,⟨nt,Dt,ft,t0,aL t1 (I _ i_),t2⟩,?_,?_,?_⟩,?_,?_⟩
 ·simp only[l_a,l_c,l_n]at hj;by_cases hl:j<bi.length
  ·obtain⟨n,Dj,m0,m1,m2⟩:=h.maps j hl;refine⟨n,Dj,?_,?_,?_⟩
   ·rw[cy _ _ _ _ (by rw[h.len];exact hl)];exact m0
   ·rw[cy _ _ _ _ hl];exact aL m1 (I _ (mem3 (fA hl)))
   ·rw[cy _ _ _ _ (by rw[h.len];exact hl)];exact m2
  ·have Y:j=bi.length:=o_
   refine⟨0,.map [],y_,?_,?_⟩
   ·rw[dm _ _ _ _ Y];exact Jb
   ·rw[dm _ _ _ _ (by rw[h.len];exact Y),uW];exact dy.nil
 ·have e:E.bg::E.bn::bt::(bi++[w.heap.size])=(E.bg::E.bn::bt::bi)++[w.heap.size]:=i_
  rw[e,nodup_append];refine⟨h.nd,i_,λa ha b hb=>?_⟩;simp only[GM]at hb;have:=h.lt a ha;omega
 ·intro b hb;have e:E.bg::E.bn::bt::(bi++[w.heap.size])=(E.bg::E.bn::bt::bi)++[w.heap.size]:=i_
  rw[e,GJ]at hb;rcases hb with hb|hb
  ·exact h.gt b hb
  ·simp only[GM]at hb;omega
 ·intro x hx hb;have e:E.bg::E.bn::bt::(bi++[w.heap.size])=(E.bg::E.bn::bt::bi)++[w.heap.size]:=i_
  rw[e,GJ,GM]at hb;rcases Z x hx with h1|h1
  ·rcases hb with hb|hb
   ·exact h.rown x h1 hb
   ·have:=(h.rlt x h1).2;omega
  ·rcases hb with hb|hb
   ·have:=h.lt x hb;omega
   ·omega
 ·refine(ak.of_grown J (S:=Sb E v bt) (λk I=>.inr (.inr I))).setCell (p:=⟨E.C,0,none⟩) (.inl rfl) v'
 ·intro k I;rcases Z k I with h1|h1
  ·exact .inl h1
  ·exact .inr o_
def ji(h:Cs E w (bsn++[xs]) (bi++[b]) v bt tk fn st)(u:FrameMode):
  CallsD prog 173 #[pV E.C] u w λe u' w'=>u'=u/\(∃u,e=rW u)/\∃v',Cs E w' bsn bi v' bt tk fn st/\ak (λk=>k=E.C) w w'/\v'.ownBlock=v.ownBlock:=by
 have hC:=h.ltC;have Je:=h.small;simp only[l_a,l_c,l_n]at Je;refine(sn u E.C (E.C+1) b (E.bg::bi) v w o_ h.box.c0 (h.box.fz 0) h.row ZFs).mono ?_;rintro e u' w' ⟨hu,he,v',rfl,Jd,Z⟩;have I:∀b,E.C<b->(w.setCell ⟨E.C,0,none⟩ v').drew.heap[b]? =w.heap[b]? := λb hb=>Below.heap_setCell _ _ _ b (λe=>by simp at e;omega);obtain⟨ng,Dg,g0,g1,g2⟩:=h.glob;obtain⟨nt,Dt,ft,t0,t1,t2⟩:=h.tak;have Jc:bsn.length=bi.length:=by have:=h.len;simpa using this
 have J:∀x∈E.bg::E.bn::bt::bi,x∈E.bg::E.bn::bt::(bi++[b]):=λx hx=>by
  simp only[mem_cons,GJ]at hx⊢;rcases hx with h1|h1|h1|h1
  ·exact .inl h1
  ·exact .inr (.inl h1)
  ·exact .inr (.inr (.inl h1))
  ·exact .inr (.inr (.inr (.inl h1)))
 refine⟨hu,he,v',⟨(h.box.s0 v').keep rfl,h.low,(h.base.setCell (p:=⟨E.C,0,none⟩) h.low v').drew,h.fun0,Jd,Jc,o_,⟨ng,Dg,g0,aL g1 (I _ (h.gt _ i_)),g2⟩,λj hj=>?_,aL h.own (I _ (h.gt _ i_)),h.num,⟨nt,Dt,ft,t0,aL t1 (I _ (h.gt _ i_)),t2⟩,?_,λx hx=>h.gt x (J x hx),λx hx hb=>h.rown x (Z ▸ hx) (J x hb)⟩,((ak.refl (λk=>k=E.C) w).setCell (p:=⟨E.C,0,none⟩) rfl v').drew,Z⟩
 ·obtain⟨n,Dj,Y,m1,U⟩:=h.maps j ZFs;rw[cy _ _ _ _ o_]at Y U;rw[cy _ _ _ _ hj]at m1;exact⟨n,Dj,Y,aL m1 (I _ (h.gt _ (J _ (mem3 (fA hj))))),U⟩
 ·have e:E.bg::E.bn::bt::(bi++[b])=(E.bg::E.bn::bt::bi)++[b]:=i_
  have:=h.nd
  rw[e,nodup_append]at this;exact this.1
def lf(h:Cs E w bsn bi v bt tk fn st)(hs:s.size<=maxLen)(hx:du tk s=true∨E.gp s=true):
  Calls prog 137 #[pV E.C,sV s] w λev w'=>ev=rW (eM 2 fn st)/\w'=w:=by
 obtain⟨nt,Dt,I,t0,Z,U,Y⟩:=h.tak;have J:(I s).isSome=true:=by
  rw[Y];rcases hx with h1|h1
  ·simp[h1]
  ·simp[h1]
 obtain⟨z,hz⟩:=Option.isSome_iff_exists.1 J;exact yl E.C bt nt fn st Dt I s z w h.box.c4 h.box.c5 h.box.c6 Z U hs hz
theorem lg(h:Cs E w bsn bi v bt tk fn st)(hs:s.size<=maxLen)(Jc:tk.length<=100000000)(J:¬(du tk s=true∨E.gp s=true)):
  Calls prog 137 #[pV E.C,sV s] w λev w'=>ev=.returned .nilIface/\Cs E w' bsn bi v bt (tk++[s]) fn st/\ak (λk=>k=bt) w w':=by
 obtain⟨nt,Dt,U,t0,t1,t2,Z⟩:=h.tak;have hf:U s=none:=by
  have:=Z s
  cases hfs:U s with
  | none=>rfl
  | some z=>
   rw[hfs]at this;have h2:(du tk s || E.gp s)=true:=by rw[<-this];rfl
   rw[Bool.or_eq_true]at h2;exact(J h2).elim
 refine(ym E.C bt nt Dt U s w h.box.c4 t1 t2 o_ hs hf).mono ?_;rintro ev w' ⟨rfl,D',d1,d2,Y⟩;have Ja:=h.nd;simp only[nodup_cons,mem_cons,not_or]at Ja;obtain⟨⟨n1,n2,n3⟩,⟨n4,n5⟩,n6,n7⟩:=Ja;have I:∀b,b<w.heap.size->b≠bt->w'.heap[b]? =w.heap[b]? := λb hb hc=>Y.block b hb (λe=>hc (Fc e));have Jb:=h.gt bt i_;obtain⟨ng,Dg,g0,g1,g2⟩:=h.glob;refine⟨rfl,⟨h.box.keep (I _ h.ltC o_),h.low,h.base.grown Y h.base.size (λk hk=>by cases hk;have:=h.low;omega),h.fun0,h.row.keep (λx J=>I x (h.rlt x J).2 (λe=>h.rown x J (by simp[e]))),h.len,h.small,⟨ng,Dg,g0,aL g1 (I _ (h.lt _ i_) n2),g2⟩,λj hj=>?_,aL h.own (I _ (h.lt _ i_) n4),h.num,⟨nt+1,D',_,by simp;omega,d1,d2,λx=>?_⟩,h.nd,h.gt,h.rown⟩,ak.of_grown Y (λk hk=>by cases hk;rfl)⟩
 ·obtain⟨n,Dj,m0,m1,m2⟩:=h.maps j hj;refine⟨n,Dj,m0,aL m1 (I _ (h.lt _ (mem3 (fA hj))) (λe=>n6 (e ▸ fA hj))),m2⟩
 ·unfold kN;rw[jc];by_cases hsx:s=x
  ·have:du [s] x=true:=rP (k:=0) i_ (Fc hsx)
   simp[hsx,this];simp[hsx]at this;simp[this]
  ·have:du [s] x=false:=oO (λj hj=>by simp at hj;subst hj;simpa using hsx)
   simp[hsx,this,Z x]
def Ey(h:Cs E w (bsn++[xs]) (bi++[b]) v bt tk fn st)(hs:s.size<=maxLen)(Jh:xs.length<=100000000):
  Calls prog 138 #[pV E.C,sV s,V 0] w λe w'=>(∃u,e=rW u)/\Cs E w' (bsn++[xs++[s]]) (bi++[b]) v bt tk fn st/\ak (λk=>k=b) w w':=by
 have Je:=h.small;simp only[l_a,l_c,l_n]at Je;have Ja:bsn.length=bi.length:=by have:=h.len;simpa using this
 have Jc:b∈E.bg::E.bn::bt::(bi++[b]):=i_;obtain⟨nb,Db,b0,b1,b2⟩:=h.maps bi.length i_;rw[dm _ _ _ _ Ja.symm]at b0 b2;rw[dm _ _ _ _ rfl]at b1;have Jg:=h.gt b Jc;refine(ud E.C (E.C+1) b nb (E.bg::bi) v Db _ s 0 w h.box.c0 h.row ZFs o_ (λx hx e=>h.rown x hx (e ▸ Jc)) b1 b2 o_ hs d_).mono ?_;rintro e w' ⟨he,D',d1,d2,I⟩;have Y:=h.nd;have e:E.bg::E.bn::bt::(bi++[b])=(E.bg::E.bn::bt::bi)++[b]:=i_;rw[e,nodup_append]at Y;obtain⟨-,-,Y⟩:=Y;have J:∀k,k<w.heap.size->k≠b->w'.heap[k]? =w.heap[k]? := λk hk hc=>(I.block k hk (λe=>hc (Fc e)));have Z:∀k∈E.bg::E.bn::bt::bi,k≠b:=λk hk=>Y k hk b i_;have U:∀k∈E.bg::E.bn::bt::bi,k<w.heap.size:=λk hk=>h.lt k (by rw[e];exact mem_append_left _ hk);obtain⟨ng,Dg,g0,g1,g2⟩:=h.glob;obtain⟨nt,Dt,ft,t0,t1,t2⟩:=h.tak;have Jd:w.grownBy w' (some b):=⟨I.os,I.tape,I.output,I.size,I.block⟩;refine⟨he,⟨h.box.keep (J _ h.ltC o_),h.low,h.base.grown Jd h.base.size (λk hk=>by cases hk;have:=h.low;omega),h.fun0,h.row.keep (λx hx=>J x (h.rlt x hx).2 (λe=>h.rown x hx (e ▸ Jc))),by simp[Ja],h.small,⟨ng,Dg,g0,aL g1 (J _ (U _ i_) (Z _ i_)),g2⟩,λj hj=>?_,aL h.own (J _ (U _ i_) (Z _ i_)),h.num,⟨nt,Dt,ft,t0,aL t1 (J _ (U _ i_) (Z _ i_)),t2⟩,h.nd,h.gt,h.rown⟩,ak.of_grown Jd (λk hk=>by cases hk;rfl)⟩;simp only[l_a,l_c,l_n]at hj;by_cases hjl:j<bi.length
 ·obtain⟨n,Dj,m0,m1,m2⟩:=h.maps j ZFs;rw[cy _ _ _ _ o_]at m0 m2;rw[cy _ _ _ _ hjl]at m1;refine⟨n,Dj,?_,?_,?_⟩
  ·rw[cy _ _ _ _ o_];exact m0
  ·rw[cy _ _ _ _ hjl];exact aL m1 (J _ (U _ (mem3 (fA hjl))) (Z _ (mem3 (fA hjl))))
  ·rw[cy _ _ _ _ o_];exact m2
 ·have Jf:j=bi.length:=o_
  refine⟨nb+1,D',?_,?_,?_⟩
  ·rw[dm _ _ _ _ o_];simp;omega
  ·rw[dm _ _ _ _ Jf];exact d1
  ·rw[dm _ _ _ _ o_,<-rY];exact d2
def FP(h:Cs E w [] [] v bt tk fn st){z:Int}(hs:s.size<=maxLen)(hz:(Lit.int .i64 z).wf=true)(Je:E.ng<=100000000):
  Calls prog 138 #[pV E.C,sV s,V z] w λe w'=>(∃u,e=rW u)/\Cs {E with gf:=kN E.gf s z,ng:=E.ng+1} w' [] [] v bt tk fn st/\ak (λk=>k=E.bg) w w':=by
 obtain⟨Y,Db,b0,b1,b2⟩:=h.glob;have U:E.bg∈E.bg::E.bn::bt::[]:=i_;have Jd:=h.gt E.bg U;refine(ud E.C (E.C+1) E.bg Y [] v Db _ s z w h.box.c0 h.row i_ o_ (λx hx e=>h.rown x hx (e ▸ U)) b1 b2 o_ hs hz).mono ?_;rintro e w' ⟨he,D',d1,d2,I⟩;have Jb:=h.nd;simp only[nodup_cons,mem_cons,not_or,not_mem_nil,not_false_eq_true,and_true]at Jb;obtain⟨⟨n1,n2⟩,n4,-⟩:=Jb;have J:∀k,k<w.heap.size->k≠E.bg->w'.heap[k]? =w.heap[k]? := λk hk hc=>(I.block k hk (λe=>hc (Fc e)));obtain⟨nt,Dt,ft,t0,t1,t2⟩:=h.tak;have Z:w.grownBy w' (some E.bg):=⟨I.os,I.tape,I.output,I.size,I.block⟩;exact⟨he,⟨h.box.keep (J _ h.ltC o_),h.low,h.base.grown Z h.base.size (λk hk=>by cases hk;have:=h.low;omega),h.fun0,h.row.keep (λx hx=>J x (h.rlt x hx).2 (λe=>h.rown x hx (e ▸ U))),rfl,h.small,⟨Y+1,D',Nat.succ_le_succ b0,d1,d2⟩,λj hj=>absurd hj i_,aL h.own (J _ (h.lt _ i_) (λe=>n1 e.symm)),h.num,⟨nt,Dt,ft,t0,aL t1 (J _ (h.lt _ i_) (λe=>n2 e.symm)),t2⟩,h.nd,h.gt,h.rown⟩,ak.of_grown Z (λk hk=>by cases hk;rfl)⟩
end
end Go.Proofs.YtffnkkpmlplfeaaGreatDoor
