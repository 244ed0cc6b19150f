import Derived.Test.YtffnkkpmlplfeaaGreatDoorN26
import Derived.Test.YtffnkkpmlplfeaaGreatDoorN49
import Derived.Test.YtffnkkpmlplfeaaGreatDoorN22
namespace Go.Proofs.YtffnkkpmlplfeaaGreatDoor
open Go.Proofs.Tryz
open Go.RowKit
set_option linter.all false
set_option maxRecDepth 100000
set_option maxHeartbeats 16000000
variable[Inhabited Pick]
structure IC where
 wa:World
 w0:World
 t:Tr
 fr:List Int
 vg:Value
 vf:Value
 vFr:Value
 P:Nat
 bN:Nat
 bM:Nat
 bB:Nat
 cB:Nat
 S:Nat->Prop
 gb:List Nat
def heldV (v:Value):Option (DataW Value × List MemPlace):=some (.held v,[])
structure GlbIs (D:DataW Value) (gs:List Gl) (gb:List Nat):Prop where
 map:Maps.IsMap D
 has : ∀s,Maps.has D (kS s)=(gix gs s).isSome
 val : ∀s k (hk:k<gs.length),gix gs s=some k->D.atKey (kS s) (.held (.slice none 0 0))=.held (.slice (some ⟨gb.getD k 0,0,none⟩) (gln gs[k]) (gln gs[k]))
structure IC.Ok (C:IC):Prop where
 bel:Below C.wa.heap.size C.wa C.w0
 fs:Funcs C.wa C.vf C.t.funcs
 frs:InN C.wa C.vFr C.fr
 snd:(checkE C.t).1=0
 frl:C.fr.length=C.t.funcs.length
 frb : ∀x∈C.fr,0<=x/\x<=1000000000
 gbl:C.gb.length=C.t.globals.length
 sm:C.t.globals.length<=1000/\C.t.funcs.length<=1000
 num : ∃n D,C.w0.ownsMap prog 9 (plainElem (H:=Unit) prog 2) C.bN n D/\NumIs D C.t.funcs
 bod : ∀f (hf:f<C.t.funcs.length),∃a cap L,C.w0.cell? ⟨C.bB,f,none⟩=some (.slice a L.length cap)/\BkL C.w0 C.S (.slice a L.length cap) L/\C.t.funcs[f].body=flatL L
 glb : ∃n D,C.w0.ownsMap prog 9 heldV C.bM n D/\GlbIs D C.t.globals C.gb
 sS : ∀B,C.S B->B<C.w0.heap.size/\B≠C.P/\B∉C.gb
 ne : ∀B,B=C.bN∨B=C.bM∨B=C.bB->B<C.w0.heap.size/\B≠C.P/\B∉C.gb
 pg:C.P∉C.gb/\C.gb.Nodup/\C.wa.heap.size<=C.P/\C.P<C.w0.heap.size/\∀b∈C.gb,C.wa.heap.size<=b/\b<C.w0.heap.size
structure VarIs (D:DataW Unit) (l:List (ByteArray × Int)):Prop where
 map:Maps.IsMap D
 val : ∀x v,(x,v)∈l->Maps.has D (kS x)=true/\D.atKey (kS x) (.lit (.int .i64 0))=.lit (.int .i64 v)
structure IS (C:IC) (w:World) (vV:Option Nat) (vI vO:Value) (s:ES):Prop where
 tc:Tcs (λk=>k=C.P∨k∈C.gb) C.w0 w
 box:FrC w C.P [C.vg,C.vf,.map (some C.bN),.slice (some ⟨C.bB,0,none⟩) C.t.funcs.length C.cB,.map (some C.bM),.map vV,vI,vO,.int .i64 s.u,C.vFr,.int .i64 s.n,.int .i64 s.d]
 gl:s.g.length=C.gb.length
 gw : ∀k (hk:k<C.gb.length),FrC w C.gb[k] ((s.g.getD k []).map (Value.int .i64))
 g1 : ∀k (hk:k<s.g.length) (hk':k<C.t.globals.length),(s.g[k]).length=gln C.t.globals[k]
 var:(vV=none/\s.l = [])∨∃b n D,vV=some b/\w.ownsMap prog 9 (plainElem (H:=Unit) prog 2) b n D/\VarIs D s.l/\n+s.u<=100010/\C.w0.heap.size<=b/\vO.ownBlock≠some b
 inp:InN C.wa vI s.i
 out:w.ownsRow C.w0.heap.size 2 1 vO s.o.length (s.o.map (Value.int .i64))
 ok:OkW s
 uu:s.u<=100000/\s.o.length+s.u<=100000
 nn:0<=s.n/\s.n+1000000000*s.u<=100001000000000/\0<=s.d/\s.d<=100001000000000
def TEi (C:IC) (vO:Value):Nat->Prop:=λk=>k=C.P∨k∈C.gb∨vO.ownBlock=some k
def TSi (C:IC) (vV:Option Nat) (vO:Value):Nat->Prop:=λk=>TEi C vO k∨vV=some k
def endR:ER->Int
 | .inl _ =>0
 | .inr (.inl ()) =>0
 | .inr (.inr (.inl _)) =>2
 | .inr (.inr (.inr c)) =>c+1
def outV (r:ER):Value:=.agg #[.int .i64 (endR r),.int .i64 (valR r)]
def ExQ (C:IC) (w:World) (vV:Option Nat) (vO:Value) (r:ER) (s':ES) (x:Ending) (w':World):Prop:=∃vI' vO',x=.returned (outV r)/\IS C w' vV vI' vO' s'/\Tcs (TEi C vO) w w'/\∀k,vO'.ownBlock=some k->vO.ownBlock=some k∨w.heap.size<=k
def ExI (C:IC) (n:Nat):Prop:=∀(e:List Nd) (s:ES) (r:ER) (s':ES),Ev C.t C.fr n (.e e) s r s'->KnE C.t (s.l.map Prod.fst) e->Scp C.t (s.l.map Prod.fst)->oneB e=true->∀(w:World) (vV:Option Nat) (vI vO vN:Value),IS C w vV vI vO s->Tv C.w0 C.S vN e->Calls prog 177 #[.pointer (some ⟨C.P,0,none⟩),vN] w λx w'=>ExQ C w vV vO r s' x w'
structure ArI (C:IC) (w:World) (vO:Value) (va:Value) (vs:List Int):Prop where
 is : ∃a c,va=.slice a vs.length c/\vs.length<=c/\c<=9223372036854775807/\(0<vs.length->∃b,a=some ⟨b,0,none⟩/\b<w.heap.size/\¬TEi C vO b/\∀j (h:j<vs.length),w.cell? ⟨b,j,none⟩=some (.int .i64 vs[j]))
def CaI (C:IC) (n:Nat):Prop:=∀(f:Nat) (vs:List Int) (s:ES) (r:ER) (s':ES),Ev C.t C.fr n (.c f vs) s r s'->(∀hf:f<C.t.funcs.length,vs.length=C.t.funcs[f].params.length)->(∀x∈vs,inB x)->s.n+1000000000*((s.u:Int)+1)<=100001000000000->∀(w:World) (vV:Option Nat) (vI vO va:Value),IS C w vV vI vO s->ArI C w vO va vs->Calls prog 39 #[.pointer (some ⟨C.P,0,none⟩),.int .i64 (f:Int),va] w λx w'=>ExQ C w vV vO r s' x w'
theorem o_box (w:World) : ∃W0 M,W0=w.alloc (.cells #[.int .i64 0,.int .i64 0] 75)/\M=w.heap.size/\Below w.heap.size w W0/\FrC W0 M [.int .i64 0,.int .i64 0]/\M<W0.heap.size:=⟨_,_,rfl,rfl,r_.alloc n_ _,box_fr w _ _ (by show 2<=1000;omega),by rw [World.size_alloc];omega⟩
theorem IS.hi {C:IC} (hC:C.Ok) {w:World} {vV:Option Nat} {vI vO:Value} {s:ES} (h:IS C w vV vI vO s):C.P<w.heap.size/\(∀b∈C.gb,b<w.heap.size/\b≠C.P)/\C.w0.heap.size<=w.heap.size:=by
 have:=h.tc.size
 obtain⟨h1,h2,h3,h4,h5⟩:=hC.pg;exact⟨by omega,λb hb=>⟨by have:=(h5 b hb).2;omega,λe=>h1 (e ▸ hb)⟩,this⟩
theorem IS.past {C:IC} (hC:C.Ok) {w w':World} {vV:Option Nat} {vI vO:Value} {s:ES} {S:Nat->Prop} (h:IS C w vV vI vO s) (ht:Tcs S w w') (hS : ∀k,S k->C.w0.heap.size<=k/\vV≠some k/\vO.ownBlock≠some k):IS C w' vV vI vO s:=by
 obtain⟨p1,p2,p3⟩:=h.hi hC;obtain⟨-,-,-,q4,q5⟩:=hC.pg;refine⟨h.tc.next ht (λk hk=>.inr (hS k hk).1),h.box.tcs p1 ht (λhs=>by have:=(hS _ hs).1;omega),h.gl,λk hk=>(h.gw k hk).tcs (p2 _ (g_ hk)).1 ht (λhs=>by have:=(hS _ hs).1;have:=(q5 _ (g_ hk)).2;omega),h.g1,?_,h.inp,own_notU h.out ht (λk hk hs=>(hS k hs).2.2 hk),h.ok,h.uu,h.nn⟩;rcases h.var with hv|⟨b,n,D,rfl,h1,h2,h3,h4,h5⟩
 ·exact .inl hv
 ·have hlt:=h1.lt;obtain⟨es,clock,h0,F,hs,hD⟩:=h1;exact .inr ⟨b,n,D,rfl,⟨es,clock,(ht.block b hlt (λhs=>(hS _ hs).2.1 rfl)).trans h0,F,hs,hD⟩,h2,h3,h4,h5⟩
theorem IS.below {C:IC} (hC:C.Ok) {w w':World} {vV:Option Nat} {vI vO:Value} {s:ES} (h:IS C w vV vI vO s) (hb:Below w.heap.size w w'):IS C w' vV vI vO s:=
 h.past hC (hb.tcs (S:=λ_=>False)) (λk hk=>hk.elim)
theorem IS.boxed {C:IC} (hC:C.Ok) {w:World} {vV:Option Nat} {vI vO:Value} {s:ES} (h:IS C w vV vI vO s) (i:Nat) (u:Value) {vI':Value} {s':ES}
  (hb:([C.vg,C.vf,.map (some C.bN),.slice (some ⟨C.bB,0,none⟩) C.t.funcs.length C.cB,.map (some C.bM),.map vV,vI,vO,.int .i64 s.u,C.vFr,.int .i64 s.n,.int .i64 s.d]:List Value).set i u = [C.vg,C.vf,.map (some C.bN),.slice (some ⟨C.bB,0,none⟩) C.t.funcs.length C.cB,.map (some C.bM),.map vV,vI',vO,.int .i64 s'.u,C.vFr,.int .i64 s'.n,.int .i64 s'.d])
  (hg:s'.g=s.g) (hl:s'.l=s.l) (ho:s'.o=s.o) (hi:InN C.wa vI' s'.i) (hk:OkW s') (hu:s'.u<=s.u) (hn:0<=s'.n/\s'.n+1000000000*s'.u<=100001000000000/\0<=s'.d/\s'.d<=100001000000000) :
  IS C (w.setCell ⟨C.P,i,none⟩ u) vV vI' vO s':=by
 obtain⟨p1,p2,p3⟩:=h.hi hC;obtain⟨q1,q2,q3,q4,q5⟩:=hC.pg;have ht:Tcs (λk=>k=C.P) w (w.setCell ⟨C.P,i,none⟩ u):=(Tcs.refl (λk=>k=C.P) w).setCell (p:=⟨C.P,i,none⟩) rfl u;have hbx:=h.box.set i u;rw[hb] at hbx;have huu:=h.uu;refine⟨h.tc.trans (ht.mono λk hk=>.inl hk),hbx,by rw[hg];exact h.gl,?_,by rw[hg];exact h.g1,?_,hi,?_,hk,⟨by omega,by rw[ho];omega⟩,hn⟩
 ·rw[hg];exact λk hk=>(h.gw k hk).tcs (p2 _ (g_ hk)).1 ht (p2 _ (g_ hk)).2
 ·rw[hl];rcases h.var with hv|⟨b,n,D,rfl,h1,h2,h3,h4,h5⟩
  ·exact .inl hv
  ·have hlt:=h1.lt;obtain⟨es,clock,h0,F,hs,hD⟩:=h1;exact .inr ⟨b,n,D,rfl,⟨es,clock,(ht.block b hlt (λe=>by omega)).trans h0,F,hs,hD⟩,h2,by omega,h4,h5⟩
 ·rw[ho];exact own_notU h.out ht (λk hk hs=>by have e:k=C.P:=hs;have:=(World.ownsRow.lt h.out k hk).1;omega)
section
variable {gs:List Gl}
theorem dupG_nodup : ∀(gs:List Gl) (seen:List ByteArray),dupG seen gs=false->(∀g∈gs,g.name∉seen)/\(gs.map (·.name)).Nodup
 | [],_,_=>⟨λg hg=>(by cases hg),List.nodup_nil⟩
 | g::r,seen,h=>by
  unfold dupG at h;by_cases hs:inS seen g.name=true
  ·rw[if_pos hs] at h;cases h
  ·rw[if_neg hs] at h;obtain⟨h1,h2⟩:=dupG_nodup r _ h;have hn:g.name∉seen:=λhm=>hs (inS_iff.2 hm);refine⟨λx hx => ?_,?_⟩
   ·rcases List.mem_cons.1 hx with rfl|hx
    ·exact hn
    ·exact λhm=>h1 x hx (List.mem_append_left _ hm)
   ·rw[List.map_cons,List.nodup_cons];refine⟨λhm => ?_,h2⟩;obtain⟨x,hx,he⟩:=List.mem_map.1 hm;exact h1 x hx (by rw[he];simp)
theorem globs_apart {t:Tr} (h:(checkE t).1=0):(t.globals.map (·.name)).Nodup:=by
 obtain⟨-,h1,-⟩:=sound_snd h;unfold namesE at h1;by_cases hd:dupG [] t.globals=true
 ·rw[if_pos hd] at h1;cases h1
 ·exact (dupG_nodup t.globals [] (by simpa using hd)).2
theorem glob_new (h:(gs.map (·.name)).Nodup) {k:Nat} (hk:k<gs.length) : ∀y∈gs.take k,y.name≠gs[k].name:=λy hy e=>by
 obtain⟨i,hi,rfl⟩:=List.getElem_of_mem hy;rw[List.length_take] at hi;rw[List.getElem_take] at e;have:=nodup_ix h (i:=i) (j:=k) (by simp;omega) (by simpa using hk) (by simpa using e)
 omega
theorem gix_snoc (gs:List Gl) (g:Gl) (s:ByteArray):gix (gs++[g]) s=match gix gs s with|some k=>some k|none=>if g.name=s then some gs.length else none:=by
 unfold gix;rw[List.findIdx?_append];cases e:gs.findIdx? (λy=>decide (y.name=s)) with
 | some k=>simp
 | none=>
  by_cases hs:g.name=s
  ·simp[List.findIdx?_cons,hs]
  ·simp[List.findIdx?_cons,hs]
theorem GlbIs.nil:GlbIs (.map []) [] []:=⟨Maps.isMap_empty,λs=>rfl,λs k hk=>by simp at hk⟩
theorem GlbIs.put {D:DataW Value} {gb:List Nat} {g:Gl} {b:Nat} (h:GlbIs D gs gb) (hl:gb.length=gs.length) (hn : ∀y∈gs,y.name≠g.name):GlbIs (D.put (kS g.name) (.held (.slice (some ⟨b,0,none⟩) (gln g) (gln g)))) (gs++[g]) (gb++[b]):=by
 have hg:gix gs g.name=none:=gix_none (λj hj=>hn _ (g_ hj));refine⟨h.map.put _ _,λs => ?_,λs k hk hx => ?_⟩
 ·rw[gix_snoc];by_cases hs:g.name=s
  ·subst hs;rw[Maps.has_put_same (k:=kS g.name) h.map trivial,hg];simp
  ·rw[Maps.has_put_other (kS_ne (Ne.symm hs)),h.has s];cases gix gs s <;> simp[hs]
 ·rw[gix_snoc] at hx;by_cases hs:g.name=s
  ·subst hs;rw[hg] at hx;simp only[if_true,Option.some.injEq] at hx;subst hx;rw[Maps.atKey_put_same (k:=kS g.name) h.map trivial];simp[List.getD,<-hl]
  ·rw[Maps.atKey_put_other (kS_ne (Ne.symm hs))];cases e:gix gs s with
   | none=>rw[e] at hx;simp[hs] at hx
   | some j=>
    rw[e] at hx;simp only[Option.some.injEq] at hx;subst hx;have hj:j<gs.length:=by
     unfold gix at e;have:=List.findIdx?_eq_some_iff_getElem.1 e
     exact this.1
    rw[h.val s j hj e];have e1:(gs++[g])[j]=gs[j]:=List.getElem_append_left hj;rw[e1];simp[List.getD,List.getElem?_append_left (by omega:j<gb.length)]
end
end Go.Proofs.YtffnkkpmlplfeaaGreatDoor
