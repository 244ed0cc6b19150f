import Derived.Test.YtffnkkpmlplfeaaGreatDoorF23
import Derived.Test.YtffnkkpmlplfeaaGreatDoorF52
import Derived.Test.YtffnkkpmlplfeaaGreatDoorF25
namespace Go.Proofs.YtffnkkpmlplfeaaGreatDoor
open Go.World List
open Go.Proofs.Tryz Go.RowKit
set_option linter.all false
set_option maxRecDepth 100000
set_option maxHeartbeats 0
variable[Inhabited Pick]
structure IC where
 wa:AT
 w0:AT
 t:Tr
 fr:List Int
 vg:BY
 vf:BY
 vFr:BY
 P:Nat
 bN:Nat
 bM:Nat
 bB:Nat
 cB:Nat
 S:D6
 gb:List Nat
def fC(v:BY):Option (DataW BY×List MemPlace):=some (.held v,[])
structure ge (D:DataW BY) (gs:List Gl) (gb:List Nat):Prop where
 map:Maps.IsMap D
 has:∀s,Maps.has D (kS s)=(gV gs s).isSome
 val:∀s k (hk:k<gs.length),gV gs s=some k->D.atKey (kS s) (.held nV)=.held (.slice (some ⟨gb.getD k 0,0,none⟩) (dV gs[k]) (dV gs[k]))
structure IC.Ok (C:IC):Prop where
 bel:Below C.wa.heap.size C.wa C.w0
 fs:bC C.wa C.vf C.t.funcs
 frs:fW C.wa C.vFr C.fr
 snd:(aU C.t).1=0
 frl:C.fr.length=C.t.funcs.length
 frb:∀x∈C.fr,0<=x/\x<=1000000000
 gbl:C.gb.length=C.t.globals.length
 sm:C.t.globals.length<=1000/\C.t.funcs.length<=1000
 num:∃n D,C.w0.ownsMap prog 9 (plainElem (H:=Unit) prog 2) C.bN n D/\cR D C.t.funcs
 bod:∀f (hf:f<C.t.funcs.length),∃a cap L,C.w0.cell? ⟨C.bB,f,none⟩=some (.slice a L.length cap)/\pT C.w0 C.S (.slice a L.length cap) L/\C.t.funcs[f].body=dd L
 glb:∃n D,C.w0.ownsMap prog 9 fC C.bM n D/\ge D C.t.globals C.gb
 sS:∀B,C.S B->B<C.w0.heap.size/\B≠C.P/\B∉C.gb
 ne:∀B,B=C.bN∨B=C.bM∨B=C.bB->B<C.w0.heap.size/\B≠C.P/\B∉C.gb
 pg:C.P∉C.gb/\C.gb.Nodup/\C.wa.heap.size<=C.P/\C.P<C.w0.heap.size/\∀b∈C.gb,C.wa.heap.size<=b/\b<C.w0.heap.size
structure fE (D:DataW Unit) (l:List (GA×Int)):Prop where
 map:Maps.IsMap D
 val:∀x v,(x,v)∈l->Maps.has D (kS x)=true/\D.atKey (kS x) (.lit (.int .i64 0))=.lit (.int .i64 v)
structure IS (C:IC) (w:AT) (vV:Option Nat) (vI vO:BY) (s:ES):Prop where
 tc:ak (λk=>k=C.P∨k∈C.gb) C.w0 w
 box:aK w C.P [C.vg,C.vf,.map (some C.bN),rV C.bB C.t.funcs.length C.cB,.map (some C.bM),.map vV,vI,vO,V s.u,C.vFr,V s.n,V s.d]
 gl:s.g.length=C.gb.length
 gw:∀k (hk:k<C.gb.length),aK w C.gb[k] ((s.g.getD k []).map (Value.int .i64))
 g1:∀k (hk:k<s.g.length) (hk':k<C.t.globals.length),(s.g[k]).length=dV C.t.globals[k]
 var:(vV=none/\s.l=[])∨∃b n D,vV=some b/\w.ownsMap prog 9 (plainElem (H:=Unit) prog 2) b n D/\fE D s.l/\n+s.u<=100010/\C.w0.heap.size<=b/\vO.ownBlock≠some b
 inp:fW C.wa vI s.i
 out:w.ownsRow C.w0.heap.size 2 1 vO s.o.length (s.o.map (Value.int .i64))
 ok:OkW s
 uu:s.u<=100000/\s.o.length+s.u<=100000
 nn:0<=s.n/\s.n+1000000000*s.u<=100001000000000/\0<=s.d/\s.d<=100001000000000
def cL(C:IC)(vO:BY):D6:=λk=>k=C.P∨k∈C.gb∨vO.ownBlock=some k
def dt(C:IC)(vV:Option Nat)(vO:BY):D6:=λk=>cL C vO k∨vV=some k
def bW:ER->Int
 | .inl _ =>0
 | .inr (.inl ()) =>0
 | .inr (.inr (.inl _)) =>2
 | .inr (.inr (.inr c)) =>c+1
def jR(r:ER):BY:=.agg #[V (bW r),V (cI r)]
def jm(C:IC)(w:AT)(vV:Option Nat)(vO:BY)(r:ER)(s':ES)(x:Ending)(w':AT):Prop:=∃vI' vO',x=rW (jR r)/\IS C w' vV vI' vO' s'/\ak (cL C vO) w w'/\∀k,vO'.ownBlock=some k->vO.ownBlock=some k∨w.heap.size<=k
def DH(C:IC)(n:Nat):Prop:=∀(e:List Nd) (s:ES) (r:ER) (s':ES),Ev C.t C.fr n (.e e) s r s'->rU C.t (s.l.map Prod.fst) e->jd C.t (s.l.map Prod.fst)->aP e=true->∀(w:AT) (vV:Option Nat) (vI vO vN:BY),IS C w vV vI vO s->Tv C.w0 C.S vN e->Calls prog 177 #[pV C.P,vN] w λx w'=>jm C w vV vO r s' x w'
structure mT (C:IC) (w:AT) (vO:BY) (va:BY) (vs:List Int):Prop where
 is:∃a c,va=.slice a vs.length c/\vs.length<=c/\c<=9223372036854775807/\(0<vs.length->∃b,a=some ⟨b,0,none⟩/\b<w.heap.size/\¬cL C vO b/\∀j (h:j<vs.length),w.cell? ⟨b,j,none⟩=some (V vs[j]))
def FX(C:IC)(n:Nat):Prop:=∀(f:Nat) (vs:List Int) (s:ES) (r:ER) (s':ES),Ev C.t C.fr n (.c f vs) s r s'->(∀hf:f<C.t.funcs.length,vs.length=C.t.funcs[f].params.length)->(∀x∈vs,et x)->s.n+1000000000*((s.u:Int)+1)<=100001000000000->∀(w:AT) (vV:Option Nat) (vI vO va:BY),IS C w vV vI vO s->mT C w vO va vs->Calls prog 39 #[pV C.P,V (f:Int),va] w λx w'=>jm C w vV vO r s' x w'
def gg(w:AT):∃W0 M,W0=w.alloc (.cells #[V 0,V 0] 75)/\M=w.heap.size/\Bl w W0/\aK W0 M [V 0,V 0]/\M<W0.heap.size:=⟨_,_,rfl,rfl,r_.alloc n_ _,aH w _ _ i_,by rw[GO];omega⟩
def IS.hi{C:IC}(J:C.Ok){w:AT}{Y:Option Nat}{Z U:BY}{s:ES}(h:IS C w Y Z U s):C.P<w.heap.size/\(∀b∈C.gb,b<w.heap.size/\b≠C.P)/\C.w0.heap.size<=w.heap.size:=by
 have:=h.tc.size
 obtain⟨I,h2,h3,h4,h5⟩:=J.pg;exact⟨by omega,λb hb=>⟨by have:=(h5 b hb).2;omega,λe=>I (e ▸ hb)⟩,this⟩
theorem IS.past{C:IC}(hC:C.Ok){w w':World}{Z:Option Nat}{vI Y:Value}{s:ES}{S:Nat->Prop}(h:IS C w Z vI Y s)(U:ak S w w')(J:∀k,S k->C.w0.heap.size<=k/\Z≠some k/\Y.ownBlock≠some k):IS C w' Z vI Y s:=by
 obtain⟨p1,p2,p3⟩:=h.hi hC;obtain⟨-,-,-,q4,q5⟩:=hC.pg;refine⟨h.tc.next U (λk hk=>.inr (J k hk).1),h.box.tcs p1 U (λI=>by have:=(J _ I).1;omega),h.gl,λk hk=>(h.gw k hk).tcs (p2 _ (g_ hk)).1 U (λI=>by have:=(J _ I).1;have:=(q5 _ (g_ hk)).2;omega),h.g1,?_,h.inp,aO h.out U (λk hk I=>(J k I).2.2 hk),h.ok,h.uu,h.nn⟩;rcases h.var with hv|⟨b,n,D,rfl,h1,h2,h3,h4,h5⟩
 ·exact .inl hv
 ·have Jb:=h1.lt;obtain⟨es,Ja,h0,F,I,hD⟩:=h1;exact .inr ⟨b,n,D,rfl,⟨es,Ja,(U.block b Jb (λI=>(J _ I).2.1 rfl)).trans h0,F,I,hD⟩,h2,h3,h4,h5⟩
def IS.below{C:IC}(hC:C.Ok){w w':AT}{vV:Option Nat}{vI vO:BY}{s:ES}(h:IS C w vV vI vO s)(hb:Bl w w'):IS C w' vV vI vO s:=
 h.past hC (hb.tcs (S:=λ_=>False)) (λk hk=>hk.elim)
theorem IS.boxed{C:IC}(hC:C.Ok){w:World}{U:Option Nat}{vI Y:Value}{s:ES}(h:IS C w U vI Y s)(i:Nat)(u:Value){vI':Value}{s':ES}
  (hb:([C.vg,C.vf,.map (some C.bN),rV C.bB C.t.funcs.length C.cB,.map (some C.bM),.map U,vI,Y,V s.u,C.vFr,V s.n,V s.d]:List Value).set i u=[C.vg,C.vf,.map (some C.bN),rV C.bB C.t.funcs.length C.cB,.map (some C.bM),.map U,vI',Y,V s'.u,C.vFr,V s'.n,V s'.d])
  (hg:s'.g=s.g) (hl:s'.l=s.l) (ho:s'.o=s.o) (hi:fW C.wa vI' s'.i) (I:OkW s') (hu:s'.u<=s.u) (hn:0<=s'.n/\s'.n+1000000000*s'.u<=100001000000000/\0<=s'.d/\s'.d<=100001000000000):
  IS C (w.setCell ⟨C.P,i,none⟩ u) U vI' Y s':=by
 obtain⟨p1,p2,p3⟩:=h.hi hC;obtain⟨q1,q2,q3,q4,q5⟩:=hC.pg;have J:ak (λk=>k=C.P) w (w.setCell ⟨C.P,i,none⟩ u):=(ak.refl (λk=>k=C.P) w).setCell (p:=⟨C.P,i,none⟩) rfl u;have Jb:=h.box.set i u;rw[hb]at Jb;have Jd:=h.uu;refine⟨h.tc.trans (J.mono λk I=>.inl I),Jb,by rw[hg];exact h.gl,?_,by rw[hg];exact h.g1,?_,hi,?_,I,⟨by omega,by rw[ho];omega⟩,hn⟩
 ·rw[hg];exact λk I=>(h.gw k I).tcs (p2 _ (g_ I)).1 J (p2 _ (g_ I)).2
 ·rw[hl];rcases h.var with hv|⟨b,n,D,rfl,h1,h2,h3,h4,h5⟩
  ·exact .inl hv
  ·have Jc:=h1.lt;obtain⟨es,Ja,h0,F,Z,hD⟩:=h1;exact .inr ⟨b,n,D,rfl,⟨es,Ja,(J.block b Jc (λe=>by omega)).trans h0,F,Z,hD⟩,h2,by omega,h4,h5⟩
 ·rw[ho];exact aO h.out J (λk I Z=>by have e:k=C.P:=Z;have:=(World.ownsRow.lt h.out k I).1;omega)
section
variable{gs:List Gl}
theorem mC:∀(gs:List Gl) (seen:List GA),fd seen gs=false->(∀g∈gs,g.name∉seen)/\(gs.map (·.name)).Nodup
 | [],_,_=>⟨λg hg=>(by cases hg),nodup_nil⟩
 | g::r,seen,h=>by
  unfold fd at h;by_cases hs:du seen g.name=true
  ·rw[if_pos hs]at h;cases h
  ·rw[if_neg hs]at h;obtain⟨h1,h2⟩:=mC r _ h;have hn:g.name∉seen:=λhm=>hs (iP.2 hm);refine⟨λx hx=>?_,?_⟩
   ·rcases mem_cons.1 hx with rfl|hx
    ·exact hn
    ·exact λhm=>h1 x hx (mem_append_left _ hm)
   ·rw[map_cons,nodup_cons];refine⟨λhm=>?_,h2⟩;obtain⟨x,hx,he⟩:=mem_map.1 hm;exact h1 x hx (by rw[he];simp)
def rf{t:Tr}(h:(aU t).1=0):(t.globals.map (·.name)).Nodup:=by
 obtain⟨-,I,-⟩:=dH h;unfold bP at I;by_cases hd:fd [] t.globals=true
 ·rw[if_pos hd]at I;cases I
 ·exact(mC t.globals [] (Fc hd)).2
def Ah(h:(gs.map (·.name)).Nodup){k:Nat}(hk:k<gs.length):∀y∈gs.take k,y.name≠gs[k].name:=λy hy e=>by
 obtain⟨i,hi,rfl⟩:=getElem_of_mem hy;rw[length_take]at hi;rw[getElem_take]at e;have:=iz h (i:=i) (j:=k) ZFs (Fc hk) (Fc e)
 omega
theorem rg(gs:List Gl)(g:Gl)(s:GA):gV (gs++[g]) s=match gV gs s with|some k=>some k|none=>if g.name=s then some gs.length else none:=by
 unfold gV;rw[findIdx?_append];cases e:gs.findIdx? (λy=>decide (y.name=s))with
 | some k=>simp
 | none=>
  by_cases hs:g.name=s
  ·simp[findIdx?_cons,hs]
  ·simp[findIdx?_cons,hs]
def ge.nil:ge (.map []) [] []:=⟨Maps.isMap_empty,λs=>rfl,λs k hk=>by simp at hk⟩
theorem ge.put{D:DataW BY}{gb:List Nat}{g:Gl}{b:Nat}(h:ge D gs gb)(Y:gb.length=gs.length)(Z:∀y∈gs,y.name≠g.name):ge (D.put (kS g.name) (.held (.slice (some ⟨b,0,none⟩) (dV g) (dV g)))) (gs++[g]) (gb++[b]):=by
 have J:gV gs g.name=none:=qI (λj I=>Z _ (g_ I));refine⟨h.map.put _ _,λs=>?_,λs k hk hx=>?_⟩
 ·rw[rg];by_cases hs:g.name=s
  ·subst hs;rw[Maps.has_put_same (k:=kS g.name) h.map trivial,J];simp
  ·rw[Maps.has_put_other (ky (Ne.symm hs)),h.has s];cases gV gs s <;> simp[hs]
 ·rw[rg]at hx;by_cases hs:g.name=s
  ·subst hs;rw[J]at hx;simp only[if_true,GD]at hx;subst hx;rw[Maps.atKey_put_same (k:=kS g.name) h.map trivial];simp[List.getD,<-Y]
  ·rw[Maps.atKey_put_other (ky (Ne.symm hs))];cases e:gV gs s with
   | none=>rw[e]at hx;simp[hs]at hx
   | some j=>
    rw[e]at hx;simp only[GD]at hx;subst hx;have I:j<gs.length:=by
     unfold gV at e;have:=findIdx?_eq_some_iff_getElem.1 e
     exact this.1
    rw[h.val s j I e];have U:(gs++[g])[j]=gs[j]:=getElem_append_left I;rw[U];simp[List.getD,getElem?_append_left (by omega:j<gb.length)]
end
end Go.Proofs.YtffnkkpmlplfeaaGreatDoor
