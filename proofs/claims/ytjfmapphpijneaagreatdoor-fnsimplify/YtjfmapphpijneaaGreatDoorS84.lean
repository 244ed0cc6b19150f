import Derived.Deep.RegionLaw
import Derived.Test.YtjfmapphpijneaaGreatDoorS50
import Derived.Test.YtjfmapphpijneaaGreatDoorS77
import Derived.Test.YtjfmapphpijneaaGreatDoorS32
namespace Go.Proofs.YtjfmapphpijneaaGreatDoor
set_option linter.all false
set_option maxRecDepth 100000
set_option maxHeartbeats 0
open Go.World List Go.Proofs.Tryz Go.RowKit
variable[Inhabited Pick]
structure IC where
 wa:AT
 w0:AT
 t:Tr
 fr:List Int
 vg:BY
 vf:BY
 vFr:BY
 P:Nat
 bN:Nat
 bM:Nat
 bB:Nat
 cB:Nat
 S:Ft
 gb:List Nat
def gD(v:BY):Option (DataW BY×List MemPlace):=some (.held v,[])
structure iz (D:DataW BY) (gs:List Gl) (gb:List Nat):Prop where
 map:Maps.IsMap D
 has:∀s,Maps.has D (kS s)=(i7 gs s).isSome
 val:∀s k (hk:k<gs.length),i7 gs s=some k->D.atKey (kS s) (.held nV)=.held (.slice (some ⟨gb.getD k 0,0,none⟩) (ju gs[k]) (ju gs[k]))
structure IC.Ok (C:IC):Prop where
 bel:Below C.wa.heap.size C.wa C.w0
 fs:bj C.wa C.vf C.t.fc
 frs:nL C.wa C.vFr C.fr
 snd:(aQ C.t).1=0
 frl:C.fr.length=C.t.fc.length
 frb:∀x∈C.fr,0<=x/\x<=1000000000
 gbl:C.gb.length=C.t.gl.length
 sm:C.t.gl.length<=1000/\C.t.fc.length<=1000
 num:∃n D,C.w0.ownsMap prog 9 (plainElem (H:=Unit) prog 2) C.bN n D/\dj D C.t.fc
 bod:∀f (hf:f<C.t.fc.length),∃a cap L,C.w0.cell? ⟨C.bB,f,none⟩=some (.slice a L.length cap)/\kr C.w0 C.S (.slice a L.length cap) L/\C.t.fc[f].bd=aG L
 glb:∃n D,C.w0.ownsMap prog 9 gD C.bM n D/\iz D C.t.gl C.gb
 sS:∀B,C.S B->B<C.w0.heap.size/\B≠C.P/\B∉C.gb
 ne:∀B,B=C.bN\/B=C.bM\/B=C.bB->B<C.w0.heap.size/\B≠C.P/\B∉C.gb
 pg:C.P∉C.gb/\C.gb.Nodup/\C.wa.heap.size<=C.P/\C.P<C.w0.heap.size/\∀b∈C.gb,C.wa.heap.size<=b/\b<C.w0.heap.size
structure gG (D:DataW Unit) (l:List (Io×Int)):Prop where
 map:Maps.IsMap D
 val:∀x v,(x,v)∈l->Maps.has D (kS x)=true/\D.atKey (kS x) (.lit (.int .i64 0))=.lit (.int .i64 v)
structure IS (C:IC) (w:AT) (vV:Option Nat) (vI vO:BY) (s:ES):Prop where
 tc:aj (λk=>k=C.P\/k∈C.gb) C.w0 w
 box:aN w C.P [C.vg,C.vf,.map (some C.bN),rV C.bB C.t.fc.length C.cB,.map (some C.bM),.map vV,vI,vO,V s.u,C.vFr,V s.n,V s.d]
 gl:s.g.length=C.gb.length
 gw:∀k (hk:k<C.gb.length),aN w C.gb[k] ((s.g.getD k []).map (Value.int .i64))
 g1:∀k (hk:k<s.g.length) (hk':k<C.t.gl.length),(s.g[k]).length=ju C.t.gl[k]
 var:(vV=none/\s.l=[])\/∃b n D,vV=some b/\w.ownsMap prog 9 (plainElem (H:=Unit) prog 2) b n D/\gG D s.l/\n+s.u<=100010/\C.w0.heap.size<=b/\vO.ownBlock≠some b
 inp:nL C.wa vI s.i
 out:w.ownsRow C.w0.heap.size 2 1 vO s.o.length (s.o.map (Value.int .i64))
 ok:OkW s
 uu:s.u<=100000/\s.o.length+s.u<=100000
 nn:0<=s.n/\s.n+1000000000*s.u<=100001000000000/\0<=s.d/\s.d<=100001000000000
def de(C:IC)(vO:BY):Ft:=λk=>k=C.P\/k∈C.gb\/vO.ownBlock=some k
def dT(C:IC)(vV:Option Nat)(vO:BY):Ft:=λk=>de C vO k\/vV=some k
def cH:ER->Int
 | .inl _ =>0
 | .inr (.inl ()) =>0
 | .inr (.inr (.inl _)) =>2
 | .inr (.inr (.inr c)) =>c+1
def lB(r:ER):BY:=.agg #[V (cH r),V (dg r)]
def kH(C:IC)(w:AT)(vV:Option Nat)(vO:BY)(r:ER)(s':ES)(x:Ending)(w':AT):Prop:=∃vI' vO',x=rW (lB r)/\IS C w' vV vI' vO' s'/\aj (de C vO) w w'/\∀k,vO'.ownBlock=some k->vO.ownBlock=some k\/w.heap.size<=k
def Hz(C:IC)(n:Nat):Prop:=∀(e:List Nd) (s:ES) (r:ER) (s':ES),Ev C.t C.fr n (.e e) s r s'->wB C.t (s.l.map Prod.fst) e->qO C.t (s.l.map Prod.fst)->oneB e=true->∀(w:AT) (vV:Option Nat) (vI vO vN:BY),IS C w vV vI vO s->Tv C.w0 C.S vN e->Calls prog 132 #[pV C.P,vN] w λx w'=>kH C w vV vO r s' x w'
structure qD (C:IC) (w:AT) (vO:BY) (va:BY) (vs:List Int):Prop where
 is:∃a c,va=.slice a vs.length c/\vs.length<=c/\c<=9223372036854775807/\(0<vs.length->∃b,a=some ⟨b,0,none⟩/\b<w.heap.size/\¬de C vO b/\∀j (h:j<vs.length),w.cell? ⟨b,j,none⟩=some (V vs[j]))
def JL(C:IC)(n:Nat):Prop:=∀(f:Nat) (vs:List Int) (s:ES) (r:ER) (s':ES),Ev C.t C.fr n (.c f vs) s r s'->(∀hf:f<C.t.fc.length,vs.length=C.t.fc[f].pm.length)->(∀x∈vs,d7 x)->s.n+1000000000*((s.u:Int)+1)<=100001000000000->∀(w:AT) (vV:Option Nat) (vI vO va:BY),IS C w vV vI vO s->qD C w vO va vs->Calls prog 29 #[pV C.P,V (f:Int),va] w λx w'=>kH C w vV vO r s' x w'
def iA(w:AT):∃W0 M,W0=w.alloc (.cells #[V 0,V 0] 65)/\M=w.heap.size/\Bl w W0/\aN W0 M [V 0,V 0]/\M<W0.heap.size:=⟨_,_,rfl,rfl,r_.alloc n_ _,aI w _ _ i_,by rw[J9];omega⟩
def IS.hi{C:IC}(J:C.Ok){w:AT}{Z:Option Nat}{vI U:BY}{s:ES}(h:IS C w Z vI U s):C.P<w.heap.size/\(∀b∈C.gb,b<w.heap.size/\b≠C.P)/\C.w0.heap.size<=w.heap.size:=by
 have:=h.tc.size
 have⟨I,h2,h3,h4,h5⟩:=J.pg;exact⟨by omega,λb hb=>⟨by have:=(h5 b hb).2;omega,λe=>I (e ▸ hb)⟩,this⟩
def IS.past{C:IC}(hC:C.Ok){w w':AT}{vV:Option Nat}{vI Z:BY}{s:ES}{S:Ft}(h:IS C w vV vI Z s)(U:aj S w w')(J:∀k,S k->C.w0.heap.size<=k/\vV≠some k/\Z.ownBlock≠some k):IS C w' vV vI Z s:=by
 have⟨p1,p2,p3⟩:=h.hi hC;obtain⟨-,-,-,q4,q5⟩:=hC.pg;refine⟨h.tc.next U (λk hk=>.inr (J k hk).1),h.box.tcs p1 U (λI=>by have:=(J _ I).1;omega),h.gl,λk hk=>(h.gw k hk).tcs (p2 _ (g_ hk)).1 U (λI=>by have:=(J _ I).1;have:=(q5 _ (g_ hk)).2;omega),h.g1,?_,h.inp,fP h.out U (λk hk I=>(J k I).2.2 hk),h.ok,h.uu,h.nn⟩;rcases h.var with hv|⟨b,n,D,rfl,h1,h2,h3,h4,h5⟩
 exact .inl hv;have Jb:=h1.lt;obtain⟨es,Ja,h0,F,I,hD⟩:=h1;exact .inr ⟨b,n,D,rfl,⟨es,Ja,(U.block b Jb (λI=>(J _ I).2.1 rfl)).trans h0,F,I,hD⟩,h2,h3,h4,h5⟩
def IS.below{C:IC}(hC:C.Ok){w w':AT}{vV:Option Nat}{vI vO:BY}{s:ES}(h:IS C w vV vI vO s)(hb:Bl w w'):IS C w' vV vI vO s:=
 h.past hC (hb.tcs (S:=λ_=>False)) (λk hk=>hk.elim)
def IS.boxed{C:IC}(hC:C.Ok){w:AT}{U:Option Nat}{vI Z:BY}{s:ES}(h:IS C w U vI Z s)(i:Nat)(u:BY){Jb:BY}{s':ES}
  (hb:([C.vg,C.vf,.map (some C.bN),rV C.bB C.t.fc.length C.cB,.map (some C.bM),.map U,vI,Z,V s.u,C.vFr,V s.n,V s.d]:List BY).set i u=[C.vg,C.vf,.map (some C.bN),rV C.bB C.t.fc.length C.cB,.map (some C.bM),.map U,Jb,Z,V s'.u,C.vFr,V s'.n,V s'.d])
  (hg:s'.g=s.g) (hl:s'.l=s.l) (ho:s'.o=s.o) (hi:nL C.wa Jb s'.i) (I:OkW s') (hu:s'.u<=s.u) (hn:0<=s'.n/\s'.n+1000000000*s'.u<=100001000000000/\0<=s'.d/\s'.d<=100001000000000):
  IS C (w.setCell ⟨C.P,i,none⟩ u) U Jb Z s':=by
 have⟨p1,p2,p3⟩:=h.hi hC;have⟨q1,q2,q3,q4,q5⟩:=hC.pg;have J:aj (λk=>k=C.P) w (w.setCell ⟨C.P,i,none⟩ u):=(aj.refl (λk=>k=C.P) w).setCell (p:=⟨C.P,i,none⟩) rfl u;have Jc:=h.box.set i u;rw[hb]at Jc;have Je:=h.uu;refine⟨h.tc.trans (J.mono λk I=>.inl I),Jc,by rw[hg];exact h.gl,?_,by rw[hg];exact h.g1,?_,hi,?_,I,⟨by omega,by rw[ho];omega⟩,hn⟩
 rw[hg];exact λk I=>(h.gw k I).tcs (p2 _ (g_ I)).1 J (p2 _ (g_ I)).2
 rw[hl];rcases h.var with hv|⟨b,n,D,rfl,h1,h2,h3,h4,h5⟩;exact .inl hv;have Jd:=h1.lt;obtain⟨es,Ja,h0,F,hs,hD⟩:=h1;exact .inr ⟨b,n,D,rfl,⟨es,Ja,(J.block b Jd (λe=>by omega)).trans h0,F,hs,hD⟩,h2,by omega,h4,h5⟩;rw[ho];exact fP h.out J (λk I hs=>by have e:k=C.P:=hs;have:=(World.ownsRow.lt h.out k I).1;omega)
section
variable{gs:List Gl}
theorem pT:∀(gs:List Gl) (seen:List Io),fU seen gs=false->(∀g∈gs,g.nm∉seen)/\(gs.map (·.nm)).Nodup
 | [],_,_=>⟨λg hg=>(by cases hg),nodup_nil⟩
 | g::r,seen,h=>by
  unfold fU at h;by_cases hs:dF seen g.nm=true;rw[if_pos hs]at h;cases h;rw[if_neg hs]at h;have⟨h1,h2⟩:=pT r _ h;have hn:g.nm∉seen:=λhm=>hs (dI.2 hm);refine⟨λx hx=>?_,?_⟩
  rcases mem_cons.1 hx with rfl|hx;exact hn;exact λhm=>h1 x hx (mem_append_left _ hm)
  rw[map_cons,nodup_cons];refine⟨λhm=>?_,h2⟩;have⟨x,hx,he⟩:=mem_map.1 hm;exact h1 x hx (by rw[he];simp)
def vR{t:Tr}(h:(aQ t).1=0):(t.gl.map (·.nm)).Nodup:=by obtain⟨-,I,-⟩:=dA h;unfold bJ at I;by_cases hd:fU [] t.gl=true;rw[if_pos hd]at I;cases I;exact(pT t.gl [] (IN hd)).2
def DM(h:(gs.map (·.nm)).Nodup){k:Nat}(hk:k<gs.length):∀y∈gs.take k,y.nm≠gs[k].nm:=λy hy e=>by obtain⟨i,hi,rfl⟩:=getElem_of_mem hy;rw[length_take]at hi;rw[getElem_take]at e;have:=pD h (i:=i) (j:=k) H6 (IN hk) (IN e);omega
theorem vS(gs:List Gl)(g:Gl)(s:Io):i7 (gs++[g]) s=match i7 gs s with|some k=>some k|none=>if g.nm=s then some gs.length else none:=by
 unfold i7;rw[findIdx?_append];cases e:gs.findIdx? (λy=>decide (y.nm=s))with
 | some k=>simp
 | none=>by_cases hs:g.nm=s;simp[findIdx?_cons,hs];simp[findIdx?_cons,hs]
def iz.nil:iz (.map []) [] []:=⟨Maps.isMap_empty,λs=>rfl,λs k hk=>by simp at hk⟩
theorem iz.put{D:DataW BY}{J:List Nat}{g:Gl}{b:Nat}(h:iz D gs J)(hl:J.length=gs.length)(hn:∀y∈gs,y.nm≠g.nm):iz (D.put (kS g.nm) (.held (.slice (some ⟨b,0,none⟩) (ju g) (ju g)))) (gs++[g]) (J++[b]):=by
 have U:i7 gs g.nm=none:=CV (λj I=>hn _ (g_ I));refine⟨h.map.put _ _,λs=>?_,λs k hk hx=>?_⟩;rw[vS];by_cases hs:g.nm=s;subst hs;rw[Maps.has_put_same (k:=kS g.nm) h.map trivial,U];simp;rw[Maps.has_put_other (mw (Ne.symm hs)),h.has s];cases i7 gs s <;> simp[hs]
 rw[vS]at hx;by_cases hs:g.nm=s;subst hs;rw[U]at hx;simp only[if_true,J0]at hx;subst hx;rw[Maps.atKey_put_same (k:=kS g.nm) h.map trivial];simp[List.getD,<-hl];rw[Maps.atKey_put_other (mw (Ne.symm hs))];cases e:i7 gs s with
 | none=>rw[e]at hx;simp[hs]at hx
 | some j=>
  rw[e]at hx;simp only[J0]at hx;subst hx;have I:j<gs.length:=by unfold i7 at e;have:=findIdx?_eq_some_iff_getElem.1 e;exact this.1
  rw[h.val s j I e];have Z:(gs++[g])[j]=gs[j]:=getElem_append_left I;rw[Z];simp[List.getD,getElem?_append_left (by omega:j<J.length)]
end
section
variable{C:IC}{vO vI:BY}{w W:AT}{vV:Option Nat}{s:ES}{b nn k:Nat}{D:DataW BY}{gs:List Gl}{gb:List Nat}{x:Io}{t:Tr}
def de.P:de C vO C.P:=.inl rfl
def tp(h:IS C w vV vI vO s)(J:s.u=0):
  Calls prog 102 #[pV C.P] w λe w'=>e=rW (.bool false)/\w'=w:=by
 have I:=(h.box 8 _ rfl).1;rw[J]at I;go_in;go_wp2;go_ret;exact⟨rfl,rfl⟩
def fh(J:C.Ok)(h:IS C w vV vI vO s)(hu:0<s.u):
  Calls prog 102 #[pV C.P] w λe w'=>e=rW (.bool true)/\IS C w' vV vI vO s.sp/\aj (de C vO) w w':=by
 have Z:=(h.box 8 _ rfl).1;have U:=(h.box 8 _ rfl).2;have Ja:((s.u:Int) == 0)=false:=by simp;omega
 have Jb:=h.uu.1;have I:=h.nn;have H:Hid (IS C (w.setCell ⟨C.P,8,none⟩ (V ((s.u:Int)-1))) vV vI vO s.sp):=by
  have e:((s.sp.u:Nat):Int)=(s.u:Int)-1:=by simp only[ES.sp];omega
  rw[<-e];exact h.boxed J 8 _ rfl rfl rfl rfl h.inp ⟨h.ok.g,h.ok.l,h.ok.i⟩ (by simp only[ES.sp];omega) ⟨I.1,by simp only[ES.sp];omega,I.2.2.1,I.2.2.2⟩
 go_in;go_wp2;go_ret;exact⟨rfl,H,(aj.refl (de C vO) w).setCell (p:=⟨C.P,8,none⟩) de.P _⟩
def vT(Jb:W.ownsMap prog 9 gD b nn D)(U:iz D gs gb)(hs:x.size<=maxLen)(Z:k<gs.length)(h:i7 gs x=some k):
  (Instr.lookup 69 (.map (some b)) (sV x) true).run prog W=.ok (.tuple #[.slice (some ⟨gb.getD k 0,0,none⟩) (ju gs[k]) (ju gs[k]),.bool true]) W:=by
 have⟨v,ps,Ja,I⟩:=Jb.look_ok (Maps.string_keyed underlying9) underlying69 (zeroValue34 _) (show gD (.slice none 0 0)=some (.held (.slice none 0 0),[])from rfl) (WideMaps.keyOf_string_mk underlying9 hs);rw[U.val x k Z h]at I;simp only[gD,J0,Prod.mk.injEq,DataW.held.injEq]at I;have J:=U.has x;rw[h]at J;rw[J,I.1]at Ja;exact Ja
def rL(Jb:W.ownsMap prog 9 gD b nn D)(Z:iz D gs gb)(U:x.size<=maxLen)(h:i7 gs x=none):
  (Instr.lookup 69 (.map (some b)) (sV x) true).run prog W=.ok (.tuple #[nV,.bool false]) W:=by
 have⟨v,ps,Ja,I⟩:=Jb.look_ok (Maps.string_keyed underlying9) underlying69 (zeroValue34 _) (show gD (.slice none 0 0)=some (.held (.slice none 0 0),[])from rfl) (WideMaps.keyOf_string_mk underlying9 U);have J:=Z.has x;rw[h]at J;rw[Maps.atKey_of_not_has J]at I;simp only[gD,J0,Prod.mk.injEq,DataW.held.injEq]at I;rw[J,I.1]at Ja;exact Ja
def rM(Jb:W.ownsMap prog 9 gD b nn D)(Z:iz D gs gb)(U:x.size<=maxLen)(J:k<gs.length)(h:i7 gs x=some k):
  (Instr.lookup 69 (.map (some b)) (sV x) false).run prog W=.ok (.slice (some ⟨gb.getD k 0,0,none⟩) (ju gs[k]) (ju gs[k])) W:=by
 have⟨v,ps,Ja,I⟩:=Jb.lookup (Maps.string_keyed underlying9) underlying69 (zeroValue34 _) (show gD (.slice none 0 0)=some (.held (.slice none 0 0),[])from rfl) (WideMaps.keyOf_string_mk underlying9 U);rw[Z.val x k J h]at I;simp only[gD,J0,Prod.mk.injEq,DataW.held.injEq]at I;rw[I.1]at Ja;exact Ja
def DP{D:DataW Unit}{l:List (Io×Int)}(Jb:W.ownsMap prog 9 (plainElem (H:=Unit) prog 2) b nn D)(U:gG D l){v:Int}(J:x.size<=maxLen)(h:(x,v)∈l):
  (Instr.lookup 67 (.map (some b)) (sV x) false).run prog W=.ok (V v) W:=by
 have⟨c,Ja,I,_⟩:=Jb.lookup_int (Maps.string_keyed underlying9) underlying67 underlying2 (zeroValue2 _) (WideMaps.keyOf_string_mk underlying9 J);rw[(U.val x v h).2]at I;simp only[DataW.lit.injEq,Lit.int.injEq,true_and]at I;subst I;exact Ja
def bX{H:Type}{P:Program}{k:JZ}{R:BY->Option (DataW H×List MemPlace)}{w':AT}{n:Nat}{D:DataW H}{S:Ft}(h:w.ownsMap P k R b n D)(ht:aj S w w')(hn:¬S b):w'.ownsMap P k R b n D:=by have Jb:=h.lt;obtain⟨I,Ja,J,F,U,Z⟩:=h;exact⟨I,Ja,(ht.block b Jb hn).trans J,F,U,Z⟩
def IS.glb(I:C.Ok)(h:IS C w vV vI vO s):∃n D,w.ownsMap prog 9 gD C.bM n D/\iz D C.t.gl C.gb:=by have⟨n,D,J,h2⟩:=I.glb;have:=I.ne C.bM (.inr (.inl rfl));exact⟨n,D,bX J h.tc (λe=>e.elim this.2.1 this.2.2),h2⟩
def IS.num(I:C.Ok)(h:IS C w vV vI vO s):∃n D,w.ownsMap prog 9 (plainElem (H:=Unit) prog 2) C.bN n D/\dj D C.t.fc:=by have⟨n,D,J,h2⟩:=I.num;have:=I.ne C.bN (.inl rfl);exact⟨n,D,bX J h.tc (λe=>e.elim this.2.1 this.2.2),h2⟩
theorem tq:∀ {gs:List Gl} {x:Io},(∀g∈gs,0<=g.size)->globI gs x<0->i7 gs x=none
 | [],_,_,_=>rfl
 | g::r,x,hg,h=>by unfold globI at h;by_cases e:g.nm=x;rw[if_pos e]at h;have:=hg g i_;omega;rw[if_neg e]at h;have:=tq (λy hy=>hg y (by simp[hy])) h;unfold i7 at this⊢;rw[findIdx?_cons];simp[e,this]
def od(h:(aQ t).1=0):∀g∈t.gl,0<=g.size:=λg hg=>by obtain⟨h1,-,-⟩:=dA h;simp only[cM,J1,J2,all_eq_true]at h1;have:=h1.2.2.1 g hg;simp only[dD,J1,J2]at this;exact this.2.1
def zr(hC:C.Ok){sc:List Io}(h:qO C.t sc)(hx:x∈sc):i7 C.t.gl x=none:=tq (od hC.snd) (h.2 x hx)
def HH(J:x∈s.l.map Prod.fst):∃v,(x,v)∈s.l/\s.rd t x=v:=by
 have⟨j,h,I,h2⟩:=nw.1 J;refine⟨(s.l[j]).2,?_,?_⟩
 have:=g_ h
 rw[<-h2];exact this;unfold ES.rd;rw[I];simp[List.getD,h]
def IS.word(J:C.Ok)(h:IS C w vV vI vO s)(I:k<C.t.gl.length):∃b,C.gb.getD k 0=b/\b∈C.gb/\(s.g.getD k []).length=ju C.t.gl[k]/\aN w b ((s.g.getD k []).map (Value.int .i64)):=by
 have Ja:k<C.gb.length:=by rw[J.gbl];exact I
 have Jb:k<s.g.length:=by rw[h.gl];exact Ja
 refine⟨C.gb[k],by simp[List.getD,Ja],g_ Ja,?_,h.gw k Ja⟩;have:=h.g1 k Jb I;simpa[List.getD,Jb]using this
def zu(g:Gl)(h:0<=g.size):1<=ju g:=by unfold ju;split <;> omega
def FL(U:C.Ok)(h:IS C w vV vI vO s)(Jc:qO C.t (s.l.map Prod.fst))(hz:x.size<=maxLen)(I:x∈s.l.map Prod.fst\/(x∉s.l.map Prod.fst/\globI C.t.gl x=0)):
  Calls prog 166 #[pV C.P,sV x] w λe w'=>e=rW (V (s.rd C.t x))/\w'=w:=by
 have p4:=(h.box 4 _ rfl).1;have p5:=(h.box 5 _ rfl).1;have⟨n,D,Ja,hG⟩:=h.glb U;rcases I with I|⟨I,hg⟩
 ·have hl:=rL Ja hG hz (zr U Jc I);have⟨v,hv,he⟩:=HH (t:=C.t) I;obtain⟨b,rfl,Jf⟩:∃b,vV=some b/\(Instr.lookup 67 (.map (some b)) (sV x) false).run prog w=.ok (V v) w:=by rcases h.var with⟨-,e⟩|⟨b,n,D,rfl,J,h2,-⟩;rw[e]at hv;cases hv;exact⟨b,rfl,DP J h2 hz hv⟩
  rw[he];go_in;go_wp2;go_ret;exact⟨rfl,rfl⟩
 have⟨k,Z,J,h2⟩:=hU (gs:=C.t.gl) (x:=x) o_;have hl:=vT Ja hG hz Z J;have⟨b,hb,Je,Jb,hf⟩:=h.word U Z;have Jg:=zu C.t.gl[k] (od U.snd _ (g_ Z));have he:s.rd C.t x=(s.g.getD k []).getD 0 0:=by unfold ES.rd;rw[oM I,J]
 have Jd:=(hf 0 (V ((s.g.getD k []).getD 0 0)) (by generalize s.g.getD k []=ws at Jb⊢;rw[getElem?_map,J4 o_];simp[List.getD,show 0<ws.length by omega])).1;rw[he];rw[hb]at hl;generalize ju C.t.gl[k]=N at*;generalize (s.g.getD k []).getD 0 0=v0 at*;have Jh:(0:Int)<(N:Int):=o_;go_in;go_wp2;go_ret;exact⟨rfl,rfl⟩
end
section
variable{C:IC}{w:AT}{vV:Option Nat}{vI vO:BY}{s:ES}{x:Io}{k j:Nat}{v:Int}{l':List (Io×Int)}
def zv(Z:C.Ok)(h:IS C w vV vI vO s)(hz:x.size<=maxLen)(U:k<C.t.gl.length)(h1:i7 C.t.gl x=some k)(hv:0<=v/\v<ju C.t.gl[k]):
  Calls prog 105 #[pV C.P,sV x,V v] w λe w'=>e=rW (.pointer (some ⟨C.gb.getD k 0,v.toNat,none⟩))/\w'=w:=by
 have p4:=(h.box 4 _ rfl).1;have⟨n,D,Ja,J⟩:=h.glb Z;have hl:=rM Ja J hz U h1;generalize ju C.t.gl[k]=N at*;generalize C.gb.getD k 0=b at*;obtain⟨j,rfl⟩:∃j:Nat,v=(j:Int):=⟨v.toNat,o_⟩;have I:((j:Int)).toNat=j:=i_;rw[I];have Jb:¬(j:Int)<0:=o_;have Jc:¬(N:Int)<=(j:Int):=o_;go_in;go_wp2;go_ret;exact⟨rfl,rfl⟩
def vU(U:C.Ok)(h:IS C w vV vI vO s)(hz:x.size<=maxLen)(J:k<C.t.gl.length)(Z:i7 C.t.gl x=some k)(hv:¬(0<=v/\v<ju C.t.gl[k])):
  Calls prog 105 #[pV C.P,sV x,V v] w λe w'=>e=rW (.pointer none)/\w'=w:=by
 have p4:=(h.box 4 _ rfl).1;have⟨n,D,Ja,I⟩:=h.glb U;have hl:=rM Ja I hz J Z;generalize ju C.t.gl[k]=N at*;generalize C.gb.getD k 0=b at*;by_cases hn1:v<0
 ·go_in;go_wp2;go_ret;exact⟨rfl,rfl⟩
 have Jb:(N:Int)<=v:=o_;go_in;go_wp2;go_ret;exact⟨rfl,rfl⟩
def DQ(U:C.Ok)(h:IS C w vV vI vO s)(J:s.i=[]):
  Calls prog 167 #[pV C.P] w λe w'=>e=rW (V 0)/\w'=w:=by
 obtain⟨a,c,rfl,-⟩:=h.inp;have I:=(h.box 6 _ rfl).1;rw[J]at I;simp only[l_n]at I;go_in;go_wp2;go_ret;exact⟨rfl,rfl⟩
def Bc(U:C.Ok)(h:IS C w vV vI vO s){q:Int}{Ja:List Int}(hi:s.i=q::Ja):
  Calls prog 167 #[pV C.P] w λe w'=>∃vI',e=rW (V q)/\IS C w' vV vI' vO {s with i:=Ja}/\aj (de C vO) w w':=by
 have Ji:Bl C.wa w:=h.tc.below U.bel U.bel.size (λk hk=>by obtain⟨-,-,h3,-,h5⟩:=U.pg;rcases hk with e|e;omega;exact(h5 k e).1);have Jj:=h.inp;rw[hi]at Jj;obtain⟨J,I,rfl,Jg,Jn,Je⟩:=Jj;have Jf:=nL.tail (w0:=C.wa) (a:=J) (c:=I) (x:=q) (r:=Ja) ⟨J,I,rfl,Jg,Jn,Je⟩;have⟨bI,oI,Jm,Jh⟩:=Je i_;have Jp:DO w bI oI (V q):=by have h0:=Jh 0 i_;simp only[Nat.add_zero,getElem_cons_zero]at h0;exact(Ji.cell (p:=⟨bI,oI,none⟩) (b_ h0)).trans h0
 have Jb:=CW J (q::Ja).length I i_ Jg;have⟨Ta,Jk⟩:=q_ ((if I=1 then J else J.map (·.add (1*1))));rw[<-Jk]at Jb Jf;have p6:=(h.box 6 _ rfl).1;have f6:=(h.box 6 _ rfl).2;have H:Hid (IS C (w.setCell ⟨C.P,6,none⟩ (.slice Ta Ja.length (I-1))) vV (.slice Ta Ja.length (I-1)) vO {s with i:=Ja}):=h.boxed U 6 _ rfl rfl rfl rfl Jf ⟨h.ok.g,h.ok.l,λx hx=>h.ok.i x (by rw[hi];exact m_ _ hx)⟩ n_ h.nn;have⟨Z,Jd⟩:=q_ ((q::Ja).length);have Jl:0<Z:=by rw[Jd];simp
 have Jc:Z-1=Ja.length:=by rw[Jd];simp
 have Jo:((Z:Int) == 0)=false:=by simp;omega
 rw[<-Jd]at Jb p6;rw[Jc]at Jb;generalize Ja.length=rl at Jb H;subst Jm;clear h Ji Jf Jh Je Jg Jd Jc Jk;go_in;go_wp2;go_ret;exact⟨_,rfl,H,(aj.refl _ _).setCell (p:=⟨C.P,6,none⟩) de.P _⟩
def gG.put{D:DataW Unit}{l:List (Io×Int)}(h:gG D l)(J:∀y u,(y,u)∈l'->(y=x/\u=v)\/(y≠x/\(y,u)∈l)):gG (D.put (kS x) (.lit (.int .i64 v))) l':=by refine⟨h.map.put _ _,λy u hy=>?_⟩;rcases J y u hy with⟨rfl,rfl⟩|⟨Ja,I⟩;exact⟨Maps.has_put_same (k:=kS y) h.map trivial _,Maps.atKey_put_same (k:=kS y) h.map trivial ..⟩;rw[Maps.has_put_other (mw Ja),Maps.atKey_put_other (mw Ja)];exact h.val y u I
def Be{l:List Nat}(h:l.Nodup){i:Nat}(U:i<l.length)(J:j<l.length)(e:l[i]=l[j]):i=j:=by have I:=pairwise_iff_getElem.1 h;rcases Nat.lt_trichotomy i j with hl|hl|hl;exact absurd e (I i j U J hl);exact hl;exact absurd e.symm (I j i J U hl)
def IS.vars(Z:C.Ok){w':AT}{b:Nat}(h:IS C w (some b) vI vO s){n:Nat}{U:DataW Unit}(I:aj (λk=>k=b) w w')(ho:w'.ownsMap prog 9 (plainElem (H:=Unit) prog 2) b n U)(hv:gG U l')(hn:n+s.u<=100010)(hl:∀y∈l',d7 y.2):IS C w' (some b) vI vO {s with l:=l'}:=by
 have⟨p1,p2,p3⟩:=h.hi Z;obtain⟨-,-,-,q4,q5⟩:=Z.pg;obtain⟨hb,Ja⟩:C.w0.heap.size<=b/\vO.ownBlock≠some b:=by rcases h.var with⟨e,-⟩|⟨b',n,D,e,-,-,-,h4,h5⟩;cases e;cases e;exact⟨h4,h5⟩
 refine⟨h.tc.next I (λk hk=>.inr (by have e:k=b:=hk;omega)),h.box.tcs p1 I (λe=>by have J:C.P=b:=e;omega),h.gl,λk hk=>(h.gw k hk).tcs (p2 _ (g_ hk)).1 I (λe=>by have J:C.gb[k]=b:=e;have:=(q5 _ (g_ hk)).2;omega),h.g1,.inr ⟨b,n,U,rfl,ho,hv,hn,hb,Ja⟩,h.inp,fP h.out I (λk hk e=>by have J:k=b:=e;subst J;exact Ja hk),⟨h.ok.g,hl,h.ok.i⟩,h.uu,h.nn⟩
def IS.gset(hC:C.Ok)(h:IS C w vV vI vO s)(hk:k<C.t.gl.length)(hj:j<ju C.t.gl[k])(hv:d7 v):IS C (w.setCell ⟨C.gb.getD k 0,j,none⟩ (V v)) vV vI vO {s with g:=s.g.set k ((s.g.getD k []).set j v)}:=by
 have⟨p1,p2,p3⟩:=h.hi hC;have⟨q1,q2,q3,q4,q5⟩:=hC.pg;have Ja:k<C.gb.length:=by rw[hC.gbl];exact hk
 have Jb:k<s.g.length:=by rw[h.gl];exact Ja
 have e1:C.gb.getD k 0=C.gb[k]:=by simp[List.getD,Ja]
 have e2:s.g.getD k []=s.g[k]:=by simp[List.getD,Jb]
 rw[e1,e2];have J:=g_ Ja;have I:aj (λq=>q=C.gb[k]) w (w.setCell ⟨C.gb[k],j,none⟩ (V v)):=(aj.refl (λq=>q=C.gb[k]) w).setCell (p:=⟨C.gb[k],j,none⟩) rfl _;refine⟨h.tc.trans (I.mono λq hq=>.inr (by have e:q=C.gb[k]:=hq;rw[e];exact J)),h.box.tcs p1 I (λe=>(p2 _ J).2 e.symm),by simp[h.gl],λi hi=>?_,λi hi hi'=>?_,?_,h.inp,fP h.out I (λq hq e=>by have U:q=C.gb[k]:=e;have:=(World.ownsRow.lt h.out q hq).1;have:=(q5 _ J).2;omega),⟨se h.ok.g k (wN (λx hx=>h.ok.g _ (g_ Jb) x hx) j hv),h.ok.l,h.ok.i⟩,h.uu,h.nn⟩;by_cases e:k=i;subst e;have hf:=(h.gw k Ja).set j (V v);have Z:(s.g.set k ((s.g[k]).set j v)).getD k []=(s.g[k]).set j v:=(by simp[List.getD,Jb]);show aN _ _ (((s.g.set k ((s.g[k]).set j v)).getD k []).map _);rw[Z,List.map_set];rw[e2]at hf;exact hf;have Z:(s.g.set k ((s.g[k]).set j v)).getD i []=s.g.getD i []:=(by simp[List.getD,List.getElem?_set,e]);show aN _ _ (((s.g.set k ((s.g[k]).set j v)).getD i []).map _);rw[Z];refine(h.gw i hi).tcs (p2 _ (g_ hi)).1 I (λU=>e ?_);have e4:C.gb[i]=C.gb[k]:=U;exact(Be q2 hi Ja e4).symm;have Jc:i<s.g.length:=IN hi;by_cases e:k=i;subst e;have:=h.g1 k Jb hk;simpa using this
 have:=h.g1 i Jc hi'
 simpa[List.getElem_set,e]using this;rcases h.var with hv|⟨b,n,D,rfl,h1,h2,h3,h4,h5⟩;exact .inl hv;exact .inr ⟨b,n,D,rfl,bX h1 I (λe=>by have U:b=C.gb[k]:=e;have:=(q5 _ J).2;omega),h2,h3,h4,h5⟩
end
section
variable{n k:Nat}{av vI vO vO1 vI0 vI1:BY}{C:IC}{w w1 w2 wr:AT}{vV:Option Nat}{s z z0:ES}{x:Io}{v:Nat->Int}
def zw{W:AT}{B:Nat}{J:List BY}(h:W.ownsRow B 2 1 av n J)(z:Int)(hB:B<=W.heap.size)(hn:n<=1000000):
  ∃va vc w3,(Builtin.append_ #[34,34] 34 #[av,rV W.heap.size 1 1]).run prog (W.alloc (.cells #[V z] 2))=.ok (.slice va (n+1) vc) w3/\w3.ownsRow B 2 1 (.slice va (n+1) vc) (n+1) (J++[V z])/\aj (λk=>av.ownBlock=some k) W w3/\∀k,(Value.slice va (n+1) vc).ownBlock=some k->av.ownBlock=some k\/W.heap.size<k:=by
 have⟨U,hi,Jd,Je,Jc⟩:=info_parts rA;have Ja:Bl W (W.alloc (.cells #[V z] 2)):=ao _ _;have h':=ownB h Ja;have Jb:(W.alloc (.cells #[V z] 2)).ownsRow W.heap.size 2 1 (rV W.heap.size 1 1) 1 [V z]:=ownsRow_lit W #[V z] 1 n_ d_ rfl;have⟨v',w',r1,I,r3,Z⟩:=cU (P:=prog) (w:=W.alloc (.cells #[V z] 2)) B 34 34 2 U _ 1 8 underlying34 hi Jd Je Jc rfl d_ av _ _ h' (some ⟨W.heap.size,0,none⟩) 1 1 [V z] (λe=>by cases e) rfl (λad had k u hu=>by cases had;exact ownsRow.cells Jb (g:=W.heap.size) rfl k u hu) (λu hu=>by simp at hu;subst hu;rfl) o_ d_ (Ka Ja.size);obtain⟨va,vc,rfl,-⟩:=jf I;refine⟨va,vc,w',r1,I,(Ja.tcs (S:=λk=>av.ownBlock=some k)).next (T:=λk=>av.ownBlock=some k) (aj.of_grown r3 (λk hk=>hk)) (λk hk=>.inl hk),λk hk=>(Z k hk).imp id λh1=>?_⟩;rw[J9]at h1;omega
def de.lt(hC:C.Ok)(h:IS C w vV vI vO s):∀k,de C vO k->k<w.heap.size/\C.wa.heap.size<=k:=λk hk=>by
 have⟨p1,p2,p3⟩:=h.hi hC;have⟨q1,q2,q3,q4,q5⟩:=hC.pg;have:=hC.bel.size;rcases hk with rfl|hk|hk
 exact⟨p1,q3⟩;exact⟨(p2 k hk).1,(q5 k hk).1⟩
 have:=World.ownsRow.lt h.out k hk
 exact⟨this.2,o_⟩
def de.next(h1:aj (de C vO) w w1)(h2:aj (de C vO1) w1 w2)(ho:∀k,vO1.ownBlock=some k->vO.ownBlock=some k\/w.heap.size<=k):aj (de C vO) w w2:=
 h1.next h2 λk hk=>by rcases hk with rfl|hk|hk;exact .inl (.inl rfl);exact .inl (.inr (.inl hk));rcases ho k hk with h|h;exact .inl (.inr (.inr h));exact .inr h
theorem FM(U:C.Ok){b:Nat}{D:DataW Unit}(h:IS C w (some b) vI vO s)(ho:w.ownsMap prog 9 (plainElem (H:=Unit) prog 2) b n D)(hN:gG D s.l)(hn:n+1+s.u<=100010){v:Int}(hz:x.size<=maxLen)(hg:i7 C.t.gl x=none)(Z:d7 v){I:List (Io×Int)}(hl:∀y u,(y,u)∈I->(y=x/\u=v)\/(y≠x/\(y,u)∈s.l)):
  Calls prog 104 #[pV C.P,sV x,V v] w λe w'=>e=rW (.tuple #[])/\IS C w' (some b) vI vO {s with l:=I}/\aj (λk=>k=b) w w':=by
 have p4:=(h.box 4 _ rfl).1;have p5:=(h.box 5 _ rfl).1;have⟨n1,D1,Jc,hG⟩:=h.glb U;have Jf:=rL Jc hG hz hg;have⟨HO,HZ⟩:=h2 ho hz;have Je: -2147483648<=v/\v<=2147483647:=Z;have Jd:Hid (∀w',w'.ownsMap prog 9 (plainElem (H:=Unit) prog 2) b (n+1) (D.put (kS x) (.lit (.int .i64 v)))->w.grownBy w' (some b)->IS C w' (some b) vI vO {s with l:=I}/\aj (λk=>k=b) w w'):=λw' h1 h2=>by have J:aj (λk=>k=b) w w':=aj.of_grown h2 (λk hk=>by cases hk;rfl);refine⟨h.vars U J h1 (hN.put hl) hn (λy hy=>?_),J⟩;rcases hl y.1 y.2 hy with⟨-,e⟩|⟨-,hm⟩;rw[e];exact Z;exact h.ok.l _ hm
 go_in;go_wp2_with(first
  | (at_mapUpdate;refine wpList_mapUpdate_own _ rfl _ _ _ 67 rfl 9 2 (Maps.string_keyed underlying9) underlying67 _ b n D rfl HO (by unfold maxLen;omega) _ _ _ rfl rfl (WideMaps.keyOf_string_mk underlying9 HZ) _ [] (plainElem_int underlying2 (WalkArith.wf_i64 o_)) ?_;intro w1 Jb Ja)
  | fail)
 have HE:=ah (Jd w1 Jb Ja);go_wp2_with fail;exact bodyPost_end (v:=.tuple #[]) (by simp[results,results104,go_sem]) rfl ⟨rfl,HE⟩
def FN(J:C.Ok)(h:IS C w vV vI vO s){v:Int}(hz:x.size<=maxLen)(I:k<C.t.gl.length)(h1:i7 C.t.gl x=some k)(hv:d7 v):
  Calls prog 104 #[pV C.P,sV x,V v] w λe w'=>e=rW (.tuple #[])/\IS C w' vV vI vO {s with g:=s.g.set k ((s.g.getD k []).set 0 v)}/\aj (de C vO) w w':=by
 have p4:=(h.box 4 _ rfl).1;have⟨n1,D1,Ja,hG⟩:=h.glb J;have Jf:=vT Ja hG hz I h1;have Je:=zu C.t.gl[k] (od J.snd _ (g_ I));have U:=ah (h.gset J I (j:=0) Je hv);have⟨b,hb,Jd,Jb,hf⟩:=h.word J I;rw[hb]at U Jf;have HT:Hid (aj (de C vO) w (w.setCell ⟨b,0,none⟩ (V v))):=(aj.refl _ _).setCell (p:=⟨b,0,none⟩) (.inr (.inl Jd)) _;have Jc:=hf 0 (V ((s.g.getD k []).getD 0 0)) (by generalize s.g.getD k []=ws at Jb⊢;rw[getElem?_map,J4 o_];simp[List.getD,show 0<ws.length by omega]);have Z:=Jc.1;have f0:=Jc.2;generalize ju C.t.gl[k]=N at*;generalize (s.g.getD k []).getD 0 0=v0 at Z;have Jg:(0:Int)<(N:Int):=o_;go_in;go_wp2_with fail;exact bodyPost_end (v:=.tuple #[]) (by simp[results,results104,go_sem]) rfl ⟨rfl,U,HT⟩
def wD(C:IC)(w:AT)(vO:BY)(ar:BY)(A:Nat)(us:Nat->BY):Prop:=∃a cap,ar=.slice a A cap/\A<=cap/\cap<=9223372036854775807/\(0<A->∃B,a=some ⟨B,0,none⟩/\B<w.heap.size/\¬de C vO B/\∀i,i<A->w.cell? ⟨B,i,none⟩=some (us i))
structure BI (C:IC) (w:AT) (vV:Option Nat) (vO:BY) (v:Nat->Int) (z:ES) (k:Nat) (av:BY) (wr:AT) (vI1 vO1:BY):Prop where
 row:wr.ownsRow w.heap.size 2 1 av k ((e_ k v).map (Value.int .i64))
 st:IS C wr vV vI1 vO1 z
 tc:aj (de C vO) w wr
 oo:∀q,vO1.ownBlock=some q->vO.ownBlock=some q\/w.heap.size<=q
 ap:∀q,av.ownBlock=some q->vO1.ownBlock≠some q
def BI.start(h:IS C w vV vI vO z):BI C w vV vO v z 0 nV w vI vO:=
 ⟨ownsRow_nil _ _ _ _,h,aj.refl _ _,λq hq=>.inl hq,λq hq=>by cases hq⟩
def BI.past(hC:C.Ok){I:ES}{Jc Ja:BY}(h0:IS C w vV vI0 vO z0)(h:BI C w vV vO v z k av wr vI1 vO1)(hR:IS C w2 vV Jc Ja I)(U:aj (de C vO1) wr w2)(J:∀q,Ja.ownBlock=some q->vO1.ownBlock=some q\/wr.heap.size<=q):BI C w vV vO v I k av w2 Jc Ja:=by
 have Jb:=λq (hq:av.ownBlock=some q)=>ownsRow.lt h.row q hq;have⟨p1,Z,p3⟩:=h0.hi hC;have Jd:=h.tc.size;refine⟨fP h.row U (λq hq hT=>?_),hR,de.next h.tc U h.oo,λq hq=>?_,λq hq e=>?_⟩
 ·have h1:=(Jb q hq).1;rcases hT with rfl|hT|hT
  ·omega
  ·have:=(Z q hT).1;omega
  exact h.ap q hq hT
 rcases J q hq with h1|h1;exact h.oo q h1;exact .inr o_;rcases J q e with h1|h1;exact h.ap q hq h1
 have:=(Jb q hq).2;omega
def BI.more(U:C.Ok)(h0:IS C w vV vI0 vO z0)(h:BI C w vV vO v z k av wr vI1 vO1)(hk:k<=1000)(I:Bl wr w1):
  ∃va vc w3,(Builtin.append_ #[34,34] 34 #[av,rV w1.heap.size 1 1]).run prog (w1.alloc (.cells #[V (v k)] 2))=.ok (.slice va (k+1) vc) w3/\BI C w vV vO v z (k+1) (.slice va (k+1) vc) w3 vI1 vO1:=by
 have Jb:=h.tc.size;have Jc:=I.size;have⟨va,vc,w3,r1,r2,Z,r4⟩:=zw (ownB h.row I) (v k) o_ o_;have Ja:=λq (hq:av.ownBlock=some q)=>World.ownsRow.lt h.row q hq;have⟨p1,p2,p3⟩:=h0.hi U;refine⟨va,vc,w3,r1,?_,(h.st.below U I).past U Z (λq hq=>⟨by have:=(Ja q hq).1;omega,λe=>?_,h.ap q hq⟩),(h.tc.of_below I).next Z (λq hq=>.inr (Ja q hq).1),h.oo,λq hq e=>?_⟩
 rw[AL,List.map_append];exact r2;have h1:=(Ja q hq).1;rcases h0.var with⟨J,-⟩|⟨b,n,D,J,h2,-⟩;rw[J]at e;cases e;rw[J]at e;cases e;have:=h2.lt;omega;rcases r4 q hq with h1|h1;exact h.ap q h1 e
 have:=(World.ownsRow.lt h.st.out q e).2;omega
def BI.ar(hC:C.Ok)(h0:IS C w vV vI0 vO z0)(h:BI C w vV vO v z k av wr vI1 vO1):qD C wr vO1 av (e_ k v):=by
 have⟨p1,Z,p3⟩:=h0.hi hC;have I:(e_ k v).length=k:=uT k v;have Ja:=λq (hq:av.ownBlock=some q)=>ownsRow.lt h.row q hq;have Jb:=h.row;rcases h.row.2 with⟨e,U⟩|⟨g,Jc,Jd,e,h3,h4,h5⟩
 exact⟨none,0,by rw[e,I,U],by rw[I,U];exact n_,o_,λhp=>absurd hp (by rw[I];omega)⟩;obtain⟨q1,J,-⟩:=h5;unfold maxLen at J;refine⟨_,Jc,by rw[I];exact e,by rw[I];exact q1,J,λhp=>⟨g,rfl,?_,λhT=>?_,λj hj=>?_⟩⟩;exact(Ja g (by rw[e];rfl)).2
 ·have h1:=(Ja g (by rw[e];rfl)).1;rcases hT with hT|hT|hT
  ·omega
  ·have:=(Z g hT).1;omega
  exact h.ap g (by rw[e];rfl) hT
 rw[e]at Jb;have:=ownsRow.cells Jb (g:=g) rfl j (V (e_ k v)[j]) (by simp[hj]);rwa[dk,Nat.zero_add]at this
end
section
variable{C:IC}{n A j:Nat}{K:Nat->List Nd}{st:Nat->ES}{v:Nat->Int}{c:Int}{s':ES}
structure FO (C:IC) (n:Nat) (A:Nat) (K:Nat->List Nd) (st:Nat->ES) (v:Nat->Int) (j:Nat) (c:Int) (s':ES):Prop where
 le:j<=A
 kid:∀i,i<j->Ev C.t C.fr n (.e (K i)) (st i) (.val (v i)) (st (i+1))
 end':j<A->Ev C.t C.fr n (.e (K j)) (st j) (.out c) s'
 kn:∀i,i<A->wB C.t ((st 0).l.map Prod.fst) (K i)
 one:∀i,i<A->oneB (K i)=true
 sm:A<=100
theorem FO.l(h:FO C n A K st v j c s')(h0:OkW (st 0)):∀i,i<=j->OkW (st i)/\(st i).l=(st 0).l/\∀k,k<i->d7 (v k)
 | 0,_=>⟨h0,rfl,λk hk=>by omega⟩
 | i+1,hi=>by
  have⟨a1,a2,a3⟩:=h.l h0 i o_;have⟨b1,b2,b3⟩:=(h.kid i o_).inv a1 trivial;refine⟨b1,b3.2.2.2.trans a2,λk hk=>?_⟩;by_cases e:k=i
  subst e;exact b2 _ (.inl rfl);exact a3 k o_
def wE(C:IC)(w:AT)(vV:Option Nat)(vO:BY)(A:Nat)(st:Nat->ES)(v:Nat->Int)(j:Nat)(c:Int)(s':ES)(x:Ending)(w':AT):Prop:=∃vI' vO',aj (de C vO) w w'/\(∀q,vO'.ownBlock=some q->vO.ownBlock=some q\/w.heap.size<=q) /\
 ((j=A/\∃a n cp,x=rW (.tuple #[.slice a n cp,V 0])/\IS C w' vV vI' vO' (st A)/\qD C w' vO' (.slice a n cp) (e_ A v))\/(j<A/\x=rW (.tuple #[nV,V (c+1)])/\IS C w' vV vI' vO' s'))
def pU(hC:C.Ok)(IH:Hz C n)(hO:FO C n A K st v j c s')(hc:c=2\/c=3)(Xg:qO C.t ((st 0).l.map Prod.fst)){w:AT}{U:Option Nat}{vI J ar:BY}{us:Nat->BY}(h:IS C w U vI J (st 0))(hL:wD C w J ar A us)(hT:∀i,i<A->Tv C.w0 C.S (us i) (K i)):
  Calls prog 103 #[pV C.P,ar] w λx w'=>wE C w U J A st v j c s' x w':=by
 obtain⟨a,Xj,rfl,Xl,Xi,Jd⟩:=hL;have⟨Xb,HO,Xa,Z,Xc,Jv,HC⟩:=h7 IH hO Xg h Jd hT hC;have hA:=hO.sm;have Xh:=hO.le;go_in;go_wp2;go_loopw[11,4] (λi av wr=>∃(k:Nat) (xa:Option Addr) (xc:Nat) (Jj Ji:BY),i=V (k:Int)/\k<=j/\av=.slice xa k xc/\BI C w U J v (st k) k av wr Jj Ji) (λi _ _=>A-(RowKit.intOf i).toNat)
 case atStart=>exact⟨0,none,0,vI,J,rfl,y_,rfl,BI.start Z⟩
 case round=>
  obtain⟨k,xa,xc,Jj,Ji,rfl,Xe,rfl,I⟩:=hrel;have HV:=ah I;by_cases hlt:k<A
  ·have Jy:(k:Int)<(A:Int):=o_
   obtain⟨B,rfl,J_,Xf,Js⟩:=Xc o_;have Jr:DO wr B k (us k):=(c_ (a:=⟨B,k,none⟩) (I.tc.block B J_ Xf)).trans (Js k hlt);have⟨Xd,hl,Xk⟩:=HO.o.l Z.o.ok k Xe;have⟨tu,xu,hu⟩:=(Jv k hlt).isI;have Jp:=Jv k hlt;rw[hu]at Jr Jp;have Jc:∀(ri:ER) (si:ES),Ev C.t C.fr n (.e (K k)) (st k) ri si->Calls prog 132 #[pV C.P,.iface tu xu] wr λx w'=>kH C wr U Ji ri si x w':=λri si hE=>Xb (K k) (st k) ri si hE (by rw[hl];exact HO.o.kn k hlt) (by rw[hl];exact Xa) (HO.o.one k hlt) wr U Jj Ji (.iface tu xu) HV.o.st Jp;have Jw:=ah Jc;clear Jc I Js Jp hu Xd hl;by_cases hj:k<j
   ·have Jq:=ah (Jw _ _ (HO.o.kid k hj));go_wp2_with fail;refine Jq.o.mono ?_;rintro x w2 ⟨Jl,Jo,rfl,hR,ht,ho⟩;have Je:=HV.o.past HC Z hR ht ho;have⟨W3,Ja⟩:=q_ (w2.alloc (.cells #[V 0,V (v k)] 65));have Jh:Bl w2 W3:=(by rw[Ja];exact r_.alloc n_ _);have Jg:aN W3 w2.heap.size [V 0,V (v k)]:=(by rw[Ja];exact aI w2 _ _ i_);have⟨va,vc,w4,r4,Jt⟩:=Je.more HC Z o_ Jh;have⟨Hr,Ju,Jk⟩:=h3 r4 Jt Ja;have x0:=(Jg 0 _ rfl).1;have x1:=(Jg 1 _ rfl).1;have⟨B3,Jf⟩:=q_ w2.heap.size;rw[<-Jf]at x0 x1;have Jn:=ah Jf;have⟨kk,Jm⟩:=q_ (k+1);rw[<-Jm]at Hr Ju;have Jx:=ah Jm;clear hR ht ho Je Ja Jh Jg r4 Jt Jf Jm Jr;rw[show lB (.val (v k))=.agg #[V 0,V (v k)]from rfl];go_upto_region 5 with fail;rw[<-Jk.o,<-Jn.o];generalize v k=vk at x0 x1 Hr⊢;go_wp2_with(at_builtin;refine ay rfl (.tmp 23) (.tmp 26) _ rfl _ _ _ _ rfl rfl Hr ?_);go_roundw
    case rel=>
     have:=Ju.o
     rw[Jx.o]at this⊢;exact⟨k+1,va,vc,Jl,Jo,by go_num,o_,rfl,this⟩
    case measure=>exact IF
   obtain rfl:k=j:=(by omega);have Jq:=ah (Jw _ _ (HO.o.end' hlt));go_wp2_with fail;refine Jq.o.mono ?_;rintro x w2 ⟨Jl,Jo,rfl,hR,ht,ho⟩;have Je:=HV.o.past HC Z hR ht ho;have⟨W3,Ja⟩:=q_ (w2.alloc (.cells #[V (c+1),V 0] 65));have Jh:Bl w2 W3:=(by rw[Ja];exact r_.alloc n_ _);have Jg:aN W3 w2.heap.size [V (c+1),V 0]:=(by rw[Ja];exact aI w2 _ _ i_);have Jk:=ah Ja;have x0:=(Jg 0 _ rfl).1;have⟨B3,Jf⟩:=q_ w2.heap.size;rw[<-Jf]at x0;have Jn:=ah Jf;have Jb:Hid (∀X,Bl W3 X->wE C w U J A st v k c s' (rW (.tuple #[nV,V (c+1)])) X):=λX hX=>by have hb:Bl w2 X:=Jh.trans (hX.mono Jh.size);exact⟨Jl,Jo,Je.tc.of_below hb,Je.oo,.inr ⟨hlt,rfl,Je.st.below HC hb⟩⟩
   rw[show lB (.out c)=.agg #[V (c+1),V 0]from rfl];have Jz:((c+1) != 0)=true:=H6;generalize c+1=c1 at x0 Jb Jk Jz⊢;clear hR ht ho Je Ja Jh Jg Jf Jr;go_upto_region 5 with fail;rw[<-Jk.o,<-Jn.o];go_wp2_with fail;go_quiet (fail);go_wp2_with fail;refine bodyPost_ret (v:=.tuple #[nV,V c1]) (by simp[results,results103,go_sem]) rfl ?_;exact Jb _ ⟨rfl,rfl,rfl,n_,λ_ _=>rfl⟩
  obtain rfl:k=A:=(by omega);obtain rfl:k=j:=(by omega);have Jy:¬(k:Int)<(k:Int):=o_;have Jb:Hid (wE C w U J k st v k c s' (rW (.tuple #[.slice xa k xc,V 0])) wr):=⟨Jj,Ji,I.tc,I.oo,.inl ⟨rfl,xa,k,xc,rfl,I.st,I.ar HC Z⟩⟩;go_wp2_with fail;refine bodyPost_ret (v:=.tuple #[.slice xa k xc,V 0]) (by simp[results,results103,go_sem]) rfl ?_;exact Jb
end
section
variable{C:IC}{w:AT}{vV:Option Nat}{vO:BY}{s2:ES}
def dS(U:C.Ok){W0 I w3:AT}{Je Jb Ja:BY}{s0:ES}{M:Nat}(hM:M=w.heap.size)(Z:IS C w vV Je vO s0)(Jc:Bl w W0)(Jf:M<W0.heap.size)(h:IS C I vV Jb Ja s2)(ht:aj (de C vO) W0 I)(ho:∀k,Ja.ownBlock=some k->vO.ownBlock=some k\/W0.heap.size<=k)(Jd:Bl I w3){x0 x1:BY}(hf:aN w3 M [x0,x1])(r:ER){a b:Int}(ha:cH r=a)(hb:dg r=b):
  ((w3.setCell ⟨M,0,none⟩ (V a)).setCell ⟨M,1,none⟩ (V b)).cell? ⟨M,0,none⟩=some (V a)/\((w3.setCell ⟨M,0,none⟩ (V a)).setCell ⟨M,1,none⟩ (V b)).cell? ⟨M,1,none⟩=some (V b)/\kH C w vV vO r s2 (rW (.agg #[V a,V b])) ((w3.setCell ⟨M,0,none⟩ (V a)).setCell ⟨M,1,none⟩ (V b)):=by
 have hF:=(hf.set 0 (V a)).set 1 (V b);have hT:aj (λk=>k=M) w3 ((w3.setCell ⟨M,0,none⟩ (V a)).setCell ⟨M,1,none⟩ (V b)):=(((aj.refl (λk=>k=M) w3).setCell (p:=⟨M,0,none⟩) rfl _).setCell (p:=⟨M,1,none⟩) rfl _);have⟨p1,p2,p3⟩:=Z.hi U;refine⟨(hF 0 _ rfl).1,(hF 1 _ rfl).1,Jb,Ja,by rw[lB,ha,hb],(h.below U Jd).past U hT (λk hk=>?_),?_,λk hk=>?_⟩
 ·have e:k=M:=hk;subst e;refine⟨o_,λe=>?_,λe=>?_⟩
  ·rcases Z.var with⟨J,-⟩|⟨q,n,D,J,h2,-⟩
   ·rw[J]at e;cases e
   rw[J]at e;cases e;have:=h2.lt;omega
  rcases ho k e with h1|h1
  ·have:=(World.ownsRow.lt Z.out k h1).2;omega
  omega
 exact(((Jc.tcs (S:=de C vO)).trans ht).of_below Jd).next hT (λk hk=>.inr (by have e:k=M:=hk;omega));rcases ho k hk with h1|h1;exact .inl h1;exact .inr (Ka Jc.size)
def Bh(r1:ER)(s1:ES)(r2:ER)(s2:ES):Prop:=(∃c,r1=.out c/\r2=.out c/\s2=s1)\/∃x,r1=.val x/\((s1.u=0/\r2=.out 2/\s2=s1)\/(0<s1.u/\r2=.val (boolN (decide (x≠0)))/\s2=s1.sp))
def xY(b:Bool)(w:AT):Calls prog 137 #[.bool b] w λe w'=>e=rW (V (boolN b))/\w'=w:=by
 cases b
 ·go_in;go_wp2;go_ret;exact⟨rfl,rfl⟩
 go_in;go_wp2;go_ret;exact⟨rfl,rfl⟩
def mT(hC:C.Ok){n:Nat}(IH:Hz C n){e:List Nd}{s s1:ES}{r1 r2:ER}(hE:Ev C.t C.fr n (.e e) s r1 s1)(hS:Bh r1 s1 r2 s2)(Xh:wB C.t (s.l.map Prod.fst) e)(Xi:qO C.t (s.l.map Prod.fst))(Xj:oneB e=true){vI vN:BY}(h:IS C w vV vI vO s)(hT:Tv C.w0 C.S vN e):
  Calls prog 165 #[pV C.P,vN] w λx w'=>kH C w vV vO r2 s2 x w':=by
 obtain⟨tn,xn,rfl⟩:=hT.isI;have⟨W0,M,Xe,hM,Jp,Xb,Ji⟩:=iA w;have⟨Xq,H0,HC,Xp,Js,HM,Xm,HS⟩:=h8 (IH e s r1 s1 hE Xh Xi Xj W0 vV vI vO _ (h.below hC Jp) hT) h hC Xe Jp hM Xb hS;have Xk:=ah hE.outc;have Jj:¬de C vO M:=λhk=>by have:=(de.lt hC h M hk).1;omega
 clear h hC IH hE Xh Xi Xj hT Xe Jp hM Xb hS;go_in;go_upto_region 1 with fail;rw[<-Xp.o,<-HM.o];go_wp2_with fail;refine Xq.o.mono ?_;rintro x w2 ⟨Xs,Jy,rfl,hR,ht,ho⟩;have⟨Z,Jb⟩:=q_ (cH r1);have⟨I,Jc⟩:=q_ (dg r1);rw[show lB r1=.agg #[V Z,V I] by rw[Jb,Jc];rfl];have⟨W3,Jk⟩:=q_ (w2.alloc (.cells #[V Z,V I] 65));have Jr:Bl w2 W3:=by rw[Jk];exact r_.alloc n_ _
 have Jo:aN W3 w2.heap.size [V Z,V I]:=by rw[Jk];exact aI w2 _ _ i_
 have⟨B3,Jf⟩:=q_ w2.heap.size;rw[<-Jf]at Jo;have Jq:aN w2 M [V 0,V 0]:=Xm.o.tcs Ji ht Jj;have Xo:B3≠M:=by have:=b_ (Jq 0 _ rfl).1;rw[Jf];exact λe=>by subst e;exact absurd this (Nat.lt_irrefl _)
 have⟨Jt,Jd,HR,Ht,Ho,Xd,Xn,Jg,Xg,Jx⟩:=h10 Jo (Jq.below Jr) hR ht ho Jf Jk Jr Jb Jc;clear Jk Jr Jo Jf Jq hR ht ho Jb Jc;have x0:=(Jt 0 _ rfl).1;have x1:=(Jt 1 _ rfl).1;have m0:=Jd 0 _ rfl;have m1:=Jd 1 _ rfl;obtain⟨y0,f0⟩:=m0;obtain⟨y1,f1⟩:=m1;go_upto_region 2 with fail;rw[<-Xn.o,<-Xd.o];rcases HS.o with⟨c,U,J,e3⟩|⟨x,U,hu⟩
 ·have Jb:Z=c+1:=by rw[Xg.o,U];rfl
  have Jc:I=0:=by rw[Jx.o,U];rfl
  have Xa:cH r2=Z:=by rw[J,Jb];rfl
  have Jv:dg r2=I:=by rw[J,Jc];rfl
  have Xl:(Z != 0)=true:=by have:=Xk.o c U;simp;omega
  have Ja:=ah (dS HC HM H0 Js Ji HR Ht Ho Jg Jd r2 Xa Jv);rw[<-e3]at Ja;clear Jb Jc Xa Jv U J e3;go_wp2_with fail;obtain⟨t0,t1,hQ⟩:=Ja;exact bodyPost_ret (v:=.agg #[V Z,V I]) (by simp[results,results165,go_sem,t0,t1]) rfl hQ
 have Jb:Z=0:=by rw[Xg.o,U];rfl
 have Jc:I=x:=by rw[Jx.o,U];rfl
 subst Jb Jc;have Jh:=HR.o.below HC Jg;rcases hu with⟨hu,J,e3⟩|⟨hu,J,e3⟩
 ·have⟨Jn,Ja⟩:=h2 (tp Jh hu) (dS HC HM H0 Js Ji HR Ht Ho Jg Jd r2 (a:=3) (b:=0) (by rw[J];rfl) (by rw[J];rfl));rw[<-e3]at Ja;clear Jh U J e3 hu;go_wp2_with fail;refine Jn.o.mono ?_;rintro e w4 ⟨rfl,Jw⟩;rw[Jw];clear Jw;go_wp2_with fail;obtain⟨t0,t1,hQ⟩:=Ja;exact bodyPost_ret (v:=.agg #[V 3,V 0]) (by simp[results,results165,go_sem,t0,t1]) rfl hQ
 have Jn:=ah (fh HC Jh hu);clear Jh U hu;go_wp2_with fail;refine Jn.o.mono ?_;rintro e w4 ⟨rfl,J_,Jl⟩;have Xr:¬de C Jy B3:=λhk=>by have:=(de.lt HC.o HR.o B3 hk).1;have:=Xd.o;omega
 have Ju:¬de C Jy M:=λhk=>by rcases hk with h1|h1|h1;exact Jj (.inl h1);exact Jj (.inr (.inl h1));rcases Ho.o M h1 with h2|h2;exact Jj (.inr (.inr h2));omega
 have Jz:=Jt.o.tcs (b_ x0) Jl Xr;have Je:=Jd.o.tcs (b_ y0) Jl Ju;have Xf:aj (de C vO) W0 w4:=de.next (Ht.o.of_below Jg) Jl Ho;have Ja:=ah (dS HC HM H0 Js Ji J_ Xf Ho r_ Je r2 (a:=0) (b:=boolN (decide (I≠0))) (by rw[J];rfl) (by rw[J];rfl));rw[<-e3]at Ja;clear x0 x1 y0 y1 f0 f1 J e3 J_ Jl Xf;have x1:=(Jz 1 _ rfl).1;have⟨y0,f0⟩:=Je 0 _ rfl;have⟨y1,f1⟩:=Je 1 _ rfl;clear Jz Je;have Jm:decide (I≠0)=(I != 0):=by by_cases h:I=0 <;> simp[h]
 rw[Jm]at Ja;go_wp2_with fail;refine(xY _ w4).mono ?_;rintro e w5 ⟨rfl,Xc⟩;rw[Xc];clear Xc;generalize boolN (I != 0)=q at Ja⊢;go_wp2_with fail;obtain⟨t0,t1,hQ⟩:=Ja;exact bodyPost_ret (v:=.agg #[V 0,V q]) (by simp[results,results165,go_sem,t0,t1]) rfl hQ
end
section
variable{n:Nat}{e:List Nd}{s s':ES}{r:ER}
theorem DR{t:Tr}{fr:List Int}(h:Ev t fr (n+1) (.e e) s r s')(J:(aq e).kd=8\/(aq e).kd=9):∃b,Cut e 2 b/\∃r1 s1 r2 s2,Ev t fr n (.e (kid e b 0)) s r1 s1/\Bh r1 s1 r2 s2 /\
  ((((∃c,r2=.out c/\c ≠ -1)\/∃q,r2=.val q/\((aq e).kd=8/\q=0\/(aq e).kd=9/\q≠0))/\r=r2/\s'=s2)\/∃q,r2=.val q/\((aq e).kd=8/\q≠0\/(aq e).kd=9/\q=0)/\∃r3 s3,Ev t fr n (.e (kid e b 1)) s2 r3 s3/\Bh r3 s3 r s'):=by
 have I:∀ {x:Int},x=0->boolN (decide (x≠0))=0:=λh=>by simp[h,boolN]
 have bn:∀ {x:Int},x≠0->boolN (decide (x≠0))≠0:=λh=>by simp[h,boolN]
 cases h using Ev_i with
 | kid _ _ A b st v j c _ h1 h2 h3 h4 h5 h6=>rcases J with h|h <;> contradiction
 | dry _ _ A b st v h1 h2 h3 h4 h5=>rcases J with h|h <;> contradiction
 | work _ _ A b st v h1 h2 h3 h4 h5 h6=>rcases J with h|h <;> contradiction
 | call _ _ A b st v f _ _ h1 h2 h3 h4 h5 h6=>omega
 | left _ _ b _ c _ h1 h2 h3=>exact⟨b,h1,_,_,_,_,h3,.inl ⟨c,rfl,rfl,rfl⟩,.inl ⟨.inl ⟨c,rfl,by rcases h3.outc c rfl with h|h <;> omega⟩,rfl,rfl⟩⟩
 | ldry _ _ b _ x _ h1 h2 h3 h4=>exact⟨b,h1,_,_,_,_,h3,.inr ⟨x,rfl,.inl ⟨h4,rfl,rfl⟩⟩,.inl ⟨.inl ⟨2,rfl,d_⟩,rfl,rfl⟩⟩
 | lone _ _ b _ x _ h1 h2 h3 h4=>exact⟨b,h1,_,_,_,_,h3,.inr ⟨x,rfl,.inr ⟨h4,rfl,rfl⟩⟩,.inl ⟨.inr ⟨_,rfl,h2.imp (λh=>⟨h.1,I h.2⟩) (λh=>⟨h.1,bn h.2⟩)⟩,rfl,rfl⟩⟩
 | rigt _ _ b _ x s1 c _ h1 h2 h3 h4 h5=>exact⟨b,h1,_,_,_,_,h3,.inr ⟨x,rfl,.inr ⟨h4,rfl,rfl⟩⟩,.inr ⟨_,rfl,h2.imp (λh=>⟨h.1,bn h.2⟩) (λh=>⟨h.1,I h.2⟩),_,_,h5,.inl ⟨c,rfl,rfl,rfl⟩⟩⟩
 | rdry _ _ b _ x s1 y _ h1 h2 h3 h4 h5 h6=>exact⟨b,h1,_,_,_,_,h3,.inr ⟨x,rfl,.inr ⟨h4,rfl,rfl⟩⟩,.inr ⟨_,rfl,h2.imp (λh=>⟨h.1,bn h.2⟩) (λh=>⟨h.1,I h.2⟩),_,_,h5,.inr ⟨y,rfl,.inl ⟨h6,rfl,rfl⟩⟩⟩⟩
 | both _ _ b _ x s1 y _ h1 h2 h3 h4 h5 h6=>exact⟨b,h1,_,_,_,_,h3,.inr ⟨x,rfl,.inr ⟨h4,rfl,rfl⟩⟩,.inr ⟨_,rfl,h2.imp (λh=>⟨h.1,bn h.2⟩) (λh=>⟨h.1,I h.2⟩),_,_,h5,.inr ⟨y,rfl,.inr ⟨h6,rfl,rfl⟩⟩⟩⟩
def Bh.l{Z U:ER}{J I:ES}(h:Bh Z J U I):I.l=J.l:=by rcases h with⟨c,-,-,rfl⟩|⟨x,-,⟨-,-,rfl⟩|⟨-,-,rfl⟩⟩ <;> rfl
def pW{C:IC}(hC:C.Ok)(IH:Hz C n)(hE:Ev C.t C.fr (n+1) (.e e) s r s'){tb:Bool}(Z:(aq e).kd=8/\tb=true\/(aq e).kd=9/\tb=false)(Xk:wB C.t (s.l.map Prod.fst) e)(Xl:qO C.t (s.l.map Prod.fst))(Xv:oneB e=true){w:AT}{vV:Option Nat}{vI vO vx vy:BY}(h:IS C w vV vI vO s)(hT:∀b,Cut e 2 b->Tv C.w0 C.S vx (kid e b 0)/\Tv C.w0 C.S vy (kid e b 1)):
  Calls prog 144 #[pV C.P,vx,vy,.bool tb] w λx w'=>kH C w vV vO r s' x w':=by
 have⟨b,Je,r1,s1,r2,s2,J_,Xi,Jc⟩:=DR hE (Z.imp (λh=>h.1) (λh=>h.1));have⟨Jx,Xh⟩:=hT b Je;have⟨A',b',Jd,Jh⟩:=jz Xv;have Ja:∀i,i<2->oneB (kid e b i)=true:=λi hi=>by
  obtain⟨rfl,hb⟩:=Je.one Jd;have e1:kid e b i=kid e b' i:=by unfold kid;rw[hb i o_,hb (i+1) o_]
  rw[e1];exact Jh i hi
 obtain⟨tx,xx,rfl⟩:=Jx.isI;obtain⟨ty,xy,rfl⟩:=Xh.isI;have⟨W0,M,Xr,hM,Xa,Xn,Xb⟩:=iA w;have Yd:=ah (mT hC IH J_ Xi Xk.kid Xl (Ja 0 o_) (h.below hC Xa) Jx);have Xg:s2.l=s.l:=Xi.l.trans (J_.inv h.ok trivial).2.2.2.2.2;have Xo:Hid (∀(X:AT) (Jl Jg:BY) r3 s3,IS C X vV Jl Jg s2->Ev C.t C.fr n (.e (kid e b 1)) s2 r3 s3->Bh r3 s3 r s'->Calls prog 165 #[pV C.P,.iface ty xy] X λx w'=>kH C X vV Jg r s' x w'):=λX Jl Jg r3 s3 hX Jn Jo=>mT hC IH Jn Jo (by rw[Xg];exact Xk.kid) (by rw[Xg];exact Xl) (Ja 1 o_) hX Xh;have⟨H0,HC,Yc,Xp,HM,X_,Ji,HK⟩:=h8 h hC Xr Xa hM Xn Jc Z;have Jr:¬de C vO M:=λZ=>by have:=(de.lt hC h M Z).1;omega
 clear h hC IH hE J_ Xi Xk Xl Xv hT Xr Xa hM Xn Jc Jx Xh Jh Ja Je Jd Xg Z;go_in;go_upto_region 1 with fail;rw[<-Yc.o,<-HM.o];go_wp2_with fail;refine Yd.o.mono ?_;rintro x w2 ⟨Jl,Jg,rfl,hR,ht,ho⟩;have⟨J,Jf⟩:=q_ (cH r2);have⟨I,Jb⟩:=q_ (dg r2);rw[show lB r2=.agg #[V J,V I] by rw[Jf,Jb];rfl];have⟨W3,Js⟩:=q_ (w2.alloc (.cells #[V J,V I] 65));have Xd:Bl w2 W3:=by rw[Js];exact r_.alloc n_ _
 have Jy:aN W3 w2.heap.size [V J,V I]:=by rw[Js];exact aI w2 _ _ i_
 have⟨B3,Jp⟩:=q_ w2.heap.size;rw[<-Jp]at Jy;have Xc:aN w2 M [V 0,V 0]:=X_.o.tcs Xb ht Jr;have Yb:B3≠M:=by have:=b_ (Xc 0 _ rfl).1;rw[Jp];exact λe=>by subst e;exact absurd this (Nat.lt_irrefl _)
 have⟨Xq,Jt,HR,Ht,Ho,Xz,Ya,Jq,Ju,Jw⟩:=h10 Jy (Xc.below Xd) hR ht ho Jp Js Xd Jf Jb;clear Js Xd Jy Jp Xc hR ht ho Jf Jb;have x0:=(Xq 0 _ rfl).1;have x1:=(Xq 1 _ rfl).1;have⟨y0,f0⟩:=Jt 0 _ rfl;have⟨y1,f1⟩:=Jt 1 _ rfl;go_upto_region 2 with fail;rw[<-Ya.o,<-Xz.o];rcases Ji.o with⟨Jk,e2,e3⟩|⟨q,e1,hq,r3,s3,Jn,Jo⟩
 ·have Jj:=ah (dS HC HM H0 Xp Xb HR Ht Ho Jq Jt r (a:=J) (b:=I) (by rw[e2];exact Ju.o.symm) (by rw[e2];exact Jw.o.symm));rw[<-e3]at Jj;rcases Jk with⟨c,U,hc⟩|⟨q,U,hq⟩
  ·have Xw:(J != 0)=true:=by
    have:J=c+1:=(by rw[Ju.o,U];rfl);simp
    omega
   clear e2 e3 U hc;go_wp2_with fail;obtain⟨t0,t1,hQ⟩:=Jj;exact bodyPost_ret (v:=.agg #[V J,V I]) (by simp[results,results144,go_sem,t0,t1]) rfl hQ
  have Jf:J=0:=(by rw[Ju.o,U];rfl);have Jb:I=q:=(by rw[Jw.o,U];rfl);have Jv:(tb=true/\(I != 0)=false)\/(tb=false/\(I != 0)=true):=by rcases HK.o with⟨k1,e5⟩|⟨k1,e5⟩;refine .inl ⟨e5,?_⟩;have:I=0:=(by rw[Jb];omega);simp[this];refine .inr ⟨e5,?_⟩;have:I≠0:=(by rw[Jb];omega);simp[this]
  subst Jf;clear e2 e3 U hq Jb HK;rcases Jv with⟨rfl,hz⟩|⟨rfl,hz⟩;all_goals (
   go_wp2_with fail;obtain⟨t0,t1,hQ⟩:=Jj;exact bodyPost_ret (v:=.agg #[V 0,V I]) (by simp[results,results144,go_sem,t0,t1]) rfl hQ)
 have Jf:J=0:=by rw[Ju.o,e1];rfl
 have Jb:I=q:=by rw[Jw.o,e1];rfl
 have Jv:(tb=true/\(I != 0)=true)\/(tb=false/\(I != 0)=false):=by rcases HK.o with⟨k1,e5⟩|⟨k1,e5⟩;refine .inl ⟨e5,?_⟩;have:I≠0:=(by rw[Jb];omega);simp[this];refine .inr ⟨e5,?_⟩;have:I=0:=(by rw[Jb];omega);simp[this]
 subst Jf;have Xy:=ah (Xo W3 Jl Jg r3 s3 (HR.o.below HC Jq) Jn Jo);clear e1 hq Jb Jn Jo Xo HK;rcases Jv with⟨rfl,hz⟩|⟨rfl,hz⟩;all_goals (
  go_wp2_with fail;refine Xy.o.mono ?_;rintro x w4 ⟨Ye,Xx,rfl,Xt,Xj,Xs⟩;have Xf:¬de C Jg M:=λZ=>by rcases Z with h1|h1|h1;exact Jr (.inl h1);exact Jr (.inr (.inl h1));rcases Ho.o M h1 with h2|h2;exact Jr (.inr (.inr h2));omega
  have Jm:=Jt.o.tcs (b_ y0) Xj Xf;have Xu:aj (de C vO) W0 w4:=de.next (Ht.o.of_below Jq) Xj Ho;have Xm:∀k,Xx.ownBlock=some k->vO.ownBlock=some k\/W0.heap.size<=k:=λk Z=>by
   rcases Xs k Z with h1|h1;exact Ho k h1
   have:=Ht.o.size;have:=Jq.o.size;exact .inr o_
  have⟨U,Xe⟩:=q_ (cH r);have⟨v4,Jz⟩:=q_ (dg r);rw[show lB r=.agg #[V U,V v4] by rw[Xe,Jz];rfl];have Jj:=ah (dS HC HM H0 Xp Xb Xt Xu Xm r_ Jm r Xe.symm Jz.symm);clear x0 x1 y0 y1 f0 f1 Xt Xj Xu Xs Xm Xe Jz;have⟨y0,f0⟩:=Jm 0 _ rfl;have⟨y1,f1⟩:=Jm 1 _ rfl;clear Jm;go_wp2_with fail;obtain⟨t0,t1,hQ⟩:=Jj;exact bodyPost_ret (v:=.agg #[V U,V v4]) (by simp[results,results144,go_sem,t0,t1]) rfl hQ)
end
