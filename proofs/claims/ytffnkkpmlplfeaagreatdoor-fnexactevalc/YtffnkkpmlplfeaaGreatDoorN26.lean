import Derived.Test.YtffnkkpmlplfeaaGreatDoorN21
import Derived.Test.YtffnkkpmlplfeaaGreatDoorN20
import Derived.Test.YtffnkkpmlplfeaaGreatDoorN24
import Derived.Test.YtffnkkpmlplfeaaGreatDoorN25
namespace Go.Proofs.YtffnkkpmlplfeaaGreatDoor
open Go.Proofs.Tryz
open Go.RowKit
set_option linter.all false
set_option maxRecDepth 100000
set_option maxHeartbeats 16000000
variable[Inhabited Pick]
structure RC where
 w0:World
 t:Tr
 fr:List Int
 vg:Value
 vf:Value
 vFr:Value
 P:Nat
 bG:Nat
 ga:Option Addr
 gc:Nat
 gb:List Nat
 F:Int
def RC.K (C:RC) (lb:List Nat):List Nat:=C.P::C.bG::(C.gb++lb)
def InN (w0:World) (v:Value) (l:List Int):Prop:=∃a c,v=.slice a l.length c/\l.length<=c/\c<=9223372036854775807/\(0<l.length->∃b off,a=some ⟨b,off,none⟩/\∀j (h:j<l.length),w0.cell? ⟨b,off+j,none⟩=some (.int .i64 l[j]))
structure RC.Ok (C:RC):Prop where
 gs:Globs C.w0 C.vg C.t.globals
 fs:Funcs C.w0 C.vf C.t.funcs
 frs:InN C.w0 C.vFr C.fr
 snd:(checkE C.t).1=0
 frl:C.fr.length=C.t.funcs.length
 frb : ∀x∈C.fr,0<=x/\x<=1000000000
 gbl:C.gb.length=C.t.globals.length
 fu:0<=C.F/\C.F<=100000
 sm:C.t.globals.length<=1000/\C.t.funcs.length<=1000
 gav:0<C.t.globals.length->C.ga=some ⟨C.bG,0,none⟩
def lcl (x:ByteArray × Int) (b:Nat):List Value:=[.string x.1,.slice (some ⟨b,0,none⟩) 1 1]
def flatV (l:List (ByteArray × Int)) (lb:List Nat):List Value:=(l.zip lb).flatMap (λx=>lcl x.1 x.2)
theorem flatV_len {l:List (ByteArray × Int)} {lb:List Nat} (h:lb.length=l.length):(flatV l lb).length=l.length*2:=by
 induction l generalizing lb with
 | nil=>simp[flatV]
 | cons x r ih=>
  cases lb with
  | nil=>simp at h
  | cons b q=>
   have:=ih (lb:=q) (by simpa using h)
   have e:flatV (x::r) (b::q)=lcl x b++flatV r q:=by simp[flatV]
   rw[e,l_a,this];simp[lcl];omega
theorem flatV_get : ∀(l:List (ByteArray × Int)) (lb:List Nat) (h:lb.length=l.length) (j i:Nat) (hj:j<l.length),i<2->(flatV l lb)[j*2+i]? = (lcl l[j] (lb[j]' o_))[i]?
 | x::l,b::lb,h,0,i,_,hi=>by
  have h2:(lcl x b).length=2:=rfl;have e:flatV (x::l) (b::lb)=lcl x b++flatV l lb:=by simp[flatV]
  rw[e,List.getElem?_append_left o_];simp
 | x::l,b::lb,h,j+1,i,hj,hi=>by
  have h2:(lcl x b).length=2:=rfl;have e:flatV (x::l) (b::lb)=lcl x b++flatV l lb:=by simp[flatV]
  rw[e,List.getElem?_append_right o_];have e2:(j+1)*2+i-(lcl x b).length=j*2+i:=by omega
  rw[e2,flatV_get l lb (by simpa using h) j i (by simpa using hj) hi];simp
theorem flatV_snoc {l:List (ByteArray × Int)} {lb:List Nat} (h:lb.length=l.length) (x:ByteArray × Int) (b:Nat):flatV (l++[x]) (lb++[b])=flatV l lb++lcl x b:=by
 unfold flatV;rw[List.zip_append o_,List.flatMap_append];simp
theorem flatV_set {l:List (ByteArray × Int)} {lb:List Nat} (j:Nat) (x:ByteArray × Int) (h : ∀hj:j<l.length,(l[j]).1=x.1) (hl:lb.length=l.length):flatV (l.set j x) lb=flatV l lb:=by
 induction l generalizing lb j with
 | nil=>rfl
 | cons y r ih=>
  cases lb with
  | nil=>simp at hl
  | cons b q=>
   cases j with
   | zero=>
    have:=h (by simp)
    simp only[List.getElem_cons_zero] at this;simp[flatV,lcl,this]
   | succ j=>
    have:=ih (lb:=q) j (λhj=>by have:=h (by simpa using hj);simpa using this) (by simpa using hl)
    have e1:flatV ((y::r).set (j+1) x) (b::q)=lcl y b++flatV (r.set j x) q:=by simp[flatV]
    have e2:flatV (y::r) (b::q)=lcl y b++flatV r q:=by simp[flatV]
    rw[e1,e2,this]
theorem flatV_take {l:List (ByteArray × Int)} {lb:List Nat} (k:Nat) (hl:lb.length=l.length):(flatV l lb).take (k*2)=flatV (l.take k) (lb.take k):=by
 induction k generalizing l lb with
 | zero=>simp[flatV]
 | succ k ih=>
  cases l with
  | nil=>simp[flatV]
  | cons y r=>
   cases lb with
   | nil=>simp at hl
   | cons b q=>
    have e2:flatV (y::r) (b::q)=lcl y b++flatV r q:=by simp[flatV]
    have e1:flatV ((y::r).take (k+1)) ((b::q).take (k+1))=lcl y b++flatV (r.take k) (q.take k):=by simp[flatV]
    rw[e1,e2,show (k+1)*2=k*2+2 by omega,<-ih (by simpa using hl)];rfl
structure RS (C:RC) (w:World) (st:Int) (rt:Bool) (vl:Int) (lb:List Nat) (vL vI vO:Value) (s:ES):Prop where
 bel:Below C.w0.heap.size C.w0 w
 box:FrC w C.P [C.vg,C.vf,.slice C.ga C.t.globals.length C.gc,vL,vI,vO,.int .i64 C.F,.int .i64 (C.F-s.u),.int .i64 st,.bool rt,.int .i64 vl,C.vFr,.int .i64 s.n,.int .i64 s.d]
 grow : ∀k (hk:k<C.t.globals.length) (hb:k<C.gb.length),w.cell? ⟨C.bG,k*2,none⟩=some (.string C.t.globals[k].name)/\w.cell? ⟨C.bG,k*2+1,none⟩=some (.slice (some ⟨C.gb[k],0,none⟩) (s.g.getD k []).length (s.g.getD k []).length)
 gl:s.g.length=C.gb.length
 gw : ∀k (hk:k<C.gb.length),FrC w C.gb[k] ((s.g.getD k []).map (Value.int .i64))
 g1 : ∀k (hk:k<s.g.length),1<=(s.g[k]).length/\(s.g[k]).length<=1000000
 ll:lb.length=s.l.length
 lrow:w.ownsRow C.w0.heap.size 65 2 vL s.l.length (flatV s.l lb)
 lw : ∀j (hj:j<lb.length) (hl:j<s.l.length),FrC w lb[j] [.int .i64 s.l[j].2]
 inp:InN C.w0 vI s.i
 out:w.ownsRow C.w0.heap.size 2 1 vO s.o.length (s.o.map (Value.int .i64))
 nd:(C.K lb).Nodup
 rng : ∀k∈C.K lb,C.w0.heap.size<=k/\k<w.heap.size
 lo : ∀k,vL.ownBlock=some k->k∉C.K lb
 oo : ∀k,vO.ownBlock=some k->k∉C.K lb/\vL.ownBlock≠some k
 ok:OkW s
 uu:(s.u:Int)<=C.F/\(s.o.length:Int)+s.u<=C.F
 lm:s.l.length<=200000
 nn:0<=s.n/\s.n+1000000000*s.u<=100001000000000/\0<=s.d/\s.d<=100001000000000
def TEx (C:RC) (vO:Value):Nat->Prop:=λk=>k=C.P∨k∈C.gb∨vO.ownBlock=some k
def TSx (C:RC) (lb:List Nat) (vL vO:Value):Nat->Prop:=λk=>TEx C vO k∨k∈lb∨vL.ownBlock=some k
def stR:ER->Int
 | .inr (.inr (.inr c)) =>c
 | _=>0
def rtR:ER->Bool
 | .inr (.inr (.inl _)) =>true
 | _=>false
theorem RS.hi {C:RC} {w:World} {st:Int} {rt:Bool} {vl:Int} {lb:List Nat} {vL vI vO:Value} {s:ES} (h:RS C w st rt vl lb vL vI vO s):C.P<w.heap.size/\C.bG<w.heap.size/\C.w0.heap.size<=C.P/\C.w0.heap.size<=C.bG:=
 ⟨(h.rng C.P (by simp[RC.K])).2,(h.rng C.bG (by simp[RC.K])).2,(h.rng C.P (by simp[RC.K])).1,(h.rng C.bG (by simp[RC.K])).1⟩
theorem RS.past {C:RC} {w w':World} {st:Int} {rt:Bool} {vl:Int} {lb:List Nat} {vL vI vO:Value} {s:ES} {S:Nat->Prop} (h:RS C w st rt vl lb vL vI vO s) (ht:Tcs S w w') (hS : ∀k,S k->C.w0.heap.size<=k/\k∉C.K lb/\vL.ownBlock≠some k/\vO.ownBlock≠some k):RS C w' st rt vl lb vL vI vO s:=by
 obtain⟨p1,p2,p3,p4⟩:=h.hi;have hk : ∀k,k∈C.K lb->¬S k:=λk hk hs=>(hS k hs).2.1 hk;have hgb : ∀k (hk:k<C.gb.length),C.gb[k]∈C.K lb:=λk hk=>by unfold RC.K;exact m_ _ (m_ _ (List.mem_append_left _ (g_ hk)))
 have hlb : ∀k (hk:k<lb.length),lb[k]∈C.K lb:=λk hk=>by unfold RC.K;exact m_ _ (m_ _ (List.mem_append_right _ (g_ hk)))
 have hP:C.P∈C.K lb:=by simp[RC.K]
 have hG:C.bG∈C.K lb:=by simp[RC.K]
 have hc : ∀o,w'.cell? ⟨C.bG,o,none⟩=w.cell? ⟨C.bG,o,none⟩:=λo=>c_ (ht.block C.bG p2 (hk _ hG));refine⟨ht.below h.bel h.bel.size (λk hk=>(hS k hk).1),h.box.tcs p1 ht (hk _ hP),λk h1 h2=>⟨(hc _).trans (h.grow k h1 h2).1,(hc _).trans (h.grow k h1 h2).2⟩,h.gl,λk h1=>(h.gw k h1).tcs (h.rng _ (hgb k h1)).2 ht (hk _ (hgb k h1)),h.g1,h.ll,own_notU h.lrow ht (λk hk hs=>(hS k hs).2.2.1 hk),λj h1 h2=>(h.lw j h1 h2).tcs (h.rng _ (hlb j h1)).2 ht (hk _ (hlb j h1)),h.inp,own_notU h.out ht (λk hk hs=>(hS k hs).2.2.2 hk),h.nd,λk hk=>⟨(h.rng k hk).1,l_ (h.rng k hk).2 ht.size⟩,h.lo,h.oo,h.ok,h.uu,h.lm,h.nn⟩
theorem RS.below {C:RC} {w w':World} {st:Int} {rt:Bool} {vl:Int} {lb:List Nat} {vL vI vO:Value} {s:ES} (h:RS C w st rt vl lb vL vI vO s) (hb:Below w.heap.size w w'):RS C w' st rt vl lb vL vI vO s:=
 h.past (hb.tcs (S:=λ_=>False)) (λk hk=>hk.elim)
theorem RS.boxed {C:RC} {w:World} {st:Int} {rt:Bool} {vl:Int} {lb:List Nat} {vL vI vO:Value} {s:ES} (h:RS C w st rt vl lb vL vI vO s) (i:Nat) (u:Value) {st':Int} {rt':Bool} {vl':Int} {vI':Value} {s':ES}
  (hb:([C.vg,C.vf,.slice C.ga C.t.globals.length C.gc,vL,vI,vO,.int .i64 C.F,.int .i64 (C.F-s.u),.int .i64 st,.bool rt,.int .i64 vl,C.vFr,.int .i64 s.n,.int .i64 s.d]:List Value).set i u = [C.vg,C.vf,.slice C.ga C.t.globals.length C.gc,vL,vI',vO,.int .i64 C.F,.int .i64 (C.F-s'.u),.int .i64 st',.bool rt',.int .i64 vl',C.vFr,.int .i64 s'.n,.int .i64 s'.d])
  (hg:s'.g=s.g) (hl:s'.l=s.l) (ho:s'.o=s.o) (hi:InN C.w0 vI' s'.i) (hk:OkW s') (hu:(s'.u:Int)<=C.F/\(s'.o.length:Int)+s'.u<=C.F) (hn:0<=s'.n/\s'.n+1000000000*s'.u<=100001000000000/\0<=s'.d/\s'.d<=100001000000000) :
  RS C (w.setCell ⟨C.P,i,none⟩ u) st' rt' vl' lb vL vI' vO s':=by
 obtain⟨p1,p2,p3,p4⟩:=h.hi;have ht:Tcs (λk=>k=C.P) w (w.setCell ⟨C.P,i,none⟩ u):=(Tcs.refl (λk=>k=C.P) w).setCell (p:=⟨C.P,i,none⟩) rfl u;have hnd:=h.nd;unfold RC.K at hnd;have hPn:C.P∉C.bG::(C.gb++lb):=(List.nodup_cons.1 hnd).1;have hgb : ∀k (hk:k<C.gb.length),C.gb[k]≠C.P:=λk hk e=>hPn (e ▸ m_ _ (List.mem_append_left _ (g_ hk)));have hlb : ∀k (hk:k<lb.length),lb[k]≠C.P:=λk hk e=>hPn (e ▸ m_ _ (List.mem_append_right _ (g_ hk)));have hGP:C.bG≠C.P:=λe=>hPn (e ▸ List.mem_cons_self ..);have gK : ∀k (hk:k<C.gb.length),C.gb[k]∈C.K lb:=λk hk=>by unfold RC.K;exact m_ _ (m_ _ (List.mem_append_left _ (g_ hk)))
 have lK : ∀k (hk:k<lb.length),lb[k]∈C.K lb:=λk hk=>by unfold RC.K;exact m_ _ (m_ _ (List.mem_append_right _ (g_ hk)))
 have hP:C.P∈C.K lb:=by simp[RC.K]
 have hc : ∀o,(w.setCell ⟨C.P,i,none⟩ u).cell? ⟨C.bG,o,none⟩=w.cell? ⟨C.bG,o,none⟩:=λo=>c_ (ht.block C.bG p2 hGP);have hbx:=h.box.set i u;rw[hb] at hbx;refine⟨ht.below h.bel h.bel.size (λk hk=>by omega),hbx,?_,by rw[hg];exact h.gl,?_,?_,by rw[hl];exact h.ll,?_,?_,hi,?_,h.nd,λk hk=>⟨(h.rng k hk).1,l_ (h.rng k hk).2 ht.size⟩,h.lo,h.oo,hk,hu,by rw[hl];exact h.lm,hn⟩
 ·rw[hg];exact λk h1 h2=>⟨(hc _).trans (h.grow k h1 h2).1,(hc _).trans (h.grow k h1 h2).2⟩
 ·rw[hg];exact λk h1=>(h.gw k h1).tcs (h.rng _ (gK k h1)).2 ht (hgb k h1)
 ·rw[hg];exact h.g1
 ·rw[hl];exact own_notU h.lrow ht (λk hk hs=>h.lo k hk (by have e:k=C.P:=hs;rw[e];exact hP))
 ·rw[hl];exact λj h1 h2=>(h.lw j h1 h2).tcs (h.rng _ (lK j h1)).2 ht (hlb j h1)
 ·rw[ho];exact own_notU h.out ht (λk hk hs=>(h.oo k hk).1 (by have e:k=C.P:=hs;rw[e];exact hP))
section
variable {s:ES} {C:RC} {w:World} {vl c:Int} {lb:List Nat} {vL vI vO:Value} {rt:Bool} {l:List (ByteArray × Int)} {x:ByteArray} {gs:List Gl}
theorem sp_u (h:0<s.u):((s.sp.u:Nat):Int)=(s.u:Int)-1:=by simp only[ES.sp];omega
theorem ok_sp (h:OkW s):OkW s.sp:=⟨h.g,h.l,h.i⟩
theorem RS.spend (h:RS C w 0 false vl lb vL vI vO s) (hu:0<s.u):RS C (w.setCell ⟨C.P,7,none⟩ (.int .i64 (C.F-s.u+1))) 0 false vl lb vL vI vO s.sp:=by
 have e:=sp_u hu;have hnn:=h.nn;have huu:=h.uu;refine h.boxed 7 _ ?_ rfl rfl rfl h.inp (ok_sp h.ok) ⟨by omega,by have:s.sp.o=s.o:=rfl;rw[this];omega⟩ ⟨hnn.1,by have:s.sp.n=s.n:=rfl;rw[this];omega,hnn.2.2.1,hnn.2.2.2⟩;have e2:C.F-(s.u:Int)+1=C.F-(s.sp.u:Int):=by omega
 rw[e2];rfl
theorem RS.dry (c:Int) (h:RS C w 0 false vl lb vL vI vO s):RS C (w.setCell ⟨C.P,8,none⟩ (.int .i64 c)) c false vl lb vL vI vO s:=
 h.boxed 8 _ rfl rfl rfl rfl h.inp h.ok h.uu h.nn
theorem spend1 (h:RS C w 0 false vl lb vL vI vO s) (hu:0<s.u) (hF:0<=C.F/\C.F<=100000) :
  Calls prog 97 #[.pointer (some ⟨C.P,0,none⟩)] w λe w'=>(∃x,e=.returned x)/\RS C w' 0 false vl lb vL vI vO s.sp/\Tcs (λk=>k=C.P) w w':=by
 have c6:=(h.box 6 _ rfl).1;have c7:=(h.box 7 _ rfl).1;have f7:=(h.box 7 _ rfl).2;have c8:=(h.box 8 _ rfl).1;have huu:=h.uu;have HR:Hid (∀n,RS C ((w.drewN n).setCell ⟨C.P,7,none⟩ (.int .i64 (C.F-s.u+1))) 0 false vl lb vL vI vO s.sp/\Tcs (λk=>k=C.P) w ((w.drewN n).setCell ⟨C.P,7,none⟩ (.int .i64 (C.F-s.u+1)))):=λn=>⟨(h.below (below_drewN r_ n)).spend hu,((below_drewN (Below.refl w.heap.size w) n).tcs (S:=λk=>k=C.P)).setCell (p:=⟨C.P,7,none⟩) rfl _⟩;generalize hU:C.F-(s.u:Int)=U at c7 HR;have hUF:(U == C.F)=false:=by simp;omega
 have hUb:0<=U/\U<=100000:=by omega
 generalize C.P=P at c6 c7 f7 c8 HR ⊢;generalize C.F=F at c6 hUF hF;go_enter func97,ntmps97;go_wp2_with fail;go_quiet (fail)
 go_wp2_with fail;exact bodyPost_end (v:=.tuple #[]) (by simp[results,results97,go_sem]) rfl ⟨⟨_,rfl⟩,HR _⟩
theorem spend0 (h:RS C w 0 false vl lb vL vI vO s) (hu:s.u=0) :
  Calls prog 97 #[.pointer (some ⟨C.P,0,none⟩)] w λe w'=>(∃x,e=.returned x)/\RS C w' 2 false vl lb vL vI vO s/\Tcs (λk=>k=C.P) w w':=by
 have c6:=(h.box 6 _ rfl).1;have c7:w.cell? ⟨C.P,7,none⟩=some (.int .i64 C.F):=by have:=(h.box 7 _ rfl).1;rw[hu] at this;simpa using this
 have c8:=(h.box 8 _ rfl).1;have f8:=(h.box 8 _ rfl).2;have HR:Hid (∀n,RS C ((w.drewN n).setCell ⟨C.P,8,none⟩ (.int .i64 2)) 2 false vl lb vL vI vO s/\Tcs (λk=>k=C.P) w ((w.drewN n).setCell ⟨C.P,8,none⟩ (.int .i64 2))):=λn=>⟨(h.below (below_drewN r_ n)).dry 2,((below_drewN (Below.refl w.heap.size w) n).tcs (S:=λk=>k=C.P)).setCell (p:=⟨C.P,8,none⟩) rfl _⟩;generalize C.P=P at c6 c7 f8 c8 HR ⊢;generalize C.F=F at c6 c7;go_enter func97,ntmps97;go_wp2_with fail;go_quiet (fail)
 go_wp2_with fail;exact bodyPost_ret (v:=.tuple #[]) (by simp[results,results97,go_sem]) rfl ⟨⟨_,rfl⟩,HR _⟩
theorem spendD (h:RS C w c rt vl lb vL vI vO s) (hc:c≠0) :
  Calls prog 97 #[.pointer (some ⟨C.P,0,none⟩)] w λe w'=>(∃x,e=.returned x)/\w'=w:=by
 have c8:=(h.box 8 _ rfl).1;have hc':(c == 0)=false:=by simpa using hc
 generalize C.P=P at c8 ⊢;go_enter func97,ntmps97;go_wp2_with fail;exact bodyPost_ret (v:=.tuple #[]) (by simp[results,results97,go_sem]) rfl ⟨⟨_,rfl⟩,rfl⟩
theorem going_any (h:RS C w c rt vl lb vL vI vO s) :
  Calls prog 96 #[.pointer (some ⟨C.P,0,none⟩)] w λe w'=>e=.returned (.bool (decide (c=0) && !rt))/\w'=w:=by
 have c8:=(h.box 8 _ rfl).1;have c9:=(h.box 9 _ rfl).1;generalize C.P=P at c8 c9 ⊢;by_cases hc:c=0
 ·subst hc;cases rt
  ·go_enter func96,ntmps96;go_wp2;go_ret;exact⟨rfl,rfl⟩
  ·go_enter func96,ntmps96;go_wp2;go_ret;exact⟨rfl,rfl⟩
 ·have hc':(c == 0)=false:=by simpa using hc
  have HE:Hid ((decide (c=0) && !rt)=false):=by show _=_;simp[hc]
  go_enter func96,ntmps96;go_wp2;go_ret;exact⟨ret_bool HE.o.symm,rfl⟩
theorem lix_some {j:Nat} (hn:(l.map Prod.fst).Nodup) (hj:j<l.length) (he:(l[j]).1=x):lix l x=some j:=by
 unfold lix;rw[List.findIdx?_eq_some_iff_getElem];refine⟨hj,by simpa using he,λk hk => ?_⟩;simp only[decide_eq_true_eq];intro e;have hkl:k<l.length:=by omega
 have h2:=(List.pairwise_iff_getElem.1 hn) k j (by simpa using hkl) (by simpa using hj) hk;apply h2;simp[he,e]
theorem lix_none (h : ∀j (hj:j<l.length),(l[j]).1≠x):lix l x=none:=by
 unfold lix;rw[List.findIdx?_eq_none_iff];intro y hy;obtain⟨j,hj,rfl⟩:=List.getElem_of_mem hy;simpa using h j hj
theorem gix_some {k:Nat} (hk:k<gs.length) (hl : ∀j (hj:j<gs.length),j<k->gs[j].name≠x) (he:gs[k].name=x):gix gs x=some k:=by
 unfold gix;rw[List.findIdx?_eq_some_iff_getElem];exact⟨hk,by simpa using he,λj hj=>by simpa using hl j o_ hj⟩
theorem gix_none (h : ∀j (hj:j<gs.length),gs[j].name≠x):gix gs x=none:=by
 unfold gix;rw[List.findIdx?_eq_none_iff];intro y hy;obtain⟨j,hj,rfl⟩:=List.getElem_of_mem hy;simpa using h j hj
def FindV (C:RC) (lb:List Nat) (s:ES) (x:ByteArray) (v:Value):Prop:=(∀j,lix s.l x=some j->v=.slice (some ⟨lb.getD j 0,0,none⟩) 1 1)/\(lix s.l x=none->∀k,gix C.t.globals x=some k->v=.slice (some ⟨C.gb.getD k 0,0,none⟩) (s.g.getD k []).length (s.g.getD k []).length)
theorem find_any (x:ByteArray) (h:RS C w c rt vl lb vL vI vO s) (hC:C.Ok) (hn:(s.l.map Prod.fst).Nodup) :
  Calls prog 132 #[.pointer (some ⟨C.P,0,none⟩),.string x] w λe w'=>∃v,e=.returned v/\FindV C lb s x v/\Below w.heap.size w w':=by
 have c2:=(h.box 2 _ rfl).1;have c3:=(h.box 3 _ rfl).1;have hgl:=hC.sm.1;have hlm:=h.lm;have HLL:=hide h.ll;have HGB:=hide hC.gbl;have HGr:=hide h.grow;have hown:w.ownsRow C.w0.heap.size 65 2 vL s.l.length (flatV s.l lb):=h.lrow;obtain⟨La,Lc,eL,-⟩:=own_shapeU hown;subst eL;have HLc:Hid (∀j (hj:j<s.l.length),∃bL,La=some ⟨bL,0,none⟩/\w.cell? ⟨bL,j*2,none⟩=some (.string (s.l[j]).1)/\w.cell? ⟨bL,j*2+1,none⟩=some (.slice (some ⟨lb.getD j 0,0,none⟩) 1 1)):=λj hj=>by
  rcases hown.2 with ⟨-,hz⟩|⟨g,cap,cur,e,-⟩
  ·omega
  ·simp only[Value.slice.injEq] at e;obtain⟨rfl,-,rfl⟩:=e;have hfl:=flatV_len h.ll;have hjb:j<lb.length:=by rw[h.ll];exact hj
   refine⟨g,rfl,?_,?_⟩
   ·have:=World.ownsRow.cellAt hown (j*2) o_
    rw[this];have:=flatV_get s.l lb h.ll j 0 hj o_
    simpa[lcl] using this
   ·have:=World.ownsRow.cellAt hown (j*2+1) o_
    rw[this,flatV_get s.l lb h.ll j 1 hj o_];simp[lcl,List.getD,hjb]
 have HN:=hide hn;have hga:=hC.gav;generalize hG:C.t.globals=gs at c2 HGB HGr hgl hga;have HGa:=hide hga;generalize C.ga=Ga at c2 HGa;have HG:=hide hG;obtain⟨ll,hll⟩ : ∃ll,ll=s.l.length:=⟨_,rfl⟩;obtain⟨gn,hgn⟩ : ∃gn,gn=gs.length:=⟨_,rfl⟩;rw[<-hll] at c3 hlm;rw[<-hgn] at c2 hgl;obtain⟨HLe,HGe⟩:=h2 hll hgn;have HFg:Hid (∀k v,lix s.l x=none->gix gs x=some k->v=.slice (some ⟨C.gb.getD k 0,0,none⟩) (s.g.getD k []).length (s.g.getD k []).length->FindV C lb s x v):=λk v h1 h2 h3=>⟨λj hj=>(by rw[h1] at hj;cases hj),λ_ k' hk'=>by rw[hG,h2] at hk';cases hk';exact h3⟩;have HFn:Hid (∀v,lix s.l x=none->gix gs x=none->FindV C lb s x v):=λv h1 h2=>⟨λj hj=>(by rw[h1] at hj;cases hj),λ_ k' hk'=>by rw[hG,h2] at hk';cases hk'⟩;generalize C.P=P at c2 c3 ⊢;clear hn hown h hC hG hll hgn;go_enter func132,ntmps132;go_wp2_with fail;go_loopw [5] (λi wr=>∃k:Nat,k<=ll/\i=.int .i64 ((k:Int)-1)/\(∀j (hj:j<s.l.length),k<=j->(s.l[j]).1≠x)/\wr=w) (λi _=>(RowKit.intOf i+1).toNat)
 case atStart=>exact⟨ll,n_,by first|rfl|simp,λj hj h=>by have:=HLe.o;omega,rfl⟩
 case round=>
  obtain⟨k,hk,rfl,hno,hwr⟩:=hrel;rw[hwr];have HNo:=hide hno;clear hno;by_cases hp:0<k
  ·obtain⟨k1,rfl⟩ : ∃k1,k=k1+1:=⟨k-1,by omega⟩;have hkl:k1<s.l.length:=by have:=HLe.o;omega
   obtain⟨bL,rfl,y0,y1⟩:=HLc k1 hkl;have e1:(((k1+1:Nat):Int)-1)=(k1:Int):=by omega
   rw[e1];have hk1:k1<ll:=by omega
   by_cases hs:(s.l[k1]).1=x
   ·have HF:Hid (FindV C lb s x (.slice (some ⟨lb.getD k1 0,0,none⟩) 1 1)):=by
     have hl:=lix_some HN hkl hs;exact⟨λj hj=>by rw[hl] at hj;cases hj;rfl,λh0=>by rw[hl] at h0;cases h0⟩
    rw[hs] at y0;generalize lb.getD k1 0=bw at y1 HF;go_wp2;go_ret;exact⟨_,rfl,HF,r_⟩
   ·have hs':=ne_list hs;have HNx:Hid (∀j (hj:j<s.l.length),k1<=j->(s.l[j]).1≠x):=λj hj h=>by
     by_cases e:j=k1
     ·subst e;exact hs
     ·exact HNo j hj o_
    generalize (s.l[k1]).1=nm at y0 hs hs';go_wp2_with fail;go_roundw
    case rel=>exact⟨k1,by omega,by first|rfl|go_num,HNx,trivial⟩
    case measure=>simp[RowKit.intOf]
  ·have hk0:k=0:=by omega
   subst hk0;have HLn:Hid (lix s.l x=none):=lix_none (λj hj=>HNo j hj y_);clear HNo;go_wp2_with fail;go_loopw [6] (λi wr=>∃k:Nat,k<=gn/\i=.int .i64 (k:Int)/\(∀j (hj:j<gs.length),j<k->gs[j].name≠x)/\wr=w) (λi _=>gn-(RowKit.intOf i).toNat)
   case atStart=>exact⟨0,y_,rfl,λj hj h=>by omega,rfl⟩
   case round=>
    obtain⟨k,hk2,rfl,hno,hwr⟩:=hrel;rw[hwr];have HNo:=hide hno;clear hno;by_cases hlt:k<gn
    ·have hkl:k<gs.length:=by rw[<-HGe.o];exact hlt
     obtain rfl:=HGa o_;obtain⟨y0,y1⟩:=HGr k hkl (by rw[HGB.o];exact hkl);have hki:(k:Int)<(gn:Int):=by omega
     by_cases hs:gs[k].name=x
     ·have HF:=hide (HFg k _ HLn (gix_some hkl (λj hj h=>HNo j hj h) hs) rfl);have egb:C.gb[k]'(by rw[HGB.o];exact hkl)=C.gb.getD k 0:=by have hb:k<C.gb.length:=(by rw[HGB.o];exact hkl);simp[List.getD,hb]
      rw[egb] at y1;rw[hs] at y0;generalize C.gb.getD k 0=bw at y1 HF;generalize (s.g.getD k []).length=gw at y1 HF;go_wp2;go_ret;exact⟨_,rfl,HF,r_⟩
     ·have hs':=ne_list hs;have HNx:Hid (∀j (hj:j<gs.length),j<k+1->gs[j].name≠x):=λj hj h=>by
       by_cases e:j=k
       ·subst e;exact hs
       ·exact HNo j hj o_
      clear y1;generalize gs[k].name=nm at y0 hs hs';go_wp2_with fail;go_roundw
      case rel=>exact⟨k+1,by omega,by go_num,HNx,trivial⟩
      case measure=>simp[RowKit.intOf];omega
    ·have HF:=hide (λv=>HFn v HLn (gix_none (λj hj=>HNo j hj (by have:=HGe.o;omega))));have hki : ¬(k:Int)<(gn:Int):=by omega
     go_wp2;go_ret;exact⟨_,rfl,HF _,r_.alloc n_ _⟩
end
theorem nodup_ix {α:Type} {l:List α} (h:l.Nodup) {i j:Nat} (hi:i<l.length) (hj:j<l.length) (e:l[i]=l[j]):i=j:=by
 rcases Nat.lt_trichotomy i j with h1|h1|h1
 ·exact absurd e ((List.pairwise_iff_getElem.1 h) i j hi hj h1)
 ·exact h1
 ·exact absurd e.symm ((List.pairwise_iff_getElem.1 h) j i hj hi h1)
def Tk.d:Tk->Nat
 | .inr (.inl (_, _, _)) =>1
 | _=>0
def Ou (d:Nat) (s s':ES):Prop:=s'.u<=s.u/\s'.o.length+s'.u<=s.o.length+s.u+d/\s'.l.length+s'.u<=s.l.length+s.u+d
theorem Ou.refl (s:ES):Ou 0 s s:=⟨n_,n_,n_⟩
theorem Ou.trans {d e:Nat} {a b c:ES} (h:Ou d a b) (h':Ou e b c):Ou (d+e) a c:=⟨t_ h'.1 h.1,by have:=h.2.1;have:=h'.2.1;omega,by have:=h.2.2;have:=h'.2.2;omega⟩
theorem Ou.more {d e:Nat} {a b:ES} (h:Ou d a b) (hd:d<=e):Ou e a b:=⟨h.1,by have:=h.2.1;omega,by have:=h.2.2;omega⟩
theorem Ou.sp (s:ES):Ou 0 s s.sp:=⟨by simp only[ES.sp];omega,by simp only[ES.sp];omega,by simp only[ES.sp];omega⟩
theorem Ou.paid {s s':ES} (hu:0<s.u) (h:Ou 1 s.sp s'):Ou 0 s s':=by
 obtain⟨h1,h2,h3⟩:=h;simp only[ES.sp] at h1 h2 h3;exact⟨by omega,by omega,by omega⟩
theorem Ou.same {s s':ES} (hu:s'.u=s.u) (ho:s'.o=s.o) (hl:s'.l.length=s.l.length):Ou 0 s s':=⟨by omega,by rw[ho];omega,by omega⟩
theorem ou_chn {st:Nat->ES} {j:Nat} (h : ∀i,i<j->Ou 0 (st i) (st (i+1))) : ∀i,i<=j->Ou 0 (st 0) (st i)
 | 0,_=>.refl _
 | i+1,hi=>(ou_chn h i o_).trans (h i o_)
theorem Ev.ou {t:Tr} {fr:List Int} {n:Nat} {k:Tk} {s:ES} {r:ER} {s':ES} (h:Ev t fr n k s r s'):Ou k.d s s':=by
 induction h using Ev_i with
 | kid n e A b st v j c s' h1 h2 h3 h4 h5 h6 i5 i6=>exact (ou_chn (j:=j) i5 j n_).trans i6
 | dry n e A b st v h1 h2 h3 h4 h5 i4=>exact ou_chn (j:=A) i4 A n_
 | work n e A b st v h1 h2 h3 h4 h5 h6 i5=>
  obtain⟨y1,y2,y3,y4,y5⟩:=work_sh t (rootN e) v (st A).sp;exact ((ou_chn (j:=A) i5 A n_).trans (.sp _)).trans (.same (work_u ..) y4 (by rw[y3]))
 | call n e A b st v f r s' h1 h2 h3 h4 h5 h6 i4 i6=>exact ((ou_chn (j:=A) i4 A n_).trans (.sp _)).trans i6
 | left n e b s c s' h1 h2 h3 i3=>exact i3
 | ldry n e b s x s' h1 h2 h3 h4 i3=>exact i3
 | lone n e b s x s' h1 h2 h3 h4 i3=>exact i3.trans (.sp _)
 | rigt n e b s x s1 c s' h1 h2 h3 h4 h5 i3 i5=>exact (i3.trans (.sp _)).trans i5
 | rdry n e b s x s1 y s' h1 h2 h3 h4 h5 h6 i3 i5=>exact (i3.trans (.sp _)).trans i5
 | both n e b s x s1 y s' h1 h2 h3 h4 h5 h6 i3 i5=>exact ((i3.trans (.sp _)).trans i5).trans (.sp _)
 | pbad n s a b z c z' h1 i1=>exact i1.more (by simp[Tk.d])
 | decl n s a b z v z' h1 h2 i2=>
  obtain⟨x1,x2,x3⟩:=i2;simp only[Tk.d] at *;refine⟨x1,?_,?_⟩
  ·show z'.o.length+z'.u<=_;omega
  ·show (z'.l++[(s.name,v)]).length+z'.u<=_;simp;omega
 | set n s a b z v z' h1 h2 i2=>
  have hw:=wr_sh (t:=t) (s:=z') (x:=s.name) (v:=v);exact (i2.trans (.same (wr_u ..) hw.2.2.2.1 (by have:=congrArg List.length hw.2.2.1;simpa using this))).more (by simp[Tk.d])
 | sbad n s a b z v z1 c z' h1 h2 h3 i2 i3=>exact (i2.trans i3).more (by simp[Tk.d])
 | smis n s a b z v z1 x z' h1 h2 h3 h4 i2 i3=>exact (i2.trans i3).more (by simp[Tk.d])
 | stor n s a b z v z1 x z' h1 h2 h3 h4 i2 i3=>
  have hw:=st_sh (t:=t) (s:=z') (x:=s.name) (j:=v.toNat) (v:=x);exact ((i2.trans i3).trans (.same (st_u ..) hw.2.2.2.1 (by rw[hw.2.2.1]))).more (by simp[Tk.d])
 | ifth n s a b z v z1 r z' h1 h2 h3 h4 i2 i4=>exact (i2.trans i4).more (by simp[Tk.d])
 | ifel n s a b z z1 r z' h1 h2 h3 i2 i3=>exact (i2.trans i3).more (by simp[Tk.d])
 | whno n s a b z z' h1 h2 i2=>exact i2.more (by simp[Tk.d])
 | whn n s a b z v z1 r z' h1 h2 h3 h4 h5 i2 i4=>exact (i2.trans i4).more (by simp[Tk.d])
 | whdr n s a b z v z1 z' h1 h2 h3 h4 h5 i2 i4=>exact (i2.trans i4).more (by simp[Tk.d])
 | whag n s a b z v z1 z2 r z' h1 h2 h3 h4 h5 h6 i2 i4 i6=>exact ((i2.trans i4).trans (Ou.paid h5 i6)).more (by simp[Tk.d])
 | retn n s a b z v z' h1 h2 i2=>exact i2.more (by simp[Tk.d])
 | tell n s a b z v z' h1 h2 i2=>
  obtain⟨x1,x2,x3⟩:=i2;simp only[Tk.d] at *;refine⟨x1,?_,?_⟩
  ·show (z'.o++[v]).length+z'.u<=_;simp;omega
  ·show z'.l.length+z'.u<=_;omega
 | only n s a b z v z' h1 h2 i2=>exact i2.more (by simp[Tk.d])
 | nil n z=>exact .refl _
 | sdry n s q z h1=>exact .refl _
 | send n s q z r z' h1 h2 h3 i2=>exact Ou.paid h1 i2
 | next n s q z z1 r z' h1 h2 h3 i2 i3=>exact (Ou.paid h1 i2).trans i3
 | blk n ss z r z' h1 i1=>
  obtain⟨x1,x2,x3⟩:=i1;simp only[Tk.d] at *;refine⟨x1,x2,?_⟩;show (z'.l.take z.l.length).length+z'.u<=_;simp
  omega
 | run n f vs z hf r z' h1 i1=>
  obtain⟨x1,x2,x3⟩:=i1;exact⟨x1,x2,by show z.l.length+z'.u<=_;have:z'.u<=z.u:=x1;omega⟩
theorem RS.wl {C:RC} {w:World} {c:Int} {rt:Bool} {vl:Int} {lb:List Nat} {vL vI vO:Value} {s:ES} (h:RS C w c rt vl lb vL vI vO s) (j:Nat) (hj:j<s.l.length) (hjb:j<lb.length) {v:Int} {s':ES} (hs:s' = {s with l:=s.l.set j ((s.l[j]).1,v)}) (hk:OkW s') :
  RS C (w.setCell ⟨lb[j],0,none⟩ (.int .i64 v)) c rt vl lb vL vI vO s':=by
 obtain⟨p1,p2,p3,p4⟩:=h.hi;have ht:Tcs (λk=>k=lb[j]) w (w.setCell ⟨lb[j],0,none⟩ (.int .i64 v)):=(Tcs.refl (λk=>k=lb[j]) w).setCell (p:=⟨lb[j],0,none⟩) rfl _;have hnd:=h.nd;unfold RC.K at hnd;have hm:lb[j]∈lb:=g_ hjb;obtain⟨n1,n2⟩:=List.nodup_cons.1 hnd;obtain⟨n3,n4⟩:=List.nodup_cons.1 n2;obtain⟨n5,n6,n7⟩:=List.nodup_append.1 n4;have hP:C.P≠lb[j]:=λe=>n1 (e ▸ m_ _ (List.mem_append_right _ hm));have hG:C.bG≠lb[j]:=λe=>n3 (e ▸ List.mem_append_right _ hm);have gK : ∀k (hk:k<C.gb.length),C.gb[k]∈C.K lb:=λk hk=>by unfold RC.K;exact m_ _ (m_ _ (List.mem_append_left _ (g_ hk)))
 have lK : ∀k (hk:k<lb.length),lb[k]∈C.K lb:=λk hk=>by unfold RC.K;exact m_ _ (m_ _ (List.mem_append_right _ (g_ hk)))
 have hgb : ∀k (hk:k<C.gb.length),C.gb[k]≠lb[j]:=λk hk=>n7 _ (g_ hk) _ hm;have hc : ∀o,(w.setCell ⟨lb[j],0,none⟩ (.int .i64 v)).cell? ⟨C.bG,o,none⟩=w.cell? ⟨C.bG,o,none⟩:=λo=>c_ (ht.block C.bG p2 hG);have hlo:=(h.rng _ (lK j hjb)).1;subst hs;refine⟨ht.below h.bel h.bel.size (λk hk=>by have e:k=lb[j]:=hk;omega),h.box.tcs p1 ht hP,λk h1 h2=>⟨(hc _).trans (h.grow k h1 h2).1,(hc _).trans (h.grow k h1 h2).2⟩,h.gl,λk h1=>(h.gw k h1).tcs (h.rng _ (gK k h1)).2 ht (hgb k h1),h.g1,?_,?_,?_,h.inp,own_notU h.out ht (λk hk hs=>(h.oo k hk).1 (by have e:k=lb[j]:=hs;rw[e];exact lK j hjb)),h.nd,λk hk=>⟨(h.rng k hk).1,l_ (h.rng k hk).2 ht.size⟩,h.lo,h.oo,hk,h.uu,?_,h.nn⟩
 ·show lb.length=(s.l.set j _).length;rw[List.length_set];exact h.ll
 ·show World.ownsRow _ _ _ _ _ (s.l.set j _).length (flatV (s.l.set j _) lb);rw[List.length_set,flatV_set j _ (λ_=>rfl) h.ll];exact own_notU h.lrow ht (λk hk hs=>h.lo k hk (by have e:k=lb[j]:=hs;rw[e];exact lK j hjb))
 ·intro i h1 h2;have h2':i<s.l.length:=by have e:=h2;simpa using e
  by_cases e:i=j
  ·subst e;have:=(h.lw i h1 h2').set 0 (.int .i64 v)
   show FrC _ lb[i] [.int .i64 ((s.l.set i ((s.l[i]).1,v))[i]'(by simpa using h2')).2];rw[List.getElem_set_self];exact this
  ·have hne:lb[i]≠lb[j]:=λe2=>e (nodup_ix n6 _ _ e2);show FrC _ lb[i] [.int .i64 ((s.l.set j ((s.l[j]).1,v))[i]'(by simpa using h2')).2];rw[List.getElem_set_ne (λe2=>e e2.symm)];exact (h.lw i h1 h2').tcs (h.rng _ (lK i h1)).2 ht hne
 ·show (s.l.set j _).length<=_;rw[List.length_set];exact h.lm
theorem RS.wg {C:RC} {w:World} {c:Int} {rt:Bool} {vl:Int} {lb:List Nat} {vL vI vO:Value} {s:ES} (h:RS C w c rt vl lb vL vI vO s) (j i:Nat) (hj:j<C.gb.length) {v:Int} {s':ES} (hs:s' = {s with g:=s.g.set j ((s.g.getD j []).set i v)}) (hk:OkW s') :
  RS C (w.setCell ⟨C.gb[j],i,none⟩ (.int .i64 v)) c rt vl lb vL vI vO s':=by
 obtain⟨p1,p2,p3,p4⟩:=h.hi;have ht:Tcs (λk=>k=C.gb[j]) w (w.setCell ⟨C.gb[j],i,none⟩ (.int .i64 v)):=(Tcs.refl (λk=>k=C.gb[j]) w).setCell (p:=⟨C.gb[j],i,none⟩) rfl _;have hnd:=h.nd;unfold RC.K at hnd;have hm:C.gb[j]∈C.gb:=g_ hj;obtain⟨n1,n2⟩:=List.nodup_cons.1 hnd;obtain⟨n3,n4⟩:=List.nodup_cons.1 n2;obtain⟨n5,n6,n7⟩:=List.nodup_append.1 n4;have hP:C.P≠C.gb[j]:=λe=>n1 (e ▸ m_ _ (List.mem_append_left _ hm));have hG:C.bG≠C.gb[j]:=λe=>n3 (e ▸ List.mem_append_left _ hm);have gK : ∀k (hk:k<C.gb.length),C.gb[k]∈C.K lb:=λk hk=>by unfold RC.K;exact m_ _ (m_ _ (List.mem_append_left _ (g_ hk)))
 have lK : ∀k (hk:k<lb.length),lb[k]∈C.K lb:=λk hk=>by unfold RC.K;exact m_ _ (m_ _ (List.mem_append_right _ (g_ hk)))
 have hlb : ∀k (hk:k<lb.length),lb[k]≠C.gb[j]:=λk hk e=>n7 _ hm _ (g_ hk) e.symm;have hc : ∀o,(w.setCell ⟨C.gb[j],i,none⟩ (.int .i64 v)).cell? ⟨C.bG,o,none⟩=w.cell? ⟨C.bG,o,none⟩:=λo=>c_ (ht.block C.bG p2 hG);have hlo:=(h.rng _ (gK j hj)).1;have hjg:j<s.g.length:=by rw[h.gl];exact hj
 have eg:s.g.getD j []=s.g[j]:=by simp[List.getD,hjg]
 have hlen : ∀k,((s.g.set j ((s.g.getD j []).set i v)).getD k []).length=(s.g.getD k []).length:=λk=>by
  by_cases e:k=j
  ·subst e;simp[List.getD,hjg]
  ·simp[List.getD,List.getElem?_set_ne (λe2=>e e2.symm)]
 subst hs;refine⟨ht.below h.bel h.bel.size (λk hk=>by have e:k=C.gb[j]:=hk;omega),h.box.tcs p1 ht hP,λk h1 h2=>⟨(hc _).trans (h.grow k h1 h2).1,(hc _).trans ?_⟩,?_,λk h1 => ?_,λk h1 => ?_,h.ll,own_notU h.lrow ht (λk hk hs=>h.lo k hk (by have e:k=C.gb[j]:=hs;rw[e];exact gK j hj)),λk h1 h2=>(h.lw k h1 h2).tcs (h.rng _ (lK k h1)).2 ht (hlb k h1),h.inp,own_notU h.out ht (λk hk hs=>(h.oo k hk).1 (by have e:k=C.gb[j]:=hs;rw[e];exact gK j hj)),h.nd,λk hk=>⟨(h.rng k hk).1,l_ (h.rng k hk).2 ht.size⟩,h.lo,h.oo,hk,h.uu,h.lm,h.nn⟩
 ·rw[(h.grow k h1 h2).2];show _=some (Value.slice _ ((s.g.set j ((s.g.getD j []).set i v)).getD k []).length ((s.g.set j ((s.g.getD j []).set i v)).getD k []).length);rw[hlen]
 ·show (s.g.set j _).length=_;rw[List.length_set];exact h.gl
 ·show FrC _ C.gb[k] (((s.g.set j ((s.g.getD j []).set i v)).getD k []).map (Value.int .i64));by_cases e:k=j
  ·subst e;have e1:(s.g.set k ((s.g.getD k []).set i v)).getD k []=(s.g.getD k []).set i v:=by simp[List.getD,hjg]
   rw[e1,List.map_set];exact (h.gw k h1).set i _
  ·have e1:(s.g.set j ((s.g.getD j []).set i v)).getD k []=s.g.getD k []:=by simp[List.getD,List.getElem?_set_ne (λe2=>e e2.symm)]
   rw[e1];exact (h.gw k h1).tcs (h.rng _ (gK k h1)).2 ht (λe2=>e (nodup_ix n5 _ _ e2))
 ·have h1':k<s.g.length:=by have e:=h1;simpa using e
  have:=hlen k
  have e1:(s.g.set j ((s.g.getD j []).set i v)).getD k []=(s.g.set j ((s.g.getD j []).set i v))[k]'(by simpa using h1'):=by simp only[List.getD];rw[List.getElem?_eq_getElem (by simpa using h1')];rfl
  have e2:s.g.getD k []=s.g[k]:=by simp[List.getD,h1']
  rw[e1,e2] at this;show 1<=((s.g.set j ((s.g.getD j []).set i v))[k]'(by simpa using h1')).length/\((s.g.set j ((s.g.getD j []).set i v))[k]'(by simpa using h1')).length<=1000000;rw[this];exact h.g1 k h1'
section
variable {w:World} {l:List Int} {xs:List Value} {N g:Nat}
def RdI (w:World) (v:Value) (l:List Int):Prop:=∃a c,v=.slice a l.length c/\(0<l.length->∃b off,a=some ⟨b,off,none⟩/\∀j (h:j<l.length),w.cell? ⟨b,off+j,none⟩=some (.int .i64 l[j]))
theorem RdI.below {w':World} {v:Value} (h:RdI w v l) (hb:Below w.heap.size w w'):RdI w' v l:=by
 obtain⟨a,c,rfl,h⟩:=h;refine⟨a,c,rfl,λhn => ?_⟩;obtain⟨b,off,rfl,hc⟩:=h hn;exact⟨b,off,rfl,λj hj=>(hb.cell (p:=⟨b,_,none⟩) (b_ (hc j hj))).trans (hc j hj)⟩
theorem eq_mapI {zs:List Int} (hl:xs.length=zs.length) (h : ∀j (hj:j<zs.length),xs[j]? = some (.int .i64 zs[j])):xs=zs.map (Value.int .i64):=by
 apply List.ext_getElem?;intro j;by_cases hj:j<zs.length
 ·rw[h j hj];simp[hj]
 ·simp[hl,hj]
theorem own_inN (h:w.ownsRow N 2 1 (.slice (some ⟨g,0,none⟩) l.length l.length) l.length (l.map (Value.int .i64))) (hl:l.length<=1048576):InN w (.slice (some ⟨g,0,none⟩) l.length l.length) l:=by
 refine⟨_,_,rfl,n_,by omega,λhn=>⟨g,0,rfl,λj hj => ?_⟩⟩;have:=World.ownsRow.cells h (g:=g) rfl j (.int .i64 l[j]) (by simp[hj])
 rw[addrO] at this;exact this
theorem toI_any (v:Value) (l:List Int) (w:World) (hl:l.length<=1048576) (h:RdI w v l) :
  Calls prog 9 #[v] w λe w'=>∃g,e=.returned (.slice (some ⟨g,0,none⟩) l.length l.length)/\w'.ownsRow w.heap.size 2 1 (.slice (some ⟨g,0,none⟩) l.length l.length) l.length (l.map (Value.int .i64))/\Below w.heap.size w w':=by
 obtain⟨a,cap,rfl,hc⟩:=h;have HC:=hide hc;obtain⟨i0,hi,hz0,hz1,hz2⟩:=info_parts info_i64Z;generalize hlen:l.length=len at hl ⊢;have HLN:=hide hlen;clear hlen;go_enter func9,ntmps9;go_wp2_with (at_make;refine wpList_make_full _ rfl _ _ 26 rfl w.heap.size 2 i0 (.int .i64 0) 1 underlying26 hi hz0 hz1 _ _ _ _ len rfl rfl o_ o_ ?_ ?_ n_ ?_)
 ·rw[hz2];omega
 ·unfold maxLen;omega
 intro w1 hown1 hgrow1;have hnx1:Bl w w1:=r_.grown hgrow1 n_ (by simp);go_wp2_with fail;go_loopw [4] (λi wr=>∃k:Nat,k<=len/\i=.int .i64 k/\(∃xs:List Value,wr.ownsRow w.heap.size 2 1 (.slice (some ⟨w.heap.size,0,none⟩) len len) len xs/\∀j (hj:j<l.length),j<k->xs[j]? = some (.int .i64 l[j]))/\Bl w wr) (λi _=>len-(RowKit.intOf i).toNat)
 case atStart=>exact⟨0,y_,rfl,⟨_,hown1,λj _ hj=>absurd hj (Nat.not_lt_zero _)⟩,hnx1⟩
 case round=>
  obtain⟨k,hk,rfl,⟨xs,hown,hxs⟩,hnx⟩:=hrel;by_cases hlt:k<len
  ·have hlt':k<l.length:=by rw[HLN.o];exact hlt
   obtain⟨b,off,rfl,hcs⟩:=HC o_;have hck:=hcs k hlt';have hcx:=(hnx.cell (p:=⟨b,off+k,none⟩) (b_ hck)).trans hck;have hlen:xs.length=len:=by have:=hown.1;omega
   have hold:wr.cell? ⟨w.heap.size,k,none⟩=some (xs[k]' o_):=by rw[hown.cellAt k o_];simp
   have hfz:=hown.frozenAt k;obtain⟨z,hz⟩ : ∃z,z=l[k]:=⟨_,rfl⟩;rw[<-hz] at hcx;obtain⟨HR,HX,HZ⟩:=h3 (hown.stored k (.int .i64 z)) hxs hz;clear hxs hown hcs hck hz;go_wp2_with fail;go_roundw
   case rel=>
    refine⟨k+1,by omega,by go_num,⟨_,HR.o.1,λj hj hjk => ?_⟩,hnx.setCell (by simp) _⟩;rw[List.getElem?_set];by_cases hjk:k=j
    ·subst hjk;simp[HZ.o];omega
    ·rw[if_neg hjk];exact HX.o j hj o_
   case measure=>simp[RowKit.intOf];omega
  ·have HX:=hide hxs
   have HO:=hide hown
   go_wp2_with fail
   go_ret
   have hl':=HLN.o
   obtain rfl:=eq_mapI (xs:=xs) (zs:=l) (by rw[hl'];have:=HO.o.1;omega) (λj hj=>HX.o j hj o_)
   exact⟨_,rfl,HO.o,hnx⟩
theorem markQ_any {n q:Nat} (hn:n<=100000000) (hq:q<=100000000) (hown:w.ownsRow N 2 1 (.slice (some ⟨g,0,none⟩) n n) n xs) :
  Calls prog 15 #[.slice (some ⟨g,0,none⟩) n n,.int .i64 q] w λe w'=>e=.returned (.int .i64 ((q+n:Nat):Int))/\Tg g w w':=by
 refine (markI_any g n n q w hn hq (λj hj => ?_)).mono λe w' h=>⟨h.1,h.2.1⟩;obtain⟨g1,g2⟩:=hown;rcases g2 with ⟨h,-⟩|⟨g',cap,cur,h,hg,hh,hc1,hc2,hc3,hc4⟩
 ·simp at h
 ·simp only[Value.slice.injEq,Option.some.injEq,Addr.mk.injEq] at h;obtain⟨⟨rfl,-⟩,-,-⟩:=h;have:=rowi_cell hh (show j<cur.size by omega)
  exact⟨⟨_,this.1⟩,this.2⟩
end
section
variable {t:Tr} {s s':ES} {fr:List Int} {n:Nat} {r:ER}
theorem wk_out {n:Nd} {v:Nat->Int} {c:Int} (h:(wkN t n v s).1=.out c):c=3:=by
 revert h
 unfold wkN
 (repeat' split) <;> simp <;> (intro h;exact h.symm)
theorem Ev.outc {k:Tk} (h:Ev t fr n k s r s') : ∀c,r=.out c->c=2∨c=3:=by
 induction h using Ev_i with
 | kid n e A b st v j c s' h1 h2 h3 h4 h5 h6 i5 i6=>exact i6
 | dry n e A b st v h1 h2 h3 h4 h5 i4=>intro c hc;cases hc;exact .inl rfl
 | work n e A b st v h1 h2 h3 h4 h5 h6 i5=>intro c hc;exact .inr (wk_out hc)
 | call n e A b st v f r s' h1 h2 h3 h4 h5 h6 i4 i6=>exact i6
 | left n e b s c s' h1 h2 h3 i3=>exact i3
 | ldry n e b s x s' h1 h2 h3 h4 i3=>intro c hc;cases hc;exact .inl rfl
 | lone n e b s x s' h1 h2 h3 h4 i3=>intro c hc;cases hc
 | rigt n e b s x s1 c s' h1 h2 h3 h4 h5 i3 i5=>exact i5
 | rdry n e b s x s1 y s' h1 h2 h3 h4 h5 h6 i3 i5=>intro c hc;cases hc;exact .inl rfl
 | both n e b s x s1 y s' h1 h2 h3 h4 h5 h6 i3 i5=>intro c hc;cases hc
 | pbad n s a b z c z' h1 i1=>exact i1
 | decl n s a b z v z' h1 h2 i2=>intro c hc;cases hc
 | set n s a b z v z' h1 h2 i2=>intro c hc;cases hc
 | sbad n s a b z v z1 c z' h1 h2 h3 i2 i3=>exact i3
 | smis n s a b z v z1 x z' h1 h2 h3 h4 i2 i3=>intro c hc;cases hc;exact .inr rfl
 | stor n s a b z v z1 x z' h1 h2 h3 h4 i2 i3=>intro c hc;cases hc
 | ifth n s a b z v z1 r z' h1 h2 h3 h4 i2 i4=>exact i4
 | ifel n s a b z z1 r z' h1 h2 h3 i2 i3=>exact i3
 | whno n s a b z z' h1 h2 i2=>intro c hc;cases hc
 | whn n s a b z v z1 r z' h1 h2 h3 h4 h5 i2 i4=>exact i4
 | whdr n s a b z v z1 z' h1 h2 h3 h4 h5 i2 i4=>intro c hc;cases hc;exact .inl rfl
 | whag n s a b z v z1 z2 r z' h1 h2 h3 h4 h5 h6 i2 i4 i6=>exact i6
 | retn n s a b z v z' h1 h2 i2=>intro c hc;cases hc
 | tell n s a b z v z' h1 h2 i2=>intro c hc;cases hc
 | only n s a b z v z' h1 h2 i2=>intro c hc;cases hc
 | nil n z=>intro c hc;cases hc
 | sdry n s q z h1=>intro c hc;cases hc;exact .inl rfl
 | send n s q z r z' h1 h2 h3 i2=>exact i2
 | next n s q z z1 r z' h1 h2 h3 i2 i3=>exact i3
 | blk n ss z r z' h1 i1=>exact i1
 | run n f vs z hf r z' h1 i1=>intro c hc;cases r using ER.cs <;> simp[ER.back] at hc;exact i1 c (by rw[hc])
theorem ev_plain {e:List Nd} (h:Ev t fr (n+1) (.e e) s r s') (h8:(rootN e).kind≠8) (h9:(rootN e).kind≠9) : ∃(A:Nat) (b:Nat->Nat) (st:Nat->ES) (v:Nat->Int) (j:Nat),Cut e A b/\st 0=s/\j<=A/\(∀i,i<j->Ev t fr n (.e (kid e b i)) (st i) (.val (v i)) (st (i+1))) /\
  ((j<A/\∃c,r=.out c/\Ev t fr n (.e (kid e b j)) (st j) (.out c) s')∨(j=A/\(st A).u=0/\r=.out 2/\s'=st A)∨(j=A/\0<(st A).u/\(rootN e).kind≠4/\r=(wkN t (rootN e) v (st A).sp).1/\s'=(wkN t (rootN e) v (st A).sp).2)∨(j=A/\0<(st A).u/\(rootN e).kind=4/\∃f,fnum t.funcs (rootN e).name=some f/\Ev t fr n (.c f (argL A v)) (st A).sp r s')):=by
 cases h using Ev_i with
 | kid _ _ A b st v j c _ h1 h2 h3 h4 h5 h6=>exact⟨A,b,st,v,j,h1,rfl,by omega,h5,.inl ⟨h4,c,rfl,h6⟩⟩
 | dry _ _ A b st v h1 h2 h3 h4 h5=>exact⟨A,b,st,v,A,h1,rfl,n_,h4,.inr (.inl ⟨rfl,h5,rfl,rfl⟩)⟩
 | work _ _ A b st v h1 h2 h3 h4 h5 h6=>exact⟨A,b,st,v,A,h1,rfl,n_,h5,.inr (.inr (.inl ⟨rfl,h6,h4,rfl,rfl⟩))⟩
 | call _ _ A b st v f _ _ h1 h2 h3 h4 h5 h6=>exact⟨A,b,st,v,A,h1,rfl,n_,h4,.inr (.inr (.inr ⟨rfl,h5,h2,f,h3,h6⟩))⟩
 | left _ _ b _ c _ h1 h2 h3=>rcases h2 with h2|h2 <;> contradiction
 | ldry _ _ b _ x _ h1 h2 h3 h4=>rcases h2 with h2|h2 <;> contradiction
 | lone _ _ b _ x _ h1 h2 h3 h4=>rcases h2 with h2|h2 <;> exact absurd h2.1 (by assumption)
 | rigt _ _ b _ x s1 c _ h1 h2 h3 h4 h5=>rcases h2 with h2|h2 <;> exact absurd h2.1 (by assumption)
 | rdry _ _ b _ x s1 y _ h1 h2 h3 h4 h5 h6=>rcases h2 with h2|h2 <;> exact absurd h2.1 (by assumption)
 | both _ _ b _ x s1 y _ h1 h2 h3 h4 h5 h6=>rcases h2 with h2|h2 <;> exact absurd h2.1 (by assumption)
def ExP (C:RC) (w:World) (lb:List Nat) (vL vO:Value) (r:ER) (s':ES) (x:Ending) (w':World):Prop:=∃z vI' vO' vl',x=.returned (.int .i64 z)/\(∀v,r=.val v->z=v)/\RS C w' (stR r) false vl' lb vL vI' vO' s'/\Tcs (TEx C vO) w w'/\∀k,vO'.ownBlock=some k->vO.ownBlock=some k∨w.heap.size<=k
def ExS (C:RC) (n:Nat):Prop:=∀(e:List Nd) (s:ES) (r:ER) (s':ES),Ev C.t C.fr n (.e e) s r s'->KnE C.t (s.l.map Prod.fst) e->Scp C.t (s.l.map Prod.fst)->oneB e=true->e.length<=1048576->∀(w:World) (vl:Int) (lb:List Nat) (vL vI vO ve:Value),RS C w 0 false vl lb vL vI vO s->Nodes C.w0 ve e->Calls prog 131 #[.pointer (some ⟨C.P,0,none⟩),ve] w λx w'=>ExP C w lb vL vO r s' x w'
structure ArR (C:RC) (w:World) (lb:List Nat) (vL vO:Value) (B:Nat) (va:Value) (vs:List Int):Prop where
 row:w.ownsRow B 2 1 va vs.length (vs.map (Value.int .i64))
 ap : ∀k,va.ownBlock=some k->C.w0.heap.size<=k/\k∉C.K lb/\vL.ownBlock≠some k/\vO.ownBlock≠some k
def CaS (C:RC) (n:Nat):Prop:=∀(f:Nat) (vs:List Int) (s:ES) (r:ER) (s':ES),Ev C.t C.fr n (.c f vs) s r s'->Scp C.t (s.l.map Prod.fst)->(∀hf:f<C.t.funcs.length,vs.length=C.t.funcs[f].params.length)->(∀x∈vs,inB x)->s.n+1000000000*((s.u:Int)+1)<=100001000000000->∀(w:World) (vl:Int) (lb:List Nat) (vL vI vO va:Value) (B:Nat),RS C w 0 false vl lb vL vI vO s->ArR C w lb vL vO B va vs->Calls prog 31 #[.pointer (some ⟨C.P,0,none⟩),.int .i64 (f:Int),va] w λx w'=>ExP C w lb vL vO r s' x w'
theorem TEx.lt {C:RC} {w:World} {st:Int} {rt:Bool} {vl:Int} {lb:List Nat} {vL vI vO:Value} (h:RS C w st rt vl lb vL vI vO s) : ∀k,TEx C vO k->k<w.heap.size/\C.w0.heap.size<=k:=λk hk=>by
 rcases hk with rfl|hk|hk
 ·exact⟨h.hi.1,h.hi.2.2.1⟩
 ·have:=h.rng k (by unfold RC.K;exact m_ _ (m_ _ (List.mem_append_left _ hk)))
  exact⟨this.2,this.1⟩
 ·have:=World.ownsRow.lt h.out k hk
  exact⟨this.2,this.1⟩
def DeS (C:RC) (m:Nat):Prop:=∀(e:List Nd),e.length<=m->oneB e=true->e.length<=1048576->∀(w:World) (c:Int) (rt:Bool) (vl:Int) (lb:List Nat) (vL vI vO ve:Value) (s:ES),c≠0->RS C w c rt vl lb vL vI vO s->Nodes C.w0 ve e->Calls prog 131 #[.pointer (some ⟨C.P,0,none⟩),ve] w λx w'=>x=.returned (.int .i64 0)/\Below w.heap.size w w'
theorem dead_any (C:RC) : ∀m,DeS C m:=by
 intro m;induction m with
 | zero=>intro e hl h1;have:=one_pos h1;omega
 | succ m ih=>
  intro e hl h1 hl1 w c rt vl lb vL vI vO ve s hc h hN;obtain⟨A,b,hc0,hk1⟩:=one_cuts h1;have he:=hc0.len;have HG:Hid (nodeB (rootN e)=true):=hc0.root_good;have HA:Hid (arity (rootN e)=A):=hc0.ar;have HB:=hide h.bel;have HRS:=hide h;have HIh:Hid (∀i,i<A->∀W vi,Bl w W->Nodes C.w0 vi (kid e b i)->Calls prog 131 #[.pointer (some ⟨C.P,0,none⟩),vi] W λx w'=>x=.returned (.int .i64 0)/\Bl W w'):=λi hi W vi hW hNi=>ih (kid e b i) (by have:=hc0.kid_lt i hi;omega) (hk1 i hi) (by have:=hc0.kid_lt i hi;omega) W c rt vl lb vL vI vO vi s hc (h.below hW) hNi;have HR:Hid (Calls prog 162 #[ve] w λr w'=>r=.returned (.agg #[.int .i64 (rootN e).kind,.int .i64 (rootN e).val,.string (rootN e).name])/\Bl w w'):=by
   have:=root_any _ e w he hl1 (hN.below h.bel)
   rw[<-rootN_eq e he] at this;exact this
  have HK:=hide λ(W:World) (hW:Bl w W)=>kids_any C.w0 ve e A b W hl1 hN (h.bel.trans (hW.mono h.bel.size)) hc0;generalize hR:rootN e=R at HG HA HR;obtain⟨nk,nv,nm⟩:=R;simp only at HR;have hc':(c == 0)=false:=by simpa using hc
  have hba : ∀w1:World,Bl w w1->∀o,Bl w (w1.alloc o):=λw1 h o=>h.alloc h.size o;go_enter func131,ntmps131;go_wp2_with fail;refine HR.o.mono ?_;rintro x w1 ⟨rfl,hb1⟩;go_wp2_with fail;refine (HK _ (hba _ hb1 _)).mono ?_;rintro x W ⟨vk,rfl,hKd,hb2⟩;obtain⟨g0,g1,g2⟩:W.cell? ⟨w1.heap.size,0,none⟩=some (.int .i64 nk)/\W.cell? ⟨w1.heap.size,1,none⟩=some (.int .i64 nv)/\W.cell? ⟨w1.heap.size,2,none⟩=some (.string nm):=by
   refine⟨?_,?_,?_⟩
   ·rw[hb2.cell (by simp)];simp
   ·rw[hb2.cell (by simp)];simp
   ·rw[hb2.cell (by simp)];simp
  have HBW:Hid (Bl w W):=(hba _ hb1 _).trans (hb2.mono (by have:=hb1.size;simp;omega));have hGl:w1.heap.size<W.heap.size:=b_ g0;generalize w1.heap.size=G at g0 g1 g2 hGl ⊢;have hkk:1<=nk/\nk<=9:=kind_good HG;have HD:=hide λX (hX:Bl w X)=>spendD (HRS.o.below hX) hc;have HC8:=hide λX (hX:Bl w X)=>((HRS.o.below hX).box 8 _ rfl).1;generalize C.P=P at HIh HD HC8 ⊢;by_cases hao:nk=8∨nk=9
  ·have hA2:A=2:=by have:=HA.o;rcases hao with rfl|rfl <;> (simp[arity] at this;omega)
   subst hA2;obtain⟨ua,uc,rfl,hu1,hu2,hu3⟩:=hKd;obtain⟨B,rfl,-,-,hBc⟩:=hu3 o_;obtain⟨v0,hv0,hn0⟩:=hBc 0 o_;obtain⟨v1,hv1,hn1⟩:=hBc 1 o_;obtain⟨H0,HNv1⟩:=h2 (HIh 0 o_ W v0 HBW hn0) hn1;rcases hao with rfl|rfl
   ·go_wp2_with fail;refine H0.o.mono ?_;rintro x w2 ⟨rfl,hb2⟩;have hbw2:Bl w w2:=HBW.o.trans (hb2.mono HBW.o.size);have y0:=(hb2.cell (p:=⟨G,0,none⟩) hGl).trans g0;go_wp2_with fail;refine (HD w2 hbw2).mono ?_;rintro x w3 ⟨⟨u,rfl⟩,hw3⟩;rw[hw3];go_wp2_with fail;refine (bool_any false w2).mono ?_;rintro x w4 ⟨rfl,hw4⟩;rw[hw4];go_wp2;go_ret;exact⟨rfl,hbw2⟩
   ·go_wp2_with fail;refine H0.o.mono ?_;rintro x w2 ⟨rfl,hb2⟩;have hbw2:Bl w w2:=HBW.o.trans (hb2.mono HBW.o.size);have y0:=(hb2.cell (p:=⟨G,0,none⟩) hGl).trans g0;have y1:=(hb2.cell (p:=⟨B,1,none⟩) (b_ hv1)).trans hv1;have H1:=hide (HIh 1 o_ w2 v1 hbw2 HNv1);go_wp2_with fail;refine (HD w2 hbw2).mono ?_;rintro x w3 ⟨⟨u,rfl⟩,hw3⟩;rw[hw3];go_wp2_with fail;refine H1.o.mono ?_;rintro x w4 ⟨rfl,hb4⟩;have hbw4:Bl w w4:=hbw2.trans (hb4.mono hbw2.size);go_wp2_with fail;refine (HD w4 hbw4).mono ?_;rintro x w5 ⟨⟨u,rfl⟩,hw5⟩;rw[hw5];go_wp2_with fail;refine (bool_any false w4).mono ?_;rintro x w6 ⟨rfl,hw6⟩;rw[hw6];go_wp2;go_ret;exact⟨rfl,hbw4⟩
  ·have h8:(nk == 8)=false:=by simp;omega
   have h9:(nk == 9)=false:=by simp;omega
   obtain⟨ua,uc,rfl,hu1,hu2,-⟩:=hKd;have hbwa:Bl w (W.alloc (.cells #[] 2)):=HBW.o.alloc HBW.o.size _;have y8:=HC8 _ hbwa;go_wp2_with fail;refine wp_loop_rounds 1 ?_;rw[rounds_succ];by_cases hA0:(0:Int)<(A:Int)
   ·go_wp2_with fail;refine (HD _ hbwa).mono ?_;rintro x w3 ⟨⟨u,rfl⟩,hw3⟩;rw[hw3];go_wp2;go_ret;exact⟨rfl,hbwa⟩
   ·go_wp2_with fail;refine (HD _ hbwa).mono ?_;rintro x w3 ⟨⟨u,rfl⟩,hw3⟩;rw[hw3];go_wp2;go_ret;exact⟨rfl,hbwa⟩
end
section
variable {x:ByteArray} {l:List (ByteArray × Int)} {C:RC} {w W:World} {c vl z:Int} {rt:Bool} {lb:List Nat} {vL vI vO v:Value} {s s':ES} {r:ER}
theorem gix_glob : ∀ {gs:List Gl} {x:ByteArray},0<=globI gs x->∃k,∃hk:k<gs.length,gix gs x=some k/\gs[k].size=globI gs x
 | [],x,h=>by simp[globI] at h
 | g::r,x,h=>by
  unfold globI at h ⊢;by_cases e:g.name=x
  ·refine⟨0,by simp,?_,by rw[if_pos e];rfl⟩;exact gix_some (by simp) (λj hj h0=>by omega) e
  ·rw[if_neg e] at h ⊢;obtain⟨k,hk,h1,h2⟩:=gix_glob h;refine⟨k+1,by simpa using hk,?_,by simpa using h2⟩;unfold gix at h1 ⊢;rw[List.findIdx?_cons,h1];simp[e]
theorem lix_mem :x∈l.map Prod.fst ↔ ∃j,∃hj:j<l.length,lix l x=some j/\(l[j]).1=x:=by
 constructor
 ·intro h;have h0:lix l x≠none:=λe=>by
   unfold lix at e;rw[List.findIdx?_eq_none_iff] at e;obtain⟨y,hy,rfl⟩:=List.mem_map.1 h;have:=e y hy
   simp at this
  obtain⟨j,hj⟩:=Option.ne_none_iff_exists'.1 h0;have h2:=hj;unfold lix at h2;obtain⟨hl,hp,-⟩:=List.findIdx?_eq_some_iff_getElem.1 h2;exact⟨j,hl,hj,by simpa using hp⟩
 ·rintro ⟨j,hj,-,rfl⟩;exact List.mem_map.2 ⟨l[j],g_ hj,rfl⟩
theorem lix_no (h:x∉l.map Prod.fst):lix l x=none:=lix_none (λj hj e=>h (List.mem_map.2 ⟨l[j],g_ hj,e⟩))
theorem info_i64U:(prog.info? 2).map (λi=>(i.zero,i.size,i.bytes))=some (some (.int .i64 0),1,8):=by kernel_rfl
theorem InN.tail {w0:World} {a:Option Addr} {c:Nat} {x:Int} {r:List Int} (h:InN w0 (.slice a (x::r).length c) (x::r)):InN w0 (.slice (if c=1 then a else a.map (·.add (1*1))) r.length (c-1)) r:=by
 obtain⟨a',c',e,h1,h2,h3⟩:=h;simp only[Value.slice.injEq,true_and] at e;obtain⟨rfl,rfl⟩:=e;simp only[l_c] at h1;refine⟨_,_,rfl,by omega,by omega,λhp => ?_⟩;obtain⟨b,off,rfl,hc⟩:=h3 (by simp);refine⟨b,off+1,?_,λj hj => ?_⟩
 ·rw[if_neg o_];simp[Addr.add]
 ·have:=hc (j+1) (by simpa using hj)
  rw[show off+1+j=off+(j+1) by omega];simpa using this
theorem icut_run (a:Option Addr) (n cap:Nat) (h2:1<=n) (h3:n<=cap) : ∀w:World,(Instr.slice 26 (.slice a n cap) (some (.int .i64 1)) none none).run prog w=.ok (.slice (if cap=1 then a else a.map (·.add (1*1))) (n-1) (cap-1)) w:=by
 intro w;have hz:prog.elem 26=2:=by kernel_rfl
 have hs:(sizeOf 2).run prog w=.ok 1 w:=by kernel_rfl
 rw[run_slice_l w 26 a n cap (by rw[hz];exact underlying26) .i64 1 o_ o_,hz,hs];simp only[Result.andThen,sliced];rfl
theorem find_word (h:RS C w c rt vl lb vL vI vO s) (hC:C.Ok) (hF:FindV C lb s x v) (hn:(s.l.map Prod.fst).Nodup) (hk:x∈s.l.map Prod.fst∨(x∉s.l.map Prod.fst/\0<=globI C.t.globals x)) :
  ∃b n,v=.slice (some ⟨b,0,none⟩) n n/\0<n/\n<=1000000/\b<w.heap.size/\w.cell? ⟨b,0,none⟩=some (.int .i64 (s.rd C.t x))/\w.frozen? ⟨b,0,none⟩=false/\(b∈C.gb∨b∈lb):=by
 rcases hk with hk|⟨hk,hg⟩
 ·obtain⟨j,hj,h1,h2⟩:=lix_mem.1 hk;have hjb:j<lb.length:=by rw[h.ll];exact hj
  have hm:lb[j]∈lb:=g_ hjb;have hlw:=h.lw j hjb hj 0 _ rfl;have hr:=h.rng lb[j] (by unfold RC.K;exact m_ _ (m_ _ (List.mem_append_right _ hm)));have e1:lb.getD j 0=lb[j]:=by simp[List.getD,hjb]
  refine⟨lb[j],1,by rw[hF.1 j h1,e1],by omega,by omega,hr.2,?_,hlw.2,.inr hm⟩;rw[hlw.1];unfold ES.rd;rw[h1];simp[List.getD,hj]
 ·obtain⟨k,hkl,h1,h2⟩:=gix_glob hg;have hkb:k<C.gb.length:=by rw[hC.gbl];exact hkl
  have hkg:k<s.g.length:=by rw[h.gl];exact hkb
  have hm:C.gb[k]∈C.gb:=g_ hkb;have hr:=h.rng C.gb[k] (by unfold RC.K;exact m_ _ (m_ _ (List.mem_append_left _ hm)));have e1:C.gb.getD k 0=C.gb[k]:=by simp[List.getD,hkb]
  have e2:s.g.getD k []=s.g[k]:=by simp[List.getD,hkg]
  have hg1:=h.g1 k hkg;have hgw:=h.gw k hkb;rw[e2] at hgw;have h0:((s.g[k]).map (Value.int .i64))[0]? = some (.int .i64 ((s.g[k]).getD 0 0)):=by
   have:0<(s.g[k]).length:=by omega
   simp[List.getD,this]
  have hg0:=hgw 0 _ h0;refine⟨C.gb[k],(s.g[k]).length,by rw[hF.2 (lix_no hk) k h1,e1,e2],by omega,hg1.2,hr.2,?_,hg0.2,.inl hm⟩;rw[hg0.1];unfold ES.rd;rw[lix_no hk,h1];simp only[e2]
theorem find_arr (h:RS C w c rt vl lb vL vI vO s) (hC:C.Ok) (hF:FindV C lb s x v) (hk:x∉s.l.map Prod.fst) (hg:0<=globI C.t.globals x) :
  ∃b,v=.slice (some ⟨b,0,none⟩) (s.ws C.t x).length (s.ws C.t x).length/\0<(s.ws C.t x).length/\(s.ws C.t x).length<=1000000/\b<w.heap.size/\b∈C.gb/\∀j,j<(s.ws C.t x).length->w.cell? ⟨b,j,none⟩=some (.int .i64 ((s.ws C.t x).getD j 0))/\w.frozen? ⟨b,j,none⟩=false:=by
 obtain⟨k,hkl,h1,h2⟩:=gix_glob hg;have hkb:k<C.gb.length:=by rw[hC.gbl];exact hkl
 have hkg:k<s.g.length:=by rw[h.gl];exact hkb
 have hm:C.gb[k]∈C.gb:=g_ hkb;have hr:=h.rng C.gb[k] (by unfold RC.K;exact m_ _ (m_ _ (List.mem_append_left _ hm)));have e1:C.gb.getD k 0=C.gb[k]:=by simp[List.getD,hkb]
 have e3:s.ws C.t x=s.g.getD k []:=by unfold ES.ws;rw[h1]
 have e2:s.g.getD k []=s.g[k]:=by simp[List.getD,hkg]
 have hg1:=h.g1 k hkg;have hgw:=h.gw k hkb;refine⟨C.gb[k],by rw[hF.2 (lix_no hk) k h1,e1,e3],by rw[e3,e2];omega,by rw[e3,e2];exact hg1.2,hr.2,hm,λj hj => ?_⟩;rw[e3] at hj ⊢;have hgj:=hgw j (.int .i64 ((s.g.getD k []).getD j 0)) (by clear hgw e3 e2;generalize s.g.getD k []=ws at hj ⊢;rw[List.getElem?_map,List.getElem?_eq_getElem hj];simp[List.getD,hj]);exact hgj
def LI (C:RC) (W:World) (lb:List Nat) (vL vO:Value) (A j:Nat) (st:Nat->ES) (v:Nat->Int) (r:ER) (s':ES) (i:Nat) (av:Value) (wr:World):Prop:=∃vI' vO' vl' vs,wr.ownsRow W.heap.size 2 1 av vs.length (vs.map (Value.int .i64))/\vs.length<=i/\(∀k,av.ownBlock=some k->vO'.ownBlock≠some k)/\Tcs (TEx C vO) W wr/\(∀k,vO'.ownBlock=some k->vO.ownBlock=some k∨W.heap.size<=k) /\
 ((i<=j/\vs=argL i v/\RS C wr 0 false vl' lb vL vI' vO' (st i))∨(i=j+1/\j<A/\∃c,r=.out c/\RS C wr c false vl' lb vL vI' vO' s'))
theorem argL_succ (i:Nat) (v:Nat->Int):argL (i+1) v=argL i v++[v i]:=by simp[argL,List.range_succ]
theorem argL_len (i:Nat) (v:Nat->Int):(argL i v).length=i:=by simp[argL]
theorem li_step {vI0:Value} {vl0:Int} {A j:Nat} {st:Nat->ES} {v:Nat->Int} {i:Nat} {av:Value} {wr w2:World} {ri:ER} {si:ES} {vI2 vO2:Value} {vl2:Int} (h0:RS C W 0 false vl0 lb vL vI0 vO (st 0))
  {vO1:Value} {vs:List Int} (hrow:wr.ownsRow W.heap.size 2 1 av vs.length (vs.map (Value.int .i64))) (hvl:vs.length<=i) (hap : ∀k,av.ownBlock=some k->vO1.ownBlock≠some k) (ht:Tcs (TEx C vO) W wr) (ho : ∀k,vO1.ownBlock=some k->vO.ownBlock=some k∨W.heap.size<=k)
  (hR2:RS C w2 (stR ri) false vl2 lb vL vI2 vO2 si) (ht2:Tcs (TEx C vO1) wr w2) (ho2 : ∀k,vO2.ownBlock=some k->vO1.ownBlock=some k∨wr.heap.size<=k) (hi6:i<=1000)
  (hfin:(i<j/\ri=.val (v i)/\si=st (i+1)/\z=v i/\vs=argL i v)∨(i=j/\j<A/\∃c,r=.out c/\ri=.out c/\si=s')) :
  ∃va vn vc w3,(Builtin.append_ #[26,26] 26 #[av,.slice (some ⟨w2.heap.size,0,none⟩) 1 1]).run prog (w2.alloc (.cells #[.int .i64 z] 2))=.ok (.slice va vn vc) w3/\LI C W lb vL vO A j st v r s' (i+1) (.slice va vn vc) w3:=by
 obtain⟨i0,hi,hz0,hz1,hz2⟩:=info_parts info_i64U;have hlt:=λk (hk:TEx C vO k)=>(TEx.lt h0 k hk).1;have hWr:=ht.size;have hav:=λk (hk:av.ownBlock=some k)=>World.ownsRow.lt hrow k hk;have hno : ∀k,av.ownBlock=some k->¬TEx C vO1 k:=λk hk hT=>by
  have h1:=(hav k hk).1;rcases hT with rfl|hT|hT
  ·have:=h0.hi.1;omega
  ·have:=(h0.rng k (by unfold RC.K;exact m_ _ (m_ _ (List.mem_append_left _ hT)))).2;omega
  ·exact hap k hk hT
 have hrow2:=own_notU hrow ht2 hno;have hap2 : ∀k,av.ownBlock=some k->vO2.ownBlock≠some k:=λk hk e=>by
  rcases ho2 k e with h1|h1
  ·exact hap k hk h1
  ·have:=(hav k hk).2;omega
 have ht02:Tcs (TEx C vO) W w2:=ht.next ht2 (λk hk=>by
  rcases hk with rfl|hk|hk
  ·exact .inl (.inl rfl)
  ·exact .inl (.inr (.inl hk))
  ·rcases ho k hk with h1|h1
   ·exact .inl (.inr (.inr h1))
   ·exact .inr h1)
 have ho02 : ∀k,vO2.ownBlock=some k->vO.ownBlock=some k∨W.heap.size<=k:=λk hk=>by
  rcases ho2 k hk with h1|h1
  ·exact ho k h1
  ·exact .inr o_
 have hb0:Bl w2 (w2.alloc (.cells #[.int .i64 z] 2)):=bel_a _ _;have h':=ownB hrow2 hb0;have hlit:(w2.alloc (.cells #[.int .i64 z] 2)).ownsRow w2.heap.size 2 1 (.slice (some ⟨w2.heap.size,0,none⟩) 1 1) 1 [.int .i64 z]:=World.ownsRow_lit w2 #[.int .i64 z] 1 n_ (by decide) rfl;have hs2:=ht02.size;obtain⟨v',w',r1,r2,r3,r4⟩:=run_appG (P:=prog) (w:=w2.alloc (.cells #[.int .i64 z] 2)) W.heap.size 26 26 2 i0 _ 1 8 underlying26 hi hz0 hz1 hz2 rfl (by decide) av _ _ h' (some ⟨w2.heap.size,0,none⟩) 1 1 [.int .i64 z] (λe=>by cases e) rfl (λad had k u hu=>by cases had;exact World.ownsRow.cells hlit (g:=w2.heap.size) rfl k u hu) (λu hu=>by simp at hu;subst hu;rfl) o_ (by decide) (t_ hs2 hb0.size);obtain⟨va,vc,rfl,-⟩:=own_shapeU r2;have t3:Tcs (λk=>av.ownBlock=some k) (w2.alloc (.cells #[.int .i64 z] 2)) w':=Tcs.of_grown r3 (λk hk=>hk);have hRa:=hR2.below hb0;have hR3:=hRa.past t3 (λk hk=>by
  have h1:=(hav k hk).1;have hw0:=h0.hi.2.2.1;have hw1:=h0.hi.1;refine⟨by omega,λhm => ?_,λe => ?_,hap2 k hk⟩
  ·have:=(h0.rng k hm).2;omega
  ·have:=(World.ownsRow.lt h0.lrow k e).2;omega)
 refine⟨va,_,vc,w',r1,vI2,vO2,vl2,vs++[z],?_,by simp;omega,λk hk e => ?_,?_,ho02,?_⟩
 ·rw[l_a,List.map_append];exact r2
 ·rcases r4 k hk with h1|h1
  ·exact hap2 k h1 e
  ·have:=(World.ownsRow.lt hR2.out k e).2
   have:=hb0.size
   omega
 ·refine (ht02.of_below hb0).next t3 (λk hk=>.inr ?_);exact (hav k hk).1
 ·rcases hfin with ⟨h1,rfl,rfl,rfl,rfl⟩|⟨h1,h2,c,h3,rfl,rfl⟩
  ·exact .inl ⟨by omega,(argL_succ i v).symm,hR3⟩
  ·exact .inr ⟨by omega,h2,c,h3,hR3⟩
theorem exp_fin {w':World} {vI' vO':Value} {vl':Int} (hBW:Below w.heap.size w W) (hT:Tcs (TEx C vO) W w') (hO : ∀k,vO'.ownBlock=some k->vO.ownBlock=some k∨W.heap.size<=k) (hR:RS C w' (stR r) false vl' lb vL vI' vO' s') (hz : ∀v,r=.val v->z=v):ExP C w lb vL vO r s' (.returned (.int .i64 z)) w':=
 ⟨z,vI',vO',vl',rfl,hz,hR,(hBW.tcs (S:=TEx C vO)).trans hT,λk hk=>(hO k hk).imp id (λh=>t_ hBW.size h)⟩
theorem row_cell {B:Nat} {va:Option Addr} {vn vc:Nat} {vs:List Int} (h:w.ownsRow B 2 1 (.slice va vn vc) vs.length (vs.map (Value.int .i64))) (k:Nat) (hk:k<vs.length) : ∃ab,va=some ⟨ab,0,none⟩/\vn=vs.length/\B<=ab/\ab<w.heap.size/\w.cell? ⟨ab,k,none⟩=some (.int .i64 vs[k]):=by
 have h0:=h;rcases h.2 with ⟨-,hz⟩|⟨g,cap,cur,e,h1,h2,-⟩
 ·omega
 ·simp only[Value.slice.injEq] at e;obtain⟨rfl,rfl,rfl⟩:=e;refine⟨g,rfl,rfl,h1,(Array.getElem?_eq_some_iff.1 h2).1,?_⟩;have:=World.ownsRow.cellAt h0 k (by simpa using hk)
  rw[this];simp[hk]
end
theorem kid_ones {e:List Nd} {A:Nat} {b:Nat->Nat} (h1:oneB e=true) (hc:Cut e A b) : ∀i,i<A->oneB (kid e b i)=true:=by
 obtain⟨A',b',hc',hk⟩:=one_cuts h1;obtain⟨rfl,hb⟩:=hc.one hc';intro i hi;have:=hk i hi
 unfold kid at this ⊢;rw[hb (i+1) o_,hb i o_];exact this
theorem exS_plain (C:RC) (hC:C.Ok) (n:Nat) (IH:ExS C n) (IC:CaS C n) (e:List Nd) (s:ES) (r:ER) (s':ES) (hE:Ev C.t C.fr (n+1) (.e e) s r s') (h8:(rootN e).kind≠8) (h9:(rootN e).kind≠9) (hkn:KnE C.t (s.l.map Prod.fst) e) (hsc:Scp C.t (s.l.map Prod.fst)) (h1:oneB e=true) (hl1:e.length<=1048576) (w:World) (vl:Int) (lb:List Nat) (vL vI vO ve:Value) (h:RS C w 0 false vl lb vL vI vO s) (hN:Nodes C.w0 ve e) :
  Calls prog 131 #[.pointer (some ⟨C.P,0,none⟩),ve] w λx w'=>ExP C w lb vL vO r s' x w':=by
 obtain⟨A,b,st,v,j,hc0,rfl,hjA,hch,hrest⟩:=ev_plain hE h8 h9;have he:=hc0.len;have hA6:=hc0.arA;have hk1:=kid_ones h1 hc0;have hchn:=chn (t:=C.t) (fr:=C.fr) (n:=n) (e:=e) (b:=b) (st:=st) (v:=v) (j:=j) (λi hi h0=>by
  obtain⟨x1,x2,x3⟩:=(hch i hi).inv h0 trivial;exact⟨x1,x2 _ (.inl rfl),x3⟩) h.ok
 have hnm : ∀i,i<=j->(st i).l=(st 0).l:=λi hi=>(hchn i hi).2.1.2.2.2;have HIk:Hid (∀i,i<j->∀X vl1 vI1 vO1 vi,RS C X 0 false vl1 lb vL vI1 vO1 (st i)->Nodes C.w0 vi (kid e b i)->Calls prog 131 #[.pointer (some ⟨C.P,0,none⟩),vi] X λx w'=>ExP C X lb vL vO1 (.val (v i)) (st (i+1)) x w'):=λi hi X vl1 vI1 vO1 vi hX hNi=>by
  have hlt:=hc0.kid_lt i o_;exact IH (kid e b i) (st i) _ _ (hch i hi) (by rw[hnm i o_];exact hkn.kid) (by rw[hnm i o_];exact hsc) (hk1 i o_) o_ X vl1 lb vL vI1 vO1 vi hX hNi
 have HIj:Hid (j<A->∃c,r=.out c/\∀X vl1 vI1 vO1 vi,RS C X 0 false vl1 lb vL vI1 vO1 (st j)->Nodes C.w0 vi (kid e b j)->Calls prog 131 #[.pointer (some ⟨C.P,0,none⟩),vi] X λx w'=>ExP C X lb vL vO1 (.out c) s' x w'):=λhjl=>by
  have hlt:=hc0.kid_lt j hjl;rcases hrest with ⟨-,c,hr,hEv⟩|⟨h0,-⟩|⟨h0,-⟩|⟨h0,-⟩
  ·exact⟨c,hr,λX vl1 vI1 vO1 vi hX hNi=>IH (kid e b j) (st j) _ _ hEv (by rw[hnm j n_];exact hkn.kid) (by rw[hnm j n_];exact hsc) (hk1 j hjl) o_ X vl1 lb vL vI1 vO1 vi hX hNi⟩
  ·omega
  ·omega
  ·omega
 have HG:Hid (nodeB (rootN e)=true):=hc0.root_good;have HAr:Hid (arity (rootN e)=A):=hc0.ar;have HRS:=hide h;have HKn:Hid (nodeE C.t ((st 0).l.map Prod.fst) (rootN e)=0):=hkn _ (rootN_mem he);have HR:Hid (Calls prog 162 #[ve] w λr w'=>r=.returned (.agg #[.int .i64 (rootN e).kind,.int .i64 (rootN e).val,.string (rootN e).name])/\Bl w w'):=by
  have:=root_any _ e w he hl1 (hN.below h.bel)
  rw[<-rootN_eq e he] at this;exact this
 have HK:=hide λ(W:World) (hW:Bl w W)=>kids_any C.w0 ve e A b W hl1 hN (h.bel.trans (hW.mono h.bel.size)) hc0;have HNm:=hide hnm;have HOut:Hid (∀c,r=.out c->c≠0):=λc hc=>by have:=hE.outc c hc;omega
 have HCh:=hide hchn;have HSc:=hide hsc;have HRest:=hide hrest;have HIC:=hide IC;have HC:=hide hC;have HNB:=hide (show nodeB (rootN e)=true from hc0.root_good);clear IH IC hN hk1 h hE hch hrest hchn hnm hkn hsc hC;generalize hR:rootN e=R at HG HAr HR HKn HRest h8 h9 HNB;clear hR hc0;obtain⟨nk,nv,nm⟩:=R;simp only at HR h8 h9;have hba : ∀w1:World,Bl w w1->∀o,Bl w (w1.alloc o):=λw1 h o=>h.alloc h.size o;go_enter func131,ntmps131;go_wp2_with fail;refine HR.o.mono ?_;rintro x w1 ⟨rfl,hb1⟩;go_wp2_with fail;refine (HK.o _ (hba _ hb1 _)).mono ?_;rintro x W ⟨vk,rfl,hKd,hb2⟩;obtain⟨g0,g1,g2⟩:W.cell? ⟨w1.heap.size,0,none⟩=some (.int .i64 nk)/\W.cell? ⟨w1.heap.size,1,none⟩=some (.int .i64 nv)/\W.cell? ⟨w1.heap.size,2,none⟩=some (.string nm):=by
  refine⟨?_,?_,?_⟩
  ·rw[hb2.cell (by simp)];simp
  ·rw[hb2.cell (by simp)];simp
  ·rw[hb2.cell (by simp)];simp
 have HBW:Hid (Bl w W):=(hba _ hb1 _).trans (hb2.mono (by have:=hb1.size;simp;omega));have hGl:w1.heap.size<W.heap.size:=b_ g0;have hGw:w.heap.size<=w1.heap.size:=hb1.size;obtain⟨ua,uc,rfl,hu1,hu2,hu3⟩:=hKd;have HKc:Hid (∀i,i<A->∃B,ua=some ⟨B,0,none⟩/\w.heap.size<=B/\B<W.heap.size/\∃vi,W.cell? ⟨B,i,none⟩=some vi/\Nodes C.w0 vi (kid e b i)):=λi hi=>by
  obtain⟨B,rfl,hB1,hB2,hBc⟩:=hu3 o_;obtain⟨vi,q1,q2⟩:=hBc i hi;exact⟨B,rfl,by simp at hB1;omega,hB2,vi,q1,q2⟩
 generalize w1.heap.size=G at g0 g1 g2 hGl hGw ⊢;clear hb1 hb2 HR HK hba hu3 hu2;have HRW:=hide (HRS.o.below HBW);have HTl:Hid (∀k,TEx C vO k->k<w.heap.size):=λk hk=>(TEx.lt HRS.o k hk).1;have HGc:Hid (∀X,Tcs (TEx C vO) W X->X.cell? ⟨G,0,none⟩=some (.int .i64 nk)/\X.cell? ⟨G,1,none⟩=some (.int .i64 nv)/\X.cell? ⟨G,2,none⟩=some (.string nm)):=λX hX=>by
  have e0 : ∀o,X.cell? ⟨G,o,none⟩=W.cell? ⟨G,o,none⟩:=λo=>c_ (hX.block G hGl (λhT=>by have:=HTl.o G hT;omega));exact⟨(e0 0).trans g0,(e0 1).trans g1,(e0 2).trans g2⟩
 have HLI0:Hid (LI C W lb vL vO A j st v r s' 0 (.slice (some ⟨W.heap.size,0,none⟩) 0 0) (W.alloc (.cells #[] 2))):=by
  have hb:Bl W (W.alloc (.cells #[] 2)):=bel_a _ _;refine⟨vI,vO,vl,[],World.ownsRow_lit W #[] 0 n_ (by decide) rfl,n_,λk hk e => ?_,hb.tcs,λk hk=>.inl hk,.inl ⟨y_,rfl,HRW.o.below hb⟩⟩;simp only[Value.ownBlock,Option.some.injEq] at hk;have:=(World.ownsRow.lt HRW.o.out k e).2
  omega
 have h8':(nk == 8)=false:=by simpa using h8
 have h9':(nk == 9)=false:=by simpa using h9
 go_wp2_with fail;clear g0 g1 g2;go_loopw [9,10] (λav iv wr=>∃(i:Nat) (ava:Option Addr) (avn avc:Nat),av=.slice ava avn avc/\iv=.int .i64 i/\i<=A/\LI C W lb vL vO A j st v r s' i av wr) (λ_ iv _=>A-(RowKit.intOf iv).toNat)
 case atStart=>exact⟨0,_,_,_,rfl,rfl,y_,HLI0⟩
 case round=>
  obtain⟨i,ava,avn,avc,rfl,rfl,hiA,hLI⟩:=hrel;clear HLI0;obtain⟨vI1,vO1,vl1,vs,hrow,hvs,hap,ht,ho,hst⟩:=hLI;have HRow:=hide hrow;have HT:=hide ht;have HO:=hide ho;have HAp:=hide hap;clear hrow ht ho hap;rcases hst with ⟨hij,hvs2,hRi⟩|⟨hij,hjl,c,hrc,hRc⟩
  ·have HRi:=hide hRi;have c8:=(hRi.box 8 _ rfl).1;clear hRi;by_cases hlt:i<A
   ·obtain⟨B,rfl,hBw,hBl,vi,q1,q2⟩:=HKc.o i hlt;have hc1:wr.cell? ⟨B,i,none⟩=some vi:=(c_ (HT.o.block B hBl (λhT=>by have:=HTl.o B hT;omega))).trans q1;obtain⟨ka,kn,kc,rfl⟩ : ∃ka kn kc,vi=.slice ka kn kc:=by obtain⟨x,y,e,-⟩:=q2;exact⟨_,_,_,e⟩
    clear q1;by_cases hj2:i<j
    ·have HCl:=hide (HIk.o i hj2 wr vl1 vI1 vO1 _ HRi.o q2);go_wp2_with fail;refine HCl.o.mono ?_;rintro x w2 ⟨z,vI2,vO2,vl2,rfl,hz,hR2,ht2,ho2⟩;obtain⟨va3,vn3,vc3,w3,r3,hL3⟩:=li_step (A:=A) (r:=r) (s':=s') HRW.o HRow.o hvs HAp.o HT.o HO.o hR2 ht2 ho2 o_ (.inl ⟨hj2,rfl,rfl,hz _ rfl,hvs2⟩);have Hr3:=hide r3;have HL3:=hide hL3;clear hR2 ht2 ho2 r3 hL3 hz hc1 c8;go_wp2_with (at_builtin;refine wpList_appG rfl (.tmp 72) (.tmp 74) _ rfl _ _ _ _ rfl rfl Hr3.o ?_)
     go_roundw
     case rel=>exact⟨i+1,_,_,_,rfl,by go_num,by omega,HL3⟩
     case measure=>simp[RowKit.intOf];omega
    ·obtain rfl:i=j:=by omega
     obtain⟨c,hrc,hcall⟩:=HIj.o hlt;have HCl:=hide (hcall wr vl1 vI1 vO1 (.slice ka kn kc) HRi.o q2);clear hcall;go_wp2_with fail;refine HCl.o.mono ?_;rintro x w2 ⟨z,vI2,vO2,vl2,rfl,hz,hR2,ht2,ho2⟩;obtain⟨va3,vn3,vc3,w3,r3,hL3⟩:=li_step (z:=z) (v:=v) (A:=A) (r:=r) (s':=s') HRW.o HRow.o hvs HAp.o HT.o HO.o hR2 ht2 ho2 o_ (.inr ⟨rfl,hlt,c,hrc,rfl,rfl⟩);have Hr3:=hide r3;have HL3:=hide hL3;clear hR2 ht2 ho2 r3 hL3 hz hc1 c8;go_wp2_with (at_builtin;refine wpList_appG rfl (.tmp 72) (.tmp 74) _ rfl _ _ _ _ rfl rfl Hr3.o ?_)
     go_roundw
     case rel=>exact⟨i+1,_,_,_,rfl,by go_num,by omega,HL3⟩
     case measure=>simp[RowKit.intOf];omega
   ·obtain rfl:i=A:=by omega
    obtain rfl:i=j:=by omega
    clear HIk HIj HKc;have hcond : ¬(i:Int)<(i:Int):=by omega
    have hrow2:=HRow;rw[hvs2] at hrow2;have HRow2:=hide hrow2;clear hrow2 HRow hvs hvs2;have HU:=hide HRi.o.uu;have hFb:=HC.o.fu;rcases HRest.o with ⟨h0,-⟩|⟨-,hu0,rfl,rfl⟩|⟨-,hu0,h4,hr,hs⟩|⟨-,hu0,h4,f,hf,hEc⟩
    ·exact absurd h0 (Nat.lt_irrefl _)
    ·go_wp2_with fail;refine (spend0 HRi.o hu0).mono ?_;rintro x w5 ⟨⟨u,rfl⟩,hR5,t5⟩;have HFin:=hide (exp_fin (z:=0) HBW.o (HT.o.next t5 (λk hk=>.inl (.inl hk))) HO.o (r:=.out 2) hR5 (λv hv=>by cases hv));have y8:=(hR5.box 8 _ rfl).1;clear hR5 t5 c8;go_wp2_with fail;go_ret;exact HFin
    ·go_wp2_with fail;refine (spend1 HRi.o hu0 hFb).mono ?_;rintro x w5 ⟨⟨u,rfl⟩,hR5,t5⟩;have HT5:=hide (HT.o.next t5 (λk hk=>.inl (.inl hk)));have HR5:=hide hR5;have y8:=(hR5.box 8 _ rfl).1;obtain⟨y0,y1,y2⟩:=HGc.o w5 HT5;have hPW:C.P<W.heap.size:=l_ (TEx.lt HRS.o C.P (.inl rfl)).1 HBW.o.size;have HRow5:=hide (own_notU HRow2.o t5 (λk hk e=>by have e:k=C.P:=e;have:=(World.ownsRow.lt HRow2.o k hk).1;omega));have hNS:((st i).sp.l.map Prod.fst)=((st 0).l.map Prod.fst):=by show ((st i).l.map Prod.fst)=_;rw[HNm.o i n_]
     have HNS:=hide hNS;have HFin:Hid (∀z vI2 vl2 X S2 r2,r2=r->S2=s'->Bl w5 X->RS C X (stR r2) false vl2 lb vL vI2 vO1 S2->(∀v,r2=.val v->z=v)->ExP C w lb vL vO r s' (.returned (.int .i64 z)) X):=λz vI2 vl2 X S2 r2 e1 e2 hX hRX hz=>by
      subst e1 e2;exact exp_fin HBW.o (HT5.o.of_below hX) HO.o hRX hz
     clear hR5 t5 c8 HRi HGc hNS;have hkk:1<=nk/\nk<=9:=kind_good HG;have h4:nk≠4:=h4;have hk6:nk=1∨nk=2∨nk=3∨nk=5∨nk=6∨nk=7:=by omega
     rcases hk6 with rfl|rfl|rfl|rfl|rfl|rfl
     ·have hw:wkN C.t ⟨1,nv,nm⟩ v (st i).sp=(.val nv,(st i).sp):=by simp[wkN]
      have HF:=hide (HFin.o nv vI1 vl1 w5 (st i).sp (.val nv) (by rw[hr,hw]) (by rw[hs,hw]) r_ HR5.o (λv hv=>by cases hv;rfl));clear hr hs hw;go_wp2_with fail;go_ret;exact HF
     ·have hw:wkN C.t ⟨2,nv,nm⟩ v (st i).sp=(.val ((st i).sp.rd C.t nm),(st i).sp):=by simp[wkN]
      have HKv:Hid (nm∈(st i).sp.l.map Prod.fst∨(nm∉(st i).sp.l.map Prod.fst/\0<=globI C.t.globals nm)):=by
       rw[HNS.o];rcases node_var HKn.o rfl with h|⟨h,h0⟩
       ·exact .inl h
       ·exact .inr ⟨h,by show 0<=globI C.t.globals nm;have h0:globI C.t.globals nm=0:=h0;omega⟩
      go_wp2_with fail;refine (find_any nm HR5.o HC.o (by rw[HNS.o];exact HSc.o.1)).mono ?_;rintro x w6 ⟨vv,rfl,hF,hb6⟩;obtain⟨bw,wn,rfl,hn0,hn1,hbl,hcell,-,-⟩:=find_word HR5.o HC.o hF (by rw[HNS.o];exact HSc.o.1) HKv;have hc6:=(hb6.cell (p:=⟨bw,0,none⟩) hbl).trans hcell;have HF:=hide (HFin.o _ vI1 vl1 w6 (st i).sp (.val ((st i).sp.rd C.t nm)) (by rw[hr,hw]) (by rw[hs,hw]) hb6 (HR5.o.below hb6) (λv hv=>by cases hv;rfl));generalize (st i).sp.rd C.t nm=q at hc6 HF;clear hr hs hw hcell hF hb6;go_wp2_with fail;go_ret;exact HF
     ·obtain rfl:i=1:=by have:=HAr.o;simp[arity] at this;omega
      obtain⟨hnn,hgp⟩:=node_arr HKn.o rfl;have hlen:(argL 1 v).length=1:=argL_len 1 v;obtain⟨ab,rfl,rfl,hab1,hab2,ha0⟩:=row_cell HRow5.o 0 o_;have ea:(argL 1 v)[0]' o_=v 0:=by simp[argL]
      rw[ea] at ha0;rw[hlen];have hav:(0:Int)<((1:Nat):Int):=by omega
      go_wp2_with fail;refine (find_any nm HR5.o HC.o (by rw[HNS.o];exact HSc.o.1)).mono ?_;rintro x w6 ⟨vv,rfl,hF,hb6⟩;obtain⟨bw,rfl,hn0,hn1,hbl,hbm,hcs⟩:=find_arr HR5.o HC.o hF (by rw[HNS.o];exact hnn) (by show 0<=globI C.t.globals nm;have hgp:0<globI C.t.globals nm:=hgp;omega);have ha6:=(hb6.cell (p:=⟨ab,0,none⟩) hab2).trans ha0;have hR6:=HR5.o.below hb6;have HR6:=hide hR6;have y8':=(hR6.box 8 _ rfl).1;have z8':=(hR6.box 8 _ rfl).2;clear hR6 hF;have hw1:(0<=v 0/\v 0<((st 1).sp.ws C.t nm).length)->wkN C.t ⟨3,nv,nm⟩ v (st 1).sp=(.val (((st 1).sp.ws C.t nm).getD (v 0).toNat 0),(st 1).sp):=λh=>by simp[wkN,h]
      have hw2 : ¬(0<=v 0/\v 0<((st 1).sp.ws C.t nm).length)->wkN C.t ⟨3,nv,nm⟩ v (st 1).sp=(.out 3,(st 1).sp):=λh=>by
       unfold wkN;rw[if_neg (by simp),if_neg (by simp),if_pos rfl,if_neg h]
      obtain⟨wl,hwl⟩ : ∃wl,wl=((st 1).sp.ws C.t nm).length:=⟨_,rfl⟩;rw[<-hwl] at hn0 hn1 hcs hw1 hw2 ⊢;generalize v 0=v0 at ha6 hw1 hw2 ha0;by_cases hin:0<=v0/\v0<wl
      ·obtain⟨k,rfl⟩ : ∃k:Nat,v0=k:=⟨v0.toNat,by omega⟩;have hkl:k<wl:=by omega
       have hck:=(hb6.cell (p:=⟨bw,k,none⟩) hbl).trans (hcs k hkl).1;have HF:=hide (HFin.o _ vI1 vl1 w6 (st 1).sp (.val (((st 1).sp.ws C.t nm).getD k 0)) (by rw[hr,hw1 hin];simp) (by rw[hs,hw1 hin]) hb6 HR6.o (λv hv=>by cases hv;rfl));have hdec:decide ((0:Int)<=(k:Int)/\(k:Int)<=(wl:Int)-1)=true:=decide_eq_true o_;generalize ((st 1).sp.ws C.t nm).getD k 0=q at hck HF;clear hr hs hw1 hw2 hcs hb6 ha0 hwl;go_wp2_with fail;refine (in_any _ _ _ _).mono ?_;rintro x w7 ⟨rfl,hw7⟩;rw[hw7,hdec];clear hw7;go_wp2_with fail;go_ret;exact HF
      ·have HF:=hide (HFin.o 0 vI1 vl1 (w6.setCell ⟨C.P,8,none⟩ (.int .i64 3)) (st 1).sp (.out 3) (by rw[hr,hw2 hin]) (by rw[hs,hw2 hin]));have HRd:=hide (HR6.o.dry 3);have HFo:=hide (exp_fin (w':=w6.setCell ⟨C.P,8,none⟩ (.int .i64 3)) (z:=0) (r:=.out 3) HBW.o ((HT5.o.of_below hb6).setCell (p:=⟨C.P,8,none⟩) (.inl rfl) _) HO.o HRd.o (λv hv=>by cases hv));have HFr:Hid (r=.out 3/\s'=(st 1).sp):=⟨by rw[hr,hw2 hin],by rw[hs,hw2 hin]⟩;have hdec:decide ((0:Int)<=v0/\v0<=(wl:Int)-1)=false:=decide_eq_false o_;clear hr hs hw1 hw2 hcs hb6 ha0 hwl HF;go_wp2_with fail;refine (in_any _ _ _ _).mono ?_;rintro x w7 ⟨rfl,hw7⟩;rw[hw7,hdec];clear hw7;go_wp2_with fail;go_ret;rw[HFr.o.1,HFr.o.2];exact HFo
     ·obtain rfl:i=0:=by have:=HAr.o;simp[arity] at this;omega
      obtain⟨Ia,Ic,hvI,hIl,hIm,hIc⟩:=HR5.o.inp;have y4:=(HR5.o.box 4 _ rfl).1;have z4:=(HR5.o.box 4 _ rfl).2;subst hvI;cases hin:(st 0).sp.i with
      | nil=>
       have hw:wkN C.t ⟨5,nv,nm⟩ v (st 0).sp=(.val 0,(st 0).sp):=by simp[wkN,hin]
       have HF:=hide (HFin.o 0 _ vl1 w5 (st 0).sp (.val 0) (by rw[hr,hw]) (by rw[hs,hw]) r_ HR5.o (λv hv=>by cases hv;rfl));rw[hin] at y4;simp only[l_n] at y4;clear hr hs hw hIc;go_wp2_with fail;go_ret;exact HF
      | cons q rst=>
       have hw:wkN C.t ⟨5,nv,nm⟩ v (st 0).sp=(.val q,{(st 0).sp with i:=rst}):=by simp[wkN,hin]
       rw[hin] at y4 hIl hIc;have hcut:=icut_run Ia (q::rst).length Ic (by simp) hIl;obtain⟨bI,oI,hIa,hcI⟩:=hIc (by simp);have hq0:w5.cell? ⟨bI,oI,none⟩=some (.int .i64 q):=by
        have h0:=hcI 0 (by simp);simp only[Nat.add_zero,List.getElem_cons_zero] at h0;exact (HR5.o.bel.cell (p:=⟨bI,oI,none⟩) (b_ h0)).trans h0
       have htl:=InN.tail (w0:=C.w0) (a:=Ia) (c:=Ic) (x:=q) (r:=rst) (by have:=HR5.o.inp;rw[hin] at this;exact this);obtain⟨Ta,hTa⟩ : ∃Ta,Ta=(if Ic=1 then Ia else Ia.map (·.add (1*1))):=⟨_,rfl⟩;rw[<-hTa] at hcut htl;have hRn:=HR5.o.boxed (st':=0) (rt':=false) (vl':=vl1) (vI':=.slice Ta rst.length (Ic-1)) (s' := {(st 0).sp with i:=rst}) 4 (.slice Ta rst.length (Ic-1)) rfl rfl rfl rfl htl ⟨HR5.o.ok.g,HR5.o.ok.l,λx hx=>HR5.o.ok.i x (by rw[hin];exact m_ _ hx)⟩ HR5.o.uu HR5.o.nn;have HFo:=hide (exp_fin (w':=w5.setCell ⟨C.P,4,none⟩ (.slice Ta rst.length (Ic-1))) (z:=q) (r:=.val q) HBW.o (HT5.o.setCell (p:=⟨C.P,4,none⟩) (.inl rfl) _) HO.o hRn (λv hv=>by cases hv;rfl));have HFr:Hid (r=.val q/\s' = {(st 0).sp with i:=rst}):=⟨by rw[hr,hw],by rw[hs,hw]⟩;obtain⟨il,hil⟩ : ∃il,il=(q::rst).length:=⟨_,rfl⟩;have hil0:((il:Nat):Int)≠0:=by rw[hil];simp;omega
       have hil1:0<il:=by rw[hil];simp
       have hil2:il-1=rst.length:=by rw[hil];simp
       have hil3:((il:Int) == 0)=false:=by simpa using hil0
       rw[<-hil] at hcut y4;rw[hil2] at hcut;generalize rst.length=rl at hcut HFo;subst hIa;clear hr hs hw hIc hcI htl hRn hIl hil hil2 hTa;go_wp2_with fail;go_ret;rw[HFr.o.1,HFr.o.2];exact HFo
     ·obtain rfl:i=1:=by have:=HAr.o;simp[arity] at this;omega
      have hlen:(argL 1 v).length=1:=argL_len 1 v;obtain⟨ab,rfl,rfl,hab1,hab2,ha0⟩:=row_cell HRow5.o 0 o_;have ea:(argL 1 v)[0]' o_=v 0:=by simp[argL]
      rw[ea] at ha0;rw[hlen];have hw:wkN C.t ⟨6,nv,nm⟩ v (st 1).sp=(.val (unN nv (v 0)),(st 1).sp):=by simp[wkN]
      have hv0:inB (v 0):=(HCh.o 1 n_).2.2 0 o_;have hop:0<=nv/\nv<=2:=by have:=HNB.o;simp[nodeB] at this;omega
      have HUn:=hide (λX=>unS_any nv (v 0) hop.1 hop.2 hv0 X);have HF:=hide (λX hX=>HFin.o (unN nv (v 0)) vI1 vl1 X (st 1).sp (.val (unN nv (v 0))) (by rw[hr,hw]) (by rw[hs,hw]) hX (HR5.o.below hX) (λv hv=>by cases hv;rfl));generalize unN nv (v 0)=q at HUn HF;generalize v 0=v0 at ha0 HUn;clear hr hs hw ea hv0;go_wp2_with fail;go_quiet ((go_at_call 166;exact Calls.quiet_of_same (HUn.o _)))
      go_wp2_with fail;go_ret;exact HF.o _ (below_drewN r_ _)
     ·obtain rfl:i=2:=by have:=HAr.o;simp[arity] at this;omega
      have hlen:(argL 2 v).length=2:=argL_len 2 v;obtain⟨ab,rfl,rfl,hab1,hab2,ha0⟩:=row_cell HRow5.o 0 o_;obtain⟨ab',hab',-,-,-,ha1⟩:=row_cell HRow5.o 1 o_;simp only[Option.some.injEq,Addr.mk.injEq,and_true,true_and] at hab';subst hab';have ea:(argL 2 v)[0]' o_=v 0:=by simp[argL]
      have eb:(argL 2 v)[1]' o_=v 1:=by simp[argL]
      rw[ea] at ha0;rw[eb] at ha1;rw[hlen];have hw:wkN C.t ⟨7,nv,nm⟩ v (st 2).sp=(.val (apN nv (v 0) (v 1)),(st 2).sp):=by simp[wkN]
      have HAp2:=hide (λX=>ap_s nv (v 0) (v 1) X);have HF:=hide (λX hX=>HFin.o (apN nv (v 0) (v 1)) vI1 vl1 X (st 2).sp (.val (apN nv (v 0) (v 1))) (by rw[hr,hw]) (by rw[hs,hw]) hX (HR5.o.below hX) (λv hv=>by cases hv;rfl));generalize apN nv (v 0) (v 1)=q at HAp2 HF;generalize v 0=v0 at ha0 HAp2;generalize v 1=v1 at ha1 HAp2;clear hr hs hw ea eb;go_wp2_with fail;go_quiet ((go_at_call 167;exact Calls.quiet_of_same (HAp2.o _)))
      go_wp2_with fail;go_ret;exact HF.o _ (below_drewN r_ _)
    ·have h4:nk=4:=h4;subst h4;have hfl:f<C.t.funcs.length:=fnum_lt hf;obtain⟨f',hf',hpl⟩:=node_call HKn.o rfl;have hf'':fnum C.t.funcs nm=some f':=hf';have hff:f'=f:=by have hf:fnum C.t.funcs nm=some f:=hf;rw[hf''] at hf;exact Option.some.inj hf
     subst hff;have harl:(argL i v).length=C.t.funcs[f'].params.length:=by
      have:=HAr.o
      simp[arity] at this;rw[argL_len];have e1:C.t.funcs.getD f' ⟨⟨#[]⟩,[],[]⟩=C.t.funcs[f']:=by simp[List.getD,hfl]
      rw[e1] at hpl;have hpl:((C.t.funcs[f'].params.length:Nat):Int)=nv:=hpl;omega
     go_wp2_with fail;refine (spend1 HRi.o hu0 hFb).mono ?_;rintro x w5 ⟨⟨u,rfl⟩,hR5,t5⟩;have HT5:=hide (HT.o.next t5 (λk hk=>.inl (.inl hk)));have HR5:=hide hR5;have y8:=(hR5.box 8 _ rfl).1;have p0:=(hR5.box 0 _ rfl).1;have p1:=(hR5.box 1 _ rfl).1;obtain⟨y0,y1,y2⟩:=HGc.o w5 HT5;have hPW:C.P<W.heap.size:=l_ (TEx.lt HRS.o C.P (.inl rfl)).1 HBW.o.size;have HRow5:=hide (own_notU HRow2.o t5 (λk hk e=>by have e:k=C.P:=e;have:=(World.ownsRow.lt HRow2.o k hk).1;omega));have hNS:((st i).sp.l.map Prod.fst)=((st 0).l.map Prod.fst):=by show ((st i).l.map Prod.fst)=_;rw[HNm.o i n_]
     have hG5:G<w5.heap.size:=b_ y0;have hP5:C.P<w5.heap.size:=hR5.hi.1;have HL3:Hid (∀X,Bl w5 X->Calls prog 32 #[.agg #[C.vg,C.vf],.string nm] X λe w'=>e=.returned (.int .i64 (f':Int))/\Bl X w'):=λX hX=>by
      have hbX:Bl C.w0 X:=HR5.o.bel.trans (hX.mono HR5.o.bel.size);have:=l3func_any C.t.funcs C.vg C.vf nm X (by have:=HC.o.sm.2;omega) (HC.o.fs.below hbX)
      rw[fnumI_some hf''] at this;exact this
     have HCa:Hid (∀X,Bl w5 X->Calls prog 31 #[.pointer (some ⟨C.P,0,none⟩),.int .i64 (f':Int),.slice ava avn avc] X λx w'=>ExP C X lb vL vO1 r s' x w'):=λX hX=>by
      refine HIC.o f' (argL i v) (st i).sp r s' hEc (by rw[hNS];exact HSc) (λ_=>harl) (λx hx => ?_) (by have h1:=HRi.o.nn.2.1;have h2:=sp_u hu0;have h3:(st i).sp.n=(st i).n:=rfl;rw[h3];omega) X vl1 lb vL vI1 vO1 (.slice ava avn avc) W.heap.size (HR5.o.below hX) ⟨ownB HRow5.o hX,λk hk => ?_⟩
      ·obtain⟨k,hk,rfl⟩:=List.mem_map.1 hx;exact (HCh.o i n_).2.2 k (List.mem_range.1 hk)
      ·have h1:=(World.ownsRow.lt HRow5.o k hk).1;have h2:=HRW.o.hi;refine⟨by omega,λhm => ?_,λe => ?_,HAp.o k hk⟩
       ·have:=(HRW.o.rng k hm).2;omega
       ·have:=(World.ownsRow.lt HRW.o.lrow k e).2;omega
     have HFin:Hid (∀X x w',Bl w5 X->ExP C X lb vL vO1 r s' x w'->ExP C w lb vL vO r s' x w'):=λX x w' hX hE=>by
      obtain⟨z,vI3,vO3,vl3,rfl,hz,hR3,t3,o3⟩:=hE;have hXs:=(HT5.o.of_below hX).size;refine exp_fin HBW.o ((HT5.o.of_below hX).next t3 (λk hk => ?_)) (λk hk => ?_) hR3 hz
      ·rcases hk with rfl|hk|hk
       ·exact .inl (.inl rfl)
       ·exact .inl (.inr (.inl hk))
       ·exact (HO.o k hk).imp (λh=>.inr (.inr h)) id
      ·rcases o3 k hk with h3|h3
       ·exact HO.o k h3
       ·exact .inr o_
     have HGn:Hid (¬TEx C vO1 G):=λhT=>by
      rcases hT with h|h|h
      ·have:=HTl.o G (.inl h);omega
      ·have:=HTl.o G (.inr (.inl h));omega
      ·rcases HO.o G h with h|h
       ·have:=HTl.o G (.inr (.inr h));omega
       ·omega
     clear hR5 t5 c8 HRi HGc hNS HIC harl hpl hf' hf hf'' hEc;go_wp2_with fail;go_region_held (λX=>X.cell? ⟨C.P,0,none⟩=some C.vg/\X.cell? ⟨C.P,1,none⟩=some C.vf/\X.cell? ⟨G,2,none⟩=some (.string nm)) (go_keep)
      (first
      | ((with_reducible refine Calls.mono (HL3.o _ (r_.drew)) ?_);intro x w6 hx;obtain⟨hxe,hb6⟩:=hx;subst hxe;have hB6:Bl w5 w6:=r_.drew.trans hb6;have q:=And.intro ((hB6.cell (p:=⟨C.P,0,none⟩) hP5).trans p0) (And.intro ((hB6.cell (p:=⟨C.P,1,none⟩) hP5).trans p1) ((hB6.cell (p:=⟨G,2,none⟩) hG5).trans y2)))
      | ((with_reducible refine Calls.mono (HCa.o w6 hB6) ?_);intro x w7 hx;have HXx:=hide hx;obtain⟨z7,vI7,vO7,vl7,hx7,-,hR7,t7,-⟩:=hx;subst hx7;have q7:=And.intro (hR7.box 0 _ rfl).1 (And.intro (hR7.box 1 _ rfl).1 ((c_ (a:=⟨G,2,none⟩) (t7.block G (l_ hG5 hB6.size) HGn)).trans q.2.2))))
     have HFF:=hide (HFin.o w6 _ w7 hB6 HXx);clear q q7 hR7 t7 HXx hB6 hb6;go_wp2_with fail;go_ret;exact HFF
  ·have HRc:=hide hRc;have hcn:=HOut.o c hrc;have c8:=(hRc.box 8 _ rfl).1;have hcn':(c == 0)=false:=by simpa using hcn
   have HFin:Hid (ExP C w lb vL vO r s' (.returned (.int .i64 0)) wr):=exp_fin HBW.o HT.o HO.o (by rw[hrc];exact hRc) (λv hv=>by rw[hrc] at hv;cases hv);clear hRc hrc;by_cases hlt:(i:Int)<(A:Int)
   ·go_wp2_with fail;refine (spendD HRc.o hcn).mono ?_;rintro x w5 ⟨⟨u,rfl⟩,hw5⟩;rw[hw5];clear hw5;go_wp2_with fail;go_ret;exact HFin
   ·go_wp2_with fail;refine (spendD HRc.o hcn).mono ?_;rintro x w5 ⟨⟨u,rfl⟩,hw5⟩;rw[hw5];clear hw5;go_wp2_with fail;go_ret;exact HFin
section
variable {C:RC} {lb:List Nat} {w w3:World} {c vl v:Int} {rt:Bool} {vL vI vO:Value} {s s':ES}
theorem RS.gK (k:Nat) (hk:k<C.gb.length):C.gb[k]∈C.K lb:=by unfold RC.K;exact m_ _ (m_ _ (List.mem_append_left _ (g_ hk)))
theorem RS.lK (k:Nat) (hk:k<lb.length):lb[k]∈C.K lb:=by unfold RC.K;exact m_ _ (m_ _ (List.mem_append_right _ (g_ hk)))
theorem RC.memP :C.P∈C.K lb:=by simp[RC.K]
theorem RC.memG :C.bG∈C.K lb:=by simp[RC.K]
theorem RS.newO {vO':Value} (h:RS C w c rt vl lb vL vI vO s) (ht:Tcs (λk=>vO.ownBlock=some k) w w3) (hrow:w3.ownsRow C.w0.heap.size 2 1 vO' s'.o.length (s'.o.map (Value.int .i64)))
  (hown : ∀k,vO'.ownBlock=some k->vO.ownBlock=some k∨w.heap.size<=k) (hs:s' = {s with o:=s.o++[v]}) (hu:(s'.o.length:Int)+s'.u<=C.F) :
  RS C (w3.setCell ⟨C.P,5,none⟩ vO') c rt vl lb vL vI vO' s':=by
 obtain⟨p1,p2,p3,p4⟩:=h.hi;have hP3:C.P<w3.heap.size:=l_ p1 ht.size;have hnP : ¬vO.ownBlock=some C.P:=λe=>(h.oo _ e).1 RC.memP;have t2:Tcs (λk=>k=C.P) w3 (w3.setCell ⟨C.P,5,none⟩ vO'):=(Tcs.refl (λk=>k=C.P) w3).setCell (p:=⟨C.P,5,none⟩) rfl _;have t4:Tcs (λk=>vO.ownBlock=some k∨k=C.P) w (w3.setCell ⟨C.P,5,none⟩ vO'):=(ht.mono (λk hk=>.inl hk)).next t2 (λk hk=>.inl (.inr hk));have hnd:=h.nd;unfold RC.K at hnd;obtain⟨n1,n2⟩:=List.nodup_cons.1 hnd;have hG : ¬(vO.ownBlock=some C.bG∨C.bG=C.P):=λe=>e.elim (λe=>(h.oo _ e).1 RC.memG) (λe=>n1 (e ▸ List.mem_cons_self ..));have hgb : ∀k (hk:k<C.gb.length),¬(vO.ownBlock=some C.gb[k]∨C.gb[k]=C.P):=λk hk e=>e.elim (λe=>(h.oo _ e).1 (RS.gK k hk)) (λe=>n1 (e ▸ m_ _ (List.mem_append_left _ (g_ hk))));have hlb : ∀k (hk:k<lb.length),¬(vO.ownBlock=some lb[k]∨lb[k]=C.P):=λk hk e=>e.elim (λe=>(h.oo _ e).1 (RS.lK k hk)) (λe=>n1 (e ▸ m_ _ (List.mem_append_right _ (g_ hk))));have hc : ∀o,(w3.setCell ⟨C.P,5,none⟩ vO').cell? ⟨C.bG,o,none⟩=w.cell? ⟨C.bG,o,none⟩:=λo=>c_ (t4.block C.bG p2 hG);have hbx:=(h.box.tcs p1 ht hnP).set 5 vO';have hnO : ∀k,vO'.ownBlock=some k->k∉C.K lb/\vL.ownBlock≠some k:=λk hk=>by
  rcases hown k hk with h1|h1
  ·exact h.oo k h1
  ·exact⟨λhm=>by have:=(h.rng k hm).2;omega,λe=>by have:=(World.ownsRow.lt h.lrow k e).2;omega⟩
 have ho3:=hrow;subst hs;refine⟨t4.below h.bel h.bel.size (λk hk => ?_),hbx,λk h1 h2=>⟨(hc _).trans (h.grow k h1 h2).1,(hc _).trans (h.grow k h1 h2).2⟩,h.gl,λk h1=>(h.gw k h1).tcs (h.rng _ (RS.gK k h1)).2 t4 (hgb k h1),h.g1,h.ll,own_notU h.lrow t4 (λk hk hs => ?_),λj h1 h2=>(h.lw j h1 h2).tcs (h.rng _ (RS.lK j h1)).2 t4 (hlb j h1),h.inp,own_notU ho3 t2 (λk hk hs=>(hnO k hk).1 (by have e:k=C.P:=hs;rw[e];exact RC.memP)),h.nd,λk hk=>⟨(h.rng k hk).1,l_ (h.rng k hk).2 t4.size⟩,h.lo,hnO,⟨h.ok.g,h.ok.l,h.ok.i⟩,⟨h.uu.1,hu⟩,h.lm,h.nn⟩
 ·rcases hk with hk|hk
  ·exact (World.ownsRow.lt h.out k hk).1
  ·omega
 ·rcases hs with hs|hs
  ·exact (h.oo k hs).2 hk
  ·exact h.lo k hk (by rw[hs];exact RC.memP)
theorem RS.newL {w1:World} {vL':Value} {x:ByteArray} {b:Nat} (h:RS C w c rt vl lb vL vI vO s) (hb1:Below w.heap.size w w1) (hb:w.heap.size<=b/\b<w1.heap.size) (hw:FrC w1 b [.int .i64 v]) (ht:Tcs (λk=>vL.ownBlock=some k) w1 w3)
  (hrow:w3.ownsRow C.w0.heap.size 65 2 vL' (s.l.length+1) (flatV s.l lb++lcl (x,v) b))
  (hown : ∀k,vL'.ownBlock=some k->vL.ownBlock=some k∨w1.heap.size<=k) (hs:s' = {s with l:=s.l++[(x,v)]}) (hlm:s.l.length+1<=200000) (hv:inB v) :
  RS C (w3.setCell ⟨C.P,3,none⟩ vL') c rt vl (lb++[b]) vL' vI vO s':=by
 obtain⟨p1,p2,p3,p4⟩:=h.hi;have h1s:=hb1.size;have hP1:C.P<w1.heap.size:=by omega
 have hP3:C.P<w3.heap.size:=l_ hP1 ht.size;have hA:=h.below hb1;have hnP : ¬vL.ownBlock=some C.P:=λe=>h.lo _ e RC.memP;have t2:Tcs (λk=>k=C.P) w3 (w3.setCell ⟨C.P,3,none⟩ vL'):=(Tcs.refl (λk=>k=C.P) w3).setCell (p:=⟨C.P,3,none⟩) rfl _;have t4:Tcs (λk=>vL.ownBlock=some k∨k=C.P) w1 (w3.setCell ⟨C.P,3,none⟩ vL'):=(ht.mono (λk hk=>.inl hk)).next t2 (λk hk=>.inl (.inr hk));have hnd:=h.nd;unfold RC.K at hnd;obtain⟨n1,n2⟩:=List.nodup_cons.1 hnd;have hG : ¬(vL.ownBlock=some C.bG∨C.bG=C.P):=λe=>e.elim (λe=>h.lo _ e RC.memG) (λe=>n1 (e ▸ List.mem_cons_self ..));have hgb : ∀k (hk:k<C.gb.length),¬(vL.ownBlock=some C.gb[k]∨C.gb[k]=C.P):=λk hk e=>e.elim (λe=>h.lo _ e (RS.gK k hk)) (λe=>n1 (e ▸ m_ _ (List.mem_append_left _ (g_ hk))));have hlb : ∀k (hk:k<lb.length),¬(vL.ownBlock=some lb[k]∨lb[k]=C.P):=λk hk e=>e.elim (λe=>h.lo _ e (RS.lK k hk)) (λe=>n1 (e ▸ m_ _ (List.mem_append_right _ (g_ hk))));have hbn : ¬(vL.ownBlock=some b∨b=C.P):=λe=>e.elim (λe=>by have:=(World.ownsRow.lt h.lrow _ e).2;omega) (λe=>by omega);have hc : ∀o,(w3.setCell ⟨C.P,3,none⟩ vL').cell? ⟨C.bG,o,none⟩=w1.cell? ⟨C.bG,o,none⟩:=λo=>c_ (t4.block C.bG o_ hG);have hbx:=(hA.box.tcs hP1 ht hnP).set 3 vL';have hKm : ∀k,k∈C.K (lb++[b])↔k∈C.K lb∨k=b:=λk=>by unfold RC.K;simp[or_assoc]
 have hnL : ∀k,vL'.ownBlock=some k->k∉C.K (lb++[b]):=λk hk hm=>by
  rcases (hKm k).1 hm with hm|rfl
  ·rcases hown k hk with h1|h1
   ·exact h.lo k h1 hm
   ·have:=(h.rng k hm).2;omega
  ·rcases hown k hk with h1|h1
   ·exact hbn (.inl h1)
   ·omega
 subst hs;refine⟨t4.below hA.bel hA.bel.size (λk hk => ?_),hbx,λk h1 h2=>⟨(hc _).trans (hA.grow k h1 h2).1,(hc _).trans (hA.grow k h1 h2).2⟩,h.gl,λk h1=>(hA.gw k h1).tcs (hA.rng _ (RS.gK k h1)).2 t4 (hgb k h1),h.g1,by simp[h.ll],?_,λj h1 h2 => ?_,h.inp,own_notU hA.out t4 (λk hk hs => ?_),?_,λk hk => ?_,hnL,λk hk=>⟨λhm => ?_,λe => ?_⟩,⟨h.ok.g,?_,h.ok.i⟩,h.uu,?_,h.nn⟩
 ·rcases hk with hk|hk
  ·exact (World.ownsRow.lt h.lrow k hk).1
  ·omega
 ·have e1:flatV (s.l++[(x,v)]) (lb++[b])=flatV s.l lb++lcl (x,v) b:=flatV_snoc h.ll (x,v) b;show World.ownsRow _ _ _ _ _ (s.l++[(x,v)]).length (flatV (s.l++[(x,v)]) (lb++[b]));rw[e1,l_a,List.length_singleton];exact own_notU hrow t2 (λk hk hs=>hnL k hk (by have e:k=C.P:=hs;rw[e];exact RC.memP))
 ·have h2:j<(s.l++[(x,v)]).length:=h2;have hll:=h.ll;show FrC _ ((lb++[b])[j]) [.int .i64 ((s.l++[(x,v)])[j]).2];by_cases e:j<lb.length
  ·have ej:(lb++[b])[j]=lb[j]:=List.getElem_append_left e;have el:(s.l++[(x,v)])[j]=s.l[j]' o_:=List.getElem_append_left o_;rw[ej,el];exact (hA.lw j e o_).tcs (hA.rng _ (RS.lK j e)).2 t4 (hlb j e)
  ·have hj:j=lb.length:=by simp at h1;omega
   subst hj;have ej:(lb++[b])[lb.length]=b:=by simp
   have el:(s.l++[(x,v)])[lb.length]=(x,v):=by simp[hll]
   rw[ej,el];exact hw.tcs hb.2 t4 hbn
 ·rcases hs with hs|hs
  ·exact (h.oo k hk).2 hs
  ·exact (h.oo k hk).1 (by rw[hs];exact RC.memP)
 ·have hbK:b∉C.K lb:=λhm=>by have:=(h.rng b hm).2;omega
  have e:C.K (lb++[b])=C.K lb++[b]:=by simp[RC.K]
  rw[e];exact List.nodup_append.2 ⟨h.nd,by simp,λy hy z hz e2=>by simp at hz;subst hz;subst e2;exact hbK hy⟩
 ·rcases (hKm k).1 hk with hm|rfl
  ·exact⟨(h.rng k hm).1,l_ (hA.rng k hm).2 t4.size⟩
  ·exact⟨by have:=h.bel.size;omega,l_ hb.2 t4.size⟩
 ·rcases (hKm k).1 hm with hm|rfl
  ·exact (h.oo k hk).1 hm
  ·have:=(World.ownsRow.lt h.out _ hk).2;omega
 ·rcases hown k e with h1|h1
  ·exact (h.oo k hk).2 h1
  ·have:=(World.ownsRow.lt h.out _ hk).2;omega
 ·intro y hy;rcases List.mem_append.1 hy with hy|hy
  ·exact h.ok.l y hy
  ·simp at hy;subst hy;exact hv
 ·show (s.l++[(x,v)]).length<=_;simp;omega
theorem tell_run (v:Int) (h:RS C w c rt vl lb vL vI vO s) (hu:(s.o.length:Int)+s.u+1<=C.F) (hF:C.F<=100000) :
  ∃va vn vc w3,(Builtin.append_ #[26,26] 26 #[vO,.slice (some ⟨w.heap.size,0,none⟩) 1 1]).run prog (w.alloc (.cells #[.int .i64 v] 2))=.ok (.slice va vn vc) w3/\RS C (w3.setCell ⟨C.P,5,none⟩ (.slice va vn vc)) c rt vl lb vL vI (.slice va vn vc) {s with o:=s.o++[v]}/\(w3.cell? ⟨C.P,5,none⟩=some vO/\w3.frozen? ⟨C.P,5,none⟩=false)/\Tcs (TEx C vO) w (w3.setCell ⟨C.P,5,none⟩ (.slice va vn vc))/\∀k,(Value.slice va vn vc).ownBlock=some k->vO.ownBlock=some k∨w.heap.size<=k:=by
 obtain⟨i0,hi,hz0,hz1,hz2⟩:=info_parts info_i64U;have hb0:Bl w (w.alloc (.cells #[.int .i64 v] 2)):=bel_a _ _;have h':=ownB h.out hb0;have hlit:(w.alloc (.cells #[.int .i64 v] 2)).ownsRow w.heap.size 2 1 (.slice (some ⟨w.heap.size,0,none⟩) 1 1) 1 [.int .i64 v]:=World.ownsRow_lit w #[.int .i64 v] 1 n_ (by decide) rfl;obtain⟨v',w',r1,r2,r3,r4⟩:=run_appG (P:=prog) (w:=w.alloc (.cells #[.int .i64 v] 2)) C.w0.heap.size 26 26 2 i0 _ 1 8 underlying26 hi hz0 hz1 hz2 rfl (by decide) vO _ _ h' (some ⟨w.heap.size,0,none⟩) 1 1 [.int .i64 v] (λe=>by cases e) rfl (λad had k u hu=>by cases had;exact World.ownsRow.cells hlit (g:=w.heap.size) rfl k u hu) (λu hu=>by simp at hu;subst hu;rfl) o_ (by decide) (by have:=h.bel.size;have:=hb0.size;omega);obtain⟨va,vc,rfl,-⟩:=own_shapeU r2;have t3:Tcs (λk=>vO.ownBlock=some k) (w.alloc (.cells #[.int .i64 v] 2)) w':=Tcs.of_grown r3 (λk hk=>hk);have hRa:=h.below hb0;have hP:=hRa.hi.1;have hnP : ¬vO.ownBlock=some C.P:=λe=>(h.oo _ e).1 RC.memP;have ho : ∀k,(Value.slice va (s.o.length+1) vc).ownBlock=some k->vO.ownBlock=some k∨w.heap.size<=k:=λk hk=>(r4 k hk).imp_right (λh1=>by have:=hb0.size;omega);refine⟨va,_,vc,w',r1,?_,hRa.box.tcs hP t3 hnP 5 _ rfl,?_,ho⟩
 ·refine hRa.newO t3 ?_ r4 rfl ?_
  ·show World.ownsRow _ _ _ _ _ (s.o++[v]).length ((s.o++[v]).map _);rw[l_a,List.map_append];exact r2
  ·show (((s.o++[v]).length:Nat):Int)+(s.u:Int)<=_;simp
   omega
 ·refine ((hb0.tcs (S:=TEx C vO)).next t3 (λk hk=>.inl (.inr (.inr hk)))).setCell (p:=⟨C.P,5,none⟩) (.inl rfl) _
theorem info_var:(prog.info? 65).map (λi=>(i.zero,i.size,i.bytes))=some (some (.agg #[.string ⟨#[]⟩,.slice none 0 0]),2,40):=by kernel_rfl
theorem decl_run {W:World} (x:ByteArray) (v:Int) (h:RS C w c rt vl lb vL vI vO s) (hW:W=(w.alloc (.cells #[.int .i64 v] 2)).alloc (.cells #[.string x,.slice (some ⟨w.heap.size,0,none⟩) 1 1] 65)) (hl:s.l.length+1<=200000) (hv:inB v) :
  ∃va vn vc w3,(Builtin.append_ #[59,59] 59 #[vL,.slice (some ⟨w.heap.size+1,0,none⟩) 1 1]).run prog W=.ok (.slice va vn vc) w3/\RS C (w3.setCell ⟨C.P,3,none⟩ (.slice va vn vc)) c rt vl (lb++[w.heap.size]) (.slice va vn vc) vI vO {s with l:=s.l++[(x,v)]}/\(w3.cell? ⟨C.P,3,none⟩=some vL/\w3.frozen? ⟨C.P,3,none⟩=false)/\Tcs (λk=>k=C.P∨vL.ownBlock=some k) W w3/\Tcs (TSx C lb vL vO) w (w3.setCell ⟨C.P,3,none⟩ (.slice va vn vc))/\∀k,(Value.slice va vn vc).ownBlock=some k->vL.ownBlock=some k∨w.heap.size<=k:=by
 obtain⟨i0,hi,hz0,hz1,hz2⟩:=info_parts info_var;have hb0:Bl w (w.alloc (.cells #[.int .i64 v] 2)):=bel_a _ _;have hb1:Bl w W:=by rw[hW];exact hb0.alloc hb0.size _
 have hz:(w.alloc (.cells #[.int .i64 v] 2)).heap.size=w.heap.size+1:=World.size_alloc ..;have hzW:W.heap.size=w.heap.size+2:=by rw[hW,World.size_alloc,World.size_alloc]
 have hfr:FrC W w.heap.size [.int .i64 v]:=by
  rw[hW];exact (box_fr w #[.int .i64 v] 2 (by show 1<=1000;omega)).below (bel_a _ _)
 have h':=ownB h.lrow hb1;have hlit:W.ownsRow (w.heap.size+1) 65 2 (.slice (some ⟨w.heap.size+1,0,none⟩) 1 1) 1 [.string x,.slice (some ⟨w.heap.size,0,none⟩) 1 1]:=by
  have:=World.ownsRow_lit (e:=65) (size:=2) (w.alloc (.cells #[.int .i64 v] 2)) #[.string x,.slice (some ⟨w.heap.size,0,none⟩) 1 1] 1 n_ (by decide) rfl
  rw[hz] at this;rw[hW];exact this
 obtain⟨v',w',r1,r2,r3,r4⟩:=run_appG (P:=prog) (w:=W) C.w0.heap.size 59 59 65 i0 _ 2 40 underlying59 hi hz0 hz1 hz2 rfl (by decide) vL _ _ h' (some ⟨w.heap.size+1,0,none⟩) 1 1 [.string x,.slice (some ⟨w.heap.size,0,none⟩) 1 1] (λe=>by cases e) rfl (λad had k u hu=>by cases had;exact World.ownsRow.cells hlit (g:=w.heap.size+1) rfl k u hu) (λu hu=>by simp at hu;rcases hu with rfl|rfl <;> rfl) o_ (by decide) (by have:=h.bel.size;omega);obtain⟨va,vc,rfl,-⟩:=own_shapeU r2;have t3:Tcs (λk=>vL.ownBlock=some k) W w':=Tcs.of_grown r3 (λk hk=>hk);have hRa:=h.below hb1;have hP:=hRa.hi.1;have hnP : ¬vL.ownBlock=some C.P:=λe=>h.lo _ e RC.memP;refine⟨va,_,vc,w',r1,?_,hRa.box.tcs hP t3 hnP 3 _ rfl,t3.mono (λk hk=>.inr hk),?_,λk hk=>(r4 k hk).imp_right (λh1=>by omega)⟩
 ·exact h.newL hb1 ⟨n_,by omega⟩ hfr t3 r2 r4 rfl hl hv
 ·exact ((hb1.tcs (S:=TSx C lb vL vO)).next t3 (λk hk=>.inl (.inr (.inr hk)))).setCell (p:=⟨C.P,3,none⟩) (.inl (.inl rfl)) _
end
section
variable {gs:List Gl} {gb:List Nat} {w1 w W:World} {P:Nat} {vG:Value}
def gcl (g:Gl) (b:Nat):List Value:=[.string g.name,.slice (some ⟨b,0,none⟩) (gln g) (gln g)]
def gflat (gs:List Gl) (gb:List Nat):List Value:=(gs.zip gb).flatMap (λx=>gcl x.1 x.2)
theorem gflat_snoc (h:gb.length=gs.length) (g:Gl) (b:Nat):gflat (gs++[g]) (gb++[b])=gflat gs gb++gcl g b:=by
 unfold gflat;rw[List.zip_append o_,List.flatMap_append];simp
theorem gflat_get : ∀(l:List Gl) (lb:List Nat) (h:lb.length=l.length) (j i:Nat) (hj:j<l.length),i<2->(gflat l lb)[j*2+i]? = (gcl l[j] (lb[j]' o_))[i]?
 | x::l,b::lb,h,0,i,_,hi=>by
  have h2:(gcl x b).length=2:=rfl;have e:gflat (x::l) (b::lb)=gcl x b++gflat l lb:=by simp[gflat]
  rw[e,List.getElem?_append_left o_];simp
 | x::l,b::lb,h,j+1,i,hj,hi=>by
  have h2:(gcl x b).length=2:=rfl;have e:gflat (x::l) (b::lb)=gcl x b++gflat l lb:=by simp[gflat]
  rw[e,List.getElem?_append_right o_];have e2:(j+1)*2+i-(gcl x b).length=j*2+i:=by omega
  rw[e2,gflat_get l lb (by simpa using h) j i (by simpa using hj) hi];simp
theorem gflat_len (h:gb.length=gs.length):(gflat gs gb).length=gs.length*2:=by
 induction gs generalizing gb with
 | nil=>simp[gflat]
 | cons x r ih=>
  cases gb with
  | nil=>simp at h
  | cons b q=>
   have:=ih (gb:=q) (by simpa using h)
   have e:gflat (x::r) (b::q)=gcl x b++gflat r q:=by simp[gflat]
   rw[e,l_a,this];simp[gcl];omega
structure GI (w1:World) (P:Nat) (gs:List Gl) (wr:World) (vG:Value) (gb:List Nat):Prop where
 ll:gb.length=gs.length
 row:wr.ownsRow w1.heap.size 65 2 vG gs.length (gflat gs gb)
 lw : ∀j (hj:j<gb.length) (hl:j<gs.length),FrC wr gb[j] (zer (gln gs[j]))
 nd:gb.Nodup
 rng : ∀b∈gb,w1.heap.size<=b/\b<wr.heap.size
 lo : ∀k,vG.ownBlock=some k->k∉gb
 tc:Tcs (λk=>k=P) w1 wr
theorem GI.start :GI w1 P [] w1 (.slice none 0 0) []:=⟨rfl,World.ownsRow_nil _ _ _ _,(λj hj=>by simp at hj),List.nodup_nil,(λb hb=>by simp at hb),(λk hk=>by cases hk),Tcs.refl _ _⟩
theorem GI.more {w3:World} {vG':Value} {g:Gl} {b:Nat} (h:GI w1 P gs w vG gb) (hP:P<w1.heap.size) (hb1:Below w.heap.size w W) (hb:w.heap.size<=b/\b<W.heap.size) (hw:FrC W b (zer (gln g))) (ht:Tcs (λk=>vG.ownBlock=some k) W w3)
  (hrow:w3.ownsRow w1.heap.size 65 2 vG' (gs.length+1) (gflat gs gb++gcl g b)) (hown : ∀k,vG'.ownBlock=some k->vG.ownBlock=some k∨W.heap.size<=k):GI w1 P (gs++[g]) (w3.setCell ⟨P,2,none⟩ vG') vG' (gb++[b]):=by
 have hs1:=h.tc.size;have hsW:=hb1.size;have hs3:=ht.size;have t2:Tcs (λk=>k=P) w3 (w3.setCell ⟨P,2,none⟩ vG'):=(Tcs.refl (λk=>k=P) w3).setCell (p:=⟨P,2,none⟩) rfl _;have t4:Tcs (λk=>vG.ownBlock=some k∨k=P) W (w3.setCell ⟨P,2,none⟩ vG'):=(ht.mono (λk hk=>.inl hk)).next t2 (λk hk=>.inl (.inr hk));have hlt:=λk (hk:vG.ownBlock=some k)=>World.ownsRow.lt h.row k hk;have hgbn : ∀k (hk:k<gb.length),¬(vG.ownBlock=some gb[k]∨gb[k]=P):=λk hk e=>e.elim (λe=>h.lo _ e (g_ hk)) (λe=>by have:=(h.rng _ (g_ hk)).1;omega);have hbn : ¬(vG.ownBlock=some b∨b=P):=λe=>e.elim (λe=>by have:=(hlt _ e).2;omega) (λe=>by omega);have hvP : ∀k,vG'.ownBlock=some k->k≠P:=λk hk e=>by
  rcases hown k hk with h1|h1
  ·have:=(hlt k h1).1;omega
  ·omega
 refine⟨by simp[h.ll],?_,λj h1 h2 => ?_,?_,λk hk => ?_,λk hk hm => ?_,?_⟩
 ·rw[gflat_snoc h.ll,l_a,List.length_singleton];exact own_notU hrow t2 (λk hk hs=>hvP k hk hs)
 ·have hll:=h.ll;by_cases e:j<gb.length
  ·have ej:(gb++[b])[j]=gb[j]:=List.getElem_append_left e;have el:(gs++[g])[j]=gs[j]' o_:=List.getElem_append_left o_;rw[ej,el];exact ((h.lw j e o_).below hb1).tcs (l_ (h.rng _ (g_ e)).2 hsW) t4 (hgbn j e)
  ·have hj:j=gb.length:=by simp at h1;omega
   subst hj;have ej:(gb++[b])[gb.length]=b:=by simp
   have el:(gs++[g])[gb.length]=g:=by simp[hll]
   rw[ej,el];exact hw.tcs hb.2 t4 hbn
 ·exact List.nodup_append.2 ⟨h.nd,by simp,λy hy z hz e2=>by simp at hz;subst hz;subst e2;have:=(h.rng _ hy).2;omega⟩
 ·have hsz:=t4.size;rcases List.mem_append.1 hk with hk|hk
  ·have:=h.rng k hk;exact⟨this.1,by omega⟩
  ·simp at hk;subst hk;exact⟨by omega,by omega⟩
 ·rcases List.mem_append.1 hm with hm|hm
  ·rcases hown k hk with h1|h1
   ·exact h.lo k h1 hm
   ·have:=(h.rng k hm).2;omega
  ·simp at hm;subst hm;rcases hown k hk with h1|h1
   ·exact hbn (.inl h1)
   ·omega
 ·refine ((h.tc.of_below hb1).next ht (λk hk=>.inr ?_)).setCell (p:=⟨P,2,none⟩) rfl _;exact (hlt k hk).1
theorem glob_run (g:Gl) (h:GI w1 P gs w vG gb) (hP:P<w1.heap.size) (hg:gln g<=10000) (hgl:gs.length<=1000) (hW:W=(w.alloc (.cells (Array.replicate (gln g) (.int .i64 0)) 2)).alloc (.cells #[.string g.name,.slice (some ⟨w.heap.size,0,none⟩) (gln g) (gln g)] 65)) :
  ∃va vn vc w3,(Builtin.append_ #[59,59] 59 #[vG,.slice (some ⟨w.heap.size+1,0,none⟩) 1 1]).run prog W=.ok (.slice va vn vc) w3/\GI w1 P (gs++[g]) (w3.setCell ⟨P,2,none⟩ (.slice va vn vc)) (.slice va vn vc) (gb++[w.heap.size])/\Tcs (λk=>vG.ownBlock=some k) W w3/\vn=gs.length+1:=by
 obtain⟨i0,hi,hz0,hz1,hz2⟩:=info_parts info_var;have hb0:Bl w (w.alloc (.cells (Array.replicate (gln g) (.int .i64 0)) 2)):=bel_a _ _;have hb1:Bl w W:=by rw[hW];exact hb0.alloc hb0.size _
 have hz:(w.alloc (.cells (Array.replicate (gln g) (.int .i64 0)) 2)).heap.size=w.heap.size+1:=World.size_alloc ..;have hzW:W.heap.size=w.heap.size+2:=by rw[hW,World.size_alloc,World.size_alloc]
 have hfr:FrC W w.heap.size (zer (gln g)):=by
  have:=(box_frB w (Array.replicate (gln g) (.int .i64 0)) 2 (by simp;omega)).below (w':=W) (by rw[hW];exact bel_a _ _)
  simpa[zer] using this
 have h':=ownB h.row hb1;have hlit:W.ownsRow (w.heap.size+1) 65 2 (.slice (some ⟨w.heap.size+1,0,none⟩) 1 1) 1 [.string g.name,.slice (some ⟨w.heap.size,0,none⟩) (gln g) (gln g)]:=by
  have:=World.ownsRow_lit (e:=65) (size:=2) (w.alloc (.cells (Array.replicate (gln g) (.int .i64 0)) 2)) #[.string g.name,.slice (some ⟨w.heap.size,0,none⟩) (gln g) (gln g)] 1 n_ (by decide) rfl
  rw[hz] at this;rw[hW];exact this
 have hsz:=h.tc.size;obtain⟨v',w',r1,r2,r3,r4⟩:=run_appG (P:=prog) (w:=W) w1.heap.size 59 59 65 i0 _ 2 40 underlying59 hi hz0 hz1 hz2 rfl (by decide) vG _ _ h' (some ⟨w.heap.size+1,0,none⟩) 1 1 [.string g.name,.slice (some ⟨w.heap.size,0,none⟩) (gln g) (gln g)] (λe=>by cases e) rfl (λad had k u hu=>by cases had;exact World.ownsRow.cells hlit (g:=w.heap.size+1) rfl k u hu) (λu hu=>by simp at hu;rcases hu with rfl|rfl <;> rfl) o_ (by decide) o_;obtain⟨va,vc,rfl,-⟩:=own_shapeU r2;have t3:Tcs (λk=>vG.ownBlock=some k) W w':=Tcs.of_grown r3 (λk hk=>hk);exact⟨va,_,vc,w',r1,h.more hP hb1 ⟨n_,by omega⟩ hfr t3 r2 r4,t3,rfl⟩
end
theorem ev_sides {t:Tr} {fr:List Int} {n:Nat} {e:List Nd} {s:ES} {r:ER} {s':ES} (h:Ev t fr (n+1) (.e e) s r s') (hk:(rootN e).kind=8∨(rootN e).kind=9) : ∃b,Cut e 2 b /\
  ((∃c,r=.out c/\Ev t fr n (.e (kid e b 0)) s (.out c) s')∨(∃x,r=.out 2/\Ev t fr n (.e (kid e b 0)) s (.val x) s'/\s'.u=0) ∨
  (∃x s1,((rootN e).kind=8/\x=0∨(rootN e).kind=9/\x≠0)/\r=.val (boolN (decide (x≠0)))/\s'=s1.sp/\Ev t fr n (.e (kid e b 0)) s (.val x) s1/\0<s1.u) ∨
  (∃x s1,((rootN e).kind=8/\x≠0∨(rootN e).kind=9/\x=0)/\Ev t fr n (.e (kid e b 0)) s (.val x) s1/\0<s1.u/\((∃c,r=.out c/\Ev t fr n (.e (kid e b 1)) s1.sp (.out c) s')∨(∃y,r=.out 2/\Ev t fr n (.e (kid e b 1)) s1.sp (.val y) s'/\s'.u=0)∨(∃y s2,r=.val (boolN (decide (y≠0)))/\s'=s2.sp/\Ev t fr n (.e (kid e b 1)) s1.sp (.val y) s2/\0<s2.u)))):=by
 have no:(rootN e).kind≠8->(rootN e).kind≠9->False:=λa b=>by rcases hk with h|h;exact a h;exact b h
 cases h using Ev_i with
 | kid _ _ A b st v j c _ h1 h2 h3 h4 h5 h6=>exact (no h2 h3).elim
 | dry _ _ A b st v h1 h2 h3 h4 h5=>exact (no h2 h3).elim
 | work _ _ A b st v h1 h2 h3 h4 h5 h6=>exact (no h2 h3).elim
 | call _ _ A b st v f _ _ h1 h2 h3 h4 h5 h6=>rcases hk with h|h <;> (rw[h] at h2;cases h2)
 | left _ _ b _ c _ h1 h2 h3=>exact⟨b,h1,.inl ⟨c,rfl,h3⟩⟩
 | ldry _ _ b _ x _ h1 h2 h3 h4=>exact⟨b,h1,.inr (.inl ⟨x,rfl,h3,h4⟩)⟩
 | lone _ _ b _ x s1 h1 h2 h3 h4=>exact⟨b,h1,.inr (.inr (.inl ⟨x,s1,h2,rfl,rfl,h3,h4⟩))⟩
 | rigt _ _ b _ x s1 c _ h1 h2 h3 h4 h5=>exact⟨b,h1,.inr (.inr (.inr ⟨x,s1,h2,h3,h4,.inl ⟨c,rfl,h5⟩⟩))⟩
 | rdry _ _ b _ x s1 y _ h1 h2 h3 h4 h5 h6=>exact⟨b,h1,.inr (.inr (.inr ⟨x,s1,h2,h3,h4,.inr (.inl ⟨y,rfl,h5,h6⟩)⟩))⟩
 | both _ _ b _ x s1 y s2 h1 h2 h3 h4 h5 h6=>exact⟨b,h1,.inr (.inr (.inr ⟨x,s1,h2,h3,h4,.inr (.inr ⟨y,s2,rfl,rfl,h5,h6⟩)⟩))⟩
theorem exS_sides (C:RC) (hC:C.Ok) (n:Nat) (IH:ExS C n) (e:List Nd) (s:ES) (r:ER) (s':ES) (hE:Ev C.t C.fr (n+1) (.e e) s r s') (hk:(rootN e).kind=8∨(rootN e).kind=9) (hkn:KnE C.t (s.l.map Prod.fst) e) (hsc:Scp C.t (s.l.map Prod.fst)) (h1:oneB e=true) (hl1:e.length<=1048576) (w:World) (vl:Int) (lb:List Nat) (vL vI vO ve:Value) (h:RS C w 0 false vl lb vL vI vO s) (hN:Nodes C.w0 ve e) :
  Calls prog 131 #[.pointer (some ⟨C.P,0,none⟩),ve] w λx w'=>ExP C w lb vL vO r s' x w':=by
 obtain⟨b,hc0,hcase⟩:=ev_sides hE hk;have he:=hc0.len;have hk1:=kid_ones h1 hc0;have hl0:=hc0.kid_lt 0 o_;have hl2:=hc0.kid_lt 1 o_;have HOut:Hid (∀c,r=.out c->c≠0):=λc hc=>by have:=hE.outc c hc;omega
 have HI0:Hid (∀r1 s1,Ev C.t C.fr n (.e (kid e b 0)) s r1 s1->∀X vi,Bl w X->Nodes C.w0 vi (kid e b 0)->Calls prog 131 #[.pointer (some ⟨C.P,0,none⟩),vi] X λx w'=>ExP C X lb vL vO r1 s1 x w'):=λr1 s1 hE1 X vi hX hNi=>IH (kid e b 0) s r1 s1 hE1 hkn.kid hsc (hk1 0 o_) o_ X vl lb vL vI vO vi (h.below hX) hNi;have HI1:Hid (∀z x s1 r1 s2,Ev C.t C.fr n (.e (kid e b 0)) s (.val x) s1->Ev C.t C.fr n (.e (kid e b 1)) s1.sp r1 s2->∀X vi vI1 vO1,RS C X 0 false z lb vL vI1 vO1 s1.sp->Nodes C.w0 vi (kid e b 1)->Calls prog 131 #[.pointer (some ⟨C.P,0,none⟩),vi] X λx w'=>ExP C X lb vL vO1 r1 s2 x w'):=λz x s1 r1 s2 hE0 hE1 X vi vI1 vO1 hX hNi=>by
  have hl:s1.sp.l=s.l:=(hE0.inv h.ok trivial).2.2.2.2.2;exact IH (kid e b 1) s1.sp r1 s2 hE1 (by rw[hl];exact hkn.kid) (by rw[hl];exact hsc) (hk1 1 o_) o_ X z lb vL vI1 vO1 vi hX hNi
 have HDe:=hide λX c z vI1 vO1 s1 vi (hc:c≠0) (hX:RS C X c false z lb vL vI1 vO1 s1) (hNi:Nodes C.w0 vi (kid e b 1))=>dead_any C _ (kid e b 1) n_ (hk1 1 o_) o_ X c false z lb vL vI1 vO1 vi s1 hc hX hNi;obtain⟨HRS,HCs⟩:=h2 h hcase;have HFu:=hide hC.fu;have HR:Hid (Calls prog 162 #[ve] w λr w'=>r=.returned (.agg #[.int .i64 (rootN e).kind,.int .i64 (rootN e).val,.string (rootN e).name])/\Bl w w'):=by
  have:=root_any _ e w he hl1 (hN.below h.bel)
  rw[<-rootN_eq e he] at this;exact this
 have HK:=hide λ(W:World) (hW:Bl w W)=>kids_any C.w0 ve e 2 b W hl1 hN (h.bel.trans (hW.mono h.bel.size)) hc0;generalize hR:rootN e=R at HR HCs hk;obtain⟨nk,nv,nm⟩:=R;simp only at HR;have hk:nk=8∨nk=9:=hk;have hba : ∀w1:World,Bl w w1->∀o,Bl w (w1.alloc o):=λw1 h o=>h.alloc h.size o;go_enter func131,ntmps131;go_wp2_with fail;refine HR.o.mono ?_;rintro x w1 ⟨rfl,hb1⟩;go_wp2_with fail;refine (HK _ (hba _ hb1 _)).mono ?_;rintro x W ⟨vk,rfl,hKd,hb2⟩;obtain⟨g0,g1,g2⟩:W.cell? ⟨w1.heap.size,0,none⟩=some (.int .i64 nk)/\W.cell? ⟨w1.heap.size,1,none⟩=some (.int .i64 nv)/\W.cell? ⟨w1.heap.size,2,none⟩=some (.string nm):=by
  refine⟨?_,?_,?_⟩
  ·rw[hb2.cell (by simp)];simp
  ·rw[hb2.cell (by simp)];simp
  ·rw[hb2.cell (by simp)];simp
 have HBW:Hid (Bl w W):=(hba _ hb1 _).trans (hb2.mono (by have:=hb1.size;simp;omega));have hGl:w1.heap.size<W.heap.size:=b_ g0;have hGw:w.heap.size<=w1.heap.size:=hb1.size;obtain⟨ua,uc,rfl,hu1,hu2,hu3⟩:=hKd;obtain⟨B,rfl,hB1,hB2,hBc⟩:=hu3 o_;have hBw:w.heap.size<=B:=by simp at hB1;omega
 obtain⟨v0,q0,n0⟩:=hBc 0 o_;obtain⟨v1,q1,n1⟩:=hBc 1 o_;obtain⟨ka,kn,kc,rfl⟩ : ∃ka kn kc,v0=.slice ka kn kc:=by obtain⟨x,y,e,-⟩:=n0;exact⟨_,_,_,e⟩
 obtain⟨la,ln,lc,rfl⟩ : ∃ka kn kc,v1=.slice ka kn kc:=by obtain⟨x,y,e,-⟩:=n1;exact⟨_,_,_,e⟩
 generalize w1.heap.size=G at g0 g1 g2 hGl hGw ⊢;obtain⟨HN0,HN1⟩:=h2 n0 n1;have HTl:Hid (∀k,TEx C vO k->k<w.heap.size):=λk hk=>(TEx.lt HRS k hk).1;have HKp:Hid (∀X,Tcs (TEx C vO) W X->X.cell? ⟨G,0,none⟩=some (.int .i64 nk)/\X.cell? ⟨B,1,none⟩=some (.slice la ln lc)):=λX hX=>⟨(c_ (hX.block G hGl (λhT=>by have:=HTl.o G hT;omega))).trans g0,(c_ (hX.block B hB2 (λhT=>by have:=HTl.o B hT;omega))).trans q1⟩;have HnT:Hid (∀vO1:Value,(∀k,vO1.ownBlock=some k->vO.ownBlock=some k∨W.heap.size<=k)->∀k,TEx C vO1 k->TEx C vO k∨W.heap.size<=k):=λvO1 h1 k hk=>by
  rcases hk with h|h|h
  ·exact .inl (.inl h)
  ·exact .inl (.inr (.inl h))
  ·exact (h1 k h).imp (λh=>.inr (.inr h)) id
 rcases hk with rfl|rfl
 ·rcases HCs.o with ⟨c,hrc,hE0⟩|⟨x0,hrc,hE0,hu0⟩|⟨x0,s1,hcond,hrc,hs,hE0,hu0⟩|⟨x0,s1,hcond,hE0,hu0,hR⟩
  ·have hcn:=HOut c hrc;have HCl:=hide (HI0 _ _ hE0 W (.slice ka kn kc) HBW HN0);go_wp2_with fail;refine HCl.o.mono ?_;rintro x w2 ⟨z,vI2,vO2,vl2,rfl,hz,hR2,t2,o2⟩;obtain⟨HT2,HO2,HR2⟩:=h3 t2 o2 hR2;obtain⟨y0,y1⟩:=HKp w2 HT2;have HFd:Hid (∀zz X,Bl w2 X->ExP C w lb vL vO r s' (.returned (.int .i64 zz)) X):=λzz X hX=>exp_fin HBW (HT2.o.of_below hX) HO2 (by rw[hrc];exact HR2.o.below hX) (λv hv=>by rw[hrc] at hv;cases hv);go_wp2_with fail;refine (spendD HR2 hcn).mono ?_;rintro x w3 ⟨⟨u3,rfl⟩,hw3⟩;rw[hw3];by_cases hz0:z=0
   ·subst hz0;go_wp2_with fail;refine (bool_any false w2).mono ?_;rintro x wb ⟨rfl,hwb⟩;rw[hwb];go_wp2;go_ret;exact HFd _ _ r_
   ·have hz1:(z != 0)=true:=by simpa using hz0
    go_wp2_with fail;refine (HDe w2 c _ _ _ _ _ hcn HR2 HN1).mono ?_;rintro x w6 ⟨rfl,hb6⟩;have HRd6:=hide (HR2.o.below hb6);go_wp2_with fail;refine (spendD HRd6 hcn).mono ?_;rintro x w7 ⟨⟨u7,rfl⟩,hw7⟩;rw[hw7];go_wp2_with fail;refine (bool_any false w6).mono ?_;rintro x wb ⟨rfl,hwb⟩;rw[hwb];go_wp2;go_ret;exact HFd _ _ hb6
  ·have hcn:(2:Int)≠0:=by decide
   have HCl:=hide (HI0 _ _ hE0 W (.slice ka kn kc) HBW HN0);go_wp2_with fail;refine HCl.o.mono ?_;rintro x w2 ⟨z,vI2,vO2,vl2,rfl,hz,hR2,t2,o2⟩;obtain⟨HT2,HO2,HR2⟩:=h3 t2 o2 hR2;obtain⟨y0,y1⟩:=HKp w2 HT2;obtain rfl:z=x0:=hz _ rfl;go_wp2_with fail;refine (spend0 HR2 hu0).mono ?_;rintro x w3 ⟨⟨u3,rfl⟩,hR3,t3⟩;obtain⟨HT3,HR3⟩:=h2 (HT2.o.next t3 (λk hk=>.inl (.inl hk))) hR3;obtain⟨y0,y1⟩:=HKp w3 HT3;have HFd:Hid (∀zz X,Bl w3 X->ExP C w lb vL vO r s' (.returned (.int .i64 zz)) X):=λzz X hX=>exp_fin HBW (HT3.o.of_below hX) HO2 (by rw[hrc];exact HR3.o.below hX) (λv hv=>by rw[hrc] at hv;cases hv);by_cases hz0:z=0
   ·subst hz0;go_wp2_with fail;refine (bool_any false w3).mono ?_;rintro x wb ⟨rfl,hwb⟩;rw[hwb];go_wp2;go_ret;exact HFd _ _ r_
   ·have hz1:(z != 0)=true:=by simpa using hz0
    go_wp2_with fail;refine (HDe w3 2 _ _ _ _ _ hcn HR3 HN1).mono ?_;rintro x w6 ⟨rfl,hb6⟩;have HRd6:=hide (HR3.o.below hb6);go_wp2_with fail;refine (spendD HRd6 hcn).mono ?_;rintro x w7 ⟨⟨u7,rfl⟩,hw7⟩;rw[hw7];go_wp2_with fail;refine (bool_any false w6).mono ?_;rintro x wb ⟨rfl,hwb⟩;rw[hwb];go_wp2;go_ret;exact HFd _ _ hb6
  ·have HCl:=hide (HI0 _ _ hE0 W (.slice ka kn kc) HBW HN0);go_wp2_with fail;refine HCl.o.mono ?_;rintro x w2 ⟨z,vI2,vO2,vl2,rfl,hz,hR2,t2,o2⟩;obtain⟨HT2,HO2,HR2⟩:=h3 t2 o2 hR2;obtain⟨y0,y1⟩:=HKp w2 HT2;obtain rfl:z=x0:=hz _ rfl;go_wp2_with fail;refine (spend1 HR2 hu0 HFu).mono ?_;rintro x w3 ⟨⟨u3,rfl⟩,hR3,t3⟩;obtain⟨HT3,HR3⟩:=h2 (HT2.o.next t3 (λk hk=>.inl (.inl hk))) hR3;obtain⟨y0,y1⟩:=HKp w3 HT3;have hz0:z=0:=by rcases hcond with ⟨-,h⟩|⟨h,-⟩;exact h;exact absurd h (by decide)
   subst hz0;have HF:=hide (exp_fin (z:=boolN false) HBW HT3 HO2 (r:=r) (s':=s') (by rw[hrc,hs];exact HR3) (λv hv=>by rw[hrc] at hv;cases hv;rfl));go_wp2_with fail;refine (bool_any false w3).mono ?_;rintro x wb ⟨rfl,hwb⟩;rw[hwb];go_wp2;go_ret;exact HF
  ·have HCl:=hide (HI0 _ _ hE0 W (.slice ka kn kc) HBW HN0);go_wp2_with fail;refine HCl.o.mono ?_;rintro x w2 ⟨z,vI2,vO2,vl2,rfl,hz,hR2,t2,o2⟩;obtain⟨HT2,HO2,HR2⟩:=h3 t2 o2 hR2;obtain⟨y0,y1⟩:=HKp w2 HT2;obtain rfl:z=x0:=hz _ rfl;go_wp2_with fail;refine (spend1 HR2 hu0 HFu).mono ?_;rintro x w3 ⟨⟨u3,rfl⟩,hR3,t3⟩;obtain⟨HT3,HR3⟩:=h2 (HT2.o.next t3 (λk hk=>.inl (.inl hk))) hR3;obtain⟨y0,y1⟩:=HKp w3 HT3;have hz0:z≠0:=by rcases hcond with ⟨-,h⟩|⟨h,-⟩;exact h;exact absurd h (by decide)
   have hz1:(z != 0)=true:=by simpa using hz0
   rcases hR with ⟨c,hrc,hE1⟩|⟨y,hrc,hE1,hu1⟩|⟨y,s2,hrc,hs,hE1,hu1⟩
   ·have hcn:=HOut c hrc;have HCr:=hide (HI1 _ _ s1 _ _ hE0 hE1 w3 (.slice la ln lc) _ _ HR3 HN1);go_wp2_with fail;refine HCr.o.mono ?_;rintro x w4 ⟨z4,vI4,vO4,vl4,rfl,hz4,hR4,t4,o4⟩;have HT4:=hide (HT3.o.next t4 (HnT _ HO2));have HO4:Hid (∀k,vO4.ownBlock=some k->vO.ownBlock=some k∨W.heap.size<=k):=λk hk=>by
     rcases o4 k hk with h|h
     ·exact HO2 k h
     ·exact .inr (t_ HT3.o.size h)
    have HR4:=hide hR4;have HFd:Hid (∀zz X,Bl w4 X->ExP C w lb vL vO r s' (.returned (.int .i64 zz)) X):=λzz X hX=>exp_fin HBW (HT4.o.of_below hX) HO4 (by rw[hrc];exact HR4.o.below hX) (λv hv=>by rw[hrc] at hv;cases hv);go_wp2_with fail;refine (spendD HR4 hcn).mono ?_;rintro x w5 ⟨⟨u5,rfl⟩,hw5⟩;rw[hw5];by_cases hzz:z4=0
    ·subst hzz;go_wp2_with fail;refine (bool_any false w4).mono ?_;rintro x wb ⟨rfl,hwb⟩;rw[hwb];go_wp2;go_ret;exact HFd _ _ r_
    ·have hz9:(z4 != 0)=true:=by simpa using hzz
     go_wp2_with fail;refine (bool_any true w4).mono ?_;rintro x wb ⟨rfl,hwb⟩;rw[hwb];go_wp2;go_ret;exact HFd _ _ r_
   ·have hcn:(2:Int)≠0:=by decide
    have HCr:=hide (HI1 _ _ s1 _ _ hE0 hE1 w3 (.slice la ln lc) _ _ HR3 HN1);go_wp2_with fail;refine HCr.o.mono ?_;rintro x w4 ⟨z4,vI4,vO4,vl4,rfl,hz4,hR4,t4,o4⟩;have HT4:=hide (HT3.o.next t4 (HnT _ HO2));have HO4:Hid (∀k,vO4.ownBlock=some k->vO.ownBlock=some k∨W.heap.size<=k):=λk hk=>by
     rcases o4 k hk with h|h
     ·exact HO2 k h
     ·exact .inr (t_ HT3.o.size h)
    have HR4:=hide hR4;obtain rfl:z4=y:=hz4 _ rfl;go_wp2_with fail;refine (spend0 HR4 hu1).mono ?_;rintro x w5 ⟨⟨u5,rfl⟩,hR5,t5⟩;obtain⟨HT5,HR5⟩:=h2 (HT4.o.next t5 (λk hk=>.inl (.inl hk))) hR5;have HFd:Hid (∀zz X,Bl w5 X->ExP C w lb vL vO r s' (.returned (.int .i64 zz)) X):=λzz X hX=>exp_fin HBW (HT5.o.of_below hX) HO4 (by rw[hrc];exact HR5.o.below hX) (λv hv=>by rw[hrc] at hv;cases hv);by_cases hzz:z4=0
    ·subst hzz;go_wp2_with fail;refine (bool_any false w5).mono ?_;rintro x wb ⟨rfl,hwb⟩;rw[hwb];go_wp2;go_ret;exact HFd _ _ r_
    ·have hz9:(z4 != 0)=true:=by simpa using hzz
     go_wp2_with fail;refine (bool_any true w5).mono ?_;rintro x wb ⟨rfl,hwb⟩;rw[hwb];go_wp2;go_ret;exact HFd _ _ r_
   ·have HCr:=hide (HI1 _ _ s1 _ _ hE0 hE1 w3 (.slice la ln lc) _ _ HR3 HN1);go_wp2_with fail;refine HCr.o.mono ?_;rintro x w4 ⟨z4,vI4,vO4,vl4,rfl,hz4,hR4,t4,o4⟩;have HT4:=hide (HT3.o.next t4 (HnT _ HO2));have HO4:Hid (∀k,vO4.ownBlock=some k->vO.ownBlock=some k∨W.heap.size<=k):=λk hk=>by
     rcases o4 k hk with h|h
     ·exact HO2 k h
     ·exact .inr (t_ HT3.o.size h)
    have HR4:=hide hR4;obtain rfl:z4=y:=hz4 _ rfl;go_wp2_with fail;refine (spend1 HR4 hu1 HFu).mono ?_;rintro x w5 ⟨⟨u5,rfl⟩,hR5,t5⟩;obtain⟨HT5,HR5⟩:=h2 (HT4.o.next t5 (λk hk=>.inl (.inl hk))) hR5;have HF:Hid (ExP C w lb vL vO r s' (.returned (.int .i64 (boolN (decide (z4≠0))))) w5):=exp_fin HBW HT5 HO4 (by rw[hrc,hs];exact HR5) (λv hv=>by rw[hrc] at hv;cases hv;rfl);by_cases hzz:z4=0
    ·subst hzz;go_wp2_with fail;refine (bool_any false w5).mono ?_;rintro x wb ⟨rfl,hwb⟩;rw[hwb];go_wp2;go_ret;have:=HF.o;simpa using this
    ·have hz9:(z4 != 0)=true:=by simpa using hzz
     go_wp2_with fail;refine (bool_any true w5).mono ?_;rintro x wb ⟨rfl,hwb⟩;rw[hwb];go_wp2;go_ret;have:=HF.o;rw[decide_eq_true hzz] at this;exact this
 ·rcases HCs.o with ⟨c,hrc,hE0⟩|⟨x0,hrc,hE0,hu0⟩|⟨x0,s1,hcond,hrc,hs,hE0,hu0⟩|⟨x0,s1,hcond,hE0,hu0,hR⟩
  ·have hcn:=HOut c hrc;have HCl:=hide (HI0 _ _ hE0 W (.slice ka kn kc) HBW HN0);go_wp2_with fail;refine HCl.o.mono ?_;rintro x w2 ⟨z,vI2,vO2,vl2,rfl,hz,hR2,t2,o2⟩;obtain⟨HT2,HO2,HR2⟩:=h3 t2 o2 hR2;obtain⟨y0,y1⟩:=HKp w2 HT2;have HFd:Hid (∀zz X,Bl w2 X->ExP C w lb vL vO r s' (.returned (.int .i64 zz)) X):=λzz X hX=>exp_fin HBW (HT2.o.of_below hX) HO2 (by rw[hrc];exact HR2.o.below hX) (λv hv=>by rw[hrc] at hv;cases hv);go_wp2_with fail;refine (spendD HR2 hcn).mono ?_;rintro x w3 ⟨⟨u3,rfl⟩,hw3⟩;rw[hw3];by_cases hz0:z=0
   ·subst hz0;go_wp2_with fail;refine (HDe w2 c _ _ _ _ _ hcn HR2 HN1).mono ?_;rintro x w6 ⟨rfl,hb6⟩;have HRd6:=hide (HR2.o.below hb6);go_wp2_with fail;refine (spendD HRd6 hcn).mono ?_;rintro x w7 ⟨⟨u7,rfl⟩,hw7⟩;rw[hw7];go_wp2_with fail;refine (bool_any false w6).mono ?_;rintro x wb ⟨rfl,hwb⟩;rw[hwb];go_wp2;go_ret;exact HFd _ _ hb6
   ·have hz1:(z != 0)=true:=by simpa using hz0
    go_wp2_with fail;refine (bool_any true w2).mono ?_;rintro x wb ⟨rfl,hwb⟩;rw[hwb];go_wp2;go_ret;exact HFd _ _ r_
  ·have hcn:(2:Int)≠0:=by decide
   have HCl:=hide (HI0 _ _ hE0 W (.slice ka kn kc) HBW HN0);go_wp2_with fail;refine HCl.o.mono ?_;rintro x w2 ⟨z,vI2,vO2,vl2,rfl,hz,hR2,t2,o2⟩;obtain⟨HT2,HO2,HR2⟩:=h3 t2 o2 hR2;obtain⟨y0,y1⟩:=HKp w2 HT2;obtain rfl:z=x0:=hz _ rfl;go_wp2_with fail;refine (spend0 HR2 hu0).mono ?_;rintro x w3 ⟨⟨u3,rfl⟩,hR3,t3⟩;obtain⟨HT3,HR3⟩:=h2 (HT2.o.next t3 (λk hk=>.inl (.inl hk))) hR3;obtain⟨y0,y1⟩:=HKp w3 HT3;have HFd:Hid (∀zz X,Bl w3 X->ExP C w lb vL vO r s' (.returned (.int .i64 zz)) X):=λzz X hX=>exp_fin HBW (HT3.o.of_below hX) HO2 (by rw[hrc];exact HR3.o.below hX) (λv hv=>by rw[hrc] at hv;cases hv);by_cases hz0:z=0
   ·subst hz0;go_wp2_with fail;refine (HDe w3 2 _ _ _ _ _ hcn HR3 HN1).mono ?_;rintro x w6 ⟨rfl,hb6⟩;have HRd6:=hide (HR3.o.below hb6);go_wp2_with fail;refine (spendD HRd6 hcn).mono ?_;rintro x w7 ⟨⟨u7,rfl⟩,hw7⟩;rw[hw7];go_wp2_with fail;refine (bool_any false w6).mono ?_;rintro x wb ⟨rfl,hwb⟩;rw[hwb];go_wp2;go_ret;exact HFd _ _ hb6
   ·have hz1:(z != 0)=true:=by simpa using hz0
    go_wp2_with fail;refine (bool_any true w3).mono ?_;rintro x wb ⟨rfl,hwb⟩;rw[hwb];go_wp2;go_ret;exact HFd _ _ r_
  ·have HCl:=hide (HI0 _ _ hE0 W (.slice ka kn kc) HBW HN0);go_wp2_with fail;refine HCl.o.mono ?_;rintro x w2 ⟨z,vI2,vO2,vl2,rfl,hz,hR2,t2,o2⟩;obtain⟨HT2,HO2,HR2⟩:=h3 t2 o2 hR2;obtain⟨y0,y1⟩:=HKp w2 HT2;obtain rfl:z=x0:=hz _ rfl;go_wp2_with fail;refine (spend1 HR2 hu0 HFu).mono ?_;rintro x w3 ⟨⟨u3,rfl⟩,hR3,t3⟩;obtain⟨HT3,HR3⟩:=h2 (HT2.o.next t3 (λk hk=>.inl (.inl hk))) hR3;obtain⟨y0,y1⟩:=HKp w3 HT3;have hz0:z≠0:=by rcases hcond with ⟨h,-⟩|⟨-,h⟩;exact absurd h (by decide);exact h
   have hz1:(z != 0)=true:=by simpa using hz0
   have hz2:decide (z≠0)=true:=decide_eq_true hz0;rw[hz2] at hrc;have HF:=hide (exp_fin (z:=boolN true) HBW HT3 HO2 (r:=r) (s':=s') (by rw[hrc,hs];exact HR3) (λv hv=>by rw[hrc] at hv;cases hv;rfl));go_wp2_with fail;refine (bool_any true w3).mono ?_;rintro x wb ⟨rfl,hwb⟩;rw[hwb];go_wp2;go_ret;exact HF
  ·have HCl:=hide (HI0 _ _ hE0 W (.slice ka kn kc) HBW HN0);go_wp2_with fail;refine HCl.o.mono ?_;rintro x w2 ⟨z,vI2,vO2,vl2,rfl,hz,hR2,t2,o2⟩;obtain⟨HT2,HO2,HR2⟩:=h3 t2 o2 hR2;obtain⟨y0,y1⟩:=HKp w2 HT2;obtain rfl:z=x0:=hz _ rfl;go_wp2_with fail;refine (spend1 HR2 hu0 HFu).mono ?_;rintro x w3 ⟨⟨u3,rfl⟩,hR3,t3⟩;obtain⟨HT3,HR3⟩:=h2 (HT2.o.next t3 (λk hk=>.inl (.inl hk))) hR3;obtain⟨y0,y1⟩:=HKp w3 HT3;have hz0:z=0:=by rcases hcond with ⟨h,-⟩|⟨-,h⟩;exact absurd h (by decide);exact h
   subst hz0;rcases hR with ⟨c,hrc,hE1⟩|⟨y,hrc,hE1,hu1⟩|⟨y,s2,hrc,hs,hE1,hu1⟩
   ·have hcn:=HOut c hrc;have HCr:=hide (HI1 _ _ s1 _ _ hE0 hE1 w3 (.slice la ln lc) _ _ HR3 HN1);go_wp2_with fail;refine HCr.o.mono ?_;rintro x w4 ⟨z4,vI4,vO4,vl4,rfl,hz4,hR4,t4,o4⟩;have HT4:=hide (HT3.o.next t4 (HnT _ HO2));have HO4:Hid (∀k,vO4.ownBlock=some k->vO.ownBlock=some k∨W.heap.size<=k):=λk hk=>by
     rcases o4 k hk with h|h
     ·exact HO2 k h
     ·exact .inr (t_ HT3.o.size h)
    have HR4:=hide hR4;have HFd:Hid (∀zz X,Bl w4 X->ExP C w lb vL vO r s' (.returned (.int .i64 zz)) X):=λzz X hX=>exp_fin HBW (HT4.o.of_below hX) HO4 (by rw[hrc];exact HR4.o.below hX) (λv hv=>by rw[hrc] at hv;cases hv);go_wp2_with fail;refine (spendD HR4 hcn).mono ?_;rintro x w5 ⟨⟨u5,rfl⟩,hw5⟩;rw[hw5];by_cases hzz:z4=0
    ·subst hzz;go_wp2_with fail;refine (bool_any false w4).mono ?_;rintro x wb ⟨rfl,hwb⟩;rw[hwb];go_wp2;go_ret;exact HFd _ _ r_
    ·have hz9:(z4 != 0)=true:=by simpa using hzz
     go_wp2_with fail;refine (bool_any true w4).mono ?_;rintro x wb ⟨rfl,hwb⟩;rw[hwb];go_wp2;go_ret;exact HFd _ _ r_
   ·have hcn:(2:Int)≠0:=by decide
    have HCr:=hide (HI1 _ _ s1 _ _ hE0 hE1 w3 (.slice la ln lc) _ _ HR3 HN1);go_wp2_with fail;refine HCr.o.mono ?_;rintro x w4 ⟨z4,vI4,vO4,vl4,rfl,hz4,hR4,t4,o4⟩;have HT4:=hide (HT3.o.next t4 (HnT _ HO2));have HO4:Hid (∀k,vO4.ownBlock=some k->vO.ownBlock=some k∨W.heap.size<=k):=λk hk=>by
     rcases o4 k hk with h|h
     ·exact HO2 k h
     ·exact .inr (t_ HT3.o.size h)
    have HR4:=hide hR4;obtain rfl:z4=y:=hz4 _ rfl;go_wp2_with fail;refine (spend0 HR4 hu1).mono ?_;rintro x w5 ⟨⟨u5,rfl⟩,hR5,t5⟩;obtain⟨HT5,HR5⟩:=h2 (HT4.o.next t5 (λk hk=>.inl (.inl hk))) hR5;have HFd:Hid (∀zz X,Bl w5 X->ExP C w lb vL vO r s' (.returned (.int .i64 zz)) X):=λzz X hX=>exp_fin HBW (HT5.o.of_below hX) HO4 (by rw[hrc];exact HR5.o.below hX) (λv hv=>by rw[hrc] at hv;cases hv);by_cases hzz:z4=0
    ·subst hzz;go_wp2_with fail;refine (bool_any false w5).mono ?_;rintro x wb ⟨rfl,hwb⟩;rw[hwb];go_wp2;go_ret;exact HFd _ _ r_
    ·have hz9:(z4 != 0)=true:=by simpa using hzz
     go_wp2_with fail;refine (bool_any true w5).mono ?_;rintro x wb ⟨rfl,hwb⟩;rw[hwb];go_wp2;go_ret;exact HFd _ _ r_
   ·have HCr:=hide (HI1 _ _ s1 _ _ hE0 hE1 w3 (.slice la ln lc) _ _ HR3 HN1);go_wp2_with fail;refine HCr.o.mono ?_;rintro x w4 ⟨z4,vI4,vO4,vl4,rfl,hz4,hR4,t4,o4⟩;have HT4:=hide (HT3.o.next t4 (HnT _ HO2));have HO4:Hid (∀k,vO4.ownBlock=some k->vO.ownBlock=some k∨W.heap.size<=k):=λk hk=>by
     rcases o4 k hk with h|h
     ·exact HO2 k h
     ·exact .inr (t_ HT3.o.size h)
    have HR4:=hide hR4;obtain rfl:z4=y:=hz4 _ rfl;go_wp2_with fail;refine (spend1 HR4 hu1 HFu).mono ?_;rintro x w5 ⟨⟨u5,rfl⟩,hR5,t5⟩;obtain⟨HT5,HR5⟩:=h2 (HT4.o.next t5 (λk hk=>.inl (.inl hk))) hR5;have HF:Hid (ExP C w lb vL vO r s' (.returned (.int .i64 (boolN (decide (z4≠0))))) w5):=exp_fin HBW HT5 HO4 (by rw[hrc,hs];exact HR5) (λv hv=>by rw[hrc] at hv;cases hv;rfl);by_cases hzz:z4=0
    ·subst hzz;go_wp2_with fail;refine (bool_any false w5).mono ?_;rintro x wb ⟨rfl,hwb⟩;rw[hwb];go_wp2;go_ret;have:=HF.o;simpa using this
    ·have hz9:(z4 != 0)=true:=by simpa using hzz
     go_wp2_with fail;refine (bool_any true w5).mono ?_;rintro x wb ⟨rfl,hwb⟩;rw[hwb];go_wp2;go_ret;have:=HF.o;rw[decide_eq_true hzz] at this;exact this
theorem exS_step (C:RC) (hC:C.Ok) (n:Nat) (IH:ExS C n) (IC:CaS C n):ExS C (n+1):=by
 intro e s r s' hE hkn hsc h1 hl1 w vl lb vL vI vO ve h hN;by_cases hk:(rootN e).kind=8∨(rootN e).kind=9
 ·exact exS_sides C hC n IH e s r s' hE hk hkn hsc h1 hl1 w vl lb vL vI vO ve h hN
 ·exact exS_plain C hC n IH IC e s r s' hE (λh=>hk (.inl h)) (λh=>hk (.inr h)) hkn hsc h1 hl1 w vl lb vL vI vO ve h hN
theorem rs_start {w0 w1 wr:World} {t:Tr} {i fr:List Int} {F:Int} {vg vf vI vFr:Value} {ga:Option Addr} {gc P d:Nat} {gb:List Nat} (h0:Below w0.heap.size w0 w1) (hG:GI w1 P t.globals wr (.slice ga t.globals.length gc) gb) (hP:w0.heap.size<=P/\P<w1.heap.size) (hd:w0.heap.size<=d/\d<w1.heap.size/\d≠P)
  (hbox:FrC wr P [vg,vf,.slice ga t.globals.length gc,.slice none 0 0,vI,.slice none 0 0,.int .i64 F,.int .i64 0,.int .i64 0,.bool false,.int .i64 0,vFr,.int .i64 0,.int .i64 0]) (hI:InN w0 vI i) (hi : ∀x∈i,inB x) (hF:0<=F/\F<=100000) (hgs : ∀g∈t.globals,0<=g.size/\g.size<=1000000) :
  ∃bG,(0<t.globals.length->ga=some ⟨bG,0,none⟩)/\RS ⟨w0,t,fr,vg,vf,vFr,P,bG,ga,gc,gb,F⟩ wr 0 false 0 [] (.slice none 0 0) vI (.slice none 0 0) (s00 t i F):=by
 have hs:=hG.tc.size;have hs0:=h0.size;obtain⟨bG,hbG,hbr,hbn,hbP⟩ : ∃bG,(0<t.globals.length->ga=some ⟨bG,0,none⟩)/\(w0.heap.size<=bG/\bG<wr.heap.size)/\bG∉gb/\bG≠P:=by
  by_cases hz:0<t.globals.length
  ·rcases hG.row.2 with ⟨-,e⟩|⟨g,cap,cur,e,-⟩
   ·omega
   ·simp only[Value.slice.injEq] at e;obtain⟨rfl,-,rfl⟩:=e;have hlt:=World.ownsRow.lt hG.row g rfl;exact⟨g,λ_=>rfl,⟨by omega,hlt.2⟩,hG.lo g rfl,by omega⟩
  ·exact⟨d,λh=>absurd h hz,⟨hd.1,by omega⟩,λhm=>by have:=(hG.rng d hm).1;omega,hd.2.2⟩
 have hgl : ∀k,k<t.globals.length->(s00 t i F).g.getD k []=gw0 (t.globals.getD k ⟨⟨#[]⟩,0⟩):=λk hk=>by
  simp[s00,List.getD,hk]
 have hll:=hG.ll;have hK : ∀k,k∈(⟨w0,t,fr,vg,vf,vFr,P,bG,ga,gc,gb,F⟩:RC).K []↔k=P∨k=bG∨k∈gb:=λk=>by simp[RC.K]
 refine⟨bG,hbG,?_⟩;refine⟨hG.tc.below h0 hs0 (λk hk=>by have e:k=P:=hk;show w0.heap.size<=k;omega),?_,λk h1 h2 => ?_,by simp[s00,hll],λk h1 => ?_,λk h1 => ?_,rfl,World.ownsRow_nil _ _ _ _,(λj hj=>by simp at hj),hI,World.ownsRow_nil _ _ _ _,?_,λk hk => ?_,(λk hk=>by cases hk),(λk hk=>by cases hk),⟨?_,?_,hi⟩,⟨?_,?_⟩,by simp[s00],⟨by simp[s00],?_,by simp[s00],by simp[s00]⟩⟩
 ·have e:F-((s00 t i F).u:Int)=0:=by show F-((F.toNat:Nat):Int)=0;omega
  show FrC wr P [vg,vf,.slice ga t.globals.length gc,.slice none 0 0,vI,.slice none 0 0,.int .i64 F,.int .i64 (F-((s00 t i F).u:Int)),.int .i64 0,.bool false,.int .i64 0,vFr,.int .i64 0,.int .i64 0];rw[e];exact hbox
 ·have h1:k<t.globals.length:=h1;have h2:k<gb.length:=h2;have hga:=hbG o_;have hfl:=gflat_len hll;have hrow:=hG.row;rw[hga] at hrow;have e0:(s00 t i F).g.getD k []=gw0 t.globals[k]:=by rw[hgl k h1];simp[List.getD,h1]
  rw[e0,gw0_len];refine⟨?_,?_⟩
  ·show wr.cell? ⟨bG,k*2,none⟩=some (.string t.globals[k].name);rw[World.ownsRow.cellAt hrow (k*2) o_];have:=gflat_get t.globals gb hll k 0 h1 o_
   simpa[gcl] using this
  ·show wr.cell? ⟨bG,k*2+1,none⟩=some (.slice (some ⟨gb[k],0,none⟩) (gln t.globals[k]) (gln t.globals[k]));rw[World.ownsRow.cellAt hrow (k*2+1) o_,gflat_get t.globals gb hll k 1 h1 o_];simp[gcl]
 ·have h1:k<gb.length:=h1;have hk:k<t.globals.length:=by omega
  have e0:(s00 t i F).g.getD k []=gw0 t.globals[k]:=by rw[hgl k hk];simp[List.getD,hk]
  rw[e0,gw0_map];exact hG.lw k h1 hk
 ·have hk:k<t.globals.length:=by simpa[s00] using h1
  have e:(s00 t i F).g[k]=gw0 t.globals[k]:=by simp[s00]
  rw[e,gw0_len];have:=hgs _ (g_ hk)
  unfold gln;split <;> omega
 ·unfold RC.K;simp only[List.append_nil];refine List.nodup_cons.2 ⟨λhm => ?_,List.nodup_cons.2 ⟨hbn,hG.nd⟩⟩;rcases List.mem_cons.1 hm with e|hm
  ·exact hbP e.symm
  ·have:w1.heap.size<=P:=(hG.rng _ hm).1
   omega
 ·rcases (hK k).1 hk with rfl|rfl|hk
  ·exact⟨hP.1,by show k<wr.heap.size;omega⟩
  ·exact hbr
  ·have:=hG.rng k hk
   exact⟨by show w0.heap.size<=k;omega,this.2⟩
 ·intro ws hws x hx;obtain⟨g,-,rfl⟩:=List.mem_map.1 hws;have:=List.eq_of_mem_replicate hx
  rw[this];exact inB0
 ·intro x hx;cases hx
 ·show ((F.toNat:Nat):Int)<=F;omega
 ·show ((0:Nat):Int)+((F.toNat:Nat):Int)<=F;omega
 ·show (0:Int)+1000000000*((F.toNat:Nat):Int)<=100001000000000;omega
section
variable {C:RC} {w:World} {lb:List Nat} {vL vO:Value} {n:Nat}
def PaP (C:RC) (w:World) (lb:List Nat) (vL vO:Value) (r:ER) (s':ES) (x:Ending) (w':World):Prop:=(∃y,x=.returned y)/\∃lb' vL' vI' vO' vl',RS C w' (stR r) (rtR r) vl' lb' vL' vI' vO' s'/\(∀v,r=.ret v->vl'=v)/\(∃m,lb'=lb++m/\∀b∈m,w.heap.size<=b)/\Tcs (TSx C lb vL vO) w w'/\(∀k,vO'.ownBlock=some k->vO.ownBlock=some k∨w.heap.size<=k)/\∀k,vL'.ownBlock=some k->vL.ownBlock=some k∨w.heap.size<=k
theorem RS.st {c:Int} {rt:Bool} {vl:Int} {vI:Value} {s:ES} {x:ByteArray} {vv:Value} {b:Nat} {m:Nat} (h:RS C w c rt vl lb vL vI vO s) (hC:C.Ok) (hF:FindV C lb s x vv) (hk:x∉s.l.map Prod.fst) (hg:0<=globI C.t.globals x) (hv:vv=.slice (some ⟨b,0,none⟩) n m) (j:Nat) {v:Int} (hi:inB v):RS C (w.setCell ⟨b,j,none⟩ (.int .i64 v)) c rt vl lb vL vI vO (s.st C.t x j v):=by
 obtain⟨k,hkl,h1,h2⟩:=gix_glob hg;have hkb:k<C.gb.length:=by rw[hC.gbl];exact hkl
 have e1:C.gb.getD k 0=C.gb[k]:=by simp[List.getD,hkb]
 have:=hF.2 (lix_no hk) k h1
 rw[hv,e1] at this;simp only[Value.slice.injEq,Option.some.injEq,Addr.mk.injEq] at this;obtain⟨⟨rfl,-⟩,-⟩:=this;have hs:s.st C.t x j v = {s with g:=s.g.set k ((s.g.getD k []).set j v)}:=by unfold ES.st;rw[h1]
 exact h.wg k j hkb hs (st_ok h.ok x j hi)
theorem ev_store {t:Tr} {fr:List Int} {s:St} {a b:List St} {z:ES} {r:ER} {z':ES} (h:Ev t fr (n+1) (.p s a b) z r z') (hk:s.kind=3):(∃c,r=.out c/\Ev t fr n (.e s.e) z (.out c) z')∨∃v z1,Ev t fr n (.e s.e) z (.val v) z1/\((∃c,r=.out c/\Ev t fr n (.e s.f) z1 (.out c) z')∨∃x z2,Ev t fr n (.e s.f) z1 (.val x) z2/\((¬(0<=v/\v<(z2.ws t s.name).length)/\r=.out 3/\z'=z2)∨((0<=v/\v<(z2.ws t s.name).length)/\r=.on/\z'=z2.st t s.name v.toNat x))):=by
 cases h using Ev_i with
 | pbad _ _ _ _ _ c _ h1=>exact .inl ⟨c,rfl,h1⟩
 | sbad _ _ _ _ _ v z1 c _ h1 h2 h3=>exact .inr ⟨v,z1,h2,.inl ⟨c,rfl,h3⟩⟩
 | smis _ _ _ _ _ v z1 x _ h1 h2 h3 h4=>exact .inr ⟨v,z1,h2,.inr ⟨x,_,h3,.inl ⟨h4,rfl,rfl⟩⟩⟩
 | stor _ _ _ _ _ v z1 x _ h1 h2 h3 h4=>exact .inr ⟨v,z1,h2,.inr ⟨x,_,h3,.inr ⟨h4,rfl,rfl⟩⟩⟩
 | decl _ _ _ _ _ _ _ h1=>omega
 | set _ _ _ _ _ _ _ h1=>omega
 | ifth _ _ _ _ _ _ _ _ _ h1=>omega
 | ifel _ _ _ _ _ _ _ _ h1=>omega
 | whno _ _ _ _ _ _ h1=>omega
 | whn _ _ _ _ _ _ _ _ _ h1=>omega
 | whdr _ _ _ _ _ _ _ _ h1=>omega
 | whag _ _ _ _ _ _ _ _ _ _ h1=>omega
 | retn _ _ _ _ _ _ _ h1=>omega
 | tell _ _ _ _ _ _ _ h1=>omega
 | only _ _ _ _ _ _ _ h1=>omega
theorem TEx.up {vO1:Value} (ho : ∀k,vO1.ownBlock=some k->vO.ownBlock=some k∨w.heap.size<=k) : ∀k,TEx C vO1 k->TSx C lb vL vO k∨w.heap.size<=k:=λk hk=>by
 rcases hk with rfl|hk|hk
 ·exact .inl (.inl (.inl rfl))
 ·exact .inl (.inl (.inr (.inl hk)))
 ·exact (ho k hk).imp_left (λh=>.inl (.inr (.inr h)))
theorem stS_store (C:RC) (hC:C.Ok) (n:Nat) (IH:ExS C n) (s:St) (a b:List St) (z:ES) (r:ER) (z':ES) (hE:Ev C.t C.fr (n+1) (.p s a b) z r z') (hk:s.kind=3) (hKn:KnP C.t (z.l.map Prod.fst) s) (hsc:Scp C.t (z.l.map Prod.fst)) (h1:oneB s.e=true) (h2:oneB s.f=true) (hl1:s.e.length<=1048576) (hl2:s.f.length<=1048576)
  (w:World) (vl:Int) (lb:List Nat) (vL vI vO ve vf:Value) (vt vu:Int) (h:RS C w 0 false vl lb vL vI vO z) (hNe:Nodes C.w0 ve s.e) (hNf:Nodes C.w0 vf s.f) :
  Calls prog 98 #[.pointer (some ⟨C.P,0,none⟩),.agg #[.int .i64 s.kind,.string s.name,ve,vf,.int .i64 vt,.int .i64 vu]] w λx w'=>PaP C w lb vL vO r z' x w':=by
 have hk0:=hide hk;rw[hk];obtain⟨ea,en,ec,rfl⟩ : ∃ea en ec,ve=.slice ea en ec:=⟨_,_,_,hNe.choose_spec.choose_spec.1⟩;obtain⟨fa,fn,fc,rfl⟩ : ∃fa fn fc,vf=.slice fa fn fc:=⟨_,_,_,hNf.choose_spec.choose_spec.1⟩;obtain⟨W,hW⟩ : ∃W,W=w.alloc (.cells #[.int .i64 3,.string s.name,.slice ea en ec,.slice fa fn fc,.int .i64 vt,.int .i64 vu] 132):=⟨_,rfl⟩;obtain⟨B,hB⟩ : ∃B,B=w.heap.size:=⟨_,rfl⟩;have hbW:Bl w W:=by rw[hW];exact r_.alloc n_ _
 have hBW:B<W.heap.size:=by rw[hW,hB,World.size_alloc];omega
 have hfr:FrC W B [.int .i64 3,.string s.name,.slice ea en ec,.slice fa fn fc,.int .i64 vt,.int .i64 vu]:=by
  rw[hW,hB];exact box_fr w #[.int .i64 3,.string s.name,.slice ea en ec,.slice fa fn fc,.int .i64 vt,.int .i64 vu] _ (by show 6<=1000;omega)
 have hRW:=h.below hbW;have hT0 : ∀k,TEx C vO k->k<B:=λk hk=>by rw[hB];exact (TEx.lt h k hk).1
 have key : ∀(r1:ER) (z1:ES),Ev C.t C.fr n (.e s.e) z r1 z1->Calls prog 131 #[.pointer (some ⟨C.P,0,none⟩),.slice ea en ec] W λx w'=>ExP C W lb vL vO r1 z1 x w':=λr1 z1 h1'=>IH s.e z r1 z1 h1' hKn.e hsc h1 hl1 W vl lb vL vI vO _ hRW hNe;obtain⟨HO,HC,HKn,HSc,HIH,HNf,H2,HL2,HB,HbW,HT0,HBW⟩:=h12 (λ(r1:ER) (z1:ES) (h':Ev C.t C.fr n (.e s.e) z r1 z1)=>h'.inv h.ok trivial) hC hKn hsc IH hNf h2 hl2 hB hbW hT0 hBW;have HFr:=hide hfr;have g1:=(hfr 1 _ rfl).1;have g2:=(hfr 2 _ rfl).1;have g3:=(hfr 3 _ rfl).1;have HH:=hide h;have HFin:Hid (∀(w':World) (r:ER) (z':ES) (vI' vO':Value) (vl':Int),RS C w' (stR r) (rtR r) vl' lb vL vI' vO' z'->(∀v,r=.ret v->vl'=v)->Tcs (TSx C lb vL vO) W w'->(∀k,vO'.ownBlock=some k->vO.ownBlock=some k∨w.heap.size<=k)->PaP C w lb vL vO r z' (.returned (.tuple #[])) w'):=λw' r z' vI' vO' vl' hR hv ht ho=>⟨⟨_,rfl⟩,lb,vL,vI',vO',vl',hR,hv,⟨[],by simp,λb hb=>by simp at hb⟩,(hbW.tcs (S:=TSx C lb vL vO)).next ht (λk hk=>.inl hk),ho,λk hk=>.inl hk⟩;rcases ev_store hE hk with ⟨c,rfl,e1⟩|⟨v,z1,e1,hrest⟩
 ·have hc0:(c == 0)=false:=by rcases e1.outc c rfl with rfl|rfl <;> rfl
  have hc1:(c != 0)=true:=by rcases e1.outc c rfl with rfl|rfl <;> rfl
  have HCl:=hide (key _ _ e1);clear key HO HC HKn HSc HIH HNf H2 HL2 hE hC hKn hsc IH h1 h2 hl1 hl2 hNe hNf hRW hT0 hfr h hbW e1 g1 g3 hk;go_enter func98,ntmps98;go_wp2_with fail;rw[<-hW,<-hB];clear hB hW;refine HCl.o.mono ?_;rintro x w1 ⟨z0,vI1,vO1,vl1,rfl,-,hR1,t1,ho1⟩;have y8:=(hR1.box 8 _ rfl).1;simp only[stR] at y8;have HF:=hide (HFin w1 (.out c) z' vI1 vO1 vl1 hR1 (λv hv=>by cases hv) ((Tcs.refl (TSx C lb vL vO) W).next t1 (TEx.up (λk hk=>.inl hk))) (λk hk=>(ho1 k hk).imp_right (λh1=>t_ HbW.o.size h1)));clear hR1 t1 ho1;go_wp2_with fail;exact bodyPost_ret (v:=.tuple #[]) (by simp[results,results98,go_sem]) rfl HF
 ·have HCl:=hide (key _ _ e1);obtain⟨o1,v1,s1⟩:=HO _ _ e1;have hz1:z1.l=z.l:=s1.2.2.2;have key2 : ∀(w1:World) (vl1:Int) (vI1 vO1:Value),RS C w1 0 false vl1 lb vL vI1 vO1 z1->∀(r2:ER) (z2:ES),Ev C.t C.fr n (.e s.f) z1 r2 z2->Calls prog 131 #[.pointer (some ⟨C.P,0,none⟩),.slice fa fn fc] w1 λx w'=>ExP C w1 lb vL vO1 r2 z2 x w':=λw1 vl1 vI1 vO1 hR1 r2 z2 h2'=>IH s.f z1 r2 z2 h2' (by rw[hz1];exact hKn.f) (by rw[hz1];exact hsc) h2 hl2 w1 vl1 lb vL vI1 vO1 _ hR1 hNf;obtain⟨HK2,HO1,HZ1,HRe⟩:=h4 key2 o1 hz1 hrest;clear key HO HIH HNf H2 HL2 hE hC hKn hsc IH h1 h2 hl1 hl2 hNe hNf hRW hT0 hfr h hbW e1 g1 g3 hk key2 o1 v1 s1 hz1 hrest;go_enter func98,ntmps98;go_wp2_with fail;rw[<-hW,<-hB];clear hB hW;refine HCl.o.mono ?_;rintro x w1 ⟨z0,vI1,vO1,vl1,rfl,hz,hR1,t1,ho1⟩;obtain rfl:v=z0:=(hz v rfl).symm;clear hz;have y8:=(hR1.box 8 _ rfl).1;simp only[stR] at y8 hR1;have hfr1:=HFr.o.tcs HBW t1 (λhx=>by have:=HT0.o _ hx;omega);have HT1:=hide t1;have g1:=(hfr1 1 _ rfl).1;have g3:=(hfr1 3 _ rfl).1;obtain⟨HFr1,HOw,HBs,HT1'⟩:=h4 hfr1 ho1 (l_ HBW t1.size) ((Tcs.refl (TSx C lb vL vO) W).next t1 (TEx.up (λk hk=>.inl hk)));have HB1:Hid (∀k,TEx C vO1 k->k≠B):=λk hk e=>by
   rcases hk with hk|hk|hk
   ·have:=HT0.o k (.inl hk);omega
   ·have:=HT0.o k (.inr (.inl hk));omega
   ·rcases ho1 k hk with h1|h1
    ·have:=HT0.o k (.inr (.inr h1));omega
    ·have:=HBW.o;omega
  have hup : ∀k,TEx C vO1 k->TSx C lb vL vO k∨W.heap.size<=k:=TEx.up ho1;have HUp:=hide hup;rcases HRe.o with ⟨c,rfl,e2⟩|⟨q,z2,e2,hr⟩
  ·have hc0:(c == 0)=false:=by rcases e2.outc c rfl with rfl|rfl <;> rfl
   have hc1:(c != 0)=true:=by rcases e2.outc c rfl with rfl|rfl <;> rfl
   have HC2:=hide (HK2 w1 vl1 vI1 vO1 hR1 _ _ e2);clear hR1 t1 ho1 hfr1 hup e2 HK2 HRe;go_wp2_with fail;refine HC2.o.mono ?_;rintro x w2 ⟨z3,vI2,vO2,vl2,rfl,-,hR2,t2,ho2⟩;have y8:=(hR2.box 8 _ rfl).1;simp only[stR] at y8;have HF:=hide (HFin w2 (.out c) z' vI2 vO2 vl2 hR2 (λv hv=>by cases hv) (HT1'.o.next t2 HUp) (λk hk=>by
    rcases ho2 k hk with h1|h1
    ·exact (HOw k h1).imp_right (λh1=>t_ HbW.o.size h1)
    ·exact .inr (t_ (t_ HbW.o.size HT1.o.size) h1)))
   clear hR2 t2 ho2;go_wp2_with fail;exact bodyPost_ret (v:=.tuple #[]) (by simp[results,results98,go_sem]) rfl HF
  ·have HC2:=hide (HK2 w1 vl1 vI1 vO1 hR1 _ _ e2);obtain⟨o2,v2,s2⟩:=e2.inv HO1 trivial;have hz2:z2.l=z.l:=s2.2.2.2.trans HZ1;obtain⟨HZ2,HQ,HR⟩:=h3 hz2 (v2 q (.inl rfl)) hr;clear hR1 t1 ho1 hfr1 hup e2 HK2 HRe o2 v2 s2 hz2 hr;go_wp2_with fail;refine HC2.o.mono ?_;rintro x w2 ⟨z3,vI2,vO2,vl2,rfl,hz,hR2,t2,ho2⟩;obtain rfl:q=z3:=(hz q rfl).symm;clear hz;have y8:=(hR2.box 8 _ rfl).1;simp only[stR] at y8 hR2;have hfr2:=HFr1.o.tcs HBs t2 (λhx=>HB1 _ hx rfl);have g1:=(hfr2 1 _ rfl).1;have HT2:=hide (HT1'.o.next t2 HUp);have HO2:Hid (∀k,vO2.ownBlock=some k->vO.ownBlock=some k∨w.heap.size<=k):=λk hk=>by
    rcases ho2 k hk with h1|h1
    ·exact (HOw k h1).imp_right (λh1=>t_ HbW.o.size h1)
    ·exact .inr (t_ (t_ HbW.o.size HT1.o.size) h1)
   have HR2:=hide hR2;clear hR2 t2 ho2 hfr2;go_wp2_with fail;obtain⟨hnn,hgp⟩:=HKn.o.store hk0.out;refine (find_any s.name HR2 HC (by rw[HZ2.o];exact HSc.o.1)).mono ?_;rintro x w3 ⟨vv,rfl,hF,hb3⟩;have hnn':s.name∉z2.l.map Prod.fst:=by rw[HZ2.o];exact hnn
   obtain⟨bw,hvv,hn0,hn1,hbl,hbm,hcs⟩:=find_arr HR2 HC hF hnn' o_;have hR3:=HR2.o.below hb3;have HSt:=hide (λ(k:Nat)=>hR3.st HC hF hnn' o_ hvv k HQ);subst hvv;have y8:=(hR3.box 8 _ rfl).1;have z8:=(hR3.box 8 _ rfl).2;obtain⟨HR3,HT3⟩:=h2 hR3 (HT2.o.of_below hb3);obtain⟨wl,hwl⟩ : ∃wl,wl=(z2.ws C.t s.name).length:=⟨_,rfl⟩;have hr:=HR;rw[<-hwl] at hn0 hn1 hcs hr ⊢;clear hR3 hF hwl;rcases hr with ⟨hin,rfl,rfl⟩|⟨hin,rfl,rfl⟩
   ·have hdec:decide ((0:Int)<=v/\v<=(wl:Int)-1)=false:=decide_eq_false o_;have HF:=hide (HFin (w3.setCell ⟨C.P,8,none⟩ (.int .i64 3)) (.out 3) z' vI2 vO2 vl2 (HR3.o.dry 3) (λv hv=>by cases hv) (HT3.o.setCell (p:=⟨C.P,8,none⟩) (.inl (.inl rfl)) _) HO2);clear hcs hb3 HSt HR;go_wp2_with fail;refine (in_any _ _ _ _).mono ?_;rintro x w4 ⟨rfl,hw4⟩;rw[hw4,hdec];clear hw4;go_wp2_with fail;exact bodyPost_ret (v:=.tuple #[]) (by simp[results,results98,go_sem]) rfl HF
   ·obtain⟨k,rfl⟩ : ∃k:Nat,v=k:=⟨v.toNat,by omega⟩;have hkl:k<wl:=by omega
    have hck:=(hb3.cell (p:=⟨bw,k,none⟩) hbl).trans (hcs k hkl).1;have hfk:=(hb3.frozen (p:=⟨bw,k,none⟩) hbl).trans (hcs k hkl).2;have hdec:decide ((0:Int)<=(k:Int)/\(k:Int)<=(wl:Int)-1)=true:=decide_eq_true o_;have HF:=hide (HFin (w3.setCell ⟨bw,k,none⟩ (.int .i64 q)) .on (z2.st C.t s.name k q) vI2 vO2 vl2 (HSt k) (λv hv=>by cases hv) (HT3.o.setCell (p:=⟨bw,k,none⟩) (.inl (.inr (.inl hbm))) _) HO2);clear hcs hb3 HSt HR;go_wp2_with fail;refine (in_any _ _ _ _).mono ?_;rintro x w4 ⟨rfl,hw4⟩;rw[hw4,hdec];clear hw4;go_wp2_with fail;exact bodyPost_end (v:=.tuple #[]) (by simp[results,results98,go_sem]) rfl HF
end
section
variable {n:Nat} {C:RC} {w:World} {vl:Int} {lb:List Nat} {vL vI vO:Value} {s:ES}
def Wh (t:Tr) (fr:List Int) (n:Nat) (s:St) (a b:List St) (v:Int) (z1:ES) (r:ER) (z':ES):Prop:=(v=0/\r=.on/\z'=z1)∨(v≠0/\∃rb zb,Ev t fr n (.bl a) z1 rb zb/\((rb ≠ .on/\r=rb/\z'=zb)∨(rb=.on/\zb.u=0/\r=.out 2/\z'=zb)∨(rb=.on/\0<zb.u/\Ev t fr n (.p s a b) zb.sp r z')))
theorem ev_stmt {t:Tr} {fr:List Int} {s:St} {a b:List St} {z:ES} {r:ER} {z':ES} (h:Ev t fr (n+1) (.p s a b) z r z') (hk:s.kind≠3):(∃c,r=.out c/\Ev t fr n (.e s.e) z (.out c) z')∨∃v z1,Ev t fr n (.e s.e) z (.val v) z1/\((s.kind=1/\r=.on/\z' = {z1 with l:=z1.l++[(s.name,v)]})∨(s.kind=2/\r=.on/\z'=z1.wr t s.name v)∨(s.kind=6/\r=.ret v/\z'=z1)∨(s.kind=7/\r=.on/\z' = {z1 with o:=z1.o++[v]})∨(s.kind=8/\r=.on/\z'=z1)∨(s.kind=4/\(v≠0/\Ev t fr n (.bl a) z1 r z'∨v=0/\Ev t fr n (.bl b) z1 r z'))∨(s.kind=5/\Wh t fr n s a b v z1 r z')):=by
 cases h using Ev_i with
 | pbad _ _ _ _ _ c _ h1=>exact .inl ⟨c,rfl,h1⟩
 | sbad _ _ _ _ _ v z1 c _ h1 h2 h3=>exact absurd h1 hk
 | smis _ _ _ _ _ v z1 x _ h1 h2 h3 h4=>exact absurd h1 hk
 | stor _ _ _ _ _ v z1 x _ h1 h2 h3 h4=>exact absurd h1 hk
 | decl _ _ _ _ _ v z1 h1 h2=>exact .inr ⟨v,z1,h2,.inl ⟨h1,rfl,rfl⟩⟩
 | set _ _ _ _ _ v z1 h1 h2=>exact .inr ⟨v,z1,h2,.inr (.inl ⟨h1,rfl,rfl⟩)⟩
 | ifth _ _ _ _ _ v z1 _ _ h1 h2 h3 h4=>exact .inr ⟨v,z1,h2,.inr (.inr (.inr (.inr (.inr (.inl ⟨h1,.inl ⟨h3,h4⟩⟩)))))⟩
 | ifel _ _ _ _ _ z1 _ _ h1 h2 h3=>exact .inr ⟨0,z1,h2,.inr (.inr (.inr (.inr (.inr (.inl ⟨h1,.inr ⟨rfl,h3⟩⟩)))))⟩
 | whno _ _ _ _ _ z1 h1 h2=>exact .inr ⟨0,_,h2,.inr (.inr (.inr (.inr (.inr (.inr ⟨h1,.inl ⟨rfl,rfl,rfl⟩⟩)))))⟩
 | whn _ _ _ _ _ v z1 _ _ h1 h2 h3 h4 h5=>exact .inr ⟨v,z1,h2,.inr (.inr (.inr (.inr (.inr (.inr ⟨h1,.inr ⟨h3,_,_,h4,.inl ⟨h5,rfl,rfl⟩⟩⟩)))))⟩
 | whdr _ _ _ _ _ v z1 _ h1 h2 h3 h4 h5=>exact .inr ⟨v,z1,h2,.inr (.inr (.inr (.inr (.inr (.inr ⟨h1,.inr ⟨h3,_,_,h4,.inr (.inl ⟨rfl,h5,rfl,rfl⟩)⟩⟩)))))⟩
 | whag _ _ _ _ _ v z1 z2 _ _ h1 h2 h3 h4 h5 h6=>exact .inr ⟨v,z1,h2,.inr (.inr (.inr (.inr (.inr (.inr ⟨h1,.inr ⟨h3,_,_,h4,.inr (.inr ⟨rfl,h5,h6⟩)⟩⟩)))))⟩
 | retn _ _ _ _ _ v z1 h1 h2=>exact .inr ⟨v,_,h2,.inr (.inr (.inl ⟨h1,rfl,rfl⟩))⟩
 | tell _ _ _ _ _ v z1 h1 h2=>exact .inr ⟨v,z1,h2,.inr (.inr (.inr (.inl ⟨h1,rfl,rfl⟩)))⟩
 | only _ _ _ _ _ v z1 h1 h2=>exact .inr ⟨v,_,h2,.inr (.inr (.inr (.inr (.inl ⟨h1,rfl,rfl⟩))))⟩
theorem RS.wr {c:Int} {rt:Bool} {x:ByteArray} {vv:Value} {b:Nat} {m:Nat} (h:RS C w c rt vl lb vL vI vO s) (hC:C.Ok) (hF:FindV C lb s x vv) (hk:x∈s.l.map Prod.fst∨(x∉s.l.map Prod.fst/\0<=globI C.t.globals x)) (hv:vv=.slice (some ⟨b,0,none⟩) n m) {v:Int} (hi:inB v):RS C (w.setCell ⟨b,0,none⟩ (.int .i64 v)) c rt vl lb vL vI vO (s.wr C.t x v):=by
 rcases hk with hk|⟨hk,hg⟩
 ·obtain⟨j,hj,h1,h2⟩:=lix_mem.1 hk;have hjb:j<lb.length:=by rw[h.ll];exact hj
  have e1:lb.getD j 0=lb[j]:=by simp[List.getD,hjb]
  have:=hF.1 j h1
  rw[hv,e1] at this;simp only[Value.slice.injEq,Option.some.injEq,Addr.mk.injEq] at this;obtain⟨⟨rfl,-⟩,-⟩:=this;have hs:s.wr C.t x v = {s with l:=s.l.set j ((s.l[j]).1,v)}:=by unfold ES.wr;rw[h1,h2]
  exact h.wl j hj hjb hs (wr_ok h.ok x hi)
 ·obtain⟨k,hkl,h1,h2⟩:=gix_glob hg;have hkb:k<C.gb.length:=by rw[hC.gbl];exact hkl
  have e1:C.gb.getD k 0=C.gb[k]:=by simp[List.getD,hkb]
  have:=hF.2 (lix_no hk) k h1
  rw[hv,e1] at this;simp only[Value.slice.injEq,Option.some.injEq,Addr.mk.injEq] at this;obtain⟨⟨rfl,-⟩,-⟩:=this;have hs:s.wr C.t x v = {s with g:=s.g.set k ((s.g.getD k []).set 0 v)}:=by unfold ES.wr;rw[lix_no hk,h1]
  exact h.wg k 0 hkb hs (wr_ok h.ok x hi)
theorem RS.retd (h:RS C w 0 false vl lb vL vI vO s) (v:Int):RS C ((w.setCell ⟨C.P,9,none⟩ (.bool true)).setCell ⟨C.P,10,none⟩ (.int .i64 v)) 0 true v lb vL vI vO s:=
 (h.boxed 9 (.bool true) (rt':=true) rfl rfl rfl rfl h.inp h.ok h.uu h.nn).boxed 10 (.int .i64 v) rfl rfl rfl rfl h.inp h.ok h.uu h.nn
end
end Go.Proofs.YtffnkkpmlplfeaaGreatDoor
