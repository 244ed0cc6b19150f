import Derived.Test.YtffnkkpmlplfeaaGreatDoorF04
import Derived.Test.YtffnkkpmlplfeaaGreatDoorF11
import Derived.Test.YtffnkkpmlplfeaaGreatDoorF22
import Derived.Test.YtffnkkpmlplfeaaGreatDoorF21
import Derived.Test.YtffnkkpmlplfeaaGreatDoorF12
namespace Go.Proofs.YtffnkkpmlplfeaaGreatDoor
open Go.Value Go.World List
open Go.Proofs.Tryz Go.RowKit
set_option linter.all false
set_option maxRecDepth 100000
set_option maxHeartbeats 0
variable[Inhabited Pick]
def dV(g:Gl):Nat:=if g.size=0 then 1 else g.size.toNat
def uh(w:AT)(cs:Array BY)(t:GC)(Z:cs.size<=10000000):aK (w.alloc (.cells cs t)) w.heap.size cs.toList:=by
 intro j x J;have h:(w.alloc (.cells cs t)).ownsRow w.heap.size t 1 (rV w.heap.size cs.size cs.size) cs.size cs.toList:=ownsRow_lit w cs cs.size n_ (by unfold maxLen;omega) o_;have I:=ownsRow.cells h (g:=w.heap.size) rfl j x J;have e:(⟨w.heap.size,0,none⟩:Addr).add j=⟨w.heap.size,j,none⟩:=by
  simp[Addr.add];try (intro h;omega)
 rw[e]at I;refine⟨I,?_⟩;rcases h.2 with⟨e,-⟩|⟨g,Y,U,e,h3,h4,h5⟩
 ·simp at e
 ·simp only[Value.slice.injEq,GD,Addr.mk.injEq]at e;obtain⟨⟨rfl,-,-⟩,-,-⟩:=e;unfold frozen?;simp only[h4];simp
def Bh(n:Nat):List BY:=List.replicate n (V 0)
def vD(g:Gl):List Int:=List.replicate (dV g) 0
def gv(t:Tr)(i:List Int)(F:Int):ES:=⟨t.globals.map vD,[],i,[],F.toNat,0,0⟩
def pd(g:Gl):(vD g).length=dV g:=by simp[vD]
def ui(g:Gl):(vD g).map (Value.int .i64)=Bh (dV g):=by simp[vD,Bh]
def cI:ER->Int
 | .inl v =>v
 | .inr (.inr (.inl v)) =>v
 | _=>0
def Bi:ER->Int
 | .inr (.inr (.inr c)) =>c
 | _=>1
def nE:(prog.info? 2).map (λi=>(i.zero,i.size,i.bytes))=some (some (V 0),1,8):=by kernel_rfl
def yI(N:Nat)(hN:N<=4000)(W:AT):(Instr.makeSlice 26 (V (N:Int)) (V (N:Int))).run prog W=.ok (rV W.heap.size N N) (W.alloc (.cells (Array.replicate N (V 0)) 2)):=by
 obtain⟨I,Z,Y,U,J⟩:=info_parts nE;have h:=run_make (P:=prog) W 26 2 I (V 0) underlying26 Z Y .i64 .i64 (N:Int) (N:Int) o_ (Int.le_refl _) (by rw[J];omega) o_;rw[U]at h;have e:madeCells (Value.int .i64 0).cells ((N:Int).toNat*1)=Array.replicate N (V 0):=by
  apply Array.ext
  ·simp[madeCells]
  ·intro i h1 h2;simp[madeCells,cells,Nat.mod_one]
 rw[e,Int.toNat_natCast]at h;exact h
structure RC where
 w0:AT
 t:Tr
 fr:List Int
 vg:BY
 vf:BY
 vFr:BY
 P:Nat
 bG:Nat
 ga:Option Addr
 gc:Nat
 gb:List Nat
 F:Int
def RC.K(C:RC)(lb:List Nat):List Nat:=C.P::C.bG::(C.gb++lb)
def fW(w0:AT)(v:BY)(l:List Int):Prop:=∃a c,v=.slice a l.length c/\l.length<=c/\c<=9223372036854775807/\(0<l.length->∃b off,a=some ⟨b,off,none⟩/\∀j (h:j<l.length),w0.cell? ⟨b,off+j,none⟩=some (V l[j]))
structure RC.Ok (C:RC):Prop where
 gs:cK C.w0 C.vg C.t.globals
 fs:bC C.w0 C.vf C.t.funcs
 frs:fW C.w0 C.vFr C.fr
 snd:(aU C.t).1=0
 frl:C.fr.length=C.t.funcs.length
 frb:∀x∈C.fr,0<=x/\x<=1000000000
 gbl:C.gb.length=C.t.globals.length
 fu:0<=C.F/\C.F<=100000
 sm:C.t.globals.length<=1000/\C.t.funcs.length<=1000
 gav:0<C.t.globals.length->C.ga=some ⟨C.bG,0,none⟩
def lcl(x:GA×Int)(b:Nat):List BY:=[sV x.1,rV b 1 1]
def bD(l:List (GA×Int))(lb:List Nat):List BY:=(l.zip lb).flatMap (λx=>lcl x.1 x.2)
theorem vY{l:List (GA×Int)}{lb:List Nat}(h:lb.length=l.length):(bD l lb).length=l.length*2:=by
 induction l generalizing lb with
 | nil=>simp[bD]
 | cons x r ih=>
  cases lb with
  | nil=>simp at h
  | cons b q=>
   have:=ih (lb:=q) (Fc h)
   have e:bD (x::r) (b::q)=lcl x b++bD r q:=by simp[bD]
   rw[e,l_a,this];simp[lcl];omega
theorem j8:∀(l:List (GA×Int)) (lb:List Nat) (h:lb.length=l.length) (j i:Nat) (hj:j<l.length),i<2->(bD l lb)[j*2+i]? =(lcl l[j] (lb[j]'(by omega)))[i]?
 | x::l,b::lb,h,0,i,_,hi=>by
  have h2:(lcl x b).length=2:=rfl;have e:bD (x::l) (b::lb)=lcl x b++bD l lb:=by simp[bD]
  rw[e,getElem?_append_left o_];simp
 | x::l,b::lb,h,j+1,i,hj,hi=>by
  have h2:(lcl x b).length=2:=rfl;have e:bD (x::l) (b::lb)=lcl x b++bD l lb:=by simp[bD]
  rw[e,getElem?_append_right o_];have I:(j+1)*2+i-(lcl x b).length=j*2+i:=o_;rw[I,j8 l lb (Fc h) j i (Fc hj) hi];simp
def sD{l:List (GA×Int)}{lb:List Nat}(h:lb.length=l.length)(x:GA×Int)(b:Nat):bD (l++[x]) (lb++[b])=bD l lb++lcl x b:=by
 unfold bD;rw[zip_append o_,flatMap_append];simp
theorem vZ{l:List (GA×Int)}{lb:List Nat}(j:Nat)(x:GA×Int)(h:∀hj:j<l.length,(l[j]).1=x.1)(I:lb.length=l.length):bD (l.set j x) lb=bD l lb:=by
 induction l generalizing lb j with
 | nil=>rfl
 | cons y r ih=>
  cases lb with
  | nil=>simp at I
  | cons b q=>
   cases j with
   | zero=>
    have:=h i_
    simp only[getElem_cons_zero]at this;simp[bD,lcl,this]
   | succ j=>
    have:=ih (lb:=q) j (λhj=>by have:=h (Fc hj);simpa using this) (Fc I)
    have U:bD ((y::r).set (j+1) x) (b::q)=lcl y b++bD (r.set j x) q:=by simp[bD]
    have J:bD (y::r) (b::q)=lcl y b++bD r q:=by simp[bD]
    rw[U,J,this]
theorem sE{l:List (GA×Int)}{lb:List Nat}(k:Nat)(h:lb.length=l.length):(bD l lb).take (k*2)=bD (l.take k) (lb.take k):=by
 induction k generalizing l lb with
 | zero=>simp[bD]
 | succ k ih=>
  cases l with
  | nil=>simp[bD]
  | cons y r=>
   cases lb with
   | nil=>simp at h
   | cons b q=>
    have I:bD (y::r) (b::q)=lcl y b++bD r q:=by simp[bD]
    have J:bD ((y::r).take (k+1)) ((b::q).take (k+1))=lcl y b++bD (r.take k) (q.take k):=by simp[bD]
    rw[J,I,show(k+1)*2=k*2+2 by omega,<-ih (Fc h)];rfl
structure RS (C:RC) (w:AT) (st:Int) (rt:Bool) (vl:Int) (lb:List Nat) (vL vI vO:BY) (s:ES):Prop where
 bel:Below C.w0.heap.size C.w0 w
 box:aK w C.P [C.vg,C.vf,.slice C.ga C.t.globals.length C.gc,vL,vI,vO,V C.F,V (C.F-s.u),V st,.bool rt,V vl,C.vFr,V s.n,V s.d]
 grow:∀k (hk:k<C.t.globals.length) (hb:k<C.gb.length),w.cell? ⟨C.bG,k*2,none⟩=some (sV C.t.globals[k].name)/\w.cell? ⟨C.bG,k*2+1,none⟩=some (.slice (some ⟨C.gb[k],0,none⟩) (s.g.getD k []).length (s.g.getD k []).length)
 gl:s.g.length=C.gb.length
 gw:∀k (hk:k<C.gb.length),aK w C.gb[k] ((s.g.getD k []).map (Value.int .i64))
 g1:∀k (hk:k<s.g.length),1<=(s.g[k]).length/\(s.g[k]).length<=1000000
 ll:lb.length=s.l.length
 lrow:w.ownsRow C.w0.heap.size 65 2 vL s.l.length (bD s.l lb)
 lw:∀j (hj:j<lb.length) (hl:j<s.l.length),aK w lb[j] [V s.l[j].2]
 inp:fW C.w0 vI s.i
 out:w.ownsRow C.w0.heap.size 2 1 vO s.o.length (s.o.map (Value.int .i64))
 nd:(C.K lb).Nodup
 rng:∀k∈C.K lb,C.w0.heap.size<=k/\k<w.heap.size
 lo:∀k,vL.ownBlock=some k->k∉C.K lb
 oo:∀k,vO.ownBlock=some k->k∉C.K lb/\vL.ownBlock≠some k
 ok:OkW s
 uu:(s.u:Int)<=C.F/\(s.o.length:Int)+s.u<=C.F
 lm:s.l.length<=200000
 nn:0<=s.n/\s.n+1000000000*s.u<=100001000000000/\0<=s.d/\s.d<=100001000000000
def fj(C:RC)(vO:BY):D6:=λk=>k=C.P∨k∈C.gb∨vO.ownBlock=some k
def f_(C:RC)(lb:List Nat)(vL vO:BY):D6:=λk=>fj C vO k∨k∈lb∨vL.ownBlock=some k
def gJ:ER->Int
 | .inr (.inr (.inr c)) =>c
 | _=>0
def pv:ER->Bool
 | .inr (.inr (.inl _)) =>true
 | _=>false
def RS.hi{C:RC}{w:AT}{st:Int}{rt:Bool}{vl:Int}{lb:List Nat}{vL vI vO:BY}{s:ES}(h:RS C w st rt vl lb vL vI vO s):C.P<w.heap.size/\C.bG<w.heap.size/\C.w0.heap.size<=C.P/\C.w0.heap.size<=C.bG:=
 ⟨(h.rng C.P (by simp[RC.K])).2,(h.rng C.bG (by simp[RC.K])).2,(h.rng C.P (by simp[RC.K])).1,(h.rng C.bG (by simp[RC.K])).1⟩
theorem RS.past{C:RC}{w w':World}{st:Int}{rt:Bool}{vl:Int}{lb:List Nat}{Z vI Y:Value}{s:ES}{S:Nat->Prop}(h:RS C w st rt vl lb Z vI Y s)(J:ak S w w')(U:∀k,S k->C.w0.heap.size<=k/\k∉C.K lb/\Z.ownBlock≠some k/\Y.ownBlock≠some k):RS C w' st rt vl lb Z vI Y s:=by
 obtain⟨p1,p2,p3,p4⟩:=h.hi;have I:∀k,k∈C.K lb->¬S k:=λk I hs=>(U k hs).2.1 I;have Ja:∀k (I:k<C.gb.length),C.gb[k]∈C.K lb:=λk I=>by unfold RC.K;exact m_ _ (m_ _ (List.mem_append_left _ (g_ I)))
 have Jb:∀k (I:k<lb.length),lb[k]∈C.K lb:=λk I=>by unfold RC.K;exact m_ _ (m_ _ (List.mem_append_right _ (g_ I)))
 have hP:C.P∈C.K lb:=by simp[RC.K]
 have hG:C.bG∈C.K lb:=by simp[RC.K]
 have hc:∀o,w'.cell? ⟨C.bG,o,none⟩=w.cell? ⟨C.bG,o,none⟩:=λo=>c_ (J.block C.bG p2 (I _ hG));refine⟨J.below h.bel h.bel.size (λk I=>(U k I).1),h.box.tcs p1 J (I _ hP),λk h1 h2=>⟨(hc _).trans (h.grow k h1 h2).1,(hc _).trans (h.grow k h1 h2).2⟩,h.gl,λk h1=>(h.gw k h1).tcs (h.rng _ (Ja k h1)).2 J (I _ (Ja k h1)),h.g1,h.ll,aO h.lrow J (λk I hs=>(U k hs).2.2.1 I),λj h1 h2=>(h.lw j h1 h2).tcs (h.rng _ (Jb j h1)).2 J (I _ (Jb j h1)),h.inp,aO h.out J (λk I hs=>(U k hs).2.2.2 I),h.nd,λk I=>⟨(h.rng k I).1,l_ (h.rng k I).2 J.size⟩,h.lo,h.oo,h.ok,h.uu,h.lm,h.nn⟩
def RS.below{C:RC}{w w':AT}{st:Int}{rt:Bool}{vl:Int}{lb:List Nat}{vL vI vO:BY}{s:ES}(h:RS C w st rt vl lb vL vI vO s)(hb:Bl w w'):RS C w' st rt vl lb vL vI vO s:=
 h.past (hb.tcs (S:=λ_=>False)) (λk hk=>hk.elim)
theorem RS.boxed{C:RC}{w:World}{st:Int}{rt:Bool}{vl:Int}{lb:List Nat}{U vI Z:Value}{s:ES}(h:RS C w st rt vl lb U vI Z s)(i:Nat)(u:Value){st':Int}{rt':Bool}{vl':Int}{vI':Value}{s':ES}
  (hb:([C.vg,C.vf,.slice C.ga C.t.globals.length C.gc,U,vI,Z,V C.F,V (C.F-s.u),V st,.bool rt,V vl,C.vFr,V s.n,V s.d]:List Value).set i u=[C.vg,C.vf,.slice C.ga C.t.globals.length C.gc,U,vI',Z,V C.F,V (C.F-s'.u),V st',.bool rt',V vl',C.vFr,V s'.n,V s'.d])
  (Y:s'.g=s.g) (hl:s'.l=s.l) (ho:s'.o=s.o) (hi:fW C.w0 vI' s'.i) (I:OkW s') (hu:(s'.u:Int)<=C.F/\(s'.o.length:Int)+s'.u<=C.F) (hn:0<=s'.n/\s'.n+1000000000*s'.u<=100001000000000/\0<=s'.d/\s'.d<=100001000000000):
  RS C (w.setCell ⟨C.P,i,none⟩ u) st' rt' vl' lb U vI' Z s':=by
 obtain⟨p1,p2,p3,p4⟩:=h.hi;have J:ak (λk=>k=C.P) w (w.setCell ⟨C.P,i,none⟩ u):=(ak.refl (λk=>k=C.P) w).setCell (p:=⟨C.P,i,none⟩) rfl u;have Jc:=h.nd;unfold RC.K at Jc;have Ja:C.P∉C.bG::(C.gb++lb):=(List.nodup_cons.1 Jc).1;have Je:∀k (I:k<C.gb.length),C.gb[k]≠C.P:=λk I e=>Ja (e ▸ m_ _ (List.mem_append_left _ (g_ I)));have Jf:∀k (I:k<lb.length),lb[k]≠C.P:=λk I e=>Ja (e ▸ m_ _ (List.mem_append_right _ (g_ I)));have Jd:C.bG≠C.P:=λe=>Ja (e ▸ List.mem_cons_self ..);have gK:∀k (I:k<C.gb.length),C.gb[k]∈C.K lb:=λk I=>by unfold RC.K;exact m_ _ (m_ _ (List.mem_append_left _ (g_ I)))
 have lK:∀k (I:k<lb.length),lb[k]∈C.K lb:=λk I=>by unfold RC.K;exact m_ _ (m_ _ (List.mem_append_right _ (g_ I)))
 have hP:C.P∈C.K lb:=by simp[RC.K]
 have hc:∀o,(w.setCell ⟨C.P,i,none⟩ u).cell? ⟨C.bG,o,none⟩=w.cell? ⟨C.bG,o,none⟩:=λo=>c_ (J.block C.bG p2 Jd);have Jb:=h.box.set i u;rw[hb]at Jb;refine⟨J.below h.bel h.bel.size (λk I=>by omega),Jb,?_,by rw[Y];exact h.gl,?_,?_,by rw[hl];exact h.ll,?_,?_,hi,?_,h.nd,λk I=>⟨(h.rng k I).1,l_ (h.rng k I).2 J.size⟩,h.lo,h.oo,I,hu,by rw[hl];exact h.lm,hn⟩
 ·rw[Y];exact λk h1 h2=>⟨(hc _).trans (h.grow k h1 h2).1,(hc _).trans (h.grow k h1 h2).2⟩
 ·rw[Y];exact λk h1=>(h.gw k h1).tcs (h.rng _ (gK k h1)).2 J (Je k h1)
 ·rw[Y];exact h.g1
 ·rw[hl];exact aO h.lrow J (λk I hs=>h.lo k I (by have e:k=C.P:=hs;rw[e];exact hP))
 ·rw[hl];exact λj h1 h2=>(h.lw j h1 h2).tcs (h.rng _ (lK j h1)).2 J (Jf j h1)
 ·rw[ho];exact aO h.out J (λk I hs=>(h.oo k I).1 (by have e:k=C.P:=hs;rw[e];exact hP))
section
variable{s:ES}{C:RC}{w:AT}{vl c:Int}{lb:List Nat}{vL vI vO:BY}{rt:Bool}{l:List (GA×Int)}{x:GA}{gs:List Gl}
def Es(h:0<s.u):((s.sp.u:Nat):Int)=(s.u:Int)-1:=by simp only[ES.sp];omega
def Et(h:OkW s):OkW s.sp:=⟨h.g,h.l,h.i⟩
def RS.spend(h:RS C w 0 false vl lb vL vI vO s)(U:0<s.u):RS C (w.setCell ⟨C.P,7,none⟩ (V (C.F-s.u+1))) 0 false vl lb vL vI vO s.sp:=by
 have e:=Es U;have I:=h.nn;have Y:=h.uu;refine h.boxed 7 _ ?_ rfl rfl rfl h.inp (Et h.ok) ⟨o_,by have:s.sp.o=s.o:=rfl;rw[this];omega⟩ ⟨I.1,by have:s.sp.n=s.n:=rfl;rw[this];omega,I.2.2.1,I.2.2.2⟩;have J:C.F-(s.u:Int)+1=C.F-(s.sp.u:Int):=o_;rw[J];rfl
def RS.dry(c:Int)(h:RS C w 0 false vl lb vL vI vO s):RS C (w.setCell ⟨C.P,8,none⟩ (V c)) c false vl lb vL vI vO s:=
 h.boxed 8 _ rfl rfl rfl rfl h.inp h.ok h.uu h.nn
def je(h:RS C w 0 false vl lb vL vI vO s)(hu:0<s.u)(hF:0<=C.F/\C.F<=100000):
  Calls prog 97 #[pV C.P] w λe w'=>(∃x,e=rW x)/\RS C w' 0 false vl lb vL vI vO s.sp/\ak (λk=>k=C.P) w w':=by
 have Y:=(h.box 6 _ rfl).1;have J:=(h.box 7 _ rfl).1;have Z:=(h.box 7 _ rfl).2;have c8:=(h.box 8 _ rfl).1;have Jc:=h.uu;have I:Hid (∀n,RS C ((w.drewN n).setCell ⟨C.P,7,none⟩ (V (C.F-s.u+1))) 0 false vl lb vL vI vO s.sp/\ak (λk=>k=C.P) w ((w.drewN n).setCell ⟨C.P,7,none⟩ (V (C.F-s.u+1)))):=λn=>⟨(h.below (below_drewN r_ n)).spend hu,((below_drewN (Below.refl w.heap.size w) n).tcs (S:=λk=>k=C.P)).setCell (p:=⟨C.P,7,none⟩) rfl _⟩;generalize hU:C.F-(s.u:Int)=U at J I;have Ja:(U == C.F)=false:=by simp;omega
 have Jb:0<=U/\U<=100000:=o_;generalize C.P=P at Y J Z c8 I⊢;generalize C.F=F at Y Ja hF;go_in;go_wp2_with fail;go_quiet (fail);go_wp2_with fail;exact bodyPost_end (v:=.tuple #[]) (by simp[results,results97,go_sem]) rfl ⟨⟨_,rfl⟩,I _⟩
def mf(h:RS C w 0 false vl lb vL vI vO s)(hu:s.u=0):
  Calls prog 97 #[pV C.P] w λe w'=>(∃x,e=rW x)/\RS C w' 2 false vl lb vL vI vO s/\ak (λk=>k=C.P) w w':=by
 have J:=(h.box 6 _ rfl).1;have I:DO w C.P 7 (V C.F):=by have:=(h.box 7 _ rfl).1;rw[hu]at this;simpa using this
 have Z:=(h.box 8 _ rfl).1;have Y:=(h.box 8 _ rfl).2;have U:Hid (∀n,RS C ((w.drewN n).setCell ⟨C.P,8,none⟩ (V 2)) 2 false vl lb vL vI vO s/\ak (λk=>k=C.P) w ((w.drewN n).setCell ⟨C.P,8,none⟩ (V 2))):=λn=>⟨(h.below (below_drewN r_ n)).dry 2,((below_drewN (Below.refl w.heap.size w) n).tcs (S:=λk=>k=C.P)).setCell (p:=⟨C.P,8,none⟩) rfl _⟩;generalize C.P=P at J I Y Z U⊢;generalize C.F=F at J I;go_in;go_wp2_with fail;go_quiet (fail)
 go_wp2_with fail;exact bodyPost_ret (v:=.tuple #[]) (by simp[results,results97,go_sem]) rfl ⟨⟨_,rfl⟩,U _⟩
def jf(h:RS C w c rt vl lb vL vI vO s)(J:c≠0):
  Calls prog 97 #[pV C.P] w λe w'=>(∃x,e=rW x)/\w'=w:=by
 have I:=(h.box 8 _ rfl).1;have U:(c == 0)=false:=Fc J
 generalize C.P=P at I⊢;go_in;go_wp2_with fail;exact bodyPost_ret (v:=.tuple #[]) (by simp[results,results97,go_sem]) rfl ⟨⟨_,rfl⟩,rfl⟩
def gC(h:RS C w c rt vl lb vL vI vO s):
  Calls prog 96 #[pV C.P] w λe w'=>e=rW (.bool (decide (c=0) && !rt))/\w'=w:=by
 have I:=(h.box 8 _ rfl).1;have U:=(h.box 9 _ rfl).1;generalize C.P=P at I U⊢;by_cases hc:c=0
 ·subst hc;cases rt
  ·go_in;go_wp2;go_ret;exact⟨rfl,rfl⟩
  ·go_in;go_wp2;go_ret;exact⟨rfl,rfl⟩
 ·have Y:(c == 0)=false:=Fc hc
  have J:Hid ((decide (c=0) && !rt)=false):=by show _=_;simp[hc]
  go_in;go_wp2;go_ret;exact⟨aj J.o.symm,rfl⟩
def yU{j:Nat}(U:(l.map Prod.fst).Nodup)(h:j<l.length)(I:(l[j]).1=x):rG l x=some j:=by
 unfold rG;rw[findIdx?_eq_some_iff_getElem];refine⟨h,Fc I,λk hk=>?_⟩;simp only[GF];intro e;have J:k<l.length:=o_;have h2:=(pairwise_iff_getElem.1 U) k j (Fc J) (Fc h) hk;apply h2;simp[I,e]
def qG(h:∀j (hj:j<l.length),(l[j]).1≠x):rG l x=none:=by
 unfold rG;rw[findIdx?_eq_none_iff];intro y I;obtain⟨j,hj,rfl⟩:=getElem_of_mem I;simpa using h j hj
def qH{k:Nat}(J:k<gs.length)(I:∀j (hj:j<gs.length),j<k->gs[j].name≠x)(h:gs[k].name=x):gV gs x=some k:=by
 unfold gV;rw[findIdx?_eq_some_iff_getElem];exact⟨J,Fc h,λj hj=>by simpa using I j o_ hj⟩
def qI(h:∀j (hj:j<gs.length),gs[j].name≠x):gV gs x=none:=by
 unfold gV;rw[findIdx?_eq_none_iff];intro y I;obtain⟨j,hj,rfl⟩:=getElem_of_mem I;simpa using h j hj
def kB(C:RC)(lb:List Nat)(s:ES)(x:GA)(v:BY):Prop:=(∀j,rG s.l x=some j->v=.slice (some ⟨lb.getD j 0,0,none⟩) 1 1)/\(rG s.l x=none->∀k,gV C.t.globals x=some k->v=.slice (some ⟨C.gb.getD k 0,0,none⟩) (s.g.getD k []).length (s.g.getD k []).length)
theorem jK(x:ByteArray)(h:RS C w c rt vl lb vL vI vO s)(hC:C.Ok)(hn:(s.l.map Prod.fst).Nodup):
  Calls prog 132 #[pV C.P,sV x] w λe w'=>∃v,e=rW v/\kB C lb s x v/\Below w.heap.size w w':=by
 have c2:=(h.box 2 _ rfl).1;have c3:=(h.box 3 _ rfl).1;have Jq:=hC.sm.1;have Jx:=h.lm;have Je:=ah hC.gbl;have Jp:=ah h.grow;have Ja:w.ownsRow C.w0.heap.size 65 2 vL s.l.length (bD s.l lb):=h.lrow;obtain⟨La,Lc,eL,-⟩:=bj Ja;subst eL;have Ju:Hid (∀j (hj:j<s.l.length),∃bL,La=some ⟨bL,0,none⟩/\w.cell? ⟨bL,j*2,none⟩=some (sV (s.l[j]).1)/\w.cell? ⟨bL,j*2+1,none⟩=some (.slice (some ⟨lb.getD j 0,0,none⟩) 1 1)):=λj hj=>by
  rcases Ja.2 with⟨-,hz⟩|⟨g,Xa,Xb,e,-⟩
  ·omega
  ·simp only[Value.slice.injEq]at e;obtain⟨rfl,-,rfl⟩:=e;have Xc:=vY h.ll;have Jt:j<lb.length:=by rw[h.ll];exact hj
   refine⟨g,rfl,?_,?_⟩
   ·have:=World.ownsRow.cellAt Ja (j*2) o_
    rw[this];have:=j8 s.l lb h.ll j 0 hj o_;simpa[lcl]using this
   ·have:=World.ownsRow.cellAt Ja (j*2+1) o_
    rw[this,j8 s.l lb h.ll j 1 hj o_];simp[lcl,List.getD,Jt]
 have HN:=ah hn;have Jn:=hC.gav;generalize hG:C.t.globals=gs at c2 Je Jp Jq Jn;have Jo:=ah Jn;generalize C.ga=Ga at c2 Jo;obtain⟨ll,Jf⟩:=q_ s.l.length;obtain⟨gn,Ji⟩:=q_ gs.length;rw[<-Jf]at c3 Jx;rw[<-Ji]at c2 Jq;obtain⟨Jl,Jm⟩:=h2 Jf Ji;have Jy:Hid (∀k v,rG s.l x=none->gV gs x=some k->v=.slice (some ⟨C.gb.getD k 0,0,none⟩) (s.g.getD k []).length (s.g.getD k []).length->kB C lb s x v):=λk v h1 h2 h3=>⟨λj hj=>(by rw[h1]at hj;cases hj),λ_ k' hk'=>by rw[hG,h2]at hk';cases hk';exact h3⟩;have Jv:Hid (∀v,rG s.l x=none->gV gs x=none->kB C lb s x v):=λv h1 h2=>⟨λj hj=>(by rw[h1]at hj;cases hj),λ_ k' hk'=>by rw[hG,h2]at hk';cases hk'⟩;generalize C.P=P at c2 c3⊢;clear hn Ja h hC hG Jf Ji;go_in;go_wp2;go_loopw[5] (λi wr=>∃k:Nat,k<=ll/\i=V ((k:Int)-1)/\(∀j (hj:j<s.l.length),k<=j->(s.l[j]).1≠x)/\wr=w) (λi _=>(RowKit.intOf i+1).toNat)
 case atStart=>exact⟨ll,n_,by first|rfl|simp,λj hj h=>by have:=Jl.out;omega,rfl⟩
 case round=>
  obtain⟨k,hk,rfl,Jd,Jj⟩:=hrel;rw[Jj];have Y:=ah Jd;clear Jd;by_cases hp:0<k
  ·obtain⟨I,rfl⟩:∃I,k=I+1:=⟨k-1,o_⟩;have U:I<s.l.length:=by have:=Jl.out;omega
   obtain⟨bL,rfl,y0,Z⟩:=Ju I U;have e1:(((I+1:Nat):Int)-1)=(I:Int):=o_;rw[e1];have Jz:I<ll:=o_
   by_cases hs:(s.l[I]).1=x
   ·have J:Hid (kB C lb s x (.slice (some ⟨lb.getD I 0,0,none⟩) 1 1)):=by
     have hl:=yU HN U hs;exact⟨λj hj=>by rw[hl]at hj;cases hj;rfl,λh0=>by rw[hl]at h0;cases h0⟩
    rw[hs]at y0;generalize lb.getD I 0=bw at Z J;go_wp2;go_ret;exact⟨_,rfl,J,r_⟩
   ·have Jg:=iW hs;have Jh:Hid (∀j (hj:j<s.l.length),I<=j->(s.l[j]).1≠x):=λj hj h=>by
     by_cases e:j=I
     ·subst e;exact hs
     ·exact Y j hj o_
    generalize (s.l[I]).1=nm at y0 hs Jg;go_wp2;go_roundw
    case rel=>exact⟨I,o_,by first|rfl|go_num,Jh,trivial⟩
    case measure=>simp[RowKit.intOf]
  ·have Jw:k=0:=o_
   subst Jw;have Jk:Hid (rG s.l x=none):=qG (λj hj=>Y j hj y_);clear Y;go_wp2;go_loopw[6] (λi wr=>∃k:Nat,k<=gn/\i=V (k:Int)/\(∀j (hj:j<gs.length),j<k->gs[j].name≠x)/\wr=w) (λi _=>gn-(RowKit.intOf i).toNat)
   case atStart=>exact⟨0,y_,rfl,λj hj h=>by omega,rfl⟩
   case round=>
    obtain⟨k,J_,rfl,Jd,Jj⟩:=hrel;rw[Jj];have Y:=ah Jd;clear Jd;by_cases hlt:k<gn
    ·have U:k<gs.length:=by rw[<-Jm.out];exact hlt
     obtain rfl:=Jo o_;obtain⟨y0,Z⟩:=Jp k U (by rw[Je.out];exact U);have Js:(k:Int)<(gn:Int):=o_
     by_cases hs:gs[k].name=x
     ·have J:=ah (Jy k _ Jk (qH U (λj hj h=>Y j hj h) hs) rfl);have Jr:C.gb[k]'(by rw[Je.out];exact U)=C.gb.getD k 0:=by have hb:k<C.gb.length:=(by rw[Je.out];exact U);simp[List.getD,hb]
      rw[Jr]at Z;rw[hs]at y0;generalize C.gb.getD k 0=bw at Z J;generalize (s.g.getD k []).length=gw at Z J;go_wp2;go_ret;exact⟨_,rfl,J,r_⟩
     ·have Jg:=iW hs;have Jh:Hid (∀j (hj:j<gs.length),j<k+1->gs[j].name≠x):=λj hj h=>by
       by_cases e:j=k
       ·subst e;exact hs
       ·exact Y j hj o_
      clear Z;generalize gs[k].name=nm at y0 hs Jg;go_wp2;go_roundw
      case rel=>exact⟨k+1,o_,by go_num,Jh,trivial⟩
      case measure=>simp[RowKit.intOf];omega
    ·have J:=ah (λv=>Jv v Jk (qI (λj hj=>Y j hj (by have:=Jm.out;omega))));have Js:¬(k:Int)<(gn:Int):=o_
     go_wp2;go_ret;exact⟨_,rfl,J _,r_.alloc n_ _⟩
end
def iz{α:Type}{l:List α}(h:l.Nodup){i j:Nat}(J:i<l.length)(I:j<l.length)(e:l[i]=l[j]):i=j:=by
 rcases Nat.lt_trichotomy i j with h1|h1|h1
 ·exact absurd e ((pairwise_iff_getElem.1 h) i j J I h1)
 ·exact h1
 ·exact absurd e.symm ((pairwise_iff_getElem.1 h) j i I J h1)
def Tk.d:Tk->Nat
 | .inr (.inl (_, _, _)) =>1
 | _=>0
def Ou(d:Nat)(s s':ES):Prop:=s'.u<=s.u/\s'.o.length+s'.u<=s.o.length+s.u+d/\s'.l.length+s'.u<=s.l.length+s.u+d
def Ou.refl(s:ES):Ou 0 s s:=⟨n_,n_,n_⟩
def Ou.trans{d e:Nat}{a b c:ES}(h:Ou d a b)(h':Ou e b c):Ou (d+e) a c:=⟨t_ h'.1 h.1,Fw h.2.1 h'.2.1,Fw h.2.2 h'.2.2⟩
def Ou.more{d e:Nat}{a b:ES}(h:Ou d a b)(hd:d<=e):Ou e a b:=⟨h.1,Ft h.2.1,Ft h.2.2⟩
def Ou.sp(s:ES):Ou 0 s s.sp:=⟨by simp only[ES.sp];omega,by simp only[ES.sp];omega,by simp only[ES.sp];omega⟩
def Ou.paid{s s':ES}(J:0<s.u)(h:Ou 1 s.sp s'):Ou 0 s s':=by
 obtain⟨I,h2,h3⟩:=h;simp only[ES.sp]at I h2 h3;exact⟨o_,o_,o_⟩
def Ou.same{s s':ES}(hu:s'.u=s.u)(ho:s'.o=s.o)(hl:s'.l.length=s.l.length):Ou 0 s s':=⟨o_,by rw[ho];omega,o_⟩
theorem j9{st:Nat->ES}{j:Nat}(h:∀i,i<j->Ou 0 (st i) (st (i+1))):∀i,i<=j->Ou 0 (st 0) (st i)
 | 0,_=>.refl _
 | i+1,hi=>(j9 h i o_).trans (h i o_)
theorem Ev.ou{t:Tr}{fr:List Int}{n:Nat}{k:Tk}{s:ES}{r:ER}{s':ES}(h:Ev t fr n k s r s'):Ou k.d s s':=by
 induction h using Ev_i with
 | kid n e A b st v j c s' h1 h2 h3 h4 h5 h6 i5 i6=>exact(j9 (j:=j) i5 j n_).trans i6
 | dry n e A b st v h1 h2 h3 h4 h5 i4=>exact j9 (j:=A) i4 A n_
 | work n e A b st v h1 h2 h3 h4 h5 h6 i5=>
  obtain⟨y1,y2,y3,Z,y5⟩:=tN t (aB e) v (st A).sp;exact((j9 (j:=A) i5 A n_).trans (.sp _)).trans (.same (rR ..) Z (by rw[y3]))
 | call n e A b st v f r s' h1 h2 h3 h4 h5 h6 i4 i6=>exact((j9 (j:=A) i4 A n_).trans (.sp _)).trans i6
 | left n e b s c s' h1 h2 h3 i3=>exact i3
 | ldry n e b s x s' h1 h2 h3 h4 i3=>exact i3
 | lone n e b s x s' h1 h2 h3 h4 i3=>exact i3.trans (.sp _)
 | rigt n e b s x s1 c s' h1 h2 h3 h4 h5 i3 i5=>exact(i3.trans (.sp _)).trans i5
 | rdry n e b s x s1 y s' h1 h2 h3 h4 h5 h6 i3 i5=>exact(i3.trans (.sp _)).trans i5
 | both n e b s x s1 y s' h1 h2 h3 h4 h5 h6 i3 i5=>exact((i3.trans (.sp _)).trans i5).trans (.sp _)
 | pbad n s a b z c z' h1 i1=>exact i1.more (by simp[Tk.d])
 | decl n s a b z v z' h1 h2 i2=>
  obtain⟨I,U,Y⟩:=i2;simp only[Tk.d]at*;refine⟨I,?_,?_⟩
  ·show z'.o.length+z'.u<=_;omega
  ·show(z'.l++[(s.name,v)]).length+z'.u<=_;simp;omega
 | set n s a b z v z' h1 h2 i2=>
  have J:=yf (t:=t) (s:=z') (x:=s.name) (v:=v);exact(i2.trans (.same (CM ..) J.2.2.2.1 (by have:=congrArg List.length J.2.2.1;simpa using this))).more (by simp[Tk.d])
 | sbad n s a b z v z1 c z' h1 h2 h3 i2 i3=>exact(i2.trans i3).more (by simp[Tk.d])
 | smis n s a b z v z1 x z' h1 h2 h3 h4 i2 i3=>exact(i2.trans i3).more (by simp[Tk.d])
 | stor n s a b z v z1 x z' h1 h2 h3 h4 i2 i3=>
  have J:=yh (t:=t) (s:=z') (x:=s.name) (j:=v.toNat) (v:=x);exact((i2.trans i3).trans (.same (CN ..) J.2.2.2.1 (by rw[J.2.2.1]))).more (by simp[Tk.d])
 | ifth n s a b z v z1 r z' h1 h2 h3 h4 i2 i4=>exact(i2.trans i4).more (by simp[Tk.d])
 | ifel n s a b z z1 r z' h1 h2 h3 i2 i3=>exact(i2.trans i3).more (by simp[Tk.d])
 | whno n s a b z z' h1 h2 i2=>exact i2.more (by simp[Tk.d])
 | whn n s a b z v z1 r z' h1 h2 h3 h4 h5 i2 i4=>exact(i2.trans i4).more (by simp[Tk.d])
 | whdr n s a b z v z1 z' h1 h2 h3 h4 h5 i2 i4=>exact(i2.trans i4).more (by simp[Tk.d])
 | whag n s a b z v z1 z2 r z' h1 h2 h3 h4 h5 h6 i2 i4 i6=>exact((i2.trans i4).trans (Ou.paid h5 i6)).more (by simp[Tk.d])
 | retn n s a b z v z' h1 h2 i2=>exact i2.more (by simp[Tk.d])
 | tell n s a b z v z' h1 h2 i2=>
  obtain⟨I,U,Y⟩:=i2;simp only[Tk.d]at*;refine⟨I,?_,?_⟩
  ·show(z'.o++[v]).length+z'.u<=_;simp;omega
  ·show z'.l.length+z'.u<=_;omega
 | only n s a b z v z' h1 h2 i2=>exact i2.more (by simp[Tk.d])
 | nil n z=>exact .refl _
 | sdry n s q z h1=>exact .refl _
 | send n s q z r z' h1 h2 h3 i2=>exact Ou.paid h1 i2
 | next n s q z z1 r z' h1 h2 h3 i2 i3=>exact(Ou.paid h1 i2).trans i3
 | blk n ss z r z' h1 i1=>
  obtain⟨I,U,Y⟩:=i1;simp only[Tk.d]at*;refine⟨I,U,?_⟩;show(z'.l.take z.l.length).length+z'.u<=_;simp;omega
 | run n f vs z hf r z' h1 i1=>
  obtain⟨I,U,Y⟩:=i1;exact⟨I,U,by show z.l.length+z'.u<=_;have:z'.u<=z.u:=I;omega⟩
theorem RS.wl{C:RC}{w:World}{c:Int}{rt:Bool}{vl:Int}{lb:List Nat}{vL vI vO:Value}{s:ES}(h:RS C w c rt vl lb vL vI vO s)(j:Nat)(hj:j<s.l.length)(Jb:j<lb.length){v:Int}{s':ES}(Y:s'={s with l:=s.l.set j ((s.l[j]).1,v)})(I:OkW s'):
  RS C (w.setCell ⟨lb[j],0,none⟩ (V v)) c rt vl lb vL vI vO s':=by
 obtain⟨p1,p2,p3,p4⟩:=h.hi;have U:ak (λk=>k=lb[j]) w (w.setCell ⟨lb[j],0,none⟩ (V v)):=(ak.refl (λk=>k=lb[j]) w).setCell (p:=⟨lb[j],0,none⟩) rfl _;have Jc:=h.nd;unfold RC.K at Jc;have hm:lb[j]∈lb:=g_ Jb;obtain⟨n1,n2⟩:=List.nodup_cons.1 Jc;obtain⟨n3,n4⟩:=List.nodup_cons.1 n2;obtain⟨n5,n6,n7⟩:=List.nodup_append.1 n4;have hP:C.P≠lb[j]:=λe=>n1 (e ▸ m_ _ (List.mem_append_right _ hm));have hG:C.bG≠lb[j]:=λe=>n3 (e ▸ List.mem_append_right _ hm);have gK:∀k (I:k<C.gb.length),C.gb[k]∈C.K lb:=λk I=>by unfold RC.K;exact m_ _ (m_ _ (List.mem_append_left _ (g_ I)))
 have Z:∀k (I:k<lb.length),lb[k]∈C.K lb:=λk I=>by unfold RC.K;exact m_ _ (m_ _ (List.mem_append_right _ (g_ I)))
 have Je:∀k (I:k<C.gb.length),C.gb[k]≠lb[j]:=λk I=>n7 _ (g_ I) _ hm;have hc:∀o,(w.setCell ⟨lb[j],0,none⟩ (V v)).cell? ⟨C.bG,o,none⟩=w.cell? ⟨C.bG,o,none⟩:=λo=>c_ (U.block C.bG p2 hG);have Jf:=(h.rng _ (Z j Jb)).1;subst Y;refine⟨U.below h.bel h.bel.size (λk I=>by have e:k=lb[j]:=I;omega),h.box.tcs p1 U hP,λk J h2=>⟨(hc _).trans (h.grow k J h2).1,(hc _).trans (h.grow k J h2).2⟩,h.gl,λk J=>(h.gw k J).tcs (h.rng _ (gK k J)).2 U (Je k J),h.g1,?_,?_,?_,h.inp,aO h.out U (λk I Y=>(h.oo k I).1 (by have e:k=lb[j]:=Y;rw[e];exact Z j Jb)),h.nd,λk I=>⟨(h.rng k I).1,l_ (h.rng k I).2 U.size⟩,h.lo,h.oo,I,h.uu,?_,h.nn⟩
 ·show lb.length=(s.l.set j _).length;rw[List.length_set];exact h.ll
 ·show World.ownsRow _ _ _ _ _ (s.l.set j _).length (bD (s.l.set j _) lb);rw[List.length_set,vZ j _ (λ_=>rfl) h.ll];exact aO h.lrow U (λk I Y=>h.lo k I (by have e:k=lb[j]:=Y;rw[e];exact Z j Jb))
 ·intro i J h2;have Ja:i<s.l.length:=by have e:=h2;simpa using e
  by_cases e:i=j
  ·subst e;have:=(h.lw i J Ja).set 0 (V v)
   show aK _ lb[i] [V ((s.l.set i ((s.l[i]).1,v))[i]'(by simpa using Ja)).2];rw[List.getElem_set_self];exact this
  ·have Jd:lb[i]≠lb[j]:=λe2=>e (iz n6 _ _ e2);show aK _ lb[i] [V ((s.l.set j ((s.l[j]).1,v))[i]'(by simpa using Ja)).2];rw[List.getElem_set_ne (λe2=>e e2.symm)];exact(h.lw i J Ja).tcs (h.rng _ (Z i J)).2 U Jd
 ·show(s.l.set j _).length<=_;rw[List.length_set];exact h.lm
theorem RS.wg{C:RC}{w:World}{c:Int}{rt:Bool}{vl:Int}{lb:List Nat}{vL vI vO:Value}{s:ES}(h:RS C w c rt vl lb vL vI vO s)(j i:Nat)(hj:j<C.gb.length){v:Int}{s':ES}(hs:s'={s with g:=s.g.set j ((s.g.getD j []).set i v)})(I:OkW s'):
  RS C (w.setCell ⟨C.gb[j],i,none⟩ (V v)) c rt vl lb vL vI vO s':=by
 obtain⟨p1,p2,p3,p4⟩:=h.hi;have J:ak (λk=>k=C.gb[j]) w (w.setCell ⟨C.gb[j],i,none⟩ (V v)):=(ak.refl (λk=>k=C.gb[j]) w).setCell (p:=⟨C.gb[j],i,none⟩) rfl _;have Jd:=h.nd;unfold RC.K at Jd;have hm:C.gb[j]∈C.gb:=g_ hj;obtain⟨n1,n2⟩:=List.nodup_cons.1 Jd;obtain⟨n3,n4⟩:=List.nodup_cons.1 n2;obtain⟨n5,n6,n7⟩:=List.nodup_append.1 n4;have hP:C.P≠C.gb[j]:=λe=>n1 (e ▸ m_ _ (List.mem_append_left _ hm));have hG:C.bG≠C.gb[j]:=λe=>n3 (e ▸ List.mem_append_left _ hm);have gK:∀k (I:k<C.gb.length),C.gb[k]∈C.K lb:=λk I=>by unfold RC.K;exact m_ _ (m_ _ (List.mem_append_left _ (g_ I)))
 have lK:∀k (I:k<lb.length),lb[k]∈C.K lb:=λk I=>by unfold RC.K;exact m_ _ (m_ _ (List.mem_append_right _ (g_ I)))
 have Je:∀k (I:k<lb.length),lb[k]≠C.gb[j]:=λk I e=>n7 _ hm _ (g_ I) e.symm;have hc:∀o,(w.setCell ⟨C.gb[j],i,none⟩ (V v)).cell? ⟨C.bG,o,none⟩=w.cell? ⟨C.bG,o,none⟩:=λo=>c_ (J.block C.bG p2 hG);have Jf:=(h.rng _ (gK j hj)).1;have Jc:j<s.g.length:=by rw[h.gl];exact hj
 have eg:s.g.getD j []=s.g[j]:=by simp[List.getD,Jc]
 have Jb:∀k,((s.g.set j ((s.g.getD j []).set i v)).getD k []).length=(s.g.getD k []).length:=λk=>by
  by_cases e:k=j
  ·subst e;simp[List.getD,Jc]
  ·simp[List.getD,List.getElem?_set_ne (λU=>e U.symm)]
 subst hs;refine⟨J.below h.bel h.bel.size (λk I=>by have e:k=C.gb[j]:=I;omega),h.box.tcs p1 J hP,λk h1 h2=>⟨(hc _).trans (h.grow k h1 h2).1,(hc _).trans ?_⟩,?_,λk h1=>?_,λk h1=>?_,h.ll,aO h.lrow J (λk I hs=>h.lo k I (by have e:k=C.gb[j]:=hs;rw[e];exact gK j hj)),λk h1 h2=>(h.lw k h1 h2).tcs (h.rng _ (lK k h1)).2 J (Je k h1),h.inp,aO h.out J (λk I hs=>(h.oo k I).1 (by have e:k=C.gb[j]:=hs;rw[e];exact gK j hj)),h.nd,λk I=>⟨(h.rng k I).1,l_ (h.rng k I).2 J.size⟩,h.lo,h.oo,I,h.uu,h.lm,h.nn⟩
 ·rw[(h.grow k h1 h2).2];show _=some (Value.slice _ ((s.g.set j ((s.g.getD j []).set i v)).getD k []).length ((s.g.set j ((s.g.getD j []).set i v)).getD k []).length);rw[Jb]
 ·show(s.g.set j _).length=_;rw[List.length_set];exact h.gl
 ·show aK _ C.gb[k] (((s.g.set j ((s.g.getD j []).set i v)).getD k []).map (Value.int .i64));by_cases e:k=j
  ·subst e;have Z:(s.g.set k ((s.g.getD k []).set i v)).getD k []=(s.g.getD k []).set i v:=by simp[List.getD,Jc]
   rw[Z,List.map_set];exact(h.gw k h1).set i _
  ·have Z:(s.g.set j ((s.g.getD j []).set i v)).getD k []=s.g.getD k []:=by simp[List.getD,List.getElem?_set_ne (λU=>e U.symm)]
   rw[Z];exact(h.gw k h1).tcs (h.rng _ (gK k h1)).2 J (λU=>e (iz n5 _ _ U))
 ·have Y:k<s.g.length:=by have e:=h1;simpa using e
  have:=Jb k
  have Z:(s.g.set j ((s.g.getD j []).set i v)).getD k []=(s.g.set j ((s.g.getD j []).set i v))[k]'(by simpa using Y):=by simp only[List.getD];rw[List.getElem?_eq_getElem (by simpa using Y)];rfl
  have U:s.g.getD k []=s.g[k]:=by simp[List.getD,Y]
  rw[Z,U]at this;show 1<=((s.g.set j ((s.g.getD j []).set i v))[k]'(by simpa using Y)).length/\((s.g.set j ((s.g.getD j []).set i v))[k]'(by simpa using Y)).length<=1000000;rw[this];exact h.g1 k Y
section
variable{t:Tr}{s s':ES}{fr:List Int}{n:Nat}{r:ER}
def Dk{n:Nd}{v:Nat->Int}{c:Int}(h:(d7 t n v s).1=.out c):c=3:=by
 revert h
 unfold d7
 (repeat' split) <;> simp <;> (intro h;exact h.symm)
theorem Ev.outc{k:Tk}(h:Ev t fr n k s r s'):∀c,r=.out c->c=2∨c=3:=by
 induction h using Ev_i with
 | kid n e A b st v j c s' h1 h2 h3 h4 h5 h6 i5 i6=>exact i6
 | dry n e A b st v h1 h2 h3 h4 h5 i4=>intro c I;cases I;exact .inl rfl
 | work n e A b st v h1 h2 h3 h4 h5 h6 i5=>intro c I;exact .inr (Dk I)
 | call n e A b st v f r s' h1 h2 h3 h4 h5 h6 i4 i6=>exact i6
 | left n e b s c s' h1 h2 h3 i3=>exact i3
 | ldry n e b s x s' h1 h2 h3 h4 i3=>intro c I;cases I;exact .inl rfl
 | lone n e b s x s' h1 h2 h3 h4 i3=>intro c I;cases I
 | rigt n e b s x s1 c s' h1 h2 h3 h4 h5 i3 i5=>exact i5
 | rdry n e b s x s1 y s' h1 h2 h3 h4 h5 h6 i3 i5=>intro c I;cases I;exact .inl rfl
 | both n e b s x s1 y s' h1 h2 h3 h4 h5 h6 i3 i5=>intro c I;cases I
 | pbad n s a b z c z' h1 i1=>exact i1
 | decl n s a b z v z' h1 h2 i2=>intro c I;cases I
 | set n s a b z v z' h1 h2 i2=>intro c I;cases I
 | sbad n s a b z v z1 c z' h1 h2 h3 i2 i3=>exact i3
 | smis n s a b z v z1 x z' h1 h2 h3 h4 i2 i3=>intro c I;cases I;exact .inr rfl
 | stor n s a b z v z1 x z' h1 h2 h3 h4 i2 i3=>intro c I;cases I
 | ifth n s a b z v z1 r z' h1 h2 h3 h4 i2 i4=>exact i4
 | ifel n s a b z z1 r z' h1 h2 h3 i2 i3=>exact i3
 | whno n s a b z z' h1 h2 i2=>intro c I;cases I
 | whn n s a b z v z1 r z' h1 h2 h3 h4 h5 i2 i4=>exact i4
 | whdr n s a b z v z1 z' h1 h2 h3 h4 h5 i2 i4=>intro c I;cases I;exact .inl rfl
 | whag n s a b z v z1 z2 r z' h1 h2 h3 h4 h5 h6 i2 i4 i6=>exact i6
 | retn n s a b z v z' h1 h2 i2=>intro c I;cases I
 | tell n s a b z v z' h1 h2 i2=>intro c I;cases I
 | only n s a b z v z' h1 h2 i2=>intro c I;cases I
 | nil n z=>intro c I;cases I
 | sdry n s q z h1=>intro c I;cases I;exact .inl rfl
 | send n s q z r z' h1 h2 h3 i2=>exact i2
 | next n s q z z1 r z' h1 h2 h3 i2 i3=>exact i3
 | blk n ss z r z' h1 i1=>exact i1
 | run n f vs z hf r z' h1 i1=>intro c I;cases r using ER.cs <;> simp[ER.back]at I;exact i1 c (by rw[I])
theorem qJ{e:List Nd}(h:Ev t fr (n+1) (.e e) s r s')(h8:(aB e).kind≠8)(h9:(aB e).kind≠9):∃(A:Nat) (b:Nat->Nat) (st:Nat->ES) (v:Nat->Int) (j:Nat),Cut e A b/\st 0=s/\j<=A/\(∀i,i<j->Ev t fr n (.e (kid e b i)) (st i) (.val (v i)) (st (i+1))) /\
  ((j<A/\∃c,r=.out c/\Ev t fr n (.e (kid e b j)) (st j) (.out c) s')∨(j=A/\(st A).u=0/\r=.out 2/\s'=st A)∨(j=A/\0<(st A).u/\(aB e).kind≠4/\r=(d7 t (aB e) v (st A).sp).1/\s'=(d7 t (aB e) v (st A).sp).2)∨(j=A/\0<(st A).u/\(aB e).kind=4/\∃f,bO t.funcs (aB e).name=some f/\Ev t fr n (.c f (cX A v)) (st A).sp r s')):=by
 cases h using Ev_i with
 | kid _ _ A b st v j c _ h1 h2 h3 h4 h5 h6=>exact⟨A,b,st,v,j,h1,rfl,o_,h5,.inl ⟨h4,c,rfl,h6⟩⟩
 | dry _ _ A b st v h1 h2 h3 h4 h5=>exact⟨A,b,st,v,A,h1,rfl,n_,h4,.inr (.inl ⟨rfl,h5,rfl,rfl⟩)⟩
 | work _ _ A b st v h1 h2 h3 h4 h5 h6=>exact⟨A,b,st,v,A,h1,rfl,n_,h5,.inr (.inr (.inl ⟨rfl,h6,h4,rfl,rfl⟩))⟩
 | call _ _ A b st v f _ _ h1 h2 h3 h4 h5 h6=>exact⟨A,b,st,v,A,h1,rfl,n_,h4,.inr (.inr (.inr ⟨rfl,h5,h2,f,h3,h6⟩))⟩
 | left _ _ b _ c _ h1 h2 h3=>rcases h2 with h2|h2 <;> contradiction
 | ldry _ _ b _ x _ h1 h2 h3 h4=>rcases h2 with h2|h2 <;> contradiction
 | lone _ _ b _ x _ h1 h2 h3 h4=>rcases h2 with h2|h2 <;> exact absurd h2.1 (by assumption)
 | rigt _ _ b _ x s1 c _ h1 h2 h3 h4 h5=>rcases h2 with h2|h2 <;> exact absurd h2.1 (by assumption)
 | rdry _ _ b _ x s1 y _ h1 h2 h3 h4 h5 h6=>rcases h2 with h2|h2 <;> exact absurd h2.1 (by assumption)
 | both _ _ b _ x s1 y _ h1 h2 h3 h4 h5 h6=>rcases h2 with h2|h2 <;> exact absurd h2.1 (by assumption)
def kg(C:RC)(w:AT)(lb:List Nat)(vL vO:BY)(r:ER)(s':ES)(x:Ending)(w':AT):Prop:=∃z vI' vO' vl',x=rW (V z)/\(∀v,r=.val v->z=v)/\RS C w' (gJ r) false vl' lb vL vI' vO' s'/\ak (fj C vO) w w'/\∀k,vO'.ownBlock=some k->vO.ownBlock=some k∨w.heap.size<=k
def Bq(C:RC)(n:Nat):Prop:=∀(e:List Nd) (s:ES) (r:ER) (s':ES),Ev C.t C.fr n (.e e) s r s'->rU C.t (s.l.map Prod.fst) e->jd C.t (s.l.map Prod.fst)->aP e=true->e.length<=1048576->∀(w:AT) (vl:Int) (lb:List Nat) (vL vI vO ve:BY),RS C w 0 false vl lb vL vI vO s->aw C.w0 ve e->Calls prog 131 #[pV C.P,ve] w λx w'=>kg C w lb vL vO r s' x w'
structure Ge (C:RC) (w:AT) (lb:List Nat) (vL vO:BY) (B:Nat) (va:BY) (vs:List Int):Prop where
 row:w.ownsRow B 2 1 va vs.length (vs.map (Value.int .i64))
 ap:∀k,va.ownBlock=some k->C.w0.heap.size<=k/\k∉C.K lb/\vL.ownBlock≠some k/\vO.ownBlock≠some k
def Fe(C:RC)(n:Nat):Prop:=∀(f:Nat) (vs:List Int) (s:ES) (r:ER) (s':ES),Ev C.t C.fr n (.c f vs) s r s'->jd C.t (s.l.map Prod.fst)->(∀hf:f<C.t.funcs.length,vs.length=C.t.funcs[f].params.length)->(∀x∈vs,et x)->s.n+1000000000*((s.u:Int)+1)<=100001000000000->∀(w:AT) (vl:Int) (lb:List Nat) (vL vI vO va:BY) (B:Nat),RS C w 0 false vl lb vL vI vO s->Ge C w lb vL vO B va vs->Calls prog 31 #[pV C.P,V (f:Int),va] w λx w'=>kg C w lb vL vO r s' x w'
theorem fj.lt{C:RC}{w:World}{st:Int}{rt:Bool}{vl:Int}{lb:List Nat}{vL vI vO:Value}(h:RS C w st rt vl lb vL vI vO s):∀k,fj C vO k->k<w.heap.size/\C.w0.heap.size<=k:=λk hk=>by
 rcases hk with rfl|hk|hk
 ·exact⟨h.hi.1,h.hi.2.2.1⟩
 ·have:=h.rng k (by unfold RC.K;exact m_ _ (m_ _ (List.mem_append_left _ hk)))
  exact⟨this.2,this.1⟩
 ·have:=World.ownsRow.lt h.out k hk
  exact⟨this.2,this.1⟩
def Gf(C:RC)(m:Nat):Prop:=∀(e:List Nd),e.length<=m->aP e=true->e.length<=1048576->∀(w:AT) (c:Int) (rt:Bool) (vl:Int) (lb:List Nat) (vL vI vO ve:BY) (s:ES),c≠0->RS C w c rt vl lb vL vI vO s->aw C.w0 ve e->Calls prog 131 #[pV C.P,ve] w λx w'=>x=rW (V 0)/\Bl w w'
theorem yV(C:RC):∀m,Gf C m:=by
 intro m;induction m with
 | zero=>intro e hl h1;have:=jo h1;omega
 | succ m ih=>
  intro e hl h1 Jm w c rt vl lb vL vI vO ve s hc h hN;obtain⟨A,b,Jf,Jy⟩:=gZ h1;have he:=Jf.len;have HG:Hid (aD (aB e)=true):=Jf.root_good;have HA:Hid (arity (aB e)=A):=Jf.ar;have Jl:=ah h;have Ji:Hid (∀i,i<A->∀W vi,Bl w W->aw C.w0 vi (kid e b i)->Calls prog 131 #[pV C.P,vi] W λx w'=>x=rW (V 0)/\Bl W w'):=λi hi W vi hW hNi=>ih (kid e b i) (by have:=Jf.kid_lt i hi;omega) (Jy i hi) (by have:=Jf.kid_lt i hi;omega) W c rt vl lb vL vI vO vi s hc (h.below hW) hNi;have HR:Hid (Calls prog 162 #[ve] w λr w'=>r=rW (.agg #[V (aB e).kind,V (aB e).val,sV (aB e).name])/\Bl w w'):=by
   have:=ir _ e w he Jm (hN.below h.bel)
   rw[<-eF e he]at this;exact this
  have HK:=ah λ(W:World) (hW:Bl w W)=>lU C.w0 ve e A b W Jm hN (h.bel.trans (hW.mono h.bel.size)) Jf;generalize hR:aB e=R at HG HA HR;obtain⟨U,nv,nm⟩:=R;simp only at HR;have Xd:(c == 0)=false:=by simpa using hc
  have Jp:∀w1:World,Bl w w1->∀o,Bl w (w1.alloc o):=λw1 h o=>h.alloc h.size o;go_in;go_wp2_with fail;refine HR.out.mono ?_;rintro x w1 ⟨rfl,Jk⟩;go_wp2_with fail;refine(HK _ (Jp _ Jk _)).mono ?_;rintro x W ⟨vk,rfl,Jr,I⟩;obtain⟨g0,g1,g2⟩:W.cell? ⟨w1.heap.size,0,none⟩=some (V U)/\W.cell? ⟨w1.heap.size,1,none⟩=some (V nv)/\W.cell? ⟨w1.heap.size,2,none⟩=some (sV nm):=by
   refine⟨?_,?_,?_⟩
   ·rw[I.cell i_];simp
   ·rw[I.cell i_];simp
   ·rw[I.cell i_];simp
  have J:Hid (Bl w W):=(Jp _ Jk _).trans (I.mono (by have:=Jk.size;simp;omega));have Jh:w1.heap.size<W.heap.size:=b_ g0;generalize w1.heap.size=G at g0 g1 g2 Jh⊢;have Xc:1<=U/\U<=9:=fJ HG;have HD:=ah λX (hX:Bl w X)=>jf (Jl.out.below hX) hc;have Jn:=ah λX (hX:Bl w X)=>((Jl.out.below hX).box 8 _ rfl).1;generalize C.P=P at Ji HD Jn⊢;by_cases hao:U=8∨U=9
  ·have Jx:A=2:=by have:=HA.out;rcases hao with rfl|rfl <;> (simp[arity]at this;omega)
   subst Jx;obtain⟨ua,uc,rfl,Jz,Jw,Ju⟩:=Jr;obtain⟨B,rfl,-,-,Jq⟩:=Ju o_;obtain⟨v0,Xe,Xa⟩:=Jq 0 o_;obtain⟨v1,Jo,Jv⟩:=Jq 1 o_;obtain⟨H0,Jj⟩:=h2 (Ji 0 o_ W v0 J Xa) Jv;rcases hao with rfl|rfl
   ·go_wp2_with fail;refine H0.out.mono ?_;rintro x w2 ⟨rfl,I⟩;have Z:Bl w w2:=J.out.trans (I.mono J.out.size);have y0:=(I.cell (p:=⟨G,0,none⟩) Jh).trans g0;go_wp2_with fail;refine(HD w2 Z).mono ?_;rintro x w3 ⟨⟨u,rfl⟩,Y⟩;rw[Y];go_wp2_with fail;refine(dW false w2).mono ?_;rintro x w4 ⟨rfl,Jt⟩;rw[Jt];go_wp2;go_ret;exact⟨rfl,Z⟩
   ·go_wp2_with fail;refine H0.out.mono ?_;rintro x w2 ⟨rfl,I⟩;have Z:Bl w w2:=J.out.trans (I.mono J.out.size);have y0:=(I.cell (p:=⟨G,0,none⟩) Jh).trans g0;have y1:=(I.cell (p:=⟨B,1,none⟩) (b_ Jo)).trans Jo;have H1:=ah (Ji 1 o_ w2 v1 Z Jj);go_wp2_with fail;refine(HD w2 Z).mono ?_;rintro x w3 ⟨⟨u,rfl⟩,Y⟩;rw[Y];go_wp2_with fail;refine H1.out.mono ?_;rintro x w4 ⟨rfl,J_⟩;have Jg:Bl w w4:=Z.trans (J_.mono Z.size);go_wp2_with fail;refine(HD w4 Jg).mono ?_;rintro x w5 ⟨⟨u,rfl⟩,Xb⟩;rw[Xb];go_wp2_with fail;refine(dW false w4).mono ?_;rintro x w6 ⟨rfl,Js⟩;rw[Js];go_wp2;go_ret;exact⟨rfl,Jg⟩
  ·have h8:(U == 8)=false:=by simp;omega
   have h9:(U == 9)=false:=by simp;omega
   obtain⟨ua,uc,rfl,Jz,Jw,-⟩:=Jr;have Jb:Bl w (W.alloc (.cells #[] 2)):=J.out.alloc J.out.size _;have y8:=Jn _ Jb;go_wp2_with fail;refine wp_loop_rounds 1 ?_;rw[rounds_succ];by_cases hA0:(0:Int)<(A:Int)
   ·go_wp2_with fail;refine(HD _ Jb).mono ?_;rintro x w3 ⟨⟨u,rfl⟩,Y⟩;rw[Y];go_wp2;go_ret;exact⟨rfl,Jb⟩
   ·go_wp2_with fail;refine(HD _ Jb).mono ?_;rintro x w3 ⟨⟨u,rfl⟩,Y⟩;rw[Y];go_wp2;go_ret;exact⟨rfl,Jb⟩
end
section
variable{x:GA}{l:List (GA×Int)}{C:RC}{w W:AT}{c vl z:Int}{rt:Bool}{lb:List Nat}{vL vI vO v:BY}{s s':ES}{r:ER}
theorem eK:∀ {gs:List Gl} {x:GA},0<=globI gs x->∃k,∃hk:k<gs.length,gV gs x=some k/\gs[k].size=globI gs x
 | [],x,h=>by simp[globI]at h
 | g::r,x,h=>by
  unfold globI at h⊢;by_cases e:g.name=x
  ·refine⟨0,i_,?_,by rw[if_pos e];rfl⟩;exact qH i_ (λj hj h0=>by omega) e
  ·rw[if_neg e]at h⊢;obtain⟨k,hk,h1,h2⟩:=eK h;refine⟨k+1,Fc hk,?_,Fc h2⟩;unfold gV at h1⊢;rw[findIdx?_cons,h1];simp[e]
def kV:x∈l.map Prod.fst ↔ ∃j,∃hj:j<l.length,rG l x=some j/\(l[j]).1=x:=by
 constructor
 ·intro h;have Y:rG l x≠none:=λe=>by
   unfold rG at e;rw[findIdx?_eq_none_iff]at e;obtain⟨y,U,rfl⟩:=mem_map.1 h;have:=e y U;simp at this
  obtain⟨j,hj⟩:=Option.ne_none_iff_exists'.1 Y;have h2:=hj;unfold rG at h2;obtain⟨J,I,-⟩:=findIdx?_eq_some_iff_getElem.1 h2;exact⟨j,J,hj,Fc I⟩
 ·rintro⟨j,hj,-,rfl⟩;exact mem_map.2 ⟨l[j],g_ hj,rfl⟩
def iA(h:x∉l.map Prod.fst):rG l x=none:=qG (λj hj e=>h (mem_map.2 ⟨l[j],g_ hj,e⟩))
def nY:(prog.info? 2).map (λi=>(i.zero,i.size,i.bytes))=some (some (V 0),1,8):=by kernel_rfl
def fW.tail{w0:AT}{a:Option Addr}{c:Nat}{x:Int}{r:List Int}(h:fW w0 (.slice a (x::r).length c) (x::r)):fW w0 (.slice (if c=1 then a else a.map (·.add (1*1))) r.length (c-1)) r:=by
 obtain⟨Y,c',e,J,h2,h3⟩:=h;simp only[Value.slice.injEq,true_and]at e;obtain⟨rfl,rfl⟩:=e;simp only[l_c]at J;refine⟨_,_,rfl,o_,o_,λhp=>?_⟩;obtain⟨b,I,rfl,U⟩:=h3 i_;refine⟨b,I+1,?_,λj hj=>?_⟩
 ·rw[if_neg o_];simp[Addr.add]
 ·have:=U (j+1) (Fc hj)
  rw[show I+1+j=I+(j+1) by omega];simpa using this
def qK(a:Option Addr)(n cap:Nat)(h2:1<=n)(h3:n<=cap):∀w:AT,(Instr.slice 26 (.slice a n cap) (some (V 1)) none none).run prog w=.ok (.slice (if cap=1 then a else a.map (·.add (1*1))) (n-1) (cap-1)) w:=by
 intro w;have h:prog.elem 26=2:=k_;have I:(sizeOf 2).run prog w=.ok 1 w:=k_;rw[run_slice_l w 26 a n cap (by rw[h];exact underlying26) .i64 1 o_ o_,h,I];simp only[Result.andThen,sliced];rfl
theorem nZ(h:RS C w c rt vl lb vL vI vO s)(hC:C.Ok)(hF:kB C lb s x v)(hn:(s.l.map Prod.fst).Nodup)(I:x∈s.l.map Prod.fst∨(x∉s.l.map Prod.fst/\0<=globI C.t.globals x)):
  ∃b n,v=rV b n n/\0<n/\n<=1000000/\b<w.heap.size/\w.cell? ⟨b,0,none⟩=some (V (s.rd C.t x))/\w.frozen? ⟨b,0,none⟩=false/\(b∈C.gb∨b∈lb):=by
 rcases I with I|⟨I,hg⟩
 ·obtain⟨j,hj,J,h2⟩:=kV.1 I;have Jb:j<lb.length:=by rw[h.ll];exact hj
  have U:lb[j]∈lb:=g_ Jb;have Jf:=h.lw j Jb hj 0 _ rfl;have hr:=h.rng lb[j] (by unfold RC.K;exact m_ _ (m_ _ (List.mem_append_right _ U)));have e1:lb.getD j 0=lb[j]:=by simp[List.getD,Jb]
  refine⟨lb[j],1,by rw[hF.1 j J,e1],o_,o_,hr.2,?_,Jf.2,.inr U⟩;rw[Jf.1];unfold ES.rd;rw[J];simp[List.getD,hj]
 ·obtain⟨k,Jg,J,h2⟩:=eK hg;have Y:k<C.gb.length:=by rw[hC.gbl];exact Jg
  have Jd:k<s.g.length:=by rw[h.gl];exact Y
  have U:C.gb[k]∈C.gb:=g_ Y;have hr:=h.rng C.gb[k] (by unfold RC.K;exact m_ _ (m_ _ (List.mem_append_left _ U)));have e1:C.gb.getD k 0=C.gb[k]:=by simp[List.getD,Y]
  have Z:s.g.getD k []=s.g[k]:=by simp[List.getD,Jd]
  have Jh:=h.g1 k Jd;have Jc:=h.gw k Y;rw[Z]at Jc;have h0:((s.g[k]).map (Value.int .i64))[0]? =some (V ((s.g[k]).getD 0 0)):=by
   have:0<(s.g[k]).length:=by omega
   simp[List.getD,this]
  have Je:=Jc 0 _ h0;refine⟨C.gb[k],(s.g[k]).length,by rw[hF.2 (iA I) k J,e1,Z],o_,Jh.2,hr.2,?_,Je.2,.inl U⟩;rw[Je.1];unfold ES.rd;rw[iA I,J];simp only[Z]
def qL(h:RS C w c rt vl lb vL vI vO s)(hC:C.Ok)(hF:kB C lb s x v)(hk:x∉s.l.map Prod.fst)(hg:0<=globI C.t.globals x):
  ∃b,v=rV b (s.ws C.t x).length (s.ws C.t x).length/\0<(s.ws C.t x).length/\(s.ws C.t x).length<=1000000/\b<w.heap.size/\b∈C.gb/\∀j,j<(s.ws C.t x).length->DO w b j (V ((s.ws C.t x).getD j 0))/\D4 w b j:=by
 obtain⟨k,Jd,h1,h2⟩:=eK hg;have J:k<C.gb.length:=by rw[hC.gbl];exact Jd
 have Jb:k<s.g.length:=by rw[h.gl];exact J
 have Y:C.gb[k]∈C.gb:=g_ J;have hr:=h.rng C.gb[k] (by unfold RC.K;exact m_ _ (m_ _ (mem_append_left _ Y)));have e1:C.gb.getD k 0=C.gb[k]:=by simp[List.getD,J]
 have I:s.ws C.t x=s.g.getD k []:=by unfold ES.ws;rw[h1]
 have U:s.g.getD k []=s.g[k]:=by simp[List.getD,Jb]
 have Jf:=h.g1 k Jb;have Z:=h.gw k J;refine⟨C.gb[k],by rw[hF.2 (iA hk) k h1,e1,I],by rw[I,U];omega,by rw[I,U];exact Jf.2,hr.2,Y,λj hj=>?_⟩;rw[I]at hj⊢;have Je:=Z j (V ((s.g.getD k []).getD j 0)) (by clear Z I U;generalize s.g.getD k []=ws at hj⊢;rw[getElem?_map,GH hj];simp[List.getD,hj]);exact Je
def LI(C:RC)(W:AT)(lb:List Nat)(vL vO:BY)(A j:Nat)(st:Nat->ES)(v:Nat->Int)(r:ER)(s':ES)(i:Nat)(av:BY)(wr:AT):Prop:=∃vI' vO' vl' vs,wr.ownsRow W.heap.size 2 1 av vs.length (vs.map (Value.int .i64))/\vs.length<=i/\(∀k,av.ownBlock=some k->vO'.ownBlock≠some k)/\ak (fj C vO) W wr/\(∀k,vO'.ownBlock=some k->vO.ownBlock=some k∨W.heap.size<=k) /\
 ((i<=j/\vs=cX i v/\RS C wr 0 false vl' lb vL vI' vO' (st i))∨(i=j+1/\j<A/\∃c,r=.out c/\RS C wr c false vl' lb vL vI' vO' s'))
def n8(i:Nat)(v:Nat->Int):cX (i+1) v=cX i v++[v i]:=by simp[cX,range_succ]
def gD(i:Nat)(v:Nat->Int):(cX i v).length=i:=by simp[cX]
theorem um{Jz:Value}{Jy:Int}{A j:Nat}{st:Nat->ES}{v:Nat->Int}{i:Nat}{I:Value}{wr h:World}{ri:ER}{si:ES}{Jm Z:Value}{Jp:Int}(J:RS C W 0 false Jy lb vL Jz vO (st 0))
  {Y:Value} {vs:List Int} (Jg:wr.ownsRow W.heap.size 2 1 I vs.length (vs.map (Value.int .i64))) (Xd:vs.length<=i) (Jn:∀k,I.ownBlock=some k->Y.ownBlock≠some k) (ht:ak (fj C vO) W wr) (ho:∀k,Y.ownBlock=some k->vO.ownBlock=some k∨W.heap.size<=k)
  (Jr:RS C h (gJ ri) false Jp lb vL Jm Z si) (Jo:ak (fj C Y) wr h) (Jq:∀k,Z.ownBlock=some k->Y.ownBlock=some k∨wr.heap.size<=k) (Xe:i<=1000)
  (Jk:(i<j/\ri=.val (v i)/\si=st (i+1)/\z=v i/\vs=cX i v)∨(i=j/\j<A/\∃c,r=.out c/\ri=.out c/\si=s')):
  ∃va vn vc w3,(Builtin.append_ #[26,26] 26 #[I,rV h.heap.size 1 1]).run prog (h.alloc (.cells #[V z] 2))=.ok (.slice va vn vc) w3/\LI C W lb vL vO A j st v r s' (i+1) (.slice va vn vc) w3:=by
 obtain⟨i0,hi,Jt,Ju,Jv⟩:=info_parts nY;have J_:=λk (hk:fj C vO k)=>(fj.lt J k hk).1;have Xa:=ht.size;have Jh:=λk (hk:I.ownBlock=some k)=>World.ownsRow.lt Jg k hk;have Js:∀k,I.ownBlock=some k->¬fj C Y k:=λk hk hT=>by
  have h1:=(Jh k hk).1;rcases hT with rfl|hT|hT
  ·have:=J.hi.1;omega
  ·have:=(J.rng k (by unfold RC.K;exact m_ _ (m_ _ (List.mem_append_left _ hT)))).2;omega
  ·exact Jn k hk hT
 have Ja:=aO Jg Jo Js;have Jc:∀k,I.ownBlock=some k->Z.ownBlock≠some k:=λk hk e=>by
  rcases Jq k e with h1|h1
  ·exact Jn k hk h1
  ·have:=(Jh k hk).2;omega
 have Jd:ak (fj C vO) W h:=ht.next Jo (λk hk=>by
  rcases hk with rfl|hk|hk
  ·exact .inl (.inl rfl)
  ·exact .inl (.inr (.inl hk))
  ·rcases ho k hk with h1|h1
   ·exact .inl (.inr (.inr h1))
   ·exact .inr h1)
 have Ji:∀k,Z.ownBlock=some k->vO.ownBlock=some k∨W.heap.size<=k:=λk hk=>by
  rcases Jq k hk with h1|h1
  ·exact ho k h1
  ·exact .inr o_
 have U:Bl h (h.alloc (.cells #[V z] 2)):=au _ _;have h':=ownB Ja U;have Jj:(h.alloc (.cells #[V z] 2)).ownsRow h.heap.size 2 1 (rV h.heap.size 1 1) 1 [V z]:=World.ownsRow_lit h #[V z] 1 n_ d_ rfl;have Jw:=Jd.size;obtain⟨v',w',r1,r2,r3,r4⟩:=cE (P:=prog) (w:=h.alloc (.cells #[V z] 2)) W.heap.size 26 26 2 i0 _ 1 8 underlying26 hi Jt Ju Jv rfl d_ I _ _ h' (some ⟨h.heap.size,0,none⟩) 1 1 [V z] (λe=>by cases e) rfl (λad had k u hu=>by cases had;exact World.ownsRow.cells Jj (g:=h.heap.size) rfl k u hu) (λu hu=>by simp at hu;subst hu;rfl) o_ d_ (t_ Jw U.size);obtain⟨va,vc,rfl,-⟩:=bj r2;have t3:ak (λk=>I.ownBlock=some k) (h.alloc (.cells #[V z] 2)) w':=ak.of_grown r3 (λk hk=>hk);have Jx:=Jr.below U;have Jl:=Jx.past t3 (λk hk=>by
  have h1:=(Jh k hk).1;have Xc:=J.hi.2.2.1;have Xb:=J.hi.1;refine⟨o_,λhm=>?_,λe=>?_,Jc k hk⟩
  ·have:=(J.rng k hm).2;omega
  ·have:=(World.ownsRow.lt J.lrow k e).2;omega)
 refine⟨va,_,vc,w',r1,Jm,Z,Jp,vs++[z],?_,by simp;omega,λk hk e=>?_,?_,Ji,?_⟩
 ·rw[l_a,List.map_append];exact r2
 ·rcases r4 k hk with h1|h1
  ·exact Jc k h1 e
  ·have:=(World.ownsRow.lt Jr.out k e).2
   have:=U.size
   omega
 ·refine(Jd.of_below U).next t3 (λk hk=>.inr ?_);exact(Jh k hk).1
 ·rcases Jk with⟨h1,rfl,rfl,rfl,rfl⟩|⟨h1,h2,c,h3,rfl,rfl⟩
  ·exact .inl ⟨o_,(n8 i v).symm,Jl⟩
  ·exact .inr ⟨o_,h2,c,h3,Jl⟩
def d8{w':AT}{vI' vO':BY}{vl':Int}(hBW:Bl w W)(hT:ak (fj C vO) W w')(hO:∀k,vO'.ownBlock=some k->vO.ownBlock=some k∨W.heap.size<=k)(hR:RS C w' (gJ r) false vl' lb vL vI' vO' s')(hz:∀v,r=.val v->z=v):kg C w lb vL vO r s' (rW (V z)) w':=
 ⟨z,vI',vO',vl',rfl,hz,hR,(hBW.tcs (S:=fj C vO)).trans hT,λk hk=>(hO k hk).imp id (λh=>t_ hBW.size h)⟩
theorem iB{B:Nat}{U:Option Addr}{I vc:Nat}{vs:List Int}(h:w.ownsRow B 2 1 (.slice U I vc) vs.length (vs.map (Value.int .i64)))(k:Nat)(J:k<vs.length):∃ab,U=some ⟨ab,0,none⟩/\I=vs.length/\B<=ab/\ab<w.heap.size/\w.cell? ⟨ab,k,none⟩=some (V vs[k]):=by
 have Z:=h;rcases h.2 with⟨-,hz⟩|⟨g,Jb,Ja,e,Y,h2,-⟩
 ·omega
 ·simp only[Value.slice.injEq]at e;obtain⟨rfl,rfl,rfl⟩:=e;refine⟨g,rfl,rfl,Y,(Array.getElem?_eq_some_iff.1 h2).1,?_⟩;have:=World.ownsRow.cellAt Z k (by simpa using J)
  rw[this];simp[J]
end
def qM{e:List Nd}{A:Nat}{b:Nat->Nat}(Y:aP e=true)(Z:Cut e A b):∀i,i<A->aP (kid e b i)=true:=by
 obtain⟨A',b',J,I⟩:=gZ Y;obtain⟨rfl,h⟩:=Z.one J;intro i U;have:=I i U;unfold kid at this⊢;rw[h (i+1) o_,h i o_];exact this
theorem v_(C:RC)(hC:C.Ok)(n:Nat)(IH:Bq C n)(IC:Fe C n)(e:List Nd)(s:ES)(r:ER)(s':ES)(hE:Ev C.t C.fr (n+1) (.e e) s r s')(h8:(aB e).kind≠8)(h9:(aB e).kind≠9)(Ys:rU C.t (s.l.map Prod.fst) e)(Yt:jd C.t (s.l.map Prod.fst))(h1:aP e=true)(Vn:e.length<=1048576)(w:World)(vl:Int)(lb:List Nat)(vL vI vO ve:Value)(h:RS C w 0 false vl lb vL vI vO s)(hN:aw C.w0 ve e):
  Calls prog 131 #[pV C.P,ve] w λx w'=>kg C w lb vL vO r s' x w':=by
 obtain⟨A,b,st,v,j,Jn,rfl,Od,Zc,Jk⟩:=qJ hE h8 h9;have he:=Jn.len;have Oc:=Jn.arA;have Zd:=qM h1 Jn;have Jz:=Em (t:=C.t) (fr:=C.fr) (n:=n) (e:=e) (b:=b) (st:=st) (v:=v) (j:=j) (λi hi h0=>by
  obtain⟨x1,x2,x3⟩:=(Zc i hi).inv h0 trivial;exact⟨x1,x2 _ (.inl rfl),x3⟩) h.ok
 have Xf:∀i,i<=j->(st i).l=(st 0).l:=λi hi=>(Jz i hi).2.1.2.2.2;have Vl:Hid (∀i,i<j->∀X Y Je Jf vi,RS C X 0 false Y lb vL Je Jf (st i)->aw C.w0 vi (kid e b i)->Calls prog 131 #[pV C.P,vi] X λx w'=>kg C X lb vL Jf (.val (v i)) (st (i+1)) x w'):=λi hi X Y Je Jf vi hX hNi=>by
  have Xg:=Jn.kid_lt i o_;exact IH (kid e b i) (st i) _ _ (Zc i hi) (by rw[Xf i o_];exact Ys.kid) (by rw[Xf i o_];exact Yt) (Zd i o_) o_ X Y lb vL Je Jf vi hX hNi
 have Ve:Hid (j<A->∃c,r=.out c/\∀X Y Je Jf vi,RS C X 0 false Y lb vL Je Jf (st j)->aw C.w0 vi (kid e b j)->Calls prog 131 #[pV C.P,vi] X λx w'=>kg C X lb vL Jf (.out c) s' x w'):=λYx=>by
  have Xg:=Jn.kid_lt j Yx;rcases Jk with⟨-,c,Z,Uv⟩|⟨h0,-⟩|⟨h0,-⟩|⟨h0,-⟩
  ·exact⟨c,Z,λX Y Je Jf vi hX hNi=>IH (kid e b j) (st j) _ _ Uv (by rw[Xf j n_];exact Ys.kid) (by rw[Xf j n_];exact Yt) (Zd j Yx) o_ X Y lb vL Je Jf vi hX hNi⟩
  ·omega
  ·omega
  ·omega
 have HG:Hid (aD (aB e)=true):=Jn.root_good;have Xh:Hid (arity (aB e)=A):=Jn.ar;have Yg:=ah h;have Yo:Hid (aS C.t ((st 0).l.map Prod.fst) (aB e)=0):=Ys _ (jY he);have HR:Hid (Calls prog 162 #[ve] w λr w'=>r=rW (.agg #[V (aB e).kind,V (aB e).val,sV (aB e).name])/\Bl w w'):=by
  have:=ir _ e w he Vn (hN.below h.bel)
  rw[<-eF e he]at this;exact this
 have HK:=ah λ(W:World) (hW:Bl w W)=>lU C.w0 ve e A b W Vn hN (h.bel.trans (hW.mono h.bel.size)) Jn;have Vb:=ah Xf;have Za:Hid (∀c,r=.out c->c≠0):=λc hc=>by have:=hE.outc c hc;omega
 have Vg:=ah Jz;have Yr:=ah Yt;have Jt:=ah Jk;have Zw:=ah IC;have HC:=ah hC;have Vf:=ah (show aD (aB e)=true from Jn.root_good);clear IH IC hN Zd h hE Zc Jk Jz Xf Ys Yt hC;generalize hR:aB e=R at HG Xh HR Yo Jt h8 h9 Vf;clear hR Jn;obtain⟨nk,I,nm⟩:=R;simp only at HR h8 h9;have Zh:∀w1:World,Bl w w1->∀o,Bl w (w1.alloc o):=λw1 h o=>h.alloc h.size o;go_in;go_wp2_with fail;refine HR.out.mono ?_;rintro x w1 ⟨rfl,Yc⟩;go_wp2_with fail;refine(HK.out _ (Zh _ Yc _)).mono ?_;rintro x W ⟨vk,rfl,Uy,Xr⟩;obtain⟨g0,g1,g2⟩:W.cell? ⟨w1.heap.size,0,none⟩=some (V nk)/\W.cell? ⟨w1.heap.size,1,none⟩=some (V I)/\W.cell? ⟨w1.heap.size,2,none⟩=some (sV nm):=by
  refine⟨?_,?_,?_⟩
  ·rw[Xr.cell i_];simp
  ·rw[Xr.cell i_];simp
  ·rw[Xr.cell i_];simp
 have Jr:Hid (Bl w W):=(Zh _ Yc _).trans (Xr.mono (by have:=Yc.size;simp;omega));have Zl:w1.heap.size<W.heap.size:=b_ g0;have Us:w.heap.size<=w1.heap.size:=Yc.size;obtain⟨ua,uc,rfl,Or,Vr,Va⟩:=Uy;have Z_:Hid (∀i,i<A->∃B,ua=some ⟨B,0,none⟩/\w.heap.size<=B/\B<W.heap.size/\∃vi,W.cell? ⟨B,i,none⟩=some vi/\aw C.w0 vi (kid e b i)):=λi hi=>by
  obtain⟨B,rfl,Vo,Uc,Ub⟩:=Va o_;obtain⟨vi,q1,q2⟩:=Ub i hi;exact⟨B,rfl,by simp at Vo;omega,Uc,vi,q1,q2⟩
 generalize w1.heap.size=G at g0 g1 g2 Zl Us⊢;clear Yc Xr HR HK Zh Va Vr;have Jy:=ah (Yg.out.below Jr);have Xn:Hid (∀k,fj C vO k->k<w.heap.size):=λk hk=>(fj.lt Yg.out k hk).1;have Yk:Hid (∀X,ak (fj C vO) W X->X.cell? ⟨G,0,none⟩=some (V nk)/\X.cell? ⟨G,1,none⟩=some (V I)/\X.cell? ⟨G,2,none⟩=some (sV nm)):=λX hX=>by
  have e0:∀o,X.cell? ⟨G,o,none⟩=W.cell? ⟨G,o,none⟩:=λo=>c_ (hX.block G Zl (λhT=>by have:=Xn.out G hT;omega));exact⟨(e0 0).trans g0,(e0 1).trans g1,(e0 2).trans g2⟩
 have Xo:Hid (LI C W lb vL vO A j st v r s' 0 (rV W.heap.size 0 0) (W.alloc (.cells #[] 2))):=by
  have hb:Bl W (W.alloc (.cells #[] 2)):=au _ _;refine⟨vI,vO,vl,[],World.ownsRow_lit W #[] 0 n_ d_ rfl,n_,λk hk e=>?_,hb.tcs,λk hk=>.inl hk,.inl ⟨y_,rfl,Jy.out.below hb⟩⟩;simp only[Value.ownBlock,Option.some.injEq]at hk;have:=(World.ownsRow.lt Jy.out.out k e).2;omega
 have Oj:(nk == 8)=false:=by simpa using h8
 have Of:(nk == 9)=false:=by simpa using h9
 go_wp2_with fail;clear g0 g1 g2;go_loopw[9,10] (λav iv wr=>∃(i:Nat) (Yl:Option Addr) (Ye Yq:Nat),av=.slice Yl Ye Yq/\iv=V i/\i<=A/\LI C W lb vL vO A j st v r s' i av wr) (λ_ iv _=>A-(RowKit.intOf iv).toNat)
 case atStart=>exact⟨0,_,_,_,rfl,rfl,y_,Xo⟩
 case round=>
  obtain⟨i,Yl,Ye,Yq,rfl,rfl,Ob,Ul⟩:=hrel;clear Xo;obtain⟨Je,Jf,Y,vs,Xw,Yy,Vc,ht,ho,Ua⟩:=Ul;have Jp:=ah Xw;have HT:=ah ht;have HO:=ah ho;have Yw:=ah Vc;clear Xw ht ho Vc;rcases Ua with⟨V_,Xa,Yz⟩|⟨V_,Yx,c,Xj,Yp⟩
  ·have Jx:=ah Yz;have c8:=(Yz.box 8 _ rfl).1;clear Yz;by_cases Xg:i<A
   ·obtain⟨B,rfl,Oh,Vy,vi,q1,q2⟩:=Z_.out i Xg;have Vm:wr.cell? ⟨B,i,none⟩=some vi:=(c_ (HT.out.block B Vy (λhT=>by have:=Xn.out B hT;omega))).trans q1;obtain⟨ka,kn,kc,rfl⟩:∃ka kn kc,vi=.slice ka kn kc:=by obtain⟨x,y,e,-⟩:=q2;exact⟨_,_,_,e⟩
    clear q1;by_cases hj2:i<j
    ·have Zi:=ah (Vl.out i hj2 wr Y Je Jf _ Jx.out q2);go_wp2_with fail;refine Zi.out.mono ?_;rintro x w2 ⟨z,Yd,Vv,Yh,rfl,hz,Xu,Xv,Xt⟩;obtain⟨Um,Vq,Vs,w3,r3,Xm⟩:=um (A:=A) (r:=r) (s':=s') Jy.out Jp.out Yy Yw.out HT.out HO.out Xu Xv Xt o_ (.inl ⟨hj2,rfl,rfl,hz _ rfl,Xa⟩);have Ze:=ah r3;have Xx:=ah Xm;clear Xu Xv Xt r3 Xm hz Vm c8;go_wp2_with(at_builtin;refine aC rfl (.tmp 72) (.tmp 74) _ rfl _ _ _ _ rfl rfl Ze.out ?_)
     go_roundw
     case rel=>exact⟨i+1,_,_,_,rfl,by go_num,o_,Xx⟩
     case measure=>simp[RowKit.intOf];omega
    ·obtain rfl:i=j:=by omega
     obtain⟨c,Xj,Ju⟩:=Ve.out Xg;have Zi:=ah (Ju wr Y Je Jf (.slice ka kn kc) Jx.out q2);clear Ju;go_wp2_with fail;refine Zi.out.mono ?_;rintro x w2 ⟨z,Yd,Vv,Yh,rfl,hz,Xu,Xv,Xt⟩;obtain⟨Um,Vq,Vs,w3,r3,Xm⟩:=um (z:=z) (v:=v) (A:=A) (r:=r) (s':=s') Jy.out Jp.out Yy Yw.out HT.out HO.out Xu Xv Xt o_ (.inr ⟨rfl,Xg,c,Xj,rfl,rfl⟩);have Ze:=ah r3;have Xx:=ah Xm;clear Xu Xv Xt r3 Xm hz Vm c8;go_wp2_with(at_builtin;refine aC rfl (.tmp 72) (.tmp 74) _ rfl _ _ _ _ rfl rfl Ze.out ?_);go_roundw
     case rel=>exact⟨i+1,_,_,_,rfl,by go_num,o_,Xx⟩
     case measure=>simp[RowKit.intOf];omega
   ·obtain rfl:i=A:=by omega
    obtain rfl:i=j:=by omega
    clear Vl Ve Z_;have Zu:¬(i:Int)<(i:Int):=o_;have Jl:=Jp;rw[Xa]at Jl;have Jh:=ah Jl;clear Jl Jp Yy Xa;have Zt:=HC.out.fu;rcases Jt.out with⟨h0,-⟩|⟨-,Xi,rfl,rfl⟩|⟨-,Xi,h4,Z,hs⟩|⟨-,Xi,h4,f,hf,Zv⟩
    ·exact absurd h0 (Nat.lt_irrefl _)
    ·go_wp2_with fail;refine(mf Jx.out Xi).mono ?_;rintro x w5 ⟨⟨u,rfl⟩,Ji,t5⟩;have Ja:=ah (d8 (z:=0) Jr.out (HT.out.next t5 (λk hk=>.inl (.inl hk))) HO.out (r:=.out 2) Ji (λv hv=>by cases hv));have y8:=(Ji.box 8 _ rfl).1;clear Ji t5 c8;go_wp2;go_ret;exact Ja
    ·go_wp2_with fail;refine(je Jx.out Xi Zt).mono ?_;rintro x w5 ⟨⟨u,rfl⟩,Ji,t5⟩;have Jw:=ah (HT.out.next t5 (λk hk=>.inl (.inl hk)));have J:=ah Ji;have y8:=(Ji.box 8 _ rfl).1;obtain⟨y0,y1,y2⟩:=Yk.out w5 Jw;have Vp:C.P<W.heap.size:=l_ (fj.lt Yg.out C.P (.inl rfl)).1 Jr.out.size;have Jc:=ah (aO Jh.out t5 (λk hk e=>by have e:k=C.P:=e;have:=(World.ownsRow.lt Jh.out k hk).1;omega));have Xp:((st i).sp.l.map Prod.fst)=((st 0).l.map Prod.fst):=by show((st i).l.map Prod.fst)=_;rw[Vb.out i n_]
     have Xy:=ah Xp;have Ja:Hid (∀z Yd Yh X S2 r2,r2=r->S2=s'->Bl w5 X->RS C X (gJ r2) false Yh lb vL Yd Jf S2->(∀v,r2=.val v->z=v)->kg C w lb vL vO r s' (rW (V z)) X):=λz Yd Yh X S2 r2 e1 e2 hX hRX hz=>by
      subst e1 e2;exact d8 Jr.out (Jw.out.of_below hX) HO.out hRX hz
     clear Ji t5 c8 Jx Yk Xp;have Uz:1<=nk/\nk<=9:=fJ HG;have h4:nk≠4:=h4;have Ue:nk=1∨nk=2∨nk=3∨nk=5∨nk=6∨nk=7:=o_;rcases Ue with rfl|rfl|rfl|rfl|rfl|rfl
     ·have U:d7 C.t ⟨1,I,nm⟩ v (st i).sp=(.val I,(st i).sp):=by simp[d7]
      have HF:=ah (Ja.out I Je Y w5 (st i).sp (.val I) (by rw[Z,U]) (by rw[hs,U]) r_ J.out (λv hv=>by cases hv;rfl));clear Z hs U;go_wp2;go_ret;exact HF
     ·have U:d7 C.t ⟨2,I,nm⟩ v (st i).sp=(.val ((st i).sp.rd C.t nm),(st i).sp):=by simp[d7]
      have Uk:Hid (nm∈(st i).sp.l.map Prod.fst∨(nm∉(st i).sp.l.map Prod.fst/\0<=globI C.t.globals nm)):=by
       rw[Xy.out];rcases qd Yo.out rfl with h|⟨h,h0⟩
       ·exact .inl h
       ·exact .inr ⟨h,by show 0<=globI C.t.globals nm;have h0:globI C.t.globals nm=0:=h0;omega⟩
      go_wp2_with fail;refine(jK nm J.out HC.out (by rw[Xy.out];exact Yr.out.1)).mono ?_;rintro x w6 ⟨vv,rfl,hF,Jg⟩;obtain⟨bw,wn,rfl,Zx,Zo,Zb,Jv,-,-⟩:=nZ J.out HC.out hF (by rw[Xy.out];exact Yr.out.1) Uk;have Uh:=(Jg.cell (p:=⟨bw,0,none⟩) Zb).trans Jv;have HF:=ah (Ja.out _ Je Y w6 (st i).sp (.val ((st i).sp.rd C.t nm)) (by rw[Z,U]) (by rw[hs,U]) Jg (J.out.below Jg) (λv hv=>by cases hv;rfl));generalize (st i).sp.rd C.t nm=q at Uh HF;clear Z hs U Jv hF Jg;go_wp2;go_ret;exact HF
     ·obtain rfl:i=1:=by have:=Xh.out;simp[arity]at this;omega
      obtain⟨Ux,Zy⟩:=qe Yo.out rfl;have Jj:(cX 1 v).length=1:=gD 1 v;obtain⟨ab,rfl,rfl,Xk,Xd,Jm⟩:=iB Jc.out 0 o_;have ea:(cX 1 v)[0]'(by omega)=v 0:=by simp[cX]
      rw[ea]at Jm;rw[Jj];have Oq:(0:Int)<((1:Nat):Int):=o_;go_wp2_with fail;refine(jK nm J.out HC.out (by rw[Xy.out];exact Yr.out.1)).mono ?_;rintro x w6 ⟨vv,rfl,hF,Jg⟩;obtain⟨bw,rfl,Zx,Zo,Zb,Os,Yj⟩:=qL J.out HC.out hF (by rw[Xy.out];exact Ux) (by show 0<=globI C.t.globals nm;have Zy:0<globI C.t.globals nm:=Zy;omega);have Ur:=(Jg.cell (p:=⟨ab,0,none⟩) Xd).trans Jm;have Yn:=J.out.below Jg;have Zq:=ah Yn;have Oi:=(Yn.box 8 _ rfl).1;have Oa:=(Yn.box 8 _ rfl).2;clear Yn hF;have Xe:(0<=v 0/\v 0<((st 1).sp.ws C.t nm).length)->d7 C.t ⟨3,I,nm⟩ v (st 1).sp=(.val (((st 1).sp.ws C.t nm).getD (v 0).toNat 0),(st 1).sp):=λh=>by simp[d7,h]
      have Js:¬(0<=v 0/\v 0<((st 1).sp.ws C.t nm).length)->d7 C.t ⟨3,I,nm⟩ v (st 1).sp=(.out 3,(st 1).sp):=λh=>by
       unfold d7;rw[if_neg i_,if_neg i_,if_pos rfl,if_neg h]
      obtain⟨wl,Zf⟩:=q_ (((st 1).sp.ws C.t nm).length);rw[<-Zf]at Zx Zo Yj Xe Js⊢;generalize v 0=v0 at Ur Xe Js Jm;by_cases hin:0<=v0/\v0<wl
      ·obtain⟨k,rfl⟩:∃k:Nat,v0=k:=⟨v0.toNat,o_⟩;have Uq:k<wl:=o_
       have Vx:=(Jg.cell (p:=⟨bw,k,none⟩) Zb).trans (Yj k Uq).1;have HF:=ah (Ja.out _ Je Y w6 (st 1).sp (.val (((st 1).sp.ws C.t nm).getD k 0)) (by rw[Z,Xe hin];simp) (by rw[hs,Xe hin]) Jg Zq.out (λv hv=>by cases hv;rfl));have J_:decide ((0:Int)<=(k:Int)/\(k:Int)<=(wl:Int)-1)=true:=decide_eq_true o_;generalize ((st 1).sp.ws C.t nm).getD k 0=q at Vx HF;clear Z hs Xe Js Yj Jg Jm Zf;go_wp2_with fail;refine(dx _ _ _ _).mono ?_;rintro x w7 ⟨rfl,Ya⟩;rw[Ya,J_];clear Ya;go_wp2;go_ret;exact HF
      ·have HF:=ah (Ja.out 0 Je Y (w6.setCell ⟨C.P,8,none⟩ (V 3)) (st 1).sp (.out 3) (by rw[Z,Js hin]) (by rw[hs,Js hin]));have Uw:=ah (Zq.out.dry 3);have Yf:=ah (d8 (w':=w6.setCell ⟨C.P,8,none⟩ (V 3)) (z:=0) (r:=.out 3) Jr.out ((Jw.out.of_below Jg).setCell (p:=⟨C.P,8,none⟩) (.inl rfl) _) HO.out Uw.out (λv hv=>by cases hv));have Xz:Hid (r=.out 3/\s'=(st 1).sp):=⟨by rw[Z,Js hin],by rw[hs,Js hin]⟩;have J_:decide ((0:Int)<=v0/\v0<=(wl:Int)-1)=false:=decide_eq_false o_;clear Z hs Xe Js Yj Jg Jm Zf HF;go_wp2_with fail;refine(dx _ _ _ _).mono ?_;rintro x w7 ⟨rfl,Ya⟩;rw[Ya,J_];clear Ya;go_wp2;go_ret;rw[Xz.out.1,Xz.out.2];exact Yf
     ·obtain rfl:i=0:=by have:=Xh.out;simp[arity]at this;omega
      obtain⟨Ia,Ic,Uu,Zj,Ol,Yi⟩:=J.out.inp;have y4:=(J.out.box 4 _ rfl).1;have z4:=(J.out.box 4 _ rfl).2;subst Uu;cases hin:(st 0).sp.i with
      | nil=>
       have U:d7 C.t ⟨5,I,nm⟩ v (st 0).sp=(.val 0,(st 0).sp):=by simp[d7,hin]
       have HF:=ah (Ja.out 0 _ Y w5 (st 0).sp (.val 0) (by rw[Z,U]) (by rw[hs,U]) r_ J.out (λv hv=>by cases hv;rfl));rw[hin]at y4;simp only[l_n]at y4;clear Z hs U Yi;go_wp2;go_ret;exact HF
      | cons q rst=>
       have U:d7 C.t ⟨5,I,nm⟩ v (st 0).sp=(.val q,{(st 0).sp with i:=rst}):=by simp[d7,hin]
       rw[hin]at y4 Zj Yi;have Jq:=qK Ia (q::rst).length Ic i_ Zj;obtain⟨bI,oI,Vt,Zz⟩:=Yi i_;have Og:w5.cell? ⟨bI,oI,none⟩=some (V q):=by
        have h0:=Zz 0 i_;simp only[Nat.add_zero,List.getElem_cons_zero]at h0;exact(J.out.bel.cell (p:=⟨bI,oI,none⟩) (b_ h0)).trans h0
       have Zg:=fW.tail (w0:=C.w0) (a:=Ia) (c:=Ic) (x:=q) (r:=rst) (by have:=J.out.inp;rw[hin]at this;exact this);obtain⟨Ta,Zs⟩:=q_ ((if Ic=1 then Ia else Ia.map (·.add (1*1))));rw[<-Zs]at Jq Zg;have Vj:=J.out.boxed (st':=0) (rt':=false) (vl':=Y) (vI':=.slice Ta rst.length (Ic-1)) (s':= {(st 0).sp with i:=rst}) 4 (.slice Ta rst.length (Ic-1)) rfl rfl rfl rfl Zg ⟨J.out.ok.g,J.out.ok.l,λx hx=>J.out.ok.i x (by rw[hin];exact m_ _ hx)⟩ J.out.uu J.out.nn;have Yf:=ah (d8 (w':=w5.setCell ⟨C.P,4,none⟩ (.slice Ta rst.length (Ic-1))) (z:=q) (r:=.val q) Jr.out (Jw.out.setCell (p:=⟨C.P,4,none⟩) (.inl rfl) _) HO.out Vj (λv hv=>by cases hv;rfl));have Xz:Hid (r=.val q/\s'={(st 0).sp with i:=rst}):=⟨by rw[Z,U],by rw[hs,U]⟩;obtain⟨il,Yb⟩:=q_ ((q::rst).length);have Y_:((il:Nat):Int)≠0:=by rw[Yb];simp;omega
       have Up:0<il:=by rw[Yb];simp
       have Xl:il-1=rst.length:=by rw[Yb];simp
       have Ug:((il:Int) == 0)=false:=by simpa using Y_
       rw[<-Yb]at Jq y4;rw[Xl]at Jq;generalize rst.length=rl at Jq Yf;subst Vt;clear Z hs U Yi Zz Zg Vj Zj Yb Xl Zs;go_wp2;go_ret;rw[Xz.out.1,Xz.out.2];exact Yf
     ·obtain rfl:i=1:=by have:=Xh.out;simp[arity]at this;omega
      have Jj:(cX 1 v).length=1:=gD 1 v;obtain⟨ab,rfl,rfl,Xk,Xd,Jm⟩:=iB Jc.out 0 o_;have ea:(cX 1 v)[0]'(by omega)=v 0:=by simp[cX]
      rw[ea]at Jm;rw[Jj];have U:d7 C.t ⟨6,I,nm⟩ v (st 1).sp=(.val (kM I (v 0)),(st 1).sp):=by simp[d7]
      have Vk:et (v 0):=(Vg.out 1 n_).2.2 0 o_;have Vi:0<=I/\I<=2:=by have:=Vf.out;simp[aD]at this;omega
      have Yv:=ah (λX=>Bn I (v 0) Vi.1 Vi.2 Vk X);have HF:=ah (λX hX=>Ja.out (kM I (v 0)) Je Y X (st 1).sp (.val (kM I (v 0))) (by rw[Z,U]) (by rw[hs,U]) hX (J.out.below hX) (λv hv=>by cases hv;rfl));generalize kM I (v 0)=q at Yv HF;generalize v 0=v0 at Jm Yv;clear Z hs U ea Vk;go_wp2_with fail;go_quiet ((go_at_call 166;exact Calls.quiet_of_same (Yv.out _)));go_wp2;go_ret;exact HF.out _ (below_drewN r_ _)
     ·obtain rfl:i=2:=by have:=Xh.out;simp[arity]at this;omega
      have Jj:(cX 2 v).length=2:=gD 2 v;obtain⟨ab,rfl,rfl,Xk,Xd,Jm⟩:=iB Jc.out 0 o_;obtain⟨U_,Xq,-,-,-,Zm⟩:=iB Jc.out 1 o_;simp only[Option.some.injEq,Addr.mk.injEq,and_true,true_and]at Xq;subst Xq;have ea:(cX 2 v)[0]'(by omega)=v 0:=by simp[cX]
      have eb:(cX 2 v)[1]'(by omega)=v 1:=by simp[cX]
      rw[ea]at Jm;rw[eb]at Zm;rw[Jj];have U:d7 C.t ⟨7,I,nm⟩ v (st 2).sp=(.val (dZ I (v 0) (v 1)),(st 2).sp):=by simp[d7]
      have Jo:=ah (λX=>Fy I (v 0) (v 1) X);have HF:=ah (λX hX=>Ja.out (dZ I (v 0) (v 1)) Je Y X (st 2).sp (.val (dZ I (v 0) (v 1))) (by rw[Z,U]) (by rw[hs,U]) hX (J.out.below hX) (λv hv=>by cases hv;rfl));generalize dZ I (v 0) (v 1)=q at Jo HF;generalize v 0=v0 at Jm Jo;generalize v 1=v1 at Zm Jo;clear Z hs U ea eb;go_wp2_with fail;go_quiet ((go_at_call 167;exact Calls.quiet_of_same (Jo.out _)));go_wp2;go_ret;exact HF.out _ (below_drewN r_ _)
    ·have h4:nk=4:=h4;subst h4;have Ud:f<C.t.funcs.length:=de hf;obtain⟨f',Zp,Ym⟩:=jZ Yo.out rfl;have Xc:bO C.t.funcs nm=some f':=Zp;have Uf:f'=f:=by have hf:bO C.t.funcs nm=some f:=hf;rw[Xc]at hf;exact Option.some.inj hf
     subst Uf;have X_:(cX i v).length=C.t.funcs[f'].params.length:=by
      have:=Xh.out
      simp[arity]at this;rw[gD];have e1:C.t.funcs.getD f' ⟨⟨#[]⟩,[],[]⟩=C.t.funcs[f']:=by simp[List.getD,Ud]
      rw[e1]at Ym;have Ym:((C.t.funcs[f'].params.length:Nat):Int)=I:=Ym;omega
     go_wp2_with fail;refine(je Jx.out Xi Zt).mono ?_;rintro x w5 ⟨⟨u,rfl⟩,Ji,t5⟩;have Jw:=ah (HT.out.next t5 (λk hk=>.inl (.inl hk)));have J:=ah Ji;have y8:=(Ji.box 8 _ rfl).1;have p0:=(Ji.box 0 _ rfl).1;have p1:=(Ji.box 1 _ rfl).1;obtain⟨y0,y1,y2⟩:=Yk.out w5 Jw;have Vp:C.P<W.heap.size:=l_ (fj.lt Yg.out C.P (.inl rfl)).1 Jr.out.size;have Jc:=ah (aO Jh.out t5 (λk hk e=>by have e:k=C.P:=e;have:=(World.ownsRow.lt Jh.out k hk).1;omega));have Xp:((st i).sp.l.map Prod.fst)=((st 0).l.map Prod.fst):=by show((st i).l.map Prod.fst)=_;rw[Vb.out i n_]
     have Zn:G<w5.heap.size:=b_ y0;have Zr:C.P<w5.heap.size:=Ji.hi.1;have Xx:Hid (∀X,Bl w5 X->Calls prog 32 #[.agg #[C.vg,C.vf],sV nm] X λe w'=>e=rW (V (f':Int))/\Bl X w'):=λX hX=>by
      have Uj:Bl C.w0 X:=J.out.bel.trans (hX.mono J.out.bel.size);have:=fg C.t.funcs C.vg C.vf nm X (by have:=HC.out.sm.2;omega) (HC.out.fs.below Uj);rw[ed Xc]at this;exact this
     have Uo:Hid (∀X,Bl w5 X->Calls prog 31 #[pV C.P,V (f':Int),.slice Yl Ye Yq] X λx w'=>kg C X lb vL Jf r s' x w'):=λX hX=>by
      refine Zw.out f' (cX i v) (st i).sp r s' Zv (by rw[Xp];exact Yr) (λ_=>X_) (λx hx=>?_) (by have h1:=Jx.out.nn.2.1;have h2:=Es Xi;have h3:(st i).sp.n=(st i).n:=rfl;rw[h3];omega) X Y lb vL Je Jf (.slice Yl Ye Yq) W.heap.size (J.out.below hX) ⟨ownB Jc.out hX,λk hk=>?_⟩
      ·obtain⟨k,hk,rfl⟩:=List.mem_map.1 hx;exact(Vg.out i n_).2.2 k (List.mem_range.1 hk)
      ·have h1:=(World.ownsRow.lt Jc.out k hk).1;have h2:=Jy.out.hi;refine⟨o_,λhm=>?_,λe=>?_,Yw.out k hk⟩
       ·have:=(Jy.out.rng k hm).2;omega
       ·have:=(World.ownsRow.lt Jy.out.lrow k e).2;omega
     have Ja:Hid (∀X x w',Bl w5 X->kg C X lb vL Jf r s' x w'->kg C w lb vL vO r s' x w'):=λX x w' hX hE=>by
      obtain⟨z,Ot,On,Ou,rfl,hz,Vu,t3,o3⟩:=hE;have Oo:=(Jw.out.of_below hX).size;refine d8 Jr.out ((Jw.out.of_below hX).next t3 (λk hk=>?_)) (λk hk=>?_) Vu hz
      ·rcases hk with rfl|hk|hk
       ·exact .inl (.inl rfl)
       ·exact .inl (.inr (.inl hk))
       ·exact(HO.out k hk).imp (λh=>.inr (.inr h)) id
      ·rcases o3 k hk with h3|h3
       ·exact HO.out k h3
       ·exact .inr o_
     have Ut:Hid (¬fj C Jf G):=λhT=>by
      rcases hT with h|h|h
      ·have:=Xn.out G (.inl h);omega
      ·have:=Xn.out G (.inr (.inl h));omega
      ·rcases HO.out G h with h|h
       ·have:=Xn.out G (.inr (.inr h));omega
       ·omega
     clear Ji t5 c8 Jx Yk Xp Zw X_ Ym Zp hf Xc Zv;go_wp2_with fail;go_region_held (λX=>X.cell? ⟨C.P,0,none⟩=some C.vg/\X.cell? ⟨C.P,1,none⟩=some C.vf/\X.cell? ⟨G,2,none⟩=some (sV nm)) (go_keep)
      (first
      | ((with_reducible refine Calls.mono (Xx.out _ (r_.drew)) ?_);intro x w6 hx;obtain⟨Vz,Jg⟩:=hx;subst Vz;have Xb:Bl w5 w6:=r_.drew.trans Jg;have q:=And.intro ((Xb.cell (p:=⟨C.P,0,none⟩) Zr).trans p0) (And.intro ((Xb.cell (p:=⟨C.P,1,none⟩) Zr).trans p1) ((Xb.cell (p:=⟨G,2,none⟩) Zn).trans y2)))
      | ((with_reducible refine Calls.mono (Uo.out w6 Xb) ?_);intro x w7 hx;have Vh:=ah hx;obtain⟨z7,Om,Op,Oe,Un,-,Zk,t7,-⟩:=hx;subst Un;have q7:=And.intro (Zk.box 0 _ rfl).1 (And.intro (Zk.box 1 _ rfl).1 ((c_ (a:=⟨G,2,none⟩) (t7.block G (l_ Zn Xb.size) Ut)).trans q.2.2))))
     have Vw:=ah (Ja.out w6 _ w7 Xb Vh);clear q q7 Zk t7 Vh Xb Jg;go_wp2;go_ret;exact Vw
  ·have Vd:=ah Yp;have Yu:=Za.out c Xj;have c8:=(Yp.box 8 _ rfl).1;have Ui:(c == 0)=false:=by simpa using Yu
   have Ja:Hid (kg C w lb vL vO r s' (rW (V 0)) wr):=d8 Jr.out HT.out HO.out (by rw[Xj];exact Yp) (λv hv=>by rw[Xj]at hv;cases hv);clear Yp Xj;by_cases Xg:(i:Int)<(A:Int)
   ·go_wp2_with fail;refine(jf Vd.out Yu).mono ?_;rintro x w5 ⟨⟨u,rfl⟩,Xs⟩;rw[Xs];clear Xs;go_wp2;go_ret;exact Ja
   ·go_wp2_with fail;refine(jf Vd.out Yu).mono ?_;rintro x w5 ⟨⟨u,rfl⟩,Xs⟩;rw[Xs];clear Xs;go_wp2;go_ret;exact Ja
section
variable{C:RC}{lb:List Nat}{w w3:AT}{c vl v:Int}{rt:Bool}{vL vI vO:BY}{s s':ES}
def RS.gK(k:Nat)(h:k<C.gb.length):C.gb[k]∈C.K lb:=by unfold RC.K;exact m_ _ (m_ _ (mem_append_left _ (g_ h)))
def RS.lK(k:Nat)(h:k<lb.length):lb[k]∈C.K lb:=by unfold RC.K;exact m_ _ (m_ _ (mem_append_right _ (g_ h)))
def RC.memP:C.P∈C.K lb:=by simp[RC.K]
def RC.memG:C.bG∈C.K lb:=by simp[RC.K]
theorem RS.newO{I:Value}(h:RS C w c rt vl lb vL vI vO s)(Z:ak (λk=>vO.ownBlock=some k) w w3)(Jc:w3.ownsRow C.w0.heap.size 2 1 I s'.o.length (s'.o.map (Value.int .i64)))
  (Jb:∀k,I.ownBlock=some k->vO.ownBlock=some k∨w.heap.size<=k) (J:s'={s with o:=s.o++[v]}) (hu:(s'.o.length:Int)+s'.u<=C.F):
  RS C (w3.setCell ⟨C.P,5,none⟩ I) c rt vl lb vL vI I s':=by
 obtain⟨p1,p2,p3,p4⟩:=h.hi;have Jk:C.P<w3.heap.size:=l_ p1 Z.size;have Jh:¬vO.ownBlock=some C.P:=λe=>(h.oo _ e).1 RC.memP;have t2:ak (λk=>k=C.P) w3 (w3.setCell ⟨C.P,5,none⟩ I):=(ak.refl (λk=>k=C.P) w3).setCell (p:=⟨C.P,5,none⟩) rfl _;have U:ak (λk=>vO.ownBlock=some k∨k=C.P) w (w3.setCell ⟨C.P,5,none⟩ I):=(Z.mono (λk hk=>.inl hk)).next t2 (λk hk=>.inl (.inr hk));have Je:=h.nd;unfold RC.K at Je;obtain⟨Y,n2⟩:=List.nodup_cons.1 Je;have hG:¬(vO.ownBlock=some C.bG∨C.bG=C.P):=λe=>e.elim (λe=>(h.oo _ e).1 RC.memG) (λe=>Y (e ▸ List.mem_cons_self ..));have Ji:∀k (hk:k<C.gb.length),¬(vO.ownBlock=some C.gb[k]∨C.gb[k]=C.P):=λk hk e=>e.elim (λe=>(h.oo _ e).1 (RS.gK k hk)) (λe=>Y (e ▸ m_ _ (List.mem_append_left _ (g_ hk))));have Jj:∀k (hk:k<lb.length),¬(vO.ownBlock=some lb[k]∨lb[k]=C.P):=λk hk e=>e.elim (λe=>(h.oo _ e).1 (RS.lK k hk)) (λe=>Y (e ▸ m_ _ (List.mem_append_right _ (g_ hk))));have hc:∀o,(w3.setCell ⟨C.P,5,none⟩ I).cell? ⟨C.bG,o,none⟩=w.cell? ⟨C.bG,o,none⟩:=λo=>c_ (U.block C.bG p2 hG);have Jg:=(h.box.tcs p1 Z Jh).set 5 I;have Jd:∀k,I.ownBlock=some k->k∉C.K lb/\vL.ownBlock≠some k:=λk hk=>by
  rcases Jb k hk with h1|h1
  ·exact h.oo k h1
  ·exact⟨λhm=>by have:=(h.rng k hm).2;omega,λe=>by have:=(World.ownsRow.lt h.lrow k e).2;omega⟩
 have Jf:=Jc;subst J;refine⟨U.below h.bel h.bel.size (λk hk=>?_),Jg,λk h1 h2=>⟨(hc _).trans (h.grow k h1 h2).1,(hc _).trans (h.grow k h1 h2).2⟩,h.gl,λk h1=>(h.gw k h1).tcs (h.rng _ (RS.gK k h1)).2 U (Ji k h1),h.g1,h.ll,aO h.lrow U (λk hk J=>?_),λj h1 h2=>(h.lw j h1 h2).tcs (h.rng _ (RS.lK j h1)).2 U (Jj j h1),h.inp,aO Jf t2 (λk hk J=>(Jd k hk).1 (by have e:k=C.P:=J;rw[e];exact RC.memP)),h.nd,λk hk=>⟨(h.rng k hk).1,l_ (h.rng k hk).2 U.size⟩,h.lo,Jd,⟨h.ok.g,h.ok.l,h.ok.i⟩,⟨h.uu.1,hu⟩,h.lm,h.nn⟩
 ·rcases hk with hk|hk
  ·exact(World.ownsRow.lt h.out k hk).1
  ·omega
 ·rcases J with J|J
  ·exact(h.oo k J).2 hk
  ·exact h.lo k hk (by rw[J];exact RC.memP)
theorem RS.newL{w1:World}{U:Value}{x:ByteArray}{b:Nat}(h:RS C w c rt vl lb vL vI vO s)(Ji:Below w.heap.size w w1)(hb:w.heap.size<=b/\b<w1.heap.size)(hw:aK w1 b [V v])(ht:ak (λk=>vL.ownBlock=some k) w1 w3)
  (Jd:w3.ownsRow C.w0.heap.size 65 2 U (s.l.length+1) (bD s.l lb++lcl (x,v) b))
  (Jb:∀k,U.ownBlock=some k->vL.ownBlock=some k∨w1.heap.size<=k) (Y:s'={s with l:=s.l++[(x,v)]}) (Jr:s.l.length+1<=200000) (hv:et v):
  RS C (w3.setCell ⟨C.P,3,none⟩ U) c rt vl (lb++[b]) U vI vO s':=by
 obtain⟨p1,p2,p3,p4⟩:=h.hi;have Jq:=Ji.size;have Jf:C.P<w1.heap.size:=o_;have Jp:C.P<w3.heap.size:=l_ Jf ht.size;have J:=h.below Ji;have Jl:¬vL.ownBlock=some C.P:=λe=>h.lo _ e RC.memP;have t2:ak (λk=>k=C.P) w3 (w3.setCell ⟨C.P,3,none⟩ U):=(ak.refl (λk=>k=C.P) w3).setCell (p:=⟨C.P,3,none⟩) rfl _;have Z:ak (λk=>vL.ownBlock=some k∨k=C.P) w1 (w3.setCell ⟨C.P,3,none⟩ U):=(ht.mono (λk hk=>.inl hk)).next t2 (λk hk=>.inl (.inr hk));have Jg:=h.nd;unfold RC.K at Jg;obtain⟨n1,n2⟩:=List.nodup_cons.1 Jg;have hG:¬(vL.ownBlock=some C.bG∨C.bG=C.P):=λe=>e.elim (λe=>h.lo _ e RC.memG) (λe=>n1 (e ▸ List.mem_cons_self ..));have Jm:∀k (hk:k<C.gb.length),¬(vL.ownBlock=some C.gb[k]∨C.gb[k]=C.P):=λk hk e=>e.elim (λe=>h.lo _ e (RS.gK k hk)) (λe=>n1 (e ▸ m_ _ (List.mem_append_left _ (g_ hk))));have Jo:∀k (hk:k<lb.length),¬(vL.ownBlock=some lb[k]∨lb[k]=C.P):=λk hk e=>e.elim (λe=>h.lo _ e (RS.lK k hk)) (λe=>n1 (e ▸ m_ _ (List.mem_append_right _ (g_ hk))));have Jh:¬(vL.ownBlock=some b∨b=C.P):=λe=>e.elim (λe=>by have:=(World.ownsRow.lt h.lrow _ e).2;omega) (λe=>by omega);have hc:∀o,(w3.setCell ⟨C.P,3,none⟩ U).cell? ⟨C.bG,o,none⟩=w1.cell? ⟨C.bG,o,none⟩:=λo=>c_ (Z.block C.bG o_ hG);have Jk:=(J.box.tcs Jf ht Jl).set 3 U;have Jc:∀k,k∈C.K (lb++[b])↔k∈C.K lb∨k=b:=λk=>by unfold RC.K;simp[or_assoc]
 have Je:∀k,U.ownBlock=some k->k∉C.K (lb++[b]):=λk hk I=>by
  rcases(Jc k).1 I with I|rfl
  ·rcases Jb k hk with h1|h1
   ·exact h.lo k h1 I
   ·have:=(h.rng k I).2;omega
  ·rcases Jb k hk with h1|h1
   ·exact Jh (.inl h1)
   ·omega
 subst Y;refine⟨Z.below J.bel J.bel.size (λk hk=>?_),Jk,λk h1 h2=>⟨(hc _).trans (J.grow k h1 h2).1,(hc _).trans (J.grow k h1 h2).2⟩,h.gl,λk h1=>(J.gw k h1).tcs (J.rng _ (RS.gK k h1)).2 Z (Jm k h1),h.g1,by simp[h.ll],?_,λj h1 h2=>?_,h.inp,aO J.out Z (λk hk Y=>?_),?_,λk hk=>?_,Je,λk hk=>⟨λI=>?_,λe=>?_⟩,⟨h.ok.g,?_,h.ok.i⟩,h.uu,?_,h.nn⟩
 ·rcases hk with hk|hk
  ·exact(World.ownsRow.lt h.lrow k hk).1
  ·omega
 ·have e1:bD (s.l++[(x,v)]) (lb++[b])=bD s.l lb++lcl (x,v) b:=sD h.ll (x,v) b;show World.ownsRow _ _ _ _ _ (s.l++[(x,v)]).length (bD (s.l++[(x,v)]) (lb++[b]));rw[e1,l_a,List.length_singleton];exact aO Jd t2 (λk hk Y=>Je k hk (by have e:k=C.P:=Y;rw[e];exact RC.memP))
 ·have h2:j<(s.l++[(x,v)]).length:=h2;have Jj:=h.ll;show aK _ ((lb++[b])[j]) [V ((s.l++[(x,v)])[j]).2];by_cases e:j<lb.length
  ·have ej:(lb++[b])[j]=lb[j]:=List.getElem_append_left e;have el:(s.l++[(x,v)])[j]=s.l[j]'(by omega):=List.getElem_append_left o_;rw[ej,el];exact(J.lw j e o_).tcs (J.rng _ (RS.lK j e)).2 Z (Jo j e)
  ·have hj:j=lb.length:=by simp at h1;omega
   subst hj;have ej:(lb++[b])[lb.length]=b:=i_;have el:(s.l++[(x,v)])[lb.length]=(x,v):=by simp[Jj]
   rw[ej,el];exact hw.tcs hb.2 Z Jh
 ·rcases Y with Y|Y
  ·exact(h.oo k hk).2 Y
  ·exact(h.oo k hk).1 (by rw[Y];exact RC.memP)
 ·have Jn:b∉C.K lb:=λI=>by have:=(h.rng b I).2;omega
  have e:C.K (lb++[b])=C.K lb++[b]:=by simp[RC.K]
  rw[e];exact List.nodup_append.2 ⟨h.nd,i_,λy hy z hz e2=>by simp at hz;subst hz;subst e2;exact Jn hy⟩
 ·rcases(Jc k).1 hk with I|rfl
  ·exact⟨(h.rng k I).1,l_ (J.rng k I).2 Z.size⟩
  ·exact⟨by have:=h.bel.size;omega,l_ hb.2 Z.size⟩
 ·rcases(Jc k).1 I with I|rfl
  ·exact(h.oo k hk).1 I
  ·have:=(World.ownsRow.lt h.out _ hk).2;omega
 ·rcases Jb k e with h1|h1
  ·exact(h.oo k hk).2 h1
  ·have:=(World.ownsRow.lt h.out _ hk).2;omega
 ·intro y hy;rcases List.mem_append.1 hy with hy|hy
  ·exact h.ok.l y hy
  ·simp at hy;subst hy;exact hv
 ·show(s.l++[(x,v)]).length<=_;simp;omega
theorem yW(v:Int)(h:RS C w c rt vl lb vL vI vO s)(J:(s.o.length:Int)+s.u+1<=C.F)(hF:C.F<=100000):
  ∃va vn vc w3,(Builtin.append_ #[26,26] 26 #[vO,rV w.heap.size 1 1]).run prog (w.alloc (.cells #[V v] 2))=.ok (.slice va vn vc) w3/\RS C (w3.setCell ⟨C.P,5,none⟩ (.slice va vn vc)) c rt vl lb vL vI (.slice va vn vc) {s with o:=s.o++[v]}/\(w3.cell? ⟨C.P,5,none⟩=some vO/\w3.frozen? ⟨C.P,5,none⟩=false)/\ak (fj C vO) w (w3.setCell ⟨C.P,5,none⟩ (.slice va vn vc))/\∀k,(Value.slice va vn vc).ownBlock=some k->vO.ownBlock=some k∨w.heap.size<=k:=by
 obtain⟨i0,hi,Jd,Je,Jf⟩:=info_parts nY;have I:Bl w (w.alloc (.cells #[V v] 2)):=au _ _;have h':=ownB h.out I;have Jb:(w.alloc (.cells #[V v] 2)).ownsRow w.heap.size 2 1 (rV w.heap.size 1 1) 1 [V v]:=World.ownsRow_lit w #[V v] 1 n_ d_ rfl;obtain⟨v',w',r1,r2,r3,Z⟩:=cE (P:=prog) (w:=w.alloc (.cells #[V v] 2)) C.w0.heap.size 26 26 2 i0 _ 1 8 underlying26 hi Jd Je Jf rfl d_ vO _ _ h' (some ⟨w.heap.size,0,none⟩) 1 1 [V v] (λe=>by cases e) rfl (λad had k u J=>by cases had;exact World.ownsRow.cells Jb (g:=w.heap.size) rfl k u J) (λu J=>by simp at J;subst J;rfl) o_ d_ (by have:=h.bel.size;have:=I.size;omega);obtain⟨va,vc,rfl,-⟩:=bj r2;have U:ak (λk=>vO.ownBlock=some k) (w.alloc (.cells #[V v] 2)) w':=ak.of_grown r3 (λk hk=>hk);have Y:=h.below I;have hP:=Y.hi.1;have Jg:¬vO.ownBlock=some C.P:=λe=>(h.oo _ e).1 RC.memP;have ho:∀k,(Value.slice va (s.o.length+1) vc).ownBlock=some k->vO.ownBlock=some k∨w.heap.size<=k:=λk hk=>(Z k hk).imp_right (λh1=>by have:=I.size;omega);refine⟨va,_,vc,w',r1,?_,Y.box.tcs hP U Jg 5 _ rfl,?_,ho⟩
 ·refine Y.newO U ?_ Z rfl ?_
  ·show World.ownsRow _ _ _ _ _ (s.o++[v]).length ((s.o++[v]).map _);rw[l_a,List.map_append];exact r2
  ·show(((s.o++[v]).length:Nat):Int)+(s.u:Int)<=_;simp
   omega
 ·refine((I.tcs (S:=fj C vO)).next U (λk hk=>.inl (.inr (.inr hk)))).setCell (p:=⟨C.P,5,none⟩) (.inl rfl) _
def qN:(prog.info? 65).map (λi=>(i.zero,i.size,i.bytes))=some (some (.agg #[sV ⟨#[]⟩,nV]),2,40):=by kernel_rfl
def qO{W:AT}(x:GA)(v:Int)(h:RS C w c rt vl lb vL vI vO s)(U:W=(w.alloc (.cells #[V v] 2)).alloc (.cells #[sV x,rV w.heap.size 1 1] 65))(hl:s.l.length+1<=200000)(hv:et v):
  ∃va vn vc w3,(Builtin.append_ #[59,59] 59 #[vL,.slice (some ⟨w.heap.size+1,0,none⟩) 1 1]).run prog W=.ok (.slice va vn vc) w3/\RS C (w3.setCell ⟨C.P,3,none⟩ (.slice va vn vc)) c rt vl (lb++[w.heap.size]) (.slice va vn vc) vI vO {s with l:=s.l++[(x,v)]}/\(DO w3 C.P 3 vL/\D4 w3 C.P 3)/\ak (λk=>k=C.P∨vL.ownBlock=some k) W w3/\ak (f_ C lb vL vO) w (w3.setCell ⟨C.P,3,none⟩ (.slice va vn vc))/\∀k,(Value.slice va vn vc).ownBlock=some k->vL.ownBlock=some k∨w.heap.size<=k:=by
 obtain⟨i0,hi,Jf,Jg,Jh⟩:=info_parts qN;have Z:Bl w (w.alloc (.cells #[V v] 2)):=au _ _;have J:Bl w W:=by rw[U];exact Z.alloc Z.size _
 have hz:(w.alloc (.cells #[V v] 2)).heap.size=w.heap.size+1:=GO ..;have Jj:W.heap.size=w.heap.size+2:=by rw[U,GO,GO]
 have Je:aK W w.heap.size [V v]:=by
  rw[U];exact(aH w #[V v] 2 i_).below (au _ _)
 have h':=ownB h.lrow J;have Jb:W.ownsRow (w.heap.size+1) 65 2 (.slice (some ⟨w.heap.size+1,0,none⟩) 1 1) 1 [sV x,rV w.heap.size 1 1]:=by
  have:=ownsRow_lit (e:=65) (size:=2) (w.alloc (.cells #[V v] 2)) #[sV x,rV w.heap.size 1 1] 1 n_ d_ rfl
  rw[hz]at this;rw[U];exact this
 obtain⟨v',w',r1,r2,r3,Y⟩:=cE (P:=prog) (w:=W) C.w0.heap.size 59 59 65 i0 _ 2 40 underlying59 hi Jf Jg Jh rfl d_ vL _ _ h' (some ⟨w.heap.size+1,0,none⟩) 1 1 [sV x,rV w.heap.size 1 1] (λe=>by cases e) rfl (λad had k u hu=>by cases had;exact ownsRow.cells Jb (g:=w.heap.size+1) rfl k u hu) (λu hu=>by simp at hu;rcases hu with rfl|rfl <;> rfl) o_ d_ (Ft h.bel.size);obtain⟨va,vc,rfl,-⟩:=bj r2;have I:ak (λk=>vL.ownBlock=some k) W w':=ak.of_grown r3 (λk hk=>hk);have Jd:=h.below J;have hP:=Jd.hi.1;have Ji:¬vL.ownBlock=some C.P:=λe=>h.lo _ e RC.memP;refine⟨va,_,vc,w',r1,?_,Jd.box.tcs hP I Ji 3 _ rfl,I.mono (λk hk=>.inr hk),?_,λk hk=>(Y k hk).imp_right (λh1=>by omega)⟩
 ·exact h.newL J ⟨n_,o_⟩ Je I r2 Y rfl hl hv
 ·exact((J.tcs (S:=f_ C lb vL vO)).next I (λk hk=>.inl (.inr (.inr hk)))).setCell (p:=⟨C.P,3,none⟩) (.inl (.inl rfl)) _
end
section
variable{gs:List Gl}{gb:List Nat}{w1 w W:AT}{P:Nat}{vG:BY}
def kh(g:Gl)(b:Nat):List BY:=[sV g.name,rV b (dV g) (dV g)]
def dE(gs:List Gl)(gb:List Nat):List BY:=(gs.zip gb).flatMap (λx=>kh x.1 x.2)
def sF(h:gb.length=gs.length)(g:Gl)(b:Nat):dE (gs++[g]) (gb++[b])=dE gs gb++kh g b:=by
 unfold dE;rw[zip_append o_,flatMap_append];simp
theorem jg:∀(l:List Gl) (lb:List Nat) (h:lb.length=l.length) (j i:Nat) (hj:j<l.length),i<2->(dE l lb)[j*2+i]? =(kh l[j] (lb[j]'(by omega)))[i]?
 | x::l,b::lb,h,0,i,_,hi=>by
  have h2:(kh x b).length=2:=rfl;have e:dE (x::l) (b::lb)=kh x b++dE l lb:=by simp[dE]
  rw[e,getElem?_append_left o_];simp
 | x::l,b::lb,h,j+1,i,hj,hi=>by
  have h2:(kh x b).length=2:=rfl;have e:dE (x::l) (b::lb)=kh x b++dE l lb:=by simp[dE]
  rw[e,getElem?_append_right o_];have I:(j+1)*2+i-(kh x b).length=j*2+i:=o_;rw[I,jg l lb (Fc h) j i (Fc hj) hi];simp
theorem sG(h:gb.length=gs.length):(dE gs gb).length=gs.length*2:=by
 induction gs generalizing gb with
 | nil=>simp[dE]
 | cons x r ih=>
  cases gb with
  | nil=>simp at h
  | cons b q=>
   have:=ih (gb:=q) (Fc h)
   have e:dE (x::r) (b::q)=kh x b++dE r q:=by simp[dE]
   rw[e,l_a,this];simp[kh];omega
structure GI (w1:AT) (P:Nat) (gs:List Gl) (wr:AT) (vG:BY) (gb:List Nat):Prop where
 ll:gb.length=gs.length
 row:wr.ownsRow w1.heap.size 65 2 vG gs.length (dE gs gb)
 lw:∀j (hj:j<gb.length) (hl:j<gs.length),aK wr gb[j] (Bh (dV gs[j]))
 nd:gb.Nodup
 rng:∀b∈gb,w1.heap.size<=b/\b<wr.heap.size
 lo:∀k,vG.ownBlock=some k->k∉gb
 tc:ak (λk=>k=P) w1 wr
def GI.start:GI w1 P [] w1 nV []:=⟨rfl,ownsRow_nil _ _ _ _,(λj hj=>by simp at hj),nodup_nil,(λb hb=>by simp at hb),(λk hk=>by cases hk),ak.refl _ _⟩
def GI.more{w3:AT}{I:BY}{g:Gl}{b:Nat}(h:GI w1 P gs w vG gb)(hP:P<w1.heap.size)(Je:Bl w W)(hb:w.heap.size<=b/\b<W.heap.size)(hw:aK W b (Bh (dV g)))(ht:ak (λk=>vG.ownBlock=some k) W w3)
  (Jf:w3.ownsRow w1.heap.size 65 2 I (gs.length+1) (dE gs gb++kh g b)) (Ja:∀k,I.ownBlock=some k->vG.ownBlock=some k∨W.heap.size<=k):GI w1 P (gs++[g]) (w3.setCell ⟨P,2,none⟩ I) I (gb++[b]):=by
 have Jk:=h.tc.size;have Jj:=Je.size;have Jl:=ht.size;have t2:ak (λk=>k=P) w3 (w3.setCell ⟨P,2,none⟩ I):=(ak.refl (λk=>k=P) w3).setCell (p:=⟨P,2,none⟩) rfl _;have Z:ak (λk=>vG.ownBlock=some k∨k=P) W (w3.setCell ⟨P,2,none⟩ I):=(ht.mono (λk hk=>.inl hk)).next t2 (λk hk=>.inl (.inr hk));have Y:=λk (hk:vG.ownBlock=some k)=>ownsRow.lt h.row k hk;have Jd:∀k (hk:k<gb.length),¬(vG.ownBlock=some gb[k]∨gb[k]=P):=λk hk e=>e.elim (λe=>h.lo _ e (g_ hk)) (λe=>by have:=(h.rng _ (g_ hk)).1;omega);have Jg:¬(vG.ownBlock=some b∨b=P):=λe=>e.elim (λe=>by have:=(Y _ e).2;omega) (λe=>by omega);have Ji:∀k,I.ownBlock=some k->k≠P:=λk hk e=>by
  rcases Ja k hk with h1|h1
  ·have:=(Y k h1).1;omega
  ·omega
 refine⟨by simp[h.ll],?_,λj h1 h2=>?_,?_,λk hk=>?_,λk hk hm=>?_,?_⟩
 ·rw[sF h.ll,l_a,length_singleton];exact aO Jf t2 (λk hk hs=>Ji k hk hs)
 ·have Jh:=h.ll;by_cases e:j<gb.length
  ·have J:(gb++[b])[j]=gb[j]:=getElem_append_left e;have U:(gs++[g])[j]=gs[j]'(by omega):=getElem_append_left o_;rw[J,U];exact((h.lw j e o_).below Je).tcs (l_ (h.rng _ (g_ e)).2 Jj) Z (Jd j e)
  ·have hj:j=gb.length:=by simp at h1;omega
   subst hj;have J:(gb++[b])[gb.length]=b:=i_;have U:(gs++[g])[gb.length]=g:=by simp[Jh]
   rw[J,U];exact hw.tcs hb.2 Z Jg
 ·exact nodup_append.2 ⟨h.nd,i_,λy hy z hz e2=>by simp at hz;subst hz;subst e2;have:=(h.rng _ hy).2;omega⟩
 ·have Jm:=Z.size;rcases GJ.1 hk with hk|hk
  ·have:=h.rng k hk;exact⟨this.1,o_⟩
  ·simp at hk;subst hk;exact⟨o_,o_⟩
 ·rcases GJ.1 hm with hm|hm
  ·rcases Ja k hk with h1|h1
   ·exact h.lo k h1 hm
   ·have:=(h.rng k hm).2;omega
  ·simp at hm;subst hm;rcases Ja k hk with h1|h1
   ·exact Jg (.inl h1)
   ·omega
 ·refine((h.tc.of_below Je).next ht (λk hk=>.inr ?_)).setCell (p:=⟨P,2,none⟩) rfl _;exact(Y k hk).1
def yX(g:Gl)(h:GI w1 P gs w vG gb)(hP:P<w1.heap.size)(hg:dV g<=10000)(Jj:gs.length<=1000)(I:W=(w.alloc (.cells (Array.replicate (dV g) (V 0)) 2)).alloc (.cells #[sV g.name,rV w.heap.size (dV g) (dV g)] 65)):
  ∃va vn vc w3,(Builtin.append_ #[59,59] 59 #[vG,.slice (some ⟨w.heap.size+1,0,none⟩) 1 1]).run prog W=.ok (.slice va vn vc) w3/\GI w1 P (gs++[g]) (w3.setCell ⟨P,2,none⟩ (.slice va vn vc)) (.slice va vn vc) (gb++[w.heap.size])/\ak (λk=>vG.ownBlock=some k) W w3/\vn=gs.length+1:=by
 obtain⟨i0,hi,Je,Jf,Jg⟩:=info_parts qN;have Y:Bl w (w.alloc (.cells (Array.replicate (dV g) (V 0)) 2)):=au _ _;have U:Bl w W:=by rw[I];exact Y.alloc Y.size _
 have hz:(w.alloc (.cells (Array.replicate (dV g) (V 0)) 2)).heap.size=w.heap.size+1:=GO ..;have Ji:W.heap.size=w.heap.size+2:=by rw[I,GO,GO]
 have Jd:aK W w.heap.size (Bh (dV g)):=by
  have:=(uh w (Array.replicate (dV g) (V 0)) 2 ZFs).below (w':=W) (by rw[I];exact au _ _)
  simpa[Bh]using this
 have h':=ownB h.row U;have Ja:W.ownsRow (w.heap.size+1) 65 2 (.slice (some ⟨w.heap.size+1,0,none⟩) 1 1) 1 [sV g.name,rV w.heap.size (dV g) (dV g)]:=by
  have:=ownsRow_lit (e:=65) (size:=2) (w.alloc (.cells (Array.replicate (dV g) (V 0)) 2)) #[sV g.name,rV w.heap.size (dV g) (dV g)] 1 n_ d_ rfl
  rw[hz]at this;rw[I];exact this
 have Jh:=h.tc.size;obtain⟨v',w',r1,Z,r3,r4⟩:=cE (P:=prog) (w:=W) w1.heap.size 59 59 65 i0 _ 2 40 underlying59 hi Je Jf Jg rfl d_ vG _ _ h' (some ⟨w.heap.size+1,0,none⟩) 1 1 [sV g.name,rV w.heap.size (dV g) (dV g)] (λe=>by cases e) rfl (λad had k u hu=>by cases had;exact ownsRow.cells Ja (g:=w.heap.size+1) rfl k u hu) (λu hu=>by simp at hu;rcases hu with rfl|rfl <;> rfl) o_ d_ o_;obtain⟨va,vc,rfl,-⟩:=bj Z;have J:ak (λk=>vG.ownBlock=some k) W w':=ak.of_grown r3 (λk hk=>hk);exact⟨va,_,vc,w',r1,h.more hP U ⟨n_,o_⟩ Jd J Z r4,J,rfl⟩
end
def Cr(z:Int):boolN (z != 0)=boolN (decide (z≠0)):=by
 by_cases h:z=0
 ·subst h;rfl
 ·rw[show(z != 0)=true by simpa using h,decide_eq_true h]
theorem yY{t:Tr}{fr:List Int}{n:Nat}{e:List Nd}{s:ES}{r:ER}{s':ES}(h:Ev t fr (n+1) (.e e) s r s')(J:(aB e).kind=8∨(aB e).kind=9):∃b,Cut e 2 b /\
  ((∃c,r=.out c/\Ev t fr n (.e (kid e b 0)) s (.out c) s')∨(∃x,r=.out 2/\Ev t fr n (.e (kid e b 0)) s (.val x) s'/\s'.u=0) ∨
  (∃x s1,((aB e).kind=8/\x=0∨(aB e).kind=9/\x≠0)/\r=.val (boolN (decide (x≠0)))/\s'=s1.sp/\Ev t fr n (.e (kid e b 0)) s (.val x) s1/\0<s1.u) ∨
  (∃x s1,((aB e).kind=8/\x≠0∨(aB e).kind=9/\x=0)/\Ev t fr n (.e (kid e b 0)) s (.val x) s1/\0<s1.u/\((∃c,r=.out c/\Ev t fr n (.e (kid e b 1)) s1.sp (.out c) s')∨(∃y,r=.out 2/\Ev t fr n (.e (kid e b 1)) s1.sp (.val y) s'/\s'.u=0)∨(∃y s2,r=.val (boolN (decide (y≠0)))/\s'=s2.sp/\Ev t fr n (.e (kid e b 1)) s1.sp (.val y) s2/\0<s2.u)))):=by
 have I:(aB e).kind≠8->(aB e).kind≠9->False:=λa b=>by rcases J with h|h;exact a h;exact b h
 cases h using Ev_i with
 | kid _ _ A b st v j c _ h1 h2 h3 h4 h5 h6=>exact(I h2 h3).elim
 | dry _ _ A b st v h1 h2 h3 h4 h5=>exact(I h2 h3).elim
 | work _ _ A b st v h1 h2 h3 h4 h5 h6=>exact(I h2 h3).elim
 | call _ _ A b st v f _ _ h1 h2 h3 h4 h5 h6=>rcases J with h|h <;> (rw[h]at h2;cases h2)
 | left _ _ b _ c _ h1 h2 h3=>exact⟨b,h1,.inl ⟨c,rfl,h3⟩⟩
 | ldry _ _ b _ x _ h1 h2 h3 h4=>exact⟨b,h1,.inr (.inl ⟨x,rfl,h3,h4⟩)⟩
 | lone _ _ b _ x s1 h1 h2 h3 h4=>exact⟨b,h1,.inr (.inr (.inl ⟨x,s1,h2,rfl,rfl,h3,h4⟩))⟩
 | rigt _ _ b _ x s1 c _ h1 h2 h3 h4 h5=>exact⟨b,h1,.inr (.inr (.inr ⟨x,s1,h2,h3,h4,.inl ⟨c,rfl,h5⟩⟩))⟩
 | rdry _ _ b _ x s1 y _ h1 h2 h3 h4 h5 h6=>exact⟨b,h1,.inr (.inr (.inr ⟨x,s1,h2,h3,h4,.inr (.inl ⟨y,rfl,h5,h6⟩)⟩))⟩
 | both _ _ b _ x s1 y s2 h1 h2 h3 h4 h5 h6=>exact⟨b,h1,.inr (.inr (.inr ⟨x,s1,h2,h3,h4,.inr (.inr ⟨y,s2,rfl,rfl,h5,h6⟩)⟩))⟩
theorem wd(C:RC)(hC:C.Ok)(n:Nat)(IH:Bq C n)(e:List Nd)(s:ES)(r:ER)(s':ES)(hE:Ev C.t C.fr (n+1) (.e e) s r s')(I:(aB e).kind=8∨(aB e).kind=9)(Xy:rU C.t (s.l.map Prod.fst) e)(Xz:jd C.t (s.l.map Prod.fst))(h1:aP e=true)(Yi:e.length<=1048576)(w:World)(vl:Int)(lb:List Nat)(Z vI Y ve:Value)(h:RS C w 0 false vl lb Z vI Y s)(hN:aw C.w0 ve e):
    Calls prog 131 #[pV C.P,ve] w λx w'=>kg C w lb Z Y r s' x w':=by
  obtain⟨b,Jx,Jr⟩:=yY hE I;have he:=Jx.len;have Xj:=qM h1 Jx;have Yj:=Jx.kid_lt 0 o_;have Yo:=Jx.kid_lt 1 o_;have J_:Hid (∀c,r=.out c->c≠0):=λc hc=>by have:=hE.outc c hc;omega
  have Xn:Hid (∀r1 s1,Ev C.t C.fr n (.e (kid e b 0)) s r1 s1->∀X vi,Bl w X->aw C.w0 vi (kid e b 0)->Calls prog 131 #[pV C.P,vi] X λx w'=>kg C X lb Z Y r1 s1 x w'):=λr1 s1 Jm X vi hX hNi=>IH (kid e b 0) s r1 s1 Jm Xy.kid Xz (Xj 0 o_) o_ X vl lb Z vI Y vi (h.below hX) hNi;have Xq:Hid (∀z x s1 r1 s2,Ev C.t C.fr n (.e (kid e b 0)) s (.val x) s1->Ev C.t C.fr n (.e (kid e b 1)) s1.sp r1 s2->∀X vi vI1 vO1,RS C X 0 false z lb Z vI1 vO1 s1.sp->aw C.w0 vi (kid e b 1)->Calls prog 131 #[pV C.P,vi] X λx w'=>kg C X lb Z vO1 r1 s2 x w'):=λz x s1 r1 s2 Je Jm X vi vI1 vO1 hX hNi=>by
    have hl:s1.sp.l=s.l:=(Je.inv h.ok trivial).2.2.2.2.2;exact IH (kid e b 1) s1.sp r1 s2 Jm (by rw[hl];exact Xy.kid) (by rw[hl];exact Xz) (Xj 1 o_) o_ X z lb Z vI1 vO1 vi hX hNi
  have Ya:Hid (∀X c z vI1 vO1 s1 vi,c≠0->RS C X c false z lb Z vI1 vO1 s1->aw C.w0 vi (kid e b 1)->Calls prog 131 #[pV C.P,vi] X λx w'=>x=rW (V 0)/\Bl X w'):=λX c z vI1 vO1 s1 vi hc hX hNi=>yV C _ (kid e b 1) n_ (Xj 1 o_) o_ X c false z lb Z vI1 vO1 vi s1 hc hX hNi;have Ym:=ah h;have Yh:=ah Jr;have Xv:=ah hC.fu;have HR:Hid (Calls prog 162 #[ve] w λr w'=>r=rW (.agg #[V (aB e).kind,V (aB e).val,sV (aB e).name])/\Bl w w'):=by
    have:=ir _ e w he Yi (hN.below h.bel)
    rw[<-eF e he]at this;exact this
  have HK:Hid (∀W:World,Bl w W->Calls prog 164 #[ve] W λr w'=>∃v',r=rW v'/\Kids C.w0 w' W.heap.size v' e b 2/\Bl W w'):=λW hW=>lU C.w0 ve e 2 b W Yi hN (h.bel.trans (hW.mono h.bel.size)) Jx;clear IH hN Xj h hE Jr Xy Xz hC Yj Yo;generalize hR:aB e=R at HR Yh I;clear hR Jx;obtain⟨nk,nv,nm⟩:=R;simp only at HR;have I:nk=8∨nk=9:=I;have Xw:∀w1:World,Bl w w1->∀o,Bl w (w1.alloc o):=λw1 h o=>h.alloc h.size o;go_in;go_wp2_with fail;refine HR.out.mono ?_;rintro x w1 ⟨rfl,Xh⟩;go_wp2_with fail;refine(HK.out _ (Xw _ Xh _)).mono ?_;rintro x W ⟨vk,rfl,Yq,Xa⟩;obtain⟨g0,g1,g2⟩:W.cell? ⟨w1.heap.size,0,none⟩=some (V nk)/\W.cell? ⟨w1.heap.size,1,none⟩=some (V nv)/\W.cell? ⟨w1.heap.size,2,none⟩=some (sV nm):=by
    refine⟨?_,?_,?_⟩
    · rw[Xa.cell i_];simp
    · rw[Xa.cell i_];simp
    · rw[Xa.cell i_];simp
  have Jl:Hid (Bl w W):=(Xw _ Xh _).trans (Xa.mono (by have:=Xh.size;simp;omega));have X_:w1.heap.size<W.heap.size:=b_ g0;have Yp:w.heap.size<=w1.heap.size:=Xh.size;obtain⟨ua,uc,rfl,Xk,Yl,Ye⟩:=Yq;obtain⟨B,rfl,Yk,Yn,Xs⟩:=Ye o_;have Yr:w.heap.size<=B:=by simp at Yk;omega
  obtain⟨v0,q0,n0⟩:=Xs 0 o_;obtain⟨v1,q1,n1⟩:=Xs 1 o_;obtain⟨ka,kn,kc,rfl⟩:∃ka kn kc,v0=.slice ka kn kc:=by obtain⟨x,y,e,-⟩:=n0;exact⟨_,_,_,e⟩
  obtain⟨la,ln,lc,rfl⟩:∃ka kn kc,v1=.slice ka kn kc:=by obtain⟨x,y,e,-⟩:=n1;exact⟨_,_,_,e⟩
  generalize w1.heap.size=G at g0 g1 g2 X_ Yp⊢;have Xi:=ah n0;have Jz:=ah n1;have Yb:Hid (∀k,fj C Y k->k<w.heap.size):=λk I=>(fj.lt Ym.out k I).1;have Ju:Hid (∀X,ak (fj C Y) W X->X.cell? ⟨G,0,none⟩=some (V nk)/\X.cell? ⟨B,1,none⟩=some (.slice la ln lc)):=λX hX=>⟨(c_ (hX.block G X_ (λhT=>by have:=Yb.out G hT;omega))).trans g0,(c_ (hX.block B Yn (λhT=>by have:=Yb.out B hT;omega))).trans q1⟩;have Xu:Hid (∀vO1:Value,(∀k,vO1.ownBlock=some k->Y.ownBlock=some k∨W.heap.size<=k)->∀k,fj C vO1 k->fj C Y k∨W.heap.size<=k):=λvO1 h1 k I=>by
    rcases I with h|h|h
    · exact .inl (.inl h)
    · exact .inl (.inr (.inl h))
    · exact(h1 k h).imp (λh=>.inr (.inr h)) id
  clear Xh Xa HR HK Xw Ye Yl Xs n0 n1 q1 g1 g2;rcases Yh.out with⟨c,U,Je⟩|⟨x0,U,Je,Xb⟩|⟨x0,s1,Jh,U,hs,Je,Xb⟩|⟨x0,s1,Jh,Je,Xb,hR⟩
  · rcases I with rfl|rfl
    all_goals
      have Jp:=J_.out c U;have Jj:=ah (Xn.out _ _ Je W (.slice ka kn kc) Jl.out Xi);go_wp2_with fail;refine Jj.out.mono ?_;rintro x w2 ⟨z,Xo,Xp,Xr,rfl,hz,Ji,t2,o2⟩;have Jg:=ah t2;have Jf:=ah o2;have Jk:=ah Ji;clear Jj Ji t2 o2;obtain⟨y0,y1⟩:=Ju.out w2 Jg;have Jn:Hid (∀zz X,Bl w2 X->kg C w lb Z Y r s' (rW (V zz)) X):=λzz X hX=>d8 Jl.out (Jg.out.of_below hX) Jf.out (by rw[U];exact Jk.out.below hX) (λv hv=>by rw[U]at hv;cases hv);go_wp2_with fail;refine(jf Jk.out Jp).mono ?_;rintro x w3 ⟨⟨u3,rfl⟩,Yf⟩;rw[Yf];clear Yf;by_cases Jc:z=0
      all_goals first
        | subst Jc
        | have Xl:(z != 0)=true:=by simpa using Jc
      all_goals go_wp2_with fail
      all_goals first
        | (with_reducible refine Calls.mono (dW _ w2) ?_
           rintro x wb ⟨rfl,J⟩;rw[J];clear J;go_wp2;go_ret;exact Jn.out _ _ r_)
        | (refine(Ya.out w2 c _ _ _ _ _ Jp Jk.out Jz).mono ?_
           rintro x w6 ⟨rfl,Xd⟩;have Jv:=ah (Jk.out.below Xd);go_wp2_with fail;refine(jf Jv.out Jp).mono ?_;rintro x w7 ⟨⟨u7,rfl⟩,Xf⟩;rw[Xf];clear Xf;go_wp2_with fail;refine(dW _ w6).mono ?_;rintro x wb ⟨rfl,J⟩;rw[J];clear J;go_wp2;go_ret;exact Jn.out _ _ Xd)
  · rcases I with rfl|rfl
    all_goals
      have Jp:(2:Int)≠0:=d_;have Jj:=ah (Xn.out _ _ Je W (.slice ka kn kc) Jl.out Xi);go_wp2_with fail;refine Jj.out.mono ?_;rintro x w2 ⟨z,Xo,Xp,Xr,rfl,hz,Ji,t2,o2⟩;have Jg:=ah t2;have Jf:=ah o2;have Jk:=ah Ji;clear Jj Ji t2 o2;obtain⟨y0,y1⟩:=Ju.out w2 Jg;obtain rfl:z=x0:=hz _ rfl;go_wp2_with fail;refine(mf Jk.out Xb).mono ?_;rintro x w3 ⟨⟨u3,rfl⟩,Jq,t3⟩;have Jd:=ah (Jg.out.next t3 (λk I=>.inl (.inl I)));have Jo:=ah Jq;clear Jq t3 y0 y1;obtain⟨y0,y1⟩:=Ju.out w3 Jd;have Jn:Hid (∀zz X,Bl w3 X->kg C w lb Z Y r s' (rW (V zz)) X):=λzz X hX=>d8 Jl.out (Jd.out.of_below hX) Jf.out (by rw[U];exact Jo.out.below hX) (λv hv=>by rw[U]at hv;cases hv);by_cases Jc:z=0
      all_goals first
        | subst Jc
        | have Xl:(z != 0)=true:=by simpa using Jc
      all_goals go_wp2_with fail
      all_goals first
        | (with_reducible refine Calls.mono (dW _ w3) ?_
           rintro x wb ⟨rfl,J⟩;rw[J];clear J;go_wp2;go_ret;exact Jn.out _ _ r_)
        | (refine(Ya.out w3 2 _ _ _ _ _ Jp Jo.out Jz).mono ?_
           rintro x w6 ⟨rfl,Xd⟩;have Jv:=ah (Jo.out.below Xd);go_wp2_with fail;refine(jf Jv.out Jp).mono ?_;rintro x w7 ⟨⟨u7,rfl⟩,Xf⟩;rw[Xf];clear Xf;go_wp2_with fail;refine(dW _ w6).mono ?_;rintro x wb ⟨rfl,J⟩;rw[J];clear J;go_wp2;go_ret;exact Jn.out _ _ Xd)
  · rcases I with rfl|rfl
    all_goals
      have Jj:=ah (Xn.out _ _ Je W (.slice ka kn kc) Jl.out Xi);go_wp2_with fail;refine Jj.out.mono ?_;rintro x w2 ⟨z,Xo,Xp,Xr,rfl,hz,Ji,t2,o2⟩;have Jg:=ah t2;have Jf:=ah o2;have Jk:=ah Ji;clear Jj Ji t2 o2;obtain⟨y0,y1⟩:=Ju.out w2 Jg;obtain rfl:z=x0:=hz _ rfl;go_wp2_with fail;refine(je Jk.out Xb Xv).mono ?_;rintro x w3 ⟨⟨u3,rfl⟩,Jq,t3⟩;have Jd:=ah (Jg.out.next t3 (λk I=>.inl (.inl I)));have Jo:=ah Jq;clear Jq t3 y0 y1;obtain⟨y0,y1⟩:=Ju.out w3 Jd;have HF:Hid (kg C w lb Z Y r s' (rW (V (boolN (z != 0)))) w3):=d8 Jl.out Jd.out Jf.out (by rw[U,hs];exact Jo) (λv hv=>by rw[U]at hv;cases hv;exact Cr z);rcases Jh with⟨h8,Jc⟩|⟨h8,Jc⟩;all_goals first
        | (exact absurd h8 d_)
        | subst Jc
        | have Xl:(z != 0)=true:=by simpa using Jc
      all_goals go_wp2_with fail
      all_goals
        refine(dW _ w3).mono ?_;rintro x wb ⟨rfl,J⟩;rw[J];clear J;go_wp2;go_ret;first
        | exact HF
        | (have:=HF.out;rw[Xl]at this;exact this)
  · rcases I with rfl|rfl
    all_goals
      have Jj:=ah (Xn.out _ _ Je W (.slice ka kn kc) Jl.out Xi);go_wp2_with fail;refine Jj.out.mono ?_;rintro x w2 ⟨z,Xo,Xp,Xr,rfl,hz,Ji,t2,o2⟩;have Jg:=ah t2;have Jf:=ah o2;have Jk:=ah Ji;clear Jj Ji t2 o2;obtain⟨y0,y1⟩:=Ju.out w2 Jg;obtain rfl:z=x0:=hz _ rfl;go_wp2_with fail;refine(je Jk.out Xb Xv).mono ?_;rintro x w3 ⟨⟨u3,rfl⟩,Jq,t3⟩;have Jd:=ah (Jg.out.next t3 (λk I=>.inl (.inl I)));have Jo:=ah Jq;clear Jq t3 y0 y1;obtain⟨y0,y1⟩:=Ju.out w3 Jd;rcases Jh with⟨h8,Jc⟩|⟨h8,Jc⟩;all_goals first
        | (exact absurd h8 d_)
        | subst Jc
        | have Xl:(z != 0)=true:=by simpa using Jc
      all_goals
        rcases hR with⟨c,U,Jm⟩|⟨y,U,Jm,Xk⟩|⟨y,s2,U,hs,Jm,Xk⟩
        · have Jp:=J_.out c U
          have Js:=ah (Xq.out _ _ s1 _ _ Je Jm w3 (.slice la ln lc) _ _ Jo.out Jz);go_wp2_with fail;refine Js.out.mono ?_;rintro x w4 ⟨z4,Yc,Jy,Yg,rfl,Xm,Jt,t4,o4⟩;have Xg:=ah (Jd.out.next t4 (Xu.out _ Jf));have Xc:Hid (∀k,Jy.ownBlock=some k->Y.ownBlock=some k∨W.heap.size<=k):=λk I=>(o4 k I).elim (Jf.out k) λh=>.inr (t_ Jd.out.size h);have Jw:=ah Jt;clear Js Jt t4 o4;have Jn:Hid (∀zz X,Bl w4 X->kg C w lb Z Y r s' (rW (V zz)) X):=λzz X hX=>d8 Jl.out (Xg.out.of_below hX) Xc.out (by rw[U];exact Jw.out.below hX) (λv hv=>by rw[U]at hv;cases hv);go_wp2_with fail;refine(jf Jw.out Jp).mono ?_;rintro x w5 ⟨⟨u5,rfl⟩,Yd⟩;rw[Yd];clear Yd;go_wp2_with fail;refine(dW _ w4).mono ?_;rintro x wb ⟨rfl,J⟩;rw[J];clear J;go_wp2;go_ret;exact Jn.out _ _ r_
        · have Js:=ah (Xq.out _ _ s1 _ _ Je Jm w3 (.slice la ln lc) _ _ Jo.out Jz)
          go_wp2_with fail;refine Js.out.mono ?_;rintro x w4 ⟨z4,Yc,Jy,Yg,rfl,Xm,Jt,t4,o4⟩;have Xg:=ah (Jd.out.next t4 (Xu.out _ Jf));have Xc:Hid (∀k,Jy.ownBlock=some k->Y.ownBlock=some k∨W.heap.size<=k):=λk I=>(o4 k I).elim (Jf.out k) λh=>.inr (t_ Jd.out.size h);have Jw:=ah Jt;clear Js Jt t4 o4;obtain rfl:z4=y:=Xm _ rfl;go_wp2_with fail;refine(mf Jw.out Xk).mono ?_;rintro x w5 ⟨⟨u5,rfl⟩,Xe,t5⟩;have Xt:=ah (Xg.out.next t5 (λk I=>.inl (.inl I)));have Xx:=ah Xe;clear Xe t5;have Jn:Hid (∀zz X,Bl w5 X->kg C w lb Z Y r s' (rW (V zz)) X):=λzz X hX=>d8 Jl.out (Xt.out.of_below hX) Xc.out (by rw[U];exact Xx.out.below hX) (λv hv=>by rw[U]at hv;cases hv);go_wp2_with fail;refine(dW _ w5).mono ?_;rintro x wb ⟨rfl,J⟩;rw[J];clear J;go_wp2;go_ret;exact Jn.out _ _ r_
        · have Js:=ah (Xq.out _ _ s1 _ _ Je Jm w3 (.slice la ln lc) _ _ Jo.out Jz)
          go_wp2_with fail;refine Js.out.mono ?_;rintro x w4 ⟨z4,Yc,Jy,Yg,rfl,Xm,Jt,t4,o4⟩;have Xg:=ah (Jd.out.next t4 (Xu.out _ Jf));have Xc:Hid (∀k,Jy.ownBlock=some k->Y.ownBlock=some k∨W.heap.size<=k):=λk I=>(o4 k I).elim (Jf.out k) λh=>.inr (t_ Jd.out.size h);have Jw:=ah Jt;clear Js Jt t4 o4;obtain rfl:z4=y:=Xm _ rfl;go_wp2_with fail;refine(je Jw.out Xk Xv).mono ?_;rintro x w5 ⟨⟨u5,rfl⟩,Xe,t5⟩;have Xt:=ah (Xg.out.next t5 (λk I=>.inl (.inl I)));have Xx:=ah Xe;clear Xe t5;have HF:Hid (kg C w lb Z Y r s' (rW (V (boolN (z4 != 0)))) w5):=d8 Jl.out Xt.out Xc.out (by rw[U,hs];exact Xx) (λv hv=>by rw[U]at hv;cases hv;exact Cr z4);go_wp2_with fail;refine(dW _ w5).mono ?_;rintro x wb ⟨rfl,J⟩;rw[J];clear J;go_wp2;go_ret;exact HF
def yZ(C:RC)(hC:C.Ok)(n:Nat)(IH:Bq C n)(IC:Fe C n):Bq C (n+1):=by
 intro e s r s' I Z Jc h1 J w vl lb vL vI vO Y h U;by_cases hk:(aB e).kind=8∨(aB e).kind=9
 ·exact wd C hC n IH e s r s' I hk Z Jc h1 J w vl lb vL vI vO Y h U
 ·exact v_ C hC n IH IC e s r s' I (λh=>hk (.inl h)) (λh=>hk (.inr h)) Z Jc h1 J w vl lb vL vI vO Y h U
theorem y7{w0 Y wr:World}{t:Tr}{i fr:List Int}{F:Int}{vg vf vI Jc:Value}{U:Option Addr}{Z P d:Nat}{gb:List Nat}(h0:Below w0.heap.size w0 Y)(J:GI Y P t.globals wr (.slice U t.globals.length Z) gb)(hP:w0.heap.size<=P/\P<Y.heap.size)(hd:w0.heap.size<=d/\d<Y.heap.size/\d≠P)
  (Jd:aK wr P [vg,vf,.slice U t.globals.length Z,nV,vI,nV,V F,V 0,V 0,.bool false,V 0,Jc,V 0,V 0]) (hI:fW w0 vI i) (hi:∀x∈i,et x) (hF:0<=F/\F<=100000) (Jn:∀g∈t.globals,0<=g.size/\g.size<=1000000):
  ∃bG,(0<t.globals.length->U=some ⟨bG,0,none⟩)/\RS ⟨w0,t,fr,vg,vf,Jc,P,bG,U,Z,gb,F⟩ wr 0 false 0 [] nV vI nV (gv t i F):=by
 have hs:=J.tc.size;have Ji:=h0.size;obtain⟨bG,Je,Jj,Jm,Jl⟩:∃bG,(0<t.globals.length->U=some ⟨bG,0,none⟩)/\(w0.heap.size<=bG/\bG<wr.heap.size)/\bG∉gb/\bG≠P:=by
  by_cases hz:0<t.globals.length
  ·rcases J.row.2 with⟨-,e⟩|⟨g,Jo,Jp,e,-⟩
   ·omega
   ·simp only[Value.slice.injEq]at e;obtain⟨rfl,-,rfl⟩:=e;have Jh:=World.ownsRow.lt J.row g rfl;exact⟨g,λ_=>rfl,⟨o_,Jh.2⟩,J.lo g rfl,o_⟩
  ·exact⟨d,λh=>absurd h hz,⟨hd.1,o_⟩,λhm=>by have:=(J.rng d hm).1;omega,hd.2.2⟩
 have Jf:∀k,k<t.globals.length->(gv t i F).g.getD k []=vD (t.globals.getD k ⟨⟨#[]⟩,0⟩):=λk hk=>by
  simp[gv,List.getD,hk]
 have Jb:=J.ll;have hK:∀k,k∈(⟨w0,t,fr,vg,vf,Jc,P,bG,U,Z,gb,F⟩:RC).K []↔k=P∨k=bG∨k∈gb:=λk=>by simp[RC.K]
 refine⟨bG,Je,?_⟩;refine⟨J.tc.below h0 Ji (λk hk=>by have e:k=P:=hk;show w0.heap.size<=k;omega),?_,λk I h2=>?_,by simp[gv,Jb],λk I=>?_,λk I=>?_,rfl,World.ownsRow_nil _ _ _ _,(λj hj=>by simp at hj),hI,World.ownsRow_nil _ _ _ _,?_,λk hk=>?_,(λk hk=>by cases hk),(λk hk=>by cases hk),⟨?_,?_,hi⟩,⟨?_,?_⟩,by simp[gv],⟨by simp[gv],?_,by simp[gv],by simp[gv]⟩⟩
 ·have e:F-((gv t i F).u:Int)=0:=by show F-((F.toNat:Nat):Int)=0;omega
  show aK wr P [vg,vf,.slice U t.globals.length Z,nV,vI,nV,V F,V (F-((gv t i F).u:Int)),V 0,.bool false,V 0,Jc,V 0,V 0];rw[e];exact Jd
 ·have I:k<t.globals.length:=I;have h2:k<gb.length:=h2;have Jk:=Je o_;have Jq:=sG Jb;have Ja:=J.row;rw[Jk]at Ja;have e0:(gv t i F).g.getD k []=vD t.globals[k]:=by rw[Jf k I];simp[List.getD,I]
  rw[e0,pd];refine⟨?_,?_⟩
  ·show wr.cell? ⟨bG,k*2,none⟩=some (sV t.globals[k].name);rw[World.ownsRow.cellAt Ja (k*2) o_];have:=jg t.globals gb Jb k 0 I o_
   simpa[kh]using this
  ·show wr.cell? ⟨bG,k*2+1,none⟩=some (.slice (some ⟨gb[k],0,none⟩) (dV t.globals[k]) (dV t.globals[k]));rw[World.ownsRow.cellAt Ja (k*2+1) o_,jg t.globals gb Jb k 1 I o_];simp[kh]
 ·have I:k<gb.length:=I;have hk:k<t.globals.length:=o_
  have e0:(gv t i F).g.getD k []=vD t.globals[k]:=by rw[Jf k hk];simp[List.getD,hk]
  rw[e0,ui];exact J.lw k I hk
 ·have hk:k<t.globals.length:=by simpa[gv]using I
  have e:(gv t i F).g[k]=vD t.globals[k]:=by simp[gv]
  rw[e,pd];have:=Jn _ (g_ hk);unfold dV;split <;> omega
 ·unfold RC.K;simp only[List.append_nil];refine List.nodup_cons.2 ⟨λhm=>?_,List.nodup_cons.2 ⟨Jm,J.nd⟩⟩;rcases List.mem_cons.1 hm with e|hm
  ·exact Jl e.symm
  ·have:Y.heap.size<=P:=(J.rng _ hm).1
   omega
 ·rcases(hK k).1 hk with rfl|rfl|hk
  ·exact⟨hP.1,by show k<wr.heap.size;omega⟩
  ·exact Jj
  ·have:=J.rng k hk
   exact⟨by show w0.heap.size<=k;omega,this.2⟩
 ·intro ws Jg x hx;obtain⟨g,-,rfl⟩:=List.mem_map.1 Jg;have:=List.eq_of_mem_replicate hx
  rw[this];exact rS
 ·intro x hx;cases hx
 ·show((F.toNat:Nat):Int)<=F;omega
 ·show((0:Nat):Int)+((F.toNat:Nat):Int)<=F;omega
 ·show(0:Int)+1000000000*((F.toNat:Nat):Int)<=100001000000000;omega
section
variable{C:RC}{w:AT}{lb:List Nat}{vL vO:BY}{n:Nat}
def AY(C:RC)(w:AT)(lb:List Nat)(vL vO:BY)(r:ER)(s':ES)(x:Ending)(w':AT):Prop:=(∃y,x=rW y)/\∃lb' vL' vI' vO' vl',RS C w' (gJ r) (pv r) vl' lb' vL' vI' vO' s'/\(∀v,r=.ret v->vl'=v)/\(∃m,lb'=lb++m/\∀b∈m,w.heap.size<=b)/\ak (f_ C lb vL vO) w w'/\(∀k,vO'.ownBlock=some k->vO.ownBlock=some k∨w.heap.size<=k)/\∀k,vL'.ownBlock=some k->vL.ownBlock=some k∨w.heap.size<=k
def RS.st{c:Int}{U:Bool}{vl:Int}{Y:BY}{s:ES}{x:GA}{vv:BY}{b:Nat}{m:Nat}(h:RS C w c U vl lb vL Y vO s)(hC:C.Ok)(hF:kB C lb s x vv)(hk:x∉s.l.map Prod.fst)(hg:0<=globI C.t.globals x)(hv:vv=rV b n m)(j:Nat){v:Int}(hi:et v):RS C (w.setCell ⟨b,j,none⟩ (V v)) c U vl lb vL Y vO (s.st C.t x j v):=by
 obtain⟨k,Jb,J,h2⟩:=eK hg;have I:k<C.gb.length:=by rw[hC.gbl];exact Jb
 have Z:C.gb.getD k 0=C.gb[k]:=by simp[List.getD,I]
 have:=hF.2 (iA hk) k J
 rw[hv,Z]at this;simp only[Value.slice.injEq,GD,Addr.mk.injEq]at this;obtain⟨⟨rfl,-⟩,-⟩:=this;have hs:s.st C.t x j v={s with g:=s.g.set k ((s.g.getD k []).set j v)}:=by unfold ES.st;rw[J]
 exact h.wg k j I hs (Cm h.ok x j hi)
theorem qP{t:Tr}{fr:List Int}{s:St}{a b:List St}{z:ES}{r:ER}{I:ES}(h:Ev t fr (n+1) (.p s a b) z r I)(J:s.kind=3):(∃c,r=.out c/\Ev t fr n (.e s.e) z (.out c) I)∨∃v z1,Ev t fr n (.e s.e) z (.val v) z1/\((∃c,r=.out c/\Ev t fr n (.e s.f) z1 (.out c) I)∨∃x z2,Ev t fr n (.e s.f) z1 (.val x) z2/\((¬(0<=v/\v<(z2.ws t s.name).length)/\r=.out 3/\I=z2)∨((0<=v/\v<(z2.ws t s.name).length)/\r=.on/\I=z2.st t s.name v.toNat x))):=by
 cases h using Ev_i with
 | pbad _ _ _ _ _ c _ h1=>exact .inl ⟨c,rfl,h1⟩
 | sbad _ _ _ _ _ v z1 c _ h1 h2 h3=>exact .inr ⟨v,z1,h2,.inl ⟨c,rfl,h3⟩⟩
 | smis _ _ _ _ _ v z1 x _ h1 h2 h3 h4=>exact .inr ⟨v,z1,h2,.inr ⟨x,_,h3,.inl ⟨h4,rfl,rfl⟩⟩⟩
 | stor _ _ _ _ _ v z1 x _ h1 h2 h3 h4=>exact .inr ⟨v,z1,h2,.inr ⟨x,_,h3,.inr ⟨h4,rfl,rfl⟩⟩⟩
 | decl _ _ _ _ _ _ _ h1=>omega
 | set _ _ _ _ _ _ _ h1=>omega
 | ifth _ _ _ _ _ _ _ _ _ h1=>omega
 | ifel _ _ _ _ _ _ _ _ h1=>omega
 | whno _ _ _ _ _ _ h1=>omega
 | whn _ _ _ _ _ _ _ _ _ h1=>omega
 | whdr _ _ _ _ _ _ _ _ h1=>omega
 | whag _ _ _ _ _ _ _ _ _ _ h1=>omega
 | retn _ _ _ _ _ _ _ h1=>omega
 | tell _ _ _ _ _ _ _ h1=>omega
 | only _ _ _ _ _ _ _ h1=>omega
def fj.up{vO1:BY}(ho:∀k,vO1.ownBlock=some k->vO.ownBlock=some k∨w.heap.size<=k):∀k,fj C vO1 k->f_ C lb vL vO k∨w.heap.size<=k:=λk hk=>by
 rcases hk with rfl|hk|hk
 ·exact .inl (.inl (.inl rfl))
 ·exact .inl (.inl (.inr (.inl hk)))
 ·exact(ho k hk).imp_left (λh=>.inl (.inr (.inr h)))
def we(C:RC)(hC:C.Ok)(n:Nat)(IH:Bq C n)(s:St)(a b:List St)(z:ES)(r:ER)(z':ES)(hE:Ev C.t C.fr (n+1) (.p s a b) z r z')(I:s.kind=3)(Jy:yi C.t (z.l.map Prod.fst) s)(Jz:jd C.t (z.l.map Prod.fst))(J:aP s.e=true)(h2:aP s.f=true)(Xr:s.e.length<=1048576)(Xg:s.f.length<=1048576)
  (w:AT) (vl:Int) (lb:List Nat) (U vI Y ve vf:BY) (vt vu:Int) (h:RS C w 0 false vl lb U vI Y z) (Xf:aw C.w0 ve s.e) (Jx:aw C.w0 vf s.f):
  Calls prog 98 #[pV C.P,.agg #[V s.kind,sV s.name,ve,vf,V vt,V vu]] w λx w'=>AY C w lb U Y r z' x w':=by
 have Yl:=ah I;rw[I];obtain⟨ea,en,ec,rfl⟩:∃ea en ec,ve=.slice ea en ec:=⟨_,_,_,Xf.choose_spec.choose_spec.1⟩;obtain⟨fa,fn,fc,rfl⟩:∃fa fn fc,vf=.slice fa fn fc:=⟨_,_,_,Jx.choose_spec.choose_spec.1⟩;obtain⟨W,hW⟩:=q_ (w.alloc (.cells #[V 3,sV s.name,.slice ea en ec,.slice fa fn fc,V vt,V vu] 132));obtain⟨B,hB⟩:=q_ w.heap.size;have Js:Bl w W:=by rw[hW];exact r_.alloc n_ _
 have Yt:B<W.heap.size:=by rw[hW,hB,GO];omega
 have Jl:aK W B [V 3,sV s.name,.slice ea en ec,.slice fa fn fc,V vt,V vu]:=by
  rw[hW,hB];exact aH w #[V 3,sV s.name,.slice ea en ec,.slice fa fn fc,V vt,V vu] _ i_
 have Xk:=h.below Js;have Xh:∀k,fj C Y k->k<B:=λk I=>by rw[hB];exact(fj.lt h k I).1
 have Xe:∀(r1:ER) (z1:ES),Ev C.t C.fr n (.e s.e) z r1 z1->Calls prog 131 #[pV C.P,.slice ea en ec] W λx w'=>kg C W lb U Y r1 z1 x w':=λr1 z1 h1'=>IH s.e z r1 z1 h1' Jy.e Jz J Xr W vl lb U vI Y _ Xk Xf;obtain⟨HO,HC,Xz,Yf,Xs,Xw,H2,Xx,HB,Jv,Xb,Xp⟩:=h12 (λ(r1:ER) (z1:ES) (h':Ev C.t C.fr n (.e s.e) z r1 z1)=>h'.inv h.ok trivial) hC Jy Jz IH Jx h2 Xg hB Js Xh Yt;have Yr:=ah Jl;have g1:=(Jl 1 _ rfl).1;have g2:=(Jl 2 _ rfl).1;have g3:=(Jl 3 _ rfl).1;have Jd:Hid (∀(w':AT) (r:ER) (z':ES) (vI' vO':BY) (vl':Int),RS C w' (gJ r) (pv r) vl' lb U vI' vO' z'->(∀v,r=.ret v->vl'=v)->ak (f_ C lb U Y) W w'->(∀k,vO'.ownBlock=some k->Y.ownBlock=some k∨w.heap.size<=k)->AY C w lb U Y r z' (rW (.tuple #[])) w'):=λw' r z' vI' vO' vl' hR hv ht ho=>⟨⟨_,rfl⟩,lb,U,vI',vO',vl',hR,hv,⟨[],i_,λb hb=>by simp at hb⟩,(Js.tcs (S:=f_ C lb U Y)).next ht (λk I=>.inl I),ho,λk I=>.inl I⟩;rcases qP hE I with⟨c,rfl,e1⟩|⟨v,z1,e1,Je⟩
 ·have Yn:(c == 0)=false:=by rcases e1.outc c rfl with rfl|rfl <;> rfl
  have Yw:(c != 0)=true:=by rcases e1.outc c rfl with rfl|rfl <;> rfl
  have Xo:=ah (Xe _ _ e1);clear Xe HO HC Xz Yf Xs Xw H2 Xx hE hC Jy Jz IH J h2 Xr Xg Xf Jx Xk Xh Jl h Js e1 g1 g3 I;go_in;go_wp2_with fail;rw[<-hW,<-hB];clear hB hW;refine Xo.o.mono ?_;rintro x w1 ⟨z0,Ji,Jc,Jf,rfl,-,Z,t1,Jh⟩;have y8:=(Z.box 8 _ rfl).1;simp only[gJ]at y8;have HF:=ah (Jd w1 (.out c) z' Ji Jc Jf Z (λv hv=>by cases hv) ((ak.refl (f_ C lb U Y) W).next t1 (fj.up (λk I=>.inl I))) (λk I=>(Jh k I).imp_right (λJ=>t_ Jv.o.size J)));clear Z t1 Jh;go_wp2_with fail;exact bodyPost_ret (v:=.tuple #[]) (by simp[results,results98,go_sem]) rfl HF
 ·have Xo:=ah (Xe _ _ e1);obtain⟨o1,v1,s1⟩:=HO _ _ e1;have Xd:z1.l=z.l:=s1.2.2.2;have Jw:∀(w1:AT) (Jf:Int) (Ji Jc:BY),RS C w1 0 false Jf lb U Ji Jc z1->∀(r2:ER) (z2:ES),Ev C.t C.fr n (.e s.f) z1 r2 z2->Calls prog 131 #[pV C.P,.slice fa fn fc] w1 λx w'=>kg C w1 lb U Jc r2 z2 x w':=λw1 Jf Ji Jc Z r2 z2 h2'=>IH s.f z1 r2 z2 h2' (by rw[Xd];exact Jy.f) (by rw[Xd];exact Jz) h2 Xg w1 Jf lb U Ji Jc _ Z Jx;obtain⟨Xc,Yj,Yu,Xl⟩:=h4 Jw o1 Xd Je;clear Xe HO Xs Xw H2 Xx hE hC Jy Jz IH J h2 Xr Xg Xf Jx Xk Xh Jl h Js e1 g1 g3 I Jw o1 v1 s1 Xd Je;go_in;go_wp2_with fail;rw[<-hW,<-hB];clear hB hW;refine Xo.o.mono ?_;rintro x w1 ⟨z0,Ji,Jc,Jf,rfl,hz,Z,t1,Jh⟩;obtain rfl:v=z0:=(hz v rfl).symm;clear hz;have y8:=(Z.box 8 _ rfl).1;simp only[gJ]at y8 Z;have Jb:=Yr.o.tcs Xp t1 (λhx=>Ft (Xb.o _ hx));have X_:=ah t1;have g1:=(Jb 1 _ rfl).1;have g3:=(Jb 3 _ rfl).1;obtain⟨Xm,Yd,Yh,Jp⟩:=h4 Jb Jh (l_ Xp t1.size) ((ak.refl (f_ C lb U Y) W).next t1 (fj.up (λk I=>.inl I)));have Yp:Hid (∀k,fj C Jc k->k≠B):=λk I e=>by
   rcases I with I|I|I
   ·have:=Xb.o k (.inl I);omega
   ·have:=Xb.o k (.inr (.inl I));omega
   ·rcases Jh k I with J|J
    ·have:=Xb.o k (.inr (.inr J));omega
    ·have:=Xp.o;omega
  have Xn:∀k,fj C Jc k->f_ C lb U Y k∨W.heap.size<=k:=fj.up Jh;have Yc:=ah Xn;rcases Xl.o with⟨c,rfl,e2⟩|⟨q,z2,e2,hr⟩
  ·have Yn:(c == 0)=false:=by rcases e2.outc c rfl with rfl|rfl <;> rfl
   have Yw:(c != 0)=true:=by rcases e2.outc c rfl with rfl|rfl <;> rfl
   have Xj:=ah (Xc w1 Jf Ji Jc Z _ _ e2);clear Z t1 Jh Jb Xn e2 Xc Xl;go_wp2_with fail;refine Xj.o.mono ?_;rintro x w2 ⟨z3,J_,Jo,Xa,rfl,-,Jg,t2,Jr⟩;have y8:=(Jg.box 8 _ rfl).1;simp only[gJ]at y8;have HF:=ah (Jd w2 (.out c) z' J_ Jo Xa Jg (λv hv=>by cases hv) (Jp.o.next t2 Yc) (λk I=>by
    rcases Jr k I with J|J
    ·exact(Yd k J).imp_right (λJ=>t_ Jv.o.size J)
    ·exact .inr (t_ (t_ Jv.o.size X_.o.size) J)))
   clear Jg t2 Jr;go_wp2_with fail;exact bodyPost_ret (v:=.tuple #[]) (by simp[results,results98,go_sem]) rfl HF
  ·have Xj:=ah (Xc w1 Jf Ji Jc Z _ _ e2);obtain⟨o2,v2,s2⟩:=e2.inv Yj trivial;have Xy:z2.l=z.l:=s2.2.2.2.trans Yu;obtain⟨Xt,HQ,HR⟩:=h3 Xy (v2 q (.inl rfl)) hr;clear Z t1 Jh Jb Xn e2 Xc Xl o2 v2 s2 Xy hr;go_wp2_with fail;refine Xj.o.mono ?_;rintro x w2 ⟨z3,J_,Jo,Xa,rfl,hz,Jg,t2,Jr⟩;obtain rfl:q=z3:=(hz q rfl).symm;clear hz;have y8:=(Jg.box 8 _ rfl).1;simp only[gJ]at y8 Jg;have Jt:=Xm.o.tcs Yh t2 (λhx=>Yp _ hx rfl);have g1:=(Jt 1 _ rfl).1;have Yk:=ah (Jp.o.next t2 Yc);have Xu:Hid (∀k,Jo.ownBlock=some k->Y.ownBlock=some k∨w.heap.size<=k):=λk I=>by
    rcases Jr k I with J|J
    ·exact(Yd k J).imp_right (λJ=>t_ Jv.o.size J)
    ·exact .inr (t_ (t_ Jv.o.size X_.o.size) J)
   have Xi:=ah Jg;clear Jg t2 Jr Jt;go_wp2_with fail;obtain⟨Yv,Yy⟩:=Xz.o.store Yl.o;refine(jK s.name Xi HC (by rw[Xt.o];exact Yf.o.1)).mono ?_;rintro x w3 ⟨vv,rfl,hF,Jk⟩;have Ju:s.name∉z2.l.map Prod.fst:=by rw[Xt.o];exact Yv
   obtain⟨bw,Ye,Ym,Yi,Xv,Yq,Jq⟩:=qL Xi HC hF Ju o_;have Jn:=Xi.o.below Jk;have Xq:=ah (λ(k:Nat)=>Jn.st HC hF Ju o_ Ye k HQ);subst Ye;have y8:=(Jn.box 8 _ rfl).1;have z8:=(Jn.box 8 _ rfl).2;obtain⟨Yo,Yg⟩:=h2 Jn (Yk.o.of_below Jk);obtain⟨wl,Yb⟩:=q_ ((z2.ws C.t s.name).length);have hr:=HR;rw[<-Yb]at Ym Yi Jq hr⊢;clear Jn hF Yb;rcases hr with⟨Ys,rfl,rfl⟩|⟨Ys,rfl,rfl⟩
   ·have Jj:decide ((0:Int)<=v/\v<=(wl:Int)-1)=false:=decide_eq_false o_;have HF:=ah (Jd (w3.setCell ⟨C.P,8,none⟩ (V 3)) (.out 3) z' J_ Jo Xa (Yo.o.dry 3) (λv hv=>by cases hv) (Yg.o.setCell (p:=⟨C.P,8,none⟩) (.inl (.inl rfl)) _) Xu);clear Jq Jk Xq HR;go_wp2_with fail;refine(dx _ _ _ _).mono ?_;rintro x w4 ⟨rfl,Jm⟩;rw[Jm,Jj];clear Jm;go_wp2_with fail;exact bodyPost_ret (v:=.tuple #[]) (by simp[results,results98,go_sem]) rfl HF
   ·obtain⟨k,rfl⟩:∃k:Nat,v=k:=⟨v.toNat,o_⟩;have Ya:k<wl:=o_
    have Yx:=(Jk.cell (p:=⟨bw,k,none⟩) Xv).trans (Jq k Ya).1;have Yz:=(Jk.frozen (p:=⟨bw,k,none⟩) Xv).trans (Jq k Ya).2;have Jj:decide ((0:Int)<=(k:Int)/\(k:Int)<=(wl:Int)-1)=true:=decide_eq_true o_;have HF:=ah (Jd (w3.setCell ⟨bw,k,none⟩ (V q)) .on (z2.st C.t s.name k q) J_ Jo Xa (Xq k) (λv hv=>by cases hv) (Yg.o.setCell (p:=⟨bw,k,none⟩) (.inl (.inr (.inl Yq))) _) Xu);clear Jq Jk Xq HR;go_wp2_with fail;refine(dx _ _ _ _).mono ?_;rintro x w4 ⟨rfl,Jm⟩;rw[Jm,Jj];clear Jm;go_wp2_with fail;exact bodyPost_end (v:=.tuple #[]) (by simp[results,results98,go_sem]) rfl HF
end
section
variable{n:Nat}{C:RC}{w:AT}{vl:Int}{lb:List Nat}{vL vI vO:BY}{s:ES}
def Wh(t:Tr)(fr:List Int)(n:Nat)(s:St)(a b:List St)(v:Int)(z1:ES)(r:ER)(z':ES):Prop:=(v=0/\r=.on/\z'=z1)∨(v≠0/\∃rb zb,Ev t fr n (.bl a) z1 rb zb/\((rb ≠ .on/\r=rb/\z'=zb)∨(rb=.on/\zb.u=0/\r=.out 2/\z'=zb)∨(rb=.on/\0<zb.u/\Ev t fr n (.p s a b) zb.sp r z')))
theorem kW{t:Tr}{fr:List Int}{s:St}{a b:List St}{z:ES}{r:ER}{I:ES}(h:Ev t fr (n+1) (.p s a b) z r I)(J:s.kind≠3):(∃c,r=.out c/\Ev t fr n (.e s.e) z (.out c) I)∨∃v z1,Ev t fr n (.e s.e) z (.val v) z1/\((s.kind=1/\r=.on/\I={z1 with l:=z1.l++[(s.name,v)]})∨(s.kind=2/\r=.on/\I=z1.wr t s.name v)∨(s.kind=6/\r=.ret v/\I=z1)∨(s.kind=7/\r=.on/\I={z1 with o:=z1.o++[v]})∨(s.kind=8/\r=.on/\I=z1)∨(s.kind=4/\(v≠0/\Ev t fr n (.bl a) z1 r I∨v=0/\Ev t fr n (.bl b) z1 r I))∨(s.kind=5/\Wh t fr n s a b v z1 r I)):=by
 cases h using Ev_i with
 | pbad _ _ _ _ _ c _ h1=>exact .inl ⟨c,rfl,h1⟩
 | sbad _ _ _ _ _ v z1 c _ h1 h2 h3=>exact absurd h1 J
 | smis _ _ _ _ _ v z1 x _ h1 h2 h3 h4=>exact absurd h1 J
 | stor _ _ _ _ _ v z1 x _ h1 h2 h3 h4=>exact absurd h1 J
 | decl _ _ _ _ _ v z1 h1 h2=>exact .inr ⟨v,z1,h2,.inl ⟨h1,rfl,rfl⟩⟩
 | set _ _ _ _ _ v z1 h1 h2=>exact .inr ⟨v,z1,h2,.inr (.inl ⟨h1,rfl,rfl⟩)⟩
 | ifth _ _ _ _ _ v z1 _ _ h1 h2 h3 h4=>exact .inr ⟨v,z1,h2,.inr (.inr (.inr (.inr (.inr (.inl ⟨h1,.inl ⟨h3,h4⟩⟩)))))⟩
 | ifel _ _ _ _ _ z1 _ _ h1 h2 h3=>exact .inr ⟨0,z1,h2,.inr (.inr (.inr (.inr (.inr (.inl ⟨h1,.inr ⟨rfl,h3⟩⟩)))))⟩
 | whno _ _ _ _ _ z1 h1 h2=>exact .inr ⟨0,_,h2,.inr (.inr (.inr (.inr (.inr (.inr ⟨h1,.inl ⟨rfl,rfl,rfl⟩⟩)))))⟩
 | whn _ _ _ _ _ v z1 _ _ h1 h2 h3 h4 h5=>exact .inr ⟨v,z1,h2,.inr (.inr (.inr (.inr (.inr (.inr ⟨h1,.inr ⟨h3,_,_,h4,.inl ⟨h5,rfl,rfl⟩⟩⟩)))))⟩
 | whdr _ _ _ _ _ v z1 _ h1 h2 h3 h4 h5=>exact .inr ⟨v,z1,h2,.inr (.inr (.inr (.inr (.inr (.inr ⟨h1,.inr ⟨h3,_,_,h4,.inr (.inl ⟨rfl,h5,rfl,rfl⟩)⟩⟩)))))⟩
 | whag _ _ _ _ _ v z1 z2 _ _ h1 h2 h3 h4 h5 h6=>exact .inr ⟨v,z1,h2,.inr (.inr (.inr (.inr (.inr (.inr ⟨h1,.inr ⟨h3,_,_,h4,.inr (.inr ⟨rfl,h5,h6⟩)⟩⟩)))))⟩
 | retn _ _ _ _ _ v z1 h1 h2=>exact .inr ⟨v,_,h2,.inr (.inr (.inl ⟨h1,rfl,rfl⟩))⟩
 | tell _ _ _ _ _ v z1 h1 h2=>exact .inr ⟨v,z1,h2,.inr (.inr (.inr (.inl ⟨h1,rfl,rfl⟩)))⟩
 | only _ _ _ _ _ v z1 h1 h2=>exact .inr ⟨v,_,h2,.inr (.inr (.inr (.inr (.inl ⟨h1,rfl,rfl⟩))))⟩
def RS.wr{c:Int}{rt:Bool}{x:GA}{vv:BY}{b:Nat}{m:Nat}(h:RS C w c rt vl lb vL vI vO s)(hC:C.Ok)(hF:kB C lb s x vv)(I:x∈s.l.map Prod.fst∨(x∉s.l.map Prod.fst/\0<=globI C.t.globals x))(hv:vv=rV b n m){v:Int}(hi:et v):RS C (w.setCell ⟨b,0,none⟩ (V v)) c rt vl lb vL vI vO (s.wr C.t x v):=by
 rcases I with I|⟨I,hg⟩
 ·obtain⟨j,Z,J,h2⟩:=kV.1 I;have Ja:j<lb.length:=by rw[h.ll];exact Z
  have U:lb.getD j 0=lb[j]:=by simp[List.getD,Ja]
  have:=hF.1 j J
  rw[hv,U]at this;simp only[Value.slice.injEq,GD,Addr.mk.injEq]at this;obtain⟨⟨rfl,-⟩,-⟩:=this;have Y:s.wr C.t x v={s with l:=s.l.set j ((s.l[j]).1,v)}:=by unfold ES.wr;rw[J,h2]
  exact h.wl j Z Ja Y (yg h.ok x hi)
 ·obtain⟨k,Jc,J,h2⟩:=eK hg;have Jb:k<C.gb.length:=by rw[hC.gbl];exact Jc
  have U:C.gb.getD k 0=C.gb[k]:=by simp[List.getD,Jb]
  have:=hF.2 (iA I) k J
  rw[hv,U]at this;simp only[Value.slice.injEq,GD,Addr.mk.injEq]at this;obtain⟨⟨rfl,-⟩,-⟩:=this;have Y:s.wr C.t x v={s with g:=s.g.set k ((s.g.getD k []).set 0 v)}:=by unfold ES.wr;rw[iA I,J]
  exact h.wg k 0 Jb Y (yg h.ok x hi)
def RS.retd(h:RS C w 0 false vl lb vL vI vO s)(v:Int):RS C ((w.setCell ⟨C.P,9,none⟩ (.bool true)).setCell ⟨C.P,10,none⟩ (V v)) 0 true v lb vL vI vO s:=
 (h.boxed 9 (.bool true) (rt':=true) rfl rfl rfl rfl h.inp h.ok h.uu h.nn).boxed 10 (V v) rfl rfl rfl rfl h.inp h.ok h.uu h.nn
end
end Go.Proofs.YtffnkkpmlplfeaaGreatDoor
