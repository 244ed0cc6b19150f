import Derived.Test.YtffnkkpmlplfeaaGreatDoorN51
import Derived.Test.YtffnkkpmlplfeaaGreatDoorN27
namespace Go.Proofs.YtffnkkpmlplfeaaGreatDoor
open Go.Proofs.Tryz
open Go.RowKit
set_option linter.all false
set_option maxRecDepth 100000
set_option maxHeartbeats 16000000
variable[Inhabited Pick]
section
variable {t:Tr} {fr:List Int} {n b:Nat} {s s':ES} {r:ER} {C:IC} {w w1 w2:World} {vO:Value}
def StQ (C:IC) (w:World) (b:Nat) (vO:Value) (ec vc:Int) (s':ES) (x:Ending) (w':World):Prop:=∃vI' vO',x=.returned (.agg #[.int .i64 ec,.int .i64 vc])/\IS C w' (some b) vI' vO' s'/\Tcs (TSi C (some b) vO) w w'/\∀k,vO'.ownBlock=some k->vO.ownBlock=some k∨w.heap.size<=k
def BlI (C:IC) (n:Nat):Prop:=∀(L:List (Value × List St)) (z:ES) (r:ER) (z':ES),Ev C.t C.fr n (.bl (flatL L)) z r z'->OkB C.t (z.l.map Prod.fst) (flatL L)->Scp C.t (z.l.map Prod.fst)->∀(w:World) (b:Nat) (vI vO vB:Value),IS C w (some b) vI vO z->BkL C.w0 C.S vB L->Calls prog 70 #[.pointer (some ⟨C.P,0,none⟩),vB] w λx w'=>StQ C w b vO (endR r) (valR r) z' x w'
def Lk (t:Tr) (fr:List Int) (n:Nat) (s:St) (a b:List St) (z:ES) (ec vc:Int) (z':ES):Prop:=
 (z.u=0/\ec=3/\vc=0/\z'=z)∨(0<z.u /\
  ((s.kind≠5/\∃r,Ev t fr (n+1) (.p s a b) z.sp r z'/\ec=endR r/\vc=valR r) ∨
  (s.kind=5/\((∃c,Ev t fr n (.e s.e) z.sp (.out c) z'/\ec=c+1/\vc=0)∨(Ev t fr n (.e s.e) z.sp (.val 0) z'/\ec=0/\vc=0)∨∃v z1 r,Ev t fr n (.e s.e) z.sp (.val v) z1/\v≠0/\Ev t fr n (.bl a) z1 r z'/\((r=.on/\ec=1/\vc=0)∨(r ≠ .on/\ec=endR r/\vc=valR r))))))
def Pend (t:Tr) (fr:List Int) (n:Nat) (s:St) (a b:List St) (z:ES) (r:ER) (z':ES):Prop:=(z.u=0/\r=.out 2/\z'=z)∨(0<z.u/\Ev t fr n (.p s a b) z.sp r z')
theorem endR_ne {k:Tk} (h:Ev t fr n k s r s'):endR r≠1:=by
 cases r using ER.cs with
 | val v=>exact (by decide:(0:Int)≠1)
 | on=>decide
 | ret v=>exact (by decide:(2:Int)≠1)
 | out c=>rcases h.outc c rfl with e|e <;> (subst e;decide)
theorem Pend.look {s:St} {a b:List St} {z:ES} {z':ES} (h:Pend t fr n s a b z r z') : ∃ec vc z2,Lk t fr n s a b z ec vc z2/\((ec≠1/\ec=endR r/\vc=valR r/\z2=z')∨(ec=1/\z2.u<z.u/\Pend t fr n s a b z2 r z')):=by
 rcases h with ⟨h1,rfl,rfl⟩|⟨h1,h2⟩
 ·exact⟨3,0,_,.inl ⟨h1,rfl,rfl,rfl⟩,.inl ⟨by decide,rfl,rfl,rfl⟩⟩
 ·by_cases hk:s.kind=5
  ·have ne:=endR_ne h2;have spu:z.sp.u<z.u:=by simp only[ES.sp];omega
   have two : ∀ {v z1 z2},Ev t fr n (.e s.e) z.sp (.val v) z1->Ev t fr n (.bl a) z1 .on z2->z2.u<z.u:=λ{v z1 z2} g1 g2=>by
    have:=g1.ou.1
    have:=g2.ou.1
    omega
   cases n with
   | zero=>first | cases h2 using Ev_i | cases h2
   | succ n=>
   cases h2 using Ev_i with
   | pbad m _ _ _ _ c _ g1=>exact⟨c+1,0,_,.inr ⟨h1,.inr ⟨hk,.inl ⟨c,g1.up,rfl,rfl⟩⟩⟩,.inl ⟨ne,rfl,rfl,rfl⟩⟩
   | whno m _ _ _ _ _ g1 g2=>exact⟨0,0,_,.inr ⟨h1,.inr ⟨hk,.inr (.inl ⟨g2.up,rfl,rfl⟩)⟩⟩,.inl ⟨by decide,rfl,rfl,rfl⟩⟩
   | whn m _ _ _ _ v z1 _ _ g1 g2 g3 g4 g5=>exact⟨_,_,_,.inr ⟨h1,.inr ⟨hk,.inr (.inr ⟨v,z1,r,g2.up,g3,g4.up,.inr ⟨g5,rfl,rfl⟩⟩)⟩⟩,.inl ⟨ne,rfl,rfl,rfl⟩⟩
   | whdr m _ _ _ _ v z1 _ g1 g2 g3 g4 g5=>exact⟨1,0,_,.inr ⟨h1,.inr ⟨hk,.inr (.inr ⟨v,z1,.on,g2.up,g3,g4.up,.inl ⟨rfl,rfl,rfl⟩⟩)⟩⟩,.inr ⟨rfl,two g2.up g4.up,.inl ⟨g5,rfl,rfl⟩⟩⟩
   | whag m _ _ _ _ v z1 z2 _ _ g1 g2 g3 g4 g5 g6=>exact⟨1,0,_,.inr ⟨h1,.inr ⟨hk,.inr (.inr ⟨v,z1,.on,g2.up,g3,g4.up,.inl ⟨rfl,rfl,rfl⟩⟩)⟩⟩,.inr ⟨rfl,two g2.up g4.up,.inr ⟨g5,g6.up⟩⟩⟩
   | _=>omega
  ·exact⟨_,_,_,.inr ⟨h1,.inl ⟨hk,r,h2.up,rfl,rfl⟩⟩,.inl ⟨endR_ne h2,rfl,rfl,rfl⟩⟩
theorem TSi.lt (hC:C.Ok) {vI:Value} (h:IS C w (some b) vI vO s) : ∀k,TSi C (some b) vO k->k<w.heap.size:=λk hk=>by
 rcases hk with hk|hk
 ·exact (TEi.lt hC h k hk).1
 ·cases hk
  rcases h.var with ⟨e1,-⟩|⟨q,n,D,e1,h2,-⟩
  ·cases e1
  ·cases e1;exact h2.lt
theorem TSi.next {vO1:Value} (h1:Tcs (TSi C (some b) vO) w w1) (h2:Tcs (TSi C (some b) vO1) w1 w2) (ho : ∀k,vO1.ownBlock=some k->vO.ownBlock=some k∨w.heap.size<=k):Tcs (TSi C (some b) vO) w w2:=
 h1.next h2 λk hk=>by
  rcases hk with hk|hk
  ·rcases hk with rfl|hk|hk
   ·exact .inl (.inl (.inl rfl))
   ·exact .inl (.inl (.inr (.inl hk)))
   ·rcases ho k hk with h|h
    ·exact .inl (.inl (.inr (.inr h)))
    ·exact .inr h
  ·exact .inl (.inr hk)
theorem TSi.of {vV:Option Nat} (h:Tcs (TEi C vO) w w1):Tcs (TSi C vV vO) w w1:=h.mono λk hk=>.inl hk
theorem stq_fin (hC:C.Ok) {W0 w3:World} {q:Nat} {vI0 vI2 vO2:Value} {s0 s2:ES} {M:Nat} (hM:w.heap.size<=M) (h0:IS C w (some q) vI0 vO s0) (hb0:Below w.heap.size w W0) (hM0:M<W0.heap.size) (h:IS C w2 (some q) vI2 vO2 s2) (ht:Tcs (TSi C (some q) vO) W0 w2) (ho : ∀k,vO2.ownBlock=some k->vO.ownBlock=some k∨W0.heap.size<=k) (hb3:Below w2.heap.size w2 w3) {x0 x1:Value} (hf:FrC w3 M [x0,x1]) (a b:Int) :
  ((w3.setCell ⟨M,0,none⟩ (.int .i64 a)).setCell ⟨M,1,none⟩ (.int .i64 b)).cell? ⟨M,0,none⟩=some (.int .i64 a)/\((w3.setCell ⟨M,0,none⟩ (.int .i64 a)).setCell ⟨M,1,none⟩ (.int .i64 b)).cell? ⟨M,1,none⟩=some (.int .i64 b)/\StQ C w q vO a b s2 (.returned (.agg #[.int .i64 a,.int .i64 b])) ((w3.setCell ⟨M,0,none⟩ (.int .i64 a)).setCell ⟨M,1,none⟩ (.int .i64 b)):=by
 have hF:=(hf.set 0 (.int .i64 a)).set 1 (.int .i64 b);have hT:Tcs (λk=>k=M) w3 ((w3.setCell ⟨M,0,none⟩ (.int .i64 a)).setCell ⟨M,1,none⟩ (.int .i64 b)):=(((Tcs.refl (λk=>k=M) w3).setCell (p:=⟨M,0,none⟩) rfl _).setCell (p:=⟨M,1,none⟩) rfl _);obtain⟨p1,p2,p3⟩:=h0.hi hC;refine⟨(hF 0 _ rfl).1,(hF 1 _ rfl).1,vI2,vO2,rfl,(h.below hC hb3).past hC hT (λk hk => ?_),?_,λk hk => ?_⟩
 ·have e:k=M:=hk;subst e;refine⟨by omega,λe => ?_,λe => ?_⟩
  ·have:=TSi.lt hC h0 k (.inr e);omega
  ·rcases ho k e with h1|h1
   ·have:=(World.ownsRow.lt h0.out k h1).2;omega
   ·omega
 ·exact (((hb0.tcs (S:=TSi C (some q) vO)).trans ht).of_below hb3).next hT (λk hk=>.inr (by have e:k=M:=hk;omega))
 ·rcases ho k hk with h1|h1
  ·exact .inl h1
  ·exact .inr (by have:=hb0.size;omega)
theorem StQ.drew (hC:C.Ok) {w':World} {ec vc:Int} {x:Ending} (h:StQ C w b vO ec vc s' x w'):StQ C w b vO ec vc s' x w'.drew:=by
 obtain⟨vI',vO',h1,h2,h3,h4⟩:=h;exact⟨vI',vO',h1,h2.below hC (r_.drew),h3.drew,h4⟩
theorem exc_decl (hC:C.Ok) (nm:ByteArray) (t:TypeId) (x:Value) (us:Nat->Value) (hu:us 0=.iface t x):OpC C 260 (.agg #[.string nm,.iface t x]) 1 us:=by
 intro w vV vI vO s h;have hn:=λk hk=>(TEi.lt hC h k hk).1;have HL:=hide (lsI_lit (W:=w.alloc (.cells #[.string nm,.iface t x] 213)) hn (by simp) #[.iface t x] 183 us (by show 1<=1000;omega) (λi hi=>by
  have e:i=0:=by simpa using hi
  subst e;simp[hu]))
 simp only[World.size_alloc] at HL;go_enter func260,ntmps260;go_wp2;go_ret;exact⟨_,_,rfl,HL,(bel_a _ _).alloc (by simp) _⟩
theorem exc_set (hC:C.Ok) (nm:ByteArray) (t:TypeId) (x:Value) (us:Nat->Value) (hu:us 0=.iface t x):OpC C 261 (.agg #[.string nm,.iface t x]) 1 us:=by
 intro w vV vI vO s h;have hn:=λk hk=>(TEi.lt hC h k hk).1;have HL:=hide (lsI_lit (W:=w.alloc (.cells #[.string nm,.iface t x] 214)) hn (by simp) #[.iface t x] 183 us (by show 1<=1000;omega) (λi hi=>by
  have e:i=0:=by simpa using hi
  subst e;simp[hu]))
 simp only[World.size_alloc] at HL;go_enter func261,ntmps261;go_wp2;go_ret;exact⟨_,_,rfl,HL,(bel_a _ _).alloc (by simp) _⟩
theorem exc_store (hC:C.Ok) (nm:ByteArray) (t:TypeId) (x:Value) (t2:TypeId) (x2:Value) (us:Nat->Value) (hu:us 0=.iface t x) (hu2:us 1=.iface t2 x2):OpC C 262 (.agg #[.string nm,.iface t x,.iface t2 x2]) 2 us:=by
 intro w vV vI vO s h;have hn:=λk hk=>(TEi.lt hC h k hk).1;have HL:=hide (lsI_lit (W:=w.alloc (.cells #[.string nm,.iface t x,.iface t2 x2] 216)) hn (by simp) #[.iface t x,.iface t2 x2] 183 us (by show 2<=1000;omega) (λi hi=>by
  have:i=0∨i=1:=by simp at hi;omega
  rcases this with rfl|rfl
  ·simp[hu]
  ·simp[hu2]))
 simp only[World.size_alloc] at HL;go_enter func262,ntmps262;go_wp2;go_ret;exact⟨_,_,rfl,HL,(bel_a _ _).alloc (by simp) _⟩
theorem exc_if (hC:C.Ok) (a1:Option Addr) (n1 c1:Nat) (a2:Option Addr) (n2 c2:Nat) (t:TypeId) (x:Value) (us:Nat->Value) (hu:us 0=.iface t x):OpC C 263 (.agg #[.iface t x,.slice a1 n1 c1,.slice a2 n2 c2]) 1 us:=by
 intro w vV vI vO s h;have hn:=λk hk=>(TEi.lt hC h k hk).1;have HL:=hide (lsI_lit (W:=w.alloc (.cells #[.iface t x,.slice a1 n1 c1,.slice a2 n2 c2] 218)) hn (by simp) #[.iface t x] 183 us (by show 1<=1000;omega) (λi hi=>by
  have e:i=0:=by simpa using hi
  subst e;simp[hu]))
 simp only[World.size_alloc] at HL;go_enter func263,ntmps263;go_wp2;go_ret;exact⟨_,_,rfl,HL,(bel_a _ _).alloc (by simp) _⟩
theorem exc_while (hC:C.Ok) (a1:Option Addr) (n1 c1:Nat) (t:TypeId) (x:Value) (us:Nat->Value) (hu:us 0=.iface t x):OpC C 264 (.agg #[.iface t x,.slice a1 n1 c1]) 1 us:=by
 intro w vV vI vO s h;have hn:=λk hk=>(TEi.lt hC h k hk).1;have HL:=hide (lsI_lit (W:=w.alloc (.cells #[.iface t x,.slice a1 n1 c1] 220)) hn (by simp) #[.iface t x] 183 us (by show 1<=1000;omega) (λi hi=>by
  have e:i=0:=by simpa using hi
  subst e;simp[hu]))
 simp only[World.size_alloc] at HL;go_enter func264,ntmps264;go_wp2;go_ret;exact⟨_,_,rfl,HL,(bel_a _ _).alloc (by simp) _⟩
theorem exc_return (hC:C.Ok) (t:TypeId) (x:Value) (us:Nat->Value) (hu:us 0=.iface t x):OpC C 258 (.agg #[.iface t x]) 1 us:=by
 intro w vV vI vO s h;have hn:=λk hk=>(TEi.lt hC h k hk).1;have HL:=hide (lsI_lit (W:=w.alloc (.cells #[.iface t x] 185)) hn (by simp) #[.iface t x] 183 us (by show 1<=1000;omega) (λi hi=>by
  have e:i=0:=by simpa using hi
  subst e;simp[hu]))
 simp only[World.size_alloc] at HL;go_enter func258,ntmps258;go_wp2;go_ret;exact⟨_,_,rfl,HL,(bel_a _ _).alloc (by simp) _⟩
theorem exc_out (hC:C.Ok) (t:TypeId) (x:Value) (us:Nat->Value) (hu:us 0=.iface t x):OpC C 265 (.agg #[.iface t x]) 1 us:=by
 intro w vV vI vO s h;have hn:=λk hk=>(TEi.lt hC h k hk).1;have HL:=hide (lsI_lit (W:=w.alloc (.cells #[.iface t x] 221)) hn (by simp) #[.iface t x] 183 us (by show 1<=1000;omega) (λi hi=>by
  have e:i=0:=by simpa using hi
  subst e;simp[hu]))
 simp only[World.size_alloc] at HL;go_enter func265,ntmps265;go_wp2;go_ret;exact⟨_,_,rfl,HL,(bel_a _ _).alloc (by simp) _⟩
theorem exc_call (hC:C.Ok) (t:TypeId) (x:Value) (us:Nat->Value) (hu:us 0=.iface t x):OpC C 266 (.agg #[.iface t x]) 1 us:=by
 intro w vV vI vO s h;have hn:=λk hk=>(TEi.lt hC h k hk).1;have HL:=hide (lsI_lit (W:=w.alloc (.cells #[.iface t x] 222)) hn (by simp) #[.iface t x] 183 us (by show 1<=1000;omega) (λi hi=>by
  have e:i=0:=by simpa using hi
  subst e;simp[hu]))
 simp only[World.size_alloc] at HL;go_enter func266,ntmps266;go_wp2;go_ret;exact⟨_,_,rfl,HL,(bel_a _ _).alloc (by simp) _⟩
end
section
variable {C:IC} {s:St} {a b:List St} {sv:Value}
def Rst (t:Tr) (fr:List Int) (n:Nat) (s:St) (a b:List St) (v:Nat->Int) (y:ES) (ec vc:Int) (z':ES):Prop:=
 (s.kind=1/\ec=0/\vc=0/\z' = {y with l:=y.l++[(s.name,v 0)]}) ∨
 (s.kind=2/\ec=0/\vc=0/\z'=y.wr t s.name (v 0)) ∨
 (s.kind=3/\((¬(0<=v 0/\v 0<(y.ws t s.name).length)/\ec=4/\vc=0/\z'=y)∨((0<=v 0/\v 0<(y.ws t s.name).length)/\ec=0/\vc=0/\z'=y.st t s.name (v 0).toNat (v 1)))) ∨
 (s.kind=4/\∃r,ec=endR r/\vc=valR r/\((v 0≠0/\Ev t fr n (.bl a) y r z')∨(v 0=0/\Ev t fr n (.bl b) y r z'))) ∨
 (s.kind=5/\((v 0=0/\ec=0/\vc=0/\z'=y)∨(v 0≠0/\∃r,Ev t fr n (.bl a) y r z'/\((r=.on/\ec=1/\vc=0)∨(r ≠ .on/\ec=endR r/\vc=valR r))))) ∨
 (s.kind=6/\ec=2/\vc=v 0/\z'=y) ∨
 (s.kind=7/\ec=0/\vc=0/\z' = {y with o:=y.o++[v 0]}) ∨
 (s.kind=8/\ec=0/\vc=0/\z'=y)
def nEx (s:St):Nat:=if s.kind=3 then 2 else 1
def exK (s:St) (i:Nat):List Nd:=if i=0 then s.e else s.f
theorem Lk.ops {n:Nat} {z:ES} {ec vc:Int} {z':ES} (h:Lk C.t C.fr n s a b z ec vc z') (hu:0<z.u) (hk:KnP C.t (z.l.map Prod.fst) s) (hs:stmtB s=true) : ∃st v j c s1,st 0=z.sp/\Ops C n (nEx s) (exK s) st v j c s1/\(c=2∨c=3)/\((j<nEx s/\ec=c+1/\vc=0/\z'=s1)∨(j=nEx s/\Rst C.t C.fr n s a b v (st (nEx s)) ec vc z')):=by
 obtain⟨hkk,h1e,h1f⟩:=stmtB_parts hs;have hn1:s.kind≠3->nEx s=1:=λh=>by unfold nEx;rw[if_neg h]
 have hn2:s.kind=3->nEx s=2:=λh=>by unfold nEx;rw[if_pos h]
 have base : ∀(st:Nat->ES) (v:Nat->Int) (j:Nat) (c:Int) (s1:ES),st 0=z.sp->j<=nEx s->(∀i,i<j->Ev C.t C.fr n (.e (exK s i)) (st i) (.val (v i)) (st (i+1)))->(j<nEx s->Ev C.t C.fr n (.e (exK s j)) (st j) (.out c) s1)->Ops C n (nEx s) (exK s) st v j c s1:=λst v j c s1 e0 hj g1 g2=>by
  refine⟨hj,g1,g2,λi hi => ?_,λi hi => ?_,by unfold nEx;split <;> omega⟩
  ·rw[e0];show KnE C.t (z.l.map Prod.fst) _;unfold exK;split
   ·exact hk.e
   ·exact hk.f
  ·unfold exK;split
   ·exact h1e
   ·refine h1f ?_;unfold nEx at hi;by_cases h3:s.kind=3
    ·exact h3
    ·rw[if_neg h3] at hi;omega
 have one : ∀ {x:Int} {z1:ES},s.kind≠3->Ev C.t C.fr n (.e s.e) z.sp (.val x) z1->Ops C n (nEx s) (exK s) (λi=>if i=0 then z.sp else z1) (λ_=>x) (nEx s) 2 z1:=λ{x z1} h3 g=>by
  refine base _ _ _ _ _ rfl n_ (λi hi => ?_) (λh=>by omega);rw[hn1 h3] at hi;obtain rfl:i=0:=by omega
  exact g
 have bad : ∀ {c:Int} {z1:ES},Ev C.t C.fr n (.e s.e) z.sp (.out c) z1->∃st v j c' s1,st 0=z.sp/\Ops C n (nEx s) (exK s) st v j c' s1/\(c'=2∨c'=3)/\j<nEx s/\c'=c/\s1=z1:=λ{c z1} g=>⟨λ_=>z.sp,λ_=>0,0,c,z1,rfl,base _ _ _ _ _ rfl y_ (λi hi=>by omega) (λ_=>g),g.outc c rfl,by unfold nEx;split <;> omega,rfl,rfl⟩;rcases h with ⟨h0,-⟩|⟨-,⟨h5,r,hE,rfl,rfl⟩|⟨h5,hw⟩⟩
 ·omega
 ·cases hE using Ev_i with
  | pbad m _ _ _ _ c _ g1=>
   obtain⟨st,v,j,c',s1,q1,q2,q3,q4,rfl,rfl⟩:=bad g1;exact⟨st,v,j,c',s1,q1,q2,q3,.inl ⟨q4,rfl,rfl,rfl⟩⟩
  | decl m _ _ _ _ x z1 g1 g2=>
   refine⟨_,_,_,2,_,rfl,one o_ g2,.inl rfl,.inr ⟨rfl,.inl ⟨g1,rfl,rfl,?_⟩⟩⟩;rw[hn1 o_];rfl
  | set m _ _ _ _ x z1 g1 g2=>
   refine⟨_,_,_,2,_,rfl,one o_ g2,.inl rfl,.inr ⟨rfl,.inr (.inl ⟨g1,rfl,rfl,?_⟩)⟩⟩;rw[hn1 o_];rfl
  | sbad m _ _ _ _ x z1 c _ g1 g2 g3=>
   refine⟨λi=>if i=0 then z.sp else z1,λ_=>x,1,c,z',rfl,base _ _ _ _ _ rfl (by rw[hn2 g1];omega) (λi hi => ?_) (λ_=>g3),g3.outc c rfl,.inl ⟨by rw[hn2 g1];omega,rfl,rfl,rfl⟩⟩;obtain rfl:i=0:=by omega
   exact g2
  | smis m _ _ _ _ x z1 y _ g1 g2 g3 g4=>
   refine⟨λi=>if i=0 then z.sp else if i=1 then z1 else z',λi=>if i=0 then x else y,nEx s,2,z',rfl,base _ _ _ _ _ rfl n_ (λi hi => ?_) (λh=>by omega),.inl rfl,.inr ⟨rfl,.inr (.inr (.inl ⟨g1,.inl ⟨?_,rfl,rfl,?_⟩⟩))⟩⟩
   ·rw[hn2 g1] at hi;have:i=0∨i=1:=by omega
    rcases this with rfl|rfl
    ·exact g2
    ·exact g3
   ·rw[hn2 g1];exact g4
   ·rw[hn2 g1];rfl
  | stor m _ _ _ _ x z1 y z2 g1 g2 g3 g4=>
   refine⟨λi=>if i=0 then z.sp else if i=1 then z1 else z2,λi=>if i=0 then x else y,nEx s,2,z2,rfl,base _ _ _ _ _ rfl n_ (λi hi => ?_) (λh=>by omega),.inl rfl,.inr ⟨rfl,.inr (.inr (.inl ⟨g1,.inr ⟨?_,rfl,rfl,?_⟩⟩))⟩⟩
   ·rw[hn2 g1] at hi;have:i=0∨i=1:=by omega
    rcases this with rfl|rfl
    ·exact g2
    ·exact g3
   ·rw[hn2 g1];exact g4
   ·rw[hn2 g1];rfl
  | ifth m _ _ _ _ x z1 _ _ g1 g2 g3 g4=>
   refine⟨_,_,_,2,_,rfl,one o_ g2,.inl rfl,.inr ⟨rfl,.inr (.inr (.inr (.inl ⟨g1,r,rfl,rfl,.inl ⟨g3,?_⟩⟩)))⟩⟩;rw[hn1 o_];exact g4
  | ifel m _ _ _ _ z1 _ _ g1 g2 g3=>
   refine⟨_,_,_,2,_,rfl,one o_ g2,.inl rfl,.inr ⟨rfl,.inr (.inr (.inr (.inl ⟨g1,r,rfl,rfl,.inr ⟨rfl,?_⟩⟩)))⟩⟩;rw[hn1 o_];exact g3
  | whno=>omega
  | whn=>omega
  | whdr=>omega
  | whag=>omega
  | retn m _ _ _ _ x _ g1 g2=>
   refine⟨_,_,_,2,_,rfl,one o_ g2,.inl rfl,.inr ⟨rfl,.inr (.inr (.inr (.inr (.inr (.inl ⟨g1,rfl,rfl,?_⟩)))))⟩⟩;rw[hn1 o_];rfl
  | tell m _ _ _ _ x z1 g1 g2=>
   refine⟨_,_,_,2,_,rfl,one o_ g2,.inl rfl,.inr ⟨rfl,.inr (.inr (.inr (.inr (.inr (.inr (.inl ⟨g1,rfl,rfl,?_⟩))))))⟩⟩;rw[hn1 o_];rfl
  | only m _ _ _ _ x _ g1 g2=>
   refine⟨_,_,_,2,_,rfl,one o_ g2,.inl rfl,.inr ⟨rfl,.inr (.inr (.inr (.inr (.inr (.inr (.inr ⟨g1,rfl,rfl,?_⟩))))))⟩⟩;rw[hn1 o_];rfl
 ·rcases hw with ⟨c,g1,rfl,rfl⟩|⟨g1,rfl,rfl⟩|⟨x,z1,r,g1,g2,g3,g4⟩
  ·obtain⟨st,v,j,c',s1,q1,q2,q3,q4,rfl,rfl⟩:=bad g1;exact⟨st,v,j,c',s1,q1,q2,q3,.inl ⟨q4,rfl,rfl,rfl⟩⟩
  ·refine⟨_,_,_,2,_,rfl,one o_ g1,.inl rfl,.inr ⟨rfl,.inr (.inr (.inr (.inr (.inl ⟨h5,.inl ⟨rfl,rfl,rfl,?_⟩⟩))))⟩⟩;rw[hn1 o_];rfl
  ·refine⟨_,_,_,2,_,rfl,one o_ g1,.inl rfl,.inr ⟨rfl,.inr (.inr (.inr (.inr (.inl ⟨h5,.inr ⟨g2,r,?_,g4⟩⟩))))⟩⟩;rw[hn1 o_];exact g3
def SvV (C:IC) (sv:Value) (s:St) (a b:List St) (us:Nat->Value):Prop:=
 (s.kind=1/\sv=.iface 213 (.agg #[.string s.name,us 0])) ∨
 (s.kind=2/\sv=.iface 214 (.agg #[.string s.name,us 0])) ∨
 (s.kind=3/\sv=.iface 216 (.agg #[.string s.name,us 0,us 1])) ∨
 (s.kind=4/\∃va vb La Lb,sv=.iface 218 (.agg #[us 0,va,vb])/\BkL C.w0 C.S va La/\a=flatL La/\BkL C.w0 C.S vb Lb/\b=flatL Lb) ∨
 (s.kind=5/\∃va La,sv=.iface 220 (.agg #[us 0,va])/\BkL C.w0 C.S va La/\a=flatL La) ∨
 (s.kind=6/\sv=.iface 185 (.agg #[us 0])) ∨
 (s.kind=7/\sv=.iface 221 (.agg #[us 0])) ∨
 (s.kind=8/\sv=.iface 222 (.agg #[us 0]))
theorem bv_parts {l:List St} (h:Bv C.w0 C.S sv l) : ∃s a b us,One l s a b/\SvV C sv s a b us/\∀i,i<nEx s->Tv C.w0 C.S (us i) (exK s i):=by
 have t1 : ∀ {s:St} {x:Value},s.kind≠3->Tv C.w0 C.S x s.e->∀i,i<nEx s->Tv C.w0 C.S x (exK s i):=λ{s x} h3 hx i hi=>by
  unfold nEx at hi;rw[if_neg h3] at hi;obtain rfl:i=0:=by omega
  exact hx
 cases h using Bv_i with
 | decl s x h1 h2 h3 h4=>exact⟨s,[],[],λ_=>x,⟨rfl,h3,h4⟩,.inl ⟨h1,rfl⟩,t1 o_ h2⟩
 | set s x h1 h2 h3 h4=>exact⟨s,[],[],λ_=>x,⟨rfl,h3,h4⟩,.inr (.inl ⟨h1,rfl⟩),t1 o_ h2⟩
 | store s x y h1 h2 h3 h4 h5=>
  refine⟨s,[],[],λi=>if i=0 then x else y,⟨rfl,h4,h5⟩,.inr (.inr (.inl ⟨h1,rfl⟩)),λi hi => ?_⟩;unfold nEx at hi;rw[if_pos h1] at hi;have:i=0∨i=1:=by omega
  rcases this with rfl|rfl
  ·exact h2
  ·exact h3
 | ifs s x va vb A B vs us F H h1 h2 h3 h4 h5 h6 h7 h8=>exact⟨s,_,_,λ_=>x,⟨rfl,h7,h8⟩,.inr (.inr (.inr (.inl ⟨h1,va,vb,_,_,rfl,h3.toL h4,join_flat vs F A,h5.toL h6,join_flat us H B⟩))),t1 o_ h2⟩
 | whil s x va A vs F h1 h2 h3 h4 h5 h6=>exact⟨s,joinS F A,[],λ_=>x,⟨by simp,h5,h6⟩,.inr (.inr (.inr (.inr (.inl ⟨h1,va,_,rfl,h3.toL h4,join_flat vs F A⟩)))),t1 o_ h2⟩
 | ret s x h1 h2 h3 h4=>exact⟨s,[],[],λ_=>x,⟨rfl,h3,h4⟩,.inr (.inr (.inr (.inr (.inr (.inl ⟨h1,rfl⟩))))),t1 o_ h2⟩
 | out s x h1 h2 h3 h4=>exact⟨s,[],[],λ_=>x,⟨rfl,h3,h4⟩,.inr (.inr (.inr (.inr (.inr (.inr (.inl ⟨h1,rfl⟩)))))),t1 o_ h2⟩
 | call s x h1 h2 h3 h4=>exact⟨s,[],[],λ_=>x,⟨rfl,h3,h4⟩,.inr (.inr (.inr (.inr (.inr (.inr (.inr ⟨h1,rfl⟩)))))),t1 o_ h2⟩
def ExF (t:TypeId) (x:Value) (f:Nat):Prop:=(∀W:World,(method 460 t x "loop.example/s01725/impl.expressions").run prog W=.ok (f,x) W)/\∀(y:Value) (W:World),(callFunc f #[y]).run prog W=.ok (.enter f #[y]) W
theorem exf (t:TypeId) (x:Value) (f:Nat) (h1 : ∀W:World,(method 460 t x "loop.example/s01725/impl.expressions").run prog W=.ok (f,x) W) (h2 : ∀(y:Value) (W:World),(callFunc f #[y]).run prog W=.ok (.enter f #[y]) W):ExF t x f:=⟨h1,h2⟩
theorem stmt_ops (hC:C.Ok) {us:Nat->Value} (hV:SvV C sv s a b us) (hus : ∀i,i<nEx s->∃t x,us i=.iface t x) : ∃t x f,sv=.iface t x/\ExF t x f/\OpC C f x (nEx s) us:=by
 have hn1:s.kind≠3->nEx s=1:=λh=>by unfold nEx;rw[if_neg h]
 have hn2:s.kind=3->nEx s=2:=λh=>by unfold nEx;rw[if_pos h]
 obtain⟨t,x,hu⟩:=hus 0 (by unfold nEx;split <;> omega);rcases hV with ⟨hk,rfl⟩|⟨hk,rfl⟩|⟨hk,rfl⟩|⟨hk,va,vb,La,Lb,rfl,hA,-,hB,-⟩|⟨hk,va,La,rfl,hA,-⟩|⟨hk,rfl⟩|⟨hk,rfl⟩|⟨hk,rfl⟩
 ·rw[hn1 o_,hu];exact⟨_,_,260,rfl,exf _ _ _ (λW=>by kernel_rfl) (λy W=>by kernel_rfl),exc_decl hC s.name t x us hu⟩
 ·rw[hn1 o_,hu];exact⟨_,_,261,rfl,exf _ _ _ (λW=>by kernel_rfl) (λy W=>by kernel_rfl),exc_set hC s.name t x us hu⟩
 ·obtain⟨t2,x2,hu2⟩:=hus 1 (by rw[hn2 hk];omega);rw[hn2 hk,hu,hu2];exact⟨_,_,262,rfl,exf _ _ _ (λW=>by kernel_rfl) (λy W=>by kernel_rfl),exc_store hC s.name t x t2 x2 us hu hu2⟩
 ·obtain⟨a1,c1,rfl,-⟩:=hA.args;obtain⟨a2,c2,rfl,-⟩:=hB.args;rw[hn1 o_,hu];exact⟨_,_,263,rfl,exf _ _ _ (λW=>by kernel_rfl) (λy W=>by kernel_rfl),exc_if hC a1 _ c1 a2 _ c2 t x us hu⟩
 ·obtain⟨a1,c1,rfl,-⟩:=hA.args;rw[hn1 o_,hu];exact⟨_,_,264,rfl,exf _ _ _ (λW=>by kernel_rfl) (λy W=>by kernel_rfl),exc_while hC a1 _ c1 t x us hu⟩
 ·rw[hn1 o_,hu];exact⟨_,_,258,rfl,exf _ _ _ (λW=>by kernel_rfl) (λy W=>by kernel_rfl),exc_return hC t x us hu⟩
 ·rw[hn1 o_,hu];exact⟨_,_,265,rfl,exf _ _ _ (λW=>by kernel_rfl) (λy W=>by kernel_rfl),exc_out hC t x us hu⟩
 ·rw[hn1 o_,hu];exact⟨_,_,266,rfl,exf _ _ _ (λW=>by kernel_rfl) (λy W=>by kernel_rfl),exc_call hC t x us hu⟩
end
def trnE (r:ER):Int:=if endR r=0 then 1 else endR r
theorem turn_any {C:IC} (hC:C.Ok) {w:World} {q:Nat} {vI vO:Value} {z z':ES} {r:ER} (h:IS C w (some q) vI vO z) {t:TypeId} {x:Value} {a1:Option Addr} {n1 c1:Nat} (hbl : ∀X,IS C X (some q) vI vO z->Calls prog 70 #[.pointer (some ⟨C.P,0,none⟩),.slice a1 n1 c1] X λx w'=>StQ C X q vO (endR r) (valR r) z' x w') :
  Calls prog 147 #[.pointer (some ⟨C.P,0,none⟩),.agg #[.iface t x,.slice a1 n1 c1]] w λx w'=>StQ C w q vO (trnE r) (valR r) z' x w':=by
 obtain⟨W0,hW0⟩ : ∃W0,W0=(w.alloc (.cells #[.iface t x,.slice a1 n1 c1] 220)).alloc (.cells #[.int .i64 0,.int .i64 0] 75):=⟨_,rfl⟩;obtain⟨B,hB⟩ : ∃B,B=w.heap.size:=⟨_,rfl⟩;have hbA:Bl w (w.alloc (.cells #[.iface t x,.slice a1 n1 c1] 220)):=bel_a _ _;have hb0:Bl w W0:=by rw[hW0];exact hbA.alloc hbA.size _
 have hm0:FrC W0 (B+1) [.int .i64 0,.int .i64 0]:=by
  rw[hW0,hB];have:=box_fr (w.alloc (.cells #[.iface t x,.slice a1 n1 c1] 220)) #[.int .i64 0,.int .i64 0] 75 (by show 2<=1000;omega)
  rw[World.size_alloc] at this;exact this
 have hx0:FrC W0 B [.iface t x,.slice a1 n1 c1]:=by
  rw[hW0,hB];exact (box_fr w #[.iface t x,.slice a1 n1 c1] 220 (by show 2<=1000;omega)).below (bel_a _ _)
 have hM0:B+1<W0.heap.size:=b_ (hm0 0 _ rfl).1;have hnM : ¬TSi C (some q) vO (B+1):=λhk=>by have:=TSi.lt hC h _ hk;omega
 have hMw:w.heap.size<=B+1:=by omega
 obtain⟨HBl,H0,HC,HW0,HBe,HB0,HM0⟩:=h7 (hbl W0 (h.below hC hb0)) h hC hW0 hB hb0 hm0;have x1:=(hx0 1 _ rfl).1;clear h hC hbl hW0 hB hb0 hm0 hx0 hbA;go_enter func147,ntmps147;go_upto_region 1 with fail;rw[<-HW0.o,<-HBe.o];go_wp2_with fail;refine HBl.o.mono ?_;rintro e w2 ⟨vI2,vO2,rfl,hI2,ht2,ho2⟩;obtain⟨en,hen⟩ : ∃en,en=endR r:=⟨_,rfl⟩;obtain⟨vv,hvv⟩ : ∃vv,vv=valR r:=⟨_,rfl⟩;rw[<-hen,<-hvv];obtain⟨W3,hW3⟩ : ∃W3,W3=w2.alloc (.cells #[.int .i64 en,.int .i64 vv] 75):=⟨_,rfl⟩;have hb3:Bl w2 W3:=by rw[hW3];exact r_.alloc n_ _
 have hx3:FrC W3 w2.heap.size [.int .i64 en,.int .i64 vv]:=by rw[hW3];exact box_fr w2 _ _ (by show 2<=1000;omega)
 obtain⟨B3,hB3⟩ : ∃B3,B3=w2.heap.size:=⟨_,rfl⟩;rw[<-hB3] at hx3;have hm2:=HM0.o.tcs hM0 ht2 hnM;have hBM:B3≠B+1:=by have:=b_ (hm2 0 _ rfl).1;rw[hB3];intro e;have e':w2.heap.size=B+1:=e;have t':B+1<w2.heap.size:=this;omega
 have hm3:=hm2.below hb3;obtain⟨HX3,HM3,HI2,Ht2,Ho2,Hb3,HW3,HB3,HEn,HVv⟩:=h10 hx3 hm3 hI2 ht2 ho2 hb3 hW3 hB3 hen hvv;obtain⟨y0,f0⟩:=hm3 0 _ rfl;obtain⟨y1,f1⟩:=hm3 1 _ rfl;obtain⟨z0,g0⟩:=hx3 0 _ rfl;obtain⟨z1,g1⟩:=hx3 1 _ rfl;clear hI2 ht2 ho2 hb3 hW3 hB3 hen hvv hx3 hm3 hm2 x1;go_upto_region 2 with fail;rw[<-HW3.o,<-HB3.o];by_cases hz:en=0
 ·have e1:trnE r=1:=by unfold trnE;rw[if_pos (by rw[<-HEn.o];exact hz)]
  have hz':(en == 0)=true:=by simpa using hz
  have hT:Tcs (λk=>k=B3) W3 (W3.setCell ⟨B3,0,none⟩ (.int .i64 1)):=(Tcs.refl (λk=>k=B3) W3).setCell (p:=⟨B3,0,none⟩) rfl _;have hI3:IS C (W3.setCell ⟨B3,0,none⟩ (.int .i64 1)) (some q) vI2 vO2 z':=(HI2.o.below HC Hb3).past HC hT (λk hk=>by
   have e:k=B3:=hk;have:=HB3.o
   refine⟨by have:=(HI2.o.hi HC.o).2.2;omega,λe2 => ?_,λe2 => ?_⟩
   ·have:=TSi.lt HC.o HI2.o k (.inr e2);omega
   ·have:=(World.ownsRow.lt HI2.o.out k e2).2;omega)
  have hT3:Tcs (TSi C (some q) vO) W0 (W3.setCell ⟨B3,0,none⟩ (.int .i64 1)):=(Ht2.o.of_below Hb3).next hT (λk hk=>.inr (by have e:k=B3:=hk;have:=HB3.o;have:=Ht2.o.size;omega));have HFn:=hide (stq_fin HC hMw H0 HB0 hM0 hI3 hT3 Ho2 r_ (HM3.o.tcs (b_ y0) hT (λe=>hBM e.symm)) 1 vv);have HRw:Hid (trnE r=1/\valR r=vv):=⟨e1,HVv.o.symm⟩;clear hI3 hT hT3 e1 hz;go_wp2_with fail;obtain⟨t0,t1,hQ⟩:=HFn;refine bodyPost_ret (v:=.agg #[.int .i64 1,.int .i64 vv]) (by simp[results,results147,go_sem,t0,t1]) rfl ?_;rw[HRw.o.1,HRw.o.2];exact hQ
 ·have e1:trnE r=en:=by unfold trnE;rw[if_neg (by rw[<-HEn.o];exact hz),HEn]
  have hz':(en == 0)=false:=by simpa using hz
  have HFn:=hide (stq_fin HC hMw H0 HB0 hM0 HI2 Ht2 Ho2 Hb3 HM3 en vv);have HRw:Hid (trnE r=en/\valR r=vv):=⟨e1,HVv.o.symm⟩;clear e1 hz;go_wp2_with fail;obtain⟨t0,t1,hQ⟩:=HFn;refine bodyPost_ret (v:=.agg #[.int .i64 en,.int .i64 vv]) (by simp[results,results147,go_sem,t0,t1]) rfl ?_;rw[HRw.o.1,HRw.o.2];exact hQ
section
variable {C:IC} {vO vI vI' vO':Value} {q M A:Nat} {W0 w w':World} {vV:Option Nat} {st:Nat->ES} {v:Nat->Int} {c:Int} {s1:ES} {x:Ending}
theorem st_aft {vO3:Value} {w1 w2 w3:World} (h1:Hid (Tcs (TEi C vO) W0 w1)) (hM:Hid (FrC w1 M [.int .i64 0,.int .i64 0])) (h2:Hid (Below w1.heap.size w1 w2)) (hM0:M<W0.heap.size) (hnM : ¬TSi C (some q) vO M) (ht3:Tcs (TEi C vO) w2 w3) (ho3 : ∀k,vO3.ownBlock=some k->vO.ownBlock=some k∨w2.heap.size<=k) :
  Hid (Tcs (TEi C vO) W0 w3)/\Hid (FrC w3 M [.int .i64 0,.int .i64 0])/\Hid (∀k,vO3.ownBlock=some k->vO.ownBlock=some k∨W0.heap.size<=k)/\Hid (Tcs (TSi C (some q) vO) W0 w3)/\(w3.cell? ⟨M,0,none⟩=some (.int .i64 0)/\w3.frozen? ⟨M,0,none⟩=false)/\(w3.cell? ⟨M,1,none⟩=some (.int .i64 0)/\w3.frozen? ⟨M,1,none⟩=false)/\W0.heap.size<=w3.heap.size:=by
 have z1:=h1.out.size;have z2:=h2.out.size;have hE:Tcs (TEi C vO) W0 w3:=(h1.out.of_below h2.out).trans ht3;have hm:FrC w3 M [.int .i64 0,.int .i64 0]:=(hM.out.below h2.out).tcs o_ ht3 (λe=>hnM (.inl e));exact⟨hE,hm,λk hk=>(ho3 k hk).imp id (λh=>by omega),TSi.of hE,hm 0 _ rfl,hm 1 _ rfl,hE.size⟩
theorem not_te {vO2:Value} (h : ¬TSi C (some q) vO w.heap.size) (hM : ¬TSi C (some q) vO M) (hM0:M<W0.heap.size) (ho : ∀k,vO2.ownBlock=some k->vO.ownBlock=some k∨W0.heap.size<=k) : ¬TSi C (some q) vO2 M:=λhk=>by
 rcases hk with hk|hk
 ·rcases hk with h1|h1|h1
  ·exact hM (.inl (.inl h1))
  ·exact hM (.inl (.inr (.inl h1)))
  ·rcases ho M h1 with h2|h2
   ·exact hM (.inl (.inr (.inr h2)))
   ·omega
 ·exact hM (.inr hk)
theorem map_cell {n:Nat} {D:DataW Unit} (h:w.ownsMap prog 9 (plainElem (H:=Unit) prog 2) q n D) (j:Nat):w.cell? ⟨q,j,none⟩=none:=by
 obtain⟨es,clock,h0,-⟩:=h;simp[World.cell?,h0]
theorem var_cell {z:ES} (h:IS C w (some q) vI vO z) (j:Nat):w.cell? ⟨q,j,none⟩=none:=by
 rcases h.var with ⟨e,-⟩|⟨b,n,D,e,h1,-⟩
 ·cases e
 ·cases e;exact map_cell h1 j
theorem va_one (h:(A=A/\∃a n cp,x=.returned (.tuple #[.slice a n cp,.int .i64 0])/\IS C w' vV vI' vO' (st A)/\ArI C w' vO' (.slice a n cp) (argL A v))∨(A<A/\x=.returned (.tuple #[.slice none 0 0,.int .i64 (c+1)])/\IS C w' vV vI' vO' s1)) (hA:A=1) :
  ∃bv cp,x=.returned (.tuple #[.slice (some ⟨bv,0,none⟩) 1 cp,.int .i64 0])/\IS C w' vV vI' vO' (st A)/\bv<w'.heap.size/\¬TEi C vO' bv/\w'.cell? ⟨bv,0,none⟩=some (.int .i64 (v 0)):=by
 rcases h with ⟨-,a,n,cp,rfl,h1,h2⟩|⟨h,-⟩
 ·have hA1:argL A v = [v 0]:=by rw[hA];simp[argL]
  rw[hA1] at h2;obtain⟨av,cv,hav,-,-,hAc⟩:=h2;simp only[Value.slice.injEq,l_c,l_n,Nat.zero_add] at hav;obtain⟨rfl,rfl,rfl⟩:=hav;obtain⟨bv,rfl,hbv,hnv,hcv⟩:=hAc (by simp);exact⟨bv,cp,rfl,h1,hbv,hnv,hcv 0 (by simp)⟩
 ·omega
theorem va_two (h:(A=A/\∃a n cp,x=.returned (.tuple #[.slice a n cp,.int .i64 0])/\IS C w' vV vI' vO' (st A)/\ArI C w' vO' (.slice a n cp) (argL A v))∨(A<A/\x=.returned (.tuple #[.slice none 0 0,.int .i64 (c+1)])/\IS C w' vV vI' vO' s1)) (hA:A=2) :
  ∃bv cp,x=.returned (.tuple #[.slice (some ⟨bv,0,none⟩) 2 cp,.int .i64 0])/\IS C w' vV vI' vO' (st A)/\bv<w'.heap.size/\¬TEi C vO' bv/\w'.cell? ⟨bv,0,none⟩=some (.int .i64 (v 0))/\w'.cell? ⟨bv,1,none⟩=some (.int .i64 (v 1)):=by
 rcases h with ⟨-,a,n,cp,rfl,h1,h2⟩|⟨h,-⟩
 ·have hA1:argL A v = [v 0,v 1]:=by rw[hA];rfl
  rw[hA1] at h2;obtain⟨av,cv,hav,-,-,hAc⟩:=h2;simp only[Value.slice.injEq,l_c,l_n,Nat.zero_add] at hav;obtain⟨rfl,rfl,rfl⟩:=hav;obtain⟨bv,rfl,hbv,hnv,hcv⟩:=hAc (by simp);exact⟨bv,cp,rfl,h1,hbv,hnv,hcv 0 (by simp),hcv 1 (by simp)⟩
 ·omega
theorem out_run (hC:C.Ok) {s:ES} (v:Int) (h:IS C w (some q) vI vO s) (hu:s.o.length+1+s.u<=100000) :
  ∃va vc w3,(Builtin.append_ #[26,26] 26 #[vO,.slice (some ⟨w.heap.size,0,none⟩) 1 1]).run prog (w.alloc (.cells #[.int .i64 v] 2))=.ok (.slice va (s.o.length+1) vc) w3/\IS C (w3.setCell ⟨C.P,7,none⟩ (.slice va (s.o.length+1) vc)) (some q) vI (.slice va (s.o.length+1) vc) {s with o:=s.o++[v]}/\(w3.cell? ⟨C.P,7,none⟩=some vO/\w3.frozen? ⟨C.P,7,none⟩=false)/\Tcs (TEi C vO) w w3/\Tcs (TEi C vO) w (w3.setCell ⟨C.P,7,none⟩ (.slice va (s.o.length+1) vc))/\∀k,(Value.slice va (s.o.length+1) vc).ownBlock=some k->vO.ownBlock=some k∨w.heap.size<=k:=by
 obtain⟨p1,p2,p3⟩:=h.hi hC;obtain⟨q1,q2,q3,q4,q5⟩:=hC.pg;have huu:=h.uu;obtain⟨va,vc,w3,r1,r2,r3,r4⟩:=app_i64 h.out v p3 o_;have hlo:=λk hk=>World.ownsRow.lt h.out k hk;have hnP : ¬vO.ownBlock=some C.P:=λe=>by have:=(hlo _ e).1;omega
 have hbx:=h.box.tcs p1 r3 hnP;have t2:Tcs (λk=>k=C.P) w3 (w3.setCell ⟨C.P,7,none⟩ (.slice va (s.o.length+1) vc)):=(Tcs.refl (λk=>k=C.P) w3).setCell (p:=⟨C.P,7,none⟩) rfl _;have t4:Tcs (λk=>vO.ownBlock=some k∨k=C.P) w (w3.setCell ⟨C.P,7,none⟩ (.slice va (s.o.length+1) vc)):=(r3.mono (λk hk=>.inl hk)).next t2 (λk hk=>.inl (.inr hk));have tE:Tcs (TEi C vO) w w3:=r3.mono λk hk=>.inr (.inr hk);refine⟨va,vc,w3,r1,⟨h.tc.next t4 (λk hk => ?_),hbx.set 7 _,h.gl,λk hk=>(h.gw k hk).tcs (p2 _ (g_ hk)).1 t4 (λhs => ?_),h.g1,?_,h.inp,?_,⟨h.ok.g,h.ok.l,h.ok.i⟩,⟨huu.1,?_⟩,h.nn⟩,hbx 7 _ rfl,tE,tE.setCell (p:=⟨C.P,7,none⟩) (.inl rfl) _,λk hk=>(r4 k hk).imp_right (λh1=>by omega)⟩
 ·rcases hk with hk|hk
  ·exact .inr (hlo k hk).1
  ·exact .inl (.inl hk)
 ·rcases hs with hs|hs
  ·have:=(hlo _ hs).1;have:=(q5 _ (g_ hk)).2;omega
  ·exact (p2 _ (g_ hk)).2 hs
 ·rcases h.var with ⟨e,-⟩|⟨b,n,D,e,h1,h2,h3,h4,h5⟩
  ·cases e
  ·cases e
   have hlt:=h1.lt;obtain⟨es,clock,h0,F,hs,hD⟩:=h1;refine .inr ⟨q,n,D,rfl,⟨es,clock,(t4.block q hlt (λhs => ?_)).trans h0,F,hs,hD⟩,h2,h3,h4,λe => ?_⟩
   ·rcases hs with hs|hs
    ·exact h5 hs
    ·omega
   ·rcases r4 q e with h6|h6
    ·exact h5 h6
    ·omega
 ·show World.ownsRow _ _ _ _ _ (s.o++[v]).length ((s.o++[v]).map _);rw[l_a,List.map_append];exact own_notU r2 t2 (λk hk hs=>by have e:k=C.P:=hs;have:=(World.ownsRow.lt r2 k hk).1;omega)
 ·show (s.o++[v]).length+s.u<=100000;rw[l_a,List.length_singleton];exact hu
end
section
variable {C:IC} {w:World} {q A f:Nat} {vI vO xu:Value} {z s1:ES} {us:Nat->Value} {st:Nat->ES} {v:Nat->Int} {tu:TypeId}
theorem st_call (hC:C.Ok) (h:IS C w (some q) vI vO z) (hu:0<z.u) (hF:ExF 222 (.agg #[.iface tu xu]) f) (hO:OpC C f (.agg #[.iface tu xu]) A us) (hVa : ∀(X:World) (ar:Value),IS C X (some q) vI vO z.sp->LsI C X vO ar A us->Calls prog 144 #[.pointer (some ⟨C.P,0,none⟩),ar] X λx w'=>VaP C X (some q) vO A st v A 2 s1 x w') :
  Calls prog 110 #[.pointer (some ⟨C.P,0,none⟩),.iface 222 (.agg #[.iface tu xu])] w λx w'=>StQ C w q vO 0 0 (st A) x w':=by
 obtain⟨hm,hcf⟩:=hF;obtain⟨W0,M,hW0,hM,hb0,hx0,hM0⟩:=o_box w;have hMw:w.heap.size<=M:=Nat.le_of_eq hM.symm;have hnM : ¬TSi C (some q) vO M:=λhk=>by have:=TSi.lt hC h M hk;omega
 obtain⟨HBu,HOp,H0,HC,HW0,HB0,HM,HX0,HVa⟩:=h9 (burn_yes hC (h.below hC hb0) hu) hO h hC hW0 hb0 hM hx0 hVa;have q_decl:=λW v=>sa_decl_no W 222 v (by decide);have q_set:=λW v=>sa_set_no W 222 v (by decide);have q_store:=λW v=>sa_store_no W 222 v (by decide);have q_if:=λW v=>sa_if_no W 222 v (by decide);have q_while:=λW v=>sa_while_no W 222 v (by decide);have q_return:=λW v=>sa_return_no W 222 v (by decide);have q_out:=λW v=>sa_out_no W 222 v (by decide);clear h hC hO hVa hW0 hb0 hM hx0 hu;go_enter func110,ntmps110;go_upto_region 1 with fail;rw[<-HW0.o,<-HM.o];go_wp2_with fail;refine HBu.o.mono ?_;rintro e w1 ⟨rfl,hI1,ht1⟩;obtain⟨HI1,Ht1,HM1,HO1⟩:=h4 hI1 ht1 (HX0.o.tcs hM0 ht1 (λe=>hnM (.inl e))) (HOp w1 (some q) vI vO z.sp hI1);go_wp2_with fail;refine HO1.o.mono ?_;rintro e w2 ⟨a,cp,rfl,hL,hb2⟩;obtain⟨HV2,Hb2⟩:=h2 (HVa w2 _ (HI1.o.below HC hb2) hL) hb2;clear hL hb2 HVa HOp HO1;go_wp2_with fail;refine HV2.o.mono ?_;rintro e w3 ⟨vI3,vO3,ht3,ho3,hcase⟩;obtain⟨HtE,HM3,Ho3,Ht3,⟨y0,f0⟩,⟨y1,f1⟩,hs3⟩:=st_aft Ht1 HM1 Hb2 hM0 hnM ht3 ho3;obtain⟨a2,n2,c2,rfl,hI3,hA3⟩ : ∃a n cp,e=.returned (.tuple #[.slice a n cp,.int .i64 0])/\IS C w3 (some q) vI3 vO3 (st A)/\ArI C w3 vO3 (.slice a n cp) (argL A v):=by
  rcases hcase with ⟨-,a2,n2,c2,e1,e2,e3⟩|⟨hj,-⟩
  ·exact⟨a2,n2,c2,e1,e2,e3⟩
  ·omega
 obtain⟨HI3,HA3⟩:=h2 hI3 hA3;have hI0:Tcs (TEi C vO) w w3:=(HB0.o.tcs (S:=TEi C vO)).trans HtE;clear hcase hI0;have HFn:=hide (stq_fin HC hMw H0 HB0 hM0 hI3 Ht3 Ho3 r_ HM3 0 0);go_wp2_with fail;obtain⟨t0,t1,hQ⟩:=HFn;exact bodyPost_ret (v:=.agg #[.int .i64 0,.int .i64 0]) (by simp[results,results110,go_sem,t0,t1]) rfl hQ
theorem st_return (hC:C.Ok) (h:IS C w (some q) vI vO z) (hu:0<z.u) (hA:A=1) (hF:ExF 185 (.agg #[.iface tu xu]) f) (hO:OpC C f (.agg #[.iface tu xu]) A us) (hVa : ∀(X:World) (ar:Value),IS C X (some q) vI vO z.sp->LsI C X vO ar A us->Calls prog 144 #[.pointer (some ⟨C.P,0,none⟩),ar] X λx w'=>VaP C X (some q) vO A st v A 2 s1 x w') :
  Calls prog 110 #[.pointer (some ⟨C.P,0,none⟩),.iface 185 (.agg #[.iface tu xu])] w λx w'=>StQ C w q vO 2 (v 0) (st A) x w':=by
 obtain⟨hm,hcf⟩:=hF;obtain⟨W0,M,hW0,hM,hb0,hx0,hM0⟩:=o_box w;have hMw:w.heap.size<=M:=Nat.le_of_eq hM.symm;have hnM : ¬TSi C (some q) vO M:=λhk=>by have:=TSi.lt hC h M hk;omega
 obtain⟨HBu,HOp,H0,HC,HW0,HB0,HM,HX0,HVa⟩:=h9 (burn_yes hC (h.below hC hb0) hu) hO h hC hW0 hb0 hM hx0 hVa;have q_decl:=λW v=>sa_decl_no W 185 v (by decide);have q_set:=λW v=>sa_set_no W 185 v (by decide);have q_store:=λW v=>sa_store_no W 185 v (by decide);have q_if:=λW v=>sa_if_no W 185 v (by decide);have q_while:=λW v=>sa_while_no W 185 v (by decide);have q_return:=sa_return_yes;have HA:=hide hA;clear hA;clear h hC hO hVa hW0 hb0 hM hx0 hu;go_enter func110,ntmps110;go_upto_region 1 with fail;rw[<-HW0.o,<-HM.o];go_wp2_with fail;refine HBu.o.mono ?_;rintro e w1 ⟨rfl,hI1,ht1⟩;obtain⟨HI1,Ht1,HM1,HO1⟩:=h4 hI1 ht1 (HX0.o.tcs hM0 ht1 (λe=>hnM (.inl e))) (HOp w1 (some q) vI vO z.sp hI1);clear hI1 ht1 HBu;go_wp2_with fail;refine HO1.o.mono ?_;rintro e w2 ⟨a,cp,rfl,hL,hb2⟩;obtain⟨HV2,Hb2⟩:=h2 (HVa w2 _ (HI1.o.below HC hb2) hL) hb2;clear hL hb2 HVa HOp HO1;go_wp2_with fail;refine HV2.o.mono ?_;rintro e w3 ⟨vI3,vO3,ht3,ho3,hcase⟩;obtain⟨HtE,HM3,Ho3,Ht3,⟨y0,f0⟩,⟨y1,f1⟩,hs3⟩:=st_aft Ht1 HM1 Hb2 hM0 hnM ht3 ho3;clear ht3 ho3 HV2;obtain⟨bv,cw,rfl,hI3,hbv3,hnv,hc30⟩:=va_one hcase HA;have hI0:Tcs (TEi C vO) w w3:=(HB0.o.tcs (S:=TEi C vO)).trans HtE;clear hcase hI0;obtain⟨W4,hW4⟩ : ∃W4,W4=w3.alloc (.cells #[.iface tu xu] 185):=⟨_,rfl⟩;have hb4:Bl w3 W4:=by rw[hW4];exact r_.alloc n_ _
 have hx4:FrC W4 w3.heap.size [.iface tu xu]:=by rw[hW4];exact box_fr w3 _ _ (by show 1<=1000;omega)
 obtain⟨B,hB⟩ : ∃B,B=w3.heap.size:=⟨_,rfl⟩;rw[<-hB] at hx4;have hBM:B≠M:=by omega
 have hMB : ¬M=B:=by omega
 have hI4:=hI3.below HC hb4;have hm4:=HM3.o.below hb4;obtain⟨Hb4,HX4,HW4,HBe,HI4,HM4⟩:=h6 hb4 hx4 hW4 hB hI4 hm4;clear y0 f0 y1 f1;obtain⟨y0,f0⟩:=hm4 0 _ rfl;obtain⟨y1,f1⟩:=hm4 1 _ rfl;have hbv:bv<W4.heap.size:=l_ hbv3 hb4.size;have hcv0:W4.cell? ⟨bv,0,none⟩=some (.int .i64 (v 0)):=(hb4.cell (p:=⟨bv,0,none⟩) hbv3).trans hc30;clear hc30 hbv3;have HFn:=hide (stq_fin HC hMw H0 HB0 hM0 hI3 Ht3 Ho3 Hb4 HM4 2 (v 0));generalize hv0:v 0=v0 at HFn hcv0;have HV0:=hide hv0;clear hI3 hI4 hb4 hx4 hW4 hB hm4 hv0;go_upto_region 30 with fail;rw[<-HW4.o,<-HBe.o];go_wp2_with fail;obtain⟨t0,t1,hQ⟩:=HFn;refine bodyPost_ret (v:=.agg #[.int .i64 2,.int .i64 v0]) (by simp[results,results110,go_sem,t0,t1]) rfl ?_;rw[HV0.o];exact hQ
end
theorem st_decl {C:IC} (hC:C.Ok) {w:World} {q:Nat} {vI vO:Value} {z:ES} (h:IS C w (some q) vI vO z) (hu:0<z.u) {A:Nat} {f:Nat} {us:Nat->Value} {st:Nat->ES} {v:Nat->Int} {s1:ES} {tu:TypeId} {xu:Value} {nm:ByteArray} (hA:A=1) {z':ES} (hset : ∀(X:World) (vI3 vO3:Value),IS C X (some q) vI3 vO3 (st A)->Tcs (TEi C vO) w X->Calls prog 145 #[.pointer (some ⟨C.P,0,none⟩),.string nm,.int .i64 (v 0)] X λe w'=>e=.returned (.tuple #[])/\IS C w' (some q) vI3 vO3 z'/\Tcs (TSi C (some q) vO3) X w') (hF:ExF 213 (.agg #[.string nm,.iface tu xu]) f) (hO:OpC C f (.agg #[.string nm,.iface tu xu]) A us) (hVa : ∀(X:World) (ar:Value),IS C X (some q) vI vO z.sp->LsI C X vO ar A us->Calls prog 144 #[.pointer (some ⟨C.P,0,none⟩),ar] X λx w'=>VaP C X (some q) vO A st v A 2 s1 x w') :
  Calls prog 110 #[.pointer (some ⟨C.P,0,none⟩),.iface 213 (.agg #[.string nm,.iface tu xu])] w λx w'=>StQ C w q vO 0 0 z' x w':=by
 obtain⟨hm,hcf⟩:=hF;obtain⟨W0,M,hW0,hM,hb0,hx0,hM0⟩:=o_box w;have hMw:w.heap.size<=M:=Nat.le_of_eq hM.symm;have hnM : ¬TSi C (some q) vO M:=λhk=>by have:=TSi.lt hC h M hk;omega
 obtain⟨HBu,HOp,H0,HC,HW0,HB0,HM,HX0,HVa⟩:=h9 (burn_yes hC (h.below hC hb0) hu) hO h hC hW0 hb0 hM hx0 hVa;have q_decl:=sa_decl_yes;have HA:=hide hA;clear hA;clear h hC hO hVa hW0 hb0 hM hx0 hu;go_enter func110,ntmps110;go_upto_region 1 with fail;rw[<-HW0.o,<-HM.o];go_wp2_with fail;refine HBu.o.mono ?_;rintro e w1 ⟨rfl,hI1,ht1⟩;obtain⟨HI1,Ht1,HM1,HO1⟩:=h4 hI1 ht1 (HX0.o.tcs hM0 ht1 (λe=>hnM (.inl e))) (HOp.o w1 (some q) vI vO z.sp hI1);clear hI1 ht1 HBu;go_wp2_with fail;refine HO1.o.mono ?_;rintro e w2 ⟨a,cp,rfl,hL,hb2⟩;obtain⟨HV2,Hb2⟩:=h2 (HVa.o w2 _ (HI1.o.below HC.o hb2) hL) hb2;clear hL hb2 HVa HOp HO1;go_wp2_with fail;refine HV2.o.mono ?_;rintro e w3 ⟨vI3,vO3,ht3,ho3,hcase⟩;obtain⟨HtE,HM3,Ho3,Ht3,⟨y0,f0⟩,⟨y1,f1⟩,hs3⟩:=st_aft Ht1 HM1 Hb2 hM0 hnM ht3 ho3;clear ht3 ho3 HV2;obtain⟨bv,cw,rfl,hI3,hbv3,hnv,hc30⟩:=va_one hcase HA;have hI0:Tcs (TEi C vO) w w3:=(HB0.o.tcs (S:=TEi C vO)).trans HtE;have HtW:=hide hI0;clear hcase hI0;obtain⟨W4,hW4⟩ : ∃W4,W4=w3.alloc (.cells #[.string nm,.iface tu xu] 213):=⟨_,rfl⟩;have hb4:Bl w3 W4:=by rw[hW4];exact r_.alloc n_ _
 have hx4:FrC W4 w3.heap.size [.string nm,.iface tu xu]:=by rw[hW4];exact box_fr w3 _ _ (by show 2<=1000;omega)
 obtain⟨B,hB⟩ : ∃B,B=w3.heap.size:=⟨_,rfl⟩;rw[<-hB] at hx4;have hBM:B≠M:=by omega
 have hMB : ¬M=B:=by omega
 have hI4:=hI3.below HC.o hb4;have hm4:=HM3.o.below hb4;obtain⟨Hb4,HX4,HW4,HBe,HI4,HM4⟩:=h6 hb4 hx4 hW4 hB hI4 hm4;clear y0 f0 y1 f1;obtain⟨y0,f0⟩:=hm4 0 _ rfl;obtain⟨y1,f1⟩:=hm4 1 _ rfl;have hbv:bv<W4.heap.size:=l_ hbv3 hb4.size;have hcv0:W4.cell? ⟨bv,0,none⟩=some (.int .i64 (v 0)):=(hb4.cell (p:=⟨bv,0,none⟩) hbv3).trans hc30;clear hc30 hbv3;have hqd:Bl W4 W4.drew:=r_.drew;have hnq : ∀k,TSi C (some q) vO3 k->k<w3.heap.size:=TSi.lt HC.o hI3;have hnB : ¬TSi C (some q) vO3 B:=λe=>by have:=hnq B e;omega
 have hbq:bv≠q:=λe=>by
  have:=var_cell hI4 0
  rw[<-e,hcv0] at this;cases this
 have HSt:Hid (Calls prog 145 #[.pointer (some ⟨C.P,0,none⟩),.string nm,.int .i64 (v 0)] W4.drew λe w'=>e=.returned (.tuple #[])/\(w'.cell? ⟨B,0,none⟩=some (.string nm)/\w'.cell? ⟨bv,0,none⟩=some (.int .i64 (v 0)))/\IS C w' (some q) vI3 vO3 z'/\Tcs (TSi C (some q) vO3) W4.drew w'/\FrC w' M [.int .i64 0,.int .i64 0]):=by
  refine (hset W4.drew vI3 vO3 (hI4.below HC.o hqd) ((HtW.o.of_below Hb4).drew)).mono λe w' hE => ?_;obtain⟨e1,e2,e3⟩:=hE;refine⟨e1,⟨(hx4.tcs (b_ (hx4 0 _ rfl).1) ((Tcs.refl _ _).drew.trans e3) hnB 0 _ rfl).1,?_⟩,e2,e3,hm4.tcs (b_ y0) ((Tcs.refl _ _).drew.trans e3) (not_te (w:=w) (λhk=>by have:=TSi.lt HC.o H0.o _ hk;omega) hnM hM0 Ho3)⟩;refine (c_ (a:=⟨bv,0,none⟩) (e3.block bv hbv (λhk => ?_))).trans hcv0;rcases hk with hk|hk
  ·exact hnv hk
  ·cases hk;exact hbq rfl
 have x0':W4.drew.cell? ⟨B,0,none⟩=some (.string nm):=(hx4 0 _ rfl).1;have hav':W4.drew.cell? ⟨bv,0,none⟩=some (.int .i64 (v 0)):=hcv0;generalize v 0=v0 at HSt hav' hcv0;clear hI3 hI4 hb4 hx4 hW4 hB hm4 hset hqd;go_upto_region 9 with fail;rw[<-HW4.o,<-HBe.o];go_region_held3 (λW=>W.cell? ⟨B,0,none⟩=some (.string nm)/\W.cell? ⟨bv,0,none⟩=some (.int .i64 v0)) (go_simp)
  (first
  | ((with_reducible refine Calls.mono HSt.o ?_);rintro e w5 ⟨rfl,⟨s0,s1⟩,hI5,ht5,hm5⟩;have HI5:=hide hI5;have Ht5:=hide ht5;have HM5:=hide hm5))
 have hT5:Tcs (TSi C (some q) vO) W0 w5:=TSi.next (Ht3.o.of_below Hb4).drew Ht5.o Ho3;have HFn:=hide (stq_fin HC.o hMw H0.o HB0.o hM0 HI5.o hT5 Ho3.o r_ HM5.o 0 0);clear y0 f0 y1 f1 hI5 ht5 hT5 s0 s1;obtain⟨y0,f0⟩:=hm5 0 _ rfl;obtain⟨y1,f1⟩:=hm5 1 _ rfl;clear hm5;go_wp2_with fail;obtain⟨t0,t1,hQ⟩:=HFn;exact bodyPost_ret (v:=.agg #[.int .i64 0,.int .i64 0]) (by simp[results,results110,go_sem,t0,t1]) rfl hQ
theorem st_set {C:IC} (hC:C.Ok) {w:World} {q:Nat} {vI vO:Value} {z:ES} (h:IS C w (some q) vI vO z) (hu:0<z.u) {A:Nat} {f:Nat} {us:Nat->Value} {st:Nat->ES} {v:Nat->Int} {s1:ES} {tu:TypeId} {xu:Value} {nm:ByteArray} (hA:A=1) {z':ES} (hset : ∀(X:World) (vI3 vO3:Value),IS C X (some q) vI3 vO3 (st A)->Tcs (TEi C vO) w X->Calls prog 145 #[.pointer (some ⟨C.P,0,none⟩),.string nm,.int .i64 (v 0)] X λe w'=>e=.returned (.tuple #[])/\IS C w' (some q) vI3 vO3 z'/\Tcs (TSi C (some q) vO3) X w') (hF:ExF 214 (.agg #[.string nm,.iface tu xu]) f) (hO:OpC C f (.agg #[.string nm,.iface tu xu]) A us) (hVa : ∀(X:World) (ar:Value),IS C X (some q) vI vO z.sp->LsI C X vO ar A us->Calls prog 144 #[.pointer (some ⟨C.P,0,none⟩),ar] X λx w'=>VaP C X (some q) vO A st v A 2 s1 x w') :
  Calls prog 110 #[.pointer (some ⟨C.P,0,none⟩),.iface 214 (.agg #[.string nm,.iface tu xu])] w λx w'=>StQ C w q vO 0 0 z' x w':=by
 obtain⟨hm,hcf⟩:=hF;obtain⟨W0,M,hW0,hM,hb0,hx0,hM0⟩:=o_box w;have hMw:w.heap.size<=M:=Nat.le_of_eq hM.symm;have hnM : ¬TSi C (some q) vO M:=λhk=>by have:=TSi.lt hC h M hk;omega
 obtain⟨HBu,HOp,H0,HC,HW0,HB0,HM,HX0,HVa⟩:=h9 (burn_yes hC (h.below hC hb0) hu) hO h hC hW0 hb0 hM hx0 hVa;have q_decl:=λW v=>sa_decl_no W 214 v (by decide);have q_set:=sa_set_yes;have HA:=hide hA;clear hA;clear h hC hO hVa hW0 hb0 hM hx0 hu;go_enter func110,ntmps110;go_upto_region 1 with fail;rw[<-HW0.o,<-HM.o];go_wp2_with fail;refine HBu.o.mono ?_;rintro e w1 ⟨rfl,hI1,ht1⟩;obtain⟨HI1,Ht1,HM1,HO1⟩:=h4 hI1 ht1 (HX0.o.tcs hM0 ht1 (λe=>hnM (.inl e))) (HOp.o w1 (some q) vI vO z.sp hI1);clear hI1 ht1 HBu;go_wp2_with fail;refine HO1.o.mono ?_;rintro e w2 ⟨a,cp,rfl,hL,hb2⟩;obtain⟨HV2,Hb2⟩:=h2 (HVa.o w2 _ (HI1.o.below HC.o hb2) hL) hb2;clear hL hb2 HVa HOp HO1;go_wp2_with fail;refine HV2.o.mono ?_;rintro e w3 ⟨vI3,vO3,ht3,ho3,hcase⟩;obtain⟨HtE,HM3,Ho3,Ht3,⟨y0,f0⟩,⟨y1,f1⟩,hs3⟩:=st_aft Ht1 HM1 Hb2 hM0 hnM ht3 ho3;clear ht3 ho3 HV2;obtain⟨bv,cw,rfl,hI3,hbv3,hnv,hc30⟩:=va_one hcase HA;have hI0:Tcs (TEi C vO) w w3:=(HB0.o.tcs (S:=TEi C vO)).trans HtE;have HtW:=hide hI0;clear hcase hI0;obtain⟨W4,hW4⟩ : ∃W4,W4=w3.alloc (.cells #[.string nm,.iface tu xu] 214):=⟨_,rfl⟩;have hb4:Bl w3 W4:=by rw[hW4];exact r_.alloc n_ _
 have hx4:FrC W4 w3.heap.size [.string nm,.iface tu xu]:=by rw[hW4];exact box_fr w3 _ _ (by show 2<=1000;omega)
 obtain⟨B,hB⟩ : ∃B,B=w3.heap.size:=⟨_,rfl⟩;rw[<-hB] at hx4;have hBM:B≠M:=by omega
 have hMB : ¬M=B:=by omega
 have hI4:=hI3.below HC.o hb4;have hm4:=HM3.o.below hb4;obtain⟨Hb4,HX4,HW4,HBe,HI4,HM4⟩:=h6 hb4 hx4 hW4 hB hI4 hm4;clear y0 f0 y1 f1;obtain⟨y0,f0⟩:=hm4 0 _ rfl;obtain⟨y1,f1⟩:=hm4 1 _ rfl;have hbv:bv<W4.heap.size:=l_ hbv3 hb4.size;have hcv0:W4.cell? ⟨bv,0,none⟩=some (.int .i64 (v 0)):=(hb4.cell (p:=⟨bv,0,none⟩) hbv3).trans hc30;clear hc30 hbv3;have hqd:Bl W4 W4.drew:=r_.drew;have hnq : ∀k,TSi C (some q) vO3 k->k<w3.heap.size:=TSi.lt HC.o hI3;have hnB : ¬TSi C (some q) vO3 B:=λe=>by have:=hnq B e;omega
 have hbq:bv≠q:=λe=>by
  have:=var_cell hI4 0
  rw[<-e,hcv0] at this;cases this
 have HSt:Hid (Calls prog 145 #[.pointer (some ⟨C.P,0,none⟩),.string nm,.int .i64 (v 0)] W4.drew λe w'=>e=.returned (.tuple #[])/\(w'.cell? ⟨B,0,none⟩=some (.string nm)/\w'.cell? ⟨bv,0,none⟩=some (.int .i64 (v 0)))/\IS C w' (some q) vI3 vO3 z'/\Tcs (TSi C (some q) vO3) W4.drew w'/\FrC w' M [.int .i64 0,.int .i64 0]):=by
  refine (hset W4.drew vI3 vO3 (hI4.below HC.o hqd) ((HtW.o.of_below Hb4).drew)).mono λe w' hE => ?_;obtain⟨e1,e2,e3⟩:=hE;refine⟨e1,⟨(hx4.tcs (b_ (hx4 0 _ rfl).1) ((Tcs.refl _ _).drew.trans e3) hnB 0 _ rfl).1,?_⟩,e2,e3,hm4.tcs (b_ y0) ((Tcs.refl _ _).drew.trans e3) (not_te (w:=w) (λhk=>by have:=TSi.lt HC.o H0.o _ hk;omega) hnM hM0 Ho3)⟩;refine (c_ (a:=⟨bv,0,none⟩) (e3.block bv hbv (λhk => ?_))).trans hcv0;rcases hk with hk|hk
  ·exact hnv hk
  ·cases hk;exact hbq rfl
 have x0':W4.drew.cell? ⟨B,0,none⟩=some (.string nm):=(hx4 0 _ rfl).1;have hav':W4.drew.cell? ⟨bv,0,none⟩=some (.int .i64 (v 0)):=hcv0;generalize v 0=v0 at HSt hav' hcv0;clear hI3 hI4 hb4 hx4 hW4 hB hm4 hset hqd;go_upto_region 12 with fail;rw[<-HW4.o,<-HBe.o];go_region_held3 (λW=>W.cell? ⟨B,0,none⟩=some (.string nm)/\W.cell? ⟨bv,0,none⟩=some (.int .i64 v0)) (go_simp)
  (first
  | ((with_reducible refine Calls.mono HSt.o ?_);rintro e w5 ⟨rfl,⟨s0,s1⟩,hI5,ht5,hm5⟩;have HI5:=hide hI5;have Ht5:=hide ht5;have HM5:=hide hm5))
 have hT5:Tcs (TSi C (some q) vO) W0 w5:=TSi.next (Ht3.o.of_below Hb4).drew Ht5.o Ho3;have HFn:=hide (stq_fin HC.o hMw H0.o HB0.o hM0 HI5.o hT5 Ho3.o r_ HM5.o 0 0);clear y0 f0 y1 f1 hI5 ht5 hT5 s0 s1;obtain⟨y0,f0⟩:=hm5 0 _ rfl;obtain⟨y1,f1⟩:=hm5 1 _ rfl;clear hm5;go_wp2_with fail;obtain⟨t0,t1,hQ⟩:=HFn;exact bodyPost_ret (v:=.agg #[.int .i64 0,.int .i64 0]) (by simp[results,results110,go_sem,t0,t1]) rfl hQ
theorem st_store {C:IC} (hC:C.Ok) {w:World} {q:Nat} {vI vO:Value} {z:ES} (h:IS C w (some q) vI vO z) (hu:0<z.u) {A:Nat} {f:Nat} {us:Nat->Value} {st:Nat->ES} {v:Nat->Int} {s1:ES} {tu:TypeId} {xu:Value} {tv:TypeId} {xv:Value} {nm:ByteArray} (hA:A=2) (hz:nm.size<=maxLen) {k:Nat} (hk:k<C.t.globals.length) (hg:gix C.t.globals nm=some k) (hv:0<=v 0/\v 0<((st A).ws C.t nm).length) (hv1:inB (v 1)) (hF:ExF 216 (.agg #[.string nm,.iface tu xu,.iface tv xv]) f) (hO:OpC C f (.agg #[.string nm,.iface tu xu,.iface tv xv]) A us) (hVa : ∀(X:World) (ar:Value),IS C X (some q) vI vO z.sp->LsI C X vO ar A us->Calls prog 144 #[.pointer (some ⟨C.P,0,none⟩),ar] X λx w'=>VaP C X (some q) vO A st v A 2 s1 x w') :
  Calls prog 110 #[.pointer (some ⟨C.P,0,none⟩),.iface 216 (.agg #[.string nm,.iface tu xu,.iface tv xv])] w λx w'=>StQ C w q vO 0 0 {st A with g:=(st A).g.set k (((st A).g.getD k []).set (v 0).toNat (v 1))} x w':=by
 obtain⟨hm,hcf⟩:=hF;obtain⟨W0,M,hW0,hM,hb0,hx0,hM0⟩:=o_box w;have hMw:w.heap.size<=M:=Nat.le_of_eq hM.symm;have hnM : ¬TSi C (some q) vO M:=λhk=>by have:=TSi.lt hC h M hk;omega
 obtain⟨HBu,HOp,H0,HC,HW0,HB0,HM,HX0,HVa⟩:=h9 (burn_yes hC (h.below hC hb0) hu) hO h hC hW0 hb0 hM hx0 hVa;have q_decl:=λW v=>sa_decl_no W 216 v (by decide);have q_set:=λW v=>sa_set_no W 216 v (by decide);have q_store:=sa_store_yes;have HA:=hide hA;clear hA;clear h hC hO hVa hW0 hb0 hM hx0 hu;go_enter func110,ntmps110;go_upto_region 1 with fail;rw[<-HW0.o,<-HM.o];go_wp2_with fail;refine HBu.o.mono ?_;rintro e w1 ⟨rfl,hI1,ht1⟩;obtain⟨HI1,Ht1,HM1,HO1⟩:=h4 hI1 ht1 (HX0.o.tcs hM0 ht1 (λe=>hnM (.inl e))) (HOp.o w1 (some q) vI vO z.sp hI1);clear hI1 ht1 HBu;go_wp2_with fail;refine HO1.o.mono ?_;rintro e w2 ⟨a,cp,rfl,hL,hb2⟩;obtain⟨HV2,Hb2⟩:=h2 (HVa.o w2 _ (HI1.o.below HC.o hb2) hL) hb2;clear hL hb2 HVa HOp HO1;go_wp2_with fail;refine HV2.o.mono ?_;rintro e w3 ⟨vI3,vO3,ht3,ho3,hcase⟩;obtain⟨HtE,HM3,Ho3,Ht3,⟨y0,f0⟩,⟨y1,f1⟩,hs3⟩:=st_aft Ht1 HM1 Hb2 hM0 hnM ht3 ho3;clear ht3 ho3 HV2;obtain⟨bv,cw,rfl,hI3,hbv3,hnv,hc30,hc31⟩:=va_two hcase HA;have hI0:Tcs (TEi C vO) w w3:=(HB0.o.tcs (S:=TEi C vO)).trans HtE;clear hcase hI0;obtain⟨W4,hW4⟩ : ∃W4,W4=w3.alloc (.cells #[.string nm,.iface tu xu,.iface tv xv] 216):=⟨_,rfl⟩;have hb4:Bl w3 W4:=by rw[hW4];exact r_.alloc n_ _
 have hx4:FrC W4 w3.heap.size [.string nm,.iface tu xu,.iface tv xv]:=by rw[hW4];exact box_fr w3 _ _ (by show 3<=1000;omega)
 obtain⟨B,hB⟩ : ∃B,B=w3.heap.size:=⟨_,rfl⟩;rw[<-hB] at hx4;have hBM:B≠M:=by omega
 have hMB : ¬M=B:=by omega
 have hI4:=hI3.below HC.o hb4;have hm4:=HM3.o.below hb4;obtain⟨Hb4,HX4,HW4,HBe,HI4,HM4⟩:=h6 hb4 hx4 hW4 hB hI4 hm4;clear y0 f0 y1 f1;obtain⟨y0,f0⟩:=hm4 0 _ rfl;obtain⟨y1,f1⟩:=hm4 1 _ rfl;have hbv:bv<W4.heap.size:=l_ hbv3 hb4.size;have hcv0:W4.cell? ⟨bv,0,none⟩=some (.int .i64 (v 0)):=(hb4.cell (p:=⟨bv,0,none⟩) hbv3).trans hc30;have hcv1:W4.cell? ⟨bv,1,none⟩=some (.int .i64 (v 1)):=(hb4.cell (p:=⟨bv,1,none⟩) hbv3).trans hc31;clear hc30 hc31 hbv3;have hws:(st A).ws C.t nm=(st A).g.getD k []:=by unfold ES.ws;rw[hg]
 rw[hws] at hv;obtain⟨b,hb,hbm,hlen,hf⟩:=HI4.o.word HC.o hk;have hqd:Bl W4 W4.drew:=r_.drew;have hE:Calls prog 146 #[.pointer (some ⟨C.P,0,none⟩),.string nm,.int .i64 (v 0)] W4.drew λe w'=>e=.returned (.pointer (some ⟨b,(v 0).toNat,none⟩))/\w'=W4.drew:=by
  have:=elem_in HC.o (HI4.o.below HC.o hqd) hz hk hg (v:=v 0) (by rw[<-hlen];exact hv)
  rw[hb] at this;exact this
 have HE:=hide hE;have hI5:=HI4.o.gset HC.o hk (j:=(v 0).toNat) (by have:=hv.1;have:=hv.2;omega) hv1;rw[hb] at hI5;obtain⟨c0,hc,hfz⟩ : ∃c0,W4.drew.cell? ⟨b,(v 0).toNat,none⟩=some c0/\W4.drew.frozen? ⟨b,(v 0).toNat,none⟩=false:=⟨_,hf (v 0).toNat (.int .i64 (((st A).g.getD k []).getD (v 0).toNat 0)) (by
  generalize (st A).g.getD k []=ws at hv ⊢;rw[List.getElem?_map,List.getElem?_eq_getElem o_];simp[List.getD,show (v 0).toNat<ws.length by omega])⟩
 have hbM:b≠M:=λe=>by have:=TSi.lt HC.o H0.o b (.inl (.inr (.inl hbm)));omega
 have hT5:Tcs (TSi C (some q) vO) W0 (W4.setCell ⟨b,(v 0).toNat,none⟩ (.int .i64 (v 1))):=(Ht3.o.of_below Hb4).setCell (p:=⟨b,(v 0).toNat,none⟩) (.inl (.inr (.inl hbm))) _;have hm5:FrC (W4.setCell ⟨b,(v 0).toNat,none⟩ (.int .i64 (v 1))) M [.int .i64 0,.int .i64 0]:=hm4.tcs (b_ y0) ((Tcs.refl (λk=>k=b) W4).setCell (p:=⟨b,(v 0).toNat,none⟩) rfl _) (λe=>hbM e.symm);have HFn:=hide (stq_fin HC.o hMw H0.o HB0.o hM0 hI5 hT5 Ho3.o r_ hm5 0 0);clear hE hI3 hI4 hb4 hx4 hW4 hB hm4 hqd hI5 hT5 hm5 hf hlen hws hv hv1;generalize hv0:v 0=v0 at *;generalize hv1:v 1=v1 at *;generalize hj0:v0.toNat=j at *;obtain⟨HV0,HV1,HJ0⟩:=h3 hv0 hv1 hj0;clear hv0 hv1 hj0;have x0':W4.drew.cell? ⟨B,0,none⟩=some (.string nm):=(HX4.o 0 _ rfl).1;have hav':W4.drew.cell? ⟨bv,0,none⟩=some (.int .i64 v0):=hcv0;have hav1:W4.drew.cell? ⟨bv,1,none⟩=some (.int .i64 v1):=hcv1;go_upto_region 15 with fail;rw[<-HW4.o,<-HBe.o];go_region_held3 (λW=>W.cell? ⟨B,0,none⟩=some (.string nm)/\W.cell? ⟨bv,0,none⟩=some (.int .i64 v0)) (go_simp)
  (first
  | ((with_reducible refine Calls.mono HE.o ?_);rintro e w5 ⟨rfl,rfl⟩))
 go_wp2_with fail;obtain⟨t0,t1,hQ⟩:=HFn;refine bodyPost_ret (v:=.agg #[.int .i64 0,.int .i64 0]) (by simp[results,results110,go_sem,t0,t1]) rfl ?_;rw[HV0.o,HV1.o,HJ0.o];exact hQ.drew HC
theorem st_storeN {C:IC} (hC:C.Ok) {w:World} {q:Nat} {vI vO:Value} {z:ES} (h:IS C w (some q) vI vO z) (hu:0<z.u) {A:Nat} {f:Nat} {us:Nat->Value} {st:Nat->ES} {v:Nat->Int} {s1:ES} {tu:TypeId} {xu:Value} {tv:TypeId} {xv:Value} {nm:ByteArray} (hA:A=2) (hz:nm.size<=maxLen) {k:Nat} (hk:k<C.t.globals.length) (hg:gix C.t.globals nm=some k) (hv : ¬(0<=v 0/\v 0<((st A).ws C.t nm).length)) (hF:ExF 216 (.agg #[.string nm,.iface tu xu,.iface tv xv]) f) (hO:OpC C f (.agg #[.string nm,.iface tu xu,.iface tv xv]) A us) (hVa : ∀(X:World) (ar:Value),IS C X (some q) vI vO z.sp->LsI C X vO ar A us->Calls prog 144 #[.pointer (some ⟨C.P,0,none⟩),ar] X λx w'=>VaP C X (some q) vO A st v A 2 s1 x w') :
  Calls prog 110 #[.pointer (some ⟨C.P,0,none⟩),.iface 216 (.agg #[.string nm,.iface tu xu,.iface tv xv])] w λx w'=>StQ C w q vO 4 0 (st A) x w':=by
 obtain⟨hm,hcf⟩:=hF;obtain⟨W0,M,hW0,hM,hb0,hx0,hM0⟩:=o_box w;have hMw:w.heap.size<=M:=Nat.le_of_eq hM.symm;have hnM : ¬TSi C (some q) vO M:=λhk=>by have:=TSi.lt hC h M hk;omega
 obtain⟨HBu,HOp,H0,HC,HW0,HB0,HM,HX0,HVa⟩:=h9 (burn_yes hC (h.below hC hb0) hu) hO h hC hW0 hb0 hM hx0 hVa;have q_decl:=λW v=>sa_decl_no W 216 v (by decide);have q_set:=λW v=>sa_set_no W 216 v (by decide);have q_store:=sa_store_yes;have HA:=hide hA;clear hA;clear h hC hO hVa hW0 hb0 hM hx0 hu;go_enter func110,ntmps110;go_upto_region 1 with fail;rw[<-HW0.o,<-HM.o];go_wp2_with fail;refine HBu.o.mono ?_;rintro e w1 ⟨rfl,hI1,ht1⟩;obtain⟨HI1,Ht1,HM1,HO1⟩:=h4 hI1 ht1 (HX0.o.tcs hM0 ht1 (λe=>hnM (.inl e))) (HOp.o w1 (some q) vI vO z.sp hI1);clear hI1 ht1 HBu;go_wp2_with fail;refine HO1.o.mono ?_;rintro e w2 ⟨a,cp,rfl,hL,hb2⟩;obtain⟨HV2,Hb2⟩:=h2 (HVa.o w2 _ (HI1.o.below HC.o hb2) hL) hb2;clear hL hb2 HVa HOp HO1;go_wp2_with fail;refine HV2.o.mono ?_;rintro e w3 ⟨vI3,vO3,ht3,ho3,hcase⟩;obtain⟨HtE,HM3,Ho3,Ht3,⟨y0,f0⟩,⟨y1,f1⟩,hs3⟩:=st_aft Ht1 HM1 Hb2 hM0 hnM ht3 ho3;clear ht3 ho3 HV2;obtain⟨bv,cw,rfl,hI3,hbv3,hnv,hc30,hc31⟩:=va_two hcase HA;have HI3:=hide hI3;have hI0:Tcs (TEi C vO) w w3:=(HB0.o.tcs (S:=TEi C vO)).trans HtE;clear hcase hI0;obtain⟨W4,hW4⟩ : ∃W4,W4=w3.alloc (.cells #[.string nm,.iface tu xu,.iface tv xv] 216):=⟨_,rfl⟩;have hb4:Bl w3 W4:=by rw[hW4];exact r_.alloc n_ _
 have hx4:FrC W4 w3.heap.size [.string nm,.iface tu xu,.iface tv xv]:=by rw[hW4];exact box_fr w3 _ _ (by show 3<=1000;omega)
 obtain⟨B,hB⟩ : ∃B,B=w3.heap.size:=⟨_,rfl⟩;rw[<-hB] at hx4;have hBM:B≠M:=by omega
 have hMB : ¬M=B:=by omega
 have hI4:=hI3.below HC.o hb4;have hm4:=HM3.o.below hb4;obtain⟨Hb4,HX4,HW4,HBe,HI4,HM4⟩:=h6 hb4 hx4 hW4 hB hI4 hm4;clear y0 f0 y1 f1;obtain⟨y0,f0⟩:=hm4 0 _ rfl;obtain⟨y1,f1⟩:=hm4 1 _ rfl;have hbv:bv<W4.heap.size:=l_ hbv3 hb4.size;have hcv0:W4.cell? ⟨bv,0,none⟩=some (.int .i64 (v 0)):=(hb4.cell (p:=⟨bv,0,none⟩) hbv3).trans hc30;have hcv1:W4.cell? ⟨bv,1,none⟩=some (.int .i64 (v 1)):=(hb4.cell (p:=⟨bv,1,none⟩) hbv3).trans hc31;clear hc30 hc31 hbv3;have hws:(st A).ws C.t nm=(st A).g.getD k []:=by unfold ES.ws;rw[hg]
 rw[hws] at hv;obtain⟨b,hb,hbm,hlen,hf⟩:=HI4.o.word HC.o hk;have hqd:Bl W4 W4.drew:=r_.drew;obtain⟨HE,HFn⟩:=h2 (elem_out HC.o (HI4.o.below HC.o hqd) hz hk hg (v:=v 0) (by rw[<-hlen];exact hv)) (stq_fin HC.o hMw H0.o HB0.o hM0 HI3.o Ht3.o Ho3.o Hb4.o hm4 4 0);clear hI3 hI4 hb4 hx4 hW4 hB hm4 hqd hf hlen hws hv;generalize v 0=v0 at *;generalize v 1=v1 at *;have x0':W4.drew.cell? ⟨B,0,none⟩=some (.string nm):=(HX4.o 0 _ rfl).1;have hav':W4.drew.cell? ⟨bv,0,none⟩=some (.int .i64 v0):=hcv0;have hav1:W4.drew.cell? ⟨bv,1,none⟩=some (.int .i64 v1):=hcv1;go_upto_region 15 with fail;rw[<-HW4.o,<-HBe.o];go_region_held3 (λW=>W.cell? ⟨B,0,none⟩=some (.string nm)/\W.cell? ⟨bv,0,none⟩=some (.int .i64 v0)) (go_simp)
  (first
  | ((with_reducible refine Calls.mono HE.o ?_);rintro e w5 ⟨rfl,rfl⟩))
 go_wp2_with fail;obtain⟨t0,t1,hQ⟩:=HFn;exact bodyPost_ret (v:=.agg #[.int .i64 4,.int .i64 0]) (by simp[results,results110,go_sem,t0,t1]) rfl (hQ.drew HC)
theorem st_ifT {C:IC} (hC:C.Ok) {w:World} {q:Nat} {vI vO:Value} {z:ES} (h:IS C w (some q) vI vO z) (hu:0<z.u) {A:Nat} {f:Nat} {us:Nat->Value} {st:Nat->ES} {v:Nat->Int} {s1:ES} {tu:TypeId} {xu:Value} {a1 a2:Option Addr} {n1 c1 n2 c2:Nat} (hA:A=1) {ec vc:Int} {z':ES} (hv:v 0≠0) (hbl : ∀(X:World) (vI3 vO3:Value),IS C X (some q) vI3 vO3 (st A)->Calls prog 70 #[.pointer (some ⟨C.P,0,none⟩),.slice a1 n1 c1] X λx w'=>StQ C X q vO3 ec vc z' x w') (hF:ExF 218 (.agg #[.iface tu xu,.slice a1 n1 c1,.slice a2 n2 c2]) f) (hO:OpC C f (.agg #[.iface tu xu,.slice a1 n1 c1,.slice a2 n2 c2]) A us) (hVa : ∀(X:World) (ar:Value),IS C X (some q) vI vO z.sp->LsI C X vO ar A us->Calls prog 144 #[.pointer (some ⟨C.P,0,none⟩),ar] X λx w'=>VaP C X (some q) vO A st v A 2 s1 x w') :
  Calls prog 110 #[.pointer (some ⟨C.P,0,none⟩),.iface 218 (.agg #[.iface tu xu,.slice a1 n1 c1,.slice a2 n2 c2])] w λx w'=>StQ C w q vO ec vc z' x w':=by
 obtain⟨hm,hcf⟩:=hF;obtain⟨W0,M,hW0,hM,hb0,hx0,hM0⟩:=o_box w;have hMw:w.heap.size<=M:=Nat.le_of_eq hM.symm;have hnM : ¬TSi C (some q) vO M:=λhk=>by have:=TSi.lt hC h M hk;omega
 obtain⟨HBu,HOp,H0,HC,HW0,HB0,HM,HX0,HVa⟩:=h9 (burn_yes hC (h.below hC hb0) hu) hO h hC hW0 hb0 hM hx0 hVa;have q_decl:=λW v=>sa_decl_no W 218 v (by decide);have q_set:=λW v=>sa_set_no W 218 v (by decide);have q_store:=λW v=>sa_store_no W 218 v (by decide);have q_if:=sa_if_yes;have HA:=hide hA;clear hA;clear h hC hO hVa hW0 hb0 hM hx0 hu;go_enter func110,ntmps110;go_upto_region 1 with fail;rw[<-HW0.o,<-HM.o];go_wp2_with fail;refine HBu.o.mono ?_;rintro e w1 ⟨rfl,hI1,ht1⟩;obtain⟨HI1,Ht1,HM1,HO1⟩:=h4 hI1 ht1 (HX0.o.tcs hM0 ht1 (λe=>hnM (.inl e))) (HOp w1 (some q) vI vO z.sp hI1);clear hI1 ht1 HBu;go_wp2_with fail;refine HO1.o.mono ?_;rintro e w2 ⟨a,cp,rfl,hL,hb2⟩;obtain⟨HV2,Hb2⟩:=h2 (HVa w2 _ (HI1.o.below HC hb2) hL) hb2;clear hL hb2 HVa HOp HO1;go_wp2_with fail;refine HV2.o.mono ?_;rintro e w3 ⟨vI3,vO3,ht3,ho3,hcase⟩;obtain⟨HtE,HM3,Ho3,Ht3,⟨y0,f0⟩,⟨y1,f1⟩,hs3⟩:=st_aft Ht1 HM1 Hb2 hM0 hnM ht3 ho3;clear ht3 ho3 HV2;obtain⟨bv,cw,rfl,hI3,hbv3,hnv,hc30⟩:=va_one hcase HA;have hI0:Tcs (TEi C vO) w w3:=(HB0.o.tcs (S:=TEi C vO)).trans HtE;clear hcase hI0;obtain⟨W4,hW4⟩ : ∃W4,W4=w3.alloc (.cells #[.iface tu xu,.slice a1 n1 c1,.slice a2 n2 c2] 218):=⟨_,rfl⟩;have hb4:Bl w3 W4:=by rw[hW4];exact r_.alloc n_ _
 have hx4:FrC W4 w3.heap.size [.iface tu xu,.slice a1 n1 c1,.slice a2 n2 c2]:=by rw[hW4];exact box_fr w3 _ _ (by show 3<=1000;omega)
 obtain⟨B,hB⟩ : ∃B,B=w3.heap.size:=⟨_,rfl⟩;rw[<-hB] at hx4;have hBM:B≠M:=by omega
 have hMB : ¬M=B:=by omega
 have hI4:=hI3.below HC hb4;have hm4:=HM3.o.below hb4;obtain⟨Hb4,HX4,HW4,HBe,HI4,HM4⟩:=h6 hb4 hx4 hW4 hB hI4 hm4;clear y0 f0 y1 f1;obtain⟨y0,f0⟩:=hm4 0 _ rfl;obtain⟨y1,f1⟩:=hm4 1 _ rfl;have hbv:bv<W4.heap.size:=l_ hbv3 hb4.size;have hcv0:W4.cell? ⟨bv,0,none⟩=some (.int .i64 (v 0)):=(hb4.cell (p:=⟨bv,0,none⟩) hbv3).trans hc30;clear hc30 hbv3;have HBl:=hide (hbl W4 vI3 vO3 hI4);have hnM3 : ¬TSi C (some q) vO3 M:=not_te (w:=w) (λhk=>by have:=TSi.lt HC.o H0.o _ hk;omega) hnM hM0 Ho3;have HT4:=hide (Ht3.o.of_below Hb4);have hs4:M<W4.heap.size:=b_ y0;have x0:=(HX4 0 _ rfl).1;have x1:=(HX4 1 _ rfl).1;generalize hv0:v 0=v0 at hv hcv0;clear hbl hI3 hI4 hb4 hx4 hW4 hB hm4 hv0 y0 f0 y1 f1;have x2:=(HX4 2 _ rfl).1;have hv':(v0 != 0)=true:=by simpa using hv
 clear hv;go_upto_region 21 with fail;rw[<-HW4.o,<-HBe.o];go_wp2_with fail;refine HBl.o.mono ?_;rintro e w5 ⟨vI5,vO5,rfl,hI5,ht5,ho5⟩;have hm5:=HM4.o.tcs hs4 ht5 hnM3;have hT5:=TSi.next HT4 ht5 Ho3;have HFn:=hide (stq_fin HC hMw H0 HB0 hM0 hI5 hT5 (λk hk=>by
  rcases ho5 k hk with h1|h1
  ·exact Ho3 k h1
  ·exact .inr (t_ (t_ hs3 Hb4.o.size) h1)) r_ hm5 ec vc)
 obtain⟨y0,f0⟩:=hm5 0 _ rfl;obtain⟨y1,f1⟩:=hm5 1 _ rfl;clear hI5 ht5 ho5 hm5 hT5;go_wp2_with fail;obtain⟨t0,t1,hQ⟩:=HFn;exact bodyPost_ret (v:=.agg #[.int .i64 ec,.int .i64 vc]) (by simp[results,results110,go_sem,t0,t1]) rfl hQ
end Go.Proofs.YtffnkkpmlplfeaaGreatDoor
