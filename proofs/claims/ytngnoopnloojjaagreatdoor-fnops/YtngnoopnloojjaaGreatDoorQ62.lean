import Derived.Test.YtngnoopnloojjaaGreatDoorQ07
import Derived.Test.YtngnoopnloojjaaGreatDoorQ17
import Derived.Test.YtngnoopnloojjaaGreatDoorQ31
import Derived.WalkLawsBesides
namespace Go.Proofs.YtngnoopnloojjaaGreatDoor
open Go.World List
open Go.Proofs.Tryz Go.RowKit
set_option linter.all false
set_option maxRecDepth 100000
set_option maxHeartbeats 0
variable[Inhabited Pick]
section
variable{w w':AT}{b:Nat}{l:List UInt8}
def Fp(b o j:Nat):(⟨b,o,none⟩:Addr).add j=⟨b,o+j,none⟩:=by simp[Addr.add]
def zo(w:AT)(b:Nat)(l:List UInt8):Prop:=∀j (hj:j<l.length),w.cell? ⟨b,j,none⟩=some (.int .u8 (cI l[j]))
def zo.below(h:zo w b l){n:Nat}(hb:Below n w w')(hn:b<n):zo w' b l:=λj hj=>(c_ (a:=⟨b,j,none⟩) (hb.block b hn)).trans (h j hj)
def zo.tcs{S:DO}(h:zo w b l)(ht:aA S w w')(hb:b<w.heap.size)(hn:¬S b):zo w' b l:=λj hj=>(c_ (a:=⟨b,j,none⟩) (ht.block b hb hn)).trans (h j hj)
def qg(b n cap h:Nat)(h2:h<=n)(h3:n<=cap):∀w:AT,(Instr.slice 22 (rV b n cap) (some (V h)) none none).run prog w=.ok (.slice (some ⟨b,if cap=h then 0 else h,none⟩) (n-h) (cap-h)) w:=by intro w;have H:prog.elem 22=5:=k_;have I:(sizeOf 5).run prog w=.ok 1 w:=k_;rw[run_slice_l w 22 _ n cap (by rw[H];exact underlying22) .i64 _ o_ o_,H,I];simp only[Result.andThen,sliced,Int.toNat_natCast];split <;> simp[Addr.add] <;> omega
end
def gE:List BY:=mJ.flatMap λr=>[sV (tx r.1),V r.2.1,V r.2.2.1,V r.2.2.2]
structure RC where
 P:Nat
 bX:Nat
 cX:Nat
 B0:Nat
 K:Nat
 l:List UInt8
structure TV where
 vg:BY
 vf:BY
 nz:Bool
def RC.box(C:RC)(pos kd:Int)(tt:IF)(vl pl:Int)(m:TV)(op:Int):List BY:=[rV C.bX C.l.length C.cX,V pos,V kd,sV tt,V vl,V pl,m.vg,m.vf,V op,.bool m.nz]
structure Dv (C:RC):Prop where
 lo:C.bX<C.B0
 hi:C.B0<=C.P
 gb:8<C.B0
 ge:5<C.B0
 len:C.l.length<=20000
 cap:C.l.length<=C.cX
 las:OE (ak C.l) C.K
def Dw(w:AT):Prop:=∃ev,w.cell? ⟨5,0,none⟩=some ev/\(ev=.nilIface\/∃te pe,ev=.iface te pe)
def Dw.tcs{S:DO}{w w':AT}(h:Dw w)(O:aA S w w')(J:¬S 5):Dw w':=by obtain⟨I,H,h2⟩:=h;exact⟨I,(c_ (a:=⟨5,0,none⟩) (O.block 5 (b_ H) J)).trans H,h2⟩
structure mt (C:RC) (w:AT) (pos kd:Int) (tt:IF) (vl pl:Int) (m:TV) (op:Int):Prop where
 box:dN w C.P (C.box pos kd tt vl pl m op)
 txt:zo w C.bX C.l
 bt:w.rangeAt 8 0 gE
 er:Dw w
 rl:C.P+1<w.heap.size
def mt.lt{C:RC}{w:AT}{pos kd:Int}{tt:IF}{vl pl:Int}{m:TV}{op:Int}(h:mt C w pos kd tt vl pl m op):C.P+1<w.heap.size:=h.rl
def mt.tcs{C:RC}{S:DO}{w w':AT}{Ja U:Int}{tt:IF}{O pl:Int}{m:TV}{op:Int}(I:Dv C)(h:mt C w Ja U tt O pl m op)(H:aA S w w')(X:¬S C.P)(J:∀k,S k->C.B0<=k):mt C w' Ja U tt O pl m op:=by have Z:=h.lt;have hB:=I.hi;have hx:=I.lo;have Y:=I.gb;exact⟨h.box.tcs o_ H X,h.txt.tcs H o_ (λs=>Ft (J _ s)),λj v hv=>(c_ (a:=⟨8,0+j,none⟩) (H.block 8 o_ (λs=>Ft (J _ s)))).trans (h.bt j v hv),h.er.tcs H (λs=>Ht (J _ s) I.ge),l_ h.rl H.size⟩
def mt.below{C:RC}{w w':AT}{pos kd:Int}{tt:IF}{vl pl:Int}{m:TV}{op:Int}(hC:Dv C)(h:mt C w pos kd tt vl pl m op)(hb:Bl w w'):mt C w' pos kd tt vl pl m op:=h.tcs hC (S:=λ_=>False) hb.tcs (λh=>h) (λ_ h=>h.elim)
def mt.put{C:RC}{w:AT}{Ja O:Int}{tt:IF}{U pl:Int}{m:TV}{op:Int}{pos' kd':Int}{tt':IF}{vl' pl':Int}{m':TV}{op':Int}(I:Dv C)(h:mt C w Ja O tt U pl m op)(i:Nat)(u:BY)(X:(C.box Ja O tt U pl m op).set i u=C.box pos' kd' tt' vl' pl' m' op'):
  mt C (w.setCell ⟨C.P,i,none⟩ u) pos' kd' tt' vl' pl' m' op'/\aA (λk=>k=C.P) w (w.setCell ⟨C.P,i,none⟩ u):=by
 have H:aA (λk=>k=C.P) w (w.setCell ⟨C.P,i,none⟩ u):=(aA.refl (λk=>k=C.P) w).setCell (p:=⟨C.P,i,none⟩) rfl u;have J:=h.box.set i u;rw[X]at J;have Y:=h.lt;have Z:=I.hi;have hx:=I.lo;have hg:=I.gb;exact⟨⟨J,h.txt.tcs H o_ o_,λj v hv=>(c_ (a:=⟨8,0+j,none⟩) (H.block 8 o_ o_)).trans (h.bt j v hv),h.er.tcs H (Ft I.ge),l_ h.rl H.size⟩,H⟩
structure cG (C:RC) (m:TV) (w:AT) (s:PS):Prop where
 ok:Dv C
 al:¬ls (ak C.l) s
 wf:s.i<=C.K
 op:0<=s.op/\s.op<=30
 bx:∃tt vl,mt C w (lN C.l (s.i+1):Int) (fQ (ak C.l s.i)) tt vl ((ak C.l s.i).pl:Int) m s.op/\(fQ (ak C.l s.i)=1\/fQ (ak C.l s.i)=3->tt=(ak C.l s.i).text)/\((ak C.l s.i).kd=2->vl=(ak C.l s.i).num)
def aK(x:Int×Int):Ending:=.panicked [{v:=.iface 117 (.agg #[V x.1,V x.2]),recovered:=false}]
def Kp(C:RC)(w w':AT):Prop:=aA (λk=>C.B0<=k/\k≠C.P+1) w w'
def Kp.refl(C:RC)(w:AT):Kp C w w:=aA.refl _ _
def Kp.trans{C:RC}{w w1 w2:AT}(h:Kp C w w1)(h':Kp C w1 w2):Kp C w w2:=aA.trans h h'
def Kp.low{C:RC}{w w':AT}(h:Kp C w w')(hl:C.B0<=w.heap.size):Below C.B0 w w':=aA.below h r_ hl (λk hk=>hk.1)
def Kp.of{C:RC}{w w':AT}(h:Bl w w'):Kp C w w':=h.tcs
def rh(C:RC)(w:AT)(z:PS)(e:Ending)(w':AT):Prop:=ls (ak C.l) z/\e=aK (qL (ak C.l) z)/\Kp C w w'
def cG.lt{C:RC}{m:TV}{w:AT}{s:PS}(h:cG C m w s):C.P+1<w.heap.size:=by obtain⟨I,vl,H,-⟩:=h.bx;exact H.lt
def cG.tcs{C:RC}{m:TV}{S:DO}{w w':AT}{s:PS}(h:cG C m w s)(U:aA S w w')(J:¬S C.P)(O:∀k,S k->C.B0<=k):cG C m w' s:=by have⟨I,vl,H,h2⟩:=h.bx;exact⟨h.ok,h.al,h.wf,h.op,I,vl,H.tcs h.ok U J O,h2⟩
def cG.below{C:RC}{m:TV}{w w':AT}{s:PS}(h:cG C m w s)(hb:Bl w w'):cG C m w' s:=h.tcs (S:=λ_=>False) hb.tcs (λh=>h) (λ_ h=>h.elim)
def rh.later{C:RC}{w w1 w':AT}{z H:PS}{e:Ending}(h:rh C w1 z e w')(J:Dm (ak C.l) z H)(O:Kp C w w1):rh C w H e w':=by obtain⟨I,h2,h3⟩:=h;have⟨h4,h5⟩:=J I;exact⟨h4,by rw[h5];exact h2,O.trans h3⟩
def m8{C:RC}{w w':AT}{S:DO}(h:aA S w w')(hS:∀k,S k->C.B0<=k/\k≠C.P+1)(hl:C.B0<=w.heap.size):Kp C w w':=h.mono hS
def cG.b0{C:RC}{m:TV}{w:AT}{s:PS}(h:cG C m w s):C.B0<=w.heap.size:=Ht h.lt h.ok.hi
def cG.tb{C:RC}{m:TV}{w w':AT}{s:PS}(h:cG C m w s)(ht:aA (λk=>k=C.P) w w'):Kp C w w':=m8 ht (λk hk=>by rw[hk];exact⟨h.ok.hi,o_⟩) h.b0
def fx{C:RC}{w:AT}{Ja I:Int}{tt:IF}{H pl:Int}{m:TV}{op:Int}(h:mt C w Ja I tt H pl m op)(c:Int):Calls prog 154 #[pV C.P,V c] w λe w'=>e=aK (c,pl)/\w'=w:=by have J:Bo w C.P 5 (V pl):=(h.box 5 _ rfl).1;unfold aK;go_in;go_wp2_with fail;exact⟨rfl,rfl,rfl⟩
def fL{C:RC}{m:TV}{w:AT}{s:PS}(h:cG C m w s)(x:List UInt8)(O:jc x=true):Calls prog 114 #[pV C.P,sV (tx x)] w λe w'=>e=rW (.bool (aJ (ak C.l) x s))/\w'=w:=by
 obtain⟨tt,vl,H,I,-⟩:=h.bx;have J:=As (l:=C.l) (s:=s) (fR h.al) O (tt:=tt) (λh3=>I (.inr h3));have Y:Bo w C.P 2 (V (fQ (ak C.l s.i))):=(H.box 2 _ rfl).1;have U:Bo w C.P 3 (sV tt):=(H.box 3 _ rfl).1;rw[<-J];generalize fQ (ak C.l s.i)=ki at*;generalize tx x=xx at*;by_cases h3:ki=3
 ·subst h3;go_in;go_wp2;go_ret;exact⟨by simp[str_eq],rfl⟩
 have X:(ki == 3)=false:=D4 h3;go_in;go_wp2;go_ret;exact⟨by simp[h3],rfl⟩
def AO(c:Int)(w:AT):Calls prog 105 #[.int .u8 c] w λe w'=>e=rW (.bool (decide (c=32\/c=10)))/\w'=w:=by
 go_in;go_wp2
 all_goals go_ret
 all_goals (refine⟨aB ?_,rfl⟩;apply Bool.eq_iff_iff.2;simp <;> omega)
def Fq(c:UInt8):decide (cI c=32\/cI c=10)=tG c:=by
 unfold tG cI;apply Bool.eq_iff_iff.2;simp only[K0];constructor
 rintro(h|h)
 left;apply UInt8.toNat_inj.1;show c.toNat=32;omega;right;apply UInt8.toNat_inj.1;show c.toNat=10;omega
 rintro(rfl|rfl)
 left;rfl;right;rfl
def rj(w:AT)(b o:Nat)(r:List UInt8):Prop:=∀j (hj:j<r.length),w.cell? ⟨b,o+j,none⟩=some (.int .u8 (cI r[j]))
def CJ(b o cap:Nat)(r:List UInt8)(w:AT)(Z:r.length<=1000000)(Y:rj w b o r):
  Calls prog 104 #[.slice (some ⟨b,o,none⟩) r.length cap,.func (.func 105) #[] #[]] w λe w'=>e=rW (V ((r.takeWhile tG).length:Int))/\w'=w:=by
 have Jc:=ah (rO tG r);have Jb:Hid (∀d,d<=r.length->(r.take d).length=d):=λd hd=>by rw[length_take];omega
 generalize r.takeWhile tG=tk at*;have X:=ah Y;go_in;go_wp2_with fail;go_loop [9] (λi=>∃k:Nat,k<=r.length/\i=V k/\∀j (hj:j<r.length),j<k->tG r[j]=true) (λi=>r.length-(RowKit.intOf i).toNat)
 case atStart=>exact⟨0,y_,rfl,λj _ hj=>absurd hj (Nat.not_lt_zero _)⟩
 case round=>
  obtain⟨k,J,rfl,O⟩:=hrel;have H:=ah O;by_cases hlt:k<r.length
  ·have Jd:=X.o k hlt;cases hd:tG r[k]
   ·have I:Hid (((tk.length:Nat):Int)=(k:Int)):=(by show _=_;rw[Jc.o k J H.o (λ_=>hd),Jb.o k J]);have Ja:decide (cI r[k]=32\/cI r[k]=10)=false:=(by rw[Fq];exact hd);generalize cI r[k]=cc at*;go_wp2_with(go_at_call 105;refine(AO _ _).mono ?_;rintro e w' ⟨rfl,rfl⟩;rw[Ja]);go_ret;exact⟨by rw[I.o];rfl,rfl⟩
   have Ja:decide (cI r[k]=32\/cI r[k]=10)=true:=(by rw[Fq];exact hd);have U:Hid (∀j (hj:j<r.length),j<k+1->tG r[j]=true):=λj hj hjk=>by by_cases e:j=k;subst e;exact hd;exact H.o j hj o_
   generalize cI r[k]=cc at*;go_wp2_with(go_at_call 105;refine(AO _ _).mono ?_;rintro e w' ⟨rfl,rfl⟩;rw[Ja])
   go_round
   case rel=>exact⟨k+1,o_,by go_num,U⟩
   case measure=>exact D1
  have I:Hid (((tk.length:Nat):Int)=(r.length:Int)):=(by show _=_;rw[Jc.o r.length n_ (λj hj _=>H.o j hj o_) (λh=>absurd h (Nat.lt_irrefl _)),Jb.o r.length n_]);go_wp2;go_ret;exact⟨by rw[I.o];rfl,rfl⟩
def CK(b o cap:Nat)(r:List UInt8)(w:AT)(Z:r.length<=1000000)(Y:rj w b o r):
  Calls prog 104 #[.slice (some ⟨b,o,none⟩) r.length cap,.func (.func 155) #[] #[]] w λe w'=>e=rW (V ((r.takeWhile gX).length:Int))/\w'=w:=by
 have Jc:=ah (rO gX r);have Jb:Hid (∀d,d<=r.length->(r.take d).length=d):=λd hd=>by rw[length_take];omega
 generalize r.takeWhile gX=tk at*;have X:=ah Y;go_in;go_wp2_with fail;go_loop [9] (λi=>∃k:Nat,k<=r.length/\i=V k/\∀j (hj:j<r.length),j<k->gX r[j]=true) (λi=>r.length-(RowKit.intOf i).toNat)
 case atStart=>exact⟨0,y_,rfl,λj _ hj=>absurd hj (Nat.not_lt_zero _)⟩
 case round=>
  obtain⟨k,J,rfl,O⟩:=hrel;have H:=ah O;by_cases hlt:k<r.length
  ·have Jd:=X.o k hlt;cases hd:gX r[k]
   ·have I:Hid (((tk.length:Nat):Int)=(k:Int)):=(by show _=_;rw[Jc.o k J H.o (λ_=>hd),Jb.o k J]);have Ja:gR (cI r[k])=false:=hd;generalize cI r[k]=cc at*;go_wp2_with(go_at_call 155;refine(kF _ _).mono ?_;rintro e w' ⟨rfl,rfl⟩;rw[Ja]);go_ret;exact⟨by rw[I.o];rfl,rfl⟩
   have Ja:gR (cI r[k])=true:=hd;have U:Hid (∀j (hj:j<r.length),j<k+1->gX r[j]=true):=λj hj hjk=>by by_cases e:j=k;subst e;exact hd;exact H.o j hj o_
   generalize cI r[k]=cc at*;go_wp2_with(go_at_call 155;refine(kF _ _).mono ?_;rintro e w' ⟨rfl,rfl⟩;rw[Ja])
   go_round
   case rel=>exact⟨k+1,o_,by go_num,U⟩
   case measure=>exact D1
  have I:Hid (((tk.length:Nat):Int)=(r.length:Int)):=(by show _=_;rw[Jc.o r.length n_ (λj hj _=>H.o j hj o_) (λh=>absurd h (Nat.lt_irrefl _)),Jb.o r.length n_]);go_wp2;go_ret;exact⟨by rw[I.o];rfl,rfl⟩
def CL(b o cap:Nat)(r:List UInt8)(w:AT)(Z:r.length<=1000000)(Y:rj w b o r):
  Calls prog 104 #[.slice (some ⟨b,o,none⟩) r.length cap,.func (.func 109) #[] #[]] w λe w'=>e=rW (V ((r.takeWhile a8).length:Int))/\w'=w:=by
 have Jc:=ah (rO a8 r);have Jb:Hid (∀d,d<=r.length->(r.take d).length=d):=λd hd=>by rw[length_take];omega
 generalize r.takeWhile a8=tk at*;have X:=ah Y;go_in;go_wp2_with fail;go_loop [9] (λi=>∃k:Nat,k<=r.length/\i=V k/\∀j (hj:j<r.length),j<k->a8 r[j]=true) (λi=>r.length-(RowKit.intOf i).toNat)
 case atStart=>exact⟨0,y_,rfl,λj _ hj=>absurd hj (Nat.not_lt_zero _)⟩
 case round=>
  obtain⟨k,J,rfl,O⟩:=hrel;have H:=ah O;by_cases hlt:k<r.length
  ·have Jd:=X.o k hlt;cases hd:a8 r[k]
   ·have I:Hid (((tk.length:Nat):Int)=(k:Int)):=(by show _=_;rw[Jc.o k J H.o (λ_=>hd),Jb.o k J]);have Ja:iL (cI r[k])=false:=hd;generalize cI r[k]=cc at*;go_wp2_with(go_at_call 109;refine(jd _ _).mono ?_;rintro e w' ⟨rfl,rfl⟩;rw[Ja]);go_ret;exact⟨by rw[I.o];rfl,rfl⟩
   have Ja:iL (cI r[k])=true:=hd;have U:Hid (∀j (hj:j<r.length),j<k+1->a8 r[j]=true):=λj hj hjk=>by by_cases e:j=k;subst e;exact hd;exact H.o j hj o_
   generalize cI r[k]=cc at*;go_wp2_with(go_at_call 109;refine(jd _ _).mono ?_;rintro e w' ⟨rfl,rfl⟩;rw[Ja])
   go_round
   case rel=>exact⟨k+1,o_,by go_num,U⟩
   case measure=>exact D1
  have I:Hid (((tk.length:Nat):Int)=(r.length:Int)):=(by show _=_;rw[Jc.o r.length n_ (λj hj _=>H.o j hj o_) (λh=>absurd h (Nat.lt_irrefl _)),Jb.o r.length n_]);go_wp2;go_ret;exact⟨by rw[I.o];rfl,rfl⟩
def zp(b o cap:Nat)(r:List UInt8)(w:AT)(U:0<r.length)(X:r.length<=1000000)(O:jt r[0]=true)(H:rj w b o r):
  Calls prog 108 #[.slice (some ⟨b,o,none⟩) r.length cap] w λe w'=>e=rW (V ((r.takeWhile gX).length:Int))/\w'=w:=by
 have Jb:Bo w b o (.int .u8 (cI r[0])):=H 0 U;have Ja:((r.length:Int) == 0)=false:=by simp only[beq_eq_false_iff_ne];omega
 have J:=ah (CK b o cap r w X H);have I:eJ (cI r[0])=true:=O;generalize cI r[0]=cc at*;go_in;go_wp2_with(go_at_call 106;refine(dh _ _).mono ?_;rintro e w' ⟨rfl,rfl⟩;rw[I]);refine J.o.mono ?_;rintro e w' ⟨rfl,rfl⟩;go_wp2;go_ret;exact⟨rfl,rfl⟩
section
variable{C:RC}{m:TV}{w:AT}{s:PS}
def gG(C:RC)(m:TV)(w:AT)(z:PS)(v:BY)(e:Ending)(w':AT):Prop:=(¬ls (ak C.l) z/\e=rW v/\cG C m w' z/\aA (λk=>k=C.P) w w')\/rh C w z e w'
def nT(C:RC):Prop:=∀(w:AT) (i:Nat) (kd:Int) (tt:IF) (vl pl:Int) (m:TV) (op:Int),Dv C->mt C w (lN C.l i:Int) kd tt vl pl m op->i<=C.K->0<=op/\op<=30 ->
 Calls prog 66 #[pV C.P] w λe w'=>∀z:PS,z.i=i->z.er=0->z.op=op->gG C m w z (.tuple #[]) e w'
def zq{x:List UInt8}(h:cG C m w s)(H:aJ (ak C.l) x s=true):s.i<C.K:=by
 have:=(MJ h.ok.las h.wf H).1
 unfold Wf PS.ad at this;simp only at this;omega
def oT(J:nT C)(h:cG C m w s)(U:s.i<C.K):Calls prog 66 #[pV C.P] w (gG C m w s.ad (.tuple #[])):=by obtain⟨O,vl,H,-⟩:=h.bx;refine(J w (s.i+1) _ _ _ _ m s.op h.ok H o_ h.op).mono ?_;intro e w' I;exact I s.ad rfl (show s.er=0 from fR h.al) rfl
theorem kh(U:nT C)(h:cG C m w s)(x:List UInt8)(X:jc x=true):Calls prog 158 #[pV C.P,sV (tx x)] w λe w'=>(aJ (ak C.l) x s=false/\e=rW (.bool false)/\w'=w)\/(aJ (ak C.l) x s=true/\gG C m w s.ad (.bool true) e w'):=by
 have H:=ah (fL h x X);cases hi:aJ (ak C.l) x s with
 | false=>rw[hi]at H;generalize tx x=xx at*;clear h;go_in;go_wp2_with fail;refine H.o.mono ?_;rintro e w1 ⟨rfl,rfl⟩;go_wp2;go_ret;exact .inl ⟨trivial,rfl,rfl⟩
 | true=>
  have O:=ah (oT U h (zq h hi));rw[hi]at H;generalize tx x=xx at*;clear h;go_in;go_wp2_with fail;refine H.o.mono ?_;rintro e w1 ⟨rfl,J⟩;rw[J];clear J;go_wp2_with fail;refine O.o.mono ?_;rintro e w2 (⟨h1,rfl,h3,h4⟩|hd)
  ·have I:Hid (gG C m w s.ad (.bool true) (rW (.bool true)) w2):=.inl ⟨h1,rfl,h3,h4⟩;clear h1 h3 h4;go_wp2;go_ret;exact .inr ⟨trivial,I⟩
  have I:Hid (gG C m w s.ad (.bool true) e w2):=.inr hd;obtain⟨-,rfl,-⟩:=hd;unfold aK at*;go_wp2_with fail;exact⟨rfl,.inr ⟨trivial,I⟩⟩
def jI(U:nT C)(h:cG C m w s)(x:List UInt8)(X:jc x=true):Calls prog 112 #[pV C.P,sV (tx x)] w (gG C m w (fM (ak C.l) x s) (.tuple #[])):=by
 have O:=ah (kh U h x X);have Jc:Hid (∀c,Calls prog 154 #[pV C.P,V c] w λe w'=>e=aK (c,((ak C.l s.i).pl:Int))/\w'=w):=λc=>by obtain⟨Y,vl,H,-⟩:=h.bx;exact fx H c
 have Jb:Hid (aJ (ak C.l) x s=false->rh C w (fM (ak C.l) x s) (aK (3,((ak C.l s.i).pl:Int))) w):=λhi=>by have⟨H,h2⟩:=JH h.al hi;exact⟨H,by rw[h2],Kp.refl _ _⟩
 have Ja:Hid (aJ (ak C.l) x s=true->fM (ak C.l) x s=s.ad):=DV;clear h;generalize tx x=xx at*;generalize ((ak C.l s.i).pl:Int)=pl at*;go_in;go_wp2_with fail;refine O.o.mono ?_;rintro e w1 (⟨hi,rfl,I⟩|⟨hi,⟨H,rfl,h3,h4⟩|hd⟩)
 ·rw[I];clear I;have J:=ah (Jb.o hi);go_wp2_with fail;refine(Jc.o 3).mono ?_;rintro e w2 ⟨rfl,I⟩;rw[I];clear I;unfold aK at*;go_wp2_with fail;exact⟨rfl,.inr J⟩
 ·have J:Hid (gG C m w (fM (ak C.l) x s) (.tuple #[]) (rW (.tuple #[])) w1):=by show gG _ _ _ _ _ _ _;rw[Ja.o hi];exact .inl ⟨H,rfl,h3,h4⟩
  clear H h3 h4;go_wp2_with fail;exact bodyPost_end (v:=.tuple #[]) (by simp[results,results112,go_sem]) rfl J
 have J:Hid (gG C m w (fM (ak C.l) x s) (.tuple #[]) e w1):=by show gG _ _ _ _ _ _ _;rw[Ja.o hi];exact .inr hd
 obtain⟨-,rfl,-⟩:=hd;unfold aK at*;go_wp2_with fail;exact⟨rfl,J⟩
end
section
variable{C:RC}{m:TV}{w:AT}{s:PS}
def NW(h:cG C m w s)(H:fQ (ak C.l s.i)=1\/fQ (ak C.l s.i)=2):s.i<C.K:=by
 have I:=h.wf;by_cases e:s.i=C.K;exfalso;have h4:=h.ok.las.at4;rw[<-e]at h4;have h5:=JG h.al;have J:=(fd C.l s.i).2;have:(ak C.l s.i).kd=4:=o_;rcases H with H|H <;> (unfold fQ at H;rw[if_pos this]at H;cases H)
 omega
def cG.reop(h:cG C m w s)(k:Int)(J:0<=k/\k<=30):cG C m (w.setCell ⟨C.P,8,none⟩ (V k)) {s with op:=k}/\aA (λq=>q=C.P) w (w.setCell ⟨C.P,8,none⟩ (V k)):=by have⟨I,vl,H,h2⟩:=h.bx;have⟨h3,h4⟩:=H.put h.ok (op':=k) 8 (V k) rfl;exact⟨⟨h.ok,h.al,h.wf,J,I,vl,h3,h2⟩,h4⟩
def cG.cop(h:cG C m w s):Bo w C.P 8 (V s.op)/\By w C.P 8:=by obtain⟨I,vl,H,-⟩:=h.bx;exact H.box 8 _ rfl
def cG.cki(h:cG C m w s):Bo w C.P 2 (V (fQ (ak C.l s.i))):=by obtain⟨I,vl,H,-⟩:=h.bx;exact(H.box 2 _ rfl).1
def m9(h:cG C m w s)(c:Int):Calls prog 154 #[pV C.P,V c] w λe w'=>e=aK (c,((ak C.l s.i).pl:Int))/\w'=w:=by obtain⟨I,vl,H,-⟩:=h.bx;exact fx H c
def qh(HN:nT C)(h:cG C m w s){x:List UInt8}(O:aJ (ak C.l) x s=true):Calls prog 181 #[pV C.P] w (gG C m w (dP (ak C.l) x s) (.tuple #[])):=by
 have Z:=h.cop.1;have f8:=h.cop.2;by_cases ho:s.op=30
 ·have⟨H,h2⟩:=Hc O ho;have I:Hid (gG C m w (dP (ak C.l) x s) (.tuple #[]) (aK (4,((ak C.l s.i).pl:Int))) w):=.inr ⟨H,by rw[h2],Kp.refl _ _⟩;have Jb:=ah (m9 h 4);rw[ho]at Z;clear h H h2;generalize ((ak C.l s.i).pl:Int)=pl at*;go_in;go_wp2_with fail;refine Jb.o.mono ?_;rintro e w2 ⟨rfl,U⟩;rw[U];clear U;unfold aK at*;go_wp2_with fail;exact⟨rfl,I⟩
 have Je:(s.op == 30)=false:=D4 ho;have Jd:=h.op;have⟨H,J⟩:=h.reop (s.op+1) o_;have⟨W1,Ja⟩:=q_ (w.setCell ⟨C.P,8,none⟩ (V (s.op+1)));rw[<-Ja]at H J;have Y:=ah (oT HN H (show s.i<C.K from zq h O));rw[J9 O ho];have X:=ah J;have Jc:=ah (h.tb J);have HW:=ah Ja;clear h H J Ja O;go_in;go_upto_region 3 with fail;rw[<-HW.o];go_wp2_with fail;refine Y.o.mono ?_;rintro e w2 (⟨H,rfl,h3,h4⟩|hd)
 ·have I:Hid (gG C m w {s.ad with op:=s.op+1} (.tuple #[]) (rW (.tuple #[])) w2):=.inl ⟨H,rfl,h3,X.o.trans h4⟩;clear H h3 h4;go_wp2_with fail;exact bodyPost_end (v:=.tuple #[]) (by simp[results,results181,go_sem]) rfl I
 have I:Hid (gG C m w {s.ad with op:=s.op+1} (.tuple #[]) e w2):=.inr (hd.later (Dm.refl _) Jc);obtain⟨-,rfl,-⟩:=hd;unfold aK at*;go_wp2_with fail;exact⟨rfl,I⟩
theorem jm(Y:nT C)(h:cG C m w s)(x:List UInt8)(Z:jc x=true):Calls prog 160 #[pV C.P,sV (tx x)] w (gG C m w (dP (ak C.l) x s) (.tuple #[])):=by
 have I:=ah (fL h x Z);cases hi:aJ (ak C.l) x s with
 | false=>have⟨O,h2⟩:=JI h.al hi;have J:Hid (gG C m w (dP (ak C.l) x s) (.tuple #[]) (aK (3,((ak C.l s.i).pl:Int))) w):=.inr ⟨O,by rw[h2],Kp.refl _ _⟩;have Ja:=ah (m9 h 3);rw[hi]at I;clear h O h2;generalize ((ak C.l s.i).pl:Int)=pl at*;generalize tx x=xx at*;go_in;go_wp2_with fail;refine I.o.mono ?_;rintro e w1 ⟨rfl,H⟩;rw[H];clear H;go_wp2_with fail;refine Ja.o.mono ?_;rintro e w2 ⟨rfl,H⟩;rw[H];clear H;unfold aK at*;go_wp2_with fail;exact⟨rfl,J⟩
 | true=>
  have X:=ah (qh Y h hi);rw[hi]at I;clear h;generalize tx x=xx at*;go_in;go_wp2_with fail;refine I.o.mono ?_;rintro e w1 ⟨rfl,H⟩;rw[H];clear H;go_wp2_with fail;refine X.o.mono ?_;rintro e w2 U;have J:=ah U;rcases U with⟨-,rfl,-⟩|⟨-,rfl,-⟩
  ·go_wp2_with fail;exact bodyPost_end (v:=.tuple #[]) (by simp[results,results160,go_sem]) rfl J
  unfold aK at*;go_wp2_with fail;exact⟨rfl,J⟩
def jn(O:nT C)(h:cG C m w s)(ho:1<=s.op)(x:List UInt8)(U:jc x=true):Calls prog 162 #[pV C.P,sV (tx x)] w (gG C m w (iz (ak C.l) x s) (.tuple #[])):=by
 have J:=ah (jI O h x U);have Jb:=h.op;have Ja:Hid ((fM (ak C.l) x s).op=s.op):=jL _ _;unfold iz;generalize fM (ak C.l) x s=z at*;generalize tx x=xx at*;clear h;go_in;go_wp2_with fail;refine J.o.mono ?_;rintro e w1 (⟨h1,rfl,h3,h4⟩|hd)
 ·have Y:=h3.cop.1;have X:=h3.cop.2;have Z:1<=z.op/\z.op<=30:=Ft Ja.o
  have⟨h5,I⟩:=h3.reop (z.op-1) o_;have H:Hid (gG C m w {z with op:=z.op-1} (.tuple #[]) (rW (.tuple #[])) (w1.setCell ⟨C.P,8,none⟩ (V (z.op-1)))):=.inl ⟨h1,rfl,h5,h4.trans I⟩;clear h1 h3 h4 h5 I;go_wp2_with fail;exact bodyPost_end (v:=.tuple #[]) (by simp[results,results162,go_sem]) rfl H
 have H:Hid (gG C m w {z with op:=z.op-1} (.tuple #[]) e w1):=.inr (hd.later (rN _ _) (Kp.refl _ _));obtain⟨-,rfl,-⟩:=hd;unfold aK at*;go_wp2_with fail;exact⟨rfl,H⟩
end
section
variable{C:RC}{m:TV}{w:AT}{s:PS}
def Lt(kd:Int)(tt:IF)(vl pl:Int):BY:=.agg #[V kd,sV tt,V vl,V pl]
theorem sO(HN:nT C)(h:cG C m w s){tt:ByteArray}{I:Int}(hb:mt C w (lN C.l (s.i+1):Int) (fQ (ak C.l s.i)) tt I ((ak C.l s.i).pl:Int) m s.op)(k:Int)(O:k=1\/k=2):
  Calls prog 159 #[pV C.P,V k] w λe w'=>(fQ (ak C.l s.i)≠k/\e=aK (3,((ak C.l s.i).pl:Int))/\Below w.heap.size w w')\/(fQ (ak C.l s.i)=k/\gG C m w s.ad (Lt k tt I ((ak C.l s.i).pl:Int)) e w'):=by
 have⟨W1,Jh⟩:=q_ (w.alloc (.cells #[V 0,sV ⟨#[]⟩,V 0,V 0] 111));have⟨H,Jj⟩:=q_ w.heap.size;have⟨W2,Jg⟩:=q_ (W1.alloc (.cells #[V (fQ (ak C.l s.i)),sV tt,V I,V ((ak C.l s.i).pl:Int)] 111));have⟨U,Jl⟩:=q_ W1.heap.size;have Ji:Bl w W1:=by rw[Jh];exact r_.alloc n_ _
 have Jf:Bl W1 W2:=by rw[Jg];exact r_.alloc n_ _
 have Jo:dN W1 H [V 0,sV ⟨#[]⟩,V 0,V 0]:=by rw[Jh,Jj];exact de w #[V 0,sV ⟨#[]⟩,V 0,V 0] _ (by show 4<=1000;omega)
 have Je:dN W2 U [V (fQ (ak C.l s.i)),sV tt,V I,V ((ak C.l s.i).pl:Int)]:=by rw[Jg,Jl];exact de W1 #[V (fQ (ak C.l s.i)),sV tt,V I,V ((ak C.l s.i).pl:Int)] _ (by show 4<=1000;omega)
 have Jd:=Jo.below Jf;have Jn:Bl w W2:=Ji.trans (Jf.mono Ji.size);have Jk:=h.below Jn;have Jb:=hb.below h.ok Ji;have p2:W1.cell? ⟨C.P,2,none⟩=some (V (fQ (ak C.l s.i))):=(Jb.box 2 _ rfl).1;have p3:W1.cell? ⟨C.P,3,none⟩=some (sV tt):=(Jb.box 3 _ rfl).1;have p4:W1.cell? ⟨C.P,4,none⟩=some (V I):=(Jb.box 4 _ rfl).1;have p5:W1.cell? ⟨C.P,5,none⟩=some (V ((ak C.l s.i).pl:Int)):=(Jb.box 5 _ rfl).1;have y0:=(Je 0 _ rfl).1;have hl:=h.lt;have Jv:H≠C.P:=o_;have Jx:H<W1.heap.size:=b_ (Jo 0 _ rfl).1;have J_:U<W2.heap.size:=b_ (Je 0 _ rfl).1;have Xc:=ah (show H<W2.heap.size/\U<W2.heap.size/\H≠C.P/\U≠C.P/\H≠U/\w.heap.size<=H by have:=Jf.size;omega);have Jz:=ah Jd;have Xb:=ah Je;have Jm:=ah Jn;have Ju:=ah (m9 Jk 3);have Xa:Hid (fQ (ak C.l s.i)=k->s.i<C.K):=λe=>NW h (by rcases O with rfl|rfl;exact .inl e;exact .inr e);have HA:=ah λ(e:s.i<C.K)=>oT HN Jk e;have Jw:=ah (show C.B0<=w.heap.size from h.b0);have Jt:=ah Jh;have Jp:=ah Jg;have Js:=ah Jj;have Jq:=ah Jl;unfold Lt;generalize fQ (ak C.l s.i)=ki at*;generalize ((ak C.l s.i).pl:Int)=pl at*;clear Jh Jg Jj Jl Ji Jf Jo Je Jd Jn Jk Jb h hb Jv Jx J_ hl O;by_cases hq:ki=k
 ·subst hq;have Xd:=ah (HA.out (Xa.out rfl));go_in;go_upto_region 1 with fail;rw[<-Jt.out,<-Js.out];go_upto_region 2 with fail;rw[<-Jp.out,<-Jq.out];go_wp2_with fail;refine Xd.out.mono ?_;rintro e w3 (⟨h1,rfl,h3,h4⟩|hd)
  ·have⟨l1,l2,n1,n2,n3,n4⟩:=Xc.out;have Ja:=Jz.out.tcs l1 h4 n1;have Jc:=Xb.out.tcs l2 h4 n2;have q0:=(Jc 0 _ rfl).1;have q1:=(Jc 1 _ rfl).1;have q2:=(Jc 2 _ rfl).1;have q3:=(Jc 3 _ rfl).1;have g0:=(Ja 0 _ rfl).1;have g1:=(Ja 1 _ rfl).1;have g2:=(Ja 2 _ rfl).1;have g3:=(Ja 3 _ rfl).1;have z0:=(Ja 0 _ rfl).2;have z1:=(Ja 1 _ rfl).2;have z2:=(Ja 2 _ rfl).2;have z3:=(Ja 3 _ rfl).2;have⟨X,Y⟩:=q_ ((((w3.setCell ⟨H,0,none⟩ (V ki)).setCell ⟨H,1,none⟩ (sV tt)).setCell ⟨H,2,none⟩ (V I)).setCell ⟨H,3,none⟩ (V pl));have J:=((((Ja.set 0 (V ki)).set 1 (sV tt)).set 2 (V I)).set 3 (V pl));rw[<-Y]at J;have Z:aA (λq=>q=H) w3 X:=by rw[Y];exact((((aA.refl (λq=>q=H) w3).setCell (p:=⟨H,0,none⟩) rfl _).setCell (p:=⟨H,1,none⟩) rfl _).setCell (p:=⟨H,2,none⟩) rfl _).setCell (p:=⟨H,3,none⟩) rfl _
   have Jr:C.P≠H:=λe=>n1 e.symm;have Jy:C.B0<=H:=(by have:=Jw.out;omega);have h5:=h3.tcs Z (λe=>Jr e) (λk O=>by rw[O];exact Jy);have ht:aA (λk=>k=C.P) w X:=((Jm.out.tcs (S:=λk=>k=C.P)).trans h4).next Z (λk O=>by rw[O];exact .inr n4);have HF:Hid (gG C m w s.ad (.agg #[V ki,sV tt,V I,V pl]) (rW (.agg #[V ki,sV tt,V I,V pl])) X):=.inl ⟨h1,rfl,h5,ht⟩;have v0:=(J 0 _ rfl).1;have v1:=(J 1 _ rfl).1;have v2:=(J 2 _ rfl).1;have v3:=(J 3 _ rfl).1;have Xe:=ah Y;clear h1 h3 h4 Ja Jc J Z h5 ht Y Jr;go_wp2_with fail;rw[<-Xe.out];exact bodyPost_ret (v:=.agg #[V ki,sV tt,V I,V pl]) (by simp[results,results159,go_sem,v0,v1,v2,v3]) rfl (.inr ⟨trivial,HF⟩)
  have HF:Hid (gG C m w s.ad (.agg #[V ki,sV tt,V I,V pl]) e w3):=.inr (hd.later (Dm.refl _) (Kp.of Jm));obtain⟨-,rfl,-⟩:=hd;unfold aK at*;go_wp2_with fail;exact⟨rfl,.inr ⟨trivial,HF⟩⟩
 have Xf:(ki != k)=true:=by simpa using hq
 have HQ:=ah hq;clear hq HA;go_in;go_upto_region 1 with fail;rw[<-Jt.out,<-Js.out];go_upto_region 2 with fail;rw[<-Jp.out,<-Jq.out];go_wp2_with fail;refine Ju.out.mono ?_;rintro e w3 ⟨rfl,hw⟩;rw[hw];clear hw;unfold aK at*;go_wp2_with fail;exact⟨rfl,.inl ⟨HQ,rfl,Jm⟩⟩
def Fr(H:Int)(tt:IF)(h pl:Int)(W:AT):(Instr.field 111 (Lt H tt h pl) 1).run prog W=.ok (sV tt) W/\(Instr.field 111 (Lt H tt h pl) 2).run prog W=.ok (V h) W:=by unfold Lt;exact⟨k_,k_⟩
def nh(Z:nT C)(h:cG C m w s):Calls prog 113 #[pV C.P] w (gG C m w (cW (ak C.l) s).2 (sV (cW (ak C.l) s).1)):=by
 obtain⟨J,vl,U,O,-⟩:=h.bx;have X:=ah (sO Z h U 1 (.inl rfl));have Ja:=JF (l:=C.l) (s:=s) (fR h.al);have Jc:Hid (fQ (ak C.l s.i)≠1->∀W,Bl w W->gG C m w (cW (ak C.l) s).2 (sV (cW (ak C.l) s).1) (aK (3,((ak C.l s.i).pl:Int))) W):=λhk W hW=>by rw[decide_eq_false hk]at Ja;have⟨I,h2⟩:=JJ h.al Ja;exact .inr ⟨I,by rw[h2],Kp.of hW⟩
 have Jb:Hid (fQ (ak C.l s.i)=1->cW (ak C.l) s=(J,s.ad)):=λhk=>by rw[decide_eq_true hk]at Ja;show _=_;rw[Ka Ja,O (.inl hk)]
 have Y:=λW=>(Fr 1 J vl ((ak C.l s.i).pl:Int) W).1;unfold Lt at X Y;generalize ((ak C.l s.i).pl:Int)=pl at*;clear h U O Ja;go_in;go_wp2_with fail;refine X.o.mono ?_;rintro e w1 (⟨hk,rfl,hw⟩|⟨hk,hg⟩)
 ·have H:=ah (Jc.o hk w1 hw);clear hw hk;unfold aK at*;go_wp2_with fail;exact⟨rfl,H⟩
 rcases hg with⟨I,rfl,h3,h4⟩|hd
 ·have H:Hid (gG C m w (cW (ak C.l) s).2 (sV (cW (ak C.l) s).1) (rW (sV J)) w1):=(by show gG _ _ _ _ _ _ _;rw[Jb.o hk];exact .inl ⟨I,rfl,h3,h4⟩);clear I h3 h4 hk Jb Jc;go_wp2;go_ret;exact H
 have H:Hid (gG C m w (cW (ak C.l) s).2 (sV (cW (ak C.l) s).1) e w1):=(by show gG _ _ _ _ _ _ _;rw[Jb.o hk];exact .inr hd);obtain⟨-,rfl,-⟩:=hd;clear hk Jb Jc;unfold aK at*;go_wp2_with fail;exact⟨rfl,H⟩
def Fs(Z:nT C)(h:cG C m w s):Calls prog 164 #[pV C.P] w (gG C m w (uI (ak C.l) s).2 (V (uI (ak C.l) s).1)):=by
 obtain⟨Y,vl,X,-,U⟩:=h.bx;have J:=ah (sO Z h X 2 (.inr rfl));have Ja:=ye (t:=ak C.l s.i) (fd C.l s.i).1;have Jc:Hid (fQ (ak C.l s.i)≠2->∀W,Bl w W->gG C m w (uI (ak C.l) s).2 (V (uI (ak C.l) s).1) (aK (3,((ak C.l s.i).pl:Int))) W):=λhk W hW=>by have⟨I,h2⟩:=MK h.al (λe=>hk (Ja.2 e));exact .inr ⟨I,by rw[h2],Kp.of hW⟩
 have Jb:Hid (fQ (ak C.l s.i)=2->uI (ak C.l) s=(vl,s.ad)):=λhk=>by show _=_;rw[DW (fR h.al) (Ja.1 hk),U (Ja.1 hk)]
 have O:=λW=>(Fr 2 Y vl ((ak C.l s.i).pl:Int) W).2;unfold Lt at J O;generalize ((ak C.l s.i).pl:Int)=pl at*;go_in;go_wp2_with fail;refine J.o.mono ?_;rintro e w1 (⟨hk,rfl,hw⟩|⟨hk,hg⟩)
 ·have H:=ah (Jc.o hk w1 hw);unfold aK at*;go_wp2_with fail;exact⟨rfl,H⟩
 rcases hg with⟨I,rfl,h3,h4⟩|hd
 ·have H:Hid (gG C m w (uI (ak C.l) s).2 (V (uI (ak C.l) s).1) (rW (V vl)) w1):=(by show gG _ _ _ _ _ _ _;rw[Jb.o hk];exact .inl ⟨I,rfl,h3,h4⟩);go_wp2;go_ret;exact H
 have H:Hid (gG C m w (uI (ak C.l) s).2 (V (uI (ak C.l) s).1) e w1):=(by show gG _ _ _ _ _ _ _;rw[Jb.o hk];exact .inr hd);obtain⟨-,rfl,-⟩:=hd;unfold aK at*;go_wp2_with fail;exact⟨rfl,H⟩
end
def CM:(prog.info? 402).map (·.size)=some gE.length:=by kernel_rfl
def IL(b:List UInt8×Int×Int×Int):BY:=.agg #[sV (tx b.1),V b.2.1,V b.2.2.1,V b.2.2.2]
def iA(k:Nat):List UInt8×Int×Int×Int:=mJ.getD k ([],0,0,0)
def Fv(k:Nat)(h:k<18)(W:AT):(Instr.index 402 (.agg gE.toArray) (V (k:Int))).run prog W=.ok (IL (iA k)) W:=by
 have:k=0\/k=1\/k=2\/k=3\/k=4\/k=5\/k=6\/k=7\/k=8\/k=9\/k=10\/k=11\/k=12\/k=13\/k=14\/k=15\/k=16\/k=17:=by omega
 rcases this with rfl|rfl|rfl|rfl|rfl|rfl|rfl|rfl|rfl|rfl|rfl|rfl|rfl|rfl|rfl|rfl|rfl|rfl <;> (show _=_;kernel_rfl)
def qi{k:Nat}(H:k<18):iA k∈mJ:=by unfold iA;have h:k<mJ.length:=H;simp only[List.getD,K3 h,Option.getD_some];exact g_ h
def IM{b:List UInt8×Int×Int×Int}(H:b∈mJ):∃k,k<18/\b=iA k:=by obtain⟨k,h,rfl⟩:=getElem_of_mem H;exact⟨k,h,by unfold iA;simp only[List.getD,K3 h,Option.getD_some]⟩
def Pr(T:Nat->To)(s:PS)(e:Ending):Prop:=(rM T s=none/\e=rW (.agg #[sV ⟨#[]⟩,V 0,V 0,V 0]))\/∃b,b∈mJ/\rM T s=some (Hf b)/\e=rW (IL b)
theorem uo{C:RC}{m:TV}{w:AT}{s:PS}(h:cG C m w s):Calls prog 259 #[pV C.P] w λe w'=>Pr (ak C.l) s e/\Bl w w':=by
 have Jz:w.rangeAt 8 0 gE:=by obtain⟨tt,vl,h1,-⟩:=h.bx;exact h1.bt
 have⟨W1,Jm⟩:=q_ (w.alloc (.cells #[sV ⟨#[]⟩,V 0,V 0,V 0] 391));have⟨H,Jp⟩:=q_ w.heap.size;have Xg:Bl w W1:=by rw[Jm];exact r_.alloc n_ _
 have Jf:dN W1 H [sV ⟨#[]⟩,V 0,V 0,V 0]:=by rw[Jm,Jp];exact de w #[sV ⟨#[]⟩,V 0,V 0,V 0] _ i_
 have Xb:H<W1.heap.size:=b_ (Jf 0 _ rfl).1;have HR:Hid (W1.rangeAt 8 0 gE):=by show rangeAt _ _ _ _;rw[Jm];exact rangeAt_alloc Jz _
 have Jr:Hid (∀W x,Bl w W->jc x=true->∀n,Calls prog 114 #[pV C.P,sV (tx x)] (W.drewN n) λe w'=>e=rW (.bool (aJ (ak C.l) x s))/\w'=W.drewN n):=λW x hW I n=>fL (h.below (⟨hW.1,hW.2,hW.3,hW.4,hW.5⟩:Bl w (W.drewN n))) x I;have Xe:=ah Jm;have Xl:=ah Jp;have Jk:=ah Jf;have Xa:=ah Xg;have Jc:Hid (w.heap.size<=H):=Nat.le_of_eq Jp.symm;clear h Jz Jm Jp Jf Xg;go_in;go_upto_region 1 with fail;rw[<-Xe.o,<-Xl.o];go_wp2_with(refine wpList_load_mid rfl 402 _ rfl 8 0 rfl gE _ HR.o underlying402 rfl CM ?_)
 generalize hC:gE.toArray=Cc;have HC:=ah hC;clear hC;go_wp2;go_loopw[4,6] (λbx ix wr=>∃(k:Nat),k<=18/\ix=V k/\(∀j,j<k->aJ (ak C.l) (iA j).1 s=false)/\Bl w wr/\dN wr H [sV ⟨#[]⟩,V 0,V 0,V 0]/\H<wr.heap.size) (λ_ ix _=>18-(RowKit.intOf ix).toNat)
 case atStart=>exact⟨0,o_,rfl,λj hj=>absurd hj o_,Xa,Jk,Xb⟩
 case round=>
  clear Jk Xa Xe HR Xb;obtain⟨k,hk,rfl,Jq,Jh,I,hl⟩:=hrel;have Xf:=ah Jq;by_cases hlt:k<18
  ·have Jo:=Fv k hlt;rw[HC.o]at Jo;have HM:=ah (qi hlt);have Xm:=ah (Hi _ (mem_map.2 ⟨_,qi hlt,rfl⟩));have Je:=ah (λh=>Hj (T:=ak C.l) (s:=s) (qi hlt) h);have Jv:Hid (aJ (ak C.l) (iA k).1 s=false->∀j,j<k+1->aJ (ak C.l) (iA j).1 s=false):=λh j hj=>by by_cases e:j=k;subst e;exact h;exact Xf.o j o_
   have⟨W2,Jl⟩:=q_ (wr.alloc (.cells #[sV (tx (iA k).1),V (iA k).2.1,V (iA k).2.2.1,V (iA k).2.2.2] 391));have⟨U,Js⟩:=q_ wr.heap.size;have Jj:Bl wr W2:=(by rw[Jl];exact r_.alloc n_ _);have Jg:dN W2 U [sV (tx (iA k).1),V (iA k).2.1,V (iA k).2.2.1,V (iA k).2.2.2]:=(by rw[Jl,Js];exact de wr #[sV (tx (iA k).1),V (iA k).2.1,V (iA k).2.2.1,V (iA k).2.2.2] _ i_);have Jt:Bl w W2:=Jh.trans (Jj.mono Jh.size);have Ji:=ah (Jr.o W2 (iA k).1 Jt Xm);have Jf:=I.below Jj;have Xn:U≠H:=o_;unfold IL at Jo;generalize iA k=bb at*;obtain⟨bs,bt,bk,Y⟩:=bb;dsimp only at*;have y0:=(Jg 0 _ rfl).1;have y1:=(Jg 1 _ rfl).1;have y2:=(Jg 2 _ rfl).1;have y3:=(Jg 3 _ rfl).1;have J_:=ah Jl;have Xc:=ah Js;have Jb:=ah Jt;have Jk:=ah Jf;have Xj:H<W2.heap.size:=l_ hl Jj.size;have Xo:(k:Int)<18:=o_
   cases hi:aJ (ak C.l) bs s with
   | false=>
    have Xi:=ah (Jv.o hi);have Ju:Hid (∀n,Calls prog 114 #[pV C.P,sV (tx bs)] (W2.drewN n) λe w'=>e=rW (.bool false)/\w'=W2.drewN n):=(by rw[hi]at Ji;exact Ji);clear Jq Jh I Jl Js Jj Jg Jt Jf Jv Je Ji hi Jr;go_upto_region 4 with fail;rw[<-J_.o,<-Xc.o];go_quiet ((go_at_call 114;exact Calls.quiet_of_same (Ju.o _)));go_wp2;go_roundw
    case rel=>exact⟨k+1,o_,by go_num,Xi,⟨Jb.o.1,Jb.o.2,Jb.o.3,Jb.o.4,Jb.o.5⟩,Jk,Xj⟩
    case measure=>exact D1
   | true=>
    have Xh:=ah (Je.o hi);have Ju:Hid (∀n,Calls prog 114 #[pV C.P,sV (tx bs)] (W2.drewN n) λe w'=>e=rW (.bool true)/\w'=W2.drewN n):=(by rw[hi]at Ji;exact Ji);clear Jq Jh I Jl Js Jj Jg Jt Jf Jv Je Ji hi Jr;go_upto_region 4 with fail;rw[<-J_.o,<-Xc.o];go_quiet ((go_at_call 114;exact Calls.quiet_of_same (Ju.o _)));have⟨W3,Jd⟩:=q_ (W2.drewN nq);have Ja:dN W3 H [sV ⟨#[]⟩,V 0,V 0,V 0]:=(by rw[Jd];exact Jk);have Xd:Bl w W3:=(by rw[Jd];exact⟨Jb.o.1,Jb.o.2,Jb.o.3,Jb.o.4,Jb.o.5⟩);have u0:Bo W3 U 0 (sV (tx bs)):=(by rw[Jd];exact y0);have u1:Bo W3 U 1 (V bt):=(by rw[Jd];exact y1);have u2:Bo W3 U 2 (V bk):=(by rw[Jd];exact y2);have u3:Bo W3 U 3 (V Y):=(by rw[Jd];exact y3);have⟨X,O⟩:=q_ ((((W3.setCell ⟨H,0,none⟩ (sV (tx bs))).setCell ⟨H,1,none⟩ (V bt)).setCell ⟨H,2,none⟩ (V bk)).setCell ⟨H,3,none⟩ (V Y));have J:=((((Ja.set 0 (sV (tx bs))).set 1 (V bt)).set 2 (V bk)).set 3 (V Y));rw[<-O]at J;have Jn:Bl w X:=by rw[O];exact(((Xd.setCell (p:=⟨H,0,none⟩) Jc.o _).setCell (p:=⟨H,1,none⟩) Jc.o _).setCell (p:=⟨H,2,none⟩) Jc.o _).setCell (p:=⟨H,3,none⟩) Jc.o _
    have z0:=(Ja 0 _ rfl).2;have z1:=(Ja 1 _ rfl).2;have z2:=(Ja 2 _ rfl).2;have z3:=(Ja 3 _ rfl).2;have g0:=(Ja 0 _ rfl).1;have g1:=(Ja 1 _ rfl).1;have g2:=(Ja 2 _ rfl).1;have g3:=(Ja 3 _ rfl).1;have v0:=(J 0 _ rfl).1;have Z:=(J 1 _ rfl).1;have v2:=(J 2 _ rfl).1;have v3:=(J 3 _ rfl).1;have Jy:=ah O;have Jw:=ah Jn;have Xk:=ah Jd;rw[<-Xk.o];clear O J Jn Jd Ja Xd y0 y1 y2 y3;go_wp2_with fail;rw[<-Jy.o];exact bodyPost_ret (v:=.agg #[sV (tx bs),V bt,V bk,V Y]) (by simp[results,results259,go_sem,v0,Z,v2,v3]) rfl ⟨.inr ⟨_,HM,Xh,rfl⟩,Jw⟩
  obtain rfl:k=18:=(by omega);have Jx:Hid (rM (ak C.l) s=none):=DX λb hb=>by obtain⟨k,hk,rfl⟩:=IM hb;exact Xf.o k hk
  have⟨X,O⟩:=q_ ((((wr.setCell ⟨H,0,none⟩ (sV ⟨#[]⟩)).setCell ⟨H,1,none⟩ (V 0)).setCell ⟨H,2,none⟩ (V 0)).setCell ⟨H,3,none⟩ (V 0));have J:=((((I.set 0 (sV ⟨#[]⟩)).set 1 (V 0)).set 2 (V 0)).set 3 (V 0));rw[<-O]at J;have Jn:Bl w X:=by rw[O];exact(((Jh.setCell (p:=⟨H,0,none⟩) Jc.o _).setCell (p:=⟨H,1,none⟩) Jc.o _).setCell (p:=⟨H,2,none⟩) Jc.o _).setCell (p:=⟨H,3,none⟩) Jc.o _
  have z0:=(I 0 _ rfl).2;have z1:=(I 1 _ rfl).2;have z2:=(I 2 _ rfl).2;have z3:=(I 3 _ rfl).2;have g0:=(I 0 _ rfl).1;have g1:=(I 1 _ rfl).1;have g2:=(I 2 _ rfl).1;have g3:=(I 3 _ rfl).1;have v0:=(J 0 _ rfl).1;have Z:=(J 1 _ rfl).1;have v2:=(J 2 _ rfl).1;have v3:=(J 3 _ rfl).1;have Jy:=ah O;have Jw:=ah Jn;clear O J Jn Jq Jh I Jr;go_wp2_with fail;rw[<-Jy.o];exact bodyPost_ret (v:=.agg #[sV ⟨#[]⟩,V 0,V 0,V 0]) (by simp[results,results259,go_sem,v0,Z,v2,v3]) rfl ⟨.inl ⟨Jx,rfl⟩,Jw⟩
end Go.Proofs.YtngnoopnloojjaaGreatDoor
