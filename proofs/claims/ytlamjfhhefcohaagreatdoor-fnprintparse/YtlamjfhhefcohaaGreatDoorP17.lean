import Derived.Test.YtlamjfhhefcohaaGreatDoorP16
import Derived.WalkLawsBesides
set_option linter.unusedSectionVars false
variable [Inhabited Go.Proofs.YtlamjfhhefcohaaGreatDoor.Pick]
namespace Go.Proofs.YtlamjfhhefcohaaGreatDoor
open Go.Proofs.Tryz
open Go.RowKit
set_option linter.all false
set_option maxRecDepth 100000
set_option maxHeartbeats 16000000
def fk:List Value:=jK.flatMap fun r=>[.string (tx r.1),.int .i64 r.2.1,.int .i64 r.2.2.1,.int .i64 r.2.2.2]
structure RC where
 P:Nat
 bX:Nat
 cX:Nat
 B0:Nat
 K:Nat
 l:List UInt8
structure TV where
 vg:Value
 vf:Value
 nz:Bool
def RC.box(C:RC)(pos kd:Int)(tt:ByteArray)(vl pl:Int)(m:TV)(op:Int):List Value:=[.slice (some ⟨C.bX,0,none⟩) C.l.length C.cX,.int .i64 pos,.int .i64 kd,.string tt,.int .i64 vl,.int .i64 pl,m.vg,m.vf,.int .i64 op,.bool m.nz]
structure uV (C:RC):Prop where
 lo:C.bX<C.B0
 hi:C.B0<=C.P
 gb:7<C.B0
 ge:4<C.B0
 len:C.l.length<=20000
 cap:C.l.length<=C.cX
 las:ft (ai C.l) C.K
def yP(w:World):Prop:=∃ev,w.cell? ⟨4,0,none⟩=some ev/\(ev=.nilIface∨∃te pe,ev=.iface te pe)
theorem yP.tcs{S:Nat->Prop}{w w':World}(h:yP w)(ht:am S w w')(hS:¬S 4):yP w':=by
 obtain⟨ev,h1,h2⟩:=h;exact⟨ev,(c_ (a:=⟨4,0,none⟩) (ht.block 4 (b_ h1) hS)).trans h1,h2⟩
structure jz (C:RC) (w:World) (pos kd:Int) (tt:ByteArray) (vl pl:Int) (m:TV) (op:Int):Prop where
 box:aR w C.P (C.box pos kd tt vl pl m op)
 txt:ia w C.bX C.l
 bt:w.rangeAt 7 0 fk
 er:yP w
 rl:C.P+1<w.heap.size
theorem jz.lt{C:RC}{w:World}{pos kd:Int}{tt:ByteArray}{vl pl:Int}{m:TV}{op:Int}(h:jz C w pos kd tt vl pl m op):C.P+1<w.heap.size:=h.rl
theorem jz.tcs{C:RC}{S:Nat->Prop}{w w':World}{Ja kd:Int}{tt:ByteArray}{vl pl:Int}{m:TV}{op:Int}(hC:uV C)(h:jz C w Ja kd tt vl pl m op)(ht:am S w w')(hP:¬S C.P)(hS:∀k,S k->C.B0<=k):jz C w' Ja kd tt vl pl m op:=by
 have hl:=h.lt;have hB:=hC.hi;have hx:=hC.lo;have hg:=hC.gb;exact⟨h.box.tcs o_ ht hP,h.txt.tcs ht o_ (fun s=>by have:=hS _ s;omega),fun j v hv=>(c_ (a:=⟨7,0+j,none⟩) (ht.block 7 o_ (fun s=>by have:=hS _ s;omega))).trans (h.bt j v hv),h.er.tcs ht (fun s=>by have:=hS _ s;have:=hC.ge;omega),l_ h.rl ht.size⟩
theorem jz.below{C:RC}{w w':World}{pos kd:Int}{tt:ByteArray}{vl pl:Int}{m:TV}{op:Int}(hC:uV C)(h:jz C w pos kd tt vl pl m op)(hb:Below w.heap.size w w'):jz C w' pos kd tt vl pl m op:=h.tcs hC (S:=fun _=>False) hb.tcs (fun h=>h) (fun _ h=>h.elim)
theorem jz.put{C:RC}{w:World}{Ja kd:Int}{tt:ByteArray}{vl pl:Int}{m:TV}{op:Int}{pos' kd':Int}{tt':ByteArray}{vl' pl':Int}{m':TV}{op':Int}(hC:uV C)(h:jz C w Ja kd tt vl pl m op)(i:Nat)(u:Value)(he:(C.box Ja kd tt vl pl m op).set i u=C.box pos' kd' tt' vl' pl' m' op'):
  jz C (w.setCell ⟨C.P,i,none⟩ u) pos' kd' tt' vl' pl' m' op'/\am (fun k=>k=C.P) w (w.setCell ⟨C.P,i,none⟩ u):=by
 have ht:am (fun k=>k=C.P) w (w.setCell ⟨C.P,i,none⟩ u):=(am.refl (fun k=>k=C.P) w).setCell (p:=⟨C.P,i,none⟩) rfl u;have hb:=h.box.set i u;rw[he]at hb;have hl:=h.lt;have hB:=hC.hi;have hx:=hC.lo;have hg:=hC.gb;exact⟨⟨hb,h.txt.tcs ht o_ o_,fun j v hv=>(c_ (a:=⟨7,0+j,none⟩) (ht.block 7 o_ o_)).trans (h.bt j v hv),h.er.tcs ht (by have:=hC.ge;omega),l_ h.rl ht.size⟩,ht⟩
structure bj (C:RC) (m:TV) (w:World) (s:PS):Prop where
 ok:uV C
 al:¬iV (ai C.l) s
 wf:s.i<=C.K
 op:0<=s.op/\s.op<=30
 bx:∃tt vl,jz C w (cw C.l (s.i+1):Int) (dF (ai C.l s.i)) tt vl ((ai C.l s.i).pl:Int) m s.op/\(dF (ai C.l s.i)=1∨dF (ai C.l s.i)=3->tt=(ai C.l s.i).text)/\((ai C.l s.i).kind=2->vl=(ai C.l s.i).num)
def a8(x:Int×Int):Ending:=.panicked [{v:=.iface 65 (.agg #[.int .i64 x.1,.int .i64 x.2]),recovered:=false}]
def Kp(C:RC)(w w':World):Prop:=am (fun k=>C.B0<=k/\k≠C.P+1) w w'
theorem Kp.refl(C:RC)(w:World):Kp C w w:=am.refl _ _
theorem Kp.trans{C:RC}{w w1 w2:World}(h:Kp C w w1)(h':Kp C w1 w2):Kp C w w2:=am.trans h h'
theorem Kp.low{C:RC}{w w':World}(h:Kp C w w')(hl:C.B0<=w.heap.size):Below C.B0 w w':=am.below h r_ hl (fun k hk=>hk.1)
theorem Kp.of{C:RC}{w w':World}(h:Below w.heap.size w w'):Kp C w w':=h.tcs
def lv(C:RC)(w:World)(z:PS)(e:Ending)(w':World):Prop:=iV (ai C.l) z/\e=a8 (kQ (ai C.l) z)/\Kp C w w'
theorem bj.lt{C:RC}{m:TV}{w:World}{s:PS}(h:bj C m w s):C.P+1<w.heap.size:=by
 obtain⟨tt,vl,h1,-⟩:=h.bx;exact h1.lt
theorem bj.tcs{C:RC}{m:TV}{S:Nat->Prop}{w w':World}{s:PS}(h:bj C m w s)(ht:am S w w')(hP:¬S C.P)(hS:∀k,S k->C.B0<=k):bj C m w' s:=by
 obtain⟨tt,vl,h1,h2⟩:=h.bx;exact⟨h.ok,h.al,h.wf,h.op,tt,vl,h1.tcs h.ok ht hP hS,h2⟩
theorem bj.below{C:RC}{m:TV}{w w':World}{s:PS}(h:bj C m w s)(hb:Below w.heap.size w w'):bj C m w' s:=h.tcs (S:=fun _=>False) hb.tcs (fun h=>h) (fun _ h=>h.elim)
theorem lv.later{C:RC}{w w1 w':World}{z z':PS}{e:Ending}(h:lv C w1 z e w')(hd:Dm (ai C.l) z z')(hb:Kp C w w1):lv C w z' e w':=by
 obtain⟨h1,h2,h3⟩:=h;obtain⟨h4,h5⟩:=hd h1;exact⟨h4,by rw[h5];exact h2,hb.trans h3⟩
theorem jU{C:RC}{w w':World}{S:Nat->Prop}(h:am S w w')(hS:∀k,S k->C.B0<=k/\k≠C.P+1)(hl:C.B0<=w.heap.size):Kp C w w':=h.mono hS
theorem bj.b0{C:RC}{m:TV}{w:World}{s:PS}(h:bj C m w s):C.B0<=w.heap.size:=by have:=h.lt;have:=h.ok.hi;omega
theorem bj.tb{C:RC}{m:TV}{w w':World}{s:PS}(h:bj C m w s)(ht:am (fun k=>k=C.P) w w'):Kp C w w':=jU ht (fun k hk=>by rw[hk];exact⟨h.ok.hi,o_⟩) h.b0
theorem dW{C:RC}{w:World}{Ja kd:Int}{tt:ByteArray}{vl pl:Int}{m:TV}{op:Int}(h:jz C w Ja kd tt vl pl m op)(c:Int):Calls prog 122 #[.pointer (some ⟨C.P,0,none⟩),.int .i64 c] w fun e w'=>e=a8 (c,pl)/\w'=w:=by
 have p5:w.cell? ⟨C.P,5,none⟩=some (.int .i64 pl):=(h.box 5 _ rfl).1;unfold a8;go_enter func122,ntmps122;go_wp2_with fail;exact⟨rfl,rfl,rfl⟩
theorem du{C:RC}{m:TV}{w:World}{s:PS}(h:bj C m w s)(x:List UInt8)(hx:dV x=true):Calls prog 94 #[.pointer (some ⟨C.P,0,none⟩),.string (tx x)] w fun e w'=>e=.returned (.bool (aC (ai C.l) x s))/\w'=w:=by
 obtain⟨tt,vl,hb,h1,-⟩:=h.bx;have hs:=rO (l:=C.l) (s:=s) (dB h.al) hx (tt:=tt) (fun h3=>h1 (.inr h3));have p2:w.cell? ⟨C.P,2,none⟩=some (.int .i64 (dF (ai C.l s.i))):=(hb.box 2 _ rfl).1;have p3:w.cell? ⟨C.P,3,none⟩=some (.string tt):=(hb.box 3 _ rfl).1;rw[<-hs];generalize dF (ai C.l s.i)=ki at*;generalize tx x=xx at*;by_cases h3:ki=3
 ·subst h3;go_enter func94,ntmps94;go_wp2;go_ret;exact⟨by simp[str_eq],rfl⟩
 ·have e3:(ki == 3)=false:=by simpa using h3
  go_enter func94,ntmps94;go_wp2;go_ret;exact⟨by simp[h3],rfl⟩
theorem sh(c:Int)(w:World):Calls prog 85 #[.int .u8 c] w fun e w'=>e=.returned (.bool (decide (c=32∨c=10)))/\w'=w:=by
 go_enter func85,ntmps85;go_wp2
 all_goals go_ret
 all_goals (refine⟨aj ?_,rfl⟩;apply Bool.eq_iff_iff.2;simp <;> omega)
theorem wK(c:UInt8):decide (cI c=32∨cI c=10)=dy c:=by
 unfold dy cI;apply Bool.eq_iff_iff.2;simp only[decide_eq_true_eq];constructor
 ·rintro(h|h)
  ·left;apply UInt8.toNat_inj.1;show c.toNat=32;omega
  ·right;apply UInt8.toNat_inj.1;show c.toNat=10;omega
 ·rintro(rfl|rfl)
  ·left;rfl
  ·right;rfl
def lX(w:World)(b o:Nat)(r:List UInt8):Prop:=∀j (hj:j<r.length),w.cell? ⟨b,o+j,none⟩=some (.int .u8 (cI r[j]))
theorem ui(b o cap:Nat)(r:List UInt8)(w:World)(hs:r.length<=1000000)(hc:lX w b o r):
  Calls prog 84 #[.slice (some ⟨b,o,none⟩) r.length cap,.func (.func 85) #[] #[]] w fun e w'=>e=.returned (.int .i64 ((r.takeWhile dy).length:Int))/\w'=w:=by
 have Jb:=ah (kV dy r);have Jc:Hid (∀d,d<=r.length->(r.take d).length=d):=fun d hd=>by rw[List.length_take];omega
 generalize r.takeWhile dy=tk at*;have HC:=ah hc;go_enter func84,ntmps84;go_wp2_with fail;go_loop [9] (fun i=>∃k:Nat,k<=r.length/\i=.int .i64 k/\∀j (hj:j<r.length),j<k->dy r[j]=true) (fun i=>r.length-(RowKit.intOf i).toNat)
 case atStart=>exact⟨0,y_,rfl,fun j _ hj=>absurd hj (Nat.not_lt_zero _)⟩
 case round=>
  obtain⟨k,hk,rfl,hl⟩:=hrel;have HL:=ah hl;by_cases hlt:k<r.length
  ·have Jd:=HC.out k hlt;cases hd:dy r[k]
   ·have HF:Hid (((tk.length:Nat):Int)=(k:Int)):=by show _=_;rw[Jb.out k hk HL.out (fun _=>hd),Jc.out k hk]
    have Ja:decide (cI r[k]=32∨cI r[k]=10)=false:=(by rw[wK];exact hd);generalize cI r[k]=cc at*;go_wp2_with(go_at_call 85;refine(sh _ _).mono ?_;rintro e w' ⟨rfl,rfl⟩;rw[Ja]);go_ret;exact⟨by rw[HF.out];rfl,rfl⟩
   ·have Ja:decide (cI r[k]=32∨cI r[k]=10)=true:=(by rw[wK];exact hd);have HN:Hid (∀j (hj:j<r.length),j<k+1->dy r[j]=true):=fun j hj hjk=>by
     by_cases e:j=k
     ·subst e;exact hd
     ·exact HL.out j hj o_
    generalize cI r[k]=cc at*;go_wp2_with(go_at_call 85;refine(sh _ _).mono ?_;rintro e w' ⟨rfl,rfl⟩;rw[Ja])
    go_round
    case rel=>exact⟨k+1,o_,by go_num,HN⟩
    case measure=>simp[RowKit.intOf];omega
  ·have HF:Hid (((tk.length:Nat):Int)=(r.length:Int)):=by show _=_;rw[Jb.out r.length n_ (fun j hj _=>HL.out j hj o_) (fun h=>absurd h (Nat.lt_irrefl _)),Jc.out r.length n_]
   go_wp2;go_ret;exact⟨by rw[HF.out];rfl,rfl⟩
theorem uj(b o cap:Nat)(r:List UInt8)(w:World)(hs:r.length<=1000000)(hc:lX w b o r):
  Calls prog 84 #[.slice (some ⟨b,o,none⟩) r.length cap,.func (.func 123) #[] #[]] w fun e w'=>e=.returned (.int .i64 ((r.takeWhile cJ).length:Int))/\w'=w:=by
 have Jb:=ah (kV cJ r);have Jc:Hid (∀d,d<=r.length->(r.take d).length=d):=fun d hd=>by rw[List.length_take];omega
 generalize r.takeWhile cJ=tk at*;have HC:=ah hc;go_enter func84,ntmps84;go_wp2_with fail;go_loop [9] (fun i=>∃k:Nat,k<=r.length/\i=.int .i64 k/\∀j (hj:j<r.length),j<k->cJ r[j]=true) (fun i=>r.length-(RowKit.intOf i).toNat)
 case atStart=>exact⟨0,y_,rfl,fun j _ hj=>absurd hj (Nat.not_lt_zero _)⟩
 case round=>
  obtain⟨k,hk,rfl,hl⟩:=hrel;have HL:=ah hl;by_cases hlt:k<r.length
  ·have Jd:=HC.out k hlt;cases hd:cJ r[k]
   ·have HF:Hid (((tk.length:Nat):Int)=(k:Int)):=by show _=_;rw[Jb.out k hk HL.out (fun _=>hd),Jc.out k hk]
    have Ja:de (cI r[k])=false:=hd;generalize cI r[k]=cc at*;go_wp2_with(go_at_call 123;refine(iH _ _).mono ?_;rintro e w' ⟨rfl,rfl⟩;rw[Ja]);go_ret;exact⟨by rw[HF.out];rfl,rfl⟩
   ·have Ja:de (cI r[k])=true:=hd;have HN:Hid (∀j (hj:j<r.length),j<k+1->cJ r[j]=true):=fun j hj hjk=>by
     by_cases e:j=k
     ·subst e;exact hd
     ·exact HL.out j hj o_
    generalize cI r[k]=cc at*;go_wp2_with(go_at_call 123;refine(iH _ _).mono ?_;rintro e w' ⟨rfl,rfl⟩;rw[Ja])
    go_round
    case rel=>exact⟨k+1,o_,by go_num,HN⟩
    case measure=>simp[RowKit.intOf];omega
  ·have HF:Hid (((tk.length:Nat):Int)=(r.length:Int)):=by show _=_;rw[Jb.out r.length n_ (fun j hj _=>HL.out j hj o_) (fun h=>absurd h (Nat.lt_irrefl _)),Jc.out r.length n_]
   go_wp2;go_ret;exact⟨by rw[HF.out];rfl,rfl⟩
theorem uk(b o cap:Nat)(r:List UInt8)(w:World)(hs:r.length<=1000000)(hc:lX w b o r):
  Calls prog 84 #[.slice (some ⟨b,o,none⟩) r.length cap,.func (.func 89) #[] #[]] w fun e w'=>e=.returned (.int .i64 ((r.takeWhile aO).length:Int))/\w'=w:=by
 have Jb:=ah (kV aO r);have Jc:Hid (∀d,d<=r.length->(r.take d).length=d):=fun d hd=>by rw[List.length_take];omega
 generalize r.takeWhile aO=tk at*;have HC:=ah hc;go_enter func84,ntmps84;go_wp2_with fail;go_loop [9] (fun i=>∃k:Nat,k<=r.length/\i=.int .i64 k/\∀j (hj:j<r.length),j<k->aO r[j]=true) (fun i=>r.length-(RowKit.intOf i).toNat)
 case atStart=>exact⟨0,y_,rfl,fun j _ hj=>absurd hj (Nat.not_lt_zero _)⟩
 case round=>
  obtain⟨k,hk,rfl,hl⟩:=hrel;have HL:=ah hl;by_cases hlt:k<r.length
  ·have Jd:=HC.out k hlt;cases hd:aO r[k]
   ·have HF:Hid (((tk.length:Nat):Int)=(k:Int)):=by show _=_;rw[Jb.out k hk HL.out (fun _=>hd),Jc.out k hk]
    have Ja:digitB (cI r[k])=false:=hd;generalize cI r[k]=cc at*;go_wp2_with(go_at_call 89;refine(gu _ _).mono ?_;rintro e w' ⟨rfl,rfl⟩;rw[Ja]);go_ret;exact⟨by rw[HF.out];rfl,rfl⟩
   ·have Ja:digitB (cI r[k])=true:=hd;have HN:Hid (∀j (hj:j<r.length),j<k+1->aO r[j]=true):=fun j hj hjk=>by
     by_cases e:j=k
     ·subst e;exact hd
     ·exact HL.out j hj o_
    generalize cI r[k]=cc at*;go_wp2_with(go_at_call 89;refine(gu _ _).mono ?_;rintro e w' ⟨rfl,rfl⟩;rw[Ja])
    go_round
    case rel=>exact⟨k+1,o_,by go_num,HN⟩
    case measure=>simp[RowKit.intOf];omega
  ·have HF:Hid (((tk.length:Nat):Int)=(r.length:Int)):=by show _=_;rw[Jb.out r.length n_ (fun j hj _=>HL.out j hj o_) (fun h=>absurd h (Nat.lt_irrefl _)),Jc.out r.length n_]
   go_wp2;go_ret;exact⟨by rw[HF.out];rfl,rfl⟩
theorem qC(b o cap:Nat)(r:List UInt8)(w:World)(h0:0<r.length)(hs:r.length<=1000000)(hf:cG r[0]=true)(hc:lX w b o r):
  Calls prog 88 #[.slice (some ⟨b,o,none⟩) r.length cap] w fun e w'=>e=.returned (.int .i64 ((r.takeWhile cJ).length:Int))/\w'=w:=by
 have Ja:w.cell? ⟨b,o,none⟩=some (.int .u8 (cI r[0])):=hc 0 h0;have Jb:((r.length:Int) == 0)=false:=by simp only[beq_eq_false_iff_ne];omega
 have HS:=ah (uj b o cap r w hs hc);have hd:smallB (cI r[0])=true:=hf;generalize cI r[0]=cc at*;go_enter func88,ntmps88;go_wp2_with(go_at_call 86;refine(cQ _ _).mono ?_;rintro e w' ⟨rfl,rfl⟩;rw[hd]);refine HS.out.mono ?_;rintro e w' ⟨rfl,rfl⟩;go_wp2;go_ret;exact⟨rfl,rfl⟩
section
variable{C:RC}{m:TV}{w:World}{s:PS}
def eV(C:RC)(m:TV)(w:World)(z:PS)(v:Value)(e:Ending)(w':World):Prop:=(¬iV (ai C.l) z/\e=.returned v/\bj C m w' z/\am (fun k=>k=C.P) w w')∨lv C w z e w'
def gW(C:RC):Prop:=∀(w:World) (i:Nat) (kd:Int) (tt:ByteArray) (vl pl:Int) (m:TV) (op:Int),uV C->jz C w (cw C.l i:Int) kd tt vl pl m op->i<=C.K->0<=op/\op<=30 ->
 Calls prog 58 #[.pointer (some ⟨C.P,0,none⟩)] w fun e w'=>∀z:PS,z.i=i->z.er=0->z.op=op->eV C m w z (.tuple #[]) e w'
theorem qD{x:List UInt8}(h:bj C m w s)(hi:aC (ai C.l) x s=true):s.i<C.K:=by
 have:=(gj h.ok.las h.wf hi).1
 unfold Wf PS.ad at this;simp only at this;omega
theorem kE(HN:gW C)(h:bj C m w s)(hK:s.i<C.K):Calls prog 58 #[.pointer (some ⟨C.P,0,none⟩)] w (eV C m w s.ad (.tuple #[])):=by
 obtain⟨tt,vl,h1,-⟩:=h.bx;refine(HN w (s.i+1) _ _ _ _ m s.op h.ok h1 o_ h.op).mono ?_;intro e w' hz;exact hz s.ad rfl (show s.er=0 from dB h.al) rfl
theorem cY(HN:gW C)(h:bj C m w s)(x:List UInt8)(hx:dV x=true):Calls prog 126 #[.pointer (some ⟨C.P,0,none⟩),.string (tx x)] w fun e w'=>(aC (ai C.l) x s=false/\e=.returned (.bool false)/\w'=w)∨(aC (ai C.l) x s=true/\eV C m w s.ad (.bool true) e w'):=by
 have HS:=ah (du h x hx);cases hi:aC (ai C.l) x s with
 | false=>
  rw[hi]at HS;generalize tx x=xx at*;go_enter func126,ntmps126;go_wp2_with fail;refine HS.out.mono ?_;rintro e w1 ⟨rfl,rfl⟩;go_wp2;go_ret;exact .inl ⟨trivial,rfl,rfl⟩
 | true=>
  have HA:=ah (kE HN h (qD h hi));rw[hi]at HS;generalize tx x=xx at*;go_enter func126,ntmps126;go_wp2_with fail;refine HS.out.mono ?_;rintro e w1 ⟨rfl,hw⟩;rw[hw];go_wp2_with fail;refine HA.out.mono ?_;rintro e w2 (⟨h1,rfl,h3,h4⟩|hd)
  ·have HF:Hid (eV C m w s.ad (.bool true) (.returned (.bool true)) w2):=.inl ⟨h1,rfl,h3,h4⟩;go_wp2;go_ret;exact .inr ⟨trivial,HF⟩
  ·have HF:Hid (eV C m w s.ad (.bool true) e w2):=.inr hd;obtain⟨-,rfl,-⟩:=hd;unfold a8 at*;go_wp2_with fail;exact⟨rfl,.inr ⟨trivial,HF⟩⟩
theorem dt(HN:gW C)(h:bj C m w s)(x:List UInt8)(hx:dV x=true):Calls prog 92 #[.pointer (some ⟨C.P,0,none⟩),.string (tx x)] w (eV C m w (bq (ai C.l) x s) (.tuple #[])):=by
 have HS:=ah (cY HN h x hx);have Jb:Hid (∀c,Calls prog 122 #[.pointer (some ⟨C.P,0,none⟩),.int .i64 c] w fun e w'=>e=a8 (c,((ai C.l s.i).pl:Int))/\w'=w):=fun c=>by
  obtain⟨tt,vl,h1,-⟩:=h.bx;exact dW h1 c
 have Jc:Hid (aC (ai C.l) x s=false->lv C w (bq (ai C.l) x s) (a8 (3,((ai C.l s.i).pl:Int))) w):=fun hi=>by
  obtain⟨h1,h2⟩:=vy h.al hi;exact⟨h1,by rw[h2],Kp.refl _ _⟩
 have Ja:Hid (aC (ai C.l) x s=true->bq (ai C.l) x s=s.ad):=qo;generalize tx x=xx at*;generalize ((ai C.l s.i).pl:Int)=pl at*;go_enter func92,ntmps92;go_wp2_with fail;refine HS.out.mono ?_;rintro e w1 (⟨hi,rfl,hw⟩|⟨hi,⟨h1,rfl,h3,h4⟩|hd⟩)
 ·rw[hw];have HF:=ah (Jc.out hi);go_wp2_with fail;refine(Jb.out 3).mono ?_;rintro e w2 ⟨rfl,hw⟩;rw[hw];unfold a8 at*;go_wp2_with fail;exact⟨rfl,.inr HF⟩
 ·have HF:Hid (eV C m w (bq (ai C.l) x s) (.tuple #[]) (.returned (.tuple #[])) w1):=by
   show eV _ _ _ _ _ _ _;rw[Ja.out hi];exact .inl ⟨h1,rfl,h3,h4⟩
  go_wp2_with fail;exact bodyPost_end (v:=.tuple #[]) (by simp[results,results92,go_sem]) rfl HF
 ·have HF:Hid (eV C m w (bq (ai C.l) x s) (.tuple #[]) e w1):=by
   show eV _ _ _ _ _ _ _;rw[Ja.out hi];exact .inr hd
  obtain⟨-,rfl,-⟩:=hd;unfold a8 at*;go_wp2_with fail;exact⟨rfl,HF⟩
end
section
variable{C:RC}{m:TV}{w:World}{s:PS}
theorem DQ(h:bj C m w s)(hk:dF (ai C.l s.i)=1∨dF (ai C.l s.i)=2):s.i<C.K:=by
 have h1:=h.wf;by_cases e:s.i=C.K
 ·exfalso
  have h4:=h.ok.las.at4;rw[<-e]at h4;have h5:=AG h.al;have hK:=(dE C.l s.i).2;have:(ai C.l s.i).kind=4:=o_;rcases hk with hk|hk <;> (unfold dF at hk;rw[if_pos this]at hk;cases hk)
 ·omega
theorem bj.reop(h:bj C m w s)(k:Int)(hk:0<=k/\k<=30):bj C m (w.setCell ⟨C.P,8,none⟩ (.int .i64 k)) {s with op:=k}/\am (fun q=>q=C.P) w (w.setCell ⟨C.P,8,none⟩ (.int .i64 k)):=by
 obtain⟨tt,vl,h1,h2⟩:=h.bx;obtain⟨h3,h4⟩:=h1.put h.ok (op':=k) 8 (.int .i64 k) rfl;exact⟨⟨h.ok,h.al,h.wf,hk,tt,vl,h3,h2⟩,h4⟩
theorem bj.cop(h:bj C m w s):w.cell? ⟨C.P,8,none⟩=some (.int .i64 s.op)/\w.frozen? ⟨C.P,8,none⟩=false:=by
 obtain⟨tt,vl,h1,-⟩:=h.bx;exact h1.box 8 _ rfl
theorem bj.cki(h:bj C m w s):w.cell? ⟨C.P,2,none⟩=some (.int .i64 (dF (ai C.l s.i))):=by
 obtain⟨tt,vl,h1,-⟩:=h.bx;exact(h1.box 2 _ rfl).1
theorem gB(h:bj C m w s)(c:Int):Calls prog 122 #[.pointer (some ⟨C.P,0,none⟩),.int .i64 c] w fun e w'=>e=a8 (c,((ai C.l s.i).pl:Int))/\w'=w:=by
 obtain⟨tt,vl,h1,-⟩:=h.bx;exact dW h1 c
theorem lw(HN:gW C)(h:bj C m w s){x:List UInt8}(hi:aC (ai C.l) x s=true):Calls prog 157 #[.pointer (some ⟨C.P,0,none⟩)] w (eV C m w (bA (ai C.l) x s) (.tuple #[])):=by
 have p8:=h.cop.1;have f8:=h.cop.2;by_cases ho:s.op=30
 ·obtain⟨h1,h2⟩:=yW hi ho;have HF:Hid (eV C m w (bA (ai C.l) x s) (.tuple #[]) (a8 (4,((ai C.l s.i).pl:Int))) w):=.inr ⟨h1,by rw[h2],Kp.refl _ _⟩;have Jc:=ah (gB h 4);rw[ho]at p8;clear h h1 h2;generalize ((ai C.l s.i).pl:Int)=pl at*;go_enter func157,ntmps157;go_wp2_with fail;refine Jc.out.mono ?_;rintro e w2 ⟨rfl,hw⟩;rw[hw];unfold a8 at*;go_wp2_with fail;exact⟨rfl,HF⟩
 ·have Jd:(s.op == 30)=false:=by simpa using ho
  have Je:=h.op;obtain⟨h1,t1⟩:=h.reop (s.op+1) o_;obtain⟨W1,Ja⟩:=q_ (w.setCell ⟨C.P,8,none⟩ (.int .i64 (s.op+1)));rw[<-Ja]at h1 t1;have HA:=ah (kE HN h1 (show s.i<C.K from qD h hi));rw[Bj hi ho];obtain⟨Ht,Jb,HW⟩:=h3 t1 (h.tb t1) Ja;clear h h1 t1 Ja hi;go_enter func157,ntmps157;go_upto_region 3 with fail;rw[<-HW.out];go_wp2_with fail;refine HA.out.mono ?_;rintro e w2 (⟨h1,rfl,h3,h4⟩|hd)
  ·have HF:Hid (eV C m w {s.ad with op:=s.op+1} (.tuple #[]) (.returned (.tuple #[])) w2):=.inl ⟨h1,rfl,h3,Ht.out.trans h4⟩;go_wp2_with fail;exact bodyPost_end (v:=.tuple #[]) (by simp[results,results157,go_sem]) rfl HF
  ·have HF:Hid (eV C m w {s.ad with op:=s.op+1} (.tuple #[]) e w2):=.inr (hd.later (Dm.refl _) Jb);obtain⟨-,rfl,-⟩:=hd;unfold a8 at*;go_wp2_with fail;exact⟨rfl,HF⟩
theorem eK(HN:gW C)(h:bj C m w s)(x:List UInt8)(hx:dV x=true):Calls prog 128 #[.pointer (some ⟨C.P,0,none⟩),.string (tx x)] w (eV C m w (bA (ai C.l) x s) (.tuple #[])):=by
 have HS:=ah (du h x hx);cases hi:aC (ai C.l) x s with
 | false=>
  obtain⟨h1,h2⟩:=AH h.al hi;have HF:Hid (eV C m w (bA (ai C.l) x s) (.tuple #[]) (a8 (3,((ai C.l s.i).pl:Int))) w):=.inr ⟨h1,by rw[h2],Kp.refl _ _⟩;have Ja:=ah (gB h 3);rw[hi]at HS;generalize ((ai C.l s.i).pl:Int)=pl at*;generalize tx x=xx at*;go_enter func128,ntmps128;go_wp2_with fail;refine HS.out.mono ?_;rintro e w1 ⟨rfl,hw⟩;rw[hw];go_wp2_with fail;refine Ja.out.mono ?_;rintro e w2 ⟨rfl,hw⟩;rw[hw];unfold a8 at*;go_wp2_with fail;exact⟨rfl,HF⟩
 | true=>
  have HA:=ah (lw HN h hi);rw[hi]at HS;generalize tx x=xx at*;go_enter func128,ntmps128;go_wp2_with fail;refine HS.out.mono ?_;rintro e w1 ⟨rfl,hw⟩;rw[hw];go_wp2_with fail;refine HA.out.mono ?_;rintro e w2 hg;have HF:=ah hg;rcases hg with⟨-,rfl,-⟩|⟨-,rfl,-⟩
  ·go_wp2_with fail;exact bodyPost_end (v:=.tuple #[]) (by simp[results,results128,go_sem]) rfl HF
  ·unfold a8 at*;go_wp2_with fail;exact⟨rfl,HF⟩
theorem eL(HN:gW C)(h:bj C m w s)(ho:1<=s.op)(x:List UInt8)(hx:dV x=true):Calls prog 130 #[.pointer (some ⟨C.P,0,none⟩),.string (tx x)] w (eV C m w (cO (ai C.l) x s) (.tuple #[])):=by
 have HE:=ah (dt HN h x hx);have Jb:=h.op;have Ja:Hid ((bq (ai C.l) x s).op=s.op):=ta_op _ _;unfold cO;generalize bq (ai C.l) x s=z at*;generalize tx x=xx at*;go_enter func130,ntmps130;go_wp2_with fail;refine HE.out.mono ?_;rintro e w1 (⟨h1,rfl,h3,h4⟩|hd)
 ·have p8:=h3.cop.1;have f8:=h3.cop.2;have hz:1<=z.op/\z.op<=30:=by have:=Ja.out;omega
  obtain⟨h5,t5⟩:=h3.reop (z.op-1) o_;have HF:Hid (eV C m w {z with op:=z.op-1} (.tuple #[]) (.returned (.tuple #[])) (w1.setCell ⟨C.P,8,none⟩ (.int .i64 (z.op-1)))):=.inl ⟨h1,rfl,h5,h4.trans t5⟩;go_wp2_with fail;exact bodyPost_end (v:=.tuple #[]) (by simp[results,results130,go_sem]) rfl HF
 ·have HF:Hid (eV C m w {z with op:=z.op-1} (.tuple #[]) e w1):=.inr (hd.later (mj _ _) (Kp.refl _ _));obtain⟨-,rfl,-⟩:=hd;unfold a8 at*;go_wp2_with fail;exact⟨rfl,HF⟩
end
section
variable{C:RC}{m:TV}{w:World}{s:PS}
def Co(kd:Int)(tt:ByteArray)(vl pl:Int):Value:=.agg #[.int .i64 kd,.string tt,.int .i64 vl,.int .i64 pl]
theorem mG(HN:gW C)(h:bj C m w s){tt:ByteArray}{vl:Int}(hb:jz C w (cw C.l (s.i+1):Int) (dF (ai C.l s.i)) tt vl ((ai C.l s.i).pl:Int) m s.op)(k:Int)(hk:k=1∨k=2):
  Calls prog 127 #[.pointer (some ⟨C.P,0,none⟩),.int .i64 k] w fun e w'=>(dF (ai C.l s.i)≠k/\e=a8 (3,((ai C.l s.i).pl:Int))/\Below w.heap.size w w')∨(dF (ai C.l s.i)=k/\eV C m w s.ad (Co k tt vl ((ai C.l s.i).pl:Int)) e w'):=by
 obtain⟨W1,Jf⟩:=q_ (w.alloc (.cells #[.int .i64 0,.string ⟨#[]⟩,.int .i64 0,.int .i64 0] 59));obtain⟨B1,Jn⟩:=q_ w.heap.size;obtain⟨W2,Jd⟩:=q_ (W1.alloc (.cells #[.int .i64 (dF (ai C.l s.i)),.string tt,.int .i64 vl,.int .i64 ((ai C.l s.i).pl:Int)] 59));obtain⟨B2,Jm⟩:=q_ W1.heap.size;have Ji:Bl w W1:=by rw[Jf];exact r_.alloc n_ _
 have Je:Bl W1 W2:=by rw[Jd];exact r_.alloc n_ _
 have Jk:aR W1 B1 [.int .i64 0,.string ⟨#[]⟩,.int .i64 0,.int .i64 0]:=by rw[Jf,Jn];exact aJ w #[.int .i64 0,.string ⟨#[]⟩,.int .i64 0,.int .i64 0] _ (by show 4<=1000;omega)
 have Jh:aR W2 B2 [.int .i64 (dF (ai C.l s.i)),.string tt,.int .i64 vl,.int .i64 ((ai C.l s.i).pl:Int)]:=by rw[Jd,Jm];exact aJ W1 #[.int .i64 (dF (ai C.l s.i)),.string tt,.int .i64 vl,.int .i64 ((ai C.l s.i).pl:Int)] _ (by show 4<=1000;omega)
 have Jb:=Jk.below Je;have Jl:Bl w W2:=Ji.trans (Je.mono Ji.size);have Jo:=h.below Jl;have Jc:=hb.below h.ok Ji;have p2:W1.cell? ⟨C.P,2,none⟩=some (.int .i64 (dF (ai C.l s.i))):=(Jc.box 2 _ rfl).1;have p3:W1.cell? ⟨C.P,3,none⟩=some (.string tt):=(Jc.box 3 _ rfl).1;have p4:W1.cell? ⟨C.P,4,none⟩=some (.int .i64 vl):=(Jc.box 4 _ rfl).1;have p5:W1.cell? ⟨C.P,5,none⟩=some (.int .i64 ((ai C.l s.i).pl:Int)):=(Jc.box 5 _ rfl).1;have y0:=(Jh 0 _ rfl).1;have hl:=h.lt;have Xe:B1≠C.P:=o_;have Xb:B1<W1.heap.size:=b_ (Jk 0 _ rfl).1;have Xc:B2<W2.heap.size:=b_ (Jh 0 _ rfl).1;obtain⟨Jt,J_,Jz,Jj,Xa⟩:=h5 (show B1<W2.heap.size/\B2<W2.heap.size/\B1≠C.P/\B2≠C.P/\B1≠B2/\w.heap.size<=B1 by have:=Je.size;omega) Jb Jh Jl (gB Jo 3);have Jw:Hid (dF (ai C.l s.i)=k->s.i<C.K):=fun e=>DQ h (by rcases hk with rfl|rfl;exact .inl e;exact .inr e);have HA:=ah fun (e:s.i<C.K)=>kE HN Jo e;obtain⟨Jx,Js,Jq,Jp,Jr⟩:=h5 (show C.B0<=w.heap.size from h.b0) Jf Jd Jn Jm;unfold Co;generalize dF (ai C.l s.i)=ki at*;generalize ((ai C.l s.i).pl:Int)=pl at*;clear Jf Jd Jn Jm Ji Je Jk Jh Jb Jl Jo Jc h hb Xe Xb Xc hl hk;by_cases hq:ki=k
 ·subst hq;have Xd:=ah (HA.out (Jw.out rfl));go_enter func127,ntmps127;go_upto_region 1 with fail;rw[<-Js.out,<-Jp.out];go_upto_region 2 with fail;rw[<-Jq.out,<-Jr.out];go_wp2_with fail;refine Xd.out.mono ?_;rintro e w3 (⟨h1,rfl,h3,h4⟩|hd)
  ·obtain⟨l1,l2,n1,n2,n3,n4⟩:=Jt.out;have Ja:=J_.out.tcs l1 h4 n1;have Jg:=Jz.out.tcs l2 h4 n2;have q0:=(Jg 0 _ rfl).1;have q1:=(Jg 1 _ rfl).1;have q2:=(Jg 2 _ rfl).1;have q3:=(Jg 3 _ rfl).1;have g0:=(Ja 0 _ rfl).1;have g1:=(Ja 1 _ rfl).1;have g2:=(Ja 2 _ rfl).1;have g3:=(Ja 3 _ rfl).1;have z0:=(Ja 0 _ rfl).2;have z1:=(Ja 1 _ rfl).2;have z2:=(Ja 2 _ rfl).2;have z3:=(Ja 3 _ rfl).2;obtain⟨X,hX⟩:=q_ ((((w3.setCell ⟨B1,0,none⟩ (.int .i64 ki)).setCell ⟨B1,1,none⟩ (.string tt)).setCell ⟨B1,2,none⟩ (.int .i64 vl)).setCell ⟨B1,3,none⟩ (.int .i64 pl));have hF:=((((Ja.set 0 (.int .i64 ki)).set 1 (.string tt)).set 2 (.int .i64 vl)).set 3 (.int .i64 pl));rw[<-hX]at hF;have t0:am (fun q=>q=B1) w3 X:=by
    rw[hX];exact((((am.refl (fun q=>q=B1) w3).setCell (p:=⟨B1,0,none⟩) rfl _).setCell (p:=⟨B1,1,none⟩) rfl _).setCell (p:=⟨B1,2,none⟩) rfl _).setCell (p:=⟨B1,3,none⟩) rfl _
   have Ju:C.P≠B1:=fun e=>n1 e.symm;have Jy:C.B0<=B1:=by have:=Jx.out;omega
   have h5:=h3.tcs t0 (fun e=>Ju e) (fun k hk=>by rw[hk];exact Jy);have ht:am (fun k=>k=C.P) w X:=((Jj.out.tcs (S:=fun k=>k=C.P)).trans h4).next t0 (fun k hk=>by rw[hk];exact .inr n4);have HF:Hid (eV C m w s.ad (.agg #[.int .i64 ki,.string tt,.int .i64 vl,.int .i64 pl]) (.returned (.agg #[.int .i64 ki,.string tt,.int .i64 vl,.int .i64 pl])) X):=.inl ⟨h1,rfl,h5,ht⟩;have v0:=(hF 0 _ rfl).1;have v1:=(hF 1 _ rfl).1;have v2:=(hF 2 _ rfl).1;have v3:=(hF 3 _ rfl).1;have Jv:=ah hX;go_wp2_with fail;rw[<-Jv.out];exact bodyPost_ret (v:=.agg #[.int .i64 ki,.string tt,.int .i64 vl,.int .i64 pl]) (by simp[results,results127,go_sem,v0,v1,v2,v3]) rfl (.inr ⟨trivial,HF⟩)
  ·have HF:Hid (eV C m w s.ad (.agg #[.int .i64 ki,.string tt,.int .i64 vl,.int .i64 pl]) e w3):=.inr (hd.later (Dm.refl _) (Kp.of Jj));obtain⟨-,rfl,-⟩:=hd;unfold a8 at*;go_wp2_with fail;exact⟨rfl,.inr ⟨trivial,HF⟩⟩
 ·have Xf:(ki != k)=true:=by simpa using hq
  have HQ:=ah hq;clear hq HA;go_enter func127,ntmps127;go_upto_region 1 with fail;rw[<-Js.out,<-Jp.out];go_upto_region 2 with fail;rw[<-Jq.out,<-Jr.out];go_wp2_with fail;refine Xa.out.mono ?_;rintro e w3 ⟨rfl,hw⟩;rw[hw];unfold a8 at*;go_wp2_with fail;exact⟨rfl,.inl ⟨HQ,rfl,Jj⟩⟩
theorem wL(kd:Int)(tt:ByteArray)(vl pl:Int)(W:World):(Instr.field 59 (Co kd tt vl pl) 1).run prog W=.ok (.string tt) W/\(Instr.field 59 (Co kd tt vl pl) 2).run prog W=.ok (.int .i64 vl) W:=by
 unfold Co;exact⟨k_,k_⟩
theorem gC(HN:gW C)(h:bj C m w s):Calls prog 93 #[.pointer (some ⟨C.P,0,none⟩)] w (eV C m w (aS (ai C.l) s).2 (.string (aS (ai C.l) s).1)):=by
 obtain⟨tt,vl,hb,ht,-⟩:=h.bx;have HT:=ah (mG HN h hb 1 (.inl rfl));have Ja:=vw (l:=C.l) (s:=s) (dB h.al);have Jc:Hid (dF (ai C.l s.i)≠1->∀W,Bl w W->eV C m w (aS (ai C.l) s).2 (.string (aS (ai C.l) s).1) (a8 (3,((ai C.l s.i).pl:Int))) W):=fun hk W hW=>by
  rw[decide_eq_false hk]at Ja;obtain⟨h1,h2⟩:=vA h.al Ja;exact .inr ⟨h1,by rw[h2],Kp.of hW⟩
 have Jb:Hid (dF (ai C.l s.i)=1->aS (ai C.l) s=(tt,s.ad)):=fun hk=>by
  rw[decide_eq_true hk]at Ja;show _=_;rw[Bk Ja,ht (.inl hk)]
 have hf:=fun W=>(wL 1 tt vl ((ai C.l s.i).pl:Int) W).1;unfold Co at HT hf;generalize ((ai C.l s.i).pl:Int)=pl at*;clear h hb ht Ja;go_enter func93,ntmps93;go_wp2_with fail;refine HT.out.mono ?_;rintro e w1 (⟨hk,rfl,hw⟩|⟨hk,hg⟩)
 ·have HF:=ah (Jc.out hk w1 hw);unfold a8 at*;go_wp2_with fail;exact⟨rfl,HF⟩
 ·rcases hg with⟨h1,rfl,h3,h4⟩|hd
  ·have HF:Hid (eV C m w (aS (ai C.l) s).2 (.string (aS (ai C.l) s).1) (.returned (.string tt)) w1):=by show eV _ _ _ _ _ _ _;rw[Jb.out hk];exact .inl ⟨h1,rfl,h3,h4⟩
   clear h1 h3 h4 hk Jb Jc;go_wp2;go_ret;exact HF
  ·have HF:Hid (eV C m w (aS (ai C.l) s).2 (.string (aS (ai C.l) s).1) e w1):=by show eV _ _ _ _ _ _ _;rw[Jb.out hk];exact .inr hd
   obtain⟨-,rfl,-⟩:=hd;unfold a8 at*;go_wp2_with fail;exact⟨rfl,HF⟩
theorem pw(HN:gW C)(h:bj C m w s):Calls prog 132 #[.pointer (some ⟨C.P,0,none⟩)] w (eV C m w (fZ (ai C.l) s).2 (.int .i64 (fZ (ai C.l) s).1)):=by
 obtain⟨tt,vl,hb,-,hv⟩:=h.bx;have HT:=ah (mG HN h hb 2 (.inr rfl));have Ja:=qm (t:=ai C.l s.i) (dE C.l s.i).1;have Jc:Hid (dF (ai C.l s.i)≠2->∀W,Bl w W->eV C m w (fZ (ai C.l) s).2 (.int .i64 (fZ (ai C.l) s).1) (a8 (3,((ai C.l s.i).pl:Int))) W):=fun hk W hW=>by
  obtain⟨h1,h2⟩:=DA h.al (fun e=>hk (Ja.2 e));exact .inr ⟨h1,by rw[h2],Kp.of hW⟩
 have Jb:Hid (dF (ai C.l s.i)=2->fZ (ai C.l) s=(vl,s.ad)):=fun hk=>by
  show _=_;rw[vB (dB h.al) (Ja.1 hk),hv (Ja.1 hk)]
 have hf:=fun W=>(wL 2 tt vl ((ai C.l s.i).pl:Int) W).2;unfold Co at HT hf;generalize ((ai C.l s.i).pl:Int)=pl at*;go_enter func132,ntmps132;go_wp2_with fail;refine HT.out.mono ?_;rintro e w1 (⟨hk,rfl,hw⟩|⟨hk,hg⟩)
 ·have HF:=ah (Jc.out hk w1 hw);unfold a8 at*;go_wp2_with fail;exact⟨rfl,HF⟩
 ·rcases hg with⟨h1,rfl,h3,h4⟩|hd
  ·have HF:Hid (eV C m w (fZ (ai C.l) s).2 (.int .i64 (fZ (ai C.l) s).1) (.returned (.int .i64 vl)) w1):=by show eV _ _ _ _ _ _ _;rw[Jb.out hk];exact .inl ⟨h1,rfl,h3,h4⟩
   go_wp2;go_ret;exact HF
  ·have HF:Hid (eV C m w (fZ (ai C.l) s).2 (.int .i64 (fZ (ai C.l) s).1) e w1):=by show eV _ _ _ _ _ _ _;rw[Jb.out hk];exact .inr hd
   obtain⟨-,rfl,-⟩:=hd;unfold a8 at*;go_wp2_with fail;exact⟨rfl,HF⟩
end
theorem uo:(prog.info? 218).map (·.size)=some fk.length:=by kernel_rfl
def zK(b:List UInt8×Int×Int×Int):Value:=.agg #[.string (tx b.1),.int .i64 b.2.1,.int .i64 b.2.2.1,.int .i64 b.2.2.2]
def fM(k:Nat):List UInt8×Int×Int×Int:=jK.getD k ([],0,0,0)
theorem wM(k:Nat)(hk:k<18)(W:World):(Instr.index 218 (.agg fk.toArray) (.int .i64 (k:Int))).run prog W=.ok (zK (fM k)) W:=by
 have:k=0∨k=1∨k=2∨k=3∨k=4∨k=5∨k=6∨k=7∨k=8∨k=9∨k=10∨k=11∨k=12∨k=13∨k=14∨k=15∨k=16∨k=17:=by omega
 rcases this with rfl|rfl|rfl|rfl|rfl|rfl|rfl|rfl|rfl|rfl|rfl|rfl|rfl|rfl|rfl|rfl|rfl|rfl <;> (show _=_;kernel_rfl)
theorem lx{k:Nat}(hk:k<18):fM k∈jK:=by
 unfold fM;have h:k<jK.length:=hk;simp only[List.getD,List.getElem?_eq_getElem h,Option.getD_some];exact g_ h
theorem zL{b:List UInt8×Int×Int×Int}(hb:b∈jK):∃k,k<18/\b=fM k:=by
 obtain⟨k,hk,rfl⟩:=List.getElem_of_mem hb;exact⟨k,hk,by unfold fM;simp only[List.getD,List.getElem?_eq_getElem hk,Option.getD_some]⟩
def E_(T:Nat->To)(s:PS)(e:Ending):Prop:=(gi T s=none/\e=.returned (.agg #[.string ⟨#[]⟩,.int .i64 0,.int .i64 0,.int .i64 0]))∨∃b,b∈jK/\gi T s=some (yZ b)/\e=.returned (zK b)
theorem nJ{C:RC}{m:TV}{w:World}{s:PS}(h:bj C m w s):Calls prog 201 #[.pointer (some ⟨C.P,0,none⟩)] w fun e w'=>E_ (ai C.l) s e/\Below w.heap.size w w':=by
 have Xg:w.rangeAt 7 0 fk:=by obtain⟨tt,vl,h1,-⟩:=h.bx;exact h1.bt
 obtain⟨W1,Jm⟩:=q_ (w.alloc (.cells #[.string ⟨#[]⟩,.int .i64 0,.int .i64 0,.int .i64 0] 206));obtain⟨B1,Js⟩:=q_ w.heap.size;have Xc:Bl w W1:=by rw[Jm];exact r_.alloc n_ _
 have Je:aR W1 B1 [.string ⟨#[]⟩,.int .i64 0,.int .i64 0,.int .i64 0]:=by rw[Jm,Js];exact aJ w #[.string ⟨#[]⟩,.int .i64 0,.int .i64 0,.int .i64 0] _ (by show 4<=1000;omega)
 have Xe:B1<W1.heap.size:=b_ (Je 0 _ rfl).1;have HR:Hid (W1.rangeAt 7 0 fk):=by show World.rangeAt _ _ _ _;rw[Jm];exact World.rangeAt_alloc Xg _
 have Jt:Hid (∀W x,Bl w W->dV x=true->∀n,Calls prog 94 #[.pointer (some ⟨C.P,0,none⟩),.string (tx x)] (W.drewN n) fun e w'=>e=.returned (.bool (aC (ai C.l) x s))/\w'=W.drewN n):=fun W x hW hx n=>du (h.below (⟨hW.1,hW.2,hW.3,hW.4,hW.5⟩:Bl w (W.drewN n))) x hx;have Xf:=ah Jm;have Xh:=ah Js;have Jn:=ah Je;have Xb:=ah Xc;have Jd:Hid (w.heap.size<=B1):=Nat.le_of_eq Js.symm;clear h Xg Jm Js Je Xc;go_enter func201,ntmps201;go_upto_region 1 with fail;rw[<-Xf.out,<-Xh.out];go_wp2_with(refine wpList_load_mid rfl 218 _ rfl 7 0 rfl fk _ HR.out underlying218 rfl uo ?_)
 generalize hC:fk.toArray=Cc;have HC:=ah hC;clear hC;go_wp2;go_loopw[4,6] (fun bx ix wr=>∃(k:Nat),k<=18/\ix=.int .i64 k/\(∀j,j<k->aC (ai C.l) (fM j).1 s=false)/\Bl w wr/\aR wr B1 [.string ⟨#[]⟩,.int .i64 0,.int .i64 0,.int .i64 0]/\B1<wr.heap.size) (fun _ ix _=>18-(RowKit.intOf ix).toNat)
 case atStart=>exact⟨0,o_,rfl,fun j hj=>absurd hj o_,Xb,Jn,Xe⟩
 case round=>
  clear Jn Xb Xf HR Xe;obtain⟨k,hk,rfl,Jp,Jg,hx,hl⟩:=hrel;have J_:=ah Jp;by_cases hlt:k<18
  ·have Jo:=wM k hlt;rw[HC.out]at Jo;have HM:=ah (lx hlt);have Xk:=ah (zb _ (List.mem_map.2 ⟨_,lx hlt,rfl⟩));have Jf:=ah (fun h=>ze (T:=ai C.l) (s:=s) (lx hlt) h);have Ju:Hid (aC (ai C.l) (fM k).1 s=false->∀j,j<k+1->aC (ai C.l) (fM j).1 s=false):=fun h j hj=>by
    by_cases e:j=k
    ·subst e;exact h
    ·exact J_.out j o_
   obtain⟨W2,Jk⟩:=q_ (wr.alloc (.cells #[.string (tx (fM k).1),.int .i64 (fM k).2.1,.int .i64 (fM k).2.2.1,.int .i64 (fM k).2.2.2] 206));obtain⟨B2,Jr⟩:=q_ wr.heap.size;have Jl:Bl wr W2:=by rw[Jk];exact r_.alloc n_ _
   have Jh:aR W2 B2 [.string (tx (fM k).1),.int .i64 (fM k).2.1,.int .i64 (fM k).2.2.1,.int .i64 (fM k).2.2.2]:=by rw[Jk,Jr];exact aJ wr #[.string (tx (fM k).1),.int .i64 (fM k).2.1,.int .i64 (fM k).2.2.1,.int .i64 (fM k).2.2.2] _ (by show 4<=1000;omega)
   have Jq:Bl w W2:=Jg.trans (Jl.mono Jg.size);have Ji:=ah (Jt.out W2 (fM k).1 Jq Xk);have Je:=hx.below Jl;have Xn:B2≠B1:=o_;unfold zK at Jo;generalize fM k=bb at*;obtain⟨bs,bt,bk,bv⟩:=bb;dsimp only at*;have y0:=(Jh 0 _ rfl).1;have y1:=(Jh 1 _ rfl).1;have y2:=(Jh 2 _ rfl).1;have y3:=(Jh 3 _ rfl).1;have Jz:=ah Jk;have Xd:=ah Jr;have Ja:=ah Jq;have Jn:=ah Je;have Xl:B1<W2.heap.size:=l_ hl Jl.size;have Xo:(k:Int)<18:=o_
   cases hi:aC (ai C.l) bs s with
   | false=>
    have Xj:=ah (Ju.out hi);have Jw:Hid (∀n,Calls prog 94 #[.pointer (some ⟨C.P,0,none⟩),.string (tx bs)] (W2.drewN n) fun e w'=>e=.returned (.bool false)/\w'=W2.drewN n):=by rw[hi]at Ji;exact Ji
    clear Jp Jg hx Jk Jr Jl Jh Jq Je Ju Jf Ji hi Jt;go_upto_region 4 with fail;rw[<-Jz.out,<-Xd.out];go_quiet ((go_at_call 94;exact Calls.quiet_of_same (Jw.out _)));go_wp2;go_roundw
    case rel=>exact⟨k+1,o_,by go_num,Xj,⟨Ja.out.1,Ja.out.2,Ja.out.3,Ja.out.4,Ja.out.5⟩,Jn,Xl⟩
    case measure=>simp[RowKit.intOf];omega
   | true=>
    have Xi:=ah (Jf.out hi);have Jw:Hid (∀n,Calls prog 94 #[.pointer (some ⟨C.P,0,none⟩),.string (tx bs)] (W2.drewN n) fun e w'=>e=.returned (.bool true)/\w'=W2.drewN n):=by rw[hi]at Ji;exact Ji
    clear Jp Jg hx Jk Jr Jl Jh Jq Je Ju Jf Ji hi Jt;go_upto_region 4 with fail;rw[<-Jz.out,<-Xd.out];go_quiet ((go_at_call 94;exact Calls.quiet_of_same (Jw.out _)));obtain⟨W3,Jc⟩:=q_ (W2.drewN nq);have Jb:aR W3 B1 [.string ⟨#[]⟩,.int .i64 0,.int .i64 0,.int .i64 0]:=by rw[Jc];exact Jn
    have Xa:Bl w W3:=by rw[Jc];exact⟨Ja.out.1,Ja.out.2,Ja.out.3,Ja.out.4,Ja.out.5⟩
    have u0:W3.cell? ⟨B2,0,none⟩=some (.string (tx bs)):=by rw[Jc];exact y0
    have u1:W3.cell? ⟨B2,1,none⟩=some (.int .i64 bt):=by rw[Jc];exact y1
    have u2:W3.cell? ⟨B2,2,none⟩=some (.int .i64 bk):=by rw[Jc];exact y2
    have u3:W3.cell? ⟨B2,3,none⟩=some (.int .i64 bv):=by rw[Jc];exact y3
    obtain⟨X,hX⟩:=q_ ((((W3.setCell ⟨B1,0,none⟩ (.string (tx bs))).setCell ⟨B1,1,none⟩ (.int .i64 bt)).setCell ⟨B1,2,none⟩ (.int .i64 bk)).setCell ⟨B1,3,none⟩ (.int .i64 bv));have hF:=((((Jb.set 0 (.string (tx bs))).set 1 (.int .i64 bt)).set 2 (.int .i64 bk)).set 3 (.int .i64 bv));rw[<-hX]at hF;have Jj:Bl w X:=by
     rw[hX];exact(((Xa.setCell (p:=⟨B1,0,none⟩) Jd.out _).setCell (p:=⟨B1,1,none⟩) Jd.out _).setCell (p:=⟨B1,2,none⟩) Jd.out _).setCell (p:=⟨B1,3,none⟩) Jd.out _
    have z0:=(Jb 0 _ rfl).2;have z1:=(Jb 1 _ rfl).2;have z2:=(Jb 2 _ rfl).2;have z3:=(Jb 3 _ rfl).2;have g0:=(Jb 0 _ rfl).1;have g1:=(Jb 1 _ rfl).1;have g2:=(Jb 2 _ rfl).1;have g3:=(Jb 3 _ rfl).1;have v0:=(hF 0 _ rfl).1;have v1:=(hF 1 _ rfl).1;have v2:=(hF 2 _ rfl).1;have v3:=(hF 3 _ rfl).1;have Jv:=ah hX;have Jy:=ah Jj;have Xm:=ah Jc;rw[<-Xm.out];clear hX hF Jj Jc Jb Xa y0 y1 y2 y3;go_wp2_with fail;rw[<-Jv.out];exact bodyPost_ret (v:=.agg #[.string (tx bs),.int .i64 bt,.int .i64 bk,.int .i64 bv]) (by simp[results,results201,go_sem,v0,v1,v2,v3]) rfl ⟨.inr ⟨_,HM,Xi,rfl⟩,Jy⟩
  ·obtain rfl:k=18:=by omega
   have Jx:Hid (gi (ai C.l) s=none):=vC fun b hb=>by
    obtain⟨k,hk,rfl⟩:=zL hb;exact J_.out k hk
   obtain⟨X,hX⟩:=q_ ((((wr.setCell ⟨B1,0,none⟩ (.string ⟨#[]⟩)).setCell ⟨B1,1,none⟩ (.int .i64 0)).setCell ⟨B1,2,none⟩ (.int .i64 0)).setCell ⟨B1,3,none⟩ (.int .i64 0));have hF:=((((hx.set 0 (.string ⟨#[]⟩)).set 1 (.int .i64 0)).set 2 (.int .i64 0)).set 3 (.int .i64 0));rw[<-hX]at hF;have Jj:Bl w X:=by
    rw[hX];exact(((Jg.setCell (p:=⟨B1,0,none⟩) Jd.out _).setCell (p:=⟨B1,1,none⟩) Jd.out _).setCell (p:=⟨B1,2,none⟩) Jd.out _).setCell (p:=⟨B1,3,none⟩) Jd.out _
   have z0:=(hx 0 _ rfl).2;have z1:=(hx 1 _ rfl).2;have z2:=(hx 2 _ rfl).2;have z3:=(hx 3 _ rfl).2;have g0:=(hx 0 _ rfl).1;have g1:=(hx 1 _ rfl).1;have g2:=(hx 2 _ rfl).1;have g3:=(hx 3 _ rfl).1;have v0:=(hF 0 _ rfl).1;have v1:=(hF 1 _ rfl).1;have v2:=(hF 2 _ rfl).1;have v3:=(hF 3 _ rfl).1;have Jv:=ah hX;have Jy:=ah Jj;clear hX hF Jj Jp Jg hx Jt;go_wp2_with fail;rw[<-Jv.out];exact bodyPost_ret (v:=.agg #[.string ⟨#[]⟩,.int .i64 0,.int .i64 0,.int .i64 0]) (by simp[results,results201,go_sem,v0,v1,v2,v3]) rfl ⟨.inl ⟨Jx,rfl⟩,Jy⟩
end Go.Proofs.YtlamjfhhefcohaaGreatDoor
