import Derived.Test.YtlamjfhhefcohaaGreatDoorP03
import Derived.Deep.Cut
namespace Go.Proofs.YtlamjfhhefcohaaGreatDoor
open Go.Proofs.Tryz
set_option linter.all false
set_option maxRecDepth 100000
set_option maxHeartbeats 16000000
section
open Go.RowKit
structure GT where
 P:Nat
 bT:Nat
 cT:Nat
 K:Nat
 T:Nat->To
structure Dk (w:World) (G:GT):Prop where
 c:∀j,j<=G.K->w.cell? ⟨G.bT,j*4,none⟩=some (.int .i64 (G.T j).kind)/\w.cell? ⟨G.bT,j*4+1,none⟩=some (.string (G.T j).text)/\w.cell? ⟨G.bT,j*4+2,none⟩=some (.int .i64 (G.T j).num)/\w.cell? ⟨G.bT,j*4+3,none⟩=some (.int .i64 ((G.T j).pl:Int))
def GT.box(G:GT)(s:PS):List Value:=[.slice (some ⟨G.bT,0,none⟩) (G.K+1) G.cT,.int .i64 (s.i:Int),.int .i64 s.op,.int .i64 s.er,.int .i64 s.pl]
structure aN (G:GT) (w:World) (s:PS):Prop where
 box:aR w G.P (G.box s)
 tok:Dk w G
 ne:G.bT≠G.P
 wf:s.i<=G.K
 kk:G.K<=1000000
 ob: -9000000<=s.op/\s.op<=9000000
theorem aN.lt{G:GT}{w:World}{s:PS}(h:aN G w s):G.P<w.heap.size/\G.bT<w.heap.size:=⟨b_ (h.box 0 _ rfl).1,b_ (h.tok.c 0 y_).1⟩
theorem Dk.tcs{S:Nat->Prop}{w w':World}{G:GT}(h:Dk w G)(ht:am S w w')(hn:¬S G.bT):Dk w' G:=⟨fun j hj=>by
 obtain⟨h1,h2,h3,h4⟩:=h.c j hj;have hb:=ht.block G.bT (b_ h1) hn;exact⟨(c_ (a:=⟨G.bT,_,none⟩) hb).trans h1,(c_ (a:=⟨G.bT,_,none⟩) hb).trans h2,(c_ (a:=⟨G.bT,_,none⟩) hb).trans h3,(c_ (a:=⟨G.bT,_,none⟩) hb).trans h4⟩⟩
theorem aN.tcs{G:GT}{S:Nat->Prop}{w w':World}{s:PS}(h:aN G w s)(ht:am S w w')(hP:¬S G.P)(hb:¬S G.bT):aN G w' s:=⟨h.box.tcs h.lt.1 ht hP,h.tok.tcs ht hb,h.ne,h.wf,h.kk,h.ob⟩
theorem aN.below{G:GT}{w w':World}{s:PS}(h:aN G w s)(hb:Below w.heap.size w w'):aN G w' s:=h.tcs (S:=fun _=>False) hb.tcs (fun h=>h) (fun h=>h)
theorem aN.put{G:GT}{w:World}{s s':PS}(h:aN G w s)(i:Nat)(u:Value)(he:(G.box s).set i u=G.box s')(hw:s'.i<=G.K)(ho: -9000000<=s'.op/\s'.op<=9000000):aN G (w.setCell ⟨G.P,i,none⟩ u) s'/\am (fun k=>k=G.P) w (w.setCell ⟨G.P,i,none⟩ u):=by
 have ht:am (fun k=>k=G.P) w (w.setCell ⟨G.P,i,none⟩ u):=(am.refl (fun k=>k=G.P) w).setCell (p:=⟨G.P,i,none⟩) rfl u;have hb:=h.box.set i u;rw[he]at hb;exact⟨⟨hb,h.tok.tcs ht h.ne,h.ne,hw,h.kk,ho⟩,ht⟩
theorem str_eq(a b:ByteArray):(a.toList == b.toList)=decide (a=b):=by
 by_cases h:a=b
 ·subst h;simp
 ·rw[decide_eq_false h,beq_eq_false_iff_ne];intro e;rw[ByteArray.toList_eq,ByteArray.toList_eq]at e;exact h (ByteArray.ext (Array.ext' e))
def AI(t:To):Value:=.agg #[.int .i64 t.kind,.string t.text,.int .i64 t.num,.int .i64 (t.pl:Int)]
theorem d7{G:GT}{w:World}{s:PS}(h:aN G w s):Calls prog 23 #[.pointer (some ⟨G.P,0,none⟩)] w fun e w'=>e=.returned (AI (G.T s.i))/\Below w.heap.size w w':=by
 obtain⟨W1,Jb⟩:=q_ (w.alloc (.cells #[.int .i64 0,.string ⟨#[]⟩,.int .i64 0,.int .i64 0] 55));obtain⟨B,hB⟩:=q_ w.heap.size;have Jc:Bl w W1:=by rw[Jb];exact r_.alloc n_ _
 have Ja:aR W1 B [.int .i64 0,.string ⟨#[]⟩,.int .i64 0,.int .i64 0]:=by rw[Jb,hB];exact aJ w _ _ (by show 4<=1000;omega)
 have h1:=h.below Jc;obtain⟨c0,c1,c2,c3⟩:=h1.tok.c s.i h1.wf;have p0:W1.cell? ⟨G.P,0,none⟩=some (.slice (some ⟨G.bT,0,none⟩) (G.K+1) G.cT):=(h1.box 0 _ rfl).1;have p1:W1.cell? ⟨G.P,1,none⟩=some (.int .i64 (s.i:Int)):=(h1.box 1 _ rfl).1;have Jh:(s.i:Int)<(G.K+1:Nat):=by have:=h.wf;omega
 have Jg:(0:Int)<=(s.i:Int):=o_;have hl:=h.lt;have n1:¬B=G.P:=o_;have n2:¬B=G.bT:=o_;obtain⟨y0,z0⟩:=Ja 0 _ rfl;obtain⟨y1,z1⟩:=Ja 1 _ rfl;obtain⟨y2,z2⟩:=Ja 2 _ rfl;obtain⟨y3,z3⟩:=Ja 3 _ rfl;obtain⟨HX,Je,HB,Jd⟩:=h4 Ja Jb hB Jc;unfold AI;generalize (G.T s.i).kind=tk at*;generalize (G.T s.i).text=tt at*;generalize (G.T s.i).num=tn at*;generalize ((G.T s.i).pl:Int)=tp at*;clear h h1 Jb hB Jc Ja;go_enter func23,ntmps23;go_upto_region 1 with fail;rw[<-Je.out,<-HB.out];go_region;go_wp2_with fail;obtain⟨X,hX⟩:=q_ (((((W1.setCell ⟨B,0,none⟩ (.int .i64 tk)).setCell ⟨B,1,none⟩ (.string tt)).setCell ⟨B,2,none⟩ (.int .i64 tn)).setCell ⟨B,3,none⟩ (.int .i64 tp)).drew);rw[<-hX];have hF:=((((HX.out.set 0 (.int .i64 tk)).set 1 (.string tt)).set 2 (.int .i64 tn)).set 3 (.int .i64 tp)).below r_.drew;have Jf:Bl w X:=by
  have hz:w.heap.size<=B:=Nat.le_of_eq HB.out.symm;rw[hX];exact((((Jd.out.setCell (p:=⟨B,0,none⟩) hz _).setCell (p:=⟨B,1,none⟩) hz _).setCell (p:=⟨B,2,none⟩) hz _).setCell (p:=⟨B,3,none⟩) hz _).drew
 rw[<-hX]at hF;have t0:=(hF 0 _ rfl).1;have t1:=(hF 1 _ rfl).1;have t2:=(hF 2 _ rfl).1;have t3:=(hF 3 _ rfl).1;exact bodyPost_ret (v:=.agg #[.int .i64 tk,.string tt,.int .i64 tn,.int .i64 tp]) (by simp[results,results23,go_sem,t0,t1,t2,t3]) rfl ⟨rfl,Jf⟩
theorem kX(t:To)(k:Nat)(x:Value)(hx: #[.int .i64 t.kind,.string t.text,.int .i64 t.num,.int .i64 (t.pl:Int)][k]? =some x)(hk:k<4)(W:World):(Instr.field 55 (AI t) k).run prog W=.ok x W:=by
 unfold AI;rcases(show k=0∨k=1∨k=2∨k=3 by omega)with rfl|rfl|rfl|rfl;all_goals
  simp at hx;subst hx;kernel_rfl
theorem ju{G:GT}{w:World}{s:PS}(h:aN G w s)(c:Int):Calls prog 82 #[.pointer (some ⟨G.P,0,none⟩),.int .i64 c] w fun e w'=>e=.returned (.tuple #[])/\aN G w' (h_ G.T c s)/\am (fun k=>k=G.P) w w':=by
 have p3:w.cell? ⟨G.P,3,none⟩=some (.int .i64 s.er):=(h.box 3 _ rfl).1;have f3:w.frozen? ⟨G.P,3,none⟩=false:=(h.box 3 _ rfl).2;by_cases h0:s.er=0
 ·rw[h0]at p3;have e1:h_ G.T c s={s with er:=if (G.T s.i).kind=5 then 2 else c,pl:=((G.T s.i).pl:Int)}:=by unfold h_;rw[if_pos h0]
  obtain⟨s9,Je⟩:=q_ (h_ G.T c s);rw[<-Je];rw[<-Je]at e1;have Jh:=ah e1;clear Je;obtain⟨h1,t1⟩:=h.put (s':= {s with er:=c}) 3 (.int .i64 c) rfl h.wf h.ob;obtain⟨W1,Jc⟩:=q_ (w.setCell ⟨G.P,3,none⟩ (.int .i64 c));rw[<-Jc]at h1 t1;have HT:=ah (d7 h1);have H1:=ah h1;have Jo:=ah t1;have Jk:=ah Jc;have Jj:=fun W=>kX (G.T s.i) 0 _ rfl d_ W;have Jp:=fun W=>kX (G.T s.i) 3 _ rfl d_ W;clear h h1 t1 Jc e1;go_enter func82,ntmps82;go_upto_region 2 with fail;rw[<-Jk.out];go_wp2_with fail;refine HT.out.mono ?_;rintro e w2 ⟨rfl,Jd⟩;have h2:=H1.out.below Jd;have t2:=Jo.out.of_below Jd;have Ji:=ah (d7 h2);have H2:=ah h2;have Jg:=ah t2;have q3:w2.cell? ⟨G.P,3,none⟩=some (.int .i64 c):=(h2.box 3 _ rfl).1;have g3:w2.frozen? ⟨G.P,3,none⟩=false:=(h2.box 3 _ rfl).2;clear h2 t2 Jd HT p3 f3;by_cases h5:(G.T s.i).kind=5
  ·obtain⟨h3,t3⟩:=H2.out.put (s':= {s with er:=2}) 3 (.int .i64 2) rfl H2.out.wf H2.out.ob;obtain⟨W3,Jf⟩:=q_ (w2.setCell ⟨G.P,3,none⟩ (.int .i64 2));rw[<-Jf]at h3 t3;have Jn:=ah (d7 h3);have H3:=ah h3;have Jl:=ah (Jg.out.trans t3);have Jm:=ah Jf;rw[h5]at Jj;have e9:s9={s with er:=2,pl:=((G.T s.i).pl:Int)}:=by rw[Jh.out,if_pos h5]
   have Jb:=ah e9;clear h3 t3 Jf Ji h5 e9;go_wp2_with fail;rw[<-Jm.out];refine Jn.out.mono ?_;rintro e w4 ⟨rfl,Ja⟩;have h4:=H3.out.below Ja;obtain⟨h6,t6⟩:=h4.put (s':= {s with er:=2,pl:=((G.T s.i).pl:Int)}) 4 (.int .i64 ((G.T s.i).pl:Int)) rfl h4.wf h4.ob;have r4:w4.cell? ⟨G.P,4,none⟩=some (.int .i64 s.pl):=(h4.box 4 _ rfl).1;have k4:w4.frozen? ⟨G.P,4,none⟩=false:=(h4.box 4 _ rfl).2;have HF:=ah (And.intro h6 ((Jl.out.of_below Ja).trans t6));clear h4 h6 t6 Ja q3 g3;go_wp2_with fail;exact bodyPost_end (v:=.tuple #[]) (by simp[results,results82,go_sem]) rfl ⟨rfl,by rw[Jb.out];exact HF.out.1,HF.out.2⟩
  ·have Jq:((G.T s.i).kind == 5)=false:=by simpa using h5
   have Jb:Hid (s9={s with er:=c,pl:=((G.T s.i).pl:Int)}):=by show _=_;rw[Jh.out,if_neg h5]
   clear h5;go_wp2_with fail;refine Ji.out.mono ?_;rintro e w4 ⟨rfl,Ja⟩;have h4:=H2.out.below Ja;obtain⟨h6,t6⟩:=h4.put (s':= {s with er:=c,pl:=((G.T s.i).pl:Int)}) 4 (.int .i64 ((G.T s.i).pl:Int)) rfl h4.wf h4.ob;have r4:w4.cell? ⟨G.P,4,none⟩=some (.int .i64 s.pl):=(h4.box 4 _ rfl).1;have k4:w4.frozen? ⟨G.P,4,none⟩=false:=(h4.box 4 _ rfl).2;have HF:=ah (And.intro h6 ((Jg.out.of_below Ja).trans t6));clear h4 h6 t6 Ja q3 g3;go_wp2_with fail;exact bodyPost_end (v:=.tuple #[]) (by simp[results,results82,go_sem]) rfl ⟨rfl,by rw[Jb.out];exact HF.out.1,HF.out.2⟩
 ·have Jr:(s.er != 0)=true:=by simpa using h0
  have e1:h_ G.T c s=s:=by unfold h_;rw[if_neg h0]
  rw[e1];have H:=ah h;clear h;go_enter func82,ntmps82;go_wp2_with fail;exact bodyPost_ret (v:=.tuple #[]) (by simp[results,results82,go_sem]) rfl ⟨rfl,H,am.refl _ _⟩
theorem aE{G:GT}{w:World}{s:PS}(h:aN G w s)(x:List UInt8):Calls prog 51 #[.pointer (some ⟨G.P,0,none⟩),.string (tx x)] w fun e w'=>e=.returned (.bool (aC G.T x s))/\Below w.heap.size w w':=by
 obtain⟨HT,H⟩:=h2 (d7 h) h;have Jg:decide ((G.T s.i).text=tx x)=true∨decide ((G.T s.i).text=tx x)=false:=by cases decide ((G.T s.i).text=tx x) <;> simp
 unfold AI at HT;obtain⟨b,hb⟩:=q_ (aC G.T x s);rw[<-hb];unfold aC yO at hb;have Ja:=ah hb;clear h hb;generalize htk:(G.T s.i).kind=tk at*;generalize htt:(G.T s.i).text=tt at*;generalize (G.T s.i).num=tn at*;generalize ((G.T s.i).pl:Int)=tp at*;clear htk htt;generalize tx x=xx at*;go_enter func51,ntmps51;go_wp2_with fail;refine HT.out.mono ?_;rintro e w2 ⟨rfl,Jb⟩;obtain⟨W3,Jc⟩:=q_ (w2.alloc (.cells #[.int .i64 tk,.string tt,.int .i64 tn,.int .i64 tp] 55));have Je:Bl w2 W3:=by rw[Jc];exact r_.alloc n_ _
 have Jd:aR W3 w2.heap.size [.int .i64 tk,.string tt,.int .i64 tn,.int .i64 tp]:=by rw[Jc];exact aJ w2 _ _ (by show 4<=1000;omega)
 have h3:=(H.out.below Jb).below Je;have p3:W3.cell? ⟨G.P,3,none⟩=some (.int .i64 s.er):=(h3.box 3 _ rfl).1;have c0:=(Jd 0 _ rfl).1;have c1:=(Jd 1 _ rfl).1;obtain⟨HB,Jf⟩:=h2 (Jb.trans (Je.mono Jb.size)) Jc;clear h3 Jd Je Jb Jc HT H;go_upto_region 2 with fail;rw[<-Jf.out];by_cases h0:s.er=0
 ·rw[h0]at p3;by_cases k1:tk=1
  ·subst k1;go_wp2;go_ret;exact⟨by rw[Ja.out];simp[h0,str_eq],HB⟩
  ·by_cases k3:tk=3
   ·subst k3;go_wp2;go_ret;exact⟨by rw[Ja.out];simp[h0,str_eq],HB⟩
   ·have e1:(tk == 1)=false:=by simpa using k1
    have e3:(tk == 3)=false:=by simpa using k3
    go_wp2;go_ret;exact⟨by rw[Ja.out];simp[k1,k3],HB⟩
 ·have e0:(s.er == 0)=false:=by simpa using h0
  go_wp2;go_ret;exact⟨by rw[Ja.out];simp[h0],HB⟩
theorem vL{G:GT}{w:World}{s:PS}{x:List UInt8}(h:aN G w s)(hK:aC G.T x s=true->s.i<G.K):Calls prog 49 #[.pointer (some ⟨G.P,0,none⟩),.string (tx x)] w fun e w'=>e=.returned (.tuple #[])/\aN G w' (bq G.T x s)/\am (fun k=>k=G.P) w w':=by
 obtain⟨HI,H⟩:=h2 (aE h x) h;unfold bq;generalize tx x=xx at*;cases hi:aC G.T x s with
 | true=>
  rw[hi]at HI;rw[if_pos rfl];have Jc:=hK hi;go_enter func49,ntmps49;go_wp2_with fail;refine HI.out.mono ?_;rintro e w2 ⟨rfl,Ja⟩;have h2:=H.out.below Ja;obtain⟨h3,t3⟩:=h2.put (s':=s.ad) 1 (.int .i64 ((s.i+1:Nat):Int)) rfl (by show s.i+1<=G.K;omega) h2.ob;have p1:w2.cell? ⟨G.P,1,none⟩=some (.int .i64 (s.i:Int)):=(h2.box 1 _ rfl).1;have f1:w2.frozen? ⟨G.P,1,none⟩=false:=(h2.box 1 _ rfl).2;have hk:=h2.kk;have HF:=ah (And.intro h3 ((Ja.tcs (S:=fun k=>k=G.P)).trans t3));have Jb:((s.i+1:Nat):Int)=(s.i:Int)+1:=o_;rw[Jb]at HF;go_wp2_with fail;exact bodyPost_end (v:=.tuple #[]) (by simp[results,results49,go_sem]) rfl ⟨rfl,HF.out.1,HF.out.2⟩
 | false=>
  rw[hi]at HI;rw[if_neg i_];go_enter func49,ntmps49;go_wp2_with fail;refine HI.out.mono ?_;rintro e w2 ⟨rfl,Ja⟩;obtain⟨HF,Hb⟩:=h2 (ju (H.out.below Ja) 3) (Ja.tcs (S:=fun k=>k=G.P));go_wp2_with fail;refine HF.out.mono ?_;rintro e w3 ⟨rfl,h3,t3⟩;have HE:=ah (And.intro h3 (Hb.out.trans t3));go_wp2_with fail;exact bodyPost_ret (v:=.tuple #[]) (by simp[results,results49,go_sem]) rfl ⟨rfl,HE.out.1,HE.out.2⟩
end
section
open Go.RowKit
variable{G:GT}{s:PS}{w:World}
theorem fQ(hL:ft G.T G.K){x:List UInt8}(h:s.i<=G.K)(hi:aC G.T x s=true):s.i<G.K:=(gj hL h hi).1
theorem ey(hL:ft G.T G.K)(h:aN G w s)(x:List UInt8):Calls prog 49 #[.pointer (some ⟨G.P,0,none⟩),.string (tx x)] w fun e w'=>e=.returned (.tuple #[])/\aN G w' (bq G.T x s)/\am (fun k=>k=G.P) w w':=vL h (fun hi=>fQ hL h.wf hi)
theorem ta_op{T:Nat->To}(x:List UInt8)(s:PS):(bq T x s).op=s.op:=by
 unfold bq h_ PS.ad
 (repeat' split) <;> rfl
theorem rS{T:Nat->To}(c:Int)(s:PS):(h_ T c s).op=s.op:=by
 unfold h_;split <;> rfl
theorem d8(hL:ft G.T G.K)(h:aN G w s)(ho: -8000000<=s.op/\s.op<=8000000)(x:List UInt8):Calls prog 54 #[.pointer (some ⟨G.P,0,none⟩),.string (tx x)] w fun e w'=>e=.returned (.tuple #[])/\aN G w' (bA G.T x s)/\am (fun k=>k=G.P) w w':=by
 have HI:=ah (aE h x);have H:=ah h;have HL:=ah hL;obtain⟨s1,Je⟩:=q_ ((if aC G.T x s=true/\s.op=30 then h_ G.T 4 s else s));have Jb:s1.op=s.op:=by rw[Je];split;exact rS _ _;rfl
 have e9:bA G.T x s={bq G.T x s1 with op:=s.op+1}:=by
  unfold bA;dsimp only;rw[<-Je,ta_op,Jb]
 obtain⟨s9,Ji⟩:=q_ (bA G.T x s);rw[<-Ji];rw[<-Ji]at e9;have Jf:=ah e9;have Jc:Hid (∀W,aN G W (bq G.T x s1)->aN G (W.setCell ⟨G.P,2,none⟩ (.int .i64 (s.op+1))) s9/\am (fun k=>k=G.P) W (W.setCell ⟨G.P,2,none⟩ (.int .i64 (s.op+1)))/\W.cell? ⟨G.P,2,none⟩=some (.int .i64 s.op)/\W.frozen? ⟨G.P,2,none⟩=false):=fun W hW=>by
  obtain⟨a,b⟩:=hW.put (s':= {bq G.T x s1 with op:=s.op+1}) 2 (.int .i64 (s.op+1)) rfl hW.wf (by show -9000000<=s.op+1/\s.op+1<=9000000;omega);rw[Jf.out];have hc:=hW.box 2 _ rfl;rw[ta_op,Jb]at hc;exact⟨a,b,hc.1,hc.2⟩
 have Jh:=ah fun W (hW:aN G W s1)=>ey HL.out hW x;have Jd:=ah Je;generalize tx x=xx at*;clear h hL Je Ji e9 Jb;cases hi:aC G.T x s with
 | false=>
  rw[hi]at HI;have e1:s1=s:=by rw[Jd.out,hi];simp
  subst e1;clear hi Jd Jf;go_enter func54,ntmps54;go_wp2_with fail;refine HI.out.mono ?_;rintro e w2 ⟨rfl,Ja⟩;have HT:=ah (Jh.out w2 (H.out.below Ja));have Hb:=ah (Ja.tcs (S:=fun k=>k=G.P));clear Ja HI;go_wp2_with fail;refine HT.out.mono ?_;rintro e w3 ⟨rfl,h3,t3⟩;obtain⟨h4,t4,c4,f4⟩:=Jc.out w3 h3;have HF:=ah (And.intro h4 ((Hb.out.trans t3).trans t4));clear h3 t3 h4 t4 HT;go_wp2_with fail;exact bodyPost_end (v:=.tuple #[]) (by simp[results,results54,go_sem]) rfl ⟨rfl,HF.out.1,HF.out.2⟩
 | true=>
  rw[hi]at HI;by_cases h30:s.op=30
  ·have e1:s1=h_ G.T 4 s:=by rw[Jd.out,hi,h30];simp
   have Jk:=ah e1;have Jl:(s.op == 30)=true:=by simpa using h30
   clear hi Jd e1 h30;go_enter func54,ntmps54;go_wp2_with fail;refine HI.out.mono ?_;rintro e w2 ⟨rfl,Ja⟩;have h2:=H.out.below Ja;have p2:w2.cell? ⟨G.P,2,none⟩=some (.int .i64 s.op):=(h2.box 2 _ rfl).1;have Jg:=ah (ju h2 4);rw[<-Jk.out]at Jg;have Hb:=ah (Ja.tcs (S:=fun k=>k=G.P));clear Ja HI h2;go_wp2_with fail;refine Jg.out.mono ?_;rintro e w3 ⟨rfl,h3,t3⟩;have HT:=ah (Jh.out w3 h3);have Jj:=ah t3;clear h3 t3 Jg p2;go_wp2_with fail;refine HT.out.mono ?_;rintro e w4 ⟨rfl,h4,t4⟩;obtain⟨h5,t5,c5,f5⟩:=Jc.out w4 h4;have HF:=ah (And.intro h5 (((Hb.out.trans Jj).trans t4).trans t5));clear h4 t4 h5 t5 HT;go_wp2_with fail;exact bodyPost_end (v:=.tuple #[]) (by simp[results,results54,go_sem]) rfl ⟨rfl,HF.out.1,HF.out.2⟩
  ·have e1:s1=s:=by rw[Jd.out];simp[h30]
   subst e1;have Jl:(s1.op == 30)=false:=by simpa using h30
   clear hi Jd Jf h30;go_enter func54,ntmps54;go_wp2_with fail;refine HI.out.mono ?_;rintro e w2 ⟨rfl,Ja⟩;have h2:=H.out.below Ja;have p2:w2.cell? ⟨G.P,2,none⟩=some (.int .i64 s1.op):=(h2.box 2 _ rfl).1;have HT:=ah (Jh.out w2 h2);have Hb:=ah (Ja.tcs (S:=fun k=>k=G.P));clear Ja HI h2;go_wp2_with fail;refine HT.out.mono ?_;rintro e w3 ⟨rfl,h3,t3⟩;clear p2;obtain⟨h4,t4,c4,f4⟩:=Jc.out w3 h3;have HF:=ah (And.intro h4 ((Hb.out.trans t3).trans t4));clear h3 t3 h4 t4 HT;go_wp2_with fail;exact bodyPost_end (v:=.tuple #[]) (by simp[results,results54,go_sem]) rfl ⟨rfl,HF.out.1,HF.out.2⟩
theorem dG(hL:ft G.T G.K)(h:aN G w s)(ho: -8000000<=s.op/\s.op<=8000000)(x:List UInt8):Calls prog 56 #[.pointer (some ⟨G.P,0,none⟩),.string (tx x)] w fun e w'=>e=.returned (.tuple #[])/\aN G w' (cO G.T x s)/\am (fun k=>k=G.P) w w':=by
 have HT:=ah (ey hL h x);have Ja:Hid (∀W,aN G W (bq G.T x s)->aN G (W.setCell ⟨G.P,2,none⟩ (.int .i64 (s.op-1))) (cO G.T x s)/\am (fun k=>k=G.P) W (W.setCell ⟨G.P,2,none⟩ (.int .i64 (s.op-1)))/\W.cell? ⟨G.P,2,none⟩=some (.int .i64 s.op)/\W.frozen? ⟨G.P,2,none⟩=false):=fun W hW=>by
  obtain⟨a,b⟩:=hW.put (s':=cO G.T x s) 2 (.int .i64 (s.op-1)) (by unfold cO;rw[ta_op];rfl) hW.wf (by unfold cO;dsimp only;rw[ta_op];omega);have hc:=hW.box 2 _ rfl;rw[ta_op]at hc;exact⟨a,b,hc.1,hc.2⟩
 generalize tx x=xx at*;go_enter func56,ntmps56;go_wp2_with fail;refine HT.out.mono ?_;rintro e w3 ⟨rfl,h3,t3⟩;obtain⟨h4,t4,c4,f4⟩:=Ja.out w3 h3;have HF:=ah (And.intro h4 (t3.trans t4));go_wp2_with fail;exact bodyPost_end (v:=.tuple #[]) (by simp[results,results56,go_sem]) rfl ⟨rfl,HF.out.1,HF.out.2⟩
end
section
section
variable{n:Nat}{k:PT}{s s':PS}{r:PR}
variable{T:Nat->To}
theorem on_op(x:List UInt8)(s:PS):(bA T x s).op=s.op+1:=by
 unfold bA;dsimp only;rw[ta_op];split
 ·rw[rS]
 ·rfl
theorem cl_op(x:List UInt8)(s:PS):(cO T x s).op=s.op-1:=by
 unfold cO;dsimp only;rw[ta_op]
theorem na_op(s:PS):(aS T s).2.op=s.op:=by
 unfold aS;split
 ·rfl
 ·exact rS _ _
theorem nu_op(s:PS):(fZ T s).2.op=s.op:=by
 unfold fZ;split
 ·rfl
 ·exact rS _ _
theorem ad_op(s:PS):s.ad.op=s.op:=rfl
theorem Pa.op(h:Pa T n k s r s'):s'.op=s.op:=by
 induction h using Pa_i with
 | ex n m s a s1 r s' h1 h2 i1 i2=>rw[i2,i1]
 | lpd n m o s h1=>rfl
 | lps n m o s h1 h2=>rfl
 | lpm n m o s x a s1 r s' h1 h2 h3 h4 h5 i4 i5=>rw[i5,i4,ad_op]
 | oun n k hk s a s' h1 h2 h3 i3=>show s'.op-1=s.op;rw[i3,on_op];omega
 | oud n k hk s h1 h2=>show(bA T _ s).op-1=s.op;rw[on_op];omega
 | prd n x y s h1=>rw[cl_op,on_op];omega
 | pre n x y s a s' h1 h2 i2=>rw[cl_op,i2,on_op];omega
 | opa n s r s' h1 h2 i2=>exact i2
 | oin n s h1=>rw[cl_op,on_op,ad_op];omega
 | onu n s h1 h2=>rfl
 | oix n s a s' h1 h2 h3 i3=>rw[i3,na_op]
 | oca n s r s' h1 h2 h3 h4 i4=>rw[i4,na_op]
 | ova n s h1 h2 h3=>exact na_op s
 | arg n x s a k s' h1 i1=>rw[cl_op,i1,on_op];omega
 | ald n k o s h1=>rfl
 | al0 n k o s h1 h0 h2=>rfl
 | ale n k o s a s' h1 h2 h3 h4 i3=>exact i3
 | alm n k o s a s1 r s' h1 h2 h3 h4 h5 i3 i5=>rw[i5,ad_op,i3]
 | blk n s a s' h1 i1=>rw[cl_op,i1,on_op];omega
 | bsd n o s h1=>rfl
 | bsm n o s a s1 r s' h1 h2 h3 h4 i3 i4=>rw[i4,i3]
 | sgd n t s h1=>rw[ta_op,ta_op]
 | sge n t s a s' h1 h2 i2=>rw[ta_op,i2,ta_op]
 | sin n s r s' h1 h2 i2=>rw[i2,na_op,ad_op]
 | sif n s a s1 b s2 h1 h2 h3 h4 i2 i3=>rw[i3,i2,ad_op]
 | sel n s a s1 b s2 c s' h1 h2 h3 h4 h5 i2 i3 i5=>rw[i5,ad_op,i3,i2,ad_op]
 | swh n s a s1 b s2 h1 h2 h3 i2 i3=>rw[i3,i2,ad_op]
 | sre n s a s' h1 h2 i2=>rw[ta_op,i2,ad_op]
 | sou n s a s' h1 h2 i2=>rw[ta_op,i2,ad_op]
 | sst n s a s1 r s' h1 h2 h3 h4 i3 i4=>rw[i4,i3,na_op]
 | sca n s a s' h1 h2 h3 h4 i4=>rw[ta_op,i4,na_op]
 | sse n s r s' h1 h2 h3 h4 i4=>rw[i4,na_op]
 | pld n o s h1=>rfl
 | ple n o s h1 h2 h3=>rw[na_op,ta_op]
 | plm n o s r s' h1 h2 h3 h4 i4=>rw[i4,ad_op,na_op,ta_op]
def PT.acc:PT->Nat
 | .inr (.inl (_, q)) =>q.length
 | .inr (.inr (.inr (.inr (.inr (.inl (_, q)))))) =>q.length
 | .inr (.inr (.inr (.inr (.inr (.inr (.inr (.inl q))))))) =>fJ q
 | .inr (.inr (.inr (.inr (.inr (.inr (.inr (.inr (.inr (.inr q))))))))) =>q.length
 | _=>0
theorem Pa.acc(h:Pa T n k s r s'):k.acc<=r.sz:=by
 induction h using Pa_i with
 | lpd n m o s h1=>exact n_
 | lps n m o s h1 h2=>exact n_
 | lpm n m o s x a s1 r s' h1 h2 h3 h4 h5 i4 i5=>simp only[PT.acc,l_a,List.length_singleton]at i5⊢;omega
 | ald n k o s h1=>exact n_
 | al0 n k o s h1 h0 h2=>exact n_
 | ale n k o s a s' h1 h2 h3 h4 i3=>simp only[PT.acc,PR.sz,l_a];omega
 | alm n k o s a s1 r s' h1 h2 h3 h4 h5 i3 i5=>simp only[PT.acc,l_a]at i5⊢;omega
 | bsd n o s h1=>exact n_
 | bsm n o s a s1 r s' h1 h2 h3 h4 i3 i4=>simp only[PT.acc,szS_app]at i4⊢;omega
 | pld n o s h1=>exact n_
 | ple n o s h1 h2 h3=>simp only[PT.acc,PR.sz,l_a];omega
 | plm n o s r s' h1 h2 h3 h4 i4=>simp only[PT.acc,l_a]at i4⊢;omega
 | _=>exact y_
end
end
section
open Go.RowKit
variable{G:GT}{w:World}{s:PS}
theorem aN.adv(h:aN G w s)(Ja:s.i<G.K):(aN G (w.setCell ⟨G.P,1,none⟩ (.int .i64 ((s.i:Int)+1))) s.ad/\am (fun k=>k=G.P) w (w.setCell ⟨G.P,1,none⟩ (.int .i64 ((s.i:Int)+1))))/\w.cell? ⟨G.P,1,none⟩=some (.int .i64 (s.i:Int))/\w.frozen? ⟨G.P,1,none⟩=false/\(s.i:Int)<=1000000:=by
 have e:(.int .i64 ((s.i:Int)+1):Value)=.int .i64 ((s.i+1:Nat):Int):=by congr 1
 rw[e];exact⟨h.put (s':=s.ad) 1 _ rfl (by show s.i+1<=G.K;omega) h.ob,(h.box 1 _ rfl).1,(h.box 1 _ rfl).2,by have:=h.kk;omega⟩
theorem AJ(hL:ft G.T G.K)(h:s.i<=G.K)(hk:(G.T s.i).kind<=3):s.i<G.K:=by
 by_cases e:s.i=G.K
 ·rw[e]at hk;have:=hL.at4;omega
 ·omega
theorem dv(hL:ft G.T G.K)(h:aN G w s):Calls prog 50 #[.pointer (some ⟨G.P,0,none⟩)] w fun e w'=>e=.returned (.string (aS G.T s).1)/\aN G w' (aS G.T s).2/\am (fun k=>k=G.P) w w':=by
 have HT:=ah (d7 h);have H:=ah h;obtain⟨x9,s9,Jo⟩:∃x9 s9,aS G.T s=(x9,s9):=⟨_,_,rfl⟩;rw[Jo];dsimp only;have Jk:=ah Jo;have Jm:Hid ((G.T s.i).kind=1->s.i<G.K):=fun e=>AJ hL h.wf o_;unfold AI at HT;obtain⟨tk,Jp⟩:=q_ ((G.T s.i).kind);obtain⟨tt,Jn⟩:=q_ ((G.T s.i).text);rw[<-Jp,<-Jn]at HT;have Ji:=ah Jp;have Jl:=ah Jn;generalize (G.T s.i).num=tn at*;generalize ((G.T s.i).pl:Int)=tp at*;have Jf:Hid (∀w2,Bl w w2->(aR (w2.alloc (.cells #[.int .i64 tk,.string tt,.int .i64 tn,.int .i64 tp] 55)) w2.heap.size [.int .i64 tk,.string tt,.int .i64 tn,.int .i64 tp])/\aN G (w2.alloc (.cells #[.int .i64 tk,.string tt,.int .i64 tn,.int .i64 tp] 55)) s/\Bl w (w2.alloc (.cells #[.int .i64 tk,.string tt,.int .i64 tn,.int .i64 tp] 55))):=fun w2 hb=>⟨aJ w2 _ _ (by show 4<=1000;omega),(h.below hb).below (aD _ _),hb.alloc hb.size _⟩;clear h hL Jo Jp Jn;by_cases hy:s.er=0/\tk=1/\dZ tt=false
 ·obtain⟨h0,h1,h2⟩:=hy;have e9:(x9,s9)=(tt,s.ad):=by
   rw[<-Jk.out];unfold aS vq;rw[<-Ji.out,<-Jl.out,h0,h1,h2];simp
  simp only[Prod.mk.injEq]at e9;obtain⟨rfl,rfl⟩:=e9;have Jq:=Jm.out (by rw[<-Ji.out];exact h1);subst h1;clear Jk Jm Ji Jl;go_enter func50,ntmps50;go_wp2_with fail;refine HT.out.mono ?_;rintro e w2 ⟨rfl,Je⟩;obtain⟨Jc,h3,Ja⟩:=Jf.out w2 Je;obtain⟨W3,Jb⟩:=q_ (w2.alloc (.cells #[.int .i64 1,.string x9,.int .i64 tn,.int .i64 tp] 55));obtain⟨B,hB⟩:=q_ w2.heap.size;rw[<-Jb,<-hB]at Jc;rw[<-Jb]at h3 Ja;have Jt:G.P<B:=by rw[hB];exact(H.out.below Je).lt.1
  have p3:W3.cell? ⟨G.P,3,none⟩=some (.int .i64 0):=by rw[<-h0];exact(h3.box 3 _ rfl).1
  have c0:=(Jc 0 _ rfl).1;have c1:=(Jc 1 _ rfl).1;obtain⟨h4,q1,f1,hi⟩:=h3.adv Jq;have nB:¬G.P=B:=o_;have Js:¬B=G.P:=o_;have HF:=ah (And.intro h4.1 ((Ja.tcs (S:=fun k=>k=G.P)).trans h4.2));have Jg:=ah Jb;have HB:=ah hB;clear h3 h4 Jc Ja Je Jb HT H Jf hB;go_upto_region 2 with fail;rw[<-Jg.out,<-HB.out];go_wp2_with(go_at_call 73;refine(ky _ _).mono ?_;rintro e w' ⟨rfl,rfl⟩;rw[h2]);go_ret;exact⟨rfl,HF.out.1,HF.out.2⟩
 ·have e9:(x9,s9)=(tx [],h_ G.T 3 s):=by
   rw[<-Jk.out];unfold aS vq;rw[<-Ji.out,<-Jl.out];rw[if_neg];simp only[Bool.and_eq_true,decide_eq_true_eq,Bool.not_eq_true'];exact fun h=>hy ⟨h.1.1,h.1.2,h.2⟩
  simp only[Prod.mk.injEq]at e9;obtain⟨rfl,rfl⟩:=e9;have Jr:s.er≠0∨(s.er=0/\tk≠1)∨(s.er=0/\tk=1/\dZ tt=true):=by
   by_cases h0:s.er=0
   ·by_cases h1:tk=1
    ·cases h2:dZ tt with
     | false=>exact absurd ⟨h0,h1,h2⟩ hy
     | true=>exact .inr (.inr ⟨h0,h1,rfl⟩)
    ·exact .inr (.inl ⟨h0,h1⟩)
   ·exact .inl h0
  clear Jk Jm Ji Jl hy;have Jd:=ah fun W (hW:Bl w W)=>ju (H.out.below hW) 3;have Jh:Hid (∀(v:Int) W,aN G W s->v=s.er->W.cell? ⟨G.P,3,none⟩=some (.int .i64 v)):=fun v W hW e=>by rw[e];exact(hW.box 3 _ rfl).1
  rcases Jr with h0|⟨h0,h1⟩|⟨h0,h1,h2⟩
  ·have e0:(s.er != 0)=true:=by simpa using h0
   go_enter func50,ntmps50;go_wp2_with fail;refine HT.out.mono ?_;rintro e w2 ⟨rfl,Je⟩;obtain⟨Jc,h3,Ja⟩:=Jf.out w2 Je;obtain⟨W3,Jb⟩:=q_ (w2.alloc (.cells #[.int .i64 tk,.string tt,.int .i64 tn,.int .i64 tp] 55));rw[<-Jb]at h3 Ja;have p3:=Jh.out s.er W3 h3 rfl;have HE:=ah (Jd.out W3 Ja);have Jj:=ah Ja;have Jg:=ah Jb;clear h3 Jc Ja Je Jb HT H Jf Jd Jh;go_upto_region 2 with fail;rw[<-Jg.out];go_wp2_with fail;refine HE.out.mono ?_;rintro e w4 ⟨rfl,h4,t4⟩;have HF:=ah (And.intro h4 ((Jj.out.tcs (S:=fun k=>k=G.P)).trans t4));clear h4 t4 HE p3;go_wp2;go_ret;exact⟨rfl,HF.out.1,HF.out.2⟩
  ·have e1:(tk != 1)=true:=by simpa using h1
   go_enter func50,ntmps50;go_wp2_with fail;refine HT.out.mono ?_;rintro e w2 ⟨rfl,Je⟩;obtain⟨Jc,h3,Ja⟩:=Jf.out w2 Je;obtain⟨W3,Jb⟩:=q_ (w2.alloc (.cells #[.int .i64 tk,.string tt,.int .i64 tn,.int .i64 tp] 55));obtain⟨B,hB⟩:=q_ w2.heap.size;rw[<-Jb]at h3 Ja;rw[<-Jb,<-hB]at Jc;have p3:=Jh.out 0 W3 h3 h0.symm;have c0:=(Jc 0 _ rfl).1;have HE:=ah (Jd.out W3 Ja);have Jj:=ah Ja;have Jg:=ah Jb;have HB:=ah hB;clear h3 Jc Ja Je Jb HT H Jf Jd Jh hB;go_upto_region 2 with fail;rw[<-Jg.out,<-HB.out];go_wp2_with fail;refine HE.out.mono ?_;rintro e w4 ⟨rfl,h4,t4⟩;have HF:=ah (And.intro h4 ((Jj.out.tcs (S:=fun k=>k=G.P)).trans t4));clear h4 t4 HE p3 c0;go_wp2;go_ret;exact⟨rfl,HF.out.1,HF.out.2⟩
  ·subst h1;go_enter func50,ntmps50;go_wp2_with fail;refine HT.out.mono ?_;rintro e w2 ⟨rfl,Je⟩;obtain⟨Jc,h3,Ja⟩:=Jf.out w2 Je;obtain⟨W3,Jb⟩:=q_ (w2.alloc (.cells #[.int .i64 1,.string tt,.int .i64 tn,.int .i64 tp] 55));obtain⟨B,hB⟩:=q_ w2.heap.size;rw[<-Jb]at h3 Ja;rw[<-Jb,<-hB]at Jc;have p3:=Jh.out 0 W3 h3 h0.symm;have c0:=(Jc 0 _ rfl).1;have c1:=(Jc 1 _ rfl).1;have HE:=ah (Jd.out W3 Ja);have Jj:=ah Ja;have Jg:=ah Jb;have HB:=ah hB;clear h3 Jc Ja Je Jb HT H Jf Jd Jh hB;go_upto_region 2 with fail;rw[<-Jg.out,<-HB.out];go_wp2_with(go_at_call 73;refine(ky _ _).mono ?_;rintro e w' ⟨rfl,rfl⟩;rw[h2])
   refine HE.out.mono ?_;rintro e w4 ⟨rfl,h4,t4⟩;have HF:=ah (And.intro h4 ((Jj.out.tcs (S:=fun k=>k=G.P)).trans t4));clear h4 t4 HE p3 c0 c1;go_wp2;go_ret;exact⟨rfl,HF.out.1,HF.out.2⟩
end
section
open Go.RowKit
theorem oQ{G:GT}(hL:ft G.T G.K){w:World}{s:PS}(h:aN G w s):Calls prog 55 #[.pointer (some ⟨G.P,0,none⟩)] w fun e w'=>e=.returned (.int .i64 (fZ G.T s).1)/\aN G w' (fZ G.T s).2/\am (fun k=>k=G.P) w w':=by
 have HT:=ah (d7 h);have H:=ah h;obtain⟨x9,s9,Jm⟩:∃x9 s9,fZ G.T s=(x9,s9):=⟨_,_,rfl⟩;rw[Jm];dsimp only;have Jj:=ah Jm;have Jl:Hid ((G.T s.i).kind=2->s.i<G.K):=fun e=>AJ hL h.wf o_;unfold AI at HT;obtain⟨tk,Jn⟩:=q_ ((G.T s.i).kind);obtain⟨tn,Jo⟩:=q_ ((G.T s.i).num);rw[<-Jn,<-Jo]at HT;have Jg:=ah Jn;have Ji:=ah Jo;generalize (G.T s.i).text=tt at*;generalize ((G.T s.i).pl:Int)=tp at*;have Jf:Hid (∀w2,Bl w w2->(aR (w2.alloc (.cells #[.int .i64 tk,.string tt,.int .i64 tn,.int .i64 tp] 55)) w2.heap.size [.int .i64 tk,.string tt,.int .i64 tn,.int .i64 tp])/\aN G (w2.alloc (.cells #[.int .i64 tk,.string tt,.int .i64 tn,.int .i64 tp] 55)) s/\Bl w (w2.alloc (.cells #[.int .i64 tk,.string tt,.int .i64 tn,.int .i64 tp] 55))):=fun w2 hb=>⟨aJ w2 _ _ (by show 4<=1000;omega),(h.below hb).below (aD _ _),hb.alloc hb.size _⟩;clear h hL Jm Jn Jo;by_cases hy:s.er=0/\tk=2
 ·obtain⟨h0,h1⟩:=hy;have e9:(x9,s9)=(tn,s.ad):=by
   rw[<-Jj.out];unfold fZ;rw[<-Jg.out,<-Ji.out,if_pos ⟨h0,h1⟩]
  simp only[Prod.mk.injEq]at e9;obtain⟨rfl,rfl⟩:=e9;have Jq:=Jl.out (by rw[<-Jg.out];exact h1);subst h1;clear Jj Jl Jg Ji;go_enter func55,ntmps55;go_wp2_with fail;refine HT.out.mono ?_;rintro e w2 ⟨rfl,Je⟩;obtain⟨Jc,h3,Ja⟩:=Jf.out w2 Je;obtain⟨W3,Jb⟩:=q_ (w2.alloc (.cells #[.int .i64 2,.string tt,.int .i64 x9,.int .i64 tp] 55));obtain⟨B,hB⟩:=q_ w2.heap.size;rw[<-Jb,<-hB]at Jc;rw[<-Jb]at h3 Ja;have Jt:G.P<B:=by rw[hB];exact(H.out.below Je).lt.1
  have p3:W3.cell? ⟨G.P,3,none⟩=some (.int .i64 0):=by rw[<-h0];exact(h3.box 3 _ rfl).1
  have c0:=(Jc 0 _ rfl).1;have c2:=(Jc 2 _ rfl).1;obtain⟨h4,q1,f1,hi⟩:=h3.adv Jq;have nB:¬G.P=B:=o_;have Js:¬B=G.P:=o_;have HF:=ah (And.intro h4.1 ((Ja.tcs (S:=fun k=>k=G.P)).trans h4.2));have Jh:=ah Jb;have HB:=ah hB;clear h3 h4 Jc Ja Je Jb HT H Jf hB;go_upto_region 2 with fail;rw[<-Jh.out,<-HB.out];go_wp2;go_ret;exact⟨rfl,HF.out.1,HF.out.2⟩
 ·have e9:(x9,s9)=(0,h_ G.T 3 s):=by
   rw[<-Jj.out];unfold fZ;rw[<-Jg.out,<-Ji.out,if_neg hy]
  simp only[Prod.mk.injEq]at e9;obtain⟨rfl,rfl⟩:=e9;have Jr:s.er≠0∨(s.er=0/\tk≠2):=by
   by_cases h0:s.er=0
   ·exact .inr ⟨h0,fun h=>hy ⟨h0,h⟩⟩
   ·exact .inl h0
  clear Jj Jl Jg Ji hy;have Jd:=ah fun W (hW:Bl w W)=>ju (H.out.below hW) 3;have Jk:Hid (∀(v:Int) W,aN G W s->v=s.er->W.cell? ⟨G.P,3,none⟩=some (.int .i64 v)):=fun v W hW e=>by rw[e];exact(hW.box 3 _ rfl).1
  rcases Jr with h0|⟨h0,h1⟩
  ·have e0:(s.er != 0)=true:=by simpa using h0
   go_enter func55,ntmps55;go_wp2_with fail;refine HT.out.mono ?_;rintro e w2 ⟨rfl,Je⟩;obtain⟨Jc,h3,Ja⟩:=Jf.out w2 Je;obtain⟨W3,Jb⟩:=q_ (w2.alloc (.cells #[.int .i64 tk,.string tt,.int .i64 tn,.int .i64 tp] 55));rw[<-Jb]at h3 Ja;have p3:=Jk.out s.er W3 h3 rfl;have HE:=ah (Jd.out W3 Ja);have Jp:=ah Ja;have Jh:=ah Jb;clear h3 Jc Ja Je Jb HT H Jf Jd Jk;go_upto_region 2 with fail;rw[<-Jh.out];go_wp2_with fail;refine HE.out.mono ?_;rintro e w4 ⟨rfl,h4,t4⟩;have HF:=ah (And.intro h4 ((Jp.out.tcs (S:=fun k=>k=G.P)).trans t4));clear h4 t4 HE p3;go_wp2;go_ret;exact⟨rfl,HF.out.1,HF.out.2⟩
  ·have e1:(tk != 2)=true:=by simpa using h1
   go_enter func55,ntmps55;go_wp2_with fail;refine HT.out.mono ?_;rintro e w2 ⟨rfl,Je⟩;obtain⟨Jc,h3,Ja⟩:=Jf.out w2 Je;obtain⟨W3,Jb⟩:=q_ (w2.alloc (.cells #[.int .i64 tk,.string tt,.int .i64 tn,.int .i64 tp] 55));obtain⟨B,hB⟩:=q_ w2.heap.size;rw[<-Jb]at h3 Ja;rw[<-Jb,<-hB]at Jc;have p3:=Jk.out 0 W3 h3 h0.symm;have c0:=(Jc 0 _ rfl).1;have HE:=ah (Jd.out W3 Ja);have Jp:=ah Ja;have Jh:=ah Jb;have HB:=ah hB;clear h3 Jc Ja Je Jb HT H Jf Jd Jk hB;go_upto_region 2 with fail;rw[<-Jh.out,<-HB.out];go_wp2_with fail;refine HE.out.mono ?_;rintro e w4 ⟨rfl,h4,t4⟩;have HF:=ah (And.intro h4 ((Jp.out.tcs (S:=fun k=>k=G.P)).trans t4));clear h4 t4 HE p3 c0;go_wp2;go_ret;exact⟨rfl,HF.out.1,HF.out.2⟩
end
end Go.Proofs.YtlamjfhhefcohaaGreatDoor
