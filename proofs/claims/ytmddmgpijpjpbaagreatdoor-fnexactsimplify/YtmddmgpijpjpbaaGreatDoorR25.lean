import Derived.Test.YtmddmgpijpjpbaaGreatDoorR24
import Derived.Deep.RegionHeld3
namespace Go.Proofs.YtmddmgpijpjpbaaGreatDoor
open Go.RowKit
set_option linter.unusedVariables false
set_option linter.unusedSimpArgs false
set_option maxRecDepth 100000
set_option maxHeartbeats 16000000
theorem ret_int' {k:IntKind} {a b:Int} (h:a=b):Ending.returned (.int k a) = .returned (.int k b):=by rw [h]
theorem markNodes_any (B T:Nat) (v:Value) (n k:Nat) (w:World) (hn:n<=1048576) (h0:0<k) (hk:(k:Int)+3*n<=1000000000) (h:PlainM B T 161 3 w v n) :
  Calls Tryz.prog 103 #[v,.int .i64 k] w fun e w'=>e = .returned (.int .i64 ((k+3*n:Nat):Int))/\Sh B T w w':=by
 have HP:=hide h
 obtain ⟨g,cur,rfl,-,-,-,-,-⟩:=h
 go_enter Tryz.func103,Tryz.ntmps103
 go_wp2_with fail
 go_loopw [1,5] (fun q i wr=>∃j:Nat,j<=n/\i = .int .i64 j/\q = .int .i64 ((k+3*j:Nat):Int)/\Sh B T w wr) (fun _ i _=>n-(intOf i).toNat)
 case atStart=>exact ⟨0,Nat.zero_le _,rfl,by simp,Sh.refl _ _ _⟩
 case round=>
  obtain ⟨j,hj,rfl,rfl,hS⟩:=hrel
  by_cases hlt:j<n
  ·have hP:=HP.out.sh hS
   generalize hq:k+3*j=q
   have hqb:(q:Int)+3<=1000000000:=by omega
   have hq0:0<q:=by omega
   have HQ:=hide hq
   obtain ⟨⟨y0,o0⟩,f0⟩:=hP.old (i:=j*3) (by omega)
   have s0:=hP.set (i:=j*3) (u:=.int .i64 ((q:Int))) (by omega) (plain_int _ _)
   have P0:=hP.sh s0
   have S0:=hS.trans s0
   obtain ⟨⟨y1,o1⟩,f1⟩:=P0.old (i:=j*3+1) (by omega)
   have s1:=P0.set (i:=j*3+1) (u:=.int .i64 ((q:Int)+1)) (by omega) (plain_int _ _)
   have P1:=P0.sh s1
   have S1:=S0.trans s1
   obtain ⟨⟨y2,o2⟩,f2⟩:=P1.old (i:=j*3+2) (by omega)
   have H2:=hide P1
   have HS2:=hide S1
   go_wp2_with fail
   rw [show ((q:Int)+1+1)=((q+2:Nat):Int) by omega]
   refine (mtext_any (q+2) (by omega) (by omega) _).mono ?_
   rintro e w2 ⟨rfl,hb2⟩
   have Q2:PlainM B T 161 3 w2 (.slice (some ⟨g,0,none⟩) n n) n:=PlainM.sh H2.out (Sh.of_below hb2)
   have R2:=HS2.out.trans (Sh.of_below hb2)
   obtain ⟨⟨z2,p2⟩,r2⟩:=Q2.old (i:=j*3+2) (by omega)
   have s2:=Q2.set (i:=j*3+2) (u:=.string (mtxt (q+2))) (by omega) (plain_str _)
   have P2:=Q2.sh s2
   have S2:=R2.trans s2
   have HF:=hide S2
   try clear hP
   try clear hS
   go_wp2_with fail
   go_roundw
   case rel=>exact ⟨j+1,by omega,by go_num,by rw [show k+3*(j+1)=q+3 by have:=HQ.out;omega];go_num,HF.out⟩
   case measure=>simp [intOf];omega
  ·go_wp2_with fail
   go_ret
   have hjn:j=n:=by omega
   exact ⟨ret_int' (by rw [hjn]),hS⟩
theorem markStrs_any (B T:Nat) (v:Value) (n k:Nat) (w:World) (hn:n<=1048576) (h0:0<k) (hk:(k:Int)+1*n<=1000000000) (h:PlainM B T 9 1 w v n) :
  Calls Tryz.prog 65 #[v,.int .i64 k] w fun e w'=>e = .returned (.int .i64 ((k+1*n:Nat):Int))/\Sh B T w w':=by
 have HP:=hide h
 obtain ⟨g,cur,rfl,-,-,-,-,-⟩:=h
 go_enter Tryz.func65,Tryz.ntmps65
 go_wp2_with fail
 go_loopw [1,5] (fun q i wr=>∃j:Nat,j<=n/\i = .int .i64 j/\q = .int .i64 ((k+1*j:Nat):Int)/\Sh B T w wr) (fun _ i _=>n-(intOf i).toNat)
 case atStart=>exact ⟨0,Nat.zero_le _,rfl,by simp,Sh.refl _ _ _⟩
 case round=>
  obtain ⟨j,hj,rfl,rfl,hS⟩:=hrel
  by_cases hlt:j<n
  ·have hP:=HP.out.sh hS
   generalize hq:k+1*j=q
   have hqb:(q:Int)+1<=1000000000:=by omega
   have hq0:0<q:=by omega
   have HQ:=hide hq
   obtain ⟨⟨y0,o0⟩,f0⟩:=hP.old (i:=j) (by omega)
   have H0:=hide hP
   have HS0:=hide hS
   go_wp2_with fail
   refine (mtext_any q (by omega) (by omega) _).mono ?_
   rintro e w0 ⟨rfl,hb0⟩
   have Q0:PlainM B T 9 1 w0 (.slice (some ⟨g,0,none⟩) n n) n:=PlainM.sh H0.out (Sh.of_below hb0)
   have R0:=HS0.out.trans (Sh.of_below hb0)
   obtain ⟨⟨z0,p0⟩,r0⟩:=Q0.old (i:=j) (by omega)
   have s0:=Q0.set (i:=j) (u:=.string (mtxt q)) (by omega) (plain_str _)
   have P0:=Q0.sh s0
   have S0:=R0.trans s0
   have HF:=hide S0
   try clear hP
   try clear hS
   go_wp2_with fail
   go_roundw
   case rel=>exact ⟨j+1,by omega,by go_num,by rw [show k+1*(j+1)=q+1 by have:=HQ.out;omega];go_num,HF.out⟩
   case measure=>simp [intOf];omega
  ·go_wp2_with fail
   go_ret
   have hjn:j=n:=by omega
   exact ⟨ret_int' (by rw [hjn]),hS⟩
theorem markGlobs_any (B T:Nat) (v:Value) (n k:Nat) (w:World) (hn:n<=1048576) (h0:0<k) (hk:(k:Int)+2*n<=1000000000) (h:PlainM B T 58 2 w v n) :
  Calls Tryz.prog 37 #[v,.int .i64 k] w fun e w'=>e = .returned (.int .i64 ((k+2*n:Nat):Int))/\Sh B T w w':=by
 have HP:=hide h
 obtain ⟨g,cur,rfl,-,-,-,-,-⟩:=h
 go_enter Tryz.func37,Tryz.ntmps37
 go_wp2_with fail
 go_loopw [1,5] (fun q i wr=>∃j:Nat,j<=n/\i = .int .i64 j/\q = .int .i64 ((k+2*j:Nat):Int)/\Sh B T w wr) (fun _ i _=>n-(intOf i).toNat)
 case atStart=>exact ⟨0,Nat.zero_le _,rfl,by simp,Sh.refl _ _ _⟩
 case round=>
  obtain ⟨j,hj,rfl,rfl,hS⟩:=hrel
  by_cases hlt:j<n
  ·have hP:=HP.out.sh hS
   generalize hq:k+2*j=q
   have hqb:(q:Int)+2<=1000000000:=by omega
   have hq0:0<q:=by omega
   have HQ:=hide hq
   obtain ⟨⟨y0,o0⟩,f0⟩:=hP.old (i:=j*2) (by omega)
   have H0:=hide hP
   have HS0:=hide hS
   go_wp2_with fail
   refine (mtext_any q (by omega) (by omega) _).mono ?_
   rintro e w0 ⟨rfl,hb0⟩
   have Q0:PlainM B T 58 2 w0 (.slice (some ⟨g,0,none⟩) n n) n:=PlainM.sh H0.out (Sh.of_below hb0)
   have R0:=HS0.out.trans (Sh.of_below hb0)
   obtain ⟨⟨z0,p0⟩,r0⟩:=Q0.old (i:=j*2) (by omega)
   have s0:=Q0.set (i:=j*2) (u:=.string (mtxt q)) (by omega) (plain_str _)
   have P0:=Q0.sh s0
   have S0:=R0.trans s0
   obtain ⟨⟨y1,o1⟩,f1⟩:=P0.old (i:=j*2+1) (by omega)
   have s1:=P0.set (i:=j*2+1) (u:=.int .i64 ((q:Int)+1)) (by omega) (plain_int _ _)
   have P1:=P0.sh s1
   have S1:=S0.trans s1
   have HF:=hide S1
   try clear hP
   try clear hS
   go_wp2_with fail
   go_roundw
   case rel=>exact ⟨j+1,by omega,by go_num,by rw [show k+2*(j+1)=q+2 by have:=HQ.out;omega];go_num,HF.out⟩
   case measure=>simp [intOf];omega
  ·go_wp2_with fail
   go_ret
   have hjn:j=n:=by omega
   exact ⟨ret_int' (by rw [hjn]),hS⟩
def cntS (s:St):Nat:=4+3*s.e.length+3*s.f.length
def cntF (f:Fu):Nat:=1+f.params.length+sumBy cntS f.body
def cntT (t:Tr):Nat:=2*t.globals.length+sumBy cntF t.funcs
theorem sumBy_le_mul {α:Type} (f g:α->Nat) (c:Nat) (l:List α) (h : ∀x∈l,f x<=c*g x+c):sumBy f l<=c*(l.length+sumBy g l):=by
 induction l with
 | nil=>simp [sumBy]
 | cons x r ih=>
  have h1:=h x (by simp)
  have h2:=ih (fun y hy=>h y (by simp [hy]))
  simp only [sumBy,l_c]
  have e:c*(r.length+1+(g x+sumBy g r))=c*(r.length+sumBy g r)+(c*g x+c):=by
   simp only [Nat.mul_add,Nat.mul_one];omega
  rw [e];omega
theorem cntS_le (s:St):cntS s<=4*szSt s+4:=by unfold cntS szSt szNs;omega
theorem cntF_le (f:Fu):cntF f<=4*szFu f+4:=by
 have:=sumBy_le_mul cntS szSt 4 f.body (fun s _=>cntS_le s)
 unfold cntF szFu szPs szSs
 omega
theorem cntT_le (t:Tr):cntT t<=4*szT t:=by
 have:=sumBy_le_mul cntF szFu 4 t.funcs (fun f _=>cntF_le f)
 unfold cntT szT szGs szFs
 omega
theorem markStmts_any (B T:Nat) (v:Value) (ss:List St) (k:Nat) (w:World) (hn:ss.length<=1048576) (hsm : ∀s∈ss,smallS s) (h0:0<k) (hk:(k:Int)+(sumBy cntS ss:Nat)<=1000000000) (h:StmtsM B T w v ss) :
  Calls Tryz.prog 66 #[v,.int .i64 k] w fun e w'=>e = .returned (.int .i64 ((k+sumBy cntS ss:Nat):Int))/\Sh B T w w':=by
 have HP:=hide h
 have HSM:=hide hsm
 have HK:=hide hk
 obtain ⟨g,cur,rfl,-,-,-,-,-⟩:=h
 clear hsm hk
 go_enter Tryz.func66,Tryz.ntmps66
 go_wp2_with fail
 go_loopw [1,5] (fun q i wr=>∃j:Nat,j<=ss.length/\i = .int .i64 j/\q = .int .i64 ((k+sumBy cntS (ss.take j):Nat):Int)/\Sh B T w wr) (fun _ i _=>ss.length-(intOf i).toNat)
 case atStart=>exact ⟨0,Nat.zero_le _,rfl,by simp [sumBy],Sh.refl _ _ _⟩
 case round=>
  obtain ⟨j,hj,rfl,rfl,hS⟩:=hrel
  by_cases hlt:j<ss.length
  ·have HP0:Hid (StmtsM B T wr (.slice (some ⟨g,0,none⟩) ss.length ss.length) ss):=HP.out.sh hS
   have HST:Hid _:=sumBy_step cntS ss j hlt
   have hle:=sumBy_le cntS ss (j+1)
   have hsm:=HSM.out ss[j] (List.getElem_mem hlt)
   have hcs:cntS ss[j]=4+3*ss[j].e.length+3*ss[j].f.length:=rfl
   have hqb:((k+sumBy cntS (ss.take j):Nat):Int)+4+3*ss[j].e.length+3*ss[j].f.length<=1000000000:=by
    have h1:=HST.out
    have h2:=HK.out
    omega
   have hq0:0<k+sumBy cntS (ss.take j):=by omega
   have HC:=hide hcs
   have hse:=hsm.1
   have hsf:=hsm.2
   clear hle hcs hsm
   obtain ⟨ve0,vf0,-,-,-,-,P0⟩:=HP0.out.at j hlt
   obtain ⟨⟨y0,o0⟩,f0,s0⟩:=P0 0 (by simp)
   have HP1:Hid (StmtsM B T (wr.setCell ⟨g,j*6,none⟩ (.int .i64 ((k+sumBy cntS (ss.take j):Nat):Int))) (.slice (some ⟨g,0,none⟩) ss.length ss.length) ss):=HP0.out.sh (s0 _ (plain_int _ _))
   have HS1:Hid (Sh B T w (wr.setCell ⟨g,j*6,none⟩ (.int .i64 ((k+sumBy cntS (ss.take j):Nat):Int)))):=hS.trans (s0 _ (plain_int _ _))
   generalize hq:k+sumBy cntS (ss.take j)=q at hqb hq0 HP1 HS1 ⊢
   have HQ:=hide hq
   generalize hne:ss[j].e.length=ne at hse hqb HC
   generalize hnf:ss[j].f.length=nf at hsf hqb HC
   have HNE:=hide hne
   have HNF:=hide hnf
   clear hq hne hnf P0 s0 HP0
   rw [Nat.add_zero] at o0 f0
   go_wp2_with fail
   rw [show ((q:Int)+1)=((q+1:Nat):Int) by omega]
   refine (mtext_any (q+1) (by omega) (by omega) _).mono ?_
   rintro e w1 ⟨rfl,hb1⟩
   have HP2:Hid (StmtsM B T w1 (.slice (some ⟨g,0,none⟩) ss.length ss.length) ss):=HP1.out.sh (Sh.of_below hb1)
   have HS2:Hid (Sh B T w w1):=HS1.out.trans (Sh.of_below hb1)
   obtain ⟨ve,vf,c2,c3,pe,pf,P1⟩:=HP2.out.at j hlt
   obtain ⟨⟨y1,o1⟩,f1,s1⟩:=P1 1 (by simp)
   have HP3:Hid (StmtsM B T (w1.setCell ⟨g,j*6+1,none⟩ (.string (mtxt (q+1)))) (.slice (some ⟨g,0,none⟩) ss.length ss.length) ss):=HP2.out.sh (s1 _ (plain_str _))
   have HS3:Hid (Sh B T w (w1.setCell ⟨g,j*6+1,none⟩ (.string (mtxt (q+1))))):=HS2.out.trans (s1 _ (plain_str _))
   have HPE:Hid (PlainM B T 161 3 (w1.setCell ⟨g,j*6+1,none⟩ (.string (mtxt (q+1)))) ve ne):=by rw [<-HNE.out];exact pe.sh (s1 _ (plain_str _))
   obtain ⟨ae,lne,cne,rfl⟩:=pe.isSlice
   obtain ⟨af,lnf,cnf,rfl⟩:=pf.isSlice
   clear P1 s1 pe pf o0 f0 HP1 HS1 hb1
   go_wp2_with fail
   rw [show ((q:Int)+1+1)=((q+2:Nat):Int) by omega]
   refine (markNodes_any B T _ ne (q+2) _ hse (by omega) (by omega) HPE.out).mono ?_
   rintro e w2 ⟨rfl,sh2⟩
   generalize hq2:q+2+3*ne=q2
   have hq2b:(q2:Int)+2+3*nf<=1000000000:=by omega
   have hq20:0<q2:=by omega
   have HQ2:=hide hq2
   clear hq2
   have HP4:=hide (HP3.out.sh sh2)
   have HS4:Hid (Sh B T w w2):=HS3.out.trans sh2
   obtain ⟨ve',vf',-,d3,-,pf',-⟩:=HP4.out.at j hlt
   have HPF:Hid (PlainM B T 161 3 w2 vf' nf):=by rw [<-HNF.out];exact pf'
   obtain ⟨af',lnf',cnf',rfl⟩:=pf'.isSlice
   clear c2 c3 o1 f1 HP3 HS3 sh2 pf'
   go_wp2_with fail
   refine (markNodes_any B T _ nf q2 _ hsf (by omega) (by omega) HPF.out).mono ?_
   rintro e w3 ⟨rfl,sh3⟩
   have HP5:Hid (StmtsM B T w3 (.slice (some ⟨g,0,none⟩) ss.length ss.length) ss):=HP4.out.sh sh3
   have HS5:Hid (Sh B T w w3):=HS4.out.trans sh3
   obtain ⟨_,_,-,-,-,-,P4⟩:=HP5.out.at j hlt
   obtain ⟨⟨y4,o4⟩,f4,s4⟩:=P4 4 (by simp)
   generalize hr:q2+3*nf=r
   have hrb:(r:Int)+2<=1000000000:=by omega
   have HRR:=hide hr
   clear hr
   have HP6:Hid (StmtsM B T (w3.setCell ⟨g,j*6+4,none⟩ (.int .i64 (r:Int))) (.slice (some ⟨g,0,none⟩) ss.length ss.length) ss):=HP5.out.sh (s4 _ (plain_int _ _))
   have HS6:Hid (Sh B T w (w3.setCell ⟨g,j*6+4,none⟩ (.int .i64 (r:Int)))):=HS5.out.trans (s4 _ (plain_int _ _))
   obtain ⟨_,_,-,-,-,-,P5⟩:=HP6.out.at j hlt
   obtain ⟨⟨y5,o5⟩,f5,s5⟩:=P5 5 (by simp)
   have HS7:Hid (Sh B T w ((w3.setCell ⟨g,j*6+4,none⟩ (.int .i64 (r:Int))).setCell ⟨g,j*6+5,none⟩ (.int .i64 ((r:Int)+1)))):=HS6.out.trans (s5 _ (plain_int _ _))
   clear P4 P5 s4 s5 d3 sh3
   go_wp2_with fail
   go_roundw
   case rel=>
    refine ⟨j+1,by omega,by go_num,?_,HS7.out⟩
    have h1:=HST.out
    have h2:=HC.out
    have h3:=HQ.out
    have h4:=HRR.out
    have h5:=HQ2.out
    rw [show k+sumBy cntS (ss.take (j+1))=r+2 by omega]
    go_num
   case measure=>simp [intOf];omega
  ·have hjn:ss.take j=ss:=List.take_of_length_le (by omega)
   go_wp2_with fail
   go_ret
   exact ⟨ret_int' (by rw [hjn]),hS⟩
theorem bcell {W w1:World} (hb:Below W.heap.size W w1):(∀b o,b<W.heap.size->w1.cell? ⟨b,o,none⟩=W.cell? ⟨b,o,none⟩)/\(∀b o,b<W.heap.size->w1.frozen? ⟨b,o,none⟩=W.frozen? ⟨b,o,none⟩):=
 ⟨fun b o h=>hb.cell (p:=⟨b,o,none⟩) h,fun b o h=>hb.frozen (p:=⟨b,o,none⟩) h⟩
theorem eqNode_any (n:Nd) (w:World):Calls Tryz.prog 186 #[.agg #[.int .i64 n.kind,.int .i64 n.val,.string n.name],.agg #[.int .i64 n.kind,.int .i64 n.val,.string n.name]] w fun e w'=>e = .returned (.bool true)/\Below w.heap.size w w':=by
 obtain ⟨k,v,s⟩:=n
 simp only
 go_enter Tryz.func186,Tryz.ntmps186
 go_wp2_with fail
 go_ret
 exact ⟨rfl,(bel_a _ _).alloc (by simp) _⟩
theorem eqNodes_any (v1 v2:Value) (ns:List Nd) (w:World) (hl:ns.length<=1048576) (h1:Nodes w v1 ns) (h2:Nodes w v2 ns) :
  Calls Tryz.prog 165 #[v1,v2] w fun e w'=>e = .returned (.bool true)/\Below w.heap.size w w':=by
 obtain ⟨a1,c1,rfl,-,-,hc1⟩:=h1
 obtain ⟨a2,c2,rfl,-,-,hc2⟩:=h2
 have H1:=hide hc1
 have H2:=hide hc2
 go_enter Tryz.func165,Tryz.ntmps165
 go_wp2_with fail
 go_loopw [5] (fun i wr=>∃k:Nat,k<=ns.length/\i = .int .i64 k/\Bl w wr) (fun i _=>ns.length-(intOf i).toNat)
 case atStart=>exact ⟨0,Nat.zero_le _,rfl,Below.refl _ _⟩
 case round=>
  obtain ⟨k,hk,rfl,hB⟩:=hrel
  by_cases hlt:k<ns.length
  ·obtain ⟨b1,o1,rfl,hx1⟩:=H1.out (by omega)
   obtain ⟨b2,o2,rfl,hx2⟩:=H2.out (by omega)
   obtain ⟨d0,d1,d2⟩:=(hx1.below hB) k hlt
   obtain ⟨e0,e1,e2⟩:=(hx2.below hB) k hlt
   have l1:=World.block_lt_of_cell? _ _ d0
   have l2:=World.block_lt_of_cell? _ _ e0
   simp only at l1 l2
   generalize ns[k]=n at d0 d1 d2 e0 e1 e2
   go_wp2_with fail
   go_region_held3 (fun W=>W.cell? ⟨b1,o1+k*3,none⟩=some (.int .i64 n.kind)/\W.cell? ⟨b1,o1+k*3+1,none⟩=some (.int .i64 n.val)/\W.cell? ⟨b1,o1+k*3+2,none⟩=some (.string n.name)/\W.cell? ⟨b2,o2+k*3,none⟩=some (.int .i64 n.kind)/\W.cell? ⟨b2,o2+k*3+1,none⟩=some (.int .i64 n.val)/\W.cell? ⟨b2,o2+k*3+2,none⟩=some (.string n.name)) (go_simp)
    (first
    | (go_at_call 186;refine (eqNode_any n _).mono ?_;rintro e w2 ⟨rfl,hb2⟩;have hcc : ∀b o,b<wr.heap.size->w2.cell? ⟨b,o,none⟩=wr.cell? ⟨b,o,none⟩:=(bcell hb2).1))
   have hB2:=hB.trans ((((Below.refl _ _).drew).trans hb2).mono hB.size)
   go_wp2_with fail
   go_roundw
   case rel=>exact ⟨k+1,by omega,by go_num,hB2⟩
   case measure=>simp [intOf];omega
  ·go_wp2_with fail
   go_ret
   exact ⟨rfl,hB⟩
theorem eqGlob_any (n:Gl) (w:World):Calls Tryz.prog 62 #[.agg #[.string n.name,.int .i64 n.size],.agg #[.string n.name,.int .i64 n.size]] w fun e w'=>e = .returned (.bool true)/\Below w.heap.size w w':=by
 obtain ⟨s,z⟩:=n
 simp only
 go_enter Tryz.func62,Tryz.ntmps62
 go_wp2_with fail
 go_ret
 exact ⟨rfl,(bel_a _ _).alloc (by simp) _⟩
theorem eqGlobs_any (v1 v2:Value) (ns:List Gl) (w:World) (hl:ns.length<=1048576) (h1:Globs w v1 ns) (h2:Globs w v2 ns) :
  Calls Tryz.prog 35 #[v1,v2] w fun e w'=>e = .returned (.bool true)/\Below w.heap.size w w':=by
 obtain ⟨a1,c1,rfl,-,-,hc1⟩:=h1
 obtain ⟨a2,c2,rfl,-,-,hc2⟩:=h2
 have H1:=hide hc1
 have H2:=hide hc2
 go_enter Tryz.func35,Tryz.ntmps35
 go_wp2_with fail
 go_loopw [5] (fun i wr=>∃k:Nat,k<=ns.length/\i = .int .i64 k/\Bl w wr) (fun i _=>ns.length-(intOf i).toNat)
 case atStart=>exact ⟨0,Nat.zero_le _,rfl,Below.refl _ _⟩
 case round=>
  obtain ⟨k,hk,rfl,hB⟩:=hrel
  by_cases hlt:k<ns.length
  ·obtain ⟨b1,o1,rfl,hx1⟩:=H1.out (by omega)
   obtain ⟨b2,o2,rfl,hx2⟩:=H2.out (by omega)
   obtain ⟨d0,d1⟩:=(hx1.below hB) k hlt
   obtain ⟨e0,e1⟩:=(hx2.below hB) k hlt
   have l1:=World.block_lt_of_cell? _ _ d0
   have l2:=World.block_lt_of_cell? _ _ e0
   simp only at l1 l2
   generalize ns[k]=n at d0 d1 e0 e1
   go_wp2_with fail
   go_region_held3 (fun W=>W.cell? ⟨b1,o1+k*2,none⟩=some (.string n.name)/\W.cell? ⟨b1,o1+k*2+1,none⟩=some (.int .i64 n.size)/\W.cell? ⟨b2,o2+k*2,none⟩=some (.string n.name)/\W.cell? ⟨b2,o2+k*2+1,none⟩=some (.int .i64 n.size)) (go_simp)
    (first
    | (go_at_call 62;refine (eqGlob_any n _).mono ?_;rintro e w2 ⟨rfl,hb2⟩;have hcc : ∀b o,b<wr.heap.size->w2.cell? ⟨b,o,none⟩=wr.cell? ⟨b,o,none⟩:=(bcell hb2).1))
   have hB2:=hB.trans ((((Below.refl _ _).drew).trans hb2).mono hB.size)
   go_wp2_with fail
   go_roundw
   case rel=>exact ⟨k+1,by omega,by go_num,hB2⟩
   case measure=>simp [intOf];omega
  ·go_wp2_with fail
   go_ret
   exact ⟨rfl,hB⟩
theorem eqStrs_any (v1 v2:Value) (ns:List ByteArray) (w:World) (hl:ns.length<=1048576) (h1:Strs w v1 ns) (h2:Strs w v2 ns) :
  Calls Tryz.prog 101 #[v1,v2] w fun e w'=>e = .returned (.bool true)/\Below w.heap.size w w':=by
 obtain ⟨a1,c1,rfl,-,-,hc1⟩:=h1
 obtain ⟨a2,c2,rfl,-,-,hc2⟩:=h2
 have H1:=hide hc1
 have H2:=hide hc2
 go_enter Tryz.func101,Tryz.ntmps101
 go_wp2_with fail
 go_loopw [5] (fun i wr=>∃k:Nat,k<=ns.length/\i = .int .i64 k/\Bl w wr) (fun i _=>ns.length-(intOf i).toNat)
 case atStart=>exact ⟨0,Nat.zero_le _,rfl,Below.refl _ _⟩
 case round=>
  obtain ⟨k,hk,rfl,hB⟩:=hrel
  by_cases hlt:k<ns.length
  ·obtain ⟨b1,o1,rfl,hx1⟩:=H1.out (by omega)
   obtain ⟨b2,o2,rfl,hx2⟩:=H2.out (by omega)
   have d0:=(hx1.below hB) k hlt
   have e0:=(hx2.below hB) k hlt
   generalize ns[k]=n at d0 e0
   go_wp2_with fail
   go_quiet (fail)
   go_wp2_with fail
   go_roundw
   case rel=>exact ⟨k+1,by omega,by go_num,below_drewN hB _⟩
   case measure=>simp [intOf];omega
  ·go_wp2_with fail
   go_ret
   exact ⟨rfl,hB⟩
theorem box66 {w w':World} {t u:TypeId} {a0 a1 a2 a3 a4 a5 b0 b1 b2 b3 b4 b5:Value} (h:Below (w.heap.size+1+1) ((w.alloc (.cells #[a0,a1,a2,a3,a4,a5] t)).alloc (.cells #[b0,b1,b2,b3,b4,b5] u)) w') :
  (w'.cell? ⟨w.heap.size,0,none⟩=some a0/\w'.cell? ⟨w.heap.size,1,none⟩=some a1/\w'.cell? ⟨w.heap.size,2,none⟩=some a2/\w'.cell? ⟨w.heap.size,3,none⟩=some a3/\w'.cell? ⟨w.heap.size,4,none⟩=some a4/\w'.cell? ⟨w.heap.size,5,none⟩=some a5) /\
  (w'.cell? ⟨w.heap.size+1,0,none⟩=some b0/\w'.cell? ⟨w.heap.size+1,1,none⟩=some b1/\w'.cell? ⟨w.heap.size+1,2,none⟩=some b2/\w'.cell? ⟨w.heap.size+1,3,none⟩=some b3/\w'.cell? ⟨w.heap.size+1,4,none⟩=some b4/\w'.cell? ⟨w.heap.size+1,5,none⟩=some b5):=by
 refine ⟨⟨?_,?_,?_,?_,?_,?_⟩,⟨?_,?_,?_,?_,?_,?_⟩⟩
 all_goals (rw [h.cell (by first | (simp;done) | (simp;omega))];go_simp;done)
theorem box33 {w w':World} {t u:TypeId} {a0 a1 a2 b0 b1 b2:Value} (h:Below (w.heap.size+1+1) ((w.alloc (.cells #[a0,a1,a2] t)).alloc (.cells #[b0,b1,b2] u)) w') :
  (w'.cell? ⟨w.heap.size,0,none⟩=some a0/\w'.cell? ⟨w.heap.size,1,none⟩=some a1/\w'.cell? ⟨w.heap.size,2,none⟩=some a2) /\
  (w'.cell? ⟨w.heap.size+1,0,none⟩=some b0/\w'.cell? ⟨w.heap.size+1,1,none⟩=some b1/\w'.cell? ⟨w.heap.size+1,2,none⟩=some b2):=by
 refine ⟨⟨?_,?_,?_⟩,⟨?_,?_,?_⟩⟩
 all_goals (rw [h.cell (by first | (simp;done) | (simp;omega))];go_simp;done)
theorem box22 {w w':World} {t u:TypeId} {a0 a1 b0 b1:Value} (h:Below (w.heap.size+1+1) ((w.alloc (.cells #[a0,a1] t)).alloc (.cells #[b0,b1] u)) w') :
  (w'.cell? ⟨w.heap.size,0,none⟩=some a0/\w'.cell? ⟨w.heap.size,1,none⟩=some a1) /\
  (w'.cell? ⟨w.heap.size+1,0,none⟩=some b0/\w'.cell? ⟨w.heap.size+1,1,none⟩=some b1):=by
 refine ⟨⟨?_,?_⟩,⟨?_,?_⟩⟩
 all_goals (rw [h.cell (by first | (simp;done) | (simp;omega))];go_simp;done)
theorem eqStmt_any (s:St) (x1 y1 x2 y2:Value) (w:World) (hs:smallS s) (h1:Nodes w x1 s.e) (h2:Nodes w y1 s.f) (h3:Nodes w x2 s.e) (h4:Nodes w y2 s.f) :
  Calls Tryz.prog 141 #[.agg #[.int .i64 s.kind,.string s.name,x1,y1,.int .i64 s.thn,.int .i64 s.els],.agg #[.int .i64 s.kind,.string s.name,x2,y2,.int .i64 s.thn,.int .i64 s.els]] w fun e w'=>e = .returned (.bool true)/\Below w.heap.size w w':=by
 obtain ⟨k,n,es,fs,t,l⟩:=s
 have hse:es.length<=1048576:=hs.1
 have hsf:fs.length<=1048576:=hs.2
 simp only at h1 h2 h3 h4 ⊢
 have H1:=hide h1
 have H2:=hide h2
 have H3:=hide h3
 have H4:=hide h4
 obtain ⟨p1,q1,rfl,-,-,-⟩:=h1
 obtain ⟨p2,q2,rfl,-,-,-⟩:=h2
 obtain ⟨p3,q3,rfl,-,-,-⟩:=h3
 obtain ⟨p4,q4,rfl,-,-,-⟩:=h4
 go_enter Tryz.func141,Tryz.ntmps141
 go_wp2_with fail
 have hA:Bl w ((w.alloc (.cells #[.int .i64 k,.string n,.slice p1 es.length q1,.slice p2 fs.length q2,.int .i64 t,.int .i64 l] 117)).alloc (.cells #[.int .i64 k,.string n,.slice p3 es.length q3,.slice p4 fs.length q4,.int .i64 t,.int .i64 l] 117)):=(bel_a _ _).alloc (by simp) _
 refine (eqNodes_any _ _ es _ hse (H1.out.below hA) (H3.out.below hA)).mono ?_
 rintro e w1 ⟨rfl,hb1⟩
 simp only [World.size_alloc] at hb1
 obtain ⟨⟨a0,a1,a2,a3,a4,a5⟩,b0,b1,b2,b3,b4,b5⟩:=box66 hb1
 have hB1:=two_below hb1
 go_wp2_with fail
 refine (eqNodes_any _ _ fs _ hsf (H2.out.below hB1) (H4.out.below hB1)).mono ?_
 rintro e w2 ⟨rfl,hb2⟩
 have hb2':=hb1.trans (hb2.mono (by have:=hb1.size;simp at this;omega))
 have hB2:=two_below hb2'
 obtain ⟨⟨a0,a1,a2,a3,a4,a5⟩,b0,b1,b2,b3,b4,b5⟩:=box66 hb2'
 go_wp2_with fail
 go_ret
 exact ⟨rfl,hB2⟩
end Go.Proofs.YtmddmgpijpjpbaaGreatDoor
namespace Go.Proofs.YtmddmgpijpjpbaaGreatDoor
open Go.RowKit
set_option linter.unusedVariables false
set_option linter.unusedSimpArgs false
set_option maxRecDepth 100000
set_option maxHeartbeats 16000000
structure Tk (K:List Nat) (w w':World):Prop where
 still:w'.os=w.os/\w'.tape=w.tape/\w'.output=w.output
 size:w.heap.size<=w'.heap.size
 other : ∀b,b<w.heap.size->b∉K->w'.heap[b]? = w.heap[b]?
theorem Tk.refl (K:List Nat) (w:World):Tk K w w:=⟨⟨rfl,rfl,rfl⟩,Nat.le_refl _,fun _ _ _=>rfl⟩
theorem Tk.trans {K:List Nat} {w w' w2:World} (h:Tk K w w') (k:Tk K w' w2):Tk K w w2:=
 ⟨⟨k.still.1.trans h.still.1,k.still.2.1.trans h.still.2.1,k.still.2.2.trans h.still.2.2⟩,Nat.le_trans h.size k.size,fun b hl hn=>(k.other b (Nat.lt_of_lt_of_le hl h.size) hn).trans (h.other b hl hn)⟩
theorem Tk.mono {K K':List Nat} {w w':World} (h:Tk K w w') (hK : ∀g∈K,g∈K'):Tk K' w w':=⟨h.still,h.size,fun b hl hn=>h.other b hl (fun e=>hn (hK b e))⟩
theorem Tk.of_below {K:List Nat} {w w':World} (hb:Below w.heap.size w w'):Tk K w w':=⟨⟨hb.os,hb.tape,hb.output⟩,hb.size,fun b hl _=>hb.block b hl⟩
theorem Tk.put {K : List Nat} (w : World) {g : Nat} (o : Nat) (v : Value) (hg : g ∈ K) : Tk K w (w.setCell ⟨g, o, none⟩ v) := by
  have hb0 := (Below.refl 0 w).setCell (p := ⟨g, o, none⟩) (Nat.zero_le _) v
  refine ⟨⟨hb0.os, hb0.tape, hb0.output⟩, by simp, fun b hl hb => ?_⟩
  exact Below.heap_setCell _ _ _ b (fun h => hb (by have e : b = g := by simpa using h
                                                    rw [e]; exact hg))
theorem Tk.below {B:Nat} {K:List Nat} {w w':World} (h:Tk K w w') (hg : ∀g∈K,B<=g) (hs:B<=w.heap.size):Below B w w':=
 ⟨h.still.1,h.still.2.1,h.still.2.2,h.size,fun k hk=>h.other k (by omega) (fun e=>by have:=hg k e;omega)⟩
def mkN (k:Nat):List Nd->List Nd
 | []=>[]
 | n::r=>⟨(k:Int),((k+1:Nat):Int),mtxt (k+2)⟩::mkN (k+3) r
def mkP (k:Nat):List ByteArray->List ByteArray
 | []=>[]
 | n::r=>mtxt k::mkP (k+1) r
def mkG (k:Nat):List Gl->List Gl
 | []=>[]
 | n::r=>⟨mtxt k,((k+1:Nat):Int)⟩::mkG (k+2) r
def mkSt (k:Nat) (s:St):St:=⟨(k:Int),mtxt (k+1),mkN (k+2) s.e,mkN (k+2+3*s.e.length) s.f,((k+2+3*s.e.length+3*s.f.length:Nat):Int),((k+3+3*s.e.length+3*s.f.length:Nat):Int)⟩
def mkS (k:Nat):List St->List St
 | []=>[]
 | s::r=>mkSt k s::mkS (k+cntS s) r
def mkFu (k:Nat) (f:Fu):Fu:=⟨mtxt k,mkP (k+1) f.params,mkS (k+1+f.params.length) f.body⟩
def mkF (k:Nat):List Fu->List Fu
 | []=>[]
 | f::r=>mkFu k f::mkF (k+cntF f) r
theorem mkN_len (k:Nat) (ns:List Nd):(mkN k ns).length=ns.length:=by
 induction ns generalizing k with
 | nil=>rfl
 | cons n r ih=>simp [mkN,ih]
theorem mkP_len (k:Nat) (ns:List ByteArray):(mkP k ns).length=ns.length:=by
 induction ns generalizing k with
 | nil=>rfl
 | cons n r ih=>simp [mkP,ih]
theorem mkG_len (k:Nat) (ns:List Gl):(mkG k ns).length=ns.length:=by
 induction ns generalizing k with
 | nil=>rfl
 | cons n r ih=>simp [mkG,ih]
theorem mkS_len (k:Nat) (ns:List St):(mkS k ns).length=ns.length:=by
 induction ns generalizing k with
 | nil=>rfl
 | cons n r ih=>simp [mkS,ih]
theorem mkF_len (k:Nat) (ns:List Fu):(mkF k ns).length=ns.length:=by
 induction ns generalizing k with
 | nil=>rfl
 | cons n r ih=>simp [mkF,ih]
theorem mkN_get (k:Nat) (ns:List Nd) (j:Nat) (h:j<(mkN k ns).length):(mkN k ns)[j]=⟨((k+3*j:Nat):Int),((k+3*j+1:Nat):Int),mtxt (k+3*j+2)⟩:=by
 induction ns generalizing k j with
 | nil=>simp [mkN] at h
 | cons n r ih=>
  cases j with
  | zero=>rfl
  | succ j=>
   simp only [mkN,List.getElem_cons_succ]
   rw [ih (k+3) j (by simpa [mkN] using h),show k+3+3*j=k+3*(j+1) by omega]
theorem mkP_get (k:Nat) (ns:List ByteArray) (j:Nat) (h:j<(mkP k ns).length):(mkP k ns)[j]=mtxt (k+j):=by
 induction ns generalizing k j with
 | nil=>simp [mkP] at h
 | cons n r ih=>
  cases j with
  | zero=>rfl
  | succ j=>
   simp only [mkP,List.getElem_cons_succ]
   rw [ih (k+1) j (by simpa [mkP] using h),show k+1+j=k+(j+1) by omega]
theorem mkG_get (k:Nat) (ns:List Gl) (j:Nat) (h:j<(mkG k ns).length):(mkG k ns)[j]=⟨mtxt (k+2*j),((k+2*j+1:Nat):Int)⟩:=by
 induction ns generalizing k j with
 | nil=>simp [mkG] at h
 | cons n r ih=>
  cases j with
  | zero=>rfl
  | succ j=>
   simp only [mkG,List.getElem_cons_succ]
   rw [ih (k+2) j (by simpa [mkG] using h),show k+2+2*j=k+2*(j+1) by omega]
theorem mkS_get (k:Nat) (ns:List St) (j:Nat) (h:j<ns.length) (h':j<(mkS k ns).length):(mkS k ns)[j]=mkSt (k+sumBy cntS (ns.take j)) ns[j]:=by
 induction ns generalizing k j with
 | nil=>simp at h
 | cons n r ih=>
  cases j with
  | zero=>simp [mkS,sumBy]
  | succ j=>
   simp only [mkS,List.getElem_cons_succ,List.take_succ_cons,sumBy]
   rw [ih (k+cntS n) j (by simpa using h) (by simpa [mkS] using h'),Nat.add_assoc]
theorem mkF_get (k:Nat) (ns:List Fu) (j:Nat) (h:j<ns.length) (h':j<(mkF k ns).length):(mkF k ns)[j]=mkFu (k+sumBy cntF (ns.take j)) ns[j]:=by
 induction ns generalizing k j with
 | nil=>simp at h
 | cons n r ih=>
  cases j with
  | zero=>simp [mkF,sumBy]
  | succ j=>
   simp only [mkF,List.getElem_cons_succ,List.take_succ_cons,sumBy]
   rw [ih (k+cntF n) j (by simpa using h) (by simpa [mkF] using h'),Nat.add_assoc]
theorem take_succ' {α:Type} {l:List α} {k:Nat} (h:k<l.length):l.take (k+1)=l.take k++[l[k]]:=by
 rw [List.take_succ_eq_append_getElem h]
def FrC (w:World) (g:Nat) (xs:List Value):Prop:=∀j x,xs[j]? = some x->w.cell? ⟨g,j,none⟩=some x/\w.frozen? ⟨g,j,none⟩=false
theorem FrC.set {w:World} {g:Nat} {xs:List Value} (h:FrC w g xs) (i:Nat) (u:Value):FrC (w.setCell ⟨g,i,none⟩ u) g (xs.set i u):=by
 intro j x hx
 rw [World.frozen?_setCell]
 by_cases e:i=j
 ·subst e
  have hl:=(List.getElem?_eq_some_iff.1 hx).1
  rw [List.length_set] at hl
  rw [List.getElem?_set_self hl] at hx
  obtain ⟨c,f⟩:=h i xs[i] (List.getElem?_eq_getElem hl)
  refine ⟨?_,f⟩
  rw [World.cell?_setCell_same _ _ _ c]
  exact hx
 ·rw [List.getElem?_set_ne e] at hx
  obtain ⟨c,f⟩:=h j x hx
  refine ⟨?_,f⟩
  rw [World.cell?_setCell_other _ _ _ _ (by intro h;simp only [Addr.mk.injEq] at h;omega)]
  exact c
theorem FrC.keep {w w':World} {g:Nat} {xs:List Value} (h:FrC w g xs) (e:w'.heap[g]? = w.heap[g]?):FrC w' g xs:=fun j x hx=>by
 obtain ⟨c,f⟩:=h j x hx
 exact ⟨(World.cell?_of_block (a:=⟨g,j,none⟩) e).trans c,(World.frozen?_of_block (a:=⟨g,j,none⟩) e).trans f⟩
theorem FrC.below {w w':World} {g:Nat} {xs:List Value} (h:FrC w g xs) (hb:Below w.heap.size w w'):FrC w' g xs:=fun j x hx=>by
 obtain ⟨c,f⟩:=h j x hx
 have hlt:=World.block_lt_of_cell? _ _ c
 exact ⟨(hb.cell (p:=⟨g,j,none⟩) hlt).trans c,(hb.frozen (p:=⟨g,j,none⟩) hlt).trans f⟩
def ROne (B:Nat) (w:World) (v:Value) (n:Nat) (xs:List Value) (K:List Nat):Prop:=(n=0/\K = []/\∃a c,v = .slice a 0 c/\c<=9223372036854775807)∨∃g cap,v = .slice (some ⟨g,0,none⟩) n cap/\K = [g]/\n<=cap/\cap<=9223372036854775807/\B<=g/\g<w.heap.size/\FrC w g xs
theorem ROne.keep {B:Nat} {w w':World} {v:Value} {n:Nat} {xs:List Value} {K:List Nat} (h:ROne B w v n xs K) (hs:w.heap.size<=w'.heap.size) (hk : ∀g∈K,w'.heap[g]? = w.heap[g]?):ROne B w' v n xs K:=by
 rcases h with h | ⟨g,cap,h1,rfl,h3,h4,h5,h6,h7⟩
 ·exact .inl h
 ·exact .inr ⟨g,cap,h1,rfl,h3,h4,h5,Nat.lt_of_lt_of_le h6 hs,h7.keep (hk g (by simp))⟩
theorem ROne.rng {B:Nat} {w:World} {v:Value} {n:Nat} {xs:List Value} {K:List Nat} (h:ROne B w v n xs K) : ∀g∈K,B<=g/\g<w.heap.size:=by
 rcases h with ⟨-,rfl,-⟩ | ⟨g,cap,-,rfl,-,-,h5,h6,-⟩
 ·intro g hg;cases hg
 ·intro x hx
  simp only [List.mem_singleton] at hx
  subst hx
  exact ⟨h5,h6⟩
theorem ROne.slice {B:Nat} {w:World} {v:Value} {n:Nat} {xs:List Value} {K:List Nat} (h:ROne B w v n xs K) : ∃a c,v = .slice a n c/\n<=c/\c<=9223372036854775807:=by
 rcases h with ⟨rfl,-,a,c,rfl,hc⟩ | ⟨g,cap,rfl,-,h3,h4,-⟩
 ·exact ⟨a,c,rfl,Nat.zero_le _,hc⟩
 ·exact ⟨_,cap,rfl,h3,h4⟩
theorem ROne.pos {B:Nat} {w:World} {a:Option Addr} {c n m:Nat} {xs:List Value} {K:List Nat} (h:ROne B w (.slice a m c) n xs K) (hp:0<n) : ∃g,a=some ⟨g,0,none⟩/\K = [g]/\m=n/\B<=g/\g<w.heap.size/\FrC w g xs:=by
 rcases h with ⟨rfl,-⟩ | ⟨g,cap,e,h2,-,-,h5,h6,h7⟩
 ·omega
 ·simp only [Value.slice.injEq] at e
  exact ⟨g,e.1,h2,e.2.1,h5,h6,h7⟩
theorem ROne.mk1 {B:Nat} {w w':World} {v:Value} {n:Nat} {xs ys:List Value} {K:List Nat} (h:ROne B w v n xs K) (hs:w.heap.size<=w'.heap.size) (hF : ∀g,K = [g]->FrC w' g ys):ROne B w' v n ys K:=by
 rcases h with h | ⟨g,cap,h1,rfl,h3,h4,h5,h6,h7⟩
 ·exact .inl h
 ·exact .inr ⟨g,cap,h1,rfl,h3,h4,h5,Nat.lt_of_lt_of_le h6 hs,hF g rfl⟩
theorem ROne.fr {B:Nat} {w:World} {v:Value} {n:Nat} {xs:List Value} {K:List Nat} (h:ROne B w v n xs K) : ∀g,K = [g]->FrC w g xs:=by
 rcases h with ⟨-,rfl,-⟩ | ⟨g,cap,-,rfl,-,-,-,-,h7⟩
 ·intro g hg;cases hg
 ·intro x hx;cases hx;exact h7
theorem ROne.of_own {B:Nat} {w:World} {e:TypeId} {size n:Nat} {v:Value} {xs:List Value} (h:w.ownsRow B e size v n xs) : ∃K,ROne B w v n xs K/\∀g,v.ownBlock=some g↔g∈K:=by
 rcases h.2 with ⟨rfl,rfl⟩ | ⟨g,cap,cur,rfl,h3,h4,h5,h6,h7,h8⟩
 ·exact ⟨[],.inl ⟨rfl,rfl,none,0,rfl,by omega⟩,fun g=>by simp [Value.ownBlock]⟩
 ·refine ⟨[g],.inr ⟨g,cap,rfl,rfl,h5,by unfold maxLen at h6;exact h6,h3,(World.ownsRow.lt h g rfl).2,fun j x hx=>⟨World.ownsRow.cells h (g:=g) rfl j x hx |> fun e=>by simpa [addrO] using e,h.frozenAt j⟩⟩,fun x=>by simp [Value.ownBlock,eq_comm]⟩
theorem NOne.r {B:Nat} {w:World} {v:Value} {ns:List Nd} {K:List Nat} (h:NOne B w v ns K):ROne B w v ns.length (flatN ns) K:=by
 rcases h with ⟨rfl,h⟩ | ⟨g,cap,h1,h2,h3,h4,h5,h6,h7,h8⟩
 ·exact .inl ⟨rfl,h⟩
 ·refine .inr ⟨g,cap,h1,h2,h3,h4,h5,h6,fun j x hx => ?_⟩
  have hl:=(List.getElem?_eq_some_iff.1 hx).1
  rw [flatN_len] at hl
  refine ⟨?_,h8 j hl⟩
  obtain ⟨m,hm,he⟩:=flatN_split ns j hl
  obtain ⟨c0,c1,c2⟩:=h7 m hm
  obtain ⟨e0,e1,e2⟩:=flatN_at ns m hm
  rcases he with rfl | rfl | rfl
  ·rw [e0] at hx;rw [<-hx];simpa using c0
  ·rw [e1] at hx;rw [<-hx];simpa using c1
  ·rw [e2] at hx;rw [<-hx];simpa using c2
theorem ROne.n {B:Nat} {w:World} {v:Value} {ns:List Nd} {K:List Nat} (h:ROne B w v ns.length (flatN ns) K):NOne B w v ns K:=by
 rcases h with ⟨h0,h⟩ | ⟨g,cap,h1,h2,h3,h4,h5,h6,h7⟩
 ·exact .inl ⟨List.eq_nil_of_length_eq_zero h0,h⟩
 ·refine .inr ⟨g,cap,h1,h2,h3,h4,h5,h6,fun j hj => ?_,fun j hj => ?_⟩
  ·obtain ⟨e0,e1,e2⟩:=flatN_at ns j hj
   rw [Nat.zero_add]
   exact ⟨(h7 _ _ e0).1,(h7 _ _ e1).1,(h7 _ _ e2).1⟩
  ·have hj':j<(flatN ns).length:=by rw [flatN_len];exact hj
   exact (h7 j _ (List.getElem?_eq_getElem hj')).2
theorem put1 {P S:List Value} {m:Nat} {x a:Value} (h:P.length=m):(P++x::S).set m a=P++a::S:=by
 subst h
 rw [List.set_append_right _ _ (Nat.le_refl _)]
 simp
theorem put2 {P S:List Value} {m:Nat} {x y a b:Value} (h:P.length=m):((P++x::y::S).set m a).set (m+1) b=P++a::b::S:=by
 rw [put1 h,show P++a::y::S=(P++[a])++y::S by simp,put1 (by simp [h])]
 simp
theorem put3 {P S:List Value} {m:Nat} {x y z a b c:Value} (h:P.length=m):(((P++x::y::z::S).set m a).set (m+1) b).set (m+2) c=P++a::b::c::S:=by
 rw [put2 h,show P++a::b::z::S=(P++[a,b])++z::S by simp,put1 (by simp [h])]
 simp
theorem mkN_snoc (k:Nat) (l:List Nd) (n:Nd):mkN k (l++[n])=mkN k l++[⟨((k+3*l.length:Nat):Int),((k+3*l.length+1:Nat):Int),mtxt (k+3*l.length+2)⟩]:=by
 induction l generalizing k with
 | nil=>simp [mkN]
 | cons a r ih=>
  simp only [List.cons_append,mkN,ih,l_c]
  rw [show k+3+3*r.length=k+3*(r.length+1) by omega]
theorem mkN_step (k:Nat) (ns:List Nd) (j:Nat) (hj:j<ns.length):(((flatN (mkN k (ns.take j)++ns.drop j)).set (j*3) (.int .i64 ((k+3*j:Nat):Int))).set (j*3+1) (.int .i64 ((k+3*j+1:Nat):Int))).set (j*3+2) (.string (mtxt (k+3*j+2)))=flatN (mkN k (ns.take (j+1))++ns.drop (j+1)):=by
 rw [List.drop_eq_getElem_cons hj,flatN_append,take_succ' hj,mkN_snoc,flatN_append,flatN_append]
 have hl:(flatN (mkN k (ns.take j))).length=j*3:=by rw [flatN_len,mkN_len,List.length_take,Nat.min_eq_left (by omega)]
 have e:flatN (ns[j]::ns.drop (j+1)) = .int .i64 ns[j].kind::.int .i64 ns[j].val::.string ns[j].name::flatN (ns.drop (j+1)):=rfl
 rw [e,put3 hl,List.length_take,Nat.min_eq_left (by omega),List.append_assoc]
 rfl
end Go.Proofs.YtmddmgpijpjpbaaGreatDoor
