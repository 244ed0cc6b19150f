import Derived.Test.YtnpidjamplmgjaaGreatDoorQ49
import Derived.Deep.RegionHeld3
set_option linter.unusedSectionVars false
variable [Inhabited Go.Proofs.YtnpidjamplmgjaaGreatDoor.Pick]
namespace Go.Proofs.YtnpidjamplmgjaaGreatDoor
open Go.RowKit
set_option linter.unusedVariables false
set_option linter.unusedSimpArgs false
set_option maxRecDepth 100000
set_option maxHeartbeats 16000000
def cntS (s:St):Nat:=4+3*s.e.length+3*s.f.length
def cntF (f:Fu):Nat:=1+f.params.length+sumBy cntS f.body
def cntT (t:Tr):Nat:=2*t.globals.length+sumBy cntF t.funcs
theorem sumBy_le_mul {α:Type} (f g:α->Nat) (c:Nat) (l:List α) (h : ∀x∈l,f x<=c*g x+c):sumBy f l<=c*(l.length+sumBy g l):=by
 induction l with
 | nil=>simp [sumBy]
 | cons x r ih=>
  have h1:=h x (by simp)
  have h2:=ih (fun y hy=>h y (by simp [hy]))
  simp only [sumBy,l_c]
  have e:c*(r.length+1+(g x+sumBy g r))=c*(r.length+sumBy g r)+(c*g x+c):=by
   simp only [Nat.mul_add,Nat.mul_one];omega
  rw [e];omega
theorem cntS_le (s:St):cntS s<=4*szSt s+4:=by unfold cntS szSt szNs;omega
theorem cntF_le (f:Fu):cntF f<=4*szFu f+4:=by
 have:=sumBy_le_mul cntS szSt 4 f.body (fun s _=>cntS_le s)
 unfold cntF szFu szPs szSs
 omega
theorem cntT_le (t:Tr):cntT t<=4*szT t:=by
 have:=sumBy_le_mul cntF szFu 4 t.funcs (fun f _=>cntF_le f)
 unfold cntT szT szGs szFs
 omega
theorem markStmts_any (B T:Nat) (v:Value) (ss:List St) (k:Nat) (w:World) (hn:ss.length<=1048576) (hsm : ∀s∈ss,smallS s) (h0:0<k) (hk:(k:Int)+(sumBy cntS ss:Nat)<=1000000000) (h:StmtsM B T w v ss) :
  Calls Tryz.prog 62 #[v,.int .i64 k] w fun e w'=>e = .returned (.int .i64 ((k+sumBy cntS ss:Nat):Int))/\Sh B T w w':=by
 have HP:=hide h
 have HSM:=hide hsm
 have HK:=hide hk
 obtain ⟨g,cur,rfl,-,-,-,-,-⟩:=h
 clear hsm hk
 go_enter Tryz.func62,Tryz.ntmps62
 go_wp2_with fail
 go_loopw [1,5] (fun q i wr=>∃j:Nat,j<=ss.length/\i = .int .i64 j/\q = .int .i64 ((k+sumBy cntS (ss.take j):Nat):Int)/\Sh B T w wr) (fun _ i _=>ss.length-(RowKit.intOf i).toNat)
 case atStart=>exact ⟨0,Nat.zero_le _,rfl,by simp [sumBy],Sh.refl _ _ _⟩
 case round=>
  obtain ⟨j,hj,rfl,rfl,hS⟩:=hrel
  by_cases hlt:j<ss.length
  ·have HP0:Hid (StmtsM B T wr (.slice (some ⟨g,0,none⟩) ss.length ss.length) ss):=HP.out.sh hS
   have HST:Hid _:=sumBy_step cntS ss j hlt
   have hle:=sumBy_le cntS ss (j+1)
   have hsm:=HSM.out ss[j] (List.getElem_mem hlt)
   have hcs:cntS ss[j]=4+3*ss[j].e.length+3*ss[j].f.length:=rfl
   have hqb:((k+sumBy cntS (ss.take j):Nat):Int)+4+3*ss[j].e.length+3*ss[j].f.length<=1000000000:=by
    have h1:=HST.out
    have h2:=HK.out
    omega
   have hq0:0<k+sumBy cntS (ss.take j):=by omega
   have HC:=hide hcs
   have hse:=hsm.1
   have hsf:=hsm.2
   clear hle hcs hsm
   obtain ⟨ve0,vf0,-,-,-,-,P0⟩:=HP0.out.at j hlt
   obtain ⟨⟨y0,o0⟩,f0,s0⟩:=P0 0 (by simp)
   have HP1:Hid (StmtsM B T (wr.setCell ⟨g,j*6,none⟩ (.int .i64 ((k+sumBy cntS (ss.take j):Nat):Int))) (.slice (some ⟨g,0,none⟩) ss.length ss.length) ss):=HP0.out.sh (s0 _ (plain_int _ _))
   have HS1:Hid (Sh B T w (wr.setCell ⟨g,j*6,none⟩ (.int .i64 ((k+sumBy cntS (ss.take j):Nat):Int)))):=hS.trans (s0 _ (plain_int _ _))
   generalize hq:k+sumBy cntS (ss.take j)=q at hqb hq0 HP1 HS1 ⊢
   have HQ:=hide hq
   generalize hne:ss[j].e.length=ne at hse hqb HC
   generalize hnf:ss[j].f.length=nf at hsf hqb HC
   have HNE:=hide hne
   have HNF:=hide hnf
   clear hq hne hnf P0 s0 HP0
   rw [Nat.add_zero] at o0 f0
   go_wp2_with fail
   rw [show ((q:Int)+1)=((q+1:Nat):Int) by omega]
   refine (mtext_any (q+1) o_ o_ _).mono ?_
   rintro e w1 ⟨rfl,hb1⟩
   have HP2:Hid (StmtsM B T w1 (.slice (some ⟨g,0,none⟩) ss.length ss.length) ss):=HP1.out.sh (Sh.of_below hb1)
   have HS2:Hid (Sh B T w w1):=HS1.out.trans (Sh.of_below hb1)
   obtain ⟨ve,vf,c2,c3,pe,pf,P1⟩:=HP2.out.at j hlt
   obtain ⟨⟨y1,o1⟩,f1,s1⟩:=P1 1 (by simp)
   have HP3:Hid (StmtsM B T (w1.setCell ⟨g,j*6+1,none⟩ (.string (mtxt (q+1)))) (.slice (some ⟨g,0,none⟩) ss.length ss.length) ss):=HP2.out.sh (s1 _ (plain_str _))
   have HS3:Hid (Sh B T w (w1.setCell ⟨g,j*6+1,none⟩ (.string (mtxt (q+1))))):=HS2.out.trans (s1 _ (plain_str _))
   have HPE:Hid (PlainM B T 151 3 (w1.setCell ⟨g,j*6+1,none⟩ (.string (mtxt (q+1)))) ve ne):=by rw [<-HNE.out];exact pe.sh (s1 _ (plain_str _))
   obtain ⟨ae,lne,cne,rfl⟩:=pe.isSlice
   obtain ⟨af,lnf,cnf,rfl⟩:=pf.isSlice
   clear P1 s1 pe pf o0 f0 HP1 HS1 hb1
   go_wp2_with fail
   rw [show ((q:Int)+1+1)=((q+2:Nat):Int) by omega]
   refine (markNodes_any B T _ ne (q+2) _ hse o_ o_ HPE.out).mono ?_
   rintro e w2 ⟨rfl,sh2⟩
   generalize hq2:q+2+3*ne=q2
   have hq2b:(q2:Int)+2+3*nf<=1000000000:=by omega
   have hq20:0<q2:=by omega
   have HQ2:=hide hq2
   clear hq2
   have HP4:=hide (HP3.out.sh sh2)
   have HS4:Hid (Sh B T w w2):=HS3.out.trans sh2
   obtain ⟨ve',vf',-,d3,-,pf',-⟩:=HP4.out.at j hlt
   have HPF:Hid (PlainM B T 151 3 w2 vf' nf):=by rw [<-HNF.out];exact pf'
   obtain ⟨af',lnf',cnf',rfl⟩:=pf'.isSlice
   clear c2 c3 o1 f1 HP3 HS3 sh2 pf'
   go_wp2_with fail
   refine (markNodes_any B T _ nf q2 _ hsf o_ o_ HPF.out).mono ?_
   rintro e w3 ⟨rfl,sh3⟩
   have HP5:Hid (StmtsM B T w3 (.slice (some ⟨g,0,none⟩) ss.length ss.length) ss):=HP4.out.sh sh3
   have HS5:Hid (Sh B T w w3):=HS4.out.trans sh3
   obtain ⟨_,_,-,-,-,-,P4⟩:=HP5.out.at j hlt
   obtain ⟨⟨y4,o4⟩,f4,s4⟩:=P4 4 (by simp)
   generalize hr:q2+3*nf=r
   have hrb:(r:Int)+2<=1000000000:=by omega
   have HRR:=hide hr
   clear hr
   have HP6:Hid (StmtsM B T (w3.setCell ⟨g,j*6+4,none⟩ (.int .i64 (r:Int))) (.slice (some ⟨g,0,none⟩) ss.length ss.length) ss):=HP5.out.sh (s4 _ (plain_int _ _))
   have HS6:Hid (Sh B T w (w3.setCell ⟨g,j*6+4,none⟩ (.int .i64 (r:Int)))):=HS5.out.trans (s4 _ (plain_int _ _))
   obtain ⟨_,_,-,-,-,-,P5⟩:=HP6.out.at j hlt
   obtain ⟨⟨y5,o5⟩,f5,s5⟩:=P5 5 (by simp)
   have HS7:Hid (Sh B T w ((w3.setCell ⟨g,j*6+4,none⟩ (.int .i64 (r:Int))).setCell ⟨g,j*6+5,none⟩ (.int .i64 ((r:Int)+1)))):=HS6.out.trans (s5 _ (plain_int _ _))
   clear P4 P5 s4 s5 d3 sh3
   go_wp2_with fail
   go_roundw
   case rel=>
    refine ⟨j+1,by omega,by go_num,?_,HS7.out⟩
    have h1:=HST.out
    have h2:=HC.out
    have h3:=HQ.out
    have h4:=HRR.out
    have h5:=HQ2.out
    rw [show k+sumBy cntS (ss.take (j+1))=r+2 by omega]
    go_num
   case measure=>simp [RowKit.intOf];omega
  ·have hjn:ss.take j=ss:=List.take_of_length_le o_
   go_wp2_with fail
   go_ret
   exact ⟨ret_int' (by rw [hjn]),hS⟩
theorem markFuncs_any (B T:Nat) (v:Value) (fs:List Fu) (k:Nat) (w:World) (hn:fs.length<=1048576) (hsm : ∀f∈fs,smallF f) (h0:0<k) (hk:(k:Int)+(sumBy cntF fs:Nat)<=1000000000) (h:FuncsM B T w v fs) :
  Calls Tryz.prog 32 #[v,.int .i64 k] w fun e w'=>e = .returned (.int .i64 ((k+sumBy cntF fs:Nat):Int))/\Sh B T w w':=by
 have HP:=hide h
 have HSM:=hide hsm
 have HK:=hide hk
 obtain ⟨g,cur,rfl,-,-,-,-,-⟩:=h
 clear hsm hk
 go_enter Tryz.func32,Tryz.ntmps32
 go_wp2_with fail
 go_loopw [1,5] (fun q i wr=>∃j:Nat,j<=fs.length/\i = .int .i64 j/\q = .int .i64 ((k+sumBy cntF (fs.take j):Nat):Int)/\Sh B T w wr) (fun _ i _=>fs.length-(RowKit.intOf i).toNat)
 case atStart=>exact ⟨0,Nat.zero_le _,rfl,by simp [sumBy],Sh.refl _ _ _⟩
 case round=>
  obtain ⟨j,hj,rfl,rfl,hS⟩:=hrel
  by_cases hlt:j<fs.length
  ·have HP0:=hide (HP.out.sh hS)
   have HST:Hid _:=sumBy_step cntF fs j hlt
   have hle:=sumBy_le cntF fs (j+1)
   have hsm:=HSM.out fs[j] (List.getElem_mem hlt)
   have hcs:cntF fs[j]=1+fs[j].params.length+sumBy cntS fs[j].body:=rfl
   have hqb:((k+sumBy cntF (fs.take j):Nat):Int)+1+fs[j].params.length+(sumBy cntS fs[j].body:Nat)<=1000000000:=by
    have h1:=HST.out
    have h2:=HK.out
    omega
   have hq0:0<k+sumBy cntF (fs.take j):=by omega
   have HC:=hide hcs
   have hse:=hsm.1
   have hsf:=hsm.2.1
   have HSF:Hid (∀s∈fs[j].body,smallS s):=hsm.2.2
   clear hle hcs hsm
   generalize hq:k+sumBy cntF (fs.take j)=q at hqb hq0 ⊢
   have HQ:=hide hq
   generalize hne:fs[j].params.length=ne at hse hqb HC
   have HNE:=hide hne
   have HSH:=hide hS
   have HBD:Hid (∀(W:World) (v:Value),StmtsM B T W v fs[j].body->StmtsM B T W v fs[j].body):=fun _ _ h=>h
   clear hq hne
   go_wp2_with fail
   refine (mtext_any q o_ o_ _).mono ?_
   rintro e w1 ⟨rfl,hb1⟩
   have HP2:Hid (FuncsM B T w1 (.slice (some ⟨g,0,none⟩) fs.length fs.length) fs):=HP0.out.sh (Sh.of_below hb1)
   have HS2:Hid (Sh B T w w1):=HSH.out.trans (Sh.of_below hb1)
   obtain ⟨vp,vb,c1,c2,pp,pb,⟨y0,o0⟩,f0,s0⟩:=HP2.out.at j hlt
   have HP3:Hid (FuncsM B T (w1.setCell ⟨g,j*3,none⟩ (.string (mtxt q))) (.slice (some ⟨g,0,none⟩) fs.length fs.length) fs):=HP2.out.sh (s0 _ (plain_str _))
   have HS3:Hid (Sh B T w (w1.setCell ⟨g,j*3,none⟩ (.string (mtxt q)))):=HS2.out.trans (s0 _ (plain_str _))
   have HPE:Hid (PlainM B T 9 1 (w1.setCell ⟨g,j*3,none⟩ (.string (mtxt q))) vp ne):=by rw [<-HNE.out];exact pp.sh (s0 _ (plain_str _))
   obtain ⟨ae,lne,cne,rfl⟩:=pp.isSlice
   obtain ⟨af,lnf,cnf,rfl⟩:=pb.isSlice
   clear s0 pp pb hb1
   go_wp2_with fail
   rw [show ((q:Int)+1)=((q+1:Nat):Int) by omega]
   refine (markStrs_any B T _ ne (q+1) _ hse o_ o_ HPE.out).mono ?_
   rintro e w2 ⟨rfl,sh2⟩
   generalize hq2:q+1+1*ne=q2
   have hq2b:(q2:Int)+(sumBy cntS fs[j].body:Nat)<=1000000000:=by omega
   have hq20:0<q2:=by omega
   have HQ2:=hide hq2
   clear hq2
   have HP4:=hide (HP3.out.sh sh2)
   have HS4:Hid (Sh B T w w2):=HS3.out.trans sh2
   obtain ⟨vp',vb',-,d2,-,pb',-⟩:=HP4.out.at j hlt
   have HPB:=hide pb'
   obtain ⟨af',lnf',cnf',rfl⟩:=pb'.isSlice
   clear c1 c2 o0 f0 HP3 HS3 sh2 pb'
   go_wp2_with fail
   refine (markStmts_any B T _ fs[j].body q2 _ hsf HSF.out hq20 hq2b HPB.out).mono ?_
   rintro e w3 ⟨rfl,sh3⟩
   have HS5:Hid (Sh B T w w3):=HS4.out.trans sh3
   generalize hr:q2+sumBy cntS fs[j].body=r
   have HRR:=hide hr
   clear hr d2 sh3 hq2b hqb
   go_wp2_with fail
   go_roundw
   case rel=>
    refine ⟨j+1,by omega,by go_num,?_,HS5.out⟩
    have h1:=HST.out
    have h2:=HC.out
    have h3:=HQ.out
    have h4:=HRR.out
    have h5:=HQ2.out
    rw [show k+sumBy cntF (fs.take (j+1))=r by omega]
   case measure=>simp [RowKit.intOf];omega
  ·have hjn:fs.take j=fs:=List.take_of_length_le o_
   go_wp2_with fail
   go_ret
   exact ⟨ret_int' (by rw [hjn]),hS⟩
theorem box2_sh {B T:Nat} {w w':World} {t:TypeId} {x y:Value} (h:Sh B T (w.alloc (.cells #[x,y] t)) w') (hT:T<=w.heap.size):w'.cell? ⟨w.heap.size,0,none⟩=some x/\w'.cell? ⟨w.heap.size,1,none⟩=some y:=by
 have hk:=h.keep w.heap.size hT (by simp)
 exact ⟨by rw [World.cell?_of_block (w:=w.alloc (.cells #[x,y] t)) hk];simp,by rw [World.cell?_of_block (w:=w.alloc (.cells #[x,y] t)) hk];simp⟩
theorem markTree_any (B T:Nat) (vg vf:Value) (t:Tr) (k:Nat) (w:World) (hT:T<=w.heap.size) (hs:smallT t) (h0:0<k) (hk:(k:Int)+(cntT t:Nat)<=1000000000) (hg:PlainM B T 90 2 w vg t.globals.length) (hf:FuncsM B T w vf t.funcs) :
  Calls Tryz.prog 10 #[.agg #[vg,vf],.int .i64 k] w fun e w'=>e = .returned (.int .i64 ((k+cntT t:Nat):Int))/\Sh B T w w':=by
 obtain ⟨gs,fs⟩:=t
 have hgl:gs.length<=1048576:=hs.1
 have hfl:fs.length<=1048576:=hs.2.1
 have HSF:Hid (∀f∈fs,smallF f):=hs.2.2
 have HC:Hid (cntT ⟨gs,fs⟩=2*gs.length+sumBy cntF fs):=rfl
 have hkb:(k:Int)+2*gs.length+(sumBy cntF fs:Nat)<=1000000000:=by have:=HC.out;omega
 simp only at hg hf
 have HG:=hide hg
 have HF:=hide hf
 obtain ⟨ag,lg,cg,rfl⟩:=hg.isSlice
 obtain ⟨gf,cur,rfl,-,-,-,-,-⟩:=hf
 clear hg hs hk
 have hA:Bl w (w.alloc (.cells #[.slice ag lg cg,.slice (some ⟨gf,0,none⟩) fs.length fs.length] 32)):=bel_a _ _
 have HT0:=hide (PlainM.sh HG.out (Sh.of_below hA))
 go_enter Tryz.func10,Tryz.ntmps10
 go_wp2_with fail
 refine (markGlobs_any B T _ gs.length k _ hgl h0 o_ HT0.out).mono ?_
 rintro e w1 ⟨rfl,sh1⟩
 obtain ⟨x0,x1⟩:=box2_sh sh1 hT
 have HSH:Hid (Sh B T w w1):=(Sh.of_below hA).trans sh1
 have HF1:=hide (HF.out.sh HSH.out)
 generalize hq:k+2*gs.length=q
 have hqb:(q:Int)+(sumBy cntF fs:Nat)<=1000000000:=by omega
 have hq0:0<q:=by omega
 have HQ:=hide hq
 clear hq hkb sh1 hA
 go_wp2_with fail
 refine (markFuncs_any B T _ fs q _ hfl HSF.out hq0 hqb HF1.out).mono ?_
 rintro e w2 ⟨rfl,sh2⟩
 have HS2:Hid (Sh B T w w2):=HSH.out.trans sh2
 generalize hr:q+sumBy cntF fs=r
 have HR:=hide hr
 clear hr sh2 x0 x1 hqb
 go_wp2_with fail
 go_ret
 exact ⟨ret_int' (by have:=HC.out;have:=HQ.out;have:=HR.out;omega),HS2.out⟩
theorem NodesO.plain {B:Nat} {w:World} {v:Value} {ns:List Nd} (h:NodesO B w v ns):PlainM B w.heap.size 151 3 w v ns.length:=by
 obtain ⟨g,xs,rfl,ho,hx⟩:=h
 have hlt:=own_lt ho
 rcases ho.2 with ⟨h',_⟩ | ⟨g',cap',cur,h',hB,hg,hnc,hcm,hcs,htake⟩
 ·simp at h'
 ·simp only [Value.slice.injEq,Option.some.injEq,Addr.mk.injEq,and_true,true_and] at h'
  obtain ⟨rfl,rfl⟩:=h'
  refine ⟨g,cur,rfl,hB,hlt.2,hg,hcs,fun i v hv a n c e => ?_⟩
  subst e
  have hi:i<ns.length*3:=by have:=(Array.getElem?_eq_some_iff.1 hv).1;omega
  have e1:xs[i]? = some (.slice a n c):=by rw [<-htake,List.getElem?_take,if_pos hi];simpa using hv
  have e2:=hx (i / 3) o_ (i % 3) (Nat.mod_lt _ o_)
  rw [show i / 3*3+i % 3=i by omega,e1] at e2
  have h3:i % 3=0∨i % 3=1∨i % 3=2:=by omega
  rcases h3 with h | h | h <;> rw [h] at e2 <;> simp [encN] at e2
theorem StrsO.plain {B:Nat} {w:World} {v:Value} {ns:List ByteArray} (h:StrsO B w v ns):PlainM B w.heap.size 9 1 w v ns.length:=by
 obtain ⟨g,xs,rfl,ho,hx⟩:=h
 have hlt:=own_lt ho
 rcases ho.2 with ⟨h',_⟩ | ⟨g',cap',cur,h',hB,hg,hnc,hcm,hcs,htake⟩
 ·simp at h'
 ·simp only [Value.slice.injEq,Option.some.injEq,Addr.mk.injEq,and_true,true_and] at h'
  obtain ⟨rfl,rfl⟩:=h'
  refine ⟨g,cur,rfl,hB,hlt.2,hg,hcs,fun i v hv a n c e => ?_⟩
  subst e
  have hi:i<ns.length*1:=by have:=(Array.getElem?_eq_some_iff.1 hv).1;omega
  have e1:xs[i]? = some (.slice a n c):=by rw [<-htake,List.getElem?_take,if_pos hi];simpa using hv
  have e2:=hx i o_ 0 o_
  rw [show i*1+0=i by omega,e1] at e2
  simp [encP] at e2
theorem GlobsO.plain {B:Nat} {w:World} {v:Value} {ns:List Gl} (h:GlobsO B w v ns):PlainM B w.heap.size 90 2 w v ns.length:=by
 obtain ⟨g,xs,rfl,ho,hx⟩:=h
 have hlt:=own_lt ho
 rcases ho.2 with ⟨h',_⟩ | ⟨g',cap',cur,h',hB,hg,hnc,hcm,hcs,htake⟩
 ·simp at h'
 ·simp only [Value.slice.injEq,Option.some.injEq,Addr.mk.injEq,and_true,true_and] at h'
  obtain ⟨rfl,rfl⟩:=h'
  refine ⟨g,cur,rfl,hB,hlt.2,hg,hcs,fun i v hv a n c e => ?_⟩
  subst e
  have hi:i<ns.length*2:=by have:=(Array.getElem?_eq_some_iff.1 hv).1;omega
  have e1:xs[i]? = some (.slice a n c):=by rw [<-htake,List.getElem?_take,if_pos hi];simpa using hv
  have e2:=hx (i / 2) o_ (i % 2) (Nat.mod_lt _ o_)
  rw [show i / 2*2+i % 2=i by omega,e1] at e2
  have h3:i % 2=0∨i % 2=1:=by omega
  rcases h3 with h | h <;> rw [h] at e2 <;> simp [encG] at e2
theorem StmtsO.marks {B:Nat} {w:World} {v:Value} {ns:List St} (h:StmtsO B w v ns):StmtsM B w.heap.size w v ns:=by
 obtain ⟨g,xs,V,rfl,ho,hx,hn⟩:=h
 have hlt:=own_lt ho
 rcases ho.2 with ⟨h',_⟩ | ⟨g',cap',cur,h',hB,hg,hnc,hcm,hcs,htake⟩
 ·simp at h'
 ·simp only [Value.slice.injEq,Option.some.injEq,Addr.mk.injEq,and_true,true_and] at h'
  obtain ⟨rfl,rfl⟩:=h'
  have key : ∀j (h:j<ns.length) i,i<6->cur[j*6+i]? = (encS ns[j] (V j))[i]? := fun j hj i hi=>by
   have e2:=hx j hj i hi
   rw [<-htake,List.getElem?_take,if_pos o_] at e2
   simp only [List.getD,hj,List.getElem?_eq_getElem,Option.getD_some] at e2
   simpa using e2
  refine ⟨g,cur,rfl,hB,hlt.2,hg,hcs,fun j hj=>⟨⟨(V j).1,(V j).2,key j hj 2 o_,key j hj 3 o_,(hn j hj).1.plain,(hn j hj).2.plain⟩,fun i hi v hv a n c e => ?_⟩⟩
  subst e
  rcases hi with rfl | rfl | rfl | rfl
  all_goals (rw [key j hj _ o_] at hv;simp [encS] at hv)
theorem FuncsO.marks {B:Nat} {w:World} {v:Value} {ns:List Fu} (h:FuncsO B w v ns):FuncsM B w.heap.size w v ns:=by
 obtain ⟨g,xs,V,rfl,ho,hx,hn⟩:=h
 have hlt:=own_lt ho
 rcases ho.2 with ⟨h',_⟩ | ⟨g',cap',cur,h',hB,hg,hnc,hcm,hcs,htake⟩
 ·simp at h'
 ·simp only [Value.slice.injEq,Option.some.injEq,Addr.mk.injEq,and_true,true_and] at h'
  obtain ⟨rfl,rfl⟩:=h'
  have key : ∀j (h:j<ns.length) i,i<3->cur[j*3+i]? = (encF ns[j] (V j))[i]? := fun j hj i hi=>by
   have e2:=hx j hj i hi
   rw [<-htake,List.getElem?_take,if_pos o_] at e2
   simp only [List.getD,hj,List.getElem?_eq_getElem,Option.getD_some] at e2
   simpa using e2
  refine ⟨g,cur,rfl,hB,hlt.2,hg,hcs,fun j hj=>⟨⟨(V j).1,(V j).2,key j hj 1 o_,key j hj 2 o_,(hn j hj).1.plain,(hn j hj).2.marks⟩,fun v hv a n c e => ?_⟩⟩
  subst e
  have:=key j hj 0 o_
  rw [Nat.add_zero] at this
  rw [this] at hv
  simp [encF] at hv
theorem bcell {W w1:World} (hb:Below W.heap.size W w1):(∀b o,b<W.heap.size->w1.cell? ⟨b,o,none⟩=W.cell? ⟨b,o,none⟩)/\(∀b o,b<W.heap.size->w1.frozen? ⟨b,o,none⟩=W.frozen? ⟨b,o,none⟩):=
 ⟨fun b o h=>hb.cell (p:=⟨b,o,none⟩) h,fun b o h=>hb.frozen (p:=⟨b,o,none⟩) h⟩
theorem eqNode_any (n:Nd) (w:World):Calls Tryz.prog 171 #[.agg #[.int .i64 n.kind,.int .i64 n.val,.string n.name],.agg #[.int .i64 n.kind,.int .i64 n.val,.string n.name]] w fun e w'=>e = .returned (.bool true)/\Below w.heap.size w w':=by
 obtain ⟨k,v,s⟩:=n
 simp only
 go_enter Tryz.func171,Tryz.ntmps171
 go_wp2_with fail
 go_ret
 exact ⟨rfl,(bel_a _ _).alloc (by simp) _⟩
theorem eqNodes_any (v1 v2:Value) (ns:List Nd) (w:World) (hl:ns.length<=1048576) (h1:Nodes w v1 ns) (h2:Nodes w v2 ns) :
  Calls Tryz.prog 141 #[v1,v2] w fun e w'=>e = .returned (.bool true)/\Below w.heap.size w w':=by
 obtain ⟨a1,c1,rfl,-,-,hc1⟩:=h1
 obtain ⟨a2,c2,rfl,-,-,hc2⟩:=h2
 have H1:=hide hc1
 have H2:=hide hc2
 go_enter Tryz.func141,Tryz.ntmps141
 go_wp2_with fail
 go_loopw [5] (fun i wr=>∃k:Nat,k<=ns.length/\i = .int .i64 k/\Bl w wr) (fun i _=>ns.length-(RowKit.intOf i).toNat)
 case atStart=>exact ⟨0,Nat.zero_le _,rfl,Below.refl _ _⟩
 case round=>
  obtain ⟨k,hk,rfl,hB⟩:=hrel
  by_cases hlt:k<ns.length
  ·obtain ⟨b1,o1,rfl,hx1⟩:=H1.out o_
   obtain ⟨b2,o2,rfl,hx2⟩:=H2.out o_
   obtain ⟨d0,d1,d2⟩:=(hx1.below hB) k hlt
   obtain ⟨e0,e1,e2⟩:=(hx2.below hB) k hlt
   have l1:=World.block_lt_of_cell? _ _ d0
   have l2:=World.block_lt_of_cell? _ _ e0
   simp only at l1 l2
   generalize ns[k]=n at d0 d1 d2 e0 e1 e2
   go_wp2_with fail
   go_region_held3 (fun W=>W.cell? ⟨b1,o1+k*3,none⟩=some (.int .i64 n.kind)/\W.cell? ⟨b1,o1+k*3+1,none⟩=some (.int .i64 n.val)/\W.cell? ⟨b1,o1+k*3+2,none⟩=some (.string n.name)/\W.cell? ⟨b2,o2+k*3,none⟩=some (.int .i64 n.kind)/\W.cell? ⟨b2,o2+k*3+1,none⟩=some (.int .i64 n.val)/\W.cell? ⟨b2,o2+k*3+2,none⟩=some (.string n.name)) (go_simp)
    (first
    | (go_at_call 171;refine (eqNode_any n _).mono ?_;rintro e w2 ⟨rfl,hb2⟩;have hcc : ∀b o,b<wr.heap.size->w2.cell? ⟨b,o,none⟩=wr.cell? ⟨b,o,none⟩:=(bcell hb2).1))
   have hB2:=hB.trans ((((Below.refl _ _).drew).trans hb2).mono hB.size)
   go_wp2_with fail
   go_roundw
   case rel=>exact ⟨k+1,by omega,by go_num,hB2⟩
   case measure=>simp [RowKit.intOf];omega
  ·go_wp2_with fail
   go_ret
   exact ⟨rfl,hB⟩
theorem eqGlob_any (n:Gl) (w:World):Calls Tryz.prog 58 #[.agg #[.string n.name,.int .i64 n.size],.agg #[.string n.name,.int .i64 n.size]] w fun e w'=>e = .returned (.bool true)/\Below w.heap.size w w':=by
 obtain ⟨s,z⟩:=n
 simp only
 go_enter Tryz.func58,Tryz.ntmps58
 go_wp2_with fail
 go_ret
 exact ⟨rfl,(bel_a _ _).alloc (by simp) _⟩
theorem eqGlobs_any (v1 v2:Value) (ns:List Gl) (w:World) (hl:ns.length<=1048576) (h1:Globs w v1 ns) (h2:Globs w v2 ns) :
  Calls Tryz.prog 29 #[v1,v2] w fun e w'=>e = .returned (.bool true)/\Below w.heap.size w w':=by
 obtain ⟨a1,c1,rfl,-,-,hc1⟩:=h1
 obtain ⟨a2,c2,rfl,-,-,hc2⟩:=h2
 have H1:=hide hc1
 have H2:=hide hc2
 go_enter Tryz.func29,Tryz.ntmps29
 go_wp2_with fail
 go_loopw [5] (fun i wr=>∃k:Nat,k<=ns.length/\i = .int .i64 k/\Bl w wr) (fun i _=>ns.length-(RowKit.intOf i).toNat)
 case atStart=>exact ⟨0,Nat.zero_le _,rfl,Below.refl _ _⟩
 case round=>
  obtain ⟨k,hk,rfl,hB⟩:=hrel
  by_cases hlt:k<ns.length
  ·obtain ⟨b1,o1,rfl,hx1⟩:=H1.out o_
   obtain ⟨b2,o2,rfl,hx2⟩:=H2.out o_
   obtain ⟨d0,d1⟩:=(hx1.below hB) k hlt
   obtain ⟨e0,e1⟩:=(hx2.below hB) k hlt
   have l1:=World.block_lt_of_cell? _ _ d0
   have l2:=World.block_lt_of_cell? _ _ e0
   simp only at l1 l2
   generalize ns[k]=n at d0 d1 e0 e1
   go_wp2_with fail
   go_region_held3 (fun W=>W.cell? ⟨b1,o1+k*2,none⟩=some (.string n.name)/\W.cell? ⟨b1,o1+k*2+1,none⟩=some (.int .i64 n.size)/\W.cell? ⟨b2,o2+k*2,none⟩=some (.string n.name)/\W.cell? ⟨b2,o2+k*2+1,none⟩=some (.int .i64 n.size)) (go_simp)
    (first
    | (go_at_call 58;refine (eqGlob_any n _).mono ?_;rintro e w2 ⟨rfl,hb2⟩;have hcc : ∀b o,b<wr.heap.size->w2.cell? ⟨b,o,none⟩=wr.cell? ⟨b,o,none⟩:=(bcell hb2).1))
   have hB2:=hB.trans ((((Below.refl _ _).drew).trans hb2).mono hB.size)
   go_wp2_with fail
   go_roundw
   case rel=>exact ⟨k+1,by omega,by go_num,hB2⟩
   case measure=>simp [RowKit.intOf];omega
  ·go_wp2_with fail
   go_ret
   exact ⟨rfl,hB⟩
theorem eqStrs_any (v1 v2:Value) (ns:List ByteArray) (w:World) (hl:ns.length<=1048576) (h1:Strs w v1 ns) (h2:Strs w v2 ns) :
  Calls Tryz.prog 82 #[v1,v2] w fun e w'=>e = .returned (.bool true)/\Below w.heap.size w w':=by
 obtain ⟨a1,c1,rfl,-,-,hc1⟩:=h1
 obtain ⟨a2,c2,rfl,-,-,hc2⟩:=h2
 have H1:=hide hc1
 have H2:=hide hc2
 go_enter Tryz.func82,Tryz.ntmps82
 go_wp2_with fail
 go_loopw [5] (fun i wr=>∃k:Nat,k<=ns.length/\i = .int .i64 k/\Bl w wr) (fun i _=>ns.length-(RowKit.intOf i).toNat)
 case atStart=>exact ⟨0,Nat.zero_le _,rfl,Below.refl _ _⟩
 case round=>
  obtain ⟨k,hk,rfl,hB⟩:=hrel
  by_cases hlt:k<ns.length
  ·obtain ⟨b1,o1,rfl,hx1⟩:=H1.out o_
   obtain ⟨b2,o2,rfl,hx2⟩:=H2.out o_
   have d0:=(hx1.below hB) k hlt
   have e0:=(hx2.below hB) k hlt
   generalize ns[k]=n at d0 e0
   go_wp2_with fail
   go_quiet (fail)
   go_wp2_with fail
   go_roundw
   case rel=>exact ⟨k+1,by omega,by go_num,below_drewN hB _⟩
   case measure=>simp [RowKit.intOf];omega
  ·go_wp2_with fail
   go_ret
   exact ⟨rfl,hB⟩
theorem box66 {w w':World} {t u:TypeId} {a0 a1 a2 a3 a4 a5 b0 b1 b2 b3 b4 b5:Value} (h:Below (w.heap.size+1+1) ((w.alloc (.cells #[a0,a1,a2,a3,a4,a5] t)).alloc (.cells #[b0,b1,b2,b3,b4,b5] u)) w') :
  (w'.cell? ⟨w.heap.size,0,none⟩=some a0/\w'.cell? ⟨w.heap.size,1,none⟩=some a1/\w'.cell? ⟨w.heap.size,2,none⟩=some a2/\w'.cell? ⟨w.heap.size,3,none⟩=some a3/\w'.cell? ⟨w.heap.size,4,none⟩=some a4/\w'.cell? ⟨w.heap.size,5,none⟩=some a5) /\
  (w'.cell? ⟨w.heap.size+1,0,none⟩=some b0/\w'.cell? ⟨w.heap.size+1,1,none⟩=some b1/\w'.cell? ⟨w.heap.size+1,2,none⟩=some b2/\w'.cell? ⟨w.heap.size+1,3,none⟩=some b3/\w'.cell? ⟨w.heap.size+1,4,none⟩=some b4/\w'.cell? ⟨w.heap.size+1,5,none⟩=some b5):=by
 refine ⟨⟨?_,?_,?_,?_,?_,?_⟩,⟨?_,?_,?_,?_,?_,?_⟩⟩
 all_goals (rw [h.cell (by first | (simp;done) | (simp;omega))];go_simp;done)
theorem box33 {w w':World} {t u:TypeId} {a0 a1 a2 b0 b1 b2:Value} (h:Below (w.heap.size+1+1) ((w.alloc (.cells #[a0,a1,a2] t)).alloc (.cells #[b0,b1,b2] u)) w') :
  (w'.cell? ⟨w.heap.size,0,none⟩=some a0/\w'.cell? ⟨w.heap.size,1,none⟩=some a1/\w'.cell? ⟨w.heap.size,2,none⟩=some a2) /\
  (w'.cell? ⟨w.heap.size+1,0,none⟩=some b0/\w'.cell? ⟨w.heap.size+1,1,none⟩=some b1/\w'.cell? ⟨w.heap.size+1,2,none⟩=some b2):=by
 refine ⟨⟨?_,?_,?_⟩,⟨?_,?_,?_⟩⟩
 all_goals (rw [h.cell (by first | (simp;done) | (simp;omega))];go_simp;done)
theorem box22 {w w':World} {t u:TypeId} {a0 a1 b0 b1:Value} (h:Below (w.heap.size+1+1) ((w.alloc (.cells #[a0,a1] t)).alloc (.cells #[b0,b1] u)) w') :
  (w'.cell? ⟨w.heap.size,0,none⟩=some a0/\w'.cell? ⟨w.heap.size,1,none⟩=some a1) /\
  (w'.cell? ⟨w.heap.size+1,0,none⟩=some b0/\w'.cell? ⟨w.heap.size+1,1,none⟩=some b1):=by
 refine ⟨⟨?_,?_⟩,⟨?_,?_⟩⟩
 all_goals (rw [h.cell (by first | (simp;done) | (simp;omega))];go_simp;done)
theorem eqStmt_any (s:St) (x1 y1 x2 y2:Value) (w:World) (hs:smallS s) (h1:Nodes w x1 s.e) (h2:Nodes w y1 s.f) (h3:Nodes w x2 s.e) (h4:Nodes w y2 s.f) :
  Calls Tryz.prog 108 #[.agg #[.int .i64 s.kind,.string s.name,x1,y1,.int .i64 s.thn,.int .i64 s.els],.agg #[.int .i64 s.kind,.string s.name,x2,y2,.int .i64 s.thn,.int .i64 s.els]] w fun e w'=>e = .returned (.bool true)/\Below w.heap.size w w':=by
 obtain ⟨k,n,es,fs,t,l⟩:=s
 have hse:es.length<=1048576:=hs.1
 have hsf:fs.length<=1048576:=hs.2
 simp only at h1 h2 h3 h4 ⊢
 have H1:=hide h1
 have H2:=hide h2
 have H3:=hide h3
 have H4:=hide h4
 obtain ⟨p1,q1,rfl,-,-,-⟩:=h1
 obtain ⟨p2,q2,rfl,-,-,-⟩:=h2
 obtain ⟨p3,q3,rfl,-,-,-⟩:=h3
 obtain ⟨p4,q4,rfl,-,-,-⟩:=h4
 go_enter Tryz.func108,Tryz.ntmps108
 go_wp2_with fail
 have hA:Bl w ((w.alloc (.cells #[.int .i64 k,.string n,.slice p1 es.length q1,.slice p2 fs.length q2,.int .i64 t,.int .i64 l] 123)).alloc (.cells #[.int .i64 k,.string n,.slice p3 es.length q3,.slice p4 fs.length q4,.int .i64 t,.int .i64 l] 123)):=(bel_a _ _).alloc (by simp) _
 refine (eqNodes_any _ _ es _ hse (H1.out.below hA) (H3.out.below hA)).mono ?_
 rintro e w1 ⟨rfl,hb1⟩
 simp only [World.size_alloc] at hb1
 obtain ⟨⟨a0,a1,a2,a3,a4,a5⟩,b0,b1,b2,b3,b4,b5⟩:=box66 hb1
 have hB1:=two_below hb1
 go_wp2_with fail
 refine (eqNodes_any _ _ fs _ hsf (H2.out.below hB1) (H4.out.below hB1)).mono ?_
 rintro e w2 ⟨rfl,hb2⟩
 have hb2':=hb1.trans (hb2.mono (by have:=hb1.size;simp at this;omega))
 have hB2:=two_below hb2'
 obtain ⟨⟨a0,a1,a2,a3,a4,a5⟩,b0,b1,b2,b3,b4,b5⟩:=box66 hb2'
 go_wp2_with fail
 go_ret
 exact ⟨rfl,hB2⟩
theorem eqStmts_any (v1 v2:Value) (ns:List St) (w:World) (hl:ns.length<=1048576) (hsm : ∀s∈ns,smallS s) (h1:Stmts w v1 ns) (h2:Stmts w v2 ns) :
  Calls Tryz.prog 83 #[v1,v2] w fun e w'=>e = .returned (.bool true)/\Below w.heap.size w w':=by
 obtain ⟨a1,c1,rfl,-,-,hc1⟩:=h1
 obtain ⟨a2,c2,rfl,-,-,hc2⟩:=h2
 have H1:=hide hc1
 have H2:=hide hc2
 have HSM:=hide hsm
 go_enter Tryz.func83,Tryz.ntmps83
 go_wp2_with fail
 go_loopw [5] (fun i wr=>∃k:Nat,k<=ns.length/\i = .int .i64 k/\Bl w wr) (fun i _=>ns.length-(RowKit.intOf i).toNat)
 case atStart=>exact ⟨0,Nat.zero_le _,rfl,Below.refl _ _⟩
 case round=>
  obtain ⟨k,hk,rfl,hB⟩:=hrel
  by_cases hlt:k<ns.length
  ·obtain ⟨b1,o1,rfl,hx1⟩:=H1.out o_
   obtain ⟨b2,o2,rfl,hx2⟩:=H2.out o_
   obtain ⟨x1,y1,⟨d0,d1,d2,d3,d4,d5⟩,g1,g2⟩:=(hx1.below hB) k hlt
   obtain ⟨x2,y2,⟨e0,e1,e2,e3,e4,e5⟩,g3,g4⟩:=(hx2.below hB) k hlt
   have l1:=World.block_lt_of_cell? _ _ d0
   have l2:=World.block_lt_of_cell? _ _ e0
   simp only at l1 l2
   have HS1:Hid (smallS ns[k]):=HSM.out ns[k] (List.getElem_mem hlt)
   generalize ns[k]=n at d0 d1 d2 d3 d4 d5 e0 e1 e2 e3 e4 e5 g1 g2 g3 g4 HS1
   have HA:=hide g1
   have HB:=hide g2
   have HC:=hide g3
   have HD:=hide g4
   obtain ⟨p1,q1,rfl,-,-,-⟩:=g1
   obtain ⟨p2,q2,rfl,-,-,-⟩:=g2
   obtain ⟨p3,q3,rfl,-,-,-⟩:=g3
   obtain ⟨p4,q4,rfl,-,-,-⟩:=g4
   have hdr:Bl wr wr.drew:=(Below.refl _ _).drew
   go_wp2_with fail
   go_region_held3 (fun W=>W.cell? ⟨b1,o1+k*6,none⟩=some (.int .i64 n.kind)/\W.cell? ⟨b1,o1+k*6+1,none⟩=some (.string n.name)/\W.cell? ⟨b1,o1+k*6+2,none⟩=some (.slice p1 n.e.length q1)/\W.cell? ⟨b1,o1+k*6+3,none⟩=some (.slice p2 n.f.length q2)/\W.cell? ⟨b1,o1+k*6+4,none⟩=some (.int .i64 n.thn)/\W.cell? ⟨b1,o1+k*6+5,none⟩=some (.int .i64 n.els)/\W.cell? ⟨b2,o2+k*6,none⟩=some (.int .i64 n.kind)/\W.cell? ⟨b2,o2+k*6+1,none⟩=some (.string n.name)/\W.cell? ⟨b2,o2+k*6+2,none⟩=some (.slice p3 n.e.length q3)/\W.cell? ⟨b2,o2+k*6+3,none⟩=some (.slice p4 n.f.length q4)/\W.cell? ⟨b2,o2+k*6+4,none⟩=some (.int .i64 n.thn)/\W.cell? ⟨b2,o2+k*6+5,none⟩=some (.int .i64 n.els)) (go_simp)
    (first
    | (go_at_call 108;refine (eqStmt_any n _ _ _ _ _ HS1.out (HA.out.below hdr) (HB.out.below hdr) (HC.out.below hdr) (HD.out.below hdr)).mono ?_;rintro e w2 ⟨rfl,hb2⟩;have hcc : ∀b o,b<wr.heap.size->w2.cell? ⟨b,o,none⟩=wr.cell? ⟨b,o,none⟩:=(bcell hb2).1))
   have hB2:=hB.trans ((((Below.refl _ _).drew).trans hb2).mono hB.size)
   go_wp2_with fail
   go_roundw
   case rel=>exact ⟨k+1,by omega,by go_num,hB2⟩
   case measure=>simp [RowKit.intOf];omega
  ·go_wp2_with fail
   go_ret
   exact ⟨rfl,hB⟩
theorem eqFunc_any (s:Fu) (x1 y1 x2 y2:Value) (w:World) (hs:smallF s) (h1:Strs w x1 s.params) (h2:Stmts w y1 s.body) (h3:Strs w x2 s.params) (h4:Stmts w y2 s.body) :
  Calls Tryz.prog 59 #[.agg #[.string s.name,x1,y1],.agg #[.string s.name,x2,y2]] w fun e w'=>e = .returned (.bool true)/\Below w.heap.size w w':=by
 obtain ⟨n,es,fs⟩:=s
 have hse:es.length<=1048576:=hs.1
 have hsf:fs.length<=1048576:=hs.2.1
 have HSM:Hid (∀s∈fs,smallS s):=hs.2.2
 simp only at h1 h2 h3 h4 ⊢
 have H1:=hide h1
 have H2:=hide h2
 have H3:=hide h3
 have H4:=hide h4
 obtain ⟨p1,q1,rfl,-,-,-⟩:=h1
 obtain ⟨p2,q2,rfl,-,-,-⟩:=h2
 obtain ⟨p3,q3,rfl,-,-,-⟩:=h3
 obtain ⟨p4,q4,rfl,-,-,-⟩:=h4
 go_enter Tryz.func59,Tryz.ntmps59
 go_wp2_with fail
 have hA:Bl w ((w.alloc (.cells #[.string n,.slice p1 es.length q1,.slice p2 fs.length q2] 64)).alloc (.cells #[.string n,.slice p3 es.length q3,.slice p4 fs.length q4] 64)):=(bel_a _ _).alloc (by simp) _
 refine (eqStrs_any _ _ es _ hse (H1.out.below hA) (H3.out.below hA)).mono ?_
 rintro e w1 ⟨rfl,hb1⟩
 simp only [World.size_alloc] at hb1
 obtain ⟨⟨a0,a1,a2⟩,b0,b1,b2⟩:=box33 hb1
 have hB1:=two_below hb1
 go_wp2_with fail
 refine (eqStmts_any _ _ fs _ hsf HSM.out (H2.out.below hB1) (H4.out.below hB1)).mono ?_
 rintro e w2 ⟨rfl,hb2⟩
 have hB2:=hB1.trans (hb2.mono hB1.size)
 go_wp2_with fail
 go_ret
 exact ⟨rfl,hB2⟩
theorem eqFuncs_any (v1 v2:Value) (ns:List Fu) (w:World) (hl:ns.length<=1048576) (hsm : ∀s∈ns,smallF s) (h1:Funcs w v1 ns) (h2:Funcs w v2 ns) :
  Calls Tryz.prog 30 #[v1,v2] w fun e w'=>e = .returned (.bool true)/\Below w.heap.size w w':=by
 obtain ⟨a1,c1,rfl,-,-,hc1⟩:=h1
 obtain ⟨a2,c2,rfl,-,-,hc2⟩:=h2
 have H1:=hide hc1
 have H2:=hide hc2
 have HSM:=hide hsm
 go_enter Tryz.func30,Tryz.ntmps30
 go_wp2_with fail
 go_loopw [5] (fun i wr=>∃k:Nat,k<=ns.length/\i = .int .i64 k/\Bl w wr) (fun i _=>ns.length-(RowKit.intOf i).toNat)
 case atStart=>exact ⟨0,Nat.zero_le _,rfl,Below.refl _ _⟩
 case round=>
  obtain ⟨k,hk,rfl,hB⟩:=hrel
  by_cases hlt:k<ns.length
  ·obtain ⟨b1,o1,rfl,hx1⟩:=H1.out o_
   obtain ⟨b2,o2,rfl,hx2⟩:=H2.out o_
   obtain ⟨x1,y1,⟨d0,d1,d2⟩,g1,g2⟩:=(hx1.below hB) k hlt
   obtain ⟨x2,y2,⟨e0,e1,e2⟩,g3,g4⟩:=(hx2.below hB) k hlt
   have l1:=World.block_lt_of_cell? _ _ d0
   have l2:=World.block_lt_of_cell? _ _ e0
   simp only at l1 l2
   have HS1:Hid (smallF ns[k]):=HSM.out ns[k] (List.getElem_mem hlt)
   generalize ns[k]=n at d0 d1 d2 e0 e1 e2 g1 g2 g3 g4 HS1
   have HA:=hide g1
   have HB:=hide g2
   have HC:=hide g3
   have HD:=hide g4
   obtain ⟨p1,q1,rfl,-,-,-⟩:=g1
   obtain ⟨p2,q2,rfl,-,-,-⟩:=g2
   obtain ⟨p3,q3,rfl,-,-,-⟩:=g3
   obtain ⟨p4,q4,rfl,-,-,-⟩:=g4
   have hdr:Bl wr wr.drew:=(Below.refl _ _).drew
   go_wp2_with fail
   go_region_held3 (fun W=>W.cell? ⟨b1,o1+k*3,none⟩=some (.string n.name)/\W.cell? ⟨b1,o1+k*3+1,none⟩=some (.slice p1 n.params.length q1)/\W.cell? ⟨b1,o1+k*3+2,none⟩=some (.slice p2 n.body.length q2)/\W.cell? ⟨b2,o2+k*3,none⟩=some (.string n.name)/\W.cell? ⟨b2,o2+k*3+1,none⟩=some (.slice p3 n.params.length q3)/\W.cell? ⟨b2,o2+k*3+2,none⟩=some (.slice p4 n.body.length q4)) (go_simp)
    (first
    | (go_at_call 59;refine (eqFunc_any n _ _ _ _ _ HS1.out (HA.out.below hdr) (HB.out.below hdr) (HC.out.below hdr) (HD.out.below hdr)).mono ?_;rintro e w2 ⟨rfl,hb2⟩;have hcc : ∀b o,b<wr.heap.size->w2.cell? ⟨b,o,none⟩=wr.cell? ⟨b,o,none⟩:=(bcell hb2).1))
   have hB2:=hB.trans ((((Below.refl _ _).drew).trans hb2).mono hB.size)
   go_wp2_with fail
   go_roundw
   case rel=>exact ⟨k+1,by omega,by go_num,hB2⟩
   case measure=>simp [RowKit.intOf];omega
  ·go_wp2_with fail
   go_ret
   exact ⟨rfl,hB⟩
theorem eqTree_any (t:Tr) (x1 y1 x2 y2:Value) (w:World) (hs:smallT t) (h1:Globs w x1 t.globals) (h2:Funcs w y1 t.funcs) (h3:Globs w x2 t.globals) (h4:Funcs w y2 t.funcs) :
  Calls Tryz.prog 9 #[.agg #[x1,y1],.agg #[x2,y2]] w fun e w'=>e = .returned (.bool true)/\Below w.heap.size w w':=by
 obtain ⟨es,fs⟩:=t
 have hse:es.length<=1048576:=hs.1
 have hsf:fs.length<=1048576:=hs.2.1
 have HSM:Hid (∀s∈fs,smallF s):=hs.2.2
 simp only at h1 h2 h3 h4 ⊢
 have H1:=hide h1
 have H2:=hide h2
 have H3:=hide h3
 have H4:=hide h4
 obtain ⟨p1,q1,rfl,-,-,-⟩:=h1
 obtain ⟨p2,q2,rfl,-,-,-⟩:=h2
 obtain ⟨p3,q3,rfl,-,-,-⟩:=h3
 obtain ⟨p4,q4,rfl,-,-,-⟩:=h4
 go_enter Tryz.func9,Tryz.ntmps9
 go_wp2_with fail
 have hA:Bl w ((w.alloc (.cells #[.slice p1 es.length q1,.slice p2 fs.length q2] 32)).alloc (.cells #[.slice p3 es.length q3,.slice p4 fs.length q4] 32)):=(bel_a _ _).alloc (by simp) _
 refine (eqGlobs_any _ _ es _ hse (H1.out.below hA) (H3.out.below hA)).mono ?_
 rintro e w1 ⟨rfl,hb1⟩
 simp only [World.size_alloc] at hb1
 obtain ⟨⟨a0,a1⟩,b0,b1⟩:=box22 hb1
 have hB1:=two_below hb1
 go_wp2_with fail
 refine (eqFuncs_any _ _ fs _ hsf HSM.out (H2.out.below hB1) (H4.out.below hB1)).mono ?_
 rintro e w2 ⟨rfl,hb2⟩
 have hB2:=hB1.trans (hb2.mono hB1.size)
 go_wp2_with fail
 go_ret
 exact ⟨rfl,hB2⟩
end Go.Proofs.YtnpidjamplmgjaaGreatDoor
