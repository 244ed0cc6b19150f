import Derived.Test.YtnpidjamplmgjaaGreatDoorQ32
import Derived.Deep.RegionHeld3
import Derived.Deep.QuietTactic
import Derived.BigQuiet
set_option linter.unusedSectionVars false
variable [Inhabited Go.Proofs.YtnpidjamplmgjaaGreatDoor.Pick]
namespace Go.Proofs.YtnpidjamplmgjaaGreatDoor
open Go.RowKit
set_option linter.unusedVariables false
set_option linter.unusedSimpArgs false
set_option maxRecDepth 100000
set_option maxHeartbeats 16000000
theorem Strs.headS {w:World} {a:Option Addr} {cap:Nat} {ss:List ByteArray} (h:Strs w (.slice a ss.length cap) ss) (k:Nat) (hk:k<=ss.length):Strs w (.slice a k cap) (ss.take k):=by
 obtain ⟨a',cap',he,hl,hm,h⟩:=h
 simp only [Value.slice.injEq,true_and] at he
 obtain ⟨rfl,rfl⟩:=he
 refine ⟨a,cap,by simp [Nat.min_eq_left hk],by simp;omega,hm,fun h0 => ?_⟩
 simp only [List.length_take] at h0
 obtain ⟨b,off,rfl,hc⟩:=h o_
 refine ⟨b,off,rfl,fun j hj => ?_⟩
 simp only [List.length_take] at hj
 have:=hc j o_
 rw [this]
 simp
theorem headS_run (a:Option Addr) (n cap k:Nat) (h2:k<=n) (h3:n<=cap) : ∀w:World,(Instr.slice 43 (.slice a n cap) none (some (.int .i64 (k:Int))) none).run Tryz.prog w = .ok (.slice a k cap) w:=by
 intro w
 have hz:Tryz.prog.elem 43=9:=by kernel_rfl
 have hs:(sizeOf 9).run Tryz.prog w = .ok 1 w:=by kernel_rfl
 rw [run_slice_h w 43 a n cap (by rw [hz];exact Tryz.underlying43) .i64 _ o_ o_,hz,hs]
 cases a <;> simp [Result.andThen,sliced,Addr.add]
theorem l3in_same (xs:List ByteArray) (v:Value) (s:ByteArray) (w:World) (hl:xs.length<=10000000) (hx:Strs w v xs) :
  Calls Tryz.prog 113 #[v,.string s] w fun e w'=>e = .returned (.bool (inS xs s))/\w'=w:=by
 obtain ⟨a,c,rfl,-,-,hc⟩:=hx
 have HC:=hide hc
 clear hc
 go_enter Tryz.func113,Tryz.ntmps113
 go_wp2_with fail
 go_loopw [5] (fun i wr=>∃k:Nat,k<=xs.length/\i = .int .i64 k/\(∀j (hj:j<xs.length),j<k->xs[j]≠s)/\wr=w) (fun i _=>xs.length-(RowKit.intOf i).toNat)
 case atStart=>exact ⟨0,Nat.zero_le _,rfl,fun j hj h=>absurd h (Nat.not_lt_zero _),rfl⟩
 case round=>
  obtain ⟨k,hk,rfl,hn,hB⟩:=hrel
  subst hB
  have HN:=hide hn
  clear hn
  by_cases hlt:k<xs.length
  ·obtain ⟨b,off,rfl,hc⟩:=HC.out o_
   have d0:=hc k hlt
   by_cases hs:xs[k]=s
   ·have HR:Hid (inS xs s=true):=inS_at hlt hs
    rw [hs] at d0
    clear hc hs
    go_wp2_with fail
    go_ret
    exact ⟨ret_bool HR.out.symm,rfl⟩
   ·have HS:Hid (∀j (hj:j<xs.length),j<k+1->xs[j]≠s):=fun j hj h=>by
     by_cases e:j=k
     ·subst e;exact hs
     ·exact HN.out j hj o_
    clear hc
    have hs':=ne_list hs
    generalize xs[k]=fn at d0 hs hs'
    go_wp2_with fail
    go_roundw
    case rel=>exact ⟨k+1,by omega,by go_num,HS.out,by first | trivial | rfl⟩
    case measure=>simp [RowKit.intOf];omega
  ·have HR:Hid (inS xs s=false):=inS_no (fun j hj=>HN.out j hj o_)
   go_wp2_with fail
   go_ret
   exact ⟨ret_bool HR.out.symm,rfl⟩
theorem l3body_any (HBl : ∀n,L3Block n) (t:Tr) (vg vf:Value) (i:Nat) (w:World) (hi:i<t.funcs.length) (hgl:t.globals.length<=1000) (hfl:t.funcs.length<=1000) (hok:FnOk t.funcs[i]) (hg:Globs w vg t.globals) (hf:Funcs w vf t.funcs) :
  Calls Tryz.prog 88 #[.agg #[vg,vf],.int .i64 (i:Int)] w fun e w'=>e = .returned (resV (bodyE t i t.funcs[i]))/\Below w.heap.size w w':=by
 have HBL:=hide HBl
 clear HBl
 obtain ⟨RES,hRES⟩ : ∃R,R=bodyE t i t.funcs[i]:=⟨_,rfl⟩
 rw [<-hRES]
 have HRES:=hide hRES
 have HTv:Hid (TrV w t vg vf):=⟨hg,hf⟩
 obtain ⟨ag,cg,rfl,-⟩:=hg
 obtain ⟨af,cf,rfl,-,-,hfc⟩:=hf
 obtain ⟨b,off,rfl,hc⟩:=hfc o_
 obtain ⟨vp,vb,⟨c0,c1,c2⟩,hps,hbs⟩:=hc i hi
 have hlb:b<w.heap.size:=World.block_lt_of_cell? _ _ c0
 have HOk:=hide hok
 clear hRES hfc hc hok
 generalize t.funcs[i]=f at c0 c1 c2 hps hbs HOk HRES
 have HPs:=hide hps
 have HBs:=hide hbs
 obtain ⟨ap,cp,rfl,hpc1,hpc2,hpc⟩:=hps
 obtain ⟨ab,cb,rfl,-⟩:=hbs
 have HPC:=hide hpc
 have hpl:f.params.length<=1000:=HOk.out.2.2.2.2.1
 have hbl:f.body.length<=1000:=HOk.out.2.2.2.2.2
 clear hpc
 obtain ⟨W1,hW1⟩ : ∃W1,W1=(w.alloc (.cells #[.slice ag t.globals.length cg,.slice (some ⟨b,off,none⟩) t.funcs.length cf] 32)).alloc (.cells #[.int .i64 0,.int .i64 0,.int .i64 0] 116):=⟨_,rfl⟩
 have HBx:=two_boxC hW1
 obtain ⟨W2,hW2⟩ : ∃W2,W2=W1.alloc (.cells #[.string f.name,.slice ap f.params.length cp,.slice ab f.body.length cb] 64):=⟨_,rfl⟩
 have hs1:W1.heap.size=w.heap.size+2:=by rw [hW1];simp
 have hs2:W2.heap.size=w.heap.size+3:=by rw [hW2];simp [hs1]
 have HBy:Hid (∀W,Below (w.heap.size+3) W2 W->(W.cell? ⟨w.heap.size,0,none⟩=some (.slice ag t.globals.length cg)/\W.cell? ⟨w.heap.size,1,none⟩=some (.slice (some ⟨b,off,none⟩) t.funcs.length cf))/\(W.cell? ⟨w.heap.size+1,0,none⟩=some (.int .i64 0)/\W.cell? ⟨w.heap.size+1,1,none⟩=some (.int .i64 0)/\W.cell? ⟨w.heap.size+1,2,none⟩=some (.int .i64 0))/\(∀o,W.frozen? ⟨w.heap.size+1,o,none⟩=false)/\Bl w W/\w.heap.size+3<=W.heap.size/\(W.cell? ⟨w.heap.size+1+1,1,none⟩=some (.slice ap f.params.length cp)/\W.cell? ⟨w.heap.size+1+1,2,none⟩=some (.slice ab f.body.length cb))):=fun W hW=>by
  have h1:Below (w.heap.size+2) W1 W2:=by rw [hW2];exact (Below.refl _ _).alloc o_ _
  obtain ⟨q1,q2,q3,q4,q5⟩:=HBx W (h1.trans (hW.mono o_))
  refine ⟨q1,q2,q3,q4,by have:=hW.size;omega,(hW.cell (p:=⟨w.heap.size+1+1,1,none⟩) (by simp)).trans ?_,(hW.cell (p:=⟨w.heap.size+1+1,2,none⟩) (by simp)).trans ?_⟩
  ·rw [hW2];exact (World.cell?_alloc_at _ _ _ _ o_).trans rfl
  ·rw [hW2];exact (World.cell?_alloc_at _ _ _ _ o_).trans rfl
 clear HBx
 go_enter Tryz.func88,Tryz.ntmps88
 go_wp2_with fail
 rw [<-hW1,<-hW2]
 clear hW1 hW2 hs1 c0 c1 c2 hlb
 go_loopw [6] (fun j wr=>∃(k:Nat),k<=f.params.length/\j = .int .i64 k/\dupP t.globals [] f.params=dupP t.globals (f.params.take k) (f.params.drop k)/\Below (w.heap.size+3) W2 wr) (fun j _=>f.params.length-(RowKit.intOf j).toNat)
 case atStart=>exact ⟨0,Nat.zero_le _,rfl,by simp,Below.refl _ _⟩
 case round=>
  clear hs2
  obtain ⟨k,hk,rfl,hd,hB⟩:=hrel
  have HD:=hide hd
  obtain ⟨⟨x0,x1⟩,⟨r0,r1,r2⟩,rz,hBw,hsz,y1,y2⟩:=HBy.out wr hB
  have z0:=rz 0
  have z1:=rz 1
  have z2:=rz 2
  clear hd rz
  by_cases hlt:k<f.params.length
  ·obtain ⟨bp,op,rfl,hcp⟩:=HPC.out o_
   have d0:=(hBw.cell (p:=⟨bp,op+k,none⟩) (World.block_lt_of_cell? _ _ (hcp k hlt))).trans (hcp k hlt)
   have HD2:Hid (dupP t.globals [] f.params=dupP t.globals (f.params.take k) (f.params[k]::f.params.drop (k+1))):=by show _=_;rw [HD.out,drop_cons_ _ _ hlt]
   have HTk:=hide (take_succ _ _ hlt)
   have hrn:=headS_run (some ⟨bp,op,none⟩) f.params.length cp k o_ hpc1
   have hqb:bp<wr.heap.size:=World.block_lt_of_cell? _ _ d0
   have hq0:w.heap.size<wr.heap.size:=by omega
   have hq2:w.heap.size+1+1<wr.heap.size:=by omega
   clear hcp HD
   generalize f.params[k]=p at d0 HD2 HTk
   have hdr:Bl wr wr.drew:=(Below.refl _ _).drew
   have HIn:=hide (l3in_any _ _ p wr.drew (by simp;omega) ((HPs.out.below (hBw.drew)).headS k o_))
   have HGb:Hid (Globs wr (.slice ag t.globals.length cg) t.globals):=HTv.out.g.below hBw
   cases hin:inS (f.params.take k) p with
   | true=>
    have HE:Hid (RES=(2,(i:Int),-1)):=by
     show _=_
     rw [HRES.out]
     unfold bodyE
     rw [if_pos (by rw [HD2.out];exact dupP_hit (.inl hin))]
    have HIs:Hid (∀n,Calls Tryz.prog 113 #[.slice (some ⟨bp,op,none⟩) k cp,.string p] (wr.drewN n) fun e w'=>e = .returned (.bool true)/\w'=wr.drewN n):=fun n=>by
     have:=l3in_same (f.params.take k) (.slice (some ⟨bp,op,none⟩) k cp) p (wr.drewN n) (by simp;omega) ((HPs.out.below (below_drewN hBw n)).headS k o_)
     rw [hin] at this
     exact this
    clear hin HIn
    have hi1:(0:Int)<=(k:Int):=by omega
    have hi2:(k:Int)<(f.params.length:Int):=by omega
    go_wp2_with fail
    go_quiet ((go_at_call 113;exact Calls.quiet_of_same (HIs.out _)))
    have hB2:Below (w.heap.size+3) W2 (wr.drewN nq):=below_drewN hB _
    clear x0 x1 y1 y2 r0 r1 r2 z0 z1 z2 hB hBw d0
    obtain ⟨-,⟨r0,r1,r2⟩,rz,hBw,-⟩:=HBy.out (wr.drewN nq) hB2
    have z0:=rz 0
    have z1:=rz 1
    have z2:=rz 2
    clear rz
    go_wp2_with fail
    obtain ⟨t0,t1,t2⟩:=set3 (u0:=.int .i64 2) (u1:=.int .i64 (i:Int)) (u2:=.int .i64 (-1)) r0 r1 r2
    refine bodyPost_ret (v:=.agg #[.int .i64 2,.int .i64 (i:Int),.int .i64 (-1)]) (by simp [results,Tryz.results88,go_sem,t0,t1,t2]) rfl ⟨ret_val (by rw [HE.out];rfl),?_⟩
    exact ((hBw.setCell (p:=⟨w.heap.size+1,0,none⟩) (by simp) _).setCell (p:=⟨w.heap.size+1,1,none⟩) (by simp) _).setCell (p:=⟨w.heap.size+1,2,none⟩) (by simp) _
   | false=>
    rw [hin] at HIn
    have HGl:Hid (∀W,Bl wr W->Calls Tryz.prog 114 #[.agg #[.slice ag t.globals.length cg,.slice (some ⟨b,off,none⟩) t.funcs.length cf],.string p] W fun e w'=>e = .returned (.int .i64 (globI t.globals p))/\Bl W w'):=fun W hW=>l3global_any t.globals _ _ p W o_ (HGb.out.below hW)
    have HQ1:Hid (0<=globI t.globals p->RES=(2,(i:Int),-1)):=fun h=>by
     rw [HRES.out]
     unfold bodyE
     rw [if_pos (by rw [HD2.out];exact dupP_hit (.inr h))]
    have HQ2:Hid (¬0<=globI t.globals p->dupP t.globals [] f.params=dupP t.globals (f.params.take (k+1)) (f.params.drop (k+1))):=fun h=>by
     rw [HD2.out,dupP_step (by rw [hin];simpa using h),HTk.out]
    clear hin
    generalize globI t.globals p=gi at HGl HQ1 HQ2
    obtain ⟨bg,hbg⟩ : ∃bg,decide (0<=gi)=bg:=⟨_,rfl⟩
    go_wp2_with fail
    go_region_held3 (fun W=>W.cell? ⟨w.heap.size,0,none⟩=some (.slice ag t.globals.length cg)/\W.cell? ⟨w.heap.size,1,none⟩=some (.slice (some ⟨b,off,none⟩) t.funcs.length cf)/\W.cell? ⟨w.heap.size+1+1,1,none⟩=some (.slice (some ⟨bp,op,none⟩) f.params.length cp)/\W.cell? ⟨bp,op+k,none⟩=some (.string p)) (go_simp)
     (first
     | ((with_reducible refine Calls.mono HIn.out ?_);rintro e w2 ⟨rfl,hb2⟩;have e0:w2.cell? ⟨w.heap.size,0,none⟩=some (.slice ag t.globals.length cg):=(hb2.cell (p:=⟨w.heap.size,0,none⟩) hq0).trans x0;have e1:w2.cell? ⟨w.heap.size,1,none⟩=some (.slice (some ⟨b,off,none⟩) t.funcs.length cf):=(hb2.cell (p:=⟨w.heap.size,1,none⟩) hq0).trans x1;have e2:w2.cell? ⟨w.heap.size+1+1,1,none⟩=some (.slice (some ⟨bp,op,none⟩) f.params.length cp):=(hb2.cell (p:=⟨w.heap.size+1+1,1,none⟩) hq2).trans y1;have e3:w2.cell? ⟨bp,op+k,none⟩=some (.string p):=(hb2.cell (p:=⟨bp,op+k,none⟩) hqb).trans d0;have hbw2:Bl wr w2:=hdr.trans hb2)
     | ((with_reducible refine Calls.mono (HGl.out _ hbw2) ?_);rintro e w3 ⟨rfl,hb3⟩;have hbw3:Bl wr w3:=hbw2.trans (hb3.mono hbw2.size);have g0:w3.cell? ⟨w.heap.size,0,none⟩=some (.slice ag t.globals.length cg):=(hbw3.cell (p:=⟨w.heap.size,0,none⟩) hq0).trans x0;have g1:w3.cell? ⟨w.heap.size,1,none⟩=some (.slice (some ⟨b,off,none⟩) t.funcs.length cf):=(hbw3.cell (p:=⟨w.heap.size,1,none⟩) hq0).trans x1;have g2:w3.cell? ⟨w.heap.size+1+1,1,none⟩=some (.slice (some ⟨bp,op,none⟩) f.params.length cp):=(hbw3.cell (p:=⟨w.heap.size+1+1,1,none⟩) hq2).trans y1;have g3:w3.cell? ⟨bp,op+k,none⟩=some (.string p):=(hbw3.cell (p:=⟨bp,op+k,none⟩) hqb).trans d0))
    have hB3:Below (w.heap.size+3) W2 w3:=hB.trans (hbw3.mono hsz)
    clear x0 x1 y1 y2 r0 r1 r2 z0 z1 z2 hB hBw d0
    obtain ⟨-,⟨r0,r1,r2⟩,rz,hBw,-⟩:=HBy.out w3 hB3
    have z0:=rz 0
    have z1:=rz 1
    have z2:=rz 2
    clear rz e0 e1 e2 e3 g0 g1 g2 g3
    by_cases hgi:0<=gi
    ·have HE:Hid (RES=(2,(i:Int),-1)):=HQ1.out hgi
     obtain rfl:bg=true:=hbg.symm.trans (decide_eq_true hgi)
     clear hbg
     go_wp2_with fail
     obtain ⟨t0,t1,t2⟩:=set3 (u0:=.int .i64 2) (u1:=.int .i64 (i:Int)) (u2:=.int .i64 (-1)) r0 r1 r2
     refine bodyPost_ret (v:=.agg #[.int .i64 2,.int .i64 (i:Int),.int .i64 (-1)]) (by simp [results,Tryz.results88,go_sem,t0,t1,t2]) rfl ⟨ret_val (by rw [HE.out];rfl),?_⟩
     exact ((hBw.setCell (p:=⟨w.heap.size+1,0,none⟩) (by simp) _).setCell (p:=⟨w.heap.size+1,1,none⟩) (by simp) _).setCell (p:=⟨w.heap.size+1,2,none⟩) (by simp) _
    ·have HDn:=hide (HQ2.out o_)
     obtain rfl:bg=false:=hbg.symm.trans (decide_eq_false hgi)
     clear hbg
     clear r0 r1 r2 z0 z1 z2
     go_wp2_with fail
     go_roundw
     case rel=>exact ⟨k+1,by omega,by go_num,HDn.out,hB3⟩
     case measure=>simp [RowKit.intOf];omega
  ·have hkk:k=f.params.length:=by omega
   have HD0:Hid (dupP t.globals [] f.params=false):=by show _=_;rw [HD.out,hkk,List.drop_length];rfl
   have HBk:Hid (Calls Tryz.prog 115 #[.agg #[.slice ag t.globals.length cg,.slice (some ⟨b,off,none⟩) t.funcs.length cf],.slice ab f.body.length cb,.int .i64 0,.slice ap f.params.length cp,.slice ap f.params.length cp] wr fun e w'=>∃vt',e = .returned (.tuple #[.int .i64 (blkE t f.body 0 f.params f.params).1,.int .i64 (blkE t f.body 0 f.params f.params).2.1,vt'])/\Strs w' vt' (blkE t f.body 0 f.params f.params).2.2/\Bl wr w'):=
    HBL.out f.body.length t _ _ _ _ _ f.body 0 f.params f.params wr (Nat.le_refl _) (HTv.out.below hBw) (HBs.out.below hBw) HOk.out.1 HOk.out.2.1 (HPs.out.below hBw) (HPs.out.below hBw) o_ o_ o_ o_ o_ o_
   have HRn:Hid (RES=if (blkE t f.body 0 f.params f.params).1≠0 then ((blkE t f.body 0 f.params f.params).1,(i:Int),(blkE t f.body 0 f.params f.params).2.1) else (0,-1,-1)):=by
    show _=_
    rw [HRES.out]
    unfold bodyE
    rw [if_neg (by rw [HD0.out];simp)]
   clear HD r0 r1 r2 z0 z1 z2
   go_wp2_with fail
   refine HBk.out.mono ?_
   rintro e w2 ⟨vt,rfl,-,hb2⟩
   have hB2:Below (w.heap.size+3) W2 w2:=hB.trans (hb2.mono hsz)
   clear x0 x1 y1 y2 hB hBw hb2 HBk
   obtain ⟨-,⟨r0,r1,r2⟩,rz,hBw,-⟩:=HBy.out w2 hB2
   have z0:=rz 0
   have z1:=rz 1
   have z2:=rz 2
   clear rz
   generalize (blkE t f.body 0 f.params f.params).1=q1 at HRn ⊢
   generalize (blkE t f.body 0 f.params f.params).2.1=q2 at HRn ⊢
   by_cases hq:q1=0
   ·have HE:Hid (RES=(0,-1,-1)):=by show _=_;rw [HRn.out,if_neg (by simp [hq])]
    subst hq
    go_wp2_with fail
    obtain ⟨t0,t1,t2⟩:=set3 (u0:=.int .i64 0) (u1:=.int .i64 (-1)) (u2:=.int .i64 (-1)) r0 r1 r2
    refine bodyPost_ret (v:=.agg #[.int .i64 0,.int .i64 (-1),.int .i64 (-1)]) (by simp [results,Tryz.results88,go_sem,t0,t1,t2]) rfl ⟨ret_val (by rw [HE.out];rfl),?_⟩
    exact ((hBw.setCell (p:=⟨w.heap.size+1,0,none⟩) (by simp) _).setCell (p:=⟨w.heap.size+1,1,none⟩) (by simp) _).setCell (p:=⟨w.heap.size+1,2,none⟩) (by simp) _
   ·have HE:Hid (RES=(q1,(i:Int),q2)):=by show _=_;rw [HRn.out,if_pos hq]
    have b1:(q1 == 0)=false:=by simpa using hq
    go_wp2_with fail
    obtain ⟨t0,t1,t2⟩:=set3 (u0:=.int .i64 q1) (u1:=.int .i64 (i:Int)) (u2:=.int .i64 q2) r0 r1 r2
    refine bodyPost_ret (v:=.agg #[.int .i64 q1,.int .i64 (i:Int),.int .i64 q2]) (by simp [results,Tryz.results88,go_sem,t0,t1,t2]) rfl ⟨ret_val (by rw [HE.out];rfl),?_⟩
    exact ((hBw.setCell (p:=⟨w.heap.size+1,0,none⟩) (by simp) _).setCell (p:=⟨w.heap.size+1,1,none⟩) (by simp) _).setCell (p:=⟨w.heap.size+1,2,none⟩) (by simp) _
theorem l3has_any (l:List Nat) (v:Value) (x:Nat) (w:World) (hl:l.length<=10000000) (hx:Ints w v (l.map (fun g:Nat=>(g:Int)))) :
  Calls Tryz.prog 89 #[v,.int .i64 (x:Int)] w fun e w'=>e = .returned (.bool (decide (x∈l)))/\Below w.heap.size w w':=by
 obtain ⟨a,c,rfl,hc⟩:=hx
 rw [List.length_map] at *
 have HC:Hid (0<l.length->∃b,a=some ⟨b,0,none⟩/\∀j (h:j<l.length),w.cell? ⟨b,j,none⟩=some (.int .i64 (l[j]:Int))):=fun h0=>by
  obtain ⟨b,rfl,hq⟩:=hc (by simpa using h0)
  refine ⟨b,rfl,fun j hj => ?_⟩
  rw [hq j (by simpa using hj)]
  simp
 clear hc
 go_enter Tryz.func89,Tryz.ntmps89
 go_wp2_with fail
 go_loopw [5] (fun i wr=>∃k:Nat,k<=l.length/\i = .int .i64 k/\(∀j (hj:j<l.length),j<k->l[j]≠x)/\Bl w wr) (fun i _=>l.length-(RowKit.intOf i).toNat)
 case atStart=>exact ⟨0,Nat.zero_le _,rfl,fun j hj h=>absurd h (Nat.not_lt_zero _),Below.refl _ _⟩
 case round=>
  obtain ⟨k,hk,rfl,hn,hB⟩:=hrel
  have HN:=hide hn
  clear hn
  by_cases hlt:k<l.length
  ·obtain ⟨b,rfl,hc⟩:=HC.out o_
   have d0:=(hB.cell (p:=⟨b,k,none⟩) (World.block_lt_of_cell? _ _ (hc k hlt))).trans (hc k hlt)
   by_cases hs:l[k]=x
   ·have HR:Hid (decide (x∈l)=true):=by show _=_;rw [decide_eq_true_iff,<-hs];exact List.getElem_mem hlt
    rw [hs] at d0
    clear hc hs
    go_wp2_with fail
    go_ret
    exact ⟨ret_bool HR.out.symm,hB⟩
   ·have HS:Hid (∀j (hj:j<l.length),j<k+1->l[j]≠x):=fun j hj h=>by
     by_cases e:j=k
     ·subst e;exact hs
     ·exact HN.out j hj o_
    have b1:((l[k]:Int) == (x:Int))=false:=by
     have : ¬(l[k]:Int)=(x:Int):=by omega
     simpa using this
    clear hc
    generalize l[k]=y at d0 b1 hs
    go_wp2_with fail
    go_roundw
    case rel=>exact ⟨k+1,by omega,by go_num,HS.out,hB⟩
    case measure=>simp [RowKit.intOf];omega
  ·have HR:Hid (decide (x∈l)=false):=by
    show _=_
    rw [decide_eq_false_iff_not]
    intro hm
    obtain ⟨j,hj,he⟩:=List.getElem_of_mem hm
    exact HN.out j hj o_ he
   go_wp2_with fail
   go_ret
   exact ⟨ret_bool HR.out.symm,hB⟩
theorem Ints.grown {w w':World} {v:Value} {l:List Int} {row:Option Nat} (h:Ints w v l) (hg:w.grownBy w' row) (hne : ∀g,v.ownBlock=some g->row≠some g):Ints w' v l:=by
 obtain ⟨a,cap,rfl,h3⟩:=h
 refine ⟨a,cap,rfl,fun h0 => ?_⟩
 obtain ⟨b,rfl,hc⟩:=h3 h0
 refine ⟨b,rfl,fun j hj => ?_⟩
 have hlt:=World.block_lt_of_cell? _ _ (hc j hj)
 exact (World.cell?_of_block (a:=⟨b,j,none⟩) (hg.block b hlt (fun e=>hne b rfl e.symm))).trans (hc j hj)
theorem IRow.grown {B:Nat} {w w':World} {v:Value} {l:List Nat} {row:Option Nat} (h:IRow B w v l) (hg:w.grownBy w' row) (hne : ∀g,v.ownBlock=some g->row≠some g):IRow B w' v l:=ownG h hg hne
theorem IRow.cap {B:Nat} {w:World} {v:Value} {l:List Nat} (h:IRow B w v l) : ∀a n c,v = .slice a n c->n<=c:=by
 intro a n c he
 rcases h.2 with ⟨rfl,hz⟩ | ⟨g,cap,cur,rfl,_,_,h1,_⟩
 ·simp only [Value.slice.injEq] at he
  omega
 ·simp only [Value.slice.injEq] at he
  omega
theorem tail_run (b n c:Nat) (h1:1<=n) (h3:n<=c) : ∃ad:Addr,(∀w:World,(Instr.slice 82 (.slice (some ⟨b,0,none⟩) n c) (some (.int .i64 1)) none none).run Tryz.prog w = .ok (.slice (some ad) (n-1) (c-1)) w)/\(∀j,j<n-1->ad.add j=⟨b,j+1,none⟩):=by
 by_cases hc:c=1
 ·refine ⟨⟨b,0,none⟩,fun w => ?_,fun j hj=>by omega⟩
  have hz:Tryz.prog.elem 82=2:=by kernel_rfl
  have hs:(sizeOf 2).run Tryz.prog w = .ok 1 w:=by kernel_rfl
  rw [run_slice_l w 82 (some ⟨b,0,none⟩) n c (by rw [hz];exact Tryz.underlying82) .i64 _ o_ o_,hz,hs]
  simp [Result.andThen,sliced,hc]
 ·refine ⟨⟨b,1,none⟩,fun w => ?_,fun j hj => ?_⟩
  ·have hz:Tryz.prog.elem 82=2:=by kernel_rfl
   have hs:(sizeOf 2).run Tryz.prog w = .ok 1 w:=by kernel_rfl
   rw [run_slice_l w 82 (some ⟨b,0,none⟩) n c (by rw [hz];exact Tryz.underlying82) .i64 _ o_ o_,hz,hs]
   simp [Result.andThen,sliced,hc,Addr.add]
  ·rw [addrO];simp [Nat.add_comm]
theorem l3reach_any (t:Tr) (vg vf vfr:Value) (f:Nat) (w:World) (hf:f<t.funcs.length) (hl:t.funcs.length<=1000) (hsm : ∀g∈t.funcs,smallF g) (hg : ∃a n c,vg = .slice a n c) (hfu:Funcs w vf t.funcs) (hfr:Ints w vfr [(f:Int)]) (hcap : ∀a n c,vfr = .slice a n c->n<=c) :
    Calls Tryz.prog 66 #[.agg #[vg,vf],vfr] w fun e w'=>∃v out,e = .returned v/\IRow w.heap.size w' v out/\(∀g,g∈out↔Rch t f g)/\out.length<=1000/\Below w.heap.size w w':=by
  obtain ⟨ag,ng,cg,rfl⟩:=hg
  have HFu:Hid (Funcs w vf t.funcs):=hfu
  obtain ⟨af,cf,rfl,-⟩:=hfu
  have HSm:Hid (∀g∈t.funcs,smallF g):=hsm
  have HCp:Hid (∀a n c,vfr = .slice a n c->n<=c):=hcap
  have HFr:Hid (Ints w vfr [(f:Int)]):=hfr
  obtain ⟨afr,cfr,rfl,hfc⟩:=hfr
  obtain ⟨bf,rfl,hfd⟩:=hfc (by simp)
  have hbf:bf<w.heap.size:=World.block_lt_of_cell? _ _ (hfd 0 (by simp))
  obtain ⟨i1,hj,hy0,hy1,hy2⟩:=info_parts info_i64
  obtain ⟨n,hn⟩ : ∃n,n=t.funcs.length:=⟨_,rfl⟩
  have HN:Hid (n=t.funcs.length):=hn
  rw [<-hn] at HFu hf hl ⊢
  clear hn hsm hcap hfc hfd
  go_enter Tryz.func66,Tryz.ntmps66
  go_wp2_with fail
  have HI0:Hid (IRow (w.heap.size+1) ((w.alloc (.cells #[.slice ag ng cg,.slice af n cf] 32)).alloc (.cells #[] 2)) (.slice (some ⟨w.heap.size+1,0,none⟩) 0 0) []):=by
    have:=irow_lit (w.alloc (.cells #[.slice ag ng cg,.slice af n cf] 32)) (w.heap.size+1) (by simp)
    rw [World.size_alloc] at this
    exact this
  have hB0:Below (w.heap.size+1) (w.alloc (.cells #[.slice ag ng cg,.slice af n cf] 32)) ((w.alloc (.cells #[.slice ag ng cg,.slice af n cf] 32)).alloc (.cells #[] 2)):=(Below.refl _ _).alloc (by simp) _
  go_loopg [5,6] (n+1) (fun gk ov wv wr=>∃(out work:List Nat),gk=(n-out.length)+work.length/\gk<=n+1/\RInv t f out work/\IRow (w.heap.size+1) wr ov out/\Ints wr wv (work.map (fun g:Nat=>(g:Int)))/\(∀a n c,wv = .slice a n c->n<=c)/\(∀g,wv.ownBlock=some g->ov.ownBlock≠some g)/\Below (w.heap.size+1) (w.alloc (.cells #[.slice ag ng cg,.slice af n cf] 32)) wr)
  case atStart=>exact ⟨[],[f],by simp,Nat.le_refl _,RInv.start t f,HI0.out,HFr.out.below (one_below hB0),HCp.out,fun g hg=>by simp only [Value.ownBlock,Option.some.injEq] at hg;simp only [Value.ownBlock,ne_eq,Option.some.injEq];omega,hB0⟩
  case round=>
    clear HI0 hB0 HFr HCp hbf
    obtain ⟨out,work,hgk,hgn,hI,hO,hW,hcp,hne,hB⟩:=hrel
    have hBw:=one_below hB
    obtain ⟨x0,x1⟩:=box2 hB
    have hT0:w.heap.size+1<=wr.heap.size:=by have:=hB.size;simpa using this
    obtain ⟨a5,c5,rfl⟩:=hO.shape
    have HO:Hid (IRow (w.heap.size+1) wr (.slice a5 out.length c5) out):=hO
    have hol:=hI.len
    rw [<-HN.out] at hol
    cases work with
    | nil=>
      have HE:Hid (∀g,g∈out↔Rch t f g):=fun g=>hI.all g
      obtain ⟨a6,c6,rfl,-⟩:=hW
      simp only [List.map_nil,l_n]
      clear hI hO hcp hne x0 x1
      go_wp2_with fail
      go_ret
      exact ⟨_,out,rfl,IRow.base HO.out o_,HE.out,by omega,hBw⟩
    | cons x rest=>
      have hxn:x<n:=by have:=hI.lt (by rw [<-HN.out];exact hf) x (by simp);rw [HN.out];exact this
      have HM:Hid (RMid t f x [] out rest):=hI.take (by simp) (fun y=>by simp)
      obtain ⟨a6,c6,rfl,hwc⟩:=hW
      simp only [List.map_cons,l_c,List.length_map] at hwc hcp hne hgk ⊢
      obtain ⟨b6,rfl,hwd⟩:=hwc o_
      have q6:wr.cell? ⟨b6,0,none⟩=some (.int .i64 (x:Int)):=by have:=hwd 0 (by simp);simpa using this
      have hb6:b6<wr.heap.size:=World.block_lt_of_cell? _ _ q6
      have hc6:rest.length+1<=c6:=hcp _ _ _ rfl
      have HWC:Hid (∀j,j<rest.length->∀(h:j<rest.length),wr.cell? ⟨b6,j+1,none⟩=some (.int .i64 (rest[j]:Int))):=fun j hj h=>by
        have:=hwd (j+1) o_
        simpa using this
      have hrl:rest.length<=2000:=by omega
      obtain ⟨ad,hsl,had⟩:=tail_run b6 (rest.length+1) c6 o_ hc6
      simp only [Nat.add_sub_cancel] at hsl had
      have HAd:Hid (∀j,j<rest.length->ad.add j=⟨b6,j+1,none⟩):=had
      have hxl:x<t.funcs.length:=by rw [<-HN.out];exact hxn
      have hdr:Bl wr wr.drew:=(Below.refl _ _).drew
      have HCl:Hid (Calls Tryz.prog 67 #[.agg #[.slice ag ng cg,.slice af n cf],.int .i64 (x:Int)] wr.drew fun e w'=>∃v,e = .returned v/\IRow wr.drew.heap.size w' v (callsL t.funcs t.funcs[x].body)/\Bl wr.drew w'):=l3calls_row t.funcs _ _ x wr.drew hxl (by rw [<-HN.out];omega) (HSm.out _ (List.getElem_mem hxl)) ⟨_,_,_,rfl⟩ (HFu.out.below (hBw.drew))
      obtain ⟨L,hL⟩ : ∃L,L=callsL t.funcs t.funcs[x].body:=⟨_,rfl⟩
      rw [<-hL] at HCl
      have HL:Hid (∀y,CallR t x y↔y∈L):=fun y=>by rw [hL];exact CallR.mem hxl
      have hLn:L.length<=1000:=by
        have h1:L.Nodup:=by
          rw [hL]
          unfold callsL
          exact List.Pairwise.filter _ (List.nodup_range)
        have h2:=nodup_le n h1 (fun y hy=>by have:=((HL.out y).2 hy).lt;rw [HN.out];exact this)
        omega
      have HNe:Hid (∀g,(Value.slice (some ⟨b6,0,none⟩) (rest.length+1) c6).ownBlock=some g->(Value.slice a5 out.length c5).ownBlock≠some g):=hne
      have hq0:w.heap.size<wr.heap.size:=by omega
      clear hI hO hwc hwd had hL hcp hne
      go_wp2_with fail
      go_region_held3 (fun W=>W.cell? ⟨w.heap.size,0,none⟩=some (.slice ag ng cg)/\W.cell? ⟨w.heap.size,1,none⟩=some (.slice af n cf)/\W.cell? ⟨b6,0,none⟩=some (.int .i64 (x:Int))) (go_simp)
        (first
        | ((with_reducible refine Calls.mono HCl.out ?_);rintro e w2 ⟨vm,rfl,hm2,hb2⟩;have e0:w2.cell? ⟨w.heap.size,0,none⟩=some (.slice ag ng cg):=(hb2.cell (p:=⟨w.heap.size,0,none⟩) hq0).trans x0;have e1:w2.cell? ⟨w.heap.size,1,none⟩=some (.slice af n cf):=(hb2.cell (p:=⟨w.heap.size,1,none⟩) hq0).trans x1;have e2:w2.cell? ⟨b6,0,none⟩=some (.int .i64 (x:Int)):=(hb2.cell (p:=⟨b6,0,none⟩) hb6).trans q6))
      have hb2':Bl wr w2:=hdr.trans hb2
      have HM2:Hid (IRow wr.heap.size w2 vm L):=hm2
      obtain ⟨am,cm,rfl⟩:=hm2.shape
      have HO2:Hid (IRow (w.heap.size+1) w2 (.slice a5 out.length c5) out):=HO.out.below hb2'
      have hB2:=hB.trans (hb2'.mono hT0)
      have HLt:Hid (∀g,(Value.slice a5 out.length c5).ownBlock=some g->g<wr.heap.size):=fun g hg=>(World.ownsRow.lt HO.out g hg).2
      have hs2:wr.heap.size<=w2.heap.size:=hb2'.size
      have HWC2:Hid (∀j u,(rest.map (fun g:Nat=>Value.int .i64 (g:Int)))[j]? = some u->(w2.alloc (.cells #[] 2)).cell? (ad.add j)=some u):=fun j u hu=>by
        have hjl:j<rest.length:=by
          have:=(List.getElem?_eq_some_iff.1 hu).1
          simpa using this
        rw [HAd.out j hjl,World.cell?_alloc_lt _ _ ⟨b6,j+1,none⟩ (by show b6<_;omega),hb2'.cell (p:=⟨b6,j+1,none⟩) hb6,HWC.out j hjl hjl,<-hu]
        simp [hjl]
      have HE2:Hid (IRow w2.heap.size (w2.alloc (.cells #[] 2)) (.slice (some ⟨w2.heap.size,0,none⟩) 0 0) []):=irow_lit w2 _ (Nat.le_refl _)
      clear hm2 hb2 hb2' e0 e1 e2 x0 x1 q6 HWC HAd HCl HO
      go_wp2_with (at_builtin;refine wpList_appF rfl _ _ _ rfl w2.heap.size 2 i1 _ 1 8 Tryz.underlying82 hj hy0 hy1 hy2 rfl (by decide) _ 0 [] rfl HE2.out ad rest.length (c6-1) (rest.map (fun g:Nat=>Value.int .i64 (g:Int))) rfl (by simp) HWC2.out (by intro u hu;simp at hu;obtain ⟨y,_,rfl⟩:=hu;rfl) o_ (by decide) (by simp) ?_)
      intro v9 w3 ho9 hg9 hf9
      have hb3:Bl w2 w3:=((Below.refl w2.heap.size w2).alloc (Nat.le_refl _) _).grown hg9 (by simp) (fun g hg=>by simp only [Value.ownBlock,Option.some.injEq] at hg;omega)
      have hW9:IRow w2.heap.size w3 v9 rest:=by
        show World.ownsRow _ _ _ _ _ _ _
        simpa using ho9
      have HW9:Hid (IRow (w.heap.size+1) w3 v9 rest):=IRow.base hW9 o_
      have HO9:Hid (IRow (w.heap.size+1) w3 (.slice a5 out.length c5) out):=HO2.out.below hb3
      have HI9:Hid (Ints w3 (.slice am L.length cm) (L.map (fun g:Nat=>(g:Int)))):=(HM2.out.below hb3).ints
      have HD1:Hid (∀g,v9.ownBlock=some g->(Value.slice a5 out.length c5).ownBlock≠some g):=fun g hg h=>by
        have h1:=(World.ownsRow.lt hW9 g hg).1
        have h2:=HLt.out g h
        omega
      have HD2:Hid (∀g,(Value.slice am L.length cm).ownBlock=some g->(Value.slice a5 out.length c5).ownBlock≠some g/\v9.ownBlock≠some g):=fun g hg=>by
        have h1:=World.ownsRow.lt HM2.out g hg
        refine ⟨fun h => ?_,fun h => ?_⟩
        · have h2:=HLt.out g h;omega
        · have h2:=(World.ownsRow.lt hW9 g h).1;omega
      have hB3:=hB2.trans (hb3.mono o_)
      obtain ⟨a9,c9,rfl⟩:=hW9.shape
      clear ho9 hg9 hf9 hb3 hW9 hB2 HM2 HO2 HE2 HWC2 hB HLt
      go_wp2_with fail
      go_loopw [5,6,8] (fun ov wv i w4=>∃(j:Nat) (out2 work2:List Nat),j<=L.length/\i = .int .i64 j/\RMid t f x (L.take j) out2 work2/\IRow (w.heap.size+1) w4 ov out2/\IRow (w.heap.size+1) w4 wv work2/\Ints w4 (.slice am L.length cm) (L.map (fun g:Nat=>(g:Int)))/\(∀g,wv.ownBlock=some g->ov.ownBlock≠some g)/\(∀g,(Value.slice am L.length cm).ownBlock=some g->ov.ownBlock≠some g/\wv.ownBlock≠some g)/\out2.length+rest.length=out.length+work2.length/\Below (w.heap.size+1) (w.alloc (.cells #[.slice ag ng cg,.slice af n cf] 32)) w4) (fun _ _ i _=>L.length-(RowKit.intOf i).toNat)
      case atStart=>exact ⟨0,out,rest,Nat.zero_le _,rfl,by simpa using HM.out,HO9.out,HW9.out,HI9.out,HD1.out,HD2.out,rfl,hB3⟩
      case round=>
        clear HM HO9 HW9 HI9 HD1 HD2 hB3 hs2 hT0 hBw
        obtain ⟨j,out2,work2,hj2,rfl,hM,hO,hW,hI,hd1,hd2,hlw,hB⟩:=hrel
        obtain ⟨a5,c5,rfl⟩:=hO.shape
        obtain ⟨a6,c7,rfl⟩:=hW.shape
        have HM:Hid (RMid t f x (L.take j) out2 work2):=hM
        have HO:Hid (IRow (w.heap.size+1) wr (.slice a5 out2.length c5) out2):=hO
        have HW:Hid (IRow (w.heap.size+1) wr (.slice a6 work2.length c7) work2):=hW
        have HI:Hid (Ints wr (.slice am L.length cm) (L.map (fun g:Nat=>(g:Int)))):=hI
        have HD1:Hid (∀g,(Value.slice a6 work2.length c7).ownBlock=some g->(Value.slice a5 out2.length c5).ownBlock≠some g):=hd1
        have HD2:Hid (∀g,(Value.slice am L.length cm).ownBlock=some g->(Value.slice a5 out2.length c5).ownBlock≠some g/\(Value.slice a6 work2.length c7).ownBlock≠some g):=hd2
        have hon2:=hM.len
        rw [<-HN.out] at hon2
        have hsz:w.heap.size+1<=wr.heap.size:=by have:=hB.size;simpa using this
        have hwl:work2.length<=5000:=by omega
        clear hM hO hW hd1 hd2
        by_cases hjl:j<L.length
        · obtain ⟨_,_,he0,hic⟩:=hI
          simp only [Value.slice.injEq,List.length_map,true_and] at he0 hic
          obtain ⟨rfl,rfl⟩:=he0
          obtain ⟨bm,rfl,hmc⟩:=hic o_
          have d0:wr.cell? ⟨bm,j,none⟩=some (.int .i64 (L[j]:Int)):=by have:=hmc j hjl;simpa using this
          have hbm:bm<wr.heap.size:=World.block_lt_of_cell? _ _ d0
          have HT1:Hid (L.take (j+1)=L.take j++[L[j]]):=take_succ L j hjl
          have HYC:Hid (CallR t x L[j]):=(HL.out _).2 (List.getElem_mem hjl)
          clear hmc hic
          generalize L[j]=y at d0 HT1 HYC
          have HHs:Hid (Calls Tryz.prog 89 #[.slice a5 out2.length c5,.int .i64 (y:Int)] wr fun e w'=>e = .returned (.bool (decide (y∈out2)))/\Bl wr w'):=l3has_any out2 _ y wr o_ HO.out.ints
          go_wp2_with fail
          refine HHs.out.mono ?_
          rintro e w5 ⟨rfl,hb5⟩
          have d5:=(hb5.cell (p:=⟨bm,j,none⟩) hbm).trans d0
          have HO5:Hid (IRow (w.heap.size+1) w5 (.slice a5 out2.length c5) out2):=HO.out.below hb5
          have HW5:Hid (IRow (w.heap.size+1) w5 (.slice a6 work2.length c7) work2):=HW.out.below hb5
          have HI5:Hid (Ints w5 (.slice (some ⟨bm,0,none⟩) L.length cm) (L.map (fun g:Nat=>(g:Int)))):=HI.out.below hb5
          have hB5:=hB.trans (hb5.mono hsz)
          have hbm5:bm<w5.heap.size:=Nat.lt_of_lt_of_le hbm hb5.size
          have hsz5:w.heap.size+1<=w5.heap.size:=Nat.le_trans hsz hb5.size
          clear hb5 HHs d0 HO HW HI hB hbm
          by_cases hy:y∈out2
          · rw [decide_eq_true hy]
            have HM2:Hid (RMid t f x (L.take (j+1)) out2 work2):=by show RMid _ _ _ _ _ _;rw [HT1.out];exact HM.out.old hy
            clear hy
            go_wp2_with fail
            go_roundw
            case rel=>exact ⟨j+1,out2,work2,by omega,by go_num,HM2.out,HO5.out,HW5.out,HI5.out,HD1.out,HD2.out,hlw,hB5⟩
            case measure=>simp [RowKit.intOf];omega
          · rw [decide_eq_false hy]
            have HM2:Hid (RMid t f x (L.take (j+1)) (out2++[y]) (work2++[y])):=by show RMid _ _ _ _ _ _;rw [HT1.out];exact HM.out.new hy HYC.out
            clear hy
            go_wp2_with (at_builtin;refine wpList_appF rfl _ _ _ rfl (w.heap.size+1) 2 i1 _ 1 8 Tryz.underlying82 hj hy0 hy1 hy2 rfl (by decide) _ out2.length (out2.map (fun g:Nat=>Value.int .i64 (g:Int))) rfl (HO5.out.below (bel_a _ _)) ⟨w5.heap.size,0,none⟩ 1 1 [.int .i64 (y:Int)] rfl rfl (cell_one_new _ _ _) (by simp [Value.oneCell']) o_ (by decide) (by simp;omega) ?_)
            intro v6 w6 ho6 hg6 hf6
            have HO6:Hid (IRow (w.heap.size+1) w6 v6 (out2++[y])):=by
              show World.ownsRow _ _ _ _ _ _ _
              simpa using ho6
            have hal:Bl w5 (w5.alloc (.cells #[.int .i64 (y:Int)] 2)):=bel_a _ _
            have HW6:Hid (IRow (w.heap.size+1) w6 (.slice a6 work2.length c7) work2):=(HW5.out.below hal).grown hg6 (fun g hg=>HD1.out g hg)
            have HI6:Hid (Ints w6 (.slice (some ⟨bm,0,none⟩) L.length cm) (L.map (fun g:Nat=>(g:Int)))):=(HI5.out.below hal).grown hg6 (fun g hg=>(HD2.out g hg).1)
            have d6:w6.cell? ⟨bm,j,none⟩=some (.int .i64 (y:Int)):=(World.cell?_of_block (a:=⟨bm,j,none⟩) (hg6.block bm (by simp;omega) (fun e=>(HD2.out bm rfl).1 e.symm))).trans ((hal.cell (p:=⟨bm,j,none⟩) hbm5).trans d5)
            have hB6:=(hB5.alloc hsz5 (.cells #[.int .i64 (y:Int)] 2)).grown hg6 (by simp;omega) (fun g hg=>(World.ownsRow.lt HO5.out g hg).1)
            have hsz6:w5.heap.size+1<=w6.heap.size:=by have:=hg6.size;simpa using this
            have HL5:Hid (∀g,(Value.slice a6 work2.length c7).ownBlock=some g->g<w5.heap.size):=fun g hg=>(World.ownsRow.lt HW5.out g hg).2
            have HD61:Hid (∀g,(Value.slice a6 work2.length c7).ownBlock=some g->v6.ownBlock≠some g):=fun g hg h=>by
              rcases hf6 g h with h1 | h1
              · exact HD1.out g hg h1
              · have:=HL5.out g hg;omega
            have HD62:Hid (bm<w5.heap.size/\v6.ownBlock≠some bm):=⟨hbm5,fun h=>by
              rcases hf6 bm h with h1 | h1
              · exact (HD2.out bm rfl).1 h1
              · omega⟩
            have HL6:Hid (∀g,v6.ownBlock=some g->g<w6.heap.size):=fun g hg=>(World.ownsRow.lt HO6.out g hg).2
            obtain ⟨a8,c8,rfl⟩:=HO6.out.shape
            have hle8:(out2++[y]).length=out2.length+1:=by simp
            rw [hle8] at HO6 HD61 HD62 HL6 ⊢
            clear ho6 hg6 hf6 hal HO5 HW5 HI5 d5 hB5 HD1 HM hle8
            go_wp2_with (at_builtin;refine wpList_appF rfl _ _ _ rfl (w.heap.size+1) 2 i1 _ 1 8 Tryz.underlying82 hj hy0 hy1 hy2 rfl (by decide) _ work2.length (work2.map (fun g:Nat=>Value.int .i64 (g:Int))) rfl (HW6.out.below (bel_a _ _)) ⟨w6.heap.size,0,none⟩ 1 1 [.int .i64 (y:Int)] rfl rfl (cell_one_new _ _ _) (by simp [Value.oneCell']) o_ (by decide) (by simp;omega) ?_)
            intro v7 w7 ho7 hg7 hf7
            have HW7:Hid (IRow (w.heap.size+1) w7 v7 (work2++[y])):=by
              show World.ownsRow _ _ _ _ _ _ _
              simpa using ho7
            have hal:Bl w6 (w6.alloc (.cells #[.int .i64 (y:Int)] 2)):=bel_a _ _
            have HO7:Hid (IRow (w.heap.size+1) w7 (.slice a8 (out2.length+1) c8) (out2++[y])):=(HO6.out.below hal).grown hg7 (fun g hg h=>HD61.out g h hg)
            have HI7:Hid (Ints w7 (.slice (some ⟨bm,0,none⟩) L.length cm) (L.map (fun g:Nat=>(g:Int)))):=(HI6.out.below hal).grown hg7 (fun g hg=>(HD2.out g hg).2)
            have hB7:=(hB6.alloc o_ (.cells #[.int .i64 (y:Int)] 2)).grown hg7 (by simp;omega) (fun g hg=>(World.ownsRow.lt HW6.out g hg).1)
            have HD71:Hid (∀g,v7.ownBlock=some g->(Value.slice a8 (out2.length+1) c8).ownBlock≠some g):=fun g hg h=>by
              rcases hf7 g hg with h1 | h1
              · exact HD61.out g h1 h
              · have:=HL6.out g h;omega
            have HD72:Hid (∀g,(Value.slice (some ⟨bm,0,none⟩) L.length cm).ownBlock=some g->(Value.slice a8 (out2.length+1) c8).ownBlock≠some g/\v7.ownBlock≠some g):=fun g hg=>by
              simp only [Value.ownBlock,Option.some.injEq] at hg
              subst hg
              refine ⟨HD62.out.2,fun h => ?_⟩
              rcases hf7 _ h with h1 | h1
              · exact (HD2.out _ rfl).2 h1
              · have:=HD62.out.1;omega
            obtain ⟨a7,c9',rfl⟩:=HW7.out.shape
            have hle7:(work2++[y]).length=work2.length+1:=by simp
            rw [hle7] at HW7 HD71 HD72 ⊢
            clear ho7 hg7 hf7 hal HO6 HW6 HI6 d6 hB6 HD61 HD62 HL5 HL6 HD2 hle7
            go_wp2_with fail
            go_roundw
            case rel=>exact ⟨j+1,out2++[y],work2++[y],by omega,by go_num,HM2.out,by simpa using HO7.out,by simpa using HW7.out,HI7.out,by simpa using HD71.out,by simpa using HD72.out,by simp;omega,hB7⟩
            case measure=>simp [RowKit.intOf];omega
        · have HMd:Hid (RInv t f out2 work2):=by
            have h1:=HM.out
            rw [List.take_of_length_le o_] at h1
            exact h1.done (fun y hy=>(HL.out y).1 hy)
          clear hI
          go_wp2_with fail
          go_roundg ((n-out2.length)+work2.length)
          case measure=>omega
          case rel=>exact ⟨out2,work2,rfl,by omega,HMd.out,HO.out,HW.out.ints,HW.out.cap,HD1.out,hB⟩
end Go.Proofs.YtnpidjamplmgjaaGreatDoor
