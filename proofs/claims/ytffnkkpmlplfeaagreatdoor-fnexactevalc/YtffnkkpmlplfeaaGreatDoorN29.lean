import Derived.Test.YtffnkkpmlplfeaaGreatDoorN20
import Derived.Deep.RegionHeld3
namespace Go.Proofs.YtffnkkpmlplfeaaGreatDoor
open Go.Proofs.Tryz
open Go.RowKit
set_option linter.all false
set_option maxRecDepth 100000
set_option maxHeartbeats 16000000
variable[Inhabited Pick]
theorem Strs.headS {w:World} {a:Option Addr} {cap:Nat} {ss:List ByteArray} (h:Strs w (.slice a ss.length cap) ss) (k:Nat) (hk:k<=ss.length):Strs w (.slice a k cap) (ss.take k):=by
 obtain⟨a',cap',he,hl,hm,h⟩:=h;simp only[Value.slice.injEq,true_and] at he;obtain⟨rfl,rfl⟩:=he;refine⟨a,cap,by simp[Nat.min_eq_left hk],by simp;omega,hm,λh0 => ?_⟩;simp only[List.length_take] at h0;obtain⟨b,off,rfl,hc⟩:=h o_;refine⟨b,off,rfl,λj hj => ?_⟩;simp only[List.length_take] at hj;have:=hc j o_
 rw[this];simp
theorem headS_run (a:Option Addr) (n cap k:Nat) (h2:k<=n) (h3:n<=cap) : ∀w:World,(Instr.slice 94 (.slice a n cap) none (some (.int .i64 (k:Int))) none).run prog w=.ok (.slice a k cap) w:=by
 intro w;have hz:prog.elem 94=9:=by kernel_rfl
 have hs:(sizeOf 9).run prog w=.ok 1 w:=by kernel_rfl
 rw[run_slice_h w 94 a n cap (by rw[hz];exact underlying94) .i64 _ o_ o_,hz,hs];cases a <;> simp[Result.andThen,sliced,Addr.add]
theorem l3in_same (xs:List ByteArray) (v:Value) (s:ByteArray) (w:World) (hl:xs.length<=10000000) (hx:Strs w v xs) :
  Calls prog 89 #[v,.string s] w λe w'=>e=.returned (.bool (inS xs s))/\w'=w:=by
 obtain⟨a,c,rfl,-,-,hc⟩:=hx;have HC:=hide hc;clear hc;go_enter func89,ntmps89;go_wp2_with fail;go_loopw [5] (λi wr=>∃k:Nat,k<=xs.length/\i=.int .i64 k/\(∀j (hj:j<xs.length),j<k->xs[j]≠s)/\wr=w) (λi _=>xs.length-(RowKit.intOf i).toNat)
 case atStart=>exact⟨0,y_,rfl,λj hj h=>absurd h (Nat.not_lt_zero _),rfl⟩
 case round=>
  obtain⟨k,hk,rfl,hn,hB⟩:=hrel;subst hB;have HN:=hide hn;by_cases hlt:k<xs.length
  ·obtain⟨b,off,rfl,hc⟩:=HC.o o_;have d0:=hc k hlt;by_cases hs:xs[k]=s
   ·have HR:Hid (inS xs s=true):=inS_at hlt hs;rw[hs] at d0;clear hc hs;go_wp2;go_ret;exact⟨ret_bool HR.o.symm,rfl⟩
   ·have HS:Hid (∀j (hj:j<xs.length),j<k+1->xs[j]≠s):=λj hj h=>by
     by_cases e:j=k
     ·subst e;exact hs
     ·exact HN.o j hj o_
    have hs':=ne_list hs;generalize xs[k]=fn at d0 hs hs';go_wp2_with fail;go_roundw
    case rel=>exact⟨k+1,by omega,by go_num,HS,by first|trivial|rfl⟩
    case measure=>simp[RowKit.intOf];omega
  ·have HR:Hid (inS xs s=false):=inS_no (λj hj=>HN.o j hj o_);go_wp2;go_ret;exact⟨ret_bool HR.o.symm,rfl⟩
theorem l3body_any (HBl : ∀n,L3Block n) (t:Tr) (vg vf:Value) (i:Nat) (w:World) (hi:i<t.funcs.length) (hgl:t.globals.length<=1000) (hfl:t.funcs.length<=1000) (hok:FnOk t.funcs[i]) (hg:Globs w vg t.globals) (hf:Funcs w vf t.funcs) :
  Calls prog 56 #[.agg #[vg,vf],.int .i64 (i:Int)] w λe w'=>e=.returned (resV (bodyE t i t.funcs[i]))/\Below w.heap.size w w':=by
 have HBL:=hide HBl;obtain⟨RES,hRES⟩ : ∃R,R=bodyE t i t.funcs[i]:=⟨_,rfl⟩;rw[<-hRES];have HRES:=hide hRES;have HTv:Hid (TrV w t vg vf):=⟨hg,hf⟩;obtain⟨ag,cg,rfl,-⟩:=hg;obtain⟨af,cf,rfl,-,-,hfc⟩:=hf;obtain⟨b,off,rfl,hc⟩:=hfc o_;obtain⟨vp,vb,⟨c0,c1,c2⟩,hps,hbs⟩:=hc i hi;have hlb:b<w.heap.size:=b_ c0;have HOk:=hide hok;generalize t.funcs[i]=f at c0 c1 c2 hps hbs HOk HRES;obtain⟨HPs,HBs⟩:=h2 hps hbs;obtain⟨ap,cp,rfl,hpc1,hpc2,hpc⟩:=hps;obtain⟨ab,cb,rfl,-⟩:=hbs;have HPC:=hide hpc;have hpl:f.params.length<=1000:=HOk.o.2.2.2.2.1;have hbl:f.body.length<=1000:=HOk.o.2.2.2.2.2;obtain⟨W1,hW1⟩ : ∃W1,W1=(w.alloc (.cells #[.slice ag t.globals.length cg,.slice (some ⟨b,off,none⟩) t.funcs.length cf] 34)).alloc (.cells #[.int .i64 0,.int .i64 0,.int .i64 0] 52):=⟨_,rfl⟩;have HBx:=two_boxC hW1;obtain⟨W2,hW2⟩ : ∃W2,W2=W1.alloc (.cells #[.string f.name,.slice ap f.params.length cp,.slice ab f.body.length cb] 97):=⟨_,rfl⟩;have hs1:W1.heap.size=w.heap.size+2:=by rw[hW1];simp
 have hs2:W2.heap.size=w.heap.size+3:=by rw[hW2];simp[hs1]
 have HBy:Hid (∀W,Below (w.heap.size+3) W2 W->(W.cell? ⟨w.heap.size,0,none⟩=some (.slice ag t.globals.length cg)/\W.cell? ⟨w.heap.size,1,none⟩=some (.slice (some ⟨b,off,none⟩) t.funcs.length cf))/\(W.cell? ⟨w.heap.size+1,0,none⟩=some (.int .i64 0)/\W.cell? ⟨w.heap.size+1,1,none⟩=some (.int .i64 0)/\W.cell? ⟨w.heap.size+1,2,none⟩=some (.int .i64 0))/\(∀o,W.frozen? ⟨w.heap.size+1,o,none⟩=false)/\Bl w W/\w.heap.size+3<=W.heap.size/\(W.cell? ⟨w.heap.size+1+1,1,none⟩=some (.slice ap f.params.length cp)/\W.cell? ⟨w.heap.size+1+1,2,none⟩=some (.slice ab f.body.length cb))):=λW hW=>by
  have h1:Below (w.heap.size+2) W1 W2:=by rw[hW2];exact r_.alloc o_ _
  obtain⟨q1,q2,q3,q4,q5⟩:=HBx W (h1.trans (hW.mono o_));refine⟨q1,q2,q3,q4,by have:=hW.size;omega,(hW.cell (p:=⟨w.heap.size+1+1,1,none⟩) (by simp)).trans ?_,(hW.cell (p:=⟨w.heap.size+1+1,2,none⟩) (by simp)).trans ?_⟩
  ·rw[hW2];exact (World.cell?_alloc_at _ _ _ _ o_).trans rfl
  ·rw[hW2];exact (World.cell?_alloc_at _ _ _ _ o_).trans rfl
 go_enter func56,ntmps56;go_wp2_with fail;rw[<-hW1,<-hW2];go_loopw [6] (λj wr=>∃(k:Nat),k<=f.params.length/\j=.int .i64 k/\dupP t.globals [] f.params=dupP t.globals (f.params.take k) (f.params.drop k)/\Below (w.heap.size+3) W2 wr) (λj _=>f.params.length-(RowKit.intOf j).toNat)
 case atStart=>exact⟨0,y_,rfl,by simp,r_⟩
 case round=>
  obtain⟨k,hk,rfl,hd,hB⟩:=hrel;have HD:=hide hd;obtain⟨⟨x0,x1⟩,⟨r0,r1,r2⟩,rz,hBw,hsz,y1,y2⟩:=HBy.o wr hB;have z0:=rz 0;have z1:=rz 1;have z2:=rz 2;by_cases hlt:k<f.params.length
  ·obtain⟨bp,op,rfl,hcp⟩:=HPC.o o_;have d0:=(hBw.cell (p:=⟨bp,op+k,none⟩) (b_ (hcp k hlt))).trans (hcp k hlt);have HD2:Hid (dupP t.globals [] f.params=dupP t.globals (f.params.take k) (f.params[k]::f.params.drop (k+1))):=by show _=_;rw[HD.o,drop_cons_ _ _ hlt]
   have HTk:=hide (take_succ _ _ hlt);have hrn:=headS_run (some ⟨bp,op,none⟩) f.params.length cp k o_ hpc1;have hqb:bp<wr.heap.size:=b_ d0;have hq0:w.heap.size<wr.heap.size:=by omega
   have hq2:w.heap.size+1+1<wr.heap.size:=by omega
   generalize f.params[k]=p at d0 HD2 HTk;have hdr:Bl wr wr.drew:=r_.drew;have HIn:=hide (l3in_any _ _ p wr.drew (by simp;omega) ((HPs.o.below (hBw.drew)).headS k o_));have HGb:Hid (Globs wr (.slice ag t.globals.length cg) t.globals):=HTv.o.g.below hBw;cases hin:inS (f.params.take k) p with
   | true=>
    have HE:Hid (RES=(2,(i:Int),-1)):=by
     show _=_;rw[HRES.o];unfold bodyE;rw[if_pos (by rw[HD2.o];exact dupP_hit (.inl hin))]
    have HIs:Hid (∀n,Calls prog 89 #[.slice (some ⟨bp,op,none⟩) k cp,.string p] (wr.drewN n) λe w'=>e=.returned (.bool true)/\w'=wr.drewN n):=λn=>by
     have:=l3in_same (f.params.take k) (.slice (some ⟨bp,op,none⟩) k cp) p (wr.drewN n) (by simp;omega) ((HPs.o.below (below_drewN hBw n)).headS k o_)
     rw[hin] at this;exact this
    have hi1:(0:Int)<=(k:Int):=by omega
    have hi2:(k:Int)<(f.params.length:Int):=by omega
    go_wp2_with fail;go_quiet ((go_at_call 89;exact Calls.quiet_of_same (HIs.o _)))
    have hB2:Below (w.heap.size+3) W2 (wr.drewN nq):=below_drewN hB _;obtain⟨-,⟨r0,r1,r2⟩,rz,hBw,-⟩:=HBy.o (wr.drewN nq) hB2;have z0:=rz 0;have z1:=rz 1;have z2:=rz 2;go_wp2_with fail;obtain⟨t0,t1,t2⟩:=set3 (u0:=.int .i64 2) (u1:=.int .i64 (i:Int)) (u2:=.int .i64 (-1)) r0 r1 r2;refine bodyPost_ret (v:=.agg #[.int .i64 2,.int .i64 (i:Int),.int .i64 (-1)]) (by simp[results,results56,go_sem,t0,t1,t2]) rfl ⟨ret_val (by rw[HE.o];rfl),?_⟩;exact ((hBw.setCell (p:=⟨w.heap.size+1,0,none⟩) (by simp) _).setCell (p:=⟨w.heap.size+1,1,none⟩) (by simp) _).setCell (p:=⟨w.heap.size+1,2,none⟩) (by simp) _
   | false=>
    rw[hin] at HIn;have HGl:Hid (∀W,Bl wr W->Calls prog 90 #[.agg #[.slice ag t.globals.length cg,.slice (some ⟨b,off,none⟩) t.funcs.length cf],.string p] W λe w'=>e=.returned (.int .i64 (globI t.globals p))/\Bl W w'):=λW hW=>l3global_any t.globals _ _ p W o_ (HGb.o.below hW);have HQ1:Hid (0<=globI t.globals p->RES=(2,(i:Int),-1)):=λh=>by
     rw[HRES.o];unfold bodyE;rw[if_pos (by rw[HD2.o];exact dupP_hit (.inr h))]
    have HQ2:Hid (¬0<=globI t.globals p->dupP t.globals [] f.params=dupP t.globals (f.params.take (k+1)) (f.params.drop (k+1))):=λh=>by
     rw[HD2.o,dupP_step (by rw[hin];simpa using h),HTk.o]
    generalize globI t.globals p=gi at HGl HQ1 HQ2;obtain⟨bg,hbg⟩ : ∃bg,decide (0<=gi)=bg:=⟨_,rfl⟩;go_wp2_with fail;go_region_held3 (λW=>W.cell? ⟨w.heap.size,0,none⟩=some (.slice ag t.globals.length cg)/\W.cell? ⟨w.heap.size,1,none⟩=some (.slice (some ⟨b,off,none⟩) t.funcs.length cf)/\W.cell? ⟨w.heap.size+1+1,1,none⟩=some (.slice (some ⟨bp,op,none⟩) f.params.length cp)/\W.cell? ⟨bp,op+k,none⟩=some (.string p)) (go_simp)
     (first
     | ((with_reducible refine Calls.mono HIn.o ?_);rintro e w2 ⟨rfl,hb2⟩;have e0:w2.cell? ⟨w.heap.size,0,none⟩=some (.slice ag t.globals.length cg):=(hb2.cell (p:=⟨w.heap.size,0,none⟩) hq0).trans x0;have e1:w2.cell? ⟨w.heap.size,1,none⟩=some (.slice (some ⟨b,off,none⟩) t.funcs.length cf):=(hb2.cell (p:=⟨w.heap.size,1,none⟩) hq0).trans x1;have e2:w2.cell? ⟨w.heap.size+1+1,1,none⟩=some (.slice (some ⟨bp,op,none⟩) f.params.length cp):=(hb2.cell (p:=⟨w.heap.size+1+1,1,none⟩) hq2).trans y1;have e3:w2.cell? ⟨bp,op+k,none⟩=some (.string p):=(hb2.cell (p:=⟨bp,op+k,none⟩) hqb).trans d0;have hbw2:Bl wr w2:=hdr.trans hb2)
     | ((with_reducible refine Calls.mono (HGl.o _ hbw2) ?_);rintro e w3 ⟨rfl,hb3⟩;have hbw3:Bl wr w3:=hbw2.trans (hb3.mono hbw2.size);have g0:w3.cell? ⟨w.heap.size,0,none⟩=some (.slice ag t.globals.length cg):=(hbw3.cell (p:=⟨w.heap.size,0,none⟩) hq0).trans x0;have g1:w3.cell? ⟨w.heap.size,1,none⟩=some (.slice (some ⟨b,off,none⟩) t.funcs.length cf):=(hbw3.cell (p:=⟨w.heap.size,1,none⟩) hq0).trans x1;have g2:w3.cell? ⟨w.heap.size+1+1,1,none⟩=some (.slice (some ⟨bp,op,none⟩) f.params.length cp):=(hbw3.cell (p:=⟨w.heap.size+1+1,1,none⟩) hq2).trans y1;have g3:w3.cell? ⟨bp,op+k,none⟩=some (.string p):=(hbw3.cell (p:=⟨bp,op+k,none⟩) hqb).trans d0))
    have hB3:Below (w.heap.size+3) W2 w3:=hB.trans (hbw3.mono hsz);obtain⟨-,⟨r0,r1,r2⟩,rz,hBw,-⟩:=HBy.o w3 hB3;have z0:=rz 0;have z1:=rz 1;have z2:=rz 2;by_cases hgi:0<=gi
    ·have HE:Hid (RES=(2,(i:Int),-1)):=HQ1.o hgi;obtain rfl:bg=true:=hbg.symm.trans (decide_eq_true hgi);go_wp2_with fail;obtain⟨t0,t1,t2⟩:=set3 (u0:=.int .i64 2) (u1:=.int .i64 (i:Int)) (u2:=.int .i64 (-1)) r0 r1 r2;refine bodyPost_ret (v:=.agg #[.int .i64 2,.int .i64 (i:Int),.int .i64 (-1)]) (by simp[results,results56,go_sem,t0,t1,t2]) rfl ⟨ret_val (by rw[HE.o];rfl),?_⟩;exact ((hBw.setCell (p:=⟨w.heap.size+1,0,none⟩) (by simp) _).setCell (p:=⟨w.heap.size+1,1,none⟩) (by simp) _).setCell (p:=⟨w.heap.size+1,2,none⟩) (by simp) _
    ·have HDn:=hide (HQ2.o o_);obtain rfl:bg=false:=hbg.symm.trans (decide_eq_false hgi);go_wp2_with fail;go_roundw
     case rel=>exact⟨k+1,by omega,by go_num,HDn,hB3⟩
     case measure=>simp[RowKit.intOf];omega
  ·have hkk:k=f.params.length:=by omega
   have HD0:Hid (dupP t.globals [] f.params=false):=by show _=_;rw[HD.o,hkk,List.drop_length];rfl
   have HBk:Hid (Calls prog 91 #[.agg #[.slice ag t.globals.length cg,.slice (some ⟨b,off,none⟩) t.funcs.length cf],.slice ab f.body.length cb,.int .i64 0,.slice ap f.params.length cp,.slice ap f.params.length cp] wr λe w'=>∃vt',e=.returned (.tuple #[.int .i64 (blkE t f.body 0 f.params f.params).1,.int .i64 (blkE t f.body 0 f.params f.params).2.1,vt'])/\Strs w' vt' (blkE t f.body 0 f.params f.params).2.2/\Bl wr w'):=
    HBL.o f.body.length t _ _ _ _ _ f.body 0 f.params f.params wr n_ (HTv.o.below hBw) (HBs.o.below hBw) HOk.o.1 HOk.o.2.1 (HPs.o.below hBw) (HPs.o.below hBw) o_ o_ o_ o_ o_ o_
   have HRn:Hid (RES=if (blkE t f.body 0 f.params f.params).1≠0 then ((blkE t f.body 0 f.params f.params).1,(i:Int),(blkE t f.body 0 f.params f.params).2.1) else (0,-1,-1)):=by
    show _=_;rw[HRES.o];unfold bodyE;rw[if_neg (by rw[HD0.o];simp)]
   go_wp2_with fail;refine HBk.o.mono ?_;rintro e w2 ⟨vt,rfl,-,hb2⟩;have hB2:Below (w.heap.size+3) W2 w2:=hB.trans (hb2.mono hsz);obtain⟨-,⟨r0,r1,r2⟩,rz,hBw,-⟩:=HBy.o w2 hB2;have z0:=rz 0;have z1:=rz 1;have z2:=rz 2;generalize (blkE t f.body 0 f.params f.params).1=q1 at HRn ⊢;generalize (blkE t f.body 0 f.params f.params).2.1=q2 at HRn ⊢;by_cases hq:q1=0
   ·have HE:Hid (RES=(0,-1,-1)):=by show _=_;rw[HRn.o,if_neg (by simp[hq])]
    subst hq;go_wp2_with fail;obtain⟨t0,t1,t2⟩:=set3 (u0:=.int .i64 0) (u1:=.int .i64 (-1)) (u2:=.int .i64 (-1)) r0 r1 r2;refine bodyPost_ret (v:=.agg #[.int .i64 0,.int .i64 (-1),.int .i64 (-1)]) (by simp[results,results56,go_sem,t0,t1,t2]) rfl ⟨ret_val (by rw[HE.o];rfl),?_⟩;exact ((hBw.setCell (p:=⟨w.heap.size+1,0,none⟩) (by simp) _).setCell (p:=⟨w.heap.size+1,1,none⟩) (by simp) _).setCell (p:=⟨w.heap.size+1,2,none⟩) (by simp) _
   ·have HE:Hid (RES=(q1,(i:Int),q2)):=by show _=_;rw[HRn.o,if_pos hq]
    have b1:(q1 == 0)=false:=by simpa using hq
    go_wp2_with fail;obtain⟨t0,t1,t2⟩:=set3 (u0:=.int .i64 q1) (u1:=.int .i64 (i:Int)) (u2:=.int .i64 q2) r0 r1 r2;refine bodyPost_ret (v:=.agg #[.int .i64 q1,.int .i64 (i:Int),.int .i64 q2]) (by simp[results,results56,go_sem,t0,t1,t2]) rfl ⟨ret_val (by rw[HE.o];rfl),?_⟩;exact ((hBw.setCell (p:=⟨w.heap.size+1,0,none⟩) (by simp) _).setCell (p:=⟨w.heap.size+1,1,none⟩) (by simp) _).setCell (p:=⟨w.heap.size+1,2,none⟩) (by simp) _
end Go.Proofs.YtffnkkpmlplfeaaGreatDoor
