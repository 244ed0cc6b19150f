import Derived.Test.YtnpidjamplmgjaaGreatDoorQ27
import Derived.Defers
set_option linter.unusedSectionVars false
variable [Inhabited Go.Proofs.YtnpidjamplmgjaaGreatDoor.Pick]
namespace Go.Proofs.YtnpidjamplmgjaaGreatDoor
open Go.RowKit
set_option linter.unusedVariables false
set_option linter.unusedSimpArgs false
set_option maxRecDepth 100000
set_option maxHeartbeats 16000000
structure Bd (E:Ev) (vb:Value) (ss:List St):Prop where
 st:Stmts E.w0 vb ss
 fit:fitB ss=true
 sm : ∀s∈ss,smallS s
 wf : ∀s∈ss,wfSt s
def BlockK (n:Nat):Prop:=∀(E:Ev) (w:World) (bsn:List (List ByteArray)) (bi:List Nat) (v:Value) (bt:Nat) (tk:List ByteArray) (fn st:Int) (ss:List St) (vb:Value) (a:Int),ss.length<=n->Cs E w bsn bi v bt tk fn st->Bd E vb ss->E.gf=globF E.t.globals->E.gp=(fun s=>decide (0<=globI E.t.globals s))->(∀g∈E.t.globals,0<=g.size)->E.t.funcs.length<=1048576 ->
 bi.length+ss.length<=800000->tk.length+ss.length<=800000->0<=a->a+ss.length<=800000 ->
 Calls Tryz.prog 178 #[.pointer (some ⟨E.C,0,none⟩),vb,.int .i64 a] w fun e w'=>e = .returned (errV (blkE E.t ss a bsn.flatten tk).1 fn (blkE E.t ss a bsn.flatten tk).2.1) /\
  (∃v' tk' st',Cs E w' bsn bi v' bt tk' fn st'/\((blkE E.t ss a bsn.flatten tk).1=0->tk'=(blkE E.t ss a bsn.flatten tk).2.2)/\(∀k,v'.ownBlock=some k->v.ownBlock=some k∨w.heap.size<=k))/\Tcs (Sb E v bt) w w'
theorem Sb_next {E:Ev} {v v1:Value} {bt N:Nat} (h : ∀k,v1.ownBlock=some k->v.ownBlock=some k∨N<=k) : ∀x,Sb E v1 bt x->Sb E v bt x∨N<=x:=by
 intro x hx
 rcases hx with h1 | h1 | h1
 ·exact .inl (.inl h1)
 ·exact .inl (.inr (.inl h1))
 ·rcases h x h1 with h2 | h2
  ·exact .inl (.inr (.inr h2))
  ·exact .inr h2
theorem Tcs.cell {S:Nat->Prop} {W w':World} (h:Tcs S W w') {M:Nat} (hM:M<W.heap.size) (hn : ¬S M) (o:Nat):w'.cell? ⟨M,o,none⟩=W.cell? ⟨M,o,none⟩:=World.cell?_of_block (a:=⟨M,o,none⟩) (h.block M hM hn)
theorem drop_take_ {α:Type} (l:List α) (i j:Nat):(l.take (i+j)).drop i=(l.drop i).take j:=by
 rw [List.drop_take];congr 1;omega
theorem blockK (n:Nat):BlockK n:=by
 induction n with
 | zero=>
  intro E w bsn bi v bt tk fn st ss vb a hn hcs hbd hgf hgp hp hfl hl1 hl2 ha hl3
  obtain rfl:ss = []:=List.eq_nil_of_length_eq_zero o_
  obtain ⟨ab,cb,rfl,-⟩:=hbd.st
  have HCs:=hide hcs
  have HE:Hid (blkE E.t [] a bsn.flatten tk=(0,0,tk)):=blkE_nil _ _ _ _
  clear hcs hbd
  simp only [l_n] at *
  go_enter_defers Tryz.func178,Tryz.ntmps178
  go_wp2_with fail
  refine (openK HCs.out o_).mono ?_
  rintro e w1 ⟨⟨u,rfl⟩,v1,hc1,ht1,ho1⟩
  have HC1:=hide hc1
  clear hc1
  go_wp2_with fail
  refine wp_loop_rounds 1 ?_
  rw [rounds_succ]
  go_wp2_with fail
  refine leaves_cons (f:=177) (args:=#[.pointer (some ⟨E.C,0,none⟩)]) (by simp) (by simp [go_sem]) ?_
  refine (closeK HC1.out .returning).mono ?_
  rintro e u' w'' ⟨rfl,⟨u2,rfl⟩,v2,hc2,ht2,ho2⟩
  exact ⟨_,results_tmp rfl _ _ _,ret_val (by rw [HE.out];rfl),⟨v2,tk,st,hc2,fun _=>by rw [HE.out],fun k hk=>ho1 k (ho2 ▸ hk)⟩,ht1.trans (ht2.mono (fun k h=>.inl h))⟩
 | succ n ih=>
 intro E w bsn bi v bt tk fn st ss vb a hn hcs hbd hgf hgp hp hfl hl1 hl2 ha hl3
 have IH:=hide ih
 have HCs:=hide hcs
 have HGF:=hide hgf
 have HGP:=hide hgp
 have HP:=hide hp
 have HBd:=hide hbd
 obtain ⟨RES,hRES⟩ : ∃R,R=blkE E.t ss a bsn.flatten tk:=⟨_,rfl⟩
 rw [<-hRES]
 have HRES:=hide hRES
 obtain ⟨ab,cb,rfl,-⟩:=hbd.st
 clear hcs hbd hgf hgp hp ih hRES
 go_enter_defers Tryz.func178,Tryz.ntmps178
 go_wp2_with fail
 refine (openK HCs.out o_).mono ?_
 rintro e w1 ⟨⟨u,rfl⟩,v1,hc1,ht1,ho1⟩
 obtain ⟨b,hb⟩ : ∃b,b=w.heap.size:=⟨_,rfl⟩
 rw [<-hb] at hc1
 have HC1:=hide hc1
 have HT1:=hide ht1
 have HO1:=hide ho1
 clear hc1 ht1 ho1
 go_wp2_with fail
 go_loopw [1,2] (fun vb2 a2 wr=>∃(q:List St) (z:Int) (xs tk':List ByteArray) (v':Value) (st':Int),a2 = .int .i64 z/\Bd E vb2 q/\Cs E wr (bsn++[xs]) (bi++[b]) v' bt tk' fn st'/\RES=blkE E.t q z (bsn++[xs]).flatten tk'/\q.length<=ss.length/\xs.length+q.length<=800000/\tk'.length+q.length<=800000/\0<=z/\z+q.length<=800000/\Tcs (Sb E v bt) w wr/\(∀k,v'.ownBlock=some k->v.ownBlock=some k∨w.heap.size<=k)) (fun vb2 _ _=>lenOf vb2)
 case atStart=>exact ⟨ss,a,[],tk,v1,st,rfl,HBd.out,HC1.out,by rw [flat_nil];exact HRES.out,Nat.le_refl _,by simp;omega,hl2,ha,hl3,HT1.out,HO1.out⟩
 case round=>
  clear HC1 HT1 HO1 HBd HRES HCs
  obtain ⟨q,z,xs,tk1,v1,st1,rfl,hbd,hcs,hres,hq1,hq2,hq3,hz0,hz1,ht,ho⟩:=hrel
  have HC:=hide hcs
  have HT:=hide ht
  have HO:=hide ho
  clear ht ho
  cases q with
  | nil=>
   have HE:Hid (RES=(0,0,tk1)):=hres.trans (blkE_nil _ _ _ _)
   obtain ⟨a2,c2,rfl,-⟩:=hbd.st
   clear hres hcs hbd
   simp only [l_n]
   go_wp2_with fail
   refine leaves_cons (f:=177) (args:=#[.pointer (some ⟨E.C,0,none⟩)]) (by simp) (by simp [go_sem]) ?_
   refine (closeK HC.out .returning).mono ?_
   rintro e u' w'' ⟨rfl,⟨u2,rfl⟩,v2,hc2,ht2,ho2⟩
   exact ⟨_,results_tmp rfl _ _ _,ret_val (by rw [HE.out];rfl),⟨v2,tk1,st1,hc2,fun _=>by rw [HE.out],fun k hk=>HO.out k (ho2 ▸ hk)⟩,HT.out.trans (ht2.mono (fun k h=>.inl h))⟩
  | cons s r=>
   have HRES:=hide hres
   have HSm:Hid (∀x∈s::r,smallS x):=hbd.sm
   have HWf:Hid (∀x∈s::r,wfSt x):=hbd.wf
   have hfit:=hbd.fit
   rw [fitB_cons,Bool.and_eq_true,Bool.and_eq_true,Bool.and_eq_true,decide_eq_true_iff] at hfit
   obtain ⟨⟨p1,p2,p3,p4⟩,hf1,hf2,hf3⟩:=hfit
   obtain ⟨a2,cap,rfl,hcl,hcm,hc⟩:=hbd.st
   obtain ⟨b0,off,rfl,hs⟩:=hc (by simp)
   have hall:Stmts E.w0 (.slice (some ⟨b0,off,none⟩) (s::r).length cap) (s::r):=⟨_,_,rfl,hcl,hcm,fun _=>⟨b0,off,rfl,hs⟩⟩
   have hrest:Stmts E.w0 (.slice (if cap=1 then some ⟨b0,off,none⟩ else some ⟨b0,off+6,none⟩) r.length (cap-1)) r:=by
    have:=hall.cut 1 (s::r).length (by simp) (Nat.le_refl _)
    simpa [Addr.add] using this
   obtain ⟨ve0,vf0,⟨d0,-,d2,d3,-,-⟩,he0,hf0⟩:=hs 0 (by simp)
   have hlt0:b0<E.w0.heap.size:=World.block_lt_of_cell? _ _ d0
   obtain ⟨ve,vf,⟨g0,g1,g2,g3,g4,g5⟩,⟨c0,c1,c2,c3,c4,c5⟩,he,hf⟩:=(hs.below hcs.base).up 0 (by simp)
   simp only [Nat.zero_mul,Nat.add_zero,List.getElem_cons_zero] at c0 c1 c2 c3 c4 c5 g0 g1 g2 g3 g4 g5 he hf
   simp only [Nat.zero_mul,Nat.add_zero,List.getElem_cons_zero] at d0 d2 d3 he0 hf0
   obtain rfl:ve=ve0:=Option.some.inj (c2.symm.trans ((hcs.base.cell (p:=⟨b0,off+2,none⟩) hlt0).trans d2))
   obtain rfl:vf=vf0:=Option.some.inj (c3.symm.trans ((hcs.base.cell (p:=⟨b0,off+3,none⟩) hlt0).trans d3))
   clear d0 d2 d3
   simp only [l_c] at *
   have HR:=hide hrest
   have h1:(1:Int)<=(r.length:Int)+1:=by omega
   have HNe:=hide he0
   have HNf:=hide hf0
   have hC:E.C<wr.heap.size:=hcs.ltC
   have y6:=hcs.box.c6
   have f6:=hcs.box.fz 6
   have HF1:=hide hf1
   have HF2:=hide hf2
   have HF3:=hide hf3
   obtain ⟨a3,k3,rfl,-⟩:=he
   obtain ⟨a4,k4,rfl,-⟩:=hf
   clear hs hc hall hrest hf1 hf2 hf3 hcs hbd hres he0 hf0
   go_wp2_with fail
   go_region
   generalize (if cap=1 then some ({block:=b0,off:=off,spot:=none}:Addr) else some {block:=b0,off:=off+6,spot:=none})=a1 at HR ⊢
   generalize hk1:cap-1=k1 at HR ⊢
   have hk1':r.length<=k1:=by omega
   have hk2':k1<=9223372036854775807:=by omega
   clear hk1 c0 c1 c2 c3 c4 c5 g0 g1 g2 g3 g4 g5 h1
   go_wp2_with fail
   obtain ⟨W6,hW6⟩ : ∃W6,W6=((wr.setCell ⟨E.C,6,none⟩ (.int .i64 z)).alloc (.cells #[.int .i64 s.kind,.string s.name,.slice a3 s.e.length k3,.slice a4 s.f.length k4,.int .i64 s.thn,.int .i64 s.els] 123)).drew:=⟨_,rfl⟩
   obtain ⟨M,hM⟩ : ∃M,M=wr.heap.size:=⟨_,rfl⟩
   have hA6:Below (wr.setCell ⟨E.C,6,none⟩ (.int .i64 z)).heap.size (wr.setCell ⟨E.C,6,none⟩ (.int .i64 z)) W6:=by rw [hW6];exact (bel_a _ _).drew
   have HC6:Hid (Cs E W6 (bsn++[xs]) (bi++[b]) v1 bt tk1 fn z):=(HC.out.stmt z).below hA6
   have HT6:Hid (Tcs (Sb E v1 bt) wr W6):=((Tcs.refl (Sb E v1 bt) wr).setCell (p:=⟨E.C,6,none⟩) (.inl rfl) _).of_below hA6
   have m4:W6.cell? ⟨M,4,none⟩=some (.int .i64 s.thn):=by rw [hW6];exact (World.cell?_alloc_at _ _ _ _ (by simp [hM])).trans rfl
   have m5:W6.cell? ⟨M,5,none⟩=some (.int .i64 s.els):=by rw [hW6];exact (World.cell?_alloc_at _ _ _ _ (by simp [hM])).trans rfl
   have hM6:M<W6.heap.size:=by rw [hW6,hM];simp
   have HMS:Hid (¬Sb E v1 bt M):=by
    show ¬_
    rintro (h | h | h)
    ·omega
    ·have:=HC.out.lt bt (by simp);omega
    ·have:=(HC.out.rlt _ h).2;omega
   have hMb:M≠b:=by have:=HC.out.lt b (by simp);omega
   have hMt:M≠bt:=by have:=HC.out.lt bt (by simp);omega
   rw [<-hW6,<-hM]
   have HMw:Hid (w.heap.size<=M):=by have:=HT.out.size;show _<=_;omega
   clear hW6 hA6 y6 f6 hM
   refine (stmtK HC6.out HGF.out HGP.out HP.out hfl s _ _ (HNe.out.below HC6.out.base) (HNf.out.below HC6.out.base) (HSm.out s (by simp)) (HWf.out s (by simp)) o_ o_).mono ?_
   rintro e w2 ⟨rfl,⟨xs2,tk2,hc2,himp⟩,ht2⟩
   have HC2:=hide hc2
   have HT2:Hid (Tcs (Sb E v bt) w w2):=(HT.out.next HT6.out (Sb_next HO.out)).next ht2 (fun x hx=>by
    rcases hx with h | h
    ·exact .inl (.inr (.inl h))
    ·exact .inr o_)
   have n4:w2.cell? ⟨M,4,none⟩=some (.int .i64 s.thn):=(ht2.cell hM6 (by rintro (h | h);exact hMt h;exact hMb h) 4).trans m4
   have n5:w2.cell? ⟨M,5,none⟩=some (.int .i64 s.els):=(ht2.cell hM6 (by rintro (h | h);exact hMt h;exact hMb h) 5).trans m5
   have hM2:M<w2.heap.size:=Nat.lt_of_lt_of_le hM6 ht2.size
   obtain ⟨SC,hSC⟩ : ∃SC,SC=(bsn++[xs]).flatten:=⟨_,rfl⟩
   rw [<-hSC] at himp HRES ⊢
   have HSC:=hide hSC
   clear m4 m5 hM6 hc2 ht2 hSC
   by_cases hE:stmtE E.t SC tk1 s=0
   ·obtain ⟨rfl,rfl⟩:=himp hE
    have HE:Hid (stmtE E.t SC tk1 s=0):=hE
    rw [hE,errV_zero]
    clear hE himp
    obtain ⟨tn,htn⟩:=Int.eq_ofNat_of_zero_le (show 0<=s.thn by omega)
    obtain ⟨ln,hln⟩:=Int.eq_ofNat_of_zero_le (show 0<=s.els by omega)
    rw [htn] at n4 p2 p4
    rw [hln] at n5 p4
    have HTN:Hid (s.thn.toNat=tn/\s.els.toNat=ln):=⟨by omega,by omega⟩
    have hlt:tn<=r.length:=by omega
    have hlt2:tn+ln<=r.length:=by omega
    rw [HTN.out.1] at HF1
    rw [HTN.out.1,HTN.out.2] at HF2 HF3
    have HSF:Hid ((bsn++[scp s xs]).flatten=scp s SC):=by show _=_;rw [flat_scp,HSC.out]
    have hx1:=scp_len s tk1
    have hx2:=scp_len s xs
    go_wp2_with fail
    refine (IH.out E w2 (bsn++[scp s xs]) (bi++[b]) v1 bt (scp s tk1) fn z (r.take tn) (.slice a1 tn k1) (z+1) (by simp;omega) HC2.out ⟨HR.out.head tn hlt,HF1.out,fun x hx=>HSm.out x (by simp [List.mem_of_mem_take hx]),fun x hx=>HWf.out x (by simp [List.mem_of_mem_take hx])⟩ HGF.out HGP.out HP.out hfl (by simp;omega) (by simp;omega) o_ (by simp;omega)).mono ?_
    rintro e w3 ⟨rfl,⟨v3,tk3,st3,hc3,hi3,ho3⟩,ht3⟩
    rw [HSF.out] at hi3 ⊢
    have HC3:=hide hc3
    have hw2:=HT2.out.size
    have hMS:=HMS.out
    have q4:w3.cell? ⟨M,4,none⟩=some (.int .i64 tn):=(ht3.cell hM2 hMS 4).trans n4
    have q5:w3.cell? ⟨M,5,none⟩=some (.int .i64 ln):=(ht3.cell hM2 hMS 5).trans n5
    have hM3:M<w3.heap.size:=Nat.lt_of_lt_of_le hM2 ht3.size
    have HT3:Hid (Tcs (Sb E v bt) w w3):=HT2.out.next ht3 (Sb_next HO.out)
    have HO3:Hid (∀k,v3.ownBlock=some k->v.ownBlock=some k∨w.heap.size<=k):=fun k hk=>by
     rcases ho3 k hk with h | h
     ·exact HO.out k h
     ·exact .inr o_
    have HMS3:Hid (¬Sb E v3 bt M):=by
     show ¬_
     rintro (h | h | h)
     ·exact hMS (.inl h)
     ·exact hMS (.inr (.inl h))
     ·rcases ho3 M h with h2 | h2
      ·exact hMS (.inr (.inr h2))
      ·omega
    clear hc3 ht3 ho3 n4 n5 hMS hw2
    obtain ⟨X,hX⟩ : ∃X,X=blkE E.t (r.take tn) (z+1) (scp s SC) (scp s tk1):=⟨_,rfl⟩
    rw [<-hX] at hi3 ⊢
    have HX:Hid (X=blkE E.t (r.take s.thn.toNat) (z+1) (scp s SC) (scp s tk1)):=by show _=_;rw [HTN.out.1];exact hX
    have hXl:X.2.2.length<=(scp s tk1).length+tn:=by
     have:=blkE_len E.t _ (r.take tn) (z+1) (scp s SC) (scp s tk1) (Nat.le_refl _)
     rw [<-hX] at this
     simp at this
     omega
    clear hX
    by_cases hX1:X.1=0
    ·have HX1:Hid (X.1=0):=hX1
     obtain rfl:=hi3 hX1
     rw [hX1,errV_zero]
     clear hX1 hi3
     obtain ⟨a5,k5,hr5,hs5⟩ : ∃a5 k5,(∀w:World,(Instr.slice 62 (.slice a1 r.length k1) (some (.int .i64 tn)) (some (.int .i64 ((tn:Int)+(ln:Int)))) none).run Tryz.prog w = .ok (.slice a5 ln k5) w)/\Stmts E.w0 (.slice a5 ln k5) ((r.take (tn+ln)).drop tn):=by
      have h:=cut_run a1 r.length k1 tn (tn+ln) o_ o_ o_
      have h':=HR.out.cut tn (tn+ln) o_ o_
      rw [show tn+ln-tn=ln by omega] at h h'
      exact ⟨_,_,h,h'⟩
     have HS5:=hide hs5
     clear hs5
     have HL5:Hid (((r.take (tn+ln)).drop tn).length=ln):=by show _=_;simp;omega
     have HD3:=hide (HC3.out.below ((Below.refl _ _).drew))
     have HI5:Hid (Calls Tryz.prog 178 #[.pointer (some ⟨E.C,0,none⟩),.slice a5 ln k5,.int .i64 (z+1+tn)] w3.drew fun e w'=>e = .returned (errV (blkE E.t ((r.take (tn+ln)).drop tn) (z+1+tn) (scp s SC) X.2.2).1 fn (blkE E.t ((r.take (tn+ln)).drop tn) (z+1+tn) (scp s SC) X.2.2).2.1) /\
  (∃v' tk' st',Cs E w' (bsn++[scp s xs]) (bi++[b]) v' bt tk' fn st'/\((blkE E.t ((r.take (tn+ln)).drop tn) (z+1+tn) (scp s SC) X.2.2).1=0->tk'=(blkE E.t ((r.take (tn+ln)).drop tn) (z+1+tn) (scp s SC) X.2.2).2.2)/\(∀k,v'.ownBlock=some k->v3.ownBlock=some k∨w3.drew.heap.size<=k))/\Tcs (Sb E v3 bt) w3.drew w'):=by
      have hl:=HL5.out
      have:=IH.out E w3.drew (bsn++[scp s xs]) (bi++[b]) v3 bt X.2.2 fn st3 ((r.take (tn+ln)).drop tn) (.slice a5 ln k5) (z+1+tn) o_ HD3.out ⟨HS5.out,HF2.out,fun x hx=>HSm.out x (by simp [List.mem_of_mem_take (List.mem_of_mem_drop hx)]),fun x hx=>HWf.out x (by simp [List.mem_of_mem_take (List.mem_of_mem_drop hx)])⟩ HGF.out HGP.out HP.out hfl (by simp only [l_a,l_c,l_n];omega) o_ o_ o_
      rw [HSF.out] at this
      exact this
     have hw1:IntKind.i64.wrap (z+1)=z+1:=by simp [IntKind.wrap,IntKind.bits,IntKind.signed];omega
     have hw2:IntKind.i64.wrap (z+1+(tn:Int))=z+1+(tn:Int):=by simp [IntKind.wrap,IntKind.bits,IntKind.signed];omega
     have hwt:IntKind.i64.wrap ((tn:Int)+(ln:Int))=(tn:Int)+(ln:Int):=by simp [IntKind.wrap,IntKind.bits,IntKind.signed];omega
     have HBN:Hid (0<=z/\z+1+r.length<=800000/\X.2.2.length+ln+(r.length-(tn+ln))<=800000/\(scp s xs).length+(r.length-(tn+ln))<=800000/\r.length+1<=ss.length):=⟨hz0,by omega,by omega,by omega,by omega⟩
     clear hx1 hx2 hXl hlt p1 p2 p3 p4 hcl hcm hq1 hq2 hq3 hz0 hz1 hl1 hl2 hl3 ha hn
     go_wp2_with fail
     go_region_held3 (fun W=>W.cell? ⟨M,4,none⟩=some (.int .i64 tn)) (go_simp)
      (first
      | ((with_reducible refine Calls.mono HI5.out ?_);rintro e w4 ⟨rfl,⟨v4,tk4,st4,hc4,hi4,ho4⟩,ht4⟩;have hcc:w4.cell? ⟨M,4,none⟩=some (.int .i64 tn):=(ht4.cell hM3 HMS3.out 4).trans q4))
     have HC4:=hide hc4
     have q5':w4.cell? ⟨M,5,none⟩=some (.int .i64 ln):=(ht4.cell hM3 HMS3.out 5).trans q5
     have HT4:Hid (Tcs (Sb E v bt) w w4):=(HT3.out.drew).next ht4 (Sb_next HO3.out)
     have hw3:w.heap.size<=w3.heap.size:=HT3.out.size
     have HO4:Hid (∀k,v4.ownBlock=some k->v.ownBlock=some k∨w.heap.size<=k):=fun k hk=>by
      rcases ho4 k hk with h | h
      ·exact HO3.out k h
      ·exact .inr (Nat.le_trans hw3 h)
     clear hc4 ht4 ho4 q4 q5
     obtain ⟨Y,hY⟩ : ∃Y,Y=blkE E.t ((r.take (tn+ln)).drop tn) (z+1+tn) (scp s SC) X.2.2:=⟨_,rfl⟩
     rw [<-hY] at hi4 ⊢
     have HYl:Hid (Y.2.2.length<=X.2.2.length+ln):=by
      have h1:=blkE_len E.t _ ((r.take (tn+ln)).drop tn) (z+1+tn) (scp s SC) X.2.2 (Nat.le_refl _)
      rw [<-hY,HL5.out] at h1
      exact h1
     have HY:Hid (Y=blkE E.t ((r.drop s.thn.toNat).take s.els.toNat) (z+1+s.thn) (scp s SC) X.2.2):=by show _=_;rw [HTN.out.1,HTN.out.2,htn,<-drop_take_];exact hY
     clear hY
     by_cases hY1:Y.1=0
     ·have HY1:=hide hY1
      obtain rfl:=hi4 hY1
      rw [hY1,errV_zero]
      clear hY1 hi4
      obtain ⟨a6,k6,hr6,hs6⟩ : ∃a6 k6,(∀w:World,(Instr.slice 62 (.slice a1 r.length k1) (some (.int .i64 ((tn:Int)+(ln:Int)))) none none).run Tryz.prog w = .ok (.slice a6 (r.length-(tn+ln)) k6) w)/\Stmts E.w0 (.slice a6 (r.length-(tn+ln)) k6) (r.drop (tn+ln)):=by
       have h:=cut_run_l a1 r.length k1 (tn+ln) o_ o_ ((tn:Int)+(ln:Int)) o_
       have h':=HR.out.cut (tn+ln) r.length o_ o_
       rw [List.take_length] at h'
       exact ⟨_,_,h,h'⟩
      have HS6:=hide hs6
      have HRn:Hid (RES=blkE E.t (r.drop (tn+ln)) (z+1+tn+ln) (bsn++[scp s xs]).flatten Y.2.2):=by
       have h1:=blkE_next (r:=r) (a:=z) (tk1:=X.2.2) (tk2:=Y.2.2) HE.out (by rw [<-HX.out];exact HX1.out) (by rw [<-HX.out]) (by rw [<-HY.out];exact HY1.out) (by rw [<-HY.out])
       rw [HTN.out.1,HTN.out.2,htn,hln] at h1
       show _=_
       rw [HSF.out,HRES.out,h1]
      clear hs6
      have hw4:IntKind.i64.wrap (z+1+((tn:Int)+(ln:Int)))=z+1+((tn:Int)+(ln:Int)):=by have:=HBN.out;simp [IntKind.wrap,IntKind.bits,IntKind.signed];omega
      go_wp2_with fail
      go_roundw
      case rel=>
       have hb:=HBN.out
       have hyl:=HYl.out
       exact ⟨r.drop (tn+ln),z+1+tn+ln,scp s xs,Y.2.2,v4,st4,by simp;omega,⟨HS6.out,HF3.out,fun x hx=>HSm.out x (by simp [List.mem_of_mem_drop hx]),fun x hx=>HWf.out x (by simp [List.mem_of_mem_drop hx])⟩,HC4.out,HRn.out,by simp;omega,by simp;omega,by simp;omega,by omega,by simp;omega,HT4.out,HO4.out⟩
      case measure=>simp [lenOf];omega
     ·have HE2:Hid (RES=Y):=by
       have h3:=blkE_else (r:=r) (a:=z) (tk1:=X.2.2) HE.out (by rw [<-HX.out];exact HX1.out) (by rw [<-HX.out]) (by rw [<-HY.out];exact hY1)
       show RES=Y
       rw [HRES.out,h3,<-HY.out]
      have HY1:=hide hY1
      rw [errV_ne hY1]
      clear hY1 hi4 q5'
      go_wp2_with fail
      refine leaves_cons (f:=177) (args:=#[.pointer (some ⟨E.C,0,none⟩)]) (by simp) (by simp [go_sem]) ?_
      refine (closeK HC4.out .returning).mono ?_
      rintro e u' w'' ⟨rfl,⟨u2,rfl⟩,v2,hc2,ht2,ho2⟩
      exact ⟨_,results_tmp rfl _ _ _,ret_val (by rw [HE2.out,errV_ne HY1.out];rfl),⟨v2,tk4,st4,hc2,fun h=>absurd h (by rw [HE2.out];exact HY1.out),fun k hk=>HO4.out k (ho2 ▸ hk)⟩,HT4.out.trans (ht2.mono (fun k h=>.inl h))⟩
    ·have HE:Hid (RES=X):=by
      have h1:=HRES.out
      have h2:=HX.out
      have h3:=blkE_then (r:=r) (a:=z) HE.out (by rw [<-h2];exact hX1)
      show RES=X
      rw [h1,h3,<-h2]
     have HX1:Hid (X.1≠0):=hX1
     rw [errV_ne hX1]
     clear hX1 hi3 q4 q5
     go_wp2_with fail
     refine leaves_cons (f:=177) (args:=#[.pointer (some ⟨E.C,0,none⟩)]) (by simp) (by simp [go_sem]) ?_
     refine (closeK HC3.out .returning).mono ?_
     rintro e u' w'' ⟨rfl,⟨u2,rfl⟩,v2,hc2,ht2,ho2⟩
     exact ⟨_,results_tmp rfl _ _ _,ret_val (by rw [HE.out,errV_ne HX1.out];rfl),⟨v2,tk3,st3,hc2,fun h=>absurd h (by rw [HE.out];exact HX1.out),fun k hk=>HO3.out k (ho2 ▸ hk)⟩,HT3.out.trans (ht2.mono (fun k h=>.inl h))⟩
   ·have HE:Hid (RES=(stmtE E.t SC tk1 s,z,tk1)):=HRES.out.trans (blkE_bad hE)
    have HE0:=hide hE
    rw [errV_ne hE]
    generalize stmtE E.t SC tk1 s=zz at HE HE0 ⊢
    clear hE himp n4 n5
    go_wp2_with fail
    refine leaves_cons (f:=177) (args:=#[.pointer (some ⟨E.C,0,none⟩)]) (by simp) (by simp [go_sem]) ?_
    refine (closeK HC2.out .returning).mono ?_
    rintro e u' w'' ⟨rfl,⟨u2,rfl⟩,v2,hc2,ht2,ho2⟩
    exact ⟨_,results_tmp rfl _ _ _,ret_val (by rw [HE.out,errV_ne HE0.out];rfl),⟨v2,tk2,z,hc2,fun h=>absurd h (by rw [HE.out];exact HE0.out),fun k hk=>HO.out k (ho2 ▸ hk)⟩,HT2.out.trans (ht2.mono (fun k h=>.inl h))⟩
theorem dupP_hit {gs:List Gl} {seen:List ByteArray} {p:ByteArray} {r:List ByteArray} (h:inS seen p=true∨0<=globI gs p):dupP gs seen (p::r)=true:=by unfold dupP;rw [if_pos h]
theorem dupP_step {gs:List Gl} {seen:List ByteArray} {p:ByteArray} {r:List ByteArray} (h : ¬(inS seen p=true∨0<=globI gs p)):dupP gs seen (p::r)=dupP gs (seen++[p]) r:=by rw [dupP,if_neg h]
theorem dupP_nil (gs:List Gl) (seen:List ByteArray):dupP gs seen []=false:=rfl
theorem drop_cons_ {α:Type} (l:List α) (j:Nat) (h:j<l.length):l.drop j=l[j]::l.drop (j+1):=(List.getElem_cons_drop h).symm
theorem functionK {E:Ev} {w:World} {v:Value} {bt:Nat} {i:Nat} (h:Cs E w [] [] v bt [] (i:Int) (-1)) (hgf:E.gf=globF E.t.globals) (hgp:E.gp=fun s=>decide (0<=globI E.t.globals s)) (hp : ∀g∈E.t.globals,0<=g.size) (hfl:E.t.funcs.length<=1048576)
  (f:Fu) (vp vb:Value) (hps:Strs E.w0 vp f.params) (hbd:Bd E vb f.body) (hwp : ∀s∈f.params,s.size<=9223372036854775807) (hpl:f.params.length<=1000) (hbl:f.body.length<=1000) :
  Calls Tryz.prog 158 #[.pointer (some ⟨E.C,0,none⟩),.agg #[.string f.name,vp,vb]] w fun e w'=>e = .returned (errV (bodyE E.t i f).1 (i:Int) (bodyE E.t i f).2.2) /\
   (∃v' tk' st',Cs E w' [] [] v' bt tk' (i:Int) st'/\(∀k,v'.ownBlock=some k->v.ownBlock=some k∨w.heap.size<=k))/\Tcs (Sb E v bt) w w':=by
 have HCs:=hide h
 have HGF:=hide hgf
 have HGP:=hide hgp
 have HGQ:Hid (∀s,(E.gp s=true)=(0<=globI E.t.globals s)):=fun s=>by rw [hgp];simp
 have HP:=hide hp
 have HBd:=hide hbd
 have HWP:=hide hwp
 obtain ⟨RES,hRES⟩ : ∃R,R=bodyE E.t i f:=⟨_,rfl⟩
 rw [<-hRES]
 have HRES:=hide hRES
 obtain ⟨ab,cb,rfl,-⟩:=hbd.st
 obtain ⟨ap,cp,rfl,-,-,hpc⟩:=hps
 have HPC:Hid (0<f.params.length->∃b off,ap=some ⟨b,off,none⟩/\StrsC E.w0 b off f.params):=hpc
 obtain ⟨W0,hW0⟩ : ∃W0,W0=w.alloc (.cells #[.string f.name,.slice ap f.params.length cp,.slice ab f.body.length cb] 64):=⟨_,rfl⟩
 obtain ⟨M,hM⟩ : ∃M,M=w.heap.size:=⟨_,rfl⟩
 have hA:Bl w W0:=by rw [hW0];exact (Below.refl _ _).alloc (Nat.le_refl _) _
 have HCa:Hid (Cs E W0 [] [] v bt [] (i:Int) (-1)):=h.below hA
 have m1:W0.cell? ⟨M,1,none⟩=some (.slice ap f.params.length cp):=by rw [hW0,hM];simp
 have m2:W0.cell? ⟨M,2,none⟩=some (.slice ab f.body.length cb):=by rw [hW0,hM];simp
 have hM0:M<W0.heap.size:=by rw [hW0,hM];simp
 have HMS:Hid (¬Sb E v bt M):=by
  show ¬_
  rintro (q | q | q)
  ·have:=h.ltC;omega
  ·have:=h.lt bt (by simp);omega
  ·have:=(h.rlt _ q).2;omega
 have hMt:M≠bt:=by have:=h.lt bt (by simp);omega
 have HT0:Hid (Tcs (Sb E v bt) w W0):=hA.tcs
 have hw0:w.heap.size<=W0.heap.size:=hA.size
 clear h hbd hgf hgp hp hRES hpc hwp hA HCs
 go_enter_defers Tryz.func158,Tryz.ntmps158
 go_wp2_with fail
 rw [<-hW0,<-hM]
 clear hW0
 refine (openK HCa.out (by simp)).mono ?_
 rintro e w1 ⟨⟨u,rfl⟩,v1,hc1,ht1,ho1⟩
 obtain ⟨b,hb⟩ : ∃b,b=W0.heap.size:=⟨_,rfl⟩
 rw [<-hb] at hc1
 have HC1:=hide hc1
 have HT1:Hid (Tcs (Sb E v bt) w w1):=HT0.out.next ht1 (fun x hx=>.inl hx)
 have HO1:Hid (∀k,v1.ownBlock=some k->v.ownBlock=some k∨w.heap.size<=k):=fun k hk=>by
  rcases ho1 k hk with q | q
  ·exact .inl q
  ·exact .inr o_
 have n1:w1.cell? ⟨M,1,none⟩=some (.slice ap f.params.length cp):=(ht1.cell hM0 HMS.out 1).trans m1
 have n2:w1.cell? ⟨M,2,none⟩=some (.slice ab f.body.length cb):=(ht1.cell hM0 HMS.out 2).trans m2
 have hM1:M<w1.heap.size:=Nat.lt_of_lt_of_le hM0 ht1.size
 have hMb:M≠b:=by omega
 have hwb:w.heap.size<=b:=by omega
 clear hc1 ht1 ho1 m1 m2 hM HT0 HCa hb
 go_wp2_with fail
 go_loopw [18] (fun j wr=>∃(k:Nat),k<=f.params.length/\j = .int .i64 k/\Cs E wr ([]++[f.params.take k]) ([]++[b]) v1 bt (f.params.take k) (i:Int) (-1)/\dupP E.t.globals [] f.params=dupP E.t.globals (f.params.take k) (f.params.drop k)/\wr.cell? ⟨M,2,none⟩=some (.slice ab f.body.length cb)/\M<wr.heap.size/\Tcs (Sb E v bt) w wr) (fun j _=>f.params.length-(RowKit.intOf j).toNat)
 case atStart=>exact ⟨0,Nat.zero_le _,rfl,by simpa using HC1.out,by simp,n2,hM1,HT1.out⟩
 case round=>
  clear n1 n2 hM1 HC1 HT1 hM0
  obtain ⟨k,hk,rfl,hc,hd,n2,hM1,ht⟩:=hrel
  have HC:=hide hc
  have HD:=hide hd
  have HT:=hide ht
  clear hd ht
  by_cases hlt:k<f.params.length
  ·obtain ⟨bp,op,rfl,hcp⟩:=HPC.out o_
   have d0:=(hc.base.cell (p:=⟨bp,op+k,none⟩) (World.block_lt_of_cell? _ _ (hcp k hlt))).trans (hcp k hlt)
   have hZ:f.params[k].size<=maxLen:=by have:=HWP.out _ (List.getElem_mem hlt);unfold maxLen;omega
   have HD2:Hid (dupP E.t.globals [] f.params=dupP E.t.globals (f.params.take k) (f.params[k]::f.params.drop (k+1))):=by show _=_;rw [HD.out,drop_cons_ _ _ hlt]
   have HTk:=hide (take_succ _ _ hlt)
   have htl:(f.params.take k).length<=1000:=by simp;omega
   clear hcp hc HD
   generalize f.params[k]=p at d0 hZ HD2 HTk
   by_cases hx:inS (f.params.take k) p=true∨0<=globI E.t.globals p
   ·have HE:Hid (RES=(2,(i:Int),-1)):=by
     show _=_
     rw [HRES.out]
     unfold bodyE
     rw [if_pos (by rw [HD2.out];exact dupP_hit hx)]
    have HX:Hid (inS (f.params.take k) p=true∨E.gp p=true):=by
     show _∨_
     rw [HGQ.out];exact hx
    clear hx
    go_wp2_with fail
    refine (takeOld HC.out hZ HX.out).mono ?_
    rintro e w2 ⟨rfl,hw⟩
    rw [hw,errV_ne (by decide)]
    clear hw
    go_wp2_with fail
    refine leaves_cons (f:=177) (args:=#[.pointer (some ⟨E.C,0,none⟩)]) (by simp) (by simp [go_sem]) ?_
    refine (closeK HC.out .returning).mono ?_
    rintro e u' w'' ⟨rfl,⟨u2,rfl⟩,v2,hc2,ht2,ho2⟩
    exact ⟨_,results_tmp rfl _ _ _,ret_val (by rw [HE.out];rfl),⟨v2,_,_,hc2,fun k hk=>HO1.out k (ho2 ▸ hk)⟩,HT.out.trans (ht2.mono (fun k h=>.inl h))⟩
   ·have HX:Hid (¬(inS (f.params.take k) p=true∨E.gp p=true)):=by
     show ¬(_∨_)
     rw [HGQ.out];exact hx
    have HDn:Hid (dupP E.t.globals [] f.params=dupP E.t.globals (f.params.take (k+1)) (f.params.drop (k+1))):=by show _=_;rw [HD2.out,dupP_step hx,HTk.out]
    clear hx
    go_wp2_with fail
    refine (takeNew HC.out hZ o_ HX.out).mono ?_
    rintro e w2 ⟨rfl,hc2,ht2⟩
    have HC2:Hid (Cs E w2 ([]++[f.params.take k]) ([]++[b]) v1 bt (f.params.take k++[p]) (i:Int) (-1)):=hc2
    have x2:w2.cell? ⟨M,2,none⟩=some (.slice ab f.body.length cb):=(ht2.cell hM1 hMt 2).trans n2
    have hM2:M<w2.heap.size:=Nat.lt_of_lt_of_le hM1 ht2.size
    have HT2:Hid (Tcs (Sb E v bt) w w2):=HT.out.trans (ht2.mono (fun k h=>.inr (.inl h)))
    clear hc2 ht2 n2 hM1
    go_wp2_with fail
    refine (addK HC2.out hZ o_).mono ?_
    rintro e w3 ⟨⟨u3,rfl⟩,hc3,ht3⟩
    have HC3:Hid (Cs E w3 ([]++[f.params.take (k+1)]) ([]++[b]) v1 bt (f.params.take (k+1)) (i:Int) (-1)):=by
     have:=hc3
     rw [<-HTk.out] at this
     exact this
    have x3:w3.cell? ⟨M,2,none⟩=some (.slice ab f.body.length cb):=(ht3.cell hM2 hMb 2).trans x2
    have hM3:M<w3.heap.size:=Nat.lt_of_lt_of_le hM2 ht3.size
    have HT3:Hid (Tcs (Sb E v bt) w w3):=HT2.out.next ht3 (fun x hx=>.inr o_)
    clear hc3 ht3 x2 hM2
    go_wp2_with fail
    go_roundw
    case rel=>exact ⟨k+1,by omega,by go_num,HC3.out,HDn.out,x3,hM3,HT3.out⟩
    case measure=>simp [RowKit.intOf];omega
  ·have hkk:k=f.params.length:=by omega
   subst hkk
   have HD0:Hid (dupP E.t.globals [] f.params=false):=by show _=_;rw [HD.out];simp [dupP_nil]
   have HCf:Hid (Cs E wr [f.params] [b] v1 bt f.params (i:Int) (-1)):=by
    have:=HC.out
    rw [List.take_length] at this
    exact this
   have HFl:Hid ([f.params].flatten=f.params):=by show _=_;simp
   clear HD HC hc
   go_wp2_with fail
   refine (blockK _ E wr [f.params] [b] v1 bt f.params (i:Int) (-1) f.body _ 0 (Nat.le_refl _) HCf.out HBd.out HGF.out HGP.out HP.out hfl (by simp;omega) o_ o_ o_).mono ?_
   rintro e w2 ⟨rfl,⟨v2,tk2,st2,hc2,hi2,ho2⟩,ht2⟩
   rw [HFl.out]
   have HC2:Hid (Cs E w2 ([]++[f.params]) ([]++[b]) v2 bt tk2 (i:Int) st2):=hc2
   have HT2:Hid (Tcs (Sb E v bt) w w2):=HT.out.next ht2 (Sb_next HO1.out)
   have hwr:=HT.out.size
   have HO2:Hid (∀k,v2.ownBlock=some k->v.ownBlock=some k∨w.heap.size<=k):=fun k hk=>by
    rcases ho2 k hk with q | q
    ·exact HO1.out k q
    ·exact .inr o_
   have HE:Hid (errV (blkE E.t f.body 0 f.params f.params).1 (i:Int) (blkE E.t f.body 0 f.params f.params).2.1=errV RES.1 (i:Int) RES.2.2):=by
    show _=_
    rw [HRES.out]
    unfold bodyE
    rw [if_neg (by rw [HD0.out];simp)]
    by_cases q:(blkE E.t f.body 0 f.params f.params).1=0
    ·rw [if_neg (by simp [q]),q];rfl
    ·rw [if_pos q]
   rw [HE.out]
   obtain ⟨ev,hev⟩ : ∃ev,ev=errV RES.1 (i:Int) RES.2.2:=⟨_,rfl⟩
   rw [<-hev]
   have HV:=hide hev
   clear hc2 hi2 ho2 ht2 n2 hev
   go_wp2_with fail
   refine leaves_cons (f:=177) (args:=#[.pointer (some ⟨E.C,0,none⟩)]) (by simp) (by simp [go_sem]) ?_
   refine (closeK HC2.out .returning).mono ?_
   rintro e u' w'' ⟨rfl,⟨u2,rfl⟩,v3,hc3,ht3,ho3⟩
   exact ⟨_,results_tmp rfl _ _ _,ret_val (by rw [<-HV.out];rfl),⟨v3,_,_,hc3,fun k hk=>HO2.out k (ho3 ▸ hk)⟩,HT2.out.trans (ht3.mono (fun k h=>.inl h))⟩
end Go.Proofs.YtnpidjamplmgjaaGreatDoor
