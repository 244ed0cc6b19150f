import Derived.Test.YtmddmgpijpjpbaaGreatDoorR17
import Derived.BigQuiet
import Derived.Deep.RegionHeld3
import Derived.Deep.RegionHeld
import Derived.Deep.Cut
set_option linter.unusedSectionVars false
variable [Inhabited Go.Proofs.YtmddmgpijpjpbaaGreatDoor.Pick]
namespace Go.Proofs.YtmddmgpijpjpbaaGreatDoor
open Go.RowKit
set_option linter.unusedVariables false
set_option linter.unusedSimpArgs false
set_option maxRecDepth 100000
set_option maxHeartbeats 16000000
theorem foldedBody_any (v:Value) (ss rs:List St) (w:World) (hT:Tab w) (hS:Stmts w v ss) (hF:FoldB ss rs) (hl:ss.length<=1048576) (hle : ∀s∈ss,s.e.length<=1048576/\s.f.length<=1048576) :
  Calls Tryz.prog 72 #[v] w fun e w'=>∃u,e = .returned u/\Stmts w' u rs/\Below w.heap.size w w':=by
 have HT:=hide hT
 have hsz:=hT.size
 have HF:=hide hF
 have HLe:=hide hle
 obtain ⟨a,cap,R,rfl,hRl,hRs,hcell,hnone⟩:=stmts_sv hS
 have HRs:=hide hRs
 have hone : ∀q∈R,q.ve.oneCell'=true/\q.vf.oneCell'=true:=fun q hq=>by
  obtain ⟨j,hj,rfl⟩:=List.mem_iff_getElem.1 hq
  obtain ⟨-,h1,h2⟩:=hRs j (by omega) hj
  exact ⟨h1.cell1,h2.cell1⟩
 have HC:=hide (clone_stm a ss.length cap (flatS R) w hnone (by rw [flatS_len,hRl]) hcell (flatS_one R hone) (by omega))
 clear hT hS hF hle hRs hone hcell hnone
 go_enter Tryz.func72,Tryz.ntmps72
 go_wp2_with fail
 refine HC.out.mono ?_
 rintro x w1 ⟨u,rfl,hrow,hb1⟩
 have hI0:FoldI w w1.heap.size ss rs 0 R w1 u:=⟨hRl,hrow,fun j h h' h0=>absurd h0 (by omega),fun j h h' _=>HRs.out j h' h⟩
 have HI0:=hide hI0
 have HB1:=hide hb1
 have hs1:=hb1.size
 obtain ⟨ua,uc,rfl⟩ : ∃ua uc,u = .slice ua ss.length uc:=by
  rcases hrow.2 with ⟨rfl,h⟩ | ⟨g,cp,cur,rfl,_⟩
  ·exact ⟨_,_,by rw [h]⟩
  ·exact ⟨_,_,rfl⟩
 have hg1 : ∀ad,ua=some ad->ad.block<w1.heap.size:=fun ad h=>(World.ownsRow.lt hrow ad.block (by rw [h];rfl)).2
 have HG1:=hide hg1
 clear hrow hI0 HC hg1 hb1
 go_wp2_with fail
 go_loopw [10] (fun i wr=>∃(k:Nat) (Q:List SV),k<=ss.length/\i = .int .i64 k/\FoldI w w1.heap.size ss rs k Q wr (.slice ua ss.length uc)/\Bl w wr/\w1.heap.size<=wr.heap.size) (fun i _=>ss.length-(RowKit.intOf i).toNat)
 case atStart=>exact ⟨0,R,Nat.zero_le _,rfl,HI0.out,HB1.out,Nat.le_refl _⟩
 case round=>
  obtain ⟨k,Q,hk,rfl,hI,hbr,hsr⟩:=hrel
  have HI:=hide hI
  clear HI0 HB1
  by_cases hlt:k<ss.length
  ·have hrl:rs.length=ss.length:=HF.out.1
   have hkr:k<rs.length:=by omega
   have hkQ:k<Q.length:=by rw [hI.len];exact hlt
   obtain ⟨g,rfl⟩ : ∃g,ua=some ⟨g,0,none⟩:=by
    rcases hI.row.2 with ⟨_,h⟩ | ⟨g,cp,cur,h,_⟩
    ·omega
    ·cases h;exact ⟨g,rfl⟩
   have hgl:g<w1.heap.size:=HG1.out _ rfl
   have hgw:w.heap.size<=g:=(World.ownsRow.lt hI.row g rfl).1
   obtain ⟨t1,t2,t3⟩:=hI.todo k hkQ hlt (Nat.le_refl _)
   have hc : ∀i,i<6->wr.cell? ⟨g,k*6+i,none⟩=(cellsS Q[k])[i]? := fun i hi=>by
    rw [hI.row.cellAt (k*6+i) (by omega),flatS_get Q k i hkQ hi]
   have hfz : ∀j,wr.frozen? ⟨g,j,none⟩=false:=fun j=>hI.row.frozenAt j
   obtain ⟨ve,hve⟩ : ∃ve,Q[k].ve=ve:=⟨_,rfl⟩
   obtain ⟨vf,hvf⟩ : ∃vf,Q[k].vf=vf:=⟨_,rfl⟩
   rw [hve] at t2
   rw [hvf] at t3
   have c0:wr.cell? ⟨g,k*6,none⟩=some (.int .i64 Q[k].s.kind):=hc 0 (by omega)
   have c1:wr.cell? ⟨g,k*6+1,none⟩=some (.string Q[k].s.name):=hc 1 (by omega)
   have c2:wr.cell? ⟨g,k*6+2,none⟩=some ve:=by rw [<-hve];exact hc 2 (by omega)
   have c3:wr.cell? ⟨g,k*6+3,none⟩=some vf:=by rw [<-hvf];exact hc 3 (by omega)
   have c4:wr.cell? ⟨g,k*6+4,none⟩=some (.int .i64 Q[k].s.thn):=hc 4 (by omega)
   have c5:wr.cell? ⟨g,k*6+5,none⟩=some (.int .i64 Q[k].s.els):=hc 5 (by omega)
   obtain ⟨kk,hkk⟩ : ∃kk,Q[k].s.kind=kk:=⟨_,rfl⟩
   obtain ⟨nm,hnm⟩ : ∃nm,Q[k].s.name=nm:=⟨_,rfl⟩
   obtain ⟨tn,htn⟩ : ∃tn,Q[k].s.thn=tn:=⟨_,rfl⟩
   obtain ⟨es,hes⟩ : ∃es,Q[k].s.els=es:=⟨_,rfl⟩
   rw [hkk] at c0
   rw [hnm] at c1
   rw [htn] at c4
   rw [hes] at c5
   obtain ⟨fl1,fl2⟩:=HLe.out _ (List.getElem_mem hlt)
   obtain ⟨-,-,-,-,fr1,fr2⟩:=HF.out.2 k hlt hkr
   have HFe:Hid (∀W,Bl w W->Calls Tryz.prog 112 #[ve] W fun e w'=>∃b1 n1 k1,e = .returned (.slice (some ⟨b1,0,none⟩) n1 k1)/\NFree W.heap.size w' (.slice (some ⟨b1,0,none⟩) n1 k1) rs[k].e/\Bl W w'):=fun W hW=>by
    refine (foldI_any ve _ _ W (HT.out.below hsz hW) fl1 (t2.below hW) fr1).mono ?_
    rintro x w' ⟨u,rfl,hn,hb⟩
    obtain ⟨b1,k1,rfl,h⟩:=hn
    exact ⟨b1,_,k1,rfl,⟨b1,k1,rfl,h⟩,hb⟩
   have HFf:Hid (∀W,Bl w W->Calls Tryz.prog 112 #[vf] W fun e w'=>∃b1 n1 k1,e = .returned (.slice (some ⟨b1,0,none⟩) n1 k1)/\NFree W.heap.size w' (.slice (some ⟨b1,0,none⟩) n1 k1) rs[k].f/\Bl W w'):=fun W hW=>by
    refine (foldI_any vf _ _ W (HT.out.below hsz hW) fl2 (t3.below hW) fr2).mono ?_
    rintro x w' ⟨u,rfl,hn,hb⟩
    obtain ⟨b1,k1,rfl,h⟩:=hn
    exact ⟨b1,_,k1,rfl,⟨b1,k1,rfl,h⟩,hb⟩
   obtain ⟨av,nv,kv,rfl⟩ : ∃a n c,ve = .slice a n c:=by obtain ⟨a,c,h,-⟩:=t2;exact ⟨_,_,_,h⟩
   obtain ⟨af,nf,kf,rfl⟩ : ∃a n c,vf = .slice a n c:=by obtain ⟨a,c,h,-⟩:=t3;exact ⟨_,_,_,h⟩
   have hgr:g<wr.heap.size:=by omega
   obtain ⟨W0,hW0⟩ : ∃W0,W0=wr.alloc (.cells #[.int .i64 kk,.string nm,.slice av nv kv,.slice af nf kf,.int .i64 tn,.int .i64 es] 117):=⟨_,rfl⟩
   have hb0:Bl wr W0:=by rw [hW0];exact (Below.refl _ _).alloc (Nat.le_refl _) _
   have hs0:W0.heap.size=wr.heap.size+1:=by rw [hW0];simp
   have HY:Hid (∀W,Bl W0 W->W.cell? ⟨wr.heap.size,2,none⟩=some (.slice av nv kv)/\W.cell? ⟨wr.heap.size,3,none⟩=some (.slice af nf kf)):=fun W hW=>by
    rw [hW.cell (p:=⟨wr.heap.size,2,none⟩) (by simp;omega),hW.cell (p:=⟨wr.heap.size,3,none⟩) (by simp;omega),hW0]
    exact ⟨by simp,by simp⟩
   have HGc:Hid (∀W,Bl W0 W->(W.cell? ⟨g,k*6+2,none⟩=some (.slice av nv kv)/\W.cell? ⟨g,k*6+3,none⟩=some (.slice af nf kf))/\∀j,W.frozen? ⟨g,j,none⟩=false):=fun W hW=>by
    have hb:=hb0.trans (hW.mono hb0.size)
    refine ⟨⟨(hb.cell (p:=⟨g,k*6+2,none⟩) hgr).trans c2,(hb.cell (p:=⟨g,k*6+3,none⟩) hgr).trans c3⟩,fun j=>(World.frozen?_of_block (a:=⟨g,j,none⟩) (hb.block g hgr)).trans (hfz j)⟩
   have HW0:=hide hW0
   have HB0:=hide hb0
   have HD1:Hid (Bl W0 W0.drew):=(Below.refl _ _).drew
   have HBw:=hide fun W (hW:Bl W0 W)=>hbr.trans ((hb0.trans (hW.mono hb0.size)).mono hbr.size)
   have hs0':wr.heap.size+1<=W0.heap.size:=by omega
   have gne:wr.heap.size≠g:=by omega
   have gne' : ¬g=wr.heap.size:=by omega
   have HK:Hid (∀(W:World) (x:Nat) (y:Value),(W.cell? ⟨wr.heap.size,2,none⟩=some (.slice av nv kv)/\W.cell? ⟨wr.heap.size,3,none⟩=some (.slice af nf kf))->(W.setCell ⟨g,x,none⟩ y).cell? ⟨wr.heap.size,2,none⟩=some (.slice av nv kv)/\(W.setCell ⟨g,x,none⟩ y).cell? ⟨wr.heap.size,3,none⟩=some (.slice af nf kf)):=fun W x y h=>⟨(World.cell?_of_block (a:=⟨wr.heap.size,2,none⟩) (Below.heap_setCell W ⟨g,x,none⟩ y _ gne)).trans h.1,(World.cell?_of_block (a:=⟨wr.heap.size,3,none⟩) (Below.heap_setCell W ⟨g,x,none⟩ y _ gne)).trans h.2⟩
   have i1:(0:Int)<=(k:Int):=by omega
   have i2:(k:Int)<(ss.length:Int):=by omega
   clear hI t1 t2 t3 hc hve hvf hkk hnm htn hes fl1 fl2 fr1 fr2 hW0 hs0 hb0
   go_upto_region 5 with fail
   rw [<-HW0.out]
   obtain ⟨y2,y3⟩:=HY.out _ HD1.out
   obtain ⟨⟨z2,z3⟩,zf⟩:=HGc.out _ HD1.out
   go_region_held3 (fun W=>W.cell? ⟨wr.heap.size,2,none⟩=some (.slice av nv kv)/\W.cell? ⟨wr.heap.size,3,none⟩=some (.slice af nf kf)) (first | go_keep | exact HK.out _ _ _ q | exact HK.out _ _ _ (HK.out _ _ _ q))
    (first
    | ((with_reducible refine Calls.mono (HFe.out _ (HBw.out _ HD1.out)) ?_);intro x wt hx;obtain ⟨b1,n1,k1,hxe,ht1,hbt0⟩:=hx;subst hxe;have hbt:Bl W0 wt:=HD1.out.trans (hbt0.mono (by simp));have q:=HY.out wt hbt)
    | ((with_reducible refine Calls.mono (HFf.out _ (HBw.out _ hbt)) ?_);intro x wo hx;obtain ⟨b2,n2,k2,hxe,ht2,hbo0⟩:=hx;subst hxe;have hbo:Bl W0 wo:=hbt.trans (hbo0.mono hbt.size);have q:=HY.out wo hbo;obtain ⟨⟨x2,x3⟩,xf⟩:=HGc.out wo hbo))
   have hB2:Bl wr wo:=HB0.out.trans (hbo.mono HB0.out.size)
   have hsb:=hbt.size
   obtain ⟨Q',hQ'⟩:=HI.out.next HF.out hlt hkr rfl hgl hB2 (v1:=.slice (some ⟨b1,0,none⟩) n1 k1) (v2:=.slice (some ⟨b2,0,none⟩) n2 k2) ((ht1.mono (by simp;omega)).blk hbo0.size (fun x _ hx=>hbo0.block x hx)) (ht2.mono (by omega)) hsr
   have hfin:Bl w ((wo.setCell ⟨g,k*6+2,none⟩ (.slice (some ⟨b1,0,none⟩) n1 k1)).setCell ⟨g,k*6+3,none⟩ (.slice (some ⟨b2,0,none⟩) n2 k2)):=((HBw.out wo hbo).setCell (p:=⟨g,k*6+2,none⟩) hgw _).setCell (p:=⟨g,k*6+3,none⟩) hgw _
   have hss:w1.heap.size<=wo.heap.size:=by have:=hB2.size;omega
   go_wp2_with fail
   go_roundw
   case rel=>exact ⟨k+1,Q',by omega,by go_num,hQ',hfin,by simpa using hss⟩
   case measure=>simp [RowKit.intOf];omega
  ·obtain rfl:k=ss.length:=by omega
   have HSt:Hid (Stmts wr (.slice ua ss.length uc) rs):=HI.out.stmts HF.out
   go_wp2_with fail
   go_ret
   exact ⟨_,rfl,HSt.out,hbr⟩
def TidyC (N:Nat):Prop:=∀(ss:List St) (v:Value) (S:Nat->Prop) (w:World),ss.length<=N->Bk w S v ss->(∀B,S B->B<w.heap.size)->Calls Tryz.prog 71 #[v] w fun e w'=>∃u,e = .returned u/\Tid w w' S u (tidyB ss)/\Below w.heap.size w w'
theorem Tid.up {w W w':World} {S:Nat->Prop} {u:Value} {ss:List St} (h:Tid W w' S u ss) (hb:w.heap.size<=W.heap.size):Tid w w' S u ss:=by
 obtain ⟨S',M,h1,h2,h3,h4⟩:=h
 exact ⟨S',M,h1,fun B hB=>⟨Nat.le_trans hb (h2 B hB).1,(h2 B hB).2⟩,h3,h4⟩
theorem Tid.bel {w W w':World} {S:Nat->Prop} {u:Value} {ss:List St} (h:Tid w W S u ss) (hS : ∀B,S B->B<W.heap.size) (hb:Below W.heap.size W w'):Tid w w' S u ss:=by
 obtain ⟨S',M,h1,h2,h3,h4⟩:=h
 refine ⟨S',M,h1.bel (fun B hB => ?_) hb,fun B hB=>⟨(h2 B hB).1,Nat.lt_of_lt_of_le (h2 B hB).2 hb.size⟩,h3,h4⟩
 rcases hB with hB | hB
 ·exact hS B hB
 ·exact (h2 B hB).2
theorem Tid.slice {w w':World} {S:Nat->Prop} {u:Value} {ss:List St} (h:Tid w w' S u ss) : ∃a n c,u = .slice a n c:=by
 obtain ⟨S',M,h1,-⟩:=h
 obtain ⟨a,cap,rfl,-⟩:=h1.args
 exact ⟨_,_,_,rfl⟩
theorem tid_one {w w1:World} {S S1:Nat->Prop} {x:Value} {l:List St} (t:TypeId) (hx:Bv w1 (fun B=>S B∨S1 B) x l) (hS : ∀B,S B->B<w.heap.size) (hS1 : ∀B,S1 B->w.heap.size<=B/\B<w1.heap.size) (hb:Below w.heap.size w w1):Tid w (w1.alloc (.cells #[x] t)) S (.slice (some ⟨w1.heap.size,0,none⟩) 1 1) l:=by
 have hk : ∀B,B<w1.heap.size->(w1.alloc (.cells #[x] t)).heap[B]? = w1.heap[B]? := fun B hB=>((Below.refl w1.heap.size w1).alloc (Nat.le_refl _) _).block B hB
 refine ⟨fun B=>S1 B∨B=w1.heap.size,[(x,l)],⟨⟨_,1,rfl,Nat.le_refl _,by omega,fun _=>⟨w1.heap.size,rfl,.inr (.inr rfl),fun i hi => ?_⟩⟩,fun q hq => ?_⟩,fun B hB => ?_,by simp [flatL],RetLast.one _⟩
 ·have:i=0:=by simp at hi;omega
  subst this
  simp
 ·simp only [List.mem_singleton] at hq
  subst hq
  refine hx.keep (fun B hB => ?_) (fun B hB=>hk B ?_)
  ·rcases hB with hB | hB
   ·exact .inl hB
   ·exact .inr (.inl hB)
  ·rcases hB with hB | hB
   ·exact Nat.lt_of_lt_of_le (hS B hB) hb.size
   ·exact (hS1 B hB).2
 ·rcases hB with hB | rfl
  ·exact ⟨(hS1 B hB).1,by have:=(hS1 B hB).2;simp;omega⟩
  ·exact ⟨hb.size,by simp⟩
theorem bv_if {w:World} {S S1 S2:Nat->Prop} (s:St) {x u1 u2:Value} {M1 M2:List (Value × List St)} (hx:Tv w S x s.e) (hk:s.kind=4) (h1:BkL w (fun B=>S B∨S1 B) u1 M1) (h2:BkL w (fun B=>S B∨S2 B) u2 M2) :
  Bv w (fun B=>S B∨(S1 B∨S2 B)) (.iface 203 (.agg #[x,u1,u2])) ({s with thn:=(flatL M1).length,els:=(flatL M2).length}::(flatL M1++flatL M2)):=by
 have k1:BkL w (fun B=>S B∨(S1 B∨S2 B)) u1 M1:=h1.keep (fun B hB=>by rcases hB with hB | hB;exact .inl hB;exact .inr (.inl hB)) (fun _ _=>rfl)
 have k2:BkL w (fun B=>S B∨(S1 B∨S2 B)) u2 M2:=h2.keep (fun B hB=>by rcases hB with hB | hB;exact .inl hB;exact .inr (.inr hB)) (fun _ _=>rfl)
 obtain ⟨p1,p2,p3⟩:=k1.parts
 obtain ⟨q1,q2,q3⟩:=k2.parts
 rw [<-p3,<-q3]
 exact .ifs {s with thn:=_,els:=_} x u1 u2 _ _ _ _ _ _ hk (hx.keep (fun _ h=>.inl h) (fun _ _=>rfl)) p1 p2 q1 q2 rfl rfl
theorem bv_while {w:World} {S S1:Nat->Prop} (s:St) {x u1:Value} {M1:List (Value × List St)} (hx:Tv w S x s.e) (hk:s.kind=5) (h1:BkL w (fun B=>S B∨S1 B) u1 M1) :
  Bv w (fun B=>S B∨S1 B) (.iface 205 (.agg #[x,u1])) ({s with thn:=(flatL M1).length,els:=0}::flatL M1):=by
 obtain ⟨p1,p2,p3⟩:=h1.parts
 rw [<-p3]
 exact .whil {s with thn:=_,els:=_} x u1 _ _ _ hk (hx.keep (fun _ h=>.inl h) (fun _ _=>rfl)) p1 p2 rfl rfl
theorem settled_plain (t:TypeId) (x:Value) (h1:t≠203) (h2:t≠205) (w:World) :
  Calls Tryz.prog 110 #[.iface t x] w fun e w'=>e = .returned (.slice (some ⟨w.heap.size,0,none⟩) 1 1)/\w'=w.alloc (.cells #[.iface t x] 153):=by
 have a1:=fun W=>sa_if_no W t x h1
 have a2:=fun W=>sa_while_no W t x h2
 go_enter Tryz.func110,Tryz.ntmps110
 go_wp2_with fail
 go_ret
 exact ⟨rfl,rfl⟩
theorem settled_if (N:Nat) (IH:TidyC N) (s:St) (x va vb:Value) (La Lb:List (Value × List St)) (S:Nat->Prop) (w:World) (hk:s.kind=4) (hx:Tv w S x s.e) (ha:BkL w S va La) (hb:BkL w S vb Lb) (hla:(flatL La).length<=N) (hlb:(flatL Lb).length<=N) (hS : ∀B,S B->B<w.heap.size) :
  Calls Tryz.prog 110 #[.iface 203 (.agg #[x,va,vb])] w fun e w'=>∃u,e = .returned u/\Tid w w' S u (moreS s (tidyB (flatL La)) (tidyB (flatL Lb)))/\Below w.heap.size w w':=by
 have HX:=hide hx
 have HA:=hide ha
 have HB:=hide hb
 have HS:=hide hS
 obtain ⟨tx,yx,rfl⟩:=hx.isI
 obtain ⟨aa,ca,rfl,-⟩:=ha.args
 obtain ⟨ab,cb,rfl,-⟩:=hb.args
 obtain ⟨ra,hra⟩ : ∃ra,ra=tidyB (flatL La):=⟨_,rfl⟩
 obtain ⟨rb,hrb⟩ : ∃rb,rb=tidyB (flatL Lb):=⟨_,rfl⟩
 obtain ⟨W0,hW0⟩ : ∃W0,W0=w.alloc (.cells #[.iface tx yx,.slice aa La.length ca,.slice ab Lb.length cb] 203):=⟨_,rfl⟩
 have hb0:Bl w W0:=by rw [hW0];exact (Below.refl _ _).alloc (Nat.le_refl _) _
 have hs0:W0.heap.size=w.heap.size+1:=by rw [hW0];simp
 have HT:Hid (∀W,Bl W0 W->Calls Tryz.prog 71 #[.slice aa La.length ca] W fun e w'=>∃a1 n1 c1,e = .returned (.slice a1 n1 c1)/\Tid w w' S (.slice a1 n1 c1) ra/\Bl W w'):=fun W hW=>by
  have hbW:=hb0.trans (hW.mono hb0.size)
  refine (IH (flatL La) _ S W hla (HA.out.bel hS hbW).bk (fun B hB=>Nat.lt_of_lt_of_le (hS B hB) hbW.size)).mono ?_
  rintro e w' ⟨u,rfl,ht,hb'⟩
  obtain ⟨a1,n1,c1,rfl⟩:=ht.slice
  exact ⟨a1,n1,c1,rfl,by rw [hra];exact ht.up hbW.size,hb'⟩
 have HO:Hid (∀W,Bl W0 W->Calls Tryz.prog 71 #[.slice ab Lb.length cb] W fun e w'=>∃a1 n1 c1,e = .returned (.slice a1 n1 c1)/\Tid w w' S (.slice a1 n1 c1) rb/\Bl W w'):=fun W hW=>by
  have hbW:=hb0.trans (hW.mono hb0.size)
  refine (IH (flatL Lb) _ S W hlb (HB.out.bel hS hbW).bk (fun B hB=>Nat.lt_of_lt_of_le (hS B hB) hbW.size)).mono ?_
  rintro e w' ⟨u,rfl,ht,hb'⟩
  obtain ⟨a1,n1,c1,rfl⟩:=ht.slice
  exact ⟨a1,n1,c1,rfl,by rw [hrb];exact ht.up hbW.size,hb'⟩
 have HY:Hid (∀W,Bl W0 W->W.cell? ⟨w.heap.size,0,none⟩=some (.iface tx yx)/\W.cell? ⟨w.heap.size,1,none⟩=some (.slice aa La.length ca)/\W.cell? ⟨w.heap.size,2,none⟩=some (.slice ab Lb.length cb)):=fun W hW=>by
  rw [hW.cell (p:=⟨w.heap.size,0,none⟩) (by simp;omega),hW.cell (p:=⟨w.heap.size,1,none⟩) (by simp;omega),hW.cell (p:=⟨w.heap.size,2,none⟩) (by simp;omega),hW0]
  exact ⟨by simp,by simp,by simp⟩
 have HD1:Hid (Bl W0 W0.drew):=(Below.refl _ _).drew
 have HW0:=hide hW0
 have hlt0:w.heap.size<W0.heap.size:=by omega
 have HK:=hide hk
 have HM:Hid (moreS s (tidyB (flatL La)) (tidyB (flatL Lb))=moreS s ra rb):=by show _=_;rw [hra,hrb]
 have hs0':W0.heap.size<=w.heap.size+1/\w.heap.size+1<=W0.heap.size:=by omega
 have a1:=fun W v=>sa_if_yes W v
 clear hx ha hb hS hra hrb hW0 hk hla hlb hs0
 go_enter Tryz.func110,Tryz.ntmps110
 go_upto_region 4 with fail
 rw [<-HW0.out]
 go_cut [4,5] from 15 (fun p q W=>∃a1 n1 c1 a2 n2 c2,p = .slice a1 n1 c1/\q = .slice a2 n2 c2/\Tid w W S (.slice a1 n1 c1) ra/\Tid w W S (.slice a2 n2 c2) rb/\Bl W0 W)
 case first=>
  obtain ⟨y0,y1,y2⟩:=HY.out _ HD1.out
  go_region_held (fun W=>W.cell? ⟨w.heap.size,1,none⟩=some (.slice aa La.length ca)/\W.cell? ⟨w.heap.size,2,none⟩=some (.slice ab Lb.length cb)) (go_keep)
   (first
   | ((with_reducible refine Calls.mono (HT.out _ HD1.out) ?_);intro x wt hx;obtain ⟨a1,n1,c1,hxe,ht1,hbt0⟩:=hx;subst hxe;have hbt:Bl W0 wt:=HD1.out.trans (hbt0.mono (by simp));have q:=(HY.out wt hbt).2)
   | ((with_reducible refine Calls.mono (HO.out _ hbt) ?_);intro x wo hx;obtain ⟨a2,n2,c2,hxe,ht2,hbo0⟩:=hx;subst hxe;have hbo:Bl W0 wo:=hbt.trans (hbo0.mono hbt.size);have q:=(HY.out wo hbo).2))
  all_goals (go_wp2_with fail)
  all_goals go_meet
  ·exact ⟨_,_,_,_,_,_,rfl,rfl,ht1.bel (fun B hB=>by have:=HS.out B hB;have:=hbt.size;omega) hbo0,ht2,hbo⟩
 case rest=>
  obtain ⟨a1',n1,c1,a2',n2,c2,rfl,rfl,ht1,ht2,hbc⟩:=hcut
  have HT1:=hide ht1
  have HT2:=hide ht2
  have hbw:Bl w wc:=hb0.trans (hbc.mono hb0.size)
  obtain ⟨y0,y1,y2⟩:=HY.out wc hbc
  have hsc : ∀B,S B->B<wc.heap.size:=fun B hB=>Nat.lt_of_lt_of_le (HS.out B hB) hbw.size
  have HSc:=hide hsc
  clear ht1 ht2 hsc HT HO HY HD1 hbc
  cases hn:isN s.e with
  | some z=>
   have HN:=hide hn
   have hv:=HX.out.some hn
   simp only [Value.iface.injEq] at hv
   obtain ⟨rfl,rfl⟩:=hv
   have b1:=fun W v=>as_num_yes W v
   clear hn
   by_cases hz:z=0
   ·have HE:Hid (moreS s ra rb=rb):=by show _=_;unfold moreS;rw [if_pos HK.out,HN.out];simp [hz]
    subst hz
    go_wp2_with fail
    go_ret
    exact ⟨_,rfl,by rw [HM.out,HE.out];exact HT2.out.bel HSc.out (bel_a _ _),hbw.alloc hbw.size _⟩
   ·have HE:Hid (moreS s ra rb=ra):=by show _=_;unfold moreS;rw [if_pos HK.out,HN.out];simp [hz]
    go_wp2_with fail
    go_ret
    exact ⟨_,rfl,by rw [HM.out,HE.out];exact HT1.out.bel HSc.out (bel_a _ _),hbw.alloc hbw.size _⟩
  | none=>
   have HN:=hide hn
   obtain ⟨tt,yy,hv,htn⟩:=HX.out.none hn
   simp only [Value.iface.injEq] at hv
   obtain ⟨rfl,rfl⟩:=hv
   have b1:=fun W=>as_num_no W tx yx htn
   have HE:Hid (moreS s ra rb = {s with thn:=ra.length,els:=rb.length}::(ra++rb)):=by show _=_;unfold moreS;rw [if_pos HK.out,HN.out]
   have hlc:w.heap.size<wc.heap.size:=World.block_lt_of_cell? _ _ y0
   have y0':=fun o=>(World.cell?_alloc_lt wc o ⟨w.heap.size,0,none⟩ hlc).trans y0
   clear hn
   go_wp2_with fail
   go_ret
   refine ⟨_,rfl,?_,(hbw.alloc hbw.size _).alloc (by have:=hbw.size;simp;omega) _⟩
   rw [HM.out,HE.out]
   have hbq:Bl w (wc.alloc (.cells #[.int .i64 0] 222)):=hbw.alloc hbw.size _
   have hal:Bl wc (wc.alloc (.cells #[.int .i64 0] 222)):=bel_a _ _
   obtain ⟨S1,M1,m1,s1,f1,-⟩:=HT1.out.bel HSc.out hal
   obtain ⟨S2,M2,m2,s2,f2,-⟩:=HT2.out.bel HSc.out hal
   have q:=bv_if s (HX.out.keep (fun _ h=>h) (fun B hB=>hbq.block B (HS.out B hB))) HK.out m1 m2
   rw [f1,f2] at q
   have:=tid_one (S:=S) (S1:=fun B=>S1 B∨S2 B) 153 q HS.out (fun B hB=>by
    rcases hB with hB | hB
    ·exact s1 B hB
    ·exact s2 B hB) hbq
   simpa using this
theorem tid_nil (w w':World) (S:Nat->Prop):Tid w w' S (.slice none 0 0) []:=
 ⟨fun _=>False,[],⟨⟨none,0,rfl,Nat.le_refl _,by omega,fun h=>absurd h (Nat.lt_irrefl _)⟩,fun q hq=>by cases hq⟩,fun B hB=>hB.elim,rfl,RetLast.nil⟩
theorem settled_while (N:Nat) (IH:TidyC N) (s:St) (x va:Value) (La:List (Value × List St)) (S:Nat->Prop) (w:World) (hk:s.kind=5) (hx:Tv w S x s.e) (ha:BkL w S va La) (hla:(flatL La).length<=N) (hS : ∀B,S B->B<w.heap.size) :
  Calls Tryz.prog 110 #[.iface 205 (.agg #[x,va])] w fun e w'=>∃u,e = .returned u/\Tid w w' S u (moreS s (tidyB (flatL La)) [])/\Below w.heap.size w w':=by
 have HX:=hide hx
 have HA:=hide ha
 have HS:=hide hS
 obtain ⟨tx,yx,rfl⟩:=hx.isI
 obtain ⟨aa,ca,rfl,-⟩:=ha.args
 obtain ⟨ra,hra⟩ : ∃ra,ra=tidyB (flatL La):=⟨_,rfl⟩
 rw [<-hra]
 obtain ⟨W0,hW0⟩ : ∃W0,W0=w.alloc (.cells #[.iface tx yx,.slice aa La.length ca] 205):=⟨_,rfl⟩
 have hb0:Bl w W0:=by rw [hW0];exact (Below.refl _ _).alloc (Nat.le_refl _) _
 have hs0:W0.heap.size=w.heap.size+1:=by rw [hW0];simp
 have HT:Hid (∀W,Bl W0 W->Calls Tryz.prog 71 #[.slice aa La.length ca] W fun e w'=>∃a1 n1 c1,e = .returned (.slice a1 n1 c1)/\Tid w w' S (.slice a1 n1 c1) ra/\Bl W w'):=fun W hW=>by
  have hbW:=hb0.trans (hW.mono hb0.size)
  refine (IH (flatL La) _ S W hla (HA.out.bel hS hbW).bk (fun B hB=>Nat.lt_of_lt_of_le (hS B hB) hbW.size)).mono ?_
  rintro e w' ⟨u,rfl,ht,hb'⟩
  obtain ⟨a1,n1,c1,rfl⟩:=ht.slice
  exact ⟨a1,n1,c1,rfl,by rw [hra];exact ht.up hbW.size,hb'⟩
 have y0:W0.cell? ⟨w.heap.size,0,none⟩=some (.iface tx yx):=by rw [hW0];simp
 have y1:W0.cell? ⟨w.heap.size,1,none⟩=some (.slice aa La.length ca):=by rw [hW0];simp
 have HW0:=hide hW0
 have HK:=hide hk
 have a1:=fun W v=>sa_while_yes W v
 have a2:=fun W v=>sa_if_no W 205 v (by decide)
 have hs0':W0.heap.size<=w.heap.size+1/\w.heap.size+1<=W0.heap.size:=by omega
 have hK4:s.kind≠4:=by omega
 clear hx ha hS hra hk hla
 by_cases h0:isN s.e=some 0
 ·have hv:=HX.out.some h0
  simp only [Value.iface.injEq] at hv
  obtain ⟨rfl,rfl⟩:=hv
  have b1:=fun W v=>as_num_yes W v
  have HE:Hid (moreS s ra [] = []):=by show _=_;unfold moreS;rw [if_neg hK4,if_pos HK.out,h0];simp
  clear h0 hW0
  go_enter Tryz.func110,Tryz.ntmps110
  go_wp2_with fail
  rw [<-HW0.out]
  go_ret
  exact ⟨_,rfl,by rw [HE.out];exact tid_nil _ _ _,hb0.alloc hb0.size _⟩
 ·have HE:Hid (moreS s ra [] = {s with thn:=ra.length,els:=0}::ra):=by show _=_;unfold moreS;rw [if_neg hK4,if_pos HK.out,if_neg h0];simp
  obtain ⟨zz,kn,hta,hkz⟩ : ∃(zz:Int) (kn:Bool),(∀W:World,(Instr.typeAssert (.iface tx yx) 170 222 true).run Tryz.prog W = .ok (.tuple #[.agg #[.int .i64 zz],.bool kn]) W)/\(kn=false∨(kn=true/\zz≠0)):=by
   cases hn:isN s.e with
   | some z=>
    have hv:=HX.out.some hn
    simp only [Value.iface.injEq] at hv
    obtain ⟨rfl,rfl⟩:=hv
    exact ⟨z,true,fun W=>as_num_yes W _,.inr ⟨rfl,fun h=>h0 (by rw [hn,h])⟩⟩
   | none=>
    obtain ⟨tt,yy,hv,htn⟩:=HX.out.none hn
    simp only [Value.iface.injEq] at hv
    obtain ⟨rfl,rfl⟩:=hv
    exact ⟨0,false,fun W=>as_num_no W tx yx htn,.inl rfl⟩
  obtain ⟨W1,hW1⟩ : ∃W1,W1=W0.alloc (.cells #[.int .i64 zz] 222):=⟨_,rfl⟩
  have hb1:Bl W0 W1:=by rw [hW1];exact (Below.refl _ _).alloc (Nat.le_refl _) _
  have HW1:=hide hW1
  have hbd:Bl W0 W1.drew:=hb1.drew
  have HY:Hid (∀W,Bl W0 W->W.cell? ⟨w.heap.size,0,none⟩=some (.iface tx yx)/\W.cell? ⟨w.heap.size,1,none⟩=some (.slice aa La.length ca)):=fun W hW=>⟨(hW.cell (p:=⟨w.heap.size,0,none⟩) (by simp;omega)).trans y0,(hW.cell (p:=⟨w.heap.size,1,none⟩) (by simp;omega)).trans y1⟩
  obtain ⟨z0,z1⟩:=HY.out _ hbd
  have HTd:=hide (HT.out _ hbd)
  clear h0 hW0 HT hW1
  rcases hkz with rfl | ⟨rfl,hzz⟩
  all_goals
   go_enter Tryz.func110,Tryz.ntmps110
   go_upto_region 16 with fail
   rw [<-HW0.out,<-HW1.out]
   go_region_held (fun W=>W.cell? ⟨w.heap.size,0,none⟩=some (.iface tx yx)/\W.cell? ⟨w.heap.size,1,none⟩=some (.slice aa La.length ca)) (go_keep)
    (first | ((with_reducible refine Calls.mono HTd.out ?_);intro x wt hx;obtain ⟨a1',n1,c1,hxe,ht1,hbt0⟩:=hx;subst hxe;have hbt:Bl W0 wt:=hbd.trans (hbt0.mono hbd.size);have q:=HY.out wt hbt))
   have HT1:=hide ht1
   have hbw:Bl w wt:=hb0.trans (hbt.mono hb0.size)
   clear ht1 hbt0 q z0 z1
   go_wp2_with fail
   go_ret
   refine ⟨_,rfl,?_,hbw.alloc hbw.size _⟩
   rw [HE.out]
   obtain ⟨S1,M1,m1,s1,f1,-⟩:=HT1.out
   have q:=bv_while s (HX.out.keep (fun _ h=>h) (fun B hB=>hbw.block B (HS.out B hB))) HK.out m1
   rw [f1] at q
   exact tid_one 153 q HS.out s1 hbw
theorem settled_any (N:Nat) (IH:TidyC N) {v:Value} {l:List St} {S:Nat->Prop} {w:World} {s:St} {a b:List St} (hl:l.length<=N+1) (hv:Bv w S v l) (hS : ∀B,S B->B<w.heap.size) (ho:One l s a b) :
  Calls Tryz.prog 110 #[v] w fun e w'=>∃u,e = .returned u/\Tid w w' S u (moreS s (tidyB a) (tidyB b))/\Below w.heap.size w w':=by
 have plain : ∀(t:TypeId) (x:Value) (q:St),t≠203->t≠205->Bv w S (.iface t x) [q]->q.kind≠4->q.kind≠5->One [q] s a b->Calls Tryz.prog 110 #[.iface t x] w fun e w'=>∃u,e = .returned u/\Tid w w' S u (moreS s (tidyB a) (tidyB b))/\Bl w w':=by
  intro t x q h1 h2 hb k4 k5 hoq
  have e:=hoq.is
  simp only [List.cons.injEq] at e
  obtain ⟨rfl,e⟩:=e
  have ea:a = []:=(List.append_eq_nil_iff.1 e.symm).1
  have eb:b = []:=(List.append_eq_nil_iff.1 e.symm).2
  subst ea eb
  have et:=hoq.thn
  have el:=hoq.els
  have hm:moreS q (tidyB []) (tidyB []) = [q]:=by
   unfold moreS
   rw [if_neg k4,if_neg k5]
   obtain ⟨k,n,e1,f1,t1,l1⟩:=q
   simp only [tidyB_nil] at *
   simp only [et,el,List.append_nil]
  refine (settled_plain t x h1 h2 w).mono ?_
  rintro e w' ⟨rfl,rfl⟩
  refine ⟨_,rfl,?_,(Below.refl _ _).alloc (Nat.le_refl _) _⟩
  rw [hm]
  exact tid_one (S1:=fun _=>False) 153 (hb.keep (fun B hB=>.inl hB) (fun _ _=>rfl)) hS (fun B hB=>hB.elim) (Below.refl _ _)
 cases hv using Bv_i with
 | decl q x h1 h2 h3 h4=>exact plain _ _ q (by decide) (by decide) (.decl q x h1 h2 h3 h4) (by omega) (by omega) ho
 | set q x h1 h2 h3 h4=>exact plain _ _ q (by decide) (by decide) (.set q x h1 h2 h3 h4) (by omega) (by omega) ho
 | store q x y h1 h2 h3 h4 h5=>exact plain _ _ q (by decide) (by decide) (.store q x y h1 h2 h3 h4 h5) (by omega) (by omega) ho
 | ret q x h1 h2 h3 h4=>exact plain _ _ q (by decide) (by decide) (.ret q x h1 h2 h3 h4) (by omega) (by omega) ho
 | out q x h1 h2 h3 h4=>exact plain _ _ q (by decide) (by decide) (.out q x h1 h2 h3 h4) (by omega) (by omega) ho
 | call q x h1 h2 h3 h4=>exact plain _ _ q (by decide) (by decide) (.call q x h1 h2 h3 h4) (by omega) (by omega) ho
 | ifs q x va vb A B vs us F H h1 h2 h3 h4 h5 h6 h7 h8=>
  have e:=ho.is
  simp only [List.cons_append,List.cons.injEq] at e
  obtain ⟨rfl,e⟩:=e
  have ea:a=joinS F A:=by
   have l1:=ho.thn
   rw [h7] at l1
   have:(joinS F A++joinS H B).take (joinS F A).length=(a++b).take (joinS F A).length:=by rw [e]
   rw [List.take_left,show (joinS F A).length=a.length by omega,List.take_left] at this
   exact this.symm
  subst ea
  have eb:b=joinS H B:=(List.append_cancel_left e).symm
  subst eb
  simp only [l_c,l_a] at hl
  have r1:=join_flat vs F A
  have r2:=join_flat us H B
  rw [r1,r2]
  rw [r1,r2] at hl
  exact settled_if N IH q x va vb _ _ S w h1 h2 (h3.toL h4) (h5.toL h6) (by omega) (by omega) hS
 | whil q x va A vs F h1 h2 h3 h4 h5 h6=>
  have e:=ho.is
  simp only [List.cons.injEq] at e
  obtain ⟨rfl,e⟩:=e
  have eb:b = []:=List.eq_nil_of_length_eq_zero (by have:=ho.els;omega)
  subst eb
  rw [List.append_nil] at e
  subst e
  simp only [l_c] at hl
  have r1:=join_flat vs F A
  rw [r1]
  rw [r1] at hl
  exact settled_while N IH q x va _ S w h1 h2 (h3.toL h4) (by omega) hS
end Go.Proofs.YtmddmgpijpjpbaaGreatDoor
