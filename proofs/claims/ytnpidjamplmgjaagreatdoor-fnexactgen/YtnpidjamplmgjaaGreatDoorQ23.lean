import Derived.Test.YtnpidjamplmgjaaGreatDoorQ22
import Derived.RegionTactic
import Derived.Deep.RegionHeldLaw
set_option linter.unusedSectionVars false
variable [Inhabited Go.Proofs.YtnpidjamplmgjaaGreatDoor.Pick]
namespace Go.Proofs.YtnpidjamplmgjaaGreatDoor
open Go.RowKit
set_option linter.unusedVariables false
set_option linter.unusedSimpArgs false
set_option maxRecDepth 100000
set_option maxHeartbeats 16000000
theorem len_flat (L:List (Value × List St)) (h : ∀q∈L,0<q.2.length):L.length<=(L.map (·.2)).flatten.length:=by
 induction L with
 | nil=>simp
 | cons q r ih=>
  have h1:=h q (by simp)
  have h2:=ih (fun x hx=>h x (by simp [hx]))
  simp only [List.map_cons,List.flatten_cons,l_a,l_c]
  omega
theorem info_st:(Tryz.prog.info? 136).map (fun i=>(i.zero,i.size,i.bytes))=some (some .nilIface,1,16):=by kernel_rfl
theorem own_below {B t z n:Nat} {w w':World} {v:Value} {xs:List Value} (h:w.ownsRow B t z v n xs) (hb:Below w.heap.size w w'):w'.ownsRow B t z v n xs:=by
 obtain ⟨g1,g2⟩:=h
 refine ⟨g1,?_⟩
 rcases g2 with g2 | ⟨g,cap,cur,rfl,g3,g4,g5⟩
 ·exact .inl g2
 ·refine .inr ⟨g,cap,cur,rfl,g3,?_,g5⟩
  rw [hb.block g (Array.getElem?_eq_some_iff.1 g4).1]
  exact g4
theorem src_one (W:World) (t0:TypeId) (x0:Value):Src (W.alloc (.cells #[.iface t0 x0] 136)) (.slice (some ⟨W.heap.size,0,none⟩) 1 1) [.iface t0 x0]:=by
 refine ⟨_,_,rfl,(fun h=>by cases h),fun ad had j u hj => ?_⟩
 simp only [Option.some.injEq] at had
 subst had
 have hj0:j=0:=by
  have:=(List.getElem?_eq_some_iff.mp hj).1
  simp at this
  omega
 subst hj0
 simp at hj
 subst hj
 simp [Addr.add]
theorem blockOf_step (ss:List St) (v:Value) (w:World) (hT:Tab w) (hS:Stmts w v ss) (hfit:fitB ss=true) (hok : ∀s∈ss,stmtB s=true/\s.e.length<=2000/\s.f.length<=2000) (hlen:ss.length<=1000)
  (IH : ∀(tt:List St) (u:Value) (W:World),tt.length<ss.length->Below w.heap.size w W->Stmts w u tt->fitB tt=true->(∀s∈tt,s∈ss)->Calls Tryz.prog 55 #[u] W fun e w'=>∃(x:Value) (S':Nat->Prop),e = .returned x/\Bk w' S' x tt/\(∀B,S' B->W.heap.size<=B/\B<w'.heap.size)/\Below W.heap.size W w') :
  Calls Tryz.prog 55 #[v] w fun e w'=>∃(u:Value) (S':Nat->Prop),e = .returned u/\Bk w' S' u ss/\(∀B,S' B->w.heap.size<=B/\B<w'.heap.size)/\Below w.heap.size w w':=by
 have HT:=hide hT
 have HS:=hide hS
 have HOk:=hide hok
 have HFit:=hide hfit
 have HIH:=hide IH
 obtain ⟨av,cv,rfl,-⟩:=hS
 clear hT hok hfit IH
 go_enter Tryz.func55,Tryz.ntmps55
 go_wp2_with fail
 go_loopw [0,3] (fun v0 v3 wr=>∃(rest:List St) (L:List (Value × List St)) (S:Nat->Prop),Stmts w v0 rest/\fitB rest=true/\rest.length<=ss.length/\(∀s∈rest,s∈ss)/\BoI w wr ss rest v3 L S) (fun v0 _ _=>lenV v0)
 case atStart=>exact ⟨ss,[],fun _=>False,HS.out,HFit.out,Nat.le_refl _,fun s h=>h,⟨World.ownsRow_nil _ _ _ _,fun q hq=>by simp at hq,by simp,fun B hB=>hB.elim,Below.refl _ _⟩⟩
 case round=>
  clear HS HFit
  obtain ⟨rest,L,S,hst,hft,hrl,hsub,hbo⟩:=hrel
  have HBo:=hide hbo
  have HSub:=hide hsub
  obtain ⟨va3,vn3,vc3,rfl⟩ : ∃a n c,u3 = .slice a n c:=by
   rcases hbo.row.2 with ⟨rfl,_⟩ | ⟨g,cap,cur,rfl,_⟩
   ·exact ⟨_,_,_,rfl⟩
   ·exact ⟨_,_,_,rfl⟩
  cases rest with
  | nil=>
   obtain ⟨a2,c2,rfl,-⟩:=hst
   clear hbo hsub
   simp only [l_n]
   go_wp2_with fail
   obtain ⟨S',hbk,hS'⟩:=HBo.out.bk
   exact bodyPost_ret (v:=.slice va3 vn3 vc3) (by simp [results,Tryz.results55,go_sem]) rfl ⟨_,S',rfl,hbk,hS',HBo.out.bel⟩
  | cons s r=>
   rw [fitB_cons,Bool.and_eq_true,Bool.and_eq_true,Bool.and_eq_true,decide_eq_true_iff] at hft
   obtain ⟨⟨p1,p2,p3,p4⟩,hf1,hf2,hf3⟩:=hft
   obtain ⟨a2,cap,rfl,hcl,hcm,hc⟩:=hst
   obtain ⟨b0,off,rfl,hs⟩:=hc (by simp)
   have hall:Stmts w (.slice (some ⟨b0,off,none⟩) (s::r).length cap) (s::r):=⟨_,_,rfl,hcl,hcm,fun _=>⟨b0,off,rfl,hs⟩⟩
   have hrest:Stmts w (.slice (if cap=1 then some ⟨b0,off,none⟩ else some ⟨b0,off+6,none⟩) r.length (cap-1)) r:=by
    have:=hall.cut 1 (s::r).length (by simp) (Nat.le_refl _)
    simpa [Addr.add] using this
   obtain ⟨ve,vf,⟨g0,g1,g2,g3,g4,g5⟩,⟨c0,c1,c2,c3,c4,c5⟩,he,hf⟩:=(hs.below hbo.bel).up 0 (by simp)
   simp only [Nat.zero_mul,Nat.add_zero,List.getElem_cons_zero] at c0 c1 c2 c3 c4 c5 g0 g1 g2 g3 g4 g5 he hf
   simp only [l_c] at *
   have HR:=hide hrest
   have h1:(1:Int)<=(r.length:Int)+1:=by omega
   have HNe:=hide he
   have HNf:=hide hf
   have HF1:=hide hf1
   have HF2:=hide hf2
   have HF3:=hide hf3
   obtain ⟨a3,k3,rfl,-⟩:=he
   obtain ⟨a4,k4,rfl,-⟩:=hf
   clear hs hc hall hrest hf1 hf2 hf3 hbo hsub
   go_wp2_with fail
   go_region
   generalize (if cap=1 then some ({block:=b0,off:=off,spot:=none}:Addr) else some {block:=b0,off:=off+6,spot:=none})=a1 at HR ⊢
   generalize hk1:cap-1=k1 at HR ⊢
   have hk1':r.length<=k1:=by omega
   have hk2':k1<=9223372036854775807:=by omega
   clear hk1 c0 c1 c2 c3 c4 c5 g0 g1 g2 g3 g4 g5 h1
   obtain ⟨tn,htn⟩:=Int.eq_ofNat_of_zero_le p1
   obtain ⟨ln,hln⟩:=Int.eq_ofNat_of_zero_le p3
   have hw1:IntKind.i64.wrap ((tn:Int)+(ln:Int))=(tn:Int)+(ln:Int):=by simp [IntKind.wrap,IntKind.bits,IntKind.signed];omega
   go_wp2_with fail
   obtain ⟨X,hX⟩ : ∃X,X=(wr.alloc (.cells #[.int .i64 s.kind,.string s.name,.slice a3 s.e.length k3,.slice a4 s.f.length k4,.int .i64 (tn:Int),.int .i64 (ln:Int)] 123)).drew:=⟨_,rfl⟩
   rw [<-hX]
   have hbX:Bl wr X.drew:=by rw [hX];exact (bel_a _ _).drew.drew
   have hsX:X.drew.heap.size=wr.heap.size+1:=by rw [hX];simp
   have hbw:=HBo.out.bel
   have hbwX:Bl w X.drew:=hbw.trans (hbX.mono hbw.size)
   have HK:Hid (∀W,Bl X.drew W->W.cell? ⟨wr.heap.size,0,none⟩=some (.int .i64 s.kind)/\W.cell? ⟨wr.heap.size,1,none⟩=some (.string s.name)/\W.cell? ⟨wr.heap.size,2,none⟩=some (.slice a3 s.e.length k3)/\W.cell? ⟨wr.heap.size,3,none⟩=some (.slice a4 s.f.length k4)/\W.cell? ⟨wr.heap.size,4,none⟩=some (.int .i64 (tn:Int))/\W.cell? ⟨wr.heap.size,5,none⟩=some (.int .i64 (ln:Int))):=fun W hW=>by
    refine ⟨?_,?_,?_,?_,?_,?_⟩ <;> (rw [hW.cell (by simp only;omega)];show X.cell? _=_;rw [hX];show World.cell? (wr.alloc _) _=_;simp)
   obtain ⟨x0,x1,x2,x3,x4,x5⟩:=HK.out X.drew (Below.refl _ _)
   have htl:tn+ln<=r.length:=by omega
   obtain ⟨a6,k6,hr6,hs6⟩ : ∃a6 k6,(∀w:World,(Instr.slice 62 (.slice a1 r.length k1) (some (.int .i64 (tn:Int))) (some (.int .i64 ((tn:Int)+(ln:Int)))) none).run Tryz.prog w = .ok (.slice a6 ln k6) w)/\Stmts w (.slice a6 ln k6) ((r.take (tn+ln)).drop tn):=by
    have h:=cut_run2 a1 r.length k1 tn (tn+ln) o_ o_ o_ (tn:Int) ((tn:Int)+(ln:Int)) o_ o_
    have h':=HR.out.cut tn (tn+ln) o_ o_
    rw [show tn+ln-tn=ln by omega] at h h'
    exact ⟨_,_,h,h'⟩
   have hs5:Stmts w (.slice a1 tn k1) (r.take tn):=HR.out.head tn o_
   have hr5 : ∀w:World,(Instr.slice 62 (.slice a1 r.length k1) none (some (.int .i64 (tn:Int))) none).run Tryz.prog w = .ok (.slice a1 tn k1) w:=fun w=>by
    have hz:Tryz.prog.elem 62=123:=by kernel_rfl
    have hsz:(sizeOf 123).run Tryz.prog w = .ok 6 w:=by kernel_rfl
    rw [run_slice_h w 62 a1 r.length k1 (by rw [hz];exact Tryz.underlying62) .i64 _ o_ o_,hz,hsz]
    simp only [Result.andThen,sliced,Int.toNat_natCast,Nat.sub_zero,Nat.zero_mul,Int.toNat_zero]
    cases a1 <;> simp [Addr.add]
   have HI1:=hide fun W (hW:Bl w W)=>HIH.out (r.take tn) _ W (by simp;omega) hW hs5 (by have:=HF1.out;rw [htn] at this;exact this) (fun z hz=>HSub.out z (by simp [List.mem_of_mem_take hz]))
   have HI2:=hide fun W (hW:Bl w W)=>HIH.out _ _ W (by simp;omega) hW hs6 (by have:=HF2.out;rw [htn,hln] at this;exact this) (fun z hz=>HSub.out z (by simp [List.mem_of_mem_take (List.mem_of_mem_drop hz)]))
   have HSt:Hid (∀(y1 y2:Value) (S1 S2:Nat->Prop) (wa wb:World),Bk wa S1 y1 (r.take tn)->(∀B,S1 B->X.drew.heap.size<=B/\B<wa.heap.size)->Bl X.drew wa->Bk wb S2 y2 ((r.take (tn+ln)).drop tn)->(∀B,S2 B->wa.heap.size<=B/\B<wb.heap.size)->Bl wa wb->Calls Tryz.prog 81 #[.agg #[.int .i64 s.kind,.string s.name,.slice a3 s.e.length k3,.slice a4 s.f.length k4,.int .i64 (tn:Int),.int .i64 (ln:Int)],y1,y2] wb fun e w'=>∃(t0:TypeId) (x0:Value) (S3:Nat->Prop),e = .returned (.iface t0 x0)/\Bv w' S3 (.iface t0 x0) (s::r.take (tn+ln))/\(∀B,S3 B->X.drew.heap.size<=B/\B<w'.heap.size)/\Bl wb w'):=fun y1 y2 S1 S2 wa wb hk1 hs1 hba hk2 hs2 hbb=>by
    have hbX2:Bl X.drew wb:=hba.trans (hbb.mono hba.size)
    have hbwb:Bl w wb:=hbwX.trans (hbX2.mono hbwX.size)
    have hbrb:Bl wr wb:=hbX.trans (hbX2.mono hbX.size)
    obtain ⟨A,vs,F,q1,q2,q3⟩:=hk1.bel (fun B hB=>(hs1 B hB).2) hbb
    obtain ⟨D,us,H,q4,q5,q6⟩:=hk2
    obtain ⟨o1,o2,o3⟩:=HOk.out s (HSub.out s (by simp))
    have sz1:=hba.size
    have sz2:=hbb.size
    have e1:(r.take tn).length=tn:=by simp;omega
    have e2:((r.take (tn+ln)).drop tn).length=ln:=by simp;omega
    have h:=stOf_any s o1 o2 o3 (.slice a3 s.e.length k3) (.slice a4 s.f.length k4) y1 y2 (fun B=>S1 B∨S2 B) wb (HT.out.below HT.out.size hbwb) (HNe.out.below hbrb) (HNf.out.below hbrb) (fun B hB=>by rcases hB with hB | hB;have:=hs1 B hB;omega;exact (hs2 B hB).2) A D vs us F H (q1.keep (fun B hB=>.inl hB) (fun B _=>rfl)) (fun i hi=>(q2 i hi).keep (fun B hB=>.inl hB) (fun B _=>rfl)) (q4.keep (fun B hB=>.inr hB) (fun B _=>rfl)) (fun i hi=>(q5 i hi).keep (fun B hB=>.inr hB) (fun B _=>rfl)) ⟨by rw [<-q3,e1];exact htn,by rw [<-q6,e2];exact hln⟩
    rw [htn,hln] at h
    refine h.mono ?_
    rintro e w' ⟨u,S',rfl,hbv,hS',hbe⟩
    obtain ⟨t0,z0,rfl⟩:=hbv.isI
    rw [<-q3,<-q6] at hbv
    have el:s::r.take tn++(r.take (tn+ln)).drop tn=s::r.take (tn+ln):=by
     rw [List.cons_append]
     congr 1
     have e3:r.take tn=(r.take (tn+ln)).take tn:=by rw [List.take_take];congr 1;omega
     rw [e3,List.take_append_drop]
    rw [el] at hbv
    refine ⟨t0,z0,_,rfl,hbv,fun B hB => ?_,hbe⟩
    have sz3:=hbe.size
    rcases hB with (hB | hB) | hB
    ·have:=hs1 B hB;omega
    ·have:=hs2 B hB;omega
    ·have:=hS' B hB;omega
   have HXe:=hide hX
   clear hX
   obtain ⟨iS,hjS,hyS0,hyS1,hyS2⟩:=info_parts info_st
   have HRow:Hid (∀W,Bl wr W->W.ownsRow w.heap.size 136 1 (.slice va3 vn3 vc3) (L.map (·.1)).length (L.map (·.1))):=fun W hW=>by rw [List.length_map];exact own_below HBo.out.row hW
   have HSrc:=hide fun (W:World) (t0:TypeId) (x0:Value)=>src_one W t0 x0
   have hLl:(L.map (·.1)).length<=1000000:=by
    rw [List.length_map]
    have h1:=len_flat L (fun q hq=>(HBo.out.bv q hq).pos)
    have h2:=congrArg List.length HBo.out.join
    rw [l_a] at h2
    omega
   have hne:some wr.heap.size≠(Value.slice va3 vn3 vc3).ownBlock:=fun e=>by have:=(World.ownsRow.lt HBo.out.row _ e.symm).2;omega
   obtain ⟨a7,k7,hr7,hs7⟩ : ∃a7 k7,(∀w:World,(Instr.slice 62 (.slice a1 r.length k1) (some (.int .i64 ((tn:Int)+(ln:Int)))) none none).run Tryz.prog w = .ok (.slice a7 (r.length-(tn+ln)) k7) w)/\Stmts w (.slice a7 (r.length-(tn+ln)) k7) (r.drop (tn+ln)):=by
    have h':=HR.out.cut (tn+ln) r.length o_ (Nat.le_refl _)
    rw [List.take_length] at h'
    refine ⟨_,_,fun w => ?_,h'⟩
    have hz:Tryz.prog.elem 62=123:=by kernel_rfl
    have hsz:(sizeOf 123).run Tryz.prog w = .ok 6 w:=by kernel_rfl
    have e:((tn:Int)+(ln:Int))=((tn+ln:Nat):Int):=by omega
    rw [e,run_slice_l w 62 a1 r.length k1 (by rw [hz];exact Tryz.underlying62) .i64 _ o_ o_,hz,hsz]
    simp only [Result.andThen,sliced,Int.toNat_natCast]
   go_region_held_law (fun W=>W.cell? ⟨wr.heap.size,0,none⟩=some (.int .i64 s.kind)/\W.cell? ⟨wr.heap.size,1,none⟩=some (.string s.name)/\W.cell? ⟨wr.heap.size,2,none⟩=some (.slice a3 s.e.length k3)/\W.cell? ⟨wr.heap.size,3,none⟩=some (.slice a4 s.f.length k4)/\W.cell? ⟨wr.heap.size,4,none⟩=some (.int .i64 (tn:Int))/\W.cell? ⟨wr.heap.size,5,none⟩=some (.int .i64 (ln:Int)))
    (first | go_keep | (go_split_ands;exact ⟨za0,za1,za2,za3,za4,za5⟩) | (go_split_ands;exact ⟨zb0,zb1,zb2,zb3,zb4,zb5⟩) | (go_split_ands;exact ⟨zc0,zc1,zc2,zc3,zc4,zc5⟩) | (go_split_ands;exact ⟨zd0,zd1,zd2,zd3,zd4,zd5⟩))
    (first
    | (with_reducible refine Calls.mono (HI1.out X.drew hbwX) ?_;rintro e wa ⟨y1,S1,rfl,hk1,hs1,hba⟩;obtain ⟨za0,za1,za2,za3,za4,za5⟩:=HK.out wa hba)
    | (with_reducible refine Calls.mono (HI2.out wa (hbwX.trans (hba.mono hbwX.size))) ?_;rintro e wb ⟨y2,S2,rfl,hk2,hs2,hbb⟩;obtain ⟨zb0,zb1,zb2,zb3,zb4,zb5⟩:=HK.out wb (hba.trans (hbb.mono hba.size)))
    | (with_reducible refine Calls.mono (HSt.out y1 y2 S1 S2 wa wb hk1 hs1 hba hk2 hs2 hbb) ?_;rintro e wc ⟨t0,x0,S3,rfl,hbv,hs3,hbc⟩;have hwX:Bl X.drew wc:=(hba.trans (hbb.mono hba.size)).trans (hbc.mono (hba.trans (hbb.mono hba.size)).size);have hwc:Bl wr wc:=hbX.trans (hwX.mono hbX.size);have hltc:wr.heap.size<wc.heap.size:=(by have:=hwX.size;omega);obtain ⟨zc0,zc1,zc2,zc3,zc4,zc5⟩:=HK.out wc ((hba.trans (hbb.mono hba.size)).trans (hbc.mono (hba.trans (hbb.mono hba.size)).size)))
    | (refine step_appV (P:=Tryz.prog) (by rfl) _ _ 106 (by rfl) w.heap.size 136 iS _ Tryz.underlying106 hjS hyS0 hyS1 hyS2 rfl (.slice va3 vn3 vc3) (L.map (·.1)) (by rfl) (HRow.out _ (hwc.alloc hwc.size _)) (.slice (some ⟨wc.heap.size,0,none⟩) 1 1) [.iface t0 x0] (by rfl) (HSrc.out wc t0 x0) (fun u hu=>by simp only [List.mem_cons,List.not_mem_nil,or_false] at hu;subst hu;rfl) (by simp only [l_c,l_n];omega) (by have:=hwc.size;have:=hbw.size;simp only [World.size_alloc];omega) ?_;intro v' w' hown' hg' hf';obtain ⟨zd0,zd1,zd2,zd3,zd4,zd5⟩:w'.cell? ⟨wr.heap.size,0,none⟩=some (.int .i64 s.kind)/\w'.cell? ⟨wr.heap.size,1,none⟩=some (.string s.name)/\w'.cell? ⟨wr.heap.size,2,none⟩=some (.slice a3 s.e.length k3)/\w'.cell? ⟨wr.heap.size,3,none⟩=some (.slice a4 s.f.length k4)/\w'.cell? ⟨wr.heap.size,4,none⟩=some (.int .i64 (tn:Int))/\w'.cell? ⟨wr.heap.size,5,none⟩=some (.int .i64 (ln:Int)):=⟨hg'.cell ((World.cell?_alloc_lt wc _ ⟨wr.heap.size,0,none⟩ hltc).trans zc0) hne,hg'.cell ((World.cell?_alloc_lt wc _ ⟨wr.heap.size,1,none⟩ hltc).trans zc1) hne,hg'.cell ((World.cell?_alloc_lt wc _ ⟨wr.heap.size,2,none⟩ hltc).trans zc2) hne,hg'.cell ((World.cell?_alloc_lt wc _ ⟨wr.heap.size,3,none⟩ hltc).trans zc3) hne,hg'.cell ((World.cell?_alloc_lt wc _ ⟨wr.heap.size,4,none⟩ hltc).trans zc4) hne,hg'.cell ((World.cell?_alloc_lt wc _ ⟨wr.heap.size,5,none⟩ hltc).trans zc5) hne⟩))
   have HNx:Hid (∀w9,w9=w'->BoI w w9 ss (r.drop (tn+ln)) v' (L++[(.iface t0 x0,s::r.take (tn+ln))]) (fun B=>S B∨S3 B)):=fun w9 e9=>by
    subst e9
    have hbo:BoI w wr ss (s::r.take (tn+ln)++r.drop (tn+ln)) (.slice va3 vn3 vc3) L S:=by
     have:=HBo.out
     rw [List.cons_append,List.take_append_drop]
     exact this
    have hal:Bl wc (wc.alloc (.cells #[.iface t0 x0] 136)):=bel_a _ _
    exact hbo.next (hwc.trans (hal.mono hwc.size)) (hbv.bel (fun B hB=>(hs3 B hB).2) hal) (fun B hB=>by have:=hs3 B hB;simp only [World.size_alloc];omega) hg' hown' hf'
   have HNw:=HNx.out _ rfl
   have HN:=hide HNw
   have HS7:=hide hs7
   have HF3':Hid (fitB (r.drop (tn+ln))=true):=by have:=HF3.out;rw [htn,hln] at this;exact this
   clear HNx HNw hs7 hs6 hs5 hown' hg' hf' hk1 hk2 hbv
   go_wp2_with fail
   go_roundw
   case rel=>exact ⟨r.drop (tn+ln),_,_,HS7.out,HF3'.out,by simp;omega,fun z hz=>HSub.out z (by simp [List.mem_of_mem_drop hz]),HN.out⟩
   case measure=>simp [lenV];omega
theorem blockOf_any:BlockOfC:=by
 intro ss v w hT hS hfit hok hlen
 have main : ∀(n:Nat) (tt:List St) (u:Value) (W:World),tt.length<=n->Tab W->Stmts W u tt->fitB tt=true->(∀s∈tt,stmtB s=true/\s.e.length<=2000/\s.f.length<=2000)->tt.length<=1000->Calls Tryz.prog 55 #[u] W fun e w'=>∃(x:Value) (S':Nat->Prop),e = .returned x/\Bk w' S' x tt/\(∀B,S' B->W.heap.size<=B/\B<w'.heap.size)/\Bl W w':=by
  intro n
  induction n with
  | zero=>intro tt u W hn h1 h2 h3 h4 h5;exact blockOf_step tt u W h1 h2 h3 h4 h5 (fun t' _ _ hlt=>by omega)
  | succ n ih=>intro tt u W hn h1 h2 h3 h4 h5;exact blockOf_step tt u W h1 h2 h3 h4 h5 (fun t' u' W' hlt hb hs hf hsub=>ih t' u' W' o_ (h1.below h1.size hb) (hs.below hb) hf (fun s hs'=>h4 s (hsub s hs')) o_)
 exact main ss.length ss v w (Nat.le_refl _) hT hS hfit hok hlen
structure RInv (t:Tr) (f:Nat) (out work:List Nat):Prop where
 nd:out.Nodup
 come : ∀x∈out,Rch t f x
 sub : ∀x∈work,x=f∨x∈out
 shut : ∀x,(x=f∨x∈out)->x∉work->∀y,CallR t x y->y∈out
structure RMid (t:Tr) (f x:Nat) (done out work:List Nat):Prop where
 nd:out.Nodup
 come : ∀x∈out,Rch t f x
 at_:x=f∨x∈out
 sub : ∀x∈work,x=f∨x∈out
 shut : ∀z,(z=f∨z∈out)->z∉work->z≠x->∀y,CallR t z y->y∈out
 part : ∀y∈done,y∈out
theorem RInv.start (t:Tr) (f:Nat):RInv t f [] [f]:=by
 refine ⟨List.nodup_nil,by simp,by simp,fun x hx hn => ?_⟩
 simp at hx hn
 exact absurd hx hn
theorem RInv.take {t:Tr} {f x:Nat} {out work rest:List Nat} (h:RInv t f out work) (hx:x∈work) (hr : ∀y,y∈work↔y=x∨y∈rest):RMid t f x [] out rest:=by
 refine ⟨h.nd,h.come,h.sub x hx,fun y hy=>h.sub y ((hr y).2 (.inr hy)),fun z hz hn hne y hy=>h.shut z hz (fun hm => ?_) y hy,by simp⟩
 rcases (hr z).1 hm with h1 | h1
 ·exact hne h1
 ·exact hn h1
theorem RMid.old {t:Tr} {f x y:Nat} {done out work:List Nat} (h:RMid t f x done out work) (hy:y∈out):RMid t f x (done++[y]) out work:=
 ⟨h.nd,h.come,h.at_,h.sub,h.shut,fun z hz=>by
  simp only [List.mem_append,List.mem_singleton] at hz
  rcases hz with h1 | rfl
  ·exact h.part z h1
  ·exact hy⟩
theorem RMid.new {t:Tr} {f x y:Nat} {done out work:List Nat} (h:RMid t f x done out work) (hy:y∉out) (hc:CallR t x y):RMid t f x (done++[y]) (out++[y]) (work++[y]):=by
 refine ⟨?_,?_,?_,?_,?_,?_⟩
 ·rw [List.nodup_append]
  exact ⟨h.nd,by simp,fun a ha b hb e=>by simp only [List.mem_singleton] at hb;subst hb;subst e;exact hy ha⟩
 ·intro z hz
  simp only [List.mem_append,List.mem_singleton] at hz
  rcases hz with h1 | rfl
  ·exact h.come z h1
  ·rcases h.at_ with rfl | h2
   ·exact .one hc
   ·exact .step (h.come _ h2) hc
 ·rcases h.at_ with h1 | h1
  ·exact .inl h1
  ·exact .inr (List.mem_append_left _ h1)
 ·intro z hz
  simp only [List.mem_append,List.mem_singleton] at hz ⊢
  rcases hz with h1 | rfl
  ·rcases h.sub z h1 with h2 | h2
   ·exact .inl h2
   ·exact .inr (.inl h2)
  ·exact .inr (.inr rfl)
 ·intro z hz hn hne q hq
  simp only [List.mem_append,List.mem_singleton,not_or] at hz hn
  have h3:z=f∨z∈out:=by
   rcases hz with h1 | h1 | h1
   ·exact .inl h1
   ·exact .inr h1
   ·exact absurd h1 hn.2
  exact List.mem_append_left _ (h.shut z h3 hn.1 hne q hq)
 ·intro z hz
  simp only [List.mem_append,List.mem_singleton] at hz ⊢
  rcases hz with h1 | rfl
  ·exact .inl (h.part z h1)
  ·exact .inr rfl
theorem RMid.done {t:Tr} {f x:Nat} {all out work:List Nat} (h:RMid t f x all out work) (ha : ∀y,CallR t x y->y∈all):RInv t f out work:=by
 refine ⟨h.nd,h.come,h.sub,fun z hz hn y hy => ?_⟩
 by_cases e:z=x
 ·subst e
  exact h.part y (ha y hy)
 ·exact h.shut z hz hn e y hy
theorem RInv.all {t:Tr} {f:Nat} {out:List Nat} (h:RInv t f out []) (g:Nat):g∈out↔Rch t f g:=
 ⟨fun hg=>h.come g hg,fun hg=>Rch.sub (S:=fun g=>g∈out) (fun g hg=>h.shut f (.inl rfl) (by simp) g hg) (fun g k hg hk=>h.shut g (.inr hg) (by simp) k hk) hg⟩
theorem nodup_le (n:Nat) : ∀ {l:List Nat},l.Nodup->(∀x∈l,x<n)->l.length<=n:=by
 induction n with
 | zero=>
  intro l h hl
  cases l with
  | nil=>simp
  | cons x r=>have:=hl x (by simp);omega
 | succ n ih=>
  intro l h hl
  by_cases hm:n∈l
  ·have h1:=ih (h.erase n) (fun x hx=>by
    have h2:=(h.mem_erase_iff).1 hx
    have:=hl x h2.2
    have:=h2.1
    omega)
   rw [List.length_erase_of_mem hm] at h1
   omega
  ·have h1:=ih h (fun x hx=>by
    have:=hl x hx
    have:x≠n:=fun e=>hm (e ▸ hx)
    omega)
   omega
theorem RMid.len {t:Tr} {f x:Nat} {done out work:List Nat} (h:RMid t f x done out work):out.length<=t.funcs.length:=nodup_le _ h.nd (fun x hx=>(h.come x hx).lt)
theorem RInv.len {t:Tr} {f:Nat} {out work:List Nat} (h:RInv t f out work):out.length<=t.funcs.length:=nodup_le _ h.nd (fun x hx=>(h.come x hx).lt)
theorem RInv.lt {t:Tr} {f:Nat} {out work:List Nat} (h:RInv t f out work) (hf:f<t.funcs.length) : ∀x∈work,x<t.funcs.length:=by
 intro x hx
 rcases h.sub x hx with rfl | h1
 ·exact hf
 ·exact (h.come x h1).lt
theorem CallR.mem {t:Tr} {f g:Nat} (hf:f<t.funcs.length):CallR t f g↔g∈callsL t.funcs t.funcs[f].body:=by
 have e:t.funcs.getD f ⟨⟨#[]⟩,[],[]⟩=t.funcs[f]:=by simp [List.getD,hf]
 unfold CallR
 rw [e]
 exact ⟨fun h=>h.2,fun h=>⟨hf,h⟩⟩
def clF (t:Tr) (f:Nat):List Nat:=callsL t.funcs (t.funcs.getD f ⟨⟨#[]⟩,[],[]⟩).body
def fszF (t:Tr) (f:Nat):Int:=frameSz (t.funcs.getD f ⟨⟨#[]⟩,[],[]⟩)
def mxL (l:List Int):Int:=l.foldl max 0
theorem mxL_snoc (l:List Int) (x:Int):mxL (l++[x])=max (mxL l) x:=by simp [mxL]
theorem foldl_max_ge (l:List Int) : ∀p:Int,p<=l.foldl max p:=by
 induction l with
 | nil=>intro p;exact Int.le_refl _
 | cons x r ih=>intro p;exact Int.le_trans (Int.le_max_left p x) (ih (max p x))
theorem foldl_max_le (l:List Int) (M:Int) : ∀p:Int,p<=M->(∀x∈l,x<=M)->l.foldl max p<=M:=by
 induction l with
 | nil=>intro p hp _;exact hp
 | cons x r ih=>intro p hp h;exact ih (max p x) (Int.max_le.2 ⟨hp,h x (by simp)⟩) (fun y hy=>h y (by simp [hy]))
theorem mxL_bd (l:List Int) (M:Int) (hM:0<=M) (h : ∀x∈l,x<=M):0<=mxL l/\mxL l<=M:=⟨foldl_max_ge l 0,foldl_max_le l M 0 hM h⟩
structure DpC (t:Tr)(P:Nat→Nat→Int→Prop):Prop where
 c_::
 mk(n f:Nat)(g:Nat->Int):(f<t.funcs.length)→(∀c∈clF t f,P n c (g c))→P (n+1) f (fszF t f+mxL ((clF t f).map g))
structure Dp (t:Tr)(a0:Nat)(a1:Nat)(a2:Int):Prop where
 c_::
 out:∀P,DpC t P→P a0 a1 a2
theorem Dp.C{t:Tr}:DpC t (Dp t):=⟨fun n f g q0 q1=>⟨fun P h=>h.mk n f g q0 (fun c r=>(q1 c r).out P h)⟩⟩
abbrev Dp.mk {t}:=(Dp.C:DpC t _).mk
theorem Dp_i{t:Tr}{M:∀(a0:Nat)(a1:Nat)(a2:Int),Dp t a0 a1 a2→Prop}
 (mk:∀(n f:Nat)(g:Nat->Int),(f<t.funcs.length)→∀q1:∀c∈clF t f,Dp t n c (g c),(∀ c (r : c ∈ clF t f),M n c (g c) (q1 c r))→∀u,M (n+1) f (fszF t f+mxL ((clF t f).map g)) u)
 {a0:Nat}{a1:Nat}{a2:Int}(u:Dp t a0 a1 a2):M a0 a1 a2 u:=
 (u.out (fun a0 a1 a2=>∃z_,M a0 a1 a2 z_) ⟨fun n f g q0 q1=>⟨.mk n f g q0 (fun c r=>(q1 c r).1),mk n f g q0 _ (fun c r=>(q1 c r).2) _⟩⟩).2
theorem map_congr' {l:List Nat} {g h:Nat->Int} (e : ∀c∈l,g c=h c):l.map g=l.map h:=List.map_congr_left e
theorem Dp.one {t:Tr} {n f:Nat} {s:Int} (h:Dp t n f s) : ∀ {m:Nat} {s':Int},Dp t m f s'->s=s':=by
 induction h using Dp_i with
 | mk n f g hf hg ih=>
  intro m s' h'
  cases h' using Dp_i with
  | mk m _ g' hf' hg'=>
   rw [map_congr' (fun c hc=>ih c hc (hg' c hc))]
theorem Dp.lt {t:Tr} {n f:Nat} {s:Int} (h:Dp t n f s):f<t.funcs.length:=by cases h using Dp_i with | mk n _ g hf _=>exact hf
theorem Dp.more {t:Tr} {n f:Nat} {s:Int} (h:Dp t n f s) : ∀m,n<=m->Dp t m f s:=by
 induction h using Dp_i with
 | mk n f g hf hg ih=>
  intro m hm
  obtain ⟨k,rfl⟩ : ∃k,m=k+1:=⟨m-1,by omega⟩
  exact .mk k f g hf (fun c hc=>ih c hc k o_)
theorem Dp.bd {t:Tr} (hz : ∀f,f<t.funcs.length->0<=fszF t f/\fszF t f<=1000000) {n f:Nat} {s:Int} (h:Dp t n f s):0<=s/\s<=1000000*n:=by
 induction h using Dp_i with
 | mk n f g hf hg ih=>
  have h1:=hz f hf
  have h2:=mxL_bd ((clF t f).map g) (1000000*n) o_ (fun x hx=>by
   obtain ⟨c,hc,rfl⟩:=List.mem_map.1 hx
   exact (ih c hc).2)
  omega
theorem Dp.sums {t:Tr} {n f:Nat} {s:Int} (h:Dp t (n+1) f s) (g:Nat->Int) (hg : ∀c∈clF t f,∀x,Dp t n c x->g c=x):s=fszF t f+mxL ((clF t f).map g):=by
 cases h using Dp_i with
 | mk _ _ g' hf hg'=>rw [map_congr' (fun c hc=>(hg c hc _ (hg' c hc)).symm)]
theorem Dp.kids {t:Tr} {n f:Nat} {s:Int} (h:Dp t n f s) : ∃k,n=k+1/\∀c∈clF t f,∃x,Dp t k c x:=by
 cases h using Dp_i with
 | mk k _ g hf hg=>exact ⟨k,rfl,fun c hc=>⟨g c,hg c hc⟩⟩
theorem Dp.rch {t:Tr} {n f:Nat} {s:Int} (h:Dp t n f s) {x:Nat} (hr:Rch t f x) : ∃m s',m<n/\Dp t m x s':=by
 induction hr using Rch_i with
 | one hc=>
  obtain ⟨k,rfl,hk⟩:=h.kids
  obtain ⟨y,hy⟩:=hk _ hc.2
  exact ⟨k,y,by omega,hy⟩
 | step _ hc ih=>
  obtain ⟨m,s',hm,hd⟩:=ih
  obtain ⟨k,rfl,hk⟩:=hd.kids
  obtain ⟨y,hy⟩:=hk _ hc.2
  exact ⟨k,y,by omega,hy⟩
theorem Dp.acyc {t:Tr} (n:Nat) : ∀ {f:Nat} {s:Int},Dp t n f s->¬Rch t f f:=by
 induction n using Nat.strongRecOn with
 | ind n ih=>
  intro f s h hr
  obtain ⟨m,s',hm,hd⟩:=h.rch hr
  exact ih m hm hd hr
theorem countP_lt {p q:Nat->Bool} : ∀ {l:List Nat},(∀x∈l,p x=true->q x=true)->(∃x∈l,q x=true/\p x=false)->l.countP p<l.countP q
 | [],_,⟨x,hx,_⟩=>by cases hx
 | a::r,h,⟨x,hx,h1,h2⟩=>by
  have hle : ∀l:List Nat,(∀x∈l,p x=true->q x=true)->l.countP p<=l.countP q:=fun l hl=>List.countP_mono_left hl
  rw [List.countP_cons,List.countP_cons]
  rcases List.mem_cons.1 hx with rfl | hx
  ·have:=hle r (fun y hy=>h y (by simp [hy]))
   rw [h1,h2]
   simp
   omega
  ·have:=countP_lt (l:=r) (fun y hy=>h y (by simp [hy])) ⟨x,hx,h1,h2⟩
   have hh:=h a (by simp)
   cases hp:p a with
   | true=>rw [hh hp];simp;omega
   | false=>cases hq:q a <;> simp <;> omega
open Classical in
def rkF (t:Tr) (f:Nat):Nat:=(List.range t.funcs.length).countP (fun x => @decide (x = f ∨ Rch t f x) (pdQ _))
theorem Rch.trans {t:Tr} {a b c:Nat} (h:Rch t a b) (h':Rch t b c):Rch t a c:=by
 induction h' using Rch_i with
 | one h1=>exact .step h h1
 | step _ h1 ih=>exact .step ih h1
open Classical in
theorem rk_call {t:Tr} {f c:Nat} (h:CallR t f c) (ha : ¬Rch t f f):rkF t c<rkF t f:=by
 unfold rkF
 refine countP_lt (fun x _ hx => ?_) ⟨f,List.mem_range.2 h.1,by simp,?_⟩
 ·rw [@decide_eq_true_iff _ (pdQ _)] at hx ⊢
  rcases hx with rfl | hx
  ·exact .inr (.one h)
  ·exact .inr ((Rch.one h).trans hx)
 ·rw [@decide_eq_false_iff_not _ (pdQ _)]
  rintro (h1 | h1)
  ·subst h1
   exact ha (.one h)
  ·exact ha ((Rch.one h).trans h1)
def Acyc (t:Tr) (m:Nat):Prop:=∀x,(x=m∨Rch t m x)->¬Rch t x x
theorem dp_exists {t:Tr} {m:Nat} (hm:m<t.funcs.length) (ha:Acyc t m) : ∀(k f:Nat),(f=m∨Rch t m f)->rkF t f<=k->∃s,Dp t k f s:=by
 intro k
 induction k with
 | zero=>
  intro f hf hk
  have hlt:f<t.funcs.length:=by rcases hf with rfl | h;exact hm;exact h.lt
  have:0<rkF t f:=by
   unfold rkF
   rw [List.countP_pos_iff]
   exact ⟨f,List.mem_range.2 hlt,by simp⟩
  omega
 | succ k ih=>
  intro f hf hk
  have hlt:f<t.funcs.length:=by rcases hf with rfl | h;exact hm;exact h.lt
  have h0 : ∀c,∃x,c∈clF t f->Dp t k c x:=by
   intro c
   by_cases hc:c∈clF t f
   ·have hcr:CallR t f c:=⟨hlt,hc⟩
    have hlive:c=m∨Rch t m c:=by
     rcases hf with rfl | h
     ·exact .inr (.one hcr)
     ·exact .inr (.step h hcr)
    obtain ⟨x,hx⟩:=ih c hlive (by have:=rk_call hcr (ha f hf);omega)
    exact ⟨x,fun _=>hx⟩
   ·exact ⟨0,fun h=>absurd h hc⟩
  exact ⟨_,.mk k f (fun c=>(h0 c).choose) hlt (fun c hc=>(h0 c).choose_spec hc)⟩
theorem nodup_len : ∀(l l':List Nat),l.Nodup->(∀x∈l,x∈l')->l.length<=l'.length
 | [],_,_,_=>by simp
 | a::r,l',hn,hs=>by
  have ha:=hs a (by simp)
  have hn':=List.nodup_cons.1 hn
  have:=nodup_len r (l'.erase a) hn'.2 (fun x hx=>(List.mem_erase_of_ne (by rintro rfl;exact hn'.1 hx)).2 (hs x (by simp [hx])))
  rw [List.length_erase_of_mem ha] at this
  have hp:0<l'.length:=List.length_pos_of_mem ha
  simp only [l_c]
  omega
open Classical in
theorem rk_le {t:Tr} {m f:Nat} {live:List Nat} (hf:f=m∨Rch t m f) (hl : ∀x,(x=m∨Rch t m x)->x∈live):rkF t f<=live.length:=by
 unfold rkF
 rw [List.countP_eq_length_filter]
 refine nodup_len _ _ (List.nodup_range.filter _) (fun x hx=>hl x ?_)
 have:=(List.mem_filter.1 hx).2
 rw [@decide_eq_true_iff _ (pdQ _)] at this
 rcases this with rfl | h
 ·exact hf
 ·rcases hf with rfl | h1
  ·exact .inr h
  ·exact .inr (h1.trans h)
open Classical in
theorem rk_all (t:Tr) (f:Nat):rkF t f<=t.funcs.length:=by
 unfold rkF
 have:=List.countP_le_length (p := fun x => @decide (x = f ∨ Rch t f x) (pdQ _)) (l:=List.range t.funcs.length)
 simpa using this
theorem circE_acyc {t:Tr} {m:Nat} : ∀(n i:Nat),(circE t m i n).1=0->∀x,i<=x->x<i+n->(x=m∨Rch t m x)->¬Rch t x x
 | 0,i,_,x,h1,h2,_=>by omega
 | n+1,i,h,x,h1,h2,hx=>by
  rw [circE] at h
  by_cases hz:(i=m∨Rch t m i)/\Rch t i i
  ·rw [if_pos hz] at h;simp at h
  ·rw [if_neg hz] at h
   by_cases e:x=i
   ·subst e;exact fun hr=>hz ⟨hx,hr⟩
   ·exact circE_acyc n (i+1) h x o_ o_ hx
theorem fault_any (C:Nat) (e fn st:Int) (w:World) (h5:w.cell? ⟨C,5,none⟩=some (.int .i64 fn)) (h6:w.cell? ⟨C,6,none⟩=some (.int .i64 st)) :
  Calls Tryz.prog 126 #[.pointer (some ⟨C,0,none⟩),.int .i64 e] w fun ev w'=>ev = .returned (.iface 250 (.agg #[.int .i64 e,.int .i64 fn,.int .i64 st]))/\w'=w:=by
 go_enter Tryz.func126,Tryz.ntmps126
 go_wp2_with fail
 go_ret
 exact ⟨rfl,rfl⟩
theorem look_zero {W:World} {b nn:Nat} {D:DataW Unit} {f:ByteArray->Option Int} (hown:W.ownsMap Tryz.prog 9 (plainElem (H:=Unit) Tryz.prog 2) b nn D) (hN:MapIs D f) {s:ByteArray} (hs:s.size<=maxLen) (h:f s=none) :
  (Instr.lookup 52 (.map (some b)) (.string s) false).run Tryz.prog W = .ok (.int .i64 0) W:=by
 obtain ⟨c,hrun,hc,_⟩:=hown.lookup_int (Maps.string_keyed Tryz.underlying9) Tryz.underlying52 Tryz.underlying2 (Tryz.zeroValue2 _) (WideMaps.keyOf_string_mk Tryz.underlying9 hs)
 have hh:=hN.has s
 rw [h] at hh
 rw [Maps.atKey_of_not_has hh] at hc
 simp only [DataW.lit.injEq,Lit.int.injEq,true_and] at hc
 subst hc
 exact hrun
theorem take_old (C bt nn:Nat) (fn st:Int) (D:DataW Unit) (f:ByteArray->Option Int) (s:ByteArray) (z:Int) (w:World) (h4:w.cell? ⟨C,4,none⟩=some (.map (some bt))) (h5:w.cell? ⟨C,5,none⟩=some (.int .i64 fn)) (h6:w.cell? ⟨C,6,none⟩=some (.int .i64 st))
  (hown:w.ownsMap Tryz.prog 9 (plainElem (H:=Unit) Tryz.prog 2) bt nn D) (hM:MapIs D f) (hs:s.size<=maxLen) (hf:f s=some z) :
  Calls Tryz.prog 155 #[.pointer (some ⟨C,0,none⟩),.string s] w fun ev w'=>ev = .returned (.iface 250 (.agg #[.int .i64 2,.int .i64 fn,.int .i64 st]))/\w'=w:=by
 have hlook:=look_yes hown hM hs hf
 go_enter Tryz.func155,Tryz.ntmps155
 go_wp2_with fail
 refine (fault_any C 2 fn st _ h5 h6).mono ?_
 rintro e w1 ⟨rfl,hw⟩
 rw [hw]
 go_wp2_with fail
 go_ret
 exact ⟨rfl,rfl⟩
theorem take_new (C bt nn:Nat) (D:DataW Unit) (f:ByteArray->Option Int) (s:ByteArray) (w:World) (h4:w.cell? ⟨C,4,none⟩=some (.map (some bt)))
  (hown:w.ownsMap Tryz.prog 9 (plainElem (H:=Unit) Tryz.prog 2) bt nn D) (hM:MapIs D f) (hn:nn<1000000000) (hs:s.size<=maxLen) (hf:f s=none) :
  Calls Tryz.prog 155 #[.pointer (some ⟨C,0,none⟩),.string s] w fun ev w'=>ev = .returned .nilIface/\∃D',w'.ownsMap Tryz.prog 9 (plainElem (H:=Unit) Tryz.prog 2) bt (nn+1) D'/\MapIs D' (setN f s 1)/\w.grownBy w' (some bt):=by
 have hlook:=look_not hown hM hs hf
 have hlook0:=look_zero hown hM hs hf
 have HO:=hide hown
 have HM:=hide hM
 have HS:=hide hs
 go_enter Tryz.func155,Tryz.ntmps155
 go_wp2_with (at_mapUpdate;refine wpList_mapUpdate_own _ rfl _ _ _ 52 rfl 9 2 (Maps.string_keyed Tryz.underlying9) Tryz.underlying52 _ bt nn D rfl HO.out (by unfold maxLen;omega) _ _ _ rfl rfl (WideMaps.keyOf_string_mk Tryz.underlying9 HS.out) _ [] (plainElem_int Tryz.underlying2 (WalkArith.wf_i64 o_)) ?_)
 intro w1 hown1 hgrow1
 have HO1:=hide hown1
 have HG:=hide hgrow1
 go_wp2_with fail
 go_ret
 exact ⟨rfl,_,HO1.out,HM.out.put s 1,HG.out⟩
end Go.Proofs.YtnpidjamplmgjaaGreatDoor
