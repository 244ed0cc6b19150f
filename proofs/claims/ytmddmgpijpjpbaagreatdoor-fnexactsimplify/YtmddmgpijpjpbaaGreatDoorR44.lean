import Derived.RegionTactic
import Derived.Deep.RegionHeldLaw
import Derived.Test.YtmddmgpijpjpbaaGreatDoorR43
set_option linter.unusedSectionVars false
variable [Inhabited Go.Proofs.YtmddmgpijpjpbaaGreatDoor.Pick]
namespace Go.Proofs.YtmddmgpijpjpbaaGreatDoor
open Go.RowKit
set_option linter.unusedVariables false
set_option linter.unusedSimpArgs false
set_option maxRecDepth 100000
set_option maxHeartbeats 16000000
theorem len_flat (L:List (Value × List St)) (h : ∀q∈L,0<q.2.length):L.length<=(L.map (·.2)).flatten.length:=by
 induction L with
 | nil=>simp
 | cons q r ih=>
  have h1:=h q (by simp)
  have h2:=ih (fun x hx=>h x (by simp [hx]))
  simp only [List.map_cons,List.flatten_cons,l_a,l_c]
  omega
theorem info_st:(Tryz.prog.info? 153).map (fun i=>(i.zero,i.size,i.bytes))=some (some .nilIface,1,16):=by kernel_rfl
theorem own_below {B t z n:Nat} {w w':World} {v:Value} {xs:List Value} (h:w.ownsRow B t z v n xs) (hb:Below w.heap.size w w'):w'.ownsRow B t z v n xs:=by
 obtain ⟨g1,g2⟩:=h
 refine ⟨g1,?_⟩
 rcases g2 with g2 | ⟨g,cap,cur,rfl,g3,g4,g5⟩
 ·exact .inl g2
 ·refine .inr ⟨g,cap,cur,rfl,g3,?_,g5⟩
  rw [hb.block g (Array.getElem?_eq_some_iff.1 g4).1]
  exact g4
theorem src_one (W:World) (t0:TypeId) (x0:Value):Src (W.alloc (.cells #[.iface t0 x0] 153)) (.slice (some ⟨W.heap.size,0,none⟩) 1 1) [.iface t0 x0]:=by
 refine ⟨_,_,rfl,(fun h=>by cases h),fun ad had j u hj => ?_⟩
 simp only [Option.some.injEq] at had
 subst had
 have hj0:j=0:=by
  have:=(List.getElem?_eq_some_iff.mp hj).1
  simp at this
  omega
 subst hj0
 simp at hj
 subst hj
 simp [Addr.add]
theorem blockOf_step (ss:List St) (v:Value) (w:World) (hT:Tab w) (hS:Stmts w v ss) (hfit:fitB ss=true) (hok : ∀s∈ss,stmtB s=true/\s.e.length<=2000/\s.f.length<=2000) (hlen:ss.length<=1000)
  (IH : ∀(tt:List St) (u:Value) (W:World),tt.length<ss.length->Below w.heap.size w W->Stmts w u tt->fitB tt=true->(∀s∈tt,s∈ss)->Calls Tryz.prog 60 #[u] W fun e w'=>∃(x:Value) (S':Nat->Prop),e = .returned x/\Bk w' S' x tt/\(∀B,S' B->W.heap.size<=B/\B<w'.heap.size)/\Below W.heap.size W w') :
  Calls Tryz.prog 60 #[v] w fun e w'=>∃(u:Value) (S':Nat->Prop),e = .returned u/\Bk w' S' u ss/\(∀B,S' B->w.heap.size<=B/\B<w'.heap.size)/\Below w.heap.size w w':=by
 have HT:=hide hT
 have HS:=hide hS
 have HOk:=hide hok
 have HFit:=hide hfit
 have HIH:=hide IH
 obtain ⟨av,cv,rfl,-⟩:=hS
 clear hT hok hfit IH
 go_enter Tryz.func60,Tryz.ntmps60
 go_wp2_with fail
 go_loopw [0,3] (fun v0 v3 wr=>∃(rest:List St) (L:List (Value × List St)) (S:Nat->Prop),Stmts w v0 rest/\fitB rest=true/\rest.length<=ss.length/\(∀s∈rest,s∈ss)/\BoI w wr ss rest v3 L S) (fun v0 _ _=>lenV v0)
 case atStart=>exact ⟨ss,[],fun _=>False,HS.out,HFit.out,Nat.le_refl _,fun s h=>h,⟨World.ownsRow_nil _ _ _ _,fun q hq=>by simp at hq,by simp,fun B hB=>hB.elim,Below.refl _ _⟩⟩
 case round=>
  clear HS HFit
  obtain ⟨rest,L,S,hst,hft,hrl,hsub,hbo⟩:=hrel
  have HBo:=hide hbo
  have HSub:=hide hsub
  obtain ⟨va3,vn3,vc3,rfl⟩ : ∃a n c,u3 = .slice a n c:=by
   rcases hbo.row.2 with ⟨rfl,_⟩ | ⟨g,cap,cur,rfl,_⟩
   ·exact ⟨_,_,_,rfl⟩
   ·exact ⟨_,_,_,rfl⟩
  cases rest with
  | nil=>
   obtain ⟨a2,c2,rfl,-⟩:=hst
   clear hbo hsub
   simp only [l_n]
   go_wp2_with fail
   obtain ⟨S',hbk,hS'⟩:=HBo.out.bk
   exact bodyPost_ret (v:=.slice va3 vn3 vc3) (by simp [results,Tryz.results60,go_sem]) rfl ⟨_,S',rfl,hbk,hS',HBo.out.bel⟩
  | cons s r=>
   rw [fitB_cons,Bool.and_eq_true,Bool.and_eq_true,Bool.and_eq_true,decide_eq_true_iff] at hft
   obtain ⟨⟨p1,p2,p3,p4⟩,hf1,hf2,hf3⟩:=hft
   obtain ⟨a2,cap,rfl,hcl,hcm,hc⟩:=hst
   obtain ⟨b0,off,rfl,hs⟩:=hc (by simp)
   have hall:Stmts w (.slice (some ⟨b0,off,none⟩) (s::r).length cap) (s::r):=⟨_,_,rfl,hcl,hcm,fun _=>⟨b0,off,rfl,hs⟩⟩
   have hrest:Stmts w (.slice (if cap=1 then some ⟨b0,off,none⟩ else some ⟨b0,off+6,none⟩) r.length (cap-1)) r:=by
    have:=hall.cut 1 (s::r).length (by simp) (Nat.le_refl _)
    simpa [Addr.add] using this
   obtain ⟨ve,vf,⟨g0,g1,g2,g3,g4,g5⟩,⟨c0,c1,c2,c3,c4,c5⟩,he,hf⟩:=(hs.below hbo.bel).up 0 (by simp)
   simp only [Nat.zero_mul,Nat.add_zero,List.getElem_cons_zero] at c0 c1 c2 c3 c4 c5 g0 g1 g2 g3 g4 g5 he hf
   simp only [l_c] at *
   have HR:=hide hrest
   have h1:(1:Int)<=(r.length:Int)+1:=by omega
   have HNe:=hide he
   have HNf:=hide hf
   have HF1:=hide hf1
   have HF2:=hide hf2
   have HF3:=hide hf3
   obtain ⟨a3,k3,rfl,-⟩:=he
   obtain ⟨a4,k4,rfl,-⟩:=hf
   clear hs hc hall hrest hf1 hf2 hf3 hbo hsub
   go_wp2_with fail
   go_region
   generalize (if cap=1 then some ({block:=b0,off:=off,spot:=none}:Addr) else some {block:=b0,off:=off+6,spot:=none})=a1 at HR ⊢
   generalize hk1:cap-1=k1 at HR ⊢
   have hk1':r.length<=k1:=by omega
   have hk2':k1<=9223372036854775807:=by omega
   clear hk1 c0 c1 c2 c3 c4 c5 g0 g1 g2 g3 g4 g5 h1
   obtain ⟨tn,htn⟩:=Int.eq_ofNat_of_zero_le p1
   obtain ⟨ln,hln⟩:=Int.eq_ofNat_of_zero_le p3
   have hw1:IntKind.i64.wrap ((tn:Int)+(ln:Int))=(tn:Int)+(ln:Int):=by simp [IntKind.wrap,IntKind.bits,IntKind.signed];omega
   go_wp2_with fail
   obtain ⟨X,hX⟩ : ∃X,X=(wr.alloc (.cells #[.int .i64 s.kind,.string s.name,.slice a3 s.e.length k3,.slice a4 s.f.length k4,.int .i64 (tn:Int),.int .i64 (ln:Int)] 117)).drew:=⟨_,rfl⟩
   rw [<-hX]
   have hbX:Bl wr X.drew:=by rw [hX];exact (bel_a _ _).drew.drew
   have hsX:X.drew.heap.size=wr.heap.size+1:=by rw [hX];simp
   have hbw:=HBo.out.bel
   have hbwX:Bl w X.drew:=hbw.trans (hbX.mono hbw.size)
   have HK:Hid (∀W,Bl X.drew W->W.cell? ⟨wr.heap.size,0,none⟩=some (.int .i64 s.kind)/\W.cell? ⟨wr.heap.size,1,none⟩=some (.string s.name)/\W.cell? ⟨wr.heap.size,2,none⟩=some (.slice a3 s.e.length k3)/\W.cell? ⟨wr.heap.size,3,none⟩=some (.slice a4 s.f.length k4)/\W.cell? ⟨wr.heap.size,4,none⟩=some (.int .i64 (tn:Int))/\W.cell? ⟨wr.heap.size,5,none⟩=some (.int .i64 (ln:Int))):=fun W hW=>by
    refine ⟨?_,?_,?_,?_,?_,?_⟩ <;> (rw [hW.cell (by simp only;omega)];show X.cell? _=_;rw [hX];show World.cell? (wr.alloc _) _=_;simp)
   obtain ⟨x0,x1,x2,x3,x4,x5⟩:=HK.out X.drew (Below.refl _ _)
   have htl:tn+ln<=r.length:=by omega
   obtain ⟨a6,k6,hr6,hs6⟩ : ∃a6 k6,(∀w:World,(Instr.slice 83 (.slice a1 r.length k1) (some (.int .i64 (tn:Int))) (some (.int .i64 ((tn:Int)+(ln:Int)))) none).run Tryz.prog w = .ok (.slice a6 ln k6) w)/\Stmts w (.slice a6 ln k6) ((r.take (tn+ln)).drop tn):=by
    have h:=cut_run2 a1 r.length k1 tn (tn+ln) (by omega) (by omega) (by omega) (tn:Int) ((tn:Int)+(ln:Int)) (by omega) (by omega)
    have h':=HR.out.cut tn (tn+ln) (by omega) (by omega)
    rw [show tn+ln-tn=ln by omega] at h h'
    exact ⟨_,_,h,h'⟩
   have hs5:Stmts w (.slice a1 tn k1) (r.take tn):=HR.out.head tn (by omega)
   have hr5 : ∀w:World,(Instr.slice 83 (.slice a1 r.length k1) none (some (.int .i64 (tn:Int))) none).run Tryz.prog w = .ok (.slice a1 tn k1) w:=fun w=>by
    have hz:Tryz.prog.elem 83=117:=by kernel_rfl
    have hsz:(sizeOf 117).run Tryz.prog w = .ok 6 w:=by kernel_rfl
    rw [run_slice_h w 83 a1 r.length k1 (by rw [hz];exact Tryz.underlying83) .i64 _ (by omega) (by omega),hz,hsz]
    simp only [Result.andThen,sliced,Int.toNat_natCast,Nat.sub_zero,Nat.zero_mul,Int.toNat_zero]
    cases a1 <;> simp [Addr.add]
   have HI1:=hide fun W (hW:Bl w W)=>HIH.out (r.take tn) _ W (by simp;omega) hW hs5 (by have:=HF1.out;rw [htn] at this;exact this) (fun z hz=>HSub.out z (by simp [List.mem_of_mem_take hz]))
   have HI2:=hide fun W (hW:Bl w W)=>HIH.out _ _ W (by simp;omega) hW hs6 (by have:=HF2.out;rw [htn,hln] at this;exact this) (fun z hz=>HSub.out z (by simp [List.mem_of_mem_take (List.mem_of_mem_drop hz)]))
   have HSt:Hid (∀(y1 y2:Value) (S1 S2:Nat->Prop) (wa wb:World),Bk wa S1 y1 (r.take tn)->(∀B,S1 B->X.drew.heap.size<=B/\B<wa.heap.size)->Bl X.drew wa->Bk wb S2 y2 ((r.take (tn+ln)).drop tn)->(∀B,S2 B->wa.heap.size<=B/\B<wb.heap.size)->Bl wa wb->Calls Tryz.prog 99 #[.agg #[.int .i64 s.kind,.string s.name,.slice a3 s.e.length k3,.slice a4 s.f.length k4,.int .i64 (tn:Int),.int .i64 (ln:Int)],y1,y2] wb fun e w'=>∃(t0:TypeId) (x0:Value) (S3:Nat->Prop),e = .returned (.iface t0 x0)/\Bv w' S3 (.iface t0 x0) (s::r.take (tn+ln))/\(∀B,S3 B->X.drew.heap.size<=B/\B<w'.heap.size)/\Bl wb w'):=fun y1 y2 S1 S2 wa wb hk1 hs1 hba hk2 hs2 hbb=>by
    have hbX2:Bl X.drew wb:=hba.trans (hbb.mono hba.size)
    have hbwb:Bl w wb:=hbwX.trans (hbX2.mono hbwX.size)
    have hbrb:Bl wr wb:=hbX.trans (hbX2.mono hbX.size)
    obtain ⟨A,vs,F,q1,q2,q3⟩:=hk1.bel (fun B hB=>(hs1 B hB).2) hbb
    obtain ⟨D,us,H,q4,q5,q6⟩:=hk2
    obtain ⟨o1,o2,o3⟩:=HOk.out s (HSub.out s (by simp))
    have sz1:=hba.size
    have sz2:=hbb.size
    have e1:(r.take tn).length=tn:=by simp;omega
    have e2:((r.take (tn+ln)).drop tn).length=ln:=by simp;omega
    have h:=stOf_any s o1 o2 o3 (.slice a3 s.e.length k3) (.slice a4 s.f.length k4) y1 y2 (fun B=>S1 B∨S2 B) wb (HT.out.below HT.out.size hbwb) (HNe.out.below hbrb) (HNf.out.below hbrb) (fun B hB=>by rcases hB with hB | hB;have:=hs1 B hB;omega;exact (hs2 B hB).2) A D vs us F H (q1.keep (fun B hB=>.inl hB) (fun B _=>rfl)) (fun i hi=>(q2 i hi).keep (fun B hB=>.inl hB) (fun B _=>rfl)) (q4.keep (fun B hB=>.inr hB) (fun B _=>rfl)) (fun i hi=>(q5 i hi).keep (fun B hB=>.inr hB) (fun B _=>rfl)) ⟨by rw [<-q3,e1];exact htn,by rw [<-q6,e2];exact hln⟩
    rw [htn,hln] at h
    refine h.mono ?_
    rintro e w' ⟨u,S',rfl,hbv,hS',hbe⟩
    obtain ⟨t0,z0,rfl⟩:=hbv.isI
    rw [<-q3,<-q6] at hbv
    have el:s::r.take tn++(r.take (tn+ln)).drop tn=s::r.take (tn+ln):=by
     rw [List.cons_append]
     congr 1
     have e3:r.take tn=(r.take (tn+ln)).take tn:=by rw [List.take_take];congr 1;omega
     rw [e3,List.take_append_drop]
    rw [el] at hbv
    refine ⟨t0,z0,_,rfl,hbv,fun B hB => ?_,hbe⟩
    have sz3:=hbe.size
    rcases hB with (hB | hB) | hB
    ·have:=hs1 B hB;omega
    ·have:=hs2 B hB;omega
    ·have:=hS' B hB;omega
   have HXe:=hide hX
   clear hX
   obtain ⟨iS,hjS,hyS0,hyS1,hyS2⟩:=info_parts info_st
   have HRow:Hid (∀W,Bl wr W->W.ownsRow w.heap.size 153 1 (.slice va3 vn3 vc3) (L.map (·.1)).length (L.map (·.1))):=fun W hW=>by rw [List.length_map];exact own_below HBo.out.row hW
   have HSrc:=hide fun (W:World) (t0:TypeId) (x0:Value)=>src_one W t0 x0
   have hLl:(L.map (·.1)).length<=1000000:=by
    rw [List.length_map]
    have h1:=len_flat L (fun q hq=>(HBo.out.bv q hq).pos)
    have h2:=congrArg List.length HBo.out.join
    rw [l_a] at h2
    omega
   have hne:some wr.heap.size≠(Value.slice va3 vn3 vc3).ownBlock:=fun e=>by have:=(World.ownsRow.lt HBo.out.row _ e.symm).2;omega
   obtain ⟨a7,k7,hr7,hs7⟩ : ∃a7 k7,(∀w:World,(Instr.slice 83 (.slice a1 r.length k1) (some (.int .i64 ((tn:Int)+(ln:Int)))) none none).run Tryz.prog w = .ok (.slice a7 (r.length-(tn+ln)) k7) w)/\Stmts w (.slice a7 (r.length-(tn+ln)) k7) (r.drop (tn+ln)):=by
    have h':=HR.out.cut (tn+ln) r.length (by omega) (Nat.le_refl _)
    rw [List.take_length] at h'
    refine ⟨_,_,fun w => ?_,h'⟩
    have hz:Tryz.prog.elem 83=117:=by kernel_rfl
    have hsz:(sizeOf 117).run Tryz.prog w = .ok 6 w:=by kernel_rfl
    have e:((tn:Int)+(ln:Int))=((tn+ln:Nat):Int):=by omega
    rw [e,run_slice_l w 83 a1 r.length k1 (by rw [hz];exact Tryz.underlying83) .i64 _ (by omega) (by omega),hz,hsz]
    simp only [Result.andThen,sliced,Int.toNat_natCast]
   go_region_held_law (fun W=>W.cell? ⟨wr.heap.size,0,none⟩=some (.int .i64 s.kind)/\W.cell? ⟨wr.heap.size,1,none⟩=some (.string s.name)/\W.cell? ⟨wr.heap.size,2,none⟩=some (.slice a3 s.e.length k3)/\W.cell? ⟨wr.heap.size,3,none⟩=some (.slice a4 s.f.length k4)/\W.cell? ⟨wr.heap.size,4,none⟩=some (.int .i64 (tn:Int))/\W.cell? ⟨wr.heap.size,5,none⟩=some (.int .i64 (ln:Int)))
    (first | go_keep | (go_split_ands;exact ⟨za0,za1,za2,za3,za4,za5⟩) | (go_split_ands;exact ⟨zb0,zb1,zb2,zb3,zb4,zb5⟩) | (go_split_ands;exact ⟨zc0,zc1,zc2,zc3,zc4,zc5⟩) | (go_split_ands;exact ⟨zd0,zd1,zd2,zd3,zd4,zd5⟩))
    (first
    | (with_reducible refine Calls.mono (HI1.out X.drew hbwX) ?_;rintro e wa ⟨y1,S1,rfl,hk1,hs1,hba⟩;obtain ⟨za0,za1,za2,za3,za4,za5⟩:=HK.out wa hba)
    | (with_reducible refine Calls.mono (HI2.out wa (hbwX.trans (hba.mono hbwX.size))) ?_;rintro e wb ⟨y2,S2,rfl,hk2,hs2,hbb⟩;obtain ⟨zb0,zb1,zb2,zb3,zb4,zb5⟩:=HK.out wb (hba.trans (hbb.mono hba.size)))
    | (with_reducible refine Calls.mono (HSt.out y1 y2 S1 S2 wa wb hk1 hs1 hba hk2 hs2 hbb) ?_;rintro e wc ⟨t0,x0,S3,rfl,hbv,hs3,hbc⟩;have hwX:Bl X.drew wc:=(hba.trans (hbb.mono hba.size)).trans (hbc.mono (hba.trans (hbb.mono hba.size)).size);have hwc:Bl wr wc:=hbX.trans (hwX.mono hbX.size);have hltc:wr.heap.size<wc.heap.size:=(by have:=hwX.size;omega);obtain ⟨zc0,zc1,zc2,zc3,zc4,zc5⟩:=HK.out wc ((hba.trans (hbb.mono hba.size)).trans (hbc.mono (hba.trans (hbb.mono hba.size)).size)))
    | (refine step_appV (P:=Tryz.prog) (by rfl) _ _ 107 (by rfl) w.heap.size 153 iS _ Tryz.underlying107 hjS hyS0 hyS1 hyS2 rfl (.slice va3 vn3 vc3) (L.map (·.1)) (by rfl) (HRow.out _ (hwc.alloc hwc.size _)) (.slice (some ⟨wc.heap.size,0,none⟩) 1 1) [.iface t0 x0] (by rfl) (HSrc.out wc t0 x0) (fun u hu=>by simp only [List.mem_cons,List.not_mem_nil,or_false] at hu;subst hu;rfl) (by simp only [l_c,l_n];omega) (by have:=hwc.size;have:=hbw.size;simp only [World.size_alloc];omega) ?_;intro v' w' hown' hg' hf';obtain ⟨zd0,zd1,zd2,zd3,zd4,zd5⟩:w'.cell? ⟨wr.heap.size,0,none⟩=some (.int .i64 s.kind)/\w'.cell? ⟨wr.heap.size,1,none⟩=some (.string s.name)/\w'.cell? ⟨wr.heap.size,2,none⟩=some (.slice a3 s.e.length k3)/\w'.cell? ⟨wr.heap.size,3,none⟩=some (.slice a4 s.f.length k4)/\w'.cell? ⟨wr.heap.size,4,none⟩=some (.int .i64 (tn:Int))/\w'.cell? ⟨wr.heap.size,5,none⟩=some (.int .i64 (ln:Int)):=⟨hg'.cell ((World.cell?_alloc_lt wc _ ⟨wr.heap.size,0,none⟩ hltc).trans zc0) hne,hg'.cell ((World.cell?_alloc_lt wc _ ⟨wr.heap.size,1,none⟩ hltc).trans zc1) hne,hg'.cell ((World.cell?_alloc_lt wc _ ⟨wr.heap.size,2,none⟩ hltc).trans zc2) hne,hg'.cell ((World.cell?_alloc_lt wc _ ⟨wr.heap.size,3,none⟩ hltc).trans zc3) hne,hg'.cell ((World.cell?_alloc_lt wc _ ⟨wr.heap.size,4,none⟩ hltc).trans zc4) hne,hg'.cell ((World.cell?_alloc_lt wc _ ⟨wr.heap.size,5,none⟩ hltc).trans zc5) hne⟩))
   have HNx:Hid (∀w9,w9=w'->BoI w w9 ss (r.drop (tn+ln)) v' (L++[(.iface t0 x0,s::r.take (tn+ln))]) (fun B=>S B∨S3 B)):=fun w9 e9=>by
    subst e9
    have hbo:BoI w wr ss (s::r.take (tn+ln)++r.drop (tn+ln)) (.slice va3 vn3 vc3) L S:=by
     have:=HBo.out
     rw [List.cons_append,List.take_append_drop]
     exact this
    have hal:Bl wc (wc.alloc (.cells #[.iface t0 x0] 153)):=bel_a _ _
    exact hbo.next (hwc.trans (hal.mono hwc.size)) (hbv.bel (fun B hB=>(hs3 B hB).2) hal) (fun B hB=>by have:=hs3 B hB;simp only [World.size_alloc];omega) hg' hown' hf'
   have HNw:=HNx.out _ rfl
   have HN:=hide HNw
   have HS7:=hide hs7
   have HF3':Hid (fitB (r.drop (tn+ln))=true):=by have:=HF3.out;rw [htn,hln] at this;exact this
   clear HNx HNw hs7 hs6 hs5 hown' hg' hf' hk1 hk2 hbv
   go_wp2_with fail
   go_roundw
   case rel=>exact ⟨r.drop (tn+ln),_,_,HS7.out,HF3'.out,by simp;omega,fun z hz=>HSub.out z (by simp [List.mem_of_mem_drop hz]),HN.out⟩
   case measure=>simp [lenV];omega
theorem blockOf_any:BlockOfC:=by
 intro ss v w hT hS hfit hok hlen
 have main : ∀(n:Nat) (tt:List St) (u:Value) (W:World),tt.length<=n->Tab W->Stmts W u tt->fitB tt=true->(∀s∈tt,stmtB s=true/\s.e.length<=2000/\s.f.length<=2000)->tt.length<=1000->Calls Tryz.prog 60 #[u] W fun e w'=>∃(x:Value) (S':Nat->Prop),e = .returned x/\Bk w' S' x tt/\(∀B,S' B->W.heap.size<=B/\B<w'.heap.size)/\Bl W w':=by
  intro n
  induction n with
  | zero=>intro tt u W hn h1 h2 h3 h4 h5;exact blockOf_step tt u W h1 h2 h3 h4 h5 (fun t' _ _ hlt=>by omega)
  | succ n ih=>intro tt u W hn h1 h2 h3 h4 h5;exact blockOf_step tt u W h1 h2 h3 h4 h5 (fun t' u' W' hlt hb hs hf hsub=>ih t' u' W' (by omega) (h1.below h1.size hb) (hs.below hb) hf (fun s hs'=>h4 s (hsub s hs')) (by omega))
 exact main ss.length ss v w (Nat.le_refl _) hT hS hfit hok hlen
structure TdI (w wr:World) (S S':Nat->Prop) (v:Value) (R:List (Value × List St)):Prop where
 row:wr.ownsRow w.heap.size 153 1 v (R.map (·.1)).length (R.map (·.1))
 bv : ∀q∈R,Bv wr (fun B=>S B∨S' B) q.1 q.2
 rng : ∀B,S' B->w.heap.size<=B/\B<wr.heap.size/\some B≠v.ownBlock
 bel:Below w.heap.size w wr
theorem TdI.nil (w:World) (S:Nat->Prop):TdI w w S (fun _=>False) (.slice none 0 0) []:=
 ⟨World.ownsRow_nil _ _ _ _,fun q hq=>(by cases hq),fun B hB=>hB.elim,Below.refl _ _⟩
theorem TdI.bel' {w wr w1:World} {S S':Nat->Prop} {v:Value} {R:List (Value × List St)} (h:TdI w wr S S' v R) (hS : ∀B,S B->B<w.heap.size) (hb:Below wr.heap.size wr w1):TdI w w1 S S' v R:=by
 have hs:=h.bel.size
 refine ⟨ownB h.row hb,fun q hq=>(h.bv q hq).bel (fun B hB => ?_) hb,fun B hB => ?_,h.bel.trans (hb.mono hs)⟩
 ·rcases hB with hB | hB
  ·have:=hS B hB;omega
  ·exact (h.rng B hB).2.1
 ·obtain ⟨r1,r2,r3⟩:=h.rng B hB
  exact ⟨r1,Nat.lt_of_lt_of_le r2 hb.size,r3⟩
theorem TdI.more {w wr:World} {S S' S2:Nat->Prop} {v:Value} {R:List (Value × List St)} (h:TdI w wr S S' v R) (h2 : ∀B,S2 B->w.heap.size<=B/\B<wr.heap.size/\some B≠v.ownBlock):TdI w wr S (fun B=>S' B∨S2 B) v R:=by
 refine ⟨h.row,fun q hq=>(h.bv q hq).keep (fun B hB => ?_) (fun _ _=>rfl),fun B hB => ?_,h.bel⟩
 ·rcases hB with hB | hB
  ·exact .inl hB
  ·exact .inr (.inl hB)
 ·rcases hB with hB | hB
  ·exact h.rng B hB
  ·exact h2 B hB
theorem TdI.next {w wc w':World} {S S':Nat->Prop} {v v' u:Value} {l:List St} {R:List (Value × List St)} {o:Obj} (h:TdI w wc S S' v R) (hS : ∀B,S B->B<w.heap.size) (hu:Bv wc (fun B=>S B∨S' B) u l)
  (hg:(wc.alloc o).grownBy w' v.ownBlock) (hrow:w'.ownsRow w.heap.size 153 1 v' (R.map (·.1)++[u]).length (R.map (·.1)++[u])) (hf : ∀k,v'.ownBlock=some k->v.ownBlock=some k∨(wc.alloc o).heap.size<=k):TdI w w' S S' v' (R++[(u,l)]):=by
 have hs:=h.bel.size
 have ho : ∀k,v.ownBlock=some k->w.heap.size<=k/\k<wc.heap.size:=fun k hk=>World.ownsRow.lt h.row k hk
 have hk : ∀B,S B∨S' B->w'.heap[B]? = wc.heap[B]? := fun B hB=>by
  have hlt:B<wc.heap.size:=by
   rcases hB with hB | hB
   ·have:=hS B hB;omega
   ·exact (h.rng B hB).2.1
  have hne:some B≠v.ownBlock:=by
   rcases hB with hB | hB
   ·intro e
    have:=ho B e.symm
    have:=hS B hB
    omega
   ·exact (h.rng B hB).2.2
  rw [hg.block B (by simp;omega) hne]
  exact ((Below.refl wc.heap.size wc).alloc (Nat.le_refl _) o).block B hlt
 refine ⟨by simpa using hrow,fun q hq => ?_,fun B hB => ?_,?_⟩
 ·rcases List.mem_append.1 hq with hq | hq
  ·exact (h.bv q hq).keep (fun _ h=>h) hk
  ·simp only [List.mem_singleton] at hq
   subst hq
   exact hu.keep (fun _ h=>h) hk
 ·obtain ⟨r1,r2,r3⟩:=h.rng B hB
  refine ⟨r1,?_,fun e => ?_⟩
  ·have:=hg.size
   simp at this
   omega
  ·rcases hf B e.symm with h1 | h1
   ·exact r3 h1.symm
   ·simp at h1;omega
 ·exact (h.bel.alloc hs o).grown hg (by simp;omega) (fun g hg'=>(ho g hg').1)
theorem TdI.keepB {w wc w':World} {S S':Nat->Prop} {v:Value} {R:List (Value × List St)} {o:Obj} (h:TdI w wc S S' v R) (hS : ∀B,S B->B<w.heap.size) (hg:(wc.alloc o).grownBy w' v.ownBlock) : ∀B,S B∨S' B->w'.heap[B]? = wc.heap[B]? := by
 intro B hB
 have hs:=h.bel.size
 have hlt:B<wc.heap.size:=by
  rcases hB with hB | hB
  ·have:=hS B hB;omega
  ·exact (h.rng B hB).2.1
 have hne:some B≠v.ownBlock:=by
  rcases hB with hB | hB
  ·intro e
   have:=(World.ownsRow.lt h.row B e.symm).1
   have:=hS B hB
   omega
  ·exact (h.rng B hB).2.2
 rw [hg.block B (by simp;omega) hne]
 exact ((Below.refl wc.heap.size wc).alloc (Nat.le_refl _) o).block B hlt
theorem TdI.tid {w wr:World} {S S':Nat->Prop} {v:Value} {R:List (Value × List St)} (h:TdI w wr S S' v R) (hr:RetLast R):Tid w wr S v (flatL R):=by
 have h0:=h.row
 refine ⟨fun B=>S' B∨v.ownBlock=some B,R,⟨?_,fun q hq=>(h.bv q hq).keep (fun B hB => ?_) (fun _ _=>rfl)⟩,fun B hB => ?_,rfl,hr⟩
 ·rcases h.row.2 with ⟨hv,hn⟩ | ⟨g,cap,cur,hv,hbg,hg,hnc,hcm,hcs,htake⟩
  ·rw [List.length_map] at hn
   exact ⟨none,0,by rw [hv,hn],by omega,by omega,fun hp=>by omega⟩
  ·rw [List.length_map] at hnc hv
   refine ⟨_,cap,hv,hnc,by unfold maxLen at hcm;omega,fun hp=>⟨g,rfl,.inr (.inr (by rw [hv];rfl)),fun i hi => ?_⟩⟩
   have hj:(R.map (·.1))[i]? = some ((R.getD i (.nilFunc,[])).1):=by
    simp [List.getD_eq_getElem?_getD,List.getElem?_eq_getElem hi]
   have:=World.ownsRow.cells h0 (g:=g) (by rw [hv];rfl) i _ hj
   rw [addrO] at this
   simpa using this
 ·rcases hB with hB | hB
  ·exact .inl hB
  ·exact .inr (.inl hB)
 ·rcases hB with hB | hB
  ·exact ⟨(h.rng B hB).1,(h.rng B hB).2.1⟩
  ·exact World.ownsRow.lt h.row B hB
end Go.Proofs.YtmddmgpijpjpbaaGreatDoor
