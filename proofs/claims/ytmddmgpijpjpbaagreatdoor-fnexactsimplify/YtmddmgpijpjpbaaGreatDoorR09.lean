import Derived.Test.YtmddmgpijpjpbaaGreatDoorR08
import Derived.Deep.RegionHeld
import Derived.Deep.RegionHeldLaw
import Derived.Deep.RegionHeld3
namespace Go.Proofs.YtmddmgpijpjpbaaGreatDoor
open Go.RowKit
set_option linter.unusedVariables false
set_option linter.unusedSimpArgs false
set_option maxRecDepth 100000
set_option maxHeartbeats 16000000
theorem raisedJ_any (v:Value) (e:List Nd) (w:World) (hTab:Tab w) (hN:Nodes w v e) (hone:oneB e=true) (hl:e.length<=2000) :
    Calls Tryz.prog 134 #[v,.func (Fn.func 135) #[] #[]] w fun x w'=>∃u S,x = .returned u/\Tv w' S u e/\(∀B,S B->w.heap.size<=B/\B<w'.heap.size)/\Below w.heap.size w w':=by
  obtain ⟨i0,hi0,hz0,hz1,hz2⟩:=info_parts info_nv
  obtain ⟨a,cap,rfl,hcl,hcm,hc⟩:=hN
  have HC:Hid (0<e.length->∃b off,a=some ⟨b,off,none⟩/\NodesC w b off e):=hc
  have HOne:Hid (oneB e=true):=hone
  have HTab:Hid (Tab w):=hTab
  clear hc hone hTab
  go_enter Tryz.func134,Tryz.ntmps134
  go_wp2_with fail
  go_loopw [5,12] (fun st ix wr=>∃k:Nat,k<=e.length/\ix = .int .i64 k/\∃T S,RJ w wr e k st T S) (fun _ ix _=>e.length-(intOf ix).toNat)
  case atStart=>exact ⟨0,Nat.zero_le _,rfl,[],fun _=>False,by simp,by simp,World.ownsRow_nil _ _ _ _,fun B h=>h.elim,Below.refl _ _⟩
  case round=>
    obtain ⟨k,hk,rfl,T,S,hI⟩:=hrel
    have HI:Hid (RJ w wr e k u5 T S):=hI
    obtain ⟨pa,pc,rfl,hp1,hp2,hp3,hp4⟩:=hI.row.form
    simp only [List.length_map] at hp1 HI ⊢
    by_cases hlt:k<e.length
    · obtain ⟨b,off,rfl,hcc⟩:=HC.out (by omega)
      obtain ⟨d0,d1,d2⟩:=(hcc.below hI.bel) k hlt
      obtain ⟨hn,hA⟩:=segs_room HOne.out hI.segs hlt hI.flat
      rw [List.length_map] at hA
      have hA0:=arity_good hn
      obtain ⟨A,hAe⟩ : ∃A:Nat,arity e[k]=A:=⟨(arity e[k]).toNat,by omega⟩
      obtain ⟨lo,hlo⟩ : ∃lo,lo+A=T.length:=⟨T.length-A,by omega⟩
      have HAe:Hid (arity e[k]=A):=hAe
      have HNb:Hid (nodeB e[k]=true):=hn
      have hkb:=kind_good hn
      have HOp:Hid (∀W,Below wr.heap.size wr W->Calls Tryz.prog 162 #[.agg #[.int .i64 e[k].kind,.int .i64 e[k].val,.string e[k].name]] W fun x w'=>x = .returned (.int .i64 A)/\Below W.heap.size W w'):=fun W hW=>by
        have:=opc_any e[k] W (HTab.out.below HTab.out.size (hI.bel.trans (hW.mono hI.bel.size))) hkb
        rw [hAe] at this
        exact this
      have hTl:T.length<=2000:=by
        have h1:=wholeTo_segs _ hI.segs 0 (Int.le_refl _)
        have h2:=(wholeTo_bd _ _ _ h1 (Int.le_refl 0)).2
        rw [hI.flat] at h2
        simp only [List.length_map,List.length_take] at h2
        omega
      have hsl : ∀W:World,(Instr.slice 211 (.slice pa T.length pc) (some (.int .i64 lo)) none none).run Tryz.prog W = .ok (.slice (if pc=lo then pa else pa.map (·.add (lo*1))) (T.length-lo) (pc-lo)) W:=vcut_l pa T.length pc lo (by omega) hp1
      have hsh : ∀W:World,(Instr.slice 211 (.slice pa T.length pc) none (some (.int .i64 lo)) none).run Tryz.prog W = .ok (.slice pa lo pc) W:=vcut_h pa T.length pc lo (by omega) hp1
      have hw1:IntKind.i64.wrap ((T.length:Int)-(A:Int))=(lo:Int):=by rw [wrapI64];omega
      have hw2:((T.length:Int)-(A:Int))=(lo:Int):=by omega
      have HSrc:Hid (∀W,Below wr.heap.size wr W->Src W (.slice (if pc=lo then pa else pa.map (·.add (lo*1))) (T.length-lo) (pc-lo)) ((T.drop lo).map (·.2.2))):=fun W hW=>by
        have:=(hI.row.tail lo (by rw [List.length_map];omega)).below hW
        rw [List.length_map,<-List.map_drop] at this
        exact this
      have HOC:Hid (∀u∈(T.drop lo).map (·.2.2),u.oneCell'=true):=fun u hu=>hI.one u (by
        simp only [List.mem_map] at hu ⊢
        obtain ⟨t,ht,rfl⟩:=hu
        exact ⟨t,List.mem_of_mem_drop ht,rfl⟩)
      clear hcc hp3 hp4 hn hI
      have hkk:off+k*3=off+k*3:=rfl
      generalize hnn:e[k]=n at d0 d1 d2 HOp hkb hA hA0 hAe HAe HNb
      have HNn:Hid (e[k]=n):=hnn
      clear hnn hAe hkb hA hA0
      obtain ⟨nk,nv,nm⟩:=n
      simp only at d0 d1 d2 HOp
      generalize (Value.slice (if pc=lo then pa else pa.map (·.add (lo*1))) (T.length-lo) (pc-lo))=sv at hsl HSrc
      go_wp2_with fail
      have hba : ∀o,Below wr.heap.size wr (wr.alloc o):=fun o=>(Below.refl _ _).alloc (Nat.le_refl _) o
      refine (HOp.out _ (hba _)).mono ?_
      rintro x w2 ⟨rfl,hb2⟩
      have hbw2:Below wr.heap.size wr w2:=(hba _).trans (hb2.mono (by simp))
      simp only [World.size_alloc] at hb2
      obtain ⟨f0,f1,f2⟩:=box3 hb2
      have HS2:Hid (Src w2 sv ((T.drop lo).map (·.2.2))):=HSrc.out w2 hbw2
      have HW2:Hid (Below wr.heap.size wr w2):=hbw2
      clear hba hb2 d0 d1 d2 hbw2 HSrc
      go_wp2_with fail
      refine (clone_nv sv _ w2 (by simp;omega) HS2.out HOC.out).mono ?_
      rintro x w3 ⟨uc,rfl,hv3,hb3⟩
      have hbw3:Below wr.heap.size wr w3:=HW2.out.trans (hb3.mono HW2.out.size)
      have g0:=(hb3.cell (p:=⟨wr.heap.size,0,none⟩) (World.block_lt_of_cell? _ _ f0)).trans f0
      have g1:=(hb3.cell (p:=⟨wr.heap.size,1,none⟩) (World.block_lt_of_cell? _ _ f1)).trans f1
      have g2:=(hb3.cell (p:=⟨wr.heap.size,2,none⟩) (World.block_lt_of_cell? _ _ f2)).trans f2
      have HV3:Hid (VRow wr.heap.size w3 uc ((T.drop lo).map (·.2.2))):=VRow.mono hv3 HW2.out.size
      have HW3:Hid (Below wr.heap.size wr w3):=hbw3
      have hbxlt:wr.heap.size<w3.heap.size:=World.block_lt_of_cell? _ _ g0
      have HBd:Hid (Calls Tryz.prog 135 #[.agg #[.int .i64 nk,.int .i64 nv,.string nm],uc] w3.drew fun x w'=>∃ta tb,x = .returned (.iface ta tb)/\(Tv w' (addJ S uc) (.iface ta tb) (joinF (fsJ (T.drop lo)) A++[⟨nk,nv,nm⟩])/\Below w3.heap.size w3 w')/\w'.cell? ⟨wr.heap.size,0,none⟩=some (.int .i64 nk)/\w'.cell? ⟨wr.heap.size,1,none⟩=some (.int .i64 nv)/\w'.cell? ⟨wr.heap.size,2,none⟩=some (.string nm)):=by
        have hd:Below wr.heap.size wr w3.drew:=hbw3.drew
        obtain ⟨k1,k2,k4⟩:=HI.out.kids lo A hlo hd (u:=uc) (World.ownsRow.drew HV3.out)
        refine (nodeOf_any ⟨nk,nv,nm⟩ HNb.out A HAe.out _ uc _ w3.drew k1 (fun i hi=>(k2 i hi).isI)).mono ?_
        rintro x w' ⟨rfl,h2⟩
        have h1:Tv w' (addJ S uc) (nodeV ⟨nk,nv,nm⟩ uc (vsJ (T.drop lo))) (joinF (fsJ (T.drop lo)) A++[⟨nk,nv,nm⟩]):=(nodeT ⟨nk,nv,nm⟩ HNb.out A HAe.out _ _ uc _ _ k1 k2).bel k4 h2
        have h3:Below w3.heap.size w3 w':=(Below.refl _ _).drew.trans h2
        obtain ⟨ta,tb,htab⟩:=h1.isI
        rw [htab] at h1
        refine ⟨ta,tb,by rw [htab],⟨h1,h3⟩,(h3.cell (p:=⟨wr.heap.size,0,none⟩) hbxlt).trans g0,(h3.cell (p:=⟨wr.heap.size,1,none⟩) hbxlt).trans g1,(h3.cell (p:=⟨wr.heap.size,2,none⟩) hbxlt).trans g2⟩
      have HRw:Hid (∀w4 u' o,(Tv w4 (addJ S uc) u' (joinF (fsJ (T.drop lo)) A++[⟨nk,nv,nm⟩])/\Below w3.heap.size w3 w4)->(w4.alloc o).ownsRow w.heap.size 170 1 (.slice pa lo pc) ((T.take lo).map (·.2.2)).length ((T.take lo).map (·.2.2))/\w.heap.size<=(w4.alloc o).heap.size):=by
        intro w4 u' o ⟨_,h⟩
        have h1:=(HI.out.below (hbw3.trans (h.mono hbw3.size))).below ((Below.refl _ _).alloc (Nat.le_refl _) o)
        have h2:=h1.row.head lo (by rw [List.length_map];omega)
        rw [<-List.map_take] at h2
        exact ⟨h2,h1.bel.size⟩
      have HGr:Hid (∀(W W':World) (o:Obj),W.cell? ⟨wr.heap.size,0,none⟩=some (.int .i64 nk)->W.cell? ⟨wr.heap.size,1,none⟩=some (.int .i64 nv)->W.cell? ⟨wr.heap.size,2,none⟩=some (.string nm)->(W.alloc o).grownBy W' (Value.slice pa lo pc).ownBlock->W'.cell? ⟨wr.heap.size,0,none⟩=some (.int .i64 nk)/\W'.cell? ⟨wr.heap.size,1,none⟩=some (.int .i64 nv)/\W'.cell? ⟨wr.heap.size,2,none⟩=some (.string nm)):=by
        intro W W' o h0 h1 h2 hg
        have hne:some wr.heap.size≠(Value.slice pa lo pc).ownBlock:=fun h=>by
          have:=(HI.out.row.own wr.heap.size (by cases pa <;> exact h.symm)).2
          omega
        have key : ∀i v,W.cell? ⟨wr.heap.size,i,none⟩=some v->W'.cell? ⟨wr.heap.size,i,none⟩=some v:=fun i v h=>hg.cell ((((Below.refl W.heap.size W).alloc (Nat.le_refl _) o).cell (p:=⟨wr.heap.size,i,none⟩) (World.block_lt_of_cell? _ _ h)).trans h) hne
        exact ⟨key _ _ h0,key _ _ h1,key _ _ h2⟩
      clear hv3 hb3 f0 f1 f2 hbw3 HS2 HOC HOp
      go_wp2_with fail
      go_region_held_law (fun W=>W.cell? ⟨wr.heap.size,0,none⟩=some (.int .i64 nk)/\W.cell? ⟨wr.heap.size,1,none⟩=some (.int .i64 nv)/\W.cell? ⟨wr.heap.size,2,none⟩=some (.string nm)) (first | go_keep | (go_split_ands;exact ⟨y0,y1,y2⟩))
        (first
        | ((with_reducible refine Calls.mono HBd.out ?_);intro x w4 hx;obtain ⟨ta,tb,hx1,hx2,q0,q1,q2⟩:=hx;subst hx1)
        | (refine step_appV (by rfl) _ _ 211 (by rfl) w.heap.size 170 i0 .nilIface Tryz.underlying211 hi0 hz0 hz1 hz2 (by rfl) (.slice pa lo pc) ((T.take lo).map (·.2.2)) (by rfl) (HRw.out _ _ _ hx2).1 (.slice (some ⟨w4.heap.size,0,none⟩) 1 1) [.iface ta tb] (by rfl) (Src.lit _ _ _) (fun y hy=>by simp at hy;subst hy;rfl) (by simp;omega) (HRw.out _ _ _ hx2).2 ?_;intro v' w6 hown6 hgrow6 hfr6;obtain ⟨y0,y1,y2⟩:=HGr.out _ _ _ q0 q1 q2 hgrow6))
      have HI6:Hid (∃T' S',RJ w w6 e (k+1) v' T' S'):=by
        have hnn:=HNn.out
        refine HI.out.step (w3:=w3) (w4:=w4) (w5:=w4.alloc (.cells #[.iface ta tb] 170)) (u:=uc) hlt lo A hlo (by rw [hnn];exact HNb.out) (by rw [hnn];exact HAe.out) HW3.out HV3.out hx2.2 (by rw [hnn];exact hx2.1) ((Below.refl _ _).alloc (Nat.le_refl _) _) hown6 ?_ ?_
        · have e1:(Value.slice pa lo pc).ownBlock=(Value.slice pa T.length pc).ownBlock:=by cases pa <;> rfl
          rw [<-e1];exact hgrow6
        · have e1:(Value.slice pa lo pc).ownBlock=(Value.slice pa T.length pc).ownBlock:=by cases pa <;> rfl
          rw [<-e1];exact hfr6
      obtain ⟨va,vn,vc,rfl⟩ : ∃va vn vc,v' = .slice va vn vc:=by
        obtain ⟨va,vc,h,_⟩:=VRow.form hown6
        exact ⟨_,_,_,h⟩
      clear hown6 hgrow6 hfr6 hx2 HBd HRw HGr
      go_wp2_with fail
      go_roundw
      case rel=>exact ⟨k+1,by omega,by go_num,HI6.out⟩
      case measure=>simp [intOf];omega
    · obtain rfl:k=e.length:=by omega
      obtain ⟨u,g,⟨cp,hv⟩,hcell,htv⟩:=hI.fin HOne.out
      simp only [Value.slice.injEq] at hv
      obtain ⟨rfl,hv2,rfl⟩:=hv
      have hT1:T.length=1:=by simpa using hv2
      clear hp3 hp4 hv2
      rw [hT1]
      go_wp2_with fail
      go_ret
      exact ⟨_,S,rfl,htv,fun B hB=>⟨(HI.out.sep B hB).1,(HI.out.sep B hB).2.1⟩,HI.out.bel⟩
theorem stOf4 (s:St) (hk:s.kind=4) (ve vf va vb:Value) (S:Nat->Prop) (w:World) (hT:Tab w) (hN:Nodes w ve s.e) (hF : ∃a n c,vf = .slice a n c) (ho:oneB s.e=true) (hl:s.e.length<=2000) (hS : ∀B,S B->B<w.heap.size) (A B:Nat) (vs us:Nat->Value) (F H:Nat->List St) (hA1:Args w S va A vs) (hA2 : ∀i,i<A->Bv w S (vs i) (F i)) (hA3:Args w S vb B us) (hA4 : ∀i,i<B->Bv w S (us i) (H i)) (h0:s.thn=(joinS F A).length/\s.els=(joinS H B).length) :
  Calls Tryz.prog 99 #[.agg #[.int .i64 s.kind,.string s.name,ve,vf,.int .i64 s.thn,.int .i64 s.els],va,vb] w fun e w'=>∃(u:Value) (S':Nat->Prop),e = .returned u/\Bv w' (fun B=>S B∨S' B) u (s::joinS F A++joinS H B)/\(∀B,S' B->w.heap.size<=B/\B<w'.heap.size)/\Below w.heap.size w w':=by
 have HR:=hide fun W (hW:Bl w W)=>raisedJ_any _ s.e W (hT.below hT.size hW) (hN.below hW) ho hl
 obtain ⟨af,nf,cf,rfl⟩:=hF
 obtain ⟨ae,ce,rfl,-⟩:=hN
 obtain ⟨W0,hW0⟩ : ∃W0,W0=w.alloc (.cells #[.int .i64 s.kind,.string s.name,.slice ae s.e.length ce,.slice af nf cf,.int .i64 s.thn,.int .i64 s.els] 117):=⟨_,rfl⟩
 have hB0:Bl w W0:=by rw [hW0];exact (Below.refl _ _).alloc (Nat.le_refl _) _
 have hs0:w.heap.size<W0.heap.size:=by rw [hW0];simp
 have HX:Hid (∀W,Bl W0 W->W.cell? ⟨w.heap.size,0,none⟩=some (.int .i64 s.kind)/\W.cell? ⟨w.heap.size,1,none⟩=some (.string s.name)):=fun W hW=>by
  rw [hW.cell (p:=⟨w.heap.size,0,none⟩) hs0,hW.cell (p:=⟨w.heap.size,1,none⟩) hs0,hW0]
  exact ⟨by simp,by simp⟩
 have HW0:=hide hW0
 have hKp : ∀W (S':Nat->Prop) x,Bl W0 W->Tv W S' x s.e->(∀B,S' B->W0.heap.size<=B/\B<W.heap.size)->Bv W (fun B=>S B∨S' B) (.iface 203 (.agg #[x,va,vb])) (s::joinS F A++joinS H B):=fun W S' x hb ht hs'=>by
  have hbw:=hB0.trans (hb.mono hB0.size)
  have ht':=ht.keep (S':=fun B=>S B∨S' B) (fun B h=>.inr h) (fun B _=>rfl)
  exact .ifs s x va vb A B vs us F H hk ht' (hA1.keep (fun B h=>.inl h) (fun B hB=>hbw.block B (hS B hB))) (fun i hi=>(hA2 i hi).keep (fun B h=>.inl h) (fun B hB=>hbw.block B (hS B hB))) (hA3.keep (fun B h=>.inl h) (fun B hB=>hbw.block B (hS B hB))) (fun i hi=>(hA4 i hi).keep (fun B h=>.inl h) (fun B hB=>hbw.block B (hS B hB))) h0.1 h0.2
 have HKp:=hide hKp
 obtain ⟨aa,ca,hva,-⟩:=hA1
 obtain ⟨ab,cb,hvb,-⟩:=hA3
 subst hva
 subst hvb
 clear hA2 hA4
 have HK:=hide hk
 clear hW0 hKp hT hk h0
 go_enter Tryz.func99,Tryz.ntmps99
 go_wp2_with fail
 rw [<-HW0.out]
 refine (HR.out _ hB0).mono ?_
 rintro e w1 ⟨u,S',rfl,ht,hs',hb1⟩
 have HU:=hide (HKp.out w1 S' u hb1 ht hs')
 obtain ⟨x0,x1⟩:=HX.out w1 hb1
 rw [HK.out] at x0
 obtain ⟨t,y,rfl⟩:=ht.isI
 have hBw:=hB0.trans (hb1.mono hB0.size)
 have HS':Hid (∀B,S' B->w.heap.size<=B/\B<w1.heap.size):=fun B hB=>⟨Nat.le_trans hB0.size (hs' B hB).1,(hs' B hB).2⟩
 clear HX HKp HR ht hs' hb1 HW0
 go_wp2_with fail
 go_ret
 exact ⟨_,S',rfl,HU.out,HS'.out,hBw⟩
theorem stOf5 (s:St) (hk:s.kind=5) (ve vf va vb:Value) (S:Nat->Prop) (w:World) (hT:Tab w) (hN:Nodes w ve s.e) (hF : ∃a n c,vf = .slice a n c) (ho:oneB s.e=true) (hl:s.e.length<=2000) (hS : ∀B,S B->B<w.heap.size) (A:Nat) (vs:Nat->Value) (F:Nat->List St) (hA1:Args w S va A vs) (hA2 : ∀i,i<A->Bv w S (vs i) (F i)) (h0:s.thn=(joinS F A).length/\s.els=0) :
  Calls Tryz.prog 99 #[.agg #[.int .i64 s.kind,.string s.name,ve,vf,.int .i64 s.thn,.int .i64 s.els],va,vb] w fun e w'=>∃(u:Value) (S':Nat->Prop),e = .returned u/\Bv w' (fun B=>S B∨S' B) u (s::joinS F A)/\(∀B,S' B->w.heap.size<=B/\B<w'.heap.size)/\Below w.heap.size w w':=by
 have HR:=hide fun W (hW:Bl w W)=>raisedJ_any _ s.e W (hT.below hT.size hW) (hN.below hW) ho hl
 obtain ⟨af,nf,cf,rfl⟩:=hF
 obtain ⟨ae,ce,rfl,-⟩:=hN
 obtain ⟨W0,hW0⟩ : ∃W0,W0=w.alloc (.cells #[.int .i64 s.kind,.string s.name,.slice ae s.e.length ce,.slice af nf cf,.int .i64 s.thn,.int .i64 s.els] 117):=⟨_,rfl⟩
 have hB0:Bl w W0:=by rw [hW0];exact (Below.refl _ _).alloc (Nat.le_refl _) _
 have hs0:w.heap.size<W0.heap.size:=by rw [hW0];simp
 have HX:Hid (∀W,Bl W0 W->W.cell? ⟨w.heap.size,0,none⟩=some (.int .i64 s.kind)/\W.cell? ⟨w.heap.size,1,none⟩=some (.string s.name)):=fun W hW=>by
  rw [hW.cell (p:=⟨w.heap.size,0,none⟩) hs0,hW.cell (p:=⟨w.heap.size,1,none⟩) hs0,hW0]
  exact ⟨by simp,by simp⟩
 have HW0:=hide hW0
 have hKp : ∀W (S':Nat->Prop) x,Bl W0 W->Tv W S' x s.e->(∀B,S' B->W0.heap.size<=B/\B<W.heap.size)->Bv W (fun B=>S B∨S' B) (.iface 205 (.agg #[x,va])) (s::joinS F A):=fun W S' x hb ht hs'=>by
  have hbw:=hB0.trans (hb.mono hB0.size)
  have ht':=ht.keep (S':=fun B=>S B∨S' B) (fun B h=>.inr h) (fun B _=>rfl)
  exact .whil s x va A vs F hk ht' (hA1.keep (fun B h=>.inl h) (fun B hB=>hbw.block B (hS B hB))) (fun i hi=>(hA2 i hi).keep (fun B h=>.inl h) (fun B hB=>hbw.block B (hS B hB))) h0.1 h0.2
 have HKp:=hide hKp
 obtain ⟨aa,ca,hva,-⟩:=hA1
 subst hva
 clear hA2
 have HK:=hide hk
 clear hW0 hKp hT hk h0
 go_enter Tryz.func99,Tryz.ntmps99
 go_wp2_with fail
 rw [<-HW0.out]
 refine (HR.out _ hB0).mono ?_
 rintro e w1 ⟨u,S',rfl,ht,hs',hb1⟩
 have HU:=hide (HKp.out w1 S' u hb1 ht hs')
 obtain ⟨x0,x1⟩:=HX.out w1 hb1
 rw [HK.out] at x0
 obtain ⟨t,y,rfl⟩:=ht.isI
 have hBw:=hB0.trans (hb1.mono hB0.size)
 have HS':Hid (∀B,S' B->w.heap.size<=B/\B<w1.heap.size):=fun B hB=>⟨Nat.le_trans hB0.size (hs' B hB).1,(hs' B hB).2⟩
 clear HX HKp HR ht hs' hb1 HW0
 go_wp2_with fail
 go_ret
 exact ⟨_,S',rfl,HU.out,HS'.out,hBw⟩
theorem stOf3 (s:St) (hk:s.kind=3) (ve vf va vb:Value) (S:Nat->Prop) (w:World) (hT:Tab w) (hN:Nodes w ve s.e) (hN2:Nodes w vf s.f) (ho:oneB s.e=true) (hl:s.e.length<=2000) (ho2:oneB s.f=true) (hl2:s.f.length<=2000) (h0:s.thn=0/\s.els=0) :
  Calls Tryz.prog 99 #[.agg #[.int .i64 s.kind,.string s.name,ve,vf,.int .i64 s.thn,.int .i64 s.els],va,vb] w fun e w'=>∃(u:Value) (S':Nat->Prop),e = .returned u/\Bv w' (fun B=>S B∨S' B) u [s]/\(∀B,S' B->w.heap.size<=B/\B<w'.heap.size)/\Below w.heap.size w w':=by
 have HR:=hide fun W (hW:Bl w W)=>raisedJ_any _ s.e W (hT.below hT.size hW) (hN.below hW) ho hl
 have HR2:=hide fun W (hW:Bl w W)=>raisedJ_any _ s.f W (hT.below hT.size hW) (hN2.below hW) ho2 hl2
 obtain ⟨af,cf,rfl,-⟩:=hN2
 obtain ⟨ae,ce,rfl,-⟩:=hN
 obtain ⟨W0,hW0⟩ : ∃W0,W0=w.alloc (.cells #[.int .i64 s.kind,.string s.name,.slice ae s.e.length ce,.slice af s.f.length cf,.int .i64 s.thn,.int .i64 s.els] 117):=⟨_,rfl⟩
 have hB0:Bl w W0:=by rw [hW0];exact (Below.refl _ _).alloc (Nat.le_refl _) _
 have hs0:w.heap.size<W0.heap.size:=by rw [hW0];simp
 have HX:Hid (∀W,Bl W0 W->W.cell? ⟨w.heap.size,0,none⟩=some (.int .i64 s.kind)/\W.cell? ⟨w.heap.size,1,none⟩=some (.string s.name)/\W.cell? ⟨w.heap.size,3,none⟩=some (.slice af s.f.length cf)):=fun W hW=>by
  rw [hW.cell (p:=⟨w.heap.size,0,none⟩) hs0,hW.cell (p:=⟨w.heap.size,1,none⟩) hs0,hW.cell (p:=⟨w.heap.size,3,none⟩) hs0,hW0]
  exact ⟨by simp,by simp,by simp⟩
 have HW0:=hide hW0
 have HKp:Hid (∀(W W':World) (S1 S2:Nat->Prop) x y,Bl W W'->Tv W S1 x s.e->(∀B,S1 B->B<W.heap.size)->Tv W' S2 y s.f->Bv W' (fun B=>S B∨(S1 B∨S2 B)) (.iface 201 (.agg #[.string s.name,x,y])) [s]):=fun W W' S1 S2 x y hb h1 hs1 h2=>.store s x y hk (h1.keep (fun B h=>.inr (.inl h)) (fun B hB=>hb.block B (hs1 B hB))) (h2.keep (fun B h=>.inr (.inr h)) (fun B _=>rfl)) h0.1 h0.2
 have HK:=hide hk
 clear hW0 hT hk h0
 go_enter Tryz.func99,Tryz.ntmps99
 go_wp2_with fail
 rw [<-HW0.out]
 refine (HR.out _ hB0).mono ?_
 rintro e w1 ⟨u,S1,rfl,ht,hs1,hb1⟩
 obtain ⟨x0,x1,x3⟩:=HX.out w1 hb1
 rw [HK.out] at x0
 obtain ⟨t,y,rfl⟩:=ht.isI
 have hBw:=hB0.trans (hb1.mono hB0.size)
 have hdr:Bl w w1.drew:=hBw.drew
 have hlw:w.heap.size<w1.drew.heap.size:=World.block_lt_of_cell? _ _ x0
 have d1:w1.drew.cell? ⟨w.heap.size,1,none⟩=some (.string s.name):=x1
 have d3:w1.drew.cell? ⟨w.heap.size,3,none⟩=some (.slice af s.f.length cf):=x3
 have HT1:Hid (Tv w1 S1 (.iface t y) s.e/\(∀B,S1 B->W0.heap.size<=B/\B<w1.heap.size)):=⟨ht,hs1⟩
 have HP:Hid (Calls Tryz.prog 134 #[.slice af s.f.length cf,.func (Fn.func 135) #[] #[]] w1.drew fun x w'=>∃(ta:TypeId) (tb:Value) (S2:Nat->Prop),x = .returned (.iface ta tb)/\(Tv w' S2 (.iface ta tb) s.f/\(∀B,S2 B->w1.heap.size<=B/\B<w'.heap.size))/\Bl w1.drew w'):=(HR2.out _ hdr).mono (by
  rintro x w' ⟨u,S2,rfl,h1,h2,h3⟩
  obtain ⟨ta,tb,rfl⟩:=h1.isI
  exact ⟨ta,tb,S2,rfl,⟨h1,h2⟩,h3⟩)
 clear HX HR HR2 ht hs1 HW0
 go_wp2_with fail
 go_region_held3 (fun W=>W.cell? ⟨w.heap.size,1,none⟩=some (.string s.name)/\W.cell? ⟨w.heap.size,3,none⟩=some (.slice af s.f.length cf)) (go_simp)
  (first
  | ((with_reducible refine Calls.mono HP.out ?_);rintro e w3 ⟨ta,tb,S2,rfl,ht2,hb3⟩;have q1:w3.cell? ⟨w.heap.size,1,none⟩=some (.string s.name):=(hb3.cell (p:=⟨w.heap.size,1,none⟩) hlw).trans d1;have q3:w3.cell? ⟨w.heap.size,3,none⟩=some (.slice af s.f.length cf):=(hb3.cell (p:=⟨w.heap.size,3,none⟩) hlw).trans d3))
 have hb13:Bl w1 w3:=((Below.refl _ _).drew).trans hb3
 have HU:=hide (HKp.out w1 w3 S1 S2 _ _ hb13 HT1.out.1 (fun B hB=>(HT1.out.2 B hB).2) ht2.1)
 have HS':Hid (∀B,(S1 B∨S2 B)->w.heap.size<=B/\B<w3.heap.size):=fun B hB=>by
  have hsz:=hb13.size
  rcases hB with hB | hB
  ·have:=HT1.out.2 B hB;have:=hB0.size;omega
  ·have:=ht2.2 B hB;have:=hBw.size;omega
 have hBf:=hBw.trans (hb13.mono hBw.size)
 clear HKp HT1 ht2 HP
 go_wp2_with fail
 go_ret
 exact ⟨_,_,rfl,HU.out,HS'.out,hBf⟩
theorem stOf12 (s:St) (hk:s.kind=1∨s.kind=2) (ve vf va vb:Value) (S:Nat->Prop) (w:World) (hT:Tab w) (hN:Nodes w ve s.e) (hF : ∃a n c,vf = .slice a n c) (ho:oneB s.e=true) (hl:s.e.length<=2000) (hS : ∀B,S B->B<w.heap.size) (h0:s.thn=0/\s.els=0) :
    Calls Tryz.prog 99 #[.agg #[.int .i64 s.kind,.string s.name,ve,vf,.int .i64 s.thn,.int .i64 s.els],va,vb] w fun e w'=>∃(u:Value) (S':Nat->Prop),e = .returned u/\Bv w' (fun B=>S B∨S' B) u ([s])/\(∀B,S' B->w.heap.size<=B/\B<w'.heap.size)/\Below w.heap.size w w':=by
  have hz_:(∃z_:BitVec 1,s.kind=1)∨(∃z_:BitVec 2,s.kind=2):=(Or.imp (fun h=>⟨0,h⟩) (fun h=>⟨0,h⟩)) hk
  clear hk
  rcases hz_ with ⟨z_,hk⟩ | ⟨z_,hk⟩
  all_goals
    have HR:=hide fun W (hW:Bl w W)=>raisedJ_any _ s.e W (hT.below hT.size hW) (hN.below hW) ho hl
    obtain ⟨af,nf,cf,rfl⟩:=hF
    obtain ⟨ae,ce,rfl,-⟩:=hN
    obtain ⟨W0,hW0⟩ : ∃W0,W0=w.alloc (.cells #[.int .i64 s.kind,.string s.name,.slice ae s.e.length ce,.slice af nf cf,.int .i64 s.thn,.int .i64 s.els] 117):=⟨_,rfl⟩
    have hB0:Bl w W0:=by rw [hW0];exact (Below.refl _ _).alloc (Nat.le_refl _) _
    have hs0:w.heap.size<W0.heap.size:=by rw [hW0];simp
    have HX:Hid (∀W,Bl W0 W->W.cell? ⟨w.heap.size,0,none⟩=some (.int .i64 s.kind)/\W.cell? ⟨w.heap.size,1,none⟩=some (.string s.name)):=fun W hW=>by
      rw [hW.cell (p:=⟨w.heap.size,0,none⟩) hs0,hW.cell (p:=⟨w.heap.size,1,none⟩) hs0,hW0]
      exact ⟨by simp,by simp⟩
    have HW0:=hide hW0
    first
    | (have q_:BitVec 1:=z_
       have hKp : ∀W (S':Nat->Prop) x,Bl W0 W->Tv W S' x s.e->(∀B,S' B->W0.heap.size<=B/\B<W.heap.size)->Bv W (fun B=>S B∨S' B) (.iface 198 (.agg #[.string s.name,x])) ([s]):=fun W S' x hb ht hs'=>by
         have hbw:=hB0.trans (hb.mono hB0.size)
         have ht':=ht.keep (S':=fun B=>S B∨S' B) (fun B h=>.inr h) (fun B _=>rfl)
         exact .decl s x hk ht' h0.1 h0.2
       have HKp:=hide hKp
       clear q_)
    | (have hKp : ∀W (S':Nat->Prop) x,Bl W0 W->Tv W S' x s.e->(∀B,S' B->W0.heap.size<=B/\B<W.heap.size)->Bv W (fun B=>S B∨S' B) (.iface 199 (.agg #[.string s.name,x])) ([s]):=fun W S' x hb ht hs'=>by
         have hbw:=hB0.trans (hb.mono hB0.size)
         have ht':=ht.keep (S':=fun B=>S B∨S' B) (fun B h=>.inr h) (fun B _=>rfl)
         exact .set s x hk ht' h0.1 h0.2
       have HKp:=hide (hKp))
    skip
    first
    | (have q_:BitVec 1:=z_
       have HK:=hide hk
       clear q_)
    | (have HK:Hid (s.kind=2):=hk)
    clear hW0 hKp hT hk h0
    go_enter Tryz.func99,Tryz.ntmps99
    go_wp2_with fail
    rw [<-HW0.out]
    refine (HR.out _ hB0).mono ?_
    rintro e w1 ⟨u,S',rfl,ht,hs',hb1⟩
    first
    | (have q_:BitVec 1:=z_
       have HU:=hide (HKp.out w1 S' u hb1 ht hs')
       clear q_)
    | (have HU:Hid (Bv w1 (fun B=>S B∨S' B) (.iface 199 (.agg #[.string s.name,u])) ([s])):=HKp.out w1 S' u hb1 ht hs')
    obtain ⟨x0,x1⟩:=HX.out w1 hb1
    rw [HK.out] at x0
    obtain ⟨t,y,rfl⟩:=ht.isI
    have hBw:=hB0.trans (hb1.mono hB0.size)
    have HS':Hid (∀B,S' B->w.heap.size<=B/\B<w1.heap.size):=fun B hB=>⟨Nat.le_trans hB0.size (hs' B hB).1,(hs' B hB).2⟩
    clear HX HKp HR ht hs' hb1 HW0
    go_wp2_with fail
    go_ret
    exact ⟨_,S',rfl,HU.out,HS'.out,hBw⟩
theorem stOf678 (s:St) (hk:s.kind=6∨s.kind=7∨s.kind=8) (ve vf va vb:Value) (S:Nat->Prop) (w:World) (hT:Tab w) (hN:Nodes w ve s.e) (hF : ∃a n c,vf = .slice a n c) (ho:oneB s.e=true) (hl:s.e.length<=2000) (hS : ∀B,S B->B<w.heap.size) (h0:s.thn=0/\s.els=0) :
    Calls Tryz.prog 99 #[.agg #[.int .i64 s.kind,.string s.name,ve,vf,.int .i64 s.thn,.int .i64 s.els],va,vb] w fun e w'=>∃(u:Value) (S':Nat->Prop),e = .returned u/\Bv w' (fun B=>S B∨S' B) u ([s])/\(∀B,S' B->w.heap.size<=B/\B<w'.heap.size)/\Below w.heap.size w w':=by
  have hz_:(∃z_:BitVec 1,s.kind=6)∨(∃z_:BitVec 2,s.kind=7)∨(∃z_:BitVec 3,s.kind=8):=(Or.imp (fun h=>⟨0,h⟩) (Or.imp (fun h=>⟨0,h⟩) (fun h=>⟨0,h⟩))) hk
  clear hk
  rcases hz_ with ⟨z_,hk⟩ | ⟨z_,hk⟩ | ⟨z_,hk⟩
  all_goals
    have HR:=hide fun W (hW:Bl w W)=>raisedJ_any _ s.e W (hT.below hT.size hW) (hN.below hW) ho hl
    obtain ⟨af,nf,cf,rfl⟩:=hF
    obtain ⟨ae,ce,rfl,-⟩:=hN
    obtain ⟨W0,hW0⟩ : ∃W0,W0=w.alloc (.cells #[.int .i64 s.kind,.string s.name,.slice ae s.e.length ce,.slice af nf cf,.int .i64 s.thn,.int .i64 s.els] 117):=⟨_,rfl⟩
    have hB0:Bl w W0:=by rw [hW0];exact (Below.refl _ _).alloc (Nat.le_refl _) _
    have hs0:w.heap.size<W0.heap.size:=by rw [hW0];simp
    have HX:Hid (∀W,Bl W0 W->W.cell? ⟨w.heap.size,0,none⟩=some (.int .i64 s.kind)/\W.cell? ⟨w.heap.size,1,none⟩=some (.string s.name)):=fun W hW=>by
      rw [hW.cell (p:=⟨w.heap.size,0,none⟩) hs0,hW.cell (p:=⟨w.heap.size,1,none⟩) hs0,hW0]
      exact ⟨by simp,by simp⟩
    have HW0:=hide hW0
    first
    | (have q_:BitVec 1:=z_
       have hKp : ∀W (S':Nat->Prop) x,Bl W0 W->Tv W S' x s.e->(∀B,S' B->W0.heap.size<=B/\B<W.heap.size)->Bv W (fun B=>S B∨S' B) (.iface 172 (.agg #[x])) ([s]):=fun W S' x hb ht hs'=>by
         have hbw:=hB0.trans (hb.mono hB0.size)
         have ht':=ht.keep (S':=fun B=>S B∨S' B) (fun B h=>.inr h) (fun B _=>rfl)
         exact .ret s x hk ht' h0.1 h0.2
       have HKp:=hide hKp
       clear q_)
    | (have q_:BitVec 2:=z_
       have hKp : ∀W (S':Nat->Prop) x,Bl W0 W->Tv W S' x s.e->(∀B,S' B->W0.heap.size<=B/\B<W.heap.size)->Bv W (fun B=>S B∨S' B) (.iface 206 (.agg #[x])) ([s]):=fun W S' x hb ht hs'=>by
         have hbw:=hB0.trans (hb.mono hB0.size)
         have ht':=ht.keep (S':=fun B=>S B∨S' B) (fun B h=>.inr h) (fun B _=>rfl)
         exact .out s x hk ht' h0.1 h0.2
       have HKp:=hide hKp
       clear q_)
    | (have hKp : ∀W (S':Nat->Prop) x,Bl W0 W->Tv W S' x s.e->(∀B,S' B->W0.heap.size<=B/\B<W.heap.size)->Bv W (fun B=>S B∨S' B) (.iface 207 (.agg #[x])) ([s]):=fun W S' x hb ht hs'=>by
         have hbw:=hB0.trans (hb.mono hB0.size)
         have ht':=ht.keep (S':=fun B=>S B∨S' B) (fun B h=>.inr h) (fun B _=>rfl)
         exact .call s x hk ht' h0.1 h0.2
       have HKp:=hide (hKp))
    skip
    first
    | (have q_:BitVec 1:=z_
       have HK:=hide hk
       clear q_)
    | (have q_:BitVec 2:=z_
       have HK:=hide hk
       clear q_)
    | (have HK:Hid (s.kind=8):=hk)
    clear hW0 hKp hT hk h0
    go_enter Tryz.func99,Tryz.ntmps99
    go_wp2_with fail
    rw [<-HW0.out]
    refine (HR.out _ hB0).mono ?_
    rintro e w1 ⟨u,S',rfl,ht,hs',hb1⟩
    first
    | (have q_:BitVec 1:=z_
       have HU:=hide (HKp.out w1 S' u hb1 ht hs')
       clear q_)
    | (have q_:BitVec 2:=z_
       have HU:=hide (HKp.out w1 S' u hb1 ht hs')
       clear q_)
    | (have HU:Hid (Bv w1 (fun B=>S B∨S' B) (.iface 207 (.agg #[u])) ([s])):=HKp.out w1 S' u hb1 ht hs')
    obtain ⟨x0,x1⟩:=HX.out w1 hb1
    rw [HK.out] at x0
    obtain ⟨t,y,rfl⟩:=ht.isI
    have hBw:=hB0.trans (hb1.mono hB0.size)
    have HS':Hid (∀B,S' B->w.heap.size<=B/\B<w1.heap.size):=fun B hB=>⟨Nat.le_trans hB0.size (hs' B hB).1,(hs' B hB).2⟩
    clear HX HKp HR ht hs' hb1 HW0
    go_wp2_with fail
    go_ret
    exact ⟨_,S',rfl,HU.out,HS'.out,hBw⟩
theorem joinS_nil {F:Nat->List St} {A:Nat} (h:(0:Int)=(joinS F A).length):joinS F A = []:=List.eq_nil_of_length_eq_zero (by omega)
theorem stOf_any (s:St) (hb:stmtB s=true) (hl:s.e.length<=2000) (hlf:s.f.length<=2000) (ve vf va vb:Value) (S:Nat->Prop) (w:World) (hT:Tab w) (hN:Nodes w ve s.e) (hN2:Nodes w vf s.f) (hS : ∀B,S B->B<w.heap.size) (A B:Nat) (vs us:Nat->Value) (F H:Nat->List St) (hA1:Args w S va A vs) (hA2 : ∀i,i<A->Bv w S (vs i) (F i)) (hA3:Args w S vb B us) (hA4 : ∀i,i<B->Bv w S (us i) (H i)) (h0:s.thn=(joinS F A).length/\s.els=(joinS H B).length) :
  Calls Tryz.prog 99 #[.agg #[.int .i64 s.kind,.string s.name,ve,vf,.int .i64 s.thn,.int .i64 s.els],va,vb] w fun e w'=>∃(u:Value) (S':Nat->Prop),e = .returned u/\Bv w' (fun B=>S B∨S' B) u (s::joinS F A++joinS H B)/\(∀B,S' B->w.heap.size<=B/\B<w'.heap.size)/\Below w.heap.size w w':=by
 have hF : ∃a n c,vf = .slice a n c:=by
  obtain ⟨a,c,rfl,_⟩:=hN2
  exact ⟨a,_,c,rfl⟩
 unfold stmtB at hb
 simp only [Bool.and_eq_true,Bool.or_eq_true,decide_eq_true_eq,beq_iff_eq] at hb
 obtain ⟨⟨⟨⟨⟨⟨hk,-⟩,ho⟩,hof⟩,-⟩,ht⟩,he⟩:=hb
 have hk8:s.kind=1∨s.kind=2∨s.kind=3∨s.kind=4∨s.kind=5∨s.kind=6∨s.kind=7∨s.kind=8:=by omega
 have hno : ¬(s.kind=4∨s.kind=5)->s.thn=0/\s.els=0/\s::joinS F A++joinS H B = [s]:=fun hn=>by
  have t0:s.thn=0:=by rcases ht with h | h;exact absurd h hn;exact h
  have e0:s.els=0:=by rcases he with h | h;exact absurd (.inl h) hn;exact h
  refine ⟨t0,e0,?_⟩
  rw [joinS_nil (F:=F) (A:=A) (by rw [<-h0.1,t0]),joinS_nil (F:=H) (A:=B) (by rw [<-h0.2,e0])]
  rfl
 rcases hk8 with h | h | h | h | h | h | h | h
 ·obtain ⟨t0,e0,el⟩:=hno (by omega)
  rw [el]
  exact stOf12 s (.inl h) ve vf va vb S w hT hN hF ho hl hS ⟨t0,e0⟩
 ·obtain ⟨t0,e0,el⟩:=hno (by omega)
  rw [el]
  exact stOf12 s (.inr h) ve vf va vb S w hT hN hF ho hl hS ⟨t0,e0⟩
 ·obtain ⟨t0,e0,el⟩:=hno (by omega)
  rw [el]
  rw [if_pos h] at hof
  exact stOf3 s h ve vf va vb S w hT hN hN2 ho hl hof hlf ⟨t0,e0⟩
 ·exact stOf4 s h ve vf va vb S w hT hN hF ho hl hS A B vs us F H hA1 hA2 hA3 hA4 h0
 ·have e0:s.els=0:=by
   rcases he with h' | h'
   ·omega
   ·exact h'
  have el:s::joinS F A++joinS H B=s::joinS F A:=by rw [joinS_nil (F:=H) (A:=B) (by rw [<-h0.2,e0]),List.append_nil]
  rw [el]
  exact stOf5 s h ve vf va vb S w hT hN hF ho hl hS A vs F hA1 hA2 ⟨h0.1,e0⟩
 ·obtain ⟨t0,e0,el⟩:=hno (by omega)
  rw [el]
  exact stOf678 s (.inl h) ve vf va vb S w hT hN hF ho hl hS ⟨t0,e0⟩
 ·obtain ⟨t0,e0,el⟩:=hno (by omega)
  rw [el]
  exact stOf678 s (.inr (.inl h)) ve vf va vb S w hT hN hF ho hl hS ⟨t0,e0⟩
 ·obtain ⟨t0,e0,el⟩:=hno (by omega)
  rw [el]
  exact stOf678 s (.inr (.inr h)) ve vf va vb S w hT hN hF ho hl hS ⟨t0,e0⟩
end Go.Proofs.YtmddmgpijpjpbaaGreatDoor
