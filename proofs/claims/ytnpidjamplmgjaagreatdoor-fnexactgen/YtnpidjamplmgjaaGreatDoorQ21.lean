import Derived.Deep.RegionHeld3
import Derived.Test.YtnpidjamplmgjaaGreatDoorQ20
set_option linter.unusedSectionVars false
variable [Inhabited Go.Proofs.YtnpidjamplmgjaaGreatDoor.Pick]
namespace Go.Proofs.YtnpidjamplmgjaaGreatDoor
open Go.RowKit
set_option linter.unusedVariables false
set_option linter.unusedSimpArgs false
set_option maxRecDepth 100000
set_option maxHeartbeats 16000000
theorem stOf4 (s:St) (hk:s.kind=4) (ve vf va vb:Value) (S:Nat->Prop) (w:World) (hT:Tab w) (hN:Nodes w ve s.e) (hF : ∃a n c,vf = .slice a n c) (ho:oneB s.e=true) (hl:s.e.length<=2000) (hS : ∀B,S B->B<w.heap.size) (A B:Nat) (vs us:Nat->Value) (F H:Nat->List St) (hA1:Args w S va A vs) (hA2 : ∀i,i<A->Bv w S (vs i) (F i)) (hA3:Args w S vb B us) (hA4 : ∀i,i<B->Bv w S (us i) (H i)) (h0:s.thn=(joinS F A).length/\s.els=(joinS H B).length) :
  Calls Tryz.prog 81 #[.agg #[.int .i64 s.kind,.string s.name,ve,vf,.int .i64 s.thn,.int .i64 s.els],va,vb] w fun e w'=>∃(u:Value) (S':Nat->Prop),e = .returned u/\Bv w' (fun B=>S B∨S' B) u (s::joinS F A++joinS H B)/\(∀B,S' B->w.heap.size<=B/\B<w'.heap.size)/\Below w.heap.size w w':=by
 have HR:=hide fun W (hW:Bl w W)=>raisedJ_any _ s.e W (hT.below hT.size hW) (hN.below hW) ho hl
 obtain ⟨af,nf,cf,rfl⟩:=hF
 obtain ⟨ae,ce,rfl,-⟩:=hN
 obtain ⟨W0,hW0⟩ : ∃W0,W0=w.alloc (.cells #[.int .i64 s.kind,.string s.name,.slice ae s.e.length ce,.slice af nf cf,.int .i64 s.thn,.int .i64 s.els] 123):=⟨_,rfl⟩
 have hB0:Bl w W0:=by rw [hW0];exact (Below.refl _ _).alloc (Nat.le_refl _) _
 have hs0:w.heap.size<W0.heap.size:=by rw [hW0];simp
 have HX:Hid (∀W,Bl W0 W->W.cell? ⟨w.heap.size,0,none⟩=some (.int .i64 s.kind)/\W.cell? ⟨w.heap.size,1,none⟩=some (.string s.name)):=fun W hW=>by
  rw [hW.cell (p:=⟨w.heap.size,0,none⟩) hs0,hW.cell (p:=⟨w.heap.size,1,none⟩) hs0,hW0]
  exact ⟨by simp,by simp⟩
 have HW0:=hide hW0
 have hKp : ∀W (S':Nat->Prop) x,Bl W0 W->Tv W S' x s.e->(∀B,S' B->W0.heap.size<=B/\B<W.heap.size)->Bv W (fun B=>S B∨S' B) (.iface 174 (.agg #[x,va,vb])) (s::joinS F A++joinS H B):=fun W S' x hb ht hs'=>by
  have hbw:=hB0.trans (hb.mono hB0.size)
  have ht':=ht.keep (S':=fun B=>S B∨S' B) (fun B h=>.inr h) (fun B _=>rfl)
  exact .ifs s x va vb A B vs us F H hk ht' (hA1.keep (fun B h=>.inl h) (fun B hB=>hbw.block B (hS B hB))) (fun i hi=>(hA2 i hi).keep (fun B h=>.inl h) (fun B hB=>hbw.block B (hS B hB))) (hA3.keep (fun B h=>.inl h) (fun B hB=>hbw.block B (hS B hB))) (fun i hi=>(hA4 i hi).keep (fun B h=>.inl h) (fun B hB=>hbw.block B (hS B hB))) h0.1 h0.2
 have HKp:=hide hKp
 obtain ⟨aa,ca,hva,-⟩:=hA1
 obtain ⟨ab,cb,hvb,-⟩:=hA3
 subst hva
 subst hvb
 clear hA2 hA4
 have HK:=hide hk
 clear hW0 hKp hT hk h0
 go_enter Tryz.func81,Tryz.ntmps81
 go_wp2_with fail
 rw [<-HW0.out]
 refine (HR.out _ hB0).mono ?_
 rintro e w1 ⟨u,S',rfl,ht,hs',hb1⟩
 have HU:=hide (HKp.out w1 S' u hb1 ht hs')
 obtain ⟨x0,x1⟩:=HX.out w1 hb1
 rw [HK.out] at x0
 obtain ⟨t,y,rfl⟩:=ht.isI
 have hBw:=hB0.trans (hb1.mono hB0.size)
 have HS':Hid (∀B,S' B->w.heap.size<=B/\B<w1.heap.size):=fun B hB=>⟨Nat.le_trans hB0.size (hs' B hB).1,(hs' B hB).2⟩
 clear HX HKp HR ht hs' hb1 HW0
 go_wp2_with fail
 go_ret
 exact ⟨_,S',rfl,HU.out,HS'.out,hBw⟩
theorem stOf5 (s:St) (hk:s.kind=5) (ve vf va vb:Value) (S:Nat->Prop) (w:World) (hT:Tab w) (hN:Nodes w ve s.e) (hF : ∃a n c,vf = .slice a n c) (ho:oneB s.e=true) (hl:s.e.length<=2000) (hS : ∀B,S B->B<w.heap.size) (A:Nat) (vs:Nat->Value) (F:Nat->List St) (hA1:Args w S va A vs) (hA2 : ∀i,i<A->Bv w S (vs i) (F i)) (h0:s.thn=(joinS F A).length/\s.els=0) :
  Calls Tryz.prog 81 #[.agg #[.int .i64 s.kind,.string s.name,ve,vf,.int .i64 s.thn,.int .i64 s.els],va,vb] w fun e w'=>∃(u:Value) (S':Nat->Prop),e = .returned u/\Bv w' (fun B=>S B∨S' B) u (s::joinS F A)/\(∀B,S' B->w.heap.size<=B/\B<w'.heap.size)/\Below w.heap.size w w':=by
 have HR:=hide fun W (hW:Bl w W)=>raisedJ_any _ s.e W (hT.below hT.size hW) (hN.below hW) ho hl
 obtain ⟨af,nf,cf,rfl⟩:=hF
 obtain ⟨ae,ce,rfl,-⟩:=hN
 obtain ⟨W0,hW0⟩ : ∃W0,W0=w.alloc (.cells #[.int .i64 s.kind,.string s.name,.slice ae s.e.length ce,.slice af nf cf,.int .i64 s.thn,.int .i64 s.els] 123):=⟨_,rfl⟩
 have hB0:Bl w W0:=by rw [hW0];exact (Below.refl _ _).alloc (Nat.le_refl _) _
 have hs0:w.heap.size<W0.heap.size:=by rw [hW0];simp
 have HX:Hid (∀W,Bl W0 W->W.cell? ⟨w.heap.size,0,none⟩=some (.int .i64 s.kind)/\W.cell? ⟨w.heap.size,1,none⟩=some (.string s.name)):=fun W hW=>by
  rw [hW.cell (p:=⟨w.heap.size,0,none⟩) hs0,hW.cell (p:=⟨w.heap.size,1,none⟩) hs0,hW0]
  exact ⟨by simp,by simp⟩
 have HW0:=hide hW0
 have hKp : ∀W (S':Nat->Prop) x,Bl W0 W->Tv W S' x s.e->(∀B,S' B->W0.heap.size<=B/\B<W.heap.size)->Bv W (fun B=>S B∨S' B) (.iface 177 (.agg #[x,va])) (s::joinS F A):=fun W S' x hb ht hs'=>by
  have hbw:=hB0.trans (hb.mono hB0.size)
  have ht':=ht.keep (S':=fun B=>S B∨S' B) (fun B h=>.inr h) (fun B _=>rfl)
  exact .whil s x va A vs F hk ht' (hA1.keep (fun B h=>.inl h) (fun B hB=>hbw.block B (hS B hB))) (fun i hi=>(hA2 i hi).keep (fun B h=>.inl h) (fun B hB=>hbw.block B (hS B hB))) h0.1 h0.2
 have HKp:=hide hKp
 obtain ⟨aa,ca,hva,-⟩:=hA1
 subst hva
 clear hA2
 have HK:=hide hk
 clear hW0 hKp hT hk h0
 go_enter Tryz.func81,Tryz.ntmps81
 go_wp2_with fail
 rw [<-HW0.out]
 refine (HR.out _ hB0).mono ?_
 rintro e w1 ⟨u,S',rfl,ht,hs',hb1⟩
 have HU:=hide (HKp.out w1 S' u hb1 ht hs')
 obtain ⟨x0,x1⟩:=HX.out w1 hb1
 rw [HK.out] at x0
 obtain ⟨t,y,rfl⟩:=ht.isI
 have hBw:=hB0.trans (hb1.mono hB0.size)
 have HS':Hid (∀B,S' B->w.heap.size<=B/\B<w1.heap.size):=fun B hB=>⟨Nat.le_trans hB0.size (hs' B hB).1,(hs' B hB).2⟩
 clear HX HKp HR ht hs' hb1 HW0
 go_wp2_with fail
 go_ret
 exact ⟨_,S',rfl,HU.out,HS'.out,hBw⟩
theorem stOf3 (s:St) (hk:s.kind=3) (ve vf va vb:Value) (S:Nat->Prop) (w:World) (hT:Tab w) (hN:Nodes w ve s.e) (hN2:Nodes w vf s.f) (ho:oneB s.e=true) (hl:s.e.length<=2000) (ho2:oneB s.f=true) (hl2:s.f.length<=2000) (h0:s.thn=0/\s.els=0) :
  Calls Tryz.prog 81 #[.agg #[.int .i64 s.kind,.string s.name,ve,vf,.int .i64 s.thn,.int .i64 s.els],va,vb] w fun e w'=>∃(u:Value) (S':Nat->Prop),e = .returned u/\Bv w' (fun B=>S B∨S' B) u [s]/\(∀B,S' B->w.heap.size<=B/\B<w'.heap.size)/\Below w.heap.size w w':=by
 have HR:=hide fun W (hW:Bl w W)=>raisedJ_any _ s.e W (hT.below hT.size hW) (hN.below hW) ho hl
 have HR2:=hide fun W (hW:Bl w W)=>raisedJ_any _ s.f W (hT.below hT.size hW) (hN2.below hW) ho2 hl2
 obtain ⟨af,cf,rfl,-⟩:=hN2
 obtain ⟨ae,ce,rfl,-⟩:=hN
 obtain ⟨W0,hW0⟩ : ∃W0,W0=w.alloc (.cells #[.int .i64 s.kind,.string s.name,.slice ae s.e.length ce,.slice af s.f.length cf,.int .i64 s.thn,.int .i64 s.els] 123):=⟨_,rfl⟩
 have hB0:Bl w W0:=by rw [hW0];exact (Below.refl _ _).alloc (Nat.le_refl _) _
 have hs0:w.heap.size<W0.heap.size:=by rw [hW0];simp
 have HX:Hid (∀W,Bl W0 W->W.cell? ⟨w.heap.size,0,none⟩=some (.int .i64 s.kind)/\W.cell? ⟨w.heap.size,1,none⟩=some (.string s.name)/\W.cell? ⟨w.heap.size,3,none⟩=some (.slice af s.f.length cf)):=fun W hW=>by
  rw [hW.cell (p:=⟨w.heap.size,0,none⟩) hs0,hW.cell (p:=⟨w.heap.size,1,none⟩) hs0,hW.cell (p:=⟨w.heap.size,3,none⟩) hs0,hW0]
  exact ⟨by simp,by simp,by simp⟩
 have HW0:=hide hW0
 have HKp:Hid (∀(W W':World) (S1 S2:Nat->Prop) x y,Bl W W'->Tv W S1 x s.e->(∀B,S1 B->B<W.heap.size)->Tv W' S2 y s.f->Bv W' (fun B=>S B∨(S1 B∨S2 B)) (.iface 183 (.agg #[.string s.name,x,y])) [s]):=fun W W' S1 S2 x y hb h1 hs1 h2=>.store s x y hk (h1.keep (fun B h=>.inr (.inl h)) (fun B hB=>hb.block B (hs1 B hB))) (h2.keep (fun B h=>.inr (.inr h)) (fun B _=>rfl)) h0.1 h0.2
 have HK:=hide hk
 clear hW0 hT hk h0
 go_enter Tryz.func81,Tryz.ntmps81
 go_wp2_with fail
 rw [<-HW0.out]
 refine (HR.out _ hB0).mono ?_
 rintro e w1 ⟨u,S1,rfl,ht,hs1,hb1⟩
 obtain ⟨x0,x1,x3⟩:=HX.out w1 hb1
 rw [HK.out] at x0
 obtain ⟨t,y,rfl⟩:=ht.isI
 have hBw:=hB0.trans (hb1.mono hB0.size)
 have hdr:Bl w w1.drew:=hBw.drew
 have hlw:w.heap.size<w1.drew.heap.size:=World.block_lt_of_cell? _ _ x0
 have d1:w1.drew.cell? ⟨w.heap.size,1,none⟩=some (.string s.name):=x1
 have d3:w1.drew.cell? ⟨w.heap.size,3,none⟩=some (.slice af s.f.length cf):=x3
 have HT1:Hid (Tv w1 S1 (.iface t y) s.e/\(∀B,S1 B->W0.heap.size<=B/\B<w1.heap.size)):=⟨ht,hs1⟩
 have HP:Hid (Calls Tryz.prog 103 #[.slice af s.f.length cf,.func (Fn.func 104) #[] #[]] w1.drew fun x w'=>∃(ta:TypeId) (tb:Value) (S2:Nat->Prop),x = .returned (.iface ta tb)/\(Tv w' S2 (.iface ta tb) s.f/\(∀B,S2 B->w1.heap.size<=B/\B<w'.heap.size))/\Bl w1.drew w'):=(HR2.out _ hdr).mono (by
  rintro x w' ⟨u,S2,rfl,h1,h2,h3⟩
  obtain ⟨ta,tb,rfl⟩:=h1.isI
  exact ⟨ta,tb,S2,rfl,⟨h1,h2⟩,h3⟩)
 clear HX HR HR2 ht hs1 HW0
 go_wp2_with fail
 go_region_held3 (fun W=>W.cell? ⟨w.heap.size,1,none⟩=some (.string s.name)/\W.cell? ⟨w.heap.size,3,none⟩=some (.slice af s.f.length cf)) (go_simp)
  (first
  | ((with_reducible refine Calls.mono HP.out ?_);rintro e w3 ⟨ta,tb,S2,rfl,ht2,hb3⟩;have q1:w3.cell? ⟨w.heap.size,1,none⟩=some (.string s.name):=(hb3.cell (p:=⟨w.heap.size,1,none⟩) hlw).trans d1;have q3:w3.cell? ⟨w.heap.size,3,none⟩=some (.slice af s.f.length cf):=(hb3.cell (p:=⟨w.heap.size,3,none⟩) hlw).trans d3))
 have hb13:Bl w1 w3:=((Below.refl _ _).drew).trans hb3
 have HU:=hide (HKp.out w1 w3 S1 S2 _ _ hb13 HT1.out.1 (fun B hB=>(HT1.out.2 B hB).2) ht2.1)
 have HS':Hid (∀B,(S1 B∨S2 B)->w.heap.size<=B/\B<w3.heap.size):=fun B hB=>by
  have hsz:=hb13.size
  rcases hB with hB | hB
  ·have:=HT1.out.2 B hB;have:=hB0.size;omega
  ·have:=ht2.2 B hB;have:=hBw.size;omega
 have hBf:=hBw.trans (hb13.mono hBw.size)
 clear HKp HT1 ht2 HP
 go_wp2_with fail
 go_ret
 exact ⟨_,_,rfl,HU.out,HS'.out,hBf⟩
theorem stOf12 (s:St) (hk:s.kind=1∨s.kind=2) (ve vf va vb:Value) (S:Nat->Prop) (w:World) (hT:Tab w) (hN:Nodes w ve s.e) (hF : ∃a n c,vf = .slice a n c) (ho:oneB s.e=true) (hl:s.e.length<=2000) (hS : ∀B,S B->B<w.heap.size) (h0:s.thn=0/\s.els=0) :
    Calls Tryz.prog 81 #[.agg #[.int .i64 s.kind,.string s.name,ve,vf,.int .i64 s.thn,.int .i64 s.els],va,vb] w fun e w'=>∃(u:Value) (S':Nat->Prop),e = .returned u/\Bv w' (fun B=>S B∨S' B) u ([s])/\(∀B,S' B->w.heap.size<=B/\B<w'.heap.size)/\Below w.heap.size w w':=by
  have hz_:(∃z_:BitVec 1,s.kind=1)∨(∃z_:BitVec 2,s.kind=2):=(Or.imp (fun h=>⟨0,h⟩) (fun h=>⟨0,h⟩)) hk
  clear hk
  rcases hz_ with ⟨z_,hk⟩ | ⟨z_,hk⟩
  all_goals
    have HR:=hide fun W (hW:Bl w W)=>raisedJ_any _ s.e W (hT.below hT.size hW) (hN.below hW) ho hl
    obtain ⟨af,nf,cf,rfl⟩:=hF
    obtain ⟨ae,ce,rfl,-⟩:=hN
    obtain ⟨W0,hW0⟩ : ∃W0,W0=w.alloc (.cells #[.int .i64 s.kind,.string s.name,.slice ae s.e.length ce,.slice af nf cf,.int .i64 s.thn,.int .i64 s.els] 123):=⟨_,rfl⟩
    have hB0:Bl w W0:=by rw [hW0];exact (Below.refl _ _).alloc (Nat.le_refl _) _
    have hs0:w.heap.size<W0.heap.size:=by rw [hW0];simp
    have HX:Hid (∀W,Bl W0 W->W.cell? ⟨w.heap.size,0,none⟩=some (.int .i64 s.kind)/\W.cell? ⟨w.heap.size,1,none⟩=some (.string s.name)):=fun W hW=>by
      rw [hW.cell (p:=⟨w.heap.size,0,none⟩) hs0,hW.cell (p:=⟨w.heap.size,1,none⟩) hs0,hW0]
      exact ⟨by simp,by simp⟩
    have HW0:=hide hW0
    first
    | (have q_:BitVec 1:=z_
       have hKp : ∀W (S':Nat->Prop) x,Bl W0 W->Tv W S' x s.e->(∀B,S' B->W0.heap.size<=B/\B<W.heap.size)->Bv W (fun B=>S B∨S' B) (.iface 180 (.agg #[.string s.name,x])) ([s]):=fun W S' x hb ht hs'=>by
         have hbw:=hB0.trans (hb.mono hB0.size)
         have ht':=ht.keep (S':=fun B=>S B∨S' B) (fun B h=>.inr h) (fun B _=>rfl)
         exact .decl s x hk ht' h0.1 h0.2
       have HKp:=hide hKp
       clear q_)
    | (have hKp : ∀W (S':Nat->Prop) x,Bl W0 W->Tv W S' x s.e->(∀B,S' B->W0.heap.size<=B/\B<W.heap.size)->Bv W (fun B=>S B∨S' B) (.iface 181 (.agg #[.string s.name,x])) ([s]):=fun W S' x hb ht hs'=>by
         have hbw:=hB0.trans (hb.mono hB0.size)
         have ht':=ht.keep (S':=fun B=>S B∨S' B) (fun B h=>.inr h) (fun B _=>rfl)
         exact .set s x hk ht' h0.1 h0.2
       have HKp:=hide (hKp))
    skip
    first
    | (have q_:BitVec 1:=z_
       have HK:=hide hk
       clear q_)
    | (have HK:Hid (s.kind=2):=hk)
    clear hW0 hKp hT hk h0
    go_enter Tryz.func81,Tryz.ntmps81
    go_wp2_with fail
    rw [<-HW0.out]
    refine (HR.out _ hB0).mono ?_
    rintro e w1 ⟨u,S',rfl,ht,hs',hb1⟩
    first
    | (have q_:BitVec 1:=z_
       have HU:=hide (HKp.out w1 S' u hb1 ht hs')
       clear q_)
    | (have HU:Hid (Bv w1 (fun B=>S B∨S' B) (.iface 181 (.agg #[.string s.name,u])) ([s])):=HKp.out w1 S' u hb1 ht hs')
    obtain ⟨x0,x1⟩:=HX.out w1 hb1
    rw [HK.out] at x0
    obtain ⟨t,y,rfl⟩:=ht.isI
    have hBw:=hB0.trans (hb1.mono hB0.size)
    have HS':Hid (∀B,S' B->w.heap.size<=B/\B<w1.heap.size):=fun B hB=>⟨Nat.le_trans hB0.size (hs' B hB).1,(hs' B hB).2⟩
    clear HX HKp HR ht hs' hb1 HW0
    go_wp2_with fail
    go_ret
    exact ⟨_,S',rfl,HU.out,HS'.out,hBw⟩
theorem stOf678 (s:St) (hk:s.kind=6∨s.kind=7∨s.kind=8) (ve vf va vb:Value) (S:Nat->Prop) (w:World) (hT:Tab w) (hN:Nodes w ve s.e) (hF : ∃a n c,vf = .slice a n c) (ho:oneB s.e=true) (hl:s.e.length<=2000) (hS : ∀B,S B->B<w.heap.size) (h0:s.thn=0/\s.els=0) :
    Calls Tryz.prog 81 #[.agg #[.int .i64 s.kind,.string s.name,ve,vf,.int .i64 s.thn,.int .i64 s.els],va,vb] w fun e w'=>∃(u:Value) (S':Nat->Prop),e = .returned u/\Bv w' (fun B=>S B∨S' B) u ([s])/\(∀B,S' B->w.heap.size<=B/\B<w'.heap.size)/\Below w.heap.size w w':=by
  have hz_:(∃z_:BitVec 1,s.kind=6)∨(∃z_:BitVec 2,s.kind=7)∨(∃z_:BitVec 3,s.kind=8):=(Or.imp (fun h=>⟨0,h⟩) (Or.imp (fun h=>⟨0,h⟩) (fun h=>⟨0,h⟩))) hk
  clear hk
  rcases hz_ with ⟨z_,hk⟩ | ⟨z_,hk⟩ | ⟨z_,hk⟩
  all_goals
    have HR:=hide fun W (hW:Bl w W)=>raisedJ_any _ s.e W (hT.below hT.size hW) (hN.below hW) ho hl
    obtain ⟨af,nf,cf,rfl⟩:=hF
    obtain ⟨ae,ce,rfl,-⟩:=hN
    obtain ⟨W0,hW0⟩ : ∃W0,W0=w.alloc (.cells #[.int .i64 s.kind,.string s.name,.slice ae s.e.length ce,.slice af nf cf,.int .i64 s.thn,.int .i64 s.els] 123):=⟨_,rfl⟩
    have hB0:Bl w W0:=by rw [hW0];exact (Below.refl _ _).alloc (Nat.le_refl _) _
    have hs0:w.heap.size<W0.heap.size:=by rw [hW0];simp
    have HX:Hid (∀W,Bl W0 W->W.cell? ⟨w.heap.size,0,none⟩=some (.int .i64 s.kind)/\W.cell? ⟨w.heap.size,1,none⟩=some (.string s.name)):=fun W hW=>by
      rw [hW.cell (p:=⟨w.heap.size,0,none⟩) hs0,hW.cell (p:=⟨w.heap.size,1,none⟩) hs0,hW0]
      exact ⟨by simp,by simp⟩
    have HW0:=hide hW0
    first
    | (have q_:BitVec 1:=z_
       have hKp : ∀W (S':Nat->Prop) x,Bl W0 W->Tv W S' x s.e->(∀B,S' B->W0.heap.size<=B/\B<W.heap.size)->Bv W (fun B=>S B∨S' B) (.iface 185 (.agg #[x])) ([s]):=fun W S' x hb ht hs'=>by
         have hbw:=hB0.trans (hb.mono hB0.size)
         have ht':=ht.keep (S':=fun B=>S B∨S' B) (fun B h=>.inr h) (fun B _=>rfl)
         exact .ret s x hk ht' h0.1 h0.2
       have HKp:=hide hKp
       clear q_)
    | (have q_:BitVec 2:=z_
       have hKp : ∀W (S':Nat->Prop) x,Bl W0 W->Tv W S' x s.e->(∀B,S' B->W0.heap.size<=B/\B<W.heap.size)->Bv W (fun B=>S B∨S' B) (.iface 186 (.agg #[x])) ([s]):=fun W S' x hb ht hs'=>by
         have hbw:=hB0.trans (hb.mono hB0.size)
         have ht':=ht.keep (S':=fun B=>S B∨S' B) (fun B h=>.inr h) (fun B _=>rfl)
         exact .out s x hk ht' h0.1 h0.2
       have HKp:=hide hKp
       clear q_)
    | (have hKp : ∀W (S':Nat->Prop) x,Bl W0 W->Tv W S' x s.e->(∀B,S' B->W0.heap.size<=B/\B<W.heap.size)->Bv W (fun B=>S B∨S' B) (.iface 187 (.agg #[x])) ([s]):=fun W S' x hb ht hs'=>by
         have hbw:=hB0.trans (hb.mono hB0.size)
         have ht':=ht.keep (S':=fun B=>S B∨S' B) (fun B h=>.inr h) (fun B _=>rfl)
         exact .call s x hk ht' h0.1 h0.2
       have HKp:=hide (hKp))
    skip
    first
    | (have q_:BitVec 1:=z_
       have HK:=hide hk
       clear q_)
    | (have q_:BitVec 2:=z_
       have HK:=hide hk
       clear q_)
    | (have HK:Hid (s.kind=8):=hk)
    clear hW0 hKp hT hk h0
    go_enter Tryz.func81,Tryz.ntmps81
    go_wp2_with fail
    rw [<-HW0.out]
    refine (HR.out _ hB0).mono ?_
    rintro e w1 ⟨u,S',rfl,ht,hs',hb1⟩
    first
    | (have q_:BitVec 1:=z_
       have HU:=hide (HKp.out w1 S' u hb1 ht hs')
       clear q_)
    | (have q_:BitVec 2:=z_
       have HU:=hide (HKp.out w1 S' u hb1 ht hs')
       clear q_)
    | (have HU:Hid (Bv w1 (fun B=>S B∨S' B) (.iface 187 (.agg #[u])) ([s])):=HKp.out w1 S' u hb1 ht hs')
    obtain ⟨x0,x1⟩:=HX.out w1 hb1
    rw [HK.out] at x0
    obtain ⟨t,y,rfl⟩:=ht.isI
    have hBw:=hB0.trans (hb1.mono hB0.size)
    have HS':Hid (∀B,S' B->w.heap.size<=B/\B<w1.heap.size):=fun B hB=>⟨Nat.le_trans hB0.size (hs' B hB).1,(hs' B hB).2⟩
    clear HX HKp HR ht hs' hb1 HW0
    go_wp2_with fail
    go_ret
    exact ⟨_,S',rfl,HU.out,HS'.out,hBw⟩
theorem joinS_nil {F:Nat->List St} {A:Nat} (h:(0:Int)=(joinS F A).length):joinS F A = []:=List.eq_nil_of_length_eq_zero o_
theorem stOf_any (s:St) (hb:stmtB s=true) (hl:s.e.length<=2000) (hlf:s.f.length<=2000) (ve vf va vb:Value) (S:Nat->Prop) (w:World) (hT:Tab w) (hN:Nodes w ve s.e) (hN2:Nodes w vf s.f) (hS : ∀B,S B->B<w.heap.size) (A B:Nat) (vs us:Nat->Value) (F H:Nat->List St) (hA1:Args w S va A vs) (hA2 : ∀i,i<A->Bv w S (vs i) (F i)) (hA3:Args w S vb B us) (hA4 : ∀i,i<B->Bv w S (us i) (H i)) (h0:s.thn=(joinS F A).length/\s.els=(joinS H B).length) :
  Calls Tryz.prog 81 #[.agg #[.int .i64 s.kind,.string s.name,ve,vf,.int .i64 s.thn,.int .i64 s.els],va,vb] w fun e w'=>∃(u:Value) (S':Nat->Prop),e = .returned u/\Bv w' (fun B=>S B∨S' B) u (s::joinS F A++joinS H B)/\(∀B,S' B->w.heap.size<=B/\B<w'.heap.size)/\Below w.heap.size w w':=by
 have hF : ∃a n c,vf = .slice a n c:=by
  obtain ⟨a,c,rfl,_⟩:=hN2
  exact ⟨a,_,c,rfl⟩
 unfold stmtB at hb
 simp only [Bool.and_eq_true,Bool.or_eq_true,decide_eq_true_eq,beq_iff_eq] at hb
 obtain ⟨⟨⟨⟨⟨⟨hk,-⟩,ho⟩,hof⟩,-⟩,ht⟩,he⟩:=hb
 have hk8:s.kind=1∨s.kind=2∨s.kind=3∨s.kind=4∨s.kind=5∨s.kind=6∨s.kind=7∨s.kind=8:=by omega
 have hno : ¬(s.kind=4∨s.kind=5)->s.thn=0/\s.els=0/\s::joinS F A++joinS H B = [s]:=fun hn=>by
  have t0:s.thn=0:=by rcases ht with h | h;exact absurd h hn;exact h
  have e0:s.els=0:=by rcases he with h | h;exact absurd (.inl h) hn;exact h
  refine ⟨t0,e0,?_⟩
  rw [joinS_nil (F:=F) (A:=A) (by rw [<-h0.1,t0]),joinS_nil (F:=H) (A:=B) (by rw [<-h0.2,e0])]
  rfl
 rcases hk8 with h | h | h | h | h | h | h | h
 ·obtain ⟨t0,e0,el⟩:=hno o_
  rw [el]
  exact stOf12 s (.inl h) ve vf va vb S w hT hN hF ho hl hS ⟨t0,e0⟩
 ·obtain ⟨t0,e0,el⟩:=hno o_
  rw [el]
  exact stOf12 s (.inr h) ve vf va vb S w hT hN hF ho hl hS ⟨t0,e0⟩
 ·obtain ⟨t0,e0,el⟩:=hno o_
  rw [el]
  rw [if_pos h] at hof
  exact stOf3 s h ve vf va vb S w hT hN hN2 ho hl hof hlf ⟨t0,e0⟩
 ·exact stOf4 s h ve vf va vb S w hT hN hF ho hl hS A B vs us F H hA1 hA2 hA3 hA4 h0
 ·have e0:s.els=0:=by
   rcases he with h' | h'
   ·omega
   ·exact h'
  have el:s::joinS F A++joinS H B=s::joinS F A:=by rw [joinS_nil (F:=H) (A:=B) (by rw [<-h0.2,e0]),List.append_nil]
  rw [el]
  exact stOf5 s h ve vf va vb S w hT hN hF ho hl hS A vs F hA1 hA2 ⟨h0.1,e0⟩
 ·obtain ⟨t0,e0,el⟩:=hno o_
  rw [el]
  exact stOf678 s (.inl h) ve vf va vb S w hT hN hF ho hl hS ⟨t0,e0⟩
 ·obtain ⟨t0,e0,el⟩:=hno o_
  rw [el]
  exact stOf678 s (.inr (.inl h)) ve vf va vb S w hT hN hF ho hl hS ⟨t0,e0⟩
 ·obtain ⟨t0,e0,el⟩:=hno o_
  rw [el]
  exact stOf678 s (.inr (.inr h)) ve vf va vb S w hT hN hF ho hl hS ⟨t0,e0⟩
def BlockOfC:Prop:=∀(ss:List St) (v:Value) (w:World),Tab w->Stmts w v ss->fitB ss=true->(∀s∈ss,stmtB s=true/\s.e.length<=2000/\s.f.length<=2000)->ss.length<=1000->Calls Tryz.prog 55 #[v] w fun e w'=>∃(u:Value) (S':Nat->Prop),e = .returned u/\Bk w' S' u ss/\(∀B,S' B->w.heap.size<=B/\B<w'.heap.size)/\Below w.heap.size w w'
theorem linkWordI (C:IC) (hC:C.Ok) (w:World) (its:List It) (l:Int) (hG:Gi C w its l) (hz:0<=C.sz/\C.sz<=1000000):Calls Tryz.prog 53 #[.pointer (some ⟨C.P,0,none⟩)] w fun e w'=>e = .returned (.int .i64 (C.sz-4))/\w'=w:=by
 have h2:w.cell? ⟨C.P,2,none⟩=some (.int .i64 C.sz):=hG.es.oth 2 (by decide) (by decide)
 have k1:IntKind.i64.wrap (C.sz-4)=C.sz-4:=by simp [IntKind.wrap,IntKind.bits,IntKind.signed];omega
 generalize C.sz=n at *
 go_enter Tryz.func53,Tryz.ntmps53
 go_wp2_with fail
 go_ret
 exact ⟨by simp,rfl⟩
theorem IC.blocks {C:IC} {w w':World} {its:List It} {l:Int} (hG:Gi C w its l) (hb:Below w.heap.size w w') {S':Nat->Prop} (hS : ∀B,S' B->w.heap.size<=B/\B<w'.heap.size):Gi {C with w0:=w',S:=fun B=>C.S B∨S' B} w' its l:=by
 have hlt:=hG.es.lt
 refine ⟨hG.es.below hb,fun B _=>rfl,fun B hB => ?_⟩
 rcases hB with hB | hB
 ·have h:=(hG.below hb).ap B hB
  exact h
 ·obtain ⟨h1,h2⟩:=hS B hB
  refine ⟨h2,by show B≠C.P;omega,fun e => ?_⟩
  have e':rbq 5 w' C.P=some B:=e.symm
  rw [rbq_bel hb hlt] at e'
  have:=hG.es.rlt5 e'
  omega
theorem IC.okBlocks {C:IC} (hC:C.Ok) {w w':World} {its:List It} {l:Int} (hG:Gi C w its l) (hb:Below w.heap.size w w') {S':Nat->Prop}:({C with w0:=w',S:=fun B=>C.S B∨S' B}:IC).Ok:=by
 have hk:=(hG.below hb).kp
 refine ⟨.inl hC.so,.inl hC.sm,.inl hC.sa,.inl hC.sr,.inl hC.sb,⟨fun j hj => ?_,fun j hj => ?_⟩,?_,?_,?_,hC.gl,hC.gz,hC.nl⟩
 ·exact (hG.below hb).reg hC j hj
 ·exact (hG.below hb).bin hC j hj
 ·obtain ⟨nn,D,h1,h2⟩:=hC.mo
  exact ⟨nn,D,own_blk h1 (hk _ hC.so),h2⟩
 ·obtain ⟨nn,D,h1,h2⟩:=hC.mm
  exact ⟨nn,D,own_blk h1 (hk _ hC.sm),h2⟩
 ·obtain ⟨nn,D,h1,h2⟩:=hC.ma
  exact ⟨nn,D,own_blk h1 (hk _ hC.sa),h2⟩
theorem Gi.off {C:IC} (hC:C.Ok) {w:World} {its:List It} {l:Int} (h:Gi C w its l) {s:ByteArray} (hs:s.size<=maxLen) {j:Nat} (hm:C.ns.findIdx? (fun x=>decide (x=s))=some j) :
  (Instr.lookup 52 (.map (some C.bo)) (.string s) false).run Tryz.prog w = .ok (.int .i64 (4*(j:Int))) w:=by
 obtain ⟨nn,D,ho,hN⟩:=hC.mo
 have ho':w.ownsMap Tryz.prog 9 (plainElem (H:=Unit) Tryz.prog 2) C.bo nn D:=own_blk ho (h.kp _ hC.so)
 obtain ⟨c,hrun,hat,-⟩:=ho'.lookup_int (key:=.string s) (Maps.string_keyed Tryz.underlying9) Tryz.underlying52 Tryz.underlying2 (Tryz.zeroValue2 _) (WideMaps.keyOf_string_mk Tryz.underlying9 hs)
 have hv:=hN.val s j hm
 unfold kS at hv
 rw [hv] at hat
 simp only [DataW.lit.injEq,Lit.int.injEq,true_and] at hat
 rw [<-hat] at hrun
 exact hrun
theorem find_nodup {xs:List ByteArray} (hn:xs.Nodup) {j:Nat} (hj:j<xs.length):xs.findIdx? (fun x=>decide (x=xs[j]))=some j:=by
 rw [List.findIdx?_eq_some_iff_getElem]
 refine ⟨hj,by simp,fun i hi => ?_⟩
 have:=List.pairwise_iff_getElem.1 hn i j o_ hj hi
 simpa using this
def MmS (P bm:Nat) (t:Tr) (w:World):Prop:=(∃nn D,w.ownsMap Tryz.prog 9 (plainElem (H:=Unit) Tryz.prog 2) bm nn D/\NumIs D t.funcs)/\bm≠P/\some bm≠rbq 5 w P
theorem MmS.wq {P bm:Nat} {t:Tr} {w w':World} (h:MmS P bm t w) (hW:Wq 5 P w w'):MmS P bm t w':=by
 obtain ⟨⟨nn,D,h1,h2⟩,h3,h4⟩:=h
 have hl:=h1.lt
 refine ⟨⟨nn,D,own_blk h1 (hW.block bm hl h3 h4),h2⟩,h3,fun e => ?_⟩
 rcases hW.row bm e.symm with h | h
 ·exact h4 h.symm
 ·omega
theorem function_start {t:Tr} {w0 w w3 W6:World} {P bm ba b:Nat} {its:List It} {l FZq:Int} {NS:List ByteArray} (hP:w0.heap.size<=P)
  (hPw:P<w.heap.size) (hTg:TabG w0) (hGb:0<w0.heap.size/\3<w0.heap.size) (hmm:MmS P bm t W6) (hma : ∃nn D,w0.ownsMap Tryz.prog 9 (plainElem (H:=Unit) Tryz.prog 2) ba nn D/\AddrIs D t.globals)
  (hgl:t.globals.length<=50) (hgz : ∀g∈t.globals,0<=g.size/\g.size<=4000) (hnl:NS.length<=1000) (hB6:Below w0.heap.size w0 W6) (hb3:Below w.heap.size w w3) (hbl:w.heap.size<=b) (hbr:b<w3.heap.size) (hmo : ∃nn D,w3.ownsMap Tryz.prog 9 (plainElem (H:=Unit) Tryz.prog 2) b nn D/\NamesIs D NS)
  (hq36:Wq 5 P w3 W6) (hr : ∀k,rbq 5 w3 P=some k->P<k/\k<w.heap.size) (hes:Em 70 5 8 P W6 its (cI (.map (some b)) (4*(NS.length:Int)) FZq (.map (some bm)) (.map (some ba)) (l+1) l)) :
  ({w0:=W6,P:=P,S:=fun B=>B=b∨B=bm∨B=ba∨B=0∨B=3,bo:=b,bm:=bm,ba:=ba,sz:=FZq,en:=l,t:=t,ns:=NS}:IC).Ok/\Gi {w0:=W6,P:=P,S:=fun B=>B=b∨B=bm∨B=ba∨B=0∨B=3,bo:=b,bm:=bm,ba:=ba,sz:=FZq,en:=l,t:=t,ns:=NS} W6 its (l+1):=by
 obtain ⟨⟨n1,D1,o1,i1⟩,m2,m3⟩:=hmm
 obtain ⟨n2,D2,o2,i2⟩:=hma
 obtain ⟨n3,D3,o3,i3⟩:=hmo
 have l1:=o1.lt
 have l2:=o2.lt
 have hbk:W6.heap[b]? = w3.heap[b]? := hq36.block b hbr o_ (fun e=>by have:=hr b e.symm;omega)
 have hap : ∀B,B<w0.heap.size->B<W6.heap.size/\B≠P/\some B≠rbq 5 W6 P:=fun B hB=>by
  refine ⟨by have:=hB6.size;omega,by omega,fun e => ?_⟩
  have:=hes.rlt5 e.symm
  omega
 refine ⟨⟨.inl rfl,.inr (.inl rfl),.inr (.inr (.inl rfl)),.inr (.inr (.inr (.inl rfl))),.inr (.inr (.inr (.inr rfl))),⟨fun j hj=>(hB6.cell (p:=⟨0,j,none⟩) hGb.1).trans (hTg.reg j hj),fun j hj=>(hB6.cell (p:=⟨3,j,none⟩) hGb.2).trans (hTg.bin j hj)⟩,⟨n3,D3,own_blk o3 hbk,i3⟩,⟨n1,D1,o1,i1⟩,⟨n2,D2,own_blk o2 (hB6.block ba l2),i2⟩,hgl,hgz,hnl⟩,hes,fun B _=>rfl,fun B hB => ?_⟩
 rcases hB with rfl | rfl | rfl | rfl | rfl
 ·refine ⟨Nat.lt_of_lt_of_le hbr hq36.size,by show B≠P;omega,fun e => ?_⟩
  have e':rbq 5 W6 P=some B:=e.symm
  rcases hq36.row B e' with h | h
  ·have:=hr B h;omega
  ·omega
 ·exact ⟨l1,m2,m3⟩
 ·exact hap _ l2
 ·exact hap _ hGb.1
 ·exact hap _ hGb.2
end Go.Proofs.YtnpidjamplmgjaaGreatDoor
