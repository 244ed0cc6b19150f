import Derived.Test.YtffnkkpmlplfeaaGreatDoorN48
import Derived.Deep.RegionHeld3
import Derived.Test.YtffnkkpmlplfeaaGreatDoorN19
namespace Go.Proofs.YtffnkkpmlplfeaaGreatDoor
open Go.Proofs.Tryz
open Go.RowKit
set_option linter.all false
set_option maxRecDepth 100000
set_option maxHeartbeats 16000000
variable[Inhabited Pick]
theorem stOf4 (s:St) (hk:s.kind=4) (ve vf va vb:Value) (S:Nat->Prop) (w:World) (hT:Tab w) (hN:Nodes w ve s.e) (hF : ∃a n c,vf=.slice a n c) (ho:oneB s.e=true) (hl:s.e.length<=2000) (hS : ∀B,S B->B<w.heap.size) (A B:Nat) (vs us:Nat->Value) (F H:Nat->List St) (hA1:Args w S va A vs) (hA2 : ∀i,i<A->Bv w S (vs i) (F i)) (hA3:Args w S vb B us) (hA4 : ∀i,i<B->Bv w S (us i) (H i)) (h0:s.thn=(joinS F A).length/\s.els=(joinS H B).length) :
  Calls prog 109 #[.agg #[.int .i64 s.kind,.string s.name,ve,vf,.int .i64 s.thn,.int .i64 s.els],va,vb] w λe w'=>∃(u:Value) (S':Nat->Prop),e=.returned u/\Bv w' (λB=>S B∨S' B) u (s::joinS F A++joinS H B)/\(∀B,S' B->w.heap.size<=B/\B<w'.heap.size)/\Below w.heap.size w w':=by
 have HR:=hide λW (hW:Bl w W)=>raisedJ_any _ s.e W (hT.below hT.size hW) (hN.below hW) ho hl;obtain⟨af,nf,cf,rfl⟩:=hF;obtain⟨ae,ce,rfl,-⟩:=hN;obtain⟨W0,hW0⟩ : ∃W0,W0=w.alloc (.cells #[.int .i64 s.kind,.string s.name,.slice ae s.e.length ce,.slice af nf cf,.int .i64 s.thn,.int .i64 s.els] 132):=⟨_,rfl⟩;have hB0:Bl w W0:=by rw[hW0];exact r_.alloc n_ _
 have hs0:w.heap.size<W0.heap.size:=by rw[hW0];simp
 have HX:Hid (∀W,Bl W0 W->W.cell? ⟨w.heap.size,0,none⟩=some (.int .i64 s.kind)/\W.cell? ⟨w.heap.size,1,none⟩=some (.string s.name)):=λW hW=>by
  rw[hW.cell (p:=⟨w.heap.size,0,none⟩) hs0,hW.cell (p:=⟨w.heap.size,1,none⟩) hs0,hW0];exact⟨by simp,by simp⟩
 have HW0:=hide hW0;have hKp : ∀W (S':Nat->Prop) x,Bl W0 W->Tv W S' x s.e->(∀B,S' B->W0.heap.size<=B/\B<W.heap.size)->Bv W (λB=>S B∨S' B) (.iface 218 (.agg #[x,va,vb])) (s::joinS F A++joinS H B):=λW S' x hb ht hs'=>by
  have hbw:=hB0.trans (hb.mono hB0.size);have ht':=ht.keep (S':=λB=>S B∨S' B) (λB h=>.inr h) (λB _=>rfl);exact .ifs s x va vb A B vs us F H hk ht' (hA1.keep (λB h=>.inl h) (λB hB=>hbw.block B (hS B hB))) (λi hi=>(hA2 i hi).keep (λB h=>.inl h) (λB hB=>hbw.block B (hS B hB))) (hA3.keep (λB h=>.inl h) (λB hB=>hbw.block B (hS B hB))) (λi hi=>(hA4 i hi).keep (λB h=>.inl h) (λB hB=>hbw.block B (hS B hB))) h0.1 h0.2
 have HKp:=hide hKp;obtain⟨aa,ca,hva,-⟩:=hA1;obtain⟨ab,cb,hvb,-⟩:=hA3;subst hva;subst hvb;have HK:=hide hk;clear hW0 hKp hT hk h0;go_enter func109,ntmps109;go_wp2_with fail;rw[<-HW0.o];refine (HR.o _ hB0).mono ?_;rintro e w1 ⟨u,S',rfl,ht,hs',hb1⟩;have HU:=hide (HKp.o w1 S' u hb1 ht hs');obtain⟨x0,x1⟩:=HX.o w1 hb1;rw[HK.o] at x0;obtain⟨t,y,rfl⟩:=ht.isI;have hBw:=hB0.trans (hb1.mono hB0.size);have HS':Hid (∀B,S' B->w.heap.size<=B/\B<w1.heap.size):=λB hB=>⟨t_ hB0.size (hs' B hB).1,(hs' B hB).2⟩;go_wp2;go_ret;exact⟨_,S',rfl,HU,HS',hBw⟩
theorem stOf5 (s:St) (hk:s.kind=5) (ve vf va vb:Value) (S:Nat->Prop) (w:World) (hT:Tab w) (hN:Nodes w ve s.e) (hF : ∃a n c,vf=.slice a n c) (ho:oneB s.e=true) (hl:s.e.length<=2000) (hS : ∀B,S B->B<w.heap.size) (A:Nat) (vs:Nat->Value) (F:Nat->List St) (hA1:Args w S va A vs) (hA2 : ∀i,i<A->Bv w S (vs i) (F i)) (h0:s.thn=(joinS F A).length/\s.els=0) :
  Calls prog 109 #[.agg #[.int .i64 s.kind,.string s.name,ve,vf,.int .i64 s.thn,.int .i64 s.els],va,vb] w λe w'=>∃(u:Value) (S':Nat->Prop),e=.returned u/\Bv w' (λB=>S B∨S' B) u (s::joinS F A)/\(∀B,S' B->w.heap.size<=B/\B<w'.heap.size)/\Below w.heap.size w w':=by
 have HR:=hide λW (hW:Bl w W)=>raisedJ_any _ s.e W (hT.below hT.size hW) (hN.below hW) ho hl;obtain⟨af,nf,cf,rfl⟩:=hF;obtain⟨ae,ce,rfl,-⟩:=hN;obtain⟨W0,hW0⟩ : ∃W0,W0=w.alloc (.cells #[.int .i64 s.kind,.string s.name,.slice ae s.e.length ce,.slice af nf cf,.int .i64 s.thn,.int .i64 s.els] 132):=⟨_,rfl⟩;have hB0:Bl w W0:=by rw[hW0];exact r_.alloc n_ _
 have hs0:w.heap.size<W0.heap.size:=by rw[hW0];simp
 have HX:Hid (∀W,Bl W0 W->W.cell? ⟨w.heap.size,0,none⟩=some (.int .i64 s.kind)/\W.cell? ⟨w.heap.size,1,none⟩=some (.string s.name)):=λW hW=>by
  rw[hW.cell (p:=⟨w.heap.size,0,none⟩) hs0,hW.cell (p:=⟨w.heap.size,1,none⟩) hs0,hW0];exact⟨by simp,by simp⟩
 have HW0:=hide hW0;have hKp : ∀W (S':Nat->Prop) x,Bl W0 W->Tv W S' x s.e->(∀B,S' B->W0.heap.size<=B/\B<W.heap.size)->Bv W (λB=>S B∨S' B) (.iface 220 (.agg #[x,va])) (s::joinS F A):=λW S' x hb ht hs'=>by
  have hbw:=hB0.trans (hb.mono hB0.size);have ht':=ht.keep (S':=λB=>S B∨S' B) (λB h=>.inr h) (λB _=>rfl);exact .whil s x va A vs F hk ht' (hA1.keep (λB h=>.inl h) (λB hB=>hbw.block B (hS B hB))) (λi hi=>(hA2 i hi).keep (λB h=>.inl h) (λB hB=>hbw.block B (hS B hB))) h0.1 h0.2
 have HKp:=hide hKp;obtain⟨aa,ca,hva,-⟩:=hA1;subst hva;have HK:=hide hk;clear hW0 hKp hT hk h0;go_enter func109,ntmps109;go_wp2_with fail;rw[<-HW0.o];refine (HR.o _ hB0).mono ?_;rintro e w1 ⟨u,S',rfl,ht,hs',hb1⟩;have HU:=hide (HKp.o w1 S' u hb1 ht hs');obtain⟨x0,x1⟩:=HX.o w1 hb1;rw[HK.o] at x0;obtain⟨t,y,rfl⟩:=ht.isI;have hBw:=hB0.trans (hb1.mono hB0.size);have HS':Hid (∀B,S' B->w.heap.size<=B/\B<w1.heap.size):=λB hB=>⟨t_ hB0.size (hs' B hB).1,(hs' B hB).2⟩;go_wp2;go_ret;exact⟨_,S',rfl,HU,HS',hBw⟩
theorem stOf3 (s:St) (hk:s.kind=3) (ve vf va vb:Value) (S:Nat->Prop) (w:World) (hT:Tab w) (hN:Nodes w ve s.e) (hN2:Nodes w vf s.f) (ho:oneB s.e=true) (hl:s.e.length<=2000) (ho2:oneB s.f=true) (hl2:s.f.length<=2000) (h0:s.thn=0/\s.els=0) :
  Calls prog 109 #[.agg #[.int .i64 s.kind,.string s.name,ve,vf,.int .i64 s.thn,.int .i64 s.els],va,vb] w λe w'=>∃(u:Value) (S':Nat->Prop),e=.returned u/\Bv w' (λB=>S B∨S' B) u [s]/\(∀B,S' B->w.heap.size<=B/\B<w'.heap.size)/\Below w.heap.size w w':=by
 have HR:=hide λW (hW:Bl w W)=>raisedJ_any _ s.e W (hT.below hT.size hW) (hN.below hW) ho hl;have HR2:=hide λW (hW:Bl w W)=>raisedJ_any _ s.f W (hT.below hT.size hW) (hN2.below hW) ho2 hl2;obtain⟨af,cf,rfl,-⟩:=hN2;obtain⟨ae,ce,rfl,-⟩:=hN;obtain⟨W0,hW0⟩ : ∃W0,W0=w.alloc (.cells #[.int .i64 s.kind,.string s.name,.slice ae s.e.length ce,.slice af s.f.length cf,.int .i64 s.thn,.int .i64 s.els] 132):=⟨_,rfl⟩;have hB0:Bl w W0:=by rw[hW0];exact r_.alloc n_ _
 have hs0:w.heap.size<W0.heap.size:=by rw[hW0];simp
 have HX:Hid (∀W,Bl W0 W->W.cell? ⟨w.heap.size,0,none⟩=some (.int .i64 s.kind)/\W.cell? ⟨w.heap.size,1,none⟩=some (.string s.name)/\W.cell? ⟨w.heap.size,3,none⟩=some (.slice af s.f.length cf)):=λW hW=>by
  rw[hW.cell (p:=⟨w.heap.size,0,none⟩) hs0,hW.cell (p:=⟨w.heap.size,1,none⟩) hs0,hW.cell (p:=⟨w.heap.size,3,none⟩) hs0,hW0];exact⟨by simp,by simp,by simp⟩
 have HW0:=hide hW0;have HKp:Hid (∀(W W':World) (S1 S2:Nat->Prop) x y,Bl W W'->Tv W S1 x s.e->(∀B,S1 B->B<W.heap.size)->Tv W' S2 y s.f->Bv W' (λB=>S B∨(S1 B∨S2 B)) (.iface 216 (.agg #[.string s.name,x,y])) [s]):=λW W' S1 S2 x y hb h1 hs1 h2=>.store s x y hk (h1.keep (λB h=>.inr (.inl h)) (λB hB=>hb.block B (hs1 B hB))) (h2.keep (λB h=>.inr (.inr h)) (λB _=>rfl)) h0.1 h0.2;have HK:=hide hk;clear hW0 hT hk h0;go_enter func109,ntmps109;go_wp2_with fail;rw[<-HW0.o];refine (HR.o _ hB0).mono ?_;rintro e w1 ⟨u,S1,rfl,ht,hs1,hb1⟩;obtain⟨x0,x1,x3⟩:=HX.o w1 hb1;rw[HK.o] at x0;obtain⟨t,y,rfl⟩:=ht.isI;have hBw:=hB0.trans (hb1.mono hB0.size);have hdr:Bl w w1.drew:=hBw.drew;have hlw:w.heap.size<w1.drew.heap.size:=b_ x0;have d1:w1.drew.cell? ⟨w.heap.size,1,none⟩=some (.string s.name):=x1;have d3:w1.drew.cell? ⟨w.heap.size,3,none⟩=some (.slice af s.f.length cf):=x3;have HT1:Hid (Tv w1 S1 (.iface t y) s.e/\(∀B,S1 B->W0.heap.size<=B/\B<w1.heap.size)):=⟨ht,hs1⟩;have HP:Hid (Calls prog 141 #[.slice af s.f.length cf,.func (Fn.func 142) #[] #[]] w1.drew λx w'=>∃(ta:TypeId) (tb:Value) (S2:Nat->Prop),x=.returned (.iface ta tb)/\(Tv w' S2 (.iface ta tb) s.f/\(∀B,S2 B->w1.heap.size<=B/\B<w'.heap.size))/\Bl w1.drew w'):=(HR2.o _ hdr).mono (by
  rintro x w' ⟨u,S2,rfl,h1,h2,h3⟩;obtain⟨ta,tb,rfl⟩:=h1.isI;exact⟨ta,tb,S2,rfl,⟨h1,h2⟩,h3⟩)
 go_wp2_with fail;go_region_held3 (λW=>W.cell? ⟨w.heap.size,1,none⟩=some (.string s.name)/\W.cell? ⟨w.heap.size,3,none⟩=some (.slice af s.f.length cf)) (go_simp)
  (first
  | ((with_reducible refine Calls.mono HP.o ?_);rintro e w3 ⟨ta,tb,S2,rfl,ht2,hb3⟩;have q1:w3.cell? ⟨w.heap.size,1,none⟩=some (.string s.name):=(hb3.cell (p:=⟨w.heap.size,1,none⟩) hlw).trans d1;have q3:w3.cell? ⟨w.heap.size,3,none⟩=some (.slice af s.f.length cf):=(hb3.cell (p:=⟨w.heap.size,3,none⟩) hlw).trans d3))
 have hb13:Bl w1 w3:=(r_.drew).trans hb3;have HU:=hide (HKp.o w1 w3 S1 S2 _ _ hb13 HT1.o.1 (λB hB=>(HT1.o.2 B hB).2) ht2.1);have HS':Hid (∀B,(S1 B∨S2 B)->w.heap.size<=B/\B<w3.heap.size):=λB hB=>by
  have hsz:=hb13.size;rcases hB with hB|hB
  ·have:=HT1.o.2 B hB;have:=hB0.size;omega
  ·have:=ht2.2 B hB;have:=hBw.size;omega
 have hBf:=hBw.trans (hb13.mono hBw.size);clear HKp HT1 ht2 HP;go_wp2;go_ret;exact⟨_,_,rfl,HU,HS',hBf⟩
theorem stOf12 (s:St) (hk:s.kind=1∨s.kind=2) (ve vf va vb:Value) (S:Nat->Prop) (w:World) (hT:Tab w) (hN:Nodes w ve s.e) (hF : ∃a n c,vf=.slice a n c) (ho:oneB s.e=true) (hl:s.e.length<=2000) (hS : ∀B,S B->B<w.heap.size) (h0:s.thn=0/\s.els=0) :
    Calls prog 109 #[.agg #[.int .i64 s.kind,.string s.name,ve,vf,.int .i64 s.thn,.int .i64 s.els],va,vb] w λe w'=>∃(u:Value) (S':Nat->Prop),e=.returned u/\Bv w' (λB=>S B∨S' B) u ([s])/\(∀B,S' B->w.heap.size<=B/\B<w'.heap.size)/\Below w.heap.size w w':=by
  have hz_:(∃z_:BitVec 1,s.kind=1)∨(∃z_:BitVec 2,s.kind=2):=(Or.imp (λh=>⟨0,h⟩) (λh=>⟨0,h⟩)) hk;clear hk;rcases hz_ with ⟨z_,hk⟩|⟨z_,hk⟩;all_goals
    have HR:=hide λW (hW:Bl w W)=>raisedJ_any _ s.e W (hT.below hT.size hW) (hN.below hW) ho hl;obtain⟨af,nf,cf,rfl⟩:=hF;obtain⟨ae,ce,rfl,-⟩:=hN;obtain⟨W0,hW0⟩ : ∃W0,W0=w.alloc (.cells #[.int .i64 s.kind,.string s.name,.slice ae s.e.length ce,.slice af nf cf,.int .i64 s.thn,.int .i64 s.els] 132):=⟨_,rfl⟩;have hB0:Bl w W0:=by rw[hW0];exact r_.alloc n_ _
    have hs0:w.heap.size<W0.heap.size:=by rw[hW0];simp
    have HX:Hid (∀W,Bl W0 W->W.cell? ⟨w.heap.size,0,none⟩=some (.int .i64 s.kind)/\W.cell? ⟨w.heap.size,1,none⟩=some (.string s.name)):=λW hW=>by
      rw[hW.cell (p:=⟨w.heap.size,0,none⟩) hs0,hW.cell (p:=⟨w.heap.size,1,none⟩) hs0,hW0];exact⟨by simp,by simp⟩
    have HW0:=hide hW0;first
    | (have q_:BitVec 1:=z_
       have hKp : ∀W (S':Nat->Prop) x,Bl W0 W->Tv W S' x s.e->(∀B,S' B->W0.heap.size<=B/\B<W.heap.size)->Bv W (λB=>S B∨S' B) (.iface 213 (.agg #[.string s.name,x])) ([s]):=λW S' x hb ht hs'=>by
         have hbw:=hB0.trans (hb.mono hB0.size);have ht':=ht.keep (S':=λB=>S B∨S' B) (λB h=>.inr h) (λB _=>rfl);exact .decl s x hk ht' h0.1 h0.2
       have HKp:=hide hKp;clear q_)
    | (have hKp : ∀W (S':Nat->Prop) x,Bl W0 W->Tv W S' x s.e->(∀B,S' B->W0.heap.size<=B/\B<W.heap.size)->Bv W (fun B=>S B∨S' B) (.iface 214 (.agg #[.string s.name,x])) ([s]):=fun W S' x hb ht hs'=>by
         have hbw:=hB0.trans (hb.mono hB0.size);have ht':=ht.keep (S':=λB=>S B∨S' B) (λB h=>.inr h) (λB _=>rfl);exact .set s x hk ht' h0.1 h0.2
       have HKp:=hide (hKp))
    skip
    first
    | (have q_:BitVec 1:=z_
       have HK:=hide hk;clear q_)
    | (have HK:Hid (s.kind=2):=hk)
    clear hW0 hKp hT hk h0;go_enter func109,ntmps109;go_wp2_with fail;rw[<-HW0.o];refine (HR.o _ hB0).mono ?_;rintro e w1 ⟨u,S',rfl,ht,hs',hb1⟩;first
    | (have q_:BitVec 1:=z_
       have HU:=hide (HKp.o w1 S' u hb1 ht hs');clear q_)
    | (have HU:Hid (Bv w1 (λB=>S B∨S' B) (.iface 214 (.agg #[.string s.name,u])) ([s])):=HKp.o w1 S' u hb1 ht hs')
    obtain⟨x0,x1⟩:=HX.o w1 hb1;rw[HK.o] at x0;obtain⟨t,y,rfl⟩:=ht.isI;have hBw:=hB0.trans (hb1.mono hB0.size);have HS':Hid (∀B,S' B->w.heap.size<=B/\B<w1.heap.size):=λB hB=>⟨t_ hB0.size (hs' B hB).1,(hs' B hB).2⟩;clear HX HKp HR ht hs' hb1 HW0;go_wp2_with fail;go_ret;exact⟨_,S',rfl,HU,HS',hBw⟩
theorem stOf678 (s:St) (hk:s.kind=6∨s.kind=7∨s.kind=8) (ve vf va vb:Value) (S:Nat->Prop) (w:World) (hT:Tab w) (hN:Nodes w ve s.e) (hF : ∃a n c,vf=.slice a n c) (ho:oneB s.e=true) (hl:s.e.length<=2000) (hS : ∀B,S B->B<w.heap.size) (h0:s.thn=0/\s.els=0) :
    Calls prog 109 #[.agg #[.int .i64 s.kind,.string s.name,ve,vf,.int .i64 s.thn,.int .i64 s.els],va,vb] w λe w'=>∃(u:Value) (S':Nat->Prop),e=.returned u/\Bv w' (λB=>S B∨S' B) u ([s])/\(∀B,S' B->w.heap.size<=B/\B<w'.heap.size)/\Below w.heap.size w w':=by
  have hz_:(∃z_:BitVec 1,s.kind=6)∨(∃z_:BitVec 2,s.kind=7)∨(∃z_:BitVec 3,s.kind=8):=(Or.imp (λh=>⟨0,h⟩) (Or.imp (λh=>⟨0,h⟩) (λh=>⟨0,h⟩))) hk;clear hk;rcases hz_ with ⟨z_,hk⟩|⟨z_,hk⟩|⟨z_,hk⟩;all_goals
    have HR:=hide λW (hW:Bl w W)=>raisedJ_any _ s.e W (hT.below hT.size hW) (hN.below hW) ho hl;obtain⟨af,nf,cf,rfl⟩:=hF;obtain⟨ae,ce,rfl,-⟩:=hN;obtain⟨W0,hW0⟩ : ∃W0,W0=w.alloc (.cells #[.int .i64 s.kind,.string s.name,.slice ae s.e.length ce,.slice af nf cf,.int .i64 s.thn,.int .i64 s.els] 132):=⟨_,rfl⟩;have hB0:Bl w W0:=by rw[hW0];exact r_.alloc n_ _
    have hs0:w.heap.size<W0.heap.size:=by rw[hW0];simp
    have HX:Hid (∀W,Bl W0 W->W.cell? ⟨w.heap.size,0,none⟩=some (.int .i64 s.kind)/\W.cell? ⟨w.heap.size,1,none⟩=some (.string s.name)):=λW hW=>by
      rw[hW.cell (p:=⟨w.heap.size,0,none⟩) hs0,hW.cell (p:=⟨w.heap.size,1,none⟩) hs0,hW0];exact⟨by simp,by simp⟩
    have HW0:=hide hW0;first
    | (have q_:BitVec 1:=z_
       have hKp : ∀W (S':Nat->Prop) x,Bl W0 W->Tv W S' x s.e->(∀B,S' B->W0.heap.size<=B/\B<W.heap.size)->Bv W (λB=>S B∨S' B) (.iface 185 (.agg #[x])) ([s]):=λW S' x hb ht hs'=>by
         have hbw:=hB0.trans (hb.mono hB0.size);have ht':=ht.keep (S':=λB=>S B∨S' B) (λB h=>.inr h) (λB _=>rfl);exact .ret s x hk ht' h0.1 h0.2
       have HKp:=hide hKp;clear q_)
    | (have q_:BitVec 2:=z_
       have hKp : ∀W (S':Nat->Prop) x,Bl W0 W->Tv W S' x s.e->(∀B,S' B->W0.heap.size<=B/\B<W.heap.size)->Bv W (λB=>S B∨S' B) (.iface 221 (.agg #[x])) ([s]):=λW S' x hb ht hs'=>by
         have hbw:=hB0.trans (hb.mono hB0.size);have ht':=ht.keep (S':=λB=>S B∨S' B) (λB h=>.inr h) (λB _=>rfl);exact .out s x hk ht' h0.1 h0.2
       have HKp:=hide hKp;clear q_)
    | (have hKp : ∀W (S':Nat->Prop) x,Bl W0 W->Tv W S' x s.e->(∀B,S' B->W0.heap.size<=B/\B<W.heap.size)->Bv W (fun B=>S B∨S' B) (.iface 222 (.agg #[x])) ([s]):=fun W S' x hb ht hs'=>by
         have hbw:=hB0.trans (hb.mono hB0.size);have ht':=ht.keep (S':=λB=>S B∨S' B) (λB h=>.inr h) (λB _=>rfl);exact .call s x hk ht' h0.1 h0.2
       have HKp:=hide (hKp))
    skip
    first
    | (have q_:BitVec 1:=z_
       have HK:=hide hk;clear q_)
    | (have q_:BitVec 2:=z_
       have HK:=hide hk;clear q_)
    | (have HK:Hid (s.kind=8):=hk)
    clear hW0 hKp hT hk h0;go_enter func109,ntmps109;go_wp2_with fail;rw[<-HW0.o];refine (HR.o _ hB0).mono ?_;rintro e w1 ⟨u,S',rfl,ht,hs',hb1⟩;first
    | (have q_:BitVec 1:=z_
       have HU:=hide (HKp.o w1 S' u hb1 ht hs');clear q_)
    | (have q_:BitVec 2:=z_
       have HU:=hide (HKp.o w1 S' u hb1 ht hs');clear q_)
    | (have HU:Hid (Bv w1 (λB=>S B∨S' B) (.iface 222 (.agg #[u])) ([s])):=HKp.o w1 S' u hb1 ht hs')
    obtain⟨x0,x1⟩:=HX.o w1 hb1;rw[HK.o] at x0;obtain⟨t,y,rfl⟩:=ht.isI;have hBw:=hB0.trans (hb1.mono hB0.size);have HS':Hid (∀B,S' B->w.heap.size<=B/\B<w1.heap.size):=λB hB=>⟨t_ hB0.size (hs' B hB).1,(hs' B hB).2⟩;clear HX HKp HR ht hs' hb1 HW0;go_wp2;go_ret;exact⟨_,S',rfl,HU,HS',hBw⟩
theorem joinS_nil {F:Nat->List St} {A:Nat} (h:(0:Int)=(joinS F A).length):joinS F A = []:=List.eq_nil_of_length_eq_zero o_
theorem stOf_any (s:St) (hb:stmtB s=true) (hl:s.e.length<=2000) (hlf:s.f.length<=2000) (ve vf va vb:Value) (S:Nat->Prop) (w:World) (hT:Tab w) (hN:Nodes w ve s.e) (hN2:Nodes w vf s.f) (hS : ∀B,S B->B<w.heap.size) (A B:Nat) (vs us:Nat->Value) (F H:Nat->List St) (hA1:Args w S va A vs) (hA2 : ∀i,i<A->Bv w S (vs i) (F i)) (hA3:Args w S vb B us) (hA4 : ∀i,i<B->Bv w S (us i) (H i)) (h0:s.thn=(joinS F A).length/\s.els=(joinS H B).length) :
  Calls prog 109 #[.agg #[.int .i64 s.kind,.string s.name,ve,vf,.int .i64 s.thn,.int .i64 s.els],va,vb] w λe w'=>∃(u:Value) (S':Nat->Prop),e=.returned u/\Bv w' (λB=>S B∨S' B) u (s::joinS F A++joinS H B)/\(∀B,S' B->w.heap.size<=B/\B<w'.heap.size)/\Below w.heap.size w w':=by
 have hF : ∃a n c,vf=.slice a n c:=by
  obtain⟨a,c,rfl,_⟩:=hN2;exact⟨a,_,c,rfl⟩
 unfold stmtB at hb;simp only[Bool.and_eq_true,Bool.or_eq_true,decide_eq_true_eq,beq_iff_eq] at hb;obtain⟨⟨⟨⟨⟨⟨hk,-⟩,ho⟩,hof⟩,-⟩,ht⟩,he⟩:=hb;have hk8:s.kind=1∨s.kind=2∨s.kind=3∨s.kind=4∨s.kind=5∨s.kind=6∨s.kind=7∨s.kind=8:=by omega
 have hno : ¬(s.kind=4∨s.kind=5)->s.thn=0/\s.els=0/\s::joinS F A++joinS H B = [s]:=λhn=>by
  have t0:s.thn=0:=by rcases ht with h|h;exact absurd h hn;exact h
  have e0:s.els=0:=by rcases he with h|h;exact absurd (.inl h) hn;exact h
  refine⟨t0,e0,?_⟩;rw[joinS_nil (F:=F) (A:=A) (by rw[<-h0.1,t0]),joinS_nil (F:=H) (A:=B) (by rw[<-h0.2,e0])];rfl
 rcases hk8 with h|h|h|h|h|h|h|h
 ·obtain⟨t0,e0,el⟩:=hno o_;rw[el];exact stOf12 s (.inl h) ve vf va vb S w hT hN hF ho hl hS ⟨t0,e0⟩
 ·obtain⟨t0,e0,el⟩:=hno o_;rw[el];exact stOf12 s (.inr h) ve vf va vb S w hT hN hF ho hl hS ⟨t0,e0⟩
 ·obtain⟨t0,e0,el⟩:=hno o_;rw[el];rw[if_pos h] at hof;exact stOf3 s h ve vf va vb S w hT hN hN2 ho hl hof hlf ⟨t0,e0⟩
 ·exact stOf4 s h ve vf va vb S w hT hN hF ho hl hS A B vs us F H hA1 hA2 hA3 hA4 h0
 ·have e0:s.els=0:=by
   rcases he with h'|h'
   ·omega
   ·exact h'
  have el:s::joinS F A++joinS H B=s::joinS F A:=by rw[joinS_nil (F:=H) (A:=B) (by rw[<-h0.2,e0]),List.append_nil]
  rw[el];exact stOf5 s h ve vf va vb S w hT hN hF ho hl hS A vs F hA1 hA2 ⟨h0.1,e0⟩
 ·obtain⟨t0,e0,el⟩:=hno o_;rw[el];exact stOf678 s (.inl h) ve vf va vb S w hT hN hF ho hl hS ⟨t0,e0⟩
 ·obtain⟨t0,e0,el⟩:=hno o_;rw[el];exact stOf678 s (.inr (.inl h)) ve vf va vb S w hT hN hF ho hl hS ⟨t0,e0⟩
 ·obtain⟨t0,e0,el⟩:=hno o_;rw[el];exact stOf678 s (.inr (.inr h)) ve vf va vb S w hT hN hF ho hl hS ⟨t0,e0⟩
def BlockOfC:Prop:=∀(ss:List St) (v:Value) (w:World),Tab w->Stmts w v ss->fitB ss=true->(∀s∈ss,stmtB s=true/\s.e.length<=2000/\s.f.length<=2000)->ss.length<=1000->Calls prog 69 #[v] w λe w'=>∃(u:Value) (S':Nat->Prop),e=.returned u/\Bk w' S' u ss/\(∀B,S' B->w.heap.size<=B/\B<w'.heap.size)/\Below w.heap.size w w'
section
variable {w wr:World} {ss:List St} {v:Value} {L:List (Value × List St)} {S:Nat->Prop}
def lenV:Value->Nat
 | .slice _ n _=>n
 | _=>0
structure BoI (w wr:World) (ss rest:List St) (v:Value) (L:List (Value × List St)) (S:Nat->Prop):Prop where
 row:wr.ownsRow w.heap.size 168 1 v L.length (L.map (·.1))
 bv : ∀q∈L,Bv wr S q.1 q.2
 join:ss=(L.map (·.2)).flatten++rest
 rng : ∀B,S B->w.heap.size<=B/\B<wr.heap.size/\some B≠v.ownBlock
 bel:Below w.heap.size w wr
theorem flat_joinS (L:List (Value × List St)) (d:Value × List St) : ∀k,k<=L.length->joinS (λi=>(L.getD i d).2) k=((L.take k).map (·.2)).flatten
 | 0,_=>rfl
 | k+1,h=>by
  have hk:k<L.length:=by omega
  simp only[joinS];rw[flat_joinS L d k o_,List.take_succ_eq_append_getElem hk];have eg:L.getD k d=L[k]:=by rw[List.getD_eq_getElem?_getD,List.getElem?_eq_getElem hk];rfl
  simp only[List.map_append,List.map_cons,List.map_nil,List.flatten_append,List.flatten_cons,List.flatten_nil,List.append_nil,eg]
theorem BoI.bk (h:BoI w wr ss [] v L S) : ∃S':Nat->Prop,Bk wr S' v ss/\∀B,S' B->w.heap.size<=B/\B<wr.heap.size:=by
 have hlt:=λk hk=>World.ownsRow.lt h.row k hk;refine⟨λB=>S B∨v.ownBlock=some B,⟨L.length,λi=>(L.getD i (.nilFunc,[])).1,λi=>(L.getD i (.nilFunc,[])).2,?_,λi hi => ?_,?_⟩,λB hB => ?_⟩
 ·have h0:=h.row;rcases h.row.2 with ⟨hv,hn⟩|⟨g,cap,cur,hv,hbg,hg,hnc,hcm,hcs,htake⟩
  ·refine⟨none,0,by rw[hv,hn],by omega,by omega,λhp=>by omega⟩
  ·refine⟨_,cap,hv,hnc,by unfold maxLen at hcm;omega,λhp=>⟨g,rfl,.inr (by rw[hv];rfl),λi hi => ?_⟩⟩;have hj:(L.map (·.1))[i]? = some ((L.getD i (.nilFunc,[])).1):=by
    simp[List.getD_eq_getElem?_getD,List.getElem?_eq_getElem hi]
   have:=World.ownsRow.cells h0 (g:=g) (by rw[hv];rfl) i _ hj
   rw[addrO] at this;simpa using this
 ·have hm:L.getD i (.nilFunc,[])∈L:=by
   rw[List.getD_eq_getElem?_getD,List.getElem?_eq_getElem hi];exact g_ hi
  exact (h.bv _ hm).keep (λB hB=>.inl hB) (λB _=>rfl)
 ·rw[flat_joinS L _ L.length n_,List.take_length];have:=h.join
  simpa using this
 ·rcases hB with hB|hB
  ·exact⟨(h.rng B hB).1,(h.rng B hB).2.1⟩
  ·exact hlt B hB
theorem BoI.next {wc w':World} {lst r':List St} {v' u:Value} {S2:Nat->Prop} (h:BoI w wr ss (lst++r') v L S) (hb:Below wr.heap.size wr wc) (hu:Bv wc S2 u lst) (hS2 : ∀B,S2 B->wr.heap.size<=B/\B<wc.heap.size)
  (hg:wc.grownBy w' v.ownBlock) (hrow:w'.ownsRow w.heap.size 168 1 v' (L.map (·.1)++[u]).length (L.map (·.1)++[u])) (hf : ∀k,v'.ownBlock=some k->v.ownBlock=some k∨wc.heap.size<=k):BoI w w' ss r' v' (L++[(u,lst)]) (λB=>S B∨S2 B):=by
 have hlt:=λk hk=>World.ownsRow.lt h.row k hk;have k1 : ∀B,S B->w'.heap[B]? = wr.heap[B]? := λB hB=>by
  obtain⟨h1,h2,h3⟩:=h.rng B hB;rw[hg.block B (l_ h2 hb.size) h3,hb.block B h2]
 have hn : ∀B,S2 B->some B≠v.ownBlock:=λB hB e=>by
  have:=hlt B e.symm
  have:=hS2 B hB
  omega
 have k2 : ∀B,S2 B->w'.heap[B]? = wc.heap[B]? := λB hB=>hg.block B (hS2 B hB).2 (hn B hB);refine⟨by simpa using hrow,λq hq => ?_,?_,λB hB => ?_,?_⟩
 ·rcases List.mem_append.1 hq with hq|hq
  ·exact (h.bv q hq).keep (λB hB=>.inl hB) k1
  ·simp only[List.mem_cons,List.not_mem_nil,or_false] at hq;subst hq;exact hu.keep (λB hB=>.inr hB) k2
 ·rw[h.join];simp
 ·have hwr:=h.bel.size;rcases hB with hB|hB
  ·obtain⟨h1,h2,h3⟩:=h.rng B hB;refine⟨h1,l_ (l_ h2 hb.size) hg.size,λe => ?_⟩;rcases hf B e.symm with h4|h4
   ·exact h3 h4.symm
   ·have:=hb.size;omega
  ·obtain⟨h1,h2⟩:=hS2 B hB;refine⟨by omega,l_ h2 hg.size,λe => ?_⟩;rcases hf B e.symm with h4|h4
   ·exact hn B hB h4.symm
   ·omega
 ·have hbc:Bl w wc:=h.bel.trans (hb.mono h.bel.size);exact hbc.grown hg hbc.size (λk hk=>(hlt k hk).1)
end
theorem len_flat (L:List (Value × List St)) (h : ∀q∈L,0<q.2.length):L.length<=(L.map (·.2)).flatten.length:=by
 induction L with
 | nil=>simp
 | cons q r ih=>
  have h1:=h q (by simp);have h2:=ih (λx hx=>h x (by simp[hx]));simp only[List.map_cons,List.flatten_cons,l_a,l_c];omega
theorem info_st:(prog.info? 168).map (λi=>(i.zero,i.size,i.bytes))=some (some .nilIface,1,16):=by kernel_rfl
theorem own_below {B t z n:Nat} {w w':World} {v:Value} {xs:List Value} (h:w.ownsRow B t z v n xs) (hb:Below w.heap.size w w'):w'.ownsRow B t z v n xs:=by
 obtain⟨g1,g2⟩:=h;refine⟨g1,?_⟩;rcases g2 with g2|⟨g,cap,cur,rfl,g3,g4,g5⟩
 ·exact .inl g2
 ·refine .inr ⟨g,cap,cur,rfl,g3,?_,g5⟩;rw[hb.block g (Array.getElem?_eq_some_iff.1 g4).1];exact g4
theorem src_one (W:World) (t0:TypeId) (x0:Value):Src (W.alloc (.cells #[.iface t0 x0] 168)) (.slice (some ⟨W.heap.size,0,none⟩) 1 1) [.iface t0 x0]:=by
 refine⟨_,_,rfl,(λh=>by cases h),λad had j u hj => ?_⟩;simp only[Option.some.injEq] at had;subst had;have hj0:j=0:=by
  have:=(List.getElem?_eq_some_iff.mp hj).1
  simp at this;omega
 subst hj0;simp at hj;subst hj;simp[Addr.add]
theorem blockOf_step (ss:List St) (v:Value) (w:World) (hT:Tab w) (hS:Stmts w v ss) (hfit:fitB ss=true) (hok : ∀s∈ss,stmtB s=true/\s.e.length<=2000/\s.f.length<=2000) (hlen:ss.length<=1000)
  (IH : ∀(tt:List St) (u:Value) (W:World),tt.length<ss.length->Below w.heap.size w W->Stmts w u tt->fitB tt=true->(∀s∈tt,s∈ss)->Calls prog 69 #[u] W λe w'=>∃(x:Value) (S':Nat->Prop),e=.returned x/\Bk w' S' x tt/\(∀B,S' B->W.heap.size<=B/\B<w'.heap.size)/\Below W.heap.size W w') :
  Calls prog 69 #[v] w λe w'=>∃(u:Value) (S':Nat->Prop),e=.returned u/\Bk w' S' u ss/\(∀B,S' B->w.heap.size<=B/\B<w'.heap.size)/\Below w.heap.size w w':=by
 obtain⟨HT,HS,HOk,HFit,HIH⟩:=h5 hT hS hok hfit IH;obtain⟨av,cv,rfl,-⟩:=hS;go_enter func69,ntmps69;go_wp2_with fail;go_loopw [0,3] (λv0 v3 wr=>∃(rest:List St) (L:List (Value × List St)) (S:Nat->Prop),Stmts w v0 rest/\fitB rest=true/\rest.length<=ss.length/\(∀s∈rest,s∈ss)/\BoI w wr ss rest v3 L S) (λv0 _ _=>lenV v0)
 case atStart=>exact⟨ss,[],λ_=>False,HS,HFit,n_,λs h=>h,⟨World.ownsRow_nil _ _ _ _,λq hq=>by simp at hq,by simp,λB hB=>hB.elim,r_⟩⟩
 case round=>
  clear HS HFit;obtain⟨rest,L,S,hst,hft,hrl,hsub,hbo⟩:=hrel;obtain⟨HBo,HSub⟩:=h2 hbo hsub;obtain⟨va3,vn3,vc3,rfl⟩ : ∃a n c,u3=.slice a n c:=by
   rcases hbo.row.2 with ⟨rfl,_⟩|⟨g,cap,cur,rfl,_⟩
   ·exact⟨_,_,_,rfl⟩
   ·exact⟨_,_,_,rfl⟩
  cases rest with
  | nil=>
   obtain⟨a2,c2,rfl,-⟩:=hst;simp only[l_n];go_wp2_with fail;obtain⟨S',hbk,hS'⟩:=HBo.o.bk;exact bodyPost_ret (v:=.slice va3 vn3 vc3) (by simp[results,results69,go_sem]) rfl ⟨_,S',rfl,hbk,hS',HBo.o.bel⟩
  | cons s r=>
   rw[fitB_cons,Bool.and_eq_true,Bool.and_eq_true,Bool.and_eq_true,decide_eq_true_iff] at hft;obtain⟨⟨p1,p2,p3,p4⟩,hf1,hf2,hf3⟩:=hft;obtain⟨a2,cap,rfl,hcl,hcm,hc⟩:=hst;obtain⟨b0,off,rfl,hs⟩:=hc (by simp);have hall:Stmts w (.slice (some ⟨b0,off,none⟩) (s::r).length cap) (s::r):=⟨_,_,rfl,hcl,hcm,λ_=>⟨b0,off,rfl,hs⟩⟩;have hrest:Stmts w (.slice (if cap=1 then some ⟨b0,off,none⟩ else some ⟨b0,off+6,none⟩) r.length (cap-1)) r:=by
    have:=hall.cut 1 (s::r).length (by simp) n_
    simpa[Addr.add] using this
   obtain⟨ve,vf,⟨g0,g1,g2,g3,g4,g5⟩,⟨c0,c1,c2,c3,c4,c5⟩,he,hf⟩:=(hs.below hbo.bel).up 0 (by simp);simp only[Nat.zero_mul,Nat.add_zero,List.getElem_cons_zero] at c0 c1 c2 c3 c4 c5 g0 g1 g2 g3 g4 g5 he hf;simp only[l_c] at *;have HR:=hide hrest;have h1:(1:Int)<=(r.length:Int)+1:=by omega
   obtain⟨HNe,HNf,HF1,HF2,HF3⟩:=h5 he hf hf1 hf2 hf3;obtain⟨a3,k3,rfl,-⟩:=he;obtain⟨a4,k4,rfl,-⟩:=hf;clear hs hc hall hrest hf1 hf2 hf3 hbo hsub;go_wp2_with fail;go_region
   generalize (if cap=1 then some ({block:=b0,off:=off,spot:=none}:Addr) else some {block:=b0,off:=off+6,spot:=none})=a1 at HR ⊢;generalize hk1:cap-1=k1 at HR ⊢;have hk1':r.length<=k1:=by omega
   have hk2':k1<=9223372036854775807:=by omega
   obtain⟨tn,htn⟩:=Int.eq_ofNat_of_zero_le p1;obtain⟨ln,hln⟩:=Int.eq_ofNat_of_zero_le p3;have hw1:IntKind.i64.wrap ((tn:Int)+(ln:Int))=(tn:Int)+(ln:Int):=by simp[IntKind.wrap,IntKind.bits,IntKind.signed];omega
   go_wp2_with fail;obtain⟨X,hX⟩ : ∃X,X=(wr.alloc (.cells #[.int .i64 s.kind,.string s.name,.slice a3 s.e.length k3,.slice a4 s.f.length k4,.int .i64 (tn:Int),.int .i64 (ln:Int)] 132)).drew:=⟨_,rfl⟩;rw[<-hX];have hbX:Bl wr X.drew:=by rw[hX];exact (bel_a _ _).drew.drew
   have hsX:X.drew.heap.size=wr.heap.size+1:=by rw[hX];simp
   have hbw:=HBo.o.bel;have hbwX:Bl w X.drew:=hbw.trans (hbX.mono hbw.size);have HK:Hid (∀W,Bl X.drew W->W.cell? ⟨wr.heap.size,0,none⟩=some (.int .i64 s.kind)/\W.cell? ⟨wr.heap.size,1,none⟩=some (.string s.name)/\W.cell? ⟨wr.heap.size,2,none⟩=some (.slice a3 s.e.length k3)/\W.cell? ⟨wr.heap.size,3,none⟩=some (.slice a4 s.f.length k4)/\W.cell? ⟨wr.heap.size,4,none⟩=some (.int .i64 (tn:Int))/\W.cell? ⟨wr.heap.size,5,none⟩=some (.int .i64 (ln:Int))):=λW hW=>by
    refine⟨?_,?_,?_,?_,?_,?_⟩ <;> (rw[hW.cell (by simp only;omega)];show X.cell? _=_;rw[hX];show World.cell? (wr.alloc _) _=_;simp)
   obtain⟨x0,x1,x2,x3,x4,x5⟩:=HK.o X.drew r_;have htl:tn+ln<=r.length:=by omega
   obtain⟨a6,k6,hr6,hs6⟩ : ∃a6 k6,(∀w:World,(Instr.slice 95 (.slice a1 r.length k1) (some (.int .i64 (tn:Int))) (some (.int .i64 ((tn:Int)+(ln:Int)))) none).run prog w=.ok (.slice a6 ln k6) w)/\Stmts w (.slice a6 ln k6) ((r.take (tn+ln)).drop tn):=by
    have h:=cut_run2 a1 r.length k1 tn (tn+ln) o_ o_ o_ (tn:Int) ((tn:Int)+(ln:Int)) o_ o_;have h':=HR.o.cut tn (tn+ln) o_ o_;rw[show tn+ln-tn=ln by omega] at h h';exact⟨_,_,h,h'⟩
   have hs5:Stmts w (.slice a1 tn k1) (r.take tn):=HR.o.head tn o_;have hr5 : ∀w:World,(Instr.slice 95 (.slice a1 r.length k1) none (some (.int .i64 (tn:Int))) none).run prog w=.ok (.slice a1 tn k1) w:=λw=>by
    have hz:prog.elem 95=132:=by kernel_rfl
    have hsz:(sizeOf 132).run prog w=.ok 6 w:=by kernel_rfl
    rw[run_slice_h w 95 a1 r.length k1 (by rw[hz];exact underlying95) .i64 _ o_ o_,hz,hsz];simp only[Result.andThen,sliced,Int.toNat_natCast,Nat.sub_zero,Nat.zero_mul,Int.toNat_zero];cases a1 <;> simp[Addr.add]
   have HI1:=hide λW (hW:Bl w W)=>HIH.o (r.take tn) _ W (by simp;omega) hW hs5 (by have:=HF1.o;rw[htn] at this;exact this) (λz hz=>HSub.o z (by simp[List.mem_of_mem_take hz]));have HI2:=hide λW (hW:Bl w W)=>HIH.o _ _ W (by simp;omega) hW hs6 (by have:=HF2.o;rw[htn,hln] at this;exact this) (λz hz=>HSub.o z (by simp[List.mem_of_mem_take (List.mem_of_mem_drop hz)]));have HSt:Hid (∀(y1 y2:Value) (S1 S2:Nat->Prop) (wa wb:World),Bk wa S1 y1 (r.take tn)->(∀B,S1 B->X.drew.heap.size<=B/\B<wa.heap.size)->Bl X.drew wa->Bk wb S2 y2 ((r.take (tn+ln)).drop tn)->(∀B,S2 B->wa.heap.size<=B/\B<wb.heap.size)->Bl wa wb->Calls prog 109 #[.agg #[.int .i64 s.kind,.string s.name,.slice a3 s.e.length k3,.slice a4 s.f.length k4,.int .i64 (tn:Int),.int .i64 (ln:Int)],y1,y2] wb λe w'=>∃(t0:TypeId) (x0:Value) (S3:Nat->Prop),e=.returned (.iface t0 x0)/\Bv w' S3 (.iface t0 x0) (s::r.take (tn+ln))/\(∀B,S3 B->X.drew.heap.size<=B/\B<w'.heap.size)/\Bl wb w'):=λy1 y2 S1 S2 wa wb hk1 hs1 hba hk2 hs2 hbb=>by
    have hbX2:Bl X.drew wb:=hba.trans (hbb.mono hba.size);have hbwb:Bl w wb:=hbwX.trans (hbX2.mono hbwX.size);have hbrb:Bl wr wb:=hbX.trans (hbX2.mono hbX.size);obtain⟨A,vs,F,q1,q2,q3⟩:=hk1.bel (λB hB=>(hs1 B hB).2) hbb;obtain⟨D,us,H,q4,q5,q6⟩:=hk2;obtain⟨o1,o2,o3⟩:=HOk.o s (HSub.o s (by simp));have sz1:=hba.size;have sz2:=hbb.size;have e1:(r.take tn).length=tn:=by simp;omega
    have e2:((r.take (tn+ln)).drop tn).length=ln:=by simp;omega
    have h:=stOf_any s o1 o2 o3 (.slice a3 s.e.length k3) (.slice a4 s.f.length k4) y1 y2 (λB=>S1 B∨S2 B) wb (HT.o.below HT.o.size hbwb) (HNe.o.below hbrb) (HNf.o.below hbrb) (λB hB=>by rcases hB with hB|hB;have:=hs1 B hB;omega;exact (hs2 B hB).2) A D vs us F H (q1.keep (λB hB=>.inl hB) (λB _=>rfl)) (λi hi=>(q2 i hi).keep (λB hB=>.inl hB) (λB _=>rfl)) (q4.keep (λB hB=>.inr hB) (λB _=>rfl)) (λi hi=>(q5 i hi).keep (λB hB=>.inr hB) (λB _=>rfl)) ⟨by rw[<-q3,e1];exact htn,by rw[<-q6,e2];exact hln⟩;rw[htn,hln] at h;refine h.mono ?_;rintro e w' ⟨u,S',rfl,hbv,hS',hbe⟩;obtain⟨t0,z0,rfl⟩:=hbv.isI;rw[<-q3,<-q6] at hbv;have el:s::r.take tn++(r.take (tn+ln)).drop tn=s::r.take (tn+ln):=by
     rw[List.cons_append];congr 1
     have e3:r.take tn=(r.take (tn+ln)).take tn:=by rw[List.take_take];congr 1;omega
     rw[e3,List.take_append_drop]
    rw[el] at hbv;refine⟨t0,z0,_,rfl,hbv,λB hB => ?_,hbe⟩;have sz3:=hbe.size;rcases hB with (hB|hB)|hB
    ·have:=hs1 B hB;omega
    ·have:=hs2 B hB;omega
    ·have:=hS' B hB;omega
   have HXe:=hide hX;clear hX;obtain⟨iS,hjS,hyS0,hyS1,hyS2⟩:=info_parts info_st;have HRow:Hid (∀W,Bl wr W->W.ownsRow w.heap.size 168 1 (.slice va3 vn3 vc3) (L.map (·.1)).length (L.map (·.1))):=λW hW=>by rw[List.length_map];exact own_below HBo.o.row hW
   have HSrc:=hide λ(W:World) (t0:TypeId) (x0:Value)=>src_one W t0 x0;have hLl:(L.map (·.1)).length<=1000000:=by
    rw[List.length_map];have h1:=len_flat L (λq hq=>(HBo.o.bv q hq).pos);have h2:=congrArg List.length HBo.o.join;rw[l_a] at h2;omega
   have hne:some wr.heap.size≠(Value.slice va3 vn3 vc3).ownBlock:=λe=>by have:=(World.ownsRow.lt HBo.o.row _ e.symm).2;omega
   obtain⟨a7,k7,hr7,hs7⟩ : ∃a7 k7,(∀w:World,(Instr.slice 95 (.slice a1 r.length k1) (some (.int .i64 ((tn:Int)+(ln:Int)))) none none).run prog w=.ok (.slice a7 (r.length-(tn+ln)) k7) w)/\Stmts w (.slice a7 (r.length-(tn+ln)) k7) (r.drop (tn+ln)):=by
    have h':=HR.o.cut (tn+ln) r.length o_ n_;rw[List.take_length] at h';refine⟨_,_,λw => ?_,h'⟩;have hz:prog.elem 95=132:=by kernel_rfl
    have hsz:(sizeOf 132).run prog w=.ok 6 w:=by kernel_rfl
    have e:((tn:Int)+(ln:Int))=((tn+ln:Nat):Int):=by omega
    rw[e,run_slice_l w 95 a1 r.length k1 (by rw[hz];exact underlying95) .i64 _ o_ o_,hz,hsz];simp only[Result.andThen,sliced,Int.toNat_natCast]
   go_region_held_law (λW=>W.cell? ⟨wr.heap.size,0,none⟩=some (.int .i64 s.kind)/\W.cell? ⟨wr.heap.size,1,none⟩=some (.string s.name)/\W.cell? ⟨wr.heap.size,2,none⟩=some (.slice a3 s.e.length k3)/\W.cell? ⟨wr.heap.size,3,none⟩=some (.slice a4 s.f.length k4)/\W.cell? ⟨wr.heap.size,4,none⟩=some (.int .i64 (tn:Int))/\W.cell? ⟨wr.heap.size,5,none⟩=some (.int .i64 (ln:Int)))
    (first|go_keep|(go_split_ands;exact⟨za0,za1,za2,za3,za4,za5⟩)|(go_split_ands;exact⟨zb0,zb1,zb2,zb3,zb4,zb5⟩)|(go_split_ands;exact⟨zc0,zc1,zc2,zc3,zc4,zc5⟩)|(go_split_ands;exact⟨zd0,zd1,zd2,zd3,zd4,zd5⟩))
    (first
    | (with_reducible refine Calls.mono (HI1.o X.drew hbwX) ?_;rintro e wa ⟨y1,S1,rfl,hk1,hs1,hba⟩;obtain⟨za0,za1,za2,za3,za4,za5⟩:=HK.o wa hba)
    | (with_reducible refine Calls.mono (HI2.o wa (hbwX.trans (hba.mono hbwX.size))) ?_;rintro e wb ⟨y2,S2,rfl,hk2,hs2,hbb⟩;obtain⟨zb0,zb1,zb2,zb3,zb4,zb5⟩:=HK.o wb (hba.trans (hbb.mono hba.size)))
    | (with_reducible refine Calls.mono (HSt.o y1 y2 S1 S2 wa wb hk1 hs1 hba hk2 hs2 hbb) ?_;rintro e wc ⟨t0,x0,S3,rfl,hbv,hs3,hbc⟩;have hwX:Bl X.drew wc:=(hba.trans (hbb.mono hba.size)).trans (hbc.mono (hba.trans (hbb.mono hba.size)).size);have hwc:Bl wr wc:=hbX.trans (hwX.mono hbX.size);have hltc:wr.heap.size<wc.heap.size:=(by have:=hwX.size;omega);obtain⟨zc0,zc1,zc2,zc3,zc4,zc5⟩:=HK.o wc ((hba.trans (hbb.mono hba.size)).trans (hbc.mono (hba.trans (hbb.mono hba.size)).size)))
    | (refine step_appV (P:=prog) (by rfl) _ _ 118 (by rfl) w.heap.size 168 iS _ underlying118 hjS hyS0 hyS1 hyS2 rfl (.slice va3 vn3 vc3) (L.map (·.1)) (by rfl) (HRow.o _ (hwc.alloc hwc.size _)) (.slice (some ⟨wc.heap.size,0,none⟩) 1 1) [.iface t0 x0] (by rfl) (HSrc.o wc t0 x0) (λu hu=>by simp only[List.mem_cons,List.not_mem_nil,or_false] at hu;subst hu;rfl) (by simp only[l_c,l_n];omega) (by have:=hwc.size;have:=hbw.size;simp only[World.size_alloc];omega) ?_;intro v' w' hown' hg' hf';obtain⟨zd0,zd1,zd2,zd3,zd4,zd5⟩:w'.cell? ⟨wr.heap.size,0,none⟩=some (.int .i64 s.kind)/\w'.cell? ⟨wr.heap.size,1,none⟩=some (.string s.name)/\w'.cell? ⟨wr.heap.size,2,none⟩=some (.slice a3 s.e.length k3)/\w'.cell? ⟨wr.heap.size,3,none⟩=some (.slice a4 s.f.length k4)/\w'.cell? ⟨wr.heap.size,4,none⟩=some (.int .i64 (tn:Int))/\w'.cell? ⟨wr.heap.size,5,none⟩=some (.int .i64 (ln:Int)):=⟨hg'.cell ((World.cell?_alloc_lt wc _ ⟨wr.heap.size,0,none⟩ hltc).trans zc0) hne,hg'.cell ((World.cell?_alloc_lt wc _ ⟨wr.heap.size,1,none⟩ hltc).trans zc1) hne,hg'.cell ((World.cell?_alloc_lt wc _ ⟨wr.heap.size,2,none⟩ hltc).trans zc2) hne,hg'.cell ((World.cell?_alloc_lt wc _ ⟨wr.heap.size,3,none⟩ hltc).trans zc3) hne,hg'.cell ((World.cell?_alloc_lt wc _ ⟨wr.heap.size,4,none⟩ hltc).trans zc4) hne,hg'.cell ((World.cell?_alloc_lt wc _ ⟨wr.heap.size,5,none⟩ hltc).trans zc5) hne⟩))
   have HNx:Hid (∀w9,w9=w'->BoI w w9 ss (r.drop (tn+ln)) v' (L++[(.iface t0 x0,s::r.take (tn+ln))]) (λB=>S B∨S3 B)):=λw9 e9=>by
    subst e9;have hbo:BoI w wr ss (s::r.take (tn+ln)++r.drop (tn+ln)) (.slice va3 vn3 vc3) L S:=by
     have:=HBo.o
     rw[List.cons_append,List.take_append_drop];exact this
    have hal:Bl wc (wc.alloc (.cells #[.iface t0 x0] 168)):=bel_a _ _;exact hbo.next (hwc.trans (hal.mono hwc.size)) (hbv.bel (λB hB=>(hs3 B hB).2) hal) (λB hB=>by have:=hs3 B hB;simp only[World.size_alloc];omega) hg' hown' hf'
   have HNw:=HNx.o _ rfl;obtain⟨HN,HS7⟩:=h2 HNw hs7;have HF3':Hid (fitB (r.drop (tn+ln))=true):=by have:=HF3.o;rw[htn,hln] at this;exact this
   go_wp2_with fail;go_roundw
   case rel=>exact⟨r.drop (tn+ln),_,_,HS7,HF3',by simp;omega,λz hz=>HSub.o z (by simp[List.mem_of_mem_drop hz]),HN⟩
   case measure=>simp[lenV];omega
theorem blockOf_any:BlockOfC:=by
 intro ss v w hT hS hfit hok hlen;have main : ∀(n:Nat) (tt:List St) (u:Value) (W:World),tt.length<=n->Tab W->Stmts W u tt->fitB tt=true->(∀s∈tt,stmtB s=true/\s.e.length<=2000/\s.f.length<=2000)->tt.length<=1000->Calls prog 69 #[u] W λe w'=>∃(x:Value) (S':Nat->Prop),e=.returned x/\Bk w' S' x tt/\(∀B,S' B->W.heap.size<=B/\B<w'.heap.size)/\Bl W w':=by
  intro n;induction n with
  | zero=>intro tt u W hn h1 h2 h3 h4 h5;exact blockOf_step tt u W h1 h2 h3 h4 h5 (λt' _ _ hlt=>by omega)
  | succ n ih=>intro tt u W hn h1 h2 h3 h4 h5;exact blockOf_step tt u W h1 h2 h3 h4 h5 (λt' u' W' hlt hb hs hf hsub=>ih t' u' W' o_ (h1.below h1.size hb) (hs.below hb) hf (λs hs'=>h4 s (hsub s hs')) o_)
 exact main ss.length ss v w n_ hT hS hfit hok hlen
section
variable {w w':World} {S:Nat->Prop} {v:Value} {L:List (Value × List St)}
def flatL (L:List (Value × List St)):List St:=(L.map (·.2)).flatten
theorem flatL_cons (q:Value × List St) (L:List (Value × List St)):flatL (q::L)=q.2++flatL L:=by simp[flatL]
theorem flatL_append (L M:List (Value × List St)):flatL (L++M)=flatL L++flatL M:=by simp[flatL]
structure BkL (w:World) (S:Nat->Prop) (v:Value) (L:List (Value × List St)):Prop where
 args:Args w S v L.length (λi=>(L.getD i (.nilFunc,[])).1)
 bv : ∀q∈L,Bv w S q.1 q.2
theorem BkL.keep {S':Nat->Prop} (h:BkL w S v L) (hS : ∀B,S B->S' B) (hk : ∀B,S B->w'.heap[B]? = w.heap[B]?):BkL w' S' v L:=
 ⟨h.args.keep hS hk,λq hq=>(h.bv q hq).keep hS hk⟩
theorem BkL.bel (h:BkL w S v L) (hS : ∀B,S B->B<w.heap.size) (hb:Below w.heap.size w w'):BkL w' S v L:=h.keep (λ_ h=>h) (λB hB=>hb.block B (hS B hB))
theorem getD_at {i:Nat} (hi:i<L.length):L.getD i (.nilFunc,[])=L[i]:=by
 rw[List.getD_eq_getElem?_getD,List.getElem?_eq_getElem hi];rfl
theorem BkL.parts (h:BkL w S v L):Args w S v L.length (λi=>(L.getD i (.nilFunc,[])).1)/\(∀i,i<L.length->Bv w S (L.getD i (.nilFunc,[])).1 (L.getD i (.nilFunc,[])).2)/\joinS (λi=>(L.getD i (.nilFunc,[])).2) L.length=flatL L:=by
 refine⟨h.args,λi hi => ?_,?_⟩
 ·rw[getD_at hi];exact h.bv _ (g_ hi)
 ·rw[flat_joinS L _ L.length n_,List.take_length];rfl
theorem join_flat (vs:Nat->Value) (F:Nat->List St) : ∀A,joinS F A=flatL ((List.range A).map λi=>(vs i,F i))
 | 0=>rfl
 | A+1=>by
  simp only[joinS];rw[join_flat vs F A,List.range_succ,List.map_append,flatL_append];simp[flatL]
theorem Args.toL {A:Nat} {vs:Nat->Value} {F:Nat->List St} (h1:Args w S v A vs) (h2 : ∀i,i<A->Bv w S (vs i) (F i)):BkL w S v ((List.range A).map λi=>(vs i,F i)):=by
 have hg : ∀i,i<A->(((List.range A).map λi=>(vs i,F i)).getD i (.nilFunc,[]))=(vs i,F i):=λi hi=>by
  rw[getD_at (by simpa using hi)];simp
 refine⟨?_,λq hq => ?_⟩
 ·obtain⟨a,cap,rfl,g1,g2,g3⟩:=h1;refine⟨a,cap,by simp,by simpa using g1,g2,λh0 => ?_⟩;have h0':0<A:=by simpa using h0
  obtain⟨B,rfl,hB,hc⟩:=g3 h0';refine⟨B,rfl,hB,λi hi => ?_⟩;have hi':i<A:=by simpa using hi
  show _=some ((((List.range A).map λi=>(vs i,F i)).getD i (.nilFunc,[])).1);rw[hg i hi'];exact hc i hi'
 ·simp only[List.mem_map,List.mem_range] at hq;obtain⟨i,hi,rfl⟩:=hq;exact h2 i hi
theorem Bk.toL {ss:List St} (h:Bk w S v ss) : ∃L,BkL w S v L/\ss=flatL L:=by
 obtain⟨A,vs,F,h1,h2,rfl⟩:=h;exact⟨_,h1.toL h2,join_flat vs F A⟩
end
end Go.Proofs.YtffnkkpmlplfeaaGreatDoor
