import Derived.Test.YtmddmgpijpjpbaaGreatDoorR17
import Derived.Deep.RegionHeld
namespace Go.Proofs.YtmddmgpijpjpbaaGreatDoor
open Go.RowKit
set_option linter.unusedVariables false
set_option linter.unusedSimpArgs false
set_option maxRecDepth 100000
set_option maxHeartbeats 16000000
theorem sa_call_yes (W:World) (v:Value):(Instr.typeAssert (.iface 207 v) 153 207 true).run Tryz.prog W = .ok (.tuple #[v,.bool true]) W:=by kernel_rfl
theorem listed_return (e:List Nd) (x:Value) (S:Nat->Prop) (w:World) (hx:Tv w S x e) (hl:e.length<=2000) (hS : ∀B,S B->B<w.heap.size) :
  Calls Tryz.prog 113 #[.iface 172 (.agg #[x])] w fun r w'=>∃u,r = .returned u/\Lst w w' u [⟨6,⟨#[]⟩,e,[],0,0⟩]/\Below w.heap.size w w':=by
 have HX:=hide hx
 obtain ⟨tx,yx,rfl⟩:=hx.isI
 have HL:Hid (∀W,Bl w W->Calls Tryz.prog 146 #[.iface tx yx] W fun r w'=>∃a n c,r = .returned (.slice a n c)/\(∃g,NOne w.heap.size w' (.slice a n c) e [g])/\Bl W w'):=fun W hbW=>by
  refine (lowered_any _ e S W (fun B hB=>Nat.lt_of_lt_of_le (hS B hB) hbW.size) (HX.out.keep (fun _ h=>h) (fun B hB=>hbW.block B (hS B hB))) hl).mono ?_
  rintro r w' ⟨v,rfl,hv,hb⟩
  obtain ⟨g,hg,-⟩:=hv.one
  obtain ⟨g',cap,rfl,-⟩:=hv
  exact ⟨_,_,_,rfl,⟨g,hg.base hbW.size⟩,hb⟩
 have hA : ∀o,Bl w (w.alloc o):=fun o=>(Below.refl _ _).alloc (Nat.le_refl _) o
 have a_decl:=fun W v=>sa_decl_no W 172 v (by decide)
 have a_set:=fun W v=>sa_set_no W 172 v (by decide)
 have a_store:=fun W v=>sa_store_no W 172 v (by decide)
 have a_if:=fun W v=>sa_if_no W 172 v (by decide)
 have a_while:=fun W v=>sa_while_no W 172 v (by decide)
 have a_return:=fun W v=>sa_return_yes W v
 go_enter Tryz.func113,Tryz.ntmps113
 go_wp2_with fail
 refine (HL.out _ (hA _)).mono ?_
 rintro r wt ⟨a1,n1,c1,rfl,hno,hbt⟩
 have HNo:=hide hno
 have hbw:Bl w wt:=(hA _).trans (hbt.mono (hA _).size)
 go_wp2_with fail
 go_ret
 obtain ⟨g,hg⟩:=HNo.out
 exact ⟨_,rfl,⟨_,srow_one ⟨⟨6,⟨#[]⟩,e,[],0,0⟩,.slice a1 n1 c1,.slice none 0 0,[g],[]⟩ hbw.size hg (NOne.nil _ _) (by simp),rfl⟩,hbw.alloc hbw.size _⟩
theorem listed_out (e:List Nd) (x:Value) (S:Nat->Prop) (w:World) (hx:Tv w S x e) (hl:e.length<=2000) (hS : ∀B,S B->B<w.heap.size) :
  Calls Tryz.prog 113 #[.iface 206 (.agg #[x])] w fun r w'=>∃u,r = .returned u/\Lst w w' u [⟨7,⟨#[]⟩,e,[],0,0⟩]/\Below w.heap.size w w':=by
 have HX:=hide hx
 obtain ⟨tx,yx,rfl⟩:=hx.isI
 have HL:Hid (∀W,Bl w W->Calls Tryz.prog 146 #[.iface tx yx] W fun r w'=>∃a n c,r = .returned (.slice a n c)/\(∃g,NOne w.heap.size w' (.slice a n c) e [g])/\Bl W w'):=fun W hbW=>by
  refine (lowered_any _ e S W (fun B hB=>Nat.lt_of_lt_of_le (hS B hB) hbW.size) (HX.out.keep (fun _ h=>h) (fun B hB=>hbW.block B (hS B hB))) hl).mono ?_
  rintro r w' ⟨v,rfl,hv,hb⟩
  obtain ⟨g,hg,-⟩:=hv.one
  obtain ⟨g',cap,rfl,-⟩:=hv
  exact ⟨_,_,_,rfl,⟨g,hg.base hbW.size⟩,hb⟩
 have hA : ∀o,Bl w (w.alloc o):=fun o=>(Below.refl _ _).alloc (Nat.le_refl _) o
 have a_decl:=fun W v=>sa_decl_no W 206 v (by decide)
 have a_set:=fun W v=>sa_set_no W 206 v (by decide)
 have a_store:=fun W v=>sa_store_no W 206 v (by decide)
 have a_if:=fun W v=>sa_if_no W 206 v (by decide)
 have a_while:=fun W v=>sa_while_no W 206 v (by decide)
 have a_return:=fun W v=>sa_return_no W 206 v (by decide)
 have a_out:=fun W v=>sa_out_yes W v
 go_enter Tryz.func113,Tryz.ntmps113
 go_wp2_with fail
 refine (HL.out _ (hA _)).mono ?_
 rintro r wt ⟨a1,n1,c1,rfl,hno,hbt⟩
 have HNo:=hide hno
 have hbw:Bl w wt:=(hA _).trans (hbt.mono (hA _).size)
 go_wp2_with fail
 go_ret
 obtain ⟨g,hg⟩:=HNo.out
 exact ⟨_,rfl,⟨_,srow_one ⟨⟨7,⟨#[]⟩,e,[],0,0⟩,.slice a1 n1 c1,.slice none 0 0,[g],[]⟩ hbw.size hg (NOne.nil _ _) (by simp),rfl⟩,hbw.alloc hbw.size _⟩
theorem listed_call (e:List Nd) (x:Value) (S:Nat->Prop) (w:World) (hx:Tv w S x e) (hl:e.length<=2000) (hS : ∀B,S B->B<w.heap.size) :
  Calls Tryz.prog 113 #[.iface 207 (.agg #[x])] w fun r w'=>∃u,r = .returned u/\Lst w w' u [⟨8,⟨#[]⟩,e,[],0,0⟩]/\Below w.heap.size w w':=by
 have HX:=hide hx
 obtain ⟨tx,yx,rfl⟩:=hx.isI
 have HL:Hid (∀W,Bl w W->Calls Tryz.prog 146 #[.iface tx yx] W fun r w'=>∃a n c,r = .returned (.slice a n c)/\(∃g,NOne w.heap.size w' (.slice a n c) e [g])/\Bl W w'):=fun W hbW=>by
  refine (lowered_any _ e S W (fun B hB=>Nat.lt_of_lt_of_le (hS B hB) hbW.size) (HX.out.keep (fun _ h=>h) (fun B hB=>hbW.block B (hS B hB))) hl).mono ?_
  rintro r w' ⟨v,rfl,hv,hb⟩
  obtain ⟨g,hg,-⟩:=hv.one
  obtain ⟨g',cap,rfl,-⟩:=hv
  exact ⟨_,_,_,rfl,⟨g,hg.base hbW.size⟩,hb⟩
 have hA : ∀o,Bl w (w.alloc o):=fun o=>(Below.refl _ _).alloc (Nat.le_refl _) o
 have a_decl:=fun W v=>sa_decl_no W 207 v (by decide)
 have a_set:=fun W v=>sa_set_no W 207 v (by decide)
 have a_store:=fun W v=>sa_store_no W 207 v (by decide)
 have a_if:=fun W v=>sa_if_no W 207 v (by decide)
 have a_while:=fun W v=>sa_while_no W 207 v (by decide)
 have a_return:=fun W v=>sa_return_no W 207 v (by decide)
 have a_out:=fun W v=>sa_out_no W 207 v (by decide)
 have a_call:=fun W v=>sa_call_yes W v
 go_enter Tryz.func113,Tryz.ntmps113
 go_wp2_with fail
 refine (HL.out _ (hA _)).mono ?_
 rintro r wt ⟨a1,n1,c1,rfl,hno,hbt⟩
 have HNo:=hide hno
 have hbw:Bl w wt:=(hA _).trans (hbt.mono (hA _).size)
 go_wp2_with fail
 go_ret
 obtain ⟨g,hg⟩:=HNo.out
 exact ⟨_,rfl,⟨_,srow_one ⟨⟨8,⟨#[]⟩,e,[],0,0⟩,.slice a1 n1 c1,.slice none 0 0,[g],[]⟩ hbw.size hg (NOne.nil _ _) (by simp),rfl⟩,hbw.alloc hbw.size _⟩
theorem listed_decl (nm:ByteArray) (e:List Nd) (x:Value) (S:Nat->Prop) (w:World) (hx:Tv w S x e) (hl:e.length<=2000) (hS : ∀B,S B->B<w.heap.size) :
  Calls Tryz.prog 113 #[.iface 198 (.agg #[.string nm,x])] w fun r w'=>∃u,r = .returned u/\Lst w w' u [⟨1,nm,e,[],0,0⟩]/\Below w.heap.size w w':=by
 have HX:=hide hx
 obtain ⟨tx,yx,rfl⟩:=hx.isI
 obtain ⟨W0,hW0⟩ : ∃W0,W0=w.alloc (.cells #[.string nm,.iface tx yx] 198):=⟨_,rfl⟩
 have hb0:Bl w W0:=by rw [hW0];exact (Below.refl _ _).alloc (Nat.le_refl _) _
 have hs0:W0.heap.size=w.heap.size+1:=by rw [hW0];simp
 have hbd:Bl W0 W0.drew:=(Below.refl _ _).drew
 have HY:Hid (∀W,Bl W0 W->W.cell? ⟨w.heap.size,0,none⟩=some (.string nm)/\W.cell? ⟨w.heap.size,1,none⟩=some (.iface tx yx)):=fun W hW=>⟨(hW.cell (p:=⟨w.heap.size,0,none⟩) (by simp;omega)).trans (by rw [hW0];simp),(hW.cell (p:=⟨w.heap.size,1,none⟩) (by simp;omega)).trans (by rw [hW0];simp)⟩
 have HL:Hid (∀W,Bl W0 W->Calls Tryz.prog 146 #[.iface tx yx] W fun r w'=>∃a n c,r = .returned (.slice a n c)/\(∃g,NOne w.heap.size w' (.slice a n c) e [g])/\Bl W w'):=fun W hW=>by
  have hbW:=hb0.trans (hW.mono hb0.size)
  refine (lowered_any _ e S W (fun B hB=>Nat.lt_of_lt_of_le (hS B hB) hbW.size) (HX.out.keep (fun _ h=>h) (fun B hB=>hbW.block B (hS B hB))) hl).mono ?_
  rintro r w' ⟨v,rfl,hv,hb⟩
  obtain ⟨g,hg,-⟩:=hv.one
  obtain ⟨g',cap,rfl,-⟩:=hv
  exact ⟨_,_,_,rfl,⟨g,hg.base hbW.size⟩,hb⟩
 have HW0:=hide hW0
 have hs0':w.heap.size<=W0.heap.size:=hb0.size
 have a_decl:=fun W v=>sa_decl_yes W v
 have y:=HY.out _ hbd
 clear hx hS hW0 hs0
 go_enter Tryz.func113,Tryz.ntmps113
 go_upto_region 4 with fail
 rw [<-HW0.out]
 go_region_held (fun W=>W.cell? ⟨w.heap.size,0,none⟩=some (.string nm)/\W.cell? ⟨w.heap.size,1,none⟩=some (.iface tx yx)) (go_keep)
  (first | ((with_reducible refine Calls.mono (HL.out _ hbd) ?_);intro r wt hr;obtain ⟨a1,n1,c1,hre,hno,hbt0⟩:=hr;subst hre;have hbt:Bl W0 wt:=hbd.trans (hbt0.mono hbd.size);have q:=HY.out wt hbt))
 have HNo:=hide hno
 have hbw:Bl w wt:=hb0.trans (hbt.mono hb0.size)
 clear hno hbt0 q y
 go_wp2_with fail
 go_ret
 obtain ⟨g,hg⟩:=HNo.out
 exact ⟨_,rfl,⟨_,srow_one ⟨⟨1,nm,e,[],0,0⟩,.slice a1 n1 c1,.slice none 0 0,[g],[]⟩ hbw.size hg (NOne.nil _ _) (by simp),rfl⟩,hbw.alloc hbw.size _⟩
theorem listed_set (nm:ByteArray) (e:List Nd) (x:Value) (S:Nat->Prop) (w:World) (hx:Tv w S x e) (hl:e.length<=2000) (hS : ∀B,S B->B<w.heap.size) :
  Calls Tryz.prog 113 #[.iface 199 (.agg #[.string nm,x])] w fun r w'=>∃u,r = .returned u/\Lst w w' u [⟨2,nm,e,[],0,0⟩]/\Below w.heap.size w w':=by
 have HX:=hide hx
 obtain ⟨tx,yx,rfl⟩:=hx.isI
 obtain ⟨W0,hW0⟩ : ∃W0,W0=w.alloc (.cells #[.string nm,.iface tx yx] 199):=⟨_,rfl⟩
 have hb0:Bl w W0:=by rw [hW0];exact (Below.refl _ _).alloc (Nat.le_refl _) _
 have hs0:W0.heap.size=w.heap.size+1:=by rw [hW0];simp
 have hbd:Bl W0 W0.drew:=(Below.refl _ _).drew
 have HY:Hid (∀W,Bl W0 W->W.cell? ⟨w.heap.size,0,none⟩=some (.string nm)/\W.cell? ⟨w.heap.size,1,none⟩=some (.iface tx yx)):=fun W hW=>⟨(hW.cell (p:=⟨w.heap.size,0,none⟩) (by simp;omega)).trans (by rw [hW0];simp),(hW.cell (p:=⟨w.heap.size,1,none⟩) (by simp;omega)).trans (by rw [hW0];simp)⟩
 have HL:Hid (∀W,Bl W0 W->Calls Tryz.prog 146 #[.iface tx yx] W fun r w'=>∃a n c,r = .returned (.slice a n c)/\(∃g,NOne w.heap.size w' (.slice a n c) e [g])/\Bl W w'):=fun W hW=>by
  have hbW:=hb0.trans (hW.mono hb0.size)
  refine (lowered_any _ e S W (fun B hB=>Nat.lt_of_lt_of_le (hS B hB) hbW.size) (HX.out.keep (fun _ h=>h) (fun B hB=>hbW.block B (hS B hB))) hl).mono ?_
  rintro r w' ⟨v,rfl,hv,hb⟩
  obtain ⟨g,hg,-⟩:=hv.one
  obtain ⟨g',cap,rfl,-⟩:=hv
  exact ⟨_,_,_,rfl,⟨g,hg.base hbW.size⟩,hb⟩
 have HW0:=hide hW0
 have hs0':w.heap.size<=W0.heap.size:=hb0.size
 have a_decl:=fun W v=>sa_decl_no W 199 v (by decide)
 have a_set:=fun W v=>sa_set_yes W v
 have y:=HY.out _ hbd
 clear hx hS hW0 hs0
 go_enter Tryz.func113,Tryz.ntmps113
 go_upto_region 7 with fail
 rw [<-HW0.out]
 go_region_held (fun W=>W.cell? ⟨w.heap.size,0,none⟩=some (.string nm)/\W.cell? ⟨w.heap.size,1,none⟩=some (.iface tx yx)) (go_keep)
  (first | ((with_reducible refine Calls.mono (HL.out _ hbd) ?_);intro r wt hr;obtain ⟨a1,n1,c1,hre,hno,hbt0⟩:=hr;subst hre;have hbt:Bl W0 wt:=hbd.trans (hbt0.mono hbd.size);have q:=HY.out wt hbt))
 have HNo:=hide hno
 have hbw:Bl w wt:=hb0.trans (hbt.mono hb0.size)
 clear hno hbt0 q y
 go_wp2_with fail
 go_ret
 obtain ⟨g,hg⟩:=HNo.out
 exact ⟨_,rfl,⟨_,srow_one ⟨⟨2,nm,e,[],0,0⟩,.slice a1 n1 c1,.slice none 0 0,[g],[]⟩ hbw.size hg (NOne.nil _ _) (by simp),rfl⟩,hbw.alloc hbw.size _⟩
theorem listed_store (nm:ByteArray) (e f:List Nd) (x y:Value) (S:Nat->Prop) (w:World) (hx:Tv w S x e) (hy:Tv w S y f) (hl:e.length<=2000) (hlf:f.length<=2000) (hS : ∀B,S B->B<w.heap.size) :
  Calls Tryz.prog 113 #[.iface 201 (.agg #[.string nm,x,y])] w fun r w'=>∃u,r = .returned u/\Lst w w' u [⟨3,nm,e,f,0,0⟩]/\Below w.heap.size w w':=by
 have HX:=hide hx
 have HZ:=hide hy
 obtain ⟨tx,yx,rfl⟩:=hx.isI
 obtain ⟨ty,yy,rfl⟩:=hy.isI
 obtain ⟨W0,hW0⟩ : ∃W0,W0=w.alloc (.cells #[.string nm,.iface tx yx,.iface ty yy] 201):=⟨_,rfl⟩
 have hb0:Bl w W0:=by rw [hW0];exact (Below.refl _ _).alloc (Nat.le_refl _) _
 have hs0:W0.heap.size=w.heap.size+1:=by rw [hW0];simp
 have hbd:Bl W0 W0.drew:=(Below.refl _ _).drew
 have HY:Hid (∀W,Bl W0 W->W.cell? ⟨w.heap.size,0,none⟩=some (.string nm)/\W.cell? ⟨w.heap.size,1,none⟩=some (.iface tx yx)/\W.cell? ⟨w.heap.size,2,none⟩=some (.iface ty yy)):=fun W hW=>⟨(hW.cell (p:=⟨w.heap.size,0,none⟩) (by simp;omega)).trans (by rw [hW0];simp),(hW.cell (p:=⟨w.heap.size,1,none⟩) (by simp;omega)).trans (by rw [hW0];simp),(hW.cell (p:=⟨w.heap.size,2,none⟩) (by simp;omega)).trans (by rw [hW0];simp)⟩
 have HL:Hid (∀W,Bl W0 W->Calls Tryz.prog 146 #[.iface tx yx] W fun r w'=>∃a n c,r = .returned (.slice a n c)/\(∃g,NOne w.heap.size w' (.slice a n c) e [g]/\g<w'.heap.size)/\Bl W w'):=fun W hW=>by
  have hbW:=hb0.trans (hW.mono hb0.size)
  refine (lowered_any _ e S W (fun B hB=>Nat.lt_of_lt_of_le (hS B hB) hbW.size) (HX.out.keep (fun _ h=>h) (fun B hB=>hbW.block B (hS B hB))) hl).mono ?_
  rintro r w' ⟨v,rfl,hv,hb⟩
  obtain ⟨g,hg,-,hg2⟩:=hv.one
  obtain ⟨g',cap,rfl,-⟩:=hv
  exact ⟨_,_,_,rfl,⟨g,hg.base hbW.size,hg2⟩,hb⟩
 have HM:Hid (∀W,Bl W0 W->Calls Tryz.prog 146 #[.iface ty yy] W fun r w'=>∃a n c,r = .returned (.slice a n c)/\(∃g,NOne w.heap.size w' (.slice a n c) f [g]/\W.heap.size<=g)/\Bl W w'):=fun W hW=>by
  have hbW:=hb0.trans (hW.mono hb0.size)
  refine (lowered_any _ f S W (fun B hB=>Nat.lt_of_lt_of_le (hS B hB) hbW.size) (HZ.out.keep (fun _ h=>h) (fun B hB=>hbW.block B (hS B hB))) hlf).mono ?_
  rintro r w' ⟨v,rfl,hv,hb⟩
  obtain ⟨g,hg,hg2,-⟩:=hv.one
  obtain ⟨g',cap,rfl,-⟩:=hv
  exact ⟨_,_,_,rfl,⟨g,hg.base hbW.size,hg2⟩,hb⟩
 have HW0:=hide hW0
 have a_decl:=fun W v=>sa_decl_no W 201 v (by decide)
 have a_set:=fun W v=>sa_set_no W 201 v (by decide)
 have a_store:=fun W v=>sa_store_yes W v
 have q0:=HY.out _ hbd
 clear hx hy hS hW0 hs0
 go_enter Tryz.func113,Tryz.ntmps113
 go_upto_region 10 with fail
 rw [<-HW0.out]
 go_region_held (fun W=>W.cell? ⟨w.heap.size,0,none⟩=some (.string nm)/\W.cell? ⟨w.heap.size,1,none⟩=some (.iface tx yx)/\W.cell? ⟨w.heap.size,2,none⟩=some (.iface ty yy)) (go_keep)
  (first
  | ((with_reducible refine Calls.mono (HL.out _ hbd) ?_);intro r wt hr;obtain ⟨a1,n1,c1,hre,hno1,hbt0⟩:=hr;subst hre;have hbt:Bl W0 wt:=hbd.trans (hbt0.mono hbd.size);have q:=HY.out wt hbt)
  | ((with_reducible refine Calls.mono (HM.out _ hbt) ?_);intro r wo hr;obtain ⟨a2,n2,c2,hre,hno2,hbo0⟩:=hr;subst hre;have hbo:Bl W0 wo:=hbt.trans (hbo0.mono hbt.size);have q2:=HY.out wo hbo))
 have HNo:Hid (∃g1 g2,NOne w.heap.size wo (.slice a1 n1 c1) e [g1]/\NOne w.heap.size wo (.slice a2 n2 c2) f [g2]/\g1≠g2):=by
  obtain ⟨g1,h1,l1⟩:=hno1
  obtain ⟨g2,h2,l2⟩:=hno2
  exact ⟨g1,g2,h1.keep hbo0.size fun g hg=>hbo0.block g (h1.rng g hg).2,h2,by omega⟩
 have hbw:Bl w wo:=hb0.trans (hbo.mono hb0.size)
 clear hno1 hno2 hbt0 hbo0 q q2 q0 hbt hbo
 go_wp2_with fail
 go_ret
 obtain ⟨g1,g2,h1,h2,h3⟩:=HNo.out
 exact ⟨_,rfl,⟨_,srow_one ⟨⟨3,nm,e,f,0,0⟩,.slice a1 n1 c1,.slice a2 n2 c2,[g1],[g2]⟩ hbw.size h1 h2 (by simpa using h3),rfl⟩,hbw.alloc hbw.size _⟩
structure PlS (s:St):Prop where
 e:s.e.length<=2000
 f:s.f.length<=2000
 nf:s.kind≠3->s.f = []
 nn:3<s.kind->s.name=⟨#[]⟩
def ListC (N:Nat):Prop:=∀(ss:List St) (v:Value) (S:Nat->Prop) (w:World),ss.length<=N->Bk w S v ss->(∀B,S B->B<w.heap.size)->(∀s∈ss,PlS s)->Calls Tryz.prog 74 #[v] w fun e w'=>∃u,e = .returned u/\Lst w w' u ss/\Below w.heap.size w w'
theorem joinF_flat (F:Nat->List Nd) : ∀A,joinF F A=((List.range A).map F).flatten
 | 0=>rfl
 | A+1=>by simp [joinF,joinF_flat F A,List.range_succ]
theorem oneB_num {x:Int} (h:inB x):oneB (numN x)=true:=by
 have:=push_one [] ⟨1,x,⟨#[]⟩⟩ (by unfold nodeB;simp only [if_true,Bool.and_eq_true,decide_eq_true_eq];exact ⟨h,by simp⟩) rfl (fun s hs=>by simp at hs)
 exact this
theorem oneB_two {a b:List Nd} {n:Nd} (ha:oneB a=true) (hb:oneB b=true) (hn:nodeB n=true) (hA:arity n=2):oneB (a++b++[n])=true:=by
 have:=push_one [a,b] n hn (by simpa using hA) (fun s hs=>by simp at hs;rcases hs with rfl | rfl <;> assumption)
 simpa using this
theorem oneB_truth {e:List Nd} (h:oneB e=true):oneB (truthL e)=true:=by
 unfold truthL
 split
 ·exact oneB_num (bool_bd _)
 ·have:=oneB_two (n:=⟨7,12,⟨#[]⟩⟩) h (oneB_num (x:=0) ⟨by decide,by decide⟩) (by unfold nodeB;simp) rfl
  simpa [numN] using this
theorem Fd.oneB {e r:List Nd} (h:Fd apN e r):oneB r=true:=by
 induction h using Fd_i with
 | mk e A b F hc hk ih=>
  have hg:=hc.root_good
  have har:=hc.ar
  have hj:Go.Proofs.YtmddmgpijpjpbaaGreatDoor.oneB (joinF F A++[rootN e])=true:=by
   rw [joinF_flat]
   refine push_one _ _ hg (by simpa using har) (fun s hs => ?_)
   simp only [List.mem_map,List.mem_range] at hs
   obtain ⟨i,hi,rfl⟩:=hs
   exact ih i hi
  unfold fold1
  split
  ·rename_i h6
   have hA:=hc.ar1 (.inr h6)
   subst hA
   split
   ·exact oneB_num (un_bd _ _)
   ·exact hj
  ·split
   ·rename_i h7
    have hA:=hc.ar2 (.inl h7)
    subst hA
    split
    ·exact oneB_num (ap_bd _ _ _)
    ·exact hj
   ·split
    ·rename_i h8
     have hA:=hc.ar2 (.inr (.inl h8))
     subst hA
     split
     ·split
      ·exact oneB_num ⟨by decide,by decide⟩
      ·exact oneB_truth (ih 1 (by omega))
     ·exact hj
    ·split
     ·rename_i h9
      have hA:=hc.ar2 (.inr (.inr h9))
      subst hA
      split
      ·split
       ·exact oneB_truth (ih 1 (by omega))
       ·exact oneB_num ⟨by decide,by decide⟩
      ·exact hj
     ·exact hj
theorem lastKind_snoc (l:List Nd) (n:Nd):lastKind (l++[n])=n.kind:=by
 simp [lastKind]
theorem lastKind_root {e:List Nd} (h:0<e.length):lastKind e=(rootN e).kind:=by
 rw [rootN_eq e h,lastKind,List.getElem?_eq_getElem (by omega)]
theorem Fd.call {e r:List Nd} (h:Fd apN e r) (hk:lastKind e=4):lastKind r=4:=by
 cases h using Fd_i with
 | mk e A b F hc hk'=>
  rw [lastKind_root hc.len] at hk
  unfold fold1
  rw [if_neg (by omega),if_neg (by omega),if_neg (by omega),if_neg (by omega),lastKind_snoc,hk]
theorem FoldR.nil {r:List Nd} (h:FoldR [] r):r = []:=h.no (fun _=>by simp [Go.Proofs.YtmddmgpijpjpbaaGreatDoor.oneB,wholeTo])
theorem FoldS.ok {s r:St} (h:FoldS s r) (hs:stmtB s=true) (he:s.e.length<=2000) (hf:s.f.length<=2000):stmtB r=true:=by
 obtain ⟨h1,h2,h3,h4,h5,h6⟩:=h
 unfold stmtB at hs ⊢
 simp only [Bool.and_eq_true] at hs ⊢
 obtain ⟨⟨⟨⟨⟨⟨a1,a2⟩,a3⟩,a4⟩,a5⟩,a6⟩,a7⟩:=hs
 have hE:=h5.yes he a3
 rw [h1,h2,h3,h4]
 refine ⟨⟨⟨⟨⟨⟨a1,a2⟩,hE.oneB⟩,?_⟩,?_⟩,a6⟩,a7⟩
 ·by_cases k3:s.kind=3
  ·rw [if_pos k3] at a4 ⊢
   exact (h6.yes hf a4).oneB
  ·rw [if_neg k3] at a4 ⊢
   have:s.f = []:=List.eq_nil_of_length_eq_zero (by simpa using a4)
   rw [this] at h6
   rw [h6.nil]
   rfl
 ·rw [Bool.or_eq_true] at a5 ⊢
  rcases a5 with h | h
  ·exact .inl h
  ·exact .inr (by simpa using hE.call (by simpa using h))
theorem fitN_same : ∀(n:Nat) (a b:List St),a.length=b.length->(∀j (h:j<a.length) (h':j<b.length),a[j].thn=b[j].thn/\a[j].els=b[j].els)->fitN n a=fitN n b
 | n,[],[],_,_=>rfl
 | n,[],_::_,h,_=>by simp at h
 | n,_::_,[],h,_=>by simp at h
 | 0,_::_,_::_,_,_=>rfl
 | n+1,x::a,y::b,hl,h=>by
  obtain ⟨e1,e2⟩:x.thn=y.thn/\x.els=y.els:=h 0 (by simp) (by simp)
  have hl':a.length=b.length:=by simpa using hl
  have h' : ∀j (h:j<a.length) (h':j<b.length),a[j].thn=b[j].thn/\a[j].els=b[j].els:=fun j h1 h2=>h (j+1) (by simpa using h1) (by simpa using h2)
  simp only [fitN]
  rw [e1,e2,hl',fitN_same n (a.take y.thn.toNat) (b.take y.thn.toNat) (by simp [hl']) (fun j h1 h2=>by simp only [List.getElem_take];exact h' j (by simp at h1;omega) (by simp at h2;omega)),
   fitN_same n ((a.take (y.thn.toNat+y.els.toNat)).drop y.thn.toNat) ((b.take (y.thn.toNat+y.els.toNat)).drop y.thn.toNat) (by simp [hl']) (fun j h1 h2=>by simp only [List.getElem_drop,List.getElem_take];exact h' _ (by simp at h1;omega) (by simp at h2;omega)),
   fitN_same n (a.drop (y.thn.toNat+y.els.toNat)) (b.drop (y.thn.toNat+y.els.toNat)) (by simp [hl']) (fun j h1 h2=>by simp only [List.getElem_drop];exact h' _ (by simp at h1;omega) (by simp at h2;omega))]
theorem FoldB.fit {ss rs:List St} (h:FoldB ss rs):fitB rs=fitB ss:=by
 unfold fitB
 rw [h.1]
 exact fitN_same _ _ _ h.1 (fun j h1 h2=>by
  obtain ⟨-,-,a,b,-⟩:=h.2 j h2 h1
  exact ⟨a,b⟩)
theorem FoldB.ok {ss rs:List St} (h:FoldB ss rs) (hs : ∀s∈ss,stmtB s=true/\s.e.length<=2000/\s.f.length<=2000) : ∀r∈rs,stmtB r=true/\r.e.length<=2000/\r.f.length<=2000:=by
 intro r hr
 obtain ⟨j,hj,rfl⟩:=List.mem_iff_getElem.1 hr
 have hj':j<ss.length:=by rw [<-h.1];exact hj
 have hF:=h.2 j hj' hj
 obtain ⟨b1,b2,b3⟩:=hs _ (List.getElem_mem hj')
 exact ⟨hF.ok b1 b2 b3,hF.2.2.2.2.1.len,hF.2.2.2.2.2.len⟩
theorem pls_ok {s:St} (h:stmtB s=true) (he:s.e.length<=2000) (hf:s.f.length<=2000):PlS s:=by
 unfold stmtB at h
 simp only [Bool.and_eq_true] at h
 obtain ⟨⟨⟨⟨⟨⟨a1,a2⟩,a3⟩,a4⟩,a5⟩,a6⟩,a7⟩:=h
 refine ⟨he,hf,fun k => ?_,fun k => ?_⟩
 ·rw [if_neg k] at a4
  exact List.eq_nil_of_length_eq_zero (by simpa using a4)
 ·rw [if_neg (by omega)] at a2
  exact size0 (by simpa using a2)
theorem pls_from {l:List St} {x:St} (h:FromS l x) (hl : ∀s∈l,PlS s):PlS x:=by
 obtain ⟨s,hs,h1,h2,h3,h4⟩:=h
 obtain ⟨p1,p2,p3,p4⟩:=hl s hs
 exact ⟨by rw [h3];exact p1,by rw [h4];exact p2,fun k=>by rw [h4];exact p3 (by rw [<-h1];exact k),fun k=>by rw [h2];exact p4 (by rw [<-h1];exact k)⟩
theorem FoldB.drop {ss rs:List St} (h:FoldB ss rs) (i:Nat):FoldB (ss.drop i) (rs.drop i):=by
 have hl:=h.1
 refine ⟨by simp [hl],fun j h1 h2 => ?_⟩
 simp only [List.getElem_drop]
 exact h.2 _ (by simp at h1;omega) (by simp at h2;omega)
theorem FoldB.take {ss rs:List St} (h:FoldB ss rs) (i:Nat):FoldB (ss.take i) (rs.take i):=by
 have hl:=h.1
 refine ⟨by simp [hl],fun j h1 h2 => ?_⟩
 simp only [List.getElem_take]
 exact h.2 _ (by simp at h1;omega) (by simp at h2;omega)
theorem moreS_fit (s:St) {a b:List St} (ha:fitB a=true) (hb:fitB b=true):fitB (moreS s a b)=true:=by
 have key:fitB (({s with thn:=a.length,els:=b.length}:St)::(a++b))=true:=fit_two (s := {s with thn:=a.length,els:=b.length}) rfl rfl ha hb
 unfold moreS
 split
 ·split
  ·split
   ·exact hb
   ·exact ha
  ·exact key
 ·split
  ·split
   ·rfl
   ·exact key
  ·exact key
theorem tidyB_fit : ∀(N:Nat) (l:List St),l.length<=N->fitB (tidyB l)=true
 | 0,l,h=>by
  have:l = []:=List.eq_nil_of_length_eq_zero (by omega)
  subst this
  rfl
 | N+1,[],h=>rfl
 | N+1,s::r,h=>by
  simp only [l_c] at h
  rw [tidyB_cons]
  have h1:=tidyB_fit N (r.take s.thn.toNat) (by simp;omega)
  have h2:=tidyB_fit N ((r.drop s.thn.toNat).take s.els.toNat) (by simp;omega)
  have h3:=tidyB_fit N (r.drop (s.thn.toNat+s.els.toNat)) (by simp;omega)
  have h4:fitB (headM s r)=true:=moreS_fit s h1 h2
  split
  ·exact h4
  ·exact fit_append _ _ _ (Nat.le_refl _) h4 h3
theorem cut_drop (l:List St) (i j:Nat):(l.drop i).take j=(l.take (i+j)).drop i:=by
 rw [List.drop_take,Nat.add_sub_cancel_left]
theorem fit_at {ss:List St} {i:Nat} (hi:i<ss.length) (h:fitB (ss.drop i)=true):0<=ss[i].thn/\0<=ss[i].els/\i+1+ss[i].thn.toNat+ss[i].els.toNat<=ss.length/\fitB ((ss.take (i+1+ss[i].thn.toNat)).drop (i+1))=true/\fitB ((ss.take (i+1+ss[i].thn.toNat+ss[i].els.toNat)).drop (i+1+ss[i].thn.toNat))=true/\fitB (ss.drop (i+1+ss[i].thn.toNat+ss[i].els.toNat))=true:=by
 rw [List.drop_eq_getElem_cons hi,fitB_cons] at h
 simp only [Bool.and_eq_true,decide_eq_true_eq,List.length_drop] at h
 obtain ⟨⟨p1,p2,p3,p4⟩,f1,f2,f3⟩:=h
 refine ⟨p1,p3,by omega,?_,?_,?_⟩
 ·rw [<-cut_drop];exact f1
 ·have e:((ss.drop (i+1)).take (ss[i].thn.toNat+ss[i].els.toNat)).drop ss[i].thn.toNat=(ss.take (i+1+ss[i].thn.toNat+ss[i].els.toNat)).drop (i+1+ss[i].thn.toNat):=by
   rw [cut_drop,List.drop_drop,Nat.add_assoc (i+1)]
  rw [<-e];exact f2
 ·rw [List.drop_drop,<-Nat.add_assoc] at f3;exact f3
theorem tidy_at {rs:List St} {i:Nat} (hi:i<rs.length):tidyB (rs.drop i)=(if endsB (headM rs[i] (rs.drop (i+1)))=true then headM rs[i] (rs.drop (i+1)) else headM rs[i] (rs.drop (i+1))++tidyB (rs.drop (i+1+rs[i].thn.toNat+rs[i].els.toNat)))/\headM rs[i] (rs.drop (i+1))=moreS rs[i] (tidyB ((rs.take (i+1+rs[i].thn.toNat)).drop (i+1))) (tidyB ((rs.take (i+1+rs[i].thn.toNat+rs[i].els.toNat)).drop (i+1+rs[i].thn.toNat))):=by
 refine ⟨?_,?_⟩
 ·rw [List.drop_eq_getElem_cons hi,tidyB_cons,List.drop_drop,<-Nat.add_assoc]
 ·unfold headM
  rw [cut_drop,List.drop_drop,cut_drop]
theorem ends_at {ss:List St} {i:Nat} (hi:i<ss.length):endsB (ss.drop i)=(decide (ss[i].kind=6) || endsB (ss.drop (i+1+ss[i].thn.toNat+ss[i].els.toNat))):=by
 rw [List.drop_eq_getElem_cons hi,endsB_cons,List.drop_drop,<-Nat.add_assoc]
end Go.Proofs.YtmddmgpijpjpbaaGreatDoor
