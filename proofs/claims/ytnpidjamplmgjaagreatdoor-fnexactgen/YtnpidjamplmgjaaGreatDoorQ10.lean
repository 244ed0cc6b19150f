import Derived.Test.YtnpidjamplmgjaaGreatDoorQ09
import Derived.Deep.RegionHeld3
import Derived.Below
import Derived.Test.YtnpidjamplmgjaaGreatDoorQ06
import Derived.RegionTactic
import Derived.Laws.AppendOwn
set_option linter.unusedSectionVars false
variable [Inhabited Go.Proofs.YtnpidjamplmgjaaGreatDoor.Pick]
namespace Go.Proofs.YtnpidjamplmgjaaGreatDoor
open Go.RowKit
set_option linter.unusedVariables false
set_option linter.unusedSimpArgs false
set_option maxRecDepth 100000
set_option maxHeartbeats 16000000
def NeedK (w0:World) (v:Value) (g:Int->Int) (L:Nat):Prop:=∀(w:World) (d:Int),Below w0.heap.size w0 w->0<=d->d+7*L<=100000->Calls Tryz.prog 102 #[v,.int .i64 d] w fun e w'=>e = .returned (.int .i64 (g d))/\Below w.heap.size w w'
theorem need_leaf (w0:World) (u:TypeId) (xv:Value) (h1:u≠215) (h2:u≠217) (h3:u≠219) (h4:u≠221) (h5:u≠222) (h6:u≠225) (L:Nat):NeedK w0 (.iface u xv) (fun d=>d+1) L:=by
 intro w d hw hd hl
 have n1:=fun W=>as_index_no W u xv h1
 have n2:=fun W=>as_un_no W u xv h2
 have n3:=fun W=>as_bin_no W u xv h3
 have n4:=fun W=>as_and_no W u xv h4
 have n5:=fun W=>as_or_no W u xv h5
 have n6:=fun W=>as_call_no W u xv h6
 go_enter Tryz.func102,Tryz.ntmps102
 go_wp2_with fail
 go_ret
 exact ⟨rfl,Below.refl _ _⟩
theorem need_index (w0:World) (s:ByteArray) (t:TypeId) (x:Value) (g:Int->Int) (L:Nat) (h:NeedK w0 (.iface t x) g L):NeedK w0 (.iface 215 (.agg #[.string s,.iface t x])) g (L+1):=by
 intro w d hw hd hl
 have HK:=hide fun W (hW:Bl w W)=>h W d (hw.trans (hW.mono hw.size)) hd o_
 generalize g d=z at HK ⊢
 have y1:=as_index_yes
 have hA : ∀o,Bl w (w.alloc o):=fun o=>(Below.refl _ _).alloc (Nat.le_refl _) o
 go_enter Tryz.func102,Tryz.ntmps102
 go_wp2_with fail
 refine (HK.out _ (hA _)).mono ?_
 rintro e w1 ⟨rfl,hb1⟩
 have hB:=(hA _).trans (hb1.mono (by simp))
 go_wp2_with fail
 go_ret
 exact ⟨rfl,hB⟩
theorem need_un (w0:World) (op:Int) (t:TypeId) (x:Value) (g:Int->Int) (L:Nat) (h:NeedK w0 (.iface t x) g L):NeedK w0 (.iface 217 (.agg #[.int .i64 op,.iface t x])) g (L+1):=by
 intro w d hw hd hl
 have HK:=hide fun W (hW:Bl w W)=>h W d (hw.trans (hW.mono hw.size)) hd o_
 generalize g d=z at HK ⊢
 have y1:=fun W v=>as_index_no W 217 v (by decide)
 have y2:=as_un_yes
 have hA : ∀o,Bl w (w.alloc o):=fun o=>(Below.refl _ _).alloc (Nat.le_refl _) o
 go_enter Tryz.func102,Tryz.ntmps102
 go_wp2_with fail
 refine (HK.out _ (hA _)).mono ?_
 rintro e w1 ⟨rfl,hb1⟩
 have hB:=(hA _).trans (hb1.mono (by simp))
 go_wp2_with fail
 go_ret
 exact ⟨rfl,hB⟩
theorem need_bin (w0:World) (op:Int) (t u:TypeId) (x y:Value) (g h:Int->Int) (L M:Nat) (hx:NeedK w0 (.iface t x) g L) (hy:NeedK w0 (.iface u y) h M):NeedK w0 (.iface 219 (.agg #[.int .i64 op,.iface t x,.iface u y])) (fun d=>max (g d) (h (d+1))) (L+M+1):=by
 intro w d hw hd hl
 have y1:=fun W v=>as_index_no W 219 v (by decide)
 have y2:=fun W v=>as_un_no W 219 v (by decide)
 have y3:=as_bin_yes
 have hA : ∀o,Bl w (w.alloc o):=fun o=>(Below.refl _ _).alloc (Nat.le_refl _) o
 obtain ⟨W1,hW1⟩ : ∃W1,W1=w.alloc (.cells #[.int .i64 op,.iface t x,.iface u y] 219):=⟨_,rfl⟩
 have hb0:Bl w W1:=by rw [hW1];exact hA _
 have HX:=hide fun W (hW:Bl W1 W)=>hx W d (hw.trans ((hb0.trans (hW.mono hb0.size)).mono hw.size)) hd o_
 have HY:=hide fun W (hW:Bl W1 W)=>hy W (d+1) (hw.trans ((hb0.trans (hW.mono hb0.size)).mono hw.size)) o_ o_
 have c1:W1.cell? ⟨w.heap.size,1,none⟩=some (.iface t x):=by rw [hW1];simp
 have c2:W1.cell? ⟨w.heap.size,2,none⟩=some (.iface u y):=by rw [hW1];simp
 have hl1:w.heap.size<W1.heap.size:=by rw [hW1];simp
 have HW1:=hide hW1
 have Hb0:=hide hb0
 have hd1:Bl W1 W1.drew:=(Below.refl _ _).drew
 have Hd1:=hide hd1
 have Hw1:IntKind.i64.wrap (d+1)=d+1:=by simp [IntKind.wrap,IntKind.bits,IntKind.signed];omega
 show Calls Tryz.prog 102 _ w fun e w'=>e = .returned (.int .i64 (max (g d) (h (d+1))))/\Bl w w'
 generalize g d=p at HX ⊢
 generalize h (d+1)=q at HY ⊢
 obtain ⟨mx,hmx⟩ : ∃mx,mx=max p q:=⟨_,rfl⟩
 rw [<-hmx]
 have HMX:Hid ((if p<q then q else p)=mx):=by show _=_;rw [hmx,Int.max_def];split <;> split <;> omega
 clear hmx
 clear hx hy hW1 hb0 hd1 hA
 go_enter Tryz.func102,Tryz.ntmps102
 go_wp2_with fail
 rw [<-HW1.out]
 go_region_held3 (fun W=>W.cell? ⟨w.heap.size,1,none⟩=some (.iface t x)/\W.cell? ⟨w.heap.size,2,none⟩=some (.iface u y)) (go_simp)
  (first
  | ((with_reducible refine Calls.mono (HX.out _ Hd1.out) ?_);rintro e w2 ⟨rfl,hb2⟩;have k2:Bl W1 w2:=Hd1.out.trans hb2;have e1:w2.cell? ⟨w.heap.size,1,none⟩=some (.iface t x):=(k2.cell (p:=⟨w.heap.size,1,none⟩) hl1).trans c1;have e2:w2.cell? ⟨w.heap.size,2,none⟩=some (.iface u y):=(k2.cell (p:=⟨w.heap.size,2,none⟩) hl1).trans c2)
  | ((with_reducible refine Calls.mono (HY.out _ Hd1.out) ?_);rintro e w2 ⟨rfl,hb2⟩;have k2:Bl W1 w2:=Hd1.out.trans hb2;have e1:w2.cell? ⟨w.heap.size,1,none⟩=some (.iface t x):=(k2.cell (p:=⟨w.heap.size,1,none⟩) hl1).trans c1;have e2:w2.cell? ⟨w.heap.size,2,none⟩=some (.iface u y):=(k2.cell (p:=⟨w.heap.size,2,none⟩) hl1).trans c2)
  | ((with_reducible refine Calls.mono (HX.out _ k2) ?_);rintro e w3 ⟨rfl,hb3⟩;have k3:Bl W1 w3:=k2.trans (hb3.mono k2.size);have e3:w3.cell? ⟨w.heap.size,1,none⟩=some (.iface t x):=(k3.cell (p:=⟨w.heap.size,1,none⟩) hl1).trans c1;have e4:w3.cell? ⟨w.heap.size,2,none⟩=some (.iface u y):=(k3.cell (p:=⟨w.heap.size,2,none⟩) hl1).trans c2)
  | ((with_reducible refine Calls.mono (HY.out _ k2) ?_);rintro e w3 ⟨rfl,hb3⟩;have k3:Bl W1 w3:=k2.trans (hb3.mono k2.size);have e3:w3.cell? ⟨w.heap.size,1,none⟩=some (.iface t x):=(k3.cell (p:=⟨w.heap.size,1,none⟩) hl1).trans c1;have e4:w3.cell? ⟨w.heap.size,2,none⟩=some (.iface u y):=(k3.cell (p:=⟨w.heap.size,2,none⟩) hl1).trans c2))
 rw [HMX.out]
 go_wp2_with fail
 go_ret
 exact ⟨rfl,Hb0.out.trans (k3.mono Hb0.out.size)⟩
theorem need_and (w0:World) (t u:TypeId) (x y:Value) (g h:Int->Int) (L M:Nat) (hx:NeedK w0 (.iface t x) g L) (hy:NeedK w0 (.iface u y) h M):NeedK w0 (.iface 221 (.agg #[.iface t x,.iface u y])) (fun d=>max (g d) (h d)) (L+M+1):=by
 intro w d hw hd hl
 have y1:=fun W v=>as_index_no W 221 v (by decide)
 have y2:=fun W v=>as_un_no W 221 v (by decide)
 have y3:=fun W v=>as_bin_no W 221 v (by decide)
 have y4:=as_and_yes
 have hA : ∀o,Bl w (w.alloc o):=fun o=>(Below.refl _ _).alloc (Nat.le_refl _) o
 obtain ⟨W1,hW1⟩ : ∃W1,W1=w.alloc (.cells #[.iface t x,.iface u y] 221):=⟨_,rfl⟩
 have hb0:Bl w W1:=by rw [hW1];exact hA _
 have HX:=hide fun W (hW:Bl W1 W)=>hx W d (hw.trans ((hb0.trans (hW.mono hb0.size)).mono hw.size)) hd o_
 have HY:=hide fun W (hW:Bl W1 W)=>hy W d (hw.trans ((hb0.trans (hW.mono hb0.size)).mono hw.size)) hd o_
 have c1:W1.cell? ⟨w.heap.size,0,none⟩=some (.iface t x):=by rw [hW1];simp
 have c2:W1.cell? ⟨w.heap.size,1,none⟩=some (.iface u y):=by rw [hW1];simp
 have hl1:w.heap.size<W1.heap.size:=by rw [hW1];simp
 have HW1:=hide hW1
 have Hb0:=hide hb0
 have hd1:Bl W1 W1.drew:=(Below.refl _ _).drew
 have Hd1:=hide hd1
 have Hw1:IntKind.i64.wrap (d+1)=d+1:=by simp [IntKind.wrap,IntKind.bits,IntKind.signed];omega
 show Calls Tryz.prog 102 _ w fun e w'=>e = .returned (.int .i64 (max (g d) (h d)))/\Bl w w'
 generalize g d=p at HX ⊢
 generalize h d=q at HY ⊢
 obtain ⟨mx,hmx⟩ : ∃mx,mx=max p q:=⟨_,rfl⟩
 rw [<-hmx]
 have HMX:Hid ((if p<q then q else p)=mx):=by show _=_;rw [hmx,Int.max_def];split <;> split <;> omega
 clear hmx
 clear hx hy hW1 hb0 hd1 hA
 go_enter Tryz.func102,Tryz.ntmps102
 go_wp2_with fail
 rw [<-HW1.out]
 go_region_held3 (fun W=>W.cell? ⟨w.heap.size,0,none⟩=some (.iface t x)/\W.cell? ⟨w.heap.size,1,none⟩=some (.iface u y)) (go_simp)
  (first
  | ((with_reducible refine Calls.mono (HX.out _ Hd1.out) ?_);rintro e w2 ⟨rfl,hb2⟩;have k2:Bl W1 w2:=Hd1.out.trans hb2;have e1:w2.cell? ⟨w.heap.size,0,none⟩=some (.iface t x):=(k2.cell (p:=⟨w.heap.size,0,none⟩) hl1).trans c1;have e2:w2.cell? ⟨w.heap.size,1,none⟩=some (.iface u y):=(k2.cell (p:=⟨w.heap.size,1,none⟩) hl1).trans c2)
  | ((with_reducible refine Calls.mono (HY.out _ Hd1.out) ?_);rintro e w2 ⟨rfl,hb2⟩;have k2:Bl W1 w2:=Hd1.out.trans hb2;have e1:w2.cell? ⟨w.heap.size,0,none⟩=some (.iface t x):=(k2.cell (p:=⟨w.heap.size,0,none⟩) hl1).trans c1;have e2:w2.cell? ⟨w.heap.size,1,none⟩=some (.iface u y):=(k2.cell (p:=⟨w.heap.size,1,none⟩) hl1).trans c2)
  | ((with_reducible refine Calls.mono (HX.out _ k2) ?_);rintro e w3 ⟨rfl,hb3⟩;have k3:Bl W1 w3:=k2.trans (hb3.mono k2.size);have e3:w3.cell? ⟨w.heap.size,0,none⟩=some (.iface t x):=(k3.cell (p:=⟨w.heap.size,0,none⟩) hl1).trans c1;have e4:w3.cell? ⟨w.heap.size,1,none⟩=some (.iface u y):=(k3.cell (p:=⟨w.heap.size,1,none⟩) hl1).trans c2)
  | ((with_reducible refine Calls.mono (HY.out _ k2) ?_);rintro e w3 ⟨rfl,hb3⟩;have k3:Bl W1 w3:=k2.trans (hb3.mono k2.size);have e3:w3.cell? ⟨w.heap.size,0,none⟩=some (.iface t x):=(k3.cell (p:=⟨w.heap.size,0,none⟩) hl1).trans c1;have e4:w3.cell? ⟨w.heap.size,1,none⟩=some (.iface u y):=(k3.cell (p:=⟨w.heap.size,1,none⟩) hl1).trans c2))
 rw [HMX.out]
 go_wp2_with fail
 go_ret
 exact ⟨rfl,Hb0.out.trans (k3.mono Hb0.out.size)⟩
theorem need_or (w0:World) (t u:TypeId) (x y:Value) (g h:Int->Int) (L M:Nat) (hx:NeedK w0 (.iface t x) g L) (hy:NeedK w0 (.iface u y) h M):NeedK w0 (.iface 222 (.agg #[.iface t x,.iface u y])) (fun d=>max (g d) (h d)) (L+M+1):=by
 intro w d hw hd hl
 have y1:=fun W v=>as_index_no W 222 v (by decide)
 have y2:=fun W v=>as_un_no W 222 v (by decide)
 have y3:=fun W v=>as_bin_no W 222 v (by decide)
 have y4:=fun W v=>as_and_no W 222 v (by decide)
 have y5:=as_or_yes
 have hA : ∀o,Bl w (w.alloc o):=fun o=>(Below.refl _ _).alloc (Nat.le_refl _) o
 obtain ⟨W1,hW1⟩ : ∃W1,W1=w.alloc (.cells #[.iface t x,.iface u y] 222):=⟨_,rfl⟩
 have hb0:Bl w W1:=by rw [hW1];exact hA _
 have HX:=hide fun W (hW:Bl W1 W)=>hx W d (hw.trans ((hb0.trans (hW.mono hb0.size)).mono hw.size)) hd o_
 have HY:=hide fun W (hW:Bl W1 W)=>hy W d (hw.trans ((hb0.trans (hW.mono hb0.size)).mono hw.size)) hd o_
 have c1:W1.cell? ⟨w.heap.size,0,none⟩=some (.iface t x):=by rw [hW1];simp
 have c2:W1.cell? ⟨w.heap.size,1,none⟩=some (.iface u y):=by rw [hW1];simp
 have hl1:w.heap.size<W1.heap.size:=by rw [hW1];simp
 have HW1:=hide hW1
 have Hb0:=hide hb0
 have hd1:Bl W1 W1.drew:=(Below.refl _ _).drew
 have Hd1:=hide hd1
 have Hw1:IntKind.i64.wrap (d+1)=d+1:=by simp [IntKind.wrap,IntKind.bits,IntKind.signed];omega
 show Calls Tryz.prog 102 _ w fun e w'=>e = .returned (.int .i64 (max (g d) (h d)))/\Bl w w'
 generalize g d=p at HX ⊢
 generalize h d=q at HY ⊢
 obtain ⟨mx,hmx⟩ : ∃mx,mx=max p q:=⟨_,rfl⟩
 rw [<-hmx]
 have HMX:Hid ((if p<q then q else p)=mx):=by show _=_;rw [hmx,Int.max_def];split <;> split <;> omega
 clear hmx
 clear hx hy hW1 hb0 hd1 hA
 go_enter Tryz.func102,Tryz.ntmps102
 go_wp2_with fail
 rw [<-HW1.out]
 go_region_held3 (fun W=>W.cell? ⟨w.heap.size,0,none⟩=some (.iface t x)/\W.cell? ⟨w.heap.size,1,none⟩=some (.iface u y)) (go_simp)
  (first
  | ((with_reducible refine Calls.mono (HX.out _ Hd1.out) ?_);rintro e w2 ⟨rfl,hb2⟩;have k2:Bl W1 w2:=Hd1.out.trans hb2;have e1:w2.cell? ⟨w.heap.size,0,none⟩=some (.iface t x):=(k2.cell (p:=⟨w.heap.size,0,none⟩) hl1).trans c1;have e2:w2.cell? ⟨w.heap.size,1,none⟩=some (.iface u y):=(k2.cell (p:=⟨w.heap.size,1,none⟩) hl1).trans c2)
  | ((with_reducible refine Calls.mono (HY.out _ Hd1.out) ?_);rintro e w2 ⟨rfl,hb2⟩;have k2:Bl W1 w2:=Hd1.out.trans hb2;have e1:w2.cell? ⟨w.heap.size,0,none⟩=some (.iface t x):=(k2.cell (p:=⟨w.heap.size,0,none⟩) hl1).trans c1;have e2:w2.cell? ⟨w.heap.size,1,none⟩=some (.iface u y):=(k2.cell (p:=⟨w.heap.size,1,none⟩) hl1).trans c2)
  | ((with_reducible refine Calls.mono (HX.out _ k2) ?_);rintro e w3 ⟨rfl,hb3⟩;have k3:Bl W1 w3:=k2.trans (hb3.mono k2.size);have e3:w3.cell? ⟨w.heap.size,0,none⟩=some (.iface t x):=(k3.cell (p:=⟨w.heap.size,0,none⟩) hl1).trans c1;have e4:w3.cell? ⟨w.heap.size,1,none⟩=some (.iface u y):=(k3.cell (p:=⟨w.heap.size,1,none⟩) hl1).trans c2)
  | ((with_reducible refine Calls.mono (HY.out _ k2) ?_);rintro e w3 ⟨rfl,hb3⟩;have k3:Bl W1 w3:=k2.trans (hb3.mono k2.size);have e3:w3.cell? ⟨w.heap.size,0,none⟩=some (.iface t x):=(k3.cell (p:=⟨w.heap.size,0,none⟩) hl1).trans c1;have e4:w3.cell? ⟨w.heap.size,1,none⟩=some (.iface u y):=(k3.cell (p:=⟨w.heap.size,1,none⟩) hl1).trans c2))
 rw [HMX.out]
 go_wp2_with fail
 go_ret
 exact ⟨rfl,Hb0.out.trans (k3.mono Hb0.out.size)⟩
theorem need_call (w0:World) (S:Nat->Prop) (s:ByteArray) (ar:Value) (A:Nat) (vs:Nat->Value) (G:Nat->Int->Int) (L:Nat) (hA6:A<=6) (ha:Args w0 S ar A vs) (hI : ∀i,i<A->∃t x,vs i = .iface t x) (hS : ∀B,S B->B<w0.heap.size) (hv : ∀i,i<A->NeedK w0 (vs i) (G i) L) (hb : ∀i,i<A->NFb L (G i)) :
  NeedK w0 (.iface 225 (.agg #[.string s,ar])) (callM G A) (L+1):=by
 intro w d hw hd hl
 obtain ⟨a,cap,rfl,hc1,hc2,hc⟩:=ha
 have HC:=hide hc
 have HS:=hide hS
 have HI:=hide hI
 have HV:=hide hv
 have HBd:=hide fun i (hi:i<=A)=>callM_bd i d o_ (fun k hk=>hb k o_)
 have y1:=fun W v=>as_index_no W 225 v (by decide)
 have y2:=fun W v=>as_un_no W 225 v (by decide)
 have y3:=fun W v=>as_bin_no W 225 v (by decide)
 have y4:=fun W v=>as_and_no W 225 v (by decide)
 have y5:=fun W v=>as_or_no W 225 v (by decide)
 have y6:=as_call_yes
 have hA : ∀o,Bl w (w.alloc o):=fun o=>(Below.refl _ _).alloc (Nat.le_refl _) o
 clear hc hS hI hv hb
 go_enter Tryz.func102,Tryz.ntmps102
 go_wp2_with fail
 go_loopw [5,74] (fun m i wr=>∃(k:Nat),k<=A/\i = .int .i64 k/\m = .int .i64 (callM G k d)/\Bl w wr) (fun _ i _=>A-(RowKit.intOf i).toNat)
 case atStart=>exact ⟨0,Nat.zero_le _,rfl,rfl,hA _⟩
 case round=>
  clear y1 y2 y3 y4 y5 y6 hA
  obtain ⟨k,hk,rfl,rfl,hB⟩:=hrel
  obtain ⟨hb1,hb2⟩:=HBd.out k hk
  by_cases hlt:k<A
  ·obtain ⟨B,rfl,hSB,hcc⟩:=HC.out o_
   have hBw:Bl w0 wr:=hw.trans (hB.mono hw.size)
   obtain ⟨tk,xk,hvk⟩:=HI.out k hlt
   have d0:=(hBw.cell (p:=⟨B,k,none⟩) (HS.out B hSB)).trans (hcc k hlt)
   rw [hvk] at d0
   have HK:Hid (Calls Tryz.prog 102 #[.iface tk xk,.int .i64 (d+k)] wr fun e w'=>e = .returned (.int .i64 (G k (d+k)))/\Bl wr w'):=by
    have:=HV.out k hlt wr (d+k) hBw o_ o_
    rw [hvk] at this
    exact this
   have HN:Hid (callM G (k+1) d=max (callM G k d) (G k (d+k))):=rfl
   clear hcc hvk
   generalize callM G k d=p at hb1 hb2 HN
   generalize G k (d+k)=q at HK HN
   have HMX:Hid ((if p<q then q else p)=callM G (k+1) d):=by show _=_;rw [HN.out,Int.max_def];split <;> split <;> omega
   obtain ⟨mx,hmx⟩ : ∃mx,mx=callM G (k+1) d:=⟨_,rfl⟩
   rw [<-hmx] at HMX
   have HQ:=hide hmx
   clear hmx HN
   have hwk:IntKind.i64.wrap (d+(k:Int))=d+(k:Int):=by simp [IntKind.wrap,IntKind.bits,IntKind.signed];omega
   go_wp2_with fail
   refine HK.out.mono ?_
   rintro e w2 ⟨rfl,hb3⟩
   have hB2:=hB.trans (hb3.mono hB.size)
   clear hb3 d0 HK
   go_wp2
   rw [HMX.out,HQ.out]
   refine ⟨⟨k+1,by omega,by simp,rfl,hB2⟩,?_⟩
   simp only [RowKit.intOf]
   omega
  ·obtain rfl:k=A:=by omega
   obtain ⟨p,hp⟩ : ∃p,p=callM G k d:=⟨_,rfl⟩
   rw [<-hp] at hb1 hb2 ⊢
   have HP:=hide hp
   clear hp
   go_wp2_with fail
   go_ret
   exact ⟨congrArg (fun v=>Ending.returned (.int .i64 v)) HP.out,hB⟩
theorem NeedK.mono {w0:World} {v:Value} {g:Int->Int} {L M:Nat} (h:NeedK w0 v g L) (hl:L<=M):NeedK w0 v g M:=fun w d hw hd hm=>h w d hw hd o_
theorem joinF_le (F:Nat->List Nd) : ∀(A i:Nat),i<A->(F i).length<=(joinF F A).length
 | 0,i,h=>absurd h (Nat.not_lt_zero _)
 | A+1,i,h=>by
  simp only [joinF,l_a]
  by_cases hi:i<A
  ·have:=joinF_le F A i hi
   omega
  ·obtain rfl:i=A:=by omega
   omega
theorem joinF_mem (F:Nat->List Nd) (n:Nd) : ∀(A i:Nat),i<A->n∈F i->n∈joinF F A
 | 0,i,h,_=>absurd h (Nat.not_lt_zero _)
 | A+1,i,h,hn=>by
  simp only [joinF,List.mem_append]
  by_cases hi:i<A
  ·exact .inl (joinF_mem F n A i hi hn)
  ·obtain rfl:i=A:=by omega
   exact .inr hn
def NeedT (w0:World) (v:Value) (r:List Nd):Prop:=∃g,NF r g/\NFb r.length g/\NeedK w0 v g r.length
theorem NeedT.leaf {w0:World} {u:TypeId} {xv:Value} {n:Nd} (hn:nodeB n=true) (hA:arity n=0) (hk:n.kind≠3/\n.kind≠6/\n.kind≠7/\n.kind≠8/\n.kind≠9) (hK:NeedK w0 (.iface u xv) (fun d=>d+1) 1):NeedT w0 (.iface u xv) [n]:=by
 have e:need1 n 0 (fun _ d=>d)=fun d=>d+1:=by simp [need1,hk];rfl
 refine ⟨_,NF.node hn (A:=0) hA (F:=fun _=>[]) (G:=fun _ d=>d) (fun i hi=>absurd hi (Nat.not_lt_zero _)),?_,?_⟩
 ·exact (need1_bd (L:=0) hn (A:=0) hA (fun i hi=>absurd hi (Nat.not_lt_zero _)))
 ·rw [e];exact hK
theorem NeedT.one {w0:World} {v:Value} {r:List Nd} {n:Nd} {g:Int->Int} (hn:nodeB n=true) (hA:arity n=1) (hk:n.kind=3∨n.kind=6) (hg:NF r g) (hb:NFb r.length g) (hK:NeedK w0 v g (r.length+1)):NeedT w0 v (r++[n]):=by
 have e:need1 n 1 (fun _=>g)=g:=by simp [need1,hk]
 have h1:=NF.node hn (A:=1) hA (F:=fun _=>r) (G:=fun _=>g) (fun i hi=>hg)
 have h2:=need1_bd (L:=r.length) hn (A:=1) hA (G:=fun _=>g) (fun i hi=>hb)
 rw [e] at h1 h2
 have hl:(r++[n]).length=r.length+1:=by simp
 exact ⟨g,by simpa [joinF] using h1,by rw [hl];exact h2,by rw [hl];exact hK⟩
theorem NeedT.two {w0:World} {v:Value} {r t:List Nd} {n:Nd} {g h:Int->Int} (k:Int->Int) (hn:nodeB n=true) (hA:arity n=2) (e:need1 n 2 (fun i=>if i=0 then g else h)=k) (hg:NF r g) (hh:NF t h) (hb:NFb r.length g) (hc:NFb t.length h) (hK:NeedK w0 v k (r.length+t.length+1)):NeedT w0 v (r++t++[n]):=by
 have h1:=NF.node hn (A:=2) hA (F:=fun i=>if i=0 then r else t) (G:=fun i=>if i=0 then g else h) (fun i hi=>by by_cases h0:i=0 <;> simp only [h0,if_true,if_false] <;> assumption)
 have h2:=need1_bd (L:=r.length+t.length) hn (A:=2) hA (G:=fun i=>if i=0 then g else h) (fun i hi=>by by_cases h0:i=0 <;> simp only [h0,if_true,if_false];exact hb.mono o_;exact hc.mono o_)
 rw [e] at h1 h2
 have hl:(r++t++[n]).length=r.length+t.length+1:=by simp;omega
 exact ⟨k,by simpa [joinF] using h1,by rw [hl];exact h2,by rw [hl];exact hK⟩
theorem need_any {w0:World} {S:Nat->Prop} {v:Value} {r:List Nd} (h:Tv w0 S v r) (hS : ∀B,S B->B<w0.heap.size) (hg:goodAll r):NeedT w0 v r:=by
 induction h using Tv_i with
 | num v=>exact .leaf (hg _ (by simp)) rfl (by simp) (need_leaf w0 _ _ (by decide) (by decide) (by decide) (by decide) (by decide) (by decide) 1)
 | var s=>exact .leaf (hg _ (by simp)) rfl (by simp) (need_leaf w0 _ _ (by decide) (by decide) (by decide) (by decide) (by decide) (by decide) 1)
 | inn=>exact .leaf (hg _ (by simp)) (by decide) (by decide) (need_leaf w0 _ _ (by decide) (by decide) (by decide) (by decide) (by decide) (by decide) 1)
 | index s x r hx ih=>
  obtain ⟨t,y,rfl⟩:=hx.isI
  obtain ⟨g,h1,h2,h3⟩:=ih (fun n hn=>hg n (by simp [hn]))
  exact .one (hg _ (by simp)) rfl (.inl rfl) h1 h2 (need_index w0 s t y g _ h3)
 | un op x r hx ih=>
  obtain ⟨t,y,rfl⟩:=hx.isI
  obtain ⟨g,h1,h2,h3⟩:=ih (fun n hn=>hg n (by simp [hn]))
  exact .one (hg _ (by simp)) rfl (.inr rfl) h1 h2 (need_un w0 op t y g _ h3)
 | bin op x y r t hx hy ih1 ih2=>
  obtain ⟨tx,x,rfl⟩:=hx.isI
  obtain ⟨ty,y,rfl⟩:=hy.isI
  obtain ⟨g,h1,h2,h3⟩:=ih1 (fun n hn=>hg n (by simp [hn]))
  obtain ⟨h,k1,k2,k3⟩:=ih2 (fun n hn=>hg n (by simp [hn]))
  exact .two _ (hg _ (by simp)) rfl (by simp [need1]) h1 k1 h2 k2 (need_bin w0 op tx ty x y g h _ _ h3 k3)
 | and x y r t hx hy ih1 ih2=>
  obtain ⟨tx,x,rfl⟩:=hx.isI
  obtain ⟨ty,y,rfl⟩:=hy.isI
  obtain ⟨g,h1,h2,h3⟩:=ih1 (fun n hn=>hg n (by simp [hn]))
  obtain ⟨h,k1,k2,k3⟩:=ih2 (fun n hn=>hg n (by simp [hn]))
  exact .two _ (hg _ (by simp)) rfl (by simp [need1]) h1 k1 h2 k2 (need_and w0 tx ty x y g h _ _ h3 k3)
 | or x y r t hx hy ih1 ih2=>
  obtain ⟨tx,x,rfl⟩:=hx.isI
  obtain ⟨ty,y,rfl⟩:=hy.isI
  obtain ⟨g,h1,h2,h3⟩:=ih1 (fun n hn=>hg n (by simp [hn]))
  obtain ⟨h,k1,k2,k3⟩:=ih2 (fun n hn=>hg n (by simp [hn]))
  exact .two _ (hg _ (by simp)) rfl (by simp [need1]) h1 k1 h2 k2 (need_or w0 tx ty x y g h _ _ h3 k3)
 | call s ar A vs F ha hv ih=>
  have hn:nodeB (⟨4,A,s⟩:Nd)=true:=hg _ (by simp)
  have hA:arity (⟨4,A,s⟩:Nd)=A:=by simp [arity]
  have h6:A<=6:=by have:=(arity_good hn).2;omega
  have h0 : ∀i,∃g,i<A->NF (F i) g/\NFb (F i).length g/\NeedK w0 (vs i) g (F i).length:=by
   intro i
   by_cases hi:i<A
   ·obtain ⟨g,hh⟩:=ih i hi (fun n hn=>hg n (by simp [joinF_mem F n A i hi hn]))
    exact ⟨g,fun _=>hh⟩
   ·exact ⟨fun d=>d,fun h=>absurd h hi⟩
  have h1:=NF.node hn hA (F:=F) (G:=fun i=>(h0 i).choose) (fun i hi=>((h0 i).choose_spec hi).1)
  have hb : ∀i,i<A->NFb (joinF F A).length ((h0 i).choose):=fun i hi=>((h0 i).choose_spec hi).2.1.mono (joinF_le F A i hi)
  have h2:=need1_bd hn hA (G:=fun i=>(h0 i).choose) hb
  have e:need1 (⟨4,A,s⟩:Nd) A (fun i=>(h0 i).choose)=callM (fun i=>(h0 i).choose) A:=by simp [need1]
  rw [e] at h1 h2
  have hl:(joinF F A++[(⟨4,A,s⟩:Nd)]).length=(joinF F A).length+1:=by simp
  refine ⟨_,h1,by rw [hl];exact h2,?_⟩
  rw [hl]
  exact need_call w0 S s ar A vs _ _ h6 ha (fun i hi=>(hv i hi).isI) hS (fun i hi=>((h0 i).choose_spec hi).2.2.mono (joinF_le F A i hi)) hb
def needL (e:List Nd) (d:Int):Int:=((evN e []).headD (fun d=>d)) d
theorem NF.eq {e:List Nd} {g:Int->Int} (h:NF e g) (d:Int):needL e d=g d:=by
 unfold needL;rw [h []];rfl
def plE (e:List Nd) (d m:Int):Int:=if e.length=0 then m else max m (needL e d)
def plU (s:St) (m:Nat) (p:Int):Int:=if m=0 then p else if m=1 then plE s.e 0 p else plE s.f 1 (plE s.e 0 p)
def places (body:List St):Int:=body.foldl (fun p s=>plU s 2 p) 0
theorem places_snoc (l:List St) (s:St):places (l++[s])=plU s 2 (places l):=by simp [places]
def okE (e:List Nd):Prop:=e.length<=2000/\(0<e.length->oneB e=true)
theorem needL_bd {e:List Nd} (h:okE e) (h0:0<e.length) (d:Int):d<=needL e d/\needL e d<=d+14000:=by
 obtain ⟨g,h1,h2⟩:=NF.exists e.length e (Nat.le_refl _) (h.2 h0)
 rw [h1.eq]
 have:=h2 d
 have:=h.1
 omega
theorem needE {w:World} {S:Nat->Prop} {u:Value} {e:List Nd} (h:Tv w S u e) (hS : ∀B,S B->B<w.heap.size) (hk:okE e) (d:Int) (hd:0<=d) (hd1:d<=1):Calls Tryz.prog 102 #[u,.int .i64 d] w fun x w'=>x = .returned (.int .i64 (needL e d))/\Below w.heap.size w w':=by
 obtain ⟨g,h1,h2,h3⟩:=need_any h hS (one_good (hk.2 h.pos))
 rw [h1.eq]
 exact h3 w d (Below.refl _ _) hd (by have:=hk.1;omega)
theorem placesOf_any (vb:Value) (body:List St) (w:World) (hTab:Tab w) (hb:Stmts w vb body) (hok : ∀s∈body,okE s.e/\okE s.f) :
  Calls Tryz.prog 79 #[vb] w fun e w'=>e = .returned (.int .i64 (places body))/\Below w.heap.size w w':=by
 obtain ⟨ab,cb,rfl,hcl,hbl,hbc⟩:=hb
 have HBC:=hide hbc
 have HOk:=hide hok
 have HTab:=hide hTab
 go_enter Tryz.func79,Tryz.ntmps79
 go_wp2_with fail
 go_loopw [3,10] (fun p i wr=>∃(k:Nat),k<=body.length/\i = .int .i64 k/\p = .int .i64 (places (body.take k))/\Bl w wr) (fun _ i _=>body.length-(RowKit.intOf i).toNat)
 case atStart=>exact ⟨0,Nat.zero_le _,rfl,rfl,Below.refl _ _⟩
 case round=>
  obtain ⟨k,hk,rfl,rfl,hB⟩:=hrel
  by_cases hlt:k<body.length
  ·obtain ⟨b',off,rfl,hc⟩:=HBC.out o_
   obtain ⟨ve,vf,⟨c0,c1,c2,c3,c4,c5⟩,he,hf⟩:=hc k hlt
   have hlb:=World.block_lt_of_cell? _ _ c0
   have d0:=(hB.cell (p:=⟨b',off+k*6,none⟩) hlb).trans c0
   have d1:=(hB.cell (p:=⟨b',off+k*6+1,none⟩) hlb).trans c1
   have d2:=(hB.cell (p:=⟨b',off+k*6+2,none⟩) hlb).trans c2
   have d3:=(hB.cell (p:=⟨b',off+k*6+3,none⟩) hlb).trans c3
   have d4:=(hB.cell (p:=⟨b',off+k*6+4,none⟩) hlb).trans c4
   have d5:=(hB.cell (p:=⟨b',off+k*6+5,none⟩) hlb).trans c5
   have HE:Hid (places (body.take (k+1))=plU body[k] 2 (places (body.take k))):=by show _=_;rw [List.take_succ_eq_append_getElem hlt,places_snoc]
   have HS:Hid (okE body[k].e/\okE body[k].f):=HOk.out _ (List.getElem_mem hlt)
   generalize body[k]=s at d0 d1 d2 d3 d4 d5 he hf HE HS
   generalize places (body.take k)=pre at HE
   have HNe:=hide he
   have HNf:=hide hf
   obtain ⟨ae,ce,rfl,-⟩:=he
   obtain ⟨af,cf,rfl,-⟩:=hf
   go_wp2_with fail
   refine (exprs_any _ _ _ _ _ _ _ _ _ _ _).mono ?_
   rintro e w1 ⟨rfl,hb1⟩
   simp only [World.size_alloc] at hb1
   have HB1:Hid (Bl w w1):=hB.trans (((bel_a _ _).trans (hb1.mono (by simp))).mono hB.size)
   go_wp2_with fail
   go_loopw [3,16] (fun p i w2=>∃(m:Nat),m<=2/\i = .int .i64 m/\p = .int .i64 (plU s m pre)/\Bl w w2) (fun _ i _=>2-(RowKit.intOf i).toNat)
   case atStart=>exact ⟨0,Nat.zero_le _,rfl,rfl,HB1.out⟩
   case round=>
    obtain ⟨m,hm,rfl,rfl,hB3⟩:=hrel
    by_cases hm2:m<2
    ·obtain ⟨va,el,ca,hidx,hel,hnext,hoe⟩ : ∃(va:Option Addr) (el:List Nd) (ca:Nat),(∀W,(Instr.index 162 (.agg #[.slice ae s.e.length ce,.slice af s.f.length cf]) (.int .i64 (m:Int))).run Tryz.prog W = .ok (.slice va el.length ca) W)/\Nodes w (.slice va el.length ca) el/\plU s (m+1) pre=plE el m (plU s m pre)/\okE el:=by
      have h01:m=0∨m=1:=by omega
      rcases h01 with rfl | rfl
      ·exact ⟨ae,s.e,ce,fun W=>idx0 _ _ W,HNe.out,by simp [plU],HS.out.1⟩
      ·exact ⟨af,s.f,cf,fun W=>idx1 _ _ W,HNf.out,by simp [plU],HS.out.2⟩
     have HX:=hide hnext
     have HOe:=hide hoe
     have HEl:=hide hel
     generalize plU s m pre=p at HX
     have hm2d:decide ((m:Int)<2)=true:=by rw [decide_eq_true_iff];omega
     by_cases h0:el.length=0
     ·have HY:Hid (plU s (m+1) pre=p):=by show _=_;rw [HX.out,plE,if_pos h0]
      go_wp2_with fail
      go_roundw
      case rel=>exact ⟨m+1,by omega,by go_num,by rw [HY.out],hB3⟩
      case measure=>simp [RowKit.intOf];omega
     ·have hpos:0<el.length:=by omega
      have HY:Hid (plU s (m+1) pre=max p (needL el m)):=by show _=_;rw [HX.out,plE,if_neg h0]
      have HR:=hide fun W (hW:Bl w W)=>raisedJ_any _ el W (HTab.out.below HTab.out.size hW) (HEl.out.below hW) (HOe.out.2 hpos) HOe.out.1
      go_wp2_with fail
      refine (HR.out _ hB3).mono ?_
      rintro e w2 ⟨u,S,rfl,hT,hS,hb2⟩
      have HN:=hide (needE hT (fun B hB=>(hS B hB).2) HOe.out m o_ o_)
      obtain ⟨t,x,rfl⟩:=hT.isI
      generalize needL el m=q at HN HY
      have HMX:Hid ((if p<q then q else p)=plU s (m+1) pre):=by show _=_;rw [HY.out,Int.max_def];split <;> split <;> omega
      have hB4:=hB3.trans (hb2.mono hB3.size)
      go_wp2_with fail
      refine HN.out.mono ?_
      rintro e w3 ⟨rfl,hb3⟩
      have hB5:=hB4.trans (hb3.mono hB4.size)
      go_wp2
      rw [HMX.out]
      refine ⟨⟨m+1,by omega,by simp,rfl,hB5⟩,?_⟩
      simp only [RowKit.intOf]
      omega
    ·obtain rfl:m=2:=by omega
     have HR:Hid (places (body.take (k+1))=plU s 2 pre):=HE.out
     generalize plU s 2 pre=p at HR
     go_wp2_with fail
     go_roundw
     case rel=>exact ⟨k+1,by omega,by go_num,by rw [HR.out],hB3⟩
     case measure=>simp [RowKit.intOf];omega
  ·obtain rfl:k=body.length:=by omega
   obtain ⟨p,hp⟩ : ∃p,p=places (body.take body.length):=⟨_,rfl⟩
   rw [<-hp]
   have HP:Hid (p=places body):=by show _=_;rw [hp,List.take_length]
   go_wp2_with fail
   go_ret
   exact ⟨congrArg (fun v=>Ending.returned (.int .i64 v)) HP.out,hB⟩
structure NamesIs (D:DataW Unit) (ns:List ByteArray):Prop where
 map:Maps.IsMap D
 has : ∀s,Maps.has D (kS s)=true↔s∈ns
 size:Maps.size D=ns.length
 val : ∀s (i:Nat),ns.findIdx? (fun x=>decide (x=s))=some i->D.atKey (kS s) (.lit (.int .i64 0)) = .lit (.int .i64 (4*(i:Int)))
theorem NamesIs.nil:NamesIs (.map []) []:=⟨Maps.isMap_empty,fun s=>by simp [Maps.has],rfl,fun s i h=>by simp at h⟩
theorem NamesIs.put {D:DataW Unit} {ns:List ByteArray} (h:NamesIs D ns) (ht:Maps.Tidy D) (n:ByteArray) (hn:n∉ns):NamesIs (D.put (kS n) (.lit (.int .i64 (4*(ns.length:Int))))) (ns++[n]):=by
 refine ⟨h.map.put _ _,fun s => ?_,?_,fun s i hi => ?_⟩
 ·by_cases hs:n=s
  ·subst hs
   rw [Maps.has_put_same (k:=kS n) h.map trivial]
   simp
  ·rw [Maps.has_put_other (kS_ne (Ne.symm hs)),h.has s]
   simp [Ne.symm hs]
 ·rw [Maps.size_put ht,if_neg (by rw [h.has];exact hn),h.size]
  simp
 ·rw [List.findIdx?_append] at hi
  by_cases hs:n=s
  ·subst hs
   have e:ns.findIdx? (fun x=>decide (x=n))=none:=by
    rw [List.findIdx?_eq_none_iff]
    intro x hx
    simp only [decide_eq_false_iff_not]
    intro e
    exact hn (e ▸ hx)
   rw [e] at hi
   simp [List.findIdx?_cons] at hi
   subst hi
   rw [Maps.atKey_put_same (k:=kS n) h.map trivial]
  ·rw [Maps.atKey_put_other (kS_ne (Ne.symm hs))]
   simp [List.findIdx?_cons,hs] at hi
   exact h.val s i hi
theorem used_any (C b nn:Nat) (D:DataW Unit) (ns:List ByteArray) (w:World) (h0:w.cell? ⟨C,0,none⟩=some (.map (some b)))
  (hown:w.ownsMap Tryz.prog 9 (plainElem (H:=Unit) Tryz.prog 2) b nn D) (hN:NamesIs D ns) (hl:ns.length<=1000000) :
  Calls Tryz.prog 78 #[.pointer (some ⟨C,0,none⟩)] w fun ev w'=>ev = .returned (.int .i64 (4*(ns.length:Int)))/\w'=w:=by
 have hlen:=fun ty=>hown.len Tryz.underlying52 ty
 rw [hN.size] at hlen
 have hw4:IntKind.i64.wrap (4*(ns.length:Int))=4*(ns.length:Int):=by simp [IntKind.wrap,IntKind.bits,IntKind.signed];omega
 go_enter Tryz.func78,Tryz.ntmps78
 go_wp2_with fail
 go_ret
 exact ⟨rfl,rfl⟩
theorem addF_any (C b nn:Nat) (D:DataW Unit) (ns:List ByteArray) (s:ByteArray) (w:World) (h0:w.cell? ⟨C,0,none⟩=some (.map (some b)))
    (hown:w.ownsMap Tryz.prog 9 (plainElem (H:=Unit) Tryz.prog 2) b nn D) (hN:NamesIs D ns) (hl:ns.length<=1000000) (hn:nn<1000000000) (hs:s.size<=maxLen) (hf:s∉ns) (hCb:C≠b) :
    Calls Tryz.prog 77 #[.pointer (some ⟨C,0,none⟩),.string s] w fun ev w'=>ev = .returned (.tuple #[])/\∃D',w'.ownsMap Tryz.prog 9 (plainElem (H:=Unit) Tryz.prog 2) b (nn+1) D'/\NamesIs D' (ns++[s])/\w.drew.grownBy w' (some b):=by
  have HO:Hid (w.ownsMap Tryz.prog 9 (plainElem (H:=Unit) Tryz.prog 2) b nn D):=hown
  have HN:Hid (NamesIs D ns):=hN
  have HS:Hid (s.size<=maxLen):=hs
  have HT:Hid (Maps.Tidy D):=hown.tidy (Maps.string_keyed Tryz.underlying9)
  have hd:w.drew.cell? ⟨C,0,none⟩=some (.map (some b)):=h0
  have HO1:Hid (w.drew.ownsMap Tryz.prog 9 (plainElem (H:=Unit) Tryz.prog 2) b nn D):=hown
  have HU:Hid (Calls Tryz.prog 78 #[.pointer (some ⟨C,0,none⟩)] w.drew fun ev w'=>ev = .returned (.int .i64 (4*(ns.length:Int)))/\w'=w.drew):=used_any C b nn D ns w.drew hd HO1.out hN hl
  obtain ⟨w5,hrun,hown5,hgrow5⟩:=HO1.out.update (Maps.string_keyed Tryz.underlying9) Tryz.underlying52 (by unfold maxLen;omega) (WideMaps.keyOf_string_mk Tryz.underlying9 HS.out) (plainElem_int (H:=Unit) Tryz.underlying2 (a:=4*(ns.length:Int)) (WalkArith.wf_i64 o_))
  have HR:Hid (∃D',w5.ownsMap Tryz.prog 9 (plainElem (H:=Unit) Tryz.prog 2) b (nn+1) D'/\NamesIs D' (ns++[s])/\w.drew.grownBy w5 (some b)):=⟨_,hown5,HN.out.put HT.out s hf,hgrow5⟩
  have h5:w5.cell? ⟨C,0,none⟩=some (.map (some b)):=hgrow5.cell hd (by simpa using hCb)
  clear hown hN hown5 hgrow5
  go_enter Tryz.func77,Tryz.ntmps77
  go_wp2_with fail
  go_region_held3 (fun W=>W.cell? ⟨C,0,none⟩=some (.map (some b))) (go_simp)
    (first
    | ((with_reducible refine Calls.mono HU.out ?_);rintro e w2 ⟨rfl,rfl⟩))
  exact bodyPost_end (v:=.tuple #[]) (by simp [results,Tryz.results77,go_sem]) rfl ⟨rfl,HR.out⟩
end Go.Proofs.YtnpidjamplmgjaaGreatDoor
