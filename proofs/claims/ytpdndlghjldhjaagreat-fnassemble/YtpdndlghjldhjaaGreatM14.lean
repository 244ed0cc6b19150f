import Derived.Test.YtpdndlghjldhjaaGreatM12
import Derived.Deep.RegionHeld3
import Derived.WalkLawsBesides
import Derived.Test.YtpdndlghjldhjaaGreatM13
import Derived.Test.YtpdndlghjldhjaaGreatM03
import Derived.OwnWalk
set_option linter.unusedSectionVars false
variable [Inhabited Go.Proofs.YtpdndlghjldhjaaGreat.Pick]
namespace Go.Proofs.YtpdndlghjldhjaaGreat
set_option linter.unusedVariables false
set_option linter.unusedSimpArgs false
set_option maxRecDepth 100000
set_option maxHeartbeats 16000000
section
open Go.RowKit
theorem store_tab {ops : Array Oper} {rest : List Oper} {op : Oper} {a : Act} {w : World} {Q : Exit → Act → World → Prop} (hgd : op.guard = none) (x y : Operand) (ho : op.op = .store 124 x y)
  (w1 : World) (hw : w = w1.alloc (.cells zeroA 124)) (hx : a.eval x = .pointer (some ⟨w1.heap.size, 0, none⟩)) (hy : a.eval y = .agg tabA)
  (h : ∀ W2 : World, (∀ j, j < 35 → W2.cell? ⟨w1.heap.size, j, none⟩ = tabA[j]?) → Below w1.heap.size w1 W2 → w1.heap.size < W2.heap.size → wpList Tryz.prog ops Q rest (a.put op.dst undef) W2) :
  wpList Tryz.prog ops Q (op :: rest) a w := by
 subst hw
 have ht := there_new w1 zeroA 124 35 (Nat.le_refl 35)
 refine wpList_store_mid hgd 124 x y ho w1.heap.size 0 tabA hx hy ht Tryz.info124 tab_one (h _ ?_ ?_ ?_)
 ·intro j hj
  have hj' : j < tabA.toList.length := hj
  have := World.cell?_setCells_in w1.heap.size tabA.toList 0 _ (fun i hi => (ht i hi).1) j hj'
  rw [Nat.zero_add] at this
  rw [this]
  simp
 ·exact below_setCells (Nat.le_refl _) _ _ _ ((Below.refl _ _).alloc (Nat.le_refl _) _)
 ·have : (w1.alloc (.cells zeroA 124)).heap.size ≤ ((w1.alloc (.cells zeroA 124)).setCells w1.heap.size 0 tabA.toList).heap.size := (below_setCells (B := 0) (Nat.zero_le _) tabA.toList 0 _ (Below.refl _ _)).size
  simp at this
  omega
theorem box5N' {w w' : World} {t : TypeId} {a b c d e : Value} (h : Below (w.heap.size + 1) (w.alloc (.cells #[a, b, c, d, e] t)) w') :
  w'.cell? ⟨w.heap.size, 0, none⟩ = some a ∧ w'.cell? ⟨w.heap.size, 1, none⟩ = some b ∧ w'.cell? ⟨w.heap.size, 2, none⟩ = some c ∧ w'.cell? ⟨w.heap.size, 3, none⟩ = some d ∧ w'.cell? ⟨w.heap.size, 4, none⟩ = some e := by
 refine ⟨?_, ?_, ?_, ?_, ?_⟩ <;> (rw [h.cell (by simp)]; simp)
theorem later {W W' : World} (hb : Below W.heap.size W W') {b o : Nat} {v : Value} (h : W.cell? ⟨b, o, none⟩ = some v) : W'.cell? ⟨b, o, none⟩ = some v := by
 rw [hb.cell (p := ⟨b, o, none⟩) (World.block_lt_of_cell? _ _ h)]; exact h
theorem six_later {W W' : World} {b c j : Nat} {v0 v1 v2 v3 v4 t : Value} (hb : Below W.heap.size W W') 
  (k : W.cell? ⟨b, 0, none⟩ = some v0 ∧ W.cell? ⟨b, 1, none⟩ = some v1 ∧ W.cell? ⟨b, 2, none⟩ = some v2 ∧ W.cell? ⟨b, 3, none⟩ = some v3 ∧ W.cell? ⟨b, 4, none⟩ = some v4) (h : W.cell? ⟨c, j, none⟩ = some t) :
  (W'.cell? ⟨b, 0, none⟩ = some v0 ∧ W'.cell? ⟨b, 1, none⟩ = some v1 ∧ W'.cell? ⟨b, 2, none⟩ = some v2 ∧ W'.cell? ⟨b, 3, none⟩ = some v3 ∧ W'.cell? ⟨b, 4, none⟩ = some v4) ∧ W'.cell? ⟨c, j, none⟩ = some t :=
 ⟨⟨later hb k.1, later hb k.2.1, later hb k.2.2.1, later hb k.2.2.2.1, later hb k.2.2.2.2⟩, later hb h⟩
theorem below_drew' (W : World) : Below W.heap.size W W.drew := (Below.refl _ _).drew
end
section
open Go.RowKit
theorem tabH (op:Int) (h:18<=op/\op<=20):tabA[op.toNat]? = some (.iface 147 (.agg #[.int .u32 (oc op),.int .u32 (f3 op),.int .u32 (f7 op)])):=by
 obtain ⟨n,rfl⟩ : ∃n:Nat,op=n:=⟨op.toNat,by omega⟩
 have h1:n=18∨n=19∨n=20:=by omega
 rcases h1 with rfl | rfl | rfl
 all_goals rfl
theorem mwH (a b c:Int) (W:World):(method 297 147 (.agg #[.int .u32 a,.int .u32 b,.int .u32 c]) "loop.example/s01725/impl.word").run Tryz.prog W = .ok (145,.agg #[.int .u32 a,.int .u32 b,.int .u32 c]) W:=by kernel_rfl
theorem miH (a b c:Int) (W:World):(method 297 147 (.agg #[.int .u32 a,.int .u32 b,.int .u32 c]) "loop.example/s01725/impl.inst").run Tryz.prog W = .ok (144,.agg #[.int .u32 a,.int .u32 b,.int .u32 c]) W:=by kernel_rfl
theorem ieH (op rd s1 s2 im:Int) (w:World) (h:18<=op/\op<=20) (R:Int) (hR1:vH rd s1 s2 im=true->R=oc op+rd % 32*128+f3 op*4096+s1 % 32*32768+im % 32*1048576+f7 op*33554432) (hR0 : ¬vH rd s1 s2 im=true->R=0) :
  Calls Tryz.prog 38 #[.agg #[.int .i64 op,.int .i64 rd,.int .i64 s1,.int .i64 s2,.int .i64 im]] w fun e w'=>e = .returned (.int .u32 R)/\Below w.heap.size w w':=by
 have HH:=hide h
 have hr1:1<=op:=by omega
 have hr2:op<=34:=by omega
 have hr0:0<=op:=by omega
 have hr3:op<35:=by omega
 obtain ⟨X,hX⟩ : ∃X,X=oc op+rd % 32*128+f3 op*4096+s1 % 32*32768+im % 32*1048576+f7 op*33554432:=⟨_,rfl⟩
 have hrt:=rtH (oc op) (f3 op) (f7 op) rd s1 s2 im X (oc_bd op) (f3_bd op) (f7_bd op) hX
 obtain ⟨b1,hb1⟩ : ∃b,b=X / 128 % 32:=⟨_,rfl⟩
 obtain ⟨b2,hb2⟩ : ∃b,b=X / 32768 % 32:=⟨_,rfl⟩
 obtain ⟨b4,hb4⟩ : ∃b,b=X / 1048576 % 32:=⟨_,rfl⟩
 rw [<-hb1,<-hb2,<-hb4] at hrt
 have HRT:Hid _:=hrt.2
 have HI:Hid (∀W:World,Calls Tryz.prog 144 #[.agg #[.int .u32 (oc op),.int .u32 (f3 op),.int .u32 (f7 op)],.int .u32 X] W fun e w'=>e = .returned (.agg #[.int .i64 0,.int .i64 b1,.int .i64 b2,.int .i64 0,.int .i64 b4])/\Bl W w'):=by
  intro W
  rw [hb1,hb2,hb4]
  exact instH _ _ _ X W hrt.1
 have HW:Hid (∀W:World,Calls Tryz.prog 145 #[.agg #[.int .u32 (oc op),.int .u32 (f3 op),.int .u32 (f7 op)],.agg #[.int .i64 op,.int .i64 rd,.int .i64 s1,.int .i64 s2,.int .i64 im]] W fun e w'=>e = .returned (.int .u32 X)/\Bl W w'):=by
  intro W
  rw [hX]
  exact wordH _ _ _ _ _ _ _ _ W (oc_bd op) (f3_bd op) (f7_bd op)
 have HR1:Hid (vH rd s1 s2 im=true->X=R):=fun hv=>by rw [hR1 hv,hX]
 have HR0:Hid (¬vH rd s1 s2 im=true->0=R):=fun hv=>(hR0 hv).symm
 have mw:=mwH (oc op) (f3 op) (f7 op)
 have mi:=miH (oc op) (f3 op) (f7 op)
 clear h hrt hX hR1 hR0 hb1 hb2 hb4
 go_enter Tryz.func38,Tryz.ntmps38
 go_wp2_with fail
 refine (opShapes_any _).mono ?_
 rintro e w1 ⟨rfl,hb1⟩
 simp only [World.size_alloc] at hb1
 have z1:=hb1.size
 simp only [World.size_alloc] at z1
 go_wp2_with (refine store_tab rfl _ _ rfl w1 rfl rfl rfl ?_;intro W2 hT hB2 hs2;have hb12:=hb1.trans (hB2.mono z1);have k2:=box5N' hb12;have t2:=(hT op.toNat (by omega)).trans (tabH op HH.out);clear hT hB2 hb1)
 simp only [Act.put]
 go_region_held3 (fun W=>W.cell? ⟨w.heap.size,0,none⟩=some (.int .i64 op)/\W.cell? ⟨w.heap.size,1,none⟩=some (.int .i64 rd)/\W.cell? ⟨w.heap.size,2,none⟩=some (.int .i64 s1)/\W.cell? ⟨w.heap.size,3,none⟩=some (.int .i64 s2)/\W.cell? ⟨w.heap.size,4,none⟩=some (.int .i64 im) /\
   W.cell? ⟨w1.heap.size,op.toNat,none⟩=some (.iface 147 (.agg #[.int .u32 (oc op),.int .u32 (f3 op),.int .u32 (f7 op)]))) (go_simp)
  (first
  | (go_at_call 145;refine (HW.out _).mono ?_;rintro e w3 ⟨rfl,hb3⟩;have q3:=six_later (W:=W2.drew) hb3 k2 t2))
 go_wp2_with fail
 refine (HI.out _).mono ?_
 rintro e w4 ⟨rfl,hb4⟩
 have q4:=six_later hb4 q3.1 q3.2
 have z3:W2.heap.size<=w3.heap.size:=hb3.size
 have z4:w.heap.size<w4.heap.size:=by have:=hb4.size;omega
 have HB:Hid (Bl w w4):=(((Below.refl _ _).alloc (Nat.le_refl w.heap.size) _).trans (hb12.mono (by omega))).trans (((below_drew' W2).trans hb3).mono (by omega) |>.trans (hb4.mono (by omega)))
 clear q3 hb3 hb4 hb12 k2 t2 HI HW
 go_wp2
 all_goals go_ret
 all_goals refine ⟨retN_int ?_,?_⟩
 all_goals first
  | exact HR1.out (HRT.out.1 (by omega))
  | exact HR0.out (fun hv=>by have:=HRT.out.2 hv;omega)
  | exact HB.out.alloc (by omega) _
theorem tabS (op:Int) (h:op=11):tabA[op.toNat]? = some (.iface 145 (.agg #[.int .u32 (oc op),.int .u32 (f3 op)])):=by
 subst h
 rfl
theorem mwS (a b:Int) (W:World):(method 297 145 (.agg #[.int .u32 a,.int .u32 b]) "loop.example/s01725/impl.word").run Tryz.prog W = .ok (143,.agg #[.int .u32 a,.int .u32 b]) W:=by kernel_rfl
theorem miS (a b:Int) (W:World):(method 297 145 (.agg #[.int .u32 a,.int .u32 b]) "loop.example/s01725/impl.inst").run Tryz.prog W = .ok (142,.agg #[.int .u32 a,.int .u32 b]) W:=by kernel_rfl
theorem ieS (op rd s1 s2 im:Int) (w:World) (h:op=11) (R:Int) (hR1:vS rd s1 s2 im=true->R=oc op+im % 32*128+f3 op*4096+s1 % 32*32768+s2 % 32*1048576+im / 32 % 128*33554432) (hR0 : ¬vS rd s1 s2 im=true->R=0) :
  Calls Tryz.prog 38 #[.agg #[.int .i64 op,.int .i64 rd,.int .i64 s1,.int .i64 s2,.int .i64 im]] w fun e w'=>e = .returned (.int .u32 R)/\Below w.heap.size w w':=by
 have HH:=hide h
 have hr1:1<=op:=by omega
 have hr2:op<=34:=by omega
 have hr0:0<=op:=by omega
 have hr3:op<35:=by omega
 obtain ⟨X,hX⟩ : ∃X,X=oc op+im % 32*128+f3 op*4096+s1 % 32*32768+s2 % 32*1048576+im / 32 % 128*33554432:=⟨_,rfl⟩
 have hrt:=rtS (oc op) (f3 op) rd s1 s2 im X (oc_bd op) (f3_bd op) hX
 obtain ⟨b2,hb2⟩ : ∃b,b=X / 32768 % 32:=⟨_,rfl⟩
 obtain ⟨b3,hb3⟩ : ∃b,b=X / 1048576 % 32:=⟨_,rfl⟩
 obtain ⟨b4,hb4⟩ : ∃b,b=sg (X / 128 % 32+X / 33554432 % 128*32) 2048 4096:=⟨_,rfl⟩
 rw [<-hb2,<-hb3,<-hb4] at hrt
 have HRT:Hid _:=hrt.2
 have HI:Hid (∀W:World,Calls Tryz.prog 142 #[.agg #[.int .u32 (oc op),.int .u32 (f3 op)],.int .u32 X] W fun e w'=>e = .returned (.agg #[.int .i64 0,.int .i64 0,.int .i64 b2,.int .i64 b3,.int .i64 b4])/\Bl W w'):=by
  intro W
  rw [hb2,hb3,hb4]
  exact instS _ _ X W hrt.1
 have HW:Hid (∀W:World,Calls Tryz.prog 143 #[.agg #[.int .u32 (oc op),.int .u32 (f3 op)],.agg #[.int .i64 op,.int .i64 rd,.int .i64 s1,.int .i64 s2,.int .i64 im]] W fun e w'=>e = .returned (.int .u32 X)/\Bl W w'):=by
  intro W
  rw [hX]
  exact wordS _ _ _ _ _ _ _ W (oc_bd op) (f3_bd op)
 have HR1:Hid (vS rd s1 s2 im=true->X=R):=fun hv=>by rw [hR1 hv,hX]
 have HR0:Hid (¬vS rd s1 s2 im=true->0=R):=fun hv=>(hR0 hv).symm
 have mw:=mwS (oc op) (f3 op)
 have mi:=miS (oc op) (f3 op)
 clear h hrt hX hR1 hR0 hb2 hb3 hb4
 go_enter Tryz.func38,Tryz.ntmps38
 go_wp2_with fail
 refine (opShapes_any _).mono ?_
 rintro e w1 ⟨rfl,hb1⟩
 simp only [World.size_alloc] at hb1
 have z1:=hb1.size
 simp only [World.size_alloc] at z1
 go_wp2_with (refine store_tab rfl _ _ rfl w1 rfl rfl rfl ?_;intro W2 hT hB2 hs2;have hb12:=hb1.trans (hB2.mono z1);have k2:=box5N' hb12;have t2:=(hT op.toNat (by omega)).trans (tabS op HH.out);clear hT hB2 hb1)
 simp only [Act.put]
 go_region_held3 (fun W=>W.cell? ⟨w.heap.size,0,none⟩=some (.int .i64 op)/\W.cell? ⟨w.heap.size,1,none⟩=some (.int .i64 rd)/\W.cell? ⟨w.heap.size,2,none⟩=some (.int .i64 s1)/\W.cell? ⟨w.heap.size,3,none⟩=some (.int .i64 s2)/\W.cell? ⟨w.heap.size,4,none⟩=some (.int .i64 im) /\
   W.cell? ⟨w1.heap.size,op.toNat,none⟩=some (.iface 145 (.agg #[.int .u32 (oc op),.int .u32 (f3 op)]))) (go_simp)
  (first
  | (go_at_call 143;refine (HW.out _).mono ?_;rintro e w3 ⟨rfl,hb3⟩;have q3:=six_later (W:=W2.drew) hb3 k2 t2))
 go_wp2_with fail
 refine (HI.out _).mono ?_
 rintro e w4 ⟨rfl,hb4⟩
 have q4:=six_later hb4 q3.1 q3.2
 have z3:W2.heap.size<=w3.heap.size:=hb3.size
 have z4:w.heap.size<w4.heap.size:=by have:=hb4.size;omega
 have HB:Hid (Bl w w4):=(((Below.refl _ _).alloc (Nat.le_refl w.heap.size) _).trans (hb12.mono (by omega))).trans (((below_drew' W2).trans hb3).mono (by omega) |>.trans (hb4.mono (by omega)))
 clear q3 hb3 hb4 hb12 k2 t2 HI HW
 go_wp2
 all_goals go_ret
 all_goals refine ⟨retN_int ?_,?_⟩
 all_goals first
  | exact HR1.out (HRT.out.1 (by omega))
  | exact HR0.out (fun hv=>by have:=HRT.out.2 hv;omega)
  | exact HB.out.alloc (by omega) _
end
section
open Go.RowKit
theorem tabB (op:Int) (h:4<=op/\op<=9):tabA[op.toNat]? = some (.iface 144 (.agg #[.int .u32 (oc op),.int .u32 (f3 op)])):=by
 obtain ⟨n,rfl⟩ : ∃n:Nat,op=n:=⟨op.toNat,by omega⟩
 have h1:n=4∨n=5∨n=6∨n=7∨n=8∨n=9:=by omega
 rcases h1 with rfl | rfl | rfl | rfl | rfl | rfl
 all_goals rfl
theorem mwB (a b:Int) (W:World):(method 297 144 (.agg #[.int .u32 a,.int .u32 b]) "loop.example/s01725/impl.word").run Tryz.prog W = .ok (139,.agg #[.int .u32 a,.int .u32 b]) W:=by kernel_rfl
theorem miB (a b:Int) (W:World):(method 297 144 (.agg #[.int .u32 a,.int .u32 b]) "loop.example/s01725/impl.inst").run Tryz.prog W = .ok (138,.agg #[.int .u32 a,.int .u32 b]) W:=by kernel_rfl
theorem ieB (op rd s1 s2 im:Int) (w:World) (h:4<=op/\op<=9) (R:Int) (hR1:vB rd s1 s2 im=true->R=oc op+im / 2048 % 2*128+im / 2 % 16*256+f3 op*4096+s1 % 32*32768+s2 % 32*1048576+im / 32 % 64*33554432+im / 4096 % 2*2147483648) (hR0 : ¬vB rd s1 s2 im=true->R=0) :
  Calls Tryz.prog 38 #[.agg #[.int .i64 op,.int .i64 rd,.int .i64 s1,.int .i64 s2,.int .i64 im]] w fun e w'=>e = .returned (.int .u32 R)/\Below w.heap.size w w':=by
 have HH:=hide h
 have hr1:1<=op:=by omega
 have hr2:op<=34:=by omega
 have hr0:0<=op:=by omega
 have hr3:op<35:=by omega
 obtain ⟨X,hX⟩ : ∃X,X=oc op+im / 2048 % 2*128+im / 2 % 16*256+f3 op*4096+s1 % 32*32768+s2 % 32*1048576+im / 32 % 64*33554432+im / 4096 % 2*2147483648:=⟨_,rfl⟩
 have hrt:=rtB (oc op) (f3 op) rd s1 s2 im X (oc_bd op) (f3_bd op) hX
 obtain ⟨b2,hb2⟩ : ∃b,b=X / 32768 % 32:=⟨_,rfl⟩
 obtain ⟨b3,hb3⟩ : ∃b,b=X / 1048576 % 32:=⟨_,rfl⟩
 obtain ⟨b4,hb4⟩ : ∃b,b=sg (X / 256 % 16*2+X / 33554432 % 64*32+X / 128 % 2*2048+X / 2147483648 % 2*4096) 4096 8192:=⟨_,rfl⟩
 rw [<-hb2,<-hb3,<-hb4] at hrt
 have HRT:Hid _:=hrt.2
 have HI:Hid (∀W:World,Calls Tryz.prog 138 #[.agg #[.int .u32 (oc op),.int .u32 (f3 op)],.int .u32 X] W fun e w'=>e = .returned (.agg #[.int .i64 0,.int .i64 0,.int .i64 b2,.int .i64 b3,.int .i64 b4])/\Bl W w'):=by
  intro W
  rw [hb2,hb3,hb4]
  exact instB _ _ X W hrt.1
 have HW:Hid (∀W:World,Calls Tryz.prog 139 #[.agg #[.int .u32 (oc op),.int .u32 (f3 op)],.agg #[.int .i64 op,.int .i64 rd,.int .i64 s1,.int .i64 s2,.int .i64 im]] W fun e w'=>e = .returned (.int .u32 X)/\Bl W w'):=by
  intro W
  rw [hX]
  exact wordB _ _ _ _ _ _ _ W (oc_bd op) (f3_bd op)
 have HR1:Hid (vB rd s1 s2 im=true->X=R):=fun hv=>by rw [hR1 hv,hX]
 have HR0:Hid (¬vB rd s1 s2 im=true->0=R):=fun hv=>(hR0 hv).symm
 have mw:=mwB (oc op) (f3 op)
 have mi:=miB (oc op) (f3 op)
 clear h hrt hX hR1 hR0 hb2 hb3 hb4
 go_enter Tryz.func38,Tryz.ntmps38
 go_wp2_with fail
 refine (opShapes_any _).mono ?_
 rintro e w1 ⟨rfl,hb1⟩
 simp only [World.size_alloc] at hb1
 have z1:=hb1.size
 simp only [World.size_alloc] at z1
 go_wp2_with (refine store_tab rfl _ _ rfl w1 rfl rfl rfl ?_;intro W2 hT hB2 hs2;have hb12:=hb1.trans (hB2.mono z1);have k2:=box5N' hb12;have t2:=(hT op.toNat (by omega)).trans (tabB op HH.out);clear hT hB2 hb1)
 simp only [Act.put]
 go_region_held3 (fun W=>W.cell? ⟨w.heap.size,0,none⟩=some (.int .i64 op)/\W.cell? ⟨w.heap.size,1,none⟩=some (.int .i64 rd)/\W.cell? ⟨w.heap.size,2,none⟩=some (.int .i64 s1)/\W.cell? ⟨w.heap.size,3,none⟩=some (.int .i64 s2)/\W.cell? ⟨w.heap.size,4,none⟩=some (.int .i64 im) /\
   W.cell? ⟨w1.heap.size,op.toNat,none⟩=some (.iface 144 (.agg #[.int .u32 (oc op),.int .u32 (f3 op)]))) (go_simp)
  (first
  | (go_at_call 139;refine (HW.out _).mono ?_;rintro e w3 ⟨rfl,hb3⟩;have q3:=six_later (W:=W2.drew) hb3 k2 t2))
 go_wp2_with fail
 refine (HI.out _).mono ?_
 rintro e w4 ⟨rfl,hb4⟩
 have q4:=six_later hb4 q3.1 q3.2
 have z3:W2.heap.size<=w3.heap.size:=hb3.size
 have z4:w.heap.size<w4.heap.size:=by have:=hb4.size;omega
 have HB:Hid (Bl w w4):=(((Below.refl _ _).alloc (Nat.le_refl w.heap.size) _).trans (hb12.mono (by omega))).trans (((below_drew' W2).trans hb3).mono (by omega) |>.trans (hb4.mono (by omega)))
 clear q3 hb3 hb4 hb12 k2 t2 HI HW
 go_wp2
 all_goals go_ret
 all_goals refine ⟨retN_int ?_,?_⟩
 all_goals first
  | exact HR1.out (HRT.out.1 (by omega))
  | exact HR0.out (fun hv=>by have:=HRT.out.2 hv;omega)
  | exact HB.out.alloc (by omega) _
theorem tabU (op:Int) (h:op=1):tabA[op.toNat]? = some (.iface 140 (.agg #[.int .u32 (oc op)])):=by
 subst h
 rfl
theorem mwU (a:Int) (W:World):(method 297 140 (.agg #[.int .u32 a]) "loop.example/s01725/impl.word").run Tryz.prog W = .ok (126,.agg #[.int .u32 a]) W:=by kernel_rfl
theorem miU (a:Int) (W:World):(method 297 140 (.agg #[.int .u32 a]) "loop.example/s01725/impl.inst").run Tryz.prog W = .ok (125,.agg #[.int .u32 a]) W:=by kernel_rfl
theorem ieU (op rd s1 s2 im:Int) (w:World) (h:op=1) (R:Int) (hR1:vU rd s1 s2 im=true->R=oc op+rd % 32*128+im % 1048576*4096) (hR0 : ¬vU rd s1 s2 im=true->R=0) :
  Calls Tryz.prog 38 #[.agg #[.int .i64 op,.int .i64 rd,.int .i64 s1,.int .i64 s2,.int .i64 im]] w fun e w'=>e = .returned (.int .u32 R)/\Below w.heap.size w w':=by
 have HH:=hide h
 have hr1:1<=op:=by omega
 have hr2:op<=34:=by omega
 have hr0:0<=op:=by omega
 have hr3:op<35:=by omega
 obtain ⟨X,hX⟩ : ∃X,X=oc op+rd % 32*128+im % 1048576*4096:=⟨_,rfl⟩
 have hrt:=rtU (oc op) rd s1 s2 im X (oc_bd op) hX
 obtain ⟨b1,hb1⟩ : ∃b,b=X / 128 % 32:=⟨_,rfl⟩
 obtain ⟨b4,hb4⟩ : ∃b,b=X / 4096 % 1048576:=⟨_,rfl⟩
 rw [<-hb1,<-hb4] at hrt
 have HRT:Hid _:=hrt.2
 have HI:Hid (∀W:World,Calls Tryz.prog 125 #[.agg #[.int .u32 (oc op)],.int .u32 X] W fun e w'=>e = .returned (.agg #[.int .i64 0,.int .i64 b1,.int .i64 0,.int .i64 0,.int .i64 b4])/\Bl W w'):=by
  intro W
  rw [hb1,hb4]
  exact instU _ X W hrt.1
 have HW:Hid (∀W:World,Calls Tryz.prog 126 #[.agg #[.int .u32 (oc op)],.agg #[.int .i64 op,.int .i64 rd,.int .i64 s1,.int .i64 s2,.int .i64 im]] W fun e w'=>e = .returned (.int .u32 X)/\Bl W w'):=by
  intro W
  rw [hX]
  exact wordU _ _ _ _ _ _ W (oc_bd op)
 have HR1:Hid (vU rd s1 s2 im=true->X=R):=fun hv=>by rw [hR1 hv,hX]
 have HR0:Hid (¬vU rd s1 s2 im=true->0=R):=fun hv=>(hR0 hv).symm
 have mw:=mwU (oc op)
 have mi:=miU (oc op)
 clear h hrt hX hR1 hR0 hb1 hb4
 go_enter Tryz.func38,Tryz.ntmps38
 go_wp2_with fail
 refine (opShapes_any _).mono ?_
 rintro e w1 ⟨rfl,hb1⟩
 simp only [World.size_alloc] at hb1
 have z1:=hb1.size
 simp only [World.size_alloc] at z1
 go_wp2_with (refine store_tab rfl _ _ rfl w1 rfl rfl rfl ?_;intro W2 hT hB2 hs2;have hb12:=hb1.trans (hB2.mono z1);have k2:=box5N' hb12;have t2:=(hT op.toNat (by omega)).trans (tabU op HH.out);clear hT hB2 hb1)
 simp only [Act.put]
 go_region_held3 (fun W=>W.cell? ⟨w.heap.size,0,none⟩=some (.int .i64 op)/\W.cell? ⟨w.heap.size,1,none⟩=some (.int .i64 rd)/\W.cell? ⟨w.heap.size,2,none⟩=some (.int .i64 s1)/\W.cell? ⟨w.heap.size,3,none⟩=some (.int .i64 s2)/\W.cell? ⟨w.heap.size,4,none⟩=some (.int .i64 im) /\
   W.cell? ⟨w1.heap.size,op.toNat,none⟩=some (.iface 140 (.agg #[.int .u32 (oc op)]))) (go_simp)
  (first
  | (go_at_call 126;refine (HW.out _).mono ?_;rintro e w3 ⟨rfl,hb3⟩;have q3:=six_later (W:=W2.drew) hb3 k2 t2))
 go_wp2_with fail
 refine (HI.out _).mono ?_
 rintro e w4 ⟨rfl,hb4⟩
 have q4:=six_later hb4 q3.1 q3.2
 have z3:W2.heap.size<=w3.heap.size:=hb3.size
 have z4:w.heap.size<w4.heap.size:=by have:=hb4.size;omega
 have HB:Hid (Bl w w4):=(((Below.refl _ _).alloc (Nat.le_refl w.heap.size) _).trans (hb12.mono (by omega))).trans (((below_drew' W2).trans hb3).mono (by omega) |>.trans (hb4.mono (by omega)))
 clear q3 hb3 hb4 hb12 k2 t2 HI HW
 go_wp2
 all_goals go_ret
 all_goals refine ⟨retN_int ?_,?_⟩
 all_goals first
  | exact HR1.out (HRT.out.1 (by omega))
  | exact HR0.out (fun hv=>by have:=HRT.out.2 hv;omega)
  | exact HB.out.alloc (by omega) _
end
section
open Go.RowKit
theorem tabJ (op:Int) (h:op=2):tabA[op.toNat]? = some (.iface 141 (.agg #[.int .u32 (oc op)])):=by
 subst h
 rfl
theorem mwJ (a:Int) (W:World):(method 297 141 (.agg #[.int .u32 a]) "loop.example/s01725/impl.word").run Tryz.prog W = .ok (131,.agg #[.int .u32 a]) W:=by kernel_rfl
theorem miJ (a:Int) (W:World):(method 297 141 (.agg #[.int .u32 a]) "loop.example/s01725/impl.inst").run Tryz.prog W = .ok (130,.agg #[.int .u32 a]) W:=by kernel_rfl
theorem ieJ (op rd s1 s2 im:Int) (w:World) (h:op=2) (R:Int) (hR1:vJ rd s1 s2 im=true->R=oc op+rd % 32*128+im / 4096 % 256*4096+im / 2048 % 2*1048576+im / 2 % 1024*2097152+im / 1048576 % 2*2147483648) (hR0 : ¬vJ rd s1 s2 im=true->R=0) :
  Calls Tryz.prog 38 #[.agg #[.int .i64 op,.int .i64 rd,.int .i64 s1,.int .i64 s2,.int .i64 im]] w fun e w'=>e = .returned (.int .u32 R)/\Below w.heap.size w w':=by
 have HH:=hide h
 have hr1:1<=op:=by omega
 have hr2:op<=34:=by omega
 have hr0:0<=op:=by omega
 have hr3:op<35:=by omega
 obtain ⟨X,hX⟩ : ∃X,X=oc op+rd % 32*128+im / 4096 % 256*4096+im / 2048 % 2*1048576+im / 2 % 1024*2097152+im / 1048576 % 2*2147483648:=⟨_,rfl⟩
 have hrt:=rtJ (oc op) rd s1 s2 im X (oc_bd op) hX
 obtain ⟨b1,hb1⟩ : ∃b,b=X / 128 % 32:=⟨_,rfl⟩
 obtain ⟨b4,hb4⟩ : ∃b,b=sg (X / 2097152 % 1024*2+X / 1048576 % 2*2048+X / 4096 % 256*4096+X / 2147483648 % 2*1048576) 1048576 2097152:=⟨_,rfl⟩
 rw [<-hb1,<-hb4] at hrt
 have HRT:Hid _:=hrt.2
 have HI:Hid (∀W:World,Calls Tryz.prog 130 #[.agg #[.int .u32 (oc op)],.int .u32 X] W fun e w'=>e = .returned (.agg #[.int .i64 0,.int .i64 b1,.int .i64 0,.int .i64 0,.int .i64 b4])/\Bl W w'):=by
  intro W
  rw [hb1,hb4]
  exact instJ _ X W hrt.1
 have HW:Hid (∀W:World,Calls Tryz.prog 131 #[.agg #[.int .u32 (oc op)],.agg #[.int .i64 op,.int .i64 rd,.int .i64 s1,.int .i64 s2,.int .i64 im]] W fun e w'=>e = .returned (.int .u32 X)/\Bl W w'):=by
  intro W
  rw [hX]
  exact wordJ _ _ _ _ _ _ W (oc_bd op)
 have HR1:Hid (vJ rd s1 s2 im=true->X=R):=fun hv=>by rw [hR1 hv,hX]
 have HR0:Hid (¬vJ rd s1 s2 im=true->0=R):=fun hv=>(hR0 hv).symm
 have mw:=mwJ (oc op)
 have mi:=miJ (oc op)
 clear h hrt hX hR1 hR0 hb1 hb4
 go_enter Tryz.func38,Tryz.ntmps38
 go_wp2_with fail
 refine (opShapes_any _).mono ?_
 rintro e w1 ⟨rfl,hb1⟩
 simp only [World.size_alloc] at hb1
 have z1:=hb1.size
 simp only [World.size_alloc] at z1
 go_wp2_with (refine store_tab rfl _ _ rfl w1 rfl rfl rfl ?_;intro W2 hT hB2 hs2;have hb12:=hb1.trans (hB2.mono z1);have k2:=box5N' hb12;have t2:=(hT op.toNat (by omega)).trans (tabJ op HH.out);clear hT hB2 hb1)
 simp only [Act.put]
 go_region_held3 (fun W=>W.cell? ⟨w.heap.size,0,none⟩=some (.int .i64 op)/\W.cell? ⟨w.heap.size,1,none⟩=some (.int .i64 rd)/\W.cell? ⟨w.heap.size,2,none⟩=some (.int .i64 s1)/\W.cell? ⟨w.heap.size,3,none⟩=some (.int .i64 s2)/\W.cell? ⟨w.heap.size,4,none⟩=some (.int .i64 im) /\
   W.cell? ⟨w1.heap.size,op.toNat,none⟩=some (.iface 141 (.agg #[.int .u32 (oc op)]))) (go_simp)
  (first
  | (go_at_call 131;refine (HW.out _).mono ?_;rintro e w3 ⟨rfl,hb3⟩;have q3:=six_later (W:=W2.drew) hb3 k2 t2))
 go_wp2_with fail
 refine (HI.out _).mono ?_
 rintro e w4 ⟨rfl,hb4⟩
 have q4:=six_later hb4 q3.1 q3.2
 have z3:W2.heap.size<=w3.heap.size:=hb3.size
 have z4:w.heap.size<w4.heap.size:=by have:=hb4.size;omega
 have HB:Hid (Bl w w4):=(((Below.refl _ _).alloc (Nat.le_refl w.heap.size) _).trans (hb12.mono (by omega))).trans (((below_drew' W2).trans hb3).mono (by omega) |>.trans (hb4.mono (by omega)))
 clear q3 hb3 hb4 hb12 k2 t2 HI HW
 go_wp2
 all_goals go_ret
 all_goals refine ⟨retN_int ?_,?_⟩
 all_goals first
  | exact HR1.out (HRT.out.1 (by omega))
  | exact HR0.out (fun hv=>by have:=HRT.out.2 hv;omega)
  | exact HB.out.alloc (by omega) _
theorem tabE (op:Int) (h:op=34):tabA[op.toNat]? = some (.iface 149 (.agg #[.int .u32 (oc op)])):=by
 subst h
 rfl
theorem mwE (a:Int) (W:World):(method 297 149 (.agg #[.int .u32 a]) "loop.example/s01725/impl.word").run Tryz.prog W = .ok (149,.agg #[.int .u32 a]) W:=by kernel_rfl
theorem miE (a:Int) (W:World):(method 297 149 (.agg #[.int .u32 a]) "loop.example/s01725/impl.inst").run Tryz.prog W = .ok (148,.agg #[.int .u32 a]) W:=by kernel_rfl
theorem ieE (op rd s1 s2 im:Int) (w:World) (h:op=34) (R:Int) (hR1:vE rd s1 s2 im=true->R=oc op) (hR0 : ¬vE rd s1 s2 im=true->R=0) :
  Calls Tryz.prog 38 #[.agg #[.int .i64 op,.int .i64 rd,.int .i64 s1,.int .i64 s2,.int .i64 im]] w fun e w'=>e = .returned (.int .u32 R)/\Below w.heap.size w w':=by
 have HH:=hide h
 have hr1:1<=op:=by omega
 have hr2:op<=34:=by omega
 have hr0:0<=op:=by omega
 have hr3:op<35:=by omega
 obtain ⟨X,hX⟩ : ∃X,X=oc op:=⟨_,rfl⟩
 have hrt:=rtE (oc op) rd s1 s2 im X (oc_bd op) hX
 have HRT:Hid _:=hrt.2
 have HI:Hid (∀W:World,Calls Tryz.prog 148 #[.agg #[.int .u32 (oc op)],.int .u32 X] W fun e w'=>e = .returned (.agg #[.int .i64 0,.int .i64 0,.int .i64 0,.int .i64 0,.int .i64 0])/\Bl W w'):=by
  intro W
  skip
  exact instE _ X W hrt.1
 have HW:Hid (∀W:World,Calls Tryz.prog 149 #[.agg #[.int .u32 (oc op)],.agg #[.int .i64 op,.int .i64 rd,.int .i64 s1,.int .i64 s2,.int .i64 im]] W fun e w'=>e = .returned (.int .u32 X)/\Bl W w'):=by
  intro W
  rw [hX]
  exact wordE _ _ _ _ _ _ W (oc_bd op)
 have HR1:Hid (vE rd s1 s2 im=true->X=R):=fun hv=>by rw [hR1 hv,hX]
 have HR0:Hid (¬vE rd s1 s2 im=true->0=R):=fun hv=>(hR0 hv).symm
 have mw:=mwE (oc op)
 have mi:=miE (oc op)
 clear h hrt hX hR1 hR0
 go_enter Tryz.func38,Tryz.ntmps38
 go_wp2_with fail
 refine (opShapes_any _).mono ?_
 rintro e w1 ⟨rfl,hb1⟩
 simp only [World.size_alloc] at hb1
 have z1:=hb1.size
 simp only [World.size_alloc] at z1
 go_wp2_with (refine store_tab rfl _ _ rfl w1 rfl rfl rfl ?_;intro W2 hT hB2 hs2;have hb12:=hb1.trans (hB2.mono z1);have k2:=box5N' hb12;have t2:=(hT op.toNat (by omega)).trans (tabE op HH.out);clear hT hB2 hb1)
 simp only [Act.put]
 go_region_held3 (fun W=>W.cell? ⟨w.heap.size,0,none⟩=some (.int .i64 op)/\W.cell? ⟨w.heap.size,1,none⟩=some (.int .i64 rd)/\W.cell? ⟨w.heap.size,2,none⟩=some (.int .i64 s1)/\W.cell? ⟨w.heap.size,3,none⟩=some (.int .i64 s2)/\W.cell? ⟨w.heap.size,4,none⟩=some (.int .i64 im) /\
   W.cell? ⟨w1.heap.size,op.toNat,none⟩=some (.iface 149 (.agg #[.int .u32 (oc op)]))) (go_simp)
  (first
  | (go_at_call 149;refine (HW.out _).mono ?_;rintro e w3 ⟨rfl,hb3⟩;have q3:=six_later (W:=W2.drew) hb3 k2 t2))
 go_wp2_with fail
 refine (HI.out _).mono ?_
 rintro e w4 ⟨rfl,hb4⟩
 have q4:=six_later hb4 q3.1 q3.2
 have z3:W2.heap.size<=w3.heap.size:=hb3.size
 have z4:w.heap.size<w4.heap.size:=by have:=hb4.size;omega
 have HB:Hid (Bl w w4):=(((Below.refl _ _).alloc (Nat.le_refl w.heap.size) _).trans (hb12.mono (by omega))).trans (((below_drew' W2).trans hb3).mono (by omega) |>.trans (hb4.mono (by omega)))
 clear q3 hb3 hb4 hb12 k2 t2 HI HW
 go_wp2
 all_goals go_ret
 all_goals refine ⟨retN_int ?_,?_⟩
 all_goals first
  | exact HR1.out (HRT.out.1 (by omega))
  | exact HR0.out (fun hv=>by have:=HRT.out.2 hv;omega)
  | exact HB.out.alloc (by omega) _
end
section
open Go.RowKit
theorem tabR (op:Int) (h:21<=op/\op<=33):tabA[op.toNat]? = some (.iface 148 (.agg #[.int .u32 (oc op),.int .u32 (f3 op),.int .u32 (f7 op)])):=by
 obtain ⟨n,rfl⟩ : ∃n:Nat,op=n:=⟨op.toNat,by omega⟩
 have h1:n=21∨n=22∨n=23∨n=24∨n=25∨n=26∨n=27∨n=28∨n=29∨n=30∨n=31∨n=32∨n=33:=by omega
 rcases h1 with rfl | rfl | rfl | rfl | rfl | rfl | rfl | rfl | rfl | rfl | rfl | rfl | rfl
 all_goals rfl
theorem mwR (a b c:Int) (W:World):(method 297 148 (.agg #[.int .u32 a,.int .u32 b,.int .u32 c]) "loop.example/s01725/impl.word").run Tryz.prog W = .ok (147,.agg #[.int .u32 a,.int .u32 b,.int .u32 c]) W:=by kernel_rfl
theorem miR (a b c:Int) (W:World):(method 297 148 (.agg #[.int .u32 a,.int .u32 b,.int .u32 c]) "loop.example/s01725/impl.inst").run Tryz.prog W = .ok (146,.agg #[.int .u32 a,.int .u32 b,.int .u32 c]) W:=by kernel_rfl
theorem ieR (op rd s1 s2 im:Int) (w:World) (h:21<=op/\op<=33) (R:Int) (hR1:vR rd s1 s2 im=true->R=oc op+rd % 32*128+f3 op*4096+s1 % 32*32768+s2 % 32*1048576+f7 op*33554432) (hR0 : ¬vR rd s1 s2 im=true->R=0) :
  Calls Tryz.prog 38 #[.agg #[.int .i64 op,.int .i64 rd,.int .i64 s1,.int .i64 s2,.int .i64 im]] w fun e w'=>e = .returned (.int .u32 R)/\Below w.heap.size w w':=by
 have HH:=hide h
 have hr1:1<=op:=by omega
 have hr2:op<=34:=by omega
 have hr0:0<=op:=by omega
 have hr3:op<35:=by omega
 obtain ⟨X,hX⟩ : ∃X,X=oc op+rd % 32*128+f3 op*4096+s1 % 32*32768+s2 % 32*1048576+f7 op*33554432:=⟨_,rfl⟩
 have hrt:=rtR (oc op) (f3 op) (f7 op) rd s1 s2 im X (oc_bd op) (f3_bd op) (f7_bd op) hX
 obtain ⟨b1,hb1⟩ : ∃b,b=X / 128 % 32:=⟨_,rfl⟩
 obtain ⟨b2,hb2⟩ : ∃b,b=X / 32768 % 32:=⟨_,rfl⟩
 obtain ⟨b3,hb3⟩ : ∃b,b=X / 1048576 % 32:=⟨_,rfl⟩
 rw [<-hb1,<-hb2,<-hb3] at hrt
 have HRT:Hid _:=hrt.2
 have HI:Hid (∀W:World,Calls Tryz.prog 146 #[.agg #[.int .u32 (oc op),.int .u32 (f3 op),.int .u32 (f7 op)],.int .u32 X] W fun e w'=>e = .returned (.agg #[.int .i64 0,.int .i64 b1,.int .i64 b2,.int .i64 b3,.int .i64 0])/\Bl W w'):=by
  intro W
  rw [hb1,hb2,hb3]
  exact instR _ _ _ X W hrt.1
 have HW:Hid (∀W:World,Calls Tryz.prog 147 #[.agg #[.int .u32 (oc op),.int .u32 (f3 op),.int .u32 (f7 op)],.agg #[.int .i64 op,.int .i64 rd,.int .i64 s1,.int .i64 s2,.int .i64 im]] W fun e w'=>e = .returned (.int .u32 X)/\Bl W w'):=by
  intro W
  rw [hX]
  exact wordR _ _ _ _ _ _ _ _ W (oc_bd op) (f3_bd op) (f7_bd op)
 have HR1:Hid (vR rd s1 s2 im=true->X=R):=fun hv=>by rw [hR1 hv,hX]
 have HR0:Hid (¬vR rd s1 s2 im=true->0=R):=fun hv=>(hR0 hv).symm
 have mw:=mwR (oc op) (f3 op) (f7 op)
 have mi:=miR (oc op) (f3 op) (f7 op)
 clear h hrt hX hR1 hR0 hb1 hb2 hb3
 go_enter Tryz.func38,Tryz.ntmps38
 go_wp2_with fail
 refine (opShapes_any _).mono ?_
 rintro e w1 ⟨rfl,hb1⟩
 simp only [World.size_alloc] at hb1
 have z1:=hb1.size
 simp only [World.size_alloc] at z1
 go_wp2_with (refine store_tab rfl _ _ rfl w1 rfl rfl rfl ?_;intro W2 hT hB2 hs2;have hb12:=hb1.trans (hB2.mono z1);have k2:=box5N' hb12;have t2:=(hT op.toNat (by omega)).trans (tabR op HH.out);clear hT hB2 hb1)
 simp only [Act.put]
 go_region_held3 (fun W=>W.cell? ⟨w.heap.size,0,none⟩=some (.int .i64 op)/\W.cell? ⟨w.heap.size,1,none⟩=some (.int .i64 rd)/\W.cell? ⟨w.heap.size,2,none⟩=some (.int .i64 s1)/\W.cell? ⟨w.heap.size,3,none⟩=some (.int .i64 s2)/\W.cell? ⟨w.heap.size,4,none⟩=some (.int .i64 im) /\
   W.cell? ⟨w1.heap.size,op.toNat,none⟩=some (.iface 148 (.agg #[.int .u32 (oc op),.int .u32 (f3 op),.int .u32 (f7 op)]))) (go_simp)
  (first
  | (go_at_call 147;refine (HW.out _).mono ?_;rintro e w3 ⟨rfl,hb3⟩;have q3:=six_later (W:=W2.drew) hb3 k2 t2))
 go_wp2_with fail
 refine (HI.out _).mono ?_
 rintro e w4 ⟨rfl,hb4⟩
 have q4:=six_later hb4 q3.1 q3.2
 have z3:W2.heap.size<=w3.heap.size:=hb3.size
 have z4:w.heap.size<w4.heap.size:=by have:=hb4.size;omega
 have HB:Hid (Bl w w4):=(((Below.refl _ _).alloc (Nat.le_refl w.heap.size) _).trans (hb12.mono (by omega))).trans (((below_drew' W2).trans hb3).mono (by omega) |>.trans (hb4.mono (by omega)))
 clear q3 hb3 hb4 hb12 k2 t2 HI HW
 go_wp2
 all_goals go_ret
 all_goals refine ⟨retN_int ?_,?_⟩
 all_goals first
  | exact HR1.out (HRT.out.1 (by omega))
  | exact HR0.out (fun hv=>by have:=HRT.out.2 hv;omega)
  | exact HB.out.alloc (by omega) _
theorem tabI (op:Int) (h:op=3∨op=10∨(12<=op/\op<=17)):tabA[op.toNat]? = some (.iface 143 (.agg #[.int .u32 (oc op),.int .u32 (f3 op)])):=by
 obtain ⟨n,rfl⟩ : ∃n:Nat,op=n:=⟨op.toNat,by omega⟩
 have h1:n=3∨n=10∨n=12∨n=13∨n=14∨n=15∨n=16∨n=17:=by omega
 rcases h1 with rfl | rfl | rfl | rfl | rfl | rfl | rfl | rfl
 all_goals rfl
theorem mwI (a b:Int) (W:World):(method 297 143 (.agg #[.int .u32 a,.int .u32 b]) "loop.example/s01725/impl.word").run Tryz.prog W = .ok (134,.agg #[.int .u32 a,.int .u32 b]) W:=by kernel_rfl
theorem miI (a b:Int) (W:World):(method 297 143 (.agg #[.int .u32 a,.int .u32 b]) "loop.example/s01725/impl.inst").run Tryz.prog W = .ok (133,.agg #[.int .u32 a,.int .u32 b]) W:=by kernel_rfl
theorem ieI (op rd s1 s2 im:Int) (w:World) (h:op=3∨op=10∨(12<=op/\op<=17)) (R:Int) (hR1:vI rd s1 s2 im=true->R=oc op+rd % 32*128+f3 op*4096+s1 % 32*32768+im % 4096*1048576) (hR0 : ¬vI rd s1 s2 im=true->R=0) :
  Calls Tryz.prog 38 #[.agg #[.int .i64 op,.int .i64 rd,.int .i64 s1,.int .i64 s2,.int .i64 im]] w fun e w'=>e = .returned (.int .u32 R)/\Below w.heap.size w w':=by
 have HH:=hide h
 have hr1:1<=op:=by omega
 have hr2:op<=34:=by omega
 have hr0:0<=op:=by omega
 have hr3:op<35:=by omega
 obtain ⟨X,hX⟩ : ∃X,X=oc op+rd % 32*128+f3 op*4096+s1 % 32*32768+im % 4096*1048576:=⟨_,rfl⟩
 have hrt:=rtI (oc op) (f3 op) rd s1 s2 im X (oc_bd op) (f3_bd op) hX
 obtain ⟨b1,hb1⟩ : ∃b,b=X / 128 % 32:=⟨_,rfl⟩
 obtain ⟨b2,hb2⟩ : ∃b,b=X / 32768 % 32:=⟨_,rfl⟩
 obtain ⟨b4,hb4⟩ : ∃b,b=sg (X / 1048576 % 4096) 2048 4096:=⟨_,rfl⟩
 rw [<-hb1,<-hb2,<-hb4] at hrt
 have HRT:Hid _:=hrt.2
 have HI:Hid (∀W:World,Calls Tryz.prog 133 #[.agg #[.int .u32 (oc op),.int .u32 (f3 op)],.int .u32 X] W fun e w'=>e = .returned (.agg #[.int .i64 0,.int .i64 b1,.int .i64 b2,.int .i64 0,.int .i64 b4])/\Bl W w'):=by
  intro W
  rw [hb1,hb2,hb4]
  exact instI _ _ X W hrt.1
 have HW:Hid (∀W:World,Calls Tryz.prog 134 #[.agg #[.int .u32 (oc op),.int .u32 (f3 op)],.agg #[.int .i64 op,.int .i64 rd,.int .i64 s1,.int .i64 s2,.int .i64 im]] W fun e w'=>e = .returned (.int .u32 X)/\Bl W w'):=by
  intro W
  rw [hX]
  exact wordIN _ _ _ _ _ _ _ W (oc_bd op) (f3_bd op)
 have HR1:Hid (vI rd s1 s2 im=true->X=R):=fun hv=>by rw [hR1 hv,hX]
 have HR0:Hid (¬vI rd s1 s2 im=true->0=R):=fun hv=>(hR0 hv).symm
 have mw:=mwI (oc op) (f3 op)
 have mi:=miI (oc op) (f3 op)
 clear h hrt hX hR1 hR0 hb1 hb2 hb4
 go_enter Tryz.func38,Tryz.ntmps38
 go_wp2_with fail
 refine (opShapes_any _).mono ?_
 rintro e w1 ⟨rfl,hb1⟩
 simp only [World.size_alloc] at hb1
 have z1:=hb1.size
 simp only [World.size_alloc] at z1
 go_wp2_with (refine store_tab rfl _ _ rfl w1 rfl rfl rfl ?_;intro W2 hT hB2 hs2;have hb12:=hb1.trans (hB2.mono z1);have k2:=box5N' hb12;have t2:=(hT op.toNat (by omega)).trans (tabI op HH.out);clear hT hB2 hb1)
 simp only [Act.put]
 go_region_held3 (fun W=>W.cell? ⟨w.heap.size,0,none⟩=some (.int .i64 op)/\W.cell? ⟨w.heap.size,1,none⟩=some (.int .i64 rd)/\W.cell? ⟨w.heap.size,2,none⟩=some (.int .i64 s1)/\W.cell? ⟨w.heap.size,3,none⟩=some (.int .i64 s2)/\W.cell? ⟨w.heap.size,4,none⟩=some (.int .i64 im) /\
   W.cell? ⟨w1.heap.size,op.toNat,none⟩=some (.iface 143 (.agg #[.int .u32 (oc op),.int .u32 (f3 op)]))) (go_simp)
  (first
  | (go_at_call 134;refine (HW.out _).mono ?_;rintro e w3 ⟨rfl,hb3⟩;have q3:=six_later (W:=W2.drew) hb3 k2 t2))
 go_wp2_with fail
 refine (HI.out _).mono ?_
 rintro e w4 ⟨rfl,hb4⟩
 have q4:=six_later hb4 q3.1 q3.2
 have z3:W2.heap.size<=w3.heap.size:=hb3.size
 have z4:w.heap.size<w4.heap.size:=by have:=hb4.size;omega
 have HB:Hid (Bl w w4):=(((Below.refl _ _).alloc (Nat.le_refl w.heap.size) _).trans (hb12.mono (by omega))).trans (((below_drew' W2).trans hb3).mono (by omega) |>.trans (hb4.mono (by omega)))
 clear q3 hb3 hb4 hb12 k2 t2 HI HW
 go_wp2
 all_goals go_ret
 all_goals refine ⟨retN_int ?_,?_⟩
 all_goals first
  | exact HR1.out (HRT.out.1 (by omega))
  | exact HR0.out (fun hv=>by have:=HRT.out.2 hv;omega)
  | exact HB.out.alloc (by omega) _
end
section
open Go.RowKit
theorem ieNo (op rd s1 s2 im:Int) (w:World) (h:op<1∨34<op) :
  Calls Tryz.prog 38 #[.agg #[.int .i64 op,.int .i64 rd,.int .i64 s1,.int .i64 s2,.int .i64 im]] w fun e w'=>e = .returned (.int .u32 0)/\Below w.heap.size w w':=by
 rcases h with h | h
 all_goals
  go_enter Tryz.func38,Tryz.ntmps38
  go_wp2
  go_ret
  exact ⟨rfl,(Below.refl _ _).alloc (Nat.le_refl _) _⟩
def EncIs (op rd s1 s2 im R:Int) (v:Bool):Prop:=
 (∀w:World,Calls Tryz.prog 38 #[.agg #[.int .i64 op,.int .i64 rd,.int .i64 s1,.int .i64 s2,.int .i64 im]] w fun e w'=>e = .returned (.int .u32 R)/\Below w.heap.size w w') /\
 (∀w:World,Calls Tryz.prog 23 #[.agg #[.int .i64 op,.int .i64 rd,.int .i64 s1,.int .i64 s2,.int .i64 im]] w fun e w'=>e = .returned (.int .u32 R)/\Below w.heap.size w w') /\
 (∀w:World,Calls Tryz.prog 42 #[.agg #[.int .i64 op,.int .i64 rd,.int .i64 s1,.int .i64 s2,.int .i64 im]] w fun e w'=>e = .returned (.bool v)/\Below w.heap.size w w') /\
 (R != 0)=v/\0<=R/\R<=4294967295
def GsW (op v rd s1 s2 im R:Int):Prop:=
 (∀W:World,Calls Tryz.prog 22 #[.int .u32 v,.int .i64 op] W fun e w'=>e = .returned (.agg #[.int .i64 op,.int .i64 rd,.int .i64 s1,.int .i64 s2,.int .i64 im])/\Below W.heap.size W w') /\
 (∀W:World,Calls Tryz.prog 23 #[.agg #[.int .i64 op,.int .i64 rd,.int .i64 s1,.int .i64 s2,.int .i64 im]] W fun e w'=>e = .returned (.int .u32 R)/\Below W.heap.size W w')/\Sig op R
theorem isOf {op rd s1 s2 im R0:Int} {vb:Bool} (h0:0<R0) (h1:R0<=4294967295)
  (ie : ∀w (R:Int),(vb=true->R=R0)->(¬vb=true->R=0)->Calls Tryz.prog 38 #[.agg #[.int .i64 op,.int .i64 rd,.int .i64 s1,.int .i64 s2,.int .i64 im]] w fun e w'=>e = .returned (.int .u32 R)/\Below w.heap.size w w')
  (en : ∀w,vb=true->Calls Tryz.prog 23 #[.agg #[.int .i64 op,.int .i64 rd,.int .i64 s1,.int .i64 s2,.int .i64 im]] w fun e w'=>e = .returned (.int .u32 R0)/\Below w.heap.size w w')
  (sp : ∀w,Calls Tryz.prog 42 #[.agg #[.int .i64 op,.int .i64 rd,.int .i64 s1,.int .i64 s2,.int .i64 im]] w fun e w'=>e = .returned (.bool vb)/\Below w.heap.size w w')
  (gs:vb=true->GsW op R0 rd s1 s2 im R0) : ∃R,EncIs op rd s1 s2 im R vb/\(vb=true->GsW op R rd s1 s2 im R):=by
 cases vb
 ·exact ⟨0,⟨fun w=>ie w 0 (fun h=>by cases h) (fun _=>rfl),fun w=>encNo op rd s1 s2 im w sp,sp,rfl,by omega,by omega⟩,fun h=>by cases h⟩
 ·exact ⟨R0,⟨fun w=>ie w R0 (fun _=>rfl) (fun h=>absurd rfl h),fun w=>en w rfl,sp,by simp;omega,by omega,h1⟩,gs⟩
theorem tryU (op v:Int) (h:op=1) (hv:0<=v/\v<=4294967295):GsW op v (v / 128 % 32) (0) (0) (v / 4096 % 1048576) (oc op+(v / 128 % 32) % 32*128+(v / 4096 % 1048576) % 1048576*4096):=⟨fun W=>guessU op v W h hv,fun W=>encU op _ _ _ _ W h (gvU v hv),sigU op (v / 128 % 32) (0) (0) (v / 4096 % 1048576) h⟩
theorem isU (op rd s1 s2 im:Int) (h:op=1) : ∃R,EncIs op rd s1 s2 im R (vU rd s1 s2 im)/\(vU rd s1 s2 im=true->GsW op R rd s1 s2 im R):=by
 have hp:=oc_pos op (by omega)
 have o2:=f3_bd op
 have o3:=f7_bd op
 have hrt:=rtU (oc op) rd s1 s2 im _ (oc_bd op) rfl
 refine isOf ?_ hrt.1.2 (fun w R h1 h2=>ieU op rd s1 s2 im w h R h1 h2) (fun w hv=>encU op rd s1 s2 im w h hv) (fun w=>spU op rd s1 s2 im w h) (fun hv => ?_)
 ·clear hrt
  omega
 ·obtain ⟨e1,e2,e3,e4⟩:=hrt.2.2 hv
  have t:=tryU op _ h hrt.1
  rw [e1,e4] at t
  subst e2 e3
  exact t
theorem tryJ (op v:Int) (h:op=2) (hv:0<=v/\v<=4294967295):GsW op v (v / 128 % 32) (0) (0) (sg (v / 2097152 % 1024*2+v / 1048576 % 2*2048+v / 4096 % 256*4096+v / 2147483648 % 2*1048576) 1048576 2097152) (oc op+(v / 128 % 32) % 32*128+(sg (v / 2097152 % 1024*2+v / 1048576 % 2*2048+v / 4096 % 256*4096+v / 2147483648 % 2*1048576) 1048576 2097152) / 4096 % 256*4096+(sg (v / 2097152 % 1024*2+v / 1048576 % 2*2048+v / 4096 % 256*4096+v / 2147483648 % 2*1048576) 1048576 2097152) / 2048 % 2*1048576+(sg (v / 2097152 % 1024*2+v / 1048576 % 2*2048+v / 4096 % 256*4096+v / 2147483648 % 2*1048576) 1048576 2097152) / 2 % 1024*2097152+(sg (v / 2097152 % 1024*2+v / 1048576 % 2*2048+v / 4096 % 256*4096+v / 2147483648 % 2*1048576) 1048576 2097152) / 1048576 % 2*2147483648):=⟨fun W=>guessJ op v W h hv,fun W=>encJ op _ _ _ _ W h (gvJ v hv),sigJ op (v / 128 % 32) (0) (0) (sg (v / 2097152 % 1024*2+v / 1048576 % 2*2048+v / 4096 % 256*4096+v / 2147483648 % 2*1048576) 1048576 2097152) h⟩
theorem isJ (op rd s1 s2 im:Int) (h:op=2) : ∃R,EncIs op rd s1 s2 im R (vJ rd s1 s2 im)/\(vJ rd s1 s2 im=true->GsW op R rd s1 s2 im R):=by
 have hp:=oc_pos op (by omega)
 have o2:=f3_bd op
 have o3:=f7_bd op
 have hrt:=rtJ (oc op) rd s1 s2 im _ (oc_bd op) rfl
 refine isOf ?_ hrt.1.2 (fun w R h1 h2=>ieJ op rd s1 s2 im w h R h1 h2) (fun w hv=>encJ op rd s1 s2 im w h hv) (fun w=>spJ op rd s1 s2 im w h) (fun hv => ?_)
 ·clear hrt
  omega
 ·obtain ⟨e1,e2,e3,e4⟩:=hrt.2.2 hv
  have t:=tryJ op _ h hrt.1
  rw [e1,e4] at t
  subst e2 e3
  exact t
theorem tryB (op v:Int) (h:4<=op/\op<=9) (hv:0<=v/\v<=4294967295):GsW op v (0) (v / 32768 % 32) (v / 1048576 % 32) (sg (v / 256 % 16*2+v / 33554432 % 64*32+v / 128 % 2*2048+v / 2147483648 % 2*4096) 4096 8192) (oc op+(sg (v / 256 % 16*2+v / 33554432 % 64*32+v / 128 % 2*2048+v / 2147483648 % 2*4096) 4096 8192) / 2048 % 2*128+(sg (v / 256 % 16*2+v / 33554432 % 64*32+v / 128 % 2*2048+v / 2147483648 % 2*4096) 4096 8192) / 2 % 16*256+f3 op*4096+(v / 32768 % 32) % 32*32768+(v / 1048576 % 32) % 32*1048576+(sg (v / 256 % 16*2+v / 33554432 % 64*32+v / 128 % 2*2048+v / 2147483648 % 2*4096) 4096 8192) / 32 % 64*33554432+(sg (v / 256 % 16*2+v / 33554432 % 64*32+v / 128 % 2*2048+v / 2147483648 % 2*4096) 4096 8192) / 4096 % 2*2147483648):=⟨fun W=>guessB op v W h hv,fun W=>encB op _ _ _ _ W h (gvB v hv),sigB op (0) (v / 32768 % 32) (v / 1048576 % 32) (sg (v / 256 % 16*2+v / 33554432 % 64*32+v / 128 % 2*2048+v / 2147483648 % 2*4096) 4096 8192) h⟩
theorem isB (op rd s1 s2 im:Int) (h:4<=op/\op<=9) : ∃R,EncIs op rd s1 s2 im R (vB rd s1 s2 im)/\(vB rd s1 s2 im=true->GsW op R rd s1 s2 im R):=by
 have hp:=oc_pos op (by omega)
 have o2:=f3_bd op
 have o3:=f7_bd op
 have hrt:=rtB (oc op) (f3 op) rd s1 s2 im _ (oc_bd op) (f3_bd op) rfl
 refine isOf ?_ hrt.1.2 (fun w R h1 h2=>ieB op rd s1 s2 im w h R h1 h2) (fun w hv=>encB op rd s1 s2 im w h hv) (fun w=>spB op rd s1 s2 im w h) (fun hv => ?_)
 ·clear hrt
  omega
 ·obtain ⟨e1,e2,e3,e4⟩:=hrt.2.2 hv
  have t:=tryB op _ h hrt.1
  rw [e2,e3,e4] at t
  subst e1
  exact t
theorem tryS (op v:Int) (h:op=11) (hv:0<=v/\v<=4294967295):GsW op v (0) (v / 32768 % 32) (v / 1048576 % 32) (sg (v / 128 % 32+v / 33554432 % 128*32) 2048 4096) (oc op+(sg (v / 128 % 32+v / 33554432 % 128*32) 2048 4096) % 32*128+f3 op*4096+(v / 32768 % 32) % 32*32768+(v / 1048576 % 32) % 32*1048576+(sg (v / 128 % 32+v / 33554432 % 128*32) 2048 4096) / 32 % 128*33554432):=⟨fun W=>guessS op v W h hv,fun W=>encS op _ _ _ _ W h (gvS v hv),sigS op (0) (v / 32768 % 32) (v / 1048576 % 32) (sg (v / 128 % 32+v / 33554432 % 128*32) 2048 4096) h⟩
theorem isS (op rd s1 s2 im:Int) (h:op=11) : ∃R,EncIs op rd s1 s2 im R (vS rd s1 s2 im)/\(vS rd s1 s2 im=true->GsW op R rd s1 s2 im R):=by
 have hp:=oc_pos op (by omega)
 have o2:=f3_bd op
 have o3:=f7_bd op
 have hrt:=rtS (oc op) (f3 op) rd s1 s2 im _ (oc_bd op) (f3_bd op) rfl
 refine isOf ?_ hrt.1.2 (fun w R h1 h2=>ieS op rd s1 s2 im w h R h1 h2) (fun w hv=>encS op rd s1 s2 im w h hv) (fun w=>spS op rd s1 s2 im w h) (fun hv => ?_)
 ·clear hrt
  omega
 ·obtain ⟨e1,e2,e3,e4⟩:=hrt.2.2 hv
  have t:=tryS op _ h hrt.1
  rw [e2,e3,e4] at t
  subst e1
  exact t
theorem tryH (op v:Int) (h:18<=op/\op<=20) (hv:0<=v/\v<=4294967295):GsW op v (v / 128 % 32) (v / 32768 % 32) (0) (v / 1048576 % 32) (oc op+(v / 128 % 32) % 32*128+f3 op*4096+(v / 32768 % 32) % 32*32768+(v / 1048576 % 32) % 32*1048576+f7 op*33554432):=⟨fun W=>guessH op v W h hv,fun W=>encH op _ _ _ _ W h (gvH v hv),sigH op (v / 128 % 32) (v / 32768 % 32) (0) (v / 1048576 % 32) h⟩
theorem isH (op rd s1 s2 im:Int) (h:18<=op/\op<=20) : ∃R,EncIs op rd s1 s2 im R (vH rd s1 s2 im)/\(vH rd s1 s2 im=true->GsW op R rd s1 s2 im R):=by
 have hp:=oc_pos op (by omega)
 have o2:=f3_bd op
 have o3:=f7_bd op
 have hrt:=rtH (oc op) (f3 op) (f7 op) rd s1 s2 im _ (oc_bd op) (f3_bd op) (f7_bd op) rfl
 refine isOf ?_ hrt.1.2 (fun w R h1 h2=>ieH op rd s1 s2 im w h R h1 h2) (fun w hv=>encH op rd s1 s2 im w h hv) (fun w=>spH op rd s1 s2 im w h) (fun hv => ?_)
 ·clear hrt
  omega
 ·obtain ⟨e1,e2,e3,e4⟩:=hrt.2.2 hv
  have t:=tryH op _ h hrt.1
  rw [e1,e2,e4] at t
  subst e3
  exact t
theorem tryR (op v:Int) (h:21<=op/\op<=33) (hv:0<=v/\v<=4294967295):GsW op v (v / 128 % 32) (v / 32768 % 32) (v / 1048576 % 32) (0) (oc op+(v / 128 % 32) % 32*128+f3 op*4096+(v / 32768 % 32) % 32*32768+(v / 1048576 % 32) % 32*1048576+f7 op*33554432):=⟨fun W=>guessR op v W h hv,fun W=>encR op _ _ _ _ W h (gvR v hv),sigR op (v / 128 % 32) (v / 32768 % 32) (v / 1048576 % 32) (0) h⟩
theorem isR (op rd s1 s2 im:Int) (h:21<=op/\op<=33) : ∃R,EncIs op rd s1 s2 im R (vR rd s1 s2 im)/\(vR rd s1 s2 im=true->GsW op R rd s1 s2 im R):=by
 have hp:=oc_pos op (by omega)
 have o2:=f3_bd op
 have o3:=f7_bd op
 have hrt:=rtR (oc op) (f3 op) (f7 op) rd s1 s2 im _ (oc_bd op) (f3_bd op) (f7_bd op) rfl
 refine isOf ?_ hrt.1.2 (fun w R h1 h2=>ieR op rd s1 s2 im w h R h1 h2) (fun w hv=>encR op rd s1 s2 im w h hv) (fun w=>spR op rd s1 s2 im w h) (fun hv => ?_)
 ·clear hrt
  omega
 ·obtain ⟨e1,e2,e3,e4⟩:=hrt.2.2 hv
  have t:=tryR op _ h hrt.1
  rw [e1,e2,e3] at t
  subst e4
  exact t
theorem tryE (op v:Int) (h:op=34) (hv:0<=v/\v<=4294967295):GsW op v (0) (0) (0) (0) (oc op):=⟨fun W=>guessE op v W h hv,fun W=>encE op _ _ _ _ W h (gvE v hv),sigE op (0) (0) (0) (0) h⟩
theorem isE (op rd s1 s2 im:Int) (h:op=34) : ∃R,EncIs op rd s1 s2 im R (vE rd s1 s2 im)/\(vE rd s1 s2 im=true->GsW op R rd s1 s2 im R):=by
 have hp:=oc_pos op (by omega)
 have o2:=f3_bd op
 have o3:=f7_bd op
 have hrt:=rtE (oc op) rd s1 s2 im _ (oc_bd op) rfl
 refine isOf ?_ hrt.1.2 (fun w R h1 h2=>ieE op rd s1 s2 im w h R h1 h2) (fun w hv=>encE op rd s1 s2 im w h hv) (fun w=>spE op rd s1 s2 im w h) (fun hv => ?_)
 ·clear hrt
  omega
 ·obtain ⟨e1,e2,e3,e4⟩:=hrt.2.2 hv
  have t:=tryE op _ h hrt.1
  skip
  subst e1 e2 e3 e4
  exact t
theorem tryI (op v:Int) (h:op=3∨op=10∨(12<=op/\op<=17)) (hv:0<=v/\v<=4294967295):GsW op v (v / 128 % 32) (v / 32768 % 32) (0) (sg (v / 1048576 % 4096) 2048 4096) (oc op+(v / 128 % 32) % 32*128+f3 op*4096+(v / 32768 % 32) % 32*32768+(sg (v / 1048576 % 4096) 2048 4096) % 4096*1048576):=⟨fun W=>guessI op v W h hv,fun W=>encI op _ _ _ _ W h (gvI v hv),sigI op (v / 128 % 32) (v / 32768 % 32) (0) (sg (v / 1048576 % 4096) 2048 4096) h⟩
theorem isI (op rd s1 s2 im:Int) (h:op=3∨op=10∨(12<=op/\op<=17)) : ∃R,EncIs op rd s1 s2 im R (vI rd s1 s2 im)/\(vI rd s1 s2 im=true->GsW op R rd s1 s2 im R):=by
 have hp:=oc_pos op (by omega)
 have o2:=f3_bd op
 have o3:=f7_bd op
 have hrt:=rtI (oc op) (f3 op) rd s1 s2 im _ (oc_bd op) (f3_bd op) rfl
 refine isOf ?_ hrt.1.2 (fun w R h1 h2=>ieI op rd s1 s2 im w h R h1 h2) (fun w hv=>encI op rd s1 s2 im w h hv) (fun w=>spI op rd s1 s2 im w h) (fun hv => ?_)
 ·clear hrt
  omega
 ·obtain ⟨e1,e2,e3,e4⟩:=hrt.2.2 hv
  have t:=tryI op _ h hrt.1
  rw [e1,e2,e4] at t
  subst e3
  exact t
def vOf (op rd s1 s2 im:Int):Bool:=
 if op<1∨34<op then false else if op=1 then vU rd s1 s2 im else if op=2 then vJ rd s1 s2 im else if 4<=op/\op<=9 then vB rd s1 s2 im else if op=11 then vS rd s1 s2 im
 else if 18<=op/\op<=20 then vH rd s1 s2 im else if 21<=op/\op<=33 then vR rd s1 s2 im else if op=34 then vE rd s1 s2 im else vI rd s1 s2 im
theorem is_any (op rd s1 s2 im:Int) : ∃R,EncIs op rd s1 s2 im R (vOf op rd s1 s2 im)/\(vOf op rd s1 s2 im=true->GsW op R rd s1 s2 im R):=by
 unfold vOf
 split
 ·rename_i h
  exact ⟨0,⟨fun w=>ieNo op rd s1 s2 im w h,fun w=>encNo op rd s1 s2 im w (fun W=>spNo op rd s1 s2 im W h),fun w=>spNo op rd s1 s2 im w h,rfl,by omega,by omega⟩,fun h=>by cases h⟩
 split
 ·rename_i h;exact isU op rd s1 s2 im h
 split
 ·rename_i h;exact isJ op rd s1 s2 im h
 split
 ·rename_i h;exact isB op rd s1 s2 im h
 split
 ·rename_i h;exact isS op rd s1 s2 im h
 split
 ·rename_i h;exact isH op rd s1 s2 im h
 split
 ·rename_i h;exact isR op rd s1 s2 im h
 split
 ·rename_i h;exact isE op rd s1 s2 im h
 ·exact isI op rd s1 s2 im (by omega)
theorem try_any (op v:Int) (h:1<=op/\op<=34) (hv:0<=v/\v<=4294967295) : ∃rd s1 s2 im R,GsW op v rd s1 s2 im R:=by
 by_cases c1:op=1
 ·exact ⟨_,_,_,_,_,tryU op v c1 hv⟩
 by_cases c2:op=2
 ·exact ⟨_,_,_,_,_,tryJ op v c2 hv⟩
 by_cases c3:4<=op/\op<=9
 ·exact ⟨_,_,_,_,_,tryB op v c3 hv⟩
 by_cases c4:op=11
 ·exact ⟨_,_,_,_,_,tryS op v c4 hv⟩
 by_cases c5:18<=op/\op<=20
 ·exact ⟨_,_,_,_,_,tryH op v c5 hv⟩
 by_cases c6:21<=op/\op<=33
 ·exact ⟨_,_,_,_,_,tryR op v c6 hv⟩
 by_cases c7:op=34
 ·exact ⟨_,_,_,_,_,tryE op v c7 hv⟩
 ·exact ⟨_,_,_,_,_,tryI op v (by omega) hv⟩
theorem vi_impl (op rd s1 s2 im R:Int) (v:Bool) (w:World) (h:EncIs op rd s1 s2 im R v) :
  Calls Tryz.prog 59 #[.agg #[.int .i64 op,.int .i64 rd,.int .i64 s1,.int .i64 s2,.int .i64 im]] w fun e w'=>e = .returned (.bool v)/\Below w.heap.size w w':=by
 have H:=hide h
 have HV:Hid _:=h.2.2.2.1
 clear h
 go_enter Tryz.func59,Tryz.ntmps59
 go_wp2_with fail
 refine (H.out.1 _).mono ?_
 rintro e w1 ⟨rfl,hb⟩
 go_wp2
 go_ret
 exact ⟨ret_bool' HV.out,(bel_a _ _).trans (hb.mono (by simp))⟩
end
section
open Go.RowKit
def eR (x : Ins) : Int := chs (is_any x.op x.rd x.s1 x.s2 x.im)
def eV (x : Ins) : Bool := vOf x.op x.rd x.s1 x.s2 x.im
theorem e_is (x : Ins) : EncIs x.op x.rd x.s1 x.s2 x.im (eR x) (eV x) := (chs_spec (is_any x.op x.rd x.s1 x.s2 x.im)).1
theorem e_gs {x : Ins} (h : eV x = true) : GsW x.op (eR x) x.rd x.s1 x.s2 x.im (eR x) := (chs_spec (is_any x.op x.rd x.s1 x.s2 x.im)).2 h
theorem eV_op {x : Ins} (h : eV x = true) : 1 ≤ x.op ∧ x.op ≤ 34 := by
 by_cases h' : x.op < 1 ∨ 34 < x.op
 ·unfold eV vOf at h
  rw [if_pos h'] at h
  cases h
 ·omega
theorem encI_any (x : Ins) (w : World) : Calls Tryz.prog 38 #[.agg #[.int .i64 x.op, .int .i64 x.rd, .int .i64 x.s1, .int .i64 x.s2, .int .i64 x.im]] w fun e w' => e = .returned (.int .u32 (eR x)) ∧ Below w.heap.size w w' := (e_is x).1 w
theorem encS_any (x : Ins) (w : World) : Calls Tryz.prog 23 #[.agg #[.int .i64 x.op, .int .i64 x.rd, .int .i64 x.s1, .int .i64 x.s2, .int .i64 x.im]] w fun e w' => e = .returned (.int .u32 (eR x)) ∧ Below w.heap.size w w' := (e_is x).2.1 w
theorem vldS_any (x : Ins) (w : World) : Calls Tryz.prog 42 #[.agg #[.int .i64 x.op, .int .i64 x.rd, .int .i64 x.s1, .int .i64 x.s2, .int .i64 x.im]] w fun e w' => e = .returned (.bool (eV x)) ∧ Below w.heap.size w w' := (e_is x).2.2.1 w
theorem vldI_any (x : Ins) (w : World) : Calls Tryz.prog 59 #[.agg #[.int .i64 x.op, .int .i64 x.rd, .int .i64 x.s1, .int .i64 x.s2, .int .i64 x.im]] w fun e w' => e = .returned (.bool (eV x)) ∧ Below w.heap.size w w' := vi_impl _ _ _ _ _ _ _ w (e_is x)
def opp (op : Int) : Int := if op % 2 = 0 then op + 1 else op - 1
def wds (it : It) (far : Int) (l : Bool) : List Int :=
 if it.kind = 1 then [eR it.ins]
 else if it.kind = 3 then (if l then [eR { it.ins with op := opp it.ins.op, im := 8 }, eR ⟨2, 0, 0, 0, far - 4⟩] else [eR { it.ins with im := far }])
 else if it.kind = 4 then [eR ⟨2, 0, 0, 0, far⟩]
 else if it.kind = 5 then [eR ⟨2, 1, 0, 0, far⟩]
 else []
theorem wds_len (it : It) (far : Int) (l : Bool) : (wds it far l).length ≤ 2 := by
 unfold wds
 split
 ·simp
 ·split
  ·split <;> simp
  ·split
   ·simp
   ·split <;> simp
def USrc (w : World) (v : Value) (us : List Int) : Prop := ∃ a cap, v = .slice a us.length cap ∧ (a = none → us = []) ∧ ∀ ad, a = some ad → ∀ j u, (us.map (Value.int .u32))[j]? = some u → w.cell? (ad.add j) = some u
theorem usrc_nil (w : World) : USrc w (.slice none 0 0) [] := ⟨none, 0, rfl, fun _ => rfl, fun ad h => by cases h⟩
theorem addr_add (g j : Nat) : (⟨g, 0, none⟩ : Addr).add j = ⟨g, j, none⟩ := by simp only [Addr.add]; split <;> simp_all
theorem usrc_1 (w : World) (x : Int) (t : TypeId) : USrc (w.alloc (.cells #[.int .u32 x] t)) (.slice (some ⟨w.heap.size, 0, none⟩) 1 1) [x] := by
 refine ⟨_, 1, rfl, (fun h => by cases h), fun ad h j u hj => ?_⟩
 obtain rfl := Option.some.inj h
 rw [addr_add]
 match j with
 | 0 => simp at hj; subst hj; simp
 | (j + 1) => simp at hj
theorem usrc_2 (w : World) (x y : Int) (t : TypeId) : USrc (w.alloc (.cells #[.int .u32 x, .int .u32 y] t)) (.slice (some ⟨w.heap.size, 0, none⟩) 2 2) [x, y] := by
 refine ⟨_, 2, rfl, (fun h => by cases h), fun ad h j u hj => ?_⟩
 obtain rfl := Option.some.inj h
 rw [addr_add]
 match j with
 | 0 => simp at hj; subst hj; simp
 | 1 => simp at hj; subst hj; simp
 | (j + 2) => simp at hj
set_option maxHeartbeats 1000000 in
theorem jump_any (k d : Int) (w : World) : Calls Tryz.prog 40 #[.int .i64 k, .int .i64 d] w fun e w' => e = .returned (.int .u32 (eR ⟨2, k, 0, 0, d⟩)) ∧ Below w.heap.size w w' := by
 have H : Hid (∀ w : World, Calls Tryz.prog 38 #[.agg #[.int .i64 2, .int .i64 k, .int .i64 0, .int .i64 0, .int .i64 d]] w fun e w' => e = .returned (.int .u32 (eR ⟨2, k, 0, 0, d⟩)) ∧ Below w.heap.size w w') := fun w => encI_any ⟨2, k, 0, 0, d⟩ w
 go_enter Tryz.func40, Tryz.ntmps40
 go_wp2_with fail
 refine (H.out _).mono ?_
 rintro e w1 ⟨rfl, hb⟩
 go_wp2_with fail
 go_ret
 exact ⟨rfl, hb⟩
set_option maxHeartbeats 1000000 in
theorem opp_any (op : Int) (h : 4 ≤ op ∧ op ≤ 9) (w : World) : Calls Tryz.prog 63 #[.int .i64 op] w fun e w' => e = .returned (.int .i64 (opp op)) ∧ w' = w := by
 obtain ⟨h1, h2⟩ := h
 have hc : op = 4 ∨ op = 5 ∨ op = 6 ∨ op = 7 ∨ op = 8 ∨ op = 9 := by omega
 rcases hc with rfl | rfl | rfl | rfl | rfl | rfl
 all_goals
  go_enter Tryz.func63, Tryz.ntmps63
  go_wp2_with fail
  go_ret
  exact ⟨rfl, rfl⟩
end
section
open Go.RowKit
theorem box6N {w w' : World} {t : TypeId} {a b c d e f : Value} (h : Below (w.heap.size + 1) (w.alloc (.cells #[a, b, c, d, e, f] t)) w') :
  (w'.cell? ⟨w.heap.size, 0, none⟩ = some a ∧ w'.cell? ⟨w.heap.size, 1, none⟩ = some b ∧ w'.cell? ⟨w.heap.size, 2, none⟩ = some c ∧ w'.cell? ⟨w.heap.size, 3, none⟩ = some d ∧ w'.cell? ⟨w.heap.size, 4, none⟩ = some e ∧ w'.cell? ⟨w.heap.size, 5, none⟩ = some f) ∧
  ∀ j, w'.frozen? ⟨w.heap.size, j, none⟩ = false := by
 refine ⟨⟨?_, ?_, ?_, ?_, ?_, ?_⟩, fun j => ?_⟩
 all_goals first
  | (rw [h.cell (by simp)]; simp)
  | (rw [h.frozen (by simp)]; simp)
set_option maxRecDepth 100000 in
set_option maxHeartbeats 2000000 in
theorem specHit (v : Int) (hv : 0 ≤ v ∧ v ≤ 4294967295) (K : Nat) (hK : 1 ≤ K ∧ K ≤ 34) (a b c d : Int) (h0 : 0 < v)
  (hH : (∀ W : World, Calls Tryz.prog 22 #[.int .u32 v, .int .i64 K] W fun e w' => e = .returned (.agg #[.int .i64 K, .int .i64 a, .int .i64 b, .int .i64 c, .int .i64 d]) ∧ Below W.heap.size W w') ∧
    (∀ W : World, Calls Tryz.prog 23 #[.agg #[.int .i64 K, .int .i64 a, .int .i64 b, .int .i64 c, .int .i64 d]] W fun e w' => e = .returned (.int .u32 v) ∧ Below W.heap.size W w'))
  (hM : ∀ n : Nat, 1 ≤ n → n < K → ∃ rd s1 s2 im R : Int, (R == v) = false ∧ (∀ W : World, Calls Tryz.prog 22 #[.int .u32 v, .int .i64 n] W fun e w' => e = .returned (.agg #[.int .i64 n, .int .i64 rd, .int .i64 s1, .int .i64 s2, .int .i64 im]) ∧ Below W.heap.size W w') ∧
    (∀ W : World, Calls Tryz.prog 23 #[.agg #[.int .i64 n, .int .i64 rd, .int .i64 s1, .int .i64 s2, .int .i64 im]] W fun e w' => e = .returned (.int .u32 R) ∧ Below W.heap.size W w')) (w : World) :
  Calls Tryz.prog 7 #[.int .u32 v] w fun e w' => e = .returned (.agg #[.bool true, .int .i64 K, .int .i64 a, .int .i64 b, .int .i64 c, .int .i64 d]) ∧ Below w.heap.size w w' := by
 have HH : Hid _ := hH
 have HM : Hid _ := hM
 have hne : (v != 0) = true := by simp; omega
 clear hH hM
 go_enter Tryz.func7, Tryz.ntmps7
 go_wp2
 go_loopw [3] (fun i wr => ∃ n : Nat, 1 ≤ n ∧ n ≤ K ∧ i = .int .i64 n ∧ Below (w.heap.size + 1) (w.alloc (.cells #[.bool false, .int .i64 0, .int .i64 0, .int .i64 0, .int .i64 0, .int .i64 0] 33)) wr)
  (fun i _ => 35 - (RowKit.intOf i).toNat)
 case atStart => exact ⟨1, by omega, by omega, rfl, Below.refl _ _⟩
 case round =>
  obtain ⟨n, hn1, hn2, rfl, hB⟩ := hrel
  have z0 := hB.size
  simp only [World.size_alloc] at z0
  by_cases hlt : n < K
  ·obtain ⟨rd, s1, s2, im, R, hR, h39, h12⟩ := HM.out n hn1 hlt
   have G39 : Hid _ := h39
   have G12 : Hid _ := h12
   clear h39 h12
   go_wp2_with fail
   refine (G39.out _).mono ?_
   rintro e w1 ⟨rfl, hb1⟩
   have hB1 := hB.trans (hb1.mono z0)
   have z1 := hb1.size
   go_wp2_with fail
   refine (G12.out _).mono ?_
   rintro e w2 ⟨rfl, hb2⟩
   simp only [World.size_alloc] at hb2
   have HB2 : Hid (Below (w.heap.size + 1) (w.alloc (.cells #[.bool false, .int .i64 0, .int .i64 0, .int .i64 0, .int .i64 0, .int .i64 0] 33)) w2) := hB1.trans (((Below.refl _ _).alloc (Nat.le_refl w1.heap.size) _ |>.trans (hb2.mono (Nat.le_succ _))).mono (by omega))
   clear hb1 hb2 hB1 hB
   go_wp2
   go_roundw
   case rel => exact ⟨n + 1, by omega, by omega, by go_num, HB2.out⟩
   case measure => simp [RowKit.intOf]; omega
  ·obtain rfl : n = K := by omega
   have G39 : Hid _ := HH.out.1
   have G12 : Hid _ := HH.out.2
   go_wp2_with fail
   refine (G39.out _).mono ?_
   rintro e w1 ⟨rfl, hb1⟩
   have hB1 := hB.trans (hb1.mono z0)
   have z1 := hb1.size
   go_wp2_with fail
   refine (G12.out _).mono ?_
   rintro e w2 ⟨rfl, hb2⟩
   simp only [World.size_alloc] at hb2
   have k2 := box5N hb2
   have hB2 := hB1.trans (((Below.refl _ _).alloc (Nat.le_refl w1.heap.size) _ |>.trans (hb2.mono (Nat.le_succ _))).mono (by omega : w.heap.size + 1 ≤ w1.heap.size))
   obtain ⟨q2, f2⟩ := box6N hB2
   have HB : Hid (Below w.heap.size w w2) := ((Below.refl _ _).alloc (Nat.le_refl _) _).trans (hB2.mono (by omega))
   clear hb1 hb2 hB1 hB hB2
   go_wp2
   refine bodyPost_ret (v := .agg #[.bool true, .int .i64 n, .int .i64 a, .int .i64 b, .int .i64 c, .int .i64 d]) (by simp [results, Tryz.results7, go_sem, q2, f2]) rfl ⟨rfl, ?_⟩
   exact (((((HB.out.setCell (by simp) _).setCell (by simp) _).setCell (by simp) _).setCell (by simp) _).setCell (by simp) _).setCell (by simp) _
theorem dec_any {x : Ins} (h : eV x = true) (w : World) : Calls Tryz.prog 7 #[.int .u32 (eR x)] w fun e w' => e = .returned (.agg #[.bool true, .int .i64 x.op, .int .i64 x.rd, .int .i64 x.s1, .int .i64 x.s2, .int .i64 x.im]) ∧ Below w.heap.size w w' := by
 obtain ⟨-, -, -, h0, h1, h2⟩ := e_is x
 have hop := eV_op h
 obtain ⟨g1, g2, g3⟩ := e_gs h
 have hne : eR x ≠ 0 := by rw [h] at h0; simpa using h0
 obtain ⟨K, hK⟩ : ∃ K : Nat, x.op = K := ⟨x.op.toNat, by omega⟩
 rw [hK] at g1 g2 g3 hop ⊢
 refine specHit (eR x) ⟨h1, h2⟩ K (by omega) _ _ _ _ (by omega) ⟨g1, g2⟩ (fun n hn1 hn2 => ?_) w
 obtain ⟨rd, s1, s2, im, R, t1, t2, t3⟩ := try_any n (eR x) (by omega) ⟨h1, h2⟩
 refine ⟨rd, s1, s2, im, R, ?_, t1, t2⟩
 rw [beq_eq_false_iff_ne]
 intro e
 subst e
 have := sig_one K n (by omega) (by omega) _ g3 t3
 omega
end
section
open Go.RowKit
def zeroB (x:Ins):Bool:=decide (x.op=0/\x.rd=0/\x.s1=0/\x.s2=0/\x.im=0)
def goodI (it:It):Bool:=
 if it.label<0 then false
 else if it.kind=1 then eV it.ins && decide (it.label=0)
 else if it.kind=3 then decide (4<=it.ins.op/\it.ins.op<=9) && decide (it.ins.im=0) && eV it.ins
 else if it.kind=2∨it.kind=4∨it.kind=5 then zeroB it.ins
 else false
def itv (it:It):Value:=.agg #[.int .i64 it.kind,.int .i64 it.ins.op,.int .i64 it.ins.rd,.int .i64 it.ins.s1,.int .i64 it.ins.s2,.int .i64 it.ins.im,.int .i64 it.label]
theorem one_belowA {w w':World} {a:Obj} (h:Below (w.heap.size+1) (w.alloc a) w'):Below w.heap.size w w':=
 ((Below.refl _ _).alloc (Nat.le_refl _) a).trans (h.mono (by omega))
theorem box7 {w w':World} {t:TypeId} {a b c d e f g:Value} (h:Below (w.heap.size+1) (w.alloc (.cells #[a,b,c,d,e,f,g] t)) w') :
  w'.cell? ⟨w.heap.size,0,none⟩=some a/\w'.cell? ⟨w.heap.size,1,none⟩=some b/\w'.cell? ⟨w.heap.size,2,none⟩=some c/\w'.cell? ⟨w.heap.size,3,none⟩=some d/\w'.cell? ⟨w.heap.size,4,none⟩=some e/\w'.cell? ⟨w.heap.size,5,none⟩=some f/\w'.cell? ⟨w.heap.size,6,none⟩=some g:=by
 refine ⟨?_,?_,?_,?_,?_,?_,?_⟩ <;> (rw [h.cell (by simp)];simp)
theorem vz_yes (k lb:Int) (w:World) (hk:k=2∨k=4∨k=5) (h:0<=lb):Calls Tryz.prog 34 #[.agg #[.int .i64 k,.int .i64 0,.int .i64 0,.int .i64 0,.int .i64 0,.int .i64 0,.int .i64 lb]] w fun e w'=>e = .returned (.bool true)/\Below w.heap.size w w':=by
 rcases hk with rfl | rfl | rfl
 all_goals
  go_enter Tryz.func34,Tryz.ntmps34
  go_wp2_with fail
  go_ret
  exact ⟨rfl,(Below.refl _ _).alloc (Nat.le_refl _) _⟩
theorem vz_no (k op rd s1 s2 im lb:Int) (w:World) (hk:k=2∨k=4∨k=5) (h:0<=lb) (hz : ¬(op=0/\rd=0/\s1=0/\s2=0/\im=0)):Calls Tryz.prog 34 #[.agg #[.int .i64 k,.int .i64 op,.int .i64 rd,.int .i64 s1,.int .i64 s2,.int .i64 im,.int .i64 lb]] w fun e w'=>e = .returned (.bool false)/\Below w.heap.size w w':=by
 have hc : ¬op=0∨¬rd=0∨¬s1=0∨¬s2=0∨¬im=0:=by omega
 clear hz
 rcases hk with rfl | rfl | rfl <;> rcases hc with hc | hc | hc | hc | hc
 all_goals
  go_enter Tryz.func34,Tryz.ntmps34
  go_wp2_with fail
  go_ret
  exact ⟨rfl,(Below.refl _ _).alloc (Nat.le_refl _) _⟩
theorem vneg (k op rd s1 s2 im lb:Int) (w:World) (h:lb<0):Calls Tryz.prog 34 #[.agg #[.int .i64 k,.int .i64 op,.int .i64 rd,.int .i64 s1,.int .i64 s2,.int .i64 im,.int .i64 lb]] w fun e w'=>e = .returned (.bool false)/\Below w.heap.size w w':=by
 go_enter Tryz.func34,Tryz.ntmps34
 go_wp2_with fail
 go_ret
 exact ⟨rfl,(Below.refl _ _).alloc (Nat.le_refl _) _⟩
theorem velse (k op rd s1 s2 im lb:Int) (w:World) (h:0<=lb) (h1 : ¬k=1) (h2 : ¬k=2) (h3 : ¬k=3) (h4 : ¬k=4) (h5 : ¬k=5):Calls Tryz.prog 34 #[.agg #[.int .i64 k,.int .i64 op,.int .i64 rd,.int .i64 s1,.int .i64 s2,.int .i64 im,.int .i64 lb]] w fun e w'=>e = .returned (.bool false)/\Below w.heap.size w w':=by
 go_enter Tryz.func34,Tryz.ntmps34
 go_wp2_with fail
 go_ret
 exact ⟨rfl,(Below.refl _ _).alloc (Nat.le_refl _) _⟩
theorem vitem_any (it:It) (w:World):Calls Tryz.prog 34 #[itv it] w fun e w'=>e = .returned (.bool (goodI it))/\Below w.heap.size w w':=by
 obtain ⟨k,x,lb⟩:=it
 by_cases hn:lb<0
 ·rw [show goodI ⟨k,x,lb⟩=false from if_pos hn]
  exact vneg k x.op x.rd x.s1 x.s2 x.im lb w hn
 have HV:=hide fun (w:World)=>vldI_any x w
 by_cases h1:k=1
 ·subst h1
  rw [show goodI ⟨1,x,lb⟩=(eV x && decide (lb=0)) by simp [goodI,hn]]
  show Calls _ _ #[.agg #[.int .i64 1,.int .i64 x.op,.int .i64 x.rd,.int .i64 x.s1,.int .i64 x.s2,.int .i64 x.im,.int .i64 lb]] _ _
  generalize eV x=b at HV ⊢
  obtain ⟨op,rd,s1,s2,im⟩:=x
  simp only at HV ⊢
  go_enter Tryz.func34,Tryz.ntmps34
  go_wp2_with fail
  refine (HV.out _).mono ?_
  rintro e w1 ⟨rfl,hb1⟩
  simp only [World.size_alloc] at hb1
  have hB1:=one_belowA hb1
  obtain ⟨-,-,-,-,-,-,c6⟩:=box7 hb1
  cases b
  ·go_wp2_with fail
   go_ret
   exact ⟨rfl,hB1⟩
  ·by_cases h0:lb=0
   ·subst h0
    go_wp2_with fail
    go_ret
    exact ⟨rfl,hB1⟩
   ·have HD:Hid (decide (lb=0)=false):=decide_eq_false h0
    go_wp2_with fail
    go_ret
    exact ⟨ret_boolA (by rw [HD.out];simpa using h0),hB1⟩
 by_cases h3:k=3
 ·subst h3
  rw [show goodI ⟨3,x,lb⟩=(decide (4<=x.op/\x.op<=9) && decide (x.im=0) && eV x) by simp [goodI,hn]]
  show Calls _ _ #[.agg #[.int .i64 3,.int .i64 x.op,.int .i64 x.rd,.int .i64 x.s1,.int .i64 x.s2,.int .i64 x.im,.int .i64 lb]] _ _
  generalize eV x=b at HV ⊢
  obtain ⟨op,rd,s1,s2,im⟩:=x
  simp only at HV ⊢
  by_cases ho1:4<=op
  ·by_cases ho2:op<=9
   ·by_cases hi:im=0
    ·subst hi
     rw [show (decide (4<=op/\op<=9) && decide ((0:Int)=0) && b)=b by simp [ho1,ho2]]
     go_enter Tryz.func34,Tryz.ntmps34
     go_wp2_with fail
     refine (HV.out _).mono ?_
     rintro e w1 ⟨rfl,hb1⟩
     simp only [World.size_alloc] at hb1
     have hB1:=one_belowA hb1
     cases b
     ·go_wp2_with fail
      go_ret
      exact ⟨rfl,hB1⟩
     ·go_wp2_with fail
      go_ret
      exact ⟨rfl,hB1⟩
    ·rw [show (decide (4<=op/\op<=9) && decide (im=0) && b)=false by simp [hi]]
     go_enter Tryz.func34,Tryz.ntmps34
     go_wp2_with fail
     go_ret
     exact ⟨rfl,(Below.refl _ _).alloc (Nat.le_refl _) _⟩
   ·rw [show (decide (4<=op/\op<=9) && decide (im=0) && b)=false by simp [ho2]]
    go_enter Tryz.func34,Tryz.ntmps34
    go_wp2_with fail
    go_ret
    exact ⟨rfl,(Below.refl _ _).alloc (Nat.le_refl _) _⟩
  ·rw [show (decide (4<=op/\op<=9) && decide (im=0) && b)=false by simp [ho1]]
   go_enter Tryz.func34,Tryz.ntmps34
   go_wp2_with fail
   go_ret
   exact ⟨rfl,(Below.refl _ _).alloc (Nat.le_refl _) _⟩
 by_cases h2:k=2∨k=4∨k=5
 ·have hg:goodI ⟨k,x,lb⟩=zeroB x:=by
   unfold goodI
   rw [if_neg hn,if_neg h1,if_neg h3,if_pos h2]
  rw [hg]
  by_cases hz:x.op=0/\x.rd=0/\x.s1=0/\x.s2=0/\x.im=0
  ·rw [show zeroB x=true from decide_eq_true hz]
   obtain ⟨e1,e2,e3,e4,e5⟩:=hz
   show Calls _ _ #[.agg #[.int .i64 k,.int .i64 x.op,.int .i64 x.rd,.int .i64 x.s1,.int .i64 x.s2,.int .i64 x.im,.int .i64 lb]] _ _
   rw [e1,e2,e3,e4,e5]
   exact vz_yes k lb w h2 (by omega)
  ·rw [show zeroB x=false from decide_eq_false hz]
   exact vz_no k x.op x.rd x.s1 x.s2 x.im lb w h2 (by omega) hz
 ·have hg:goodI ⟨k,x,lb⟩=false:=by
   unfold goodI
   rw [if_neg hn,if_neg h1,if_neg h3,if_neg h2]
  rw [hg]
  exact velse k x.op x.rd x.s1 x.s2 x.im lb w (by omega) h1 (fun h=>h2 (.inl h)) h3 (fun h=>h2 (.inr (.inl h))) (fun h=>h2 (.inr (.inr h)))
end
end Go.Proofs.YtpdndlghjldhjaaGreat
