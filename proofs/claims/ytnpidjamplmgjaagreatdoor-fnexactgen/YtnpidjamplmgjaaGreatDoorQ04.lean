import Derived.Test.YtnpidjamplmgjaaGreatDoorQ03
namespace Go.Proofs.YtnpidjamplmgjaaGreatDoor
open Go.RowKit
set_option linter.unusedVariables false
set_option linter.unusedSimpArgs false
set_option maxRecDepth 100000
set_option maxHeartbeats 16000000
def nodeTab:List Value:=[.bool false,.int .i64 0,.int .i64 0,.int .i64 0,.bool false,.int .i64 (-2147483648),.int .i64 2147483647,.int .i64 0,.bool true,.int .i64 0,.int .i64 0,.int .i64 0,.bool true,.int .i64 0,.int .i64 0,.int .i64 1,.bool true,.int .i64 0,.int .i64 6,.int .i64 0,.bool false,.int .i64 0,.int .i64 0,.int .i64 0,.bool false,.int .i64 0,.int .i64 2,.int .i64 1,.bool false,.int .i64 0,.int .i64 15,.int .i64 2,.bool false,.int .i64 0,.int .i64 0,.int .i64 2,.bool false,.int .i64 0,.int .i64 0,.int .i64 2]
def stmtTab:List Bool:=[false,false,false,false,false,true,false,false,false,false,true,false,false,false,false,true,true,false,false,false,false,false,true,true,false,false,false,true,false,false,false,false,false,false,false,false,false,false,false,false,false,false,false,false,true]
structure Tab (w:World):Prop where
 node : ∀j,j<40->w.cell? ⟨1,j,none⟩=some (nodeTab.getD j .nilFunc)
 stmt:True->∀j,j<45->w.cell? ⟨2,j,none⟩=some (.bool (stmtTab.getD j false))
 size:1<w.heap.size/\2<w.heap.size
theorem Tab.below {w w':World} {B:Nat} (h:Tab w) (hB:1<B/\2<B) (hb:Below B w w'):Tab w':=by
 refine ⟨fun j hj => ?_,fun ht j hj => ?_,Nat.lt_of_lt_of_le h.size.1 hb.size,Nat.lt_of_lt_of_le h.size.2 hb.size⟩
 ·rw [hb.cell hB.1];exact h.node j hj
 ·rw [hb.cell hB.2];exact h.stmt ht j hj
theorem asked_yes (s:ByteArray) (w:World):Calls Tryz.prog 201 #[.string s,.bool true] w fun e w'=>e = .returned (.bool (nameB s))/\Below w.heap.size w w':=by
 go_enter Tryz.func201,Tryz.ntmps201
 go_wp2_with fail
 refine (vname_any _ _).mono ?_
 rintro e w' ⟨rfl,hb⟩
 go_wp2_with fail
 go_ret
 exact ⟨rfl,hb⟩
theorem asked_no (s:ByteArray) (w:World):Calls Tryz.prog 201 #[.string s,.bool false] w fun e w'=>e = .returned (.bool (s.toList == []))/\Below w.heap.size w w':=by
 go_enter Tryz.func201,Tryz.ntmps201
 go_wp2_with fail
 go_ret
 exact ⟨by simp,Below.refl _ _⟩
theorem Tab.nodeUp {w:World} (h:Tab w) (j:Nat) (hj:j<40) (o:Obj):(w.alloc o).cell? ⟨1,j,none⟩=some (nodeTab.getD j .nilFunc):=
 (h.below h.size ((Below.refl _ _).alloc (Nat.le_refl _) o)).node j hj
theorem Tab.stmtUp {w:World} (h:Tab w) (j:Nat) (hj:j<45) (o:Obj) (ht:True:=by trivial):(w.alloc o).cell? ⟨2,j,none⟩=some (.bool (stmtTab.getD j false)):=
 (h.below h.size ((Below.refl _ _).alloc (Nat.le_refl _) o)).stmt ht j hj
theorem Tab.up1 {w:World} (h:Tab w) (o:Obj):(w.alloc o).cell? ⟨1,4,none⟩=some (.bool false)/\(w.alloc o).cell? ⟨1,5,none⟩=some (.int .i64 (-2147483648))/\(w.alloc o).cell? ⟨1,6,none⟩=some (.int .i64 2147483647)/\(w.alloc o).cell? ⟨1,7,none⟩=some (.int .i64 0):=by
 exact ⟨h.nodeUp 4 o_ o,h.nodeUp 5 o_ o,h.nodeUp 6 o_ o,h.nodeUp 7 o_ o⟩
theorem Tab.up2 {w:World} (h:Tab w) (o:Obj):(w.alloc o).cell? ⟨1,8,none⟩=some (.bool true)/\(w.alloc o).cell? ⟨1,9,none⟩=some (.int .i64 0)/\(w.alloc o).cell? ⟨1,10,none⟩=some (.int .i64 0)/\(w.alloc o).cell? ⟨1,11,none⟩=some (.int .i64 0):=by
 exact ⟨h.nodeUp 8 o_ o,h.nodeUp 9 o_ o,h.nodeUp 10 o_ o,h.nodeUp 11 o_ o⟩
theorem Tab.up3 {w:World} (h:Tab w) (o:Obj):(w.alloc o).cell? ⟨1,12,none⟩=some (.bool true)/\(w.alloc o).cell? ⟨1,13,none⟩=some (.int .i64 0)/\(w.alloc o).cell? ⟨1,14,none⟩=some (.int .i64 0)/\(w.alloc o).cell? ⟨1,15,none⟩=some (.int .i64 1):=by
 exact ⟨h.nodeUp 12 o_ o,h.nodeUp 13 o_ o,h.nodeUp 14 o_ o,h.nodeUp 15 o_ o⟩
theorem Tab.up4 {w:World} (h:Tab w) (o:Obj):(w.alloc o).cell? ⟨1,16,none⟩=some (.bool true)/\(w.alloc o).cell? ⟨1,17,none⟩=some (.int .i64 0)/\(w.alloc o).cell? ⟨1,18,none⟩=some (.int .i64 6)/\(w.alloc o).cell? ⟨1,19,none⟩=some (.int .i64 0):=by
 exact ⟨h.nodeUp 16 o_ o,h.nodeUp 17 o_ o,h.nodeUp 18 o_ o,h.nodeUp 19 o_ o⟩
theorem Tab.up5 {w:World} (h:Tab w) (o:Obj):(w.alloc o).cell? ⟨1,20,none⟩=some (.bool false)/\(w.alloc o).cell? ⟨1,21,none⟩=some (.int .i64 0)/\(w.alloc o).cell? ⟨1,22,none⟩=some (.int .i64 0)/\(w.alloc o).cell? ⟨1,23,none⟩=some (.int .i64 0):=by
 exact ⟨h.nodeUp 20 o_ o,h.nodeUp 21 o_ o,h.nodeUp 22 o_ o,h.nodeUp 23 o_ o⟩
theorem Tab.up6 {w:World} (h:Tab w) (o:Obj):(w.alloc o).cell? ⟨1,24,none⟩=some (.bool false)/\(w.alloc o).cell? ⟨1,25,none⟩=some (.int .i64 0)/\(w.alloc o).cell? ⟨1,26,none⟩=some (.int .i64 2)/\(w.alloc o).cell? ⟨1,27,none⟩=some (.int .i64 1):=by
 exact ⟨h.nodeUp 24 o_ o,h.nodeUp 25 o_ o,h.nodeUp 26 o_ o,h.nodeUp 27 o_ o⟩
theorem Tab.up7 {w:World} (h:Tab w) (o:Obj):(w.alloc o).cell? ⟨1,28,none⟩=some (.bool false)/\(w.alloc o).cell? ⟨1,29,none⟩=some (.int .i64 0)/\(w.alloc o).cell? ⟨1,30,none⟩=some (.int .i64 15)/\(w.alloc o).cell? ⟨1,31,none⟩=some (.int .i64 2):=by
 exact ⟨h.nodeUp 28 o_ o,h.nodeUp 29 o_ o,h.nodeUp 30 o_ o,h.nodeUp 31 o_ o⟩
theorem Tab.up8 {w:World} (h:Tab w) (o:Obj):(w.alloc o).cell? ⟨1,32,none⟩=some (.bool false)/\(w.alloc o).cell? ⟨1,33,none⟩=some (.int .i64 0)/\(w.alloc o).cell? ⟨1,34,none⟩=some (.int .i64 0)/\(w.alloc o).cell? ⟨1,35,none⟩=some (.int .i64 2):=by
 exact ⟨h.nodeUp 32 o_ o,h.nodeUp 33 o_ o,h.nodeUp 34 o_ o,h.nodeUp 35 o_ o⟩
theorem Tab.up9 {w:World} (h:Tab w) (o:Obj):(w.alloc o).cell? ⟨1,36,none⟩=some (.bool false)/\(w.alloc o).cell? ⟨1,37,none⟩=some (.int .i64 0)/\(w.alloc o).cell? ⟨1,38,none⟩=some (.int .i64 0)/\(w.alloc o).cell? ⟨1,39,none⟩=some (.int .i64 2):=by
 exact ⟨h.nodeUp 36 o_ o,h.nodeUp 37 o_ o,h.nodeUp 38 o_ o,h.nodeUp 39 o_ o⟩
theorem opc1 (v:Int) (s:ByteArray) (w:World) (hT:Tab w):Calls Tryz.prog 134 #[.agg #[.int .i64 1,.int .i64 v,.string s]] w fun e w'=>e = .returned (.int .i64 (arity ⟨1,v,s⟩))/\Below w.heap.size w w':=by
 obtain ⟨c0,c1,c2,c3⟩:=hT.up1 (.cells #[.int .i64 1,.int .i64 v,.string s] 151)
 go_enter Tryz.func134,Tryz.ntmps134
 go_wp2_with fail
 go_ret
 exact ⟨ret_int (by simp [arity]),(Below.refl _ _).alloc (Nat.le_refl _) _⟩
theorem opc2 (v:Int) (s:ByteArray) (w:World) (hT:Tab w):Calls Tryz.prog 134 #[.agg #[.int .i64 2,.int .i64 v,.string s]] w fun e w'=>e = .returned (.int .i64 (arity ⟨2,v,s⟩))/\Below w.heap.size w w':=by
 obtain ⟨c0,c1,c2,c3⟩:=hT.up2 (.cells #[.int .i64 2,.int .i64 v,.string s] 151)
 go_enter Tryz.func134,Tryz.ntmps134
 go_wp2_with fail
 go_ret
 exact ⟨ret_int (by simp [arity]),(Below.refl _ _).alloc (Nat.le_refl _) _⟩
theorem opc3 (v:Int) (s:ByteArray) (w:World) (hT:Tab w):Calls Tryz.prog 134 #[.agg #[.int .i64 3,.int .i64 v,.string s]] w fun e w'=>e = .returned (.int .i64 (arity ⟨3,v,s⟩))/\Below w.heap.size w w':=by
 obtain ⟨c0,c1,c2,c3⟩:=hT.up3 (.cells #[.int .i64 3,.int .i64 v,.string s] 151)
 go_enter Tryz.func134,Tryz.ntmps134
 go_wp2_with fail
 go_ret
 exact ⟨ret_int (by simp [arity]),(Below.refl _ _).alloc (Nat.le_refl _) _⟩
theorem opc4 (v:Int) (s:ByteArray) (w:World) (hT:Tab w):Calls Tryz.prog 134 #[.agg #[.int .i64 4,.int .i64 v,.string s]] w fun e w'=>e = .returned (.int .i64 (arity ⟨4,v,s⟩))/\Below w.heap.size w w':=by
 obtain ⟨c0,c1,c2,c3⟩:=hT.up4 (.cells #[.int .i64 4,.int .i64 v,.string s] 151)
 go_enter Tryz.func134,Tryz.ntmps134
 go_wp2_with fail
 go_ret
 exact ⟨ret_int (by simp [arity]),(Below.refl _ _).alloc (Nat.le_refl _) _⟩
theorem opc5 (v:Int) (s:ByteArray) (w:World) (hT:Tab w):Calls Tryz.prog 134 #[.agg #[.int .i64 5,.int .i64 v,.string s]] w fun e w'=>e = .returned (.int .i64 (arity ⟨5,v,s⟩))/\Below w.heap.size w w':=by
 obtain ⟨c0,c1,c2,c3⟩:=hT.up5 (.cells #[.int .i64 5,.int .i64 v,.string s] 151)
 go_enter Tryz.func134,Tryz.ntmps134
 go_wp2_with fail
 go_ret
 exact ⟨ret_int (by simp [arity]),(Below.refl _ _).alloc (Nat.le_refl _) _⟩
theorem opc6 (v:Int) (s:ByteArray) (w:World) (hT:Tab w):Calls Tryz.prog 134 #[.agg #[.int .i64 6,.int .i64 v,.string s]] w fun e w'=>e = .returned (.int .i64 (arity ⟨6,v,s⟩))/\Below w.heap.size w w':=by
 obtain ⟨c0,c1,c2,c3⟩:=hT.up6 (.cells #[.int .i64 6,.int .i64 v,.string s] 151)
 go_enter Tryz.func134,Tryz.ntmps134
 go_wp2_with fail
 go_ret
 exact ⟨ret_int (by simp [arity]),(Below.refl _ _).alloc (Nat.le_refl _) _⟩
theorem opc7 (v:Int) (s:ByteArray) (w:World) (hT:Tab w):Calls Tryz.prog 134 #[.agg #[.int .i64 7,.int .i64 v,.string s]] w fun e w'=>e = .returned (.int .i64 (arity ⟨7,v,s⟩))/\Below w.heap.size w w':=by
 obtain ⟨c0,c1,c2,c3⟩:=hT.up7 (.cells #[.int .i64 7,.int .i64 v,.string s] 151)
 go_enter Tryz.func134,Tryz.ntmps134
 go_wp2_with fail
 go_ret
 exact ⟨ret_int (by simp [arity]),(Below.refl _ _).alloc (Nat.le_refl _) _⟩
theorem opc8 (v:Int) (s:ByteArray) (w:World) (hT:Tab w):Calls Tryz.prog 134 #[.agg #[.int .i64 8,.int .i64 v,.string s]] w fun e w'=>e = .returned (.int .i64 (arity ⟨8,v,s⟩))/\Below w.heap.size w w':=by
 obtain ⟨c0,c1,c2,c3⟩:=hT.up8 (.cells #[.int .i64 8,.int .i64 v,.string s] 151)
 go_enter Tryz.func134,Tryz.ntmps134
 go_wp2_with fail
 go_ret
 exact ⟨ret_int (by simp [arity]),(Below.refl _ _).alloc (Nat.le_refl _) _⟩
theorem opc9 (v:Int) (s:ByteArray) (w:World) (hT:Tab w):Calls Tryz.prog 134 #[.agg #[.int .i64 9,.int .i64 v,.string s]] w fun e w'=>e = .returned (.int .i64 (arity ⟨9,v,s⟩))/\Below w.heap.size w w':=by
 obtain ⟨c0,c1,c2,c3⟩:=hT.up9 (.cells #[.int .i64 9,.int .i64 v,.string s] 151)
 go_enter Tryz.func134,Tryz.ntmps134
 go_wp2_with fail
 go_ret
 exact ⟨ret_int (by simp [arity]),(Below.refl _ _).alloc (Nat.le_refl _) _⟩
theorem opc_any (n:Nd) (w:World) (hT:Tab w) (hk:1<=n.kind/\n.kind<=9):Calls Tryz.prog 134 #[.agg #[.int .i64 n.kind,.int .i64 n.val,.string n.name]] w fun e w'=>e = .returned (.int .i64 (arity n))/\Below w.heap.size w w':=by
 obtain ⟨k,v,s⟩:=n
 have h9:k=1∨k=2∨k=3∨k=4∨k=5∨k=6∨k=7∨k=8∨k=9:=by simp only at hk;omega
 rcases h9 with rfl | rfl | rfl | rfl | rfl | rfl | rfl | rfl | rfl
 ·exact opc1 v s w hT
 ·exact opc2 v s w hT
 ·exact opc3 v s w hT
 ·exact opc4 v s w hT
 ·exact opc5 v s w hT
 ·exact opc6 v s w hT
 ·exact opc7 v s w hT
 ·exact opc8 v s w hT
 ·exact opc9 v s w hT
theorem vnode1 (v:Int) (s:ByteArray) (w:World) (hT:Tab w):Calls Tryz.prog 215 #[.agg #[.int .i64 1,.int .i64 v,.string s]] w fun e w'=>e = .returned (.bool (nodeB ⟨1,v,s⟩))/\Below w.heap.size w w':=by
 obtain ⟨c0,c1,c2,c3⟩:=hT.up1 (.cells #[.int .i64 1,.int .i64 v,.string s] 151)
 by_cases h1:v<(-2147483648)
 ·go_enter Tryz.func215,Tryz.ntmps215
  go_wp2_with fail
  go_ret
  exact ⟨ret_bool (by simp [nodeB];omega),(bel_a _ _).alloc (by simp) _⟩
 ·by_cases h2:2147483647<v
  ·go_enter Tryz.func215,Tryz.ntmps215
   go_wp2_with fail
   go_ret
   exact ⟨ret_bool (by simp [nodeB];omega),(bel_a _ _).alloc (by simp) _⟩
  ·go_enter Tryz.func215,Tryz.ntmps215
   go_wp2_with fail
   refine (asked_no _ _).mono ?_
   rintro e w' ⟨rfl,hb⟩
   go_wp2_with fail
   go_ret
   refine ⟨ret_bool ?_,((bel_a _ _).alloc (by simp) _).trans (hb.mono (by simp;omega))⟩
   simp [nodeB];omega
theorem vnode2 (v:Int) (s:ByteArray) (w:World) (hT:Tab w):Calls Tryz.prog 215 #[.agg #[.int .i64 2,.int .i64 v,.string s]] w fun e w'=>e = .returned (.bool (nodeB ⟨2,v,s⟩))/\Below w.heap.size w w':=by
 obtain ⟨c0,c1,c2,c3⟩:=hT.up2 (.cells #[.int .i64 2,.int .i64 v,.string s] 151)
 by_cases h1:v<0
 ·go_enter Tryz.func215,Tryz.ntmps215
  go_wp2_with fail
  go_ret
  exact ⟨ret_bool (by simp [nodeB];omega),(bel_a _ _).alloc (by simp) _⟩
 ·by_cases h2:0<v
  ·go_enter Tryz.func215,Tryz.ntmps215
   go_wp2_with fail
   go_ret
   exact ⟨ret_bool (by simp [nodeB];omega),(bel_a _ _).alloc (by simp) _⟩
  ·go_enter Tryz.func215,Tryz.ntmps215
   go_wp2_with fail
   refine (asked_yes _ _).mono ?_
   rintro e w' ⟨rfl,hb⟩
   go_wp2_with fail
   go_ret
   refine ⟨ret_bool ?_,((bel_a _ _).alloc (by simp) _).trans (hb.mono (by simp;omega))⟩
   simp [nodeB];omega
theorem vnode3 (v:Int) (s:ByteArray) (w:World) (hT:Tab w):Calls Tryz.prog 215 #[.agg #[.int .i64 3,.int .i64 v,.string s]] w fun e w'=>e = .returned (.bool (nodeB ⟨3,v,s⟩))/\Below w.heap.size w w':=by
 obtain ⟨c0,c1,c2,c3⟩:=hT.up3 (.cells #[.int .i64 3,.int .i64 v,.string s] 151)
 by_cases h1:v<0
 ·go_enter Tryz.func215,Tryz.ntmps215
  go_wp2_with fail
  go_ret
  exact ⟨ret_bool (by simp [nodeB];omega),(bel_a _ _).alloc (by simp) _⟩
 ·by_cases h2:0<v
  ·go_enter Tryz.func215,Tryz.ntmps215
   go_wp2_with fail
   go_ret
   exact ⟨ret_bool (by simp [nodeB];omega),(bel_a _ _).alloc (by simp) _⟩
  ·go_enter Tryz.func215,Tryz.ntmps215
   go_wp2_with fail
   refine (asked_yes _ _).mono ?_
   rintro e w' ⟨rfl,hb⟩
   go_wp2_with fail
   go_ret
   refine ⟨ret_bool ?_,((bel_a _ _).alloc (by simp) _).trans (hb.mono (by simp;omega))⟩
   simp [nodeB];omega
theorem vnode4 (v:Int) (s:ByteArray) (w:World) (hT:Tab w):Calls Tryz.prog 215 #[.agg #[.int .i64 4,.int .i64 v,.string s]] w fun e w'=>e = .returned (.bool (nodeB ⟨4,v,s⟩))/\Below w.heap.size w w':=by
 obtain ⟨c0,c1,c2,c3⟩:=hT.up4 (.cells #[.int .i64 4,.int .i64 v,.string s] 151)
 by_cases h1:v<0
 ·go_enter Tryz.func215,Tryz.ntmps215
  go_wp2_with fail
  go_ret
  exact ⟨ret_bool (by simp [nodeB];omega),(bel_a _ _).alloc (by simp) _⟩
 ·by_cases h2:6<v
  ·go_enter Tryz.func215,Tryz.ntmps215
   go_wp2_with fail
   go_ret
   exact ⟨ret_bool (by simp [nodeB];omega),(bel_a _ _).alloc (by simp) _⟩
  ·go_enter Tryz.func215,Tryz.ntmps215
   go_wp2_with fail
   refine (asked_yes _ _).mono ?_
   rintro e w' ⟨rfl,hb⟩
   go_wp2_with fail
   go_ret
   refine ⟨ret_bool ?_,((bel_a _ _).alloc (by simp) _).trans (hb.mono (by simp;omega))⟩
   simp [nodeB];omega
theorem vnode5 (v:Int) (s:ByteArray) (w:World) (hT:Tab w):Calls Tryz.prog 215 #[.agg #[.int .i64 5,.int .i64 v,.string s]] w fun e w'=>e = .returned (.bool (nodeB ⟨5,v,s⟩))/\Below w.heap.size w w':=by
 obtain ⟨c0,c1,c2,c3⟩:=hT.up5 (.cells #[.int .i64 5,.int .i64 v,.string s] 151)
 by_cases h1:v<0
 ·go_enter Tryz.func215,Tryz.ntmps215
  go_wp2_with fail
  go_ret
  exact ⟨ret_bool (by simp [nodeB];omega),(bel_a _ _).alloc (by simp) _⟩
 ·by_cases h2:0<v
  ·go_enter Tryz.func215,Tryz.ntmps215
   go_wp2_with fail
   go_ret
   exact ⟨ret_bool (by simp [nodeB];omega),(bel_a _ _).alloc (by simp) _⟩
  ·go_enter Tryz.func215,Tryz.ntmps215
   go_wp2_with fail
   refine (asked_no _ _).mono ?_
   rintro e w' ⟨rfl,hb⟩
   go_wp2_with fail
   go_ret
   refine ⟨ret_bool ?_,((bel_a _ _).alloc (by simp) _).trans (hb.mono (by simp;omega))⟩
   simp [nodeB];omega
theorem vnode6 (v:Int) (s:ByteArray) (w:World) (hT:Tab w):Calls Tryz.prog 215 #[.agg #[.int .i64 6,.int .i64 v,.string s]] w fun e w'=>e = .returned (.bool (nodeB ⟨6,v,s⟩))/\Below w.heap.size w w':=by
 obtain ⟨c0,c1,c2,c3⟩:=hT.up6 (.cells #[.int .i64 6,.int .i64 v,.string s] 151)
 by_cases h1:v<0
 ·go_enter Tryz.func215,Tryz.ntmps215
  go_wp2_with fail
  go_ret
  exact ⟨ret_bool (by simp [nodeB];omega),(bel_a _ _).alloc (by simp) _⟩
 ·by_cases h2:2<v
  ·go_enter Tryz.func215,Tryz.ntmps215
   go_wp2_with fail
   go_ret
   exact ⟨ret_bool (by simp [nodeB];omega),(bel_a _ _).alloc (by simp) _⟩
  ·go_enter Tryz.func215,Tryz.ntmps215
   go_wp2_with fail
   refine (asked_no _ _).mono ?_
   rintro e w' ⟨rfl,hb⟩
   go_wp2_with fail
   go_ret
   refine ⟨ret_bool ?_,((bel_a _ _).alloc (by simp) _).trans (hb.mono (by simp;omega))⟩
   simp [nodeB];omega
theorem vnode7 (v:Int) (s:ByteArray) (w:World) (hT:Tab w):Calls Tryz.prog 215 #[.agg #[.int .i64 7,.int .i64 v,.string s]] w fun e w'=>e = .returned (.bool (nodeB ⟨7,v,s⟩))/\Below w.heap.size w w':=by
 obtain ⟨c0,c1,c2,c3⟩:=hT.up7 (.cells #[.int .i64 7,.int .i64 v,.string s] 151)
 by_cases h1:v<0
 ·go_enter Tryz.func215,Tryz.ntmps215
  go_wp2_with fail
  go_ret
  exact ⟨ret_bool (by simp [nodeB];omega),(bel_a _ _).alloc (by simp) _⟩
 ·by_cases h2:15<v
  ·go_enter Tryz.func215,Tryz.ntmps215
   go_wp2_with fail
   go_ret
   exact ⟨ret_bool (by simp [nodeB];omega),(bel_a _ _).alloc (by simp) _⟩
  ·go_enter Tryz.func215,Tryz.ntmps215
   go_wp2_with fail
   refine (asked_no _ _).mono ?_
   rintro e w' ⟨rfl,hb⟩
   go_wp2_with fail
   go_ret
   refine ⟨ret_bool ?_,((bel_a _ _).alloc (by simp) _).trans (hb.mono (by simp;omega))⟩
   simp [nodeB];omega
theorem vnode8 (v:Int) (s:ByteArray) (w:World) (hT:Tab w):Calls Tryz.prog 215 #[.agg #[.int .i64 8,.int .i64 v,.string s]] w fun e w'=>e = .returned (.bool (nodeB ⟨8,v,s⟩))/\Below w.heap.size w w':=by
 obtain ⟨c0,c1,c2,c3⟩:=hT.up8 (.cells #[.int .i64 8,.int .i64 v,.string s] 151)
 by_cases h1:v<0
 ·go_enter Tryz.func215,Tryz.ntmps215
  go_wp2_with fail
  go_ret
  exact ⟨ret_bool (by simp [nodeB];omega),(bel_a _ _).alloc (by simp) _⟩
 ·by_cases h2:0<v
  ·go_enter Tryz.func215,Tryz.ntmps215
   go_wp2_with fail
   go_ret
   exact ⟨ret_bool (by simp [nodeB];omega),(bel_a _ _).alloc (by simp) _⟩
  ·go_enter Tryz.func215,Tryz.ntmps215
   go_wp2_with fail
   refine (asked_no _ _).mono ?_
   rintro e w' ⟨rfl,hb⟩
   go_wp2_with fail
   go_ret
   refine ⟨ret_bool ?_,((bel_a _ _).alloc (by simp) _).trans (hb.mono (by simp;omega))⟩
   simp [nodeB];omega
theorem vnode9 (v:Int) (s:ByteArray) (w:World) (hT:Tab w):Calls Tryz.prog 215 #[.agg #[.int .i64 9,.int .i64 v,.string s]] w fun e w'=>e = .returned (.bool (nodeB ⟨9,v,s⟩))/\Below w.heap.size w w':=by
 obtain ⟨c0,c1,c2,c3⟩:=hT.up9 (.cells #[.int .i64 9,.int .i64 v,.string s] 151)
 by_cases h1:v<0
 ·go_enter Tryz.func215,Tryz.ntmps215
  go_wp2_with fail
  go_ret
  exact ⟨ret_bool (by simp [nodeB];omega),(bel_a _ _).alloc (by simp) _⟩
 ·by_cases h2:0<v
  ·go_enter Tryz.func215,Tryz.ntmps215
   go_wp2_with fail
   go_ret
   exact ⟨ret_bool (by simp [nodeB];omega),(bel_a _ _).alloc (by simp) _⟩
  ·go_enter Tryz.func215,Tryz.ntmps215
   go_wp2_with fail
   refine (asked_no _ _).mono ?_
   rintro e w' ⟨rfl,hb⟩
   go_wp2_with fail
   go_ret
   refine ⟨ret_bool ?_,((bel_a _ _).alloc (by simp) _).trans (hb.mono (by simp;omega))⟩
   simp [nodeB];omega
theorem vnodeX (k v:Int) (s:ByteArray) (w:World) (hk:k<1∨9<k):Calls Tryz.prog 215 #[.agg #[.int .i64 k,.int .i64 v,.string s]] w fun e w'=>e = .returned (.bool (nodeB ⟨k,v,s⟩))/\Below w.heap.size w w':=by
 have hn:nodeB ⟨k,v,s⟩=false:=by
  simp only [nodeB]
  rw [if_neg o_,if_neg o_,if_neg o_,if_neg o_,if_neg o_,if_neg o_]
 rw [hn]
 rcases hk with hk | hk
 ·go_enter Tryz.func215,Tryz.ntmps215
  go_wp2_with fail
  go_ret
  exact ⟨rfl,(Below.refl _ _).alloc (Nat.le_refl _) _⟩
 ·have h':1<=k:=by omega
  go_enter Tryz.func215,Tryz.ntmps215
  go_wp2_with fail
  go_ret
  exact ⟨rfl,(Below.refl _ _).alloc (Nat.le_refl _) _⟩
theorem vnode_any (n:Nd) (w:World) (hT:Tab w):Calls Tryz.prog 215 #[.agg #[.int .i64 n.kind,.int .i64 n.val,.string n.name]] w fun e w'=>e = .returned (.bool (nodeB n))/\Below w.heap.size w w':=by
 obtain ⟨k,v,s⟩:=n
 by_cases hk:k<1∨9<k
 ·exact vnodeX k v s w hk
 have h9:k=1∨k=2∨k=3∨k=4∨k=5∨k=6∨k=7∨k=8∨k=9:=by omega
 rcases h9 with rfl | rfl | rfl | rfl | rfl | rfl | rfl | rfl | rfl
 ·exact vnode1 v s w hT
 ·exact vnode2 v s w hT
 ·exact vnode3 v s w hT
 ·exact vnode4 v s w hT
 ·exact vnode5 v s w hT
 ·exact vnode6 v s w hT
 ·exact vnode7 v s w hT
 ·exact vnode8 v s w hT
 ·exact vnode9 v s w hT
def NodesC (w:World) (b off:Nat) (ns:List Nd):Prop:=∀j (h:j<ns.length),
 w.cell? ⟨b,off+j*3,none⟩=some (.int .i64 ns[j].kind)/\w.cell? ⟨b,off+j*3+1,none⟩=some (.int .i64 ns[j].val)/\w.cell? ⟨b,off+j*3+2,none⟩=some (.string ns[j].name)
theorem NodesC.below {w w':World} {b off:Nat} {ns:List Nd} (h:NodesC w b off ns) (hb:Below w.heap.size w w'):NodesC w' b off ns:=by
 intro j hj
 obtain ⟨c0,c1,c2⟩:=h j hj
 have hlt:=World.block_lt_of_cell? _ _ c0
 exact ⟨(hb.cell hlt).trans c0,(hb.cell (p:=⟨b,off+j*3+1,none⟩) hlt).trans c1,(hb.cell (p:=⟨b,off+j*3+2,none⟩) hlt).trans c2⟩
def Nodes (w:World) (v:Value) (ns:List Nd):Prop:=∃a cap,v = .slice a ns.length cap/\ns.length<=cap/\cap<=9223372036854775807/\(0<ns.length->∃b off,a=some ⟨b,off,none⟩/\NodesC w b off ns)
theorem Nodes.below {w w':World} {v:Value} {ns:List Nd} (h:Nodes w v ns) (hb:Below w.heap.size w w'):Nodes w' v ns:=by
 obtain ⟨a,cap,rfl,hl,hm,h⟩:=h
 refine ⟨a,cap,rfl,hl,hm,fun h0 => ?_⟩
 obtain ⟨b,off,rfl,hc⟩:=h h0
 exact ⟨b,off,rfl,hc.below hb⟩
theorem box3 {w w':World} {t:TypeId} {x y z:Value} (h:Below (w.heap.size+1) (w.alloc (.cells #[x,y,z] t)) w') :
  w'.cell? ⟨w.heap.size,0,none⟩=some x/\w'.cell? ⟨w.heap.size,1,none⟩=some y/\w'.cell? ⟨w.heap.size,2,none⟩=some z:=by
 refine ⟨?_,?_,?_⟩ <;> (rw [h.cell (by simp)];simp)
theorem one_any (v:Value) (ns:List Nd) (w:World) (hT:Tab w) (hl:ns.length<=1048576) (hc:Nodes w v ns) :
  Calls Tryz.prog 202 #[v] w fun e w'=>e = .returned (.bool (oneB ns))/\Below w.heap.size w w':=by
 obtain ⟨a,cap,rfl,hcl,hcm,hc⟩:=hc
 have HC:=hide hc
 clear hc
 go_enter Tryz.func202,Tryz.ntmps202
 go_wp2_with fail
 go_loopw [3,8] (fun r i wr=>∃(k:Nat) (q:Int),k<=ns.length/\i = .int .i64 k/\r = .int .i64 q/\wholeTo (ns.take k) 0=some q/\Bl w wr) (fun _ i _=>ns.length-(intOf i).toNat)
 case atStart=>exact ⟨0,0,Nat.zero_le _,rfl,rfl,rfl,Below.refl _ _⟩
 case round=>
  obtain ⟨k,q,hk,rfl,rfl,hq,hB⟩:=hrel
  have HQ:=hide hq
  have hqb:=wholeTo_bd _ _ _ hq (Int.le_refl 0)
  have hql:q<=1048576:=by have:=hqb.2;simp at this;omega
  have hq0:=hqb.1
  clear hq hqb
  by_cases hlt:k<ns.length
  ·obtain ⟨b,off,rfl,hc⟩:=HC.out o_
   obtain ⟨d0,d1,d2⟩:=(hc.below hB) k hlt
   have HT:Hid (Tab wr):=hT.below hT.size hB
   have hsz:=hT.size
   have HS:Hid _:=wholeTo_step ns k q hlt HQ.out
   clear hc hT HC
   generalize hn:ns[k]=n at d0 d1 d2 HS
   clear hn
   go_wp2_with fail
   refine (vnode_any n _ (HT.out.below HT.out.size (bel_a _ _))).mono ?_
   rintro e w1 ⟨rfl,hb1⟩
   simp only [World.size_alloc] at hb1
   have hB1:=hB.trans (((bel_a _ _).trans (hb1.mono o_)).mono hB.size)
   cases hv:nodeB n
   ·go_wp2_with fail
    go_ret
    refine ⟨ret_bool (oneB_none ns (k+1) ?_).symm,hB1⟩
    rw [HS.out,if_neg (by simp [hv])]
   ·obtain ⟨e0,e1,e2⟩:=box3 hb1
    have hT1:Hid (Tab w1):=HT.out.below HT.out.size ((bel_a _ _).trans (hb1.mono o_))
    have hkb:=kind_good hv
    have hab:=arity_good hv
    go_wp2_with fail
    refine (opc_any n _ hT1.out hkb).mono ?_
    rintro e w2 ⟨rfl,hb2⟩
    have hb2':=hb1.trans (hb2.mono (by have:=hb1.size;simp at this;omega))
    have hB2:=hB.trans (((bel_a _ _).trans (hb2'.mono o_)).mono hB.size)
    obtain ⟨f0,f1,f2⟩:=box3 hb2'
    have hT2:Hid (Tab w2):=hT1.out.below hT1.out.size hb2
    clear e0 e1 e2 d0 d1 d2
    by_cases ha:q<arity n
    ·go_wp2_with fail
     go_ret
     refine ⟨ret_bool (oneB_none ns (k+1) ?_).symm,hB2⟩
     rw [HS.out,if_neg o_]
    ·go_wp2_with fail
     refine (opc_any n _ hT2.out hkb).mono ?_
     rintro e w3 ⟨rfl,hb3⟩
     have hB3:=hB2.trans (hb3.mono hB2.size)
     clear f0 f1 f2
     go_wp2_with fail
     go_roundw
     case rel=>exact ⟨k+1,q+1-arity n,by omega,by go_num,by rw [show q+(1-arity n)=q+1-arity n by omega],by rw [HS.out,if_pos ⟨hv,by omega⟩],hB3⟩
     case measure=>simp [intOf];omega
  ·go_wp2_with fail
   go_ret
   obtain rfl:k=ns.length:=by omega
   exact ⟨ret_bool (oneB_some ns q HQ.out).symm,hB⟩
theorem arity_nd (n:Nd) (w:World):Calls Tryz.prog 116 #[.agg #[.int .i64 n.kind,.int .i64 n.val,.string n.name]] w fun e w'=>e = .returned (.int .i64 (arity n))/\Below w.heap.size w w':=arity_any n.kind n.val n.name w
theorem from_any (v:Value) (ns:List Nd) (w:World) (hl:ns.length<=1048576) (hg:goodAll ns) (hc:Nodes w v ns) :
  Calls Tryz.prog 117 #[v] w fun e w'=>∃r,fromP ns r /\ -1<=r/\r<=1048576/\e = .returned (.int .i64 r)/\Below w.heap.size w w':=by
 obtain ⟨a,cap,rfl,hcl,hcm,hc⟩:=hc
 have HC:=hide hc
 have HG:=hide hg
 clear hc hg
 go_enter Tryz.func117,Tryz.ntmps117
 go_wp2_with fail
 go_loopw [3,4] (fun r i wr=>∃(k:Nat) (q:Int),k<=ns.length/\i = .int .i64 k/\r = .int .i64 q/\q=defc (ns.drop k)/\0<=q/\(∀j,k<j->j<=ns.length->1<=defc (ns.drop j))/\Bl w wr) (fun _ i _=>(intOf i).toNat)
 case atStart=>exact ⟨ns.length,1,Nat.le_refl _,rfl,rfl,by simp [defc],by omega,fun j h1 h2=>absurd h2 o_,Below.refl _ _⟩
 case round=>
  obtain ⟨k,q,hk,rfl,rfl,hq,hq0,hj,hB⟩:=hrel
  have hqb:=defc_le _ (goodAll_drop HG.out k)
  have hq1:q<=6291457:=by rw [hq];simp at hqb;omega
  have HQ:=hide hq
  have HJ:=hide hj
  clear hq hj hqb
  by_cases h0:0<q
  ·by_cases hk0:k=0
   ·subst hk0
    go_wp2_with fail
    go_ret
    refine ⟨-1,.inr ⟨rfl,fun j hj => ?_⟩,by omega,by omega,rfl,hB⟩
    rcases Nat.eq_zero_or_pos j with rfl | hp
    ·rw [<-HQ.out];omega
    ·exact HJ.out j hp hj
   ·obtain ⟨m,rfl⟩ : ∃m,k=m+1:=⟨k-1,by omega⟩
    obtain ⟨b,off,rfl,hc⟩:=HC.out o_
    obtain ⟨d0,d1,d2⟩:=(hc.below hB) m o_
    have hab:=arity_good (HG.out ns[m] (List.getElem_mem _))
    have HD:Hid _:=defc_drop ns m o_
    clear hc HC
    generalize hn:ns[m]=n at d0 d1 d2 HD hab
    clear hn
    have e1:((m+1:Nat):Int)-1=(m:Int):=by omega
    go_wp2_with fail
    refine (arity_nd n _).mono ?_
    rintro e w1 ⟨rfl,hb1⟩
    have hB1:=hB.trans (hb1.mono hB.size)
    clear d0 d1 d2
    go_wp2_with fail
    go_roundw
    case rel=>
     refine ⟨m,q-1+arity n,by omega,by go_num,rfl,?_,by omega,fun j h1 h2 => ?_,hB1⟩
     ·rw [HD.out,<-HQ.out];omega
     ·by_cases e:j=m+1
      ·subst e;rw [<-HQ.out];omega
      ·exact HJ.out j o_ h2
    case measure=>simp [intOf]
  ·go_wp2_with fail
   go_ret
   refine ⟨k,.inl ⟨k,rfl,?_,?_,HJ.out⟩,by omega,by omega,rfl,hB⟩
   ·rcases Nat.lt_or_ge k ns.length with h | h
    ·exact h
    ·exfalso
     have:=HQ.out
     rw [List.drop_of_length_le h,defc] at this
     omega
   ·rw [<-HQ.out];omega
theorem oneB_bad {l:List Nd} {k:Nat} (hk:k<l.length) (h:nodeB l[k]=false):oneB l=false:=by
 cases e:oneB l
 ·rfl
 ·have:=((oneB_iff l).1 e).1 _ (List.getElem_mem hk)
  rw [h] at this;cases this
theorem gexpr_any (v:Value) (ns:List Nd) (w:World) (hl:ns.length<=1048576) (hc:Nodes w v ns) :
  Calls Tryz.prog 172 #[v] w fun e w'=>e = .returned (.bool (decide (ns.length<=2000) && oneB ns))/\Below w.heap.size w w':=by
 have HN:=hide hc
 obtain ⟨a,cap,rfl,hcl,hcm,hc⟩:=hc
 have HC:=hide hc
 clear hc
 by_cases h2:2000<ns.length
 ·have hd:(decide (ns.length<=2000) && oneB ns)=false:=by simp;omega
  rw [hd]
  clear hd
  go_enter Tryz.func172,Tryz.ntmps172
  go_wp2_with fail
  go_ret
  exact ⟨rfl,Below.refl _ _⟩
 ·have hd:(decide (ns.length<=2000) && oneB ns)=oneB ns:=by rw [decide_eq_true o_];rfl
  rw [hd]
  clear hd
  go_enter Tryz.func172,Tryz.ntmps172
  go_wp2_with fail
  go_loopw [3] (fun i wr=>∃(k:Nat),k<=ns.length/\i = .int .i64 k/\(∀n∈ns.take k,nodeB n=true)/\Bl w wr) (fun i _=>ns.length-(intOf i).toNat)
  case atStart=>exact ⟨0,Nat.zero_le _,rfl,by simp,Below.refl _ _⟩
  case round=>
   obtain ⟨k,hk,rfl,hg,hB⟩:=hrel
   have HG:=hide hg
   clear hg
   by_cases hlt:k<ns.length
   ·obtain ⟨b,off,rfl,hc⟩:=HC.out o_
    obtain ⟨d0,d1,d2⟩:=(hc.below hB) k hlt
    clear hc HC
    have HE:Hid (ns.take (k+1)=ns.take k++[ns[k]]):=take_succ ns k hlt
    have HX:Hid (nodeB ns[k]=false->oneB ns=false):=oneB_bad hlt
    generalize hn:ns[k]=n at d0 d1 d2 HE HX
    clear hn
    go_wp2_with fail
    refine (gnode_any n _).mono ?_
    rintro e w1 ⟨rfl,hb1⟩
    have hB1:=hB.trans (hb1.mono hB.size)
    clear d0 d1 d2
    cases hv:nodeB n
    ·go_wp2_with fail
     go_ret
     exact ⟨ret_bool (HX.out hv).symm,hB1⟩
    ·go_wp2_with fail
     go_roundw
     case rel=>
      refine ⟨k+1,by omega,by go_num,fun m hm => ?_,hB1⟩
      rw [HE.out] at hm
      rcases List.mem_append.1 hm with hm | hm
      ·exact HG.out m hm
      ·rw [List.mem_singleton.1 hm];exact hv
     case measure=>simp [intOf];omega
   ·have hk':k=ns.length:=by omega
    subst hk'
    have hgA:goodAll ns:=by have:=HG.out;rw [List.take_length] at this;exact this
    have HA:=hide hgA
    clear hgA
    by_cases h0:0<ns.length
    ·go_wp2_with fail
     refine (from_any _ ns _ hl HA.out (HN.out.below hB)).mono ?_
     rintro e w1 ⟨r,hr,hr1,hr2,rfl,hb1⟩
     have HR:=hide hr
     clear hr
     go_wp2_with fail
     go_ret
     exact ⟨ret_bool (fromP_one HA.out HR.out),hB.trans (hb1.mono hB.size)⟩
    ·go_wp2_with fail
     go_ret
     refine ⟨ret_bool ?_,hB⟩
     have:ns = []:=List.eq_nil_of_length_eq_zero o_
     subst this
     simp [oneB,wholeTo]
theorem NodesC.up {w:World} {b off:Nat} {ns:List Nd} (h:NodesC w b off ns) (j:Nat) (hj:j<ns.length):(∀o,(w.alloc o).cell? ⟨b,off+j*3,none⟩=some (.int .i64 ns[j].kind))/\(∀o,(w.alloc o).cell? ⟨b,off+j*3+1,none⟩=some (.int .i64 ns[j].val))/\(∀o,(w.alloc o).cell? ⟨b,off+j*3+2,none⟩=some (.string ns[j].name)):=
 ⟨fun o=>((h.below ((Below.refl _ _).alloc (Nat.le_refl _) o)) j hj).1,fun o=>((h.below ((Below.refl _ _).alloc (Nat.le_refl _) o)) j hj).2.1,fun o=>((h.below ((Below.refl _ _).alloc (Nat.le_refl _) o)) j hj).2.2⟩
theorem root_any (v:Value) (ns:List Nd) (w:World) (hl:0<ns.length) (hm:ns.length<=1048576) (hc:Nodes w v ns) :
  Calls Tryz.prog 90 #[v] w fun e w'=>e = .returned (.agg #[.int .i64 (ns[ns.length-1]' o_).kind,.int .i64 (ns[ns.length-1]' o_).val,.string (ns[ns.length-1]' o_).name])/\Below w.heap.size w w':=by
 obtain ⟨a,cap,rfl,hcl,hcm,hc⟩:=hc
 obtain ⟨b,off,rfl,hn⟩:=hc hl
 obtain ⟨d0,d1,d2⟩:=hn.up (ns.length-1) o_
 generalize hn:ns[ns.length-1]=n at d0 d1 d2 ⊢
 obtain ⟨m,hm'⟩ : ∃m,ns.length=m+1:=⟨ns.length-1,by omega⟩
 rw [hm'] at d0 d1 d2 hl hm hcl ⊢
 have e1:((m+1:Nat):Int)-1=(m:Int):=by omega
 have e2:m+1-1=m:=by omega
 rw [e2] at d0 d1 d2
 go_enter Tryz.func90,Tryz.ntmps90
 go_wp2_with fail
 exact bodyPost_ret (v:=.agg #[.int .i64 n.kind,.int .i64 n.val,.string n.name]) (by simp [results,Tryz.results90,go_sem]) rfl ⟨rfl,(Below.refl _ _).alloc (Nat.le_refl _) _⟩
theorem Nodes.cut {w:World} {a:Option Addr} {cap:Nat} {ns:List Nd} (h:Nodes w (.slice a ns.length cap) ns) (lo hi:Nat) (h1:lo<=hi) (h2:hi<=ns.length) :
  Nodes w (.slice (if cap=lo then a else a.map (·.add (lo*3))) (hi-lo) (cap-lo)) ((ns.take hi).drop lo):=by
 obtain ⟨a',cap',he,hl,hm,h⟩:=h
 simp only [Value.slice.injEq,true_and] at he
 obtain ⟨rfl,rfl⟩:=he
 refine ⟨if cap=lo then a else a.map (·.add (lo*3)),cap-lo,by simp [Nat.min_eq_left h2],by simp [Nat.min_eq_left h2];omega,by omega,fun h0 => ?_⟩
 simp only [List.length_drop,List.length_take,Nat.min_eq_left h2] at h0
 obtain ⟨b,off,rfl,hc⟩:=h o_
 refine ⟨b,off+lo*3,?_,fun j hj => ?_⟩
 ·rw [if_neg o_];simp [Addr.add]
 ·simp only [List.length_drop,List.length_take,Nat.min_eq_left h2] at hj
  have hcc:=hc (lo+j) o_
  have e:((ns.take hi).drop lo)[j]'(by simp;omega)=ns[lo+j]' o_:=by simp
  rw [e]
  have e1:off+lo*3+j*3=off+(lo+j)*3:=by omega
  rw [e1]
  exact hcc
theorem Nodes.head {w:World} {a:Option Addr} {cap:Nat} {ns:List Nd} (h:Nodes w (.slice a ns.length cap) ns) (hi:Nat) (h2:hi<=ns.length):Nodes w (.slice a hi cap) (ns.take hi):=by
 have:=h.cut 0 hi (Nat.zero_le _) h2
 have e:(if cap=0 then a else a.map (·.add (0*3)))=a:=by
  split
  ·rfl
  ·cases a <;> simp [Addr.add]
 rw [e] at this
 simpa using this
theorem ncut_run_l (a:Option Addr) (n cap lo:Nat) (h2:lo<=n) (h3:n<=cap) : ∀w:World,(Instr.slice 121 (.slice a n cap) (some (.int .i64 lo)) none none).run Tryz.prog w = .ok (.slice (if cap=lo then a else a.map (·.add (lo*3))) (n-lo) (cap-lo)) w:=by
 intro w
 have hz:Tryz.prog.elem 121=151:=by kernel_rfl
 have hs:(sizeOf 151).run Tryz.prog w = .ok 3 w:=by kernel_rfl
 rw [run_slice_l w 121 a n cap (by rw [hz];exact Tryz.underlying121) .i64 _ o_ o_,hz,hs]
 simp only [Result.andThen,sliced,Int.toNat_natCast]
def Kids (w0 w:World) (N:Nat) (v:Value) (e:List Nd) (b:Nat->Nat) (A:Nat):Prop:=
 ∃a cap,v = .slice a A cap/\A<=cap/\cap<=9223372036854775807/\(0<A->∃B,a=some ⟨B,0,none⟩/\N<=B/\B<w.heap.size/\∀i,i<A->∃vi,w.cell? ⟨B,i,none⟩=some vi/\Nodes w0 vi (kid e b i))
theorem Kids.below {w0 w w':World} {N:Nat} {v:Value} {e:List Nd} {b:Nat->Nat} {A:Nat} (h:Kids w0 w N v e b A) (hb:Below w.heap.size w w'):Kids w0 w' N v e b A:=by
 obtain ⟨a,cap,rfl,hl,hm,h⟩:=h
 refine ⟨a,cap,rfl,hl,hm,fun h0 => ?_⟩
 obtain ⟨B,rfl,hN,hB,hc⟩:=h h0
 refine ⟨B,rfl,hN,Nat.lt_of_lt_of_le hB hb.size,fun i hi => ?_⟩
 obtain ⟨vi,h1,h2⟩:=hc i hi
 exact ⟨vi,(hb.cell (p:=⟨B,i,none⟩) (World.block_lt_of_cell? _ _ h1)).trans h1,h2⟩
theorem info_nodes:(Tryz.prog.info? 121).map (fun i=>(i.zero,i.size,i.bytes))=some (some (.slice none 0 0),1,24):=by kernel_rfl
end Go.Proofs.YtnpidjamplmgjaaGreatDoor
