import Derived.Test.YtffnkkpmlplfeaaGreatDoorN12
import Derived.Deep.RegionWith
import Derived.WalkSmall
namespace Go.Proofs.YtffnkkpmlplfeaaGreatDoor
open Go.Proofs.Tryz
open Go.RowKit
set_option linter.all false
set_option maxRecDepth 100000
set_option maxHeartbeats 16000000
variable[Inhabited Pick]
theorem ret_int {k:IntKind} {a b:Int} (h:a=b):Ending.returned (.int k a)=.returned (.int k b):=by rw[h]
theorem in_any (v lo hi:Int) (w:World):Calls prog 30 #[.int .i64 v,.int .i64 lo,.int .i64 hi] w λe w'=>e=.returned (.bool (decide (lo<=v/\v<=hi)))/\w'=w:=by
 go_enter func30,ntmps30;go_wp2
 all_goals go_ret
 all_goals (refine⟨ret_bool ?_,rfl⟩;apply Bool.eq_iff_iff.2;simp <;> omega)
theorem wrap_any (v:Int) (w:World):Calls prog 62 #[.int .i64 v] w λe w'=>e=.returned (.int .i64 (wrap32 v))/\w'=w:=by
 go_enter func62,ntmps62;go_wp2
 go_ret;exact⟨ret_int (by unfold wrap64 wrap32;omega),rfl⟩
theorem wrap32_eq (v:Int):v=wrap32 v ↔ -2147483648<=v/\v<=2147483647:=by
 unfold wrap32;omega
theorem arity_any (k v : Int) (s : ByteArray) (w : World) : Calls prog 196 #[.agg #[.int .i64 k, .int .i64 v, .string s]] w λe w' => e=.returned (.int .i64 (arity ⟨k, v, s⟩)) ∧ Below w.heap.size w w' := by
  go_enter func196, ntmps196;go_wp2
  all_goals go_ret
  all_goals (refine⟨ret_int ?_, r_.alloc n_ _⟩; simp only[beq_iff_eq, beq_eq_false_iff_ne, ne_eq] at *; (try subst k); first|(exfalso; omega)|(simp[arity, *]; done))
theorem gnode1 (v:Int) (s:ByteArray) (w:World):Calls prog 193 #[.agg #[.int .i64 1,.int .i64 v,.string s]] w λe w'=>e=.returned (.bool (nodeB ⟨1,v,s⟩))/\Below w.heap.size w w':=by
  cases h:(v == wrap32 v)
  · go_enter func193,ntmps193
    go_wp2_with fail
    go_quiet ((go_at_call 62;exact Calls.quiet_of_same (wrap_any _ _)))
    go_wp2_with fail
    go_ret
    exact ⟨ret_bool (by have : ¬(v=wrap32 v):=by simpa using h
                        rw[wrap32_eq] at this
                        simp[nodeB];omega),below_drewN (bel_a _ _) _⟩
  · go_enter func193,ntmps193
    go_wp2_with fail
    go_quiet ((go_at_call 62;exact Calls.quiet_of_same (wrap_any _ _)))
    go_wp2_with fail
    go_ret
    exact ⟨ret_bool (by have:(v=wrap32 v):=by simpa using h
                        rw[wrap32_eq] at this
                        simp[nodeB,this]),below_drewN (bel_a _ _) _⟩
theorem gnode23 (k v:Int) (hk:k=2∨k=3) (s:ByteArray) (w:World):Calls prog 193 #[.agg #[.int .i64 k,.int .i64 v,.string s]] w λe w'=>e=.returned (.bool (nodeB ⟨k,v,s⟩))/\Below w.heap.size w w':=by
 by_cases h:v=0
 ·subst h;rcases hk with rfl|rfl;all_goals
   go_enter func193,ntmps193;go_wp2_with (go_at_call 87;refine (name_any _ _).mono ?_;rintro e w' ⟨rfl,rfl⟩)
   go_ret;exact⟨ret_bool (by simp[nodeB]),r_.alloc n_ _⟩
 ·have h':(v == 0)=false:=by simpa using h
  rcases hk with rfl|rfl;all_goals
   go_enter func193,ntmps193;go_wp2;go_ret;exact⟨ret_bool (by simp[nodeB,h]),r_.alloc n_ _⟩
theorem gnode4 (v:Int) (s:ByteArray) (w:World):Calls prog 193 #[.agg #[.int .i64 4,.int .i64 v,.string s]] w λe w'=>e=.returned (.bool (nodeB ⟨4,v,s⟩))/\Below w.heap.size w w':=by
 cases h:decide (0<=v/\v<=6)
 all_goals
  go_enter func193,ntmps193;go_wp2_with (first|(go_at_call 30;refine (in_any _ _ _ _).mono ?_;rintro e w' ⟨rfl,rfl⟩;rw[h])|(go_at_call 87;refine (name_any _ _).mono ?_;rintro e w' ⟨rfl,rfl⟩))
  go_ret;exact⟨ret_bool (by simp only[nodeB];simp[h]),r_.alloc n_ _⟩
theorem gnode6 (v:Int) (s:ByteArray) (w:World):Calls prog 193 #[.agg #[.int .i64 6,.int .i64 v,.string s]] w λe w'=>e=.returned (.bool (nodeB ⟨6,v,s⟩))/\Below w.heap.size w w':=by
 cases h:decide (0<=v/\v<=2)
 all_goals
  go_enter func193,ntmps193;go_wp2_with (first|(go_at_call 30;refine (in_any _ _ _ _).mono ?_;rintro e w' ⟨rfl,rfl⟩;rw[h]))
  go_ret;exact⟨ret_bool (by simp only[nodeB];simp[h]),r_.alloc n_ _⟩
theorem gnode7 (v:Int) (s:ByteArray) (w:World):Calls prog 193 #[.agg #[.int .i64 7,.int .i64 v,.string s]] w λe w'=>e=.returned (.bool (nodeB ⟨7,v,s⟩))/\Below w.heap.size w w':=by
 cases h:decide (0<=v/\v<=15)
 all_goals
  go_enter func193,ntmps193;go_wp2_with (first|(go_at_call 30;refine (in_any _ _ _ _).mono ?_;rintro e w' ⟨rfl,rfl⟩;rw[h]))
  go_ret;exact⟨ret_bool (by simp only[nodeB];simp[h]),r_.alloc n_ _⟩
theorem gnode589 (k v:Int) (hk:k=5∨k=8∨k=9) (s:ByteArray) (w:World):Calls prog 193 #[.agg #[.int .i64 k,.int .i64 v,.string s]] w λe w'=>e=.returned (.bool (nodeB ⟨k,v,s⟩))/\Below w.heap.size w w':=by
 by_cases h:v=0
 ·subst h;rcases hk with rfl|rfl|rfl;all_goals
   go_enter func193,ntmps193;go_wp2;go_ret;exact⟨ret_bool (by simp[nodeB]),r_.alloc n_ _⟩
 ·have h':(v == 0)=false:=by simpa using h
  rcases hk with rfl|rfl|rfl;all_goals
   go_enter func193,ntmps193;go_wp2;go_ret;exact⟨ret_bool (by simp[nodeB,h]),r_.alloc n_ _⟩
theorem gnodeX (k v:Int) (hk:k<1∨9<k) (s:ByteArray) (w:World):Calls prog 193 #[.agg #[.int .i64 k,.int .i64 v,.string s]] w λe w'=>e=.returned (.bool (nodeB ⟨k,v,s⟩))/\Below w.heap.size w w':=by
 have h1:(k == 1)=false:=by simp;omega
 have h2:(k == 2)=false:=by simp;omega
 have h3:(k == 3)=false:=by simp;omega
 have h4:(k == 4)=false:=by simp;omega
 have h5:(k == 5)=false:=by simp;omega
 have h6:(k == 6)=false:=by simp;omega
 have h7:(k == 7)=false:=by simp;omega
 have h8:(k == 8)=false:=by simp;omega
 have h9:(k == 9)=false:=by simp;omega
 have hn:nodeB ⟨k,v,s⟩=false:=by
  simp at h1 h2 h3 h4 h5 h6 h7 h8 h9;simp[nodeB,h1,h2,h3,h4,h5,h6,h7,h8,h9]
 rw[hn];go_enter func193,ntmps193;go_wp2;go_ret;exact⟨rfl,r_.alloc n_ _⟩
theorem gnode_any (n:Nd) (w:World):Calls prog 193 #[.agg #[.int .i64 n.kind,.int .i64 n.val,.string n.name]] w λe w'=>e=.returned (.bool (nodeB n))/\Below w.heap.size w w':=by
 obtain⟨k,v,s⟩:=n;by_cases hx:k<1∨9<k
 ·exact gnodeX k v hx s w
 ·have:k=1∨(k=2∨k=3)∨k=4∨k=6∨k=7∨(k=5∨k=8∨k=9):=by omega
  rcases this with rfl|h|rfl|rfl|rfl|h
  ·exact gnode1 v s w
  ·exact gnode23 k v h s w
  ·exact gnode4 v s w
  ·exact gnode6 v s w
  ·exact gnode7 v s w
  ·exact gnode589 k v h s w
section
variable {w:World}
def nodeTab:List Value:=[.bool false,.int .i64 0,.int .i64 0,.int .i64 0,.bool false,.int .i64 (-2147483648),.int .i64 2147483647,.int .i64 0,.bool true,.int .i64 0,.int .i64 0,.int .i64 0,.bool true,.int .i64 0,.int .i64 0,.int .i64 1,.bool true,.int .i64 0,.int .i64 6,.int .i64 0,.bool false,.int .i64 0,.int .i64 0,.int .i64 0,.bool false,.int .i64 0,.int .i64 2,.int .i64 1,.bool false,.int .i64 0,.int .i64 15,.int .i64 2,.bool false,.int .i64 0,.int .i64 0,.int .i64 2,.bool false,.int .i64 0,.int .i64 0,.int .i64 2]
def stmtTab:List Bool:=[false,false,false,false,false,true,false,false,false,false,true,false,false,false,false,true,true,false,false,false,false,false,true,true,false,false,false,true,false,false,false,false,false,false,false,false,false,false,false,false,false,false,false,false,true]
structure Tab (w:World):Prop where
 node : ∀j,j<40->w.cell? ⟨1,j,none⟩=some (nodeTab.getD j .nilFunc)
 stmt:True->∀j,j<45->w.cell? ⟨0,j,none⟩=some (.bool (stmtTab.getD j false))
 size:1<w.heap.size/\0<w.heap.size
theorem Tab.below {w':World} {B:Nat} (h:Tab w) (hB:1<B/\0<B) (hb:Below B w w'):Tab w':=by
 refine⟨λj hj => ?_,λht j hj => ?_,l_ h.size.1 hb.size,l_ h.size.2 hb.size⟩
 ·rw[hb.cell hB.1];exact h.node j hj
 ·rw[hb.cell hB.2];exact h.stmt ht j hj
theorem asked_yes (s:ByteArray) (w:World):Calls prog 200 #[.string s,.bool true] w λe w'=>e=.returned (.bool (nameB s))/\Below w.heap.size w w':=by
 go_enter func200,ntmps200;go_wp2_with fail;refine (vname_any _ _).mono ?_;rintro e w' ⟨rfl,hb⟩;go_wp2;go_ret;exact⟨rfl,hb⟩
theorem asked_no (s:ByteArray) (w:World):Calls prog 200 #[.string s,.bool false] w λe w'=>e=.returned (.bool (s.toList == []))/\Below w.heap.size w w':=by
 go_enter func200,ntmps200;go_wp2;go_ret;exact⟨by simp,r_⟩
theorem Tab.nodeUp (h:Tab w) (j:Nat) (hj:j<40) (o:Obj):(w.alloc o).cell? ⟨1,j,none⟩=some (nodeTab.getD j .nilFunc):=
 (h.below h.size (r_.alloc n_ o)).node j hj
theorem Tab.stmtUp (h:Tab w) (j:Nat) (hj:j<45) (o:Obj) (ht:True:=by trivial):(w.alloc o).cell? ⟨0,j,none⟩=some (.bool (stmtTab.getD j false)):=
 (h.below h.size (r_.alloc n_ o)).stmt ht j hj
theorem Tab.up1 (h:Tab w) (o:Obj):(w.alloc o).cell? ⟨1,4,none⟩=some (.bool false)/\(w.alloc o).cell? ⟨1,5,none⟩=some (.int .i64 (-2147483648))/\(w.alloc o).cell? ⟨1,6,none⟩=some (.int .i64 2147483647)/\(w.alloc o).cell? ⟨1,7,none⟩=some (.int .i64 0):=by
 exact⟨h.nodeUp 4 o_ o,h.nodeUp 5 o_ o,h.nodeUp 6 o_ o,h.nodeUp 7 o_ o⟩
theorem Tab.up2 (h:Tab w) (o:Obj):(w.alloc o).cell? ⟨1,8,none⟩=some (.bool true)/\(w.alloc o).cell? ⟨1,9,none⟩=some (.int .i64 0)/\(w.alloc o).cell? ⟨1,10,none⟩=some (.int .i64 0)/\(w.alloc o).cell? ⟨1,11,none⟩=some (.int .i64 0):=by
 exact⟨h.nodeUp 8 o_ o,h.nodeUp 9 o_ o,h.nodeUp 10 o_ o,h.nodeUp 11 o_ o⟩
theorem Tab.up3 (h:Tab w) (o:Obj):(w.alloc o).cell? ⟨1,12,none⟩=some (.bool true)/\(w.alloc o).cell? ⟨1,13,none⟩=some (.int .i64 0)/\(w.alloc o).cell? ⟨1,14,none⟩=some (.int .i64 0)/\(w.alloc o).cell? ⟨1,15,none⟩=some (.int .i64 1):=by
 exact⟨h.nodeUp 12 o_ o,h.nodeUp 13 o_ o,h.nodeUp 14 o_ o,h.nodeUp 15 o_ o⟩
theorem Tab.up4 (h:Tab w) (o:Obj):(w.alloc o).cell? ⟨1,16,none⟩=some (.bool true)/\(w.alloc o).cell? ⟨1,17,none⟩=some (.int .i64 0)/\(w.alloc o).cell? ⟨1,18,none⟩=some (.int .i64 6)/\(w.alloc o).cell? ⟨1,19,none⟩=some (.int .i64 0):=by
 exact⟨h.nodeUp 16 o_ o,h.nodeUp 17 o_ o,h.nodeUp 18 o_ o,h.nodeUp 19 o_ o⟩
theorem Tab.up5 (h:Tab w) (o:Obj):(w.alloc o).cell? ⟨1,20,none⟩=some (.bool false)/\(w.alloc o).cell? ⟨1,21,none⟩=some (.int .i64 0)/\(w.alloc o).cell? ⟨1,22,none⟩=some (.int .i64 0)/\(w.alloc o).cell? ⟨1,23,none⟩=some (.int .i64 0):=by
 exact⟨h.nodeUp 20 o_ o,h.nodeUp 21 o_ o,h.nodeUp 22 o_ o,h.nodeUp 23 o_ o⟩
theorem Tab.up6 (h:Tab w) (o:Obj):(w.alloc o).cell? ⟨1,24,none⟩=some (.bool false)/\(w.alloc o).cell? ⟨1,25,none⟩=some (.int .i64 0)/\(w.alloc o).cell? ⟨1,26,none⟩=some (.int .i64 2)/\(w.alloc o).cell? ⟨1,27,none⟩=some (.int .i64 1):=by
 exact⟨h.nodeUp 24 o_ o,h.nodeUp 25 o_ o,h.nodeUp 26 o_ o,h.nodeUp 27 o_ o⟩
theorem Tab.up7 (h:Tab w) (o:Obj):(w.alloc o).cell? ⟨1,28,none⟩=some (.bool false)/\(w.alloc o).cell? ⟨1,29,none⟩=some (.int .i64 0)/\(w.alloc o).cell? ⟨1,30,none⟩=some (.int .i64 15)/\(w.alloc o).cell? ⟨1,31,none⟩=some (.int .i64 2):=by
 exact⟨h.nodeUp 28 o_ o,h.nodeUp 29 o_ o,h.nodeUp 30 o_ o,h.nodeUp 31 o_ o⟩
theorem Tab.up8 (h:Tab w) (o:Obj):(w.alloc o).cell? ⟨1,32,none⟩=some (.bool false)/\(w.alloc o).cell? ⟨1,33,none⟩=some (.int .i64 0)/\(w.alloc o).cell? ⟨1,34,none⟩=some (.int .i64 0)/\(w.alloc o).cell? ⟨1,35,none⟩=some (.int .i64 2):=by
 exact⟨h.nodeUp 32 o_ o,h.nodeUp 33 o_ o,h.nodeUp 34 o_ o,h.nodeUp 35 o_ o⟩
theorem Tab.up9 (h:Tab w) (o:Obj):(w.alloc o).cell? ⟨1,36,none⟩=some (.bool false)/\(w.alloc o).cell? ⟨1,37,none⟩=some (.int .i64 0)/\(w.alloc o).cell? ⟨1,38,none⟩=some (.int .i64 0)/\(w.alloc o).cell? ⟨1,39,none⟩=some (.int .i64 2):=by
 exact⟨h.nodeUp 36 o_ o,h.nodeUp 37 o_ o,h.nodeUp 38 o_ o,h.nodeUp 39 o_ o⟩
theorem opc1 (v:Int) (s:ByteArray) (w:World) (hT:Tab w):Calls prog 175 #[.agg #[.int .i64 1,.int .i64 v,.string s]] w λe w'=>e=.returned (.int .i64 (arity ⟨1,v,s⟩))/\Below w.heap.size w w':=by
 obtain⟨c0,c1,c2,c3⟩:=hT.up1 (.cells #[.int .i64 1,.int .i64 v,.string s] 134);go_enter func175,ntmps175;go_wp2;go_ret;exact⟨ret_int (by simp[arity]),r_.alloc n_ _⟩
theorem opc2 (v:Int) (s:ByteArray) (w:World) (hT:Tab w):Calls prog 175 #[.agg #[.int .i64 2,.int .i64 v,.string s]] w λe w'=>e=.returned (.int .i64 (arity ⟨2,v,s⟩))/\Below w.heap.size w w':=by
 obtain⟨c0,c1,c2,c3⟩:=hT.up2 (.cells #[.int .i64 2,.int .i64 v,.string s] 134);go_enter func175,ntmps175;go_wp2;go_ret;exact⟨ret_int (by simp[arity]),r_.alloc n_ _⟩
theorem opc3 (v:Int) (s:ByteArray) (w:World) (hT:Tab w):Calls prog 175 #[.agg #[.int .i64 3,.int .i64 v,.string s]] w λe w'=>e=.returned (.int .i64 (arity ⟨3,v,s⟩))/\Below w.heap.size w w':=by
 obtain⟨c0,c1,c2,c3⟩:=hT.up3 (.cells #[.int .i64 3,.int .i64 v,.string s] 134);go_enter func175,ntmps175;go_wp2;go_ret;exact⟨ret_int (by simp[arity]),r_.alloc n_ _⟩
theorem opc4 (v:Int) (s:ByteArray) (w:World) (hT:Tab w):Calls prog 175 #[.agg #[.int .i64 4,.int .i64 v,.string s]] w λe w'=>e=.returned (.int .i64 (arity ⟨4,v,s⟩))/\Below w.heap.size w w':=by
 obtain⟨c0,c1,c2,c3⟩:=hT.up4 (.cells #[.int .i64 4,.int .i64 v,.string s] 134);go_enter func175,ntmps175;go_wp2;go_ret;exact⟨ret_int (by simp[arity]),r_.alloc n_ _⟩
theorem opc5 (v:Int) (s:ByteArray) (w:World) (hT:Tab w):Calls prog 175 #[.agg #[.int .i64 5,.int .i64 v,.string s]] w λe w'=>e=.returned (.int .i64 (arity ⟨5,v,s⟩))/\Below w.heap.size w w':=by
 obtain⟨c0,c1,c2,c3⟩:=hT.up5 (.cells #[.int .i64 5,.int .i64 v,.string s] 134);go_enter func175,ntmps175;go_wp2;go_ret;exact⟨ret_int (by simp[arity]),r_.alloc n_ _⟩
theorem opc6 (v:Int) (s:ByteArray) (w:World) (hT:Tab w):Calls prog 175 #[.agg #[.int .i64 6,.int .i64 v,.string s]] w λe w'=>e=.returned (.int .i64 (arity ⟨6,v,s⟩))/\Below w.heap.size w w':=by
 obtain⟨c0,c1,c2,c3⟩:=hT.up6 (.cells #[.int .i64 6,.int .i64 v,.string s] 134);go_enter func175,ntmps175;go_wp2;go_ret;exact⟨ret_int (by simp[arity]),r_.alloc n_ _⟩
theorem opc7 (v:Int) (s:ByteArray) (w:World) (hT:Tab w):Calls prog 175 #[.agg #[.int .i64 7,.int .i64 v,.string s]] w λe w'=>e=.returned (.int .i64 (arity ⟨7,v,s⟩))/\Below w.heap.size w w':=by
 obtain⟨c0,c1,c2,c3⟩:=hT.up7 (.cells #[.int .i64 7,.int .i64 v,.string s] 134);go_enter func175,ntmps175;go_wp2;go_ret;exact⟨ret_int (by simp[arity]),r_.alloc n_ _⟩
theorem opc8 (v:Int) (s:ByteArray) (w:World) (hT:Tab w):Calls prog 175 #[.agg #[.int .i64 8,.int .i64 v,.string s]] w λe w'=>e=.returned (.int .i64 (arity ⟨8,v,s⟩))/\Below w.heap.size w w':=by
 obtain⟨c0,c1,c2,c3⟩:=hT.up8 (.cells #[.int .i64 8,.int .i64 v,.string s] 134);go_enter func175,ntmps175;go_wp2;go_ret;exact⟨ret_int (by simp[arity]),r_.alloc n_ _⟩
theorem opc9 (v:Int) (s:ByteArray) (w:World) (hT:Tab w):Calls prog 175 #[.agg #[.int .i64 9,.int .i64 v,.string s]] w λe w'=>e=.returned (.int .i64 (arity ⟨9,v,s⟩))/\Below w.heap.size w w':=by
 obtain⟨c0,c1,c2,c3⟩:=hT.up9 (.cells #[.int .i64 9,.int .i64 v,.string s] 134);go_enter func175,ntmps175;go_wp2;go_ret;exact⟨ret_int (by simp[arity]),r_.alloc n_ _⟩
theorem opc_any (n:Nd) (w:World) (hT:Tab w) (hk:1<=n.kind/\n.kind<=9):Calls prog 175 #[.agg #[.int .i64 n.kind,.int .i64 n.val,.string n.name]] w λe w'=>e=.returned (.int .i64 (arity n))/\Below w.heap.size w w':=by
 obtain⟨k,v,s⟩:=n;have h9:k=1∨k=2∨k=3∨k=4∨k=5∨k=6∨k=7∨k=8∨k=9:=by simp only at hk;omega
 rcases h9 with rfl|rfl|rfl|rfl|rfl|rfl|rfl|rfl|rfl
 ·exact opc1 v s w hT
 ·exact opc2 v s w hT
 ·exact opc3 v s w hT
 ·exact opc4 v s w hT
 ·exact opc5 v s w hT
 ·exact opc6 v s w hT
 ·exact opc7 v s w hT
 ·exact opc8 v s w hT
 ·exact opc9 v s w hT
theorem vnode1 (v:Int) (s:ByteArray) (w:World) (hT:Tab w):Calls prog 182 #[.agg #[.int .i64 1,.int .i64 v,.string s]] w λe w'=>e=.returned (.bool (nodeB ⟨1,v,s⟩))/\Below w.heap.size w w':=by
 obtain⟨c0,c1,c2,c3⟩:=hT.up1 (.cells #[.int .i64 1,.int .i64 v,.string s] 134);by_cases h1:v<(-2147483648)
 ·go_enter func182,ntmps182;go_wp2;go_ret;exact⟨ret_bool (by simp[nodeB];omega),(bel_a _ _).alloc (by simp) _⟩
 ·by_cases h2:2147483647<v
  ·go_enter func182,ntmps182;go_wp2;go_ret;exact⟨ret_bool (by simp[nodeB];omega),(bel_a _ _).alloc (by simp) _⟩
  ·go_enter func182,ntmps182;go_wp2_with fail;refine (asked_no _ _).mono ?_;rintro e w' ⟨rfl,hb⟩;go_wp2;go_ret;refine⟨ret_bool ?_,((bel_a _ _).alloc (by simp) _).trans (hb.mono (by simp;omega))⟩;simp[nodeB];omega
theorem vnode2 (v:Int) (s:ByteArray) (w:World) (hT:Tab w):Calls prog 182 #[.agg #[.int .i64 2,.int .i64 v,.string s]] w λe w'=>e=.returned (.bool (nodeB ⟨2,v,s⟩))/\Below w.heap.size w w':=by
 obtain⟨c0,c1,c2,c3⟩:=hT.up2 (.cells #[.int .i64 2,.int .i64 v,.string s] 134);by_cases h1:v<0
 ·go_enter func182,ntmps182;go_wp2;go_ret;exact⟨ret_bool (by simp[nodeB];omega),(bel_a _ _).alloc (by simp) _⟩
 ·by_cases h2:0<v
  ·go_enter func182,ntmps182;go_wp2;go_ret;exact⟨ret_bool (by simp[nodeB];omega),(bel_a _ _).alloc (by simp) _⟩
  ·go_enter func182,ntmps182;go_wp2_with fail;refine (asked_yes _ _).mono ?_;rintro e w' ⟨rfl,hb⟩;go_wp2;go_ret;refine⟨ret_bool ?_,((bel_a _ _).alloc (by simp) _).trans (hb.mono (by simp;omega))⟩;simp[nodeB];omega
theorem vnode3 (v:Int) (s:ByteArray) (w:World) (hT:Tab w):Calls prog 182 #[.agg #[.int .i64 3,.int .i64 v,.string s]] w λe w'=>e=.returned (.bool (nodeB ⟨3,v,s⟩))/\Below w.heap.size w w':=by
 obtain⟨c0,c1,c2,c3⟩:=hT.up3 (.cells #[.int .i64 3,.int .i64 v,.string s] 134);by_cases h1:v<0
 ·go_enter func182,ntmps182;go_wp2;go_ret;exact⟨ret_bool (by simp[nodeB];omega),(bel_a _ _).alloc (by simp) _⟩
 ·by_cases h2:0<v
  ·go_enter func182,ntmps182;go_wp2;go_ret;exact⟨ret_bool (by simp[nodeB];omega),(bel_a _ _).alloc (by simp) _⟩
  ·go_enter func182,ntmps182;go_wp2_with fail;refine (asked_yes _ _).mono ?_;rintro e w' ⟨rfl,hb⟩;go_wp2;go_ret;refine⟨ret_bool ?_,((bel_a _ _).alloc (by simp) _).trans (hb.mono (by simp;omega))⟩;simp[nodeB];omega
theorem vnode4 (v:Int) (s:ByteArray) (w:World) (hT:Tab w):Calls prog 182 #[.agg #[.int .i64 4,.int .i64 v,.string s]] w λe w'=>e=.returned (.bool (nodeB ⟨4,v,s⟩))/\Below w.heap.size w w':=by
 obtain⟨c0,c1,c2,c3⟩:=hT.up4 (.cells #[.int .i64 4,.int .i64 v,.string s] 134);by_cases h1:v<0
 ·go_enter func182,ntmps182;go_wp2;go_ret;exact⟨ret_bool (by simp[nodeB];omega),(bel_a _ _).alloc (by simp) _⟩
 ·by_cases h2:6<v
  ·go_enter func182,ntmps182;go_wp2;go_ret;exact⟨ret_bool (by simp[nodeB];omega),(bel_a _ _).alloc (by simp) _⟩
  ·go_enter func182,ntmps182;go_wp2_with fail;refine (asked_yes _ _).mono ?_;rintro e w' ⟨rfl,hb⟩;go_wp2;go_ret;refine⟨ret_bool ?_,((bel_a _ _).alloc (by simp) _).trans (hb.mono (by simp;omega))⟩;simp[nodeB];omega
theorem vnode5 (v:Int) (s:ByteArray) (w:World) (hT:Tab w):Calls prog 182 #[.agg #[.int .i64 5,.int .i64 v,.string s]] w λe w'=>e=.returned (.bool (nodeB ⟨5,v,s⟩))/\Below w.heap.size w w':=by
 obtain⟨c0,c1,c2,c3⟩:=hT.up5 (.cells #[.int .i64 5,.int .i64 v,.string s] 134);by_cases h1:v<0
 ·go_enter func182,ntmps182;go_wp2;go_ret;exact⟨ret_bool (by simp[nodeB];omega),(bel_a _ _).alloc (by simp) _⟩
 ·by_cases h2:0<v
  ·go_enter func182,ntmps182;go_wp2;go_ret;exact⟨ret_bool (by simp[nodeB];omega),(bel_a _ _).alloc (by simp) _⟩
  ·go_enter func182,ntmps182;go_wp2_with fail;refine (asked_no _ _).mono ?_;rintro e w' ⟨rfl,hb⟩;go_wp2;go_ret;refine⟨ret_bool ?_,((bel_a _ _).alloc (by simp) _).trans (hb.mono (by simp;omega))⟩;simp[nodeB];omega
theorem vnode6 (v:Int) (s:ByteArray) (w:World) (hT:Tab w):Calls prog 182 #[.agg #[.int .i64 6,.int .i64 v,.string s]] w λe w'=>e=.returned (.bool (nodeB ⟨6,v,s⟩))/\Below w.heap.size w w':=by
 obtain⟨c0,c1,c2,c3⟩:=hT.up6 (.cells #[.int .i64 6,.int .i64 v,.string s] 134);by_cases h1:v<0
 ·go_enter func182,ntmps182;go_wp2;go_ret;exact⟨ret_bool (by simp[nodeB];omega),(bel_a _ _).alloc (by simp) _⟩
 ·by_cases h2:2<v
  ·go_enter func182,ntmps182;go_wp2;go_ret;exact⟨ret_bool (by simp[nodeB];omega),(bel_a _ _).alloc (by simp) _⟩
  ·go_enter func182,ntmps182;go_wp2_with fail;refine (asked_no _ _).mono ?_;rintro e w' ⟨rfl,hb⟩;go_wp2;go_ret;refine⟨ret_bool ?_,((bel_a _ _).alloc (by simp) _).trans (hb.mono (by simp;omega))⟩;simp[nodeB];omega
theorem vnode7 (v:Int) (s:ByteArray) (w:World) (hT:Tab w):Calls prog 182 #[.agg #[.int .i64 7,.int .i64 v,.string s]] w λe w'=>e=.returned (.bool (nodeB ⟨7,v,s⟩))/\Below w.heap.size w w':=by
 obtain⟨c0,c1,c2,c3⟩:=hT.up7 (.cells #[.int .i64 7,.int .i64 v,.string s] 134);by_cases h1:v<0
 ·go_enter func182,ntmps182;go_wp2;go_ret;exact⟨ret_bool (by simp[nodeB];omega),(bel_a _ _).alloc (by simp) _⟩
 ·by_cases h2:15<v
  ·go_enter func182,ntmps182;go_wp2;go_ret;exact⟨ret_bool (by simp[nodeB];omega),(bel_a _ _).alloc (by simp) _⟩
  ·go_enter func182,ntmps182;go_wp2_with fail;refine (asked_no _ _).mono ?_;rintro e w' ⟨rfl,hb⟩;go_wp2;go_ret;refine⟨ret_bool ?_,((bel_a _ _).alloc (by simp) _).trans (hb.mono (by simp;omega))⟩;simp[nodeB];omega
theorem vnode8 (v:Int) (s:ByteArray) (w:World) (hT:Tab w):Calls prog 182 #[.agg #[.int .i64 8,.int .i64 v,.string s]] w λe w'=>e=.returned (.bool (nodeB ⟨8,v,s⟩))/\Below w.heap.size w w':=by
 obtain⟨c0,c1,c2,c3⟩:=hT.up8 (.cells #[.int .i64 8,.int .i64 v,.string s] 134);by_cases h1:v<0
 ·go_enter func182,ntmps182;go_wp2;go_ret;exact⟨ret_bool (by simp[nodeB];omega),(bel_a _ _).alloc (by simp) _⟩
 ·by_cases h2:0<v
  ·go_enter func182,ntmps182;go_wp2;go_ret;exact⟨ret_bool (by simp[nodeB];omega),(bel_a _ _).alloc (by simp) _⟩
  ·go_enter func182,ntmps182;go_wp2_with fail;refine (asked_no _ _).mono ?_;rintro e w' ⟨rfl,hb⟩;go_wp2;go_ret;refine⟨ret_bool ?_,((bel_a _ _).alloc (by simp) _).trans (hb.mono (by simp;omega))⟩;simp[nodeB];omega
theorem vnode9 (v:Int) (s:ByteArray) (w:World) (hT:Tab w):Calls prog 182 #[.agg #[.int .i64 9,.int .i64 v,.string s]] w λe w'=>e=.returned (.bool (nodeB ⟨9,v,s⟩))/\Below w.heap.size w w':=by
 obtain⟨c0,c1,c2,c3⟩:=hT.up9 (.cells #[.int .i64 9,.int .i64 v,.string s] 134);by_cases h1:v<0
 ·go_enter func182,ntmps182;go_wp2;go_ret;exact⟨ret_bool (by simp[nodeB];omega),(bel_a _ _).alloc (by simp) _⟩
 ·by_cases h2:0<v
  ·go_enter func182,ntmps182;go_wp2;go_ret;exact⟨ret_bool (by simp[nodeB];omega),(bel_a _ _).alloc (by simp) _⟩
  ·go_enter func182,ntmps182;go_wp2_with fail;refine (asked_no _ _).mono ?_;rintro e w' ⟨rfl,hb⟩;go_wp2;go_ret;refine⟨ret_bool ?_,((bel_a _ _).alloc (by simp) _).trans (hb.mono (by simp;omega))⟩;simp[nodeB];omega
theorem vnodeX (k v:Int) (s:ByteArray) (w:World) (hk:k<1∨9<k):Calls prog 182 #[.agg #[.int .i64 k,.int .i64 v,.string s]] w λe w'=>e=.returned (.bool (nodeB ⟨k,v,s⟩))/\Below w.heap.size w w':=by
 have hn:nodeB ⟨k,v,s⟩=false:=by
  simp only[nodeB];rw[if_neg o_,if_neg o_,if_neg o_,if_neg o_,if_neg o_,if_neg o_]
 rw[hn];rcases hk with hk|hk
 ·go_enter func182,ntmps182;go_wp2;go_ret;exact⟨rfl,r_.alloc n_ _⟩
 ·have h':1<=k:=by omega
  go_enter func182,ntmps182;go_wp2;go_ret;exact⟨rfl,r_.alloc n_ _⟩
theorem vnode_any (n:Nd) (w:World) (hT:Tab w):Calls prog 182 #[.agg #[.int .i64 n.kind,.int .i64 n.val,.string n.name]] w λe w'=>e=.returned (.bool (nodeB n))/\Below w.heap.size w w':=by
 obtain⟨k,v,s⟩:=n;by_cases hk:k<1∨9<k
 ·exact vnodeX k v s w hk
 have h9:k=1∨k=2∨k=3∨k=4∨k=5∨k=6∨k=7∨k=8∨k=9:=by omega
 rcases h9 with rfl|rfl|rfl|rfl|rfl|rfl|rfl|rfl|rfl
 ·exact vnode1 v s w hT
 ·exact vnode2 v s w hT
 ·exact vnode3 v s w hT
 ·exact vnode4 v s w hT
 ·exact vnode5 v s w hT
 ·exact vnode6 v s w hT
 ·exact vnode7 v s w hT
 ·exact vnode8 v s w hT
 ·exact vnode9 v s w hT
end
section
variable {w w':World} {ns:List Nd}
def NodesC (w:World) (b off:Nat) (ns:List Nd):Prop:=∀j (h:j<ns.length),
 w.cell? ⟨b,off+j*3,none⟩=some (.int .i64 ns[j].kind)/\w.cell? ⟨b,off+j*3+1,none⟩=some (.int .i64 ns[j].val)/\w.cell? ⟨b,off+j*3+2,none⟩=some (.string ns[j].name)
theorem NodesC.below {b off:Nat} (h:NodesC w b off ns) (hb:Below w.heap.size w w'):NodesC w' b off ns:=by
 intro j hj;obtain⟨c0,c1,c2⟩:=h j hj;have hlt:=b_ c0;exact⟨(hb.cell hlt).trans c0,(hb.cell (p:=⟨b,off+j*3+1,none⟩) hlt).trans c1,(hb.cell (p:=⟨b,off+j*3+2,none⟩) hlt).trans c2⟩
def Nodes (w:World) (v:Value) (ns:List Nd):Prop:=∃a cap,v=.slice a ns.length cap/\ns.length<=cap/\cap<=9223372036854775807/\(0<ns.length->∃b off,a=some ⟨b,off,none⟩/\NodesC w b off ns)
theorem Nodes.below {v:Value} (h:Nodes w v ns) (hb:Below w.heap.size w w'):Nodes w' v ns:=by
 obtain⟨a,cap,rfl,hl,hm,h⟩:=h;refine⟨a,cap,rfl,hl,hm,λh0 => ?_⟩;obtain⟨b,off,rfl,hc⟩:=h h0;exact⟨b,off,rfl,hc.below hb⟩
theorem box3 {t:TypeId} {x y z:Value} (h:Below (w.heap.size+1) (w.alloc (.cells #[x,y,z] t)) w') :
  w'.cell? ⟨w.heap.size,0,none⟩=some x/\w'.cell? ⟨w.heap.size,1,none⟩=some y/\w'.cell? ⟨w.heap.size,2,none⟩=some z:=by
 refine⟨?_,?_,?_⟩ <;> (rw[h.cell (by simp)];simp)
theorem one_any (v:Value) (ns:List Nd) (w:World) (hT:Tab w) (hl:ns.length<=1048576) (hc:Nodes w v ns) :
  Calls prog 153 #[v] w λe w'=>e=.returned (.bool (oneB ns))/\Below w.heap.size w w':=by
 obtain⟨a,cap,rfl,hcl,hcm,hc⟩:=hc;have HC:=hide hc;clear hc;go_enter func153,ntmps153;go_wp2_with fail;go_loopw [3,8] (λr i wr=>∃(k:Nat) (q:Int),k<=ns.length/\i=.int .i64 k/\r=.int .i64 q/\wholeTo (ns.take k) 0=some q/\Bl w wr) (λ_ i _=>ns.length-(RowKit.intOf i).toNat)
 case atStart=>exact⟨0,0,y_,rfl,rfl,rfl,r_⟩
 case round=>
  obtain⟨k,q,hk,rfl,rfl,hq,hB⟩:=hrel;have HQ:=hide hq;have hqb:=wholeTo_bd _ _ _ hq (Int.le_refl 0);have hql:q<=1048576:=by have:=hqb.2;simp at this;omega
  have hq0:=hqb.1;by_cases hlt:k<ns.length
  ·obtain⟨b,off,rfl,hc⟩:=HC o_;obtain⟨d0,d1,d2⟩:=(hc.below hB) k hlt;have HT:Hid (Tab wr):=hT.below hT.size hB;have hsz:=hT.size;have HS:Hid _:=wholeTo_step ns k q hlt HQ;clear hc hT HC;generalize hn:ns[k]=n at d0 d1 d2 HS;go_wp2_with fail;refine (vnode_any n _ (HT.o.below HT.o.size (bel_a _ _))).mono ?_;rintro e w1 ⟨rfl,hb1⟩;simp only[World.size_alloc] at hb1;have hB1:=hB.trans (((bel_a _ _).trans (hb1.mono o_)).mono hB.size);cases hv:nodeB n
   ·go_wp2;go_ret;refine⟨ret_bool (oneB_none ns (k+1) ?_).symm,hB1⟩;rw[HS.o,if_neg (by simp[hv])]
   ·obtain⟨e0,e1,e2⟩:=box3 hb1;have hT1:Hid (Tab w1):=HT.o.below HT.o.size ((bel_a _ _).trans (hb1.mono o_));have hkb:=kind_good hv;have hab:=arity_good hv;go_wp2_with fail;refine (opc_any n _ hT1.out hkb).mono ?_;rintro e w2 ⟨rfl,hb2⟩;have hb2':=hb1.trans (hb2.mono (by have:=hb1.size;simp at this;omega));have hB2:=hB.trans (((bel_a _ _).trans (hb2'.mono o_)).mono hB.size);obtain⟨f0,f1,f2⟩:=box3 hb2';have hT2:Hid (Tab w2):=hT1.out.below hT1.out.size hb2;clear e0 e1 e2 d0 d1 d2;by_cases ha:q<arity n
    ·go_wp2;go_ret;refine⟨ret_bool (oneB_none ns (k+1) ?_).symm,hB2⟩;rw[HS.o,if_neg o_]
    ·go_wp2_with fail;refine (opc_any n _ hT2.out hkb).mono ?_;rintro e w3 ⟨rfl,hb3⟩;have hB3:=hB2.trans (hb3.mono hB2.size);go_wp2_with fail;go_roundw
     case rel=>exact⟨k+1,q+1-arity n,by omega,by go_num,by rw[show q+(1-arity n)=q+1-arity n by omega],by rw[HS.o,if_pos ⟨hv,by omega⟩],hB3⟩
     case measure=>simp[RowKit.intOf];omega
  ·go_wp2;go_ret;obtain rfl:k=ns.length:=by omega
   exact⟨ret_bool (oneB_some ns q HQ).symm,hB⟩
end
theorem arity_nd (n:Nd) (w:World):Calls prog 196 #[.agg #[.int .i64 n.kind,.int .i64 n.val,.string n.name]] w λe w'=>e=.returned (.int .i64 (arity n))/\Below w.heap.size w w':=arity_any n.kind n.val n.name w
theorem from_any (v:Value) (ns:List Nd) (w:World) (hl:ns.length<=1048576) (hg:goodAll ns) (hc:Nodes w v ns) :
  Calls prog 194 #[v] w λe w'=>∃r,fromP ns r /\ -1<=r/\r<=1048576/\e=.returned (.int .i64 r)/\Below w.heap.size w w':=by
 obtain⟨a,cap,rfl,hcl,hcm,hc⟩:=hc;obtain⟨HC,HG⟩:=h2 hc hg;clear hc hg;go_enter func194,ntmps194;go_wp2_with fail;go_loopw [3,4] (λr i wr=>∃(k:Nat) (q:Int),k<=ns.length/\i=.int .i64 k/\r=.int .i64 q/\q=defc (ns.drop k)/\0<=q/\(∀j,k<j->j<=ns.length->1<=defc (ns.drop j))/\Bl w wr) (λ_ i _=>(RowKit.intOf i).toNat)
 case atStart=>exact⟨ns.length,1,n_,rfl,rfl,by simp[defc],by omega,λj h1 h2=>absurd h2 o_,r_⟩
 case round=>
  obtain⟨k,q,hk,rfl,rfl,hq,hq0,hj,hB⟩:=hrel;have hqb:=defc_le _ (goodAll_drop HG k);have hq1:q<=6291457:=by rw[hq];simp at hqb;omega
  obtain⟨HQ,HJ⟩:=h2 hq hj;clear hq hj hqb;by_cases h0:0<q
  ·by_cases hk0:k=0
   ·subst hk0;go_wp2;go_ret;refine⟨-1,.inr ⟨rfl,λj hj => ?_⟩,by omega,by omega,rfl,hB⟩;rcases Nat.eq_zero_or_pos j with rfl|hp
    ·rw[<-HQ.o];omega
    ·exact HJ j hp hj
   ·obtain⟨m,rfl⟩ : ∃m,k=m+1:=⟨k-1,by omega⟩;obtain⟨b,off,rfl,hc⟩:=HC o_;obtain⟨d0,d1,d2⟩:=(hc.below hB) m o_;have hab:=arity_good (HG ns[m] (g_ _));have HD:Hid _:=defc_drop ns m o_;clear hc HC;generalize hn:ns[m]=n at d0 d1 d2 HD hab;clear hn;have e1:((m+1:Nat):Int)-1=(m:Int):=by omega
    go_wp2_with fail;refine (arity_nd n _).mono ?_;rintro e w1 ⟨rfl,hb1⟩;have hB1:=hB.trans (hb1.mono hB.size);clear d0 d1 d2;go_wp2_with fail;go_roundw
    case rel=>
     refine⟨m,q-1+arity n,by omega,by go_num,rfl,?_,by omega,λj h1 h2 => ?_,hB1⟩
     ·rw[HD.o,<-HQ.o];omega
     ·by_cases e:j=m+1
      ·subst e;rw[<-HQ.o];omega
      ·exact HJ j o_ h2
    case measure=>simp[RowKit.intOf]
  ·go_wp2;go_ret;refine⟨k,.inl ⟨k,rfl,?_,?_,HJ⟩,by omega,by omega,rfl,hB⟩
   ·rcases Nat.lt_or_ge k ns.length with h|h
    ·exact h
    ·exfalso
     have:=HQ.o
     rw[List.drop_of_length_le h,defc] at this;omega
   ·rw[<-HQ.o];omega
theorem oneB_bad {l:List Nd} {k:Nat} (hk:k<l.length) (h:nodeB l[k]=false):oneB l=false:=by
 cases e:oneB l
 ·rfl
 ·have:=((oneB_iff l).1 e).1 _ (g_ hk)
  rw[h] at this;cases this
theorem gexpr_any (v:Value) (ns:List Nd) (w:World) (hl:ns.length<=1048576) (hc:Nodes w v ns) :
  Calls prog 161 #[v] w λe w'=>e=.returned (.bool (decide (ns.length<=2000) && oneB ns))/\Below w.heap.size w w':=by
 have HN:=hide hc;obtain⟨a,cap,rfl,hcl,hcm,hc⟩:=hc;have HC:=hide hc;clear hc;by_cases h2:2000<ns.length
 ·have hd:(decide (ns.length<=2000) && oneB ns)=false:=by simp;omega
  rw[hd];go_enter func161,ntmps161;go_wp2;go_ret;exact⟨rfl,r_⟩
 ·have hd:(decide (ns.length<=2000) && oneB ns)=oneB ns:=by rw[decide_eq_true o_];rfl
  rw[hd];clear hd;go_enter func161,ntmps161;go_wp2_with fail;go_loopw [3] (λi wr=>∃(k:Nat),k<=ns.length/\i=.int .i64 k/\(∀n∈ns.take k,nodeB n=true)/\Bl w wr) (λi _=>ns.length-(RowKit.intOf i).toNat)
  case atStart=>exact⟨0,y_,rfl,by simp,r_⟩
  case round=>
   obtain⟨k,hk,rfl,hg,hB⟩:=hrel;have HG:=hide hg;by_cases hlt:k<ns.length
   ·obtain⟨b,off,rfl,hc⟩:=HC o_;obtain⟨d0,d1,d2⟩:=(hc.below hB) k hlt;clear hc HC;have HE:Hid (ns.take (k+1)=ns.take k++[ns[k]]):=take_succ ns k hlt;have HX:Hid (nodeB ns[k]=false->oneB ns=false):=oneB_bad hlt;generalize hn:ns[k]=n at d0 d1 d2 HE HX;go_wp2_with fail;refine (gnode_any n _).mono ?_;rintro e w1 ⟨rfl,hb1⟩;have hB1:=hB.trans (hb1.mono hB.size);clear d0 d1 d2;cases hv:nodeB n
    ·go_wp2;go_ret;exact⟨ret_bool (HX hv).symm,hB1⟩
    ·go_wp2_with fail;go_roundw
     case rel=>
      refine⟨k+1,by omega,by go_num,λm hm => ?_,hB1⟩;rw[HE.o] at hm;rcases List.mem_append.1 hm with hm|hm
      ·exact HG m hm
      ·rw[List.mem_singleton.1 hm];exact hv
     case measure=>simp[RowKit.intOf];omega
   ·have hk':k=ns.length:=by omega
    subst hk';have hgA:goodAll ns:=by have:=HG.o;rw[List.take_length] at this;exact this
    have HA:=hide hgA;by_cases h0:0<ns.length
    ·go_wp2_with fail;refine (from_any _ ns _ hl HA (HN.o.below hB)).mono ?_;rintro e w1 ⟨r,hr,hr1,hr2,rfl,hb1⟩;have HR:=hide hr;clear hr;go_wp2;go_ret;exact⟨ret_bool (fromP_one HA HR),hB.trans (hb1.mono hB.size)⟩
    ·go_wp2;go_ret;refine⟨ret_bool ?_,hB⟩;have:ns = []:=List.eq_nil_of_length_eq_zero o_
     subst this;simp[oneB,wholeTo]
theorem NodesC.up {w:World} {b off:Nat} {ns:List Nd} (h:NodesC w b off ns) (j:Nat) (hj:j<ns.length):(∀o,(w.alloc o).cell? ⟨b,off+j*3,none⟩=some (.int .i64 ns[j].kind))/\(∀o,(w.alloc o).cell? ⟨b,off+j*3+1,none⟩=some (.int .i64 ns[j].val))/\(∀o,(w.alloc o).cell? ⟨b,off+j*3+2,none⟩=some (.string ns[j].name)):=
 ⟨λo=>((h.below (r_.alloc n_ o)) j hj).1,λo=>((h.below (r_.alloc n_ o)) j hj).2.1,λo=>((h.below (r_.alloc n_ o)) j hj).2.2⟩
theorem root_any (v:Value) (ns:List Nd) (w:World) (hl:0<ns.length) (hm:ns.length<=1048576) (hc:Nodes w v ns) :
  Calls prog 162 #[v] w λe w'=>e=.returned (.agg #[.int .i64 (ns[ns.length-1]' o_).kind,.int .i64 (ns[ns.length-1]' o_).val,.string (ns[ns.length-1]' o_).name])/\Below w.heap.size w w':=by
 obtain⟨a,cap,rfl,hcl,hcm,hc⟩:=hc;obtain⟨b,off,rfl,hn⟩:=hc hl;obtain⟨d0,d1,d2⟩:=hn.up (ns.length-1) o_;generalize hn:ns[ns.length-1]=n at d0 d1 d2 ⊢;obtain⟨m,hm'⟩ : ∃m,ns.length=m+1:=⟨ns.length-1,by omega⟩;rw[hm'] at d0 d1 d2 hl hm hcl ⊢;have e1:((m+1:Nat):Int)-1=(m:Int):=by omega
 have e2:m+1-1=m:=by omega
 rw[e2] at d0 d1 d2;go_enter func162,ntmps162;go_wp2_with fail;exact bodyPost_ret (v:=.agg #[.int .i64 n.kind,.int .i64 n.val,.string n.name]) (by simp[results,results162,go_sem]) rfl ⟨rfl,r_.alloc n_ _⟩
end Go.Proofs.YtffnkkpmlplfeaaGreatDoor
