import Derived.Test.YtlamjfhhefcohaaGreatDoorP07
import Derived.Deep.RegionWith
import Derived.WalkSmall
namespace Go.Proofs.YtlamjfhhefcohaaGreatDoor
open Go.Proofs.Tryz
open Go.RowKit
set_option linter.all false
set_option maxRecDepth 100000
set_option maxHeartbeats 16000000
theorem dl{k:IntKind}{a b:Int}(h:a=b):Ending.returned (.int k a)=.returned (.int k b):=by rw[h]
theorem fg(v lo hi:Int)(w:World):Calls prog 38 #[.int .i64 v,.int .i64 lo,.int .i64 hi] w fun e w'=>e=.returned (.bool (decide (lo<=v/\v<=hi)))/\w'=w:=by
 go_enter func38,ntmps38;go_wp2
 all_goals go_ret
 all_goals (refine⟨aj ?_,rfl⟩;apply Bool.eq_iff_iff.2;simp <;> omega)
theorem oT(v:Int)(w:World):Calls prog 170 #[.int .i64 v] w fun e w'=>e=.returned (.int .i64 (wrap32 v))/\w'=w:=by
 go_enter func170,ntmps170;go_wp2;go_ret;exact⟨dl (by unfold wrap64 wrap32;omega),rfl⟩
theorem mo(v:Int):v=wrap32 v ↔ -2147483648<=v/\v<=2147483647:=by
 unfold wrap32;omega
theorem tl(k v:Int)(s:ByteArray)(w:World):Calls prog 150 #[.agg #[.int .i64 k, .int .i64 v, .string s]] w fun e w'=>e=.returned (.int .i64 (arity ⟨k, v, s⟩)) ∧ Below w.heap.size w w':= by
  go_enter func150, ntmps150;go_wp2
  all_goals go_ret
  all_goals (refine⟨dl ?_, r_.alloc n_ _⟩; simp only[beq_iff_eq, beq_eq_false_iff_ne, ne_eq]at*; (try subst k); first|(exfalso; omega)|(simp[arity, *]; done))
theorem Bx(v:Int)(s:ByteArray)(w:World):Calls prog 146 #[.agg #[.int .i64 1,.int .i64 v,.string s]] w fun e w'=>e=.returned (.bool (aB ⟨1,v,s⟩))/\Below w.heap.size w w':=by
  cases h:(v == wrap32 v)
  · go_enter func146,ntmps146
    go_wp2_with fail
    go_quiet ((go_at_call 170;exact Calls.quiet_of_same (oT _ _)))
    go_wp2;go_ret
    exact⟨aj (by have:¬(v=wrap32 v):=by simpa using h
                 rw[mo]at this;simp[aB];omega),below_drewN (aD _ _) _⟩
  · go_enter func146,ntmps146
    go_wp2_with fail
    go_quiet ((go_at_call 170;exact Calls.quiet_of_same (oT _ _)))
    go_wp2;go_ret
    exact⟨aj (by have:(v=wrap32 v):=by simpa using h
                 rw[mo]at this;simp[aB,this]),below_drewN (aD _ _) _⟩
theorem zt(k v:Int)(hk:k=2∨k=3)(s:ByteArray)(w:World):Calls prog 146 #[.agg #[.int .i64 k,.int .i64 v,.string s]] w fun e w'=>e=.returned (.bool (aB ⟨k,v,s⟩))/\Below w.heap.size w w':=by
 by_cases h:v=0
 ·subst h;rcases hk with rfl|rfl;all_goals
   go_enter func146,ntmps146;go_wp2_with(go_at_call 37;refine(aH _ _).mono ?_;rintro e w' ⟨rfl,rfl⟩);go_ret;exact⟨aj (by simp[aB]),r_.alloc n_ _⟩
 ·have h':(v == 0)=false:=by simpa using h
  rcases hk with rfl|rfl;all_goals
   go_enter func146,ntmps146;go_wp2;go_ret;exact⟨aj (by simp[aB,h]),r_.alloc n_ _⟩
theorem Bz(v:Int)(s:ByteArray)(w:World):Calls prog 146 #[.agg #[.int .i64 4,.int .i64 v,.string s]] w fun e w'=>e=.returned (.bool (aB ⟨4,v,s⟩))/\Below w.heap.size w w':=by
 cases h:decide (0<=v/\v<=6)
 all_goals
  go_enter func146,ntmps146;go_wp2_with(first|(go_at_call 38;refine(fg _ _ _ _).mono ?_;rintro e w' ⟨rfl,rfl⟩;rw[h])|(go_at_call 37;refine(aH _ _).mono ?_;rintro e w' ⟨rfl,rfl⟩));go_ret;exact⟨aj (by simp only[aB];simp[h]),r_.alloc n_ _⟩
theorem BA(v:Int)(s:ByteArray)(w:World):Calls prog 146 #[.agg #[.int .i64 6,.int .i64 v,.string s]] w fun e w'=>e=.returned (.bool (aB ⟨6,v,s⟩))/\Below w.heap.size w w':=by
 cases h:decide (0<=v/\v<=2)
 all_goals
  go_enter func146,ntmps146;go_wp2_with(first|(go_at_call 38;refine(fg _ _ _ _).mono ?_;rintro e w' ⟨rfl,rfl⟩;rw[h]));go_ret;exact⟨aj (by simp only[aB];simp[h]),r_.alloc n_ _⟩
theorem BB(v:Int)(s:ByteArray)(w:World):Calls prog 146 #[.agg #[.int .i64 7,.int .i64 v,.string s]] w fun e w'=>e=.returned (.bool (aB ⟨7,v,s⟩))/\Below w.heap.size w w':=by
 cases h:decide (0<=v/\v<=15)
 all_goals
  go_enter func146,ntmps146;go_wp2_with(first|(go_at_call 38;refine(fg _ _ _ _).mono ?_;rintro e w' ⟨rfl,rfl⟩;rw[h]));go_ret;exact⟨aj (by simp only[aB];simp[h]),r_.alloc n_ _⟩
theorem vR(k v:Int)(hk:k=5∨k=8∨k=9)(s:ByteArray)(w:World):Calls prog 146 #[.agg #[.int .i64 k,.int .i64 v,.string s]] w fun e w'=>e=.returned (.bool (aB ⟨k,v,s⟩))/\Below w.heap.size w w':=by
 by_cases h:v=0
 ·subst h;rcases hk with rfl|rfl|rfl;all_goals
   go_enter func146,ntmps146;go_wp2;go_ret;exact⟨aj (by simp[aB]),r_.alloc n_ _⟩
 ·have h':(v == 0)=false:=by simpa using h
  rcases hk with rfl|rfl|rfl;all_goals
   go_enter func146,ntmps146;go_wp2;go_ret;exact⟨aj (by simp[aB,h]),r_.alloc n_ _⟩
theorem BC(k v:Int)(hk:k<1∨9<k)(s:ByteArray)(w:World):Calls prog 146 #[.agg #[.int .i64 k,.int .i64 v,.string s]] w fun e w'=>e=.returned (.bool (aB ⟨k,v,s⟩))/\Below w.heap.size w w':=by
 have h1:(k == 1)=false:=by simp;omega
 have h2:(k == 2)=false:=by simp;omega
 have h3:(k == 3)=false:=by simp;omega
 have h4:(k == 4)=false:=by simp;omega
 have h5:(k == 5)=false:=by simp;omega
 have h6:(k == 6)=false:=by simp;omega
 have h7:(k == 7)=false:=by simp;omega
 have h8:(k == 8)=false:=by simp;omega
 have h9:(k == 9)=false:=by simp;omega
 have hn:aB ⟨k,v,s⟩=false:=by
  simp at h1 h2 h3 h4 h5 h6 h7 h8 h9;simp[aB,h1,h2,h3,h4,h5,h6,h7,h8,h9]
 rw[hn];go_enter func146,ntmps146;go_wp2;go_ret;exact⟨rfl,r_.alloc n_ _⟩
theorem tu(n:Nd)(w:World):Calls prog 146 #[.agg #[.int .i64 n.kind,.int .i64 n.val,.string n.name]] w fun e w'=>e=.returned (.bool (aB n))/\Below w.heap.size w w':=by
 obtain⟨k,v,s⟩:=n;by_cases hx:k<1∨9<k
 ·exact BC k v hx s w
 ·have:k=1∨(k=2∨k=3)∨k=4∨k=6∨k=7∨(k=5∨k=8∨k=9):=by omega
  rcases this with rfl|h|rfl|rfl|rfl|h
  ·exact Bx v s w
  ·exact zt k v h s w
  ·exact Bz v s w
  ·exact BA v s w
  ·exact BB v s w
  ·exact vR k v h s w
section
variable{w:World}
def kA:List Value:=[.bool false,.int .i64 0,.int .i64 0,.int .i64 0,.bool false,.int .i64 (-2147483648),.int .i64 2147483647,.int .i64 0,.bool true,.int .i64 0,.int .i64 0,.int .i64 0,.bool true,.int .i64 0,.int .i64 0,.int .i64 1,.bool true,.int .i64 0,.int .i64 6,.int .i64 0,.bool false,.int .i64 0,.int .i64 0,.int .i64 0,.bool false,.int .i64 0,.int .i64 2,.int .i64 1,.bool false,.int .i64 0,.int .i64 15,.int .i64 2,.bool false,.int .i64 0,.int .i64 0,.int .i64 2,.bool false,.int .i64 0,.int .i64 0,.int .i64 2]
def fR:List Bool:=[false,false,false,false,false,true,false,false,false,false,true,false,false,false,false,true,true,false,false,false,false,false,true,true,false,false,false,true,false,false,false,false,false,false,false,false,false,false,false,false,false,false,false,false,true]
structure dz (w:World):Prop where
 node:∀j,j<40->w.cell? ⟨2,j,none⟩=some (kA.getD j .nilFunc)
 stmt:True->∀j,j<45->w.cell? ⟨0,j,none⟩=some (.bool (fR.getD j false))
 size:2<w.heap.size/\0<w.heap.size
theorem dz.below{w':World}{B:Nat}(h:dz w)(hB:2<B/\0<B)(hb:Below B w w'):dz w':=by
 refine⟨fun j hj=>?_,fun ht j hj=>?_,l_ h.size.1 hb.size,l_ h.size.2 hb.size⟩
 ·rw[hb.cell hB.1];exact h.node j hj
 ·rw[hb.cell hB.2];exact h.stmt ht j hj
theorem gx(s:ByteArray)(w:World):Calls prog 111 #[.string s,.bool true] w fun e w'=>e=.returned (.bool (aK s))/\Below w.heap.size w w':=by
 go_enter func111,ntmps111;go_wp2_with fail;refine(iI _ _).mono ?_;rintro e w' ⟨rfl,hb⟩;go_wp2;go_ret;exact⟨rfl,hb⟩
theorem d9(s:ByteArray)(w:World):Calls prog 111 #[.string s,.bool false] w fun e w'=>e=.returned (.bool (s.toList == []))/\Below w.heap.size w w':=by
 go_enter func111,ntmps111;go_wp2;go_ret;exact⟨i_,r_⟩
theorem dz.nodeUp(h:dz w)(j:Nat)(hj:j<40)(o:Obj):(w.alloc o).cell? ⟨2,j,none⟩=some (kA.getD j .nilFunc):=
 (h.below h.size (r_.alloc n_ o)).node j hj
theorem dz.stmtUp(h:dz w)(j:Nat)(hj:j<45)(o:Obj)(ht:True:=by trivial):(w.alloc o).cell? ⟨0,j,none⟩=some (.bool (fR.getD j false)):=
 (h.below h.size (r_.alloc n_ o)).stmt ht j hj
theorem dz.up1(h:dz w)(o:Obj):(w.alloc o).cell? ⟨2,4,none⟩=some (.bool false)/\(w.alloc o).cell? ⟨2,5,none⟩=some (.int .i64 (-2147483648))/\(w.alloc o).cell? ⟨2,6,none⟩=some (.int .i64 2147483647)/\(w.alloc o).cell? ⟨2,7,none⟩=some (.int .i64 0):=by
 exact⟨h.nodeUp 4 o_ o,h.nodeUp 5 o_ o,h.nodeUp 6 o_ o,h.nodeUp 7 o_ o⟩
theorem dz.up2(h:dz w)(o:Obj):(w.alloc o).cell? ⟨2,8,none⟩=some (.bool true)/\(w.alloc o).cell? ⟨2,9,none⟩=some (.int .i64 0)/\(w.alloc o).cell? ⟨2,10,none⟩=some (.int .i64 0)/\(w.alloc o).cell? ⟨2,11,none⟩=some (.int .i64 0):=by
 exact⟨h.nodeUp 8 o_ o,h.nodeUp 9 o_ o,h.nodeUp 10 o_ o,h.nodeUp 11 o_ o⟩
theorem dz.up3(h:dz w)(o:Obj):(w.alloc o).cell? ⟨2,12,none⟩=some (.bool true)/\(w.alloc o).cell? ⟨2,13,none⟩=some (.int .i64 0)/\(w.alloc o).cell? ⟨2,14,none⟩=some (.int .i64 0)/\(w.alloc o).cell? ⟨2,15,none⟩=some (.int .i64 1):=by
 exact⟨h.nodeUp 12 o_ o,h.nodeUp 13 o_ o,h.nodeUp 14 o_ o,h.nodeUp 15 o_ o⟩
theorem dz.up4(h:dz w)(o:Obj):(w.alloc o).cell? ⟨2,16,none⟩=some (.bool true)/\(w.alloc o).cell? ⟨2,17,none⟩=some (.int .i64 0)/\(w.alloc o).cell? ⟨2,18,none⟩=some (.int .i64 6)/\(w.alloc o).cell? ⟨2,19,none⟩=some (.int .i64 0):=by
 exact⟨h.nodeUp 16 o_ o,h.nodeUp 17 o_ o,h.nodeUp 18 o_ o,h.nodeUp 19 o_ o⟩
theorem dz.up5(h:dz w)(o:Obj):(w.alloc o).cell? ⟨2,20,none⟩=some (.bool false)/\(w.alloc o).cell? ⟨2,21,none⟩=some (.int .i64 0)/\(w.alloc o).cell? ⟨2,22,none⟩=some (.int .i64 0)/\(w.alloc o).cell? ⟨2,23,none⟩=some (.int .i64 0):=by
 exact⟨h.nodeUp 20 o_ o,h.nodeUp 21 o_ o,h.nodeUp 22 o_ o,h.nodeUp 23 o_ o⟩
theorem dz.up6(h:dz w)(o:Obj):(w.alloc o).cell? ⟨2,24,none⟩=some (.bool false)/\(w.alloc o).cell? ⟨2,25,none⟩=some (.int .i64 0)/\(w.alloc o).cell? ⟨2,26,none⟩=some (.int .i64 2)/\(w.alloc o).cell? ⟨2,27,none⟩=some (.int .i64 1):=by
 exact⟨h.nodeUp 24 o_ o,h.nodeUp 25 o_ o,h.nodeUp 26 o_ o,h.nodeUp 27 o_ o⟩
theorem dz.up7(h:dz w)(o:Obj):(w.alloc o).cell? ⟨2,28,none⟩=some (.bool false)/\(w.alloc o).cell? ⟨2,29,none⟩=some (.int .i64 0)/\(w.alloc o).cell? ⟨2,30,none⟩=some (.int .i64 15)/\(w.alloc o).cell? ⟨2,31,none⟩=some (.int .i64 2):=by
 exact⟨h.nodeUp 28 o_ o,h.nodeUp 29 o_ o,h.nodeUp 30 o_ o,h.nodeUp 31 o_ o⟩
theorem dz.up8(h:dz w)(o:Obj):(w.alloc o).cell? ⟨2,32,none⟩=some (.bool false)/\(w.alloc o).cell? ⟨2,33,none⟩=some (.int .i64 0)/\(w.alloc o).cell? ⟨2,34,none⟩=some (.int .i64 0)/\(w.alloc o).cell? ⟨2,35,none⟩=some (.int .i64 2):=by
 exact⟨h.nodeUp 32 o_ o,h.nodeUp 33 o_ o,h.nodeUp 34 o_ o,h.nodeUp 35 o_ o⟩
theorem dz.up9(h:dz w)(o:Obj):(w.alloc o).cell? ⟨2,36,none⟩=some (.bool false)/\(w.alloc o).cell? ⟨2,37,none⟩=some (.int .i64 0)/\(w.alloc o).cell? ⟨2,38,none⟩=some (.int .i64 0)/\(w.alloc o).cell? ⟨2,39,none⟩=some (.int .i64 2):=by
 exact⟨h.nodeUp 36 o_ o,h.nodeUp 37 o_ o,h.nodeUp 38 o_ o,h.nodeUp 39 o_ o⟩
theorem EL(v:Int)(s:ByteArray)(w:World)(hT:dz w):Calls prog 149 #[.agg #[.int .i64 1,.int .i64 v,.string s]] w fun e w'=>e=.returned (.int .i64 (arity ⟨1,v,s⟩))/\Below w.heap.size w w':=by
 obtain⟨c0,c1,c2,c3⟩:=hT.up1 (.cells #[.int .i64 1,.int .i64 v,.string s] 48);go_enter func149,ntmps149;go_wp2;go_ret;exact⟨dl (by simp[arity]),r_.alloc n_ _⟩
theorem EM(v:Int)(s:ByteArray)(w:World)(hT:dz w):Calls prog 149 #[.agg #[.int .i64 2,.int .i64 v,.string s]] w fun e w'=>e=.returned (.int .i64 (arity ⟨2,v,s⟩))/\Below w.heap.size w w':=by
 obtain⟨c0,c1,c2,c3⟩:=hT.up2 (.cells #[.int .i64 2,.int .i64 v,.string s] 48);go_enter func149,ntmps149;go_wp2;go_ret;exact⟨dl (by simp[arity]),r_.alloc n_ _⟩
theorem EN(v:Int)(s:ByteArray)(w:World)(hT:dz w):Calls prog 149 #[.agg #[.int .i64 3,.int .i64 v,.string s]] w fun e w'=>e=.returned (.int .i64 (arity ⟨3,v,s⟩))/\Below w.heap.size w w':=by
 obtain⟨c0,c1,c2,c3⟩:=hT.up3 (.cells #[.int .i64 3,.int .i64 v,.string s] 48);go_enter func149,ntmps149;go_wp2;go_ret;exact⟨dl (by simp[arity]),r_.alloc n_ _⟩
theorem EO(v:Int)(s:ByteArray)(w:World)(hT:dz w):Calls prog 149 #[.agg #[.int .i64 4,.int .i64 v,.string s]] w fun e w'=>e=.returned (.int .i64 (arity ⟨4,v,s⟩))/\Below w.heap.size w w':=by
 obtain⟨c0,c1,c2,c3⟩:=hT.up4 (.cells #[.int .i64 4,.int .i64 v,.string s] 48);go_enter func149,ntmps149;go_wp2;go_ret;exact⟨dl (by simp[arity]),r_.alloc n_ _⟩
theorem EP(v:Int)(s:ByteArray)(w:World)(hT:dz w):Calls prog 149 #[.agg #[.int .i64 5,.int .i64 v,.string s]] w fun e w'=>e=.returned (.int .i64 (arity ⟨5,v,s⟩))/\Below w.heap.size w w':=by
 obtain⟨c0,c1,c2,c3⟩:=hT.up5 (.cells #[.int .i64 5,.int .i64 v,.string s] 48);go_enter func149,ntmps149;go_wp2;go_ret;exact⟨dl (by simp[arity]),r_.alloc n_ _⟩
theorem EQ(v:Int)(s:ByteArray)(w:World)(hT:dz w):Calls prog 149 #[.agg #[.int .i64 6,.int .i64 v,.string s]] w fun e w'=>e=.returned (.int .i64 (arity ⟨6,v,s⟩))/\Below w.heap.size w w':=by
 obtain⟨c0,c1,c2,c3⟩:=hT.up6 (.cells #[.int .i64 6,.int .i64 v,.string s] 48);go_enter func149,ntmps149;go_wp2;go_ret;exact⟨dl (by simp[arity]),r_.alloc n_ _⟩
theorem ER(v:Int)(s:ByteArray)(w:World)(hT:dz w):Calls prog 149 #[.agg #[.int .i64 7,.int .i64 v,.string s]] w fun e w'=>e=.returned (.int .i64 (arity ⟨7,v,s⟩))/\Below w.heap.size w w':=by
 obtain⟨c0,c1,c2,c3⟩:=hT.up7 (.cells #[.int .i64 7,.int .i64 v,.string s] 48);go_enter func149,ntmps149;go_wp2;go_ret;exact⟨dl (by simp[arity]),r_.alloc n_ _⟩
theorem ES(v:Int)(s:ByteArray)(w:World)(hT:dz w):Calls prog 149 #[.agg #[.int .i64 8,.int .i64 v,.string s]] w fun e w'=>e=.returned (.int .i64 (arity ⟨8,v,s⟩))/\Below w.heap.size w w':=by
 obtain⟨c0,c1,c2,c3⟩:=hT.up8 (.cells #[.int .i64 8,.int .i64 v,.string s] 48);go_enter func149,ntmps149;go_wp2;go_ret;exact⟨dl (by simp[arity]),r_.alloc n_ _⟩
theorem ET(v:Int)(s:ByteArray)(w:World)(hT:dz w):Calls prog 149 #[.agg #[.int .i64 9,.int .i64 v,.string s]] w fun e w'=>e=.returned (.int .i64 (arity ⟨9,v,s⟩))/\Below w.heap.size w w':=by
 obtain⟨c0,c1,c2,c3⟩:=hT.up9 (.cells #[.int .i64 9,.int .i64 v,.string s] 48);go_enter func149,ntmps149;go_wp2;go_ret;exact⟨dl (by simp[arity]),r_.alloc n_ _⟩
theorem kB(n:Nd)(w:World)(hT:dz w)(hk:1<=n.kind/\n.kind<=9):Calls prog 149 #[.agg #[.int .i64 n.kind,.int .i64 n.val,.string n.name]] w fun e w'=>e=.returned (.int .i64 (arity n))/\Below w.heap.size w w':=by
 obtain⟨k,v,s⟩:=n;have h9:k=1∨k=2∨k=3∨k=4∨k=5∨k=6∨k=7∨k=8∨k=9:=by simp only at hk;omega
 rcases h9 with rfl|rfl|rfl|rfl|rfl|rfl|rfl|rfl|rfl
 ·exact EL v s w hT
 ·exact EM v s w hT
 ·exact EN v s w hT
 ·exact EO v s w hT
 ·exact EP v s w hT
 ·exact EQ v s w hT
 ·exact ER v s w hT
 ·exact ES v s w hT
 ·exact ET v s w hT
theorem BD(v:Int)(s:ByteArray)(w:World)(hT:dz w):Calls prog 148 #[.agg #[.int .i64 1,.int .i64 v,.string s]] w fun e w'=>e=.returned (.bool (aB ⟨1,v,s⟩))/\Below w.heap.size w w':=by
 obtain⟨c0,c1,c2,c3⟩:=hT.up1 (.cells #[.int .i64 1,.int .i64 v,.string s] 48);by_cases h1:v<(-2147483648)
 ·go_enter func148,ntmps148;go_wp2;go_ret;exact⟨aj (by simp[aB];omega),(aD _ _).alloc i_ _⟩
 ·by_cases h2:2147483647<v
  ·go_enter func148,ntmps148;go_wp2;go_ret;exact⟨aj (by simp[aB];omega),(aD _ _).alloc i_ _⟩
  ·go_enter func148,ntmps148;go_wp2_with fail;refine(d9 _ _).mono ?_;rintro e w' ⟨rfl,hb⟩;go_wp2;go_ret;refine⟨aj ?_,((aD _ _).alloc i_ _).trans (hb.mono (by simp;omega))⟩;simp[aB];omega
theorem BE(v:Int)(s:ByteArray)(w:World)(hT:dz w):Calls prog 148 #[.agg #[.int .i64 2,.int .i64 v,.string s]] w fun e w'=>e=.returned (.bool (aB ⟨2,v,s⟩))/\Below w.heap.size w w':=by
 obtain⟨c0,c1,c2,c3⟩:=hT.up2 (.cells #[.int .i64 2,.int .i64 v,.string s] 48);by_cases h1:v<0
 ·go_enter func148,ntmps148;go_wp2;go_ret;exact⟨aj (by simp[aB];omega),(aD _ _).alloc i_ _⟩
 ·by_cases h2:0<v
  ·go_enter func148,ntmps148;go_wp2;go_ret;exact⟨aj (by simp[aB];omega),(aD _ _).alloc i_ _⟩
  ·go_enter func148,ntmps148;go_wp2_with fail;refine(gx _ _).mono ?_;rintro e w' ⟨rfl,hb⟩;go_wp2;go_ret;refine⟨aj ?_,((aD _ _).alloc i_ _).trans (hb.mono (by simp;omega))⟩;simp[aB];omega
theorem BF(v:Int)(s:ByteArray)(w:World)(hT:dz w):Calls prog 148 #[.agg #[.int .i64 3,.int .i64 v,.string s]] w fun e w'=>e=.returned (.bool (aB ⟨3,v,s⟩))/\Below w.heap.size w w':=by
 obtain⟨c0,c1,c2,c3⟩:=hT.up3 (.cells #[.int .i64 3,.int .i64 v,.string s] 48);by_cases h1:v<0
 ·go_enter func148,ntmps148;go_wp2;go_ret;exact⟨aj (by simp[aB];omega),(aD _ _).alloc i_ _⟩
 ·by_cases h2:0<v
  ·go_enter func148,ntmps148;go_wp2;go_ret;exact⟨aj (by simp[aB];omega),(aD _ _).alloc i_ _⟩
  ·go_enter func148,ntmps148;go_wp2_with fail;refine(gx _ _).mono ?_;rintro e w' ⟨rfl,hb⟩;go_wp2;go_ret;refine⟨aj ?_,((aD _ _).alloc i_ _).trans (hb.mono (by simp;omega))⟩;simp[aB];omega
theorem BG(v:Int)(s:ByteArray)(w:World)(hT:dz w):Calls prog 148 #[.agg #[.int .i64 4,.int .i64 v,.string s]] w fun e w'=>e=.returned (.bool (aB ⟨4,v,s⟩))/\Below w.heap.size w w':=by
 obtain⟨c0,c1,c2,c3⟩:=hT.up4 (.cells #[.int .i64 4,.int .i64 v,.string s] 48);by_cases h1:v<0
 ·go_enter func148,ntmps148;go_wp2;go_ret;exact⟨aj (by simp[aB];omega),(aD _ _).alloc i_ _⟩
 ·by_cases h2:6<v
  ·go_enter func148,ntmps148;go_wp2;go_ret;exact⟨aj (by simp[aB];omega),(aD _ _).alloc i_ _⟩
  ·go_enter func148,ntmps148;go_wp2_with fail;refine(gx _ _).mono ?_;rintro e w' ⟨rfl,hb⟩;go_wp2;go_ret;refine⟨aj ?_,((aD _ _).alloc i_ _).trans (hb.mono (by simp;omega))⟩;simp[aB];omega
theorem BH(v:Int)(s:ByteArray)(w:World)(hT:dz w):Calls prog 148 #[.agg #[.int .i64 5,.int .i64 v,.string s]] w fun e w'=>e=.returned (.bool (aB ⟨5,v,s⟩))/\Below w.heap.size w w':=by
 obtain⟨c0,c1,c2,c3⟩:=hT.up5 (.cells #[.int .i64 5,.int .i64 v,.string s] 48);by_cases h1:v<0
 ·go_enter func148,ntmps148;go_wp2;go_ret;exact⟨aj (by simp[aB];omega),(aD _ _).alloc i_ _⟩
 ·by_cases h2:0<v
  ·go_enter func148,ntmps148;go_wp2;go_ret;exact⟨aj (by simp[aB];omega),(aD _ _).alloc i_ _⟩
  ·go_enter func148,ntmps148;go_wp2_with fail;refine(d9 _ _).mono ?_;rintro e w' ⟨rfl,hb⟩;go_wp2;go_ret;refine⟨aj ?_,((aD _ _).alloc i_ _).trans (hb.mono (by simp;omega))⟩;simp[aB];omega
theorem BJ(v:Int)(s:ByteArray)(w:World)(hT:dz w):Calls prog 148 #[.agg #[.int .i64 6,.int .i64 v,.string s]] w fun e w'=>e=.returned (.bool (aB ⟨6,v,s⟩))/\Below w.heap.size w w':=by
 obtain⟨c0,c1,c2,c3⟩:=hT.up6 (.cells #[.int .i64 6,.int .i64 v,.string s] 48);by_cases h1:v<0
 ·go_enter func148,ntmps148;go_wp2;go_ret;exact⟨aj (by simp[aB];omega),(aD _ _).alloc i_ _⟩
 ·by_cases h2:2<v
  ·go_enter func148,ntmps148;go_wp2;go_ret;exact⟨aj (by simp[aB];omega),(aD _ _).alloc i_ _⟩
  ·go_enter func148,ntmps148;go_wp2_with fail;refine(d9 _ _).mono ?_;rintro e w' ⟨rfl,hb⟩;go_wp2;go_ret;refine⟨aj ?_,((aD _ _).alloc i_ _).trans (hb.mono (by simp;omega))⟩;simp[aB];omega
theorem BK(v:Int)(s:ByteArray)(w:World)(hT:dz w):Calls prog 148 #[.agg #[.int .i64 7,.int .i64 v,.string s]] w fun e w'=>e=.returned (.bool (aB ⟨7,v,s⟩))/\Below w.heap.size w w':=by
 obtain⟨c0,c1,c2,c3⟩:=hT.up7 (.cells #[.int .i64 7,.int .i64 v,.string s] 48);by_cases h1:v<0
 ·go_enter func148,ntmps148;go_wp2;go_ret;exact⟨aj (by simp[aB];omega),(aD _ _).alloc i_ _⟩
 ·by_cases h2:15<v
  ·go_enter func148,ntmps148;go_wp2;go_ret;exact⟨aj (by simp[aB];omega),(aD _ _).alloc i_ _⟩
  ·go_enter func148,ntmps148;go_wp2_with fail;refine(d9 _ _).mono ?_;rintro e w' ⟨rfl,hb⟩;go_wp2;go_ret;refine⟨aj ?_,((aD _ _).alloc i_ _).trans (hb.mono (by simp;omega))⟩;simp[aB];omega
theorem BL(v:Int)(s:ByteArray)(w:World)(hT:dz w):Calls prog 148 #[.agg #[.int .i64 8,.int .i64 v,.string s]] w fun e w'=>e=.returned (.bool (aB ⟨8,v,s⟩))/\Below w.heap.size w w':=by
 obtain⟨c0,c1,c2,c3⟩:=hT.up8 (.cells #[.int .i64 8,.int .i64 v,.string s] 48);by_cases h1:v<0
 ·go_enter func148,ntmps148;go_wp2;go_ret;exact⟨aj (by simp[aB];omega),(aD _ _).alloc i_ _⟩
 ·by_cases h2:0<v
  ·go_enter func148,ntmps148;go_wp2;go_ret;exact⟨aj (by simp[aB];omega),(aD _ _).alloc i_ _⟩
  ·go_enter func148,ntmps148;go_wp2_with fail;refine(d9 _ _).mono ?_;rintro e w' ⟨rfl,hb⟩;go_wp2;go_ret;refine⟨aj ?_,((aD _ _).alloc i_ _).trans (hb.mono (by simp;omega))⟩;simp[aB];omega
theorem BM(v:Int)(s:ByteArray)(w:World)(hT:dz w):Calls prog 148 #[.agg #[.int .i64 9,.int .i64 v,.string s]] w fun e w'=>e=.returned (.bool (aB ⟨9,v,s⟩))/\Below w.heap.size w w':=by
 obtain⟨c0,c1,c2,c3⟩:=hT.up9 (.cells #[.int .i64 9,.int .i64 v,.string s] 48);by_cases h1:v<0
 ·go_enter func148,ntmps148;go_wp2;go_ret;exact⟨aj (by simp[aB];omega),(aD _ _).alloc i_ _⟩
 ·by_cases h2:0<v
  ·go_enter func148,ntmps148;go_wp2;go_ret;exact⟨aj (by simp[aB];omega),(aD _ _).alloc i_ _⟩
  ·go_enter func148,ntmps148;go_wp2_with fail;refine(d9 _ _).mono ?_;rintro e w' ⟨rfl,hb⟩;go_wp2;go_ret;refine⟨aj ?_,((aD _ _).alloc i_ _).trans (hb.mono (by simp;omega))⟩;simp[aB];omega
theorem BN(k v:Int)(s:ByteArray)(w:World)(hk:k<1∨9<k):Calls prog 148 #[.agg #[.int .i64 k,.int .i64 v,.string s]] w fun e w'=>e=.returned (.bool (aB ⟨k,v,s⟩))/\Below w.heap.size w w':=by
 have hn:aB ⟨k,v,s⟩=false:=by
  simp only[aB];rw[if_neg o_,if_neg o_,if_neg o_,if_neg o_,if_neg o_,if_neg o_]
 rw[hn];rcases hk with hk|hk
 ·go_enter func148,ntmps148;go_wp2;go_ret;exact⟨rfl,r_.alloc n_ _⟩
 ·have h':1<=k:=o_
  go_enter func148,ntmps148;go_wp2;go_ret;exact⟨rfl,r_.alloc n_ _⟩
theorem tv(n:Nd)(w:World)(hT:dz w):Calls prog 148 #[.agg #[.int .i64 n.kind,.int .i64 n.val,.string n.name]] w fun e w'=>e=.returned (.bool (aB n))/\Below w.heap.size w w':=by
 obtain⟨k,v,s⟩:=n;by_cases hk:k<1∨9<k
 ·exact BN k v s w hk
 have h9:k=1∨k=2∨k=3∨k=4∨k=5∨k=6∨k=7∨k=8∨k=9:=o_;rcases h9 with rfl|rfl|rfl|rfl|rfl|rfl|rfl|rfl|rfl
 ·exact BD v s w hT
 ·exact BE v s w hT
 ·exact BF v s w hT
 ·exact BG v s w hT
 ·exact BH v s w hT
 ·exact BJ v s w hT
 ·exact BK v s w hT
 ·exact BL v s w hT
 ·exact BM v s w hT
end
section
variable{w w':World}{ns:List Nd}
def gL(w:World)(b off:Nat)(ns:List Nd):Prop:=∀j (h:j<ns.length),
 w.cell? ⟨b,off+j*3,none⟩=some (.int .i64 ns[j].kind)/\w.cell? ⟨b,off+j*3+1,none⟩=some (.int .i64 ns[j].val)/\w.cell? ⟨b,off+j*3+2,none⟩=some (.string ns[j].name)
theorem gL.below{b off:Nat}(h:gL w b off ns)(hb:Below w.heap.size w w'):gL w' b off ns:=by
 intro j hj;obtain⟨c0,c1,c2⟩:=h j hj;have Ja:=b_ c0;exact⟨(hb.cell Ja).trans c0,(hb.cell (p:=⟨b,off+j*3+1,none⟩) Ja).trans c1,(hb.cell (p:=⟨b,off+j*3+2,none⟩) Ja).trans c2⟩
def ax(w:World)(v:Value)(ns:List Nd):Prop:=∃a cap,v=.slice a ns.length cap/\ns.length<=cap/\cap<=9223372036854775807/\(0<ns.length->∃b off,a=some ⟨b,off,none⟩/\gL w b off ns)
theorem ax.below{v:Value}(h:ax w v ns)(hb:Below w.heap.size w w'):ax w' v ns:=by
 obtain⟨a,Jb,rfl,hl,hm,h⟩:=h;refine⟨a,Jb,rfl,hl,hm,fun h0=>?_⟩;obtain⟨b,Ja,rfl,hc⟩:=h h0;exact⟨b,Ja,rfl,hc.below hb⟩
theorem lV{t:TypeId}{x y z:Value}(h:Below (w.heap.size+1) (w.alloc (.cells #[x,y,z] t)) w'):
  w'.cell? ⟨w.heap.size,0,none⟩=some x/\w'.cell? ⟨w.heap.size,1,none⟩=some y/\w'.cell? ⟨w.heap.size,2,none⟩=some z:=by
 refine⟨?_,?_,?_⟩ <;> (rw[h.cell i_];simp)
theorem iJ(v:Value)(ns:List Nd)(w:World)(hT:dz w)(hl:ns.length<=1048576)(hc:ax w v ns):
  Calls prog 112 #[v] w fun e w'=>e=.returned (.bool (bW ns))/\Below w.heap.size w w':=by
 obtain⟨a,Jp,rfl,Js,Jr,hc⟩:=hc;have HC:=ah hc;clear hc;go_enter func112,ntmps112;go_wp2;go_loopw[3,8] (fun r i wr=>∃(k:Nat) (q:Int),k<=ns.length/\i=.int .i64 k/\r=.int .i64 q/\wholeTo (ns.take k) 0=some q/\Bl w wr) (fun _ i _=>ns.length-(RowKit.intOf i).toNat)
 case atStart=>exact⟨0,0,y_,rfl,rfl,rfl,r_⟩
 case round=>
  obtain⟨k,q,hk,rfl,rfl,hq,hB⟩:=hrel;have HQ:=ah hq;have Jf:=qf _ _ _ hq (Int.le_refl 0);have Jo:q<=1048576:=by have:=Jf.2;simp at this;omega
  have Jn:=Jf.1;by_cases hlt:k<ns.length
  ·obtain⟨b,Jl,rfl,hc⟩:=HC.out o_;obtain⟨d0,d1,d2⟩:=(hc.below hB) k hlt;have HT:Hid (dz wr):=hT.below hT.size hB;have Jm:=hT.size;have HS:Hid _:=fm ns k q hlt HQ;clear hc hT HC;generalize hn:ns[k]=n at d0 d1 d2 HS;go_wp2_with fail;refine(tv n _ (HT.out.below HT.out.size (aD _ _))).mono ?_;rintro e w1 ⟨rfl,Ja⟩;simp only[World.size_alloc]at Ja;have Jh:=hB.trans (((aD _ _).trans (Ja.mono o_)).mono hB.size);cases hv:aB n
   ·go_wp2;go_ret;refine⟨aj (mf ns (k+1) ?_).symm,Jh⟩;rw[HS.out,if_neg (by simp[hv])]
   ·obtain⟨e0,e1,e2⟩:=lV Ja;have Jd:Hid (dz w1):=HT.out.below HT.out.size ((aD _ _).trans (Ja.mono o_));have Je:=bL hv;have Jq:=dA hv;go_wp2_with fail;refine(kB n _ Jd.out Je).mono ?_;rintro e w2 ⟨rfl,Jg⟩;have Jb:=Ja.trans (Jg.mono (by have:=Ja.size;simp at this;omega));have Jc:=hB.trans (((aD _ _).trans (Jb.mono o_)).mono hB.size);obtain⟨f0,f1,f2⟩:=lV Jb;have Jj:Hid (dz w2):=Jd.out.below Jd.out.size Jg;clear e0 e1 e2 d0 d1 d2;by_cases ha:q<arity n
    ·go_wp2;go_ret;refine⟨aj (mf ns (k+1) ?_).symm,Jc⟩;rw[HS.out,if_neg o_]
    ·go_wp2_with fail;refine(kB n _ Jj.out Je).mono ?_;rintro e w3 ⟨rfl,Jk⟩;have Ji:=Jc.trans (Jk.mono Jc.size);go_wp2;go_roundw
     case rel=>exact⟨k+1,q+1-arity n,o_,by go_num,by rw[show q+(1-arity n)=q+1-arity n by omega],by rw[HS.out,if_pos ⟨hv,o_⟩],Ji⟩
     case measure=>simp[RowKit.intOf];omega
  ·go_wp2;go_ret;obtain rfl:k=ns.length:=by omega
   exact⟨aj (sS ns q HQ).symm,hB⟩
end
theorem oU(n:Nd)(w:World):Calls prog 150 #[.agg #[.int .i64 n.kind,.int .i64 n.val,.string n.name]] w fun e w'=>e=.returned (.int .i64 (arity n))/\Below w.heap.size w w':=tl n.kind n.val n.name w
theorem oV(v:Value)(ns:List Nd)(w:World)(hl:ns.length<=1048576)(hg:dU ns)(hc:ax w v ns):
  Calls prog 147 #[v] w fun e w'=>∃r,uY ns r /\ -1<=r/\r<=1048576/\e=.returned (.int .i64 r)/\Below w.heap.size w w':=by
 obtain⟨a,Jg,rfl,Jj,Ji,hc⟩:=hc;obtain⟨HC,HG⟩:=h2 hc hg;clear hc hg;go_enter func147,ntmps147;go_wp2;go_loopw[3,4] (fun r i wr=>∃(k:Nat) (q:Int),k<=ns.length/\i=.int .i64 k/\r=.int .i64 q/\q=defc (ns.drop k)/\0<=q/\(∀j,k<j->j<=ns.length->1<=defc (ns.drop j))/\Bl w wr) (fun _ i _=>(RowKit.intOf i).toNat)
 case atStart=>exact⟨ns.length,1,n_,rfl,rfl,by simp[defc],o_,fun j h1 h2=>absurd h2 o_,r_⟩
 case round=>
  obtain⟨k,q,hk,rfl,rfl,hq,Jf,hj,hB⟩:=hrel;have Ja:=rE _ (mX HG.out k);have Jh:q<=6291457:=by rw[hq];simp at Ja;omega
  obtain⟨HQ,HJ⟩:=h2 hq hj;clear hq hj Ja;by_cases h0:0<q
  ·by_cases hk0:k=0
   ·subst hk0;go_wp2;go_ret;refine⟨-1,.inr ⟨rfl,fun j hj=>?_⟩,o_,o_,rfl,hB⟩;rcases Nat.eq_zero_or_pos j with rfl|hp
    ·rw[<-HQ.out];omega
    ·exact HJ.out j hp hj
   ·obtain⟨m,rfl⟩:∃m,k=m+1:=⟨k-1,o_⟩;obtain⟨b,Je,rfl,hc⟩:=HC.out o_;obtain⟨d0,d1,d2⟩:=(hc.below hB) m o_;have Jd:=dA (HG.out ns[m] (g_ _));have HD:Hid _:=mg ns m o_;clear hc HC;generalize hn:ns[m]=n at d0 d1 d2 HD Jd;clear hn;have e1:((m+1:Nat):Int)-1=(m:Int):=o_
    go_wp2_with fail;refine(oU n _).mono ?_;rintro e w1 ⟨rfl,Jc⟩;have Jb:=hB.trans (Jc.mono hB.size);clear d0 d1 d2;go_wp2;go_roundw
    case rel=>
     refine⟨m,q-1+arity n,o_,by go_num,rfl,?_,o_,fun j h1 h2=>?_,Jb⟩
     ·rw[HD.out,<-HQ.out];omega
     ·by_cases e:j=m+1
      ·subst e;rw[<-HQ.out];omega
      ·exact HJ.out j o_ h2
    case measure=>simp[RowKit.intOf]
  ·go_wp2;go_ret;refine⟨k,.inl ⟨k,rfl,?_,?_,HJ⟩,o_,o_,rfl,hB⟩
   ·rcases Nat.lt_or_ge k ns.length with h|h
    ·exact h
    ·exfalso
     have:=HQ.out
     rw[List.drop_of_length_le h,defc]at this;omega
   ·rw[<-HQ.out];omega
theorem vS{l:List Nd}{k:Nat}(hk:k<l.length)(h:aB l[k]=false):bW l=false:=by
 cases e:bW l
 ·rfl
 ·have:=((jo l).1 e).1 _ (g_ hk)
  rw[h]at this;cases this
theorem eE(v:Value)(ns:List Nd)(w:World)(hl:ns.length<=1048576)(hc:ax w v ns):
  Calls prog 108 #[v] w fun e w'=>e=.returned (.bool (decide (ns.length<=2000)&&bW ns))/\Below w.heap.size w w':=by
 have HN:=ah hc;obtain⟨a,Jg,rfl,Jj,Ji,hc⟩:=hc;have HC:=ah hc;clear hc;by_cases h2:2000<ns.length
 ·have hd:(decide (ns.length<=2000)&&bW ns)=false:=by simp;omega
  rw[hd];go_enter func108,ntmps108;go_wp2;go_ret;exact⟨rfl,r_⟩
 ·have hd:(decide (ns.length<=2000)&&bW ns)=bW ns:=by rw[decide_eq_true o_];rfl
  rw[hd];clear hd;go_enter func108,ntmps108;go_wp2;go_loopw[3] (fun i wr=>∃(k:Nat),k<=ns.length/\i=.int .i64 k/\(∀n∈ns.take k,aB n=true)/\Bl w wr) (fun i _=>ns.length-(RowKit.intOf i).toNat)
  case atStart=>exact⟨0,y_,rfl,i_,r_⟩
  case round=>
   obtain⟨k,hk,rfl,hg,hB⟩:=hrel;have HG:=ah hg;by_cases hlt:k<ns.length
   ·obtain⟨b,Je,rfl,hc⟩:=HC.out o_;obtain⟨d0,d1,d2⟩:=(hc.below hB) k hlt;clear hc HC;have HE:Hid (ns.take (k+1)=ns.take k++[ns[k]]):=bM ns k hlt;have HX:Hid (aB ns[k]=false->bW ns=false):=vS hlt;generalize hn:ns[k]=n at d0 d1 d2 HE HX;go_wp2_with fail;refine(tu n _).mono ?_;rintro e w1 ⟨rfl,Ja⟩;have Jb:=hB.trans (Ja.mono hB.size);clear d0 d1 d2;cases hv:aB n
    ·go_wp2;go_ret;exact⟨aj (HX.out hv).symm,Jb⟩
    ·go_wp2;go_roundw
     case rel=>
      refine⟨k+1,o_,by go_num,fun m hm=>?_,Jb⟩;rw[HE.out]at hm;rcases List.mem_append.1 hm with hm|hm
      ·exact HG.out m hm
      ·rw[List.mem_singleton.1 hm];exact hv
     case measure=>simp[RowKit.intOf];omega
   ·have Jc:k=ns.length:=o_
    subst Jc;have Jd:dU ns:=by have:=HG.out;rw[List.take_length]at this;exact this
    have HA:=ah Jd;by_cases h0:0<ns.length
    ·go_wp2_with fail;refine(oV _ ns _ hl HA.out (HN.out.below hB)).mono ?_;rintro e w1 ⟨r,hr,Jh,Jf,rfl,Ja⟩;have HR:=ah hr;clear hr;go_wp2;go_ret;exact⟨aj (sT HA.out HR),hB.trans (Ja.mono hB.size)⟩
    ·go_wp2;go_ret;refine⟨aj ?_,hB⟩;have:ns=[]:=List.eq_nil_of_length_eq_zero o_
     subst this;simp[bW,wholeTo]
theorem gL.up{w:World}{b off:Nat}{ns:List Nd}(h:gL w b off ns)(j:Nat)(hj:j<ns.length):(∀o,(w.alloc o).cell? ⟨b,off+j*3,none⟩=some (.int .i64 ns[j].kind))/\(∀o,(w.alloc o).cell? ⟨b,off+j*3+1,none⟩=some (.int .i64 ns[j].val))/\(∀o,(w.alloc o).cell? ⟨b,off+j*3+2,none⟩=some (.string ns[j].name)):=
 ⟨fun o=>((h.below (r_.alloc n_ o)) j hj).1,fun o=>((h.below (r_.alloc n_ o)) j hj).2.1,fun o=>((h.below (r_.alloc n_ o)) j hj).2.2⟩
theorem gy(v:Value)(ns:List Nd)(w:World)(hl:0<ns.length)(hm:ns.length<=1048576)(hc:ax w v ns):
  Calls prog 109 #[v] w fun e w'=>e=.returned (.agg #[.int .i64 (ns[ns.length-1]'(by omega)).kind,.int .i64 (ns[ns.length-1]'(by omega)).val,.string (ns[ns.length-1]'(by omega)).name])/\Below w.heap.size w w':=by
 obtain⟨a,Je,rfl,Jb,Jd,hc⟩:=hc;obtain⟨b,Jc,rfl,hn⟩:=hc hl;obtain⟨d0,d1,d2⟩:=hn.up (ns.length-1) o_;generalize hn:ns[ns.length-1]=n at d0 d1 d2⊢;obtain⟨m,Ja⟩:∃m,ns.length=m+1:=⟨ns.length-1,o_⟩;rw[Ja]at d0 d1 d2 hl hm Jb⊢;have e1:((m+1:Nat):Int)-1=(m:Int):=o_;have e2:m+1-1=m:=o_;rw[e2]at d0 d1 d2;go_enter func109,ntmps109;go_wp2_with fail;exact bodyPost_ret (v:=.agg #[.int .i64 n.kind,.int .i64 n.val,.string n.name]) (by simp[results,results109,go_sem]) rfl ⟨rfl,r_.alloc n_ _⟩
section
variable{w:World}{a:Option Addr}{cap:Nat}{ns:List Nd}
theorem ax.cut(h:ax w (.slice a ns.length cap) ns)(lo hi:Nat)(h1:lo<=hi)(h2:hi<=ns.length):
  ax w (.slice (if cap=lo then a else a.map (·.add (lo*3))) (hi-lo) (cap-lo)) ((ns.take hi).drop lo):=by
 obtain⟨a',Jb,he,hl,hm,h⟩:=h;simp only[Value.slice.injEq,true_and]at he;obtain⟨rfl,rfl⟩:=he;refine⟨if cap=lo then a else a.map (·.add (lo*3)),cap-lo,by simp[Nat.min_eq_left h2],by simp[Nat.min_eq_left h2];omega,o_,fun h0=>?_⟩;simp only[List.length_drop,List.length_take,Nat.min_eq_left h2]at h0;obtain⟨b,Ja,rfl,hc⟩:=h o_;refine⟨b,Ja+lo*3,?_,fun j hj=>?_⟩
 ·rw[if_neg o_];simp[Addr.add]
 ·simp only[List.length_drop,List.length_take,Nat.min_eq_left h2]at hj;have Jc:=hc (lo+j) o_;have e:((ns.take hi).drop lo)[j]'(by simp;omega)=ns[lo+j]'(by omega):=i_
  rw[e];have e1:Ja+lo*3+j*3=Ja+(lo+j)*3:=o_;rw[e1];exact Jc
theorem ax.head(h:ax w (.slice a ns.length cap) ns)(hi:Nat)(h2:hi<=ns.length):ax w (.slice a hi cap) (ns.take hi):=by
 have:=h.cut 0 hi y_ h2
 have e:(if cap=0 then a else a.map (·.add (0*3)))=a:=by
  split
  ·rfl
  ·cases a <;> simp[Addr.add]
 rw[e]at this;simpa using this
theorem vT(a:Option Addr)(n cap lo hi:Nat)(h1:lo<=hi)(h2:hi<=n)(h3:n<=cap):∀w:World,(Instr.slice 44 (.slice a n cap) (some (.int .i64 lo)) (some (.int .i64 hi)) none).run prog w=.ok (.slice (if cap=lo then a else a.map (·.add (lo*3))) (hi-lo) (cap-lo)) w:=by
 intro w;have hz:prog.elem 44=48:=k_;have hs:(sizeOf 48).run prog w=.ok 3 w:=k_;rw[run_slice_lh w 44 a n cap (by rw[hz];exact underlying44) .i64 .i64 _ _ o_ o_ o_,hz,hs];simp only[Result.andThen,sliced,Int.toNat_natCast]
theorem qv(a:Option Addr)(n cap lo:Nat)(h2:lo<=n)(h3:n<=cap):∀w:World,(Instr.slice 44 (.slice a n cap) (some (.int .i64 lo)) none none).run prog w=.ok (.slice (if cap=lo then a else a.map (·.add (lo*3))) (n-lo) (cap-lo)) w:=by
 intro w;have hz:prog.elem 44=48:=k_;have hs:(sizeOf 48).run prog w=.ok 3 w:=k_;rw[run_slice_l w 44 a n cap (by rw[hz];exact underlying44) .i64 _ o_ o_,hz,hs];simp only[Result.andThen,sliced,Int.toNat_natCast]
def Kids(w0 w:World)(N:Nat)(v:Value)(e:List Nd)(b:Nat->Nat)(A:Nat):Prop:=
 ∃a cap,v=.slice a A cap/\A<=cap/\cap<=9223372036854775807/\(0<A->∃B,a=some ⟨B,0,none⟩/\N<=B/\B<w.heap.size/\∀i,i<A->∃vi,w.cell? ⟨B,i,none⟩=some vi/\ax w0 vi (bH e b i))
theorem Kids.below{w0 w':World}{N:Nat}{v:Value}{e:List Nd}{b:Nat->Nat}{A:Nat}(h:Kids w0 w N v e b A)(hb:Below w.heap.size w w'):Kids w0 w' N v e b A:=by
 obtain⟨a,Ja,rfl,hl,hm,h⟩:=h;refine⟨a,Ja,rfl,hl,hm,fun h0=>?_⟩;obtain⟨B,rfl,hN,hB,hc⟩:=h h0;refine⟨B,rfl,hN,l_ hB hb.size,fun i hi=>?_⟩;obtain⟨vi,h1,h2⟩:=hc i hi;exact⟨vi,(hb.cell (p:=⟨B,i,none⟩) (b_ h1)).trans h1,h2⟩
theorem kZ:(prog.info? 44).map (fun i=>(i.zero,i.size,i.bytes))=some (some (.slice none 0 0),1,24):=by kernel_rfl
end
section
variable{w w':World}
theorem ie{t u:TypeId}{x0 x1 x2 x3 x4 x5 y0 y1 y2 y3 y4:Value}(h:Below (w.heap.size+1+1) ((w.alloc (.cells #[x0,x1,x2,x3,x4,x5] t)).alloc (.cells #[y0,y1,y2,y3,y4] u)) w'):
  (w'.cell? ⟨w.heap.size,0,none⟩=some x0/\w'.cell? ⟨w.heap.size,1,none⟩=some x1/\w'.cell? ⟨w.heap.size,2,none⟩=some x2/\w'.cell? ⟨w.heap.size,3,none⟩=some x3/\w'.cell? ⟨w.heap.size,4,none⟩=some x4/\w'.cell? ⟨w.heap.size,5,none⟩=some x5) /\
  (w'.cell? ⟨w.heap.size+1,0,none⟩=some y0/\w'.cell? ⟨w.heap.size+1,1,none⟩=some y1/\w'.cell? ⟨w.heap.size+1,2,none⟩=some y2/\w'.cell? ⟨w.heap.size+1,3,none⟩=some y3/\w'.cell? ⟨w.heap.size+1,4,none⟩=some y4):=by
 have e0:(⟨w.heap.size+1,0,none⟩:Addr)=⟨(w.alloc (.cells #[x0,x1,x2,x3,x4,x5] t)).heap.size,0,none⟩:=i_;refine⟨⟨?_,?_,?_,?_,?_,?_⟩,?_,?_,?_,?_,?_⟩ <;> (rw[h.cell (by first|(simp;done)|(simp;omega))];simp)
theorem cU{a b:Obj}(h:Below (w.heap.size+1+1) ((w.alloc a).alloc b) w'):Below w.heap.size w w':=
 ((aD _ _).alloc i_ _).trans (h.mono o_)
theorem vU(k:Int)(hk:k=1∨k=2)(s:ByteArray)(ve vf:Value)(es fs:List Nd)(t l:Int)(w:World)(hT:dz w)(Jk:es.length<=1048576)(Jl:fs.length<=1048576)(he:ax w ve es)(hf:ax w vf fs):
  Calls prog 78 #[.agg #[.int .i64 k,.string s,ve,vf,.int .i64 t,.int .i64 l]] w fun e w'=>e=.returned (.bool (stmtB ⟨k,s,es,fs,t,l⟩))/\Below w.heap.size w w':=by
 rcases hk with rfl|rfl;all_goals
  obtain⟨HE,HF⟩:=h2 he hf;obtain⟨ae,ce,rfl,-,-,-⟩:=he;obtain⟨af,cf,rfl,-,-,-⟩:=hf;have HT:=ah hT;have Jh:=HT.out.size;have c0:∀o,(w.alloc o).cell? ⟨0,5,none⟩=some (.bool true):=fun o=>HT.out.stmtUp 5 o_ o;have c1:∀o,(w.alloc o).cell? ⟨0,6,none⟩=some (.bool false):=fun o=>HT.out.stmtUp 6 o_ o;have c2:∀o,(w.alloc o).cell? ⟨0,7,none⟩=some (.bool false):=fun o=>HT.out.stmtUp 7 o_ o;have c3:∀o,(w.alloc o).cell? ⟨0,8,none⟩=some (.bool false):=fun o=>HT.out.stmtUp 8 o_ o;have c4:∀o,(w.alloc o).cell? ⟨0,9,none⟩=some (.bool false):=fun o=>HT.out.stmtUp 9 o_ o;have d0:∀o,(w.alloc o).cell? ⟨0,10,none⟩=some (.bool true):=fun o=>HT.out.stmtUp 10 o_ o;have d1:∀o,(w.alloc o).cell? ⟨0,11,none⟩=some (.bool false):=fun o=>HT.out.stmtUp 11 o_ o;have d2:∀o,(w.alloc o).cell? ⟨0,12,none⟩=some (.bool false):=fun o=>HT.out.stmtUp 12 o_ o;have d3:∀o,(w.alloc o).cell? ⟨0,13,none⟩=some (.bool false):=fun o=>HT.out.stmtUp 13 o_ o;have d4:∀o,(w.alloc o).cell? ⟨0,14,none⟩=some (.bool false):=fun o=>HT.out.stmtUp 14 o_ o;go_enter func78,ntmps78;go_wp2_with fail;refine(gx _ _).mono ?_;rintro e w1 ⟨rfl,Ja⟩;simp only[World.size_alloc]at Ja;have Jd:=cU Ja;obtain⟨⟨x0,x1,x2,x3,x4,x5⟩,y0,y1,y2,y3,y4⟩:=ie Ja;cases hn:aK s
  ·go_wp2;go_ret;exact⟨aj (by simp only[stmtB];simp[hn]),Jd⟩
  go_wp2_with fail;refine(iJ _ es _ (HT.out.below Jh Jd) Jk (HE.out.below Jd)).mono ?_;rintro e w2 ⟨rfl,Ji⟩;have Jb:=Ja.trans (Ji.mono (by have:=Ja.size;simp at this;omega));have Jc:=cU Jb;obtain⟨⟨x0,x1,x2,x3,x4,x5⟩,y0,y1,y2,y3,y4⟩:=ie Jb;cases ho:bW es
  ·go_wp2;go_ret;exact⟨aj (by simp only[stmtB];simp[hn,ho]),Jc⟩
  by_cases hf0:fs.length=0
  case neg=>
   have Jj:((fs.length:Int) == 0)=false:=by simp only[beq_eq_false_iff_ne];omega
   have Jg:((fs.length:Int) != 0)=true:=by simp only[bne_iff_ne];omega
   go_wp2;go_ret;refine⟨aj ?_,Jc⟩;have:(fs.length == 0)=false:=by simpa using hf0
   simp only[stmtB];simp[hn,ho,this,hf0]
  have Jj:((fs.length:Int) == 0)=true:=by simp only[beq_iff_eq];omega
  have Jg:((fs.length:Int) != 0)=false:=by simp only[bne_eq_false_iff_eq];omega
  have Je:=ah hf0;by_cases ht:t=0
  ·have Jf:(t == 0)=true:=by simpa using ht
   go_wp2;go_ret;refine⟨aj ?_,Jc⟩;have ht:t=0:=by simpa using Jf
   simp only[stmtB];simp[hn,ho,Je.out,ht]
  ·have Jf:(t == 0)=false:=by simpa using ht
   go_wp2;go_ret;refine⟨aj ?_,Jc⟩;simp only[stmtB];simp[hn,ho,Je.out,ht]
theorem BO(s:ByteArray)(ve vf:Value)(es fs:List Nd)(t l:Int)(w:World)(hT:dz w)(Jl:es.length<=1048576)(Jk:fs.length<=1048576)(he:ax w ve es)(hf:ax w vf fs):
  Calls prog 78 #[.agg #[.int .i64 3,.string s,ve,vf,.int .i64 t,.int .i64 l]] w fun e w'=>e=.returned (.bool (stmtB ⟨3,s,es,fs,t,l⟩))/\Below w.heap.size w w':=by
 obtain⟨HE,HF⟩:=h2 he hf;obtain⟨ae,ce,rfl,-,-,-⟩:=he;obtain⟨af,cf,rfl,-,-,-⟩:=hf;have HT:=ah hT;have Jg:=HT.out.size;have c0:∀o,(w.alloc o).cell? ⟨0,15,none⟩=some (.bool true):=fun o=>HT.out.stmtUp 15 o_ o;have c1:∀o,(w.alloc o).cell? ⟨0,16,none⟩=some (.bool true):=fun o=>HT.out.stmtUp 16 o_ o;have c2:∀o,(w.alloc o).cell? ⟨0,17,none⟩=some (.bool false):=fun o=>HT.out.stmtUp 17 o_ o;have c3:∀o,(w.alloc o).cell? ⟨0,18,none⟩=some (.bool false):=fun o=>HT.out.stmtUp 18 o_ o;have c4:∀o,(w.alloc o).cell? ⟨0,19,none⟩=some (.bool false):=fun o=>HT.out.stmtUp 19 o_ o;go_enter func78,ntmps78;go_wp2_with fail;refine(gx _ _).mono ?_;rintro e w1 ⟨rfl,Jb⟩;simp only[World.size_alloc]at Jb;have Jd:=cU Jb;obtain⟨⟨x0,x1,x2,x3,x4,x5⟩,y0,y1,y2,y3,y4⟩:=ie Jb;cases hn:aK s
 ·go_wp2;go_ret;exact⟨aj (by simp only[stmtB];simp[hn]),Jd⟩
 go_wp2_with fail;refine(iJ _ es _ (HT.out.below Jg Jd) Jl (HE.out.below Jd)).mono ?_;rintro e w2 ⟨rfl,Jj⟩;have Ja:=Jb.trans (Jj.mono (by have:=Jb.size;simp at this;omega));have Jf:=cU Ja;obtain⟨⟨x0,x1,x2,x3,x4,x5⟩,y0,y1,y2,y3,y4⟩:=ie Ja;cases ho:bW es
 ·go_wp2;go_ret;exact⟨aj (by simp only[stmtB];simp[hn,ho]),Jf⟩
 go_wp2_with fail;refine(iJ _ fs _ (HT.out.below Jg Jf) Jk (HF.out.below Jf)).mono ?_;rintro e w3 ⟨rfl,Ji⟩;have Jc:=Ja.trans (Ji.mono (by have:=Ja.size;simp at this;omega));have Je:=cU Jc;obtain⟨⟨x0,x1,x2,x3,x4,x5⟩,y0,y1,y2,y3,y4⟩:=ie Jc;cases hof:bW fs
 ·go_wp2;go_ret;exact⟨aj (by simp only[stmtB];simp[hn,ho,hof]),Je⟩
 by_cases ht:t=0
 ·have Jh:(t == 0)=true:=by simpa using ht
  go_wp2;go_ret;refine⟨aj ?_,Je⟩;have ht:t=0:=by simpa using Jh
  simp only[stmtB];simp[hn,ho,hof,ht]
 ·have Jh:(t == 0)=false:=by simpa using ht
  go_wp2;go_ret;refine⟨aj ?_,Je⟩;simp only[stmtB];simp[hn,ho,hof,ht]
theorem vV(k:Int)(hk:k=4∨k=5)(s:ByteArray)(ve vf:Value)(es fs:List Nd)(t l:Int)(w:World)(hT:dz w)(Jj:es.length<=1048576)(Jk:fs.length<=1048576)(he:ax w ve es)(hf:ax w vf fs):
  Calls prog 78 #[.agg #[.int .i64 k,.string s,ve,vf,.int .i64 t,.int .i64 l]] w fun e w'=>e=.returned (.bool (stmtB ⟨k,s,es,fs,t,l⟩))/\Below w.heap.size w w':=by
 rcases hk with rfl|rfl;all_goals
  obtain⟨HE,HF⟩:=h2 he hf;obtain⟨ae,ce,rfl,-,-,-⟩:=he;obtain⟨af,cf,rfl,-,-,-⟩:=hf;have HT:=ah hT;have Jf:=HT.out.size;have c0:∀o,(w.alloc o).cell? ⟨0,20,none⟩=some (.bool false):=fun o=>HT.out.stmtUp 20 o_ o;have c1:∀o,(w.alloc o).cell? ⟨0,21,none⟩=some (.bool false):=fun o=>HT.out.stmtUp 21 o_ o;have c2:∀o,(w.alloc o).cell? ⟨0,22,none⟩=some (.bool true):=fun o=>HT.out.stmtUp 22 o_ o;have c3:∀o,(w.alloc o).cell? ⟨0,23,none⟩=some (.bool true):=fun o=>HT.out.stmtUp 23 o_ o;have c4:∀o,(w.alloc o).cell? ⟨0,24,none⟩=some (.bool false):=fun o=>HT.out.stmtUp 24 o_ o;have d0:∀o,(w.alloc o).cell? ⟨0,25,none⟩=some (.bool false):=fun o=>HT.out.stmtUp 25 o_ o;have d1:∀o,(w.alloc o).cell? ⟨0,26,none⟩=some (.bool false):=fun o=>HT.out.stmtUp 26 o_ o;have d2:∀o,(w.alloc o).cell? ⟨0,27,none⟩=some (.bool true):=fun o=>HT.out.stmtUp 27 o_ o;have d3:∀o,(w.alloc o).cell? ⟨0,28,none⟩=some (.bool false):=fun o=>HT.out.stmtUp 28 o_ o;have d4:∀o,(w.alloc o).cell? ⟨0,29,none⟩=some (.bool false):=fun o=>HT.out.stmtUp 29 o_ o;go_enter func78,ntmps78;go_wp2_with fail;refine(d9 _ _).mono ?_;rintro e w1 ⟨rfl,Ja⟩;simp only[World.size_alloc]at Ja;have Jc:=cU Ja;obtain⟨⟨x0,x1,x2,x3,x4,x5⟩,y0,y1,y2,y3,y4⟩:=ie Ja;cases hn:s.toList == []
  ·go_wp2;go_ret;exact⟨aj (by simp only[stmtB];simp[hn]),Jc⟩
  go_wp2_with fail;refine(iJ _ es _ (HT.out.below Jf Jc) Jj (HE.out.below Jc)).mono ?_;rintro e w2 ⟨rfl,Jh⟩;have Jb:=Ja.trans (Jh.mono (by have:=Ja.size;simp at this;omega));have Jd:=cU Jb;obtain⟨⟨x0,x1,x2,x3,x4,x5⟩,y0,y1,y2,y3,y4⟩:=ie Jb;cases ho:bW es
  ·go_wp2;go_ret;exact⟨aj (by simp only[stmtB];simp[hn,ho]),Jd⟩
  by_cases hf0:fs.length=0
  case neg=>
   have Ji:((fs.length:Int) == 0)=false:=by simp only[beq_eq_false_iff_ne];omega
   have Je:((fs.length:Int) != 0)=true:=by simp only[bne_iff_ne];omega
   go_wp2;go_ret;refine⟨aj ?_,Jd⟩;have:(fs.length == 0)=false:=by simpa using hf0
   simp only[stmtB];simp[hn,ho,this,hf0]
  have Ji:((fs.length:Int) == 0)=true:=by simp only[beq_iff_eq];omega
  have Je:((fs.length:Int) != 0)=false:=by simp only[bne_eq_false_iff_eq];omega
  have Jg:=ah hf0;go_wp2;go_ret;refine⟨aj ?_,Jd⟩;simp only[stmtB];simp[hn,ho,Jg.out]
theorem vW(k:Int)(hk:k=6∨k=7)(s:ByteArray)(ve vf:Value)(es fs:List Nd)(t l:Int)(w:World)(hT:dz w)(Jk:es.length<=1048576)(Jl:fs.length<=1048576)(he:ax w ve es)(hf:ax w vf fs):
  Calls prog 78 #[.agg #[.int .i64 k,.string s,ve,vf,.int .i64 t,.int .i64 l]] w fun e w'=>e=.returned (.bool (stmtB ⟨k,s,es,fs,t,l⟩))/\Below w.heap.size w w':=by
 rcases hk with rfl|rfl;all_goals
  obtain⟨HE,HF⟩:=h2 he hf;obtain⟨ae,ce,rfl,-,-,-⟩:=he;obtain⟨af,cf,rfl,-,-,-⟩:=hf;have HT:=ah hT;have Jh:=HT.out.size;have c0:∀o,(w.alloc o).cell? ⟨0,30,none⟩=some (.bool false):=fun o=>HT.out.stmtUp 30 o_ o;have c1:∀o,(w.alloc o).cell? ⟨0,31,none⟩=some (.bool false):=fun o=>HT.out.stmtUp 31 o_ o;have c2:∀o,(w.alloc o).cell? ⟨0,32,none⟩=some (.bool false):=fun o=>HT.out.stmtUp 32 o_ o;have c3:∀o,(w.alloc o).cell? ⟨0,33,none⟩=some (.bool false):=fun o=>HT.out.stmtUp 33 o_ o;have c4:∀o,(w.alloc o).cell? ⟨0,34,none⟩=some (.bool false):=fun o=>HT.out.stmtUp 34 o_ o;have d0:∀o,(w.alloc o).cell? ⟨0,35,none⟩=some (.bool false):=fun o=>HT.out.stmtUp 35 o_ o;have d1:∀o,(w.alloc o).cell? ⟨0,36,none⟩=some (.bool false):=fun o=>HT.out.stmtUp 36 o_ o;have d2:∀o,(w.alloc o).cell? ⟨0,37,none⟩=some (.bool false):=fun o=>HT.out.stmtUp 37 o_ o;have d3:∀o,(w.alloc o).cell? ⟨0,38,none⟩=some (.bool false):=fun o=>HT.out.stmtUp 38 o_ o;have d4:∀o,(w.alloc o).cell? ⟨0,39,none⟩=some (.bool false):=fun o=>HT.out.stmtUp 39 o_ o;go_enter func78,ntmps78;go_wp2_with fail;refine(d9 _ _).mono ?_;rintro e w1 ⟨rfl,Ja⟩;simp only[World.size_alloc]at Ja;have Jd:=cU Ja;obtain⟨⟨x0,x1,x2,x3,x4,x5⟩,y0,y1,y2,y3,y4⟩:=ie Ja;cases hn:s.toList == []
  ·go_wp2;go_ret;exact⟨aj (by simp only[stmtB];simp[hn]),Jd⟩
  go_wp2_with fail;refine(iJ _ es _ (HT.out.below Jh Jd) Jk (HE.out.below Jd)).mono ?_;rintro e w2 ⟨rfl,Ji⟩;have Jb:=Ja.trans (Ji.mono (by have:=Ja.size;simp at this;omega));have Jc:=cU Jb;obtain⟨⟨x0,x1,x2,x3,x4,x5⟩,y0,y1,y2,y3,y4⟩:=ie Jb;cases ho:bW es
  ·go_wp2;go_ret;exact⟨aj (by simp only[stmtB];simp[hn,ho]),Jc⟩
  by_cases hf0:fs.length=0
  case neg=>
   have Jj:((fs.length:Int) == 0)=false:=by simp only[beq_eq_false_iff_ne];omega
   have Jg:((fs.length:Int) != 0)=true:=by simp only[bne_iff_ne];omega
   go_wp2;go_ret;refine⟨aj ?_,Jc⟩;have:(fs.length == 0)=false:=by simpa using hf0
   simp only[stmtB];simp[hn,ho,this,hf0]
  have Jj:((fs.length:Int) == 0)=true:=by simp only[beq_iff_eq];omega
  have Jg:((fs.length:Int) != 0)=false:=by simp only[bne_eq_false_iff_eq];omega
  have Je:=ah hf0;by_cases ht:t=0
  ·have Jf:(t == 0)=true:=by simpa using ht
   go_wp2;go_ret;refine⟨aj ?_,Jc⟩;have ht:t=0:=by simpa using Jf
   simp only[stmtB];simp[hn,ho,Je.out,ht]
  ·have Jf:(t == 0)=false:=by simpa using ht
   go_wp2;go_ret;refine⟨aj ?_,Jc⟩;simp only[stmtB];simp[hn,ho,Je.out,ht]
theorem BP(s:ByteArray)(ve vf:Value)(es fs:List Nd)(t l:Int)(w:World)(hT:dz w)(Jp:es.length<=1048576)(Ju:fs.length<=1048576)(he:ax w ve es)(hf:ax w vf fs):
  Calls prog 78 #[.agg #[.int .i64 8,.string s,ve,vf,.int .i64 t,.int .i64 l]] w fun e w'=>e=.returned (.bool (stmtB ⟨8,s,es,fs,t,l⟩))/\Below w.heap.size w w':=by
 obtain⟨HE,HF⟩:=h2 he hf;obtain⟨ae,ce,rfl,-,-,-⟩:=he;obtain⟨af,cf,rfl,-,-,-⟩:=hf;have HT:=ah hT;have Jl:=HT.out.size;have c0:∀o,(w.alloc o).cell? ⟨0,40,none⟩=some (.bool false):=fun o=>HT.out.stmtUp 40 o_ o;have c1:∀o,(w.alloc o).cell? ⟨0,41,none⟩=some (.bool false):=fun o=>HT.out.stmtUp 41 o_ o;have c2:∀o,(w.alloc o).cell? ⟨0,42,none⟩=some (.bool false):=fun o=>HT.out.stmtUp 42 o_ o;have c3:∀o,(w.alloc o).cell? ⟨0,43,none⟩=some (.bool false):=fun o=>HT.out.stmtUp 43 o_ o;have c4:∀o,(w.alloc o).cell? ⟨0,44,none⟩=some (.bool true):=fun o=>HT.out.stmtUp 44 o_ o;go_enter func78,ntmps78;go_wp2_with fail;refine(d9 _ _).mono ?_;rintro e w1 ⟨rfl,Jb⟩;simp only[World.size_alloc]at Jb;have Jd:=cU Jb;obtain⟨⟨x0,x1,x2,x3,x4,x5⟩,y0,y1,y2,y3,y4⟩:=ie Jb;cases hn:s.toList == []
 ·go_wp2;go_ret;exact⟨aj (by simp only[stmtB];simp[hn]),Jd⟩
 go_wp2_with fail;refine(iJ _ es _ (HT.out.below Jl Jd) Jp (HE.out.below Jd)).mono ?_;rintro e w2 ⟨rfl,Jn⟩;have Jc:=Jb.trans (Jn.mono (by have:=Jb.size;simp at this;omega));have Ja:=cU Jc;obtain⟨⟨x0,x1,x2,x3,x4,x5⟩,y0,y1,y2,y3,y4⟩:=ie Jc;cases ho:bW es
 ·go_wp2;go_ret;exact⟨aj (by simp only[stmtB];simp[hn,ho]),Ja⟩
 by_cases hf0:fs.length=0
 case neg=>
  have Jo:((fs.length:Int) == 0)=false:=by simp only[beq_eq_false_iff_ne];omega
  have Jk:((fs.length:Int) != 0)=true:=by simp only[bne_iff_ne];omega
  go_wp2;go_ret;refine⟨aj ?_,Ja⟩;have:(fs.length == 0)=false:=by simpa using hf0
  simp only[stmtB];simp[hn,ho,this,hf0]
 have Jo:((fs.length:Int) == 0)=true:=by simp only[beq_iff_eq];omega
 have Jk:((fs.length:Int) != 0)=false:=by simp only[bne_eq_false_iff_eq];omega
 have Je:=ah hf0;obtain⟨m,hm⟩:∃m,es.length=m+1:=⟨es.length-1,by have:=oH ho;omega⟩;obtain⟨Jr,Jt,Jf,-,-,Jh⟩:=HE.out.below Ja;obtain⟨b,Jq,Jj,Ji⟩:=Jh o_;simp only[Value.slice.injEq]at Jf;obtain⟨d0,d1,d2⟩:=Ji m o_;have HL:Hid (eQ es=(es[m]'(by omega)).kind):=by
  have e2:es.length-1=m:=o_;show eQ es=_;simp only[eQ,e2];rw[List.getElem?_eq_getElem o_]
 rw[Jf.1,Jj,hm]at x2;have e1:((m+1:Nat):Int)-1=(m:Int):=o_;have Js:m<=1048576:=o_;generalize es[m].kind=q at d0 HL;by_cases hq:q=4
 case neg=>
  have Jm:(q == 4)=false:=by simpa using hq
  go_wp2;go_ret;refine⟨aj ?_,Ja⟩;simp only[stmtB];simp[hn,ho,Je.out,HL.out,hq]
 have Jm:(q == 4)=true:=by simpa using hq
 have HQ:=ah hq;by_cases ht:t=0
 ·have Jg:(t == 0)=true:=by simpa using ht
  go_wp2;go_ret;refine⟨aj ?_,Ja⟩;have ht:t=0:=by simpa using Jg
  simp only[stmtB];simp[hn,ho,Je.out,HL.out,HQ.out,ht]
 ·have Jg:(t == 0)=false:=by simpa using ht
  go_wp2;go_ret;refine⟨aj ?_,Ja⟩;simp only[stmtB];simp[hn,ho,Je.out,HL.out,HQ.out,ht]
theorem BQ(k:Int)(s:ByteArray)(ve vf:Value)(es fs:List Nd)(t l:Int)(w:World)(hk:k<1∨8<k)(he:ax w ve es)(hf:ax w vf fs):
  Calls prog 78 #[.agg #[.int .i64 k,.string s,ve,vf,.int .i64 t,.int .i64 l]] w fun e w'=>e=.returned (.bool (stmtB ⟨k,s,es,fs,t,l⟩))/\Below w.heap.size w w':=by
 obtain⟨ae,ce,rfl,-,-,-⟩:=he;obtain⟨af,cf,rfl,-,-,-⟩:=hf;have hs:stmtB ⟨k,s,es,fs,t,l⟩=false:=by
  have:decide (1<=k/\k<=8)=false:=by simp;omega
  simp only[stmtB,this,Bool.false_and]
 rw[hs];rcases hk with hk|hk
 ·go_enter func78,ntmps78;go_wp2;go_ret;exact⟨rfl,r_.alloc n_ _⟩
 ·have h':1<=k:=o_
  go_enter func78,ntmps78;go_wp2;go_ret;exact⟨rfl,r_.alloc n_ _⟩
theorem tz(s:St)(ve vf:Value)(w:World)(hT:dz w)(Jb:s.e.length<=1048576)(Ja:s.f.length<=1048576)(he:ax w ve s.e)(hf:ax w vf s.f):
  Calls prog 78 #[.agg #[.int .i64 s.kind,.string s.name,ve,vf,.int .i64 s.thn,.int .i64 s.els]] w fun e w'=>e=.returned (.bool (stmtB s))/\Below w.heap.size w w':=by
 obtain⟨k,s,es,fs,t,l⟩:=s;by_cases hk:k<1∨8<k
 ·exact BQ k s ve vf es fs t l w hk he hf
 have h9:k=1∨k=2∨k=3∨k=4∨k=5∨k=6∨k=7∨k=8:=o_;rcases h9 with rfl|rfl|rfl|rfl|rfl|rfl|rfl|rfl
 ·exact vU 1 (.inl rfl) s ve vf es fs t l w hT Jb Ja he hf
 ·exact vU 2 (.inr rfl) s ve vf es fs t l w hT Jb Ja he hf
 ·exact BO s ve vf es fs t l w hT Jb Ja he hf
 ·exact vV 4 (.inl rfl) s ve vf es fs t l w hT Jb Ja he hf
 ·exact vV 5 (.inr rfl) s ve vf es fs t l w hT Jb Ja he hf
 ·exact vW 6 (.inl rfl) s ve vf es fs t l w hT Jb Ja he hf
 ·exact vW 7 (.inr rfl) s ve vf es fs t l w hT Jb Ja he hf
 ·exact BP s ve vf es fs t l w hT Jb Ja he hf
end
section
variable{w w':World}{v:Value}{l:List Int}{N:Nat}
def Ints(w:World)(v:Value)(l:List Int):Prop:=∃a cap,v=.slice a l.length cap/\(0<l.length->∃b,a=some ⟨b,0,none⟩/\∀j (h:j<l.length),w.cell? ⟨b,j,none⟩=some (.int .i64 l[j]))
theorem Ints.below(h:Ints w v l)(hb:Below w.heap.size w w'):Ints w' v l:=by
 obtain⟨a,Ja,rfl,h⟩:=h;refine⟨a,Ja,rfl,fun h0=>?_⟩;obtain⟨b,rfl,hc⟩:=h h0;exact⟨b,rfl,fun j hj=>(hb.cell (p:=⟨b,j,none⟩) (b_ (hc j hj))).trans (hc j hj)⟩
theorem vX(h:w.ownsRow N 2 1 v l.length (l.map (Value.int .i64))):Ints w v l:=by
 have h0:=h;obtain⟨hl,h⟩:=h;rcases h with⟨rfl,hz⟩|⟨g,Ja,Jb,rfl,hg,hh,Jd,Je,Jf,Jc⟩
 ·exact⟨none,0,by rw[hz],fun h=>absurd h o_⟩
 ·refine⟨_,Ja,rfl,fun _=>⟨g,rfl,fun j hj=>?_⟩⟩;have:=h0.cells (g:=g) rfl j (.int .i64 l[j]) (by simp[hj])
  have e:(⟨g,0,none⟩:Addr).add j=⟨g,j,none⟩:=by simp only[Addr.add];split <;> simp_all
  rw[e]at this;exact this
end
theorem tD(v:Value)(ns:List Nd)(k i:Nat)(w:World)(hT:dz w)(hl:ns.length<=1048576)(hg:dU ns)(hc:ax w v ns)(hk:k<=ns.length)(hi:sU ns k i):
  Calls prog 197 #[v,.int .i64 k] w fun e w'=>e=.returned (.int .i64 i)/\Below w.heap.size w w':=by
 obtain⟨a,Jl,rfl,Jo,Jn,hc⟩:=hc;obtain⟨b,Jj,rfl,Ji⟩:=hc (by have:=hi.1;omega);obtain⟨HC,HG,HI,HT⟩:=h4 Ji hg hi hT;go_enter func197,ntmps197;go_wp2;go_loopw[5,1] (fun r x wr=>∃(m:Nat) (q:Int),i<=m/\m<=k/\x=.int .i64 m/\r=.int .i64 q/\q=defc ((ns.take k).drop m)/\Bl w wr) (fun _ x _=>(RowKit.intOf x).toNat)
 case atStart=>exact⟨k,1,by have:=HI.out.1;omega,n_,rfl,rfl,by rw[List.drop_of_length_le (by simp;omega)];rfl,r_⟩
 case round=>
  obtain⟨m,q,Jk,hm,rfl,rfl,hq,hB⟩:=hrel;have Jb:=rE ((ns.take k).drop m) (fun n hn=>HG.out n (List.mem_of_mem_take (List.mem_of_mem_drop hn)));have Jm:q<=6291457:=by rw[hq];simp at Jb;omega
  have HQ:=ah hq;clear hq Jb;by_cases e:m=i
  ·subst e;have h0:q=0:=by rw[HQ.out];exact HI.out.2.1
   subst h0;go_wp2;go_ret;exact⟨rfl,hB⟩
  ·have h0:1<=q:=by rw[HQ.out];exact HI.out.2.2 m o_ hm
   obtain⟨p,rfl⟩:∃p,m=p+1:=⟨m-1,o_⟩;have HS:=ah (sV ns k p hk o_);obtain⟨d0,d1,d2⟩:=(HC.out.below hB) p o_;have Ja:=HG.out ns[p] (g_ _);have Jh:=dA Ja;have Jc:=bL Ja;have Jd:=HT.out.below HT.out.size hB;have Jf:=ah Jd;have hp:p<ns.length:=o_;clear HC HG HI HT Jd Ja;generalize hn:ns[p]=n at d0 d1 d2 HS Jh Jc;have e1:((p+1:Nat):Int)-1=(p:Int):=o_;go_wp2_with fail;refine(kB n _ Jf.out Jc).mono ?_;rintro e w1 ⟨rfl,Jg⟩;have Je:=hB.trans (Jg.mono hB.size);clear d0 d1 d2;go_wp2;go_roundw
   case rel=>
    refine⟨p,q+(arity n-1),o_,o_,by go_num,rfl,?_,Je⟩;rw[HS.out,<-HQ.out];omega
   case measure=>simp[RowKit.intOf]
theorem vY{ns:List Nd}{k i:Nat}{r:Int}(hk:k<=ns.length)(hb:sU ns k i)(h:uY (ns.take k) r):r=i:=by
 have Ja:(ns.take k).length=k:=by simp;omega
 obtain⟨b1,b2,b3⟩:=hb;rcases h with⟨i',rfl,h1,h2,h3⟩|⟨rfl,h1⟩
 ·rw[Ja]at h1 h3;have:i'=i:=by
   rcases Nat.lt_trichotomy i' i with h|h|h
   ·have:=h3 i h o_;omega
   ·exact h
   ·have:=b3 i' h o_;omega
  omega
 ·have:=h1 i (by rw[Ja];omega)
  omega
theorem mq(a:Option Addr)(n cap hi:Nat)(h2:hi<=n)(h3:n<=cap):∀w:World,(Instr.slice 44 (.slice a n cap) none (some (.int .i64 (hi:Int))) none).run prog w=.ok (.slice a hi cap) w:=by
 intro w;have hz:prog.elem 44=48:=k_;have hs:(sizeOf 48).run prog w=.ok 3 w:=k_;rw[run_slice_h w 44 a n cap (by rw[hz];exact underlying44) .i64 _ o_ o_,hz,hs];simp only[Result.andThen,sliced,Int.toNat_natCast,Nat.sub_zero,Nat.zero_mul];have e:(if cap=0 then a else a.map (·.add 0))=a:=by
  split
  ·rfl
  ·cases a <;> simp[Addr.add]
 rw[e]
def oW(w0 w:World)(N:Nat)(v:Value)(e:List Nd)(b:Nat->Nat)(A i:Nat):Prop:=
 ∃(B cap:Nat) (vs:List Value),v=.slice (some ⟨B,0,none⟩) (A-i) cap/\A-i<=cap/\cap<=9223372036854775807/\N<=B/\B<w.heap.size/\vs.length=A-i/\∀j (h:j<vs.length),w.cell? ⟨B,j,none⟩=some vs[j]/\ax w0 vs[j] (bH e b (i+j))
theorem oW.kids{w0 w:World}{N:Nat}{v:Value}{e:List Nd}{b:Nat->Nat}{A:Nat}(h:oW w0 w N v e b A 0):Kids w0 w N v e b A:=by
 obtain⟨B,Ja,vs,rfl,h1,h2,h3,h4,h5,h6⟩:=h;rw[Nat.sub_zero]at*;refine⟨_,Ja,rfl,h1,h2,fun _=>⟨B,rfl,h3,h4,fun i hi=>?_⟩⟩;have:=h6 i o_;rw[Nat.zero_add]at this;exact⟨_,this⟩
theorem tE{w:World}{v:Value}{ns:List Nd}(h:ax w v ns):v.oneCell'=true:=by
 obtain⟨a,Ja,rfl,_⟩:=h;rfl
theorem AQ(g j:Nat):(⟨g,0,none⟩:Addr).add j=⟨g,j,none⟩:=by
 simp[Addr.add];try (intro h;omega)
theorem oW.cons{w0 w w':World}{N:Nat}{v' u:Value}{vs:List Value}{e:List Nd}{b:Nat->Nat}{A i n:Nat}(hi:i<A)(Jl:vs.length=A-(i+1))(Jg:∀j (h:j<vs.length),ax w0 vs[j] (bH e b (i+1+j)))(hu:ax w0 u (bH e b i))(Jc:w'.ownsRow N 44 1 v' (1+n) ([u]++vs))(hn:n=A-(i+1)):oW w0 w' N v' e b A i:=by
 have Jb:=Jc;obtain⟨Jd,h⟩:=Jc;rcases h with⟨_,h0⟩|⟨g,Jf,Jh,rfl,hg,hh,Jj,Je,Jk,Ji⟩
 ·omega
 ·refine⟨g,Jf,u::vs,by rw[show 1+n=A-i by omega],o_,by simp only[maxLen]at Je;omega,hg,(Array.getElem?_eq_some_iff.1 hh).1,by simp;omega,fun j hj=>?_⟩;have Ja:=Jb.cells (g:=g) rfl j ((u::vs)[j]) (by simp[List.getElem?_eq_getElem hj]);rw[AQ]at Ja;refine⟨Ja,?_⟩;cases j with
  | zero=>simpa using hu
  | succ j=>
   have:=Jg j (by simpa using hj)
   simpa[Nat.add_comm,Nat.add_left_comm,Nat.add_assoc]using this
theorem vZ(w0:World)(v:Value)(e:List Nd)(A:Nat)(b:Nat->Nat)(w:World)(hl:e.length<=1048576)(hc:ax w0 v e)(Xe:Below w0.heap.size w0 w)(hb:Cut e A b):
  Calls prog 113 #[v] w fun r w'=>∃v',r=.returned v'/\Kids w0 w' w.heap.size v' e b A/\Below w.heap.size w w':=by
 obtain⟨HN,Jf,HB⟩:=h3 hc Xe hb;obtain⟨a,Ja,rfl,Jp,Xk,-⟩:=hc;have Jb:=hb.len;obtain⟨m,hm⟩:∃m,e.length=m+1:=⟨e.length-1,o_⟩;have Xg:=hb.arA;have Ju:(A:Int)<=6:=o_;obtain⟨i0,hi,J_,Xb,Jr⟩:=info_parts kZ;have HR:Hid (∀W:World,Bl w W->Calls prog 109 #[.slice a e.length Ja] W fun r w'=>r=.returned (.agg #[.int .i64 (ay e).kind,.int .i64 (ay e).val,.string (ay e).name])/\Bl W w'):=fun W hW=>by
  have:=gy _ e W Jb hl (HN.out.below (Jf.out.trans (hW.mono Jf.out.size)))
  rw[<-co e Jb]at this;exact this
 have HA:Hid (∀W:World,Calls prog 150 #[.agg #[.int .i64 (ay e).kind,.int .i64 (ay e).val,.string (ay e).name]] W fun r w'=>r=.returned (.int .i64 A)/\Bl W w'):=fun W=>by
  have:=oU (ay e) W
  rw[hb.ar]at this;exact this
 generalize (ay e).kind=rk at HR HA;generalize (ay e).val=rv at HR HA;generalize (ay e).name=rn at HR HA;have HM:=ah hm;have e1:((m+1:Nat):Int)-1=(m:Int):=o_;rw[hm]at hl Jp Jb HN HR⊢;have Xf:=mq a (m+1) Ja m o_ Jp;go_enter func113,ntmps113;go_wp2_with fail;refine(HR.out _ (aD _ _)).mono ?_;rintro x w1 ⟨rfl,Jj⟩;go_wp2_with fail;refine(HA.out w1).mono ?_;rintro x w2 ⟨rfl,Jm⟩;have Xa:Bl w w2:=((aD _ _).trans (Jj.mono i_)).trans (Jm.mono (by have:=Jj.size;simp at this;omega));have Js:=Jj.size;have Xi:=Jm.size;simp only[World.size_alloc]at Js;have Xd:Hid (oW w0 w2 w.heap.size (.slice (some ⟨w.heap.size,0,none⟩) 0 0) e b A A):=⟨w.heap.size,0,[],by rw[Nat.sub_self],o_,o_,n_,o_,i_,fun j hj=>absurd hj i_⟩;have Jt:=ah Xa;go_wp2;go_loopw[3,4,5] (fun rs ot ix wr=>∃(k:Nat),k<=A/\ix=.int .i64 (k:Int)/\rs=.slice a (b k) Ja/\oW w0 wr w.heap.size ot e b A k/\Bl w wr) (fun _ _ ix _=>(RowKit.intOf ix).toNat)
 case atStart=>exact⟨A,n_,rfl,by rw[HB.out.last,HM.out];rfl,Xd,Jt⟩
 case round=>
  obtain⟨k,hk,rfl,rfl,hK,hB⟩:=hrel;rcases Nat.eq_zero_or_pos k with rfl|hk0
  ·have Jx:Hid (Kids w0 wr w.heap.size u4 e b A):=hK.kids;go_wp2_with fail;exact bodyPost_ret (v:=u4) (by simp[results,results113,go_sem]) rfl ⟨_,rfl,Jx,hB⟩
  ·obtain⟨i,rfl⟩:∃i,k=i+1:=⟨k-1,o_⟩;have Xh:=(HB.out.beg i o_).1;have Jl:=HB.out.le' (i+1) o_;rw[HM.out]at Jl;have HC:Hid (Calls prog 147 #[.slice a (b (i+1)) Ja] wr fun x w'=>x=.returned (.int .i64 (b i))/\Bl wr w'):=by
    have Jv:ax wr (.slice a (b (i+1)) Ja) (e.take (b (i+1))):=(ax.head (by rw[HM.out];exact HN.out.below (Jf.out.trans (hB.mono Jf.out.size))) (b (i+1)) (by rw[HM.out];omega));refine(oV _ (e.take (b (i+1))) wr (by simp;omega) (fun n hn=>HB.out.good n (List.mem_of_mem_take hn)) Jv).mono ?_;rintro x w' ⟨r,hf,-,-,rfl,hb⟩;rw[vY (by rw[HM.out];omega) (HB.out.beg i o_) hf];exact⟨rfl,hb⟩
   have Jc:=qv a (b (i+1)) Ja (b i) o_ o_;have Xj:=mq a (b (i+1)) Ja (b i) o_ o_;have Jg:Hid (ax w0 (.slice (if Ja=b i then a else a.map (·.add (b i*3))) (b (i+1)-b i) (Ja-b i)) (bH e b i)):=ax.cut (by rw[HM.out];exact HN) (b i) (b (i+1)) o_ (by rw[HM.out];omega);generalize (if Ja=b i then a else a.map (·.add (b i*3)))=ua at Jc Jg;generalize b (i+1)-b i=un at Jc Jg;generalize Ja-b i=uc at Jc Jg;obtain⟨B,kc,vs,rfl,k1,k2,k3,k4,k5,k6⟩:=hK;have HV:Hid (∀j (h:j<vs.length),ax w0 vs[j] (bH e b (i+1+j))):=fun j hj=>(k6 j hj).2;have Jy:Hid (∀j (h:j<vs.length),wr.cell? ⟨B,j,none⟩=some vs[j]):=fun j hj=>(k6 j hj).1;generalize hbi:b i=bi at*;generalize hbi1:b (i+1)=bi1 at*;go_wp2_with fail;refine HC.out.mono ?_;rintro x w3 ⟨rfl,Jh⟩;have Jo:=hB.trans (Jh.mono hB.size);have Jd:Hid (∀o j u,vs[j]? =some u->(w3.alloc o).cell? ((⟨B,0,none⟩:Addr).add j)=some u):=fun o j u hj=>by
    obtain⟨Jq,rfl⟩:=List.getElem?_eq_some_iff.1 hj;rw[AQ,((Jh.alloc Jh.size o)).cell (p:=⟨B,j,none⟩) k4];exact Jy.out j Jq
   have Ji:Hid (∀u∈vs,u.oneCell'=true):=fun u hu=>by
    obtain⟨j,hj,rfl⟩:=List.mem_iff_getElem.1 hu;exact tE (HV.out j hj)
   have Jn:=Jo.size;have Jw:=Jh.size;go_wp2_with(at_builtin;refine wpList_append_own _ rfl _ _ 141 rfl w.heap.size 44 i0 (.slice none 0 0) 1 24 underlying141 hi J_ Xb Jr rfl d_ _ 1 [.slice ua un uc] rfl (World.ownsRow_lit w3 #[.slice ua un uc] 1 Jn d_ rfl) ⟨B,0,none⟩ (A-(i+1)) kc vs rfl (by rw[k5,Nat.mul_one]) (Jd.out _) Ji.out (by unfold maxLen;omega) o_ (by simp;omega) ?_);intro v' w4 Jk Je _;have Jz:Bl w w4:=(Jo.alloc Jn _).grown Je (by simp;omega) (fun k hk=>by simp only[Value.ownBlock,Option.some.injEq]at hk;omega);have Xc:Hid (oW w0 w4 w.heap.size v' e b A i):=oW.cons (w:=w) o_ k5 HV.out Jg.out Jk rfl;go_wp2;go_roundw
   case rel=>exact⟨i,o_,by go_num,by rw[hbi],Xc,Jz⟩
   case measure=>simp[RowKit.intOf]
section
variable{w w':World}
theorem fS{s:ByteArray}(h:aK s=true):(s.toList == [])=false:=by
 have hp:=((mm s).1 h).1;have hl:s.toList.length=s.size:=by rw[ByteArray.toList_eq];simp
 cases e:(s.toList == [])
 ·rfl
 ·have e':s.toList=[]:=by simpa using e
  rw[e']at hl;simp at hl;omega
theorem v_(x y:Int)(z:ByteArray)(w:World):(Instr.field 48 (.agg #[.int .i64 x,.int .i64 y,.string z]) 0).run prog w=.ok (.int .i64 x) w:=by kernel_rfl
theorem ld{t:TypeId}{x0 x1 x2 x3 x4 x5:Value}(h:Below (w.heap.size+1) (w.alloc (.cells #[x0,x1,x2,x3,x4,x5] t)) w'):
  w'.cell? ⟨w.heap.size,0,none⟩=some x0/\w'.cell? ⟨w.heap.size,1,none⟩=some x1/\w'.cell? ⟨w.heap.size,2,none⟩=some x2/\w'.cell? ⟨w.heap.size,3,none⟩=some x3/\w'.cell? ⟨w.heap.size,4,none⟩=some x4/\w'.cell? ⟨w.heap.size,5,none⟩=some x5:=by
 refine⟨?_,?_,?_,?_,?_,?_⟩ <;> (rw[h.cell i_];simp)
theorem aL{a:Obj}(h:Below (w.heap.size+1) (w.alloc a) w'):Below w.heap.size w w':=
 (aD _ _).trans (h.mono o_)
end
theorem wa(k:Int)(hk:k=1∨k=2)(s:ByteArray)(ve vf:Value)(es fs:List Nd)(t l:Int)(w:World)(Jg:es.length<=2000)(Jf:fs.length<=2000)(he:ax w ve es)(hf:ax w vf fs):
  Calls prog 74 #[.agg #[.int .i64 k,.string s,ve,vf,.int .i64 t,.int .i64 l]] w fun e w'=>e=.returned (.bool (aG ⟨k,s,es,fs,t,l⟩))/\Below w.heap.size w w':=by
 rcases hk with rfl|rfl;all_goals
  obtain⟨HE,HF⟩:=h2 he hf;obtain⟨ae,ce,rfl,-,-,-⟩:=he;obtain⟨af,cf,rfl,-,-,-⟩:=hf;have HD:Hid (∀b:Bool,(decide (es.length<=2000)&&b)=b):=fun b=>by simp[Jg]
  have Jh:Hid (∀b:Bool,(decide (fs.length<=2000)&&b)=b):=fun b=>by simp[Jf]
  go_enter func74,ntmps74;go_wp2_with(go_at_call 38;refine(fg _ _ _ _).mono ?_;rintro e w' ⟨rfl,rfl⟩);refine(eE _ es _ o_ (HE.out.below (aD _ _))).mono ?_;rintro e w1 ⟨rfl,Jc⟩;rw[HD.out];simp only[World.size_alloc]at Jc;have Ja:=aL Jc;obtain⟨x0,x1,x2,x3,x4,x5⟩:=ld Jc;cases ho:bW es
  ·go_wp2;go_ret;exact⟨aj (by simp only[aG,stmtB];simp[ho]),Ja⟩
  cases hn:aK s
  ·go_wp2_with(go_at_call 37;refine(aH _ _).mono ?_;rintro e w' ⟨rfl,rfl⟩;rw[hn])
   go_ret;exact⟨aj (by simp only[aG,stmtB];simp[ho,hn]),Ja⟩
  by_cases hf0:0<fs.length
  ·go_wp2_with(go_at_call 37;refine(aH _ _).mono ?_;rintro e w' ⟨rfl,rfl⟩;rw[hn])
   go_ret;refine⟨aj ?_,Ja⟩;have:(fs.length == 0)=false:=by simp only[beq_eq_false_iff_ne];omega
   simp only[aG,stmtB,this];simp[ho,hn]
  have Jb:Hid ((fs.length == 0)=true):=by show _=_;simp only[beq_iff_eq];omega
  by_cases ht:t<0
  ·go_wp2_with(go_at_call 37;refine(aH _ _).mono ?_;rintro e w' ⟨rfl,rfl⟩;rw[hn])
   all_goals go_ret
   all_goals refine⟨aj ?_,Ja⟩
   all_goals (simp only[aG,stmtB,Jb.out];simp[ho,hn] <;> omega)
  by_cases hl:l<0
  ·go_wp2_with(go_at_call 37;refine(aH _ _).mono ?_;rintro e w' ⟨rfl,rfl⟩;rw[hn])
   all_goals go_ret
   all_goals refine⟨aj ?_,Ja⟩
   all_goals (simp only[aG,stmtB,Jb.out];simp[ho,hn] <;> omega)
  by_cases ht2:0<t
  ·go_wp2_with(go_at_call 37;refine(aH _ _).mono ?_;rintro e w' ⟨rfl,rfl⟩;rw[hn])
   all_goals go_ret
   all_goals refine⟨aj ?_,Ja⟩
   all_goals (simp only[aG,stmtB,Jb.out];simp[ho,hn] <;> omega)
  by_cases hl2:0<l
  ·go_wp2_with(go_at_call 37;refine(aH _ _).mono ?_;rintro e w' ⟨rfl,rfl⟩;rw[hn])
   all_goals go_ret
   all_goals refine⟨aj ?_,Ja⟩
   all_goals (simp only[aG,stmtB,Jb.out];simp[ho,hn] <;> omega)
  go_wp2_with(go_at_call 37;refine(aH _ _).mono ?_;rintro e w' ⟨rfl,rfl⟩;rw[hn])
  all_goals go_ret
  all_goals refine⟨aj ?_,Ja⟩
  all_goals have Je:0<=t:=o_
  all_goals have Jd:0<=l:=o_
  all_goals have e1:t=0:=o_
  all_goals have e2:l=0:=o_
  all_goals (simp only[aG,stmtB,Jb.out];simp[ho,hn,Je,Jd,e1,e2])
theorem BT(s:ByteArray)(ve vf:Value)(es fs:List Nd)(t l:Int)(w:World)(Jk:es.length<=2000)(Jj:fs.length<=2000)(he:ax w ve es)(hf:ax w vf fs):
  Calls prog 74 #[.agg #[.int .i64 3,.string s,ve,vf,.int .i64 t,.int .i64 l]] w fun e w'=>e=.returned (.bool (aG ⟨3,s,es,fs,t,l⟩))/\Below w.heap.size w w':=by
 obtain⟨HE,HF⟩:=h2 he hf;obtain⟨ae,ce,rfl,-,-,-⟩:=he;obtain⟨af,cf,rfl,-,-,-⟩:=hf;have HD:Hid (∀b:Bool,(decide (es.length<=2000)&&b)=b):=fun b=>by simp[Jk]
 have Jf:Hid (∀b:Bool,(decide (fs.length<=2000)&&b)=b):=fun b=>by simp[Jj]
 go_enter func74,ntmps74;go_wp2_with(go_at_call 38;refine(fg _ _ _ _).mono ?_;rintro e w' ⟨rfl,rfl⟩);refine(eE _ es _ o_ (HE.out.below (aD _ _))).mono ?_;rintro e w1 ⟨rfl,Jb⟩;rw[HD.out];simp only[World.size_alloc]at Jb;have Jd:=aL Jb;obtain⟨x0,x1,x2,x3,x4,x5⟩:=ld Jb;cases ho:bW es
 ·go_wp2;go_ret;exact⟨aj (by simp only[aG,stmtB];simp[ho]),Jd⟩
 cases hn:aK s
 ·go_wp2_with(go_at_call 37;refine(aH _ _).mono ?_;rintro e w' ⟨rfl,rfl⟩;rw[hn])
  go_ret;exact⟨aj (by simp only[aG,stmtB];simp[ho,hn]),Jd⟩
 by_cases hf0:0<fs.length
 case neg=>
  go_wp2_with(go_at_call 37;refine(aH _ _).mono ?_;rintro e w' ⟨rfl,rfl⟩;rw[hn]);go_ret;refine⟨aj ?_,Jd⟩;have:fs=[]:=List.eq_nil_of_length_eq_zero o_;subst this;have Jh:bW []=false:=by simp[bW,wholeTo]
  simp only[aG,stmtB];simp[ho,hn,Jh]
 go_wp2_with(go_at_call 37;refine(aH _ _).mono ?_;rintro e w' ⟨rfl,rfl⟩;rw[hn]);refine(eE _ fs _ o_ (HF.out.below Jd)).mono ?_;rintro e w2 ⟨rfl,Jg⟩;rw[Jf.out];have Jc:=Jb.trans (Jg.mono (by have:=Jb.size;simp at this;omega));have Ja:=aL Jc;obtain⟨x0,x1,x2,x3,x4,x5⟩:=ld Jc;cases hof:bW fs
 ·go_wp2;go_ret;exact⟨aj (by simp only[aG,stmtB];simp[ho,hn,hof]),Ja⟩
 by_cases ht:t<0
 ·go_wp2_with fail;all_goals go_ret
  all_goals refine⟨aj ?_,Ja⟩
  all_goals (simp only[aG,stmtB];simp[ho,hn,hof] <;> omega)
 by_cases hl:l<0
 ·go_wp2_with fail;all_goals go_ret
  all_goals refine⟨aj ?_,Ja⟩
  all_goals (simp only[aG,stmtB];simp[ho,hn,hof] <;> omega)
 by_cases ht2:0<t
 ·go_wp2_with fail;all_goals go_ret
  all_goals refine⟨aj ?_,Ja⟩
  all_goals (simp only[aG,stmtB];simp[ho,hn,hof] <;> omega)
 by_cases hl2:0<l
 ·go_wp2_with fail;all_goals go_ret
  all_goals refine⟨aj ?_,Ja⟩
  all_goals (simp only[aG,stmtB];simp[ho,hn,hof] <;> omega)
 go_wp2_with fail;all_goals go_ret
 all_goals refine⟨aj ?_,Ja⟩
 all_goals have Ji:0<=t:=o_
 all_goals have Je:0<=l:=o_
 all_goals have e1:t=0:=o_
 all_goals have e2:l=0:=o_
 all_goals (simp only[aG,stmtB];simp[ho,hn,hof,Ji,Je,e1,e2])
theorem BU(s:ByteArray)(ve vf:Value)(es fs:List Nd)(t l:Int)(w:World)(Jh:es.length<=2000)(Jg:fs.length<=2000)(he:ax w ve es)(hf:ax w vf fs):
  Calls prog 74 #[.agg #[.int .i64 4,.string s,ve,vf,.int .i64 t,.int .i64 l]] w fun e w'=>e=.returned (.bool (aG ⟨4,s,es,fs,t,l⟩))/\Below w.heap.size w w':=by
 obtain⟨HE,HF⟩:=h2 he hf;obtain⟨ae,ce,rfl,-,-,-⟩:=he;obtain⟨af,cf,rfl,-,-,-⟩:=hf;have HD:Hid (∀b:Bool,(decide (es.length<=2000)&&b)=b):=fun b=>by simp[Jh]
 have Ji:Hid (∀b:Bool,(decide (fs.length<=2000)&&b)=b):=fun b=>by simp[Jg]
 go_enter func74,ntmps74;go_wp2_with(go_at_call 38;refine(fg _ _ _ _).mono ?_;rintro e w' ⟨rfl,rfl⟩);refine(eE _ es _ o_ (HE.out.below (aD _ _))).mono ?_;rintro e w1 ⟨rfl,Jb⟩;rw[HD.out];simp only[World.size_alloc]at Jb;have Ja:=aL Jb;obtain⟨x0,x1,x2,x3,x4,x5⟩:=ld Jb;cases ho:bW es
 ·go_wp2;go_ret;exact⟨aj (by simp only[aG,stmtB];simp[ho]),Ja⟩
 cases hn:aK s
 case true=>
  go_wp2_with(go_at_call 37;refine(aH _ _).mono ?_;rintro e w' ⟨rfl,rfl⟩;rw[hn]);go_ret;exact⟨aj (by simp only[aG,stmtB];simp[ho,fS hn,-List.beq_nil_eq]),Ja⟩
 cases hs:(s.toList == [])
 ·have Jd:(s.toList != [])=true:=by rw[bne,hs];rfl
  go_wp2_with(go_at_call 37;refine(aH _ _).mono ?_;rintro e w' ⟨rfl,rfl⟩;rw[hn]);go_ret;exact⟨aj (by simp only[aG,stmtB];simp[ho,hs,-List.beq_nil_eq]),Ja⟩
 have Jd:(s.toList != [])=false:=by rw[bne,hs];rfl
 by_cases hf0:0<fs.length
 ·go_wp2_with(go_at_call 37;refine(aH _ _).mono ?_;rintro e w' ⟨rfl,rfl⟩;rw[hn])
  go_ret;refine⟨aj ?_,Ja⟩;have:(fs.length == 0)=false:=by simp only[beq_eq_false_iff_ne];omega
  simp only[aG,stmtB,this];simp[ho,hs,-List.beq_nil_eq]
 have Jc:Hid ((fs.length == 0)=true):=by show _=_;simp only[beq_iff_eq];omega
 by_cases ht:t<0
 ·go_wp2_with(go_at_call 37;refine(aH _ _).mono ?_;rintro e w' ⟨rfl,rfl⟩;rw[hn])
  all_goals go_ret
  all_goals refine⟨aj ?_,Ja⟩
  all_goals (simp only[aG,stmtB,Jc.out];simp[ho,hs,-List.beq_nil_eq] <;> omega)
 by_cases hl:l<0
 ·go_wp2_with(go_at_call 37;refine(aH _ _).mono ?_;rintro e w' ⟨rfl,rfl⟩;rw[hn])
  all_goals go_ret
  all_goals refine⟨aj ?_,Ja⟩
  all_goals (simp only[aG,stmtB,Jc.out];simp[ho,hs,-List.beq_nil_eq] <;> omega)
 go_wp2_with(go_at_call 37;refine(aH _ _).mono ?_;rintro e w' ⟨rfl,rfl⟩;rw[hn])
 all_goals go_ret
 all_goals refine⟨aj ?_,Ja⟩
 all_goals have Jf:0<=t:=o_
 all_goals have Je:0<=l:=o_
 all_goals (simp only[aG,stmtB,Jc.out];simp[ho,hs,-List.beq_nil_eq,Jf,Je])
theorem BV(s:ByteArray)(ve vf:Value)(es fs:List Nd)(t l:Int)(w:World)(Jh:es.length<=2000)(Jg:fs.length<=2000)(he:ax w ve es)(hf:ax w vf fs):
  Calls prog 74 #[.agg #[.int .i64 5,.string s,ve,vf,.int .i64 t,.int .i64 l]] w fun e w'=>e=.returned (.bool (aG ⟨5,s,es,fs,t,l⟩))/\Below w.heap.size w w':=by
 obtain⟨HE,HF⟩:=h2 he hf;obtain⟨ae,ce,rfl,-,-,-⟩:=he;obtain⟨af,cf,rfl,-,-,-⟩:=hf;have HD:Hid (∀b:Bool,(decide (es.length<=2000)&&b)=b):=fun b=>by simp[Jh]
 have Ji:Hid (∀b:Bool,(decide (fs.length<=2000)&&b)=b):=fun b=>by simp[Jg]
 go_enter func74,ntmps74;go_wp2_with(go_at_call 38;refine(fg _ _ _ _).mono ?_;rintro e w' ⟨rfl,rfl⟩);refine(eE _ es _ o_ (HE.out.below (aD _ _))).mono ?_;rintro e w1 ⟨rfl,Jc⟩;rw[HD.out];simp only[World.size_alloc]at Jc;have Ja:=aL Jc;obtain⟨x0,x1,x2,x3,x4,x5⟩:=ld Jc;cases ho:bW es
 ·go_wp2;go_ret;exact⟨aj (by simp only[aG,stmtB];simp[ho]),Ja⟩
 cases hn:aK s
 case true=>
  go_wp2_with(go_at_call 37;refine(aH _ _).mono ?_;rintro e w' ⟨rfl,rfl⟩;rw[hn]);go_ret;exact⟨aj (by simp only[aG,stmtB];simp[ho,fS hn,-List.beq_nil_eq]),Ja⟩
 cases hs:(s.toList == [])
 ·have Jd:(s.toList != [])=true:=by rw[bne,hs];rfl
  go_wp2_with(go_at_call 37;refine(aH _ _).mono ?_;rintro e w' ⟨rfl,rfl⟩;rw[hn]);go_ret;exact⟨aj (by simp only[aG,stmtB];simp[ho,hs,-List.beq_nil_eq]),Ja⟩
 have Jd:(s.toList != [])=false:=by rw[bne,hs];rfl
 by_cases hf0:0<fs.length
 ·go_wp2_with(go_at_call 37;refine(aH _ _).mono ?_;rintro e w' ⟨rfl,rfl⟩;rw[hn])
  go_ret;refine⟨aj ?_,Ja⟩;have:(fs.length == 0)=false:=by simp only[beq_eq_false_iff_ne];omega
  simp only[aG,stmtB,this];simp[ho,hs,-List.beq_nil_eq]
 have Jb:Hid ((fs.length == 0)=true):=by show _=_;simp only[beq_iff_eq];omega
 by_cases ht:t<0
 ·go_wp2_with(go_at_call 37;refine(aH _ _).mono ?_;rintro e w' ⟨rfl,rfl⟩;rw[hn])
  all_goals go_ret
  all_goals refine⟨aj ?_,Ja⟩
  all_goals (simp only[aG,stmtB,Jb.out];simp[ho,hs,-List.beq_nil_eq] <;> omega)
 by_cases hl:l<0
 ·go_wp2_with(go_at_call 37;refine(aH _ _).mono ?_;rintro e w' ⟨rfl,rfl⟩;rw[hn])
  all_goals go_ret
  all_goals refine⟨aj ?_,Ja⟩
  all_goals (simp only[aG,stmtB,Jb.out];simp[ho,hs,-List.beq_nil_eq] <;> omega)
 by_cases hl2:0<l
 ·go_wp2_with(go_at_call 37;refine(aH _ _).mono ?_;rintro e w' ⟨rfl,rfl⟩;rw[hn])
  all_goals go_ret
  all_goals refine⟨aj ?_,Ja⟩
  all_goals (simp only[aG,stmtB,Jb.out];simp[ho,hs,-List.beq_nil_eq] <;> omega)
 go_wp2_with(go_at_call 37;refine(aH _ _).mono ?_;rintro e w' ⟨rfl,rfl⟩;rw[hn])
 all_goals go_ret
 all_goals refine⟨aj ?_,Ja⟩
 all_goals have Jf:0<=t:=o_
 all_goals have Je:0<=l:=o_
 all_goals have e2:l=0:=o_
 all_goals (simp only[aG,stmtB,Jb.out];simp[ho,hs,-List.beq_nil_eq,Jf,Je,e2])
theorem wb(k:Int)(hk:k=6∨k=7)(s:ByteArray)(ve vf:Value)(es fs:List Nd)(t l:Int)(w:World)(Jh:es.length<=2000)(Jg:fs.length<=2000)(he:ax w ve es)(hf:ax w vf fs):
  Calls prog 74 #[.agg #[.int .i64 k,.string s,ve,vf,.int .i64 t,.int .i64 l]] w fun e w'=>e=.returned (.bool (aG ⟨k,s,es,fs,t,l⟩))/\Below w.heap.size w w':=by
 rcases hk with rfl|rfl;all_goals
  obtain⟨HE,HF⟩:=h2 he hf;obtain⟨ae,ce,rfl,-,-,-⟩:=he;obtain⟨af,cf,rfl,-,-,-⟩:=hf;have HD:Hid (∀b:Bool,(decide (es.length<=2000)&&b)=b):=fun b=>by simp[Jh]
  have Ji:Hid (∀b:Bool,(decide (fs.length<=2000)&&b)=b):=fun b=>by simp[Jg]
  go_enter func74,ntmps74;go_wp2_with(go_at_call 38;refine(fg _ _ _ _).mono ?_;rintro e w' ⟨rfl,rfl⟩);refine(eE _ es _ o_ (HE.out.below (aD _ _))).mono ?_;rintro e w1 ⟨rfl,Jc⟩;rw[HD.out];simp only[World.size_alloc]at Jc;have Ja:=aL Jc;obtain⟨x0,x1,x2,x3,x4,x5⟩:=ld Jc;cases ho:bW es
  ·go_wp2;go_ret;exact⟨aj (by simp only[aG,stmtB];simp[ho]),Ja⟩
  cases hn:aK s
  case true=>
   go_wp2_with(go_at_call 37;refine(aH _ _).mono ?_;rintro e w' ⟨rfl,rfl⟩;rw[hn]);go_ret;exact⟨aj (by simp only[aG,stmtB];simp[ho,fS hn,-List.beq_nil_eq]),Ja⟩
  cases hs:(s.toList == [])
  ·have Jd:(s.toList != [])=true:=by rw[bne,hs];rfl
   go_wp2_with(go_at_call 37;refine(aH _ _).mono ?_;rintro e w' ⟨rfl,rfl⟩;rw[hn]);go_ret;exact⟨aj (by simp only[aG,stmtB];simp[ho,hs,-List.beq_nil_eq]),Ja⟩
  have Jd:(s.toList != [])=false:=by rw[bne,hs];rfl
  by_cases hf0:0<fs.length
  ·go_wp2_with(go_at_call 37;refine(aH _ _).mono ?_;rintro e w' ⟨rfl,rfl⟩;rw[hn])
   go_ret;refine⟨aj ?_,Ja⟩;have:(fs.length == 0)=false:=by simp only[beq_eq_false_iff_ne];omega
   simp only[aG,stmtB,this];simp[ho,hs,-List.beq_nil_eq]
  have Jb:Hid ((fs.length == 0)=true):=by show _=_;simp only[beq_iff_eq];omega
  by_cases ht:t<0
  ·go_wp2_with(go_at_call 37;refine(aH _ _).mono ?_;rintro e w' ⟨rfl,rfl⟩;rw[hn])
   all_goals go_ret
   all_goals refine⟨aj ?_,Ja⟩
   all_goals (simp only[aG,stmtB,Jb.out];simp[ho,hs,-List.beq_nil_eq] <;> omega)
  by_cases hl:l<0
  ·go_wp2_with(go_at_call 37;refine(aH _ _).mono ?_;rintro e w' ⟨rfl,rfl⟩;rw[hn])
   all_goals go_ret
   all_goals refine⟨aj ?_,Ja⟩
   all_goals (simp only[aG,stmtB,Jb.out];simp[ho,hs,-List.beq_nil_eq] <;> omega)
  by_cases ht2:0<t
  ·go_wp2_with(go_at_call 37;refine(aH _ _).mono ?_;rintro e w' ⟨rfl,rfl⟩;rw[hn])
   all_goals go_ret
   all_goals refine⟨aj ?_,Ja⟩
   all_goals (simp only[aG,stmtB,Jb.out];simp[ho,hs,-List.beq_nil_eq] <;> omega)
  by_cases hl2:0<l
  ·go_wp2_with(go_at_call 37;refine(aH _ _).mono ?_;rintro e w' ⟨rfl,rfl⟩;rw[hn])
   all_goals go_ret
   all_goals refine⟨aj ?_,Ja⟩
   all_goals (simp only[aG,stmtB,Jb.out];simp[ho,hs,-List.beq_nil_eq] <;> omega)
  go_wp2_with(go_at_call 37;refine(aH _ _).mono ?_;rintro e w' ⟨rfl,rfl⟩;rw[hn])
  all_goals go_ret
  all_goals refine⟨aj ?_,Ja⟩
  all_goals have Jf:0<=t:=o_
  all_goals have Je:0<=l:=o_
  all_goals have e1:t=0:=o_
  all_goals have e2:l=0:=o_
  all_goals (simp only[aG,stmtB,Jb.out];simp[ho,hs,-List.beq_nil_eq,Jf,Je,e1,e2])
end Go.Proofs.YtlamjfhhefcohaaGreatDoor
