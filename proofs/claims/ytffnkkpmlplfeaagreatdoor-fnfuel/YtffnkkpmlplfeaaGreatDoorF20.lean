import Derived.Test.YtffnkkpmlplfeaaGreatDoorF17
import Derived.Deep.RegionWith
import Derived.WalkSmall
import Derived.Test.YtffnkkpmlplfeaaGreatDoorF19
namespace Go.Proofs.YtffnkkpmlplfeaaGreatDoor
open Go.Value Go.World List
open Go.Proofs.Tryz
set_option linter.all false
set_option maxRecDepth 100000
set_option maxHeartbeats 0
variable[Inhabited Pick]
section
open Go.RowKit
def bE{k:IntKind}{a b:Int}(h:a=b):Ending.returned (.int k a)=rW (.int k b):=by rw[h]
def dx(v h I:Int)(w:AT):Calls prog 30 #[V v,V h,V I] w λe w'=>e=rW (.bool (decide (h<=v/\v<=I)))/\w'=w:=by
 go_in;go_wp2
 all_goals go_ret
 all_goals (refine⟨aj ?_,rfl⟩;apply Bool.eq_iff_iff.2;simp <;> omega)
def lS(v:Int)(w:AT):Calls prog 62 #[V v] w λe w'=>e=rW (V (wrap32 v))/\w'=w:=by
 go_in;go_wp2;go_ret;exact⟨bE (by unfold wrap64 wrap32;omega),rfl⟩
def nH(v:Int):v=wrap32 v ↔ -2147483648<=v/\v<=2147483647:=by
 unfold wrap32;omega
def vE(k v:Int)(s:GA)(w:AT):Calls prog 196 #[.agg #[V k, V v, sV s]] w λe w'=>e=rW (V (arity ⟨k, v, s⟩)) ∧ Bl w w':= by
  go_in;go_wp2
  all_goals go_ret
  all_goals (refine⟨bE ?_, r_.alloc n_ _⟩; simp only[beq_iff_eq, beq_eq_false_iff_ne, ne_eq]at*; (try subst k); first|(exfalso; omega)|(simp[arity, *]; done))
def CS(v:Int)(s:GA)(w:AT):Calls prog 193 #[.agg #[V 1,V v,sV s]] w λe w'=>e=rW (.bool (aD ⟨1,v,s⟩))/\Bl w w':=by
  cases h:(v == wrap32 v)
  · go_in
    go_wp2_with fail
    go_quiet ((go_at_call 62;exact Calls.quiet_of_same (lS _ _)))
    go_wp2;go_ret
    exact⟨aj (by have:¬(v=wrap32 v):=Fc h
                 rw[nH]at this;simp[aD];omega),below_drewN (au _ _) _⟩
  · go_in
    go_wp2_with fail
    go_quiet ((go_at_call 62;exact Calls.quiet_of_same (lS _ _)))
    go_wp2;go_ret
    exact⟨aj (by have:(v=wrap32 v):=Fc h
                 rw[nH]at this;simp[aD,this]),below_drewN (au _ _) _⟩
def Bj(k v:Int)(I:k=2∨k=3)(s:GA)(w:AT):Calls prog 193 #[.agg #[V k,V v,sV s]] w λe w'=>e=rW (.bool (aD ⟨k,v,s⟩))/\Bl w w':=by
 by_cases h:v=0
 ·subst h;rcases I with rfl|rfl;all_goals
   go_in;go_wp2_with(go_at_call 87;refine(cj _ _).mono ?_;rintro e w' ⟨rfl,rfl⟩);go_ret;exact⟨aj (by simp[aD]),r_.alloc n_ _⟩
 ·have J:(v == 0)=false:=Fc h
  rcases I with rfl|rfl;all_goals
   go_in;go_wp2;go_ret;exact⟨aj (by simp[aD,h]),r_.alloc n_ _⟩
def CT(v:Int)(s:GA)(w:AT):Calls prog 193 #[.agg #[V 4,V v,sV s]] w λe w'=>e=rW (.bool (aD ⟨4,v,s⟩))/\Bl w w':=by
 cases h:decide (0<=v/\v<=6)
 all_goals
  go_in;go_wp2_with(first|(go_at_call 30;refine(dx _ _ _ _).mono ?_;rintro e w' ⟨rfl,rfl⟩;rw[h])|(go_at_call 87;refine(cj _ _).mono ?_;rintro e w' ⟨rfl,rfl⟩));go_ret;exact⟨aj (by simp only[aD];simp[h]),r_.alloc n_ _⟩
def CU(v:Int)(s:GA)(w:AT):Calls prog 193 #[.agg #[V 6,V v,sV s]] w λe w'=>e=rW (.bool (aD ⟨6,v,s⟩))/\Bl w w':=by
 cases h:decide (0<=v/\v<=2)
 all_goals
  go_in;go_wp2_with(first|(go_at_call 30;refine(dx _ _ _ _).mono ?_;rintro e w' ⟨rfl,rfl⟩;rw[h]));go_ret;exact⟨aj (by simp only[aD];simp[h]),r_.alloc n_ _⟩
def CV(v:Int)(s:GA)(w:AT):Calls prog 193 #[.agg #[V 7,V v,sV s]] w λe w'=>e=rW (.bool (aD ⟨7,v,s⟩))/\Bl w w':=by
 cases h:decide (0<=v/\v<=15)
 all_goals
  go_in;go_wp2_with(first|(go_at_call 30;refine(dx _ _ _ _).mono ?_;rintro e w' ⟨rfl,rfl⟩;rw[h]));go_ret;exact⟨aj (by simp only[aD];simp[h]),r_.alloc n_ _⟩
def yJ(k v:Int)(I:k=5∨k=8∨k=9)(s:GA)(w:AT):Calls prog 193 #[.agg #[V k,V v,sV s]] w λe w'=>e=rW (.bool (aD ⟨k,v,s⟩))/\Bl w w':=by
 by_cases h:v=0
 ·subst h;rcases I with rfl|rfl|rfl;all_goals
   go_in;go_wp2;go_ret;exact⟨aj (by simp[aD]),r_.alloc n_ _⟩
 ·have J:(v == 0)=false:=Fc h
  rcases I with rfl|rfl|rfl;all_goals
   go_in;go_wp2;go_ret;exact⟨aj (by simp[aD,h]),r_.alloc n_ _⟩
def CW(k v:Int)(J:k<1∨9<k)(s:GA)(w:AT):Calls prog 193 #[.agg #[V k,V v,sV s]] w λe w'=>e=rW (.bool (aD ⟨k,v,s⟩))/\Bl w w':=by
 have h:(k == 1)=false:=by simp;omega
 have h2:(k == 2)=false:=by simp;omega
 have h3:(k == 3)=false:=by simp;omega
 have h4:(k == 4)=false:=by simp;omega
 have h5:(k == 5)=false:=by simp;omega
 have h6:(k == 6)=false:=by simp;omega
 have h7:(k == 7)=false:=by simp;omega
 have h8:(k == 8)=false:=by simp;omega
 have h9:(k == 9)=false:=by simp;omega
 have I:aD ⟨k,v,s⟩=false:=by
  simp at h h2 h3 h4 h5 h6 h7 h8 h9;simp[aD,h,h2,h3,h4,h5,h6,h7,h8,h9]
 rw[I];go_in;go_wp2;go_ret;exact⟨rfl,r_.alloc n_ _⟩
def vH(n:Nd)(w:AT):Calls prog 193 #[.agg #[V n.kind,V n.val,sV n.name]] w λe w'=>e=rW (.bool (aD n))/\Bl w w':=by
 obtain⟨k,v,s⟩:=n;by_cases hx:k<1∨9<k
 ·exact CW k v hx s w
 ·have:k=1∨(k=2∨k=3)∨k=4∨k=6∨k=7∨(k=5∨k=8∨k=9):=by omega
  rcases this with rfl|h|rfl|rfl|rfl|h
  ·exact CS v s w
  ·exact Bj k v h s w
  ·exact CT v s w
  ·exact CU v s w
  ·exact CV v s w
  ·exact yJ k v h s w
end
section
open Go.RowKit
variable{w:AT}
def kT:List BY:=[.bool false,V 0,V 0,V 0,.bool false,V (-2147483648),V 2147483647,V 0,.bool true,V 0,V 0,V 0,.bool true,V 0,V 0,V 1,.bool true,V 0,V 6,V 0,.bool false,V 0,V 0,V 0,.bool false,V 0,V 2,V 1,.bool false,V 0,V 15,V 2,.bool false,V 0,V 0,V 2,.bool false,V 0,V 0,V 2]
def fZ:List Bool:=[false,false,false,false,false,true,false,false,false,false,true,false,false,false,false,true,true,false,false,false,false,false,true,true,false,false,false,true,false,false,false,false,false,false,false,false,false,false,false,false,false,false,false,false,true]
structure dq (w:AT):Prop where
 node:∀j,j<40->w.cell? ⟨1,j,none⟩=some (kT.getD j .nilFunc)
 stmt:True->∀j,j<45->w.cell? ⟨0,j,none⟩=some (.bool (fZ.getD j false))
 size:1<w.heap.size/\0<w.heap.size
def dq.below{w':AT}{B:Nat}(h:dq w)(J:1<B/\0<B)(I:Below B w w'):dq w':=by
 refine⟨λj hj=>?_,λht j hj=>?_,l_ h.size.1 I.size,l_ h.size.2 I.size⟩
 ·rw[I.cell J.1];exact h.node j hj
 ·rw[I.cell J.2];exact h.stmt ht j hj
def gx(s:GA)(w:AT):Calls prog 200 #[sV s,.bool true] w λe w'=>e=rW (.bool (aY s))/\Bl w w':=by
 go_in;go_wp2_with fail;refine(iR _ _).mono ?_;rintro e w' ⟨rfl,h⟩;go_wp2;go_ret;exact⟨rfl,h⟩
def eJ(s:GA)(w:AT):Calls prog 200 #[sV s,.bool false] w λe w'=>e=rW (.bool (s.toList == []))/\Bl w w':=by
 go_in;go_wp2;go_ret;exact⟨i_,r_⟩
def dq.nodeUp(h:dq w)(j:Nat)(hj:j<40)(o:Obj):DO (w.alloc o) 1 j (kT.getD j .nilFunc):=
 (h.below h.size (r_.alloc n_ o)).node j hj
def dq.stmtUp(h:dq w)(j:Nat)(I:j<45)(o:Obj)(J:True:=by trivial):DO (w.alloc o) 0 j (.bool (fZ.getD j false)):=
 (h.below h.size (r_.alloc n_ o)).stmt J j I
def dq.up1(h:dq w)(o:Obj):DO (w.alloc o) 1 4 (.bool false)/\DO (w.alloc o) 1 5 (V (-2147483648))/\DO (w.alloc o) 1 6 (V 2147483647)/\DO (w.alloc o) 1 7 (V 0):=by
 exact⟨h.nodeUp 4 o_ o,h.nodeUp 5 o_ o,h.nodeUp 6 o_ o,h.nodeUp 7 o_ o⟩
def dq.up2(h:dq w)(o:Obj):DO (w.alloc o) 1 8 (.bool true)/\DO (w.alloc o) 1 9 (V 0)/\DO (w.alloc o) 1 10 (V 0)/\DO (w.alloc o) 1 11 (V 0):=by
 exact⟨h.nodeUp 8 o_ o,h.nodeUp 9 o_ o,h.nodeUp 10 o_ o,h.nodeUp 11 o_ o⟩
def dq.up3(h:dq w)(o:Obj):DO (w.alloc o) 1 12 (.bool true)/\DO (w.alloc o) 1 13 (V 0)/\DO (w.alloc o) 1 14 (V 0)/\DO (w.alloc o) 1 15 (V 1):=by
 exact⟨h.nodeUp 12 o_ o,h.nodeUp 13 o_ o,h.nodeUp 14 o_ o,h.nodeUp 15 o_ o⟩
def dq.up4(h:dq w)(o:Obj):DO (w.alloc o) 1 16 (.bool true)/\DO (w.alloc o) 1 17 (V 0)/\DO (w.alloc o) 1 18 (V 6)/\DO (w.alloc o) 1 19 (V 0):=by
 exact⟨h.nodeUp 16 o_ o,h.nodeUp 17 o_ o,h.nodeUp 18 o_ o,h.nodeUp 19 o_ o⟩
def dq.up5(h:dq w)(o:Obj):DO (w.alloc o) 1 20 (.bool false)/\DO (w.alloc o) 1 21 (V 0)/\DO (w.alloc o) 1 22 (V 0)/\DO (w.alloc o) 1 23 (V 0):=by
 exact⟨h.nodeUp 20 o_ o,h.nodeUp 21 o_ o,h.nodeUp 22 o_ o,h.nodeUp 23 o_ o⟩
def dq.up6(h:dq w)(o:Obj):DO (w.alloc o) 1 24 (.bool false)/\DO (w.alloc o) 1 25 (V 0)/\DO (w.alloc o) 1 26 (V 2)/\DO (w.alloc o) 1 27 (V 1):=by
 exact⟨h.nodeUp 24 o_ o,h.nodeUp 25 o_ o,h.nodeUp 26 o_ o,h.nodeUp 27 o_ o⟩
def dq.up7(h:dq w)(o:Obj):DO (w.alloc o) 1 28 (.bool false)/\DO (w.alloc o) 1 29 (V 0)/\DO (w.alloc o) 1 30 (V 15)/\DO (w.alloc o) 1 31 (V 2):=by
 exact⟨h.nodeUp 28 o_ o,h.nodeUp 29 o_ o,h.nodeUp 30 o_ o,h.nodeUp 31 o_ o⟩
def dq.up8(h:dq w)(o:Obj):DO (w.alloc o) 1 32 (.bool false)/\DO (w.alloc o) 1 33 (V 0)/\DO (w.alloc o) 1 34 (V 0)/\DO (w.alloc o) 1 35 (V 2):=by
 exact⟨h.nodeUp 32 o_ o,h.nodeUp 33 o_ o,h.nodeUp 34 o_ o,h.nodeUp 35 o_ o⟩
def dq.up9(h:dq w)(o:Obj):DO (w.alloc o) 1 36 (.bool false)/\DO (w.alloc o) 1 37 (V 0)/\DO (w.alloc o) 1 38 (V 0)/\DO (w.alloc o) 1 39 (V 2):=by
 exact⟨h.nodeUp 36 o_ o,h.nodeUp 37 o_ o,h.nodeUp 38 o_ o,h.nodeUp 39 o_ o⟩
def Fz(v:Int)(s:GA)(w:AT)(h:dq w):Calls prog 175 #[.agg #[V 1,V v,sV s]] w λe w'=>e=rW (V (arity ⟨1,v,s⟩))/\Bl w w':=by
 obtain⟨J,U,I,Y⟩:=h.up1 (.cells #[V 1,V v,sV s] 134);go_in;go_wp2;go_ret;exact⟨bE (by simp[arity]),r_.alloc n_ _⟩
def FA(v:Int)(s:GA)(w:AT)(h:dq w):Calls prog 175 #[.agg #[V 2,V v,sV s]] w λe w'=>e=rW (V (arity ⟨2,v,s⟩))/\Bl w w':=by
 obtain⟨J,U,I,Y⟩:=h.up2 (.cells #[V 2,V v,sV s] 134);go_in;go_wp2;go_ret;exact⟨bE (by simp[arity]),r_.alloc n_ _⟩
def FC(v:Int)(s:GA)(w:AT)(h:dq w):Calls prog 175 #[.agg #[V 3,V v,sV s]] w λe w'=>e=rW (V (arity ⟨3,v,s⟩))/\Bl w w':=by
 obtain⟨J,U,I,Y⟩:=h.up3 (.cells #[V 3,V v,sV s] 134);go_in;go_wp2;go_ret;exact⟨bE (by simp[arity]),r_.alloc n_ _⟩
def FD(v:Int)(s:GA)(w:AT)(h:dq w):Calls prog 175 #[.agg #[V 4,V v,sV s]] w λe w'=>e=rW (V (arity ⟨4,v,s⟩))/\Bl w w':=by
 obtain⟨J,U,I,Y⟩:=h.up4 (.cells #[V 4,V v,sV s] 134);go_in;go_wp2;go_ret;exact⟨bE (by simp[arity]),r_.alloc n_ _⟩
def FF(v:Int)(s:GA)(w:AT)(h:dq w):Calls prog 175 #[.agg #[V 5,V v,sV s]] w λe w'=>e=rW (V (arity ⟨5,v,s⟩))/\Bl w w':=by
 obtain⟨J,U,I,Y⟩:=h.up5 (.cells #[V 5,V v,sV s] 134);go_in;go_wp2;go_ret;exact⟨bE (by simp[arity]),r_.alloc n_ _⟩
def FG(v:Int)(s:GA)(w:AT)(h:dq w):Calls prog 175 #[.agg #[V 6,V v,sV s]] w λe w'=>e=rW (V (arity ⟨6,v,s⟩))/\Bl w w':=by
 obtain⟨J,U,I,Y⟩:=h.up6 (.cells #[V 6,V v,sV s] 134);go_in;go_wp2;go_ret;exact⟨bE (by simp[arity]),r_.alloc n_ _⟩
def FH(v:Int)(s:GA)(w:AT)(h:dq w):Calls prog 175 #[.agg #[V 7,V v,sV s]] w λe w'=>e=rW (V (arity ⟨7,v,s⟩))/\Bl w w':=by
 obtain⟨J,U,I,Y⟩:=h.up7 (.cells #[V 7,V v,sV s] 134);go_in;go_wp2;go_ret;exact⟨bE (by simp[arity]),r_.alloc n_ _⟩
def FI(v:Int)(s:GA)(w:AT)(h:dq w):Calls prog 175 #[.agg #[V 8,V v,sV s]] w λe w'=>e=rW (V (arity ⟨8,v,s⟩))/\Bl w w':=by
 obtain⟨J,U,I,Y⟩:=h.up8 (.cells #[V 8,V v,sV s] 134);go_in;go_wp2;go_ret;exact⟨bE (by simp[arity]),r_.alloc n_ _⟩
def FJ(v:Int)(s:GA)(w:AT)(h:dq w):Calls prog 175 #[.agg #[V 9,V v,sV s]] w λe w'=>e=rW (V (arity ⟨9,v,s⟩))/\Bl w w':=by
 obtain⟨J,U,I,Y⟩:=h.up9 (.cells #[V 9,V v,sV s] 134);go_in;go_wp2;go_ret;exact⟨bE (by simp[arity]),r_.alloc n_ _⟩
def ph(n:Nd)(w:AT)(h:dq w)(I:1<=n.kind/\n.kind<=9):Calls prog 175 #[.agg #[V n.kind,V n.val,sV n.name]] w λe w'=>e=rW (V (arity n))/\Bl w w':=by
 obtain⟨k,v,s⟩:=n;have h9:k=1∨k=2∨k=3∨k=4∨k=5∨k=6∨k=7∨k=8∨k=9:=by simp only at I;omega
 rcases h9 with rfl|rfl|rfl|rfl|rfl|rfl|rfl|rfl|rfl
 ·exact Fz v s w h
 ·exact FA v s w h
 ·exact FC v s w h
 ·exact FD v s w h
 ·exact FF v s w h
 ·exact FG v s w h
 ·exact FH v s w h
 ·exact FI v s w h
 ·exact FJ v s w h
def CX(v:Int)(s:GA)(w:AT)(I:dq w):Calls prog 182 #[.agg #[V 1,V v,sV s]] w λe w'=>e=rW (.bool (aD ⟨1,v,s⟩))/\Bl w w':=by
 obtain⟨Y,Z,J,U⟩:=I.up1 (.cells #[V 1,V v,sV s] 134);by_cases h1:v<(-2147483648)
 ·go_in;go_wp2;go_ret;exact⟨aj (by simp[aD];omega),(au _ _).alloc i_ _⟩
 ·by_cases h2:2147483647<v
  ·go_in;go_wp2;go_ret;exact⟨aj (by simp[aD];omega),(au _ _).alloc i_ _⟩
  ·go_in;go_wp2_with fail;refine(eJ _ _).mono ?_;rintro e w' ⟨rfl,h⟩;go_wp2;go_ret;refine⟨aj ?_,((au _ _).alloc i_ _).trans (h.mono ZFs)⟩;simp[aD];omega
def CY(v:Int)(s:GA)(w:AT)(I:dq w):Calls prog 182 #[.agg #[V 2,V v,sV s]] w λe w'=>e=rW (.bool (aD ⟨2,v,s⟩))/\Bl w w':=by
 obtain⟨Y,Z,J,U⟩:=I.up2 (.cells #[V 2,V v,sV s] 134);by_cases h1:v<0
 ·go_in;go_wp2;go_ret;exact⟨aj (by simp[aD];omega),(au _ _).alloc i_ _⟩
 ·by_cases h2:0<v
  ·go_in;go_wp2;go_ret;exact⟨aj (by simp[aD];omega),(au _ _).alloc i_ _⟩
  ·go_in;go_wp2_with fail;refine(gx _ _).mono ?_;rintro e w' ⟨rfl,h⟩;go_wp2;go_ret;refine⟨aj ?_,((au _ _).alloc i_ _).trans (h.mono ZFs)⟩;simp[aD];omega
def CZ(v:Int)(s:GA)(w:AT)(I:dq w):Calls prog 182 #[.agg #[V 3,V v,sV s]] w λe w'=>e=rW (.bool (aD ⟨3,v,s⟩))/\Bl w w':=by
 obtain⟨Y,Z,J,U⟩:=I.up3 (.cells #[V 3,V v,sV s] 134);by_cases h1:v<0
 ·go_in;go_wp2;go_ret;exact⟨aj (by simp[aD];omega),(au _ _).alloc i_ _⟩
 ·by_cases h2:0<v
  ·go_in;go_wp2;go_ret;exact⟨aj (by simp[aD];omega),(au _ _).alloc i_ _⟩
  ·go_in;go_wp2_with fail;refine(gx _ _).mono ?_;rintro e w' ⟨rfl,h⟩;go_wp2;go_ret;refine⟨aj ?_,((au _ _).alloc i_ _).trans (h.mono ZFs)⟩;simp[aD];omega
def C_(v:Int)(s:GA)(w:AT)(I:dq w):Calls prog 182 #[.agg #[V 4,V v,sV s]] w λe w'=>e=rW (.bool (aD ⟨4,v,s⟩))/\Bl w w':=by
 obtain⟨Y,Z,J,U⟩:=I.up4 (.cells #[V 4,V v,sV s] 134);by_cases h1:v<0
 ·go_in;go_wp2;go_ret;exact⟨aj (by simp[aD];omega),(au _ _).alloc i_ _⟩
 ·by_cases h2:6<v
  ·go_in;go_wp2;go_ret;exact⟨aj (by simp[aD];omega),(au _ _).alloc i_ _⟩
  ·go_in;go_wp2_with fail;refine(gx _ _).mono ?_;rintro e w' ⟨rfl,h⟩;go_wp2;go_ret;refine⟨aj ?_,((au _ _).alloc i_ _).trans (h.mono ZFs)⟩;simp[aD];omega
def C0(v:Int)(s:GA)(w:AT)(I:dq w):Calls prog 182 #[.agg #[V 5,V v,sV s]] w λe w'=>e=rW (.bool (aD ⟨5,v,s⟩))/\Bl w w':=by
 obtain⟨Y,Z,J,U⟩:=I.up5 (.cells #[V 5,V v,sV s] 134);by_cases h1:v<0
 ·go_in;go_wp2;go_ret;exact⟨aj (by simp[aD];omega),(au _ _).alloc i_ _⟩
 ·by_cases h2:0<v
  ·go_in;go_wp2;go_ret;exact⟨aj (by simp[aD];omega),(au _ _).alloc i_ _⟩
  ·go_in;go_wp2_with fail;refine(eJ _ _).mono ?_;rintro e w' ⟨rfl,h⟩;go_wp2;go_ret;refine⟨aj ?_,((au _ _).alloc i_ _).trans (h.mono ZFs)⟩;simp[aD];omega
def C1(v:Int)(s:GA)(w:AT)(I:dq w):Calls prog 182 #[.agg #[V 6,V v,sV s]] w λe w'=>e=rW (.bool (aD ⟨6,v,s⟩))/\Bl w w':=by
 obtain⟨Y,Z,J,U⟩:=I.up6 (.cells #[V 6,V v,sV s] 134);by_cases h1:v<0
 ·go_in;go_wp2;go_ret;exact⟨aj (by simp[aD];omega),(au _ _).alloc i_ _⟩
 ·by_cases h2:2<v
  ·go_in;go_wp2;go_ret;exact⟨aj (by simp[aD];omega),(au _ _).alloc i_ _⟩
  ·go_in;go_wp2_with fail;refine(eJ _ _).mono ?_;rintro e w' ⟨rfl,h⟩;go_wp2;go_ret;refine⟨aj ?_,((au _ _).alloc i_ _).trans (h.mono ZFs)⟩;simp[aD];omega
def C2(v:Int)(s:GA)(w:AT)(I:dq w):Calls prog 182 #[.agg #[V 7,V v,sV s]] w λe w'=>e=rW (.bool (aD ⟨7,v,s⟩))/\Bl w w':=by
 obtain⟨Y,Z,J,U⟩:=I.up7 (.cells #[V 7,V v,sV s] 134);by_cases h1:v<0
 ·go_in;go_wp2;go_ret;exact⟨aj (by simp[aD];omega),(au _ _).alloc i_ _⟩
 ·by_cases h2:15<v
  ·go_in;go_wp2;go_ret;exact⟨aj (by simp[aD];omega),(au _ _).alloc i_ _⟩
  ·go_in;go_wp2_with fail;refine(eJ _ _).mono ?_;rintro e w' ⟨rfl,h⟩;go_wp2;go_ret;refine⟨aj ?_,((au _ _).alloc i_ _).trans (h.mono ZFs)⟩;simp[aD];omega
def C3(v:Int)(s:GA)(w:AT)(I:dq w):Calls prog 182 #[.agg #[V 8,V v,sV s]] w λe w'=>e=rW (.bool (aD ⟨8,v,s⟩))/\Bl w w':=by
 obtain⟨Y,Z,J,U⟩:=I.up8 (.cells #[V 8,V v,sV s] 134);by_cases h1:v<0
 ·go_in;go_wp2;go_ret;exact⟨aj (by simp[aD];omega),(au _ _).alloc i_ _⟩
 ·by_cases h2:0<v
  ·go_in;go_wp2;go_ret;exact⟨aj (by simp[aD];omega),(au _ _).alloc i_ _⟩
  ·go_in;go_wp2_with fail;refine(eJ _ _).mono ?_;rintro e w' ⟨rfl,h⟩;go_wp2;go_ret;refine⟨aj ?_,((au _ _).alloc i_ _).trans (h.mono ZFs)⟩;simp[aD];omega
def C4(v:Int)(s:GA)(w:AT)(I:dq w):Calls prog 182 #[.agg #[V 9,V v,sV s]] w λe w'=>e=rW (.bool (aD ⟨9,v,s⟩))/\Bl w w':=by
 obtain⟨Y,Z,J,U⟩:=I.up9 (.cells #[V 9,V v,sV s] 134);by_cases h1:v<0
 ·go_in;go_wp2;go_ret;exact⟨aj (by simp[aD];omega),(au _ _).alloc i_ _⟩
 ·by_cases h2:0<v
  ·go_in;go_wp2;go_ret;exact⟨aj (by simp[aD];omega),(au _ _).alloc i_ _⟩
  ·go_in;go_wp2_with fail;refine(eJ _ _).mono ?_;rintro e w' ⟨rfl,h⟩;go_wp2;go_ret;refine⟨aj ?_,((au _ _).alloc i_ _).trans (h.mono ZFs)⟩;simp[aD];omega
def C5(k v:Int)(s:GA)(w:AT)(h:k<1∨9<k):Calls prog 182 #[.agg #[V k,V v,sV s]] w λe w'=>e=rW (.bool (aD ⟨k,v,s⟩))/\Bl w w':=by
 have I:aD ⟨k,v,s⟩=false:=by
  simp only[aD];rw[if_neg o_,if_neg o_,if_neg o_,if_neg o_,if_neg o_,if_neg o_]
 rw[I];rcases h with h|h
 ·go_in;go_wp2;go_ret;exact⟨rfl,r_.alloc n_ _⟩
 ·have J:1<=k:=o_
  go_in;go_wp2;go_ret;exact⟨rfl,r_.alloc n_ _⟩
def vJ(n:Nd)(w:AT)(h:dq w):Calls prog 182 #[.agg #[V n.kind,V n.val,sV n.name]] w λe w'=>e=rW (.bool (aD n))/\Bl w w':=by
 obtain⟨k,v,s⟩:=n;by_cases hk:k<1∨9<k
 ·exact C5 k v s w hk
 have h9:k=1∨k=2∨k=3∨k=4∨k=5∨k=6∨k=7∨k=8∨k=9:=o_;rcases h9 with rfl|rfl|rfl|rfl|rfl|rfl|rfl|rfl|rfl
 ·exact CX v s w h
 ·exact CY v s w h
 ·exact CZ v s w h
 ·exact C_ v s w h
 ·exact C0 v s w h
 ·exact C1 v s w h
 ·exact C2 v s w h
 ·exact C3 v s w h
 ·exact C4 v s w h
end
section
open Go.RowKit
variable{w w':AT}{ns:List Nd}
def iq(w:AT)(b off:Nat)(ns:List Nd):Prop:=∀j (h:j<ns.length),
 w.cell? ⟨b,off+j*3,none⟩=some (V ns[j].kind)/\w.cell? ⟨b,off+j*3+1,none⟩=some (V ns[j].val)/\w.cell? ⟨b,off+j*3+2,none⟩=some (sV ns[j].name)
def iq.below{b off:Nat}(h:iq w b off ns)(J:Bl w w'):iq w' b off ns:=by
 intro j Z;obtain⟨U,c1,Y⟩:=h j Z;have I:=b_ U;exact⟨(J.cell I).trans U,(J.cell (p:=⟨b,off+j*3+1,none⟩) I).trans c1,(J.cell (p:=⟨b,off+j*3+2,none⟩) I).trans Y⟩
def aw(w:AT)(v:BY)(ns:List Nd):Prop:=∃a cap,v=.slice a ns.length cap/\ns.length<=cap/\cap<=9223372036854775807/\(0<ns.length->∃b off,a=some ⟨b,off,none⟩/\iq w b off ns)
def aw.below{v:BY}(h:aw w v ns)(hb:Bl w w'):aw w' v ns:=by
 obtain⟨a,Y,rfl,J,I,h⟩:=h;refine⟨a,Y,rfl,J,I,λh0=>?_⟩;obtain⟨b,U,rfl,Z⟩:=h h0;exact⟨b,U,rfl,Z.below hb⟩
def lT{t:GC}{x y z:BY}(h:Below (w.heap.size+1) (w.alloc (.cells #[x,y,z] t)) w'):
  w'.cell? ⟨w.heap.size,0,none⟩=some x/\w'.cell? ⟨w.heap.size,1,none⟩=some y/\w'.cell? ⟨w.heap.size,2,none⟩=some z:=by
 refine⟨?_,?_,?_⟩ <;> (rw[h.cell i_];simp)
def iT(v:BY)(h:List Nd)(w:AT)(hT:dq w)(hl:h.length<=1048576)(J:aw w v h):
  Calls prog 153 #[v] w λe w'=>e=rW (.bool (aP h))/\Bl w w':=by
 obtain⟨a,Jn,rfl,Jr,Jl,J⟩:=J;have HC:=ah J;clear J;go_in;go_wp2;go_loopw[3,8] (λr i wr=>∃(k:Nat) (q:Int),k<=h.length/\i=V k/\r=V q/\wholeTo (h.take k) 0=some q/\Bl w wr) (λ_ i _=>h.length-(RowKit.intOf i).toNat)
 case atStart=>exact⟨0,0,y_,rfl,rfl,rfl,r_⟩
 case round=>
  obtain⟨k,q,hk,rfl,rfl,hq,I⟩:=hrel;have HQ:=ah hq;have Je:=lx _ _ _ hq (Int.le_refl 0);have Js:q<=1048576:=by have:=Je.2;simp at this;omega
  have Jo:=Je.1;by_cases hlt:k<h.length
  ·obtain⟨b,Jq,rfl,J⟩:=HC o_;obtain⟨d0,d1,d2⟩:=(J.below I) k hlt;have Z:Hid (dq wr):=hT.below hT.size I;have Jp:=hT.size;have Y:Hid _:=ew h k q hlt HQ;clear J hT HC;generalize hn:h[k]=n at d0 d1 d2 Y;go_wp2_with fail;refine(vJ n _ (Z.o.below Z.o.size (au _ _))).mono ?_;rintro e w1 ⟨rfl,U⟩;simp only[Bl,GO]at U;have Jh:=I.trans (((au _ _).trans (U.mono o_)).mono I.size);cases hv:aD n
   ·go_wp2;go_ret;refine⟨aj (mV h (k+1) ?_).symm,Jh⟩;rw[Y.o,if_neg (by simp[hv])]
   ·obtain⟨e0,e1,e2⟩:=lT U;have Jc:Hid (dq w1):=Z.o.below Z.o.size ((au _ _).trans (U.mono o_));have Jf:=fJ hv;have Jm:=dA hv;go_wp2_with fail;refine(ph n _ Jc.o Jf).mono ?_;rintro e w2 ⟨rfl,Jg⟩;have Jb:=U.trans (Jg.mono (by have:=U.size;simp at this;omega));have Jd:=I.trans (((au _ _).trans (Jb.mono o_)).mono I.size);obtain⟨f0,f1,f2⟩:=lT Jb;have Ji:Hid (dq w2):=Jc.o.below Jc.o.size Jg;clear e0 e1 e2 d0 d1 d2;by_cases ha:q<arity n
    ·go_wp2;go_ret;refine⟨aj (mV h (k+1) ?_).symm,Jd⟩;rw[Y.o,if_neg o_]
    ·go_wp2_with fail;refine(ph n _ Ji.o Jf).mono ?_;rintro e w3 ⟨rfl,Jj⟩;have Jk:=Jd.trans (Jj.mono Jd.size);go_wp2;go_roundw
     case rel=>exact⟨k+1,q+1-arity n,o_,by go_num,by rw[show q+(1-arity n)=q+1-arity n by omega],by rw[Y.o,if_pos ⟨hv,o_⟩],Jk⟩
     case measure=>exact FW
  ·go_wp2;go_ret;obtain rfl:k=h.length:=by omega
   exact⟨aj (uG h q HQ).symm,I⟩
end
section
open Go.RowKit
def qt(n:Nd)(w:AT):Calls prog 196 #[.agg #[V n.kind,V n.val,sV n.name]] w λe w'=>e=rW (V (arity n))/\Bl w w':=vE n.kind n.val n.name w
def qu(v:BY)(I:List Nd)(w:AT)(hl:I.length<=1048576)(hg:ey I)(J:aw w v I):
  Calls prog 194 #[v] w λe w'=>∃r,xE I r /\ -1<=r/\r<=1048576/\e=rW (V r)/\Bl w w':=by
 obtain⟨a,Jg,rfl,Jj,Jf,J⟩:=J;obtain⟨HC,HG⟩:=h2 J hg;clear J hg;go_in;go_wp2;go_loopw[3,4] (λr i wr=>∃(k:Nat) (q:Int),k<=I.length/\i=V k/\r=V q/\q=defc (I.drop k)/\0<=q/\(∀j,k<j->j<=I.length->1<=defc (I.drop j))/\Bl w wr) (λ_ i _=>(RowKit.intOf i).toNat)
 case atStart=>exact⟨I.length,1,n_,rfl,rfl,by simp[defc],o_,λj h1 h2=>absurd h2 o_,r_⟩
 case round=>
  obtain⟨k,q,hk,rfl,rfl,hq,Jh,Z,Y⟩:=hrel;have Ja:=A0 _ (oL HG k);have Je:q<=6291457:=by rw[hq];simp at Ja;omega
  obtain⟨U,HJ⟩:=h2 hq Z;clear hq Z Ja;by_cases h0:0<q
  ·by_cases hk0:k=0
   ·subst hk0;go_wp2;go_ret;refine⟨-1,.inr ⟨rfl,λj Z=>?_⟩,o_,o_,rfl,Y⟩;rcases Nat.eq_zero_or_pos j with rfl|hp
    ·rw[<-U.o];omega
    ·exact HJ j hp Z
   ·obtain⟨m,rfl⟩:∃m,k=m+1:=⟨k-1,o_⟩;obtain⟨b,Ji,rfl,J⟩:=HC o_;obtain⟨d0,d1,d2⟩:=(J.below Y) m o_;have Jc:=dA (HG I[m] (g_ _));have HD:Hid _:=uJ I m o_;clear J HC;generalize hn:I[m]=n at d0 d1 d2 HD Jc;clear hn;have e1:((m+1:Nat):Int)-1=(m:Int):=o_
    go_wp2_with fail;refine(qt n _).mono ?_;rintro e w1 ⟨rfl,Jd⟩;have Jb:=Y.trans (Jd.mono Y.size);clear d0 d1 d2;go_wp2;go_roundw
    case rel=>
     refine⟨m,q-1+arity n,o_,by go_num,rfl,?_,o_,λj h1 h2=>?_,Jb⟩
     ·rw[HD.o,<-U.o];omega
     ·by_cases e:j=m+1
      ·subst e;rw[<-U.o];omega
      ·exact HJ j o_ h2
    case measure=>simp[RowKit.intOf]
  ·go_wp2;go_ret;refine⟨k,.inl ⟨k,rfl,?_,?_,HJ⟩,o_,o_,rfl,Y⟩
   ·rcases Nat.lt_or_ge k I.length with h|h
    ·exact h
    ·exfalso
     have:=U.o
     rw[drop_of_length_le h,defc]at this;omega
   ·rw[<-U.o];omega
def yK{l:List Nd}{k:Nat}(I:k<l.length)(h:aD l[k]=false):aP l=false:=by
 cases e:aP l
 ·rfl
 ·have:=((gY l).1 e).1 _ (g_ I)
  rw[h]at this;cases this
def iU(v:BY)(h:List Nd)(w:AT)(hl:h.length<=1048576)(I:aw w v h):
  Calls prog 161 #[v] w λe w'=>e=rW (.bool (decide (h.length<=2000)&&aP h))/\Bl w w':=by
 have HN:=ah I;obtain⟨a,Jg,rfl,Jj,Je,I⟩:=I;have HC:=ah I;clear I;by_cases h2:2000<h.length
 ·have U:(decide (h.length<=2000)&&aP h)=false:=by simp;omega
  rw[U];go_in;go_wp2;go_ret;exact⟨rfl,r_⟩
 ·have U:(decide (h.length<=2000)&&aP h)=aP h:=by rw[decide_eq_true o_];rfl
  rw[U];clear U;go_in;go_wp2;go_loopw[3] (λi wr=>∃(k:Nat),k<=h.length/\i=V k/\(∀n∈h.take k,aD n=true)/\Bl w wr) (λi _=>h.length-(RowKit.intOf i).toNat)
  case atStart=>exact⟨0,y_,rfl,i_,r_⟩
  case round=>
   obtain⟨k,hk,rfl,hg,J⟩:=hrel;have HG:=ah hg;by_cases hlt:k<h.length
   ·obtain⟨b,Jh,rfl,I⟩:=HC o_;obtain⟨d0,d1,Z⟩:=(I.below J) k hlt;clear I HC;have HE:Hid (h.take (k+1)=h.take k++[h[k]]):=aR h k hlt;have HX:Hid (aD h[k]=false->aP h=false):=yK hlt;generalize hn:h[k]=n at d0 d1 Z HE HX;go_wp2_with fail;refine(vH n _).mono ?_;rintro e w1 ⟨rfl,Y⟩;have Jb:=J.trans (Y.mono J.size);clear d0 d1 Z;cases hv:aD n
    ·go_wp2;go_ret;exact⟨aj (HX hv).symm,Jb⟩
    ·go_wp2;go_roundw
     case rel=>
      refine⟨k+1,o_,by go_num,λm hm=>?_,Jb⟩;rw[HE.o]at hm;rcases GJ.1 hm with hm|hm
      ·exact HG m hm
      ·rw[GM.1 hm];exact hv
     case measure=>exact FW
   ·have Jd:k=h.length:=o_
    subst Jd;have Jc:ey h:=by have:=HG.o;rw[take_length]at this;exact this
    have HA:=ah Jc;by_cases h0:0<h.length
    ·go_wp2_with fail;refine(qu _ h _ hl HA (HN.o.below J)).mono ?_;rintro e w1 ⟨r,hr,Ji,Jf,rfl,Y⟩;have HR:=ah hr;clear hr;go_wp2;go_ret;exact⟨aj (uI HA HR),J.trans (Y.mono J.size)⟩
    ·go_wp2;go_ret;refine⟨aj ?_,J⟩;have:h=[]:=GG o_
     subst this;simp[aP,wholeTo]
def iq.up{w:AT}{b off:Nat}{ns:List Nd}(h:iq w b off ns)(j:Nat)(hj:j<ns.length):(∀o,DO (w.alloc o) b (off+j*3) (V ns[j].kind))/\(∀o,DO (w.alloc o) b (off+j*3+1) (V ns[j].val))/\(∀o,DO (w.alloc o) b (off+j*3+2) (sV ns[j].name)):=
 ⟨λo=>((h.below (r_.alloc n_ o)) j hj).1,λo=>((h.below (r_.alloc n_ o)) j hj).2.1,λo=>((h.below (r_.alloc n_ o)) j hj).2.2⟩
def ir(v:BY)(h:List Nd)(w:AT)(hl:0<h.length)(hm:h.length<=1048576)(Y:aw w v h):
  Calls prog 162 #[v] w λe w'=>e=rW (.agg #[V (h[h.length-1]'(by omega)).kind,V (h[h.length-1]'(by omega)).val,sV (h[h.length-1]'(by omega)).name])/\Bl w w':=by
 obtain⟨a,Je,rfl,Jb,Jd,Y⟩:=Y;obtain⟨b,Jc,rfl,Z⟩:=Y hl;obtain⟨I,U,J⟩:=Z.up (h.length-1) o_;generalize Z:h[h.length-1]=n at I U J⊢;obtain⟨m,Ja⟩:∃m,h.length=m+1:=⟨h.length-1,o_⟩;rw[Ja]at I U J hl hm Jb⊢;have e1:((m+1:Nat):Int)-1=(m:Int):=o_;have e2:m+1-1=m:=o_;rw[e2]at I U J;go_in;go_wp2_with fail;exact bodyPost_ret (v:=.agg #[V n.kind,V n.val,sV n.name]) (by simp[results,results162,go_sem]) rfl ⟨rfl,r_.alloc n_ _⟩
end
section
open Go.RowKit
variable{w w':AT}
def it{t u:GC}{I U Z Y J x5 y0 y1 y2 y3 y4:BY}(h:Below (w.heap.size+1+1) ((w.alloc (.cells #[I,U,Z,Y,J,x5] t)).alloc (.cells #[y0,y1,y2,y3,y4] u)) w'):
  (w'.cell? ⟨w.heap.size,0,none⟩=some I/\w'.cell? ⟨w.heap.size,1,none⟩=some U/\w'.cell? ⟨w.heap.size,2,none⟩=some Z/\w'.cell? ⟨w.heap.size,3,none⟩=some Y/\w'.cell? ⟨w.heap.size,4,none⟩=some J/\w'.cell? ⟨w.heap.size,5,none⟩=some x5) /\
  (w'.cell? ⟨w.heap.size+1,0,none⟩=some y0/\w'.cell? ⟨w.heap.size+1,1,none⟩=some y1/\w'.cell? ⟨w.heap.size+1,2,none⟩=some y2/\w'.cell? ⟨w.heap.size+1,3,none⟩=some y3/\w'.cell? ⟨w.heap.size+1,4,none⟩=some y4):=by
 have e0:(⟨w.heap.size+1,0,none⟩:Addr)=⟨(w.alloc (.cells #[I,U,Z,Y,J,x5] t)).heap.size,0,none⟩:=i_;refine⟨⟨?_,?_,?_,?_,?_,?_⟩,?_,?_,?_,?_,?_⟩ <;> (rw[h.cell (by first|(simp;done)|(simp;omega))];simp)
def dh{a b:Obj}(h:Below (w.heap.size+1+1) ((w.alloc a).alloc b) w'):Bl w w':=
 ((au _ _).alloc i_ _).trans (h.mono o_)
def yL(k:Int)(hk:k=1∨k=2)(s:GA)(ve vf:BY)(Y I:List Nd)(t l:Int)(w:AT)(hT:dq w)(Jk:Y.length<=1048576)(Jl:I.length<=1048576)(he:aw w ve Y)(hf:aw w vf I):
  Calls prog 170 #[.agg #[V k,sV s,ve,vf,V t,V l]] w λe w'=>e=rW (.bool (stmtB ⟨k,s,Y,I,t,l⟩))/\Bl w w':=by
 rcases hk with rfl|rfl;all_goals
  obtain⟨HE,HF⟩:=h2 he hf;obtain⟨ae,ce,rfl,-,-,-⟩:=he;obtain⟨af,cf,rfl,-,-,-⟩:=hf;have h:=ah hT;have Jg:=h.o.size;have c0:∀o,DO (w.alloc o) 0 5 (.bool true):=λo=>h.o.stmtUp 5 o_ o;have c1:∀o,DO (w.alloc o) 0 6 (.bool false):=λo=>h.o.stmtUp 6 o_ o;have c2:∀o,DO (w.alloc o) 0 7 (.bool false):=λo=>h.o.stmtUp 7 o_ o;have c3:∀o,DO (w.alloc o) 0 8 (.bool false):=λo=>h.o.stmtUp 8 o_ o;have c4:∀o,DO (w.alloc o) 0 9 (.bool false):=λo=>h.o.stmtUp 9 o_ o;have d0:∀o,DO (w.alloc o) 0 10 (.bool true):=λo=>h.o.stmtUp 10 o_ o;have d1:∀o,DO (w.alloc o) 0 11 (.bool false):=λo=>h.o.stmtUp 11 o_ o;have d2:∀o,DO (w.alloc o) 0 12 (.bool false):=λo=>h.o.stmtUp 12 o_ o;have d3:∀o,DO (w.alloc o) 0 13 (.bool false):=λo=>h.o.stmtUp 13 o_ o;have d4:∀o,DO (w.alloc o) 0 14 (.bool false):=λo=>h.o.stmtUp 14 o_ o;go_in;go_wp2_with fail;refine(gx _ _).mono ?_;rintro e w1 ⟨rfl,U⟩;simp only[Bl,GO]at U;have Jd:=dh U;obtain⟨⟨x0,x1,x2,x3,x4,x5⟩,y0,y1,y2,y3,y4⟩:=it U;cases hn:aY s
  ·go_wp2;go_ret;exact⟨aj (by simp only[stmtB];simp[hn]),Jd⟩
  go_wp2_with fail;refine(iT _ Y _ (h.o.below Jg Jd) Jk (HE.o.below Jd)).mono ?_;rintro e w2 ⟨rfl,Jh⟩;have Ja:=U.trans (Jh.mono (by have:=U.size;simp at this;omega));have Z:=dh Ja;obtain⟨⟨x0,x1,x2,x3,x4,x5⟩,y0,y1,y2,y3,y4⟩:=it Ja;cases ho:aP Y
  ·go_wp2;go_ret;exact⟨aj (by simp only[stmtB];simp[hn,ho]),Z⟩
  by_cases hf0:I.length=0
  case neg=>
   have Jj:((I.length:Int) == 0)=false:=by simp only[beq_eq_false_iff_ne];omega
   have Ji:((I.length:Int) != 0)=true:=by simp only[bne_iff_ne];omega
   go_wp2;go_ret;refine⟨aj ?_,Z⟩;have:(I.length == 0)=false:=Fc hf0
   simp only[stmtB];simp[hn,ho,this,hf0]
  have Jj:((I.length:Int) == 0)=true:=by simp only[beq_iff_eq];omega
  have Ji:((I.length:Int) != 0)=false:=by simp only[bne_eq_false_iff_eq];omega
  have Je:=ah hf0;by_cases J:t=0
  ·have Jf:(t == 0)=true:=Fc J
   go_wp2;go_ret;refine⟨aj ?_,Z⟩;have J:t=0:=Fc Jf
   simp only[stmtB];simp[hn,ho,Je.o,J]
  ·have Jf:(t == 0)=false:=Fc J
   go_wp2;go_ret;refine⟨aj ?_,Z⟩;simp only[stmtB];simp[hn,ho,Je.o,J]
def C6(s:GA)(ve vf:BY)(U Y:List Nd)(t l:Int)(w:AT)(hT:dq w)(Jk:U.length<=1048576)(Jl:Y.length<=1048576)(he:aw w ve U)(hf:aw w vf Y):
  Calls prog 170 #[.agg #[V 3,sV s,ve,vf,V t,V l]] w λe w'=>e=rW (.bool (stmtB ⟨3,s,U,Y,t,l⟩))/\Bl w w':=by
 obtain⟨HE,HF⟩:=h2 he hf;obtain⟨ae,ce,rfl,-,-,-⟩:=he;obtain⟨af,cf,rfl,-,-,-⟩:=hf;have h:=ah hT;have Jg:=h.o.size;have c0:∀o,DO (w.alloc o) 0 15 (.bool true):=λo=>h.o.stmtUp 15 o_ o;have c1:∀o,DO (w.alloc o) 0 16 (.bool true):=λo=>h.o.stmtUp 16 o_ o;have c2:∀o,DO (w.alloc o) 0 17 (.bool false):=λo=>h.o.stmtUp 17 o_ o;have c3:∀o,DO (w.alloc o) 0 18 (.bool false):=λo=>h.o.stmtUp 18 o_ o;have c4:∀o,DO (w.alloc o) 0 19 (.bool false):=λo=>h.o.stmtUp 19 o_ o;go_in;go_wp2_with fail;refine(gx _ _).mono ?_;rintro e w1 ⟨rfl,J⟩;simp only[Bl,GO]at J;have Jd:=dh J;obtain⟨⟨x0,x1,x2,x3,x4,x5⟩,y0,y1,y2,y3,y4⟩:=it J;cases hn:aY s
 ·go_wp2;go_ret;exact⟨aj (by simp only[stmtB];simp[hn]),Jd⟩
 go_wp2_with fail;refine(iT _ U _ (h.o.below Jg Jd) Jk (HE.o.below Jd)).mono ?_;rintro e w2 ⟨rfl,Ji⟩;have Z:=J.trans (Ji.mono (by have:=J.size;simp at this;omega));have Je:=dh Z;obtain⟨⟨x0,x1,x2,x3,x4,x5⟩,y0,y1,y2,y3,y4⟩:=it Z;cases ho:aP U
 ·go_wp2;go_ret;exact⟨aj (by simp only[stmtB];simp[hn,ho]),Je⟩
 go_wp2_with fail;refine(iT _ Y _ (h.o.below Jg Je) Jl (HF.o.below Je)).mono ?_;rintro e w3 ⟨rfl,Jj⟩;have Jb:=Z.trans (Jj.mono (by have:=Z.size;simp at this;omega));have Jf:=dh Jb;obtain⟨⟨x0,x1,x2,x3,x4,x5⟩,y0,y1,y2,y3,y4⟩:=it Jb;cases hof:aP Y
 ·go_wp2;go_ret;exact⟨aj (by simp only[stmtB];simp[hn,ho,hof]),Jf⟩
 by_cases I:t=0
 ·have Jh:(t == 0)=true:=Fc I
  go_wp2;go_ret;refine⟨aj ?_,Jf⟩;have I:t=0:=Fc Jh
  simp only[stmtB];simp[hn,ho,hof,I]
 ·have Jh:(t == 0)=false:=Fc I
  go_wp2;go_ret;refine⟨aj ?_,Jf⟩;simp only[stmtB];simp[hn,ho,hof,I]
def yM(k:Int)(hk:k=4∨k=5)(s:GA)(ve vf:BY)(U I:List Nd)(t l:Int)(w:AT)(hT:dq w)(Jj:U.length<=1048576)(Jk:I.length<=1048576)(he:aw w ve U)(hf:aw w vf I):
  Calls prog 170 #[.agg #[V k,sV s,ve,vf,V t,V l]] w λe w'=>e=rW (.bool (stmtB ⟨k,s,U,I,t,l⟩))/\Bl w w':=by
 rcases hk with rfl|rfl;all_goals
  obtain⟨HE,HF⟩:=h2 he hf;obtain⟨ae,ce,rfl,-,-,-⟩:=he;obtain⟨af,cf,rfl,-,-,-⟩:=hf;have h:=ah hT;have Jf:=h.o.size;have c0:∀o,DO (w.alloc o) 0 20 (.bool false):=λo=>h.o.stmtUp 20 o_ o;have c1:∀o,DO (w.alloc o) 0 21 (.bool false):=λo=>h.o.stmtUp 21 o_ o;have c2:∀o,DO (w.alloc o) 0 22 (.bool true):=λo=>h.o.stmtUp 22 o_ o;have c3:∀o,DO (w.alloc o) 0 23 (.bool true):=λo=>h.o.stmtUp 23 o_ o;have c4:∀o,DO (w.alloc o) 0 24 (.bool false):=λo=>h.o.stmtUp 24 o_ o;have d0:∀o,DO (w.alloc o) 0 25 (.bool false):=λo=>h.o.stmtUp 25 o_ o;have d1:∀o,DO (w.alloc o) 0 26 (.bool false):=λo=>h.o.stmtUp 26 o_ o;have d2:∀o,DO (w.alloc o) 0 27 (.bool true):=λo=>h.o.stmtUp 27 o_ o;have d3:∀o,DO (w.alloc o) 0 28 (.bool false):=λo=>h.o.stmtUp 28 o_ o;have d4:∀o,DO (w.alloc o) 0 29 (.bool false):=λo=>h.o.stmtUp 29 o_ o;go_in;go_wp2_with fail;refine(eJ _ _).mono ?_;rintro e w1 ⟨rfl,J⟩;simp only[Bl,GO]at J;have Y:=dh J;obtain⟨⟨x0,x1,x2,x3,x4,x5⟩,y0,y1,y2,y3,y4⟩:=it J;cases hn:s.toList == []
  ·go_wp2;go_ret;exact⟨aj (by simp only[stmtB];simp[hn]),Y⟩
  go_wp2_with fail;refine(iT _ U _ (h.o.below Jf Y) Jj (HE.o.below Y)).mono ?_;rintro e w2 ⟨rfl,Jg⟩;have Ja:=J.trans (Jg.mono (by have:=J.size;simp at this;omega));have Z:=dh Ja;obtain⟨⟨x0,x1,x2,x3,x4,x5⟩,y0,y1,y2,y3,y4⟩:=it Ja;cases ho:aP U
  ·go_wp2;go_ret;exact⟨aj (by simp only[stmtB];simp[hn,ho]),Z⟩
  by_cases hf0:I.length=0
  case neg=>
   have Ji:((I.length:Int) == 0)=false:=by simp only[beq_eq_false_iff_ne];omega
   have Jh:((I.length:Int) != 0)=true:=by simp only[bne_iff_ne];omega
   go_wp2;go_ret;refine⟨aj ?_,Z⟩;have:(I.length == 0)=false:=Fc hf0
   simp only[stmtB];simp[hn,ho,this,hf0]
  have Ji:((I.length:Int) == 0)=true:=by simp only[beq_iff_eq];omega
  have Jh:((I.length:Int) != 0)=false:=by simp only[bne_eq_false_iff_eq];omega
  have Je:=ah hf0;go_wp2;go_ret;refine⟨aj ?_,Z⟩;simp only[stmtB];simp[hn,ho,Je.o]
def yN(k:Int)(hk:k=6∨k=7)(s:GA)(ve vf:BY)(Y I:List Nd)(t l:Int)(w:AT)(hT:dq w)(Jk:Y.length<=1048576)(Jl:I.length<=1048576)(he:aw w ve Y)(hf:aw w vf I):
  Calls prog 170 #[.agg #[V k,sV s,ve,vf,V t,V l]] w λe w'=>e=rW (.bool (stmtB ⟨k,s,Y,I,t,l⟩))/\Bl w w':=by
 rcases hk with rfl|rfl;all_goals
  obtain⟨HE,HF⟩:=h2 he hf;obtain⟨ae,ce,rfl,-,-,-⟩:=he;obtain⟨af,cf,rfl,-,-,-⟩:=hf;have h:=ah hT;have Jg:=h.o.size;have c0:∀o,DO (w.alloc o) 0 30 (.bool false):=λo=>h.o.stmtUp 30 o_ o;have c1:∀o,DO (w.alloc o) 0 31 (.bool false):=λo=>h.o.stmtUp 31 o_ o;have c2:∀o,DO (w.alloc o) 0 32 (.bool false):=λo=>h.o.stmtUp 32 o_ o;have c3:∀o,DO (w.alloc o) 0 33 (.bool false):=λo=>h.o.stmtUp 33 o_ o;have c4:∀o,DO (w.alloc o) 0 34 (.bool false):=λo=>h.o.stmtUp 34 o_ o;have d0:∀o,DO (w.alloc o) 0 35 (.bool false):=λo=>h.o.stmtUp 35 o_ o;have d1:∀o,DO (w.alloc o) 0 36 (.bool false):=λo=>h.o.stmtUp 36 o_ o;have d2:∀o,DO (w.alloc o) 0 37 (.bool false):=λo=>h.o.stmtUp 37 o_ o;have d3:∀o,DO (w.alloc o) 0 38 (.bool false):=λo=>h.o.stmtUp 38 o_ o;have d4:∀o,DO (w.alloc o) 0 39 (.bool false):=λo=>h.o.stmtUp 39 o_ o;go_in;go_wp2_with fail;refine(eJ _ _).mono ?_;rintro e w1 ⟨rfl,U⟩;simp only[Bl,GO]at U;have Jd:=dh U;obtain⟨⟨x0,x1,x2,x3,x4,x5⟩,y0,y1,y2,y3,y4⟩:=it U;cases hn:s.toList == []
  ·go_wp2;go_ret;exact⟨aj (by simp only[stmtB];simp[hn]),Jd⟩
  go_wp2_with fail;refine(iT _ Y _ (h.o.below Jg Jd) Jk (HE.o.below Jd)).mono ?_;rintro e w2 ⟨rfl,Jh⟩;have Ja:=U.trans (Jh.mono (by have:=U.size;simp at this;omega));have Z:=dh Ja;obtain⟨⟨x0,x1,x2,x3,x4,x5⟩,y0,y1,y2,y3,y4⟩:=it Ja;cases ho:aP Y
  ·go_wp2;go_ret;exact⟨aj (by simp only[stmtB];simp[hn,ho]),Z⟩
  by_cases hf0:I.length=0
  case neg=>
   have Jj:((I.length:Int) == 0)=false:=by simp only[beq_eq_false_iff_ne];omega
   have Ji:((I.length:Int) != 0)=true:=by simp only[bne_iff_ne];omega
   go_wp2;go_ret;refine⟨aj ?_,Z⟩;have:(I.length == 0)=false:=Fc hf0
   simp only[stmtB];simp[hn,ho,this,hf0]
  have Jj:((I.length:Int) == 0)=true:=by simp only[beq_iff_eq];omega
  have Ji:((I.length:Int) != 0)=false:=by simp only[bne_eq_false_iff_eq];omega
  have Je:=ah hf0;by_cases J:t=0
  ·have Jf:(t == 0)=true:=Fc J
   go_wp2;go_ret;refine⟨aj ?_,Z⟩;have J:t=0:=Fc Jf
   simp only[stmtB];simp[hn,ho,Je.o,J]
  ·have Jf:(t == 0)=false:=Fc J
   go_wp2;go_ret;refine⟨aj ?_,Z⟩;simp only[stmtB];simp[hn,ho,Je.o,J]
def C8(s:GA)(ve vf:BY)(h I:List Nd)(t l:Int)(w:AT)(hT:dq w)(Jp:h.length<=1048576)(Ju:I.length<=1048576)(he:aw w ve h)(hf:aw w vf I):
  Calls prog 170 #[.agg #[V 8,sV s,ve,vf,V t,V l]] w λe w'=>e=rW (.bool (stmtB ⟨8,s,h,I,t,l⟩))/\Bl w w':=by
 obtain⟨HE,HF⟩:=h2 he hf;obtain⟨ae,ce,rfl,-,-,-⟩:=he;obtain⟨af,cf,rfl,-,-,-⟩:=hf;have J:=ah hT;have Jj:=J.o.size;have c0:∀o,DO (w.alloc o) 0 40 (.bool false):=λo=>J.o.stmtUp 40 o_ o;have c1:∀o,DO (w.alloc o) 0 41 (.bool false):=λo=>J.o.stmtUp 41 o_ o;have c2:∀o,DO (w.alloc o) 0 42 (.bool false):=λo=>J.o.stmtUp 42 o_ o;have c3:∀o,DO (w.alloc o) 0 43 (.bool false):=λo=>J.o.stmtUp 43 o_ o;have c4:∀o,DO (w.alloc o) 0 44 (.bool true):=λo=>J.o.stmtUp 44 o_ o;go_in;go_wp2_with fail;refine(eJ _ _).mono ?_;rintro e w1 ⟨rfl,Z⟩;simp only[Bl,GO]at Z;have Jd:=dh Z;obtain⟨⟨x0,x1,x2,x3,x4,x5⟩,y0,y1,y2,y3,y4⟩:=it Z;cases hn:s.toList == []
 ·go_wp2;go_ret;exact⟨aj (by simp only[stmtB];simp[hn]),Jd⟩
 go_wp2_with fail;refine(iT _ h _ (J.o.below Jj Jd) Jp (HE.o.below Jd)).mono ?_;rintro e w2 ⟨rfl,Jm⟩;have Jb:=Z.trans (Jm.mono (by have:=Z.size;simp at this;omega));have U:=dh Jb;obtain⟨⟨x0,x1,x2,x3,x4,x5⟩,y0,y1,y2,y3,y4⟩:=it Jb;cases ho:aP h
 ·go_wp2;go_ret;exact⟨aj (by simp only[stmtB];simp[hn,ho]),U⟩
 by_cases hf0:I.length=0
 case neg=>
  have Jo:((I.length:Int) == 0)=false:=by simp only[beq_eq_false_iff_ne];omega
  have Jn:((I.length:Int) != 0)=true:=by simp only[bne_iff_ne];omega
  go_wp2;go_ret;refine⟨aj ?_,U⟩;have:(I.length == 0)=false:=Fc hf0
  simp only[stmtB];simp[hn,ho,this,hf0]
 have Jo:((I.length:Int) == 0)=true:=by simp only[beq_iff_eq];omega
 have Jn:((I.length:Int) != 0)=false:=by simp only[bne_eq_false_iff_eq];omega
 have Je:=ah hf0;obtain⟨m,hm⟩:∃m,h.length=m+1:=⟨h.length-1,Ft (pX ho)⟩;obtain⟨Jt,Js,Jf,-,-,Ji⟩:=HE.o.below U;obtain⟨b,Jr,Jk,Jl⟩:=Ji o_;simp only[Value.slice.injEq]at Jf;obtain⟨d0,d1,d2⟩:=Jl m o_;have HL:Hid (fN h=(h[m]'(by omega)).kind):=by
  have e2:h.length-1=m:=o_;show fN h=_;simp only[fN,e2];rw[GH o_]
 rw[Jf.1,Jk,hm]at x2;have e1:((m+1:Nat):Int)-1=(m:Int):=o_;have Jq:m<=1048576:=o_;generalize h[m].kind=q at d0 HL;by_cases hq:q=4
 case neg=>
  have Jh:(q == 4)=false:=Fc hq
  go_wp2;go_ret;refine⟨aj ?_,U⟩;simp only[stmtB];simp[hn,ho,Je.o,HL.o,hq]
 have Jh:(q == 4)=true:=Fc hq
 have HQ:=ah hq;by_cases Y:t=0
 ·have Jg:(t == 0)=true:=Fc Y
  go_wp2;go_ret;refine⟨aj ?_,U⟩;have Y:t=0:=Fc Jg
  simp only[stmtB];simp[hn,ho,Je.o,HL.o,HQ.o,Y]
 ·have Jg:(t == 0)=false:=Fc Y
  go_wp2;go_ret;refine⟨aj ?_,U⟩;simp only[stmtB];simp[hn,ho,Je.o,HL.o,HQ.o,Y]
def C9(k:Int)(s:GA)(U vf:BY)(I J:List Nd)(t l:Int)(w:AT)(h:k<1∨8<k)(he:aw w U I)(Z:aw w vf J):
  Calls prog 170 #[.agg #[V k,sV s,U,vf,V t,V l]] w λe w'=>e=rW (.bool (stmtB ⟨k,s,I,J,t,l⟩))/\Bl w w':=by
 obtain⟨ae,ce,rfl,-,-,-⟩:=he;obtain⟨af,cf,rfl,-,-,-⟩:=Z;have Y:stmtB ⟨k,s,I,J,t,l⟩=false:=by
  have:decide (1<=k/\k<=8)=false:=by simp;omega
  simp only[stmtB,this,Bool.false_and]
 rw[Y];rcases h with h|h
 ·go_in;go_wp2;go_ret;exact⟨rfl,r_.alloc n_ _⟩
 ·have h':1<=k:=o_
  go_in;go_wp2;go_ret;exact⟨rfl,r_.alloc n_ _⟩
def vK(s:St)(h vf:BY)(w:AT)(Y:dq w)(Z:s.e.length<=1048576)(Jb:s.f.length<=1048576)(U:aw w h s.e)(J:aw w vf s.f):
  Calls prog 170 #[.agg #[V s.kind,sV s.name,h,vf,V s.thn,V s.els]] w λe w'=>e=rW (.bool (stmtB s))/\Bl w w':=by
 obtain⟨k,s,I,fs,t,l⟩:=s;by_cases hk:k<1∨8<k
 ·exact C9 k s h vf I fs t l w hk U J
 have h9:k=1∨k=2∨k=3∨k=4∨k=5∨k=6∨k=7∨k=8:=o_;rcases h9 with rfl|rfl|rfl|rfl|rfl|rfl|rfl|rfl
 ·exact yL 1 (.inl rfl) s h vf I fs t l w Y Z Jb U J
 ·exact yL 2 (.inr rfl) s h vf I fs t l w Y Z Jb U J
 ·exact C6 s h vf I fs t l w Y Z Jb U J
 ·exact yM 4 (.inl rfl) s h vf I fs t l w Y Z Jb U J
 ·exact yM 5 (.inr rfl) s h vf I fs t l w Y Z Jb U J
 ·exact yN 6 (.inl rfl) s h vf I fs t l w Y Z Jb U J
 ·exact yN 7 (.inr rfl) s h vf I fs t l w Y Z Jb U J
 ·exact C8 s h vf I fs t l w Y Z Jb U J
end
section
open Go.RowKit
variable{w:AT}{a:Option Addr}{cap:Nat}{ns:List Nd}
def aw.cut(h:aw w (.slice a ns.length cap) ns)(I J:Nat)(h1:I<=J)(h2:J<=ns.length):
  aw w (.slice (if cap=I then a else a.map (·.add (I*3))) (J-I) (cap-I)) ((ns.take J).drop I):=by
 obtain⟨a',Jc,Y,hl,hm,h⟩:=h;simp only[Value.slice.injEq,true_and]at Y;obtain⟨rfl,rfl⟩:=Y;refine⟨if cap=I then a else a.map (·.add (I*3)),cap-I,by simp[Nat.min_eq_left h2],by simp[Nat.min_eq_left h2];omega,o_,λh0=>?_⟩;simp only[length_drop,length_take,Nat.min_eq_left h2]at h0;obtain⟨b,U,rfl,hc⟩:=h o_;refine⟨b,U+I*3,?_,λj hj=>?_⟩
 ·rw[if_neg o_];simp[Addr.add]
 ·simp only[length_drop,length_take,Nat.min_eq_left h2]at hj;have Jb:=hc (I+j) o_;have e:((ns.take J).drop I)[j]'ZFs=ns[I+j]'(by omega):=i_
  rw[e];have Z:U+I*3+j*3=U+(I+j)*3:=o_;rw[Z];exact Jb
def aw.head(h:aw w (.slice a ns.length cap) ns)(I:Nat)(h2:I<=ns.length):aw w (.slice a I cap) (ns.take I):=by
 have:=h.cut 0 I y_ h2
 have e:(if cap=0 then a else a.map (·.add (0*3)))=a:=by
  split
  ·rfl
  ·cases a <;> simp[Addr.add]
 rw[e]at this;simpa using this
def sw(a:Option Addr)(n cap h:Nat)(h2:h<=n)(h3:n<=cap):∀w:AT,(Instr.slice 130 (.slice a n cap) (some (V h)) none none).run prog w=.ok (.slice (if cap=h then a else a.map (·.add (h*3))) (n-h) (cap-h)) w:=by
 intro w;have I:prog.elem 130=134:=k_;have J:(sizeOf 134).run prog w=.ok 3 w:=k_;rw[run_slice_l w 130 a n cap (by rw[I];exact underlying130) .i64 _ o_ o_,I,J];simp only[Result.andThen,sliced,Int.toNat_natCast]
def Kids(w0 w:AT)(N:Nat)(v:BY)(e:List Nd)(b:Nat->Nat)(A:Nat):Prop:=
 ∃a cap,v=.slice a A cap/\A<=cap/\cap<=9223372036854775807/\(0<A->∃B,a=some ⟨B,0,none⟩/\N<=B/\B<w.heap.size/\∀i,i<A->∃vi,w.cell? ⟨B,i,none⟩=some vi/\aw w0 vi (kid e b i))
def sy:(prog.info? 130).map (λi=>(i.zero,i.size,i.bytes))=some (some nV,1,24):=by kernel_rfl
end
section
open Go.RowKit
def yO{I:List Nd}{k i:Nat}{r:Int}(hk:k<=I.length)(hb:rK I k i)(h:xE (I.take k) r):r=i:=by
 have Y:(I.take k).length=k:=by simp;omega
 obtain⟨b1,b2,Z⟩:=hb;rcases h with⟨U,rfl,J,h2,h3⟩|⟨rfl,J⟩
 ·rw[Y]at J h3;have:U=i:=by
   rcases Nat.lt_trichotomy U i with h|h|h
   ·have:=h3 i h o_;omega
   ·exact h
   ·have:=Z U h o_;omega
  omega
 ·have:=J i (by rw[Y];omega)
  omega
def nJ(a:Option Addr)(n cap h:Nat)(h2:h<=n)(h3:n<=cap):∀w:AT,(Instr.slice 130 (.slice a n cap) none (some (V (h:Int))) none).run prog w=.ok (.slice a h cap) w:=by
 intro w;have I:prog.elem 130=134:=k_;have J:(sizeOf 134).run prog w=.ok 3 w:=k_;rw[run_slice_h w 130 a n cap (by rw[I];exact underlying130) .i64 _ o_ o_,I,J];simp only[Result.andThen,sliced,Int.toNat_natCast,Nat.sub_zero,Nat.zero_mul];have e:(if cap=0 then a else a.map (·.add 0))=a:=by
  split
  ·rfl
  ·cases a <;> simp[Addr.add]
 rw[e]
def qv(w0 w:AT)(N:Nat)(v:BY)(e:List Nd)(b:Nat->Nat)(A i:Nat):Prop:=
 ∃(B cap:Nat) (vs:List BY),v=rV B (A-i) cap/\A-i<=cap/\cap<=9223372036854775807/\N<=B/\B<w.heap.size/\vs.length=A-i/\∀j (h:j<vs.length),w.cell? ⟨B,j,none⟩=some vs[j]/\aw w0 vs[j] (kid e b (i+j))
def qv.kids{w0 w:AT}{N:Nat}{v:BY}{e:List Nd}{b:Nat->Nat}{A:Nat}(h:qv w0 w N v e b A 0):Kids w0 w N v e b A:=by
 obtain⟨B,I,vs,rfl,J,h2,h3,h4,h5,h6⟩:=h;rw[Nat.sub_zero]at*;refine⟨_,I,rfl,J,h2,λ_=>⟨B,rfl,h3,h4,λi hi=>?_⟩⟩;have:=h6 i o_;rw[Nat.zero_add]at this;exact⟨_,this⟩
def vP{w:AT}{v:BY}{I:List Nd}(h:aw w v I):v.oneCell'=true:=by
 obtain⟨a,J,rfl,_⟩:=h;rfl
def Cp(g j:Nat):(⟨g,0,none⟩:Addr).add j=⟨g,j,none⟩:=by
 simp[Addr.add];try (intro h;omega)
theorem qv.cons{w0 w w':AT}{N:Nat}{J u:BY}{vs:List BY}{e:List Nd}{b:Nat->Nat}{A i n:Nat}(hi:i<A)(Jl:vs.length=A-(i+1))(Jg:∀j (h:j<vs.length),aw w0 vs[j] (kid e b (i+1+j)))(hu:aw w0 u (kid e b i))(U:w'.ownsRow N 130 1 J (1+n) ([u]++vs))(hn:n=A-(i+1)):qv w0 w' N J e b A i:=by
 have Jb:=U;obtain⟨Jf,h⟩:=U;rcases h with⟨_,h0⟩|⟨g,Je,Jh,rfl,hg,Y,Jk,Z,Jj,Ji⟩
 ·omega
 ·refine⟨g,Je,u::vs,by rw[show 1+n=A-i by omega],o_,by simp only[maxLen]at Z;omega,hg,(Array.getElem?_eq_some_iff.1 Y).1,by simp;omega,λj hj=>?_⟩;have I:=Jb.cells (g:=g) rfl j ((u::vs)[j]) (by simp[GH hj]);rw[Cp]at I;refine⟨I,?_⟩;cases j with
  | zero=>simpa using hu
  | succ j=>
   have:=Jg j (Fc hj)
   simpa[Nat.add_comm,Nat.add_left_comm,Nat.add_assoc]using this
theorem lU(w0:World)(v:Value)(e:List Nd)(A:Nat)(b:Nat->Nat)(w:World)(hl:e.length<=1048576)(hc:aw w0 v e)(Xe:Below w0.heap.size w0 w)(Y:Cut e A b):
  Calls prog 164 #[v] w λr w'=>∃v',r=rW v'/\Kids w0 w' w.heap.size v' e b A/\Below w.heap.size w w':=by
 obtain⟨HN,Jf,Z⟩:=h3 hc Xe Y;obtain⟨a,I,rfl,Jp,Xf,-⟩:=hc;have Jc:=Y.len;obtain⟨m,hm⟩:∃m,e.length=m+1:=⟨e.length-1,o_⟩;have Xj:=Y.arA;have Jx:(A:Int)<=6:=o_;obtain⟨i0,hi,Jz,Xa,Js⟩:=info_parts sy;have HR:Hid (∀W:World,Bl w W->Calls prog 162 #[.slice a e.length I] W λr w'=>r=rW (.agg #[V (aB e).kind,V (aB e).val,sV (aB e).name])/\Bl W w'):=λW hW=>by
  have:=ir _ e W Jc hl (HN.out.below (Jf.out.trans (hW.mono Jf.out.size)))
  rw[<-eF e Jc]at this;exact this
 have HA:Hid (∀W:World,Calls prog 196 #[.agg #[V (aB e).kind,V (aB e).val,sV (aB e).name]] W λr w'=>r=rW (V A)/\Bl W w'):=λW=>by
  have:=qt (aB e) W
  rw[Y.ar]at this;exact this
 generalize (aB e).kind=rk at HR HA;generalize (aB e).val=rv at HR HA;generalize (aB e).name=rn at HR HA;have U:=ah hm;have e1:((m+1:Nat):Int)-1=(m:Int):=o_;rw[hm]at hl Jp Jc HN HR⊢;have Xg:=nJ a (m+1) I m o_ Jp;go_in;go_wp2_with fail;refine(HR _ (au _ _)).mono ?_;rintro x w1 ⟨rfl,Jl⟩;go_wp2_with fail;refine(HA w1).mono ?_;rintro x w2 ⟨rfl,Jo⟩;have Xb:Bl w w2:=((au _ _).trans (Jl.mono i_)).trans (Jo.mono (by have:=Jl.size;simp at this;omega));have Jt:=Jl.size;have Xh:=Jo.size;simp only[World.size_alloc]at Jt;have Ju:Hid (qv w0 w2 w.heap.size (rV w.heap.size 0 0) e b A A):=⟨w.heap.size,0,[],by rw[Nat.sub_self],o_,o_,n_,o_,i_,λj J=>absurd J i_⟩;have Xd:=ah Xb;go_wp2;go_loopw[3,4,5] (λrs ot ix wr=>∃(k:Nat),k<=A/\ix=V (k:Int)/\rs=.slice a (b k) I/\qv w0 wr w.heap.size ot e b A k/\Bl w wr) (λ_ _ ix _=>(RowKit.intOf ix).toNat)
 case atStart=>exact⟨A,n_,rfl,by rw[Z.out.last,U.out];rfl,Ju,Xd⟩
 case round=>
  obtain⟨k,hk,rfl,rfl,hK,hB⟩:=hrel;rcases Nat.eq_zero_or_pos k with rfl|hk0
  ·have Jw:Hid (Kids w0 wr w.heap.size u4 e b A):=hK.kids;go_wp2_with fail;exact bodyPost_ret (v:=u4) (by simp[results,results164,go_sem]) rfl ⟨_,rfl,Jw,hB⟩
  ·obtain⟨i,rfl⟩:∃i,k=i+1:=⟨k-1,o_⟩;have Xk:=(Z.out.beg i o_).1;have Ji:=Z.out.le' (i+1) o_;rw[U.out]at Ji;have HC:Hid (Calls prog 194 #[.slice a (b (i+1)) I] wr λx w'=>x=rW (V (b i))/\Bl wr w'):=by
    have J_:aw wr (.slice a (b (i+1)) I) (e.take (b (i+1))):=(aw.head (by rw[U.out];exact HN.out.below (Jf.out.trans (hB.mono Jf.out.size))) (b (i+1)) (by rw[U.out];omega));refine(qu _ (e.take (b (i+1))) wr (by simp;omega) (λn hn=>Z.out.good n (List.mem_of_mem_take hn)) J_).mono ?_;rintro x w' ⟨r,hf,-,-,rfl,Y⟩;rw[yO (by rw[U.out];omega) (Z.out.beg i o_) hf];exact⟨rfl,Y⟩
   have Jb:=sw a (b (i+1)) I (b i) o_ o_;have Xi:=nJ a (b (i+1)) I (b i) o_ o_;have Jg:Hid (aw w0 (.slice (if I=b i then a else a.map (·.add (b i*3))) (b (i+1)-b i) (I-b i)) (kid e b i)):=aw.cut (by rw[U.out];exact HN) (b i) (b (i+1)) o_ (by rw[U.out];omega);generalize (if I=b i then a else a.map (·.add (b i*3)))=ua at Jb Jg;generalize b (i+1)-b i=un at Jb Jg;generalize I-b i=uc at Jb Jg;obtain⟨B,kc,vs,rfl,k1,k2,k3,k4,k5,k6⟩:=hK;have HV:Hid (∀j (h:j<vs.length),aw w0 vs[j] (kid e b (i+1+j))):=λj J=>(k6 j J).2;have Jr:Hid (∀j (h:j<vs.length),wr.cell? ⟨B,j,none⟩=some vs[j]):=λj J=>(k6 j J).1;generalize hbi:b i=bi at*;generalize hbi1:b (i+1)=bi1 at*;go_wp2_with fail;refine HC.out.mono ?_;rintro x w3 ⟨rfl,Jh⟩;have Jn:=hB.trans (Jh.mono hB.size);have Jd:Hid (∀o j u,vs[j]? =some u->(w3.alloc o).cell? ((⟨B,0,none⟩:Addr).add j)=some u):=λo j u J=>by
    obtain⟨Jy,rfl⟩:=List.getElem?_eq_some_iff.1 J;rw[Cp,((Jh.alloc Jh.size o)).cell (p:=⟨B,j,none⟩) k4];exact Jr j Jy
   have Jj:Hid (∀u∈vs,u.oneCell'=true):=λu hu=>by
    obtain⟨j,J,rfl⟩:=List.mem_iff_getElem.1 hu;exact vP (HV j J)
   have Jm:=Jn.size;have Jv:=Jh.size;go_wp2_with(at_builtin;refine wpList_append_own _ rfl _ _ 252 rfl w.heap.size 130 i0 nV 1 24 underlying252 hi Jz Xa Js rfl d_ _ 1 [.slice ua un uc] rfl (World.ownsRow_lit w3 #[.slice ua un uc] 1 Jm d_ rfl) ⟨B,0,none⟩ (A-(i+1)) kc vs rfl (by rw[k5,Nat.mul_one]) (Jd _) Jj (by unfold maxLen;omega) o_ (by simp;omega) ?_);intro v' w4 Jk Je _;have Xc:Bl w w4:=(Jn.alloc Jm _).grown Je (by simp;omega) (λk hk=>by simp only[Value.ownBlock,Option.some.injEq]at hk;omega);have Jq:Hid (qv w0 w4 w.heap.size v' e b A i):=qv.cons (w:=w) o_ k5 HV Jg Jk rfl;go_wp2;go_roundw
   case rel=>exact⟨i,o_,by go_num,by rw[hbi],Jq,Xc⟩
   case measure=>simp[RowKit.intOf]
end
section
open Go.RowKit
def Tv.bel{w w':AT}{S:D6}{v:BY}{r:List Nd}(h:Tv w S v r)(hS:∀B,S B->B<w.heap.size)(hb:Bl w w'):Tv w' S v r:=h.keep (λ_ h=>h) (λB hB=>hb.block B (hS B hB))
theorem Eo{s:GA}(h:s.toList=[]):s=⟨#[]⟩:=by
 have J:∀(n:Nat) (i:Nat) (r:List UInt8),s.size-i=n->ByteArray.toList.loop s i r=[]->r=[]:=by
  intro n;induction n with
  | zero=>
   intro i r U h;rw[ByteArray.toList.loop,if_neg o_]at h;simpa using h
  | succ n ih=>
   intro i r U h;rw[ByteArray.toList.loop,if_pos o_]at h;have:=ih (i+1) _ o_ h;simp at this
 have I:s.size=0:=by
  rcases Nat.eq_zero_or_pos s.size with I|hp
  ·exact I
  ·rw[ByteArray.toList,ByteArray.toList.loop,if_pos hp]at h;have:=J _ _ _ rfl h
   simp at this
 apply ByteArray.ext;exact Array.eq_empty_of_size_eq_zero I
def vQ{n:Nd}(h:aD n=true):(n.kind=1∨n.kind=5∨n.kind=6∨n.kind=7∨n.kind=8∨n.kind=9->n.name=⟨#[]⟩)/\(n.kind=2∨n.kind=3∨n.kind=5∨n.kind=8∨n.kind=9->n.val=0):=by
 unfold aD at h;refine⟨λhk=>?_,λhk=>?_⟩
 ·apply Eo;rcases hk with hk|hk|hk|hk|hk|hk <;> (simp[hk]at h;exact h.2)
 ·rcases hk with hk|hk|hk|hk|hk <;> (simp[hk]at h;exact h.1)
def jD(n:Nd)(ar:BY)(vs:Nat->BY):BY:=
 if n.kind=1 then .iface 236 (.agg #[V n.val])
 else if n.kind=2 then .iface 264 (.agg #[sV n.name])
 else if n.kind=3 then .iface 266 (.agg #[sV n.name,vs 0])
 else if n.kind=4 then .iface 268 (.agg #[sV n.name,ar])
 else if n.kind=6 then .iface 270 (.agg #[V n.val,vs 0])
 else if n.kind=7 then .iface 272 (.agg #[V n.val,vs 0,vs 1])
 else if n.kind=8 then .iface 274 (.agg #[vs 0,vs 1])
 else if n.kind=9 then .iface 275 (.agg #[vs 0,vs 1])
 else .iface 277 (.agg #[])
def sA(n:Nd)(hn:aD n=true)(A:Nat)(hA:arity n=A)(S:D6)(ar:BY)(vs:Nat->BY)(w:AT)(ha:fY w S ar A vs)(hI:∀i,i<A->∃t x,vs i=.iface t x):
  Calls prog 142 #[.agg #[V n.kind,V n.val,sV n.name],ar] w λe w'=>e=rW (jD n ar vs)/\Bl w w':=by
 have Jd:=fJ hn;obtain⟨U,Z,nm⟩:=n;obtain⟨a,Jb,rfl,Jf,Je,hc⟩:=ha;simp only at Jd⊢;have hk:U=1∨U=2∨U=3∨U=4∨U=5∨U=6∨U=7∨U=8∨U=9:=o_;have h:∀o,Bl w (w.alloc o):=λo=>r_.alloc n_ o;rcases hk with rfl|rfl|rfl|rfl|rfl|rfl|rfl|rfl|rfl
 ·go_in;go_wp2;go_ret;exact⟨rfl,h _⟩
 ·go_in;go_wp2;go_ret;exact⟨rfl,h _⟩
 ·have e1:A=1:=by simp[arity]at hA;omega
  subst e1;obtain⟨B,rfl,-,Y⟩:=hc o_;have Jc:=b_ (Y 0 o_);have q0:∀o,DO (w.alloc o) B 0 (vs 0):=λo=>((h o).cell (p:=⟨B,0,none⟩) Jc).trans (Y 0 o_);obtain⟨t0,x0,J⟩:=hI 0 o_;have I:Hid (jD ⟨3,Z,nm⟩ (rV B 1 Jb) vs=.iface 266 (.agg #[sV nm,vs 0])):=rfl;rw[I.o];rw[J]at q0⊢;go_in;go_wp2_with fail;go_quiet (fail)
  go_wp2;go_ret;exact⟨rfl,below_drewN (h _) _⟩
 ·have I:Hid (jD ⟨4,Z,nm⟩ (.slice a A Jb) vs=.iface 268 (.agg #[sV nm,.slice a A Jb])):=rfl;rw[I.o];go_in;go_wp2;go_ret;exact⟨rfl,h _⟩
 ·go_in;go_wp2;go_ret;exact⟨rfl,h _⟩
 ·have e1:A=1:=by simp[arity]at hA;omega
  subst e1;obtain⟨B,rfl,-,Y⟩:=hc o_;have Jc:=b_ (Y 0 o_);have q0:∀o,DO (w.alloc o) B 0 (vs 0):=λo=>((h o).cell (p:=⟨B,0,none⟩) Jc).trans (Y 0 o_);obtain⟨t0,x0,J⟩:=hI 0 o_;have I:Hid (jD ⟨6,Z,nm⟩ (rV B 1 Jb) vs=.iface 270 (.agg #[V Z,vs 0])):=rfl;rw[I.o];rw[J]at q0⊢;go_in;go_wp2_with fail;go_quiet (fail)
  go_wp2;go_ret;exact⟨rfl,below_drewN (h _) _⟩
 all_goals
  have e1:A=2:=by simp[arity]at hA;omega
  subst e1;obtain⟨B,rfl,-,Y⟩:=hc o_;have Jc:=b_ (Y 0 o_);have q0:∀o,DO (w.alloc o) B 0 (vs 0):=λo=>((h o).cell (p:=⟨B,0,none⟩) Jc).trans (Y 0 o_);have q1:∀o,DO (w.alloc o) B 1 (vs 1):=λo=>((h o).cell (p:=⟨B,1,none⟩) Jc).trans (Y 1 o_);obtain⟨t0,x0,J⟩:=hI 0 o_;obtain⟨t1,x1,h1⟩:=hI 1 o_
 ·have I:Hid (jD ⟨7,Z,nm⟩ (rV B 2 Jb) vs=.iface 272 (.agg #[V Z,vs 0,vs 1])):=rfl;rw[I.o];rw[J]at q0;rw[h1]at q1;rw[J,h1];go_in;go_wp2_with fail;go_quiet (fail)
  go_wp2;go_ret;exact⟨rfl,below_drewN (h _) _⟩
 ·have I:Hid (jD ⟨8,Z,nm⟩ (rV B 2 Jb) vs=.iface 274 (.agg #[vs 0,vs 1])):=rfl;rw[I.o];rw[J]at q0;rw[h1]at q1;rw[J,h1];go_in;go_wp2_with fail;go_quiet (fail)
  go_wp2;go_ret;exact⟨rfl,below_drewN (h _) _⟩
 ·have I:Hid (jD ⟨9,Z,nm⟩ (rV B 2 Jb) vs=.iface 275 (.agg #[vs 0,vs 1])):=rfl;rw[I.o];rw[J]at q0;rw[h1]at q1;rw[J,h1];go_in;go_wp2_with fail;go_quiet (fail)
  go_wp2;go_ret;exact⟨rfl,below_drewN (h _) _⟩
def Ep(n:Nd)(hn:aD n=true)(A:Nat)(U:arity n=A)(w:AT)(S:D6)(ar:BY)(vs:Nat->BY)(F:Nat->List Nd)(ha:fY w S ar A vs)(J:∀i,i<A->Tv w S (vs i) (F i)):Tv w S (jD n ar vs) (eU F A++[n]):=by
 have Jc:=fJ hn;obtain⟨Y,Z⟩:=vQ hn;obtain⟨I,nv,nm⟩:=n;simp only at Jc Y Z;have hk:I=1∨I=2∨I=3∨I=4∨I=5∨I=6∨I=7∨I=8∨I=9:=o_;rcases hk with rfl|rfl|rfl|rfl|rfl|rfl|rfl|rfl|rfl
 ·obtain rfl:=Y o_;have h:A=0:=by simp[arity]at U;omega
  subst h;exact .num nv
 ·obtain rfl:=Z o_;have h:A=0:=by simp[arity]at U;omega
  subst h;exact .var nm
 ·obtain rfl:=Z o_;have h:A=1:=by simp[arity]at U;omega
  subst h;exact .index nm _ _ (J 0 o_)
 ·have h:nv=A:=by simp[arity]at U;omega
  subst h;exact .call nm ar A vs F ha J
 ·obtain rfl:=Y o_;obtain rfl:=Z o_;have h:A=0:=by simp[arity]at U;omega
  subst h;exact .inn
 ·obtain rfl:=Y o_;have h:A=1:=by simp[arity]at U;omega
  subst h;exact .un nv _ _ (J 0 o_)
 ·obtain rfl:=Y o_;have h:A=2:=by simp[arity]at U;omega
  subst h;exact .bin nv _ _ _ _ (J 0 o_) (J 1 o_)
 ·obtain rfl:=Y o_;obtain rfl:=Z o_;have h:A=2:=by simp[arity]at U;omega
  subst h;exact .and _ _ _ _ (J 0 o_) (J 1 o_)
 ·obtain rfl:=Y o_;obtain rfl:=Z o_;have h:A=2:=by simp[arity]at U;omega
  subst h;exact .or _ _ _ _ (J 0 o_) (J 1 o_)
end
section
open Go.RowKit
variable{w w':AT}{v:BY}{l:List Int}{N n:Nat}{xs:List BY}
def Ints(w:AT)(v:BY)(l:List Int):Prop:=∃a cap,v=.slice a l.length cap/\(0<l.length->∃b,a=some ⟨b,0,none⟩/\∀j (h:j<l.length),w.cell? ⟨b,j,none⟩=some (V l[j]))
def Ints.below(h:Ints w v l)(U:Bl w w'):Ints w' v l:=by
 obtain⟨a,J,rfl,h⟩:=h;refine⟨a,J,rfl,λh0=>?_⟩;obtain⟨b,rfl,I⟩:=h h0;exact⟨b,rfl,λj hj=>(U.cell (p:=⟨b,j,none⟩) (b_ (I j hj))).trans (I j hj)⟩
def qw(h:w.ownsRow N 2 1 v l.length (l.map (Value.int .i64))):Ints w v l:=by
 have J:=h;obtain⟨Y,h⟩:=h;rcases h with⟨rfl,U⟩|⟨g,I,Jb,rfl,hg,hh,Z,Jd,Je,Jc⟩
 ·exact⟨none,0,by rw[U],λh=>absurd h o_⟩
 ·refine⟨_,I,rfl,λ_=>⟨g,rfl,λj hj=>?_⟩⟩;have:=J.cells (g:=g) rfl j (V l[j]) (by simp[hj])
  have e:(⟨g,0,none⟩:Addr).add j=⟨g,j,none⟩:=by simp only[Addr.add];split <;> simp_all
  rw[e]at this;exact this
end
section
open Go.RowKit
variable{w w':AT}
def qy{s:GA}(h:aY s=true):(s.toList == [])=false:=by
 have U:=((ny s).1 h).1;have I:s.toList.length=s.size:=by rw[ByteArray.toList_eq];simp
 cases e:(s.toList == [])
 ·rfl
 ·have J:s.toList=[]:=Fc e
  rw[J]at I;simp at I;omega
def yP(x y:Int)(z:GA)(w:AT):(Instr.field 134 (.agg #[V x,V y,sV z]) 0).run prog w=.ok (V x) w:=by kernel_rfl
def pi{t:GC}{I U Z Y J x5:BY}(h:Below (w.heap.size+1) (w.alloc (.cells #[I,U,Z,Y,J,x5] t)) w'):
  w'.cell? ⟨w.heap.size,0,none⟩=some I/\w'.cell? ⟨w.heap.size,1,none⟩=some U/\w'.cell? ⟨w.heap.size,2,none⟩=some Z/\w'.cell? ⟨w.heap.size,3,none⟩=some Y/\w'.cell? ⟨w.heap.size,4,none⟩=some J/\w'.cell? ⟨w.heap.size,5,none⟩=some x5:=by
 refine⟨?_,?_,?_,?_,?_,?_⟩ <;> (rw[h.cell i_];simp)
def ay{a:Obj}(h:Below (w.heap.size+1) (w.alloc a) w'):Bl w w':=
 (au _ _).trans (h.mono o_)
end
section
open Go.RowKit
def yQ(k:Int)(hk:k=1∨k=2)(s:GA)(Y vf:BY)(I h:List Nd)(t l:Int)(w:AT)(Jd:I.length<=2000)(Je:h.length<=2000)(Z:aw w Y I)(hf:aw w vf h):
  Calls prog 126 #[.agg #[V k,sV s,Y,vf,V t,V l]] w λe w'=>e=rW (.bool (bh ⟨k,s,I,h,t,l⟩))/\Bl w w':=by
 have h3:∀x:Int,x<0∨(¬x<0/\0<x)∨(¬x<0/\¬0<x/\x=0):=λx=>by omega
 rcases hk with rfl|rfl;all_goals
  have HE:=ah Z;obtain⟨ae,ce,rfl,-,-,-⟩:=Z;obtain⟨af,cf,rfl,-,-,-⟩:=hf;have HD:Hid (∀b:Bool,(decide (I.length<=2000)&&b)=b):=λb=>by simp[Jd]
  have Jf:Hid (∀b:Bool,(decide (h.length<=2000)&&b)=b):=λb=>by simp[Je]
  go_in;go_wp2_with(go_at_call 30;refine(dx _ _ _ _).mono ?_;rintro e w' ⟨rfl,rfl⟩);refine(iU _ I _ o_ (HE.o.below (au _ _))).mono ?_;rintro e w1 ⟨rfl,U⟩;rw[HD.o];simp only[Bl,GO]at U;have J:=ay U;obtain⟨x0,x1,x2,x3,x4,x5⟩:=pi U;cases ho:aP I
  ·go_wp2;go_ret;exact⟨aj (by simp only[bh,stmtB];simp[ho]),J⟩
  cases hn:aY s
  ·go_wp2_with(go_at_call 87;refine(cj _ _).mono ?_;rintro e w' ⟨rfl,rfl⟩;rw[hn])
   go_ret;exact⟨aj (by simp only[bh,stmtB];simp[ho,hn]),J⟩
  by_cases hf0:0<h.length
  ·go_wp2_with(go_at_call 87;refine(cj _ _).mono ?_;rintro e w' ⟨rfl,rfl⟩;rw[hn])
   go_ret;refine⟨aj ?_,J⟩;have:(h.length == 0)=false:=by simp only[beq_eq_false_iff_ne];omega
   simp only[bh,stmtB,this];simp[ho,hn]
  have Jc:Hid ((h.length == 0)=true):=by show _=_;simp only[beq_iff_eq];omega
  rcases h3 t with ht|⟨ht,Jh⟩|⟨-,-,rfl⟩ <;> rcases h3 l with hl|⟨hl,Jg⟩|⟨-,-,rfl⟩;all_goals go_wp2_with(go_at_call 87;refine(cj _ _).mono ?_;rintro e w' ⟨rfl,rfl⟩;rw[hn])
  all_goals go_ret
  all_goals exact⟨aj (by simp only[bh,stmtB,Jc.o];simp[ho,hn] <;> omega),J⟩
def Da(s:GA)(ve vf:BY)(I h:List Nd)(t l:Int)(w:AT)(Jh:I.length<=2000)(Ji:h.length<=2000)(he:aw w ve I)(hf:aw w vf h):
  Calls prog 126 #[.agg #[V 3,sV s,ve,vf,V t,V l]] w λe w'=>e=rW (.bool (bh ⟨3,s,I,h,t,l⟩))/\Bl w w':=by
 have h3:∀x:Int,x<0∨(¬x<0/\0<x)∨(¬x<0/\¬0<x/\x=0):=λx=>by omega
 have HE:=ah he;have HF:=ah hf;obtain⟨ae,ce,rfl,-,-,-⟩:=he;obtain⟨af,cf,rfl,-,-,-⟩:=hf;have HD:Hid (∀b:Bool,(decide (I.length<=2000)&&b)=b):=λb=>by simp[Jh]
 have Je:Hid (∀b:Bool,(decide (h.length<=2000)&&b)=b):=λb=>by simp[Ji]
 go_in;go_wp2_with(go_at_call 30;refine(dx _ _ _ _).mono ?_;rintro e w' ⟨rfl,rfl⟩);refine(iU _ I _ o_ (HE.o.below (au _ _))).mono ?_;rintro e w1 ⟨rfl,J⟩;rw[HD.o];simp only[Bl,GO]at J;have U:=ay J;obtain⟨x0,x1,x2,x3,x4,x5⟩:=pi J;cases ho:aP I
 ·go_wp2;go_ret;exact⟨aj (by simp only[bh,stmtB];simp[ho]),U⟩
 cases hn:aY s
 ·go_wp2_with(go_at_call 87;refine(cj _ _).mono ?_;rintro e w' ⟨rfl,rfl⟩;rw[hn])
  go_ret;exact⟨aj (by simp only[bh,stmtB];simp[ho,hn]),U⟩
 by_cases hf0:0<h.length
 case neg=>
  go_wp2_with(go_at_call 87;refine(cj _ _).mono ?_;rintro e w' ⟨rfl,rfl⟩;rw[hn]);go_ret;refine⟨aj ?_,U⟩;have:h=[]:=GG o_;subst this;have Jg:aP []=false:=by simp[aP,wholeTo]
  simp only[bh,stmtB];simp[ho,hn,Jg]
 go_wp2_with(go_at_call 87;refine(cj _ _).mono ?_;rintro e w' ⟨rfl,rfl⟩;rw[hn]);refine(iU _ h _ o_ (HF.o.below U)).mono ?_;rintro e w2 ⟨rfl,Jf⟩;rw[Je.o];have Z:=J.trans (Jf.mono (by have:=J.size;simp at this;omega));have Y:=ay Z;obtain⟨x0,x1,x2,x3,x4,x5⟩:=pi Z;cases hof:aP h
 ·go_wp2;go_ret;exact⟨aj (by simp only[bh,stmtB];simp[ho,hn,hof]),Y⟩
 rcases h3 t with ht|⟨ht,Jk⟩|⟨-,-,rfl⟩ <;> rcases h3 l with hl|⟨hl,Jj⟩|⟨-,-,rfl⟩;all_goals go_wp2_with fail
 all_goals go_ret
 all_goals exact⟨aj (by simp only[bh,stmtB];simp[ho,hn,hof] <;> omega),Y⟩
end
section
open Go.RowKit
set_option maxHeartbeats 4000000 in
theorem lV(k:Int)(hk:k=4∨k=5∨k=6∨k=7∨k=8)(s:GA)(ve vf:BY)(es fs:List Nd)(t l:Int)(w:AT)(hle:es.length ≤ 2000)(hlf:fs.length ≤ 2000)(he:aw w ve es)(hf:aw w vf fs):
  Calls prog 126 #[.agg #[V k, sV s, ve, vf, V t, V l]] w λe w'=>e=rW (.bool (bh ⟨k, s, es, fs, t, l⟩)) ∧ Bl w w':= by
 have h3:∀ x:Int, x<0∨(¬ x<0 ∧ 0<x)∨(¬ x<0 ∧ ¬ 0<x ∧ x=0):= λx=>by omega
 rcases hk with rfl|rfl|rfl|rfl|rfl
 all_goals
  have HE:Hid (aw w ve es):= he;obtain⟨ae, ce, rfl, -, -, -⟩:= he;obtain⟨af, cf, rfl, -, -, -⟩:= hf;have HD:Hid (∀ b:Bool, (decide (es.length ≤ 2000)&&b)=b):= λb=>by simp[hle]
  have HDF:Hid (∀ b:Bool, (decide (fs.length ≤ 2000)&&b)=b):= λb=>by simp[hlf]
  go_in;go_wp2_with(go_at_call 30; refine(dx _ _ _ _).mono ?_; rintro e w' ⟨rfl, rfl⟩);refine(iU _ es _ o_ (HE.o.below (r_.alloc n_ _))).mono ?_;rintro e w1 ⟨rfl, hb1⟩;rw[HD.o];simp only[Bl,GO]at hb1;have hB1:= ay hb1;obtain⟨x0, x1, x2, x3, x4, x5⟩:= pi hb1
  cases ho:aP es
  ·go_wp2
   go_ret;exact⟨aj (by simp only[bh, stmtB]; simp[ho]), hB1⟩
  cases hn:aY s
  case true=>
   go_wp2_with(go_at_call 87; refine(cj _ _).mono ?_; rintro e w' ⟨rfl, rfl⟩; rw[hn]);go_ret;exact⟨aj (by simp only[bh, stmtB]; simp[ho, qy hn, -beq_nil_eq]), hB1⟩
  cases hs:(s.toList == [])
  ·have hs1:(s.toList != [])=true:= by rw[bne, hs]; rfl
   go_wp2_with(go_at_call 87; refine(cj _ _).mono ?_; rintro e w' ⟨rfl, rfl⟩; rw[hn]);go_ret;exact⟨aj (by simp only[bh, stmtB]; simp[ho, hs, -beq_nil_eq]), hB1⟩
  have hs1:(s.toList != [])=false:= by rw[bne, hs]; rfl
  by_cases hf0:0<fs.length
  ·go_wp2_with(go_at_call 87; refine(cj _ _).mono ?_; rintro e w' ⟨rfl, rfl⟩; rw[hn])
   go_ret;refine⟨aj ?_, hB1⟩;have:(fs.length == 0)=false:= by simp only[beq_eq_false_iff_ne]; omega
   simp only[bh, stmtB, this]; simp[ho, hs, -beq_nil_eq]
  have HF0:Hid ((fs.length == 0)=true):= by show _=_; simp only[beq_iff_eq]; omega
  rcases h3 t with ht|⟨ht, ht2⟩|⟨-, -, rfl⟩ <;> rcases h3 l with hl|⟨hl, hl2⟩|⟨-, -, rfl⟩
  all_goals go_wp2_with(go_at_call 87; refine(cj _ _).mono ?_; rintro e w' ⟨rfl, rfl⟩; rw[hn])
  all_goals first
   | (go_ret; exact⟨aj (by simp only[bh, stmtB, HF0.o]; simp[ho, hs, -beq_nil_eq] <;> omega), hB1⟩)
   | (have hpos:= pX ho
      refine(ir _ es _ hpos o_ (HE.o.below hB1)).mono ?_;rintro e w2 ⟨rfl, hb2⟩;have hB2:= hB1.trans (hb2.mono hB1.size);have HL:Hid (fN es=(es[es.length - 1]'(by omega)).kind):= by
       show fN es=_;simp only[fN];rw[GH o_]
      generalize es[es.length - 1]=n at HL⊢;have hfd:= yP n.kind n.val n.name;clear x0 x1 x2 x3 x4 x5 hpos;go_wp2;go_ret;refine⟨aj ?_, hB2⟩;simp only[bh, stmtB, HF0.o]; simp[ho, hs, -beq_nil_eq, HL.o])
end
section
open Go.RowKit
variable{w w':AT}{S S':D6}{v:BY}{r ss:List St}
def cG(F:Nat->List St):Nat->List St
 | 0=>[]
 | A+1=>cG F A++F A
structure BvC (w:World)(S:Nat->Prop)(P:Value→List St→Prop):Prop where
 c_::
 decl(s:St)(x:Value):(s.kind=1)→Tv w S x s.e→(s.thn=0)→(s.els=0)→P (.iface 213 (.agg #[.string s.name,x])) [s]
 set(s:St)(x:Value):(s.kind=2)→Tv w S x s.e→(s.thn=0)→(s.els=0)→P (.iface 214 (.agg #[.string s.name,x])) [s]
 store(s:St)(x y:Value):(s.kind=3)→Tv w S x s.e→Tv w S y s.f→(s.thn=0)→(s.els=0)→P (.iface 216 (.agg #[.string s.name,x,y])) [s]
 ifs(s:St)(x va vb:Value)(A B:Nat)(vs us:Nat->Value)(F H:Nat->List St):(s.kind=4)→Tv w S x s.e→fY w S va A vs→(∀i,i<A->P (vs i) (F i))→fY w S vb B us→(∀i,i<B->P (us i) (H i))→(s.thn=(cG F A).length)→(s.els=(cG H B).length)→P (.iface 218 (.agg #[x,va,vb])) (s::cG F A++cG H B)
 whil(s:St)(x va:Value)(A:Nat)(vs:Nat->Value)(F:Nat->List St):(s.kind=5)→Tv w S x s.e→fY w S va A vs→(∀i,i<A->P (vs i) (F i))→(s.thn=(cG F A).length)→(s.els=0)→P (.iface 220 (.agg #[x,va])) (s::cG F A)
 ret(s:St)(x:Value):(s.kind=6)→Tv w S x s.e→(s.thn=0)→(s.els=0)→P (.iface 185 (.agg #[x])) [s]
 out(s:St)(x:Value):(s.kind=7)→Tv w S x s.e→(s.thn=0)→(s.els=0)→P (.iface 221 (.agg #[x])) [s]
 call(s:St)(x:Value):(s.kind=8)→Tv w S x s.e→(s.thn=0)→(s.els=0)→P (.iface 222 (.agg #[x])) [s]
structure Bv (w:World)(S:Nat->Prop)(a0:Value)(a1:List St):Prop where
 c_::
 f_:∀P,BvC w S P→P a0 a1
theorem Bv.C{w:World}{S:Nat->Prop}:BvC w S (Bv w S):=⟨fun s x q0 q1 q2 q3=>⟨fun P h=>h.decl s x q0 q1 q2 q3⟩,
 fun s x q0 q1 q2 q3=>⟨fun P h=>h.set s x q0 q1 q2 q3⟩,
 fun s x y q0 q1 q2 q3 q4=>⟨fun P h=>h.store s x y q0 q1 q2 q3 q4⟩,
 fun s x va vb A B vs us F H q0 q1 q2 q3 q4 q5 q6 q7=>⟨fun P h=>h.ifs s x va vb A B vs us F H q0 q1 q2 (fun i r0=>(q3 i r0).f_ P h) q4 (fun i r0=>(q5 i r0).f_ P h) q6 q7⟩,
 fun s x va A vs F q0 q1 q2 q3 q4 q5=>⟨fun P h=>h.whil s x va A vs F q0 q1 q2 (fun i r0=>(q3 i r0).f_ P h) q4 q5⟩,
 fun s x q0 q1 q2 q3=>⟨fun P h=>h.ret s x q0 q1 q2 q3⟩,
 fun s x q0 q1 q2 q3=>⟨fun P h=>h.out s x q0 q1 q2 q3⟩,
 fun s x q0 q1 q2 q3=>⟨fun P h=>h.call s x q0 q1 q2 q3⟩⟩
abbrev Bv.decl {w S}:=(Bv.C:BvC w S _).decl
abbrev Bv.set {w S}:=(Bv.C:BvC w S _).set
abbrev Bv.store {w S}:=(Bv.C:BvC w S _).store
abbrev Bv.ifs {w S}:=(Bv.C:BvC w S _).ifs
abbrev Bv.whil {w S}:=(Bv.C:BvC w S _).whil
abbrev Bv.ret {w S}:=(Bv.C:BvC w S _).ret
abbrev Bv.out {w S}:=(Bv.C:BvC w S _).out
abbrev Bv.call {w S}:=(Bv.C:BvC w S _).call
theorem Bv_i{w:World}{S:Nat->Prop}{M:∀(a0:Value)(a1:List St),Bv w S a0 a1→Prop}
 (decl:∀(s:St)(x:Value),(s.kind=1)→Tv w S x s.e→(s.thn=0)→(s.els=0)→∀t,M (.iface 213 (.agg #[.string s.name,x])) [s] t)
 (set:∀(s:St)(x:Value),(s.kind=2)→Tv w S x s.e→(s.thn=0)→(s.els=0)→∀t,M (.iface 214 (.agg #[.string s.name,x])) [s] t)
 (store:∀(s:St)(x y:Value),(s.kind=3)→Tv w S x s.e→Tv w S y s.f→(s.thn=0)→(s.els=0)→∀t,M (.iface 216 (.agg #[.string s.name,x,y])) [s] t)
 (ifs:∀(s:St)(x va vb:Value)(A B:Nat)(vs us:Nat->Value)(F H:Nat->List St),(s.kind=4)→Tv w S x s.e→fY w S va A vs→∀q3:∀i,i<A->Bv w S (vs i) (F i),fY w S vb B us→∀q5:∀i,i<B->Bv w S (us i) (H i),(s.thn=(cG F A).length)→(s.els=(cG H B).length)→(∀ i (r0 : i<A),M (vs i) (F i) (q3 i r0))→(∀ i (r0 : i<B),M (us i) (H i) (q5 i r0))→∀t,M (.iface 218 (.agg #[x,va,vb])) (s::cG F A++cG H B) t)
 (whil:∀(s:St)(x va:Value)(A:Nat)(vs:Nat->Value)(F:Nat->List St),(s.kind=5)→Tv w S x s.e→fY w S va A vs→∀q3:∀i,i<A->Bv w S (vs i) (F i),(s.thn=(cG F A).length)→(s.els=0)→(∀ i (r0 : i<A),M (vs i) (F i) (q3 i r0))→∀t,M (.iface 220 (.agg #[x,va])) (s::cG F A) t)
 (ret:∀(s:St)(x:Value),(s.kind=6)→Tv w S x s.e→(s.thn=0)→(s.els=0)→∀t,M (.iface 185 (.agg #[x])) [s] t)
 (out:∀(s:St)(x:Value),(s.kind=7)→Tv w S x s.e→(s.thn=0)→(s.els=0)→∀t,M (.iface 221 (.agg #[x])) [s] t)
 (call:∀(s:St)(x:Value),(s.kind=8)→Tv w S x s.e→(s.thn=0)→(s.els=0)→∀t,M (.iface 222 (.agg #[x])) [s] t)
 {a0:Value}{a1:List St}(t:Bv w S a0 a1):M a0 a1 t:=
 (t.f_ (fun a0 a1=>∃z_,M a0 a1 z_) ⟨fun s x q0 q1 q2 q3=>⟨.decl s x q0 q1 q2 q3,decl s x q0 q1 q2 q3 _⟩,
 fun s x q0 q1 q2 q3=>⟨.set s x q0 q1 q2 q3,set s x q0 q1 q2 q3 _⟩,
 fun s x y q0 q1 q2 q3 q4=>⟨.store s x y q0 q1 q2 q3 q4,store s x y q0 q1 q2 q3 q4 _⟩,
 fun s x va vb A B vs us F H q0 q1 q2 q3 q4 q5 q6 q7=>⟨.ifs s x va vb A B vs us F H q0 q1 q2 (fun i r0=>(q3 i r0).1) q4 (fun i r0=>(q5 i r0).1) q6 q7,ifs s x va vb A B vs us F H q0 q1 q2 _ q4 _ q6 q7 (fun i r0=>(q3 i r0).2) (fun i r0=>(q5 i r0).2) _⟩,
 fun s x va A vs F q0 q1 q2 q3 q4 q5=>⟨.whil s x va A vs F q0 q1 q2 (fun i r0=>(q3 i r0).1) q4 q5,whil s x va A vs F q0 q1 q2 _ q4 q5 (fun i r0=>(q3 i r0).2) _⟩,
 fun s x q0 q1 q2 q3=>⟨.ret s x q0 q1 q2 q3,ret s x q0 q1 q2 q3 _⟩,
 fun s x q0 q1 q2 q3=>⟨.out s x q0 q1 q2 q3,out s x q0 q1 q2 q3 _⟩,
 fun s x q0 q1 q2 q3=>⟨.call s x q0 q1 q2 q3,call s x q0 q1 q2 q3 _⟩⟩).2
theorem Bv.keep(h:Bv w S v r)(J:∀B,S B->S' B)(I:∀B,S B->w'.heap[B]? =w.heap[B]?):Bv w' S' v r:=by
 induction h using Bv_i with
 | decl s x h1 h2 h3 h4=>exact .decl s x h1 (h2.keep J I) h3 h4
 | set s x h1 h2 h3 h4=>exact .set s x h1 (h2.keep J I) h3 h4
 | store s x y h1 h2 h3 h4 h5=>exact .store s x y h1 (h2.keep J I) (h3.keep J I) h4 h5
 | ifs s x va vb A B vs us F H h1 h2 h3 h4 h5 h6 h7 h8 ih1 ih2=>exact .ifs s x va vb A B vs us F H h1 (h2.keep J I) (h3.keep J I) ih1 (h5.keep J I) ih2 h7 h8
 | whil s x va A vs F h1 h2 h3 h4 h5 h6 ih=>exact .whil s x va A vs F h1 (h2.keep J I) (h3.keep J I) ih h5 h6
 | ret s x h1 h2 h3 h4=>exact .ret s x h1 (h2.keep J I) h3 h4
 | out s x h1 h2 h3 h4=>exact .out s x h1 (h2.keep J I) h3 h4
 | call s x h1 h2 h3 h4=>exact .call s x h1 (h2.keep J I) h3 h4
def Bv.bel(h:Bv w S v r)(hS:∀B,S B->B<w.heap.size)(hb:Bl w w'):Bv w' S v r:=h.keep (λ_ h=>h) (λB hB=>hb.block B (hS B hB))
def Bv.isI(h:Bv w S v r):∃t x,v=.iface t x:=by
 cases h using Bv_i <;> exact⟨_,_,rfl⟩
def Bk(w:AT)(S:D6)(v:BY)(ss:List St):Prop:=∃(A:Nat) (vs:Nat->BY) (F:Nat->List St),fY w S v A vs/\(∀i,i<A->Bv w S (vs i) (F i))/\ss=cG F A
def Bk.keep(h:Bk w S v ss)(J:∀B,S B->S' B)(I:∀B,S B->w'.heap[B]? =w.heap[B]?):Bk w' S' v ss:=by
 obtain⟨A,vs,F,U,h2,h3⟩:=h;exact⟨A,vs,F,U.keep J I,λi hi=>(h2 i hi).keep J I,h3⟩
def Bk.bel(h:Bk w S v ss)(hS:∀B,S B->B<w.heap.size)(hb:Bl w w'):Bk w' S v ss:=h.keep (λ_ h=>h) (λB hB=>hb.block B (hS B hB))
end
section
variable{r b:List St}{w:AT}{S:D6}{v:BY}{s:St}
def Bv.pos(h:Bv w S v r):0<r.length:=by
 cases h using Bv_i <;> simp
def Dc{F:Nat->List St}:cG F 0=[]:=rfl
end
section
open Go.RowKit
variable{w w':AT}{b off cap:Nat}{ss:List St}{a:Option Addr}
def j0(w:AT)(b off:Nat)(ss:List St):Prop:=∀j (h:j<ss.length),∃ve vf,
 (w.cell? ⟨b,off+j*6,none⟩=some (V ss[j].kind)/\w.cell? ⟨b,off+j*6+1,none⟩=some (sV ss[j].name)/\w.cell? ⟨b,off+j*6+2,none⟩=some ve/\w.cell? ⟨b,off+j*6+3,none⟩=some vf/\w.cell? ⟨b,off+j*6+4,none⟩=some (V ss[j].thn)/\w.cell? ⟨b,off+j*6+5,none⟩=some (V ss[j].els))/\aw w ve ss[j].e/\aw w vf ss[j].f
def j0.below(h:j0 w b off ss)(I:Bl w w'):j0 w' b off ss:=by
 intro j hj;obtain⟨ve,vf,⟨U,c1,Y,c3,c4,c5⟩,he,Z⟩:=h j hj;have J:=b_ U;exact⟨ve,vf,⟨(I.cell (p:=⟨b,off+j*6,none⟩) J).trans U,(I.cell (p:=⟨b,off+j*6+1,none⟩) J).trans c1,(I.cell (p:=⟨b,off+j*6+2,none⟩) J).trans Y,(I.cell (p:=⟨b,off+j*6+3,none⟩) J).trans c3,(I.cell (p:=⟨b,off+j*6+4,none⟩) J).trans c4,(I.cell (p:=⟨b,off+j*6+5,none⟩) J).trans c5⟩,he.below I,Z.below I⟩
def aW(w:AT)(v:BY)(ss:List St):Prop:=∃a cap,v=.slice a ss.length cap/\ss.length<=cap/\cap<=9223372036854775807/\(0<ss.length->∃b off,a=some ⟨b,off,none⟩/\j0 w b off ss)
def aW.below{v:BY}(h:aW w v ss)(hb:Bl w w'):aW w' v ss:=by
 obtain⟨a,Y,rfl,J,I,h⟩:=h;refine⟨a,Y,rfl,J,I,λh0=>?_⟩;obtain⟨b,U,rfl,Z⟩:=h h0;exact⟨b,U,rfl,Z.below hb⟩
def j0.up(h:j0 w b off ss)(j:Nat)(hj:j<ss.length):∃ve vf,((∀o,DO (w.alloc o) b (off+j*6) (V ss[j].kind))/\(∀o,DO (w.alloc o) b (off+j*6+1) (sV ss[j].name))/\(∀o,DO (w.alloc o) b (off+j*6+2) ve)/\(∀o,DO (w.alloc o) b (off+j*6+3) vf)/\(∀o,DO (w.alloc o) b (off+j*6+4) (V ss[j].thn))/\(∀o,DO (w.alloc o) b (off+j*6+5) (V ss[j].els))) /\
  (DO w b (off+j*6) (V ss[j].kind)/\DO w b (off+j*6+1) (sV ss[j].name)/\DO w b (off+j*6+2) ve/\DO w b (off+j*6+3) vf/\DO w b (off+j*6+4) (V ss[j].thn)/\DO w b (off+j*6+5) (V ss[j].els))/\aw w ve ss[j].e/\aw w vf ss[j].f:=by
 obtain⟨ve,vf,⟨U,c1,Y,Z,c4,c5⟩,he,hf⟩:=h j hj;have I:=b_ U;have J:∀o,Bl w (w.alloc o):=λo=>r_.alloc n_ o;exact⟨ve,vf,⟨λo=>((J o).cell (p:=⟨b,off+j*6,none⟩) I).trans U,λo=>((J o).cell (p:=⟨b,off+j*6+1,none⟩) I).trans c1,λo=>((J o).cell (p:=⟨b,off+j*6+2,none⟩) I).trans Y,λo=>((J o).cell (p:=⟨b,off+j*6+3,none⟩) I).trans Z,λo=>((J o).cell (p:=⟨b,off+j*6+4,none⟩) I).trans c4,λo=>((J o).cell (p:=⟨b,off+j*6+5,none⟩) I).trans c5⟩,⟨U,c1,Y,Z,c4,c5⟩,he,hf⟩
def aW.cut(h:aW w (.slice a ss.length cap) ss)(I J:Nat)(h1:I<=J)(h2:J<=ss.length):
  aW w (.slice (if cap=I then a else a.map (·.add (I*6))) (J-I) (cap-I)) ((ss.take J).drop I):=by
 obtain⟨a',Jc,U,hl,hm,h⟩:=h;simp only[Value.slice.injEq,true_and]at U;obtain⟨rfl,rfl⟩:=U;refine⟨if cap=I then a else a.map (·.add (I*6)),cap-I,by simp[Nat.min_eq_left h2],by simp[Nat.min_eq_left h2];omega,o_,λh0=>?_⟩;simp only[length_drop,length_take,Nat.min_eq_left h2]at h0;obtain⟨b,Y,rfl,hc⟩:=h o_;refine⟨b,Y+I*6,?_,λj hj=>?_⟩
 ·rw[if_neg o_];simp[Addr.add]
 ·simp only[length_drop,length_take,Nat.min_eq_left h2]at hj;obtain⟨ve,vf,Jb,U,Z⟩:=hc (I+j) o_;have e:((ss.take J).drop I)[j]'ZFs=ss[I+j]'(by omega):=i_
  rw[e];refine⟨ve,vf,?_,U,Z⟩;have e1:Y+I*6+j*6=Y+(I+j)*6:=o_;rw[e1];exact Jb
def aW.head(h:aW w (.slice a ss.length cap) ss)(I:Nat)(h2:I<=ss.length):aW w (.slice a I cap) (ss.take I):=by
 have:=h.cut 0 I y_ h2
 have e:(if cap=0 then a else a.map (·.add (0*6)))=a:=by
  split
  ·rfl
  ·cases a <;> simp[Addr.add]
 rw[e]at this;simpa using this
def pj(a:Option Addr)(n cap h I:Nat)(Y:h<=I)(h2:I<=n)(h3:n<=cap):∀w:AT,(Instr.slice 95 (.slice a n cap) (some (V h)) (some (V ((h:Int)+((I-h:Nat):Int)))) none).run prog w=.ok (.slice (if cap=h then a else a.map (·.add (h*6))) (I-h) (cap-h)) w:=by
 intro w;have J:prog.elem 95=132:=k_;have U:(sizeOf 132).run prog w=.ok 6 w:=k_;rw[run_slice_lh w 95 a n cap (by rw[J];exact underlying95) .i64 .i64 _ _ o_ o_ o_,J,U];simp only[Result.andThen,sliced,Int.toNat_natCast];have e:(((h:Int)+((I-h:Nat):Int))).toNat=I:=o_;rw[e]
def nK(a:Option Addr)(n cap h:Nat)(h2:h<=n)(h3:n<=cap)(J:Int)(Y:J=h):∀w:AT,(Instr.slice 95 (.slice a n cap) (some (V J)) none none).run prog w=.ok (.slice (if cap=h then a else a.map (·.add (h*6))) (n-h) (cap-h)) w:=by
 intro w;subst Y;have I:prog.elem 95=132:=k_;have U:(sizeOf 132).run prog w=.ok 6 w:=k_;rw[run_slice_l w 95 a n cap (by rw[I];exact underlying95) .i64 _ o_ o_,I,U];simp only[Result.andThen,sliced,Int.toNat_natCast]
def lenOf:BY->Nat|.slice _ n _=>n|_=>0
theorem Bm(n:Nat):∀(v:BY) (ss:List St) (w:AT) (hn:ss.length<=n) (hl:ss.length<=1048576) (hc:aW w v ss),
  Calls prog 171 #[v] w λe w'=>e=rW (.bool (cM ss))/\Bl w w':=by
 induction n with
 | zero=>
  intro v ss w hn hl hc;have:ss=[]:=GG o_;subst this;obtain⟨a,Y,rfl,Jl,Ji,hc⟩:=hc;simp only[l_n]at*;clear hc;go_in;go_wp2_with fail;refine wp_loop_rounds 1 ?_;rw[rounds_succ];go_wp2;go_ret;exact⟨rfl,r_⟩
 | succ n ih=>
 intro v ss w hn hl hc;obtain⟨IH,HN⟩:=h2 ih hc;obtain⟨a,Y,rfl,Jl,Ji,hc⟩:=hc;clear hc ih;go_in;go_wp2;go_loopw[0] (λv wr=>∃Z,Z.length<=ss.length/\aW wr v Z/\cM ss=cM Z/\Bl w wr) (λv _=>lenOf v)
 case atStart=>exact⟨ss,n_,HN,rfl,r_⟩
 case round=>
  obtain⟨Z,Xa,Jw,Jf,hB⟩:=hrel;obtain⟨a,Y,rfl,Jl,Ji,hc⟩:=Jw;have HF:=ah Jf;clear Jf;cases Z with
  | nil=>
   simp only[l_n];go_wp2;go_ret;exact⟨aj HF.o.symm,hB⟩
  | cons s r=>
   obtain⟨b,off,rfl,hs⟩:=hc i_;obtain⟨ve,vf,⟨g0,g1,g2,g3,g4,g5⟩,⟨c0,c1,c2,c3,c4,c5⟩,he,hf⟩:=hs.up 0 i_;simp only[Nat.zero_mul,Nat.add_zero,getElem_cons_zero]at c0 c1 c2 c3 c4 c5 g0 g1 g2 g3 g4 g5;have Je:aW wr (.slice (some ⟨b,off,none⟩) (s::r).length Y) (s::r):=⟨_,_,rfl,Jl,Ji,λ_=>⟨b,off,rfl,hs⟩⟩;have Ja:aW wr (.slice (if Y=1 then some ⟨b,off,none⟩else some ⟨b,off+6,none⟩) r.length (Y-1)) r:=by
    have:=Je.cut 1 (s::r).length i_ n_
    simpa[Addr.add]using this
   simp only[l_c]at*;have HR:=ah Ja;have h1:(1:Int)<=(r.length:Int)+1:=o_;have U:Hid (cM ss=(decide (0<=s.thn/\s.thn<=r.length/\0<=s.els/\s.els<=r.length-s.thn)&&(cM (r.take s.thn.toNat)&&(cM ((r.take (s.thn.toNat+s.els.toNat)).drop s.thn.toNat)&&cM (r.drop (s.thn.toNat+s.els.toNat)))))):=by
    show _=_;rw[HF.o,fitB_cons]
   obtain⟨a2,k2,rfl,-,-,-⟩:=he;obtain⟨a3,k3,rfl,-,-,-⟩:=hf;clear hs hc Je Ja HF;generalize s.kind=kI at c0 g0;generalize s.name=nI at c1 g1;generalize s.thn=tI at c4 g4 U;generalize s.els=lI at c5 g5 U;generalize (s::r)[0].e.length=n2 at c2 g2;generalize (s::r)[0].f.length=n3 at c3 g3;go_wp2_with fail;go_region;generalize (if Y=1 then some ({block:=b,off:=off,spot:=none}:Addr)else some {block:=b,off:=off+6,spot:=none})=a1 at HR⊢;generalize hk1:Y-1=k1 at HR⊢;have Jx:r.length<=k1:=o_;have Jv:k1<=9223372036854775807:=o_;clear hk1 c0 c1 c2 c3 c4 c5 g0 g1 g2 g3 g4 g5 h1;have Jd:Bl w (wr.alloc (.cells #[V kI,sV nI,.slice a2 n2 k2,.slice a3 n3 k3,V tI,V lI] 132)).drew:=(hB.alloc hB.size _).drew;by_cases q1:tI<0
   ·go_wp2;go_ret;exact⟨aj (by rw[U.o,decide_eq_false o_];rfl),Jd⟩
   by_cases q2:(r.length:Int)<tI
   ·go_wp2;go_ret;exact⟨aj (by rw[U.o,decide_eq_false o_];rfl),Jd⟩
   by_cases q3:lI<0
   ·go_wp2;go_ret;exact⟨aj (by rw[U.o,decide_eq_false o_];rfl),Jd⟩
   by_cases q4:(r.length:Int)-tI<lI
   ·go_wp2;go_ret;exact⟨aj (by rw[U.o,decide_eq_false o_];rfl),Jd⟩
   obtain⟨I,rfl⟩:=Int.eq_ofNat_of_zero_le (show 0<=tI by omega);obtain⟨J,rfl⟩:=Int.eq_ofNat_of_zero_le (show 0<=lI by omega);have Jz:I<=r.length:=o_;have Jy:I+J<=r.length:=o_;have Jg:Hid (cM ss=(cM (r.take I)&&(cM ((r.take (I+J)).drop I)&&cM (r.drop (I+J))))):=by
    show _=_;rw[U.o,decide_eq_true o_];simp
   clear U;go_wp2_with fail;have Jp:Bl wr (wr.alloc (.cells #[V kI,sV nI,.slice a2 n2 k2,.slice a3 n3 k3,V I,V J] 132)).drew:=(au _ _).drew;refine(IH.o _ (r.take I) _ ZFs ZFs ((HR.o.below Jp).head I o_)).mono ?_;rintro e w1 ⟨rfl,Jr⟩;have Jb:Below (wr.heap.size+1) (wr.alloc (.cells #[V kI,sV nI,.slice a2 n2 k2,.slice a3 n3 k3,V I,V J] 132)) w1:=(r_.drew).trans (Jr.mono i_);have Jh:=hB.trans ((ay Jb).mono hB.size);obtain⟨x0,x1,x2,x3,x4,x5⟩:=pi Jb;clear Jp Jr Jd;cases hf1:cM (r.take I)
   ·go_wp2;go_ret;exact⟨aj (by rw[Jg.o,hf1];rfl),Jh⟩
   obtain⟨a5,k5,Ju,Jo⟩:∃a5 k5,(∀w:AT,(Instr.slice 95 (.slice a1 r.length k1) (some (V I)) (some (V ((I:Int)+(J:Int)))) none).run prog w=.ok (.slice a5 J k5) w)/\aW wr (.slice a5 J k5) ((r.take (I+J)).drop I):=by
    have h:=pj a1 r.length k1 I (I+J) o_ o_ o_;have h':=HR.o.cut I (I+J) o_ o_;rw[show I+J-I=J by omega]at h h';exact⟨_,_,h,h'⟩
   have Jt:=ah Jo;clear Jo;go_wp2_with fail;have Jj:Bl wr w1:=ay Jb;refine(IH.o _ ((r.take (I+J)).drop I) _ ZFs ZFs (Jt.o.below Jj)).mono ?_;rintro e w2 ⟨rfl,Jq⟩;have Jn:=Jh.trans (Jq.mono Jh.size);have Jk:=Jj.trans (Jq.mono Jj.size);clear x0 x1 x2 x3 x4 x5 Ju;cases hf2:cM ((r.take (I+J)).drop I)
   ·go_wp2;go_ret;exact⟨aj (by rw[Jg.o,hf1,hf2];rfl),Jn⟩
   obtain⟨a6,k6,J_,Jm⟩:∃a6 k6,(∀w:AT,(Instr.slice 95 (.slice a1 r.length k1) (some (V ((I:Int)+(J:Int)))) none none).run prog w=.ok (.slice a6 (r.length-(I+J)) k6) w)/\aW wr (.slice a6 (r.length-(I+J)) k6) (r.drop (I+J)):=by
    have h:=nK a1 r.length k1 (I+J) o_ o_ ((I:Int)+(J:Int)) o_;have h':=HR.o.cut (I+J) r.length o_ o_;rw[take_length]at h';exact⟨_,_,h,h'⟩
   have Js:=ah Jm;clear Jm;go_wp2;go_roundw
   case rel=>exact⟨r.drop (I+J),by simp;omega,Js.o.below Jk,by rw[Jg.o,hf1,hf2];rfl,Jn⟩
   case measure=>simp[lenOf];omega
end
section
open Go.RowKit
def Dd(k:Int)(s:GA)(U vf:BY)(h I:List Nd)(t l:Int)(w:AT)(hk:k<1∨8<k)(he:aw w U h)(hf:aw w vf I):
  Calls prog 126 #[.agg #[V k,sV s,U,vf,V t,V l]] w λe w'=>e=rW (.bool (bh ⟨k,s,h,I,t,l⟩))/\Bl w w':=by
 obtain⟨ae,ce,rfl,-,-,-⟩:=he;obtain⟨af,cf,rfl,-,-,-⟩:=hf;have J:decide (1<=k/\k<=8)=false:=by simp;omega
 have Y:bh ⟨k,s,h,I,t,l⟩=false:=by
  simp only[bh,stmtB,J,Bool.false_and]
 rw[Y];have h1:(k == 1)=false:=by simp;omega
 have h2:(k == 2)=false:=by simp;omega
 have h3:(k == 3)=false:=by simp;omega
 have Z:=ah J;go_in;go_wp2_with(go_at_call 30;refine(dx _ _ _ _).mono ?_;rintro e w' ⟨rfl,rfl⟩;rw[Z.o]);go_ret;exact⟨rfl,r_.alloc n_ _⟩
def vR(s:St)(h vf:BY)(w:AT)(Y:s.e.length<=2000)(Z:s.f.length<=2000)(U:aw w h s.e)(J:aw w vf s.f):
  Calls prog 126 #[.agg #[V s.kind,sV s.name,h,vf,V s.thn,V s.els]] w λe w'=>e=rW (.bool (bh s))/\Bl w w':=by
 obtain⟨k,s,I,fs,t,l⟩:=s;by_cases hk:k<1∨8<k
 ·exact Dd k s h vf I fs t l w hk U J
 have h9:k=1∨k=2∨k=3∨k=4∨k=5∨k=6∨k=7∨k=8:=o_;rcases h9 with rfl|rfl|rfl|rfl|rfl|rfl|rfl|rfl
 ·exact yQ 1 (.inl rfl) s h vf I fs t l w Y Z U J
 ·exact yQ 2 (.inr rfl) s h vf I fs t l w Y Z U J
 ·exact Da s h vf I fs t l w Y Z U J
 ·exact lV 4 (.inl rfl) s h vf I fs t l w Y Z U J
 ·exact lV 5 (.inr (.inl rfl)) s h vf I fs t l w Y Z U J
 ·exact lV 6 (.inr (.inr (.inl rfl))) s h vf I fs t l w Y Z U J
 ·exact lV 7 (.inr (.inr (.inr (.inl rfl)))) s h vf I fs t l w Y Z U J
 ·exact lV 8 (.inr (.inr (.inr (.inr rfl)))) s h vf I fs t l w Y Z U J
end
section
open Go.RowKit
variable{l a b:List St}{s:St}
structure D7 (l:List St) (s:St) (a b:List St):Prop where
 is:l=s::(a++b)
 thn:s.thn=a.length
 els:s.els=b.length
def D7.take(h:D7 l s a b)(I:List St):(a++b++I).take s.thn.toNat=a/\((a++b++I).drop s.thn.toNat).take s.els.toNat=b/\(a++b++I).drop (s.thn.toNat+s.els.toNat)=I:=by
 have U:s.thn.toNat=a.length:=by rw[h.thn];simp
 have J:s.els.toNat=b.length:=by rw[h.els];simp
 rw[U,J];refine⟨i_,i_,?_⟩;rw[<-l_a];simp
end
section
open Go.RowKit
def nL(k t l:Int)(nm:GA)(h Y:Option Addr)(I J Z U:Nat)(w:AT):
  Calls prog 158 #[.agg #[V k,sV nm,.slice h I J,.slice Y Z U,V t,V l]] w λe w'=>e=rW (.agg #[.slice h I J,.slice Y Z U])/\Bl w w':=by
 go_in;go_wp2_with fail;exact bodyPost_ret (v:=.agg #[.slice h I J,.slice Y Z U]) (by simp[results,results158,go_sem]) rfl ⟨rfl,(au _ _).alloc i_ _⟩
def Eq(u v:BY)(W:AT):(Instr.index 244 (.agg #[u,v]) (V ((1:Nat):Int))).run prog W=.ok v W:=by
 simp[Instr.index,go_sem]
def Er(u v:BY)(W:AT):(Instr.index 244 (.agg #[u,v]) (V ((0:Nat):Int))).run prog W=.ok u W:=by
 simp[Instr.index,go_sem]
end
section
open Go.RowKit
structure SV where
 s:St
 ve:BY
 vf:BY
 ke:List Nat
 kf:List Nat
def cH(q:SV):List BY:=[V q.s.kind,sV q.s.name,q.ve,q.vf,V q.s.thn,V q.s.els]
def db(R:List SV):List BY:=R.flatMap cH
def FK(R:List SV):List Nat:=R.flatMap (λq=>q.ke++q.kf)
theorem j2(R:List SV):(db R).length=R.length*6:=by
 induction R with
 | nil=>rfl
 | cons a r ih=>
  have:(db (a::r)).length=6+(db r).length:=by simp[db,cH];omega
  rw[this,ih,l_c];omega
def jE(a b:List SV):db (a++b)=db a++db b:=by simp[db]
theorem j3:∀(R:List SV) (j i:Nat) (hj:j<R.length),i<6->(db R)[j*6+i]? =(cH R[j])[i]?
 | x::l,0,i,_,hi=>by
  have:(cH x).length=6:=rfl
  show(cH x++db l)[0*6+i]? =_;rw[getElem?_append_left o_];simp
 | x::l,j+1,i,hj,hi=>by
  have h7:(cH x).length=6:=rfl;show(cH x++db l)[(j+1)*6+i]? =_;rw[getElem?_append_right o_];have e:(j+1)*6+i-(cH x).length=j*6+i:=o_;rw[e,j3 l j i (Fc hj) hi];simp
def j4(R:List SV)(h:∀q∈R,q.ve.oneCell'=true/\q.vf.oneCell'=true):∀u∈db R,u.oneCell'=true:=by
 intro u I;simp only[db,mem_flatMap]at I;obtain⟨q,J,I⟩:=I;obtain⟨U,h2⟩:=h q J;simp only[cH,mem_cons,not_mem_nil,or_false]at I;rcases I with rfl|rfl|rfl|rfl|rfl|rfl
 ·rfl
 ·rfl
 ·exact U
 ·exact h2
 ·rfl
 ·rfl
def j5:(prog.info? 132).map (λi=>(i.zero,i.size,i.bytes))=some (some (.agg #[V 0,sV ⟨#[]⟩,nV,nV,V 0,V 0]),6,88):=by kernel_rfl
def aw.cell1{w:AT}{v:BY}{I:List Nd}(h:aw w v I):v.oneCell'=true:=by
 obtain⟨a,c,rfl,-⟩:=h;rfl
end
section
open Go.RowKit
variable{ss:List St}
def fU(a:Option Addr)(n cap I J:Nat)(h1:I<=J)(h2:J<=n)(h3:n<=cap)(Y U:Int)(Jb:Y=I)(Z:U=J):∀w:AT,(Instr.slice 95 (.slice a n cap) (some (V Y)) (some (V U)) none).run prog w=.ok (.slice (if cap=I then a else a.map (·.add (I*6))) (J-I) (cap-I)) w:=by
 intro w;have h:=pj a n cap I J h1 h2 h3 w;rw[show((I:Int)+((J-I:Nat):Int))=J by omega]at h;rw[Jb,Z];exact h
def iu(ss:List St):Prop:=∀s∈ss,0<=s.thn/\0<=s.els
def iu.take(h:iu ss)(n:Nat):iu (ss.take n):=λs hs=>h s (mem_of_mem_take hs)
def iu.drop(h:iu ss)(n:Nat):iu (ss.drop n):=λs hs=>h s (GK hs)
theorem sB(n:Nat):∀(v:BY) (ss:List St) (w:AT) (hn:ss.length<=n) (hl:ss.length<=1048576) (hp:iu ss) (hc:aW w v ss),
  Calls prog 127 #[v] w λe w'=>e=rW (.bool (cM ss))/\Bl w w':=by
 induction n with
 | zero=>
  intro v ss w hn hl hp hc;have:ss=[]:=GG o_;subst this;obtain⟨a,Jf,rfl,Jy,Jp,hc⟩:=hc;simp only[l_n]at*;clear hc hp;go_in;go_wp2_with fail;refine wp_loop_rounds 1 ?_;rw[rounds_succ];go_wp2;go_ret;exact⟨rfl,r_⟩
 | succ n ih=>
 intro v ss w hn hl hp hc;obtain⟨IH,HP,HN⟩:=h3 ih hp hc;obtain⟨a,Jf,rfl,Jy,Jp,hc⟩:=hc;have HC:=ah hc;go_in;go_wp2;go_loopw[3] (λi wr=>∃k:Nat,k<=ss.length/\i=V k/\cM ss=cM (ss.drop k)/\Bl w wr) (λi _=>ss.length-(RowKit.intOf i).toNat)
 case atStart=>exact⟨0,y_,rfl,rfl,r_⟩
 case round=>
  obtain⟨k,hk,rfl,Jd,U⟩:=hrel;have HF:=ah Jd;clear Jd;by_cases hlt:k<ss.length
  case neg=>
   go_wp2;go_ret;exact⟨aj (by rw[HF.o,drop_of_length_le o_];rfl),U⟩
  case pos=>
   obtain⟨b,Jh,rfl,hs⟩:=HC o_;obtain⟨ve,vf,⟨c0,c1,c2,c3,c4,c5⟩,he,hf⟩:=(hs.below U) k hlt;have Z:Hid _:=(HF.o.trans (congrArg cM (drop_eq_getElem_cons hlt))).trans (fitB_cons ss[k] (ss.drop (k+1)));have Jg:=HP ss[k] (g_ hlt);obtain⟨a2,k2,rfl,-,-,-⟩:=he;obtain⟨a3,k3,rfl,-,-,-⟩:=hf;generalize hr:ss.drop (k+1)=r at Z;have Jk:r.length+k+1=ss.length:=by rw[<-hr];simp;omega
   generalize ss[k].kind=kI at c0;generalize ss[k].name=nI at c1;generalize ss[k].thn=tI at c4 Z Jg;generalize ss[k].els=lI at c5 Z Jg;generalize ss[k].e.length=n2 at c2;generalize ss[k].f.length=n3 at c3;obtain⟨I,rfl⟩:=Int.eq_ofNat_of_zero_le Jg.1;obtain⟨J,rfl⟩:=Int.eq_ofNat_of_zero_le Jg.2;clear Jg;obtain⟨HR,Jc⟩:=h2 hr Jk;have Ji:Bl w (wr.alloc (.cells #[V kI,sV nI,.slice a2 n2 k2,.slice a3 n3 k3,V I,V J] 132)):=U.alloc U.size _;by_cases q2:(ss.length:Int)-k-1<I
   ·clear Jk;go_wp2;go_ret;exact⟨aj (by have:=Jc.o;rw[Z.o,decide_eq_false o_];rfl),Ji⟩
   by_cases q4:(ss.length:Int)-k-1-I<J
   ·go_wp2;go_ret;exact⟨aj (by have:=Jc.o;rw[Z.o,decide_eq_false o_];rfl),Ji⟩
   have Jw:k+1+I+J<=ss.length:=o_;have Jj:Hid (cM ss=(cM (r.take I)&&(cM ((r.take (I+J)).drop I)&&cM (r.drop (I+J))))):=by
    show _=_;rw[Z.o,decide_eq_true o_];simp
   have Jr:Hid ((ss.take (k+1+I)).drop (k+1)=r.take I):=by
    show _=_;rw[<-HR.o,drop_take];congr 1;omega
   have Jt:Hid ((ss.take (k+1+I+J)).drop (k+1+I)=(r.take (I+J)).drop I):=by
    show _=_;rw[<-HR.o,drop_take,drop_take,drop_drop];congr 1;omega
   have Jq:Hid (ss.drop (k+1+I+J)=r.drop (I+J)):=by
    show _=_;rw[<-HR.o,drop_drop];congr 1;omega
   obtain⟨a5,k5,Jz,Jn⟩:∃a5 k5,(∀w:AT,(Instr.slice 95 (.slice (some ⟨b,Jh,none⟩) ss.length Jf) (some (V ((k:Int)+1))) (some (V ((k:Int)+1+(I:Int)))) none).run prog w=.ok (.slice a5 I k5) w)/\aW w (.slice a5 I k5) (r.take I):=by
    have h:=fU (some ⟨b,Jh,none⟩) ss.length Jf (k+1) (k+1+I) o_ o_ o_ ((k:Int)+1) ((k:Int)+1+(I:Int)) o_ o_;have Y:=HN.o.cut (k+1) (k+1+I) o_ o_;rw[show k+1+I-(k+1)=I by omega]at h Y;rw[Jr.o]at Y;exact⟨_,_,h,Y⟩
   have Ju:=ah Jn;clear Jn Z Jk;go_wp2_with fail;refine(IH.o _ (r.take I) _ (by have:=Jc.o;simp;omega) (by have:=Jc.o;simp;omega) (by rw[<-HR.o];exact(HP.o.drop _).take _) (Ju.o.below Ji)).mono ?_;rintro e w1 ⟨rfl,Jx⟩;have Ja:Below (wr.heap.size+1) (wr.alloc (.cells #[V kI,sV nI,.slice a2 n2 k2,.slice a3 n3 k3,V I,V J] 132)) w1:=Jx.mono i_;have Jo:=U.trans ((ay Ja).mono U.size);obtain⟨x0,x1,x2,x3,x4,x5⟩:=pi Ja;cases hf1:cM (r.take I)
   ·go_wp2;go_ret;exact⟨aj (by rw[Jj.o,hf1];rfl),Jo⟩
   obtain⟨a6,k6,J_,Jl⟩:∃a6 k6,(∀w:AT,(Instr.slice 95 (.slice (some ⟨b,Jh,none⟩) ss.length Jf) (some (V ((k:Int)+1+(I:Int)))) (some (V ((k:Int)+1+(I:Int)+(J:Int)))) none).run prog w=.ok (.slice a6 J k6) w)/\aW w (.slice a6 J k6) ((r.take (I+J)).drop I):=by
    have h:=fU (some ⟨b,Jh,none⟩) ss.length Jf (k+1+I) (k+1+I+J) o_ o_ o_ ((k:Int)+1+(I:Int)) ((k:Int)+1+(I:Int)+(J:Int)) o_ o_;have Y:=HN.o.cut (k+1+I) (k+1+I+J) o_ o_;rw[show k+1+I+J-(k+1+I)=J by omega]at h Y;rw[Jt.o]at Y;exact⟨_,_,h,Y⟩
   have Js:=ah Jl;clear Jl;go_wp2_with fail;refine(IH.o _ ((r.take (I+J)).drop I) _ (by have:=Jc.o;simp;omega) (by have:=Jc.o;simp;omega) (by rw[<-HR.o];exact((HP.o.drop _).take _).drop _) (Js.o.below Jo)).mono ?_;rintro e w2 ⟨rfl,Jv⟩;have Je:=Ja.trans (Jv.mono (by have:=Ja.size;simp at this;omega));have Jm:=U.trans ((ay Je).mono U.size);obtain⟨x0,x1,x2,x3,x4,x5⟩:=pi Je;cases hf2:cM ((r.take (I+J)).drop I)
   ·go_wp2;go_ret;exact⟨aj (by rw[Jj.o,hf1,hf2];rfl),Jm⟩
   go_wp2;go_roundw
   case rel=>exact⟨k+1+I+J,o_,by go_num,by rw[Jj.o,hf1,hf2,Jq.o];rfl,Jm⟩
   case measure=>exact FW
end
section
open Go.RowKit
variable{w w':AT}{ps:List GA}
def uj(w:AT)(b off:Nat)(ps:List GA):Prop:=∀j (h:j<ps.length),w.cell? ⟨b,off+j,none⟩=some (sV ps[j])
def uj.below{b off:Nat}(h:uj w b off ps)(J:Bl w w'):uj w' b off ps:=by
 intro j I;have c:=h j I;exact(J.cell (b_ c)).trans c
def a_(w:AT)(v:BY)(ps:List GA):Prop:=∃a cap,v=.slice a ps.length cap/\ps.length<=cap/\cap<=9223372036854775807/\(0<ps.length->∃b off,a=some ⟨b,off,none⟩/\uj w b off ps)
def a_.below{v:BY}(h:a_ w v ps)(hb:Bl w w'):a_ w' v ps:=by
 obtain⟨a,Y,rfl,J,I,h⟩:=h;refine⟨a,Y,rfl,J,I,λh0=>?_⟩;obtain⟨b,U,rfl,Z⟩:=h h0;exact⟨b,U,rfl,Z.below hb⟩
def vS(f:Fu)(vp vb:BY)(w:AT)(hT:dq w)(hf:eX f)(hp:a_ w vp f.params)(hb:aW w vb f.body):
  Calls prog 135 #[.agg #[sV f.name,vp,vb]] w λe w'=>e=rW (.bool (cQ f))/\Bl w w':=by
 obtain⟨name,ps,ss⟩:=f;simp only at hp hb⊢;obtain⟨HP,HS,HT,HF⟩:=h4 hp hb hT hf;have Ju:ps.length<=1048576:=HF.o.1;have Jl:ss.length<=1048576:=HF.o.2.1;obtain⟨ap,cp,rfl,-,-,Jp⟩:=hp;obtain⟨ab,cb,rfl,-,-,Jj⟩:=hb;obtain⟨Jk,Js⟩:=h2 Jp Jj;go_in;go_wp2_with fail;refine(iR _ _).mono ?_;rintro e w1 ⟨rfl,Jf⟩;simp only[Bl,GO]at Jf;have Jh:=ay Jf;obtain⟨x0,x1,x2⟩:=lT Jf;cases hn:aY name
 ·go_wp2;go_ret;exact⟨aj (by simp only[cQ,hn,Bool.false_and]),Jh⟩
 by_cases h6:6<ps.length
 ·go_wp2;go_ret;exact⟨aj (by simp only[cQ,hn,decide_eq_false (show ¬ps.length<=6 by omega),Bool.false_and,Bool.and_false]),Jh⟩
 by_cases h5:500<ss.length
 ·go_wp2;go_ret;exact⟨aj (by simp only[cQ,hn,decide_eq_false (show ¬ss.length<=500 by omega),Bool.false_and,Bool.and_false]),Jh⟩
 have Je:Hid (cQ ⟨name,ps,ss⟩=(ps.all aY&&(stmtsB stmtB ss&&cM ss))):=by
  show _=_;simp only[cQ,hn,decide_eq_true (show ps.length<=6 by omega),decide_eq_true (show ss.length<=500 by omega),Bool.true_and]
 go_wp2;go_loopw[27] (λi wr=>∃k:Nat,k<=ps.length/\i=V k/\(∀s∈ps.take k,aY s=true)/\Below (w.heap.size+1) (w.alloc (.cells #[sV name,.slice ap ps.length cp,.slice ab ss.length cb] 97)) wr) (λi _=>ps.length-(RowKit.intOf i).toNat)
 case atStart=>exact⟨0,y_,rfl,i_,Jf⟩
 case round=>
  obtain⟨k,hk,rfl,hg,I⟩:=hrel;have U:=ah hg;have h:=ay I;by_cases hlt:k<ps.length
  ·obtain⟨b,Jo,rfl,hc⟩:=Jk o_;have d0:=(hc.below h) k hlt;have HE:Hid (ps.take (k+1)=ps.take k++[ps[k]]):=aR ps k hlt;have HX:Hid (aY ps[k]=false->ps.all aY=false):=tJ hlt;generalize ps[k]=s at d0 HE HX;go_wp2_with fail;refine(iR _ _).mono ?_;rintro e w2 ⟨rfl,Z⟩;have Y:=I.trans (Z.mono (by have:=I.size;simp at this;omega));cases hv:aY s
   ·go_wp2;go_ret;exact⟨aj (by rw[Je.o,HX.o hv];rfl),ay Y⟩
   ·go_wp2;go_roundw
    case rel=>
     refine⟨k+1,o_,by go_num,λm hm=>?_,Y⟩;rw[HE.o]at hm;rcases GJ.1 hm with hm|hm
     ·exact U m hm
     ·rw[GM.1 hm];exact hv
    case measure=>exact FW
  ·have HA:Hid (ps.all aY=true):=by
    show _=_;rw[all_eq_true];have:=U.o;rw[take_of_length_le o_]at this;exact this
   obtain⟨x0,x1,x2⟩:=lT I;go_wp2;go_loopw[5,38] (λq i wr=>∃k:Nat,k<=ss.length/\i=V k/\q=V (aZ (ss.take k):Nat)/\aZ (ss.take k)<=2000/\(∀s∈ss.take k,stmtB s=true)/\Below (w.heap.size+1) (w.alloc (.cells #[sV name,.slice ap ps.length cp,.slice ab ss.length cb] 97)) wr) (λ_ i _=>ss.length-(RowKit.intOf i).toNat)
   case atStart=>exact⟨0,y_,rfl,rfl,by simp[aZ],i_,I⟩
   case round=>
    obtain⟨k,hk,rfl,rfl,hq,hg,I⟩:=hrel;have U:=ah hg;have h:=ay I;by_cases hlt:k<ss.length
    ·obtain⟨b,Jo,rfl,hc⟩:=Js o_;obtain⟨ve,vf,⟨c0,c1,c2,c3,c4,c5⟩,he,hf⟩:=(hc.below h) k hlt;have HE:Hid (ss.take (k+1)=ss.take k++[ss[k]]):=aR ss k hlt;have HX:Hid (stmtB ss[k]=false->stmtsB stmtB ss=false):=lB hlt;have J:Hid _:=jr ss k hlt;have HY:Hid (2000<aZ (ss.take (k+1))->stmtsB stmtB ss=false):=lA;have Ji:=HF.o.2.2 ss[k] (g_ hlt);generalize ss[k]=s at c0 c1 c2 c3 c4 c5 he hf HE HX J Ji;generalize aZ (ss.take k)=q at hq J;obtain⟨Jm,Jq⟩:=h2 he hf;obtain⟨a2,k2,rfl,-,-,-⟩:=he;obtain⟨a3,k3,rfl,-,-,-⟩:=hf;have Jn:=Ji.1;have Jr:=Ji.2;by_cases hs:2000<q+(s.e.length+s.f.length)
     ·go_wp2;go_ret;exact⟨aj (by rw[Je.o,HY.o (by rw[J.o];omega)];simp),h.alloc h.size _⟩
     ·have Jb:Bl wr (wr.alloc (.cells #[V s.kind,sV s.name,.slice a2 s.e.length k2,.slice a3 s.f.length k3,V s.thn,V s.els] 132)):=au _ _;go_wp2_with fail;refine(vK s _ _ _ ((HT.o.below HT.o.size h).below (HT.o.below HT.o.size h).size Jb) Jn Jr (Jm.o.below Jb) (Jq.o.below Jb)).mono ?_;rintro e w2 ⟨rfl,Z⟩;have Jg:=Jb.trans (Z.mono Jb.size);have Y:=I.trans (Jg.mono (by have:=I.size;simp at this;omega));cases hv:stmtB s
      ·go_wp2;go_ret;exact⟨aj (by rw[Je.o,HX.o hv];simp),ay Y⟩
      ·go_wp2;go_roundw
       case rel=>
        refine⟨k+1,o_,by go_num,?_,by rw[J.o];omega,λm hm=>?_,Y⟩
        ·rw[J.o];congr 1;omega
        ·rw[HE.o]at hm;rcases GJ.1 hm with hm|hm
         ·exact U m hm
         ·rw[GM.1 hm];exact hv
       case measure=>exact FW
    ·have Jt:Hid (stmtsB stmtB ss=true):=by
      show _=_;have h1:=U;rw[take_of_length_le o_]at h1 hq;exact mW hq h1
     obtain⟨x0,x1,x2⟩:=lT I;go_wp2_with fail;refine(Bm ss.length _ ss _ n_ Jl (HS.o.below h)).mono ?_;rintro e w2 ⟨rfl,Z⟩;go_wp2;go_ret;exact⟨aj (by rw[Je.o,HA.o,Jt.o];rfl),h.trans (Z.mono h.size)⟩
end
section
open Go.RowKit
def vT(f:Fu)(vp vb:BY)(w:AT)(hf:eX f)(hp:a_ w vp f.params)(hb:aW w vb f.body):
  Calls prog 88 #[.agg #[sV f.name,vp,vb]] w λe w'=>e=rW (.bool (cQ f))/\Bl w w':=by
 obtain⟨name,ps,ss⟩:=f;simp only at hp hb⊢;obtain⟨HP,HS,HF⟩:=h3 hp hb hf;have Ju:ps.length<=1048576:=HF.o.1;have Jn:ss.length<=1048576:=HF.o.2.1;obtain⟨ap,cp,rfl,-,-,Jp⟩:=hp;obtain⟨ab,Z,rfl,-,-,Jl⟩:=hb;obtain⟨Jm,Jr⟩:=h2 Jp Jl;go_in;go_wp2_with fail;refine(cj _ _).mono ?_;rintro e w1 ⟨rfl,rfl⟩;have Jh:Below (w.heap.size+1) (w.alloc (.cells #[sV name,.slice ap ps.length cp,.slice ab ss.length Z] 97)) (w.alloc (.cells #[sV name,.slice ap ps.length cp,.slice ab ss.length Z] 97)):=r_;have Jd:=ay Jh;obtain⟨x0,x1,x2⟩:=lT Jh;cases hn:aY name
 ·go_wp2;go_ret;exact⟨aj (by simp only[cQ,hn,Bool.false_and]),Jd⟩
 by_cases h6:6<ps.length
 ·go_wp2;go_ret;exact⟨aj (by simp only[cQ,hn,decide_eq_false (show ¬ps.length<=6 by omega),Bool.false_and,Bool.and_false]),Jd⟩
 by_cases h5:500<ss.length
 ·go_wp2;go_ret;exact⟨aj (by simp only[cQ,hn,decide_eq_false (show ¬ss.length<=500 by omega),Bool.false_and,Bool.and_false]),Jd⟩
 have Jc:Hid (cQ ⟨name,ps,ss⟩=(ps.all aY&&(stmtsB bh ss&&cM ss))):=by
  show _=_;rw[rN];simp only[cQ,hn,decide_eq_true (show ps.length<=6 by omega),decide_eq_true (show ss.length<=500 by omega),Bool.true_and]
 go_wp2;go_loopw[3] (λi wr=>∃k:Nat,k<=ps.length/\i=V k/\(∀s∈ps.take k,aY s=true)/\Below (w.heap.size+1) (w.alloc (.cells #[sV name,.slice ap ps.length cp,.slice ab ss.length Z] 97)) wr) (λi _=>ps.length-(RowKit.intOf i).toNat)
 case atStart=>exact⟨0,y_,rfl,i_,Jh⟩
 case round=>
  obtain⟨k,hk,rfl,hg,h⟩:=hrel;have I:=ah hg;have J:=ay h;by_cases hlt:k<ps.length
  ·obtain⟨b,Jk,rfl,hc⟩:=Jm o_;have d0:=(hc.below J) k hlt;have HE:Hid (ps.take (k+1)=ps.take k++[ps[k]]):=aR ps k hlt;have HX:Hid (aY ps[k]=false->ps.all aY=false):=tJ hlt;generalize ps[k]=s at d0 HE HX;obtain⟨x0,x1,x2⟩:=lT h;have Jb:=h;cases hv:aY s
   ·go_wp2_with(go_at_call 87;refine(cj _ _).mono ?_;rintro e w' ⟨rfl,rfl⟩;rw[hv])
    go_ret;exact⟨aj (by rw[Jc.o,HX.o hv];rfl),ay Jb⟩
   ·go_wp2_with(go_at_call 87;refine(cj _ _).mono ?_;rintro e w' ⟨rfl,rfl⟩;rw[hv])
    go_roundw
    case rel=>
     refine⟨k+1,o_,by go_num,λm hm=>?_,Jb⟩;rw[HE.o]at hm;rcases GJ.1 hm with hm|hm
     ·exact I m hm
     ·rw[GM.1 hm];exact hv
    case measure=>exact FW
  ·have HA:Hid (ps.all aY=true):=by
    show _=_;rw[all_eq_true];have:=I.o;rw[take_of_length_le o_]at this;exact this
   obtain⟨x0,x1,x2⟩:=lT h;go_wp2;go_loopw[4,5] (λq i wr=>∃k:Nat,k<=ss.length/\i=V k/\q=V (aZ (ss.take k):Nat)/\aZ (ss.take k)<=2000/\(∀s∈ss.take k,bh s=true)/\Below (w.heap.size+1) (w.alloc (.cells #[sV name,.slice ap ps.length cp,.slice ab ss.length Z] 97)) wr) (λ_ i _=>ss.length-(RowKit.intOf i).toNat)
   case atStart=>exact⟨0,y_,rfl,rfl,by simp[aZ],i_,h⟩
   case round=>
    obtain⟨k,hk,rfl,rfl,hq,hg,h⟩:=hrel;have I:=ah hg;have J:=ay h;by_cases hlt:k<ss.length
    ·obtain⟨b,Jk,rfl,hc⟩:=Jr o_;obtain⟨ve,vf,⟨c0,c1,c2,c3,c4,c5⟩,he,hf⟩:=(hc.below J) k hlt;have HE:Hid (ss.take (k+1)=ss.take k++[ss[k]]):=aR ss k hlt;have HX:Hid (bh ss[k]=false->stmtsB bh ss=false):=lB hlt;have U:Hid _:=jr ss k hlt;have HY:Hid (2000<aZ (ss.take (k+1))->stmtsB bh ss=false):=lA;have Jf:=HF.o.2.2 ss[k] (g_ hlt);generalize ss[k]=s at c0 c1 c2 c3 c4 c5 he hf HE HX U Jf;generalize aZ (ss.take k)=q at hq U;obtain⟨Jo,Jq⟩:=h2 he hf;obtain⟨a2,k2,rfl,-,-,-⟩:=he;obtain⟨a3,k3,rfl,-,-,-⟩:=hf;have Jv:=Jf.1;have Jw:=Jf.2;obtain⟨x0,x1,x2⟩:=lT h;go_wp2_with fail;go_quiet (fail)
     have Je:Below (w.heap.size+1) (w.alloc (.cells #[sV name,.slice ap ps.length cp,.slice (some ⟨b,Jk,none⟩) ss.length Z] 97)) (wr.drewN nq):=below_drewN h nq;have Ji:=ay Je;have Jj:Bl wr (wr.drewN nq):=below_drewN r_ nq;by_cases hs:2000<q+s.e.length+s.f.length
     ·go_wp2;go_ret;exact⟨aj (by rw[Jc.o,HY.o (by rw[U.o];omega)];simp),Ji⟩
     ·go_wp2_with fail;refine(vR s _ _ _ o_ o_ (Jo.o.below Jj) (Jq.o.below Jj)).mono ?_;rintro e w2 ⟨rfl,Jg⟩;have Jb:=Je.trans (Jg.mono (by have:=Je.size;simp at this;simp;omega));cases hv:bh s
      ·go_wp2;go_ret;exact⟨aj (by rw[Jc.o,HX.o hv];simp),ay Jb⟩
      ·go_wp2;go_roundw
       case rel=>
        refine⟨k+1,o_,by go_num,?_,by rw[U.o];omega,λm hm=>?_,Jb⟩
        ·rw[U.o];congr 1
        ·rw[HE.o]at hm;rcases GJ.1 hm with hm|hm
         ·exact I m hm
         ·rw[GM.1 hm];exact hv
       case measure=>exact FW
    ·have Js:Hid (stmtsB bh ss=true):=by
      show _=_;have Y:=I;rw[take_of_length_le o_]at Y hq;exact mW hq Y
     have Jt:Hid (iu ss):=by
      have Y:=I;rw[take_of_length_le o_]at Y;exact mK Y
     obtain⟨x0,x1,x2⟩:=lT h;go_wp2_with fail;refine(sB ss.length _ ss _ n_ Jn Jt (HS.o.below J)).mono ?_;rintro e w2 ⟨rfl,Jg⟩;go_wp2;go_ret;exact⟨aj (by rw[Jc.o,HA.o,Js.o];rfl),J.trans (Jg.mono J.size)⟩
end
section
open Go.RowKit
variable{w w':AT}{b off:Nat}{gs:List Gl}{v:BY}{fs:List Fu}
def po(w:AT)(b off:Nat)(gs:List Gl):Prop:=∀j (h:j<gs.length),w.cell? ⟨b,off+j*2,none⟩=some (sV gs[j].name)/\w.cell? ⟨b,off+j*2+1,none⟩=some (V gs[j].size)
def po.below(h:po w b off gs)(U:Bl w w'):po w' b off gs:=by
 intro j Y;obtain⟨I,Z⟩:=h j Y;have J:=b_ I;exact⟨(U.cell (p:=⟨b,off+j*2,none⟩) J).trans I,(U.cell (p:=⟨b,off+j*2+1,none⟩) J).trans Z⟩
def cK(w:AT)(v:BY)(gs:List Gl):Prop:=∃a cap,v=.slice a gs.length cap/\gs.length<=cap/\cap<=9223372036854775807/\(0<gs.length->∃b off,a=some ⟨b,off,none⟩/\po w b off gs)
def cK.below(h:cK w v gs)(hb:Bl w w'):cK w' v gs:=by
 obtain⟨a,Y,rfl,J,I,h⟩:=h;refine⟨a,Y,rfl,J,I,λh0=>?_⟩;obtain⟨b,U,rfl,Z⟩:=h h0;exact⟨b,U,rfl,Z.below hb⟩
def pq(w:AT)(b off:Nat)(fs:List Fu):Prop:=∀j (h:j<fs.length),∃vp vb,(w.cell? ⟨b,off+j*3,none⟩=some (sV fs[j].name)/\w.cell? ⟨b,off+j*3+1,none⟩=some vp/\w.cell? ⟨b,off+j*3+2,none⟩=some vb)/\a_ w vp fs[j].params/\aW w vb fs[j].body
def pq.below(h:pq w b off fs)(I:Bl w w'):pq w' b off fs:=by
 intro j hj;obtain⟨vp,vb,⟨U,c1,Y⟩,Z,hs⟩:=h j hj;have J:=b_ U;exact⟨vp,vb,⟨(I.cell (p:=⟨b,off+j*3,none⟩) J).trans U,(I.cell (p:=⟨b,off+j*3+1,none⟩) J).trans c1,(I.cell (p:=⟨b,off+j*3+2,none⟩) J).trans Y⟩,Z.below I,hs.below I⟩
def bC(w:AT)(v:BY)(fs:List Fu):Prop:=∃a cap,v=.slice a fs.length cap/\fs.length<=cap/\cap<=9223372036854775807/\(0<fs.length->∃b off,a=some ⟨b,off,none⟩/\pq w b off fs)
def bC.below(h:bC w v fs)(hb:Bl w w'):bC w' v fs:=by
 obtain⟨a,Y,rfl,J,I,h⟩:=h;refine⟨a,Y,rfl,J,I,λh0=>?_⟩;obtain⟨b,U,rfl,Z⟩:=h h0;exact⟨b,U,rfl,Z.below hb⟩
def iy{t:GC}{x y:BY}(h:Below (w.heap.size+1) (w.alloc (.cells #[x,y] t)) w'):
  w'.cell? ⟨w.heap.size,0,none⟩=some x/\w'.cell? ⟨w.heap.size,1,none⟩=some y:=by
 refine⟨?_,?_⟩ <;> (rw[h.cell i_];simp)
def vU(g:Gl)(w:AT):Calls prog 134 #[.agg #[sV g.name,V g.size]] w λe w'=>e=rW (.bool (cY g))/\Bl w w':=by
 obtain⟨s,z⟩:=g;simp only;go_in;go_wp2_with fail;refine(iR _ _).mono ?_;rintro e w1 ⟨rfl,I⟩;simp only[Bl,GO]at I;have h:=ay I;obtain⟨J,U⟩:=iy I;cases hn:aY s
 ·go_wp2;go_ret;exact⟨aj (by simp only[cY,hn,Bool.false_and]),h⟩
 by_cases h0:z<0
 ·go_wp2;go_ret;exact⟨aj (by simp only[cY,hn];simp;omega),h⟩
 ·go_wp2;go_ret;refine⟨aj ?_,h⟩;simp only[cY,hn,Bool.true_and];apply Bool.eq_iff_iff.2;simp <;> omega
def vW(t:Tr)(vg vf:BY)(w:AT)(hT:dq w)(ht:eZ t)(J:cK w vg t.globals)(hf:bC w vf t.funcs):
  Calls prog 103 #[.agg #[vg,vf]] w λe w'=>e=rW (.bool (df t))/\Bl w w':=by
 obtain⟨gs,fs⟩:=t;simp only at J hf⊢;obtain⟨HT,HS⟩:=h2 hT ht;have Jo:gs.length<=1048576:=HS.o.1;have Jn:fs.length<=1048576:=HS.o.2.1;obtain⟨ag,cg,rfl,-,-,Jk⟩:=J;obtain⟨af,cf,rfl,-,-,Ji⟩:=hf;obtain⟨Jm,Jl⟩:=h2 Jk Ji;by_cases h5:50<gs.length
 ·go_in;go_wp2;go_ret;exact⟨aj (by simp only[df,decide_eq_false (show ¬gs.length<=50 by omega),Bool.false_and]),r_.alloc n_ _⟩
 by_cases h6:50<fs.length
 ·go_in;go_wp2;go_ret;exact⟨aj (by simp only[df,decide_eq_false (show ¬fs.length<=50 by omega),Bool.false_and,Bool.and_false]),r_.alloc n_ _⟩
 have Jd:Hid (df ⟨gs,fs⟩=(gs.all cY&&fs.all cQ)):=by
  show _=_;simp only[df,decide_eq_true (show gs.length<=50 by omega),decide_eq_true (show fs.length<=50 by omega),Bool.true_and]
 go_in;go_wp2;go_loopw[20] (λi wr=>∃k:Nat,k<=gs.length/\i=V k/\(∀g∈gs.take k,cY g=true)/\Below (w.heap.size+1) (w.alloc (.cells #[.slice ag gs.length cg,.slice af fs.length cf] 34)) wr) (λi _=>gs.length-(RowKit.intOf i).toNat)
 case atStart=>exact⟨0,y_,rfl,i_,r_⟩
 case round=>
  obtain⟨k,hk,rfl,J,h⟩:=hrel;have U:=ah J;have I:=ay h;by_cases hlt:k<gs.length
  ·obtain⟨b,Jh,rfl,hc⟩:=Jm o_;obtain⟨d0,d1⟩:=(hc.below I) k hlt;have HE:Hid (gs.take (k+1)=gs.take k++[gs[k]]):=aR gs k hlt;have HX:Hid (cY gs[k]=false->gs.all cY=false):=pZ hlt;generalize gs[k]=g at d0 d1 HE HX;go_wp2_with fail;refine(vU g _).mono ?_;rintro e w2 ⟨rfl,Jf⟩;have Y:=(h.alloc (by have:=h.size;simp at this;omega) (.cells #[sV g.name,V g.size] 63)).trans (Jf.mono (by have:=h.size;simp at this;simp;omega));cases hv:cY g
   ·go_wp2;go_ret;exact⟨aj (by rw[Jd.o,HX.o hv];rfl),ay Y⟩
   ·go_wp2;go_roundw
    case rel=>
     refine⟨k+1,o_,by go_num,λm hm=>?_,Y⟩;rw[HE.o]at hm;rcases GJ.1 hm with hm|hm
     ·exact U m hm
     ·rw[GM.1 hm];exact hv
    case measure=>exact FW
  ·have HA:Hid (gs.all cY=true):=by
    show _=_;rw[all_eq_true];have:=U.o;rw[take_of_length_le o_]at this;exact this
   obtain⟨x0,x1⟩:=iy h;go_wp2;go_loopw[31] (λi wr=>∃k:Nat,k<=fs.length/\i=V k/\(∀f∈fs.take k,cQ f=true)/\Below (w.heap.size+1) (w.alloc (.cells #[.slice ag gs.length cg,.slice af fs.length cf] 34)) wr) (λi _=>fs.length-(RowKit.intOf i).toNat)
   case atStart=>exact⟨0,y_,rfl,i_,h⟩
   case round=>
    obtain⟨k,hk,rfl,J,h⟩:=hrel;have U:=ah J;have I:=ay h;by_cases hlt:k<fs.length
    ·obtain⟨b,Jh,rfl,hc⟩:=Jl o_;obtain⟨vp,vb,⟨d0,d1,d2⟩,hp,hs⟩:=(hc.below I) k hlt;have HE:Hid (fs.take (k+1)=fs.take k++[fs[k]]):=aR fs k hlt;have HX:Hid (cQ fs[k]=false->fs.all cQ=false):=p_ hlt;have Jg:Hid (eX fs[k]):=HS.o.2.2 fs[k] (g_ hlt);generalize fs[k]=f at d0 d1 d2 HE HX Jg hp hs;obtain⟨HP,HB⟩:=h2 hp hs;obtain⟨a2,k2,rfl,-,-,-⟩:=hp;obtain⟨a3,k3,rfl,-,-,-⟩:=hs;have Z:Bl wr (wr.alloc (.cells #[sV f.name,.slice a2 f.params.length k2,.slice a3 f.body.length k3] 97)):=au _ _;go_wp2_with fail;refine(vS f _ _ _ ((HT.o.below HT.o.size I).below (HT.o.below HT.o.size I).size Z) Jg (HP.o.below Z) (HB.o.below Z)).mono ?_;rintro e w2 ⟨rfl,Jf⟩;have Je:=Z.trans (Jf.mono Z.size);have Y:=h.trans (Je.mono (by have:=h.size;simp at this;omega));cases hv:cQ f
     ·go_wp2;go_ret;exact⟨aj (by rw[Jd.o,HX.o hv];simp),ay Y⟩
     ·go_wp2;go_roundw
      case rel=>
       refine⟨k+1,o_,by go_num,λm hm=>?_,Y⟩;rw[HE.o]at hm;rcases GJ.1 hm with hm|hm
       ·exact U m hm
       ·rw[GM.1 hm];exact hv
      case measure=>exact FW
    ·have Jj:Hid (fs.all cQ=true):=by
      show _=_;rw[all_eq_true];have:=U.o;rw[take_of_length_le o_]at this;exact this
     go_wp2;go_ret;exact⟨aj (by rw[Jd.o,HA.o,Jj.o];rfl),I⟩
end
section
open Go.RowKit
variable{w:AT}{v:BY}{us:List GA}{B:Nat}
def gy:(prog.info? 9).map (λi=>(i.zero,i.size,i.bytes))=some (some (sV ⟨#[]⟩),1,16):=by kernel_rfl
def qz(w:AT)(v:BY)(us:List GA):Prop:=∃a cap,v=.slice a us.length cap/\(a=none->us=[])/\∀ad,a=some ad->∀j u,(us.map Value.string)[j]? =some u->w.cell? (ad.add j)=some u
def iV(b o j:Nat):(⟨b,o,none⟩:Addr).add j=⟨b,o+j,none⟩:=by simp only[Addr.add];split <;> simp_all
theorem a_.src(h:a_ w v us):qz w v us:=by
 obtain⟨a,J,rfl,-,-,h⟩:=h;by_cases hp:0<us.length
 ·obtain⟨b,Z,rfl,Y⟩:=h hp;refine⟨_,J,rfl,(λh=>by cases h),λad had j u hj=>?_⟩;obtain rfl:=Option.some.inj had;have I:j<us.length:=by
   have:=(List.getElem?_eq_some_iff.1 hj).1
   simpa using this
  have e:u=sV us[j]:=by simpa[I]using hj.symm
  rw[iV,e];exact Y j I
 ·have U:us=[]:=List.eq_nil_of_length_eq_zero o_;subst U;exact⟨a,J,rfl,λ_=>rfl,λad _ j u hj=>by simp at hj⟩
theorem sC(w:World)(x:ByteArray)(t:TypeId):qz (w.alloc (.cells #[sV x] t)) (rV w.heap.size 1 1) [x]:=by
 refine⟨_,1,rfl,(λh=>by cases h),λad h j u hj=>?_⟩;obtain rfl:=Option.some.inj h;have I:j=0:=by
  have:=(List.getElem?_eq_some_iff.1 hj).1
  simp at this;omega
 subst I;simp at hj;rw[iV,<-hj];simp
def dI(B:Nat)(w:AT)(v:BY)(us:List GA):Prop:=w.ownsRow B 9 1 v us.length (us.map (Value.string))
def dI.shape(h:dI B w v us):∃a c,v=.slice a us.length c:=by
 rcases h.2 with⟨rfl,J⟩|⟨g,I,U,rfl,_⟩
 ·exact⟨none,0,by rw[J]⟩
 ·exact⟨_,I,rfl⟩
def dI.below{w':AT}(h:dI B w v us)(hb:Bl w w'):dI B w' v us:=by
 obtain⟨Y,I⟩:=h;refine⟨Y,?_⟩;rcases I with I|⟨g,Jb,Z,rfl,g3,J,U⟩
 ·exact .inl I
 ·refine .inr ⟨g,Jb,Z,rfl,g3,?_,U⟩;rw[hb.block g (Array.getElem?_eq_some_iff.1 J).1];exact J
def jF(W:AT)(B:Nat)(hB:B<=W.heap.size):dI B (W.alloc (.cells #[] 9)) (rV W.heap.size 0 0) []:=ownsRow_lit W #[] 0 hB d_ rfl
theorem yR(base:Nat)(U:GC)(v:BY)(h:List GA)(J:dI base w v h)(x:BY)(us:List GA)(hx:qz w x us)(hm:h.length+us.length<=10000000)(Jb:base<=w.heap.size):
  ∃v' w',(Builtin.append_ #[94,94] U #[v,x]).run prog w=.ok v' w'/\dI base w' v' (h++us)/\w.grownBy w' v.ownBlock/\∀k,v'.ownBlock=some k->v.ownBlock=some k∨w.heap.size<=k:=by
 obtain⟨i0,I,Jd,Jf,Jg⟩:=info_parts gy;obtain⟨a,Y,rfl,h2,h3⟩:=hx;cases a with
 | none=>
  obtain rfl:=h2 rfl;have hr:(Builtin.append_ #[94,94] U #[v,.slice none ([]:List GA).length Y]).run prog w=.ok v w:=by
   rcases J.2 with⟨rfl,hn⟩|⟨g,Je,Ji,rfl,_,_,Jh,_⟩
   ·simp[Builtin.append_,run_underlying underlying94,sizeOf,typeInfo,I,Builtin.lenOf,Builtin.firstCells]
   ·simp[Builtin.append_,run_underlying underlying94,sizeOf,typeInfo,I,Builtin.lenOf,Builtin.firstCells,Jh,storeCells]
  exact⟨v,w,hr,Fc J,⟨rfl,rfl,rfl,n_,λ_ _ _=>rfl⟩,λk hk=>.inl hk⟩
 | some ad=>
  obtain⟨v',w',r1,r2,r3,r4⟩:=fM (P:=prog) (w:=w) base 94 U 9 i0 _ 1 16 underlying94 I Jd Jf Jg rfl d_ v h.length (h.map (Value.string)) J ad us.length Y (us.map (Value.string)) i_ (h3 ad rfl) (by intro u Z;simp at Z;obtain⟨y,_,rfl⟩:=Z;rfl) hm d_ Jb;refine⟨v',w',r1,?_,r3,r4⟩;unfold dI;rw[l_a,map_append];exact r2
def bH{ops:Array Oper}{o:Oper}{a:Act}{K:Act->AT->Prop}{Q:Exit->Act->AT->Prop}{E:Prop}(Z:o.guard=none)(s x:Operand)
  (ho:o.op=.call {callee:=.builtin .append,args:=#[s,x],argTypes:=#[94,94]})
  (base:Nat) (v:BY) (I:List GA) (hs:a.eval s=v) (Jb:dI base w v I) (J:BY) (us:List GA) (Jd:a.eval x=J) (hx:qz w J us)
  (hm:I.length+us.length<=10000000) (Ja:base<=w.heap.size)
  (h:∀v' w',dI base w' v' (I++us)->w.grownBy w' v.ownBlock->(∀k,v'.ownBlock=some k->v.ownBlock=some k∨w.heap.size<=k)->K (a.put o.dst v') w'):
  if Region.wanted o (yielded ops a.tmps)=true then Oper.wp prog o a w K Q else E:=by
 have U:Region.wanted o (yielded ops a.tmps)=true:=by simp[Region.wanted,Z]
 rw[if_pos U];obtain⟨v',w',Y,h2,h3,h4⟩:=yR (w:=w) base o.type v I Jb J us hx hm Ja;unfold Oper.wp execOp;simp only[ho,resolve,invoke,builtin,Sem.run_bind,Sem.run_pure,Result.andThen_ok,map_toArray,map_cons,map_nil,hs,Jd,Y];exact h v' w' h2 h3 h4
def dI.strs(h:dI B w v us)(hm:us.length<=10000000):a_ w v us:=by
 have U:=h;rcases h.2 with⟨rfl,Y⟩|⟨g,I,Jc,rfl,Jd,hh,J,Z,Jg,Je⟩
 ·exact⟨none,0,by rw[Y],o_,o_,λh=>absurd h o_⟩
 ·refine⟨_,I,rfl,?_,?_,λ_=>⟨g,0,rfl,λj hj=>?_⟩⟩
  ·first|omega|exact J
  ·first|omega|(unfold maxLen at*;omega)
  ·have:=ownsRow.cells U (g:=g) rfl j (sV us[j]) (by simp[hj])
   rw[iV]at this;exact this
end
section
open Go.RowKit
def vX(t:Tr)(vg vf:BY)(w:AT)(ht:eZ t)(U:cK w vg t.globals)(hf:bC w vf t.funcs):
  Calls prog 54 #[.agg #[vg,vf]] w λe w'=>e=rW (.bool (df t))/\Bl w w':=by
 obtain⟨gs,fs⟩:=t;simp only at U hf⊢;have HS:=ah ht;have Jo:gs.length<=1048576:=HS.o.1;have Jn:fs.length<=1048576:=HS.o.2.1;obtain⟨ag,cg,rfl,-,-,Jk⟩:=U;obtain⟨af,cf,rfl,-,-,Jh⟩:=hf;obtain⟨Jm,Jl⟩:=h2 Jk Jh;by_cases h5:50<gs.length
 ·go_in;go_wp2;go_ret;exact⟨aj (by simp only[df,decide_eq_false (show ¬gs.length<=50 by omega),Bool.false_and]),r_.alloc n_ _⟩
 by_cases h6:50<fs.length
 ·go_in;go_wp2;go_ret;exact⟨aj (by simp only[df,decide_eq_false (show ¬fs.length<=50 by omega),Bool.false_and,Bool.and_false]),r_.alloc n_ _⟩
 have Jb:Hid (df ⟨gs,fs⟩=(gs.all cY&&fs.all cQ)):=by
  show _=_;simp only[df,decide_eq_true (show gs.length<=50 by omega),decide_eq_true (show fs.length<=50 by omega),Bool.true_and]
 go_in;go_wp2;go_loopw[3] (λi wr=>∃k:Nat,k<=gs.length/\i=V k/\(∀g∈gs.take k,cY g=true)/\Below (w.heap.size+1) (w.alloc (.cells #[.slice ag gs.length cg,.slice af fs.length cf] 34)) wr) (λi _=>gs.length-(RowKit.intOf i).toNat)
 case atStart=>exact⟨0,y_,rfl,i_,r_⟩
 case round=>
  obtain⟨k,hk,rfl,U,h⟩:=hrel;have Y:=ah U;have I:=ay h;by_cases hlt:k<gs.length
  ·obtain⟨b,Jg,rfl,hc⟩:=Jm o_;obtain⟨d0,d1⟩:=(hc.below I) k hlt;have HE:Hid (gs.take (k+1)=gs.take k++[gs[k]]):=aR gs k hlt;have J:Hid (cY gs[k]=false->gs.all cY=false):=pZ hlt;generalize gs[k]=g at d0 d1 HE J;obtain⟨x0,x1⟩:=iy h;obtain⟨s,z⟩:=g;simp only at d0 d1;cases hv:aY s
   ·have Jd:cY ⟨s,z⟩=false:=by simp only[cY,hv,Bool.false_and]
    have Z:=ah Jd;go_wp2_with(go_at_call 87;refine(cj _ _).mono ?_;rintro e w' ⟨rfl,rfl⟩;rw[hv]);go_ret;exact⟨aj (by rw[Jb.o,J.o Z.o];rfl),I⟩
   cases hz:decide (0<=z/\z<=4000)
   ·have Jd:cY ⟨s,z⟩=false:=by simp only[cY,hv,hz,Bool.and_false]
    obtain⟨Z,HZ⟩:=h2 Jd hz;go_wp2_with(first|(go_at_call 87;refine(cj _ _).mono ?_;rintro e w' ⟨rfl,rfl⟩;rw[hv])|(go_at_call 30;refine(dx _ _ _ _).mono ?_;rintro e w' ⟨rfl,rfl⟩;rw[HZ.o]));go_ret;exact⟨aj (by rw[Jb.o,J.o Z.o];rfl),I⟩
   ·have Z:Hid (cY ⟨s,z⟩=true):=by
     show _=_;simp only[cY,hv,hz,Bool.and_self]
    have HZ:=ah hz;go_wp2_with(first|(go_at_call 87;refine(cj _ _).mono ?_;rintro e w' ⟨rfl,rfl⟩;rw[hv])|(go_at_call 30;refine(dx _ _ _ _).mono ?_;rintro e w' ⟨rfl,rfl⟩;rw[HZ.o]));go_roundw
    case rel=>
     refine⟨k+1,o_,by go_num,λm hm=>?_,h⟩;rw[HE.o]at hm;rcases GJ.1 hm with hm|hm
     ·exact Y m hm
     ·rw[GM.1 hm];exact Z.o
    case measure=>exact FW
  ·have HA:Hid (gs.all cY=true):=by
    show _=_;rw[all_eq_true];have:=Y.o;rw[take_of_length_le o_]at this;exact this
   obtain⟨x0,x1⟩:=iy h;go_wp2;go_loopw[4] (λi wr=>∃k:Nat,k<=fs.length/\i=V k/\(∀f∈fs.take k,cQ f=true)/\Below (w.heap.size+1) (w.alloc (.cells #[.slice ag gs.length cg,.slice af fs.length cf] 34)) wr) (λi _=>fs.length-(RowKit.intOf i).toNat)
   case atStart=>exact⟨0,y_,rfl,i_,h⟩
   case round=>
    obtain⟨k,hk,rfl,U,h⟩:=hrel;have Y:=ah U;have I:=ay h;by_cases hlt:k<fs.length
    ·obtain⟨b,Jg,rfl,hc⟩:=Jl o_;obtain⟨vp,vb,⟨d0,d1,d2⟩,hp,hs⟩:=(hc.below I) k hlt;have HE:Hid (fs.take (k+1)=fs.take k++[fs[k]]):=aR fs k hlt;have J:Hid (cQ fs[k]=false->fs.all cQ=false):=p_ hlt;have Je:Hid (eX fs[k]):=HS.o.2.2 fs[k] (g_ hlt);generalize fs[k]=f at d0 d1 d2 HE J Je hp hs;obtain⟨HP,HB⟩:=h2 hp hs;obtain⟨a2,k2,rfl,-,-,-⟩:=hp;obtain⟨a3,k3,rfl,-,-,-⟩:=hs;obtain⟨x0,x1⟩:=iy h;go_wp2_with fail;refine(vT f _ _ _ Je HP HB).mono ?_;rintro e w2 ⟨rfl,Ji⟩;have Jc:=Ji;have Jf:=h.trans (Jc.mono (by have:=h.size;simp at this;omega));cases hv:cQ f
     ·go_wp2;go_ret;exact⟨aj (by rw[Jb.o,J.o hv];simp),ay Jf⟩
     ·go_wp2;go_roundw
      case rel=>
       refine⟨k+1,o_,by go_num,λm hm=>?_,Jf⟩;rw[HE.o]at hm;rcases GJ.1 hm with hm|hm
       ·exact Y m hm
       ·rw[GM.1 hm];exact hv
      case measure=>exact FW
    ·have Jj:Hid (fs.all cQ=true):=by
      show _=_;rw[all_eq_true];have:=Y.o;rw[take_of_length_le o_]at this;exact this
     obtain⟨x0,x1⟩:=iy h;go_wp2;go_ret;exact⟨aj (by rw[Jb.o,HA.o,Jj.o];rfl),I⟩
end
section
open Go.RowKit
structure FV where
 f:Fu
 vp:BY
 vb:BY
 R:List SV
 kp:List Nat
 kb:List Nat
def cd(q:FV):List BY:=[sV q.f.name,q.vp,q.vb]
def cq(Q:List FV):List BY:=Q.flatMap cd
def FL(q:FV):List Nat:=q.kp++(q.kb++FK q.R)
def Gd(Q:List FV):List Nat:=Q.flatMap FL
theorem gz(Q:List FV):(cq Q).length=Q.length*3:=by
 induction Q with
 | nil=>rfl
 | cons a r ih=>
  have:(cq (a::r)).length=3+(cq r).length:=by simp[cq,cd];omega
  rw[this,ih,l_c];omega
def pr(a b:List FV):cq (a++b)=cq a++cq b:=by simp[cq]
theorem gA:∀(Q:List FV) (j i:Nat) (hj:j<Q.length),i<3->(cq Q)[j*3+i]? =(cd Q[j])[i]?
 | x::l,0,i,_,hi=>by
  have:(cd x).length=3:=rfl
  show(cd x++cq l)[0*3+i]? =_;rw[getElem?_append_left o_];simp
 | x::l,j+1,i,hj,hi=>by
  have h7:(cd x).length=3:=rfl;show(cd x++cq l)[(j+1)*3+i]? =_;rw[getElem?_append_right o_];have e:(j+1)*3+i-(cd x).length=j*3+i:=o_;rw[e,gA l j i (Fc hj) hi];simp
def nO:(prog.info? 97).map (λi=>(i.zero,i.size,i.bytes))=some (some (.agg #[sV ⟨#[]⟩,nV,nV]),3,64):=by kernel_rfl
end
section
open Go.RowKit
theorem fK{w:World}{b:Nat}{x:ByteArray}(h:w.cell? ⟨b,0,none⟩=some (sV x)):qz w (rV b 1 1) [x]:=by
 refine⟨_,1,rfl,(λh=>by cases h),λad had j u hj=>?_⟩;obtain rfl:=Option.some.inj had;have I:j=0:=by
  have:=(List.getElem?_eq_some_iff.1 hj).1
  simp at this;omega
 subst I;simp at hj;rw[iV,<-hj];exact h
def De(W:AT)(v:BY)(us:List GA)(h:a_ W v us):dI W.heap.size (W.drew.alloc (.cells #[] 9)) (rV W.heap.size 0 0) []/\qz (W.drew.alloc (.cells #[] 9)) v us/\Bl W (W.drew.alloc (.cells #[] 9)):=by
 have I:Bl W (W.drew.alloc (.cells #[] 9)):=((Below.refl W.heap.size W).drew).alloc n_ _;exact⟨jF W.drew _ n_,(h.below I).src,I⟩
def Df(W:AT)(v:BY)(us:List GA)(x:GA)(h:a_ W v us):dI W.heap.size ((W.drew.alloc (.cells #[] 9)).alloc (.cells #[sV x] 9)) (rV W.heap.size 0 0) []/\qz ((W.drew.alloc (.cells #[] 9)).alloc (.cells #[sV x] 9)) v us/\Bl W ((W.drew.alloc (.cells #[] 9)).alloc (.cells #[sV x] 9))/\DO ((W.drew.alloc (.cells #[] 9)).alloc (.cells #[sV x] 9)) (W.heap.size+1) 0 (sV x):=by
 have I:Bl W (W.drew.alloc (.cells #[] 9)):=((Below.refl W.heap.size W).drew).alloc n_ _;have J:Bl W ((W.drew.alloc (.cells #[] 9)).alloc (.cells #[sV x] 9)):=I.alloc I.size _;exact⟨(jF W.drew _ n_).below (au _ _),(h.below J).src,J,(cell?_alloc_at _ _ _ _ i_).trans rfl⟩
def Dh(W:AT)(v:BY)(us:List GA)(x:GA)(h:a_ W v us):dI W.heap.size ((W.drew.alloc (.cells #[sV x] 9)).alloc (.cells #[] 9)) (.slice (some ⟨W.heap.size+1,0,none⟩) 0 0) []/\qz ((W.drew.alloc (.cells #[sV x] 9)).alloc (.cells #[] 9)) v us/\Bl W ((W.drew.alloc (.cells #[sV x] 9)).alloc (.cells #[] 9))/\((W.drew.alloc (.cells #[sV x] 9)).alloc (.cells #[] 9)).cell? ⟨W.heap.size,0,none⟩=some (sV x):=by
 have J:Bl W (W.drew.alloc (.cells #[sV x] 9)):=((Below.refl W.heap.size W).drew).alloc n_ _;have U:Bl W ((W.drew.alloc (.cells #[sV x] 9)).alloc (.cells #[] 9)):=J.alloc J.size _;have I:=jF (W.drew.alloc (.cells #[sV x] 9)) W.heap.size i_;have e:(W.drew.alloc (.cells #[sV x] 9)).heap.size=W.heap.size+1:=i_;rw[e]at I;refine⟨I,(h.below U).src,U,?_⟩;rw[cell?_alloc_lt _ _ ⟨W.heap.size,0,none⟩ i_];exact(cell?_alloc_at _ _ _ _ i_).trans rfl
def gW{W W1 w1:AT}{v:BY}{xs:List GA}(hb:Bl W W1)(hr:dI W.heap.size W1 v xs)(hg:W1.grownBy w1 v.ownBlock):Bl W w1:=hb.grown hg hb.size (λj hj=>(ownsRow.lt hr j hj).1)
end
end Go.Proofs.YtffnkkpmlplfeaaGreatDoor

