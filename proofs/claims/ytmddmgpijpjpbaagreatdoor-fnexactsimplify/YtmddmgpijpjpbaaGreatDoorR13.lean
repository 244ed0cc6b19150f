import Derived.Test.YtmddmgpijpjpbaaGreatDoorR12
import Derived.OwnWalk
import Derived.Laws.MakeOwn
namespace Go.Proofs.YtmddmgpijpjpbaaGreatDoor
open Go.RowKit
set_option linter.unusedVariables false
set_option linter.unusedSimpArgs false
set_option maxRecDepth 100000
set_option maxHeartbeats 16000000
theorem tru_any (b:Bool) (w:World):Calls Tryz.prog 187 #[.bool b] w fun e w'=>e = .returned (.int .i64 (boolN b))/\w'=w:=by
 cases b
 ·go_enter Tryz.func187,Tryz.ntmps187
  go_wp2_with fail
  go_ret
  exact ⟨rfl,rfl⟩
 ·go_enter Tryz.func187,Tryz.ntmps187
  go_wp2_with fail
  go_ret
  exact ⟨rfl,rfl⟩
theorem fold_un (op a:Int) (h0:0<=op) (h2:op<=2) (ha:inB a) (w:World) :
  Calls Tryz.prog 148 #[.iface 249 (.agg #[.int .i64 op,.iface 222 (.agg #[.int .i64 a])])] w fun e w'=>e = .returned (.iface 222 (.agg #[.int .i64 (unN op a)]))/\Below w.heap.size w w':=by
 have HU:=hide fun W=>unI_any op a h0 h2 ha W
 have a1:=as_un_yes
 have a2:=as_num_yes
 go_enter Tryz.func148,Tryz.ntmps148
 go_wp2_with fail
 refine (HU.out _).mono ?_
 rintro x w1 ⟨rfl,rfl⟩
 go_wp2_with fail
 go_ret
 exact ⟨rfl,(bel_a _ _).alloc (by simp) _⟩
theorem fold_un_no (op:Int) (u:TypeId) (xv:Value) (hu:u≠222) (w:World) :
  Calls Tryz.prog 148 #[.iface 249 (.agg #[.int .i64 op,.iface u xv])] w fun e w'=>e = .returned (.iface 249 (.agg #[.int .i64 op,.iface u xv]))/\Below w.heap.size w w':=by
 have n1:=as_un_no
 have n2:=as_bin_no
 have n3:=as_and_no
 have n4:=as_or_no
 have n5:=as_num_no
 have y1:=as_un_yes
 have y2:=as_bin_yes
 have y3:=as_and_yes
 have y4:=as_or_yes
 have y5:=as_num_yes
 go_enter Tryz.func148,Tryz.ntmps148
 go_wp2_with fail
 go_ret
 exact ⟨rfl,(bel_a _ _).alloc (by simp) _⟩
theorem right_num (op a b:Int) (ux:TypeId) (xv:Value) (w:World) :
  Calls Tryz.prog 171 #[.agg #[.int .i64 op,.iface ux xv,.iface 222 (.agg #[.int .i64 b])],.agg #[.int .i64 a]] w fun e w'=>e = .returned (.iface 222 (.agg #[.int .i64 (apN op a b)]))/\Below w.heap.size w w':=by
 have n1:=as_un_no
 have n2:=as_bin_no
 have n3:=as_and_no
 have n4:=as_or_no
 have n5:=as_num_no
 have y1:=as_un_yes
 have y2:=as_bin_yes
 have y3:=as_and_yes
 have y4:=as_or_yes
 have y5:=as_num_yes
 have HA:=hide fun W=>ap_i op a b W
 go_enter Tryz.func171,Tryz.ntmps171
 go_wp2_with fail
 refine (HA.out _).mono ?_
 rintro x w1 ⟨rfl,rfl⟩
 go_wp2_with fail
 go_ret
 exact ⟨rfl,((bel_a _ _).alloc (by simp) _).alloc (by simp;omega) _⟩
theorem right_no (op a:Int) (ux u:TypeId) (xv yv:Value) (hu:u≠222) (w:World) :
  Calls Tryz.prog 171 #[.agg #[.int .i64 op,.iface ux xv,.iface u yv],.agg #[.int .i64 a]] w fun e w'=>e = .returned (.iface 251 (.agg #[.int .i64 op,.iface ux xv,.iface u yv]))/\Below w.heap.size w w':=by
 have n1:=as_un_no
 have n2:=as_bin_no
 have n3:=as_and_no
 have n4:=as_or_no
 have n5:=as_num_no
 have y1:=as_un_yes
 have y2:=as_bin_yes
 have y3:=as_and_yes
 have y4:=as_or_yes
 have y5:=as_num_yes
 go_enter Tryz.func171,Tryz.ntmps171
 go_wp2_with fail
 go_ret
 exact ⟨rfl,((bel_a _ _).alloc (by simp) _).alloc (by simp;omega) _⟩
theorem fold_bin_nn (op a b:Int) (w:World) :
  Calls Tryz.prog 148 #[.iface 251 (.agg #[.int .i64 op,.iface 222 (.agg #[.int .i64 a]),.iface 222 (.agg #[.int .i64 b])])] w fun e w'=>e = .returned (.iface 222 (.agg #[.int .i64 (apN op a b)]))/\Below w.heap.size w w':=by
 have n1:=as_un_no
 have n2:=as_bin_no
 have n3:=as_and_no
 have n4:=as_or_no
 have n5:=as_num_no
 have y1:=as_un_yes
 have y2:=as_bin_yes
 have y3:=as_and_yes
 have y4:=as_or_yes
 have y5:=as_num_yes
 have HA:Hid (∀W,Calls Tryz.prog 171 #[.agg #[.int .i64 op,.iface 222 (.agg #[.int .i64 a]),.iface 222 (.agg #[.int .i64 b])],.agg #[.int .i64 a]] W fun e w'=>e = .returned (.iface 222 (.agg #[.int .i64 (apN op a b)]))/\Bl W w'):=fun W=>right_num op a b _ _ W
 go_enter Tryz.func148,Tryz.ntmps148
 go_wp2_with fail
 refine (HA.out _).mono ?_
 rintro x w1 ⟨rfl,hb1⟩
 go_wp2_with fail
 go_ret
 exact ⟨rfl,((bel_a _ _).alloc (by simp) _).trans (hb1.mono (by simp;omega))⟩
theorem fold_bin_no (op a:Int) (u:TypeId) (yv:Value) (hu:u≠222) (w:World) :
  Calls Tryz.prog 148 #[.iface 251 (.agg #[.int .i64 op,.iface 222 (.agg #[.int .i64 a]),.iface u yv])] w fun e w'=>e = .returned (.iface 251 (.agg #[.int .i64 op,.iface 222 (.agg #[.int .i64 a]),.iface u yv]))/\Below w.heap.size w w':=by
 have n1:=as_un_no
 have n2:=as_bin_no
 have n3:=as_and_no
 have n4:=as_or_no
 have n5:=as_num_no
 have y1:=as_un_yes
 have y2:=as_bin_yes
 have y3:=as_and_yes
 have y4:=as_or_yes
 have y5:=as_num_yes
 have HA:Hid (∀W,Calls Tryz.prog 171 #[.agg #[.int .i64 op,.iface 222 (.agg #[.int .i64 a]),.iface u yv],.agg #[.int .i64 a]] W fun e w'=>e = .returned (.iface 251 (.agg #[.int .i64 op,.iface 222 (.agg #[.int .i64 a]),.iface u yv]))/\Bl W w'):=fun W=>right_no op a _ u _ yv hu W
 go_enter Tryz.func148,Tryz.ntmps148
 go_wp2_with fail
 refine (HA.out _).mono ?_
 rintro x w1 ⟨rfl,hb1⟩
 go_wp2_with fail
 go_ret
 exact ⟨rfl,((bel_a _ _).alloc (by simp) _).trans (hb1.mono (by simp;omega))⟩
theorem fold_bin_x (op:Int) (u ty:TypeId) (xv yv:Value) (hu:u≠222) (w:World) :
  Calls Tryz.prog 148 #[.iface 251 (.agg #[.int .i64 op,.iface u xv,.iface ty yv])] w fun e w'=>e = .returned (.iface 251 (.agg #[.int .i64 op,.iface u xv,.iface ty yv]))/\Below w.heap.size w w':=by
 have n1:=as_un_no
 have n2:=as_bin_no
 have n3:=as_and_no
 have n4:=as_or_no
 have n5:=as_num_no
 have y1:=as_un_yes
 have y2:=as_bin_yes
 have y3:=as_and_yes
 have y4:=as_or_yes
 have y5:=as_num_yes
 go_enter Tryz.func148,Tryz.ntmps148
 go_wp2_with fail
 go_ret
 exact ⟨rfl,(bel_a _ _).alloc (by simp) _⟩
theorem fold_and_x (u ty:TypeId) (xv yv:Value) (hu:u≠222) (w:World) :
  Calls Tryz.prog 148 #[.iface 253 (.agg #[.iface u xv,.iface ty yv])] w fun e w'=>e = .returned (.iface 253 (.agg #[.iface u xv,.iface ty yv]))/\Below w.heap.size w w':=by
 have n1:=as_un_no
 have n2:=as_bin_no
 have n3:=as_and_no
 have n4:=as_or_no
 have n5:=as_num_no
 have y1:=as_un_yes
 have y2:=as_bin_yes
 have y3:=as_and_yes
 have y4:=as_or_yes
 have y5:=as_num_yes
 go_enter Tryz.func148,Tryz.ntmps148
 go_wp2_with fail
 go_ret
 exact ⟨rfl,(bel_a _ _).alloc (by simp) _⟩
theorem fold_or_x (u ty:TypeId) (xv yv:Value) (hu:u≠222) (w:World) :
  Calls Tryz.prog 148 #[.iface 254 (.agg #[.iface u xv,.iface ty yv])] w fun e w'=>e = .returned (.iface 254 (.agg #[.iface u xv,.iface ty yv]))/\Below w.heap.size w w':=by
 have n1:=as_un_no
 have n2:=as_bin_no
 have n3:=as_and_no
 have n4:=as_or_no
 have n5:=as_num_no
 have y1:=as_un_yes
 have y2:=as_bin_yes
 have y3:=as_and_yes
 have y4:=as_or_yes
 have y5:=as_num_yes
 go_enter Tryz.func148,Tryz.ntmps148
 go_wp2_with fail
 go_ret
 exact ⟨rfl,(bel_a _ _).alloc (by simp) _⟩
theorem fold_else (u:TypeId) (xv:Value) (h1:u≠249) (h2:u≠251) (h3:u≠253) (h4:u≠254) (w:World) :
  Calls Tryz.prog 148 #[.iface u xv] w fun e w'=>e = .returned (.iface u xv)/\Below w.heap.size w w':=by
 have n1:=fun W=>as_un_no W u xv h1
 have n2:=fun W=>as_bin_no W u xv h2
 have n3:=fun W=>as_and_no W u xv h3
 have n4:=fun W=>as_or_no W u xv h4
 go_enter Tryz.func148,Tryz.ntmps148
 go_wp2_with fail
 go_ret
 exact ⟨rfl,Below.refl _ _⟩
theorem choice_and_k (x:Int) (ty:TypeId) (yv:Value) (h:x=0) (w:World) :
  Calls Tryz.prog 172 #[.agg #[.int .i64 x],.iface ty yv,.bool true] w fun e w'=>e = .returned (.iface 222 (.agg #[.int .i64 0]))/\Below w.heap.size w w':=by
 subst h
 have HT:=hide fun W=>tru_any false W
 go_enter Tryz.func172,Tryz.ntmps172
 go_wp2_with fail
 refine (HT.out _).mono ?_
 rintro x w1 ⟨rfl,rfl⟩
 go_wp2_with fail
 go_ret
 exact ⟨rfl,(Below.refl _ _).alloc (Nat.le_refl _) _⟩
theorem choice_and_n (x y:Int) (hy:inB y) (h:x≠0) (w:World) :
  Calls Tryz.prog 172 #[.agg #[.int .i64 x],.iface 222 (.agg #[.int .i64 y]),.bool true] w fun e w'=>e = .returned (.iface 222 (.agg #[.int .i64 (boolN (decide (y≠0)))]))/\Below w.heap.size w w':=by
 have hb:(x != 0)=true:=by simp [h]
 have HT:Hid (∀W,Calls Tryz.prog 148 #[.iface 251 (.agg #[.int .i64 12,.iface 222 (.agg #[.int .i64 y]),.iface 222 (.agg #[.int .i64 0])])] W fun e w'=>e = .returned (.iface 222 (.agg #[.int .i64 (boolN (decide (y≠0)))]))/\Bl W w'):=fun W=>by
  have:=fold_bin_nn 12 y 0 W
  rw [ap_ne0 y hy] at this
  have e:(if y=0 then (0:Int) else 1)=boolN (decide (y≠0)):=by by_cases h:y=0 <;> simp [boolN,h]
  rw [e] at this
  exact this
 generalize boolN (decide (y≠0))=bz at HT ⊢
 go_enter Tryz.func172,Tryz.ntmps172
 go_wp2_with fail
 refine (HT.out _).mono ?_
 rintro x w1 ⟨rfl,hb1⟩
 go_wp2_with fail
 go_ret
 exact ⟨rfl,(bel_a _ _).trans (hb1.mono (by simp))⟩
theorem choice_and_x (x:Int) (u:TypeId) (yv:Value) (hu:u≠222) (h:x≠0) (w:World) :
  Calls Tryz.prog 172 #[.agg #[.int .i64 x],.iface u yv,.bool true] w fun e w'=>e = .returned (.iface 251 (.agg #[.int .i64 12,.iface u yv,.iface 222 (.agg #[.int .i64 0])]))/\Below w.heap.size w w':=by
 have hb:(x != 0)=true:=by simp [h]
 have HT:Hid (∀W,Calls Tryz.prog 148 #[.iface 251 (.agg #[.int .i64 12,.iface u yv,.iface 222 (.agg #[.int .i64 0])])] W fun e w'=>e = .returned (.iface 251 (.agg #[.int .i64 12,.iface u yv,.iface 222 (.agg #[.int .i64 0])]))/\Bl W w'):=fun W=>fold_bin_x 12 u _ yv _ hu W
 go_enter Tryz.func172,Tryz.ntmps172
 go_wp2_with fail
 refine (HT.out _).mono ?_
 rintro x w1 ⟨rfl,hb1⟩
 go_wp2_with fail
 go_ret
 exact ⟨rfl,(bel_a _ _).trans (hb1.mono (by simp))⟩
theorem fold_and_n (x:Int) (ty:TypeId) (yv:Value) (Z:Value) (w:World) (hC : ∀W,Calls Tryz.prog 172 #[.agg #[.int .i64 x],.iface ty yv,.bool true] W fun e w'=>e = .returned Z/\Below W.heap.size W w') :
  Calls Tryz.prog 148 #[.iface 253 (.agg #[.iface 222 (.agg #[.int .i64 x]),.iface ty yv])] w fun e w'=>e = .returned Z/\Below w.heap.size w w':=by
 have n1:=as_un_no
 have n2:=as_bin_no
 have n3:=as_and_no
 have n4:=as_or_no
 have n5:=as_num_no
 have y1:=as_un_yes
 have y2:=as_bin_yes
 have y3:=as_and_yes
 have y4:=as_or_yes
 have y5:=as_num_yes
 have HC:=hide hC
 go_enter Tryz.func148,Tryz.ntmps148
 go_wp2_with fail
 refine (HC.out _).mono ?_
 rintro x w1 ⟨rfl,hb1⟩
 go_wp2_with fail
 go_ret
 exact ⟨rfl,((bel_a _ _).alloc (by simp) _).trans (hb1.mono (by simp;omega))⟩
theorem choice_or_k (x:Int) (ty:TypeId) (yv:Value) (h:x≠0) (w:World) :
  Calls Tryz.prog 172 #[.agg #[.int .i64 x],.iface ty yv,.bool false] w fun e w'=>e = .returned (.iface 222 (.agg #[.int .i64 1]))/\Below w.heap.size w w':=by
 have hb:(x != 0)=true:=by simp [h]
 have HT:=hide fun W=>tru_any true W
 go_enter Tryz.func172,Tryz.ntmps172
 go_wp2_with fail
 refine (HT.out _).mono ?_
 rintro x w1 ⟨rfl,rfl⟩
 go_wp2_with fail
 go_ret
 exact ⟨rfl,(Below.refl _ _).alloc (Nat.le_refl _) _⟩
theorem choice_or_n (x y:Int) (hy:inB y) (h:x=0) (w:World) :
  Calls Tryz.prog 172 #[.agg #[.int .i64 x],.iface 222 (.agg #[.int .i64 y]),.bool false] w fun e w'=>e = .returned (.iface 222 (.agg #[.int .i64 (boolN (decide (y≠0)))]))/\Below w.heap.size w w':=by
 subst h
 have HT:Hid (∀W,Calls Tryz.prog 148 #[.iface 251 (.agg #[.int .i64 12,.iface 222 (.agg #[.int .i64 y]),.iface 222 (.agg #[.int .i64 0])])] W fun e w'=>e = .returned (.iface 222 (.agg #[.int .i64 (boolN (decide (y≠0)))]))/\Bl W w'):=fun W=>by
  have:=fold_bin_nn 12 y 0 W
  rw [ap_ne0 y hy] at this
  have e:(if y=0 then (0:Int) else 1)=boolN (decide (y≠0)):=by by_cases h:y=0 <;> simp [boolN,h]
  rw [e] at this
  exact this
 generalize boolN (decide (y≠0))=bz at HT ⊢
 go_enter Tryz.func172,Tryz.ntmps172
 go_wp2_with fail
 refine (HT.out _).mono ?_
 rintro x w1 ⟨rfl,hb1⟩
 go_wp2_with fail
 go_ret
 exact ⟨rfl,(bel_a _ _).trans (hb1.mono (by simp))⟩
theorem choice_or_x (x:Int) (u:TypeId) (yv:Value) (hu:u≠222) (h:x=0) (w:World) :
  Calls Tryz.prog 172 #[.agg #[.int .i64 x],.iface u yv,.bool false] w fun e w'=>e = .returned (.iface 251 (.agg #[.int .i64 12,.iface u yv,.iface 222 (.agg #[.int .i64 0])]))/\Below w.heap.size w w':=by
 subst h
 have HT:Hid (∀W,Calls Tryz.prog 148 #[.iface 251 (.agg #[.int .i64 12,.iface u yv,.iface 222 (.agg #[.int .i64 0])])] W fun e w'=>e = .returned (.iface 251 (.agg #[.int .i64 12,.iface u yv,.iface 222 (.agg #[.int .i64 0])]))/\Bl W w'):=fun W=>fold_bin_x 12 u _ yv _ hu W
 go_enter Tryz.func172,Tryz.ntmps172
 go_wp2_with fail
 refine (HT.out _).mono ?_
 rintro x w1 ⟨rfl,hb1⟩
 go_wp2_with fail
 go_ret
 exact ⟨rfl,(bel_a _ _).trans (hb1.mono (by simp))⟩
theorem fold_or_n (x:Int) (ty:TypeId) (yv:Value) (Z:Value) (w:World) (hC : ∀W,Calls Tryz.prog 172 #[.agg #[.int .i64 x],.iface ty yv,.bool false] W fun e w'=>e = .returned Z/\Below W.heap.size W w') :
  Calls Tryz.prog 148 #[.iface 254 (.agg #[.iface 222 (.agg #[.int .i64 x]),.iface ty yv])] w fun e w'=>e = .returned Z/\Below w.heap.size w w':=by
 have n1:=as_un_no
 have n2:=as_bin_no
 have n3:=as_and_no
 have n4:=as_or_no
 have n5:=as_num_no
 have y1:=as_un_yes
 have y2:=as_bin_yes
 have y3:=as_and_yes
 have y4:=as_or_yes
 have y5:=as_num_yes
 have HC:=hide hC
 go_enter Tryz.func148,Tryz.ntmps148
 go_wp2_with fail
 refine (HC.out _).mono ?_
 rintro x w1 ⟨rfl,hb1⟩
 go_wp2_with fail
 go_ret
 exact ⟨rfl,((bel_a _ _).alloc (by simp) _).trans (hb1.mono (by simp;omega))⟩
theorem fv_un {w:World} {S:Nat->Prop} {x:Value} {r:List Nd} (op:Int) (h0:0<=op) (h2:op<=2) (hx:Tv w S x r) (hb : ∀a,isN r=some a->inB a) (hS : ∀B,S B->B<w.heap.size) :
  Calls Tryz.prog 148 #[.iface 249 (.agg #[.int .i64 op,x])] w fun e w'=>∃u,e = .returned u/\Tv w' S u (match isN r with | some a=>numN (unN op a) | none=>r++[⟨6,op,⟨#[]⟩⟩])/\Below w.heap.size w w':=by
 cases hr:isN r with
 | some a=>
  obtain rfl:=hx.some hr
  refine (fold_un op a h0 h2 (hb a hr) w).mono ?_
  rintro e w' ⟨rfl,hb⟩
  exact ⟨_,rfl,.num _,hb⟩
 | none=>
  obtain ⟨t,xv,rfl,ht⟩:=hx.none hr
  refine (fold_un_no op t xv ht w).mono ?_
  rintro e w' ⟨rfl,hb⟩
  exact ⟨_,rfl,.un _ _ _ (hx.bel hS hb),hb⟩
theorem fv_bin {w:World} {S:Nat->Prop} {x y:Value} {r t:List Nd} (op:Int) (hx:Tv w S x r) (hy:Tv w S y t) (hS : ∀B,S B->B<w.heap.size) :
  Calls Tryz.prog 148 #[.iface 251 (.agg #[.int .i64 op,x,y])] w fun e w'=>∃u,e = .returned u/\Tv w' S u (match isN r,isN t with | some a,some b=>numN (apN op a b) | _,_=>r++t++[⟨7,op,⟨#[]⟩⟩])/\Below w.heap.size w w':=by
 cases hr:isN r with
 | some a=>
  obtain rfl:=hx.some hr
  cases ht:isN t with
  | some b=>
   obtain rfl:=hy.some ht
   refine (fold_bin_nn op a b w).mono ?_
   rintro e w' ⟨rfl,hb⟩
   exact ⟨_,rfl,.num _,hb⟩
  | none=>
   obtain ⟨u,yv,rfl,hu⟩:=hy.none ht
   refine (fold_bin_no op a u yv hu w).mono ?_
   rintro e w' ⟨rfl,hb⟩
   exact ⟨_,rfl,.bin _ _ _ _ _ (hx.bel hS hb) (hy.bel hS hb),hb⟩
 | none=>
  obtain ⟨u,xv,rfl,hu⟩:=hx.none hr
  obtain ⟨ty,yv,rfl⟩:=hy.isI
  refine (fold_bin_x op u ty xv yv hu w).mono ?_
  rintro e w' ⟨rfl,hb⟩
  exact ⟨_,rfl,.bin _ _ _ _ _ (hx.bel hS hb) (hy.bel hS hb),hb⟩
theorem truthL_some {t:List Nd} {y:Int} (h:isN t=some y):truthL t=numN (boolN (decide (y≠0))):=by simp [truthL,h]
theorem truthL_none {t:List Nd} (h:isN t=none):truthL t=t++[⟨1,0,⟨#[]⟩⟩]++[⟨7,12,⟨#[]⟩⟩]:=by simp [truthL,h]
theorem fv_and {w:World} {S:Nat->Prop} {x y:Value} {r t:List Nd} (hx:Tv w S x r) (hy:Tv w S y t) (hb : ∀a,isN t=some a->inB a) (hS : ∀B,S B->B<w.heap.size) :
  Calls Tryz.prog 148 #[.iface 253 (.agg #[x,y])] w fun e w'=>∃u,e = .returned u/\Tv w' S u (match isN r with | some x=>if x=0 then numN 0 else truthL t | none=>r++t++[⟨8,0,⟨#[]⟩⟩])/\Below w.heap.size w w':=by
 cases hr:isN r with
 | some x=>
  obtain rfl:=hx.some hr
  by_cases h0:x=0
  ·obtain ⟨ty,yv,rfl⟩:=hy.isI
   refine (fold_and_n x ty yv _ w (fun W=>choice_and_k x ty yv h0 W)).mono ?_
   rintro e w' ⟨rfl,hb⟩
   refine ⟨_,rfl,?_,hb⟩
   simp only [h0,if_true,if_false]
   exact .num _
  ·cases ht:isN t with
   | some y=>
    obtain rfl:=hy.some ht
    refine (fold_and_n x _ _ _ w (fun W=>choice_and_n x y (hb y ht) h0 W)).mono ?_
    rintro e w' ⟨rfl,hb⟩
    refine ⟨_,rfl,?_,hb⟩
    simp only [h0,if_true,if_false,truthL_some ht]
    exact .num _
   | none=>
    obtain ⟨u,yv,rfl,hu⟩:=hy.none ht
    refine (fold_and_n x _ _ _ w (fun W=>choice_and_x x u yv hu h0 W)).mono ?_
    rintro e w' ⟨rfl,hb⟩
    refine ⟨_,rfl,?_,hb⟩
    simp only [h0,if_true,if_false,truthL_none ht]
    exact .bin _ _ _ _ _ (hy.bel hS hb) (.num _)
 | none=>
  obtain ⟨u,xv,rfl,hu⟩:=hx.none hr
  obtain ⟨ty,yv,rfl⟩:=hy.isI
  refine (fold_and_x u ty xv yv hu w).mono ?_
  rintro e w' ⟨rfl,hb⟩
  exact ⟨_,rfl,.and _ _ _ _ (hx.bel hS hb) (hy.bel hS hb),hb⟩
theorem fv_or {w:World} {S:Nat->Prop} {x y:Value} {r t:List Nd} (hx:Tv w S x r) (hy:Tv w S y t) (hb : ∀a,isN t=some a->inB a) (hS : ∀B,S B->B<w.heap.size) :
  Calls Tryz.prog 148 #[.iface 254 (.agg #[x,y])] w fun e w'=>∃u,e = .returned u/\Tv w' S u (match isN r with | some x=>if x=0 then truthL t else numN 1 | none=>r++t++[⟨9,0,⟨#[]⟩⟩])/\Below w.heap.size w w':=by
 cases hr:isN r with
 | some x=>
  obtain rfl:=hx.some hr
  by_cases h0:x=0
  ·cases ht:isN t with
   | some y=>
    obtain rfl:=hy.some ht
    refine (fold_or_n x _ _ _ w (fun W=>choice_or_n x y (hb y ht) h0 W)).mono ?_
    rintro e w' ⟨rfl,hb⟩
    refine ⟨_,rfl,?_,hb⟩
    simp only [h0,if_true,if_false,truthL_some ht]
    exact .num _
   | none=>
    obtain ⟨u,yv,rfl,hu⟩:=hy.none ht
    refine (fold_or_n x _ _ _ w (fun W=>choice_or_x x u yv hu h0 W)).mono ?_
    rintro e w' ⟨rfl,hb⟩
    refine ⟨_,rfl,?_,hb⟩
    simp only [h0,if_true,if_false,truthL_none ht]
    exact .bin _ _ _ _ _ (hy.bel hS hb) (.num _)
  ·obtain ⟨ty,yv,rfl⟩:=hy.isI
   refine (fold_or_n x ty yv _ w (fun W=>choice_or_k x ty yv h0 W)).mono ?_
   rintro e w' ⟨rfl,hb⟩
   refine ⟨_,rfl,?_,hb⟩
   simp only [h0,if_true,if_false]
   exact .num _
 | none=>
  obtain ⟨u,xv,rfl,hu⟩:=hx.none hr
  obtain ⟨ty,yv,rfl⟩:=hy.isI
  refine (fold_or_x u ty xv yv hu w).mono ?_
  rintro e w' ⟨rfl,hb⟩
  exact ⟨_,rfl,.or _ _ _ _ (hx.bel hS hb) (hy.bel hS hb),hb⟩
theorem from_beg {ns:List Nd} {k i:Nat} {r:Int} (hk:k<=ns.length) (hb:begP ns k i) (h:fromP (ns.take k) r):r=i:=by
 have hlen:(ns.take k).length=k:=by simp;omega
 obtain ⟨b1,b2,b3⟩:=hb
 rcases h with ⟨i',rfl,h1,h2,h3⟩ | ⟨rfl,h1⟩
 ·rw [hlen] at h1 h3
  have:i'=i:=by
   rcases Nat.lt_trichotomy i' i with h | h | h
   ·have:=h3 i h (by omega);omega
   ·exact h
   ·have:=b3 i' h (by omega);omega
  omega
 ·have:=h1 i (by rw [hlen];omega)
  omega
theorem nhead_run (a:Option Addr) (n cap hi:Nat) (h2:hi<=n) (h3:n<=cap) : ∀w:World,(Instr.slice 115 (.slice a n cap) none (some (.int .i64 (hi:Int))) none).run Tryz.prog w = .ok (.slice a hi cap) w:=by
 intro w
 have hz:Tryz.prog.elem 115=161:=by kernel_rfl
 have hs:(sizeOf 161).run Tryz.prog w = .ok 3 w:=by kernel_rfl
 rw [run_slice_h w 115 a n cap (by rw [hz];exact Tryz.underlying115) .i64 _ (by omega) (by omega),hz,hs]
 simp only [Result.andThen,sliced,Int.toNat_natCast,Nat.sub_zero,Nat.zero_mul]
 have e:(if cap=0 then a else a.map (·.add 0))=a:=by
  split
  ·rfl
  ·cases a <;> simp [Addr.add]
 rw [e]
def KRow (w0 w:World) (N:Nat) (v:Value) (e:List Nd) (b:Nat->Nat) (A i:Nat):Prop:=
 ∃(B cap:Nat) (vs:List Value),v = .slice (some ⟨B,0,none⟩) (A-i) cap/\A-i<=cap/\cap<=9223372036854775807/\N<=B/\B<w.heap.size/\vs.length=A-i/\∀j (h:j<vs.length),w.cell? ⟨B,j,none⟩=some vs[j]/\Nodes w0 vs[j] (kid e b (i+j))
theorem KRow.below {w0 w w':World} {N:Nat} {v:Value} {e:List Nd} {b:Nat->Nat} {A i:Nat} (h:KRow w0 w N v e b A i) (hb:Below w.heap.size w w'):KRow w0 w' N v e b A i:=by
 obtain ⟨B,cap,vs,rfl,h1,h2,h3,h4,h5,h6⟩:=h
 refine ⟨B,cap,vs,rfl,h1,h2,h3,Nat.lt_of_lt_of_le h4 hb.size,h5,fun j hj=>⟨(hb.cell (p:=⟨B,j,none⟩) h4).trans (h6 j hj).1,(h6 j hj).2⟩⟩
theorem KRow.kids {w0 w:World} {N:Nat} {v:Value} {e:List Nd} {b:Nat->Nat} {A:Nat} (h:KRow w0 w N v e b A 0):Kids w0 w N v e b A:=by
 obtain ⟨B,cap,vs,rfl,h1,h2,h3,h4,h5,h6⟩:=h
 rw [Nat.sub_zero] at *
 refine ⟨_,cap,rfl,h1,h2,fun _=>⟨B,rfl,h3,h4,fun i hi => ?_⟩⟩
 have:=h6 i (by omega)
 rw [Nat.zero_add] at this
 exact ⟨_,this⟩
theorem nodes_one {w:World} {v:Value} {ns:List Nd} (h:Nodes w v ns):v.oneCell'=true:=by
 obtain ⟨a,cap,rfl,_⟩:=h
 rfl
theorem addr0 (g j:Nat):(⟨g,0,none⟩:Addr).add j=⟨g,j,none⟩:=by
 simp [Addr.add]
 try (intro h;omega)
theorem KRow.cons {w0 w w':World} {N:Nat} {v' u:Value} {vs:List Value} {e:List Nd} {b:Nat->Nat} {A i n:Nat} (hi:i<A) (hvl:vs.length=A-(i+1)) (hvs : ∀j (h:j<vs.length),Nodes w0 vs[j] (kid e b (i+1+j))) (hu:Nodes w0 u (kid e b i)) (hown:w'.ownsRow N 115 1 v' (1+n) ([u]++vs)) (hn:n=A-(i+1)):KRow w0 w' N v' e b A i:=by
 have hown0:=hown
 obtain ⟨hlen,h⟩:=hown
 rcases h with ⟨_,h0⟩ | ⟨g,cap,cur,rfl,hg,hh,hc1,hc2,hc3,hc4⟩
 ·omega
 ·refine ⟨g,cap,u::vs,by rw [show 1+n=A-i by omega],by omega,by simp only [maxLen] at hc2;omega,hg,(Array.getElem?_eq_some_iff.1 hh).1,by simp;omega,fun j hj => ?_⟩
  have hcell:=hown0.cells (g:=g) rfl j ((u::vs)[j]) (by simp [List.getElem?_eq_getElem hj])
  rw [addr0] at hcell
  refine ⟨hcell,?_⟩
  cases j with
  | zero=>simpa using hu
  | succ j=>
   have:=hvs j (by simpa using hj)
   simpa [Nat.add_comm,Nat.add_left_comm,Nat.add_assoc] using this
theorem kids_any (w0:World) (v:Value) (e:List Nd) (A:Nat) (b:Nat->Nat) (w:World) (hl:e.length<=1048576) (hc:Nodes w0 v e) (hB0:Below w0.heap.size w0 w) (hb:Cut e A b) :
  Calls Tryz.prog 105 #[v] w fun r w'=>∃v',r = .returned v'/\Kids w0 w' w.heap.size v' e b A/\Below w.heap.size w w':=by
 have HN:=hide hc
 have HB0:=hide hB0
 have HB:=hide hb
 obtain ⟨a,cap,rfl,hcl,hcm,-⟩:=hc
 have hpos:=hb.len
 obtain ⟨m,hm⟩ : ∃m,e.length=m+1:=⟨e.length-1,by omega⟩
 have hA6:=hb.arA
 have hA6':(A:Int)<=6:=by omega
 obtain ⟨i0,hi,hz0,hz1,hz2⟩:=info_parts info_nodes
 have HR:Hid (∀W:World,Bl w W->Calls Tryz.prog 104 #[.slice a e.length cap] W fun r w'=>r = .returned (.agg #[.int .i64 (rootN e).kind,.int .i64 (rootN e).val,.string (rootN e).name])/\Bl W w'):=fun W hW=>by
  have:=root_any _ e W hpos hl (HN.out.below (HB0.out.trans (hW.mono HB0.out.size)))
  rw [<-rootN_eq e hpos] at this
  exact this
 have HA:Hid (∀W:World,Calls Tryz.prog 142 #[.agg #[.int .i64 (rootN e).kind,.int .i64 (rootN e).val,.string (rootN e).name]] W fun r w'=>r = .returned (.int .i64 A)/\Bl W w'):=fun W=>by
  have:=arity_nd (rootN e) W
  rw [hb.ar] at this
  exact this
 generalize (rootN e).kind=rk at HR HA
 generalize (rootN e).val=rv at HR HA
 generalize (rootN e).name=rn at HR HA
 have HM:=hide hm
 have e1:((m+1:Nat):Int)-1=(m:Int):=by omega
 rw [hm] at hl hcl hpos HN HR ⊢
 clear hb hB0 hm
 have hnr:=nhead_run a (m+1) cap m (by omega) hcl
 go_enter Tryz.func105,Tryz.ntmps105
 go_wp2_with fail
 refine (HR.out _ (bel_a _ _)).mono ?_
 rintro x w1 ⟨rfl,hb1⟩
 go_wp2_with fail
 refine (HA.out w1).mono ?_
 rintro x w2 ⟨rfl,hb2⟩
 have hbW:Bl w w2:=((bel_a _ _).trans (hb1.mono (by simp))).trans (hb2.mono (by have:=hb1.size;simp at this;omega))
 have hs1:=hb1.size
 have hs2:=hb2.size
 simp only [World.size_alloc] at hs1
 have HK0:Hid (KRow w0 w2 w.heap.size (.slice (some ⟨w.heap.size,0,none⟩) 0 0) e b A A):=⟨w.heap.size,0,[],by rw [Nat.sub_self],by omega,by omega,Nat.le_refl _,by omega,by simp,fun j hj=>absurd hj (by simp)⟩
 have HBW:=hide hbW
 clear hb1 hb2 hbW hs1 hs2 hnr
 go_wp2_with fail
 go_loopw [3,4,5] (fun rs ot ix wr=>∃(k:Nat),k<=A/\ix = .int .i64 (k:Int)/\rs = .slice a (b k) cap/\KRow w0 wr w.heap.size ot e b A k/\Bl w wr) (fun _ _ ix _=>(intOf ix).toNat)
 case atStart=>exact ⟨A,Nat.le_refl _,rfl,by rw [HB.out.last,HM.out];rfl,HK0.out,HBW.out⟩
 case round=>
  obtain ⟨k,hk,rfl,rfl,hK,hB⟩:=hrel
  have HK:=hide hK
  rcases Nat.eq_zero_or_pos k with rfl | hk0
  ·have HKs:Hid (Kids w0 wr w.heap.size u4 e b A):=hK.kids
   clear hK
   go_wp2_with fail
   exact bodyPost_ret (v:=u4) (by simp [results,Tryz.results105,go_sem]) rfl ⟨_,rfl,HKs.out,hB⟩
  ·obtain ⟨i,rfl⟩ : ∃i,k=i+1:=⟨k-1,by omega⟩
   have hbe:=(HB.out.beg i (by omega)).1
   have hble:=HB.out.le' (i+1) (by omega)
   rw [HM.out] at hble
   have HC:Hid (Calls Tryz.prog 143 #[.slice a (b (i+1)) cap] wr fun x w'=>x = .returned (.int .i64 (b i))/\Bl wr w'):=by
    have hNh:Nodes wr (.slice a (b (i+1)) cap) (e.take (b (i+1))):=(Nodes.head (by rw [HM.out];exact HN.out.below (HB0.out.trans (hB.mono HB0.out.size))) (b (i+1)) (by rw [HM.out];omega))
    refine (from_any _ (e.take (b (i+1))) wr (by simp;omega) (fun n hn=>HB.out.good n (List.mem_of_mem_take hn)) hNh).mono ?_
    rintro x w' ⟨r,hf,-,-,rfl,hb⟩
    rw [from_beg (by rw [HM.out];omega) (HB.out.beg i (by omega)) hf]
    exact ⟨rfl,hb⟩
   have hcut:=ncut_run_l a (b (i+1)) cap (b i) (by omega) (by omega)
   have hhd:=nhead_run a (b (i+1)) cap (b i) (by omega) (by omega)
   have HNC:Hid (Nodes w0 (.slice (if cap=b i then a else a.map (·.add (b i*3))) (b (i+1)-b i) (cap-b i)) (kid e b i)):=Nodes.cut (by rw [HM.out];exact HN.out) (b i) (b (i+1)) (by omega) (by rw [HM.out];omega)
   generalize (if cap=b i then a else a.map (·.add (b i*3)))=ua at hcut HNC
   generalize b (i+1)-b i=un at hcut HNC
   generalize cap-b i=uc at hcut HNC
   obtain ⟨B,kc,vs,rfl,k1,k2,k3,k4,k5,k6⟩:=hK
   have HV:Hid (∀j (h:j<vs.length),Nodes w0 vs[j] (kid e b (i+1+j))):=fun j hj=>(k6 j hj).2
   have HVC:Hid (∀j (h:j<vs.length),wr.cell? ⟨B,j,none⟩=some vs[j]):=fun j hj=>(k6 j hj).1
   clear k6 HK
   generalize hbi:b i=bi at *
   generalize hbi1:b (i+1)=bi1 at *
   go_wp2_with fail
   refine HC.out.mono ?_
   rintro x w3 ⟨rfl,hb3⟩
   have hB3:=hB.trans (hb3.mono hB.size)
   have HNews:Hid (∀o j u,vs[j]? = some u->(w3.alloc o).cell? ((⟨B,0,none⟩:Addr).add j)=some u):=fun o j u hj=>by
    obtain ⟨hlt,rfl⟩:=List.getElem?_eq_some_iff.1 hj
    rw [addr0,((hb3.alloc hb3.size o)).cell (p:=⟨B,j,none⟩) k4]
    exact HVC.out j hlt
   have HOne:Hid (∀u∈vs,u.oneCell'=true):=fun u hu=>by
    obtain ⟨j,hj,rfl⟩:=List.mem_iff_getElem.1 hu
    exact nodes_one (HV.out j hj)
   have hs3:=hB3.size
   have hs3':=hb3.size
   go_wp2_with (at_builtin;refine wpList_append_own _ rfl _ _ 163 rfl w.heap.size 115 i0 (.slice none 0 0) 1 24 Tryz.underlying163 hi hz0 hz1 hz2 rfl (by decide) _ 1 [.slice ua un uc] rfl (World.ownsRow_lit w3 #[.slice ua un uc] 1 hs3 (by decide) rfl) ⟨B,0,none⟩ (A-(i+1)) kc vs rfl (by rw [k5,Nat.mul_one]) (HNews.out _) HOne.out (by unfold maxLen;omega) (by omega) (by simp;omega) ?_)
   intro v' w4 hown hgrow _
   have hB4:Bl w w4:=(hB3.alloc hs3 _).grown hgrow (by simp;omega) (fun k hk=>by simp only [Value.ownBlock,Option.some.injEq] at hk;omega)
   have HKc:Hid (KRow w0 w4 w.heap.size v' e b A i):=KRow.cons (w:=w) (by omega) k5 HV.out HNC.out hown rfl
   clear hown hgrow
   go_wp2_with fail
   go_roundw
   case rel=>exact ⟨i,by omega,by go_num,by rw [hbi],HKc.out,hB4⟩
   case measure=>simp [intOf]
end Go.Proofs.YtmddmgpijpjpbaaGreatDoor
