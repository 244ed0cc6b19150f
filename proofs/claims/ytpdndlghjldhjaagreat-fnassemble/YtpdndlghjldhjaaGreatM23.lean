import Derived.Test.YtpdndlghjldhjaaGreatM22
import Derived.Deep.RegionWith
import Derived.WalkSmall
import Derived.Lib.ConvBytes
import Derived.RegionTactic
import Derived.OwnWalk
import Derived.Laws.OwnMore
import Derived.Test.YtpdndlghjldhjaaGreatM18
import Derived.BigQuiet
namespace Go.Proofs.YtpdndlghjldhjaaGreat
set_option linter.unusedVariables false
set_option linter.unusedSimpArgs false
set_option maxRecDepth 100000
set_option maxHeartbeats 16000000
section
open Go.RowKit
theorem ret_int {k:IntKind} {a b:Int} (h:a=b):Ending.returned (.int k a) = .returned (.int k b):=by rw [h]
theorem in_any (v lo hi:Int) (w:World):Calls Tryz.prog 20 #[.int .i64 v,.int .i64 lo,.int .i64 hi] w fun e w'=>e = .returned (.bool (decide (lo<=v/\v<=hi)))/\w'=w:=by
 go_enter Tryz.func20,Tryz.ntmps20
 go_wp2
 all_goals go_ret
 all_goals (refine ⟨ret_bool ?_,rfl⟩;apply Bool.eq_iff_iff.2;simp <;> omega)
theorem wrap_any (v:Int) (w:World):Calls Tryz.prog 109 #[.int .i64 v] w fun e w'=>e = .returned (.int .i64 (wrap32 v))/\w'=w:=by
 go_enter Tryz.func109,Tryz.ntmps109
 go_wp2
 go_ret
 exact ⟨ret_int (by unfold wrap64 wrap32;omega),rfl⟩
theorem wrap32_eq (v:Int):v=wrap32 v ↔ -2147483648<=v/\v<=2147483647:=by
 unfold wrap32;omega
theorem arity_any (k v : Int) (s : ByteArray) (w : World) : Calls Tryz.prog 91 #[.agg #[.int .i64 k, .int .i64 v, .string s]] w fun e w' => e = .returned (.int .i64 (arity ⟨k, v, s⟩)) ∧ Below w.heap.size w w' := by
 go_enter Tryz.func91, Tryz.ntmps91
 go_wp2
 all_goals go_ret
 all_goals (refine ⟨ret_int ?_, (Below.refl _ _).alloc (Nat.le_refl _) _⟩; simp only [beq_iff_eq, beq_eq_false_iff_ne, ne_eq] at *; (try subst k); first | (exfalso; omega) | (simp [arity, *]; done))
theorem gnode1 (v:Int) (s:ByteArray) (w:World):Calls Tryz.prog 108 #[.agg #[.int .i64 1,.int .i64 v,.string s]] w fun e w'=>e = .returned (.bool (nodeB ⟨1,v,s⟩))/\Below w.heap.size w w':=by
 cases h:(v == wrap32 v)
 ·go_enter Tryz.func108,Tryz.ntmps108
  go_wp2_with fail
  go_quiet ((go_at_call 109;exact Calls.quiet_of_same (wrap_any _ _)))
  go_wp2_with fail
  go_ret
  exact ⟨ret_bool (by have : ¬(v=wrap32 v):=by simpa using h
                      rw [wrap32_eq] at this
                      simp [nodeB];omega),below_drewN (bel_a _ _) _⟩
 ·go_enter Tryz.func108,Tryz.ntmps108
  go_wp2_with fail
  go_quiet ((go_at_call 109;exact Calls.quiet_of_same (wrap_any _ _)))
  go_wp2_with fail
  go_ret
  exact ⟨ret_bool (by have:(v=wrap32 v):=by simpa using h
                      rw [wrap32_eq] at this
                      simp [nodeB,this]),below_drewN (bel_a _ _) _⟩
theorem gnode23 (k v:Int) (hk:k=2∨k=3) (s:ByteArray) (w:World):Calls Tryz.prog 108 #[.agg #[.int .i64 k,.int .i64 v,.string s]] w fun e w'=>e = .returned (.bool (nodeB ⟨k,v,s⟩))/\Below w.heap.size w w':=by
 by_cases h:v=0
 ·subst h
  rcases hk with rfl | rfl
  all_goals
   go_enter Tryz.func108,Tryz.ntmps108
   go_wp2_with (go_at_call 87;refine (name_any _ _).mono ?_;rintro e w' ⟨rfl,rfl⟩)
   go_ret
   exact ⟨ret_bool (by simp [nodeB]),(Below.refl _ _).alloc (Nat.le_refl _) _⟩
 ·have h':(v == 0)=false:=by simpa using h
  rcases hk with rfl | rfl
  all_goals
   go_enter Tryz.func108,Tryz.ntmps108
   go_wp2_with fail
   go_ret
   exact ⟨ret_bool (by simp [nodeB,h]),(Below.refl _ _).alloc (Nat.le_refl _) _⟩
theorem gnode4 (v:Int) (s:ByteArray) (w:World):Calls Tryz.prog 108 #[.agg #[.int .i64 4,.int .i64 v,.string s]] w fun e w'=>e = .returned (.bool (nodeB ⟨4,v,s⟩))/\Below w.heap.size w w':=by
 cases h:decide (0<=v/\v<=6)
 all_goals
  go_enter Tryz.func108,Tryz.ntmps108
  go_wp2_with (first | (go_at_call 20;refine (in_any _ _ _ _).mono ?_;rintro e w' ⟨rfl,rfl⟩;rw [h]) | (go_at_call 87;refine (name_any _ _).mono ?_;rintro e w' ⟨rfl,rfl⟩))
  go_ret
  exact ⟨ret_bool (by simp only [nodeB];simp [h]),(Below.refl _ _).alloc (Nat.le_refl _) _⟩
theorem gnode6 (v:Int) (s:ByteArray) (w:World):Calls Tryz.prog 108 #[.agg #[.int .i64 6,.int .i64 v,.string s]] w fun e w'=>e = .returned (.bool (nodeB ⟨6,v,s⟩))/\Below w.heap.size w w':=by
 cases h:decide (0<=v/\v<=2)
 all_goals
  go_enter Tryz.func108,Tryz.ntmps108
  go_wp2_with (first | (go_at_call 20;refine (in_any _ _ _ _).mono ?_;rintro e w' ⟨rfl,rfl⟩;rw [h]))
  go_ret
  exact ⟨ret_bool (by simp only [nodeB];simp [h]),(Below.refl _ _).alloc (Nat.le_refl _) _⟩
theorem gnode7 (v:Int) (s:ByteArray) (w:World):Calls Tryz.prog 108 #[.agg #[.int .i64 7,.int .i64 v,.string s]] w fun e w'=>e = .returned (.bool (nodeB ⟨7,v,s⟩))/\Below w.heap.size w w':=by
 cases h:decide (0<=v/\v<=15)
 all_goals
  go_enter Tryz.func108,Tryz.ntmps108
  go_wp2_with (first | (go_at_call 20;refine (in_any _ _ _ _).mono ?_;rintro e w' ⟨rfl,rfl⟩;rw [h]))
  go_ret
  exact ⟨ret_bool (by simp only [nodeB];simp [h]),(Below.refl _ _).alloc (Nat.le_refl _) _⟩
theorem gnode589 (k v:Int) (hk:k=5∨k=8∨k=9) (s:ByteArray) (w:World):Calls Tryz.prog 108 #[.agg #[.int .i64 k,.int .i64 v,.string s]] w fun e w'=>e = .returned (.bool (nodeB ⟨k,v,s⟩))/\Below w.heap.size w w':=by
 by_cases h:v=0
 ·subst h
  rcases hk with rfl | rfl | rfl
  all_goals
   go_enter Tryz.func108,Tryz.ntmps108
   go_wp2_with fail
   go_ret
   exact ⟨ret_bool (by simp [nodeB]),(Below.refl _ _).alloc (Nat.le_refl _) _⟩
 ·have h':(v == 0)=false:=by simpa using h
  rcases hk with rfl | rfl | rfl
  all_goals
   go_enter Tryz.func108,Tryz.ntmps108
   go_wp2_with fail
   go_ret
   exact ⟨ret_bool (by simp [nodeB,h]),(Below.refl _ _).alloc (Nat.le_refl _) _⟩
theorem gnodeX (k v:Int) (hk:k<1∨9<k) (s:ByteArray) (w:World):Calls Tryz.prog 108 #[.agg #[.int .i64 k,.int .i64 v,.string s]] w fun e w'=>e = .returned (.bool (nodeB ⟨k,v,s⟩))/\Below w.heap.size w w':=by
 have h1:(k == 1)=false:=by simp;omega
 have h2:(k == 2)=false:=by simp;omega
 have h3:(k == 3)=false:=by simp;omega
 have h4:(k == 4)=false:=by simp;omega
 have h5:(k == 5)=false:=by simp;omega
 have h6:(k == 6)=false:=by simp;omega
 have h7:(k == 7)=false:=by simp;omega
 have h8:(k == 8)=false:=by simp;omega
 have h9:(k == 9)=false:=by simp;omega
 have hn:nodeB ⟨k,v,s⟩=false:=by
  simp at h1 h2 h3 h4 h5 h6 h7 h8 h9
  simp [nodeB,h1,h2,h3,h4,h5,h6,h7,h8,h9]
 rw [hn]
 clear hk hn
 go_enter Tryz.func108,Tryz.ntmps108
 go_wp2_with fail
 go_ret
 exact ⟨rfl,(Below.refl _ _).alloc (Nat.le_refl _) _⟩
theorem gnode_any (n:Nd) (w:World):Calls Tryz.prog 108 #[.agg #[.int .i64 n.kind,.int .i64 n.val,.string n.name]] w fun e w'=>e = .returned (.bool (nodeB n))/\Below w.heap.size w w':=by
 obtain ⟨k,v,s⟩:=n
 by_cases hx:k<1∨9<k
 ·exact gnodeX k v hx s w
 ·have:k=1∨(k=2∨k=3)∨k=4∨k=6∨k=7∨(k=5∨k=8∨k=9):=by omega
  rcases this with rfl | h | rfl | rfl | rfl | h
  ·exact gnode1 v s w
  ·exact gnode23 k v h s w
  ·exact gnode4 v s w
  ·exact gnode6 v s w
  ·exact gnode7 v s w
  ·exact gnode589 k v h s w
end
section
open Go.RowKit
end
section
open Go.RowKit
def NodesC (w : World) (b off : Nat) (ns : List Nd) : Prop := ∀ j (h : j < ns.length),
 w.cell? ⟨b, off + j * 3, none⟩ = some (.int .i64 ns[j].kind) ∧ w.cell? ⟨b, off + j * 3 + 1, none⟩ = some (.int .i64 ns[j].val) ∧ w.cell? ⟨b, off + j * 3 + 2, none⟩ = some (.string ns[j].name)
theorem NodesC.below {w w' : World} {b off : Nat} {ns : List Nd} (h : NodesC w b off ns) (hb : Below w.heap.size w w') : NodesC w' b off ns := by
 intro j hj
 obtain ⟨c0, c1, c2⟩ := h j hj
 have hlt := World.block_lt_of_cell? _ _ c0
 exact ⟨(hb.cell hlt).trans c0, (hb.cell (p := ⟨b, off + j * 3 + 1, none⟩) hlt).trans c1, (hb.cell (p := ⟨b, off + j * 3 + 2, none⟩) hlt).trans c2⟩
def Nodes (w : World) (v : Value) (ns : List Nd) : Prop := ∃ a cap, v = .slice a ns.length cap ∧ ns.length ≤ cap ∧ cap ≤ 9223372036854775807 ∧ (0 < ns.length → ∃ b off, a = some ⟨b, off, none⟩ ∧ NodesC w b off ns)
theorem Nodes.below {w w' : World} {v : Value} {ns : List Nd} (h : Nodes w v ns) (hb : Below w.heap.size w w') : Nodes w' v ns := by
 obtain ⟨a, cap, rfl, hl, hm, h⟩ := h
 refine ⟨a, cap, rfl, hl, hm, fun h0 => ?_⟩
 obtain ⟨b, off, rfl, hc⟩ := h h0
 exact ⟨b, off, rfl, hc.below hb⟩
theorem box3 {w w' : World} {t : TypeId} {x y z : Value} (h : Below (w.heap.size + 1) (w.alloc (.cells #[x, y, z] t)) w') :
  w'.cell? ⟨w.heap.size, 0, none⟩ = some x ∧ w'.cell? ⟨w.heap.size, 1, none⟩ = some y ∧ w'.cell? ⟨w.heap.size, 2, none⟩ = some z := by
 refine ⟨?_, ?_, ?_⟩ <;> (rw [h.cell (by simp)]; simp)
end
section
open Go.RowKit
theorem arity_nd (n:Nd) (w:World):Calls Tryz.prog 91 #[.agg #[.int .i64 n.kind,.int .i64 n.val,.string n.name]] w fun e w'=>e = .returned (.int .i64 (arity n))/\Below w.heap.size w w':=arity_any n.kind n.val n.name w
theorem from_any (v:Value) (ns:List Nd) (w:World) (hl:ns.length<=1048576) (hg:goodAll ns) (hc:Nodes w v ns) :
  Calls Tryz.prog 92 #[v] w fun e w'=>∃r,fromP ns r /\ -1<=r/\r<=1048576/\e = .returned (.int .i64 r)/\Below w.heap.size w w':=by
 obtain ⟨a,cap,rfl,hcl,hcm,hc⟩:=hc
 have HC:=hide hc
 have HG:=hide hg
 clear hc hg
 go_enter Tryz.func92,Tryz.ntmps92
 go_wp2_with fail
 go_loopw [3,4] (fun r i wr=>∃(k:Nat) (q:Int),k<=ns.length/\i = .int .i64 k/\r = .int .i64 q/\q=defc (ns.drop k)/\0<=q/\(∀j,k<j->j<=ns.length->1<=defc (ns.drop j))/\Bl w wr) (fun _ i _=>(RowKit.intOf i).toNat)
 case atStart=>exact ⟨ns.length,1,Nat.le_refl _,rfl,rfl,by simp [defc],by omega,fun j h1 h2=>absurd h2 (by omega),Below.refl _ _⟩
 case round=>
  obtain ⟨k,q,hk,rfl,rfl,hq,hq0,hj,hB⟩:=hrel
  have hqb:=defc_le _ (goodAll_drop HG.out k)
  have hq1:q<=6291457:=by rw [hq];simp at hqb;omega
  have HQ:=hide hq
  have HJ:=hide hj
  clear hq hj hqb
  by_cases h0:0<q
  ·by_cases hk0:k=0
   ·subst hk0
    go_wp2_with fail
    go_ret
    refine ⟨-1,.inr ⟨rfl,fun j hj => ?_⟩,by omega,by omega,rfl,hB⟩
    rcases Nat.eq_zero_or_pos j with rfl | hp
    ·rw [<-HQ.out];omega
    ·exact HJ.out j hp hj
   ·obtain ⟨m,rfl⟩ : ∃m,k=m+1:=⟨k-1,by omega⟩
    obtain ⟨b,off,rfl,hc⟩:=HC.out (by omega)
    obtain ⟨d0,d1,d2⟩:=(hc.below hB) m (by omega)
    have hab:=arity_good (HG.out ns[m] (List.getElem_mem _))
    have HD:Hid _:=defc_drop ns m (by omega)
    clear hc HC
    generalize hn:ns[m]=n at d0 d1 d2 HD hab
    clear hn
    have e1:((m+1:Nat):Int)-1=(m:Int):=by omega
    go_wp2_with fail
    refine (arity_nd n _).mono ?_
    rintro e w1 ⟨rfl,hb1⟩
    have hB1:=hB.trans (hb1.mono hB.size)
    clear d0 d1 d2
    go_wp2_with fail
    go_roundw
    case rel=>
     refine ⟨m,q-1+arity n,by omega,by go_num,rfl,?_,by omega,fun j h1 h2 => ?_,hB1⟩
     ·rw [HD.out,<-HQ.out];omega
     ·by_cases e:j=m+1
      ·subst e;rw [<-HQ.out];omega
      ·exact HJ.out j (by omega) h2
    case measure=>simp [RowKit.intOf]
  ·go_wp2_with fail
   go_ret
   refine ⟨k,.inl ⟨k,rfl,?_,?_,HJ.out⟩,by omega,by omega,rfl,hB⟩
   ·rcases Nat.lt_or_ge k ns.length with h | h
    ·exact h
    ·exfalso
     have:=HQ.out
     rw [List.drop_of_length_le h,defc] at this
     omega
   ·rw [<-HQ.out];omega
theorem oneB_bad {l:List Nd} {k:Nat} (hk:k<l.length) (h:nodeB l[k]=false):oneB l=false:=by
 cases e:oneB l
 ·rfl
 ·have:=((oneB_iff l).1 e).1 _ (List.getElem_mem hk)
  rw [h] at this;cases this
theorem gexpr_any (v:Value) (ns:List Nd) (w:World) (hl:ns.length<=1048576) (hc:Nodes w v ns) :
  Calls Tryz.prog 107 #[v] w fun e w'=>e = .returned (.bool (decide (ns.length<=2000) && oneB ns))/\Below w.heap.size w w':=by
 have HN:=hide hc
 obtain ⟨a,cap,rfl,hcl,hcm,hc⟩:=hc
 have HC:=hide hc
 clear hc
 by_cases h2:2000<ns.length
 ·have hd:(decide (ns.length<=2000) && oneB ns)=false:=by simp;omega
  rw [hd]
  clear hd
  go_enter Tryz.func107,Tryz.ntmps107
  go_wp2_with fail
  go_ret
  exact ⟨rfl,Below.refl _ _⟩
 ·have hd:(decide (ns.length<=2000) && oneB ns)=oneB ns:=by rw [decide_eq_true (by omega)];rfl
  rw [hd]
  clear hd
  go_enter Tryz.func107,Tryz.ntmps107
  go_wp2_with fail
  go_loopw [3] (fun i wr=>∃(k:Nat),k<=ns.length/\i = .int .i64 k/\(∀n∈ns.take k,nodeB n=true)/\Bl w wr) (fun i _=>ns.length-(RowKit.intOf i).toNat)
  case atStart=>exact ⟨0,Nat.zero_le _,rfl,by simp,Below.refl _ _⟩
  case round=>
   obtain ⟨k,hk,rfl,hg,hB⟩:=hrel
   have HG:=hide hg
   clear hg
   by_cases hlt:k<ns.length
   ·obtain ⟨b,off,rfl,hc⟩:=HC.out (by omega)
    obtain ⟨d0,d1,d2⟩:=(hc.below hB) k hlt
    clear hc HC
    have HE:Hid (ns.take (k+1)=ns.take k++[ns[k]]):=take_succ ns k hlt
    have HX:Hid (nodeB ns[k]=false->oneB ns=false):=oneB_bad hlt
    generalize hn:ns[k]=n at d0 d1 d2 HE HX
    clear hn
    go_wp2_with fail
    refine (gnode_any n _).mono ?_
    rintro e w1 ⟨rfl,hb1⟩
    have hB1:=hB.trans (hb1.mono hB.size)
    clear d0 d1 d2
    cases hv:nodeB n
    ·go_wp2_with fail
     go_ret
     exact ⟨ret_bool (HX.out hv).symm,hB1⟩
    ·go_wp2_with fail
     go_roundw
     case rel=>
      refine ⟨k+1,by omega,by go_num,fun m hm => ?_,hB1⟩
      rw [HE.out] at hm
      rcases List.mem_append.1 hm with hm | hm
      ·exact HG.out m hm
      ·rw [List.mem_singleton.1 hm];exact hv
     case measure=>simp [RowKit.intOf];omega
   ·have hk':k=ns.length:=by omega
    subst hk'
    have hgA:goodAll ns:=by have:=HG.out;rw [List.take_length] at this;exact this
    have HA:=hide hgA
    clear hgA
    by_cases h0:0<ns.length
    ·go_wp2_with fail
     refine (from_any _ ns _ hl HA.out (HN.out.below hB)).mono ?_
     rintro e w1 ⟨r,hr,hr1,hr2,rfl,hb1⟩
     have HR:=hide hr
     clear hr
     go_wp2_with fail
     go_ret
     exact ⟨ret_bool (fromP_one HA.out HR.out),hB.trans (hb1.mono hB.size)⟩
    ·go_wp2_with fail
     go_ret
     refine ⟨ret_bool ?_,hB⟩
     have:ns = []:=List.eq_nil_of_length_eq_zero (by omega)
     subst this
     simp [oneB,wholeTo]
theorem NodesC.up {w:World} {b off:Nat} {ns:List Nd} (h:NodesC w b off ns) (j:Nat) (hj:j<ns.length):(∀o,(w.alloc o).cell? ⟨b,off+j*3,none⟩=some (.int .i64 ns[j].kind))/\(∀o,(w.alloc o).cell? ⟨b,off+j*3+1,none⟩=some (.int .i64 ns[j].val))/\(∀o,(w.alloc o).cell? ⟨b,off+j*3+2,none⟩=some (.string ns[j].name)):=
 ⟨fun o=>((h.below ((Below.refl _ _).alloc (Nat.le_refl _) o)) j hj).1,fun o=>((h.below ((Below.refl _ _).alloc (Nat.le_refl _) o)) j hj).2.1,fun o=>((h.below ((Below.refl _ _).alloc (Nat.le_refl _) o)) j hj).2.2⟩
theorem root_any (v:Value) (ns:List Nd) (w:World) (hl:0<ns.length) (hm:ns.length<=1048576) (hc:Nodes w v ns) :
  Calls Tryz.prog 79 #[v] w fun e w'=>e = .returned (.agg #[.int .i64 (ns[ns.length-1]'(by omega)).kind,.int .i64 (ns[ns.length-1]'(by omega)).val,.string (ns[ns.length-1]'(by omega)).name])/\Below w.heap.size w w':=by
 obtain ⟨a,cap,rfl,hcl,hcm,hc⟩:=hc
 obtain ⟨b,off,rfl,hn⟩:=hc hl
 obtain ⟨d0,d1,d2⟩:=hn.up (ns.length-1) (by omega)
 clear hc hn
 generalize hn:ns[ns.length-1]=n at d0 d1 d2 ⊢
 clear hn
 obtain ⟨m,hm'⟩ : ∃m,ns.length=m+1:=⟨ns.length-1,by omega⟩
 rw [hm'] at d0 d1 d2 hl hm hcl ⊢
 have e1:((m+1:Nat):Int)-1=(m:Int):=by omega
 have e2:m+1-1=m:=by omega
 rw [e2] at d0 d1 d2
 clear hm'
 go_enter Tryz.func79,Tryz.ntmps79
 go_wp2_with fail
 exact bodyPost_ret (v:=.agg #[.int .i64 n.kind,.int .i64 n.val,.string n.name]) (by simp [results,Tryz.results79,go_sem]) rfl ⟨rfl,(Below.refl _ _).alloc (Nat.le_refl _) _⟩
end
section
open Go.RowKit
end
section
open Go.RowKit
def Ints (w : World) (v : Value) (l : List Int) : Prop := ∃ a cap, v = .slice a l.length cap ∧ (0 < l.length → ∃ b, a = some ⟨b, 0, none⟩ ∧ ∀ j (h : j < l.length), w.cell? ⟨b, j, none⟩ = some (.int .i64 l[j]))
theorem Ints.below {w w' : World} {v : Value} {l : List Int} (h : Ints w v l) (hb : Below w.heap.size w w') : Ints w' v l := by
 obtain ⟨a, cap, rfl, h⟩ := h
 refine ⟨a, cap, rfl, fun h0 => ?_⟩
 obtain ⟨b, rfl, hc⟩ := h h0
 exact ⟨b, rfl, fun j hj => (hb.cell (p := ⟨b, j, none⟩) (World.block_lt_of_cell? _ _ (hc j hj))).trans (hc j hj)⟩
theorem own_ints {w : World} {N : Nat} {v : Value} {l : List Int} (h : w.ownsRow N 2 1 v l.length (l.map (Value.int .i64))) : Ints w v l := by
 have h0 := h
 obtain ⟨hl, h⟩ := h
 rcases h with ⟨rfl, hz⟩ | ⟨g, cap, cur, rfl, hg, hh, hc1, hc2, hc3, hc4⟩
 ·exact ⟨none, 0, by rw [hz], fun h => absurd h (by omega)⟩
 ·refine ⟨_, cap, rfl, fun _ => ⟨g, rfl, fun j hj => ?_⟩⟩
  have := h0.cells (g := g) rfl j (.int .i64 l[j]) (by simp [hj])
  have e : (⟨g, 0, none⟩ : Addr).add j = ⟨g, j, none⟩ := by simp only [Addr.add]; split <;> simp_all
  rw [e] at this
  exact this
theorem ownb_keep {w w' : World} {N : Nat} {v : Value} {n : Nat} {xs : List Value} (h : w.ownsRow N 2 1 v n xs) (hb : ∀ g, N ≤ g → g < w.heap.size → w'.heap[g]? = w.heap[g]?) : w'.ownsRow N 2 1 v n xs := by
 obtain ⟨g1, g2⟩ := h
 refine ⟨g1, ?_⟩
 rcases g2 with g2 | ⟨g, cap, cur, rfl, g3, g4, g5⟩
 ·exact .inl g2
 ·refine .inr ⟨g, cap, cur, rfl, g3, ?_, g5⟩
  rw [hb g g3 (Array.getElem?_eq_some_iff.1 g4).1]
  exact g4
theorem ownb_below {w w' : World} {N : Nat} {v : Value} {n : Nat} {xs : List Value} (h : w.ownsRow N 2 1 v n xs) (hb : Below w.heap.size w w') : w'.ownsRow N 2 1 v n xs := ownb_keep h fun g _ hg => hb.block g hg
end
section
open Go.RowKit
end
section
open Go.RowKit
end
section
open Go.RowKit
theorem Nodes.cut {w : World} {a : Option Addr} {cap : Nat} {ns : List Nd} (h : Nodes w (.slice a ns.length cap) ns) (lo hi : Nat) (h1 : lo ≤ hi) (h2 : hi ≤ ns.length) :
  Nodes w (.slice (if cap = lo then a else a.map (·.add (lo * 3))) (hi - lo) (cap - lo)) ((ns.take hi).drop lo) := by
 obtain ⟨a', cap', he, hl, hm, h⟩ := h
 simp only [Value.slice.injEq, true_and] at he
 obtain ⟨rfl, rfl⟩ := he
 refine ⟨if cap = lo then a else a.map (·.add (lo * 3)), cap - lo, by simp [Nat.min_eq_left h2], by simp [Nat.min_eq_left h2]; omega, by omega, fun h0 => ?_⟩
 simp only [List.length_drop, List.length_take, Nat.min_eq_left h2] at h0
 obtain ⟨b, off, rfl, hc⟩ := h (by omega)
 refine ⟨b, off + lo * 3, ?_, fun j hj => ?_⟩
 ·rw [if_neg (by omega)]; simp [Addr.add]
 ·simp only [List.length_drop, List.length_take, Nat.min_eq_left h2] at hj
  have hcc := hc (lo + j) (by omega)
  have e : ((ns.take hi).drop lo)[j]'(by simp; omega) = ns[lo + j]'(by omega) := by simp
  rw [e]
  have e1 : off + lo * 3 + j * 3 = off + (lo + j) * 3 := by omega
  rw [e1]
  exact hcc
theorem Nodes.head {w : World} {a : Option Addr} {cap : Nat} {ns : List Nd} (h : Nodes w (.slice a ns.length cap) ns) (hi : Nat) (h2 : hi ≤ ns.length) : Nodes w (.slice a hi cap) (ns.take hi) := by
 have := h.cut 0 hi (Nat.zero_le _) h2
 have e : (if cap = 0 then a else a.map (·.add (0 * 3))) = a := by
  split
  ·rfl
  ·cases a <;> simp [Addr.add]
 rw [e] at this
 simpa using this
theorem ncut_run_l (a : Option Addr) (n cap lo : Nat) (h2 : lo ≤ n) (h3 : n ≤ cap) : ∀ w : World, (Instr.slice 91 (.slice a n cap) (some (.int .i64 lo)) none none).run Tryz.prog w = .ok (.slice (if cap = lo then a else a.map (·.add (lo * 3))) (n - lo) (cap - lo)) w := by
 intro w
 have hz : Tryz.prog.elem 91 = 120 := by kernel_rfl
 have hs : (sizeOf 120).run Tryz.prog w = .ok 3 w := by kernel_rfl
 rw [run_slice_l w 91 a n cap (by rw [hz]; exact Tryz.underlying91) .i64 _ (by omega) (by omega), hz, hs]
 simp only [Result.andThen, sliced, Int.toNat_natCast]
def Kids (w0 w : World) (N : Nat) (v : Value) (e : List Nd) (b : Nat → Nat) (A : Nat) : Prop :=
 ∃ a cap, v = .slice a A cap ∧ A ≤ cap ∧ cap ≤ 9223372036854775807 ∧ (0 < A → ∃ B, a = some ⟨B, 0, none⟩ ∧ N ≤ B ∧ B < w.heap.size ∧ ∀ i, i < A → ∃ vi, w.cell? ⟨B, i, none⟩ = some vi ∧ Nodes w0 vi (kid e b i))
theorem Kids.below {w0 w w' : World} {N : Nat} {v : Value} {e : List Nd} {b : Nat → Nat} {A : Nat} (h : Kids w0 w N v e b A) (hb : Below w.heap.size w w') : Kids w0 w' N v e b A := by
 obtain ⟨a, cap, rfl, hl, hm, h⟩ := h
 refine ⟨a, cap, rfl, hl, hm, fun h0 => ?_⟩
 obtain ⟨B, rfl, hN, hB, hc⟩ := h h0
 refine ⟨B, rfl, hN, Nat.lt_of_lt_of_le hB hb.size, fun i hi => ?_⟩
 obtain ⟨vi, h1, h2⟩ := hc i hi
 exact ⟨vi, (hb.cell (p := ⟨B, i, none⟩) (World.block_lt_of_cell? _ _ h1)).trans h1, h2⟩
theorem info_nodes : (Tryz.prog.info? 91).map (fun i => (i.zero, i.size, i.bytes)) = some (some (.slice none 0 0), 1, 24) := by kernel_rfl
end
section
open Go.RowKit
theorem nameB_empty {s : ByteArray} (h : nameB s = true) : (s.toList == []) = false := by
 have hp := ((nameB_iff s).1 h).1
 have hl : s.toList.length = s.size := by rw [ByteArray.toList_eq]; simp
 cases e : (s.toList == [])
 ·rfl
 ·have e' : s.toList = [] := by simpa using e
  rw [e'] at hl
  simp at hl
  omega
theorem run_kind (x y : Int) (z : ByteArray) (w : World) : (Instr.field 120 (.agg #[.int .i64 x, .int .i64 y, .string z]) 0).run Tryz.prog w = .ok (.int .i64 x) w := by kernel_rfl
theorem box6 {w w' : World} {t : TypeId} {x0 x1 x2 x3 x4 x5 : Value} (h : Below (w.heap.size + 1) (w.alloc (.cells #[x0, x1, x2, x3, x4, x5] t)) w') :
  w'.cell? ⟨w.heap.size, 0, none⟩ = some x0 ∧ w'.cell? ⟨w.heap.size, 1, none⟩ = some x1 ∧ w'.cell? ⟨w.heap.size, 2, none⟩ = some x2 ∧ w'.cell? ⟨w.heap.size, 3, none⟩ = some x3 ∧ w'.cell? ⟨w.heap.size, 4, none⟩ = some x4 ∧ w'.cell? ⟨w.heap.size, 5, none⟩ = some x5 := by
 refine ⟨?_, ?_, ?_, ?_, ?_, ?_⟩ <;> (rw [h.cell (by simp)]; simp)
theorem one_below {w w' : World} {a : Obj} (h : Below (w.heap.size + 1) (w.alloc a) w') : Below w.heap.size w w' :=
 ((Below.refl _ _).alloc (Nat.le_refl _) _).trans (h.mono (by omega))
end
section
open Go.RowKit
set_option maxHeartbeats 2000000 in
theorem gstmt1 (k : Int) (hk : k = 1 ∨ k = 2) (s : ByteArray) (ve vf : Value) (es fs : List Nd) (t l : Int) (w : World) (hle : es.length ≤ 2000) (hlf : fs.length ≤ 2000) (he : Nodes w ve es) (hf : Nodes w vf fs) :
  Calls Tryz.prog 102 #[.agg #[.int .i64 k, .string s, ve, vf, .int .i64 t, .int .i64 l]] w fun e w' => e = .returned (.bool (gstmtB ⟨k, s, es, fs, t, l⟩)) ∧ Below w.heap.size w w' := by
 have h3 : ∀ x : Int, x < 0 ∨ (¬ x < 0 ∧ 0 < x) ∨ (¬ x < 0 ∧ ¬ 0 < x ∧ x = 0) := fun x => by omega
 rcases hk with rfl | rfl
 all_goals
  have HE : Hid (Nodes w ve es) := he
  have HF : Hid (Nodes w vf fs) := hf
  obtain ⟨ae, ce, rfl, -, -, -⟩ := he
  obtain ⟨af, cf, rfl, -, -, -⟩ := hf
  have HD : Hid (∀ b : Bool, (decide (es.length ≤ 2000) && b) = b) := fun b => by simp [hle]
  have HDF : Hid (∀ b : Bool, (decide (fs.length ≤ 2000) && b) = b) := fun b => by simp [hlf]
  go_enter Tryz.func102, Tryz.ntmps102
  go_wp2_with (go_at_call 20; refine (in_any _ _ _ _).mono ?_; rintro e w' ⟨rfl, rfl⟩)
  refine (gexpr_any _ es _ (by omega) (HE.out.below ((Below.refl _ _).alloc (Nat.le_refl _) _))).mono ?_
  rintro e w1 ⟨rfl, hb1⟩
  rw [HD.out]
  simp only [World.size_alloc] at hb1
  have hB1 := one_below hb1
  obtain ⟨x0, x1, x2, x3, x4, x5⟩ := box6 hb1
  cases ho : oneB es
  ·go_wp2_with fail
   go_ret
   exact ⟨ret_bool (by simp only [gstmtB, stmtB]; simp [ho]), hB1⟩
  cases hn : nameB s
  ·go_wp2_with (go_at_call 87; refine (name_any _ _).mono ?_; rintro e w' ⟨rfl, rfl⟩; rw [hn])
   go_ret
   exact ⟨ret_bool (by simp only [gstmtB, stmtB]; simp [ho, hn]), hB1⟩
  by_cases hf0 : 0 < fs.length
  ·go_wp2_with (go_at_call 87; refine (name_any _ _).mono ?_; rintro e w' ⟨rfl, rfl⟩; rw [hn])
   go_ret
   refine ⟨ret_bool ?_, hB1⟩
   have : (fs.length == 0) = false := by simp only [beq_eq_false_iff_ne]; omega
   simp only [gstmtB, stmtB, this]; simp [ho, hn]
  have HF0 : Hid ((fs.length == 0) = true) := by show _ = _; simp only [beq_iff_eq]; omega
  rcases h3 t with ht | ⟨ht, ht2⟩ | ⟨-, -, rfl⟩ <;> rcases h3 l with hl | ⟨hl, hl2⟩ | ⟨-, -, rfl⟩
  all_goals go_wp2_with (go_at_call 87; refine (name_any _ _).mono ?_; rintro e w' ⟨rfl, rfl⟩; rw [hn])
  all_goals go_ret
  all_goals exact ⟨ret_bool (by simp only [gstmtB, stmtB, HF0.out]; simp [ho, hn] <;> omega), hB1⟩
set_option maxHeartbeats 2000000 in
theorem gstmt3 (s : ByteArray) (ve vf : Value) (es fs : List Nd) (t l : Int) (w : World) (hle : es.length ≤ 2000) (hlf : fs.length ≤ 2000) (he : Nodes w ve es) (hf : Nodes w vf fs) :
  Calls Tryz.prog 102 #[.agg #[.int .i64 3, .string s, ve, vf, .int .i64 t, .int .i64 l]] w fun e w' => e = .returned (.bool (gstmtB ⟨3, s, es, fs, t, l⟩)) ∧ Below w.heap.size w w' := by
 have h3 : ∀ x : Int, x < 0 ∨ (¬ x < 0 ∧ 0 < x) ∨ (¬ x < 0 ∧ ¬ 0 < x ∧ x = 0) := fun x => by omega
 have HE : Hid (Nodes w ve es) := he
 have HF : Hid (Nodes w vf fs) := hf
 obtain ⟨ae, ce, rfl, -, -, -⟩ := he
 obtain ⟨af, cf, rfl, -, -, -⟩ := hf
 have HD : Hid (∀ b : Bool, (decide (es.length ≤ 2000) && b) = b) := fun b => by simp [hle]
 have HDF : Hid (∀ b : Bool, (decide (fs.length ≤ 2000) && b) = b) := fun b => by simp [hlf]
 go_enter Tryz.func102, Tryz.ntmps102
 go_wp2_with (go_at_call 20; refine (in_any _ _ _ _).mono ?_; rintro e w' ⟨rfl, rfl⟩)
 refine (gexpr_any _ es _ (by omega) (HE.out.below ((Below.refl _ _).alloc (Nat.le_refl _) _))).mono ?_
 rintro e w1 ⟨rfl, hb1⟩
 rw [HD.out]
 simp only [World.size_alloc] at hb1
 have hB1 := one_below hb1
 obtain ⟨x0, x1, x2, x3, x4, x5⟩ := box6 hb1
 cases ho : oneB es
 ·go_wp2_with fail
  go_ret
  exact ⟨ret_bool (by simp only [gstmtB, stmtB]; simp [ho]), hB1⟩
 cases hn : nameB s
 ·go_wp2_with (go_at_call 87; refine (name_any _ _).mono ?_; rintro e w' ⟨rfl, rfl⟩; rw [hn])
  go_ret
  exact ⟨ret_bool (by simp only [gstmtB, stmtB]; simp [ho, hn]), hB1⟩
 by_cases hf0 : 0 < fs.length
 case neg =>
  go_wp2_with (go_at_call 87; refine (name_any _ _).mono ?_; rintro e w' ⟨rfl, rfl⟩; rw [hn])
  go_ret
  refine ⟨ret_bool ?_, hB1⟩
  have : fs = [] := List.eq_nil_of_length_eq_zero (by omega)
  subst this
  have hoe : oneB [] = false := by simp [oneB, wholeTo]
  simp only [gstmtB, stmtB]; simp [ho, hn, hoe]
 go_wp2_with (go_at_call 87; refine (name_any _ _).mono ?_; rintro e w' ⟨rfl, rfl⟩; rw [hn])
 refine (gexpr_any _ fs _ (by omega) (HF.out.below hB1)).mono ?_
 rintro e w2 ⟨rfl, hb2⟩
 rw [HDF.out]
 have hb2' := hb1.trans (hb2.mono (by have := hb1.size; simp at this; omega))
 have hB2 := one_below hb2'
 clear x0 x1 x2 x3 x4 x5
 obtain ⟨x0, x1, x2, x3, x4, x5⟩ := box6 hb2'
 cases hof : oneB fs
 ·go_wp2_with fail
  go_ret
  exact ⟨ret_bool (by simp only [gstmtB, stmtB]; simp [ho, hn, hof]), hB2⟩
 rcases h3 t with ht | ⟨ht, ht2⟩ | ⟨-, -, rfl⟩ <;> rcases h3 l with hl | ⟨hl, hl2⟩ | ⟨-, -, rfl⟩
 all_goals go_wp2_with fail
 all_goals go_ret
 all_goals exact ⟨ret_bool (by simp only [gstmtB, stmtB]; simp [ho, hn, hof] <;> omega), hB2⟩
end
end Go.Proofs.YtpdndlghjldhjaaGreat
