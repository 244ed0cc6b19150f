import Derived.Test.YtnpidjamplmgjaaGreatDoorQ15
import Derived.OwnWalk
import Derived.Laws.MakeOwn
import Derived.Lib.QuietBelow
import Derived.BigQuiet
import Derived.Deep.RegionHeld
set_option linter.unusedSectionVars false
variable [Inhabited Go.Proofs.YtnpidjamplmgjaaGreatDoor.Pick]
namespace Go.Proofs.YtnpidjamplmgjaaGreatDoor
open Go.RowKit
open Go.RowKit Go.Sort
set_option linter.unusedVariables false
set_option linter.unusedSimpArgs false
set_option maxRecDepth 100000
set_option maxHeartbeats 16000000
theorem binG_any (P:Nat) (its:List It) (vg vf vn:Value) (fr en l op r a b:Int) (w:World) (hO:Es P w its vg vf vn fr en l) (hi:its.length<=8999999) (h0:0<=op) (h15:op<=15) :
  Calls Tryz.prog 123 #[.pointer (some ⟨P,0,none⟩),.int .i64 op,.int .i64 r,.int .i64 a,.int .i64 b] w fun e w'=>(∃u,e = .returned u)/\Wrote P w its (binL op r a b) vg vf vn fr en l w':=by
 have hop:op=0∨op=1∨op=2∨op=3∨op=4∨op=5∨op=6∨op=7∨op=8∨op=9∨op=10∨op=11∨op=12∨op=13∨op=14∨op=15:=by omega
 clear h0 h15
 rcases hop with rfl | rfl | rfl | rfl | rfl | rfl | rfl | rfl | rfl | rfl | rfl | rfl | rfl | rfl | rfl | rfl
 ·have HL:Hid (binL 0 r a b = [insI 31 r a b 0]):=rfl
  have HO:=hide hO
  have hlt:=hO.lt
  have hA : ∀o,Bl w (w.alloc o):=fun o=>(Below.refl _ _).alloc (Nat.le_refl _) o
  have HP:Hid (∀o,Calls Tryz.prog 18 #[.pointer (some ⟨P,0,none⟩),.int .i64 31,.int .i64 r,.int .i64 a,.int .i64 b,.int .i64 0] (w.alloc o) fun e w'=>(∃u,e = .returned u)/\Wrote P w its [insI 31 r a b 0] vg vf vn fr en l w'):=fun o=>(putS P its _ _ _ _ _ _ 31 r a b 0 (w.alloc o) (hO.below (hA o)) o_).mono (by
   rintro e w' ⟨hu,h1,h2⟩
   exact ⟨hu,h1,(Wq.below hlt (hA o)).trans h2⟩)
  clear hO hA hlt
  go_enter Tryz.func123,Tryz.ntmps123
  go_wp2_with fail
  refine (HP.out _).mono ?_
  rintro e w2 ⟨⟨u,rfl⟩,he⟩
  have HR:=hide he
  clear he HP
  go_wp2_with fail
  exact bodyPost_end (v:=.tuple #[]) (by simp [results,Tryz.results123,go_sem]) rfl ⟨⟨_,rfl⟩,by rw [HL.out];exact HR.out⟩
 ·have HL:Hid (binL 1 r a b = [insI 32 r a b 0]):=rfl
  have HO:=hide hO
  have hlt:=hO.lt
  have hA : ∀o,Bl w (w.alloc o):=fun o=>(Below.refl _ _).alloc (Nat.le_refl _) o
  have HP:Hid (∀o,Calls Tryz.prog 18 #[.pointer (some ⟨P,0,none⟩),.int .i64 32,.int .i64 r,.int .i64 a,.int .i64 b,.int .i64 0] (w.alloc o) fun e w'=>(∃u,e = .returned u)/\Wrote P w its [insI 32 r a b 0] vg vf vn fr en l w'):=fun o=>(putS P its _ _ _ _ _ _ 32 r a b 0 (w.alloc o) (hO.below (hA o)) o_).mono (by
   rintro e w' ⟨hu,h1,h2⟩
   exact ⟨hu,h1,(Wq.below hlt (hA o)).trans h2⟩)
  clear hO hA hlt
  go_enter Tryz.func123,Tryz.ntmps123
  go_wp2_with fail
  refine (HP.out _).mono ?_
  rintro e w2 ⟨⟨u,rfl⟩,he⟩
  have HR:=hide he
  clear he HP
  go_wp2_with fail
  exact bodyPost_end (v:=.tuple #[]) (by simp [results,Tryz.results123,go_sem]) rfl ⟨⟨_,rfl⟩,by rw [HL.out];exact HR.out⟩
 ·have HL:Hid (binL 2 r a b = [insI 33 r a b 0]):=rfl
  have HO:=hide hO
  have hlt:=hO.lt
  have hA : ∀o,Bl w (w.alloc o):=fun o=>(Below.refl _ _).alloc (Nat.le_refl _) o
  have HP:Hid (∀o,Calls Tryz.prog 18 #[.pointer (some ⟨P,0,none⟩),.int .i64 33,.int .i64 r,.int .i64 a,.int .i64 b,.int .i64 0] (w.alloc o) fun e w'=>(∃u,e = .returned u)/\Wrote P w its [insI 33 r a b 0] vg vf vn fr en l w'):=fun o=>(putS P its _ _ _ _ _ _ 33 r a b 0 (w.alloc o) (hO.below (hA o)) o_).mono (by
   rintro e w' ⟨hu,h1,h2⟩
   exact ⟨hu,h1,(Wq.below hlt (hA o)).trans h2⟩)
  clear hO hA hlt
  go_enter Tryz.func123,Tryz.ntmps123
  go_wp2_with fail
  refine (HP.out _).mono ?_
  rintro e w2 ⟨⟨u,rfl⟩,he⟩
  have HR:=hide he
  clear he HP
  go_wp2_with fail
  exact bodyPost_end (v:=.tuple #[]) (by simp [results,Tryz.results123,go_sem]) rfl ⟨⟨_,rfl⟩,by rw [HL.out];exact HR.out⟩
 ·have HL:Hid (binL 3 r a b = [insI 21 r a b 0]):=rfl
  have HO:=hide hO
  have hlt:=hO.lt
  have hA : ∀o,Bl w (w.alloc o):=fun o=>(Below.refl _ _).alloc (Nat.le_refl _) o
  have HP:Hid (∀o,Calls Tryz.prog 18 #[.pointer (some ⟨P,0,none⟩),.int .i64 21,.int .i64 r,.int .i64 a,.int .i64 b,.int .i64 0] (w.alloc o) fun e w'=>(∃u,e = .returned u)/\Wrote P w its [insI 21 r a b 0] vg vf vn fr en l w'):=fun o=>(putS P its _ _ _ _ _ _ 21 r a b 0 (w.alloc o) (hO.below (hA o)) o_).mono (by
   rintro e w' ⟨hu,h1,h2⟩
   exact ⟨hu,h1,(Wq.below hlt (hA o)).trans h2⟩)
  clear hO hA hlt
  go_enter Tryz.func123,Tryz.ntmps123
  go_wp2_with fail
  refine (HP.out _).mono ?_
  rintro e w2 ⟨⟨u,rfl⟩,he⟩
  have HR:=hide he
  clear he HP
  go_wp2_with fail
  exact bodyPost_end (v:=.tuple #[]) (by simp [results,Tryz.results123,go_sem]) rfl ⟨⟨_,rfl⟩,by rw [HL.out];exact HR.out⟩
 ·have HL:Hid (binL 4 r a b = [insI 22 r a b 0]):=rfl
  have HO:=hide hO
  have hlt:=hO.lt
  have hA : ∀o,Bl w (w.alloc o):=fun o=>(Below.refl _ _).alloc (Nat.le_refl _) o
  have HP:Hid (∀o,Calls Tryz.prog 18 #[.pointer (some ⟨P,0,none⟩),.int .i64 22,.int .i64 r,.int .i64 a,.int .i64 b,.int .i64 0] (w.alloc o) fun e w'=>(∃u,e = .returned u)/\Wrote P w its [insI 22 r a b 0] vg vf vn fr en l w'):=fun o=>(putS P its _ _ _ _ _ _ 22 r a b 0 (w.alloc o) (hO.below (hA o)) o_).mono (by
   rintro e w' ⟨hu,h1,h2⟩
   exact ⟨hu,h1,(Wq.below hlt (hA o)).trans h2⟩)
  clear hO hA hlt
  go_enter Tryz.func123,Tryz.ntmps123
  go_wp2_with fail
  refine (HP.out _).mono ?_
  rintro e w2 ⟨⟨u,rfl⟩,he⟩
  have HR:=hide he
  clear he HP
  go_wp2_with fail
  exact bodyPost_end (v:=.tuple #[]) (by simp [results,Tryz.results123,go_sem]) rfl ⟨⟨_,rfl⟩,by rw [HL.out];exact HR.out⟩
 ·have HL:Hid (binL 5 r a b = [insI 23 r a b 0]):=rfl
  have HO:=hide hO
  have hlt:=hO.lt
  have hA : ∀o,Bl w (w.alloc o):=fun o=>(Below.refl _ _).alloc (Nat.le_refl _) o
  have HP:Hid (∀o,Calls Tryz.prog 18 #[.pointer (some ⟨P,0,none⟩),.int .i64 23,.int .i64 r,.int .i64 a,.int .i64 b,.int .i64 0] (w.alloc o) fun e w'=>(∃u,e = .returned u)/\Wrote P w its [insI 23 r a b 0] vg vf vn fr en l w'):=fun o=>(putS P its _ _ _ _ _ _ 23 r a b 0 (w.alloc o) (hO.below (hA o)) o_).mono (by
   rintro e w' ⟨hu,h1,h2⟩
   exact ⟨hu,h1,(Wq.below hlt (hA o)).trans h2⟩)
  clear hO hA hlt
  go_enter Tryz.func123,Tryz.ntmps123
  go_wp2_with fail
  refine (HP.out _).mono ?_
  rintro e w2 ⟨⟨u,rfl⟩,he⟩
  have HR:=hide he
  clear he HP
  go_wp2_with fail
  exact bodyPost_end (v:=.tuple #[]) (by simp [results,Tryz.results123,go_sem]) rfl ⟨⟨_,rfl⟩,by rw [HL.out];exact HR.out⟩
 ·have HL:Hid (binL 6 r a b = [insI 28 r a b 0]):=rfl
  have HO:=hide hO
  have hlt:=hO.lt
  have hA : ∀o,Bl w (w.alloc o):=fun o=>(Below.refl _ _).alloc (Nat.le_refl _) o
  have HP:Hid (∀o,Calls Tryz.prog 18 #[.pointer (some ⟨P,0,none⟩),.int .i64 28,.int .i64 r,.int .i64 a,.int .i64 b,.int .i64 0] (w.alloc o) fun e w'=>(∃u,e = .returned u)/\Wrote P w its [insI 28 r a b 0] vg vf vn fr en l w'):=fun o=>(putS P its _ _ _ _ _ _ 28 r a b 0 (w.alloc o) (hO.below (hA o)) o_).mono (by
   rintro e w' ⟨hu,h1,h2⟩
   exact ⟨hu,h1,(Wq.below hlt (hA o)).trans h2⟩)
  clear hO hA hlt
  go_enter Tryz.func123,Tryz.ntmps123
  go_wp2_with fail
  refine (HP.out _).mono ?_
  rintro e w2 ⟨⟨u,rfl⟩,he⟩
  have HR:=hide he
  clear he HP
  go_wp2_with fail
  exact bodyPost_end (v:=.tuple #[]) (by simp [results,Tryz.results123,go_sem]) rfl ⟨⟨_,rfl⟩,by rw [HL.out];exact HR.out⟩
 ·have HL:Hid (binL 7 r a b = [insI 24 r a b 0]):=rfl
  have HP:=hide (putS P its _ _ _ _ _ _ 24 r a b 0 w hO o_)
  clear hO
  go_enter Tryz.func123,Tryz.ntmps123
  go_wp2_with fail
  refine HP.out.mono ?_
  rintro e w2 ⟨⟨u,rfl⟩,he⟩
  have HR:=hide he
  clear he HP
  go_wp2_with fail
  exact bodyPost_end (v:=.tuple #[]) (by simp [results,Tryz.results123,go_sem]) rfl ⟨⟨_,rfl⟩,by rw [HL.out];exact HR.out⟩
 ·have HL:Hid (binL 8 r a b = [insI 24 r b a 0]++[insI 15 r r 0 1]):=rfl
  have HP:=hide (putS P its _ _ _ _ _ _ 24 r b a 0 w hO o_)
  clear hO
  go_enter Tryz.func123,Tryz.ntmps123
  go_wp2_with fail
  refine HP.out.mono ?_
  rintro e w2 ⟨⟨u,rfl⟩,he⟩
  have HP2:=hide (putS P _ _ _ _ _ _ _ 15 r r 0 1 w2 he.1 (by simp;omega))
  have HE1:=hide he
  clear he HP
  go_wp2_with fail
  refine HP2.out.mono ?_
  rintro e w3 ⟨⟨u,rfl⟩,he3⟩
  have HR:=hide (HE1.out.trans he3)
  clear he3 HP2 HE1
  go_wp2_with fail
  exact bodyPost_end (v:=.tuple #[]) (by simp [results,Tryz.results123,go_sem]) rfl ⟨⟨_,rfl⟩,by rw [HL.out];exact HR.out⟩
 ·have HL:Hid (binL 9 r a b = [insI 24 r b a 0]):=rfl
  have HP:=hide (putS P its _ _ _ _ _ _ 24 r b a 0 w hO o_)
  clear hO
  go_enter Tryz.func123,Tryz.ntmps123
  go_wp2_with fail
  refine HP.out.mono ?_
  rintro e w2 ⟨⟨u,rfl⟩,he⟩
  have HR:=hide he
  clear he HP
  go_wp2_with fail
  exact bodyPost_end (v:=.tuple #[]) (by simp [results,Tryz.results123,go_sem]) rfl ⟨⟨_,rfl⟩,by rw [HL.out];exact HR.out⟩
 ·have HL:Hid (binL 10 r a b = [insI 24 r a b 0]++[insI 15 r r 0 1]):=rfl
  have HP:=hide (putS P its _ _ _ _ _ _ 24 r a b 0 w hO o_)
  clear hO
  go_enter Tryz.func123,Tryz.ntmps123
  go_wp2_with fail
  refine HP.out.mono ?_
  rintro e w2 ⟨⟨u,rfl⟩,he⟩
  have HP2:=hide (putS P _ _ _ _ _ _ _ 15 r r 0 1 w2 he.1 (by simp;omega))
  have HE1:=hide he
  clear he HP
  go_wp2_with fail
  refine HP2.out.mono ?_
  rintro e w3 ⟨⟨u,rfl⟩,he3⟩
  have HR:=hide (HE1.out.trans he3)
  clear he3 HP2 HE1
  go_wp2_with fail
  exact bodyPost_end (v:=.tuple #[]) (by simp [results,Tryz.results123,go_sem]) rfl ⟨⟨_,rfl⟩,by rw [HL.out];exact HR.out⟩
 ·have HL:Hid (binL 11 r a b = [insI 22 r a b 0]++[insI 14 r r 0 1]):=rfl
  have HP:=hide (putS P its _ _ _ _ _ _ 22 r a b 0 w hO o_)
  clear hO
  go_enter Tryz.func123,Tryz.ntmps123
  go_wp2_with fail
  refine HP.out.mono ?_
  rintro e w2 ⟨⟨u,rfl⟩,he⟩
  have HP2:=hide (putS P _ _ _ _ _ _ _ 14 r r 0 1 w2 he.1 (by simp;omega))
  have HE1:=hide he
  clear he HP
  go_wp2_with fail
  refine HP2.out.mono ?_
  rintro e w3 ⟨⟨u,rfl⟩,he3⟩
  have HR:=hide (HE1.out.trans he3)
  clear he3 HP2 HE1
  go_wp2_with fail
  exact bodyPost_end (v:=.tuple #[]) (by simp [results,Tryz.results123,go_sem]) rfl ⟨⟨_,rfl⟩,by rw [HL.out];exact HR.out⟩
 ·have HL:Hid (binL 12 r a b = [insI 22 r a b 0]++[insI 25 r 0 r 0]):=rfl
  have HP:=hide (putS P its _ _ _ _ _ _ 22 r a b 0 w hO o_)
  clear hO
  go_enter Tryz.func123,Tryz.ntmps123
  go_wp2_with fail
  refine HP.out.mono ?_
  rintro e w2 ⟨⟨u,rfl⟩,he⟩
  have HP2:=hide (putS P _ _ _ _ _ _ _ 25 r 0 r 0 w2 he.1 (by simp;omega))
  have HE1:=hide he
  clear he HP
  go_wp2_with fail
  refine HP2.out.mono ?_
  rintro e w3 ⟨⟨u,rfl⟩,he3⟩
  have HR:=hide (HE1.out.trans he3)
  clear he3 HP2 HE1
  go_wp2_with fail
  exact bodyPost_end (v:=.tuple #[]) (by simp [results,Tryz.results123,go_sem]) rfl ⟨⟨_,rfl⟩,by rw [HL.out];exact HR.out⟩
 ·have HL:Hid (binL 13 r a b = [insI 30 r a b 0]):=rfl
  have HO:=hide hO
  have hlt:=hO.lt
  have hA : ∀o,Bl w (w.alloc o):=fun o=>(Below.refl _ _).alloc (Nat.le_refl _) o
  have HP:Hid (∀o,Calls Tryz.prog 18 #[.pointer (some ⟨P,0,none⟩),.int .i64 30,.int .i64 r,.int .i64 a,.int .i64 b,.int .i64 0] (w.alloc o) fun e w'=>(∃u,e = .returned u)/\Wrote P w its [insI 30 r a b 0] vg vf vn fr en l w'):=fun o=>(putS P its _ _ _ _ _ _ 30 r a b 0 (w.alloc o) (hO.below (hA o)) o_).mono (by
   rintro e w' ⟨hu,h1,h2⟩
   exact ⟨hu,h1,(Wq.below hlt (hA o)).trans h2⟩)
  clear hO hA hlt
  go_enter Tryz.func123,Tryz.ntmps123
  go_wp2_with fail
  refine (HP.out _).mono ?_
  rintro e w2 ⟨⟨u,rfl⟩,he⟩
  have HR:=hide he
  clear he HP
  go_wp2_with fail
  exact bodyPost_end (v:=.tuple #[]) (by simp [results,Tryz.results123,go_sem]) rfl ⟨⟨_,rfl⟩,by rw [HL.out];exact HR.out⟩
 ·have HL:Hid (binL 14 r a b = [insI 26 r a b 0]):=rfl
  have HO:=hide hO
  have hlt:=hO.lt
  have hA : ∀o,Bl w (w.alloc o):=fun o=>(Below.refl _ _).alloc (Nat.le_refl _) o
  have HP:Hid (∀o,Calls Tryz.prog 18 #[.pointer (some ⟨P,0,none⟩),.int .i64 26,.int .i64 r,.int .i64 a,.int .i64 b,.int .i64 0] (w.alloc o) fun e w'=>(∃u,e = .returned u)/\Wrote P w its [insI 26 r a b 0] vg vf vn fr en l w'):=fun o=>(putS P its _ _ _ _ _ _ 26 r a b 0 (w.alloc o) (hO.below (hA o)) o_).mono (by
   rintro e w' ⟨hu,h1,h2⟩
   exact ⟨hu,h1,(Wq.below hlt (hA o)).trans h2⟩)
  clear hO hA hlt
  go_enter Tryz.func123,Tryz.ntmps123
  go_wp2_with fail
  refine (HP.out _).mono ?_
  rintro e w2 ⟨⟨u,rfl⟩,he⟩
  have HR:=hide he
  clear he HP
  go_wp2_with fail
  exact bodyPost_end (v:=.tuple #[]) (by simp [results,Tryz.results123,go_sem]) rfl ⟨⟨_,rfl⟩,by rw [HL.out];exact HR.out⟩
 ·have HL:Hid (binL 15 r a b = [insI 29 r a b 0]):=rfl
  have HO:=hide hO
  have hlt:=hO.lt
  have hA : ∀o,Bl w (w.alloc o):=fun o=>(Below.refl _ _).alloc (Nat.le_refl _) o
  have HP:Hid (∀o,Calls Tryz.prog 18 #[.pointer (some ⟨P,0,none⟩),.int .i64 29,.int .i64 r,.int .i64 a,.int .i64 b,.int .i64 0] (w.alloc o) fun e w'=>(∃u,e = .returned u)/\Wrote P w its [insI 29 r a b 0] vg vf vn fr en l w'):=fun o=>(putS P its _ _ _ _ _ _ 29 r a b 0 (w.alloc o) (hO.below (hA o)) o_).mono (by
   rintro e w' ⟨hu,h1,h2⟩
   exact ⟨hu,h1,(Wq.below hlt (hA o)).trans h2⟩)
  clear hO hA hlt
  go_enter Tryz.func123,Tryz.ntmps123
  go_wp2_with fail
  refine (HP.out _).mono ?_
  rintro e w2 ⟨⟨u,rfl⟩,he⟩
  have HR:=hide he
  clear he HP
  go_wp2_with fail
  exact bodyPost_end (v:=.tuple #[]) (by simp [results,Tryz.results123,go_sem]) rfl ⟨⟨_,rfl⟩,by rw [HL.out];exact HR.out⟩
theorem from_beg {ns:List Nd} {k i:Nat} {r:Int} (hk:k<=ns.length) (hb:begP ns k i) (h:fromP (ns.take k) r):r=i:=by
 have hlen:(ns.take k).length=k:=by simp;omega
 obtain ⟨b1,b2,b3⟩:=hb
 rcases h with ⟨i',rfl,h1,h2,h3⟩ | ⟨rfl,h1⟩
 ·rw [hlen] at h1 h3
  have:i'=i:=by
   rcases Nat.lt_trichotomy i' i with h | h | h
   ·have:=h3 i h o_;omega
   ·exact h
   ·have:=b3 i' h o_;omega
  omega
 ·have:=h1 i (by rw [hlen];omega)
  omega
theorem nhead_run (a:Option Addr) (n cap hi:Nat) (h2:hi<=n) (h3:n<=cap) : ∀w:World,(Instr.slice 121 (.slice a n cap) none (some (.int .i64 (hi:Int))) none).run Tryz.prog w = .ok (.slice a hi cap) w:=by
 intro w
 have hz:Tryz.prog.elem 121=151:=by kernel_rfl
 have hs:(sizeOf 151).run Tryz.prog w = .ok 3 w:=by kernel_rfl
 rw [run_slice_h w 121 a n cap (by rw [hz];exact Tryz.underlying121) .i64 _ o_ o_,hz,hs]
 simp only [Result.andThen,sliced,Int.toNat_natCast,Nat.sub_zero,Nat.zero_mul]
 have e:(if cap=0 then a else a.map (·.add 0))=a:=by
  split
  ·rfl
  ·cases a <;> simp [Addr.add]
 rw [e]
def KRow (w0 w:World) (N:Nat) (v:Value) (e:List Nd) (b:Nat->Nat) (A i:Nat):Prop:=
 ∃(B cap:Nat) (vs:List Value),v = .slice (some ⟨B,0,none⟩) (A-i) cap/\A-i<=cap/\cap<=9223372036854775807/\N<=B/\B<w.heap.size/\vs.length=A-i/\∀j (h:j<vs.length),w.cell? ⟨B,j,none⟩=some vs[j]/\Nodes w0 vs[j] (kid e b (i+j))
theorem KRow.kids {w0 w:World} {N:Nat} {v:Value} {e:List Nd} {b:Nat->Nat} {A:Nat} (h:KRow w0 w N v e b A 0):Kids w0 w N v e b A:=by
 obtain ⟨B,cap,vs,rfl,h1,h2,h3,h4,h5,h6⟩:=h
 rw [Nat.sub_zero] at *
 refine ⟨_,cap,rfl,h1,h2,fun _=>⟨B,rfl,h3,h4,fun i hi => ?_⟩⟩
 have:=h6 i o_
 rw [Nat.zero_add] at this
 exact ⟨_,this⟩
theorem nodes_one {w:World} {v:Value} {ns:List Nd} (h:Nodes w v ns):v.oneCell'=true:=by
 obtain ⟨a,cap,rfl,_⟩:=h
 rfl
theorem addr0 (g j:Nat):(⟨g,0,none⟩:Addr).add j=⟨g,j,none⟩:=by
 simp [Addr.add]
 try (intro h;omega)
theorem KRow.cons {w0 w w':World} {N:Nat} {v' u:Value} {vs:List Value} {e:List Nd} {b:Nat->Nat} {A i n:Nat} (hi:i<A) (hvl:vs.length=A-(i+1)) (hvs : ∀j (h:j<vs.length),Nodes w0 vs[j] (kid e b (i+1+j))) (hu:Nodes w0 u (kid e b i)) (hown:w'.ownsRow N 121 1 v' (1+n) ([u]++vs)) (hn:n=A-(i+1)):KRow w0 w' N v' e b A i:=by
 have hown0:=hown
 obtain ⟨hlen,h⟩:=hown
 rcases h with ⟨_,h0⟩ | ⟨g,cap,cur,rfl,hg,hh,hc1,hc2,hc3,hc4⟩
 ·omega
 ·refine ⟨g,cap,u::vs,by rw [show 1+n=A-i by omega],by omega,by simp only [maxLen] at hc2;omega,hg,(Array.getElem?_eq_some_iff.1 hh).1,by simp;omega,fun j hj => ?_⟩
  have hcell:=hown0.cells (g:=g) rfl j ((u::vs)[j]) (by simp [List.getElem?_eq_getElem hj])
  rw [addr0] at hcell
  refine ⟨hcell,?_⟩
  cases j with
  | zero=>simpa using hu
  | succ j=>
   have:=hvs j (by simpa using hj)
   simpa [Nat.add_comm,Nat.add_left_comm,Nat.add_assoc] using this
theorem kids_any (w0:World) (v:Value) (e:List Nd) (A:Nat) (b:Nat->Nat) (w:World) (hl:e.length<=1048576) (hc:Nodes w0 v e) (hB0:Below w0.heap.size w0 w) (hb:Cut e A b) :
  Calls Tryz.prog 91 #[v] w fun r w'=>∃v',r = .returned v'/\Kids w0 w' w.heap.size v' e b A/\Below w.heap.size w w':=by
 have HN:=hide hc
 have HB0:=hide hB0
 have HB:=hide hb
 obtain ⟨a,cap,rfl,hcl,hcm,-⟩:=hc
 have hpos:=hb.len
 obtain ⟨m,hm⟩ : ∃m,e.length=m+1:=⟨e.length-1,by omega⟩
 have hA6:=hb.arA
 have hA6':(A:Int)<=6:=by omega
 obtain ⟨i0,hi,hz0,hz1,hz2⟩:=info_parts info_nodes
 have HR:Hid (∀W:World,Bl w W->Calls Tryz.prog 90 #[.slice a e.length cap] W fun r w'=>r = .returned (.agg #[.int .i64 (rootN e).kind,.int .i64 (rootN e).val,.string (rootN e).name])/\Bl W w'):=fun W hW=>by
  have:=root_any _ e W hpos hl (HN.out.below (HB0.out.trans (hW.mono HB0.out.size)))
  rw [<-rootN_eq e hpos] at this
  exact this
 have HA:Hid (∀W:World,Calls Tryz.prog 116 #[.agg #[.int .i64 (rootN e).kind,.int .i64 (rootN e).val,.string (rootN e).name]] W fun r w'=>r = .returned (.int .i64 A)/\Bl W w'):=fun W=>by
  have:=arity_nd (rootN e) W
  rw [hb.ar] at this
  exact this
 generalize (rootN e).kind=rk at HR HA
 generalize (rootN e).val=rv at HR HA
 generalize (rootN e).name=rn at HR HA
 have HM:=hide hm
 have e1:((m+1:Nat):Int)-1=(m:Int):=by omega
 rw [hm] at hl hcl hpos HN HR ⊢
 clear hb hB0 hm
 have hnr:=nhead_run a (m+1) cap m o_ hcl
 go_enter Tryz.func91,Tryz.ntmps91
 go_wp2_with fail
 refine (HR.out _ (bel_a _ _)).mono ?_
 rintro x w1 ⟨rfl,hb1⟩
 go_wp2_with fail
 refine (HA.out w1).mono ?_
 rintro x w2 ⟨rfl,hb2⟩
 have hbW:Bl w w2:=((bel_a _ _).trans (hb1.mono (by simp))).trans (hb2.mono (by have:=hb1.size;simp at this;omega))
 have hs1:=hb1.size
 have hs2:=hb2.size
 simp only [World.size_alloc] at hs1
 have HK0:Hid (KRow w0 w2 w.heap.size (.slice (some ⟨w.heap.size,0,none⟩) 0 0) e b A A):=⟨w.heap.size,0,[],by rw [Nat.sub_self],by omega,by omega,Nat.le_refl _,by omega,by simp,fun j hj=>absurd hj (by simp)⟩
 have HBW:=hide hbW
 clear hb1 hb2 hbW hs1 hs2 hnr
 go_wp2_with fail
 go_loopw [3,4,5] (fun rs ot ix wr=>∃(k:Nat),k<=A/\ix = .int .i64 (k:Int)/\rs = .slice a (b k) cap/\KRow w0 wr w.heap.size ot e b A k/\Bl w wr) (fun _ _ ix _=>(RowKit.intOf ix).toNat)
 case atStart=>exact ⟨A,Nat.le_refl _,rfl,by rw [HB.out.last,HM.out];rfl,HK0.out,HBW.out⟩
 case round=>
  obtain ⟨k,hk,rfl,rfl,hK,hB⟩:=hrel
  have HK:=hide hK
  rcases Nat.eq_zero_or_pos k with rfl | hk0
  ·have HKs:Hid (Kids w0 wr w.heap.size u4 e b A):=hK.kids
   clear hK
   go_wp2_with fail
   exact bodyPost_ret (v:=u4) (by simp [results,Tryz.results91,go_sem]) rfl ⟨_,rfl,HKs.out,hB⟩
  ·obtain ⟨i,rfl⟩ : ∃i,k=i+1:=⟨k-1,by omega⟩
   have hbe:=(HB.out.beg i o_).1
   have hble:=HB.out.le' (i+1) o_
   rw [HM.out] at hble
   have HC:Hid (Calls Tryz.prog 117 #[.slice a (b (i+1)) cap] wr fun x w'=>x = .returned (.int .i64 (b i))/\Bl wr w'):=by
    have hNh:Nodes wr (.slice a (b (i+1)) cap) (e.take (b (i+1))):=(Nodes.head (by rw [HM.out];exact HN.out.below (HB0.out.trans (hB.mono HB0.out.size))) (b (i+1)) (by rw [HM.out];omega))
    refine (from_any _ (e.take (b (i+1))) wr (by simp;omega) (fun n hn=>HB.out.good n (List.mem_of_mem_take hn)) hNh).mono ?_
    rintro x w' ⟨r,hf,-,-,rfl,hb⟩
    rw [from_beg (by rw [HM.out];omega) (HB.out.beg i o_) hf]
    exact ⟨rfl,hb⟩
   have hcut:=ncut_run_l a (b (i+1)) cap (b i) o_ o_
   have hhd:=nhead_run a (b (i+1)) cap (b i) o_ o_
   have HNC:Hid (Nodes w0 (.slice (if cap=b i then a else a.map (·.add (b i*3))) (b (i+1)-b i) (cap-b i)) (kid e b i)):=Nodes.cut (by rw [HM.out];exact HN.out) (b i) (b (i+1)) o_ (by rw [HM.out];omega)
   generalize (if cap=b i then a else a.map (·.add (b i*3)))=ua at hcut HNC
   generalize b (i+1)-b i=un at hcut HNC
   generalize cap-b i=uc at hcut HNC
   obtain ⟨B,kc,vs,rfl,k1,k2,k3,k4,k5,k6⟩:=hK
   have HV:Hid (∀j (h:j<vs.length),Nodes w0 vs[j] (kid e b (i+1+j))):=fun j hj=>(k6 j hj).2
   have HVC:Hid (∀j (h:j<vs.length),wr.cell? ⟨B,j,none⟩=some vs[j]):=fun j hj=>(k6 j hj).1
   clear k6 HK
   generalize hbi:b i=bi at *
   generalize hbi1:b (i+1)=bi1 at *
   go_wp2_with fail
   refine HC.out.mono ?_
   rintro x w3 ⟨rfl,hb3⟩
   have hB3:=hB.trans (hb3.mono hB.size)
   have HNews:Hid (∀o j u,vs[j]? = some u->(w3.alloc o).cell? ((⟨B,0,none⟩:Addr).add j)=some u):=fun o j u hj=>by
    obtain ⟨hlt,rfl⟩:=List.getElem?_eq_some_iff.1 hj
    rw [addr0,((hb3.alloc hb3.size o)).cell (p:=⟨B,j,none⟩) k4]
    exact HVC.out j hlt
   have HOne:Hid (∀u∈vs,u.oneCell'=true):=fun u hu=>by
    obtain ⟨j,hj,rfl⟩:=List.mem_iff_getElem.1 hu
    exact nodes_one (HV.out j hj)
   have hs3:=hB3.size
   have hs3':=hb3.size
   go_wp2_with (at_builtin;refine wpList_append_own _ rfl _ _ 153 rfl w.heap.size 121 i0 (.slice none 0 0) 1 24 Tryz.underlying153 hi hz0 hz1 hz2 rfl (by decide) _ 1 [.slice ua un uc] rfl (World.ownsRow_lit w3 #[.slice ua un uc] 1 hs3 (by decide) rfl) ⟨B,0,none⟩ (A-(i+1)) kc vs rfl (by rw [k5,Nat.mul_one]) (HNews.out _) HOne.out (by unfold maxLen;omega) o_ (by simp;omega) ?_)
   intro v' w4 hown hgrow _
   have hB4:Bl w w4:=(hB3.alloc hs3 _).grown hgrow (by simp;omega) (fun k hk=>by simp only [Value.ownBlock,Option.some.injEq] at hk;omega)
   have HKc:Hid (KRow w0 w4 w.heap.size v' e b A i):=KRow.cons (w:=w) o_ k5 HV.out HNC.out hown rfl
   clear hown hgrow
   go_wp2_with fail
   go_roundw
   case rel=>exact ⟨i,by omega,by go_num,by rw [hbi],HKc.out,hB4⟩
   case measure=>simp [RowKit.intOf]
theorem most_any (a b:Int) (w:World):Calls Tryz.prog 68 #[.int .i64 a,.int .i64 b] w fun e w'=>e = .returned (.int .i64 (max a b))/\Below w.heap.size w w':=by
 by_cases h:b<a
 ·have HM:Hid (max a b=a):=by show _=_;omega
  go_enter Tryz.func68,Tryz.ntmps68
  go_wp2_with fail
  go_ret
  exact ⟨by rw [HM.out];rfl,Below.refl _ _⟩
 ·have HM:Hid (max a b=b):=by show _=_;omega
  go_enter Tryz.func68,Tryz.ntmps68
  go_wp2_with fail
  go_ret
  exact ⟨by rw [HM.out];rfl,Below.refl _ _⟩
def NeedS (w0:World) (e:List Nd) (g:Int->Int):Prop:=∀(v:Value) (w:World) (d:Int),Nodes w0 v e->Below w0.heap.size w0 w->0<=d->d+7*e.length<=1000000000->Calls Tryz.prog 69 #[v,.int .i64 d] w fun x w'=>x = .returned (.int .i64 (g d))/\Below w.heap.size w w'
theorem needS_step (w0:World) (e:List Nd) (A:Nat) (b:Nat->Nat) (G:Nat->Int->Int) (hc0:Cut e A b) (hl1:e.length<=1048576) (hbd : ∀i,i<A->NFb (kid e b i).length (G i)) (hX : ∀i,i<A->NeedS w0 (kid e b i) (G i)) :
  NeedS w0 e (need1 (rootN e) A G):=by
 intro v w d hN hB hd hdl
 have HX:=hide hX
 have he:=hc0.len
 have HG:Hid (nodeB (rootN e)=true):=hc0.root_good
 have HA:Hid (arity (rootN e)=A):=hc0.ar
 have hA6:=hc0.arA
 have HKl:Hid (∀i,i<A->(kid e b i).length<e.length):=fun i hi=>hc0.kid_lt i hi
 have HBd:Hid (∀i,i<=A->d<=callM G i d/\callM G i d<=d+7*(e.length+1)):=fun i hi=>callM_bd i d o_ (fun k hk=>(hbd k o_).mono (by have:=hc0.kid_lt k o_;omega))
 have HB:=hide hB
 have HR:Hid (Calls Tryz.prog 90 #[v] w fun r w'=>r = .returned (.agg #[.int .i64 (rootN e).kind,.int .i64 (rootN e).val,.string (rootN e).name])/\Bl w w'):=by
  have:=root_any _ e w he hl1 (hN.below hB)
  rw [<-rootN_eq e he] at this
  exact this
 have HK:=hide fun (W:World) (hW:Bl w W)=>kids_any w0 v e A b W hl1 hN (hB.trans (hW.mono hB.size)) hc0
 clear hB hN hc0 hX hbd
 generalize hR:rootN e=R at HG HA HR ⊢
 clear hR
 obtain ⟨nk,nv,nm⟩:=R
 simp only at HR
 have hba : ∀w1:World,Bl w w1->∀o,Bl w (w1.alloc o):=fun w1 h o=>h.alloc h.size o
 go_enter Tryz.func69,Tryz.ntmps69
 go_wp2_with fail
 refine HR.out.mono ?_
 rintro x w1 ⟨rfl,hb1⟩
 go_wp2_with fail
 refine (HK.out _ (hba _ hb1 _)).mono ?_
 rintro x W ⟨vk,rfl,hKd,hb2⟩
 obtain ⟨g0,g1,g2⟩:W.cell? ⟨w1.heap.size,0,none⟩=some (.int .i64 nk)/\W.cell? ⟨w1.heap.size,1,none⟩=some (.int .i64 nv)/\W.cell? ⟨w1.heap.size,2,none⟩=some (.string nm):=by
  refine ⟨?_,?_,?_⟩
  ·rw [hb2.cell (by simp)];simp
  ·rw [hb2.cell (by simp)];simp
  ·rw [hb2.cell (by simp)];simp
 have HBW:Hid (Bl w W):=(hba _ hb1 _).trans (hb2.mono (by have:=hb1.size;simp;omega))
 have HB0:Hid (Bl w0 W):=HB.out.trans (HBW.out.mono HB.out.size)
 have HKd:=hide hKd
 clear hba hb1 hb2 HR HK
 generalize w1.heap.size=G' at g0 g1 g2 ⊢
 have hkk:1<=nk/\nk<=9:=kind_good HG.out
 have hk:(nk=3∨nk=6)∨nk=7∨(nk=8∨nk=9)∨(nk=1∨nk=2∨nk=4∨nk=5):=by omega
 rcases hk with hk | rfl | hk | hk
 ·have hA1:A=1:=by have:=HA.out;rcases hk with rfl | rfl <;> (simp [arity] at this;omega)
  subst hA1
  obtain ⟨ua,uc,rfl,hu1,hu2,hu3⟩:=hKd
  obtain ⟨B,rfl,-,-,hBc⟩:=hu3 o_
  obtain ⟨vi,hv1,hv2⟩:=hBc 0 o_
  have HE:Hid (need1 ⟨nk,nv,nm⟩ 1 G d=G 0 d):=by show _=_;simp [need1,hk]
  have HC:=hide (HX.out 0 o_ vi W d hv2 HB0.out hd (by have:=HKl.out 0 o_;omega))
  clear hu3 hBc hv2 HKd
  generalize G 0 d=q at HC HE
  rcases hk with rfl | rfl
  ·go_wp2_with fail
   refine HC.out.mono ?_
   rintro x w2 ⟨rfl,hb2⟩
   go_wp2_with fail
   go_ret
   exact ⟨by rw [HE.out];rfl,HBW.out.trans (hb2.mono HBW.out.size)⟩
  ·go_wp2_with fail
   refine HC.out.mono ?_
   rintro x w2 ⟨rfl,hb2⟩
   go_wp2_with fail
   go_ret
   exact ⟨by rw [HE.out];rfl,HBW.out.trans (hb2.mono HBW.out.size)⟩
 ·have hA2:A=2:=by have:=HA.out;simp [arity] at this;omega
  subst hA2
  obtain ⟨ua,uc,rfl,hu1,hu2,hu3⟩:=hKd
  obtain ⟨B,rfl,-,-,hBc⟩:=hu3 o_
  obtain ⟨v0,hv0,hn0⟩:=hBc 0 o_
  obtain ⟨v1,hv1,hn1⟩:=hBc 1 o_
  have HE:Hid (need1 ⟨7,nv,nm⟩ 2 G d=max (G 0 d) (G 1 (d+1))):=by show _=_;simp [need1]
  have c0 : ∀dd os,Calls Tryz.prog 69 #[v0,.int .i64 d] (grow (redrawn W dd) os) fun e w''=>e = .returned (.int .i64 (G 0 d))/\∃p:Regrown,w''=grow (redrawn W p.d) p.os:=fun dd os=>Calls.regrown_of (HX.out 0 o_ v0 _ d hn0 (HB0.out.trans ((below_regrown W dd os).mono HB0.out.size)) hd (by have:=HKl.out 0 o_;omega))
  obtain ⟨d1,hd1⟩ : ∃d1,d1=d+1:=⟨_,rfl⟩
  rw [<-hd1] at HE
  have c1 : ∀dd os,Calls Tryz.prog 69 #[v1,.int .i64 d1] (grow (redrawn W dd) os) fun e w''=>e = .returned (.int .i64 (G 1 d1))/\∃p:Regrown,w''=grow (redrawn W p.d) p.os:=fun dd os=>Calls.regrown_of (HX.out 1 o_ v1 _ d1 hn1 (HB0.out.trans ((below_regrown W dd os).mono HB0.out.size)) o_ (by have:=HKl.out 1 o_;omega))
  generalize G 0 d=p0 at c0 HE
  generalize G 1 d1=p1 at c1 HE
  have c2 : ∀dd os,Calls Tryz.prog 68 #[.int .i64 p0,.int .i64 p1] (grow (redrawn W dd) os) fun e w''=>e = .returned (.int .i64 (max p0 p1))/\∃p:Regrown,w''=grow (redrawn W p.d) p.os:=fun dd os=>Calls.regrown_of (most_any p0 p1 _)
  have k0:=cell_regrown hv0
  have k1:=cell_regrown hv1
  have hwd:IntKind.i64.wrap (d+1)=d1:=by rw [hd1];simp [IntKind.wrap,IntKind.bits,IntKind.signed];omega
  clear hd1
  clear hu3 hBc hn0 hn1 HKd
  go_wp2_with fail
  refine wp_region_quiet_below (by kernel_rfl) (by kernel_rfl) ?_
  repeat (quiet_step (first | with_reducible exact c0 _ _ | with_reducible exact c1 _ _ | with_reducible exact c2 _ _))
  refine wpQuiet_nil ?_
  intro _ hw'
  obtain ⟨⟨dq,osq⟩,hw''⟩:=hw'
  subst hw''
  go_wp2_with fail
  go_ret
  exact ⟨by rw [HE.out];rfl,HBW.out.trans ((below_regrown W dq osq).mono HBW.out.size)⟩
 ·have hA2:A=2:=by have:=HA.out;rcases hk with rfl | rfl <;> (simp [arity] at this;omega)
  subst hA2
  obtain ⟨ua,uc,rfl,hu1,hu2,hu3⟩:=hKd
  obtain ⟨B,rfl,-,-,hBc⟩:=hu3 o_
  obtain ⟨v0,hv0,hn0⟩:=hBc 0 o_
  obtain ⟨v1,hv1,hn1⟩:=hBc 1 o_
  have HE:Hid (need1 ⟨nk,nv,nm⟩ 2 G d=max (G 0 d) (G 1 d)):=by show _=_;rcases hk with rfl | rfl <;> simp [need1]
  have c0 : ∀dd os,Calls Tryz.prog 69 #[v0,.int .i64 d] (grow (redrawn W dd) os) fun e w''=>e = .returned (.int .i64 (G 0 d))/\∃p:Regrown,w''=grow (redrawn W p.d) p.os:=fun dd os=>Calls.regrown_of (HX.out 0 o_ v0 _ d hn0 (HB0.out.trans ((below_regrown W dd os).mono HB0.out.size)) hd (by have:=HKl.out 0 o_;omega))
  have c1 : ∀dd os,Calls Tryz.prog 69 #[v1,.int .i64 d] (grow (redrawn W dd) os) fun e w''=>e = .returned (.int .i64 (G 1 d))/\∃p:Regrown,w''=grow (redrawn W p.d) p.os:=fun dd os=>Calls.regrown_of (HX.out 1 o_ v1 _ d hn1 (HB0.out.trans ((below_regrown W dd os).mono HB0.out.size)) hd (by have:=HKl.out 1 o_;omega))
  generalize G 0 d=p0 at c0 HE
  generalize G 1 d=p1 at c1 HE
  have c2 : ∀dd os,Calls Tryz.prog 68 #[.int .i64 p0,.int .i64 p1] (grow (redrawn W dd) os) fun e w''=>e = .returned (.int .i64 (max p0 p1))/\∃p:Regrown,w''=grow (redrawn W p.d) p.os:=fun dd os=>Calls.regrown_of (most_any p0 p1 _)
  have k0:=cell_regrown hv0
  have k1:=cell_regrown hv1
  clear hu3 hBc hn0 hn1 HKd
  rcases hk with rfl | rfl
  ·go_wp2_with fail
   refine wp_region_quiet_below (by kernel_rfl) (by kernel_rfl) ?_
   repeat (quiet_step (first | with_reducible exact c0 _ _ | with_reducible exact c1 _ _ | with_reducible exact c2 _ _))
   refine wpQuiet_nil ?_
   intro _ hw'
   obtain ⟨⟨dq,osq⟩,hw''⟩:=hw'
   subst hw''
   go_wp2_with fail
   go_ret
   exact ⟨by rw [HE.out];rfl,HBW.out.trans ((below_regrown W dq osq).mono HBW.out.size)⟩
  ·go_wp2_with fail
   refine wp_region_quiet_below (by kernel_rfl) (by kernel_rfl) ?_
   repeat (quiet_step (first | with_reducible exact c0 _ _ | with_reducible exact c1 _ _ | with_reducible exact c2 _ _))
   refine wpQuiet_nil ?_
   intro _ hw'
   obtain ⟨⟨dq,osq⟩,hw''⟩:=hw'
   subst hw''
   go_wp2_with fail
   go_ret
   exact ⟨by rw [HE.out];rfl,HBW.out.trans ((below_regrown W dq osq).mono HBW.out.size)⟩
 ·have HE:Hid (need1 ⟨nk,nv,nm⟩ A G d=callM G A d):=by show _=_;rcases hk with rfl | rfl | rfl | rfl <;> simp [need1]
  obtain ⟨ua,uc,rfl,hu1,hu2,-⟩:=hKd
  have h3:(nk == 3)=false:=by simp;omega
  have h6:(nk == 6)=false:=by simp;omega
  have h7:(nk == 7)=false:=by simp;omega
  have h8:(nk == 8)=false:=by simp;omega
  have h9:(nk == 9)=false:=by simp;omega
  clear hk hkk
  go_wp2_with fail
  go_loopw [7,8] (fun m i wr=>∃(k:Nat),k<=A/\i = .int .i64 k/\m = .int .i64 (callM G k d)/\Bl W wr) (fun _ i _=>A-(RowKit.intOf i).toNat)
  case atStart=>exact ⟨0,Nat.zero_le _,rfl,rfl,Below.refl _ _⟩
  case round=>
   obtain ⟨k,hk,rfl,rfl,hBk⟩:=hrel
   obtain ⟨hb1,hb2⟩:=HBd.out k hk
   by_cases hlt:k<A
   ·obtain ⟨ua',uc',heq,-,-,hu3⟩:=HKd.out
    simp only [Value.slice.injEq,true_and] at heq
    obtain ⟨rfl,rfl⟩:=heq
    obtain ⟨B,rfl,-,hBl,hBc⟩:=hu3 o_
    obtain ⟨vi,hv1,hv2⟩:=hBc k hlt
    have hv:=(hBk.cell (p:=⟨B,k,none⟩) hBl).trans hv1
    have HC:=hide (HX.out k hlt vi wr (d+k) hv2 (HB0.out.trans (hBk.mono HB0.out.size)) o_ (by have:=HKl.out k hlt;omega))
    have HN:Hid (callM G (k+1) d=max (callM G k d) (G k (d+k))):=rfl
    have hwk:IntKind.i64.wrap (d+(k:Int))=d+(k:Int):=by simp [IntKind.wrap,IntKind.bits,IntKind.signed];omega
    clear hu3 hBc hv2 hv1 g0 g1 g2
    generalize callM G k d=p at hb1 hb2 HN
    generalize G k (d+k)=q at HC HN
    go_wp2_with fail
    refine HC.out.mono ?_
    rintro x w2 ⟨rfl,hb3⟩
    have hB2:=hBk.trans (hb3.mono hBk.size)
    clear hb3 hv HC
    go_wp2_with fail
    refine (most_any p q w2).mono ?_
    rintro x w3 ⟨rfl,hb4⟩
    have hB3:=hB2.trans (hb4.mono hB2.size)
    go_wp2_with fail
    go_roundw
    case rel=>exact ⟨k+1,by omega,by go_num,by rw [HN.out],hB3⟩
    case measure=>simp [RowKit.intOf];omega
   ·obtain rfl:k=A:=by omega
    clear g0 g1 g2
    generalize callM G k d=p at hb1 hb2 HE
    go_wp2_with fail
    go_ret
    exact ⟨by rw [HE.out];rfl,HBW.out.trans (hBk.mono HBW.out.size)⟩
theorem needS_any (w0:World) (N:Nat) : ∀e:List Nd,e.length<=N->N<=1048576->oneB e=true->∃g,NF e g/\NFb e.length g/\NeedS w0 e g:=by
 induction N with
 | zero=>intro e hl _ h;have:=one_pos h;omega
 | succ N ih=>
  intro e hl hN h
  obtain ⟨A,b,hc,hk⟩:=one_cuts h
  have h0 : ∀i,∃g,i<A->NF (kid e b i) g/\NFb (kid e b i).length g/\NeedS w0 (kid e b i) g:=by
   intro i
   by_cases hi:i<A
   ·obtain ⟨g,hg⟩:=ih (kid e b i) (by have:=hc.kid_lt i hi;omega) o_ (hk i hi)
    exact ⟨g,fun _=>hg⟩
   ·exact ⟨fun d=>d,fun h=>absurd h hi⟩
  refine ⟨_,NF.cut hc (G:=fun i=>(h0 i).choose) (fun i hi=>((h0 i).choose_spec hi).1),?_,needS_step w0 e A b _ hc o_ (fun i hi=>((h0 i).choose_spec hi).2.1) (fun i hi=>((h0 i).choose_spec hi).2.2)⟩
  have:=need1_bd (L:=e.length-1) hc.root_good hc.ar (fun i hi=>(((h0 i).choose_spec hi).2.1).mono (by have:=hc.kid_lt i hi;omega))
  rw [show e.length-1+1=e.length by have:=hc.len;omega] at this
  exact this
end Go.Proofs.YtnpidjamplmgjaaGreatDoor
