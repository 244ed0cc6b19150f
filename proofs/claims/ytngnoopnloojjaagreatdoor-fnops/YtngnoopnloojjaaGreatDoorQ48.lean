import Derived.Test.YtngnoopnloojjaaGreatDoorQ31
import Derived.Shelf.RegionOpen
namespace Go.Proofs.YtngnoopnloojjaaGreatDoor
open Go.Proofs.Tryz Go.RowKit
set_option linter.all false
set_option maxRecDepth 100000
set_option maxHeartbeats 0
variable[Inhabited Pick]
def oS(n:Int):IntKind.i64.wrap n=(n+9223372036854775808)%18446744073709551616-9223372036854775808:=by simp[IntKind.wrap,IntKind.bits,IntKind.signed];omega
def eT.mono{B B':Nat}{w:AT}{v:BY}{I:List BY}(h:eT B w v I)(J:B'<=B):eT B' w v I:=by refine⟨h.1,?_⟩;rcases h.2 with H|⟨g,Jb,Ja,H,h2,h3⟩;exact .inl H;exact .inr ⟨g,Jb,Ja,H,o_,h3⟩
theorem Src.lit(w:AT)(x:BY)(t:IN):Src (w.alloc (.cells #[x] t)) (rV w.heap.size 1 1) [x]:=by
 refine⟨_,_,rfl,λh=>(by cases h),λad had j y hy=>?_⟩;simp only[If]at had;subst had;cases j with
 | zero=>simp at hy;subst hy;simp[Addr.add]
 | succ j=>simp at hy
def Fa(a:Option Addr)(n cap h:Nat)(h2:h<=n)(h3:n<=cap):∀w:AT,(Instr.slice 90 (.slice a n cap) (some (V h)) none none).run prog w=.ok (.slice (if cap=h then a else a.map (·.add (h*1))) (n-h) (cap-h)) w:=by intro w;have H:prog.elem 90=55:=k_;have I:(sizeOf 55).run prog w=.ok 1 w:=k_;rw[run_slice_l w 90 a n cap (by rw[H];exact underlying90) .i64 _ o_ o_,H,I];simp only[Result.andThen,sliced,Int.toNat_natCast]
def zg(a:Option Addr)(n cap h:Nat)(h2:h<=n)(h3:n<=cap):∀w:AT,(Instr.slice 90 (.slice a n cap) none (some (V h)) none).run prog w=.ok (.slice a h cap) w:=by intro w;have H:prog.elem 90=55:=k_;have I:(sizeOf 55).run prog w=.ok 1 w:=k_;rw[run_slice_h w 90 a n cap (by rw[H];exact underlying90) .i64 _ o_ o_,H,I];cases a <;> simp[Result.andThen,sliced,Addr.add]
end Go.Proofs.YtngnoopnloojjaaGreatDoor
