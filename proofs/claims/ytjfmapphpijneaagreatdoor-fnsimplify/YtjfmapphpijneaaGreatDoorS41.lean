import Derived.Shelf.RegionOpen
import Derived.Test.YtjfmapphpijneaaGreatDoorS29
namespace Go.Proofs.YtjfmapphpijneaaGreatDoor
set_option linter.all false
set_option maxRecDepth 100000
set_option maxHeartbeats 0
open Go.Proofs.Tryz Go.RowKit
variable[Inhabited Pick]
def nJ(n:Int):IntKind.i64.wrap n=(n+9223372036854775808)%18446744073709551616-9223372036854775808:=by simp[IntKind.wrap,IntKind.bits,IntKind.signed];omega
def ff.mono{B J:Nat}{w:AT}{v:BY}{us:List BY}(h:ff B w v us)(U:J<=B):ff J w v us:=by refine⟨h.1,?_⟩;rcases h.2 with I|⟨g,Jb,Ja,I,h2,h3⟩;exact .inl I;exact .inr ⟨g,Jb,Ja,I,o_,h3⟩
theorem Src.lit(w:AT)(x:BY)(t:JZ):Src (w.alloc (.cells #[x] t)) (rV w.heap.size 1 1) [x]:=by
 refine⟨_,_,rfl,λh=>(by cases h),λad had j y hy=>?_⟩;simp only[J0]at had;subst had;cases j with
 | zero=>simp at hy;subst hy;simp[Addr.add]
 | succ j=>simp at hy
def CJ(a:Option Addr)(n cap h:Nat)(h2:h<=n)(h3:n<=cap):∀w:AT,(Instr.slice 186 (.slice a n cap) (some (V h)) none none).run prog w=.ok (.slice (if cap=h then a else a.map (·.add (h*1))) (n-h) (cap-h)) w:=by intro w;have I:prog.elem 186=127:=k_;have J:(sizeOf 127).run prog w=.ok 1 w:=k_;rw[run_slice_l w 186 a n cap (by rw[I];exact underlying186) .i64 _ o_ o_,I,J];simp only[Result.andThen,sliced,Int.toNat_natCast]
def xk(a:Option Addr)(n cap h:Nat)(h2:h<=n)(h3:n<=cap):∀w:AT,(Instr.slice 186 (.slice a n cap) none (some (V h)) none).run prog w=.ok (.slice a h cap) w:=by intro w;have I:prog.elem 186=127:=k_;have J:(sizeOf 127).run prog w=.ok 1 w:=k_;rw[run_slice_h w 186 a n cap (by rw[I];exact underlying186) .i64 _ o_ o_,I,J];cases a <;> simp[Result.andThen,sliced,Addr.add]
