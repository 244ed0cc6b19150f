import Derived.Test.YtffnkkpmlplfeaaGreatDoorN21
import Derived.Shelf.RegionOpen
namespace Go.Proofs.YtffnkkpmlplfeaaGreatDoor
open Go.Proofs.Tryz
open Go.RowKit
set_option linter.all false
set_option maxRecDepth 100000
set_option maxHeartbeats 16000000
variable[Inhabited Pick]
theorem wrapI64 (n:Int):IntKind.i64.wrap n=(n+9223372036854775808) % 18446744073709551616-9223372036854775808:=by
 simp[IntKind.wrap,IntKind.bits,IntKind.signed];omega
theorem VRow.mono {B B':Nat} {w:World} {v:Value} {us:List Value} (h:VRow B w v us) (hB:B'<=B):VRow B' w v us:=by
 refine⟨h.1,?_⟩;rcases h.2 with h1|⟨g,cap,cur,h1,h2,h3⟩
 ·exact .inl h1
 ·exact .inr ⟨g,cap,cur,h1,by omega,h3⟩
theorem Src.lit (w:World) (x:Value) (t:TypeId):Src (w.alloc (.cells #[x] t)) (.slice (some ⟨w.heap.size,0,none⟩) 1 1) [x]:=by
 refine⟨_,_,rfl,λh=>(by cases h),λad had j y hy => ?_⟩;simp only[Option.some.injEq] at had;subst had;cases j with
 | zero=>simp at hy;subst hy;simp[Addr.add]
 | succ j=>simp at hy
theorem vcut_l (a:Option Addr) (n cap lo:Nat) (h2:lo<=n) (h3:n<=cap) : ∀w:World,(Instr.slice 226 (.slice a n cap) (some (.int .i64 lo)) none none).run prog w=.ok (.slice (if cap=lo then a else a.map (·.add (lo*1))) (n-lo) (cap-lo)) w:=by
 intro w;have hz:prog.elem 226=183:=by kernel_rfl
 have hs:(sizeOf 183).run prog w=.ok 1 w:=by kernel_rfl
 rw[run_slice_l w 226 a n cap (by rw[hz];exact underlying226) .i64 _ o_ o_,hz,hs];simp only[Result.andThen,sliced,Int.toNat_natCast]
theorem vcut_h (a:Option Addr) (n cap lo:Nat) (h2:lo<=n) (h3:n<=cap) : ∀w:World,(Instr.slice 226 (.slice a n cap) none (some (.int .i64 lo)) none).run prog w=.ok (.slice a lo cap) w:=by
 intro w;have hz:prog.elem 226=183:=by kernel_rfl
 have hs:(sizeOf 183).run prog w=.ok 1 w:=by kernel_rfl
 rw[run_slice_h w 226 a n cap (by rw[hz];exact underlying226) .i64 _ o_ o_,hz,hs];cases a <;> simp[Result.andThen,sliced,Addr.add]
end Go.Proofs.YtffnkkpmlplfeaaGreatDoor
