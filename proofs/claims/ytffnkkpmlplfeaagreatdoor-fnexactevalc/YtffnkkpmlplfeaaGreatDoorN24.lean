import Derived.Test.YtffnkkpmlplfeaaGreatDoorN04
import Derived.Test.YtffnkkpmlplfeaaGreatDoorN13
import Derived.Test.YtffnkkpmlplfeaaGreatDoorN05
namespace Go.Proofs.YtffnkkpmlplfeaaGreatDoor
open Go.Proofs.Tryz
open Go.RowKit
set_option linter.all false
set_option maxRecDepth 100000
set_option maxHeartbeats 16000000
variable[Inhabited Pick]
def gln (g:Gl):Nat:=if g.size=0 then 1 else g.size.toNat
theorem box_frB (w:World) (cs:Array Value) (t:TypeId) (hm:cs.size<=10000000):FrC (w.alloc (.cells cs t)) w.heap.size cs.toList:=by
 intro j x hj;have h:(w.alloc (.cells cs t)).ownsRow w.heap.size t 1 (.slice (some ⟨w.heap.size,0,none⟩) cs.size cs.size) cs.size cs.toList:=World.ownsRow_lit w cs cs.size n_ (by unfold maxLen;omega) o_;have hc:=World.ownsRow.cells h (g:=w.heap.size) rfl j x hj;have e:(⟨w.heap.size,0,none⟩:Addr).add j=⟨w.heap.size,j,none⟩:=by
  simp[Addr.add];try (intro h;omega)
 rw[e] at hc;refine⟨hc,?_⟩;rcases h.2 with ⟨e,-⟩|⟨g,cap,cur,e,h3,h4,h5⟩
 ·simp at e
 ·simp only[Value.slice.injEq,Option.some.injEq,Addr.mk.injEq] at e;obtain⟨⟨rfl,-,-⟩,-,-⟩:=e;unfold World.frozen?;simp only[h4];simp
def zer (n:Nat):List Value:=List.replicate n (.int .i64 0)
def gw0 (g:Gl):List Int:=List.replicate (gln g) 0
def s00 (t:Tr) (i:List Int) (F:Int):ES:=⟨t.globals.map gw0,[],i,[],F.toNat,0,0⟩
theorem gw0_len (g:Gl):(gw0 g).length=gln g:=by simp[gw0]
theorem gw0_map (g:Gl):(gw0 g).map (Value.int .i64)=zer (gln g):=by simp[gw0,zer]
def valR:ER->Int
 | .inl v =>v
 | .inr (.inr (.inl v)) =>v
 | _=>0
def stE:ER->Int
 | .inr (.inr (.inr c)) =>c
 | _=>1
theorem info_i64Z:(prog.info? 2).map (λi=>(i.zero,i.size,i.bytes))=some (some (.int .i64 0),1,8):=by kernel_rfl
theorem mk_i64 (N:Nat) (hN:N<=4000) (W:World):(Instr.makeSlice 26 (.int .i64 (N:Int)) (.int .i64 (N:Int))).run prog W=.ok (.slice (some ⟨W.heap.size,0,none⟩) N N) (W.alloc (.cells (Array.replicate N (.int .i64 0)) 2)):=by
 obtain⟨i0,hi,hz0,hz1,hz2⟩:=info_parts info_i64Z;have h:=run_make (P:=prog) W 26 2 i0 (.int .i64 0) underlying26 hi hz0 .i64 .i64 (N:Int) (N:Int) o_ (Int.le_refl _) (by rw[hz2];omega) o_;rw[hz1] at h;have e:madeCells (Value.int .i64 0).cells ((N:Int).toNat*1)=Array.replicate N (.int .i64 0):=by
  apply Array.ext
  ·simp[madeCells]
  ·intro i h1 h2;simp[madeCells,Value.cells,Nat.mod_one]
 rw[e,Int.toNat_natCast] at h;exact h
end Go.Proofs.YtffnkkpmlplfeaaGreatDoor
