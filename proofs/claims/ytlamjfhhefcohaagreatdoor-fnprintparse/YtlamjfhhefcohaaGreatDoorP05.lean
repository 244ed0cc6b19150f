import Derived.Test.YtlamjfhhefcohaaGreatDoorP01
import Derived.Lib.SlKeysI
namespace Go.Proofs.YtlamjfhhefcohaaGreatDoor
set_option linter.all false
set_option maxRecDepth 100000
set_option maxHeartbeats 16000000
section
open Go.Maps
variable{fs:List Fu}{s:ByteArray}{D:DataW Unit}{f:Fu}
def qr(fs:List Fu)(s:ByteArray):Option Nat:=fs.findIdx? (fun f=>decide (f.name=s))
def DG(fs:List Fu)(ns:List Nd):List Nat:=ns.filterMap (fun n=>if n.kind=4 then qr fs n.name else none)
def zr(ss:List St):List Nd:=ss.flatMap (fun s=>s.e++s.f)
def Bu(fs:List Fu)(ss:List St):List Nat:=(List.range fs.length).filter (fun g=>decide (g∈DG fs (zr ss)))
end
section
variable{xs:List ByteArray}{s:ByteArray}{t:Tr}{f g:Nat}
def qb(xs:List ByteArray)(s:ByteArray):Bool:=xs.any (fun x=>decide (x=s))
theorem Bv{k:Nat}(hk:k<xs.length)(hs:xs[k]=s):qb xs s=true:=by
 unfold qb;rw[List.any_eq_true];exact⟨xs[k],g_ hk,decide_eq_true hs⟩
theorem Bw(h:∀j (hj:j<xs.length),xs[j]≠s):qb xs s=false:=by
 unfold qb;rw[List.any_eq_false];intro x hx;obtain⟨j,hj,rfl⟩:=List.getElem_of_mem hx;simpa using h j hj
end
end Go.Proofs.YtlamjfhhefcohaaGreatDoor
