import Derived.Test.YtlamjfhhefcohaaGreatDoorP09
import Derived.Test.YtlamjfhhefcohaaGreatDoorP05
namespace Go.Proofs.YtlamjfhhefcohaaGreatDoor
open Go.Proofs.Tryz
open Go.RowKit
set_option linter.all false
set_option maxRecDepth 100000
set_option maxHeartbeats 16000000
theorem zw{a b:ByteArray}(h:a≠b):(a.toList == b.toList)=false:=by
 rw[beq_eq_false_iff_ne];intro e;rw[ByteArray.toList_eq,ByteArray.toList_eq]at e;exact h (ByteArray.ext (Array.ext' e))
theorem lj(xs:List ByteArray)(v:Value)(s:ByteArray)(w:World)(hl:xs.length<=10000000)(hx:Strs w v xs):
  Calls prog 182 #[v,.string s] w fun e w'=>e=.returned (.bool (qb xs s))/\Below w.heap.size w w':=by
 obtain⟨a,c,rfl,-,-,hc⟩:=hx;have HC:=ah hc;clear hc;go_enter func182,ntmps182;go_wp2;go_loopw[5] (fun i wr=>∃k:Nat,k<=xs.length/\i=.int .i64 k/\(∀j (hj:j<xs.length),j<k->xs[j]≠s)/\Bl w wr) (fun i _=>xs.length-(RowKit.intOf i).toNat)
 case atStart=>exact⟨0,y_,rfl,fun j hj h=>absurd h (Nat.not_lt_zero _),r_⟩
 case round=>
  obtain⟨k,hk,rfl,hn,hB⟩:=hrel;have HN:=ah hn;by_cases hlt:k<xs.length
  ·obtain⟨b,Jb,rfl,hc⟩:=HC.out o_;have d0:=(hc.below hB) k hlt;by_cases hs:xs[k]=s
   ·have HR:Hid (qb xs s=true):=Bv hlt hs;rw[hs]at d0;clear hc hs;go_wp2;go_ret;exact⟨aj HR.out.symm,hB⟩
   ·have HS:Hid (∀j (hj:j<xs.length),j<k+1->xs[j]≠s):=fun j hj h=>by
     by_cases e:j=k
     ·subst e;exact hs
     ·exact HN.out j hj o_
    have Ja:=zw hs;generalize xs[k]=fn at d0 hs Ja;go_wp2;go_roundw
    case rel=>exact⟨k+1,o_,by go_num,HS,hB⟩
    case measure=>simp[RowKit.intOf];omega
  ·have HR:Hid (qb xs s=false):=Bw (fun j hj=>HN.out j hj o_);go_wp2;go_ret;exact⟨aj HR.out.symm,hB⟩
end Go.Proofs.YtlamjfhhefcohaaGreatDoor
