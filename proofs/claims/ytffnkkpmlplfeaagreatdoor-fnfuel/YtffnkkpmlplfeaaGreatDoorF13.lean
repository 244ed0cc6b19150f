import Derived.Test.YtffnkkpmlplfeaaGreatDoorF03
import Derived.Deep.RegionHeld
import Derived.Lib.ItoaNum
import Derived.Lib.ConvBytes
namespace Go.Proofs.YtffnkkpmlplfeaaGreatDoor
open Go.World
open Go.Proofs.Tryz Go.RowKit
set_option linter.all false
set_option maxRecDepth 100000
set_option maxHeartbeats 0
variable[Inhabited Pick]
theorem yu(m:Nat)(W:World)(b:Nat)(h:W.cell? ⟨b,0,none⟩=some (.int .u8 (48+(m:Int)%10))):(convert 44 9 (rV b 1 1)).run prog W=.ok (sV ⟨#[dig m]⟩) W:=by
 refine run_convert_bytes_back (P:=prog) W 44 9 5 ⟨b,0,none⟩ 1 [dig m] underlying44 underlying5 underlying9 (λj hj=>?_);obtain rfl:j=0:=by simpa using hj
 have e:(((dig m).toNat:Nat):Int)=48+(m:Int)%10:=by rw[uS];omega
 simp[Addr.add,e,h]
theorem oZ(N:Nat):∀u,u<=N->(Lib.decDigits u).length<=u+1:=by
 induction N with
 | zero=>
  intro u h;rw[Lib.decDigits,dif_pos o_];simp
 | succ n ih=>
  intro u h;rw[Lib.decDigits];split
  ·simp
  ·have:=ih (u / 10) o_
   simp only[l_a,l_c,l_n];omega
theorem qp(N:Nat):∀u,u<=N->(u:Int)<=2147483648->∀w:World,Calls prog 115 #[V u] w λe w'=>e=rW (sV (tx (Lib.decDigits u)))/\Below w.heap.size w w':=by
  induction N with
  | zero=>
    intro u hu hb w;obtain rfl:u=0:=by omega
    have Z:=yu 0 (w.alloc (.cells #[.int .u8 48] 5)) w.heap.size i_;go_in;go_wp2;go_ret;exact⟨oP (by rw[Lib.decDigits];simp[tx,dig]),r_.alloc n_ _⟩
  | succ n ih=>
    intro u hu hb w;have HI:Hid (∀u,u<=n->(u:Int)<=2147483648->∀w:World,Calls prog 115 #[V u] w λe w'=>e=rW (sV (tx (Lib.decDigits u)))/\Below w.heap.size w w'):=ih;clear ih;by_cases h10:u<10
    · have Z:=yu u (w.alloc (.cells #[.int .u8 (48+(u:Int))] 5)) w.heap.size (by simp;omega)
      have J:Hid (Lib.decDigits u=[dig u]):=by
        show _=_;rw[Lib.decDigits,dif_pos h10,dig,Nat.mod_eq_of_lt h10]
      go_in;go_wp2;go_ret;exact⟨oP (by rw[J.out];rfl),r_.alloc n_ _⟩
    · have J:Hid (Lib.decDigits u=Lib.decDigits (u / 10)++[dig u]):=by
        show _=_;rw[Lib.decDigits,dif_neg h10];rfl
      have Y:∀w:World,Calls prog 115 #[V ((u:Int) / 10)] w λe w'=>e=rW (sV (tx (Lib.decDigits (u / 10))))/\Below w.heap.size w w':=by
        have e1:(u:Int) / 10=((u / 10:Nat):Int):=o_;rw[e1];exact HI.out (u / 10) o_ o_
      have Jc:Hid _:=Y;clear Y;have Jg:((tx (Lib.decDigits (u / 10))).size:Int)<=1000000000:=by
        rw[oQ];have:=oZ (u / 10) (u / 10) n_;omega
      have U:tx (Lib.decDigits (u / 10))++(⟨#[dig u]⟩:ByteArray)=tx (Lib.decDigits (u / 10)++[dig u]):=uT _ [dig u];have HE:Hid _:=U;clear U;generalize hA:tx (Lib.decDigits (u / 10))=A at*;have Z:=yu u;have Jh:(⟨#[dig u]⟩:ByteArray).size=1:=rfl;have ht:(u:Int).tmod 10=(u:Int)%10:=Int.tmod_eq_emod_of_nonneg o_;have Ji:IntKind.i64.wrap ((u:Int) / 10)=(u:Int) / 10:=by simp[IntKind.wrap,IntKind.bits,IntKind.signed];omega
      have Jf:IntKind.i64.wrap ((u:Int)%10)=(u:Int)%10:=by simp[IntKind.wrap,IntKind.bits,IntKind.signed];omega
      have Je:IntKind.i64.wrap (48+(u:Int)%10)=48+(u:Int)%10:=by simp[IntKind.wrap,IntKind.bits,IntKind.signed];omega
      have Jd:IntKind.u8.wrap (48+(u:Int)%10)=48+(u:Int)%10:=by simp[IntKind.wrap,IntKind.bits,IntKind.signed];omega
      go_in;go_wp2_with fail;go_region_held (λ_=>True) (exact trivial)
        (first
        | (with_reducible refine Calls.mono (Jc.out _) ?_;rintro e w2 ⟨rfl,I⟩;simp only[World.size_drew,World.size_alloc]at I;have q2:=λh=>I.cell (p:=⟨w.heap.size,0,none⟩) h))
      all_goals go_wp2_with fail
      all_goals go_ret
      all_goals refine⟨oP (by rw[HE.out,J.out]),?_⟩
      · exact(r_.drew.trans I).alloc I.size _
      · exact(r_.drew.alloc i_ _).trans (I.mono o_)
      · exact(r_.drew.alloc i_ _).trans (I.mono o_)
end Go.Proofs.YtffnkkpmlplfeaaGreatDoor
