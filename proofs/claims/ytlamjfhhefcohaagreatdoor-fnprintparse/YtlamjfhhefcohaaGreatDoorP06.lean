import Derived.Test.YtlamjfhhefcohaaGreatDoorRows
import Derived.Test.YtlamjfhhefcohaaGreatDoorP02
import Derived.Deep.RegionHeld
import Derived.Lib.ItoaNum
import Derived.Lib.ConvBytes
namespace Go.Proofs.YtlamjfhhefcohaaGreatDoor
open Go.Proofs.Tryz
open Go.RowKit
set_option linter.all false
set_option maxRecDepth 100000
set_option maxHeartbeats 16000000
theorem vO(m:Nat)(W:World)(b:Nat)(h:W.cell? ⟨b,0,none⟩=some (.int .u8 (48+(m:Int)%10))):(convert 22 9 (.slice (some ⟨b,0,none⟩) 1 1)).run prog W=.ok (.string ⟨#[dig m]⟩) W:=by
 refine run_convert_bytes_back (P:=prog) W 22 9 5 ⟨b,0,none⟩ 1 [dig m] underlying22 underlying5 underlying9 (fun j hj=>?_);obtain rfl:j=0:=by simpa using hj
 have e:(((dig m).toNat:Nat):Int)=48+(m:Int)%10:=by rw[s7];omega
 simp[Addr.add,e,h]
theorem kz(N:Nat):∀u,u<=N->(Lib.decDigits u).length<=u+1:=by
 induction N with
 | zero=>
  intro u h;rw[Lib.decDigits,dif_pos o_];simp
 | succ n ih=>
  intro u h;rw[Lib.decDigits];split
  ·simp
  ·have:=ih (u / 10) o_
   simp only[l_a,l_c,l_n];omega
theorem jw(N:Nat):∀u,u<=N->(u:Int)<=2147483648->∀w:World,Calls prog 43 #[.int .i64 u] w fun e w'=>e=.returned (.string (tx (Lib.decDigits u)))/\Below w.heap.size w w':=by
  induction N with
  | zero=>
    intro u hu hb w;obtain rfl:u=0:=by omega
    have Jb:=vO 0 (w.alloc (.cells #[.int .u8 48] 5)) w.heap.size i_;go_enter func43,ntmps43;go_wp2;go_ret;exact⟨cC (by rw[Lib.decDigits];simp[tx,dig]),r_.alloc n_ _⟩
  | succ n ih=>
    intro u hu hb w;have HI:Hid (∀u,u<=n->(u:Int)<=2147483648->∀w:World,Calls prog 43 #[.int .i64 u] w fun e w'=>e=.returned (.string (tx (Lib.decDigits u)))/\Below w.heap.size w w'):=ih;clear ih;by_cases h10:u<10
    · have Jb:=vO u (w.alloc (.cells #[.int .u8 (48+(u:Int))] 5)) w.heap.size (by simp;omega)
      have HD:Hid (Lib.decDigits u=[dig u]):=by
        show _=_;rw[Lib.decDigits,dif_pos h10,dig,Nat.mod_eq_of_lt h10]
      go_enter func43,ntmps43;go_wp2;go_ret;exact⟨cC (by rw[HD.out];rfl),r_.alloc n_ _⟩
    · have HD:Hid (Lib.decDigits u=Lib.decDigits (u / 10)++[dig u]):=by
        show _=_;rw[Lib.decDigits,dif_neg h10];rfl
      have hI:∀w:World,Calls prog 43 #[.int .i64 ((u:Int) / 10)] w fun e w'=>e=.returned (.string (tx (Lib.decDigits (u / 10))))/\Below w.heap.size w w':=by
        have e1:(u:Int) / 10=((u / 10:Nat):Int):=o_;rw[e1];exact HI.out (u / 10) o_ o_
      have Jc:Hid _:=hI;clear hI;have Je:((tx (Lib.decDigits (u / 10))).size:Int)<=1000000000:=by
        rw[tx_size];have:=kz (u / 10) (u / 10) n_;omega
      have hE:tx (Lib.decDigits (u / 10))++(⟨#[dig u]⟩:ByteArray)=tx (Lib.decDigits (u / 10)++[dig u]):=aq _ [dig u];have HE:Hid _:=hE;clear hE;generalize hA:tx (Lib.decDigits (u / 10))=A at*;have Jb:=vO u;have Ji:(⟨#[dig u]⟩:ByteArray).size=1:=rfl;have ht:(u:Int).tmod 10=(u:Int)%10:=Int.tmod_eq_emod_of_nonneg o_;have Jd:IntKind.i64.wrap ((u:Int) / 10)=(u:Int) / 10:=by simp[IntKind.wrap,IntKind.bits,IntKind.signed];omega
      have Jf:IntKind.i64.wrap ((u:Int)%10)=(u:Int)%10:=by simp[IntKind.wrap,IntKind.bits,IntKind.signed];omega
      have Jh:IntKind.i64.wrap (48+(u:Int)%10)=48+(u:Int)%10:=by simp[IntKind.wrap,IntKind.bits,IntKind.signed];omega
      have Jg:IntKind.u8.wrap (48+(u:Int)%10)=48+(u:Int)%10:=by simp[IntKind.wrap,IntKind.bits,IntKind.signed];omega
      go_enter func43,ntmps43;go_wp2_with fail;go_region_held (fun _=>True) (exact trivial)
        (first
        | (with_reducible refine Calls.mono (Jc.out _) ?_;rintro e w2 ⟨rfl,Ja⟩;simp only[World.size_drew,World.size_alloc]at Ja;have q2:=fun h=>Ja.cell (p:=⟨w.heap.size,0,none⟩) h))
      all_goals go_wp2_with fail
      all_goals go_ret
      all_goals refine⟨cC (by rw[HE.out,HD.out]),?_⟩
      · exact(r_.drew.trans Ja).alloc Ja.size _
      · exact(r_.drew.alloc i_ _).trans (Ja.mono o_)
      · exact(r_.drew.alloc i_ _).trans (Ja.mono o_)
end Go.Proofs.YtlamjfhhefcohaaGreatDoor
