import Derived.Test.YtlamjfhhefcohaaGreatDoorP27
import Derived.Test.YtlamjfhhefcohaaGreatDoorP19
import Derived.Deep.RegionLaw
set_option linter.unusedSectionVars false
variable [Inhabited Go.Proofs.YtlamjfhhefcohaaGreatDoor.Pick]
namespace Go.Proofs.YtlamjfhhefcohaaGreatDoor
open Go.Proofs.Tryz
open Go.RowKit
set_option linter.all false
set_option maxRecDepth 100000
set_option maxHeartbeats 16000000
theorem eh(g:Nat)(a:Option Addr)(len cap:Nat)(S:Nat->Prop)(ps:List ByteArray)(v:Value)(w:World)(hl:len<=1048576)(hS:S g)(hc:dP g a len cap w)(hv:∀W,am S w W->Strs W v ps)(h1:1<=ps.length/\ps.length<=100000):
  Calls prog 67 #[.pointer (some ⟨g,0,none⟩),v] w fun e w'=>∃s,s∈ps/\e=.returned (.string s)/\Dr g a len cap S w w':=by
 obtain⟨HV,HC⟩:=h2 hv hc;obtain⟨av,cv,rfl,-⟩:=hv w (am.refl _ _);go_enter func67,ntmps67;go_wp2_with fail;refine(aI g a len cap S _ _ hl hS HC.out o_).mono ?_;rintro e w1 ⟨x,rfl,hx,hd⟩;have HD:=ah hd;obtain⟨i,rfl⟩:∃i:Nat,x=i:=⟨x.toNat,o_⟩;have hi:i<ps.length:=o_;obtain⟨b,Jb,c,he,Ja⟩:=kF (HV.out w1 hd.tcs) i hi;have HM:Hid (ps[i]∈ps):=g_ hi;generalize ps[i]=s at Ja HM;simp only[Value.slice.injEq]at he;obtain⟨rfl,-,rfl⟩:=he;go_wp2;go_ret;exact⟨_,HM,rfl,HD⟩
end Go.Proofs.YtlamjfhhefcohaaGreatDoor
