import Derived.Test.YtjhmgjimppflhaaGreatDoorY46
import Derived.Test.YtjhmgjimppflhaaGreatDoorY20
import Derived.Deep.RegionLaw
set_option linter.unusedSectionVars false
variable [Inhabited Go.Proofs.YtjhmgjimppflhaaGreatDoor.Pick]
namespace Go.Proofs.YtjhmgjimppflhaaGreatDoor
set_option linter.unusedVariables false
set_option linter.unusedSimpArgs false
set_option maxRecDepth 100000
set_option maxHeartbeats 16000000
section
open Go.RowKit
set_option maxRecDepth 100000 in
set_option maxHeartbeats 1000000 in
theorem pick_any (g : Nat) (a : Option Addr) (len cap : Nat) (S : Nat → Prop) (ps : List ByteArray) (v : Value) (w : World) (hl : len ≤ 1048576) (hS : S g) (hc : Cur g a len cap w) (hv : ∀ W, Tcs S w W → Strs W v ps) (h1 : 1 ≤ ps.length ∧ ps.length ≤ 100000) :
  Calls Tryz.prog 43 #[.pointer (some ⟨g, 0, none⟩), v] w fun e w' => ∃ s, s ∈ ps ∧ e = .returned (.string s) ∧ Dr g a len cap S w w' := by
 have HV : Hid (∀ W, Tcs S w W → Strs W v ps) := hv
 have HC : Hid (Cur g a len cap w) := hc
 obtain ⟨av, cv, rfl, -⟩ := hv w (Tcs.refl _ _)
 clear hv hc
 go_enter Tryz.func43, Tryz.ntmps43
 go_wp2_with fail
 refine (below_any g a len cap S _ _ hl hS HC.out (by omega)).mono ?_
 rintro e w1 ⟨x, rfl, hx, hd⟩
 have HD : Hid (Dr g a len cap S w w1) := hd
 obtain ⟨i, rfl⟩ : ∃ i : Nat, x = i := ⟨x.toNat, by omega⟩
 have hi : i < ps.length := by omega
 obtain ⟨b, off, c, he, hcell⟩ := strs_at (HV.out w1 hd.tcs) i hi
 have HM : Hid (ps[i] ∈ ps) := List.getElem_mem hi
 generalize ps[i] = s at hcell HM
 simp only [Value.slice.injEq] at he
 obtain ⟨rfl, -, rfl⟩ := he
 clear hd
 go_wp2_with fail
 go_ret
 exact ⟨_, HM.out, rfl, HD.out⟩
end
end Go.Proofs.YtjhmgjimppflhaaGreatDoor
