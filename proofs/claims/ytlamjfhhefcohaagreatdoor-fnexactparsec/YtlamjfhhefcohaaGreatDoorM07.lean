import Derived.Test.YtlamjfhhefcohaaGreatDoorRows
import Derived.Test.YtlamjfhhefcohaaGreatDoorM01
import Derived.WalkKit
import Derived.WalkSpells
import Derived.ProofKit
import Derived.Deep.QuietTactic
import Derived.BigQuiet
import Derived.WalkSmall
namespace Go.Proofs.YtlamjfhhefcohaaGreatDoor
set_option linter.unusedVariables false
set_option linter.unusedSimpArgs false
set_option maxRecDepth 100000
set_option maxHeartbeats 16000000
section
open Go.RowKit
theorem Tcs.drewN {S : Nat → Prop} {a w : World} (h : Tcs S a w) (n : Nat) : Tcs S a (w.drewN n) := h.trans ⟨rfl, rfl, rfl, Nat.le_refl _, fun _ _ _ => rfl⟩
structure Cur (g : Nat) (a : Option Addr) (len cap : Nat) (W : World) : Prop where
 lt : g < W.heap.size
 s0 : W.cell? ⟨g, 0, none⟩ = some (.slice a len cap)
 s1 : ∃ i : Nat, i ≤ len ∧ W.cell? ⟨g, 1, none⟩ = some (.int .i64 i)
 s2 : ∃ h : Int, W.cell? ⟨g, 2, none⟩ = some (.int .i64 h)
 fz : ∀ j, W.frozen? ⟨g, j, none⟩ = false
 by8 : 0 < len → ∃ b off, a = some ⟨b, off, none⟩ ∧ b < W.heap.size ∧ b ≠ g ∧ ∀ j, j < len → ∃ z : Int, 0 ≤ z ∧ z ≤ 255 ∧ W.cell? ⟨b, off + j, none⟩ = some (.int .u8 z)
theorem Cur.drewN {g : Nat} {a : Option Addr} {len cap : Nat} {W : World} (hc : Cur g a len cap W) (n : Nat) : Cur g a len cap (W.drewN n) := ⟨hc.lt, hc.s0, hc.s1, hc.s2, hc.fz, hc.by8⟩
theorem Cur.keep {S : Nat → Prop} {g : Nat} {a : Option Addr} {len cap : Nat} {W W' : World} (hc : Cur g a len cap W) (ht : Tcs S W W') (hg : ¬ S g) (hb : ∀ b off, 0 < len → a = some ⟨b, off, none⟩ → ¬ S b) : Cur g a len cap W' := by
 have hlt := hc.lt
 obtain ⟨i, hi, c1⟩ := hc.s1
 obtain ⟨h, c2⟩ := hc.s2
 have e : ∀ q j, q < W.heap.size → ¬ S q → W'.cell? ⟨q, j, none⟩ = W.cell? ⟨q, j, none⟩ := fun q j hq hs => World.cell?_of_block (ht.block q hq hs)
 refine ⟨Nat.lt_of_lt_of_le hlt ht.size, (e g 0 hlt hg).trans hc.s0, ⟨i, hi, (e g 1 hlt hg).trans c1⟩, ⟨h, (e g 2 hlt hg).trans c2⟩, fun j => (World.frozen?_of_block (ht.block g hlt hg)).trans (hc.fz j), fun hl => ?_⟩
 obtain ⟨b, off, ha, hb', hbg, hz⟩ := hc.by8 hl
 exact ⟨b, off, ha, Nat.lt_of_lt_of_le hb' ht.size, hbg, fun j hj => by obtain ⟨z, z0, z1, cz⟩ := hz j hj; exact ⟨z, z0, z1, (e b _ hb' (hb b off hl ha)).trans cz⟩⟩
theorem Cur.below {g : Nat} {a : Option Addr} {len cap : Nat} {W W' : World} (hc : Cur g a len cap W) (hb : Below W.heap.size W W') : Cur g a len cap W' :=
 hc.keep (S := fun _ => False) hb.tcs (fun h => h) (fun _ _ _ _ h => h)
theorem Cur.blk {g : Nat} {a : Option Addr} {len cap : Nat} {W : World} (hc : Cur g a len cap W) : ∀ b off, 0 < len → a = some ⟨b, off, none⟩ → b < W.heap.size := fun b off hl ha => by
 obtain ⟨b', off', ha', hb', _⟩ := hc.by8 hl
 rw [ha'] at ha
 simp at ha
 omega
theorem Cur.alloc {g : Nat} {a : Option Addr} {len cap : Nat} {W : World} (hc : Cur g a len cap W) (o : Obj) : Cur g a len cap (W.alloc o) := hc.below ((Below.refl _ _).alloc (Nat.le_refl _) o)
structure Dr (g : Nat) (a : Option Addr) (len cap : Nat) (S : Nat → Prop) (w w' : World) : Prop where
 cur : Cur g a len cap w'
 tcs : Tcs S w w'
structure Lo (g : Nat) (a : Option Addr) (len : Nat) (S : Nat → Prop) (B : Nat) : Prop where
 gl : g < B
 sg : S g
 by8 : ∀ b off, 0 < len → a = some ⟨b, off, none⟩ → b < B ∧ (S b → False)
 s : ∀ k, S k → k < B
theorem Lo.mono {g : Nat} {a : Option Addr} {len : Nat} {S : Nat → Prop} {B B' : Nat} (h : Lo g a len S B) (hb : B ≤ B') : Lo g a len S B' :=
 ⟨by have := h.gl; omega, h.sg, fun b off x y => ⟨by have := (h.by8 b off x y).1; omega, (h.by8 b off x y).2⟩, fun k hk => by have := h.s k hk; omega⟩
theorem Cur.new {g : Nat} {a : Option Addr} {len cap : Nat} {S T : Nat → Prop} {B : Nat} {W W' : World} (hc : Cur g a len cap W) (hL : Lo g a len S B) (ht : Tcs T W W') (hT : ∀ k, T k → B ≤ k) : Cur g a len cap W' :=
 hc.keep ht (fun h => by have := hT _ h; have := hL.gl; omega) (fun b off x y h => by have := hT _ h; have := (hL.by8 b off x y).1; omega)
def B8 (w : World) (a : Option Addr) (len : Nat) : Prop :=
 0 < len → ∃ b off, a = some ⟨b, off, none⟩ ∧ b < w.heap.size ∧ ∀ j, j < len → ∃ z : Int, 0 ≤ z ∧ z ≤ 255 ∧ w.cell? ⟨b, off + j, none⟩ = some (.int .u8 z)
theorem B8.below {w w' : World} {a : Option Addr} {len : Nat} (h : B8 w a len) (hb : Below w.heap.size w w') : B8 w' a len := fun hl => by
 obtain ⟨b, off, ha, hlt, hc⟩ := h hl
 exact ⟨b, off, ha, by have := hb.size; omega, fun j hj => by obtain ⟨z, z0, z1, cz⟩ := hc j hj; exact ⟨z, z0, z1, (hb.cell (p := ⟨b, off + j, none⟩) hlt).trans cz⟩⟩
end
end Go.Proofs.YtlamjfhhefcohaaGreatDoor
