import Derived.Test.YtggffidnhkpelaaGreatDoorPV1
import Derived.Laws.IdiomStrings
import Derived.Below
namespace Go.Proofs.YtggffidnhkpelaaGreatDoor
open Go.RowKit
set_option linter.unusedVariables false
set_option linter.unusedSimpArgs false

theorem ret_str {a b : ByteArray} (h : a = b) : Ending.returned (.string a) = .returned (.string b) := by rw [h]
def dig (m : Nat) : UInt8 := UInt8.ofNat (48 + m % 10)
theorem dig_toNat (m : Nat) : (dig m).toNat = 48 + m % 10 := by
  unfold dig
  simp only [UInt8.toNat_ofNat']
  omega
def digsN : Nat → Nat → List UInt8
 | 0, _ => []
 | k + 1, m => if m = 0 then [] else digsN k (m / 10) ++ [dig m]
theorem digsN_any : ∀ k j m : Nat, m ≤ k → m ≤ j → digsN k m = digsN j m
 | 0, 0, m, _, _ => rfl
 | 0, j + 1, m, h, _ => by obtain rfl : m = 0 := by omega
                           simp [digsN]
 | k + 1, 0, m, _, h => by obtain rfl : m = 0 := by omega
                           simp [digsN]
 | k + 1, j + 1, m, h, h' => by
   simp only [digsN]
   by_cases e : m = 0
   · rw [if_pos e, if_pos e]
   · rw [if_neg e, if_neg e, digsN_any k j (m / 10) (by omega) (by omega)]
def digs (m : Nat) : List UInt8 := digsN m m
theorem digs_zero : digs 0 = [] := rfl
theorem digs_pos {m : Nat} (h : 0 < m) : digs m = digs (m / 10) ++ [dig m] := by
  obtain ⟨k, rfl⟩ : ∃ k, m = k + 1 := ⟨m - 1, by omega⟩
  show digsN (k + 1) (k + 1) = _
  rw [digsN, if_neg (by omega), digsN_any k ((k + 1) / 10) ((k + 1) / 10) (by omega) (Nat.le_refl _)]; rfl
theorem digs_len (n : Nat) : ∀ m, m ≤ n → (digs m).length ≤ m := by
  induction n with
  | zero =>
    intro m h
    have : m = 0 := by omega
    rw [this, digs_zero]
    simp
  | succ n ih =>
    intro m h
    by_cases h0 : m = 0
    · subst h0; simp [digs_zero]
    · rw [digs_pos (by omega)]
      have := ih (m / 10) (by omega)
      simp only [List.length_append, List.length_cons, List.length_nil]
      omega
/-- The mark of a number. -/
def mtxt (k : Nat) : ByteArray := ⟨(109 :: digs k).toArray⟩
theorem ba_cons (d : UInt8) (l : List UInt8) : (⟨#[d]⟩ : ByteArray) ++ ⟨l.toArray⟩ = ⟨(d :: l).toArray⟩ := by
  apply ByteArray.ext
  simp
theorem conv1 (m : Nat) (w : World) : (convert 99 9 (.slice (some ⟨w.heap.size, 0, none⟩) 1 1)).run Tryz.prog (w.alloc (.cells #[.int .u8 (48 + (m : Int) % 10)] 5)) = .ok (.string ⟨#[dig m]⟩) (w.alloc (.cells #[.int .u8 (48 + (m : Int) % 10)] 5)) := by
  refine run_convert_bytes_back (P := Tryz.prog) (w.alloc (.cells #[.int .u8 (48 + (m : Int) % 10)] 5)) 99 9 5 ⟨w.heap.size, 0, none⟩ 1 [dig m] Tryz.underlying99 Tryz.underlying5 Tryz.underlying9 (fun j hj => ?_)
  obtain rfl : j = 0 := by simpa using hj
  have e : (((dig m).toNat : Nat) : Int) = 48 + (m : Int) % 10 := by rw [dig_toNat]; omega
  simp [Addr.add, e]

set_option maxHeartbeats 1000000 in
theorem mtext_any (k : Nat) (hk : (k : Int) ≤ 1000000000) (h0 : 0 < k) (w : World) : Calls Tryz.prog 41 #[.int .i64 k] w fun e w' => e = .returned (.string (mtxt k)) ∧ Below w.heap.size w w' := by
  have HK : Hid ((digs k).length ≤ k) := digs_len k k (Nat.le_refl _)
  go_enter Tryz.func41, Tryz.ntmps41
  go_wp2_with fail
  go_loopw [0, 3] (fun q s wr => ∃ (m : Nat) (l : List UInt8), (m : Int) ≤ 1000000000 ∧ q = .int .i64 m ∧ s = .string ⟨l.toArray⟩ ∧ digs m ++ l = digs k ∧ Below w.heap.size w wr) (fun q _ _ => (intOf q).toNat)
  case atStart => exact ⟨k, [], hk, rfl, rfl, by simp, Below.refl _ _⟩
  case round =>
    obtain ⟨m, l, hm, rfl, rfl, hl, hB⟩ := hrel
    have hll : (l.length : Int) ≤ 1000000000 := by
      have h1 := congrArg List.length hl
      have h2 := HK.out
      simp only [List.length_append] at h1
      omega
    have hsz : (⟨l.toArray⟩ : ByteArray).size = l.length := by simp [ByteArray.size]
    have hs1 : ((⟨l.toArray⟩ : ByteArray).size : Int) ≤ 1000000000 := by rw [hsz]; exact hll
    have HL : Hid (digs m ++ l = digs k) := hl
    have HE := ba_cons (dig m) l
    have HE' : Hid ((⟨#[dig m]⟩ : ByteArray) ++ ⟨l.toArray⟩ = ⟨(dig m :: l).toArray⟩) := HE
    have HM : Hid ((⟨#[109]⟩ : ByteArray) ++ ⟨l.toArray⟩ = ⟨(109 :: l).toArray⟩) := ba_cons 109 l
    clear hl hsz hll HE
    generalize hT : (⟨l.toArray⟩ : ByteArray) = T at hs1 HE' HM ⊢
    have HT : Hid ((⟨l.toArray⟩ : ByteArray) = T) := hT
    clear hT
    by_cases h1 : 0 < m
    · have hcv := conv1 m
      have h1c : (⟨#[dig m]⟩ : ByteArray).size = 1 := rfl
      go_wp2_with fail
      go_roundw
      case rel =>
        refine ⟨m / 10, dig m :: l, by omega, by go_num, by rw [← HE'.out], ?_, hB.alloc hB.size _⟩
        rw [← HL.out, digs_pos h1]
        simp
      case measure => simp [intOf]; omega
    · go_wp2_with fail
      go_ret
      refine ⟨ret_str ?_, hB⟩
      have hz : m = 0 := by omega
      have := HL.out
      rw [hz, digs_zero, List.nil_append] at this
      rw [HM.out, this]
      rfl

end Go.Proofs.YtggffidnhkpelaaGreatDoor
