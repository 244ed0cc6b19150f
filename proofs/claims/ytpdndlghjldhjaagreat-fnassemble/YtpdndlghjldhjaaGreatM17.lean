import Derived.Test.YtpdndlghjldhjaaGreatM16
import Derived.Lib.ConvBytes
import Derived.RegionTactic
import Derived.OwnWalk
import Derived.Laws.OwnMore
set_option linter.unusedSectionVars false
variable [Inhabited Go.Proofs.YtpdndlghjldhjaaGreat.Pick]
namespace Go.Proofs.YtpdndlghjldhjaaGreat
set_option linter.unusedVariables false
set_option linter.unusedSimpArgs false
set_option maxRecDepth 100000
set_option maxHeartbeats 16000000
section
open Go.RowKit
def Uc (w : World) (v : Value) (l : List Int) : Prop := ∃ a cap, v = .slice a l.length cap ∧ (0 < l.length → ∃ b, a = some ⟨b, 0, none⟩ ∧ ∀ j (h : j < l.length), w.cell? ⟨b, j, none⟩ = some (.int .u32 l[j]))
theorem Uc.below {w w' : World} {v : Value} {l : List Int} (h : Uc w v l) (hb : Below w.heap.size w w') : Uc w' v l := by
 obtain ⟨a, cap, rfl, h⟩ := h
 refine ⟨a, cap, rfl, fun h0 => ?_⟩
 obtain ⟨b, rfl, hc⟩ := h h0
 exact ⟨b, rfl, fun j hj => (hb.cell (p := ⟨b, j, none⟩) (World.block_lt_of_cell? _ _ (hc j hj))).trans (hc j hj)⟩
theorem URow.cel {w : World} {N : Nat} {v : Value} {l : List Int} (h : URow N w v l) : Uc w v l := by
 have h0 := h
 obtain ⟨hl, h⟩ := h
 rcases h with ⟨rfl, hz⟩ | ⟨g, cap, cur, rfl, hg, hh, hc1, hc2, hc3, hc4⟩
 ·exact ⟨none, 0, by rw [hz], fun h => absurd h (by omega)⟩
 ·refine ⟨_, cap, rfl, fun _ => ⟨g, rfl, fun j hj => ?_⟩⟩
  have := World.ownsRow.cells h0 (g := g) rfl j (.int .u32 l[j]) (by simp [hj])
  have e : (⟨g, 0, none⟩ : Addr).add j = ⟨g, j, none⟩ := by simp only [Addr.add]; split <;> simp_all
  rw [e] at this
  exact this
theorem uc_out (w : World) (g c : Nat) : Uc w (.slice (some ⟨g, 0, none⟩) 0 c) [] := ⟨_, c, rfl, fun h => absurd h (by simp)⟩
end
section
open Go.RowKit
theorem rep_succ (k : Nat) : blv (List.replicate k false) ++ [.bool false] = blv (List.replicate (k + 1) false) := by
 simp [blv, List.replicate_succ']
set_option maxRecDepth 100000 in
set_option maxHeartbeats 8000000 in
theorem asmG_any (its : List It) (v : Value) (w : World) (hl : its.length ≤ 1048576) (hv : Items w v its) :
  Calls Tryz.prog 6 #[v] w fun e w' => ∃ u r, e = .returned u ∧ AsmR its r ∧ Uc w' u r ∧ Below w.heap.size w w' := by
 have HV : Hid (Items w v its) := hv
 obtain ⟨av, cv, rfl, -, -, hc⟩ := hv
 have HC : Hid (0 < its.length → ∃ b off, av = some ⟨b, off, none⟩ ∧ ItemsC w b off its) := hc
 clear hc
 by_cases h2 : 20000 < its.length
 ·have HR : Hid (AsmR its []) := .inr ⟨fun h => by omega, rfl⟩
  go_enter Tryz.func6, Tryz.ntmps6
  go_wp2_with fail
  go_ret
  exact ⟨_, [], rfl, HR.out, uc_out _ _ _, (Below.refl _ _).alloc (Nat.le_refl _) _⟩
 have hn : its.length ≤ 20000 := by omega
 obtain ⟨i4, hi4, hz40, hz41, hz42⟩ := info_parts infoA_bool
 have e20 : decide ((20000 : Int) < (its.length : Int)) = false := decide_eq_false (by omega)
 go_enter Tryz.func6, Tryz.ntmps6
 go_wp2_with fail
 go_loopw [4, 5] (fun u i wr => ∃ k : Nat, k ≤ its.length ∧ i = .int .i64 k ∧ ORow (w.heap.size + 1) 4 wr u (blv (List.replicate k false)) ∧ (∀ j, j < k → goodI (its.getD j it0) = true) ∧ Below (w.heap.size + 1) (w.alloc (.cells #[] 35)) wr) (fun _ i _ => its.length - (RowKit.intOf i).toNat)
 case atStart => exact ⟨0, Nat.zero_le _, rfl, (by have := orow_lit (w.alloc (.cells #[] 35)) (w.heap.size + 1) 4 (by simp); rw [World.size_alloc] at this; exact this), fun j hj => absurd hj (by omega), (Below.refl _ _).alloc (by simp) _⟩
 case round =>
  obtain ⟨k, hk, rfl, hO, hgd, hB⟩ := hrel
  obtain ⟨ao, co, rfl⟩ := hO.shape
  have HO : Hid (ORow (w.heap.size + 1) 4 wr (.slice ao (blv (List.replicate k false)).length co) (blv (List.replicate k false))) := hO
  have HGd : Hid (∀ j, j < k → goodI (its.getD j it0) = true) := hgd
  have hBw := one_belowA hB
  have hs1 : w.heap.size + 1 ≤ wr.heap.size := by have := hB.size; simpa using this
  have HLn : Hid ((blv (List.replicate k false)).length = k) := by show _ = _; rw [blv_len]; simp
  clear hO hgd
  by_cases hlt : k < its.length
  ·obtain ⟨b, off, rfl, hC⟩ := HC.out (by omega)
   obtain ⟨c0, c1, c2, c3, c4, c5, c6⟩ := (hC.below hBw) k hlt
   have HGt : Hid (its.getD k it0 = its[k]) := by show _ = _; simp [List.getD, hlt]
   clear hC
   generalize its[k] = x at c0 c1 c2 c3 c4 c5 c6 HGt
   have HVl : Hid (∀ w : World, Calls Tryz.prog 16 #[.agg #[.int .i64 x.kind, .int .i64 x.ins.op, .int .i64 x.ins.rd, .int .i64 x.ins.s1, .int .i64 x.ins.s2, .int .i64 x.ins.im, .int .i64 x.label]] w fun e w' => e = .returned (.bool (goodI x)) ∧ Below w.heap.size w w') := fun w => gitem_any x w
   have hxl : (blv (List.replicate k false)).length + 1 ≤ 10000000 := by have := HLn.out; omega
   go_wp2_with fail
   refine (HVl.out _).mono ?_
   rintro e w1 ⟨rfl, hb1⟩
   have hB1 : Below (w.heap.size + 1) (w.alloc (.cells #[] 35)) w1 := hB.trans (hb1.mono hs1)
   have hs2 : w.heap.size + 1 ≤ w1.heap.size := Nat.le_trans hs1 hb1.size
   have HO1 : Hid (ORow (w.heap.size + 1) 4 w1 (.slice ao (blv (List.replicate k false)).length co) (blv (List.replicate k false))) := HO.out.below hb1
   clear hb1 c0 c1 c2 c3 c4 c5 c6
   cases hg : goodI x
   ·have HR : Hid (AsmR its []) := .inr ⟨(fun h => by
     have := h.2.1 k hlt
     rw [HGt.out, hg] at this
     cases this), rfl⟩
    clear hg
    go_wp2_with fail
    go_ret
    exact ⟨_, [], rfl, HR.out, uc_out _ _ _, one_belowA hB1⟩
   ·have HGd2 : Hid (∀ j, j < k + 1 → goodI (its.getD j it0) = true) := fun j hj => by
     by_cases e : j = k
     ·subst e; rw [HGt.out]; exact hg
     ·exact HGd.out j (by omega)
    clear hg
    go_wp2_with (at_builtin; refine wpList_app1 rfl _ _ _ rfl (w.heap.size + 1) 4 i4 _ 1 Tryz.underlying58 hi4 hz40 hz41 hz42 rfl _ (blv (List.replicate k false)) rfl (HO1.out.below ((Below.refl _ _).alloc (Nat.le_refl _) _)) ⟨w1.heap.size, 0, none⟩ (.bool false) rfl (lit1 _ _ _) rfl hxl (by decide) (by simp; omega) ?_)
    intro v3 w3 ho3 hg3 hf3
    have HO3 : Hid (ORow (w.heap.size + 1) 4 w3 v3 (blv (List.replicate (k + 1) false))) := by show ORow _ _ _ _ _; rw [← rep_succ]; exact ho3
    have hB3 : Below (w.heap.size + 1) (w.alloc (.cells #[] 35)) w3 := (hB1.alloc hs2 _).grown hg3 (by simp; omega) (fun x hx => (World.ownsRow.lt HO1.out x hx).1)
    obtain ⟨a3, c3, rfl⟩ := HO3.out.shape
    clear ho3 hg3 hf3
    go_wp2_with fail
    go_roundw
    case rel => exact ⟨k + 1, by omega, by go_num, HO3.out, HGd2.out, hB3⟩
    case measure => simp [RowKit.intOf]; omega
  ·have hkn : k = its.length := by omega
   subst hkn
   have HGA : Hid (goodAl its) := HGd.out
   have HVw : Hid (Items wr (.slice av its.length cv) its) := HV.out.below hBw
   clear HGd
   go_wp2_with fail
   refine (targets_any its _ wr hn HVw.out).mono ?_
   rintro e w1 ⟨x6, ok, rfl, hT, hb1, hok⟩
   have hB1 : Below (w.heap.size + 1) (w.alloc (.cells #[] 35)) w1 := hB.trans (hb1.mono hs1)
   have hs2 : wr.heap.size ≤ w1.heap.size := hb1.size
   have HT1 : Hid (ORow wr.heap.size 3 w1 x6 (tgL its its.length)) := hT
   have HO1 : Hid (ORow (w.heap.size + 1) 4 w1 (.slice ao (blv (List.replicate its.length false)).length co) (blv (turns its 0))) := HO.out.below hb1
   obtain ⟨a6, c6, rfl⟩ := hT.shape
   clear hb1 hT
   cases ok
   ·have HR : Hid (AsmR its []) := .inr ⟨(fun h => by have := hok.2 h.2.2; cases this), rfl⟩
    clear hok
    go_wp2_with fail
    go_ret
    exact ⟨_, [], rfl, HR.out, uc_out _ _ _, one_belowA hB1⟩
   ·have HLk : Hid (Linked its) := hok.1 rfl
    clear hok
    go_wp2_with fail
    refine (sizes_any its (turns its 0) _ _ w1 hn (turns_len its 0) (turns_br its 0) (HV.out.below (one_belowA hB1)) HO1.out.bls).mono ?_
    rintro e w2 ⟨x8, rfl, hS, hb2⟩
    have HS2 : Hid (ORow w1.heap.size 2 w2 x8 (szK its (turns its 0) its.length)) := hS
    obtain ⟨a8, c8, rfl⟩ := hS.shape
    have hb2' : Below (w.heap.size + 1) (w.alloc (.cells #[] 35)) w2 := hB1.trans (hb2.mono (by omega))
    have HO2 : Hid (ORow (w.heap.size + 1) 4 w2 (.slice ao (blv (List.replicate its.length false)).length co) (blv (turns its 0))) := HO1.out.below hb2
    have HT2 : Hid (ORow wr.heap.size 3 w2 (.slice a6 (tgL its its.length).length c6) (tgL its its.length)) := HT1.out.below hb2
    have hs3 := hb2.size
    clear hS hb2
    go_wp2_with fail
    refine (places_any w1.heap.size its.length its (turns its 0) _ w2 hn rfl HS2.out).mono ?_
    rintro e w3 ⟨x9, rfl, hP, hb3⟩
    have HP3 : Hid (ORow w2.heap.size 2 w3 x9 (plK its (turns its 0) (its.length + 1))) := hP
    obtain ⟨a9, c9, rfl⟩ := hP.shape
    have hB3 : Below (w.heap.size + 1) (w.alloc (.cells #[] 35)) w3 := hb2'.trans (hb3.mono (by omega))
    have HO3 : Hid (ORow (w.heap.size + 1) 4 w3 (.slice ao (blv (List.replicate its.length false)).length co) (blv (turns its 0))) := HO2.out.below hb3
    have HT3 : Hid (ORow wr.heap.size 3 w3 (.slice a6 (tgL its its.length).length c6) (tgL its its.length)) := HT2.out.below hb3
    have hs4 := hb3.size
    clear hP hb3 hb2'
    go_wp2_with fail
    have hlo : ∀ g, (Value.slice ao (blv (List.replicate its.length false)).length co).ownBlock = some g → g < wr.heap.size := fun g hg => (HO.out.ownNe g hg).2
    have hto : ∀ g, (Value.slice a6 (tgL its its.length).length c6).ownBlock = some g → wr.heap.size ≤ g ∧ g < w1.heap.size := fun g hg => HT1.out.ownNe g hg
    rw [HLn.out] at HO3 hlo ⊢
    rw [tgL_len] at HT3 hto ⊢
    rw [plK_len] at HP3 ⊢
    obtain ⟨N0, hN0⟩ : ∃ N0, N0 = wr.heap.size := ⟨_, rfl⟩
    obtain ⟨M, hM⟩ : ∃ M, M = w2.heap.size := ⟨_, rfl⟩
    rw [← hN0] at hlo hto HT3
    rw [← hM] at HP3
    have hN1 : w.heap.size + 1 ≤ N0 := by omega
    have hNM : N0 ≤ M := by omega
    have hMw : M ≤ w3.heap.size := by omega
    have HLo : Hid (∀ g, (Value.slice ao its.length co).ownBlock = some g → g < N0) := hlo
    have HTo : Hid (∀ g, (Value.slice a6 its.length c6).ownBlock = some g → N0 ≤ g ∧ g < M) := fun g hg => by have := hto g hg; exact ⟨this.1, by omega⟩
    clear HO HT1 HO1 HS2 HO2 HT2 hN0 hM hlo hto hs1 hs2 hs3 hs4 hB hBw hB1 HVw HLn
    go_loopw [8, 9] (fun p c wr => ∃ (m : Nat) (cb : Bool), c = .bool cb ∧ ORow (w.heap.size + 1) 4 wr (.slice ao its.length co) (blv (turns its m)) ∧ ORow N0 3 wr (.slice a6 its.length c6) (tgL its its.length) ∧ ORow M 2 wr p (plK its (turns its m) (its.length + 1)) ∧ (cb = false → turn its (turns its m) = turns its m) ∧ Below (w.heap.size + 1) (w.alloc (.cells #[] 35)) wr ∧ M ≤ wr.heap.size) (fun p c wr => 2 * (8 * its.length - lastOf p its.length wr) + flagOf c)
    case atStart => exact ⟨0, true, rfl, HO3.out, HT3.out, HP3.out, fun h => (by cases h), hB3, hMw⟩
    case round =>
     clear HO3 HT3 HP3 hB3 hMw
     obtain ⟨m, cb, rfl, hO, hT, hP, hst, hB, hMw⟩ := hrel
     have HO : Hid (ORow (w.heap.size + 1) 4 wr (.slice ao its.length co) (blv (turns its m))) := hO
     have HT : Hid (ORow N0 3 wr (.slice a6 its.length c6) (tgL its its.length)) := hT
     obtain ⟨gp, cp, rfl, hgp1, hgp2, hpc⟩ := hP.at (by rw [plK_len]; omega)
     rw [plK_len] at hP ⊢
     have HP : Hid (ORow M 2 wr (.slice (some ⟨gp, 0, none⟩) (its.length + 1) cp) (plK its (turns its m) (its.length + 1))) := hP
     have HPc : Hid (∀ j u, (plK its (turns its m) (its.length + 1))[j]? = some u → wr.cell? ⟨gp, j, none⟩ = some u ∧ wr.frozen? ⟨gp, j, none⟩ = false) := hpc
     have HSt : Hid (cb = false → turn its (turns its m) = turns its m) := hst
     have hs1 : w.heap.size + 1 ≤ wr.heap.size := by have := hB.size; simpa using this
     clear hO hT hP hpc hst
     cases cb
     ·have HF : Hid (Fin its (turns its m)) := ⟨⟨m, rfl⟩, HSt.out rfl⟩
      have htl := turns_len its m
      obtain ⟨lg, hlg⟩ : ∃ lg, lg = turns its m := ⟨_, rfl⟩
      rw [← hlg] at HO HP HPc HF htl
      have pn := (HPc.out its.length _ (plK_at its lg (its.length + 1) its.length (by omega))).1
      have HU0 : Hid (URow w.heap.size wr (.slice (some ⟨w.heap.size, 0, none⟩) 0 0) []) := (urow_lit w _ (Nat.le_refl _)).below (by simpa using hB)
      have hBw := one_belowA hB
      have hpl := plN_le its lg its.length
      clear hlg HSt HPc
      by_cases hbig : 20000 < plN its lg its.length
      ·have HR : Hid (AsmR its []) := .inl ⟨hn, HGA.out, HLk.out, lg, HF.out, .inr ⟨hbig, rfl⟩⟩
       generalize plN its lg its.length = q at pn hpl hbig
       go_wp2_with fail
       go_ret
       exact ⟨_, [], rfl, HR.out, uc_out _ _ _, hBw⟩
      ·have HR : Hid (AsmR its (codeK its lg its.length)) := .inl ⟨hn, HGA.out, HLk.out, lg, HF.out, .inl ⟨by omega, rfl⟩⟩
       generalize plN its lg its.length = q at pn hpl hbig
       have hqd : decide ((80000 : Int) < 4 * (q : Int)) = false := decide_eq_false (by omega)
       go_wp2_with fail
       clear pn
       obtain ⟨M4, hM4⟩ : ∃ M4, M4 = wr.heap.size := ⟨_, rfl⟩
       have hgp4 : gp < M4 := by omega
       have hMM : M ≤ M4 := by omega
       have hM4w : M4 ≤ wr.heap.size := by omega
       clear hM4
       go_loopw [3, 12] (fun o i w4 => ∃ k : Nat, k ≤ its.length ∧ i = .int .i64 k ∧ URow w.heap.size w4 o (codeK its lg k) ∧ (∀ x, o.ownBlock = some x → x = w.heap.size ∨ M4 ≤ x) ∧ ORow (w.heap.size + 1) 4 w4 (.slice ao its.length co) (blv lg) ∧ ORow N0 3 w4 (.slice a6 its.length c6) (tgL its its.length) ∧ ORow M 2 w4 (.slice (some ⟨gp, 0, none⟩) (its.length + 1) cp) (plK its lg (its.length + 1)) ∧ Below w.heap.size w w4 ∧ M4 ≤ w4.heap.size) (fun _ i _ => its.length - (RowKit.intOf i).toNat)
       case atStart => exact ⟨0, Nat.zero_le _, rfl, HU0.out, fun x hx => (by simp only [Value.ownBlock, Option.some.injEq] at hx; omega), HO.out, HT.out, HP.out, hBw, hM4w⟩
       case round =>
        clear HO HT HP HU0 hB hBw hMw hs1 hM4w hgp2
        obtain ⟨k, hk, rfl, hU, hap, hO, hT, hP, hB, hMw⟩ := hrel
        obtain ⟨au, cu, rfl⟩ := hU.shape
        have HU : Hid (URow w.heap.size wr (.slice au (codeK its lg k).length cu) (codeK its lg k)) := hU
        have HAp : Hid (∀ x, (Value.slice au (codeK its lg k).length cu).ownBlock = some x → x = w.heap.size ∨ M4 ≤ x) := hap
        have HO : Hid (ORow (w.heap.size + 1) 4 wr (.slice ao its.length co) (blv lg)) := hO
        have HT : Hid (ORow N0 3 wr (.slice a6 its.length c6) (tgL its its.length)) := hT
        have HP : Hid (ORow M 2 wr (.slice (some ⟨gp, 0, none⟩) (its.length + 1) cp) (plK its lg (its.length + 1))) := hP
        have hcl := codeK_len its lg k
        have hsw := hB.size
        clear hU hap hO hT hP
        by_cases hkl : k < its.length
        ·obtain ⟨b, off, rfl, hC⟩ := HC.out (by omega)
         obtain ⟨c0, c1, c2, c3, c4, c5, c6x⟩ := (hC.below hB) k hkl
         have hbw : b < w.heap.size := by
          have := (hC k hkl).1
          exact World.block_lt_of_cell? _ _ this
         obtain ⟨gl, cl, hle, hgl1, hgl2, hlc⟩ := HO.out.at (by rw [blv_len, htl]; omega)
         rw [blv_len, htl] at hle
         simp only [Value.slice.injEq, true_and] at hle
         obtain ⟨rfl, rfl⟩ := hle
         obtain ⟨gt, ct, hte, hgt1, hgt2, htc⟩ := HT.out.at (by rw [tgL_len]; omega)
         rw [tgL_len] at hte
         simp only [Value.slice.injEq, true_and] at hte
         obtain ⟨rfl, rfl⟩ := hte
         obtain ⟨gp', cp', hpe, hgp1', hgp2', hpc⟩ := HP.out.at (by rw [plK_len]; omega)
         rw [plK_len] at hpe
         simp only [Value.slice.injEq, Option.some.injEq, Addr.mk.injEq, and_true, true_and] at hpe
         obtain ⟨rfl, rfl⟩ := hpe
         have hgl3 : gl < N0 := HLo.out gl rfl
         have hgt3 : gt < M := (HTo.out gt rfl).2
         have htj := (htc k _ (tgL_at its its.length k hkl)).1
         rw [tgZ_tgt HLk.out hkl] at htj
         have htl2 := tgt_lt HLk.out hkl
         have p1 := (hpc (tgt its k) _ (plK_at its lg (its.length + 1) (tgt its k) (by omega))).1
         have p2 := (hpc k _ (plK_at its lg (its.length + 1) k (by omega))).1
         have l1 := (hlc k _ (blv_at lg k (by omega))).1
         have HGt : Hid (its.getD k it0 = its[k]) := by show _ = _; simp [List.getD, hkl]
         have hb1 := plN_le its lg k
         have hb2 := plN_le its lg (tgt its k)
         have HOp : Hid (its[k].kind = 3 → 4 ≤ its[k].ins.op ∧ its[k].ins.op ≤ 9) := fun h3 => good_op (by have := HGA.out k hkl; rw [HGt.out] at this; exact this) h3
         have HCk : Hid (codeK its lg (k + 1) = codeK its lg k ++ wds its[k] (4 * ((plN its lg (tgt its k) : Nat) : Int) - 4 * ((plN its lg k : Nat) : Int)) (lg.getD k false)) := by
          show _ = _
          rw [← HGt.out]
          rfl
         have HRd : Hid (RdC wr b (off + k * 7) gt gp gl k (tgt its k) its[k] (plN its lg k) (plN its lg (tgt its k)) (lg.getD k false)) := ⟨c0, c1, c2, c3, c4, c5, c6x, htj, p1, p2, l1⟩
         clear hC hlc htc hpc c0 c1 c2 c3 c4 c5 c6x htj p1 p2 l1 HGt
         generalize its[k] = x at HOp HCk HRd
         generalize lg.getD k false = lk at HCk HRd
         generalize plN its lg (tgt its k) = q2 at hb2 HCk HRd
         generalize plN its lg k = q1 at hb1 HCk HRd
         have hq1 : q1 ≤ 40000 := by omega
         have hq2 : q2 ≤ 40000 := by omega
         clear hb1 hb2
         obtain ⟨t, ht⟩ : ∃ t, t = tgt its k := ⟨_, rfl⟩
         rw [← ht] at HRd htl2
         clear ht
         have HW : Hid (∀ W : World, Calls Tryz.prog 21 #[.agg #[.int .i64 x.kind, .int .i64 x.ins.op, .int .i64 x.ins.rd, .int .i64 x.ins.s1, .int .i64 x.ins.s2, .int .i64 x.ins.im, .int .i64 x.label], .int .i64 (IntKind.i64.wrap (4 * (q2 : Int) - 4 * (q1 : Int))), .bool lk] W fun e w' => ∃ v, e = .returned v ∧ (USrc w' v (wds x (4 * (q2 : Int) - 4 * (q1 : Int)) lk) ∧ Below W.heap.size W w')) := fun W => by
          rw [wrap_id _ (by omega)]
          exact (words7_any x (4 * (q2 : Int) - 4 * (q1 : Int)) lk W (by omega) HOp.out).mono (fun e w' h => h)
         have hwl := wds_len x (4 * (q2 : Int) - 4 * (q1 : Int)) lk
         generalize wds x (4 * (q2 : Int) - 4 * (q1 : Int)) lk = ws at HW hwl HCk
         generalize codeK its lg k = ck at HU HAp HCk hcl ⊢
         have hd1 : Below wr.heap.size wr wr.drew := (Below.refl _ _).drew
         obtain ⟨r0, r1, r2, r3, r4, r5, r6, r7, r8, r9, r10⟩ := HRd.out
         have hxl : ck.length + ws.length ≤ 10000000 := by omega
         have hnb : ∀ g, g ≠ w.heap.size → g < M4 → some g ≠ (Value.slice au ck.length cu).ownBlock := fun g h1 h2 h => by
          rcases HAp.out g h.symm with h' | h'
          ·exact h1 h'
          ·omega
         have hn0 := hnb b (by omega) (by omega)
         have hn1 := hnb gt (by omega) (by omega)
         have hn2 := hnb gp (by omega) (by omega)
         have hn3 := hnb gl (by omega) (by omega)
         have hk1 : (k : Int) < (its.length : Int) := by omega
         have hk2 : (k : Int) < (its.length : Int) + 1 := by omega
         have hk3 : (0 : Int) ≤ (k : Int) := by omega
         have ht1 : (t : Int) < (its.length : Int) + 1 := by omega
         have ht2 : (0 : Int) ≤ (t : Int) := by omega
         have hk4 : k < its.length + 1 := by omega
         have ht3 : t < its.length + 1 := by omega
         clear hnb HOp
         go_wp2_with fail
         go_region_held_law (fun W => W.cell? ⟨b, off + k * 7, none⟩ = some (.int .i64 x.kind) ∧ W.cell? ⟨b, off + k * 7 + 1, none⟩ = some (.int .i64 x.ins.op) ∧ W.cell? ⟨b, off + k * 7 + 2, none⟩ = some (.int .i64 x.ins.rd) ∧ W.cell? ⟨b, off + k * 7 + 3, none⟩ = some (.int .i64 x.ins.s1) ∧ W.cell? ⟨b, off + k * 7 + 4, none⟩ = some (.int .i64 x.ins.s2) ∧ W.cell? ⟨b, off + k * 7 + 5, none⟩ = some (.int .i64 x.ins.im) ∧ W.cell? ⟨b, off + k * 7 + 6, none⟩ = some (.int .i64 x.label) ∧ W.cell? ⟨gt, k, none⟩ = some (.int .i64 (t : Int)) ∧ W.cell? ⟨gp, t, none⟩ = some (.int .i64 (4 * ((q2 : Nat) : Int))) ∧ W.cell? ⟨gp, k, none⟩ = some (.int .i64 (4 * ((q1 : Nat) : Int))) ∧ W.cell? ⟨gl, k, none⟩ = some (.bool lk))
          (first | (go_split_ands; exact ⟨s2.c0, s2.c1, s2.c2, s2.c3, s2.c4, s2.c5, s2.c6, s2.tc, s2.p1, s2.p2, s2.lc⟩) | (go_split_ands; exact ⟨s1.c0, s1.c1, s1.c2, s1.c3, s1.c4, s1.c5, s1.c6, s1.tc, s1.p1, s1.p2, s1.lc⟩) | go_keep)
          (first
          | ((with_reducible refine Calls.mono (HW.out _) ?_); intro e w5 hx; obtain ⟨v5, hx1, hx2⟩ := hx; subst hx1; have s1 := HRd.out.below (hd1.trans hx2.2))
          | (refine step_appU (by rfl) _ _ (by rfl) w.heap.size (.slice au ck.length cu) ck (by rfl) (HU.out.below (hd1.trans hx2.2)) v5 ws (by rfl) hx2.1 hxl (Nat.le_trans hsw (hd1.trans hx2.2).size) ?_; intro v6 w6 ho6 hg6 hf6; have s2 := s1.grown hg6 hn0 hn1 hn2 hn3))
         have hb5 : Below wr.heap.size wr w5 := hd1.trans hx2.2
         have HU6 : Hid (URow w.heap.size w6 v6 (codeK its lg (k + 1))) := by show URow _ _ _ _; rw [HCk.out]; exact ho6
         have HAp6 : Hid (∀ x, v6.ownBlock = some x → x = w.heap.size ∨ M4 ≤ x) := fun y hy => by
          rcases hf6 y hy with h' | h'
          ·exact HAp.out y h'
          ·exact .inr (by have := hb5.size; omega)
         have HO6 : Hid (ORow (w.heap.size + 1) 4 w6 (.slice (some ⟨gl, 0, none⟩) its.length co) (blv lg)) := (HO.out.below hb5).grown hg6 (fun y hy h => by simp only [Value.ownBlock, Option.some.injEq] at hy; subst hy; exact hn3 h.symm)
         have HT6 : Hid (ORow N0 3 w6 (.slice (some ⟨gt, 0, none⟩) its.length c6) (tgL its its.length)) := (HT.out.below hb5).grown hg6 (fun y hy h => by simp only [Value.ownBlock, Option.some.injEq] at hy; subst hy; exact hn1 h.symm)
         have HP6 : Hid (ORow M 2 w6 (.slice (some ⟨gp, 0, none⟩) (its.length + 1) cp) (plK its lg (its.length + 1))) := (HP.out.below hb5).grown hg6 (fun y hy h => by simp only [Value.ownBlock, Option.some.injEq] at hy; subst hy; exact hn2 h.symm)
         have hsz5 : w.heap.size ≤ w5.heap.size := Nat.le_trans hsw hb5.size
         have hB6 : Below w.heap.size w w6 := (hB.trans (hb5.mono hsw)).grown hg6 hsz5 (fun y hy => (World.ownsRow.lt HU.out y hy).1)
         have hM6 : M4 ≤ w6.heap.size := Nat.le_trans hMw (Nat.le_trans hb5.size hg6.size)
         obtain ⟨a7, c7, rfl⟩ := HU6.out.shape
         clear ho6 hg6 hf6 s1 s2 hx2 hb5 r0 r1 r2 r3 r4 r5 r6 r7 r8 r9 r10
         go_wp2_with fail
         go_roundw
         case rel => exact ⟨k + 1, by omega, by go_num, HU6.out, HAp6.out, HO6.out, HT6.out, HP6.out, hB6, hM6⟩
         case measure => simp [RowKit.intOf]; omega
        ·have hkn : k = its.length := by omega
         have HS : Hid (Uc wr (.slice au (codeK its lg k).length cu) (codeK its lg its.length)) := by rw [hkn] at HU ⊢; exact HU.out.cel
         generalize (codeK its lg k).length = ckl at HS ⊢
         go_wp2_with fail
         go_ret
         exact ⟨_, _, rfl, HR.out, HS.out, hB⟩
     ·have htl := turns_len its m
      have HLast : Hid (lastOf (.slice (some ⟨gp, 0, none⟩) (its.length + 1) cp) its.length wr = 4 * plN its (turns its m) its.length) := lastOf_eq HP.out
      obtain ⟨lg, hlg⟩ : ∃ lg, lg = turns its m := ⟨_, rfl⟩
      have HLg : Hid (lg = turns its m) := hlg
      rw [← hlg] at HO HP HPc HLast htl
      clear hlg HSt
      go_wp2_with fail
      go_loopw [9, 10] (fun c i w4 => ∃ j : Nat, j ≤ its.length ∧ i = .int .i64 j ∧ c = .bool (anyK its lg j) ∧ ORow (w.heap.size + 1) 4 w4 (.slice ao its.length co) (blv (passK its lg j)) ∧ ORow N0 3 w4 (.slice a6 its.length c6) (tgL its its.length) ∧ ORow M 2 w4 (.slice (some ⟨gp, 0, none⟩) (its.length + 1) cp) (plK its lg (its.length + 1)) ∧ Below (w.heap.size + 1) (w.alloc (.cells #[] 35)) w4 ∧ M ≤ w4.heap.size) (fun _ i _ => its.length - (RowKit.intOf i).toNat)
      case atStart => exact ⟨0, Nat.zero_le _, rfl, rfl, by rw [passK_zero]; exact HO.out, HT.out, HP.out, hB, hMw⟩
      case round =>
       clear HO HT HP HPc hB hMw hs1 hgp2
       obtain ⟨j, hj, rfl, rfl, hO, hT, hP, hB, hMw⟩ := hrel
       have HO : Hid (ORow (w.heap.size + 1) 4 wr (.slice ao its.length co) (blv (passK its lg j))) := hO
       have HT : Hid (ORow N0 3 wr (.slice a6 its.length c6) (tgL its its.length)) := hT
       have HP : Hid (ORow M 2 wr (.slice (some ⟨gp, 0, none⟩) (its.length + 1) cp) (plK its lg (its.length + 1))) := hP
       have hBw := one_belowA hB
       have hpl : (passK its lg j).length = its.length := by rw [passK_len]; exact htl
       have hs1 : w.heap.size + 1 ≤ wr.heap.size := by have := hB.size; simpa using this
       clear hO hT hP
       by_cases hjl : j < its.length
       ·obtain ⟨b, off, rfl, hC⟩ := HC.out (by omega)
        obtain ⟨c0, -⟩ := (hC.below hBw) j hjl
        obtain ⟨gl, cl, hle, hgl1, hgl2, hlc⟩ := HO.out.at (by rw [blv_len, hpl]; omega)
        rw [blv_len, hpl] at hle
        simp only [Value.slice.injEq, true_and] at hle
        obtain ⟨rfl, rfl⟩ := hle
        obtain ⟨gt, ct, hte, hgt1, hgt2, htc⟩ := HT.out.at (by rw [tgL_len]; omega)
        rw [tgL_len] at hte
        simp only [Value.slice.injEq, true_and] at hte
        obtain ⟨rfl, rfl⟩ := hte
        obtain ⟨gp', cp', hpe, hgp1', hgp2', hpc⟩ := HP.out.at (by rw [plK_len]; omega)
        rw [plK_len] at hpe
        simp only [Value.slice.injEq, Option.some.injEq, Addr.mk.injEq, and_true, true_and] at hpe
        obtain ⟨rfl, rfl⟩ := hpe
        have hgl3 : gl < N0 := HLo.out gl rfl
        have hgt3 : gt < M := (HTo.out gt rfl).2
        have htj := (htc j _ (tgL_at its its.length j hjl)).1
        rw [tgZ_tgt HLk.out hjl] at htj
        have htl2 := tgt_lt HLk.out hjl
        have p1 := (hpc (tgt its j) _ (plK_at its lg (its.length + 1) (tgt its j) (by omega))).1
        have p2 := (hpc j _ (plK_at its lg (its.length + 1) j (by omega))).1
        have l1 := (hlc j _ (blv_at (passK its lg j) j (by omega))).1
        have f1 := (hlc j _ (blv_at (passK its lg j) j (by omega))).2
        rw [passK_at its lg j (by omega)] at l1
        have HGt : Hid (its.getD j it0 = its[j]) := by show _ = _; simp [List.getD, hjl]
        have hb1 := plN_le its lg j
        have hb2 := plN_le its lg (tgt its j)
        have HFar : Hid (farN its lg j = 4 * ((plN its lg (tgt its j) : Nat) : Int) - 4 * ((plN its lg j : Nat) : Int)) := rfl
        have HAny : Hid (anyK its lg (j + 1) = (anyK its lg j || grows its lg j)) := anyK_succ its lg j
        have HGr : Hid (grows its lg j = (decide (its[j].kind = 3) && !lg.getD j false && !reach (farN its lg j))) := by show _ = _; unfold grows; rw [HGt.out]
        clear hC hlc htc hpc
        generalize its[j] = x at c0 HGt HGr
        generalize plN its lg (tgt its j) = q2 at p1 hb2 HFar
        generalize plN its lg j = q1 at p2 hb1 HFar
        have hq1 : q1 ≤ 40000 := by omega
        have hq2 : q2 ≤ 40000 := by omega
        clear hb1 hb2
        obtain ⟨t, ht⟩ : ∃ t, t = tgt its j := ⟨_, rfl⟩
        rw [← ht] at htj p1 htl2
        clear ht
        generalize anyK its lg j = ak at HAny ⊢
        go_wp2_with fail
        go_region
        have hd1 : Below wr.heap.size wr wr.drew := (Below.refl _ _).drew
        have c0' := (hd1.cell (p := ⟨b, off + j * 7, none⟩) (World.block_lt_of_cell? _ _ c0)).trans c0
        have l1' := (hd1.cell (p := ⟨gl, j, none⟩) (World.block_lt_of_cell? _ _ l1)).trans l1
        have f1' := (hd1.frozen (p := ⟨gl, j, none⟩) (World.block_lt_of_cell? _ _ l1)).trans f1
        clear c0 l1 f1 p1 p2 htj
        by_cases hk3 : x.kind = 3
        ·rw [hk3] at c0'
         cases hlj : lg.getD j false
         ·rw [hlj] at l1'
          go_wp2_with fail
          refine (inN_any (4 * (q2 : Int) - 4 * (q1 : Int)) (-4096) 4094 _).mono ?_
          rintro e w5 ⟨rfl, hw5⟩
          rw [hw5]
          clear hw5
          cases hin : inB (4 * (q2 : Int) - 4 * (q1 : Int)) (-4096) 4094
          ·have HIn : Hid (reach (4 * ((q2 : Nat) : Int) - 4 * ((q1 : Nat) : Int)) = false) := hin
           clear hin
           have HG1 : Hid (grows its lg j = true) := by show _ = _; rw [HGr.out, HFar.out, hk3, hlj, HIn.out]; rfl
           have HO4 : Hid (ORow (w.heap.size + 1) 4 (wr.drew.setCell ⟨gl, j, none⟩ (.bool true)) (.slice (some ⟨gl, 0, none⟩) its.length co) (blv (passK its lg (j + 1)))) := by
            have h1 := HO.out.below hd1
            have h2 : ORow (w.heap.size + 1) 4 wr.drew (.slice (some ⟨gl, 0, none⟩) (blv (passK its lg j)).length co) (blv (passK its lg j)) := by rw [blv_len, hpl]; exact h1
            have h3 := h2.store j (.bool true)
            rw [blv_set, ← passK_yes its lg j (by omega) HG1.out, blv_len, hpl] at h3
            exact h3
           have HT4 : Hid (ORow N0 3 (wr.drew.setCell ⟨gl, j, none⟩ (.bool true)) (.slice (some ⟨gt, 0, none⟩) its.length c6) (tgL its its.length)) := (HT.out.below hd1).other (fun y hy => by simp only [Value.ownBlock, Option.some.injEq] at hy; omega) _ _
           have HP4 : Hid (ORow M 2 (wr.drew.setCell ⟨gl, j, none⟩ (.bool true)) (.slice (some ⟨gp, 0, none⟩) (its.length + 1) cp) (plK its lg (its.length + 1))) := (HP.out.below hd1).other (fun y hy => by simp only [Value.ownBlock, Option.some.injEq] at hy; omega) _ _
           have HA1 : Hid (anyK its lg (j + 1) = true) := by show _ = _; rw [HAny.out, HG1.out]; simp
           clear hk3 hlj
           go_wp2_with fail
           go_roundw
           case rel => exact ⟨j + 1, by omega, by go_num, by rw [HA1.out], HO4.out, HT4.out, HP4.out, (hB.drew).setCell hgl1 _, by simpa using hMw⟩
           case measure => simp [RowKit.intOf]; omega
          ·have HIn : Hid (reach (4 * ((q2 : Nat) : Int) - 4 * ((q1 : Nat) : Int)) = true) := hin
           have HG1 : Hid (grows its lg j = false) := by show _ = _; rw [HGr.out, HFar.out, HIn.out]; simp
           clear hin
           have HO4 : Hid (ORow (w.heap.size + 1) 4 wr.drew (.slice (some ⟨gl, 0, none⟩) its.length co) (blv (passK its lg (j + 1)))) := by show ORow _ _ _ _ _; rw [passK_no its lg j HG1.out]; exact HO.out.below hd1
           have HT4 : Hid (ORow N0 3 wr.drew (.slice (some ⟨gt, 0, none⟩) its.length c6) (tgL its its.length)) := HT.out.below hd1
           have HP4 : Hid (ORow M 2 wr.drew (.slice (some ⟨gp, 0, none⟩) (its.length + 1) cp) (plK its lg (its.length + 1))) := HP.out.below hd1
           have HA1 : Hid (anyK its lg (j + 1) = ak) := by show _ = _; rw [HAny.out, HG1.out]; simp
           clear hk3 hlj
           go_wp2_with fail
           go_roundw
           case rel => exact ⟨j + 1, by omega, by go_num, by rw [HA1.out], HO4.out, HT4.out, HP4.out, hB.drew, hMw⟩
           case measure => simp [RowKit.intOf]; omega
         ·rw [hlj] at l1'
          have HG1 : Hid (grows its lg j = false) := grows_long hlj
          have HO4 : Hid (ORow (w.heap.size + 1) 4 wr.drew (.slice (some ⟨gl, 0, none⟩) its.length co) (blv (passK its lg (j + 1)))) := by show ORow _ _ _ _ _; rw [passK_no its lg j HG1.out]; exact HO.out.below hd1
          have HT4 : Hid (ORow N0 3 wr.drew (.slice (some ⟨gt, 0, none⟩) its.length c6) (tgL its its.length)) := HT.out.below hd1
          have HP4 : Hid (ORow M 2 wr.drew (.slice (some ⟨gp, 0, none⟩) (its.length + 1) cp) (plK its lg (its.length + 1))) := HP.out.below hd1
          have HA1 : Hid (anyK its lg (j + 1) = ak) := by show _ = _; rw [HAny.out, HG1.out]; simp
          clear hk3 hlj
          go_wp2_with fail
          go_roundw
          case rel => exact ⟨j + 1, by omega, by go_num, by rw [HA1.out], HO4.out, HT4.out, HP4.out, hB.drew, hMw⟩
          case measure => simp [RowKit.intOf]; omega
        ·have HG1 : Hid (grows its lg j = false) := by show _ = _; rw [HGr.out, decide_eq_false hk3]; rfl
         have HO4 : Hid (ORow (w.heap.size + 1) 4 wr.drew (.slice (some ⟨gl, 0, none⟩) its.length co) (blv (passK its lg (j + 1)))) := by show ORow _ _ _ _ _; rw [passK_no its lg j HG1.out]; exact HO.out.below hd1
         have HT4 : Hid (ORow N0 3 wr.drew (.slice (some ⟨gt, 0, none⟩) its.length c6) (tgL its its.length)) := HT.out.below hd1
         have HP4 : Hid (ORow M 2 wr.drew (.slice (some ⟨gp, 0, none⟩) (its.length + 1) cp) (plK its lg (its.length + 1))) := HP.out.below hd1
         have HA1 : Hid (anyK its lg (j + 1) = ak) := by show _ = _; rw [HAny.out, HG1.out]; simp
         generalize x.kind = kd at c0' hk3
         have hk3' : (kd == 3) = false := by simpa using hk3
         go_wp2_with fail
         go_roundw
         case rel => exact ⟨j + 1, by omega, by go_num, by rw [HA1.out], HO4.out, HT4.out, HP4.out, hB.drew, hMw⟩
         case measure => simp [RowKit.intOf]; omega
       ·have hjn : j = its.length := by omega
        subst hjn
        have HTu : Hid (passK its lg its.length = turns its (m + 1)) := by show _ = _; rw [← htl, passK_end, HLg.out]; rfl
        have HO' : Hid (ORow (w.heap.size + 1) 4 wr (.slice ao its.length co) (blv (turns its (m + 1)))) := by have := HO.out; rw [HTu.out] at this; exact this
        have htl1 := turns_len its (m + 1)
        have HAn : Hid (anyK its lg its.length = (brs its).any (grows its (turns its m))) := by show _ = _; rw [HLg.out]; exact anyK_brs
        generalize anyK its lg its.length = ak at HAn ⊢
        clear HO HTu
        go_wp2_with fail
        refine (sizes_any its (turns its (m + 1)) _ _ wr hn htl1 (turns_br its (m + 1)) (HV.out.below hBw) HO'.out.bls).mono ?_
        rintro e w5 ⟨x8, rfl, hS, hb5⟩
        have HS5 : Hid (ORow wr.heap.size 2 w5 x8 (szK its (turns its (m + 1)) its.length)) := hS
        obtain ⟨a8', c8', rfl⟩ := hS.shape
        have hB5 : Below (w.heap.size + 1) (w.alloc (.cells #[] 35)) w5 := hB.trans (hb5.mono hs1)
        have HO5 : Hid (ORow (w.heap.size + 1) 4 w5 (.slice ao its.length co) (blv (turns its (m + 1)))) := HO'.out.below hb5
        have HT5 : Hid (ORow N0 3 w5 (.slice a6 its.length c6) (tgL its its.length)) := HT.out.below hb5
        have hM5 : M ≤ w5.heap.size := Nat.le_trans hMw hb5.size
        clear hS hb5
        go_wp2_with fail
        refine (places_any wr.heap.size its.length its (turns its (m + 1)) _ w5 hn rfl HS5.out).mono ?_
        rintro e w6 ⟨x9, rfl, hP6, hb6⟩
        have HP6 : Hid (ORow M 2 w6 x9 (plK its (turns its (m + 1)) (its.length + 1))) := hP6.base hM5
        obtain ⟨a9', c9', rfl⟩ := hP6.shape
        have hB6 : Below (w.heap.size + 1) (w.alloc (.cells #[] 35)) w6 := hB5.trans (hb6.mono (by omega))
        have HO6 : Hid (ORow (w.heap.size + 1) 4 w6 (.slice ao its.length co) (blv (turns its (m + 1)))) := HO5.out.below hb6
        have HT6 : Hid (ORow N0 3 w6 (.slice a6 its.length c6) (tgL its its.length)) := HT5.out.below hb6
        have hM6 : M ≤ w6.heap.size := Nat.le_trans hM5 hb6.size
        have HLast6 : Hid (lastOf (.slice a9' (plK its (turns its (m + 1)) (its.length + 1)).length c9') its.length w6 = 4 * plN its (turns its (m + 1)) its.length) := lastOf_eq HP6.out
        have HMs : Hid (2 * (8 * its.length - 4 * plN its (turns its (m + 1)) its.length) + flagOf (.bool ak) < 2 * (8 * its.length - 4 * plN its (turns its m) its.length) + flagOf (.bool true)) := by
         show _ < _
         have h8 := plN_le its (turns its (m + 1)) its.length
         cases hk : ak
         ·have : turn its (turns its m) = turns its m := turn_same (turns_len its m) (by rw [← HAn.out]; exact hk)
          have e1 : turns its (m + 1) = turns its m := this
          rw [e1]
          simp [flagOf]
         ·have h9 := turn_more (turns_len its m) (by rw [← HAn.out]; exact hk)
          have e1 : turns its (m + 1) = turn its (turns its m) := rfl
          rw [e1] at h8 ⊢
          simp only [flagOf]
          omega
        have HSt6 : Hid (ak = false → turn its (turns its (m + 1)) = turns its (m + 1)) := fun hk => by
         have : turn its (turns its m) = turns its m := turn_same (turns_len its m) (by rw [← HAn.out]; exact hk)
         have e1 : turns its (m + 1) = turns its m := this
         rw [e1]
         exact this
        clear hP6 hb6
        go_wp2_with fail
        go_roundw
        case rel => exact ⟨m + 1, ak, rfl, HO6.out, HT6.out, HP6.out, HSt6.out, hB6, hM6⟩
        case measure => rw [HLast6.out, HLast.out, HLg.out]; exact HMs.out
end
end Go.Proofs.YtpdndlghjldhjaaGreat
