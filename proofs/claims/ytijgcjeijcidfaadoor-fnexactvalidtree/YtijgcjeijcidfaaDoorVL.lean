import Derived.Test.YtijgcjeijcidfaaDoorVK
namespace Go.Proofs.YtijgcjeijcidfaaDoor
open Go.RowKit
set_option linter.unusedVariables false
set_option linter.unusedSimpArgs false

def encS (s : St) (v : Value × Value) : List Value := [.int .i64 s.kind, .string s.name, v.1, v.2, .int .i64 s.thn, .int .i64 s.els]
def dSt : St := ⟨0, ⟨#[]⟩, [], [], 0, 0⟩
/-- Statements in a row of their own, and their expressions in rows of theirs. -/
def StmtsO (B : Nat) (w : World) (v : Value) (ns : List St) : Prop := ∃ (g : Nat) (xs : List Value) (V : Nat → Value × Value), v = .slice (some ⟨g, 0, none⟩) ns.length ns.length ∧ w.ownsRow B 60 6 v ns.length xs ∧ RowIs (fun j => encS (ns.getD j dSt) (V j)) 6 ns.length xs ∧ ∀ j (h : j < ns.length), NodesO B w (V j).1 ns[j].e ∧ NodesO B w (V j).2 ns[j].f
theorem StmtsO.stmts {B : Nat} {w : World} {v : Value} {ns : List St} (h : StmtsO B w v ns) (hm : ns.length ≤ 9223372036854775807) (hs : ∀ s ∈ ns, smallS s) : Stmts w v ns := by
  obtain ⟨g, xs, V, rfl, ho, hx, hn⟩ := h
  refine ⟨_, _, rfl, Nat.le_refl _, hm, fun h0 => ⟨g, 0, rfl, fun j hj => ?_⟩⟩
  have hl := ho.1
  have key : ∀ i, i < 6 → w.cell? ⟨g, 0 + j * 6 + i, none⟩ = (encS ns[j] (V j))[i]? := fun i hi => by
    rw [Nat.zero_add, ho.cellAt (j * 6 + i) (by omega), hx j hj i hi]
    simp [List.getD, hj]
  have hsm := hs ns[j] (List.getElem_mem hj)
  exact ⟨(V j).1, (V j).2, ⟨key 0 (by omega), key 1 (by omega), key 2 (by omega), key 3 (by omega), key 4 (by omega), key 5 (by omega)⟩, (hn j hj).1.nodes (by have := hsm.1; omega), (hn j hj).2.nodes (by have := hsm.2; omega)⟩
theorem StmtsO.keep {B : Nat} {w w' : World} {v : Value} {ns : List St} (h : StmtsO B w v ns) (hb : Keep B w w') : StmtsO B w' v ns := by
  obtain ⟨g, xs, V, rfl, ho, hx, hn⟩ := h
  exact ⟨g, xs, V, rfl, owns_keep ho hb, hx, fun j hj => ⟨(hn j hj).1.keep hb, (hn j hj).2.keep hb⟩⟩
theorem StmtsO.mono {B B' : Nat} {w : World} {v : Value} {ns : List St} (h : StmtsO B w v ns) (hb : B' ≤ B) : StmtsO B' w v ns := by
  obtain ⟨g, xs, V, rfl, ho, hx, hn⟩ := h
  exact ⟨g, xs, V, rfl, owns_mono ho hb, hx, fun j hj => ⟨(hn j hj).1.mono hb, (hn j hj).2.mono hb⟩⟩
theorem inf_stmt : (Tryd.prog.info? 60).map (fun i => (i.zero, i.size, i.bytes)) = some (some (.agg #[.int .i64 0, .string ⟨#[]⟩, .slice none 0 0, .slice none 0 0, .int .i64 0, .int .i64 0]), 6, 88) := by kernel_rfl
theorem own_lt {w : World} {base e size n cap g : Nat} {xs : List Value} (h : w.ownsRow base e size (.slice (some ⟨g, 0, none⟩) n cap) n xs) : base ≤ g ∧ g < w.heap.size := h.lt g rfl

set_option maxHeartbeats 1000000 in
theorem toStmts_any (v : Value) (ns : List St) (w : World) (hl : ns.length ≤ 1048576) (hs : ∀ s ∈ ns, smallS s) (hc : Stmts w v ns) :
    Calls Tryd.prog 39 #[v] w fun e w' => ∃ v', e = .returned v' ∧ StmtsO w.heap.size w' v' ns ∧ Below w.heap.size w w' := by
  have HS : Hid (∀ s ∈ ns, smallS s) := hs
  obtain ⟨a, cap, rfl, hcl, hcm, hc⟩ := hc
  have HC : Hid (0 < ns.length → ∃ b off, a = some ⟨b, off, none⟩ ∧ StmtsC w b off ns) := hc
  clear hc hs
  obtain ⟨i0, hi, hz0, hz1, hz2⟩ := info_parts inf_stmt
  go_enter Tryd.func39, Tryd.ntmps39
  go_wp2_with (at_make; refine wpList_make_full _ rfl _ _ 43 rfl w.heap.size 60 i0 (.agg #[.int .i64 0, .string ⟨#[]⟩, .slice none 0 0, .slice none 0 0, .int .i64 0, .int .i64 0]) 6 Tryd.underlying43 hi hz0 hz1 _ _ _ _ ns.length rfl rfl (by omega) (by omega) ?_ ?_ (Nat.le_refl _) ?_)
  · rw [hz2]; omega
  · unfold maxLen; omega
  intro w1 hown1 hgrow1
  have hnx1 : Below w.heap.size w w1 := (Below.refl _ _).grown hgrow1 (Nat.le_refl _) (by simp)
  go_wp2_with fail
  go_loopw [4] (fun i wr => ∃ (k : Nat) (xs : List Value) (V : Nat → Value × Value), k ≤ ns.length ∧ i = .int .i64 k ∧ wr.ownsRow w.heap.size 60 6 (.slice (some ⟨w.heap.size, 0, none⟩) ns.length ns.length) ns.length xs ∧ RowIs (fun j => encS (ns.getD j dSt) (V j)) 6 k xs ∧ (∀ j (h : j < ns.length), j < k → NodesO (w.heap.size + 1) wr (V j).1 ns[j].e ∧ NodesO (w.heap.size + 1) wr (V j).2 ns[j].f) ∧ Below w.heap.size w wr)
    (fun i _ => ns.length - (intOf i).toNat)
  case atStart => exact ⟨0, _, fun _ => (.nilFunc, .nilFunc), Nat.zero_le _, rfl, hown1, RowIs.zero _ _ _, fun j _ hj => absurd hj (Nat.not_lt_zero _), hnx1⟩
  case round =>
    obtain ⟨k, xs, V, hk, rfl, hown, hxs, hV, hB⟩ := hrel
    clear hown1 hgrow1 hnx1
    have HX : Hid (RowIs (fun j => encS (ns.getD j dSt) (V j)) 6 k xs) := hxs
    have HV : Hid (∀ j (h : j < ns.length), j < k → NodesO (w.heap.size + 1) wr (V j).1 ns[j].e ∧ NodesO (w.heap.size + 1) wr (V j).2 ns[j].f) := hV
    clear hxs hV
    by_cases hlt : k < ns.length
    · obtain ⟨b, off, rfl, hc⟩ := HC.out (by omega)
      obtain ⟨ve, vf, ⟨d0, d1, d2, d3, d4, d5⟩, he, hf⟩ := (hc.below hB) k hlt
      have hsm := HS.out ns[k] (List.getElem_mem hlt)
      have HN : Hid (ns.getD k dSt = ns[k]) := by show _ = _; simp [List.getD, hlt]
      have HNK : Hid (∀ h : k < ns.length, ns[k] = ns[k]) := fun _ => rfl
      clear hc
      generalize hgen : ns[k] = n at d0 d1 d2 d3 d4 d5 he hf HN hsm
      have HG : Hid (ns[k] = n) := hgen
      clear hgen HNK
      have HNE : Hid (Nodes wr ve n.e) := he
      have HNF : Hid (Nodes wr vf n.f) := hf
      have HSM : Hid (smallS n) := hsm
      obtain ⟨a2, k2, rfl, -, -, -⟩ := he
      obtain ⟨a3, k3, rfl, -, -, -⟩ := hf
      have HO : Hid (wr.ownsRow w.heap.size 60 6 (.slice (some ⟨w.heap.size, 0, none⟩) ns.length ns.length) ns.length xs) := hown
      clear hown hsm
      go_wp2_with fail
      refine (toStmt_any n _ _ _ HSM.out HNE.out HNF.out).mono ?_
      rintro e w2 ⟨ve', vf', rfl, hoe, hof, hb2⟩
      have hgl := own_lt HO.out
      have HOE : Hid (NodesO (w.heap.size + 1) w2 ve' n.e) := hoe.mono (by omega)
      have HOF : Hid (NodesO (w.heap.size + 1) w2 vf' n.f) := hof.mono (by omega)
      obtain ⟨ge, xe, rfl, -, -⟩ := hoe
      obtain ⟨gf, xf, rfl, -, -⟩ := hof
      have hown2 := owns_below HO.out hb2
      obtain ⟨⟨y0, o0⟩, f0⟩ := own_old hown2 (k * 6) (by omega)
      obtain ⟨⟨y1, o1⟩, f1⟩ := own_old hown2 (k * 6 + 1) (by omega)
      obtain ⟨⟨y2, o2⟩, f2⟩ := own_old hown2 (k * 6 + 2) (by omega)
      obtain ⟨⟨y3, o3⟩, f3⟩ := own_old hown2 (k * 6 + 3) (by omega)
      obtain ⟨⟨y4, o4⟩, f4⟩ := own_old hown2 (k * 6 + 4) (by omega)
      obtain ⟨⟨y5, o5⟩, f5⟩ := own_old hown2 (k * 6 + 5) (by omega)
      have hB2 := hB.trans (hb2.mono hB.size)
      have HR : Hid _ := owns_put (encS n (.slice (some ⟨ge, 0, none⟩) n.e.length n.e.length, .slice (some ⟨gf, 0, none⟩) n.f.length n.f.length)) w2 xs (k * 6) hown2
      have HL : Hid (xs.length = ns.length * 6) := hown2.1
      have HB3 : Hid _ := below_put (Nat.le_refl _) (encS n (.slice (some ⟨ge, 0, none⟩) n.e.length n.e.length, .slice (some ⟨gf, 0, none⟩) n.f.length n.f.length)) w2 (k * 6) hB2
      have HK2 : Hid (Keep (w.heap.size + 1) w2 (setMany w2 w.heap.size (k * 6) (encS n (.slice (some ⟨ge, 0, none⟩) n.e.length n.e.length, .slice (some ⟨gf, 0, none⟩) n.f.length n.f.length)))) := Keep.of_set (by omega)
      have HKB : Hid (Keep (w.heap.size + 1) wr w2) := Keep.of_below hb2
      clear hown2 d0 d1 d2 d3 d4 d5
      go_wp2_with fail
      go_roundw
      case rel =>
        refine ⟨k + 1, _, fun j => if j = k then (.slice (some ⟨ge, 0, none⟩) n.e.length n.e.length, .slice (some ⟨gf, 0, none⟩) n.f.length n.f.length) else V j, by omega, by go_num, HR.out, HX.out.step (fun j hj => ?_) ?_ rfl (by have := HL.out; omega), fun j hj hjk => ?_, HB3.out⟩
        · dsimp only; rw [if_neg (by omega)]
        · dsimp only; rw [if_pos rfl, HN.out]
        · by_cases e : j = k
          · subst e
            dsimp only
            rw [if_pos rfl, HG.out]
            exact ⟨HOE.out.keep HK2.out, HOF.out.keep HK2.out⟩
          · dsimp only
            rw [if_neg e]
            have h := HV.out j hj (by omega)
            exact ⟨(h.1.keep HKB.out).keep HK2.out, (h.2.keep HKB.out).keep HK2.out⟩
      case measure => simp [intOf]; omega
    · have HO : Hid (wr.ownsRow w.heap.size 60 6 (.slice (some ⟨w.heap.size, 0, none⟩) ns.length ns.length) ns.length xs) := hown
      clear hown
      have HK : Hid (k = ns.length) := by show _ = _; omega
      go_wp2_with fail
      go_ret
      exact ⟨_, rfl, ⟨w.heap.size, xs, V, rfl, HO.out, by rw [← HK.out]; exact HX.out, fun j hj => ⟨(HV.out j hj (by have := HK.out; omega)).1.mono (by omega), (HV.out j hj (by have := HK.out; omega)).2.mono (by omega)⟩⟩, hB⟩

end Go.Proofs.YtijgcjeijcidfaaDoor
