import Derived.Test.YtjhmgjimppflhaaGreatDoorZ18
namespace Go.Proofs.YtjhmgjimppflhaaGreatDoor
set_option linter.unusedVariables false
set_option linter.unusedSimpArgs false
set_option maxRecDepth 100000
set_option maxHeartbeats 16000000
section
open Go.RowKit
def S0 (g : Nat) : Nat → Prop := fun k => k = g
def Sq (g q : Nat) : Nat → Prop := fun k => k = g ∨ k = q
theorem s0q {g q : Nat} : ∀ k, S0 g k → Sq g q k := fun k h => .inl h
/-- The generator's box. -/
structure GB (q : Nat) (w : World) (G : Gn) : Prop where
  c0 : w.cell? ⟨q, 0, none⟩ = some G.vc
  c1 : w.cell? ⟨q, 1, none⟩ = some G.vp
  c2 : w.cell? ⟨q, 2, none⟩ = some G.vs
  c3 : w.cell? ⟨q, 3, none⟩ = some G.vl
  c4 : w.cell? ⟨q, 4, none⟩ = some (.int .i64 G.m)
  fz : ∀ j, w.frozen? ⟨q, j, none⟩ = false
theorem GB.keep {q : Nat} {w w' : World} {G : Gn} (h : GB q w G) (hb : w'.heap[q]? = w.heap[q]?) : GB q w' G :=
  ⟨(World.cell?_of_block (a := ⟨q, 0, none⟩) hb).trans h.c0, (World.cell?_of_block (a := ⟨q, 1, none⟩) hb).trans h.c1, (World.cell?_of_block (a := ⟨q, 2, none⟩) hb).trans h.c2, (World.cell?_of_block (a := ⟨q, 3, none⟩) hb).trans h.c3, (World.cell?_of_block (a := ⟨q, 4, none⟩) hb).trans h.c4, fun o => (World.frozen?_of_block (a := ⟨q, o, none⟩) hb).trans (h.fz o)⟩
theorem GB.lt {q : Nat} {w : World} {G : Gn} (h : GB q w G) : q < w.heap.size := World.block_lt_of_cell? _ _ h.c0
theorem offN {g a b : Nat} (h : a ≠ b) : (⟨g, a, none⟩ : Addr) ≠ ⟨g, b, none⟩ := fun e => by simp [h] at e
theorem GB.set2 {q : Nat} {w : World} {G : Gn} (h : GB q w G) (v : Value) (ss : List ByteArray) : GB q (w.setCell ⟨q, 2, none⟩ v) { G with vs := v, ss := ss } :=
  ⟨(World.cell?_setCell_other _ _ _ _ (offN (by decide))).trans h.c0, (World.cell?_setCell_other _ _ _ _ (offN (by decide))).trans h.c1, World.cell?_setCell_same _ _ _ h.c2, (World.cell?_setCell_other _ _ _ _ (offN (by decide))).trans h.c3, (World.cell?_setCell_other _ _ _ _ (offN (by decide))).trans h.c4, fun o => by simpa using h.fz o⟩
theorem GB.set3 {q : Nat} {w : World} {G : Gn} (h : GB q w G) (v : Value) (ls : List ByteArray) : GB q (w.setCell ⟨q, 3, none⟩ v) { G with vl := v, ls := ls } :=
  ⟨(World.cell?_setCell_other _ _ _ _ (offN (by decide))).trans h.c0, (World.cell?_setCell_other _ _ _ _ (offN (by decide))).trans h.c1, (World.cell?_setCell_other _ _ _ _ (offN (by decide))).trans h.c2, World.cell?_setCell_same _ _ _ h.c3, (World.cell?_setCell_other _ _ _ _ (offN (by decide))).trans h.c4, fun o => by simpa using h.fz o⟩
theorem GB.set4 {q : Nat} {w : World} {G : Gn} (h : GB q w G) (z : Int) : GB q (w.setCell ⟨q, 4, none⟩ (.int .i64 z)) { G with m := z } :=
  ⟨(World.cell?_setCell_other _ _ _ _ (offN (by decide))).trans h.c0, (World.cell?_setCell_other _ _ _ _ (offN (by decide))).trans h.c1, (World.cell?_setCell_other _ _ _ _ (offN (by decide))).trans h.c2, (World.cell?_setCell_other _ _ _ _ (offN (by decide))).trans h.c3, World.cell?_setCell_same _ _ _ h.c4, fun o => by simpa using h.fz o⟩
/-- The cursor and the generator, as a statement finds them; S holds the blocks that may turn meanwhile. -/
structure GS (g : Nat) (a : Option Addr) (len cap q : Nat) (S : Nat → Prop) (w : World) (G : Gn) (K : Nat) : Prop where
  cur : Cur g a len cap w
  box : GB q w G
  ok : GnOk S w G K
  lo : Lo g a len S w.heap.size
  sq : S q
  ne : q ≠ g
theorem GS.lo0 {g : Nat} {a : Option Addr} {len cap q : Nat} {S : Nat → Prop} {w : World} {G : Gn} {K : Nat} (h : GS g a len cap q S w G K) : Lo g a len (S0 g) w.heap.size :=
  ⟨h.lo.gl, rfl, fun b off x y => ⟨(h.lo.by8 b off x y).1, fun e => (h.lo.by8 b off x y).2 (e ▸ h.lo.sg)⟩, fun k hk => h.lo.s k (hk ▸ h.lo.sg)⟩
theorem GS.s0 {g : Nat} {a : Option Addr} {len cap q : Nat} {S : Nat → Prop} {w : World} {G : Gn} {K : Nat} (h : GS g a len cap q S w G K) : ∀ k, S0 g k → S k := fun k hk => hk ▸ h.lo.sg
theorem GS.sqs {g : Nat} {a : Option Addr} {len cap q : Nat} {S : Nat → Prop} {w : World} {G : Gn} {K : Nat} (h : GS g a len cap q S w G K) : ∀ k, Sq g q k → S k := fun k hk => by rcases hk with rfl | rfl; exact h.lo.sg; exact h.sq
theorem GS.ok0 {g : Nat} {a : Option Addr} {len cap q : Nat} {S : Nat → Prop} {w : World} {G : Gn} {K : Nat} (h : GS g a len cap q S w G K) : GnOk (S0 g) w G K := h.ok.less h.s0
/-- A draw that does not touch the generator. -/
theorem GS.dr {g : Nat} {a : Option Addr} {len cap q : Nat} {S : Nat → Prop} {w w' : World} {G : Gn} {K : Nat} (h : GS g a len cap q S w G K) (hd : Dr g a len cap (S0 g) w w') : GS g a len cap q S w' G K :=
  ⟨hd.cur, h.box.keep (hd.tcs.block q h.box.lt h.ne), h.ok.tcs (hd.tcs.mono h.s0), h.lo.mono hd.tcs.size, h.sq, h.ne⟩
theorem GS.below {g : Nat} {a : Option Addr} {len cap q : Nat} {S : Nat → Prop} {w w' : World} {G : Gn} {K : Nat} (h : GS g a len cap q S w G K) (hb : Below w.heap.size w w') : GS g a len cap q S w' G K := h.dr ⟨h.cur.below hb, hb.tcs⟩
theorem GS.alloc {g : Nat} {a : Option Addr} {len cap q : Nat} {S : Nat → Prop} {w : World} {G : Gn} {K : Nat} (h : GS g a len cap q S w G K) (o : Obj) : GS g a len cap q S (w.alloc o) G K := h.below ((Below.refl _ _).alloc (Nat.le_refl _) o)
/-- The blocks of S and those of a value. -/
def Sv (S : Nat → Prop) (v : Value) : Nat → Prop := fun k => S k ∨ v.ownBlock = some k
/-- A row of one's own, just begun, may turn as well. -/
theorem GS.add {g : Nat} {a : Option Addr} {len cap q : Nat} {S : Nat → Prop} {w0 w : World} {G : Gn} {K : Nat} {v : Value} (h : GS g a len cap q S w0 G K) (h' : GS g a len cap q S w G K) (ht : Tcs S w0 w) (hv : ∀ k, v.ownBlock = some k → w0.heap.size ≤ k ∧ k < w.heap.size) : GS g a len cap q (Sv S v) w G K := by
  refine ⟨h'.cur, h'.box, ?_, ⟨h'.lo.gl, .inl h'.lo.sg, fun b off x y => ⟨(h'.lo.by8 b off x y).1, fun e => ?_⟩, fun k hk => ?_⟩, .inl h'.sq, h'.ne⟩
  · have key : ∀ W, Tcs (Sv S v) w W → Tcs S w0 W := fun W hW => ht.next hW fun k hk => by
      rcases hk with hk | hk
      · exact .inl hk
      · exact .inr (hv k hk).1
    exact ⟨fun W hW => h.ok.c W (key W hW), fun W hW => h.ok.p W (key W hW), fun W hW => h.ok.s W (key W hW), fun W hW => h.ok.l W (key W hW), h.ok.cp, h.ok.c4, h.ok.pb, h.ok.ns, h.ok.sl, h.ok.ll, h.ok.mb⟩
  · rcases e with e | e
    · exact (h'.lo.by8 b off x y).2 e
    · have := (hv b e).1
      have := (h.lo.by8 b off x y).1
      omega
  · rcases hk with hk | hk
    · exact h'.lo.s k hk
    · exact (hv k hk).2
/-- Behind an append to the row that may turn. -/
theorem GS.app {g : Nat} {a : Option Addr} {len cap q : Nat} {S : Nat → Prop} {w w' : World} {G : Gn} {K B : Nat} {v v' : Value} (h : GS g a len cap q (Sv S v) w G K) (hL : Lo g a len S B) (hq : S q) (hv : ∀ k, v.ownBlock = some k → B ≤ k) (ht : Tcs (fun k => v.ownBlock = some k) w w') (hf : ∀ k, v'.ownBlock = some k → v.ownBlock = some k ∨ w.heap.size ≤ k) (hlt : ∀ k, v'.ownBlock = some k → k < w'.heap.size) : GS g a len cap q (Sv S v') w' G K := by
  have key : ∀ W, Tcs (Sv S v') w' W → Tcs (Sv S v) w W := fun W hW => (ht.mono fun k hk => .inr hk).next hW fun k hk => by
    rcases hk with hk | hk
    · exact .inl (.inl hk)
    · rcases hf k hk with h1 | h1
      · exact .inl (.inr h1)
      · exact .inr h1
  have hqB := hL.s q hq
  refine ⟨h.cur.new hL ht hv, h.box.keep (ht.block q h.box.lt (fun s => by have := hv q s; omega)), ⟨fun W hW => h.ok.c W (key W hW), fun W hW => h.ok.p W (key W hW), fun W hW => h.ok.s W (key W hW), fun W hW => h.ok.l W (key W hW), h.ok.cp, h.ok.c4, h.ok.pb, h.ok.ns, h.ok.sl, h.ok.ll, h.ok.mb⟩, ⟨?_, .inl hL.sg, fun b off x y => ⟨?_, fun e => ?_⟩, fun k hk => ?_⟩, .inl hq, h.ne⟩
  · have := h.lo.gl; have := ht.size; omega
  · have := (h.lo.by8 b off x y).1; have := ht.size; omega
  · rcases e with e | e
    · exact (h.lo.by8 b off x y).2 (.inl e)
    · rcases hf b e with h1 | h1
      · exact (h.lo.by8 b off x y).2 (.inr h1)
      · have := (h.lo.by8 b off x y).1; omega
  · rcases hk with hk | hk
    · have := h.lo.s k (.inl hk); have := ht.size; omega
    · exact hlt k hk
theorem GS.sub {g : Nat} {a : Option Addr} {len cap q : Nat} {S S' : Nat → Prop} {w : World} {G : Gn} {K : Nat} (h : GS g a len cap q S w G K) (hs : ∀ k, S' k → S k) (hg : S' g) (hq : S' q) : GS g a len cap q S' w G K :=
  ⟨h.cur, h.box, h.ok.less hs, ⟨h.lo.gl, hg, fun b off x y => ⟨(h.lo.by8 b off x y).1, fun e => (h.lo.by8 b off x y).2 (hs b e)⟩, fun k hk => h.lo.s k (hs k hk)⟩, hq, h.ne⟩
/-- The row is let go. -/
theorem GS.drop {g : Nat} {a : Option Addr} {len cap q : Nat} {S : Nat → Prop} {w : World} {G : Gn} {K : Nat} {v : Value} (h : GS g a len cap q (Sv S v) w G K) (hg : S g) (hq : S q) : GS g a len cap q S w G K :=
  ⟨h.cur, h.box, h.ok.less fun k hk => .inl hk, ⟨h.lo.gl, hg, fun b off x y => ⟨(h.lo.by8 b off x y).1, fun e => (h.lo.by8 b off x y).2 (.inl e)⟩, fun k hk => h.lo.s k (.inl hk)⟩, hq, h.ne⟩
theorem GS.more {g : Nat} {a : Option Addr} {len cap q : Nat} {S : Nat → Prop} {w : World} {G : Gn} {K K' : Nat} (h : GS g a len cap q S w G K) (hk : K ≤ K') : GS g a len cap q S w G K' := ⟨h.cur, h.box, h.ok.more hk, h.lo, h.sq, h.ne⟩
theorem GS.set {g : Nat} {a : Option Addr} {len cap q : Nat} {S : Nat → Prop} {w : World} {G G' : Gn} {K K' : Nat} {o : Nat} {v : Value} (h : GS g a len cap q S w G K) (hb : GB q (w.setCell ⟨q, o, none⟩ v) G') (hG : GnOk S w G' K') : GS g a len cap q S (w.setCell ⟨q, o, none⟩ v) G' K' :=
  have ht : Tcs S w (w.setCell ⟨q, o, none⟩ v) := (Tcs.refl _ _).setCell (p := ⟨q, o, none⟩) h.sq v
  have ht2 : Tcs (fun k => k = q) w (w.setCell ⟨q, o, none⟩ v) := (Tcs.refl (fun k => k = q) w).setCell (p := ⟨q, o, none⟩) rfl v
  ⟨h.cur.keep ht2 (fun e => h.ne e.symm) (fun b off x y e => (h.lo.by8 b off x y).2 (e ▸ h.sq)), hb, hG.tcs ht, h.lo.mono ht.size, h.sq, h.ne⟩
theorem set_sq {g q o : Nat} (w : World) (v : Value) : Tcs (Sq g q) w (w.setCell ⟨q, o, none⟩ v) := (Tcs.refl _ _).setCell (p := ⟨q, o, none⟩) (.inr rfl) v
theorem GnOk.setM {S : Nat → Prop} {w : World} {G : Gn} {K : Nat} (h : GnOk S w G K) : GnOk S w { G with m := G.m + 1 } (K + 1) :=
  ⟨h.c, h.p, h.s, h.l, h.cp, h.c4, h.pb, h.ns, Nat.le_trans h.sl (Nat.le_succ _), Nat.le_trans h.ll (Nat.le_succ _), by have := h.mb; show 0 ≤ G.m + 1 ∧ G.m + 1 ≤ ((K + 1 : Nat) : Int); omega⟩
theorem GnOk.setS {S : Nat → Prop} {w : World} {G : Gn} {K : Nat} (h : GnOk S w G K) {v : Value} {ss : List ByteArray} (hs : ∀ W, Tcs S w W → Strs W v ss) (hn : ∀ x ∈ ss, x.size ≤ 100000) (hl : ss.length ≤ K) : GnOk S w { G with vs := v, ss := ss } K :=
  ⟨h.c, h.p, hs, h.l, h.cp, h.c4, h.pb, ⟨h.ns.1, hn, h.ns.2.2⟩, hl, h.ll, h.mb⟩
theorem GnOk.setL {S : Nat → Prop} {w : World} {G : Gn} {K : Nat} (h : GnOk S w G K) {v : Value} {ls : List ByteArray} (hs : ∀ W, Tcs S w W → Strs W v ls) (hn : ∀ x ∈ ls, x.size ≤ 100000) (hl : ls.length ≤ K) : GnOk S w { G with vl := v, ls := ls } K :=
  ⟨h.c, h.p, h.s, hs, h.cp, h.c4, h.pb, ⟨h.ns.1, h.ns.2.1, hn⟩, h.sl, hl, h.mb⟩
theorem tx_cat (s : ByteArray) : ((⟨#[118]⟩ : ByteArray) ++ s).size = s.size + 1 := by
  rw [ByteArray.size_append]
  show 1 + s.size = _
  omega
set_option maxRecDepth 100000 in
set_option maxHeartbeats 2000000 in
theorem newName_any (g : Nat) (a : Option Addr) (len cap q : Nat) (S : Nat → Prop) (G : Gn) (K : Nat) (w : World) (h : GS g a len cap q S w G K) (hK : K + 1 ≤ 50000) :
    Calls Tryz.prog 105 #[.pointer (some ⟨q, 0, none⟩)] w fun e w' => ∃ s, e = .returned (.string s) ∧ s.size ≤ 100000 ∧ GS g a len cap q S w' { G with m := G.m + 1 } (K + 1) ∧ Tcs (Sq g q) w w' := by
  have hm := h.ok.mb
  obtain ⟨u, hu⟩ : ∃ u : Nat, G.m + 1 = u := ⟨(G.m + 1).toNat, by omega⟩
  have c4 := h.box.c4
  have f4 := h.box.fz 4
  have HU : Hid (G.m + 1 = u) := hu
  have HN : Hid (GS g a len cap q S (w.setCell ⟨q, 4, none⟩ (.int .i64 (G.m + 1))) { G with m := G.m + 1 } (K + 1)) := h.set (h.box.set4 _) h.ok.setM
  have HT : Hid (Tcs (Sq g q) w (w.setCell ⟨q, 4, none⟩ (.int .i64 (G.m + 1)))) := (Tcs.refl _ _).setCell (p := ⟨q, 4, none⟩) (.inr rfl) _
  have HDg : Hid (∀ W : World, Calls Tryz.prog 44 #[.int .i64 (G.m + 1)] W fun e w' => e = .returned (.string (tx (Lib.decDigits u))) ∧ Below W.heap.size W w') := fun W => by rw [hu]; exact digN_any u u (Nat.le_refl _) (by omega) W
  have hsz : (tx (Lib.decDigits u)).size ≤ 50002 := by
    rw [tx_size]
    have := dec_len u u (Nat.le_refl _)
    omega
  generalize tx (Lib.decDigits u) = A at hsz HDg
  have hsz' : ((A.size : Nat) : Int) ≤ 1000000 := by omega
  have HS : Hid (((⟨#[118]⟩ : ByteArray) ++ A).size ≤ 100000) := by show _ ≤ _; rw [tx_cat]; omega
  have h1 : (⟨#[118]⟩ : ByteArray).size = 1 := rfl
  generalize G.m = m at *
  clear hu hsz h
  go_enter Tryz.func105, Tryz.ntmps105
  go_wp2_with fail
  refine (HDg.out _).mono ?_
  rintro e w2 ⟨rfl, hb2⟩
  have HF : Hid (GS g a len cap q S w2 { G with m := m + 1 } (K + 1) ∧ Tcs (Sq g q) w w2) := ⟨HN.out.below hb2, HT.out.of_below hb2⟩
  clear hb2 c4 f4
  go_wp2_with fail
  go_ret
  exact ⟨_, rfl, HS.out, HF.out.1, HF.out.2⟩
end
section
open Go.RowKit
/-- What the statements of a row point to. -/
def PtS (R : List SV) (W : World) : Prop := ∀ x ∈ R, Nodes W x.ve x.s.e ∧ Nodes W x.vf x.s.f
/-- Statements whose expressions and names can be told. -/
def okS (R : List SV) : Prop := ∀ x ∈ R, okN x.s.e 3000 ∧ okN x.s.f 3000 ∧ x.s.name.size ≤ 100000
/-- A row of statements of one's own; what they point to lies in blocks from B on. -/
structure SR (B : Nat) (w : World) (v : Value) (R : List SV) (L : Nat) : Prop where
  row : DRow 88 6 (fun k => k < B) B w v R.length (flatS R) (PtS R)
  ok : okS R
  len : R.length ≤ L
theorem SR.tcs {S : Nat → Prop} {B : Nat} {w w' : World} {v : Value} {R : List SV} {L : Nat} (h : SR B w v R L) (ht : Tcs S w w') (hS : ∀ k, S k → k < B) : SR B w' v R L := ⟨h.row.tcs (ht.mono hS) (fun k hk => hk), h.ok, h.len⟩
theorem SR.below {B : Nat} {w w' : World} {v : Value} {R : List SV} {L : Nat} (h : SR B w v R L) (hb : Below w.heap.size w w') : SR B w' v R L := ⟨h.row.below hb, h.ok, h.len⟩
theorem SR.low {B B' : Nat} {w : World} {v : Value} {R : List SV} {L : Nat} (h : SR B w v R L) (hb : B' ≤ B) : SR B' w v R L := ⟨(h.row.low hb).less (fun k hk => by omega), h.ok, h.len⟩
theorem SR.more {B : Nat} {w : World} {v : Value} {R : List SV} {L L' : Nat} (h : SR B w v R L) (hl : L ≤ L') : SR B w v R L' := ⟨h.row, h.ok, Nat.le_trans h.len hl⟩
theorem SR.shape {B : Nat} {w : World} {v : Value} {R : List SV} {L : Nat} (h : SR B w v R L) : ∃ a c, v = .slice a R.length c := by
  obtain ⟨a, c, e, -⟩ := own_shape h.row.row
  exact ⟨a, c, e⟩
theorem SR.rng {B : Nat} {w : World} {v : Value} {R : List SV} {L : Nat} (h : SR B w v R L) : ∀ k, v.ownBlock = some k → B ≤ k ∧ k < w.heap.size := fun k hk => World.ownsRow.lt h.row.row k hk
theorem sr_nil (w : World) (B : Nat) (hB : B ≤ w.heap.size) : SR B (w.alloc (.cells #[] 88)) (.slice (some ⟨w.heap.size, 0, none⟩) 0 0) [] 0 :=
  ⟨⟨World.ownsRow_lit w #[] 0 hB (by decide) rfl, fun W _ x hx => by cases hx⟩, (fun x hx => by cases hx), Nat.le_refl _⟩
theorem nodes_none (W : World) : Nodes W (.slice none 0 0) [] := ⟨none, 0, rfl, Nat.le_refl _, by omega, fun h => absurd h (Nat.lt_irrefl _)⟩
/-- A row of nodes, from block B on. -/
theorem nrow_st {B B' : Nat} {w : World} {v : Value} {e : List Nd} (h : NRow B w v e) (hb : B' ≤ B) : ∀ W, Tcs (fun k => k < B') w W → Nodes W v e := nrow_fz h (fun k hk => by omega)
/-- A row of one statement, just made. -/
theorem sr_lit {w : World} {B : Nat} {ve vf : Value} {kd th el : Int} {nm : ByteArray} {e f : List Nd} (hB : B ≤ w.heap.size) (hE : ∀ W, Tcs (fun k => k < B) w W → Nodes W ve e) (hF : ∀ W, Tcs (fun k => k < B) w W → Nodes W vf f) (oe : okN e 3000) (of' : okN f 3000) (on : nm.size ≤ 100000) :
    SR B (w.alloc (.cells #[.int .i64 kd, .string nm, ve, vf, .int .i64 th, .int .i64 el] 88)) (.slice (some ⟨w.heap.size, 0, none⟩) 1 1) [⟨⟨kd, nm, e, f, th, el⟩, ve, vf, [], []⟩] 1 := by
  refine ⟨⟨World.ownsRow_lit w #[.int .i64 kd, .string nm, ve, vf, .int .i64 th, .int .i64 el] 1 hB (by decide) rfl, fun W hW x hx => ?_⟩, fun x hx => ?_, Nat.le_refl _⟩
  · simp only [List.mem_singleton] at hx
    subst hx
    have ht : Tcs (fun k => k < B) w W := ((Tcs.refl _ w).alloc _).next hW fun k hk => by
      rcases hk with hk | hk
      · exact .inl hk
      · simp only [Value.ownBlock, Option.some.injEq] at hk
        exact .inr (by omega)
    exact ⟨hE W ht, hF W ht⟩
  · simp only [List.mem_singleton] at hx
    subst hx
    exact ⟨oe, of', on⟩
/-- append of a row of statements to another. -/
theorem sr_app {w : World} {B B2 : Nat} {v u : Value} {R R2 : List SV} {L L2 : Nat} (ty : TypeId) (h : SR B w v R L) (h2 : SR B2 w u R2 L2) (hB : B ≤ w.heap.size) (hm : L + L2 ≤ 1000000)
    (hP2 : ∀ W, Tcs (fun k => k < B ∨ v.ownBlock = some k) w W → PtS R2 W) :
    ∃ v' w', (Builtin.append_ #[59, 59] ty #[v, u]).run Tryz.prog w = .ok v' w' ∧ SR B w' v' (R ++ R2) (L + L2) ∧ Tcs (fun k => v.ownBlock = some k) w w' ∧ ∀ k, v'.ownBlock = some k → v.ownBlock = some k ∨ w.heap.size ≤ k := by
  obtain ⟨i0, hi, hz0, hz1, hz2⟩ := info_parts info_stmt
  obtain ⟨a, c, rfl, hn, hc⟩ := own_shape h2.row.row
  have hlen := h.len
  have hlen2 := h2.len
  obtain ⟨v', w', r1, r2, r3⟩ := drow_app (Pg := Tryz.prog) (w := w) (T := 88) (t := 59) (c := c) (P2 := PtS R2) ty Tryz.underlying59 hi hz0 hz1 hz2 rfl (by decide) h.row a hn (flatS_len R2) hc (flatS_one R2 fun q hq => ⟨(h2.row.now q hq).1.cell1, (h2.row.now q hq).2.cell1⟩) hP2 (by omega) (by decide) hB
  refine ⟨v', w', r1, ⟨⟨by rw [List.length_append, flatS_append]; exact r2.row, fun W hW x hx => ?_⟩, fun x hx => ?_, by rw [List.length_append]; omega⟩, r3⟩
  · rcases List.mem_append.1 hx with hx | hx
    · exact (r2.st W hW).1 x hx
    · exact (r2.st W hW).2 x hx
  · rcases List.mem_append.1 hx with hx | hx
    · exact h.ok x hx
    · exact h2.ok x hx
/-- The second row came to be behind the first. -/
theorem sr_behind {w : World} {B B2 : Nat} {u v : Value} {R2 : List SV} {L2 : Nat} (h2 : SR B2 w u R2 L2) (hB : B ≤ B2) (hv : ∀ k, v.ownBlock = some k → k < B2) : ∀ W, Tcs (fun k => k < B ∨ v.ownBlock = some k) w W → PtS R2 W := fun W hW =>
  h2.row.st W (hW.mono fun k hk => by
    rcases hk with hk | hk
    · exact .inl (by omega)
    · exact .inl (hv k hk))
/-- The first row came to be behind the second, which was whole in w1. -/
theorem sr_before {w1 w : World} {B B2 : Nat} {u v : Value} {R2 : List SV} {L2 : Nat} (h2 : SR B2 w1 u R2 L2) (ht : Tcs (fun k => k < B2) w1 w) (hB : B ≤ B2) (hv : ∀ k, v.ownBlock = some k → w1.heap.size ≤ k) : ∀ W, Tcs (fun k => k < B ∨ v.ownBlock = some k) w W → PtS R2 W := fun W hW =>
  h2.row.st W ((ht.mono fun k hk => .inl hk).next hW fun k hk => by
    rcases hk with hk | hk
    · exact .inl (.inl (by omega))
    · exact .inr (hv k hk))
/-- What a draw of statements leaves: at least m and at most L of them. -/
def StP (g : Nat) (a : Option Addr) (len cap q : Nat) (S : Nat → Prop) (K L m : Nat) (w : World) (v : Value) (w' : World) : Prop := ∃ R G', SR w.heap.size w' v R L ∧ m ≤ R.length ∧ GS g a len cap q (Sv S v) w' G' (K + L) ∧ Tcs (Sq g q) w w'
/-- What l2GenStmt does at this depth. -/
def StC (g : Nat) (a : Option Addr) (len cap q d : Nat) : Prop := ∀ (z : Int) (S : Nat → Prop) (G : Gn) (K : Nat) (w : World), z = d → GS g a len cap q S w G K → K + dpt d ≤ 50000 →
    Calls Tryz.prog 76 #[.pointer (some ⟨g, 0, none⟩), .pointer (some ⟨q, 0, none⟩), .int .i64 z] w fun e w' => ∃ v, e = .returned v ∧ StP g a len cap q S K (dpt d) 1 w v w'
end
section
open Go.RowKit
theorem dpt_le {d : Nat} (h : d ≤ 4) : 1 ≤ dpt d ∧ dpt d ≤ 511 := by
  have : d = 0 ∨ d = 1 ∨ d = 2 ∨ d = 3 ∨ d = 4 := by omega
  rcases this with rfl | rfl | rfl | rfl | rfl <;> decide
set_option maxRecDepth 100000 in
set_option maxHeartbeats 4000000 in
theorem block_any (g : Nat) (a : Option Addr) (len cap q d : Nat) (hd : d ≤ 4) (hX : StC g a len cap q d) (n : Nat) (hn : n ≤ 10) (zn zd : Int) (hzn : zn = n) (hzd : zd = d) (S : Nat → Prop) (G : Gn) (K : Nat) (w : World) (h : GS g a len cap q S w G K) (hK : K + n * dpt d ≤ 50000) :
    Calls Tryz.prog 45 #[.pointer (some ⟨g, 0, none⟩), .pointer (some ⟨q, 0, none⟩), .int .i64 zn, .int .i64 zd] w fun e w' => ∃ v, e = .returned v ∧ StP g a len cap q S K (n * dpt d) n w v w' := by
  have hdb := dpt_le hd
  obtain ⟨D, hD⟩ : ∃ D, D = dpt d := ⟨_, rfl⟩
  have HX : Hid (∀ (S : Nat → Prop) (G : Gn) (K : Nat) (w : World), GS g a len cap q S w G K → K + D ≤ 50000 → Calls Tryz.prog 76 #[.pointer (some ⟨g, 0, none⟩), .pointer (some ⟨q, 0, none⟩), .int .i64 zd] w fun e w' => ∃ v, e = .returned v ∧ StP g a len cap q S K D 1 w v w') := fun S G K w h hk => by rw [hD] at hk ⊢; exact hX zd S G K w hzd h hk
  rw [← hD] at hdb hK ⊢
  have HS : Hid (∀ W, Tcs S w W → Strs W G.vs G.ss) := h.ok.s
  have HSn : Hid (∀ x ∈ G.ss, x.size ≤ 100000) := h.ok.ns.2.1
  have HSl : Hid (G.ss.length ≤ K) := h.ok.sl
  have HL : Hid (Lo g a len S w.heap.size) := h.lo
  have HSq : Hid (S q) := h.sq
  have HSS : Hid (∀ k, Sq g q k → S k) := h.sqs
  have HG0 : Hid (GS g a len cap q (Sv S (.slice (some ⟨w.heap.size, 0, none⟩) 0 0)) (w.alloc (.cells #[] 88)) G K) := h.add (h.alloc _) ((Tcs.refl _ _).alloc _) (fun k hk => by simp [Value.ownBlock] at hk; subst hk; simp)
  have c2 : (w.alloc (.cells #[] 88)).cell? ⟨q, 2, none⟩ = some G.vs := (h.alloc _).box.c2
  have c2' : w.cell? ⟨q, 2, none⟩ = some G.vs := h.box.c2
  have hql : q < w.heap.size := h.box.lt
  obtain ⟨avs, cvs, hvs, -⟩ := h.ok.s w (Tcs.refl _ _)
  have HV : Hid (G.vs = .slice avs G.ss.length cvs) := hvs
  rw [hvs] at c2 c2'
  obtain ⟨sl, hsl⟩ : ∃ sl, sl = G.ss.length := ⟨_, rfl⟩
  rw [← hsl] at c2 c2'
  have HV' : Hid (G.vs = .slice avs sl cvs) := by rw [hsl]; exact hvs
  have hzn0 : 0 ≤ zn ∧ zn ≤ 10 := by omega
  have HZn : Hid (zn = n) := hzn
  clear hvs h hX hD hsl hzn hzd
  go_enter Tryz.func45, Tryz.ntmps45
  go_wp2_with fail
  go_loopw [9, 11, 12] (fun ov i mr wr => ∃ j : Nat, j ≤ n ∧ i = .int .i64 j ∧ ∃ (R : List SV) (G' : Gn), SR w.heap.size wr ov R (j * D) ∧ j ≤ R.length ∧ GS g a len cap q (Sv S ov) wr G' (K + j * D) ∧ Tcs (Sq g q) w wr) (fun _ i _ _ => n - (RowKit.intOf i).toNat)
  case atStart => exact ⟨0, by omega, rfl, [], G, by rw [Nat.zero_mul]; exact sr_nil w w.heap.size (Nat.le_refl _), by simp, by rw [Nat.zero_mul]; exact HG0.out, (Tcs.refl _ _).alloc _⟩
  case round =>
    obtain ⟨j, hj, rfl, R, G', hr, hjl, hg, ht⟩ := hrel
    have HR : Hid (SR w.heap.size wr u9 R (j * D)) := hr
    have HGj : Hid (GS g a len cap q (Sv S u9) wr G' (K + j * D)) := hg
    have HT : Hid (Tcs (Sq g q) w wr) := ht
    have HJ : Hid (j ≤ R.length) := hjl
    clear hr hg ht hjl c2 c2' HG0
    by_cases hlt : (j : Int) < zn
    · have hmul : (j + 1) * D ≤ n * D := Nat.mul_le_mul_right _ (by have := HZn.out; omega)
      have HM : Hid ((j + 1) * D = j * D + D) := Nat.succ_mul j D
      have hnD : n * D ≤ 10 * 511 := Nat.mul_le_mul hn hdb.2
      have hkk : K + j * D + D ≤ 50000 := by have := HM.out; omega
      have hjD : j * D + D ≤ 1000000 := by have := HM.out; omega
      clear hmul hnD
      go_wp2_with fail
      refine (HX.out (Sv S u9) G' (K + j * D) wr HGj.out hkk).mono ?_
      rintro e w2 ⟨u2, rfl, R2, G2, hr2, hl2, hg2, ht2⟩
      have hR' := HR.out.tcs ht2 (fun k hk => HL.out.s k (HSS.out k hk))
      obtain ⟨v3, w3, r3, h3, t3, f3⟩ := sr_app 59 hR' hr2 (Nat.le_trans HT.out.size ht2.size) hjD (sr_behind hr2 HT.out.size (fun k hk => (HR.out.rng k hk).2))
      have HE : Hid (SR w.heap.size w3 v3 (R ++ R2) ((j + 1) * D) ∧ j + 1 ≤ (R ++ R2).length ∧ GS g a len cap q (Sv S v3) w3 G2 (K + (j + 1) * D) ∧ Tcs (Sq g q) w w3) := by
        refine ⟨by rw [HM.out]; exact h3, by rw [List.length_append]; have := HJ.out; omega, ?_, (HT.out.trans ht2).next t3 (fun k hk => .inr (HR.out.rng k hk).1)⟩
        rw [HM.out, ← Nat.add_assoc]
        exact (hg2.drop (.inl HL.out.sg) (.inl HSq.out)).app HL.out HSq.out (fun k hk => (HR.out.rng k hk).1) t3 f3 (fun k hk => (h3.rng k hk).2)
      have Hr3 : Hid _ := r3
      clear hr2 hl2 hg2 ht2 hR' r3 h3 t3 f3
      go_wp2_with (at_builtin; refine wpList_appG rfl _ _ _ rfl _ _ _ _ rfl rfl Hr3.out ?_)
      go_roundw
      case rel => exact ⟨j + 1, by have := HZn.out; omega, by go_num, R ++ R2, G2, HE.out.1, HE.out.2.1, HE.out.2.2.1, HE.out.2.2.2⟩
      case measure => have := HZn.out; simp [RowKit.intOf]; omega
    · obtain rfl : j = n := by have := HZn.out; omega
      have c2 := HGj.out.box.c2
      have f2 := HGj.out.box.fz 2
      have HF : Hid (SR w.heap.size (wr.setCell ⟨q, 2, none⟩ (.slice avs sl cvs)) u9 R (j * D) ∧ GS g a len cap q (Sv S u9) (wr.setCell ⟨q, 2, none⟩ (.slice avs sl cvs)) { G' with vs := (.slice avs sl cvs), ss := G.ss } (K + j * D) ∧ Tcs (Sq g q) w (wr.setCell ⟨q, 2, none⟩ (.slice avs sl cvs))) := by
        have ht : Tcs (Sq g q) wr (wr.setCell ⟨q, 2, none⟩ (.slice avs sl cvs)) := set_sq wr _
        have hgd := HGj.out
        refine ⟨HR.out.tcs ht (fun k hk => HL.out.s k (HSS.out k hk)), hgd.set (hgd.box.set2 _ _) (hgd.ok.setS (fun W hW => ?_) HSn.out (by have := HSl.out; omega)), HT.out.trans ht⟩
        have := HS.out W ((HT.out.mono HSS.out).next hW fun k hk => by
          rcases hk with hk | hk
          · exact .inl hk
          · exact .inr (HR.out.rng k hk).1)
        rwa [HV'.out] at this
      generalize G'.vs = old at c2
      clear HGj
      go_wp2_with fail
      go_ret
      exact ⟨_, rfl, R, _, HF.out.1, HJ.out, HF.out.2.1, HF.out.2.2⟩
end
end Go.Proofs.YtjhmgjimppflhaaGreatDoor
