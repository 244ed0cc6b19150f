import Derived.Test.YtjhmgjimppflhaaGreatDoorZ23
namespace Go.Proofs.YtjhmgjimppflhaaGreatDoor
set_option linter.unusedVariables false
set_option linter.unusedSimpArgs false
set_option maxRecDepth 100000
set_option maxHeartbeats 16000000
section
open Go.RowKit
def names4 : List ByteArray := [⟨#[102]⟩, ⟨#[107]⟩, ⟨#[100, 101, 101, 112]⟩, ⟨#[120, 49]⟩]
def globs4 : List Gl := [⟨⟨#[103]⟩, 0⟩, ⟨⟨#[97]⟩, 8⟩, ⟨⟨#[104]⟩, 0⟩, ⟨⟨#[98]⟩, 2⟩]
def gcells : List Value := [.string ⟨#[103]⟩, .int .i64 0, .string ⟨#[97]⟩, .int .i64 8, .string ⟨#[104]⟩, .int .i64 0, .string ⟨#[98]⟩, .int .i64 2]
def ncells : List Value := [.string ⟨#[102]⟩, .string ⟨#[107]⟩, .string ⟨#[100, 101, 101, 112]⟩, .string ⟨#[120, 49]⟩]
theorem globs_fr {W : World} {b : Nat} (h : FrC W b gcells) : Globs W (.slice (some ⟨b, 0, none⟩) 4 4) globs4 := by
  refine ⟨_, 4, rfl, by decide, by decide, fun _ => ⟨b, 0, rfl, fun j hj => ?_⟩⟩
  have hj' : j < 4 := hj
  have : j = 0 ∨ j = 1 ∨ j = 2 ∨ j = 3 := by omega
  rcases this with rfl | rfl | rfl | rfl
  · exact ⟨(h 0 _ rfl).1, (h 1 _ rfl).1⟩
  · exact ⟨(h 2 _ rfl).1, (h 3 _ rfl).1⟩
  · exact ⟨(h 4 _ rfl).1, (h 5 _ rfl).1⟩
  · exact ⟨(h 6 _ rfl).1, (h 7 _ rfl).1⟩
theorem names_fr {W : World} {b j : Nat} (h : FrC W b ncells) (hj : j < 4) : ∃ s, W.cell? ⟨b, j, none⟩ = some (.string s) ∧ s.size ≤ 100000 := by
  have : j = 0 ∨ j = 1 ∨ j = 2 ∨ j = 3 := by omega
  rcases this with rfl | rfl | rfl | rfl
  · exact ⟨_, (h 0 _ rfl).1, by decide⟩
  · exact ⟨_, (h 1 _ rfl).1, by decide⟩
  · exact ⟨_, (h 2 _ rfl).1, by decide⟩
  · exact ⟨_, (h 3 _ rfl).1, by decide⟩
/-- The four boxes that l2DrawTree begins with. -/
theorem tree_boxes (w : World) : ∃ W1, W1 = (((w.alloc (.cells #[.slice none 0 0, .slice none 0 0] 26)).alloc (.cells #[.string ⟨#[103]⟩, .int .i64 0, .string ⟨#[97]⟩, .int .i64 8, .string ⟨#[104]⟩, .int .i64 0, .string ⟨#[98]⟩, .int .i64 2] 78)).alloc (.cells #[.slice (some ⟨w.heap.size + 1, 0, none⟩) 4 4, .slice none 0 0] 26)).alloc (.cells #[.string ⟨#[102]⟩, .string ⟨#[107]⟩, .string ⟨#[100, 101, 101, 112]⟩, .string ⟨#[120, 49]⟩] 9) ∧
    FrC W1 w.heap.size [.slice none 0 0, .slice none 0 0] ∧ FrC W1 (w.heap.size + 1) gcells ∧ FrC W1 (w.heap.size + 2) [.slice (some ⟨w.heap.size + 1, 0, none⟩) 4 4, .slice none 0 0] ∧ FrC W1 (w.heap.size + 3) ncells ∧ Below w.heap.size w W1 ∧ W1.heap.size = w.heap.size + 4 := by
  refine ⟨_, rfl, ?_, ?_, ?_, ?_, ?_, by simp⟩
  · exact (((box_fr w _ _ (by decide)).below ((Below.refl _ _).alloc (Nat.le_refl _) _)).below ((Below.refl _ _).alloc (Nat.le_refl _) _)).below ((Below.refl _ _).alloc (Nat.le_refl _) _)
  · have := ((box_fr (w.alloc (.cells #[.slice none 0 0, .slice none 0 0] 26)) #[.string ⟨#[103]⟩, .int .i64 0, .string ⟨#[97]⟩, .int .i64 8, .string ⟨#[104]⟩, .int .i64 0, .string ⟨#[98]⟩, .int .i64 2] 78 (by decide)).below ((Below.refl _ _).alloc (Nat.le_refl _) (.cells #[.slice (some ⟨w.heap.size + 1, 0, none⟩) 4 4, .slice none 0 0] 26))).below ((Below.refl _ _).alloc (Nat.le_refl _) (.cells #[.string ⟨#[102]⟩, .string ⟨#[107]⟩, .string ⟨#[100, 101, 101, 112]⟩, .string ⟨#[120, 49]⟩] 9))
    simp only [World.size_alloc] at this
    exact this
  · have := (box_fr ((w.alloc (.cells #[.slice none 0 0, .slice none 0 0] 26)).alloc (.cells #[.string ⟨#[103]⟩, .int .i64 0, .string ⟨#[97]⟩, .int .i64 8, .string ⟨#[104]⟩, .int .i64 0, .string ⟨#[98]⟩, .int .i64 2] 78)) #[.slice (some ⟨w.heap.size + 1, 0, none⟩) 4 4, .slice none 0 0] 26 (by simp)).below ((Below.refl _ _).alloc (Nat.le_refl _) (.cells #[.string ⟨#[102]⟩, .string ⟨#[107]⟩, .string ⟨#[100, 101, 101, 112]⟩, .string ⟨#[120, 49]⟩] 9))
    simp only [World.size_alloc] at this
    exact this
  · have := box_fr (((w.alloc (.cells #[.slice none 0 0, .slice none 0 0] 26)).alloc (.cells #[.string ⟨#[103]⟩, .int .i64 0, .string ⟨#[97]⟩, .int .i64 8, .string ⟨#[104]⟩, .int .i64 0, .string ⟨#[98]⟩, .int .i64 2] 78)).alloc (.cells #[.slice (some ⟨w.heap.size + 1, 0, none⟩) 4 4, .slice none 0 0] 26)) #[.string ⟨#[102]⟩, .string ⟨#[107]⟩, .string ⟨#[100, 101, 101, 112]⟩, .string ⟨#[120, 49]⟩] 9 (by decide)
    simp only [World.size_alloc] at this
    exact this
  · exact ((((Below.refl _ _).alloc (Nat.le_refl _) _).alloc (by simp) _).alloc (by simp; omega) _).alloc (by simp; omega) _
/-- The blocks that turn while the functions are drawn. -/
def Sx (g T q : Nat) : Nat → Prop := fun k => k = g ∨ k = T ∨ k = q
/-- What holds behind j functions. -/
structure LI (g : Nat) (a : Option Addr) (len cap T q GL M : Nat) (W2 wr : World) (j : Nat) : Prop where
  cur : Cur g a len cap wr
  tcs : Tcs (Sx g T q) W2 wr
  ex : ∃ fa fn fc Q, FrC wr T [.slice (some ⟨GL, 0, none⟩) 4 4, .slice fa fn fc] ∧ FR (fun k => k < M) M wr (.slice fa fn fc) Q ∧ Q.length = j ∧ ∃ ca cn cc pa pn pc, ∃ (cs : List ByteArray) (ps : List Int), FrC wr q [.slice ca cn cc, .slice pa pn pc, .slice none 0 0, .slice none 0 0, .int .i64 0] ∧ (∀ W, Tcs (Sv (Sx g T q) (.slice fa fn fc)) wr W → Strs W (.slice ca cn cc) cs ∧ Ints W (.slice pa pn pc) ps) ∧ cs.length = j ∧ ps.length = j ∧ (∀ x ∈ ps, 0 ≤ x ∧ x ≤ 6) ∧ ∀ x ∈ cs, x.size ≤ 100000
/-- What holds behind k parameters. -/
structure PI (g : Nat) (a : Option Addr) (len cap F : Nat) (nm : ByteArray) (W3 wx : World) (k : Nat) : Prop where
  cur : Cur g a len cap wx
  tcs : Tcs (fun b => b = g ∨ b = F) W3 wx
  ex : ∃ pa pn pc, ∃ ps : List ByteArray, FrC wx F [.string nm, .slice pa pn pc, .slice none 0 0] ∧ wx.ownsRow W3.heap.size 9 1 (.slice pa pn pc) ps.length (ps.map Value.string) ∧ ps.length = k ∧ ∀ x ∈ ps, x.size ≤ 100000
theorem cat_size (s t : ByteArray) : (s ++ t).size = s.size + t.size := ByteArray.size_append
/-- One parameter more. -/
theorem param_step {g : Nat} {a : Option Addr} {len cap F : Nat} {nm : ByteArray} {W3 wr : World} {k : Nat} (h : PI g a len cap F nm W3 wr k) (hF : g < F ∧ F < W3.heap.size) (hL : Lo g a len (S0 g) F) (hk : k ≤ 10) (A : ByteArray) (hA : A.size ≤ 1000) (pa : Option Addr) (pn pc : Nat) (hy : wr.cell? ⟨F, 1, none⟩ = some (.slice pa pn pc)) (P2 : Obj) :
    ∀ w6 s w7, s.size ≤ 1 → Dr g a len cap (S0 g) (wr.drew.alloc P2) w6 → Below w6.heap.size w6 w7 → ∃ va vn vc w8, (Builtin.append_ #[58, 58] 58 #[.slice pa pn pc, .slice (some ⟨w7.heap.size, 0, none⟩) 1 1]).run Tryz.prog (w7.alloc (.cells #[.string (s ++ A)] 9)) = .ok (.slice va vn vc) w8 ∧ (w6.cell? ⟨F, 1, none⟩ = some (.slice pa pn pc) ∧ w7.cell? ⟨F, 1, none⟩ = some (.slice pa pn pc) ∧ (w7.alloc (.cells #[.string (s ++ A)] 9)).cell? ⟨F, 1, none⟩ = some (.slice pa pn pc)) ∧ w8.cell? ⟨F, 1, none⟩ = some (.slice pa pn pc) ∧ w8.frozen? ⟨F, 1, none⟩ = false ∧ PI g a len cap F nm W3 (w8.setCell ⟨F, 1, none⟩ (.slice va vn vc)) (k + 1) := by
  intro w6 s w7 hs hd hb
  obtain ⟨hcu, ht, pa', pn', pc', ps, hf, ho, hpk, hps⟩ := h
  have e := (hf 1 _ rfl).1
  rw [hy] at e
  simp only [Option.some.injEq] at e
  rw [← e] at hf ho
  have hlF : F < wr.heap.size := Nat.lt_of_lt_of_le hF.2 ht.size
  have nF : ¬ S0 g F := fun e => by have : F = g := e; omega
  have t6 : Tcs (S0 g) wr w6 := (((Tcs.refl (S0 g) wr).drew).alloc P2).trans hd.tcs
  have t7 : Tcs (S0 g) wr w7 := t6.of_below hb
  have t7a : Tcs (S0 g) wr (w7.alloc (.cells #[.string (s ++ A)] 9)) := t7.alloc _
  have f6 := hf.tcs hlF t6 nF
  have f7 := hf.tcs hlF t7 nF
  have f7a := hf.tcs hlF t7a nF
  have hS3 : ∀ k, S0 g k → k < W3.heap.size := fun k hk => by have : k = g := hk; omega
  have o7 := own_tcs ho t7a hS3
  obtain ⟨i0, hi, hz0, hz1, hz2⟩ := info_parts info_str
  have hlit : (w7.alloc (.cells #[.string (s ++ A)] 9)).ownsRow w7.heap.size 9 1 (.slice (some ⟨w7.heap.size, 0, none⟩) 1 1) 1 [.string (s ++ A)] := World.ownsRow_lit w7 #[.string (s ++ A)] 1 (Nat.le_refl _) (by decide) rfl
  obtain ⟨v8, w8, r8, o8, g8, -⟩ := run_appG (P := Tryz.prog) (w := w7.alloc (.cells #[.string (s ++ A)] 9)) W3.heap.size 58 58 9 i0 _ 1 16 Tryz.underlying58 hi hz0 hz1 hz2 rfl (by decide) (.slice pa pn pc) _ _ o7 (some ⟨w7.heap.size, 0, none⟩) 1 1 [.string (s ++ A)] (fun e => by cases e) rfl (fun ad had j u hu => by cases had; exact World.ownsRow.cells hlit (g := w7.heap.size) rfl j u hu) (fun u hu => by simp at hu; subst hu; rfl) (by omega) (by decide) (Nat.le_trans ht.size t7a.size)
  obtain ⟨va, vc, rfl, -⟩ := own_shape o8
  have t8 : Tcs (fun k => W3.heap.size ≤ k) (w7.alloc (.cells #[.string (s ++ A)] 9)) w8 := Tcs.of_grown g8 (fun k hk => (World.ownsRow.lt o7 k hk).1)
  have hl7 : F < (w7.alloc (.cells #[.string (s ++ A)] 9)).heap.size := Nat.lt_of_lt_of_le hlF t7a.size
  have f8 := f7a.tcs hl7 t8 (by omega)
  refine ⟨va, _, vc, w8, r8, ⟨(f6 1 _ rfl).1, (f7 1 _ rfl).1, (f7a 1 _ rfl).1⟩, (f8 1 _ rfl).1, (f8 1 _ rfl).2, ?_, ?_, va, ps.length + 1, vc, ps ++ [s ++ A], ?_, ?_, by simp [hpk], fun x hx => ?_⟩
  · have c8 : Cur g a len cap w8 := ((hd.cur.below hb).alloc _).new (hL.mono (Nat.le_of_lt hF.2)) t8 (fun k hk => hk)
    exact c8.keep ((Tcs.refl (fun k => k = F) w8).setCell (p := ⟨F, 1, none⟩) rfl _) (by omega) (fun b off x y e => by have := (hL.by8 b off x y).1; omega)
  · refine ((ht.trans (t7a.mono fun k hk => .inl hk)).next t8 (fun k hk => .inr hk)).setCell (p := ⟨F, 1, none⟩) (.inr rfl) _
  · exact f8.set 1 _
  · have e1 : (ps ++ [s ++ A]).length = ps.length + 1 := by simp
    have e2 : (ps ++ [s ++ A]).map Value.string = ps.map Value.string ++ [.string (s ++ A)] := by simp
    rw [e1, e2]
    refine own_tcs o8 ((Tcs.refl (fun k => k = F) w8).setCell (p := ⟨F, 1, none⟩) rfl _) (fun k hk => by omega)
  · rcases List.mem_append.1 hx with hx | hx
    · exact hps x hx
    · simp only [List.mem_singleton] at hx
      subst hx
      rw [cat_size]
      omega
/-- The blocks that may turn while a function's body is drawn. -/
def S5 (g T q F I : Nat) (v : Value) : Nat → Prop := fun k => k = g ∨ k = T ∨ k = q ∨ k = F ∨ k = I ∨ v.ownBlock = some k
theorem gs_make {g : Nat} {a : Option Addr} {len cap T q F I : Nat} {wr W3 wx : World} {vF : Value} {ca pa px : Option Addr} {cn cc pn pc pm py : Nat} {cs qs : List ByteArray} {ps : List Int}
    (hst : ∀ W, Tcs (Sv (Sx g T q) vF) wr W → Strs W (.slice ca cn cc) cs ∧ Ints W (.slice pa pn pc) ps) (hl : ps.length = cs.length ∧ cs.length ≤ 4) (hpb : (∀ x ∈ ps, 0 ≤ x ∧ x ≤ 6) ∧ ∀ x ∈ cs, x.size ≤ 100000)
    (hb : Below wr.heap.size wr W3) (hF : F = wr.heap.size) (hI : I = wr.heap.size + 1) (hs : W3.heap.size = wr.heap.size + 2) (hfI : FrC W3 I [.slice ca cn cc, .slice pa pn pc, .slice none 0 0, .slice none 0 0, .int .i64 0]) (hfz : ∀ j, W3.frozen? ⟨I, j, none⟩ = false)
    (hcu : Cur g a len cap wx) (ht : Tcs (fun b => b = g ∨ b = F) W3 wx) (ho : wx.ownsRow W3.heap.size 9 1 (.slice px pm py) qs.length (qs.map Value.string)) (hq6 : qs.length ≤ 6) (hqs : ∀ x ∈ qs, x.size ≤ 100000)
    (hne : g < T ∧ T < wr.heap.size ∧ g < q ∧ q < wr.heap.size) (hL : Lo g a len (S0 g) T) (hTq : T < q) (hv : ∀ k, vF.ownBlock = some k → q < k ∧ k < wr.heap.size) :
    GS g a len cap I (S5 g T q F I vF) (wx.setCell ⟨I, 2, none⟩ (.slice px pm py)) ⟨.slice ca cn cc, .slice pa pn pc, .slice px pm py, .slice none 0 0, 0, cs, ps, qs, []⟩ 10 ∧ FrC wx I [.slice ca cn cc, .slice pa pn pc, .slice none 0 0, .slice none 0 0, .int .i64 0] := by
  have hIx : FrC wx I [.slice ca cn cc, .slice pa pn pc, .slice none 0 0, .slice none 0 0, .int .i64 0] := hfI.tcs (by omega) ht (fun e => by rcases e with e | e <;> omega)
  have hsx := ht.size
  have h5 : ∀ k, S5 g T q F I vF k → k < W3.heap.size := fun k hk => by
    rcases hk with h | h | h | h | h | h
    · omega
    · omega
    · omega
    · omega
    · omega
    · have := (hv k h).2; omega
  refine ⟨?_, hIx⟩
  have hset : Tcs (S5 g T q F I vF) wx (wx.setCell ⟨I, 2, none⟩ (.slice px pm py)) := (Tcs.refl _ _).setCell (p := ⟨I, 2, none⟩) (.inr (.inr (.inr (.inr (.inl rfl))))) _
  have hf2 := hIx.set 2 (.slice px pm py)
  refine ⟨?_, ⟨(hf2 0 _ rfl).1, (hf2 1 _ rfl).1, (hf2 2 _ rfl).1, (hf2 3 _ rfl).1, (hf2 4 _ rfl).1, fun j => ?_⟩, GnOk.tcs (w := wx) ?_ hset, ⟨?_, .inl rfl, fun b off x y => ?_, fun k hk => ?_⟩, .inr (.inr (.inr (.inr (.inl rfl)))), by omega⟩
  · exact hcu.keep ((Tcs.refl (fun k => k = I) wx).setCell (p := ⟨I, 2, none⟩) rfl _) (by omega) (fun b off x y e => by have := (hL.by8 b off x y).1; omega)
  · rw [World.frozen?_setCell]
    exact (World.frozen?_of_block (a := ⟨I, j, none⟩) (ht.block I (by omega) (fun e => by rcases e with e | e <;> omega))).trans (hfz j)
  · have key : ∀ W, Tcs (S5 g T q F I vF) wx W → Tcs (Sv (Sx g T q) vF) wr W := fun W hW => by
      have h1 : Tcs (Sv (Sx g T q) vF) wr wx := (hb.tcs (S := Sv (Sx g T q) vF)).next ht (fun k hk => by
        rcases hk with hk | hk
        · exact .inl (.inl (.inl hk))
        · exact .inr (by omega))
      refine h1.next hW fun k hk => ?_
      rcases hk with h | h | h | h | h | h
      · exact .inl (.inl (.inl h))
      · exact .inl (.inl (.inr (.inl h)))
      · exact .inl (.inl (.inr (.inr h)))
      · exact .inr (by omega)
      · exact .inr (by omega)
      · exact .inl (.inr h)
    exact ⟨fun W hW => (hst W (key W hW)).1, fun W hW => (hst W (key W hW)).2, fun W hW => own_strs (own_tcs ho hW h5), fun W _ => ⟨none, 0, rfl, Nat.le_refl _, by omega, fun h => absurd h (Nat.lt_irrefl _)⟩, hl.1, by show cs.length ≤ 10; omega, hpb.1, ⟨hpb.2, hqs, fun x hx => by cases hx⟩, by show qs.length ≤ 10; omega, Nat.zero_le _, by show (0 : Int) ≤ 0 ∧ (0 : Int) ≤ 10; omega⟩
  · have : (wx.setCell ⟨I, 2, none⟩ (.slice px pm py)).heap.size = wx.heap.size := by simp
    omega
  · have h8 := hL.by8 b off x y
    have : (wx.setCell ⟨I, 2, none⟩ (.slice px pm py)).heap.size = wx.heap.size := by simp
    refine ⟨by omega, fun e => ?_⟩
    rcases e with h | h | h | h | h | h
    · exact h8.2 h
    · omega
    · omega
    · omega
    · omega
    · have := (hv b h).1; omega
  · have : (wx.setCell ⟨I, 2, none⟩ (.slice px pm py)).heap.size = wx.heap.size := by simp
    have := h5 k hk
    omega
/-- A block of S that is neither the cursor's nor the generator's turns. -/
theorem GS.side {g : Nat} {a : Option Addr} {len cap q : Nat} {S : Nat → Prop} {w : World} {G : Gn} {K : Nat} (h : GS g a len cap q S w G K) {b o : Nat} {v : Value} (hb : S b) (hg : b ≠ g) (hq : b ≠ q) : GS g a len cap q S (w.setCell ⟨b, o, none⟩ v) G K := by
  have ht : Tcs (fun k => k = b) w (w.setCell ⟨b, o, none⟩ v) := (Tcs.refl (fun k => k = b) w).setCell (p := ⟨b, o, none⟩) rfl v
  exact ⟨h.cur.keep ht (fun e => hg e.symm) (fun b' off x y e => (h.lo.by8 b' off x y).2 (e ▸ hb)), h.box.keep (ht.block q h.box.lt (fun e => hq e.symm)), h.ok.tcs (ht.mono fun k hk => hk ▸ hb), h.lo.mono ht.size, h.sq, h.ne⟩
/-- One statement more at the end of a body. -/
theorem body_step {g : Nat} {a : Option Addr} {len cap F B L : Nat} {nm : ByteArray} {par : Value} {ba : Option Addr} {bn bc : Nat} {W13 : World} {Rb : List SV} (hf : FrC W13 F [.string nm, par, .slice ba bn bc]) (hr : SR B W13 (.slice ba bn bc) Rb L) (hB : F < B ∧ B ≤ W13.heap.size) (hg : g < F) (hL : Lo g a len (S0 g) F) (hLm : L ≤ 1000) :
    ∀ w14 ua un uc ns, NRow W13.heap.size w14 (.slice ua un uc) ns → okN ns 400 → Dr g a len cap (S0 g) W13.drew w14 → ∃ va vn vc w15, (Builtin.append_ #[59, 59] 59 #[.slice ba bn bc, .slice (some ⟨w14.heap.size, 0, none⟩) 1 1]).run Tryz.prog (w14.alloc (.cells #[.int .i64 6, .string ⟨#[]⟩, .slice ua un uc, .slice none 0 0, .int .i64 0, .int .i64 0] 88)) = .ok (.slice va vn vc) w15 ∧ (w14.cell? ⟨F, 2, none⟩ = some (.slice ba bn bc) ∧ (w14.alloc (.cells #[.int .i64 6, .string ⟨#[]⟩, .slice ua un uc, .slice none 0 0, .int .i64 0, .int .i64 0] 88)).cell? ⟨F, 2, none⟩ = some (.slice ba bn bc)) ∧ w15.cell? ⟨F, 2, none⟩ = some (.slice ba bn bc) ∧ w15.frozen? ⟨F, 2, none⟩ = false ∧ (∃ R', SR B (w15.setCell ⟨F, 2, none⟩ (.slice va vn vc)) (.slice va vn vc) R' (L + 1) ∧ R'.length = Rb.length + 1) ∧ FrC (w15.setCell ⟨F, 2, none⟩ (.slice va vn vc)) F [.string nm, par, .slice va vn vc] ∧ Cur g a len cap (w15.setCell ⟨F, 2, none⟩ (.slice va vn vc)) ∧ Tcs (fun b => b = g ∨ b = F ∨ B ≤ b) W13 (w15.setCell ⟨F, 2, none⟩ (.slice va vn vc)) := by
  intro w14 ua un uc ns hn ho hd
  have nF : ¬ S0 g F := fun e => by have : F = g := e; omega
  have hlF : F < W13.heap.size := by omega
  have hSB : ∀ k, S0 g k → k < B := fun k hk => by have : k = g := hk; omega
  have t14 : Tcs (S0 g) W13 w14 := ((Tcs.refl (S0 g) W13).drew).trans hd.tcs
  have f14 := hf.tcs hlF t14 nF
  obtain ⟨o, hoo⟩ : ∃ o : Obj, o = .cells #[.int .i64 6, .string ⟨#[]⟩, .slice ua un uc, .slice none 0 0, .int .i64 0, .int .i64 0] 88 := ⟨_, rfl⟩
  have f14a := f14.below ((Below.refl w14.heap.size w14).alloc (Nat.le_refl _) o)
  have hr14 := (hr.tcs t14 hSB).below ((Below.refl w14.heap.size w14).alloc (Nat.le_refl _) o)
  have hlit := sr_lit (w := w14) (B := W13.heap.size) (kd := 6) (th := 0) (el := 0) (nm := ⟨#[]⟩) (vf := .slice none 0 0) (f := []) t14.size (nrow_st hn (Nat.le_refl _)) (fun W _ => nodes_none W) (ho.e3 (by omega)) (okN.nil.more (Nat.zero_le _)) (by decide)
  rw [← hoo] at hlit ⊢
  have hs14 : B ≤ (w14.alloc o).heap.size := by have := t14.size; simp; omega
  obtain ⟨v15, w15, r15, h15, t15, -⟩ := sr_app 59 hr14 hlit hs14 (by omega) (sr_behind hlit hB.2 (fun k hk => (hr.rng k hk).2))
  obtain ⟨va, vn, vc, rfl⟩ : ∃ x y z, v15 = .slice x y z := by obtain ⟨x, y, e⟩ := h15.shape; exact ⟨x, _, y, e⟩
  have t15' : Tcs (fun k => B ≤ k) (w14.alloc o) w15 := t15.mono fun k hk => (hr.rng k hk).1
  have hlF2 : F < (w14.alloc o).heap.size := by omega
  have f15 := f14a.tcs hlF2 t15' (by omega)
  have tS : Tcs (fun k => k = F) w15 (w15.setCell ⟨F, 2, none⟩ (.slice va vn vc)) := (Tcs.refl (fun k => k = F) w15).setCell (p := ⟨F, 2, none⟩) rfl _
  refine ⟨va, vn, vc, w15, r15, ⟨(f14 2 _ rfl).1, (f14a 2 _ rfl).1⟩, (f15 2 _ rfl).1, (f15 2 _ rfl).2, ⟨_, h15.tcs tS (fun k hk => by omega), by simp⟩, f15.set 2 _, ?_, ?_⟩
  · have c15 : Cur g a len cap w15 := (hd.cur.alloc o).new (hL.mono (by omega)) t15' (fun k hk => hk)
    exact c15.keep tS (by omega) (fun b off x y e => by have := (hL.by8 b off x y).1; omega)
  · exact ((((t14.mono fun k hk => .inl hk).alloc o).trans (t15'.mono fun k hk => .inr (.inr hk)))).trans (tS.mono fun k hk => .inr (.inl hk))
/-- One function more. -/
theorem func_step {g : Nat} {a : Option Addr} {len cap T F B Bp M : Nat} {nm : ByteArray} {vG : Value} {fa px ba : Option Addr} {fn fc pm py bn bc : Nat} {W16 : World} {Q : List FV} {qs : List ByteArray} {R' : List SV} {L : Nat}
    (hT : FrC W16 T [vG, .slice fa fn fc]) (hF : FrC W16 F [.string nm, .slice px pm py, .slice ba bn bc]) (hfr : FR (fun k => k < M) M W16 (.slice fa fn fc) Q) (hQ : Q.length ≤ 10) (hcu : Cur g a len cap W16) (hne : g < T ∧ T < M ∧ M ≤ W16.heap.size ∧ M ≤ F ∧ F < W16.heap.size) (hL : Lo g a len (S0 g) T)
    (hp : ∀ W, Tcs (fun b => b < Bp) W16 W → Strs W (.slice px pm py) qs) (hBp : M ≤ Bp) (hq : qs.length ≤ 6 ∧ ∀ x ∈ qs, x.size ≤ 100000) (hn : nm.size ≤ 100000) (hr : SR B W16 (.slice ba bn bc) R' L) (hL2 : 1 ≤ R'.length ∧ L ≤ 1000) (hMB : M ≤ B) (hvF : ∀ k, (Value.slice fa fn fc).ownBlock = some k → k < B ∧ k < Bp ∧ k ≠ F) :
    ∃ va vn vc w17, (Builtin.append_ #[24, 24] 24 #[.slice fa fn fc, .slice (some ⟨W16.heap.size, 0, none⟩) 1 1]).run Tryz.prog (W16.alloc (.cells #[.string nm, .slice px pm py, .slice ba bn bc] 61)) = .ok (.slice va vn vc) w17 ∧ (w17.cell? ⟨T, 1, none⟩ = some (.slice fa fn fc) ∧ w17.frozen? ⟨T, 1, none⟩ = false) ∧ FrC (w17.setCell ⟨T, 1, none⟩ (.slice va vn vc)) T [vG, .slice va vn vc] ∧ FrC (w17.setCell ⟨T, 1, none⟩ (.slice va vn vc)) F [.string nm, .slice px pm py, .slice ba bn bc] ∧ (∃ Q', FR (fun k => k < M) M (w17.setCell ⟨T, 1, none⟩ (.slice va vn vc)) (.slice va vn vc) Q' ∧ Q'.length = Q.length + 1) ∧ Cur g a len cap (w17.setCell ⟨T, 1, none⟩ (.slice va vn vc)) ∧ (∀ W, Tcs (fun b => b = T ∨ (Value.slice va vn vc).ownBlock = some b) (w17.setCell ⟨T, 1, none⟩ (.slice va vn vc)) W → Tcs (fun b => b = T ∨ (Value.slice fa fn fc).ownBlock = some b) W16 W) ∧ Tcs (fun b => b = T ∨ (Value.slice fa fn fc).ownBlock = some b) W16 (w17.setCell ⟨T, 1, none⟩ (.slice va vn vc)) := by
  obtain ⟨o, hoo⟩ : ∃ o : Obj, o = .cells #[.string nm, .slice px pm py, .slice ba bn bc] 61 := ⟨_, rfl⟩
  have hb : Below W16.heap.size W16 (W16.alloc o) := (Below.refl _ _).alloc (Nat.le_refl _) _
  have hc : FrC (W16.alloc o) W16.heap.size [.string nm, .slice px pm py, .slice ba bn bc] := by rw [hoo]; exact box_fr W16 _ _ (by simp)
  have hall : ∀ W, Tcs (fun k => k < M ∨ (Value.slice fa fn fc).ownBlock = some k) (W16.alloc o) W → PtF [⟨⟨nm, qs, R'.map (·.s)⟩, .slice px pm py, .slice ba bn bc, R', [], []⟩] W := fun W hW x hx => by
    simp only [List.mem_singleton] at hx
    subst hx
    have hW' : Tcs (fun b => b < B) W16 W := (hb.tcs (S := fun b => b < B)).trans (hW.mono fun k hk => by
      rcases hk with hk | hk
      · omega
      · have := hvF k hk; omega)
    have hW2 : Tcs (fun b => b < Bp) W16 W := (hb.tcs (S := fun b => b < Bp)).trans (hW.mono fun k hk => by
      rcases hk with hk | hk
      · omega
      · have := hvF k hk; omega)
    exact ⟨hp W hW2, hr.rd W hW', rfl⟩
  have hok : okFn ⟨nm, qs, R'.map (·.s)⟩ := ⟨hn, by show qs.length ≤ 20; omega, hq.2, by show 1 ≤ (R'.map (·.s)).length; simp; omega, by show (R'.map (·.s)).length ≤ 10000; have := hr.len; simp; omega, hr.ok.body⟩
  obtain ⟨v17, w17, r17, h17, t17, f17⟩ := fr_app 24 (c := 1) (m := 1) (hfr.below hb) (some ⟨W16.heap.size, 0, none⟩) (Q2 := [⟨⟨nm, qs, R'.map (·.s)⟩, .slice px pm py, .slice ba bn bc, R', [], []⟩]) rfl (fun e => by cases e) (fun ad had j u hu => by
    cases had
    rw [addrO, Nat.zero_add]
    exact (hc j u hu).1) (fun x hx => by simp only [List.mem_singleton] at hx; subst hx; exact ⟨rfl, rfl⟩) (fun x hx => by simp only [List.mem_singleton] at hx; subst hx; exact hok) hall (by simp; omega) (by have := hb.size; omega)
  obtain ⟨va, vn, vc, rfl⟩ : ∃ x y z, v17 = .slice x y z := by obtain ⟨x, y, e⟩ := h17.shape; exact ⟨x, _, y, e⟩
  rw [hoo] at r17
  have t17' : Tcs (fun k => M ≤ k) (W16.alloc o) w17 := t17.mono fun k hk => (hfr.rng k hk).1
  have hT17 := (hT.below hb).tcs (by have := hb.size; omega) t17' (by omega)
  have hF17 := (hF.below hb).tcs (by have := hb.size; omega) t17 (fun e => (hvF F e).2.2 rfl)
  have tS : Tcs (fun k => k = T) w17 (w17.setCell ⟨T, 1, none⟩ (.slice va vn vc)) := (Tcs.refl (fun k => k = T) w17).setCell (p := ⟨T, 1, none⟩) rfl _
  have hs17 : F < w17.heap.size := by have := hb.size; have := t17.size; omega
  have tA : Tcs (fun b => b = T ∨ (Value.slice fa fn fc).ownBlock = some b) W16 (w17.setCell ⟨T, 1, none⟩ (.slice va vn vc)) := ((hb.tcs (S := fun b => b = T ∨ (Value.slice fa fn fc).ownBlock = some b)).trans (t17.mono fun k hk => .inr hk)).trans (tS.mono fun k hk => .inl hk)
  refine ⟨va, vn, vc, w17, r17, ⟨(hT17 1 _ rfl).1, (hT17 1 _ rfl).2⟩, hT17.set 1 _, hF17.tcs hs17 tS (by omega), ⟨_, h17.tcs (tS.mono fun k hk => by omega) (fun k hk => hk), by simp⟩, ?_, fun W hW => ?_, tA⟩
  · have c17 : Cur g a len cap w17 := (hcu.alloc o).new (hL.mono (Nat.le_of_lt hne.2.1)) t17' (fun k hk => hk)
    exact c17.keep tS (by omega) (fun b off x y e => by have := (hL.by8 b off x y).1; omega)
  · refine tA.next hW fun k hk => ?_
    rcases hk with hk | hk
    · exact .inl (.inl hk)
    · rcases f17 k hk with h | h
      · exact .inl (.inr h)
      · exact .inr (by have := hb.size; omega)
/-- The body is whole. -/
def BdD (g : Nat) (a : Option Addr) (len cap F B L r : Nat) (nm : ByteArray) (par : Value) (W13 W : World) : Prop := ∃ va vn vc R', FrC W F [.string nm, par, .slice va vn vc] ∧ SR B W (.slice va vn vc) R' (L + 1) ∧ R'.length = r + 1 ∧ Cur g a len cap W ∧ Tcs (fun b => b = g ∨ b = F ∨ B ≤ b) W13 W
/-- The names of the functions have one more. -/
def CalD (q : Nat) (W17 : World) (vp : Value) (cs : List ByteArray) (W : World) : Prop := ∃ xa xn xc, FrC W q [.slice xa xn xc, vp, .slice none 0 0, .slice none 0 0, .int .i64 0] ∧ W.ownsRow W17.heap.size 9 1 (.slice xa xn xc) cs.length (cs.map Value.string) ∧ Tcs (fun b => b = q) W17 W
theorem cal_fin {q : Nat} {W17 w2 : World} {vc vp : Value} {v2 : Value} {cs : List ByteArray} (hq : FrC W17 q [vc, vp, .slice none 0 0, .slice none 0 0, .int .i64 0]) (hl : q < W17.heap.size) (hb : Below W17.heap.size W17 w2) (hr : w2.ownsRow W17.heap.size 9 1 v2 cs.length (cs.map Value.string)) : ∃ xa xn xc, v2 = .slice xa xn xc ∧ (w2.cell? ⟨q, 0, none⟩ = some vc ∧ w2.frozen? ⟨q, 0, none⟩ = false) ∧ CalD q W17 vp cs (w2.setCell ⟨q, 0, none⟩ v2) := by
  obtain ⟨xa, xc, rfl, -⟩ := own_shape hr
  have h2 := hq.below hb
  have tS : Tcs (fun b => b = q) w2 (w2.setCell ⟨q, 0, none⟩ (.slice xa cs.length xc)) := (Tcs.refl (fun b => b = q) w2).setCell (p := ⟨q, 0, none⟩) rfl _
  exact ⟨xa, _, xc, rfl, h2 0 _ rfl, xa, _, xc, h2.set 0 _, own_tcs hr tS (fun k hk => by omega), (hb.tcs (S := fun b => b = q)).trans tS⟩
theorem info_i64 : (Tryz.prog.info? 2).map (fun i => (i.zero, i.size, i.bytes)) = some (some (.int .i64 0), 1, 8) := by kernel_rfl
/-- append(append([]int64{}, v...), z). -/
theorem ia_app (w : World) (v : Value) (ps : List Int) (z : Int) (h : Ints w v ps) (hl : ps.length ≤ 100000) (ty : TypeId) :
    ∃ v1 w1 a2 n2 c2 w2, (Builtin.append_ #[31, 31] ty #[.slice (some ⟨w.heap.size, 0, none⟩) 0 0, v]).run Tryz.prog (w.alloc (.cells #[] 2)) = .ok v1 w1 ∧ (Builtin.append_ #[31, 31] ty #[v1, .slice (some ⟨w1.heap.size, 0, none⟩) 1 1]).run Tryz.prog (w1.alloc (.cells #[.int .i64 z] 2)) = .ok (.slice a2 n2 c2) w2 ∧ w2.ownsRow w.heap.size 2 1 (.slice a2 n2 c2) (ps ++ [z]).length ((ps ++ [z]).map (Value.int .i64)) ∧ Below w.heap.size w w2 := by
  obtain ⟨i0, hi, hz0, hz1, hz2⟩ := info_parts info_i64
  have hb0 : Below w.heap.size w (w.alloc (.cells #[] 2)) := (Below.refl _ _).alloc (Nat.le_refl _) _
  have h0 : (w.alloc (.cells #[] 2)).ownsRow w.heap.size 2 1 (.slice (some ⟨w.heap.size, 0, none⟩) 0 0) 0 [] := World.ownsRow_lit w #[] 0 (Nat.le_refl _) (by decide) rfl
  obtain ⟨a, c, rfl, hc⟩ := h.below hb0
  obtain ⟨v1, w1, r1, o1, g1, -⟩ := run_appG (P := Tryz.prog) (w := w.alloc (.cells #[] 2)) w.heap.size 31 ty 2 i0 _ 1 8 Tryz.underlying31 hi hz0 hz1 hz2 rfl (by decide) _ 0 [] h0 a ps.length c (ps.map (Value.int .i64)) (fun e => by
    rcases Nat.eq_zero_or_pos ps.length with h' | h'
    · exact h'
    · obtain ⟨b, e', -⟩ := hc h'
      rw [e] at e'; cases e') (by simp) (fun ad had j u hu => by
    have hj : j < ps.length := by have := (List.getElem?_eq_some_iff.1 hu).1; simpa using this
    obtain ⟨b, e', hcc⟩ := hc (by omega)
    rw [had] at e'
    cases e'
    rw [addrO, Nat.zero_add]
    have := hcc j hj
    rw [this]
    simp [List.getElem?_eq_getElem hj] at hu
    rw [hu]) (fun u hu => by obtain ⟨x, -, rfl⟩ := List.mem_map.1 hu; rfl) (by omega) (by decide) hb0.size
  have hb1 : Below w.heap.size w w1 := hb0.grown g1 hb0.size (fun j hj => (World.ownsRow.lt h0 j hj).1)
  have hb2 : Below w.heap.size w (w1.alloc (.cells #[.int .i64 z] 2)) := hb1.alloc hb1.size _
  have o1' := ownB o1 ((Below.refl w1.heap.size w1).alloc (Nat.le_refl _) (.cells #[.int .i64 z] 2))
  have hlit : (w1.alloc (.cells #[.int .i64 z] 2)).ownsRow w1.heap.size 2 1 (.slice (some ⟨w1.heap.size, 0, none⟩) 1 1) 1 [.int .i64 z] := World.ownsRow_lit w1 #[.int .i64 z] 1 (Nat.le_refl _) (by decide) rfl
  obtain ⟨v2, w2, r2, o2, g2, -⟩ := run_appG (P := Tryz.prog) (w := w1.alloc (.cells #[.int .i64 z] 2)) w.heap.size 31 ty 2 i0 _ 1 8 Tryz.underlying31 hi hz0 hz1 hz2 rfl (by decide) v1 _ _ o1' (some ⟨w1.heap.size, 0, none⟩) 1 1 [.int .i64 z] (fun e => by cases e) rfl (fun ad had j u hu => by cases had; exact World.ownsRow.cells hlit (g := w1.heap.size) rfl j u hu) (fun u hu => by simp at hu; subst hu; rfl) (by omega) (by decide) hb2.size
  obtain ⟨a2, c2, rfl, -⟩ := own_shape o2
  refine ⟨v1, w1, a2, _, c2, w2, r1, r2, ?_, hb2.grown g2 hb2.size (fun j hj => (World.ownsRow.lt o1' j hj).1)⟩
  have e1 : (ps ++ [z]).length = 0 + ps.length + 1 := by simp
  have e2 : (ps ++ [z]).map (Value.int .i64) = [] ++ ps.map (Value.int .i64) ++ [.int .i64 z] := by simp
  rw [e1, e2]
  exact o2
end
end Go.Proofs.YtjhmgjimppflhaaGreatDoor
