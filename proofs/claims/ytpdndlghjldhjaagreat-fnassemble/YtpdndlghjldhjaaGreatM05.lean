import Derived.Test.YtpdndlghjldhjaaGreatM04
import Derived.Deep.RegionHeld3
namespace Go.Proofs.YtpdndlghjldhjaaGreat
set_option linter.unusedVariables false
set_option linter.unusedSimpArgs false
set_option maxRecDepth 100000
set_option maxHeartbeats 16000000
section
open Go.RowKit
theorem fb0_any (a b : Int) (w : World) (h0 : 0 ≤ a ∧ a ≤ 127) (h2 : 0 ≤ b ∧ b ≤ 7) :
  Calls Tryz.prog 136 #[.int .u32 a, .int .u32 b, .int .u32 0] w fun e w' => e = .returned (.int .u32 (a + b * 4096)) ∧ w' = w :=
 (fb_any a b 0 w h0 h2 (by omega)).mono fun e w' ⟨he, hw⟩ => ⟨he.trans (retN_int (by omega)), hw⟩
theorem putRd_any (op rd s1 s2 im : Int) (w : World) : Calls Tryz.prog 129 #[.agg #[.int .i64 op, .int .i64 rd, .int .i64 s1, .int .i64 s2, .int .i64 im]] w fun e w' => e = .returned (.int .u32 (mvi (rd % 4294967296) 0 5 7)) ∧ w' = w.alloc (.cells #[.int .i64 op, .int .i64 rd, .int .i64 s1, .int .i64 s2, .int .i64 im] 29) := by
 go_enter Tryz.func129, Tryz.ntmps129
 go_wp2_with (go_at_call 128; refine (move_any _ _ _ _ _ (by omega) (by omega) (by omega) (by omega)).mono ?_; rintro e w' ⟨rfl, rfl⟩)
 go_ret
 exact ⟨rfl, rfl⟩
theorem putRs1_any (op rd s1 s2 im : Int) (w : World) : Calls Tryz.prog 137 #[.agg #[.int .i64 op, .int .i64 rd, .int .i64 s1, .int .i64 s2, .int .i64 im]] w fun e w' => e = .returned (.int .u32 (mvi (s1 % 4294967296) 0 5 15)) ∧ w' = w.alloc (.cells #[.int .i64 op, .int .i64 rd, .int .i64 s1, .int .i64 s2, .int .i64 im] 29) := by
 go_enter Tryz.func137, Tryz.ntmps137
 go_wp2_with (go_at_call 128; refine (move_any _ _ _ _ _ (by omega) (by omega) (by omega) (by omega)).mono ?_; rintro e w' ⟨rfl, rfl⟩)
 go_ret
 exact ⟨rfl, rfl⟩
theorem putRs2_any (op rd s1 s2 im : Int) (w : World) : Calls Tryz.prog 141 #[.agg #[.int .i64 op, .int .i64 rd, .int .i64 s1, .int .i64 s2, .int .i64 im]] w fun e w' => e = .returned (.int .u32 (mvi (s2 % 4294967296) 0 5 20)) ∧ w' = w.alloc (.cells #[.int .i64 op, .int .i64 rd, .int .i64 s1, .int .i64 s2, .int .i64 im] 29) := by
 go_enter Tryz.func141, Tryz.ntmps141
 go_wp2_with (go_at_call 128; refine (move_any _ _ _ _ _ (by omega) (by omega) (by omega) (by omega)).mono ?_; rintro e w' ⟨rfl, rfl⟩)
 go_ret
 exact ⟨rfl, rfl⟩
theorem takeRd_any (v : Int) (w : World) (h : 0 ≤ v ∧ v ≤ 4294967295) : Calls Tryz.prog 127 #[.int .u32 v] w fun e w' => e = .returned (.int .i64 (mvi v 7 5 0)) ∧ w' = w := by
 have hb := mvi_bd v 7 5 0
 go_enter Tryz.func127, Tryz.ntmps127
 go_wp2_with (go_at_call 128; refine (move_any _ _ _ _ _ (by omega) (by omega) (by omega) (by omega)).mono ?_; rintro e w' ⟨rfl, rfl⟩)
 go_ret
 exact ⟨rfl, rfl⟩
theorem takeRs1_any (v : Int) (w : World) (h : 0 ≤ v ∧ v ≤ 4294967295) : Calls Tryz.prog 135 #[.int .u32 v] w fun e w' => e = .returned (.int .i64 (mvi v 15 5 0)) ∧ w' = w := by
 have hb := mvi_bd v 15 5 0
 go_enter Tryz.func135, Tryz.ntmps135
 go_wp2_with (go_at_call 128; refine (move_any _ _ _ _ _ (by omega) (by omega) (by omega) (by omega)).mono ?_; rintro e w' ⟨rfl, rfl⟩)
 go_ret
 exact ⟨rfl, rfl⟩
theorem takeRs2_any (v : Int) (w : World) (h : 0 ≤ v ∧ v ≤ 4294967295) : Calls Tryz.prog 140 #[.int .u32 v] w fun e w' => e = .returned (.int .i64 (mvi v 20 5 0)) ∧ w' = w := by
 have hb := mvi_bd v 20 5 0
 go_enter Tryz.func140, Tryz.ntmps140
 go_wp2_with (go_at_call 128; refine (move_any _ _ _ _ _ (by omega) (by omega) (by omega) (by omega)).mono ?_; rintro e w' ⟨rfl, rfl⟩)
 go_ret
 exact ⟨rfl, rfl⟩
end
section
open Go.RowKit
theorem wordR (o f g op rd s1 s2 im:Int) (w:World) (ho:0<=o/\o<=127) (hf:0<=f/\f<=7) (hg:0<=g/\g<=127) :
  Calls Tryz.prog 147 #[.agg #[.int .u32 o,.int .u32 f,.int .u32 g],.agg #[.int .i64 op,.int .i64 rd,.int .i64 s1,.int .i64 s2,.int .i64 im]] w fun e w'=>e = .returned (.int .u32 (o+rd % 32*128+f*4096+s1 % 32*32768+s2 % 32*1048576+g*33554432))/\Below w.heap.size w w':=by
 have hB0:Bl w ((w.alloc (.cells #[.int .u32 o,.int .u32 f,.int .u32 g] 148)).alloc (.cells #[.int .i64 op,.int .i64 rd,.int .i64 s1,.int .i64 s2,.int .i64 im] 29)):=(bel_a _ _).alloc (by simp) _
 go_enter Tryz.func147,Tryz.ntmps147
 go_wp2_with (go_at_call 128;refine (move_any _ _ _ _ _ (by first | omega | (rw [IntKind.wrap_u32'];omega)) (by omega) (by omega) (by omega)).mono ?_;rintro e w' ⟨rfl,rfl⟩)
 go_region_held3 (fun W=>W.cell? ⟨w.heap.size,0,none⟩=some (.int .u32 o)/\W.cell? ⟨w.heap.size,1,none⟩=some (.int .u32 f)/\W.cell? ⟨w.heap.size,2,none⟩=some (.int .u32 g) /\
   W.cell? ⟨w.heap.size+1,0,none⟩=some (.int .i64 op)/\W.cell? ⟨w.heap.size+1,1,none⟩=some (.int .i64 rd)/\W.cell? ⟨w.heap.size+1,2,none⟩=some (.int .i64 s1)/\W.cell? ⟨w.heap.size+1,3,none⟩=some (.int .i64 s2)/\W.cell? ⟨w.heap.size+1,4,none⟩=some (.int .i64 im)) (go_simp)
  (first
  | (go_at_call 136;refine (fb_any _ _ _ _ ho hf hg).mono ?_;rintro e w' ⟨rfl,rfl⟩)
  | (go_at_call 129;refine (putRd_any _ _ _ _ _ _).mono ?_;rintro e w' ⟨rfl,rfl⟩)
  | (go_at_call 137;refine (putRs1_any _ _ _ _ _ _).mono ?_;rintro e w' ⟨rfl,rfl⟩)
  | (go_at_call 141;refine (putRs2_any _ _ _ _ _ _).mono ?_;rintro e w' ⟨rfl,rfl⟩)
  | (go_at_call 128;refine (move_any _ _ _ _ _ (by first | omega | (rw [IntKind.wrap_u32'];omega)) (by omega) (by omega) (by omega)).mono ?_;rintro e w' ⟨rfl,rfl⟩))
 all_goals go_wp2
 all_goals go_ret
 all_goals refine ⟨retN_int ?_,?_⟩
 all_goals first
  | (simp only [mvi_0_5_7,mvi_0_5_15,mvi_0_5_20];rw [orR o f g _ _ _ ho hf hg (by omega) (by omega) (by omega)];omega)
  | (repeat (first | exact hB0 | exact hB0.drew | refine Below.alloc ?_ (by simp;omega) _ | refine Below.drew ?_))
theorem wordIN (o f op rd s1 s2 im:Int) (w:World) (ho:0<=o/\o<=127) (hf:0<=f/\f<=7) :
  Calls Tryz.prog 134 #[.agg #[.int .u32 o,.int .u32 f],.agg #[.int .i64 op,.int .i64 rd,.int .i64 s1,.int .i64 s2,.int .i64 im]] w fun e w'=>e = .returned (.int .u32 (o+rd % 32*128+f*4096+s1 % 32*32768+im % 4096*1048576))/\Below w.heap.size w w':=by
 have hB0:Bl w ((w.alloc (.cells #[.int .u32 o,.int .u32 f] 143)).alloc (.cells #[.int .i64 op,.int .i64 rd,.int .i64 s1,.int .i64 s2,.int .i64 im] 29)):=(bel_a _ _).alloc (by simp) _
 go_enter Tryz.func134,Tryz.ntmps134
 go_wp2_with (go_at_call 128;refine (move_any _ _ _ _ _ (by first | omega | (rw [IntKind.wrap_u32'];omega)) (by omega) (by omega) (by omega)).mono ?_;rintro e w' ⟨rfl,rfl⟩)
 go_region_held3 (fun W=>W.cell? ⟨w.heap.size,0,none⟩=some (.int .u32 o)/\W.cell? ⟨w.heap.size,1,none⟩=some (.int .u32 f) /\
   W.cell? ⟨w.heap.size+1,0,none⟩=some (.int .i64 op)/\W.cell? ⟨w.heap.size+1,1,none⟩=some (.int .i64 rd)/\W.cell? ⟨w.heap.size+1,2,none⟩=some (.int .i64 s1)/\W.cell? ⟨w.heap.size+1,3,none⟩=some (.int .i64 s2)/\W.cell? ⟨w.heap.size+1,4,none⟩=some (.int .i64 im)) (go_simp)
  (first
  | (go_at_call 136;refine (fb0_any _ _ _ ho hf).mono ?_;rintro e w' ⟨rfl,rfl⟩)
  | (go_at_call 129;refine (putRd_any _ _ _ _ _ _).mono ?_;rintro e w' ⟨rfl,rfl⟩)
  | (go_at_call 137;refine (putRs1_any _ _ _ _ _ _).mono ?_;rintro e w' ⟨rfl,rfl⟩)
  | (go_at_call 141;refine (putRs2_any _ _ _ _ _ _).mono ?_;rintro e w' ⟨rfl,rfl⟩)
  | (go_at_call 128;refine (move_any _ _ _ _ _ (by first | omega | (rw [IntKind.wrap_u32'];omega)) (by omega) (by omega) (by omega)).mono ?_;rintro e w' ⟨rfl,rfl⟩))
 all_goals go_wp2
 all_goals go_ret
 all_goals refine ⟨retN_int ?_,?_⟩
 all_goals first
  | (simp only [IntKind.wrap_u32',mvi_0_5_7,mvi_0_5_15,mvi_0_12_20];rw [orI o f _ _ _ ho hf (by omega) (by omega) (by omega)];omega)
  | (repeat (first | exact hB0 | exact hB0.drew | refine Below.alloc ?_ (by simp;omega) _ | refine Below.drew ?_))
theorem wordH (o f g op rd s1 s2 im:Int) (w:World) (ho:0<=o/\o<=127) (hf:0<=f/\f<=7) (hg:0<=g/\g<=127) :
  Calls Tryz.prog 145 #[.agg #[.int .u32 o,.int .u32 f,.int .u32 g],.agg #[.int .i64 op,.int .i64 rd,.int .i64 s1,.int .i64 s2,.int .i64 im]] w fun e w'=>e = .returned (.int .u32 (o+rd % 32*128+f*4096+s1 % 32*32768+im % 32*1048576+g*33554432))/\Below w.heap.size w w':=by
 have hB0:Bl w ((w.alloc (.cells #[.int .u32 o,.int .u32 f,.int .u32 g] 147)).alloc (.cells #[.int .i64 op,.int .i64 rd,.int .i64 s1,.int .i64 s2,.int .i64 im] 29)):=(bel_a _ _).alloc (by simp) _
 go_enter Tryz.func145,Tryz.ntmps145
 go_wp2_with (go_at_call 128;refine (move_any _ _ _ _ _ (by first | omega | (rw [IntKind.wrap_u32'];omega)) (by omega) (by omega) (by omega)).mono ?_;rintro e w' ⟨rfl,rfl⟩)
 go_region_held3 (fun W=>W.cell? ⟨w.heap.size,0,none⟩=some (.int .u32 o)/\W.cell? ⟨w.heap.size,1,none⟩=some (.int .u32 f)/\W.cell? ⟨w.heap.size,2,none⟩=some (.int .u32 g) /\
   W.cell? ⟨w.heap.size+1,0,none⟩=some (.int .i64 op)/\W.cell? ⟨w.heap.size+1,1,none⟩=some (.int .i64 rd)/\W.cell? ⟨w.heap.size+1,2,none⟩=some (.int .i64 s1)/\W.cell? ⟨w.heap.size+1,3,none⟩=some (.int .i64 s2)/\W.cell? ⟨w.heap.size+1,4,none⟩=some (.int .i64 im)) (go_simp)
  (first
  | (go_at_call 136;refine (fb_any _ _ _ _ ho hf hg).mono ?_;rintro e w' ⟨rfl,rfl⟩)
  | (go_at_call 129;refine (putRd_any _ _ _ _ _ _).mono ?_;rintro e w' ⟨rfl,rfl⟩)
  | (go_at_call 137;refine (putRs1_any _ _ _ _ _ _).mono ?_;rintro e w' ⟨rfl,rfl⟩)
  | (go_at_call 141;refine (putRs2_any _ _ _ _ _ _).mono ?_;rintro e w' ⟨rfl,rfl⟩)
  | (go_at_call 128;refine (move_any _ _ _ _ _ (by first | omega | (rw [IntKind.wrap_u32'];omega)) (by omega) (by omega) (by omega)).mono ?_;rintro e w' ⟨rfl,rfl⟩))
 all_goals go_wp2
 all_goals go_ret
 all_goals refine ⟨retN_int ?_,?_⟩
 all_goals first
  | (simp only [IntKind.wrap_u32',mvi_0_5_7,mvi_0_5_15,mvi_0_5_20];rw [orR o f g _ _ _ ho hf hg (by omega) (by omega) (by omega)];omega)
  | (repeat (first | exact hB0 | exact hB0.drew | refine Below.alloc ?_ (by simp;omega) _ | refine Below.drew ?_))
theorem wordS (o f op rd s1 s2 im:Int) (w:World) (ho:0<=o/\o<=127) (hf:0<=f/\f<=7) :
  Calls Tryz.prog 143 #[.agg #[.int .u32 o,.int .u32 f],.agg #[.int .i64 op,.int .i64 rd,.int .i64 s1,.int .i64 s2,.int .i64 im]] w fun e w'=>e = .returned (.int .u32 (o+im % 32*128+f*4096+s1 % 32*32768+s2 % 32*1048576+im / 32 % 128*33554432))/\Below w.heap.size w w':=by
 have hB0:Bl w ((w.alloc (.cells #[.int .u32 o,.int .u32 f] 145)).alloc (.cells #[.int .i64 op,.int .i64 rd,.int .i64 s1,.int .i64 s2,.int .i64 im] 29)):=(bel_a _ _).alloc (by simp) _
 go_enter Tryz.func143,Tryz.ntmps143
 go_wp2_with (go_at_call 128;refine (move_any _ _ _ _ _ (by first | omega | (rw [IntKind.wrap_u32'];omega)) (by omega) (by omega) (by omega)).mono ?_;rintro e w' ⟨rfl,rfl⟩)
 go_region_held3 (fun W=>W.cell? ⟨w.heap.size,0,none⟩=some (.int .u32 o)/\W.cell? ⟨w.heap.size,1,none⟩=some (.int .u32 f) /\
   W.cell? ⟨w.heap.size+1,0,none⟩=some (.int .i64 op)/\W.cell? ⟨w.heap.size+1,1,none⟩=some (.int .i64 rd)/\W.cell? ⟨w.heap.size+1,2,none⟩=some (.int .i64 s1)/\W.cell? ⟨w.heap.size+1,3,none⟩=some (.int .i64 s2)/\W.cell? ⟨w.heap.size+1,4,none⟩=some (.int .i64 im)) (go_simp)
  (first
  | (go_at_call 136;refine (fb0_any _ _ _ ho hf).mono ?_;rintro e w' ⟨rfl,rfl⟩)
  | (go_at_call 129;refine (putRd_any _ _ _ _ _ _).mono ?_;rintro e w' ⟨rfl,rfl⟩)
  | (go_at_call 137;refine (putRs1_any _ _ _ _ _ _).mono ?_;rintro e w' ⟨rfl,rfl⟩)
  | (go_at_call 141;refine (putRs2_any _ _ _ _ _ _).mono ?_;rintro e w' ⟨rfl,rfl⟩)
  | (go_at_call 128;refine (move_any _ _ _ _ _ (by first | omega | (rw [IntKind.wrap_u32'];omega)) (by omega) (by omega) (by omega)).mono ?_;rintro e w' ⟨rfl,rfl⟩))
 all_goals go_wp2
 all_goals go_ret
 all_goals refine ⟨retN_int ?_,?_⟩
 all_goals first
  | (simp only [mvi_0_5_15,mvi_0_5_20,mvi_0_5_7,mvi_5_7_25];rw [orS o f _ _ _ _ ho hf (by omega) (by omega) (by omega) (by omega)];omega)
  | (repeat (first | exact hB0 | exact hB0.drew | refine Below.alloc ?_ (by simp;omega) _ | refine Below.drew ?_))
theorem wordB (o f op rd s1 s2 im:Int) (w:World) (ho:0<=o/\o<=127) (hf:0<=f/\f<=7) :
  Calls Tryz.prog 139 #[.agg #[.int .u32 o,.int .u32 f],.agg #[.int .i64 op,.int .i64 rd,.int .i64 s1,.int .i64 s2,.int .i64 im]] w fun e w'=>e = .returned (.int .u32 (o+im / 2048 % 2*128+im / 2 % 16*256+f*4096+s1 % 32*32768+s2 % 32*1048576+im / 32 % 64*33554432+im / 4096 % 2*2147483648))/\Below w.heap.size w w':=by
 have hB0:Bl w ((w.alloc (.cells #[.int .u32 o,.int .u32 f] 144)).alloc (.cells #[.int .i64 op,.int .i64 rd,.int .i64 s1,.int .i64 s2,.int .i64 im] 29)):=(bel_a _ _).alloc (by simp) _
 go_enter Tryz.func139,Tryz.ntmps139
 go_wp2_with (go_at_call 128;refine (move_any _ _ _ _ _ (by first | omega | (rw [IntKind.wrap_u32'];omega)) (by omega) (by omega) (by omega)).mono ?_;rintro e w' ⟨rfl,rfl⟩)
 go_region_held3 (fun W=>W.cell? ⟨w.heap.size,0,none⟩=some (.int .u32 o)/\W.cell? ⟨w.heap.size,1,none⟩=some (.int .u32 f) /\
   W.cell? ⟨w.heap.size+1,0,none⟩=some (.int .i64 op)/\W.cell? ⟨w.heap.size+1,1,none⟩=some (.int .i64 rd)/\W.cell? ⟨w.heap.size+1,2,none⟩=some (.int .i64 s1)/\W.cell? ⟨w.heap.size+1,3,none⟩=some (.int .i64 s2)/\W.cell? ⟨w.heap.size+1,4,none⟩=some (.int .i64 im)) (go_simp)
  (first
  | (go_at_call 136;refine (fb0_any _ _ _ ho hf).mono ?_;rintro e w' ⟨rfl,rfl⟩)
  | (go_at_call 129;refine (putRd_any _ _ _ _ _ _).mono ?_;rintro e w' ⟨rfl,rfl⟩)
  | (go_at_call 137;refine (putRs1_any _ _ _ _ _ _).mono ?_;rintro e w' ⟨rfl,rfl⟩)
  | (go_at_call 141;refine (putRs2_any _ _ _ _ _ _).mono ?_;rintro e w' ⟨rfl,rfl⟩)
  | (go_at_call 128;refine (move_any _ _ _ _ _ (by first | omega | (rw [IntKind.wrap_u32'];omega)) (by omega) (by omega) (by omega)).mono ?_;rintro e w' ⟨rfl,rfl⟩))
 all_goals go_wp2
 all_goals go_ret
 all_goals refine ⟨retN_int ?_,?_⟩
 all_goals first
  | (simp only [mvi_0_5_15,mvi_0_5_20,mvi_11_1_7,mvi_1_4_8,mvi_5_6_25,mvi_12_1_31];rw [orSB _ _ _ _ (by omega) (by omega) (by omega) (by omega),orB o f _ _ _ _ _ _ ho hf (by omega) (by omega) (by omega) (by omega) (by omega) (by omega)];omega)
  | (repeat (first | exact hB0 | exact hB0.drew | refine Below.alloc ?_ (by simp;omega) _ | refine Below.drew ?_))
theorem wordU (o op rd s1 s2 im:Int) (w:World) (ho:0<=o/\o<=127) :
  Calls Tryz.prog 126 #[.agg #[.int .u32 o],.agg #[.int .i64 op,.int .i64 rd,.int .i64 s1,.int .i64 s2,.int .i64 im]] w fun e w'=>e = .returned (.int .u32 (o+rd % 32*128+im % 1048576*4096))/\Below w.heap.size w w':=by
 have hB0:Bl w ((w.alloc (.cells #[.int .u32 o] 140)).alloc (.cells #[.int .i64 op,.int .i64 rd,.int .i64 s1,.int .i64 s2,.int .i64 im] 29)):=(bel_a _ _).alloc (by simp) _
 go_enter Tryz.func126,Tryz.ntmps126
 go_wp2_with (go_at_call 128;refine (move_any _ _ _ _ _ (by first | omega | (rw [IntKind.wrap_u32'];omega)) (by omega) (by omega) (by omega)).mono ?_;rintro e w' ⟨rfl,rfl⟩)
 go_region_held3 (fun W=>W.cell? ⟨w.heap.size,0,none⟩=some (.int .u32 o) /\
   W.cell? ⟨w.heap.size+1,0,none⟩=some (.int .i64 op)/\W.cell? ⟨w.heap.size+1,1,none⟩=some (.int .i64 rd)/\W.cell? ⟨w.heap.size+1,2,none⟩=some (.int .i64 s1)/\W.cell? ⟨w.heap.size+1,3,none⟩=some (.int .i64 s2)/\W.cell? ⟨w.heap.size+1,4,none⟩=some (.int .i64 im)) (go_simp)
  (first
  | (go_at_call 129;refine (putRd_any _ _ _ _ _ _).mono ?_;rintro e w' ⟨rfl,rfl⟩)
  | (go_at_call 137;refine (putRs1_any _ _ _ _ _ _).mono ?_;rintro e w' ⟨rfl,rfl⟩)
  | (go_at_call 141;refine (putRs2_any _ _ _ _ _ _).mono ?_;rintro e w' ⟨rfl,rfl⟩)
  | (go_at_call 128;refine (move_any _ _ _ _ _ (by first | omega | (rw [IntKind.wrap_u32'];omega)) (by omega) (by omega) (by omega)).mono ?_;rintro e w' ⟨rfl,rfl⟩))
 all_goals go_wp2
 all_goals go_ret
 all_goals refine ⟨retN_int ?_,?_⟩
 all_goals first
  | (simp only [IntKind.wrap_u32',mvi_0_5_7,mvi_0_20_12];rw [orU o _ _ ho (by omega) (by omega)];omega)
  | (repeat (first | exact hB0 | exact hB0.drew | refine Below.alloc ?_ (by simp;omega) _ | refine Below.drew ?_))
theorem wordJ (o op rd s1 s2 im:Int) (w:World) (ho:0<=o/\o<=127) :
  Calls Tryz.prog 131 #[.agg #[.int .u32 o],.agg #[.int .i64 op,.int .i64 rd,.int .i64 s1,.int .i64 s2,.int .i64 im]] w fun e w'=>e = .returned (.int .u32 (o+rd % 32*128+im / 4096 % 256*4096+im / 2048 % 2*1048576+im / 2 % 1024*2097152+im / 1048576 % 2*2147483648))/\Below w.heap.size w w':=by
 have hB0:Bl w ((w.alloc (.cells #[.int .u32 o] 141)).alloc (.cells #[.int .i64 op,.int .i64 rd,.int .i64 s1,.int .i64 s2,.int .i64 im] 29)):=(bel_a _ _).alloc (by simp) _
 go_enter Tryz.func131,Tryz.ntmps131
 go_wp2_with (go_at_call 128;refine (move_any _ _ _ _ _ (by first | omega | (rw [IntKind.wrap_u32'];omega)) (by omega) (by omega) (by omega)).mono ?_;rintro e w' ⟨rfl,rfl⟩)
 go_region_held3 (fun W=>W.cell? ⟨w.heap.size,0,none⟩=some (.int .u32 o) /\
   W.cell? ⟨w.heap.size+1,0,none⟩=some (.int .i64 op)/\W.cell? ⟨w.heap.size+1,1,none⟩=some (.int .i64 rd)/\W.cell? ⟨w.heap.size+1,2,none⟩=some (.int .i64 s1)/\W.cell? ⟨w.heap.size+1,3,none⟩=some (.int .i64 s2)/\W.cell? ⟨w.heap.size+1,4,none⟩=some (.int .i64 im)) (go_simp)
  (first
  | (go_at_call 129;refine (putRd_any _ _ _ _ _ _).mono ?_;rintro e w' ⟨rfl,rfl⟩)
  | (go_at_call 137;refine (putRs1_any _ _ _ _ _ _).mono ?_;rintro e w' ⟨rfl,rfl⟩)
  | (go_at_call 141;refine (putRs2_any _ _ _ _ _ _).mono ?_;rintro e w' ⟨rfl,rfl⟩)
  | (go_at_call 128;refine (move_any _ _ _ _ _ (by first | omega | (rw [IntKind.wrap_u32'];omega)) (by omega) (by omega) (by omega)).mono ?_;rintro e w' ⟨rfl,rfl⟩))
 all_goals go_wp2
 all_goals go_ret
 all_goals refine ⟨retN_int ?_,?_⟩
 all_goals first
  | (simp only [mvi_0_5_7,mvi_12_8_12,mvi_11_1_20,mvi_1_10_21,mvi_20_1_31];rw [orSJ _ _ _ _ (by omega) (by omega) (by omega) (by omega),orJ o _ _ _ _ _ ho (by omega) (by omega) (by omega) (by omega) (by omega)];omega)
  | (repeat (first | exact hB0 | exact hB0.drew | refine Below.alloc ?_ (by simp;omega) _ | refine Below.drew ?_))
theorem wordE (o op rd s1 s2 im:Int) (w:World) (ho:0<=o/\o<=127) :
  Calls Tryz.prog 149 #[.agg #[.int .u32 o],.agg #[.int .i64 op,.int .i64 rd,.int .i64 s1,.int .i64 s2,.int .i64 im]] w fun e w'=>e = .returned (.int .u32 (o))/\Below w.heap.size w w':=by
 have _hB0:Bl w ((w.alloc (.cells #[.int .u32 o] 149)).alloc (.cells #[.int .i64 op,.int .i64 rd,.int .i64 s1,.int .i64 s2,.int .i64 im] 29)):=(bel_a _ _).alloc (by simp) _
 go_enter Tryz.func149,Tryz.ntmps149
 go_wp2
 go_ret
 exact ⟨rfl,by first | exact (Below.refl _ _).alloc (Nat.le_refl _) _ | exact _hB0⟩
end
section
open Go.RowKit
def sg (x h m:Int):Int:=if x≥h then x-m else x
theorem or_bd (a b:Int):0<=bits .or .u32 a b/\bits .or .u32 a b<=4294967295:=by
 unfold bits
 dsimp only
 rw [IntKind.wrap_u32']
 omega
theorem instR (o f g v:Int) (w:World) (hv:0<=v/\v<=4294967295) :
  Calls Tryz.prog 146 #[.agg #[.int .u32 o,.int .u32 f,.int .u32 g],.int .u32 v] w fun e w'=>e = .returned (.agg #[.int .i64 (0),.int .i64 (v / 128 % 32),.int .i64 (v / 32768 % 32),.int .i64 (v / 1048576 % 32),.int .i64 (0)])/\Below w.heap.size w w':=by
 have E:Hid ((Ending.returned (.agg #[.int .i64 (0),.int .i64 (mvi v 7 5 0),.int .i64 (mvi v 15 5 0),.int .i64 (mvi v 20 5 0),.int .i64 (0)]):Ending) = .returned (.agg #[.int .i64 (0),.int .i64 (v / 128 % 32),.int .i64 (v / 32768 % 32),.int .i64 (v / 1048576 % 32),.int .i64 (0)])):=by rw [mvi_7_5_0,mvi_15_5_0,mvi_20_5_0];exact Eq.refl _
 go_enter Tryz.func146,Tryz.ntmps146
 go_wp2_with (first
  | (go_at_call 127;refine (takeRd_any _ _ hv).mono ?_;rintro e w' ⟨rfl,rfl⟩)
  | (go_at_call 135;refine (takeRs1_any _ _ hv).mono ?_;rintro e w' ⟨rfl,rfl⟩)
  | (go_at_call 140;refine (takeRs2_any _ _ hv).mono ?_;rintro e w' ⟨rfl,rfl⟩)
  | (go_at_call 132;refine (sx_any _ _ _ (by first | exact mvi_bd _ _ _ _ | exact or_bd _ _) (by omega)).mono ?_;rintro e w' ⟨rfl,rfl⟩)
  | (go_at_call 128;refine (move_any _ _ _ _ _ hv (by omega) (by omega) (by omega)).mono ?_;rintro e w' ⟨rfl,rfl⟩))
 refine bodyPost_ret (v:=.agg #[.int .i64 (0),.int .i64 (mvi v 7 5 0),.int .i64 (mvi v 15 5 0),.int .i64 (mvi v 20 5 0),.int .i64 (0)]) (by simp [results,Tryz.results146,go_sem]) rfl ⟨E.out,?_⟩
 first | exact (Below.refl _ _).alloc (Nat.le_refl _) _ | exact (bel_a _ _).alloc (by simp) _
theorem immI (v:Int) (hv:0<=v/\v<=4294967295):sxi (mvi v 20 12 0) 12=sg (v / 1048576 % 4096) 2048 4096:=by
 simp only [mvi_20_12_0]
 rw [sxi_12 _ (by omega)]
 rfl
theorem instI (o f v:Int) (w:World) (hv:0<=v/\v<=4294967295) :
  Calls Tryz.prog 133 #[.agg #[.int .u32 o,.int .u32 f],.int .u32 v] w fun e w'=>e = .returned (.agg #[.int .i64 (0),.int .i64 (v / 128 % 32),.int .i64 (v / 32768 % 32),.int .i64 (0),.int .i64 (sg (v / 1048576 % 4096) 2048 4096)])/\Below w.heap.size w w':=by
 have E:Hid ((Ending.returned (.agg #[.int .i64 (0),.int .i64 (mvi v 7 5 0),.int .i64 (mvi v 15 5 0),.int .i64 (0),.int .i64 (sxi (mvi v 20 12 0) 12)]):Ending) = .returned (.agg #[.int .i64 (0),.int .i64 (v / 128 % 32),.int .i64 (v / 32768 % 32),.int .i64 (0),.int .i64 (sg (v / 1048576 % 4096) 2048 4096)])):=by rw [immI v hv,mvi_7_5_0,mvi_15_5_0];exact Eq.refl _
 go_enter Tryz.func133,Tryz.ntmps133
 go_wp2_with (first
  | (go_at_call 127;refine (takeRd_any _ _ hv).mono ?_;rintro e w' ⟨rfl,rfl⟩)
  | (go_at_call 135;refine (takeRs1_any _ _ hv).mono ?_;rintro e w' ⟨rfl,rfl⟩)
  | (go_at_call 140;refine (takeRs2_any _ _ hv).mono ?_;rintro e w' ⟨rfl,rfl⟩)
  | (go_at_call 132;refine (sx_any _ _ _ (by first | exact mvi_bd _ _ _ _ | exact or_bd _ _) (by omega)).mono ?_;rintro e w' ⟨rfl,rfl⟩)
  | (go_at_call 128;refine (move_any _ _ _ _ _ hv (by omega) (by omega) (by omega)).mono ?_;rintro e w' ⟨rfl,rfl⟩))
 refine bodyPost_ret (v:=.agg #[.int .i64 (0),.int .i64 (mvi v 7 5 0),.int .i64 (mvi v 15 5 0),.int .i64 (0),.int .i64 (sxi (mvi v 20 12 0) 12)]) (by simp [results,Tryz.results133,go_sem]) rfl ⟨E.out,?_⟩
 first | exact (Below.refl _ _).alloc (Nat.le_refl _) _ | exact (bel_a _ _).alloc (by simp) _
theorem immH (v:Int) (hv:0<=v/\v<=4294967295):mvi v 20 5 0=v / 1048576 % 32:=by
 simp only [mvi_20_5_0]
theorem instH (o f g v:Int) (w:World) (hv:0<=v/\v<=4294967295) :
  Calls Tryz.prog 144 #[.agg #[.int .u32 o,.int .u32 f,.int .u32 g],.int .u32 v] w fun e w'=>e = .returned (.agg #[.int .i64 (0),.int .i64 (v / 128 % 32),.int .i64 (v / 32768 % 32),.int .i64 (0),.int .i64 (v / 1048576 % 32)])/\Below w.heap.size w w':=by
 have hbm:=mvi_bd v 20 5 0
 have E:Hid ((Ending.returned (.agg #[.int .i64 (0),.int .i64 (mvi v 7 5 0),.int .i64 (mvi v 15 5 0),.int .i64 (0),.int .i64 (mvi v 20 5 0)]):Ending) = .returned (.agg #[.int .i64 (0),.int .i64 (v / 128 % 32),.int .i64 (v / 32768 % 32),.int .i64 (0),.int .i64 (v / 1048576 % 32)])):=by rw [immH v hv,mvi_7_5_0,mvi_15_5_0];exact Eq.refl _
 go_enter Tryz.func144,Tryz.ntmps144
 go_wp2_with (first
  | (go_at_call 127;refine (takeRd_any _ _ hv).mono ?_;rintro e w' ⟨rfl,rfl⟩)
  | (go_at_call 135;refine (takeRs1_any _ _ hv).mono ?_;rintro e w' ⟨rfl,rfl⟩)
  | (go_at_call 140;refine (takeRs2_any _ _ hv).mono ?_;rintro e w' ⟨rfl,rfl⟩)
  | (go_at_call 132;refine (sx_any _ _ _ (by first | exact mvi_bd _ _ _ _ | exact or_bd _ _) (by omega)).mono ?_;rintro e w' ⟨rfl,rfl⟩)
  | (go_at_call 128;refine (move_any _ _ _ _ _ hv (by omega) (by omega) (by omega)).mono ?_;rintro e w' ⟨rfl,rfl⟩))
 refine bodyPost_ret (v:=.agg #[.int .i64 (0),.int .i64 (mvi v 7 5 0),.int .i64 (mvi v 15 5 0),.int .i64 (0),.int .i64 (mvi v 20 5 0)]) (by simp [results,Tryz.results144,go_sem]) rfl ⟨E.out,?_⟩
 first | exact (Below.refl _ _).alloc (Nat.le_refl _) _ | exact (bel_a _ _).alloc (by simp) _
theorem immS (v:Int) (hv:0<=v/\v<=4294967295):sxi (bits .or .u32 (mvi v 7 5 0) (mvi v 25 7 5)) 12=sg (v / 128 % 32+v / 33554432 % 128*32) 2048 4096:=by
 simp only [mvi_7_5_0,mvi_25_7_5]
 rw [orIS _ _ (by omega) (by omega)]
 rw [sxi_12 _ (by omega)]
 rfl
theorem instS (o f v:Int) (w:World) (hv:0<=v/\v<=4294967295) :
  Calls Tryz.prog 142 #[.agg #[.int .u32 o,.int .u32 f],.int .u32 v] w fun e w'=>e = .returned (.agg #[.int .i64 (0),.int .i64 (0),.int .i64 (v / 32768 % 32),.int .i64 (v / 1048576 % 32),.int .i64 (sg (v / 128 % 32+v / 33554432 % 128*32) 2048 4096)])/\Below w.heap.size w w':=by
 have E:Hid ((Ending.returned (.agg #[.int .i64 (0),.int .i64 (0),.int .i64 (mvi v 15 5 0),.int .i64 (mvi v 20 5 0),.int .i64 (sxi (bits .or .u32 (mvi v 7 5 0) (mvi v 25 7 5)) 12)]):Ending) = .returned (.agg #[.int .i64 (0),.int .i64 (0),.int .i64 (v / 32768 % 32),.int .i64 (v / 1048576 % 32),.int .i64 (sg (v / 128 % 32+v / 33554432 % 128*32) 2048 4096)])):=by rw [immS v hv,mvi_15_5_0,mvi_20_5_0];exact Eq.refl _
 go_enter Tryz.func142,Tryz.ntmps142
 go_wp2_with (first
  | (go_at_call 127;refine (takeRd_any _ _ hv).mono ?_;rintro e w' ⟨rfl,rfl⟩)
  | (go_at_call 135;refine (takeRs1_any _ _ hv).mono ?_;rintro e w' ⟨rfl,rfl⟩)
  | (go_at_call 140;refine (takeRs2_any _ _ hv).mono ?_;rintro e w' ⟨rfl,rfl⟩)
  | (go_at_call 132;refine (sx_any _ _ _ (by first | exact mvi_bd _ _ _ _ | exact or_bd _ _) (by omega)).mono ?_;rintro e w' ⟨rfl,rfl⟩)
  | (go_at_call 128;refine (move_any _ _ _ _ _ hv (by omega) (by omega) (by omega)).mono ?_;rintro e w' ⟨rfl,rfl⟩))
 refine bodyPost_ret (v:=.agg #[.int .i64 (0),.int .i64 (0),.int .i64 (mvi v 15 5 0),.int .i64 (mvi v 20 5 0),.int .i64 (sxi (bits .or .u32 (mvi v 7 5 0) (mvi v 25 7 5)) 12)]) (by simp [results,Tryz.results142,go_sem]) rfl ⟨E.out,?_⟩
 first | exact (Below.refl _ _).alloc (Nat.le_refl _) _ | exact (bel_a _ _).alloc (by simp) _
theorem immB (v:Int) (hv:0<=v/\v<=4294967295):sxi (bits .or .u32 (bits .or .u32 (bits .or .u32 (mvi v 7 1 11) (mvi v 8 4 1)) (mvi v 25 6 5)) (mvi v 31 1 12)) 13=sg (v / 256 % 16*2+v / 33554432 % 64*32+v / 128 % 2*2048+v / 2147483648 % 2*4096) 4096 8192:=by
 simp only [mvi_7_1_11,mvi_8_4_1,mvi_25_6_5,mvi_31_1_12]
 rw [orIB _ _ _ _ (by omega) (by omega) (by omega) (by omega)]
 rw [sxi_13 _ (by omega)]
 rfl
theorem instB (o f v:Int) (w:World) (hv:0<=v/\v<=4294967295) :
  Calls Tryz.prog 138 #[.agg #[.int .u32 o,.int .u32 f],.int .u32 v] w fun e w'=>e = .returned (.agg #[.int .i64 (0),.int .i64 (0),.int .i64 (v / 32768 % 32),.int .i64 (v / 1048576 % 32),.int .i64 (sg (v / 256 % 16*2+v / 33554432 % 64*32+v / 128 % 2*2048+v / 2147483648 % 2*4096) 4096 8192)])/\Below w.heap.size w w':=by
 have E:Hid ((Ending.returned (.agg #[.int .i64 (0),.int .i64 (0),.int .i64 (mvi v 15 5 0),.int .i64 (mvi v 20 5 0),.int .i64 (sxi (bits .or .u32 (bits .or .u32 (bits .or .u32 (mvi v 7 1 11) (mvi v 8 4 1)) (mvi v 25 6 5)) (mvi v 31 1 12)) 13)]):Ending) = .returned (.agg #[.int .i64 (0),.int .i64 (0),.int .i64 (v / 32768 % 32),.int .i64 (v / 1048576 % 32),.int .i64 (sg (v / 256 % 16*2+v / 33554432 % 64*32+v / 128 % 2*2048+v / 2147483648 % 2*4096) 4096 8192)])):=by rw [immB v hv,mvi_15_5_0,mvi_20_5_0];exact Eq.refl _
 go_enter Tryz.func138,Tryz.ntmps138
 go_wp2_with (first
  | (go_at_call 127;refine (takeRd_any _ _ hv).mono ?_;rintro e w' ⟨rfl,rfl⟩)
  | (go_at_call 135;refine (takeRs1_any _ _ hv).mono ?_;rintro e w' ⟨rfl,rfl⟩)
  | (go_at_call 140;refine (takeRs2_any _ _ hv).mono ?_;rintro e w' ⟨rfl,rfl⟩)
  | (go_at_call 132;refine (sx_any _ _ _ (by first | exact mvi_bd _ _ _ _ | exact or_bd _ _) (by omega)).mono ?_;rintro e w' ⟨rfl,rfl⟩)
  | (go_at_call 128;refine (move_any _ _ _ _ _ hv (by omega) (by omega) (by omega)).mono ?_;rintro e w' ⟨rfl,rfl⟩))
 refine bodyPost_ret (v:=.agg #[.int .i64 (0),.int .i64 (0),.int .i64 (mvi v 15 5 0),.int .i64 (mvi v 20 5 0),.int .i64 (sxi (bits .or .u32 (bits .or .u32 (bits .or .u32 (mvi v 7 1 11) (mvi v 8 4 1)) (mvi v 25 6 5)) (mvi v 31 1 12)) 13)]) (by simp [results,Tryz.results138,go_sem]) rfl ⟨E.out,?_⟩
 first | exact (Below.refl _ _).alloc (Nat.le_refl _) _ | exact (bel_a _ _).alloc (by simp) _
theorem immU (v:Int) (hv:0<=v/\v<=4294967295):mvi v 12 20 0=v / 4096 % 1048576:=by
 simp only [mvi_12_20_0]
theorem instU (o v:Int) (w:World) (hv:0<=v/\v<=4294967295) :
  Calls Tryz.prog 125 #[.agg #[.int .u32 o],.int .u32 v] w fun e w'=>e = .returned (.agg #[.int .i64 (0),.int .i64 (v / 128 % 32),.int .i64 (0),.int .i64 (0),.int .i64 (v / 4096 % 1048576)])/\Below w.heap.size w w':=by
 have hbm:=mvi_bd v 12 20 0
 have E:Hid ((Ending.returned (.agg #[.int .i64 (0),.int .i64 (mvi v 7 5 0),.int .i64 (0),.int .i64 (0),.int .i64 (mvi v 12 20 0)]):Ending) = .returned (.agg #[.int .i64 (0),.int .i64 (v / 128 % 32),.int .i64 (0),.int .i64 (0),.int .i64 (v / 4096 % 1048576)])):=by rw [immU v hv,mvi_7_5_0];exact Eq.refl _
 go_enter Tryz.func125,Tryz.ntmps125
 go_wp2_with (first
  | (go_at_call 127;refine (takeRd_any _ _ hv).mono ?_;rintro e w' ⟨rfl,rfl⟩)
  | (go_at_call 135;refine (takeRs1_any _ _ hv).mono ?_;rintro e w' ⟨rfl,rfl⟩)
  | (go_at_call 140;refine (takeRs2_any _ _ hv).mono ?_;rintro e w' ⟨rfl,rfl⟩)
  | (go_at_call 132;refine (sx_any _ _ _ (by first | exact mvi_bd _ _ _ _ | exact or_bd _ _) (by omega)).mono ?_;rintro e w' ⟨rfl,rfl⟩)
  | (go_at_call 128;refine (move_any _ _ _ _ _ hv (by omega) (by omega) (by omega)).mono ?_;rintro e w' ⟨rfl,rfl⟩))
 refine bodyPost_ret (v:=.agg #[.int .i64 (0),.int .i64 (mvi v 7 5 0),.int .i64 (0),.int .i64 (0),.int .i64 (mvi v 12 20 0)]) (by simp [results,Tryz.results125,go_sem]) rfl ⟨E.out,?_⟩
 first | exact (Below.refl _ _).alloc (Nat.le_refl _) _ | exact (bel_a _ _).alloc (by simp) _
theorem immJ (v:Int) (hv:0<=v/\v<=4294967295):sxi (bits .or .u32 (bits .or .u32 (bits .or .u32 (mvi v 12 8 12) (mvi v 20 1 11)) (mvi v 21 10 1)) (mvi v 31 1 20)) 21=sg (v / 2097152 % 1024*2+v / 1048576 % 2*2048+v / 4096 % 256*4096+v / 2147483648 % 2*1048576) 1048576 2097152:=by
 simp only [mvi_12_8_12,mvi_20_1_11,mvi_21_10_1,mvi_31_1_20]
 rw [orIJ _ _ _ _ (by omega) (by omega) (by omega) (by omega)]
 rw [sxi_21 _ (by omega)]
 rfl
theorem instJ (o v:Int) (w:World) (hv:0<=v/\v<=4294967295) :
  Calls Tryz.prog 130 #[.agg #[.int .u32 o],.int .u32 v] w fun e w'=>e = .returned (.agg #[.int .i64 (0),.int .i64 (v / 128 % 32),.int .i64 (0),.int .i64 (0),.int .i64 (sg (v / 2097152 % 1024*2+v / 1048576 % 2*2048+v / 4096 % 256*4096+v / 2147483648 % 2*1048576) 1048576 2097152)])/\Below w.heap.size w w':=by
 have E:Hid ((Ending.returned (.agg #[.int .i64 (0),.int .i64 (mvi v 7 5 0),.int .i64 (0),.int .i64 (0),.int .i64 (sxi (bits .or .u32 (bits .or .u32 (bits .or .u32 (mvi v 12 8 12) (mvi v 20 1 11)) (mvi v 21 10 1)) (mvi v 31 1 20)) 21)]):Ending) = .returned (.agg #[.int .i64 (0),.int .i64 (v / 128 % 32),.int .i64 (0),.int .i64 (0),.int .i64 (sg (v / 2097152 % 1024*2+v / 1048576 % 2*2048+v / 4096 % 256*4096+v / 2147483648 % 2*1048576) 1048576 2097152)])):=by rw [immJ v hv,mvi_7_5_0];exact Eq.refl _
 go_enter Tryz.func130,Tryz.ntmps130
 go_wp2_with (first
  | (go_at_call 127;refine (takeRd_any _ _ hv).mono ?_;rintro e w' ⟨rfl,rfl⟩)
  | (go_at_call 135;refine (takeRs1_any _ _ hv).mono ?_;rintro e w' ⟨rfl,rfl⟩)
  | (go_at_call 140;refine (takeRs2_any _ _ hv).mono ?_;rintro e w' ⟨rfl,rfl⟩)
  | (go_at_call 132;refine (sx_any _ _ _ (by first | exact mvi_bd _ _ _ _ | exact or_bd _ _) (by omega)).mono ?_;rintro e w' ⟨rfl,rfl⟩)
  | (go_at_call 128;refine (move_any _ _ _ _ _ hv (by omega) (by omega) (by omega)).mono ?_;rintro e w' ⟨rfl,rfl⟩))
 refine bodyPost_ret (v:=.agg #[.int .i64 (0),.int .i64 (mvi v 7 5 0),.int .i64 (0),.int .i64 (0),.int .i64 (sxi (bits .or .u32 (bits .or .u32 (bits .or .u32 (mvi v 12 8 12) (mvi v 20 1 11)) (mvi v 21 10 1)) (mvi v 31 1 20)) 21)]) (by simp [results,Tryz.results130,go_sem]) rfl ⟨E.out,?_⟩
 first | exact (Below.refl _ _).alloc (Nat.le_refl _) _ | exact (bel_a _ _).alloc (by simp) _
theorem instE (o v:Int) (w:World) (hv:0<=v/\v<=4294967295) :
  Calls Tryz.prog 148 #[.agg #[.int .u32 o],.int .u32 v] w fun e w'=>e = .returned (.agg #[.int .i64 (0),.int .i64 (0),.int .i64 (0),.int .i64 (0),.int .i64 (0)])/\Below w.heap.size w w':=by
 have E:Hid ((Ending.returned (.agg #[.int .i64 (0),.int .i64 (0),.int .i64 (0),.int .i64 (0),.int .i64 (0)]):Ending) = .returned (.agg #[.int .i64 (0),.int .i64 (0),.int .i64 (0),.int .i64 (0),.int .i64 (0)])):=by exact Eq.refl _
 go_enter Tryz.func148,Tryz.ntmps148
 go_wp2_with (first
  | (go_at_call 127;refine (takeRd_any _ _ hv).mono ?_;rintro e w' ⟨rfl,rfl⟩)
  | (go_at_call 135;refine (takeRs1_any _ _ hv).mono ?_;rintro e w' ⟨rfl,rfl⟩)
  | (go_at_call 140;refine (takeRs2_any _ _ hv).mono ?_;rintro e w' ⟨rfl,rfl⟩)
  | (go_at_call 132;refine (sx_any _ _ _ (by first | exact mvi_bd _ _ _ _ | exact or_bd _ _) (by omega)).mono ?_;rintro e w' ⟨rfl,rfl⟩)
  | (go_at_call 128;refine (move_any _ _ _ _ _ hv (by omega) (by omega) (by omega)).mono ?_;rintro e w' ⟨rfl,rfl⟩))
 refine bodyPost_ret (v:=.agg #[.int .i64 (0),.int .i64 (0),.int .i64 (0),.int .i64 (0),.int .i64 (0)]) (by simp [results,Tryz.results148,go_sem]) rfl ⟨rfl,?_⟩
 first | exact (Below.refl _ _).alloc (Nat.le_refl _) _ | exact (bel_a _ _).alloc (by simp) _
end
section
open Go.RowKit
def ocL:List Int:=[0,55,111,103,99,99,99,99,99,99,3,35,19,19,19,19,19,19,19,19,19,51,51,51,51,51,51,51,51,51,51,51,51,51,115]
def f3L:List Int:=[0,0,0,0,0,1,4,5,6,7,2,2,0,2,3,4,6,7,1,5,5,0,0,1,2,3,4,5,5,6,7,0,4,6,0]
def f7L:List Int:=[0,0,0,0,0,0,0,0,0,0,0,0,0,0,0,0,0,0,0,0,32,0,32,0,0,0,0,0,32,0,0,1,1,1,0]
def oc (op:Int):Int:=ocL.getD op.toNat 0
def f3 (op:Int):Int:=f3L.getD op.toNat 0
def f7 (op:Int):Int:=f7L.getD op.toNat 0
theorem getD_bd (l:List Int) (m:Int) (hm:0<=m) (h : ∀n,n<l.length->0<=l.getD n 0/\l.getD n 0<=m) (n:Nat):0<=l.getD n 0/\l.getD n 0<=m:=by
 by_cases hn:n<l.length
 ·exact h n hn
 ·have e:l.getD n 0=0:=by simp [List.getD,List.getElem?_eq_none (show l.length<=n by omega)]
  rw [e];omega
theorem oc_bd (op:Int):0<=oc op/\oc op<=127:=getD_bd ocL 127 (by decide) (by decide) _
theorem f3_bd (op:Int):0<=f3 op/\f3 op<=7:=getD_bd f3L 7 (by decide) (by decide) _
theorem f7_bd (op:Int):0<=f7 op/\f7 op<=127:=getD_bd f7L 127 (by decide) (by decide) _
theorem oc_pos (op:Int) (h:1<=op/\op<=34):0<oc op:=by
 have : ∀n:Nat,n<35->0<n->0<ocL.getD n 0:=by decide
 exact this op.toNat (by omega) (by omega)
theorem shapeU (op:Int) (w:World) (h:op=1) :
  Calls Tryz.prog 43 #[.int .i64 op] w fun e w'=>e = .returned (.int .u8 85)/\w'=w:=by
 go_enter Tryz.func43,Tryz.ntmps43
 go_wp2
 go_ret
 exact ⟨rfl,rfl⟩
theorem boundsU (op:Int) (w:World) (h:op=1) :
  Calls Tryz.prog 64 #[.int .i64 op] w fun e w'=>e = .returned (.tuple #[.int .i64 (0),.int .i64 (1048575)])/\w'=w:=by
 have HH:=hide h
 clear h
 go_enter Tryz.func64,Tryz.ntmps64
 go_wp2_with (go_at_call 43;refine (shapeU _ _ HH.out).mono ?_;rintro e w' ⟨rfl,rfl⟩)
 go_ret2
 exact ⟨rfl,rfl⟩
theorem shapeJ (op:Int) (w:World) (h:op=2) :
  Calls Tryz.prog 43 #[.int .i64 op] w fun e w'=>e = .returned (.int .u8 74)/\w'=w:=by
 go_enter Tryz.func43,Tryz.ntmps43
 go_wp2
 go_ret
 exact ⟨rfl,rfl⟩
theorem boundsJ (op:Int) (w:World) (h:op=2) :
  Calls Tryz.prog 64 #[.int .i64 op] w fun e w'=>e = .returned (.tuple #[.int .i64 (-1048576),.int .i64 (1048574)])/\w'=w:=by
 have HH:=hide h
 clear h
 go_enter Tryz.func64,Tryz.ntmps64
 go_wp2_with (go_at_call 43;refine (shapeJ _ _ HH.out).mono ?_;rintro e w' ⟨rfl,rfl⟩)
 go_ret2
 exact ⟨rfl,rfl⟩
theorem shapeB (op:Int) (w:World) (h:4<=op/\op<=9) :
  Calls Tryz.prog 43 #[.int .i64 op] w fun e w'=>e = .returned (.int .u8 66)/\w'=w:=by
 go_enter Tryz.func43,Tryz.ntmps43
 go_wp2
 go_ret
 exact ⟨rfl,rfl⟩
theorem boundsB (op:Int) (w:World) (h:4<=op/\op<=9) :
  Calls Tryz.prog 64 #[.int .i64 op] w fun e w'=>e = .returned (.tuple #[.int .i64 (-4096),.int .i64 (4094)])/\w'=w:=by
 have HH:=hide h
 clear h
 go_enter Tryz.func64,Tryz.ntmps64
 go_wp2_with (go_at_call 43;refine (shapeB _ _ HH.out).mono ?_;rintro e w' ⟨rfl,rfl⟩)
 go_ret2
 exact ⟨rfl,rfl⟩
theorem shapeS (op:Int) (w:World) (h:op=11) :
  Calls Tryz.prog 43 #[.int .i64 op] w fun e w'=>e = .returned (.int .u8 83)/\w'=w:=by
 go_enter Tryz.func43,Tryz.ntmps43
 go_wp2
 go_ret
 exact ⟨rfl,rfl⟩
theorem boundsS (op:Int) (w:World) (h:op=11) :
  Calls Tryz.prog 64 #[.int .i64 op] w fun e w'=>e = .returned (.tuple #[.int .i64 (-2048),.int .i64 (2047)])/\w'=w:=by
 have HH:=hide h
 clear h
 go_enter Tryz.func64,Tryz.ntmps64
 go_wp2_with (go_at_call 43;refine (shapeS _ _ HH.out).mono ?_;rintro e w' ⟨rfl,rfl⟩)
 go_ret2
 exact ⟨rfl,rfl⟩
theorem shapeH (op:Int) (w:World) (h:18<=op/\op<=20) :
  Calls Tryz.prog 43 #[.int .i64 op] w fun e w'=>e = .returned (.int .u8 72)/\w'=w:=by
 go_enter Tryz.func43,Tryz.ntmps43
 go_wp2
 go_ret
 exact ⟨rfl,rfl⟩
theorem boundsH (op:Int) (w:World) (h:18<=op/\op<=20) :
  Calls Tryz.prog 64 #[.int .i64 op] w fun e w'=>e = .returned (.tuple #[.int .i64 (0),.int .i64 (31)])/\w'=w:=by
 have HH:=hide h
 clear h
 go_enter Tryz.func64,Tryz.ntmps64
 go_wp2_with (go_at_call 43;refine (shapeH _ _ HH.out).mono ?_;rintro e w' ⟨rfl,rfl⟩)
 go_ret2
 exact ⟨rfl,rfl⟩
theorem shapeR (op:Int) (w:World) (h:21<=op/\op<=33) :
  Calls Tryz.prog 43 #[.int .i64 op] w fun e w'=>e = .returned (.int .u8 82)/\w'=w:=by
 go_enter Tryz.func43,Tryz.ntmps43
 go_wp2
 go_ret
 exact ⟨rfl,rfl⟩
theorem boundsR (op:Int) (w:World) (h:21<=op/\op<=33) :
  Calls Tryz.prog 64 #[.int .i64 op] w fun e w'=>e = .returned (.tuple #[.int .i64 (0),.int .i64 (0)])/\w'=w:=by
 have HH:=hide h
 clear h
 go_enter Tryz.func64,Tryz.ntmps64
 go_wp2_with (go_at_call 43;refine (shapeR _ _ HH.out).mono ?_;rintro e w' ⟨rfl,rfl⟩)
 go_ret2
 exact ⟨rfl,rfl⟩
theorem shapeE (op:Int) (w:World) (h:op=34) :
  Calls Tryz.prog 43 #[.int .i64 op] w fun e w'=>e = .returned (.int .u8 69)/\w'=w:=by
 go_enter Tryz.func43,Tryz.ntmps43
 go_wp2
 go_ret
 exact ⟨rfl,rfl⟩
theorem boundsE (op:Int) (w:World) (h:op=34) :
  Calls Tryz.prog 64 #[.int .i64 op] w fun e w'=>e = .returned (.tuple #[.int .i64 (0),.int .i64 (0)])/\w'=w:=by
 have HH:=hide h
 clear h
 go_enter Tryz.func64,Tryz.ntmps64
 go_wp2_with (go_at_call 43;refine (shapeE _ _ HH.out).mono ?_;rintro e w' ⟨rfl,rfl⟩)
 go_ret2
 exact ⟨rfl,rfl⟩
theorem shapeI (op:Int) (w:World) (h:op=3∨op=10∨(12<=op/\op<=17)) :
  Calls Tryz.prog 43 #[.int .i64 op] w fun e w'=>e = .returned (.int .u8 73)/\w'=w:=by
 rcases h with h | h | h
 all_goals
  go_enter Tryz.func43,Tryz.ntmps43
  go_wp2
  go_ret
  exact ⟨rfl,rfl⟩
theorem boundsI (op:Int) (w:World) (h:op=3∨op=10∨(12<=op/\op<=17)) :
  Calls Tryz.prog 64 #[.int .i64 op] w fun e w'=>e = .returned (.tuple #[.int .i64 (-2048),.int .i64 (2047)])/\w'=w:=by
 have HH:=hide h
 clear h
 go_enter Tryz.func64,Tryz.ntmps64
 go_wp2_with (go_at_call 43;refine (shapeI _ _ HH.out).mono ?_;rintro e w' ⟨rfl,rfl⟩)
 go_ret2
 exact ⟨rfl,rfl⟩
def btL:List (Int × Int × Int):=[(0,11,20),(0,4,7),(5,11,25),(11,11,7),(1,4,8),(5,10,25),(12,12,31),(12,19,12),(11,11,20),(1,10,21),(20,20,31)]
def ptL:List (Int × Int × Int):=[(7,11,0),(15,19,0),(20,24,0),(20,31,0),(25,31,5),(7,7,11),(8,11,1),(25,30,5),(31,31,12),(12,31,0),(12,19,12),(20,20,11),(21,30,1),(31,31,20)]
theorem bits_any (x lo hi a:Int) (w:World) (h:(lo,hi,a)∈btL) :
  Calls Tryz.prog 48 #[.int .i64 x,.int .i64 lo,.int .i64 hi,.int .i64 a] w fun e w'=>e = .returned (.int .u32 (mvi (x % 4294967296) lo (hi-lo+1) a))/\w'=w:=by
 simp only [btL,List.mem_cons,Prod.mk.injEq,List.not_mem_nil,or_false] at h
 rcases h with ⟨rfl,rfl,rfl⟩ | ⟨rfl,rfl,rfl⟩ | ⟨rfl,rfl,rfl⟩ | ⟨rfl,rfl,rfl⟩ | ⟨rfl,rfl,rfl⟩ | ⟨rfl,rfl,rfl⟩ | ⟨rfl,rfl,rfl⟩ | ⟨rfl,rfl,rfl⟩ | ⟨rfl,rfl,rfl⟩ | ⟨rfl,rfl,rfl⟩ | ⟨rfl,rfl,rfl⟩
 all_goals
  go_enter Tryz.func48,Tryz.ntmps48
  go_wp2
  go_ret
  exact ⟨retN_int (by unfold mvi;simp only [Int.reduceSub,Int.reduceAdd,Int.reduceToNat,Int.reducePow];omega),rfl⟩
theorem part_any (x lo hi a:Int) (w:World) (h0:0<=x/\x<=4294967295) (h:(lo,hi,a)∈ptL) :
  Calls Tryz.prog 45 #[.int .u32 x,.int .i64 lo,.int .i64 hi,.int .i64 a] w fun e w'=>e = .returned (.int .i64 (mvi x lo (hi-lo+1) a))/\w'=w:=by
 simp only [ptL,List.mem_cons,Prod.mk.injEq,List.not_mem_nil,or_false] at h
 rcases h with ⟨rfl,rfl,rfl⟩ | ⟨rfl,rfl,rfl⟩ | ⟨rfl,rfl,rfl⟩ | ⟨rfl,rfl,rfl⟩ | ⟨rfl,rfl,rfl⟩ | ⟨rfl,rfl,rfl⟩ | ⟨rfl,rfl,rfl⟩ | ⟨rfl,rfl,rfl⟩ | ⟨rfl,rfl,rfl⟩ | ⟨rfl,rfl,rfl⟩ | ⟨rfl,rfl,rfl⟩ | ⟨rfl,rfl,rfl⟩ | ⟨rfl,rfl,rfl⟩ | ⟨rfl,rfl,rfl⟩
 all_goals
  go_enter Tryz.func45,Tryz.ntmps45
  go_wp2
  go_ret
  exact ⟨retN_int (by unfold mvi;simp only [Int.reduceSub,Int.reduceAdd,Int.reduceToNat,Int.reducePow];omega),rfl⟩
theorem signed_any (x b:Int) (w:World) (h0:0<=x/\x<=4294967295) (h:b=12∨b=13∨b=21) :
  Calls Tryz.prog 46 #[.int .i64 x,.int .i64 b] w fun e w'=>e = .returned (.int .i64 (sg x (2 ^ (b-1).toNat) (2 ^ b.toNat)))/\w'=w:=by
 rcases h with rfl | rfl | rfl
 all_goals
  go_enter Tryz.func46,Tryz.ntmps46
  go_wp2
  all_goals go_ret
  all_goals exact ⟨retN_int (by unfold sg;simp only [Int.reduceSub,Int.reduceToNat,Int.reducePow];split <;> omega),rfl⟩
end
section
open Go.RowKit
def inB (x lo hi : Int) : Bool := decide (lo ≤ x ∧ x ≤ hi)
theorem ret_bool' {a b : Bool} (h : a = b) : Ending.returned (.bool a) = .returned (.bool b) := by rw [h]
theorem inN_any (x lo hi : Int) (w : World) : Calls Tryz.prog 20 #[.int .i64 x, .int .i64 lo, .int .i64 hi] w fun e w' => e = .returned (.bool (inB x lo hi)) ∧ w' = w := by
 go_enter Tryz.func20, Tryz.ntmps20
 go_wp2
 all_goals go_ret
 all_goals exact ⟨ret_bool' (by unfold inB; rw [Bool.eq_iff_iff]; simp; omega), rfl⟩
theorem tm2 (x : Int) : (x.tmod 2 = 0 ∧ x % 2 = 0) ∨ (¬ x.tmod 2 = 0 ∧ ¬ x % 2 = 0) := by
 rcases Int.le_total 0 x with h | h
 ·rw [Int.tmod_eq_emod_of_nonneg h]; omega
 ·obtain ⟨z, rfl⟩ : ∃ z, x = -z := ⟨-x, by omega⟩
  rw [Int.neg_tmod, Int.tmod_eq_emod_of_nonneg (by omega)]; omega
theorem spNo (op rd s1 s2 im : Int) (w : World) (h : op < 1 ∨ 34 < op) :
  Calls Tryz.prog 42 #[.agg #[.int .i64 op, .int .i64 rd, .int .i64 s1, .int .i64 s2, .int .i64 im]] w fun e w' => e = .returned (.bool false) ∧ Below w.heap.size w w' := by
 rcases h with h | h
 all_goals
  go_enter Tryz.func42, Tryz.ntmps42
  go_wp2
  go_ret
  exact ⟨rfl, (Below.refl _ _).alloc (Nat.le_refl _) _⟩
def vU (rd s1 s2 im : Int) : Bool := decide (0 ≤ rd ∧ rd ≤ 31 ∧ s1 = 0 ∧ s2 = 0 ∧ 0 ≤ im ∧ im ≤ 1048575)
set_option maxHeartbeats 2000000 in
theorem spU (op rd s1 s2 im : Int) (w : World) (h : op = 1) :
  Calls Tryz.prog 42 #[.agg #[.int .i64 op, .int .i64 rd, .int .i64 s1, .int .i64 s2, .int .i64 im]] w fun e w' => e = .returned (.bool (vU rd s1 s2 im)) ∧ Below w.heap.size w w' := by
 have HH : Hid _ := h
 have hr1 : 1 ≤ op := by omega
 have hr2 : op ≤ 34 := by omega
 clear h
 go_enter Tryz.func42, Tryz.ntmps42
 go_wp2_with (first
  | (go_at_call 20; refine (inN_any _ _ _ _).mono ?_; rintro e w' ⟨rfl, rfl⟩)
  | (go_at_call 43; refine (shapeU _ _ HH.out).mono ?_; rintro e w' ⟨rfl, rfl⟩)
  | (go_at_call 64; refine (boundsU _ _ HH.out).mono ?_; rintro e w' ⟨rfl, rfl⟩))
 all_goals go_ret
 all_goals refine ⟨ret_bool' ?_, (Below.refl _ _).alloc (Nat.le_refl _) _⟩
 all_goals (clear HH; have T := tm2 im; unfold vU; rw [Bool.eq_iff_iff])
 all_goals (simp only [inB, decide_eq_true_eq, decide_eq_false_iff_not, beq_iff_eq, bne_iff_ne, Bool.not_eq_eq_eq_not, Bool.not_true, Bool.not_false, Bool.or_eq_true, beq_eq_false_iff_ne, bne_eq_false_iff_eq, ne_eq, Bool.false_eq_true, true_iff, false_iff, iff_true] at *; omega)
def vJ (rd s1 s2 im : Int) : Bool := decide (0 ≤ rd ∧ rd ≤ 31 ∧ s1 = 0 ∧ s2 = 0 ∧ -1048576 ≤ im ∧ im ≤ 1048574 ∧ im % 2 = 0)
set_option maxHeartbeats 2000000 in
theorem spJ (op rd s1 s2 im : Int) (w : World) (h : op = 2) :
  Calls Tryz.prog 42 #[.agg #[.int .i64 op, .int .i64 rd, .int .i64 s1, .int .i64 s2, .int .i64 im]] w fun e w' => e = .returned (.bool (vJ rd s1 s2 im)) ∧ Below w.heap.size w w' := by
 have HH : Hid _ := h
 have hr1 : 1 ≤ op := by omega
 have hr2 : op ≤ 34 := by omega
 clear h
 go_enter Tryz.func42, Tryz.ntmps42
 go_wp2_with (first
  | (go_at_call 20; refine (inN_any _ _ _ _).mono ?_; rintro e w' ⟨rfl, rfl⟩)
  | (go_at_call 43; refine (shapeJ _ _ HH.out).mono ?_; rintro e w' ⟨rfl, rfl⟩)
  | (go_at_call 64; refine (boundsJ _ _ HH.out).mono ?_; rintro e w' ⟨rfl, rfl⟩))
 all_goals go_ret
 all_goals refine ⟨ret_bool' ?_, (Below.refl _ _).alloc (Nat.le_refl _) _⟩
 all_goals (clear HH; have T := tm2 im; unfold vJ; rw [Bool.eq_iff_iff])
 all_goals (simp only [inB, decide_eq_true_eq, decide_eq_false_iff_not, beq_iff_eq, bne_iff_ne, Bool.not_eq_eq_eq_not, Bool.not_true, Bool.not_false, Bool.or_eq_true, beq_eq_false_iff_ne, bne_eq_false_iff_eq, ne_eq, Bool.false_eq_true, true_iff, false_iff, iff_true] at *; omega)
def vB (rd s1 s2 im : Int) : Bool := decide (rd = 0 ∧ 0 ≤ s1 ∧ s1 ≤ 31 ∧ 0 ≤ s2 ∧ s2 ≤ 31 ∧ -4096 ≤ im ∧ im ≤ 4094 ∧ im % 2 = 0)
set_option maxHeartbeats 2000000 in
theorem spB (op rd s1 s2 im : Int) (w : World) (h : 4 ≤ op ∧ op ≤ 9) :
  Calls Tryz.prog 42 #[.agg #[.int .i64 op, .int .i64 rd, .int .i64 s1, .int .i64 s2, .int .i64 im]] w fun e w' => e = .returned (.bool (vB rd s1 s2 im)) ∧ Below w.heap.size w w' := by
 have HH : Hid _ := h
 have hr1 : 1 ≤ op := by omega
 have hr2 : op ≤ 34 := by omega
 clear h
 go_enter Tryz.func42, Tryz.ntmps42
 go_wp2_with (first
  | (go_at_call 20; refine (inN_any _ _ _ _).mono ?_; rintro e w' ⟨rfl, rfl⟩)
  | (go_at_call 43; refine (shapeB _ _ HH.out).mono ?_; rintro e w' ⟨rfl, rfl⟩)
  | (go_at_call 64; refine (boundsB _ _ HH.out).mono ?_; rintro e w' ⟨rfl, rfl⟩))
 all_goals go_ret
 all_goals refine ⟨ret_bool' ?_, (Below.refl _ _).alloc (Nat.le_refl _) _⟩
 all_goals (clear HH; have T := tm2 im; unfold vB; rw [Bool.eq_iff_iff])
 all_goals (simp only [inB, decide_eq_true_eq, decide_eq_false_iff_not, beq_iff_eq, bne_iff_ne, Bool.not_eq_eq_eq_not, Bool.not_true, Bool.not_false, Bool.or_eq_true, beq_eq_false_iff_ne, bne_eq_false_iff_eq, ne_eq, Bool.false_eq_true, true_iff, false_iff, iff_true] at *; omega)
def vS (rd s1 s2 im : Int) : Bool := decide (rd = 0 ∧ 0 ≤ s1 ∧ s1 ≤ 31 ∧ 0 ≤ s2 ∧ s2 ≤ 31 ∧ -2048 ≤ im ∧ im ≤ 2047)
set_option maxHeartbeats 2000000 in
theorem spS (op rd s1 s2 im : Int) (w : World) (h : op = 11) :
  Calls Tryz.prog 42 #[.agg #[.int .i64 op, .int .i64 rd, .int .i64 s1, .int .i64 s2, .int .i64 im]] w fun e w' => e = .returned (.bool (vS rd s1 s2 im)) ∧ Below w.heap.size w w' := by
 have HH : Hid _ := h
 have hr1 : 1 ≤ op := by omega
 have hr2 : op ≤ 34 := by omega
 clear h
 go_enter Tryz.func42, Tryz.ntmps42
 go_wp2_with (first
  | (go_at_call 20; refine (inN_any _ _ _ _).mono ?_; rintro e w' ⟨rfl, rfl⟩)
  | (go_at_call 43; refine (shapeS _ _ HH.out).mono ?_; rintro e w' ⟨rfl, rfl⟩)
  | (go_at_call 64; refine (boundsS _ _ HH.out).mono ?_; rintro e w' ⟨rfl, rfl⟩))
 all_goals go_ret
 all_goals refine ⟨ret_bool' ?_, (Below.refl _ _).alloc (Nat.le_refl _) _⟩
 all_goals (clear HH; have T := tm2 im; unfold vS; rw [Bool.eq_iff_iff])
 all_goals (simp only [inB, decide_eq_true_eq, decide_eq_false_iff_not, beq_iff_eq, bne_iff_ne, Bool.not_eq_eq_eq_not, Bool.not_true, Bool.not_false, Bool.or_eq_true, beq_eq_false_iff_ne, bne_eq_false_iff_eq, ne_eq, Bool.false_eq_true, true_iff, false_iff, iff_true] at *; omega)
def vH (rd s1 s2 im : Int) : Bool := decide (0 ≤ rd ∧ rd ≤ 31 ∧ 0 ≤ s1 ∧ s1 ≤ 31 ∧ s2 = 0 ∧ 0 ≤ im ∧ im ≤ 31)
set_option maxHeartbeats 2000000 in
theorem spH (op rd s1 s2 im : Int) (w : World) (h : 18 ≤ op ∧ op ≤ 20) :
  Calls Tryz.prog 42 #[.agg #[.int .i64 op, .int .i64 rd, .int .i64 s1, .int .i64 s2, .int .i64 im]] w fun e w' => e = .returned (.bool (vH rd s1 s2 im)) ∧ Below w.heap.size w w' := by
 have HH : Hid _ := h
 have hr1 : 1 ≤ op := by omega
 have hr2 : op ≤ 34 := by omega
 clear h
 go_enter Tryz.func42, Tryz.ntmps42
 go_wp2_with (first
  | (go_at_call 20; refine (inN_any _ _ _ _).mono ?_; rintro e w' ⟨rfl, rfl⟩)
  | (go_at_call 43; refine (shapeH _ _ HH.out).mono ?_; rintro e w' ⟨rfl, rfl⟩)
  | (go_at_call 64; refine (boundsH _ _ HH.out).mono ?_; rintro e w' ⟨rfl, rfl⟩))
 all_goals go_ret
 all_goals refine ⟨ret_bool' ?_, (Below.refl _ _).alloc (Nat.le_refl _) _⟩
 all_goals (clear HH; have T := tm2 im; unfold vH; rw [Bool.eq_iff_iff])
 all_goals (simp only [inB, decide_eq_true_eq, decide_eq_false_iff_not, beq_iff_eq, bne_iff_ne, Bool.not_eq_eq_eq_not, Bool.not_true, Bool.not_false, Bool.or_eq_true, beq_eq_false_iff_ne, bne_eq_false_iff_eq, ne_eq, Bool.false_eq_true, true_iff, false_iff, iff_true] at *; omega)
def vR (rd s1 s2 im : Int) : Bool := decide (0 ≤ rd ∧ rd ≤ 31 ∧ 0 ≤ s1 ∧ s1 ≤ 31 ∧ 0 ≤ s2 ∧ s2 ≤ 31 ∧ im = 0)
set_option maxHeartbeats 2000000 in
theorem spR (op rd s1 s2 im : Int) (w : World) (h : 21 ≤ op ∧ op ≤ 33) :
  Calls Tryz.prog 42 #[.agg #[.int .i64 op, .int .i64 rd, .int .i64 s1, .int .i64 s2, .int .i64 im]] w fun e w' => e = .returned (.bool (vR rd s1 s2 im)) ∧ Below w.heap.size w w' := by
 have HH : Hid _ := h
 have hr1 : 1 ≤ op := by omega
 have hr2 : op ≤ 34 := by omega
 clear h
 go_enter Tryz.func42, Tryz.ntmps42
 go_wp2_with (first
  | (go_at_call 20; refine (inN_any _ _ _ _).mono ?_; rintro e w' ⟨rfl, rfl⟩)
  | (go_at_call 43; refine (shapeR _ _ HH.out).mono ?_; rintro e w' ⟨rfl, rfl⟩)
  | (go_at_call 64; refine (boundsR _ _ HH.out).mono ?_; rintro e w' ⟨rfl, rfl⟩))
 all_goals go_ret
 all_goals refine ⟨ret_bool' ?_, (Below.refl _ _).alloc (Nat.le_refl _) _⟩
 all_goals (clear HH; have T := tm2 im; unfold vR; rw [Bool.eq_iff_iff])
 all_goals (simp only [inB, decide_eq_true_eq, decide_eq_false_iff_not, beq_iff_eq, bne_iff_ne, Bool.not_eq_eq_eq_not, Bool.not_true, Bool.not_false, Bool.or_eq_true, beq_eq_false_iff_ne, bne_eq_false_iff_eq, ne_eq, Bool.false_eq_true, true_iff, false_iff, iff_true] at *; omega)
def vE (rd s1 s2 im : Int) : Bool := decide (rd = 0 ∧ s1 = 0 ∧ s2 = 0 ∧ im = 0)
set_option maxHeartbeats 2000000 in
theorem spE (op rd s1 s2 im : Int) (w : World) (h : op = 34) :
  Calls Tryz.prog 42 #[.agg #[.int .i64 op, .int .i64 rd, .int .i64 s1, .int .i64 s2, .int .i64 im]] w fun e w' => e = .returned (.bool (vE rd s1 s2 im)) ∧ Below w.heap.size w w' := by
 have HH : Hid _ := h
 have hr1 : 1 ≤ op := by omega
 have hr2 : op ≤ 34 := by omega
 clear h
 go_enter Tryz.func42, Tryz.ntmps42
 go_wp2_with (first
  | (go_at_call 20; refine (inN_any _ _ _ _).mono ?_; rintro e w' ⟨rfl, rfl⟩)
  | (go_at_call 43; refine (shapeE _ _ HH.out).mono ?_; rintro e w' ⟨rfl, rfl⟩)
  | (go_at_call 64; refine (boundsE _ _ HH.out).mono ?_; rintro e w' ⟨rfl, rfl⟩))
 all_goals go_ret
 all_goals refine ⟨ret_bool' ?_, (Below.refl _ _).alloc (Nat.le_refl _) _⟩
 all_goals (clear HH; have T := tm2 im; unfold vE; rw [Bool.eq_iff_iff])
 all_goals (simp only [inB, decide_eq_true_eq, decide_eq_false_iff_not, beq_iff_eq, bne_iff_ne, Bool.not_eq_eq_eq_not, Bool.not_true, Bool.not_false, Bool.or_eq_true, beq_eq_false_iff_ne, bne_eq_false_iff_eq, ne_eq, Bool.false_eq_true, true_iff, false_iff, iff_true] at *; omega)
def vI (rd s1 s2 im : Int) : Bool := decide (0 ≤ rd ∧ rd ≤ 31 ∧ 0 ≤ s1 ∧ s1 ≤ 31 ∧ s2 = 0 ∧ -2048 ≤ im ∧ im ≤ 2047)
set_option maxHeartbeats 2000000 in
theorem spI (op rd s1 s2 im : Int) (w : World) (h : op = 3 ∨ op = 10 ∨ (12 ≤ op ∧ op ≤ 17)) :
  Calls Tryz.prog 42 #[.agg #[.int .i64 op, .int .i64 rd, .int .i64 s1, .int .i64 s2, .int .i64 im]] w fun e w' => e = .returned (.bool (vI rd s1 s2 im)) ∧ Below w.heap.size w w' := by
 have HH : Hid _ := h
 have hr1 : 1 ≤ op := by omega
 have hr2 : op ≤ 34 := by omega
 clear h
 go_enter Tryz.func42, Tryz.ntmps42
 go_wp2_with (first
  | (go_at_call 20; refine (inN_any _ _ _ _).mono ?_; rintro e w' ⟨rfl, rfl⟩)
  | (go_at_call 43; refine (shapeI _ _ HH.out).mono ?_; rintro e w' ⟨rfl, rfl⟩)
  | (go_at_call 64; refine (boundsI _ _ HH.out).mono ?_; rintro e w' ⟨rfl, rfl⟩))
 all_goals go_ret
 all_goals refine ⟨ret_bool' ?_, (Below.refl _ _).alloc (Nat.le_refl _) _⟩
 all_goals (clear HH; have T := tm2 im; unfold vI; rw [Bool.eq_iff_iff])
 all_goals (simp only [inB, decide_eq_true_eq, decide_eq_false_iff_not, beq_iff_eq, bne_iff_ne, Bool.not_eq_eq_eq_not, Bool.not_true, Bool.not_false, Bool.or_eq_true, beq_eq_false_iff_ne, bne_eq_false_iff_eq, ne_eq, Bool.false_eq_true, true_iff, false_iff, iff_true] at *; omega)
end
section
open Go.RowKit
def CodesAt (w w' : World) (op : Int) (e : Ending) : Prop :=
 ∃ g, e = .returned (.slice (some ⟨g, 0, none⟩) 3 3) ∧ g < w'.heap.size ∧ w'.cell? ⟨g, 0, none⟩ = some (.int .i64 (oc op)) ∧ w'.cell? ⟨g, 1, none⟩ = some (.int .i64 (f3 op)) ∧ w'.cell? ⟨g, 2, none⟩ = some (.int .i64 (f7 op)) ∧ Below w.heap.size w w'
end
end Go.Proofs.YtpdndlghjldhjaaGreat
