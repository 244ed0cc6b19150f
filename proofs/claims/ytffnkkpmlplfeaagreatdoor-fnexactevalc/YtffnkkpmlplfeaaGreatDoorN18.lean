import Derived.Test.YtffnkkpmlplfeaaGreatDoorN17
namespace Go.Proofs.YtffnkkpmlplfeaaGreatDoor
open Go.Proofs.Tryz
set_option linter.all false
set_option maxRecDepth 100000
set_option maxHeartbeats 16000000
section
open Go.RowKit
theorem gstmt4 (s:ByteArray) (ve vf:Value) (es fs:List Nd) (t l:Int) (w:World) (hle:es.length<=2000) (hlf:fs.length<=2000) (he:Nodes w ve es) (hf:Nodes w vf fs) :
  Calls prog 126 #[.agg #[.int .i64 4,.string s,ve,vf,.int .i64 t,.int .i64 l]] w fun e w'=>e=.returned (.bool (gstmtB ⟨4,s,es,fs,t,l⟩))/\Below w.heap.size w w':=by
 obtain ⟨HE,HF⟩:=h2 he hf;obtain ⟨ae,ce,rfl,-,-,-⟩:=he;obtain ⟨af,cf,rfl,-,-,-⟩:=hf;have HD:Hid (∀b:Bool,(decide (es.length<=2000) && b)=b):=fun b=>by simp [hle]
 have HDF:Hid (∀b:Bool,(decide (fs.length<=2000) && b)=b):=fun b=>by simp [hlf]
 go_enter func126,ntmps126;go_wp2_with (go_at_call 30;refine (in_any _ _ _ _).mono ?_;rintro e w' ⟨rfl,rfl⟩)
 refine (gexpr_any _ es _ (by omega) (HE.out.below (bel_a _ _))).mono ?_;rintro e w1 ⟨rfl,hb1⟩;rw [HD.out];simp only [World.size_alloc] at hb1;have hB1:=one_below hb1;obtain ⟨x0,x1,x2,x3,x4,x5⟩:=box6 hb1;cases ho:oneB es
 ·go_wp2;go_ret;exact ⟨ret_bool (by simp only [gstmtB,stmtB];simp [ho]),hB1⟩
 cases hn:nameB s
 case true=>
  go_wp2_with (go_at_call 87;refine (name_any _ _).mono ?_;rintro e w' ⟨rfl,rfl⟩;rw [hn])
  go_ret;exact ⟨ret_bool (by simp only [gstmtB,stmtB];simp [ho,nameB_empty hn,-List.beq_nil_eq]),hB1⟩
 cases hs:(s.toList == [])
 ·have hs1:(s.toList != [])=true:=by rw [bne,hs];rfl
  go_wp2_with (go_at_call 87;refine (name_any _ _).mono ?_;rintro e w' ⟨rfl,rfl⟩;rw [hn])
  go_ret;exact ⟨ret_bool (by simp only [gstmtB,stmtB];simp [ho,hs,-List.beq_nil_eq]),hB1⟩
 have hs1:(s.toList != [])=false:=by rw [bne,hs];rfl
 by_cases hf0:0<fs.length
 ·go_wp2_with (go_at_call 87;refine (name_any _ _).mono ?_;rintro e w' ⟨rfl,rfl⟩;rw [hn])
  go_ret;refine ⟨ret_bool ?_,hB1⟩;have:(fs.length == 0)=false:=by simp only [beq_eq_false_iff_ne];omega
  simp only [gstmtB,stmtB,this];simp [ho,hs,-List.beq_nil_eq]
 have HF0:Hid ((fs.length == 0)=true):=by show _=_;simp only [beq_iff_eq];omega
 by_cases ht:t<0
 ·go_wp2_with (go_at_call 87;refine (name_any _ _).mono ?_;rintro e w' ⟨rfl,rfl⟩;rw [hn])
  all_goals go_ret
  all_goals refine ⟨ret_bool ?_,hB1⟩
  all_goals (simp only [gstmtB,stmtB,HF0.out];simp [ho,hs,-List.beq_nil_eq] <;> omega)
 by_cases hl:l<0
 ·go_wp2_with (go_at_call 87;refine (name_any _ _).mono ?_;rintro e w' ⟨rfl,rfl⟩;rw [hn])
  all_goals go_ret
  all_goals refine ⟨ret_bool ?_,hB1⟩
  all_goals (simp only [gstmtB,stmtB,HF0.out];simp [ho,hs,-List.beq_nil_eq] <;> omega)
 go_wp2_with (go_at_call 87;refine (name_any _ _).mono ?_;rintro e w' ⟨rfl,rfl⟩;rw [hn])
 all_goals go_ret
 all_goals refine ⟨ret_bool ?_,hB1⟩
 all_goals have ht':0<=t:=by omega
 all_goals have hl':0<=l:=by omega
 all_goals (simp only [gstmtB,stmtB,HF0.out];simp [ho,hs,-List.beq_nil_eq,ht',hl'])
theorem gstmt5 (s:ByteArray) (ve vf:Value) (es fs:List Nd) (t l:Int) (w:World) (hle:es.length<=2000) (hlf:fs.length<=2000) (he:Nodes w ve es) (hf:Nodes w vf fs) :
  Calls prog 126 #[.agg #[.int .i64 5,.string s,ve,vf,.int .i64 t,.int .i64 l]] w fun e w'=>e=.returned (.bool (gstmtB ⟨5,s,es,fs,t,l⟩))/\Below w.heap.size w w':=by
 obtain ⟨HE,HF⟩:=h2 he hf;obtain ⟨ae,ce,rfl,-,-,-⟩:=he;obtain ⟨af,cf,rfl,-,-,-⟩:=hf;have HD:Hid (∀b:Bool,(decide (es.length<=2000) && b)=b):=fun b=>by simp [hle]
 have HDF:Hid (∀b:Bool,(decide (fs.length<=2000) && b)=b):=fun b=>by simp [hlf]
 go_enter func126,ntmps126;go_wp2_with (go_at_call 30;refine (in_any _ _ _ _).mono ?_;rintro e w' ⟨rfl,rfl⟩)
 refine (gexpr_any _ es _ (by omega) (HE.out.below (bel_a _ _))).mono ?_;rintro e w1 ⟨rfl,hb1⟩;rw [HD.out];simp only [World.size_alloc] at hb1;have hB1:=one_below hb1;obtain ⟨x0,x1,x2,x3,x4,x5⟩:=box6 hb1;cases ho:oneB es
 ·go_wp2;go_ret;exact ⟨ret_bool (by simp only [gstmtB,stmtB];simp [ho]),hB1⟩
 cases hn:nameB s
 case true=>
  go_wp2_with (go_at_call 87;refine (name_any _ _).mono ?_;rintro e w' ⟨rfl,rfl⟩;rw [hn])
  go_ret;exact ⟨ret_bool (by simp only [gstmtB,stmtB];simp [ho,nameB_empty hn,-List.beq_nil_eq]),hB1⟩
 cases hs:(s.toList == [])
 ·have hs1:(s.toList != [])=true:=by rw [bne,hs];rfl
  go_wp2_with (go_at_call 87;refine (name_any _ _).mono ?_;rintro e w' ⟨rfl,rfl⟩;rw [hn])
  go_ret;exact ⟨ret_bool (by simp only [gstmtB,stmtB];simp [ho,hs,-List.beq_nil_eq]),hB1⟩
 have hs1:(s.toList != [])=false:=by rw [bne,hs];rfl
 by_cases hf0:0<fs.length
 ·go_wp2_with (go_at_call 87;refine (name_any _ _).mono ?_;rintro e w' ⟨rfl,rfl⟩;rw [hn])
  go_ret;refine ⟨ret_bool ?_,hB1⟩;have:(fs.length == 0)=false:=by simp only [beq_eq_false_iff_ne];omega
  simp only [gstmtB,stmtB,this];simp [ho,hs,-List.beq_nil_eq]
 have HF0:Hid ((fs.length == 0)=true):=by show _=_;simp only [beq_iff_eq];omega
 by_cases ht:t<0
 ·go_wp2_with (go_at_call 87;refine (name_any _ _).mono ?_;rintro e w' ⟨rfl,rfl⟩;rw [hn])
  all_goals go_ret
  all_goals refine ⟨ret_bool ?_,hB1⟩
  all_goals (simp only [gstmtB,stmtB,HF0.out];simp [ho,hs,-List.beq_nil_eq] <;> omega)
 by_cases hl:l<0
 ·go_wp2_with (go_at_call 87;refine (name_any _ _).mono ?_;rintro e w' ⟨rfl,rfl⟩;rw [hn])
  all_goals go_ret
  all_goals refine ⟨ret_bool ?_,hB1⟩
  all_goals (simp only [gstmtB,stmtB,HF0.out];simp [ho,hs,-List.beq_nil_eq] <;> omega)
 by_cases hl2:0<l
 ·go_wp2_with (go_at_call 87;refine (name_any _ _).mono ?_;rintro e w' ⟨rfl,rfl⟩;rw [hn])
  all_goals go_ret
  all_goals refine ⟨ret_bool ?_,hB1⟩
  all_goals (simp only [gstmtB,stmtB,HF0.out];simp [ho,hs,-List.beq_nil_eq] <;> omega)
 go_wp2_with (go_at_call 87;refine (name_any _ _).mono ?_;rintro e w' ⟨rfl,rfl⟩;rw [hn])
 all_goals go_ret
 all_goals refine ⟨ret_bool ?_,hB1⟩
 all_goals have ht':0<=t:=by omega
 all_goals have hl':0<=l:=by omega
 all_goals have e2:l=0:=by omega
 all_goals (simp only [gstmtB,stmtB,HF0.out];simp [ho,hs,-List.beq_nil_eq,ht',hl',e2])
theorem gstmt6 (k:Int) (hk:k=6∨k=7) (s:ByteArray) (ve vf:Value) (es fs:List Nd) (t l:Int) (w:World) (hle:es.length<=2000) (hlf:fs.length<=2000) (he:Nodes w ve es) (hf:Nodes w vf fs) :
  Calls prog 126 #[.agg #[.int .i64 k,.string s,ve,vf,.int .i64 t,.int .i64 l]] w fun e w'=>e=.returned (.bool (gstmtB ⟨k,s,es,fs,t,l⟩))/\Below w.heap.size w w':=by
 rcases hk with rfl|rfl;all_goals
  obtain ⟨HE,HF⟩:=h2 he hf;obtain ⟨ae,ce,rfl,-,-,-⟩:=he;obtain ⟨af,cf,rfl,-,-,-⟩:=hf;have HD:Hid (∀b:Bool,(decide (es.length<=2000) && b)=b):=fun b=>by simp [hle]
  have HDF:Hid (∀b:Bool,(decide (fs.length<=2000) && b)=b):=fun b=>by simp [hlf]
  go_enter func126,ntmps126;go_wp2_with (go_at_call 30;refine (in_any _ _ _ _).mono ?_;rintro e w' ⟨rfl,rfl⟩)
  refine (gexpr_any _ es _ (by omega) (HE.out.below (bel_a _ _))).mono ?_;rintro e w1 ⟨rfl,hb1⟩;rw [HD.out];simp only [World.size_alloc] at hb1;have hB1:=one_below hb1;obtain ⟨x0,x1,x2,x3,x4,x5⟩:=box6 hb1;cases ho:oneB es
  ·go_wp2;go_ret;exact ⟨ret_bool (by simp only [gstmtB,stmtB];simp [ho]),hB1⟩
  cases hn:nameB s
  case true=>
   go_wp2_with (go_at_call 87;refine (name_any _ _).mono ?_;rintro e w' ⟨rfl,rfl⟩;rw [hn])
   go_ret;exact ⟨ret_bool (by simp only [gstmtB,stmtB];simp [ho,nameB_empty hn,-List.beq_nil_eq]),hB1⟩
  cases hs:(s.toList == [])
  ·have hs1:(s.toList != [])=true:=by rw [bne,hs];rfl
   go_wp2_with (go_at_call 87;refine (name_any _ _).mono ?_;rintro e w' ⟨rfl,rfl⟩;rw [hn])
   go_ret;exact ⟨ret_bool (by simp only [gstmtB,stmtB];simp [ho,hs,-List.beq_nil_eq]),hB1⟩
  have hs1:(s.toList != [])=false:=by rw [bne,hs];rfl
  by_cases hf0:0<fs.length
  ·go_wp2_with (go_at_call 87;refine (name_any _ _).mono ?_;rintro e w' ⟨rfl,rfl⟩;rw [hn])
   go_ret;refine ⟨ret_bool ?_,hB1⟩;have:(fs.length == 0)=false:=by simp only [beq_eq_false_iff_ne];omega
   simp only [gstmtB,stmtB,this];simp [ho,hs,-List.beq_nil_eq]
  have HF0:Hid ((fs.length == 0)=true):=by show _=_;simp only [beq_iff_eq];omega
  by_cases ht:t<0
  ·go_wp2_with (go_at_call 87;refine (name_any _ _).mono ?_;rintro e w' ⟨rfl,rfl⟩;rw [hn])
   all_goals go_ret
   all_goals refine ⟨ret_bool ?_,hB1⟩
   all_goals (simp only [gstmtB,stmtB,HF0.out];simp [ho,hs,-List.beq_nil_eq] <;> omega)
  by_cases hl:l<0
  ·go_wp2_with (go_at_call 87;refine (name_any _ _).mono ?_;rintro e w' ⟨rfl,rfl⟩;rw [hn])
   all_goals go_ret
   all_goals refine ⟨ret_bool ?_,hB1⟩
   all_goals (simp only [gstmtB,stmtB,HF0.out];simp [ho,hs,-List.beq_nil_eq] <;> omega)
  by_cases ht2:0<t
  ·go_wp2_with (go_at_call 87;refine (name_any _ _).mono ?_;rintro e w' ⟨rfl,rfl⟩;rw [hn])
   all_goals go_ret
   all_goals refine ⟨ret_bool ?_,hB1⟩
   all_goals (simp only [gstmtB,stmtB,HF0.out];simp [ho,hs,-List.beq_nil_eq] <;> omega)
  by_cases hl2:0<l
  ·go_wp2_with (go_at_call 87;refine (name_any _ _).mono ?_;rintro e w' ⟨rfl,rfl⟩;rw [hn])
   all_goals go_ret
   all_goals refine ⟨ret_bool ?_,hB1⟩
   all_goals (simp only [gstmtB,stmtB,HF0.out];simp [ho,hs,-List.beq_nil_eq] <;> omega)
  go_wp2_with (go_at_call 87;refine (name_any _ _).mono ?_;rintro e w' ⟨rfl,rfl⟩;rw [hn])
  all_goals go_ret
  all_goals refine ⟨ret_bool ?_,hB1⟩
  all_goals have ht':0<=t:=by omega
  all_goals have hl':0<=l:=by omega
  all_goals have e1:t=0:=by omega
  all_goals have e2:l=0:=by omega
  all_goals (simp only [gstmtB,stmtB,HF0.out];simp [ho,hs,-List.beq_nil_eq,ht',hl',e1,e2])
end
section
open Go.RowKit
theorem gstmt8 (s:ByteArray) (ve vf:Value) (es fs:List Nd) (t l:Int) (w:World) (hle:es.length<=2000) (hlf:fs.length<=2000) (he:Nodes w ve es) (hf:Nodes w vf fs) :
  Calls prog 126 #[.agg #[.int .i64 8,.string s,ve,vf,.int .i64 t,.int .i64 l]] w fun e w'=>e=.returned (.bool (gstmtB ⟨8,s,es,fs,t,l⟩))/\Below w.heap.size w w':=by
 obtain ⟨HE,HF⟩:=h2 he hf;obtain ⟨ae,ce,rfl,-,-,-⟩:=he;obtain ⟨af,cf,rfl,-,-,-⟩:=hf;have HD:Hid (∀b:Bool,(decide (es.length<=2000) && b)=b):=fun b=>by simp [hle]
 have HDF:Hid (∀b:Bool,(decide (fs.length<=2000) && b)=b):=fun b=>by simp [hlf]
 go_enter func126,ntmps126;go_wp2_with (go_at_call 30;refine (in_any _ _ _ _).mono ?_;rintro e w' ⟨rfl,rfl⟩)
 refine (gexpr_any _ es _ (by omega) (HE.out.below (bel_a _ _))).mono ?_;rintro e w1 ⟨rfl,hb1⟩;rw [HD.out];simp only [World.size_alloc] at hb1;have hB1:=one_below hb1;obtain ⟨x0,x1,x2,x3,x4,x5⟩:=box6 hb1;cases ho:oneB es
 ·go_wp2;go_ret;exact ⟨ret_bool (by simp only [gstmtB,stmtB];simp [ho]),hB1⟩
 cases hn:nameB s
 case true=>
  go_wp2_with (go_at_call 87;refine (name_any _ _).mono ?_;rintro e w' ⟨rfl,rfl⟩;rw [hn])
  go_ret;exact ⟨ret_bool (by simp only [gstmtB,stmtB];simp [ho,nameB_empty hn,-List.beq_nil_eq]),hB1⟩
 cases hs:(s.toList == [])
 ·have hs1:(s.toList != [])=true:=by rw [bne,hs];rfl
  go_wp2_with (go_at_call 87;refine (name_any _ _).mono ?_;rintro e w' ⟨rfl,rfl⟩;rw [hn])
  go_ret;exact ⟨ret_bool (by simp only [gstmtB,stmtB];simp [ho,hs,-List.beq_nil_eq]),hB1⟩
 have hs1:(s.toList != [])=false:=by rw [bne,hs];rfl
 by_cases hf0:0<fs.length
 ·go_wp2_with (go_at_call 87;refine (name_any _ _).mono ?_;rintro e w' ⟨rfl,rfl⟩;rw [hn])
  go_ret;refine ⟨ret_bool ?_,hB1⟩;have:(fs.length == 0)=false:=by simp only [beq_eq_false_iff_ne];omega
  simp only [gstmtB,stmtB,this];simp [ho,hs,-List.beq_nil_eq]
 have HF0:Hid ((fs.length == 0)=true):=by show _=_;simp only [beq_iff_eq];omega
 by_cases ht:t<0
 ·go_wp2_with (go_at_call 87;refine (name_any _ _).mono ?_;rintro e w' ⟨rfl,rfl⟩;rw [hn])
  all_goals go_ret
  all_goals refine ⟨ret_bool ?_,hB1⟩
  all_goals (simp only [gstmtB,stmtB,HF0.out];simp [ho,hs,-List.beq_nil_eq] <;> omega)
 by_cases hl:l<0
 ·go_wp2_with (go_at_call 87;refine (name_any _ _).mono ?_;rintro e w' ⟨rfl,rfl⟩;rw [hn])
  all_goals go_ret
  all_goals refine ⟨ret_bool ?_,hB1⟩
  all_goals (simp only [gstmtB,stmtB,HF0.out];simp [ho,hs,-List.beq_nil_eq] <;> omega)
 by_cases ht2:0<t
 ·go_wp2_with (go_at_call 87;refine (name_any _ _).mono ?_;rintro e w' ⟨rfl,rfl⟩;rw [hn])
  all_goals go_ret
  all_goals refine ⟨ret_bool ?_,hB1⟩
  all_goals (simp only [gstmtB,stmtB,HF0.out];simp [ho,hs,-List.beq_nil_eq] <;> omega)
 by_cases hl2:0<l
 ·go_wp2_with (go_at_call 87;refine (name_any _ _).mono ?_;rintro e w' ⟨rfl,rfl⟩;rw [hn])
  all_goals go_ret
  all_goals refine ⟨ret_bool ?_,hB1⟩
  all_goals (simp only [gstmtB,stmtB,HF0.out];simp [ho,hs,-List.beq_nil_eq] <;> omega)
 have hpos:=oneB_pos ho;have HL:Hid (lastKind es=(es[es.length-1]'(by omega)).kind):=by
  show lastKind es=_;simp only [lastKind];rw [List.getElem?_eq_getElem (by omega)]
 go_wp2_with (go_at_call 87;refine (name_any _ _).mono ?_;rintro e w' ⟨rfl,rfl⟩;rw [hn])
 refine (root_any _ es _ hpos (by omega) (HE.out.below hB1)).mono ?_;rintro e w2 ⟨rfl,hb2⟩;have hB2:=hB1.trans (hb2.mono hB1.size);generalize es[es.length-1]=n at HL ⊢;have hfd:=run_kind n.kind n.val n.name;have HH:Hid (0<=t/\t<=0/\0<=l/\l<=0):=⟨by omega,by omega,by omega,by omega⟩;go_wp2;go_ret;refine ⟨ret_bool ?_,hB2⟩;have hh:=HH;have e1:t=0:=by omega
 have e2:l=0:=by omega
 simp only [gstmtB,stmtB,HF0.out];simp [ho,hs,-List.beq_nil_eq,HL.out,e1,e2]
end
section
open Go.RowKit
variable {w w':World} {S S':Nat->Prop} {v:Value} {r ss:List St}
def joinS (F:Nat->List St):Nat->List St
 | 0=>[]
 | A+1=>joinS F A++F A
inductive Bv (w:World) (S:Nat->Prop):Value->List St->Prop
 | decl (s:St) (x:Value):s.kind=1->Tv w S x s.e->s.thn=0->s.els=0->Bv w S (.iface 213 (.agg #[.string s.name,x])) [s]
 | set (s:St) (x:Value):s.kind=2->Tv w S x s.e->s.thn=0->s.els=0->Bv w S (.iface 214 (.agg #[.string s.name,x])) [s]
 | store (s:St) (x y:Value):s.kind=3->Tv w S x s.e->Tv w S y s.f->s.thn=0->s.els=0->Bv w S (.iface 216 (.agg #[.string s.name,x,y])) [s]
 | ifs (s:St) (x va vb:Value) (A B:Nat) (vs us:Nat->Value) (F H:Nat->List St):s.kind=4->Tv w S x s.e->Args w S va A vs->(∀i,i<A->Bv w S (vs i) (F i))->Args w S vb B us->(∀i,i<B->Bv w S (us i) (H i))->s.thn=(joinS F A).length->s.els=(joinS H B).length->Bv w S (.iface 218 (.agg #[x,va,vb])) (s::joinS F A++joinS H B)
 | whil (s:St) (x va:Value) (A:Nat) (vs:Nat->Value) (F:Nat->List St):s.kind=5->Tv w S x s.e->Args w S va A vs->(∀i,i<A->Bv w S (vs i) (F i))->s.thn=(joinS F A).length->s.els=0->Bv w S (.iface 220 (.agg #[x,va])) (s::joinS F A)
 | ret (s:St) (x:Value):s.kind=6->Tv w S x s.e->s.thn=0->s.els=0->Bv w S (.iface 185 (.agg #[x])) [s]
 | out (s:St) (x:Value):s.kind=7->Tv w S x s.e->s.thn=0->s.els=0->Bv w S (.iface 221 (.agg #[x])) [s]
 | call (s:St) (x:Value):s.kind=8->Tv w S x s.e->s.thn=0->s.els=0->Bv w S (.iface 222 (.agg #[x])) [s]
theorem Bv.keep (h:Bv w S v r) (hS : ∀B,S B->S' B) (hk : ∀B,S B->w'.heap[B]? = w.heap[B]?):Bv w' S' v r:=by
 induction h with
 | decl s x h1 h2 h3 h4=>exact .decl s x h1 (h2.keep hS hk) h3 h4
 | set s x h1 h2 h3 h4=>exact .set s x h1 (h2.keep hS hk) h3 h4
 | store s x y h1 h2 h3 h4 h5=>exact .store s x y h1 (h2.keep hS hk) (h3.keep hS hk) h4 h5
 | ifs s x va vb A B vs us F H h1 h2 h3 h4 h5 h6 h7 h8 ih1 ih2=>exact .ifs s x va vb A B vs us F H h1 (h2.keep hS hk) (h3.keep hS hk) ih1 (h5.keep hS hk) ih2 h7 h8
 | whil s x va A vs F h1 h2 h3 h4 h5 h6 ih=>exact .whil s x va A vs F h1 (h2.keep hS hk) (h3.keep hS hk) ih h5 h6
 | ret s x h1 h2 h3 h4=>exact .ret s x h1 (h2.keep hS hk) h3 h4
 | out s x h1 h2 h3 h4=>exact .out s x h1 (h2.keep hS hk) h3 h4
 | call s x h1 h2 h3 h4=>exact .call s x h1 (h2.keep hS hk) h3 h4
theorem Bv.bel (h:Bv w S v r) (hS : ∀B,S B->B<w.heap.size) (hb:Below w.heap.size w w'):Bv w' S v r:=h.keep (fun _ h=>h) (fun B hB=>hb.block B (hS B hB))
theorem Bv.isI (h:Bv w S v r) : ∃t x,v=.iface t x:=by
 cases h <;> exact ⟨_,_,rfl⟩
def Bk (w:World) (S:Nat->Prop) (v:Value) (ss:List St):Prop:=∃(A:Nat) (vs:Nat->Value) (F:Nat->List St),Args w S v A vs/\(∀i,i<A->Bv w S (vs i) (F i))/\ss=joinS F A
theorem Bk.keep (h:Bk w S v ss) (hS : ∀B,S B->S' B) (hk : ∀B,S B->w'.heap[B]? = w.heap[B]?):Bk w' S' v ss:=by
 obtain ⟨A,vs,F,h1,h2,h3⟩:=h;exact ⟨A,vs,F,h1.keep hS hk,fun i hi=>(h2 i hi).keep hS hk,h3⟩
theorem Bk.bel (h:Bk w S v ss) (hS : ∀B,S B->B<w.heap.size) (hb:Below w.heap.size w w'):Bk w' S v ss:=h.keep (fun _ h=>h) (fun B hB=>hb.block B (hS B hB))
end
section
variable {r b:List St} {w:World} {S:Nat->Prop} {v:Value} {s:St}
theorem Bv.pos (h:Bv w S v r):0<r.length:=by
 cases h <;> simp
theorem joinS_zero {F:Nat->List St}:joinS F 0 = []:=rfl
end
end Go.Proofs.YtffnkkpmlplfeaaGreatDoor
