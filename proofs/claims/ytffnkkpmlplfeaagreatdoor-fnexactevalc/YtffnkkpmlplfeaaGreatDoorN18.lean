import Derived.Test.YtffnkkpmlplfeaaGreatDoorN17
namespace Go.Proofs.YtffnkkpmlplfeaaGreatDoor
open Go.Proofs.Tryz
set_option linter.all false
set_option maxRecDepth 100000
set_option maxHeartbeats 16000000
variable[Inhabited Pick]
section
open Go.RowKit
theorem gstmt4 (s:ByteArray) (ve vf:Value) (es fs:List Nd) (t l:Int) (w:World) (hle:es.length<=2000) (hlf:fs.length<=2000) (he:Nodes w ve es) (hf:Nodes w vf fs) :
  Calls prog 126 #[.agg #[.int .i64 4,.string s,ve,vf,.int .i64 t,.int .i64 l]] w λe w'=>e=.returned (.bool (gstmtB ⟨4,s,es,fs,t,l⟩))/\Below w.heap.size w w':=by
 obtain⟨HE,HF⟩:=h2 he hf;obtain⟨ae,ce,rfl,-,-,-⟩:=he;obtain⟨af,cf,rfl,-,-,-⟩:=hf;have HD:Hid (∀b:Bool,(decide (es.length<=2000) && b)=b):=λb=>by simp[hle]
 have HDF:Hid (∀b:Bool,(decide (fs.length<=2000) && b)=b):=λb=>by simp[hlf]
 go_enter func126,ntmps126;go_wp2_with (go_at_call 30;refine (in_any _ _ _ _).mono ?_;rintro e w' ⟨rfl,rfl⟩)
 refine (gexpr_any _ es _ o_ (HE.o.below (bel_a _ _))).mono ?_;rintro e w1 ⟨rfl,hb1⟩;rw[HD.o];simp only[World.size_alloc] at hb1;have hB1:=one_below hb1;obtain⟨x0,x1,x2,x3,x4,x5⟩:=box6 hb1;cases ho:oneB es
 ·go_wp2;go_ret;exact⟨ret_bool (by simp only[gstmtB,stmtB];simp[ho]),hB1⟩
 cases hn:nameB s
 case true=>
  go_wp2_with (go_at_call 87;refine (name_any _ _).mono ?_;rintro e w' ⟨rfl,rfl⟩;rw[hn])
  go_ret;exact⟨ret_bool (by simp only[gstmtB,stmtB];simp[ho,nameB_empty hn,-List.beq_nil_eq]),hB1⟩
 cases hs:(s.toList == [])
 ·have hs1:(s.toList != [])=true:=by rw[bne,hs];rfl
  go_wp2_with (go_at_call 87;refine (name_any _ _).mono ?_;rintro e w' ⟨rfl,rfl⟩;rw[hn])
  go_ret;exact⟨ret_bool (by simp only[gstmtB,stmtB];simp[ho,hs,-List.beq_nil_eq]),hB1⟩
 have hs1:(s.toList != [])=false:=by rw[bne,hs];rfl
 by_cases hf0:0<fs.length
 ·go_wp2_with (go_at_call 87;refine (name_any _ _).mono ?_;rintro e w' ⟨rfl,rfl⟩;rw[hn])
  go_ret;refine⟨ret_bool ?_,hB1⟩;have:(fs.length == 0)=false:=by simp only[beq_eq_false_iff_ne];omega
  simp only[gstmtB,stmtB,this];simp[ho,hs,-List.beq_nil_eq]
 have HF0:Hid ((fs.length == 0)=true):=by show _=_;simp only[beq_iff_eq];omega
 by_cases ht:t<0
 ·go_wp2_with (go_at_call 87;refine (name_any _ _).mono ?_;rintro e w' ⟨rfl,rfl⟩;rw[hn])
  all_goals go_ret
  all_goals refine⟨ret_bool ?_,hB1⟩
  all_goals (simp only[gstmtB,stmtB,HF0.o];simp[ho,hs,-List.beq_nil_eq] <;> omega)
 by_cases hl:l<0
 ·go_wp2_with (go_at_call 87;refine (name_any _ _).mono ?_;rintro e w' ⟨rfl,rfl⟩;rw[hn])
  all_goals go_ret
  all_goals refine⟨ret_bool ?_,hB1⟩
  all_goals (simp only[gstmtB,stmtB,HF0.o];simp[ho,hs,-List.beq_nil_eq] <;> omega)
 go_wp2_with (go_at_call 87;refine (name_any _ _).mono ?_;rintro e w' ⟨rfl,rfl⟩;rw[hn])
 all_goals go_ret
 all_goals refine⟨ret_bool ?_,hB1⟩
 all_goals have ht':0<=t:=by omega
 all_goals have hl':0<=l:=by omega
 all_goals (simp only[gstmtB,stmtB,HF0.o];simp[ho,hs,-List.beq_nil_eq,ht',hl'])
theorem gstmt5 (s:ByteArray) (ve vf:Value) (es fs:List Nd) (t l:Int) (w:World) (hle:es.length<=2000) (hlf:fs.length<=2000) (he:Nodes w ve es) (hf:Nodes w vf fs) :
  Calls prog 126 #[.agg #[.int .i64 5,.string s,ve,vf,.int .i64 t,.int .i64 l]] w λe w'=>e=.returned (.bool (gstmtB ⟨5,s,es,fs,t,l⟩))/\Below w.heap.size w w':=by
 obtain⟨HE,HF⟩:=h2 he hf;obtain⟨ae,ce,rfl,-,-,-⟩:=he;obtain⟨af,cf,rfl,-,-,-⟩:=hf;have HD:Hid (∀b:Bool,(decide (es.length<=2000) && b)=b):=λb=>by simp[hle]
 have HDF:Hid (∀b:Bool,(decide (fs.length<=2000) && b)=b):=λb=>by simp[hlf]
 go_enter func126,ntmps126;go_wp2_with (go_at_call 30;refine (in_any _ _ _ _).mono ?_;rintro e w' ⟨rfl,rfl⟩)
 refine (gexpr_any _ es _ o_ (HE.o.below (bel_a _ _))).mono ?_;rintro e w1 ⟨rfl,hb1⟩;rw[HD.o];simp only[World.size_alloc] at hb1;have hB1:=one_below hb1;obtain⟨x0,x1,x2,x3,x4,x5⟩:=box6 hb1;cases ho:oneB es
 ·go_wp2;go_ret;exact⟨ret_bool (by simp only[gstmtB,stmtB];simp[ho]),hB1⟩
 cases hn:nameB s
 case true=>
  go_wp2_with (go_at_call 87;refine (name_any _ _).mono ?_;rintro e w' ⟨rfl,rfl⟩;rw[hn])
  go_ret;exact⟨ret_bool (by simp only[gstmtB,stmtB];simp[ho,nameB_empty hn,-List.beq_nil_eq]),hB1⟩
 cases hs:(s.toList == [])
 ·have hs1:(s.toList != [])=true:=by rw[bne,hs];rfl
  go_wp2_with (go_at_call 87;refine (name_any _ _).mono ?_;rintro e w' ⟨rfl,rfl⟩;rw[hn])
  go_ret;exact⟨ret_bool (by simp only[gstmtB,stmtB];simp[ho,hs,-List.beq_nil_eq]),hB1⟩
 have hs1:(s.toList != [])=false:=by rw[bne,hs];rfl
 by_cases hf0:0<fs.length
 ·go_wp2_with (go_at_call 87;refine (name_any _ _).mono ?_;rintro e w' ⟨rfl,rfl⟩;rw[hn])
  go_ret;refine⟨ret_bool ?_,hB1⟩;have:(fs.length == 0)=false:=by simp only[beq_eq_false_iff_ne];omega
  simp only[gstmtB,stmtB,this];simp[ho,hs,-List.beq_nil_eq]
 have HF0:Hid ((fs.length == 0)=true):=by show _=_;simp only[beq_iff_eq];omega
 by_cases ht:t<0
 ·go_wp2_with (go_at_call 87;refine (name_any _ _).mono ?_;rintro e w' ⟨rfl,rfl⟩;rw[hn])
  all_goals go_ret
  all_goals refine⟨ret_bool ?_,hB1⟩
  all_goals (simp only[gstmtB,stmtB,HF0.o];simp[ho,hs,-List.beq_nil_eq] <;> omega)
 by_cases hl:l<0
 ·go_wp2_with (go_at_call 87;refine (name_any _ _).mono ?_;rintro e w' ⟨rfl,rfl⟩;rw[hn])
  all_goals go_ret
  all_goals refine⟨ret_bool ?_,hB1⟩
  all_goals (simp only[gstmtB,stmtB,HF0.o];simp[ho,hs,-List.beq_nil_eq] <;> omega)
 by_cases hl2:0<l
 ·go_wp2_with (go_at_call 87;refine (name_any _ _).mono ?_;rintro e w' ⟨rfl,rfl⟩;rw[hn])
  all_goals go_ret
  all_goals refine⟨ret_bool ?_,hB1⟩
  all_goals (simp only[gstmtB,stmtB,HF0.o];simp[ho,hs,-List.beq_nil_eq] <;> omega)
 go_wp2_with (go_at_call 87;refine (name_any _ _).mono ?_;rintro e w' ⟨rfl,rfl⟩;rw[hn])
 all_goals go_ret
 all_goals refine⟨ret_bool ?_,hB1⟩
 all_goals have ht':0<=t:=by omega
 all_goals have hl':0<=l:=by omega
 all_goals have e2:l=0:=by omega
 all_goals (simp only[gstmtB,stmtB,HF0.o];simp[ho,hs,-List.beq_nil_eq,ht',hl',e2])
theorem gstmt6 (k:Int) (hk:k=6∨k=7) (s:ByteArray) (ve vf:Value) (es fs:List Nd) (t l:Int) (w:World) (hle:es.length<=2000) (hlf:fs.length<=2000) (he:Nodes w ve es) (hf:Nodes w vf fs) :
  Calls prog 126 #[.agg #[.int .i64 k,.string s,ve,vf,.int .i64 t,.int .i64 l]] w λe w'=>e=.returned (.bool (gstmtB ⟨k,s,es,fs,t,l⟩))/\Below w.heap.size w w':=by
 rcases hk with rfl|rfl;all_goals
  obtain⟨HE,HF⟩:=h2 he hf;obtain⟨ae,ce,rfl,-,-,-⟩:=he;obtain⟨af,cf,rfl,-,-,-⟩:=hf;have HD:Hid (∀b:Bool,(decide (es.length<=2000) && b)=b):=λb=>by simp[hle]
  have HDF:Hid (∀b:Bool,(decide (fs.length<=2000) && b)=b):=λb=>by simp[hlf]
  go_enter func126,ntmps126;go_wp2_with (go_at_call 30;refine (in_any _ _ _ _).mono ?_;rintro e w' ⟨rfl,rfl⟩)
  refine (gexpr_any _ es _ o_ (HE.o.below (bel_a _ _))).mono ?_;rintro e w1 ⟨rfl,hb1⟩;rw[HD.o];simp only[World.size_alloc] at hb1;have hB1:=one_below hb1;obtain⟨x0,x1,x2,x3,x4,x5⟩:=box6 hb1;cases ho:oneB es
  ·go_wp2;go_ret;exact⟨ret_bool (by simp only[gstmtB,stmtB];simp[ho]),hB1⟩
  cases hn:nameB s
  case true=>
   go_wp2_with (go_at_call 87;refine (name_any _ _).mono ?_;rintro e w' ⟨rfl,rfl⟩;rw[hn])
   go_ret;exact⟨ret_bool (by simp only[gstmtB,stmtB];simp[ho,nameB_empty hn,-List.beq_nil_eq]),hB1⟩
  cases hs:(s.toList == [])
  ·have hs1:(s.toList != [])=true:=by rw[bne,hs];rfl
   go_wp2_with (go_at_call 87;refine (name_any _ _).mono ?_;rintro e w' ⟨rfl,rfl⟩;rw[hn])
   go_ret;exact⟨ret_bool (by simp only[gstmtB,stmtB];simp[ho,hs,-List.beq_nil_eq]),hB1⟩
  have hs1:(s.toList != [])=false:=by rw[bne,hs];rfl
  by_cases hf0:0<fs.length
  ·go_wp2_with (go_at_call 87;refine (name_any _ _).mono ?_;rintro e w' ⟨rfl,rfl⟩;rw[hn])
   go_ret;refine⟨ret_bool ?_,hB1⟩;have:(fs.length == 0)=false:=by simp only[beq_eq_false_iff_ne];omega
   simp only[gstmtB,stmtB,this];simp[ho,hs,-List.beq_nil_eq]
  have HF0:Hid ((fs.length == 0)=true):=by show _=_;simp only[beq_iff_eq];omega
  by_cases ht:t<0
  ·go_wp2_with (go_at_call 87;refine (name_any _ _).mono ?_;rintro e w' ⟨rfl,rfl⟩;rw[hn])
   all_goals go_ret
   all_goals refine⟨ret_bool ?_,hB1⟩
   all_goals (simp only[gstmtB,stmtB,HF0.o];simp[ho,hs,-List.beq_nil_eq] <;> omega)
  by_cases hl:l<0
  ·go_wp2_with (go_at_call 87;refine (name_any _ _).mono ?_;rintro e w' ⟨rfl,rfl⟩;rw[hn])
   all_goals go_ret
   all_goals refine⟨ret_bool ?_,hB1⟩
   all_goals (simp only[gstmtB,stmtB,HF0.o];simp[ho,hs,-List.beq_nil_eq] <;> omega)
  by_cases ht2:0<t
  ·go_wp2_with (go_at_call 87;refine (name_any _ _).mono ?_;rintro e w' ⟨rfl,rfl⟩;rw[hn])
   all_goals go_ret
   all_goals refine⟨ret_bool ?_,hB1⟩
   all_goals (simp only[gstmtB,stmtB,HF0.o];simp[ho,hs,-List.beq_nil_eq] <;> omega)
  by_cases hl2:0<l
  ·go_wp2_with (go_at_call 87;refine (name_any _ _).mono ?_;rintro e w' ⟨rfl,rfl⟩;rw[hn])
   all_goals go_ret
   all_goals refine⟨ret_bool ?_,hB1⟩
   all_goals (simp only[gstmtB,stmtB,HF0.o];simp[ho,hs,-List.beq_nil_eq] <;> omega)
  go_wp2_with (go_at_call 87;refine (name_any _ _).mono ?_;rintro e w' ⟨rfl,rfl⟩;rw[hn])
  all_goals go_ret
  all_goals refine⟨ret_bool ?_,hB1⟩
  all_goals have ht':0<=t:=by omega
  all_goals have hl':0<=l:=by omega
  all_goals have e1:t=0:=by omega
  all_goals have e2:l=0:=by omega
  all_goals (simp only[gstmtB,stmtB,HF0.o];simp[ho,hs,-List.beq_nil_eq,ht',hl',e1,e2])
end
section
open Go.RowKit
theorem gstmt8 (s:ByteArray) (ve vf:Value) (es fs:List Nd) (t l:Int) (w:World) (hle:es.length<=2000) (hlf:fs.length<=2000) (he:Nodes w ve es) (hf:Nodes w vf fs) :
  Calls prog 126 #[.agg #[.int .i64 8,.string s,ve,vf,.int .i64 t,.int .i64 l]] w λe w'=>e=.returned (.bool (gstmtB ⟨8,s,es,fs,t,l⟩))/\Below w.heap.size w w':=by
 obtain⟨HE,HF⟩:=h2 he hf;obtain⟨ae,ce,rfl,-,-,-⟩:=he;obtain⟨af,cf,rfl,-,-,-⟩:=hf;have HD:Hid (∀b:Bool,(decide (es.length<=2000) && b)=b):=λb=>by simp[hle]
 have HDF:Hid (∀b:Bool,(decide (fs.length<=2000) && b)=b):=λb=>by simp[hlf]
 go_enter func126,ntmps126;go_wp2_with (go_at_call 30;refine (in_any _ _ _ _).mono ?_;rintro e w' ⟨rfl,rfl⟩)
 refine (gexpr_any _ es _ o_ (HE.o.below (bel_a _ _))).mono ?_;rintro e w1 ⟨rfl,hb1⟩;rw[HD.o];simp only[World.size_alloc] at hb1;have hB1:=one_below hb1;obtain⟨x0,x1,x2,x3,x4,x5⟩:=box6 hb1;cases ho:oneB es
 ·go_wp2;go_ret;exact⟨ret_bool (by simp only[gstmtB,stmtB];simp[ho]),hB1⟩
 cases hn:nameB s
 case true=>
  go_wp2_with (go_at_call 87;refine (name_any _ _).mono ?_;rintro e w' ⟨rfl,rfl⟩;rw[hn])
  go_ret;exact⟨ret_bool (by simp only[gstmtB,stmtB];simp[ho,nameB_empty hn,-List.beq_nil_eq]),hB1⟩
 cases hs:(s.toList == [])
 ·have hs1:(s.toList != [])=true:=by rw[bne,hs];rfl
  go_wp2_with (go_at_call 87;refine (name_any _ _).mono ?_;rintro e w' ⟨rfl,rfl⟩;rw[hn])
  go_ret;exact⟨ret_bool (by simp only[gstmtB,stmtB];simp[ho,hs,-List.beq_nil_eq]),hB1⟩
 have hs1:(s.toList != [])=false:=by rw[bne,hs];rfl
 by_cases hf0:0<fs.length
 ·go_wp2_with (go_at_call 87;refine (name_any _ _).mono ?_;rintro e w' ⟨rfl,rfl⟩;rw[hn])
  go_ret;refine⟨ret_bool ?_,hB1⟩;have:(fs.length == 0)=false:=by simp only[beq_eq_false_iff_ne];omega
  simp only[gstmtB,stmtB,this];simp[ho,hs,-List.beq_nil_eq]
 have HF0:Hid ((fs.length == 0)=true):=by show _=_;simp only[beq_iff_eq];omega
 by_cases ht:t<0
 ·go_wp2_with (go_at_call 87;refine (name_any _ _).mono ?_;rintro e w' ⟨rfl,rfl⟩;rw[hn])
  all_goals go_ret
  all_goals refine⟨ret_bool ?_,hB1⟩
  all_goals (simp only[gstmtB,stmtB,HF0.o];simp[ho,hs,-List.beq_nil_eq] <;> omega)
 by_cases hl:l<0
 ·go_wp2_with (go_at_call 87;refine (name_any _ _).mono ?_;rintro e w' ⟨rfl,rfl⟩;rw[hn])
  all_goals go_ret
  all_goals refine⟨ret_bool ?_,hB1⟩
  all_goals (simp only[gstmtB,stmtB,HF0.o];simp[ho,hs,-List.beq_nil_eq] <;> omega)
 by_cases ht2:0<t
 ·go_wp2_with (go_at_call 87;refine (name_any _ _).mono ?_;rintro e w' ⟨rfl,rfl⟩;rw[hn])
  all_goals go_ret
  all_goals refine⟨ret_bool ?_,hB1⟩
  all_goals (simp only[gstmtB,stmtB,HF0.o];simp[ho,hs,-List.beq_nil_eq] <;> omega)
 by_cases hl2:0<l
 ·go_wp2_with (go_at_call 87;refine (name_any _ _).mono ?_;rintro e w' ⟨rfl,rfl⟩;rw[hn])
  all_goals go_ret
  all_goals refine⟨ret_bool ?_,hB1⟩
  all_goals (simp only[gstmtB,stmtB,HF0.o];simp[ho,hs,-List.beq_nil_eq] <;> omega)
 have hpos:=oneB_pos ho;have HL:Hid (lastKind es=(es[es.length-1]' o_).kind):=by
  show lastKind es=_;simp only[lastKind];rw[List.getElem?_eq_getElem o_]
 go_wp2_with (go_at_call 87;refine (name_any _ _).mono ?_;rintro e w' ⟨rfl,rfl⟩;rw[hn])
 refine (root_any _ es _ hpos o_ (HE.o.below hB1)).mono ?_;rintro e w2 ⟨rfl,hb2⟩;have hB2:=hB1.trans (hb2.mono hB1.size);generalize es[es.length-1]=n at HL ⊢;have hfd:=run_kind n.kind n.val n.name;have HH:Hid (0<=t/\t<=0/\0<=l/\l<=0):=⟨by omega,by omega,by omega,by omega⟩;go_wp2;go_ret;refine⟨ret_bool ?_,hB2⟩;have hh:=HH;have e1:t=0:=by omega
 have e2:l=0:=by omega
 simp only[gstmtB,stmtB,HF0.o];simp[ho,hs,-List.beq_nil_eq,HL.o,e1,e2]
end
section
open Go.RowKit
variable {w w':World} {S S':Nat->Prop} {v:Value} {r ss:List St}
def joinS (F:Nat->List St):Nat->List St
 | 0=>[]
 | A+1=>joinS F A++F A
structure BvC (w:World)(S:Nat->Prop)(P:Value→List St→Prop):Prop where
 c_::
 decl(s:St)(x:Value):(s.kind=1)→Tv w S x s.e→(s.thn=0)→(s.els=0)→P (.iface 213 (.agg #[.string s.name,x])) [s]
 set(s:St)(x:Value):(s.kind=2)→Tv w S x s.e→(s.thn=0)→(s.els=0)→P (.iface 214 (.agg #[.string s.name,x])) [s]
 store(s:St)(x y:Value):(s.kind=3)→Tv w S x s.e→Tv w S y s.f→(s.thn=0)→(s.els=0)→P (.iface 216 (.agg #[.string s.name,x,y])) [s]
 ifs(s:St)(x va vb:Value)(A B:Nat)(vs us:Nat->Value)(F H:Nat->List St):(s.kind=4)→Tv w S x s.e→Args w S va A vs→(∀i,i<A->P (vs i) (F i))→Args w S vb B us→(∀i,i<B->P (us i) (H i))→(s.thn=(joinS F A).length)→(s.els=(joinS H B).length)→P (.iface 218 (.agg #[x,va,vb])) (s::joinS F A++joinS H B)
 whil(s:St)(x va:Value)(A:Nat)(vs:Nat->Value)(F:Nat->List St):(s.kind=5)→Tv w S x s.e→Args w S va A vs→(∀i,i<A->P (vs i) (F i))→(s.thn=(joinS F A).length)→(s.els=0)→P (.iface 220 (.agg #[x,va])) (s::joinS F A)
 ret(s:St)(x:Value):(s.kind=6)→Tv w S x s.e→(s.thn=0)→(s.els=0)→P (.iface 185 (.agg #[x])) [s]
 out(s:St)(x:Value):(s.kind=7)→Tv w S x s.e→(s.thn=0)→(s.els=0)→P (.iface 221 (.agg #[x])) [s]
 call(s:St)(x:Value):(s.kind=8)→Tv w S x s.e→(s.thn=0)→(s.els=0)→P (.iface 222 (.agg #[x])) [s]
structure Bv (w:World)(S:Nat->Prop)(a0:Value)(a1:List St):Prop where
 c_::
 f_:∀P,BvC w S P→P a0 a1
theorem Bv.C{w:World}{S:Nat->Prop}:BvC w S (Bv w S):=⟨λs x q0 q1 q2 q3=>⟨λP h=>h.decl s x q0 q1 q2 q3⟩,
 λs x q0 q1 q2 q3=>⟨λP h=>h.set s x q0 q1 q2 q3⟩,
 λs x y q0 q1 q2 q3 q4=>⟨λP h=>h.store s x y q0 q1 q2 q3 q4⟩,
 λs x va vb A B vs us F H q0 q1 q2 q3 q4 q5 q6 q7=>⟨λP h=>h.ifs s x va vb A B vs us F H q0 q1 q2 (λi r0=>(q3 i r0).f_ P h) q4 (λi r0=>(q5 i r0).f_ P h) q6 q7⟩,
 λs x va A vs F q0 q1 q2 q3 q4 q5=>⟨λP h=>h.whil s x va A vs F q0 q1 q2 (λi r0=>(q3 i r0).f_ P h) q4 q5⟩,
 λs x q0 q1 q2 q3=>⟨λP h=>h.ret s x q0 q1 q2 q3⟩,
 λs x q0 q1 q2 q3=>⟨λP h=>h.out s x q0 q1 q2 q3⟩,
 λs x q0 q1 q2 q3=>⟨λP h=>h.call s x q0 q1 q2 q3⟩⟩
abbrev Bv.decl {w S}:=(Bv.C:BvC w S _).decl
abbrev Bv.set {w S}:=(Bv.C:BvC w S _).set
abbrev Bv.store {w S}:=(Bv.C:BvC w S _).store
abbrev Bv.ifs {w S}:=(Bv.C:BvC w S _).ifs
abbrev Bv.whil {w S}:=(Bv.C:BvC w S _).whil
abbrev Bv.ret {w S}:=(Bv.C:BvC w S _).ret
abbrev Bv.out {w S}:=(Bv.C:BvC w S _).out
abbrev Bv.call {w S}:=(Bv.C:BvC w S _).call
theorem Bv_i{w:World}{S:Nat->Prop}{M:∀(a0:Value)(a1:List St),Bv w S a0 a1→Prop}
 (decl:∀(s:St)(x:Value),(s.kind=1)→Tv w S x s.e→(s.thn=0)→(s.els=0)→∀t,M (.iface 213 (.agg #[.string s.name,x])) [s] t)
 (set:∀(s:St)(x:Value),(s.kind=2)→Tv w S x s.e→(s.thn=0)→(s.els=0)→∀t,M (.iface 214 (.agg #[.string s.name,x])) [s] t)
 (store:∀(s:St)(x y:Value),(s.kind=3)→Tv w S x s.e→Tv w S y s.f→(s.thn=0)→(s.els=0)→∀t,M (.iface 216 (.agg #[.string s.name,x,y])) [s] t)
 (ifs:∀(s:St)(x va vb:Value)(A B:Nat)(vs us:Nat->Value)(F H:Nat->List St),(s.kind=4)→Tv w S x s.e→Args w S va A vs→∀q3:∀i,i<A->Bv w S (vs i) (F i),Args w S vb B us→∀q5:∀i,i<B->Bv w S (us i) (H i),(s.thn=(joinS F A).length)→(s.els=(joinS H B).length)→(∀ i (r0 : i<A),M (vs i) (F i) (q3 i r0))→(∀ i (r0 : i<B),M (us i) (H i) (q5 i r0))→∀t,M (.iface 218 (.agg #[x,va,vb])) (s::joinS F A++joinS H B) t)
 (whil:∀(s:St)(x va:Value)(A:Nat)(vs:Nat->Value)(F:Nat->List St),(s.kind=5)→Tv w S x s.e→Args w S va A vs→∀q3:∀i,i<A->Bv w S (vs i) (F i),(s.thn=(joinS F A).length)→(s.els=0)→(∀ i (r0 : i<A),M (vs i) (F i) (q3 i r0))→∀t,M (.iface 220 (.agg #[x,va])) (s::joinS F A) t)
 (ret:∀(s:St)(x:Value),(s.kind=6)→Tv w S x s.e→(s.thn=0)→(s.els=0)→∀t,M (.iface 185 (.agg #[x])) [s] t)
 (out:∀(s:St)(x:Value),(s.kind=7)→Tv w S x s.e→(s.thn=0)→(s.els=0)→∀t,M (.iface 221 (.agg #[x])) [s] t)
 (call:∀(s:St)(x:Value),(s.kind=8)→Tv w S x s.e→(s.thn=0)→(s.els=0)→∀t,M (.iface 222 (.agg #[x])) [s] t)
 {a0:Value}{a1:List St}(t:Bv w S a0 a1):M a0 a1 t:=
 (t.f_ (λa0 a1=>∃z_,M a0 a1 z_) ⟨λs x q0 q1 q2 q3=>⟨.decl s x q0 q1 q2 q3,decl s x q0 q1 q2 q3 _⟩,
 λs x q0 q1 q2 q3=>⟨.set s x q0 q1 q2 q3,set s x q0 q1 q2 q3 _⟩,
 λs x y q0 q1 q2 q3 q4=>⟨.store s x y q0 q1 q2 q3 q4,store s x y q0 q1 q2 q3 q4 _⟩,
 λs x va vb A B vs us F H q0 q1 q2 q3 q4 q5 q6 q7=>⟨.ifs s x va vb A B vs us F H q0 q1 q2 (λi r0=>(q3 i r0).1) q4 (λi r0=>(q5 i r0).1) q6 q7,ifs s x va vb A B vs us F H q0 q1 q2 _ q4 _ q6 q7 (λi r0=>(q3 i r0).2) (λi r0=>(q5 i r0).2) _⟩,
 λs x va A vs F q0 q1 q2 q3 q4 q5=>⟨.whil s x va A vs F q0 q1 q2 (λi r0=>(q3 i r0).1) q4 q5,whil s x va A vs F q0 q1 q2 _ q4 q5 (λi r0=>(q3 i r0).2) _⟩,
 λs x q0 q1 q2 q3=>⟨.ret s x q0 q1 q2 q3,ret s x q0 q1 q2 q3 _⟩,
 λs x q0 q1 q2 q3=>⟨.out s x q0 q1 q2 q3,out s x q0 q1 q2 q3 _⟩,
 λs x q0 q1 q2 q3=>⟨.call s x q0 q1 q2 q3,call s x q0 q1 q2 q3 _⟩⟩).2
theorem Bv.keep (h:Bv w S v r) (hS : ∀B,S B->S' B) (hk : ∀B,S B->w'.heap[B]? = w.heap[B]?):Bv w' S' v r:=by
 induction h using Bv_i with
 | decl s x h1 h2 h3 h4=>exact .decl s x h1 (h2.keep hS hk) h3 h4
 | set s x h1 h2 h3 h4=>exact .set s x h1 (h2.keep hS hk) h3 h4
 | store s x y h1 h2 h3 h4 h5=>exact .store s x y h1 (h2.keep hS hk) (h3.keep hS hk) h4 h5
 | ifs s x va vb A B vs us F H h1 h2 h3 h4 h5 h6 h7 h8 ih1 ih2=>exact .ifs s x va vb A B vs us F H h1 (h2.keep hS hk) (h3.keep hS hk) ih1 (h5.keep hS hk) ih2 h7 h8
 | whil s x va A vs F h1 h2 h3 h4 h5 h6 ih=>exact .whil s x va A vs F h1 (h2.keep hS hk) (h3.keep hS hk) ih h5 h6
 | ret s x h1 h2 h3 h4=>exact .ret s x h1 (h2.keep hS hk) h3 h4
 | out s x h1 h2 h3 h4=>exact .out s x h1 (h2.keep hS hk) h3 h4
 | call s x h1 h2 h3 h4=>exact .call s x h1 (h2.keep hS hk) h3 h4
theorem Bv.bel (h:Bv w S v r) (hS : ∀B,S B->B<w.heap.size) (hb:Below w.heap.size w w'):Bv w' S v r:=h.keep (λ_ h=>h) (λB hB=>hb.block B (hS B hB))
theorem Bv.isI (h:Bv w S v r) : ∃t x,v=.iface t x:=by
 cases h using Bv_i <;> exact⟨_,_,rfl⟩
def Bk (w:World) (S:Nat->Prop) (v:Value) (ss:List St):Prop:=∃(A:Nat) (vs:Nat->Value) (F:Nat->List St),Args w S v A vs/\(∀i,i<A->Bv w S (vs i) (F i))/\ss=joinS F A
theorem Bk.keep (h:Bk w S v ss) (hS : ∀B,S B->S' B) (hk : ∀B,S B->w'.heap[B]? = w.heap[B]?):Bk w' S' v ss:=by
 obtain⟨A,vs,F,h1,h2,h3⟩:=h;exact⟨A,vs,F,h1.keep hS hk,λi hi=>(h2 i hi).keep hS hk,h3⟩
theorem Bk.bel (h:Bk w S v ss) (hS : ∀B,S B->B<w.heap.size) (hb:Below w.heap.size w w'):Bk w' S v ss:=h.keep (λ_ h=>h) (λB hB=>hb.block B (hS B hB))
end
section
variable {r b:List St} {w:World} {S:Nat->Prop} {v:Value} {s:St}
theorem Bv.pos (h:Bv w S v r):0<r.length:=by
 cases h using Bv_i <;> simp
end
end Go.Proofs.YtffnkkpmlplfeaaGreatDoor
