import Derived.Test.YtffnkkpmlplfeaaGreatDoorN16
namespace Go.Proofs.YtffnkkpmlplfeaaGreatDoor
open Go.Proofs.Tryz
open Go.RowKit
set_option linter.all false
set_option maxRecDepth 100000
set_option maxHeartbeats 16000000
variable[Inhabited Pick]
section
variable {w w':World} {v:Value} {l:List Int} {N n:Nat} {xs:List Value}
def Ints (w:World) (v:Value) (l:List Int):Prop:=∃a cap,v=.slice a l.length cap/\(0<l.length->∃b,a=some ⟨b,0,none⟩/\∀j (h:j<l.length),w.cell? ⟨b,j,none⟩=some (.int .i64 l[j]))
theorem Ints.below (h:Ints w v l) (hb:Below w.heap.size w w'):Ints w' v l:=by
 obtain⟨a,cap,rfl,h⟩:=h;refine⟨a,cap,rfl,λh0 => ?_⟩;obtain⟨b,rfl,hc⟩:=h h0;exact⟨b,rfl,λj hj=>(hb.cell (p:=⟨b,j,none⟩) (b_ (hc j hj))).trans (hc j hj)⟩
theorem own_ints (h:w.ownsRow N 2 1 v l.length (l.map (Value.int .i64))):Ints w v l:=by
 have h0:=h;obtain⟨hl,h⟩:=h;rcases h with ⟨rfl,hz⟩|⟨g,cap,cur,rfl,hg,hh,hc1,hc2,hc3,hc4⟩
 ·exact⟨none,0,by rw[hz],λh=>absurd h o_⟩
 ·refine⟨_,cap,rfl,λ_=>⟨g,rfl,λj hj => ?_⟩⟩;have:=h0.cells (g:=g) rfl j (.int .i64 l[j]) (by simp[hj])
  have e:(⟨g,0,none⟩:Addr).add j=⟨g,j,none⟩:=by simp only[Addr.add];split <;> simp_all
  rw[e] at this;exact this
theorem ownb_keep (h:w.ownsRow N 2 1 v n xs) (hb : ∀g,N<=g->g<w.heap.size->w'.heap[g]? = w.heap[g]?):w'.ownsRow N 2 1 v n xs:=by
 obtain⟨g1,g2⟩:=h;refine⟨g1,?_⟩;rcases g2 with g2|⟨g,cap,cur,rfl,g3,g4,g5⟩
 ·exact .inl g2
 ·refine .inr ⟨g,cap,cur,rfl,g3,?_,g5⟩;rw[hb g g3 (Array.getElem?_eq_some_iff.1 g4).1];exact g4
theorem ownb_below (h:w.ownsRow N 2 1 v n xs) (hb:Below w.heap.size w w'):w'.ownsRow N 2 1 v n xs:=ownb_keep h λg _ hg=>hb.block g hg
end
section
variable {w w':World}
theorem nameB_empty {s:ByteArray} (h:nameB s=true):(s.toList == [])=false:=by
 have hp:=((nameB_iff s).1 h).1;have hl:s.toList.length=s.size:=by rw[ByteArray.toList_eq];simp
 cases e:(s.toList == [])
 ·rfl
 ·have e':s.toList = []:=by simpa using e
  rw[e'] at hl;simp at hl;omega
theorem run_kind (x y:Int) (z:ByteArray) (w:World):(Instr.field 134 (.agg #[.int .i64 x,.int .i64 y,.string z]) 0).run prog w=.ok (.int .i64 x) w:=by kernel_rfl
theorem box6 {t:TypeId} {x0 x1 x2 x3 x4 x5:Value} (h:Below (w.heap.size+1) (w.alloc (.cells #[x0,x1,x2,x3,x4,x5] t)) w') :
  w'.cell? ⟨w.heap.size,0,none⟩=some x0/\w'.cell? ⟨w.heap.size,1,none⟩=some x1/\w'.cell? ⟨w.heap.size,2,none⟩=some x2/\w'.cell? ⟨w.heap.size,3,none⟩=some x3/\w'.cell? ⟨w.heap.size,4,none⟩=some x4/\w'.cell? ⟨w.heap.size,5,none⟩=some x5:=by
 refine⟨?_,?_,?_,?_,?_,?_⟩ <;> (rw[h.cell (by simp)];simp)
theorem one_below {a:Obj} (h:Below (w.heap.size+1) (w.alloc a) w'):Below w.heap.size w w':=
 (bel_a _ _).trans (h.mono o_)
end
theorem gstmt1 (k:Int) (hk:k=1∨k=2) (s:ByteArray) (ve vf:Value) (es fs:List Nd) (t l:Int) (w:World) (hle:es.length<=2000) (hlf:fs.length<=2000) (he:Nodes w ve es) (hf:Nodes w vf fs) :
  Calls prog 126 #[.agg #[.int .i64 k,.string s,ve,vf,.int .i64 t,.int .i64 l]] w λe w'=>e=.returned (.bool (gstmtB ⟨k,s,es,fs,t,l⟩))/\Below w.heap.size w w':=by
 rcases hk with rfl|rfl;all_goals
  obtain⟨HE,HF⟩:=h2 he hf;obtain⟨ae,ce,rfl,-,-,-⟩:=he;obtain⟨af,cf,rfl,-,-,-⟩:=hf;have HD:Hid (∀b:Bool,(decide (es.length<=2000) && b)=b):=λb=>by simp[hle]
  have HDF:Hid (∀b:Bool,(decide (fs.length<=2000) && b)=b):=λb=>by simp[hlf]
  go_enter func126,ntmps126;go_wp2_with (go_at_call 30;refine (in_any _ _ _ _).mono ?_;rintro e w' ⟨rfl,rfl⟩)
  refine (gexpr_any _ es _ o_ (HE.o.below (bel_a _ _))).mono ?_;rintro e w1 ⟨rfl,hb1⟩;rw[HD.o];simp only[World.size_alloc] at hb1;have hB1:=one_below hb1;obtain⟨x0,x1,x2,x3,x4,x5⟩:=box6 hb1;cases ho:oneB es
  ·go_wp2;go_ret;exact⟨ret_bool (by simp only[gstmtB,stmtB];simp[ho]),hB1⟩
  cases hn:nameB s
  ·go_wp2_with (go_at_call 87;refine (name_any _ _).mono ?_;rintro e w' ⟨rfl,rfl⟩;rw[hn])
   go_ret;exact⟨ret_bool (by simp only[gstmtB,stmtB];simp[ho,hn]),hB1⟩
  by_cases hf0:0<fs.length
  ·go_wp2_with (go_at_call 87;refine (name_any _ _).mono ?_;rintro e w' ⟨rfl,rfl⟩;rw[hn])
   go_ret;refine⟨ret_bool ?_,hB1⟩;have:(fs.length == 0)=false:=by simp only[beq_eq_false_iff_ne];omega
   simp only[gstmtB,stmtB,this];simp[ho,hn]
  have HF0:Hid ((fs.length == 0)=true):=by show _=_;simp only[beq_iff_eq];omega
  by_cases ht:t<0
  ·go_wp2_with (go_at_call 87;refine (name_any _ _).mono ?_;rintro e w' ⟨rfl,rfl⟩;rw[hn])
   all_goals go_ret
   all_goals refine⟨ret_bool ?_,hB1⟩
   all_goals (simp only[gstmtB,stmtB,HF0.o];simp[ho,hn] <;> omega)
  by_cases hl:l<0
  ·go_wp2_with (go_at_call 87;refine (name_any _ _).mono ?_;rintro e w' ⟨rfl,rfl⟩;rw[hn])
   all_goals go_ret
   all_goals refine⟨ret_bool ?_,hB1⟩
   all_goals (simp only[gstmtB,stmtB,HF0.o];simp[ho,hn] <;> omega)
  by_cases ht2:0<t
  ·go_wp2_with (go_at_call 87;refine (name_any _ _).mono ?_;rintro e w' ⟨rfl,rfl⟩;rw[hn])
   all_goals go_ret
   all_goals refine⟨ret_bool ?_,hB1⟩
   all_goals (simp only[gstmtB,stmtB,HF0.o];simp[ho,hn] <;> omega)
  by_cases hl2:0<l
  ·go_wp2_with (go_at_call 87;refine (name_any _ _).mono ?_;rintro e w' ⟨rfl,rfl⟩;rw[hn])
   all_goals go_ret
   all_goals refine⟨ret_bool ?_,hB1⟩
   all_goals (simp only[gstmtB,stmtB,HF0.o];simp[ho,hn] <;> omega)
  go_wp2_with (go_at_call 87;refine (name_any _ _).mono ?_;rintro e w' ⟨rfl,rfl⟩;rw[hn])
  all_goals go_ret
  all_goals refine⟨ret_bool ?_,hB1⟩
  all_goals have ht':0<=t:=by omega
  all_goals have hl':0<=l:=by omega
  all_goals have e1:t=0:=by omega
  all_goals have e2:l=0:=by omega
  all_goals (simp only[gstmtB,stmtB,HF0.o];simp[ho,hn,ht',hl',e1,e2])
theorem gstmt3 (s:ByteArray) (ve vf:Value) (es fs:List Nd) (t l:Int) (w:World) (hle:es.length<=2000) (hlf:fs.length<=2000) (he:Nodes w ve es) (hf:Nodes w vf fs) :
  Calls prog 126 #[.agg #[.int .i64 3,.string s,ve,vf,.int .i64 t,.int .i64 l]] w λe w'=>e=.returned (.bool (gstmtB ⟨3,s,es,fs,t,l⟩))/\Below w.heap.size w w':=by
 obtain⟨HE,HF⟩:=h2 he hf;obtain⟨ae,ce,rfl,-,-,-⟩:=he;obtain⟨af,cf,rfl,-,-,-⟩:=hf;have HD:Hid (∀b:Bool,(decide (es.length<=2000) && b)=b):=λb=>by simp[hle]
 have HDF:Hid (∀b:Bool,(decide (fs.length<=2000) && b)=b):=λb=>by simp[hlf]
 go_enter func126,ntmps126;go_wp2_with (go_at_call 30;refine (in_any _ _ _ _).mono ?_;rintro e w' ⟨rfl,rfl⟩)
 refine (gexpr_any _ es _ o_ (HE.o.below (bel_a _ _))).mono ?_;rintro e w1 ⟨rfl,hb1⟩;rw[HD.o];simp only[World.size_alloc] at hb1;have hB1:=one_below hb1;obtain⟨x0,x1,x2,x3,x4,x5⟩:=box6 hb1;cases ho:oneB es
 ·go_wp2;go_ret;exact⟨ret_bool (by simp only[gstmtB,stmtB];simp[ho]),hB1⟩
 cases hn:nameB s
 ·go_wp2_with (go_at_call 87;refine (name_any _ _).mono ?_;rintro e w' ⟨rfl,rfl⟩;rw[hn])
  go_ret;exact⟨ret_bool (by simp only[gstmtB,stmtB];simp[ho,hn]),hB1⟩
 by_cases hf0:0<fs.length
 case neg=>
  go_wp2_with (go_at_call 87;refine (name_any _ _).mono ?_;rintro e w' ⟨rfl,rfl⟩;rw[hn])
  go_ret;refine⟨ret_bool ?_,hB1⟩;have:fs = []:=List.eq_nil_of_length_eq_zero o_
  subst this;have hoe:oneB []=false:=by simp[oneB,wholeTo]
  simp only[gstmtB,stmtB];simp[ho,hn,hoe]
 go_wp2_with (go_at_call 87;refine (name_any _ _).mono ?_;rintro e w' ⟨rfl,rfl⟩;rw[hn])
 refine (gexpr_any _ fs _ o_ (HF.o.below hB1)).mono ?_;rintro e w2 ⟨rfl,hb2⟩;rw[HDF.o];have hb2':=hb1.trans (hb2.mono (by have:=hb1.size;simp at this;omega));have hB2:=one_below hb2';obtain⟨x0,x1,x2,x3,x4,x5⟩:=box6 hb2';cases hof:oneB fs
 ·go_wp2;go_ret;exact⟨ret_bool (by simp only[gstmtB,stmtB];simp[ho,hn,hof]),hB2⟩
 by_cases ht:t<0
 ·go_wp2_with fail;all_goals go_ret
  all_goals refine⟨ret_bool ?_,hB2⟩
  all_goals (simp only[gstmtB,stmtB];simp[ho,hn,hof] <;> omega)
 by_cases hl:l<0
 ·go_wp2_with fail;all_goals go_ret
  all_goals refine⟨ret_bool ?_,hB2⟩
  all_goals (simp only[gstmtB,stmtB];simp[ho,hn,hof] <;> omega)
 by_cases ht2:0<t
 ·go_wp2_with fail;all_goals go_ret
  all_goals refine⟨ret_bool ?_,hB2⟩
  all_goals (simp only[gstmtB,stmtB];simp[ho,hn,hof] <;> omega)
 by_cases hl2:0<l
 ·go_wp2_with fail;all_goals go_ret
  all_goals refine⟨ret_bool ?_,hB2⟩
  all_goals (simp only[gstmtB,stmtB];simp[ho,hn,hof] <;> omega)
 go_wp2_with fail;all_goals go_ret
 all_goals refine⟨ret_bool ?_,hB2⟩
 all_goals have ht':0<=t:=by omega
 all_goals have hl':0<=l:=by omega
 all_goals have e1:t=0:=by omega
 all_goals have e2:l=0:=by omega
 all_goals (simp only[gstmtB,stmtB];simp[ho,hn,hof,ht',hl',e1,e2])
end Go.Proofs.YtffnkkpmlplfeaaGreatDoor
