import Derived.Test.YtffnkkpmlplfeaaGreatDoorN15
import Derived.Test.YtffnkkpmlplfeaaGreatDoorN14
namespace Go.Proofs.YtffnkkpmlplfeaaGreatDoor
open Go.Proofs.Tryz
open Go.RowKit
set_option linter.all false
set_option maxRecDepth 100000
set_option maxHeartbeats 16000000
variable[Inhabited Pick]
section
variable {w w':World}
theorem box65 {t u:TypeId} {x0 x1 x2 x3 x4 x5 y0 y1 y2 y3 y4:Value} (h:Below (w.heap.size+1+1) ((w.alloc (.cells #[x0,x1,x2,x3,x4,x5] t)).alloc (.cells #[y0,y1,y2,y3,y4] u)) w') :
  (w'.cell? ⟨w.heap.size,0,none⟩=some x0/\w'.cell? ⟨w.heap.size,1,none⟩=some x1/\w'.cell? ⟨w.heap.size,2,none⟩=some x2/\w'.cell? ⟨w.heap.size,3,none⟩=some x3/\w'.cell? ⟨w.heap.size,4,none⟩=some x4/\w'.cell? ⟨w.heap.size,5,none⟩=some x5) /\
  (w'.cell? ⟨w.heap.size+1,0,none⟩=some y0/\w'.cell? ⟨w.heap.size+1,1,none⟩=some y1/\w'.cell? ⟨w.heap.size+1,2,none⟩=some y2/\w'.cell? ⟨w.heap.size+1,3,none⟩=some y3/\w'.cell? ⟨w.heap.size+1,4,none⟩=some y4):=by
 have e0:(⟨w.heap.size+1,0,none⟩:Addr)=⟨(w.alloc (.cells #[x0,x1,x2,x3,x4,x5] t)).heap.size,0,none⟩:=by simp
 refine⟨⟨?_,?_,?_,?_,?_,?_⟩,?_,?_,?_,?_,?_⟩ <;> (rw[h.cell (by first|(simp;done)|(simp;omega))];simp)
theorem two_below {a b:Obj} (h:Below (w.heap.size+1+1) ((w.alloc a).alloc b) w'):Below w.heap.size w w':=
 ((bel_a _ _).alloc (by simp) _).trans (h.mono o_)
theorem vstmt1 (k:Int) (hk:k=1∨k=2) (s:ByteArray) (ve vf:Value) (es fs:List Nd) (t l:Int) (w:World) (hT:Tab w) (hle:es.length<=1048576) (hlf:fs.length<=1048576) (he:Nodes w ve es) (hf:Nodes w vf fs) :
  Calls prog 170 #[.agg #[.int .i64 k,.string s,ve,vf,.int .i64 t,.int .i64 l]] w λe w'=>e=.returned (.bool (stmtB ⟨k,s,es,fs,t,l⟩))/\Below w.heap.size w w':=by
 rcases hk with rfl|rfl;all_goals
  obtain⟨HE,HF⟩:=h2 he hf;obtain⟨ae,ce,rfl,-,-,-⟩:=he;obtain⟨af,cf,rfl,-,-,-⟩:=hf;have HT:=hide hT;have hsz:=HT.o.size;have c0 : ∀o,(w.alloc o).cell? ⟨0,5,none⟩=some (.bool true):=λo=>HT.o.stmtUp 5 o_ o;have c1 : ∀o,(w.alloc o).cell? ⟨0,6,none⟩=some (.bool false):=λo=>HT.o.stmtUp 6 o_ o;have c2 : ∀o,(w.alloc o).cell? ⟨0,7,none⟩=some (.bool false):=λo=>HT.o.stmtUp 7 o_ o;have c3 : ∀o,(w.alloc o).cell? ⟨0,8,none⟩=some (.bool false):=λo=>HT.o.stmtUp 8 o_ o;have c4 : ∀o,(w.alloc o).cell? ⟨0,9,none⟩=some (.bool false):=λo=>HT.o.stmtUp 9 o_ o;have d0 : ∀o,(w.alloc o).cell? ⟨0,10,none⟩=some (.bool true):=λo=>HT.o.stmtUp 10 o_ o;have d1 : ∀o,(w.alloc o).cell? ⟨0,11,none⟩=some (.bool false):=λo=>HT.o.stmtUp 11 o_ o;have d2 : ∀o,(w.alloc o).cell? ⟨0,12,none⟩=some (.bool false):=λo=>HT.o.stmtUp 12 o_ o;have d3 : ∀o,(w.alloc o).cell? ⟨0,13,none⟩=some (.bool false):=λo=>HT.o.stmtUp 13 o_ o;have d4 : ∀o,(w.alloc o).cell? ⟨0,14,none⟩=some (.bool false):=λo=>HT.o.stmtUp 14 o_ o;go_enter func170,ntmps170;go_wp2_with fail;refine (asked_yes _ _).mono ?_;rintro e w1 ⟨rfl,hb1⟩;simp only[World.size_alloc] at hb1;have hB1:=two_below hb1;obtain⟨⟨x0,x1,x2,x3,x4,x5⟩,y0,y1,y2,y3,y4⟩:=box65 hb1;cases hn:nameB s
  ·go_wp2;go_ret;exact⟨ret_bool (by simp only[stmtB];simp[hn]),hB1⟩
  go_wp2_with fail;refine (one_any _ es _ (HT.o.below hsz hB1) hle (HE.o.below hB1)).mono ?_;rintro e w2 ⟨rfl,hb2⟩;have hb2':=hb1.trans (hb2.mono (by have:=hb1.size;simp at this;omega));have hB2:=two_below hb2';obtain⟨⟨x0,x1,x2,x3,x4,x5⟩,y0,y1,y2,y3,y4⟩:=box65 hb2';cases ho:oneB es
  ·go_wp2;go_ret;exact⟨ret_bool (by simp only[stmtB];simp[hn,ho]),hB2⟩
  by_cases hf0:fs.length=0
  case neg=>
   have hf1:((fs.length:Int) == 0)=false:=by simp only[beq_eq_false_iff_ne];omega
   have hf2:((fs.length:Int) != 0)=true:=by simp only[bne_iff_ne];omega
   go_wp2;go_ret;refine⟨ret_bool ?_,hB2⟩;have:(fs.length == 0)=false:=by simpa using hf0
   simp only[stmtB];simp[hn,ho,this,hf0]
  have hf1:((fs.length:Int) == 0)=true:=by simp only[beq_iff_eq];omega
  have hf2:((fs.length:Int) != 0)=false:=by simp only[bne_eq_false_iff_eq];omega
  have HF0:=hide hf0;by_cases ht:t=0
  ·have ht1:(t == 0)=true:=by simpa using ht
   go_wp2;go_ret;refine⟨ret_bool ?_,hB2⟩;have ht:t=0:=by simpa using ht1
   simp only[stmtB];simp[hn,ho,HF0.o,ht]
  ·have ht1:(t == 0)=false:=by simpa using ht
   go_wp2;go_ret;refine⟨ret_bool ?_,hB2⟩;simp only[stmtB];simp[hn,ho,HF0.o,ht]
theorem vstmt3 (s:ByteArray) (ve vf:Value) (es fs:List Nd) (t l:Int) (w:World) (hT:Tab w) (hle:es.length<=1048576) (hlf:fs.length<=1048576) (he:Nodes w ve es) (hf:Nodes w vf fs) :
  Calls prog 170 #[.agg #[.int .i64 3,.string s,ve,vf,.int .i64 t,.int .i64 l]] w λe w'=>e=.returned (.bool (stmtB ⟨3,s,es,fs,t,l⟩))/\Below w.heap.size w w':=by
 obtain⟨HE,HF⟩:=h2 he hf;obtain⟨ae,ce,rfl,-,-,-⟩:=he;obtain⟨af,cf,rfl,-,-,-⟩:=hf;have HT:=hide hT;have hsz:=HT.o.size;have c0 : ∀o,(w.alloc o).cell? ⟨0,15,none⟩=some (.bool true):=λo=>HT.o.stmtUp 15 o_ o;have c1 : ∀o,(w.alloc o).cell? ⟨0,16,none⟩=some (.bool true):=λo=>HT.o.stmtUp 16 o_ o;have c2 : ∀o,(w.alloc o).cell? ⟨0,17,none⟩=some (.bool false):=λo=>HT.o.stmtUp 17 o_ o;have c3 : ∀o,(w.alloc o).cell? ⟨0,18,none⟩=some (.bool false):=λo=>HT.o.stmtUp 18 o_ o;have c4 : ∀o,(w.alloc o).cell? ⟨0,19,none⟩=some (.bool false):=λo=>HT.o.stmtUp 19 o_ o;go_enter func170,ntmps170;go_wp2_with fail;refine (asked_yes _ _).mono ?_;rintro e w1 ⟨rfl,hb1⟩;simp only[World.size_alloc] at hb1;have hB1:=two_below hb1;obtain⟨⟨x0,x1,x2,x3,x4,x5⟩,y0,y1,y2,y3,y4⟩:=box65 hb1;cases hn:nameB s
 ·go_wp2;go_ret;exact⟨ret_bool (by simp only[stmtB];simp[hn]),hB1⟩
 go_wp2_with fail;refine (one_any _ es _ (HT.o.below hsz hB1) hle (HE.o.below hB1)).mono ?_;rintro e w2 ⟨rfl,hb2⟩;have hb2':=hb1.trans (hb2.mono (by have:=hb1.size;simp at this;omega));have hB2:=two_below hb2';obtain⟨⟨x0,x1,x2,x3,x4,x5⟩,y0,y1,y2,y3,y4⟩:=box65 hb2';cases ho:oneB es
 ·go_wp2;go_ret;exact⟨ret_bool (by simp only[stmtB];simp[hn,ho]),hB2⟩
 go_wp2_with fail;refine (one_any _ fs _ (HT.o.below hsz hB2) hlf (HF.o.below hB2)).mono ?_;rintro e w3 ⟨rfl,hb3⟩;have hb3':=hb2'.trans (hb3.mono (by have:=hb2'.size;simp at this;omega));have hB3:=two_below hb3';obtain⟨⟨x0,x1,x2,x3,x4,x5⟩,y0,y1,y2,y3,y4⟩:=box65 hb3';cases hof:oneB fs
 ·go_wp2;go_ret;exact⟨ret_bool (by simp only[stmtB];simp[hn,ho,hof]),hB3⟩
 by_cases ht:t=0
 ·have ht1:(t == 0)=true:=by simpa using ht
  go_wp2;go_ret;refine⟨ret_bool ?_,hB3⟩;have ht:t=0:=by simpa using ht1
  simp only[stmtB];simp[hn,ho,hof,ht]
 ·have ht1:(t == 0)=false:=by simpa using ht
  go_wp2;go_ret;refine⟨ret_bool ?_,hB3⟩;simp only[stmtB];simp[hn,ho,hof,ht]
theorem vstmt4 (k:Int) (hk:k=4∨k=5) (s:ByteArray) (ve vf:Value) (es fs:List Nd) (t l:Int) (w:World) (hT:Tab w) (hle:es.length<=1048576) (hlf:fs.length<=1048576) (he:Nodes w ve es) (hf:Nodes w vf fs) :
  Calls prog 170 #[.agg #[.int .i64 k,.string s,ve,vf,.int .i64 t,.int .i64 l]] w λe w'=>e=.returned (.bool (stmtB ⟨k,s,es,fs,t,l⟩))/\Below w.heap.size w w':=by
 rcases hk with rfl|rfl;all_goals
  obtain⟨HE,HF⟩:=h2 he hf;obtain⟨ae,ce,rfl,-,-,-⟩:=he;obtain⟨af,cf,rfl,-,-,-⟩:=hf;have HT:=hide hT;have hsz:=HT.o.size;have c0 : ∀o,(w.alloc o).cell? ⟨0,20,none⟩=some (.bool false):=λo=>HT.o.stmtUp 20 o_ o;have c1 : ∀o,(w.alloc o).cell? ⟨0,21,none⟩=some (.bool false):=λo=>HT.o.stmtUp 21 o_ o;have c2 : ∀o,(w.alloc o).cell? ⟨0,22,none⟩=some (.bool true):=λo=>HT.o.stmtUp 22 o_ o;have c3 : ∀o,(w.alloc o).cell? ⟨0,23,none⟩=some (.bool true):=λo=>HT.o.stmtUp 23 o_ o;have c4 : ∀o,(w.alloc o).cell? ⟨0,24,none⟩=some (.bool false):=λo=>HT.o.stmtUp 24 o_ o;have d0 : ∀o,(w.alloc o).cell? ⟨0,25,none⟩=some (.bool false):=λo=>HT.o.stmtUp 25 o_ o;have d1 : ∀o,(w.alloc o).cell? ⟨0,26,none⟩=some (.bool false):=λo=>HT.o.stmtUp 26 o_ o;have d2 : ∀o,(w.alloc o).cell? ⟨0,27,none⟩=some (.bool true):=λo=>HT.o.stmtUp 27 o_ o;have d3 : ∀o,(w.alloc o).cell? ⟨0,28,none⟩=some (.bool false):=λo=>HT.o.stmtUp 28 o_ o;have d4 : ∀o,(w.alloc o).cell? ⟨0,29,none⟩=some (.bool false):=λo=>HT.o.stmtUp 29 o_ o;go_enter func170,ntmps170;go_wp2_with fail;refine (asked_no _ _).mono ?_;rintro e w1 ⟨rfl,hb1⟩;simp only[World.size_alloc] at hb1;have hB1:=two_below hb1;obtain⟨⟨x0,x1,x2,x3,x4,x5⟩,y0,y1,y2,y3,y4⟩:=box65 hb1;cases hn:s.toList == []
  ·go_wp2;go_ret;exact⟨ret_bool (by simp only[stmtB];simp[hn]),hB1⟩
  go_wp2_with fail;refine (one_any _ es _ (HT.o.below hsz hB1) hle (HE.o.below hB1)).mono ?_;rintro e w2 ⟨rfl,hb2⟩;have hb2':=hb1.trans (hb2.mono (by have:=hb1.size;simp at this;omega));have hB2:=two_below hb2';obtain⟨⟨x0,x1,x2,x3,x4,x5⟩,y0,y1,y2,y3,y4⟩:=box65 hb2';cases ho:oneB es
  ·go_wp2;go_ret;exact⟨ret_bool (by simp only[stmtB];simp[hn,ho]),hB2⟩
  by_cases hf0:fs.length=0
  case neg=>
   have hf1:((fs.length:Int) == 0)=false:=by simp only[beq_eq_false_iff_ne];omega
   have hf2:((fs.length:Int) != 0)=true:=by simp only[bne_iff_ne];omega
   go_wp2;go_ret;refine⟨ret_bool ?_,hB2⟩;have:(fs.length == 0)=false:=by simpa using hf0
   simp only[stmtB];simp[hn,ho,this,hf0]
  have hf1:((fs.length:Int) == 0)=true:=by simp only[beq_iff_eq];omega
  have hf2:((fs.length:Int) != 0)=false:=by simp only[bne_eq_false_iff_eq];omega
  have HF0:=hide hf0;go_wp2;go_ret;refine⟨ret_bool ?_,hB2⟩;simp only[stmtB];simp[hn,ho,HF0.o]
theorem vstmt6 (k:Int) (hk:k=6∨k=7) (s:ByteArray) (ve vf:Value) (es fs:List Nd) (t l:Int) (w:World) (hT:Tab w) (hle:es.length<=1048576) (hlf:fs.length<=1048576) (he:Nodes w ve es) (hf:Nodes w vf fs) :
  Calls prog 170 #[.agg #[.int .i64 k,.string s,ve,vf,.int .i64 t,.int .i64 l]] w λe w'=>e=.returned (.bool (stmtB ⟨k,s,es,fs,t,l⟩))/\Below w.heap.size w w':=by
 rcases hk with rfl|rfl;all_goals
  obtain⟨HE,HF⟩:=h2 he hf;obtain⟨ae,ce,rfl,-,-,-⟩:=he;obtain⟨af,cf,rfl,-,-,-⟩:=hf;have HT:=hide hT;have hsz:=HT.o.size;have c0 : ∀o,(w.alloc o).cell? ⟨0,30,none⟩=some (.bool false):=λo=>HT.o.stmtUp 30 o_ o;have c1 : ∀o,(w.alloc o).cell? ⟨0,31,none⟩=some (.bool false):=λo=>HT.o.stmtUp 31 o_ o;have c2 : ∀o,(w.alloc o).cell? ⟨0,32,none⟩=some (.bool false):=λo=>HT.o.stmtUp 32 o_ o;have c3 : ∀o,(w.alloc o).cell? ⟨0,33,none⟩=some (.bool false):=λo=>HT.o.stmtUp 33 o_ o;have c4 : ∀o,(w.alloc o).cell? ⟨0,34,none⟩=some (.bool false):=λo=>HT.o.stmtUp 34 o_ o;have d0 : ∀o,(w.alloc o).cell? ⟨0,35,none⟩=some (.bool false):=λo=>HT.o.stmtUp 35 o_ o;have d1 : ∀o,(w.alloc o).cell? ⟨0,36,none⟩=some (.bool false):=λo=>HT.o.stmtUp 36 o_ o;have d2 : ∀o,(w.alloc o).cell? ⟨0,37,none⟩=some (.bool false):=λo=>HT.o.stmtUp 37 o_ o;have d3 : ∀o,(w.alloc o).cell? ⟨0,38,none⟩=some (.bool false):=λo=>HT.o.stmtUp 38 o_ o;have d4 : ∀o,(w.alloc o).cell? ⟨0,39,none⟩=some (.bool false):=λo=>HT.o.stmtUp 39 o_ o;go_enter func170,ntmps170;go_wp2_with fail;refine (asked_no _ _).mono ?_;rintro e w1 ⟨rfl,hb1⟩;simp only[World.size_alloc] at hb1;have hB1:=two_below hb1;obtain⟨⟨x0,x1,x2,x3,x4,x5⟩,y0,y1,y2,y3,y4⟩:=box65 hb1;cases hn:s.toList == []
  ·go_wp2;go_ret;exact⟨ret_bool (by simp only[stmtB];simp[hn]),hB1⟩
  go_wp2_with fail;refine (one_any _ es _ (HT.o.below hsz hB1) hle (HE.o.below hB1)).mono ?_;rintro e w2 ⟨rfl,hb2⟩;have hb2':=hb1.trans (hb2.mono (by have:=hb1.size;simp at this;omega));have hB2:=two_below hb2';obtain⟨⟨x0,x1,x2,x3,x4,x5⟩,y0,y1,y2,y3,y4⟩:=box65 hb2';cases ho:oneB es
  ·go_wp2;go_ret;exact⟨ret_bool (by simp only[stmtB];simp[hn,ho]),hB2⟩
  by_cases hf0:fs.length=0
  case neg=>
   have hf1:((fs.length:Int) == 0)=false:=by simp only[beq_eq_false_iff_ne];omega
   have hf2:((fs.length:Int) != 0)=true:=by simp only[bne_iff_ne];omega
   go_wp2;go_ret;refine⟨ret_bool ?_,hB2⟩;have:(fs.length == 0)=false:=by simpa using hf0
   simp only[stmtB];simp[hn,ho,this,hf0]
  have hf1:((fs.length:Int) == 0)=true:=by simp only[beq_iff_eq];omega
  have hf2:((fs.length:Int) != 0)=false:=by simp only[bne_eq_false_iff_eq];omega
  have HF0:=hide hf0;by_cases ht:t=0
  ·have ht1:(t == 0)=true:=by simpa using ht
   go_wp2;go_ret;refine⟨ret_bool ?_,hB2⟩;have ht:t=0:=by simpa using ht1
   simp only[stmtB];simp[hn,ho,HF0.o,ht]
  ·have ht1:(t == 0)=false:=by simpa using ht
   go_wp2;go_ret;refine⟨ret_bool ?_,hB2⟩;simp only[stmtB];simp[hn,ho,HF0.o,ht]
theorem vstmt8 (s:ByteArray) (ve vf:Value) (es fs:List Nd) (t l:Int) (w:World) (hT:Tab w) (hle:es.length<=1048576) (hlf:fs.length<=1048576) (he:Nodes w ve es) (hf:Nodes w vf fs) :
  Calls prog 170 #[.agg #[.int .i64 8,.string s,ve,vf,.int .i64 t,.int .i64 l]] w λe w'=>e=.returned (.bool (stmtB ⟨8,s,es,fs,t,l⟩))/\Below w.heap.size w w':=by
 obtain⟨HE,HF⟩:=h2 he hf;obtain⟨ae,ce,rfl,-,-,-⟩:=he;obtain⟨af,cf,rfl,-,-,-⟩:=hf;have HT:=hide hT;have hsz:=HT.o.size;have c0 : ∀o,(w.alloc o).cell? ⟨0,40,none⟩=some (.bool false):=λo=>HT.o.stmtUp 40 o_ o;have c1 : ∀o,(w.alloc o).cell? ⟨0,41,none⟩=some (.bool false):=λo=>HT.o.stmtUp 41 o_ o;have c2 : ∀o,(w.alloc o).cell? ⟨0,42,none⟩=some (.bool false):=λo=>HT.o.stmtUp 42 o_ o;have c3 : ∀o,(w.alloc o).cell? ⟨0,43,none⟩=some (.bool false):=λo=>HT.o.stmtUp 43 o_ o;have c4 : ∀o,(w.alloc o).cell? ⟨0,44,none⟩=some (.bool true):=λo=>HT.o.stmtUp 44 o_ o;go_enter func170,ntmps170;go_wp2_with fail;refine (asked_no _ _).mono ?_;rintro e w1 ⟨rfl,hb1⟩;simp only[World.size_alloc] at hb1;have hB1:=two_below hb1;obtain⟨⟨x0,x1,x2,x3,x4,x5⟩,y0,y1,y2,y3,y4⟩:=box65 hb1;cases hn:s.toList == []
 ·go_wp2;go_ret;exact⟨ret_bool (by simp only[stmtB];simp[hn]),hB1⟩
 go_wp2_with fail;refine (one_any _ es _ (HT.o.below hsz hB1) hle (HE.o.below hB1)).mono ?_;rintro e w2 ⟨rfl,hb2⟩;have hb2':=hb1.trans (hb2.mono (by have:=hb1.size;simp at this;omega));have hB2:=two_below hb2';obtain⟨⟨x0,x1,x2,x3,x4,x5⟩,y0,y1,y2,y3,y4⟩:=box65 hb2';cases ho:oneB es
 ·go_wp2;go_ret;exact⟨ret_bool (by simp only[stmtB];simp[hn,ho]),hB2⟩
 by_cases hf0:fs.length=0
 case neg=>
  have hf1:((fs.length:Int) == 0)=false:=by simp only[beq_eq_false_iff_ne];omega
  have hf2:((fs.length:Int) != 0)=true:=by simp only[bne_iff_ne];omega
  go_wp2;go_ret;refine⟨ret_bool ?_,hB2⟩;have:(fs.length == 0)=false:=by simpa using hf0
  simp only[stmtB];simp[hn,ho,this,hf0]
 have hf1:((fs.length:Int) == 0)=true:=by simp only[beq_iff_eq];omega
 have hf2:((fs.length:Int) != 0)=false:=by simp only[bne_eq_false_iff_eq];omega
 have HF0:=hide hf0;obtain⟨m,hm⟩ : ∃m,es.length=m+1:=⟨es.length-1,by have:=oneB_pos ho;omega⟩;obtain⟨ae',ce',hse,-,-,hne⟩:=HE.o.below hB2;obtain⟨b,off,hae,hnc⟩:=hne o_;simp only[Value.slice.injEq] at hse;obtain⟨d0,d1,d2⟩:=hnc m o_;have HL:Hid (lastKind es=(es[m]' o_).kind):=by
  have e2:es.length-1=m:=by omega
  show lastKind es=_;simp only[lastKind,e2];rw[List.getElem?_eq_getElem o_]
 rw[hse.1,hae,hm] at x2;have e1:((m+1:Nat):Int)-1=(m:Int):=by omega
 have hmb:m<=1048576:=by omega
 generalize es[m].kind=q at d0 HL;by_cases hq:q=4
 case neg=>
  have hq1:(q == 4)=false:=by simpa using hq
  go_wp2;go_ret;refine⟨ret_bool ?_,hB2⟩;simp only[stmtB];simp[hn,ho,HF0.o,HL.o,hq]
 have hq1:(q == 4)=true:=by simpa using hq
 have HQ:=hide hq;by_cases ht:t=0
 ·have ht1:(t == 0)=true:=by simpa using ht
  go_wp2;go_ret;refine⟨ret_bool ?_,hB2⟩;have ht:t=0:=by simpa using ht1
  simp only[stmtB];simp[hn,ho,HF0.o,HL.o,HQ.o,ht]
 ·have ht1:(t == 0)=false:=by simpa using ht
  go_wp2;go_ret;refine⟨ret_bool ?_,hB2⟩;simp only[stmtB];simp[hn,ho,HF0.o,HL.o,HQ.o,ht]
theorem vstmtX (k:Int) (s:ByteArray) (ve vf:Value) (es fs:List Nd) (t l:Int) (w:World) (hk:k<1∨8<k) (he:Nodes w ve es) (hf:Nodes w vf fs) :
  Calls prog 170 #[.agg #[.int .i64 k,.string s,ve,vf,.int .i64 t,.int .i64 l]] w λe w'=>e=.returned (.bool (stmtB ⟨k,s,es,fs,t,l⟩))/\Below w.heap.size w w':=by
 obtain⟨ae,ce,rfl,-,-,-⟩:=he;obtain⟨af,cf,rfl,-,-,-⟩:=hf;have hs:stmtB ⟨k,s,es,fs,t,l⟩=false:=by
  have:decide (1<=k/\k<=8)=false:=by simp;omega
  simp only[stmtB,this,Bool.false_and]
 rw[hs];rcases hk with hk|hk
 ·go_enter func170,ntmps170;go_wp2;go_ret;exact⟨rfl,r_.alloc n_ _⟩
 ·have h':1<=k:=by omega
  go_enter func170,ntmps170;go_wp2;go_ret;exact⟨rfl,r_.alloc n_ _⟩
theorem vstmt_any (s:St) (ve vf:Value) (w:World) (hT:Tab w) (hle:s.e.length<=1048576) (hlf:s.f.length<=1048576) (he:Nodes w ve s.e) (hf:Nodes w vf s.f) :
  Calls prog 170 #[.agg #[.int .i64 s.kind,.string s.name,ve,vf,.int .i64 s.thn,.int .i64 s.els]] w λe w'=>e=.returned (.bool (stmtB s))/\Below w.heap.size w w':=by
 obtain⟨k,s,es,fs,t,l⟩:=s;by_cases hk:k<1∨8<k
 ·exact vstmtX k s ve vf es fs t l w hk he hf
 have h9:k=1∨k=2∨k=3∨k=4∨k=5∨k=6∨k=7∨k=8:=by omega
 rcases h9 with rfl|rfl|rfl|rfl|rfl|rfl|rfl|rfl
 ·exact vstmt1 1 (.inl rfl) s ve vf es fs t l w hT hle hlf he hf
 ·exact vstmt1 2 (.inr rfl) s ve vf es fs t l w hT hle hlf he hf
 ·exact vstmt3 s ve vf es fs t l w hT hle hlf he hf
 ·exact vstmt4 4 (.inl rfl) s ve vf es fs t l w hT hle hlf he hf
 ·exact vstmt4 5 (.inr rfl) s ve vf es fs t l w hT hle hlf he hf
 ·exact vstmt6 6 (.inl rfl) s ve vf es fs t l w hT hle hlf he hf
 ·exact vstmt6 7 (.inr rfl) s ve vf es fs t l w hT hle hlf he hf
 ·exact vstmt8 s ve vf es fs t l w hT hle hlf he hf
end
section
variable {w:World} {a:Option Addr} {cap:Nat} {ns:List Nd}
theorem Nodes.cut (h:Nodes w (.slice a ns.length cap) ns) (lo hi:Nat) (h1:lo<=hi) (h2:hi<=ns.length) :
  Nodes w (.slice (if cap=lo then a else a.map (·.add (lo*3))) (hi-lo) (cap-lo)) ((ns.take hi).drop lo):=by
 obtain⟨a',cap',he,hl,hm,h⟩:=h;simp only[Value.slice.injEq,true_and] at he;obtain⟨rfl,rfl⟩:=he;refine⟨if cap=lo then a else a.map (·.add (lo*3)),cap-lo,by simp[Nat.min_eq_left h2],by simp[Nat.min_eq_left h2];omega,by omega,λh0 => ?_⟩;simp only[List.length_drop,List.length_take,Nat.min_eq_left h2] at h0;obtain⟨b,off,rfl,hc⟩:=h o_;refine⟨b,off+lo*3,?_,λj hj => ?_⟩
 ·rw[if_neg o_];simp[Addr.add]
 ·simp only[List.length_drop,List.length_take,Nat.min_eq_left h2] at hj;have hcc:=hc (lo+j) o_;have e:((ns.take hi).drop lo)[j]'(by simp;omega)=ns[lo+j]' o_:=by simp
  rw[e];have e1:off+lo*3+j*3=off+(lo+j)*3:=by omega
  rw[e1];exact hcc
theorem Nodes.head (h:Nodes w (.slice a ns.length cap) ns) (hi:Nat) (h2:hi<=ns.length):Nodes w (.slice a hi cap) (ns.take hi):=by
 have:=h.cut 0 hi y_ h2
 have e:(if cap=0 then a else a.map (·.add (0*3)))=a:=by
  split
  ·rfl
  ·cases a <;> simp[Addr.add]
 rw[e] at this;simpa using this
theorem ncut_run_l (a:Option Addr) (n cap lo:Nat) (h2:lo<=n) (h3:n<=cap) : ∀w:World,(Instr.slice 130 (.slice a n cap) (some (.int .i64 lo)) none none).run prog w=.ok (.slice (if cap=lo then a else a.map (·.add (lo*3))) (n-lo) (cap-lo)) w:=by
 intro w;have hz:prog.elem 130=134:=by kernel_rfl
 have hs:(sizeOf 134).run prog w=.ok 3 w:=by kernel_rfl
 rw[run_slice_l w 130 a n cap (by rw[hz];exact underlying130) .i64 _ o_ o_,hz,hs];simp only[Result.andThen,sliced,Int.toNat_natCast]
def Kids (w0 w:World) (N:Nat) (v:Value) (e:List Nd) (b:Nat->Nat) (A:Nat):Prop:=
 ∃a cap,v=.slice a A cap/\A<=cap/\cap<=9223372036854775807/\(0<A->∃B,a=some ⟨B,0,none⟩/\N<=B/\B<w.heap.size/\∀i,i<A->∃vi,w.cell? ⟨B,i,none⟩=some vi/\Nodes w0 vi (kid e b i))
theorem info_nodes:(prog.info? 130).map (λi=>(i.zero,i.size,i.bytes))=some (some (.slice none 0 0),1,24):=by kernel_rfl
end
theorem from_beg {ns:List Nd} {k i:Nat} {r:Int} (hk:k<=ns.length) (hb:begP ns k i) (h:fromP (ns.take k) r):r=i:=by
 have hlen:(ns.take k).length=k:=by simp;omega
 obtain⟨b1,b2,b3⟩:=hb;rcases h with ⟨i',rfl,h1,h2,h3⟩|⟨rfl,h1⟩
 ·rw[hlen] at h1 h3;have:i'=i:=by
   rcases Nat.lt_trichotomy i' i with h|h|h
   ·have:=h3 i h o_;omega
   ·exact h
   ·have:=b3 i' h o_;omega
  omega
 ·have:=h1 i (by rw[hlen];omega)
  omega
theorem nhead_run (a:Option Addr) (n cap hi:Nat) (h2:hi<=n) (h3:n<=cap) : ∀w:World,(Instr.slice 130 (.slice a n cap) none (some (.int .i64 (hi:Int))) none).run prog w=.ok (.slice a hi cap) w:=by
 intro w;have hz:prog.elem 130=134:=by kernel_rfl
 have hs:(sizeOf 134).run prog w=.ok 3 w:=by kernel_rfl
 rw[run_slice_h w 130 a n cap (by rw[hz];exact underlying130) .i64 _ o_ o_,hz,hs];simp only[Result.andThen,sliced,Int.toNat_natCast,Nat.sub_zero,Nat.zero_mul];have e:(if cap=0 then a else a.map (·.add 0))=a:=by
  split
  ·rfl
  ·cases a <;> simp[Addr.add]
 rw[e]
def KRow (w0 w:World) (N:Nat) (v:Value) (e:List Nd) (b:Nat->Nat) (A i:Nat):Prop:=
 ∃(B cap:Nat) (vs:List Value),v=.slice (some ⟨B,0,none⟩) (A-i) cap/\A-i<=cap/\cap<=9223372036854775807/\N<=B/\B<w.heap.size/\vs.length=A-i/\∀j (h:j<vs.length),w.cell? ⟨B,j,none⟩=some vs[j]/\Nodes w0 vs[j] (kid e b (i+j))
theorem KRow.kids {w0 w:World} {N:Nat} {v:Value} {e:List Nd} {b:Nat->Nat} {A:Nat} (h:KRow w0 w N v e b A 0):Kids w0 w N v e b A:=by
 obtain⟨B,cap,vs,rfl,h1,h2,h3,h4,h5,h6⟩:=h;rw[Nat.sub_zero] at *;refine⟨_,cap,rfl,h1,h2,λ_=>⟨B,rfl,h3,h4,λi hi => ?_⟩⟩;have:=h6 i o_
 rw[Nat.zero_add] at this;exact⟨_,this⟩
theorem nodes_one {w:World} {v:Value} {ns:List Nd} (h:Nodes w v ns):v.oneCell'=true:=by
 obtain⟨a,cap,rfl,_⟩:=h;rfl
theorem addr0 (g j:Nat):(⟨g,0,none⟩:Addr).add j=⟨g,j,none⟩:=by
 simp[Addr.add];try (intro h;omega)
theorem KRow.cons {w0 w w':World} {N:Nat} {v' u:Value} {vs:List Value} {e:List Nd} {b:Nat->Nat} {A i n:Nat} (hi:i<A) (hvl:vs.length=A-(i+1)) (hvs : ∀j (h:j<vs.length),Nodes w0 vs[j] (kid e b (i+1+j))) (hu:Nodes w0 u (kid e b i)) (hown:w'.ownsRow N 130 1 v' (1+n) ([u]++vs)) (hn:n=A-(i+1)):KRow w0 w' N v' e b A i:=by
 have hown0:=hown;obtain⟨hlen,h⟩:=hown;rcases h with ⟨_,h0⟩|⟨g,cap,cur,rfl,hg,hh,hc1,hc2,hc3,hc4⟩
 ·omega
 ·refine⟨g,cap,u::vs,by rw[show 1+n=A-i by omega],by omega,by simp only[maxLen] at hc2;omega,hg,(Array.getElem?_eq_some_iff.1 hh).1,by simp;omega,λj hj => ?_⟩;have hcell:=hown0.cells (g:=g) rfl j ((u::vs)[j]) (by simp[List.getElem?_eq_getElem hj]);rw[addr0] at hcell;refine⟨hcell,?_⟩;cases j with
  | zero=>simpa using hu
  | succ j=>
   have:=hvs j (by simpa using hj)
   simpa[Nat.add_comm,Nat.add_left_comm,Nat.add_assoc] using this
theorem kids_any (w0:World) (v:Value) (e:List Nd) (A:Nat) (b:Nat->Nat) (w:World) (hl:e.length<=1048576) (hc:Nodes w0 v e) (hB0:Below w0.heap.size w0 w) (hb:Cut e A b) :
  Calls prog 164 #[v] w λr w'=>∃v',r=.returned v'/\Kids w0 w' w.heap.size v' e b A/\Below w.heap.size w w':=by
 obtain⟨HN,HB0,HB⟩:=h3 hc hB0 hb;obtain⟨a,cap,rfl,hcl,hcm,-⟩:=hc;have hpos:=hb.len;obtain⟨m,hm⟩ : ∃m,e.length=m+1:=⟨e.length-1,by omega⟩;have hA6:=hb.arA;have hA6':(A:Int)<=6:=by omega
 obtain⟨i0,hi,hz0,hz1,hz2⟩:=info_parts info_nodes;have HR:Hid (∀W:World,Bl w W->Calls prog 162 #[.slice a e.length cap] W λr w'=>r=.returned (.agg #[.int .i64 (rootN e).kind,.int .i64 (rootN e).val,.string (rootN e).name])/\Bl W w'):=λW hW=>by
  have:=root_any _ e W hpos hl (HN.o.below (HB0.o.trans (hW.mono HB0.o.size)))
  rw[<-rootN_eq e hpos] at this;exact this
 have HA:Hid (∀W:World,Calls prog 196 #[.agg #[.int .i64 (rootN e).kind,.int .i64 (rootN e).val,.string (rootN e).name]] W λr w'=>r=.returned (.int .i64 A)/\Bl W w'):=λW=>by
  have:=arity_nd (rootN e) W
  rw[hb.ar] at this;exact this
 generalize (rootN e).kind=rk at HR HA;generalize (rootN e).val=rv at HR HA;generalize (rootN e).name=rn at HR HA;have HM:=hide hm;have e1:((m+1:Nat):Int)-1=(m:Int):=by omega
 rw[hm] at hl hcl hpos HN HR ⊢;have hnr:=nhead_run a (m+1) cap m o_ hcl;go_enter func164,ntmps164;go_wp2_with fail;refine (HR _ (bel_a _ _)).mono ?_;rintro x w1 ⟨rfl,hb1⟩;go_wp2_with fail;refine (HA w1).mono ?_;rintro x w2 ⟨rfl,hb2⟩;have hbW:Bl w w2:=((bel_a _ _).trans (hb1.mono (by simp))).trans (hb2.mono (by have:=hb1.size;simp at this;omega));have hs1:=hb1.size;have hs2:=hb2.size;simp only[World.size_alloc] at hs1;have HK0:Hid (KRow w0 w2 w.heap.size (.slice (some ⟨w.heap.size,0,none⟩) 0 0) e b A A):=⟨w.heap.size,0,[],by rw[Nat.sub_self],by omega,by omega,n_,by omega,by simp,λj hj=>absurd hj (by simp)⟩;have HBW:=hide hbW;go_wp2_with fail;go_loopw [3,4,5] (λrs ot ix wr=>∃(k:Nat),k<=A/\ix=.int .i64 (k:Int)/\rs=.slice a (b k) cap/\KRow w0 wr w.heap.size ot e b A k/\Bl w wr) (λ_ _ ix _=>(RowKit.intOf ix).toNat)
 case atStart=>exact⟨A,n_,rfl,by rw[HB.o.last,HM.o];rfl,HK0,HBW⟩
 case round=>
  obtain⟨k,hk,rfl,rfl,hK,hB⟩:=hrel;have HK:=hide hK;rcases Nat.eq_zero_or_pos k with rfl|hk0
  ·have HKs:Hid (Kids w0 wr w.heap.size u4 e b A):=hK.kids;go_wp2_with fail;exact bodyPost_ret (v:=u4) (by simp[results,results164,go_sem]) rfl ⟨_,rfl,HKs,hB⟩
  ·obtain⟨i,rfl⟩ : ∃i,k=i+1:=⟨k-1,by omega⟩;have hbe:=(HB.o.beg i o_).1;have hble:=HB.o.le' (i+1) o_;rw[HM.o] at hble;have HC:Hid (Calls prog 194 #[.slice a (b (i+1)) cap] wr λx w'=>x=.returned (.int .i64 (b i))/\Bl wr w'):=by
    have hNh:Nodes wr (.slice a (b (i+1)) cap) (e.take (b (i+1))):=(Nodes.head (by rw[HM.o];exact HN.o.below (HB0.o.trans (hB.mono HB0.o.size))) (b (i+1)) (by rw[HM.o];omega));refine (from_any _ (e.take (b (i+1))) wr (by simp;omega) (λn hn=>HB.o.good n (List.mem_of_mem_take hn)) hNh).mono ?_;rintro x w' ⟨r,hf,-,-,rfl,hb⟩;rw[from_beg (by rw[HM.o];omega) (HB.o.beg i o_) hf];exact⟨rfl,hb⟩
   have hcut:=ncut_run_l a (b (i+1)) cap (b i) o_ o_;have hhd:=nhead_run a (b (i+1)) cap (b i) o_ o_;have HNC:Hid (Nodes w0 (.slice (if cap=b i then a else a.map (·.add (b i*3))) (b (i+1)-b i) (cap-b i)) (kid e b i)):=Nodes.cut (by rw[HM.o];exact HN) (b i) (b (i+1)) o_ (by rw[HM.o];omega);generalize (if cap=b i then a else a.map (·.add (b i*3)))=ua at hcut HNC;generalize b (i+1)-b i=un at hcut HNC;generalize cap-b i=uc at hcut HNC;obtain⟨B,kc,vs,rfl,k1,k2,k3,k4,k5,k6⟩:=hK;have HV:Hid (∀j (h:j<vs.length),Nodes w0 vs[j] (kid e b (i+1+j))):=λj hj=>(k6 j hj).2;have HVC:Hid (∀j (h:j<vs.length),wr.cell? ⟨B,j,none⟩=some vs[j]):=λj hj=>(k6 j hj).1;generalize hbi:b i=bi at *;generalize hbi1:b (i+1)=bi1 at *;go_wp2_with fail;refine HC.o.mono ?_;rintro x w3 ⟨rfl,hb3⟩;have hB3:=hB.trans (hb3.mono hB.size);have HNews:Hid (∀o j u,vs[j]? = some u->(w3.alloc o).cell? ((⟨B,0,none⟩:Addr).add j)=some u):=λo j u hj=>by
    obtain⟨hlt,rfl⟩:=List.getElem?_eq_some_iff.1 hj;rw[addr0,((hb3.alloc hb3.size o)).cell (p:=⟨B,j,none⟩) k4];exact HVC j hlt
   have HOne:Hid (∀u∈vs,u.oneCell'=true):=λu hu=>by
    obtain⟨j,hj,rfl⟩:=List.mem_iff_getElem.1 hu;exact nodes_one (HV j hj)
   have hs3:=hB3.size;have hs3':=hb3.size;go_wp2_with (at_builtin;refine wpList_append_own _ rfl _ _ 252 rfl w.heap.size 130 i0 (.slice none 0 0) 1 24 underlying252 hi hz0 hz1 hz2 rfl (by decide) _ 1 [.slice ua un uc] rfl (World.ownsRow_lit w3 #[.slice ua un uc] 1 hs3 (by decide) rfl) ⟨B,0,none⟩ (A-(i+1)) kc vs rfl (by rw[k5,Nat.mul_one]) (HNews _) HOne (by unfold maxLen;omega) o_ (by simp;omega) ?_)
   intro v' w4 hown hgrow _;have hB4:Bl w w4:=(hB3.alloc hs3 _).grown hgrow (by simp;omega) (λk hk=>by simp only[Value.ownBlock,Option.some.injEq] at hk;omega);have HKc:Hid (KRow w0 w4 w.heap.size v' e b A i):=KRow.cons (w:=w) o_ k5 HV HNC hown rfl;go_wp2_with fail;go_roundw
   case rel=>exact⟨i,by omega,by go_num,by rw[hbi],HKc,hB4⟩
   case measure=>simp[RowKit.intOf]
theorem Tv.bel {w w':World} {S:Nat->Prop} {v:Value} {r:List Nd} (h:Tv w S v r) (hS : ∀B,S B->B<w.heap.size) (hb:Below w.heap.size w w'):Tv w' S v r:=h.keep (λ_ h=>h) (λB hB=>hb.block B (hS B hB))
theorem size0 {s:ByteArray} (h:s.toList = []):s=⟨#[]⟩:=by
 have hl : ∀(n:Nat) (i:Nat) (r:List UInt8),s.size-i=n->ByteArray.toList.loop s i r = []->r = []:=by
  intro n;induction n with
  | zero=>
   intro i r hi h;rw[ByteArray.toList.loop,if_neg o_] at h;simpa using h
  | succ n ih=>
   intro i r hi h;rw[ByteArray.toList.loop,if_pos o_] at h;have:=ih (i+1) _ o_ h
   simp at this
 have h0:s.size=0:=by
  rcases Nat.eq_zero_or_pos s.size with h0|hp
  ·exact h0
  ·rw[ByteArray.toList,ByteArray.toList.loop,if_pos hp] at h;have:=hl _ _ _ rfl h
   simp at this
 apply ByteArray.ext;exact Array.eq_empty_of_size_eq_zero h0
theorem node_rest {n:Nd} (h:nodeB n=true):(n.kind=1∨n.kind=5∨n.kind=6∨n.kind=7∨n.kind=8∨n.kind=9->n.name=⟨#[]⟩)/\(n.kind=2∨n.kind=3∨n.kind=5∨n.kind=8∨n.kind=9->n.val=0):=by
 unfold nodeB at h;refine⟨λhk => ?_,λhk => ?_⟩
 ·apply size0;rcases hk with hk|hk|hk|hk|hk|hk <;> (simp[hk] at h;exact h.2)
 ·rcases hk with hk|hk|hk|hk|hk <;> (simp[hk] at h;exact h.1)
def nodeV (n:Nd) (ar:Value) (vs:Nat->Value):Value:=
 if n.kind=1 then .iface 236 (.agg #[.int .i64 n.val])
 else if n.kind=2 then .iface 264 (.agg #[.string n.name])
 else if n.kind=3 then .iface 266 (.agg #[.string n.name,vs 0])
 else if n.kind=4 then .iface 268 (.agg #[.string n.name,ar])
 else if n.kind=6 then .iface 270 (.agg #[.int .i64 n.val,vs 0])
 else if n.kind=7 then .iface 272 (.agg #[.int .i64 n.val,vs 0,vs 1])
 else if n.kind=8 then .iface 274 (.agg #[vs 0,vs 1])
 else if n.kind=9 then .iface 275 (.agg #[vs 0,vs 1])
 else .iface 277 (.agg #[])
theorem nodeOf_any (n:Nd) (hn:nodeB n=true) (A:Nat) (hA:arity n=A) (S:Nat->Prop) (ar:Value) (vs:Nat->Value) (w:World) (ha:Args w S ar A vs) (hI : ∀i,i<A->∃t x,vs i=.iface t x) :
  Calls prog 142 #[.agg #[.int .i64 n.kind,.int .i64 n.val,.string n.name],ar] w λe w'=>e=.returned (nodeV n ar vs)/\Below w.heap.size w w':=by
 have hkk:=kind_good hn;obtain⟨nk,nv,nm⟩:=n;obtain⟨a,cap,rfl,hc1,hc2,hc⟩:=ha;simp only at hkk ⊢;have hk:nk=1∨nk=2∨nk=3∨nk=4∨nk=5∨nk=6∨nk=7∨nk=8∨nk=9:=by omega
 have bx : ∀o,Bl w (w.alloc o):=λo=>r_.alloc n_ o;rcases hk with rfl|rfl|rfl|rfl|rfl|rfl|rfl|rfl|rfl
 ·go_enter func142,ntmps142;go_wp2;go_ret;exact⟨rfl,bx _⟩
 ·go_enter func142,ntmps142;go_wp2;go_ret;exact⟨rfl,bx _⟩
 ·have e1:A=1:=by simp[arity] at hA;omega
  subst e1;obtain⟨B,rfl,-,hcc⟩:=hc o_;have hlt:=b_ (hcc 0 o_);have q0 : ∀o,(w.alloc o).cell? ⟨B,0,none⟩=some (vs 0):=λo=>((bx o).cell (p:=⟨B,0,none⟩) hlt).trans (hcc 0 o_);obtain⟨t0,x0,h0⟩:=hI 0 o_;have HE:Hid (nodeV ⟨3,nv,nm⟩ (.slice (some ⟨B,0,none⟩) 1 cap) vs=.iface 266 (.agg #[.string nm,vs 0])):=rfl;rw[HE.o];rw[h0] at q0 ⊢;go_enter func142,ntmps142;go_wp2_with fail;go_quiet (fail)
  go_wp2;go_ret;exact⟨rfl,below_drewN (bx _) _⟩
 ·have HE:Hid (nodeV ⟨4,nv,nm⟩ (.slice a A cap) vs=.iface 268 (.agg #[.string nm,.slice a A cap])):=rfl;rw[HE.o];go_enter func142,ntmps142;go_wp2;go_ret;exact⟨rfl,bx _⟩
 ·go_enter func142,ntmps142;go_wp2;go_ret;exact⟨rfl,bx _⟩
 ·have e1:A=1:=by simp[arity] at hA;omega
  subst e1;obtain⟨B,rfl,-,hcc⟩:=hc o_;have hlt:=b_ (hcc 0 o_);have q0 : ∀o,(w.alloc o).cell? ⟨B,0,none⟩=some (vs 0):=λo=>((bx o).cell (p:=⟨B,0,none⟩) hlt).trans (hcc 0 o_);obtain⟨t0,x0,h0⟩:=hI 0 o_;have HE:Hid (nodeV ⟨6,nv,nm⟩ (.slice (some ⟨B,0,none⟩) 1 cap) vs=.iface 270 (.agg #[.int .i64 nv,vs 0])):=rfl;rw[HE.o];rw[h0] at q0 ⊢;go_enter func142,ntmps142;go_wp2_with fail;go_quiet (fail)
  go_wp2;go_ret;exact⟨rfl,below_drewN (bx _) _⟩
 all_goals
  have e1:A=2:=by simp[arity] at hA;omega
  subst e1;obtain⟨B,rfl,-,hcc⟩:=hc o_;have hlt:=b_ (hcc 0 o_);have q0 : ∀o,(w.alloc o).cell? ⟨B,0,none⟩=some (vs 0):=λo=>((bx o).cell (p:=⟨B,0,none⟩) hlt).trans (hcc 0 o_);have q1 : ∀o,(w.alloc o).cell? ⟨B,1,none⟩=some (vs 1):=λo=>((bx o).cell (p:=⟨B,1,none⟩) hlt).trans (hcc 1 o_);obtain⟨t0,x0,h0⟩:=hI 0 o_;obtain⟨t1,x1,h1⟩:=hI 1 o_
 ·have HE:Hid (nodeV ⟨7,nv,nm⟩ (.slice (some ⟨B,0,none⟩) 2 cap) vs=.iface 272 (.agg #[.int .i64 nv,vs 0,vs 1])):=rfl;rw[HE.o];rw[h0] at q0;rw[h1] at q1;rw[h0,h1];go_enter func142,ntmps142;go_wp2_with fail;go_quiet (fail)
  go_wp2;go_ret;exact⟨rfl,below_drewN (bx _) _⟩
 ·have HE:Hid (nodeV ⟨8,nv,nm⟩ (.slice (some ⟨B,0,none⟩) 2 cap) vs=.iface 274 (.agg #[vs 0,vs 1])):=rfl;rw[HE.o];rw[h0] at q0;rw[h1] at q1;rw[h0,h1];go_enter func142,ntmps142;go_wp2_with fail;go_quiet (fail)
  go_wp2;go_ret;exact⟨rfl,below_drewN (bx _) _⟩
 ·have HE:Hid (nodeV ⟨9,nv,nm⟩ (.slice (some ⟨B,0,none⟩) 2 cap) vs=.iface 275 (.agg #[vs 0,vs 1])):=rfl;rw[HE.o];rw[h0] at q0;rw[h1] at q1;rw[h0,h1];go_enter func142,ntmps142;go_wp2_with fail;go_quiet (fail)
  go_wp2;go_ret;exact⟨rfl,below_drewN (bx _) _⟩
theorem nodeT (n:Nd) (hn:nodeB n=true) (A:Nat) (hA:arity n=A) (w:World) (S:Nat->Prop) (ar:Value) (vs:Nat->Value) (F:Nat->List Nd) (ha:Args w S ar A vs) (hv : ∀i,i<A->Tv w S (vs i) (F i)):Tv w S (nodeV n ar vs) (joinF F A++[n]):=by
 have hkk:=kind_good hn;obtain⟨hr1,hr2⟩:=node_rest hn;obtain⟨nk,nv,nm⟩:=n;simp only at hkk hr1 hr2;have hk:nk=1∨nk=2∨nk=3∨nk=4∨nk=5∨nk=6∨nk=7∨nk=8∨nk=9:=by omega
 rcases hk with rfl|rfl|rfl|rfl|rfl|rfl|rfl|rfl|rfl
 ·obtain rfl:=hr1 o_;have e1:A=0:=by simp[arity] at hA;omega
  subst e1;exact .num nv
 ·obtain rfl:=hr2 o_;have e1:A=0:=by simp[arity] at hA;omega
  subst e1;exact .var nm
 ·obtain rfl:=hr2 o_;have e1:A=1:=by simp[arity] at hA;omega
  subst e1;exact .index nm _ _ (hv 0 o_)
 ·have e1:nv=A:=by simp[arity] at hA;omega
  subst e1;exact .call nm ar A vs F ha hv
 ·obtain rfl:=hr1 o_;obtain rfl:=hr2 o_;have e1:A=0:=by simp[arity] at hA;omega
  subst e1;exact .inn
 ·obtain rfl:=hr1 o_;have e1:A=1:=by simp[arity] at hA;omega
  subst e1;exact .un nv _ _ (hv 0 o_)
 ·obtain rfl:=hr1 o_;have e1:A=2:=by simp[arity] at hA;omega
  subst e1;exact .bin nv _ _ _ _ (hv 0 o_) (hv 1 o_)
 ·obtain rfl:=hr1 o_;obtain rfl:=hr2 o_;have e1:A=2:=by simp[arity] at hA;omega
  subst e1;exact .and _ _ _ _ (hv 0 o_) (hv 1 o_)
 ·obtain rfl:=hr1 o_;obtain rfl:=hr2 o_;have e1:A=2:=by simp[arity] at hA;omega
  subst e1;exact .or _ _ _ _ (hv 0 o_) (hv 1 o_)
end Go.Proofs.YtffnkkpmlplfeaaGreatDoor
