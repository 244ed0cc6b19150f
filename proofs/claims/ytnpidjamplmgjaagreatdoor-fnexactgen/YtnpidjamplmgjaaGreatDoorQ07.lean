import Derived.Test.YtnpidjamplmgjaaGreatDoorQ05
namespace Go.Proofs.YtnpidjamplmgjaaGreatDoor
open Go.RowKit
set_option linter.unusedVariables false
set_option linter.unusedSimpArgs false
set_option maxRecDepth 100000
set_option maxHeartbeats 16000000
theorem box65 {w w':World} {t u:TypeId} {x0 x1 x2 x3 x4 x5 y0 y1 y2 y3 y4:Value} (h:Below (w.heap.size+1+1) ((w.alloc (.cells #[x0,x1,x2,x3,x4,x5] t)).alloc (.cells #[y0,y1,y2,y3,y4] u)) w') :
  (w'.cell? ⟨w.heap.size,0,none⟩=some x0/\w'.cell? ⟨w.heap.size,1,none⟩=some x1/\w'.cell? ⟨w.heap.size,2,none⟩=some x2/\w'.cell? ⟨w.heap.size,3,none⟩=some x3/\w'.cell? ⟨w.heap.size,4,none⟩=some x4/\w'.cell? ⟨w.heap.size,5,none⟩=some x5) /\
  (w'.cell? ⟨w.heap.size+1,0,none⟩=some y0/\w'.cell? ⟨w.heap.size+1,1,none⟩=some y1/\w'.cell? ⟨w.heap.size+1,2,none⟩=some y2/\w'.cell? ⟨w.heap.size+1,3,none⟩=some y3/\w'.cell? ⟨w.heap.size+1,4,none⟩=some y4):=by
 have e0:(⟨w.heap.size+1,0,none⟩:Addr)=⟨(w.alloc (.cells #[x0,x1,x2,x3,x4,x5] t)).heap.size,0,none⟩:=by simp
 refine ⟨⟨?_,?_,?_,?_,?_,?_⟩,?_,?_,?_,?_,?_⟩ <;> (rw [h.cell (by first | (simp;done) | (simp;omega))];simp)
theorem two_below {w w':World} {a b:Obj} (h:Below (w.heap.size+1+1) ((w.alloc a).alloc b) w'):Below w.heap.size w w':=
 ((bel_a _ _).alloc (by simp) _).trans (h.mono o_)
theorem vstmt1 (s:ByteArray) (ve vf:Value) (es fs:List Nd) (t l:Int) (w:World) (hT:Tab w) (hle:es.length<=1048576) (hlf:fs.length<=1048576) (he:Nodes w ve es) (hf:Nodes w vf fs) :
  Calls Tryz.prog 174 #[.agg #[.int .i64 1,.string s,ve,vf,.int .i64 t,.int .i64 l]] w fun e w'=>e = .returned (.bool (stmtB ⟨1,s,es,fs,t,l⟩))/\Below w.heap.size w w':=by
 have HE:=hide he
 have HF:=hide hf
 obtain ⟨ae,ce,rfl,-,-,-⟩:=he
 obtain ⟨af,cf,rfl,-,-,-⟩:=hf
 have HT:=hide hT
 have hsz:=HT.out.size
 have c0:(w.alloc (.cells #[.int .i64 1,.string s,.slice ae es.length ce,.slice af fs.length cf,.int .i64 t,.int .i64 l] 123)).cell? ⟨2,5,none⟩=some (.bool true):=HT.out.stmtUp 5 o_ _
 have c1:(w.alloc (.cells #[.int .i64 1,.string s,.slice ae es.length ce,.slice af fs.length cf,.int .i64 t,.int .i64 l] 123)).cell? ⟨2,6,none⟩=some (.bool false):=HT.out.stmtUp 6 o_ _
 have c2:(w.alloc (.cells #[.int .i64 1,.string s,.slice ae es.length ce,.slice af fs.length cf,.int .i64 t,.int .i64 l] 123)).cell? ⟨2,7,none⟩=some (.bool false):=HT.out.stmtUp 7 o_ _
 have c3:(w.alloc (.cells #[.int .i64 1,.string s,.slice ae es.length ce,.slice af fs.length cf,.int .i64 t,.int .i64 l] 123)).cell? ⟨2,8,none⟩=some (.bool false):=HT.out.stmtUp 8 o_ _
 have c4:(w.alloc (.cells #[.int .i64 1,.string s,.slice ae es.length ce,.slice af fs.length cf,.int .i64 t,.int .i64 l] 123)).cell? ⟨2,9,none⟩=some (.bool false):=HT.out.stmtUp 9 o_ _
 go_enter Tryz.func174,Tryz.ntmps174
 go_wp2_with fail
 refine (asked_yes _ _).mono ?_
 rintro e w1 ⟨rfl,hb1⟩
 simp only [World.size_alloc] at hb1
 have hB1:=two_below hb1
 obtain ⟨⟨x0,x1,x2,x3,x4,x5⟩,y0,y1,y2,y3,y4⟩:=box65 hb1
 cases hn:nameB s
 ·go_wp2_with fail
  go_ret
  exact ⟨ret_bool (by simp only [stmtB];simp [hn]),hB1⟩
 go_wp2_with fail
 refine (one_any _ es _ (HT.out.below hsz hB1) hle (HE.out.below hB1)).mono ?_
 rintro e w2 ⟨rfl,hb2⟩
 have hb2':=hb1.trans (hb2.mono (by have:=hb1.size;simp at this;omega))
 have hB2:=two_below hb2'
 obtain ⟨⟨x0,x1,x2,x3,x4,x5⟩,y0,y1,y2,y3,y4⟩:=box65 hb2'
 cases ho:oneB es
 ·go_wp2_with fail
  go_ret
  exact ⟨ret_bool (by simp only [stmtB];simp [hn,ho]),hB2⟩
 by_cases hf0:fs.length=0
 case neg=>
  have hf1:((fs.length:Int) == 0)=false:=by simp only [beq_eq_false_iff_ne];omega
  have hf2:((fs.length:Int) != 0)=true:=by simp only [bne_iff_ne];omega
  go_wp2_with fail
  go_ret
  refine ⟨ret_bool ?_,hB2⟩
  have:(fs.length == 0)=false:=by simpa using hf0
  simp only [stmtB];simp [hn,ho,this,hf0]
 have hf1:((fs.length:Int) == 0)=true:=by simp only [beq_iff_eq];omega
 have hf2:((fs.length:Int) != 0)=false:=by simp only [bne_eq_false_iff_eq];omega
 have HF0:=hide hf0
 by_cases ht:t=0
 ·have ht1:(t == 0)=true:=by simpa using ht
  go_wp2_with fail
  go_ret
  refine ⟨ret_bool ?_,hB2⟩
  have ht:t=0:=by simpa using ht1
  simp only [stmtB];simp [hn,ho,HF0.out,ht]
 ·have ht1:(t == 0)=false:=by simpa using ht
  go_wp2_with fail
  go_ret
  refine ⟨ret_bool ?_,hB2⟩
  simp only [stmtB];simp [hn,ho,HF0.out,ht]
theorem vstmt2 (s:ByteArray) (ve vf:Value) (es fs:List Nd) (t l:Int) (w:World) (hT:Tab w) (hle:es.length<=1048576) (hlf:fs.length<=1048576) (he:Nodes w ve es) (hf:Nodes w vf fs) :
  Calls Tryz.prog 174 #[.agg #[.int .i64 2,.string s,ve,vf,.int .i64 t,.int .i64 l]] w fun e w'=>e = .returned (.bool (stmtB ⟨2,s,es,fs,t,l⟩))/\Below w.heap.size w w':=by
 have HE:=hide he
 have HF:=hide hf
 obtain ⟨ae,ce,rfl,-,-,-⟩:=he
 obtain ⟨af,cf,rfl,-,-,-⟩:=hf
 have HT:=hide hT
 have hsz:=HT.out.size
 have c0:(w.alloc (.cells #[.int .i64 2,.string s,.slice ae es.length ce,.slice af fs.length cf,.int .i64 t,.int .i64 l] 123)).cell? ⟨2,10,none⟩=some (.bool true):=HT.out.stmtUp 10 o_ _
 have c1:(w.alloc (.cells #[.int .i64 2,.string s,.slice ae es.length ce,.slice af fs.length cf,.int .i64 t,.int .i64 l] 123)).cell? ⟨2,11,none⟩=some (.bool false):=HT.out.stmtUp 11 o_ _
 have c2:(w.alloc (.cells #[.int .i64 2,.string s,.slice ae es.length ce,.slice af fs.length cf,.int .i64 t,.int .i64 l] 123)).cell? ⟨2,12,none⟩=some (.bool false):=HT.out.stmtUp 12 o_ _
 have c3:(w.alloc (.cells #[.int .i64 2,.string s,.slice ae es.length ce,.slice af fs.length cf,.int .i64 t,.int .i64 l] 123)).cell? ⟨2,13,none⟩=some (.bool false):=HT.out.stmtUp 13 o_ _
 have c4:(w.alloc (.cells #[.int .i64 2,.string s,.slice ae es.length ce,.slice af fs.length cf,.int .i64 t,.int .i64 l] 123)).cell? ⟨2,14,none⟩=some (.bool false):=HT.out.stmtUp 14 o_ _
 go_enter Tryz.func174,Tryz.ntmps174
 go_wp2_with fail
 refine (asked_yes _ _).mono ?_
 rintro e w1 ⟨rfl,hb1⟩
 simp only [World.size_alloc] at hb1
 have hB1:=two_below hb1
 obtain ⟨⟨x0,x1,x2,x3,x4,x5⟩,y0,y1,y2,y3,y4⟩:=box65 hb1
 cases hn:nameB s
 ·go_wp2_with fail
  go_ret
  exact ⟨ret_bool (by simp only [stmtB];simp [hn]),hB1⟩
 go_wp2_with fail
 refine (one_any _ es _ (HT.out.below hsz hB1) hle (HE.out.below hB1)).mono ?_
 rintro e w2 ⟨rfl,hb2⟩
 have hb2':=hb1.trans (hb2.mono (by have:=hb1.size;simp at this;omega))
 have hB2:=two_below hb2'
 obtain ⟨⟨x0,x1,x2,x3,x4,x5⟩,y0,y1,y2,y3,y4⟩:=box65 hb2'
 cases ho:oneB es
 ·go_wp2_with fail
  go_ret
  exact ⟨ret_bool (by simp only [stmtB];simp [hn,ho]),hB2⟩
 by_cases hf0:fs.length=0
 case neg=>
  have hf1:((fs.length:Int) == 0)=false:=by simp only [beq_eq_false_iff_ne];omega
  have hf2:((fs.length:Int) != 0)=true:=by simp only [bne_iff_ne];omega
  go_wp2_with fail
  go_ret
  refine ⟨ret_bool ?_,hB2⟩
  have:(fs.length == 0)=false:=by simpa using hf0
  simp only [stmtB];simp [hn,ho,this,hf0]
 have hf1:((fs.length:Int) == 0)=true:=by simp only [beq_iff_eq];omega
 have hf2:((fs.length:Int) != 0)=false:=by simp only [bne_eq_false_iff_eq];omega
 have HF0:=hide hf0
 by_cases ht:t=0
 ·have ht1:(t == 0)=true:=by simpa using ht
  go_wp2_with fail
  go_ret
  refine ⟨ret_bool ?_,hB2⟩
  have ht:t=0:=by simpa using ht1
  simp only [stmtB];simp [hn,ho,HF0.out,ht]
 ·have ht1:(t == 0)=false:=by simpa using ht
  go_wp2_with fail
  go_ret
  refine ⟨ret_bool ?_,hB2⟩
  simp only [stmtB];simp [hn,ho,HF0.out,ht]
theorem vstmt3 (s:ByteArray) (ve vf:Value) (es fs:List Nd) (t l:Int) (w:World) (hT:Tab w) (hle:es.length<=1048576) (hlf:fs.length<=1048576) (he:Nodes w ve es) (hf:Nodes w vf fs) :
  Calls Tryz.prog 174 #[.agg #[.int .i64 3,.string s,ve,vf,.int .i64 t,.int .i64 l]] w fun e w'=>e = .returned (.bool (stmtB ⟨3,s,es,fs,t,l⟩))/\Below w.heap.size w w':=by
 have HE:=hide he
 have HF:=hide hf
 obtain ⟨ae,ce,rfl,-,-,-⟩:=he
 obtain ⟨af,cf,rfl,-,-,-⟩:=hf
 have HT:=hide hT
 have hsz:=HT.out.size
 have c0:(w.alloc (.cells #[.int .i64 3,.string s,.slice ae es.length ce,.slice af fs.length cf,.int .i64 t,.int .i64 l] 123)).cell? ⟨2,15,none⟩=some (.bool true):=HT.out.stmtUp 15 o_ _
 have c1:(w.alloc (.cells #[.int .i64 3,.string s,.slice ae es.length ce,.slice af fs.length cf,.int .i64 t,.int .i64 l] 123)).cell? ⟨2,16,none⟩=some (.bool true):=HT.out.stmtUp 16 o_ _
 have c2:(w.alloc (.cells #[.int .i64 3,.string s,.slice ae es.length ce,.slice af fs.length cf,.int .i64 t,.int .i64 l] 123)).cell? ⟨2,17,none⟩=some (.bool false):=HT.out.stmtUp 17 o_ _
 have c3:(w.alloc (.cells #[.int .i64 3,.string s,.slice ae es.length ce,.slice af fs.length cf,.int .i64 t,.int .i64 l] 123)).cell? ⟨2,18,none⟩=some (.bool false):=HT.out.stmtUp 18 o_ _
 have c4:(w.alloc (.cells #[.int .i64 3,.string s,.slice ae es.length ce,.slice af fs.length cf,.int .i64 t,.int .i64 l] 123)).cell? ⟨2,19,none⟩=some (.bool false):=HT.out.stmtUp 19 o_ _
 go_enter Tryz.func174,Tryz.ntmps174
 go_wp2_with fail
 refine (asked_yes _ _).mono ?_
 rintro e w1 ⟨rfl,hb1⟩
 simp only [World.size_alloc] at hb1
 have hB1:=two_below hb1
 obtain ⟨⟨x0,x1,x2,x3,x4,x5⟩,y0,y1,y2,y3,y4⟩:=box65 hb1
 cases hn:nameB s
 ·go_wp2_with fail
  go_ret
  exact ⟨ret_bool (by simp only [stmtB];simp [hn]),hB1⟩
 go_wp2_with fail
 refine (one_any _ es _ (HT.out.below hsz hB1) hle (HE.out.below hB1)).mono ?_
 rintro e w2 ⟨rfl,hb2⟩
 have hb2':=hb1.trans (hb2.mono (by have:=hb1.size;simp at this;omega))
 have hB2:=two_below hb2'
 obtain ⟨⟨x0,x1,x2,x3,x4,x5⟩,y0,y1,y2,y3,y4⟩:=box65 hb2'
 cases ho:oneB es
 ·go_wp2_with fail
  go_ret
  exact ⟨ret_bool (by simp only [stmtB];simp [hn,ho]),hB2⟩
 go_wp2_with fail
 refine (one_any _ fs _ (HT.out.below hsz hB2) hlf (HF.out.below hB2)).mono ?_
 rintro e w3 ⟨rfl,hb3⟩
 have hb3':=hb2'.trans (hb3.mono (by have:=hb2'.size;simp at this;omega))
 have hB3:=two_below hb3'
 obtain ⟨⟨x0,x1,x2,x3,x4,x5⟩,y0,y1,y2,y3,y4⟩:=box65 hb3'
 cases hof:oneB fs
 ·go_wp2_with fail
  go_ret
  exact ⟨ret_bool (by simp only [stmtB];simp [hn,ho,hof]),hB3⟩
 by_cases ht:t=0
 ·have ht1:(t == 0)=true:=by simpa using ht
  go_wp2_with fail
  go_ret
  refine ⟨ret_bool ?_,hB3⟩
  have ht:t=0:=by simpa using ht1
  simp only [stmtB];simp [hn,ho,hof,ht]
 ·have ht1:(t == 0)=false:=by simpa using ht
  go_wp2_with fail
  go_ret
  refine ⟨ret_bool ?_,hB3⟩
  simp only [stmtB];simp [hn,ho,hof,ht]
theorem vstmt4 (s:ByteArray) (ve vf:Value) (es fs:List Nd) (t l:Int) (w:World) (hT:Tab w) (hle:es.length<=1048576) (hlf:fs.length<=1048576) (he:Nodes w ve es) (hf:Nodes w vf fs) :
  Calls Tryz.prog 174 #[.agg #[.int .i64 4,.string s,ve,vf,.int .i64 t,.int .i64 l]] w fun e w'=>e = .returned (.bool (stmtB ⟨4,s,es,fs,t,l⟩))/\Below w.heap.size w w':=by
 have HE:=hide he
 have HF:=hide hf
 obtain ⟨ae,ce,rfl,-,-,-⟩:=he
 obtain ⟨af,cf,rfl,-,-,-⟩:=hf
 have HT:=hide hT
 have hsz:=HT.out.size
 have c0:(w.alloc (.cells #[.int .i64 4,.string s,.slice ae es.length ce,.slice af fs.length cf,.int .i64 t,.int .i64 l] 123)).cell? ⟨2,20,none⟩=some (.bool false):=HT.out.stmtUp 20 o_ _
 have c1:(w.alloc (.cells #[.int .i64 4,.string s,.slice ae es.length ce,.slice af fs.length cf,.int .i64 t,.int .i64 l] 123)).cell? ⟨2,21,none⟩=some (.bool false):=HT.out.stmtUp 21 o_ _
 have c2:(w.alloc (.cells #[.int .i64 4,.string s,.slice ae es.length ce,.slice af fs.length cf,.int .i64 t,.int .i64 l] 123)).cell? ⟨2,22,none⟩=some (.bool true):=HT.out.stmtUp 22 o_ _
 have c3:(w.alloc (.cells #[.int .i64 4,.string s,.slice ae es.length ce,.slice af fs.length cf,.int .i64 t,.int .i64 l] 123)).cell? ⟨2,23,none⟩=some (.bool true):=HT.out.stmtUp 23 o_ _
 have c4:(w.alloc (.cells #[.int .i64 4,.string s,.slice ae es.length ce,.slice af fs.length cf,.int .i64 t,.int .i64 l] 123)).cell? ⟨2,24,none⟩=some (.bool false):=HT.out.stmtUp 24 o_ _
 go_enter Tryz.func174,Tryz.ntmps174
 go_wp2_with fail
 refine (asked_no _ _).mono ?_
 rintro e w1 ⟨rfl,hb1⟩
 simp only [World.size_alloc] at hb1
 have hB1:=two_below hb1
 obtain ⟨⟨x0,x1,x2,x3,x4,x5⟩,y0,y1,y2,y3,y4⟩:=box65 hb1
 cases hn:s.toList == []
 ·go_wp2_with fail
  go_ret
  exact ⟨ret_bool (by simp only [stmtB];simp [hn]),hB1⟩
 go_wp2_with fail
 refine (one_any _ es _ (HT.out.below hsz hB1) hle (HE.out.below hB1)).mono ?_
 rintro e w2 ⟨rfl,hb2⟩
 have hb2':=hb1.trans (hb2.mono (by have:=hb1.size;simp at this;omega))
 have hB2:=two_below hb2'
 obtain ⟨⟨x0,x1,x2,x3,x4,x5⟩,y0,y1,y2,y3,y4⟩:=box65 hb2'
 cases ho:oneB es
 ·go_wp2_with fail
  go_ret
  exact ⟨ret_bool (by simp only [stmtB];simp [hn,ho]),hB2⟩
 by_cases hf0:fs.length=0
 case neg=>
  have hf1:((fs.length:Int) == 0)=false:=by simp only [beq_eq_false_iff_ne];omega
  have hf2:((fs.length:Int) != 0)=true:=by simp only [bne_iff_ne];omega
  go_wp2_with fail
  go_ret
  refine ⟨ret_bool ?_,hB2⟩
  have:(fs.length == 0)=false:=by simpa using hf0
  simp only [stmtB];simp [hn,ho,this,hf0]
 have hf1:((fs.length:Int) == 0)=true:=by simp only [beq_iff_eq];omega
 have hf2:((fs.length:Int) != 0)=false:=by simp only [bne_eq_false_iff_eq];omega
 have HF0:=hide hf0
 go_wp2_with fail
 go_ret
 refine ⟨ret_bool ?_,hB2⟩
 simp only [stmtB];simp [hn,ho,HF0.out]
theorem vstmt5 (s:ByteArray) (ve vf:Value) (es fs:List Nd) (t l:Int) (w:World) (hT:Tab w) (hle:es.length<=1048576) (hlf:fs.length<=1048576) (he:Nodes w ve es) (hf:Nodes w vf fs) :
  Calls Tryz.prog 174 #[.agg #[.int .i64 5,.string s,ve,vf,.int .i64 t,.int .i64 l]] w fun e w'=>e = .returned (.bool (stmtB ⟨5,s,es,fs,t,l⟩))/\Below w.heap.size w w':=by
 have HE:=hide he
 have HF:=hide hf
 obtain ⟨ae,ce,rfl,-,-,-⟩:=he
 obtain ⟨af,cf,rfl,-,-,-⟩:=hf
 have HT:=hide hT
 have hsz:=HT.out.size
 have c0:(w.alloc (.cells #[.int .i64 5,.string s,.slice ae es.length ce,.slice af fs.length cf,.int .i64 t,.int .i64 l] 123)).cell? ⟨2,25,none⟩=some (.bool false):=HT.out.stmtUp 25 o_ _
 have c1:(w.alloc (.cells #[.int .i64 5,.string s,.slice ae es.length ce,.slice af fs.length cf,.int .i64 t,.int .i64 l] 123)).cell? ⟨2,26,none⟩=some (.bool false):=HT.out.stmtUp 26 o_ _
 have c2:(w.alloc (.cells #[.int .i64 5,.string s,.slice ae es.length ce,.slice af fs.length cf,.int .i64 t,.int .i64 l] 123)).cell? ⟨2,27,none⟩=some (.bool true):=HT.out.stmtUp 27 o_ _
 have c3:(w.alloc (.cells #[.int .i64 5,.string s,.slice ae es.length ce,.slice af fs.length cf,.int .i64 t,.int .i64 l] 123)).cell? ⟨2,28,none⟩=some (.bool false):=HT.out.stmtUp 28 o_ _
 have c4:(w.alloc (.cells #[.int .i64 5,.string s,.slice ae es.length ce,.slice af fs.length cf,.int .i64 t,.int .i64 l] 123)).cell? ⟨2,29,none⟩=some (.bool false):=HT.out.stmtUp 29 o_ _
 go_enter Tryz.func174,Tryz.ntmps174
 go_wp2_with fail
 refine (asked_no _ _).mono ?_
 rintro e w1 ⟨rfl,hb1⟩
 simp only [World.size_alloc] at hb1
 have hB1:=two_below hb1
 obtain ⟨⟨x0,x1,x2,x3,x4,x5⟩,y0,y1,y2,y3,y4⟩:=box65 hb1
 cases hn:s.toList == []
 ·go_wp2_with fail
  go_ret
  exact ⟨ret_bool (by simp only [stmtB];simp [hn]),hB1⟩
 go_wp2_with fail
 refine (one_any _ es _ (HT.out.below hsz hB1) hle (HE.out.below hB1)).mono ?_
 rintro e w2 ⟨rfl,hb2⟩
 have hb2':=hb1.trans (hb2.mono (by have:=hb1.size;simp at this;omega))
 have hB2:=two_below hb2'
 obtain ⟨⟨x0,x1,x2,x3,x4,x5⟩,y0,y1,y2,y3,y4⟩:=box65 hb2'
 cases ho:oneB es
 ·go_wp2_with fail
  go_ret
  exact ⟨ret_bool (by simp only [stmtB];simp [hn,ho]),hB2⟩
 by_cases hf0:fs.length=0
 case neg=>
  have hf1:((fs.length:Int) == 0)=false:=by simp only [beq_eq_false_iff_ne];omega
  have hf2:((fs.length:Int) != 0)=true:=by simp only [bne_iff_ne];omega
  go_wp2_with fail
  go_ret
  refine ⟨ret_bool ?_,hB2⟩
  have:(fs.length == 0)=false:=by simpa using hf0
  simp only [stmtB];simp [hn,ho,this,hf0]
 have hf1:((fs.length:Int) == 0)=true:=by simp only [beq_iff_eq];omega
 have hf2:((fs.length:Int) != 0)=false:=by simp only [bne_eq_false_iff_eq];omega
 have HF0:=hide hf0
 go_wp2_with fail
 go_ret
 refine ⟨ret_bool ?_,hB2⟩
 simp only [stmtB];simp [hn,ho,HF0.out]
theorem vstmt6 (s:ByteArray) (ve vf:Value) (es fs:List Nd) (t l:Int) (w:World) (hT:Tab w) (hle:es.length<=1048576) (hlf:fs.length<=1048576) (he:Nodes w ve es) (hf:Nodes w vf fs) :
  Calls Tryz.prog 174 #[.agg #[.int .i64 6,.string s,ve,vf,.int .i64 t,.int .i64 l]] w fun e w'=>e = .returned (.bool (stmtB ⟨6,s,es,fs,t,l⟩))/\Below w.heap.size w w':=by
 have HE:=hide he
 have HF:=hide hf
 obtain ⟨ae,ce,rfl,-,-,-⟩:=he
 obtain ⟨af,cf,rfl,-,-,-⟩:=hf
 have HT:=hide hT
 have hsz:=HT.out.size
 have c0:(w.alloc (.cells #[.int .i64 6,.string s,.slice ae es.length ce,.slice af fs.length cf,.int .i64 t,.int .i64 l] 123)).cell? ⟨2,30,none⟩=some (.bool false):=HT.out.stmtUp 30 o_ _
 have c1:(w.alloc (.cells #[.int .i64 6,.string s,.slice ae es.length ce,.slice af fs.length cf,.int .i64 t,.int .i64 l] 123)).cell? ⟨2,31,none⟩=some (.bool false):=HT.out.stmtUp 31 o_ _
 have c2:(w.alloc (.cells #[.int .i64 6,.string s,.slice ae es.length ce,.slice af fs.length cf,.int .i64 t,.int .i64 l] 123)).cell? ⟨2,32,none⟩=some (.bool false):=HT.out.stmtUp 32 o_ _
 have c3:(w.alloc (.cells #[.int .i64 6,.string s,.slice ae es.length ce,.slice af fs.length cf,.int .i64 t,.int .i64 l] 123)).cell? ⟨2,33,none⟩=some (.bool false):=HT.out.stmtUp 33 o_ _
 have c4:(w.alloc (.cells #[.int .i64 6,.string s,.slice ae es.length ce,.slice af fs.length cf,.int .i64 t,.int .i64 l] 123)).cell? ⟨2,34,none⟩=some (.bool false):=HT.out.stmtUp 34 o_ _
 go_enter Tryz.func174,Tryz.ntmps174
 go_wp2_with fail
 refine (asked_no _ _).mono ?_
 rintro e w1 ⟨rfl,hb1⟩
 simp only [World.size_alloc] at hb1
 have hB1:=two_below hb1
 obtain ⟨⟨x0,x1,x2,x3,x4,x5⟩,y0,y1,y2,y3,y4⟩:=box65 hb1
 cases hn:s.toList == []
 ·go_wp2_with fail
  go_ret
  exact ⟨ret_bool (by simp only [stmtB];simp [hn]),hB1⟩
 go_wp2_with fail
 refine (one_any _ es _ (HT.out.below hsz hB1) hle (HE.out.below hB1)).mono ?_
 rintro e w2 ⟨rfl,hb2⟩
 have hb2':=hb1.trans (hb2.mono (by have:=hb1.size;simp at this;omega))
 have hB2:=two_below hb2'
 obtain ⟨⟨x0,x1,x2,x3,x4,x5⟩,y0,y1,y2,y3,y4⟩:=box65 hb2'
 cases ho:oneB es
 ·go_wp2_with fail
  go_ret
  exact ⟨ret_bool (by simp only [stmtB];simp [hn,ho]),hB2⟩
 by_cases hf0:fs.length=0
 case neg=>
  have hf1:((fs.length:Int) == 0)=false:=by simp only [beq_eq_false_iff_ne];omega
  have hf2:((fs.length:Int) != 0)=true:=by simp only [bne_iff_ne];omega
  go_wp2_with fail
  go_ret
  refine ⟨ret_bool ?_,hB2⟩
  have:(fs.length == 0)=false:=by simpa using hf0
  simp only [stmtB];simp [hn,ho,this,hf0]
 have hf1:((fs.length:Int) == 0)=true:=by simp only [beq_iff_eq];omega
 have hf2:((fs.length:Int) != 0)=false:=by simp only [bne_eq_false_iff_eq];omega
 have HF0:=hide hf0
 by_cases ht:t=0
 ·have ht1:(t == 0)=true:=by simpa using ht
  go_wp2_with fail
  go_ret
  refine ⟨ret_bool ?_,hB2⟩
  have ht:t=0:=by simpa using ht1
  simp only [stmtB];simp [hn,ho,HF0.out,ht]
 ·have ht1:(t == 0)=false:=by simpa using ht
  go_wp2_with fail
  go_ret
  refine ⟨ret_bool ?_,hB2⟩
  simp only [stmtB];simp [hn,ho,HF0.out,ht]
theorem vstmt7 (s:ByteArray) (ve vf:Value) (es fs:List Nd) (t l:Int) (w:World) (hT:Tab w) (hle:es.length<=1048576) (hlf:fs.length<=1048576) (he:Nodes w ve es) (hf:Nodes w vf fs) :
  Calls Tryz.prog 174 #[.agg #[.int .i64 7,.string s,ve,vf,.int .i64 t,.int .i64 l]] w fun e w'=>e = .returned (.bool (stmtB ⟨7,s,es,fs,t,l⟩))/\Below w.heap.size w w':=by
 have HE:=hide he
 have HF:=hide hf
 obtain ⟨ae,ce,rfl,-,-,-⟩:=he
 obtain ⟨af,cf,rfl,-,-,-⟩:=hf
 have HT:=hide hT
 have hsz:=HT.out.size
 have c0:(w.alloc (.cells #[.int .i64 7,.string s,.slice ae es.length ce,.slice af fs.length cf,.int .i64 t,.int .i64 l] 123)).cell? ⟨2,35,none⟩=some (.bool false):=HT.out.stmtUp 35 o_ _
 have c1:(w.alloc (.cells #[.int .i64 7,.string s,.slice ae es.length ce,.slice af fs.length cf,.int .i64 t,.int .i64 l] 123)).cell? ⟨2,36,none⟩=some (.bool false):=HT.out.stmtUp 36 o_ _
 have c2:(w.alloc (.cells #[.int .i64 7,.string s,.slice ae es.length ce,.slice af fs.length cf,.int .i64 t,.int .i64 l] 123)).cell? ⟨2,37,none⟩=some (.bool false):=HT.out.stmtUp 37 o_ _
 have c3:(w.alloc (.cells #[.int .i64 7,.string s,.slice ae es.length ce,.slice af fs.length cf,.int .i64 t,.int .i64 l] 123)).cell? ⟨2,38,none⟩=some (.bool false):=HT.out.stmtUp 38 o_ _
 have c4:(w.alloc (.cells #[.int .i64 7,.string s,.slice ae es.length ce,.slice af fs.length cf,.int .i64 t,.int .i64 l] 123)).cell? ⟨2,39,none⟩=some (.bool false):=HT.out.stmtUp 39 o_ _
 go_enter Tryz.func174,Tryz.ntmps174
 go_wp2_with fail
 refine (asked_no _ _).mono ?_
 rintro e w1 ⟨rfl,hb1⟩
 simp only [World.size_alloc] at hb1
 have hB1:=two_below hb1
 obtain ⟨⟨x0,x1,x2,x3,x4,x5⟩,y0,y1,y2,y3,y4⟩:=box65 hb1
 cases hn:s.toList == []
 ·go_wp2_with fail
  go_ret
  exact ⟨ret_bool (by simp only [stmtB];simp [hn]),hB1⟩
 go_wp2_with fail
 refine (one_any _ es _ (HT.out.below hsz hB1) hle (HE.out.below hB1)).mono ?_
 rintro e w2 ⟨rfl,hb2⟩
 have hb2':=hb1.trans (hb2.mono (by have:=hb1.size;simp at this;omega))
 have hB2:=two_below hb2'
 obtain ⟨⟨x0,x1,x2,x3,x4,x5⟩,y0,y1,y2,y3,y4⟩:=box65 hb2'
 cases ho:oneB es
 ·go_wp2_with fail
  go_ret
  exact ⟨ret_bool (by simp only [stmtB];simp [hn,ho]),hB2⟩
 by_cases hf0:fs.length=0
 case neg=>
  have hf1:((fs.length:Int) == 0)=false:=by simp only [beq_eq_false_iff_ne];omega
  have hf2:((fs.length:Int) != 0)=true:=by simp only [bne_iff_ne];omega
  go_wp2_with fail
  go_ret
  refine ⟨ret_bool ?_,hB2⟩
  have:(fs.length == 0)=false:=by simpa using hf0
  simp only [stmtB];simp [hn,ho,this,hf0]
 have hf1:((fs.length:Int) == 0)=true:=by simp only [beq_iff_eq];omega
 have hf2:((fs.length:Int) != 0)=false:=by simp only [bne_eq_false_iff_eq];omega
 have HF0:=hide hf0
 by_cases ht:t=0
 ·have ht1:(t == 0)=true:=by simpa using ht
  go_wp2_with fail
  go_ret
  refine ⟨ret_bool ?_,hB2⟩
  have ht:t=0:=by simpa using ht1
  simp only [stmtB];simp [hn,ho,HF0.out,ht]
 ·have ht1:(t == 0)=false:=by simpa using ht
  go_wp2_with fail
  go_ret
  refine ⟨ret_bool ?_,hB2⟩
  simp only [stmtB];simp [hn,ho,HF0.out,ht]
theorem vstmt8 (s:ByteArray) (ve vf:Value) (es fs:List Nd) (t l:Int) (w:World) (hT:Tab w) (hle:es.length<=1048576) (hlf:fs.length<=1048576) (he:Nodes w ve es) (hf:Nodes w vf fs) :
  Calls Tryz.prog 174 #[.agg #[.int .i64 8,.string s,ve,vf,.int .i64 t,.int .i64 l]] w fun e w'=>e = .returned (.bool (stmtB ⟨8,s,es,fs,t,l⟩))/\Below w.heap.size w w':=by
 have HE:=hide he
 have HF:=hide hf
 obtain ⟨ae,ce,rfl,-,-,-⟩:=he
 obtain ⟨af,cf,rfl,-,-,-⟩:=hf
 have HT:=hide hT
 clear hT
 have hsz:=HT.out.size
 have c0:(w.alloc (.cells #[.int .i64 8,.string s,.slice ae es.length ce,.slice af fs.length cf,.int .i64 t,.int .i64 l] 123)).cell? ⟨2,40,none⟩=some (.bool false):=HT.out.stmtUp 40 o_ _
 have c1:(w.alloc (.cells #[.int .i64 8,.string s,.slice ae es.length ce,.slice af fs.length cf,.int .i64 t,.int .i64 l] 123)).cell? ⟨2,41,none⟩=some (.bool false):=HT.out.stmtUp 41 o_ _
 have c2:(w.alloc (.cells #[.int .i64 8,.string s,.slice ae es.length ce,.slice af fs.length cf,.int .i64 t,.int .i64 l] 123)).cell? ⟨2,42,none⟩=some (.bool false):=HT.out.stmtUp 42 o_ _
 have c3:(w.alloc (.cells #[.int .i64 8,.string s,.slice ae es.length ce,.slice af fs.length cf,.int .i64 t,.int .i64 l] 123)).cell? ⟨2,43,none⟩=some (.bool false):=HT.out.stmtUp 43 o_ _
 have c4:(w.alloc (.cells #[.int .i64 8,.string s,.slice ae es.length ce,.slice af fs.length cf,.int .i64 t,.int .i64 l] 123)).cell? ⟨2,44,none⟩=some (.bool true):=HT.out.stmtUp 44 o_ _
 go_enter Tryz.func174,Tryz.ntmps174
 go_wp2_with fail
 refine (asked_no _ _).mono ?_
 rintro e w1 ⟨rfl,hb1⟩
 simp only [World.size_alloc] at hb1
 have hB1:=two_below hb1
 obtain ⟨⟨x0,x1,x2,x3,x4,x5⟩,y0,y1,y2,y3,y4⟩:=box65 hb1
 clear c0 c1 c2 c3 c4
 cases hn:s.toList == []
 ·go_wp2_with fail
  go_ret
  exact ⟨ret_bool (by simp only [stmtB];simp [hn]),hB1⟩
 go_wp2_with fail
 refine (one_any _ es _ (HT.out.below hsz hB1) hle (HE.out.below hB1)).mono ?_
 rintro e w2 ⟨rfl,hb2⟩
 have hb2':=hb1.trans (hb2.mono (by have:=hb1.size;simp at this;omega))
 have hB2:=two_below hb2'
 clear x0 x1 x2 x3 x4 x5 y0 y1 y2 y3 y4
 obtain ⟨⟨x0,x1,x2,x3,x4,x5⟩,y0,y1,y2,y3,y4⟩:=box65 hb2'
 cases ho:oneB es
 ·go_wp2_with fail
  go_ret
  exact ⟨ret_bool (by simp only [stmtB];simp [hn,ho]),hB2⟩
 by_cases hf0:fs.length=0
 case neg=>
  have hf1:((fs.length:Int) == 0)=false:=by simp only [beq_eq_false_iff_ne];omega
  have hf2:((fs.length:Int) != 0)=true:=by simp only [bne_iff_ne];omega
  go_wp2_with fail
  go_ret
  refine ⟨ret_bool ?_,hB2⟩
  have:(fs.length == 0)=false:=by simpa using hf0
  simp only [stmtB];simp [hn,ho,this,hf0]
 have hf1:((fs.length:Int) == 0)=true:=by simp only [beq_iff_eq];omega
 have hf2:((fs.length:Int) != 0)=false:=by simp only [bne_eq_false_iff_eq];omega
 have HF0:=hide hf0
 clear hf0
 obtain ⟨m,hm⟩ : ∃m,es.length=m+1:=⟨es.length-1,by have:=oneB_pos ho;omega⟩
 obtain ⟨ae',ce',hse,-,-,hne⟩:=HE.out.below hB2
 obtain ⟨b,off,hae,hnc⟩:=hne o_
 simp only [Value.slice.injEq] at hse
 obtain ⟨d0,d1,d2⟩:=hnc m o_
 have HL:Hid (lastKind es=(es[m]' o_).kind):=by
  have e2:es.length-1=m:=by omega
  show lastKind es=_
  simp only [lastKind,e2]
  rw [List.getElem?_eq_getElem o_]
 rw [hse.1,hae,hm] at x2
 have e1:((m+1:Nat):Int)-1=(m:Int):=by omega
 have hmb:m<=1048576:=by omega
 generalize es[m].kind=q at d0 HL
 clear d1 d2 hnc hne hse hae hm
 by_cases hq:q=4
 case neg=>
  have hq1:(q == 4)=false:=by simpa using hq
  go_wp2_with fail
  go_ret
  refine ⟨ret_bool ?_,hB2⟩
  simp only [stmtB];simp [hn,ho,HF0.out,HL.out,hq]
 have hq1:(q == 4)=true:=by simpa using hq
 have HQ:=hide hq
 clear hq
 by_cases ht:t=0
 ·have ht1:(t == 0)=true:=by simpa using ht
  clear ht
  go_wp2_with fail
  go_ret
  refine ⟨ret_bool ?_,hB2⟩
  have ht:t=0:=by simpa using ht1
  simp only [stmtB];simp [hn,ho,HF0.out,HL.out,HQ.out,ht]
 ·have ht1:(t == 0)=false:=by simpa using ht
  go_wp2_with fail
  go_ret
  refine ⟨ret_bool ?_,hB2⟩
  simp only [stmtB];simp [hn,ho,HF0.out,HL.out,HQ.out,ht]
theorem vstmtX (k:Int) (s:ByteArray) (ve vf:Value) (es fs:List Nd) (t l:Int) (w:World) (hk:k<1∨8<k) (he:Nodes w ve es) (hf:Nodes w vf fs) :
  Calls Tryz.prog 174 #[.agg #[.int .i64 k,.string s,ve,vf,.int .i64 t,.int .i64 l]] w fun e w'=>e = .returned (.bool (stmtB ⟨k,s,es,fs,t,l⟩))/\Below w.heap.size w w':=by
 obtain ⟨ae,ce,rfl,-,-,-⟩:=he
 obtain ⟨af,cf,rfl,-,-,-⟩:=hf
 have hs:stmtB ⟨k,s,es,fs,t,l⟩=false:=by
  have:decide (1<=k/\k<=8)=false:=by simp;omega
  simp only [stmtB,this,Bool.false_and]
 rw [hs]
 rcases hk with hk | hk
 ·go_enter Tryz.func174,Tryz.ntmps174
  go_wp2_with fail
  go_ret
  exact ⟨rfl,(Below.refl _ _).alloc (Nat.le_refl _) _⟩
 ·have h':1<=k:=by omega
  go_enter Tryz.func174,Tryz.ntmps174
  go_wp2_with fail
  go_ret
  exact ⟨rfl,(Below.refl _ _).alloc (Nat.le_refl _) _⟩
theorem vstmt_any (s:St) (ve vf:Value) (w:World) (hT:Tab w) (hle:s.e.length<=1048576) (hlf:s.f.length<=1048576) (he:Nodes w ve s.e) (hf:Nodes w vf s.f) :
  Calls Tryz.prog 174 #[.agg #[.int .i64 s.kind,.string s.name,ve,vf,.int .i64 s.thn,.int .i64 s.els]] w fun e w'=>e = .returned (.bool (stmtB s))/\Below w.heap.size w w':=by
 obtain ⟨k,s,es,fs,t,l⟩:=s
 by_cases hk:k<1∨8<k
 ·exact vstmtX k s ve vf es fs t l w hk he hf
 have h9:k=1∨k=2∨k=3∨k=4∨k=5∨k=6∨k=7∨k=8:=by omega
 rcases h9 with rfl | rfl | rfl | rfl | rfl | rfl | rfl | rfl
 ·exact vstmt1 s ve vf es fs t l w hT hle hlf he hf
 ·exact vstmt2 s ve vf es fs t l w hT hle hlf he hf
 ·exact vstmt3 s ve vf es fs t l w hT hle hlf he hf
 ·exact vstmt4 s ve vf es fs t l w hT hle hlf he hf
 ·exact vstmt5 s ve vf es fs t l w hT hle hlf he hf
 ·exact vstmt6 s ve vf es fs t l w hT hle hlf he hf
 ·exact vstmt7 s ve vf es fs t l w hT hle hlf he hf
 ·exact vstmt8 s ve vf es fs t l w hT hle hlf he hf
end Go.Proofs.YtnpidjamplmgjaaGreatDoor
