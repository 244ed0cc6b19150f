import Derived.Test.YtmddmgpijpjpbaaGreatDoorR18
import Derived.BigQuiet
namespace Go.Proofs.YtmddmgpijpjpbaaGreatDoor
open Go.RowKit
set_option linter.unusedVariables false
set_option linter.unusedSimpArgs false
set_option maxRecDepth 100000
set_option maxHeartbeats 16000000
theorem Nodes.keepO {w w':World} {v:Value} {ns:List Nd} (h:Nodes w v ns) (hk:ns ≠ []->∀g,v.ownBlock=some g->w'.heap[g]? = w.heap[g]?):Nodes w' v ns:=by
 obtain ⟨a,cap,rfl,h1,h2,h3⟩:=h
 refine ⟨a,cap,rfl,h1,h2,fun hp => ?_⟩
 obtain ⟨b,off,rfl,hc⟩:=h3 hp
 have e:=hk (by intro e;rw [e] at hp;simp at hp) b rfl
 have hcell : ∀o,w'.cell? ⟨b,o,none⟩=w.cell? ⟨b,o,none⟩:=fun o=>World.cell?_of_block (a:=⟨b,o,none⟩) e
 refine ⟨b,off,rfl,fun j hj => ?_⟩
 obtain ⟨c0,c1,c2⟩:=hc j hj
 exact ⟨(hcell _).trans c0,(hcell _).trans c1,(hcell _).trans c2⟩
theorem Nodes.lt {w:World} {v:Value} {ns:List Nd} (h:Nodes w v ns) (hp:ns ≠ []) : ∀g,v.ownBlock=some g->g<w.heap.size:=
 nodes_lt h (List.length_pos_iff.2 hp)
theorem own_keep {w w':World} {B size n:Nat} {e:TypeId} {v:Value} {xs:List Value} (h:w.ownsRow B e size v n xs) (hk : ∀g,v.ownBlock=some g->w'.heap[g]? = w.heap[g]?):w'.ownsRow B e size v n xs:=by
 obtain ⟨hx,h | ⟨g,cap,cur,rfl,h1,h2,h3⟩⟩:=h
 ·exact ⟨hx,.inl h⟩
 ·exact ⟨hx,.inr ⟨g,cap,cur,rfl,h1,(hk g rfl).trans h2,h3⟩⟩
theorem own_base {w:World} {B B' size n:Nat} {e:TypeId} {v:Value} {xs:List Value} (h:w.ownsRow B e size v n xs) (hb:B'<=B):w.ownsRow B' e size v n xs:=by
 obtain ⟨hx,h | ⟨g,cap,cur,rfl,h1,h2,h3⟩⟩:=h
 ·exact ⟨hx,.inl h⟩
 ·exact ⟨hx,.inr ⟨g,cap,cur,rfl,Nat.le_trans hb h1,h2,h3⟩⟩
theorem StRow.keepB {B:Nat} {w w':World} {v:Value} {R:List SV} (h:StRow B w v R) (hs:w.heap.size<=w'.heap.size) (hk : ∀g,B<=g->g<w.heap.size->w'.heap[g]? = w.heap[g]?):StRow B w' v R:=by
 refine ⟨own_keep h.row fun g hg => ?_,fun q hq=>⟨(h.each q hq).1.keep hs fun g hg => ?_,(h.each q hq).2.keep hs fun g hg => ?_⟩,h.nd,h.out⟩
 ·obtain ⟨a,b⟩:=World.ownsRow.lt h.row g hg
  exact hk g a b
 ·obtain ⟨a,b⟩:=h.rng g ((mem_blk hq).1 g hg)
  exact hk g a b
 ·obtain ⟨a,b⟩:=h.rng g ((mem_blk hq).2 g hg)
  exact hk g a b
def OutB (q:SV) (g:Nat):Prop:=(q.s.e ≠ []->q.ve.ownBlock≠some g)/\(q.s.f ≠ []->q.vf.ownBlock≠some g)
def LowB (q:SV) (B:Nat):Prop:=∀g,(q.s.e ≠ []->q.ve.ownBlock=some g->B<=g)/\(q.s.f ≠ []->q.vf.ownBlock=some g->B<=g)
structure GsRow (B:Nat) (w:World) (v:Value) (R:List SV):Prop where
 row:w.ownsRow B 117 6 v R.length (flatS R)
 each : ∀q∈R,Nodes w q.ve q.s.e/\Nodes w q.vf q.s.f
 out : ∀q∈R,∀g,v.ownBlock=some g->OutB q g
 low : ∀q∈R,LowB q B
theorem GsRow.base {B B':Nat} {w:World} {v:Value} {R:List SV} (h:GsRow B w v R) (hb:B'<=B):GsRow B' w v R:=by
 refine ⟨?_,h.each,h.out,fun q hq g=>⟨fun a b=>Nat.le_trans hb ((h.low q hq g).1 a b),fun a b=>Nat.le_trans hb ((h.low q hq g).2 a b)⟩⟩
 obtain ⟨h1,h2⟩:=h.row
 refine ⟨h1,?_⟩
 rcases h2 with h2 | ⟨g,cap,cur,e,h3,h4,h5⟩
 ·exact .inl h2
 ·exact .inr ⟨g,cap,cur,e,Nat.le_trans hb h3,h4,h5⟩
theorem GsRow.below {B:Nat} {w w':World} {v:Value} {R:List SV} (h:GsRow B w v R) (hb:Below w.heap.size w w'):GsRow B w' v R:=
 ⟨ownB h.row hb,fun q hq=>⟨(h.each q hq).1.below hb,(h.each q hq).2.below hb⟩,h.out,h.low⟩
theorem GsRow.shape {B:Nat} {w:World} {v:Value} {R:List SV} (h:GsRow B w v R) : ∃a c,v = .slice a R.length c/\(a=none->R.length=0)/\(∀ad,a=some ad->∀j x,(flatS R)[j]? = some x->w.cell? (ad.add j)=some x)/\∀ad,a=some ad->B<=ad.block/\ad.block<w.heap.size:=by
 rcases h.row.2 with ⟨rfl,hz⟩ | ⟨g,cap,cur,rfl,h3,h4,_⟩
 ·exact ⟨none,0,by rw [hz],fun _=>hz,(fun ad h=>by cases h),(fun ad h=>by cases h)⟩
 ·refine ⟨some ⟨g,0,none⟩,cap,rfl,(fun h=>by cases h),fun ad had j x hj => ?_,fun ad had => ?_⟩
  ·cases had
   exact World.ownsRow.cells h.row (g:=g) rfl j x hj
  ·cases had
   refine ⟨h3,?_⟩
   show g<w.heap.size
   rcases Nat.lt_or_ge g w.heap.size with h | h
   ·exact h
   ·rw [Array.getElem?_eq_none h] at h4;cases h4
theorem GsRow.stmts {B:Nat} {w:World} {v:Value} {R:List SV} (h:GsRow B w v R):Stmts w v (R.map (·.s)):=by
 have h0:=h.row
 rcases h.row.2 with ⟨rfl,hz⟩ | ⟨g,cap,cur,rfl,h3,h4,h5⟩
 ·exact ⟨none,0,by rw [List.length_map,hz],by rw [List.length_map,hz];exact Nat.le_refl _,by omega,fun h=>by rw [List.length_map] at h;omega⟩
 ·have hc:R.length<=cap/\cap<=9223372036854775807:=by
   obtain ⟨q1,q2,-⟩:=h5
   unfold maxLen at q2
   exact ⟨q1,q2⟩
  refine ⟨some ⟨g,0,none⟩,cap,by rw [List.length_map],by rw [List.length_map];exact hc.1,hc.2,fun hp=>⟨g,0,rfl,fun j hj => ?_⟩⟩
  rw [List.length_map] at hj
  have key : ∀i,i<6->w.cell? ⟨g,0+j*6+i,none⟩=(cellsS R[j])[i]? := fun i hi=>by
   have hl:(flatS R).length=R.length*6:=flatS_len R
   rw [Nat.zero_add,World.ownsRow.cellAt h0 (j*6+i) (by omega),flatS_get R j i hj hi]
  have he:=h.each R[j] (List.getElem_mem hj)
  refine ⟨R[j].ve,R[j].vf,?_,?_,?_⟩
  ·simp only [List.getElem_map]
   exact ⟨key 0 (by omega),key 1 (by omega),key 2 (by omega),key 3 (by omega),key 4 (by omega),key 5 (by omega)⟩
  ·simp only [List.getElem_map];exact he.1
  ·simp only [List.getElem_map];exact he.2
theorem gs_app {w:World} {B m c:Nat} {v:Value} {a:Option Addr} {R R2:List SV} (ty:TypeId) (h:GsRow B w v R) (hm2:m=R2.length) (hnil:a=none->m=0) (hcell : ∀ad,a=some ad->∀j x,(flatS R2)[j]? = some x->w.cell? (ad.add j)=some x) (he2 : ∀q∈R2,Nodes w q.ve q.s.e/\Nodes w q.vf q.s.f) (ho2 : ∀q∈R2,∀g,v.ownBlock=some g->OutB q g) (hl2 : ∀q∈R2,LowB q B) (hB:B<=w.heap.size) (hm:R.length+R2.length<=10000000) :
  ∃v' w',(Builtin.append_ #[83,83] ty #[v,.slice a m c]).run Tryz.prog w = .ok v' w'/\GsRow B w' v' (R++R2)/\w.grownBy w' v.ownBlock/\∀k,v'.ownBlock=some k->v.ownBlock=some k∨w.heap.size<=k:=by
 subst hm2
 obtain ⟨i0,hi,hz0,hz1,hz2⟩:=info_parts info_stmt
 obtain ⟨v',w',r1,r2,r3,r4⟩:=run_appG (P:=Tryz.prog) (w:=w) B 83 ty 117 i0 _ 6 88 Tryz.underlying83 hi hz0 hz1 hz2 rfl (by decide) v R.length (flatS R) h.row a R2.length c (flatS R2) hnil (flatS_len R2) hcell (flatS_one R2 fun q hq=>⟨(he2 q hq).1.cell1,(he2 q hq).2.cell1⟩) (by omega) (by decide) hB
 have hboth : ∀q∈R++R2,(Nodes w q.ve q.s.e/\Nodes w q.vf q.s.f)/\∀g,v.ownBlock=some g->OutB q g:=fun q hq=>by
  rcases List.mem_append.1 hq with hq | hq
  ·exact ⟨h.each q hq,h.out q hq⟩
  ·exact ⟨he2 q hq,ho2 q hq⟩
 refine ⟨v',w',r1,⟨by rw [l_a,flatS_append];exact r2,fun q hq => ?_,fun q hq g hg => ?_,fun q hq => ?_⟩,r3,r4⟩
 ·obtain ⟨⟨n1,n2⟩,o⟩:=hboth q hq
  exact ⟨n1.keepO fun hp g hg=>r3.block g (n1.lt hp g hg) (fun e=>(o g e.symm).1 hp hg),n2.keepO fun hp g hg=>r3.block g (n2.lt hp g hg) (fun e=>(o g e.symm).2 hp hg)⟩
 ·obtain ⟨⟨n1,n2⟩,o⟩:=hboth q hq
  rcases r4 g hg with hg' | hg'
  ·exact o g hg'
  ·exact ⟨fun hp he=>by have:=n1.lt hp g he;omega,fun hp he=>by have:=n2.lt hp g he;omega⟩
 ·rcases List.mem_append.1 hq with hq | hq
  ·exact h.low q hq
  ·exact hl2 q hq
theorem l5ends_any (v:Value) (ss:List St) (w:World) (hS:Stmts w v ss) (hf:fitB ss=true) (hl:ss.length<=1048576) :
  Calls Tryz.prog 69 #[v] w fun e w'=>e = .returned (.bool (endsB ss))/\Below w.heap.size w w':=by
 obtain ⟨a,cap,rfl,h1,h2,hc⟩:=hS
 have HC:=hide hc
 obtain ⟨E,hE⟩ : ∃E,E=endsB ss:=⟨_,rfl⟩
 rw [<-hE]
 have HE:=hide hE
 have HF:=hide hf
 clear hc hE hf
 go_enter Tryz.func69,Tryz.ntmps69
 go_wp2_with fail
 go_loopw [3] (fun i wr=>∃k:Nat,k<=ss.length/\i = .int .i64 k/\E=endsB (ss.drop k)/\fitB (ss.drop k)=true/\Bl w wr) (fun i _=>ss.length-(RowKit.intOf i).toNat)
 case atStart=>exact ⟨0,Nat.zero_le _,rfl,by simpa using HE.out,by simpa using HF.out,Below.refl _ _⟩
 case round=>
  obtain ⟨k,hk,rfl,hE,hF,hB⟩:=hrel
  have HE1:=hide hE
  clear HE HF hE
  by_cases hlt:k<ss.length
  ·obtain ⟨b,off,rfl,hcc⟩:=HC.out (by omega)
   obtain ⟨ve,vf,⟨c0,-,-,-,c4,c5⟩,-,-⟩:=(hcc.below hB) k hlt
   obtain ⟨p1,p2,p3,-,-,p4⟩:=fit_at hlt hF
   have HEn:Hid (E=(decide (ss[k].kind=6) || endsB (ss.drop (k+1+ss[k].thn.toNat+ss[k].els.toNat)))):=by
    show _=_
    rw [HE1.out,ends_at hlt]
   have HP4:=hide p4
   obtain ⟨kk,hkk⟩ : ∃kk,ss[k].kind=kk:=⟨_,rfl⟩
   obtain ⟨tn,htn⟩ : ∃tn:Nat,ss[k].thn=tn:=⟨ss[k].thn.toNat,by omega⟩
   obtain ⟨es,hes⟩ : ∃es:Nat,ss[k].els=es:=⟨ss[k].els.toNat,by omega⟩
   rw [hkk] at c0 HEn
   rw [htn] at c4 HEn HP4 p1 p3
   rw [hes] at c5 HEn HP4 p2 p3
   simp only [Int.toNat_natCast] at HEn HP4 p3
   have i1:(0:Int)<=(k:Int):=by omega
   have i2:(k:Int)<(ss.length:Int):=by omega
   have i3:(k:Int)+1+tn+es<=(ss.length:Int):=by omega
   clear hcc p4 hF hkk htn hes
   by_cases h6:kk=6
   ·subst h6
    have hE2:E=true:=by rw [HEn.out];simp
    go_wp2_with fail
    go_ret
    exact ⟨by first | rfl | (rw [hE2];rfl),hB⟩
   ·have b6:(kk == 6)=false:=by simpa using h6
    have HE2:Hid (E=endsB (ss.drop (k+1+tn+es))):=by
     show _=_
     rw [HEn.out,decide_eq_false h6,Bool.false_or]
    go_upto_region 5 with fail
    go_quiet (fail)
    have hB2:Bl w (wr.drewN nq):=below_drewN hB _
    go_wp2_with fail
    go_roundw
    case rel=>exact ⟨k+1+tn+es,by omega,by go_num,HE2.out,HP4.out,hB2⟩
    case measure=>simp [RowKit.intOf];omega
  ·obtain rfl:k=ss.length:=by omega
   have hE2:E=false:=by rw [HE1.out];simp [endsB_nil]
   go_wp2_with fail
   go_ret
   exact ⟨by first | rfl | (rw [hE2];rfl),hB⟩
theorem gstmt1 (s:ByteArray) (ve vf:Value) (es fs:List Nd) (t l:Int) (w:World) (hle:es.length<=2000) (hlf:fs.length<=2000) (he:Nodes w ve es) (hf:Nodes w vf fs) :
  Calls Tryz.prog 120 #[.agg #[.int .i64 1,.string s,ve,vf,.int .i64 t,.int .i64 l]] w fun e w'=>e = .returned (.bool (gstmtB ⟨1,s,es,fs,t,l⟩))/\Below w.heap.size w w':=by
 have HE:=hide he
 have HF:=hide hf
 obtain ⟨ae,ce,rfl,-,-,-⟩:=he
 obtain ⟨af,cf,rfl,-,-,-⟩:=hf
 have HD:Hid (∀b:Bool,(decide (es.length<=2000) && b)=b):=fun b=>by simp [hle]
 have HDF:Hid (∀b:Bool,(decide (fs.length<=2000) && b)=b):=fun b=>by simp [hlf]
 go_enter Tryz.func120,Tryz.ntmps120
 go_wp2_with (go_at_call 24;refine (in_any _ _ _ _).mono ?_;rintro e w' ⟨rfl,rfl⟩)
 refine (gexpr_any _ es _ (by omega) (HE.out.below (bel_a _ _))).mono ?_
 rintro e w1 ⟨rfl,hb1⟩
 rw [HD.out]
 simp only [World.size_alloc] at hb1
 have hB1:=one_below hb1
 obtain ⟨x0,x1,x2,x3,x4,x5⟩:=box6 hb1
 cases ho:oneB es
 ·go_wp2_with fail
  go_ret
  exact ⟨ret_bool (by simp only [gstmtB,stmtB];simp [ho]),hB1⟩
 cases hn:nameB s
 ·go_wp2_with (go_at_call 81;refine (name_any _ _).mono ?_;rintro e w' ⟨rfl,rfl⟩;rw [hn])
  go_ret
  exact ⟨ret_bool (by simp only [gstmtB,stmtB];simp [ho,hn]),hB1⟩
 by_cases hf0:0<fs.length
 ·go_wp2_with (go_at_call 81;refine (name_any _ _).mono ?_;rintro e w' ⟨rfl,rfl⟩;rw [hn])
  go_ret
  refine ⟨ret_bool ?_,hB1⟩
  have:(fs.length == 0)=false:=by simp only [beq_eq_false_iff_ne];omega
  simp only [gstmtB,stmtB,this];simp [ho,hn]
 have HF0:Hid ((fs.length == 0)=true):=by show _=_;simp only [beq_iff_eq];omega
 by_cases ht:t<0
 ·go_wp2_with (go_at_call 81;refine (name_any _ _).mono ?_;rintro e w' ⟨rfl,rfl⟩;rw [hn])
  all_goals go_ret
  all_goals refine ⟨ret_bool ?_,hB1⟩
  all_goals (simp only [gstmtB,stmtB,HF0.out];simp [ho,hn] <;> omega)
 by_cases hl:l<0
 ·go_wp2_with (go_at_call 81;refine (name_any _ _).mono ?_;rintro e w' ⟨rfl,rfl⟩;rw [hn])
  all_goals go_ret
  all_goals refine ⟨ret_bool ?_,hB1⟩
  all_goals (simp only [gstmtB,stmtB,HF0.out];simp [ho,hn] <;> omega)
 by_cases ht2:0<t
 ·go_wp2_with (go_at_call 81;refine (name_any _ _).mono ?_;rintro e w' ⟨rfl,rfl⟩;rw [hn])
  all_goals go_ret
  all_goals refine ⟨ret_bool ?_,hB1⟩
  all_goals (simp only [gstmtB,stmtB,HF0.out];simp [ho,hn] <;> omega)
 by_cases hl2:0<l
 ·go_wp2_with (go_at_call 81;refine (name_any _ _).mono ?_;rintro e w' ⟨rfl,rfl⟩;rw [hn])
  all_goals go_ret
  all_goals refine ⟨ret_bool ?_,hB1⟩
  all_goals (simp only [gstmtB,stmtB,HF0.out];simp [ho,hn] <;> omega)
 go_wp2_with (go_at_call 81;refine (name_any _ _).mono ?_;rintro e w' ⟨rfl,rfl⟩;rw [hn])
 all_goals go_ret
 all_goals refine ⟨ret_bool ?_,hB1⟩
 all_goals have ht':0<=t:=by omega
 all_goals have hl':0<=l:=by omega
 all_goals have e1:t=0:=by omega
 all_goals have e2:l=0:=by omega
 all_goals (simp only [gstmtB,stmtB,HF0.out];simp [ho,hn,ht',hl',e1,e2])
theorem gstmt2 (s:ByteArray) (ve vf:Value) (es fs:List Nd) (t l:Int) (w:World) (hle:es.length<=2000) (hlf:fs.length<=2000) (he:Nodes w ve es) (hf:Nodes w vf fs) :
  Calls Tryz.prog 120 #[.agg #[.int .i64 2,.string s,ve,vf,.int .i64 t,.int .i64 l]] w fun e w'=>e = .returned (.bool (gstmtB ⟨2,s,es,fs,t,l⟩))/\Below w.heap.size w w':=by
 have HE:=hide he
 have HF:=hide hf
 obtain ⟨ae,ce,rfl,-,-,-⟩:=he
 obtain ⟨af,cf,rfl,-,-,-⟩:=hf
 have HD:Hid (∀b:Bool,(decide (es.length<=2000) && b)=b):=fun b=>by simp [hle]
 have HDF:Hid (∀b:Bool,(decide (fs.length<=2000) && b)=b):=fun b=>by simp [hlf]
 go_enter Tryz.func120,Tryz.ntmps120
 go_wp2_with (go_at_call 24;refine (in_any _ _ _ _).mono ?_;rintro e w' ⟨rfl,rfl⟩)
 refine (gexpr_any _ es _ (by omega) (HE.out.below (bel_a _ _))).mono ?_
 rintro e w1 ⟨rfl,hb1⟩
 rw [HD.out]
 simp only [World.size_alloc] at hb1
 have hB1:=one_below hb1
 obtain ⟨x0,x1,x2,x3,x4,x5⟩:=box6 hb1
 cases ho:oneB es
 ·go_wp2_with fail
  go_ret
  exact ⟨ret_bool (by simp only [gstmtB,stmtB];simp [ho]),hB1⟩
 cases hn:nameB s
 ·go_wp2_with (go_at_call 81;refine (name_any _ _).mono ?_;rintro e w' ⟨rfl,rfl⟩;rw [hn])
  go_ret
  exact ⟨ret_bool (by simp only [gstmtB,stmtB];simp [ho,hn]),hB1⟩
 by_cases hf0:0<fs.length
 ·go_wp2_with (go_at_call 81;refine (name_any _ _).mono ?_;rintro e w' ⟨rfl,rfl⟩;rw [hn])
  go_ret
  refine ⟨ret_bool ?_,hB1⟩
  have:(fs.length == 0)=false:=by simp only [beq_eq_false_iff_ne];omega
  simp only [gstmtB,stmtB,this];simp [ho,hn]
 have HF0:Hid ((fs.length == 0)=true):=by show _=_;simp only [beq_iff_eq];omega
 by_cases ht:t<0
 ·go_wp2_with (go_at_call 81;refine (name_any _ _).mono ?_;rintro e w' ⟨rfl,rfl⟩;rw [hn])
  all_goals go_ret
  all_goals refine ⟨ret_bool ?_,hB1⟩
  all_goals (simp only [gstmtB,stmtB,HF0.out];simp [ho,hn] <;> omega)
 by_cases hl:l<0
 ·go_wp2_with (go_at_call 81;refine (name_any _ _).mono ?_;rintro e w' ⟨rfl,rfl⟩;rw [hn])
  all_goals go_ret
  all_goals refine ⟨ret_bool ?_,hB1⟩
  all_goals (simp only [gstmtB,stmtB,HF0.out];simp [ho,hn] <;> omega)
 by_cases ht2:0<t
 ·go_wp2_with (go_at_call 81;refine (name_any _ _).mono ?_;rintro e w' ⟨rfl,rfl⟩;rw [hn])
  all_goals go_ret
  all_goals refine ⟨ret_bool ?_,hB1⟩
  all_goals (simp only [gstmtB,stmtB,HF0.out];simp [ho,hn] <;> omega)
 by_cases hl2:0<l
 ·go_wp2_with (go_at_call 81;refine (name_any _ _).mono ?_;rintro e w' ⟨rfl,rfl⟩;rw [hn])
  all_goals go_ret
  all_goals refine ⟨ret_bool ?_,hB1⟩
  all_goals (simp only [gstmtB,stmtB,HF0.out];simp [ho,hn] <;> omega)
 go_wp2_with (go_at_call 81;refine (name_any _ _).mono ?_;rintro e w' ⟨rfl,rfl⟩;rw [hn])
 all_goals go_ret
 all_goals refine ⟨ret_bool ?_,hB1⟩
 all_goals have ht':0<=t:=by omega
 all_goals have hl':0<=l:=by omega
 all_goals have e1:t=0:=by omega
 all_goals have e2:l=0:=by omega
 all_goals (simp only [gstmtB,stmtB,HF0.out];simp [ho,hn,ht',hl',e1,e2])
theorem gstmt3 (s:ByteArray) (ve vf:Value) (es fs:List Nd) (t l:Int) (w:World) (hle:es.length<=2000) (hlf:fs.length<=2000) (he:Nodes w ve es) (hf:Nodes w vf fs) :
  Calls Tryz.prog 120 #[.agg #[.int .i64 3,.string s,ve,vf,.int .i64 t,.int .i64 l]] w fun e w'=>e = .returned (.bool (gstmtB ⟨3,s,es,fs,t,l⟩))/\Below w.heap.size w w':=by
 have HE:=hide he
 have HF:=hide hf
 obtain ⟨ae,ce,rfl,-,-,-⟩:=he
 obtain ⟨af,cf,rfl,-,-,-⟩:=hf
 have HD:Hid (∀b:Bool,(decide (es.length<=2000) && b)=b):=fun b=>by simp [hle]
 have HDF:Hid (∀b:Bool,(decide (fs.length<=2000) && b)=b):=fun b=>by simp [hlf]
 go_enter Tryz.func120,Tryz.ntmps120
 go_wp2_with (go_at_call 24;refine (in_any _ _ _ _).mono ?_;rintro e w' ⟨rfl,rfl⟩)
 refine (gexpr_any _ es _ (by omega) (HE.out.below (bel_a _ _))).mono ?_
 rintro e w1 ⟨rfl,hb1⟩
 rw [HD.out]
 simp only [World.size_alloc] at hb1
 have hB1:=one_below hb1
 obtain ⟨x0,x1,x2,x3,x4,x5⟩:=box6 hb1
 cases ho:oneB es
 ·go_wp2_with fail
  go_ret
  exact ⟨ret_bool (by simp only [gstmtB,stmtB];simp [ho]),hB1⟩
 cases hn:nameB s
 ·go_wp2_with (go_at_call 81;refine (name_any _ _).mono ?_;rintro e w' ⟨rfl,rfl⟩;rw [hn])
  go_ret
  exact ⟨ret_bool (by simp only [gstmtB,stmtB];simp [ho,hn]),hB1⟩
 by_cases hf0:0<fs.length
 case neg=>
  go_wp2_with (go_at_call 81;refine (name_any _ _).mono ?_;rintro e w' ⟨rfl,rfl⟩;rw [hn])
  go_ret
  refine ⟨ret_bool ?_,hB1⟩
  have:fs = []:=List.eq_nil_of_length_eq_zero (by omega)
  subst this
  have hoe:oneB []=false:=by simp [oneB,wholeTo]
  simp only [gstmtB,stmtB];simp [ho,hn,hoe]
 go_wp2_with (go_at_call 81;refine (name_any _ _).mono ?_;rintro e w' ⟨rfl,rfl⟩;rw [hn])
 refine (gexpr_any _ fs _ (by omega) (HF.out.below hB1)).mono ?_
 rintro e w2 ⟨rfl,hb2⟩
 rw [HDF.out]
 have hb2':=hb1.trans (hb2.mono (by have:=hb1.size;simp at this;omega))
 have hB2:=one_below hb2'
 obtain ⟨x0,x1,x2,x3,x4,x5⟩:=box6 hb2'
 cases hof:oneB fs
 ·go_wp2_with fail
  go_ret
  exact ⟨ret_bool (by simp only [gstmtB,stmtB];simp [ho,hn,hof]),hB2⟩
 by_cases ht:t<0
 ·go_wp2_with fail
  all_goals go_ret
  all_goals refine ⟨ret_bool ?_,hB2⟩
  all_goals (simp only [gstmtB,stmtB];simp [ho,hn,hof] <;> omega)
 by_cases hl:l<0
 ·go_wp2_with fail
  all_goals go_ret
  all_goals refine ⟨ret_bool ?_,hB2⟩
  all_goals (simp only [gstmtB,stmtB];simp [ho,hn,hof] <;> omega)
 by_cases ht2:0<t
 ·go_wp2_with fail
  all_goals go_ret
  all_goals refine ⟨ret_bool ?_,hB2⟩
  all_goals (simp only [gstmtB,stmtB];simp [ho,hn,hof] <;> omega)
 by_cases hl2:0<l
 ·go_wp2_with fail
  all_goals go_ret
  all_goals refine ⟨ret_bool ?_,hB2⟩
  all_goals (simp only [gstmtB,stmtB];simp [ho,hn,hof] <;> omega)
 go_wp2_with fail
 all_goals go_ret
 all_goals refine ⟨ret_bool ?_,hB2⟩
 all_goals have ht':0<=t:=by omega
 all_goals have hl':0<=l:=by omega
 all_goals have e1:t=0:=by omega
 all_goals have e2:l=0:=by omega
 all_goals (simp only [gstmtB,stmtB];simp [ho,hn,hof,ht',hl',e1,e2])
theorem gstmt4 (s:ByteArray) (ve vf:Value) (es fs:List Nd) (t l:Int) (w:World) (hle:es.length<=2000) (hlf:fs.length<=2000) (he:Nodes w ve es) (hf:Nodes w vf fs) :
  Calls Tryz.prog 120 #[.agg #[.int .i64 4,.string s,ve,vf,.int .i64 t,.int .i64 l]] w fun e w'=>e = .returned (.bool (gstmtB ⟨4,s,es,fs,t,l⟩))/\Below w.heap.size w w':=by
 have HE:=hide he
 have HF:=hide hf
 obtain ⟨ae,ce,rfl,-,-,-⟩:=he
 obtain ⟨af,cf,rfl,-,-,-⟩:=hf
 have HD:Hid (∀b:Bool,(decide (es.length<=2000) && b)=b):=fun b=>by simp [hle]
 have HDF:Hid (∀b:Bool,(decide (fs.length<=2000) && b)=b):=fun b=>by simp [hlf]
 go_enter Tryz.func120,Tryz.ntmps120
 go_wp2_with (go_at_call 24;refine (in_any _ _ _ _).mono ?_;rintro e w' ⟨rfl,rfl⟩)
 refine (gexpr_any _ es _ (by omega) (HE.out.below (bel_a _ _))).mono ?_
 rintro e w1 ⟨rfl,hb1⟩
 rw [HD.out]
 simp only [World.size_alloc] at hb1
 have hB1:=one_below hb1
 obtain ⟨x0,x1,x2,x3,x4,x5⟩:=box6 hb1
 cases ho:oneB es
 ·go_wp2_with fail
  go_ret
  exact ⟨ret_bool (by simp only [gstmtB,stmtB];simp [ho]),hB1⟩
 cases hn:nameB s
 case true=>
  go_wp2_with (go_at_call 81;refine (name_any _ _).mono ?_;rintro e w' ⟨rfl,rfl⟩;rw [hn])
  go_ret
  exact ⟨ret_bool (by simp only [gstmtB,stmtB];simp [ho,nameB_empty hn,-List.beq_nil_eq]),hB1⟩
 cases hs:(s.toList == [])
 ·have hs1:(s.toList != [])=true:=by rw [bne,hs];rfl
  go_wp2_with (go_at_call 81;refine (name_any _ _).mono ?_;rintro e w' ⟨rfl,rfl⟩;rw [hn])
  go_ret
  exact ⟨ret_bool (by simp only [gstmtB,stmtB];simp [ho,hs,-List.beq_nil_eq]),hB1⟩
 have hs1:(s.toList != [])=false:=by rw [bne,hs];rfl
 by_cases hf0:0<fs.length
 ·go_wp2_with (go_at_call 81;refine (name_any _ _).mono ?_;rintro e w' ⟨rfl,rfl⟩;rw [hn])
  go_ret
  refine ⟨ret_bool ?_,hB1⟩
  have:(fs.length == 0)=false:=by simp only [beq_eq_false_iff_ne];omega
  simp only [gstmtB,stmtB,this];simp [ho,hs,-List.beq_nil_eq]
 have HF0:Hid ((fs.length == 0)=true):=by show _=_;simp only [beq_iff_eq];omega
 by_cases ht:t<0
 ·go_wp2_with (go_at_call 81;refine (name_any _ _).mono ?_;rintro e w' ⟨rfl,rfl⟩;rw [hn])
  all_goals go_ret
  all_goals refine ⟨ret_bool ?_,hB1⟩
  all_goals (simp only [gstmtB,stmtB,HF0.out];simp [ho,hs,-List.beq_nil_eq] <;> omega)
 by_cases hl:l<0
 ·go_wp2_with (go_at_call 81;refine (name_any _ _).mono ?_;rintro e w' ⟨rfl,rfl⟩;rw [hn])
  all_goals go_ret
  all_goals refine ⟨ret_bool ?_,hB1⟩
  all_goals (simp only [gstmtB,stmtB,HF0.out];simp [ho,hs,-List.beq_nil_eq] <;> omega)
 go_wp2_with (go_at_call 81;refine (name_any _ _).mono ?_;rintro e w' ⟨rfl,rfl⟩;rw [hn])
 all_goals go_ret
 all_goals refine ⟨ret_bool ?_,hB1⟩
 all_goals have ht':0<=t:=by omega
 all_goals have hl':0<=l:=by omega
 all_goals (simp only [gstmtB,stmtB,HF0.out];simp [ho,hs,-List.beq_nil_eq,ht',hl'])
theorem gstmt5 (s:ByteArray) (ve vf:Value) (es fs:List Nd) (t l:Int) (w:World) (hle:es.length<=2000) (hlf:fs.length<=2000) (he:Nodes w ve es) (hf:Nodes w vf fs) :
  Calls Tryz.prog 120 #[.agg #[.int .i64 5,.string s,ve,vf,.int .i64 t,.int .i64 l]] w fun e w'=>e = .returned (.bool (gstmtB ⟨5,s,es,fs,t,l⟩))/\Below w.heap.size w w':=by
 have HE:=hide he
 have HF:=hide hf
 obtain ⟨ae,ce,rfl,-,-,-⟩:=he
 obtain ⟨af,cf,rfl,-,-,-⟩:=hf
 have HD:Hid (∀b:Bool,(decide (es.length<=2000) && b)=b):=fun b=>by simp [hle]
 have HDF:Hid (∀b:Bool,(decide (fs.length<=2000) && b)=b):=fun b=>by simp [hlf]
 go_enter Tryz.func120,Tryz.ntmps120
 go_wp2_with (go_at_call 24;refine (in_any _ _ _ _).mono ?_;rintro e w' ⟨rfl,rfl⟩)
 refine (gexpr_any _ es _ (by omega) (HE.out.below (bel_a _ _))).mono ?_
 rintro e w1 ⟨rfl,hb1⟩
 rw [HD.out]
 simp only [World.size_alloc] at hb1
 have hB1:=one_below hb1
 obtain ⟨x0,x1,x2,x3,x4,x5⟩:=box6 hb1
 cases ho:oneB es
 ·go_wp2_with fail
  go_ret
  exact ⟨ret_bool (by simp only [gstmtB,stmtB];simp [ho]),hB1⟩
 cases hn:nameB s
 case true=>
  go_wp2_with (go_at_call 81;refine (name_any _ _).mono ?_;rintro e w' ⟨rfl,rfl⟩;rw [hn])
  go_ret
  exact ⟨ret_bool (by simp only [gstmtB,stmtB];simp [ho,nameB_empty hn,-List.beq_nil_eq]),hB1⟩
 cases hs:(s.toList == [])
 ·have hs1:(s.toList != [])=true:=by rw [bne,hs];rfl
  go_wp2_with (go_at_call 81;refine (name_any _ _).mono ?_;rintro e w' ⟨rfl,rfl⟩;rw [hn])
  go_ret
  exact ⟨ret_bool (by simp only [gstmtB,stmtB];simp [ho,hs,-List.beq_nil_eq]),hB1⟩
 have hs1:(s.toList != [])=false:=by rw [bne,hs];rfl
 by_cases hf0:0<fs.length
 ·go_wp2_with (go_at_call 81;refine (name_any _ _).mono ?_;rintro e w' ⟨rfl,rfl⟩;rw [hn])
  go_ret
  refine ⟨ret_bool ?_,hB1⟩
  have:(fs.length == 0)=false:=by simp only [beq_eq_false_iff_ne];omega
  simp only [gstmtB,stmtB,this];simp [ho,hs,-List.beq_nil_eq]
 have HF0:Hid ((fs.length == 0)=true):=by show _=_;simp only [beq_iff_eq];omega
 by_cases ht:t<0
 ·go_wp2_with (go_at_call 81;refine (name_any _ _).mono ?_;rintro e w' ⟨rfl,rfl⟩;rw [hn])
  all_goals go_ret
  all_goals refine ⟨ret_bool ?_,hB1⟩
  all_goals (simp only [gstmtB,stmtB,HF0.out];simp [ho,hs,-List.beq_nil_eq] <;> omega)
 by_cases hl:l<0
 ·go_wp2_with (go_at_call 81;refine (name_any _ _).mono ?_;rintro e w' ⟨rfl,rfl⟩;rw [hn])
  all_goals go_ret
  all_goals refine ⟨ret_bool ?_,hB1⟩
  all_goals (simp only [gstmtB,stmtB,HF0.out];simp [ho,hs,-List.beq_nil_eq] <;> omega)
 by_cases hl2:0<l
 ·go_wp2_with (go_at_call 81;refine (name_any _ _).mono ?_;rintro e w' ⟨rfl,rfl⟩;rw [hn])
  all_goals go_ret
  all_goals refine ⟨ret_bool ?_,hB1⟩
  all_goals (simp only [gstmtB,stmtB,HF0.out];simp [ho,hs,-List.beq_nil_eq] <;> omega)
 go_wp2_with (go_at_call 81;refine (name_any _ _).mono ?_;rintro e w' ⟨rfl,rfl⟩;rw [hn])
 all_goals go_ret
 all_goals refine ⟨ret_bool ?_,hB1⟩
 all_goals have ht':0<=t:=by omega
 all_goals have hl':0<=l:=by omega
 all_goals have e2:l=0:=by omega
 all_goals (simp only [gstmtB,stmtB,HF0.out];simp [ho,hs,-List.beq_nil_eq,ht',hl',e2])
theorem gstmt6 (s:ByteArray) (ve vf:Value) (es fs:List Nd) (t l:Int) (w:World) (hle:es.length<=2000) (hlf:fs.length<=2000) (he:Nodes w ve es) (hf:Nodes w vf fs) :
  Calls Tryz.prog 120 #[.agg #[.int .i64 6,.string s,ve,vf,.int .i64 t,.int .i64 l]] w fun e w'=>e = .returned (.bool (gstmtB ⟨6,s,es,fs,t,l⟩))/\Below w.heap.size w w':=by
 have HE:=hide he
 have HF:=hide hf
 obtain ⟨ae,ce,rfl,-,-,-⟩:=he
 obtain ⟨af,cf,rfl,-,-,-⟩:=hf
 have HD:Hid (∀b:Bool,(decide (es.length<=2000) && b)=b):=fun b=>by simp [hle]
 have HDF:Hid (∀b:Bool,(decide (fs.length<=2000) && b)=b):=fun b=>by simp [hlf]
 go_enter Tryz.func120,Tryz.ntmps120
 go_wp2_with (go_at_call 24;refine (in_any _ _ _ _).mono ?_;rintro e w' ⟨rfl,rfl⟩)
 refine (gexpr_any _ es _ (by omega) (HE.out.below (bel_a _ _))).mono ?_
 rintro e w1 ⟨rfl,hb1⟩
 rw [HD.out]
 simp only [World.size_alloc] at hb1
 have hB1:=one_below hb1
 obtain ⟨x0,x1,x2,x3,x4,x5⟩:=box6 hb1
 cases ho:oneB es
 ·go_wp2_with fail
  go_ret
  exact ⟨ret_bool (by simp only [gstmtB,stmtB];simp [ho]),hB1⟩
 cases hn:nameB s
 case true=>
  go_wp2_with (go_at_call 81;refine (name_any _ _).mono ?_;rintro e w' ⟨rfl,rfl⟩;rw [hn])
  go_ret
  exact ⟨ret_bool (by simp only [gstmtB,stmtB];simp [ho,nameB_empty hn,-List.beq_nil_eq]),hB1⟩
 cases hs:(s.toList == [])
 ·have hs1:(s.toList != [])=true:=by rw [bne,hs];rfl
  go_wp2_with (go_at_call 81;refine (name_any _ _).mono ?_;rintro e w' ⟨rfl,rfl⟩;rw [hn])
  go_ret
  exact ⟨ret_bool (by simp only [gstmtB,stmtB];simp [ho,hs,-List.beq_nil_eq]),hB1⟩
 have hs1:(s.toList != [])=false:=by rw [bne,hs];rfl
 by_cases hf0:0<fs.length
 ·go_wp2_with (go_at_call 81;refine (name_any _ _).mono ?_;rintro e w' ⟨rfl,rfl⟩;rw [hn])
  go_ret
  refine ⟨ret_bool ?_,hB1⟩
  have:(fs.length == 0)=false:=by simp only [beq_eq_false_iff_ne];omega
  simp only [gstmtB,stmtB,this];simp [ho,hs,-List.beq_nil_eq]
 have HF0:Hid ((fs.length == 0)=true):=by show _=_;simp only [beq_iff_eq];omega
 by_cases ht:t<0
 ·go_wp2_with (go_at_call 81;refine (name_any _ _).mono ?_;rintro e w' ⟨rfl,rfl⟩;rw [hn])
  all_goals go_ret
  all_goals refine ⟨ret_bool ?_,hB1⟩
  all_goals (simp only [gstmtB,stmtB,HF0.out];simp [ho,hs,-List.beq_nil_eq] <;> omega)
 by_cases hl:l<0
 ·go_wp2_with (go_at_call 81;refine (name_any _ _).mono ?_;rintro e w' ⟨rfl,rfl⟩;rw [hn])
  all_goals go_ret
  all_goals refine ⟨ret_bool ?_,hB1⟩
  all_goals (simp only [gstmtB,stmtB,HF0.out];simp [ho,hs,-List.beq_nil_eq] <;> omega)
 by_cases ht2:0<t
 ·go_wp2_with (go_at_call 81;refine (name_any _ _).mono ?_;rintro e w' ⟨rfl,rfl⟩;rw [hn])
  all_goals go_ret
  all_goals refine ⟨ret_bool ?_,hB1⟩
  all_goals (simp only [gstmtB,stmtB,HF0.out];simp [ho,hs,-List.beq_nil_eq] <;> omega)
 by_cases hl2:0<l
 ·go_wp2_with (go_at_call 81;refine (name_any _ _).mono ?_;rintro e w' ⟨rfl,rfl⟩;rw [hn])
  all_goals go_ret
  all_goals refine ⟨ret_bool ?_,hB1⟩
  all_goals (simp only [gstmtB,stmtB,HF0.out];simp [ho,hs,-List.beq_nil_eq] <;> omega)
 go_wp2_with (go_at_call 81;refine (name_any _ _).mono ?_;rintro e w' ⟨rfl,rfl⟩;rw [hn])
 all_goals go_ret
 all_goals refine ⟨ret_bool ?_,hB1⟩
 all_goals have ht':0<=t:=by omega
 all_goals have hl':0<=l:=by omega
 all_goals have e1:t=0:=by omega
 all_goals have e2:l=0:=by omega
 all_goals (simp only [gstmtB,stmtB,HF0.out];simp [ho,hs,-List.beq_nil_eq,ht',hl',e1,e2])
end Go.Proofs.YtmddmgpijpjpbaaGreatDoor
