import Derived.Test.YtnpidjamplmgjaaGreatDoorQ08
set_option linter.unusedSectionVars false
variable [Inhabited Go.Proofs.YtnpidjamplmgjaaGreatDoor.Pick]
namespace Go.Proofs.YtnpidjamplmgjaaGreatDoor
open Go.RowKit
set_option linter.unusedVariables false
set_option linter.unusedSimpArgs false
set_option maxRecDepth 100000
set_option maxHeartbeats 16000000
theorem cut_run2 (a:Option Addr) (n cap lo hi:Nat) (h1:lo<=hi) (h2:hi<=n) (h3:n<=cap) (l' h':Int) (hl':l'=lo) (hh':h'=hi) : ∀w:World,(Instr.slice 62 (.slice a n cap) (some (.int .i64 l')) (some (.int .i64 h')) none).run Tryz.prog w = .ok (.slice (if cap=lo then a else a.map (·.add (lo*6))) (hi-lo) (cap-lo)) w:=by
 intro w
 have h:=cut_run a n cap lo hi h1 h2 h3 w
 rw [show ((lo:Int)+((hi-lo:Nat):Int))=hi by omega] at h
 rw [hl',hh']
 exact h
def nonneg (ss:List St):Prop:=∀s∈ss,0<=s.thn/\0<=s.els
theorem nonneg.take {ss:List St} (h:nonneg ss) (n:Nat):nonneg (ss.take n):=fun s hs=>h s (List.mem_of_mem_take hs)
theorem nonneg.drop {ss:List St} (h:nonneg ss) (n:Nat):nonneg (ss.drop n):=fun s hs=>h s (List.mem_of_mem_drop hs)
theorem shaped_any (n:Nat) : ∀(v:Value) (ss:List St) (w:World) (hn:ss.length<=n) (hl:ss.length<=1048576) (hp:nonneg ss) (hc:Stmts w v ss),
  Calls Tryz.prog 147 #[v] w fun e w'=>e = .returned (.bool (fitB ss))/\Below w.heap.size w w':=by
 induction n with
 | zero=>
  intro v ss w hn hl hp hc
  have:ss = []:=List.eq_nil_of_length_eq_zero o_
  subst this
  obtain ⟨a,cap,rfl,hcl,hcm,hc⟩:=hc
  simp only [l_n] at *
  clear hc hp
  go_enter Tryz.func147,Tryz.ntmps147
  go_wp2_with fail
  refine wp_loop_rounds 1 ?_
  rw [rounds_succ]
  go_wp2_with fail
  go_ret
  exact ⟨rfl,Below.refl _ _⟩
 | succ n ih=>
 intro v ss w hn hl hp hc
 have IH:=hide ih
 have HP:=hide hp
 have HN:=hide hc
 obtain ⟨a,cap,rfl,hcl,hcm,hc⟩:=hc
 have HC:=hide hc
 clear hc ih hp
 go_enter Tryz.func147,Tryz.ntmps147
 go_wp2_with fail
 go_loopw [3] (fun i wr=>∃k:Nat,k<=ss.length/\i = .int .i64 k/\fitB ss=fitB (ss.drop k)/\Bl w wr) (fun i _=>ss.length-(intOf i).toNat)
 case atStart=>exact ⟨0,Nat.zero_le _,rfl,rfl,Below.refl _ _⟩
 case round=>
  obtain ⟨k,hk,rfl,hfit,hB⟩:=hrel
  have HF:=hide hfit
  clear hfit
  by_cases hlt:k<ss.length
  case neg=>
   go_wp2_with fail
   go_ret
   exact ⟨ret_bool (by rw [HF.out,List.drop_of_length_le o_];rfl),hB⟩
  case pos=>
   obtain ⟨b,off,rfl,hs⟩:=HC.out o_
   obtain ⟨ve,vf,⟨c0,c1,c2,c3,c4,c5⟩,he,hf⟩:=(hs.below hB) k hlt
   have HFC:Hid _:=(HF.out.trans (congrArg fitB (List.drop_eq_getElem_cons hlt))).trans (fitB_cons ss[k] (ss.drop (k+1)))
   have hnn:=HP.out ss[k] (List.getElem_mem hlt)
   obtain ⟨a2,k2,rfl,-,-,-⟩:=he
   obtain ⟨a3,k3,rfl,-,-,-⟩:=hf
   clear hs HC HF
   generalize hr:ss.drop (k+1)=r at HFC
   have hrl:r.length+k+1=ss.length:=by rw [<-hr];simp;omega
   generalize ss[k].kind=kI at c0
   generalize ss[k].name=nI at c1
   generalize ss[k].thn=tI at c4 HFC hnn
   generalize ss[k].els=lI at c5 HFC hnn
   generalize ss[k].e.length=n2 at c2
   generalize ss[k].f.length=n3 at c3
   obtain ⟨tn,rfl⟩:=Int.eq_ofNat_of_zero_le hnn.1
   obtain ⟨ln,rfl⟩:=Int.eq_ofNat_of_zero_le hnn.2
   clear hnn
   have HR:=hide hr
   have HRL:=hide hrl
   have hB1:Bl w (wr.alloc (.cells #[.int .i64 kI,.string nI,.slice a2 n2 k2,.slice a3 n3 k3,.int .i64 tn,.int .i64 ln] 123)):=hB.alloc hB.size _
   clear hr
   by_cases q2:(ss.length:Int)-k-1<tn
   ·clear hrl
    go_wp2_with fail
    go_ret
    exact ⟨ret_bool (by have:=HRL.out;rw [HFC.out,decide_eq_false o_];rfl),hB1⟩
   by_cases q4:(ss.length:Int)-k-1-tn<ln
   ·clear hrl
    go_wp2_with fail
    go_ret
    exact ⟨ret_bool (by have:=HRL.out;rw [HFC.out,decide_eq_false o_];rfl),hB1⟩
   have hlt2:k+1+tn+ln<=ss.length:=by omega
   have HC1:Hid (fitB ss=(fitB (r.take tn) && (fitB ((r.take (tn+ln)).drop tn) && fitB (r.drop (tn+ln))))):=by
    show _=_
    rw [HFC.out,decide_eq_true o_];simp
   have HE1:Hid ((ss.take (k+1+tn)).drop (k+1)=r.take tn):=by
    show _=_
    rw [<-HR.out,List.drop_take];congr 1;omega
   have HE2:Hid ((ss.take (k+1+tn+ln)).drop (k+1+tn)=(r.take (tn+ln)).drop tn):=by
    show _=_
    rw [<-HR.out,List.drop_take,List.drop_take,List.drop_drop];congr 1;omega
   have HE3:Hid (ss.drop (k+1+tn+ln)=r.drop (tn+ln)):=by
    show _=_
    rw [<-HR.out,List.drop_drop];congr 1;omega
   obtain ⟨a5,k5,hr5,hs5⟩ : ∃a5 k5,(∀w:World,(Instr.slice 62 (.slice (some ⟨b,off,none⟩) ss.length cap) (some (.int .i64 ((k:Int)+1))) (some (.int .i64 ((k:Int)+1+(tn:Int)))) none).run Tryz.prog w = .ok (.slice a5 tn k5) w)/\Stmts w (.slice a5 tn k5) (r.take tn):=by
    have h:=cut_run2 (some ⟨b,off,none⟩) ss.length cap (k+1) (k+1+tn) o_ o_ o_ ((k:Int)+1) ((k:Int)+1+(tn:Int)) o_ o_
    have h':=HN.out.cut (k+1) (k+1+tn) o_ o_
    rw [show k+1+tn-(k+1)=tn by omega] at h h'
    rw [HE1.out] at h'
    exact ⟨_,_,h,h'⟩
   have HS5:=hide hs5
   clear hs5 HFC hrl
   go_wp2_with fail
   refine (IH.out _ (r.take tn) _ (by have:=HRL.out;simp;omega) (by have:=HRL.out;simp;omega) (by rw [<-HR.out];exact (HP.out.drop _).take _) (HS5.out.below hB1)).mono ?_
   rintro e w1 ⟨rfl,hb1⟩
   have hb1':Below (wr.heap.size+1) (wr.alloc (.cells #[.int .i64 kI,.string nI,.slice a2 n2 k2,.slice a3 n3 k3,.int .i64 tn,.int .i64 ln] 123)) w1:=hb1.mono (by simp)
   have hB2:=hB.trans ((one_below hb1').mono hB.size)
   obtain ⟨x0,x1,x2,x3,x4,x5⟩:=box6 hb1'
   clear hb1 hr5 HS5
   cases hf1:fitB (r.take tn)
   ·go_wp2_with fail
    go_ret
    exact ⟨ret_bool (by rw [HC1.out,hf1];rfl),hB2⟩
   obtain ⟨a6,k6,hr6,hs6⟩ : ∃a6 k6,(∀w:World,(Instr.slice 62 (.slice (some ⟨b,off,none⟩) ss.length cap) (some (.int .i64 ((k:Int)+1+(tn:Int)))) (some (.int .i64 ((k:Int)+1+(tn:Int)+(ln:Int)))) none).run Tryz.prog w = .ok (.slice a6 ln k6) w)/\Stmts w (.slice a6 ln k6) ((r.take (tn+ln)).drop tn):=by
    have h:=cut_run2 (some ⟨b,off,none⟩) ss.length cap (k+1+tn) (k+1+tn+ln) o_ o_ o_ ((k:Int)+1+(tn:Int)) ((k:Int)+1+(tn:Int)+(ln:Int)) o_ o_
    have h':=HN.out.cut (k+1+tn) (k+1+tn+ln) o_ o_
    rw [show k+1+tn+ln-(k+1+tn)=ln by omega] at h h'
    rw [HE2.out] at h'
    exact ⟨_,_,h,h'⟩
   have HS6:=hide hs6
   clear hs6
   go_wp2_with fail
   refine (IH.out _ ((r.take (tn+ln)).drop tn) _ (by have:=HRL.out;simp;omega) (by have:=HRL.out;simp;omega) (by rw [<-HR.out];exact ((HP.out.drop _).take _).drop _) (HS6.out.below hB2)).mono ?_
   rintro e w2 ⟨rfl,hb2⟩
   have hb2':=hb1'.trans (hb2.mono (by have:=hb1'.size;simp at this;omega))
   have hB3:=hB.trans ((one_below hb2').mono hB.size)
   clear x0 x1 x2 x3 x4 x5 hr6
   obtain ⟨x0,x1,x2,x3,x4,x5⟩:=box6 hb2'
   cases hf2:fitB ((r.take (tn+ln)).drop tn)
   ·go_wp2_with fail
    go_ret
    exact ⟨ret_bool (by rw [HC1.out,hf1,hf2];rfl),hB3⟩
   go_wp2_with fail
   go_roundw
   case rel=>exact ⟨k+1+tn+ln,by omega,by go_num,by rw [HC1.out,hf1,hf2,HE3.out];rfl,hB3⟩
   case measure=>simp [intOf];omega
theorem gstmt1 (s:ByteArray) (ve vf:Value) (es fs:List Nd) (t l:Int) (w:World) (hle:es.length<=2000) (hlf:fs.length<=2000) (he:Nodes w ve es) (hf:Nodes w vf fs) :
  Calls Tryz.prog 146 #[.agg #[.int .i64 1,.string s,ve,vf,.int .i64 t,.int .i64 l]] w fun e w'=>e = .returned (.bool (gstmtB ⟨1,s,es,fs,t,l⟩))/\Below w.heap.size w w':=by
 have HE:=hide he
 have HF:=hide hf
 obtain ⟨ae,ce,rfl,-,-,-⟩:=he
 obtain ⟨af,cf,rfl,-,-,-⟩:=hf
 have HD:Hid (∀b:Bool,(decide (es.length<=2000) && b)=b):=fun b=>by simp [hle]
 have HDF:Hid (∀b:Bool,(decide (fs.length<=2000) && b)=b):=fun b=>by simp [hlf]
 go_enter Tryz.func146,Tryz.ntmps146
 go_wp2_with (go_at_call 111;refine (in_any _ _ _ _).mono ?_;rintro e w' ⟨rfl,rfl⟩)
 refine (gexpr_any _ es _ o_ (HE.out.below (bel_a _ _))).mono ?_
 rintro e w1 ⟨rfl,hb1⟩
 rw [HD.out]
 simp only [World.size_alloc] at hb1
 have hB1:=one_below hb1
 obtain ⟨x0,x1,x2,x3,x4,x5⟩:=box6 hb1
 cases ho:oneB es
 ·go_wp2_with fail
  go_ret
  exact ⟨ret_bool (by simp only [gstmtB,stmtB];simp [ho]),hB1⟩
 cases hn:nameB s
 ·go_wp2_with (go_at_call 110;refine (name_any _ _).mono ?_;rintro e w' ⟨rfl,rfl⟩;rw [hn])
  go_ret
  exact ⟨ret_bool (by simp only [gstmtB,stmtB];simp [ho,hn]),hB1⟩
 by_cases hf0:0<fs.length
 ·go_wp2_with (go_at_call 110;refine (name_any _ _).mono ?_;rintro e w' ⟨rfl,rfl⟩;rw [hn])
  go_ret
  refine ⟨ret_bool ?_,hB1⟩
  have:(fs.length == 0)=false:=by simp only [beq_eq_false_iff_ne];omega
  simp only [gstmtB,stmtB,this];simp [ho,hn]
 have HF0:Hid ((fs.length == 0)=true):=by show _=_;simp only [beq_iff_eq];omega
 by_cases ht:t<0
 ·go_wp2_with (go_at_call 110;refine (name_any _ _).mono ?_;rintro e w' ⟨rfl,rfl⟩;rw [hn])
  all_goals go_ret
  all_goals refine ⟨ret_bool ?_,hB1⟩
  all_goals (simp only [gstmtB,stmtB,HF0.out];simp [ho,hn] <;> omega)
 by_cases hl:l<0
 ·go_wp2_with (go_at_call 110;refine (name_any _ _).mono ?_;rintro e w' ⟨rfl,rfl⟩;rw [hn])
  all_goals go_ret
  all_goals refine ⟨ret_bool ?_,hB1⟩
  all_goals (simp only [gstmtB,stmtB,HF0.out];simp [ho,hn] <;> omega)
 by_cases ht2:0<t
 ·go_wp2_with (go_at_call 110;refine (name_any _ _).mono ?_;rintro e w' ⟨rfl,rfl⟩;rw [hn])
  all_goals go_ret
  all_goals refine ⟨ret_bool ?_,hB1⟩
  all_goals (simp only [gstmtB,stmtB,HF0.out];simp [ho,hn] <;> omega)
 by_cases hl2:0<l
 ·go_wp2_with (go_at_call 110;refine (name_any _ _).mono ?_;rintro e w' ⟨rfl,rfl⟩;rw [hn])
  all_goals go_ret
  all_goals refine ⟨ret_bool ?_,hB1⟩
  all_goals (simp only [gstmtB,stmtB,HF0.out];simp [ho,hn] <;> omega)
 go_wp2_with (go_at_call 110;refine (name_any _ _).mono ?_;rintro e w' ⟨rfl,rfl⟩;rw [hn])
 all_goals go_ret
 all_goals refine ⟨ret_bool ?_,hB1⟩
 all_goals have ht':0<=t:=by omega
 all_goals have hl':0<=l:=by omega
 all_goals have e1:t=0:=by omega
 all_goals have e2:l=0:=by omega
 all_goals (simp only [gstmtB,stmtB,HF0.out];simp [ho,hn,ht',hl',e1,e2])
theorem gstmt2 (s:ByteArray) (ve vf:Value) (es fs:List Nd) (t l:Int) (w:World) (hle:es.length<=2000) (hlf:fs.length<=2000) (he:Nodes w ve es) (hf:Nodes w vf fs) :
  Calls Tryz.prog 146 #[.agg #[.int .i64 2,.string s,ve,vf,.int .i64 t,.int .i64 l]] w fun e w'=>e = .returned (.bool (gstmtB ⟨2,s,es,fs,t,l⟩))/\Below w.heap.size w w':=by
 have HE:=hide he
 have HF:=hide hf
 obtain ⟨ae,ce,rfl,-,-,-⟩:=he
 obtain ⟨af,cf,rfl,-,-,-⟩:=hf
 have HD:Hid (∀b:Bool,(decide (es.length<=2000) && b)=b):=fun b=>by simp [hle]
 have HDF:Hid (∀b:Bool,(decide (fs.length<=2000) && b)=b):=fun b=>by simp [hlf]
 go_enter Tryz.func146,Tryz.ntmps146
 go_wp2_with (go_at_call 111;refine (in_any _ _ _ _).mono ?_;rintro e w' ⟨rfl,rfl⟩)
 refine (gexpr_any _ es _ o_ (HE.out.below (bel_a _ _))).mono ?_
 rintro e w1 ⟨rfl,hb1⟩
 rw [HD.out]
 simp only [World.size_alloc] at hb1
 have hB1:=one_below hb1
 obtain ⟨x0,x1,x2,x3,x4,x5⟩:=box6 hb1
 cases ho:oneB es
 ·go_wp2_with fail
  go_ret
  exact ⟨ret_bool (by simp only [gstmtB,stmtB];simp [ho]),hB1⟩
 cases hn:nameB s
 ·go_wp2_with (go_at_call 110;refine (name_any _ _).mono ?_;rintro e w' ⟨rfl,rfl⟩;rw [hn])
  go_ret
  exact ⟨ret_bool (by simp only [gstmtB,stmtB];simp [ho,hn]),hB1⟩
 by_cases hf0:0<fs.length
 ·go_wp2_with (go_at_call 110;refine (name_any _ _).mono ?_;rintro e w' ⟨rfl,rfl⟩;rw [hn])
  go_ret
  refine ⟨ret_bool ?_,hB1⟩
  have:(fs.length == 0)=false:=by simp only [beq_eq_false_iff_ne];omega
  simp only [gstmtB,stmtB,this];simp [ho,hn]
 have HF0:Hid ((fs.length == 0)=true):=by show _=_;simp only [beq_iff_eq];omega
 by_cases ht:t<0
 ·go_wp2_with (go_at_call 110;refine (name_any _ _).mono ?_;rintro e w' ⟨rfl,rfl⟩;rw [hn])
  all_goals go_ret
  all_goals refine ⟨ret_bool ?_,hB1⟩
  all_goals (simp only [gstmtB,stmtB,HF0.out];simp [ho,hn] <;> omega)
 by_cases hl:l<0
 ·go_wp2_with (go_at_call 110;refine (name_any _ _).mono ?_;rintro e w' ⟨rfl,rfl⟩;rw [hn])
  all_goals go_ret
  all_goals refine ⟨ret_bool ?_,hB1⟩
  all_goals (simp only [gstmtB,stmtB,HF0.out];simp [ho,hn] <;> omega)
 by_cases ht2:0<t
 ·go_wp2_with (go_at_call 110;refine (name_any _ _).mono ?_;rintro e w' ⟨rfl,rfl⟩;rw [hn])
  all_goals go_ret
  all_goals refine ⟨ret_bool ?_,hB1⟩
  all_goals (simp only [gstmtB,stmtB,HF0.out];simp [ho,hn] <;> omega)
 by_cases hl2:0<l
 ·go_wp2_with (go_at_call 110;refine (name_any _ _).mono ?_;rintro e w' ⟨rfl,rfl⟩;rw [hn])
  all_goals go_ret
  all_goals refine ⟨ret_bool ?_,hB1⟩
  all_goals (simp only [gstmtB,stmtB,HF0.out];simp [ho,hn] <;> omega)
 go_wp2_with (go_at_call 110;refine (name_any _ _).mono ?_;rintro e w' ⟨rfl,rfl⟩;rw [hn])
 all_goals go_ret
 all_goals refine ⟨ret_bool ?_,hB1⟩
 all_goals have ht':0<=t:=by omega
 all_goals have hl':0<=l:=by omega
 all_goals have e1:t=0:=by omega
 all_goals have e2:l=0:=by omega
 all_goals (simp only [gstmtB,stmtB,HF0.out];simp [ho,hn,ht',hl',e1,e2])
theorem gstmt3 (s:ByteArray) (ve vf:Value) (es fs:List Nd) (t l:Int) (w:World) (hle:es.length<=2000) (hlf:fs.length<=2000) (he:Nodes w ve es) (hf:Nodes w vf fs) :
  Calls Tryz.prog 146 #[.agg #[.int .i64 3,.string s,ve,vf,.int .i64 t,.int .i64 l]] w fun e w'=>e = .returned (.bool (gstmtB ⟨3,s,es,fs,t,l⟩))/\Below w.heap.size w w':=by
 have HE:=hide he
 have HF:=hide hf
 obtain ⟨ae,ce,rfl,-,-,-⟩:=he
 obtain ⟨af,cf,rfl,-,-,-⟩:=hf
 have HD:Hid (∀b:Bool,(decide (es.length<=2000) && b)=b):=fun b=>by simp [hle]
 have HDF:Hid (∀b:Bool,(decide (fs.length<=2000) && b)=b):=fun b=>by simp [hlf]
 go_enter Tryz.func146,Tryz.ntmps146
 go_wp2_with (go_at_call 111;refine (in_any _ _ _ _).mono ?_;rintro e w' ⟨rfl,rfl⟩)
 refine (gexpr_any _ es _ o_ (HE.out.below (bel_a _ _))).mono ?_
 rintro e w1 ⟨rfl,hb1⟩
 rw [HD.out]
 simp only [World.size_alloc] at hb1
 have hB1:=one_below hb1
 obtain ⟨x0,x1,x2,x3,x4,x5⟩:=box6 hb1
 cases ho:oneB es
 ·go_wp2_with fail
  go_ret
  exact ⟨ret_bool (by simp only [gstmtB,stmtB];simp [ho]),hB1⟩
 cases hn:nameB s
 ·go_wp2_with (go_at_call 110;refine (name_any _ _).mono ?_;rintro e w' ⟨rfl,rfl⟩;rw [hn])
  go_ret
  exact ⟨ret_bool (by simp only [gstmtB,stmtB];simp [ho,hn]),hB1⟩
 by_cases hf0:0<fs.length
 case neg=>
  go_wp2_with (go_at_call 110;refine (name_any _ _).mono ?_;rintro e w' ⟨rfl,rfl⟩;rw [hn])
  go_ret
  refine ⟨ret_bool ?_,hB1⟩
  have:fs = []:=List.eq_nil_of_length_eq_zero o_
  subst this
  have hoe:oneB []=false:=by simp [oneB,wholeTo]
  simp only [gstmtB,stmtB];simp [ho,hn,hoe]
 go_wp2_with (go_at_call 110;refine (name_any _ _).mono ?_;rintro e w' ⟨rfl,rfl⟩;rw [hn])
 refine (gexpr_any _ fs _ o_ (HF.out.below hB1)).mono ?_
 rintro e w2 ⟨rfl,hb2⟩
 rw [HDF.out]
 have hb2':=hb1.trans (hb2.mono (by have:=hb1.size;simp at this;omega))
 have hB2:=one_below hb2'
 obtain ⟨x0,x1,x2,x3,x4,x5⟩:=box6 hb2'
 cases hof:oneB fs
 ·go_wp2_with fail
  go_ret
  exact ⟨ret_bool (by simp only [gstmtB,stmtB];simp [ho,hn,hof]),hB2⟩
 by_cases ht:t<0
 ·go_wp2_with fail
  all_goals go_ret
  all_goals refine ⟨ret_bool ?_,hB2⟩
  all_goals (simp only [gstmtB,stmtB];simp [ho,hn,hof] <;> omega)
 by_cases hl:l<0
 ·go_wp2_with fail
  all_goals go_ret
  all_goals refine ⟨ret_bool ?_,hB2⟩
  all_goals (simp only [gstmtB,stmtB];simp [ho,hn,hof] <;> omega)
 by_cases ht2:0<t
 ·go_wp2_with fail
  all_goals go_ret
  all_goals refine ⟨ret_bool ?_,hB2⟩
  all_goals (simp only [gstmtB,stmtB];simp [ho,hn,hof] <;> omega)
 by_cases hl2:0<l
 ·go_wp2_with fail
  all_goals go_ret
  all_goals refine ⟨ret_bool ?_,hB2⟩
  all_goals (simp only [gstmtB,stmtB];simp [ho,hn,hof] <;> omega)
 go_wp2_with fail
 all_goals go_ret
 all_goals refine ⟨ret_bool ?_,hB2⟩
 all_goals have ht':0<=t:=by omega
 all_goals have hl':0<=l:=by omega
 all_goals have e1:t=0:=by omega
 all_goals have e2:l=0:=by omega
 all_goals (simp only [gstmtB,stmtB];simp [ho,hn,hof,ht',hl',e1,e2])
theorem gstmt4 (s:ByteArray) (ve vf:Value) (es fs:List Nd) (t l:Int) (w:World) (hle:es.length<=2000) (hlf:fs.length<=2000) (he:Nodes w ve es) (hf:Nodes w vf fs) :
  Calls Tryz.prog 146 #[.agg #[.int .i64 4,.string s,ve,vf,.int .i64 t,.int .i64 l]] w fun e w'=>e = .returned (.bool (gstmtB ⟨4,s,es,fs,t,l⟩))/\Below w.heap.size w w':=by
 have HE:=hide he
 have HF:=hide hf
 obtain ⟨ae,ce,rfl,-,-,-⟩:=he
 obtain ⟨af,cf,rfl,-,-,-⟩:=hf
 have HD:Hid (∀b:Bool,(decide (es.length<=2000) && b)=b):=fun b=>by simp [hle]
 have HDF:Hid (∀b:Bool,(decide (fs.length<=2000) && b)=b):=fun b=>by simp [hlf]
 go_enter Tryz.func146,Tryz.ntmps146
 go_wp2_with (go_at_call 111;refine (in_any _ _ _ _).mono ?_;rintro e w' ⟨rfl,rfl⟩)
 refine (gexpr_any _ es _ o_ (HE.out.below (bel_a _ _))).mono ?_
 rintro e w1 ⟨rfl,hb1⟩
 rw [HD.out]
 simp only [World.size_alloc] at hb1
 have hB1:=one_below hb1
 obtain ⟨x0,x1,x2,x3,x4,x5⟩:=box6 hb1
 cases ho:oneB es
 ·go_wp2_with fail
  go_ret
  exact ⟨ret_bool (by simp only [gstmtB,stmtB];simp [ho]),hB1⟩
 cases hn:nameB s
 case true=>
  go_wp2_with (go_at_call 110;refine (name_any _ _).mono ?_;rintro e w' ⟨rfl,rfl⟩;rw [hn])
  go_ret
  exact ⟨ret_bool (by simp only [gstmtB,stmtB];simp [ho,nameB_empty hn,-List.beq_nil_eq]),hB1⟩
 cases hs:(s.toList == [])
 ·have hs1:(s.toList != [])=true:=by rw [bne,hs];rfl
  go_wp2_with (go_at_call 110;refine (name_any _ _).mono ?_;rintro e w' ⟨rfl,rfl⟩;rw [hn])
  go_ret
  exact ⟨ret_bool (by simp only [gstmtB,stmtB];simp [ho,hs,-List.beq_nil_eq]),hB1⟩
 have hs1:(s.toList != [])=false:=by rw [bne,hs];rfl
 by_cases hf0:0<fs.length
 ·go_wp2_with (go_at_call 110;refine (name_any _ _).mono ?_;rintro e w' ⟨rfl,rfl⟩;rw [hn])
  go_ret
  refine ⟨ret_bool ?_,hB1⟩
  have:(fs.length == 0)=false:=by simp only [beq_eq_false_iff_ne];omega
  simp only [gstmtB,stmtB,this];simp [ho,hs,-List.beq_nil_eq]
 have HF0:Hid ((fs.length == 0)=true):=by show _=_;simp only [beq_iff_eq];omega
 by_cases ht:t<0
 ·go_wp2_with (go_at_call 110;refine (name_any _ _).mono ?_;rintro e w' ⟨rfl,rfl⟩;rw [hn])
  all_goals go_ret
  all_goals refine ⟨ret_bool ?_,hB1⟩
  all_goals (simp only [gstmtB,stmtB,HF0.out];simp [ho,hs,-List.beq_nil_eq] <;> omega)
 by_cases hl:l<0
 ·go_wp2_with (go_at_call 110;refine (name_any _ _).mono ?_;rintro e w' ⟨rfl,rfl⟩;rw [hn])
  all_goals go_ret
  all_goals refine ⟨ret_bool ?_,hB1⟩
  all_goals (simp only [gstmtB,stmtB,HF0.out];simp [ho,hs,-List.beq_nil_eq] <;> omega)
 go_wp2_with (go_at_call 110;refine (name_any _ _).mono ?_;rintro e w' ⟨rfl,rfl⟩;rw [hn])
 all_goals go_ret
 all_goals refine ⟨ret_bool ?_,hB1⟩
 all_goals have ht':0<=t:=by omega
 all_goals have hl':0<=l:=by omega
 all_goals (simp only [gstmtB,stmtB,HF0.out];simp [ho,hs,-List.beq_nil_eq,ht',hl'])
theorem gstmt5 (s:ByteArray) (ve vf:Value) (es fs:List Nd) (t l:Int) (w:World) (hle:es.length<=2000) (hlf:fs.length<=2000) (he:Nodes w ve es) (hf:Nodes w vf fs) :
  Calls Tryz.prog 146 #[.agg #[.int .i64 5,.string s,ve,vf,.int .i64 t,.int .i64 l]] w fun e w'=>e = .returned (.bool (gstmtB ⟨5,s,es,fs,t,l⟩))/\Below w.heap.size w w':=by
 have HE:=hide he
 have HF:=hide hf
 obtain ⟨ae,ce,rfl,-,-,-⟩:=he
 obtain ⟨af,cf,rfl,-,-,-⟩:=hf
 have HD:Hid (∀b:Bool,(decide (es.length<=2000) && b)=b):=fun b=>by simp [hle]
 have HDF:Hid (∀b:Bool,(decide (fs.length<=2000) && b)=b):=fun b=>by simp [hlf]
 go_enter Tryz.func146,Tryz.ntmps146
 go_wp2_with (go_at_call 111;refine (in_any _ _ _ _).mono ?_;rintro e w' ⟨rfl,rfl⟩)
 refine (gexpr_any _ es _ o_ (HE.out.below (bel_a _ _))).mono ?_
 rintro e w1 ⟨rfl,hb1⟩
 rw [HD.out]
 simp only [World.size_alloc] at hb1
 have hB1:=one_below hb1
 obtain ⟨x0,x1,x2,x3,x4,x5⟩:=box6 hb1
 cases ho:oneB es
 ·go_wp2_with fail
  go_ret
  exact ⟨ret_bool (by simp only [gstmtB,stmtB];simp [ho]),hB1⟩
 cases hn:nameB s
 case true=>
  go_wp2_with (go_at_call 110;refine (name_any _ _).mono ?_;rintro e w' ⟨rfl,rfl⟩;rw [hn])
  go_ret
  exact ⟨ret_bool (by simp only [gstmtB,stmtB];simp [ho,nameB_empty hn,-List.beq_nil_eq]),hB1⟩
 cases hs:(s.toList == [])
 ·have hs1:(s.toList != [])=true:=by rw [bne,hs];rfl
  go_wp2_with (go_at_call 110;refine (name_any _ _).mono ?_;rintro e w' ⟨rfl,rfl⟩;rw [hn])
  go_ret
  exact ⟨ret_bool (by simp only [gstmtB,stmtB];simp [ho,hs,-List.beq_nil_eq]),hB1⟩
 have hs1:(s.toList != [])=false:=by rw [bne,hs];rfl
 by_cases hf0:0<fs.length
 ·go_wp2_with (go_at_call 110;refine (name_any _ _).mono ?_;rintro e w' ⟨rfl,rfl⟩;rw [hn])
  go_ret
  refine ⟨ret_bool ?_,hB1⟩
  have:(fs.length == 0)=false:=by simp only [beq_eq_false_iff_ne];omega
  simp only [gstmtB,stmtB,this];simp [ho,hs,-List.beq_nil_eq]
 have HF0:Hid ((fs.length == 0)=true):=by show _=_;simp only [beq_iff_eq];omega
 by_cases ht:t<0
 ·go_wp2_with (go_at_call 110;refine (name_any _ _).mono ?_;rintro e w' ⟨rfl,rfl⟩;rw [hn])
  all_goals go_ret
  all_goals refine ⟨ret_bool ?_,hB1⟩
  all_goals (simp only [gstmtB,stmtB,HF0.out];simp [ho,hs,-List.beq_nil_eq] <;> omega)
 by_cases hl:l<0
 ·go_wp2_with (go_at_call 110;refine (name_any _ _).mono ?_;rintro e w' ⟨rfl,rfl⟩;rw [hn])
  all_goals go_ret
  all_goals refine ⟨ret_bool ?_,hB1⟩
  all_goals (simp only [gstmtB,stmtB,HF0.out];simp [ho,hs,-List.beq_nil_eq] <;> omega)
 by_cases hl2:0<l
 ·go_wp2_with (go_at_call 110;refine (name_any _ _).mono ?_;rintro e w' ⟨rfl,rfl⟩;rw [hn])
  all_goals go_ret
  all_goals refine ⟨ret_bool ?_,hB1⟩
  all_goals (simp only [gstmtB,stmtB,HF0.out];simp [ho,hs,-List.beq_nil_eq] <;> omega)
 go_wp2_with (go_at_call 110;refine (name_any _ _).mono ?_;rintro e w' ⟨rfl,rfl⟩;rw [hn])
 all_goals go_ret
 all_goals refine ⟨ret_bool ?_,hB1⟩
 all_goals have ht':0<=t:=by omega
 all_goals have hl':0<=l:=by omega
 all_goals have e2:l=0:=by omega
 all_goals (simp only [gstmtB,stmtB,HF0.out];simp [ho,hs,-List.beq_nil_eq,ht',hl',e2])
theorem gstmt6 (s:ByteArray) (ve vf:Value) (es fs:List Nd) (t l:Int) (w:World) (hle:es.length<=2000) (hlf:fs.length<=2000) (he:Nodes w ve es) (hf:Nodes w vf fs) :
  Calls Tryz.prog 146 #[.agg #[.int .i64 6,.string s,ve,vf,.int .i64 t,.int .i64 l]] w fun e w'=>e = .returned (.bool (gstmtB ⟨6,s,es,fs,t,l⟩))/\Below w.heap.size w w':=by
 have HE:=hide he
 have HF:=hide hf
 obtain ⟨ae,ce,rfl,-,-,-⟩:=he
 obtain ⟨af,cf,rfl,-,-,-⟩:=hf
 have HD:Hid (∀b:Bool,(decide (es.length<=2000) && b)=b):=fun b=>by simp [hle]
 have HDF:Hid (∀b:Bool,(decide (fs.length<=2000) && b)=b):=fun b=>by simp [hlf]
 go_enter Tryz.func146,Tryz.ntmps146
 go_wp2_with (go_at_call 111;refine (in_any _ _ _ _).mono ?_;rintro e w' ⟨rfl,rfl⟩)
 refine (gexpr_any _ es _ o_ (HE.out.below (bel_a _ _))).mono ?_
 rintro e w1 ⟨rfl,hb1⟩
 rw [HD.out]
 simp only [World.size_alloc] at hb1
 have hB1:=one_below hb1
 obtain ⟨x0,x1,x2,x3,x4,x5⟩:=box6 hb1
 cases ho:oneB es
 ·go_wp2_with fail
  go_ret
  exact ⟨ret_bool (by simp only [gstmtB,stmtB];simp [ho]),hB1⟩
 cases hn:nameB s
 case true=>
  go_wp2_with (go_at_call 110;refine (name_any _ _).mono ?_;rintro e w' ⟨rfl,rfl⟩;rw [hn])
  go_ret
  exact ⟨ret_bool (by simp only [gstmtB,stmtB];simp [ho,nameB_empty hn,-List.beq_nil_eq]),hB1⟩
 cases hs:(s.toList == [])
 ·have hs1:(s.toList != [])=true:=by rw [bne,hs];rfl
  go_wp2_with (go_at_call 110;refine (name_any _ _).mono ?_;rintro e w' ⟨rfl,rfl⟩;rw [hn])
  go_ret
  exact ⟨ret_bool (by simp only [gstmtB,stmtB];simp [ho,hs,-List.beq_nil_eq]),hB1⟩
 have hs1:(s.toList != [])=false:=by rw [bne,hs];rfl
 by_cases hf0:0<fs.length
 ·go_wp2_with (go_at_call 110;refine (name_any _ _).mono ?_;rintro e w' ⟨rfl,rfl⟩;rw [hn])
  go_ret
  refine ⟨ret_bool ?_,hB1⟩
  have:(fs.length == 0)=false:=by simp only [beq_eq_false_iff_ne];omega
  simp only [gstmtB,stmtB,this];simp [ho,hs,-List.beq_nil_eq]
 have HF0:Hid ((fs.length == 0)=true):=by show _=_;simp only [beq_iff_eq];omega
 by_cases ht:t<0
 ·go_wp2_with (go_at_call 110;refine (name_any _ _).mono ?_;rintro e w' ⟨rfl,rfl⟩;rw [hn])
  all_goals go_ret
  all_goals refine ⟨ret_bool ?_,hB1⟩
  all_goals (simp only [gstmtB,stmtB,HF0.out];simp [ho,hs,-List.beq_nil_eq] <;> omega)
 by_cases hl:l<0
 ·go_wp2_with (go_at_call 110;refine (name_any _ _).mono ?_;rintro e w' ⟨rfl,rfl⟩;rw [hn])
  all_goals go_ret
  all_goals refine ⟨ret_bool ?_,hB1⟩
  all_goals (simp only [gstmtB,stmtB,HF0.out];simp [ho,hs,-List.beq_nil_eq] <;> omega)
 by_cases ht2:0<t
 ·go_wp2_with (go_at_call 110;refine (name_any _ _).mono ?_;rintro e w' ⟨rfl,rfl⟩;rw [hn])
  all_goals go_ret
  all_goals refine ⟨ret_bool ?_,hB1⟩
  all_goals (simp only [gstmtB,stmtB,HF0.out];simp [ho,hs,-List.beq_nil_eq] <;> omega)
 by_cases hl2:0<l
 ·go_wp2_with (go_at_call 110;refine (name_any _ _).mono ?_;rintro e w' ⟨rfl,rfl⟩;rw [hn])
  all_goals go_ret
  all_goals refine ⟨ret_bool ?_,hB1⟩
  all_goals (simp only [gstmtB,stmtB,HF0.out];simp [ho,hs,-List.beq_nil_eq] <;> omega)
 go_wp2_with (go_at_call 110;refine (name_any _ _).mono ?_;rintro e w' ⟨rfl,rfl⟩;rw [hn])
 all_goals go_ret
 all_goals refine ⟨ret_bool ?_,hB1⟩
 all_goals have ht':0<=t:=by omega
 all_goals have hl':0<=l:=by omega
 all_goals have e1:t=0:=by omega
 all_goals have e2:l=0:=by omega
 all_goals (simp only [gstmtB,stmtB,HF0.out];simp [ho,hs,-List.beq_nil_eq,ht',hl',e1,e2])
theorem gstmt7 (s:ByteArray) (ve vf:Value) (es fs:List Nd) (t l:Int) (w:World) (hle:es.length<=2000) (hlf:fs.length<=2000) (he:Nodes w ve es) (hf:Nodes w vf fs) :
  Calls Tryz.prog 146 #[.agg #[.int .i64 7,.string s,ve,vf,.int .i64 t,.int .i64 l]] w fun e w'=>e = .returned (.bool (gstmtB ⟨7,s,es,fs,t,l⟩))/\Below w.heap.size w w':=by
 have HE:=hide he
 have HF:=hide hf
 obtain ⟨ae,ce,rfl,-,-,-⟩:=he
 obtain ⟨af,cf,rfl,-,-,-⟩:=hf
 have HD:Hid (∀b:Bool,(decide (es.length<=2000) && b)=b):=fun b=>by simp [hle]
 have HDF:Hid (∀b:Bool,(decide (fs.length<=2000) && b)=b):=fun b=>by simp [hlf]
 go_enter Tryz.func146,Tryz.ntmps146
 go_wp2_with (go_at_call 111;refine (in_any _ _ _ _).mono ?_;rintro e w' ⟨rfl,rfl⟩)
 refine (gexpr_any _ es _ o_ (HE.out.below (bel_a _ _))).mono ?_
 rintro e w1 ⟨rfl,hb1⟩
 rw [HD.out]
 simp only [World.size_alloc] at hb1
 have hB1:=one_below hb1
 obtain ⟨x0,x1,x2,x3,x4,x5⟩:=box6 hb1
 cases ho:oneB es
 ·go_wp2_with fail
  go_ret
  exact ⟨ret_bool (by simp only [gstmtB,stmtB];simp [ho]),hB1⟩
 cases hn:nameB s
 case true=>
  go_wp2_with (go_at_call 110;refine (name_any _ _).mono ?_;rintro e w' ⟨rfl,rfl⟩;rw [hn])
  go_ret
  exact ⟨ret_bool (by simp only [gstmtB,stmtB];simp [ho,nameB_empty hn,-List.beq_nil_eq]),hB1⟩
 cases hs:(s.toList == [])
 ·have hs1:(s.toList != [])=true:=by rw [bne,hs];rfl
  go_wp2_with (go_at_call 110;refine (name_any _ _).mono ?_;rintro e w' ⟨rfl,rfl⟩;rw [hn])
  go_ret
  exact ⟨ret_bool (by simp only [gstmtB,stmtB];simp [ho,hs,-List.beq_nil_eq]),hB1⟩
 have hs1:(s.toList != [])=false:=by rw [bne,hs];rfl
 by_cases hf0:0<fs.length
 ·go_wp2_with (go_at_call 110;refine (name_any _ _).mono ?_;rintro e w' ⟨rfl,rfl⟩;rw [hn])
  go_ret
  refine ⟨ret_bool ?_,hB1⟩
  have:(fs.length == 0)=false:=by simp only [beq_eq_false_iff_ne];omega
  simp only [gstmtB,stmtB,this];simp [ho,hs,-List.beq_nil_eq]
 have HF0:Hid ((fs.length == 0)=true):=by show _=_;simp only [beq_iff_eq];omega
 by_cases ht:t<0
 ·go_wp2_with (go_at_call 110;refine (name_any _ _).mono ?_;rintro e w' ⟨rfl,rfl⟩;rw [hn])
  all_goals go_ret
  all_goals refine ⟨ret_bool ?_,hB1⟩
  all_goals (simp only [gstmtB,stmtB,HF0.out];simp [ho,hs,-List.beq_nil_eq] <;> omega)
 by_cases hl:l<0
 ·go_wp2_with (go_at_call 110;refine (name_any _ _).mono ?_;rintro e w' ⟨rfl,rfl⟩;rw [hn])
  all_goals go_ret
  all_goals refine ⟨ret_bool ?_,hB1⟩
  all_goals (simp only [gstmtB,stmtB,HF0.out];simp [ho,hs,-List.beq_nil_eq] <;> omega)
 by_cases ht2:0<t
 ·go_wp2_with (go_at_call 110;refine (name_any _ _).mono ?_;rintro e w' ⟨rfl,rfl⟩;rw [hn])
  all_goals go_ret
  all_goals refine ⟨ret_bool ?_,hB1⟩
  all_goals (simp only [gstmtB,stmtB,HF0.out];simp [ho,hs,-List.beq_nil_eq] <;> omega)
 by_cases hl2:0<l
 ·go_wp2_with (go_at_call 110;refine (name_any _ _).mono ?_;rintro e w' ⟨rfl,rfl⟩;rw [hn])
  all_goals go_ret
  all_goals refine ⟨ret_bool ?_,hB1⟩
  all_goals (simp only [gstmtB,stmtB,HF0.out];simp [ho,hs,-List.beq_nil_eq] <;> omega)
 go_wp2_with (go_at_call 110;refine (name_any _ _).mono ?_;rintro e w' ⟨rfl,rfl⟩;rw [hn])
 all_goals go_ret
 all_goals refine ⟨ret_bool ?_,hB1⟩
 all_goals have ht':0<=t:=by omega
 all_goals have hl':0<=l:=by omega
 all_goals have e1:t=0:=by omega
 all_goals have e2:l=0:=by omega
 all_goals (simp only [gstmtB,stmtB,HF0.out];simp [ho,hs,-List.beq_nil_eq,ht',hl',e1,e2])
theorem gstmt8 (s:ByteArray) (ve vf:Value) (es fs:List Nd) (t l:Int) (w:World) (hle:es.length<=2000) (hlf:fs.length<=2000) (he:Nodes w ve es) (hf:Nodes w vf fs) :
  Calls Tryz.prog 146 #[.agg #[.int .i64 8,.string s,ve,vf,.int .i64 t,.int .i64 l]] w fun e w'=>e = .returned (.bool (gstmtB ⟨8,s,es,fs,t,l⟩))/\Below w.heap.size w w':=by
 have HE:=hide he
 have HF:=hide hf
 obtain ⟨ae,ce,rfl,-,-,-⟩:=he
 obtain ⟨af,cf,rfl,-,-,-⟩:=hf
 have HD:Hid (∀b:Bool,(decide (es.length<=2000) && b)=b):=fun b=>by simp [hle]
 have HDF:Hid (∀b:Bool,(decide (fs.length<=2000) && b)=b):=fun b=>by simp [hlf]
 go_enter Tryz.func146,Tryz.ntmps146
 go_wp2_with (go_at_call 111;refine (in_any _ _ _ _).mono ?_;rintro e w' ⟨rfl,rfl⟩)
 refine (gexpr_any _ es _ o_ (HE.out.below (bel_a _ _))).mono ?_
 rintro e w1 ⟨rfl,hb1⟩
 rw [HD.out]
 simp only [World.size_alloc] at hb1
 have hB1:=one_below hb1
 obtain ⟨x0,x1,x2,x3,x4,x5⟩:=box6 hb1
 cases ho:oneB es
 ·go_wp2_with fail
  go_ret
  exact ⟨ret_bool (by simp only [gstmtB,stmtB];simp [ho]),hB1⟩
 cases hn:nameB s
 case true=>
  go_wp2_with (go_at_call 110;refine (name_any _ _).mono ?_;rintro e w' ⟨rfl,rfl⟩;rw [hn])
  go_ret
  exact ⟨ret_bool (by simp only [gstmtB,stmtB];simp [ho,nameB_empty hn,-List.beq_nil_eq]),hB1⟩
 cases hs:(s.toList == [])
 ·have hs1:(s.toList != [])=true:=by rw [bne,hs];rfl
  go_wp2_with (go_at_call 110;refine (name_any _ _).mono ?_;rintro e w' ⟨rfl,rfl⟩;rw [hn])
  go_ret
  exact ⟨ret_bool (by simp only [gstmtB,stmtB];simp [ho,hs,-List.beq_nil_eq]),hB1⟩
 have hs1:(s.toList != [])=false:=by rw [bne,hs];rfl
 by_cases hf0:0<fs.length
 ·go_wp2_with (go_at_call 110;refine (name_any _ _).mono ?_;rintro e w' ⟨rfl,rfl⟩;rw [hn])
  go_ret
  refine ⟨ret_bool ?_,hB1⟩
  have:(fs.length == 0)=false:=by simp only [beq_eq_false_iff_ne];omega
  simp only [gstmtB,stmtB,this];simp [ho,hs,-List.beq_nil_eq]
 have HF0:Hid ((fs.length == 0)=true):=by show _=_;simp only [beq_iff_eq];omega
 by_cases ht:t<0
 ·go_wp2_with (go_at_call 110;refine (name_any _ _).mono ?_;rintro e w' ⟨rfl,rfl⟩;rw [hn])
  all_goals go_ret
  all_goals refine ⟨ret_bool ?_,hB1⟩
  all_goals (simp only [gstmtB,stmtB,HF0.out];simp [ho,hs,-List.beq_nil_eq] <;> omega)
 by_cases hl:l<0
 ·go_wp2_with (go_at_call 110;refine (name_any _ _).mono ?_;rintro e w' ⟨rfl,rfl⟩;rw [hn])
  all_goals go_ret
  all_goals refine ⟨ret_bool ?_,hB1⟩
  all_goals (simp only [gstmtB,stmtB,HF0.out];simp [ho,hs,-List.beq_nil_eq] <;> omega)
 by_cases ht2:0<t
 ·go_wp2_with (go_at_call 110;refine (name_any _ _).mono ?_;rintro e w' ⟨rfl,rfl⟩;rw [hn])
  all_goals go_ret
  all_goals refine ⟨ret_bool ?_,hB1⟩
  all_goals (simp only [gstmtB,stmtB,HF0.out];simp [ho,hs,-List.beq_nil_eq] <;> omega)
 by_cases hl2:0<l
 ·go_wp2_with (go_at_call 110;refine (name_any _ _).mono ?_;rintro e w' ⟨rfl,rfl⟩;rw [hn])
  all_goals go_ret
  all_goals refine ⟨ret_bool ?_,hB1⟩
  all_goals (simp only [gstmtB,stmtB,HF0.out];simp [ho,hs,-List.beq_nil_eq] <;> omega)
 have hpos:=oneB_pos ho
 have HL:Hid (lastKind es=(es[es.length-1]' o_).kind):=by
  show lastKind es=_
  simp only [lastKind]
  rw [List.getElem?_eq_getElem o_]
 go_wp2_with (go_at_call 110;refine (name_any _ _).mono ?_;rintro e w' ⟨rfl,rfl⟩;rw [hn])
 refine (root_any _ es _ hpos o_ (HE.out.below hB1)).mono ?_
 rintro e w2 ⟨rfl,hb2⟩
 have hB2:=hB1.trans (hb2.mono hB1.size)
 generalize es[es.length-1]=n at HL ⊢
 have hfd:=run_kind n.kind n.val n.name
 have HH:Hid (0<=t/\t<=0/\0<=l/\l<=0):=⟨by omega,by omega,by omega,by omega⟩
 clear x0 x1 x2 x3 x4 x5 hpos hle hlf ht hl ht2 hl2
 go_wp2_with fail
 go_ret
 refine ⟨ret_bool ?_,hB2⟩
 have hh:=HH.out
 have e1:t=0:=by omega
 have e2:l=0:=by omega
 simp only [gstmtB,stmtB,HF0.out];simp [ho,hs,-List.beq_nil_eq,HL.out,e1,e2]
theorem gstmtX (k:Int) (s:ByteArray) (ve vf:Value) (es fs:List Nd) (t l:Int) (w:World) (hk:k<1∨8<k) (he:Nodes w ve es) (hf:Nodes w vf fs) :
  Calls Tryz.prog 146 #[.agg #[.int .i64 k,.string s,ve,vf,.int .i64 t,.int .i64 l]] w fun e w'=>e = .returned (.bool (gstmtB ⟨k,s,es,fs,t,l⟩))/\Below w.heap.size w w':=by
 obtain ⟨ae,ce,rfl,-,-,-⟩:=he
 obtain ⟨af,cf,rfl,-,-,-⟩:=hf
 have hd:decide (1<=k/\k<=8)=false:=by simp;omega
 have hs:gstmtB ⟨k,s,es,fs,t,l⟩=false:=by
  simp only [gstmtB,stmtB,hd,Bool.false_and]
 rw [hs]
 have h1:(k == 1)=false:=by simp;omega
 have h2:(k == 2)=false:=by simp;omega
 have h3:(k == 3)=false:=by simp;omega
 have HD:=hide hd
 go_enter Tryz.func146,Tryz.ntmps146
 go_wp2_with (go_at_call 111;refine (in_any _ _ _ _).mono ?_;rintro e w' ⟨rfl,rfl⟩;rw [HD.out])
 go_ret
 exact ⟨rfl,(Below.refl _ _).alloc (Nat.le_refl _) _⟩
theorem gstmt_any (s:St) (ve vf:Value) (w:World) (hle:s.e.length<=2000) (hlf:s.f.length<=2000) (he:Nodes w ve s.e) (hf:Nodes w vf s.f) :
  Calls Tryz.prog 146 #[.agg #[.int .i64 s.kind,.string s.name,ve,vf,.int .i64 s.thn,.int .i64 s.els]] w fun e w'=>e = .returned (.bool (gstmtB s))/\Below w.heap.size w w':=by
 obtain ⟨k,s,es,fs,t,l⟩:=s
 by_cases hk:k<1∨8<k
 ·exact gstmtX k s ve vf es fs t l w hk he hf
 have h9:k=1∨k=2∨k=3∨k=4∨k=5∨k=6∨k=7∨k=8:=by omega
 rcases h9 with rfl | rfl | rfl | rfl | rfl | rfl | rfl | rfl
 ·exact gstmt1 s ve vf es fs t l w hle hlf he hf
 ·exact gstmt2 s ve vf es fs t l w hle hlf he hf
 ·exact gstmt3 s ve vf es fs t l w hle hlf he hf
 ·exact gstmt4 s ve vf es fs t l w hle hlf he hf
 ·exact gstmt5 s ve vf es fs t l w hle hlf he hf
 ·exact gstmt6 s ve vf es fs t l w hle hlf he hf
 ·exact gstmt7 s ve vf es fs t l w hle hlf he hf
 ·exact gstmt8 s ve vf es fs t l w hle hlf he hf
end Go.Proofs.YtnpidjamplmgjaaGreatDoor
