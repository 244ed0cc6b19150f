import Derived.Test.YtnpidjamplmgjaaGreatDoorQ39
import Derived.RegionTactic
import Derived.Deep.RegionHeld3
import Derived.Test.YtnpidjamplmgjaaGreatDoorQ27
set_option linter.unusedSectionVars false
variable [Inhabited Go.Proofs.YtnpidjamplmgjaaGreatDoor.Pick]
namespace Go.Proofs.YtnpidjamplmgjaaGreatDoor
open Go.RowKit
set_option linter.unusedVariables false
set_option linter.unusedSimpArgs false
set_option maxRecDepth 100000
set_option maxHeartbeats 16000000
structure StOk (s:St):Prop where
 b:stmtB s=true
 e:s.e.length<=2000
 f:s.f.length<=2000
theorem StOk.kind {s:St} (h:StOk s):1<=s.kind/\s.kind<=8:=by
 have:=h.b
 unfold stmtB at this
 simp only [Bool.and_eq_true,decide_eq_true_eq] at this
 exact this.1.1.1.1.1.1
theorem StOk.one {s:St} (h:StOk s):oneB s.e=true:=by
 have:=h.b
 unfold stmtB at this
 simp only [Bool.and_eq_true] at this
 exact this.1.1.1.1.2
theorem StOk.two {s:St} (h:StOk s) (hk:s.kind=3):oneB s.f=true:=by
 have:=h.b
 unfold stmtB at this
 simp only [Bool.and_eq_true,if_pos hk] at this
 exact this.1.1.1.2
theorem stmtS_any (C:GC) (hC:C.Ok) (s:St) (hs:StOk s) (ve vf va vb:Value) (a b:Blk) (ka kb:Nat) (w:World) (its:List It) (l:Int) (hG:Gs C w its l) (hN:Nodes C.w0 ve s.e) (hF:Nodes C.w0 vf s.f) (ha:BlkC C va a ka) (hb:BlkC C vb b kb) (hl0:0<=l) (hl2:l+2*(s.e.length+s.f.length+1+ka+kb)<=100000000) (hil:its.length+24*(s.e.length+s.f.length+1+ka+kb)<=8000000) :
  Calls Tryz.prog 70 #[.pointer (some ⟨C.P,0,none⟩),.agg #[.int .i64 s.kind,.string s.name,ve,vf,.int .i64 s.thn,.int .i64 s.els],va,vb] w fun x w'=>(∃u,x = .returned u)/\Wd C w its (codeS C.E C.en s a b l).1 (codeS C.E C.en s a b l).2 w':=by
 have hk:=hs.kind
 have:s.kind=1∨s.kind=2∨s.kind=3∨s.kind=4∨s.kind=5∨s.kind=6∨s.kind=7∨s.kind=8:=by omega
 exact stmtS_kind C hC s this hs.two ve vf va vb a b ka kb w its l hG hN hF hs.one hs.e hs.f ha hb hl0 hl2 hil rfl
theorem dt2 {α:Type} (l:List α) (i j:Nat):(l.take (i+j)).drop i=(l.drop i).take j:=by
 rw [List.drop_take];congr 1;omega
theorem drop_cons3 {α:Type} (l:List α) (j:Nat) (h:j<l.length):l.drop j=l[j]::l.drop (j+1):=(List.getElem_cons_drop h).symm
theorem block_step (C:GC) (hC:C.Ok) (ss:List St) (v:Value) (hS:Stmts C.w0 v ss) (hfit:fitB ss=true) (hok : ∀s∈ss,StOk s) (hlen:ss.length<=1000)
  (IH : ∀(tt:List St) (u:Value),tt.length<ss.length->Stmts C.w0 u tt->fitB tt=true->(∀s∈tt,StOk s)->BlkC C u (codeB C.E C.en tt) (szLs tt)):BlkC C v (codeB C.E C.en ss) (szLs ss):=by
 refine ⟨codeB_sb C.E C.en ss.length ss (Nat.le_refl _) (fun s hs=>⟨(exprS_code C hC (by have:=(hok s hs).e;omega) (hok s hs).one).1,fun h3=>(exprS_code C hC (by have:=(hok s hs).f;omega) ((hok s hs).two h3)).1⟩),?_⟩
 intro w its l hG hl0 hl2 hil
 have HS:=hide hS
 obtain ⟨ab,cb,rfl,hc1,hc2,hbc⟩:=hS
 have HBC:=hide hbc
 have HOk:=hide hok
 have HIH:=hide IH
 have HC:=hide hC
 have HG:=hide hG
 have HFit:=hide hfit
 obtain ⟨Z,hZ⟩ : ∃Z,Z=szLs ss:=⟨_,rfl⟩
 have HZ:=hide hZ
 rw [<-hZ] at hl2 hil
 clear hbc hok IH hC hG hfit hZ
 go_enter Tryz.func40,Tryz.ntmps40
 go_wp2_with fail
 go_loopw [4] (fun i wr=>∃(k:Nat) (pre:List It) (L:Int),k<=ss.length/\i = .int .i64 k/\Wd C w its pre L wr/\fitB (ss.drop k)=true/\codeB C.E C.en ss l=(pre++(codeB C.E C.en (ss.drop k) L).1,(codeB C.E C.en (ss.drop k) L).2)/\l<=L/\L+2*szLs (ss.drop k)<=l+2*Z/\pre.length+24*szLs (ss.drop k)<=24*Z) (fun i _=>ss.length-(RowKit.intOf i).toNat)
 case atStart=>exact ⟨0,[],l,Nat.zero_le _,rfl,Wd.nil HG.out,by rw [List.drop_zero];exact HFit.out,by rw [List.drop_zero];rfl,Int.le_refl _,by rw [List.drop_zero,HZ.out];omega,by rw [List.drop_zero,HZ.out];simp⟩
 case round=>
  obtain ⟨k,pre,L,hk,rfl,hW,hft,hcode,hL1,hL2,hL3⟩:=hrel
  have HW:=hide hW
  have HCode:=hide hcode
  clear hW hcode HG HFit
  by_cases hlt:k<ss.length
  ·obtain ⟨b,off,rfl,hcell⟩:=HBC.out o_
   obtain ⟨ve,vf,⟨c0,c1,c2,c3,c4,c5⟩,hne,hnf⟩:=hcell k hlt
   have hB:=HW.out.gs.bel
   have hlb:=World.block_lt_of_cell? _ _ c0
   have d0:=(hB.cell (p:=⟨b,off+k*6,none⟩) hlb).trans c0
   have d1:=(hB.cell (p:=⟨b,off+k*6+1,none⟩) hlb).trans c1
   have d2:=(hB.cell (p:=⟨b,off+k*6+2,none⟩) hlb).trans c2
   have d3:=(hB.cell (p:=⟨b,off+k*6+3,none⟩) hlb).trans c3
   have d4:=(hB.cell (p:=⟨b,off+k*6+4,none⟩) hlb).trans c4
   have d5:=(hB.cell (p:=⟨b,off+k*6+5,none⟩) hlb).trans c5
   rw [drop_cons3 ss k hlt,fitB_cons] at hft
   simp only [Bool.and_eq_true,decide_eq_true_eq] at hft
   obtain ⟨⟨p1,p2,p3,p4⟩,f1,f2,f3⟩:=hft
   rw [drop_cons3 ss k hlt,szLs_cons] at hL2 hL3
   have HCd:Hid (codeB C.E C.en ss l=(pre++(codeB C.E C.en (ss[k]::ss.drop (k+1)) L).1,(codeB C.E C.en (ss[k]::ss.drop (k+1)) L).2)):=by
    show _=_
    rw [<-drop_cons3 ss k hlt]
    exact HCode.out
   have hSk:StOk ss[k]:=HOk.out _ (List.getElem_mem hlt)
   have HSk:=hide hSk
   have hle:=hSk.e
   have hlf:=hSk.f
   clear HCode hcell c0 c1 c2 c3 c4 c5 hB hSk
   have hrl:(ss.drop (k+1)).length=ss.length-(k+1):=by simp
   generalize ss[k]=s at *
   obtain ⟨sk,nm,e,f,tnI,lnI⟩:=s
   simp only at p1 p2 p3 p4 f1 f2 f3 hL2 hL3 HCd d0 d1 d2 d3 d4 d5 hne hnf hle hlf
   obtain ⟨tn,rfl⟩:=Int.eq_ofNat_of_zero_le p1
   obtain ⟨ln,rfl⟩:=Int.eq_ofNat_of_zero_le p3
   simp only [Int.toNat_natCast] at f1 f2 f3
   rw [dt2] at f2
   have hltn:k+1+tn<=ss.length:=by omega
   have hlln:k+1+tn+ln<=ss.length:=by omega
   have hpz:=szLs_parts (ss.drop (k+1)) tn ln
   have HNe:=hide hne
   have HNf:=hide hnf
   obtain ⟨ae,ce,rfl,-⟩:=hne
   obtain ⟨af,cf,rfl,-⟩:=hnf
   obtain ⟨a5,k5,hr5,hs5⟩ : ∃a5 k5,(∀w:World,(Instr.slice 62 (.slice (some ⟨b,off,none⟩) ss.length cb) (some (.int .i64 ((k:Int)+1))) (some (.int .i64 ((k:Int)+1+(tn:Int)))) none).run Tryz.prog w = .ok (.slice a5 tn k5) w)/\Stmts C.w0 (.slice a5 tn k5) ((ss.drop (k+1)).take tn):=by
    have h:=cut_run2 (some ⟨b,off,none⟩) ss.length cb (k+1) (k+1+tn) o_ o_ o_ ((k:Int)+1) ((k:Int)+1+(tn:Int)) o_ o_
    have h':=HS.out.cut (k+1) (k+1+tn) o_ o_
    rw [show k+1+tn-(k+1)=tn by omega] at h h'
    rw [dt2] at h'
    exact ⟨_,_,h,h'⟩
   obtain ⟨a6,k6,hr6,hs6⟩ : ∃a6 k6,(∀w:World,(Instr.slice 62 (.slice (some ⟨b,off,none⟩) ss.length cb) (some (.int .i64 ((k:Int)+1+(tn:Int)))) (some (.int .i64 ((k:Int)+1+(tn:Int)+(ln:Int)))) none).run Tryz.prog w = .ok (.slice a6 ln k6) w)/\Stmts C.w0 (.slice a6 ln k6) (((ss.drop (k+1)).drop tn).take ln):=by
    have h:=cut_run2 (some ⟨b,off,none⟩) ss.length cb (k+1+tn) (k+1+tn+ln) o_ o_ o_ ((k:Int)+1+(tn:Int)) ((k:Int)+1+(tn:Int)+(ln:Int)) o_ o_
    have h':=HS.out.cut (k+1+tn) (k+1+tn+ln) o_ o_
    rw [show k+1+tn+ln-(k+1+tn)=ln by omega] at h h'
    rw [dt2,<-List.drop_drop] at h'
    exact ⟨_,_,h,h'⟩
   have HK5:=hide (HIH.out _ _ (by simp;omega) hs5 f1 (fun x hx=>HOk.out x (List.mem_of_mem_drop (List.mem_of_mem_take hx))))
   have HK6:=hide (HIH.out _ _ (by simp;omega) hs6 f2 (fun x hx=>HOk.out x (List.mem_of_mem_drop (List.mem_of_mem_drop (List.mem_of_mem_take hx)))))
   obtain ⟨W2,hW2⟩ : ∃W2,W2=wr.alloc (.cells #[.int .i64 sk,.string nm,.slice ae e.length ce,.slice af f.length cf,.int .i64 (tn:Int),.int .i64 (ln:Int)] 123):=⟨_,rfl⟩
   have hb2:Bl wr W2:=by rw [hW2];exact (Below.refl _ _).alloc (Nat.le_refl _) _
   have hb3:Bl wr W2.drew:=hb2.drew
   have HG2:Hid (Gs C W2.drew (its++pre) L):=HW.out.gs.below HC.out hb3
   have hcb:=codeB_sb C.E C.en _ ((ss.drop (k+1)).take tn) (Nat.le_refl _) (fun s hs=>by have h:=HOk.out s (List.mem_of_mem_drop (List.mem_of_mem_take hs));exact ⟨(exprS_code C HC.out (by have:=h.e;omega) h.one).1,fun h3=>(exprS_code C HC.out (by have:=h.f;omega) (h.two h3)).1⟩)
   have HSt:=hide (stmtS_any C HC.out ⟨sk,nm,e,f,tn,ln⟩ HSk.out _ _ _ _ _ _ _ _ W2.drew (its++pre) L HG2.out HNe.out HNf.out HK5.out HK6.out o_ (by simp only;omega) (by simp only [l_a];omega))
   have hsb:=codeS_sb C.E C.en ⟨sk,nm,e,f,tn,ln⟩ _ _ _ _ (exprS_code C HC.out (e:=e) o_ HSk.out.one).1 (fun h3=>(exprS_code C HC.out (e:=f) o_ (HSk.out.two h3)).1) HK5.out.1 HK6.out.1 L
   have HNx:Hid (codeB C.E C.en (⟨sk,nm,e,f,tn,ln⟩::ss.drop (k+1)) L=((codeS C.E C.en ⟨sk,nm,e,f,tn,ln⟩ (codeB C.E C.en ((ss.drop (k+1)).take tn)) (codeB C.E C.en (((ss.drop (k+1)).drop tn).take ln)) L).1++(codeB C.E C.en ((ss.drop (k+1)).drop (tn+ln)) (codeS C.E C.en ⟨sk,nm,e,f,tn,ln⟩ (codeB C.E C.en ((ss.drop (k+1)).take tn)) (codeB C.E C.en (((ss.drop (k+1)).drop tn).take ln)) L).2).1,(codeB C.E C.en ((ss.drop (k+1)).drop (tn+ln)) (codeS C.E C.en ⟨sk,nm,e,f,tn,ln⟩ (codeB C.E C.en ((ss.drop (k+1)).take tn)) (codeB C.E C.en (((ss.drop (k+1)).drop tn).take ln)) L).2).2)):=codeB_cons C.E C.en ⟨sk,nm,e,f,tn,ln⟩ (ss.drop (k+1)) L
   generalize codeS C.E C.en ⟨sk,nm,e,f,tn,ln⟩ (codeB C.E C.en ((ss.drop (k+1)).take tn)) (codeB C.E C.en (((ss.drop (k+1)).drop tn).take ln)) L=cs at HSt HNx hsb
   obtain ⟨c1,m1⟩:=cs
   simp only at hsb
   obtain ⟨t1,t2,t3⟩:=hsb
   have HP:Hid (k+1+tn+ln<=ss.length/\fitB (ss.drop (k+1+tn+ln))=true/\codeB C.E C.en ss l=(pre++c1++(codeB C.E C.en (ss.drop (k+1+tn+ln)) m1).1,(codeB C.E C.en (ss.drop (k+1+tn+ln)) m1).2)/\l<=m1/\m1+2*szLs (ss.drop (k+1+tn+ln))<=l+2*Z/\(pre++c1).length+24*szLs (ss.drop (k+1+tn+ln))<=24*Z):=by
    have ed:(ss.drop (k+1)).drop (tn+ln)=ss.drop (k+1+tn+ln):=by rw [List.drop_drop];congr 1;omega
    rw [ed] at hpz f3
    refine ⟨hlln,f3,?_,by omega,by omega,?_⟩
    ·rw [HCd.out,HNx.out,ed,List.append_assoc]
    ·rw [l_a]
     try simp only at t1
     omega
   have x0:W2.drew.cell? ⟨wr.heap.size,0,none⟩=some (.int .i64 sk):=by show W2.cell? _=_;rw [hW2];simp
   have x1:W2.drew.cell? ⟨wr.heap.size,1,none⟩=some (.string nm):=by show W2.cell? _=_;rw [hW2];simp
   have x2:W2.drew.cell? ⟨wr.heap.size,2,none⟩=some (.slice ae e.length ce):=by show W2.cell? _=_;rw [hW2];simp
   have x3:W2.drew.cell? ⟨wr.heap.size,3,none⟩=some (.slice af f.length cf):=by show W2.cell? _=_;rw [hW2];simp
   have x4:W2.drew.cell? ⟨wr.heap.size,4,none⟩=some (.int .i64 (tn:Int)):=by show W2.cell? _=_;rw [hW2];simp
   have x5:W2.drew.cell? ⟨wr.heap.size,5,none⟩=some (.int .i64 (ln:Int)):=by show W2.cell? _=_;rw [hW2];simp
   have HWW:Hid (∀w',Wd C W2.drew (its++pre) c1 m1 w'->Wd C w its (pre++c1) m1 w'/\w'.cell? ⟨wr.heap.size,0,none⟩=some (.int .i64 sk)/\w'.cell? ⟨wr.heap.size,1,none⟩=some (.string nm)/\w'.cell? ⟨wr.heap.size,2,none⟩=some (.slice ae e.length ce)/\w'.cell? ⟨wr.heap.size,3,none⟩=some (.slice af f.length cf)/\w'.cell? ⟨wr.heap.size,4,none⟩=some (.int .i64 (tn:Int))/\w'.cell? ⟨wr.heap.size,5,none⟩=some (.int .i64 (ln:Int))):=fun w' h=>by
    have hp:=HW.out.gs.es.lt
    have a1:wr.heap.size≠C.P:=by omega
    have a2:some wr.heap.size≠rbq 6 W2.drew C.P:=fun h=>by
     rw [rbq_below hb3 hp] at h
     have:=HW.out.gs.es.rlt h.symm
     omega
    exact ⟨(HW.out.bel HC.out hb3).trans h,h.wq.cell a1 a2 x0,h.wq.cell a1 a2 x1,h.wq.cell a1 a2 x2,h.wq.cell a1 a2 x3,h.wq.cell a1 a2 x4,h.wq.cell a1 a2 x5⟩
   have hw2:IntKind.i64.wrap ((k:Int)+1)=(k:Int)+1:=by simp [IntKind.wrap,IntKind.bits,IntKind.signed];omega
   have hw3:IntKind.i64.wrap ((k:Int)+1+(tn:Int))=(k:Int)+1+(tn:Int):=by simp [IntKind.wrap,IntKind.bits,IntKind.signed];omega
   have hw6:IntKind.i64.wrap ((k:Int)+1+(tn:Int)+(ln:Int))=(k:Int)+1+(tn:Int)+(ln:Int):=by simp [IntKind.wrap,IntKind.bits,IntKind.signed];omega
   have HWx:=hide hW2
   clear hW2 hb2 hb3 HK5 HK6 HNx HCd hpz hs5 hs6 f1 f2 f3 hcb t1 t2 t3 p1 p2 p3 p4 hrl hle hlf HSk HNe HNf HG2 hL1 hL2 hL3
   go_wp2_with fail
   rw [<-HWx.out]
   clear d0 d1 d2 d3 d4 d5
   go_region_held3 (fun W=>W.cell? ⟨wr.heap.size,0,none⟩=some (.int .i64 sk)/\W.cell? ⟨wr.heap.size,1,none⟩=some (.string nm)/\W.cell? ⟨wr.heap.size,2,none⟩=some (.slice ae e.length ce)/\W.cell? ⟨wr.heap.size,3,none⟩=some (.slice af f.length cf)/\W.cell? ⟨wr.heap.size,4,none⟩=some (.int .i64 (tn:Int))/\W.cell? ⟨wr.heap.size,5,none⟩=some (.int .i64 (ln:Int))) (go_simp)
    (first | ((with_reducible refine Calls.mono HSt.out ?_);rintro x w4 ⟨⟨u4,rfl⟩,hw4⟩;obtain ⟨hw5,y0,y1,y2,y3,y4,y5⟩:=HWW.out _ hw4))
   have HR:=hide hw5
   clear hw4 hw5 x0 x1 x2 x3 x4 x5 y0 y1 y2 y3 HSt hr5 hr6
   go_wp2_with fail
   go_roundw
   case rel=>
    obtain ⟨z1,z2,z3,z4,z5,z6⟩:=HP.out
    exact ⟨k+1+tn+ln,pre++c1,m1,z1,by go_num,HR.out,z2,z3,z4,z5,z6⟩
   case measure=>simp [RowKit.intOf];omega
  ·obtain rfl:k=ss.length:=by omega
   have HE:Hid (codeB C.E C.en ss l=(pre,L)):=by
    show _=_
    rw [HCode.out,List.drop_length,codeB_nil]
    simp
   clear HCode
   go_wp2_with fail
   exact bodyPost_end (v:=.tuple #[]) (by simp [results,Tryz.results40,go_sem]) rfl ⟨⟨_,rfl⟩,by rw [HE.out];exact HW.out⟩
theorem blockS_any (C:GC) (hC:C.Ok) (n:Nat) : ∀(ss:List St) (v:Value),ss.length<=n->Stmts C.w0 v ss->fitB ss=true->(∀s∈ss,StOk s)->ss.length<=1000->BlkC C v (codeB C.E C.en ss) (szLs ss):=by
 induction n with
 | zero=>intro ss v hn hS hf ho hl;exact block_step C hC ss v hS hf ho hl (fun tt u ht=>by omega)
 | succ n ih=>intro ss v hn hS hf ho hl;exact block_step C hC ss v hS hf ho hl (fun tt u ht h1 h2 h3=>ih tt u o_ h1 h2 h3 o_)
theorem wpList_appS {w:World} {ops:Array Oper} {rest:List Oper} {o:Oper} {a:Act} {Q:Exit->Act->World->Prop} (hgd:o.guard=none) (s x:Operand)
  (ho:o.op = .call {callee:=.builtin .append,args:=#[s,x],argTypes:=#[43,43]})
  (base:Nat) (v:Value) (xs:List ByteArray) (hs:a.eval s=v) (hown:SRow base w v xs) (xv:Value) (us:List ByteArray) (hxv:a.eval x=xv) (hx:SSrc w xv us)
  (hm:xs.length+us.length<=10000000) (hbase:base<=w.heap.size)
  (h : ∀v' w',SRow base w' v' (xs++us)->w.grownBy w' v.ownBlock->(∀k,v'.ownBlock=some k->v.ownBlock=some k∨w.heap.size<=k)->wpList Tryz.prog ops Q rest (a.put o.dst v') w'):wpList Tryz.prog ops Q (o::rest) a w:=by
 refine wpList_plain hgd fun K hK => ?_
 obtain ⟨v',w',hr,h2,h3,h4⟩:=run_appS (w:=w) base o.type v xs hown xv us hx hm hbase
 unfold Oper.wp execOp
 simp only [ho,resolve,invoke,builtin,Sem.run_bind,Sem.run_pure,Result.andThen_ok,List.map_toArray,List.map_cons,List.map_nil,hs,hxv,hr]
 exact hK _ _ (h v' w' h2 h3 h4)
theorem needG_any {w:World} {e:List Nd} (hk:okE e) (hp:0<e.length) (v:Value) (W:World) (d:Int) (hN:Nodes w v e) (hB:Below w.heap.size w W) (hd:0<=d) (hd1:d<=1):Calls Tryz.prog 69 #[v,.int .i64 d] W fun x w'=>x = .returned (.int .i64 (needL e d))/\Below W.heap.size W w':=by
 obtain ⟨g,h1,h2,h3⟩:=needS_any w e.length e (Nat.le_refl _) (by have:=hk.1;omega) (hk.2 hp)
 rw [h1.eq]
 exact h3 v W d hN hB hd (by have:=hk.1;omega)
theorem boxS {w w':World} {t:TypeId} {x0 x1 x2 x3 x4 x5:Value} (h:Below (w.heap.size+1) (w.alloc (.cells #[x0,x1,x2,x3,x4,x5] t)) w') :
  w'.cell? ⟨w.heap.size,0,none⟩=some x0/\w'.cell? ⟨w.heap.size,1,none⟩=some x1/\w'.cell? ⟨w.heap.size,2,none⟩=some x2/\w'.cell? ⟨w.heap.size,3,none⟩=some x3:=by
 refine ⟨?_,?_,?_,?_⟩ <;> (rw [h.cell (by simp)];simp)
theorem szA {w w':World} {o:Obj} (h:Below (w.heap.size+1) (w.alloc o) w'):w.heap.size+1<=w'.heap.size:=by have:=h.size;simpa using this
theorem boxF {w w':World} {t:TypeId} {x0 x1 x2:Value} (h:Below (w.heap.size+1) (w.alloc (.cells #[x0,x1,x2] t)) w') :
  w'.cell? ⟨w.heap.size,0,none⟩=some x0/\w'.cell? ⟨w.heap.size,1,none⟩=some x1/\w'.cell? ⟨w.heap.size,2,none⟩=some x2:=by
 refine ⟨?_,?_,?_⟩ <;> (rw [h.cell (by simp)];simp)
theorem layout_row (f:Fu) (vp vb:Value) (w:World) (hok:FrOk f) (hp:Strs w vp f.params) (hb:Stmts w vb f.body) :
  Calls Tryz.prog 37 #[.agg #[.string f.name,vp,vb]] w fun e w'=>∃a c,e = .returned (.tuple #[.slice a (f.params++declN f.body).length c,.int .i64 (places f.body)])/\Below w.heap.size w w'/\SRow (w.heap.size+1) w' (.slice a (f.params++declN f.body).length c) (f.params++declN f.body):=by
 have HPs:Hid (Strs w vp f.params):=hp
 obtain ⟨ap,cp,rfl,-⟩:=hp
 obtain ⟨ab,cb,rfl,hb1,hb2,hbc⟩:=hb
 have HBC:=hide hbc
 have HOk:=hide hok
 have hpl:=hok.pl
 have hbl:=hok.bl
 obtain ⟨W0,hW0⟩ : ∃W0,W0=w.alloc (.cells #[.string f.name,.slice ap f.params.length cp,.slice ab f.body.length cb] 64):=⟨_,rfl⟩
 have hA:Bl w W0:=by rw [hW0];exact (Below.refl _ _).alloc (Nat.le_refl _) _
 have hs0:W0.heap.size=w.heap.size+1:=by rw [hW0];simp
 have HSr:Hid (SRow (w.heap.size+1) (W0.alloc (.cells #[] 9)) (.slice (some ⟨w.heap.size+1,0,none⟩) 0 0) []):=by
  have:=srow_lit W0 (w.heap.size+1) o_
  rw [hs0] at this
  exact this
 have HSs:Hid (SSrc (W0.alloc (.cells #[] 9)) (.slice ap f.params.length cp) f.params):=(HPs.out.below (hA.alloc o_ _)).src
 have HBox:Hid (∀W,Below (w.heap.size+1) W0 W->W.cell? ⟨w.heap.size,0,none⟩=some (.string f.name)/\W.cell? ⟨w.heap.size,1,none⟩=some (.slice ap f.params.length cp)/\W.cell? ⟨w.heap.size,2,none⟩=some (.slice ab f.body.length cb)):=fun W hW=>by
  rw [hW0] at hW
  exact boxF hW
 have HA:=hide hA
 have HW0:=hide hW0
 have hsz0:(W0.alloc (.cells #[] 9)).heap.size=w.heap.size+2:=by simp [hs0]
 clear hW0 hbc hok hA
 go_enter Tryz.func37,Tryz.ntmps37
 go_wp2_with (at_builtin;rw [<-HW0.out];refine wpList_appS rfl _ _ rfl (w.heap.size+1) _ [] rfl HSr.out _ f.params rfl HSs.out (by simp;omega) o_ ?_)
 intro v1 w1 hr1 hg1 hf1
 have hB1:Below (w.heap.size+1) W0 w1:=((Below.refl _ _).alloc o_ _).grown hg1 o_ (fun g hg=>(World.ownsRow.lt HSr.out g hg).1)
 have HR1:Hid (SRow (w.heap.size+1) w1 v1 (f.params++declN (f.body.take 0))):=by
  show SRow _ _ _ _
  simpa [declN] using hr1
 have HB1:=hide hB1
 clear hr1 hg1 hf1 HSr HSs hsz0 hB1
 go_wp2_with fail
 go_loopw [4,5,6] (fun v p i wr=>∃(k:Nat),k<=f.body.length/\i = .int .i64 k/\p = .int .i64 (places (f.body.take k))/\SRow (w.heap.size+1) wr v (f.params++declN (f.body.take k))/\Below (w.heap.size+1) W0 wr) (fun _ _ i _=>f.body.length-(RowKit.intOf i).toNat)
 case atStart=>exact ⟨0,Nat.zero_le _,rfl,rfl,HR1.out,HB1.out⟩
 case round=>
  clear HR1 HB1
  obtain ⟨k,hk,rfl,rfl,hR,hB⟩:=hrel
  obtain ⟨f0,f1,f2⟩:=HBox.out wr hB
  have hBw:Bl w wr:=HA.out.trans (hB.mono o_)
  have hsw:w.heap.size+1<=wr.heap.size:=by have:=hB.size;omega
  by_cases hlt:k<f.body.length
  ·obtain ⟨b',off,rfl,hc⟩:=HBC.out o_
   obtain ⟨ve,vf,⟨c0,c1,c2,c3,c4,c5⟩,he,hf⟩:=hc k hlt
   have hlb:=World.block_lt_of_cell? _ _ c0
   have d0:=(hBw.cell (p:=⟨b',off+k*6,none⟩) hlb).trans c0
   have d1:=(hBw.cell (p:=⟨b',off+k*6+1,none⟩) hlb).trans c1
   have d2:=(hBw.cell (p:=⟨b',off+k*6+2,none⟩) hlb).trans c2
   have d3:=(hBw.cell (p:=⟨b',off+k*6+3,none⟩) hlb).trans c3
   have d4:=(hBw.cell (p:=⟨b',off+k*6+4,none⟩) hlb).trans c4
   have d5:=(hBw.cell (p:=⟨b',off+k*6+5,none⟩) hlb).trans c5
   clear c0 c1 c2 c3 c4 c5 hc
   have hmem:f.body[k]∈f.body:=List.getElem_mem hlt
   have hsn:declN (f.body.take (k+1))=if f.body[k].kind=1 then declN (f.body.take k)++[f.body[k].name] else declN (f.body.take k):=by rw [List.take_succ_eq_append_getElem hlt,declN_snoc]
   have hpn:places (f.body.take (k+1))=if f.body[k].kind=3 then max (max (places (f.body.take k)) (needL f.body[k].e 0)) (needL f.body[k].f 1) else max (places (f.body.take k)) (needL f.body[k].e 0):=by
    rw [List.take_succ_eq_append_getElem hlt,places_snoc,plU_spec (HOk.out.sb _ hmem)]
   have hse:=HOk.out.st _ hmem
   have hsb:=HOk.out.sb _ hmem
   have hdl:(f.params++declN (f.body.take k)).length<=2000:=by
    have:=declN_len (f.body.take k)
    have:(f.body.take k).length<=k:=List.length_take_le _ _
    simp only [l_a]
    omega
   have HNE:=hide fun W (hW:Bl w W)=>needG_any hse.1 hsb.1 ve W 0 he hW o_ o_
   have HNF:Hid (f.body[k].kind=3->∀W,Bl w W->Calls Tryz.prog 69 #[vf,.int .i64 1] W fun x w'=>x = .returned (.int .i64 (needL f.body[k].f 1))/\Bl W w'):=fun h3 W hW=>needG_any hse.2 (hsb.2.1 h3) vf W 1 hf hW o_ o_
   obtain ⟨ae,ce,rfl,-⟩:=he
   obtain ⟨af,cf,rfl,-⟩:=hf
   clear hse hsb hmem
   generalize needL f.body[k].e 0=ne at HNE hpn
   generalize needL f.body[k].f 1=nf at HNF hpn
   generalize f.body[k].e.length=le at d2 HNE
   generalize f.body[k].f.length=lf at d3 HNF
   generalize f.body[k].name=sn at d1 hsn
   generalize f.body[k].thn=st at d4
   generalize f.body[k].els=sl at d5
   generalize f.body[k].kind=sk at d0 hsn hpn HNF
   generalize hP:places (f.body.take k)=P at hpn ⊢
   clear hP
   obtain ⟨an,cn,rfl⟩:=hR.shape
   have HR:Hid (SRow (w.heap.size+1) wr (.slice an (f.params++declN (f.body.take k)).length cn) (f.params++declN (f.body.take k))):=hR
   have HSN:=hide hsn
   have HPN:=hide hpn
   clear hR hsn hpn
   have hA1 : ∀o,Below (w.heap.size+1) W0 (wr.alloc o):=fun o=>hB.alloc hsw o
   have HAw:=hide fun W (hW:Below (w.heap.size+1) W0 W)=>HA.out.trans (hW.mono o_)
   generalize hL:(f.params++declN (f.body.take k)).length=L at HR ⊢
   have hL2:L<=2000:=by omega
   by_cases h1:sk=1
   ·subst h1
    have HR1:Hid (SRow (w.heap.size+1) ((wr.alloc (.cells #[.int .i64 1,.string sn,.slice ae le ce,.slice af lf cf,.int .i64 st,.int .i64 sl] 123)).alloc (.cells #[.string sn] 9)) (.slice an L cn) (f.params++declN (f.body.take k))):=(HR.out.below (bel_a _ _)).below (bel_a _ _)
    have HS1:Hid (SSrc ((wr.alloc (.cells #[.int .i64 1,.string sn,.slice ae le ce,.slice af lf cf,.int .i64 st,.int .i64 sl] 123)).alloc (.cells #[.string sn] 9)) (.slice (some ⟨wr.heap.size+1,0,none⟩) 1 1) [sn]):=by
     have:=ssrc_1 (wr.alloc (.cells #[.int .i64 1,.string sn,.slice ae le ce,.slice af lf cf,.int .i64 st,.int .i64 sl] 123)) sn 9
     rw [World.size_alloc] at this
     exact this
    have HSN2:Hid (f.params++declN (f.body.take (k+1))=f.params++(declN (f.body.take k)++[sn])):=by
     show _=_
     rw [HSN.out,if_pos rfl]
    have HP5:Hid (places (f.body.take (k+1))=max P ne):=by
     show _=_
     rw [HPN.out,if_neg (by decide)]
    have hLL:(f.params++declN (f.body.take k)).length + [sn].length<=10000000:=by simp only [l_c,l_n];omega
    have hob : ∀g,(Value.slice an L cn).ownBlock=some g->w.heap.size+1<=g/\g<wr.heap.size:=fun g hg=>World.ownsRow.lt HR.out g hg
    clear HNF HSN HPN
    go_wp2_with (at_builtin;refine wpList_appS rfl _ _ rfl (w.heap.size+1) _ (f.params++declN (f.body.take k)) rfl HR1.out _ [sn] rfl HS1.out hLL (by simp;omega) ?_)
    intro v2 w2 hr2 hg2 hf2
    rw [<-HSN2.out] at hr2
    have hc2:Below (w.heap.size+1) (wr.alloc (.cells #[.int .i64 1,.string sn,.slice ae le ce,.slice af lf cf,.int .i64 st,.int .i64 sl] 123)) w2:=((Below.refl _ _).alloc (by simp;omega) _).grown hg2 (by simp;omega) (fun g hg=>(hob g hg).1)
    have hkb : ∀o,w2.cell? ⟨wr.heap.size,o,none⟩=(wr.alloc (.cells #[.int .i64 1,.string sn,.slice ae le ce,.slice af lf cf,.int .i64 st,.int .i64 sl] 123)).cell? ⟨wr.heap.size,o,none⟩:=fun o=>by
     have h1:w2.heap[wr.heap.size]? = ((wr.alloc (.cells #[.int .i64 1,.string sn,.slice ae le ce,.slice af lf cf,.int .i64 st,.int .i64 sl] 123)).alloc (.cells #[.string sn] 9)).heap[wr.heap.size]? := hg2.block wr.heap.size (by simp;omega) (fun h=>by have:=(hob _ h.symm).2;omega)
     rw [World.cell?_of_block (a:=⟨wr.heap.size,o,none⟩) h1,World.cell?_alloc_lt _ _ ⟨wr.heap.size,o,none⟩ (by simp)]
    have g0:=(hkb 0).trans (show _=some (.int .i64 1) by simp)
    have g2:=(hkb 2).trans (show _=some (.slice ae le ce) by simp)
    have hB2:Below (w.heap.size+1) W0 w2:=(hA1 _).trans (hc2.mono o_)
    have HR2:=hide hr2
    obtain ⟨an2,cn2,rfl⟩:=hr2.shape
    generalize (f.params++declN (f.body.take (k+1))).length=L2 at HR2 ⊢
    have hlw:wr.heap.size<w2.heap.size:=World.block_lt_of_cell? _ _ g0
    clear hr2 hg2 hf2 hkb hc2 d0 d1 d2 d3 d4 d5 f0 f1 f2 HR1 HS1 hob HR hL hA1 hLL
    go_wp2_with fail
    refine (HNE.out _ (HAw.out _ hB2)).mono ?_
    rintro e w3 ⟨rfl,hb3⟩
    have g3:=(hb3.cell (p:=⟨wr.heap.size,0,none⟩) hlw).trans g0
    clear g0 g2
    go_wp2_with fail
    refine (most_any P ne w3).mono ?_
    rintro e w4 ⟨rfl,hb4⟩
    have g4:=(hb4.cell (p:=⟨wr.heap.size,0,none⟩) (Nat.lt_of_lt_of_le hlw hb3.size)).trans g3
    have HR5:=hide ((HR2.out.below hb3).below hb4)
    have hB3:=hB2.trans (hb3.mono (by have:=hB2.size;omega))
    have hB4:=hB3.trans (hb4.mono (by have:=hB3.size;omega))
    clear g3 hb3 hb4 hB2 hB3 HR2 HNE HAw HSN2
    go_wp2_with fail
    go_roundw
    case rel=>exact ⟨k+1,by omega,by go_num,by rw [HP5.out],HR5.out,hB4⟩
    case measure=>simp [RowKit.intOf];omega
   ·have hk1:(sk == 1)=false:=by simp [h1]
    have HSN2:Hid (declN (f.body.take (k+1))=declN (f.body.take k)):=by
     show _=_
     rw [HSN.out,if_neg h1]
    clear HSN
    by_cases h3:sk=3
    ·subst h3
     have HNF3:=HNF.out rfl
     have HNG:=hide HNF3
     clear HNF HNF3
     go_wp2_with fail
     refine (HNE.out _ (HAw.out _ (hA1 _))).mono ?_
     rintro e w2 ⟨rfl,hb2⟩
     simp only [World.size_alloc] at hb2
     obtain ⟨g0,-,-,g3⟩:=boxS hb2
     clear d0 d1 d2 d3 d4 d5 f0 f1 f2 HNE
     go_wp2_with fail
     refine (most_any P ne w2).mono ?_
     rintro e w3 ⟨rfl,hb3⟩
     have hc3:=hb2.trans (hb3.mono (szA hb2))
     clear g0 g3 hb2 hb3
     obtain ⟨g0,-,-,g3⟩:=boxS hc3
     go_wp2_with fail
     refine (HNG.out _ (HAw.out _ ((hA1 _).trans (hc3.mono o_)))).mono ?_
     rintro e w4 ⟨rfl,hb4⟩
     have hc4:=hc3.trans (hb4.mono (szA hc3))
     clear g0 g3 hb4 hc3
     go_wp2_with fail
     refine (most_any (max P ne) nf w4).mono ?_
     rintro e w5 ⟨rfl,hb5⟩
     have hc5:=hc4.trans (hb5.mono (szA hc4))
     clear hb5 hc4
     have HR5:Hid (SRow (w.heap.size+1) w5 (.slice an L cn) (f.params++declN (f.body.take (k+1)))):=by
      show SRow _ _ _ _
      rw [HSN2.out]
      exact HR.out.below (one_below hc5)
     have hB5:Below (w.heap.size+1) W0 w5:=(hA1 _).trans (hc5.mono o_)
     have HP5:Hid (places (f.body.take (k+1))=max (max P ne) nf):=by
      show _=_
      rw [HPN.out]
      simp
     clear hc5 HR HPN HSN2 hL
     go_wp2_with fail
     go_roundw
     case rel=>exact ⟨k+1,by omega,by go_num,by rw [HP5.out,Int.max_assoc],HR5.out,hB5⟩
     case measure=>simp [RowKit.intOf];omega
    ·have hk3:(sk == 3)=false:=by simp [h3]
     clear HNF
     go_wp2_with fail
     refine (HNE.out _ (HAw.out _ (hA1 _))).mono ?_
     rintro e w2 ⟨rfl,hb2⟩
     simp only [World.size_alloc] at hb2
     obtain ⟨g0,-,-,g3⟩:=boxS hb2
     clear d0 d1 d2 d3 d4 d5 f0 f1 f2 HNE
     go_wp2_with fail
     refine (most_any P ne w2).mono ?_
     rintro e w3 ⟨rfl,hb3⟩
     have hc3:=hb2.trans (hb3.mono (szA hb2))
     clear g0 g3 hb2 hb3
     obtain ⟨g0,-,-,g3⟩:=boxS hc3
     have HR5:Hid (SRow (w.heap.size+1) w3 (.slice an L cn) (f.params++declN (f.body.take (k+1)))):=by
      show SRow _ _ _ _
      rw [HSN2.out]
      exact HR.out.below (one_below hc3)
     have hB5:Below (w.heap.size+1) W0 w3:=(hA1 _).trans (hc3.mono o_)
     have HP5:Hid (places (f.body.take (k+1))=max P ne):=by
      show _=_
      rw [HPN.out,if_neg h3]
     clear hc3 HR HPN HSN2 hL
     go_wp2_with fail
     go_roundw
     case rel=>exact ⟨k+1,by omega,by go_num,by rw [HP5.out],HR5.out,hB5⟩
     case measure=>simp [RowKit.intOf];omega
  ·obtain rfl:k=f.body.length:=by omega
   rw [List.take_length] at hR ⊢
   obtain ⟨an,cn,rfl⟩:=hR.shape
   have HRz:=hide hR
   clear hR
   go_wp2_with fail
   exact bodyPost_ret (v:=.tuple #[.slice an (f.params++declN f.body).length cn,.int .i64 (places f.body)]) (by simp [results,Tryz.results37,go_sem]) rfl ⟨an,cn,rfl,hBw,HRz.out⟩
theorem layout_any (f:Fu) (vp vb:Value) (w:World) (hok:FrOk f) (hp:Strs w vp f.params) (hb:Stmts w vb f.body) :
  Calls Tryz.prog 37 #[.agg #[.string f.name,vp,vb]] w fun e w'=>∃a c,e = .returned (.tuple #[.slice a (f.params++declN f.body).length c,.int .i64 (places f.body)])/\Below w.heap.size w w':=
 (layout_row f vp vb w hok hp hb).mono (fun _ _ ⟨a,c,h1,h2,_⟩=>⟨a,c,h1,h2⟩)
theorem frameG_any (f:Fu) (vp vb:Value) (w:World) (hok:FrOk f) (hp:Strs w vp f.params) (hb:Stmts w vb f.body) :
  Calls Tryz.prog 38 #[.agg #[.string f.name,vp,vb]] w fun e w'=>e = .returned (.int .i64 (frameSz f))/\Below w.heap.size w w':=by
 have hA : ∀o,Bl w (w.alloc o):=fun o=>(Below.refl _ _).alloc (Nat.le_refl _) o
 have HL:=hide fun W (hW:Bl w W)=>layout_any f vp vb W hok (hp.below hW) (hb.below hW)
 have hpb:=places_bd f.body hok.st
 have hN:(f.params++declN f.body).length<=2000:=by
  have:=declN_len f.body
  have:=hok.pl
  have:=hok.bl
  simp only [l_a]
  omega
 obtain ⟨F,hF⟩ : ∃F,F=frameSz f:=⟨_,rfl⟩
 rw [<-hF]
 unfold frameSz at hF
 obtain ⟨ap,cp,rfl,-⟩:=hp
 obtain ⟨ab,cb,rfl,-⟩:=hb
 generalize (f.params++declN f.body).length=N at HL hN hF
 generalize places f.body=P at HL hpb hF
 have HFz:=hide hF
 have k1:IntKind.i64.wrap ((N:Int)+P)=(N:Int)+P:=by simp [IntKind.wrap,IntKind.bits,IntKind.signed];omega
 have k2:IntKind.i64.wrap ((N:Int)+P+1)=(N:Int)+P+1:=by simp [IntKind.wrap,IntKind.bits,IntKind.signed];omega
 have k3:IntKind.i64.wrap (4*((N:Int)+P+1))=4*((N:Int)+P+1):=by simp [IntKind.wrap,IntKind.bits,IntKind.signed];omega
 have k4:IntKind.i64.wrap (4*((N:Int)+P+1)+15)=4*((N:Int)+P+1)+15:=by simp [IntKind.wrap,IntKind.bits,IntKind.signed];omega
 go_enter Tryz.func38,Tryz.ntmps38
 go_wp2_with fail
 refine (HL.out _ (hA _)).mono ?_
 rintro e w1 ⟨a,c,rfl,hb1⟩
 have hB1:=(hA _).trans (hb1.mono (hA _).size)
 go_wp2_with fail
 refine bodyPost_ret (v:=.int .i64 F) ?_ rfl ⟨rfl,hB1⟩
 rw [HFz.out,show 4*(N:Int)+4*(P+1)+15=4*((N:Int)+P+1)+15 by omega]
 simp [results,Tryz.results38,go_sem]
end Go.Proofs.YtnpidjamplmgjaaGreatDoor
