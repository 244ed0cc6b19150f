import Derived.Test.YtnpidjamplmgjaaGreatDoorQ07
import Derived.RegionTactic
import Derived.ChangeAlike
import Derived.Below
import Derived.WalkSpells
import Derived.BigQuiet
set_option linter.unusedSectionVars false
variable [Inhabited Go.Proofs.YtnpidjamplmgjaaGreatDoor.Pick]
namespace Go.Proofs.YtnpidjamplmgjaaGreatDoor
open Go.RowKit
set_option linter.unusedVariables false
set_option linter.unusedSimpArgs false
set_option maxRecDepth 100000
set_option maxHeartbeats 16000000
theorem nameB_empty {s:ByteArray} (h:nameB s=true):(s.toList == [])=false:=by
 have hp:=((nameB_iff s).1 h).1
 have hl:s.toList.length=s.size:=by rw [ByteArray.toList_eq];simp
 cases e:(s.toList == [])
 ·rfl
 ·have e':s.toList = []:=by simpa using e
  rw [e'] at hl
  simp at hl
  omega
theorem run_kind (x y:Int) (z:ByteArray) (w:World):(Instr.field 151 (.agg #[.int .i64 x,.int .i64 y,.string z]) 0).run Tryz.prog w = .ok (.int .i64 x) w:=by kernel_rfl
theorem box6 {w w':World} {t:TypeId} {x0 x1 x2 x3 x4 x5:Value} (h:Below (w.heap.size+1) (w.alloc (.cells #[x0,x1,x2,x3,x4,x5] t)) w') :
  w'.cell? ⟨w.heap.size,0,none⟩=some x0/\w'.cell? ⟨w.heap.size,1,none⟩=some x1/\w'.cell? ⟨w.heap.size,2,none⟩=some x2/\w'.cell? ⟨w.heap.size,3,none⟩=some x3/\w'.cell? ⟨w.heap.size,4,none⟩=some x4/\w'.cell? ⟨w.heap.size,5,none⟩=some x5:=by
 refine ⟨?_,?_,?_,?_,?_,?_⟩ <;> (rw [h.cell (by simp)];simp)
theorem one_below {w w':World} {a:Obj} (h:Below (w.heap.size+1) (w.alloc a) w'):Below w.heap.size w w':=
 (bel_a _ _).trans (h.mono o_)
def StmtsC (w:World) (b off:Nat) (ss:List St):Prop:=∀j (h:j<ss.length),∃ve vf,
 (w.cell? ⟨b,off+j*6,none⟩=some (.int .i64 ss[j].kind)/\w.cell? ⟨b,off+j*6+1,none⟩=some (.string ss[j].name)/\w.cell? ⟨b,off+j*6+2,none⟩=some ve/\w.cell? ⟨b,off+j*6+3,none⟩=some vf/\w.cell? ⟨b,off+j*6+4,none⟩=some (.int .i64 ss[j].thn)/\w.cell? ⟨b,off+j*6+5,none⟩=some (.int .i64 ss[j].els))/\Nodes w ve ss[j].e/\Nodes w vf ss[j].f
theorem StmtsC.below {w w':World} {b off:Nat} {ss:List St} (h:StmtsC w b off ss) (hb:Below w.heap.size w w'):StmtsC w' b off ss:=by
 intro j hj
 obtain ⟨ve,vf,⟨c0,c1,c2,c3,c4,c5⟩,he,hf⟩:=h j hj
 have hlt:=World.block_lt_of_cell? _ _ c0
 exact ⟨ve,vf,⟨(hb.cell (p:=⟨b,off+j*6,none⟩) hlt).trans c0,(hb.cell (p:=⟨b,off+j*6+1,none⟩) hlt).trans c1,(hb.cell (p:=⟨b,off+j*6+2,none⟩) hlt).trans c2,(hb.cell (p:=⟨b,off+j*6+3,none⟩) hlt).trans c3,(hb.cell (p:=⟨b,off+j*6+4,none⟩) hlt).trans c4,(hb.cell (p:=⟨b,off+j*6+5,none⟩) hlt).trans c5⟩,he.below hb,hf.below hb⟩
def Stmts (w:World) (v:Value) (ss:List St):Prop:=∃a cap,v = .slice a ss.length cap/\ss.length<=cap/\cap<=9223372036854775807/\(0<ss.length->∃b off,a=some ⟨b,off,none⟩/\StmtsC w b off ss)
theorem Stmts.below {w w':World} {v:Value} {ss:List St} (h:Stmts w v ss) (hb:Below w.heap.size w w'):Stmts w' v ss:=by
 obtain ⟨a,cap,rfl,hl,hm,h⟩:=h
 refine ⟨a,cap,rfl,hl,hm,fun h0 => ?_⟩
 obtain ⟨b,off,rfl,hc⟩:=h h0
 exact ⟨b,off,rfl,hc.below hb⟩
theorem StmtsC.up {w:World} {b off:Nat} {ss:List St} (h:StmtsC w b off ss) (j:Nat) (hj:j<ss.length) : ∃ve vf,((∀o,(w.alloc o).cell? ⟨b,off+j*6,none⟩=some (.int .i64 ss[j].kind))/\(∀o,(w.alloc o).cell? ⟨b,off+j*6+1,none⟩=some (.string ss[j].name))/\(∀o,(w.alloc o).cell? ⟨b,off+j*6+2,none⟩=some ve)/\(∀o,(w.alloc o).cell? ⟨b,off+j*6+3,none⟩=some vf)/\(∀o,(w.alloc o).cell? ⟨b,off+j*6+4,none⟩=some (.int .i64 ss[j].thn))/\(∀o,(w.alloc o).cell? ⟨b,off+j*6+5,none⟩=some (.int .i64 ss[j].els))) /\
  (w.cell? ⟨b,off+j*6,none⟩=some (.int .i64 ss[j].kind)/\w.cell? ⟨b,off+j*6+1,none⟩=some (.string ss[j].name)/\w.cell? ⟨b,off+j*6+2,none⟩=some ve/\w.cell? ⟨b,off+j*6+3,none⟩=some vf/\w.cell? ⟨b,off+j*6+4,none⟩=some (.int .i64 ss[j].thn)/\w.cell? ⟨b,off+j*6+5,none⟩=some (.int .i64 ss[j].els))/\Nodes w ve ss[j].e/\Nodes w vf ss[j].f:=by
 obtain ⟨ve,vf,⟨c0,c1,c2,c3,c4,c5⟩,he,hf⟩:=h j hj
 have hlt:=World.block_lt_of_cell? _ _ c0
 have hb : ∀o,Bl w (w.alloc o):=fun o=>(Below.refl _ _).alloc (Nat.le_refl _) o
 exact ⟨ve,vf,⟨fun o=>((hb o).cell (p:=⟨b,off+j*6,none⟩) hlt).trans c0,fun o=>((hb o).cell (p:=⟨b,off+j*6+1,none⟩) hlt).trans c1,fun o=>((hb o).cell (p:=⟨b,off+j*6+2,none⟩) hlt).trans c2,fun o=>((hb o).cell (p:=⟨b,off+j*6+3,none⟩) hlt).trans c3,fun o=>((hb o).cell (p:=⟨b,off+j*6+4,none⟩) hlt).trans c4,fun o=>((hb o).cell (p:=⟨b,off+j*6+5,none⟩) hlt).trans c5⟩,⟨c0,c1,c2,c3,c4,c5⟩,he,hf⟩
theorem Stmts.cut {w:World} {a:Option Addr} {cap:Nat} {ss:List St} (h:Stmts w (.slice a ss.length cap) ss) (lo hi:Nat) (h1:lo<=hi) (h2:hi<=ss.length) :
  Stmts w (.slice (if cap=lo then a else a.map (·.add (lo*6))) (hi-lo) (cap-lo)) ((ss.take hi).drop lo):=by
 obtain ⟨a',cap',he,hl,hm,h⟩:=h
 simp only [Value.slice.injEq,true_and] at he
 obtain ⟨rfl,rfl⟩:=he
 refine ⟨if cap=lo then a else a.map (·.add (lo*6)),cap-lo,by simp [Nat.min_eq_left h2],by simp [Nat.min_eq_left h2];omega,by omega,fun h0 => ?_⟩
 simp only [List.length_drop,List.length_take,Nat.min_eq_left h2] at h0
 obtain ⟨b,off,rfl,hc⟩:=h o_
 refine ⟨b,off+lo*6,?_,fun j hj => ?_⟩
 ·rw [if_neg o_];simp [Addr.add]
 ·simp only [List.length_drop,List.length_take,Nat.min_eq_left h2] at hj
  obtain ⟨ve,vf,hcc,he,hf⟩:=hc (lo+j) o_
  have e:((ss.take hi).drop lo)[j]'(by simp;omega)=ss[lo+j]' o_:=by simp
  rw [e]
  refine ⟨ve,vf,?_,he,hf⟩
  have e1:off+lo*6+j*6=off+(lo+j)*6:=by omega
  rw [e1]
  exact hcc
theorem Stmts.head {w:World} {a:Option Addr} {cap:Nat} {ss:List St} (h:Stmts w (.slice a ss.length cap) ss) (hi:Nat) (h2:hi<=ss.length):Stmts w (.slice a hi cap) (ss.take hi):=by
 have:=h.cut 0 hi (Nat.zero_le _) h2
 have e:(if cap=0 then a else a.map (·.add (0*6)))=a:=by
  split
  ·rfl
  ·cases a <;> simp [Addr.add]
 rw [e] at this
 simpa using this
theorem cut_run (a:Option Addr) (n cap lo hi:Nat) (h1:lo<=hi) (h2:hi<=n) (h3:n<=cap) : ∀w:World,(Instr.slice 62 (.slice a n cap) (some (.int .i64 lo)) (some (.int .i64 ((lo:Int)+((hi-lo:Nat):Int)))) none).run Tryz.prog w = .ok (.slice (if cap=lo then a else a.map (·.add (lo*6))) (hi-lo) (cap-lo)) w:=by
 intro w
 have hz:Tryz.prog.elem 62=123:=by kernel_rfl
 have hs:(sizeOf 123).run Tryz.prog w = .ok 6 w:=by kernel_rfl
 rw [run_slice_lh w 62 a n cap (by rw [hz];exact Tryz.underlying62) .i64 .i64 _ _ o_ o_ o_,hz,hs]
 simp only [Result.andThen,sliced,Int.toNat_natCast]
 have e:(((lo:Int)+((hi-lo:Nat):Int))).toNat=hi:=by omega
 rw [e]
theorem cut_run_l (a:Option Addr) (n cap lo:Nat) (h2:lo<=n) (h3:n<=cap) (l':Int) (hl':l'=lo) : ∀w:World,(Instr.slice 62 (.slice a n cap) (some (.int .i64 l')) none none).run Tryz.prog w = .ok (.slice (if cap=lo then a else a.map (·.add (lo*6))) (n-lo) (cap-lo)) w:=by
 intro w
 subst hl'
 have hz:Tryz.prog.elem 62=123:=by kernel_rfl
 have hs:(sizeOf 123).run Tryz.prog w = .ok 6 w:=by kernel_rfl
 rw [run_slice_l w 62 a n cap (by rw [hz];exact Tryz.underlying62) .i64 _ o_ o_,hz,hs]
 simp only [Result.andThen,sliced,Int.toNat_natCast]
def lenOf:Value->Nat | .slice _ n _=>n | _=>0
theorem fit_any (n:Nat) : ∀(v:Value) (ss:List St) (w:World) (hn:ss.length<=n) (hl:ss.length<=1048576) (hc:Stmts w v ss),
  Calls Tryz.prog 175 #[v] w fun e w'=>e = .returned (.bool (fitB ss))/\Below w.heap.size w w':=by
 induction n with
 | zero=>
  intro v ss w hn hl hc
  have:ss = []:=List.eq_nil_of_length_eq_zero o_
  subst this
  obtain ⟨a,cap,rfl,hcl,hcm,hc⟩:=hc
  simp only [l_n] at *
  clear hc
  go_enter Tryz.func175,Tryz.ntmps175
  go_wp2_with fail
  refine wp_loop_rounds 1 ?_
  rw [rounds_succ]
  go_wp2_with fail
  go_ret
  exact ⟨rfl,Below.refl _ _⟩
 | succ n ih=>
 intro v ss w hn hl hc
 have IH:=hide ih
 have HN:=hide hc
 obtain ⟨a,cap,rfl,hcl,hcm,hc⟩:=hc
 clear hc ih
 go_enter Tryz.func175,Tryz.ntmps175
 go_wp2_with fail
 go_loopw [0] (fun v wr=>∃ts,ts.length<=ss.length/\Stmts wr v ts/\fitB ss=fitB ts/\Bl w wr) (fun v _=>lenOf v)
 case atStart=>exact ⟨ss,Nat.le_refl _,HN.out,rfl,Below.refl _ _⟩
 case round=>
  obtain ⟨ts,htl,hts,hfit,hB⟩:=hrel
  obtain ⟨a,cap,rfl,hcl,hcm,hc⟩:=hts
  have HF:=hide hfit
  clear hfit
  cases ts with
  | nil=>
   simp only [l_n]
   go_wp2_with fail
   go_ret
   exact ⟨ret_bool HF.out.symm,hB⟩
  | cons s r=>
   obtain ⟨b,off,rfl,hs⟩:=hc (by simp)
   obtain ⟨ve,vf,⟨g0,g1,g2,g3,g4,g5⟩,⟨c0,c1,c2,c3,c4,c5⟩,he,hf⟩:=hs.up 0 (by simp)
   simp only [Nat.zero_mul,Nat.add_zero,List.getElem_cons_zero] at c0 c1 c2 c3 c4 c5 g0 g1 g2 g3 g4 g5
   have hall:Stmts wr (.slice (some ⟨b,off,none⟩) (s::r).length cap) (s::r):=⟨_,_,rfl,hcl,hcm,fun _=>⟨b,off,rfl,hs⟩⟩
   have hrest:Stmts wr (.slice (if cap=1 then some ⟨b,off,none⟩ else some ⟨b,off+6,none⟩) r.length (cap-1)) r:=by
    have:=hall.cut 1 (s::r).length (by simp) (Nat.le_refl _)
    simpa [Addr.add] using this
   simp only [l_c] at *
   have HR:=hide hrest
   have h1:(1:Int)<=(r.length:Int)+1:=by omega
   have HC:Hid (fitB ss=(decide (0<=s.thn/\s.thn<=r.length/\0<=s.els/\s.els<=r.length-s.thn) && (fitB (r.take s.thn.toNat) && (fitB ((r.take (s.thn.toNat+s.els.toNat)).drop s.thn.toNat) && fitB (r.drop (s.thn.toNat+s.els.toNat)))))):=by
    show _=_
    rw [HF.out,fitB_cons]
   obtain ⟨a2,k2,rfl,-,-,-⟩:=he
   obtain ⟨a3,k3,rfl,-,-,-⟩:=hf
   clear hs hc hall hrest HF
   generalize s.kind=kI at c0 g0
   generalize s.name=nI at c1 g1
   generalize s.thn=tI at c4 g4 HC
   generalize s.els=lI at c5 g5 HC
   generalize (s::r)[0].e.length=n2 at c2 g2
   generalize (s::r)[0].f.length=n3 at c3 g3
   go_wp2_with fail
   go_region
   generalize (if cap=1 then some ({block:=b,off:=off,spot:=none}:Addr) else some {block:=b,off:=off+6,spot:=none})=a1 at HR ⊢
   generalize hk1:cap-1=k1 at HR ⊢
   have hk1':r.length<=k1:=by omega
   have hk2':k1<=9223372036854775807:=by omega
   clear hk1 c0 c1 c2 c3 c4 c5 g0 g1 g2 g3 g4 g5 h1
   have hB1:Bl w (wr.alloc (.cells #[.int .i64 kI,.string nI,.slice a2 n2 k2,.slice a3 n3 k3,.int .i64 tI,.int .i64 lI] 123)).drew:=(hB.alloc hB.size _).drew
   by_cases q1:tI<0
   ·go_wp2_with fail
    go_ret
    exact ⟨ret_bool (by rw [HC.out,decide_eq_false o_];rfl),hB1⟩
   by_cases q2:(r.length:Int)<tI
   ·go_wp2_with fail
    go_ret
    exact ⟨ret_bool (by rw [HC.out,decide_eq_false o_];rfl),hB1⟩
   by_cases q3:lI<0
   ·go_wp2_with fail
    go_ret
    exact ⟨ret_bool (by rw [HC.out,decide_eq_false o_];rfl),hB1⟩
   by_cases q4:(r.length:Int)-tI<lI
   ·go_wp2_with fail
    go_ret
    exact ⟨ret_bool (by rw [HC.out,decide_eq_false o_];rfl),hB1⟩
   obtain ⟨tn,rfl⟩:=Int.eq_ofNat_of_zero_le (show 0<=tI by omega)
   obtain ⟨ln,rfl⟩:=Int.eq_ofNat_of_zero_le (show 0<=lI by omega)
   have hlt:tn<=r.length:=by omega
   have hlt2:tn+ln<=r.length:=by omega
   have HC1:Hid (fitB ss=(fitB (r.take tn) && (fitB ((r.take (tn+ln)).drop tn) && fitB (r.drop (tn+ln))))):=by
    show _=_
    rw [HC.out,decide_eq_true o_];simp
   clear HC
   go_wp2_with fail
   have hbx:Bl wr (wr.alloc (.cells #[.int .i64 kI,.string nI,.slice a2 n2 k2,.slice a3 n3 k3,.int .i64 tn,.int .i64 ln] 123)).drew:=(bel_a _ _).drew
   refine (IH.out _ (r.take tn) _ (by simp;omega) (by simp;omega) ((HR.out.below hbx).head tn o_)).mono ?_
   rintro e w1 ⟨rfl,hb1⟩
   have hb1':Below (wr.heap.size+1) (wr.alloc (.cells #[.int .i64 kI,.string nI,.slice a2 n2 k2,.slice a3 n3 k3,.int .i64 tn,.int .i64 ln] 123)) w1:=((Below.refl _ _).drew).trans (hb1.mono (by simp))
   have hB2:=hB.trans ((one_below hb1').mono hB.size)
   obtain ⟨x0,x1,x2,x3,x4,x5⟩:=box6 hb1'
   clear hbx hb1 hB1
   cases hf1:fitB (r.take tn)
   ·go_wp2_with fail
    go_ret
    exact ⟨ret_bool (by rw [HC1.out,hf1];rfl),hB2⟩
   obtain ⟨a5,k5,hr5,hs5⟩ : ∃a5 k5,(∀w:World,(Instr.slice 62 (.slice a1 r.length k1) (some (.int .i64 tn)) (some (.int .i64 ((tn:Int)+(ln:Int)))) none).run Tryz.prog w = .ok (.slice a5 ln k5) w)/\Stmts wr (.slice a5 ln k5) ((r.take (tn+ln)).drop tn):=by
    have h:=cut_run a1 r.length k1 tn (tn+ln) o_ o_ o_
    have h':=HR.out.cut tn (tn+ln) o_ o_
    rw [show tn+ln-tn=ln by omega] at h h'
    exact ⟨_,_,h,h'⟩
   have HS5:=hide hs5
   clear hs5
   go_wp2_with fail
   have hbw:Bl wr w1:=one_below hb1'
   refine (IH.out _ ((r.take (tn+ln)).drop tn) _ (by simp;omega) (by simp;omega) (HS5.out.below hbw)).mono ?_
   rintro e w2 ⟨rfl,hb2⟩
   have hB3:=hB2.trans (hb2.mono hB2.size)
   have hbw2:=hbw.trans (hb2.mono hbw.size)
   clear x0 x1 x2 x3 x4 x5 hr5
   cases hf2:fitB ((r.take (tn+ln)).drop tn)
   ·go_wp2_with fail
    go_ret
    exact ⟨ret_bool (by rw [HC1.out,hf1,hf2];rfl),hB3⟩
   obtain ⟨a6,k6,hr6,hs6⟩ : ∃a6 k6,(∀w:World,(Instr.slice 62 (.slice a1 r.length k1) (some (.int .i64 ((tn:Int)+(ln:Int)))) none none).run Tryz.prog w = .ok (.slice a6 (r.length-(tn+ln)) k6) w)/\Stmts wr (.slice a6 (r.length-(tn+ln)) k6) (r.drop (tn+ln)):=by
    have h:=cut_run_l a1 r.length k1 (tn+ln) o_ o_ ((tn:Int)+(ln:Int)) o_
    have h':=HR.out.cut (tn+ln) r.length o_ o_
    rw [List.take_length] at h'
    exact ⟨_,_,h,h'⟩
   have HS6:=hide hs6
   clear hs6
   go_wp2_with fail
   go_roundw
   case rel=>exact ⟨r.drop (tn+ln),by simp;omega,HS6.out.below hbw2,by rw [HC1.out,hf1,hf2];rfl,hB3⟩
   case measure=>simp [lenOf];omega
theorem exprs_any (k t l:Int) (nm:ByteArray) (ae af:Option Addr) (ne ce nf cf:Nat) (w:World) :
  Calls Tryz.prog 99 #[.agg #[.int .i64 k,.string nm,.slice ae ne ce,.slice af nf cf,.int .i64 t,.int .i64 l]] w fun e w'=>e = .returned (.agg #[.slice ae ne ce,.slice af nf cf])/\Below w.heap.size w w':=by
 go_enter Tryz.func99,Tryz.ntmps99
 go_wp2_with fail
 exact bodyPost_ret (v:=.agg #[.slice ae ne ce,.slice af nf cf]) (by simp [results,Tryz.results99,go_sem]) rfl ⟨rfl,(bel_a _ _).alloc (by simp) _⟩
theorem idx1 (u v:Value) (W:World):(Instr.index 162 (.agg #[u,v]) (.int .i64 ((1:Nat):Int))).run Tryz.prog W = .ok v W:=by
 simp [Instr.index,go_sem]
theorem idx0 (u v:Value) (W:World):(Instr.index 162 (.agg #[u,v]) (.int .i64 ((0:Nat):Int))).run Tryz.prog W = .ok u W:=by
 simp [Instr.index,go_sem]
def Args (w:World) (S:Nat->Prop) (v:Value) (A:Nat) (vs:Nat->Value):Prop:=∃a cap,v = .slice a A cap/\A<=cap/\cap<=9223372036854775807/\(0<A->∃B,a=some ⟨B,0,none⟩/\S B/\∀i,i<A->w.cell? ⟨B,i,none⟩=some (vs i))
structure TvC (w:World)(S:Nat->Prop)(P:Value→List Nd→Prop):Prop where
 c_::
 num(v:Int):P (.iface 228 (.agg #[.int .i64 v])) [⟨1,v,⟨#[]⟩⟩]
 var(s:ByteArray):P (.iface 230 (.agg #[.string s])) [⟨2,0,s⟩]
 index(s:ByteArray)(x:Value)(r:List Nd):P x r→P (.iface 215 (.agg #[.string s,x])) (r++[⟨3,0,s⟩])
 call(s:ByteArray)(ar:Value)(A:Nat)(vs:Nat->Value)(F:Nat->List Nd):Args w S ar A vs→(∀i,i<A->P (vs i) (F i))→P (.iface 225 (.agg #[.string s,ar])) (joinF F A++[⟨4,A,s⟩])
 inn:P (.iface 232 (.agg #[])) [⟨5,0,⟨#[]⟩⟩]
 un(op:Int)(x:Value)(r:List Nd):P x r→P (.iface 217 (.agg #[.int .i64 op,x])) (r++[⟨6,op,⟨#[]⟩⟩])
 bin(op:Int)(x y:Value)(r t:List Nd):P x r→P y t→P (.iface 219 (.agg #[.int .i64 op,x,y])) (r++t++[⟨7,op,⟨#[]⟩⟩])
 and(x y:Value)(r t:List Nd):P x r→P y t→P (.iface 221 (.agg #[x,y])) (r++t++[⟨8,0,⟨#[]⟩⟩])
 or(x y:Value)(r t:List Nd):P x r→P y t→P (.iface 222 (.agg #[x,y])) (r++t++[⟨9,0,⟨#[]⟩⟩])
structure Tv (w:World)(S:Nat->Prop)(a0:Value)(a1:List Nd):Prop where
 c_::
 out:∀P,TvC w S P→P a0 a1
theorem Tv.C{w:World}{S:Nat->Prop}:TvC w S (Tv w S):=⟨fun v=>⟨fun P h=>h.num v⟩,
 fun s=>⟨fun P h=>h.var s⟩,
 fun s x r q0=>⟨fun P h=>h.index s x r (q0.out P h)⟩,
 fun s ar A vs F q0 q1=>⟨fun P h=>h.call s ar A vs F q0 (fun i o0=>(q1 i o0).out P h)⟩,
 ⟨fun P h=>h.inn⟩,
 fun op x r q0=>⟨fun P h=>h.un op x r (q0.out P h)⟩,
 fun op x y r t q0 q1=>⟨fun P h=>h.bin op x y r t (q0.out P h) (q1.out P h)⟩,
 fun x y r t q0 q1=>⟨fun P h=>h.and x y r t (q0.out P h) (q1.out P h)⟩,
 fun x y r t q0 q1=>⟨fun P h=>h.or x y r t (q0.out P h) (q1.out P h)⟩⟩
abbrev Tv.num {w S}:=(Tv.C:TvC w S _).num
abbrev Tv.var {w S}:=(Tv.C:TvC w S _).var
abbrev Tv.index {w S}:=(Tv.C:TvC w S _).index
abbrev Tv.call {w S}:=(Tv.C:TvC w S _).call
abbrev Tv.inn {w S}:=(Tv.C:TvC w S _).inn
abbrev Tv.un {w S}:=(Tv.C:TvC w S _).un
abbrev Tv.bin {w S}:=(Tv.C:TvC w S _).bin
abbrev Tv.and {w S}:=(Tv.C:TvC w S _).and
abbrev Tv.or {w S}:=(Tv.C:TvC w S _).or
theorem Tv_i{w:World}{S:Nat->Prop}{M:∀(a0:Value)(a1:List Nd),Tv w S a0 a1→Prop}
 (num:∀(v:Int),∀u,M (.iface 228 (.agg #[.int .i64 v])) [⟨1,v,⟨#[]⟩⟩] u)
 (var:∀(s:ByteArray),∀u,M (.iface 230 (.agg #[.string s])) [⟨2,0,s⟩] u)
 (index:∀(s:ByteArray)(x:Value)(r:List Nd),∀q0:Tv w S x r,M x r q0→∀u,M (.iface 215 (.agg #[.string s,x])) (r++[⟨3,0,s⟩]) u)
 (call:∀(s:ByteArray)(ar:Value)(A:Nat)(vs:Nat->Value)(F:Nat->List Nd),Args w S ar A vs→∀q1:∀i,i<A->Tv w S (vs i) (F i),(∀ i (o0 : i<A),M (vs i) (F i) (q1 i o0))→∀u,M (.iface 225 (.agg #[.string s,ar])) (joinF F A++[⟨4,A,s⟩]) u)
 (inn:∀u,M (.iface 232 (.agg #[])) [⟨5,0,⟨#[]⟩⟩] u)
 (un:∀(op:Int)(x:Value)(r:List Nd),∀q0:Tv w S x r,M x r q0→∀u,M (.iface 217 (.agg #[.int .i64 op,x])) (r++[⟨6,op,⟨#[]⟩⟩]) u)
 (bin:∀(op:Int)(x y:Value)(r t:List Nd),∀q0:Tv w S x r,∀q1:Tv w S y t,M x r q0→M y t q1→∀u,M (.iface 219 (.agg #[.int .i64 op,x,y])) (r++t++[⟨7,op,⟨#[]⟩⟩]) u)
 (and:∀(x y:Value)(r t:List Nd),∀q0:Tv w S x r,∀q1:Tv w S y t,M x r q0→M y t q1→∀u,M (.iface 221 (.agg #[x,y])) (r++t++[⟨8,0,⟨#[]⟩⟩]) u)
 (or:∀(x y:Value)(r t:List Nd),∀q0:Tv w S x r,∀q1:Tv w S y t,M x r q0→M y t q1→∀u,M (.iface 222 (.agg #[x,y])) (r++t++[⟨9,0,⟨#[]⟩⟩]) u)
 {a0:Value}{a1:List Nd}(u:Tv w S a0 a1):M a0 a1 u:=
 (u.out (fun a0 a1=>∃z_,M a0 a1 z_) ⟨fun v=>⟨.num v,num v _⟩,
 fun s=>⟨.var s,var s _⟩,
 fun s x r q0=>⟨.index s x r q0.1,index s x r _ q0.2 _⟩,
 fun s ar A vs F q0 q1=>⟨.call s ar A vs F q0 (fun i o0=>(q1 i o0).1),call s ar A vs F q0 _ (fun i o0=>(q1 i o0).2) _⟩,
 ⟨.inn,inn _⟩,
 fun op x r q0=>⟨.un op x r q0.1,un op x r _ q0.2 _⟩,
 fun op x y r t q0 q1=>⟨.bin op x y r t q0.1 q1.1,bin op x y r t _ _ q0.2 q1.2 _⟩,
 fun x y r t q0 q1=>⟨.and x y r t q0.1 q1.1,and x y r t _ _ q0.2 q1.2 _⟩,
 fun x y r t q0 q1=>⟨.or x y r t q0.1 q1.1,or x y r t _ _ q0.2 q1.2 _⟩⟩).2
theorem Args.keep {w w':World} {S S':Nat->Prop} {v:Value} {A:Nat} {vs:Nat->Value} (h:Args w S v A vs) (hS : ∀B,S B->S' B) (hk : ∀B,S B->w'.heap[B]? = w.heap[B]?):Args w' S' v A vs:=by
 obtain ⟨a,cap,rfl,h1,h2,h⟩:=h
 refine ⟨a,cap,rfl,h1,h2,fun h0 => ?_⟩
 obtain ⟨B,rfl,hB,hc⟩:=h h0
 exact ⟨B,rfl,hS B hB,fun i hi=>(World.cell?_of_block (a:=⟨B,i,none⟩) (hk B hB)).trans (hc i hi)⟩
theorem Tv.keep {w w':World} {S S':Nat->Prop} {v:Value} {r:List Nd} (h:Tv w S v r) (hS : ∀B,S B->S' B) (hk : ∀B,S B->w'.heap[B]? = w.heap[B]?):Tv w' S' v r:=by
 induction h using Tv_i with
 | num v=>exact .num v
 | var s=>exact .var s
 | index s x r _ ih=>exact .index s x r ih
 | call s ar A vs F ha _ ih=>exact .call s ar A vs F (ha.keep hS hk) ih
 | inn=>exact .inn
 | un op x r _ ih=>exact .un op x r ih
 | bin op x y r t _ _ ih1 ih2=>exact .bin op x y r t ih1 ih2
 | and x y r t _ _ ih1 ih2=>exact .and x y r t ih1 ih2
 | or x y r t _ _ ih1 ih2=>exact .or x y r t ih1 ih2
theorem Tv.pos {w:World} {S:Nat->Prop} {v:Value} {r:List Nd} (h:Tv w S v r):0<r.length:=by
 cases h using Tv_i <;> simp <;> omega
theorem Tv.isI {w:World} {S:Nat->Prop} {v:Value} {r:List Nd} (h:Tv w S v r) : ∃t x,v = .iface t x:=by
 cases h using Tv_i <;> exact ⟨_,_,rfl⟩
theorem Tv.bel {w w':World} {S:Nat->Prop} {v:Value} {r:List Nd} (h:Tv w S v r) (hS : ∀B,S B->B<w.heap.size) (hb:Below w.heap.size w w'):Tv w' S v r:=h.keep (fun _ h=>h) (fun B hB=>hb.block B (hS B hB))
theorem size0 {s:ByteArray} (h:s.toList = []):s=⟨#[]⟩:=by
 have hl : ∀(n:Nat) (i:Nat) (r:List UInt8),s.size-i=n->ByteArray.toList.loop s i r = []->r = []:=by
  intro n
  induction n with
  | zero=>
   intro i r hi h
   rw [ByteArray.toList.loop,if_neg o_] at h
   simpa using h
  | succ n ih=>
   intro i r hi h
   rw [ByteArray.toList.loop,if_pos o_] at h
   have:=ih (i+1) _ o_ h
   simp at this
 have h0:s.size=0:=by
  rcases Nat.eq_zero_or_pos s.size with h0 | hp
  ·exact h0
  ·rw [ByteArray.toList,ByteArray.toList.loop,if_pos hp] at h
   have:=hl _ _ _ rfl h
   simp at this
 apply ByteArray.ext
 exact Array.eq_empty_of_size_eq_zero h0
theorem node_rest {n:Nd} (h:nodeB n=true):(n.kind=1∨n.kind=5∨n.kind=6∨n.kind=7∨n.kind=8∨n.kind=9->n.name=⟨#[]⟩)/\(n.kind=2∨n.kind=3∨n.kind=5∨n.kind=8∨n.kind=9->n.val=0):=by
 unfold nodeB at h
 refine ⟨fun hk => ?_,fun hk => ?_⟩
 ·apply size0
  rcases hk with hk | hk | hk | hk | hk | hk <;> (simp [hk] at h;exact h.2)
 ·rcases hk with hk | hk | hk | hk | hk <;> (simp [hk] at h;exact h.1)
def nodeV (n:Nd) (ar:Value) (vs:Nat->Value):Value:=
 if n.kind=1 then .iface 228 (.agg #[.int .i64 n.val])
 else if n.kind=2 then .iface 230 (.agg #[.string n.name])
 else if n.kind=3 then .iface 215 (.agg #[.string n.name,vs 0])
 else if n.kind=4 then .iface 225 (.agg #[.string n.name,ar])
 else if n.kind=6 then .iface 217 (.agg #[.int .i64 n.val,vs 0])
 else if n.kind=7 then .iface 219 (.agg #[.int .i64 n.val,vs 0,vs 1])
 else if n.kind=8 then .iface 221 (.agg #[vs 0,vs 1])
 else if n.kind=9 then .iface 222 (.agg #[vs 0,vs 1])
 else .iface 232 (.agg #[])
theorem nodeOf_any (n:Nd) (hn:nodeB n=true) (A:Nat) (hA:arity n=A) (S:Nat->Prop) (ar:Value) (vs:Nat->Value) (w:World) (ha:Args w S ar A vs) (hI : ∀i,i<A->∃t x,vs i = .iface t x) :
  Calls Tryz.prog 104 #[.agg #[.int .i64 n.kind,.int .i64 n.val,.string n.name],ar] w fun e w'=>e = .returned (nodeV n ar vs)/\Below w.heap.size w w':=by
 have hkk:=kind_good hn
 obtain ⟨nk,nv,nm⟩:=n
 obtain ⟨a,cap,rfl,hc1,hc2,hc⟩:=ha
 simp only at hkk ⊢
 have hk:nk=1∨nk=2∨nk=3∨nk=4∨nk=5∨nk=6∨nk=7∨nk=8∨nk=9:=by omega
 have bx : ∀o,Bl w (w.alloc o):=fun o=>(Below.refl _ _).alloc (Nat.le_refl _) o
 rcases hk with rfl | rfl | rfl | rfl | rfl | rfl | rfl | rfl | rfl
 ·go_enter Tryz.func104,Tryz.ntmps104
  go_wp2_with fail
  go_ret
  exact ⟨rfl,bx _⟩
 ·go_enter Tryz.func104,Tryz.ntmps104
  go_wp2_with fail
  go_ret
  exact ⟨rfl,bx _⟩
 ·have e1:A=1:=by simp [arity] at hA;omega
  subst e1
  obtain ⟨B,rfl,-,hcc⟩:=hc o_
  have hlt:=World.block_lt_of_cell? _ _ (hcc 0 o_)
  have q0 : ∀o,(w.alloc o).cell? ⟨B,0,none⟩=some (vs 0):=fun o=>((bx o).cell (p:=⟨B,0,none⟩) hlt).trans (hcc 0 o_)
  obtain ⟨t0,x0,h0⟩:=hI 0 o_
  have HE:Hid (nodeV ⟨3,nv,nm⟩ (.slice (some ⟨B,0,none⟩) 1 cap) vs = .iface 215 (.agg #[.string nm,vs 0])):=rfl
  rw [HE.out]
  rw [h0] at q0 ⊢
  clear hc hcc hI
  go_enter Tryz.func104,Tryz.ntmps104
  go_wp2_with fail
  go_quiet (fail)
  go_wp2_with fail
  go_ret
  exact ⟨rfl,below_drewN (bx _) _⟩
 ·have HE:Hid (nodeV ⟨4,nv,nm⟩ (.slice a A cap) vs = .iface 225 (.agg #[.string nm,.slice a A cap])):=rfl
  rw [HE.out]
  clear hc hI
  go_enter Tryz.func104,Tryz.ntmps104
  go_wp2_with fail
  go_ret
  exact ⟨rfl,bx _⟩
 ·go_enter Tryz.func104,Tryz.ntmps104
  go_wp2_with fail
  go_ret
  exact ⟨rfl,bx _⟩
 ·have e1:A=1:=by simp [arity] at hA;omega
  subst e1
  obtain ⟨B,rfl,-,hcc⟩:=hc o_
  have hlt:=World.block_lt_of_cell? _ _ (hcc 0 o_)
  have q0 : ∀o,(w.alloc o).cell? ⟨B,0,none⟩=some (vs 0):=fun o=>((bx o).cell (p:=⟨B,0,none⟩) hlt).trans (hcc 0 o_)
  obtain ⟨t0,x0,h0⟩:=hI 0 o_
  have HE:Hid (nodeV ⟨6,nv,nm⟩ (.slice (some ⟨B,0,none⟩) 1 cap) vs = .iface 217 (.agg #[.int .i64 nv,vs 0])):=rfl
  rw [HE.out]
  rw [h0] at q0 ⊢
  clear hc hcc hI
  go_enter Tryz.func104,Tryz.ntmps104
  go_wp2_with fail
  go_quiet (fail)
  go_wp2_with fail
  go_ret
  exact ⟨rfl,below_drewN (bx _) _⟩
 all_goals
  have e1:A=2:=by simp [arity] at hA;omega
  subst e1
  obtain ⟨B,rfl,-,hcc⟩:=hc o_
  have hlt:=World.block_lt_of_cell? _ _ (hcc 0 o_)
  have q0 : ∀o,(w.alloc o).cell? ⟨B,0,none⟩=some (vs 0):=fun o=>((bx o).cell (p:=⟨B,0,none⟩) hlt).trans (hcc 0 o_)
  have q1 : ∀o,(w.alloc o).cell? ⟨B,1,none⟩=some (vs 1):=fun o=>((bx o).cell (p:=⟨B,1,none⟩) hlt).trans (hcc 1 o_)
  obtain ⟨t0,x0,h0⟩:=hI 0 o_
  obtain ⟨t1,x1,h1⟩:=hI 1 o_
  clear hc hcc hI
 ·have HE:Hid (nodeV ⟨7,nv,nm⟩ (.slice (some ⟨B,0,none⟩) 2 cap) vs = .iface 219 (.agg #[.int .i64 nv,vs 0,vs 1])):=rfl
  rw [HE.out]
  rw [h0] at q0
  rw [h1] at q1
  rw [h0,h1]
  go_enter Tryz.func104,Tryz.ntmps104
  go_wp2_with fail
  go_quiet (fail)
  go_wp2_with fail
  go_ret
  exact ⟨rfl,below_drewN (bx _) _⟩
 ·have HE:Hid (nodeV ⟨8,nv,nm⟩ (.slice (some ⟨B,0,none⟩) 2 cap) vs = .iface 221 (.agg #[vs 0,vs 1])):=rfl
  rw [HE.out]
  rw [h0] at q0
  rw [h1] at q1
  rw [h0,h1]
  go_enter Tryz.func104,Tryz.ntmps104
  go_wp2_with fail
  go_quiet (fail)
  go_wp2_with fail
  go_ret
  exact ⟨rfl,below_drewN (bx _) _⟩
 ·have HE:Hid (nodeV ⟨9,nv,nm⟩ (.slice (some ⟨B,0,none⟩) 2 cap) vs = .iface 222 (.agg #[vs 0,vs 1])):=rfl
  rw [HE.out]
  rw [h0] at q0
  rw [h1] at q1
  rw [h0,h1]
  go_enter Tryz.func104,Tryz.ntmps104
  go_wp2_with fail
  go_quiet (fail)
  go_wp2_with fail
  go_ret
  exact ⟨rfl,below_drewN (bx _) _⟩
theorem nodeT (n:Nd) (hn:nodeB n=true) (A:Nat) (hA:arity n=A) (w:World) (S:Nat->Prop) (ar:Value) (vs:Nat->Value) (F:Nat->List Nd) (ha:Args w S ar A vs) (hv : ∀i,i<A->Tv w S (vs i) (F i)):Tv w S (nodeV n ar vs) (joinF F A++[n]):=by
 have hkk:=kind_good hn
 obtain ⟨hr1,hr2⟩:=node_rest hn
 obtain ⟨nk,nv,nm⟩:=n
 simp only at hkk hr1 hr2
 have hk:nk=1∨nk=2∨nk=3∨nk=4∨nk=5∨nk=6∨nk=7∨nk=8∨nk=9:=by omega
 rcases hk with rfl | rfl | rfl | rfl | rfl | rfl | rfl | rfl | rfl
 ·obtain rfl:=hr1 o_
  have e1:A=0:=by simp [arity] at hA;omega
  subst e1
  exact .num nv
 ·obtain rfl:=hr2 o_
  have e1:A=0:=by simp [arity] at hA;omega
  subst e1
  exact .var nm
 ·obtain rfl:=hr2 o_
  have e1:A=1:=by simp [arity] at hA;omega
  subst e1
  exact .index nm _ _ (hv 0 o_)
 ·have e1:nv=A:=by simp [arity] at hA;omega
  subst e1
  exact .call nm ar A vs F ha hv
 ·obtain rfl:=hr1 o_
  obtain rfl:=hr2 o_
  have e1:A=0:=by simp [arity] at hA;omega
  subst e1
  exact .inn
 ·obtain rfl:=hr1 o_
  have e1:A=1:=by simp [arity] at hA;omega
  subst e1
  exact .un nv _ _ (hv 0 o_)
 ·obtain rfl:=hr1 o_
  have e1:A=2:=by simp [arity] at hA;omega
  subst e1
  exact .bin nv _ _ _ _ (hv 0 o_) (hv 1 o_)
 ·obtain rfl:=hr1 o_
  obtain rfl:=hr2 o_
  have e1:A=2:=by simp [arity] at hA;omega
  subst e1
  exact .and _ _ _ _ (hv 0 o_) (hv 1 o_)
 ·obtain rfl:=hr1 o_
  obtain rfl:=hr2 o_
  have e1:A=2:=by simp [arity] at hA;omega
  subst e1
  exact .or _ _ _ _ (hv 0 o_) (hv 1 o_)
theorem wholeTo_add (l:List Nd) (d:Int) (hd:0<=d) : ∀(k q:Int),wholeTo l k=some q->wholeTo l (k+d)=some (q+d):=by
 induction l with
 | nil=>intro k q h;simp only [wholeTo,Option.some.injEq] at *;omega
 | cons n r ih=>
  intro k q h
  simp only [wholeTo] at *
  split at h
  ·rename_i hh
   rw [if_pos ⟨hh.1,by omega⟩]
   have:=ih _ _ h
   rw [show k+d+1-arity n=k+1-arity n+d by omega]
   exact this
  ·cases h
theorem one_whole {s:List Nd} (h:oneB s=true):wholeTo s 0=some 1:=by simpa [oneB] using h
theorem wholeTo_segs (T:List (List Nd)) (h : ∀s∈T,oneB s=true) : ∀k:Int,0<=k->wholeTo T.flatten k=some (k+T.length):=by
 induction T with
 | nil=>intro k hk;simp [wholeTo]
 | cons s T ih=>
  intro k hk
  rw [List.flatten_cons,wholeTo_append]
  have h1:=wholeTo_add s k hk 0 1 (one_whole (h s (by simp)))
  rw [show (0:Int)+k=k by omega] at h1
  rw [h1,Option.bind_some,ih (fun s hs=>h s (by simp [hs])) (1+k) o_]
  simp only [l_c,Option.some.injEq]
  omega
theorem push_one (T:List (List Nd)) (n:Nd) (hn:nodeB n=true) (hA:arity n=T.length) (h : ∀s∈T,oneB s=true):oneB (T.flatten++[n])=true:=by
 have:wholeTo (T.flatten++[n]) 0=some 1:=by
  rw [wholeTo_append,wholeTo_segs T h 0 (Int.le_refl _),Option.bind_some]
  simp only [wholeTo]
  rw [if_pos ⟨hn,by omega⟩]
  simp only [Option.some.injEq]
  omega
 simpa [oneB] using this
theorem segs_room {e:List Nd} (he:oneB e=true) {T:List (List Nd)} (h : ∀s∈T,oneB s=true) {k:Nat} (hk:k<e.length) (hT:T.flatten=e.take k):nodeB e[k]=true/\arity e[k]<=T.length:=by
 have h1:=one_whole he
 obtain ⟨p,h2,h3⟩:=whole_take e 0 1 h1 (k+1)
 have h4:=wholeTo_segs T h 0 (Int.le_refl _)
 rw [hT] at h4
 have:=wholeTo_step e k _ hk h4
 rw [h2] at this
 split at this
 ·rename_i hh
  exact ⟨hh.1,by omega⟩
 ·cases this
theorem segs_end {e:List Nd} (he:oneB e=true) {T:List (List Nd)} (h : ∀s∈T,oneB s=true) (hT:T.flatten=e):T = [e]:=by
 have h4:=wholeTo_segs T h 0 (Int.le_refl _)
 rw [hT,one_whole he] at h4
 simp only [Option.some.injEq] at h4
 have h5:T.length=1:=by omega
 obtain ⟨s,rfl⟩:=List.length_eq_one_iff.1 h5
 simp at hT
 rw [hT]
end Go.Proofs.YtnpidjamplmgjaaGreatDoor
