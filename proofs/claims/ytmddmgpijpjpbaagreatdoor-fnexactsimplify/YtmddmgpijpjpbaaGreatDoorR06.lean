import Derived.Test.YtmddmgpijpjpbaaGreatDoorR05
import Derived.RegionTactic
import Derived.ChangeAlike
namespace Go.Proofs.YtmddmgpijpjpbaaGreatDoor
open Go.RowKit
set_option linter.unusedVariables false
set_option linter.unusedSimpArgs false
set_option maxRecDepth 100000
set_option maxHeartbeats 16000000
def fitN:Nat->List St->Bool
 | _,[]=>true
 | 0,_::_=>false
 | n+1,s::r=>decide (0<=s.thn/\s.thn<=r.length/\0<=s.els/\s.els<=r.length-s.thn) && (fitN n (r.take s.thn.toNat) && (fitN n ((r.take (s.thn.toNat+s.els.toNat)).drop s.thn.toNat) && fitN n (r.drop (s.thn.toNat+s.els.toNat))))
def fitB (l:List St):Bool:=fitN l.length l
theorem fitN_any (n m:Nat) (l:List St) (hn:l.length<=n) (hm:l.length<=m):fitN n l=fitN m l:=by
 induction n generalizing m l with
 | zero=>
  have:l = []:=List.eq_nil_of_length_eq_zero (by omega)
  subst this
  cases m <;> rfl
 | succ n ih=>
  cases l with
  | nil=>cases m <;> rfl
  | cons s r=>
   cases m with
   | zero=>simp at hm
   | succ m=>
    simp only [l_c] at hn hm
    simp only [fitN]
    rw [ih m (r.take s.thn.toNat) (by simp;omega) (by simp;omega),ih m ((r.take (s.thn.toNat+s.els.toNat)).drop s.thn.toNat) (by simp;omega) (by simp;omega),ih m (r.drop (s.thn.toNat+s.els.toNat)) (by simp;omega) (by simp;omega)]
theorem fitB_cons (s:St) (r:List St):fitB (s::r)=(decide (0<=s.thn/\s.thn<=r.length/\0<=s.els/\s.els<=r.length-s.thn) && (fitB (r.take s.thn.toNat) && (fitB ((r.take (s.thn.toNat+s.els.toNat)).drop s.thn.toNat) && fitB (r.drop (s.thn.toNat+s.els.toNat))))):=by
 have h:fitB (s::r)=fitN (r.length+1) (s::r):=rfl
 rw [h]
 simp only [fitN]
 rw [fitN_any r.length _ (r.take s.thn.toNat) (by simp;omega) (Nat.le_refl _),fitN_any r.length _ ((r.take (s.thn.toNat+s.els.toNat)).drop s.thn.toNat) (by simp;omega) (Nat.le_refl _),fitN_any r.length _ (r.drop (s.thn.toNat+s.els.toNat)) (by simp) (Nat.le_refl _)]
 rfl
theorem fitB_all (n:Nat) : ∀l:List St,l.length<=n->fitB l=true->∀s∈l,0<=s.thn/\0<=s.els:=by
 induction n with
 | zero=>
  intro l hl _ s hs
  have:l = []:=List.eq_nil_of_length_eq_zero (by omega)
  subst this
  cases hs
 | succ n ih=>
  intro l hl h s hs
  cases l with
  | nil=>cases hs
  | cons t r=>
   simp only [l_c] at hl
   rw [fitB_cons] at h
   simp only [Bool.and_eq_true,decide_eq_true_eq] at h
   obtain ⟨h0,h1,h2,h3⟩:=h
   rcases List.mem_cons.1 hs with rfl | hs
   ·exact ⟨h0.1,h0.2.2.1⟩
   ·have hr:r=r.take t.thn.toNat++((r.take (t.thn.toNat+t.els.toNat)).drop t.thn.toNat++r.drop (t.thn.toNat+t.els.toNat)):=by
     rw [<-List.append_assoc]
     have e:r.take t.thn.toNat++(r.take (t.thn.toNat+t.els.toNat)).drop t.thn.toNat=r.take (t.thn.toNat+t.els.toNat):=by
      have:=List.take_append_drop t.thn.toNat (r.take (t.thn.toNat+t.els.toNat))
      rwa [List.take_take,Nat.min_eq_left (by omega)] at this
     rw [e,List.take_append_drop]
    rw [hr] at hs
    rcases List.mem_append.1 hs with hs | hs
    ·exact ih _ (by simp;omega) h1 s hs
    ·rcases List.mem_append.1 hs with hs | hs
     ·exact ih _ (by simp;omega) h2 s hs
     ·exact ih _ (by simp;omega) h3 s hs
def nodeSum:List St->Nat
 | []=>0
 | s::r=>s.e.length+s.f.length+nodeSum r
theorem nodeSum_append (a b:List St):nodeSum (a++b)=nodeSum a+nodeSum b:=by
 induction a with
 | nil=>simp [nodeSum]
 | cons s r ih=>simp [nodeSum,ih];omega
theorem nodeSum_step (l:List St) (k:Nat) (h:k<l.length):nodeSum (l.take (k+1))=nodeSum (l.take k)+l[k].e.length+l[k].f.length:=by
 rw [take_succ l k h,nodeSum_append];simp [nodeSum];omega
theorem nodeSum_le (l:List St) (k:Nat):nodeSum (l.take k)<=nodeSum l:=by
 have:=nodeSum_append (l.take k) (l.drop k)
 rw [List.take_append_drop] at this
 omega
def stmtsB (p:St->Bool) (l:List St):Bool:=decide (nodeSum l<=2000) && l.all p
theorem stmtsB_sum {p:St->Bool} {l:List St} {k:Nat} (h:2000<nodeSum (l.take k)):stmtsB p l=false:=by
 have:=nodeSum_le l k
 simp only [stmtsB,decide_eq_false (show ¬nodeSum l<=2000 by omega),Bool.false_and]
theorem stmtsB_bad {p:St->Bool} {l:List St} {k:Nat} (hk:k<l.length) (h:p l[k]=false):stmtsB p l=false:=by
 have:l.all p=false:=by
  rw [List.all_eq_false]
  exact ⟨l[k],List.getElem_mem hk,by simp [h]⟩
 simp [stmtsB,this]
theorem stmtsB_ok {p:St->Bool} {l:List St} (h1:nodeSum l<=2000) (h2 : ∀s∈l,p s=true):stmtsB p l=true:=by
 have:l.all p=true:=List.all_eq_true.2 h2
 simp [stmtsB,this,h1]
theorem all_bad {p:ByteArray->Bool} {l:List ByteArray} {k:Nat} (hk:k<l.length) (h:p l[k]=false):l.all p=false:=by
 rw [List.all_eq_false]
 exact ⟨l[k],List.getElem_mem hk,by simp [h]⟩
def funcB (f:Fu):Bool:=nameB f.name && (decide (f.params.length<=6) && (decide (f.body.length<=500) && (f.params.all nameB && (stmtsB stmtB f.body && fitB f.body))))
def gstmtB (s:St):Bool:=stmtB s && decide (0<=s.thn/\0<=s.els)
theorem gstmts_fit (l:List St):(stmtsB gstmtB l && fitB l)=(stmtsB stmtB l && fitB l):=by
 cases h:fitB l
 ·simp
 ·have hn:=fitB_all l.length l (Nat.le_refl _) h
  have:l.all gstmtB=l.all stmtB:=by
   apply Bool.eq_iff_iff.2
   rw [List.all_eq_true,List.all_eq_true]
   constructor
   ·intro h s hs
    have:=h s hs
    simp only [gstmtB,Bool.and_eq_true] at this
    exact this.1
   ·intro h s hs
    simp only [gstmtB,Bool.and_eq_true,decide_eq_true_eq]
    exact ⟨h s hs,hn s hs⟩
  simp only [stmtsB,this]
theorem gstmts_nonneg {l:List St} (h : ∀s∈l,gstmtB s=true) : ∀s∈l,0<=s.thn/\0<=s.els:=by
 intro s hs
 have:=h s hs
 simp only [gstmtB,Bool.and_eq_true,decide_eq_true_eq] at this
 exact this.2
def globB (g:Gl):Bool:=nameB g.name && decide (0<=g.size/\g.size<=4000)
def treeB (t:Tr):Bool:=decide (t.globals.length<=50) && (decide (t.funcs.length<=50) && (t.globals.all globB && t.funcs.all funcB))
theorem allG_bad {l:List Gl} {k:Nat} (hk:k<l.length) (h:globB l[k]=false):l.all globB=false:=by
 rw [List.all_eq_false]
 exact ⟨l[k],List.getElem_mem hk,by simp [h]⟩
theorem allF_bad {l:List Fu} {k:Nat} (hk:k<l.length) (h:funcB l[k]=false):l.all funcB=false:=by
 rw [List.all_eq_false]
 exact ⟨l[k],List.getElem_mem hk,by simp [h]⟩
def smallS (s:St):Prop:=s.e.length<=1048576/\s.f.length<=1048576
def smallF (f:Fu):Prop:=f.params.length<=1048576/\f.body.length<=1048576/\∀s∈f.body,smallS s
def smallT (t:Tr):Prop:=t.globals.length<=1048576/\t.funcs.length<=1048576/\∀f∈t.funcs,smallF f
theorem nameB_empty {s:ByteArray} (h:nameB s=true):(s.toList == [])=false:=by
 have hp:=((nameB_iff s).1 h).1
 have hl:s.toList.length=s.size:=by rw [ByteArray.toList_eq];simp
 cases e:(s.toList == [])
 ·rfl
 ·have e':s.toList = []:=by simpa using e
  rw [e'] at hl
  simp at hl
  omega
theorem run_kind (x y:Int) (z:ByteArray) (w:World):(Instr.field 161 (.agg #[.int .i64 x,.int .i64 y,.string z]) 0).run Tryz.prog w = .ok (.int .i64 x) w:=by kernel_rfl
theorem box6 {w w':World} {t:TypeId} {x0 x1 x2 x3 x4 x5:Value} (h:Below (w.heap.size+1) (w.alloc (.cells #[x0,x1,x2,x3,x4,x5] t)) w') :
  w'.cell? ⟨w.heap.size,0,none⟩=some x0/\w'.cell? ⟨w.heap.size,1,none⟩=some x1/\w'.cell? ⟨w.heap.size,2,none⟩=some x2/\w'.cell? ⟨w.heap.size,3,none⟩=some x3/\w'.cell? ⟨w.heap.size,4,none⟩=some x4/\w'.cell? ⟨w.heap.size,5,none⟩=some x5:=by
 refine ⟨?_,?_,?_,?_,?_,?_⟩ <;> (rw [h.cell (by simp)];simp)
theorem one_below {w w':World} {a:Obj} (h:Below (w.heap.size+1) (w.alloc a) w'):Below w.heap.size w w':=
 (bel_a _ _).trans (h.mono (by omega))
def StmtsC (w:World) (b off:Nat) (ss:List St):Prop:=∀j (h:j<ss.length),∃ve vf,
 (w.cell? ⟨b,off+j*6,none⟩=some (.int .i64 ss[j].kind)/\w.cell? ⟨b,off+j*6+1,none⟩=some (.string ss[j].name)/\w.cell? ⟨b,off+j*6+2,none⟩=some ve/\w.cell? ⟨b,off+j*6+3,none⟩=some vf/\w.cell? ⟨b,off+j*6+4,none⟩=some (.int .i64 ss[j].thn)/\w.cell? ⟨b,off+j*6+5,none⟩=some (.int .i64 ss[j].els))/\Nodes w ve ss[j].e/\Nodes w vf ss[j].f
theorem StmtsC.below {w w':World} {b off:Nat} {ss:List St} (h:StmtsC w b off ss) (hb:Below w.heap.size w w'):StmtsC w' b off ss:=by
 intro j hj
 obtain ⟨ve,vf,⟨c0,c1,c2,c3,c4,c5⟩,he,hf⟩:=h j hj
 have hlt:=World.block_lt_of_cell? _ _ c0
 exact ⟨ve,vf,⟨(hb.cell (p:=⟨b,off+j*6,none⟩) hlt).trans c0,(hb.cell (p:=⟨b,off+j*6+1,none⟩) hlt).trans c1,(hb.cell (p:=⟨b,off+j*6+2,none⟩) hlt).trans c2,(hb.cell (p:=⟨b,off+j*6+3,none⟩) hlt).trans c3,(hb.cell (p:=⟨b,off+j*6+4,none⟩) hlt).trans c4,(hb.cell (p:=⟨b,off+j*6+5,none⟩) hlt).trans c5⟩,he.below hb,hf.below hb⟩
def Stmts (w:World) (v:Value) (ss:List St):Prop:=∃a cap,v = .slice a ss.length cap/\ss.length<=cap/\cap<=9223372036854775807/\(0<ss.length->∃b off,a=some ⟨b,off,none⟩/\StmtsC w b off ss)
theorem Stmts.below {w w':World} {v:Value} {ss:List St} (h:Stmts w v ss) (hb:Below w.heap.size w w'):Stmts w' v ss:=by
 obtain ⟨a,cap,rfl,hl,hm,h⟩:=h
 refine ⟨a,cap,rfl,hl,hm,fun h0 => ?_⟩
 obtain ⟨b,off,rfl,hc⟩:=h h0
 exact ⟨b,off,rfl,hc.below hb⟩
theorem StmtsC.up {w:World} {b off:Nat} {ss:List St} (h:StmtsC w b off ss) (j:Nat) (hj:j<ss.length) : ∃ve vf,((∀o,(w.alloc o).cell? ⟨b,off+j*6,none⟩=some (.int .i64 ss[j].kind))/\(∀o,(w.alloc o).cell? ⟨b,off+j*6+1,none⟩=some (.string ss[j].name))/\(∀o,(w.alloc o).cell? ⟨b,off+j*6+2,none⟩=some ve)/\(∀o,(w.alloc o).cell? ⟨b,off+j*6+3,none⟩=some vf)/\(∀o,(w.alloc o).cell? ⟨b,off+j*6+4,none⟩=some (.int .i64 ss[j].thn))/\(∀o,(w.alloc o).cell? ⟨b,off+j*6+5,none⟩=some (.int .i64 ss[j].els))) /\
  (w.cell? ⟨b,off+j*6,none⟩=some (.int .i64 ss[j].kind)/\w.cell? ⟨b,off+j*6+1,none⟩=some (.string ss[j].name)/\w.cell? ⟨b,off+j*6+2,none⟩=some ve/\w.cell? ⟨b,off+j*6+3,none⟩=some vf/\w.cell? ⟨b,off+j*6+4,none⟩=some (.int .i64 ss[j].thn)/\w.cell? ⟨b,off+j*6+5,none⟩=some (.int .i64 ss[j].els))/\Nodes w ve ss[j].e/\Nodes w vf ss[j].f:=by
 obtain ⟨ve,vf,⟨c0,c1,c2,c3,c4,c5⟩,he,hf⟩:=h j hj
 have hlt:=World.block_lt_of_cell? _ _ c0
 have hb : ∀o,Bl w (w.alloc o):=fun o=>(Below.refl _ _).alloc (Nat.le_refl _) o
 exact ⟨ve,vf,⟨fun o=>((hb o).cell (p:=⟨b,off+j*6,none⟩) hlt).trans c0,fun o=>((hb o).cell (p:=⟨b,off+j*6+1,none⟩) hlt).trans c1,fun o=>((hb o).cell (p:=⟨b,off+j*6+2,none⟩) hlt).trans c2,fun o=>((hb o).cell (p:=⟨b,off+j*6+3,none⟩) hlt).trans c3,fun o=>((hb o).cell (p:=⟨b,off+j*6+4,none⟩) hlt).trans c4,fun o=>((hb o).cell (p:=⟨b,off+j*6+5,none⟩) hlt).trans c5⟩,⟨c0,c1,c2,c3,c4,c5⟩,he,hf⟩
theorem Stmts.cut {w:World} {a:Option Addr} {cap:Nat} {ss:List St} (h:Stmts w (.slice a ss.length cap) ss) (lo hi:Nat) (h1:lo<=hi) (h2:hi<=ss.length) :
  Stmts w (.slice (if cap=lo then a else a.map (·.add (lo*6))) (hi-lo) (cap-lo)) ((ss.take hi).drop lo):=by
 obtain ⟨a',cap',he,hl,hm,h⟩:=h
 simp only [Value.slice.injEq,true_and] at he
 obtain ⟨rfl,rfl⟩:=he
 refine ⟨if cap=lo then a else a.map (·.add (lo*6)),cap-lo,by simp [Nat.min_eq_left h2],by simp [Nat.min_eq_left h2];omega,by omega,fun h0 => ?_⟩
 simp only [List.length_drop,List.length_take,Nat.min_eq_left h2] at h0
 obtain ⟨b,off,rfl,hc⟩:=h (by omega)
 refine ⟨b,off+lo*6,?_,fun j hj => ?_⟩
 ·rw [if_neg (by omega)];simp [Addr.add]
 ·simp only [List.length_drop,List.length_take,Nat.min_eq_left h2] at hj
  obtain ⟨ve,vf,hcc,he,hf⟩:=hc (lo+j) (by omega)
  have e:((ss.take hi).drop lo)[j]'(by simp;omega)=ss[lo+j]'(by omega):=by simp
  rw [e]
  refine ⟨ve,vf,?_,he,hf⟩
  have e1:off+lo*6+j*6=off+(lo+j)*6:=by omega
  rw [e1]
  exact hcc
theorem Stmts.head {w:World} {a:Option Addr} {cap:Nat} {ss:List St} (h:Stmts w (.slice a ss.length cap) ss) (hi:Nat) (h2:hi<=ss.length):Stmts w (.slice a hi cap) (ss.take hi):=by
 have:=h.cut 0 hi (Nat.zero_le _) h2
 have e:(if cap=0 then a else a.map (·.add (0*6)))=a:=by
  split
  ·rfl
  ·cases a <;> simp [Addr.add]
 rw [e] at this
 simpa using this
theorem cut_run (a:Option Addr) (n cap lo hi:Nat) (h1:lo<=hi) (h2:hi<=n) (h3:n<=cap) : ∀w:World,(Instr.slice 83 (.slice a n cap) (some (.int .i64 lo)) (some (.int .i64 ((lo:Int)+((hi-lo:Nat):Int)))) none).run Tryz.prog w = .ok (.slice (if cap=lo then a else a.map (·.add (lo*6))) (hi-lo) (cap-lo)) w:=by
 intro w
 have hz:Tryz.prog.elem 83=117:=by kernel_rfl
 have hs:(sizeOf 117).run Tryz.prog w = .ok 6 w:=by kernel_rfl
 rw [run_slice_lh w 83 a n cap (by rw [hz];exact Tryz.underlying83) .i64 .i64 _ _ (by omega) (by omega) (by omega),hz,hs]
 simp only [Result.andThen,sliced,Int.toNat_natCast]
 have e:(((lo:Int)+((hi-lo:Nat):Int))).toNat=hi:=by omega
 rw [e]
theorem cut_run_l (a:Option Addr) (n cap lo:Nat) (h2:lo<=n) (h3:n<=cap) (l':Int) (hl':l'=lo) : ∀w:World,(Instr.slice 83 (.slice a n cap) (some (.int .i64 l')) none none).run Tryz.prog w = .ok (.slice (if cap=lo then a else a.map (·.add (lo*6))) (n-lo) (cap-lo)) w:=by
 intro w
 subst hl'
 have hz:Tryz.prog.elem 83=117:=by kernel_rfl
 have hs:(sizeOf 117).run Tryz.prog w = .ok 6 w:=by kernel_rfl
 rw [run_slice_l w 83 a n cap (by rw [hz];exact Tryz.underlying83) .i64 _ (by omega) (by omega),hz,hs]
 simp only [Result.andThen,sliced,Int.toNat_natCast]
def lenOf:Value->Nat | .slice _ n _=>n | _=>0
theorem fit_any (n:Nat) : ∀(v:Value) (ss:List St) (w:World) (hn:ss.length<=n) (hl:ss.length<=1048576) (hc:Stmts w v ss),
  Calls Tryz.prog 158 #[v] w fun e w'=>e = .returned (.bool (fitB ss))/\Below w.heap.size w w':=by
 induction n with
 | zero=>
  intro v ss w hn hl hc
  have:ss = []:=List.eq_nil_of_length_eq_zero (by omega)
  subst this
  obtain ⟨a,cap,rfl,hcl,hcm,hc⟩:=hc
  simp only [l_n] at *
  clear hc
  go_enter Tryz.func158,Tryz.ntmps158
  go_wp2_with fail
  refine wp_loop_rounds 1 ?_
  rw [rounds_succ]
  go_wp2_with fail
  go_ret
  exact ⟨rfl,Below.refl _ _⟩
 | succ n ih=>
 intro v ss w hn hl hc
 have IH:=hide ih
 have HN:=hide hc
 obtain ⟨a,cap,rfl,hcl,hcm,hc⟩:=hc
 clear hc ih
 go_enter Tryz.func158,Tryz.ntmps158
 go_wp2_with fail
 go_loopw [0] (fun v wr=>∃ts,ts.length<=ss.length/\Stmts wr v ts/\fitB ss=fitB ts/\Bl w wr) (fun v _=>lenOf v)
 case atStart=>exact ⟨ss,Nat.le_refl _,HN.out,rfl,Below.refl _ _⟩
 case round=>
  obtain ⟨ts,htl,hts,hfit,hB⟩:=hrel
  obtain ⟨a,cap,rfl,hcl,hcm,hc⟩:=hts
  have HF:=hide hfit
  clear hfit
  cases ts with
  | nil=>
   simp only [l_n]
   go_wp2_with fail
   go_ret
   exact ⟨ret_bool HF.out.symm,hB⟩
  | cons s r=>
   obtain ⟨b,off,rfl,hs⟩:=hc (by simp)
   obtain ⟨ve,vf,⟨g0,g1,g2,g3,g4,g5⟩,⟨c0,c1,c2,c3,c4,c5⟩,he,hf⟩:=hs.up 0 (by simp)
   simp only [Nat.zero_mul,Nat.add_zero,List.getElem_cons_zero] at c0 c1 c2 c3 c4 c5 g0 g1 g2 g3 g4 g5
   have hall:Stmts wr (.slice (some ⟨b,off,none⟩) (s::r).length cap) (s::r):=⟨_,_,rfl,hcl,hcm,fun _=>⟨b,off,rfl,hs⟩⟩
   have hrest:Stmts wr (.slice (if cap=1 then some ⟨b,off,none⟩ else some ⟨b,off+6,none⟩) r.length (cap-1)) r:=by
    have:=hall.cut 1 (s::r).length (by simp) (Nat.le_refl _)
    simpa [Addr.add] using this
   simp only [l_c] at *
   have HR:=hide hrest
   have h1:(1:Int)<=(r.length:Int)+1:=by omega
   have HC:Hid (fitB ss=(decide (0<=s.thn/\s.thn<=r.length/\0<=s.els/\s.els<=r.length-s.thn) && (fitB (r.take s.thn.toNat) && (fitB ((r.take (s.thn.toNat+s.els.toNat)).drop s.thn.toNat) && fitB (r.drop (s.thn.toNat+s.els.toNat)))))):=by
    show _=_
    rw [HF.out,fitB_cons]
   obtain ⟨a2,k2,rfl,-,-,-⟩:=he
   obtain ⟨a3,k3,rfl,-,-,-⟩:=hf
   clear hs hc hall hrest HF
   generalize s.kind=kI at c0 g0
   generalize s.name=nI at c1 g1
   generalize s.thn=tI at c4 g4 HC
   generalize s.els=lI at c5 g5 HC
   generalize (s::r)[0].e.length=n2 at c2 g2
   generalize (s::r)[0].f.length=n3 at c3 g3
   go_wp2_with fail
   go_region
   generalize (if cap=1 then some ({block:=b,off:=off,spot:=none}:Addr) else some {block:=b,off:=off+6,spot:=none})=a1 at HR ⊢
   generalize hk1:cap-1=k1 at HR ⊢
   have hk1':r.length<=k1:=by omega
   have hk2':k1<=9223372036854775807:=by omega
   clear hk1 c0 c1 c2 c3 c4 c5 g0 g1 g2 g3 g4 g5 h1
   have hB1:Bl w (wr.alloc (.cells #[.int .i64 kI,.string nI,.slice a2 n2 k2,.slice a3 n3 k3,.int .i64 tI,.int .i64 lI] 117)).drew:=(hB.alloc hB.size _).drew
   by_cases q1:tI<0
   ·go_wp2_with fail
    go_ret
    exact ⟨ret_bool (by rw [HC.out,decide_eq_false (by omega)];rfl),hB1⟩
   by_cases q2:(r.length:Int)<tI
   ·go_wp2_with fail
    go_ret
    exact ⟨ret_bool (by rw [HC.out,decide_eq_false (by omega)];rfl),hB1⟩
   by_cases q3:lI<0
   ·go_wp2_with fail
    go_ret
    exact ⟨ret_bool (by rw [HC.out,decide_eq_false (by omega)];rfl),hB1⟩
   by_cases q4:(r.length:Int)-tI<lI
   ·go_wp2_with fail
    go_ret
    exact ⟨ret_bool (by rw [HC.out,decide_eq_false (by omega)];rfl),hB1⟩
   obtain ⟨tn,rfl⟩:=Int.eq_ofNat_of_zero_le (show 0<=tI by omega)
   obtain ⟨ln,rfl⟩:=Int.eq_ofNat_of_zero_le (show 0<=lI by omega)
   have hlt:tn<=r.length:=by omega
   have hlt2:tn+ln<=r.length:=by omega
   have HC1:Hid (fitB ss=(fitB (r.take tn) && (fitB ((r.take (tn+ln)).drop tn) && fitB (r.drop (tn+ln))))):=by
    show _=_
    rw [HC.out,decide_eq_true (by omega)];simp
   clear HC
   go_wp2_with fail
   have hbx:Bl wr (wr.alloc (.cells #[.int .i64 kI,.string nI,.slice a2 n2 k2,.slice a3 n3 k3,.int .i64 tn,.int .i64 ln] 117)).drew:=(bel_a _ _).drew
   refine (IH.out _ (r.take tn) _ (by simp;omega) (by simp;omega) ((HR.out.below hbx).head tn (by omega))).mono ?_
   rintro e w1 ⟨rfl,hb1⟩
   have hb1':Below (wr.heap.size+1) (wr.alloc (.cells #[.int .i64 kI,.string nI,.slice a2 n2 k2,.slice a3 n3 k3,.int .i64 tn,.int .i64 ln] 117)) w1:=((Below.refl _ _).drew).trans (hb1.mono (by simp))
   have hB2:=hB.trans ((one_below hb1').mono hB.size)
   obtain ⟨x0,x1,x2,x3,x4,x5⟩:=box6 hb1'
   clear hbx hb1 hB1
   cases hf1:fitB (r.take tn)
   ·go_wp2_with fail
    go_ret
    exact ⟨ret_bool (by rw [HC1.out,hf1];rfl),hB2⟩
   obtain ⟨a5,k5,hr5,hs5⟩ : ∃a5 k5,(∀w:World,(Instr.slice 83 (.slice a1 r.length k1) (some (.int .i64 tn)) (some (.int .i64 ((tn:Int)+(ln:Int)))) none).run Tryz.prog w = .ok (.slice a5 ln k5) w)/\Stmts wr (.slice a5 ln k5) ((r.take (tn+ln)).drop tn):=by
    have h:=cut_run a1 r.length k1 tn (tn+ln) (by omega) (by omega) (by omega)
    have h':=HR.out.cut tn (tn+ln) (by omega) (by omega)
    rw [show tn+ln-tn=ln by omega] at h h'
    exact ⟨_,_,h,h'⟩
   have HS5:=hide hs5
   clear hs5
   go_wp2_with fail
   have hbw:Bl wr w1:=one_below hb1'
   refine (IH.out _ ((r.take (tn+ln)).drop tn) _ (by simp;omega) (by simp;omega) (HS5.out.below hbw)).mono ?_
   rintro e w2 ⟨rfl,hb2⟩
   have hB3:=hB2.trans (hb2.mono hB2.size)
   have hbw2:=hbw.trans (hb2.mono hbw.size)
   clear x0 x1 x2 x3 x4 x5 hr5
   cases hf2:fitB ((r.take (tn+ln)).drop tn)
   ·go_wp2_with fail
    go_ret
    exact ⟨ret_bool (by rw [HC1.out,hf1,hf2];rfl),hB3⟩
   obtain ⟨a6,k6,hr6,hs6⟩ : ∃a6 k6,(∀w:World,(Instr.slice 83 (.slice a1 r.length k1) (some (.int .i64 ((tn:Int)+(ln:Int)))) none none).run Tryz.prog w = .ok (.slice a6 (r.length-(tn+ln)) k6) w)/\Stmts wr (.slice a6 (r.length-(tn+ln)) k6) (r.drop (tn+ln)):=by
    have h:=cut_run_l a1 r.length k1 (tn+ln) (by omega) (by omega) ((tn:Int)+(ln:Int)) (by omega)
    have h':=HR.out.cut (tn+ln) r.length (by omega) (by omega)
    rw [List.take_length] at h'
    exact ⟨_,_,h,h'⟩
   have HS6:=hide hs6
   clear hs6
   go_wp2_with fail
   go_roundw
   case rel=>exact ⟨r.drop (tn+ln),by simp;omega,HS6.out.below hbw2,by rw [HC1.out,hf1,hf2];rfl,hB3⟩
   case measure=>simp [lenOf];omega
def NOne (B:Nat) (w:World) (v:Value) (ns:List Nd) (K:List Nat):Prop:=(ns = []/\K = []/\∃a c,v = .slice a 0 c/\c<=9223372036854775807)∨∃g cap,v = .slice (some ⟨g,0,none⟩) ns.length cap/\K = [g]/\ns.length<=cap/\cap<=9223372036854775807/\B<=g/\g<w.heap.size/\NodesC w g 0 ns/\∀j,j<ns.length*3->w.frozen? ⟨g,j,none⟩=false
theorem NFree.one {B:Nat} {w:World} {v:Value} {ns:List Nd} (h:NFree B w v ns) : ∃g,NOne B w v ns [g]/\B<=g/\g<w.heap.size:=by
 obtain ⟨g,cap,e,h1,h2,h3,h4,h5,h6⟩:=h
 exact ⟨g,.inr ⟨g,cap,e,rfl,h1,h2,h3,h4,h5,h6⟩,h3,h4⟩
theorem NOne.nil (B:Nat) (w:World):NOne B w (.slice none 0 0) [] []:=.inl ⟨rfl,rfl,none,0,rfl,by omega⟩
theorem NOne.nodes {B:Nat} {w:World} {v:Value} {ns:List Nd} {K:List Nat} (h:NOne B w v ns K):Nodes w v ns:=by
 rcases h with ⟨rfl,-,a,c,rfl,hc⟩ | ⟨g,cap,rfl,-,h1,h2,_,_,h3,_⟩
 ·exact ⟨a,c,rfl,Nat.zero_le _,hc,fun h=>absurd h (Nat.lt_irrefl _)⟩
 ·exact ⟨_,cap,rfl,h1,h2,fun _=>⟨g,0,rfl,h3⟩⟩
theorem NOne.base {B B':Nat} {w:World} {v:Value} {ns:List Nd} {K:List Nat} (h:NOne B w v ns K) (hb:B'<=B):NOne B' w v ns K:=by
 rcases h with h | ⟨g,cap,h1,h2,h3,h4,h5,h6⟩
 ·exact .inl h
 ·exact .inr ⟨g,cap,h1,h2,h3,h4,Nat.le_trans hb h5,h6⟩
theorem NOne.rng {B:Nat} {w:World} {v:Value} {ns:List Nd} {K:List Nat} (h:NOne B w v ns K) : ∀g∈K,B<=g/\g<w.heap.size:=by
 rcases h with ⟨-,rfl,-⟩ | ⟨g,cap,-,rfl,-,-,h5,h6,-⟩
 ·intro g hg;cases hg
 ·intro x hx
  simp only [List.mem_singleton] at hx
  subst hx
  exact ⟨h5,h6⟩
theorem NOne.keep {B:Nat} {w w':World} {v:Value} {ns:List Nd} {K:List Nat} (h:NOne B w v ns K) (hs:w.heap.size<=w'.heap.size) (hk : ∀g∈K,w'.heap[g]? = w.heap[g]?):NOne B w' v ns K:=by
 rcases h with h | ⟨g,cap,h1,rfl,h3,h4,h5,h6,h7,h8⟩
 ·exact .inl h
 ·have e:=hk g (by simp)
  have hc : ∀o,w'.cell? ⟨g,o,none⟩=w.cell? ⟨g,o,none⟩:=fun o=>World.cell?_of_block (a:=⟨g,o,none⟩) e
  refine .inr ⟨g,cap,h1,rfl,h3,h4,h5,Nat.lt_of_lt_of_le h6 hs,fun j hj => ?_,fun j hj => ?_⟩
  ·obtain ⟨a,b,c⟩:=h7 j hj
   exact ⟨(hc _).trans a,(hc _).trans b,(hc _).trans c⟩
  ·have:w'.frozen? ⟨g,j,none⟩=w.frozen? ⟨g,j,none⟩:=World.frozen?_of_block (a:=⟨g,j,none⟩) e
   exact this.trans (h8 j hj)
structure SV where
 s:St
 ve:Value
 vf:Value
 ke:List Nat
 kf:List Nat
def cellsS (q:SV):List Value:=[.int .i64 q.s.kind,.string q.s.name,q.ve,q.vf,.int .i64 q.s.thn,.int .i64 q.s.els]
def flatS (R:List SV):List Value:=R.flatMap cellsS
def blkS (R:List SV):List Nat:=R.flatMap (fun q=>q.ke++q.kf)
theorem flatS_len (R:List SV):(flatS R).length=R.length*6:=by
 induction R with
 | nil=>rfl
 | cons a r ih=>
  have:(flatS (a::r)).length=6+(flatS r).length:=by simp [flatS,cellsS];omega
  rw [this,ih,l_c]
  omega
theorem flatS_append (a b:List SV):flatS (a++b)=flatS a++flatS b:=by simp [flatS]
theorem blkS_append (a b:List SV):blkS (a++b)=blkS a++blkS b:=by simp [blkS]
theorem flatS_get : ∀(R:List SV) (j i:Nat) (hj:j<R.length),i<6->(flatS R)[j*6+i]? = (cellsS R[j])[i]?
 | x::l,0,i,_,hi=>by
  have:(cellsS x).length=6:=rfl
  show (cellsS x++flatS l)[0*6+i]? = _
  rw [List.getElem?_append_left (by omega)]
  simp
 | x::l,j+1,i,hj,hi=>by
  have h7:(cellsS x).length=6:=rfl
  show (cellsS x++flatS l)[(j+1)*6+i]? = _
  rw [List.getElem?_append_right (by omega)]
  have e:(j+1)*6+i-(cellsS x).length=j*6+i:=by omega
  rw [e,flatS_get l j i (by simpa using hj) hi]
  simp
structure StRow (B:Nat) (w:World) (v:Value) (R:List SV):Prop where
 row:w.ownsRow B 117 6 v R.length (flatS R)
 each : ∀q∈R,NOne B w q.ve q.s.e q.ke/\NOne B w q.vf q.s.f q.kf
 nd:(blkS R).Nodup
 out : ∀g,v.ownBlock=some g->g∉blkS R
theorem StRow.rng {B:Nat} {w:World} {v:Value} {R:List SV} (h:StRow B w v R) : ∀g∈blkS R,B<=g/\g<w.heap.size:=by
 intro g hg
 simp only [blkS,List.mem_flatMap,List.mem_append] at hg
 obtain ⟨q,hq,hg | hg⟩:=hg
 ·exact (h.each q hq).1.rng g hg
 ·exact (h.each q hq).2.rng g hg
theorem StRow.nil (B:Nat) (w:World):StRow B w (.slice none 0 0) []:=⟨World.ownsRow_nil _ _ _ _,fun q hq=>(by cases hq),List.nodup_nil,fun g hg=>(by simp [Value.ownBlock] at hg)⟩
theorem StRow.base {B B':Nat} {w:World} {v:Value} {R:List SV} (h:StRow B w v R) (hb:B'<=B):StRow B' w v R:=by
 refine ⟨?_,fun q hq=>⟨(h.each q hq).1.base hb,(h.each q hq).2.base hb⟩,h.nd,h.out⟩
 obtain ⟨h1,h2⟩:=h.row
 refine ⟨h1,?_⟩
 rcases h2 with h2 | ⟨g,cap,cur,e,h3,h4,h5⟩
 ·exact .inl h2
 ·exact .inr ⟨g,cap,cur,e,Nat.le_trans hb h3,h4,h5⟩
theorem mem_blk {R:List SV} {q:SV} (hq:q∈R):(∀g∈q.ke,g∈blkS R)/\∀g∈q.kf,g∈blkS R:=by
 refine ⟨fun g hg => ?_,fun g hg => ?_⟩
 ·exact List.mem_flatMap.2 ⟨q,hq,List.mem_append.2 (.inl hg)⟩
 ·exact List.mem_flatMap.2 ⟨q,hq,List.mem_append.2 (.inr hg)⟩
theorem StRow.below {B:Nat} {w w':World} {v:Value} {R:List SV} (h:StRow B w v R) (hb:Below w.heap.size w w'):StRow B w' v R:=by
 refine ⟨ownB h.row hb,fun q hq=>⟨(h.each q hq).1.keep hb.size fun g hg=>hb.block g (h.rng g ((mem_blk hq).1 g hg)).2,(h.each q hq).2.keep hb.size fun g hg=>hb.block g (h.rng g ((mem_blk hq).2 g hg)).2⟩,h.nd,h.out⟩
theorem StRow.shape {B:Nat} {w:World} {v:Value} {R:List SV} (h:StRow B w v R) : ∃a c,v = .slice a R.length c:=by
 rcases h.row.2 with ⟨rfl,hz⟩ | ⟨g,cap,cur,rfl,_⟩
 ·exact ⟨none,0,by rw [hz]⟩
 ·exact ⟨_,cap,rfl⟩
theorem StRow.stmts {B:Nat} {w:World} {v:Value} {R:List SV} (h:StRow B w v R):Stmts w v (R.map (·.s)):=by
 have h0:=h.row
 rcases h.row.2 with ⟨rfl,hz⟩ | ⟨g,cap,cur,rfl,h3,h4,h5⟩
 ·exact ⟨none,0,by rw [List.length_map,hz],by rw [List.length_map,hz];exact Nat.le_refl _,by omega,fun h=>by rw [List.length_map] at h;omega⟩
 ·have hc:R.length<=cap/\cap<=9223372036854775807:=by
   obtain ⟨q1,q2,-⟩:=h5
   unfold maxLen at q2
   exact ⟨q1,q2⟩
  refine ⟨some ⟨g,0,none⟩,cap,by rw [List.length_map],by rw [List.length_map];exact hc.1,hc.2,fun hp=>⟨g,0,rfl,fun j hj => ?_⟩⟩
  rw [List.length_map] at hj
  have key : ∀i,i<6->w.cell? ⟨g,0+j*6+i,none⟩=(cellsS R[j])[i]? := fun i hi=>by
   have hl:(flatS R).length=R.length*6:=flatS_len R
   rw [Nat.zero_add,World.ownsRow.cellAt h0 (j*6+i) (by omega),flatS_get R j i hj hi]
  have he:=h.each R[j] (List.getElem_mem hj)
  refine ⟨R[j].ve,R[j].vf,?_,?_,?_⟩
  ·simp only [List.getElem_map]
   exact ⟨key 0 (by omega),key 1 (by omega),key 2 (by omega),key 3 (by omega),key 4 (by omega),key 5 (by omega)⟩
  ·simp only [List.getElem_map];exact he.1.nodes
  ·simp only [List.getElem_map];exact he.2.nodes
end Go.Proofs.YtmddmgpijpjpbaaGreatDoor
