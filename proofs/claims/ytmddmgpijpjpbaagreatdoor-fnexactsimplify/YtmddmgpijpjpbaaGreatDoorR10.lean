import Derived.Test.YtmddmgpijpjpbaaGreatDoorR09
import Derived.Test.YtmddmgpijpjpbaaGreatDoorRows
import Derived.WalkKit
import Derived.WalkSpells
import Derived.RowKit
namespace Go.Proofs.YtmddmgpijpjpbaaGreatDoor
open Go.RowKit
set_option linter.unusedVariables false
set_option linter.unusedSimpArgs false
set_option maxRecDepth 100000
set_option maxHeartbeats 16000000
theorem cut_run2 (a:Option Addr) (n cap lo hi:Nat) (h1:lo<=hi) (h2:hi<=n) (h3:n<=cap) (l' h':Int) (hl':l'=lo) (hh':h'=hi) : ∀w:World,(Instr.slice 83 (.slice a n cap) (some (.int .i64 l')) (some (.int .i64 h')) none).run Tryz.prog w = .ok (.slice (if cap=lo then a else a.map (·.add (lo*6))) (hi-lo) (cap-lo)) w:=by
 intro w
 have h:=cut_run a n cap lo hi h1 h2 h3 w
 rw [show ((lo:Int)+((hi-lo:Nat):Int))=hi by omega] at h
 rw [hl',hh']
 exact h
def nonneg (ss:List St):Prop:=∀s∈ss,0<=s.thn/\0<=s.els
theorem nonneg.take {ss:List St} (h:nonneg ss) (n:Nat):nonneg (ss.take n):=fun s hs=>h s (List.mem_of_mem_take hs)
theorem nonneg.drop {ss:List St} (h:nonneg ss) (n:Nat):nonneg (ss.drop n):=fun s hs=>h s (List.mem_of_mem_drop hs)
theorem shaped_any (n:Nat) : ∀(v:Value) (ss:List St) (w:World) (hn:ss.length<=n) (hl:ss.length<=1048576) (hp:nonneg ss) (hc:Stmts w v ss),
  Calls Tryz.prog 121 #[v] w fun e w'=>e = .returned (.bool (fitB ss))/\Below w.heap.size w w':=by
 induction n with
 | zero=>
  intro v ss w hn hl hp hc
  have:ss = []:=List.eq_nil_of_length_eq_zero (by omega)
  subst this
  obtain ⟨a,cap,rfl,hcl,hcm,hc⟩:=hc
  simp only [l_n] at *
  clear hc hp
  go_enter Tryz.func121,Tryz.ntmps121
  go_wp2_with fail
  refine wp_loop_rounds 1 ?_
  rw [rounds_succ]
  go_wp2_with fail
  go_ret
  exact ⟨rfl,Below.refl _ _⟩
 | succ n ih=>
 intro v ss w hn hl hp hc
 have IH:=hide ih
 have HP:=hide hp
 have HN:=hide hc
 obtain ⟨a,cap,rfl,hcl,hcm,hc⟩:=hc
 have HC:=hide hc
 clear hc ih hp
 go_enter Tryz.func121,Tryz.ntmps121
 go_wp2_with fail
 go_loopw [3] (fun i wr=>∃k:Nat,k<=ss.length/\i = .int .i64 k/\fitB ss=fitB (ss.drop k)/\Bl w wr) (fun i _=>ss.length-(intOf i).toNat)
 case atStart=>exact ⟨0,Nat.zero_le _,rfl,rfl,Below.refl _ _⟩
 case round=>
  obtain ⟨k,hk,rfl,hfit,hB⟩:=hrel
  have HF:=hide hfit
  clear hfit
  by_cases hlt:k<ss.length
  case neg=>
   go_wp2_with fail
   go_ret
   exact ⟨ret_bool (by rw [HF.out,List.drop_of_length_le (by omega)];rfl),hB⟩
  case pos=>
   obtain ⟨b,off,rfl,hs⟩:=HC.out (by omega)
   obtain ⟨ve,vf,⟨c0,c1,c2,c3,c4,c5⟩,he,hf⟩:=(hs.below hB) k hlt
   have HFC:Hid _:=(HF.out.trans (congrArg fitB (List.drop_eq_getElem_cons hlt))).trans (fitB_cons ss[k] (ss.drop (k+1)))
   have hnn:=HP.out ss[k] (List.getElem_mem hlt)
   obtain ⟨a2,k2,rfl,-,-,-⟩:=he
   obtain ⟨a3,k3,rfl,-,-,-⟩:=hf
   clear hs HC HF
   generalize hr:ss.drop (k+1)=r at HFC
   have hrl:r.length+k+1=ss.length:=by rw [<-hr];simp;omega
   generalize ss[k].kind=kI at c0
   generalize ss[k].name=nI at c1
   generalize ss[k].thn=tI at c4 HFC hnn
   generalize ss[k].els=lI at c5 HFC hnn
   generalize ss[k].e.length=n2 at c2
   generalize ss[k].f.length=n3 at c3
   obtain ⟨tn,rfl⟩:=Int.eq_ofNat_of_zero_le hnn.1
   obtain ⟨ln,rfl⟩:=Int.eq_ofNat_of_zero_le hnn.2
   clear hnn
   have HR:=hide hr
   have HRL:=hide hrl
   have hB1:Bl w (wr.alloc (.cells #[.int .i64 kI,.string nI,.slice a2 n2 k2,.slice a3 n3 k3,.int .i64 tn,.int .i64 ln] 117)):=hB.alloc hB.size _
   clear hr
   by_cases q2:(ss.length:Int)-k-1<tn
   ·clear hrl
    go_wp2_with fail
    go_ret
    exact ⟨ret_bool (by have:=HRL.out;rw [HFC.out,decide_eq_false (by omega)];rfl),hB1⟩
   by_cases q4:(ss.length:Int)-k-1-tn<ln
   ·clear hrl
    go_wp2_with fail
    go_ret
    exact ⟨ret_bool (by have:=HRL.out;rw [HFC.out,decide_eq_false (by omega)];rfl),hB1⟩
   have hlt2:k+1+tn+ln<=ss.length:=by omega
   have HC1:Hid (fitB ss=(fitB (r.take tn) && (fitB ((r.take (tn+ln)).drop tn) && fitB (r.drop (tn+ln))))):=by
    show _=_
    rw [HFC.out,decide_eq_true (by omega)];simp
   have HE1:Hid ((ss.take (k+1+tn)).drop (k+1)=r.take tn):=by
    show _=_
    rw [<-HR.out,List.drop_take];congr 1;omega
   have HE2:Hid ((ss.take (k+1+tn+ln)).drop (k+1+tn)=(r.take (tn+ln)).drop tn):=by
    show _=_
    rw [<-HR.out,List.drop_take,List.drop_take,List.drop_drop];congr 1;omega
   have HE3:Hid (ss.drop (k+1+tn+ln)=r.drop (tn+ln)):=by
    show _=_
    rw [<-HR.out,List.drop_drop];congr 1;omega
   obtain ⟨a5,k5,hr5,hs5⟩ : ∃a5 k5,(∀w:World,(Instr.slice 83 (.slice (some ⟨b,off,none⟩) ss.length cap) (some (.int .i64 ((k:Int)+1))) (some (.int .i64 ((k:Int)+1+(tn:Int)))) none).run Tryz.prog w = .ok (.slice a5 tn k5) w)/\Stmts w (.slice a5 tn k5) (r.take tn):=by
    have h:=cut_run2 (some ⟨b,off,none⟩) ss.length cap (k+1) (k+1+tn) (by omega) (by omega) (by omega) ((k:Int)+1) ((k:Int)+1+(tn:Int)) (by omega) (by omega)
    have h':=HN.out.cut (k+1) (k+1+tn) (by omega) (by omega)
    rw [show k+1+tn-(k+1)=tn by omega] at h h'
    rw [HE1.out] at h'
    exact ⟨_,_,h,h'⟩
   have HS5:=hide hs5
   clear hs5 HFC hrl
   go_wp2_with fail
   refine (IH.out _ (r.take tn) _ (by have:=HRL.out;simp;omega) (by have:=HRL.out;simp;omega) (by rw [<-HR.out];exact (HP.out.drop _).take _) (HS5.out.below hB1)).mono ?_
   rintro e w1 ⟨rfl,hb1⟩
   have hb1':Below (wr.heap.size+1) (wr.alloc (.cells #[.int .i64 kI,.string nI,.slice a2 n2 k2,.slice a3 n3 k3,.int .i64 tn,.int .i64 ln] 117)) w1:=hb1.mono (by simp)
   have hB2:=hB.trans ((one_below hb1').mono hB.size)
   obtain ⟨x0,x1,x2,x3,x4,x5⟩:=box6 hb1'
   clear hb1 hr5 HS5
   cases hf1:fitB (r.take tn)
   ·go_wp2_with fail
    go_ret
    exact ⟨ret_bool (by rw [HC1.out,hf1];rfl),hB2⟩
   obtain ⟨a6,k6,hr6,hs6⟩ : ∃a6 k6,(∀w:World,(Instr.slice 83 (.slice (some ⟨b,off,none⟩) ss.length cap) (some (.int .i64 ((k:Int)+1+(tn:Int)))) (some (.int .i64 ((k:Int)+1+(tn:Int)+(ln:Int)))) none).run Tryz.prog w = .ok (.slice a6 ln k6) w)/\Stmts w (.slice a6 ln k6) ((r.take (tn+ln)).drop tn):=by
    have h:=cut_run2 (some ⟨b,off,none⟩) ss.length cap (k+1+tn) (k+1+tn+ln) (by omega) (by omega) (by omega) ((k:Int)+1+(tn:Int)) ((k:Int)+1+(tn:Int)+(ln:Int)) (by omega) (by omega)
    have h':=HN.out.cut (k+1+tn) (k+1+tn+ln) (by omega) (by omega)
    rw [show k+1+tn+ln-(k+1+tn)=ln by omega] at h h'
    rw [HE2.out] at h'
    exact ⟨_,_,h,h'⟩
   have HS6:=hide hs6
   clear hs6
   go_wp2_with fail
   refine (IH.out _ ((r.take (tn+ln)).drop tn) _ (by have:=HRL.out;simp;omega) (by have:=HRL.out;simp;omega) (by rw [<-HR.out];exact ((HP.out.drop _).take _).drop _) (HS6.out.below hB2)).mono ?_
   rintro e w2 ⟨rfl,hb2⟩
   have hb2':=hb1'.trans (hb2.mono (by have:=hb1'.size;simp at this;omega))
   have hB3:=hB.trans ((one_below hb2').mono hB.size)
   clear x0 x1 x2 x3 x4 x5 hr6
   obtain ⟨x0,x1,x2,x3,x4,x5⟩:=box6 hb2'
   cases hf2:fitB ((r.take (tn+ln)).drop tn)
   ·go_wp2_with fail
    go_ret
    exact ⟨ret_bool (by rw [HC1.out,hf1,hf2];rfl),hB3⟩
   go_wp2_with fail
   go_roundw
   case rel=>exact ⟨k+1+tn+ln,by omega,by go_num,by rw [HC1.out,hf1,hf2,HE3.out];rfl,hB3⟩
   case measure=>simp [intOf];omega
def BlockOfC:Prop:=∀(ss:List St) (v:Value) (w:World),Tab w->Stmts w v ss->fitB ss=true->(∀s∈ss,stmtB s=true/\s.e.length<=2000/\s.f.length<=2000)->ss.length<=1000->Calls Tryz.prog 60 #[v] w fun e w'=>∃(u:Value) (S':Nat->Prop),e = .returned u/\Bk w' S' u ss/\(∀B,S' B->w.heap.size<=B/\B<w'.heap.size)/\Below w.heap.size w w'
def lenV:Value->Nat
 | .slice _ n _=>n
 | _=>0
structure BoI (w wr:World) (ss rest:List St) (v:Value) (L:List (Value × List St)) (S:Nat->Prop):Prop where
 row:wr.ownsRow w.heap.size 153 1 v L.length (L.map (·.1))
 bv : ∀q∈L,Bv wr S q.1 q.2
 join:ss=(L.map (·.2)).flatten++rest
 rng : ∀B,S B->w.heap.size<=B/\B<wr.heap.size/\some B≠v.ownBlock
 bel:Below w.heap.size w wr
theorem flat_joinS (L:List (Value × List St)) (d:Value × List St) : ∀k,k<=L.length->joinS (fun i=>(L.getD i d).2) k=((L.take k).map (·.2)).flatten
 | 0,_=>rfl
 | k+1,h=>by
  have hk:k<L.length:=by omega
  simp only [joinS]
  rw [flat_joinS L d k (by omega),List.take_succ_eq_append_getElem hk]
  have eg:L.getD k d=L[k]:=by rw [List.getD_eq_getElem?_getD,List.getElem?_eq_getElem hk];rfl
  simp only [List.map_append,List.map_cons,List.map_nil,List.flatten_append,List.flatten_cons,List.flatten_nil,List.append_nil,eg]
theorem BoI.bk {w wr:World} {ss:List St} {v:Value} {L:List (Value × List St)} {S:Nat->Prop} (h:BoI w wr ss [] v L S) : ∃S':Nat->Prop,Bk wr S' v ss/\∀B,S' B->w.heap.size<=B/\B<wr.heap.size:=by
 have hlt:=fun k hk=>World.ownsRow.lt h.row k hk
 refine ⟨fun B=>S B∨v.ownBlock=some B,⟨L.length,fun i=>(L.getD i (.nilFunc,[])).1,fun i=>(L.getD i (.nilFunc,[])).2,?_,fun i hi => ?_,?_⟩,fun B hB => ?_⟩
 ·have h0:=h.row
  rcases h.row.2 with ⟨hv,hn⟩ | ⟨g,cap,cur,hv,hbg,hg,hnc,hcm,hcs,htake⟩
  ·refine ⟨none,0,by rw [hv,hn],by omega,by omega,fun hp=>by omega⟩
  ·refine ⟨_,cap,hv,hnc,by unfold maxLen at hcm;omega,fun hp=>⟨g,rfl,.inr (by rw [hv];rfl),fun i hi => ?_⟩⟩
   have hj:(L.map (·.1))[i]? = some ((L.getD i (.nilFunc,[])).1):=by
    simp [List.getD_eq_getElem?_getD,List.getElem?_eq_getElem hi]
   have:=World.ownsRow.cells h0 (g:=g) (by rw [hv];rfl) i _ hj
   rw [addrO] at this
   simpa using this
 ·have hm:L.getD i (.nilFunc,[])∈L:=by
   rw [List.getD_eq_getElem?_getD,List.getElem?_eq_getElem hi]
   exact List.getElem_mem hi
  exact (h.bv _ hm).keep (fun B hB=>.inl hB) (fun B _=>rfl)
 ·rw [flat_joinS L _ L.length (Nat.le_refl _),List.take_length]
  have:=h.join
  simpa using this
 ·rcases hB with hB | hB
  ·exact ⟨(h.rng B hB).1,(h.rng B hB).2.1⟩
  ·exact hlt B hB
theorem BoI.next {w wr wc w':World} {ss lst r':List St} {v v' u:Value} {L:List (Value × List St)} {S S2:Nat->Prop} (h:BoI w wr ss (lst++r') v L S) (hb:Below wr.heap.size wr wc) (hu:Bv wc S2 u lst) (hS2 : ∀B,S2 B->wr.heap.size<=B/\B<wc.heap.size)
  (hg:wc.grownBy w' v.ownBlock) (hrow:w'.ownsRow w.heap.size 153 1 v' (L.map (·.1)++[u]).length (L.map (·.1)++[u])) (hf : ∀k,v'.ownBlock=some k->v.ownBlock=some k∨wc.heap.size<=k):BoI w w' ss r' v' (L++[(u,lst)]) (fun B=>S B∨S2 B):=by
 have hlt:=fun k hk=>World.ownsRow.lt h.row k hk
 have k1 : ∀B,S B->w'.heap[B]? = wr.heap[B]? := fun B hB=>by
  obtain ⟨h1,h2,h3⟩:=h.rng B hB
  rw [hg.block B (Nat.lt_of_lt_of_le h2 hb.size) h3,hb.block B h2]
 have hn : ∀B,S2 B->some B≠v.ownBlock:=fun B hB e=>by
  have:=hlt B e.symm
  have:=hS2 B hB
  omega
 have k2 : ∀B,S2 B->w'.heap[B]? = wc.heap[B]? := fun B hB=>hg.block B (hS2 B hB).2 (hn B hB)
 refine ⟨by simpa using hrow,fun q hq => ?_,?_,fun B hB => ?_,?_⟩
 ·rcases List.mem_append.1 hq with hq | hq
  ·exact (h.bv q hq).keep (fun B hB=>.inl hB) k1
  ·simp only [List.mem_cons,List.not_mem_nil,or_false] at hq
   subst hq
   exact hu.keep (fun B hB=>.inr hB) k2
 ·rw [h.join]
  simp
 ·have hwr:=h.bel.size
  rcases hB with hB | hB
  ·obtain ⟨h1,h2,h3⟩:=h.rng B hB
   refine ⟨h1,Nat.lt_of_lt_of_le (Nat.lt_of_lt_of_le h2 hb.size) hg.size,fun e => ?_⟩
   rcases hf B e.symm with h4 | h4
   ·exact h3 h4.symm
   ·have:=hb.size;omega
  ·obtain ⟨h1,h2⟩:=hS2 B hB
   refine ⟨by omega,Nat.lt_of_lt_of_le h2 hg.size,fun e => ?_⟩
   rcases hf B e.symm with h4 | h4
   ·exact hn B hB h4.symm
   ·omega
 ·have hbc:Bl w wc:=h.bel.trans (hb.mono h.bel.size)
  exact hbc.grown hg hbc.size (fun k hk=>(hlt k hk).1)
def flatL (L:List (Value × List St)):List St:=(L.map (·.2)).flatten
theorem flatL_nil:flatL [] = []:=rfl
theorem flatL_cons (q:Value × List St) (L:List (Value × List St)):flatL (q::L)=q.2++flatL L:=by simp [flatL]
theorem flatL_append (L M:List (Value × List St)):flatL (L++M)=flatL L++flatL M:=by simp [flatL]
structure BkL (w:World) (S:Nat->Prop) (v:Value) (L:List (Value × List St)):Prop where
 args:Args w S v L.length (fun i=>(L.getD i (.nilFunc,[])).1)
 bv : ∀q∈L,Bv w S q.1 q.2
theorem BkL.keep {w w':World} {S S':Nat->Prop} {v:Value} {L:List (Value × List St)} (h:BkL w S v L) (hS : ∀B,S B->S' B) (hk : ∀B,S B->w'.heap[B]? = w.heap[B]?):BkL w' S' v L:=
 ⟨h.args.keep hS hk,fun q hq=>(h.bv q hq).keep hS hk⟩
theorem BkL.bel {w w':World} {S:Nat->Prop} {v:Value} {L:List (Value × List St)} (h:BkL w S v L) (hS : ∀B,S B->B<w.heap.size) (hb:Below w.heap.size w w'):BkL w' S v L:=h.keep (fun _ h=>h) (fun B hB=>hb.block B (hS B hB))
theorem getD_at {L:List (Value × List St)} {i:Nat} (hi:i<L.length):L.getD i (.nilFunc,[])=L[i]:=by
 rw [List.getD_eq_getElem?_getD,List.getElem?_eq_getElem hi]
 rfl
theorem BkL.parts {w:World} {S:Nat->Prop} {v:Value} {L:List (Value × List St)} (h:BkL w S v L):Args w S v L.length (fun i=>(L.getD i (.nilFunc,[])).1)/\(∀i,i<L.length->Bv w S (L.getD i (.nilFunc,[])).1 (L.getD i (.nilFunc,[])).2)/\joinS (fun i=>(L.getD i (.nilFunc,[])).2) L.length=flatL L:=by
 refine ⟨h.args,fun i hi => ?_,?_⟩
 ·rw [getD_at hi]
  exact h.bv _ (List.getElem_mem hi)
 ·rw [flat_joinS L _ L.length (Nat.le_refl _),List.take_length]
  rfl
theorem BkL.bk {w:World} {S:Nat->Prop} {v:Value} {L:List (Value × List St)} (h:BkL w S v L):Bk w S v (flatL L):=by
 obtain ⟨h1,h2,h3⟩:=h.parts
 exact ⟨_,_,_,h1,h2,h3.symm⟩
theorem join_flat (vs:Nat->Value) (F:Nat->List St) : ∀A,joinS F A=flatL ((List.range A).map fun i=>(vs i,F i))
 | 0=>rfl
 | A+1=>by
  simp only [joinS]
  rw [join_flat vs F A,List.range_succ,List.map_append,flatL_append]
  simp [flatL]
theorem Args.toL {w:World} {S:Nat->Prop} {v:Value} {A:Nat} {vs:Nat->Value} {F:Nat->List St} (h1:Args w S v A vs) (h2 : ∀i,i<A->Bv w S (vs i) (F i)):BkL w S v ((List.range A).map fun i=>(vs i,F i)):=by
 have hg : ∀i,i<A->(((List.range A).map fun i=>(vs i,F i)).getD i (.nilFunc,[]))=(vs i,F i):=fun i hi=>by
  rw [getD_at (by simpa using hi)]
  simp
 refine ⟨?_,fun q hq => ?_⟩
 ·obtain ⟨a,cap,rfl,g1,g2,g3⟩:=h1
  refine ⟨a,cap,by simp,by simpa using g1,g2,fun h0 => ?_⟩
  have h0':0<A:=by simpa using h0
  obtain ⟨B,rfl,hB,hc⟩:=g3 h0'
  refine ⟨B,rfl,hB,fun i hi => ?_⟩
  have hi':i<A:=by simpa using hi
  show _=some ((((List.range A).map fun i=>(vs i,F i)).getD i (.nilFunc,[])).1)
  rw [hg i hi']
  exact hc i hi'
 ·simp only [List.mem_map,List.mem_range] at hq
  obtain ⟨i,hi,rfl⟩:=hq
  exact h2 i hi
theorem Bk.toL {w:World} {S:Nat->Prop} {v:Value} {ss:List St} (h:Bk w S v ss) : ∃L,BkL w S v L/\ss=flatL L:=by
 obtain ⟨A,vs,F,h1,h2,rfl⟩:=h
 exact ⟨_,h1.toL h2,join_flat vs F A⟩
def isRet:List St->Bool
 | []=>false
 | s::_=>decide (s.kind=6)
theorem One.ret {l:List St} {s:St} {a b:List St} (h:One l s a b):isRet l=decide (s.kind=6):=by
 rw [h.is]
 rfl
def RetLast (L:List (Value × List St)):Prop:=∀i,i+1<L.length->isRet (L.getD i (.nilFunc,[])).2=false
theorem ends_flat : ∀(L:List (Value × List St)),(∀q∈L,∃s a b,One q.2 s a b)->endsB (flatL L)=L.any (fun q=>isRet q.2)
 | [],_=>rfl
 | q::L,h=>by
  obtain ⟨s,a,b,ho⟩:=h q (by simp)
  rw [flatL_cons,ho.ends,List.any_cons,ho.ret,ends_flat L (fun q hq=>h q (by simp [hq]))]
theorem BkL.ones {w:World} {S:Nat->Prop} {v:Value} {L:List (Value × List St)} (h:BkL w S v L) : ∀q∈L,∃s a b,One q.2 s a b:=fun q hq=>(h.bv q hq).one
theorem RetLast.one (q:Value × List St):RetLast [q]:=fun i hi=>by simp at hi
theorem RetLast.nil:RetLast []:=fun i hi=>by simp at hi
theorem RetLast.join {R M:List (Value × List St)} (hR : ∀q∈R,isRet q.2=false) (hM:RetLast M):RetLast (R++M):=by
 intro i hi
 rw [getD_at (by omega)]
 by_cases h:i<R.length
 ·rw [List.getElem_append_left h]
  exact hR _ (List.getElem_mem h)
 ·rw [List.getElem_append_right (by omega)]
  have hi':i-R.length+1<M.length:=by simp at hi;omega
  have:=hM (i-R.length) hi'
  rwa [getD_at (by omega)] at this
theorem Bv.ret_is {w:World} {S:Nat->Prop} {v:Value} {l:List St} (h:Bv w S v l) (hr:isRet l=true) : ∃x,v = .iface 172 (.agg #[x])/\∃t y,x = .iface t y:=by
 cases h using Bv_i with
 | ret s x h1 h2 h3 h4=>exact ⟨x,rfl,h2.isI⟩
 | _=>simp_all [isRet]
theorem Bv.ret_no {w:World} {S:Nat->Prop} {v:Value} {l:List St} (h:Bv w S v l) (hr:isRet l=false) : ∃t x,v = .iface t x/\t≠172:=by
 cases h using Bv_i with
 | ret s x h1 h2 h3 h4=>simp_all [isRet]
 | _=>exact ⟨_,_,rfl,by decide⟩
def Tid (w w':World) (S:Nat->Prop) (u:Value) (ss:List St):Prop:=∃(S':Nat->Prop) (M:List (Value × List St)),BkL w' (fun B=>S B∨S' B) u M/\(∀B,S' B->w.heap.size<=B/\B<w'.heap.size)/\flatL M=ss/\RetLast M
theorem sa_decl_yes (W:World) (v:Value):(Instr.typeAssert (.iface 198 v) 153 198 true).run Tryz.prog W = .ok (.tuple #[v,.bool true]) W:=by kernel_rfl
theorem sa_decl_no (W:World) (u:TypeId) (v:Value) (h:u≠198):(Instr.typeAssert (.iface u v) 153 198 true).run Tryz.prog W = .ok (.tuple #[.agg #[.string ⟨#[]⟩,.nilIface],.bool false]) W:=by
 have e:(Instr.typeAssert (.iface u v) 153 198 true).run Tryz.prog W=(if u=198 then (pure (Value.tuple #[v,.bool true]):Sem Value) else (do pure (Value.tuple #[<-zeroValue 198,.bool false]))).run Tryz.prog W:=by kernel_rfl
 rw [e,if_neg h]
 show _=_;kernel_rfl
theorem sa_set_yes (W:World) (v:Value):(Instr.typeAssert (.iface 199 v) 153 199 true).run Tryz.prog W = .ok (.tuple #[v,.bool true]) W:=by kernel_rfl
theorem sa_set_no (W:World) (u:TypeId) (v:Value) (h:u≠199):(Instr.typeAssert (.iface u v) 153 199 true).run Tryz.prog W = .ok (.tuple #[.agg #[.string ⟨#[]⟩,.nilIface],.bool false]) W:=by
 have e:(Instr.typeAssert (.iface u v) 153 199 true).run Tryz.prog W=(if u=199 then (pure (Value.tuple #[v,.bool true]):Sem Value) else (do pure (Value.tuple #[<-zeroValue 199,.bool false]))).run Tryz.prog W:=by kernel_rfl
 rw [e,if_neg h]
 show _=_;kernel_rfl
theorem sa_store_yes (W:World) (v:Value):(Instr.typeAssert (.iface 201 v) 153 201 true).run Tryz.prog W = .ok (.tuple #[v,.bool true]) W:=by kernel_rfl
theorem sa_store_no (W:World) (u:TypeId) (v:Value) (h:u≠201):(Instr.typeAssert (.iface u v) 153 201 true).run Tryz.prog W = .ok (.tuple #[.agg #[.string ⟨#[]⟩,.nilIface,.nilIface],.bool false]) W:=by
 have e:(Instr.typeAssert (.iface u v) 153 201 true).run Tryz.prog W=(if u=201 then (pure (Value.tuple #[v,.bool true]):Sem Value) else (do pure (Value.tuple #[<-zeroValue 201,.bool false]))).run Tryz.prog W:=by kernel_rfl
 rw [e,if_neg h]
 show _=_;kernel_rfl
theorem sa_if_yes (W:World) (v:Value):(Instr.typeAssert (.iface 203 v) 153 203 true).run Tryz.prog W = .ok (.tuple #[v,.bool true]) W:=by kernel_rfl
theorem sa_if_no (W:World) (u:TypeId) (v:Value) (h:u≠203):(Instr.typeAssert (.iface u v) 153 203 true).run Tryz.prog W = .ok (.tuple #[.agg #[.nilIface,.slice none 0 0,.slice none 0 0],.bool false]) W:=by
 have e:(Instr.typeAssert (.iface u v) 153 203 true).run Tryz.prog W=(if u=203 then (pure (Value.tuple #[v,.bool true]):Sem Value) else (do pure (Value.tuple #[<-zeroValue 203,.bool false]))).run Tryz.prog W:=by kernel_rfl
 rw [e,if_neg h]
 show _=_;kernel_rfl
theorem sa_while_yes (W:World) (v:Value):(Instr.typeAssert (.iface 205 v) 153 205 true).run Tryz.prog W = .ok (.tuple #[v,.bool true]) W:=by kernel_rfl
theorem sa_while_no (W:World) (u:TypeId) (v:Value) (h:u≠205):(Instr.typeAssert (.iface u v) 153 205 true).run Tryz.prog W = .ok (.tuple #[.agg #[.nilIface,.slice none 0 0],.bool false]) W:=by
 have e:(Instr.typeAssert (.iface u v) 153 205 true).run Tryz.prog W=(if u=205 then (pure (Value.tuple #[v,.bool true]):Sem Value) else (do pure (Value.tuple #[<-zeroValue 205,.bool false]))).run Tryz.prog W:=by kernel_rfl
 rw [e,if_neg h]
 show _=_;kernel_rfl
theorem sa_return_yes (W:World) (v:Value):(Instr.typeAssert (.iface 172 v) 153 172 true).run Tryz.prog W = .ok (.tuple #[v,.bool true]) W:=by kernel_rfl
theorem sa_return_no (W:World) (u:TypeId) (v:Value) (h:u≠172):(Instr.typeAssert (.iface u v) 153 172 true).run Tryz.prog W = .ok (.tuple #[.agg #[.nilIface],.bool false]) W:=by
 have e:(Instr.typeAssert (.iface u v) 153 172 true).run Tryz.prog W=(if u=172 then (pure (Value.tuple #[v,.bool true]):Sem Value) else (do pure (Value.tuple #[<-zeroValue 172,.bool false]))).run Tryz.prog W:=by kernel_rfl
 rw [e,if_neg h]
 show _=_;kernel_rfl
theorem sa_out_yes (W:World) (v:Value):(Instr.typeAssert (.iface 206 v) 153 206 true).run Tryz.prog W = .ok (.tuple #[v,.bool true]) W:=by kernel_rfl
theorem sa_out_no (W:World) (u:TypeId) (v:Value) (h:u≠206):(Instr.typeAssert (.iface u v) 153 206 true).run Tryz.prog W = .ok (.tuple #[.agg #[.nilIface],.bool false]) W:=by
 have e:(Instr.typeAssert (.iface u v) 153 206 true).run Tryz.prog W=(if u=206 then (pure (Value.tuple #[v,.bool true]):Sem Value) else (do pure (Value.tuple #[<-zeroValue 206,.bool false]))).run Tryz.prog W:=by kernel_rfl
 rw [e,if_neg h]
 show _=_;kernel_rfl
namespace Ap
theorem w32_bd (a:Int) : -2147483648<=wrap32 a/\wrap32 a<=2147483647:=by unfold wrap32;omega
theorem w32_id (a:Int) (h : -2147483648<=a/\a<=2147483647):wrap32 a=a:=by unfold wrap32;omega
theorem w32_64 (a:Int):wrap32 (wrap64 a)=wrap32 a:=by unfold wrap32 wrap64;omega
theorem ofInt64 (x:Int) (h : -2147483648<=x/\x<=2147483647):BitVec.ofInt 64 x=(BitVec.ofInt 32 x).signExtend 64:=by
 apply BitVec.eq_of_toInt_eq
 rw [BitVec.toInt_signExtend_of_le (by decide),BitVec.toInt_ofInt,BitVec.toInt_ofInt]
 rw [Int.bmod_eq_of_le (by omega) (by omega),Int.bmod_eq_of_le (by omega) (by omega)]
theorem wrap_toNat32 (v:BitVec 32):IntKind.i32.wrap (v.toNat:Int)=v.toInt:=by
 have:=v.isLt
 rw [IntKind.wrap_i32,BitVec.toInt_eq_toNat_cond]
 split <;> omega
theorem wrap_toNat64 (v:BitVec 64):IntKind.i64.wrap (v.toNat:Int)=v.toInt:=by
 have:=v.isLt
 rw [IntKind.wrap_i64,BitVec.toInt_eq_toNat_cond]
 split <;> omega
theorem bits_and (x y:Int) (hx : -2147483648<=x/\x<=2147483647) (hy : -2147483648<=y/\y<=2147483647):bits .and .i64 x y=bits .and .i32 x y:=by
 show IntKind.i64.wrap ((BitVec.ofInt 64 x &&& BitVec.ofInt 64 y).toNat:Int)=IntKind.i32.wrap ((BitVec.ofInt 32 x &&& BitVec.ofInt 32 y).toNat:Int)
 rw [wrap_toNat32,wrap_toNat64,ofInt64 x hx,ofInt64 y hy,<-BitVec.signExtend_and,BitVec.toInt_signExtend_of_le (by decide)]
theorem bits_or (x y:Int) (hx : -2147483648<=x/\x<=2147483647) (hy : -2147483648<=y/\y<=2147483647):bits .or .i64 x y=bits .or .i32 x y:=by
 show IntKind.i64.wrap ((BitVec.ofInt 64 x ||| BitVec.ofInt 64 y).toNat:Int)=IntKind.i32.wrap ((BitVec.ofInt 32 x ||| BitVec.ofInt 32 y).toNat:Int)
 rw [wrap_toNat32,wrap_toNat64,ofInt64 x hx,ofInt64 y hy,<-BitVec.signExtend_or,BitVec.toInt_signExtend_of_le (by decide)]
theorem bits_xor (x y:Int) (hx : -2147483648<=x/\x<=2147483647) (hy : -2147483648<=y/\y<=2147483647):bits .xor .i64 x y=bits .xor .i32 x y:=by
 show IntKind.i64.wrap ((BitVec.ofInt 64 x ^^^ BitVec.ofInt 64 y).toNat:Int)=IntKind.i32.wrap ((BitVec.ofInt 32 x ^^^ BitVec.ofInt 32 y).toNat:Int)
 rw [wrap_toNat32,wrap_toNat64,ofInt64 x hx,ofInt64 y hy,<-BitVec.signExtend_xor,BitVec.toInt_signExtend_of_le (by decide)]
theorem bits_bd (op:BinOp) (x y:Int) : -2147483648<=bits op .i32 x y/\bits op .i32 x y<=2147483647:=by
 unfold bits
 dsimp only
 rw [IntKind.wrap_i32]
 omega
theorem tdiv_bd (x y:Int) (hx : -2147483648<=x/\x<=2147483647) : -2147483648<=x.tdiv y/\x.tdiv y<=2147483648:=by
 have h:(x.tdiv y).natAbs<=x.natAbs:=by rw [Int.natAbs_tdiv];exact Nat.div_le_self _ _
 omega
theorem tmod_bd (x y:Int) (hx : -2147483648<=x/\x<=2147483647) : -2147483648<=x.tmod y/\x.tmod y<=2147483647:=by
 have h:(x.tmod y).natAbs<=x.natAbs:=by rw [Int.natAbs_tmod];exact Nat.mod_le _ _
 rcases Int.le_total 0 x with h0 | h0
 ·have:=Int.tmod_nonneg y h0;omega
 ·obtain ⟨z,rfl⟩ : ∃z,x = -z:=⟨-x,by omega⟩
  rw [Int.neg_tmod] at *
  have:=Int.tmod_nonneg y (show 0<=z by omega);omega
theorem mul_bd (x y:Int) (hx : -2147483648<=x/\x<=2147483647) (hy : -2147483648<=y/\y<=2147483647) : -4611686018427387904<=x*y/\x*y<=4611686018427387904:=by
 have h:(x*y).natAbs<=2147483648*2147483648:=by rw [Int.natAbs_mul];exact Nat.mul_le_mul (by omega) (by omega)
 omega
theorem sh_eq2 (y:Int):(y.tmod 32+32) % 32=y % 32:=by
 rcases Int.le_total 0 y with h | h
 ·rw [Int.tmod_eq_emod_of_nonneg h];omega
 ·obtain ⟨z,rfl⟩ : ∃z,y = -z:=⟨-y,by omega⟩
  rw [Int.neg_tmod,Int.tmod_eq_emod_of_nonneg (by omega)];omega
theorem tmod32_bd (y:Int) : -31<=y.tmod 32/\y.tmod 32<=31:=by
 have h:(y.tmod 32).natAbs<=31:=by rw [Int.natAbs_tmod];have:=Nat.mod_lt y.natAbs (show 0<(32:Int).natAbs by decide);simp at *;omega
 omega
theorem w64_32 (z:Int):wrap64 (wrap32 z)=wrap32 z:=by unfold wrap32 wrap64;omega
theorem tm32 (y:Int):y.tmod 32 % 32=y % 32:=by have:=sh_eq2 y;omega
theorem w64_div (x:Int) (n:Nat) (hx : -2147483648<=x/\x<=2147483647):wrap64 (x / 2 ^ n)=x / 2 ^ n:=by
 have h:=Int.natAbs_ediv_le_natAbs x (2 ^ n)
 unfold wrap64
 omega
theorem ret_intA {k:IntKind} {a b:Int} (h:a=b):Ending.returned (.int k a) = .returned (.int k b):=by rw [h]
end Ap
end Go.Proofs.YtmddmgpijpjpbaaGreatDoor
