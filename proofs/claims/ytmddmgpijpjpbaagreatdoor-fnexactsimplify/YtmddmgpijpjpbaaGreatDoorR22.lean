import Derived.Test.YtmddmgpijpjpbaaGreatDoorR21
import Derived.OwnWalk
import Derived.Laws.OwnMore
namespace Go.Proofs.YtmddmgpijpjpbaaGreatDoor
open Go.RowKit
set_option linter.unusedVariables false
set_option linter.unusedSimpArgs false
set_option maxRecDepth 100000
set_option maxHeartbeats 16000000
theorem szStmts_any (v:Value) (ns:List St) (left:Int) (w:World) (hl:0<=left/\left<=1048576) (hw:wfSs ns) (hc:Stmts w v ns) :
  Calls Tryz.prog 80 #[v,.int .i64 left] w fun e w'=>e = .returned (.int .i64 (szR left (szSs ns)))/\Below w.heap.size w w':=by
 obtain ⟨hw1,hw2⟩:=hw
 have HW:=hide hw2
 obtain ⟨a,cap,rfl,hcl,hcm,hc⟩:=hc
 have HC:=hide hc
 have HZ:Hid (szSs ns=ns.length+sumBy szSt ns):=rfl
 clear hc hw2
 by_cases h0:left<(ns.length:Int)
 ·rw [szR_gt (show left<(szSs ns:Int) by rw [HZ.out];omega)]
  go_enter Tryz.func80,Tryz.ntmps80
  go_wp2_with fail
  go_ret
  exact ⟨rfl,Below.refl _ _⟩
 go_enter Tryz.func80,Tryz.ntmps80
 go_wp2_with fail
 go_loopw [1,5] (fun q i wr=>∃k:Nat,k<=ns.length/\i = .int .i64 k/\q = .int .i64 (left-ns.length-(sumBy szSt (ns.take k):Nat))/\0<=left-ns.length-(sumBy szSt (ns.take k):Nat)/\Bl w wr) (fun _ i _=>ns.length-(intOf i).toNat)
 case atStart=>exact ⟨0,Nat.zero_le _,rfl,by simp [sumBy],by simp [sumBy];omega,Below.refl _ _⟩
 case round=>
  obtain ⟨k,hk,rfl,rfl,hq,hB⟩:=hrel
  by_cases hlt:k<ns.length
  ·obtain ⟨b,off,rfl,hc⟩:=HC.out (by omega)
   obtain ⟨ve,vf,⟨d0,d1,d2,d3,d4,d5⟩,he,hf⟩:=(hc.below hB) k hlt
   have HWS:Hid (wfSt ns[k]):=HW.out ns[k] (List.getElem_mem hlt)
   have HS:Hid _:=sumBy_step szSt ns k hlt
   have HLE:Hid _:=sumBy_le szSt ns (k+1)
   clear hc
   generalize ns[k]=s at d0 d1 d2 d3 d4 d5 he hf HWS HS
   generalize hm:sumBy szSt (ns.take k)=m at hq HS ⊢
   clear hm
   have HNE:=hide he
   have HNF:=hide hf
   obtain ⟨a2,k2,rfl,-,-,-⟩:=he
   obtain ⟨a3,k3,rfl,-,-,-⟩:=hf
   go_wp2_with fail
   refine (szStmt_any s _ _ _ _ ⟨by omega,by omega⟩ HWS.out HNE.out HNF.out).mono ?_
   rintro e w2 ⟨rfl,hb2⟩
   have hB2:=hB.trans (hb2.mono hB.size)
   clear d0 d1 d2 d3 d4 d5
   by_cases h1:left-ns.length-(m:Int)<(szSt s:Int)
   ·have HR:Hid (szR left (szSs ns) = -1):=szR_gt (show left<(szSs ns:Int) by have:=HS.out;have:=HLE.out;rw [HZ.out];omega)
    rw [szR_gt h1]
    go_wp2_with fail
    go_ret
    exact ⟨ret_int HR.out.symm,hB2⟩
   ·rw [szR_le (show (szSt s:Int)<=left-ns.length-(m:Int) by omega)]
    generalize szSt s=z at HS h1 ⊢
    go_wp2_with fail
    go_roundw
    case rel=>exact ⟨k+1,by omega,by go_num,by rw [HS.out];go_num,by rw [HS.out];omega,hB2⟩
    case measure=>simp [intOf];omega
  ·have hE:ns.take k=ns:=List.take_of_length_le (by omega)
   rw [hE] at hq ⊢
   have HR:Hid (szR left (szSs ns)=left-ns.length-(sumBy szSt ns:Nat)):=by
    show _=_
    rw [szR_le (show (szSs ns:Int)<=left by rw [HZ.out];omega),HZ.out];omega
   clear hE
   go_wp2_with fail
   go_ret
   exact ⟨ret_int HR.out.symm,hB⟩
theorem szFunc_any (s:Fu) (ve vf:Value) (left:Int) (w:World) (hl:0<=left/\left<=1048576) (hw:wfFu s) (he:Strs w ve s.params) (hf:Stmts w vf s.body) :
  Calls Tryz.prog 49 #[.agg #[.string s.name,ve,vf],.int .i64 left] w fun e w'=>e = .returned (.int .i64 (szR left (szFu s)))/\Below w.heap.size w w':=by
 obtain ⟨nI,es,fs⟩:=s
 have HWE:Hid (wfPs es):=hw.2.1
 have HWF:Hid (wfSs fs):=hw.2.2
 have hwn:nI.size<=9223372036854775807:=hw.1
 simp only at he hf ⊢
 have HE:=hide he
 have HF:=hide hf
 obtain ⟨ae,ce,rfl,-,-,-⟩:=he
 obtain ⟨af,cf,rfl,-,-,-⟩:=hf
 have HZ:Hid (szFu ⟨nI,es,fs⟩=nI.size+szPs es+szSs fs):=rfl
 generalize szFu ⟨nI,es,fs⟩=zz at HZ ⊢
 clear hw
 by_cases h0:left<(nI.size:Int)
 ·rw [szR_gt (show left<(zz:Int) by rw [HZ.out];omega)]
  go_enter Tryz.func49,Tryz.ntmps49
  go_wp2_with fail
  go_ret
  exact ⟨rfl,(Below.refl _ _).alloc (Nat.le_refl _) _⟩
 go_enter Tryz.func49,Tryz.ntmps49
 go_wp2_with fail
 refine (szStrs_any _ es _ _ ⟨by omega,by omega⟩ HWE.out (HE.out.below (bel_a _ _))).mono ?_
 rintro e w1 ⟨rfl,hb1⟩
 simp only [World.size_alloc] at hb1
 obtain ⟨x0,x1,x2⟩:=box3 hb1
 have hB1:=one_below hb1
 by_cases h1:left-nI.size<(szPs es:Int)
 ·have HR:Hid (szR left zz = -1):=szR_gt (show left<(zz:Int) by rw [HZ.out];omega)
  rw [szR_gt h1]
  go_wp2_with fail
  go_ret
  exact ⟨ret_int HR.out.symm,hB1⟩
 rw [szR_le (show (szPs es:Int)<=left-nI.size by omega)]
 generalize szPs es=ze at HZ h1 ⊢
 go_wp2_with fail
 refine (szStmts_any _ fs _ _ ⟨by omega,by omega⟩ HWF.out (HF.out.below hB1)).mono ?_
 rintro e w2 ⟨rfl,hb2⟩
 have hB2:=hB1.trans (hb2.mono hB1.size)
 clear x0 x1 x2
 by_cases h2:left-nI.size-ze<(szSs fs:Int)
 ·have HR:Hid (szR left zz = -1):=szR_gt (show left<(zz:Int) by rw [HZ.out];omega)
  rw [szR_gt h2]
  go_wp2_with fail
  go_ret
  exact ⟨ret_int HR.out.symm,hB2⟩
 have HR:Hid (left-nI.size-ze-(szSs fs:Nat)=szR left zz):=by
  show _=_
  rw [szR_le (show (zz:Int)<=left by rw [HZ.out];omega),HZ.out];omega
 rw [szR_le (show (szSs fs:Int)<=left-nI.size-ze by omega)]
 generalize szSs fs=zf at HZ HR h2 ⊢
 go_wp2_with fail
 go_ret
 exact ⟨ret_int HR.out,hB2⟩
theorem szFuncs_any (v:Value) (ns:List Fu) (left:Int) (w:World) (hl:0<=left/\left<=1048576) (hw:wfFs ns) (hc:Funcs w v ns) :
  Calls Tryz.prog 21 #[v,.int .i64 left] w fun e w'=>e = .returned (.int .i64 (szR left (szFs ns)))/\Below w.heap.size w w':=by
 obtain ⟨hw1,hw2⟩:=hw
 have HW:=hide hw2
 obtain ⟨a,cap,rfl,hcl,hcm,hc⟩:=hc
 have HC:=hide hc
 have HZ:Hid (szFs ns=ns.length+sumBy szFu ns):=rfl
 clear hc hw2
 by_cases h0:left<(ns.length:Int)
 ·rw [szR_gt (show left<(szFs ns:Int) by rw [HZ.out];omega)]
  go_enter Tryz.func21,Tryz.ntmps21
  go_wp2_with fail
  go_ret
  exact ⟨rfl,Below.refl _ _⟩
 go_enter Tryz.func21,Tryz.ntmps21
 go_wp2_with fail
 go_loopw [1,5] (fun q i wr=>∃k:Nat,k<=ns.length/\i = .int .i64 k/\q = .int .i64 (left-ns.length-(sumBy szFu (ns.take k):Nat))/\0<=left-ns.length-(sumBy szFu (ns.take k):Nat)/\Bl w wr) (fun _ i _=>ns.length-(intOf i).toNat)
 case atStart=>exact ⟨0,Nat.zero_le _,rfl,by simp [sumBy],by simp [sumBy];omega,Below.refl _ _⟩
 case round=>
  obtain ⟨k,hk,rfl,rfl,hq,hB⟩:=hrel
  by_cases hlt:k<ns.length
  ·obtain ⟨b,off,rfl,hc⟩:=HC.out (by omega)
   obtain ⟨vp,vb,⟨d0,d1,d2⟩,hp,hb⟩:=(hc.below hB) k hlt
   have HWS:Hid (wfFu ns[k]):=HW.out ns[k] (List.getElem_mem hlt)
   have HS:Hid _:=sumBy_step szFu ns k hlt
   have HLE:Hid _:=sumBy_le szFu ns (k+1)
   clear hc
   generalize ns[k]=s at d0 d1 d2 hp hb HWS HS
   generalize hm:sumBy szFu (ns.take k)=m at hq HS ⊢
   clear hm
   have HNE:=hide hp
   have HNF:=hide hb
   obtain ⟨a2,k2,rfl,-,-,-⟩:=hp
   obtain ⟨a3,k3,rfl,-,-,-⟩:=hb
   go_wp2_with fail
   refine (szFunc_any s _ _ _ _ ⟨by omega,by omega⟩ HWS.out HNE.out HNF.out).mono ?_
   rintro e w2 ⟨rfl,hb2⟩
   have hB2:=hB.trans (hb2.mono hB.size)
   clear d0 d1 d2
   by_cases h1:left-ns.length-(m:Int)<(szFu s:Int)
   ·have HR:Hid (szR left (szFs ns) = -1):=szR_gt (show left<(szFs ns:Int) by have:=HS.out;have:=HLE.out;rw [HZ.out];omega)
    rw [szR_gt h1]
    go_wp2_with fail
    go_ret
    exact ⟨ret_int HR.out.symm,hB2⟩
   ·rw [szR_le (show (szFu s:Int)<=left-ns.length-(m:Int) by omega)]
    generalize szFu s=z at HS h1 ⊢
    go_wp2_with fail
    go_roundw
    case rel=>exact ⟨k+1,by omega,by go_num,by rw [HS.out];go_num,by rw [HS.out];omega,hB2⟩
    case measure=>simp [intOf];omega
  ·have hE:ns.take k=ns:=List.take_of_length_le (by omega)
   rw [hE] at hq ⊢
   have HR:Hid (szR left (szFs ns)=left-ns.length-(sumBy szFu ns:Nat)):=by
    show _=_
    rw [szR_le (show (szFs ns:Int)<=left by rw [HZ.out];omega),HZ.out];omega
   clear hE
   go_wp2_with fail
   go_ret
   exact ⟨ret_int HR.out.symm,hB⟩
theorem szTree_any (t:Tr) (vg vf:Value) (left:Int) (w:World) (hl:0<=left/\left<=1048576) (hw:wfT t) (hg:Globs w vg t.globals) (hf:Funcs w vf t.funcs) :
  Calls Tryz.prog 5 #[.agg #[vg,vf],.int .i64 left] w fun e w'=>e = .returned (.int .i64 (szR left (szT t)))/\Below w.heap.size w w':=by
 obtain ⟨gs,fs⟩:=t
 have HWE:Hid (wfGs gs):=hw.1
 have HWF:Hid (wfFs fs):=hw.2
 simp only at hg hf ⊢
 have HE:=hide hg
 have HF:=hide hf
 obtain ⟨ae,ce,rfl,-,-,-⟩:=hg
 obtain ⟨af,cf,rfl,-,-,-⟩:=hf
 have HZ:Hid (szT ⟨gs,fs⟩=szGs gs+szFs fs):=rfl
 generalize szT ⟨gs,fs⟩=zz at HZ ⊢
 clear hw
 go_enter Tryz.func5,Tryz.ntmps5
 go_wp2_with fail
 refine (szGlobs_any _ gs _ _ ⟨by omega,by omega⟩ HWE.out (HE.out.below (bel_a _ _))).mono ?_
 rintro e w1 ⟨rfl,hb1⟩
 simp only [World.size_alloc] at hb1
 obtain ⟨x0,x1⟩:=box2 hb1
 have hB1:=one_below hb1
 by_cases h1:left<(szGs gs:Int)
 ·have HR:Hid (szR left zz = -1):=szR_gt (show left<(zz:Int) by rw [HZ.out];omega)
  rw [szR_gt h1]
  go_wp2_with fail
  go_ret
  exact ⟨ret_int HR.out.symm,hB1⟩
 rw [szR_le (show (szGs gs:Int)<=left by omega)]
 generalize szGs gs=ze at HZ h1 ⊢
 go_wp2_with fail
 refine (szFuncs_any _ fs _ _ ⟨by omega,by omega⟩ HWF.out (HF.out.below hB1)).mono ?_
 rintro e w2 ⟨rfl,hb2⟩
 have hB2:=hB1.trans (hb2.mono hB1.size)
 clear x0 x1
 by_cases h2:left-ze<(szFs fs:Int)
 ·have HR:Hid (szR left zz = -1):=szR_gt (show left<(zz:Int) by rw [HZ.out];omega)
  rw [szR_gt h2]
  go_wp2_with fail
  go_ret
  exact ⟨ret_int HR.out.symm,hB2⟩
 have HR:Hid (left-ze-(szFs fs:Nat)=szR left zz):=by
  show _=_
  rw [szR_le (show (zz:Int)<=left by rw [HZ.out];omega),HZ.out];omega
 rw [szR_le (show (szFs fs:Int)<=left-ze by omega)]
 generalize szFs fs=zf at HZ HR h2 ⊢
 go_wp2_with fail
 go_ret
 exact ⟨ret_int HR.out,hB2⟩
theorem owns_below {w w':World} {base e size n cap g:Nat} {xs:List Value} (h:w.ownsRow base e size (.slice (some ⟨g,0,none⟩) n cap) n xs) (hb:Below w.heap.size w w'):w'.ownsRow base e size (.slice (some ⟨g,0,none⟩) n cap) n xs:=by
 refine ⟨h.1,?_⟩
 rcases h.2 with hn | ⟨g',cap',cur,he,hB,hg,rest⟩
 ·exact .inl hn
 ·refine .inr ⟨g',cap',cur,he,hB,?_,rest⟩
  rw [hb.block g' (Array.getElem?_eq_some_iff.1 hg).1]
  exact hg
def putAt (xs:List Value) (i:Nat):List Value->List Value
 | []=>xs
 | u::r=>putAt (xs.set i u) (i+1) r
def setMany (w:World) (g i:Nat):List Value->World
 | []=>w
 | u::r=>setMany (w.setCell ⟨g,i,none⟩ u) g (i+1) r
theorem putAt_get (us:List Value) : ∀xs i j,i+us.length<=xs.length->(putAt xs i us)[j]? = if i<=j/\j<i+us.length then us[j-i]? else xs[j]? := by
 induction us with
 | nil=>intro xs i j h;simp [putAt];intro h1 h2;omega
 | cons u r ih=>
  intro xs i j h
  simp only [l_c] at h
  simp only [putAt,l_c]
  rw [ih _ _ _ (by simp;omega)]
  by_cases h1:i+1<=j/\j<i+1+r.length
  ·rw [if_pos h1,if_pos (by omega),show j-i=(j-(i+1))+1 by omega,List.getElem?_cons_succ]
  ·rw [if_neg h1]
   by_cases h2:j=i
   ·subst h2
    rw [if_pos (by omega),List.getElem?_set_self (by omega)]
    simp
   ·rw [if_neg (by omega),List.getElem?_set_ne (by omega)]
theorem owns_put {base e size n cap g:Nat} (us:List Value) : ∀(w:World) (xs:List Value) (i:Nat),w.ownsRow base e size (.slice (some ⟨g,0,none⟩) n cap) n xs->(setMany w g i us).ownsRow base e size (.slice (some ⟨g,0,none⟩) n cap) n (putAt xs i us):=by
 induction us with
 | nil=>intro w xs i h;exact h
 | cons u r ih=>intro w xs i h;exact ih _ _ _ (h.stored i u).1
theorem below_put {B:Nat} {a:World} {g:Nat} (hg:B<=g) (us:List Value) : ∀(w:World) (i:Nat),Below B a w->Below B a (setMany w g i us):=by
 induction us with
 | nil=>intro w i h;exact h
 | cons u r ih=>intro w i h;exact ih _ _ (h.setCell hg u)
def RowIs (enc:Nat->List Value) (m k:Nat) (xs:List Value):Prop:=∀j,j<k->∀i,i<m->xs[j*m+i]? = (enc j)[i]?
theorem RowIs.step {enc enc':Nat->List Value} {m k:Nat} {xs us:List Value} (h:RowIs enc m k xs) (he : ∀j,j<k->enc' j=enc j) (hk:enc' k=us) (hu:us.length=m) (hl:(k+1)*m<=xs.length):RowIs enc' m (k+1) (putAt xs (k*m) us):=by
 intro j hj i hi
 have e1:(k+1)*m=k*m+m:=by rw [Nat.add_mul,Nat.one_mul]
 rw [putAt_get us xs (k*m) (j*m+i) (by omega)]
 by_cases hjk:j=k
 ·subst hjk
  rw [if_pos (by omega),show j*m+i-j*m=i by omega,hk]
 ·have hlt:j<k:=by omega
  have:j*m+m<=k*m:=by
   have:=Nat.mul_le_mul_right m (show j+1<=k by omega)
   rw [Nat.add_mul,Nat.one_mul] at this
   exact this
  rw [if_neg (by omega),h j hlt i hi,he j hlt]
theorem RowIs.zero (enc:Nat->List Value) (m:Nat) (xs:List Value):RowIs enc m 0 xs:=fun j hj=>absurd hj (Nat.not_lt_zero _)
theorem own_old {w:World} {base e size n cap g:Nat} {xs:List Value} (h:w.ownsRow base e size (.slice (some ⟨g,0,none⟩) n cap) n xs) (j:Nat) (hj:j<n*size):(∃y,w.cell? ⟨g,j,none⟩=some y)/\w.frozen? ⟨g,j,none⟩=false:=by
 have hlen:=h.1
 exact ⟨⟨xs[j]'(by omega),by rw [h.cellAt j (by omega)];simp⟩,h.frozenAt j⟩
def encN (n:Nd):List Value:=[.int .i64 n.kind,.int .i64 n.val,.string n.name]
theorem inf_node:(Tryz.prog.info? 161).map (fun i=>(i.zero,i.size,i.bytes))=some (some (.agg #[.int .i64 0,.int .i64 0,.string ⟨#[]⟩]),3,32):=by kernel_rfl
theorem toNode_any (n:Nd) (w:World):Calls Tryz.prog 179 #[.agg #[.int .i64 n.kind,.int .i64 n.val,.string n.name]] w fun e w'=>e = .returned (.agg #[.int .i64 n.kind,.int .i64 n.val,.string n.name])/\Below w.heap.size w w':=by
 obtain ⟨k,v,s⟩:=n
 simp only
 go_enter Tryz.func179,Tryz.ntmps179
 go_wp2_with fail
 exact bodyPost_ret (v:=.agg #[.int .i64 k,.int .i64 v,.string s]) (by simp [results,Tryz.results179,go_sem]) rfl ⟨rfl,((bel_a _ _).alloc (by simp) _).alloc (by simp;omega) _⟩
def NodesO (B:Nat) (w:World) (v:Value) (ns:List Nd):Prop:=∃g xs,v = .slice (some ⟨g,0,none⟩) ns.length ns.length/\w.ownsRow B 161 3 v ns.length xs/\RowIs (fun j=>encN (ns.getD j ⟨0,0,⟨#[]⟩⟩)) 3 ns.length xs
theorem NodesO.nodes {B:Nat} {w:World} {v:Value} {ns:List Nd} (h:NodesO B w v ns) (hm:ns.length<=9223372036854775807):Nodes w v ns:=by
 obtain ⟨g,xs,rfl,ho,hx⟩:=h
 refine ⟨_,_,rfl,Nat.le_refl _,hm,fun h0=>⟨g,0,rfl,fun j hj => ?_⟩⟩
 have hl:=ho.1
 have key : ∀i,i<3->w.cell? ⟨g,0+j*3+i,none⟩=(encN ns[j])[i]? := fun i hi=>by
  rw [Nat.zero_add,ho.cellAt (j*3+i) (by omega),hx j hj i hi]
  simp [List.getD,hj]
 exact ⟨key 0 (by omega),key 1 (by omega),key 2 (by omega)⟩
theorem NodesO.below {B:Nat} {w w':World} {v:Value} {ns:List Nd} (h:NodesO B w v ns) (hb:Below w.heap.size w w'):NodesO B w' v ns:=by
 obtain ⟨g,xs,rfl,ho,hx⟩:=h
 exact ⟨g,xs,rfl,owns_below ho hb,hx⟩
theorem toNodes_any (v:Value) (ns:List Nd) (w:World) (hl:ns.length<=1048576) (hc:Nodes w v ns) :
  Calls Tryz.prog 155 #[v] w fun e w'=>∃v',e = .returned v'/\NodesO w.heap.size w' v' ns/\Below w.heap.size w w':=by
 obtain ⟨a,cap,rfl,hcl,hcm,hc⟩:=hc
 have HC:=hide hc
 clear hc
 obtain ⟨i0,hi,hz0,hz1,hz2⟩:=info_parts inf_node
 go_enter Tryz.func155,Tryz.ntmps155
 go_wp2_with (at_make;refine wpList_make_full _ rfl _ _ 115 rfl w.heap.size 161 i0 (.agg #[.int .i64 0,.int .i64 0,.string ⟨#[]⟩]) 3 Tryz.underlying115 hi hz0 hz1 _ _ _ _ ns.length rfl rfl (by omega) (by omega) ?_ ?_ (Nat.le_refl _) ?_)
 ·rw [hz2];omega
 ·unfold maxLen;omega
 intro w1 hown1 hgrow1
 have hnx1:Bl w w1:=(Below.refl _ _).grown hgrow1 (Nat.le_refl _) (by simp)
 go_wp2_with fail
 go_loopw [4] (fun i wr=>∃(k:Nat) (xs:List Value),k<=ns.length/\i = .int .i64 k/\wr.ownsRow w.heap.size 161 3 (.slice (some ⟨w.heap.size,0,none⟩) ns.length ns.length) ns.length xs/\RowIs (fun j=>encN (ns.getD j ⟨0,0,⟨#[]⟩⟩)) 3 k xs/\Bl w wr)
  (fun i _=>ns.length-(intOf i).toNat)
 case atStart=>exact ⟨0,_,Nat.zero_le _,rfl,hown1,RowIs.zero _ _ _,hnx1⟩
 case round=>
  obtain ⟨k,xs,hk,rfl,hown,hxs,hB⟩:=hrel
  clear hown1 hgrow1 hnx1
  have HX:=hide hxs
  clear hxs
  by_cases hlt:k<ns.length
  ·obtain ⟨b,off,rfl,hc⟩:=HC.out (by omega)
   obtain ⟨d0,d1,d2⟩:=(hc.below hB) k hlt
   have HN:Hid (encN (ns.getD k ⟨0,0,⟨#[]⟩⟩)=encN ns[k]):=by show _=_;simp [List.getD,hlt]
   clear hc
   generalize ns[k]=n at d0 d1 d2 HN
   have HO:=hide hown
   clear hown
   go_wp2_with fail
   refine (toNode_any n _).mono ?_
   rintro e w2 ⟨rfl,hb2⟩
   have hown2:=owns_below HO.out hb2
   obtain ⟨⟨y0,o0⟩,f0⟩:=own_old hown2 (k*3) (by omega)
   obtain ⟨⟨y1,o1⟩,f1⟩:=own_old hown2 (k*3+1) (by omega)
   obtain ⟨⟨y2,o2⟩,f2⟩:=own_old hown2 (k*3+2) (by omega)
   have hB2:=hB.trans (hb2.mono hB.size)
   have HR:Hid _:=owns_put (encN n) w2 xs (k*3) hown2
   have HL:Hid (xs.length=ns.length*3):=hown2.1
   have HB3:Hid _:=below_put (Nat.le_refl _) (encN n) w2 (k*3) hB2
   clear hown2 d0 d1 d2
   go_wp2_with fail
   go_roundw
   case rel=>exact ⟨k+1,_,by omega,by go_num,HR.out,HX.out.step (fun _ _=>rfl) HN.out rfl (by have:=HL.out;omega),HB3.out⟩
   case measure=>simp [intOf];omega
  ·have HO:=hide hown
   clear hown
   have hk':k=ns.length:=by omega
   have HK:=hide hk'
   clear hk'
   go_wp2_with fail
   go_ret
   exact ⟨_,rfl,⟨w.heap.size,xs,rfl,HO.out,by rw [<-HK.out];exact HX.out⟩,hB⟩
def Keep (B:Nat) (w w':World):Prop:=∀k,B<=k->k<w.heap.size->w'.heap[k]? = w.heap[k]?
theorem Keep.of_below {B:Nat} {w w':World} (h:Below w.heap.size w w'):Keep B w w':=fun k _ hk=>h.block k hk
theorem setMany_heap (us:List Value) : ∀(w:World) (g i k:Nat),k≠g->(setMany w g i us).heap[k]? = w.heap[k]? := by
 induction us with
 | nil=>intro w g i k h;rfl
 | cons u r ih=>
  intro w g i k h
  simp only [setMany]
  rw [ih _ _ _ _ h]
  exact Below.heap_setCell w ⟨g,i,none⟩ u k h
theorem Keep.of_set {B:Nat} {w:World} {g i:Nat} {us:List Value} (h:g<B):Keep B w (setMany w g i us):=fun k hk _=>setMany_heap us w g i k (by omega)
theorem Keep.trans {B:Nat} {w1 w2 w3:World} (h:Keep B w1 w2) (hs:w1.heap.size<=w2.heap.size) (k:Keep B w2 w3):Keep B w1 w3:=fun i hi hl=>(k i hi (by omega)).trans (h i hi hl)
theorem owns_keep {w w':World} {base e size n cap g:Nat} {xs:List Value} (h:w.ownsRow base e size (.slice (some ⟨g,0,none⟩) n cap) n xs) (hb:Keep base w w'):w'.ownsRow base e size (.slice (some ⟨g,0,none⟩) n cap) n xs:=by
 refine ⟨h.1,?_⟩
 rcases h.2 with hn | ⟨g',cap',cur,he,hB,hg,rest⟩
 ·exact .inl hn
 ·refine .inr ⟨g',cap',cur,he,hB,?_,rest⟩
  rw [hb g' hB (Array.getElem?_eq_some_iff.1 hg).1]
  exact hg
theorem owns_mono {w:World} {base base' e size n cap g:Nat} {xs:List Value} (h:w.ownsRow base e size (.slice (some ⟨g,0,none⟩) n cap) n xs) (hb:base'<=base):w.ownsRow base' e size (.slice (some ⟨g,0,none⟩) n cap) n xs:=by
 refine ⟨h.1,?_⟩
 rcases h.2 with hn | ⟨g',cap',cur,he,hB,rest⟩
 ·exact .inl hn
 ·exact .inr ⟨g',cap',cur,he,by omega,rest⟩
theorem NodesO.keep {B:Nat} {w w':World} {v:Value} {ns:List Nd} (h:NodesO B w v ns) (hb:Keep B w w'):NodesO B w' v ns:=by
 obtain ⟨g,xs,rfl,ho,hx⟩:=h
 exact ⟨g,xs,rfl,owns_keep ho hb,hx⟩
theorem NodesO.mono {B B':Nat} {w:World} {v:Value} {ns:List Nd} (h:NodesO B w v ns) (hb:B'<=B):NodesO B' w v ns:=by
 obtain ⟨g,xs,rfl,ho,hx⟩:=h
 exact ⟨g,xs,rfl,owns_mono ho hb,hx⟩
def encP (s:ByteArray):List Value:=[.string s]
def StrsO (B:Nat) (w:World) (v:Value) (ns:List ByteArray):Prop:=∃g xs,v = .slice (some ⟨g,0,none⟩) ns.length ns.length/\w.ownsRow B 9 1 v ns.length xs/\RowIs (fun j=>encP (ns.getD j ⟨#[]⟩)) 1 ns.length xs
theorem StrsO.strs {B:Nat} {w:World} {v:Value} {ns:List ByteArray} (h:StrsO B w v ns) (hm:ns.length<=9223372036854775807):Strs w v ns:=by
 obtain ⟨g,xs,rfl,ho,hx⟩:=h
 refine ⟨_,_,rfl,Nat.le_refl _,hm,fun h0=>⟨g,0,rfl,fun j hj => ?_⟩⟩
 have hl:=ho.1
 have hk:=hx j hj 0 (by omega)
 rw [Nat.zero_add,ho.cellAt j (by omega)]
 rw [show j*1+0=j by omega] at hk
 rw [hk]
 simp [encP,List.getD,hj]
theorem StrsO.keep {B:Nat} {w w':World} {v:Value} {ns:List ByteArray} (h:StrsO B w v ns) (hb:Keep B w w'):StrsO B w' v ns:=by
 obtain ⟨g,xs,rfl,ho,hx⟩:=h
 exact ⟨g,xs,rfl,owns_keep ho hb,hx⟩
theorem StrsO.mono {B B':Nat} {w:World} {v:Value} {ns:List ByteArray} (h:StrsO B w v ns) (hb:B'<=B):StrsO B' w v ns:=by
 obtain ⟨g,xs,rfl,ho,hx⟩:=h
 exact ⟨g,xs,rfl,owns_mono ho hb,hx⟩
theorem inf_str:(Tryz.prog.info? 9).map (fun i=>(i.zero,i.size,i.bytes))=some (some (.string ⟨#[]⟩),1,16):=by kernel_rfl
theorem toStrs_any (v:Value) (ns:List ByteArray) (w:World) (hl:ns.length<=1048576) (hc:Strs w v ns) :
  Calls Tryz.prog 90 #[v] w fun e w'=>∃v',e = .returned v'/\StrsO w.heap.size w' v' ns/\Below w.heap.size w w':=by
 obtain ⟨a,cap,rfl,hcl,hcm,hc⟩:=hc
 have HC:=hide hc
 clear hc
 obtain ⟨i0,hi,hz0,hz1,hz2⟩:=info_parts inf_str
 go_enter Tryz.func90,Tryz.ntmps90
 go_wp2_with (at_make;refine wpList_make_full _ rfl _ _ 82 rfl w.heap.size 9 i0 (.string ⟨#[]⟩) 1 Tryz.underlying82 hi hz0 hz1 _ _ _ _ ns.length rfl rfl (by omega) (by omega) ?_ ?_ (Nat.le_refl _) ?_)
 ·rw [hz2];omega
 ·unfold maxLen;omega
 intro w1 hown1 hgrow1
 have hnx1:Bl w w1:=(Below.refl _ _).grown hgrow1 (Nat.le_refl _) (by simp)
 go_wp2_with fail
 go_loopw [4] (fun i wr=>∃(k:Nat) (xs:List Value),k<=ns.length/\i = .int .i64 k/\wr.ownsRow w.heap.size 9 1 (.slice (some ⟨w.heap.size,0,none⟩) ns.length ns.length) ns.length xs/\RowIs (fun j=>encP (ns.getD j ⟨#[]⟩)) 1 k xs/\Bl w wr)
  (fun i _=>ns.length-(intOf i).toNat)
 case atStart=>exact ⟨0,_,Nat.zero_le _,rfl,hown1,RowIs.zero _ _ _,hnx1⟩
 case round=>
  obtain ⟨k,xs,hk,rfl,hown,hxs,hB⟩:=hrel
  clear hown1 hgrow1 hnx1
  have HX:=hide hxs
  clear hxs
  by_cases hlt:k<ns.length
  ·obtain ⟨b,off,rfl,hc⟩:=HC.out (by omega)
   have d0:=(hc.below hB) k hlt
   have HN:Hid (encP (ns.getD k ⟨#[]⟩)=encP ns[k]):=by show _=_;simp [List.getD,hlt]
   clear hc
   generalize ns[k]=n at d0 HN
   obtain ⟨⟨y0,o0⟩,f0⟩:=own_old hown k (by omega)
   have HR:=hide (owns_put (encP n) wr xs (k*1) hown)
   have HL:Hid (xs.length=ns.length*1):=hown.1
   have HB3:=hide (below_put (Nat.le_refl _) (encP n) wr (k*1) hB)
   rw [Nat.mul_one] at HR HB3
   clear hown
   go_wp2_with fail
   go_roundw
   case rel=>exact ⟨k+1,_,by omega,by go_num,HR.out,by have h:=HX.out.step (fun _ _=>rfl) HN.out rfl (by have:=HL.out;omega);rw [Nat.mul_one] at h;exact h,HB3.out⟩
   case measure=>simp [intOf];omega
  ·have HO:=hide hown
   clear hown
   have HK:Hid (k=ns.length):=by show _=_;omega
   go_wp2_with fail
   go_ret
   exact ⟨_,rfl,⟨w.heap.size,xs,rfl,HO.out,by rw [<-HK.out];exact HX.out⟩,hB⟩
def encG (g:Gl):List Value:=[.string g.name,.int .i64 g.size]
def GlobsO (B:Nat) (w:World) (v:Value) (ns:List Gl):Prop:=∃g xs,v = .slice (some ⟨g,0,none⟩) ns.length ns.length/\w.ownsRow B 58 2 v ns.length xs/\RowIs (fun j=>encG (ns.getD j ⟨⟨#[]⟩,0⟩)) 2 ns.length xs
theorem GlobsO.globs {B:Nat} {w:World} {v:Value} {ns:List Gl} (h:GlobsO B w v ns) (hm:ns.length<=9223372036854775807):Globs w v ns:=by
 obtain ⟨g,xs,rfl,ho,hx⟩:=h
 refine ⟨_,_,rfl,Nat.le_refl _,hm,fun h0=>⟨g,0,rfl,fun j hj => ?_⟩⟩
 have hl:=ho.1
 have key : ∀i,i<2->w.cell? ⟨g,0+j*2+i,none⟩=(encG ns[j])[i]? := fun i hi=>by
  rw [Nat.zero_add,ho.cellAt (j*2+i) (by omega),hx j hj i hi]
  simp [List.getD,hj]
 exact ⟨key 0 (by omega),key 1 (by omega)⟩
theorem GlobsO.keep {B:Nat} {w w':World} {v:Value} {ns:List Gl} (h:GlobsO B w v ns) (hb:Keep B w w'):GlobsO B w' v ns:=by
 obtain ⟨g,xs,rfl,ho,hx⟩:=h
 exact ⟨g,xs,rfl,owns_keep ho hb,hx⟩
theorem GlobsO.mono {B B':Nat} {w:World} {v:Value} {ns:List Gl} (h:GlobsO B w v ns) (hb:B'<=B):GlobsO B' w v ns:=by
 obtain ⟨g,xs,rfl,ho,hx⟩:=h
 exact ⟨g,xs,rfl,owns_mono ho hb,hx⟩
theorem inf_glob:(Tryz.prog.info? 58).map (fun i=>(i.zero,i.size,i.bytes))=some (some (.agg #[.string ⟨#[]⟩,.int .i64 0]),2,24):=by kernel_rfl
theorem toGlob_any (g:Gl) (w:World):Calls Tryz.prog 55 #[.agg #[.string g.name,.int .i64 g.size]] w fun e w'=>e = .returned (.agg #[.string g.name,.int .i64 g.size])/\Below w.heap.size w w':=by
 obtain ⟨s,z⟩:=g
 simp only
 go_enter Tryz.func55,Tryz.ntmps55
 go_wp2_with fail
 exact bodyPost_ret (v:=.agg #[.string s,.int .i64 z]) (by simp [results,Tryz.results55,go_sem]) rfl ⟨rfl,((bel_a _ _).alloc (by simp) _).alloc (by simp;omega) _⟩
theorem toGlobs_any (v:Value) (ns:List Gl) (w:World) (hl:ns.length<=1048576) (hc:Globs w v ns) :
  Calls Tryz.prog 27 #[v] w fun e w'=>∃v',e = .returned v'/\GlobsO w.heap.size w' v' ns/\Below w.heap.size w w':=by
 obtain ⟨a,cap,rfl,hcl,hcm,hc⟩:=hc
 have HC:=hide hc
 clear hc
 obtain ⟨i0,hi,hz0,hz1,hz2⟩:=info_parts inf_glob
 go_enter Tryz.func27,Tryz.ntmps27
 go_wp2_with (at_make;refine wpList_make_full _ rfl _ _ 31 rfl w.heap.size 58 i0 (.agg #[.string ⟨#[]⟩,.int .i64 0]) 2 Tryz.underlying31 hi hz0 hz1 _ _ _ _ ns.length rfl rfl (by omega) (by omega) ?_ ?_ (Nat.le_refl _) ?_)
 ·rw [hz2];omega
 ·unfold maxLen;omega
 intro w1 hown1 hgrow1
 have hnx1:Bl w w1:=(Below.refl _ _).grown hgrow1 (Nat.le_refl _) (by simp)
 go_wp2_with fail
 go_loopw [4] (fun i wr=>∃(k:Nat) (xs:List Value),k<=ns.length/\i = .int .i64 k/\wr.ownsRow w.heap.size 58 2 (.slice (some ⟨w.heap.size,0,none⟩) ns.length ns.length) ns.length xs/\RowIs (fun j=>encG (ns.getD j ⟨⟨#[]⟩,0⟩)) 2 k xs/\Bl w wr)
  (fun i _=>ns.length-(intOf i).toNat)
 case atStart=>exact ⟨0,_,Nat.zero_le _,rfl,hown1,RowIs.zero _ _ _,hnx1⟩
 case round=>
  obtain ⟨k,xs,hk,rfl,hown,hxs,hB⟩:=hrel
  clear hown1 hgrow1 hnx1
  have HX:=hide hxs
  clear hxs
  by_cases hlt:k<ns.length
  ·obtain ⟨b,off,rfl,hc⟩:=HC.out (by omega)
   obtain ⟨d0,d1⟩:=(hc.below hB) k hlt
   have HN:Hid (encG (ns.getD k ⟨⟨#[]⟩,0⟩)=encG ns[k]):=by show _=_;simp [List.getD,hlt]
   clear hc
   generalize ns[k]=n at d0 d1 HN
   have HO:=hide hown
   clear hown
   go_wp2_with fail
   refine (toGlob_any n _).mono ?_
   rintro e w2 ⟨rfl,hb2⟩
   have hown2:=owns_below HO.out hb2
   obtain ⟨⟨y0,o0⟩,f0⟩:=own_old hown2 (k*2) (by omega)
   obtain ⟨⟨y1,o1⟩,f1⟩:=own_old hown2 (k*2+1) (by omega)
   have hB2:=hB.trans (hb2.mono hB.size)
   have HR:Hid _:=owns_put (encG n) w2 xs (k*2) hown2
   have HL:Hid (xs.length=ns.length*2):=hown2.1
   have HB3:Hid _:=below_put (Nat.le_refl _) (encG n) w2 (k*2) hB2
   clear hown2 d0 d1
   go_wp2_with fail
   go_roundw
   case rel=>exact ⟨k+1,_,by omega,by go_num,HR.out,HX.out.step (fun _ _=>rfl) HN.out rfl (by have:=HL.out;omega),HB3.out⟩
   case measure=>simp [intOf];omega
  ·have HO:=hide hown
   clear hown
   have HK:Hid (k=ns.length):=by show _=_;omega
   go_wp2_with fail
   go_ret
   exact ⟨_,rfl,⟨w.heap.size,xs,rfl,HO.out,by rw [<-HK.out];exact HX.out⟩,hB⟩
end Go.Proofs.YtmddmgpijpjpbaaGreatDoor
namespace Go.Proofs.YtmddmgpijpjpbaaGreatDoor
open Go.RowKit
set_option linter.unusedVariables false
set_option linter.unusedSimpArgs false
set_option maxRecDepth 100000
set_option maxHeartbeats 16000000
theorem Keep.setCell {B:Nat} {a w:World} {p:Addr} {u:Value} (h:Keep B a w) (hp:p.block<B):Keep B a (w.setCell p u):=fun k hk hl=>(Below.heap_setCell w p u k (by omega)).trans (h k hk hl)
theorem Keep.refl (B:Nat) (w:World):Keep B w w:=fun _ _ _=>rfl
theorem Keep.mono {B B':Nat} {w w':World} (h:Keep B w w') (hb:B<=B'):Keep B' w w':=fun k hk hl=>h k (by omega) hl
theorem box666 {w w':World} {t u v:TypeId} {a0 a1 a2 a3 a4 a5 b0 b1 b2 b3 b4 b5 c0 c1 c2 c3 c4 c5:Value} (h:Below (w.heap.size+1+1+1) (((w.alloc (.cells #[a0,a1,a2,a3,a4,a5] t)).alloc (.cells #[b0,b1,b2,b3,b4,b5] u)).alloc (.cells #[c0,c1,c2,c3,c4,c5] v)) w') :
  (w'.cell? ⟨w.heap.size,0,none⟩=some a0/\w'.cell? ⟨w.heap.size,1,none⟩=some a1/\w'.cell? ⟨w.heap.size,2,none⟩=some a2/\w'.cell? ⟨w.heap.size,3,none⟩=some a3/\w'.cell? ⟨w.heap.size,4,none⟩=some a4/\w'.cell? ⟨w.heap.size,5,none⟩=some a5) /\
  (w'.cell? ⟨w.heap.size+1,0,none⟩=some b0/\w'.cell? ⟨w.heap.size+1,1,none⟩=some b1/\w'.cell? ⟨w.heap.size+1,2,none⟩=some b2/\w'.cell? ⟨w.heap.size+1,3,none⟩=some b3/\w'.cell? ⟨w.heap.size+1,4,none⟩=some b4/\w'.cell? ⟨w.heap.size+1,5,none⟩=some b5) /\
  (w'.cell? ⟨w.heap.size+1+1,0,none⟩=some c0/\w'.cell? ⟨w.heap.size+1+1,1,none⟩=some c1/\w'.cell? ⟨w.heap.size+1+1,2,none⟩=some c2/\w'.cell? ⟨w.heap.size+1+1,3,none⟩=some c3/\w'.cell? ⟨w.heap.size+1+1,4,none⟩=some c4/\w'.cell? ⟨w.heap.size+1+1,5,none⟩=some c5) /\
  (∀i,w'.frozen? ⟨w.heap.size+1,i,none⟩=false)/\(∀i,w'.frozen? ⟨w.heap.size+1+1,i,none⟩=false):=by
 refine ⟨⟨?_,?_,?_,?_,?_,?_⟩,⟨?_,?_,?_,?_,?_,?_⟩,⟨?_,?_,?_,?_,?_,?_⟩,fun i => ?_,fun i => ?_⟩
 all_goals first
  | (rw [h.cell (by first | (simp;done) | (simp;omega))];go_simp;done)
  | (rw [h.frozen (by first | (simp;done) | (simp;omega))];go_simp;done)
theorem toStmt_any (s:St) (ve vf:Value) (w:World) (hs:smallS s) (he:Nodes w ve s.e) (hf:Nodes w vf s.f) :
  Calls Tryz.prog 126 #[.agg #[.int .i64 s.kind,.string s.name,ve,vf,.int .i64 s.thn,.int .i64 s.els]] w fun e w'=>∃ve' vf',e = .returned (.agg #[.int .i64 s.kind,.string s.name,ve',vf',.int .i64 s.thn,.int .i64 s.els])/\NodesO w.heap.size w' ve' s.e/\NodesO w.heap.size w' vf' s.f/\Below w.heap.size w w':=by
 obtain ⟨k,n,es,fs,t,l⟩:=s
 have hse:es.length<=1048576:=hs.1
 have hsf:fs.length<=1048576:=hs.2
 simp only at he hf ⊢
 have HE:=hide he
 have HF:=hide hf
 obtain ⟨ae,ce,rfl,-,-,-⟩:=he
 obtain ⟨af,cf,rfl,-,-,-⟩:=hf
 have hA:Bl w (((w.alloc (.cells #[.int .i64 k,.string n,.slice ae es.length ce,.slice af fs.length cf,.int .i64 t,.int .i64 l] 179)).alloc (.cells #[.int .i64 0,.string ⟨#[]⟩,.slice none 0 0,.slice none 0 0,.int .i64 0,.int .i64 0] 117)).alloc (.cells #[.int .i64 k,.string n,.slice none 0 0,.slice none 0 0,.int .i64 0,.int .i64 0] 117)):=((bel_a _ _).alloc (by simp) _).alloc (by simp;omega) _
 go_enter Tryz.func126,Tryz.ntmps126
 go_wp2_with fail
 refine (toNodes_any _ es _ hse (HE.out.below hA)).mono ?_
 rintro e w1 ⟨v1,rfl,ho1,hb1⟩
 simp only [World.size_alloc] at ho1 hb1
 have HO1:=hide ho1
 obtain ⟨g1,xs1,rfl,-,-⟩:=ho1
 have hz1:w.heap.size+1+1+1<=w1.heap.size:=by have:=hb1.size;simpa using this
 have hB1:=hA.trans (hb1.mono (by omega))
 obtain ⟨⟨a0,a1,a2,a3,a4,a5⟩,⟨b0,b1,b2,b3,b4,b5⟩,⟨c0,c1,c2,c3,c4,c5⟩,fb,fc⟩:=box666 hb1
 go_wp2_with fail
 have hB1s:=hB1.setCell (p:=⟨w.heap.size+1+1,2,none⟩) (by simp;omega) (.slice (some ⟨g1,0,none⟩) es.length es.length)
 refine (toNodes_any _ fs _ hsf (HF.out.below hB1s)).mono ?_
 rintro e w2 ⟨v2,rfl,ho2,hb2⟩
 have HO2:=hide ho2
 obtain ⟨g2,xs2,rfl,-,-⟩:=ho2
 have hz2:w1.heap.size<=w2.heap.size:=by have:=hb2.size;simpa using this
 have hB2:=hB1s.trans (hb2.mono (by simp;omega))
 have A4:w2.cell? ⟨w.heap.size,4,none⟩=some (.int .i64 t):=by rw [hb2.cell (by simp;omega)];go_simp
 have A5:w2.cell? ⟨w.heap.size,5,none⟩=some (.int .i64 l):=by rw [hb2.cell (by simp;omega)];go_simp
 have C0:w2.cell? ⟨w.heap.size+1+1,0,none⟩=some (.int .i64 k):=by rw [hb2.cell (by simp;omega)];go_simp
 have C1:w2.cell? ⟨w.heap.size+1+1,1,none⟩=some (.string n):=by rw [hb2.cell (by simp;omega)];go_simp
 have C2:w2.cell? ⟨w.heap.size+1+1,2,none⟩=some (.slice (some ⟨g1,0,none⟩) es.length es.length):=by rw [hb2.cell (by simp;omega)];go_simp
 have C3:w2.cell? ⟨w.heap.size+1+1,3,none⟩=some (.slice none 0 0):=by rw [hb2.cell (by simp;omega)];go_simp
 have C4:w2.cell? ⟨w.heap.size+1+1,4,none⟩=some (.int .i64 0):=by rw [hb2.cell (by simp;omega)];go_simp
 have C5:w2.cell? ⟨w.heap.size+1+1,5,none⟩=some (.int .i64 0):=by rw [hb2.cell (by simp;omega)];go_simp
 have B0:w2.cell? ⟨w.heap.size+1,0,none⟩=some (.int .i64 0):=by rw [hb2.cell (by simp;omega)];go_simp
 have B1:w2.cell? ⟨w.heap.size+1,1,none⟩=some (.string ⟨#[]⟩):=by rw [hb2.cell (by simp;omega)];go_simp
 have B2:w2.cell? ⟨w.heap.size+1,2,none⟩=some (.slice none 0 0):=by rw [hb2.cell (by simp;omega)];go_simp
 have B3:w2.cell? ⟨w.heap.size+1,3,none⟩=some (.slice none 0 0):=by rw [hb2.cell (by simp;omega)];go_simp
 have B4:w2.cell? ⟨w.heap.size+1,4,none⟩=some (.int .i64 0):=by rw [hb2.cell (by simp;omega)];go_simp
 have B5:w2.cell? ⟨w.heap.size+1,5,none⟩=some (.int .i64 0):=by rw [hb2.cell (by simp;omega)];go_simp
 have FB : ∀i,w2.frozen? ⟨w.heap.size+1,i,none⟩=false:=fun i=>by rw [hb2.frozen (by simp;omega)];go_simp
 have FC : ∀i,w2.frozen? ⟨w.heap.size+1+1,i,none⟩=false:=fun i=>by rw [hb2.frozen (by simp;omega)];go_simp
 have K12:Keep (w.heap.size+1+1+1) w1 w2:=((Keep.refl _ _).setCell (by simp)).trans (by simp) (Keep.of_below hb2)
 have HK:=hide K12
 have HO2':=hide (HO2.out.mono (by simp;omega))
 go_wp2_with fail
 refine bodyPost_ret (v:=.agg #[.int .i64 k,.string n,.slice (some ⟨g1,0,none⟩) es.length es.length,.slice (some ⟨g2,0,none⟩) fs.length fs.length,.int .i64 t,.int .i64 l]) (by simp [results,Tryz.results126,go_sem,B0,B1,B2,B3,B4,B5]) rfl ⟨_,_,rfl,?_,?_,?_⟩
 ·exact ((HO1.out.keep HK.out).keep ((((((((((Keep.refl _ _).setCell (by first | (simp;done) | (simp;omega))).setCell (by first | (simp;done) | (simp;omega))).setCell (by first | (simp;done) | (simp;omega))).setCell (by first | (simp;done) | (simp;omega))).setCell (by first | (simp;done) | (simp;omega))).setCell (by first | (simp;done) | (simp;omega))).setCell (by first | (simp;done) | (simp;omega))).setCell (by first | (simp;done) | (simp;omega))).setCell (by first | (simp;done) | (simp;omega)))).mono (by omega)
 ·exact (HO2'.out.keep ((((((((((Keep.refl _ _).setCell (by first | (simp;done) | (simp;omega))).setCell (by first | (simp;done) | (simp;omega))).setCell (by first | (simp;done) | (simp;omega))).setCell (by first | (simp;done) | (simp;omega))).setCell (by first | (simp;done) | (simp;omega))).setCell (by first | (simp;done) | (simp;omega))).setCell (by first | (simp;done) | (simp;omega))).setCell (by first | (simp;done) | (simp;omega))).setCell (by first | (simp;done) | (simp;omega)))).mono (by omega)
 ·exact (((((((((hB2).setCell (by first | (simp;done) | (simp;omega)) _).setCell (by first | (simp;done) | (simp;omega)) _).setCell (by first | (simp;done) | (simp;omega)) _).setCell (by first | (simp;done) | (simp;omega)) _).setCell (by first | (simp;done) | (simp;omega)) _).setCell (by first | (simp;done) | (simp;omega)) _).setCell (by first | (simp;done) | (simp;omega)) _).setCell (by first | (simp;done) | (simp;omega)) _).setCell (by first | (simp;done) | (simp;omega)) _
def encS (s:St) (v:Value × Value):List Value:=[.int .i64 s.kind,.string s.name,v.1,v.2,.int .i64 s.thn,.int .i64 s.els]
def dSt:St:=⟨0,⟨#[]⟩,[],[],0,0⟩
def StmtsO (B:Nat) (w:World) (v:Value) (ns:List St):Prop:=∃(g:Nat) (xs:List Value) (V:Nat->Value × Value),v = .slice (some ⟨g,0,none⟩) ns.length ns.length/\w.ownsRow B 117 6 v ns.length xs/\RowIs (fun j=>encS (ns.getD j dSt) (V j)) 6 ns.length xs/\∀j (h:j<ns.length),NodesO B w (V j).1 ns[j].e/\NodesO B w (V j).2 ns[j].f
theorem StmtsO.stmts {B:Nat} {w:World} {v:Value} {ns:List St} (h:StmtsO B w v ns) (hm:ns.length<=9223372036854775807) (hs : ∀s∈ns,smallS s):Stmts w v ns:=by
 obtain ⟨g,xs,V,rfl,ho,hx,hn⟩:=h
 refine ⟨_,_,rfl,Nat.le_refl _,hm,fun h0=>⟨g,0,rfl,fun j hj => ?_⟩⟩
 have hl:=ho.1
 have key : ∀i,i<6->w.cell? ⟨g,0+j*6+i,none⟩=(encS ns[j] (V j))[i]? := fun i hi=>by
  rw [Nat.zero_add,ho.cellAt (j*6+i) (by omega),hx j hj i hi]
  simp [List.getD,hj]
 have hsm:=hs ns[j] (List.getElem_mem hj)
 exact ⟨(V j).1,(V j).2,⟨key 0 (by omega),key 1 (by omega),key 2 (by omega),key 3 (by omega),key 4 (by omega),key 5 (by omega)⟩,(hn j hj).1.nodes (by have:=hsm.1;omega),(hn j hj).2.nodes (by have:=hsm.2;omega)⟩
theorem StmtsO.keep {B:Nat} {w w':World} {v:Value} {ns:List St} (h:StmtsO B w v ns) (hb:Keep B w w'):StmtsO B w' v ns:=by
 obtain ⟨g,xs,V,rfl,ho,hx,hn⟩:=h
 exact ⟨g,xs,V,rfl,owns_keep ho hb,hx,fun j hj=>⟨(hn j hj).1.keep hb,(hn j hj).2.keep hb⟩⟩
theorem StmtsO.mono {B B':Nat} {w:World} {v:Value} {ns:List St} (h:StmtsO B w v ns) (hb:B'<=B):StmtsO B' w v ns:=by
 obtain ⟨g,xs,V,rfl,ho,hx,hn⟩:=h
 exact ⟨g,xs,V,rfl,owns_mono ho hb,hx,fun j hj=>⟨(hn j hj).1.mono hb,(hn j hj).2.mono hb⟩⟩
theorem inf_stmt:(Tryz.prog.info? 117).map (fun i=>(i.zero,i.size,i.bytes))=some (some (.agg #[.int .i64 0,.string ⟨#[]⟩,.slice none 0 0,.slice none 0 0,.int .i64 0,.int .i64 0]),6,88):=by kernel_rfl
theorem own_lt {w:World} {base e size n cap g:Nat} {xs:List Value} (h:w.ownsRow base e size (.slice (some ⟨g,0,none⟩) n cap) n xs):base<=g/\g<w.heap.size:=h.lt g rfl
theorem toStmts_any (v:Value) (ns:List St) (w:World) (hl:ns.length<=1048576) (hs : ∀s∈ns,smallS s) (hc:Stmts w v ns) :
  Calls Tryz.prog 91 #[v] w fun e w'=>∃v',e = .returned v'/\StmtsO w.heap.size w' v' ns/\Below w.heap.size w w':=by
 have HS:=hide hs
 obtain ⟨a,cap,rfl,hcl,hcm,hc⟩:=hc
 have HC:=hide hc
 clear hc hs
 obtain ⟨i0,hi,hz0,hz1,hz2⟩:=info_parts inf_stmt
 go_enter Tryz.func91,Tryz.ntmps91
 go_wp2_with (at_make;refine wpList_make_full _ rfl _ _ 83 rfl w.heap.size 117 i0 (.agg #[.int .i64 0,.string ⟨#[]⟩,.slice none 0 0,.slice none 0 0,.int .i64 0,.int .i64 0]) 6 Tryz.underlying83 hi hz0 hz1 _ _ _ _ ns.length rfl rfl (by omega) (by omega) ?_ ?_ (Nat.le_refl _) ?_)
 ·rw [hz2];omega
 ·unfold maxLen;omega
 intro w1 hown1 hgrow1
 have hnx1:Bl w w1:=(Below.refl _ _).grown hgrow1 (Nat.le_refl _) (by simp)
 go_wp2_with fail
 go_loopw [4] (fun i wr=>∃(k:Nat) (xs:List Value) (V:Nat->Value × Value),k<=ns.length/\i = .int .i64 k/\wr.ownsRow w.heap.size 117 6 (.slice (some ⟨w.heap.size,0,none⟩) ns.length ns.length) ns.length xs/\RowIs (fun j=>encS (ns.getD j dSt) (V j)) 6 k xs/\(∀j (h:j<ns.length),j<k->NodesO (w.heap.size+1) wr (V j).1 ns[j].e/\NodesO (w.heap.size+1) wr (V j).2 ns[j].f)/\Bl w wr)
  (fun i _=>ns.length-(intOf i).toNat)
 case atStart=>exact ⟨0,_,fun _=>(.nilFunc,.nilFunc),Nat.zero_le _,rfl,hown1,RowIs.zero _ _ _,fun j _ hj=>absurd hj (Nat.not_lt_zero _),hnx1⟩
 case round=>
  obtain ⟨k,xs,V,hk,rfl,hown,hxs,hV,hB⟩:=hrel
  clear hown1 hgrow1 hnx1
  have HX:=hide hxs
  have HV:=hide hV
  clear hxs hV
  by_cases hlt:k<ns.length
  ·obtain ⟨b,off,rfl,hc⟩:=HC.out (by omega)
   obtain ⟨ve,vf,⟨d0,d1,d2,d3,d4,d5⟩,he,hf⟩:=(hc.below hB) k hlt
   have hsm:=HS.out ns[k] (List.getElem_mem hlt)
   have HN:Hid (ns.getD k dSt=ns[k]):=by show _=_;simp [List.getD,hlt]
   have HNK:Hid (∀h:k<ns.length,ns[k]=ns[k]):=fun _=>rfl
   clear hc
   generalize hgen:ns[k]=n at d0 d1 d2 d3 d4 d5 he hf HN hsm
   have HG:=hide hgen
   clear hgen HNK
   have HNE:=hide he
   have HNF:=hide hf
   have HSM:=hide hsm
   obtain ⟨a2,k2,rfl,-,-,-⟩:=he
   obtain ⟨a3,k3,rfl,-,-,-⟩:=hf
   have HO:=hide hown
   clear hown hsm
   go_wp2_with fail
   refine (toStmt_any n _ _ _ HSM.out HNE.out HNF.out).mono ?_
   rintro e w2 ⟨ve',vf',rfl,hoe,hof,hb2⟩
   have hgl:=own_lt HO.out
   have HOE:Hid (NodesO (w.heap.size+1) w2 ve' n.e):=hoe.mono (by omega)
   have HOF:Hid (NodesO (w.heap.size+1) w2 vf' n.f):=hof.mono (by omega)
   obtain ⟨ge,xe,rfl,-,-⟩:=hoe
   obtain ⟨gf,xf,rfl,-,-⟩:=hof
   have hown2:=owns_below HO.out hb2
   obtain ⟨⟨y0,o0⟩,f0⟩:=own_old hown2 (k*6) (by omega)
   obtain ⟨⟨y1,o1⟩,f1⟩:=own_old hown2 (k*6+1) (by omega)
   obtain ⟨⟨y2,o2⟩,f2⟩:=own_old hown2 (k*6+2) (by omega)
   obtain ⟨⟨y3,o3⟩,f3⟩:=own_old hown2 (k*6+3) (by omega)
   obtain ⟨⟨y4,o4⟩,f4⟩:=own_old hown2 (k*6+4) (by omega)
   obtain ⟨⟨y5,o5⟩,f5⟩:=own_old hown2 (k*6+5) (by omega)
   have hB2:=hB.trans (hb2.mono hB.size)
   have HR:Hid _:=owns_put (encS n (.slice (some ⟨ge,0,none⟩) n.e.length n.e.length,.slice (some ⟨gf,0,none⟩) n.f.length n.f.length)) w2 xs (k*6) hown2
   have HL:Hid (xs.length=ns.length*6):=hown2.1
   have HB3:Hid _:=below_put (Nat.le_refl _) (encS n (.slice (some ⟨ge,0,none⟩) n.e.length n.e.length,.slice (some ⟨gf,0,none⟩) n.f.length n.f.length)) w2 (k*6) hB2
   have HK2:Hid (Keep (w.heap.size+1) w2 (setMany w2 w.heap.size (k*6) (encS n (.slice (some ⟨ge,0,none⟩) n.e.length n.e.length,.slice (some ⟨gf,0,none⟩) n.f.length n.f.length)))):=Keep.of_set (by omega)
   have HKB:Hid (Keep (w.heap.size+1) wr w2):=Keep.of_below hb2
   clear hown2 d0 d1 d2 d3 d4 d5
   go_wp2_with fail
   go_roundw
   case rel=>
    refine ⟨k+1,_,fun j=>if j=k then (.slice (some ⟨ge,0,none⟩) n.e.length n.e.length,.slice (some ⟨gf,0,none⟩) n.f.length n.f.length) else V j,by omega,by go_num,HR.out,HX.out.step (fun j hj => ?_) ?_ rfl (by have:=HL.out;omega),fun j hj hjk => ?_,HB3.out⟩
    ·dsimp only;rw [if_neg (by omega)]
    ·dsimp only;rw [if_pos rfl,HN.out]
    ·by_cases e:j=k
     ·subst e
      dsimp only
      rw [if_pos rfl,HG.out]
      exact ⟨HOE.out.keep HK2.out,HOF.out.keep HK2.out⟩
     ·dsimp only
      rw [if_neg e]
      have h:=HV.out j hj (by omega)
      exact ⟨(h.1.keep HKB.out).keep HK2.out,(h.2.keep HKB.out).keep HK2.out⟩
   case measure=>simp [intOf];omega
  ·have HO:=hide hown
   clear hown
   have HK:Hid (k=ns.length):=by show _=_;omega
   go_wp2_with fail
   go_ret
   exact ⟨_,rfl,⟨w.heap.size,xs,V,rfl,HO.out,by rw [<-HK.out];exact HX.out,fun j hj=>⟨(HV.out j hj (by have:=HK.out;omega)).1.mono (by omega),(HV.out j hj (by have:=HK.out;omega)).2.mono (by omega)⟩⟩,hB⟩
end Go.Proofs.YtmddmgpijpjpbaaGreatDoor
