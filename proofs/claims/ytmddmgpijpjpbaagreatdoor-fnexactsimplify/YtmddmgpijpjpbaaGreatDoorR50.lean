import Derived.Test.YtmddmgpijpjpbaaGreatDoorR49
set_option linter.unusedSectionVars false
variable [Inhabited Go.Proofs.YtmddmgpijpjpbaaGreatDoor.Pick]
namespace Go.Proofs.YtmddmgpijpjpbaaGreatDoor
open Go.RowKit
set_option linter.unusedVariables false
set_option linter.unusedSimpArgs false
set_option maxRecDepth 100000
set_option maxHeartbeats 16000000
theorem blkF_cons (q:FV) (Q:List FV):blkF (q::Q)=blk1 q++blkF Q:=rfl
theorem blkF_at {Q:List FV} {j:Nat} (hj:j<Q.length) {g:Nat} (hg:g∈blk1 Q[j]):g∈blkF Q:=List.mem_flatMap.2 ⟨_,List.getElem_mem hj,hg⟩
theorem blkF_sep : ∀(Q:List FV),(blkF Q).Nodup->∀(i j:Nat) (hi:i<Q.length) (hj:j<Q.length),i≠j->∀g,g∈blk1 Q[i]->g∉blk1 Q[j]
 | [],_,i,j,hi,_,_,_,_=>absurd hi (by simp)
 | q::Q,hn,i,j,hi,hj,hne,g,h1=>by
  rw [blkF_cons,List.nodup_append] at hn
  obtain ⟨-,n2,n3⟩:=hn
  cases i with
  | zero=>
   cases j with
   | zero=>exact absurd rfl hne
   | succ j=>exact fun h2=>n3 g h1 g (blkF_at (by simpa using hj) h2) rfl
  | succ i=>
   cases j with
   | zero=>exact fun h2=>n3 g h2 g (blkF_at (by simpa using hi) h1) rfl
   | succ j=>exact blkF_sep Q n2 i j (by simpa using hi) (by simpa using hj) (by omega) g h1
theorem blkF_set : ∀(Q:List FV) (i:Nat) (hi:i<Q.length) (q:FV),blk1 q=blk1 Q[i]->blkF (Q.set i q)=blkF Q
 | [],i,hi,_,_=>absurd hi (by simp)
 | x::Q,0,_,q,h1=>by
  simp only [List.getElem_cons_zero] at h1
  rw [List.set_cons_zero,blkF_cons,blkF_cons,h1]
 | x::Q,i+1,hi,q,h1=>by
  rw [List.set_cons_succ,blkF_cons,blkF_cons,blkF_set Q i (by simpa using hi) q (by simpa using h1)]
theorem flatF_put : ∀(Q:List FV) (i:Nat) (hi:i<Q.length) (q:FV) (c:Nat) (x:Value),c<3->cellsF q=(cellsF Q[i]).set c x->(flatF Q).set (i*3+c) x=flatF (Q.set i q)
 | [],i,hi,_,_,_,_,_=>absurd hi (by simp)
 | y::Q,0,_,q,c,x,hc,h=>by
  simp only [List.getElem_cons_zero] at h
  show (cellsF y++flatF Q).set (0*3+c) x=cellsF q++flatF Q
  have hl:(cellsF y).length=3:=rfl
  rw [h,Nat.zero_mul,Nat.zero_add,List.set_append_left _ _ (by omega)]
 | y::Q,i+1,hi,q,c,x,hc,h=>by
  have ih:=flatF_put Q i (by simpa using hi) q c x hc (by simpa using h)
  have e:(i+1)*3+c=(i*3+c)+3:=by omega
  show (cellsF y++flatF Q).set ((i+1)*3+c) x=cellsF y++flatF (Q.set i q)
  rw [<-ih,e]
  rfl
theorem flatF_same : ∀(Q:List FV) (i:Nat) (hi:i<Q.length) (q:FV),cellsF q=cellsF Q[i]->flatF (Q.set i q)=flatF Q
 | [],i,hi,_,_=>absurd hi (by simp)
 | y::Q,0,_,q,h=>by
  simp only [List.getElem_cons_zero] at h
  show cellsF q++flatF Q=cellsF y++flatF Q
  rw [h]
 | y::Q,i+1,hi,q,h=>by
  show cellsF y++flatF (Q.set i q)=cellsF y++flatF Q
  rw [flatF_same Q i (by simpa using hi) q (by simpa using h)]
structure FnM (B:Nat) (w:World) (v:Value) (Q:List FV) (K:List Nat):Prop where
 row:ROne B w v Q.length (flatF Q) K
 each : ∀q∈Q,FOk B w q
 nd:(K++blkF Q).Nodup
theorem FnRow.m {B:Nat} {w:World} {v:Value} {Q:List FV} (h:FnRow B w v Q) : ∃K,FnM B w v Q K/\∀g,v.ownBlock=some g↔g∈K:=by
 obtain ⟨K,h1,h2⟩:=ROne.of_own h.row
 refine ⟨K,⟨h1,h.each,?_⟩,h2⟩
 rw [List.nodup_append]
 refine ⟨?_,h.nd,fun a ha b hb e => ?_⟩
 ·rcases h1 with ⟨-,rfl,-⟩ | ⟨g,cap,-,rfl,-⟩ <;> simp
 ·subst e
  exact h.out a ((h2 a).2 ha) hb
theorem FnM.rng {B:Nat} {w:World} {v:Value} {Q:List FV} {K:List Nat} (h:FnM B w v Q K) : ∀g∈K++blkF Q,B<=g/\g<w.heap.size:=by
 intro g hg
 rcases List.mem_append.1 hg with hg | hg
 ·exact h.row.rng g hg
 ·obtain ⟨q,hq,hg⟩:=List.mem_flatMap.1 hg
  exact (h.each q hq).rng g hg
theorem FnM.keep {B:Nat} {w w':World} {v:Value} {Q:List FV} {K:List Nat} (h:FnM B w v Q K) (hs:w.heap.size<=w'.heap.size) (hk : ∀g∈K++blkF Q,w'.heap[g]? = w.heap[g]?):FnM B w' v Q K:=
 ⟨h.row.keep hs (fun g hg=>hk g (List.mem_append.2 (.inl hg))),fun q hq=>(h.each q hq).keep hs (fun g hg=>hk g (List.mem_append.2 (.inr (blkF_in hq g hg)))),h.nd⟩
theorem FnM.below {B:Nat} {w w':World} {v:Value} {Q:List FV} {K:List Nat} (h:FnM B w v Q K) (hb:Below w.heap.size w w'):FnM B w' v Q K:=h.keep hb.size (fun g hg=>hb.block g (h.rng g hg).2)
theorem FnM.upd {B:Nat} {w w':World} {v:Value} {Q:List FV} {K:List Nat} (h:FnM B w v Q K) (i:Nat) (hi:i<Q.length) (q:FV) (hs:w.heap.size<=w'.heap.size) (h1:blk1 q=blk1 Q[i]) (hr:ROne B w' v Q.length (flatF (Q.set i q)) K) (hq:FOk B w' q) (hk : ∀g∈blkF Q,g∉blk1 Q[i]->w'.heap[g]? = w.heap[g]?):FnM B w' v (Q.set i q) K:=by
 refine ⟨by rw [List.length_set];exact hr,fun x hx => ?_,by rw [blkF_set Q i hi q h1];exact h.nd⟩
 obtain ⟨j,hj,rfl⟩:=List.mem_iff_getElem.1 hx
 have hj':j<Q.length:=by simpa using hj
 by_cases e:i=j
 ·subst e
  rw [List.getElem_set_self]
  exact hq
 ·rw [List.getElem_set_ne e]
  have hnd:=(List.nodup_append.1 h.nd).2.1
  exact (h.each _ (List.getElem_mem hj')).keep hs (fun g hg=>hk g (blkF_at hj' hg) (blkF_sep Q hnd j i hj' hi (Ne.symm e) g hg))
theorem FnM.eachS {B:Nat} {w:World} {v:Value} {Q:List FV} {j:Nat} {q:FV} {K:List Nat} (h:FnM B w v (Q.set j q) K) (hj:j<Q.length):FOk B w q:=
 h.each q (List.mem_iff_getElem.2 ⟨j,by simpa using hj,by simp⟩)
theorem FnM.putN {B:Nat} {w:World} {g n cp:Nat} {Q:List FV} (h:FnM B w (.slice (some ⟨g,0,none⟩) n cp) Q [g]) (i:Nat) (hi:i<Q.length) (nm:ByteArray):FnM B (w.setCell ⟨g,i*3,none⟩ (.string nm)) (.slice (some ⟨g,0,none⟩) n cp) (Q.set i ⟨⟨nm,Q[i].f.params,Q[i].f.body⟩,Q[i].vp,Q[i].vb,Q[i].R,Q[i].kp,Q[i].kb⟩) [g]:=by
 have hnd:=h.nd
 have hout : ∀b∈blkF Q,b≠g:=fun b hb e=>by
  subst e
  exact (List.nodup_append.1 hnd).2.2 b (by simp) b hb rfl
 have hk : ∀b∈blkF Q,(w.setCell ⟨g,i*3,none⟩ (.string nm)).heap[b]? = w.heap[b]? := fun b hb=>Below.heap_setCell _ _ _ b (fun e=>hout b hb (by simpa using e))
 have hq:=h.each _ (List.getElem_mem hi)
 have hq':=hq.keep (w':=w.setCell ⟨g,i*3,none⟩ (.string nm)) (by simp) (fun b hb=>hk b (blkF_at hi hb))
 refine h.upd i hi _ (by simp) rfl (h.row.mk1 (by simp) fun y hy => ?_) ⟨hq'.ps,hq'.body,hq'.map,hq'.nd⟩ (fun b hb _=>hk b hb)
 obtain rfl:g=y:=by simpa using hy
 have e:=flatF_put Q i hi ⟨⟨nm,Q[i].f.params,Q[i].f.body⟩,Q[i].vp,Q[i].vb,Q[i].R,Q[i].kp,Q[i].kb⟩ 0 (.string nm) (by omega) rfl
 rw [<-e,Nat.add_zero]
 exact (h.row.fr g rfl).set _ _
theorem FnM.putP {B:Nat} {w w':World} {v:Value} {Q:List FV} {j:Nat} {q:FV} {K:List Nat} (h:FnM B w v (Q.set j q) K) (hj:j<Q.length) (ps:List ByteArray) (hp:ROne B w' q.vp ps.length (flatP ps) q.kp) (hT:Tk q.kp w w'):FnM B w' v (Q.set j ⟨⟨q.f.name,ps,q.f.body⟩,q.vp,q.vb,q.R,q.kp,q.kb⟩) K:=by
 have hj':j<(Q.set j q).length:=by simpa using hj
 have e:(Q.set j q)[j]=q:=by simp
 have hq:=h.eachS hj
 have hnd:=h.nd
 have hnq:(q.kp++(q.kb++blkS q.R)).Nodup:=hq.nd
 have:=h.upd j hj' ⟨⟨q.f.name,ps,q.f.body⟩,q.vp,q.vb,q.R,q.kp,q.kb⟩ hT.size (by rw [e];rfl) (h.row.mk1 hT.size fun g hg => ?_) ⟨hp,hq.body.keep hT.size (fun g hg=>hT.other g (hq.body.rng g hg).2 (fun he=>(List.nodup_append.1 hnq).2.2 g he g hg rfl)),hq.map,hq.nd⟩ (fun g hg hn => ?_)
 ·rwa [List.set_set] at this
 ·rw [flatF_same _ j hj' _ (by rw [e];rfl)]
  refine (h.row.fr g hg).keep (hT.other g (h.row.rng g (by rw [hg];simp)).2 (fun he => ?_))
  exact (List.nodup_append.1 hnd).2.2 g (by rw [hg];simp) g (blkF_at hj' (by rw [e];exact List.mem_append.2 (.inl he))) rfl
 ·rw [e] at hn
  exact hT.other g (h.rng g (List.mem_append.2 (.inr hg))).2 (fun he=>hn (List.mem_append.2 (.inl he)))
theorem FnM.putB {B:Nat} {w w':World} {v:Value} {Q:List FV} {j:Nat} {q:FV} {K:List Nat} (h:FnM B w v (Q.set j q) K) (hj:j<Q.length) (R:List SV) (hb:StM B w' q.vb R q.kb) (hR:blkS R=blkS q.R) (hT:Tk (q.kb++blkS q.R) w w'):FnM B w' v (Q.set j ⟨⟨q.f.name,q.f.params,R.map (·.s)⟩,q.vp,q.vb,R,q.kp,q.kb⟩) K:=by
 have hj':j<(Q.set j q).length:=by simpa using hj
 have e:(Q.set j q)[j]=q:=by simp
 have hq:=h.eachS hj
 have hnd:=h.nd
 have hnq:(q.kp++(q.kb++blkS q.R)).Nodup:=hq.nd
 have hb1:blk1 (⟨⟨q.f.name,q.f.params,R.map (·.s)⟩,q.vp,q.vb,R,q.kp,q.kb⟩:FV)=blk1 q:=by show q.kp++(q.kb++blkS R)=_;rw [hR];rfl
 have:=h.upd j hj' ⟨⟨q.f.name,q.f.params,R.map (·.s)⟩,q.vp,q.vb,R,q.kp,q.kb⟩ hT.size (by rw [e];exact hb1) (h.row.mk1 hT.size fun g hg => ?_) ⟨hq.ps.keep hT.size (fun g hg=>hT.other g (hq.ps.rng g hg).2 (fun he=>(List.nodup_append.1 hnq).2.2 g hg g he rfl)),hb,rfl,by rw [hb1];exact hq.nd⟩ (fun g hg hn => ?_)
 ·rwa [List.set_set] at this
 ·rw [flatF_same _ j hj' _ (by rw [e];rfl)]
  refine (h.row.fr g hg).keep (hT.other g (h.row.rng g (by rw [hg];simp)).2 (fun he => ?_))
  exact (List.nodup_append.1 hnd).2.2 g (by rw [hg];simp) g (blkF_at hj' (by rw [e];exact List.mem_append.2 (.inr he))) rfl
 ·rw [e] at hn
  exact hT.other g (h.rng g (List.mem_append.2 (.inr hg))).2 (fun he=>hn (List.mem_append.2 (.inr he)))
theorem FnM.cell {B:Nat} {w:World} {g n cp:Nat} {Q:List FV} (h:FnM B w (.slice (some ⟨g,0,none⟩) n cp) Q [g]) (i:Nat) (hi:i<Q.length) (c:Nat) (hc:c<3):w.cell? ⟨g,i*3+c,none⟩=(cellsF Q[i])[c]? /\ w.frozen? ⟨g,i*3+c,none⟩=false:=by
 have hl:c<(cellsF Q[i]).length:=hc
 have e:=flatF_get Q i c hi hc
 rw [List.getElem?_eq_getElem hl] at e ⊢
 exact h.row.fr g rfl _ _ e
theorem FnM.cellS {B:Nat} {w:World} {g n cp:Nat} {Q:List FV} {j:Nat} {q:FV} (h:FnM B w (.slice (some ⟨g,0,none⟩) n cp) (Q.set j q) [g]) (hj:j<Q.length) (c:Nat) (hc:c<3):w.cell? ⟨g,j*3+c,none⟩=(cellsF q)[c]? /\ w.frozen? ⟨g,j*3+c,none⟩=false:=by
 have:=h.cell j (by simpa using hj) c hc
 rwa [show (Q.set j q)[j]'(by simpa using hj)=q by simp] at this
def mkV (k:Nat) (q:FV):FV:=⟨⟨mtxt k,mkP (k+1) q.f.params,(mkR (k+1+q.f.params.length) q.R).map (·.s)⟩,q.vp,q.vb,mkR (k+1+q.f.params.length) q.R,q.kp,q.kb⟩
def mkQ (k:Nat):List FV->List FV
 | []=>[]
 | q::Q=>mkV k q::mkQ (k+(1+q.f.params.length+sumR q.R)) Q
def sumV (q:FV):Nat:=1+q.f.params.length+sumR q.R
def sumQ (Q:List FV):Nat:=sumBy sumV Q
theorem mkQ_len (k:Nat) (Q:List FV):(mkQ k Q).length=Q.length:=by
 induction Q generalizing k with
 | nil=>rfl
 | cons n r ih=>simp [mkQ,ih]
theorem mkV_blk (k:Nat) (q:FV):blk1 (mkV k q)=blk1 q:=by
 show q.kp++(q.kb++blkS (mkR _ q.R))=_
 rw [mkR_blk]
 rfl
theorem mkQ_snoc (k:Nat) (l:List FV) (q:FV):mkQ k (l++[q])=mkQ k l++[mkV (k+sumQ l) q]:=by
 induction l generalizing k with
 | nil=>simp [mkQ,sumQ,sumBy]
 | cons a r ih=>
  have e:sumQ (a::r)=sumV a+sumQ r:=by simp [sumQ,sumBy]
  simp only [List.cons_append,mkQ,ih]
  rw [e,sumV,<-Nat.add_assoc k (1+a.f.params.length+sumR a.R)]
theorem mkQ_step (k:Nat) (Q:List FV) (j:Nat) (hj:j<Q.length) : ∃(h:j<(mkQ k (Q.take j)++Q.drop j).length),(mkQ k (Q.take j)++Q.drop j)[j]=Q[j]/\(mkQ k (Q.take j)++Q.drop j).set j (mkV (k+sumQ (Q.take j)) Q[j])=mkQ k (Q.take (j+1))++Q.drop (j+1):=by
 have hl:(mkQ k (Q.take j)).length=j:=by rw [mkQ_len,List.length_take,Nat.min_eq_left (by omega)]
 refine ⟨by rw [l_a,hl,List.length_drop];omega,?_,?_⟩
 ·rw [List.getElem_append_right (by omega)]
  simp [hl]
 ·rw [List.drop_eq_getElem_cons hj,take_succ' hj,mkQ_snoc,List.set_append_right _ _ (by omega),hl,Nat.sub_self,List.set_cons_zero,List.append_assoc]
  rfl
theorem markFuncs_any (B T:Nat) (v:Value) (fs:List Fu) (k:Nat) (w:World) (hn:fs.length<=1048576) (hsm : ∀f∈fs,smallF f) (h0:0<k) (hk:(k:Int)+(sumBy cntF fs:Nat)<=1000000000) (h:FuncsM B T w v fs) :
  Calls Tryz.prog 38 #[v,.int .i64 k] w fun e w'=>e = .returned (.int .i64 ((k+sumBy cntF fs:Nat):Int))/\Sh B T w w':=by
 have HP:=hide h
 have HSM:=hide hsm
 have HK:=hide hk
 obtain ⟨g,cur,rfl,-,-,-,-,-⟩:=h
 clear hsm hk
 go_enter Tryz.func38,Tryz.ntmps38
 go_wp2_with fail
 go_loopw [1,5] (fun q i wr=>∃j:Nat,j<=fs.length/\i = .int .i64 j/\q = .int .i64 ((k+sumBy cntF (fs.take j):Nat):Int)/\Sh B T w wr) (fun _ i _=>fs.length-(intOf i).toNat)
 case atStart=>exact ⟨0,Nat.zero_le _,rfl,by simp [sumBy],Sh.refl _ _ _⟩
 case round=>
  obtain ⟨j,hj,rfl,rfl,hS⟩:=hrel
  by_cases hlt:j<fs.length
  ·have HP0:=hide (HP.out.sh hS)
   have HST:Hid _:=sumBy_step cntF fs j hlt
   have hle:=sumBy_le cntF fs (j+1)
   have hsm:=HSM.out fs[j] (List.getElem_mem hlt)
   have hcs:cntF fs[j]=1+fs[j].params.length+sumBy cntS fs[j].body:=rfl
   have hqb:((k+sumBy cntF (fs.take j):Nat):Int)+1+fs[j].params.length+(sumBy cntS fs[j].body:Nat)<=1000000000:=by
    have h1:=HST.out
    have h2:=HK.out
    omega
   have hq0:0<k+sumBy cntF (fs.take j):=by omega
   have HC:=hide hcs
   have hse:=hsm.1
   have hsf:=hsm.2.1
   have HSF:Hid (∀s∈fs[j].body,smallS s):=hsm.2.2
   clear hle hcs hsm
   generalize hq:k+sumBy cntF (fs.take j)=q at hqb hq0 ⊢
   have HQ:=hide hq
   generalize hne:fs[j].params.length=ne at hse hqb HC
   have HNE:=hide hne
   have HSH:=hide hS
   have HBD:Hid (∀(W:World) (v:Value),StmtsM B T W v fs[j].body->StmtsM B T W v fs[j].body):=fun _ _ h=>h
   clear hq hne
   go_wp2_with fail
   refine (mtext_any q (by omega) (by omega) _).mono ?_
   rintro e w1 ⟨rfl,hb1⟩
   have HP2:Hid (FuncsM B T w1 (.slice (some ⟨g,0,none⟩) fs.length fs.length) fs):=HP0.out.sh (Sh.of_below hb1)
   have HS2:Hid (Sh B T w w1):=HSH.out.trans (Sh.of_below hb1)
   obtain ⟨vp,vb,c1,c2,pp,pb,⟨y0,o0⟩,f0,s0⟩:=HP2.out.at j hlt
   have HP3:Hid (FuncsM B T (w1.setCell ⟨g,j*3,none⟩ (.string (mtxt q))) (.slice (some ⟨g,0,none⟩) fs.length fs.length) fs):=HP2.out.sh (s0 _ (plain_str _))
   have HS3:Hid (Sh B T w (w1.setCell ⟨g,j*3,none⟩ (.string (mtxt q)))):=HS2.out.trans (s0 _ (plain_str _))
   have HPE:Hid (PlainM B T 9 1 (w1.setCell ⟨g,j*3,none⟩ (.string (mtxt q))) vp ne):=by rw [<-HNE.out];exact pp.sh (s0 _ (plain_str _))
   obtain ⟨ae,lne,cne,rfl⟩:=pp.isSlice
   obtain ⟨af,lnf,cnf,rfl⟩:=pb.isSlice
   clear s0 pp pb hb1
   go_wp2_with fail
   rw [show ((q:Int)+1)=((q+1:Nat):Int) by omega]
   refine (markStrs_any B T _ ne (q+1) _ hse (by omega) (by omega) HPE.out).mono ?_
   rintro e w2 ⟨rfl,sh2⟩
   generalize hq2:q+1+1*ne=q2
   have hq2b:(q2:Int)+(sumBy cntS fs[j].body:Nat)<=1000000000:=by omega
   have hq20:0<q2:=by omega
   have HQ2:=hide hq2
   clear hq2
   have HP4:=hide (HP3.out.sh sh2)
   have HS4:Hid (Sh B T w w2):=HS3.out.trans sh2
   obtain ⟨vp',vb',-,d2,-,pb',-⟩:=HP4.out.at j hlt
   have HPB:=hide pb'
   obtain ⟨af',lnf',cnf',rfl⟩:=pb'.isSlice
   clear c1 c2 o0 f0 HP3 HS3 sh2 pb'
   go_wp2_with fail
   refine (markStmts_any B T _ fs[j].body q2 _ hsf HSF.out hq20 hq2b HPB.out).mono ?_
   rintro e w3 ⟨rfl,sh3⟩
   have HS5:Hid (Sh B T w w3):=HS4.out.trans sh3
   generalize hr:q2+sumBy cntS fs[j].body=r
   have HRR:=hide hr
   clear hr d2 sh3 hq2b hqb
   go_wp2_with fail
   go_roundw
   case rel=>
    refine ⟨j+1,by omega,by go_num,?_,HS5.out⟩
    have h1:=HST.out
    have h2:=HC.out
    have h3:=HQ.out
    have h4:=HRR.out
    have h5:=HQ2.out
    rw [show k+sumBy cntF (fs.take (j+1))=r by omega]
   case measure=>simp [intOf];omega
  ·have hjn:fs.take j=fs:=List.take_of_length_le (by omega)
   go_wp2_with fail
   go_ret
   exact ⟨ret_int' (by rw [hjn]),hS⟩
theorem box2_sh {B T:Nat} {w w':World} {t:TypeId} {x y:Value} (h:Sh B T (w.alloc (.cells #[x,y] t)) w') (hT:T<=w.heap.size):w'.cell? ⟨w.heap.size,0,none⟩=some x/\w'.cell? ⟨w.heap.size,1,none⟩=some y:=by
 have hk:=h.keep w.heap.size hT (by simp)
 exact ⟨by rw [World.cell?_of_block (w:=w.alloc (.cells #[x,y] t)) hk];simp,by rw [World.cell?_of_block (w:=w.alloc (.cells #[x,y] t)) hk];simp⟩
theorem markTree_any (B T:Nat) (vg vf:Value) (t:Tr) (k:Nat) (w:World) (hT:T<=w.heap.size) (hs:smallT t) (h0:0<k) (hk:(k:Int)+(cntT t:Nat)<=1000000000) (hg:PlainM B T 58 2 w vg t.globals.length) (hf:FuncsM B T w vf t.funcs) :
  Calls Tryz.prog 13 #[.agg #[vg,vf],.int .i64 k] w fun e w'=>e = .returned (.int .i64 ((k+cntT t:Nat):Int))/\Sh B T w w':=by
 obtain ⟨gs,fs⟩:=t
 have hgl:gs.length<=1048576:=hs.1
 have hfl:fs.length<=1048576:=hs.2.1
 have HSF:Hid (∀f∈fs,smallF f):=hs.2.2
 have HC:Hid (cntT ⟨gs,fs⟩=2*gs.length+sumBy cntF fs):=rfl
 have hkb:(k:Int)+2*gs.length+(sumBy cntF fs:Nat)<=1000000000:=by have:=HC.out;omega
 simp only at hg hf
 have HG:=hide hg
 have HF:=hide hf
 obtain ⟨ag,lg,cg,rfl⟩:=hg.isSlice
 obtain ⟨gf,cur,rfl,-,-,-,-,-⟩:=hf
 clear hg hs hk
 have hA:Bl w (w.alloc (.cells #[.slice ag lg cg,.slice (some ⟨gf,0,none⟩) fs.length fs.length] 34)):=bel_a _ _
 have HT0:=hide (PlainM.sh HG.out (Sh.of_below hA))
 go_enter Tryz.func13,Tryz.ntmps13
 go_wp2_with fail
 refine (markGlobs_any B T _ gs.length k _ hgl h0 (by omega) HT0.out).mono ?_
 rintro e w1 ⟨rfl,sh1⟩
 obtain ⟨x0,x1⟩:=box2_sh sh1 hT
 have HSH:Hid (Sh B T w w1):=(Sh.of_below hA).trans sh1
 have HF1:=hide (HF.out.sh HSH.out)
 generalize hq:k+2*gs.length=q
 have hqb:(q:Int)+(sumBy cntF fs:Nat)<=1000000000:=by omega
 have hq0:0<q:=by omega
 have HQ:=hide hq
 clear hq hkb sh1 hA
 go_wp2_with fail
 refine (markFuncs_any B T _ fs q _ hfl HSF.out hq0 hqb HF1.out).mono ?_
 rintro e w2 ⟨rfl,sh2⟩
 have HS2:Hid (Sh B T w w2):=HSH.out.trans sh2
 generalize hr:q+sumBy cntF fs=r
 have HR:=hide hr
 clear hr sh2 x0 x1 hqb
 go_wp2_with fail
 go_ret
 exact ⟨ret_int' (by have:=HC.out;have:=HQ.out;have:=HR.out;omega),HS2.out⟩
theorem NodesO.plain {B:Nat} {w:World} {v:Value} {ns:List Nd} (h:NodesO B w v ns):PlainM B w.heap.size 161 3 w v ns.length:=by
 obtain ⟨g,xs,rfl,ho,hx⟩:=h
 have hlt:=own_lt ho
 rcases ho.2 with ⟨h',_⟩ | ⟨g',cap',cur,h',hB,hg,hnc,hcm,hcs,htake⟩
 ·simp at h'
 ·simp only [Value.slice.injEq,Option.some.injEq,Addr.mk.injEq,and_true,true_and] at h'
  obtain ⟨rfl,rfl⟩:=h'
  refine ⟨g,cur,rfl,hB,hlt.2,hg,hcs,fun i v hv a n c e => ?_⟩
  subst e
  have hi:i<ns.length*3:=by have:=(Array.getElem?_eq_some_iff.1 hv).1;omega
  have e1:xs[i]? = some (.slice a n c):=by rw [<-htake,List.getElem?_take,if_pos hi];simpa using hv
  have e2:=hx (i / 3) (by omega) (i % 3) (Nat.mod_lt _ (by omega))
  rw [show i / 3*3+i % 3=i by omega,e1] at e2
  have h3:i % 3=0∨i % 3=1∨i % 3=2:=by omega
  rcases h3 with h | h | h <;> rw [h] at e2 <;> simp [encN] at e2
theorem StrsO.plain {B:Nat} {w:World} {v:Value} {ns:List ByteArray} (h:StrsO B w v ns):PlainM B w.heap.size 9 1 w v ns.length:=by
 obtain ⟨g,xs,rfl,ho,hx⟩:=h
 have hlt:=own_lt ho
 rcases ho.2 with ⟨h',_⟩ | ⟨g',cap',cur,h',hB,hg,hnc,hcm,hcs,htake⟩
 ·simp at h'
 ·simp only [Value.slice.injEq,Option.some.injEq,Addr.mk.injEq,and_true,true_and] at h'
  obtain ⟨rfl,rfl⟩:=h'
  refine ⟨g,cur,rfl,hB,hlt.2,hg,hcs,fun i v hv a n c e => ?_⟩
  subst e
  have hi:i<ns.length*1:=by have:=(Array.getElem?_eq_some_iff.1 hv).1;omega
  have e1:xs[i]? = some (.slice a n c):=by rw [<-htake,List.getElem?_take,if_pos hi];simpa using hv
  have e2:=hx i (by omega) 0 (by omega)
  rw [show i*1+0=i by omega,e1] at e2
  simp [encP] at e2
theorem GlobsO.plain {B:Nat} {w:World} {v:Value} {ns:List Gl} (h:GlobsO B w v ns):PlainM B w.heap.size 58 2 w v ns.length:=by
 obtain ⟨g,xs,rfl,ho,hx⟩:=h
 have hlt:=own_lt ho
 rcases ho.2 with ⟨h',_⟩ | ⟨g',cap',cur,h',hB,hg,hnc,hcm,hcs,htake⟩
 ·simp at h'
 ·simp only [Value.slice.injEq,Option.some.injEq,Addr.mk.injEq,and_true,true_and] at h'
  obtain ⟨rfl,rfl⟩:=h'
  refine ⟨g,cur,rfl,hB,hlt.2,hg,hcs,fun i v hv a n c e => ?_⟩
  subst e
  have hi:i<ns.length*2:=by have:=(Array.getElem?_eq_some_iff.1 hv).1;omega
  have e1:xs[i]? = some (.slice a n c):=by rw [<-htake,List.getElem?_take,if_pos hi];simpa using hv
  have e2:=hx (i / 2) (by omega) (i % 2) (Nat.mod_lt _ (by omega))
  rw [show i / 2*2+i % 2=i by omega,e1] at e2
  have h3:i % 2=0∨i % 2=1:=by omega
  rcases h3 with h | h <;> rw [h] at e2 <;> simp [encG] at e2
theorem StmtsO.marks {B:Nat} {w:World} {v:Value} {ns:List St} (h:StmtsO B w v ns):StmtsM B w.heap.size w v ns:=by
 obtain ⟨g,xs,V,rfl,ho,hx,hn⟩:=h
 have hlt:=own_lt ho
 rcases ho.2 with ⟨h',_⟩ | ⟨g',cap',cur,h',hB,hg,hnc,hcm,hcs,htake⟩
 ·simp at h'
 ·simp only [Value.slice.injEq,Option.some.injEq,Addr.mk.injEq,and_true,true_and] at h'
  obtain ⟨rfl,rfl⟩:=h'
  have key : ∀j (h:j<ns.length) i,i<6->cur[j*6+i]? = (encS ns[j] (V j))[i]? := fun j hj i hi=>by
   have e2:=hx j hj i hi
   rw [<-htake,List.getElem?_take,if_pos (by omega)] at e2
   simp only [List.getD,hj,List.getElem?_eq_getElem,Option.getD_some] at e2
   simpa using e2
  refine ⟨g,cur,rfl,hB,hlt.2,hg,hcs,fun j hj=>⟨⟨(V j).1,(V j).2,key j hj 2 (by omega),key j hj 3 (by omega),(hn j hj).1.plain,(hn j hj).2.plain⟩,fun i hi v hv a n c e => ?_⟩⟩
  subst e
  rcases hi with rfl | rfl | rfl | rfl
  all_goals (rw [key j hj _ (by omega)] at hv;simp [encS] at hv)
theorem FuncsO.marks {B:Nat} {w:World} {v:Value} {ns:List Fu} (h:FuncsO B w v ns):FuncsM B w.heap.size w v ns:=by
 obtain ⟨g,xs,V,rfl,ho,hx,hn⟩:=h
 have hlt:=own_lt ho
 rcases ho.2 with ⟨h',_⟩ | ⟨g',cap',cur,h',hB,hg,hnc,hcm,hcs,htake⟩
 ·simp at h'
 ·simp only [Value.slice.injEq,Option.some.injEq,Addr.mk.injEq,and_true,true_and] at h'
  obtain ⟨rfl,rfl⟩:=h'
  have key : ∀j (h:j<ns.length) i,i<3->cur[j*3+i]? = (encF ns[j] (V j))[i]? := fun j hj i hi=>by
   have e2:=hx j hj i hi
   rw [<-htake,List.getElem?_take,if_pos (by omega)] at e2
   simp only [List.getD,hj,List.getElem?_eq_getElem,Option.getD_some] at e2
   simpa using e2
  refine ⟨g,cur,rfl,hB,hlt.2,hg,hcs,fun j hj=>⟨⟨(V j).1,(V j).2,key j hj 1 (by omega),key j hj 2 (by omega),(hn j hj).1.plain,(hn j hj).2.marks⟩,fun v hv a n c e => ?_⟩⟩
  subst e
  have:=key j hj 0 (by omega)
  rw [Nat.add_zero] at this
  rw [this] at hv
  simp [encF] at hv
theorem sumQ_step (Q:List FV) (j:Nat) (hj:j<Q.length):sumQ (Q.take (j+1))=sumQ (Q.take j)+sumV Q[j]:=sumBy_step sumV Q j hj
def smallV (q:FV):Prop:=q.f.params.length<=1048576/\q.R.length<=1048576/\∀x∈q.R,smallS x.s
theorem markFo_any (B:Nat) (v:Value) (Q:List FV) (K:List Nat) (k:Nat) (w:World) (hn:Q.length<=1048576) (hsm : ∀q∈Q,smallV q) (h0:0<k) (hk:(k:Int)+(sumQ Q:Nat)<=1000000000) (h:FnM B w v Q K) :
  Calls Tryz.prog 38 #[v,.int .i64 k] w fun e w'=>e = .returned (.int .i64 ((k+sumQ Q:Nat):Int))/\FnM B w' v (mkQ k Q) K/\Tk (K++blkF Q) w w':=by
 have HP:=hide h
 have HSM:=hide hsm
 have HK:=hide hk
 obtain ⟨a,c,rfl,-⟩:=h.row.slice
 clear hsm hk h
 go_enter Tryz.func38,Tryz.ntmps38
 go_wp2_with fail
 go_loopw [1,5] (fun q i wr=>∃j:Nat,j<=Q.length/\i = .int .i64 j/\q = .int .i64 ((k+sumQ (Q.take j):Nat):Int)/\FnM B wr (.slice a Q.length c) (mkQ k (Q.take j)++Q.drop j) K/\Tk (K++blkF Q) w wr) (fun _ i _=>Q.length-(intOf i).toNat)
 case atStart=>exact ⟨0,Nat.zero_le _,rfl,by simp [sumQ,sumBy],by simpa [mkQ] using HP.out,Tk.refl _ _⟩
 case round=>
  obtain ⟨j,hj,rfl,rfl,hS,hT⟩:=hrel
  by_cases hlt:j<Q.length
  ·obtain ⟨hjl,hget,hset⟩:=mkQ_step k Q j hlt
   obtain ⟨P,hP⟩ : ∃P,P=mkQ k (Q.take j)++Q.drop j:=⟨_,rfl⟩
   rw [<-hP] at hS hset
   have hjP:j<P.length:=by rw [hP];exact hjl
   have hgP:P[j]=Q[j]:=by simp only [hP];exact hget
   obtain ⟨g,rfl,hKg,-,hBg,hgl,-⟩:=hS.row.pos (by omega)
   have hst:=sumQ_step Q j hlt
   have hle:sumQ (Q.take (j+1))<=sumQ Q:=sumBy_le sumV Q (j+1)
   have hsm:=HSM.out Q[j] (List.getElem_mem hlt)
   have hcs:sumV Q[j]=1+Q[j].f.params.length+sumR Q[j].R:=rfl
   have hKK:=HK.out
   obtain ⟨q,hq⟩ : ∃q,k+sumQ (Q.take j)=q:=⟨_,rfl⟩
   obtain ⟨x,hx⟩ : ∃x,Q[j]=x:=⟨_,rfl⟩
   rw [hx] at hgP hset hsm hcs hst
   have HQS:Hid (k+sumQ (Q.take (j+1))=q+(1+x.f.params.length+sumR x.R)):=by show _=_;omega
   have hqb:(q:Int)+1+x.f.params.length+(sumR x.R:Nat)<=1000000000:=by omega
   have hq0:0<q:=by omega
   rw [hq] at hset
   obtain ⟨hsp,hsb,hss⟩:=hsm
   have HSS:=hide hss
   subst hKg
   obtain ⟨o0,f0⟩:=hS.cell j hjP 0 (by omega)
   rw [hgP,Nat.add_zero] at o0
   rw [Nat.add_zero] at f0
   have HS0:=hide hS
   have HT0:=hide hT
   have HSet:=hide hset
   have HXin:Hid (∀y∈blk1 x,y ∈ [g]++blkF Q):=by
    rw [<-hx]
    exact fun y hy=>List.mem_append.2 (.inr (blkF_at hlt hy))
   have HG:=hide hgP
   rw [hq]
   clear hS hget hset hst hle hcs hKK hq hT hjl hss hgP o0 f0
   go_wp2_with fail
   refine (mtext_any q (by omega) (by omega) _).mono ?_
   rintro e w1 ⟨rfl,hb1⟩
   have S1:=HS0.out.below hb1
   obtain ⟨o0,f0⟩:=S1.cell j hjP 0 (by omega)
   rw [HG.out,Nat.add_zero] at o0
   rw [Nat.add_zero] at f0
   have o0':w1.cell? ⟨g,j*3,none⟩=some (.string x.f.name):=o0
   obtain ⟨W2,hW2⟩ : ∃W2,W2=w1.setCell ⟨g,j*3,none⟩ (.string (mtxt q)):=⟨_,rfl⟩
   have HS2:Hid (FnM B W2 (.slice (some ⟨g,0,none⟩) Q.length c) (P.set j ⟨⟨mtxt q,x.f.params,x.f.body⟩,x.vp,x.vb,x.R,x.kp,x.kb⟩) [g]):=by
    have:=S1.putN j hjP (mtxt q)
    rw [HG.out,<-hW2] at this
    exact this
   have HT2:Hid (Tk ([g]++blkF Q) w W2):=by rw [hW2];exact (HT0.out.trans (Tk.of_below hb1)).trans (Tk.put _ _ _ (by simp))
   obtain ⟨o1,-⟩:=HS2.out.cellS hjP 1 (by omega)
   have hok:=HS2.out.eachS hjP
   obtain ⟨pa,pc,hvp,-⟩:=hok.ps.slice
   have hvp':x.vp = .slice pa x.f.params.length pc:=hvp
   have o1':(w1.setCell ⟨g,j*3,none⟩ (.string (mtxt q))).cell? ⟨g,j*3+1,none⟩=some (.slice pa x.f.params.length pc):=by rw [<-hW2,<-hvp'];exact o1
   have HMp:Hid (Calls Tryz.prog 65 #[.slice pa x.f.params.length pc,.int .i64 ((q+1:Nat):Int)] W2 fun e w'=>e = .returned (.int .i64 ((q+1+1*x.f.params.length:Nat):Int))/\ROne B w' (.slice pa x.f.params.length pc) x.f.params.length (flatP (mkP (q+1) x.f.params)) x.kp/\Tk x.kp W2 w'):=by
    have h1:ROne B W2 x.vp x.f.params.length (flatP x.f.params) x.kp:=hok.ps
    rw [hvp'] at h1
    exact markPo_any B _ x.f.params x.kp (q+1) W2 hsp (by omega) (by omega) h1
   have HVp:=hide hvp'
   have HW2:=hide hW2
   obtain ⟨np,hnp⟩ : ∃np,x.f.params.length=np:=⟨_,rfl⟩
   have HNp:=hide hnp
   rw [hnp] at o1' hqb hsp
   clear o0 o1 hok hvp hvp' hb1 S1 HS0 HT0 hW2
   rw [hnp] at HMp HVp
   clear hnp
   go_wp2_with fail
   rw [<-HW2.out,show ((q:Int)+1)=((q+1:Nat):Int) by omega]
   refine HMp.out.mono ?_
   rintro e w2 ⟨rfl,hp2,ht2⟩
   have HS3:Hid (FnM B w2 (.slice (some ⟨g,0,none⟩) Q.length c) (P.set j ⟨⟨mtxt q,mkP (q+1) x.f.params,x.f.body⟩,x.vp,x.vb,x.R,x.kp,x.kb⟩) [g]):=by
    refine HS2.out.putP hjP (mkP (q+1) x.f.params) ?_ ht2
    show ROne B w2 x.vp (mkP (q+1) x.f.params).length _ x.kp
    rw [mkP_len,HVp.out,HNp.out]
    exact hp2
   have HT3:Hid (Tk ([g]++blkF Q) w w2):=HT2.out.trans (ht2.mono (fun y hy=>HXin.out y (List.mem_append.2 (.inl hy))))
   obtain ⟨o2,-⟩:=HS3.out.cellS hjP 2 (by omega)
   have hok:=HS3.out.eachS hjP
   obtain ⟨ba,bc,hvb,-⟩:=hok.body.row.slice
   have hvb':x.vb = .slice ba x.R.length bc:=hvb
   have o2':w2.cell? ⟨g,j*3+2,none⟩=some (.slice ba x.R.length bc):=by rw [<-hvb'];exact o2
   obtain ⟨z,hz⟩ : ∃z,q+1+1*np=z:=⟨_,rfl⟩
   have hzb:(z:Int)+(sumR x.R:Nat)<=1000000000:=by omega
   have HMb:Hid (Calls Tryz.prog 66 #[.slice ba x.R.length bc,.int .i64 ((z:Nat):Int)] w2 fun e w'=>e = .returned (.int .i64 ((z+sumR x.R:Nat):Int))/\StM B w' (.slice ba x.R.length bc) (mkR z x.R) x.kb/\Tk (x.kb++blkS x.R) w2 w'):=by
    have h1:StM B w2 x.vb x.R x.kb:=hok.body
    rw [hvb'] at h1
    exact markSo_any B _ x.R x.kb z w2 hsb HSS.out (by omega) hzb h1
   have HVb:=hide hvb'
   have HZ:=hide hz
   rw [hz]
   clear o2 hok hvb hvb' hz hp2 ht2 HS2 HT2 HMp o1' o0' f0 HW2 hqb
   go_wp2_with fail
   refine HMb.out.mono ?_
   rintro e w3 ⟨rfl,hb3,ht3⟩
   have HS4:Hid (FnM B w3 (.slice (some ⟨g,0,none⟩) Q.length c) (mkQ k (Q.take (j+1))++Q.drop (j+1)) [g]):=by
    have h1:=HS3.out.putB hjP (mkR z x.R) (by show StM B w3 x.vb _ x.kb;rw [HVb.out];exact hb3) (mkR_blk _ _) ht3
    have e:z=q+1+x.f.params.length:=by have:=HZ.out;have:=HNp.out;omega
    rw [<-HSet.out,mkV,<-e]
    exact h1
   have HT4:Hid (Tk ([g]++blkF Q) w w3):=HT3.out.trans (ht3.mono (fun y hy=>HXin.out y (List.mem_append.2 (.inr hy))))
   obtain ⟨y,hy⟩ : ∃y,z+sumR x.R=y:=⟨_,rfl⟩
   have HY:=hide hy
   rw [hy]
   clear hb3 ht3 HS3 HT3 HMb o2' hy hzb
   go_wp2_with fail
   go_roundw
   case rel=>
    refine ⟨j+1,by omega,by go_num,?_,HS4.out,HT4.out⟩
    have e0:=HQS.out
    have e1:=HNp.out
    have e3:=HZ.out
    have e4:=HY.out
    rw [show k+sumQ (Q.take (j+1))=y by omega]
   case measure=>simp [intOf];omega
  ·obtain rfl:j=Q.length:=by omega
   rw [List.take_length,List.drop_length,List.append_nil] at hS
   go_wp2_with fail
   go_ret
   exact ⟨ret_int' (by rw [List.take_length]),hS,hT⟩
end Go.Proofs.YtmddmgpijpjpbaaGreatDoor
