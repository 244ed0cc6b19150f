import Derived.Test.YtmddmgpijpjpbaaGreatDoorR42
import Derived.Test.YtmddmgpijpjpbaaGreatDoorR46
import Derived.Deep.RegionHeld3
import Derived.Deep.RegionHeldLaw
set_option linter.unusedSectionVars false
variable [Inhabited Go.Proofs.YtmddmgpijpjpbaaGreatDoor.Pick]
namespace Go.Proofs.YtmddmgpijpjpbaaGreatDoor
open Go.RowKit
set_option linter.unusedVariables false
set_option linter.unusedSimpArgs false
set_option maxRecDepth 100000
set_option maxHeartbeats 16000000
structure FV where
 f:Fu
 vp:Value
 vb:Value
 R:List SV
 kp:List Nat
 kb:List Nat
def cellsF (q:FV):List Value:=[.string q.f.name,q.vp,q.vb]
def flatF (Q:List FV):List Value:=Q.flatMap cellsF
def blk1 (q:FV):List Nat:=q.kp++(q.kb++blkS q.R)
def blkF (Q:List FV):List Nat:=Q.flatMap blk1
theorem flatF_len (Q:List FV):(flatF Q).length=Q.length*3:=by
 induction Q with
 | nil=>rfl
 | cons a r ih=>
  have:(flatF (a::r)).length=3+(flatF r).length:=by simp [flatF,cellsF];omega
  rw [this,ih,l_c]
  omega
theorem flatF_append (a b:List FV):flatF (a++b)=flatF a++flatF b:=by simp [flatF]
theorem blkF_append (a b:List FV):blkF (a++b)=blkF a++blkF b:=by simp [blkF]
theorem flatF_get : ∀(Q:List FV) (j i:Nat) (hj:j<Q.length),i<3->(flatF Q)[j*3+i]? = (cellsF Q[j])[i]?
 | x::l,0,i,_,hi=>by
  have:(cellsF x).length=3:=rfl
  show (cellsF x++flatF l)[0*3+i]? = _
  rw [List.getElem?_append_left (by omega)]
  simp
 | x::l,j+1,i,hj,hi=>by
  have h7:(cellsF x).length=3:=rfl
  show (cellsF x++flatF l)[(j+1)*3+i]? = _
  rw [List.getElem?_append_right (by omega)]
  have e:(j+1)*3+i-(cellsF x).length=j*3+i:=by omega
  rw [e,flatF_get l j i (by simpa using hj) hi]
  simp
structure FOk (B:Nat) (w:World) (q:FV):Prop where
 ps:ROne B w q.vp q.f.params.length (flatP q.f.params) q.kp
 body:StM B w q.vb q.R q.kb
 map:q.R.map (·.s)=q.f.body
 nd:(blk1 q).Nodup
theorem FnOne.fv {B:Nat} {w:World} {vp vb:Value} {r:Fu} {R:List SV} (h:FnOne B w vp vb r R) : ∃kp kb,FOk B w ⟨r,vp,vb,R,kp,kb⟩:=by
 obtain ⟨kp,a1,a2⟩:=ROne.of_own h.ps
 obtain ⟨kb,b1,b2⟩:=h.body.m
 refine ⟨kp,kb,a1,b1,h.map,?_⟩
 show (kp++(kb++blkS R)).Nodup
 rw [List.nodup_append]
 refine ⟨?_,b1.nd,fun x hx y hy e => ?_⟩
 ·rcases a1 with ⟨-,rfl,-⟩ | ⟨g,cap,-,rfl,-⟩ <;> simp
 ·subst e
  obtain ⟨s1,s2⟩:=h.sep x ((a2 x).2 hx)
  rcases List.mem_append.1 hy with hy | hy
  ·exact s2 ((b2 x).2 hy)
  ·exact s1 hy
theorem FOk.rng {B:Nat} {w:World} {q:FV} (h:FOk B w q) : ∀g∈blk1 q,B<=g/\g<w.heap.size:=by
 intro g hg
 rcases List.mem_append.1 hg with hg | hg
 ·exact h.ps.rng g hg
 ·exact h.body.rng g hg
theorem FOk.keep {B:Nat} {w w':World} {q:FV} (h:FOk B w q) (hs:w.heap.size<=w'.heap.size) (hk : ∀g∈blk1 q,w'.heap[g]? = w.heap[g]?):FOk B w' q:=
 ⟨h.ps.keep hs (fun g hg=>hk g (List.mem_append.2 (.inl hg))),h.body.keep hs (fun g hg=>hk g (List.mem_append.2 (.inr hg))),h.map,h.nd⟩
theorem FOk.below {B:Nat} {w w':World} {q:FV} (h:FOk B w q) (hb:Below w.heap.size w w'):FOk B w' q:=h.keep hb.size (fun g hg=>hb.block g (h.rng g hg).2)
theorem NOne.up {B B':Nat} {w:World} {v:Value} {n:Nat} {xs:List Value} {K:List Nat} (h:ROne B w v n xs K) (hb:B'<=B):ROne B' w v n xs K:=by
 rcases h with h | ⟨g,cap,h1,h2,h3,h4,h5,h6⟩
 ·exact .inl h
 ·exact .inr ⟨g,cap,h1,h2,h3,h4,Nat.le_trans hb h5,h6⟩
theorem FOk.base {B B':Nat} {w:World} {q:FV} (h:FOk B w q) (hb:B'<=B):FOk B' w q:=
 ⟨NOne.up h.ps hb,⟨NOne.up h.body.row hb,fun x hx=>⟨(h.body.each x hx).1.base hb,(h.body.each x hx).2.base hb⟩,h.body.nd⟩,h.map,h.nd⟩
theorem ROne.strs {B:Nat} {w:World} {v:Value} {ps:List ByteArray} {K:List Nat} (h:ROne B w v ps.length (flatP ps) K):Strs w v ps:=by
 rcases h with ⟨h0,-,a,c,rfl,hc⟩ | ⟨g,cap,rfl,-,h3,h4,-,-,h7⟩
 ·exact ⟨a,c,by rw [h0],by omega,hc,fun hp=>absurd hp (by omega)⟩
 ·refine ⟨_,cap,rfl,h3,h4,fun _=>⟨g,0,rfl,fun j hj => ?_⟩⟩
  rw [Nat.zero_add]
  exact (h7 j (.string ps[j]) (by simp [flatP,List.getElem?_eq_getElem hj])).1
theorem StM.stmts {B:Nat} {w:World} {v:Value} {R:List SV} {K:List Nat} (h:StM B w v R K):Stmts w v (R.map (·.s)):=by
 rcases h.row with ⟨h0,-,a,c,rfl,hc⟩ | ⟨g,cap,rfl,-,h3,h4,-,-,h7⟩
 ·exact ⟨a,c,by rw [List.length_map,h0],by rw [List.length_map];omega,hc,fun hp=>by rw [List.length_map] at hp;omega⟩
 ·refine ⟨some ⟨g,0,none⟩,cap,by rw [List.length_map],by rw [List.length_map];exact h3,h4,fun hp=>⟨g,0,rfl,fun j hj => ?_⟩⟩
  rw [List.length_map] at hj
  have key : ∀i (hi:i<6),w.cell? ⟨g,0+j*6+i,none⟩=(cellsS R[j])[i]? := fun i hi=>by
   have e:=flatS_get R j i hj hi
   have hl:i<(cellsS R[j]).length:=hi
   rw [List.getElem?_eq_getElem hl] at e ⊢
   rw [Nat.zero_add]
   exact (h7 _ _ e).1
  have he:=h.each R[j] (List.getElem_mem hj)
  refine ⟨R[j].ve,R[j].vf,?_,?_,?_⟩
  ·simp only [List.getElem_map]
   exact ⟨key 0 (by omega),key 1 (by omega),key 2 (by omega),key 3 (by omega),key 4 (by omega),key 5 (by omega)⟩
  ·simp only [List.getElem_map];exact he.1.nodes
  ·simp only [List.getElem_map];exact he.2.nodes
structure FnRow (B:Nat) (w:World) (v:Value) (Q:List FV):Prop where
 row:w.ownsRow B 85 3 v Q.length (flatF Q)
 each : ∀q∈Q,FOk B w q
 nd:(blkF Q).Nodup
 out : ∀g,v.ownBlock=some g->g∉blkF Q
theorem FnRow.nil (B:Nat) (w:World):FnRow B w (.slice none 0 0) []:=⟨World.ownsRow_nil _ _ _ _,fun q hq=>(by cases hq),List.nodup_nil,fun g hg=>(by simp [Value.ownBlock] at hg)⟩
theorem FnRow.rng {B:Nat} {w:World} {v:Value} {Q:List FV} (h:FnRow B w v Q) : ∀g∈blkF Q,B<=g/\g<w.heap.size:=by
 intro g hg
 obtain ⟨q,hq,hg⟩:=List.mem_flatMap.1 hg
 exact (h.each q hq).rng g hg
theorem blkF_in {Q:List FV} {q:FV} (hq:q∈Q) : ∀g∈blk1 q,g∈blkF Q:=fun g hg=>List.mem_flatMap.2 ⟨q,hq,hg⟩
theorem FnRow.below {B:Nat} {w w':World} {v:Value} {Q:List FV} (h:FnRow B w v Q) (hb:Below w.heap.size w w'):FnRow B w' v Q:=
 ⟨ownB h.row hb,fun q hq=>(h.each q hq).below hb,h.nd,h.out⟩
theorem FnRow.shape {B:Nat} {w:World} {v:Value} {Q:List FV} (h:FnRow B w v Q) : ∃a c,v = .slice a Q.length c:=by
 rcases h.row.2 with ⟨rfl,hz⟩ | ⟨g,cap,cur,rfl,_⟩
 ·exact ⟨none,0,by rw [hz]⟩
 ·exact ⟨_,cap,rfl⟩
theorem FnRow.funcs {B:Nat} {w:World} {v:Value} {Q:List FV} (h:FnRow B w v Q):Funcs w v (Q.map (·.f)):=by
 have h0:=h.row
 rcases h.row.2 with ⟨rfl,hz⟩ | ⟨g,cap,cur,rfl,h3,h4,h5⟩
 ·exact ⟨none,0,by rw [List.length_map,hz],by rw [List.length_map,hz];exact Nat.le_refl _,by omega,fun h=>by rw [List.length_map] at h;omega⟩
 ·have hc:Q.length<=cap/\cap<=9223372036854775807:=by
   obtain ⟨q1,q2,-⟩:=h5
   unfold maxLen at q2
   exact ⟨q1,q2⟩
  refine ⟨some ⟨g,0,none⟩,cap,by rw [List.length_map],by rw [List.length_map];exact hc.1,hc.2,fun hp=>⟨g,0,rfl,fun j hj => ?_⟩⟩
  rw [List.length_map] at hj
  have key : ∀i,i<3->w.cell? ⟨g,0+j*3+i,none⟩=(cellsF Q[j])[i]? := fun i hi=>by
   have hl:(flatF Q).length=Q.length*3:=flatF_len Q
   rw [Nat.zero_add,World.ownsRow.cellAt h0 (j*3+i) (by omega),flatF_get Q j i hj hi]
  have he:=h.each Q[j] (List.getElem_mem hj)
  refine ⟨Q[j].vp,Q[j].vb,?_,?_,?_⟩
  ·simp only [List.getElem_map]
   exact ⟨key 0 (by omega),key 1 (by omega),key 2 (by omega)⟩
  ·simp only [List.getElem_map];exact he.ps.strs
  ·simp only [List.getElem_map];rw [<-he.map];exact he.body.stmts
theorem info_func:(Tryz.prog.info? 85).map (fun i=>(i.zero,i.size,i.bytes))=some (some (.agg #[.string ⟨#[]⟩,.slice none 0 0,.slice none 0 0]),3,64):=by kernel_rfl
theorem fn_app {w:World} {B c:Nat} {v:Value} {ad:Addr} {Q:List FV} {q:FV} (ty:TypeId) (h:FnRow B w v Q) (hq:FOk B w q) (hcell : ∀j x,(cellsF q)[j]? = some x->w.cell? (ad.add j)=some x) (hsep : ∀g∈blk1 q,g∉blkF Q/\v.ownBlock≠some g) (hone:q.vp.oneCell'=true/\q.vb.oneCell'=true) (hB:B<=w.heap.size) (hm:Q.length<=100000) :
  ∃v' w',(Builtin.append_ #[32,32] ty #[v,.slice (some ad) 1 c]).run Tryz.prog w = .ok v' w'/\FnRow B w' v' (Q++[q])/\w.grownBy w' v.ownBlock/\∀k,v'.ownBlock=some k->v.ownBlock=some k∨w.heap.size<=k:=by
 obtain ⟨i0,hi,hz0,hz1,hz2⟩:=info_parts info_func
 obtain ⟨v',w',r1,r2,r3,r4⟩:=run_appG (P:=Tryz.prog) (w:=w) B 32 ty 85 i0 _ 3 64 Tryz.underlying32 hi hz0 hz1 hz2 rfl (by decide) v Q.length (flatF Q) h.row (some ad) 1 c (cellsF q) (fun h=>by cases h) rfl (fun a ha j x hx=>by cases ha;exact hcell j x hx) (fun u hu=>by
  simp only [cellsF,List.mem_cons,List.not_mem_nil,or_false] at hu
  rcases hu with rfl | rfl | rfl
  ·rfl
  ·exact hone.1
  ·exact hone.2) (by omega) (by decide) hB
 have hk : ∀x∈Q++[q],FOk B w x/\∀g∈blk1 x,v.ownBlock≠some g:=fun x hx=>by
  rcases List.mem_append.1 hx with hx | hx
  ·exact ⟨h.each x hx,fun g hg e=>h.out g e (blkF_in hx g hg)⟩
  ·simp only [List.mem_singleton] at hx
   subst hx
   exact ⟨hq,fun g hg=>(hsep g hg).2⟩
 refine ⟨v',w',r1,⟨?_,fun x hx => ?_,?_,fun g hg hmem => ?_⟩,r3,r4⟩
 ·rw [l_a,flatF_append]
  have:flatF [q]=cellsF q:=by simp [flatF]
  rw [this]
  exact r2
 ·obtain ⟨k1,k2⟩:=hk x hx
  exact k1.keep r3.size fun g hg=>r3.block g (k1.rng g hg).2 (fun e=>k2 g hg e.symm)
 ·rw [blkF_append,List.nodup_append]
  refine ⟨h.nd,by simpa [blkF] using hq.nd,fun x hx y hy e => ?_⟩
  subst e
  exact (hsep x (by simpa [blkF] using hy)).1 hx
 ·obtain ⟨x,hx,hg2⟩:=List.mem_flatMap.1 hmem
  obtain ⟨k1,k2⟩:=hk x hx
  rcases r4 g hg with hg' | hg'
  ·exact k2 g hg2 hg'
  ·have:=(k1.rng g hg2).2
   omega
theorem blkF_sub {Q Q':List FV} (h:Q.Sublist Q'):(blkF Q).Sublist (blkF Q'):=by
 induction h with
 | slnil=>exact List.Sublist.refl _
 | cons a h ih=>exact ih.trans (List.sublist_append_right (blk1 a) _)
 | cons_cons a h ih=>exact (List.Sublist.refl (blk1 a)).append ih
theorem FnRow.at {B:Nat} {w:World} {g c:Nat} {Q:List FV} (h:FnRow B w (.slice (some ⟨g,0,none⟩) Q.length c) Q) (j:Nat) (hj:j<Q.length):w.cell? ⟨g,j*3,none⟩=some (.string Q[j].f.name)/\w.cell? ⟨g,j*3+1,none⟩=some Q[j].vp/\w.cell? ⟨g,j*3+2,none⟩=some Q[j].vb:=by
 have key : ∀i,i<3->w.cell? ⟨g,j*3+i,none⟩=(cellsF Q[j])[i]? := fun i hi=>by
  have hl:(flatF Q).length=Q.length*3:=flatF_len Q
  rw [World.ownsRow.cellAt h.row (j*3+i) (by omega),flatF_get Q j i hj hi]
 exact ⟨key 0 (by omega),key 1 (by omega),key 2 (by omega)⟩
theorem FOk.slices {B:Nat} {w:World} {q:FV} (h:FOk B w q):(∃a n c,q.vp = .slice a n c)/\∃a n c,q.vb = .slice a n c:=by
 obtain ⟨a,c,h1,-⟩:=h.ps.slice
 obtain ⟨a',c',h2,-⟩:=h.body.row.slice
 exact ⟨⟨a,_,c,h1⟩,⟨a',_,c',h2⟩⟩
open Classical in
theorem needB_yes {gs:List Gl} {fs:List Fu} {m i:Nat} (h:i=m∨Rch ⟨gs,fs⟩ m i):needB gs fs m i=true:=by unfold needB;exact @decide_eq_true _ (pd _) h
open Classical in
theorem needB_no {gs:List Gl} {fs:List Fu} {m i:Nat} (h : ¬(i=m∨Rch ⟨gs,fs⟩ m i)):needB gs fs m i=false:=by unfold needB;exact @decide_eq_false _ (pd _) h
structure Left (B w0:Nat) (W:World) (v:Value) (P:Nat->Bool) (Q:List FV) (k:Nat):Prop where
 row:FnRow B W v (leftL P Q k)
 own : ∀g,v.ownBlock=some g->w0<=g
theorem neededFuncs_any (gs:List Gl) (Q:List FV) (m B:Nat) (vg vf:Value) (w:World) (hm:fnum (Q.map (·.f)) mainS=some m) (hl:Q.length<=1000) (hok : ∀q∈Q,OkF q.f) (hg : ∃a n c,vg = .slice a n c) (hf:FnRow B w vf Q) (hB:B<=w.heap.size) :
  Calls Tryz.prog 45 #[.agg #[vg,vf]] w fun e w'=>∃v,e = .returned v/\FnRow B w' v (leftL (needB gs (Q.map (·.f)) m) Q Q.length)/\Below w.heap.size w w':=by
 obtain ⟨ag,ng,cg,rfl⟩:=hg
 have HQ:=hide hf
 have HFu:Hid (Funcs w vf (Q.map (·.f))):=hf.funcs
 obtain ⟨af,cf,rfl⟩:=hf.shape
 have HM:=hide hm
 have hmn:m<Q.length:=by simpa using fnum_lt hm
 have HW:Hid (wfFs (Q.map (·.f))):=⟨by simp;omega,fun f hf=>by
  obtain ⟨q,hq,rfl⟩:=List.mem_map.1 hf
  exact (hok q hq).wf⟩
 have HSm:Hid (∀f∈Q.map (·.f),smallF f):=fun f hf=>by
  obtain ⟨q,hq,rfl⟩:=List.mem_map.1 hf
  exact (hok q hq).small
 obtain ⟨g,rfl⟩ : ∃g,af=some ⟨g,0,none⟩:=by
  rcases hf.row.2 with ⟨h,-⟩ | ⟨g,cap,cur,h,-⟩
  ·simp only [Value.slice.injEq] at h;omega
  ·simp only [Value.slice.injEq] at h;exact ⟨g,h.1⟩
 have hgl:g<w.heap.size:=(World.ownsRow.lt hf.row g rfl).2
 clear hf hm hok
 obtain ⟨P,hP⟩ : ∃P,P=needB gs (Q.map (fun q:FV=>q.f)) m:=⟨_,rfl⟩
 have HP:=hide hP
 rw [<-hP]
 clear hP
 go_enter Tryz.func45,Tryz.ntmps45
 go_wp2_with fail
 have hA:Bl w (w.alloc (.cells #[.slice ag ng cg,.slice (some ⟨g,0,none⟩) Q.length cf] 34)):=bel_a _ _
 have hql:(Q.map (·.f)).length=Q.length:=List.length_map _
 have HFn:Hid (Calls Tryz.prog 59 #[.agg #[.slice ag ng cg,.slice (some ⟨g,0,none⟩) Q.length cf]] (w.alloc (.cells #[.slice ag ng cg,.slice (some ⟨g,0,none⟩) Q.length cf] 34)) fun e w'=>∃b D,e = .returned (.map (some b))/\(w.alloc (.cells #[.slice ag ng cg,.slice (some ⟨g,0,none⟩) Q.length cf] 34)).heap.size<=b/\w'.ownsMap Tryz.prog 9 (plainElem (H:=Unit) Tryz.prog 2) b (Q.map (·.f)).length D/\NumIs D (Q.map (·.f))/\Below (w.alloc (.cells #[.slice ag ng cg,.slice (some ⟨g,0,none⟩) Q.length cf] 34)).heap.size (w.alloc (.cells #[.slice ag ng cg,.slice (some ⟨g,0,none⟩) Q.length cf] 34)) w'):=fnums_any (Q.map (fun q:FV=>q.f)) _ _ _ (by rw [hql];omega) HW.out (HFu.out.below hA)
 refine HFn.out.mono ?_
 rintro e w1 ⟨bn,D,rfl,hbn,hown,hN,hb1⟩
 simp only [World.size_alloc] at hb1 hbn
 obtain ⟨x0,x1⟩:=box2 hb1
 have hlook : ∀W:World,W=w1->(Instr.lookup 72 (.map (some bn)) (.string mainS) false).run Tryz.prog W = .ok (.int .i64 (m:Int)) W:=fun W h=>by subst h;exact look_numI hown hN (by decide) HM.out
 have hlook1:=hlook w1 rfl
 have hB1:Bl w w1:=one_below hb1
 have hsz1:=hb1.size
 simp only [World.size_alloc] at hsz1
 clear hown hN HFn hlook
 unfold mainS at hlook1
 have HGr:Hid (∀W,Bl w W->Calls Tryz.prog 76 #[.agg #[.slice ag ng cg,.slice (some ⟨g,0,none⟩) Q.length cf]] W fun e w'=>∃v,e = .returned v/\Graph w' v (Q.map (fun q:FV=>q.f))/\Bl W w'):=fun W hW=>graph_any (Q.map (fun q:FV=>q.f)) _ _ W (by rw [hql];omega) ⟨_,_,_,rfl⟩ HW.out HSm.out (HFu.out.below hW)
 have HRe:Hid (∀W v,Graph W v (Q.map (fun q:FV=>q.f))->Calls Tryz.prog 75 #[v,.int .i64 (m:Int)] W fun e w'=>∃v out,e = .returned v/\TRow W.heap.size w' v Q.length out/\(∀g,g∈out↔Rch ⟨gs,Q.map (fun q:FV=>q.f)⟩ m g)/\Bl W w'):=fun W v hv=>by
  have:=reached_any ⟨gs,Q.map (fun q:FV=>q.f)⟩ v m W (by rw [hql];exact hmn) (by rw [hql];exact hl) hv
  simp only [hql] at this
  exact this
 have HQl:=hide hql
 clear hql hA
 go_wp2_with fail
 refine (HGr.out w1 hB1).mono ?_
 rintro e w2 ⟨vgr,rfl,hgr,hb2⟩
 obtain ⟨G,capG,rfl,-⟩:=id hgr
 have HGp:=hide hgr
 rw [HQl.out] at HGp ⊢
 clear hgr
 have hB2:Bl w w2:=hB1.trans (hb2.mono hB1.size)
 clear hlook1 x0 x1
 have hbx:Below (w.heap.size+1) (w.alloc (.cells #[.slice ag ng cg,.slice (some ⟨g,0,none⟩) Q.length cf] 34)) w2:=hb1.trans (hb2.mono hsz1)
 go_wp2_with fail
 refine (HRe.out w2 _ HGp.out).mono ?_
 rintro e w3 ⟨vr,out,rfl,htr,hout,hb3⟩
 obtain ⟨g3,c3,rfl,-,hg3⟩:=htr.form (by omega)
 have hB3:Bl w w3:=hB2.trans (hb3.mono hB2.size)
 have hbx3:Below (w.heap.size+1) (w.alloc (.cells #[.slice ag ng cg,.slice (some ⟨g,0,none⟩) Q.length cf] 34)) w3:=hbx.trans (hb3.mono (by have:=hb2.size;omega))
 have HTR:=hide htr
 have HOut:=hide hout
 obtain ⟨x0,x1⟩:=box2 hbx3
 clear hb2 hb3 htr hout hbx hB2 hB1 hb1 HGr HRe HFu HW HSm hsz1
 go_wp2_with fail
 have hBB:=hB3.size
 go_loopw [5,18] (fun nv i wr=>∃k:Nat,k<=Q.length/\i = .int .i64 k/\FnRow B wr nv (leftL P Q k)/\(∀g,nv.ownBlock=some g->w3.heap.size<=g)/\Bl w3 wr) (fun _ i _=>Q.length-(RowKit.intOf i).toNat)
 case atStart=>exact ⟨0,Nat.zero_le _,rfl,FnRow.nil _ _,fun g hg=>by simp [Value.ownBlock] at hg,Below.refl _ _⟩
 case round=>
  obtain ⟨k,hk,rfl,hrow,hown,hBr⟩:=hrel
  obtain ⟨av,cv,rfl⟩:=hrow.shape
  have HRow:=hide hrow
  have HOw:=hide hown
  have hbw:Bl w wr:=hB3.trans (hBr.mono hB3.size)
  have HBw:=hide hbw
  have hsr:=hBr.size
  clear hrow hown
  obtain ⟨ll,hll⟩ : ∃ll,(leftL P Q k).length=ll:=⟨_,rfl⟩
  rw [hll] at HRow HOw ⊢
  have HLl:=hide hll
  clear hll
  by_cases hlt:k<Q.length
  ·obtain ⟨c0,c1,c2⟩:=(HQ.out.below hbw).at k hlt
   have hq:=(HQ.out.below hbw).each _ (List.getElem_mem hlt)
   have HQk:=hide hq
   obtain ⟨⟨pa,pn,pc,hp⟩,⟨ba,bn',bc,hbv⟩⟩:=hq.slices
   rw [hp] at c1
   rw [hbv] at c2
   obtain ⟨nm,hnm⟩ : ∃nm,Q[k].f.name=nm:=⟨_,rfl⟩
   rw [hnm] at c0
   have HV:Hid (cellsF Q[k] = [.string nm,.slice pa pn pc,.slice ba bn' bc]):=by show _=_;rw [cellsF,hnm,hp,hbv]
   have HS:Hid (Q[k].vp.oneCell'=true/\Q[k].vb.oneCell'=true):=⟨by rw [hp];rfl,by rw [hbv];rfl⟩
   have t0:=((HTR.out.below hBr).cell k hlt).1
   have i1:(0:Int)<=(k:Int):=by omega
   have i2:(k:Int)<(Q.length:Int):=by omega
   have hgr2:g3<wr.heap.size:=by omega
   have HPy:Hid ((k=m∨k∈out)->leftL P Q (k+1)=leftL P Q k++[Q[k]]):=fun h=>leftL_yes hlt (by
    rw [HP.out]
    exact needB_yes (h.imp id (HOut.out k).1))
   have HPn:Hid (¬(k=m∨k∈out)->leftL P Q (k+1)=leftL P Q k):=fun h=>leftL_no (by
    rw [HP.out]
    exact needB_no (fun h'=>h (h'.imp id (HOut.out k).2)))
   have hsub:=leftL_sub P Q k (by omega)
   have hnd:=HQ.out.nd
   have HSep:Hid (∀x∈blk1 Q[k],x∉blkF (leftL P Q k)/\(Value.slice av ll cv).ownBlock≠some x):=fun x hx=>by
    refine ⟨fun h => ?_,fun h => ?_⟩
    ·have e:Q=Q.take k++Q[k]::Q.drop (k+1):=by rw [<-List.drop_eq_getElem_cons hlt,List.take_append_drop]
     rw [e,blkF_append,List.nodup_append] at hnd
     exact hnd.2.2 x ((blkF_sub hsub).subset h) x (List.mem_append.2 (.inl hx)) rfl
    ·have h1:=HOw.out x h
     have h2:=(HQ.out.each _ (List.getElem_mem hlt)).rng x hx
     omega
   have HMk:Hid (∀W,Bl wr W->FOk B W Q[k]/\FnRow B W (.slice av ll cv) (leftL P Q k)):=fun W hW=>⟨HQk.out.below hW,HRow.out.below hW⟩
   clear hq hp hbv hnm hbw hsub hnd
   by_cases hin:k=m∨k∈out
   ·have HL1:Hid (leftL P Q (k+1)=leftL P Q k++[Q[k]]):=HPy.out hin
    obtain ⟨W1,hW1⟩ : ∃W1,W1=(wr.alloc (.cells #[.string nm,.slice pa pn pc,.slice ba bn' bc] 85)).alloc (.cells #[.string nm,.slice pa pn pc,.slice ba bn' bc] 85):=⟨_,rfl⟩
    have hb1:Bl wr W1:=by rw [hW1];exact (bel_a _ _).alloc (by simp) _
    obtain ⟨hq1,hr1⟩:=HMk.out W1 hb1
    obtain ⟨v',w4,r1,r2,r3,r4⟩:=fn_app (w:=W1) (B:=B) (c:=1) (ad:=⟨wr.heap.size+1,0,none⟩) 32 hr1 hq1 (fun j x hx=>by
     rw [HV.out] at hx
     have hl:=(List.getElem?_eq_some_iff.1 hx).1
     simp only [l_c,l_n] at hl
     rw [hW1]
     match j,hl with
     | 0,_=>simp [addrO] at hx ⊢;exact hx
     | 1,_=>simp [addrO] at hx ⊢;exact hx
     | 2,_=>simp [addrO] at hx ⊢;exact hx) HSep.out HS.out (by have:=hb1.size;omega) (by rw [HLl.out];have:=leftL_len P Q k;rw [HLl.out] at this;omega)
    obtain ⟨av4,cv4,rfl⟩:=r2.shape
    have hb4:Bl w3 w4:=(hBr.trans (hb1.mono hBr.size)).grown r3 (by have:=hb1.size;omega) (fun g hg=>HOw.out g hg)
    have HF4:=hide r2
    have HO4:Hid (∀g,(Value.slice av4 (leftL P Q k++[Q[k]]).length cv4).ownBlock=some g->w3.heap.size<=g):=fun g hg=>by
     rcases r4 g hg with h | h
     ·exact HOw.out g h
     ·have:=hb1.size;omega
    obtain ⟨l4,hl4⟩ : ∃l4,(leftL P Q k++[Q[k]]).length=l4:=⟨_,rfl⟩
    rw [hl4] at r1 HF4 HO4
    rw [hW1] at r1
    clear r2 r3 r4 hq1 hr1 hl4 hb1 hW1
    by_cases hkm:k=m
    ·subst hkm
     have b1:((k:Int) == (k:Int))=true:=by simp
     go_wp2_with (at_builtin;refine wpList_appG rfl _ _ _ rfl _ _ (.slice av4 l4 cv4) w4 rfl rfl r1 ?_)
     go_wp2_with fail
     go_roundw
     case rel=>exact ⟨k+1,by omega,by go_num,by rw [HL1.out];exact HF4.out,HO4.out,hb4⟩
     case measure=>simp [RowKit.intOf];omega
    ·have b1:((k:Int) == (m:Int))=false:=by
      have : ¬(k:Int)=(m:Int):=by omega
      simpa using this
     rw [decide_eq_true (hin.resolve_left hkm)] at t0
     go_wp2_with (at_builtin;refine wpList_appG rfl _ _ _ rfl _ _ (.slice av4 l4 cv4) w4 rfl rfl r1 ?_)
     go_wp2_with fail
     go_roundw
     case rel=>exact ⟨k+1,by omega,by go_num,by rw [HL1.out];exact HF4.out,HO4.out,hb4⟩
     case measure=>simp [RowKit.intOf];omega
   ·have HL1:Hid (leftL P Q (k+1)=leftL P Q k):=HPn.out hin
    have hkm : ¬(k:Int)=(m:Int):=fun h=>hin (.inl (by omega))
    have b1:((k:Int) == (m:Int))=false:=by simpa using hkm
    rw [decide_eq_false (fun h=>hin (.inr h))] at t0
    have hA4:Bl w3 (wr.alloc (.cells #[.string nm,.slice pa pn pc,.slice ba bn' bc] 85)):=hBr.alloc hBr.size _
    have HF4:Hid (FnRow B (wr.alloc (.cells #[.string nm,.slice pa pn pc,.slice ba bn' bc] 85)) (.slice av ll cv) (leftL P Q (k+1))):=by
     rw [HL1.out]
     exact (HMk.out _ (bel_a _ _)).2
    clear hin
    go_wp2_with fail
    go_roundw
    case rel=>exact ⟨k+1,by omega,by go_num,HF4.out,HOw.out,hA4⟩
    case measure=>simp [RowKit.intOf];omega
  ·obtain rfl:k=Q.length:=by omega
   have HB4:Hid (Bl w wr):=hB3.trans (hBr.mono hB3.size)
   go_wp2_with fail
   go_ret
   exact ⟨_,rfl,HRow.out,HB4.out⟩
open Classical in
theorem sound_any (t:Tr) (vg vf:Value) (w:World) (hT:Tab w) (hs:smallT t) (hw:wfT t) (hg:Globs w vg t.globals) (hf:Funcs w vf t.funcs) :
  Calls Tryz.prog 31 #[.agg #[vg,vf]] w fun e w'=>e = .returned (.bool (decide ((checkE t).1=0)))/\Below w.heap.size w w':=by
 obtain ⟨x,y,z,hX⟩ : ∃x y z,checkE t=(x,y,z):=⟨_,_,_,rfl⟩
 obtain ⟨ag,cg,rfl,-⟩:=id hg
 obtain ⟨af,cf,rfl,-⟩:=id hf
 have hA : ∀o,Bl w (w.alloc o):=fun o=>(Below.refl _ _).alloc (Nat.le_refl _) o
 have HC:Hid (∀W,Bl w W->Calls Tryz.prog 58 #[.agg #[.slice ag t.globals.length cg,.slice af t.funcs.length cf]] W fun e w'=>e = .returned (errV x y z)/\Bl W w'):=fun W hW=>by
  have:=checkI_any t _ _ W (hT.below hT.size hW) hs hw (hg.below hW) (hf.below hW)
  rw [hX] at this
  exact this
 rw [hX]
 simp only
 by_cases hz:x=0
 ·subst hz
  rw [decide_eq_true rfl]
  go_enter Tryz.func31,Tryz.ntmps31
  go_wp2_with fail
  refine (HC.out _ (hA _)).mono ?_
  rintro e w1 ⟨rfl,hb1⟩
  rw [errV_zero]
  have hB1:=(hA _).trans (hb1.mono (hA _).size)
  go_wp2_with fail
  go_ret
  exact ⟨rfl,hB1⟩
 ·rw [decide_eq_false hz]
  go_enter Tryz.func31,Tryz.ntmps31
  go_wp2_with fail
  refine (HC.out _ (hA _)).mono ?_
  rintro e w1 ⟨rfl,hb1⟩
  rw [errV_ne hz]
  have hB1:=(hA _).trans (hb1.mono (hA _).size)
  go_wp2_with fail
  go_ret
  exact ⟨rfl,hB1⟩
theorem sound_tree {t:Tr} (h:(checkE t).1=0):treeB t=true:=by
 unfold checkE at h
 by_cases h1:treeB t=false
 ·rw [if_pos h1] at h;cases h
 ·simpa using h1
theorem step_appR {P:Program} {w:World} {ops:Array Oper} {o:Oper} {a:Act} {K:Act->World->Prop} {Q:Exit->Act->World->Prop} {E:Prop} (hgd:o.guard=none) (s x:Operand) (t:TypeId)
  (ho:o.op = .call {callee:=.builtin .append,args:=#[s,x],argTypes:=#[t,t]}) (v vx v':Value) (w':World) (hs:a.eval s=v) (hx:a.eval x=vx)
  (hr:(Builtin.append_ #[t,t] o.type #[v,vx]).run P w = .ok v' w') (h:K (a.put o.dst v') w') :
  if Region.wanted o (yielded ops a.tmps)=true then Oper.wp P o a w K Q else E:=by
 have hw:Region.wanted o (yielded ops a.tmps)=true:=by simp [Region.wanted,hgd]
 rw [if_pos hw]
 unfold Oper.wp execOp
 simp only [ho,resolve,invoke,builtin,Sem.run_bind,Sem.run_pure,Result.andThen_ok,List.map_toArray,List.map_cons,List.map_nil,hs,hx,hr]
 exact h
structure TreeOwn (B:Nat) (w:World) (vg vf:Value) (r:Tr) (Q:List FV):Prop where
 gs:w.ownsRow B 58 2 vg r.globals.length (flatG r.globals)
 fs:FnRow B w vf Q
 map:Q.map (·.f)=r.funcs
 sep : ∀g,vg.ownBlock=some g->g∉blkF Q/\vf.ownBlock≠some g
theorem TreeOwn.nil (B:Nat) (w:World):TreeOwn B w (.slice none 0 0) (.slice none 0 0) ⟨[],[]⟩ []:=
 ⟨World.ownsRow_nil _ _ _ _,FnRow.nil _ _,rfl,fun g hg=>by simp [Value.ownBlock] at hg⟩
theorem FOk.keepB {B:Nat} {w w':World} {q:FV} (h:FOk B w q) (hs:w.heap.size<=w'.heap.size) (hk : ∀g,B<=g->g<w.heap.size->w'.heap[g]? = w.heap[g]?):FOk B w' q:=h.keep hs (fun g hg=>hk g (h.rng g hg).1 (h.rng g hg).2)
theorem FnRow.keepB {B:Nat} {w w':World} {v:Value} {Q:List FV} (h:FnRow B w v Q) (hs:w.heap.size<=w'.heap.size) (hk : ∀g,B<=g->g<w.heap.size->w'.heap[g]? = w.heap[g]?):FnRow B w' v Q:=
 ⟨own_keep h.row fun g hg=>hk g (World.ownsRow.lt h.row g hg).1 (World.ownsRow.lt h.row g hg).2,fun q hq=>(h.each q hq).keepB hs hk,h.nd,h.out⟩
theorem FnRow.base {B B':Nat} {w:World} {v:Value} {Q:List FV} (h:FnRow B w v Q) (hb:B'<=B):FnRow B' w v Q:=
 ⟨own_base h.row hb,fun q hq=>(h.each q hq).base hb,h.nd,h.out⟩
theorem globs_flat {w:World} {v:Value} {gs:List Gl} (h:Globs w v gs) : ∃a cap,v = .slice a gs.length cap/\(a=none->gs.length=0)/\∀ad,a=some ad->∀j u,(flatG gs)[j]? = some u->w.cell? (ad.add j)=some u:=by
 obtain ⟨a,cap,rfl,-,-,h⟩:=h
 refine ⟨a,cap,rfl,fun e => ?_,fun ad had j u hu => ?_⟩
 ·rcases Nat.eq_zero_or_pos gs.length with h0 | h0
  ·exact h0
  ·obtain ⟨b,off,e',-⟩:=h h0
   rw [e] at e';cases e'
 ·have hl:=(List.getElem?_eq_some_iff.1 hu).1
  rw [flatG_len] at hl
  obtain ⟨b,off,e',hc⟩:=h (by omega)
  rw [had] at e'
  cases e'
  have hget : ∀(l:List Gl) (m i:Nat) (hm:m<l.length),i<2->(flatG l)[m*2+i]? = (cellsG l[m])[i]? := by
   intro l
   induction l with
   | nil=>intro m i hm;simp at hm
   | cons x r ih=>
    intro m i hm hi
    cases m with
    | zero=>
     show (cellsG x++flatG r)[0*2+i]? = _
     have:(cellsG x).length=2:=rfl
     rw [List.getElem?_append_left (by omega)]
     simp
    | succ m=>
     show (cellsG x++flatG r)[(m+1)*2+i]? = _
     have h7:(cellsG x).length=2:=rfl
     rw [List.getElem?_append_right (by omega)]
     have e:(m+1)*2+i-(cellsG x).length=m*2+i:=by omega
     rw [e,ih m i (by simpa using hm) hi]
     simp
  obtain ⟨m,i,rfl,hi,hm⟩ : ∃m i,j=m*2+i/\i<2/\m<gs.length:=⟨j / 2,j % 2,by omega,by omega,by omega⟩
  rw [hget gs m i hm hi] at hu
  obtain ⟨c0,c1⟩:=hc m hm
  rw [addrO,<-Nat.add_assoc]
  match i,hi with
  | 0,_=>exact c0.trans hu
  | 1,_=>exact c1.trans hu
theorem box_fr2 (w:World) (x0 x1:Value) (t:TypeId):FrC (w.alloc (.cells #[x0,x1] t)) w.heap.size [x0,x1]:=by
 intro j x hj
 have hh:(w.alloc (.cells #[x0,x1] t)).heap[w.heap.size]? = some (.cells #[x0,x1] t (0,0)):=(MapKept.heap_alloc w _).1
 have hz : ∀j,(w.alloc (.cells #[x0,x1] t)).frozen? ⟨w.heap.size,j,none⟩=false:=fun j=>by
  unfold World.frozen?
  simp only [hh]
  simp
 have hl:=(List.getElem?_eq_some_iff.1 hj).1
 simp only [l_c,l_n] at hl
 match j,hl with
 | 0,_=>exact ⟨by simp at hj ⊢;exact hj,hz _⟩
 | 1,_=>exact ⟨by simp at hj ⊢;exact hj,hz _⟩
theorem FrC.two {w:World} {g:Nat} {x0 x1:Value} (h:FrC w g [x0,x1]):w.cell? ⟨g,0,none⟩=some x0/\w.cell? ⟨g,1,none⟩=some x1/\w.frozen? ⟨g,0,none⟩=false/\w.frozen? ⟨g,1,none⟩=false:=
 ⟨(h 0 x0 rfl).1,(h 1 x1 rfl).1,(h 0 x0 rfl).2,(h 1 x1 rfl).2⟩
theorem simplifyI_bad (t:Tr) (vg vf:Value) (w:World) (hT:Tab w) (hs:smallT t) (hw:wfT t) (hg:Globs w vg t.globals) (hf:Funcs w vf t.funcs) (hz:(checkE t).1≠0) :
  Calls Tryz.prog 18 #[.agg #[vg,vf]] w fun e w'=>∃vg' vf' Q,e = .returned (.agg #[vg',vf'])/\TreeOwn w.heap.size w' vg' vf' ⟨[],[]⟩ Q/\Below w.heap.size w w':=by
 have HSd:Hid (∀W,Bl w W->Calls Tryz.prog 31 #[.agg #[vg,vf]] W fun e w'=>e = .returned (.bool false)/\Bl W w'):=fun W hW=>by
  have:=sound_any t vg vf W (hT.below hT.size hW) hs hw (hg.below hW) (hf.below hW)
  rw [decide_eq_false hz] at this
  exact this
 obtain ⟨ag,cg,rfl,-⟩:=hg
 obtain ⟨af,cf,rfl,-⟩:=hf
 clear hT hs hw hz
 go_enter Tryz.func18,Tryz.ntmps18
 go_wp2_with fail
 obtain ⟨M,hM⟩ : ∃M,M=w.heap.size:=⟨_,rfl⟩
 obtain ⟨W0,hW0⟩ : ∃W0,W0=((w.alloc (.cells #[.slice ag t.globals.length cg,.slice af t.funcs.length cf] 34)).alloc (.cells #[.slice none 0 0,.slice none 0 0] 34)):=⟨_,rfl⟩
 have hs0:W0.heap.size=M+2:=by rw [hW0,hM];simp
 have hb0:Bl w W0:=by rw [hW0];exact (bel_a _ _).alloc (by simp) _
 have HX0:Hid (FrC W0 (M+1) [.slice none 0 0,.slice none 0 0]):=by
  have:=box_fr2 (w.alloc (.cells #[.slice ag t.globals.length cg,.slice af t.funcs.length cf] 34)) (.slice none 0 0) (.slice none 0 0) 34
  rw [World.size_alloc,<-hM,<-hW0] at this
  exact this
 rw [<-hW0,<-hM]
 have HMw:=hide hM
 clear hW0 hM
 refine (HSd.out W0 hb0).mono ?_
 rintro e w1 ⟨rfl,hb1⟩
 obtain ⟨y0,y1,z0,z1⟩:=(HX0.out.below hb1).two
 have hbf:Bl w ((w1.setCell ⟨M+1,0,none⟩ (.slice none 0 0)).setCell ⟨M+1,1,none⟩ (.slice none 0 0)):=by
  have:=HMw.out
  exact ((hb0.trans (hb1.mono hb0.size)).setCell (p:=⟨M+1,0,none⟩) (by show _<=M+1;omega) _).setCell (p:=⟨M+1,1,none⟩) (by show _<=M+1;omega) _
 have HBf:=hide hbf
 have HXf:=(((HX0.out.below hb1).set 0 (.slice none 0 0)).set 1 (.slice none 0 0)).two
 obtain ⟨t0,t1,-,-⟩:=HXf
 clear hb1 hb0 hbf
 go_wp2_with fail
 refine bodyPost_ret (v:=.agg #[.slice none 0 0,.slice none 0 0]) (by simp [results,Tryz.results18,go_sem,t0,t1]) rfl ⟨_,_,[],rfl,TreeOwn.nil _ _,HBf.out⟩
end Go.Proofs.YtmddmgpijpjpbaaGreatDoor
