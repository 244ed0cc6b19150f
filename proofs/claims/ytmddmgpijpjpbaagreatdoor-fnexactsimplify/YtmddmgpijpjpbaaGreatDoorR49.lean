import Derived.Deep.RegionHeldLaw
import Derived.Test.YtmddmgpijpjpbaaGreatDoorProg
import Derived.Test.YtmddmgpijpjpbaaGreatDoorR48
set_option linter.unusedSectionVars false
variable [Inhabited Go.Proofs.YtmddmgpijpjpbaaGreatDoor.Pick]
namespace Go.Proofs.YtmddmgpijpjpbaaGreatDoor
open Go.RowKit
set_option linter.unusedVariables false
set_option linter.unusedSimpArgs false
set_option maxRecDepth 100000
set_option maxHeartbeats 16000000
section
variable {P:Program} {ops:Array Oper} {Q:Exit->Act->World->Prop} {md:Region.Mode} {S:World->Prop} {l:Nat}
def wpAnyE (P:Program) (md:Region.Mode) (ops:Array Oper) (Q:Exit->Act->World->Prop) (S:World->Prop) (l:Nat):Nat->Array Bool->Act->World->Prop
 | 0,listed,a,w=>Region.ready md ops listed = []/\Q .normal a w
 | fuel+1,listed,a,w=>
  (Region.ready md ops listed = []->Q .normal a w) /\
  ∀i∈Region.ready md ops listed,wpOp P ops Q i (fun a' w'=>(i≠l->S w')/\wpAnyE P md ops Q S l fuel (listed.setIfInBounds i true) a' w') a w
theorem wpAny_of_E : ∀(fuel:Nat) (listed:Array Bool) (a:Act) (w:World),wpAnyE P md ops Q S l fuel listed a w->wpAny P md ops Q fuel listed a w
 | 0,_,_,_,h=>h
 | fuel+1,_,_,_,h=>⟨h.1,fun i hi=>wpOp_mono (fun a' w' h'=>wpAny_of_E fuel _ a' w' h'.2) (h.2 i hi)⟩
def chnB (md:Region.Mode) (ops:Array Oper):Nat->List Nat->Bool
 | _,[]=>true
 | x,y::r=>((ops[y]?).map fun o=>o.after.toList.any fun e=>Region.binds md e && e.on == x).getD false && chnB md ops y r
def dclB (listed:Array Bool):Nat->List Nat->Bool
 | _,[]=>true
 | x,y::r=>(!(listed.getD y false) || listed.getD x false) && dclB listed y r
def lastOf:Nat->List Nat->Nat
 | x,[]=>x
 | _,y::r=>lastOf y r
theorem chn_edge {x y:Nat} {r:List Nat} {listed:Array Bool} (h:chnB md ops x (y::r)=true) (hy:y∈Region.ready md ops listed):listed.getD x false=true:=by
 simp only [chnB,Bool.and_eq_true] at h
 obtain ⟨h,-⟩:=h
 obtain ⟨-,o,ho,hall⟩:=mem_ready.1 hy
 rw [ho] at h
 simp only [Option.map_some,Option.getD_some,List.any_eq_true] at h
 obtain ⟨e,he,hb⟩:=h
 have he:e∈o.after:=by simpa using he
 simp only [Bool.and_eq_true,beq_iff_eq] at hb
 have:=hall e he hb.1
 rwa [hb.2] at this
theorem chn_last : ∀(c:List Nat) (x:Nat) (listed:Array Bool),c ≠ []->chnB md ops x c=true->dclB listed x c=true->lastOf x c∈Region.ready md ops listed->listed.getD x false=true
 | [],_,_,h,_,_,_=>absurd rfl h
 | [y],x,listed,_,hc,_,hr=>chn_edge hc hr
 | y::z::r,x,listed,_,hc,hd,hr=>by
  simp only [dclB,Bool.and_eq_true] at hd
  have hc':chnB md ops y (z::r)=true:=by
   simp only [chnB,Bool.and_eq_true] at hc ⊢
   exact hc.2
  have:=chn_last (z::r) y listed (by simp) hc' (by simp only [dclB,Bool.and_eq_true];exact hd.2) hr
  have h1:=hd.1
  rw [this] at h1
  simpa using h1
theorem dcl_set : ∀(c:List Nat) (x:Nat) (listed:Array Bool) (j:Nat),chnB md ops x c=true->dclB listed x c=true->j∈Region.ready md ops listed->dclB (listed.setIfInBounds j true) x c=true
 | [],_,_,_,_,_,_=>rfl
 | y::r,x,listed,j,hc,hd,hj=>by
  simp only [dclB,Bool.and_eq_true] at hd ⊢
  have hc':chnB md ops y r=true:=by
   simp only [chnB,Bool.and_eq_true] at hc
   exact hc.2
  refine ⟨?_,dcl_set r y listed j hc' hd.2 hj⟩
  by_cases e:j=y
  ·subst e
   rw [getD_set_true (chn_edge hc hj)]
   simp
  ·rw [getD_set_ne false e]
   rcases Bool.or_eq_true_iff.1 hd.1 with h | h
   ·rw [h];rfl
   ·rw [getD_set_true h];simp
theorem wpAnyE_first {i:Nat} {oi:Oper} {v:Value} {c:List Nat} (hi:ops[i]? = some oi) (hsel : ∀(j:Nat) (o:Oper) cs b,ops[j]? = some o->o.op ≠ .select cs b)
  (hQ : ∀c a w,Q (.panic c) (a.put oi.dst v) w->Q (.panic c) a w) (hne:c ≠ []) (hc:chnB md ops i c=true) (hl:lastOf i c=l) :
  ∀(fuel:Nat) (listed:Array Bool) (a:Act) (w:World),
   (∀j oj,ops[j]? = some oj->j≠i->listed.getD j true=false->(∀e∈oj.after,Region.binds md e=true->e.on≠i)->oi.apart ops oj=true) ->
   i∈Region.ready md ops listed->dclB listed i c=true->YieldsIf P ops S oi v a->S w ->
   wpAnyE P md ops Q S l fuel (listed.setIfInBounds i true) (a.put oi.dst v) w->wpAnyE P md ops Q S l (fuel+1) listed a w:=by
 have hnl : ∀(listed:Array Bool),i∈Region.ready md ops listed->dclB listed i c=true->l∉Region.ready md ops listed:=fun listed hr hd h=>by
  have h1:=chn_last c i listed hne hc hd (by rw [hl];exact h)
  have h0:=(mem_ready.1 hr).1
  rcases Nat.lt_or_ge i listed.size with h' | h'
  ·simp [h'] at h0 h1;rw [h0] at h1;cases h1
  ·simp [Array.getElem?_eq_none h'] at h1
 intro fuel
 induction fuel with
 | zero=>
  intro listed a w _ hr hd hy hS H
  refine ⟨fun h=>(by rw [h] at hr;cases hr),fun j hj => ?_⟩
  by_cases hji:j=i
  ·subst hji;exact hy.wpOp hi hS ⟨fun _=>hS,H⟩
  ·have:=ready_mono hj hji
   rw [H.1] at this
   cases this
 | succ fuel ih=>
  intro listed a w hfree hr hd hy hS H
  refine ⟨fun h=>(by rw [h] at hr;cases hr),fun j hj => ?_⟩
  by_cases hji:j=i
  ·subst hji;exact hy.wpOp hi hS ⟨fun _=>hS,H⟩
  ·have hjl:j≠l:=fun e=>hnl listed hr hd (e ▸ hj)
   have h1:=H.2 j (ready_mono hj hji)
   obtain ⟨hjun,oj,hoj,hall⟩:=mem_ready.1 hj
   have hnot : ∀e∈oj.after,Region.binds md e=true->e.on≠i:=fun e he hb heq=>by
    have h1:=hall e he hb
    have h0:=(mem_ready.1 hr).1
    rw [heq] at h1
    rcases Nat.lt_or_ge i listed.size with h' | h'
    ·simp [h'] at h0 h1;rw [h0] at h1;cases h1
    ·simp [Array.getElem?_eq_none h'] at h1
   have h2:=wpOp_putIf hoj (hfree j oj hoj hji hjun hnot) (fun cs b=>hsel i oi cs b hi) (fun cs b=>hsel j oj cs b hoj) hQ hy h1
   have hfree' : ∀k ok,ops[k]? = some ok->k≠i->(listed.setIfInBounds j true).getD k true=false ->
     (∀e∈ok.after,Region.binds md e=true->e.on≠i)->oi.apart ops ok=true:=fun k ok hk hki hun hno=>by
    refine hfree k ok hk hki ?_ hno
    by_cases hjk:j=k
    ·subst hjk;exact hjun
    ·rw [getD_set_ne true hjk] at hun;exact hun
   refine wpOp_mono (fun a' w' h3=>⟨h3.2.1,ih (listed.setIfInBounds j true) a' w' hfree' (ready_mono hr (Ne.symm hji)) (dcl_set c i listed j hc hd hj) h3.1 (h3.2.1 hjl) ?_⟩) h2
   rw [Array.setIfInBounds_comm _ _ hji]
   exact h3.2.2
theorem wpAnyE_take {i:Nat} {oi:Oper} {v:Value} {fuel:Nat} {listed:Array Bool} {a:Act} {w:World} (c:List Nat) (hi:ops[i]? = some oi)
  (hs:Region.noSelect ops=true) (hf:Region.free md ops listed i=true) (hr:(Region.ready md ops listed).contains i=true)
  (hc:(!c.isEmpty && chnB md ops i c && lastOf i c == l && dclB listed i c)=true)
  (hQ : ∀c a w,Q (.panic c) (a.put oi.dst v) w->Q (.panic c) a w) (hy:YieldsIf P ops S oi v a) (hS:S w)
  (h:wpAnyE P md ops Q S l fuel (listed.setIfInBounds i true) (a.put oi.dst v) w):wpAnyE P md ops Q S l (fuel+1) listed a w:=by
 simp only [Bool.and_eq_true,Bool.not_eq_true',beq_iff_eq] at hc
 obtain ⟨⟨⟨h1,h2⟩,h3⟩,h4⟩:=hc
 exact wpAnyE_first hi (Region.noSelect_spec hs) hQ (by intro e;rw [e] at h1;cases h1) h2 h3 fuel listed a w (Region.free_spec hi hf) (by simpa using hr) h4 hy hS h
theorem wpAnyE_one {i:Nat} {o:Oper} {fuel:Nat} {listed:Array Bool} {a:Act} {w:World} (hr:Region.ready md ops listed = [i]) (ho:ops[i]? = some o)
  (h : ∀K:Act->World->Prop,Shut (∀a' w',(i≠l->S w')->wpAnyE P md ops Q S l fuel (listed.setIfInBounds i true) a' w'->K a' w')->if Region.wanted o (yielded ops a.tmps)=true then o.wp P a w K Q else K (a.put o.dst undef) w):wpAnyE P md ops Q S l (fuel+1) listed a w:=by
 refine ⟨fun h0=>(by rw [hr] at h0;cases h0),fun j hj => ?_⟩
 rw [hr] at hj
 obtain rfl:j=i:=by simpa using hj
 unfold wpOp
 simp only [ho]
 have:=h (fun a' w'=>(j≠l->S w')/\wpAnyE P md ops Q S l fuel (listed.setIfInBounds j true) a' w') (fun a' w' h1 h2=>⟨h1,h2⟩)
 split
 ·rename_i hw
  rw [if_pos hw] at this
  exact .inl this
 ·rename_i hw
  rw [if_neg hw] at this
  exact this
theorem wpAnyE_done {listed:Array Bool} {a:Act} {w:World} (hr:Region.ready md ops listed = []) (h:Q .normal a w) : ∀fuel,wpAnyE P md ops Q S l fuel listed a w
 | 0=>⟨hr,h⟩
 | _+1=>⟨fun _=>h,by rw [hr];simp⟩
theorem wp_region_E {id:Nat} {a:Act} {w:World} (l:Nat) (S:World->Prop) (hm:P.follows .mixedOrders=true)
  (h:wpAnyE P .any ops Q S l ops.size (Array.replicate ops.size false) a w.drew):(Code.region id ops true).wp P Q a w:=
 wp_region_any hm (wpAny_of_E _ _ _ _ h)
end
theorem fld_errS (x y z:Int) (W:World):(Instr.field 49 (.agg #[.int .i64 x,.int .i64 y,.int .i64 z]) 0).run Tryz.prog W = .ok (.int .i64 x) W:=by kernel_rfl
theorem simplifyG_bad (HBl : ∀n,L3Block n) (t:Tr) (vg vf:Value) (w:World) (hs:smallT t) (hw:wfT t) (hg:Globs w vg t.globals) (hf:Funcs w vf t.funcs) (hz:(checkE t).1≠0) :
  Calls Tryz.prog 17 #[.agg #[vg,vf]] w fun e w'=>∃vg' vf',e = .returned (.agg #[vg',vf'])/\Globs w' vg' []/\Funcs w' vf' []/\Below w.heap.size w w':=by
 obtain ⟨x,y,z,hX⟩ : ∃x y z,checkE t=(x,y,z):=⟨_,_,_,rfl⟩
 have HSd:Hid (∀W,Bl w W->Calls Tryz.prog 22 #[.agg #[vg,vf]] W fun e w'=>e = .returned (.agg #[.int .i64 x,.int .i64 y,.int .i64 z])/\Bl W w'):=fun W hW=>by
  have:=checkCG_any HBl t vg vf W hs hw (hg.below hW) (hf.below hW)
  rw [hX] at this
  exact this
 rw [hX] at hz
 have hx:x≠0:=hz
 have bx:(x != 0)=true:=by simpa using hx
 obtain ⟨ag,cg,rfl,-⟩:=hg
 obtain ⟨af,cf,rfl,-⟩:=hf
 clear hs hw hz hX HBl
 go_enter Tryz.func17,Tryz.ntmps17
 go_wp2_with fail
 obtain ⟨M,hM⟩ : ∃M,M=w.heap.size:=⟨_,rfl⟩
 obtain ⟨W0,hW0⟩ : ∃W0,W0=((w.alloc (.cells #[.slice ag t.globals.length cg,.slice af t.funcs.length cf] 34)).alloc (.cells #[.slice none 0 0,.slice none 0 0] 34)):=⟨_,rfl⟩
 have hb0:Bl w W0:=by rw [hW0];exact (bel_a _ _).alloc (by simp) _
 have HX0:Hid (FrC W0 (M+1) [.slice none 0 0,.slice none 0 0]):=by
  have:=box_fr2 (w.alloc (.cells #[.slice ag t.globals.length cg,.slice af t.funcs.length cf] 34)) (.slice none 0 0) (.slice none 0 0) 34
  rw [World.size_alloc,<-hM,<-hW0] at this
  exact this
 rw [<-hW0,<-hM]
 have HMw:=hide hM
 clear hW0 hM
 refine (HSd.out W0 hb0).mono ?_
 rintro e w1 ⟨rfl,hb1⟩
 obtain ⟨y0,y1,z0,z1⟩:=(HX0.out.below hb1).two
 have hbf:Bl w ((w1.setCell ⟨M+1,0,none⟩ (.slice none 0 0)).setCell ⟨M+1,1,none⟩ (.slice none 0 0)):=by
  have:=HMw.out
  exact ((hb0.trans (hb1.mono hb0.size)).setCell (p:=⟨M+1,0,none⟩) (by show _<=M+1;omega) _).setCell (p:=⟨M+1,1,none⟩) (by show _<=M+1;omega) _
 have HBf:=hide hbf
 have HXf:=(((HX0.out.below hb1).set 0 (.slice none 0 0)).set 1 (.slice none 0 0)).two
 obtain ⟨t0,t1,-,-⟩:=HXf
 have hfd:=fld_errS x y z
 clear hb1 hb0 hbf
 go_wp2_with fail
 refine bodyPost_ret (v:=.agg #[.slice none 0 0,.slice none 0 0]) (by simp [results,Tryz.results17,go_sem,t0,t1]) rfl ?_
 refine ⟨_,_,rfl,?_,?_,HBf.out⟩
 ·exact ⟨none,0,rfl,Nat.le_refl _,by omega,fun h=>absurd h (by simp)⟩
 ·exact ⟨none,0,rfl,Nat.le_refl _,by omega,fun h=>absurd h (by simp)⟩
theorem NOne.isSlice {B:Nat} {w:World} {v:Value} {ns:List Nd} {K:List Nat} (h:NOne B w v ns K) : ∃a n c,v = .slice a n c:=by
 obtain ⟨a,c,h,-⟩:=h.r.slice
 exact ⟨a,_,c,h⟩
theorem StM.putS {B:Nat} {w:World} {g n cp:Nat} {Q:List SV} {j:Nat} {q:SV} (h:StM B w (.slice (some ⟨g,0,none⟩) n cp) (Q.set j q) [g]) (hj:j<Q.length) (c:Nat) (hc:c<6) (x:Value) (q':SV) (hq:cellsS q'=(cellsS q).set c x) (h1:q'.ke=q.ke) (h2:q'.kf=q.kf) (h3:q'.ve=q.ve) (h4:q'.vf=q.vf) (h5:q'.s.e=q.s.e) (h6:q'.s.f=q.s.f):StM B (w.setCell ⟨g,j*6+c,none⟩ x) (.slice (some ⟨g,0,none⟩) n cp) (Q.set j q') [g]:=by
 have hj':j<(Q.set j q).length:=by simpa using hj
 have e:(Q.set j q)[j]=q:=by simp
 have:=h.put j hj' c hc x q' (by rw [e];exact hq) (by rw [e];exact h1) (by rw [e];exact h2) (by rw [e];exact h3) (by rw [e];exact h4) (by rw [e];exact h5) (by rw [e];exact h6)
 rwa [List.set_set] at this
theorem StM.putES {B:Nat} {w w':World} {v:Value} {Q:List SV} {j:Nat} {q:SV} {K:List Nat} (h:StM B w v (Q.set j q) K) (hj:j<Q.length) (ns:List Nd) (hn:NOne B w' q.ve ns q.ke) (hT:Tk q.ke w w'):StM B w' v (Q.set j (setE q ns)) K:=by
 have hj':j<(Q.set j q).length:=by simpa using hj
 have e:(Q.set j q)[j]=q:=by simp
 have:=h.putE j hj' ns (by rw [e];exact hn) (by rw [e];exact hT)
 rwa [List.set_set,e] at this
theorem StM.putFS {B:Nat} {w w':World} {v:Value} {Q:List SV} {j:Nat} {q:SV} {K:List Nat} (h:StM B w v (Q.set j q) K) (hj:j<Q.length) (ns:List Nd) (hn:NOne B w' q.vf ns q.kf) (hT:Tk q.kf w w'):StM B w' v (Q.set j (setF q ns)) K:=by
 have hj':j<(Q.set j q).length:=by simpa using hj
 have e:(Q.set j q)[j]=q:=by simp
 have:=h.putF j hj' ns (by rw [e];exact hn) (by rw [e];exact hT)
 rwa [List.set_set,e] at this
theorem StM.cellS {B:Nat} {w:World} {g n cp:Nat} {Q:List SV} {j:Nat} {q:SV} (h:StM B w (.slice (some ⟨g,0,none⟩) n cp) (Q.set j q) [g]) (hj:j<Q.length) (c:Nat) (hc:c<6):w.cell? ⟨g,j*6+c,none⟩=(cellsS q)[c]? /\ w.frozen? ⟨g,j*6+c,none⟩=false:=by
 have:=h.cell j (by simpa using hj) c hc
 rwa [show (Q.set j q)[j]'(by simpa using hj)=q by simp] at this
theorem StM.eachS {B:Nat} {w:World} {v:Value} {Q:List SV} {j:Nat} {q:SV} {K:List Nat} (h:StM B w v (Q.set j q) K) (hj:j<Q.length):NOne B w q.ve q.s.e q.ke/\NOne B w q.vf q.s.f q.kf:=
 h.each q (List.mem_iff_getElem.2 ⟨j,by simpa using hj,by simp⟩)
theorem markSo_any (B:Nat) (v:Value) (R:List SV) (K:List Nat) (k:Nat) (w:World) (hn:R.length<=1048576) (hsm : ∀q∈R,smallS q.s) (h0:0<k) (hk:(k:Int)+(sumR R:Nat)<=1000000000) (h:StM B w v R K) :
  Calls Tryz.prog 66 #[v,.int .i64 k] w fun e w'=>e = .returned (.int .i64 ((k+sumR R:Nat):Int))/\StM B w' v (mkR k R) K/\Tk (K++blkS R) w w':=by
 have HP:=hide h
 have HSM:=hide hsm
 have HK:=hide hk
 obtain ⟨a,c,rfl,-⟩:=h.row.slice
 clear hsm hk h
 go_enter Tryz.func66,Tryz.ntmps66
 go_wp2_with fail
 go_loopw [1,5] (fun q i wr=>∃j:Nat,j<=R.length/\i = .int .i64 j/\q = .int .i64 ((k+sumR (R.take j):Nat):Int)/\StM B wr (.slice a R.length c) (mkR k (R.take j)++R.drop j) K/\Tk (K++blkS R) w wr) (fun _ i _=>R.length-(intOf i).toNat)
 case atStart=>exact ⟨0,Nat.zero_le _,rfl,by simp [sumR,sumBy],by simpa [mkR] using HP.out,Tk.refl _ _⟩
 case round=>
  obtain ⟨j,hj,rfl,rfl,hS,hT⟩:=hrel
  by_cases hlt:j<R.length
  ·obtain ⟨hjl,hget,hset⟩:=mkR_step k R j hlt
   obtain ⟨Q,hQ⟩ : ∃Q,Q=mkR k (R.take j)++R.drop j:=⟨_,rfl⟩
   rw [<-hQ] at hS hset
   have hjQ:j<Q.length:=by rw [hQ];exact hjl
   have hgQ:Q[j]=R[j]:=by simp only [hQ];exact hget
   have hblk:blkS Q=blkS R:=by rw [hQ,blkS_append,mkR_blk,<-blkS_append,List.take_append_drop]
   have hQl:Q.length=R.length:=by rw [hQ,l_a,mkR_len,List.length_take,List.length_drop];omega
   obtain ⟨g,rfl,hKg,-,hBg,hgl,-⟩:=hS.row.pos (by omega)
   have hst:=sumR_step R j hlt
   have hle:sumR (R.take (j+1))<=sumR R:=by
    have:=sumBy_le cntS (R.map (·.s)) (j+1)
    simpa [sumR,List.map_take] using this
   have hsm:=HSM.out R[j] (List.getElem_mem hlt)
   have hcs:cntS R[j].s=4+3*R[j].s.e.length+3*R[j].s.f.length:=rfl
   have hKK:=HK.out
   obtain ⟨q,hq⟩ : ∃q,k+sumR (R.take j)=q:=⟨_,rfl⟩
   have HQS:Hid (k+sumR (R.take (j+1))=q+4+3*R[j].s.e.length+3*R[j].s.f.length):=by show _=_;omega
   have hqb:(q:Int)+4+3*R[j].s.e.length+3*R[j].s.f.length<=1000000000:=by omega
   have hq0:0<q:=by omega
   rw [hq] at hset
   obtain ⟨x,hx⟩ : ∃x,R[j]=x:=⟨_,rfl⟩
   rw [hx] at hgQ hset hqb hsm
   have HQS':Hid (k+sumR (R.take (j+1))=q+4+3*x.s.e.length+3*x.s.f.length):=by rw [<-hx];exact HQS.out
   have hse:=hsm.1
   have hsf:=hsm.2
   subst hKg
   have HM : ∀y,y ∈ [g]++blkS R->True:=fun _ _=>trivial
   obtain ⟨q1,hq1⟩ : ∃q1:SV,q1=⟨⟨(q:Int),x.s.name,x.s.e,x.s.f,x.s.thn,x.s.els⟩,x.ve,x.vf,x.ke,x.kf⟩:=⟨_,rfl⟩
   have S1:StM B (wr.setCell ⟨g,j*6,none⟩ (.int .i64 (q:Int))) (.slice (some ⟨g,0,none⟩) R.length c) (Q.set j q1) [g]:=by
    have:=hS.put j hjQ 0 (by omega) (.int .i64 (q:Int)) q1 (by rw [hq1,hgQ];rfl) (by rw [hq1,hgQ]) (by rw [hq1,hgQ]) (by rw [hq1,hgQ]) (by rw [hq1,hgQ]) (by rw [hq1,hgQ]) (by rw [hq1,hgQ])
    simpa using this
   obtain ⟨o0,f0⟩:=hS.cell j hjQ 0 (by omega)
   rw [hgQ,Nat.add_zero] at o0
   rw [Nat.add_zero] at f0
   have o0':wr.cell? ⟨g,j*6,none⟩=some (.int .i64 x.s.kind):=o0
   have HS1:=hide S1
   have HT1:Hid (Tk ([g]++blkS R) w (wr.setCell ⟨g,j*6,none⟩ (.int .i64 (q:Int)))):=hT.trans (Tk.put _ _ _ (by simp))
   have HSet:=hide hset
   have HX:Hid (blkS Q=blkS R/\Q.length=R.length):=⟨hblk,hQl⟩
   have HXin:Hid ((∀y∈x.ke,y ∈ [g]++blkS R)/\∀y∈x.kf,y ∈ [g]++blkS R):=by
    rw [<-hx]
    exact ⟨fun y hy=>List.mem_append.2 (.inr (blk_in hlt (List.mem_append.2 (.inl hy)))),fun y hy=>List.mem_append.2 (.inr (blk_in hlt (List.mem_append.2 (.inr hy))))⟩
   have HQd:=hide hq
   rw [hq]
   clear hS hget hset hst hle hsm hcs hKK hq S1 hT HM o0 hjl hblk HQS hQl
   go_wp2_with fail
   rw [show ((q:Int)+1)=((q+1:Nat):Int) by omega]
   refine (mtext_any (q+1) (by omega) (by omega) _).mono ?_
   rintro e w1 ⟨rfl,hb1⟩
   obtain ⟨q2,hq2⟩ : ∃q2:SV,q2=⟨⟨(q:Int),mtxt (q+1),x.s.e,x.s.f,x.s.thn,x.s.els⟩,x.ve,x.vf,x.ke,x.kf⟩:=⟨_,rfl⟩
   have S1b:=HS1.out.below hb1
   have HS2:=hide (S1b.putS hjQ 1 (by omega) _ q2 (by rw [hq2,hq1];rfl) (by rw [hq2,hq1]) (by rw [hq2,hq1]) (by rw [hq2,hq1]) (by rw [hq2,hq1]) (by rw [hq2,hq1]) (by rw [hq2,hq1]))
   have HT2:Hid (Tk ([g]++blkS R) w (w1.setCell ⟨g,j*6+1,none⟩ (.string (mtxt (q+1))))):=(HT1.out.trans (Tk.of_below hb1)).trans (Tk.put _ _ _ (by simp))
   obtain ⟨o1,f1⟩:=S1b.cellS hjQ 1 (by omega)
   obtain ⟨o2,-⟩:=HS2.out.cellS hjQ 2 (by omega)
   obtain ⟨ne,nf⟩:=HS2.out.eachS hjQ
   rw [hq1] at o1
   rw [hq2] at o2 ne nf
   have o1':w1.cell? ⟨g,j*6+1,none⟩=some (.string x.s.name):=o1
   have HNe:=hide ne
   obtain ⟨ae,lne,cne,hve⟩:=ne.isSlice
   obtain ⟨af,lnf,cnf,hvf⟩:=nf.isSlice
   have o2':(w1.setCell ⟨g,j*6+1,none⟩ (.string (mtxt (q+1)))).cell? ⟨g,j*6+2,none⟩=some (.slice ae lne cne):=by rw [<-show x.ve=_ from hve];exact o2
   have hve':x.ve = .slice ae lne cne:=hve
   have hvf':x.vf = .slice af lnf cnf:=hvf
   rw [hve'] at HNe
   obtain ⟨W2,hW2⟩ : ∃W2,W2=w1.setCell ⟨g,j*6+1,none⟩ (.string (mtxt (q+1))):=⟨_,rfl⟩
   rw [<-hW2] at HS2 HT2 HNe
   have HW2:=hide hW2
   have HVe:Hid (x.ve = .slice ae lne cne/\x.vf = .slice af lnf cnf):=⟨hve',hvf'⟩
   have HMe:=hide (markNo_any B _ x.s.e x.ke (q+2) W2 hse (by omega) (by omega) HNe.out)
   have HQ2:=hide hq2
   clear o1 o2 ne nf hve hvf hve' hvf' hb1 S1b HS1 HT1 o0' f0 hq1 hq2 hgQ hW2
   go_wp2_with fail
   rw [<-HW2.out,show ((q:Int)+1+1)=((q+2:Nat):Int) by omega]
   refine HMe.out.mono ?_
   rintro e w2 ⟨rfl,hn2,ht2⟩
   obtain ⟨ne,hne⟩ : ∃ne,x.s.e.length=ne:=⟨_,rfl⟩
   obtain ⟨nf,hnf⟩ : ∃nf,x.s.f.length=nf:=⟨_,rfl⟩
   have HNEF:Hid (x.s.e.length=ne/\x.s.f.length=nf):=⟨hne,hnf⟩
   rw [hne,hnf] at hqb
   rw [hnf] at hsf
   rw [hne]
   obtain ⟨q3,hq3⟩ : ∃q3:SV,q3=setE q2 (mkN (q+2) x.s.e):=⟨_,rfl⟩
   have HS3:Hid (StM B w2 (.slice (some ⟨g,0,none⟩) R.length c) (Q.set j q3) [g]):=by
    rw [hq3]
    exact HS2.out.putES hjQ _ (by rw [HQ2.out];show NOne B w2 x.ve _ x.ke;rw [HVe.out.1];exact hn2) (by rw [HQ2.out];exact ht2)
   have HQ3:Hid (q3=⟨⟨(q:Int),mtxt (q+1),mkN (q+2) x.s.e,x.s.f,x.s.thn,x.s.els⟩,x.ve,x.vf,x.ke,x.kf⟩):=by show _=_;rw [hq3,HQ2.out];rfl
   have HT3:Hid (Tk ([g]++blkS R) w w2):=HT2.out.trans (ht2.mono HXin.out.1)
   obtain ⟨o3,-⟩:=HS3.out.cellS hjQ 3 (by omega)
   obtain ⟨-,nff⟩:=HS3.out.eachS hjQ
   rw [HQ3.out] at o3 nff
   have o3':w2.cell? ⟨g,j*6+3,none⟩=some (.slice af lnf cnf):=by rw [<-HVe.out.2];exact o3
   have nff':NOne B w2 x.vf x.s.f x.kf:=nff
   rw [HVe.out.2] at nff'
   obtain ⟨z,hz⟩ : ∃z,q+2+3*ne=z:=⟨_,rfl⟩
   have HMf:Hid (Calls Tryz.prog 103 #[.slice af lnf cnf,.int .i64 ((z:Nat):Int)] w2 fun e w'=>e = .returned (.int .i64 ((z+3*nf:Nat):Int))/\NOne B w' (.slice af lnf cnf) (mkN z x.s.f) x.kf/\Tk x.kf w2 w'):=by
    have:=markNo_any B _ x.s.f x.kf z w2 (by omega) (by omega) (by omega) nff'
    rw [hnf] at this
    exact this
   have HZ:=hide hz
   rw [hz]
   have hzb:(z:Int)+2+3*nf<=1000000000:=by omega
   clear o3 nff nff' hn2 ht2 hq3 HS2 HT2 HMe o2' hne hnf hz hse HNe HW2 o1' f1
   go_wp2_with fail
   refine HMf.out.mono ?_
   rintro e w3 ⟨rfl,hn3,ht3⟩
   obtain ⟨q4,hq4⟩ : ∃q4:SV,q4=setF q3 (mkN z x.s.f):=⟨_,rfl⟩
   have HS4:Hid (StM B w3 (.slice (some ⟨g,0,none⟩) R.length c) (Q.set j q4) [g]):=by
    rw [hq4]
    exact HS3.out.putFS hjQ _ (by rw [HQ3.out];show NOne B w3 x.vf _ x.kf;rw [HVe.out.2];exact hn3) (by rw [HQ3.out];exact ht3)
   have HQ4:Hid (q4=⟨⟨(q:Int),mtxt (q+1),mkN (q+2) x.s.e,mkN z x.s.f,x.s.thn,x.s.els⟩,x.ve,x.vf,x.ke,x.kf⟩):=by show _=_;rw [hq4,HQ3.out];rfl
   have HT4:Hid (Tk ([g]++blkS R) w w3):=HT3.out.trans (ht3.mono HXin.out.2)
   obtain ⟨o4,f4⟩:=HS4.out.cellS hjQ 4 (by omega)
   rw [HQ4.out] at o4
   have o4':w3.cell? ⟨g,j*6+4,none⟩=some (.int .i64 x.s.thn):=o4
   obtain ⟨y,hy⟩ : ∃y,z+3*nf=y:=⟨_,rfl⟩
   have HY:=hide hy
   rw [hy]
   have hyb:(y:Int)+2<=1000000000:=by omega
   have HS5:Hid (StM B (w3.setCell ⟨g,j*6+4,none⟩ (.int .i64 (y:Int))) (.slice (some ⟨g,0,none⟩) R.length c) (Q.set j ⟨⟨(q:Int),mtxt (q+1),mkN (q+2) x.s.e,mkN z x.s.f,(y:Int),x.s.els⟩,x.ve,x.vf,x.ke,x.kf⟩) [g]):=HS4.out.putS hjQ 4 (by omega) _ _ (by rw [HQ4.out];rfl) (by rw [HQ4.out]) (by rw [HQ4.out]) (by rw [HQ4.out]) (by rw [HQ4.out]) (by rw [HQ4.out]) (by rw [HQ4.out])
   have HT5:Hid (Tk ([g]++blkS R) w (w3.setCell ⟨g,j*6+4,none⟩ (.int .i64 (y:Int)))):=HT4.out.trans (Tk.put _ _ _ (by simp))
   obtain ⟨o5,f5⟩:=HS5.out.cellS hjQ 5 (by omega)
   have o5':(w3.setCell ⟨g,j*6+4,none⟩ (.int .i64 (y:Int))).cell? ⟨g,j*6+5,none⟩=some (.int .i64 x.s.els):=o5
   have HS6:Hid (StM B ((w3.setCell ⟨g,j*6+4,none⟩ (.int .i64 (y:Int))).setCell ⟨g,j*6+5,none⟩ (.int .i64 ((y:Int)+1))) (.slice (some ⟨g,0,none⟩) R.length c) (mkR k (R.take (j+1))++R.drop (j+1)) [g]):=by
    have h6:=HS5.out.putS hjQ 5 (by omega) (.int .i64 ((y:Int)+1)) ⟨mkSt q x.s,x.ve,x.vf,x.ke,x.kf⟩ (by
     have e1:=HNEF.out.1
     have e2:=HNEF.out.2
     have e3:=HZ.out
     have e4:=HY.out
     simp only [cellsS,mkSt,e1,e2,List.set_cons_succ,List.set_cons_zero]
     rw [show q+2+3*ne+3*nf=y by omega,show ((q+3+3*ne+3*nf:Nat):Int)=(y:Int)+1 by omega]) rfl rfl rfl rfl rfl (by show mkN _ _=mkN _ _;rw [HNEF.out.1,HZ.out])
    rw [HSet.out] at h6
    exact h6
   have HT6:Hid (Tk ([g]++blkS R) w ((w3.setCell ⟨g,j*6+4,none⟩ (.int .i64 (y:Int))).setCell ⟨g,j*6+5,none⟩ (.int .i64 ((y:Int)+1)))):=HT5.out.trans (Tk.put _ _ _ (by simp))
   clear o4 o5 hn3 ht3 hq4 HS3 HT3 HMf o3' hy HS4 HT4 HS5 HT5
   go_wp2_with fail
   go_roundw
   case rel=>
    refine ⟨j+1,by omega,by go_num,?_,HS6.out,HT6.out⟩
    have e0:=HQS'.out
    have e1:=HNEF.out.1
    have e2:=HNEF.out.2
    have e3:=HZ.out
    have e4:=HY.out
    rw [show k+sumR (R.take (j+1))=y+2 by omega]
    go_num
   case measure=>simp [intOf];omega
  ·obtain rfl:j=R.length:=by omega
   rw [List.take_length,List.drop_length,List.append_nil] at hS
   go_wp2_with fail
   go_ret
   exact ⟨ret_int' (by rw [List.take_length]),hS,hT⟩
end Go.Proofs.YtmddmgpijpjpbaaGreatDoor
