import Derived.Test.YtnpidjamplmgjaaGreatDoorQ11
import Derived.Test.YtnpidjamplmgjaaGreatDoorQ10
import Derived.RegionTactic
import Derived.Laws.NewBlocks
import Derived.Laws.AppendOwn
import Derived.Deep.RegionHeld3
set_option linter.unusedSectionVars false
variable [Inhabited Go.Proofs.YtnpidjamplmgjaaGreatDoor.Pick]
namespace Go.Proofs.YtnpidjamplmgjaaGreatDoor
open Go.RowKit
set_option linter.unusedVariables false
set_option linter.unusedSimpArgs false
set_option maxRecDepth 100000
set_option maxHeartbeats 16000000
def StrsC (w:World) (b off:Nat) (ps:List ByteArray):Prop:=∀j (h:j<ps.length),w.cell? ⟨b,off+j,none⟩=some (.string ps[j])
theorem StrsC.below {w w':World} {b off:Nat} {ps:List ByteArray} (h:StrsC w b off ps) (hb:Below w.heap.size w w'):StrsC w' b off ps:=by
 intro j hj
 have c:=h j hj
 exact (hb.cell (World.block_lt_of_cell? _ _ c)).trans c
def Strs (w:World) (v:Value) (ps:List ByteArray):Prop:=∃a cap,v = .slice a ps.length cap/\ps.length<=cap/\cap<=9223372036854775807/\(0<ps.length->∃b off,a=some ⟨b,off,none⟩/\StrsC w b off ps)
theorem Strs.below {w w':World} {v:Value} {ps:List ByteArray} (h:Strs w v ps) (hb:Below w.heap.size w w'):Strs w' v ps:=by
 obtain ⟨a,cap,rfl,hl,hm,h⟩:=h
 refine ⟨a,cap,rfl,hl,hm,fun h0 => ?_⟩
 obtain ⟨b,off,rfl,hc⟩:=h h0
 exact ⟨b,off,rfl,hc.below hb⟩
theorem vfunc_any (f:Fu) (vp vb:Value) (w:World) (hT:Tab w) (hf:smallF f) (hp:Strs w vp f.params) (hb:Stmts w vb f.body) :
  Calls Tryz.prog 153 #[.agg #[.string f.name,vp,vb]] w fun e w'=>e = .returned (.bool (funcB f))/\Below w.heap.size w w':=by
 obtain ⟨name,ps,ss⟩:=f
 simp only at hp hb ⊢
 have HP:=hide hp
 have HS:=hide hb
 have HT:=hide hT
 have HF:=hide hf
 have hpl:ps.length<=1048576:=HF.out.1
 have hsl:ss.length<=1048576:=HF.out.2.1
 obtain ⟨ap,cp,rfl,-,-,hpc⟩:=hp
 obtain ⟨ab,cb,rfl,-,-,hbc⟩:=hb
 have HPC:=hide hpc
 have HBC:=hide hbc
 clear hpc hbc hf hT
 go_enter Tryz.func153,Tryz.ntmps153
 go_wp2_with fail
 refine (vname_any _ _).mono ?_
 rintro e w1 ⟨rfl,hb1⟩
 simp only [World.size_alloc] at hb1
 have hB1:=one_below hb1
 obtain ⟨x0,x1,x2⟩:=box3 hb1
 cases hn:nameB name
 ·go_wp2_with fail
  go_ret
  exact ⟨ret_bool (by simp only [funcB,hn,Bool.false_and]),hB1⟩
 by_cases h6:6<ps.length
 ·go_wp2_with fail
  go_ret
  exact ⟨ret_bool (by simp only [funcB,hn,decide_eq_false (show ¬ps.length<=6 by omega),Bool.false_and,Bool.and_false]),hB1⟩
 by_cases h5:500<ss.length
 ·go_wp2_with fail
  go_ret
  exact ⟨ret_bool (by simp only [funcB,hn,decide_eq_false (show ¬ss.length<=500 by omega),Bool.false_and,Bool.and_false]),hB1⟩
 have HFB:Hid (funcB ⟨name,ps,ss⟩=(ps.all nameB && (stmtsB stmtB ss && fitB ss))):=by
  show _=_
  simp only [funcB,hn,decide_eq_true (show ps.length<=6 by omega),decide_eq_true (show ss.length<=500 by omega),Bool.true_and]
 go_wp2_with fail
 clear x0 x1 x2
 go_loopw [27] (fun i wr=>∃k:Nat,k<=ps.length/\i = .int .i64 k/\(∀s∈ps.take k,nameB s=true)/\Below (w.heap.size+1) (w.alloc (.cells #[.string name,.slice ap ps.length cp,.slice ab ss.length cb] 64)) wr) (fun i _=>ps.length-(RowKit.intOf i).toNat)
 case atStart=>exact ⟨0,Nat.zero_le _,rfl,by simp,hb1⟩
 case round=>
  obtain ⟨k,hk,rfl,hg,hB⟩:=hrel
  have HG:=hide hg
  clear hg hb1 hB1
  have hBw:=one_below hB
  by_cases hlt:k<ps.length
  ·obtain ⟨b,off,rfl,hc⟩:=HPC.out o_
   have d0:=(hc.below hBw) k hlt
   have HE:Hid (ps.take (k+1)=ps.take k++[ps[k]]):=take_succ ps k hlt
   have HX:Hid (nameB ps[k]=false->ps.all nameB=false):=all_bad hlt
   clear hc
   generalize ps[k]=s at d0 HE HX
   go_wp2_with fail
   refine (vname_any _ _).mono ?_
   rintro e w2 ⟨rfl,hb2⟩
   have hB2:=hB.trans (hb2.mono (by have:=hB.size;simp at this;omega))
   clear d0
   cases hv:nameB s
   ·go_wp2_with fail
    go_ret
    exact ⟨ret_bool (by rw [HFB.out,HX.out hv];rfl),one_below hB2⟩
   ·go_wp2_with fail
    go_roundw
    case rel=>
     refine ⟨k+1,by omega,by go_num,fun m hm => ?_,hB2⟩
     rw [HE.out] at hm
     rcases List.mem_append.1 hm with hm | hm
     ·exact HG.out m hm
     ·rw [List.mem_singleton.1 hm];exact hv
    case measure=>simp [RowKit.intOf];omega
  ·have HA:Hid (ps.all nameB=true):=by
    show _=_
    rw [List.all_eq_true]
    have:=HG.out
    rw [List.take_of_length_le o_] at this
    exact this
   clear HG HPC
   obtain ⟨x0,x1,x2⟩:=box3 hB
   go_wp2_with fail
   clear x0 x1 x2
   go_loopw [5,38] (fun q i wr=>∃k:Nat,k<=ss.length/\i = .int .i64 k/\q = .int .i64 (nodeSum (ss.take k):Nat)/\nodeSum (ss.take k)<=2000/\(∀s∈ss.take k,stmtB s=true)/\Below (w.heap.size+1) (w.alloc (.cells #[.string name,.slice ap ps.length cp,.slice ab ss.length cb] 64)) wr) (fun _ i _=>ss.length-(RowKit.intOf i).toNat)
   case atStart=>exact ⟨0,Nat.zero_le _,rfl,rfl,by simp [nodeSum],by simp,hB⟩
   case round=>
    clear hB hBw hlt
    obtain ⟨k,hk,rfl,rfl,hq,hg,hB⟩:=hrel
    have HG:=hide hg
    clear hg
    have hBw:=one_below hB
    by_cases hlt:k<ss.length
    ·obtain ⟨b,off,rfl,hc⟩:=HBC.out o_
     obtain ⟨ve,vf,⟨c0,c1,c2,c3,c4,c5⟩,he,hf⟩:=(hc.below hBw) k hlt
     have HE:Hid (ss.take (k+1)=ss.take k++[ss[k]]):=take_succ ss k hlt
     have HX:Hid (stmtB ss[k]=false->stmtsB stmtB ss=false):=stmtsB_bad hlt
     have HQ:Hid _:=nodeSum_step ss k hlt
     have HY:Hid (2000<nodeSum (ss.take (k+1))->stmtsB stmtB ss=false):=stmtsB_sum
     have hsm:=HF.out.2.2 ss[k] (List.getElem_mem hlt)
     clear hc
     generalize ss[k]=s at c0 c1 c2 c3 c4 c5 he hf HE HX HQ hsm
     generalize nodeSum (ss.take k)=q at hq HQ
     have HNE:=hide he
     have HNF:=hide hf
     obtain ⟨a2,k2,rfl,-,-,-⟩:=he
     obtain ⟨a3,k3,rfl,-,-,-⟩:=hf
     have hs1:=hsm.1
     have hs2:=hsm.2
     clear hsm
     by_cases hs:2000<q+(s.e.length+s.f.length)
     ·go_wp2_with fail
      go_ret
      exact ⟨ret_bool (by rw [HFB.out,HY.out (by rw [HQ.out];omega)];simp),hBw.alloc hBw.size _⟩
     ·have hBx:Bl wr (wr.alloc (.cells #[.int .i64 s.kind,.string s.name,.slice a2 s.e.length k2,.slice a3 s.f.length k3,.int .i64 s.thn,.int .i64 s.els] 123)):=bel_a _ _
      go_wp2_with fail
      refine (vstmt_any s _ _ _ ((HT.out.below HT.out.size hBw).below (HT.out.below HT.out.size hBw).size hBx) hs1 hs2 (HNE.out.below hBx) (HNF.out.below hBx)).mono ?_
      rintro e w2 ⟨rfl,hb2⟩
      have hBx2:=hBx.trans (hb2.mono hBx.size)
      have hB2:=hB.trans (hBx2.mono (by have:=hB.size;simp at this;omega))
      clear c0 c1 c2 c3 c4 c5 hb2
      cases hv:stmtB s
      ·go_wp2_with fail
       go_ret
       exact ⟨ret_bool (by rw [HFB.out,HX.out hv];simp),one_below hB2⟩
      ·go_wp2_with fail
       go_roundw
       case rel=>
        refine ⟨k+1,by omega,by go_num,?_,by rw [HQ.out];omega,fun m hm => ?_,hB2⟩
        ·rw [HQ.out];congr 1;omega
        ·rw [HE.out] at hm
         rcases List.mem_append.1 hm with hm | hm
         ·exact HG.out m hm
         ·rw [List.mem_singleton.1 hm];exact hv
       case measure=>simp [RowKit.intOf];omega
    ·have HA2:Hid (stmtsB stmtB ss=true):=by
      show _=_
      have h1:=HG.out
      rw [List.take_of_length_le o_] at h1 hq
      exact stmtsB_ok hq h1
     obtain ⟨x0,x1,x2⟩:=box3 hB
     go_wp2_with fail
     refine (fit_any ss.length _ ss _ (Nat.le_refl _) hsl (HS.out.below hBw)).mono ?_
     rintro e w2 ⟨rfl,hb2⟩
     clear x0 x1 x2
     go_wp2_with fail
     go_ret
     exact ⟨ret_bool (by rw [HFB.out,HA.out,HA2.out];rfl),hBw.trans (hb2.mono hBw.size)⟩
theorem own_blk {w w':World} {P:Program} {k:TypeId} {R:Value->Option (DataW Unit × List MemPlace)} {b n:Nat} {D:DataW Unit} (h:w.ownsMap P k R b n D) (e:w'.heap[b]? = w.heap[b]?):w'.ownsMap P k R b n D:=by
 obtain ⟨es,clock,h1,h2⟩:=h
 exact ⟨es,clock,by rw [e];exact h1,h2⟩
def But (b:Nat) (w w':World):Prop:=w.heap.size<=w'.heap.size/\∀B,B<w.heap.size->B≠b->w'.heap[B]? = w.heap[B]?
theorem But.refl (b:Nat) (w:World):But b w w:=⟨Nat.le_refl _,fun _ _ _=>rfl⟩
theorem But.grown {b:Nat} {w w1 w':World} (h:But b w w1) (hg:w1.drew.grownBy w' (some b)):But b w w':=⟨Nat.le_trans h.1 hg.size,fun B hB hb=>(hg.block B (Nat.lt_of_lt_of_le hB h.1) (by simpa using hb)).trans (h.2 B hB hb)⟩
theorem But.below {b:Nat} {w w1 w':World} (h:But b w w1) (hb:Below w1.heap.size w1 w'):But b w w':=⟨Nat.le_trans h.1 hb.size,fun B hB hn=>(hb.block B (Nat.lt_of_lt_of_le hB h.1)).trans (h.2 B hB hn)⟩
theorem But.cell {b:Nat} {w w':World} (h:But b w w') {p:Addr} (hp:p.block<w.heap.size) (hn:p.block≠b):w'.cell? p=w.cell? p:=World.cell?_of_block (h.2 p.block hp hn)
theorem But.frozen {b:Nat} {w w':World} (h:But b w w') {p:Addr} (hp:p.block<w.heap.size) (hn:p.block≠b):w'.frozen? p=w.frozen? p:=World.frozen?_of_block (h.2 p.block hp hn)
theorem plE_bd {e:List Nd} (h:okE e) {d p:Int} (hd:0<=d) (hd1:d<=1) (hp:0<=p/\p<=14001):0<=plE e d p/\plE e d p<=14001:=by
 unfold plE
 split
 ·exact hp
 ·have:=needL_bd h o_ d
  omega
theorem places_bd (body:List St) (hok : ∀s∈body,okE s.e/\okE s.f):0<=places body/\places body<=14001:=by
 unfold places
 have : ∀(l:List St) (p:Int),(∀s∈l,okE s.e/\okE s.f)->0<=p/\p<=14001->0<=l.foldl (fun p s=>plU s 2 p) p/\l.foldl (fun p s=>plU s 2 p) p<=14001:=by
  intro l
  induction l with
  | nil=>intro p _ hp;exact hp
  | cons s l ih=>
   intro p h hp
   refine ih _ (fun s hs=>h s (by simp [hs])) ?_
   have h2:=h s (by simp)
   simp only [plU]
   exact plE_bd h2.2 o_ o_ (plE_bd h2.1 o_ o_ hp)
 exact this body 0 hok o_
def declN (body:List St):List ByteArray:=(body.filter (fun s=>decide (s.kind=1))).map (·.name)
theorem declN_snoc (l:List St) (s:St):declN (l++[s])=if s.kind=1 then declN l++[s.name] else declN l:=by
 unfold declN;rw [List.filter_append];by_cases h:s.kind=1 <;> simp [h]
theorem declN_new {ps:List ByteArray} {body:List St} (h:(ps++declN body).Nodup) {j:Nat} (hj:j<body.length) (h1:body[j].kind=1):body[j].name∉ps++declN (body.take j):=by
 have e:declN body=declN (body.take j)++([body[j].name]++declN (body.drop (j+1))):=by
  have:body=body.take j++([body[j]]++body.drop (j+1)):=by simp
  have h2:declN body=declN (body.take j++([body[j]]++body.drop (j+1))):=congrArg declN this
  rw [h2]
  unfold declN
  rw [List.filter_append,List.filter_append,List.map_append,List.map_append]
  congr 2
  simp [h1]
 rw [e,<-List.append_assoc] at h
 intro hm
 exact (List.nodup_append.1 h).2.2 _ hm _ (by simp) rfl
theorem declN_mem {body:List St} {j:Nat} (hj:j<body.length) (h1:body[j].kind=1):body[j].name∈declN body:=by
 unfold declN
 exact List.mem_map.2 ⟨body[j],List.mem_filter.2 ⟨List.getElem_mem hj,by simpa using h1⟩,rfl⟩
theorem declN_len (body:List St):(declN body).length<=body.length:=by
 unfold declN;rw [List.length_map];exact List.length_filter_le _ _
theorem frameOf_map (f:Fu) (vp vb:Value) (w:World) (hTab:Tab w) (hp:Strs w vp f.params) (hb:Stmts w vb f.body) (hok : ∀s∈f.body,okE s.e/\okE s.f) (hnd:(f.params++declN f.body).Nodup) (hpl:f.params.length<=1000) (hbl:f.body.length<=100000) (hsz : ∀s∈f.params++declN f.body,s.size<=maxLen) :
  Calls Tryz.prog 49 #[.agg #[.string f.name,vp,vb]] w fun e w'=>∃b,e = .returned (.agg #[.map (some b),.int .i64 (4*((f.params++declN f.body).length:Int)),.int .i64 ((4*((f.params++declN f.body).length:Int)+4*(places f.body+1)+15) / 16*16)])/\Below w.heap.size w w'/\w.heap.size<=b/\∃nn D,w'.ownsMap Tryz.prog 9 (plainElem (H:=Unit) Tryz.prog 2) b nn D/\NamesIs D (f.params++declN f.body):=by
 have HPl:=hide fun W (hW:Bl w W)=>placesOf_any vb f.body W (hTab.below hTab.size hW) (hb.below hW) hok
 obtain ⟨ap,cp,rfl,hp1,hp2,hpc⟩:=hp
 obtain ⟨ab,cb,rfl,hb1,hb2,hbc⟩:=hb
 obtain ⟨W0,hW0⟩ : ∃W0,W0=((((w.alloc (.cells #[.string f.name,.slice ap f.params.length cp,.slice ab f.body.length cb] 64)).alloc (.cells #[.map none,.int .i64 0,.int .i64 0] 57)).alloc (.map #[] 0)).alloc (.cells #[.map (some (w.heap.size+1+1)),.int .i64 0,.int .i64 0] 57)):=⟨_,rfl⟩
 have hA : ∀(W:World) o,Bl W (W.alloc o):=fun W o=>(Below.refl _ _).alloc (Nat.le_refl _) o
 have hB0:Bl w W0:=by
  rw [hW0]
  exact (((bel_a _ _).alloc (by simp) _).alloc (by simp;omega) _).alloc (by simp;omega) _
 have hO0:W0.ownsMap Tryz.prog 9 (plainElem (H:=Unit) Tryz.prog 2) (w.heap.size+1+1) 0 (.map []):=by
  rw [hW0]
  have:=World.ownsMap_made ((w.alloc (.cells #[.string f.name,.slice ap f.params.length cp,.slice ab f.body.length cb] 64)).alloc (.cells #[.map none,.int .i64 0,.int .i64 0] 57)) Tryz.prog 9 (plainElem (H:=Unit) Tryz.prog 2)
  simp only [World.size_alloc] at this
  exact this.alloc _
 have z0:W0.cell? ⟨w.heap.size,1,none⟩=some (.slice ap f.params.length cp):=by rw [hW0,World.cell?_alloc_past _ _ _ (by simp only [World.size_alloc];omega),World.cell?_alloc_past _ _ _ (by simp only [World.size_alloc];omega),World.cell?_alloc_past _ _ _ (by simp only [World.size_alloc];omega),World.cell?_alloc_at _ _ _ _ rfl];rfl
 have z1:W0.cell? ⟨w.heap.size,2,none⟩=some (.slice ab f.body.length cb):=by rw [hW0,World.cell?_alloc_past _ _ _ (by simp only [World.size_alloc];omega),World.cell?_alloc_past _ _ _ (by simp only [World.size_alloc];omega),World.cell?_alloc_past _ _ _ (by simp only [World.size_alloc];omega),World.cell?_alloc_at _ _ _ _ rfl];rfl
 have z2:W0.cell? ⟨w.heap.size+1+1+1,0,none⟩=some (.map (some (w.heap.size+1+1))):=by rw [hW0,World.cell?_alloc_at _ _ _ _ (by simp only [World.size_alloc])];rfl
 have z3:W0.cell? ⟨w.heap.size+1+1+1,1,none⟩=some (.int .i64 0):=by rw [hW0,World.cell?_alloc_at _ _ _ _ (by simp only [World.size_alloc])];rfl
 have z4:W0.cell? ⟨w.heap.size+1+1+1,2,none⟩=some (.int .i64 0):=by rw [hW0,World.cell?_alloc_at _ _ _ _ (by simp only [World.size_alloc])];rfl
 have z5:W0.cell? ⟨w.heap.size+1,0,none⟩=some (.map none):=by rw [hW0,World.cell?_alloc_past _ _ _ (by simp only [World.size_alloc];omega),World.cell?_alloc_past _ _ _ (by simp only [World.size_alloc];omega),World.cell?_alloc_at _ _ _ _ (by simp only [World.size_alloc])];rfl
 have z6:W0.cell? ⟨w.heap.size+1,1,none⟩=some (.int .i64 0):=by rw [hW0,World.cell?_alloc_past _ _ _ (by simp only [World.size_alloc];omega),World.cell?_alloc_past _ _ _ (by simp only [World.size_alloc];omega),World.cell?_alloc_at _ _ _ _ (by simp only [World.size_alloc])];rfl
 have z7:W0.cell? ⟨w.heap.size+1,2,none⟩=some (.int .i64 0):=by rw [hW0,World.cell?_alloc_past _ _ _ (by simp only [World.size_alloc];omega),World.cell?_alloc_past _ _ _ (by simp only [World.size_alloc];omega),World.cell?_alloc_at _ _ _ _ (by simp only [World.size_alloc])];rfl
 have z8 : ∀o,W0.frozen? ⟨w.heap.size+1+1+1,o,none⟩=false:=fun o=>by rw [hW0,World.frozen?_alloc_at _ _ _ _ (by simp only [World.size_alloc])]
 have z9 : ∀o,W0.frozen? ⟨w.heap.size+1,o,none⟩=false:=fun o=>by rw [hW0,World.frozen?_alloc_past _ _ _ (by simp only [World.size_alloc];omega),World.frozen?_alloc_past _ _ _ (by simp only [World.size_alloc];omega),World.frozen?_alloc_at _ _ _ _ (by simp only [World.size_alloc])]
 have hpb:=places_bd f.body hok
 have HZ:Hid ((W0.cell? ⟨w.heap.size+1+1+1,1,none⟩=some (.int .i64 0)/\W0.cell? ⟨w.heap.size+1+1+1,2,none⟩=some (.int .i64 0)/\∀o,W0.frozen? ⟨w.heap.size+1+1+1,o,none⟩=false)/\W0.cell? ⟨w.heap.size+1,0,none⟩=some (.map none)/\W0.cell? ⟨w.heap.size+1,1,none⟩=some (.int .i64 0)/\W0.cell? ⟨w.heap.size+1,2,none⟩=some (.int .i64 0)/\∀o,W0.frozen? ⟨w.heap.size+1,o,none⟩=false):=⟨⟨z3,z4,z8⟩,z5,z6,z7,z9⟩
 clear z3 z4 z5 z6 z7 z8 z9
 have hs0:W0.heap.size=w.heap.size+4:=by rw [hW0];simp
 have HW0:=hide hW0
 have HO0:=hide hO0
 have HB0:=hide hB0
 have HPC:=hide hpc
 have HBC:=hide hbc
 have HND:=hide hnd
 have HSZ:=hide hsz
 clear hW0 hO0 hB0 hA hpc hbc hnd hsz hok hTab
 have hmm := @run_makeMap Tryz.prog
 go_enter Tryz.func49,Tryz.ntmps49
 go_wp2_with fail
 rw [<-HW0.out]
 clear hmm
 go_loopw [14] (fun i wr=>∃(k:Nat) (D:DataW Unit),k<=f.params.length/\i = .int .i64 k/\wr.ownsMap Tryz.prog 9 (plainElem (H:=Unit) Tryz.prog 2) (w.heap.size+1+1) k D/\NamesIs D (f.params.take k)/\But (w.heap.size+1+1) W0 wr/\Bl w wr) (fun i _=>f.params.length-(RowKit.intOf i).toNat)
 case atStart=>exact ⟨0,_,Nat.zero_le _,rfl,HO0.out,NamesIs.nil,But.refl _ _,HB0.out⟩
 case round=>
  obtain ⟨k,D,hk,rfl,hO,hN,hBt,hB⟩:=hrel
  have y2:wr.cell? ⟨w.heap.size+1+1+1,0,none⟩=some (.map (some (w.heap.size+1+1))):=(hBt.cell (p:=⟨w.heap.size+1+1+1,0,none⟩) (by simp;omega) (by simp)).trans z2
  by_cases hlt:k<f.params.length
  ·obtain ⟨b',off,rfl,hc⟩:=HPC.out o_
   have d0:=hc.below hB k hlt
   have hmem:f.params[k]∈f.params:=List.getElem_mem hlt
   have HF:Hid (f.params[k]∉f.params.take k):=by
    intro hm
    have hn1:=(List.nodup_append.1 HND.out).1
    obtain ⟨j,hj,he⟩:=List.getElem_of_mem hm
    rw [List.getElem_take] at he
    simp at hj
    exact List.pairwise_iff_getElem.1 hn1 j k o_ hlt o_ he
   have HT:=hide (List.take_succ_eq_append_getElem hlt)
   have HZ:Hid (f.params[k].size<=maxLen):=HSZ.out _ (by simp)
   have HA:=hide (addF_any _ _ k D _ _ wr y2 hO hN (by simp;omega) o_ HZ.out HF.out o_)
   rw [<-HT.out] at HA
   clear HF HT HZ hmem hO hN hc
   generalize f.params[k]=s at d0 HA
   go_wp2_with fail
   refine HA.out.mono ?_
   rintro e w2 ⟨rfl,D2,hO2,hN2,hg2⟩
   have hBt2:=hBt.grown hg2
   have hB2:Bl w w2:=hB.drew.grown hg2 hB.size (fun j hj=>by cases hj;omega)
   have HR:Hid (w2.ownsMap Tryz.prog 9 (plainElem (H:=Unit) Tryz.prog 2) (w.heap.size+1+1) (k+1) D2/\NamesIs D2 (f.params.take (k+1))):=⟨hO2,hN2⟩
   clear hO2 hN2 hg2 HA d0 y2 hBt hB
   go_wp2_with fail
   go_roundw
   case rel=>exact ⟨k+1,D2,by omega,by go_num,HR.out.1,HR.out.2,hBt2,hB2⟩
   case measure=>simp [RowKit.intOf];omega
  ·have hkk:k=f.params.length:=by omega
   have HN1:Hid (NamesIs D (f.params++declN (f.body.take 0))):=by
    show NamesIs _ _
    have:=hN
    rw [List.take_of_length_le o_] at this
    simpa [declN] using this
   have HO1:=hide hO
   have HBt1:=hide hBt
   have y1:wr.cell? ⟨w.heap.size,2,none⟩=some (.slice ab f.body.length cb):=(hBt.cell (p:=⟨w.heap.size,2,none⟩) (by simp;omega) (by simp;omega)).trans z1
   have HKK:=hide hkk
   clear hO hN y2 hkk
   go_wp2_with fail
   clear hlt hk
   have hk1:k<=1000:=by rw [HKK.out];exact hpl
   go_loopw [24] (fun i wr=>∃(j nn:Nat) (D:DataW Unit),j<=f.body.length/\i = .int .i64 j/\nn<=k+j/\wr.ownsMap Tryz.prog 9 (plainElem (H:=Unit) Tryz.prog 2) (w.heap.size+1+1) nn D/\NamesIs D (f.params++declN (f.body.take j))/\But (w.heap.size+1+1) W0 wr/\Bl w wr) (fun i _=>f.body.length-(RowKit.intOf i).toNat)
   case atStart=>exact ⟨0,k,D,Nat.zero_le _,rfl,by omega,HO1.out,HN1.out,HBt1.out,hB⟩
   case round=>
    clear HO1 HN1 HBt1 hBt hB y1
    obtain ⟨j,nn,D,hj,rfl,hnn,hO,hN,hBt,hB⟩:=hrel
    have y2 : ∀o,(World.alloc _ o).cell? ⟨w.heap.size+1+1+1,0,none⟩=some (.map (some (w.heap.size+1+1))):=fun o=>((hBt.below ((Below.refl _ _).alloc (Nat.le_refl _) o)).cell (p:=⟨w.heap.size+1+1+1,0,none⟩) (by simp;omega) (by simp)).trans z2
    by_cases hlt2:j<f.body.length
    ·obtain ⟨b',off,rfl,hc⟩:=HBC.out o_
     obtain ⟨ve,vf,⟨c0,c1,c2,c3,c4,c5⟩,he,hf⟩:=hc j hlt2
     have hlb:=World.block_lt_of_cell? _ _ c0
     have d0:=(hB.cell (p:=⟨b',off+j*6,none⟩) hlb).trans c0
     have d1:=(hB.cell (p:=⟨b',off+j*6+1,none⟩) hlb).trans c1
     have d2:=(hB.cell (p:=⟨b',off+j*6+2,none⟩) hlb).trans c2
     have d3:=(hB.cell (p:=⟨b',off+j*6+3,none⟩) hlb).trans c3
     have d4:=(hB.cell (p:=⟨b',off+j*6+4,none⟩) hlb).trans c4
     have d5:=(hB.cell (p:=⟨b',off+j*6+5,none⟩) hlb).trans c5
     clear c0 c1 c2 c3 c4 c5 hc
     obtain ⟨ae,ce,rfl,-⟩:=he
     obtain ⟨af,cf,rfl,-⟩:=hf
     generalize f.body[j].e.length=le at d2
     generalize f.body[j].f.length=lf at d3
     have hA1:Bl wr (wr.alloc (.cells #[.int .i64 f.body[j].kind,.string f.body[j].name,.slice ae le ce,.slice af lf cf,.int .i64 f.body[j].thn,.int .i64 f.body[j].els] 123)):=bel_a _ _
     have hBt1:=hBt.below hA1
     have hB1:=hB.trans (hA1.mono hB.size)
     have hO1:=hO.alloc (.cells #[.int .i64 f.body[j].kind,.string f.body[j].name,.slice ae le ce,.slice af lf cf,.int .i64 f.body[j].thn,.int .i64 f.body[j].els] 123)
     have hl1:(f.params++declN (f.body.take j)).length<=1000000:=by have:=declN_len (f.body.take j);simp at this ⊢;omega
     have hsn:=declN_snoc (f.body.take j) f.body[j]
     rw [<-List.take_succ_eq_append_getElem hlt2] at hsn
     by_cases h1:f.body[j].kind=1
     ·rw [if_pos h1] at hsn
      have HT:Hid (f.params++declN (f.body.take (j+1))=f.params++declN (f.body.take j)++[f.body[j].name]):=by show _=_;rw [hsn,List.append_assoc]
      have HA:=hide (addF_any _ _ nn D _ _ _ (y2 _) hO1 hN hl1 o_ (HSZ.out _ (by simp [declN_mem hlt2 h1])) (declN_new HND.out hlt2 h1) o_)
      rw [<-HT.out] at HA
      clear HT hsn hO hN hO1 hl1 y2 hBt
      generalize f.body[j]=s at d0 d1 d2 d3 d4 d5 HA h1 hBt1 hB1 hA1
      obtain ⟨kd,nm,se,sf,th,el⟩:=s
      simp only at d0 d1 d2 d3 d4 d5 HA h1 hBt1 hB1 hA1
      subst h1
      go_wp2_with fail
      refine HA.out.mono ?_
      rintro e w2 ⟨rfl,D2,hO2,hN2,hg2⟩
      have hBt2:=hBt1.grown hg2
      have hB2:Bl w w2:=hB1.drew.grown hg2 hB1.size (fun j hj=>by cases hj;omega)
      have HR:Hid (w2.ownsMap Tryz.prog 9 (plainElem (H:=Unit) Tryz.prog 2) (w.heap.size+1+1) (nn+1) D2/\NamesIs D2 (f.params++declN (f.body.take (j+1)))):=⟨hO2,hN2⟩
      clear hO2 hN2 hg2 HA d0 d1 d2 d3 d4 d5 hBt1 hB1 hA1
      go_wp2_with fail
      go_roundw
      case rel=>exact ⟨j+1,nn+1,D2,by omega,by go_num,by omega,HR.out.1,HR.out.2,hBt2,hB2⟩
      case measure=>simp [RowKit.intOf];omega
     ·rw [if_neg h1] at hsn
      rw [<-hsn] at hN
      have HR:Hid ((wr.alloc (.cells #[.int .i64 f.body[j].kind,.string f.body[j].name,.slice ae le ce,.slice af lf cf,.int .i64 f.body[j].thn,.int .i64 f.body[j].els] 123)).ownsMap Tryz.prog 9 (plainElem (H:=Unit) Tryz.prog 2) (w.heap.size+1+1) nn D/\NamesIs D (f.params++declN (f.body.take (j+1)))):=⟨hO1,hN⟩
      clear hsn hO hN hO1 hl1 y2 hBt
      generalize f.body[j]=s at d0 d1 d2 d3 d4 d5 h1 hBt1 hB1 hA1 HR
      go_wp2_with fail
      go_roundw
      case rel=>exact ⟨j+1,nn,D,by omega,by go_num,by omega,HR.out.1,HR.out.2,hBt1,hB1⟩
      case measure=>simp [RowKit.intOf];omega
    ·have hjj:j=f.body.length:=by omega
     rw [List.take_of_length_le o_] at hN
     have hnl:(f.params++declN f.body).length<=101000:=by have:=declN_len f.body;simp;omega
     have bl3:(w.heap.size+1+1+1)<W0.heap.size:=by omega
     have q0:=(hBt.cell (p:=⟨w.heap.size+1+1+1,0,none⟩) bl3 (by simp)).trans z2
     have q1:=(hBt.cell (p:=⟨w.heap.size+1+1+1,1,none⟩) bl3 (by simp)).trans HZ.out.1.1
     have q2:=(hBt.cell (p:=⟨w.heap.size+1+1+1,2,none⟩) bl3 (by simp)).trans HZ.out.1.2.1
     have qf:=fun o=>(hBt.frozen (p:=⟨w.heap.size+1+1+1,o,none⟩) bl3 (by simp)).trans (HZ.out.1.2.2 o)
     have bl1:(w.heap.size+1)<W0.heap.size:=by omega
     have r0:=(hBt.cell (p:=⟨w.heap.size+1,0,none⟩) bl1 (by simp)).trans HZ.out.2.1
     have r1:=(hBt.cell (p:=⟨w.heap.size+1,1,none⟩) bl1 (by simp)).trans HZ.out.2.2.1
     have r2:=(hBt.cell (p:=⟨w.heap.size+1,2,none⟩) bl1 (by simp)).trans HZ.out.2.2.2.1
     have rf:=fun o=>(hBt.frozen (p:=⟨w.heap.size+1,o,none⟩) bl1 (by simp)).trans (HZ.out.2.2.2.2 o)
     have y1:wr.cell? ⟨w.heap.size,2,none⟩=some (.slice ab f.body.length cb):=(hBt.cell (p:=⟨w.heap.size,2,none⟩) (by simp;omega) (by simp;omega)).trans z1
     have HU:=hide (used_any _ _ nn D _ wr q0 hO hN o_)
     have hsw:w.heap.size+4<=wr.heap.size:=by have:=hBt.1;omega
     have HOM:Hid (wr.ownsMap Tryz.prog 9 (plainElem (H:=Unit) Tryz.prog 2) (w.heap.size+1+1) nn D/\NamesIs D (f.params++declN f.body)):=⟨hO,hN⟩
     clear hO hN hjj y2 hBt hnn
     obtain ⟨N,hNe⟩ : ∃N,N=(f.params++declN f.body).length:=⟨_,rfl⟩
     rw [<-hNe] at HU hnl
     have HNe:=hide hNe
     clear hNe
     go_wp2_with fail
     refine HU.out.mono ?_
     rintro e w2 ⟨rfl,hw2⟩
     rw [hw2]
     clear hw2 HU
     obtain ⟨W2,hW2⟩ : ∃W2,W2=wr.setCell ⟨w.heap.size+1+1+1,1,none⟩ (.int .i64 (4*(N:Int))):=⟨_,rfl⟩
     have g0:W2.drew.cell? ⟨w.heap.size+1+1+1,0,none⟩=some (.map (some (w.heap.size+1+1))):=by show W2.cell? _=_;rw [hW2,World.cell?_setCell_other _ _ _ _ (by simp)];exact q0
     have g1:W2.drew.cell? ⟨w.heap.size+1+1+1,1,none⟩=some (.int .i64 (4*(N:Int))):=by show W2.cell? _=_;rw [hW2,World.cell?_setCell_same _ _ _ q1]
     have g2:W2.drew.cell? ⟨w.heap.size+1+1+1,2,none⟩=some (.int .i64 0):=by show W2.cell? _=_;rw [hW2,World.cell?_setCell_other _ _ _ _ (by simp)];exact q2
     have gf : ∀o,W2.drew.frozen? ⟨w.heap.size+1+1+1,o,none⟩=false:=fun o=>by show W2.frozen? _=_;rw [hW2,World.frozen?_setCell];exact qf o
     have t0:W2.drew.cell? ⟨w.heap.size+1,0,none⟩=some (.map none):=by show W2.cell? _=_;rw [hW2,World.cell?_setCell_other _ _ _ _ (by simp)];exact r0
     have t1:W2.drew.cell? ⟨w.heap.size+1,1,none⟩=some (.int .i64 0):=by show W2.cell? _=_;rw [hW2,World.cell?_setCell_other _ _ _ _ (by simp)];exact r1
     have t2:W2.drew.cell? ⟨w.heap.size+1,2,none⟩=some (.int .i64 0):=by show W2.cell? _=_;rw [hW2,World.cell?_setCell_other _ _ _ _ (by simp)];exact r2
     have tf : ∀o,W2.drew.frozen? ⟨w.heap.size+1,o,none⟩=false:=fun o=>by show W2.frozen? _=_;rw [hW2,World.frozen?_setCell];exact rf o
     have b2:W2.drew.cell? ⟨w.heap.size,2,none⟩=some (.slice ab f.body.length cb):=by show W2.cell? _=_;rw [hW2,World.cell?_setCell_other _ _ _ _ (by simp)];exact y1
     have hB2:Bl w W2.drew:=by rw [hW2];exact (hB.setCell (by simp;omega) _).drew
     have hs2:w.heap.size+4<=W2.drew.heap.size:=by rw [hW2];simpa using hsw
     have HM2:Hid (W2.drew.heap[w.heap.size+1+1]? = wr.heap[w.heap.size+1+1]?):=by
      show W2.heap[w.heap.size+1+1]? = _
      rw [hW2]
      exact Below.heap_setCell _ _ _ _ (by simp)
     have HP2:=HPl.out W2.drew hB2
     have HP3:=hide HP2
     have HW2:=hide hW2
     clear hW2 HP2
     obtain ⟨P,hPe⟩ : ∃P,P=places f.body:=⟨_,rfl⟩
     rw [<-hPe] at HP3 hpb
     have HPe:=hide hPe
     clear hPe
     have k1:IntKind.i64.wrap (P+1)=P+1:=by simp [IntKind.wrap,IntKind.bits,IntKind.signed];omega
     have k2:IntKind.i64.wrap (4*(P+1))=4*(P+1):=by simp [IntKind.wrap,IntKind.bits,IntKind.signed];omega
     have k3:IntKind.i64.wrap (4*(N:Int)+4*(P+1))=4*(N:Int)+4*(P+1):=by simp [IntKind.wrap,IntKind.bits,IntKind.signed];omega
     go_wp2_with fail
     rw [<-HW2.out]
     go_region_held3 (fun W=>W.cell? ⟨w.heap.size+1+1+1,1,none⟩=some (.int .i64 (4*(N:Int)))/\W.cell? ⟨w.heap.size,2,none⟩=some (.slice ab f.body.length cb)) (go_simp)
      (first
      | ((with_reducible refine Calls.mono HP3.out ?_);rintro e w3 ⟨rfl,hb3⟩;have e1:w3.cell? ⟨w.heap.size+1+1+1,1,none⟩=some (.int .i64 (4*(N:Int))):=(hb3.cell (p:=⟨w.heap.size+1+1+1,1,none⟩) (by simp at hs2 ⊢;omega)).trans g1;have e2:w3.cell? ⟨w.heap.size,2,none⟩=some (.slice ab f.body.length cb):=(hb3.cell (p:=⟨w.heap.size,2,none⟩) (by simp at hs2 ⊢;omega)).trans b2))
     have m0:=(hb3.cell (p:=⟨w.heap.size+1+1+1,0,none⟩) (by simp at hs2 ⊢;omega)).trans g0
     have m2:=(hb3.cell (p:=⟨w.heap.size+1+1+1,2,none⟩) (by simp at hs2 ⊢;omega)).trans g2
     have mf:=fun o=>(hb3.frozen (p:=⟨w.heap.size+1+1+1,o,none⟩) (by simp at hs2 ⊢;omega)).trans (gf o)
     have n0:=(hb3.cell (p:=⟨w.heap.size+1,0,none⟩) (by simp at hs2 ⊢;omega)).trans t0
     have n1:=(hb3.cell (p:=⟨w.heap.size+1,1,none⟩) (by simp at hs2 ⊢;omega)).trans t1
     have n2:=(hb3.cell (p:=⟨w.heap.size+1,2,none⟩) (by simp at hs2 ⊢;omega)).trans t2
     have nf:=fun o=>(hb3.frozen (p:=⟨w.heap.size+1,o,none⟩) (by simp at hs2 ⊢;omega)).trans (tf o)
     have hB3:=hB2.trans (hb3.mono hB2.size)
     have HM3:=hide ((hb3.block _ o_).trans HM2.out)
     have k4:IntKind.i64.wrap (4*(N:Int)+4*(P+1)+16)=4*(N:Int)+4*(P+1)+16:=by simp [IntKind.wrap,IntKind.bits,IntKind.signed];omega
     have k5:IntKind.i64.wrap (4*(N:Int)+4*(P+1)+16-1)=4*(N:Int)+4*(P+1)+15:=by simp [IntKind.wrap,IntKind.bits,IntKind.signed];omega
     clear g0 g1 g2 gf t0 t1 t2 tf b2 hb3 hB2 hB q0 q1 q2 qf r0 r1 r2 rf y1 HP3 HW2
     go_wp2_with fail
     refine bodyPost_ret (v:=.agg #[.map (some (w.heap.size+1+1)),.int .i64 (4*(N:Int)),.int .i64 ((4*(N:Int)+4*(P+1)+15) / 16*16)]) ?_ rfl ⟨w.heap.size+1+1,?_,?_,by omega,nn,D,?_,HOM.out.2⟩
     ·simp [results,Tryz.results49,go_sem,n0,n1,n2]
     ·rw [<-HNe.out,<-HPe.out]
     ·exact (((hB3.setCell (by simp;omega) _).setCell (by simp) _).setCell (by simp) _).setCell (by simp) _
     ·refine own_blk HOM.out.1 ?_
      rw [Below.heap_setCell _ _ _ _ (by simp),Below.heap_setCell _ _ _ _ (by simp),Below.heap_setCell _ _ _ _ (by simp),Below.heap_setCell _ _ _ _ (by simp)]
      exact HM3.out
theorem frameOf_any (f:Fu) (vp vb:Value) (w:World) (hTab:Tab w) (hp:Strs w vp f.params) (hb:Stmts w vb f.body) (hok : ∀s∈f.body,okE s.e/\okE s.f) (hnd:(f.params++declN f.body).Nodup) (hpl:f.params.length<=1000) (hbl:f.body.length<=100000) (hsz : ∀s∈f.params++declN f.body,s.size<=maxLen) :
  Calls Tryz.prog 49 #[.agg #[.string f.name,vp,vb]] w fun e w'=>∃b,e = .returned (.agg #[.map (some b),.int .i64 (4*((f.params++declN f.body).length:Int)),.int .i64 ((4*((f.params++declN f.body).length:Int)+4*(places f.body+1)+15) / 16*16)])/\Below w.heap.size w w':=
 (frameOf_map f vp vb w hTab hp hb hok hnd hpl hbl hsz).mono (fun _ _ ⟨b,h1,h2,_⟩=>⟨b,h1,h2⟩)
theorem declN_append (a b:List St):declN (a++b)=declN a++declN b:=by simp [declN]
theorem declN_cons (s:St) (r:List St):declN (s::r)=(if s.kind=1 then [s.name] else [])++declN r:=by
 unfold declN;by_cases h:s.kind=1 <;> simp [h]
theorem inS_mem {xs:List ByteArray} {s:ByteArray} (h:s∈xs):inS xs s=true:=by
 unfold inS;rw [List.any_eq_true];exact ⟨s,h,decide_eq_true rfl⟩
theorem blkE_nodup (t:Tr) (N:Nat) : ∀(ss:List St) (a:Int) (scope taken:List ByteArray),ss.length<=N->(blkE t ss a scope taken).1=0->taken.Nodup->(blkE t ss a scope taken).2.2=taken++declN ss/\(taken++declN ss).Nodup:=by
 induction N with
 | zero=>
  intro ss a scope taken hl h hn
  cases ss with
  | nil=>simp [blkE_nil0, blkE_cons,declN,hn]
  | cons s r=>simp at hl
 | succ N ih=>
  intro ss a scope taken hl h hn
  cases ss with
  | nil=>simp [blkE_nil0, blkE_cons,declN,hn]
  | cons s r=>
   simp only [l_c] at hl
   rw [blkE_cons] at h ⊢
   by_cases h1:stmtE t scope taken s≠0
   ·rw [if_pos h1] at h;exact absurd h h1
   ·rw [if_neg h1] at h ⊢
    have hn1:(if s.kind=1 then taken++[s.name] else taken).Nodup:=by
     split
     ·rename_i hk
      have hni:s.name∉taken:=by
       intro hm
       apply h1
       unfold stmtE
       by_cases he:exprE t scope (s.e++s.f)≠0
       ·rw [if_pos he];exact he
       ·rw [if_neg he,if_pos hk,if_pos (.inl (inS_mem hm))];decide
      rw [List.nodup_append]
      exact ⟨hn,by simp,fun x hx y hy=>by simp at hy;subst hy;exact fun e=>hni (e ▸ hx)⟩
     ·exact hn
    have e1:(if s.kind=1 then taken++[s.name] else taken)=taken++(if s.kind=1 then [s.name] else []):=by split <;> simp
    generalize (if s.kind=1 then scope++[s.name] else scope)=sc at h ⊢
    rw [e1] at h hn1 ⊢
    have ed:taken++declN (s::r)=taken++(if s.kind=1 then [s.name] else [])++declN (r.take s.thn.toNat)++declN ((r.drop s.thn.toNat).take s.els.toNat)++declN (r.drop (s.thn.toNat+s.els.toNat)):=by
     have er:r=r.take s.thn.toNat++((r.drop s.thn.toNat).take s.els.toNat++r.drop (s.thn.toNat+s.els.toNat)):=by
      rw [<-List.drop_drop,List.take_append_drop,List.take_append_drop]
     rw [declN_cons]
     conv=>lhs;rw [er]
     rw [declN_append,declN_append]
     simp only [List.append_assoc]
    rw [ed]
    generalize taken++(if s.kind=1 then [s.name] else [])=tk at h hn1 ⊢
    simp only at h ⊢
    by_cases hx:(blkE t (r.take s.thn.toNat) (a+1) sc tk).1≠0
    ·rw [if_pos hx] at h;exact absurd h hx
    ·rw [if_neg hx] at h ⊢
     obtain ⟨x1,x2⟩:=ih (r.take s.thn.toNat) (a+1) sc tk (by simp;omega) (by simpa using hx) hn1
     rw [x1] at h ⊢
     by_cases hy:(blkE t ((r.drop s.thn.toNat).take s.els.toNat) (a+1+s.thn) sc (tk++declN (r.take s.thn.toNat))).1≠0
     ·rw [if_pos hy] at h;exact absurd h hy
     ·rw [if_neg hy] at h ⊢
      obtain ⟨y1,y2⟩:=ih ((r.drop s.thn.toNat).take s.els.toNat) (a+1+s.thn) sc _ (by simp;omega) (by simpa using hy) x2
      rw [y1] at h ⊢
      exact ih (r.drop (s.thn.toNat+s.els.toNat)) _ sc _ (by simp;omega) h y2
theorem dupP_nodup (gs:List Gl) : ∀(ps seen:List ByteArray),seen.Nodup->dupP gs seen ps=false->(seen++ps).Nodup
 | [],seen,hn,_=>by simpa using hn
 | p::r,seen,hn,h=>by
  unfold dupP at h
  by_cases hc:inS seen p=true∨0<=globI gs p
  ·rw [if_pos hc] at h;cases h
  ·rw [if_neg hc] at h
   have hni:p∉seen:=fun hm=>hc (.inl (inS_mem hm))
   have:=dupP_nodup gs r (seen++[p]) (by
    rw [List.nodup_append]
    exact ⟨hn,by simp,fun x hx y hy=>by simp at hy;subst hy;exact fun e=>hni (e ▸ hx)⟩) h
   simpa using this
theorem bodyE_nodup {t:Tr} {i:Nat} {f:Fu} (h:(bodyE t i f).1=0):(f.params++declN f.body).Nodup:=by
 unfold bodyE at h
 by_cases hd:dupP t.globals [] f.params=true
 ·rw [if_pos hd] at h;cases h
 ·rw [if_neg hd] at h
  have h1:=dupP_nodup t.globals f.params [] List.nodup_nil (by simpa using hd)
  by_cases hb:(blkE t f.body 0 f.params f.params).1≠0
  ·rw [if_pos hb] at h;exact absurd h hb
  ·exact (blkE_nodup t f.body.length f.body 0 f.params f.params (Nat.le_refl _) (by simpa using hb) (by simpa using h1)).2
theorem bodiesE_nodup {t:Tr} : ∀(fs:List Fu) (i:Nat),(bodiesE t i fs).1=0->∀f∈fs,(f.params++declN f.body).Nodup
 | [],_,_=>fun f hf=>by cases hf
 | g::r,i,h=>by
  unfold bodiesE at h
  by_cases hb:(bodyE t i g).1≠0
  ·rw [if_pos hb] at h;exact absurd h hb
  ·rw [if_neg hb] at h
   intro f hf
   rcases List.mem_cons.1 hf with rfl | hf
   ·exact bodyE_nodup (by simpa using hb)
   ·exact bodiesE_nodup r (i+1) h f hf
theorem sound_nodup {t:Tr} (h:(checkE t).1=0):treeB t=true/\∀f∈t.funcs,(f.params++declN f.body).Nodup:=by
 unfold checkE at h
 by_cases h1:treeB t=false
 ·rw [if_pos h1] at h;cases h
 ·rw [if_neg h1] at h
  by_cases h2:(namesE t).1≠0
  ·rw [if_pos h2] at h;exact absurd h h2
  ·rw [if_neg h2] at h
   by_cases h3:(bodiesE t 0 t.funcs).1≠0
   ·rw [if_pos h3] at h;exact absurd h h3
   ·exact ⟨by simpa using h1,bodiesE_nodup t.funcs 0 (by simpa using h3)⟩
end Go.Proofs.YtnpidjamplmgjaaGreatDoor
