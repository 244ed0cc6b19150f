import Derived.Test.YtmddmgpijpjpbaaGreatDoorR20
namespace Go.Proofs.YtmddmgpijpjpbaaGreatDoor
open Go.RowKit
set_option linter.unusedVariables false
set_option linter.unusedSimpArgs false
set_option maxRecDepth 100000
set_option maxHeartbeats 16000000
def GlobsC (w:World) (b off:Nat) (gs:List Gl):Prop:=∀j (h:j<gs.length),w.cell? ⟨b,off+j*2,none⟩=some (.string gs[j].name)/\w.cell? ⟨b,off+j*2+1,none⟩=some (.int .i64 gs[j].size)
theorem GlobsC.below {w w':World} {b off:Nat} {gs:List Gl} (h:GlobsC w b off gs) (hb:Below w.heap.size w w'):GlobsC w' b off gs:=by
 intro j hj
 obtain ⟨c0,c1⟩:=h j hj
 have hlt:=World.block_lt_of_cell? _ _ c0
 exact ⟨(hb.cell (p:=⟨b,off+j*2,none⟩) hlt).trans c0,(hb.cell (p:=⟨b,off+j*2+1,none⟩) hlt).trans c1⟩
def Globs (w:World) (v:Value) (gs:List Gl):Prop:=∃a cap,v = .slice a gs.length cap/\gs.length<=cap/\cap<=9223372036854775807/\(0<gs.length->∃b off,a=some ⟨b,off,none⟩/\GlobsC w b off gs)
theorem Globs.below {w w':World} {v:Value} {gs:List Gl} (h:Globs w v gs) (hb:Below w.heap.size w w'):Globs w' v gs:=by
 obtain ⟨a,cap,rfl,hl,hm,h⟩:=h
 refine ⟨a,cap,rfl,hl,hm,fun h0 => ?_⟩
 obtain ⟨b,off,rfl,hc⟩:=h h0
 exact ⟨b,off,rfl,hc.below hb⟩
def FuncsC (w:World) (b off:Nat) (fs:List Fu):Prop:=∀j (h:j<fs.length),∃vp vb,(w.cell? ⟨b,off+j*3,none⟩=some (.string fs[j].name)/\w.cell? ⟨b,off+j*3+1,none⟩=some vp/\w.cell? ⟨b,off+j*3+2,none⟩=some vb)/\Strs w vp fs[j].params/\Stmts w vb fs[j].body
theorem FuncsC.below {w w':World} {b off:Nat} {fs:List Fu} (h:FuncsC w b off fs) (hb:Below w.heap.size w w'):FuncsC w' b off fs:=by
 intro j hj
 obtain ⟨vp,vb,⟨c0,c1,c2⟩,hp,hs⟩:=h j hj
 have hlt:=World.block_lt_of_cell? _ _ c0
 exact ⟨vp,vb,⟨(hb.cell (p:=⟨b,off+j*3,none⟩) hlt).trans c0,(hb.cell (p:=⟨b,off+j*3+1,none⟩) hlt).trans c1,(hb.cell (p:=⟨b,off+j*3+2,none⟩) hlt).trans c2⟩,hp.below hb,hs.below hb⟩
def Funcs (w:World) (v:Value) (fs:List Fu):Prop:=∃a cap,v = .slice a fs.length cap/\fs.length<=cap/\cap<=9223372036854775807/\(0<fs.length->∃b off,a=some ⟨b,off,none⟩/\FuncsC w b off fs)
theorem Funcs.below {w w':World} {v:Value} {fs:List Fu} (h:Funcs w v fs) (hb:Below w.heap.size w w'):Funcs w' v fs:=by
 obtain ⟨a,cap,rfl,hl,hm,h⟩:=h
 refine ⟨a,cap,rfl,hl,hm,fun h0 => ?_⟩
 obtain ⟨b,off,rfl,hc⟩:=h h0
 exact ⟨b,off,rfl,hc.below hb⟩
theorem box2 {w w':World} {t:TypeId} {x y:Value} (h:Below (w.heap.size+1) (w.alloc (.cells #[x,y] t)) w') :
  w'.cell? ⟨w.heap.size,0,none⟩=some x/\w'.cell? ⟨w.heap.size,1,none⟩=some y:=by
 refine ⟨?_,?_⟩ <;> (rw [h.cell (by simp)];simp)
theorem vglob_any (g:Gl) (w:World):Calls Tryz.prog 127 #[.agg #[.string g.name,.int .i64 g.size]] w fun e w'=>e = .returned (.bool (globB g))/\Below w.heap.size w w':=by
 obtain ⟨s,z⟩:=g
 simp only
 go_enter Tryz.func127,Tryz.ntmps127
 go_wp2_with fail
 refine (vname_any _ _).mono ?_
 rintro e w1 ⟨rfl,hb1⟩
 simp only [World.size_alloc] at hb1
 have hB1:=one_below hb1
 obtain ⟨x0,x1⟩:=box2 hb1
 cases hn:nameB s
 ·go_wp2_with fail
  go_ret
  exact ⟨ret_bool (by simp only [globB,hn,Bool.false_and]),hB1⟩
 by_cases h0:z<0
 ·go_wp2_with fail
  go_ret
  exact ⟨ret_bool (by simp only [globB,hn];simp;omega),hB1⟩
 ·go_wp2_with fail
  go_ret
  refine ⟨ret_bool ?_,hB1⟩
  simp only [globB,hn,Bool.true_and]
  apply Bool.eq_iff_iff.2
  simp <;> omega
theorem vtree_any (t:Tr) (vg vf:Value) (w:World) (hT:Tab w) (ht:smallT t) (hg:Globs w vg t.globals) (hf:Funcs w vf t.funcs) :
  Calls Tryz.prog 93 #[.agg #[vg,vf]] w fun e w'=>e = .returned (.bool (treeB t))/\Below w.heap.size w w':=by
 obtain ⟨gs,fs⟩:=t
 simp only at hg hf ⊢
 have HT:=hide hT
 have HS:=hide ht
 have hgl:gs.length<=1048576:=HS.out.1
 have hfl:fs.length<=1048576:=HS.out.2.1
 obtain ⟨ag,cg,rfl,-,-,hgc⟩:=hg
 obtain ⟨af,cf,rfl,-,-,hfc⟩:=hf
 have HGC:=hide hgc
 have HFC:=hide hfc
 by_cases h5:50<gs.length
 ·go_enter Tryz.func93,Tryz.ntmps93
  go_wp2_with fail
  go_ret
  exact ⟨ret_bool (by simp only [treeB,decide_eq_false (show ¬gs.length<=50 by omega),Bool.false_and]),(Below.refl _ _).alloc (Nat.le_refl _) _⟩
 by_cases h6:50<fs.length
 ·go_enter Tryz.func93,Tryz.ntmps93
  go_wp2_with fail
  go_ret
  exact ⟨ret_bool (by simp only [treeB,decide_eq_false (show ¬fs.length<=50 by omega),Bool.false_and,Bool.and_false]),(Below.refl _ _).alloc (Nat.le_refl _) _⟩
 have HTB:Hid (treeB ⟨gs,fs⟩=(gs.all globB && fs.all funcB)):=by
  show _=_
  simp only [treeB,decide_eq_true (show gs.length<=50 by omega),decide_eq_true (show fs.length<=50 by omega),Bool.true_and]
 go_enter Tryz.func93,Tryz.ntmps93
 go_wp2_with fail
 go_loopw [20] (fun i wr=>∃k:Nat,k<=gs.length/\i = .int .i64 k/\(∀g∈gs.take k,globB g=true)/\Below (w.heap.size+1) (w.alloc (.cells #[.slice ag gs.length cg,.slice af fs.length cf] 34)) wr) (fun i _=>gs.length-(intOf i).toNat)
 case atStart=>exact ⟨0,Nat.zero_le _,rfl,by simp,Below.refl _ _⟩
 case round=>
  obtain ⟨k,hk,rfl,hg,hB⟩:=hrel
  have HG:=hide hg
  have hBw:=one_below hB
  by_cases hlt:k<gs.length
  ·obtain ⟨b,off,rfl,hc⟩:=HGC.out (by omega)
   obtain ⟨d0,d1⟩:=(hc.below hBw) k hlt
   have HE:Hid (gs.take (k+1)=gs.take k++[gs[k]]):=take_succ gs k hlt
   have HX:Hid (globB gs[k]=false->gs.all globB=false):=allG_bad hlt
   generalize gs[k]=g at d0 d1 HE HX
   go_wp2_with fail
   refine (vglob_any g _).mono ?_
   rintro e w2 ⟨rfl,hb2⟩
   have hB2:=(hB.alloc (by have:=hB.size;simp at this;omega) (.cells #[.string g.name,.int .i64 g.size] 58)).trans (hb2.mono (by have:=hB.size;simp at this;simp;omega))
   cases hv:globB g
   ·go_wp2_with fail
    go_ret
    exact ⟨ret_bool (by rw [HTB.out,HX.out hv];rfl),one_below hB2⟩
   ·go_wp2_with fail
    go_roundw
    case rel=>
     refine ⟨k+1,by omega,by go_num,fun m hm => ?_,hB2⟩
     rw [HE.out] at hm
     rcases List.mem_append.1 hm with hm | hm
     ·exact HG.out m hm
     ·rw [List.mem_singleton.1 hm];exact hv
    case measure=>simp [intOf];omega
  ·have HA:Hid (gs.all globB=true):=by
    show _=_
    rw [List.all_eq_true]
    have:=HG.out
    rw [List.take_of_length_le (by omega)] at this
    exact this
   obtain ⟨x0,x1⟩:=box2 hB
   go_wp2_with fail
   go_loopw [31] (fun i wr=>∃k:Nat,k<=fs.length/\i = .int .i64 k/\(∀f∈fs.take k,funcB f=true)/\Below (w.heap.size+1) (w.alloc (.cells #[.slice ag gs.length cg,.slice af fs.length cf] 34)) wr) (fun i _=>fs.length-(intOf i).toNat)
   case atStart=>exact ⟨0,Nat.zero_le _,rfl,by simp,hB⟩
   case round=>
    obtain ⟨k,hk,rfl,hg,hB⟩:=hrel
    have HG:=hide hg
    have hBw:=one_below hB
    by_cases hlt:k<fs.length
    ·obtain ⟨b,off,rfl,hc⟩:=HFC.out (by omega)
     obtain ⟨vp,vb,⟨d0,d1,d2⟩,hp,hs⟩:=(hc.below hBw) k hlt
     have HE:Hid (fs.take (k+1)=fs.take k++[fs[k]]):=take_succ fs k hlt
     have HX:Hid (funcB fs[k]=false->fs.all funcB=false):=allF_bad hlt
     have HSM:Hid (smallF fs[k]):=HS.out.2.2 fs[k] (List.getElem_mem hlt)
     generalize fs[k]=f at d0 d1 d2 HE HX HSM hp hs
     have HP:=hide hp
     have HB:=hide hs
     obtain ⟨a2,k2,rfl,-,-,-⟩:=hp
     obtain ⟨a3,k3,rfl,-,-,-⟩:=hs
     have hBx:Bl wr (wr.alloc (.cells #[.string f.name,.slice a2 f.params.length k2,.slice a3 f.body.length k3] 85)):=bel_a _ _
     go_wp2_with fail
     refine (vfunc_any f _ _ _ ((HT.out.below HT.out.size hBw).below (HT.out.below HT.out.size hBw).size hBx) HSM.out (HP.out.below hBx) (HB.out.below hBx)).mono ?_
     rintro e w2 ⟨rfl,hb2⟩
     have hBx2:=hBx.trans (hb2.mono hBx.size)
     have hB2:=hB.trans (hBx2.mono (by have:=hB.size;simp at this;omega))
     cases hv:funcB f
     ·go_wp2_with fail
      go_ret
      exact ⟨ret_bool (by rw [HTB.out,HX.out hv];simp),one_below hB2⟩
     ·go_wp2_with fail
      go_roundw
      case rel=>
       refine ⟨k+1,by omega,by go_num,fun m hm => ?_,hB2⟩
       rw [HE.out] at hm
       rcases List.mem_append.1 hm with hm | hm
       ·exact HG.out m hm
       ·rw [List.mem_singleton.1 hm];exact hv
      case measure=>simp [intOf];omega
    ·have HA2:Hid (fs.all funcB=true):=by
      show _=_
      rw [List.all_eq_true]
      have:=HG.out
      rw [List.take_of_length_le (by omega)] at this
      exact this
     go_wp2_with fail
     go_ret
     exact ⟨ret_bool (by rw [HTB.out,HA.out,HA2.out];rfl),hBw⟩
theorem gtree_any (t:Tr) (vg vf:Value) (w:World) (ht:smallT t) (hg:Globs w vg t.globals) (hf:Funcs w vf t.funcs) :
  Calls Tryz.prog 50 #[.agg #[vg,vf]] w fun e w'=>e = .returned (.bool (treeB t))/\Below w.heap.size w w':=by
 obtain ⟨gs,fs⟩:=t
 simp only at hg hf ⊢
 have HS:=hide ht
 have hgl:gs.length<=1048576:=HS.out.1
 have hfl:fs.length<=1048576:=HS.out.2.1
 obtain ⟨ag,cg,rfl,-,-,hgc⟩:=hg
 obtain ⟨af,cf,rfl,-,-,hfc⟩:=hf
 have HGC:=hide hgc
 have HFC:=hide hfc
 by_cases h5:50<gs.length
 ·go_enter Tryz.func50,Tryz.ntmps50
  go_wp2_with fail
  go_ret
  exact ⟨ret_bool (by simp only [treeB,decide_eq_false (show ¬gs.length<=50 by omega),Bool.false_and]),(Below.refl _ _).alloc (Nat.le_refl _) _⟩
 by_cases h6:50<fs.length
 ·go_enter Tryz.func50,Tryz.ntmps50
  go_wp2_with fail
  go_ret
  exact ⟨ret_bool (by simp only [treeB,decide_eq_false (show ¬fs.length<=50 by omega),Bool.false_and,Bool.and_false]),(Below.refl _ _).alloc (Nat.le_refl _) _⟩
 have HTB:Hid (treeB ⟨gs,fs⟩=(gs.all globB && fs.all funcB)):=by
  show _=_
  simp only [treeB,decide_eq_true (show gs.length<=50 by omega),decide_eq_true (show fs.length<=50 by omega),Bool.true_and]
 go_enter Tryz.func50,Tryz.ntmps50
 go_wp2_with fail
 go_loopw [3] (fun i wr=>∃k:Nat,k<=gs.length/\i = .int .i64 k/\(∀g∈gs.take k,globB g=true)/\Below (w.heap.size+1) (w.alloc (.cells #[.slice ag gs.length cg,.slice af fs.length cf] 34)) wr) (fun i _=>gs.length-(intOf i).toNat)
 case atStart=>exact ⟨0,Nat.zero_le _,rfl,by simp,Below.refl _ _⟩
 case round=>
  obtain ⟨k,hk,rfl,hg,hB⟩:=hrel
  have HG:=hide hg
  have hBw:=one_below hB
  by_cases hlt:k<gs.length
  ·obtain ⟨b,off,rfl,hc⟩:=HGC.out (by omega)
   obtain ⟨d0,d1⟩:=(hc.below hBw) k hlt
   have HE:Hid (gs.take (k+1)=gs.take k++[gs[k]]):=take_succ gs k hlt
   have HX:Hid (globB gs[k]=false->gs.all globB=false):=allG_bad hlt
   generalize gs[k]=g at d0 d1 HE HX
   obtain ⟨x0,x1⟩:=box2 hB
   obtain ⟨s,z⟩:=g
   simp only at d0 d1
   cases hv:nameB s
   ·have hv2:globB ⟨s,z⟩=false:=by simp only [globB,hv,Bool.false_and]
    have HV:=hide hv2
    go_wp2_with (go_at_call 81;refine (name_any _ _).mono ?_;rintro e w' ⟨rfl,rfl⟩;rw [hv])
    go_ret
    exact ⟨ret_bool (by rw [HTB.out,HX.out HV.out];rfl),hBw⟩
   cases hz:decide (0<=z/\z<=4000)
   ·have hv2:globB ⟨s,z⟩=false:=by simp only [globB,hv,hz,Bool.and_false]
    have HV:=hide hv2
    have HZ:=hide hz
    go_wp2_with (first | (go_at_call 81;refine (name_any _ _).mono ?_;rintro e w' ⟨rfl,rfl⟩;rw [hv]) | (go_at_call 24;refine (in_any _ _ _ _).mono ?_;rintro e w' ⟨rfl,rfl⟩;rw [HZ.out]))
    go_ret
    exact ⟨ret_bool (by rw [HTB.out,HX.out HV.out];rfl),hBw⟩
   ·have HV:Hid (globB ⟨s,z⟩=true):=by
     show _=_
     simp only [globB,hv,hz,Bool.and_self]
    have HZ:=hide hz
    go_wp2_with (first | (go_at_call 81;refine (name_any _ _).mono ?_;rintro e w' ⟨rfl,rfl⟩;rw [hv]) | (go_at_call 24;refine (in_any _ _ _ _).mono ?_;rintro e w' ⟨rfl,rfl⟩;rw [HZ.out]))
    go_roundw
    case rel=>
     refine ⟨k+1,by omega,by go_num,fun m hm => ?_,hB⟩
     rw [HE.out] at hm
     rcases List.mem_append.1 hm with hm | hm
     ·exact HG.out m hm
     ·rw [List.mem_singleton.1 hm];exact HV.out
    case measure=>simp [intOf];omega
  ·have HA:Hid (gs.all globB=true):=by
    show _=_
    rw [List.all_eq_true]
    have:=HG.out
    rw [List.take_of_length_le (by omega)] at this
    exact this
   obtain ⟨x0,x1⟩:=box2 hB
   go_wp2_with fail
   go_loopw [4] (fun i wr=>∃k:Nat,k<=fs.length/\i = .int .i64 k/\(∀f∈fs.take k,funcB f=true)/\Below (w.heap.size+1) (w.alloc (.cells #[.slice ag gs.length cg,.slice af fs.length cf] 34)) wr) (fun i _=>fs.length-(intOf i).toNat)
   case atStart=>exact ⟨0,Nat.zero_le _,rfl,by simp,hB⟩
   case round=>
    obtain ⟨k,hk,rfl,hg,hB⟩:=hrel
    have HG:=hide hg
    have hBw:=one_below hB
    by_cases hlt:k<fs.length
    ·obtain ⟨b,off,rfl,hc⟩:=HFC.out (by omega)
     obtain ⟨vp,vb,⟨d0,d1,d2⟩,hp,hs⟩:=(hc.below hBw) k hlt
     have HE:Hid (fs.take (k+1)=fs.take k++[fs[k]]):=take_succ fs k hlt
     have HX:Hid (funcB fs[k]=false->fs.all funcB=false):=allF_bad hlt
     have HSM:Hid (smallF fs[k]):=HS.out.2.2 fs[k] (List.getElem_mem hlt)
     generalize fs[k]=f at d0 d1 d2 HE HX HSM hp hs
     have HP:=hide hp
     have HB:=hide hs
     obtain ⟨a2,k2,rfl,-,-,-⟩:=hp
     obtain ⟨a3,k3,rfl,-,-,-⟩:=hs
     obtain ⟨x0,x1⟩:=box2 hB
     go_wp2_with fail
     refine (gfunc_any f _ _ _ HSM.out HP.out HB.out).mono ?_
     rintro e w2 ⟨rfl,hb2⟩
     have hBx2:=hb2
     have hB2:=hB.trans (hBx2.mono (by have:=hB.size;simp at this;omega))
     cases hv:funcB f
     ·go_wp2_with fail
      go_ret
      exact ⟨ret_bool (by rw [HTB.out,HX.out hv];simp),one_below hB2⟩
     ·go_wp2_with fail
      go_roundw
      case rel=>
       refine ⟨k+1,by omega,by go_num,fun m hm => ?_,hB2⟩
       rw [HE.out] at hm
       rcases List.mem_append.1 hm with hm | hm
       ·exact HG.out m hm
       ·rw [List.mem_singleton.1 hm];exact hv
      case measure=>simp [intOf];omega
    ·have HA2:Hid (fs.all funcB=true):=by
      show _=_
      rw [List.all_eq_true]
      have:=HG.out
      rw [List.take_of_length_le (by omega)] at this
      exact this
     obtain ⟨x0,x1⟩:=box2 hB
     go_wp2_with fail
     go_ret
     exact ⟨ret_bool (by rw [HTB.out,HA.out,HA2.out];rfl),hBw⟩
def sumBy {α:Type} (f:α->Nat):List α->Nat
 | []=>0
 | x::r=>f x+sumBy f r
theorem sumBy_append {α:Type} (f:α->Nat) (a b:List α):sumBy f (a++b)=sumBy f a+sumBy f b:=by
 induction a with
 | nil=>simp [sumBy]
 | cons x r ih=>simp [sumBy,ih];omega
theorem sumBy_step {α:Type} (f:α->Nat) (l:List α) (k:Nat) (h:k<l.length):sumBy f (l.take (k+1))=sumBy f (l.take k)+f l[k]:=by
 rw [take_succ l k h,sumBy_append];simp [sumBy]
theorem sumBy_le {α:Type} (f:α->Nat) (l:List α) (k:Nat):sumBy f (l.take k)<=sumBy f l:=by
 have:=sumBy_append f (l.take k) (l.drop k)
 rw [List.take_append_drop] at this
 omega
theorem sumBy_mem {α:Type} (f:α->Nat) (l:List α) (x:α) (h:x∈l):f x<=sumBy f l:=by
 induction l with
 | nil=>cases h
 | cons y r ih=>
  simp only [sumBy]
  rcases List.mem_cons.1 h with rfl | h
  ·omega
  ·have:=ih h;omega
def szN (n:Nd):Nat:=n.name.size
def szNs (ns:List Nd):Nat:=ns.length+sumBy szN ns
def szSt (s:St):Nat:=s.name.size+szNs s.e+szNs s.f
def szSs (ss:List St):Nat:=ss.length+sumBy szSt ss
def szPs (ps:List ByteArray):Nat:=ps.length+sumBy ByteArray.size ps
def szFu (f:Fu):Nat:=f.name.size+szPs f.params+szSs f.body
def szFs (fs:List Fu):Nat:=fs.length+sumBy szFu fs
def szG (g:Gl):Nat:=g.name.size
def szGs (gs:List Gl):Nat:=gs.length+sumBy szG gs
def szT (t:Tr):Nat:=szGs t.globals+szFs t.funcs
def szR (left:Int) (n:Nat):Int:=if (n:Int)<=left then left-n else -1
theorem szR_le {left:Int} {n:Nat} (h:(n:Int)<=left):szR left n=left-n:=if_pos h
theorem szR_gt {left:Int} {n:Nat} (h:left<(n:Int)):szR left n = -1:=if_neg (by omega)
def wfNs (ns:List Nd):Prop:=ns.length<=9223372036854775807/\∀n∈ns,n.name.size<=9223372036854775807
def wfSt (s:St):Prop:=s.name.size<=9223372036854775807/\wfNs s.e/\wfNs s.f
def wfSs (ss:List St):Prop:=ss.length<=9223372036854775807/\∀s∈ss,wfSt s
def wfPs (ps:List ByteArray):Prop:=ps.length<=9223372036854775807/\∀s∈ps,s.size<=9223372036854775807
def wfFu (f:Fu):Prop:=f.name.size<=9223372036854775807/\wfPs f.params/\wfSs f.body
def wfFs (fs:List Fu):Prop:=fs.length<=9223372036854775807/\∀f∈fs,wfFu f
def wfGs (gs:List Gl):Prop:=gs.length<=9223372036854775807/\∀g∈gs,g.name.size<=9223372036854775807
def wfT (t:Tr):Prop:=wfGs t.globals/\wfFs t.funcs
theorem smallT_of {t:Tr} (h:szT t<=1048576):smallT t:=by
 unfold szT szGs szFs at h
 refine ⟨by omega,by omega,fun f hf => ?_⟩
 have h1:=sumBy_mem szFu _ _ hf
 have e1:szFu f=f.name.size+(f.params.length+sumBy ByteArray.size f.params)+(f.body.length+sumBy szSt f.body):=rfl
 refine ⟨by omega,by omega,fun s hs => ?_⟩
 have h2:=sumBy_mem szSt _ _ hs
 have e2:szSt s=s.name.size+(s.e.length+sumBy szN s.e)+(s.f.length+sumBy szN s.f):=rfl
 exact ⟨by omega,by omega⟩
theorem szNode_any (n:Nd) (left:Int) (w:World) (hl:0<=left/\left<=1048576) (hw:n.name.size<=9223372036854775807) :
  Calls Tryz.prog 177 #[.agg #[.int .i64 n.kind,.int .i64 n.val,.string n.name],.int .i64 left] w fun e w'=>e = .returned (.int .i64 (szR left (szN n)))/\Below w.heap.size w w':=by
 obtain ⟨k,v,s⟩:=n
 simp only at hw ⊢
 by_cases h:left<(s.size:Int)
 ·rw [show szR left (szN ⟨k,v,s⟩) = -1 from szR_gt h]
  go_enter Tryz.func177,Tryz.ntmps177
  go_wp2_with fail
  go_ret
  exact ⟨rfl,(Below.refl _ _).alloc (Nat.le_refl _) _⟩
 ·rw [show szR left (szN ⟨k,v,s⟩)=left-s.size from szR_le (by simp only [szN];omega)]
  go_enter Tryz.func177,Tryz.ntmps177
  go_wp2_with fail
  go_ret
  exact ⟨rfl,(Below.refl _ _).alloc (Nat.le_refl _) _⟩
theorem szGlob_any (g:Gl) (left:Int) (w:World) (hl:0<=left/\left<=1048576) (hw:g.name.size<=9223372036854775807) :
  Calls Tryz.prog 48 #[.agg #[.string g.name,.int .i64 g.size],.int .i64 left] w fun e w'=>e = .returned (.int .i64 (szR left (szG g)))/\Below w.heap.size w w':=by
 obtain ⟨s,z⟩:=g
 simp only at hw ⊢
 by_cases h:left<(s.size:Int)
 ·rw [show szR left (szG ⟨s,z⟩) = -1 from szR_gt h]
  go_enter Tryz.func48,Tryz.ntmps48
  go_wp2_with fail
  go_ret
  exact ⟨rfl,(Below.refl _ _).alloc (Nat.le_refl _) _⟩
 ·rw [show szR left (szG ⟨s,z⟩)=left-s.size from szR_le (by simp only [szG];omega)]
  go_enter Tryz.func48,Tryz.ntmps48
  go_wp2_with fail
  go_ret
  exact ⟨rfl,(Below.refl _ _).alloc (Nat.le_refl _) _⟩
theorem szStrs_any (v:Value) (ns:List ByteArray) (left:Int) (w:World) (hl:0<=left/\left<=1048576) (hw:wfPs ns) (hc:Strs w v ns) :
  Calls Tryz.prog 79 #[v,.int .i64 left] w fun e w'=>e = .returned (.int .i64 (szR left (szPs ns)))/\Below w.heap.size w w':=by
 obtain ⟨hw1,hw2⟩:=hw
 have HW:=hide hw2
 obtain ⟨a,cap,rfl,hcl,hcm,hc⟩:=hc
 have HC:=hide hc
 have HZ:Hid (szPs ns=ns.length+sumBy ByteArray.size ns):=rfl
 clear hc hw2
 by_cases h0:left<(ns.length:Int)
 ·rw [szR_gt (show left<(szPs ns:Int) by rw [HZ.out];omega)]
  go_enter Tryz.func79,Tryz.ntmps79
  go_wp2_with fail
  go_ret
  exact ⟨rfl,Below.refl _ _⟩
 go_enter Tryz.func79,Tryz.ntmps79
 go_wp2_with fail
 go_loopw [1,5] (fun q i wr=>∃k:Nat,k<=ns.length/\i = .int .i64 k/\q = .int .i64 (left-ns.length-(sumBy ByteArray.size (ns.take k):Nat))/\0<=left-ns.length-(sumBy ByteArray.size (ns.take k):Nat)/\wr=w) (fun _ i _=>ns.length-(intOf i).toNat)
 case atStart=>exact ⟨0,Nat.zero_le _,rfl,by simp [sumBy],by simp [sumBy];omega,rfl⟩
 case round=>
  obtain ⟨k,hk,rfl,rfl,hq,rfl⟩:=hrel
  by_cases hlt:k<ns.length
  ·obtain ⟨b,off,rfl,hc⟩:=HC.out (by omega)
   have d0:=hc k hlt
   have hws:=HW.out ns[k] (List.getElem_mem hlt)
   have HS:Hid _:=sumBy_step ByteArray.size ns k hlt
   have HLE:Hid _:=sumBy_le ByteArray.size ns (k+1)
   clear hc
   generalize ns[k]=s at d0 hws HS
   generalize hm:sumBy ByteArray.size (ns.take k)=m at hq HS ⊢
   clear hm
   by_cases h1:left-ns.length-(m:Int)<(s.size:Int)
   ·have HR:Hid (szR left (szPs ns) = -1):=szR_gt (show left<(szPs ns:Int) by have:=HS.out;have:=HLE.out;rw [HZ.out];omega)
    go_wp2_with fail
    go_ret
    exact ⟨ret_int HR.out.symm,Below.refl _ _⟩
   ·go_wp2_with fail
    go_roundw
    case rel=>exact ⟨k+1,by omega,by go_num,by rw [HS.out];go_num,by rw [HS.out];omega,by first | trivial | rfl⟩
    case measure=>simp [intOf];omega
  ·have hE:ns.take k=ns:=List.take_of_length_le (by omega)
   rw [hE] at hq ⊢
   have HR:Hid (szR left (szPs ns)=left-ns.length-(sumBy ByteArray.size ns:Nat)):=by
    show _=_
    rw [szR_le (show (szPs ns:Int)<=left by rw [HZ.out];omega),HZ.out];omega
   clear hE
   go_wp2_with fail
   go_ret
   exact ⟨ret_int HR.out.symm,Below.refl _ _⟩
theorem szNodes_any (v:Value) (ns:List Nd) (left:Int) (w:World) (hl:0<=left/\left<=1048576) (hw:wfNs ns) (hc:Nodes w v ns) :
  Calls Tryz.prog 153 #[v,.int .i64 left] w fun e w'=>e = .returned (.int .i64 (szR left (szNs ns)))/\Below w.heap.size w w':=by
 obtain ⟨hw1,hw2⟩:=hw
 have HW:=hide hw2
 obtain ⟨a,cap,rfl,hcl,hcm,hc⟩:=hc
 have HC:=hide hc
 have HZ:Hid (szNs ns=ns.length+sumBy szN ns):=rfl
 clear hc hw2
 by_cases h0:left<(ns.length:Int)
 ·rw [szR_gt (show left<(szNs ns:Int) by rw [HZ.out];omega)]
  go_enter Tryz.func153,Tryz.ntmps153
  go_wp2_with fail
  go_ret
  exact ⟨rfl,Below.refl _ _⟩
 go_enter Tryz.func153,Tryz.ntmps153
 go_wp2_with fail
 go_loopw [1,5] (fun q i wr=>∃k:Nat,k<=ns.length/\i = .int .i64 k/\q = .int .i64 (left-ns.length-(sumBy szN (ns.take k):Nat))/\0<=left-ns.length-(sumBy szN (ns.take k):Nat)/\Bl w wr) (fun _ i _=>ns.length-(intOf i).toNat)
 case atStart=>exact ⟨0,Nat.zero_le _,rfl,by simp [sumBy],by simp [sumBy];omega,Below.refl _ _⟩
 case round=>
  obtain ⟨k,hk,rfl,rfl,hq,hB⟩:=hrel
  by_cases hlt:k<ns.length
  ·obtain ⟨b,off,rfl,hc⟩:=HC.out (by omega)
   obtain ⟨d0,d1,d2⟩:=(hc.below hB) k hlt
   have HWS:Hid (ns[k].name.size<=9223372036854775807):=HW.out ns[k] (List.getElem_mem hlt)
   have HS:Hid _:=sumBy_step szN ns k hlt
   have HLE:Hid _:=sumBy_le szN ns (k+1)
   clear hc
   generalize ns[k]=s at d0 d1 d2 HWS HS
   generalize hm:sumBy szN (ns.take k)=m at hq HS ⊢
   clear hm
   go_wp2_with fail
   refine (szNode_any s _ _ ⟨by omega,by omega⟩ HWS.out).mono ?_
   rintro e w2 ⟨rfl,hb2⟩
   have hB2:=hB.trans (hb2.mono hB.size)
   clear d0 d1 d2
   by_cases h1:left-ns.length-(m:Int)<(szN s:Int)
   ·have HR:Hid (szR left (szNs ns) = -1):=szR_gt (show left<(szNs ns:Int) by have:=HS.out;have:=HLE.out;rw [HZ.out];omega)
    rw [szR_gt h1]
    go_wp2_with fail
    go_ret
    exact ⟨ret_int HR.out.symm,hB2⟩
   ·rw [szR_le (show (szN s:Int)<=left-ns.length-(m:Int) by omega)]
    generalize szN s=z at HS h1 ⊢
    go_wp2_with fail
    go_roundw
    case rel=>exact ⟨k+1,by omega,by go_num,by rw [HS.out];go_num,by rw [HS.out];omega,hB2⟩
    case measure=>simp [intOf];omega
  ·have hE:ns.take k=ns:=List.take_of_length_le (by omega)
   rw [hE] at hq ⊢
   have HR:Hid (szR left (szNs ns)=left-ns.length-(sumBy szN ns:Nat)):=by
    show _=_
    rw [szR_le (show (szNs ns:Int)<=left by rw [HZ.out];omega),HZ.out];omega
   clear hE
   go_wp2_with fail
   go_ret
   exact ⟨ret_int HR.out.symm,hB⟩
theorem szGlobs_any (v:Value) (ns:List Gl) (left:Int) (w:World) (hl:0<=left/\left<=1048576) (hw:wfGs ns) (hc:Globs w v ns) :
  Calls Tryz.prog 20 #[v,.int .i64 left] w fun e w'=>e = .returned (.int .i64 (szR left (szGs ns)))/\Below w.heap.size w w':=by
 obtain ⟨hw1,hw2⟩:=hw
 have HW:=hide hw2
 obtain ⟨a,cap,rfl,hcl,hcm,hc⟩:=hc
 have HC:=hide hc
 have HZ:Hid (szGs ns=ns.length+sumBy szG ns):=rfl
 clear hc hw2
 by_cases h0:left<(ns.length:Int)
 ·rw [szR_gt (show left<(szGs ns:Int) by rw [HZ.out];omega)]
  go_enter Tryz.func20,Tryz.ntmps20
  go_wp2_with fail
  go_ret
  exact ⟨rfl,Below.refl _ _⟩
 go_enter Tryz.func20,Tryz.ntmps20
 go_wp2_with fail
 go_loopw [1,5] (fun q i wr=>∃k:Nat,k<=ns.length/\i = .int .i64 k/\q = .int .i64 (left-ns.length-(sumBy szG (ns.take k):Nat))/\0<=left-ns.length-(sumBy szG (ns.take k):Nat)/\Bl w wr) (fun _ i _=>ns.length-(intOf i).toNat)
 case atStart=>exact ⟨0,Nat.zero_le _,rfl,by simp [sumBy],by simp [sumBy];omega,Below.refl _ _⟩
 case round=>
  obtain ⟨k,hk,rfl,rfl,hq,hB⟩:=hrel
  by_cases hlt:k<ns.length
  ·obtain ⟨b,off,rfl,hc⟩:=HC.out (by omega)
   obtain ⟨d0,d1⟩:=(hc.below hB) k hlt
   have HWS:Hid (ns[k].name.size<=9223372036854775807):=HW.out ns[k] (List.getElem_mem hlt)
   have HS:Hid _:=sumBy_step szG ns k hlt
   have HLE:Hid _:=sumBy_le szG ns (k+1)
   clear hc
   generalize ns[k]=s at d0 d1 HWS HS
   generalize hm:sumBy szG (ns.take k)=m at hq HS ⊢
   clear hm
   go_wp2_with fail
   refine (szGlob_any s _ _ ⟨by omega,by omega⟩ HWS.out).mono ?_
   rintro e w2 ⟨rfl,hb2⟩
   have hB2:=hB.trans (hb2.mono hB.size)
   clear d0 d1
   by_cases h1:left-ns.length-(m:Int)<(szG s:Int)
   ·have HR:Hid (szR left (szGs ns) = -1):=szR_gt (show left<(szGs ns:Int) by have:=HS.out;have:=HLE.out;rw [HZ.out];omega)
    rw [szR_gt h1]
    go_wp2_with fail
    go_ret
    exact ⟨ret_int HR.out.symm,hB2⟩
   ·rw [szR_le (show (szG s:Int)<=left-ns.length-(m:Int) by omega)]
    generalize szG s=z at HS h1 ⊢
    go_wp2_with fail
    go_roundw
    case rel=>exact ⟨k+1,by omega,by go_num,by rw [HS.out];go_num,by rw [HS.out];omega,hB2⟩
    case measure=>simp [intOf];omega
  ·have hE:ns.take k=ns:=List.take_of_length_le (by omega)
   rw [hE] at hq ⊢
   have HR:Hid (szR left (szGs ns)=left-ns.length-(sumBy szG ns:Nat)):=by
    show _=_
    rw [szR_le (show (szGs ns:Int)<=left by rw [HZ.out];omega),HZ.out];omega
   clear hE
   go_wp2_with fail
   go_ret
   exact ⟨ret_int HR.out.symm,hB⟩
theorem szStmt_any (s:St) (ve vf:Value) (left:Int) (w:World) (hl:0<=left/\left<=1048576) (hw:wfSt s) (he:Nodes w ve s.e) (hf:Nodes w vf s.f) :
  Calls Tryz.prog 116 #[.agg #[.int .i64 s.kind,.string s.name,ve,vf,.int .i64 s.thn,.int .i64 s.els],.int .i64 left] w fun e w'=>e = .returned (.int .i64 (szR left (szSt s)))/\Below w.heap.size w w':=by
 obtain ⟨kI,nI,es,fs,tI,lI⟩:=s
 have HWE:Hid (wfNs es):=hw.2.1
 have HWF:Hid (wfNs fs):=hw.2.2
 have hwn:nI.size<=9223372036854775807:=hw.1
 simp only at he hf ⊢
 have HE:=hide he
 have HF:=hide hf
 obtain ⟨ae,ce,rfl,-,-,-⟩:=he
 obtain ⟨af,cf,rfl,-,-,-⟩:=hf
 have HZ:Hid (szSt ⟨kI,nI,es,fs,tI,lI⟩=nI.size+szNs es+szNs fs):=rfl
 generalize szSt ⟨kI,nI,es,fs,tI,lI⟩=zz at HZ ⊢
 clear hw
 by_cases h0:left<(nI.size:Int)
 ·rw [szR_gt (show left<(zz:Int) by rw [HZ.out];omega)]
  go_enter Tryz.func116,Tryz.ntmps116
  go_wp2_with fail
  go_ret
  exact ⟨rfl,(Below.refl _ _).alloc (Nat.le_refl _) _⟩
 go_enter Tryz.func116,Tryz.ntmps116
 go_wp2_with fail
 refine (szNodes_any _ es _ _ ⟨by omega,by omega⟩ HWE.out (HE.out.below (bel_a _ _))).mono ?_
 rintro e w1 ⟨rfl,hb1⟩
 simp only [World.size_alloc] at hb1
 obtain ⟨x0,x1,x2,x3,x4,x5⟩:=box6 hb1
 have hB1:=one_below hb1
 by_cases h1:left-nI.size<(szNs es:Int)
 ·have HR:Hid (szR left zz = -1):=szR_gt (show left<(zz:Int) by rw [HZ.out];omega)
  rw [szR_gt h1]
  go_wp2_with fail
  go_ret
  exact ⟨ret_int HR.out.symm,hB1⟩
 rw [szR_le (show (szNs es:Int)<=left-nI.size by omega)]
 generalize szNs es=ze at HZ h1 ⊢
 go_wp2_with fail
 refine (szNodes_any _ fs _ _ ⟨by omega,by omega⟩ HWF.out (HF.out.below hB1)).mono ?_
 rintro e w2 ⟨rfl,hb2⟩
 have hB2:=hB1.trans (hb2.mono hB1.size)
 clear x0 x1 x2 x3 x4 x5
 by_cases h2:left-nI.size-ze<(szNs fs:Int)
 ·have HR:Hid (szR left zz = -1):=szR_gt (show left<(zz:Int) by rw [HZ.out];omega)
  rw [szR_gt h2]
  go_wp2_with fail
  go_ret
  exact ⟨ret_int HR.out.symm,hB2⟩
 have HR:Hid (left-nI.size-ze-(szNs fs:Nat)=szR left zz):=by
  show _=_
  rw [szR_le (show (zz:Int)<=left by rw [HZ.out];omega),HZ.out];omega
 rw [szR_le (show (szNs fs:Int)<=left-nI.size-ze by omega)]
 generalize szNs fs=zf at HZ HR h2 ⊢
 go_wp2_with fail
 go_ret
 exact ⟨ret_int HR.out,hB2⟩
end Go.Proofs.YtmddmgpijpjpbaaGreatDoor
