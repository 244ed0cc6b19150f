import Derived.Test.YtmddmgpijpjpbaaGreatDoorR13
import Derived.Deep.CutRange
namespace Go.Proofs.YtmddmgpijpjpbaaGreatDoor
open Go.RowKit
set_option linter.unusedVariables false
set_option linter.unusedSimpArgs false
set_option maxRecDepth 100000
set_option maxHeartbeats 16000000
theorem Fd.pos {ap:Int->Int->Int->Int} {e r:List Nd} (h:Fd ap e r):0<r.length:=by
 cases h using Fd_i with
 | mk e A b F hc hk=>
  unfold fold1
  repeat' split
  all_goals first | (simp [numN];done) | (simp [truthL];split <;> simp [numN];done) | (simp only [l_a,l_c];omega)
theorem un_bd (op a:Int):inB (unN op a):=by
 unfold unN w32
 split
 ·exact Ap.w32_bd _
 ·split
  ·unfold boolN;split <;> exact ⟨by decide,by decide⟩
  ·exact Ap.w32_bd _
theorem bool_bd (b:Bool):inB (boolN b):=by cases b <;> exact ⟨by decide,by decide⟩
theorem isN_num {v x:Int} (h:isN (numN v)=some x):x=v:=by simpa [isN,numN] using h.symm
theorem isN_snoc {r:List Nd} {n:Nd} {x:Int} (hp:0<r.length) (h:isN (r++[n])=some x):False:=by
 cases r with
 | nil=>simp at hp
 | cons a l=>cases l <;> simp [isN] at h
theorem truth_bd {r:List Nd} {x:Int} (hp:0<r.length) (h:isN (truthL r)=some x):inB x:=by
 unfold truthL at h
 split at h
 ·rw [isN_num h];exact bool_bd _
 ·cases r with
  | nil=>simp at hp
  | cons a l=>cases l <;> simp [isN] at h
theorem Fd.bd {e r:List Nd} {x:Int} (h:Fd apN e r) (hx:isN r=some x):inB x:=by
 cases h using Fd_i with
 | mk e A b F hc hk=>
  have hp : ∀i,i<A->0<(F i).length:=fun i hi=>(hk i hi).pos
  unfold fold1 at hx
  split at hx
  ·rename_i h6
   have hA:=hc.ar1 (.inr h6)
   split at hx
   ·rw [isN_num hx];exact un_bd _ _
   ·exact absurd hx (fun h=>isN_snoc (hp 0 (by omega)) h)
  ·split at hx
   ·rename_i h7
    have hA:=hc.ar2 (.inl h7)
    split at hx
    ·rw [isN_num hx];exact ap_bd _ _ _
    ·exact absurd hx (fun h=>isN_snoc (by have:=hp 0 (by omega);simp;omega) h)
   ·split at hx
    ·rename_i h8
     have hA:=hc.ar2 (.inr (.inl h8))
     split at hx
     ·split at hx
      ·rw [isN_num hx];exact ⟨by decide,by decide⟩
      ·exact truth_bd (hp 1 (by omega)) hx
     ·exact absurd hx (fun h=>isN_snoc (by have:=hp 0 (by omega);simp;omega) h)
    ·split at hx
     ·rename_i h9
      have hA:=hc.ar2 (.inr (.inr h9))
      split at hx
      ·split at hx
       ·exact truth_bd (hp 1 (by omega)) hx
       ·rw [isN_num hx];exact ⟨by decide,by decide⟩
      ·exact absurd hx (fun h=>isN_snoc (by have:=hp 0 (by omega);simp;omega) h)
     ·have hj:joinF F A = []∨0<(joinF F A).length:=by cases joinF F A <;> simp
      rcases hj with hj | hj
      ·rw [hj] at hx
       have hr:=hc.root_good
       simp only [List.nil_append,isN] at hx
       split at hx
       ·rename_i h1
        have : -2147483648<=(rootN e).val/\(rootN e).val<=2147483647:=by
         unfold nodeB at hr
         simp [h1] at hr
         omega
        simp only [Option.some.injEq] at hx
        rw [<-hx];exact this
       ·cases hx
      ·exact absurd hx (fun h=>isN_snoc hj h)
theorem val6' {n:Nd} (h:nodeB n=true) (h6:n.kind=6):0<=n.val/\n.val<=2:=by
 unfold nodeB at h
 simp [h6] at h
 omega
theorem is2 (v:Value) (r:List Nd) (w:World) (hp:0<r.length) (hl:r.length<=1048576) (hN:Nodes w v r) :
  Calls Tryz.prog 68 #[v] w fun e w'=>∃y,e = .returned (.tuple #[.bool (isN r).isSome,.int .i64 y])/\(∀x,isN r=some x->y=x)/\Below w.heap.size w w':=by
 cases r with
 | nil=>simp at hp
 | cons n r=>
  refine (is_any v n r w hl hN).mono ?_
  rintro e w' ⟨rfl,hb⟩
  exact ⟨_,rfl,fun x hx=>(isN_cons hx).symm,hb⟩
def FoldSpec (w0:World) (e r:List Nd):Prop:=
 ∀(v:Value) (w:World),Nodes w0 v e->Below w0.heap.size w0 w ->
  Calls Tryz.prog 67 #[v] w fun x w'=>∃u,x = .returned u/\Nodes w' u r/\(∀g,u.ownBlock=some g->w.heap.size<=g)/\Below w.heap.size w w'
structure FInv (w wr:World) (F:Nat->List Nd) (i:Nat) (ov fv:Value):Prop where
 out:NRow w.heap.size wr ov (joinF F i)
 us : ∃us:List Value,us.length=i/\wr.ownsRow w.heap.size 115 1 fv i us/\∀j (h:j<us.length),Nodes wr us[j] (F j)/\∀g,us[j].ownBlock=some g->ov.ownBlock≠some g/\fv.ownBlock≠some g
 ne : ∀g,ov.ownBlock=some g->fv.ownBlock≠some g
 bel:Below w.heap.size w wr
theorem nodes_lt {w:World} {v:Value} {ns:List Nd} (h:Nodes w v ns) (hp:0<ns.length) : ∀g,v.ownBlock=some g->g<w.heap.size:=by
 intro g hg
 obtain ⟨a,cap,rfl,_,_,h⟩:=h
 obtain ⟨b,off,rfl,hc⟩:=h hp
 simp only [Value.ownBlock,Option.some.injEq] at hg
 have:=World.block_lt_of_cell? _ _ (hc 0 hp).1
 simp only at this
 omega
theorem FInv.below {w wr w3:World} {F:Nat->List Nd} {k:Nat} {ov fv:Value} (h:FInv w wr F k ov fv) (hb:Below wr.heap.size wr w3):FInv w w3 F k ov fv:=by
 obtain ⟨us,h1,h2,h3⟩:=h.us
 exact ⟨h.out.below hb,⟨us,h1,ownB h2 hb,fun j hj=>⟨(h3 j hj).1.below hb,(h3 j hj).2⟩⟩,h.ne,h.bel.trans (hb.mono h.bel.size)⟩
theorem FInv.step {w w3 w4 w5:World} {F:Nat->List Nd} {k:Nat} {ov fv ov' fv' u:Value} {us:List Value} {o:Obj} (hI:FInv w w3 F k ov fv) (hul:us.length=k) (hus : ∀j (h:j<us.length),Nodes w3 us[j] (F j)/\∀g,us[j].ownBlock=some g->ov.ownBlock≠some g/\fv.ownBlock≠some g)
  (hFp : ∀j,j<=k->0<(F j).length) (hu:Nodes w3 u (F k)) (huo : ∀g,u.ownBlock=some g->ov.ownBlock≠some g/\fv.ownBlock≠some g)
  (hfl : ∀g,fv.ownBlock=some g->g<w3.heap.size)
  (hf:w4.ownsRow w.heap.size 115 1 fv' (k+1) (us++[u])) (hg4:(w3.alloc o).grownBy w4 fv.ownBlock) (hf4 : ∀g,fv'.ownBlock=some g->fv.ownBlock=some g∨w3.heap.size+1<=g)
  (ho:NRow w.heap.size w5 ov' (joinF F k++F k)) (hg5:w4.grownBy w5 ov.ownBlock) (hf5 : ∀g,ov'.ownBlock=some g->ov.ownBlock=some g∨w4.heap.size<=g):FInv w w5 F (k+1) ov' fv':=by
 have hs3:w3.heap.size+1<=w4.heap.size:=by have:=hg4.size;simpa using this
 have hol : ∀g,ov.ownBlock=some g->g<w3.heap.size:=fun g hg=>(World.ownsRow.lt hI.out g hg).2
 have hfb : ∀g,fv'.ownBlock=some g->g<w4.heap.size:=fun g hg=>(World.ownsRow.lt hf g hg).2
 have key : ∀(x:Value) (r:List Nd),0<r.length->Nodes w3 x r->(∀g,x.ownBlock=some g->ov.ownBlock≠some g/\fv.ownBlock≠some g)->Nodes w5 x r/\∀g,x.ownBlock=some g->ov'.ownBlock≠some g/\fv'.ownBlock≠some g:=by
  intro x r hr hx hxo
  have hlt:=nodes_lt hx hr
  refine ⟨((hx.below ((Below.refl _ _).alloc (Nat.le_refl _) o)).grown hg4 (fun g hg=>(hxo g hg).2)).grown hg5 (fun g hg=>(hxo g hg).1),fun g hg=>⟨fun h => ?_,fun h => ?_⟩⟩
  ·rcases hf5 g h with h' | h'
   ·exact (hxo g hg).1 h'
   ·have:=hlt g hg;omega
  ·rcases hf4 g h with h' | h'
   ·exact (hxo g hg).2 h'
   ·have:=hlt g hg;omega
 have hfo : ∀g,fv'.ownBlock=some g->ov.ownBlock≠some g:=by
  intro g hg h
  rcases hf4 g hg with h' | h'
  ·exact hI.ne g h h'
  ·have:=hol g h;omega
 refine ⟨ho,⟨us++[u],by simp [hul],ownG hf hg5 hfo,fun j hj => ?_⟩,fun g hg h => ?_,?_⟩
 ·by_cases hjk:j<us.length
  ·rw [List.getElem_append_left hjk]
   exact key _ _ (hFp j (by omega)) (hus j hjk).1 (hus j hjk).2
  ·have:j=us.length:=by simp at hj;omega
   subst this
   rw [List.getElem_append_right (Nat.le_refl _)]
   simp only [Nat.sub_self,List.getElem_cons_zero]
   rw [hul]
   exact key _ _ (hFp k (Nat.le_refl _)) hu huo
 ·rcases hf5 g hg with h' | h'
  ·exact hfo g h h'
  ·have:=hfb g h;omega
 ·have hb:=hI.bel
  have h4:Bl w w4:=(hb.alloc hb.size o).grown hg4 (by have:=hb.size;simp;omega) (fun g hg=>(by
   obtain ⟨us',_,hfo',_⟩:=hI.us
   exact (World.ownsRow.lt hfo' g hg).1))
  exact h4.grown hg5 h4.size (fun g hg=>(World.ownsRow.lt hI.out g hg).1)
theorem fold_step (w0:World) (e:List Nd) (A:Nat) (b:Nat->Nat) (F:Nat->List Nd) (hc0:Cut e A b) (hl1:e.length<=1048576) (hk : ∀i,i<A->Fd apN (kid e b i) (F i)) (hX : ∀i,i<A->FoldSpec w0 (kid e b i) (F i)) :
  FoldSpec w0 e (fold1 apN (rootN e) A F):=by
 intro v w hN hB
 have HN:=hide hN
 have HB:=hide hB
 have HCut:=hide hc0
 have HX:=hide hX
 have HFd:=hide hk
 have HJl:Hid (∀i,i<=A->(joinF F i).length<=1048576):=fun i hi=>by
  have h1:=joinF_len hc0 (fun j hj=>(hk j hj).len) i hi
  have h2:=hc0.le' i hi
  omega
 have he:=hc0.len
 have HG:Hid (nodeB (rootN e)=true):=hc0.root_good
 have HA:Hid (arity (rootN e)=A):=hc0.ar
 have hA6:(A:Int)<=6:=by have:=hc0.arA;omega
 obtain ⟨i0,hi0,hz0,hz1,hz2⟩:=info_parts info_nodes
 have HR:Hid (Calls Tryz.prog 104 #[v] w fun r w'=>r = .returned (.agg #[.int .i64 (rootN e).kind,.int .i64 (rootN e).val,.string (rootN e).name])/\Bl w w'):=by
  have:=root_any _ e w he hl1 (hN.below hB)
  rw [<-rootN_eq e he] at this
  exact this
 have HK:=hide fun (W:World) (hW:Bl w W)=>kids_any w0 v e A b W hl1 hN (hB.trans (hW.mono hB.size)) hc0
 have HT1:Hid (∀r,fold1 apN (rootN e) A F=r->True):=fun _ _=>trivial
 generalize hR:rootN e=R at HG HA HR ⊢
 have HC2:Hid (R.kind=7∨R.kind=8∨R.kind=9->A=2):=fun h=>hc0.ar2 (by rw [hR];exact h)
 have HC1:Hid (R.kind=6->A=1):=fun h=>hc0.ar1 (by rw [hR];exact .inr h)
 obtain ⟨nk,nv,nm⟩:=R
 obtain ⟨nm,rfl⟩ : ∃m:ByteArray,nm=m:=⟨_,rfl⟩
 simp only at HR HC1 HC2
 generalize hT:fold1 apN ⟨nk,nv,nm⟩ A F=T
 have HT:=hide hT
 go_enter Tryz.func67,Tryz.ntmps67
 go_wp2_with fail
 refine HR.out.mono ?_
 rintro x w1 ⟨rfl,hb1⟩
 go_wp2_with fail
 have hba : ∀o,Bl w (w1.alloc o):=fun o=>hb1.alloc hb1.size o
 refine (HK.out _ (hba _)).mono ?_
 rintro x W ⟨vk,rfl,hKd,hb2⟩
 obtain ⟨g0,g1,g2⟩:W.cell? ⟨w1.heap.size,0,none⟩=some (.int .i64 nk)/\W.cell? ⟨w1.heap.size,1,none⟩=some (.int .i64 nv)/\W.cell? ⟨w1.heap.size,2,none⟩=some (.string nm):=by
  refine ⟨?_,?_,?_⟩
  ·rw [hb2.cell (by simp)];simp
  ·rw [hb2.cell (by simp)];simp
  ·rw [hb2.cell (by simp)];simp
 have HBW:Hid (Bl w W):=(hba _).trans (hb2.mono (by have:=hb1.size;simp;omega))
 have HKd:=hide hKd
 obtain ⟨ua,uc,rfl,hu1,hu2,-⟩:=hKd
 have hGl:w1.heap.size<W.heap.size:=World.block_lt_of_cell? _ _ g0
 have HG0:=hide g0
 have HG1:=hide g1
 have HG2:=hide g2
 generalize w1.heap.size=G at hGl HG0 HG1 HG2 ⊢
 have HI0:Hid (FInv W ((W.alloc (.cells #[] 161)).alloc (.cells #[] 115)) F 0 (.slice (some ⟨W.heap.size,0,none⟩) 0 0) (.slice (some ⟨W.heap.size+1,0,none⟩) 0 0)):=by
  have hl:(W.alloc (.cells #[] 161)).heap.size=W.heap.size+1:=by simp
  refine ⟨?_,⟨[],rfl,?_,fun j hj=>absurd hj (by simp)⟩,fun g hg => ?_,(bel_a _ _).alloc (by simp) _⟩
  ·exact ownB (World.ownsRow_lit W #[] 0 (Nat.le_refl _) (by decide) rfl) (bel_a _ _)
  ·rw [<-hl]
   exact World.ownsRow_lit (W.alloc (.cells #[] 161)) #[] 0 (by simp) (by decide) rfl
  ·simp only [Value.ownBlock,Option.some.injEq,ne_eq] at hg ⊢;omega
 go_wp2_with fail
 go_loopw [5,6,7] (fun ov fv ix wr=>∃k:Nat,k<=A/\ix = .int .i64 k/\FInv W wr F k ov fv) (fun _ _ ix _=>A-(intOf ix).toNat)
 case atStart=>exact ⟨0,Nat.zero_le _,rfl,HI0.out⟩
 case round=>
  obtain ⟨k,hk,rfl,hI⟩:=hrel
  have HI:=hide hI
  by_cases hkA:k<A
  ·obtain ⟨ua',uc',he',_,_,hu3⟩:=HKd.out
   simp only [Value.slice.injEq,true_and] at he'
   obtain ⟨rfl,rfl⟩:=he'
   obtain ⟨B,rfl,-,hBl,hBc⟩:=hu3 (by omega)
   obtain ⟨vi,hv1,hv2⟩:=hBc k hkA
   have hv:=(hI.bel.cell (p:=⟨B,k,none⟩) hBl).trans hv1
   have HC:=hide (HX.out k hkA vi wr hv2 (HB.out.trans ((HBW.out.trans (hI.bel.mono HBW.out.size)).mono HB.out.size)))
   have hFp:0<(F k).length:=(HFd.out k hkA).pos
   have HFl:Hid ((joinF F (k+1)).length<=1048576):=HJl.out (k+1) hkA
   go_wp2_with fail
   refine HC.out.mono ?_
   rintro x w3 ⟨u,rfl,hun,huf,hb3⟩
   obtain ⟨pa,pn,pc,rfl⟩ : ∃pa pn pc,u = .slice pa pn pc:=by obtain ⟨a,c,rfl,_⟩:=hun;exact ⟨_,_,_,rfl⟩
   have hI3:=HI.out.below hb3
   have HI3:=hide hI3
   obtain ⟨us,hul,hfo,hus⟩:=hI3.us
   obtain ⟨us0,hul0,hfo0,-⟩:=HI.out.us
   have HUs:=hide hus
   have HFo:=hide hfo
   have HUn:=hide hun
   have HUo:Hid (∀g,(Value.slice pa pn pc).ownBlock=some g->u5.ownBlock≠some g/\u6.ownBlock≠some g):=fun g hg=>by
    have h1:=huf g hg
    refine ⟨fun h => ?_,fun h => ?_⟩
    ·have:=(World.ownsRow.lt HI.out.out g h).2;omega
    ·have:=(World.ownsRow.lt hfo0 g h).2;omega
   have hu1':(Value.slice pa pn pc).oneCell'=true:=nodes_one hun
   have hs3:W.heap.size<=w3.heap.size:=hI3.bel.size
   have hFb:(joinF F k).length+(F k).length<=1048576:=by have:=HFl.out;simp only [joinF,l_a] at this;exact this
   go_wp2_with (at_builtin;refine wpList_appF rfl _ _ 163 rfl W.heap.size 115 i0 (.slice none 0 0) 1 24 Tryz.underlying163 hi0 hz0 hz1 hz2 rfl (by decide) _ k us rfl (ownB HFo.out (bel_a _ _)) ⟨w3.heap.size,0,none⟩ 1 1 [.slice pa pn pc] rfl rfl (fun j x hx=>by cases j with | zero=>(simp at hx;subst hx;simp [Addr.add]) | succ j=>simp at hx) (fun x hx=>by simp at hx;subst hx;exact hu1') (by omega) (by omega) (by simp;omega) ?_)
   intro fv' w4 hf4 hg4 hfr4
   have hne4 : ∀g,u5.ownBlock=some g->u6.ownBlock≠some g:=HI3.out.ne
   have hR4:NRow W.heap.size w4 u5 (joinF F k):=ownG (HI3.out.out.below (bel_a _ _)) hg4 hne4
   have HR4:=hide hR4
   have HN4:Hid (Nodes w4 (.slice pa pn pc) (F k)):=(HUn.out.below (bel_a _ _)).grown hg4 (fun g hg=>(HUo.out g hg).2)
   have hs4:W.heap.size<=w4.heap.size:=by have:=hg4.size;simp at this;omega
   have HF4:=hide hf4
   have HG4:=hide hg4
   have HFr4:=hide hfr4
   go_wp2_with (at_builtin;refine wpList_appN rfl _ _ rfl W.heap.size _ (joinF F k) rfl HR4.out _ (F k) rfl HN4.out hFp (by omega) hs4 ?_)
   intro ov' w5 ho5 hg5 hfr5
   have HIn:Hid (FInv W w5 F (k+1) ov' fv'):=HI3.out.step hul HUs.out (fun j hj=>(HFd.out j (by omega)).pos) HUn.out HUo.out (fun g hg=>(World.ownsRow.lt HFo.out g hg).2) HF4.out HG4.out HFr4.out ho5 hg5 hfr5
   go_wp2_with fail
   go_roundw
   case rel=>exact ⟨k+1,by omega,by go_num,HIn.out⟩
   case measure=>simp [intOf];omega
  ·obtain rfl:k=A:=by omega
   obtain ⟨us,hul,hfo,hus⟩:=hI.us
   have hbW:=hI.bel
   have HBr:Hid (Bl w wr):=HBW.out.trans (hbW.mono HBW.out.size)
   have g0:=(hbW.cell (p:=⟨G,0,none⟩) hGl).trans HG0.out
   have g1:=(hbW.cell (p:=⟨G,1,none⟩) hGl).trans HG1.out
   have g2:=(hbW.cell (p:=⟨G,2,none⟩) hGl).trans HG2.out
   have HUs:=hide hus
   have hWw:w.heap.size<=W.heap.size:=HBW.out.size
   have HOut:Hid (NRow W.heap.size wr u5 (joinF F k)):=hI.out
   have hsr:W.heap.size<=wr.heap.size:=hbW.size
   have HJ:Hid ((joinF F k).length<=1048576):=HJl.out k (Nat.le_refl _)
   rcases Nat.eq_zero_or_pos k with rfl | hk0
   ·
    have HE:Hid (T = [⟨nk,nv,nm⟩]):=by
     refine HT.out.symm.trans ?_
     have h6 : ¬nk=6:=fun h=>by have:=HC1.out h;omega
     have h7 : ¬(nk=7∨nk=8∨nk=9):=fun h=>by have:=HC2.out h;omega
     unfold fold1
     simp only
     rw [if_neg h6,if_neg (by omega),if_neg (by omega),if_neg (by omega)]
     rfl
    have HNo:Hid (Nodes (wr.alloc (.cells #[.int .i64 nk,.int .i64 nv,.string nm] 161)) (.slice (some ⟨wr.heap.size,0,none⟩) 1 1) [⟨nk,nv,nm⟩]):=by
     refine ⟨_,1,rfl,Nat.le_refl _,by omega,fun _=>⟨wr.heap.size,0,rfl,fun j hj => ?_⟩⟩
     obtain rfl:j=0:=by simp at hj;exact hj
     simp
    go_wp2_with (at_builtin;refine wpList_appN rfl _ _ rfl W.heap.size _ (joinF F 0) rfl (HOut.out.below (bel_a _ _)) _ _ rfl HNo.out (by simp) (by simp [joinF]) (by simp;omega) ?_)
    intro v9 w9 ho9 hg9 hfr9
    have HB9:Hid (Bl w w9):=(HBr.out.alloc HBr.out.size _).grown hg9 (by have:=HBr.out.size;simp;omega) (fun g hg=>Nat.le_trans hWw (World.ownsRow.lt HOut.out g hg).1)
    have HN9:Hid (Nodes w9 v9 T):=by have:=ho9.nodes;rw [HE.out];exact this
    have HF9:Hid (∀g,v9.ownBlock=some g->w.heap.size<=g):=fun g hg=>Nat.le_trans hWw (World.ownsRow.lt ho9 g hg).1
    go_wp2_with fail
    exact bodyPost_ret (v:=v9) (by simp [results,Tryz.results67,go_sem]) rfl ⟨_,rfl,HN9.out,HF9.out,HB9.out⟩
   ·
    obtain ⟨g6,c6,cur6,h6v,hg6,hh6,hk6,hm6,hz6,ht6⟩ : ∃g cap cur,u6 = .slice (some ⟨g,0,none⟩) k cap/\W.heap.size<=g/\wr.heap[g]? = some (.cells cur 115 (0,0))/\k<=cap/\cap<=maxLen/\cur.size=cap*1/\cur.toList.take (k*1)=us:=by
     rcases hfo.2 with ⟨_,h⟩ | h
     ·omega
     ·exact h
    subst h6v
    have hcell : ∀j (h:j<us.length),wr.cell? ⟨g6,j,none⟩=some us[j]:=fun j h=>by
     have:=World.ownsRow.cells hfo (g:=g6) rfl j us[j] (by simp [List.getElem?_eq_getElem h])
     rw [addr0] at this
     exact this
    have hc6l:c6<=9223372036854775807:=by simp only [maxLen] at hm6;omega
    have hF0p:0<(F 0).length:=(HFd.out 0 hk0).pos
    have hF0l:(F 0).length<=1048576:=by have h1:=(HFd.out 0 hk0).len;have h2:=HCut.out.kid_lt 0 hk0;omega
    have HN0:Hid (Nodes wr us[0] (F 0)):=(HUs.out 0 (by omega)).1
    have HBd0:Hid (∀x,isN (F 0)=some x->inB x):=fun x hx=>(HFd.out 0 hk0).bd hx
    have y0:=hcell 0 (by omega)
    have HCell:=hide hcell
    have hg6l:g6<wr.heap.size:=(Array.getElem?_eq_some_iff.1 hh6).1
    obtain ⟨p0,q0,r0,hU0⟩ : ∃p q r,us[0] = .slice p q r:=by obtain ⟨a,c,h,_⟩:=HN0.out;exact ⟨_,_,_,h⟩
    rw [hU0] at y0 HN0
    have hAi:(0:Int)<(k:Int):=by omega
    go_wp2_with fail
    refine (is2 _ (F 0) wr hF0p hF0l HN0.out).mono ?_
    rintro x w5 ⟨y,rfl,hy,hb5⟩
    have HY:=hide hy
    have HBw5:Hid (Bl w w5):=HBr.out.trans (hb5.mono HBr.out.size)
    have HOutw5:Hid (NRow W.heap.size w5 u5 (joinF F k)):=HOut.out.below hb5
    replace g0:=(hb5.cell (p:=⟨G,0,none⟩) (show G<wr.heap.size by omega)).trans g0
    replace g1:=(hb5.cell (p:=⟨G,1,none⟩) (show G<wr.heap.size by omega)).trans g1
    replace g2:=(hb5.cell (p:=⟨G,2,none⟩) (show G<wr.heap.size by omega)).trans g2
    have hs5:=hb5.size
    by_cases h6:nk=6
    ·subst h6
     have e1:k=1:=HC1.out rfl
     subst e1
     have hnv:0<=nv/\nv<=2:=val6' HG.out rfl
     cases hx:isN (F 0) with
     | some x=>
      have HE:Hid (T=numN (unN nv x)):=HT.out.symm.trans (by simp [fold1,hx])
      have hyx:y=x:=HY.out x hx
      subst hyx
      have HBy:Hid (inB y):=HBd0.out y hx
      simp only [Option.isSome_some]
      go_wp2_with fail
      refine (unS_any nv y hnv.1 hnv.2 HBy.out w5).mono ?_
      rintro x w6 ⟨rfl,rfl⟩
      go_wp2_with fail
      refine (num_any (unN nv y) w6).mono ?_
      rintro x w9 ⟨u9,rfl,hn9,hf9,hb9⟩
      have HN9:Hid (Nodes w9 u9 T):=by rw [HE.out];exact hn9
      go_wp2_with fail
      exact bodyPost_ret (v:=u9) (by simp [results,Tryz.results67,go_sem]) rfl ⟨_,rfl,HN9.out,fun g hg=>Nat.le_trans HBw5.out.size (hf9 g hg),HBw5.out.trans (hb9.mono HBw5.out.size)⟩
     | none=>
      have HE:Hid (T=joinF F 1++[⟨6,nv,nm⟩]):=HT.out.symm.trans (by simp [fold1,hx,joinF])
      simp only [Option.isSome_none]
      have HNo:Hid (Nodes (w5.alloc (.cells #[.int .i64 6,.int .i64 nv,.string nm] 161)) (.slice (some ⟨w5.heap.size,0,none⟩) 1 1) [⟨6,nv,nm⟩]):=by
       refine ⟨_,1,rfl,Nat.le_refl _,by omega,fun _=>⟨w5.heap.size,0,rfl,fun j hj => ?_⟩⟩
       obtain rfl:j=0:=by simp at hj;exact hj
       simp
      go_wp2_with (at_builtin;refine wpList_appN rfl _ _ rfl W.heap.size _ (joinF F 1) rfl (HOutw5.out.below (bel_a _ _)) _ _ rfl HNo.out (by simp) (by have:=HJ.out;simp;omega) (by simp;omega) ?_)
      intro v9 w9 ho9 hg9 hfr9
      have HB9:Hid (Bl w w9):=(HBw5.out.alloc HBw5.out.size _).grown hg9 (by have:=HBw5.out.size;simp;omega) (fun g hg=>Nat.le_trans hWw (World.ownsRow.lt HOutw5.out g hg).1)
      have HN9:Hid (Nodes w9 v9 T):=by have:=ho9.nodes;rw [HE.out];exact this
      have HF9:Hid (∀g,v9.ownBlock=some g->w.heap.size<=g):=fun g hg=>Nat.le_trans hWw (World.ownsRow.lt ho9 g hg).1
      go_wp2_with fail
      exact bodyPost_ret (v:=v9) (by simp [results,Tryz.results67,go_sem]) rfl ⟨_,rfl,HN9.out,HF9.out,HB9.out⟩
    ·by_cases h7:nk=7
     ·subst h7
      have e1:k=2:=HC2.out (by omega)
      subst e1
      have hF1p:0<(F 1).length:=(HFd.out 1 (by omega)).pos
      have hF1l:(F 1).length<=1048576:=by have h1:=(HFd.out 1 (by omega)).len;have h2:=HCut.out.kid_lt 1 (by omega);omega
      have HN1w:Hid (Nodes wr us[1] (F 1)):=(HUs.out 1 (by omega)).1
      have y1:=(hb5.cell (p:=⟨g6,1,none⟩) hg6l).trans (HCell.out 1 (by omega))
      obtain ⟨p1,q1,r1,hU1⟩ : ∃p q r,us[1] = .slice p q r:=by obtain ⟨a,c,h,_⟩:=HN1w.out;exact ⟨_,_,_,h⟩
      rw [hU1] at y1
      have HN1:Hid (Nodes w5 (.slice p1 q1 r1) (F 1)):=by have:=HN1w.out.below hb5;rw [hU1] at this;exact this
      simp only [Option.isSome_some,Option.isSome_none]
      have HBd1:Hid (∀x,isN (F 1)=some x->inB x):=fun x hx=>(HFd.out 1 (by omega)).bd hx
      cases hx:isN (F 0) with
      | some x=>
       have hyx:y=x:=HY.out x hx
       subst hyx
       simp only [Option.isSome_some]
       go_wp2_with fail
       refine (is2 _ (F 1) w5 hF1p hF1l HN1.out).mono ?_
       rintro x w6 ⟨y',rfl,hy',hb6⟩
       have HBw6:Hid (Bl w w6):=HBw5.out.trans (hb6.mono HBw5.out.size)
       have HOutw6:Hid (NRow W.heap.size w6 u5 (joinF F 2)):=HOutw5.out.below hb6
       replace g0:=(hb6.cell (p:=⟨G,0,none⟩) (show G<w5.heap.size by omega)).trans g0
       replace g1:=(hb6.cell (p:=⟨G,1,none⟩) (show G<w5.heap.size by omega)).trans g1
       replace g2:=(hb6.cell (p:=⟨G,2,none⟩) (show G<w5.heap.size by omega)).trans g2
       have hs6:=hb6.size
       have HY':=hide hy'
       cases hx1:isN (F 1) with
       | some x1=>
        have hyx1:y'=x1:=HY'.out x1 hx1
        subst hyx1
        have HE:Hid (T=numN (apN nv y y')):=HT.out.symm.trans (by simp [fold1,hx,hx1])
        simp only [Option.isSome_some]
        go_wp2_with fail
        refine (ap_s nv y y' w6).mono ?_
        rintro x w7 ⟨rfl,rfl⟩
        go_wp2_with fail
        refine (num_any (apN nv y y') w7).mono ?_
        rintro x w9 ⟨u9,rfl,hn9,hf9,hb9⟩
        have HN9:Hid (Nodes w9 u9 T):=by rw [HE.out];exact hn9
        go_wp2_with fail
        exact bodyPost_ret (v:=u9) (by simp [results,Tryz.results67,go_sem]) rfl ⟨_,rfl,HN9.out,fun g hg=>Nat.le_trans HBw6.out.size (hf9 g hg),HBw6.out.trans (hb9.mono HBw6.out.size)⟩
       | none=>
        have HE:Hid (T=joinF F 2++[⟨7,nv,nm⟩]):=HT.out.symm.trans (by simp [fold1,hx,hx1,joinF])
        simp only [Option.isSome_none]
        have HNo:Hid (Nodes (w6.alloc (.cells #[.int .i64 7,.int .i64 nv,.string nm] 161)) (.slice (some ⟨w6.heap.size,0,none⟩) 1 1) [⟨7,nv,nm⟩]):=by
         refine ⟨_,1,rfl,Nat.le_refl _,by omega,fun _=>⟨w6.heap.size,0,rfl,fun j hj => ?_⟩⟩
         obtain rfl:j=0:=by simp at hj;exact hj
         simp
        go_wp2_with (at_builtin;refine wpList_appN rfl _ _ rfl W.heap.size _ (joinF F 2) rfl (HOutw6.out.below (bel_a _ _)) _ _ rfl HNo.out (by simp) (by have:=HJ.out;simp;omega) (by simp;omega) ?_)
        intro v9 w9 ho9 hg9 hfr9
        have HB9:Hid (Bl w w9):=(HBw6.out.alloc HBw6.out.size _).grown hg9 (by have:=HBw6.out.size;simp;omega) (fun g hg=>Nat.le_trans hWw (World.ownsRow.lt HOutw6.out g hg).1)
        have HN9:Hid (Nodes w9 v9 T):=by have:=ho9.nodes;rw [HE.out];exact this
        have HF9:Hid (∀g,v9.ownBlock=some g->w.heap.size<=g):=fun g hg=>Nat.le_trans hWw (World.ownsRow.lt ho9 g hg).1
        go_wp2_with fail
        exact bodyPost_ret (v:=v9) (by simp [results,Tryz.results67,go_sem]) rfl ⟨_,rfl,HN9.out,HF9.out,HB9.out⟩
      | none=>
       have HE:Hid (T=joinF F 2++[⟨7,nv,nm⟩]):=HT.out.symm.trans (by simp [fold1,hx,joinF])
       simp only [Option.isSome_none]
       go_wp2_with fail
       refine (is2 _ (F 1) w5 hF1p hF1l HN1.out).mono ?_
       rintro x w6 ⟨y',rfl,hy',hb6⟩
       have HBw6:Hid (Bl w w6):=HBw5.out.trans (hb6.mono HBw5.out.size)
       have HOutw6:Hid (NRow W.heap.size w6 u5 (joinF F 2)):=HOutw5.out.below hb6
       replace g0:=(hb6.cell (p:=⟨G,0,none⟩) (show G<w5.heap.size by omega)).trans g0
       replace g1:=(hb6.cell (p:=⟨G,1,none⟩) (show G<w5.heap.size by omega)).trans g1
       replace g2:=(hb6.cell (p:=⟨G,2,none⟩) (show G<w5.heap.size by omega)).trans g2
       have hs6:=hb6.size
       generalize (isN (F 1)).isSome=b1
       have HNo:Hid (Nodes (w6.alloc (.cells #[.int .i64 7,.int .i64 nv,.string nm] 161)) (.slice (some ⟨w6.heap.size,0,none⟩) 1 1) [⟨7,nv,nm⟩]):=by
        refine ⟨_,1,rfl,Nat.le_refl _,by omega,fun _=>⟨w6.heap.size,0,rfl,fun j hj => ?_⟩⟩
        obtain rfl:j=0:=by simp at hj;exact hj
        simp
       go_wp2_with (at_builtin;refine wpList_appN rfl _ _ rfl W.heap.size _ (joinF F 2) rfl (HOutw6.out.below (bel_a _ _)) _ _ rfl HNo.out (by simp) (by have:=HJ.out;simp;omega) (by simp;omega) ?_)
       intro v9 w9 ho9 hg9 hfr9
       have HB9:Hid (Bl w w9):=(HBw6.out.alloc HBw6.out.size _).grown hg9 (by have:=HBw6.out.size;simp;omega) (fun g hg=>Nat.le_trans hWw (World.ownsRow.lt HOutw6.out g hg).1)
       have HN9:Hid (Nodes w9 v9 T):=by have:=ho9.nodes;rw [HE.out];exact this
       have HF9:Hid (∀g,v9.ownBlock=some g->w.heap.size<=g):=fun g hg=>Nat.le_trans hWw (World.ownsRow.lt ho9 g hg).1
       go_wp2_with fail
       exact bodyPost_ret (v:=v9) (by simp [results,Tryz.results67,go_sem]) rfl ⟨_,rfl,HN9.out,HF9.out,HB9.out⟩
     ·by_cases h8:nk=8
      ·subst h8
       have e1:k=2:=HC2.out (by omega)
       subst e1
       have hF1p:0<(F 1).length:=(HFd.out 1 (by omega)).pos
       have hF1l:(F 1).length<=1048576:=by have h1:=(HFd.out 1 (by omega)).len;have h2:=HCut.out.kid_lt 1 (by omega);omega
       have HN1w:Hid (Nodes wr us[1] (F 1)):=(HUs.out 1 (by omega)).1
       have y1:=(hb5.cell (p:=⟨g6,1,none⟩) hg6l).trans (HCell.out 1 (by omega))
       obtain ⟨p1,q1,r1,hU1⟩ : ∃p q r,us[1] = .slice p q r:=by obtain ⟨a,c,h,_⟩:=HN1w.out;exact ⟨_,_,_,h⟩
       rw [hU1] at y1
       have HN1:Hid (Nodes w5 (.slice p1 q1 r1) (F 1)):=by have:=HN1w.out.below hb5;rw [hU1] at this;exact this
       cases hx:isN (F 0) with
       | some x=>
        have hyx:y=x:=HY.out x hx
        subst hyx
        simp only [Option.isSome_some]
        by_cases hy0:y=0
        ·subst hy0
         have HE:Hid (T=numN 0):=HT.out.symm.trans (by simp [fold1,hx])
         go_wp2_with fail
         refine (num_any 0 w5).mono ?_
         rintro x w9 ⟨u9,rfl,hn9,hf9,hb9⟩
         have HN9:Hid (Nodes w9 u9 T):=by rw [HE.out];exact hn9
         go_wp2_with fail
         exact bodyPost_ret (v:=u9) (by simp [results,Tryz.results67,go_sem]) rfl ⟨_,rfl,HN9.out,fun g hg=>Nat.le_trans HBw5.out.size (hf9 g hg),HBw5.out.trans (hb9.mono HBw5.out.size)⟩
        ·have HE:Hid (T=truthL (F 1)):=HT.out.symm.trans (by simp [fold1,hx,hy0])
         have hyb:(y == 0)=false:=by simp [hy0]
         go_wp2_with fail
         refine (truth_any _ (F 1) w5 hF1p hF1l HN1.out).mono ?_
         rintro x w9 ⟨u9,rfl,hn9,hf9,hb9⟩
         have HN9:Hid (Nodes w9 u9 T):=by rw [HE.out];exact hn9
         go_wp2_with fail
         exact bodyPost_ret (v:=u9) (by simp [results,Tryz.results67,go_sem]) rfl ⟨_,rfl,HN9.out,fun g hg=>Nat.le_trans HBw5.out.size (hf9 g hg),HBw5.out.trans (hb9.mono HBw5.out.size)⟩
       | none=>
        have HE:Hid (T=joinF F 2++[⟨8,nv,nm⟩]):=HT.out.symm.trans (by simp [fold1,hx,joinF])
        simp only [Option.isSome_none]
        have HNo:Hid (Nodes (w5.alloc (.cells #[.int .i64 8,.int .i64 nv,.string nm] 161)) (.slice (some ⟨w5.heap.size,0,none⟩) 1 1) [⟨8,nv,nm⟩]):=by
         refine ⟨_,1,rfl,Nat.le_refl _,by omega,fun _=>⟨w5.heap.size,0,rfl,fun j hj => ?_⟩⟩
         obtain rfl:j=0:=by simp at hj;exact hj
         simp
        go_wp2_with (at_builtin;refine wpList_appN rfl _ _ rfl W.heap.size _ (joinF F 2) rfl (HOutw5.out.below (bel_a _ _)) _ _ rfl HNo.out (by simp) (by have:=HJ.out;simp;omega) (by simp;omega) ?_)
        intro v9 w9 ho9 hg9 hfr9
        have HB9:Hid (Bl w w9):=(HBw5.out.alloc HBw5.out.size _).grown hg9 (by have:=HBw5.out.size;simp;omega) (fun g hg=>Nat.le_trans hWw (World.ownsRow.lt HOutw5.out g hg).1)
        have HN9:Hid (Nodes w9 v9 T):=by have:=ho9.nodes;rw [HE.out];exact this
        have HF9:Hid (∀g,v9.ownBlock=some g->w.heap.size<=g):=fun g hg=>Nat.le_trans hWw (World.ownsRow.lt ho9 g hg).1
        go_wp2_with fail
        exact bodyPost_ret (v:=v9) (by simp [results,Tryz.results67,go_sem]) rfl ⟨_,rfl,HN9.out,HF9.out,HB9.out⟩
      ·by_cases h9:nk=9
       ·subst h9
        have e1:k=2:=HC2.out (by omega)
        subst e1
        have hF1p:0<(F 1).length:=(HFd.out 1 (by omega)).pos
        have hF1l:(F 1).length<=1048576:=by have h1:=(HFd.out 1 (by omega)).len;have h2:=HCut.out.kid_lt 1 (by omega);omega
        have HN1w:Hid (Nodes wr us[1] (F 1)):=(HUs.out 1 (by omega)).1
        have y1:=(hb5.cell (p:=⟨g6,1,none⟩) hg6l).trans (HCell.out 1 (by omega))
        obtain ⟨p1,q1,r1,hU1⟩ : ∃p q r,us[1] = .slice p q r:=by obtain ⟨a,c,h,_⟩:=HN1w.out;exact ⟨_,_,_,h⟩
        rw [hU1] at y1
        have HN1:Hid (Nodes w5 (.slice p1 q1 r1) (F 1)):=by have:=HN1w.out.below hb5;rw [hU1] at this;exact this
        cases hx:isN (F 0) with
        | some x=>
         have hyx:y=x:=HY.out x hx
         subst hyx
         simp only [Option.isSome_some]
         by_cases hy0:y=0
         ·subst hy0
          have HE:Hid (T=truthL (F 1)):=HT.out.symm.trans (by simp [fold1,hx])
          go_wp2_with fail
          refine (truth_any _ (F 1) w5 hF1p hF1l HN1.out).mono ?_
          rintro x w9 ⟨u9,rfl,hn9,hf9,hb9⟩
          have HN9:Hid (Nodes w9 u9 T):=by rw [HE.out];exact hn9
          go_wp2_with fail
          exact bodyPost_ret (v:=u9) (by simp [results,Tryz.results67,go_sem]) rfl ⟨_,rfl,HN9.out,fun g hg=>Nat.le_trans HBw5.out.size (hf9 g hg),HBw5.out.trans (hb9.mono HBw5.out.size)⟩
         ·have HE:Hid (T=numN 1):=HT.out.symm.trans (by simp [fold1,hx,hy0])
          have hyb:(y != 0)=true:=by simp [hy0]
          go_wp2_with fail
          refine (num_any 1 w5).mono ?_
          rintro x w9 ⟨u9,rfl,hn9,hf9,hb9⟩
          have HN9:Hid (Nodes w9 u9 T):=by rw [HE.out];exact hn9
          go_wp2_with fail
          exact bodyPost_ret (v:=u9) (by simp [results,Tryz.results67,go_sem]) rfl ⟨_,rfl,HN9.out,fun g hg=>Nat.le_trans HBw5.out.size (hf9 g hg),HBw5.out.trans (hb9.mono HBw5.out.size)⟩
        | none=>
         have HE:Hid (T=joinF F 2++[⟨9,nv,nm⟩]):=HT.out.symm.trans (by simp [fold1,hx,joinF])
         simp only [Option.isSome_none]
         have HNo:Hid (Nodes (w5.alloc (.cells #[.int .i64 9,.int .i64 nv,.string nm] 161)) (.slice (some ⟨w5.heap.size,0,none⟩) 1 1) [⟨9,nv,nm⟩]):=by
          refine ⟨_,1,rfl,Nat.le_refl _,by omega,fun _=>⟨w5.heap.size,0,rfl,fun j hj => ?_⟩⟩
          obtain rfl:j=0:=by simp at hj;exact hj
          simp
         go_wp2_with (at_builtin;refine wpList_appN rfl _ _ rfl W.heap.size _ (joinF F 2) rfl (HOutw5.out.below (bel_a _ _)) _ _ rfl HNo.out (by simp) (by have:=HJ.out;simp;omega) (by simp;omega) ?_)
         intro v9 w9 ho9 hg9 hfr9
         have HB9:Hid (Bl w w9):=(HBw5.out.alloc HBw5.out.size _).grown hg9 (by have:=HBw5.out.size;simp;omega) (fun g hg=>Nat.le_trans hWw (World.ownsRow.lt HOutw5.out g hg).1)
         have HN9:Hid (Nodes w9 v9 T):=by have:=ho9.nodes;rw [HE.out];exact this
         have HF9:Hid (∀g,v9.ownBlock=some g->w.heap.size<=g):=fun g hg=>Nat.le_trans hWw (World.ownsRow.lt ho9 g hg).1
         go_wp2_with fail
         exact bodyPost_ret (v:=v9) (by simp [results,Tryz.results67,go_sem]) rfl ⟨_,rfl,HN9.out,HF9.out,HB9.out⟩
       ·have HE:Hid (T=joinF F k++[⟨nk,nv,nm⟩]):=HT.out.symm.trans (by unfold fold1;simp only;rw [if_neg h6,if_neg h7,if_neg h8,if_neg h9])
        have b6:(nk == 6)=false:=by simp [h6]
        have b7:(nk == 7)=false:=by simp [h7]
        have b8:(nk == 8)=false:=by simp [h8]
        have b9:(nk == 9)=false:=by simp [h9]
        generalize (isN (F 0)).isSome=b0
        have HNo:Hid (Nodes (w5.alloc (.cells #[.int .i64 nk,.int .i64 nv,.string nm] 161)) (.slice (some ⟨w5.heap.size,0,none⟩) 1 1) [⟨nk,nv,nm⟩]):=by
         refine ⟨_,1,rfl,Nat.le_refl _,by omega,fun _=>⟨w5.heap.size,0,rfl,fun j hj => ?_⟩⟩
         obtain rfl:j=0:=by simp at hj;exact hj
         simp
        go_wp2_with (at_builtin;refine wpList_appN rfl _ _ rfl W.heap.size _ (joinF F k) rfl (HOutw5.out.below (bel_a _ _)) _ _ rfl HNo.out (by simp) (by have:=HJ.out;simp;omega) (by simp;omega) ?_)
        intro v9 w9 ho9 hg9 hfr9
        have HB9:Hid (Bl w w9):=(HBw5.out.alloc HBw5.out.size _).grown hg9 (by have:=HBw5.out.size;simp;omega) (fun g hg=>Nat.le_trans hWw (World.ownsRow.lt HOutw5.out g hg).1)
        have HN9:Hid (Nodes w9 v9 T):=by have:=ho9.nodes;rw [HE.out];exact this
        have HF9:Hid (∀g,v9.ownBlock=some g->w.heap.size<=g):=fun g hg=>Nat.le_trans hWw (World.ownsRow.lt ho9 g hg).1
        go_wp2_with fail
        exact bodyPost_ret (v:=v9) (by simp [results,Tryz.results67,go_sem]) rfl ⟨_,rfl,HN9.out,HF9.out,HB9.out⟩
theorem foldS_any (w0:World) {e r:List Nd} (hp:Fd apN e r) (hl1:e.length<=1048576):FoldSpec w0 e r:=by
 induction hp using Fd_i with
 | mk e A b F hc hk ih=>exact fold_step w0 e A b F hc hl1 hk fun i hi=>ih i hi (by have:=hc.kid_lt i hi;omega)
end Go.Proofs.YtmddmgpijpjpbaaGreatDoor
