import Derived.Test.YtpdndlghjldhjaaGreatM14
import Derived.Maps.OwnSet
import Derived.Maps.OwnOps
set_option linter.unusedSectionVars false
variable [Inhabited Go.Proofs.YtpdndlghjldhjaaGreat.Pick]
namespace Go.Proofs.YtpdndlghjldhjaaGreat
set_option linter.unusedVariables false
set_option linter.unusedSimpArgs false
set_option maxRecDepth 100000
set_option maxHeartbeats 16000000
section
open Go.RowKit
theorem Pc.below {w w':World} {b o:Nat} {it:It} {a:Int} {v:Value} {l:Bool} (h:Pc w b o it a v l) (hb:Below w.heap.size w w'):Pc w' b o it a v l:=by
 have hlt:b<w.heap.size:=World.block_lt_of_cell? _ _ h.c0
 exact ⟨(hb.cell (p:=⟨b,o,none⟩) hlt).trans h.c0,(hb.cell (p:=⟨b,o+1,none⟩) hlt).trans h.c1,(hb.cell (p:=⟨b,o+2,none⟩) hlt).trans h.c2,(hb.cell (p:=⟨b,o+3,none⟩) hlt).trans h.c3,(hb.cell (p:=⟨b,o+4,none⟩) hlt).trans h.c4,(hb.cell (p:=⟨b,o+5,none⟩) hlt).trans h.c5,(hb.cell (p:=⟨b,o+6,none⟩) hlt).trans h.c6,(hb.cell (p:=⟨b,o+7,none⟩) hlt).trans h.c7,(hb.cell (p:=⟨b,o+8,none⟩) hlt).trans h.c8,(hb.cell (p:=⟨b,o+9,none⟩) hlt).trans h.c9⟩
theorem boxFA {w w':World} {o:Obj} {cs:Array Value} {t:TypeId} (h:Below (w.heap.size+1) (w.alloc (.cells cs t)) w') (k:Nat):w'.frozen? ⟨w.heap.size,k,none⟩=false:=by
 rw [h.frozen (p:=⟨w.heap.size,k,none⟩) (by simp)]
 simp
theorem bcode_any (b o b2 o2:Nat) (it it2:It) (a a2:Int) (v2:Value) (l l2:Bool) (w:World) (h:Pc w b o it a (.pointer (some ⟨b2,o2,none⟩)) l) (h2:Pc w b2 o2 it2 a2 v2 l2) (ha:0<=a/\a<=1000000000) (ha2:0<=a2/\a2<=1000000000) (hk:it.kind=3) (ho:4<=it.ins.op/\it.ins.op<=9) :
  Calls Tryz.prog 39 #[.pointer (some ⟨b,o,none⟩)] w fun e w'=>∃v,e = .returned v/\USrc w' v (wds it (a2-a) l)/\Below w.heap.size w w':=by
 have H:=hide h
 have H2:=hide h2
 have hlb:b<w.heap.size:=World.block_lt_of_cell? _ _ h.c0
 obtain ⟨_,c1,c2,c3,c4,c5,_,_,_,c9⟩:=h
 clear h2
 have HW:Hid (wds it (a2-a) l=if l then [eR {it.ins with op:=opp it.ins.op,im:=8},eR ⟨2,0,0,0,a2-a-4⟩] else [eR {it.ins with im:=a2-a}]):=by
  show _=_
  unfold wds
  rw [if_neg (by omega),if_pos hk]
 obtain ⟨kd,⟨op,rd,s1,s2,im⟩,lab⟩:=it
 simp only at c1 c2 c3 c4 c5 ho HW
 have hA:Bl w (w.alloc (.cells #[.int .i64 op,.int .i64 rd,.int .i64 s1,.int .i64 s2,.int .i64 im] 29)):=bel_a _ _
 have c9A:=((H.out.below hA).c9)
 cases l
 ·have HW0:=hide (HW.out)
  clear HW
  go_enter Tryz.func39,Tryz.ntmps39
  go_wp2_with fail
  refine (dist_any b o b2 o2 _ _ a a2 _ _ _ _ (H.out.below hA) (H2.out.below hA) ha ha2).mono ?_
  rintro e w1 ⟨rfl,hb1⟩
  simp only [World.size_alloc] at hb1
  have hB1:=one_belowA hb1
  obtain ⟨y0,y1,y2,y3,y4⟩:=box5N hb1
  have f4:=boxFA (o:=.cells #[] 0) hb1 4
  have hl1:w.heap.size<w1.heap.size:=by have:=hb1.size;simp at this;omega
  have HEn:=hide fun (w:World)=>encI_any ⟨op,rd,s1,s2,a2-a⟩ w
  generalize eR ⟨op,rd,s1,s2,a2-a⟩=R at HEn HW0
  generalize a2-a=d at HEn ⊢
  clear c1 c2 c3 c4 c5 c9 c9A
  go_wp2_with fail
  refine (HEn.out _).mono ?_
  rintro e w2 ⟨rfl,hb2⟩
  have hB2:Bl w w2:=(hB1.setCell (p:=⟨w.heap.size,4,none⟩) (Nat.le_refl _) _).trans (hb2.mono (by simp;omega))
  clear y0 y1 y2 y3 y4 f4
  go_wp2_with fail
  go_ret
  exact ⟨_,rfl,by rw [HW0.out];exact usrc_1 w2 R _,hB2.alloc hB2.size _⟩
 ·have HW0:=hide (HW.out)
  clear HW
  go_enter Tryz.func39,Tryz.ntmps39
  go_wp2_with fail
  refine (opp_any op ho _).mono ?_
  rintro e w1 ⟨rfl,rfl⟩
  have HEn:=hide fun (w:World)=>encI_any ⟨opp op,rd,s1,s2,8⟩ w
  have HJ:=hide fun (w:World)=>jump_any 0 (a2-a-4) w
  generalize eR ⟨opp op,rd,s1,s2,8⟩=R at HEn HW0
  generalize eR ⟨2,0,0,0,a2-a-4⟩=R2 at HJ HW0
  generalize opp op=op2 at HEn ⊢
  clear c1 c2 c3 c4 c5 c9
  go_wp2_with fail
  refine (HEn.out _).mono ?_
  rintro e w2 ⟨rfl,hb2⟩
  have hB2:Bl w w2:=((Below.refl w.heap.size w).alloc (Nat.le_refl _) _).trans (hb2.mono (by simp))
  clear hb2 c9A
  go_wp2_with fail
  refine (dist_any b o b2 o2 _ _ a a2 _ _ _ _ (H.out.below hB2) (H2.out.below hB2) ha ha2).mono ?_
  rintro e w3 ⟨rfl,hb3⟩
  have hB3:=hB2.trans (hb3.mono hB2.size)
  obtain ⟨d,hd⟩ : ∃d,d=a2-a:=⟨_,rfl⟩
  rw [<-hd] at HJ ⊢
  have hd1 : -1000000000<=d/\d<=1000000000:=by omega
  clear hd hb3
  go_wp2_with fail
  refine (HJ.out _).mono ?_
  rintro e w4 ⟨rfl,hb4⟩
  have hB4:=hB3.trans (hb4.mono hB3.size)
  clear hb4
  go_wp2_with fail
  go_ret
  exact ⟨_,rfl,by rw [HW0.out];exact usrc_2 w4 R R2 _,hB4.alloc hB4.size _⟩
def Goal (w:World) (it:It) (v:Value) (a2:Int):Prop:=it.kind=3∨it.kind=4∨it.kind=5->∃b2 o2 it2 v2 l2,v = .pointer (some ⟨b2,o2,none⟩)/\Pc w b2 o2 it2 a2 v2 l2
theorem code_any (b o:Nat) (it:It) (a a2:Int) (v:Value) (l:Bool) (w:World) (h:Pc w b o it a v l) (h2:Goal w it v a2) (ha:0<=a/\a<=1000000000) (ha2:0<=a2/\a2<=1000000000) (ho:it.kind=3->4<=it.ins.op/\it.ins.op<=9) :
  Calls Tryz.prog 15 #[.pointer (some ⟨b,o,none⟩)] w fun e w'=>∃v,e = .returned v/\USrc w' v (wds it (a2-a) l)/\Below w.heap.size w w':=by
 have H:=hide h
 have H2:=hide h2
 have HO:=hide ho
 obtain ⟨c0,c1,c2,c3,c4,c5,_,_,_,_⟩:=h
 clear h2 ho
 by_cases h1:it.kind=1
 ·have HW:Hid (wds it (a2-a) l = [eR it.ins]):=if_pos h1
  have HEn:=hide fun (w:World)=>encI_any it.ins w
  rw [h1] at c0
  generalize eR it.ins=R at HEn HW
  go_enter Tryz.func15,Tryz.ntmps15
  go_wp2_with fail
  refine (HEn.out _).mono ?_
  rintro e w1 ⟨rfl,hb1⟩
  go_wp2_with fail
  go_ret
  exact ⟨_,rfl,by rw [HW.out];exact usrc_1 w1 R _,hb1.alloc hb1.size _⟩
 by_cases h3:it.kind=3
 ·obtain ⟨b2,o2,it2,v2,l2,rfl,hp2⟩:=H2.out (.inl h3)
  have HP2:=hide hp2
  have HK:=hide h3
  rw [h3] at c0
  clear c1 c2 c3 c4 c5 h1 h3 hp2
  go_enter Tryz.func15,Tryz.ntmps15
  go_wp2_with fail
  refine (bcode_any b o b2 o2 it it2 a a2 v2 l l2 w H.out HP2.out ha ha2 HK.out (HO.out HK.out)).mono ?_
  rintro e w1 ⟨v1,rfl,hs1,hb1⟩
  have HS1:=hide hs1
  obtain ⟨a1,c1,rfl,-⟩:=hs1
  go_wp2_with fail
  go_ret
  exact ⟨_,rfl,HS1.out,hb1⟩
 by_cases h4:it.kind=4
 ·obtain ⟨b2,o2,it2,v2,l2,rfl,hp2⟩:=H2.out (.inr (.inl h4))
  have HP2:=hide hp2
  have HW:Hid (wds it (a2-a) l = [eR ⟨2,0,0,0,a2-a⟩]):=by
   show _=_
   unfold wds
   rw [if_neg h1,if_neg h3,if_pos h4]
  have HJ:=hide fun (w:World)=>jump_any 0 (a2-a) w
  rw [h4] at c0
  generalize eR ⟨2,0,0,0,a2-a⟩=R at HJ HW
  clear c1 c2 c3 c4 c5 h1 h3 h4 hp2
  go_enter Tryz.func15,Tryz.ntmps15
  go_wp2_with fail
  refine (dist_any b o b2 o2 it it2 a a2 v2 l l2 w H.out HP2.out ha ha2).mono ?_
  rintro e w1 ⟨rfl,hb1⟩
  generalize a2-a=d at HJ ⊢
  go_wp2_with fail
  refine (HJ.out _).mono ?_
  rintro e w2 ⟨rfl,hb2⟩
  have hB2:=hb1.trans (hb2.mono hb1.size)
  go_wp2_with fail
  go_ret
  exact ⟨_,rfl,by rw [HW.out];exact usrc_1 w2 R _,hB2.alloc hB2.size _⟩
 by_cases h5:it.kind=5
 ·obtain ⟨b2,o2,it2,v2,l2,rfl,hp2⟩:=H2.out (.inr (.inr h5))
  have HP2:=hide hp2
  have HW:Hid (wds it (a2-a) l = [eR ⟨2,1,0,0,a2-a⟩]):=by
   show _=_
   unfold wds
   rw [if_neg h1,if_neg h3,if_neg h4,if_pos h5]
  have HJ:=hide fun (w:World)=>jump_any 1 (a2-a) w
  rw [h5] at c0
  generalize eR ⟨2,1,0,0,a2-a⟩=R at HJ HW
  clear c1 c2 c3 c4 c5 h1 h3 h4 h5 hp2
  go_enter Tryz.func15,Tryz.ntmps15
  go_wp2_with fail
  refine (dist_any b o b2 o2 it it2 a a2 v2 l l2 w H.out HP2.out ha ha2).mono ?_
  rintro e w1 ⟨rfl,hb1⟩
  generalize a2-a=d at HJ ⊢
  go_wp2_with fail
  refine (HJ.out _).mono ?_
  rintro e w2 ⟨rfl,hb2⟩
  have hB2:=hb1.trans (hb2.mono hb1.size)
  go_wp2_with fail
  go_ret
  exact ⟨_,rfl,by rw [HW.out];exact usrc_1 w2 R _,hB2.alloc hB2.size _⟩
 ·have HW:Hid (wds it (a2-a) l = []):=by
   show _=_
   unfold wds
   rw [if_neg h1,if_neg h3,if_neg h4,if_neg h5]
  generalize it.kind=kd at c0 h1 h3 h4 h5
  go_enter Tryz.func15,Tryz.ntmps15
  go_wp2_with fail
  go_ret
  exact ⟨_,rfl,by rw [HW.out];exact usrc_nil w,Below.refl _ _⟩
end
section
open Go.RowKit
structure LabIs (D:DataW Unit) (its:List It):Prop where
 map:Maps.IsMap D
 has : ∀lab,Maps.has D (.int .i64 lab) = !(posL its lab).isEmpty
 val : ∀lab k,posL its lab = [k]->D.atKey (.int .i64 lab) (.lit (.int .i64 0)) = .lit (.int .i64 (k:Int))
 one : ∀lab,(posL its lab).length<=1
theorem LabIs.nil:LabIs (.map []) []:=⟨Maps.isMap_empty,fun lab=>rfl,fun lab k h=>by simp [posL] at h,fun lab=>by simp [posL]⟩
theorem LabIs.skip {D:DataW Unit} {its:List It} (h:LabIs D its) {x:It} (hx:x.kind≠2):LabIs D (its++[x]):=by
 have key : ∀lab,posL (its++[x]) lab=posL its lab:=fun lab=>by
  rw [posL_snoc]
  simp [isL,hx]
 exact ⟨h.map,fun lab=>by rw [key];exact h.has lab,fun lab k hk=>by rw [key] at hk;exact h.val lab k hk,fun lab=>by rw [key];exact h.one lab⟩
theorem LabIs.put {D:DataW Unit} {its:List It} (h:LabIs D its) {x:It} (hx:x.kind=2) (hn:posL its x.label = []):LabIs (D.put (.int .i64 x.label) (.lit (.int .i64 (its.length:Int)))) (its++[x]):=by
 have same:posL (its++[x]) x.label = [its.length]:=by rw [posL_snoc,hn];simp [isL,hx]
 have other : ∀lab,lab≠x.label->posL (its++[x]) lab=posL its lab:=fun lab hl=>by
  rw [posL_snoc]
  have:isL x lab=false:=decide_eq_false (fun h=>hl h.2.symm)
  rw [this];simp
 have hne : ∀lab,lab≠x.label->(Lit.int .i64 lab) ≠ .int .i64 x.label:=fun lab hl e=>hl (by injection e)
 refine ⟨h.map.put _ _,fun lab => ?_,fun lab k hk => ?_,fun lab => ?_⟩
 ·by_cases e:lab=x.label
  ·subst e
   rw [Maps.has_put_same (k:=.int .i64 x.label) h.map trivial,same]
   rfl
  ·rw [Maps.has_put_other (hne lab e),other lab e]
   exact h.has lab
 ·by_cases e:lab=x.label
  ·subst e
   rw [same] at hk
   rw [Maps.atKey_put_same (k:=.int .i64 x.label) h.map trivial]
   simp at hk
   rw [hk]
  ·rw [Maps.atKey_put_other (hne lab e)]
   rw [other lab e] at hk
   exact h.val lab k hk
 ·by_cases e:lab=x.label
  ·subst e
   rw [same];simp
  ·rw [other lab e]
   exact h.one lab
theorem lab_look {W:World} {b nn:Nat} {D:DataW Unit} {its:List It} (hown:W.ownsMap Tryz.prog 2 (plainElem (H:=Unit) Tryz.prog 3) b nn D) (hN:LabIs D its) {lab:Int} (hw:(Lit.int .i64 lab).wf=true) {k:Nat} (h:posL its lab = [k]) :
  (Instr.lookup 96 (.map (some b)) (.int .i64 lab) true).run Tryz.prog W = .ok (.tuple #[.int .i64 (k:Int),.bool true]) W:=by
 obtain ⟨v,ps,hrun,hv⟩:=hown.look_ok (Maps.int_keyed Tryz.underlying2) Tryz.underlying96 (Tryz.zeroValue3 _) (plainElem_int Tryz.underlying3 (by decide)) (Maps.keyOf_int_mk Tryz.underlying2 hw)
 rw [hN.val lab k h] at hv
 obtain ⟨c,rfl,hc,_⟩:=plainElem_int_inv Tryz.underlying3 hv
 simp only [Prod.mk.injEq,DataW.lit.injEq,Lit.int.injEq,true_and] at hc
 obtain ⟨hc,-⟩:=hc
 subst hc
 have hh:=hN.has lab
 rw [h] at hh
 rw [hh] at hrun
 exact hrun
theorem lab_none {W:World} {b nn:Nat} {D:DataW Unit} {its:List It} (hown:W.ownsMap Tryz.prog 2 (plainElem (H:=Unit) Tryz.prog 3) b nn D) (hN:LabIs D its) {lab:Int} (hw:(Lit.int .i64 lab).wf=true) (h:posL its lab = []) :
  (Instr.lookup 96 (.map (some b)) (.int .i64 lab) true).run Tryz.prog W = .ok (.tuple #[.int .i64 0,.bool false]) W:=by
 obtain ⟨v,ps,hrun,hv⟩:=hown.look_ok (Maps.int_keyed Tryz.underlying2) Tryz.underlying96 (Tryz.zeroValue3 _) (plainElem_int Tryz.underlying3 (by decide)) (Maps.keyOf_int_mk Tryz.underlying2 hw)
 have hh:=hN.has lab
 rw [h] at hh
 rw [Maps.atKey_of_not_has hh] at hv
 obtain ⟨c,rfl,hc,_⟩:=plainElem_int_inv Tryz.underlying3 hv
 simp only [Prod.mk.injEq,DataW.lit.injEq,Lit.int.injEq,true_and] at hc
 obtain ⟨hc,-⟩:=hc
 subst hc
 rw [hh] at hrun
 exact hrun
theorem LabIs.cases {D:DataW Unit} {its:List It} (h:LabIs D its) (lab:Int):posL its lab = []∨∃k,posL its lab = [k]:=by
 have:=h.one lab
 match e:posL its lab with
 | []=>exact .inl rfl
 | [k]=>exact .inr ⟨k,rfl⟩
 | a::b::r=>rw [e] at this;simp at this
def wfI (x:It):Prop:=(Lit.int .i64 x.label).wf=true
def ItemsC (w:World) (b off:Nat) (its:List It):Prop:=∀j (h:j<its.length),
 w.cell? ⟨b,off+j*7,none⟩=some (.int .i64 its[j].kind)/\w.cell? ⟨b,off+j*7+1,none⟩=some (.int .i64 its[j].ins.op)/\w.cell? ⟨b,off+j*7+2,none⟩=some (.int .i64 its[j].ins.rd)/\w.cell? ⟨b,off+j*7+3,none⟩=some (.int .i64 its[j].ins.s1)/\w.cell? ⟨b,off+j*7+4,none⟩=some (.int .i64 its[j].ins.s2)/\w.cell? ⟨b,off+j*7+5,none⟩=some (.int .i64 its[j].ins.im)/\w.cell? ⟨b,off+j*7+6,none⟩=some (.int .i64 its[j].label)
theorem ItemsC.below {w w':World} {b off:Nat} {its:List It} (h:ItemsC w b off its) (hb:Below w.heap.size w w'):ItemsC w' b off its:=by
 intro j hj
 obtain ⟨c0,c1,c2,c3,c4,c5,c6⟩:=h j hj
 have hlt:=World.block_lt_of_cell? _ _ c0
 exact ⟨(hb.cell hlt).trans c0,(hb.cell (p:=⟨b,off+j*7+1,none⟩) hlt).trans c1,(hb.cell (p:=⟨b,off+j*7+2,none⟩) hlt).trans c2,(hb.cell (p:=⟨b,off+j*7+3,none⟩) hlt).trans c3,(hb.cell (p:=⟨b,off+j*7+4,none⟩) hlt).trans c4,(hb.cell (p:=⟨b,off+j*7+5,none⟩) hlt).trans c5,(hb.cell (p:=⟨b,off+j*7+6,none⟩) hlt).trans c6⟩
def Items (w:World) (v:Value) (its:List It):Prop:=∃a cap,v = .slice a its.length cap/\its.length<=cap/\cap<=9223372036854775807/\(0<its.length->∃b off,a=some ⟨b,off,none⟩/\ItemsC w b off its)
theorem Items.below {w w':World} {v:Value} {its:List It} (h:Items w v its) (hb:Below w.heap.size w w'):Items w' v its:=by
 obtain ⟨a,cap,rfl,hl,hm,h⟩:=h
 refine ⟨a,cap,rfl,hl,hm,fun h0 => ?_⟩
 obtain ⟨b,off,rfl,hc⟩:=h h0
 exact ⟨b,off,rfl,hc.below hb⟩
end
section
open Go.RowKit
theorem info_ptr:(Tryz.prog.info? 54).map (fun i=>(i.zero,i.size,i.bytes))=some (some (.pointer none),1,8):=by kernel_rfl
def bsK (its:List It) (k:Nat):List Nat:=(List.range k).filter (fun i=>decide ((its.getD i it0).kind=3))
theorem bsK_yes {its:List It} {k:Nat} (h:(its.getD k it0).kind=3):bsK its (k+1)=bsK its k++[k]:=by
 unfold bsK
 rw [List.range_succ,List.filter_append]
 simp only [List.filter_cons,List.filter_nil,h,decide_true,if_true]
theorem bsK_no {its:List It} {k:Nat} (h:(its.getD k it0).kind≠3):bsK its (k+1)=bsK its k:=by
 unfold bsK
 rw [List.range_succ,List.filter_append]
 simp only [List.filter_cons,List.filter_nil,decide_eq_false h,Bool.false_eq_true,if_false,List.append_nil]
theorem bsK_len (its:List It) (k:Nat):(bsK its k).length<=k:=by
 have:=List.length_filter_le (fun i=>decide ((its.getD i it0).kind=3)) (List.range k)
 simpa [bsK] using this
def ptrs (g:Nat) (bs:List Nat):List Value:=bs.map (fun i=>Value.pointer (some ⟨g,i*10,none⟩))
theorem ptrs_snoc (g:Nat) (bs:List Nat) (i:Nat):ptrs g (bs++[i])=ptrs g bs++[.pointer (some ⟨g,i*10,none⟩)]:=by simp [ptrs]
theorem own_brow {w:World} {B0 g:Nat} {vb:Value} {bs:List Nat} (h:w.ownsRow B0 54 1 vb bs.length (ptrs g bs)) (hne : ∀x,vb.ownBlock=some x->x≠g):BRow w g vb bs:=by
 have h0:=h
 rcases h.2 with ⟨rfl,hz⟩ | ⟨gb,cap,cur,rfl,hbg,hg,hnc,hcm,hcs,htake⟩
 ·exact ⟨none,0,by rw [hz],by omega,fun h=>absurd h (by omega)⟩
 ·refine ⟨_,cap,rfl,hnc,fun _=>⟨gb,rfl,hne gb rfl,(World.ownsRow.lt h0 gb rfl).2,fun j hj => ?_⟩⟩
  have:=World.ownsRow.cells h0 (g:=gb) rfl j (.pointer (some ⟨g,bs[j]*10,none⟩)) (by simp [ptrs,hj])
  rw [addr_add] at this
  exact this
structure LkI (w wr:World) (B B0 g n bm nn:Nat) (pa:Option Addr) (cap:Nat) (its:List It) (A:Nat->Int) (L:Nat->Bool) (D:DataW Unit) (k:Nat) (vb:Value) (G:Nat->Value):Prop where
 box:wr.cell? ⟨B,0,none⟩=some (.slice pa n cap)
 box1:wr.cell? ⟨B,1,none⟩=some vb
 free:wr.frozen? ⟨B,1,none⟩=false
 row:PRow wr g n its A G L
 brs:wr.ownsRow B0 54 1 vb (bsK its k).length (ptrs g (bsK its k))
 ne : ∀x,vb.ownBlock=some x->x≠g/\x≠B/\x≠bm
 map:wr.ownsMap Tryz.prog 2 (plainElem (H:=Unit) Tryz.prog 3) bm nn D
 seen : ∀j,j<k->(its.getD j it0).kind≠1->(posL its (its.getD j it0).label).length=1
 go : ∀j,j<k->(its.getD j it0).kind≠1->(its.getD j it0).kind≠2->G j = .pointer (some ⟨g,tgt its j*10,none⟩)
 bel:Below B0 w wr
 size:w.heap.size<=wr.heap.size
theorem LkI.shape {w wr:World} {B B0 g n bm nn:Nat} {pa:Option Addr} {cap:Nat} {its:List It} {A:Nat->Int} {L:Nat->Bool} {D:DataW Unit} {k:Nat} {vb:Value} {G:Nat->Value} (h:LkI w wr B B0 g n bm nn pa cap its A L D k vb G) : ∃a c,vb = .slice a (bsK its k).length c:=by
 rcases h.brs.2 with ⟨rfl,hz⟩ | ⟨gb,c,cur,rfl,_⟩
 ·exact ⟨none,0,by rw [hz]⟩
 ·exact ⟨_,c,rfl⟩
theorem LkI.skip {w wr:World} {B B0 g n bm nn:Nat} {pa:Option Addr} {cap:Nat} {its:List It} {A:Nat->Int} {L:Nat->Bool} {D:DataW Unit} {k:Nat} {vb:Value} {G:Nat->Value} (h:LkI w wr B B0 g n bm nn pa cap its A L D k vb G) (hk:(its.getD k it0).kind=1∨(its.getD k it0).kind=2) (hl:(its.getD k it0).kind=2->(posL its (its.getD k it0).label).length=1):LkI w wr B B0 g n bm nn pa cap its A L D (k+1) vb G:=by
 refine {h with brs := ?_,seen:=fun j hj h1 => ?_,go:=fun j hj h1 h2 => ?_}
 ·rw [bsK_no (by rcases hk with hk | hk <;> omega)];exact h.brs
 ·by_cases e:j=k
  ·subst e
   exact hl (by rcases hk with hk | hk;exact absurd hk h1;exact hk)
  ·exact h.seen j (by omega) h1
 ·by_cases e:j=k
  ·subst e
   rcases hk with hk | hk
   ·exact absurd hk h1
   ·exact absurd hk h2
  ·exact h.go j (by omega) h1 h2
theorem LkI.goal {w wr:World} {B B0 g n bm nn:Nat} {pa:Option Addr} {cap:Nat} {its:List It} {A:Nat->Int} {L:Nat->Bool} {D:DataW Unit} {k:Nat} {vb:Value} {G:Nat->Value} (h:LkI w wr B B0 g n bm nn pa cap its A L D k vb G) (hk:k<n) (hB:B≠g) (hm:bm≠g) (hb:B0<=g) (hp:(posL its (its.getD k it0).label).length=1) (u:Value) (hu:u = .pointer (some ⟨g,tgt its k*10,none⟩)) :
  LkI w (wr.setCell ⟨g,k*10+8,none⟩ u) B B0 g n bm nn pa cap its A L D k vb (upd G k u)/\(∀j,j<k+1->(its.getD j it0).kind≠1->(posL its (its.getD j it0).label).length=1)/\(∀j,j<k+1->(its.getD j it0).kind≠1->(its.getD j it0).kind≠2->upd G k u j = .pointer (some ⟨g,tgt its j*10,none⟩)):=by
 have hne : ∀o,(⟨g,k*10+8,none⟩:Addr)≠⟨B,o,none⟩:=fun o h=>by simp only [Addr.mk.injEq] at h;exact hB h.1.symm
 have hgr:wr.grownBy (wr.setCell ⟨g,k*10+8,none⟩ u) (some g):=by
  have hb0:=(Below.refl 0 wr).setCell (p:=⟨g,k*10+8,none⟩) (Nat.zero_le _) u
  exact ⟨hb0.os,hb0.tape,hb0.output,hb0.size,fun i _ hi=>Below.heap_setCell _ _ _ i (fun e=>hi (by rw [e]))⟩
 refine ⟨⟨?_,?_,?_,h.row.goal k hk u,?_,h.ne,h.map.kept hgr (by simpa using hm),h.seen,fun j hj h1 h2 => ?_,h.bel.setCell hb u,by simpa using h.size⟩,fun j hj h1 => ?_,fun j hj h1 h2 => ?_⟩
 ·rw [World.cell?_setCell_other _ _ _ _ (hne 0)];exact h.box
 ·rw [World.cell?_setCell_other _ _ _ _ (hne 1)];exact h.box1
 ·rw [World.frozen?_setCell];exact h.free
 ·exact h.brs.kept hgr (by
   cases e:vb.ownBlock with
   | none=>exact .inl rfl
   | some x=>exact .inr (fun h'=>(h.ne x e).1 (by injection h')))
 ·rw [upd_other _ _ _ _ (by omega)];exact h.go j hj h1 h2
 ·by_cases e:j=k
  ·subst e;exact hp
  ·exact h.seen j (by omega) h1
 ·by_cases e:j=k
  ·subst e;rw [upd_same,hu]
  ·rw [upd_other _ _ _ _ e];exact h.go j (by omega) h1 h2
theorem LkI.branch {w wr w1:World} {B B0 g n bm nn:Nat} {pa:Option Addr} {cap:Nat} {its:List It} {A:Nat->Int} {L:Nat->Bool} {D:DataW Unit} {k:Nat} {vb v1:Value} {G:Nat->Value} {o:Obj} (h:LkI w wr B B0 g n bm nn pa cap its A L D k vb G) (hk:(its.getD k it0).kind=3) (hB:B≠g) (hm:bm≠B) (hb:B0<=B) (hBs:B<wr.heap.size) (hgs:g<wr.heap.size)
  (h1 : ∀j,j<k+1->(its.getD j it0).kind≠1->(posL its (its.getD j it0).label).length=1) (h2 : ∀j,j<k+1->(its.getD j it0).kind≠1->(its.getD j it0).kind≠2->G j = .pointer (some ⟨g,tgt its j*10,none⟩))
  (ho:w1.ownsRow B0 54 1 v1 ((bsK its k).length+1) (ptrs g (bsK its k)++[.pointer (some ⟨g,k*10,none⟩)])) (hg:(wr.alloc o).grownBy w1 vb.ownBlock) (hf : ∀x,v1.ownBlock=some x->vb.ownBlock=some x∨(wr.alloc o).heap.size<=x) :
  LkI w (w1.setCell ⟨B,1,none⟩ v1) B B0 g n bm nn pa cap its A L D (k+1) v1 G/\w1.cell? ⟨B,1,none⟩=some vb/\w1.frozen? ⟨B,1,none⟩=false:=by
 have hmlt:=h.map.lt
 have hA : ∀x,x<wr.heap.size->(∀y,vb.ownBlock=some y->y≠x)->w1.heap[x]? = wr.heap[x]? := fun x hx hy=>by
  rw [hg.block x (by simp;omega) (fun e=>hy x e.symm rfl)]
  exact Below.heap_alloc _ _ x hx
 have eB:=hA B hBs (fun y hy=>(h.ne y hy).2.1)
 have eg:=hA g hgs (fun y hy=>(h.ne y hy).1)
 have em:=hA bm hmlt (fun y hy=>(h.ne y hy).2.2)
 have hne1 : ∀x,v1.ownBlock=some x->x≠g/\x≠B/\x≠bm:=fun x hx=>by
  rcases hf x hx with h' | h'
  ·exact h.ne x h'
  ·simp at h';refine ⟨by omega,by omega,by omega⟩
 have cB : ∀j,w1.cell? ⟨B,j,none⟩=wr.cell? ⟨B,j,none⟩:=fun j=>World.cell?_of_block (a:=⟨B,j,none⟩) eB
 have fB : ∀j,w1.frozen? ⟨B,j,none⟩=wr.frozen? ⟨B,j,none⟩:=fun j=>World.frozen?_of_block (a:=⟨B,j,none⟩) eB
 have hgr:w1.grownBy (w1.setCell ⟨B,1,none⟩ v1) (some B):=by
  have hb0:=(Below.refl 0 w1).setCell (p:=⟨B,1,none⟩) (Nat.zero_le _) v1
  exact ⟨hb0.os,hb0.tape,hb0.output,hb0.size,fun i _ hi=>Below.heap_setCell _ _ _ i (fun e=>hi (by rw [e]))⟩
 refine ⟨⟨?_,?_,?_,?_,?_,hne1,?_,h1,h2,?_,?_⟩,(cB 1).trans h.box1,(fB 1).trans h.free⟩
 ·rw [World.cell?_setCell_other _ _ _ _ (by intro h;simp at h),cB];exact h.box
 ·exact World.cell?_setCell_same _ _ _ ((cB 1).trans h.box1)
 ·rw [World.frozen?_setCell,fB];exact h.free
 ·intro i hi j hj
  obtain ⟨p1,p2⟩:=h.row i hi j hj
  rw [World.cell?_setCell_other _ _ _ _ (by intro h;simp only [Addr.mk.injEq] at h;exact hB h.1),World.frozen?_setCell,World.cell?_of_block (a:=⟨g,i*10+j,none⟩) eg,World.frozen?_of_block (a:=⟨g,i*10+j,none⟩) eg]
  exact ⟨p1,p2⟩
 ·rw [bsK_yes hk,ptrs_snoc,l_a,List.length_singleton]
  exact ho.kept hgr (by
   cases e:v1.ownBlock with
   | none=>exact .inl rfl
   | some x=>exact .inr (fun h'=>(hne1 x e).2.1 (by injection h')))
 ·have:w1.ownsMap Tryz.prog 2 (plainElem (H:=Unit) Tryz.prog 3) bm nn D:=by
   obtain ⟨es,clock,h0,F,hs,hD⟩:=h.map
   exact ⟨es,clock,em.trans h0,F,hs,hD⟩
  exact this.kept hgr (by simpa using hm)
 ·have hs:=h.size
  have:Below B0 w w1:=(h.bel.alloc (Nat.le_trans hb (Nat.le_of_lt hBs)) o).grown hg (by simp;omega) (fun x hx=>by
   have:=(World.ownsRow.lt h.brs x hx).1
   exact this)
  exact this.setCell hb v1
 ·have:=hg.size
  have:=h.size
  simp at *
  omega
end
section
open Go.RowKit
theorem link_any (B B0 g n bm nn:Nat) (pa:Option Addr) (cap:Nat) (its:List It) (A:Nat->Int) (G:Nat->Value) (L:Nat->Bool) (D:DataW Unit) (w:World) (hB:B≠g) (hb0:B0<=g) (hb1:B0<=B) (hm:bm≠g) (hm2:bm≠B) (hgs:0<n->g<w.heap.size) (hBs:B<w.heap.size) (hn:n<=20000) (hc:n<=cap) (hlen:its.length=n) (hrow:0<n->pa=some ⟨g,0,none⟩)
  (hI:LkI w w B B0 g n bm nn pa cap its A L D 0 (.slice none 0 0) G) (hD:LabIs D its) (hwf : ∀i,i<n->(Lit.int .i64 (its.getD i it0).label).wf=true) :
  Calls Tryz.prog 35 #[.pointer (some ⟨B,0,none⟩),.map (some bm)] w fun e w'=>(Linked its/\∃vb G',e = .returned (.bool true)/\LkI w w' B B0 g n bm nn pa cap its A L D n vb G')∨(¬Linked its/\e = .returned (.bool false)/\Below B0 w w'/\w.heap.size<=w'.heap.size):=by
 have HI0:=hide hI
 have HD:=hide hD
 have HWf:=hide hwf
 have b0:=hI.box
 obtain ⟨i0,hi,hz0,hz1,hz2⟩:=info_parts info_ptr
 clear hI hD hwf
 go_enter Tryz.func35,Tryz.ntmps35
 go_wp2_with fail
 clear b0
 go_loopw [14] (fun i wr=>∃(k:Nat) (vb:Value) (G':Nat->Value),k<=n/\i = .int .i64 k/\LkI w wr B B0 g n bm nn pa cap its A L D k vb G') (fun i _=>n-(RowKit.intOf i).toNat)
 case atStart=>exact ⟨0,_,_,Nat.zero_le _,rfl,HI0.out⟩
 case round=>
  clear HI0
  obtain ⟨k,vb,G',hk,rfl,hI⟩:=hrel
  obtain ⟨ab,cb,rfl⟩:=hI.shape
  have HI:=hide hI
  have b0:=hI.box
  have b1:=hI.box1
  have bf:=hI.free
  have hszr:=hI.size
  have hbl:=bsK_len its k
  clear hI
  by_cases hlt:k<n
  ·have hpa:=hrow (by omega)
   subst hpa
   have HPc:Hid (Pc wr g (k*10) (its.getD k it0) (A k) (G' k) (L k)):=HI.out.row.pc k hlt
   have c0:=HPc.out.c0
   have c6:=HPc.out.c6
   have hwl:=HWf.out k hlt
   obtain ⟨it,hit⟩ : ∃it,it=its.getD k it0:=⟨_,rfl⟩
   have HIt:=hide hit
   rw [<-hit] at c0 c6 hwl
   have hcase:=HD.out.cases it.label
   clear hit
   by_cases h1:it.kind=1
   ·rw [h1] at c0
    have HN:Hid (LkI w wr B B0 g n bm nn (some ⟨g,0,none⟩) cap its A L D (k+1) (.slice ab (bsK its k).length cb) G'):=HI.out.skip (.inl (by rw [<-HIt.out];exact h1)) (fun h=>by rw [<-HIt.out] at h;omega)
    clear h1
    go_wp2_with fail
    go_roundw
    case rel=>exact ⟨k+1,_,_,by omega,by go_num,HN.out⟩
    case measure=>simp [RowKit.intOf];omega
   by_cases h2:it.kind=2
   ·rw [h2] at c0
    have hp1:(posL its it.label).length=1:=by
     have hmem:k∈posL its it.label:=mem_posL (by omega) (by rw [<-HIt.out];exact decide_eq_true ⟨h2,rfl⟩)
     rcases hcase with h | ⟨q,h⟩
     ·rw [h] at hmem;cases hmem
     ·rw [h];rfl
    have HN:Hid (LkI w wr B B0 g n bm nn (some ⟨g,0,none⟩) cap its A L D (k+1) (.slice ab (bsK its k).length cb) G'):=HI.out.skip (.inr (by rw [<-HIt.out];exact h2)) (fun h=>by rw [<-HIt.out];exact hp1)
    clear h1 h2 hp1
    go_wp2_with fail
    go_roundw
    case rel=>exact ⟨k+1,_,_,by omega,by go_num,HN.out⟩
    case measure=>simp [RowKit.intOf];omega
   rcases hcase with hno | ⟨q,hq⟩
   ·have hlook:=lab_none HI.out.map HD.out hwl hno
    have HNL:Hid (¬Linked its):=fun hl=>by
     have:=hl k (by omega) (by rw [<-HIt.out];exact h1)
     rw [<-HIt.out,hno] at this
     cases this
    have HB:Hid (Below B0 w wr):=HI.out.bel
    clear hno
    generalize it.kind=kd at c0 h1 h2
    have e1:(kd == 1)=false:=by simpa using h1
    have e2:(kd == 2)=false:=by simpa using h2
    go_wp2_with fail
    go_ret
    exact .inr ⟨HNL.out,rfl,HB.out,hszr⟩
   ·have hlook:=lab_look HI.out.map HD.out hwl hq
    have hqm:=posL_mem (its:=its) (lab:=it.label) (k:=q) (by rw [hq];simp)
    have hqn:q<n:=by omega
    have HTg:Hid (tgt its k=q):=by
     show _=_
     unfold tgt
     rw [<-HIt.out,if_neg h1,hq]
     rfl
    have hp1:(posL its (its.getD k it0).label).length=1:=by rw [<-HIt.out,hq];rfl
    have f8:=HI.out.row.free k hlt 8 (by omega)
    have c8:=HPc.out.c8
    have HGl:Hid _:=HI.out.goal hlt hB hm hb0 hp1 (.pointer (some ⟨g,q*10,none⟩)) (by rw [HTg.out])
    have c0':=((HGl.out.1.row).pc k hlt).c0
    rw [<-HIt.out] at c0'
    have b0':=HGl.out.1.box
    have b1':=HGl.out.1.box1
    have bf':=HGl.out.1.free
    clear hqm hp1 hq
    by_cases h3:it.kind=3
    ·rw [h3] at c0 c0'
     have HK3:Hid ((its.getD k it0).kind=3):=by show _=_;rw [<-HIt.out];exact h3
     have HB1:Hid ((wr.setCell ⟨g,k*10+8,none⟩ (.pointer (some ⟨g,q*10,none⟩))).ownsRow B0 54 1 (.slice ab (bsK its k).length cb) (bsK its k).length (ptrs g (bsK its k))):=HGl.out.1.brs
     have HBa:Hid (((wr.setCell ⟨g,k*10+8,none⟩ (.pointer (some ⟨g,q*10,none⟩))).alloc (.cells #[.pointer (some ⟨g,k*10,none⟩)] 54)).ownsRow B0 54 1 (.slice ab (bsK its k).length cb) (bsK its k).length (ptrs g (bsK its k))):=HB1.out.alloc _
     have HLit:Hid (∀j u,[Value.pointer (some ⟨g,k*10,none⟩)][j]? = some u->((wr.setCell ⟨g,k*10+8,none⟩ (.pointer (some ⟨g,q*10,none⟩))).alloc (.cells #[.pointer (some ⟨g,k*10,none⟩)] 54)).cell? ((⟨wr.heap.size,0,none⟩:Addr).add j)=some u):=by
      intro j u hj
      rw [addr_add]
      match j with
      | 0=>
       simp at hj
       subst hj
       rw [World.cell?_alloc_at _ _ _ _ (by simp)]
       rfl
      | (j+1)=>simp at hj
     clear h1 h2 h3 HB1
     go_wp2_with (at_builtin;refine wpList_appF rfl _ _ _ rfl B0 54 i0 _ 1 8 Tryz.underlying51 hi hz0 hz1 hz2 rfl (by decide) _ (bsK its k).length (ptrs g (bsK its k)) rfl HBa.out ⟨wr.heap.size,0,none⟩ 1 1 [.pointer (some ⟨g,k*10,none⟩)] rfl rfl HLit.out (by simp [Value.oneCell']) (by omega) (by decide) (by simp;omega) ?_)
     intro v1 w1 ho1 hg1 hf1
     have hgs':=hgs (by omega)
     obtain ⟨hN,b1'',bf''⟩:=HGl.out.1.branch HK3.out hB hm2 hb1 (by simp;omega) (by simp;omega) HGl.out.2.1 HGl.out.2.2 ho1 hg1 (by simpa using hf1)
     have HN:=hide hN
     obtain ⟨a2,c2,rfl⟩:=hN.shape
     clear hN ho1 hg1 hf1
     go_wp2_with fail
     go_roundw
     case rel=>exact ⟨k+1,_,_,by omega,by go_num,HN.out⟩
     case measure=>simp [RowKit.intOf];omega
    ·have HN:Hid (LkI w (wr.setCell ⟨g,k*10+8,none⟩ (.pointer (some ⟨g,q*10,none⟩))) B B0 g n bm nn (some ⟨g,0,none⟩) cap its A L D (k+1) (.slice ab (bsK its k).length cb) (upd G' k (.pointer (some ⟨g,q*10,none⟩)))):=by
      refine {HGl.out.1 with brs := ?_,seen:=HGl.out.2.1,go:=HGl.out.2.2}
      rw [bsK_no (by rw [<-HIt.out];exact h3)]
      exact HGl.out.1.brs
     generalize it.kind=kd at c0 c0' h1 h2 h3
     have e1:(kd == 1)=false:=by simpa using h1
     have e2:(kd == 2)=false:=by simpa using h2
     have e3:(kd == 3)=false:=by simpa using h3
     go_wp2_with fail
     go_roundw
     case rel=>exact ⟨k+1,_,_,by omega,by go_num,HN.out⟩
     case measure=>simp [RowKit.intOf];omega
  ·obtain rfl:k=n:=by omega
   have HLk:Hid (Linked its):=fun j hj h1=>HI.out.seen j (by omega) h1
   go_wp2_with fail
   go_ret
   exact .inl ⟨HLk.out,_,_,rfl,HI.out⟩
end
section
open Go.RowKit
theorem info_piece:(Tryz.prog.info? 56).map (fun i=>(i.zero,i.size,i.bytes))=some (some (.agg #[.int .i64 0,.int .i64 0,.int .i64 0,.int .i64 0,.int .i64 0,.int .i64 0,.int .i64 0,.int .i64 0,.pointer none,.bool false]),10,80):=by kernel_rfl
def flatP (its:List It):List Value:=its.flatMap (fun it=>pcs it 0 (.pointer none) false)
theorem flatP_snoc (its:List It) (x:It):flatP (its++[x])=flatP its++pcs x 0 (.pointer none) false:=by simp [flatP]
theorem flatP_at (its:List It) (i k:Nat) (hi:i<its.length) (hk:k<10):(flatP its)[i*10+k]? = (pcs (its.getD i it0) 0 (.pointer none) false)[k]? := by
 induction its generalizing i with
 | nil=>simp at hi
 | cons x r ih=>
  have e:flatP (x::r)=pcs x 0 (.pointer none) false++flatP r:=rfl
  have hl:(pcs x 0 (.pointer none) false).length=10:=rfl
  rw [e]
  cases i with
  | zero=>
   rw [List.getElem?_append_left (by omega)]
   simp [List.getD]
  | succ i=>
   rw [List.getElem?_append_right (by omega),hl,show (i+1)*10+k-10=i*10+k by omega,ih i (by simpa using hi)]
   simp [List.getD]
structure NwI (w wr:World) (its:List It) (k nn:Nat) (v:Value) (D:DataW Unit):Prop where
 box:wr.cell? ⟨w.heap.size,0,none⟩=some v
 box1:wr.cell? ⟨w.heap.size,1,none⟩=some (.slice none 0 0)
 free : ∀j,wr.frozen? ⟨w.heap.size,j,none⟩=false
 row:wr.ownsRow w.heap.size 56 10 v k (flatP (its.take k))
 ne : ∀x,v.ownBlock=some x->w.heap.size+1<x
 map:wr.ownsMap Tryz.prog 2 (plainElem (H:=Unit) Tryz.prog 3) (w.heap.size+1) nn D
 le:nn<=k
 lab:LabIs D (its.take k)
 good : ∀j,j<k->goodI (its.getD j it0)=true
 bel:Below w.heap.size w wr
 size:w.heap.size+2<=wr.heap.size
theorem NwI.shape {w wr:World} {its:List It} {k nn:Nat} {v:Value} {D:DataW Unit} (h:NwI w wr its k nn v D) : ∃a c,v = .slice a k c/\k<=c/\(0<k->∃g,a=some ⟨g,0,none⟩/\g<wr.heap.size):=by
 have h0:=h.row
 rcases h.row.2 with ⟨rfl,hz⟩ | ⟨g,c,cur,rfl,_,_,hnc,_⟩
 ·exact ⟨none,0,by rw [hz],by omega,fun h=>absurd h (by omega)⟩
 ·exact ⟨_,c,rfl,hnc,fun _=>⟨g,rfl,(World.ownsRow.lt h0 g rfl).2⟩⟩
theorem NwI.below {w wr w':World} {its:List It} {k nn:Nat} {v:Value} {D:DataW Unit} (h:NwI w wr its k nn v D) (hb:Below wr.heap.size wr w'):NwI w w' its k nn v D:=by
 have hs:=h.size
 have hmlt:=h.map.lt
 have hB:w.heap.size<wr.heap.size:=by omega
 refine {h with box:=(hb.cell (p:=⟨w.heap.size,0,none⟩) hB).trans h.box,box1:=(hb.cell (p:=⟨w.heap.size,1,none⟩) hB).trans h.box1,free:=fun j=>(hb.frozen (p:=⟨w.heap.size,j,none⟩) hB).trans (h.free j),row := ?_,map := ?_,bel:=h.bel.trans (hb.mono (by omega)),size:=Nat.le_trans hs hb.size}
 ·obtain ⟨g1,g2⟩:=h.row
  refine ⟨g1,?_⟩
  rcases g2 with g2 | ⟨g,cap,cur,rfl,g3,g4,g5⟩
  ·exact .inl g2
  ·refine .inr ⟨g,cap,cur,rfl,g3,?_,g5⟩
   rw [hb.block g (Array.getElem?_eq_some_iff.1 g4).1]
   exact g4
 ·obtain ⟨es,clock,h0,F,hs',hD⟩:=h.map
  exact ⟨es,clock,(hb.block _ hmlt).trans h0,F,hs',hD⟩
theorem NwI.app {w wr w1:World} {its:List It} {k nn:Nat} {v v1:Value} {D:DataW Unit} {o:Obj} {x:It} (h:NwI w wr its k nn v D) (hx:its.take (k+1)=its.take k++[x])
  (ho:w1.ownsRow w.heap.size 56 10 v1 (k+1) (flatP (its.take k)++pcs x 0 (.pointer none) false)) (hg:(wr.alloc o).grownBy w1 v.ownBlock) (hf : ∀y,v1.ownBlock=some y->v.ownBlock=some y∨(wr.alloc o).heap.size<=y) :
  w1.cell? ⟨w.heap.size,0,none⟩=some v/\w1.frozen? ⟨w.heap.size,0,none⟩=false/\(w1.setCell ⟨w.heap.size,0,none⟩ v1).cell? ⟨w.heap.size,0,none⟩=some v1/\(w1.setCell ⟨w.heap.size,0,none⟩ v1).cell? ⟨w.heap.size,1,none⟩=some (.slice none 0 0)/\(∀j,(w1.setCell ⟨w.heap.size,0,none⟩ v1).frozen? ⟨w.heap.size,j,none⟩=false)/\(w1.setCell ⟨w.heap.size,0,none⟩ v1).ownsRow w.heap.size 56 10 v1 (k+1) (flatP (its.take (k+1)))/\(∀y,v1.ownBlock=some y->w.heap.size+1<y)/\(w1.setCell ⟨w.heap.size,0,none⟩ v1).ownsMap Tryz.prog 2 (plainElem (H:=Unit) Tryz.prog 3) (w.heap.size+1) nn D/\Below w.heap.size w (w1.setCell ⟨w.heap.size,0,none⟩ v1)/\w.heap.size+2<=(w1.setCell ⟨w.heap.size,0,none⟩ v1).heap.size/\(∀b j,b<wr.heap.size->b≠w.heap.size->(∀y,v.ownBlock=some y->y≠b)->(w1.setCell ⟨w.heap.size,0,none⟩ v1).cell? ⟨b,j,none⟩=wr.cell? ⟨b,j,none⟩):=by
 have hs:=h.size
 have hA : ∀x,x<wr.heap.size->(∀y,v.ownBlock=some y->y≠x)->w1.heap[x]? = wr.heap[x]? := fun x hx hy=>by
  rw [hg.block x (by simp;omega) (fun e=>hy x e.symm rfl)]
  exact Below.heap_alloc _ _ x hx
 have eB:=hA w.heap.size (by omega) (fun y hy=>by have:=h.ne y hy;omega)
 have em:=hA (w.heap.size+1) h.map.lt (fun y hy=>by have:=h.ne y hy;omega)
 have hne1 : ∀y,v1.ownBlock=some y->w.heap.size+1<y:=fun y hy=>by
  rcases hf y hy with h' | h'
  ·exact h.ne y h'
  ·simp at h';omega
 have cB : ∀j,w1.cell? ⟨w.heap.size,j,none⟩=wr.cell? ⟨w.heap.size,j,none⟩:=fun j=>World.cell?_of_block (a:=⟨w.heap.size,j,none⟩) eB
 have fB : ∀j,w1.frozen? ⟨w.heap.size,j,none⟩=wr.frozen? ⟨w.heap.size,j,none⟩:=fun j=>World.frozen?_of_block (a:=⟨w.heap.size,j,none⟩) eB
 have hgr:w1.grownBy (w1.setCell ⟨w.heap.size,0,none⟩ v1) (some w.heap.size):=by
  have hb0:=(Below.refl 0 w1).setCell (p:=⟨w.heap.size,0,none⟩) (Nat.zero_le _) v1
  exact ⟨hb0.os,hb0.tape,hb0.output,hb0.size,fun i _ hi=>Below.heap_setCell _ _ _ i (fun e=>hi (by rw [e]))⟩
 refine ⟨(cB 0).trans h.box,(fB 0).trans (h.free 0),World.cell?_setCell_same _ _ _ ((cB 0).trans h.box),?_,fun j => ?_,?_,hne1,?_,?_,?_,fun b j hb1 hb2 hb3 => ?_⟩
 ·rw [World.cell?_setCell_other _ _ _ _ (by intro h;simp at h),cB];exact h.box1
 ·rw [World.frozen?_setCell,fB];exact h.free j
 ·rw [hx,flatP_snoc]
  exact ho.kept hgr (by
   cases e:v1.ownBlock with
   | none=>exact .inl rfl
   | some x=>exact .inr (fun h'=>by have:=hne1 x e;injection h' with h';omega))
 ·have:w1.ownsMap Tryz.prog 2 (plainElem (H:=Unit) Tryz.prog 3) (w.heap.size+1) nn D:=by
   obtain ⟨es,clock,h0,F,hs,hD⟩:=h.map
   exact ⟨es,clock,em.trans h0,F,hs,hD⟩
  exact this.kept hgr (by simp)
 ·have:Bl w w1:=(h.bel.alloc (by omega) o).grown hg (by simp;omega) (fun x hx=>(World.ownsRow.lt h.row x hx).1)
  exact this.setCell (Nat.le_refl _) v1
 ·have:=hg.size
  simp at this ⊢
  omega
 ·rw [World.cell?_setCell_other _ _ _ _ (by intro h;simp only [Addr.mk.injEq] at h;exact hb2 h.1.symm)]
  exact World.cell?_of_block (a:=⟨b,j,none⟩) (hA b hb1 hb3)
theorem new_start (w:World) (its:List It):NwI w ((w.alloc (.cells #[.slice none 0 0,.slice none 0 0] 53)).alloc (.map #[] 0)) its 0 0 (.slice none 0 0) (.map []):=by
 refine ⟨by go_simp,by go_simp,fun j=>by go_simp,World.ownsRow_nil _ _ _ _,(fun x h=>by cases h),?_,Nat.le_refl _,LabIs.nil,fun j hj=>absurd hj (by omega),(bel_a _ _).alloc (by simp) _,by simp⟩
 have:=World.ownsMap_made (w.alloc (.cells #[.slice none 0 0,.slice none 0 0] 53)) Tryz.prog 2 (plainElem (H:=Unit) Tryz.prog 3)
 simpa using this
def goodAl (its:List It):Prop:=∀j,j<its.length->goodI (its.getD j it0)=true
structure NewOk (w w':World) (its:List It) (B g:Nat) (pa:Option Addr) (cap:Nat) (vb:Value) (A:Nat->Int) (G:Nat->Value) (L:Nat->Bool):Prop where
 asm:Asm w' B g its.length pa cap vb its A G L
 cap:its.length<=cap
 go:GoOk its g G
 brs:BRow w' g vb (brs its)
 lgs:lgL L its.length=turns its 0
 bg:B≠g
 lB:w.heap.size<=B/\B<w'.heap.size
 lg:w.heap.size<=g/\(0<its.length->g<w'.heap.size)
 bel:Below w.heap.size w w'
theorem newA_any (its:List It) (v:Value) (w:World) (hn:its.length<=20000) (hv:Items w v its) (hwf : ∀i,i<its.length->(Lit.int .i64 (its.getD i it0).label).wf=true) :
  Calls Tryz.prog 13 #[v] w fun e w'=>(goodAl its/\Linked its/\∃B g pa cap vb A G L,e = .returned (.pointer (some ⟨B,0,none⟩))/\NewOk w w' its B g pa cap vb A G L)∨(¬(goodAl its/\Linked its)/\e = .returned (.pointer none)/\Below w.heap.size w w'):=by
 obtain ⟨av,cv,rfl,hcl,hcm,hvc⟩:=hv
 have HVC:Hid (0<its.length->∃b off,av=some ⟨b,off,none⟩/\ItemsC w b off its):=hvc
 have HWf:Hid (∀i,i<its.length->(Lit.int .i64 (its.getD i it0).label).wf=true):=hwf
 obtain ⟨i0,hi,hz0,hz1,hz2⟩:=info_parts info_piece
 clear hvc hwf
 have hmm := @run_makeMap Tryz.prog
 go_enter Tryz.func13,Tryz.ntmps13
 go_wp2_with fail
 go_loopw [12] (fun i wr=>∃(k nn:Nat) (u:Value) (D:DataW Unit),k<=its.length/\i = .int .i64 k/\NwI w wr its k nn u D) (fun i _=>its.length-(RowKit.intOf i).toNat)
 case atStart=>exact ⟨0,0,_,_,Nat.zero_le _,rfl,new_start w its⟩
 case round=>
  clear hmm
  obtain ⟨k,nn,u,D,hk,rfl,hI⟩:=hrel
  have HI:Hid (NwI w wr its k nn u D):=hI
  obtain ⟨au,cu,rfl,hcu,-⟩:=hI.shape
  have hsz:=hI.size
  by_cases hlt:k<its.length
  ·obtain ⟨b,off,rfl,hc⟩:=HVC.out (by omega)
   obtain ⟨c0,c1,c2,c3,c4,c5,c6⟩:=(hc.below hI.bel) k hlt
   have hwl:=HWf.out k hlt
   have HTk:Hid (its.take (k+1)=its.take k++[its[k]]):=by
    show _=_
    rw [List.take_add_one,List.getElem?_eq_getElem hlt];rfl
   have HGt:Hid (its.getD k it0=its[k]):=by show _=_;simp [List.getD,hlt]
   rw [HGt.out] at hwl
   clear hc hI
   generalize its[k]=x at c0 c1 c2 c3 c4 c5 c6 hwl HTk HGt
   have hA:Below wr.heap.size wr (wr.alloc (.cells #[.int .i64 x.kind,.int .i64 x.ins.op,.int .i64 x.ins.rd,.int .i64 x.ins.s1,.int .i64 x.ins.s2,.int .i64 x.ins.im,.int .i64 x.label] 31)):=(Below.refl _ _).alloc (Nat.le_refl _) _
   have HVl:Hid (∀w:World,Calls Tryz.prog 34 #[.agg #[.int .i64 x.kind,.int .i64 x.ins.op,.int .i64 x.ins.rd,.int .i64 x.ins.s1,.int .i64 x.ins.s2,.int .i64 x.ins.im,.int .i64 x.label]] w fun e w'=>e = .returned (.bool (goodI x))/\Below w.heap.size w w'):=fun w=>vitem_any x w
   go_wp2_with fail
   refine (HVl.out _).mono ?_
   rintro e w1 ⟨rfl,hb1⟩
   simp only [World.size_alloc] at hb1
   have hB1:=one_belowA hb1
   obtain ⟨y0,y1,y2,y3,y4,y5,y6⟩:=box7 hb1
   have HI1:Hid (NwI w w1 its k nn (.slice au k cu) D):=HI.out.below hB1
   have hw1:wr.heap.size<w1.heap.size:=by have:=hb1.size;simp at this;omega
   clear c0 c1 c2 c3 c4 c5 c6
   cases hg:goodI x
   ·have HNo:Hid (¬(goodAl its/\Linked its)):=fun h=>by
     have:=h.1 k hlt
     rw [HGt.out,hg] at this
     cases this
    go_wp2_with fail
    go_ret
    exact .inr ⟨HNo.out,rfl,HI1.out.bel⟩
   ·have HGood:Hid (∀j,j<k+1->goodI (its.getD j it0)=true):=fun j hj=>by
     by_cases e:j=k
     ·subst e;rw [HGt.out];exact hg
     ·exact HI.out.good j (by omega)
    have b0:=HI1.out.box
    have bf:=HI1.out.free 0
    have HRa:Hid ((w1.alloc (.cells #[.int .i64 x.kind,.int .i64 x.ins.op,.int .i64 x.ins.rd,.int .i64 x.ins.s1,.int .i64 x.ins.s2,.int .i64 x.ins.im,.int .i64 x.label,.int .i64 0,.pointer none,.bool false] 56)).ownsRow w.heap.size 56 10 (.slice au k cu) k (flatP (its.take k))):=HI1.out.row.alloc _
    have HLit:Hid (∀j u,(pcs x 0 (.pointer none) false)[j]? = some u->(w1.alloc (.cells #[.int .i64 x.kind,.int .i64 x.ins.op,.int .i64 x.ins.rd,.int .i64 x.ins.s1,.int .i64 x.ins.s2,.int .i64 x.ins.im,.int .i64 x.label,.int .i64 0,.pointer none,.bool false] 56)).cell? ((⟨w1.heap.size,0,none⟩:Addr).add j)=some u):=by
     intro j u hj
     rw [addr_add,World.cell?_alloc_at _ _ _ _ rfl]
     simpa [pcs] using hj
    have hone : ∀u∈pcs x 0 (.pointer none) false,u.oneCell'=true:=by
     intro u hu
     simp only [pcs,List.mem_cons,List.not_mem_nil,or_false] at hu
     rcases hu with rfl | rfl | rfl | rfl | rfl | rfl | rfl | rfl | rfl | rfl <;> rfl
    have hvlt : ∀y,(Value.slice au k cu).ownBlock=some y->y≠wr.heap.size:=fun y hy=>by have:=(World.ownsRow.lt HI.out.row y hy).2;omega
    clear hg
    go_wp2_with (at_builtin;refine wpList_appF rfl _ _ _ rfl w.heap.size 56 i0 _ 10 80 Tryz.underlying50 hi hz0 hz1 hz2 rfl (by decide) _ k (flatP (its.take k)) rfl HRa.out ⟨w1.heap.size,0,none⟩ 1 1 (pcs x 0 (.pointer none) false) rfl rfl HLit.out hone (by omega) (by decide) (by have:=hB1.size;simp;omega) ?_)
    intro v1 w2 ho2 hg2 hf2
    obtain ⟨q0,q1,q2,q3,q4,q5,q6,q7,q8,q9,q10⟩:=HI1.out.app HTk.out ho2 hg2 (by simpa using hf2)
    have n0:=(q10 wr.heap.size 0 (by omega) (by omega) hvlt).trans y0
    have n6:=(q10 wr.heap.size 6 (by omega) (by omega) hvlt).trans y6
    have HQ:Hid _:=And.intro q2 (And.intro q3 (And.intro q4 (And.intro q5 (And.intro q6 (And.intro q7 (And.intro q8 q9))))))
    obtain ⟨a1,c1',rfl⟩ : ∃a1 c1',v1 = .slice a1 (k+1) c1':=by
     rcases ho2.2 with ⟨_,hz⟩ | ⟨g,c,cur,rfl,_⟩
     ·omega
     ·exact ⟨_,c,rfl⟩
    clear ho2 hg2 hf2 q2 q3 q4 q5 q6 q7 q8 q9 q10 y0 y1 y2 y3 y4 y5 y6 b0 bf HRa HLit
    have hnn:=HI.out.le
    have hwm:w.heap.size+1<(w2.setCell ⟨w.heap.size,0,none⟩ (.slice a1 (k+1) c1')).heap.size:=HQ.out.2.2.2.2.2.1.lt
    by_cases h2:x.kind=2
    ·rw [h2] at n0
     have hTl:(its.take k).length=k:=by simp;omega
     rcases HI.out.lab.cases x.label with hno | ⟨q,hq⟩
     ·have hlook:=lab_none HQ.out.2.2.2.2.2.1 HI.out.lab hwl hno
      have HPut:Hid (LabIs (D.put (.int .i64 x.label) (.lit (.int .i64 (k:Int)))) (its.take (k+1))):=by
       have:=HI.out.lab.put h2 hno
       rw [hTl] at this
       rw [HTk.out]
       exact this
      clear hno h2 hTl
      go_wp2_with (first
       | (at_mapUpdate;refine wpList_mapUpdate_own _ rfl _ _ _ 96 rfl 2 3 (Maps.int_keyed Tryz.underlying2) Tryz.underlying96 _ (w.heap.size+1) nn D rfl HQ.out.2.2.2.2.2.1 (by unfold maxLen;omega) _ _ _ rfl rfl (Maps.keyOf_int_mk Tryz.underlying2 hwl) _ [] (plainElem_int Tryz.underlying3 (WalkArith.wf_i64 (by omega))) ?_;intro w3 hown3 hgrow3)
       | go_in)
      have HN:Hid (NwI w w3 its (k+1) (nn+1) (.slice a1 (k+1) c1') (D.put (.int .i64 x.label) (.lit (.int .i64 (k:Int))))):=by
       obtain ⟨p0,p1,p2,p3,p4,p5,p6,p7⟩:=HQ.out
       have hBk:=hgrow3.block w.heap.size (by omega) (by simp)
       refine ⟨hgrow3.cell p0 (by simp),hgrow3.cell p1 (by simp),fun j=>(World.frozen?_of_block (a:=⟨w.heap.size,j,none⟩) hBk).trans (p2 j),p3.kept hgrow3 ?_,p4,hown3,by omega,HPut.out,HGood.out,p6.grown hgrow3 (by omega) (fun j hj=>by cases hj;omega),Nat.le_trans p7 hgrow3.size⟩
       cases e:(Value.slice a1 (k+1) c1').ownBlock with
       | none=>exact .inl rfl
       | some y=>exact .inr (fun h'=>by have:=p4 y e;injection h' with h';omega)
      clear hown3 hgrow3
      go_roundw
      case rel=>exact ⟨k+1,_,_,_,by omega,by go_num,HN.out⟩
      case measure=>simp [RowKit.intOf];omega
     ·have hlook:=lab_look HQ.out.2.2.2.2.2.1 HI.out.lab hwl hq
      have HNo:Hid (¬(goodAl its/\Linked its)):=fun h=>by
       have h1:=h.2 k hlt (by rw [HGt.out];omega)
       rw [HGt.out] at h1
       have h3:=posL_take_le its (k+1) x.label
       rw [HTk.out,posL_snoc,hq] at h3
       have hil:isL x x.label=true:=decide_eq_true ⟨h2,rfl⟩
       rw [hil] at h3
       simp at h3
       omega
      clear hq h2 hTl
      go_wp2_with fail
      go_ret
      exact .inr ⟨HNo.out,rfl,HQ.out.2.2.2.2.2.2.1⟩
    ·have HSk:Hid (LabIs D (its.take (k+1))):=by show LabIs _ _;rw [HTk.out];exact HI.out.lab.skip h2
     have HN:Hid (NwI w (w2.setCell ⟨w.heap.size,0,none⟩ (.slice a1 (k+1) c1')) its (k+1) nn (.slice a1 (k+1) c1') D):=⟨HQ.out.1,HQ.out.2.1,HQ.out.2.2.1,HQ.out.2.2.2.1,HQ.out.2.2.2.2.1,HQ.out.2.2.2.2.2.1,by omega,HSk.out,HGood.out,HQ.out.2.2.2.2.2.2.1,HQ.out.2.2.2.2.2.2.2⟩
     generalize x.kind=kd at n0 h2
     go_wp2_with fail
     go_roundw
     case rel=>exact ⟨k+1,_,_,_,by omega,by go_num,HN.out⟩
     case measure=>simp [RowKit.intOf];omega
  ·obtain rfl:k=its.length:=by omega
   have hTk:its.take its.length=its:=List.take_length
   have HGA:Hid (goodAl its):=HI.out.good
   obtain ⟨g,hg1,hg2,hg3,hg4⟩ : ∃g,(0<its.length->au=some ⟨g,0,none⟩)/\w.heap.size+1<g/\(0<its.length->g<wr.heap.size)/\PRow wr g its.length its (fun _=>0) (fun _=>.pointer none) (fun _=>false):=by
    by_cases h0:0<its.length
    ·have hrow:=hI.row
     rcases hrow.2 with ⟨_,hz⟩ | ⟨g,c,cur,he,_⟩
     ·omega
     ·simp only [Value.slice.injEq] at he
      obtain ⟨rfl,-,rfl⟩:=he
      have hlt:=(World.ownsRow.lt hrow g rfl).2
      refine ⟨g,fun _=>rfl,hI.ne g rfl,fun _=>hlt,fun i hi j hj=>⟨?_,World.ownsRow.frozenAt hrow _⟩⟩
      have e:=flatP_at its i j hi hj
      have hl:(pcs (its.getD i it0) 0 (.pointer none) false).length=10:=rfl
      obtain ⟨y,hy⟩ : ∃y,(pcs (its.getD i it0) 0 (.pointer none) false)[j]? = some y:=⟨_,List.getElem?_eq_getElem (by rw [hl];exact hj)⟩
      rw [hy] at e
      have:=World.ownsRow.cells hrow (g:=g) rfl (i*10+j) y (by rw [hTk];exact e)
      rw [addr_add] at this
      rw [this,hy]
    ·exact ⟨w.heap.size+2,fun h=>absurd h h0,by omega,fun h=>absurd h h0,fun i hi=>absurd hi (by omega)⟩
   have hLab:LabIs D its:=by have:=hI.lab;rw [hTk] at this;exact this
   have HLk:Hid (LkI wr wr w.heap.size w.heap.size g its.length (w.heap.size+1) nn au cu its (fun _=>0) (fun _=>false) D 0 (.slice none 0 0) (fun _=>.pointer none)):=
    ⟨hI.box,hI.box1,hI.free 1,hg4,World.ownsRow_nil _ _ _ _,fun x h=>(by cases h),hI.map,fun j hj=>absurd hj (by omega),fun j hj=>absurd hj (by omega),Below.refl _ _,Nat.le_refl _⟩
   have HLab:Hid (LabIs D its):=hLab
   clear hLab hg4 hI
   go_wp2_with fail
   refine (link_any w.heap.size w.heap.size g its.length (w.heap.size+1) nn au cu its (fun _=>0) (fun _=>.pointer none) (fun _=>false) D wr (by omega) (by omega) (Nat.le_refl _) (by omega) (by omega) hg3 (by omega) hn hcu rfl hg1 HLk.out HLab.out HWf.out).mono ?_
   rintro e w1 (⟨hL,vb,G',rfl,hI1⟩ | ⟨hL,rfl,hb1,hs1⟩)
   ·have HN:Hid (NewOk w w1 its w.heap.size g au cu vb (fun _=>0) G' (fun _=>false)):=by
     refine ⟨⟨rfl,hI1.box,hg1,hI1.row,hI1.box1⟩,hcu,fun i hi h1 h2=>hI1.go i hi h1 h2,own_brow hI1.brs (fun x hx=>(hI1.ne x hx).1),?_,by omega,⟨Nat.le_refl _,by have:=hI1.size;omega⟩,⟨by omega,fun h=>by have:=hg3 h;have:=hI1.size;omega⟩,HI.out.bel.trans hI1.bel⟩
     simp [lgL,turns,List.map_const']
    have HL2:Hid (Linked its):=hL
    clear hI1 hL
    go_wp2_with fail
    go_ret
    exact .inl ⟨HGA.out,HL2.out,_,_,_,_,_,_,_,_,rfl,HN.out⟩
   ·have HNo:Hid (¬(goodAl its/\Linked its)):=fun h=>hL h.2
    have HB:Hid (Below w.heap.size w w1):=HI.out.bel.trans hb1
    clear hL hb1
    go_wp2_with fail
    go_ret
    exact .inr ⟨HNo.out,rfl,HB.out⟩
end
section
open Go.RowKit
theorem info_u32:(Tryz.prog.info? 35).map (fun i=>(i.zero,i.size,i.bytes))=some (some (.int .u32 0),1,4):=by kernel_rfl
def URow (B:Nat) (w:World) (v:Value) (us:List Int):Prop:=w.ownsRow B 35 1 v us.length (us.map (Value.int .u32))
theorem URow.shape {B:Nat} {w:World} {v:Value} {us:List Int} (h:URow B w v us) : ∃a c,v = .slice a us.length c:=by
 rcases h.2 with ⟨rfl,hz⟩ | ⟨g,cap,cur,rfl,_⟩
 ·exact ⟨none,0,by rw [hz]⟩
 ·exact ⟨_,cap,rfl⟩
theorem URow.below {B:Nat} {w w':World} {v:Value} {us:List Int} (h:URow B w v us) (hb:Below w.heap.size w w'):URow B w' v us:=by
 obtain ⟨g1,g2⟩:=h
 refine ⟨g1,?_⟩
 rcases g2 with g2 | ⟨g,cap,cur,rfl,g3,g4,g5⟩
 ·exact .inl g2
 ·refine .inr ⟨g,cap,cur,rfl,g3,?_,g5⟩
  rw [hb.block g (Array.getElem?_eq_some_iff.1 g4).1]
  exact g4
theorem URow.base {B B':Nat} {w:World} {v:Value} {us:List Int} (h:URow B w v us) (hb:B'<=B):URow B' w v us:=by
 obtain ⟨g1,g2⟩:=h
 refine ⟨g1,?_⟩
 rcases g2 with g2 | ⟨g,cap,cur,rfl,g3,g4⟩
 ·exact .inl g2
 ·exact .inr ⟨g,cap,cur,rfl,Nat.le_trans hb g3,g4⟩
theorem urow_lit (W:World) (B:Nat) (hB:B<=W.heap.size):URow B (W.alloc (.cells #[] 35)) (.slice (some ⟨W.heap.size,0,none⟩) 0 0) []:=World.ownsRow_lit W #[] 0 hB (by decide) rfl
theorem run_appU {w:World} (base:Nat) (ty:TypeId) (v:Value) (xs:List Int) (hown:URow base w v xs) (x:Value) (us:List Int) (hx:USrc w x us) (hm:xs.length+us.length<=10000000) (hbase:base<=w.heap.size) :
  ∃v' w',(Builtin.append_ #[25,25] ty #[v,x]).run Tryz.prog w = .ok v' w'/\URow base w' v' (xs++us)/\w.grownBy w' v.ownBlock:=by
 obtain ⟨i0,hi,hz0,hz1,hz2⟩:=info_parts info_u32
 obtain ⟨a,cap,rfl,h2,h3⟩:=hx
 cases a with
 | none=>
  obtain rfl:=h2 rfl
  have hr:(Builtin.append_ #[25,25] ty #[v,.slice none ([]:List Int).length cap]).run Tryz.prog w = .ok v w:=by
   rcases hown.2 with ⟨rfl,hn⟩ | ⟨g,cap',cur,rfl,_,_,hnc,_⟩
   ·simp [Builtin.append_,run_underlying Tryz.underlying25,sizeOf,typeInfo,hi,Builtin.lenOf,Builtin.firstCells]
   ·simp [Builtin.append_,run_underlying Tryz.underlying25,sizeOf,typeInfo,hi,Builtin.lenOf,Builtin.firstCells,hnc,storeCells]
  exact ⟨v,w,hr,by simpa using hown,⟨rfl,rfl,rfl,Nat.le_refl _,fun _ _ _=>rfl⟩⟩
 | some ad=>
  obtain ⟨v',w',r1,r2,r3,r4⟩:=app_freshG (P:=Tryz.prog) (w:=w) base 25 ty 35 i0 _ 1 4 Tryz.underlying25 hi hz0 hz1 hz2 rfl (by decide) v xs.length (xs.map (Value.int .u32)) hown ad us.length cap (us.map (Value.int .u32)) (by simp) (h3 ad rfl) (by intro u hu;simp at hu;obtain ⟨y,_,rfl⟩:=hu;rfl) hm (by decide) hbase
  refine ⟨v',w',r1,?_,r3⟩
  unfold URow
  rw [l_a,List.map_append]
  exact r2
theorem wpList_appU {w:World} {ops:Array Oper} {rest:List Oper} {o:Oper} {a:Act} {Q:Exit->Act->World->Prop} (hgd:o.guard=none) (s x:Operand)
  (ho:o.op = .call {callee:=.builtin .append,args:=#[s,x],argTypes:=#[25,25]})
  (base:Nat) (v:Value) (xs:List Int) (hs:a.eval s=v) (hown:URow base w v xs) (xv:Value) (us:List Int) (hxv:a.eval x=xv) (hx:USrc w xv us)
  (hm:xs.length+us.length<=10000000) (hbase:base<=w.heap.size)
  (h : ∀v' w',URow base w' v' (xs++us)->w.grownBy w' v.ownBlock->wpList Tryz.prog ops Q rest (a.put o.dst v') w'):wpList Tryz.prog ops Q (o::rest) a w:=by
 refine wpList_plain hgd fun K hK => ?_
 obtain ⟨v',w',hr,h2,h3⟩:=run_appU (w:=w) base o.type v xs hown xv us hx hm hbase
 unfold Oper.wp execOp
 simp only [ho,resolve,invoke,builtin,Sem.run_bind,Sem.run_pure,Result.andThen_ok,List.map_toArray,List.map_cons,List.map_nil,hs,hxv,hr]
 exact hK _ _ (h v' w' h2 h3)
def codeK (its:List It) (lg:List Bool):Nat->List Int
 | 0=>[]
 | k+1=>codeK its lg k++wds (its.getD k it0) (farN its lg k) (lg.getD k false)
theorem codeK_len (its:List It) (lg:List Bool) (k:Nat):(codeK its lg k).length<=2*k:=by
 induction k with
 | zero=>simp [codeK]
 | succ k ih=>
  have:=wds_len (its.getD k it0) (farN its lg k) (lg.getD k false)
  simp only [codeK,l_a]
  omega
theorem good_op {x:It} (h:goodI x=true) (h3:x.kind=3):4<=x.ins.op/\x.ins.op<=9:=by
 unfold goodI at h
 by_cases hl:x.label<0
 ·rw [if_pos hl] at h;cases h
 ·rw [if_neg hl,if_neg (by omega),if_pos h3] at h
  simp only [Bool.and_eq_true,decide_eq_true_eq] at h
  exact h.1.1
def AsmR (its:List It) (r:List Int):Prop:=
 (its.length<=20000/\goodAl its/\Linked its/\∃lg,Fin its lg/\((plN its lg its.length<=20000/\r=codeK its lg its.length)∨(20000<plN its lg its.length/\r = [])))∨(¬(its.length<=20000/\goodAl its/\Linked its)/\r = [])
theorem AsmR.one {its:List It} {r r':List Int} (h:AsmR its r) (h':AsmR its r'):r=r':=by
 rcases h with ⟨a,b,c,lg,f,h⟩ | ⟨n,rfl⟩
 ·rcases h' with ⟨_,_,_,lg',f',h'⟩ | ⟨n,_⟩
  ·obtain rfl:=f.one f'
   rcases h with ⟨l,rfl⟩ | ⟨l,rfl⟩ <;> rcases h' with ⟨l',rfl⟩ | ⟨l',rfl⟩
   ·rfl
   ·omega
   ·omega
   ·rfl
  ·exact absurd ⟨a,b,c⟩ n
 ·rcases h' with ⟨a,b,c,_⟩ | ⟨_,rfl⟩
  ·exact absurd ⟨a,b,c⟩ n
  ·rfl
theorem AsmR.len {its:List It} {r:List Int} (h:AsmR its r):r.length<=40000:=by
 rcases h with ⟨a,_,_,lg,_,⟨_,rfl⟩ | ⟨_,rfl⟩⟩ | ⟨_,rfl⟩
 ·have:=codeK_len its lg its.length
  omega
 ·simp
 ·simp
theorem asmI_any (its:List It) (v:Value) (w:World) (hv:Items w v its) (hwf : ∀i,i<its.length->(Lit.int .i64 (its.getD i it0).label).wf=true) (hl:its.length<=1048576) :
  Calls Tryz.prog 5 #[v] w fun e w'=>∃u r,e = .returned u/\AsmR its r/\URow w.heap.size w' u r/\Below w.heap.size w w':=by
 have HV:Hid (Items w v its):=hv
 have HWf:Hid (∀i,i<its.length->(Lit.int .i64 (its.getD i it0).label).wf=true):=hwf
 obtain ⟨av,cv,rfl,hcl,hcm,-⟩:=hv
 clear hwf
 by_cases h2:20000<its.length
 ·have HR:Hid (AsmR its []):=.inr ⟨fun h=>by omega,rfl⟩
  go_enter Tryz.func5,Tryz.ntmps5
  go_wp2_with fail
  go_ret
  exact ⟨_,[],rfl,HR.out,urow_lit w _ (Nat.le_refl _),(Below.refl _ _).alloc (Nat.le_refl _) _⟩
 have hn:its.length<=20000:=by omega
 go_enter Tryz.func5,Tryz.ntmps5
 go_wp2_with fail
 refine (newA_any its _ w hn HV.out HWf.out).mono ?_
 rintro e w1 (⟨hg1,hg2,B,g,pa,cap,vb,A,G,L,rfl,hN⟩ | ⟨hno,rfl,hb1⟩)
 ·have HN:Hid (NewOk w w1 its B g pa cap vb A G L):=hN
  have HGA:Hid (goodAl its):=hg1
  have HLk:Hid (Linked its):=hg2
  clear hg1 hg2 hN
  go_wp2_with fail
  refine (settle_any B g its.length pa cap vb its A G L w1 HN.out.bg HN.out.lB.2 HN.out.lg.2 hn HN.out.cap HN.out.asm HN.out.lgs HN.out.go HN.out.brs HLk.out).mono ?_
  rintro e w2 ⟨lg,A',L',hF,hL',rfl,hT2,hA2,hAt⟩
  have HF:Hid (Fin its lg):=hF
  have hB2:Below w.heap.size w w2:=HN.out.bel.trans (hT2.below HN.out.lg.1 HN.out.bel.size)
  have HA2:Hid (Asm w2 B g its.length pa cap vb its A' G L'):=hA2
  have HL':Hid (lgL L' its.length=lg):=hL'
  have HAt:Hid (∀i,i<its.length->A' i=4*((plN its lg i:Nat):Int)):=hAt
  have hple:=plN_le its lg its.length
  have b0:=hA2.box
  clear hF hL' hT2 hA2 hAt
  by_cases hbig:20000<plN its lg its.length
  ·have HR:Hid (AsmR its []):=.inl ⟨hn,HGA.out,HLk.out,lg,HF.out,.inr ⟨hbig,rfl⟩⟩
   go_wp2_with fail
   go_ret
   exact ⟨_,[],rfl,HR.out,urow_lit w2 _ hB2.size,hB2.alloc hB2.size _⟩
  ·have HR:Hid (AsmR its (codeK its lg its.length)):=.inl ⟨hn,HGA.out,HLk.out,lg,HF.out,.inl ⟨by omega,rfl⟩⟩
   generalize plN its lg its.length=pl at hple hbig ⊢
   go_wp2_with fail
   obtain ⟨M,hM0⟩ : ∃M,M=w2.heap.size:=⟨_,rfl⟩
   have HM:Hid (M=w2.heap.size):=hM0
   clear hM0
   go_loopw [4,25] (fun c i wr=>∃k:Nat,k<=its.length/\i = .int .i64 k/\URow M wr c (codeK its lg k)/\Below M w2 wr) (fun _ i _=>its.length-(RowKit.intOf i).toNat)
   case atStart=>exact ⟨0,Nat.zero_le _,rfl,World.ownsRow_nil _ _ _ _,Below.refl _ _⟩
   case round=>
    obtain ⟨k,hk,rfl,hU,hB⟩:=hrel
    obtain ⟨ac,cc,rfl⟩:=hU.shape
    have HU:Hid (URow M wr (.slice ac (codeK its lg k).length cc) (codeK its lg k)):=hU
    have hBw:Below w2.heap.size w2 wr:=by rw [<-HM.out];exact hB
    have hsM:M<=wr.heap.size:=by rw [HM.out];exact hBw.size
    have hcl2:=codeK_len its lg k
    have b0':=(hBw.cell (p:=⟨B,0,none⟩) (World.block_lt_of_cell? _ _ b0)).trans b0
    clear hU
    by_cases hlt:k<its.length
    ·have hpa:=HA2.out.row (by omega)
     subst hpa
     have HPc:Hid (Pc wr g (k*10) (its.getD k it0) (A' k) (G k) (L' k)):=(HA2.out.pcs.pc k hlt).below hBw
     have htl:=tgt_lt HLk.out hlt
     have HGo:Hid (Goal wr (its.getD k it0) (G k) (A' (tgt its k))):=fun hkd=>⟨g,tgt its k*10,_,_,_,HN.out.go k hlt (by omega) (by omega),(HA2.out.pcs.pc (tgt its k) htl).below hBw⟩
     have HFar:Hid (A' (tgt its k)-A' k=farN its lg k):=by show _=_;rw [HAt.out k hlt,HAt.out _ htl];rfl
     have hp1:=plN_le its lg k
     have hp2:=plN_le its lg (tgt its k)
     have ha1:=HAt.out k hlt
     have ha2:=HAt.out _ htl
     have hb1:0<=A' k/\A' k<=1000000000:=by omega
     have hb2:0<=A' (tgt its k)/\A' (tgt its k)<=1000000000:=by omega
     have HOp:Hid ((its.getD k it0).kind=3->4<=(its.getD k it0).ins.op/\(its.getD k it0).ins.op<=9):=fun h3=>good_op (HGA.out k hlt) h3
     have HLk2:Hid (lg.getD k false=L' k):=by show _=_;rw [<-HL'.out,lgL_at L' _ k hlt]
     clear ha1 ha2 hp1 hp2
     go_wp2_with fail
     refine (code_any g (k*10) (its.getD k it0) (A' k) (A' (tgt its k)) (G k) (L' k) wr HPc.out HGo.out hb1 hb2 HOp.out).mono ?_
     rintro e w3 ⟨v3,rfl,hs3,hb3⟩
     rw [HFar.out,<-HLk2.out] at hs3
     have HC:Hid (codeK its lg (k+1)=codeK its lg k++wds (its.getD k it0) (farN its lg k) (lg.getD k false)):=rfl
     have hwl:=wds_len (its.getD k it0) (farN its lg k) (lg.getD k false)
     generalize wds (its.getD k it0) (farN its lg k) (lg.getD k false)=ws at hs3 HC hwl
     have HS3:Hid (USrc w3 v3 ws):=hs3
     obtain ⟨a3,c3,rfl,-⟩:=hs3
     have HU3:Hid (URow M w3 (.slice ac (codeK its lg k).length cc) (codeK its lg k)):=HU.out.below hb3
     have hB3:Below M w2 w3:=hB.trans (hb3.mono hsM)
     have hsM3:M<=w3.heap.size:=Nat.le_trans hsM hb3.size
     generalize codeK its lg k=ck at HU3 HC hcl2 HU ⊢
     clear hb3
     go_wp2_with (at_builtin;refine wpList_appU rfl _ _ rfl M _ ck rfl HU3.out _ ws rfl HS3.out (by omega) hsM3 ?_)
     intro v4 w4 ho4 hg4
     have HU4:Hid (URow M w4 v4 (codeK its lg (k+1))):=by show URow _ _ _ _;rw [HC.out];exact ho4
     have hB4:Below M w2 w4:=hB3.grown hg4 hsM3 (fun x hx=>(World.ownsRow.lt HU3.out x hx).1)
     obtain ⟨a4,c4,rfl⟩:=HU4.out.shape
     clear ho4 hg4
     go_wp2_with fail
     go_roundw
     case rel=>exact ⟨k+1,by omega,by go_num,HU4.out,hB4⟩
     case measure=>simp [RowKit.intOf];omega
    ·obtain rfl:k=its.length:=by omega
     have hBf:Below w.heap.size w wr:=hB2.trans (hBw.mono hB2.size)
     go_wp2_with fail
     go_ret
     exact ⟨_,_,rfl,HR.out,HU.out.base (by rw [HM.out];exact hB2.size),hBf⟩
 ·have HR:Hid (AsmR its []):=.inr ⟨fun h=>hno ⟨h.2.1,h.2.2⟩,rfl⟩
  clear hno
  go_wp2_with fail
  go_ret
  exact ⟨_,[],rfl,HR.out,urow_lit w1 _ hb1.size,hb1.alloc hb1.size _⟩
end
section
theorem turns_kind {its:List It} {m k:Nat} (h:(turns its m).getD k false=true):(its.getD k it0).kind=3:=by
 induction m with
 | zero=>
  by_cases hk:k<its.length
  ·simp [turns,List.getD,hk] at h
  ·simp [turns,List.getD,hk] at h
 | succ m ih=>
  by_cases hk:k<its.length
  ·simp only [turns] at h
   rw [turn_at _ _ _ (by rw [turns_len];exact hk),Bool.or_eq_true] at h
   rcases h with h | h
   ·exact ih h
   ·unfold grows at h
    simp only [Bool.and_eq_true,decide_eq_true_eq] at h
    exact h.1.1
  ·rw [List.getD_eq_getElem?_getD,List.getElem?_eq_none (by rw [turns_len];omega)] at h
   simp at h
theorem Fin.kind {its:List It} {lg:List Bool} (hF:Fin its lg) {k:Nat} (h:lg.getD k false=true):(its.getD k it0).kind=3:=by
 obtain ⟨⟨m,rfl⟩,-⟩:=hF
 exact turns_kind h
theorem Fin.reach {its:List It} {lg:List Bool} (hF:Fin its lg) {k:Nat} (hk:k<its.length) (h3:(its.getD k it0).kind=3) (h:lg.getD k false=false) : -4096<=farN its lg k/\farN its lg k<=4094:=by
 obtain ⟨⟨m,hm⟩,hf⟩:=hF
 have hl:lg.length=its.length:=by rw [hm,turns_len]
 have:=turn_at its lg k (by omega)
 rw [hf,h,Bool.false_or] at this
 unfold grows at this
 rw [h3,h] at this
 simpa [Go.Proofs.YtpdndlghjldhjaaGreat.reach] using this
theorem good_kind {x:It} (h:goodI x=true):0<=x.label/\(x.kind=1∨x.kind=2∨x.kind=3∨x.kind=4∨x.kind=5):=by
 unfold goodI at h
 by_cases hl:x.label<0
 ·rw [if_pos hl] at h;cases h
 ·refine ⟨by omega,?_⟩
  rw [if_neg hl] at h
  by_cases h1:x.kind=1
  ·exact .inl h1
  ·rw [if_neg h1] at h
   by_cases h3:x.kind=3
   ·exact .inr (.inr (.inl h3))
   ·rw [if_neg h3] at h
    by_cases h2:x.kind=2∨x.kind=4∨x.kind=5
    ·rcases h2 with h2 | h2 | h2
     ·exact .inr (.inl h2)
     ·exact .inr (.inr (.inr (.inl h2)))
     ·exact .inr (.inr (.inr (.inr h2)))
    ·rw [if_neg h2] at h;cases h
theorem good_ins {x:It} (h:goodI x=true) (h1:x.kind=1):eV x.ins=true:=by
 have:=(good_kind h).1
 unfold goodI at h
 rw [if_neg (by omega),if_pos h1] at h
 simp only [Bool.and_eq_true] at h
 exact h.1
theorem good_br {x:It} (h:goodI x=true) (h3:x.kind=3):(4<=x.ins.op/\x.ins.op<=9)/\x.ins.im=0/\eV x.ins=true:=by
 have:=(good_kind h).1
 unfold goodI at h
 rw [if_neg (by omega),if_neg (by omega),if_pos h3] at h
 simp only [Bool.and_eq_true,decide_eq_true_eq] at h
 exact ⟨h.1.1,h.1.2,h.2⟩
theorem plN_up (its : List It) (lg : List Bool) {k n : Nat} (h : k ≤ n) : plN its lg k ≤ plN its lg n := by
 induction n with
 | zero => obtain rfl : k = 0 := by omega
           exact Nat.le_refl _
 | succ n ih =>
  by_cases e : k = n + 1
  ·subst e; exact Nat.le_refl _
  ·have := ih (by omega)
   simp only [plN]
   omega
theorem wds_sz {its:List It} {lg:List Bool} (hF:Fin its lg) (hG:goodAl its) {k:Nat} (hk:k<its.length) (far:Int):(wds (its.getD k it0) far (lg.getD k false)).length=szB (its.getD k it0) (lg.getD k false):=by
 have h5:=(good_kind (hG k hk)).2
 have hx:lg.getD k false=true->(its.getD k it0).kind=3:=hF.kind
 generalize its.getD k it0=x at h5 hx
 generalize lg.getD k false=l at hx
 unfold wds szB
 rcases h5 with h | h | h | h | h <;> cases l <;> simp_all
theorem codeK_pl {its:List It} {lg:List Bool} (hF:Fin its lg) (hG:goodAl its) : ∀k,k<=its.length->(codeK its lg k).length=plN its lg k
 | 0,_=>rfl
 | k+1,hk=>by
  simp only [codeK,plN,l_a]
  rw [codeK_pl hF hG k (by omega),wds_sz hF hG (by omega)]
theorem codeK_at {its:List It} {lg:List Bool} (hF:Fin its lg) (hG:goodAl its) {k j n:Nat} {u:Int} (hk:k<n) (hn:n<=its.length) (h:(wds (its.getD k it0) (farN its lg k) (lg.getD k false))[j]? = some u):(codeK its lg n)[plN its lg k+j]? = some u:=by
 induction n with
 | zero=>omega
 | succ n ih=>
  simp only [codeK]
  have hj:j<(wds (its.getD k it0) (farN its lg k) (lg.getD k false)).length:=(List.getElem?_eq_some_iff.1 h).1
  by_cases e:k=n
  ·subst e
   rw [List.getElem?_append_right (by rw [codeK_pl hF hG _ (by omega)];omega),codeK_pl hF hG _ (by omega),Nat.add_sub_cancel_left]
   exact h
  ·have h1:=ih (by omega) (by omega)
   rw [List.getElem?_append_left ((List.getElem?_eq_some_iff.1 h1).1)]
   exact h1
theorem far_bd {its:List It} {lg:List Bool} (hL:Linked its) (hn:plN its lg its.length<=20000) {k:Nat} (hk:k<its.length) : -80000<=farN its lg k/\farN its lg k<=80000/\farN its lg k % 4=0/\4*(plN its lg k:Int)+farN its lg k=4*(plN its lg (tgt its k):Int):=by
 have h1:=plN_up its lg (Nat.le_of_lt (tgt_lt hL hk))
 have h2:=plN_up its lg (Nat.le_of_lt hk)
 unfold farN
 omega
theorem eV_jal (rd im:Int) (h:rd=0∨rd=1) (h1 : -1048576<=im/\im<=1048574) (h2:im % 2=0):eV ⟨2,rd,0,0,im⟩=true:=by
 unfold eV vOf vJ
 simp
 omega
theorem eV_br {x:Ins} (hop:4<=x.op/\x.op<=9) (h:eV x=true) (op im:Int) (ho:4<=op/\op<=9) (h1 : -4096<=im/\im<=4094) (h2:im % 2=0):eV ⟨op,x.rd,x.s1,x.s2,im⟩=true:=by
 unfold eV vOf at h ⊢
 rw [if_neg (by omega),if_neg (by omega),if_neg (by omega),if_pos hop] at h
 rw [if_neg (by show ¬(op<1∨34<op);omega),if_neg (by show ¬op=1;omega),if_neg (by show ¬op=2;omega),if_pos ho]
 unfold vB at *
 simp only [decide_eq_true_eq] at *
 omega
theorem opp_bd {op:Int} (h:4<=op/\op<=9):(4<=opp op/\opp op<=9)/\opp op≠op:=by
 unfold opp
 split <;> omega
def Pic (its:List It) (lg:List Bool) (r:List Int) (k:Nat):Prop:=
 let x:=its.getD k it0
 let a:=plN its lg k
 (x.kind=2/\plN its lg (k+1)=a)∨(x.kind=1/\plN its lg (k+1)=a+1/\r[a]? = some (eR x.ins)/\eV x.ins=true) ∨
 (∃rd far:Int,(x.kind=4∨x.kind=5)/\plN its lg (k+1)=a+1/\r[a]? = some (eR ⟨2,rd,0,0,far⟩)/\eV ⟨2,rd,0,0,far⟩=true/\4*(a:Int)+far=4*(plN its lg (tgt its k):Int) /\ -80000<=far/\far<=80000) ∨
 (∃far:Int,x.kind=3/\plN its lg (k+1)=a+1/\r[a]? = some (eR ⟨x.ins.op,x.ins.rd,x.ins.s1,x.ins.s2,far⟩)/\eV ⟨x.ins.op,x.ins.rd,x.ins.s1,x.ins.s2,far⟩=true/\4*(a:Int)+far=4*(plN its lg (tgt its k):Int) /\ -80000<=far/\far<=80000) ∨
 (∃op far:Int,x.kind=3/\plN its lg (k+1)=a+2/\r[a]? = some (eR ⟨op,x.ins.rd,x.ins.s1,x.ins.s2,8⟩)/\op≠x.ins.op/\eV ⟨op,x.ins.rd,x.ins.s1,x.ins.s2,8⟩=true/\r[a+1]? = some (eR ⟨2,0,0,0,far⟩)/\eV ⟨2,0,0,0,far⟩=true/\4*((a:Int)+1)+far=4*(plN its lg (tgt its k):Int) /\ -80004<=far/\far<=80000)
theorem pc_any {its:List It} {lg:List Bool} (hF:Fin its lg) (hG:goodAl its) (hL:Linked its) (hn:plN its lg its.length<=20000) {k:Nat} (hk:k<its.length):Pic its lg (codeK its lg its.length) k:=by
 have hg:=hG k hk
 have h5:=(good_kind hg).2
 obtain ⟨f1,f2,f3,f4⟩:=far_bd hL hn hk
 have hx:lg.getD k false=true->(its.getD k it0).kind=3:=hF.kind
 have hw : ∀j u,(wds (its.getD k it0) (farN its lg k) (lg.getD k false))[j]? = some u->(codeK its lg its.length)[plN its lg k+j]? = some u:=fun j u h=>codeK_at hF hG hk (Nat.le_refl _) h
 have hre:=hF.reach hk
 unfold Pic
 dsimp only
 simp only [plN]
 generalize farN its lg k=far at *
 generalize lg.getD k false=l at *
 generalize its.getD k it0=x at *
 generalize plN its lg k=a at *
 rcases h5 with h | h | h | h | h
 ·have hl:l=false:=by cases l;rfl;have:=hx rfl;omega
  subst hl
  refine .inr (.inl ⟨h,by simp [szB,h],hw 0 _ (by simp [wds,h]),good_ins hg h⟩)
 ·exact .inl ⟨h,by simp [szB,h]⟩
 ·obtain ⟨b1,b2,b3⟩:=good_br hg h
  cases l
  ·obtain ⟨r1,r2⟩:=hre h rfl
   refine .inr (.inr (.inr (.inl ⟨far,h,by simp [szB,h],hw 0 _ (by simp [wds,h]),eV_br b1 b3 _ _ b1 ⟨r1,r2⟩ (by omega),f4,f1,f2⟩)))
  ·obtain ⟨o1,o2⟩:=opp_bd b1
   refine .inr (.inr (.inr (.inr ⟨opp x.ins.op,far-4,h,by simp [szB,h],hw 0 _ (by simp [wds,h]),o2,eV_br b1 b3 _ _ o1 (by omega) (by omega),hw 1 _ (by simp [wds,h]),eV_jal _ _ (.inl rfl) (by omega) (by omega),by omega,by omega,by omega⟩)))
 ·have hl:l=false:=by cases l;rfl;have:=hx rfl;omega
  subst hl
  exact .inr (.inr (.inl ⟨0,far,.inl h,by simp [szB,h],hw 0 _ (by simp [wds,h]),eV_jal _ _ (.inl rfl) (by omega) (by omega),f4,f1,f2⟩))
 ·have hl:l=false:=by cases l;rfl;have:=hx rfl;omega
  subst hl
  exact .inr (.inr (.inl ⟨1,far,.inr h,by simp [szB,h],hw 0 _ (by simp [wds,h]),eV_jal _ _ (.inr rfl) (by omega) (by omega),f4,f1,f2⟩))
def refs (its:List It) (lg:List Bool):Nat->List (Int × Int)
 | 0=>[]
 | k+1=>refs its lg k++(if 3<=(its.getD k it0).kind then [((its.getD k it0).label,4*(plN its lg (tgt its k):Int))] else [])
theorem refs_len (its:List It) (lg:List Bool) : ∀k,(refs its lg k).length<=k
 | 0=>by simp [refs]
 | k+1=>by
  have:=refs_len its lg k
  simp only [refs,l_a]
  split <;> simp <;> omega
def Lab (its:List It) (lg:List Bool) (L:List Int) (i:Nat):Prop:=∀p,p<i->(its.getD p it0).kind=2->(its.getD p it0).label<60000->L[(its.getD p it0).label.toNat]? = some (4*(plN its lg p:Int))
theorem one_pos_of {its:List It} (hL:Linked its) {p q:Nat} (hp:p<its.length) (hq:q<its.length) (kp:(its.getD p it0).kind=2) (kq:(its.getD q it0).kind=2) (h:(its.getD p it0).label=(its.getD q it0).label):p=q:=by
 have h1:=hL p hp (by omega)
 have mp:p∈posL its (its.getD p it0).label:=mem_posL hp (by unfold isL;exact decide_eq_true ⟨kp,rfl⟩)
 have mq:q∈posL its (its.getD p it0).label:=mem_posL hq (by unfold isL;exact decide_eq_true ⟨kq,h.symm⟩)
 obtain ⟨z,hz⟩:=List.length_eq_one_iff.1 h1
 rw [hz] at mp mq
 simp at mp mq
 omega
theorem Lab.set {its:List It} {lg:List Bool} {L:List Int} {i:Nat} (hL:Linked its) (hG:goodAl its) (h:Lab its lg L i) (hi:i<its.length) (k2:(its.getD i it0).kind=2) (hl:(its.getD i it0).label.toNat<L.length):Lab its lg (L.set (its.getD i it0).label.toNat (4*(plN its lg i:Int))) (i+1):=by
 intro p hp kp lp
 by_cases e:p=i
 ·subst e
  rw [List.getElem?_set_self hl]
 ·have hne:(its.getD i it0).label.toNat≠(its.getD p it0).label.toNat:=fun hh=>by
   have g1:=(good_kind (hG i hi)).1
   have g2:=(good_kind (hG p (by omega))).1
   exact e (one_pos_of hL (by omega) hi kp k2 (by omega))
  rw [List.getElem?_set_ne hne]
  exact h p (by omega) kp lp
theorem Lab.next {its:List It} {lg:List Bool} {L:List Int} {i:Nat} (h:Lab its lg L i) (hk:(its.getD i it0).kind≠2∨60000<=(its.getD i it0).label):Lab its lg L (i+1):=by
 intro p hp kp lp
 by_cases e:p=i
 ·subst e;omega
 ·exact h p (by omega) kp lp
theorem refs_ok {its:List It} {lg:List Bool} {L:List Int} (hL:Linked its) (hG:goodAl its) (h:Lab its lg L its.length) : ∀k,k<=its.length->∀y∈refs its lg k,0<=y.1/\(y.1<60000->L[y.1.toNat]? = some y.2)
 | 0,_,y,hy=>by simp [refs] at hy
 | k+1,hk,y,hy=>by
  simp only [refs,List.mem_append] at hy
  rcases hy with hy | hy
  ·exact refs_ok hL hG h k (by omega) y hy
  ·by_cases h3:3<=(its.getD k it0).kind
   ·rw [if_pos h3,List.mem_singleton] at hy
    subst hy
    refine ⟨(good_kind (hG k (by omega))).1,fun hl => ?_⟩
    have h1:=hL k (by omega) (by omega)
    obtain ⟨z,hz⟩:=List.length_eq_one_iff.1 h1
    have ht:tgt its k=z:=by unfold tgt;rw [if_neg (by omega),hz];rfl
    have hm:z∈posL its (its.getD k it0).label:=by rw [hz];simp
    obtain ⟨m1,m2⟩:=posL_mem hm
    simp only [isL,decide_eq_true_eq] at m2
    have:=h z m1 m2.1 (by rw [m2.2];exact hl)
    rw [m2.2] at this
    simp only [ht]
    exact this
   ·rw [if_neg h3] at hy
    simp at hy
end
section
open Go.RowKit
theorem shape_any (op : Int) (h : 1 ≤ op ∧ op ≤ 34) : ∃ s : Int, (s = 66 ↔ 4 ≤ op ∧ op ≤ 9) ∧ ∀ w : World, Calls Tryz.prog 43 #[.int .i64 op] w fun e w' => e = .returned (.int .u8 s) ∧ w' = w := by
 by_cases hB : 4 ≤ op ∧ op ≤ 9
 ·exact ⟨66, ⟨fun _ => hB, fun _ => rfl⟩, fun w => shapeB op w hB⟩
 by_cases hU : op = 1
 ·exact ⟨85, ⟨fun h => absurd h (by decide), fun h => absurd h hB⟩, fun w => shapeU op w hU⟩
 by_cases hJ : op = 2
 ·exact ⟨74, ⟨fun h => absurd h (by decide), fun h => absurd h hB⟩, fun w => shapeJ op w hJ⟩
 by_cases hS : op = 11
 ·exact ⟨83, ⟨fun h => absurd h (by decide), fun h => absurd h hB⟩, fun w => shapeS op w hS⟩
 by_cases hH : 18 ≤ op ∧ op ≤ 20
 ·exact ⟨72, ⟨fun h => absurd h (by decide), fun h => absurd h hB⟩, fun w => shapeH op w hH⟩
 by_cases hR : 21 ≤ op ∧ op ≤ 33
 ·exact ⟨82, ⟨fun h => absurd h (by decide), fun h => absurd h hB⟩, fun w => shapeR op w hR⟩
 by_cases hE : op = 34
 ·exact ⟨69, ⟨fun h => absurd h (by decide), fun h => absurd h hB⟩, fun w => shapeE op w hE⟩
 ·exact ⟨73, ⟨fun h => absurd h (by decide), fun h => absurd h hB⟩, fun w => shapeI op w (by omega)⟩
theorem zc (op rd s1 s2 im : Int) : (op = 0 ∧ rd = 0 ∧ s1 = 0 ∧ s2 = 0 ∧ im = 0) ∨ ¬ op = 0 ∨ ¬ rd = 0 ∨ ¬ s1 = 0 ∨ ¬ s2 = 0 ∨ ¬ im = 0 := by omega
set_option maxHeartbeats 4000000 in
theorem gz_yes (k lb : Int) (w : World) (hk : k = 2 ∨ k = 4 ∨ k = 5) (h : 0 ≤ lb) : Calls Tryz.prog 16 #[.agg #[.int .i64 k, .int .i64 0, .int .i64 0, .int .i64 0, .int .i64 0, .int .i64 0, .int .i64 lb]] w fun e w' => e = .returned (.bool true) ∧ Below w.heap.size w w' := by
 have hd : decide (0 ≤ lb) = true := decide_eq_true h
 rcases hk with rfl | rfl | rfl
 all_goals
  go_enter Tryz.func16, Tryz.ntmps16
  go_wp2_with fail
  go_ret
  exact ⟨rfl, (Below.refl _ _).alloc (Nat.le_refl _) _⟩
set_option maxHeartbeats 4000000 in
theorem gz_no (k op rd s1 s2 im lb : Int) (w : World) (hk : k = 2 ∨ k = 4 ∨ k = 5) (hz : ¬ (op = 0 ∧ rd = 0 ∧ s1 = 0 ∧ s2 = 0 ∧ im = 0)) : Calls Tryz.prog 16 #[.agg #[.int .i64 k, .int .i64 op, .int .i64 rd, .int .i64 s1, .int .i64 s2, .int .i64 im, .int .i64 lb]] w fun e w' => e = .returned (.bool false) ∧ Below w.heap.size w w' := by
 have hc : ¬ op = 0 ∨ ¬ rd = 0 ∨ ¬ s1 = 0 ∨ ¬ s2 = 0 ∨ ¬ im = 0 := by omega
 clear hz
 rcases hk with rfl | rfl | rfl <;> rcases hc with hc | hc | hc | hc | hc
 all_goals
  go_enter Tryz.func16, Tryz.ntmps16
  go_wp2_with fail
  go_ret
  exact ⟨rfl, (Below.refl _ _).alloc (Nat.le_refl _) _⟩
set_option maxHeartbeats 4000000 in
theorem gz_neg (k lb : Int) (w : World) (hk : k = 2 ∨ k = 4 ∨ k = 5) (h : lb < 0) : Calls Tryz.prog 16 #[.agg #[.int .i64 k, .int .i64 0, .int .i64 0, .int .i64 0, .int .i64 0, .int .i64 0, .int .i64 lb]] w fun e w' => e = .returned (.bool false) ∧ Below w.heap.size w w' := by
 have hd : decide (0 ≤ lb) = false := decide_eq_false (by omega)
 rcases hk with rfl | rfl | rfl
 all_goals
  go_enter Tryz.func16, Tryz.ntmps16
  go_wp2_with fail
  go_ret
  exact ⟨rfl, (Below.refl _ _).alloc (Nat.le_refl _) _⟩
set_option maxHeartbeats 4000000 in
theorem gelse (k op rd s1 s2 im lb : Int) (w : World) (h1 : ¬ k = 1) (h2 : ¬ k = 2) (h3 : ¬ k = 3) (h4 : ¬ k = 4) (h5 : ¬ k = 5) : Calls Tryz.prog 16 #[.agg #[.int .i64 k, .int .i64 op, .int .i64 rd, .int .i64 s1, .int .i64 s2, .int .i64 im, .int .i64 lb]] w fun e w' => e = .returned (.bool false) ∧ Below w.heap.size w w' := by
 rcases zc op rd s1 s2 im with ⟨rfl, rfl, rfl, rfl, rfl⟩ | hz | hz | hz | hz | hz
 all_goals
  go_enter Tryz.func16, Tryz.ntmps16
  go_wp2_with fail
  go_ret
  exact ⟨rfl, (Below.refl _ _).alloc (Nat.le_refl _) _⟩
set_option maxHeartbeats 4000000 in
theorem gbad (k op rd s1 s2 im lb : Int) (w : World) (hk : k = 1 ∨ k = 3) (HV : Hid (∀ w : World, Calls Tryz.prog 42 #[.agg #[.int .i64 op, .int .i64 rd, .int .i64 s1, .int .i64 s2, .int .i64 im]] w fun e w' => e = .returned (.bool false) ∧ Below w.heap.size w w')) : Calls Tryz.prog 16 #[.agg #[.int .i64 k, .int .i64 op, .int .i64 rd, .int .i64 s1, .int .i64 s2, .int .i64 im, .int .i64 lb]] w fun e w' => e = .returned (.bool false) ∧ Below w.heap.size w w' := by
 rcases hk with rfl | rfl <;> rcases zc op rd s1 s2 im with ⟨rfl, rfl, rfl, rfl, rfl⟩ | hz | hz | hz | hz | hz
 all_goals
  go_enter Tryz.func16, Tryz.ntmps16
  go_wp2_with fail
  refine (HV.out _).mono ?_
  rintro e w1 ⟨rfl, hb1⟩
  simp only [World.size_alloc] at hb1
  have hB1 := one_belowA hb1
  go_wp2_with fail
  go_ret
  exact ⟨rfl, hB1⟩
set_option maxRecDepth 100000 in
set_option maxHeartbeats 4000000 in
theorem gitem_any (it : It) (w : World) : Calls Tryz.prog 16 #[itv it] w fun e w' => e = .returned (.bool (goodI it)) ∧ Below w.heap.size w w' := by
 obtain ⟨k, x, lb⟩ := it
 have HV : Hid (∀ w : World, Calls Tryz.prog 42 #[.agg #[.int .i64 x.op, .int .i64 x.rd, .int .i64 x.s1, .int .i64 x.s2, .int .i64 x.im]] w fun e w' => e = .returned (.bool (eV x)) ∧ Below w.heap.size w w') := fun w => vldS_any x w
 by_cases h1 : k = 1
 ·subst h1
  have hg : goodI ⟨1, x, lb⟩ = (eV x && decide (lb = 0)) := by
   unfold goodI
   by_cases hn : lb < 0
   ·rw [if_pos hn, decide_eq_false (by omega)]; simp
   ·rw [if_neg hn, if_pos rfl]
  rw [hg]
  show Calls _ _ #[.agg #[.int .i64 1, .int .i64 x.op, .int .i64 x.rd, .int .i64 x.s1, .int .i64 x.s2, .int .i64 x.im, .int .i64 lb]] _ _
  cases hb : eV x
  ·rw [hb] at HV
   rw [show (false && decide (lb = 0)) = false by simp]
   exact gbad 1 x.op x.rd x.s1 x.s2 x.im lb w (.inl rfl) HV
  have hop := eV_op hb
  rw [hb] at HV
  obtain ⟨op, rd, s1, s2, im⟩ := x
  simp only at HV hop ⊢
  have hz : ¬ op = 0 := by omega
  clear hop hb hg
  by_cases h0 : lb = 0
  ·subst h0
   go_enter Tryz.func16, Tryz.ntmps16
   go_wp2_with fail
   refine (HV.out _).mono ?_
   rintro e w1 ⟨rfl, hb1⟩
   simp only [World.size_alloc] at hb1
   have hB1 := one_belowA hb1
   obtain ⟨-, -, -, -, -, -, c6⟩ := box7 hb1
   go_wp2_with fail
   go_ret
   exact ⟨rfl, hB1⟩
  ·have HD : Hid (decide (lb = 0) = false) := decide_eq_false h0
   have hl' : (lb == 0) = false := by simpa using h0
   go_enter Tryz.func16, Tryz.ntmps16
   go_wp2_with fail
   refine (HV.out _).mono ?_
   rintro e w1 ⟨rfl, hb1⟩
   simp only [World.size_alloc] at hb1
   have hB1 := one_belowA hb1
   obtain ⟨-, -, -, -, -, -, c6⟩ := box7 hb1
   go_wp2_with fail
   go_ret
   exact ⟨ret_boolA (by rw [HD.out]; rfl), hB1⟩
 by_cases h3 : k = 3
 ·subst h3
  have hg : goodI ⟨3, x, lb⟩ = (eV x && decide (4 ≤ x.op ∧ x.op ≤ 9) && decide (x.im = 0) && decide (0 ≤ lb)) := by
   unfold goodI
   by_cases hn : lb < 0
   ·rw [if_pos hn, decide_eq_false (p := 0 ≤ lb) (by omega)]; simp
   ·rw [if_neg hn, if_neg (show ¬ (3 : Int) = 1 by decide), if_pos rfl, decide_eq_true (p := 0 ≤ lb) (by omega)]
    simp only [Bool.and_true]
    cases eV x <;> simp
  rw [hg]
  show Calls _ _ #[.agg #[.int .i64 3, .int .i64 x.op, .int .i64 x.rd, .int .i64 x.s1, .int .i64 x.s2, .int .i64 x.im, .int .i64 lb]] _ _
  cases hb : eV x
  ·rw [show (false && decide (4 ≤ x.op ∧ x.op ≤ 9) && decide (x.im = 0) && decide (0 ≤ lb)) = false by simp]
   rw [hb] at HV
   exact gbad 3 x.op x.rd x.s1 x.s2 x.im lb w (.inr rfl) HV
  ·obtain ⟨sh, hs1, hs2⟩ := shape_any x.op (eV_op hb)
   have HSh : Hid (∀ w : World, Calls Tryz.prog 43 #[.int .i64 x.op] w fun e w' => e = .returned (.int .u8 sh) ∧ w' = w) := hs2
   have hop := eV_op hb
   rw [hb] at HV
   obtain ⟨op, rd, s1, s2, im⟩ := x
   simp only at HV HSh hs1 hop ⊢
   have hz : ¬ op = 0 := by omega
   clear hb hg hs2 hop
   by_cases h66 : sh = 66
   ·have ho := hs1.1 h66
    subst h66
    have HD : Hid ((true && decide (4 ≤ op ∧ op ≤ 9) && decide (im = 0) && decide (0 ≤ lb)) = (decide (im = 0) && decide (0 ≤ lb))) := by show _ = _; rw [decide_eq_true ho]; simp
    clear hs1 ho
    by_cases him : im = 0
    ·subst him
     by_cases hlb : 0 ≤ lb
     ·have hd : decide (0 ≤ lb) = true := decide_eq_true hlb
      have HE : Hid ((decide ((0 : Int) = 0) && decide (0 ≤ lb)) = true) := by show _ = _; rw [hd]; rfl
      go_enter Tryz.func16, Tryz.ntmps16
      go_wp2_with fail
      refine (HV.out _).mono ?_
      rintro e w1 ⟨rfl, hb1⟩
      simp only [World.size_alloc] at hb1
      have hB1 := one_belowA hb1
      obtain ⟨-, c1, -, -, -, c5, c6⟩ := box7 hb1
      go_wp2_with fail
      refine (HSh.out _).mono ?_
      rintro e w2 ⟨rfl, rfl⟩
      go_wp2_with fail
      go_ret
      exact ⟨ret_boolA (by rw [HD.out, HE.out]), hB1⟩
     ·have hd : decide (0 ≤ lb) = false := decide_eq_false hlb
      have HE : Hid ((decide ((0 : Int) = 0) && decide (0 ≤ lb)) = false) := by show _ = _; rw [hd]; simp
      go_enter Tryz.func16, Tryz.ntmps16
      go_wp2_with fail
      refine (HV.out _).mono ?_
      rintro e w1 ⟨rfl, hb1⟩
      simp only [World.size_alloc] at hb1
      have hB1 := one_belowA hb1
      obtain ⟨-, c1, -, -, -, c5, c6⟩ := box7 hb1
      go_wp2_with fail
      refine (HSh.out _).mono ?_
      rintro e w2 ⟨rfl, rfl⟩
      go_wp2_with fail
      go_ret
      exact ⟨ret_boolA (by rw [HD.out, HE.out]), hB1⟩
    ·have HE : Hid ((decide (im = 0) && decide (0 ≤ lb)) = false) := by show _ = _; rw [decide_eq_false him]; rfl
     have hi' : (im == 0) = false := by simpa using him
     go_enter Tryz.func16, Tryz.ntmps16
     go_wp2_with fail
     refine (HV.out _).mono ?_
     rintro e w1 ⟨rfl, hb1⟩
     simp only [World.size_alloc] at hb1
     have hB1 := one_belowA hb1
     obtain ⟨-, c1, -, -, -, c5, c6⟩ := box7 hb1
     go_wp2_with fail
     refine (HSh.out _).mono ?_
     rintro e w2 ⟨rfl, rfl⟩
     go_wp2_with fail
     go_ret
     exact ⟨ret_boolA (by rw [HD.out, HE.out]), hB1⟩
   ·have HD : Hid ((true && decide (4 ≤ op ∧ op ≤ 9) && decide (im = 0) && decide (0 ≤ lb)) = false) := by show _ = _; rw [decide_eq_false (fun h => h66 (hs1.2 h))]; simp
    have hs' : (sh == 66) = false := by simpa using h66
    clear hs1
    go_enter Tryz.func16, Tryz.ntmps16
    go_wp2_with fail
    refine (HV.out _).mono ?_
    rintro e w1 ⟨rfl, hb1⟩
    simp only [World.size_alloc] at hb1
    have hB1 := one_belowA hb1
    obtain ⟨-, c1, -, -, -, c5, c6⟩ := box7 hb1
    go_wp2_with fail
    refine (HSh.out _).mono ?_
    rintro e w2 ⟨rfl, rfl⟩
    go_wp2_with fail
    go_ret
    exact ⟨ret_boolA (by rw [HD.out]), hB1⟩
 by_cases h2 : k = 2 ∨ k = 4 ∨ k = 5
 ·by_cases hz : x.op = 0 ∧ x.rd = 0 ∧ x.s1 = 0 ∧ x.s2 = 0 ∧ x.im = 0
  ·by_cases hn : lb < 0
   ·rw [show goodI ⟨k, x, lb⟩ = false from if_pos hn]
    obtain ⟨e1, e2, e3, e4, e5⟩ := hz
    show Calls _ _ #[.agg #[.int .i64 k, .int .i64 x.op, .int .i64 x.rd, .int .i64 x.s1, .int .i64 x.s2, .int .i64 x.im, .int .i64 lb]] _ _
    rw [e1, e2, e3, e4, e5]
    exact gz_neg k lb w h2 hn
   ·have hg : goodI ⟨k, x, lb⟩ = true := by
     unfold goodI
     rw [if_neg hn, if_neg h1, if_neg h3, if_pos h2]
     exact decide_eq_true hz
    rw [hg]
    obtain ⟨e1, e2, e3, e4, e5⟩ := hz
    show Calls _ _ #[.agg #[.int .i64 k, .int .i64 x.op, .int .i64 x.rd, .int .i64 x.s1, .int .i64 x.s2, .int .i64 x.im, .int .i64 lb]] _ _
    rw [e1, e2, e3, e4, e5]
    exact gz_yes k lb w h2 (by omega)
  ·have hg : goodI ⟨k, x, lb⟩ = false := by
    unfold goodI
    by_cases hn : lb < 0
    ·rw [if_pos hn]
    ·rw [if_neg hn, if_neg h1, if_neg h3, if_pos h2]
     exact decide_eq_false hz
   rw [hg]
   exact gz_no k x.op x.rd x.s1 x.s2 x.im lb w h2 hz
 ·have hg : goodI ⟨k, x, lb⟩ = false := by
   unfold goodI
   by_cases hn : lb < 0
   ·rw [if_pos hn]
   ·rw [if_neg hn, if_neg h1, if_neg h3, if_neg h2]
  rw [hg]
  exact gelse k x.op x.rd x.s1 x.s2 x.im lb w h1 (fun h => h2 (.inl h)) h3 (fun h => h2 (.inr (.inl h))) (fun h => h2 (.inr (.inr h)))
end
section
open Go.RowKit
def findZ (its : List It) (lab : Int) : Int := match posL its lab with
 | [] => -1
 | [k] => (k : Int)
 | _ => -2
theorem findZ_nil {its : List It} {lab : Int} (h : posL its lab = []) : findZ its lab = -1 := by unfold findZ; rw [h]
theorem findZ_one {its : List It} {lab : Int} {k : Nat} (h : posL its lab = [k]) : findZ its lab = k := by unfold findZ; rw [h]
theorem findZ_two {its : List It} {lab : Int} (h : 2 ≤ (posL its lab).length) : findZ its lab = -2 := by
 unfold findZ
 match e : posL its lab with
 | [] => rw [e] at h; simp at h
 | [k] => rw [e] at h; simp at h
 | a :: b :: r => rfl
theorem le_one {l : List Nat} (h : l.length ≤ 1) : l = [] ∨ ∃ k, l = [k] := by
 match l, h with
 | [], _ => exact .inl rfl
 | [k], _ => exact .inr ⟨k, rfl⟩
theorem ret_intA {k : IntKind} {a b : Int} (h : a = b) : Ending.returned (.int k a) = .returned (.int k b) := by rw [h]
set_option maxHeartbeats 4000000 in
theorem find_any (its : List It) (v : Value) (lab : Int) (w : World) (hl : its.length ≤ 20000) (hv : Items w v its) :
  Calls Tryz.prog 44 #[v, .int .i64 lab] w fun e w' => e = .returned (.int .i64 (findZ its lab)) ∧ w' = w := by
 obtain ⟨a, cap, rfl, -, -, hc⟩ := hv
 have HC : Hid (0 < its.length → ∃ b off, a = some ⟨b, off, none⟩ ∧ ItemsC w b off its) := hc
 clear hc
 go_enter Tryz.func44, Tryz.ntmps44
 go_wp2_with fail
 go_loopw [5, 6] (fun o i wr => ∃ k : Nat, k ≤ its.length ∧ i = .int .i64 k ∧ (posL (its.take k) lab).length ≤ 1 ∧ o = .int .i64 (findZ (its.take k) lab) ∧ wr = w) (fun _ i _ => its.length - (RowKit.intOf i).toNat)
 case atStart => exact ⟨0, Nat.zero_le _, rfl, by simp [posL], rfl, rfl⟩
 case round =>
  obtain ⟨k, hk, rfl, h1, rfl, rfl⟩ := hrel
  by_cases hlt : k < its.length
  ·obtain ⟨b, off, rfl, hC⟩ := HC.out (by omega)
   obtain ⟨c0, -, -, -, -, -, c6⟩ := hC k hlt
   have HTk : Hid (its.take (k + 1) = its.take k ++ [its[k]]) := by
    show _ = _
    rw [List.take_add_one, List.getElem?_eq_getElem hlt]; rfl
   have hTl : (its.take k).length = k := by simp; omega
   clear hC
   generalize its[k] = x at c0 c6 HTk
   by_cases hx : x.kind = 2 ∧ x.label = lab
   ·have hil : isL x lab = true := decide_eq_true hx
    have HP : Hid (posL (its.take (k + 1)) lab = posL (its.take k) lab ++ [k]) := by show _ = _; rw [HTk.out, posL_snoc, hil, hTl]; rfl
    rw [hx.1] at c0
    rw [hx.2] at c6
    rcases le_one h1 with hp | ⟨q, hp⟩
    ·have HF : Hid (findZ (its.take (k + 1)) lab = k ∧ (posL (its.take (k + 1)) lab).length ≤ 1) := by
      have : posL (its.take (k + 1)) lab = [k] := by rw [HP.out, hp]; rfl
      exact ⟨findZ_one this, by rw [this]; simp⟩
     rw [findZ_nil hp]
     clear hp hil hx h1 hTl
     go_wp2_with fail
     go_roundw
     case rel => exact ⟨k + 1, by omega, by go_num, HF.out.2, by rw [HF.out.1], by first | rfl | trivial⟩
     case measure => simp [RowKit.intOf]; omega
    ·have HF : Hid (findZ its lab = -2) := by
      refine findZ_two ?_
      have h2 := posL_take_le its (k + 1) lab
      rw [HP.out, hp] at h2
      simpa using h2
     rw [findZ_one hp]
     clear hp hil hx h1 hTl
     go_wp2_with fail
     go_ret
     exact ⟨ret_intA HF.out.symm, rfl⟩
   ·have hil : isL x lab = false := decide_eq_false hx
    have HP : Hid (posL (its.take (k + 1)) lab = posL (its.take k) lab) := by show _ = _; rw [HTk.out, posL_snoc, hil]; simp
    have HF : Hid (findZ (its.take (k + 1)) lab = findZ (its.take k) lab ∧ (posL (its.take (k + 1)) lab).length ≤ 1) := ⟨by unfold findZ; rw [HP.out], by rw [HP.out]; exact h1⟩
    generalize findZ (its.take k) lab = z at HF ⊢
    generalize x.kind = kd at c0 hx
    generalize x.label = lb at c6 hx
    clear hil h1 hTl
    by_cases hk2 : kd = 2
    ·have hlb : (lb == lab) = false := by
      have : ¬ lb = lab := fun h => hx ⟨hk2, h⟩
      simpa using this
     subst hk2
     clear hx
     go_wp2_with fail
     go_roundw
     case rel => exact ⟨k + 1, by omega, by go_num, HF.out.2, by rw [HF.out.1], by first | rfl | trivial⟩
     case measure => simp [RowKit.intOf]; omega
    ·have hkd : (kd == 2) = false := by simpa using hk2
     clear hx
     go_wp2_with fail
     go_roundw
     case rel => exact ⟨k + 1, by omega, by go_num, HF.out.2, by rw [HF.out.1], by first | rfl | trivial⟩
     case measure => simp [RowKit.intOf]; omega
  ·have HF : Hid (findZ (its.take k) lab = findZ its lab) := by show _ = _; rw [List.take_of_length_le (by omega)]
   generalize findZ (its.take k) lab = z at HF ⊢
   go_wp2_with fail
   go_ret
   exact ⟨ret_intA HF.out, rfl⟩
set_option maxHeartbeats 4000000 in
theorem words7_any (it : It) (far : Int) (l : Bool) (w : World) (hf : -1000000000 ≤ far ∧ far ≤ 1000000000) (ho : it.kind = 3 → 4 ≤ it.ins.op ∧ it.ins.op ≤ 9) :
  Calls Tryz.prog 21 #[itv it, .int .i64 far, .bool l] w fun e w' => ∃ v, e = .returned v ∧ USrc w' v (wds it far l) ∧ Below w.heap.size w w' := by
 obtain ⟨k, ⟨op, rd, s1, s2, im⟩, lb⟩ := it
 simp only at ho
 show Calls _ _ #[.agg #[.int .i64 k, .int .i64 op, .int .i64 rd, .int .i64 s1, .int .i64 s2, .int .i64 im, .int .i64 lb], .int .i64 far, .bool l] _ _
 have hA : Below w.heap.size w (w.alloc (.cells #[.int .i64 k, .int .i64 op, .int .i64 rd, .int .i64 s1, .int .i64 s2, .int .i64 im, .int .i64 lb] 31)) := (Below.refl _ _).alloc (Nat.le_refl _) _
 have enc : ∀ (x : Ins) (w : World), Calls Tryz.prog 23 #[.agg #[.int .i64 x.op, .int .i64 x.rd, .int .i64 x.s1, .int .i64 x.s2, .int .i64 x.im]] w fun e w' => e = .returned (.int .u32 (eR x)) ∧ Below w.heap.size w w' := fun x w => encS_any x w
 by_cases h1 : k = 1
 ·subst h1
  have HW : Hid (wds ⟨1, ⟨op, rd, s1, s2, im⟩, lb⟩ far l = [eR ⟨op, rd, s1, s2, im⟩]) := rfl
  have HEn : Hid _ := enc ⟨op, rd, s1, s2, im⟩
  generalize eR ⟨op, rd, s1, s2, im⟩ = R at HEn HW
  clear enc
  go_enter Tryz.func21, Tryz.ntmps21
  go_wp2_with fail
  refine (HEn.out _).mono ?_
  rintro e w1 ⟨rfl, hb1⟩
  have hB1 := hA.trans (hb1.mono (by simp))
  go_wp2_with fail
  go_ret
  exact ⟨_, rfl, by rw [HW.out]; exact usrc_1 w1 R _, hB1.alloc hB1.size _⟩
 by_cases h4 : k = 4
 ·subst h4
  have HW : Hid (wds ⟨4, ⟨op, rd, s1, s2, im⟩, lb⟩ far l = [eR ⟨2, 0, 0, 0, far⟩]) := rfl
  have HEn : Hid _ := enc ⟨2, 0, 0, 0, far⟩
  generalize eR ⟨2, 0, 0, 0, far⟩ = R at HEn HW
  clear enc
  go_enter Tryz.func21, Tryz.ntmps21
  go_wp2_with fail
  refine (HEn.out _).mono ?_
  rintro e w1 ⟨rfl, hb1⟩
  have hB1 := hA.trans (hb1.mono (by simp))
  go_wp2_with fail
  go_ret
  exact ⟨_, rfl, by rw [HW.out]; exact usrc_1 w1 R _, hB1.alloc hB1.size _⟩
 by_cases h5 : k = 5
 ·subst h5
  have HW : Hid (wds ⟨5, ⟨op, rd, s1, s2, im⟩, lb⟩ far l = [eR ⟨2, 1, 0, 0, far⟩]) := rfl
  have HEn : Hid _ := enc ⟨2, 1, 0, 0, far⟩
  generalize eR ⟨2, 1, 0, 0, far⟩ = R at HEn HW
  clear enc
  go_enter Tryz.func21, Tryz.ntmps21
  go_wp2_with fail
  refine (HEn.out _).mono ?_
  rintro e w1 ⟨rfl, hb1⟩
  have hB1 := hA.trans (hb1.mono (by simp))
  go_wp2_with fail
  go_ret
  exact ⟨_, rfl, by rw [HW.out]; exact usrc_1 w1 R _, hB1.alloc hB1.size _⟩
 by_cases h3 : k = 3
 ·subst h3
  cases l
  ·have HW : Hid (wds ⟨3, ⟨op, rd, s1, s2, im⟩, lb⟩ far false = [eR ⟨op, rd, s1, s2, far⟩]) := rfl
   have HEn : Hid _ := enc ⟨op, rd, s1, s2, far⟩
   generalize eR ⟨op, rd, s1, s2, far⟩ = R at HEn HW
   clear enc ho
   go_enter Tryz.func21, Tryz.ntmps21
   go_wp2_with fail
   refine (HEn.out _).mono ?_
   rintro e w1 ⟨rfl, hb1⟩
   have hB1 := (hA.alloc (by simp) (.cells #[.int .i64 op, .int .i64 rd, .int .i64 s1, .int .i64 s2, .int .i64 far] 29)).trans (hb1.mono (by simp; omega))
   go_wp2_with fail
   go_ret
   exact ⟨_, rfl, by rw [HW.out]; exact usrc_1 w1 R _, hB1.alloc hB1.size _⟩
  ·have HW : Hid (wds ⟨3, ⟨op, rd, s1, s2, im⟩, lb⟩ far true = [eR ⟨opp op, rd, s1, s2, 8⟩, eR ⟨2, 0, 0, 0, far - 4⟩]) := rfl
   have HEn : Hid _ := enc ⟨opp op, rd, s1, s2, 8⟩
   have HEn2 : Hid _ := enc ⟨2, 0, 0, 0, far - 4⟩
   generalize eR ⟨opp op, rd, s1, s2, 8⟩ = R at HEn HW
   generalize eR ⟨2, 0, 0, 0, far - 4⟩ = R2 at HEn2 HW
   simp only at HEn HEn2
   have ho' := ho rfl
   have hcs : op = 4 ∨ op = 5 ∨ op = 6 ∨ op = 7 ∨ op = 8 ∨ op = 9 := by omega
   clear enc ho ho'
   rcases hcs with rfl | rfl | rfl | rfl | rfl | rfl
   all_goals
    go_enter Tryz.func21, Tryz.ntmps21
    go_wp2_with fail
    refine (HEn.out _).mono ?_
    rintro e w1 ⟨rfl, hb1⟩
    have hB1 := ((hA.alloc (by simp) _).alloc (by simp; omega) _).trans (hb1.mono (by simp; omega))
    go_wp2_with fail
    refine (HEn2.out _).mono ?_
    rintro e w2 ⟨rfl, hb2⟩
    have hB2 := hB1.trans (hb2.mono hB1.size)
    go_wp2_with fail
    go_ret
    exact ⟨_, rfl, by rw [HW.out]; exact usrc_2 w2 R R2 _, hB2.alloc hB2.size _⟩
 ·have HW : Hid (wds ⟨k, ⟨op, rd, s1, s2, im⟩, lb⟩ far l = []) := by
   show _ = _
   unfold wds
   rw [if_neg h1, if_neg h3, if_neg h4, if_neg h5]
  clear enc ho
  go_enter Tryz.func21, Tryz.ntmps21
  go_wp2_with fail
  go_ret
  exact ⟨_, rfl, by rw [HW.out]; exact ⟨_, _, rfl, fun _ => rfl, fun ad _ j u hj => by simp at hj⟩, hA.alloc (by simp) _⟩
end
end Go.Proofs.YtpdndlghjldhjaaGreat
