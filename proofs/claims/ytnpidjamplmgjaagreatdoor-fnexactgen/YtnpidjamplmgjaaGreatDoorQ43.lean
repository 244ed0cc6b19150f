import Derived.Test.YtnpidjamplmgjaaGreatDoorQ42
import Derived.Deep.RegionHeld3
import Derived.Deep.RegionHeld
import Derived.Deep.Cut
set_option linter.unusedSectionVars false
variable [Inhabited Go.Proofs.YtnpidjamplmgjaaGreatDoor.Pick]
namespace Go.Proofs.YtnpidjamplmgjaaGreatDoor
open Go.RowKit
set_option linter.unusedVariables false
set_option linter.unusedSimpArgs false
set_option maxRecDepth 100000
set_option maxHeartbeats 16000000
theorem genI_any (t:Tr) (vg vf:Value) (w:World) (hT:Tab w) (hTg:TabG w) (hs:smallT t) (hw:wfT t) (hg:Globs w vg t.globals) (hf:Funcs w vf t.funcs) :
  Calls Tryz.prog 7 #[.agg #[vg,vf]] w fun e w'=>∃v,e = .returned v/\GRow w.heap.size w' v (genE t)/\Below w.heap.size w w':=by
 have HGb:=hide hg
 have HFu:Hid (Funcs w vf t.funcs):=hf
 obtain ⟨ag,cg,rfl,-⟩:=hg
 obtain ⟨af,cf,rfl,hf1,hf2,hfc⟩:=hf
 have HFC:=hide hfc
 have hszT:=hT.size
 have HTab:=hide hT
 have HTg:=hide hTg
 obtain ⟨W2,hW2⟩ : ∃W2,W2=w.alloc (.cells #[.slice ag t.globals.length cg,.slice af t.funcs.length cf] 32):=⟨_,rfl⟩
 have hb2:Bl w W2:=by rw [hW2];exact (Below.refl _ _).alloc (Nat.le_refl _) _
 have hs2:W2.heap.size=w.heap.size+1:=by rw [hW2];simp
 have e0:W2.cell? ⟨w.heap.size,0,none⟩=some (.slice ag t.globals.length cg):=by rw [hW2];simp
 have e1:W2.cell? ⟨w.heap.size,1,none⟩=some (.slice af t.funcs.length cf):=by rw [hW2];simp
 have HBd:=hide (boundI_any t _ _ W2 (hT.below hT.size hb2) hs hw (HGb.out.below hb2) (HFu.out.below hb2))
 have HW2:=hide hW2
 have HWf:Hid (wfT t):=hw
 clear hW2 hs hw hT hTg hfc
 go_enter Tryz.func7,Tryz.ntmps7
 go_wp2_with fail
 rw [<-HW2.out]
 refine HBd.out.mono ?_
 rintro x w3 ⟨rfl,hb3⟩
 have hb3w:Bl w w3:=hb2.trans (hb3.mono o_)
 clear HBd
 by_cases hbd:boundE t<0
 ·have HE:Hid (genE t = []):=by show _=_;unfold genE;rw [if_pos hbd]
  generalize boundE t=bz at hbd ⊢
  go_wp2_with fail
  refine bodyPost_ret (v:=.slice (some ⟨w3.heap.size,0,none⟩) 0 0) (by simp [results,Tryz.results7,go_sem]) rfl ⟨_,rfl,?_,hb3w.alloc hb3w.size _⟩
  rw [HE.out]
  exact World.ownsRow_lit w3 #[] 0 hb3w.size (by decide) rfl
 ·obtain ⟨hck,hfz⟩:=bound_ok hbd
  obtain ⟨hfl,hfo⟩:=frOk hck HWf.out
  obtain ⟨hgl,hfl5,hgz,hfn⟩:=fnOkG (sound_nodup hck).1
  obtain ⟨m,hm,hmlt,-⟩:=sound_main hck
  have HKn:=hide (sound_kn hck)
  have HE:Hid (genE t=(codeT t t.funcs.length t.funcs.length).1):=by show _=_;unfold genE;rw [if_neg hbd]
  have HFz:=hide hfz
  have HFo:=hide hfo
  have HGz:=hide hgz
  have HFn:=hide hfn
  have HCT:Hid (∀k,codeT t (k+1) t.funcs.length=((codeT t k t.funcs.length).1++(codeF t k (t.funcs.getD k ⟨⟨#[]⟩,[],[]⟩) (codeT t k t.funcs.length).2).1,(codeF t k (t.funcs.getD k ⟨⟨#[]⟩,[],[]⟩) (codeT t k t.funcs.length).2).2)):=fun k=>rfl
  have HBdT:Hid (∀k,k<=t.funcs.length->(codeT t k t.funcs.length).1.length<=3+60100*k/\(t.funcs.length:Int)<=(codeT t k t.funcs.length).2/\(codeT t k t.funcs.length).2<=t.funcs.length+5100*k):=fun k hk=>codeT_bd hfn k _ hk
  have HC0:Hid (codeT t 0 t.funcs.length=([markI 5 (fnumG t.funcs mainS),insI 12 17 0 0 10,insI 34 0 0 0 0],(t.funcs.length:Int))):=rfl
  have x0:=(hb3.cell (p:=⟨w.heap.size,0,none⟩) (by simp;omega)).trans e0
  have x1:=(hb3.cell (p:=⟨w.heap.size,1,none⟩) (by simp;omega)).trans e1
  have HM:=hide hm
  have HAd:=hide (addresses_any t.globals _ w3 (HGb.out.below hb3w) hgl hgz (sound_globs hck) (fun g hg=>by have:=HWf.out.1.2 g hg;unfold maxLen;exact this))
  clear hck hfz hfo hgz hfn hm e0 e1
  generalize boundE t=bz at hbd ⊢
  go_wp2_with fail
  refine HAd.out.mono ?_
  rintro x w4 ⟨ba,z4,rfl,hb4,hba,hmo⟩
  have HMa:=hide hmo
  have hs3:w.heap.size+1<=w3.heap.size:=by have:=hb3.size;omega
  have hs4:w3.heap.size<=w4.heap.size:=hb4.size
  have hb4w:Bl w w4:=hb3w.trans (hb4.mono hb3w.size)
  have y0:w4.cell? ⟨w.heap.size,0,none⟩=some (.slice ag t.globals.length cg):=(hb4.cell (p:=⟨w.heap.size,0,none⟩) (by simp;omega)).trans x0
  have y1:w4.cell? ⟨w.heap.size,1,none⟩=some (.slice af t.funcs.length cf):=(hb4.cell (p:=⟨w.heap.size,1,none⟩) (by simp;omega)).trans x1
  have HY:Hid (∀W,Bl w4 W->W.cell? ⟨w.heap.size,0,none⟩=some (.slice ag t.globals.length cg)/\W.cell? ⟨w.heap.size,1,none⟩=some (.slice af t.funcs.length cf)):=fun W hW=>⟨(hW.cell (p:=⟨w.heap.size,0,none⟩) (by simp;omega)).trans y0,(hW.cell (p:=⟨w.heap.size,1,none⟩) (by simp;omega)).trans y1⟩
  have HFnm:Hid (∀W,Bl w4 W->Calls Tryz.prog 24 #[.agg #[.slice ag t.globals.length cg,.slice af t.funcs.length cf]] W fun e w'=>∃b D,e = .returned (.map (some b))/\W.heap.size<=b/\w'.ownsMap Tryz.prog 9 (plainElem (H:=Unit) Tryz.prog 2) b t.funcs.length D/\NumIs D t.funcs/\Bl W w'):=fun W hW=>fnums_any t.funcs _ _ W o_ HWf.out.2 (HFu.out.below (hb4w.trans (hW.mono hb4w.size)))
  have HD1:Hid (Bl w4 w4.drew):=(Below.refl _ _).drew
  have HD2:Hid (∀o,Bl w4 (w4.alloc o).drew):=fun o=>((Below.refl _ _).alloc (Nat.le_refl _) o).drew
  have HQ3:Hid (∀wn,Below (w4.alloc (.cells #[.map none,.int .i64 0,.int .i64 0,.map none,.map none,.slice none 0 0,.int .i64 0,.int .i64 0] 59)).drew.heap.size (w4.alloc (.cells #[.map none,.int .i64 0,.int .i64 0,.map none,.map none,.slice none 0 0,.int .i64 0,.int .i64 0] 59)).drew wn->wn.cell? ⟨w4.heap.size,0,none⟩=some (.map none)/\wn.cell? ⟨w4.heap.size,1,none⟩=some (.int .i64 0)/\wn.cell? ⟨w4.heap.size,2,none⟩=some (.int .i64 0)/\wn.cell? ⟨w4.heap.size,3,none⟩=some (.map none)/\wn.cell? ⟨w4.heap.size,4,none⟩=some (.map none)/\wn.cell? ⟨w4.heap.size,5,none⟩=some (.slice none 0 0)/\wn.cell? ⟨w4.heap.size,6,none⟩=some (.int .i64 0)/\wn.cell? ⟨w4.heap.size,7,none⟩=some (.int .i64 0)/\∀o,wn.frozen? ⟨w4.heap.size,o,none⟩=false):=fun wn h=>by
   have hl:w4.heap.size<(w4.alloc (.cells #[.map none,.int .i64 0,.int .i64 0,.map none,.map none,.slice none 0 0,.int .i64 0,.int .i64 0] 59)).drew.heap.size:=by simp
   refine ⟨?_,?_,?_,?_,?_,?_,?_,?_,fun o => ?_⟩
   all_goals first | (rw [h.frozen (p:=⟨w4.heap.size,o,none⟩) hl];exact World.frozen?_alloc_at _ _ _ _ rfl) | (rw [h.cell (by exact hl)];simp)
  clear x0 x1 hmo HAd y0 y1
  go_upto_region 4 with fail
  go_cut [5] from 18 (fun g W=>∃P bm,g = .pointer (some ⟨P,0,none⟩)/\w4.heap.size<=P/\Em 70 5 8 P W [] (cI (.map none) 0 0 (.map (some bm)) (.map (some ba)) (t.funcs.length:Int) 0)/\MmS P bm t W/\Bl w4 W)
  case first=>
   have y0:=(HY.out _ HD1.out).1
   have y1:=(HY.out _ HD1.out).2
   have k2 : ∀o,(w4.alloc o).drew.cell? ⟨w.heap.size,0,none⟩=some (.slice ag t.globals.length cg)/\(w4.alloc o).drew.cell? ⟨w.heap.size,1,none⟩=some (.slice af t.funcs.length cf):=fun o=>HY.out _ (HD2.out o)
   have hne : ¬w.heap.size=w4.heap.size:=by omega
   have hne2 : ¬w4.heap.size=w.heap.size:=by omega
   go_region_held (fun W=>W.cell? ⟨w.heap.size,0,none⟩=some (.slice ag t.globals.length cg)/\W.cell? ⟨w.heap.size,1,none⟩=some (.slice af t.funcs.length cf)) (first | (with_reducible exact k2 _) | (with_reducible exact qa _) | go_keep)
    (first
    | ((with_reducible refine Calls.mono (HFnm.out _ HD1.out) ?_);intro x wn hx;obtain ⟨bm,D,hxe,hbm,hom,hnu,hbn⟩:=hx;subst hxe;have q:=HY.out wn (HD1.out.trans (hbn.mono (by simp)));have qa : ∀o,(wn.alloc o).cell? ⟨w.heap.size,0,none⟩=some (.slice ag t.globals.length cg)/\(wn.alloc o).cell? ⟨w.heap.size,1,none⟩=some (.slice af t.funcs.length cf):=fun o=>HY.out (wn.alloc o) ((HD1.out.trans (hbn.mono (by simp))).alloc (HD1.out.trans (hbn.mono (by simp))).size o))
    | ((with_reducible refine Calls.mono (HFnm.out _ (HD2.out _)) ?_);intro x wn hx;obtain ⟨bm,D,hxe,hbm,hom,hnu,hbn⟩:=hx;subst hxe;have q:=HY.out wn ((HD2.out _).trans (hbn.mono (by simp)));have b3:=HQ3.out wn hbn;obtain ⟨b0,b1,b2,b3,b4,b5,b6,b7,bf⟩:=b3))
   all_goals (go_wp2_with fail)
   all_goals go_meet
   ·have hbw:Bl w4 wn:=HD1.out.trans (hbn.mono (by simp))
    have hlt:=hom.lt
    refine ⟨wn.heap.size,bm,rfl,hbw.size,em_nil (by simp) (fun o=>World.frozen?_alloc_at _ _ _ _ rfl) (by simp) (by simp) (by simp) (by simp) (by simp) (by simp) (by simp) (by simp),mms_of hom hnu o_ ?_ (by simp),hbw.alloc hbw.size _⟩
    exact ((Below.refl wn.heap.size wn).alloc (Nat.le_refl _) _).block bm hlt
   ·have hbw:Bl w4 wn:=(HD2.out _).trans (hbn.mono (by simp))
    have hbm':w4.heap.size+1<=bm:=by simpa using hbm
    have hlw:w4.heap.size<wn.heap.size:=by have:=hbn.size;simp at this;omega
    obtain ⟨z0,z1,z2,z3,z4',z5,z6,z7⟩:=box8_set (u0:=.map none) (u1:=.int .i64 0) (u2:=.int .i64 0) (u3:=.map (some bm)) (u4:=.map (some ba)) (u5:=.slice none 0 0) (u6:=.int .i64 (t.funcs.length:Int)) (u7:=.int .i64 0) rfl b0 b1 b2 b3 b4 b5 b6 b7
    have k8:=chain8_kept (B:=w4.heap.size) (v:=w4) (w:=wn) (P:=w4.heap.size) (u0:=.map none) (u1:=.int .i64 0) (u2:=.int .i64 0) (u3:=.map (some bm)) (u4:=.map (some ba)) (u5:=.slice none 0 0) (u6:=.int .i64 (t.funcs.length:Int)) (u7:=.int .i64 0) rfl
    exact ⟨w4.heap.size,bm,rfl,Nat.le_refl _,em_nil (by simpa using hlw) (fun o=>(k8.1 o).trans (bf o)) z0 z1 z2 z3 z4' z5 z6 z7,mms_of hom hnu o_ (k8.2.1 _ o_) z5,k8.2.2 hbw (Nat.le_refl _)⟩
  case rest=>
   obtain ⟨P,bm,rfl,hPle,hem,hmm,hb5⟩:=hcut
   have HES5:=hide hem
   have HMm5:=hide hmm
   have hlk:(Instr.lookup 52 (.map (some bm)) (.string ⟨#[109,97,105,110]⟩) false).run Tryz.prog wc = .ok (.int .i64 (fnumG t.funcs mainS)) wc:=hmm.num (s:=mainS) (by decide) HM.out
   have p3:wc.cell? ⟨P,3,none⟩=some (.map (some bm)):=hem.oth 3 (by decide) (by decide)
   have HBw:Hid (∀W,Wq 5 P wc W->Bl w4 W):=fun W h=>h.bel5 hb5 hPle (fun k hk=>(hem.rlt5 hk).1)
   clear hem hmm hb5 HD1 HD2 HQ3 HFnm
   generalize hmz:fnumG t.funcs mainS=mz at hlk HC0
   go_wp2_with fail
   refine (markE_any P [] _ 5 mz wc HES5.out (by simp)).mono ?_
   rintro x w6 ⟨⟨u6,rfl⟩,he6,hq6⟩
   have HE6:=hide he6
   have HQ6:=hide hq6
   clear he6 hq6 p3 hlk
   go_wp2_with fail
   refine (systemE P _ _ 10 w6 HE6.out (by simp) o_).mono ?_
   rintro x w8 ⟨⟨u8,rfl⟩,he8,hq8⟩
   have HQ8:Hid (Wq 5 P wc w8):=HQ6.out.trans hq8
   have HB8:Hid (Bl w4 w8):=HBw.out w8 HQ8.out
   have HMm8:Hid (MmS P bm t w8):=HMm5.out.wq HQ8.out
   have HE8:Hid (Em 70 5 8 P w8 (codeT t 0 t.funcs.length).1 (cI (.map none) 0 0 (.map (some bm)) (.map (some ba)) (codeT t 0 t.funcs.length).2 0)):=by
    show Em _ _ _ _ _ _ _
    rw [HC0.out]
    exact he8
   have q1:=(HY.out w8 HB8.out).2
   clear he8 hq8 HQ8 HQ6 HE6 HES5 HMm5 hmz
   go_wp2_with fail
   clear q1
   go_loopw [33] (fun i wr=>∃(k:Nat) (vo:Value) (pl sz en:Int),k<=t.funcs.length/\i = .int .i64 k/\Em 70 5 8 P wr (codeT t k t.funcs.length).1 (cI vo pl sz (.map (some bm)) (.map (some ba)) (codeT t k t.funcs.length).2 en)/\MmS P bm t wr/\Bl w4 wr) (fun i _=>t.funcs.length-(RowKit.intOf i).toNat)
   case atStart=>exact ⟨0,_,_,_,_,Nat.zero_le _,rfl,HE8.out,HMm8.out,HB8.out⟩
   case round=>
    clear HE8 HMm8 HB8
    obtain ⟨k,vo,pl,sz,en,hk,rfl,hes,hmm,hbk⟩:=hrel
    have HEs:=hide hes
    have HMm:=hide hmm
    clear hes hmm
    by_cases hlt:k<t.funcs.length
    ·have hmem:t.funcs[k]∈t.funcs:=List.getElem_mem hlt
     have hfk:=HFn.out _ hmem
     obtain ⟨b1,b2,b3⟩:=HBdT.out k hk
     have hszk:=hfk.sz
     obtain ⟨b,off,rfl,hc⟩:=HFC.out o_
     obtain ⟨vp,vb,⟨d0,d1,d2⟩,hp,hb⟩:=(hc.below hb4w) k hlt
     have hbl:=World.block_lt_of_cell? _ _ d0
     have c0:=(hbk.cell (p:=⟨b,off+k*3,none⟩) hbl).trans d0
     have c1:=(hbk.cell (p:=⟨b,off+k*3+1,none⟩) hbl).trans d1
     have c2:=(hbk.cell (p:=⟨b,off+k*3+2,none⟩) hbl).trans d2
     have hT4:=HTab.out.below hszT hb4w
     have hTg4:=HTg.out.below hb4w
     have HFun:Hid (∀W,Bl wr W->Calls Tryz.prog 27 #[.pointer (some ⟨P,0,none⟩),.int .i64 (k:Int),.agg #[.string t.funcs[k].name,vp,vb]] W fun x w'=>(∃u,x = .returned u)/\(∃vo' pl' sz' en',Em 70 5 8 P w' (codeT t (k+1) t.funcs.length).1 (cI vo' pl' sz' (.map (some bm)) (.map (some ba)) (codeT t (k+1) t.funcs.length).2 en'))/\Bl w4 w'/\MmS P bm t w'):=fun W hW=>by
      have h:=funI_any blockOf_any t w4 P bm ba hPle hT4 hTg4 ⟨World.block_lt_of_cell? _ _ (hTg4.reg 0 o_),World.block_lt_of_cell? _ _ (hTg4.bin 0 o_)⟩ HMa.out hgl HGz.out k o_ t.funcs[k] vp vb hp hb (HFo.out _ hmem) (fun s hs=>⟨(hfk.st s hs).b,(hfk.st s hs).e,(hfk.st s hs).f⟩) (HKn.out _ hmem) hfk.fit ⟨by have:=frameSz_nonneg (HFo.out _ hmem).st;omega,by have:=HFz.out _ hmem;omega⟩ hfk.pl hfk.bl W _ _ vo pl sz en (HEs.out.below hW) (hbk.trans (hW.mono hbk.size)) (HMm.out.wq (Wq.below HEs.out.lt hW)) o_ o_ o_
      rw [HCT.out k]
      have eg:t.funcs.getD k ⟨⟨#[]⟩,[],[]⟩=t.funcs[k]:=by
       rw [List.getD_eq_getElem?_getD,List.getElem?_eq_getElem hlt]
       rfl
      rw [eg]
      exact h
     obtain ⟨ap,cp,rfl,-⟩:=hp
     obtain ⟨ab,cb,rfl,-⟩:=hb
     clear b1 b2 b3 hfk HEs HMm hmem d0 d1 d2 hc hT4 hTg4
     generalize t.funcs[k].params.length=lp at c1 HFun
     generalize t.funcs[k].body.length=lb at c2 HFun
     generalize t.funcs[k].name=nm at c0 HFun
     have hA : ∀o,Bl wr (wr.alloc o):=fun o=>(Below.refl _ _).alloc (Nat.le_refl _) o
     go_wp2_with fail
     refine (HFun.out _ (hA _)).mono ?_
     rintro x w9 ⟨⟨u9,rfl⟩,⟨vo',pl',sz',en',he9⟩,hb9,hm9⟩
     have HE9:=hide he9
     have HM9:=hide hm9
     clear he9 hm9 HFun c0 c1 c2 hA
     go_wp2_with fail
     go_roundw
     case rel=>exact ⟨k+1,vo',pl',sz',en',by omega,by go_num,HE9.out,HM9.out,hb9⟩
     case measure=>simp [RowKit.intOf];omega
    ·obtain rfl:k=t.funcs.length:=by omega
     obtain ⟨vr,hvr,hrow⟩:=HEs.out.row
     obtain ⟨va,vnn,vc,rfl⟩ : ∃va vn vc,vr = .slice va vn vc:=by
      rcases hrow.2 with ⟨rfl,_⟩ | ⟨g,cap,cur,rfl,_⟩
      ·exact ⟨_,_,_,rfl⟩
      ·exact ⟨_,_,_,rfl⟩
     have HRow:Hid (GRow (P+1) wr (.slice va vnn vc) (codeT t t.funcs.length t.funcs.length).1):=hrow
     clear hrow HEs
     go_wp2_with fail
     refine bodyPost_ret (v:=.slice va vnn vc) (by simp [results,Tryz.results7,go_sem]) rfl ⟨_,rfl,?_,hb4w.trans (hbk.mono hb4w.size)⟩
     rw [HE.out]
     exact HRow.out.base o_
end Go.Proofs.YtnpidjamplmgjaaGreatDoor
