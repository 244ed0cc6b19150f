import Derived.Test.YtmddmgpijpjpbaaGreatDoorR38
import Derived.Deep.RegionHeld3
import Derived.Deep.QuietTactic
import Derived.BigQuiet
set_option linter.unusedSectionVars false
variable [Inhabited Go.Proofs.YtmddmgpijpjpbaaGreatDoor.Pick]
namespace Go.Proofs.YtmddmgpijpjpbaaGreatDoor
open Go.RowKit
set_option linter.unusedVariables false
set_option linter.unusedSimpArgs false
set_option maxRecDepth 100000
set_option maxHeartbeats 16000000
theorem two_boxC {w W1:World} {x0 x1:Value} (h:W1=(w.alloc (.cells #[x0,x1] 34)).alloc (.cells #[.int .i64 0,.int .i64 0,.int .i64 0] 49)) :
  ∀W,Below (w.heap.size+2) W1 W->(W.cell? ⟨w.heap.size,0,none⟩=some x0/\W.cell? ⟨w.heap.size,1,none⟩=some x1)/\(W.cell? ⟨w.heap.size+1,0,none⟩=some (.int .i64 0)/\W.cell? ⟨w.heap.size+1,1,none⟩=some (.int .i64 0)/\W.cell? ⟨w.heap.size+1,2,none⟩=some (.int .i64 0))/\(∀o,W.frozen? ⟨w.heap.size+1,o,none⟩=false)/\Below w.heap.size w W/\w.heap.size+2<=W.heap.size:=by
 intro W hW
 have hA:Bl w W1:=by rw [h];exact (bel_a _ _).alloc (by simp) _
 have hs:W1.heap.size=w.heap.size+2:=by rw [h];simp
 have c : ∀o,W.cell? ⟨w.heap.size+1,o,none⟩=(#[.int .i64 0,.int .i64 0,.int .i64 0]:Array Value)[o]? := fun o=>(hW.cell (p:=⟨w.heap.size+1,o,none⟩) (by simp)).trans (by rw [h];exact World.cell?_alloc_at _ _ _ _ (by simp))
 have d : ∀o,W.cell? ⟨w.heap.size,o,none⟩=(#[x0,x1]:Array Value)[o]? := fun o=>(hW.cell (p:=⟨w.heap.size,o,none⟩) (by simp)).trans (by rw [h,World.cell?_alloc_lt _ _ ⟨w.heap.size,o,none⟩ (by simp)];exact World.cell?_alloc_at _ _ _ _ rfl)
 refine ⟨⟨d 0,d 1⟩,⟨c 0,c 1,c 2⟩,fun o => ?_,hA.trans (hW.mono (by omega)),by have:=hW.size;omega⟩
 refine (hW.frozen (p:=⟨w.heap.size+1,o,none⟩) (by simp)).trans ?_
 rw [h]
 exact World.frozen?_alloc_at _ _ _ _ (by simp)
theorem l3names_any (t:Tr) (vg vf:Value) (w:World) (hgl:t.globals.length<=1000) (hfl:t.funcs.length<=1000) (hg:Globs w vg t.globals) (hf:Funcs w vf t.funcs) :
  Calls Tryz.prog 51 #[.agg #[vg,vf]] w fun e w'=>e = .returned (resV (namesE t))/\Below w.heap.size w w':=by
 obtain ⟨RES,hRES⟩ : ∃R,R=namesE t:=⟨_,rfl⟩
 rw [<-hRES]
 have HRES:=hide hRES
 have HF:Hid (Funcs w vf t.funcs):=hf
 obtain ⟨ag,cg,rfl,-,-,hgc⟩:=hg
 obtain ⟨af,cf,rfl,-,-,hfc⟩:=hf
 have HGC:=hide hgc
 have HFC:=hide hfc
 obtain ⟨i0,hi,hz0,hz1,hz2⟩:=info_parts info_str
 obtain ⟨W1,hW1⟩ : ∃W1,W1=(w.alloc (.cells #[.slice ag t.globals.length cg,.slice af t.funcs.length cf] 34)).alloc (.cells #[.int .i64 0,.int .i64 0,.int .i64 0] 49):=⟨_,rfl⟩
 have HBx:=hide (two_boxC hW1)
 have hs1:W1.heap.size=w.heap.size+2:=by rw [hW1];simp
 have HR0:Hid (SRow (w.heap.size+2) (W1.alloc (.cells #[] 9)) (.slice (some ⟨w.heap.size+1+1,0,none⟩) 0 0) []):=by
  have:=srow_lit W1 (w.heap.size+2) (by omega)
  rw [hs1] at this
  exact this
 have HB0:Hid (Below (w.heap.size+2) W1 (W1.alloc (.cells #[] 9))):=(Below.refl _ _).alloc (by omega) _
 clear hRES hgc hfc
 go_enter Tryz.func51,Tryz.ntmps51
 go_wp2_with fail
 rw [<-hW1]
 clear hW1 hs1
 go_loopw [3,4] (fun sv i wr=>∃(k:Nat),k<=t.globals.length/\i = .int .i64 k/\SRow (w.heap.size+2) wr sv ((t.globals.take k).map (·.name))/\dupG [] t.globals=dupG ((t.globals.take k).map (·.name)) (t.globals.drop k)/\Below (w.heap.size+2) W1 wr) (fun _ i _=>t.globals.length-(RowKit.intOf i).toNat)
 case atStart=>exact ⟨0,Nat.zero_le _,rfl,by simpa using HR0.out,by simp,HB0.out⟩
 case round=>
  clear HR0 HB0
  obtain ⟨k,hk,rfl,hR,hd,hB⟩:=hrel
  obtain ⟨a3,c3,rfl⟩:=hR.shape
  have HR:=hide hR
  have HD:=hide hd
  obtain ⟨⟨x0,x1⟩,⟨r0,r1,r2⟩,rz,hBw,hsz⟩:=HBx.out wr hB
  have z0:=rz 0
  have z1:=rz 1
  have z2:=rz 2
  have hle:((t.globals.take k).map (·.name)).length=k:=by simp;omega
  rw [hle] at HR ⊢
  clear hR hd rz
  by_cases hlt:k<t.globals.length
  ·obtain ⟨b,off,rfl,hc⟩:=HGC.out (by omega)
   obtain ⟨c0,-⟩:=(hc.below hBw) k hlt
   have hlb:b<wr.heap.size:=World.block_lt_of_cell? _ _ c0
   have HD2:Hid (dupG [] t.globals=dupG ((t.globals.take k).map (·.name)) (t.globals[k]::t.globals.drop (k+1))):=by show _=_;rw [HD.out,drop_cons_ _ _ hlt]
   have HTk:=hide (take_succ _ _ hlt)
   have HSt:=hide (HR.out.strs (by rw [hle];omega))
   clear hc HD
   generalize t.globals[k]=p at c0 HD2 HTk
   generalize hsn:(t.globals.take k).map (·.name)=seen at HR HD2 HSt hle
   have HSn:=hide hsn
   clear hsn
   have HIn:=hide (l3in_any _ _ p.name wr (by rw [hle];omega) HSt.out)
   go_wp2_with fail
   refine HIn.out.mono ?_
   rintro e w2 ⟨rfl,hb2⟩
   have hB2:Below (w.heap.size+2) W1 w2:=hB.trans (hb2.mono hsz)
   have d0:=(hb2.cell (p:=⟨b,off+k*2,none⟩) hlb).trans c0
   have HR2:Hid (SRow (w.heap.size+2) w2 (.slice a3 k c3) seen):=HR.out.below hb2
   clear x0 x1 r0 r1 r2 z0 z1 z2 c0 hB hBw hb2 HIn HSt HR
   obtain ⟨⟨x0,x1⟩,⟨r0,r1,r2⟩,rz,hBw,hsz2⟩:=HBx.out w2 hB2
   have z0:=rz 0
   have z1:=rz 1
   have z2:=rz 2
   clear rz
   cases hx:inS seen p.name with
   | true=>
    have HE:Hid (RES=(2,-1,-1)):=by
     show _=_
     rw [HRES.out]
     unfold namesE
     rw [if_pos (by rw [HD2.out];exact dupG_hit hx)]
    clear hx
    go_wp2_with fail
    obtain ⟨t0,t1,t2⟩:=set3 (u0:=.int .i64 2) (u1:=.int .i64 (-1)) (u2:=.int .i64 (-1)) r0 r1 r2
    refine bodyPost_ret (v:=.agg #[.int .i64 2,.int .i64 (-1),.int .i64 (-1)]) (by simp [results,Tryz.results51,go_sem,t0,t1,t2]) rfl ⟨ret_val (by rw [HE.out];rfl),?_⟩
    exact ((hBw.setCell (p:=⟨w.heap.size+1,0,none⟩) (by simp) _).setCell (p:=⟨w.heap.size+1,1,none⟩) (by simp) _).setCell (p:=⟨w.heap.size+1,2,none⟩) (by simp) _
   | false=>
    have HDn:Hid (dupG [] t.globals=dupG ((t.globals.take (k+1)).map (·.name)) (t.globals.drop (k+1))):=by show _=_;rw [HD2.out,dupG_step hx,HTk.out,<-HSn.out];simp
    have HNn:Hid (seen++[p.name]=(t.globals.take (k+1)).map (·.name)):=by show _=_;rw [HTk.out,<-HSn.out];simp
    clear hx
    go_wp2_with (at_builtin;refine wpList_appF rfl _ _ _ rfl (w.heap.size+2) 9 i0 _ 1 16 Tryz.underlying82 hi hz0 hz1 hz2 rfl (by decide) _ k (seen.map Value.string) rfl (by have:=HR2.out.below ((Below.refl _ _).alloc (Nat.le_refl _) (.cells #[.string p.name] 9));unfold SRow at this;rw [hle] at this;exact this) ⟨w2.heap.size,0,none⟩ 1 1 [.string p.name] rfl rfl (cell_one_new _ _ _) (by simp [Value.oneCell']) (by omega) (by decide) (by simp;omega) ?_)
    intro v9 w9 ho9 hg9 hf9
    have HR9:Hid (SRow (w.heap.size+2) w9 v9 ((t.globals.take (k+1)).map (·.name))):=by
     show World.ownsRow _ _ _ _ _ _ _
     rw [<-HNn.out,l_a,hle,List.map_append]
     exact ho9
    have hB9:Below (w.heap.size+2) W1 w9:=(hB2.alloc hsz2 _).grown hg9 (by simp;omega) (fun g hg=>(World.ownsRow.lt HR2.out g hg).1)
    obtain ⟨a9,c9,rfl⟩:=HR9.out.shape
    have hle9:((t.globals.take (k+1)).map (·.name)).length=k+1:=by simp;omega
    rw [hle9] at HR9 ⊢
    clear ho9 hg9 hf9 d0 x0 x1 r0 r1 r2 z0 z1 z2
    go_wp2_with fail
    go_roundw
    case rel=>exact ⟨k+1,by omega,by go_num,HR9.out,HDn.out,hB9⟩
    case measure=>simp [RowKit.intOf];omega
  ·have hkk:k=t.globals.length:=by omega
   subst hkk
   have HDG:Hid (dupG [] t.globals=false):=by show _=_;rw [HD.out];simp [dupG]
   have HRg:Hid (SRow (w.heap.size+2) wr (.slice a3 t.globals.length c3) (t.globals.map (·.name))):=by
    have:=HR.out
    rw [List.take_length] at this
    exact this
   clear HR HD hle r0 r1 r2 z0 z1 z2
   go_wp2_with fail
   clear x0 x1 hBw hsz
   go_loopw [3,5] (fun sv i w2=>∃(k:Nat),k<=t.funcs.length/\i = .int .i64 k/\SRow (w.heap.size+2) w2 sv (t.globals.map (·.name)++(t.funcs.take k).map (·.name))/\dupF (t.globals.map (·.name)) 0 t.funcs=dupF (t.globals.map (·.name)++(t.funcs.take k).map (·.name)) k (t.funcs.drop k)/\Below (w.heap.size+2) W1 w2) (fun _ i _=>t.funcs.length-(RowKit.intOf i).toNat)
   case atStart=>exact ⟨0,Nat.zero_le _,rfl,by simpa using HRg.out,by simp,hB⟩
   case round=>
    clear HRg hB
    obtain ⟨k,hk,rfl,hR,hd,hB⟩:=hrel
    obtain ⟨a3,c3,rfl⟩:=hR.shape
    have HR:=hide hR
    have HD:=hide hd
    obtain ⟨⟨x0,x1⟩,⟨r0,r1,r2⟩,rz,hBw,hsz⟩:=HBx.out wr hB
    have z0:=rz 0
    have z1:=rz 1
    have z2:=rz 2
    have hle:(t.globals.map (·.name)++(t.funcs.take k).map (·.name)).length=t.globals.length+k:=by simp;omega
    rw [hle] at HR ⊢
    clear hR hd rz
    by_cases hlt:k<t.funcs.length
    ·obtain ⟨b,off,rfl,hc⟩:=HFC.out (by omega)
     obtain ⟨vp,vb,⟨c0,-⟩,-⟩:=(hc.below hBw) k hlt
     have hlb:b<wr.heap.size:=World.block_lt_of_cell? _ _ c0
     have HD2:Hid (dupF (t.globals.map (·.name)) 0 t.funcs=dupF (t.globals.map (·.name)++(t.funcs.take k).map (·.name)) k (t.funcs[k]::t.funcs.drop (k+1))):=by show _=_;rw [HD.out,drop_cons_ _ _ hlt]
     have HTk:=hide (take_succ _ _ hlt)
     have HSt:=hide (HR.out.strs (by rw [hle];omega))
     clear hc HD
     generalize t.funcs[k]=p at c0 HD2 HTk
     generalize hsn:t.globals.map (·.name)++(t.funcs.take k).map (·.name)=seen at HR HD2 HSt hle
     have HSn:=hide hsn
     clear hsn
     have HIn:=hide (l3in_any _ _ p.name wr (by rw [hle];omega) HSt.out)
     go_wp2_with fail
     refine HIn.out.mono ?_
     rintro e w2 ⟨rfl,hb2⟩
     have hB2:Below (w.heap.size+2) W1 w2:=hB.trans (hb2.mono hsz)
     have d0:=(hb2.cell (p:=⟨b,off+k*3,none⟩) hlb).trans c0
     have HR2:=hide (HR.out.below hb2)
     clear x0 x1 r0 r1 r2 z0 z1 z2 c0 hB hBw hb2 HIn HSt HR
     obtain ⟨⟨x0,x1⟩,⟨r0,r1,r2⟩,rz,hBw,hsz2⟩:=HBx.out w2 hB2
     have z0:=rz 0
     have z1:=rz 1
     have z2:=rz 2
     clear rz
     cases hx:inS seen p.name with
     | true=>
      have HE:Hid (RES=(2,(k:Int),-1)):=by
       show _=_
       rw [HRES.out]
       unfold namesE
       rw [if_neg (by rw [HDG.out];simp),HD2.out,dupF_hit hx]
      clear hx
      go_wp2_with fail
      obtain ⟨t0,t1,t2⟩:=set3 (u0:=.int .i64 2) (u1:=.int .i64 (k:Int)) (u2:=.int .i64 (-1)) r0 r1 r2
      refine bodyPost_ret (v:=.agg #[.int .i64 2,.int .i64 (k:Int),.int .i64 (-1)]) (by simp [results,Tryz.results51,go_sem,t0,t1,t2]) rfl ⟨ret_val (by rw [HE.out];rfl),?_⟩
      exact ((hBw.setCell (p:=⟨w.heap.size+1,0,none⟩) (by simp) _).setCell (p:=⟨w.heap.size+1,1,none⟩) (by simp) _).setCell (p:=⟨w.heap.size+1,2,none⟩) (by simp) _
     | false=>
      have HNn:Hid (seen++[p.name]=t.globals.map (·.name)++(t.funcs.take (k+1)).map (·.name)):=by show _=_;rw [HTk.out,<-HSn.out];simp
      have HDn:Hid (dupF (t.globals.map (·.name)) 0 t.funcs=dupF (t.globals.map (·.name)++(t.funcs.take (k+1)).map (·.name)) ((k+1:Nat):Int) (t.funcs.drop (k+1))):=by show _=_;rw [HD2.out,dupF_step hx,HNn.out];simp
      clear hx
      go_wp2_with (at_builtin;refine wpList_appF rfl _ _ _ rfl (w.heap.size+2) 9 i0 _ 1 16 Tryz.underlying82 hi hz0 hz1 hz2 rfl (by decide) _ (t.globals.length+k) (seen.map Value.string) rfl (by have:=HR2.out.below ((Below.refl _ _).alloc (Nat.le_refl _) (.cells #[.string p.name] 9));unfold SRow at this;rw [hle] at this;exact this) ⟨w2.heap.size,0,none⟩ 1 1 [.string p.name] rfl rfl (cell_one_new _ _ _) (by simp [Value.oneCell']) (by omega) (by decide) (by simp;omega) ?_)
      intro v9 w9 ho9 hg9 hf9
      have HR9:Hid (SRow (w.heap.size+2) w9 v9 (t.globals.map (·.name)++(t.funcs.take (k+1)).map (·.name))):=by
       show World.ownsRow _ _ _ _ _ _ _
       rw [<-HNn.out,l_a,hle,List.map_append]
       exact ho9
      have hB9:Below (w.heap.size+2) W1 w9:=(hB2.alloc hsz2 _).grown hg9 (by simp;omega) (fun g hg=>(World.ownsRow.lt HR2.out g hg).1)
      obtain ⟨a9,c9,rfl⟩:=HR9.out.shape
      have hle9:(t.globals.map (·.name)++(t.funcs.take (k+1)).map (·.name)).length=t.globals.length+k+1:=by simp;omega
      rw [hle9] at HR9 ⊢
      clear ho9 hg9 hf9 d0 x0 x1 r0 r1 r2 z0 z1 z2
      go_wp2_with fail
      go_roundw
      case rel=>exact ⟨k+1,by omega,by go_num,HR9.out,HDn.out,hB9⟩
      case measure=>simp [RowKit.intOf];omega
    ·have HDF:Hid (dupF (t.globals.map (·.name)) 0 t.funcs=none):=by
      show _=_
      have hkk:k=t.funcs.length:=by omega
      rw [HD.out,hkk,List.drop_length];rfl
     have HRm:Hid (RES=match fnum t.funcs mainS with | none=>(3,-1,-1) | some m=>if (t.funcs.getD m ⟨⟨#[]⟩,[],[]⟩).params.length>0 then (3,-1,-1) else (0,-1,-1)):=by
      show _=_
      rw [HRES.out]
      unfold namesE
      rw [if_neg (by rw [HDG.out];simp),HDF.out]
      rfl
     have HFu:Hid (Calls Tryz.prog 26 #[.agg #[.slice ag t.globals.length cg,.slice af t.funcs.length cf],.string ⟨#[109,97,105,110]⟩] wr fun e w'=>e = .returned (.int .i64 (fnumI t.funcs mainS))/\Bl wr w'):=l3func_any t.funcs _ _ mainS wr (by omega) (HF.out.below hBw)
     clear HR HD hle r0 r1 r2 z0 z1 z2
     go_wp2_with fail
     refine HFu.out.mono ?_
     rintro e w2 ⟨rfl,hb2⟩
     have hB2:Below (w.heap.size+2) W1 w2:=hB.trans (hb2.mono hsz)
     clear x0 x1 hB hBw hb2 HFu hsz
     obtain ⟨⟨x0,x1⟩,⟨r0,r1,r2⟩,rz,hBw,hsz2⟩:=HBx.out w2 hB2
     have z0:=rz 0
     have z1:=rz 1
     have z2:=rz 2
     clear rz
     cases hm:fnum t.funcs mainS with
     | none=>
      have HE:Hid (RES=(3,-1,-1)):=by show _=_;rw [HRm.out,hm]
      rw [fnumI_none hm]
      clear hm HRm
      go_wp2_with fail
      obtain ⟨t0,t1,t2⟩:=set3 (u0:=.int .i64 3) (u1:=.int .i64 (-1)) (u2:=.int .i64 (-1)) r0 r1 r2
      refine bodyPost_ret (v:=.agg #[.int .i64 3,.int .i64 (-1),.int .i64 (-1)]) (by simp [results,Tryz.results51,go_sem,t0,t1,t2]) rfl ⟨ret_val (by rw [HE.out];rfl),?_⟩
      exact ((hBw.setCell (p:=⟨w.heap.size+1,0,none⟩) (by simp) _).setCell (p:=⟨w.heap.size+1,1,none⟩) (by simp) _).setCell (p:=⟨w.heap.size+1,2,none⟩) (by simp) _
     | some m=>
      have hml:=fnum_lt hm
      obtain ⟨b,off,rfl,hc⟩:=HFC.out (by omega)
      obtain ⟨vp,vb,⟨-,c1,-⟩,⟨ap,cp,rfl,-⟩,-⟩:=(hc.below hBw) m hml
      have he:t.funcs.getD m ⟨⟨#[]⟩,[],[]⟩=t.funcs[m]:=by simp [List.getD,hml]
      rw [fnumI_some hm]
      have HRm2:Hid (RES=if t.funcs[m].params.length>0 then (3,-1,-1) else (0,-1,-1)):=by show _=_;rw [HRm.out,hm];simp only;rw [he]
      clear hm HRm hc he
      generalize t.funcs[m].params.length=np at c1 HRm2
      by_cases hnp:0<np
      ·have HE:Hid (RES=(3,-1,-1)):=by show _=_;rw [HRm2.out,if_pos hnp]
       go_wp2_with fail
       obtain ⟨t0,t1,t2⟩:=set3 (u0:=.int .i64 3) (u1:=.int .i64 (-1)) (u2:=.int .i64 (-1)) r0 r1 r2
       refine bodyPost_ret (v:=.agg #[.int .i64 3,.int .i64 (-1),.int .i64 (-1)]) (by simp [results,Tryz.results51,go_sem,t0,t1,t2]) rfl ⟨ret_val (by rw [HE.out];rfl),?_⟩
       exact ((hBw.setCell (p:=⟨w.heap.size+1,0,none⟩) (by simp) _).setCell (p:=⟨w.heap.size+1,1,none⟩) (by simp) _).setCell (p:=⟨w.heap.size+1,2,none⟩) (by simp) _
      ·have HE:Hid (RES=(0,-1,-1)):=by show _=_;rw [HRm2.out,if_neg hnp]
       obtain rfl:np=0:=by omega
       go_wp2_with fail
       obtain ⟨t0,t1,t2⟩:=set3 (u0:=.int .i64 0) (u1:=.int .i64 (-1)) (u2:=.int .i64 (-1)) r0 r1 r2
       refine bodyPost_ret (v:=.agg #[.int .i64 0,.int .i64 (-1),.int .i64 (-1)]) (by simp [results,Tryz.results51,go_sem,t0,t1,t2]) rfl ⟨ret_val (by rw [HE.out];rfl),?_⟩
       exact ((hBw.setCell (p:=⟨w.heap.size+1,0,none⟩) (by simp) _).setCell (p:=⟨w.heap.size+1,1,none⟩) (by simp) _).setCell (p:=⟨w.heap.size+1,2,none⟩) (by simp) _
theorem Strs.headS {w:World} {a:Option Addr} {cap:Nat} {ss:List ByteArray} (h:Strs w (.slice a ss.length cap) ss) (k:Nat) (hk:k<=ss.length):Strs w (.slice a k cap) (ss.take k):=by
 obtain ⟨a',cap',he,hl,hm,h⟩:=h
 simp only [Value.slice.injEq,true_and] at he
 obtain ⟨rfl,rfl⟩:=he
 refine ⟨a,cap,by simp [Nat.min_eq_left hk],by simp;omega,hm,fun h0 => ?_⟩
 simp only [List.length_take] at h0
 obtain ⟨b,off,rfl,hc⟩:=h (by omega)
 refine ⟨b,off,rfl,fun j hj => ?_⟩
 simp only [List.length_take] at hj
 have:=hc j (by omega)
 rw [this]
 simp
theorem headS_run (a:Option Addr) (n cap k:Nat) (h2:k<=n) (h3:n<=cap) : ∀w:World,(Instr.slice 82 (.slice a n cap) none (some (.int .i64 (k:Int))) none).run Tryz.prog w = .ok (.slice a k cap) w:=by
 intro w
 have hz:Tryz.prog.elem 82=9:=by kernel_rfl
 have hs:(sizeOf 9).run Tryz.prog w = .ok 1 w:=by kernel_rfl
 rw [run_slice_h w 82 a n cap (by rw [hz];exact Tryz.underlying82) .i64 _ (by omega) (by omega),hz,hs]
 cases a <;> simp [Result.andThen,sliced,Addr.add]
theorem l3in_same (xs:List ByteArray) (v:Value) (s:ByteArray) (w:World) (hl:xs.length<=10000000) (hx:Strs w v xs) :
  Calls Tryz.prog 83 #[v,.string s] w fun e w'=>e = .returned (.bool (inS xs s))/\w'=w:=by
 obtain ⟨a,c,rfl,-,-,hc⟩:=hx
 have HC:=hide hc
 clear hc
 go_enter Tryz.func83,Tryz.ntmps83
 go_wp2_with fail
 go_loopw [5] (fun i wr=>∃k:Nat,k<=xs.length/\i = .int .i64 k/\(∀j (hj:j<xs.length),j<k->xs[j]≠s)/\wr=w) (fun i _=>xs.length-(RowKit.intOf i).toNat)
 case atStart=>exact ⟨0,Nat.zero_le _,rfl,fun j hj h=>absurd h (Nat.not_lt_zero _),rfl⟩
 case round=>
  obtain ⟨k,hk,rfl,hn,hB⟩:=hrel
  subst hB
  have HN:=hide hn
  clear hn
  by_cases hlt:k<xs.length
  ·obtain ⟨b,off,rfl,hc⟩:=HC.out (by omega)
   have d0:=hc k hlt
   by_cases hs:xs[k]=s
   ·have HR:Hid (inS xs s=true):=inS_at hlt hs
    rw [hs] at d0
    clear hc hs
    go_wp2_with fail
    go_ret
    exact ⟨ret_bool HR.out.symm,rfl⟩
   ·have HS:Hid (∀j (hj:j<xs.length),j<k+1->xs[j]≠s):=fun j hj h=>by
     by_cases e:j=k
     ·subst e;exact hs
     ·exact HN.out j hj (by omega)
    clear hc
    have hs':=ne_list hs
    generalize xs[k]=fn at d0 hs hs'
    go_wp2_with fail
    go_roundw
    case rel=>exact ⟨k+1,by omega,by go_num,HS.out,by first | trivial | rfl⟩
    case measure=>simp [RowKit.intOf];omega
  ·have HR:Hid (inS xs s=false):=inS_no (fun j hj=>HN.out j hj (by omega))
   go_wp2_with fail
   go_ret
   exact ⟨ret_bool HR.out.symm,rfl⟩
theorem l3body_any (HBl : ∀n,L3Block n) (t:Tr) (vg vf:Value) (i:Nat) (w:World) (hi:i<t.funcs.length) (hgl:t.globals.length<=1000) (hfl:t.funcs.length<=1000) (hok:FnOk t.funcs[i]) (hg:Globs w vg t.globals) (hf:Funcs w vf t.funcs) :
  Calls Tryz.prog 52 #[.agg #[vg,vf],.int .i64 (i:Int)] w fun e w'=>e = .returned (resV (bodyE t i t.funcs[i]))/\Below w.heap.size w w':=by
 have HBL:=hide HBl
 clear HBl
 obtain ⟨RES,hRES⟩ : ∃R,R=bodyE t i t.funcs[i]:=⟨_,rfl⟩
 rw [<-hRES]
 have HRES:=hide hRES
 have HTv:Hid (TrV w t vg vf):=⟨hg,hf⟩
 obtain ⟨ag,cg,rfl,-⟩:=hg
 obtain ⟨af,cf,rfl,-,-,hfc⟩:=hf
 obtain ⟨b,off,rfl,hc⟩:=hfc (by omega)
 obtain ⟨vp,vb,⟨c0,c1,c2⟩,hps,hbs⟩:=hc i hi
 have hlb:b<w.heap.size:=World.block_lt_of_cell? _ _ c0
 have HOk:=hide hok
 clear hRES hfc hc hok
 generalize t.funcs[i]=f at c0 c1 c2 hps hbs HOk HRES
 have HPs:=hide hps
 have HBs:=hide hbs
 obtain ⟨ap,cp,rfl,hpc1,hpc2,hpc⟩:=hps
 obtain ⟨ab,cb,rfl,-⟩:=hbs
 have HPC:=hide hpc
 have hpl:f.params.length<=1000:=HOk.out.2.2.2.2.1
 have hbl:f.body.length<=1000:=HOk.out.2.2.2.2.2
 clear hpc
 obtain ⟨W1,hW1⟩ : ∃W1,W1=(w.alloc (.cells #[.slice ag t.globals.length cg,.slice (some ⟨b,off,none⟩) t.funcs.length cf] 34)).alloc (.cells #[.int .i64 0,.int .i64 0,.int .i64 0] 49):=⟨_,rfl⟩
 have HBx:=two_boxC hW1
 obtain ⟨W2,hW2⟩ : ∃W2,W2=W1.alloc (.cells #[.string f.name,.slice ap f.params.length cp,.slice ab f.body.length cb] 85):=⟨_,rfl⟩
 have hs1:W1.heap.size=w.heap.size+2:=by rw [hW1];simp
 have hs2:W2.heap.size=w.heap.size+3:=by rw [hW2];simp [hs1]
 have HBy:Hid (∀W,Below (w.heap.size+3) W2 W->(W.cell? ⟨w.heap.size,0,none⟩=some (.slice ag t.globals.length cg)/\W.cell? ⟨w.heap.size,1,none⟩=some (.slice (some ⟨b,off,none⟩) t.funcs.length cf))/\(W.cell? ⟨w.heap.size+1,0,none⟩=some (.int .i64 0)/\W.cell? ⟨w.heap.size+1,1,none⟩=some (.int .i64 0)/\W.cell? ⟨w.heap.size+1,2,none⟩=some (.int .i64 0))/\(∀o,W.frozen? ⟨w.heap.size+1,o,none⟩=false)/\Bl w W/\w.heap.size+3<=W.heap.size/\(W.cell? ⟨w.heap.size+1+1,1,none⟩=some (.slice ap f.params.length cp)/\W.cell? ⟨w.heap.size+1+1,2,none⟩=some (.slice ab f.body.length cb))):=fun W hW=>by
  have h1:Below (w.heap.size+2) W1 W2:=by rw [hW2];exact (Below.refl _ _).alloc (by omega) _
  obtain ⟨q1,q2,q3,q4,q5⟩:=HBx W (h1.trans (hW.mono (by omega)))
  refine ⟨q1,q2,q3,q4,by have:=hW.size;omega,(hW.cell (p:=⟨w.heap.size+1+1,1,none⟩) (by simp)).trans ?_,(hW.cell (p:=⟨w.heap.size+1+1,2,none⟩) (by simp)).trans ?_⟩
  ·rw [hW2];exact (World.cell?_alloc_at _ _ _ _ (by omega)).trans rfl
  ·rw [hW2];exact (World.cell?_alloc_at _ _ _ _ (by omega)).trans rfl
 clear HBx
 go_enter Tryz.func52,Tryz.ntmps52
 go_wp2_with fail
 rw [<-hW1,<-hW2]
 clear hW1 hW2 hs1 c0 c1 c2 hlb
 go_loopw [6] (fun j wr=>∃(k:Nat),k<=f.params.length/\j = .int .i64 k/\dupP t.globals [] f.params=dupP t.globals (f.params.take k) (f.params.drop k)/\Below (w.heap.size+3) W2 wr) (fun j _=>f.params.length-(RowKit.intOf j).toNat)
 case atStart=>exact ⟨0,Nat.zero_le _,rfl,by simp,Below.refl _ _⟩
 case round=>
  clear hs2
  obtain ⟨k,hk,rfl,hd,hB⟩:=hrel
  have HD:=hide hd
  obtain ⟨⟨x0,x1⟩,⟨r0,r1,r2⟩,rz,hBw,hsz,y1,y2⟩:=HBy.out wr hB
  have z0:=rz 0
  have z1:=rz 1
  have z2:=rz 2
  clear hd rz
  by_cases hlt:k<f.params.length
  ·obtain ⟨bp,op,rfl,hcp⟩:=HPC.out (by omega)
   have d0:=(hBw.cell (p:=⟨bp,op+k,none⟩) (World.block_lt_of_cell? _ _ (hcp k hlt))).trans (hcp k hlt)
   have HD2:Hid (dupP t.globals [] f.params=dupP t.globals (f.params.take k) (f.params[k]::f.params.drop (k+1))):=by show _=_;rw [HD.out,drop_cons_ _ _ hlt]
   have HTk:=hide (take_succ _ _ hlt)
   have hrn:=headS_run (some ⟨bp,op,none⟩) f.params.length cp k (by omega) hpc1
   have hqb:bp<wr.heap.size:=World.block_lt_of_cell? _ _ d0
   have hq0:w.heap.size<wr.heap.size:=by omega
   have hq2:w.heap.size+1+1<wr.heap.size:=by omega
   clear hcp HD
   generalize f.params[k]=p at d0 HD2 HTk
   have hdr:Bl wr wr.drew:=(Below.refl _ _).drew
   have HIn:=hide (l3in_any _ _ p wr.drew (by simp;omega) ((HPs.out.below (hBw.drew)).headS k (by omega)))
   have HGb:Hid (Globs wr (.slice ag t.globals.length cg) t.globals):=HTv.out.g.below hBw
   cases hin:inS (f.params.take k) p with
   | true=>
    have HE:Hid (RES=(2,(i:Int),-1)):=by
     show _=_
     rw [HRES.out]
     unfold bodyE
     rw [if_pos (by rw [HD2.out];exact dupP_hit (.inl hin))]
    have HIs:Hid (∀n,Calls Tryz.prog 83 #[.slice (some ⟨bp,op,none⟩) k cp,.string p] (wr.drewN n) fun e w'=>e = .returned (.bool true)/\w'=wr.drewN n):=fun n=>by
     have:=l3in_same (f.params.take k) (.slice (some ⟨bp,op,none⟩) k cp) p (wr.drewN n) (by simp;omega) ((HPs.out.below (below_drewN hBw n)).headS k (by omega))
     rw [hin] at this
     exact this
    clear hin HIn
    have hi1:(0:Int)<=(k:Int):=by omega
    have hi2:(k:Int)<(f.params.length:Int):=by omega
    go_wp2_with fail
    go_quiet ((go_at_call 83;exact Calls.quiet_of_same (HIs.out _)))
    have hB2:Below (w.heap.size+3) W2 (wr.drewN nq):=below_drewN hB _
    clear x0 x1 y1 y2 r0 r1 r2 z0 z1 z2 hB hBw d0
    obtain ⟨-,⟨r0,r1,r2⟩,rz,hBw,-⟩:=HBy.out (wr.drewN nq) hB2
    have z0:=rz 0
    have z1:=rz 1
    have z2:=rz 2
    clear rz
    go_wp2_with fail
    obtain ⟨t0,t1,t2⟩:=set3 (u0:=.int .i64 2) (u1:=.int .i64 (i:Int)) (u2:=.int .i64 (-1)) r0 r1 r2
    refine bodyPost_ret (v:=.agg #[.int .i64 2,.int .i64 (i:Int),.int .i64 (-1)]) (by simp [results,Tryz.results52,go_sem,t0,t1,t2]) rfl ⟨ret_val (by rw [HE.out];rfl),?_⟩
    exact ((hBw.setCell (p:=⟨w.heap.size+1,0,none⟩) (by simp) _).setCell (p:=⟨w.heap.size+1,1,none⟩) (by simp) _).setCell (p:=⟨w.heap.size+1,2,none⟩) (by simp) _
   | false=>
    rw [hin] at HIn
    have HGl:Hid (∀W,Bl wr W->Calls Tryz.prog 84 #[.agg #[.slice ag t.globals.length cg,.slice (some ⟨b,off,none⟩) t.funcs.length cf],.string p] W fun e w'=>e = .returned (.int .i64 (globI t.globals p))/\Bl W w'):=fun W hW=>l3global_any t.globals _ _ p W (by omega) (HGb.out.below hW)
    have HQ1:Hid (0<=globI t.globals p->RES=(2,(i:Int),-1)):=fun h=>by
     rw [HRES.out]
     unfold bodyE
     rw [if_pos (by rw [HD2.out];exact dupP_hit (.inr h))]
    have HQ2:Hid (¬0<=globI t.globals p->dupP t.globals [] f.params=dupP t.globals (f.params.take (k+1)) (f.params.drop (k+1))):=fun h=>by
     rw [HD2.out,dupP_step (by rw [hin];simpa using h),HTk.out]
    clear hin
    generalize globI t.globals p=gi at HGl HQ1 HQ2
    obtain ⟨bg,hbg⟩ : ∃bg,decide (0<=gi)=bg:=⟨_,rfl⟩
    go_wp2_with fail
    go_region_held3 (fun W=>W.cell? ⟨w.heap.size,0,none⟩=some (.slice ag t.globals.length cg)/\W.cell? ⟨w.heap.size,1,none⟩=some (.slice (some ⟨b,off,none⟩) t.funcs.length cf)/\W.cell? ⟨w.heap.size+1+1,1,none⟩=some (.slice (some ⟨bp,op,none⟩) f.params.length cp)/\W.cell? ⟨bp,op+k,none⟩=some (.string p)) (go_simp)
     (first
     | ((with_reducible refine Calls.mono HIn.out ?_);rintro e w2 ⟨rfl,hb2⟩;have e0:w2.cell? ⟨w.heap.size,0,none⟩=some (.slice ag t.globals.length cg):=(hb2.cell (p:=⟨w.heap.size,0,none⟩) hq0).trans x0;have e1:w2.cell? ⟨w.heap.size,1,none⟩=some (.slice (some ⟨b,off,none⟩) t.funcs.length cf):=(hb2.cell (p:=⟨w.heap.size,1,none⟩) hq0).trans x1;have e2:w2.cell? ⟨w.heap.size+1+1,1,none⟩=some (.slice (some ⟨bp,op,none⟩) f.params.length cp):=(hb2.cell (p:=⟨w.heap.size+1+1,1,none⟩) hq2).trans y1;have e3:w2.cell? ⟨bp,op+k,none⟩=some (.string p):=(hb2.cell (p:=⟨bp,op+k,none⟩) hqb).trans d0;have hbw2:Bl wr w2:=hdr.trans hb2)
     | ((with_reducible refine Calls.mono (HGl.out _ hbw2) ?_);rintro e w3 ⟨rfl,hb3⟩;have hbw3:Bl wr w3:=hbw2.trans (hb3.mono hbw2.size);have g0:w3.cell? ⟨w.heap.size,0,none⟩=some (.slice ag t.globals.length cg):=(hbw3.cell (p:=⟨w.heap.size,0,none⟩) hq0).trans x0;have g1:w3.cell? ⟨w.heap.size,1,none⟩=some (.slice (some ⟨b,off,none⟩) t.funcs.length cf):=(hbw3.cell (p:=⟨w.heap.size,1,none⟩) hq0).trans x1;have g2:w3.cell? ⟨w.heap.size+1+1,1,none⟩=some (.slice (some ⟨bp,op,none⟩) f.params.length cp):=(hbw3.cell (p:=⟨w.heap.size+1+1,1,none⟩) hq2).trans y1;have g3:w3.cell? ⟨bp,op+k,none⟩=some (.string p):=(hbw3.cell (p:=⟨bp,op+k,none⟩) hqb).trans d0))
    have hB3:Below (w.heap.size+3) W2 w3:=hB.trans (hbw3.mono hsz)
    clear x0 x1 y1 y2 r0 r1 r2 z0 z1 z2 hB hBw d0
    obtain ⟨-,⟨r0,r1,r2⟩,rz,hBw,-⟩:=HBy.out w3 hB3
    have z0:=rz 0
    have z1:=rz 1
    have z2:=rz 2
    clear rz e0 e1 e2 e3 g0 g1 g2 g3
    by_cases hgi:0<=gi
    ·have HE:Hid (RES=(2,(i:Int),-1)):=HQ1.out hgi
     obtain rfl:bg=true:=hbg.symm.trans (decide_eq_true hgi)
     clear hbg
     go_wp2_with fail
     obtain ⟨t0,t1,t2⟩:=set3 (u0:=.int .i64 2) (u1:=.int .i64 (i:Int)) (u2:=.int .i64 (-1)) r0 r1 r2
     refine bodyPost_ret (v:=.agg #[.int .i64 2,.int .i64 (i:Int),.int .i64 (-1)]) (by simp [results,Tryz.results52,go_sem,t0,t1,t2]) rfl ⟨ret_val (by rw [HE.out];rfl),?_⟩
     exact ((hBw.setCell (p:=⟨w.heap.size+1,0,none⟩) (by simp) _).setCell (p:=⟨w.heap.size+1,1,none⟩) (by simp) _).setCell (p:=⟨w.heap.size+1,2,none⟩) (by simp) _
    ·have HDn:=hide (HQ2.out (by omega))
     obtain rfl:bg=false:=hbg.symm.trans (decide_eq_false hgi)
     clear hbg
     clear r0 r1 r2 z0 z1 z2
     go_wp2_with fail
     go_roundw
     case rel=>exact ⟨k+1,by omega,by go_num,HDn.out,hB3⟩
     case measure=>simp [RowKit.intOf];omega
  ·have hkk:k=f.params.length:=by omega
   have HD0:Hid (dupP t.globals [] f.params=false):=by show _=_;rw [HD.out,hkk,List.drop_length];rfl
   have HBk:Hid (Calls Tryz.prog 85 #[.agg #[.slice ag t.globals.length cg,.slice (some ⟨b,off,none⟩) t.funcs.length cf],.slice ab f.body.length cb,.int .i64 0,.slice ap f.params.length cp,.slice ap f.params.length cp] wr fun e w'=>∃vt',e = .returned (.tuple #[.int .i64 (blkE t f.body 0 f.params f.params).1,.int .i64 (blkE t f.body 0 f.params f.params).2.1,vt'])/\Strs w' vt' (blkE t f.body 0 f.params f.params).2.2/\Bl wr w'):=
    HBL.out f.body.length t _ _ _ _ _ f.body 0 f.params f.params wr (Nat.le_refl _) (HTv.out.below hBw) (HBs.out.below hBw) HOk.out.1 HOk.out.2.1 (HPs.out.below hBw) (HPs.out.below hBw) (by omega) (by omega) (by omega) (by omega) (by omega) (by omega)
   have HRn:Hid (RES=if (blkE t f.body 0 f.params f.params).1≠0 then ((blkE t f.body 0 f.params f.params).1,(i:Int),(blkE t f.body 0 f.params f.params).2.1) else (0,-1,-1)):=by
    show _=_
    rw [HRES.out]
    unfold bodyE
    rw [if_neg (by rw [HD0.out];simp)]
   clear HD r0 r1 r2 z0 z1 z2
   go_wp2_with fail
   refine HBk.out.mono ?_
   rintro e w2 ⟨vt,rfl,-,hb2⟩
   have hB2:Below (w.heap.size+3) W2 w2:=hB.trans (hb2.mono hsz)
   clear x0 x1 y1 y2 hB hBw hb2 HBk
   obtain ⟨-,⟨r0,r1,r2⟩,rz,hBw,-⟩:=HBy.out w2 hB2
   have z0:=rz 0
   have z1:=rz 1
   have z2:=rz 2
   clear rz
   generalize (blkE t f.body 0 f.params f.params).1=q1 at HRn ⊢
   generalize (blkE t f.body 0 f.params f.params).2.1=q2 at HRn ⊢
   by_cases hq:q1=0
   ·have HE:Hid (RES=(0,-1,-1)):=by show _=_;rw [HRn.out,if_neg (by simp [hq])]
    subst hq
    go_wp2_with fail
    obtain ⟨t0,t1,t2⟩:=set3 (u0:=.int .i64 0) (u1:=.int .i64 (-1)) (u2:=.int .i64 (-1)) r0 r1 r2
    refine bodyPost_ret (v:=.agg #[.int .i64 0,.int .i64 (-1),.int .i64 (-1)]) (by simp [results,Tryz.results52,go_sem,t0,t1,t2]) rfl ⟨ret_val (by rw [HE.out];rfl),?_⟩
    exact ((hBw.setCell (p:=⟨w.heap.size+1,0,none⟩) (by simp) _).setCell (p:=⟨w.heap.size+1,1,none⟩) (by simp) _).setCell (p:=⟨w.heap.size+1,2,none⟩) (by simp) _
   ·have HE:Hid (RES=(q1,(i:Int),q2)):=by show _=_;rw [HRn.out,if_pos hq]
    have b1:(q1 == 0)=false:=by simpa using hq
    go_wp2_with fail
    obtain ⟨t0,t1,t2⟩:=set3 (u0:=.int .i64 q1) (u1:=.int .i64 (i:Int)) (u2:=.int .i64 q2) r0 r1 r2
    refine bodyPost_ret (v:=.agg #[.int .i64 q1,.int .i64 (i:Int),.int .i64 q2]) (by simp [results,Tryz.results52,go_sem,t0,t1,t2]) rfl ⟨ret_val (by rw [HE.out];rfl),?_⟩
    exact ((hBw.setCell (p:=⟨w.heap.size+1,0,none⟩) (by simp) _).setCell (p:=⟨w.heap.size+1,1,none⟩) (by simp) _).setCell (p:=⟨w.heap.size+1,2,none⟩) (by simp) _
end Go.Proofs.YtmddmgpijpjpbaaGreatDoor
