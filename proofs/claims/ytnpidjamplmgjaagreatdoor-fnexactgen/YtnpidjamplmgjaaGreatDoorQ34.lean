import Derived.Test.YtnpidjamplmgjaaGreatDoorQ33
set_option linter.unusedSectionVars false
variable [Inhabited Go.Proofs.YtnpidjamplmgjaaGreatDoor.Pick]
namespace Go.Proofs.YtnpidjamplmgjaaGreatDoor
open Go.RowKit
set_option linter.unusedVariables false
set_option linter.unusedSimpArgs false
set_option maxRecDepth 100000
set_option maxHeartbeats 16000000
def preE (t:Tr):Int × Int × Int:=if (namesE t).1≠0 then namesE t else bodiesE t 0 t.funcs
theorem namesE_ok {t:Tr} (h:(namesE t).1=0):namesE t=(0,-1,-1):=by
 by_cases ht:(topE t).1=0
 ·rw [names_main ht] at h ⊢
  simp only at h
  rw [h]
 ·rw [names_top ht] at h
  exact absurd h ht
theorem bodyE_ok {t:Tr} {i:Nat} {f:Fu} (h:(bodyE t i f).1=0):bodyE t i f=(0,-1,-1):=by
 unfold bodyE at h ⊢
 split
 ·rename_i h1;rw [if_pos h1] at h;simp at h
 ·rename_i h1
  rw [if_neg h1] at h
  split
  ·rename_i h2;rw [if_pos h2] at h;exact absurd h h2
  ·rfl
theorem check_pre {t:Tr} (h:treeB t=true) (hp:(preE t).1≠0):checkE t=preE t:=by
 unfold preE at hp ⊢
 by_cases hn:(namesE t).1=0
 ·rw [if_neg (by simp [hn])] at hp ⊢
  exact check_bodies h hn hp
 ·rw [if_pos hn]
  exact check_names h hn
theorem names_ok_main {t:Tr} (h:(namesE t).1=0) : ∃m,fnum t.funcs mainS=some m:=by
 by_cases ht:(topE t).1=0
 ·rw [names_main ht] at h
  exact main_zero h
 ·rw [names_top ht] at h
  exact absurd h ht
structure Lk (t:Tr) (k:Nat) (r:Int × Int × Int):Prop where
 bad:r.1≠0->preE t=r
 ok:r.1=0->(namesE t).1=0/\r=(0,-1,-1)/\bodiesE t 0 t.funcs=bodiesE t k (t.funcs.drop k)
theorem Lk.start (t:Tr):Lk t 0 (namesE t):=by
 refine ⟨fun h => ?_,fun h=>⟨h,namesE_ok h,by simp⟩⟩
 unfold preE
 rw [if_pos h]
theorem Lk.next {t:Tr} {k:Nat} {r:Int × Int × Int} (h:Lk t k r) (h0:r.1=0) (hk:k<t.funcs.length):Lk t (k+1) (bodyE t k t.funcs[k]):=by
 obtain ⟨h1,h2,h3⟩:=h.ok h0
 rw [drop_cons_ _ _ hk,bodiesE] at h3
 refine ⟨fun hb => ?_,fun hb=>⟨h1,bodyE_ok hb,?_⟩⟩
 ·unfold preE
  rw [if_neg (by simp [h1]),h3,if_pos hb]
 ·rw [h3,if_neg (by simp [hb])]
theorem Lk.all {t:Tr} {r:Int × Int × Int} (h:Lk t t.funcs.length r) (h0:r.1=0):(namesE t).1=0/\(bodiesE t 0 t.funcs).1=0/\r=(0,-1,-1):=by
 obtain ⟨h1,h2,h3⟩:=h.ok h0
 rw [List.drop_length] at h3
 exact ⟨h1,by rw [h3];rfl,h2⟩
theorem box3B {B:Nat} {w w':World} {x y z:Value} (h:w.cell? ⟨B,0,none⟩=some x/\w.cell? ⟨B,1,none⟩=some y/\w.cell? ⟨B,2,none⟩=some z) (hf : ∀o,w.frozen? ⟨B,o,none⟩=false) (hb:Below w.heap.size w w') :
  (w'.cell? ⟨B,0,none⟩=some x/\w'.cell? ⟨B,1,none⟩=some y/\w'.cell? ⟨B,2,none⟩=some z)/\∀o,w'.frozen? ⟨B,o,none⟩=false:=by
 have hl:=World.block_lt_of_cell? _ _ h.1
 exact ⟨⟨(hb.cell (p:=⟨B,0,none⟩) hl).trans h.1,(hb.cell (p:=⟨B,1,none⟩) hl).trans h.2.1,(hb.cell (p:=⟨B,2,none⟩) hl).trans h.2.2⟩,fun o=>(hb.frozen (p:=⟨B,o,none⟩) hl).trans (hf o)⟩
theorem checkCG_any (HBl : ∀n,L3Block n) (t:Tr) (vg vf:Value) (w:World) (hs:smallT t) (hw:wfT t) (hg:Globs w vg t.globals) (hf:Funcs w vf t.funcs) :
  Calls Tryz.prog 65 #[.agg #[vg,vf]] w fun e w'=>e = .returned (resV (checkE t))/\Below w.heap.size w w':=by
 have HBL:=hide HBl
 obtain ⟨RES,hRES⟩ : ∃R,R=checkE t:=⟨_,rfl⟩
 rw [<-hRES]
 have HRES:=hide hRES
 have HG:=hide hg
 have HF:=hide hf
 have HS:=hide hs
 have HW:=hide hw
 obtain ⟨ag,cg,rfl,-⟩:=hg
 obtain ⟨af,cf,rfl,-⟩:=hf
 obtain ⟨W1,hW1⟩ : ∃W1,W1=(w.alloc (.cells #[.slice ag t.globals.length cg,.slice af t.funcs.length cf] 32)).alloc (.cells #[.int .i64 0,.int .i64 0,.int .i64 0] 116):=⟨_,rfl⟩
 have HBx:Hid (∀W,Below (w.heap.size+2) W1 W->(W.cell? ⟨w.heap.size,0,none⟩=some (.slice ag t.globals.length cg)/\W.cell? ⟨w.heap.size,1,none⟩=some (.slice af t.funcs.length cf))/\(W.cell? ⟨w.heap.size+1,0,none⟩=some (.int .i64 0)/\W.cell? ⟨w.heap.size+1,1,none⟩=some (.int .i64 0)/\W.cell? ⟨w.heap.size+1,2,none⟩=some (.int .i64 0))/\(∀o,W.frozen? ⟨w.heap.size+1,o,none⟩=false)/\Bl w W/\w.heap.size+2<=W.heap.size):=two_boxC hW1
 have hs1:W1.heap.size=w.heap.size+2:=by rw [hW1];simp
 obtain ⟨-,-,-,hB1,-⟩:=HBx.out W1 (Below.refl _ _)
 clear hRES HBl hs hw
 go_enter Tryz.func65,Tryz.ntmps65
 go_wp2_with fail
 rw [<-hW1]
 clear hW1
 refine (gtree_any t _ _ W1 HS.out (HG.out.below hB1) (HF.out.below hB1)).mono ?_
 rintro e w2 ⟨rfl,hb2⟩
 have hB2:Below (w.heap.size+2) W1 w2:=hb2.mono o_
 clear hb2 hs1 hB1
 obtain ⟨⟨x0,x1⟩,⟨r0,r1,r2⟩,rz,hBw,hsz⟩:=HBx.out w2 hB2
 have z0:=rz 0
 have z1:=rz 1
 have z2:=rz 2
 cases htb:treeB t with
 | false=>
  have HE:Hid (RES=(1,-1,-1)):=HRES.out.trans (check_tree htb)
  clear htb rz
  go_wp2_with fail
  obtain ⟨t0,t1,t2⟩:=set3 (u0:=.int .i64 1) (u1:=.int .i64 (-1)) (u2:=.int .i64 (-1)) r0 r1 r2
  refine bodyPost_ret (v:=.agg #[.int .i64 1,.int .i64 (-1),.int .i64 (-1)]) (by simp [results,Tryz.results65,go_sem,t0,t1,t2]) rfl ⟨ret_val (by rw [HE.out];rfl),?_⟩
  exact ((hBw.setCell (p:=⟨w.heap.size+1,0,none⟩) (by simp) _).setCell (p:=⟨w.heap.size+1,1,none⟩) (by simp) _).setCell (p:=⟨w.heap.size+1,2,none⟩) (by simp) _
 | true=>
  have HB:=hide htb
  have hok:=okt htb HS.out HW.out
  have HOk:=hide hok
  have hfl:=hok.fl
  have hgl:=hok.gl
  clear htb hok rz r0 r1 r2 z0 z1 z2
  go_wp2_with fail
  refine (l3names_any t _ _ w2 o_ o_ (HG.out.below hBw) (HF.out.below hBw)).mono ?_
  rintro e w3 ⟨rfl,hb3⟩
  have hB3:Below (w.heap.size+2) W1 w3:=hB2.trans (hb3.mono hsz)
  clear x0 x1 hBw hb3 hsz hB2
  obtain ⟨⟨x0,x1⟩,-,-,hBw,hsz⟩:=HBx.out w3 hB3
  obtain ⟨n0,n1,n2,hn⟩ : ∃n0 n1 n2,namesE t=(n0,n1,n2):=⟨_,_,_,rfl⟩
  have HLk:Hid (Lk t 0 (n0,n1,n2)):=by rw [<-hn];exact Lk.start t
  rw [hn,show resV (n0,n1,n2) = .agg #[.int .i64 n0,.int .i64 n1,.int .i64 n2] from rfl]
  clear hn
  go_wp2_with fail
  obtain ⟨B3,hB3e⟩ : ∃B3,B3=w3.heap.size:=⟨_,rfl⟩
  have HQ0:Hid (Below (w.heap.size+2) W1 (w3.alloc (.cells #[.int .i64 n0,.int .i64 n1,.int .i64 n2] 116))):=hB3.alloc hsz _
  have HQ1:Hid (((w3.alloc (.cells #[.int .i64 n0,.int .i64 n1,.int .i64 n2] 116)).cell? ⟨B3,0,none⟩=some (.int .i64 n0)/\(w3.alloc (.cells #[.int .i64 n0,.int .i64 n1,.int .i64 n2] 116)).cell? ⟨B3,1,none⟩=some (.int .i64 n1)/\(w3.alloc (.cells #[.int .i64 n0,.int .i64 n1,.int .i64 n2] 116)).cell? ⟨B3,2,none⟩=some (.int .i64 n2))/\∀o,(w3.alloc (.cells #[.int .i64 n0,.int .i64 n1,.int .i64 n2] 116)).frozen? ⟨B3,o,none⟩=false):=by
   rw [hB3e]
   exact ⟨⟨by simp,by simp,by simp⟩,fun o=>by simp⟩
  have hBB:w.heap.size+2<=B3:=by omega
  rw [<-hB3e]
  clear hB3e x0 x1 hBw hsz hB3
  go_loopw [4] (fun i wr=>∃(k:Nat) (r0 r1 r2:Int),k<=t.funcs.length/\i = .int .i64 k/\(wr.cell? ⟨B3,0,none⟩=some (.int .i64 r0)/\wr.cell? ⟨B3,1,none⟩=some (.int .i64 r1)/\wr.cell? ⟨B3,2,none⟩=some (.int .i64 r2))/\(∀o,wr.frozen? ⟨B3,o,none⟩=false)/\Lk t k (r0,r1,r2)/\Below (w.heap.size+2) W1 wr) (fun i _=>t.funcs.length-(RowKit.intOf i).toNat)
  case atStart=>exact ⟨0,n0,n1,n2,Nat.zero_le _,rfl,HQ1.out.1,HQ1.out.2,HLk.out,HQ0.out⟩
  case round=>
   clear HQ0 HQ1 HLk
   obtain ⟨k,q0,q1,q2,hk,rfl,⟨b0,b1,b2⟩,bz,hlk,hB⟩:=hrel
   have HLk:=hide hlk
   have HBz:=hide bz
   have bz0:=bz 0
   have bz1:=bz 1
   have bz2:=bz 2
   have hB3l:B3<wr.heap.size:=World.block_lt_of_cell? _ _ b0
   obtain ⟨⟨x0,x1⟩,⟨r0,r1,r2⟩,rz,hBw,hsz⟩:=HBx.out wr hB
   clear hlk bz
   by_cases hlt:k<t.funcs.length
   ·by_cases hq:q0=0
    ·subst hq
     have HLn:Hid (Lk t (k+1) (bodyE t k t.funcs[k])):=HLk.out.next rfl hlt
     have HBo:Hid (Calls Tryz.prog 88 #[.agg #[.slice ag t.globals.length cg,.slice af t.funcs.length cf],.int .i64 (k:Int)] wr fun e w'=>e = .returned (resV (bodyE t k t.funcs[k]))/\Bl wr w'):=l3body_any HBL.out t _ _ k wr hlt o_ o_ (HOk.out.f _ (List.getElem_mem hlt)) (HG.out.below hBw) (HF.out.below hBw)
     obtain ⟨m0,m1,m2,hm⟩ : ∃m0 m1 m2,bodyE t k t.funcs[k]=(m0,m1,m2):=⟨_,_,_,rfl⟩
     rw [hm] at HLn HBo
     have HBo2:Hid (Calls Tryz.prog 88 #[.agg #[.slice ag t.globals.length cg,.slice af t.funcs.length cf],.int .i64 (k:Int)] wr fun e w'=>e = .returned (.agg #[.int .i64 m0,.int .i64 m1,.int .i64 m2])/\Bl wr w'):=HBo.out
     clear hm HBo r0 r1 r2 rz
     go_wp2_with fail
     refine HBo2.out.mono ?_
     rintro e w4 ⟨rfl,hb4⟩
     obtain ⟨⟨c0,c1,c2⟩,cz⟩:=box3B ⟨b0,b1,b2⟩ HBz.out hb4
     have cz0:=cz 0
     have cz1:=cz 1
     have cz2:=cz 2
     have HCz:Hid (∀o,w4.frozen? ⟨B3,o,none⟩=false):=cz
     have hB4:=hB.trans (hb4.mono hsz)
     have HS3:Hid _:=set3 (u0:=.int .i64 m0) (u1:=.int .i64 m1) (u2:=.int .i64 m2) c0 c1 c2
     clear hb4 b0 b1 b2 bz0 bz1 bz2 x0 x1 cz HBo2
     go_wp2_with fail
     go_roundw
     case rel=>exact ⟨k+1,m0,m1,m2,by omega,by go_num,HS3.out,fun o=>by simpa using HCz.out o,HLn.out,((hB4.setCell (p:=⟨B3,0,none⟩) hBB _).setCell (p:=⟨B3,1,none⟩) hBB _).setCell (p:=⟨B3,2,none⟩) hBB _⟩
     case measure=>simp [RowKit.intOf];omega
    ·have HE:Hid (RES=(q0,q1,q2)):=by
      have h1:=HLk.out.bad hq
      show _=_
      rw [HRES.out,check_pre HB.out (by rw [h1];exact hq),h1]
     have e1:(q0 == 0)=false:=by simpa using hq
     have z0:=rz 0
     have z1:=rz 1
     have z2:=rz 2
     clear rz
     go_wp2_with fail
     obtain ⟨t0,t1,t2⟩:=set3 (u0:=.int .i64 q0) (u1:=.int .i64 q1) (u2:=.int .i64 q2) r0 r1 r2
     refine bodyPost_ret (v:=.agg #[.int .i64 q0,.int .i64 q1,.int .i64 q2]) (by simp [results,Tryz.results65,go_sem,t0,t1,t2]) rfl ⟨ret_val (by rw [HE.out];rfl),?_⟩
     exact ((hBw.setCell (p:=⟨w.heap.size+1,0,none⟩) (by simp) _).setCell (p:=⟨w.heap.size+1,1,none⟩) (by simp) _).setCell (p:=⟨w.heap.size+1,2,none⟩) (by simp) _
   ·have hkk:k=t.funcs.length:=by omega
    by_cases hq:q0=0
    ·subst hq
     subst hkk
     obtain ⟨hn1,hn2,hn3⟩:=HLk.out.all rfl
     simp only [Prod.mk.injEq,true_and] at hn3
     obtain ⟨rfl,rfl⟩:=hn3
     obtain ⟨m,hm⟩:=names_ok_main hn1
     have HR1:Hid (RES=circE t m 0 t.funcs.length):=HRES.out.trans (check_circ HB.out hn1 hn2 hm)
     have hml:=fnum_lt hm
     have HFm:Hid (Calls Tryz.prog 17 #[.agg #[.slice ag t.globals.length cg,.slice af t.funcs.length cf],.string ⟨#[109,97,105,110]⟩] wr fun e w'=>e = .returned (.int .i64 (m:Int))/\Bl wr w'):=by
      have:=l3func_any t.funcs (.slice ag t.globals.length cg) _ mainS wr o_ (HF.out.below hBw)
      rw [fnumI_some hm] at this
      exact this
     clear hn1 hn2 hm HLk r0 r1 r2 rz
     go_wp2_with fail
     refine HFm.out.mono ?_
     rintro e w4 ⟨rfl,hb4⟩
     have hB4:=hB.trans (hb4.mono hsz)
     have HQ4:=box3B ⟨b0,b1,b2⟩ HBz.out hb4
     have HP4:=hide HQ4
     clear hb4 b0 b1 b2 bz0 bz1 bz2 x0 x1 hBw hsz HQ4 HFm hB HBz hB3l
     obtain ⟨⟨x0,x1⟩,-,-,hBw,hsz⟩:=HBx.out w4 hB4
     have HRe:Hid (∀(W:World) (f:Nat),Bl w4 W->f<t.funcs.length->Calls Tryz.prog 66 #[.agg #[.slice ag t.globals.length cg,.slice af t.funcs.length cf],.slice (some ⟨W.heap.size,0,none⟩) 1 1] (W.alloc (.cells #[.int .i64 (f:Int)] 2)) fun e w'=>∃v out,e = .returned v/\IRow (W.heap.size+1) w' v out/\(∀g,g∈out↔Rch t f g)/\out.length<=1000/\Bl W w'):=fun W f hW hfl2=>by
      have hA:Bl W (W.alloc (.cells #[.int .i64 (f:Int)] 2)):=bel_a _ _
      have hFW:Funcs (W.alloc (.cells #[.int .i64 (f:Int)] 2)) (.slice af t.funcs.length cf) t.funcs:=(HF.out.below (hBw.trans (hW.mono hBw.size))).below hA
      refine (l3reach_any t (.slice ag t.globals.length cg) _ (.slice (some ⟨W.heap.size,0,none⟩) 1 1) f _ hfl2 o_ HOk.out.sm ⟨_,_,_,rfl⟩ hFW ?_ ?_).mono ?_
      ·refine ⟨_,1,rfl,fun _=>⟨W.heap.size,rfl,fun j hj => ?_⟩⟩
       have hj0:j=0:=by simp at hj;omega
       subst hj0
       simp
      ·intro a n c he
       simp only [Value.slice.injEq] at he
       omega
      ·rintro e w' ⟨v,out,he,h1,h2,h3,h4⟩
       rw [World.size_alloc] at h1 h4
       exact ⟨v,out,he,h1,h2,h3,hA.trans (h4.mono o_)⟩
     obtain ⟨i1,hj,hy0,hy1,hy2⟩:=info_parts info_i64
     go_wp2_with fail
     refine (HRe.out w4 m (Below.refl _ _) hml).mono ?_
     rintro e w5 ⟨v5,out,rfl,hv5,ho5,hl5,hb5⟩
     have HV5:=hide hv5
     have HO5:=hide ho5
     obtain ⟨a5,c5,rfl⟩:=hv5.shape
     have hs5:w4.heap.size<=w5.heap.size:=hb5.size
     clear hv5 ho5 x0 x1
     go_wp2_with (at_builtin;refine wpList_appF rfl _ _ _ rfl w4.heap.size 2 i1 _ 1 8 Tryz.underlying82 hj hy0 hy1 hy2 rfl (by decide) _ out.length (out.map (fun g:Nat=>Value.int .i64 (g:Int))) rfl ((IRow.base HV5.out o_).below (bel_a _ _)) ⟨w5.heap.size,0,none⟩ 1 1 [.int .i64 (m:Int)] rfl rfl (cell_one_new _ _ _) (by simp [Value.oneCell']) o_ (by decide) (by simp;omega) ?_)
     intro v6 w6 ho6 hg6 hf6
     have HV6:Hid (IRow w4.heap.size w6 v6 (out++[m])):=by
      show World.ownsRow _ _ _ _ _ _ _
      simpa using ho6
     have hb6:Bl w4 w6:=(hb5.alloc hb5.size (.cells #[.int .i64 (m:Int)] 2)).grown hg6 (by simp;omega) (fun g hg=>by have:=(World.ownsRow.lt HV5.out g hg).1;omega)
     obtain ⟨a6,c6,rfl⟩:=HV6.out.shape
     have hle6:(out++[m]).length=out.length+1:=by simp
     rw [hle6] at HV6 ⊢
     clear ho6 hg6 hf6 hb5 HV5 hs5
     go_wp2_with fail
     go_loopw [7] (fun i wr=>∃(k:Nat),k<=t.funcs.length/\i = .int .i64 k/\RES=circE t m k (t.funcs.length-k)/\Bl w6 wr) (fun i _=>t.funcs.length-(RowKit.intOf i).toNat)
     case atStart=>exact ⟨0,Nat.zero_le _,rfl,by simpa using HR1.out,Below.refl _ _⟩
     case round=>
      clear HR1
      obtain ⟨k,hk,rfl,hres,hB⟩:=hrel
      have HR1:=hide hres
      have hb7:Bl w4 wr:=hb6.trans (hB.mono hb6.size)
      obtain ⟨⟨x0,x1⟩,⟨r0,r1,r2⟩,rz,hBw2,-⟩:=HBx.out wr (hB4.trans (hb7.mono hsz))
      have z0:=rz 0
      have z1:=rz 1
      have z2:=rz 2
      obtain ⟨⟨b0,b1,b2⟩,-⟩:=box3B HP4.out.1 HP4.out.2 hb7
      clear hres rz
      by_cases hlt:k<t.funcs.length
      ·have HR2:Hid (RES=circE t m k ((t.funcs.length-(k+1))+1)):=by
        show _=_
        rw [HR1.out]
        congr 1
        omega
       have HHs:Hid (Calls Tryz.prog 89 #[.slice a6 (out.length+1) c6,.int .i64 (k:Int)] wr fun e w'=>e = .returned (.bool (decide (k∈out++[m])))/\Bl wr w'):=l3has_any (out++[m]) _ k wr (by simp;omega) (HV6.out.below hB).ints
       clear r0 r1 r2 z0 z1 z2 b0 b1 b2
       go_wp2_with fail
       refine HHs.out.mono ?_
       rintro e w8 ⟨rfl,hb8⟩
       have hB8:=hB.trans (hb8.mono hB.size)
       have hb9:Bl w4 w8:=hb7.trans (hb8.mono hb7.size)
       clear x0 x1 hBw2 HHs hb8
       by_cases hin:k∈out++[m]
       ·have HA:Hid (k=m∨Rch t m k):=by
         rw [List.mem_append,List.mem_singleton] at hin
         rcases hin with h1 | h1
         ·exact .inr ((HO5.out k).1 h1)
         ·exact .inl h1
        rw [decide_eq_true hin]
        clear hin
        obtain ⟨⟨x0,x1⟩,-,-,-,-⟩:=HBx.out w8 (hB4.trans (hb9.mono hsz))
        go_wp2_with fail
        refine (HRe.out w8 k hb9 hlt).mono ?_
        rintro e w10 ⟨v10,out10,rfl,hv10,ho10,hl10,hb10⟩
        obtain ⟨a10,c10,rfl⟩:=hv10.shape
        have HHs:Hid (Calls Tryz.prog 89 #[.slice a10 out10.length c10,.int .i64 (k:Int)] w10 fun e w'=>e = .returned (.bool (decide (k∈out10)))/\Bl w10 w'):=l3has_any out10 _ k w10 o_ hv10.ints
        have hB10:=hB8.trans (hb10.mono hB8.size)
        have hb11:Bl w4 w10:=hb9.trans (hb10.mono hb9.size)
        have HO10:=hide ho10
        clear x0 x1 hv10 hb10 ho10
        go_wp2_with fail
        refine HHs.out.mono ?_
        rintro e w12 ⟨rfl,hb12⟩
        have hB12:=hB10.trans (hb12.mono hB10.size)
        have hb13:Bl w4 w12:=hb11.trans (hb12.mono hb11.size)
        clear HHs hb12
        by_cases h10:k∈out10
        ·rw [decide_eq_true h10]
         have HE:Hid (RES=(7,(k:Int),-1)):=by show _=_;rw [HR2.out];exact circE_hit ⟨HA.out,(HO10.out k).1 h10⟩
         obtain ⟨-,⟨r0,r1,r2⟩,rz,hBw,-⟩:=HBx.out w12 (hB4.trans (hb13.mono hsz))
         have z0:=rz 0
         have z1:=rz 1
         have z2:=rz 2
         clear rz h10
         go_wp2_with fail
         obtain ⟨t0,t1,t2⟩:=set3 (u0:=.int .i64 7) (u1:=.int .i64 (k:Int)) (u2:=.int .i64 (-1)) r0 r1 r2
         refine bodyPost_ret (v:=.agg #[.int .i64 7,.int .i64 (k:Int),.int .i64 (-1)]) (by simp [results,Tryz.results65,go_sem,t0,t1,t2]) rfl ⟨ret_val (by rw [HE.out];rfl),?_⟩
         exact ((hBw.setCell (p:=⟨w.heap.size+1,0,none⟩) (by simp) _).setCell (p:=⟨w.heap.size+1,1,none⟩) (by simp) _).setCell (p:=⟨w.heap.size+1,2,none⟩) (by simp) _
        ·rw [decide_eq_false h10]
         have HN:Hid (RES=circE t m (k+1) (t.funcs.length-(k+1))):=by show _=_;rw [HR2.out];exact circE_step (fun h=>h10 ((HO10.out k).2 h.2))
         clear h10
         go_wp2_with fail
         go_roundw
         case rel=>exact ⟨k+1,by omega,by go_num,HN.out,hB12⟩
         case measure=>simp [RowKit.intOf];omega
       ·rw [decide_eq_false hin]
        have HN:Hid (RES=circE t m (k+1) (t.funcs.length-(k+1))):=by
         show _=_
         rw [HR2.out]
         refine circE_step (fun h=>hin ?_)
         rw [List.mem_append,List.mem_singleton]
         rcases h.1 with h1 | h1
         ·exact .inr h1
         ·exact .inl ((HO5.out k).2 h1)
        clear hin
        go_wp2_with fail
        go_roundw
        case rel=>exact ⟨k+1,by omega,by go_num,HN.out,hB8⟩
        case measure=>simp [RowKit.intOf];omega
      ·have HE:Hid (RES=(0,-1,-1)):=by
        show _=_
        have e:t.funcs.length-k=0:=by omega
        rw [HR1.out,e]
        rfl
       have hBw:=hBw2
       go_wp2_with fail
       obtain ⟨t0,t1,t2⟩:=set3 (u0:=.int .i64 0) (u1:=.int .i64 (-1)) (u2:=.int .i64 (-1)) r0 r1 r2
       refine bodyPost_ret (v:=.agg #[.int .i64 0,.int .i64 (-1),.int .i64 (-1)]) (by simp [results,Tryz.results65,go_sem,t0,t1,t2]) rfl ⟨ret_val (by rw [HE.out];rfl),?_⟩
       exact ((hBw.setCell (p:=⟨w.heap.size+1,0,none⟩) (by simp) _).setCell (p:=⟨w.heap.size+1,1,none⟩) (by simp) _).setCell (p:=⟨w.heap.size+1,2,none⟩) (by simp) _
    ·have HE:Hid (RES=(q0,q1,q2)):=by
      have h1:=HLk.out.bad hq
      show _=_
      rw [HRES.out,check_pre HB.out (by rw [h1];exact hq),h1]
     have e1:(q0 == 0)=false:=by simpa using hq
     have z0:=rz 0
     have z1:=rz 1
     have z2:=rz 2
     clear rz
     go_wp2_with fail
     obtain ⟨t0,t1,t2⟩:=set3 (u0:=.int .i64 q0) (u1:=.int .i64 q1) (u2:=.int .i64 q2) r0 r1 r2
     refine bodyPost_ret (v:=.agg #[.int .i64 q0,.int .i64 q1,.int .i64 q2]) (by simp [results,Tryz.results65,go_sem,t0,t1,t2]) rfl ⟨ret_val (by rw [HE.out];rfl),?_⟩
     exact ((hBw.setCell (p:=⟨w.heap.size+1,0,none⟩) (by simp) _).setCell (p:=⟨w.heap.size+1,1,none⟩) (by simp) _).setCell (p:=⟨w.heap.size+1,2,none⟩) (by simp) _
structure FndIs (t:Tr) (D:DataW Unit) (ks:List Nat):Prop where
 map:Maps.IsMap D
 nd:ks.Nodup
 lt : ∀k∈ks,k<t.funcs.length
 has : ∀k:Nat,Maps.has D (.int .i64 (k:Int))=decide (k∈ks)
 val : ∀k∈ks,∃n s,Dp t n k s/\D.atKey (.int .i64 (k:Int)) (.lit (.int .i64 0)) = .lit (.int .i64 s)
theorem FndIs.nil (t:Tr):FndIs t (.map []) []:=⟨Maps.isMap_empty,List.nodup_nil,by simp,fun k=>by simp [Maps.has],by simp⟩
theorem FndIs.len {t:Tr} {D:DataW Unit} {ks:List Nat} (h:FndIs t D ks):ks.length<=t.funcs.length:=by
 have:=nodup_len ks (List.range t.funcs.length) h.nd (fun x hx=>List.mem_range.2 (h.lt x hx))
 simpa using this
theorem FndIs.put {t:Tr} {D:DataW Unit} {ks:List Nat} (h:FndIs t D ks) {n f:Nat} {s:Int} (hd:Dp t n f s) (hf:f∉ks):FndIs t (D.put (.int .i64 (f:Int)) (.lit (.int .i64 s))) (ks++[f]):=by
 have hne : ∀k:Nat,k≠f->(Lit.int .i64 (k:Int))≠(Lit.int .i64 (f:Int)):=fun k hk e=>by
  injection e with _ e
  exact hk o_
 refine ⟨h.map.put _ _,?_,?_,fun k => ?_,fun k hk => ?_⟩
 ·rw [List.nodup_append]
  exact ⟨h.nd,by simp,fun a ha b hb e=>by simp at hb;subst hb;subst e;exact hf ha⟩
 ·intro k hk
  rcases List.mem_append.1 hk with hk | hk
  ·exact h.lt k hk
  ·simp at hk;subst hk;exact hd.lt
 ·by_cases e:k=f
  ·subst e
   rw [Maps.has_put_same (k:=.int .i64 (k:Int)) h.map trivial]
   simp
  ·rw [Maps.has_put_other (hne k e),h.has k]
   simp [e]
 ·by_cases e:k=f
  ·subst e
   exact ⟨n,s,hd,Maps.atKey_put_same (k:=.int .i64 (k:Int)) h.map trivial _ _⟩
  ·have hk':k∈ks:=by
    rcases List.mem_append.1 hk with hk | hk
    ·exact hk
    ·simp at hk;exact absurd hk e
   obtain ⟨n',s',h1,h2⟩:=h.val k hk'
   exact ⟨n',s',h1,by rw [Maps.atKey_put_other (hne k e)];exact h2⟩
theorem look_fnd {W:World} {b nn:Nat} {t:Tr} {D:DataW Unit} {ks:List Nat} (hown:W.ownsMap Tryz.prog 2 (plainElem (H:=Unit) Tryz.prog 2) b nn D) (hN:FndIs t D ks) {f n:Nat} {s:Int} (hf:f<=1000000) (h:f∈ks) (hd:Dp t n f s) :
  (Instr.lookup 129 (.map (some b)) (.int .i64 (f:Int)) true).run Tryz.prog W = .ok (.tuple #[.int .i64 s,.bool true]) W:=by
 obtain ⟨v,ps,hrun,hv⟩:=hown.look_ok (Maps.int_keyed Tryz.underlying2) Tryz.underlying129 (Tryz.zeroValue2 _) (plainElem_int Tryz.underlying2 (by decide)) (Maps.keyOf_int_mk Tryz.underlying2 (WalkArith.wf_i64 (n:=(f:Int)) o_))
 obtain ⟨n',s',h1,h2⟩:=hN.val f h
 rw [h2] at hv
 obtain ⟨c,rfl,hc,_⟩:=plainElem_int_inv Tryz.underlying2 hv
 simp only [Prod.mk.injEq,DataW.lit.injEq,Lit.int.injEq,true_and] at hc
 obtain ⟨hc,-⟩:=hc
 subst hc
 rw [hN.has f,decide_eq_true h,h1.one hd] at hrun
 exact hrun
theorem look_new {W:World} {b nn:Nat} {t:Tr} {D:DataW Unit} {ks:List Nat} (hown:W.ownsMap Tryz.prog 2 (plainElem (H:=Unit) Tryz.prog 2) b nn D) (hN:FndIs t D ks) {f:Nat} (hf:f<=1000000) (h:f∉ks) :
  (Instr.lookup 129 (.map (some b)) (.int .i64 (f:Int)) true).run Tryz.prog W = .ok (.tuple #[.int .i64 0,.bool false]) W:=by
 obtain ⟨v,ps,hrun,hv⟩:=hown.look_ok (Maps.int_keyed Tryz.underlying2) Tryz.underlying129 (Tryz.zeroValue2 _) (plainElem_int Tryz.underlying2 (by decide)) (Maps.keyOf_int_mk Tryz.underlying2 (WalkArith.wf_i64 (n:=(f:Int)) o_))
 have hh:=hN.has f
 rw [decide_eq_false h] at hh
 rw [Maps.atKey_of_not_has hh] at hv
 obtain ⟨c,rfl,hc,_⟩:=plainElem_int_inv Tryz.underlying2 hv
 simp only [Prod.mk.injEq,DataW.lit.injEq,Lit.int.injEq,true_and] at hc
 obtain ⟨hc,-⟩:=hc
 subst hc
 rw [hh] at hrun
 exact hrun
def deepE (t : Tr) (f : Nat) : Int := epsQ 0 (fun s => ∃ n, Dp t n f s)
theorem Dp.deep {t : Tr} {n f : Nat} {s : Int} (h : Dp t n f s) : deepE t f = s := by
  obtain ⟨m, hm⟩ := epsQs (d := 0) (p := fun s => ∃ n, Dp t n f s) ⟨s, n, h⟩
  exact hm.one h
open Classical in
def boundE (t:Tr):Int:=if (checkE t).1=0/\∀x∈framesL t,x<=2032 then deepE t ((fnum t.funcs mainS).getD 0) else -1
theorem sound_main {t:Tr} (h:(checkE t).1=0) : ∃m,fnum t.funcs mainS=some m/\m<t.funcs.length/\Acyc t m:=by
 have hb:=(sound_nodup h).1
 by_cases hn:(namesE t).1=0
 ·obtain ⟨m,hm⟩:=names_ok_main hn
  have hlt:m<t.funcs.length:=fnum_lt hm
  refine ⟨m,hm,hlt,?_⟩
  by_cases hz:(bodiesE t 0 t.funcs).1=0
  ·rw [check_circ hb hn hz hm] at h
   intro x hx
   have hxl:x<t.funcs.length:=by rcases hx with rfl | hx;exact hlt;exact hx.lt
   exact circE_acyc t.funcs.length 0 h x (Nat.zero_le _) o_ hx
  ·rw [check_bodies hb hn hz] at h;exact absurd h hz
 ·rw [check_names hb hn] at h;exact absurd h hn
theorem sound_dp {t:Tr} (h:(checkE t).1=0) {m:Nat} (hm:fnum t.funcs mainS=some m) (hl:m<t.funcs.length) (ha:Acyc t m) : ∃s,Dp t t.funcs.length m s:=dp_exists hl ha t.funcs.length m (.inl rfl) (rk_all t m)
open Classical in
def genE (t:Tr):List It:=if boundE t<0 then [] else (codeT t t.funcs.length t.funcs.length).1
def GRow (B:Nat) (w:World) (v:Value) (its:List It):Prop:=w.ownsRow B 70 7 v its.length (flatI its)
theorem GRow.base {B B':Nat} {w:World} {v:Value} {its:List It} (h:GRow B w v its) (hb:B'<=B):GRow B' w v its:=by
 obtain ⟨h1,h2⟩:=h
 refine ⟨h1,?_⟩
 rcases h2 with h2 | ⟨g,cap,cur,rfl,h3,h4,h5⟩
 ·exact .inl h2
 ·exact .inr ⟨g,cap,cur,rfl,Nat.le_trans hb h3,h4,h5⟩
end Go.Proofs.YtnpidjamplmgjaaGreatDoor
