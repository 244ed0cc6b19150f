import Derived.Test.YtnpidjamplmgjaaGreatDoorQ43
import Derived.Test.YtnpidjamplmgjaaGreatDoorQ46
import Derived.Test.YtnpidjamplmgjaaGreatDoorQ50
import Derived.Deep.RegionHeld3
namespace Go.Proofs.YtnpidjamplmgjaaGreatDoor
open Go.RowKit
set_option linter.unusedVariables false
set_option linter.unusedSimpArgs false
set_option maxRecDepth 100000
set_option maxHeartbeats 16000000
theorem gen_len [Inhabited Pick] (t:Tr):(genE t).length<=10000000:=by
 unfold genE
 split
 ·simp
 ·rename_i h
  obtain ⟨hck,-⟩:=bound_ok h
  obtain ⟨-,hfl,-,hfn⟩:=fnOkG (sound_nodup hck).1
  have:=(codeT_bd hfn t.funcs.length t.funcs.length (Nat.le_refl _)).1
  omega
theorem law_gen (t:Tr) (vg vf:Value) (w:World) (hT:Tab w) (hTg:TabG w) (hw:wfT t) (hg:Globs w vg t.globals) (hf:Funcs w vf t.funcs) :
  Calls Tryz.prog 3 #[.agg #[vg,vf]] w fun e w'=>e = .returned (.bool true)/\Below w.heap.size w w':=by
 haveI : Inhabited Pick := ⟨⟨fun _ h => Classical.choice h⟩⟩
 have HT:=hide hT
 have HTg:=hide hTg
 have HW:=hide hw
 have HG:=hide hg
 have HF:=hide hf
 have hsz:=hT.size
 obtain ⟨ag,cg,rfl,-,-,-⟩:=hg
 obtain ⟨af,cf,rfl,-,-,-⟩:=hf
 have hA:Bl w (w.alloc (.cells #[.slice ag t.globals.length cg,.slice af t.funcs.length cf] 25)):=bel_a _ _
 go_enter Tryz.func3,Tryz.ntmps3
 go_wp2_with fail
 refine (szTree_any t _ _ _ _ ⟨by omega,by omega⟩ HW.out (HG.out.below hA) (HF.out.below hA)).mono ?_
 rintro e w1 ⟨rfl,hb1⟩
 simp only [World.size_alloc] at hb1
 have hB1:=one_below hb1
 by_cases hs:(1048576:Int)<(szT t:Nat)
 ·rw [szR_gt hs]
  go_wp2_with fail
  go_ret
  exact ⟨rfl,hB1⟩
 have HS:Hid (smallT t):=smallT_of o_
 have HCn:Hid (cntT t<=4194304):=by have:=cntT_le t;show _<=_;omega
 rw [szR_le (show ((szT t:Nat):Int)<=1048576 by omega)]
 have hq:0<=(1048576:Int)-(szT t:Nat):=by omega
 generalize (1048576:Int)-(szT t:Nat)=q at hq ⊢
 obtain ⟨x0,x1⟩:=box2 hb1
 go_wp2_with fail
 refine (toTree_any t _ _ _ HS.out (HG.out.below hB1) (HF.out.below hB1)).mono ?_
 rintro e w2 ⟨vg2,vf2,rfl,hg2,hf2,hb2⟩
 have HG2:Hid (Globs w2 vg2 t.globals):=hg2.globs (by have:=HS.out.1;omega)
 have HF2:Hid (Funcs w2 vf2 t.funcs):=hf2.funcs (by have:=HS.out.2.1;omega) HS.out.2.2
 have hB2:=hb1.trans (hb2.mono (by have:=hb1.size;simp at this;omega))
 go_wp2_with fail
 refine (genG_any t _ _ _ HS.out HW.out HG2.out HF2.out).mono ?_
 rintro e w3 ⟨vw,rfl,hvw,hb3⟩
 have HVW:Hid (Items w3 vw (genE t)):=hvw.items
 have HLn:Hid ((genE t).length<=10000000):=gen_len t
 have hB3:=hB2.trans (hb3.mono (by have:=hB2.size;simp at this;omega))
 have hB3':=one_below hB3
 have hsz3:w.heap.size+1<=w3.heap.size:=by have:=hB3.size;simpa using this
 obtain ⟨x0,x1⟩:=box2 hB3
 go_wp2_with fail
 refine (toTree_any t _ _ _ HS.out (HG.out.below hB3') (HF.out.below hB3')).mono ?_
 rintro e w4 ⟨vg4,vf4,rfl,hg4,hf4,hb4⟩
 have HG4:Hid (Globs w4 vg4 t.globals):=hg4.globs (by have:=HS.out.1;omega)
 have HF4:Hid (Funcs w4 vf4 t.funcs):=hf4.funcs (by have:=HS.out.2.1;omega) HS.out.2.2
 have HPG:=hide (hg4.plain)
 have HPF:Hid (FuncsM w3.heap.size w4.heap.size w4 vf4 t.funcs):=hf4.marks
 obtain ⟨g4,y4,rfl,-,-⟩:=hg4
 obtain ⟨f4,z4,V4,rfl,-,-,-⟩:=hf4
 have hB4:=hB3.trans (hb4.mono (by have:=hB3.size;simp at this;omega))
 have hB4':=one_below hB4
 have HB34:=hide hb4
 have hsz4:=hb4.size
 go_wp2_with fail
 have hX:Bl w4 (w4.alloc (.cells #[.slice (some ⟨g4,0,none⟩) t.globals.length t.globals.length,.slice (some ⟨f4,0,none⟩) t.funcs.length t.funcs.length] 32)):=bel_a _ _
 have hB4x:=hB4'.trans (hX.mono hB4'.size)
 refine (genI_any t _ _ _ (HT.out.below hsz hB4x) (HTg.out.below hB4x) HS.out HW.out (HG4.out.below hX) (HF4.out.below hX)).mono ?_
 rintro e w5 ⟨v5,rfl,hown5,hb5⟩
 simp only [World.size_alloc] at hb5
 have hown5:GRow (w4.heap.size+1) w5 v5 (genE t):=by simpa only [World.size_alloc] using hown5
 have hX5:=one_below hb5
 have hB5:=hB4.trans (hX5.mono (by have:=hB4.size;simp at this;omega))
 have hB5':=one_below hB5
 have HO5:=hide hown5
 have HX4:=hide hb5
 have hsz5:w4.heap.size+1<=w5.heap.size:=by have:=hb5.size;simpa using this
 have HB35:Hid (Bl w3 w5):=HB34.out.trans (hX5.mono hsz4)
 go_wp2_with fail
 refine (eqItems_any _ _ (genE t) w5 HLn.out HO5.out.items (HVW.out.below HB35.out)).mono ?_
 rintro e w6 ⟨rfl,hb6⟩
 have hX6:=hX5.trans (hb6.mono hX5.size)
 have hB6:=hB5.trans (hb6.mono (by have:=hB5.size;simpa using this))
 have hB6':=one_below hB6
 have hb6x:=hb5.trans (hb6.mono (by have:=hb5.size;simpa using this))
 have HO6:Hid (GRow (w4.heap.size+1) w6 v5 (genE t)):=HO5.out.below hb6
 have HB36:Hid (Bl w3 w6):=HB35.out.trans (hb6.mono HB35.out.size)
 obtain ⟨x0,x1⟩:=box2 hB6
 obtain ⟨z0,z1⟩:=box2 hb6x
 have hl0:w.heap.size<w6.heap.size:=by have:=hB6.size;simp at this;omega
 have hl4:w4.heap.size<w6.heap.size:=by have:=hb6x.size;simp at this;omega
 have HG5:=hide (HG4.out.below hX6)
 have HF5:=hide (HF4.out.below hX6)
 have HGA:=hide (HG.out.below hB6')
 have HFA:Hid (Funcs w6 (.slice af t.funcs.length cf) t.funcs):=HF.out.below hB6'
 have hdr:Bl w6 w6.drew:=(Below.refl _ _).drew
 go_wp2_with fail
 go_region_held3 (fun W=>W.cell? ⟨w.heap.size,0,none⟩=some (.slice ag t.globals.length cg)/\W.cell? ⟨w.heap.size,1,none⟩=some (.slice af t.funcs.length cf)/\W.cell? ⟨w4.heap.size,0,none⟩=some (.slice (some ⟨g4,0,none⟩) t.globals.length t.globals.length)/\W.cell? ⟨w4.heap.size,1,none⟩=some (.slice (some ⟨f4,0,none⟩) t.funcs.length t.funcs.length)) (go_simp)
  (first
  | (go_at_call 6;refine (toTree_any t _ _ _ HS.out (HGA.out.below hdr) (HFA.out.below hdr)).mono ?_;rintro e w7 ⟨vg7,vf7,rfl,hg7,hf7,hb7⟩;have hcc : ∀b o,b<w6.heap.size->w7.cell? ⟨b,o,none⟩=w6.cell? ⟨b,o,none⟩:=(bcell hb7).1;have HG7:Hid (Globs w7 vg7 t.globals):=hg7.globs (by have:=HS.out.1;omega);have HF7:Hid (Funcs w7 vf7 t.funcs):=hf7.funcs (by have:=HS.out.2.1;omega) HS.out.2.2;clear hg7 hf7;have hl07:w.heap.size<w7.heap.size:=Nat.lt_of_lt_of_le hl0 hb7.size;have hl47:w4.heap.size<w7.heap.size:=Nat.lt_of_lt_of_le hl4 hb7.size)
  | (go_at_call 9;refine (eqTree_any t _ _ _ _ _ HS.out (HG5.out.below (hdr.trans hb7)) (HF5.out.below (hdr.trans hb7)) HG7.out HF7.out).mono ?_;rintro e w8 ⟨rfl,hb8⟩;have hcc : ∀b o,b<w7.heap.size->w8.cell? ⟨b,o,none⟩=w7.cell? ⟨b,o,none⟩:=(bcell hb8).1))
 have hb68:Bl w6 w8:=(hdr.trans hb7).trans (hb8.mono hb7.size)
 have hX8:=hX6.trans (hb68.mono hX6.size)
 have hB8:=hB6.trans (hb68.mono (by have:=hB6.size;simpa using this))
 have hb8x:=hb6x.trans (hb68.mono (by have:=hb6x.size;simpa using this))
 have HO8:Hid (GRow (w4.heap.size+1) w8 v5 (genE t)):=HO6.out.below hb68
 have HB38:Hid (Bl w3 w8):=HB36.out.trans (hb68.mono HB36.out.size)
 have HSh8:Hid (Sh w3.heap.size w4.heap.size w4 w8):=Sh.of_below hX8
 obtain ⟨x0,x1⟩:=box2 hB8
 obtain ⟨z0,z1⟩:=box2 hb8x
 go_wp2_with fail
 refine (markTree_any w3.heap.size w4.heap.size _ _ t 1 w8 hX8.size HS.out o_ (by have:=HCn.out;omega) (HPG.out.sh HSh8.out) (HPF.out.sh HSh8.out)).mono ?_
 rintro e w9 ⟨rfl,hsh⟩
 have hB89:Below w3.heap.size w8 w9:=hsh.below HB38.out.size
 have hB9:=hB8.trans (hB89.mono o_)
 have HB39:Hid (Bl w3 w9):=HB38.out.trans hB89
 have HO9:Hid (GRow (w4.heap.size+1) w9 v5 (genE t)):=HO8.out.keep fun g hg hlt=>by
  rcases hsh.block g hlt with h | ⟨_,h,_⟩
  ·exact h
  ·omega
 have hk0:(0:Int)<=((1+cntT t:Nat):Int):=by omega
 generalize ((1+cntT t:Nat):Int)=kc at hk0 ⊢
 have hsz9:w3.heap.size<=w9.heap.size:=HB39.out.size
 go_wp2_with fail
 refine (eqItems_any _ _ (genE t) w9 HLn.out HO9.out.items (HVW.out.below HB39.out)).mono ?_
 rintro e w10 ⟨rfl,hb10⟩
 have hB10:=hB9.trans (hb10.mono (by have:=hB9.size;simpa using this))
 have HB310:Hid (Bl w3 w10):=HB39.out.trans (hb10.mono HB39.out.size)
 have HO10:Hid (GRow (w4.heap.size+1) w10 v5 (genE t)):=HO9.out.below hb10
 go_wp2_with fail
 refine (markIO_any HLn.out HO10.out).mono ?_
 rintro e w11 ⟨rfl,hb11,hmk⟩
 obtain ⟨mm,hmm⟩ : ∃mm:Int,mm=((1+7*(genE t).length:Nat):Int):=⟨_,rfl⟩
 rw [<-hmm]
 have HMm:=hide hmm
 have hm0:(0:Int)<=mm:=by omega
 have hB11:=hB10.trans (hb11.mono o_)
 have HB311:Hid (Bl w3 w11):=HB310.out.trans (hb11.mono o_)
 have HMk:=hide hmk
 go_wp2_with fail
 refine (heldIO_any HLn.out HMk.out).mono ?_
 rintro e w12 ⟨rfl,hb12⟩
 have hB12:=hB11.trans (hb12.mono (by have:=hB11.size;simpa using this))
 have HB312:Hid (Bl w3 w12):=HB311.out.trans (hb12.mono HB311.out.size)
 rw [<-HMm.out]
 have hB12':=one_below hB12
 obtain ⟨x0,x1⟩:=box2 hB12
 go_wp2_with fail
 refine (toTree_any t _ _ _ HS.out (HG.out.below hB12') (HF.out.below hB12')).mono ?_
 rintro e w13 ⟨vg13,vf13,rfl,hg13,hf13,hb13⟩
 have HG13:Hid (Globs w13 vg13 t.globals):=hg13.globs (by have:=HS.out.1;omega)
 have HF13:Hid (Funcs w13 vf13 t.funcs):=hf13.funcs (by have:=HS.out.2.1;omega) HS.out.2.2
 have hB13:=hB12'.trans (hb13.mono hB12'.size)
 have HB313:Hid (Bl w3 w13):=HB312.out.trans (hb13.mono HB312.out.size)
 go_wp2_with fail
 refine (genI_any t _ _ _ (HT.out.below hsz hB13) (HTg.out.below hB13) HS.out HW.out HG13.out HF13.out).mono ?_
 rintro e w14 ⟨v14,rfl,hown14,hb14⟩
 have HO14:Hid (Items w14 v14 (genE t)):=hown14.items
 have hB14:=hB13.trans (hb14.mono hB13.size)
 have HB314:Hid (Bl w3 w14):=HB313.out.trans (hb14.mono HB313.out.size)
 go_wp2_with fail
 refine (eqItems_any _ _ (genE t) w14 HLn.out HO14.out (HVW.out.below HB314.out)).mono ?_
 rintro e w15 ⟨rfl,hb15⟩
 have hB15:=hB14.trans (hb15.mono hB14.size)
 go_wp2_with fail
 go_ret
 exact ⟨rfl,hB15⟩
end Go.Proofs.YtnpidjamplmgjaaGreatDoor
