import Derived.Test.YtffnkkpmlplfeaaGreatDoorN35
import Derived.Test.YtffnkkpmlplfeaaGreatDoorN41
import Derived.Laws.EntriesVeiled
namespace Go.Proofs.YtffnkkpmlplfeaaGreatDoor
open Go.Proofs.Tryz
open Go.RowKit
set_option linter.all false
set_option maxRecDepth 100000
set_option maxHeartbeats 16000000
variable[Inhabited Pick]
theorem look_numI {W:World} {b nn:Nat} {D:DataW Unit} {fs:List Fu} (hown:W.ownsMap prog 9 (plainElem (H:=Unit) prog 2) b nn D) (hN:NumIs D fs) {s:ByteArray} (hs:s.size<=maxLen) {i:Nat} (h:fnum fs s=some i) :
  (Instr.lookup 77 (.map (some b)) (.string s) false).run prog W=.ok (.int .i64 (i:Int)) W:=by
 obtain⟨c,hrun,hc,_⟩:=hown.lookup_int (Maps.string_keyed underlying9) underlying77 underlying2 (zeroValue2 _) (WideMaps.keyOf_string_mk underlying9 hs);rw[hN.val s i h] at hc;simp only[DataW.lit.injEq,Lit.int.injEq,true_and] at hc;subst hc;exact hrun
theorem circlesK {E:CkV} {w:World} {v:Value} {bt:Nat} {tk:List ByteArray} (h:Cs E w [] [] v bt tk (-1) (-1)) (m:Nat) (hm:fnum E.t.funcs mainS=some m) (hfl:E.t.funcs.length<=1000) (hw:wfFs E.t.funcs) (hsm : ∀f∈E.t.funcs,smallF f) :
  Calls prog 108 #[.pointer (some ⟨E.C,0,none⟩)] w λe w'=>e=.returned (errV (circE E.t m 0 E.t.funcs.length).1 (circE E.t m 0 E.t.funcs.length).2.1 (circE E.t m 0 E.t.funcs.length).2.2)/\Below E.w0.heap.size E.w0 w':=by
 have HC:=hide h;obtain⟨RES,hRES⟩ : ∃R,R=circE E.t m 0 E.t.funcs.length:=⟨_,rfl⟩;rw[<-hRES];have HRES:=hide hRES;have hmn:=fnum_lt hm;have HMm:=hide hm;have hsM:mainS.size<=maxLen:=by unfold maxLen;decide
 obtain⟨af,cf,hvf,-⟩:=h.fun0.1;obtain⟨ag,cg,hvg,-⟩:=h.fun0.2;have c1:=h.box.c1;have c2:=h.box.c2;have c3:=h.box.c3;have hC:=h.ltC;rw[hvg] at c1;rw[hvf] at c2;have HFf:Hid (Funcs w (.slice af E.t.funcs.length cf) E.t.funcs):=by have:=h.fun0.1.below h.base;rw[hvf] at this;exact this
 obtain⟨HW,HSm⟩:=h2 hw hsm;go_enter func108,ntmps108;go_wp2_with fail;refine (graph_any E.t.funcs _ _ _ hfl ⟨_,_,_,rfl⟩ HW HSm HFf).mono ?_;rintro e w1 ⟨vgr,rfl,hgr,hb1⟩;have HC1:Hid (Cs E w1 [] [] v bt tk (-1) (-1)):=HC.o.below hb1;have HGr:=hide hgr;have d3:=(hb1.cell (p:=⟨E.C,3,none⟩) hC).trans c3;have hlook:(Instr.lookup 77 (.map (some E.bn)) (.string ⟨#[109,97,105,110]⟩) false).run prog w1=_:=look_numI HC1.o.own HC1.o.num hsM HMm;obtain⟨G,capG,rfl,-⟩:=hgr;go_wp2_with fail;refine (reached_any E.t _ m w1 hmn hfl HGr).mono ?_;rintro e w2 ⟨v2,out,rfl,htr,hout,hb2⟩;have HC2:Hid (Cs E w2 [] [] v bt tk (-1) (-1)):=HC1.o.below hb2;obtain⟨HG2,HTR,HOut⟩:=h3 (HGr.o.below hb2) htr hout;obtain⟨g5,c5,rfl,-,hg5⟩:=htr.form o_;go_wp2_with fail;go_loopw [23] (λj wr=>∃(k:Nat),k<=E.t.funcs.length/\j=.int .i64 k/\RES=circE E.t m k (E.t.funcs.length-k)/\Bl w2 wr) (λj _=>E.t.funcs.length-(RowKit.intOf j).toNat)
 case atStart=>exact⟨0,y_,rfl,by simpa using HRES.o,r_⟩
 case round=>
  obtain⟨k,hk,rfl,hres,hB⟩:=hrel;have HRES:=hide hres;have hcs:=HC2.o.below hB;have HCr:=hide hcs;have y5:=hcs.box.c5;have f5:=hcs.box.fz 5;have hC:=hcs.ltC;by_cases hlt:k<E.t.funcs.length
  ·have HR2:Hid (RES=circE E.t m k ((E.t.funcs.length-(k+1))+1)):=by
    show _=_;rw[HRES.o];congr 1
    omega
   have t0:=((HTR.o.below hB).cell k hlt).1;have HRe:=hide (reached_any E.t _ k wr hlt hfl (HG2.o.below hB));by_cases hkm:k=m
   ·subst hkm;have b1:((k:Int) == (k:Int))=true:=by simp
    go_wp2_with fail;refine HRe.o.mono ?_;rintro e w3 ⟨v3,out3,rfl,htr3,ho3,hb3⟩;obtain⟨g3,c3,rfl,-,-⟩:=htr3.form o_;have t3:=(htr3.cell k hlt).1;have hB3:Bl w2 w3:=hB.trans (hb3.mono hB.size);have HC3:Hid (Cs E w3 [] [] v bt tk (-1) (-1)):=HCr.o.below hb3;have z5:=(hb3.cell (p:=⟨E.C,5,none⟩) hC).trans y5;have zf:=(hb3.frozen (p:=⟨E.C,5,none⟩) hC).trans f5;by_cases ho:k∈out3
    ·have HE:Hid (RES=(7,(k:Int),-1)):=by show _=_;rw[HR2.o];exact circE_hit ⟨.inl rfl,(ho3 k).1 ho⟩
     rw[decide_eq_true ho] at t3;have HC4:=hide (HC3.o.put 5 _ (HC3.o.box.s5 (k:Int)));go_wp2_with fail;refine (fault_any E.C 7 (k:Int) (-1) _ HC4.o.box.c5 HC4.o.box.c6).mono ?_;rintro e w5 ⟨rfl,hw⟩;rw[hw];go_wp2;go_ret;exact⟨ret_val (by rw[HE.o];rfl),HC4.o.base⟩
    ·have HN:Hid (RES=circE E.t k (k+1) (E.t.funcs.length-(k+1))):=by show _=_;rw[HR2.o];exact circE_step (λh=>ho ((ho3 k).2 h.2))
     rw[decide_eq_false ho] at t3;go_wp2_with fail;go_roundw
     case rel=>exact⟨k+1,by omega,by go_num,HN,hB3⟩
     case measure=>simp[RowKit.intOf];omega
   have b1:((k:Int) == (m:Int))=false:=by
    have : ¬(k:Int)=(m:Int):=by omega
    simpa using this
   by_cases hko:k∈out
   ·have HA:Hid (k=m∨Rch E.t m k):=.inr ((HOut k).1 hko);rw[decide_eq_true hko] at t0;go_wp2_with fail;refine HRe.o.mono ?_;rintro e w3 ⟨v3,out3,rfl,htr3,ho3,hb3⟩;obtain⟨g3,c3,rfl,-,-⟩:=htr3.form o_;have t3:=(htr3.cell k hlt).1;have hB3:Bl w2 w3:=hB.trans (hb3.mono hB.size);have HC3:Hid (Cs E w3 [] [] v bt tk (-1) (-1)):=HCr.o.below hb3;have z5:=(hb3.cell (p:=⟨E.C,5,none⟩) hC).trans y5;have zf:=(hb3.frozen (p:=⟨E.C,5,none⟩) hC).trans f5;by_cases ho:k∈out3
    ·have HE:Hid (RES=(7,(k:Int),-1)):=by show _=_;rw[HR2.o];exact circE_hit ⟨HA,(ho3 k).1 ho⟩
     rw[decide_eq_true ho] at t3;have HC4:=hide (HC3.o.put 5 _ (HC3.o.box.s5 (k:Int)));go_wp2_with fail;refine (fault_any E.C 7 (k:Int) (-1) _ HC4.o.box.c5 HC4.o.box.c6).mono ?_;rintro e w5 ⟨rfl,hw⟩;rw[hw];go_wp2;go_ret;exact⟨ret_val (by rw[HE.o];rfl),HC4.o.base⟩
    ·have HN:Hid (RES=circE E.t m (k+1) (E.t.funcs.length-(k+1))):=by show _=_;rw[HR2.o];exact circE_step (λh=>ho ((ho3 k).2 h.2))
     rw[decide_eq_false ho] at t3;go_wp2_with fail;go_roundw
     case rel=>exact⟨k+1,by omega,by go_num,HN,hB3⟩
     case measure=>simp[RowKit.intOf];omega
   ·have HN:Hid (RES=circE E.t m (k+1) (E.t.funcs.length-(k+1))):=by
     show _=_;rw[HR2.o];refine circE_step (λh => ?_);rcases h.1 with h1|h1
     ·exact hkm h1
     ·exact hko ((HOut k).2 h1)
    rw[decide_eq_false hko] at t0;go_wp2_with fail;go_roundw
    case rel=>exact⟨k+1,by omega,by go_num,HN,hB⟩
    case measure=>simp[RowKit.intOf];omega
  ·have HN:Hid (RES=(0,-1,-1)):=by
    show _=_;have e:E.t.funcs.length-k=0:=by omega
    rw[HRES.o,e];rfl
   go_wp2;go_ret;exact⟨ret_val (by rw[HN.o];rfl),HCr.o.base⟩
theorem fidx0 (a b c d:Value) (W:World):(Instr.index 165 (.agg #[a,b,c,d]) (.int .i64 0)).run prog W=.ok a W:=by kernel_rfl
theorem fidx1 (a b c d:Value) (W:World):(Instr.index 165 (.agg #[a,b,c,d]) (.int .i64 1)).run prog W=.ok b W:=by kernel_rfl
theorem fidx2 (a b c d:Value) (W:World):(Instr.index 165 (.agg #[a,b,c,d]) (.int .i64 2)).run prog W=.ok c W:=by kernel_rfl
theorem fidx3 (a b c d:Value) (W:World):(Instr.index 165 (.agg #[a,b,c,d]) (.int .i64 3)).run prog W=.ok d W:=by kernel_rfl
theorem checkI_any (t:Tr) (vg vf:Value) (w:World) (hT:Tab w) (hs:smallT t) (hw:wfT t) (hg:Globs w vg t.globals) (hf:Funcs w vf t.funcs) :
  Calls prog 67 #[.agg #[vg,vf]] w λe w'=>e=.returned (errV (checkE t).1 (checkE t).2.1 (checkE t).2.2)/\Below w.heap.size w w':=by
 obtain⟨RES,hRES⟩ : ∃R,R=checkE t:=⟨_,rfl⟩;rw[<-hRES];obtain⟨HRES,HT,HS,HW,HG,HF⟩:=h6 hRES hT hs hw hg hf;obtain⟨ag,cg,rfl,-⟩:=hg;obtain⟨af,cf,rfl,-⟩:=hf;have hmf : ∀(fn:Fn) (first cap:Array Value) (w:World),(Instr.makeFunc fn first cap).run prog w=.ok (.func fn first cap) w:=λ_ _ _ _=>rfl;clear hT hs hw hRES;go_enter func67,ntmps67;go_wp2_with fail;obtain⟨W0,hW0⟩ : ∃W0,W0=(w.alloc (.cells #[.slice ag t.globals.length cg,.slice af t.funcs.length cf] 34)).alloc (.cells #[.slice none 0 0,.slice ag t.globals.length cg,.slice af t.funcs.length cf,.map none,.map none,.int .i64 (-1),.int .i64 (-1)] 162):=⟨_,rfl⟩;obtain⟨T0,hT0⟩ : ∃T0,T0=w.heap.size:=⟨_,rfl⟩;obtain⟨C,hC⟩ : ∃C,C=w.heap.size+1:=⟨_,rfl⟩;have hA0:Bl w W0:=by rw[hW0];exact (bel_a _ _).alloc (by simp) _
 have a0:W0.cell? ⟨T0,0,none⟩=some (.slice ag t.globals.length cg):=by rw[hW0,hT0,World.cell?_alloc_lt _ _ ⟨w.heap.size,0,none⟩ (by simp)];simp
 have a1:W0.cell? ⟨T0,1,none⟩=some (.slice af t.funcs.length cf):=by rw[hW0,hT0,World.cell?_alloc_lt _ _ ⟨w.heap.size,1,none⟩ (by simp)];simp
 have hat : ∀o,W0.cell? ⟨C,o,none⟩=(#[.slice none 0 0,.slice ag t.globals.length cg,.slice af t.funcs.length cf,.map none,.map none,.int .i64 (-1),.int .i64 (-1)]:Array Value)[o]? := λo=>by rw[hW0];exact World.cell?_alloc_at _ _ _ _ (by simp[hC])
 have hfz : ∀o,W0.frozen? ⟨C,o,none⟩=false:=λo=>by rw[hW0];exact World.frozen?_alloc_at _ _ _ _ (by simp[hC])
 obtain⟨HCell,HFz⟩:=h2 hat hfz;have hCs:C<W0.heap.size:=by rw[hW0,hC];simp
 have hTs:T0<W0.heap.size:=by rw[hW0,hT0];simp;omega
 have hTC:T0≠C:=by omega
 have hwC:w.heap.size<=C:=by omega
 rw[<-hW0,<-hC,<-hT0];clear hW0 hC hT0 hat hfz;refine (vtree_any t _ _ _ (HT.o.below HT.o.size hA0) HS (HG.o.below hA0) (HF.o.below hA0)).mono ?_;rintro e w1 ⟨rfl,hb1⟩;have b0:=(hb1.cell (p:=⟨T0,0,none⟩) hTs).trans a0;have b1:=(hb1.cell (p:=⟨T0,1,none⟩) hTs).trans a1;have hB1:Bl w w1:=hA0.trans (hb1.mono hA0.size);have HC1:=hide λo=>(hb1.cell (p:=⟨C,o,none⟩) hCs).trans (HCell o);have HF1:Hid (∀o,w1.frozen? ⟨C,o,none⟩=false):=λo=>(hb1.frozen (p:=⟨C,o,none⟩) hCs).trans (HFz o);have hC1:C<w1.heap.size:=l_ hCs hb1.size;have hT1:T0<w1.heap.size:=l_ hTs hb1.size;clear hb1 a0 a1 HCell HFz hCs hTs hA0;cases htb:treeB t with
 | false=>
  have HE:Hid (RES=(1,-1,-1)):=HRES.o.trans (check_tree htb);clear htb;go_wp2_with fail;refine (fault_any C 1 (-1) (-1) _ (HC1 5) (HC1 6)).mono ?_;rintro e w5 ⟨rfl,hw⟩;rw[hw];clear hw;go_wp2;go_ret;exact⟨ret_val (by rw[HE.o];rfl),hB1⟩
 | true=>
  have HB:=hide htb;have hok:=okt htb HS HW;have HOk:=hide hok;have hfl:=hok.fl;have hgl:=hok.gl;clear htb hok;go_wp2_with fail;refine (fnums_any t.funcs _ _ _ o_ HOk.o.wf (HF.o.below hB1)).mono ?_;rintro e w2 ⟨bn,D,rfl,hbn,hown,hN,hb2⟩;have hB2:Bl w w2:=hB1.trans (hb2.mono hB1.size);have HC2:=hide λo=>(hb2.cell (p:=⟨C,o,none⟩) hC1).trans (HC1 o);have HF2:Hid (∀o,w2.frozen? ⟨C,o,none⟩=false):=λo=>(hb2.frozen (p:=⟨C,o,none⟩) hC1).trans (HF1 o);have hC2:C<w2.heap.size:=l_ hC1 hb2.size;have hbC:C<bn:=by omega
  obtain⟨HOw,HN⟩:=h2 hown hN;have q3:w2.cell? ⟨C,3,none⟩=some (.map none):=HC2 3;have qf:=HF2 3;clear hb2 hown hN hbn b0 b1 HC1 HF1;have i0:=fidx0;have i1:=fidx1;have i2:=fidx2;have i3:=fidx3;go_wp2_with fail;obtain⟨W4,hW4⟩ : ∃W4,W4=(w2.setCell ⟨C,3,none⟩ (.map (some bn))).alloc (.cells #[.func (.func 105) #[.pointer (some ⟨C,0,none⟩)] #[],.func (.func 106) #[.pointer (some ⟨C,0,none⟩)] #[],.func (.func 107) #[.pointer (some ⟨C,0,none⟩)] #[],.func (.func 108) #[.pointer (some ⟨C,0,none⟩)] #[]] 165):=⟨_,rfl⟩;have HCt:Hid (Ct0 w C bn t.funcs.length D t (.slice ag t.globals.length cg) (.slice af t.funcs.length cf) W4):=by
   have hcell : ∀o,o≠3->W4.cell? ⟨C,o,none⟩=w2.cell? ⟨C,o,none⟩:=λo ho=>by
    rw[hW4,World.cell?_alloc_lt _ _ ⟨C,o,none⟩ (by simpa using hC2)];exact s_ _ _ _ _ (off_ne (λe=>ho e.symm))
   have h3:W4.cell? ⟨C,3,none⟩=some (.map (some bn)):=by
    rw[hW4,World.cell?_alloc_lt _ _ ⟨C,3,none⟩ (by simpa using hC2)];exact World.cell?_setCell_same _ _ _ q3
   have hbw:Bl w W4:=by
    rw[hW4];exact (hB2.setCell (p:=⟨C,3,none⟩) hwC _).alloc (by have:=hB2.size;simpa using this) _
   exact⟨(hcell 0 (by decide)).trans (HC2 0),(hcell 1 (by decide)).trans (HC2 1),(hcell 2 (by decide)).trans (HC2 2),h3,⟨_,(hcell 4 (by decide)).trans (HC2 4)⟩,(hcell 5 (by decide)).trans (HC2 5),(hcell 6 (by decide)).trans (HC2 6),λo=>by
    rw[hW4,World.frozen?_alloc_past _ _ _ (by simpa using hC2)];simpa using HF2.o o,hwC,hbw,⟨HF.o,HG.o⟩,map_keep HOw.o (by rw[hW4,Below.heap_alloc _ _ _ (by have:=HOw.o.lt;simpa using this),Below.heap_setCell _ _ _ bn (λh=>by simp at h;omega)]),HN.o,hbC⟩
  refine wp_loop_rounds 5 ?_;rw[rounds_succ];go_wp2_with fail;rw[<-hW4];obtain⟨E,hE⟩ : ∃E:CkV,E=⟨w,C,W4.heap.size+1,bn,t.funcs.length,D,t,.slice ag t.globals.length cg,.slice af t.funcs.length cf,λ_=>none,λ_=>false,0⟩:=⟨_,rfl⟩;have HTop:Hid (Calls prog 105 #[.pointer (some ⟨C,0,none⟩)] W4 λe w'=>e=.returned (errV (topE t).1 (topE t).2.1 (topE t).2.2) /\
   ∃gf' ng' v bt tk fn st,Cs {E with gf:=gf',ng:=ng'} w' [] [] v bt tk fn st/\((topE t).1=0->gf'=globF t.globals/\ng'<=1000/\fn = -1/\st = -1)):=by
   subst hE;exact topK (E:=⟨w,C,W4.heap.size+1,bn,t.funcs.length,D,t,.slice ag t.globals.length cg,.slice af t.funcs.length cf,λ_=>none,λ_=>false,0⟩) (w:=W4) HCt rfl rfl rfl rfl (by show t.globals.length<=_;omega) (by show t.funcs.length<=_;omega) HOk.o.g HOk.o.fn
  have HEe:=hide hE;clear hW4 hE HCt HC2 HF2 HOw q3 qf;refine HTop.o.mono ?_;rintro e w5 ⟨rfl,gf5,ng5,v5,bt5,tk5,fn5,st5,hc5,hi5⟩;have hB5:Bl w w5:=by have:=hc5.base;rw[HEe.o] at this;exact this
  by_cases hz:(topE t).1=0
  ·obtain⟨rfl,hng5,rfl,rfl⟩:=hi5 hz;rw[hz,errV_zero];obtain⟨HZ,HC5⟩:=h2 hz hc5;clear hz hi5 hc5;go_wp2_with fail;rw[rounds_succ];go_wp2_with fail;have HMa:Hid (Calls prog 106 #[.pointer (some ⟨C,0,none⟩)] w5 λe w'=>e=.returned (errV (mainE t) (-1) (-1))/\Bl w5 w'):=by
    have h:=HC5;have hb:=h.box;have hf:=h.fun0.1.below h.base;rw[HEe.o] at hb hf;have h1:=h.own;have h2:=h.num;rw[HEe.o] at h1 h2;exact mainK_any C bn t.funcs.length D t (-1) (-1) _ w5 hb.c2 hb.c3 hb.c5 hb.c6 h1 h2 o_ hf
   refine HMa.o.mono ?_;rintro e w6 ⟨rfl,hb6⟩;have HC6:=hide (HC5.o.below hb6);have hB6:Bl w w6:=hB5.trans (hb6.mono hB5.size);clear hb6 HC5 HMa hB5;by_cases hz:mainE t=0
   ·rw[hz,errV_zero];obtain⟨m,hm⟩:=main_zero hz;have HM:=hide hm;have HNz:Hid ((namesE t).1=0):=by show _=_;rw[names_main HZ.o];exact hz
    clear hz hm HZ;go_wp2_with fail;rw[rounds_succ];go_wp2_with fail;have HFu:Hid (Calls prog 107 #[.pointer (some ⟨C,0,none⟩)] w6 λe w'=>e=.returned (errV (bodiesE t 0 t.funcs).1 (bodiesE t 0 t.funcs).2.1 (bodiesE t 0 t.funcs).2.2) /\
   ∃g' v' bt' tk' fn' st',Cs {E with gf:=globF t.globals,ng:=ng5,gp:=g'} w' [] [] v' bt' tk' fn' st'/\((bodiesE t 0 t.funcs).1=0->fn' = -1/\st' = -1)):=by
     have h:=HC6;have he:=HEe;subst he;exact functionsK (E := {w0:=w,C:=C,bg:=W4.heap.size+1,bn:=bn,nn:=t.funcs.length,D:=D,t:=t,vg:=.slice ag t.globals.length cg,vf:=.slice af t.funcs.length cf,gf:=globF t.globals,gp:=λs=>decide (0<=globI t.globals s),ng:=ng5}) (g0:=λ_=>false) h hng5 rfl rfl (λg hg=>(HOk.o.g g hg).2.1) (by show t.funcs.length<=_;omega) HOk.o.f
    refine HFu.o.mono ?_;rintro e w7 ⟨rfl,g7,v7,bt7,tk7,fn7,st7,hc7,hi7⟩;have hB7:Bl w w7:=by have:=hc7.base;rw[HEe.o] at this;exact this
    clear HC6 HFu hB6;by_cases hz:(bodiesE t 0 t.funcs).1=0
    ·obtain⟨rfl,rfl⟩:=hi7 hz;rw[hz,errV_zero];have HC7:=hide hc7;have HN7:Hid (RES=circE t m 0 t.funcs.length):=HRES.o.trans (check_circ HB HNz hz HM);clear hz hi7 hc7 HRES;go_wp2_with fail;rw[rounds_succ];go_wp2_with fail;have HCi:Hid (Calls prog 108 #[.pointer (some ⟨C,0,none⟩)] w7 λe w'=>e=.returned (errV (circE t m 0 t.funcs.length).1 (circE t m 0 t.funcs.length).2.1 (circE t m 0 t.funcs.length).2.2)/\Bl w w'):=by
      have h:=HC7;have he:=HEe;subst he;exact circlesK h m HM (by show t.funcs.length<=_;omega) HOk.o.wf HOk.o.sm
     refine HCi.o.mono ?_;rintro e w8 ⟨rfl,hB8⟩;rw[<-HN7.o];clear HC7 HCi hB7;by_cases hz:RES.1=0
     ·rw[hz,errV_zero];have HZ8:=hide hz;clear hz;go_wp2_with fail;rw[rounds_succ];go_wp2;go_ret;exact⟨ret_val (by rw[HZ8.o];rfl),hB8⟩
     ·rw[errV_ne hz];have HZ8:=hide hz;clear hz;go_wp2;go_ret;exact⟨ret_val (by rw[errV_ne HZ8.o];rfl),hB8⟩
    ·have HNe:Hid (RES=bodiesE t 0 t.funcs):=HRES.o.trans (check_bodies HB HNz hz);have HZ2:=hide hz;rw[errV_ne hz];generalize bodiesE t 0 t.funcs=z at HNe HZ2 ⊢;clear hz hi7 hc7;go_wp2;go_ret;exact⟨ret_val (by rw[HNe.o,errV_ne HZ2.o];rfl),hB7⟩
   ·have HNe:Hid (RES=(mainE t,-1,-1)):=by
     show _=_;have:=names_main HZ.o
     rw[HRES.o,check_names HB.o (by rw[this];exact hz),this]
    have HZ2:=hide hz;rw[errV_ne hz];generalize mainE t=z at HNe HZ2 ⊢;clear hz;go_wp2;go_ret;exact⟨ret_val (by rw[HNe.o,errV_ne HZ2.o];rfl),hB6⟩
  ·have HNe:Hid (RES=topE t):=by
    show _=_;have:=names_top hz
    rw[HRES.o,check_names HB.o (by rw[this];exact hz),this]
   have HZ2:=hide hz;rw[errV_ne hz];generalize topE t=z at HNe HZ2 ⊢;clear hz hi5 hc5;go_wp2;go_ret;exact⟨ret_val (by rw[HNe.o,errV_ne HZ2.o];rfl),hB5⟩
section
open Classical in
theorem sound_any (t:Tr) (vg vf:Value) (w:World) (hT:Tab w) (hs:smallT t) (hw:wfT t) (hg:Globs w vg t.globals) (hf:Funcs w vf t.funcs) :
  Calls prog 37 #[.agg #[vg,vf]] w λe w'=>e=.returned (.bool (decide ((checkE t).1=0)))/\Below w.heap.size w w':=by
 obtain⟨x,y,z,hX⟩ : ∃x y z,checkE t=(x,y,z):=⟨_,_,_,rfl⟩;obtain⟨ag,cg,rfl,-⟩:=id hg;obtain⟨af,cf,rfl,-⟩:=id hf;have hA : ∀o,Bl w (w.alloc o):=λo=>r_.alloc n_ o;have HC:Hid (∀W,Bl w W->Calls prog 67 #[.agg #[.slice ag t.globals.length cg,.slice af t.funcs.length cf]] W λe w'=>e=.returned (errV x y z)/\Bl W w'):=λW hW=>by
  have:=checkI_any t _ _ W (hT.below hT.size hW) hs hw (hg.below hW) (hf.below hW)
  rw[hX] at this;exact this
 rw[hX];simp only;by_cases hz:x=0
 ·subst hz;rw[decide_eq_true rfl];go_enter func37,ntmps37;go_wp2_with fail;refine (HC _ (hA _)).mono ?_;rintro e w1 ⟨rfl,hb1⟩;rw[errV_zero];have hB1:=(hA _).trans (hb1.mono (hA _).size);go_wp2;go_ret;exact⟨rfl,hB1⟩
 ·rw[decide_eq_false hz];go_enter func37,ntmps37;go_wp2_with fail;refine (HC _ (hA _)).mono ?_;rintro e w1 ⟨rfl,hb1⟩;rw[errV_ne hz];have hB1:=(hA _).trans (hb1.mono (hA _).size);go_wp2;go_ret;exact⟨rfl,hB1⟩
end
end Go.Proofs.YtffnkkpmlplfeaaGreatDoor
