import Derived.Test.YtnpidjamplmgjaaGreatDoorQ30
set_option linter.unusedSectionVars false
variable [Inhabited Go.Proofs.YtnpidjamplmgjaaGreatDoor.Pick]
namespace Go.Proofs.YtnpidjamplmgjaaGreatDoor
open Go.RowKit
set_option linter.unusedVariables false
set_option linter.unusedSimpArgs false
set_option maxRecDepth 100000
set_option maxHeartbeats 16000000
theorem tl_nil (n:Nat):tl n []=List.replicate n (.bool false):=by
 apply List.ext_getElem
 ·simp [tl]
 ·intro i h1 h2
  simp [tl]
theorem IRow.cut {B:Nat} {w:World} {v:Value} {l:List Nat} {x:Nat} (h:IRow B w v (l++[x])) : ∃g cap,v = .slice (some ⟨g,0,none⟩) (l.length+1) cap/\B<=g/\l.length+1<=cap/\cap<=maxLen/\w.cell? ⟨g,l.length,none⟩=some (.int .i64 (x:Int))/\IRow B w (.slice (some ⟨g,0,none⟩) l.length cap) l:=by
 have h0:=h
 obtain ⟨g1,g2⟩:=h
 rcases g2 with ⟨_,hz⟩ | ⟨g,cap,cur,rfl,g3,g4,g5,g6,g7,g8⟩
 ·simp at hz
 ·simp only [l_a,l_c,l_n,Nat.zero_add,Nat.mul_one,List.map_append,List.map_cons,List.map_nil] at g1 g5 g7 g8
  refine ⟨g,cap,by simp,g3,g5,g6,?_,by simp,.inr ⟨g,cap,cur,rfl,g3,g4,by omega,g6,by omega,?_⟩⟩
  ·have:=World.ownsRow.cellAt h0 l.length (by simp)
   rw [this]
   simp
  ·rw [Nat.mul_one]
   have e:cur.toList.take l.length=(cur.toList.take (l.length+1)).take l.length:=by rw [List.take_take];congr 1;omega
   rw [e,g8]
   simp
theorem irow_one (W:World) (B:Nat) (hB:B<=W.heap.size) (x:Nat):IRow B (W.alloc (.cells #[.int .i64 (x:Int)] 2)) (.slice (some ⟨W.heap.size,0,none⟩) 1 1) [x]:=World.ownsRow_lit W #[.int .i64 (x:Int)] 1 hB (by decide) rfl
theorem IRow.set {B:Nat} {w:World} {v:Value} {l:List Nat} {g o:Nat} {u:Value} (h:IRow B w v l) (hg:g<B):IRow B (w.setCell ⟨g,o,none⟩ u) v l:=by
 obtain ⟨g1,g2⟩:=h
 refine ⟨g1,?_⟩
 rcases g2 with g2 | ⟨b,cap,cur,rfl,g3,g4,g5⟩
 ·exact .inl g2
 ·refine .inr ⟨b,cap,cur,rfl,g3,?_,g5⟩
  rw [Below.heap_setCell _ _ _ b (fun h=>by simp at h;omega)]
  exact g4
theorem reached_any (t:Tr) (vgr:Value) (f:Nat) (w:World) (hf:f<t.funcs.length) (hl:t.funcs.length<=1000) (hg:Graph w vgr t.funcs) :
  Calls Tryz.prog 159 #[vgr,.int .i64 (f:Int)] w fun e w'=>∃v out,e = .returned v/\TRow w.heap.size w' v t.funcs.length out/\(∀g,g∈out↔Rch t f g)/\Below w.heap.size w w':=by
 obtain ⟨G,cap,rfl,hgc⟩:=hg
 have HG:=hide hgc
 obtain ⟨i0,hi,hz0,hz1,hz2⟩:=info_parts info_bool
 obtain ⟨i1,hj,hy0,hy1,hy2⟩:=info_parts info_i64
 clear hgc
 obtain ⟨n,hn⟩ : ∃n,n=t.funcs.length:=⟨_,rfl⟩
 rw [<-hn] at hf hl HG ⊢
 have HN:=hide hn
 clear hn
 go_enter Tryz.func159,Tryz.ntmps159
 go_wp2_with (at_make;refine wpList_make_full _ rfl _ _ 149 rfl w.heap.size 4 i0 (.bool false) 1 Tryz.underlying149 hi hz0 hz1 _ _ _ _ n rfl rfl o_ o_ ?_ ?_ (Nat.le_refl _) ?_)
 ·rw [hz2];omega
 ·unfold maxLen;omega
 intro w1 hown1 hgrow1
 have hb1:Bl w w1:=(Below.refl _ _).grown hgrow1 (Nat.le_refl _) (by simp)
 have HT1:Hid (TRow w.heap.size w1 (.slice (some ⟨w.heap.size,0,none⟩) n n) n []):=by
  show World.ownsRow _ _ _ _ _ _ _
  rw [tl_nil,<-toList_madeCells_one]
  exact hown1
 have hs1:w.heap.size<w1.heap.size:=(World.ownsRow.lt hown1 w.heap.size rfl).2
 obtain ⟨F,hF⟩ : ∃F,F=w.heap.size:=⟨_,rfl⟩
 rw [<-hF] at HT1 hs1 ⊢
 have HFw:=hide hF
 clear hown1 hgrow1 hF
 go_wp2_with fail
 have HI1:=hide (irow_one w1 _ hs1 f)
 have HT2:Hid (TRow F (w1.alloc (.cells #[.int .i64 (f:Int)] 2)) (.slice (some ⟨F,0,none⟩) n n) n []):=HT1.out.below (bel_a _ _)
 have hB1:Bl w (w1.alloc (.cells #[.int .i64 (f:Int)] 2)):=hb1.alloc hb1.size _
 go_loopg [6] (n+1) (fun gk lv wr=>∃(out work:List Nat),gk=(n-out.length)+work.length/\gk<=n+1/\RInv t f out work/\TRow F wr (.slice (some ⟨F,0,none⟩) n n) n out/\IRow (F+1) wr lv work/\F<wr.heap.size/\Bl w wr)
 case atStart=>exact ⟨[],[f],by simp,Nat.le_refl _,RInv.start t f,HT2.out,HI1.out,by simp;omega,hB1⟩
 case round=>
  clear HI1 HT1 HT2 hB1 hb1 hs1
  obtain ⟨out,work,hgk,hgn,hI,hT,hW,hFs,hB⟩:=hrel
  rcases List.eq_nil_or_concat work with rfl | ⟨rest,x,rfl⟩
  ·have HE:Hid (∀g,g∈out↔Rch t f g):=fun g=>hI.all g
   have HT:=hide hT
   obtain ⟨a6,c6,rfl⟩:=hW.shape
   simp only [l_n]
   clear hT hW hI
   go_wp2_with fail
   go_ret
   exact ⟨_,out,rfl,by rw [<-HFw.out];exact HT.out,HE.out,hB⟩
  ·simp only [List.concat_eq_append] at hgk hI hW
   have hxn:x<n:=by have:=hI.lt (by rw [<-HN.out];exact hf) x (by simp);rw [HN.out];exact this
   have HM:Hid (RMid t f x [] out rest):=hI.take (by simp) (fun y=>by simp [or_comm])
   obtain ⟨g6,c6,rfl,hg6,hc61,hc62,q6,hW2⟩:=hW.cut
   have HW2:=hide hW2
   have HT:=hide hT
   obtain ⟨vx,qx,hix⟩:=HG.out x hxn
   have qx':=(hB.cell (p:=⟨G,x,none⟩) (World.block_lt_of_cell? _ _ qx)).trans qx
   have HIx:=hide hix
   obtain ⟨L,hL⟩ : ∃L,L=callsL t.funcs (t.funcs.getD x ⟨⟨#[]⟩,[],[]⟩).body:=⟨_,rfl⟩
   have HL:Hid (∀y,CallR t x y↔y∈L):=fun y=>by
    rw [hL]
    unfold CallR
    exact ⟨fun h=>h.2,fun h=>⟨by rw [<-HN.out];exact hxn,h⟩⟩
   have HCI:Hid (callI t.funcs x=L.map (fun g:Nat=>(g:Int))):=by show _=_;rw [hL];rfl
   obtain ⟨ax,cx,hvx,hxc⟩:=hix
   have hlen:(callI t.funcs x).length=L.length:=by rw [HCI.out];simp
   rw [hlen] at hvx
   subst hvx
   have HXC:Hid (0<L.length->∃b,ax=some ⟨b,0,none⟩/\∀j (h:j<L.length),w.cell? ⟨b,j,none⟩=some (.int .i64 (L[j]:Int))):=fun h0=>by
    obtain ⟨b,rfl,hc⟩:=hxc o_
    refine ⟨b,rfl,fun j hj => ?_⟩
    have:=hc j o_
    rw [this]
    simp [HCI.out]
   have hLn:L.length<=1000:=by
    have h1:L.Nodup:=by
     rw [hL]
     unfold callsL
     exact List.Pairwise.filter _ (List.nodup_range)
    have h2:=nodup_le n h1 (fun y hy=>by have:=((HL.out y).2 hy).lt;rw [HN.out];exact this)
    omega
   have hrl:rest.length<=2000:=by simp at hgk;omega
   have hgk':(n-out.length)+rest.length+1=gk:=by simp at hgk;omega
   have hsl : ∀W:World,(Instr.slice 82 (.slice (some ⟨g6,0,none⟩) (rest.length+1) c6) none (some (.int .i64 (rest.length:Int))) none).run Tryz.prog W = .ok (.slice (some ⟨g6,0,none⟩) rest.length c6) W:=by
    intro W
    have hz:Tryz.prog.elem 82=2:=by kernel_rfl
    have hs:(sizeOf 2).run Tryz.prog W = .ok 1 W:=by kernel_rfl
    rw [run_slice_h W 82 (some ⟨g6,0,none⟩) (rest.length+1) c6 (by rw [hz];exact Tryz.underlying82) .i64 _ o_ o_,hz,hs]
    simp [Result.andThen,sliced,Addr.add]
   have hon:=HM.out.len
   rw [<-HN.out] at hon
   clear hI hT hW hW2 hxc hlen hL hgk qx
   go_wp2_with fail
   go_loopw [6,34] (fun lv i w4=>∃(j:Nat) (out2 work2:List Nat),j<=L.length/\i = .int .i64 j/\RMid t f x (L.take j) out2 work2/\TRow F w4 (.slice (some ⟨F,0,none⟩) n n) n out2/\IRow (F+1) w4 lv work2/\out2.length+rest.length=out.length+work2.length/\F<w4.heap.size/\Bl w w4) (fun _ i _=>L.length-(RowKit.intOf i).toNat)
   case atStart=>exact ⟨0,out,rest,Nat.zero_le _,rfl,by simpa using HM.out,HT.out,HW2.out,rfl,hFs,hB⟩
   case round=>
    clear HM HW2 HT q6 qx' hB hFs hsl
    obtain ⟨j,out2,work2,hj2,rfl,hM,hT,hW,hlw,hFs,hB⟩:=hrel
    have HM:=hide hM
    have HT:=hide hT
    have hon2:=hM.len
    rw [<-HN.out] at hon2
    obtain ⟨a6,c7,rfl⟩:=hW.shape
    have HW:Hid (IRow (F+1) wr (.slice a6 work2.length c7) work2):=hW
    clear hM hW
    by_cases hjl:j<L.length
    ·obtain ⟨bx,rfl,hcx⟩:=HXC.out o_
     have d0:=(hB.cell (p:=⟨bx,j,none⟩) (World.block_lt_of_cell? _ _ (hcx j hjl))).trans (hcx j hjl)
     have HT1:Hid (L.take (j+1)=L.take j++[L[j]]):=take_succ L j hjl
     have hyc:CallR t x L[j]:=(HL.out _).2 (List.getElem_mem hjl)
     have hyn:L[j]<n:=by have:=hyc.lt;rw [HN.out];exact this
     have HYC:=hide hyc
     clear hcx hyc
     generalize L[j]=y at d0 HT1 hyn HYC
     obtain ⟨t0,tf⟩:=hT.cell y hyn
     clear hT
     by_cases hy:y∈out2
     ·rw [decide_eq_true hy] at t0
      have HM2:Hid (RMid t f x (L.take (j+1)) out2 work2):=by show RMid _ _ _ _ _ _;rw [HT1.out];exact HM.out.old hy
      clear hy
      go_wp2_with fail
      go_roundw
      case rel=>exact ⟨j+1,out2,work2,by omega,by go_num,HM2.out,HT.out,HW.out,hlw,hFs,hB⟩
      case measure=>simp [RowKit.intOf];omega
     ·rw [decide_eq_false hy] at t0
      have HM2:Hid (RMid t f x (L.take (j+1)) (out2++[y]) (work2++[y])):=by show RMid _ _ _ _ _ _;rw [HT1.out];exact HM.out.new hy HYC.out
      have HTp:=hide (HT.out.put y hyn)
      have HWp:Hid (IRow (F+1) (wr.setCell ⟨F,y,none⟩ (.bool true)) (.slice a6 work2.length c7) work2):=HW.out.set (Nat.lt_succ_self _)
      have hBp:Bl w (wr.setCell ⟨F,y,none⟩ (.bool true)):=hB.setCell (p:=⟨F,y,none⟩) (by rw [HFw.out];exact Nat.le_refl _) _
      have hsp:(wr.setCell ⟨F,y,none⟩ (.bool true)).heap.size=wr.heap.size:=by simp
      have hwl:work2.length<=2000:=by omega
      clear hy
      go_wp2_with (at_builtin;refine wpList_appF rfl _ _ _ rfl (F+1) 2 i1 _ 1 8 Tryz.underlying82 hj hy0 hy1 hy2 rfl (by decide) _ work2.length (work2.map (fun g:Nat=>Value.int .i64 (g:Int))) rfl (HWp.out.below (bel_a _ _)) ⟨wr.heap.size,0,none⟩ 1 1 [.int .i64 (y:Int)] rfl rfl (by rw [<-hsp];exact cell_one_new _ _ _) (by simp [Value.oneCell']) o_ (by decide) (by simp;omega) ?_)
      intro v9 w9 ho9 hg9 hf9
      have HW9:Hid (IRow (F+1) w9 v9 (work2++[y])):=by
       show World.ownsRow _ _ _ _ _ _ _
       simpa using ho9
      have hrow : ∀g,(Value.slice a6 work2.length c7).ownBlock=some g->F+1<=g:=fun g hg=>(World.ownsRow.lt HWp.out g hg).1
      have HT9:=hide (ownG (HTp.out.below (bel_a _ _)) hg9 (fun g hg h=>by simp only [Value.ownBlock,Option.some.injEq] at hg;have:=hrow g h;omega))
      have hB9:Bl w w9:=(hBp.alloc hBp.size _).grown hg9 (by have:=hBp.size;simp;simp at this;omega) (fun g hg=>by have:=hrow g hg;have:=HFw.out;omega)
      have hF9:F<w9.heap.size:=by have:=hg9.size;simp at this;omega
      obtain ⟨a9,c9,rfl⟩:=HW9.out.shape
      have hle9:(work2++[y]).length=work2.length+1:=by simp
      rw [hle9] at HW9 ⊢
      clear ho9 hg9 hf9 d0 t0 tf HW HT HM
      go_wp2_with fail
      go_roundw
      case rel=>exact ⟨j+1,out2++[y],work2++[y],by omega,by go_num,HM2.out,HT9.out,HW9.out,by simp;omega,hF9,hB9⟩
      case measure=>simp [RowKit.intOf];omega
    ·have HMd:Hid (RInv t f out2 work2):=by
      have h1:=HM.out
      rw [List.take_of_length_le o_] at h1
      exact h1.done (fun y hy=>(HL.out y).1 hy)
     have HTd:=HT.out
     clear hT
     go_wp2_with fail
     go_roundg ((n-out2.length)+work2.length)
     case measure=>omega
     case rel=>exact ⟨out2,work2,rfl,by omega,HMd.out,HT.out,HW.out,hFs,hB⟩
theorem look_numI {W:World} {b nn:Nat} {D:DataW Unit} {fs:List Fu} (hown:W.ownsMap Tryz.prog 9 (plainElem (H:=Unit) Tryz.prog 2) b nn D) (hN:NumIs D fs) {s:ByteArray} (hs:s.size<=maxLen) {i:Nat} (h:fnum fs s=some i) :
  (Instr.lookup 52 (.map (some b)) (.string s) false).run Tryz.prog W = .ok (.int .i64 (i:Int)) W:=by
 obtain ⟨c,hrun,hc,_⟩:=hown.lookup_int (Maps.string_keyed Tryz.underlying9) Tryz.underlying52 Tryz.underlying2 (Tryz.zeroValue2 _) (WideMaps.keyOf_string_mk Tryz.underlying9 hs)
 rw [hN.val s i h] at hc
 simp only [DataW.lit.injEq,Lit.int.injEq,true_and] at hc
 subst hc
 exact hrun
open Classical in
theorem circE_hit {t:Tr} {m i n:Nat} (h:(i=m∨Rch t m i)/\Rch t i i):circE t m i (n+1)=(7,(i:Int),-1):=by rw [circE,if_pos h]
open Classical in
theorem circE_step {t:Tr} {m i n:Nat} (h : ¬((i=m∨Rch t m i)/\Rch t i i)):circE t m i (n+1)=circE t m (i+1) n:=by rw [circE,if_neg h]
theorem circlesK {E:Ev} {w:World} {v:Value} {bt:Nat} {tk:List ByteArray} (h:Cs E w [] [] v bt tk (-1) (-1)) (m:Nat) (hm:fnum E.t.funcs mainS=some m) (hfl:E.t.funcs.length<=1000) (hw:wfFs E.t.funcs) (hsm : ∀f∈E.t.funcs,smallF f) :
  Calls Tryz.prog 130 #[.pointer (some ⟨E.C,0,none⟩)] w fun e w'=>e = .returned (errV (circE E.t m 0 E.t.funcs.length).1 (circE E.t m 0 E.t.funcs.length).2.1 (circE E.t m 0 E.t.funcs.length).2.2)/\Below E.w0.heap.size E.w0 w':=by
 have HC:=hide h
 obtain ⟨RES,hRES⟩ : ∃R,R=circE E.t m 0 E.t.funcs.length:=⟨_,rfl⟩
 rw [<-hRES]
 have HRES:=hide hRES
 have hmn:=fnum_lt hm
 have HMm:=hide hm
 have hsM:mainS.size<=maxLen:=by unfold maxLen;decide
 obtain ⟨af,cf,hvf,-⟩:=h.fun0.1
 obtain ⟨ag,cg,hvg,-⟩:=h.fun0.2
 have c1:=h.box.c1
 have c2:=h.box.c2
 have c3:=h.box.c3
 have hC:=h.ltC
 rw [hvg] at c1
 rw [hvf] at c2
 have HFf:Hid (Funcs w (.slice af E.t.funcs.length cf) E.t.funcs):=by have:=h.fun0.1.below h.base;rw [hvf] at this;exact this
 have HW:=hide hw
 have HSm:=hide hsm
 clear h hRES hw hsm hm hvf hvg
 go_enter Tryz.func130,Tryz.ntmps130
 go_wp2_with fail
 refine (graph_any E.t.funcs _ _ _ hfl ⟨_,_,_,rfl⟩ HW.out HSm.out HFf.out).mono ?_
 rintro e w1 ⟨vgr,rfl,hgr,hb1⟩
 have HC1:Hid (Cs E w1 [] [] v bt tk (-1) (-1)):=HC.out.below hb1
 have HGr:=hide hgr
 have d3:=(hb1.cell (p:=⟨E.C,3,none⟩) hC).trans c3
 have hlook:(Instr.lookup 52 (.map (some E.bn)) (.string ⟨#[109,97,105,110]⟩) false).run Tryz.prog w1=_:=look_numI HC1.out.own HC1.out.num hsM HMm.out
 obtain ⟨G,capG,rfl,-⟩:=hgr
 clear c1 c2 c3 hb1 HC HFf
 go_wp2_with fail
 refine (reached_any E.t _ m w1 hmn hfl HGr.out).mono ?_
 rintro e w2 ⟨v2,out,rfl,htr,hout,hb2⟩
 have HC2:Hid (Cs E w2 [] [] v bt tk (-1) (-1)):=HC1.out.below hb2
 have HG2:=hide (HGr.out.below hb2)
 have HTR:=hide htr
 have HOut:=hide hout
 obtain ⟨g5,c5,rfl,-,hg5⟩:=htr.form o_
 clear hb2 htr hout hlook d3 HC1 HGr hC
 go_wp2_with fail
 go_loopw [23] (fun j wr=>∃(k:Nat),k<=E.t.funcs.length/\j = .int .i64 k/\RES=circE E.t m k (E.t.funcs.length-k)/\Bl w2 wr) (fun j _=>E.t.funcs.length-(RowKit.intOf j).toNat)
 case atStart=>exact ⟨0,Nat.zero_le _,rfl,by simpa using HRES.out,Below.refl _ _⟩
 case round=>
  clear HRES
  obtain ⟨k,hk,rfl,hres,hB⟩:=hrel
  have HRES:=hide hres
  have hcs:=HC2.out.below hB
  have HCr:=hide hcs
  have y5:=hcs.box.c5
  have f5:=hcs.box.fz 5
  have hC:=hcs.ltC
  clear hres
  by_cases hlt:k<E.t.funcs.length
  ·have HR2:Hid (RES=circE E.t m k ((E.t.funcs.length-(k+1))+1)):=by
    show _=_
    rw [HRES.out]
    congr 1
    omega
   have t0:=((HTR.out.below hB).cell k hlt).1
   have HRe:=hide (reached_any E.t _ k wr hlt hfl (HG2.out.below hB))
   clear HRES hcs
   by_cases hkm:k=m
   ·subst hkm
    have b1:((k:Int) == (k:Int))=true:=by simp
    go_wp2_with fail
    refine HRe.out.mono ?_
    rintro e w3 ⟨v3,out3,rfl,htr3,ho3,hb3⟩
    obtain ⟨g3,c3,rfl,-,-⟩:=htr3.form o_
    have t3:=(htr3.cell k hlt).1
    have hB3:Bl w2 w3:=hB.trans (hb3.mono hB.size)
    have HC3:Hid (Cs E w3 [] [] v bt tk (-1) (-1)):=HCr.out.below hb3
    have z5:=(hb3.cell (p:=⟨E.C,5,none⟩) hC).trans y5
    have zf:=(hb3.frozen (p:=⟨E.C,5,none⟩) hC).trans f5
    clear htr3 t0 y5 f5 hb3
    by_cases ho:k∈out3
    ·have HE:Hid (RES=(7,(k:Int),-1)):=by show _=_;rw [HR2.out];exact circE_hit ⟨.inl rfl,(ho3 k).1 ho⟩
     rw [decide_eq_true ho] at t3
     have HC4:=hide (HC3.out.put 5 _ (HC3.out.box.s5 (k:Int)))
     clear ho ho3
     go_wp2_with fail
     refine (fault_any E.C 7 (k:Int) (-1) _ HC4.out.box.c5 HC4.out.box.c6).mono ?_
     rintro e w5 ⟨rfl,hw⟩
     rw [hw]
     clear hw
     go_wp2_with fail
     go_ret
     exact ⟨ret_val (by rw [HE.out];rfl),HC4.out.base⟩
    ·have HN:Hid (RES=circE E.t k (k+1) (E.t.funcs.length-(k+1))):=by show _=_;rw [HR2.out];exact circE_step (fun h=>ho ((ho3 k).2 h.2))
     rw [decide_eq_false ho] at t3
     clear ho ho3 z5 zf
     go_wp2_with fail
     go_roundw
     case rel=>exact ⟨k+1,by omega,by go_num,HN.out,hB3⟩
     case measure=>simp [RowKit.intOf];omega
   have b1:((k:Int) == (m:Int))=false:=by
    have : ¬(k:Int)=(m:Int):=by omega
    simpa using this
   by_cases hko:k∈out
   ·have HA:Hid (k=m∨Rch E.t m k):=.inr ((HOut.out k).1 hko)
    rw [decide_eq_true hko] at t0
    clear hko
    go_wp2_with fail
    refine HRe.out.mono ?_
    rintro e w3 ⟨v3,out3,rfl,htr3,ho3,hb3⟩
    obtain ⟨g3,c3,rfl,-,-⟩:=htr3.form o_
    have t3:=(htr3.cell k hlt).1
    have hB3:Bl w2 w3:=hB.trans (hb3.mono hB.size)
    have HC3:Hid (Cs E w3 [] [] v bt tk (-1) (-1)):=HCr.out.below hb3
    have z5:=(hb3.cell (p:=⟨E.C,5,none⟩) hC).trans y5
    have zf:=(hb3.frozen (p:=⟨E.C,5,none⟩) hC).trans f5
    clear htr3 t0 y5 f5 hb3
    by_cases ho:k∈out3
    ·have HE:Hid (RES=(7,(k:Int),-1)):=by show _=_;rw [HR2.out];exact circE_hit ⟨HA.out,(ho3 k).1 ho⟩
     rw [decide_eq_true ho] at t3
     have HC4:=hide (HC3.out.put 5 _ (HC3.out.box.s5 (k:Int)))
     clear ho ho3
     go_wp2_with fail
     refine (fault_any E.C 7 (k:Int) (-1) _ HC4.out.box.c5 HC4.out.box.c6).mono ?_
     rintro e w5 ⟨rfl,hw⟩
     rw [hw]
     clear hw
     go_wp2_with fail
     go_ret
     exact ⟨ret_val (by rw [HE.out];rfl),HC4.out.base⟩
    ·have HN:Hid (RES=circE E.t m (k+1) (E.t.funcs.length-(k+1))):=by show _=_;rw [HR2.out];exact circE_step (fun h=>ho ((ho3 k).2 h.2))
     rw [decide_eq_false ho] at t3
     clear ho ho3 z5 zf
     go_wp2_with fail
     go_roundw
     case rel=>exact ⟨k+1,by omega,by go_num,HN.out,hB3⟩
     case measure=>simp [RowKit.intOf];omega
   ·have HN:Hid (RES=circE E.t m (k+1) (E.t.funcs.length-(k+1))):=by
     show _=_
     rw [HR2.out]
     refine circE_step (fun h => ?_)
     rcases h.1 with h1 | h1
     ·exact hkm h1
     ·exact hko ((HOut.out k).2 h1)
    rw [decide_eq_false hko] at t0
    clear hko y5 f5
    go_wp2_with fail
    go_roundw
    case rel=>exact ⟨k+1,by omega,by go_num,HN.out,hB⟩
    case measure=>simp [RowKit.intOf];omega
  ·have HN:Hid (RES=(0,-1,-1)):=by
    show _=_
    have e:E.t.funcs.length-k=0:=by omega
    rw [HRES.out,e]
    rfl
   clear hcs y5 f5
   go_wp2_with fail
   go_ret
   exact ⟨ret_val (by rw [HN.out];rfl),HCr.out.base⟩
theorem gtree_any (t:Tr) (vg vf:Value) (w:World) (ht:smallT t) (hg:Globs w vg t.globals) (hf:Funcs w vf t.funcs) :
  Calls Tryz.prog 86 #[.agg #[vg,vf]] w fun e w'=>e = .returned (.bool (treeB t))/\Below w.heap.size w w':=by
 obtain ⟨gs,fs⟩:=t
 simp only at hg hf ⊢
 have HS:=hide ht
 have hgl:gs.length<=1048576:=HS.out.1
 have hfl:fs.length<=1048576:=HS.out.2.1
 obtain ⟨ag,cg,rfl,-,-,hgc⟩:=hg
 obtain ⟨af,cf,rfl,-,-,hfc⟩:=hf
 have HGC:=hide hgc
 have HFC:=hide hfc
 clear hgc hfc ht
 by_cases h5:50<gs.length
 ·go_enter Tryz.func86,Tryz.ntmps86
  go_wp2_with fail
  go_ret
  exact ⟨ret_bool (by simp only [treeB,decide_eq_false (show ¬gs.length<=50 by omega),Bool.false_and]),(Below.refl _ _).alloc (Nat.le_refl _) _⟩
 by_cases h6:50<fs.length
 ·go_enter Tryz.func86,Tryz.ntmps86
  go_wp2_with fail
  go_ret
  exact ⟨ret_bool (by simp only [treeB,decide_eq_false (show ¬fs.length<=50 by omega),Bool.false_and,Bool.and_false]),(Below.refl _ _).alloc (Nat.le_refl _) _⟩
 have HTB:Hid (treeB ⟨gs,fs⟩=(gs.all globB && fs.all funcB)):=by
  show _=_
  simp only [treeB,decide_eq_true (show gs.length<=50 by omega),decide_eq_true (show fs.length<=50 by omega),Bool.true_and]
 go_enter Tryz.func86,Tryz.ntmps86
 go_wp2_with fail
 go_loopw [3] (fun i wr=>∃k:Nat,k<=gs.length/\i = .int .i64 k/\(∀g∈gs.take k,globB g=true)/\Below (w.heap.size+1) (w.alloc (.cells #[.slice ag gs.length cg,.slice af fs.length cf] 32)) wr) (fun i _=>gs.length-(RowKit.intOf i).toNat)
 case atStart=>exact ⟨0,Nat.zero_le _,rfl,by simp,Below.refl _ _⟩
 case round=>
  obtain ⟨k,hk,rfl,hg,hB⟩:=hrel
  have HG:=hide hg
  clear hg
  have hBw:=one_below hB
  by_cases hlt:k<gs.length
  ·obtain ⟨b,off,rfl,hc⟩:=HGC.out o_
   obtain ⟨d0,d1⟩:=(hc.below hBw) k hlt
   have HE:Hid (gs.take (k+1)=gs.take k++[gs[k]]):=take_succ gs k hlt
   have HX:Hid (globB gs[k]=false->gs.all globB=false):=allG_bad hlt
   clear hc
   generalize gs[k]=g at d0 d1 HE HX
   obtain ⟨x0,x1⟩:=box2 hB
   obtain ⟨s,z⟩:=g
   simp only at d0 d1
   cases hv:nameB s
   ·have hv2:globB ⟨s,z⟩=false:=by simp only [globB,hv,Bool.false_and]
    have HV:Hid (globB ⟨s,z⟩=false):=hv2
    clear hv2
    go_wp2_with (go_at_call 110;refine (name_any _ _).mono ?_;rintro e w' ⟨rfl,rfl⟩;rw [hv])
    go_ret
    exact ⟨ret_bool (by rw [HTB.out,HX.out HV.out];rfl),hBw⟩
   cases hz:decide (0<=z/\z<=4000)
   ·have hv2:globB ⟨s,z⟩=false:=by simp only [globB,hv,hz,Bool.and_false]
    have HV:Hid (globB ⟨s,z⟩=false):=hv2
    have HZ:=hide hz
    clear hv2 hz
    go_wp2_with (first | (go_at_call 110;refine (name_any _ _).mono ?_;rintro e w' ⟨rfl,rfl⟩;rw [hv]) | (go_at_call 111;refine (in_any _ _ _ _).mono ?_;rintro e w' ⟨rfl,rfl⟩;rw [HZ.out]))
    go_ret
    exact ⟨ret_bool (by rw [HTB.out,HX.out HV.out];rfl),hBw⟩
   ·have HV:Hid (globB ⟨s,z⟩=true):=by
     show _=_
     simp only [globB,hv,hz,Bool.and_self]
    have HZ:=hide hz
    clear hz
    go_wp2_with (first | (go_at_call 110;refine (name_any _ _).mono ?_;rintro e w' ⟨rfl,rfl⟩;rw [hv]) | (go_at_call 111;refine (in_any _ _ _ _).mono ?_;rintro e w' ⟨rfl,rfl⟩;rw [HZ.out]))
    go_roundw
    case rel=>
     refine ⟨k+1,by omega,by go_num,fun m hm => ?_,hB⟩
     rw [HE.out] at hm
     rcases List.mem_append.1 hm with hm | hm
     ·exact HG.out m hm
     ·rw [List.mem_singleton.1 hm];exact HV.out
    case measure=>simp [RowKit.intOf];omega
  ·have HA:Hid (gs.all globB=true):=by
    show _=_
    rw [List.all_eq_true]
    have:=HG.out
    rw [List.take_of_length_le o_] at this
    exact this
   clear HG HGC
   obtain ⟨x0,x1⟩:=box2 hB
   go_wp2_with fail
   clear x0 x1
   go_loopw [4] (fun i wr=>∃k:Nat,k<=fs.length/\i = .int .i64 k/\(∀f∈fs.take k,funcB f=true)/\Below (w.heap.size+1) (w.alloc (.cells #[.slice ag gs.length cg,.slice af fs.length cf] 32)) wr) (fun i _=>fs.length-(RowKit.intOf i).toNat)
   case atStart=>exact ⟨0,Nat.zero_le _,rfl,by simp,hB⟩
   case round=>
    clear hB hBw hlt
    obtain ⟨k,hk,rfl,hg,hB⟩:=hrel
    have HG:=hide hg
    clear hg
    have hBw:=one_below hB
    by_cases hlt:k<fs.length
    ·obtain ⟨b,off,rfl,hc⟩:=HFC.out o_
     obtain ⟨vp,vb,⟨d0,d1,d2⟩,hp,hs⟩:=(hc.below hBw) k hlt
     have HE:Hid (fs.take (k+1)=fs.take k++[fs[k]]):=take_succ fs k hlt
     have HX:Hid (funcB fs[k]=false->fs.all funcB=false):=allF_bad hlt
     have HSM:Hid (smallF fs[k]):=HS.out.2.2 fs[k] (List.getElem_mem hlt)
     clear hc
     generalize fs[k]=f at d0 d1 d2 HE HX HSM hp hs
     have HP:=hide hp
     have HB:=hide hs
     obtain ⟨a2,k2,rfl,-,-,-⟩:=hp
     obtain ⟨a3,k3,rfl,-,-,-⟩:=hs
     obtain ⟨x0,x1⟩:=box2 hB
     go_wp2_with fail
     refine (gfunc_any f _ _ _ HSM.out HP.out HB.out).mono ?_
     rintro e w2 ⟨rfl,hb2⟩
     have hBx2:=hb2
     clear x0 x1
     have hB2:=hB.trans (hBx2.mono (by have:=hB.size;simp at this;omega))
     clear d0 d1 d2 hb2
     cases hv:funcB f
     ·go_wp2_with fail
      go_ret
      exact ⟨ret_bool (by rw [HTB.out,HX.out hv];simp),one_below hB2⟩
     ·go_wp2_with fail
      go_roundw
      case rel=>
       refine ⟨k+1,by omega,by go_num,fun m hm => ?_,hB2⟩
       rw [HE.out] at hm
       rcases List.mem_append.1 hm with hm | hm
       ·exact HG.out m hm
       ·rw [List.mem_singleton.1 hm];exact hv
      case measure=>simp [RowKit.intOf];omega
    ·have HA2:Hid (fs.all funcB=true):=by
      show _=_
      rw [List.all_eq_true]
      have:=HG.out
      rw [List.take_of_length_le o_] at this
      exact this
     obtain ⟨x0,x1⟩:=box2 hB
     go_wp2_with fail
     go_ret
     exact ⟨ret_bool (by rw [HTB.out,HA.out,HA2.out];rfl),hBw⟩
end Go.Proofs.YtnpidjamplmgjaaGreatDoor
