import Derived.Test.YtmddmgpijpjpbaaGreatDoorR36
import Derived.Deep.LoopGhost
import Derived.Test.YtmddmgpijpjpbaaGreatDoorR35
set_option linter.unusedSectionVars false
variable [Inhabited Go.Proofs.YtmddmgpijpjpbaaGreatDoor.Pick]
namespace Go.Proofs.YtmddmgpijpjpbaaGreatDoor
open Go.RowKit
set_option linter.unusedVariables false
set_option linter.unusedSimpArgs false
set_option maxRecDepth 100000
set_option maxHeartbeats 16000000
theorem Ints.set {w:World} {v:Value} {l:List Int} {g:Nat} (h:Ints w v l) (hne:v.ownBlock≠some g) (o:Nat) (u:Value):Ints (w.setCell ⟨g,o,none⟩ u) v l:=by
 obtain ⟨a,cap,rfl,h3⟩:=h
 refine ⟨a,cap,rfl,fun h0 => ?_⟩
 obtain ⟨b,rfl,hc⟩:=h3 h0
 have hb:b≠g:=fun e=>hne (by simp [Value.ownBlock,e])
 refine ⟨b,rfl,fun j hj => ?_⟩
 rw [World.cell?_setCell_other _ _ _ _ (by intro h;simp only [Addr.mk.injEq] at h;exact hb h.1.symm)]
 exact hc j hj
def callI (fs:List Fu) (j:Nat):List Int:=(callsL fs (fs.getD j ⟨⟨#[]⟩,[],[]⟩).body).map (fun g:Nat=>(g:Int))
def Graph (w:World) (v:Value) (fs:List Fu):Prop:=∃G cap,v = .slice (some ⟨G,0,none⟩) fs.length cap/\∀j,j<fs.length->∃vj,w.cell? ⟨G,j,none⟩=some vj/\Ints w vj (callI fs j)
theorem Graph.below {w w':World} {v:Value} {fs:List Fu} (h:Graph w v fs) (hb:Below w.heap.size w w'):Graph w' v fs:=by
 obtain ⟨G,cap,rfl,h⟩:=h
 refine ⟨G,cap,rfl,fun j hj => ?_⟩
 obtain ⟨vj,h1,h2⟩:=h j hj
 exact ⟨vj,(hb.cell (p:=⟨G,j,none⟩) (World.block_lt_of_cell? _ _ h1)).trans h1,h2.below hb⟩
theorem info_ii:(Tryz.prog.info? 26).map (fun i=>(i.zero,i.size,i.bytes))=some (some (.slice none 0 0),1,24):=by kernel_rfl
theorem graph_any (fs:List Fu) (vg vf:Value) (w:World) (hl:fs.length<=1000) (hg : ∃a n c,vg = .slice a n c) (hw:wfFs fs) (hsm : ∀f∈fs,smallF f) (hf:Funcs w vf fs) :
  Calls Tryz.prog 76 #[.agg #[vg,vf]] w fun e w'=>∃v,e = .returned v/\Graph w' v fs/\Below w.heap.size w w':=by
 obtain ⟨ag,ng,cg,rfl⟩:=hg
 have HF:=hide hf
 obtain ⟨af,cf,rfl,-,-,hfc⟩:=hf
 have HFC:=hide hfc
 have HW:=hide hw
 have HSm:=hide hsm
 obtain ⟨i0,hi,hz0,hz1,hz2⟩:=info_parts info_ii
 clear hfc hw hsm
 go_enter Tryz.func76,Tryz.ntmps76
 go_wp2_with fail
 have hA:Bl w (w.alloc (.cells #[.slice ag ng cg,.slice af fs.length cf] 34)):=bel_a _ _
 refine (fnums_any fs _ _ _ (by omega) HW.out (HF.out.below hA)).mono ?_
 rintro e w1 ⟨bn,D,rfl,hbn,hown,hN,hb1⟩
 simp only [World.size_alloc] at hb1 hbn
 obtain ⟨x0,x1⟩:=box2 hb1
 have HOw:=hide hown
 have HN:=hide hN
 have hB1:Bl w w1:=one_below hb1
 have hsz1:=hb1.size
 simp only [World.size_alloc] at hsz1
 clear hown hN
 go_wp2_with (at_make;refine wpList_make_full _ rfl _ _ 128 rfl w1.heap.size 26 i0 (.slice none 0 0) 1 Tryz.underlying128 hi hz0 hz1 _ _ _ _ fs.length rfl rfl (by omega) (by omega) ?_ ?_ (Nat.le_refl _) ?_)
 ·rw [hz2];omega
 ·unfold maxLen;omega
 intro w2 hown2 hgrow2
 have hb2:Bl w1 w2:=(Below.refl _ _).grown hgrow2 (Nat.le_refl _) (by simp)
 have hb2':Below (w.heap.size+1) (w.alloc (.cells #[.slice ag ng cg,.slice af fs.length cf] 34)) w2:=hb1.trans (hb2.mono hsz1)
 have HM2:=hide (map_below HOw.out hb2)
 have hR2 : ∃xs,w2.ownsRow w1.heap.size 26 1 (.slice (some ⟨w1.heap.size,0,none⟩) fs.length fs.length) fs.length xs:=⟨_,hown2⟩
 obtain ⟨xs2,hR2⟩:=hR2
 have HR2:=hide hR2
 have hG:w1.heap.size<w2.heap.size:=(World.ownsRow.lt hR2 w1.heap.size rfl).2
 obtain ⟨G,hGe⟩ : ∃G,G=w1.heap.size:=⟨_,rfl⟩
 rw [<-hGe] at HR2 hG ⊢
 have hwG:w.heap.size+1<=G:=by omega
 have hbG0:bn<G:=by have:=HOw.out.lt;omega
 clear hown2 hgrow2 hR2 x0 x1
 obtain ⟨x0,x1⟩:=box2 hb2'
 clear hb1 hb2 hGe
 go_wp2_with fail
 go_loopw [16] (fun i wr=>∃(k:Nat) (xs:List Value),k<=fs.length/\i = .int .i64 k/\wr.ownsRow G 26 1 (.slice (some ⟨G,0,none⟩) fs.length fs.length) fs.length xs/\(∀j,j<k->∃vj,xs[j]? = some vj/\Ints wr vj (callI fs j)/\vj.ownBlock≠some G)/\wr.ownsMap Tryz.prog 9 (plainElem (H:=Unit) Tryz.prog 2) bn fs.length D/\bn<G/\G<wr.heap.size/\Below (w.heap.size+1) (w.alloc (.cells #[.slice ag ng cg,.slice af fs.length cf] 34)) wr) (fun i _=>fs.length-(RowKit.intOf i).toNat)
 case atStart=>exact ⟨0,xs2,Nat.zero_le _,rfl,HR2.out,fun j hj=>absurd hj (by omega),HM2.out,hbG0,hG,hb2'⟩
 case round=>
  clear HM2 HR2 hG hb2' x0 x1
  obtain ⟨k,xs,hk,rfl,hR,hX,hM,hbG,hG,hB⟩:=hrel
  have HR:=hide hR
  have HX:=hide hX
  have HM:=hide hM
  have hBw:=one_below hB
  clear hR hX hM
  by_cases hlt:k<fs.length
  ·obtain ⟨bf,of,rfl,hfc⟩:=HFC.out (by omega)
   obtain ⟨vp,vb,⟨d0,d1,d2⟩,hps,hbs⟩:=(hfc.below hBw) k hlt
   have hbl:bf<wr.heap.size:=World.block_lt_of_cell? _ _ d0
   have HPs:=hide hps
   have HBs:=hide hbs
   have HFs:Hid (smallF fs[k]):=HSm.out _ (List.getElem_mem hlt)
   have HFw:Hid (wfFu fs[k]):=HW.out.2 _ (List.getElem_mem hlt)
   have HCI:Hid (callI fs k=(callsL fs fs[k].body).map (fun g:Nat=>(g:Int))):=by show _=_;unfold callI;simp [List.getD,hlt]
   obtain ⟨ap,cp,rfl,-⟩:=hps
   obtain ⟨ab,cb,rfl,-⟩:=hbs
   clear hfc
   generalize fs[k]=f at d0 d1 d2 HPs HBs HFs HFw HCI
   have hAr:Bl wr (wr.alloc (.cells #[.string f.name,.slice ap f.params.length cp,.slice ab f.body.length cb] 85)):=bel_a _ _
   go_wp2_with fail
   refine (callsOf_any fs f _ _ bn fs.length D _ (by omega) HFs.out HFw.out (HPs.out.below hAr) (HBs.out.below hAr) (map_below HM.out hAr) HN.out).mono ?_
   rintro e w3 ⟨v3,rfl,hr3,hb3⟩
   have hb3':Bl wr w3:=hAr.trans (hb3.mono hAr.size)
   have HI3:Hid (Ints w3 v3 (callI fs k)):=by
    show Ints _ _ _
    rw [HCI.out]
    exact IRow.ints (B:=_) hr3
   have HV3:Hid (v3.ownBlock≠some G):=fun h=>by
    have:=(World.ownsRow.lt hr3 G h).1
    simp at this
    omega
   have HR3:=hide (ownB HR.out hb3')
   have HM3:=hide (map_below HM.out hb3')
   have HX3:Hid (∀j,j<k->∃vj,xs[j]? = some vj/\Ints w3 vj (callI fs j)/\vj.ownBlock≠some G):=fun j hj=>by
    obtain ⟨vj,h1,h2,h3⟩:=HX.out j hj
    exact ⟨vj,h1,h2.below hb3',h3⟩
   have hsr:=hB.size
   simp only [World.size_alloc] at hsr
   have hB3:Below (w.heap.size+1) (w.alloc (.cells #[.slice ag ng cg,.slice (some ⟨bf,of,none⟩) fs.length cf] 34)) w3:=hB.trans (hb3'.mono hsr)
   have hG3:G<w3.heap.size:=Nat.lt_of_lt_of_le hG hb3'.size
   have hlx:xs.length=fs.length:=by have:=HR.out.1;omega
   have g0:w3.cell? ⟨G,k,none⟩=some (xs[k]'(by omega)):=by
    have:=World.ownsRow.cellAt HR3.out k (by omega)
    rw [this]
    simp [hlx,hlt]
   have gf:=World.ownsRow.frozenAt HR3.out k
   obtain ⟨y,hy⟩ : ∃y,y=xs[k]'(by omega):=⟨_,rfl⟩
   rw [<-hy] at g0
   obtain ⟨a3,c3,hv3⟩:=IRow.shape (B:=_) hr3
   clear hr3 hb3 hb3' d0 d1 d2 hy HR HX HM hAr
   have HR4:=hide ((World.ownsRow.stored HR3.out k v3).1)
   have HX4:Hid (∀j,j<k+1->∃vj,(xs.set k v3)[j]? = some vj/\Ints (w3.setCell ⟨G,k,none⟩ v3) vj (callI fs j)/\vj.ownBlock≠some G):=fun j hj=>by
    by_cases e:j=k
    ·subst e
     exact ⟨v3,by simp [hlx,hlt],HI3.out.set HV3.out _ _,HV3.out⟩
    ·obtain ⟨vj,h1,h2,h3⟩:=HX3.out j (by omega)
     exact ⟨vj,by rw [List.getElem?_set_ne (fun h=>e h.symm)];exact h1,h2.set h3 _ _,h3⟩
   have HM4:Hid ((w3.setCell ⟨G,k,none⟩ v3).ownsMap Tryz.prog 9 (plainElem (H:=Unit) Tryz.prog 2) bn fs.length D):=by
    obtain ⟨es,clock,h0,F,hs,hD⟩:=HM3.out
    exact ⟨es,clock,(Below.heap_setCell _ _ _ bn (fun h=>by simp at h;omega)).trans h0,F,hs,hD⟩
   subst hv3
   go_wp2_with fail
   go_roundw
   case rel=>exact ⟨k+1,_,by omega,by go_num,HR4.out,HX4.out,HM4.out,hbG,by simpa using hG3,hB3.setCell (p:=⟨G,k,none⟩) hwG _⟩
   case measure=>simp [RowKit.intOf];omega
  ·have hkk:k=fs.length:=by omega
   subst hkk
   clear hB
   go_wp2_with fail
   go_ret
   refine ⟨_,rfl,⟨G,fs.length,rfl,fun j hj => ?_⟩,hBw⟩
   obtain ⟨vj,h1,h2,-⟩:=HX.out j hj
   exact ⟨vj,(World.ownsRow.cellAt HR.out j (by omega)).trans h1,h2⟩
theorem tl_nil (n:Nat):tl n []=List.replicate n (.bool false):=by
 apply List.ext_getElem
 ·simp [tl]
 ·intro i h1 h2
  simp [tl]
theorem IRow.cut {B:Nat} {w:World} {v:Value} {l:List Nat} {x:Nat} (h:IRow B w v (l++[x])) : ∃g cap,v = .slice (some ⟨g,0,none⟩) (l.length+1) cap/\B<=g/\l.length+1<=cap/\cap<=maxLen/\w.cell? ⟨g,l.length,none⟩=some (.int .i64 (x:Int))/\IRow B w (.slice (some ⟨g,0,none⟩) l.length cap) l:=by
 have h0:=h
 obtain ⟨g1,g2⟩:=h
 rcases g2 with ⟨_,hz⟩ | ⟨g,cap,cur,rfl,g3,g4,g5,g6,g7,g8⟩
 ·simp at hz
 ·simp only [l_a,l_c,l_n,Nat.zero_add,Nat.mul_one,List.map_append,List.map_cons,List.map_nil] at g1 g5 g7 g8
  refine ⟨g,cap,by simp,g3,g5,g6,?_,by simp,.inr ⟨g,cap,cur,rfl,g3,g4,by omega,g6,by omega,?_⟩⟩
  ·have:=World.ownsRow.cellAt h0 l.length (by simp)
   rw [this]
   simp
  ·rw [Nat.mul_one]
   have e:cur.toList.take l.length=(cur.toList.take (l.length+1)).take l.length:=by rw [List.take_take];congr 1;omega
   rw [e,g8]
   simp
theorem irow_one (W:World) (B:Nat) (hB:B<=W.heap.size) (x:Nat):IRow B (W.alloc (.cells #[.int .i64 (x:Int)] 2)) (.slice (some ⟨W.heap.size,0,none⟩) 1 1) [x]:=World.ownsRow_lit W #[.int .i64 (x:Int)] 1 hB (by decide) rfl
theorem IRow.set {B:Nat} {w:World} {v:Value} {l:List Nat} {g o:Nat} {u:Value} (h:IRow B w v l) (hg:g<B):IRow B (w.setCell ⟨g,o,none⟩ u) v l:=by
 obtain ⟨g1,g2⟩:=h
 refine ⟨g1,?_⟩
 rcases g2 with g2 | ⟨b,cap,cur,rfl,g3,g4,g5⟩
 ·exact .inl g2
 ·refine .inr ⟨b,cap,cur,rfl,g3,?_,g5⟩
  rw [Below.heap_setCell _ _ _ b (fun h=>by simp at h;omega)]
  exact g4
theorem reached_any (t:Tr) (vgr:Value) (f:Nat) (w:World) (hf:f<t.funcs.length) (hl:t.funcs.length<=1000) (hg:Graph w vgr t.funcs) :
  Calls Tryz.prog 75 #[vgr,.int .i64 (f:Int)] w fun e w'=>∃v out,e = .returned v/\TRow w.heap.size w' v t.funcs.length out/\(∀g,g∈out↔Rch t f g)/\Below w.heap.size w w':=by
 obtain ⟨G,cap,rfl,hgc⟩:=hg
 have HG:=hide hgc
 obtain ⟨i0,hi,hz0,hz1,hz2⟩:=info_parts info_bool
 obtain ⟨i1,hj,hy0,hy1,hy2⟩:=info_parts info_i64
 clear hgc
 obtain ⟨n,hn⟩ : ∃n,n=t.funcs.length:=⟨_,rfl⟩
 rw [<-hn] at hf hl HG ⊢
 have HN:=hide hn
 clear hn
 go_enter Tryz.func75,Tryz.ntmps75
 go_wp2_with (at_make;refine wpList_make_full _ rfl _ _ 126 rfl w.heap.size 4 i0 (.bool false) 1 Tryz.underlying126 hi hz0 hz1 _ _ _ _ n rfl rfl (by omega) (by omega) ?_ ?_ (Nat.le_refl _) ?_)
 ·rw [hz2];omega
 ·unfold maxLen;omega
 intro w1 hown1 hgrow1
 have hb1:Bl w w1:=(Below.refl _ _).grown hgrow1 (Nat.le_refl _) (by simp)
 have HT1:Hid (TRow w.heap.size w1 (.slice (some ⟨w.heap.size,0,none⟩) n n) n []):=by
  show World.ownsRow _ _ _ _ _ _ _
  rw [tl_nil,<-toList_madeCells_one]
  exact hown1
 have hs1:w.heap.size<w1.heap.size:=(World.ownsRow.lt hown1 w.heap.size rfl).2
 obtain ⟨F,hF⟩ : ∃F,F=w.heap.size:=⟨_,rfl⟩
 rw [<-hF] at HT1 hs1 ⊢
 have HFw:=hide hF
 clear hown1 hgrow1 hF
 go_wp2_with fail
 have HI1:=hide (irow_one w1 _ hs1 f)
 have HT2:Hid (TRow F (w1.alloc (.cells #[.int .i64 (f:Int)] 2)) (.slice (some ⟨F,0,none⟩) n n) n []):=HT1.out.below (bel_a _ _)
 have hB1:Bl w (w1.alloc (.cells #[.int .i64 (f:Int)] 2)):=hb1.alloc hb1.size _
 go_loopg [6] (n+1) (fun gk lv wr=>∃(out work:List Nat),gk=(n-out.length)+work.length/\gk<=n+1/\RInv t f out work/\TRow F wr (.slice (some ⟨F,0,none⟩) n n) n out/\IRow (F+1) wr lv work/\F<wr.heap.size/\Bl w wr)
 case atStart=>exact ⟨[],[f],by simp,Nat.le_refl _,RInv.start t f,HT2.out,HI1.out,by simp;omega,hB1⟩
 case round=>
  clear HI1 HT1 HT2 hB1 hb1 hs1
  obtain ⟨out,work,hgk,hgn,hI,hT,hW,hFs,hB⟩:=hrel
  rcases List.eq_nil_or_concat work with rfl | ⟨rest,x,rfl⟩
  ·have HE:Hid (∀g,g∈out↔Rch t f g):=fun g=>hI.all g
   have HT:=hide hT
   obtain ⟨a6,c6,rfl⟩:=hW.shape
   simp only [l_n]
   clear hT hW hI
   go_wp2_with fail
   go_ret
   exact ⟨_,out,rfl,by rw [<-HFw.out];exact HT.out,HE.out,hB⟩
  ·simp only [List.concat_eq_append] at hgk hI hW
   have hxn:x<n:=by have:=hI.lt (by rw [<-HN.out];exact hf) x (by simp);rw [HN.out];exact this
   have HM:Hid (RMid t f x [] out rest):=hI.take (by simp) (fun y=>by simp [or_comm])
   obtain ⟨g6,c6,rfl,hg6,hc61,hc62,q6,hW2⟩:=hW.cut
   have HW2:=hide hW2
   have HT:=hide hT
   obtain ⟨vx,qx,hix⟩:=HG.out x hxn
   have qx':=(hB.cell (p:=⟨G,x,none⟩) (World.block_lt_of_cell? _ _ qx)).trans qx
   have HIx:=hide hix
   obtain ⟨L,hL⟩ : ∃L,L=callsL t.funcs (t.funcs.getD x ⟨⟨#[]⟩,[],[]⟩).body:=⟨_,rfl⟩
   have HL:Hid (∀y,CallR t x y↔y∈L):=fun y=>by
    rw [hL]
    unfold CallR
    exact ⟨fun h=>h.2,fun h=>⟨by rw [<-HN.out];exact hxn,h⟩⟩
   have HCI:Hid (callI t.funcs x=L.map (fun g:Nat=>(g:Int))):=by show _=_;rw [hL];rfl
   obtain ⟨ax,cx,hvx,hxc⟩:=hix
   have hlen:(callI t.funcs x).length=L.length:=by rw [HCI.out];simp
   rw [hlen] at hvx
   subst hvx
   have HXC:Hid (0<L.length->∃b,ax=some ⟨b,0,none⟩/\∀j (h:j<L.length),w.cell? ⟨b,j,none⟩=some (.int .i64 (L[j]:Int))):=fun h0=>by
    obtain ⟨b,rfl,hc⟩:=hxc (by omega)
    refine ⟨b,rfl,fun j hj => ?_⟩
    have:=hc j (by omega)
    rw [this]
    simp [HCI.out]
   have hLn:L.length<=1000:=by
    have h1:L.Nodup:=by
     rw [hL]
     unfold callsL
     exact List.Pairwise.filter _ (List.nodup_range)
    have h2:=nodup_le n h1 (fun y hy=>by have:=((HL.out y).2 hy).lt;rw [HN.out];exact this)
    omega
   have hrl:rest.length<=2000:=by simp at hgk;omega
   have hgk':(n-out.length)+rest.length+1=gk:=by simp at hgk;omega
   have hsl : ∀W:World,(Instr.slice 26 (.slice (some ⟨g6,0,none⟩) (rest.length+1) c6) none (some (.int .i64 (rest.length:Int))) none).run Tryz.prog W = .ok (.slice (some ⟨g6,0,none⟩) rest.length c6) W:=by
    intro W
    have hz:Tryz.prog.elem 26=2:=by kernel_rfl
    have hs:(sizeOf 2).run Tryz.prog W = .ok 1 W:=by kernel_rfl
    rw [run_slice_h W 26 (some ⟨g6,0,none⟩) (rest.length+1) c6 (by rw [hz];exact Tryz.underlying26) .i64 _ (by omega) (by omega),hz,hs]
    simp [Result.andThen,sliced,Addr.add]
   have hon:=HM.out.len
   rw [<-HN.out] at hon
   clear hI hT hW hW2 hxc hlen hL hgk qx
   go_wp2_with fail
   go_loopw [6,34] (fun lv i w4=>∃(j:Nat) (out2 work2:List Nat),j<=L.length/\i = .int .i64 j/\RMid t f x (L.take j) out2 work2/\TRow F w4 (.slice (some ⟨F,0,none⟩) n n) n out2/\IRow (F+1) w4 lv work2/\out2.length+rest.length=out.length+work2.length/\F<w4.heap.size/\Bl w w4) (fun _ i _=>L.length-(RowKit.intOf i).toNat)
   case atStart=>exact ⟨0,out,rest,Nat.zero_le _,rfl,by simpa using HM.out,HT.out,HW2.out,rfl,hFs,hB⟩
   case round=>
    clear HM HW2 HT q6 qx' hB hFs hsl
    obtain ⟨j,out2,work2,hj2,rfl,hM,hT,hW,hlw,hFs,hB⟩:=hrel
    have HM:=hide hM
    have HT:=hide hT
    have hon2:=hM.len
    rw [<-HN.out] at hon2
    obtain ⟨a6,c7,rfl⟩:=hW.shape
    have HW:Hid (IRow (F+1) wr (.slice a6 work2.length c7) work2):=hW
    clear hM hW
    by_cases hjl:j<L.length
    ·obtain ⟨bx,rfl,hcx⟩:=HXC.out (by omega)
     have d0:=(hB.cell (p:=⟨bx,j,none⟩) (World.block_lt_of_cell? _ _ (hcx j hjl))).trans (hcx j hjl)
     have HT1:Hid (L.take (j+1)=L.take j++[L[j]]):=take_succ L j hjl
     have hyc:CallR t x L[j]:=(HL.out _).2 (List.getElem_mem hjl)
     have hyn:L[j]<n:=by have:=hyc.lt;rw [HN.out];exact this
     have HYC:=hide hyc
     clear hcx hyc
     generalize L[j]=y at d0 HT1 hyn HYC
     obtain ⟨t0,tf⟩:=hT.cell y hyn
     clear hT
     by_cases hy:y∈out2
     ·rw [decide_eq_true hy] at t0
      have HM2:Hid (RMid t f x (L.take (j+1)) out2 work2):=by show RMid _ _ _ _ _ _;rw [HT1.out];exact HM.out.old hy
      clear hy
      go_wp2_with fail
      go_roundw
      case rel=>exact ⟨j+1,out2,work2,by omega,by go_num,HM2.out,HT.out,HW.out,hlw,hFs,hB⟩
      case measure=>simp [RowKit.intOf];omega
     ·rw [decide_eq_false hy] at t0
      have HM2:Hid (RMid t f x (L.take (j+1)) (out2++[y]) (work2++[y])):=by show RMid _ _ _ _ _ _;rw [HT1.out];exact HM.out.new hy HYC.out
      have HTp:=hide (HT.out.put y hyn)
      have HWp:Hid (IRow (F+1) (wr.setCell ⟨F,y,none⟩ (.bool true)) (.slice a6 work2.length c7) work2):=HW.out.set (Nat.lt_succ_self _)
      have hBp:Bl w (wr.setCell ⟨F,y,none⟩ (.bool true)):=hB.setCell (p:=⟨F,y,none⟩) (by rw [HFw.out];exact Nat.le_refl _) _
      have hsp:(wr.setCell ⟨F,y,none⟩ (.bool true)).heap.size=wr.heap.size:=by simp
      have hwl:work2.length<=2000:=by omega
      clear hy
      go_wp2_with (at_builtin;refine wpList_appF rfl _ _ _ rfl (F+1) 2 i1 _ 1 8 Tryz.underlying26 hj hy0 hy1 hy2 rfl (by decide) _ work2.length (work2.map (fun g:Nat=>Value.int .i64 (g:Int))) rfl (HWp.out.below (bel_a _ _)) ⟨wr.heap.size,0,none⟩ 1 1 [.int .i64 (y:Int)] rfl rfl (by rw [<-hsp];exact cell_one_new _ _ _) (by simp [Value.oneCell']) (by omega) (by decide) (by simp;omega) ?_)
      intro v9 w9 ho9 hg9 hf9
      have HW9:Hid (IRow (F+1) w9 v9 (work2++[y])):=by
       show World.ownsRow _ _ _ _ _ _ _
       simpa using ho9
      have hrow : ∀g,(Value.slice a6 work2.length c7).ownBlock=some g->F+1<=g:=fun g hg=>(World.ownsRow.lt HWp.out g hg).1
      have HT9:=hide (ownG (HTp.out.below (bel_a _ _)) hg9 (fun g hg h=>by simp only [Value.ownBlock,Option.some.injEq] at hg;have:=hrow g h;omega))
      have hB9:Bl w w9:=(hBp.alloc hBp.size _).grown hg9 (by have:=hBp.size;simp;simp at this;omega) (fun g hg=>by have:=hrow g hg;have:=HFw.out;omega)
      have hF9:F<w9.heap.size:=by have:=hg9.size;simp at this;omega
      obtain ⟨a9,c9,rfl⟩:=HW9.out.shape
      have hle9:(work2++[y]).length=work2.length+1:=by simp
      rw [hle9] at HW9 ⊢
      clear ho9 hg9 hf9 d0 t0 tf HW HT HM
      go_wp2_with fail
      go_roundw
      case rel=>exact ⟨j+1,out2++[y],work2++[y],by omega,by go_num,HM2.out,HT9.out,HW9.out,by simp;omega,hF9,hB9⟩
      case measure=>simp [RowKit.intOf];omega
    ·have HMd:Hid (RInv t f out2 work2):=by
      have h1:=HM.out
      rw [List.take_of_length_le (by omega)] at h1
      exact h1.done (fun y hy=>(HL.out y).1 hy)
     have HTd:=HT.out
     clear hT
     go_wp2_with fail
     go_roundg ((n-out2.length)+work2.length)
     case measure=>omega
     case rel=>exact ⟨out2,work2,rfl,by omega,HMd.out,HT.out,HW.out,hFs,hB⟩
theorem look_numI {W:World} {b nn:Nat} {D:DataW Unit} {fs:List Fu} (hown:W.ownsMap Tryz.prog 9 (plainElem (H:=Unit) Tryz.prog 2) b nn D) (hN:NumIs D fs) {s:ByteArray} (hs:s.size<=maxLen) {i:Nat} (h:fnum fs s=some i) :
  (Instr.lookup 72 (.map (some b)) (.string s) false).run Tryz.prog W = .ok (.int .i64 (i:Int)) W:=by
 obtain ⟨c,hrun,hc,_⟩:=hown.lookup_int (Maps.string_keyed Tryz.underlying9) Tryz.underlying72 Tryz.underlying2 (Tryz.zeroValue2 _) (WideMaps.keyOf_string_mk Tryz.underlying9 hs)
 rw [hN.val s i h] at hc
 simp only [DataW.lit.injEq,Lit.int.injEq,true_and] at hc
 subst hc
 exact hrun
open Classical in
theorem circE_hit {t:Tr} {m i n:Nat} (h:(i=m∨Rch t m i)/\Rch t i i):circE t m i (n+1)=(7,(i:Int),-1):=by rw [circE,if_pos h]
open Classical in
theorem circE_step {t:Tr} {m i n:Nat} (h : ¬((i=m∨Rch t m i)/\Rch t i i)):circE t m i (n+1)=circE t m (i+1) n:=by rw [circE,if_neg h]
theorem circlesK {E:Ev} {w:World} {v:Value} {bt:Nat} {tk:List ByteArray} (h:Cs E w [] [] v bt tk (-1) (-1)) (m:Nat) (hm:fnum E.t.funcs mainS=some m) (hfl:E.t.funcs.length<=1000) (hw:wfFs E.t.funcs) (hsm : ∀f∈E.t.funcs,smallF f) :
  Calls Tryz.prog 98 #[.pointer (some ⟨E.C,0,none⟩)] w fun e w'=>e = .returned (errV (circE E.t m 0 E.t.funcs.length).1 (circE E.t m 0 E.t.funcs.length).2.1 (circE E.t m 0 E.t.funcs.length).2.2)/\Below E.w0.heap.size E.w0 w':=by
 have HC:=hide h
 obtain ⟨RES,hRES⟩ : ∃R,R=circE E.t m 0 E.t.funcs.length:=⟨_,rfl⟩
 rw [<-hRES]
 have HRES:=hide hRES
 have hmn:=fnum_lt hm
 have HMm:=hide hm
 have hsM:mainS.size<=maxLen:=by unfold maxLen;decide
 obtain ⟨af,cf,hvf,-⟩:=h.fun0.1
 obtain ⟨ag,cg,hvg,-⟩:=h.fun0.2
 have c1:=h.box.c1
 have c2:=h.box.c2
 have c3:=h.box.c3
 have hC:=h.ltC
 rw [hvg] at c1
 rw [hvf] at c2
 have HFf:Hid (Funcs w (.slice af E.t.funcs.length cf) E.t.funcs):=by have:=h.fun0.1.below h.base;rw [hvf] at this;exact this
 have HW:=hide hw
 have HSm:=hide hsm
 go_enter Tryz.func98,Tryz.ntmps98
 go_wp2_with fail
 refine (graph_any E.t.funcs _ _ _ hfl ⟨_,_,_,rfl⟩ HW.out HSm.out HFf.out).mono ?_
 rintro e w1 ⟨vgr,rfl,hgr,hb1⟩
 have HC1:Hid (Cs E w1 [] [] v bt tk (-1) (-1)):=HC.out.below hb1
 have HGr:=hide hgr
 have d3:=(hb1.cell (p:=⟨E.C,3,none⟩) hC).trans c3
 have hlook:(Instr.lookup 72 (.map (some E.bn)) (.string ⟨#[109,97,105,110]⟩) false).run Tryz.prog w1=_:=look_numI HC1.out.own HC1.out.num hsM HMm.out
 obtain ⟨G,capG,rfl,-⟩:=hgr
 go_wp2_with fail
 refine (reached_any E.t _ m w1 hmn hfl HGr.out).mono ?_
 rintro e w2 ⟨v2,out,rfl,htr,hout,hb2⟩
 have HC2:Hid (Cs E w2 [] [] v bt tk (-1) (-1)):=HC1.out.below hb2
 have HG2:=hide (HGr.out.below hb2)
 have HTR:=hide htr
 have HOut:=hide hout
 obtain ⟨g5,c5,rfl,-,hg5⟩:=htr.form (by omega)
 go_wp2_with fail
 go_loopw [23] (fun j wr=>∃(k:Nat),k<=E.t.funcs.length/\j = .int .i64 k/\RES=circE E.t m k (E.t.funcs.length-k)/\Bl w2 wr) (fun j _=>E.t.funcs.length-(RowKit.intOf j).toNat)
 case atStart=>exact ⟨0,Nat.zero_le _,rfl,by simpa using HRES.out,Below.refl _ _⟩
 case round=>
  obtain ⟨k,hk,rfl,hres,hB⟩:=hrel
  have HRES:=hide hres
  have hcs:=HC2.out.below hB
  have HCr:=hide hcs
  have y5:=hcs.box.c5
  have f5:=hcs.box.fz 5
  have hC:=hcs.ltC
  by_cases hlt:k<E.t.funcs.length
  ·have HR2:Hid (RES=circE E.t m k ((E.t.funcs.length-(k+1))+1)):=by
    show _=_
    rw [HRES.out]
    congr 1
    omega
   have t0:=((HTR.out.below hB).cell k hlt).1
   have HRe:=hide (reached_any E.t _ k wr hlt hfl (HG2.out.below hB))
   by_cases hkm:k=m
   ·subst hkm
    have b1:((k:Int) == (k:Int))=true:=by simp
    go_wp2_with fail
    refine HRe.out.mono ?_
    rintro e w3 ⟨v3,out3,rfl,htr3,ho3,hb3⟩
    obtain ⟨g3,c3,rfl,-,-⟩:=htr3.form (by omega)
    have t3:=(htr3.cell k hlt).1
    have hB3:Bl w2 w3:=hB.trans (hb3.mono hB.size)
    have HC3:Hid (Cs E w3 [] [] v bt tk (-1) (-1)):=HCr.out.below hb3
    have z5:=(hb3.cell (p:=⟨E.C,5,none⟩) hC).trans y5
    have zf:=(hb3.frozen (p:=⟨E.C,5,none⟩) hC).trans f5
    by_cases ho:k∈out3
    ·have HE:Hid (RES=(7,(k:Int),-1)):=by show _=_;rw [HR2.out];exact circE_hit ⟨.inl rfl,(ho3 k).1 ho⟩
     rw [decide_eq_true ho] at t3
     have HC4:=hide (HC3.out.put 5 _ (HC3.out.box.s5 (k:Int)))
     go_wp2_with fail
     refine (fault_any E.C 7 (k:Int) (-1) _ HC4.out.box.c5 HC4.out.box.c6).mono ?_
     rintro e w5 ⟨rfl,hw⟩
     rw [hw]
     go_wp2_with fail
     go_ret
     exact ⟨ret_val (by rw [HE.out];rfl),HC4.out.base⟩
    ·have HN:Hid (RES=circE E.t k (k+1) (E.t.funcs.length-(k+1))):=by show _=_;rw [HR2.out];exact circE_step (fun h=>ho ((ho3 k).2 h.2))
     rw [decide_eq_false ho] at t3
     go_wp2_with fail
     go_roundw
     case rel=>exact ⟨k+1,by omega,by go_num,HN.out,hB3⟩
     case measure=>simp [RowKit.intOf];omega
   have b1:((k:Int) == (m:Int))=false:=by
    have : ¬(k:Int)=(m:Int):=by omega
    simpa using this
   by_cases hko:k∈out
   ·have HA:Hid (k=m∨Rch E.t m k):=.inr ((HOut.out k).1 hko)
    rw [decide_eq_true hko] at t0
    go_wp2_with fail
    refine HRe.out.mono ?_
    rintro e w3 ⟨v3,out3,rfl,htr3,ho3,hb3⟩
    obtain ⟨g3,c3,rfl,-,-⟩:=htr3.form (by omega)
    have t3:=(htr3.cell k hlt).1
    have hB3:Bl w2 w3:=hB.trans (hb3.mono hB.size)
    have HC3:Hid (Cs E w3 [] [] v bt tk (-1) (-1)):=HCr.out.below hb3
    have z5:=(hb3.cell (p:=⟨E.C,5,none⟩) hC).trans y5
    have zf:=(hb3.frozen (p:=⟨E.C,5,none⟩) hC).trans f5
    by_cases ho:k∈out3
    ·have HE:Hid (RES=(7,(k:Int),-1)):=by show _=_;rw [HR2.out];exact circE_hit ⟨HA.out,(ho3 k).1 ho⟩
     rw [decide_eq_true ho] at t3
     have HC4:=hide (HC3.out.put 5 _ (HC3.out.box.s5 (k:Int)))
     go_wp2_with fail
     refine (fault_any E.C 7 (k:Int) (-1) _ HC4.out.box.c5 HC4.out.box.c6).mono ?_
     rintro e w5 ⟨rfl,hw⟩
     rw [hw]
     go_wp2_with fail
     go_ret
     exact ⟨ret_val (by rw [HE.out];rfl),HC4.out.base⟩
    ·have HN:Hid (RES=circE E.t m (k+1) (E.t.funcs.length-(k+1))):=by show _=_;rw [HR2.out];exact circE_step (fun h=>ho ((ho3 k).2 h.2))
     rw [decide_eq_false ho] at t3
     go_wp2_with fail
     go_roundw
     case rel=>exact ⟨k+1,by omega,by go_num,HN.out,hB3⟩
     case measure=>simp [RowKit.intOf];omega
   ·have HN:Hid (RES=circE E.t m (k+1) (E.t.funcs.length-(k+1))):=by
     show _=_
     rw [HR2.out]
     refine circE_step (fun h => ?_)
     rcases h.1 with h1 | h1
     ·exact hkm h1
     ·exact hko ((HOut.out k).2 h1)
    rw [decide_eq_false hko] at t0
    go_wp2_with fail
    go_roundw
    case rel=>exact ⟨k+1,by omega,by go_num,HN.out,hB⟩
    case measure=>simp [RowKit.intOf];omega
  ·have HN:Hid (RES=(0,-1,-1)):=by
    show _=_
    have e:E.t.funcs.length-k=0:=by omega
    rw [HRES.out,e]
    rfl
   go_wp2_with fail
   go_ret
   exact ⟨ret_val (by rw [HN.out];rfl),HCr.out.base⟩
end Go.Proofs.YtmddmgpijpjpbaaGreatDoor
