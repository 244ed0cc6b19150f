import Derived.Test.YtpdndlghjldhjaaGreatM50
import Derived.Deep.RegionHeld3
import Derived.Test.YtpdndlghjldhjaaGreatM53
import Derived.Test.YtpdndlghjldhjaaGreatM28
set_option linter.unusedSectionVars false
variable [Inhabited Go.Proofs.YtpdndlghjldhjaaGreat.Pick]
namespace Go.Proofs.YtpdndlghjldhjaaGreat
set_option linter.unusedVariables false
set_option linter.unusedSimpArgs false
set_option maxRecDepth 100000
set_option maxHeartbeats 16000000
section
open Go.RowKit
theorem ownsRow_low {w:World} {B B' size n:Nat} {e:TypeId} {v:Value} {xs:List Value} (h:w.ownsRow B e size v n xs) (hb:B'<=B):w.ownsRow B' e size v n xs:=by
 obtain ⟨g1,g2⟩:=h
 refine ⟨g1,?_⟩
 rcases g2 with g2 | ⟨g,cap,cur,rfl,g3,g4⟩
 ·exact .inl g2
 ·exact .inr ⟨g,cap,cur,rfl,Nat.le_trans hb g3,g4⟩
theorem fld_err (x y z:Int) (W:World):(Instr.field 131 (.agg #[.int .i64 x,.int .i64 y,.int .i64 z]) 0).run Tryz.prog W = .ok (.int .i64 x) W:=by kernel_rfl
theorem framesG_any (t:Tr) (vg vf:Value) (w:World) (hs:smallT t) (hw:wfT t) (hg:Globs w vg t.globals) (hf:Funcs w vf t.funcs) :
  Calls Tryz.prog 49 #[.agg #[vg,vf]] w fun e w'=>∃v,e = .returned v/\FRow w.heap.size w' v (framesL t)/\Below w.heap.size w w':=by
 obtain ⟨x,y,z,hX⟩ : ∃x y z,checkE t=(x,y,z):=⟨_,_,_,rfl⟩
 have HSo:Hid (∀W,Bl w W->Calls Tryz.prog 65 #[.agg #[vg,vf]] W fun e w'=>e = .returned (.agg #[.int .i64 x,.int .i64 y,.int .i64 z])/\Bl W w'):=fun W hW=>by
  have:=checkCG_any l3block t vg vf W hs hw (hg.below hW) (hf.below hW)
  rw [hX] at this
  exact this
 have HOk:Hid (x=0->framesL t=t.funcs.map frameSz/\t.funcs.length<=50/\∀f∈t.funcs,FrOk f):=fun h=>by
  have h0:(checkE t).1=0:=by rw [hX];exact h
  exact ⟨framesL_yes h0,frOk h0 hw⟩
 have HNo:Hid (x≠0->framesL t = []):=fun h=>framesL_no (by rw [hX];exact h)
 obtain ⟨ag,cg,rfl,-⟩:=hg
 obtain ⟨af,cf,rfl,-,-,hfc⟩:=hf
 have HFC:=hide hfc
 clear hs hw hfc hX
 obtain ⟨W0,hW0⟩ : ∃W0,W0=w.alloc (.cells #[.slice ag t.globals.length cg,.slice af t.funcs.length cf] 44):=⟨_,rfl⟩
 have hA0:Bl w W0:=by rw [hW0];exact (Below.refl _ _).alloc (Nat.le_refl _) _
 have hs0:W0.heap.size=w.heap.size+1:=by rw [hW0];simp
 have hA1:Bl w (W0.alloc (.cells #[] 2)):=hA0.alloc hA0.size _
 have HR0:Hid (FRow (w.heap.size+1) (W0.alloc (.cells #[] 2)) (.slice (some ⟨w.heap.size+1,0,none⟩) 0 0) []):=by
  have:=frow_lit W0 (w.heap.size+1) (by omega)
  rw [hs0] at this
  exact this
 have HBx:Hid (∀W,Below (w.heap.size+1) W0 W->(W.cell? ⟨w.heap.size,0,none⟩=some (.slice ag t.globals.length cg)/\W.cell? ⟨w.heap.size,1,none⟩=some (.slice af t.funcs.length cf))/\Bl w W/\w.heap.size+1<=W.heap.size):=fun W hW=>by
  have h2:=hW.size
  rw [hs0] at h2
  exact ⟨by rw [hW0] at hW;exact box2 hW,hA0.trans (hW.mono (by omega)),h2⟩
 have hA2:Below (w.heap.size+1) W0 (W0.alloc (.cells #[] 2)):=(Below.refl _ _).alloc (by omega) _
 have HW0:=hide hW0
 clear hW0 hA0
 go_enter Tryz.func49,Tryz.ntmps49
 go_wp2_with fail
 rw [<-HW0.out]
 refine (HSo.out _ hA1).mono ?_
 rintro e w1 ⟨rfl,hb1⟩
 have HR1:Hid (FRow (w.heap.size+1) w1 (.slice (some ⟨w.heap.size+1,0,none⟩) 0 0) []):=HR0.out.below hb1
 have hB1:Below (w.heap.size+1) W0 w1:=hA2.trans (hb1.mono (by have:=hA2.size;omega))
 have hfd:=fld_err x y z
 clear hA1 hA2 hb1 HR0 HSo HW0
 by_cases hz:x=0
 ·obtain ⟨hres,hfl,hfo⟩:=HOk.out hz
  have HFo:=hide hfo
  have HRes:=hide hres
  clear hres hfo HOk HNo
  subst hz
  go_wp2_with fail
  clear hfd
  go_loopw [3,4] (fun v i wr=>∃k:Nat,k<=t.funcs.length/\i = .int .i64 k/\FRow (w.heap.size+1) wr v ((t.funcs.take k).map frameSz)/\Below (w.heap.size+1) W0 wr) (fun _ i _=>t.funcs.length-(RowKit.intOf i).toNat)
  case atStart=>exact ⟨0,Nat.zero_le _,rfl,HR1.out,hB1⟩
  case round=>
   clear HR1 hB1
   obtain ⟨k,hk,rfl,hR,hB⟩:=hrel
   obtain ⟨⟨x0,x1⟩,hBw,hsw⟩:=HBx.out wr hB
   by_cases hlt:k<t.funcs.length
   ·obtain ⟨b,off,rfl,hc⟩:=HFC.out (by omega)
    obtain ⟨vp,vb,⟨d0,d1,d2⟩,hp,hb⟩:=(hc.below hBw) k hlt
    have hok:=HFo.out _ (List.getElem_mem hlt)
    have HF:Hid (Calls Tryz.prog 52 #[.agg #[.string t.funcs[k].name,vp,vb]] wr fun e w'=>e = .returned (.int .i64 (frameSz t.funcs[k]))/\Bl wr w'):=frameG_any t.funcs[k] vp vb wr hok hp hb
    have HN:Hid ((t.funcs.take (k+1)).map frameSz=(t.funcs.take k).map frameSz++[frameSz t.funcs[k]]):=by show _=_;rw [List.take_succ_eq_append_getElem hlt,List.map_append];rfl
    obtain ⟨ap,cp,rfl,-⟩:=hp
    obtain ⟨ab,cb,rfl,-⟩:=hb
    clear hc hok
    generalize frameSz t.funcs[k]=F at HF HN
    generalize t.funcs[k].params.length=lp at d1 HF
    generalize t.funcs[k].body.length=lb at d2 HF
    generalize t.funcs[k].name=nm at d0 HF
    have hll:((t.funcs.take k).map frameSz).length<=1000:=by simp;omega
    generalize (t.funcs.take k).map frameSz=l at hR HN hll
    obtain ⟨av,cv,rfl⟩:=hR.shape
    have HR:=hide hR
    clear hR
    go_wp2_with fail
    refine HF.out.mono ?_
    rintro e w2 ⟨rfl,hb2⟩
    have hB2:Below (w.heap.size+1) W0 w2:=hB.trans (hb2.mono hsw)
    have HR2:Hid (FRow (w.heap.size+1) (w2.alloc (.cells #[.int .i64 F] 2)) (.slice av l.length cv) l):=(HR.out.below hb2).below (bel_a _ _)
    have hz:(w2.alloc (.cells #[.int .i64 F] 2)).cell? ⟨w2.heap.size,0,none⟩=some (.int .i64 F):=by simp
    have hsz2:w.heap.size+1<=w2.heap.size:=Nat.le_trans hsw hb2.size
    clear hb2 HF d0 d1 d2 HR hB x0 x1 hBw hsw
    go_wp2_with (at_builtin;refine wpList_appI rfl _ _ rfl (w.heap.size+1) _ l F rfl HR2.out w2.heap.size 1 rfl hz (by omega) (by simp;omega) ?_)
    intro v3 w3 hr3 hg3
    have hB3:Below (w.heap.size+1) W0 w3:=(hB2.alloc hsz2 _).grown hg3 (by simp;omega) (fun g hg=>(World.ownsRow.lt HR2.out g hg).1)
    rw [<-HN.out] at hr3
    have HR3:=hide hr3
    clear hr3 hg3 hz HR2 HN hB2
    go_wp2_with fail
    go_roundw
    case rel=>exact ⟨k+1,by omega,by go_num,HR3.out,hB3⟩
    case measure=>simp [RowKit.intOf];omega
   ·obtain rfl:k=t.funcs.length:=by omega
    rw [List.take_length,<-HRes.out] at hR
    obtain ⟨av,cv,rfl⟩:=hR.shape
    have HR:=hide hR
    clear hR
    go_wp2_with fail
    go_ret
    exact ⟨_,rfl,ownsRow_low HR.out (by omega),hBw⟩
 ·have HRes:Hid (framesL t = []):=HNo.out hz
  have hx0:(x == 0)=false:=by simp [hz]
  clear HOk HNo
  go_wp2_with fail
  go_ret
  exact ⟨_,rfl,by rw [HRes.out];exact ownsRow_low HR1.out (by omega),(HBx.out w1 hB1).2.1⟩
end
section
open Go.RowKit
theorem FRow.form {B:Nat} {w:World} {v:Value} {l:List Int} (h:FRow B w v l) (hn:0<l.length) : ∃g c,v = .slice (some ⟨g,0,none⟩) l.length c/\B<=g/\g<w.heap.size:=by
 have h0:=h
 rcases h.2 with ⟨_,hz⟩ | ⟨g,cap,cur,rfl,hbg,_⟩
 ·omega
 ·exact ⟨g,cap,rfl,hbg,(World.ownsRow.lt h0 g rfl).2⟩
theorem FRow.cell {B g c n:Nat} {w:World} {l:List Int} (h:FRow B w (.slice (some ⟨g,0,none⟩) n c) l) (hn:n=l.length) (j:Nat) (hj:j<l.length):w.cell? ⟨g,j,none⟩=some (.int .i64 l[j])/\w.frozen? ⟨g,j,none⟩=false:=by
 subst hn
 refine ⟨?_,World.ownsRow.frozenAt h j⟩
 have:=World.ownsRow.cells h (g:=g) rfl j (.int .i64 l[j]) (by simp [hj])
 rw [addrO] at this
 simpa using this
theorem FRow.put {B g c n:Nat} {w:World} {l:List Int} (h:FRow B w (.slice (some ⟨g,0,none⟩) n c) l) (hn:n=l.length) (j:Nat) (z:Int):FRow B (w.setCell ⟨g,j,none⟩ (.int .i64 z)) (.slice (some ⟨g,0,none⟩) n c) (l.set j z):=by
 subst hn
 have:=(World.ownsRow.stored h j (.int .i64 z)).1
 unfold FRow
 rw [List.length_set,List.map_set]
 exact this
theorem irow_frow {B:Nat} {w:World} {v:Value} {l:List Nat} (h:IRow B w v l):FRow B w v (l.map (fun g:Nat=>(g:Int))):=by
 unfold FRow
 rw [List.length_map,List.map_map]
 exact h
def sL (n:Nat) (S:Nat->Int):List Int:=(List.range n).map S
theorem sL_len (n:Nat) (S:Nat->Int):(sL n S).length=n:=by simp [sL]
theorem sL_get {n:Nat} {S:Nat->Int} {j:Nat} (h:j<(sL n S).length):(sL n S)[j]=S j:=by simp [sL]
theorem sL_set (n:Nat) (S:Nat->Int) (j:Nat) (z:Int):(sL n S).set j z=sL n (updS S j z):=by
 apply List.ext_getElem
 ·simp [sL]
 ·intro i h1 h2
  rw [List.getElem_set]
  simp only [sL,List.getElem_map,List.getElem_range,updS]
  by_cases e:j=i
  ·subst e;simp
  ·rw [if_neg e,if_neg (Ne.symm e)]
theorem sL_snoc (n:Nat):sL n (fun _=>0)++[0]=sL (n+1) (fun _=>0):=by simp [sL,List.range_succ]
theorem deepG_any (t:Tr) (vg vf:Value) (m:Nat) (w:World) (hs:smallT t) (hfl:t.funcs.length<=50) (hfo : ∀f∈t.funcs,FrOk f) (hm:m<t.funcs.length) (ha:Acyc t m) (hg : ∃a n c,vg = .slice a n c) (hf:Funcs w vf t.funcs) :
  Calls Tryz.prog 50 #[.agg #[vg,vf],.int .i64 (m:Int)] w fun e w'=>e = .returned (.int .i64 (deepE t m))/\Below w.heap.size w w':=by
 have hz : ∀f,f<t.funcs.length->0<=fszF t f/\fszF t f<=1000000:=fun f hf=>by
  unfold fszF
  have e:t.funcs.getD f ⟨⟨#[]⟩,[],[]⟩=t.funcs[f]:=by simp [List.getD,hf]
  rw [e]
  exact frameSz_bd (hfo _ (List.getElem_mem hf))
 have hD : ∀f,LiveS t m f->∃n s,Dp t n f s:=fun f hf=>by
  obtain ⟨s,h,-⟩:=deep_bd hz hm ha hf
  exact ⟨_,s,h⟩
 have HZ:=hide hz
 have HD:=hide hD
 have HDb:Hid (∀f,LiveS t m f->0<=deepE t f/\deepE t f<=50000000):=fun f hf=>by
  obtain ⟨s,h1,h2,h3,h4⟩:=deep_bd hz hm ha hf
  rw [h2]
  omega
 have HAc:=hide ha
 obtain ⟨ag,ng,cg,rfl⟩:=hg
 have HF:=hide hf
 have HFo:=hide hfo
 have HSm:Hid (∀g∈t.funcs,smallF g):=hs.2.2
 obtain ⟨af,cf,rfl,-⟩:=hf
 obtain ⟨W1,hW1⟩ : ∃W1,W1=(w.alloc (.cells #[.slice ag ng cg,.slice af t.funcs.length cf] 44)).alloc (.cells #[.int .i64 (m:Int)] 2):=⟨_,rfl⟩
 have hB1:Bl w W1:=by rw [hW1];exact (bel_a _ _).alloc (by simp) _
 have hs1:W1.heap.size=w.heap.size+2:=by rw [hW1];simp
 have HBx:Hid (∀W,Below (w.heap.size+1) W1 W->(W.cell? ⟨w.heap.size,0,none⟩=some (.slice ag ng cg)/\W.cell? ⟨w.heap.size,1,none⟩=some (.slice af t.funcs.length cf))/\Bl w W):=fun W hW=>by
  have hx:Below (w.heap.size+1) (w.alloc (.cells #[.slice ag ng cg,.slice af t.funcs.length cf] 44)) W:=by
   rw [hW1] at hW
   exact ((Below.refl _ _).alloc (by simp) _).trans hW
  exact ⟨box2 hx,one_below hx⟩
 have hIm:Ints W1 (.slice (some ⟨w.heap.size+1,0,none⟩) 1 1) [(m:Int)]:=by
  refine ⟨_,1,rfl,fun _=>⟨w.heap.size+1,rfl,fun j hj => ?_⟩⟩
  have:j=0:=by simp at hj;omega
  subst this
  rw [hW1]
  simp
 have HRe:Hid (Calls Tryz.prog 66 #[.agg #[.slice ag ng cg,.slice af t.funcs.length cf],.slice (some ⟨w.heap.size+1,0,none⟩) 1 1] W1 fun e w'=>∃v out,e = .returned v/\IRow W1.heap.size w' v out/\(∀g,g∈out↔Rch t m g)/\out.length<=1000/\Bl W1 w'):=l3reach_any t _ _ _ m W1 hm (by omega) hs.2.2 ⟨_,_,_,rfl⟩ (HF.out.below hB1) hIm (fun a n c h=>by simp only [Value.slice.injEq] at h;omega)
 have HW1:=hide hW1
 clear hW1 hIm hs hfo hz hD ha
 go_enter Tryz.func50,Tryz.ntmps50
 go_wp2_with fail
 rw [<-HW1.out]
 refine HRe.out.mono ?_
 rintro e w2 ⟨v2,out,rfl,hr2,hout,hol,hb2⟩
 have HR2:Hid (FRow W1.heap.size (w2.alloc (.cells #[.int .i64 (m:Int)] 2)) v2 (out.map (fun g:Nat=>(g:Int)))):=(irow_frow hr2).below (bel_a _ _)
 have hz2:(w2.alloc (.cells #[.int .i64 (m:Int)] 2)).cell? ⟨w2.heap.size,0,none⟩=some (.int .i64 (m:Int)):=by simp
 have hsz2:=hb2.size
 have HOut:=hide hout
 have hll:(out.map (fun g:Nat=>(g:Int))).length<=1000000:=by simp;omega
 have hshape : ∃a c,v2 = .slice a (out.map (fun g:Nat=>(g:Int))).length c:=HR2.out.shape
 obtain ⟨a2,c2,hv2⟩:=hshape
 rw [List.length_map] at hv2
 subst hv2
 clear hr2 HRe hout HW1
 go_wp2_with (at_builtin;refine wpList_appI rfl _ _ rfl W1.heap.size _ (out.map (fun g:Nat=>(g:Int))) (m:Int) rfl HR2.out w2.heap.size 1 rfl hz2 hll (by simp;omega) ?_)
 intro v3 ws hr3 hg3
 have hBs1:Bl W1 ws:=(hb2.alloc hsz2 _).grown hg3 (by simp;omega) (fun g hg=>(World.ownsRow.lt HR2.out g hg).1)
 obtain ⟨⟨x0,x1⟩,hBs⟩:=HBx.out ws (hBs1.mono (by omega))
 have hlv:out.map (fun g:Nat=>(g:Int))++[(m:Int)]=(out++[m]).map (fun g:Nat=>(g:Int)):=by simp
 rw [hlv] at hr3
 have HLi:Hid (Ints ws v3 ((out++[m]).map (fun g:Nat=>(g:Int)))):=own_ints hr3
 have HLm:Hid ((∀x,LiveS t m x->x∈out++[m])/\(∀x∈out++[m],LiveS t m x)/\(out++[m]).length<=1001):=by
  refine ⟨fun x hx => ?_,fun x hx => ?_,by simp;omega⟩
  ·rcases hx with rfl | hx
   ·simp
   ·simp [(HOut.out x).2 hx]
  ·rcases List.mem_append.1 hx with h | h
   ·exact .inr ((HOut.out x).1 h)
   ·exact .inl (by simpa using h)
 obtain ⟨a3,c3,hv3⟩:=hr3.shape
 rw [List.length_map] at hv3
 subst hv3
 have hllen:=HLm.out.2.2
 have HX:Hid (ws.cell? ⟨w.heap.size,0,none⟩=some (.slice ag ng cg)/\ws.cell? ⟨w.heap.size,1,none⟩=some (.slice af t.funcs.length cf)):=⟨x0,x1⟩
 have hlw:w.heap.size<ws.heap.size:=World.block_lt_of_cell? _ _ x0
 have HFs:Hid (Funcs ws (.slice af t.funcs.length cf) t.funcs):=HF.out.below hBs
 have HBs:=hide hBs
 clear hr3 hg3 hBs1 HR2 hz2 hb2 hsz2 hll HBx HOut hlv HF x0 x1 hBs hol hs1 hB1
 generalize out++[m]=live at HLi HLm hllen
 obtain ⟨N,hN⟩ : ∃N,N=t.funcs.length:=⟨_,rfl⟩
 have HS0:Hid (FRow ws.heap.size (ws.alloc (.cells #[] 2)) (.slice (some ⟨ws.heap.size,0,none⟩) 0 0) (sL 0 (fun _=>0))):=frow_lit ws ws.heap.size (Nat.le_refl _)
 go_wp2_with fail
 go_loopw [6,7] (fun v i wr=>∃k:Nat,k<=t.funcs.length/\i = .int .i64 k/\FRow ws.heap.size wr v (sL k (fun _=>0))/\Bl ws wr) (fun _ i _=>t.funcs.length-(RowKit.intOf i).toNat)
 case atStart=>exact ⟨0,Nat.zero_le _,rfl,HS0.out,(Below.refl _ _).alloc (Nat.le_refl _) _⟩
 case round=>
  clear HS0
  obtain ⟨k,hk,rfl,hR,hB⟩:=hrel
  have x0:=(hB.cell (p:=⟨w.heap.size,0,none⟩) hlw).trans HX.out.1
  have x1:=(hB.cell (p:=⟨w.heap.size,1,none⟩) hlw).trans HX.out.2
  by_cases hlt:k<t.funcs.length
  ·obtain ⟨av,cv,rfl⟩:=hR.shape
   rw [sL_len] at hR ⊢
   have HR2:Hid (FRow ws.heap.size (wr.alloc (.cells #[.int .i64 0] 2)) (.slice av k cv) (sL k (fun _=>0))):=hR.below (bel_a _ _)
   have hz2:(wr.alloc (.cells #[.int .i64 0] 2)).cell? ⟨wr.heap.size,0,none⟩=some (.int .i64 0):=by simp
   have hsz2:=hB.size
   have hll:(sL k (fun _=>0)).length<=1000000:=by rw [sL_len];omega
   clear hR
   go_wp2_with (at_builtin;refine wpList_appI rfl _ _ rfl ws.heap.size _ (sL k (fun _=>0)) 0 rfl HR2.out wr.heap.size 1 rfl hz2 hll (by simp;omega) ?_)
   intro v4 w4 hr4 hg4
   rw [sL_snoc] at hr4
   have hB4:Bl ws w4:=(hB.alloc hsz2 _).grown hg4 (by simp;omega) (fun g hg=>(World.ownsRow.lt HR2.out g hg).1)
   have HR4:=hide hr4
   clear hr4 hg4 hz2 HR2 x0 x1 hB
   go_wp2_with fail
   go_roundw
   case rel=>exact ⟨k+1,by omega,by go_num,HR4.out,hB4⟩
   case measure=>simp [RowKit.intOf];omega
  ·obtain rfl:k=t.funcs.length:=by omega
   obtain ⟨gs,cs,rfl,hgs,hgl⟩:=hR.form (by rw [sL_len];omega)
   rw [sL_len] at hR ⊢
   have HR:=hide hR
   clear hR hk hlt
   have HS0:Hid (SumI t m 0 (fun _=>0)):=SumI.zero HZ.out HD.out
   go_wp2_with fail
   clear x0 x1
   go_loopw [8] (fun i wr=>∃(r:Nat) (S:Nat->Int),r<=live.length/\i = .int .i64 r/\SumI t m r S/\FRow ws.heap.size wr (.slice (some ⟨gs,0,none⟩) t.funcs.length cs) (sL t.funcs.length S)/\Bl ws wr) (fun i _=>live.length-(RowKit.intOf i).toNat)
   case atStart=>exact ⟨0,_,Nat.zero_le _,rfl,HS0.out,HR.out,hB⟩
   case round=>
    clear HS0 HR hB hgl
    obtain ⟨r,S,hr,rfl,hS,hR,hB⟩:=hrel
    have HSr:=hide hS
    have HRr:=hide hR
    clear hS hR
    by_cases hrl:r<live.length
    ·go_wp2_with fail
     go_loopw [9] (fun i wr=>∃(k:Nat) (S:Nat->Int),k<=live.length/\i = .int .i64 k/\SumK t m r (live.take k) S/\FRow ws.heap.size wr (.slice (some ⟨gs,0,none⟩) t.funcs.length cs) (sL t.funcs.length S)/\Bl ws wr) (fun i _=>live.length-(RowKit.intOf i).toNat)
     case atStart=>exact ⟨0,S,Nat.zero_le _,rfl,HSr.out.start,HRr.out,hB⟩
     case round=>
      clear HSr HRr hB
      obtain ⟨k,S,hk,rfl,hS,hR,hB⟩:=hrel
      have HSk:=hide hS
      have HRk:=hide hR
      clear hS hR
      by_cases hlt:k<live.length
      ·have hlf:=HLm.out.2.1 _ (List.getElem_mem hlt)
       have hfN:live[k]<t.funcs.length:=by rcases hlf with h | h;rw [h];exact hm;exact h.lt
       obtain ⟨a',c',heq,hcc⟩:=HLi.out.below hB
       rw [List.length_map] at heq
       simp only [Value.slice.injEq,true_and] at heq
       obtain ⟨rfl,rfl⟩:=heq
       obtain ⟨bl,rfl,hcell⟩:=hcc (by rw [List.length_map];omega)
       have hc:=hcell k (by simpa using hlt)
       rw [List.getElem_map] at hc
       have HTk:Hid (live.take (k+1)=live.take k++[live[k]]):=List.take_succ_eq_append_getElem hlt
       clear hcc hcell
       generalize live[k]=f at hlf hfN hc HTk
       have HLf:=hide hlf
       have x0:=(hB.cell (p:=⟨w.heap.size,0,none⟩) hlw).trans HX.out.1
       have x1:=(hB.cell (p:=⟨w.heap.size,1,none⟩) hlw).trans HX.out.2
       have HCa:Hid (Calls Tryz.prog 67 #[.agg #[.slice ag ng cg,.slice af t.funcs.length cf],.int .i64 (f:Int)] wr fun e w'=>∃v,e = .returned v/\Ints w' v ((clF t f).map (fun g:Nat=>(g:Int)))/\Bl wr w'):=by
        have:=l3calls_any t.funcs (.slice ag ng cg) _ f wr hfN (by omega) (HSm.out _ (List.getElem_mem hfN)) ⟨_,_,_,rfl⟩ (HFs.out.below hB)
        have e:clF t f=callsL t.funcs t.funcs[f].body:=by unfold clF;simp [List.getD,hfN]
        rw [e]
        exact this
       clear hlf
       go_wp2_with fail
       refine HCa.out.mono ?_
       rintro e w3 ⟨vc,rfl,hIc,hb3⟩
       have HIc:=hide hIc
       obtain ⟨ac,cc,rfl,-⟩:=hIc
       rw [List.length_map]
       have HR3:Hid (FRow ws.heap.size w3 (.slice (some ⟨gs,0,none⟩) t.funcs.length cs) (sL t.funcs.length S)):=HRk.out.below hb3
       have hB3:Bl ws w3:=hB.trans (hb3.mono hB.size)
       have hcl:(clF t f).length<=50:=by have:=callsL_len t.funcs (t.funcs.getD f ⟨⟨#[]⟩,[],[]⟩).body;unfold clF;omega
       have HMb:Hid (∀j,0<=mxL (((clF t f).take j).map S)/\mxL (((clF t f).take j).map S)<=50000000):=fun j=>mxL_bd _ _ (by omega) (fun x hx=>by
        obtain ⟨c,hc,rfl⟩:=List.mem_map.1 hx
        have h1:=(HSk.out.bd c (HLf.out.call hfN (List.mem_of_mem_take hc))).2
        have h2:=(HDb.out c (HLf.out.call hfN (List.mem_of_mem_take hc))).2
        omega)
       clear HCa x0 x1 hc hb3 hB HRk
       go_wp2_with fail
       go_loopw [11,13] (fun p i wr=>∃j:Nat,j<=(clF t f).length/\i = .int .i64 j/\p = .int .i64 (mxL (((clF t f).take j).map S))/\Bl w3 wr) (fun _ i _=>(clF t f).length-(RowKit.intOf i).toNat)
       case atStart=>exact ⟨0,Nat.zero_le _,rfl,rfl,Below.refl _ _⟩
       case round=>
        obtain ⟨j,hj,rfl,rfl,hB5⟩:=hrel
        obtain ⟨hm0,hm1⟩:=HMb.out j
        have HR5:Hid (FRow ws.heap.size wr (.slice (some ⟨gs,0,none⟩) t.funcs.length cs) (sL t.funcs.length S)):=HR3.out.below hB5
        by_cases hjl:j<(clF t f).length
        ·obtain ⟨a',c',heq,hcc⟩:=HIc.out.below hB5
         rw [List.length_map] at heq
         simp only [Value.slice.injEq,true_and] at heq
         obtain ⟨rfl,rfl⟩:=heq
         obtain ⟨bc,rfl,hcell⟩:=hcc (by rw [List.length_map];omega)
         have hc:=hcell j (by simpa using hjl)
         rw [List.getElem_map] at hc
         have hcN:(clF t f)[j]<t.funcs.length:=(show CallR t f (clF t f)[j] from ⟨hfN,List.getElem_mem hjl⟩).lt
         have hd:=(HR5.out.cell (sL_len _ _).symm (clF t f)[j] (by rw [sL_len];exact hcN)).1
         rw [sL_get] at hd
         have HN:Hid (mxL (((clF t f).take (j+1)).map S)=max (mxL (((clF t f).take j).map S)) (S (clF t f)[j])):=by show _=_;rw [List.take_succ_eq_append_getElem hjl,List.map_append];exact mxL_snoc _ _
         clear hcc hcell
         generalize (clF t f)[j]=c at hc hcN hd HN
         generalize mxL (((clF t f).take j).map S)=p at HN hm0 hm1
         generalize S c=q at hd HN
         go_wp2_with fail
         refine (most_any p q wr).mono ?_
         rintro e w6 ⟨rfl,hb6⟩
         have hB6:=hB5.trans (hb6.mono hB5.size)
         clear hb6 hc hd hB5 HR5
         go_wp2_with fail
         go_roundw
         case rel=>exact ⟨j+1,by omega,by go_num,by rw [HN.out],hB6⟩
         case measure=>simp [RowKit.intOf];omega
        ·obtain rfl:j=(clF t f).length:=by omega
         rw [List.take_length] at hm0 hm1 ⊢
         have hB6:Bl ws wr:=hB3.trans (hB5.mono hB3.size)
         have x0:=(hB6.cell (p:=⟨w.heap.size,0,none⟩) hlw).trans HX.out.1
         have x1:=(hB6.cell (p:=⟨w.heap.size,1,none⟩) hlw).trans HX.out.2
         obtain ⟨af',cf',heq,-,-,hfc⟩:=HFs.out.below hB6
         simp only [Value.slice.injEq,true_and] at heq
         obtain ⟨rfl,rfl⟩:=heq
         obtain ⟨b,off,rfl,hcf⟩:=hfc (by omega)
         obtain ⟨vp,vb,⟨d0,d1,d2⟩,hp,hb⟩:=hcf f hfN
         have HFr:Hid (Calls Tryz.prog 52 #[.agg #[.string t.funcs[f].name,vp,vb]] wr fun e w'=>e = .returned (.int .i64 (fszF t f))/\Bl wr w'):=by
          have:=frameG_any t.funcs[f] vp vb wr (HFo.out _ (List.getElem_mem hfN)) hp hb
          have e:fszF t f=frameSz t.funcs[f]:=by unfold fszF;simp [List.getD,hfN]
          rw [e]
          exact this
         obtain ⟨ap,cp,rfl,-⟩:=hp
         obtain ⟨ab,cb,rfl,-⟩:=hb
         have hzf:=HZ.out f hfN
         have HStep:Hid (SumK t m r (live.take (k+1)) (updS S f (mxL ((clF t f).map S)+fszF t f))):=by
          show SumK _ _ _ _ _
          rw [HTk.out]
          exact HSk.out.step HZ.out HD.out HLf.out hfN
         clear hfc hcf
         generalize t.funcs[f].params.length=lp at d1 HFr
         generalize t.funcs[f].body.length=lb at d2 HFr
         generalize t.funcs[f].name=nm at d0 HFr
         generalize mxL ((clF t f).map S)=p at hm0 hm1 HStep
         generalize fszF t f=z at hzf HFr HStep
         have k1:IntKind.i64.wrap (p+z)=p+z:=by simp [IntKind.wrap,IntKind.bits,IntKind.signed];omega
         go_wp2_with fail
         refine HFr.out.mono ?_
         rintro e w7 ⟨rfl,hb7⟩
         have HR7:Hid (FRow ws.heap.size w7 (.slice (some ⟨gs,0,none⟩) t.funcs.length cs) (sL t.funcs.length S)):=HR5.out.below hb7
         obtain ⟨hd,hfz⟩:=HR7.out.cell (sL_len _ _).symm f (by rw [sL_len];exact hfN)
         have hB7:Bl ws w7:=hB6.trans (hb7.mono hB6.size)
         have HR8:Hid (FRow ws.heap.size (w7.setCell ⟨gs,f,none⟩ (.int .i64 (p+z))) (.slice (some ⟨gs,0,none⟩) t.funcs.length cs) (sL t.funcs.length (updS S f (p+z)))):=by
          have:=HR7.out.put (sL_len _ _).symm f (p+z)
          rw [sL_set] at this
          exact this
         have hB8:Bl ws (w7.setCell ⟨gs,f,none⟩ (.int .i64 (p+z))):=hB7.setCell hgs _
         clear x0 x1 d0 d1 d2 hb7 HFr HR5 HR7 hB6 hB5 hB7 HR3 hB3 HMb HIc
         go_wp2_with fail
         go_roundw
         case rel=>exact ⟨k+1,_,by omega,by go_num,HStep.out,HR8.out,hB8⟩
         case measure=>simp [RowKit.intOf];omega
      ·obtain rfl:k=live.length:=by omega
       have HNx:Hid (SumI t m (r+1) S):=by
        have:=HSk.out
        rw [List.take_length] at this
        exact this.next HLm.out.1
       clear HSk
       go_wp2_with fail
       go_roundw
       case rel=>exact ⟨r+1,S,by omega,by go_num,HNx.out,HRk.out,hB⟩
       case measure=>simp [RowKit.intOf];omega
    ·obtain rfl:r=live.length:=by omega
     have hSm:S m=deepE t m:=by
      obtain ⟨s,hs⟩:=dp_exists hm HAc.out live.length m (.inl rfl) (rk_le (.inl rfl) HLm.out.1)
      rw [hs.deep]
      exact HSr.out.ok m (.inl rfl) s hs
     have hd:=(HRr.out.cell (sL_len _ _).symm m (by rw [sL_len];exact hm)).1
     rw [sL_get,hSm] at hd
     have hBf:Bl w wr:=HBs.out.trans (hB.mono HBs.out.size)
     obtain ⟨z,hz⟩ : ∃z,z=deepE t m:=⟨_,rfl⟩
     rw [<-hz] at hd
     have HZd:=hide hz
     clear hz
     go_wp2_with fail
     go_ret
     exact ⟨ret_val (by rw [<-HZd.out];rfl),hBf⟩
end
section
open Go.RowKit
theorem boundG_any (t:Tr) (vg vf:Value) (w:World) (hs:smallT t) (hw:wfT t) (hg:Globs w vg t.globals) (hf:Funcs w vf t.funcs) :
  Calls Tryz.prog 24 #[.agg #[vg,vf]] w fun e w'=>e = .returned (.int .i64 (boundE t))/\Below w.heap.size w w':=by
 have HFr:Hid (∀W,Below w.heap.size w W->Calls Tryz.prog 49 #[.agg #[vg,vf]] W fun e w'=>∃v,e = .returned v/\FRow W.heap.size w' v (framesL t)/\Below W.heap.size W w'):=fun W hW=>framesG_any t vg vf W hs hw (hg.below hW) (hf.below hW)
 have HS:Hid (smallT t):=hs
 have HW:Hid (wfT t):=hw
 have HF:Hid (Funcs w vf t.funcs):=hf
 have hlen:=framesL_len t
 have hsl:=hs.2.1
 obtain ⟨ag,cg,rfl,-⟩:=hg
 obtain ⟨af,cf,rfl,-⟩:=hf
 have hA:Below w.heap.size w (w.alloc (.cells #[.slice ag t.globals.length cg,.slice af t.funcs.length cf] 44)):=(Below.refl _ _).alloc (Nat.le_refl _) _
 clear hs hw
 obtain ⟨RES,hRES⟩ : ∃R,R=boundE t:=⟨_,rfl⟩
 rw [<-hRES]
 have HRES:Hid (RES=boundE t):=hRES
 clear hRES
 go_enter Tryz.func24,Tryz.ntmps24
 go_wp2_with fail
 refine (HFr.out _ hA).mono ?_
 rintro e w1 ⟨v1,rfl,hr1,hb1⟩
 simp only [World.size_alloc] at hb1
 have hB1:=one_below hb1
 have HI:Hid (Ints w1 v1 (framesL t)):=own_ints hr1
 obtain ⟨a1,c1,rfl⟩:=hr1.shape
 clear hr1 HFr hA
 by_cases h0:(framesL t).length=0
 ·have HB:Hid (RES = -1):=by
   show _=_
   rw [HRES.out]
   by_cases hc:(checkE t).1=0
   ·obtain ⟨m,hm,hl,-⟩:=sound_main hc
    rw [framesL_yes hc,List.length_map] at h0
    omega
   ·exact boundE_no hc
  rw [h0]
  clear HI
  go_wp2_with fail
  go_ret
  exact ⟨ret_val (by rw [HB.out];rfl),hB1⟩
 have hpos:0<(framesL t).length:=by omega
 have hc:(checkE t).1=0:=by
  by_cases hc:(checkE t).1=0
  ·exact hc
  ·rw [framesL_no hc] at hpos;simp at hpos
 have HC:Hid ((checkE t).1=0):=hc
 obtain ⟨hfl,hfo⟩:=frOk hc HW.out
 obtain ⟨m,hm,hml,hac⟩:=sound_main hc
 have HM:Hid (fnum t.funcs mainS=some m):=hm
 have HDG:Hid (∀W,Below w.heap.size w W->Calls Tryz.prog 50 #[.agg #[.slice ag t.globals.length cg,.slice af t.funcs.length cf],.int .i64 (m:Int)] W fun e w'=>e = .returned (.int .i64 (deepE t m))/\Below W.heap.size W w'):=fun W hW=>deepG_any t _ _ m W HS.out hfl hfo hml hac ⟨_,_,_,rfl⟩ (HF.out.below hW)
 have HMF:Hid (∀W,Below w.heap.size w W->Calls Tryz.prog 26 #[.agg #[.slice ag t.globals.length cg,.slice af t.funcs.length cf],.string ⟨#[109,97,105,110]⟩] W fun e w'=>e = .returned (.int .i64 (m:Int))/\Below W.heap.size W w'):=fun W hW=>by
  have:=l3func_any t.funcs (.slice ag t.globals.length cg) _ mainS W (by omega) (HF.out.below hW)
  rw [fnumI_some HM.out] at this
  exact this
 obtain ⟨x0,x1⟩:=box2 hb1
 have hlw:w.heap.size<w1.heap.size:=World.block_lt_of_cell? _ _ x0
 clear h0 hc hfo hac hm
 generalize hFL:framesL t=l at HI hpos hlen ⊢
 have HFL:Hid (framesL t=l):=hFL
 clear hFL
 go_wp2_with fail
 go_loopw [4] (fun i wr=>∃k:Nat,k<=l.length/\i = .int .i64 k/\(∀j (h:j<l.length),j<k->l[j]<=2032)/\wr=w1) (fun i _=>l.length-(RowKit.intOf i).toNat)
 case atStart=>exact ⟨0,Nat.zero_le _,rfl,fun j _ h=>absurd h (Nat.not_lt_zero _),rfl⟩
 case round=>
  obtain ⟨k,hk,rfl,hall,rfl⟩:=hrel
  have HAll:Hid (∀j (h:j<l.length),j<k->l[j]<=2032):=hall
  clear hall
  by_cases hlt:k<l.length
  ·obtain ⟨a',c',heq,hcc⟩:=HI.out
   simp only [Value.slice.injEq,true_and] at heq
   obtain ⟨rfl,rfl⟩:=heq
   obtain ⟨b,rfl,hcell⟩:=hcc (by omega)
   have d0:=hcell k hlt
   have HMm:Hid (l[k]∈l):=List.getElem_mem hlt
   have HK:Hid (l[k]<=2032->∀j (h:j<l.length),j<k+1->l[j]<=2032):=fun h j hj hjk=>by
    by_cases e:j=k
    ·subst e;exact h
    ·exact HAll.out j hj (by omega)
   clear hcell hcc
   generalize l[k]=z at d0 HMm HK
   by_cases hz:2032<z
   ·have HB:Hid (RES = -1):=by
     show _=_
     rw [HRES.out]
     exact boundE_big ⟨z,by rw [HFL.out];exact HMm.out,hz⟩
    go_wp2_with fail
    go_ret
    exact ⟨ret_val (by rw [HB.out];rfl),hB1⟩
   ·go_wp2_with fail
    go_roundw
    case rel=>exact ⟨k+1,by omega,by go_num,HK.out (by omega),trivial⟩
    case measure=>simp [RowKit.intOf];omega
  ·have HB:Hid (RES=deepE t m):=by
    show _=_
    rw [HRES.out]
    refine boundE_yes HC.out (fun x hx => ?_) HM.out
    rw [HFL.out] at hx
    obtain ⟨j,hj,rfl⟩:=List.getElem_of_mem hx
    exact HAll.out j hj (by omega)
   have hdr:Below w.heap.size w wr.drew:=hB1.drew
   have y0:wr.drew.cell? ⟨w.heap.size,0,none⟩=some (.slice ag t.globals.length cg):=x0
   have y1:wr.drew.cell? ⟨w.heap.size,1,none⟩=some (.slice af t.funcs.length cf):=x1
   have hlwd:w.heap.size<wr.drew.heap.size:=hlw
   generalize deepE t m=z at HB HDG
   go_wp2_with fail
   go_region_held3 (fun W=>W.cell? ⟨w.heap.size,0,none⟩=some (.slice ag t.globals.length cg)/\W.cell? ⟨w.heap.size,1,none⟩=some (.slice af t.funcs.length cf)) (go_simp)
    (first
    | (go_at_call 26;refine (HMF.out _ hdr).mono ?_;rintro e w3 ⟨rfl,hb3⟩;have hB3:Below w.heap.size w w3:=hdr.trans (hb3.mono hdr.size);have q0:w3.cell? ⟨w.heap.size,0,none⟩=some (.slice ag t.globals.length cg):=(hb3.cell (p:=⟨w.heap.size,0,none⟩) hlwd).trans y0;have q1:w3.cell? ⟨w.heap.size,1,none⟩=some (.slice af t.funcs.length cf):=(hb3.cell (p:=⟨w.heap.size,1,none⟩) hlwd).trans y1;have hl3:w.heap.size<w3.heap.size:=World.block_lt_of_cell? _ _ q0)
    | (go_at_call 50;refine (HDG.out _ hB3).mono ?_;rintro e w4 ⟨rfl,hb4⟩;have hB4:Below w.heap.size w w4:=hB3.trans (hb4.mono hB3.size);have s0:w4.cell? ⟨w.heap.size,0,none⟩=some (.slice ag t.globals.length cg):=(hb4.cell (p:=⟨w.heap.size,0,none⟩) hl3).trans q0;have s1:w4.cell? ⟨w.heap.size,1,none⟩=some (.slice af t.funcs.length cf):=(hb4.cell (p:=⟨w.heap.size,1,none⟩) hl3).trans q1))
   go_wp2_with fail
   go_ret
   exact ⟨ret_val (by rw [HB.out];rfl),hB4⟩
end
section
open Go.RowKit
theorem genG_any (t:Tr) (vg vf:Value) (w:World) (hs:smallT t) (hw:wfT t) (hg:Globs w vg t.globals) (hf:Funcs w vf t.funcs) :
  Calls Tryz.prog 10 #[.agg #[vg,vf]] w fun e w'=>∃v,e = .returned v/\GRow w.heap.size w' v (genE t)/\Below w.heap.size w w':=by
 have HGb:Hid (Globs w vg t.globals):=hg
 have HFu:Hid (Funcs w vf t.funcs):=hf
 obtain ⟨ag,cg,rfl,-⟩:=hg
 obtain ⟨af,cf,rfl,hf1,hf2,-⟩:=hf
 obtain ⟨W2,hW2⟩ : ∃W2,W2=w.alloc (.cells #[.slice ag t.globals.length cg,.slice af t.funcs.length cf] 44):=⟨_,rfl⟩
 have hb2:Bl w W2:=by rw [hW2];exact (Below.refl _ _).alloc (Nat.le_refl _) _
 have hs2:W2.heap.size=w.heap.size+1:=by rw [hW2];simp
 have e0:W2.cell? ⟨w.heap.size,0,none⟩=some (.slice ag t.globals.length cg):=by rw [hW2];simp
 have e1:W2.cell? ⟨w.heap.size,1,none⟩=some (.slice af t.funcs.length cf):=by rw [hW2];simp
 have HBd:Hid (Calls Tryz.prog 24 #[.agg #[.slice ag t.globals.length cg,.slice af t.funcs.length cf]] W2 fun e w'=>e = .returned (.int .i64 (boundE t))/\Bl W2 w'):=boundG_any t _ _ W2 hs hw (HGb.out.below hb2) (HFu.out.below hb2)
 have HW2:Hid (W2=_):=hW2
 have HWf:Hid (wfT t):=hw
 clear hW2 hs hw
 go_enter Tryz.func10,Tryz.ntmps10
 go_wp2_with fail
 rw [<-HW2.out]
 refine HBd.out.mono ?_
 rintro x w3 ⟨rfl,hb3⟩
 have hb3w:Bl w w3:=hb2.trans (hb3.mono (by omega))
 clear HBd
 by_cases hbd:boundE t<0
 ·have HE:Hid (genE t = []):=by show _=_;unfold genE;rw [if_pos hbd]
  generalize boundE t=bz at hbd ⊢
  go_wp2_with fail
  refine bodyPost_ret (v:=.slice (some ⟨w3.heap.size,0,none⟩) 0 0) (by simp [results,Tryz.results10,go_sem]) rfl ⟨_,rfl,?_,hb3w.alloc hb3w.size _⟩
  rw [HE.out]
  exact World.ownsRow_lit w3 #[] 0 hb3w.size (by decide) rfl
 ·obtain ⟨hck,hfz⟩:=bound_ok hbd
  obtain ⟨hfl,hfo⟩:=frOk hck HWf.out
  obtain ⟨hgl,-,hgz,hfn⟩:=fnOkG (sound_nodup hck).1
  obtain ⟨m,hm,hmlt,-⟩:=sound_main hck
  have HE:Hid (genE t=(codeT t t.funcs.length t.funcs.length).1):=by show _=_;unfold genE;rw [if_neg hbd]
  have HFz:Hid (∀f∈t.funcs,frameSz f<=2032):=hfz
  have HFo:Hid (∀f∈t.funcs,FrOk f):=hfo
  have HGz:Hid (∀g∈t.globals,0<=g.size/\g.size<=4000):=hgz
  have HFn:Hid (∀f∈t.funcs,FnOkG f):=hfn
  have HCT:Hid (∀k,codeT t (k+1) t.funcs.length=((codeT t k t.funcs.length).1++(codeF t k (t.funcs.getD k ⟨⟨#[]⟩,[],[]⟩) (codeT t k t.funcs.length).2).1,(codeF t k (t.funcs.getD k ⟨⟨#[]⟩,[],[]⟩) (codeT t k t.funcs.length).2).2)):=fun k=>rfl
  have HBdT:Hid (∀k,k<=t.funcs.length->(codeT t k t.funcs.length).1.length<=3+60100*k/\(t.funcs.length:Int)<=(codeT t k t.funcs.length).2/\(codeT t k t.funcs.length).2<=t.funcs.length+5100*k):=fun k hk=>codeT_bd hfn k _ hk
  have HC0:Hid (codeT t 0 t.funcs.length=([markI 5 (fnumG t.funcs mainS),insI 12 17 0 0 10,insI 34 0 0 0 0],(t.funcs.length:Int))):=rfl
  have x0:=(hb3.cell (p:=⟨w.heap.size,0,none⟩) (by simp;omega)).trans e0
  have x1:=(hb3.cell (p:=⟨w.heap.size,1,none⟩) (by simp;omega)).trans e1
  obtain ⟨P,hP⟩ : ∃P,P=w3.heap.size:=⟨_,rfl⟩
  obtain ⟨W4,hW4⟩ : ∃W4,W4=w3.alloc (.cells #[.slice ag t.globals.length cg,.slice af t.funcs.length cf,.slice none 0 0,.int .i64 0,.int .i64 0,.int .i64 (t.funcs.length:Int),.slice none 0 0] 75):=⟨_,rfl⟩
  have hb4:Bl w3 W4:=by rw [hW4];exact (Below.refl _ _).alloc (Nat.le_refl _) _
  have hb4w:Bl w W4:=hb3w.trans (hb4.mono hb3w.size)
  have hs3:w.heap.size+1<=w3.heap.size:=by have:=hb3.size;omega
  have HES4:Hid (Es P W4 [] (.slice ag t.globals.length cg) (.slice af t.funcs.length cf) (.slice none 0 0) 0 0 (t.funcs.length:Int)):=by
   show Em _ _ _ _ _ _ _
   rw [hP]
   refine ⟨by rw [hW4];simp,fun o => ?_,⟨.slice none 0 0,?_,World.ownsRow_nil _ _ _ _⟩,fun o ho hq => ?_⟩
   ·rw [hW4,World.frozen?_alloc_at _ _ _ _ rfl]
   ·rw [hW4];simp
   ·have:o=0∨o=1∨o=2∨o=3∨o=4∨o=5:=by omega
    rcases this with rfl | rfl | rfl | rfl | rfl | rfl <;> (rw [hW4];simp [cS])
  have HF3:Hid (Calls Tryz.prog 26 #[.agg #[.slice ag t.globals.length cg,.slice af t.funcs.length cf],.string ⟨#[109,97,105,110]⟩] W4 fun e w'=>e = .returned (.int .i64 (fnumG t.funcs mainS))/\Bl W4 w'):=l3func_any t.funcs _ _ mainS W4 (by omega) (HFu.out.below hb4w)
  have y0:W4.cell? ⟨w.heap.size,0,none⟩=some (.slice ag t.globals.length cg):=(hb4.cell (p:=⟨w.heap.size,0,none⟩) (by simp;omega)).trans x0
  have y1:W4.cell? ⟨w.heap.size,1,none⟩=some (.slice af t.funcs.length cf):=(hb4.cell (p:=⟨w.heap.size,1,none⟩) (by simp;omega)).trans x1
  have HCl:Hid (∀w',Wq 6 P W4 w'->w'.cell? ⟨w.heap.size,0,none⟩=some (.slice ag t.globals.length cg)/\w'.cell? ⟨w.heap.size,1,none⟩=some (.slice af t.funcs.length cf)):=fun w' h=>by
   have a1:w.heap.size≠P:=by omega
   have a2:some w.heap.size≠rbq 6 W4 P:=fun h=>by
    have:=HES4.out.rlt h.symm
    omega
   exact ⟨h.cell a1 a2 y0,h.cell a1 a2 y1⟩
  have HW4:Hid (W4=_):=hW4
  rw [hW4] at y0 y1
  have HPe:Hid (P=w3.heap.size):=hP
  have hPle:w3.heap.size<=P/\P<=w3.heap.size:=by omega
  clear hW4 hck hfz hfo hgz hfn e0 e1 hP
  generalize boundE t=bz at hbd ⊢
  go_wp2_with fail
  rw [<-HW4.out,<-HPe.out]
  have HX1:Hid (w3.cell? ⟨w.heap.size,1,none⟩=some (.slice af t.funcs.length cf)):=x1
  clear x0 x1 y0 y1
  refine HF3.out.mono ?_
  rintro x w5 ⟨rfl,hb5⟩
  have HES5:Hid (Es P w5 [] (.slice ag t.globals.length cg) (.slice af t.funcs.length cf) (.slice none 0 0) 0 0 (t.funcs.length:Int)):=HES4.out.below hb5
  have HWq5:Hid (Wq 6 P W4 w5):=Wq.below HES4.out.lt hb5
  generalize hmz:fnumG t.funcs mainS=mz at HF3 HC0 ⊢
  clear hb5 HF3
  go_wp2_with fail
  refine (markG_any P [] _ 5 mz w5 HES5.out (by simp)).mono ?_
  rintro x w6 ⟨⟨u6,rfl⟩,he6,hq6⟩
  have HWr6:Hid (Wrote P W4 [] ([markI 5 mz]) (.slice ag t.globals.length cg) (.slice af t.funcs.length cf) (.slice none 0 0) 0 0 (t.funcs.length:Int) w6):=⟨he6,HWq5.out.trans hq6⟩
  clear he6 hq6
  go_wp2_with fail
  refine (putS P _ _ _ _ _ _ _ 12 17 0 0 10 w6 HWr6.out.1 (by simp)).mono ?_
  rintro x w7 ⟨⟨u7,rfl⟩,hw7⟩
  have HWr7:Hid (Wrote P W4 [] ([markI 5 mz]++[insI 12 17 0 0 10]) (.slice ag t.globals.length cg) (.slice af t.funcs.length cf) (.slice none 0 0) 0 0 (t.funcs.length:Int) w7):=HWr6.out.trans hw7
  clear hw7
  go_wp2_with fail
  refine (putS P _ _ _ _ _ _ _ 34 0 0 0 0 w7 HWr7.out.1 (by simp)).mono ?_
  rintro x w8 ⟨⟨u8,rfl⟩,hw8⟩
  have HWr8:Hid (Wrote P W4 [] ([markI 5 mz]++[insI 12 17 0 0 10]++[insI 34 0 0 0 0]) (.slice ag t.globals.length cg) (.slice af t.funcs.length cf) (.slice none 0 0) 0 0 (t.funcs.length:Int) w8):=HWr7.out.trans hw8
  clear hw8
  have HB8:Hid (Bl w3 w8):=by
   refine hb4.trans ⟨HWr8.out.2.still.1,HWr8.out.2.still.2.1,HWr8.out.2.still.2.2,HWr8.out.2.size,fun k hk => ?_⟩
   refine HWr8.out.2.block k (by have:=hb4.size;omega) (by omega) (fun e => ?_)
   have:=HES4.out.rlt e.symm
   omega
  have HE8:Hid (Es P w8 (codeT t 0 t.funcs.length).1 (.slice ag t.globals.length cg) (.slice af t.funcs.length cf) (.slice none 0 0) 0 0 (codeT t 0 t.funcs.length).2):=by
   show Es _ _ _ _ _ _ _ _ _
   rw [HC0.out]
   exact HWr8.out.1
  have HX:Hid (∀W,Bl w3 W->W.cell? ⟨w.heap.size,1,none⟩=some (.slice af t.funcs.length cf)):=fun W hW=>(hW.cell (p:=⟨w.heap.size,1,none⟩) (by simp;omega)).trans HX1.out
  have q1:=HX.out w8 HB8.out
  clear HWr8 HWr7 HWr6 hmz
  go_wp2_with fail
  clear q1
  go_loopw [4] (fun i wr=>∃(k:Nat) (vn:Value) (fr en:Int),k<=t.funcs.length/\i = .int .i64 k/\Es P wr (codeT t k t.funcs.length).1 (.slice ag t.globals.length cg) (.slice af t.funcs.length cf) vn fr en (codeT t k t.funcs.length).2/\Bl w3 wr) (fun i _=>t.funcs.length-(RowKit.intOf i).toNat)
  case atStart=>exact ⟨0,_,_,_,Nat.zero_le _,rfl,HE8.out,HB8.out⟩
  case round=>
   clear HE8 HB8
   obtain ⟨k,vn,fr,en,hk,rfl,hes,hbk⟩:=hrel
   have HEs:Hid (Es P wr (codeT t k t.funcs.length).1 (.slice ag t.globals.length cg) (.slice af t.funcs.length cf) vn fr en (codeT t k t.funcs.length).2):=hes
   have q1:=HX.out wr hbk
   clear hes
   by_cases hlt:k<t.funcs.length
   ·have hmem:t.funcs[k]∈t.funcs:=List.getElem_mem hlt
    have hfk:=HFn.out _ hmem
    obtain ⟨b1,b2,b3⟩:=HBdT.out k hk
    have hszk:=hfk.sz
    have HFun:Hid (Calls Tryz.prog 28 #[.pointer (some ⟨P,0,none⟩),.int .i64 (k:Int)] wr fun x w'=>(∃u,x = .returned u)/\(∃vn' fr' en',Es P w' (codeT t (k+1) t.funcs.length).1 (.slice ag t.globals.length cg) (.slice af t.funcs.length cf) vn' fr' en' (codeT t (k+1) t.funcs.length).2)/\Bl w3 w'):=by
     have h:=funS_any t w3 P _ _ vn fr en (by omega) (HGb.out.below hb3w) (HFu.out.below hb3w) hgl HGz.out (by omega) k hlt (HFo.out _ hmem) hfk.st hfk.fit ⟨by have:=frameSz_nonneg (HFo.out _ hmem).st;omega,by have:=HFz.out _ hmem;omega⟩ hfk.pl hfk.bl wr _ _ HEs.out hbk (by omega) (by omega) (by omega)
     rw [HCT.out k]
     have eg:t.funcs.getD k ⟨⟨#[]⟩,[],[]⟩=t.funcs[k]:=by
      rw [List.getD_eq_getElem?_getD,List.getElem?_eq_getElem hlt]
      rfl
     rw [eg]
     exact h
    clear b1 b2 b3 hfk HEs hmem
    go_wp2_with fail
    refine HFun.out.mono ?_
    rintro x w9 ⟨⟨u9,rfl⟩,⟨vn',fr',en',he9⟩,hb9⟩
    have HE9:Hid (Es P w9 (codeT t (k+1) t.funcs.length).1 (.slice ag t.globals.length cg) (.slice af t.funcs.length cf) vn' fr' en' (codeT t (k+1) t.funcs.length).2):=he9
    clear he9 HFun q1
    go_wp2_with fail
    go_roundw
    case rel=>exact ⟨k+1,vn',fr',en',by omega,by go_num,HE9.out,hb9⟩
    case measure=>simp [RowKit.intOf];omega
   ·obtain rfl:k=t.funcs.length:=by omega
    obtain ⟨vr,hvr,hrow⟩:=HEs.out.row
    obtain ⟨va,vnn,vc,rfl⟩ : ∃va vn vc,vr = .slice va vn vc:=by
     rcases hrow.2 with ⟨rfl,_⟩ | ⟨g,cap,cur,rfl,_⟩
     ·exact ⟨_,_,_,rfl⟩
     ·exact ⟨_,_,_,rfl⟩
    have HRow:Hid (GRow (P+1) wr (.slice va vnn vc) (codeT t t.funcs.length t.funcs.length).1):=hrow
    clear hrow HEs
    go_wp2_with fail
    refine bodyPost_ret (v:=.slice va vnn vc) (by simp [results,Tryz.results10,go_sem]) rfl ⟨_,rfl,?_,hb3w.trans (hbk.mono hb3w.size)⟩
    rw [HE.out]
    exact HRow.out.base (by omega)
end
end Go.Proofs.YtpdndlghjldhjaaGreat
