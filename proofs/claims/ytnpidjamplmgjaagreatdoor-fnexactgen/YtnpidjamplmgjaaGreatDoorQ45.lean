import Derived.Test.YtnpidjamplmgjaaGreatDoorQ44
import Derived.Test.YtnpidjamplmgjaaGreatDoorQ42
import Derived.Deep.RegionHeld3
set_option linter.unusedSectionVars false
variable [Inhabited Go.Proofs.YtnpidjamplmgjaaGreatDoor.Pick]
namespace Go.Proofs.YtnpidjamplmgjaaGreatDoor
open Go.RowKit
set_option linter.unusedVariables false
set_option linter.unusedSimpArgs false
set_option maxRecDepth 100000
set_option maxHeartbeats 16000000
theorem fld_err (x y z:Int) (W:World):(Instr.field 116 (.agg #[.int .i64 x,.int .i64 y,.int .i64 z]) 0).run Tryz.prog W = .ok (.int .i64 x) W:=by kernel_rfl
theorem framesG_any (t:Tr) (vg vf:Value) (w:World) (hs:smallT t) (hw:wfT t) (hg:Globs w vg t.globals) (hf:Funcs w vf t.funcs) :
  Calls Tryz.prog 35 #[.agg #[vg,vf]] w fun e w'=>∃v,e = .returned v/\FRow w.heap.size w' v (framesL t)/\Below w.heap.size w w':=by
 obtain ⟨x,y,z,hX⟩ : ∃x y z,checkE t=(x,y,z):=⟨_,_,_,rfl⟩
 have HSo:Hid (∀W,Bl w W->Calls Tryz.prog 65 #[.agg #[vg,vf]] W fun e w'=>e = .returned (.agg #[.int .i64 x,.int .i64 y,.int .i64 z])/\Bl W w'):=fun W hW=>by
  have:=checkCG_any l3block t vg vf W hs hw (hg.below hW) (hf.below hW)
  rw [hX] at this
  exact this
 have HOk:Hid (x=0->framesL t=t.funcs.map frameSz/\t.funcs.length<=50/\∀f∈t.funcs,FrOk f):=fun h=>by
  have h0:(checkE t).1=0:=by rw [hX];exact h
  exact ⟨framesL_yes h0,frOk h0 hw⟩
 have HNo:Hid (x≠0->framesL t = []):=fun h=>framesL_no (by rw [hX];exact h)
 obtain ⟨ag,cg,rfl,-⟩:=hg
 obtain ⟨af,cf,rfl,-,-,hfc⟩:=hf
 have HFC:=hide hfc
 clear hs hw hfc hX
 obtain ⟨W0,hW0⟩ : ∃W0,W0=w.alloc (.cells #[.slice ag t.globals.length cg,.slice af t.funcs.length cf] 32):=⟨_,rfl⟩
 have hA0:Bl w W0:=by rw [hW0];exact (Below.refl _ _).alloc (Nat.le_refl _) _
 have hs0:W0.heap.size=w.heap.size+1:=by rw [hW0];simp
 have hA1:Bl w (W0.alloc (.cells #[] 2)):=hA0.alloc hA0.size _
 have HR0:Hid (FRow (w.heap.size+1) (W0.alloc (.cells #[] 2)) (.slice (some ⟨w.heap.size+1,0,none⟩) 0 0) []):=by
  have:=frow_lit W0 (w.heap.size+1) o_
  rw [hs0] at this
  exact this
 have HBx:Hid (∀W,Below (w.heap.size+1) W0 W->(W.cell? ⟨w.heap.size,0,none⟩=some (.slice ag t.globals.length cg)/\W.cell? ⟨w.heap.size,1,none⟩=some (.slice af t.funcs.length cf))/\Bl w W/\w.heap.size+1<=W.heap.size):=fun W hW=>by
  have h2:=hW.size
  rw [hs0] at h2
  exact ⟨by rw [hW0] at hW;exact box2 hW,hA0.trans (hW.mono o_),h2⟩
 have hA2:Below (w.heap.size+1) W0 (W0.alloc (.cells #[] 2)):=(Below.refl _ _).alloc o_ _
 have HW0:=hide hW0
 clear hW0 hA0
 go_enter Tryz.func35,Tryz.ntmps35
 go_wp2_with fail
 rw [<-HW0.out]
 refine (HSo.out _ hA1).mono ?_
 rintro e w1 ⟨rfl,hb1⟩
 have HR1:=hide (HR0.out.below hb1)
 have hB1:Below (w.heap.size+1) W0 w1:=hA2.trans (hb1.mono (by have:=hA2.size;omega))
 have hfd:=fld_err x y z
 clear hA1 hA2 hb1 HR0 HSo HW0
 by_cases hz:x=0
 ·obtain ⟨hres,hfl,hfo⟩:=HOk.out hz
  have HFo:=hide hfo
  have HRes:=hide hres
  clear hres hfo HOk HNo
  subst hz
  go_wp2_with fail
  clear hfd
  go_loopw [3,4] (fun v i wr=>∃k:Nat,k<=t.funcs.length/\i = .int .i64 k/\FRow (w.heap.size+1) wr v ((t.funcs.take k).map frameSz)/\Below (w.heap.size+1) W0 wr) (fun _ i _=>t.funcs.length-(RowKit.intOf i).toNat)
  case atStart=>exact ⟨0,Nat.zero_le _,rfl,HR1.out,hB1⟩
  case round=>
   clear HR1 hB1
   obtain ⟨k,hk,rfl,hR,hB⟩:=hrel
   obtain ⟨⟨x0,x1⟩,hBw,hsw⟩:=HBx.out wr hB
   by_cases hlt:k<t.funcs.length
   ·obtain ⟨b,off,rfl,hc⟩:=HFC.out o_
    obtain ⟨vp,vb,⟨d0,d1,d2⟩,hp,hb⟩:=(hc.below hBw) k hlt
    have hok:=HFo.out _ (List.getElem_mem hlt)
    have HF:=hide (frameG_any t.funcs[k] vp vb wr hok hp hb)
    have HN:Hid ((t.funcs.take (k+1)).map frameSz=(t.funcs.take k).map frameSz++[frameSz t.funcs[k]]):=by show _=_;rw [List.take_succ_eq_append_getElem hlt,List.map_append];rfl
    obtain ⟨ap,cp,rfl,-⟩:=hp
    obtain ⟨ab,cb,rfl,-⟩:=hb
    clear hc hok
    generalize frameSz t.funcs[k]=F at HF HN
    generalize t.funcs[k].params.length=lp at d1 HF
    generalize t.funcs[k].body.length=lb at d2 HF
    generalize t.funcs[k].name=nm at d0 HF
    have hll:((t.funcs.take k).map frameSz).length<=1000:=by simp;omega
    generalize (t.funcs.take k).map frameSz=l at hR HN hll
    obtain ⟨av,cv,rfl⟩:=hR.shape
    have HR:Hid (FRow (w.heap.size+1) wr (.slice av l.length cv) l):=hR
    clear hR
    go_wp2_with fail
    refine HF.out.mono ?_
    rintro e w2 ⟨rfl,hb2⟩
    have hB2:Below (w.heap.size+1) W0 w2:=hB.trans (hb2.mono hsw)
    have HR2:Hid (FRow (w.heap.size+1) (w2.alloc (.cells #[.int .i64 F] 2)) (.slice av l.length cv) l):=(HR.out.below hb2).below (bel_a _ _)
    have hz:(w2.alloc (.cells #[.int .i64 F] 2)).cell? ⟨w2.heap.size,0,none⟩=some (.int .i64 F):=by simp
    have hsz2:w.heap.size+1<=w2.heap.size:=Nat.le_trans hsw hb2.size
    clear hb2 HF d0 d1 d2 HR hB x0 x1 hBw hsw
    go_wp2_with (at_builtin;refine wpList_appI rfl _ _ rfl (w.heap.size+1) _ l F rfl HR2.out w2.heap.size 1 rfl hz o_ (by simp;omega) ?_)
    intro v3 w3 hr3 hg3
    have hB3:Below (w.heap.size+1) W0 w3:=(hB2.alloc hsz2 _).grown hg3 (by simp;omega) (fun g hg=>(World.ownsRow.lt HR2.out g hg).1)
    rw [<-HN.out] at hr3
    have HR3:=hide hr3
    clear hr3 hg3 hz HR2 HN hB2
    go_wp2_with fail
    go_roundw
    case rel=>exact ⟨k+1,by omega,by go_num,HR3.out,hB3⟩
    case measure=>simp [RowKit.intOf];omega
   ·obtain rfl:k=t.funcs.length:=by omega
    rw [List.take_length,<-HRes.out] at hR
    obtain ⟨av,cv,rfl⟩:=hR.shape
    have HR:Hid (FRow (w.heap.size+1) wr (.slice av (framesL t).length cv) (framesL t)):=hR
    clear hR
    go_wp2_with fail
    go_ret
    exact ⟨_,rfl,ownsRow_base_a HR.out o_,hBw⟩
 ·have HRes:Hid (framesL t = []):=HNo.out hz
  have hx0:(x == 0)=false:=by simp [hz]
  clear HOk HNo
  go_wp2_with fail
  go_ret
  exact ⟨_,rfl,by rw [HRes.out];exact ownsRow_base_a HR1.out o_,(HBx.out w1 hB1).2.1⟩
theorem FRow.form {B:Nat} {w:World} {v:Value} {l:List Int} (h:FRow B w v l) (hn:0<l.length) : ∃g c,v = .slice (some ⟨g,0,none⟩) l.length c/\B<=g/\g<w.heap.size:=by
 have h0:=h
 rcases h.2 with ⟨_,hz⟩ | ⟨g,cap,cur,rfl,hbg,_⟩
 ·omega
 ·exact ⟨g,cap,rfl,hbg,(World.ownsRow.lt h0 g rfl).2⟩
theorem FRow.cell {B g c n:Nat} {w:World} {l:List Int} (h:FRow B w (.slice (some ⟨g,0,none⟩) n c) l) (hn:n=l.length) (j:Nat) (hj:j<l.length):w.cell? ⟨g,j,none⟩=some (.int .i64 l[j])/\w.frozen? ⟨g,j,none⟩=false:=by
 subst hn
 refine ⟨?_,World.ownsRow.frozenAt h j⟩
 have:=World.ownsRow.cells h (g:=g) rfl j (.int .i64 l[j]) (by simp [hj])
 rw [addrO] at this
 simpa using this
theorem FRow.put {B g c n:Nat} {w:World} {l:List Int} (h:FRow B w (.slice (some ⟨g,0,none⟩) n c) l) (hn:n=l.length) (j:Nat) (z:Int):FRow B (w.setCell ⟨g,j,none⟩ (.int .i64 z)) (.slice (some ⟨g,0,none⟩) n c) (l.set j z):=by
 subst hn
 have:=(World.ownsRow.stored h j (.int .i64 z)).1
 unfold FRow
 rw [List.length_set,List.map_set]
 exact this
theorem irow_frow {B:Nat} {w:World} {v:Value} {l:List Nat} (h:IRow B w v l):FRow B w v (l.map (fun g:Nat=>(g:Int))):=by
 unfold FRow
 rw [List.length_map,List.map_map]
 exact h
def sL (n:Nat) (S:Nat->Int):List Int:=(List.range n).map S
theorem sL_len (n:Nat) (S:Nat->Int):(sL n S).length=n:=by simp [sL]
theorem sL_get {n:Nat} {S:Nat->Int} {j:Nat} (h:j<(sL n S).length):(sL n S)[j]=S j:=by simp [sL]
theorem sL_set (n:Nat) (S:Nat->Int) (j:Nat) (z:Int):(sL n S).set j z=sL n (updS S j z):=by
 apply List.ext_getElem
 ·simp [sL]
 ·intro i h1 h2
  rw [List.getElem_set]
  simp only [sL,List.getElem_map,List.getElem_range,updS]
  by_cases e:j=i
  ·subst e;simp
  ·rw [if_neg e,if_neg (Ne.symm e)]
theorem sL_snoc (n:Nat):sL n (fun _=>0)++[0]=sL (n+1) (fun _=>0):=by simp [sL,List.range_succ]
theorem deepG_any (t:Tr) (vg vf:Value) (m:Nat) (w:World) (hs:smallT t) (hfl:t.funcs.length<=50) (hfo : ∀f∈t.funcs,FrOk f) (hm:m<t.funcs.length) (ha:Acyc t m) (hg : ∃a n c,vg = .slice a n c) (hf:Funcs w vf t.funcs) :
  Calls Tryz.prog 36 #[.agg #[vg,vf],.int .i64 (m:Int)] w fun e w'=>e = .returned (.int .i64 (deepE t m))/\Below w.heap.size w w':=by
 have hz : ∀f,f<t.funcs.length->0<=fszF t f/\fszF t f<=1000000:=fun f hf=>by
  unfold fszF
  have e:t.funcs.getD f ⟨⟨#[]⟩,[],[]⟩=t.funcs[f]:=by simp [List.getD,hf]
  rw [e]
  exact frameSz_bd (hfo _ (List.getElem_mem hf))
 have hD : ∀f,LiveS t m f->∃n s,Dp t n f s:=fun f hf=>by
  obtain ⟨s,h,-⟩:=deep_bd hz hm ha hf
  exact ⟨_,s,h⟩
 have HZ:=hide hz
 have HD:=hide hD
 have HDb:Hid (∀f,LiveS t m f->0<=deepE t f/\deepE t f<=50000000):=fun f hf=>by
  obtain ⟨s,h1,h2,h3,h4⟩:=deep_bd hz hm ha hf
  rw [h2]
  omega
 have HAc:=hide ha
 obtain ⟨ag,ng,cg,rfl⟩:=hg
 have HF:Hid (Funcs w vf t.funcs):=hf
 have HFo:=hide hfo
 have HSm:Hid (∀g∈t.funcs,smallF g):=hs.2.2
 obtain ⟨af,cf,rfl,-⟩:=hf
 obtain ⟨W1,hW1⟩ : ∃W1,W1=(w.alloc (.cells #[.slice ag ng cg,.slice af t.funcs.length cf] 32)).alloc (.cells #[.int .i64 (m:Int)] 2):=⟨_,rfl⟩
 have hB1:Bl w W1:=by rw [hW1];exact (bel_a _ _).alloc (by simp) _
 have hs1:W1.heap.size=w.heap.size+2:=by rw [hW1];simp
 have HBx:Hid (∀W,Below (w.heap.size+1) W1 W->(W.cell? ⟨w.heap.size,0,none⟩=some (.slice ag ng cg)/\W.cell? ⟨w.heap.size,1,none⟩=some (.slice af t.funcs.length cf))/\Bl w W):=fun W hW=>by
  have hx:Below (w.heap.size+1) (w.alloc (.cells #[.slice ag ng cg,.slice af t.funcs.length cf] 32)) W:=by
   rw [hW1] at hW
   exact ((Below.refl _ _).alloc (by simp) _).trans hW
  exact ⟨box2 hx,one_below hx⟩
 have hIm:Ints W1 (.slice (some ⟨w.heap.size+1,0,none⟩) 1 1) [(m:Int)]:=by
  refine ⟨_,1,rfl,fun _=>⟨w.heap.size+1,rfl,fun j hj => ?_⟩⟩
  have:j=0:=by simp at hj;omega
  subst this
  rw [hW1]
  simp
 have HRe:Hid (Calls Tryz.prog 66 #[.agg #[.slice ag ng cg,.slice af t.funcs.length cf],.slice (some ⟨w.heap.size+1,0,none⟩) 1 1] W1 fun e w'=>∃v out,e = .returned v/\IRow W1.heap.size w' v out/\(∀g,g∈out↔Rch t m g)/\out.length<=1000/\Bl W1 w'):=l3reach_any t _ _ _ m W1 hm o_ hs.2.2 ⟨_,_,_,rfl⟩ (HF.out.below hB1) hIm (fun a n c h=>by simp only [Value.slice.injEq] at h;omega)
 have HW1:=hide hW1
 clear hW1 hIm hs hfo hz hD ha
 go_enter Tryz.func36,Tryz.ntmps36
 go_wp2_with fail
 rw [<-HW1.out]
 refine HRe.out.mono ?_
 rintro e w2 ⟨v2,out,rfl,hr2,hout,hol,hb2⟩
 have HR2:Hid (FRow W1.heap.size (w2.alloc (.cells #[.int .i64 (m:Int)] 2)) v2 (out.map (fun g:Nat=>(g:Int)))):=(irow_frow hr2).below (bel_a _ _)
 have hz2:(w2.alloc (.cells #[.int .i64 (m:Int)] 2)).cell? ⟨w2.heap.size,0,none⟩=some (.int .i64 (m:Int)):=by simp
 have hsz2:=hb2.size
 have HOut:=hide hout
 have hll:(out.map (fun g:Nat=>(g:Int))).length<=1000000:=by simp;omega
 have hshape : ∃a c,v2 = .slice a (out.map (fun g:Nat=>(g:Int))).length c:=HR2.out.shape
 obtain ⟨a2,c2,hv2⟩:=hshape
 rw [List.length_map] at hv2
 subst hv2
 clear hr2 HRe hout HW1
 go_wp2_with (at_builtin;refine wpList_appI rfl _ _ rfl W1.heap.size _ (out.map (fun g:Nat=>(g:Int))) (m:Int) rfl HR2.out w2.heap.size 1 rfl hz2 hll (by simp;omega) ?_)
 intro v3 ws hr3 hg3
 have hBs1:Bl W1 ws:=(hb2.alloc hsz2 _).grown hg3 (by simp;omega) (fun g hg=>(World.ownsRow.lt HR2.out g hg).1)
 obtain ⟨⟨x0,x1⟩,hBs⟩:=HBx.out ws (hBs1.mono o_)
 have hlv:out.map (fun g:Nat=>(g:Int))++[(m:Int)]=(out++[m]).map (fun g:Nat=>(g:Int)):=by simp
 rw [hlv] at hr3
 have HLi:=hide (own_ints hr3)
 have HLm:Hid ((∀x,LiveS t m x->x∈out++[m])/\(∀x∈out++[m],LiveS t m x)/\(out++[m]).length<=1001):=by
  refine ⟨fun x hx => ?_,fun x hx => ?_,by simp;omega⟩
  ·rcases hx with rfl | hx
   ·simp
   ·simp [(HOut.out x).2 hx]
  ·rcases List.mem_append.1 hx with h | h
   ·exact .inr ((HOut.out x).1 h)
   ·exact .inl (by simpa using h)
 obtain ⟨a3,c3,hv3⟩:=hr3.shape
 rw [List.length_map] at hv3
 subst hv3
 have hllen:=HLm.out.2.2
 have HX:Hid (ws.cell? ⟨w.heap.size,0,none⟩=some (.slice ag ng cg)/\ws.cell? ⟨w.heap.size,1,none⟩=some (.slice af t.funcs.length cf)):=⟨x0,x1⟩
 have hlw:w.heap.size<ws.heap.size:=World.block_lt_of_cell? _ _ x0
 have HFs:Hid (Funcs ws (.slice af t.funcs.length cf) t.funcs):=HF.out.below hBs
 have HBs:=hide hBs
 clear hr3 hg3 hBs1 HR2 hz2 hb2 hsz2 hll HBx HOut hlv HF x0 x1 hBs hol hs1 hB1
 generalize out++[m]=live at HLi HLm hllen
 obtain ⟨N,hN⟩ : ∃N,N=t.funcs.length:=⟨_,rfl⟩
 have HS0:=hide (frow_lit ws ws.heap.size (Nat.le_refl _))
 go_wp2_with fail
 go_loopw [6,7] (fun v i wr=>∃k:Nat,k<=t.funcs.length/\i = .int .i64 k/\FRow ws.heap.size wr v (sL k (fun _=>0))/\Bl ws wr) (fun _ i _=>t.funcs.length-(RowKit.intOf i).toNat)
 case atStart=>exact ⟨0,Nat.zero_le _,rfl,HS0.out,(Below.refl _ _).alloc (Nat.le_refl _) _⟩
 case round=>
  clear HS0
  obtain ⟨k,hk,rfl,hR,hB⟩:=hrel
  have x0:=(hB.cell (p:=⟨w.heap.size,0,none⟩) hlw).trans HX.out.1
  have x1:=(hB.cell (p:=⟨w.heap.size,1,none⟩) hlw).trans HX.out.2
  by_cases hlt:k<t.funcs.length
  ·obtain ⟨av,cv,rfl⟩:=hR.shape
   rw [sL_len] at hR ⊢
   have HR2:Hid (FRow ws.heap.size (wr.alloc (.cells #[.int .i64 0] 2)) (.slice av k cv) (sL k (fun _=>0))):=hR.below (bel_a _ _)
   have hz2:(wr.alloc (.cells #[.int .i64 0] 2)).cell? ⟨wr.heap.size,0,none⟩=some (.int .i64 0):=by simp
   have hsz2:=hB.size
   have hll:(sL k (fun _=>0)).length<=1000000:=by rw [sL_len];omega
   clear hR
   go_wp2_with (at_builtin;refine wpList_appI rfl _ _ rfl ws.heap.size _ (sL k (fun _=>0)) 0 rfl HR2.out wr.heap.size 1 rfl hz2 hll (by simp;omega) ?_)
   intro v4 w4 hr4 hg4
   rw [sL_snoc] at hr4
   have hB4:Bl ws w4:=(hB.alloc hsz2 _).grown hg4 (by simp;omega) (fun g hg=>(World.ownsRow.lt HR2.out g hg).1)
   have HR4:=hide hr4
   clear hr4 hg4 hz2 HR2 x0 x1 hB
   go_wp2_with fail
   go_roundw
   case rel=>exact ⟨k+1,by omega,by go_num,HR4.out,hB4⟩
   case measure=>simp [RowKit.intOf];omega
  ·obtain rfl:k=t.funcs.length:=by omega
   obtain ⟨gs,cs,rfl,hgs,hgl⟩:=hR.form (by rw [sL_len];omega)
   rw [sL_len] at hR ⊢
   have HR:=hide hR
   clear hR hk hlt
   have HS0:Hid (SumI t m 0 (fun _=>0)):=SumI.zero HZ.out HD.out
   go_wp2_with fail
   clear x0 x1
   go_loopw [8] (fun i wr=>∃(r:Nat) (S:Nat->Int),r<=live.length/\i = .int .i64 r/\SumI t m r S/\FRow ws.heap.size wr (.slice (some ⟨gs,0,none⟩) t.funcs.length cs) (sL t.funcs.length S)/\Bl ws wr) (fun i _=>live.length-(RowKit.intOf i).toNat)
   case atStart=>exact ⟨0,_,Nat.zero_le _,rfl,HS0.out,HR.out,hB⟩
   case round=>
    clear HS0 HR hB hgl
    obtain ⟨r,S,hr,rfl,hS,hR,hB⟩:=hrel
    have HSr:=hide hS
    have HRr:=hide hR
    clear hS hR
    by_cases hrl:r<live.length
    ·go_wp2_with fail
     go_loopw [9] (fun i wr=>∃(k:Nat) (S:Nat->Int),k<=live.length/\i = .int .i64 k/\SumK t m r (live.take k) S/\FRow ws.heap.size wr (.slice (some ⟨gs,0,none⟩) t.funcs.length cs) (sL t.funcs.length S)/\Bl ws wr) (fun i _=>live.length-(RowKit.intOf i).toNat)
     case atStart=>exact ⟨0,S,Nat.zero_le _,rfl,HSr.out.start,HRr.out,hB⟩
     case round=>
      clear HSr HRr hB
      obtain ⟨k,S,hk,rfl,hS,hR,hB⟩:=hrel
      have HSk:=hide hS
      have HRk:=hide hR
      clear hS hR
      by_cases hlt:k<live.length
      ·have hlf:=HLm.out.2.1 _ (List.getElem_mem hlt)
       have hfN:live[k]<t.funcs.length:=by rcases hlf with h | h;rw [h];exact hm;exact h.lt
       obtain ⟨a',c',heq,hcc⟩:=HLi.out.below hB
       rw [List.length_map] at heq
       simp only [Value.slice.injEq,true_and] at heq
       obtain ⟨rfl,rfl⟩:=heq
       obtain ⟨bl,rfl,hcell⟩:=hcc (by rw [List.length_map];omega)
       have hc:=hcell k (by simpa using hlt)
       rw [List.getElem_map] at hc
       have HTk:Hid (live.take (k+1)=live.take k++[live[k]]):=List.take_succ_eq_append_getElem hlt
       clear hcc hcell
       generalize live[k]=f at hlf hfN hc HTk
       have HLf:=hide hlf
       have x0:=(hB.cell (p:=⟨w.heap.size,0,none⟩) hlw).trans HX.out.1
       have x1:=(hB.cell (p:=⟨w.heap.size,1,none⟩) hlw).trans HX.out.2
       have HCa:Hid (Calls Tryz.prog 67 #[.agg #[.slice ag ng cg,.slice af t.funcs.length cf],.int .i64 (f:Int)] wr fun e w'=>∃v,e = .returned v/\Ints w' v ((clF t f).map (fun g:Nat=>(g:Int)))/\Bl wr w'):=by
        have:=l3calls_any t.funcs (.slice ag ng cg) _ f wr hfN o_ (HSm.out _ (List.getElem_mem hfN)) ⟨_,_,_,rfl⟩ (HFs.out.below hB)
        have e:clF t f=callsL t.funcs t.funcs[f].body:=by unfold clF;simp [List.getD,hfN]
        rw [e]
        exact this
       clear hlf
       go_wp2_with fail
       refine HCa.out.mono ?_
       rintro e w3 ⟨vc,rfl,hIc,hb3⟩
       have HIc:=hide hIc
       obtain ⟨ac,cc,rfl,-⟩:=hIc
       rw [List.length_map]
       have HR3:=hide (HRk.out.below hb3)
       have hB3:Bl ws w3:=hB.trans (hb3.mono hB.size)
       have hcl:(clF t f).length<=50:=by have:=callsL_len t.funcs (t.funcs.getD f ⟨⟨#[]⟩,[],[]⟩).body;unfold clF;omega
       have HMb:Hid (∀j,0<=mxL (((clF t f).take j).map S)/\mxL (((clF t f).take j).map S)<=50000000):=fun j=>mxL_bd _ _ o_ (fun x hx=>by
        obtain ⟨c,hc,rfl⟩:=List.mem_map.1 hx
        have h1:=(HSk.out.bd c (HLf.out.call hfN (List.mem_of_mem_take hc))).2
        have h2:=(HDb.out c (HLf.out.call hfN (List.mem_of_mem_take hc))).2
        omega)
       clear HCa x0 x1 hc hb3 hB HRk
       go_wp2_with fail
       go_loopw [11,13] (fun p i wr=>∃j:Nat,j<=(clF t f).length/\i = .int .i64 j/\p = .int .i64 (mxL (((clF t f).take j).map S))/\Bl w3 wr) (fun _ i _=>(clF t f).length-(RowKit.intOf i).toNat)
       case atStart=>exact ⟨0,Nat.zero_le _,rfl,rfl,Below.refl _ _⟩
       case round=>
        obtain ⟨j,hj,rfl,rfl,hB5⟩:=hrel
        obtain ⟨hm0,hm1⟩:=HMb.out j
        have HR5:=hide (HR3.out.below hB5)
        by_cases hjl:j<(clF t f).length
        ·obtain ⟨a',c',heq,hcc⟩:=HIc.out.below hB5
         rw [List.length_map] at heq
         simp only [Value.slice.injEq,true_and] at heq
         obtain ⟨rfl,rfl⟩:=heq
         obtain ⟨bc,rfl,hcell⟩:=hcc (by rw [List.length_map];omega)
         have hc:=hcell j (by simpa using hjl)
         rw [List.getElem_map] at hc
         have hcN:(clF t f)[j]<t.funcs.length:=(show CallR t f (clF t f)[j] from ⟨hfN,List.getElem_mem hjl⟩).lt
         have hd:=(HR5.out.cell (sL_len _ _).symm (clF t f)[j] (by rw [sL_len];exact hcN)).1
         rw [sL_get] at hd
         have HN:Hid (mxL (((clF t f).take (j+1)).map S)=max (mxL (((clF t f).take j).map S)) (S (clF t f)[j])):=by show _=_;rw [List.take_succ_eq_append_getElem hjl,List.map_append];exact mxL_snoc _ _
         clear hcc hcell
         generalize (clF t f)[j]=c at hc hcN hd HN
         generalize mxL (((clF t f).take j).map S)=p at HN hm0 hm1
         generalize S c=q at hd HN
         go_wp2_with fail
         refine (most_any p q wr).mono ?_
         rintro e w6 ⟨rfl,hb6⟩
         have hB6:=hB5.trans (hb6.mono hB5.size)
         clear hb6 hc hd hB5 HR5
         go_wp2_with fail
         go_roundw
         case rel=>exact ⟨j+1,by omega,by go_num,by rw [HN.out],hB6⟩
         case measure=>simp [RowKit.intOf];omega
        ·obtain rfl:j=(clF t f).length:=by omega
         rw [List.take_length] at hm0 hm1 ⊢
         have hB6:Bl ws wr:=hB3.trans (hB5.mono hB3.size)
         have x0:=(hB6.cell (p:=⟨w.heap.size,0,none⟩) hlw).trans HX.out.1
         have x1:=(hB6.cell (p:=⟨w.heap.size,1,none⟩) hlw).trans HX.out.2
         obtain ⟨af',cf',heq,-,-,hfc⟩:=HFs.out.below hB6
         simp only [Value.slice.injEq,true_and] at heq
         obtain ⟨rfl,rfl⟩:=heq
         obtain ⟨b,off,rfl,hcf⟩:=hfc o_
         obtain ⟨vp,vb,⟨d0,d1,d2⟩,hp,hb⟩:=hcf f hfN
         have HFr:Hid (Calls Tryz.prog 38 #[.agg #[.string t.funcs[f].name,vp,vb]] wr fun e w'=>e = .returned (.int .i64 (fszF t f))/\Bl wr w'):=by
          have:=frameG_any t.funcs[f] vp vb wr (HFo.out _ (List.getElem_mem hfN)) hp hb
          have e:fszF t f=frameSz t.funcs[f]:=by unfold fszF;simp [List.getD,hfN]
          rw [e]
          exact this
         obtain ⟨ap,cp,rfl,-⟩:=hp
         obtain ⟨ab,cb,rfl,-⟩:=hb
         have hzf:=HZ.out f hfN
         have HStep:Hid (SumK t m r (live.take (k+1)) (updS S f (mxL ((clF t f).map S)+fszF t f))):=by
          show SumK _ _ _ _ _
          rw [HTk.out]
          exact HSk.out.step HZ.out HD.out HLf.out hfN
         clear hfc hcf
         generalize t.funcs[f].params.length=lp at d1 HFr
         generalize t.funcs[f].body.length=lb at d2 HFr
         generalize t.funcs[f].name=nm at d0 HFr
         generalize mxL ((clF t f).map S)=p at hm0 hm1 HStep
         generalize fszF t f=z at hzf HFr HStep
         have k1:IntKind.i64.wrap (p+z)=p+z:=by simp [IntKind.wrap,IntKind.bits,IntKind.signed];omega
         go_wp2_with fail
         refine HFr.out.mono ?_
         rintro e w7 ⟨rfl,hb7⟩
         have HR7:=hide (HR5.out.below hb7)
         obtain ⟨hd,hfz⟩:=HR7.out.cell (sL_len _ _).symm f (by rw [sL_len];exact hfN)
         have hB7:Bl ws w7:=hB6.trans (hb7.mono hB6.size)
         have HR8:Hid (FRow ws.heap.size (w7.setCell ⟨gs,f,none⟩ (.int .i64 (p+z))) (.slice (some ⟨gs,0,none⟩) t.funcs.length cs) (sL t.funcs.length (updS S f (p+z)))):=by
          have:=HR7.out.put (sL_len _ _).symm f (p+z)
          rw [sL_set] at this
          exact this
         have hB8:Bl ws (w7.setCell ⟨gs,f,none⟩ (.int .i64 (p+z))):=hB7.setCell hgs _
         clear x0 x1 d0 d1 d2 hb7 HFr HR5 HR7 hB6 hB5 hB7 HR3 hB3 HMb HIc
         go_wp2_with fail
         go_roundw
         case rel=>exact ⟨k+1,_,by omega,by go_num,HStep.out,HR8.out,hB8⟩
         case measure=>simp [RowKit.intOf];omega
      ·obtain rfl:k=live.length:=by omega
       have HNx:Hid (SumI t m (r+1) S):=by
        have:=HSk.out
        rw [List.take_length] at this
        exact this.next HLm.out.1
       clear HSk
       go_wp2_with fail
       go_roundw
       case rel=>exact ⟨r+1,S,by omega,by go_num,HNx.out,HRk.out,hB⟩
       case measure=>simp [RowKit.intOf];omega
    ·obtain rfl:r=live.length:=by omega
     have hSm:S m=deepE t m:=by
      obtain ⟨s,hs⟩:=dp_exists hm HAc.out live.length m (.inl rfl) (rk_le (.inl rfl) HLm.out.1)
      rw [hs.deep]
      exact HSr.out.ok m (.inl rfl) s hs
     have hd:=(HRr.out.cell (sL_len _ _).symm m (by rw [sL_len];exact hm)).1
     rw [sL_get,hSm] at hd
     have hBf:Bl w wr:=HBs.out.trans (hB.mono HBs.out.size)
     obtain ⟨z,hz⟩ : ∃z,z=deepE t m:=⟨_,rfl⟩
     rw [<-hz] at hd
     have HZd:=hide hz
     clear hz
     go_wp2_with fail
     go_ret
     exact ⟨ret_val (by rw [<-HZd.out];rfl),hBf⟩
theorem boundG_any (t:Tr) (vg vf:Value) (w:World) (hs:smallT t) (hw:wfT t) (hg:Globs w vg t.globals) (hf:Funcs w vf t.funcs) :
  Calls Tryz.prog 15 #[.agg #[vg,vf]] w fun e w'=>e = .returned (.int .i64 (boundE t))/\Below w.heap.size w w':=by
 have HFr:=hide fun W (hW:Bl w W)=>framesG_any t vg vf W hs hw (hg.below hW) (hf.below hW)
 have HS:Hid (smallT t):=hs
 have HW:=hide hw
 have HF:Hid (Funcs w vf t.funcs):=hf
 have hlen:=framesL_len t
 have hsl:=hs.2.1
 obtain ⟨ag,cg,rfl,-⟩:=hg
 obtain ⟨af,cf,rfl,-⟩:=hf
 have hA:Bl w (w.alloc (.cells #[.slice ag t.globals.length cg,.slice af t.funcs.length cf] 32)):=bel_a _ _
 clear hs hw
 obtain ⟨RES,hRES⟩ : ∃R,R=boundE t:=⟨_,rfl⟩
 rw [<-hRES]
 have HRES:=hide hRES
 clear hRES
 go_enter Tryz.func15,Tryz.ntmps15
 go_wp2_with fail
 refine (HFr.out _ hA).mono ?_
 rintro e w1 ⟨v1,rfl,hr1,hb1⟩
 simp only [World.size_alloc] at hb1
 have hB1:=one_below hb1
 have HI:Hid (Ints w1 v1 (framesL t)):=own_ints hr1
 obtain ⟨a1,c1,rfl⟩:=hr1.shape
 clear hr1 HFr hA
 by_cases h0:(framesL t).length=0
 ·have HB:Hid (RES = -1):=by
   show _=_
   rw [HRES.out]
   by_cases hc:(checkE t).1=0
   ·obtain ⟨m,hm,hl,-⟩:=sound_main hc
    rw [framesL_yes hc,List.length_map] at h0
    omega
   ·exact boundE_no hc
  rw [h0]
  clear HI
  go_wp2_with fail
  go_ret
  exact ⟨ret_val (by rw [HB.out];rfl),hB1⟩
 have hpos:0<(framesL t).length:=by omega
 have hc:(checkE t).1=0:=by
  by_cases hc:(checkE t).1=0
  ·exact hc
  ·rw [framesL_no hc] at hpos;simp at hpos
 have HC:=hide hc
 obtain ⟨hfl,hfo⟩:=frOk hc HW.out
 obtain ⟨m,hm,hml,hac⟩:=sound_main hc
 have HM:=hide hm
 have HDG:Hid (∀W,Bl w W->Calls Tryz.prog 36 #[.agg #[.slice ag t.globals.length cg,.slice af t.funcs.length cf],.int .i64 (m:Int)] W fun e w'=>e = .returned (.int .i64 (deepE t m))/\Bl W w'):=fun W hW=>deepG_any t _ _ m W HS.out hfl hfo hml hac ⟨_,_,_,rfl⟩ (HF.out.below hW)
 have HMF:Hid (∀W,Bl w W->Calls Tryz.prog 17 #[.agg #[.slice ag t.globals.length cg,.slice af t.funcs.length cf],.string ⟨#[109,97,105,110]⟩] W fun e w'=>e = .returned (.int .i64 (m:Int))/\Bl W w'):=fun W hW=>by
  have:=l3func_any t.funcs (.slice ag t.globals.length cg) _ mainS W o_ (HF.out.below hW)
  rw [fnumI_some HM.out] at this
  exact this
 obtain ⟨x0,x1⟩:=box2 hb1
 have hlw:w.heap.size<w1.heap.size:=World.block_lt_of_cell? _ _ x0
 clear h0 hc hfo hac hm
 generalize hFL:framesL t=l at HI hpos hlen ⊢
 have HFL:=hide hFL
 clear hFL
 go_wp2_with fail
 go_loopw [4] (fun i wr=>∃k:Nat,k<=l.length/\i = .int .i64 k/\(∀j (h:j<l.length),j<k->l[j]<=2032)/\wr=w1) (fun i _=>l.length-(RowKit.intOf i).toNat)
 case atStart=>exact ⟨0,Nat.zero_le _,rfl,fun j _ h=>absurd h (Nat.not_lt_zero _),rfl⟩
 case round=>
  obtain ⟨k,hk,rfl,hall,rfl⟩:=hrel
  have HAll:=hide hall
  clear hall
  by_cases hlt:k<l.length
  ·obtain ⟨a',c',heq,hcc⟩:=HI.out
   simp only [Value.slice.injEq,true_and] at heq
   obtain ⟨rfl,rfl⟩:=heq
   obtain ⟨b,rfl,hcell⟩:=hcc o_
   have d0:=hcell k hlt
   have HMm:Hid (l[k]∈l):=List.getElem_mem hlt
   have HK:Hid (l[k]<=2032->∀j (h:j<l.length),j<k+1->l[j]<=2032):=fun h j hj hjk=>by
    by_cases e:j=k
    ·subst e;exact h
    ·exact HAll.out j hj o_
   clear hcell hcc
   generalize l[k]=z at d0 HMm HK
   by_cases hz:2032<z
   ·have HB:Hid (RES = -1):=by
     show _=_
     rw [HRES.out]
     exact boundE_big ⟨z,by rw [HFL.out];exact HMm.out,hz⟩
    go_wp2_with fail
    go_ret
    exact ⟨ret_val (by rw [HB.out];rfl),hB1⟩
   ·go_wp2_with fail
    go_roundw
    case rel=>exact ⟨k+1,by omega,by go_num,HK.out o_,trivial⟩
    case measure=>simp [RowKit.intOf];omega
  ·have HB:Hid (RES=deepE t m):=by
    show _=_
    rw [HRES.out]
    refine boundE_yes HC.out (fun x hx => ?_) HM.out
    rw [HFL.out] at hx
    obtain ⟨j,hj,rfl⟩:=List.getElem_of_mem hx
    exact HAll.out j hj o_
   have hdr:Bl w wr.drew:=hB1.drew
   have y0:wr.drew.cell? ⟨w.heap.size,0,none⟩=some (.slice ag t.globals.length cg):=x0
   have y1:wr.drew.cell? ⟨w.heap.size,1,none⟩=some (.slice af t.funcs.length cf):=x1
   have hlwd:w.heap.size<wr.drew.heap.size:=hlw
   generalize deepE t m=z at HB HDG
   go_wp2_with fail
   go_region_held3 (fun W=>W.cell? ⟨w.heap.size,0,none⟩=some (.slice ag t.globals.length cg)/\W.cell? ⟨w.heap.size,1,none⟩=some (.slice af t.funcs.length cf)) (go_simp)
    (first
    | (go_at_call 17;refine (HMF.out _ hdr).mono ?_;rintro e w3 ⟨rfl,hb3⟩;have hB3:Bl w w3:=hdr.trans (hb3.mono hdr.size);have q0:w3.cell? ⟨w.heap.size,0,none⟩=some (.slice ag t.globals.length cg):=(hb3.cell (p:=⟨w.heap.size,0,none⟩) hlwd).trans y0;have q1:w3.cell? ⟨w.heap.size,1,none⟩=some (.slice af t.funcs.length cf):=(hb3.cell (p:=⟨w.heap.size,1,none⟩) hlwd).trans y1;have hl3:w.heap.size<w3.heap.size:=World.block_lt_of_cell? _ _ q0)
    | (go_at_call 36;refine (HDG.out _ hB3).mono ?_;rintro e w4 ⟨rfl,hb4⟩;have hB4:Bl w w4:=hB3.trans (hb4.mono hB3.size);have s0:w4.cell? ⟨w.heap.size,0,none⟩=some (.slice ag t.globals.length cg):=(hb4.cell (p:=⟨w.heap.size,0,none⟩) hl3).trans q0;have s1:w4.cell? ⟨w.heap.size,1,none⟩=some (.slice af t.funcs.length cf):=(hb4.cell (p:=⟨w.heap.size,1,none⟩) hl3).trans q1))
   go_wp2_with fail
   go_ret
   exact ⟨ret_val (by rw [HB.out];rfl),hB4⟩
end Go.Proofs.YtnpidjamplmgjaaGreatDoor
