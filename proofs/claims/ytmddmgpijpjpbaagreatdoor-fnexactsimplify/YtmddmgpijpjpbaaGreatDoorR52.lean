import Derived.Test.YtmddmgpijpjpbaaGreatDoorR51
namespace Go.Proofs.YtmddmgpijpjpbaaGreatDoor
open Go.RowKit
set_option linter.unusedVariables false
set_option linter.unusedSimpArgs false
set_option maxRecDepth 100000
set_option maxHeartbeats 16000000
theorem ROne.globs {B:Nat} {w:World} {v:Value} {gs:List Gl} {K:List Nat} (h:ROne B w v gs.length (flatG gs) K):Globs w v gs:=by
 rcases h with ⟨h0,-,a,c,rfl,hc⟩ | ⟨g,cap,rfl,-,h3,h4,-,-,h7⟩
 ·exact ⟨a,c,by rw [h0],by omega,hc,fun hp=>absurd hp (by omega)⟩
 ·refine ⟨_,cap,rfl,h3,h4,fun _=>⟨g,0,rfl,fun j hj => ?_⟩⟩
  have hget : ∀(l:List Gl) (m:Nat) (hm:m<l.length),(flatG l)[m*2]? = some (.string l[m].name)/\(flatG l)[m*2+1]? = some (.int .i64 l[m].size):=by
   intro l
   induction l with
   | nil=>intro m hm;simp at hm
   | cons x r ih=>
    intro m hm
    cases m with
    | zero=>exact ⟨rfl,rfl⟩
    | succ m=>
     obtain ⟨i1,i2⟩:=ih m (by simpa using hm)
     have e1:(m+1)*2=m*2+1+1:=by omega
     have e2:(m+1)*2+1=m*2+1+1+1:=by omega
     rw [e1,show m*2+1+1+1=(m*2+1)+1+1 from rfl]
     exact ⟨i1,i2⟩
  obtain ⟨e0,e1⟩:=hget gs j hj
  rw [Nat.zero_add]
  exact ⟨(h7 _ _ e0).1,(h7 _ _ e1).1⟩
theorem Tk.cells {K:List Nat} {w w':World} (h:Tk K w w') {g:Nat} (hg:g∉K) (hl:g<w.heap.size) (o:Nat):w'.cell? ⟨g,o,none⟩=w.cell? ⟨g,o,none⟩:=World.cell?_of_block (a:=⟨g,o,none⟩) (h.other g hl hg)
theorem markTo_any (B:Nat) (vg vf:Value) (gs:List Gl) (Q:List FV) (Kg Kf:List Nat) (k:Nat) (w:World) (hg:gs.length<=1048576) (hn:Q.length<=1048576) (hsm : ∀q∈Q,smallV q) (h0:0<k) (hk:(k:Int)+2*gs.length+(sumQ Q:Nat)<=1000000000) (h1:ROne B w vg gs.length (flatG gs) Kg) (h2:FnM B w vf Q Kf) (hsep : ∀g∈Kg,g∉Kf++blkF Q) (hB:B<=w.heap.size) :
  Calls Tryz.prog 13 #[.agg #[vg,vf],.int .i64 k] w fun e w'=>e = .returned (.int .i64 ((k+2*gs.length+sumQ Q:Nat):Int))/\Globs w' vg (mkG k gs)/\Funcs w' vf (mkF (k+2*gs.length) (Q.map (fun q:FV=>q.f)))/\Below B w w'/\Tk (Kg++(Kf++blkF Q)) w w':=by
 obtain ⟨ag,cg,rfl,-⟩:=h1.slice
 obtain ⟨af,cf,rfl,-⟩:=h2.row.slice
 have hA : ∀o,Bl w (w.alloc o):=fun o=>(Below.refl _ _).alloc (Nat.le_refl _) o
 obtain ⟨W0,hW0⟩ : ∃W0,W0=w.alloc (.cells #[.slice ag gs.length cg,.slice af Q.length cf] 34):=⟨_,rfl⟩
 have hb0:Bl w W0:=by rw [hW0];exact hA _
 obtain ⟨M,hM⟩ : ∃M,M=w.heap.size:=⟨_,rfl⟩
 have hs0:W0.heap.size=M+1:=by rw [hW0,hM];simp
 have hX0:FrC W0 M [.slice ag gs.length cg,.slice af Q.length cf]:=by rw [hW0,hM];exact box_fr2 _ _ _ _
 have r1:ROne B W0 (.slice ag gs.length cg) gs.length (flatG gs) Kg:=h1.keep hb0.size (fun g hg=>hb0.block g (h1.rng g hg).2)
 have r2:FnM B W0 (.slice af Q.length cf) Q Kf:=h2.below hb0
 have hMg:M∉Kg:=fun h=>by have:=(h1.rng M h).2;omega
 have hMf:M∉Kf++blkF Q:=fun h=>by have:=(h2.rng M h).2;omega
 obtain ⟨y1,hy1⟩ : ∃y1,k+2*gs.length=y1:=⟨_,rfl⟩
 obtain ⟨y2,hy2⟩ : ∃y2,y1+sumQ Q=y2:=⟨_,rfl⟩
 rw [hy1]
 rw [hy2]
 have HG:Hid (Calls Tryz.prog 37 #[.slice ag gs.length cg,.int .i64 (k:Int)] W0 fun e w'=>e = .returned (.int .i64 (y1:Int))/\ROne B w' (.slice ag gs.length cg) gs.length (flatG (mkG k gs)) Kg/\Tk Kg W0 w'):=by
  have:=markGo_any B _ gs Kg k W0 hg h0 (by omega) r1
  rw [hy1] at this
  exact this
 have HF:Hid (∀W,Tk Kg W0 W->FnM B W (.slice af Q.length cf) Q Kf/\Calls Tryz.prog 38 #[.slice af Q.length cf,.int .i64 (y1:Int)] W fun e w'=>e = .returned (.int .i64 (y2:Int))/\FnM B w' (.slice af Q.length cf) (mkQ y1 Q) Kf/\Tk (Kf++blkF Q) W w'):=fun W hW=>by
  have r3:FnM B W (.slice af Q.length cf) Q Kf:=r2.keep hW.size (fun g hg=>hW.other g (r2.rng g hg).2 (fun h=>hsep g h hg))
  have:=markFo_any B _ Q Kf y1 W hn hsm (by omega) (by omega) r3
  rw [hy2] at this
  exact ⟨r3,this⟩
 have HX:=hide fun W (hW:Tk Kg W0 W)=>(hW.cells hMg (by omega) 1).trans hX0.two.2.1
 have HE:Hid (∀W1 W2,Tk Kg W0 W1->Tk (Kf++blkF Q) W1 W2->ROne B W1 (.slice ag gs.length cg) gs.length (flatG (mkG k gs)) Kg->FnM B W2 (.slice af Q.length cf) (mkQ y1 Q) Kf->Globs W2 (.slice ag gs.length cg) (mkG k gs)/\Funcs W2 (.slice af Q.length cf) (mkF y1 (Q.map (fun q:FV=>q.f)))/\Below B w W2/\Tk (Kg++(Kf++blkF Q)) w W2):=fun W1 W2 t1 t2 g1 g2=>by
  refine ⟨?_,?_,?_,((Tk.of_below hb0).trans (t1.mono (fun g hg=>List.mem_append.2 (.inl hg)))).trans (t2.mono (fun g hg=>List.mem_append.2 (.inr hg)))⟩
  ·have:=g1.keep t2.size (fun g hg=>t2.other g (g1.rng g hg).2 (hsep g hg))
   have e:(mkG k gs).length=gs.length:=mkG_len k gs
   have:=ROne.globs (gs:=mkG k gs) (by rw [e];exact this)
   exact this
  ·have:=g2.funcs
   rw [(mkQ_map y1 Q (fun q hq=>(h2.each q hq).map)).1] at this
   exact this
  ·have b1:Below B W0 W1:=t1.below (fun g hg=>(h1.rng g hg).1) (by omega)
   have b2:Below B W1 W2:=t2.below (fun g hg=>(h2.rng g hg).1) (by have:=t1.size;omega)
   exact ((hb0.mono hB).trans b1).trans b2
 have HW0:=hide hW0
 have HM:=hide hM
 clear h1 h2 hsep r1 r2 hMg hMf hX0 hA hb0 hs0 hk hy1 hy2 hW0 hM hsm
 go_enter Tryz.func13,Tryz.ntmps13
 go_wp2_with fail
 rw [<-HW0.out,<-HM.out]
 refine HG.out.mono ?_
 rintro e w1 ⟨rfl,g1,t1⟩
 have x1:=HX.out w1 t1
 have HT1:=hide t1
 have HG1:=hide g1
 clear t1 g1
 go_wp2_with fail
 refine (HF.out w1 HT1.out).2.mono ?_
 rintro e w2 ⟨rfl,g2,t2⟩
 have HFin:Hid _:=HE.out w1 w2 HT1.out t2 HG1.out g2
 clear t2 g2 x1
 go_wp2_with fail
 go_ret
 exact ⟨rfl,HFin.out⟩
end Go.Proofs.YtmddmgpijpjpbaaGreatDoor
