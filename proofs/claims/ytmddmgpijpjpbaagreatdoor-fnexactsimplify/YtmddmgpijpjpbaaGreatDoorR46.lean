import Derived.Test.YtmddmgpijpjpbaaGreatDoorR45
import Derived.Test.YtmddmgpijpjpbaaGreatDoorR41
import Derived.Deep.RegionHeld3
set_option linter.unusedSectionVars false
variable [Inhabited Go.Proofs.YtmddmgpijpjpbaaGreatDoor.Pick]
namespace Go.Proofs.YtmddmgpijpjpbaaGreatDoor
open Go.RowKit
set_option linter.unusedVariables false
set_option linter.unusedSimpArgs false
set_option maxRecDepth 100000
set_option maxHeartbeats 16000000
theorem listed_if (N:Nat) (hN:N<=1000) (IH:ListC N) (e:List Nd) (x va vb:Value) (ss tt:List St) (S:Nat->Prop) (w:World) (hx:Tv w S x e) (ha:Bk w S va ss) (hb:Bk w S vb tt) (hla:ss.length<=N) (hlb:tt.length<=N) (hl:e.length<=2000) (hS : ∀B,S B->B<w.heap.size) (hok : ∀s∈ss,PlS s) (hok2 : ∀s∈tt,PlS s) :
  Calls Tryz.prog 113 #[.iface 203 (.agg #[x,va,vb])] w fun r w'=>∃u,r = .returned u/\Lst w w' u (⟨4,⟨#[]⟩,e,[],ss.length,tt.length⟩::(ss++tt))/\Below w.heap.size w w':=by
 have HX:=hide hx
 have HA:=hide ha
 have HB:=hide hb
 obtain ⟨tx,yx,rfl⟩:=hx.isI
 obtain ⟨A,vs,F,⟨aa,ca,rfl,-⟩,-⟩:=ha
 obtain ⟨B,us,H,⟨ab,cb,rfl,-⟩,-⟩:=hb
 obtain ⟨W0,hW0⟩ : ∃W0,W0=w.alloc (.cells #[.iface tx yx,.slice aa A ca,.slice ab B cb] 203):=⟨_,rfl⟩
 have hb0:Bl w W0:=by rw [hW0];exact (Below.refl _ _).alloc (Nat.le_refl _) _
 have hs0:W0.heap.size=w.heap.size+1:=by rw [hW0];simp
 have hbd:Bl W0 W0.drew:=(Below.refl _ _).drew
 have HY:Hid (∀W,Bl W0 W->W.cell? ⟨w.heap.size,0,none⟩=some (.iface tx yx)/\W.cell? ⟨w.heap.size,1,none⟩=some (.slice aa A ca)/\W.cell? ⟨w.heap.size,2,none⟩=some (.slice ab B cb)):=fun W hW=>by
  rw [hW.cell (p:=⟨w.heap.size,0,none⟩) (by simp;omega),hW.cell (p:=⟨w.heap.size,1,none⟩) (by simp;omega),hW.cell (p:=⟨w.heap.size,2,none⟩) (by simp;omega),hW0]
  exact ⟨by simp,by simp,by simp⟩
 have HT:Hid (∀W,Bl W0 W->Calls Tryz.prog 74 #[.slice aa A ca] W fun r w'=>∃a1 c1,r = .returned (.slice a1 ss.length c1)/\Lst W w' (.slice a1 ss.length c1) ss/\Bl W w'):=fun W hW=>by
  have hbW:=hb0.trans (hW.mono hb0.size)
  refine (IH ss _ S W hla (HA.out.bel hS hbW) (fun B hB=>Nat.lt_of_lt_of_le (hS B hB) hbW.size) hok).mono ?_
  rintro r w' ⟨u,rfl,hu,hb⟩
  obtain ⟨a1,c1,rfl⟩:=hu.shape
  exact ⟨a1,c1,rfl,hu,hb⟩
 have HO:Hid (∀W,Bl W0 W->Calls Tryz.prog 74 #[.slice ab B cb] W fun r w'=>∃a1 c1,r = .returned (.slice a1 tt.length c1)/\Lst W w' (.slice a1 tt.length c1) tt/\Bl W w'):=fun W hW=>by
  have hbW:=hb0.trans (hW.mono hb0.size)
  refine (IH tt _ S W hlb (HB.out.bel hS hbW) (fun B hB=>Nat.lt_of_lt_of_le (hS B hB) hbW.size) hok2).mono ?_
  rintro r w' ⟨u,rfl,hu,hb⟩
  obtain ⟨a1,c1,rfl⟩:=hu.shape
  exact ⟨a1,c1,rfl,hu,hb⟩
 have HL:Hid (∀W,Bl W0 W->Calls Tryz.prog 146 #[.iface tx yx] W fun r w'=>∃a n c,r = .returned (.slice a n c)/\(∃g,NOne w.heap.size w' (.slice a n c) e [g]/\W.heap.size<=g)/\Bl W w'):=fun W hW=>by
  have hbW:=hb0.trans (hW.mono hb0.size)
  refine (lowered_any _ e S W (fun B hB=>Nat.lt_of_lt_of_le (hS B hB) hbW.size) (HX.out.keep (fun _ h=>h) (fun B hB=>hbW.block B (hS B hB))) hl).mono ?_
  rintro r w' ⟨v,rfl,hv,hb⟩
  obtain ⟨g,hg,hg2,-⟩:=hv.one
  obtain ⟨g',cap,rfl,-⟩:=hv
  exact ⟨_,_,_,rfl,⟨g,hg.base hbW.size,hg2⟩,hb⟩
 have HW0:=hide hW0
 have a_decl:=fun W v=>sa_decl_no W 203 v (by decide)
 have a_set:=fun W v=>sa_set_no W 203 v (by decide)
 have a_store:=fun W v=>sa_store_no W 203 v (by decide)
 have a_if:=fun W v=>sa_if_yes W v
 obtain ⟨ln,hln⟩ : ∃ln:Nat,ln=ss.length:=⟨_,rfl⟩
 obtain ⟨lm,hlm⟩ : ∃lm:Nat,lm=tt.length:=⟨_,rfl⟩
 have HLn:Hid (ln=ss.length/\lm=tt.length):=⟨hln,hlm⟩
 have hlnb:ln<=1000:=by omega
 have hlmb:lm<=1000:=by omega
 rw [<-hln] at HT ⊢
 rw [<-hlm] at HO ⊢
 clear hx hS hW0 hln hlm hla hlb hok hok2 IH hs0
 go_enter Tryz.func113,Tryz.ntmps113
 go_upto_region 13 with fail
 rw [<-HW0.out]
 obtain ⟨y0,y1,y2⟩:=HY.out _ hbd
 go_region_held (fun W=>W.cell? ⟨w.heap.size,1,none⟩=some (.slice aa A ca)/\W.cell? ⟨w.heap.size,2,none⟩=some (.slice ab B cb)) (go_keep)
  (first
  | ((with_reducible refine Calls.mono (HT.out _ hbd) ?_);intro r wt hr;obtain ⟨a1,c1,hre,ht1,hbt0⟩:=hr;subst hre;have hbt:Bl W0 wt:=hbd.trans (hbt0.mono hbd.size);have q:=(HY.out wt hbt).2)
  | ((with_reducible refine Calls.mono (HO.out _ hbt) ?_);intro r wo hr;obtain ⟨a2,c2,hre,ht2,hbo0⟩:=hr;subst hre;have hbo:Bl W0 wo:=hbt.trans (hbo0.mono hbt.size);have q2:=(HY.out wo hbo).2))
 have HT1:=hide ht1
 have HT2:=hide ht2
 have HBto:=hide hbo0
 have z0:=(HY.out wo hbo).1
 clear ht1 ht2 hbo0 hbt0 q q2 y0 y1 y2 HT HO
 go_wp2_with fail
 refine (HL.out _ hbo).mono ?_
 rintro r w2 ⟨a3,n3,c3,rfl,hno,hb2⟩
 have hb02:Bl W0 w2:=hbo.trans (hb2.mono hbo.size)
 have hbw2:Bl w w2:=hb0.trans (hb02.mono hb0.size)
 obtain ⟨W5,hW5⟩ : ∃W5,W5=((w2.alloc (.cells #[.int .i64 4,.string ⟨#[]⟩,.slice a3 n3 c3,.slice none 0 0,.int .i64 (ln:Int),.int .i64 (lm:Int)] 117)).alloc (.cells #[.int .i64 4,.string ⟨#[]⟩,.slice a3 n3 c3,.slice none 0 0,.int .i64 (ln:Int),.int .i64 (lm:Int)] 117)).alloc (.cells #[.slice (some ⟨w2.heap.size+1,0,none⟩) 1 1,.slice a1 ln c1,.slice a2 lm c2] 83):=⟨_,rfl⟩
 have hb25:Bl w2 W5:=by rw [hW5];exact ((bel_a _ _).alloc (by simp) _).alloc (by simp;omega) _
 have hbw5:Bl w W5:=hbw2.trans (hb25.mono hbw2.size)
 have HCo:Hid (Calls Tryz.prog 149 #[.slice (some ⟨w2.heap.size+1+1,0,none⟩) 3 3] W5 fun r w'=>∃a n c,r = .returned (.slice a n c)/\Lst w w' (.slice a n c) (⟨4,⟨#[]⟩,e,[],(ln:Int),(lm:Int)⟩::(ss++tt))/\Bl W5 w'):=by
  obtain ⟨g,hg,hgl⟩:=hno
  obtain ⟨R,hR1,hR2⟩:=HT1.out
  obtain ⟨R',hR3,hR4⟩:=HT2.out
  have hA3:Bl w2 (w2.alloc (.cells #[.int .i64 4,.string ⟨#[]⟩,.slice a3 n3 c3,.slice none 0 0,.int .i64 (ln:Int),.int .i64 (lm:Int)] 117)):=bel_a _ _
  have h1:=srow_one (w:=w) (w1:=w2.alloc (.cells #[.int .i64 4,.string ⟨#[]⟩,.slice a3 n3 c3,.slice none 0 0,.int .i64 (ln:Int),.int .i64 (lm:Int)] 117)) ⟨⟨4,⟨#[]⟩,e,[],(ln:Int),(lm:Int)⟩,.slice a3 n3 c3,.slice none 0 0,[g],[]⟩ (by have:=hbw2.size;simp;omega) (hg.keep hA3.size fun x hx=>hA3.block x (hg.rng x hx).2) (NOne.nil _ _) (by simp)
  have e1:(w2.alloc (.cells #[.int .i64 4,.string ⟨#[]⟩,.slice a3 n3 c3,.slice none 0 0,.int .i64 (ln:Int),.int .i64 (lm:Int)] 117)).heap.size=w2.heap.size+1:=by simp
  simp only [e1] at h1
  have h1':StRow w.heap.size W5 (.slice (some ⟨w2.heap.size+1,0,none⟩) 1 1) [⟨⟨4,⟨#[]⟩,e,[],(ln:Int),(lm:Int)⟩,.slice a3 n3 c3,.slice none 0 0,[g],[]⟩]:=by rw [hW5];exact h1.below (bel_a _ _)
  have hR5:StRow w.heap.size W5 (.slice a1 ln c1) R:=(((hR1.below HBto.out).below hb2).below hb25).base (by have:=hb0.size;simpa using this)
  have hR6:StRow w.heap.size W5 (.slice a2 lm c2) R':=((hR3.below hb2).below hb25).base (Nat.le_trans hb0.size hbt.size)
  have hl1:R.length=ln:=by have:=congrArg List.length hR2;rw [List.length_map] at this;have:=HLn.out.1;omega
  have hl2:R'.length=lm:=by have:=congrArg List.length hR4;rw [List.length_map] at this;have:=HLn.out.2;omega
  obtain ⟨X,hX⟩ : ∃X,X=(w2.alloc (.cells #[.int .i64 4,.string ⟨#[]⟩,.slice a3 n3 c3,.slice none 0 0,.int .i64 (ln:Int),.int .i64 (lm:Int)] 117)).alloc (.cells #[.int .i64 4,.string ⟨#[]⟩,.slice a3 n3 c3,.slice none 0 0,.int .i64 (ln:Int),.int .i64 (lm:Int)] 117):=⟨_,rfl⟩
  have hXs:X.heap.size=w2.heap.size+1+1:=by rw [hX];simp
  rw [<-hX] at hW5
  have d0:W5.cell? ⟨w2.heap.size+1+1,0,none⟩=some (.slice (some ⟨w2.heap.size+1,0,none⟩) 1 1):=by rw [hW5,<-hXs];simp
  have d1:W5.cell? ⟨w2.heap.size+1+1,1,none⟩=some (.slice a1 ln c1):=by rw [hW5,<-hXs];simp
  have d2:W5.cell? ⟨w2.heap.size+1+1,2,none⟩=some (.slice a2 lm c2):=by rw [hW5,<-hXs];simp
  refine (concat_any (w2.heap.size+1+1) w.heap.size _ _ _ _ R R' W5 d0 d1 d2 h1' hR5 hR6 (by simp) (by simp;omega) ?_ hbw5.size).mono ?_
  ·have f1 : ∀y∈blkS R,y<wt.heap.size:=fun y hy=>(hR1.rng y hy).2
   have f2 : ∀y∈blkS R',wt.heap.size<=y/\y<wo.heap.size:=fun y hy=>hR3.rng y hy
   rw [List.nodup_append,List.nodup_append]
   refine ⟨⟨by simp [blkS],hR1.nd,fun x hx y hy => ?_⟩,hR3.nd,fun x hx y hy => ?_⟩
   ·have hx':x=g:=by simpa [blkS] using hx
    have:=f1 y hy
    have:=HBto.out.size
    omega
   ·have:=f2 y hy
    rcases List.mem_append.1 hx with hx | hx
    ·have hx':x=g:=by simpa [blkS] using hx
     omega
    ·have:=f1 x hx
     omega
  ·rintro r w' ⟨v,rfl,hv,hb⟩
   obtain ⟨a,c,rfl⟩:=hv.shape
   exact ⟨a,_,c,rfl,⟨_,hv,by simp [hR2,hR4]⟩,hb⟩
 have HW5:=hide hW5
 clear hno hb2 hb02 z0 HT1 HT2 HBto hW5 HL
 go_wp2_with fail
 rw [<-HW5.out]
 refine HCo.out.mono ?_
 rintro r w6 ⟨a,n,c,rfl,hres,hb6⟩
 have HRes:=hide hres
 have hbw6:=hbw5.trans (hb6.mono hbw5.size)
 clear hres hb6 HCo
 go_wp2_with fail
 go_ret
 exact ⟨_,rfl,HRes.out,hbw6⟩
theorem listedOne_any (N:Nat) (hN:N<=1000) (IH:ListC N) {v:Value} {l:List St} {S:Nat->Prop} {w:World} (hl:l.length<=N+1) (hv:Bv w S v l) (hS : ∀B,S B->B<w.heap.size) (hok : ∀s∈l,PlS s) :
  Calls Tryz.prog 113 #[v] w fun e w'=>∃u,e = .returned u/\Lst w w' u l/\Below w.heap.size w w':=by
 cases hv using Bv_i with
 | decl s x h1 h2 h3 h4=>
  have hp:=hok s (by simp)
  obtain ⟨k,nm,e,f,t,q⟩:=s
  simp only at h1 h2 h3 h4
  obtain rfl:f = []:=hp.nf (by simp only;omega)
  subst h1 h3 h4
  exact listed_decl nm e x S w h2 hp.e hS
 | set s x h1 h2 h3 h4=>
  have hp:=hok s (by simp)
  obtain ⟨k,nm,e,f,t,q⟩:=s
  simp only at h1 h2 h3 h4
  obtain rfl:f = []:=hp.nf (by simp only;omega)
  subst h1 h3 h4
  exact listed_set nm e x S w h2 hp.e hS
 | store s x y h1 h2 h3 h4 h5=>
  have hp:=hok s (by simp)
  obtain ⟨k,nm,e,f,t,q⟩:=s
  simp only at h1 h2 h3 h4 h5
  subst h1 h4 h5
  exact listed_store nm e f x y S w h2 h3 hp.e hp.f hS
 | ret s x h1 h2 h3 h4=>
  have hp:=hok s (by simp)
  obtain ⟨k,nm,e,f,t,q⟩:=s
  simp only at h1 h2 h3 h4
  obtain rfl:f = []:=hp.nf (by simp only;omega)
  obtain rfl:nm=⟨#[]⟩:=hp.nn (by simp only;omega)
  subst h1 h3 h4
  exact listed_return e x S w h2 hp.e hS
 | out s x h1 h2 h3 h4=>
  have hp:=hok s (by simp)
  obtain ⟨k,nm,e,f,t,q⟩:=s
  simp only at h1 h2 h3 h4
  obtain rfl:f = []:=hp.nf (by simp only;omega)
  obtain rfl:nm=⟨#[]⟩:=hp.nn (by simp only;omega)
  subst h1 h3 h4
  exact listed_out e x S w h2 hp.e hS
 | call s x h1 h2 h3 h4=>
  have hp:=hok s (by simp)
  obtain ⟨k,nm,e,f,t,q⟩:=s
  simp only at h1 h2 h3 h4
  obtain rfl:f = []:=hp.nf (by simp only;omega)
  obtain rfl:nm=⟨#[]⟩:=hp.nn (by simp only;omega)
  subst h1 h3 h4
  exact listed_call e x S w h2 hp.e hS
 | ifs s x va vb A B vs us F H h1 h2 h3 h4 h5 h6 h7 h8=>
  have hp:=hok s (by simp)
  obtain ⟨k,nm,e,f,t,q⟩:=s
  simp only at h1 h2 h7 h8
  obtain rfl:f = []:=hp.nf (by simp only;omega)
  obtain rfl:nm=⟨#[]⟩:=hp.nn (by simp only;omega)
  subst h1 h7 h8
  simp only [l_c,l_a] at hl
  exact listed_if N hN IH e x va vb _ _ S w h2 ⟨A,vs,F,h3,h4,rfl⟩ ⟨B,us,H,h5,h6,rfl⟩ (by omega) (by omega) hp.e hS (fun s hs=>hok s (by simp [hs])) (fun s hs=>hok s (by simp [hs]))
 | whil s x va A vs F h1 h2 h3 h4 h5 h6=>
  have hp:=hok s (by simp)
  obtain ⟨k,nm,e,f,t,q⟩:=s
  simp only at h1 h2 h5 h6
  obtain rfl:f = []:=hp.nf (by simp only;omega)
  obtain rfl:nm=⟨#[]⟩:=hp.nn (by simp only;omega)
  subst h1 h5 h6
  simp only [l_c] at hl
  exact listed_while N hN IH e x va _ S w h2 ⟨A,vs,F,h3,h4,rfl⟩ (by omega) hp.e hS (fun s hs=>hok s (by simp [hs]))
theorem listed_step (N:Nat) (hN:N<=999) (IH:ListC N):ListC (N+1):=by
 intro ss v S w hl hB hS hok
 obtain ⟨L,hL,rfl⟩:=hB.toL
 have HL:=hide hL
 obtain ⟨a,cap,rfl,hc1,hc2,hcell⟩:=hL.args
 have HCe:=hide hcell
 have HS:=hide hS
 have HIH:=hide IH
 have HLen:=hide hl
 have HOk:=hide hok
 have hLl:L.length<=N+1:=by
  have h2:=HL.out.parts
  have:=joinS_len L.length (fun i hi=>(h2.2.1 i hi).pos)
  rw [h2.2.2] at this
  omega
 go_enter Tryz.func74,Tryz.ntmps74
 go_wp2_with fail
 go_loopw [3,8] (fun p i wr=>∃(k:Nat) (R:List SV),k<=L.length/\i = .int .i64 k/\StRow w.heap.size wr p R/\R.map (·.s)=flatL (L.take k)/\Bl w wr) (fun _ i _=>L.length-(RowKit.intOf i).toNat)
 case atStart=>exact ⟨0,[],Nat.zero_le _,rfl,StRow.nil _ _,by simp [flatL_nil],Below.refl _ _⟩
 case round=>
  obtain ⟨k,R,hk,rfl,hR,hm,hbr⟩:=hrel
  have HR:=hide hR
  have HMp:=hide hm
  obtain ⟨va,vc,rfl⟩:=hR.shape
  by_cases hlt:k<L.length
  ·obtain ⟨B,rfl,hSB,hcB⟩:=HCe.out (by omega)
   have hmem:L[k]∈L:=List.getElem_mem hlt
   have hbv:=HL.out.bv _ hmem
   obtain ⟨tk,yk,hvk⟩:=hbv.isI
   have c0:=(hbr.cell (p:=⟨B,k,none⟩) (HS.out B hSB)).trans (hcB k hlt)
   rw [getD_at hlt,hvk] at c0
   rw [hvk] at hbv
   have htk:L.take (k+1)=L.take k++[L[k]]:=List.take_succ_eq_append_getElem hlt
   have HLk:Hid (flatL (L.take (k+1))=flatL (L.take k)++L[k].2):=by show _=_;rw [htk,flatL_append];simp [flatL]
   have hsub : ∀s∈L[k].2,s∈flatL L:=fun s hs=>List.mem_flatten.2 ⟨_,List.mem_map.2 ⟨_,hmem,rfl⟩,hs⟩
   have HLo:Hid (Calls Tryz.prog 113 #[.iface tk yk] wr fun e w'=>∃a n c,e = .returned (.slice a n c)/\Lst wr w' (.slice a n c) L[k].2/\Bl wr w'):=by
    refine (listedOne_any N (by omega) HIH.out (by have:=flat_elem hlt;have:=HLen.out;omega) (hbv.bel HS.out hbr) (fun B hB=>Nat.lt_of_lt_of_le (HS.out B hB) hbr.size) (fun s hs=>HOk.out s (hsub s hs))).mono ?_
    rintro r w' ⟨u,rfl,hu,hb⟩
    obtain ⟨a1,c1,rfl⟩:=hu.shape
    exact ⟨_,_,_,rfl,hu,hb⟩
   have hRl:R.length<=1000:=by
    have h1:=congrArg List.length HMp.out
    rw [List.length_map] at h1
    have h2:(flatL (L.take k)).length<=(flatL L).length:=by
     have e:L=L.take k++L.drop k:=(List.take_append_drop k L).symm
     have h:=congrArg (fun X=>(flatL X).length) e
     simp only [flatL_append,l_a] at h
     omega
    have:=HLen.out
    omega
   have hLk2:L[k].2.length<=1000:=by have:=flat_elem hlt;have:=HLen.out;omega
   go_wp2_with fail
   refine HLo.out.mono ?_
   rintro x w1 ⟨a1,n1,c1,rfl,⟨R2,hR2,hm2⟩,hb1⟩
   have hr2l:R2.length<=1000:=by have h1:=congrArg List.length hm2;rw [List.length_map] at h1;omega
   obtain ⟨v',w2,r1,s1,g1,f1⟩:=srow_app 83 (HR.out.below hb1) (hR2.base hbr.size) (Nat.le_trans hbr.size hb1.size) (fun x hx y hy=>by
    have:=(HR.out.rng x hx).2
    have:=(hR2.rng y hy).1
    omega) (fun g hg hm=>by
    have:=(World.ownsRow.lt HR.out.row g hg).2
    have:=(hR2.rng g hm).1
    omega) (by omega)
   have hbw1:Bl w w1:=hbr.trans (hb1.mono hbr.size)
   have hbw2:Bl w w2:=hbw1.grown g1 hbw1.size (fun g hg=>(World.ownsRow.lt HR.out.row g hg).1)
   have HNx:Hid (StRow w.heap.size w2 v' (R++R2)/\(R++R2).map (·.s)=flatL (L.take (k+1))):=⟨s1,by rw [List.map_append,HMp.out,hm2,HLk.out]⟩
   obtain ⟨av,nv,cv,rfl⟩ : ∃a n c,v' = .slice a n c:=by obtain ⟨a,c,h⟩:=s1.shape;exact ⟨_,_,_,h⟩
   go_wp2_with (at_builtin;refine wpList_appG rfl _ _ _ rfl _ _ (.slice av nv cv) w2 rfl rfl r1 ?_)
   go_wp2_with fail
   go_roundw
   case rel=>exact ⟨k+1,R++R2,by omega,by go_num,HNx.out.1,HNx.out.2,hbw2⟩
   case measure=>simp [RowKit.intOf];omega
  ·obtain rfl:k=L.length:=by omega
   have HE:Hid (R.map (·.s)=flatL L):=by show _=_;rw [HMp.out,List.take_length]
   go_wp2_with fail
   go_ret
   exact ⟨_,rfl,⟨R,HR.out,HE.out⟩,hbr⟩
theorem listed_zero:ListC 0:=by
 intro ss v S w hl hB hS hok
 obtain ⟨L,hL,rfl⟩:=hB.toL
 have hz:L = []:=by
  have h2:=hL.parts
  have:=joinS_len L.length (fun i hi=>(h2.2.1 i hi).pos)
  rw [h2.2.2] at this
  exact List.eq_nil_of_length_eq_zero (by omega)
 subst hz
 obtain ⟨a,cap,rfl,-⟩:=hL.args
 go_enter Tryz.func74,Tryz.ntmps74
 go_wp2_with fail
 refine wp_loop_rounds 1 ?_
 rw [rounds_succ]
 go_wp2_with fail
 go_ret
 exact ⟨_,rfl,⟨[],StRow.nil _ _,rfl⟩,Below.refl _ _⟩
theorem listed_any : ∀N,N<=1000->ListC N
 | 0,_=>listed_zero
 | N+1,h=>listed_step N (by omega) (listed_any N (by omega))
structure FnOne (B:Nat) (w:World) (vp vb:Value) (r:Fu) (R:List SV):Prop where
 ps:w.ownsRow B 9 1 vp r.params.length (flatP r.params)
 body:StRow B w vb R
 map:R.map (·.s)=r.body
 sep : ∀g,vp.ownBlock=some g->g∉blkS R/\vb.ownBlock≠some g
theorem strs_flat {w:World} {v:Value} {ps:List ByteArray} (h:Strs w v ps) : ∃a cap,v = .slice a ps.length cap/\(a=none->ps.length=0)/\∀ad,a=some ad->∀j u,(flatP ps)[j]? = some u->w.cell? (ad.add j)=some u:=by
 obtain ⟨a,cap,rfl,-,-,h⟩:=h
 refine ⟨a,cap,rfl,fun e => ?_,fun ad had j u hu => ?_⟩
 ·rcases Nat.eq_zero_or_pos ps.length with h0 | h0
  ·exact h0
  ·obtain ⟨b,off,e',-⟩:=h h0
   rw [e] at e';cases e'
 ·have hl:=(List.getElem?_eq_some_iff.1 hu).1
  rw [flatP,List.length_map] at hl
  obtain ⟨b,off,e',hc⟩:=h (by omega)
  rw [had] at e'
  cases e'
  have e:(flatP ps)[j]? = some (.string ps[j]):=by simp [flatP,List.getElem?_eq_getElem hl]
  rw [e] at hu
  rw [addrO,hc j hl,hu]
theorem simplifiedFunc_any (f r:Fu) (vp vb:Value) (w:World) (hT:Tab w) (hp:Strs w vp f.params) (hb:Stmts w vb f.body) (hf:funcB f=true) (hs:SimF f r) :
  Calls Tryz.prog 44 #[.agg #[.string f.name,vp,vb]] w fun e w'=>∃vp' vb' R,e = .returned (.agg #[.string r.name,vp',vb'])/\FnOne w.heap.size w' vp' vb' r R/\Below w.heap.size w w':=by
 obtain ⟨p1,p2,p3,p4,p5,p6⟩:=func_parts hf
 obtain ⟨s1,s2,rs,s3,s4⟩:=hs
 have hsz:=hT.size
 have hrl:rs.length<=500:=by rw [s3.1];exact p3
 have HFB:=hide fun W (hW:Bl w W)=>foldedBody_any vb f.body rs W (hT.below hsz hW) (hb.below hW) s3 (by omega) (fun s h=>⟨by have:=(p6 s h).2.1;omega,by have:=(p6 s h).2.2;omega⟩)
 have HBO:=hide fun W u (hW:Bl w W) (hu:Stmts W u rs)=>blockOf_any rs u W (hT.below hsz hW) hu (by rw [s3.fit];exact p5) (s3.ok p6) (by omega)
 have HTD:Hid (TidyC 1000):=tidied_any 1000 (Nat.le_refl _)
 have HLI:Hid (ListC 1000):=listed_any 1000 (Nat.le_refl _)
 have htl:=tidyB_len rs.length rs (Nat.le_refl _)
 have HPl:Hid (∀s∈tidyB rs,PlS s):=fun s h=>pls_from (tidyB_from _ rs (Nat.le_refl _) s h) (fun x hx=>by
  obtain ⟨q1,q2,q3⟩:=s3.ok p6 x hx
  exact pls_ok q1 q2 q3)
 obtain ⟨ap,cp,rfl,hpn,hpc⟩:=strs_flat hp
 have HCL:Hid (∀W,Bl w W->Calls Tryz.prog 73 #[.slice ap f.params.length cp] W fun e w'=>∃u,e = .returned u/\w'.ownsRow W.heap.size 9 1 u f.params.length (flatP f.params)/\Bl W w'):=fun W hW=>clone_str ap f.params.length cp (flatP f.params) W hpn (by simp [flatP]) (fun ad had j u hu=>by
  have c:=hpc ad had j u hu
  have hlt:=World.block_lt_of_cell? _ _ c
  exact (hW.cell hlt).trans c) (fun u hu=>by simp only [flatP,List.mem_map] at hu;obtain ⟨x,-,rfl⟩:=hu;rfl) (by omega)
 obtain ⟨ab,cb,rfl,-⟩:=hb
 have HS1:=hide s1
 have HS2:=hide s2
 have HS4:=hide s4
 clear p1 p4 p5 p6 s1 s2 s3 s4 hpn hpc hp hf hT hsz
 go_enter Tryz.func44,Tryz.ntmps44
 go_wp2_with fail
 obtain ⟨M,hM⟩ : ∃M,M=w.heap.size:=⟨_,rfl⟩
 obtain ⟨W0,hW0⟩ : ∃W0,W0=((w.alloc (.cells #[.string f.name,.slice ap f.params.length cp,.slice ab f.body.length cb] 85)).alloc (.cells #[.string ⟨#[]⟩,.slice none 0 0,.slice none 0 0] 85)):=⟨_,rfl⟩
 have hs0:W0.heap.size=M+2:=by rw [hW0,hM];simp
 have hb0:Bl w W0:=by rw [hW0];exact (bel_a _ _).alloc (by simp) _
 have HY:Hid (∀W,Bl W0 W->(W.cell? ⟨M,0,none⟩=some (.string f.name)/\W.cell? ⟨M,1,none⟩=some (.slice ap f.params.length cp))/\(W.cell? ⟨M+1,0,none⟩=some (.string ⟨#[]⟩)/\W.cell? ⟨M+1,1,none⟩=some (.slice none 0 0)/\W.cell? ⟨M+1,2,none⟩=some (.slice none 0 0))/\∀j,W.frozen? ⟨M+1,j,none⟩=false):=fun W hW=>by
  have e1 : ∀o,W.cell? ⟨M,o,none⟩=W0.cell? ⟨M,o,none⟩:=fun o=>hW.cell (p:=⟨M,o,none⟩) (by show M<_;omega)
  have e2 : ∀o,W.cell? ⟨M+1,o,none⟩=W0.cell? ⟨M+1,o,none⟩:=fun o=>hW.cell (p:=⟨M+1,o,none⟩) (by show M+1<_;omega)
  rw [e1,e1,e2,e2,e2]
  refine ⟨⟨by rw [hW0,hM];simp,by rw [hW0,hM];simp⟩,⟨by rw [hW0,hM];simp,by rw [hW0,hM];simp,by rw [hW0,hM];simp⟩,fun j => ?_⟩
  rw [hW.frozen (p:=⟨M+1,j,none⟩) (by show M+1<_;omega)]
  have hh:W0.heap[M+1]? = some (.cells #[.string ⟨#[]⟩,.slice none 0 0,.slice none 0 0] 85 (0,0)):=by
   have:=(MapKept.heap_alloc (w.alloc (.cells #[.string f.name,.slice ap f.params.length cp,.slice ab f.body.length cb] 85)) (.cells #[.string ⟨#[]⟩,.slice none 0 0,.slice none 0 0] 85)).1
   rw [World.size_alloc,<-hM,<-hW0] at this
   exact this
  unfold World.frozen?
  simp only [hh]
  simp
 have HBw:=hide fun W (hW:Bl W0 W)=>hb0.trans (hW.mono hb0.size)
 rw [<-hW0,<-hM]
 have HMw:=hide hM
 clear hW0 hM
 refine (HFB.out W0 hb0).mono ?_
 rintro e w1 ⟨u1,rfl,hst1,hb1⟩
 obtain ⟨au1,cu1,rfl,-⟩:=id hst1
 go_wp2_with fail
 refine (HBO.out w1 _ (HBw.out w1 hb1) hst1).mono ?_
 rintro e w2 ⟨u2,S2,rfl,hbk2,hS2,hb2⟩
 have hb02:Bl W0 w2:=hb1.trans (hb2.mono hb1.size)
 clear hst1
 obtain ⟨x2a,x2n,x2c,rfl⟩ : ∃a n c,u2 = .slice a n c:=by
  obtain ⟨A2,vs2,F2,⟨a,c,e,-⟩,-⟩:=id hbk2
  exact ⟨a,A2,c,e⟩
 go_wp2_with fail
 refine (HTD.out rs _ S2 w2 (by omega) hbk2 (fun B hB=>(hS2 B hB).2)).mono ?_
 rintro e w3 ⟨u3,rfl,htd,hb3⟩
 have hb03:Bl W0 w3:=hb02.trans (hb3.mono hb02.size)
 obtain ⟨S3,L3,hL3,hS3,hfl,-⟩:=htd
 have hbk3:Bk w3 (fun B=>S2 B∨S3 B) u3 (tidyB rs):=by rw [<-hfl];exact hL3.bk
 have hS3' : ∀B,(S2 B∨S3 B)->B<w3.heap.size:=fun B hB=>by
  rcases hB with h | h
  ·have:=(hS2 B h).2;have:=hb3.size;omega
  ·exact (hS3 B h).2
 have HLi:=hide fun W (hW:Bl w3 W)=>HLI.out (tidyB rs) u3 _ W (by omega) (hbk3.bel hS3' hW) (fun B hB=>Nat.lt_of_lt_of_le (hS3' B hB) hW.size) HPl.out
 obtain ⟨x3a,x3n,x3c,rfl⟩ : ∃a n c,u3 = .slice a n c:=by
  obtain ⟨A2,vs2,F2,⟨a,c,e,-⟩,-⟩:=id hbk3
  exact ⟨a,A2,c,e⟩
 clear hbk2 hS2 hb2 hb1 hb02 hbk3 hS3' hL3 hS3 hfl hb3 HTD HLI HBO HFB HPl
 have HD:Hid (Bl w3 w3.drew):=(Below.refl _ _).drew
 have hb0d:Bl W0 w3.drew:=hb03.trans (HD.out.mono hb03.size)
 obtain ⟨⟨y0,y1⟩,-⟩:=HY.out _ hb0d
 have HK:Hid (∀(W:World) (x:Nat) (y:Value),(W.cell? ⟨M,0,none⟩=some (.string f.name)/\W.cell? ⟨M,1,none⟩=some (.slice ap f.params.length cp))->(W.setCell ⟨M+1,x,none⟩ y).cell? ⟨M,0,none⟩=some (.string f.name)/\(W.setCell ⟨M+1,x,none⟩ y).cell? ⟨M,1,none⟩=some (.slice ap f.params.length cp)):=fun W x y h=>⟨(World.cell?_of_block (a:=⟨M,0,none⟩) (Below.heap_setCell W ⟨M+1,x,none⟩ y _ (by show M≠M+1;omega))).trans h.1,(World.cell?_of_block (a:=⟨M,1,none⟩) (Below.heap_setCell W ⟨M+1,x,none⟩ y _ (by show M≠M+1;omega))).trans h.2⟩
 have HCl:Hid (Calls Tryz.prog 73 #[.slice ap f.params.length cp] w3.drew fun e w'=>∃a n c,e = .returned (.slice a n c)/\w'.ownsRow w3.heap.size 9 1 (.slice a n c) f.params.length (flatP f.params)/\Bl w3 w'):=by
  refine (HCL.out _ (HBw.out _ hb0d)).mono ?_
  rintro e w' ⟨u,rfl,h1,h2⟩
  obtain ⟨a,n,c,rfl⟩ : ∃a n c,u = .slice a n c:=by
   rcases h1.2 with ⟨rfl,-⟩ | ⟨g,cap,cur,rfl,-⟩ <;> exact ⟨_,_,_,rfl⟩
  exact ⟨a,n,c,rfl,h1,HD.out.trans (h2.mono (Nat.le_refl _))⟩
 have HLi2:Hid (∀W,Bl w3 W->Calls Tryz.prog 74 #[.slice x3a x3n x3c] W fun e w'=>∃a n c,e = .returned (.slice a n c)/\Lst W w' (.slice a n c) (tidyB rs)/\Bl W w'):=fun W hW=>by
  refine (HLi.out W hW).mono ?_
  rintro e w' ⟨u,rfl,h1,h2⟩
  obtain ⟨R,hR,h3⟩:=h1
  obtain ⟨a,c,rfl⟩:=hR.shape
  exact ⟨a,_,c,rfl,⟨R,hR,h3⟩,h2⟩
 have HB3:=hide hb03
 clear HLi hb03 hb0d
 go_upto_region 2 with fail
 go_region_held3 (fun W=>W.cell? ⟨M,0,none⟩=some (.string f.name)/\W.cell? ⟨M,1,none⟩=some (.slice ap f.params.length cp)) (first | go_keep | exact HK.out _ _ _ q | exact HK.out _ _ _ (HK.out _ _ _ q) | exact HK.out _ _ _ (HK.out _ _ _ (HK.out _ _ _ q)))
  (first
  | ((with_reducible refine Calls.mono HCl.out ?_);intro x wt hx;obtain ⟨a4,n4,c4,hxe,ho4,hbt⟩:=hx;subst hxe;have q:=(HY.out wt (HB3.out.trans (hbt.mono HB3.out.size))).1)
  | ((with_reducible refine Calls.mono (HLi2.out wt hbt) ?_);intro x wo hx;obtain ⟨a5,n5,c5,hxe,hl5,hbo0⟩:=hx;subst hxe;have hbo:Bl w3 wo:=hbt.trans (hbo0.mono hbt.size);have q:=(HY.out wo (HB3.out.trans (hbo.mono HB3.out.size))).1;obtain ⟨z0,z1,z2⟩:=(HY.out wo (HB3.out.trans (hbo.mono HB3.out.size))).2.1;have zf:=(HY.out wo (HB3.out.trans (hbo.mono HB3.out.size))).2.2))
 obtain ⟨R,hR,hRm⟩:=hl5
 have hsz:M+2<=w3.heap.size/\w3.heap.size<=wt.heap.size/\wt.heap.size<=wo.heap.size:=⟨by rw [<-hs0];exact HB3.out.size,hbt.size,hbo0.size⟩
 obtain ⟨W',hW'⟩ : ∃W',W'=(((wo.setCell ⟨M+1,0,none⟩ (.string f.name)).setCell ⟨M+1,1,none⟩ (.slice a4 n4 c4)).setCell ⟨M+1,2,none⟩ (.slice a5 n5 c5)):=⟨_,rfl⟩
 have hk : ∀g,g≠M+1->W'.heap[g]? = wo.heap[g]? := fun g hg=>by
  rw [hW',Below.heap_setCell _ _ _ g (by simpa using hg),Below.heap_setCell _ _ _ g (by simpa using hg),Below.heap_setCell _ _ _ g (by simpa using hg)]
 have hsW:wo.heap.size<=W'.heap.size:=by rw [hW'];simp
 have hw:=HMw.out
 have hbf:Bl w W':=by
  have h1:=HBw.out wo (HB3.out.trans (hbo.mono HB3.out.size))
  rw [hW']
  exact ((h1.setCell (p:=⟨M+1,0,none⟩) (by show _<=M+1;omega) _).setCell (p:=⟨M+1,1,none⟩) (by show _<=M+1;omega) _).setCell (p:=⟨M+1,2,none⟩) (by show _<=M+1;omega) _
 have HFn:Hid (FnOne w.heap.size W' (.slice a4 n4 c4) (.slice a5 n5 c5) r R):=by
  refine ⟨?_,?_,by rw [hRm,HS4.out],fun g hg => ?_⟩
  ·rw [HS2.out]
   refine own_base (own_keep (ownB ho4 hbo0) fun g hg=>hk g ?_) (by omega)
   have:=(World.ownsRow.lt ho4 g hg).1
   omega
  ·exact (hR.keepB hsW (fun g h1 h2=>hk g (by omega))).base (by omega)
  ·have h1:=(World.ownsRow.lt ho4 g hg).2
   exact ⟨fun h=>by have:=(hR.rng g h).1;omega,fun h=>by have:=(World.ownsRow.lt hR.row g h).1;omega⟩
 have HBf:=hide hbf
 have HW':=hide hW'
 have t0:W'.cell? ⟨M+1,0,none⟩=some (.string f.name):=by
  rw [hW',World.cell?_setCell_other _ _ _ _ (by simp),World.cell?_setCell_other _ _ _ _ (by simp),World.cell?_setCell_same _ _ _ z0]
 have t1:W'.cell? ⟨M+1,1,none⟩=some (.slice a4 n4 c4):=by
  rw [hW',World.cell?_setCell_other _ _ _ _ (by simp),World.cell?_setCell_same _ _ _ (by rw [World.cell?_setCell_other _ _ _ _ (by simp)];exact z1)]
 have t2:W'.cell? ⟨M+1,2,none⟩=some (.slice a5 n5 c5):=by
  rw [hW',World.cell?_setCell_same _ _ _ (by rw [World.cell?_setCell_other _ _ _ _ (by simp),World.cell?_setCell_other _ _ _ _ (by simp)];exact z2)]
 clear hR hRm ho4 hbo0 hbo hbt hk hsW hbf hW' q
 go_wp2_with fail
 rw [<-HW'.out]
 refine bodyPost_ret (v:=.agg #[.string f.name,.slice a4 n4 c4,.slice a5 n5 c5]) (by simp [results,Tryz.results44,go_sem,t0,t1,t2]) rfl ⟨_,_,R,by rw [HS1.out],HFn.out,HBf.out⟩
end Go.Proofs.YtmddmgpijpjpbaaGreatDoor
