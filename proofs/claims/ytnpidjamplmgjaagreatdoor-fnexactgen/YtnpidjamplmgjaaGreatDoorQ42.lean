import Derived.Test.YtnpidjamplmgjaaGreatDoorQ41
import Derived.Deep.RegionHeld3
set_option linter.unusedSectionVars false
variable [Inhabited Go.Proofs.YtnpidjamplmgjaaGreatDoor.Pick]
namespace Go.Proofs.YtnpidjamplmgjaaGreatDoor
open Go.RowKit
set_option linter.unusedVariables false
set_option linter.unusedSimpArgs false
set_option maxRecDepth 100000
set_option maxHeartbeats 16000000
def fromV (F G R P:Nat):Value:=.func (Fn.func 74) #[] #[.pointer (some ⟨F,0,none⟩),.pointer (some ⟨G,0,none⟩),.pointer (some ⟨R,0,none⟩),.pointer (some ⟨P,0,none⟩)]
def LEnv (t:Tr) (F G R P bm GG cap:Nat) (vs:Nat->Value) (vfr:Value) (w0:World):Prop:=∀w,But bm w0 w ->
 (w.cell? ⟨F,0,none⟩=some (.map (some bm))/\w.cell? ⟨R,0,none⟩=some (fromV F G R P)/\w.cell? ⟨G,0,none⟩=some (.slice (some ⟨GG,0,none⟩) t.funcs.length cap)/\w.cell? ⟨P,0,none⟩=some vfr)/\(∀j,j<t.funcs.length->w.cell? ⟨GG,j,none⟩=some (vs j)/\Ints w (vs j) (callI t.funcs j))/\Ints w vfr (t.funcs.map frameSz)
theorem But.trans {b:Nat} {w w1 w2:World} (h:But b w w1) (h':But b w1 w2):But b w w2:=⟨Nat.le_trans h.1 h'.1,fun B hB hn=>(h'.2 B (Nat.lt_of_lt_of_le hB h.1) hn).trans (h.2 B hB hn)⟩
def FromC (t:Tr) (F G R P bm:Nat) (w0:World) (f:Nat) (s:Int):Prop:=∀(w:World) (ks:List Nat) (D:DataW Unit),But bm w0 w->w.ownsMap Tryz.prog 2 (plainElem (H:=Unit) Tryz.prog 2) bm ks.length D->FndIs t D ks ->
 Calls Tryz.prog 74 #[.int .i64 (f:Int),.pointer (some ⟨F,0,none⟩),.pointer (some ⟨G,0,none⟩),.pointer (some ⟨R,0,none⟩),.pointer (some ⟨P,0,none⟩)] w fun e w'=>e = .returned (.int .i64 s)/\(But bm w w'/\Below bm w w')/\∃ks' D',w'.ownsMap Tryz.prog 2 (plainElem (H:=Unit) Tryz.prog 2) bm ks'.length D'/\FndIs t D' ks'/\∀x∈ks',x∈ks∨x=f∨Rch t f x
theorem callI_cl (t:Tr) (f:Nat):callI t.funcs f=(clF t f).map (fun g:Nat=>(g:Int)):=rfl
theorem map_frame_get {t:Tr} {f:Nat} (h:f<t.funcs.length):(t.funcs.map frameSz)[f]'(by simpa using h)=fszF t f:=by
 unfold fszF
 simp [List.getD,h]
theorem from_step (t:Tr) (F G R P bm GG cap:Nat) (vs:Nat->Value) (vfr:Value) (w0:World) (hE:LEnv t F G R P bm GG cap vs vfr w0) (hfl:t.funcs.length<=50) (hz : ∀f,f<t.funcs.length->0<=fszF t f/\fszF t f<=1000000)
  (n f:Nat) (g:Nat->Int) (hn:n<=1000) (hf:f<t.funcs.length) (hg : ∀c∈clF t f,Dp t n c (g c)) (ih : ∀c∈clF t f,FromC t F G R P bm w0 c (g c)):FromC t F G R P bm w0 f (fszF t f+mxL ((clF t f).map g)):=by
 intro w ks D hBt hown hF
 have HE:=hide hE
 have hdp:Dp t (n+1) f (fszF t f+mxL ((clF t f).map g)):=.mk n f g hf hg
 have HDp:=hide hdp
 have HIh:=hide ih
 have HBt:=hide hBt
 obtain ⟨⟨e1,e2,e3,e4⟩,hG,hI⟩:=hE w hBt
 by_cases hk:f∈ks
 ·have hlook:=look_fnd hown hF o_ hk hdp
  have HR:Hid (∃ks' D',w.ownsMap Tryz.prog 2 (plainElem (H:=Unit) Tryz.prog 2) bm ks'.length D'/\FndIs t D' ks'/\∀x∈ks',x∈ks∨x=f∨Rch t f x):=⟨ks,D,hown,hF,fun x hx=>.inl hx⟩
  generalize fszF t f+mxL ((clF t f).map g)=s at hlook
  clear hown hF hdp HDp hG hI hg ih hE
  go_enter Tryz.func74,Tryz.ntmps74
  go_wp2_with fail
  go_ret
  exact ⟨rfl,⟨But.refl _ _,Below.refl _ _⟩,HR.out⟩
 ·have hlook:=look_new hown hF o_ hk
  have HO:Hid (w.ownsMap Tryz.prog 2 (plainElem (H:=Unit) Tryz.prog 2) bm ks.length D/\FndIs t D ks):=⟨hown,hF⟩
  have HMb:Hid (∀k,0<=mxL (((clF t f).take k).map g)/\mxL (((clF t f).take k).map g)<=1000000*n):=fun k=>mxL_bd _ _ o_ (fun x hx=>by
   obtain ⟨c,hc,rfl⟩:=List.mem_map.1 hx
   exact ((hg c (List.mem_of_mem_take hc)).bd hz).2)
  obtain ⟨hvj,hIj⟩:=hG f hf
  rw [callI_cl] at hIj
  have HZf:Hid (0<=fszF t f/\fszF t f<=1000000):=hz f hf
  obtain ⟨aj,cj,hvs,-⟩:=hIj
  rw [List.length_map] at hvs
  have HVs:=hide hvs
  rw [hvs] at hvj
  have hlen:(clF t f).length<=50:=by have:=callsL_len t.funcs (t.funcs.getD f ⟨⟨#[]⟩,[],[]⟩).body;unfold clF;omega
  clear hown hF hdp hI hg ih hE hG hvs
  go_enter Tryz.func74,Tryz.ntmps74
  go_wp2_with fail
  clear hlook e1 e2 e3 e4 hvj
  go_loopw [9,25] (fun p i wr=>∃(k:Nat) (ks':List Nat) (D':DataW Unit),k<=(clF t f).length/\i = .int .i64 k/\p = .int .i64 (mxL (((clF t f).take k).map g))/\wr.ownsMap Tryz.prog 2 (plainElem (H:=Unit) Tryz.prog 2) bm ks'.length D'/\FndIs t D' ks'/\(∀x∈ks',x∈ks∨Rch t f x)/\But bm w wr/\Below bm w wr) (fun _ i _=>(clF t f).length-(RowKit.intOf i).toNat)
  case atStart=>exact ⟨0,ks,D,Nat.zero_le _,rfl,rfl,HO.out.1,HO.out.2,fun x hx=>.inl hx,But.refl _ _,Below.refl _ _⟩
  case round=>
   obtain ⟨k,ks',D',hkl,rfl,rfl,hown,hF,hsub,hBw,hBl⟩:=hrel
   have hBt0:But bm w0 wr:=HBt.out.trans hBw
   obtain ⟨⟨e1,e2,e3,e4⟩,hG,hI⟩:=HE.out wr hBt0
   obtain ⟨-,hIj⟩:=hG f hf
   rw [callI_cl,HVs.out] at hIj
   obtain ⟨aj',cj',heq,hcj⟩:=hIj
   rw [List.length_map] at heq
   simp only [Value.slice.injEq,true_and] at heq
   obtain ⟨rfl,rfl⟩:=heq
   obtain ⟨hm0,hm1⟩:=HMb.out k
   by_cases hlt:k<(clF t f).length
   ·obtain ⟨b,rfl,hcell⟩:=hcj (by rw [List.length_map];omega)
    have hc:=hcell k (by simpa using hlt)
    rw [List.getElem_map] at hc
    have HC:=hide (HIh.out _ (List.getElem_mem hlt) wr ks' D' hBt0 hown hF)
    have HN:Hid (mxL (((clF t f).take (k+1)).map g)=max (mxL (((clF t f).take k).map g)) (g (clF t f)[k])):=by show _=_;rw [List.take_succ_eq_append_getElem hlt,List.map_append];exact mxL_snoc _ _
    have hcr:CallR t f (clF t f)[k]:=⟨hf,List.getElem_mem hlt⟩
    have HSub:=hide hsub
    clear hcj hcell hG hI hown hF e1 e3 e4 hsub
    generalize (clF t f)[k]=c at hc HC HN hcr
    have HCr:=hide hcr
    clear hcr
    generalize mxL (((clF t f).take k).map g)=p at HN hm0 hm1
    generalize g c=q at HC HN
    unfold fromV at e2
    go_wp2_with fail
    refine HC.out.mono ?_
    rintro e w2 ⟨rfl,⟨hb1,hb2⟩,ks2,D2,ho2,hf2,hs2⟩
    have HR:Hid (w2.ownsMap Tryz.prog 2 (plainElem (H:=Unit) Tryz.prog 2) bm ks2.length D2/\FndIs t D2 ks2/\∀x∈ks2,x∈ks∨Rch t f x):=⟨ho2,hf2,fun x hx=>by
     rcases hs2 x hx with h | rfl | h
     ·exact HSub.out x h
     ·exact .inr (.one HCr.out)
     ·exact .inr ((Rch.one HCr.out).trans h)⟩
    have hbb1:=hBw.trans hb1
    have hbb2:=hBl.trans hb2
    clear ho2 hf2 hs2 hb1 hb2 HC hc e2 hBw hBl hBt0
    go_wp2_with fail
    go_roundw
    case rel=>exact ⟨k+1,ks2,D2,by omega,by go_num,by rw [HN.out],HR.out.1,HR.out.2.1,HR.out.2.2,hbb1,hbb2⟩
    case measure=>simp [RowKit.intOf];omega
   ·obtain rfl:k=(clF t f).length:=by omega
    rw [List.take_length] at hm0 hm1 ⊢
    have hnf:f∉ks':=fun h=>by
     rcases hsub f h with h | h
     ·exact hk h
     ·exact Dp.acyc _ HDp.out h
    have hzf:=HZf.out
    obtain ⟨afr,cfr,hvf,hfc⟩:=hI
    rw [List.length_map] at hvf
    obtain ⟨bf,rfl,hfcell⟩:=hfc (by rw [List.length_map];omega)
    have hfv:=hfcell f (by simpa using hf)
    rw [map_frame_get hf] at hfv
    rw [hvf] at e4
    have hksl:=hF.len
    obtain ⟨p,hp⟩ : ∃p,p=mxL ((clF t f).map g):=⟨_,rfl⟩
    obtain ⟨z,hz⟩ : ∃z,z=fszF t f:=⟨_,rfl⟩
    have HZp:Hid (z+p=fszF t f+mxL ((clF t f).map g)):=by show _=_;rw [hz,hp]
    rw [<-hp] at hm0 hm1 HDp ⊢
    rw [<-hz] at hfv hzf HDp
    have hbd : -9223372036854775808<=z+p/\z+p<=9223372036854775807:=by omega
    have hOd:wr.drew.ownsMap Tryz.prog 2 (plainElem (H:=Unit) Tryz.prog 2) bm ks'.length D':=hown
    have hkey:=Maps.keyOf_int_mk (P:=Tryz.prog) Tryz.underlying2 (WalkArith.wf_i64 (n:=(f:Int)) o_)
    obtain ⟨w5,hrun,hown5,hgrow5⟩:=hOd.update (Maps.int_keyed Tryz.underlying2) Tryz.underlying129 (by unfold maxLen;omega) hkey (plainElem_int (H:=Unit) Tryz.underlying2 (a:=z+p) (WalkArith.wf_i64 hbd))
    have hB5:But bm w0 w5:=hBt0.grown hgrow5
    have hBw5:But bm w w5:=hBw.grown hgrow5
    have hBl5:Below bm w w5:=hBl.drew.grown hgrow5 (Nat.le_of_lt hOd.lt) (fun j hj=>by cases hj;exact Nat.le_refl _)
    obtain ⟨⟨e1',-,-,-⟩,-⟩:=HE.out w5 hB5
    obtain ⟨c,hrun2,hat,-⟩:=hown5.lookup_int (key:=.int .i64 (f:Int)) (Maps.int_keyed Tryz.underlying2) Tryz.underlying129 Tryz.underlying2 (Tryz.zeroValue2 _) hkey
    have hF5:FndIs t (D'.put (.int .i64 (f:Int)) (.lit (.int .i64 (z+p)))) (ks'++[f]):=hF.put HDp.out hnf
    have hcz:c=z+p:=by
     rw [Maps.atKey_put_same (k:=.int .i64 (f:Int)) hF.map trivial] at hat
     simp only [DataW.lit.injEq,Lit.int.injEq,true_and] at hat
     exact hat.symm
    subst hcz
    have HR:Hid (∃ks' D',w5.ownsMap Tryz.prog 2 (plainElem (H:=Unit) Tryz.prog 2) bm ks'.length D'/\FndIs t D' ks'/\∀x∈ks',x∈ks∨x=f∨Rch t f x):=⟨ks'++[f],_,by rw [l_a];exact hown5,hF5,fun x hx=>by
     rcases List.mem_append.1 hx with h | h
     ·rcases hsub x h with h | h
      ·exact .inl h
      ·exact .inr (.inr h)
     ·exact .inr (.inl (by simpa using h))⟩
    have k1:IntKind.i64.wrap (z+p)=z+p:=by simp [IntKind.wrap,IntKind.bits,IntKind.signed];omega
    have d1:wr.drew.cell? ⟨F,0,none⟩=some (.map (some bm)):=e1
    have d4:wr.drew.cell? ⟨P,0,none⟩=some (.slice (some ⟨bf,0,none⟩) t.funcs.length cfr):=e4
    have d5:wr.drew.cell? ⟨bf,f,none⟩=some (.int .i64 z):=hfv
    clear hown hF hG hcj hfc hfcell hvf hOd hown5 hgrow5 hat hF5 hnf hsub e2 e3 HDp hkey hB5 hp hz
    go_wp2_with fail
    go_region
    go_wp2_with fail
    go_ret
    exact ⟨ret_val (by rw [<-HZp.out];rfl),⟨hBw5,hBl5⟩,HR.out⟩
theorem fromL_any (t:Tr) (F G R P bm GG cap:Nat) (vs:Nat->Value) (vfr:Value) (w0:World) (hE:LEnv t F G R P bm GG cap vs vfr w0) (hfl:t.funcs.length<=50) (hz : ∀f,f<t.funcs.length->0<=fszF t f/\fszF t f<=1000000) {n f:Nat} {s:Int} (h:Dp t n f s):n<=1000->FromC t F G R P bm w0 f s:=by
 induction h using Dp_i with
 | mk n f g hf hg ih=>exact fun hn=>from_step t F G R P bm GG cap vs vfr w0 hE hfl hz n f g o_ hf hg (fun c hc=>ih c hc o_)
theorem Ints.still {w w':World} {v:Value} {l:List Int} (h:Ints w v l) (hb : ∀b,b<w.heap.size->w'.heap[b]? = w.heap[b]?):Ints w' v l:=by
 obtain ⟨a,cap,rfl,h⟩:=h
 refine ⟨a,cap,rfl,fun h0 => ?_⟩
 obtain ⟨b,rfl,hc⟩:=h h0
 exact ⟨b,rfl,fun j hj=>(World.cell?_of_block (a:=⟨b,j,none⟩) (hb b (World.block_lt_of_cell? _ _ (hc j hj)))).trans (hc j hj)⟩
theorem above_any (v:Value) (l:List Int) (w:World) (hl:l.length<=1000) (h:Ints w v l) :
  Calls Tryz.prog 44 #[v] w fun e w'=>(∃r,e = .returned (.int .i64 r)/\((r = -1/\∀x∈l,x<=2032)∨(0<=r/\∃x∈l,2032<x)))/\Below w.heap.size w w':=by
 obtain ⟨a,c,rfl,hc⟩:=h
 have HC:=hide hc
 clear hc
 go_enter Tryz.func44,Tryz.ntmps44
 go_wp2_with fail
 go_loopw [7] (fun i wr=>∃k:Nat,k<=l.length/\i = .int .i64 k/\(∀j (h:j<l.length),j<k->l[j]<=2032)/\wr=w) (fun i _=>l.length-(RowKit.intOf i).toNat)
 case atStart=>exact ⟨0,Nat.zero_le _,rfl,fun j _ h=>absurd h (Nat.not_lt_zero _),rfl⟩
 case round=>
  obtain ⟨k,hk,rfl,hall,rfl⟩:=hrel
  have HAll:=hide hall
  clear hall
  by_cases hlt:k<l.length
  ·obtain ⟨b,rfl,hcell⟩:=HC.out o_
   have d0:=hcell k hlt
   have HM:Hid (l[k]∈l):=List.getElem_mem hlt
   have HK:Hid (l[k]<=2032->∀j (h:j<l.length),j<k+1->l[j]<=2032):=fun h j hj hjk=>by
    by_cases e:j=k
    ·subst e;exact h
    ·exact HAll.out j hj o_
   clear hcell HC
   generalize l[k]=z at d0 HM HK
   by_cases hz:2032<z
   ·go_wp2_with fail
    go_ret
    exact ⟨⟨_,rfl,.inr ⟨by omega,z,HM.out,hz⟩⟩,Below.refl _ _⟩
   ·go_wp2_with fail
    go_roundw
    case rel=>exact ⟨k+1,by omega,by go_num,HK.out o_,trivial⟩
    case measure=>simp [RowKit.intOf];omega
  ·obtain rfl:k=l.length:=by omega
   go_wp2_with fail
   go_ret
   exact ⟨⟨_,rfl,.inl ⟨rfl,fun x hx=>by obtain ⟨j,hj,rfl⟩:=List.getElem_of_mem hx;exact HAll.out j hj hj⟩⟩,Below.refl _ _⟩
def lsW (t:Tr) (w:World) (GG cap:Nat) (vfr:Value) (t1 t2 t3 t4:TypeId):World:=
 ((((w.alloc (.cells #[.slice (some ⟨GG,0,none⟩) t.funcs.length cap] t1)).alloc (.cells #[vfr] t2)).alloc (.map #[] 0)).alloc (.cells #[.map (some (w.heap.size+1+1))] t3)).alloc (.cells #[fromV (w.heap.size+1+1+1) w.heap.size (w.heap.size+1+1+1+1) (w.heap.size+1)] t4)
theorem lsW_is (t:Tr) (w:World) (GG cap:Nat) (vs:Nat->Value) (vfr:Value) (t1 t2 t3 t4:TypeId) (hG : ∀j,j<t.funcs.length->w.cell? ⟨GG,j,none⟩=some (vs j)/\Ints w (vs j) (callI t.funcs j)) (hI:Ints w vfr (t.funcs.map frameSz)) :
  LEnv t (w.heap.size+1+1+1) w.heap.size (w.heap.size+1+1+1+1) (w.heap.size+1) (w.heap.size+1+1) GG cap vs vfr (lsW t w GG cap vfr t1 t2 t3 t4)/\(lsW t w GG cap vfr t1 t2 t3 t4).ownsMap Tryz.prog 2 (plainElem (H:=Unit) Tryz.prog 2) (w.heap.size+1+1) 0 (.map [])/\Below w.heap.size w (lsW t w GG cap vfr t1 t2 t3 t4):=by
 obtain ⟨W,hW⟩ : ∃W,W=lsW t w GG cap vfr t1 t2 t3 t4:=⟨_,rfl⟩
 rw [<-hW]
 have hs:W.heap.size=w.heap.size+5:=by rw [hW];simp [lsW]
 have hB:Bl w W:=by
  rw [hW]
  exact ((((bel_a _ _).alloc (by simp) _).alloc (by simp;omega) _).alloc (by simp;omega) _).alloc (by simp;omega) _
 have z0:W.cell? ⟨w.heap.size,0,none⟩=some (.slice (some ⟨GG,0,none⟩) t.funcs.length cap):=by rw [hW,lsW,World.cell?_alloc_past _ _ _ (by simp only [World.size_alloc];omega),World.cell?_alloc_past _ _ _ (by simp only [World.size_alloc];omega),World.cell?_alloc_past _ _ _ (by simp only [World.size_alloc];omega),World.cell?_alloc_past _ _ _ (by simp only [World.size_alloc];omega),World.cell?_alloc_at _ _ _ _ rfl];rfl
 have z1:W.cell? ⟨w.heap.size+1,0,none⟩=some vfr:=by rw [hW,lsW,World.cell?_alloc_past _ _ _ (by simp only [World.size_alloc];omega),World.cell?_alloc_past _ _ _ (by simp only [World.size_alloc];omega),World.cell?_alloc_past _ _ _ (by simp only [World.size_alloc];omega),World.cell?_alloc_at _ _ _ _ (by simp only [World.size_alloc])];rfl
 have z3:W.cell? ⟨w.heap.size+1+1+1,0,none⟩=some (.map (some (w.heap.size+1+1))):=by rw [hW,lsW,World.cell?_alloc_past _ _ _ (by simp only [World.size_alloc];omega),World.cell?_alloc_at _ _ _ _ (by simp only [World.size_alloc])];rfl
 have z4:W.cell? ⟨w.heap.size+1+1+1+1,0,none⟩=some (fromV (w.heap.size+1+1+1) w.heap.size (w.heap.size+1+1+1+1) (w.heap.size+1)):=by rw [hW,lsW,World.cell?_alloc_at _ _ _ _ (by simp only [World.size_alloc])];rfl
 refine ⟨fun V hV => ?_,?_,hB⟩
 ·have hst : ∀b,b<w.heap.size->V.heap[b]? = w.heap[b]? := fun b hb=>(hV.2 b o_ o_).trans (hB.block b hb)
  refine ⟨⟨(hV.cell (p:=⟨w.heap.size+1+1+1,0,none⟩) (by simp;omega) (by simp)).trans z3,(hV.cell (p:=⟨w.heap.size+1+1+1+1,0,none⟩) (by simp;omega) (by simp;omega)).trans z4,(hV.cell (p:=⟨w.heap.size,0,none⟩) (by simp;omega) (by simp;omega)).trans z0,(hV.cell (p:=⟨w.heap.size+1,0,none⟩) (by simp;omega) (by simp)).trans z1⟩,fun j hj => ?_,hI.still hst⟩
  obtain ⟨h1,h2⟩:=hG j hj
  exact ⟨(World.cell?_of_block (a:=⟨GG,j,none⟩) (hst GG (World.block_lt_of_cell? _ _ h1))).trans h1,h2.still hst⟩
 ·rw [hW,lsW]
  have:=World.ownsMap_made ((w.alloc (.cells #[.slice (some ⟨GG,0,none⟩) t.funcs.length cap] t1)).alloc (.cells #[vfr] t2)) Tryz.prog 2 (plainElem (H:=Unit) Tryz.prog 2)
  simp only [World.size_alloc] at this
  exact (this.alloc _).alloc _
theorem largest_any (t:Tr) (vgr vfr:Value) (w:World) (hG:Graph w vgr t.funcs) (hI:Ints w vfr (t.funcs.map frameSz)) :
  Calls Tryz.prog 45 #[vgr,vfr] w fun e w'=>∃F G R P bm GG cap vs,e = .returned (fromV F G R P)/\LEnv t F G R P bm GG cap vs vfr w'/\w'.ownsMap Tryz.prog 2 (plainElem (H:=Unit) Tryz.prog 2) bm 0 (.map [])/\w.heap.size<=bm/\Below w.heap.size w w':=by
 obtain ⟨GG,cap,rfl,hg⟩:=hG
 have hmm := @run_makeMap Tryz.prog
 have hmf : ∀(fn:Fn) (first cap:Array Value) (w:World),(Instr.makeFunc fn first cap).run Tryz.prog w = .ok (.func fn first cap) w:=fun _ _ _ _=>rfl
 have hch : ∃vs:Nat->Value,∀j,j<t.funcs.length->w.cell? ⟨GG,j,none⟩=some (vs j)/\Ints w (vs j) (callI t.funcs j):=by
  have h0 : ∀j,∃v,j<t.funcs.length->w.cell? ⟨GG,j,none⟩=some v/\Ints w v (callI t.funcs j):=fun j=>by
   by_cases hj:j<t.funcs.length
   ·obtain ⟨v,hv⟩:=hg j hj
    exact ⟨v,fun _=>hv⟩
   ·exact ⟨.nilFunc,fun h=>absurd h hj⟩
  exact ⟨fun j=>(h0 j).choose,fun j hj=>(h0 j).choose_spec hj⟩
 obtain ⟨vs,hvs⟩:=hch
 have HL:=fun t1 t2 t3 t4=>lsW_is t w GG cap vs vfr t1 t2 t3 t4 hvs hI
 obtain ⟨af,cf,hvf,-⟩:=hI
 rw [List.length_map] at hvf
 subst hvf
 have HL2:=hide HL
 go_enter Tryz.func45,Tryz.ntmps45
 go_wp2_with fail
 refine bodyPost_ret (v:=fromV (w.heap.size+1+1+1) w.heap.size (w.heap.size+1+1+1+1) (w.heap.size+1)) (by simp [results,Tryz.results45,go_sem,fromV]) rfl ⟨_,_,_,_,_,GG,cap,vs,rfl,(HL2.out _ _ _ _).1,(HL2.out _ _ _ _).2.1,by omega,(HL2.out _ _ _ _).2.2⟩
theorem boundE_no {t:Tr} (h:(checkE t).1≠0):boundE t = -1:=by unfold boundE;rw [if_neg (fun h'=>h h'.1)]
theorem boundE_big {t:Tr} (h : ∃x∈framesL t,2032<x):boundE t = -1:=by
 obtain ⟨x,hx,hb⟩:=h
 unfold boundE
 rw [if_neg (fun h'=>by have:=h'.2 x hx;omega)]
theorem boundE_yes {t:Tr} (h:(checkE t).1=0) (hb : ∀x∈framesL t,x<=2032) {m:Nat} (hm:fnum t.funcs mainS=some m):boundE t=deepE t m:=by
 unfold boundE
 rw [if_pos ⟨h,hb⟩,hm]
 rfl
theorem look_main {W:World} {b nn:Nat} {D:DataW Unit} {fs:List Fu} (hown:W.ownsMap Tryz.prog 9 (plainElem (H:=Unit) Tryz.prog 2) b nn D) (hN:NumIs D fs) {g:Nat} (h:fnum fs mainS=some g) :
  (Instr.lookup 52 (.map (some b)) (.string ⟨#[109,97,105,110]⟩) false).run Tryz.prog W = .ok (.int .i64 (g:Int)) W:=by
 have hs:mainS.size<=maxLen:=by unfold maxLen;decide
 obtain ⟨c,hrun,hat,-⟩:=hown.lookup_int (key:=.string mainS) (Maps.string_keyed Tryz.underlying9) Tryz.underlying52 Tryz.underlying2 (Tryz.zeroValue2 _) (WideMaps.keyOf_string_mk Tryz.underlying9 hs)
 rw [hN.val mainS g h] at hat
 simp only [DataW.lit.injEq,Lit.int.injEq,true_and] at hat
 rw [<-hat] at hrun
 exact hrun
theorem boundI_any (t:Tr) (vg vf:Value) (w:World) (hT:Tab w) (hs:smallT t) (hw:wfT t) (hg:Globs w vg t.globals) (hf:Funcs w vf t.funcs) :
  Calls Tryz.prog 22 #[.agg #[vg,vf]] w fun e w'=>e = .returned (.int .i64 (boundE t))/\Below w.heap.size w w':=by
 have HFr:=hide fun W (hW:Bl w W)=>framesI_any t vg vf W (hT.below hT.size hW) hs hw (hg.below hW) (hf.below hW)
 have HS:Hid (smallT t):=hs
 have HW:Hid (wfT t):=hw
 have HF:Hid (Funcs w vf t.funcs):=hf
 have hlen:=framesL_len t
 have hsl:=hs.2.1
 obtain ⟨ag,cg,rfl,-⟩:=hg
 obtain ⟨af,cf,rfl,-⟩:=hf
 have hA:Bl w (w.alloc (.cells #[.slice ag t.globals.length cg,.slice af t.funcs.length cf] 32)):=bel_a _ _
 clear hs hw hT
 obtain ⟨RES,hRES⟩ : ∃R,R=boundE t:=⟨_,rfl⟩
 rw [<-hRES]
 have HRES:=hide hRES
 clear hRES
 go_enter Tryz.func22,Tryz.ntmps22
 go_wp2_with fail
 refine (HFr.out _ hA).mono ?_
 rintro e w1 ⟨v1,rfl,hr1,hb1⟩
 simp only [World.size_alloc] at hb1
 have hB1:=one_below hb1
 have HI:Hid (Ints w1 v1 (framesL t)):=own_ints hr1
 obtain ⟨a1,c1,rfl⟩:=hr1.shape
 clear hr1 HFr hA
 by_cases h0:(framesL t).length=0
 ·have HB:Hid (RES = -1):=by
   show _=_
   rw [HRES.out]
   by_cases hc:(checkE t).1=0
   ·obtain ⟨m,hm,hl,-⟩:=sound_main hc
    rw [framesL_yes hc,List.length_map] at h0
    omega
   ·exact boundE_no hc
  rw [h0]
  clear HI
  go_wp2_with fail
  go_ret
  exact ⟨ret_val (by rw [HB.out];rfl),hB1⟩
 have hpos:0<(framesL t).length:=by omega
 have hc:(checkE t).1=0:=by
  by_cases hc:(checkE t).1=0
  ·exact hc
  ·rw [framesL_no hc] at hpos;simp at hpos
 have HC:=hide hc
 obtain ⟨hfl,hfo⟩:=frOk hc HW.out
 obtain ⟨m,hm,hml,hac⟩:=sound_main hc
 have HM:=hide hm
 have HFy:Hid (framesL t=t.funcs.map frameSz):=framesL_yes hc
 have HZ:Hid (∀f,f<t.funcs.length->0<=fszF t f/\fszF t f<=1000000):=fun f hf=>by
  unfold fszF
  have e:t.funcs.getD f ⟨⟨#[]⟩,[],[]⟩=t.funcs[f]:=by simp [List.getD,hf]
  rw [e]
  exact frameSz_bd (hfo _ (List.getElem_mem hf))
 obtain ⟨s,hds⟩:=sound_dp hc hm hml hac
 have HDs:=hide hds
 obtain ⟨x0,x1⟩:=box2 hb1
 have hlw:w.heap.size<w1.heap.size:=World.block_lt_of_cell? _ _ x0
 have HAb:=hide (above_any _ _ w1 o_ HI.out)
 have hne:(((framesL t).length:Int) == 0)=false:=by simp;intro h;rw [h] at hpos;simp at hpos
 clear h0 hc hfo hac hm hds
 have hll:(framesL t).length=t.funcs.length:=by rw [HFy.out,List.length_map]
 generalize hFN:(framesL t).length=n1 at HAb hne hll hpos ⊢
 have HLl:=hide hll
 have HFN:=hide hFN
 obtain ⟨n2,hn2⟩ : ∃n2:Nat,n1=n2+1:=⟨n1-1,by omega⟩
 subst hn2
 have hne2:((n2:Int)+1 == 0)=false:=by simp;omega
 clear hll hFN hlen
 go_wp2_with fail
 refine HAb.out.mono ?_
 rintro e w2 ⟨⟨r,rfl,hr⟩,hb2⟩
 have hB2:=hB1.trans (hb2.mono hB1.size)
 have HI2:Hid (Ints w2 (.slice a1 (n2+1) c1) (t.funcs.map frameSz)):=by
  have:=HI.out.below hb2
  rw [HFN.out,HFy.out] at this
  exact this
 have y0:=(hb2.cell (p:=⟨w.heap.size,0,none⟩) hlw).trans x0
 have y1:=(hb2.cell (p:=⟨w.heap.size,1,none⟩) hlw).trans x1
 have hlw2:w.heap.size<w2.heap.size:=World.block_lt_of_cell? _ _ y0
 clear HAb x0 x1 hb2 HI
 rcases hr with ⟨rfl,hall⟩ | ⟨hr0,hbig⟩
 ·have HB:Hid (RES=s):=by
   show _=_
   rw [HRES.out,boundE_yes HC.out hall HM.out]
   exact HDs.out.deep
  have HGr:Hid (Calls Tryz.prog 46 #[.agg #[.slice ag t.globals.length cg,.slice af t.funcs.length cf]] w2 fun e w'=>∃v,e = .returned v/\Graph w' v t.funcs/\Bl w2 w'):=graph_any t.funcs _ _ w2 o_ ⟨_,_,_,rfl⟩ HW.out.2 HS.out.2.2 (HF.out.below hB2)
  clear hall
  go_wp2_with fail
  refine HGr.out.mono ?_
  rintro e w3 ⟨vgr,rfl,hgr,hb3⟩
  have hB3:=hB2.trans (hb3.mono hB2.size)
  have HLs:=hide (largest_any t vgr _ w3 hgr (HI2.out.below hb3))
  have z0:=(hb3.cell (p:=⟨w.heap.size,0,none⟩) hlw2).trans y0
  have z1:=(hb3.cell (p:=⟨w.heap.size,1,none⟩) hlw2).trans y1
  have hlw3:w.heap.size<w3.heap.size:=World.block_lt_of_cell? _ _ z0
  obtain ⟨GG0,cap0,rfl,-⟩:=hgr
  clear HGr y0 y1 hb3
  go_wp2_with fail
  refine HLs.out.mono ?_
  rintro e w4 ⟨F,G,R,P,bm,GG,cap,vs,rfl,hE,hO,hbm,hb4⟩
  have hB4:=hB3.trans (hb4.mono hB3.size)
  have u0:=(hb4.cell (p:=⟨w.heap.size,0,none⟩) hlw3).trans z0
  have u1:=(hb4.cell (p:=⟨w.heap.size,1,none⟩) hlw3).trans z1
  have HO4:=hide hO
  have HFm:Hid (FromC t F G R P bm w4 m s):=fromL_any t F G R P bm GG cap vs _ w4 hE hfl HZ.out HDs.out o_
  have HFn:Hid (Calls Tryz.prog 24 #[.agg #[.slice ag t.globals.length cg,.slice af t.funcs.length cf]] w4 fun e w'=>∃b D,e = .returned (.map (some b))/\w4.heap.size<=b/\w'.ownsMap Tryz.prog 9 (plainElem (H:=Unit) Tryz.prog 2) b t.funcs.length D/\NumIs D t.funcs/\Bl w4 w'):=fnums_any t.funcs _ _ w4 o_ HW.out.2 (HF.out.below hB4)
  clear hE hO HLs z0 z1 hb4
  unfold fromV
  go_wp2_with fail
  refine HFn.out.mono ?_
  rintro e w5 ⟨bn,D,rfl,hbn,hown,hN,hb5⟩
  have hlook:=look_main hown hN HM.out
  have hB5:=hB4.trans (hb5.mono hB4.size)
  have HFc:=hide (HFm.out w5 [] (.map []) ((But.refl _ _).below hb5) (map_below HO4.out hb5) (FndIs.nil t))
  have hwb:w.heap.size<=bm:=by omega
  clear hown hN hb5 HFn HFm HO4 u0 u1
  go_wp2_with fail
  refine HFc.out.mono ?_
  rintro e w6 ⟨rfl,⟨-,hb6⟩,-⟩
  have hB6:Bl w w6:=hB5.trans (hb6.mono hwb)
  clear HFc hlook hb6
  go_wp2_with fail
  go_ret
  exact ⟨ret_val (by rw [HB.out];rfl),hB6⟩
 ·have HB:Hid (RES = -1):=by
   show _=_
   rw [HRES.out]
   exact boundE_big hbig
  have hr1:(r == -1)=false:=by simp;omega
  clear hbig
  go_wp2_with fail
  go_ret
  exact ⟨ret_val (by rw [HB.out];rfl),hB2⟩
theorem combineImmE (P:Nat) (its:List It) (c:Nat->Value) (op rd s1 im:Int) (w:World) (hO:Em 70 5 8 P w its c) (hl:its.length<=9000000) :
  Calls Tryz.prog 51 #[.pointer (some ⟨P,0,none⟩),.int .i64 op,.int .i64 rd,.int .i64 s1,.int .i64 im] w fun e w'=>(∃u,e = .returned u)/\Em 70 5 8 P w' (its++[insI op rd s1 0 im]) c/\Wq 5 P w w':=by
 have HO:=hide hO
 go_enter Tryz.func51,Tryz.ntmps51
 go_wp2_with fail
 refine (putE_any P its c op rd s1 0 im w HO.out hl).mono ?_
 rintro x w1 ⟨⟨u1,rfl⟩,he,hq⟩
 have HE:=hide he
 have HQ:=hide hq
 go_wp2_with fail
 exact bodyPost_end (v:=.tuple #[]) (by simp [results,Tryz.results51,go_sem]) rfl ⟨⟨_,rfl⟩,HE.out,HQ.out⟩
theorem loadNumberE (P:Nat) (its:List It) (c:Nat->Value) (r v:Int) (w:World) (hO:Em 70 5 8 P w its c) (hl:its.length<=9000000) (hv : -2048<=v/\v<=2047) :
  Calls Tryz.prog 47 #[.pointer (some ⟨P,0,none⟩),.int .i64 r,.int .i64 v] w fun e w'=>(∃u,e = .returned u)/\Em 70 5 8 P w' (its++[insI 12 r 0 0 v]) c/\Wq 5 P w w':=by
 have HO:=hide hO
 obtain ⟨hv1,hv2⟩:=hv
 go_enter Tryz.func47,Tryz.ntmps47
 go_wp2_with fail
 refine (combineImmE P its c 12 r 0 v w HO.out hl).mono ?_
 rintro x w1 ⟨⟨u1,rfl⟩,he,hq⟩
 have HE:=hide he
 have HQ:=hide hq
 go_wp2_with fail
 exact bodyPost_ret (v:=.tuple #[]) (by simp [results,Tryz.results47,go_sem]) rfl ⟨⟨_,rfl⟩,HE.out,HQ.out⟩
theorem systemE (P:Nat) (its:List It) (c:Nat->Value) (v:Int) (w:World) (hO:Em 70 5 8 P w its c) (hl:its.length<=8000000) (hv : -2048<=v/\v<=2047) :
  Calls Tryz.prog 26 #[.pointer (some ⟨P,0,none⟩),.int .i64 v] w fun e w'=>(∃u,e = .returned u)/\Em 70 5 8 P w' (its++[insI 12 17 0 0 v]++[insI 34 0 0 0 0]) c/\Wq 5 P w w':=by
 have HO:=hide hO
 go_enter Tryz.func26,Tryz.ntmps26
 go_wp2_with fail
 refine (loadNumberE P its c 17 v w HO.out o_ hv).mono ?_
 rintro x w1 ⟨⟨u1,rfl⟩,he,hq⟩
 have HE:=hide he
 have HQ:=hide hq
 go_wp2_with fail
 refine (putE_any P (its++[insI 12 17 0 0 v]) c 34 0 0 0 0 w1 HE.out (by simp;omega)).mono ?_
 rintro x w2 ⟨⟨u2,rfl⟩,he2,hq2⟩
 have HE2:=hide he2
 have HQ2:Hid (Wq 5 P w w2):=HQ.out.trans hq2
 go_wp2_with fail
 exact bodyPost_end (v:=.tuple #[]) (by simp [results,Tryz.results26,go_sem]) rfl ⟨⟨_,rfl⟩,HE2.out,HQ2.out⟩
theorem TabG.below {w w':World} (h:TabG w) (hb:Below w.heap.size w w'):TabG w':=
 ⟨fun j hj=>(hb.cell (p:=⟨0,j,none⟩) (World.block_lt_of_cell? _ _ (h.reg j hj))).trans (h.reg j hj),fun j hj=>(hb.cell (p:=⟨3,j,none⟩) (World.block_lt_of_cell? _ _ (h.bin j hj))).trans (h.bin j hj)⟩
theorem MmS.num {P bm:Nat} {t:Tr} {w:World} (h:MmS P bm t w) {s:ByteArray} (hs:s.size<=maxLen) {i:Nat} (hm:fnum t.funcs s=some i) :
  (Instr.lookup 52 (.map (some bm)) (.string s) false).run Tryz.prog w = .ok (.int .i64 (fnumG t.funcs s)) w:=by
 obtain ⟨⟨nn,D,ho,hN⟩,-,-⟩:=h
 obtain ⟨c,hrun,hat,-⟩:=ho.lookup_int (key:=.string s) (Maps.string_keyed Tryz.underlying9) Tryz.underlying52 Tryz.underlying2 (Tryz.zeroValue2 _) (WideMaps.keyOf_string_mk Tryz.underlying9 hs)
 have hv:=hN.val s i hm
 unfold kS at hv
 rw [hv] at hat
 simp only [DataW.lit.injEq,Lit.int.injEq,true_and] at hat
 have e:fnumG t.funcs s=c:=by
  unfold fnumG
  rw [hm]
  exact hat
 rw [e]
 exact hrun
theorem nez (P:Nat) {i j:Nat} (h:i≠j):(⟨P,i,none⟩:Addr)≠⟨P,j,none⟩:=by intro e;simp only [Addr.mk.injEq] at e;exact h e.2.1
theorem box8_set {w W:World} {P:Nat} {a0 a1 a2 a3 a4 a5 a6 a7 u0 u1 u2 u3 u4 u5 u6 u7:Value} (hW:W=((((((((w.setCell ⟨P,0,none⟩ u0).setCell ⟨P,1,none⟩ u1).setCell ⟨P,2,none⟩ u2).setCell ⟨P,3,none⟩ u3).setCell ⟨P,4,none⟩ u4).setCell ⟨P,5,none⟩ u5).setCell ⟨P,6,none⟩ u6).setCell ⟨P,7,none⟩ u7)) (h0:w.cell? ⟨P,0,none⟩=some a0) (h1:w.cell? ⟨P,1,none⟩=some a1) (h2:w.cell? ⟨P,2,none⟩=some a2) (h3:w.cell? ⟨P,3,none⟩=some a3) (h4:w.cell? ⟨P,4,none⟩=some a4) (h5:w.cell? ⟨P,5,none⟩=some a5) (h6:w.cell? ⟨P,6,none⟩=some a6) (h7:w.cell? ⟨P,7,none⟩=some a7) :
  W.cell? ⟨P,0,none⟩=some u0/\W.cell? ⟨P,1,none⟩=some u1/\W.cell? ⟨P,2,none⟩=some u2/\W.cell? ⟨P,3,none⟩=some u3/\W.cell? ⟨P,4,none⟩=some u4/\W.cell? ⟨P,5,none⟩=some u5/\W.cell? ⟨P,6,none⟩=some u6/\W.cell? ⟨P,7,none⟩=some u7:=by
 subst hW
 refine ⟨?_,?_,?_,?_,?_,?_,?_,?_⟩
 ·iterate 7 refine (World.cell?_setCell_other _ _ _ _ (nez P (by decide))).trans ?_
  refine World.cell?_setCell_same _ _ _ (u:=a0) ?_
  exact h0
 ·iterate 6 refine (World.cell?_setCell_other _ _ _ _ (nez P (by decide))).trans ?_
  refine World.cell?_setCell_same _ _ _ (u:=a1) ?_
  iterate 1 refine (World.cell?_setCell_other _ _ _ _ (nez P (by decide))).trans ?_
  exact h1
 ·iterate 5 refine (World.cell?_setCell_other _ _ _ _ (nez P (by decide))).trans ?_
  refine World.cell?_setCell_same _ _ _ (u:=a2) ?_
  iterate 2 refine (World.cell?_setCell_other _ _ _ _ (nez P (by decide))).trans ?_
  exact h2
 ·iterate 4 refine (World.cell?_setCell_other _ _ _ _ (nez P (by decide))).trans ?_
  refine World.cell?_setCell_same _ _ _ (u:=a3) ?_
  iterate 3 refine (World.cell?_setCell_other _ _ _ _ (nez P (by decide))).trans ?_
  exact h3
 ·iterate 3 refine (World.cell?_setCell_other _ _ _ _ (nez P (by decide))).trans ?_
  refine World.cell?_setCell_same _ _ _ (u:=a4) ?_
  iterate 4 refine (World.cell?_setCell_other _ _ _ _ (nez P (by decide))).trans ?_
  exact h4
 ·iterate 2 refine (World.cell?_setCell_other _ _ _ _ (nez P (by decide))).trans ?_
  refine World.cell?_setCell_same _ _ _ (u:=a5) ?_
  iterate 5 refine (World.cell?_setCell_other _ _ _ _ (nez P (by decide))).trans ?_
  exact h5
 ·iterate 1 refine (World.cell?_setCell_other _ _ _ _ (nez P (by decide))).trans ?_
  refine World.cell?_setCell_same _ _ _ (u:=a6) ?_
  iterate 6 refine (World.cell?_setCell_other _ _ _ _ (nez P (by decide))).trans ?_
  exact h6
 ·skip
  refine World.cell?_setCell_same _ _ _ (u:=a7) ?_
  iterate 7 refine (World.cell?_setCell_other _ _ _ _ (nez P (by decide))).trans ?_
  exact h7
theorem chain8_kept {B:Nat} {v w W:World} {P:Nat} {u0 u1 u2 u3 u4 u5 u6 u7:Value} (hW:W=((((((((w.setCell ⟨P,0,none⟩ u0).setCell ⟨P,1,none⟩ u1).setCell ⟨P,2,none⟩ u2).setCell ⟨P,3,none⟩ u3).setCell ⟨P,4,none⟩ u4).setCell ⟨P,5,none⟩ u5).setCell ⟨P,6,none⟩ u6).setCell ⟨P,7,none⟩ u7)):(∀o,W.frozen? ⟨P,o,none⟩=w.frozen? ⟨P,o,none⟩)/\(∀k,k≠P->W.heap[k]? = w.heap[k]?)/\(Below B v w->B<=P->Below B v W):=by
 subst hW
 refine ⟨fun o=>by simp only [World.frozen?_setCell],fun k hk => ?_,fun hb hP => ?_⟩
 ·have e : ∀(W:World) (o:Nat) (u:Value),(W.setCell ⟨P,o,none⟩ u).heap[k]? = W.heap[k]? := fun W o u=>Below.heap_setCell _ _ _ k (fun h=>hk (by simpa using h))
  rw [e,e,e,e,e,e,e,e]
 ·exact (((((((hb.setCell (p:=⟨P,0,none⟩) hP _).setCell (p:=⟨P,1,none⟩) hP _).setCell (p:=⟨P,2,none⟩) hP _).setCell (p:=⟨P,3,none⟩) hP _).setCell (p:=⟨P,4,none⟩) hP _).setCell (p:=⟨P,5,none⟩) hP _).setCell (p:=⟨P,6,none⟩) hP _).setCell (p:=⟨P,7,none⟩) hP _
theorem em_nil {P:Nat} {w:World} {vo vm va:Value} {pl sz l en:Int} (hl:P<w.heap.size) (hf : ∀o,w.frozen? ⟨P,o,none⟩=false) (h0:w.cell? ⟨P,0,none⟩=some vo) (h1:w.cell? ⟨P,1,none⟩=some (.int .i64 pl)) (h2:w.cell? ⟨P,2,none⟩=some (.int .i64 sz)) (h3:w.cell? ⟨P,3,none⟩=some vm) (h4:w.cell? ⟨P,4,none⟩=some va) (h5:w.cell? ⟨P,5,none⟩=some (.slice none 0 0)) (h6:w.cell? ⟨P,6,none⟩=some (.int .i64 l)) (h7:w.cell? ⟨P,7,none⟩=some (.int .i64 en)) :
  Em 70 5 8 P w [] (cI vo pl sz vm va l en):=by
 refine ⟨hl,hf,⟨.slice none 0 0,h5,World.ownsRow_nil _ _ _ _⟩,fun o ho hq => ?_⟩
 have:o=0∨o=1∨o=2∨o=3∨o=4∨o=6∨o=7:=by omega
 rcases this with rfl | rfl | rfl | rfl | rfl | rfl | rfl
 ·exact h0
 ·exact h1
 ·exact h2
 ·exact h3
 ·exact h4
 ·exact h6
 ·exact h7
theorem mms_of {P bm:Nat} {t:Tr} {w w':World} {nn:Nat} {D:DataW Unit} (ho:w.ownsMap Tryz.prog 9 (plainElem (H:=Unit) Tryz.prog 2) bm nn D) (hN:NumIs D t.funcs) (hne:bm≠P) (hk:w'.heap[bm]? = w.heap[bm]?) (h5:w'.cell? ⟨P,5,none⟩=some (.slice none 0 0)):MmS P bm t w':=by
 refine ⟨⟨nn,D,own_blk ho hk,hN⟩,hne,?_⟩
 unfold rbq
 rw [h5]
 simp [Value.ownBlock]
end Go.Proofs.YtnpidjamplmgjaaGreatDoor
