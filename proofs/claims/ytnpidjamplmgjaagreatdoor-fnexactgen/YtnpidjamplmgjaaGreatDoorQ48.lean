import Derived.Test.YtnpidjamplmgjaaGreatDoorQ47
set_option linter.unusedSectionVars false
variable [Inhabited Go.Proofs.YtnpidjamplmgjaaGreatDoor.Pick]
namespace Go.Proofs.YtnpidjamplmgjaaGreatDoor
open Go.RowKit
set_option linter.unusedVariables false
set_option linter.unusedSimpArgs false
set_option maxRecDepth 100000
set_option maxHeartbeats 16000000
def Keep (B:Nat) (w w':World):Prop:=∀k,B<=k->k<w.heap.size->w'.heap[k]? = w.heap[k]?
theorem Keep.of_below {B:Nat} {w w':World} (h:Below w.heap.size w w'):Keep B w w':=fun k _ hk=>h.block k hk
theorem setMany_heap (us:List Value) : ∀(w:World) (g i k:Nat),k≠g->(setMany w g i us).heap[k]? = w.heap[k]? := by
 induction us with
 | nil=>intro w g i k h;rfl
 | cons u r ih=>
  intro w g i k h
  simp only [setMany]
  rw [ih _ _ _ _ h]
  exact Below.heap_setCell w ⟨g,i,none⟩ u k h
theorem Keep.of_set {B:Nat} {w:World} {g i:Nat} {us:List Value} (h:g<B):Keep B w (setMany w g i us):=fun k hk _=>setMany_heap us w g i k o_
theorem Keep.trans {B:Nat} {w1 w2 w3:World} (h:Keep B w1 w2) (hs:w1.heap.size<=w2.heap.size) (k:Keep B w2 w3):Keep B w1 w3:=fun i hi hl=>(k i hi o_).trans (h i hi hl)
theorem owns_keep {w w':World} {base e size n cap g:Nat} {xs:List Value} (h:w.ownsRow base e size (.slice (some ⟨g,0,none⟩) n cap) n xs) (hb:Keep base w w'):w'.ownsRow base e size (.slice (some ⟨g,0,none⟩) n cap) n xs:=by
 refine ⟨h.1,?_⟩
 rcases h.2 with hn | ⟨g',cap',cur,he,hB,hg,rest⟩
 ·exact .inl hn
 ·refine .inr ⟨g',cap',cur,he,hB,?_,rest⟩
  rw [hb g' hB (Array.getElem?_eq_some_iff.1 hg).1]
  exact hg
theorem owns_mono {w:World} {base base' e size n cap g:Nat} {xs:List Value} (h:w.ownsRow base e size (.slice (some ⟨g,0,none⟩) n cap) n xs) (hb:base'<=base):w.ownsRow base' e size (.slice (some ⟨g,0,none⟩) n cap) n xs:=by
 refine ⟨h.1,?_⟩
 rcases h.2 with hn | ⟨g',cap',cur,he,hB,rest⟩
 ·exact .inl hn
 ·exact .inr ⟨g',cap',cur,he,by omega,rest⟩
theorem NodesO.keep {B:Nat} {w w':World} {v:Value} {ns:List Nd} (h:NodesO B w v ns) (hb:Keep B w w'):NodesO B w' v ns:=by
 obtain ⟨g,xs,rfl,ho,hx⟩:=h
 exact ⟨g,xs,rfl,owns_keep ho hb,hx⟩
theorem NodesO.mono {B B':Nat} {w:World} {v:Value} {ns:List Nd} (h:NodesO B w v ns) (hb:B'<=B):NodesO B' w v ns:=by
 obtain ⟨g,xs,rfl,ho,hx⟩:=h
 exact ⟨g,xs,rfl,owns_mono ho hb,hx⟩
def encP (s:ByteArray):List Value:=[.string s]
def StrsO (B:Nat) (w:World) (v:Value) (ns:List ByteArray):Prop:=∃g xs,v = .slice (some ⟨g,0,none⟩) ns.length ns.length/\w.ownsRow B 9 1 v ns.length xs/\RowIs (fun j=>encP (ns.getD j ⟨#[]⟩)) 1 ns.length xs
theorem StrsO.strs {B:Nat} {w:World} {v:Value} {ns:List ByteArray} (h:StrsO B w v ns) (hm:ns.length<=9223372036854775807):Strs w v ns:=by
 obtain ⟨g,xs,rfl,ho,hx⟩:=h
 refine ⟨_,_,rfl,Nat.le_refl _,hm,fun h0=>⟨g,0,rfl,fun j hj => ?_⟩⟩
 have hl:=ho.1
 have hk:=hx j hj 0 o_
 rw [Nat.zero_add,ho.cellAt j o_]
 rw [show j*1+0=j by omega] at hk
 rw [hk]
 simp [encP,List.getD,hj]
theorem StrsO.keep {B:Nat} {w w':World} {v:Value} {ns:List ByteArray} (h:StrsO B w v ns) (hb:Keep B w w'):StrsO B w' v ns:=by
 obtain ⟨g,xs,rfl,ho,hx⟩:=h
 exact ⟨g,xs,rfl,owns_keep ho hb,hx⟩
theorem StrsO.mono {B B':Nat} {w:World} {v:Value} {ns:List ByteArray} (h:StrsO B w v ns) (hb:B'<=B):StrsO B' w v ns:=by
 obtain ⟨g,xs,rfl,ho,hx⟩:=h
 exact ⟨g,xs,rfl,owns_mono ho hb,hx⟩
theorem inf_str:(Tryz.prog.info? 9).map (fun i=>(i.zero,i.size,i.bytes))=some (some (.string ⟨#[]⟩),1,16):=by kernel_rfl
theorem toStrs_any (v:Value) (ns:List ByteArray) (w:World) (hl:ns.length<=1048576) (hc:Strs w v ns) :
  Calls Tryz.prog 71 #[v] w fun e w'=>∃v',e = .returned v'/\StrsO w.heap.size w' v' ns/\Below w.heap.size w w':=by
 obtain ⟨a,cap,rfl,hcl,hcm,hc⟩:=hc
 have HC:=hide hc
 clear hc
 obtain ⟨i0,hi,hz0,hz1,hz2⟩:=info_parts inf_str
 go_enter Tryz.func71,Tryz.ntmps71
 go_wp2_with (at_make;refine wpList_make_full _ rfl _ _ 43 rfl w.heap.size 9 i0 (.string ⟨#[]⟩) 1 Tryz.underlying43 hi hz0 hz1 _ _ _ _ ns.length rfl rfl o_ o_ ?_ ?_ (Nat.le_refl _) ?_)
 ·rw [hz2];omega
 ·unfold maxLen;omega
 intro w1 hown1 hgrow1
 have hnx1:Bl w w1:=(Below.refl _ _).grown hgrow1 (Nat.le_refl _) (by simp)
 go_wp2_with fail
 go_loopw [4] (fun i wr=>∃(k:Nat) (xs:List Value),k<=ns.length/\i = .int .i64 k/\wr.ownsRow w.heap.size 9 1 (.slice (some ⟨w.heap.size,0,none⟩) ns.length ns.length) ns.length xs/\RowIs (fun j=>encP (ns.getD j ⟨#[]⟩)) 1 k xs/\Bl w wr)
  (fun i _=>ns.length-(RowKit.intOf i).toNat)
 case atStart=>exact ⟨0,_,Nat.zero_le _,rfl,hown1,RowIs.zero _ _ _,hnx1⟩
 case round=>
  obtain ⟨k,xs,hk,rfl,hown,hxs,hB⟩:=hrel
  clear hown1 hgrow1 hnx1
  have HX:=hide hxs
  clear hxs
  by_cases hlt:k<ns.length
  ·obtain ⟨b,off,rfl,hc⟩:=HC.out o_
   have d0:=(hc.below hB) k hlt
   have HN:Hid (encP (ns.getD k ⟨#[]⟩)=encP ns[k]):=by show _=_;simp [List.getD,hlt]
   clear hc
   generalize ns[k]=n at d0 HN
   obtain ⟨⟨y0,o0⟩,f0⟩:=own_old hown k o_
   have HR:=hide (owns_put (encP n) wr xs (k*1) hown)
   have HL:Hid (xs.length=ns.length*1):=hown.1
   have HB3:=hide (below_put (Nat.le_refl _) (encP n) wr (k*1) hB)
   rw [Nat.mul_one] at HR HB3
   clear hown
   go_wp2_with fail
   go_roundw
   case rel=>exact ⟨k+1,_,by omega,by go_num,HR.out,by have h:=HX.out.step (fun _ _=>rfl) HN.out rfl (by have:=HL.out;omega);rw [Nat.mul_one] at h;exact h,HB3.out⟩
   case measure=>simp [RowKit.intOf];omega
  ·have HO:=hide hown
   clear hown
   have HK:Hid (k=ns.length):=by show _=_;omega
   go_wp2_with fail
   go_ret
   exact ⟨_,rfl,⟨w.heap.size,xs,rfl,HO.out,by rw [<-HK.out];exact HX.out⟩,hB⟩
def encG (g:Gl):List Value:=[.string g.name,.int .i64 g.size]
def GlobsO (B:Nat) (w:World) (v:Value) (ns:List Gl):Prop:=∃g xs,v = .slice (some ⟨g,0,none⟩) ns.length ns.length/\w.ownsRow B 90 2 v ns.length xs/\RowIs (fun j=>encG (ns.getD j ⟨⟨#[]⟩,0⟩)) 2 ns.length xs
theorem GlobsO.globs {B:Nat} {w:World} {v:Value} {ns:List Gl} (h:GlobsO B w v ns) (hm:ns.length<=9223372036854775807):Globs w v ns:=by
 obtain ⟨g,xs,rfl,ho,hx⟩:=h
 refine ⟨_,_,rfl,Nat.le_refl _,hm,fun h0=>⟨g,0,rfl,fun j hj => ?_⟩⟩
 have hl:=ho.1
 have key : ∀i,i<2->w.cell? ⟨g,0+j*2+i,none⟩=(encG ns[j])[i]? := fun i hi=>by
  rw [Nat.zero_add,ho.cellAt (j*2+i) o_,hx j hj i hi]
  simp [List.getD,hj]
 exact ⟨key 0 o_,key 1 o_⟩
theorem GlobsO.keep {B:Nat} {w w':World} {v:Value} {ns:List Gl} (h:GlobsO B w v ns) (hb:Keep B w w'):GlobsO B w' v ns:=by
 obtain ⟨g,xs,rfl,ho,hx⟩:=h
 exact ⟨g,xs,rfl,owns_keep ho hb,hx⟩
theorem GlobsO.mono {B B':Nat} {w:World} {v:Value} {ns:List Gl} (h:GlobsO B w v ns) (hb:B'<=B):GlobsO B' w v ns:=by
 obtain ⟨g,xs,rfl,ho,hx⟩:=h
 exact ⟨g,xs,rfl,owns_mono ho hb,hx⟩
theorem inf_glob:(Tryz.prog.info? 90).map (fun i=>(i.zero,i.size,i.bytes))=some (some (.agg #[.string ⟨#[]⟩,.int .i64 0]),2,24):=by kernel_rfl
theorem toGlob_any (g:Gl) (w:World):Calls Tryz.prog 41 #[.agg #[.string g.name,.int .i64 g.size]] w fun e w'=>e = .returned (.agg #[.string g.name,.int .i64 g.size])/\Below w.heap.size w w':=by
 obtain ⟨s,z⟩:=g
 simp only
 go_enter Tryz.func41,Tryz.ntmps41
 go_wp2_with fail
 exact bodyPost_ret (v:=.agg #[.string s,.int .i64 z]) (by simp [results,Tryz.results41,go_sem]) rfl ⟨rfl,((bel_a _ _).alloc (by simp) _).alloc (by simp;omega) _⟩
theorem toGlobs_any (v:Value) (ns:List Gl) (w:World) (hl:ns.length<=1048576) (hc:Globs w v ns) :
  Calls Tryz.prog 20 #[v] w fun e w'=>∃v',e = .returned v'/\GlobsO w.heap.size w' v' ns/\Below w.heap.size w w':=by
 obtain ⟨a,cap,rfl,hcl,hcm,hc⟩:=hc
 have HC:=hide hc
 clear hc
 obtain ⟨i0,hi,hz0,hz1,hz2⟩:=info_parts inf_glob
 go_enter Tryz.func20,Tryz.ntmps20
 go_wp2_with (at_make;refine wpList_make_full _ rfl _ _ 29 rfl w.heap.size 90 i0 (.agg #[.string ⟨#[]⟩,.int .i64 0]) 2 Tryz.underlying29 hi hz0 hz1 _ _ _ _ ns.length rfl rfl o_ o_ ?_ ?_ (Nat.le_refl _) ?_)
 ·rw [hz2];omega
 ·unfold maxLen;omega
 intro w1 hown1 hgrow1
 have hnx1:Bl w w1:=(Below.refl _ _).grown hgrow1 (Nat.le_refl _) (by simp)
 go_wp2_with fail
 go_loopw [4] (fun i wr=>∃(k:Nat) (xs:List Value),k<=ns.length/\i = .int .i64 k/\wr.ownsRow w.heap.size 90 2 (.slice (some ⟨w.heap.size,0,none⟩) ns.length ns.length) ns.length xs/\RowIs (fun j=>encG (ns.getD j ⟨⟨#[]⟩,0⟩)) 2 k xs/\Bl w wr)
  (fun i _=>ns.length-(RowKit.intOf i).toNat)
 case atStart=>exact ⟨0,_,Nat.zero_le _,rfl,hown1,RowIs.zero _ _ _,hnx1⟩
 case round=>
  obtain ⟨k,xs,hk,rfl,hown,hxs,hB⟩:=hrel
  clear hown1 hgrow1 hnx1
  have HX:=hide hxs
  clear hxs
  by_cases hlt:k<ns.length
  ·obtain ⟨b,off,rfl,hc⟩:=HC.out o_
   obtain ⟨d0,d1⟩:=(hc.below hB) k hlt
   have HN:Hid (encG (ns.getD k ⟨⟨#[]⟩,0⟩)=encG ns[k]):=by show _=_;simp [List.getD,hlt]
   clear hc
   generalize ns[k]=n at d0 d1 HN
   have HO:=hide hown
   clear hown
   go_wp2_with fail
   refine (toGlob_any n _).mono ?_
   rintro e w2 ⟨rfl,hb2⟩
   have hown2:=owns_below HO.out hb2
   obtain ⟨⟨y0,o0⟩,f0⟩:=own_old hown2 (k*2) o_
   obtain ⟨⟨y1,o1⟩,f1⟩:=own_old hown2 (k*2+1) o_
   have hB2:=hB.trans (hb2.mono hB.size)
   have HR:Hid _:=owns_put (encG n) w2 xs (k*2) hown2
   have HL:Hid (xs.length=ns.length*2):=hown2.1
   have HB3:Hid _:=below_put (Nat.le_refl _) (encG n) w2 (k*2) hB2
   clear hown2 d0 d1
   go_wp2_with fail
   go_roundw
   case rel=>exact ⟨k+1,_,by omega,by go_num,HR.out,HX.out.step (fun _ _=>rfl) HN.out rfl (by have:=HL.out;omega),HB3.out⟩
   case measure=>simp [RowKit.intOf];omega
  ·have HO:=hide hown
   clear hown
   have HK:Hid (k=ns.length):=by show _=_;omega
   go_wp2_with fail
   go_ret
   exact ⟨_,rfl,⟨w.heap.size,xs,rfl,HO.out,by rw [<-HK.out];exact HX.out⟩,hB⟩
theorem Keep.setCell {B:Nat} {a w:World} {p:Addr} {u:Value} (h:Keep B a w) (hp:p.block<B):Keep B a (w.setCell p u):=fun k hk hl=>(Below.heap_setCell w p u k o_).trans (h k hk hl)
theorem Keep.refl (B:Nat) (w:World):Keep B w w:=fun _ _ _=>rfl
theorem box666 {w w':World} {t u v:TypeId} {a0 a1 a2 a3 a4 a5 b0 b1 b2 b3 b4 b5 c0 c1 c2 c3 c4 c5:Value} (h:Below (w.heap.size+1+1+1) (((w.alloc (.cells #[a0,a1,a2,a3,a4,a5] t)).alloc (.cells #[b0,b1,b2,b3,b4,b5] u)).alloc (.cells #[c0,c1,c2,c3,c4,c5] v)) w') :
  (w'.cell? ⟨w.heap.size,0,none⟩=some a0/\w'.cell? ⟨w.heap.size,1,none⟩=some a1/\w'.cell? ⟨w.heap.size,2,none⟩=some a2/\w'.cell? ⟨w.heap.size,3,none⟩=some a3/\w'.cell? ⟨w.heap.size,4,none⟩=some a4/\w'.cell? ⟨w.heap.size,5,none⟩=some a5) /\
  (w'.cell? ⟨w.heap.size+1,0,none⟩=some b0/\w'.cell? ⟨w.heap.size+1,1,none⟩=some b1/\w'.cell? ⟨w.heap.size+1,2,none⟩=some b2/\w'.cell? ⟨w.heap.size+1,3,none⟩=some b3/\w'.cell? ⟨w.heap.size+1,4,none⟩=some b4/\w'.cell? ⟨w.heap.size+1,5,none⟩=some b5) /\
  (w'.cell? ⟨w.heap.size+1+1,0,none⟩=some c0/\w'.cell? ⟨w.heap.size+1+1,1,none⟩=some c1/\w'.cell? ⟨w.heap.size+1+1,2,none⟩=some c2/\w'.cell? ⟨w.heap.size+1+1,3,none⟩=some c3/\w'.cell? ⟨w.heap.size+1+1,4,none⟩=some c4/\w'.cell? ⟨w.heap.size+1+1,5,none⟩=some c5) /\
  (∀i,w'.frozen? ⟨w.heap.size+1,i,none⟩=false)/\(∀i,w'.frozen? ⟨w.heap.size+1+1,i,none⟩=false):=by
 refine ⟨⟨?_,?_,?_,?_,?_,?_⟩,⟨?_,?_,?_,?_,?_,?_⟩,⟨?_,?_,?_,?_,?_,?_⟩,fun i => ?_,fun i => ?_⟩
 all_goals first
  | (rw [h.cell (by first | (simp;done) | (simp;omega))];go_simp;done)
  | (rw [h.frozen (by first | (simp;done) | (simp;omega))];go_simp;done)
theorem toStmt_any (s:St) (ve vf:Value) (w:World) (hs:smallS s) (he:Nodes w ve s.e) (hf:Nodes w vf s.f) :
  Calls Tryz.prog 97 #[.agg #[.int .i64 s.kind,.string s.name,ve,vf,.int .i64 s.thn,.int .i64 s.els]] w fun e w'=>∃ve' vf',e = .returned (.agg #[.int .i64 s.kind,.string s.name,ve',vf',.int .i64 s.thn,.int .i64 s.els])/\NodesO w.heap.size w' ve' s.e/\NodesO w.heap.size w' vf' s.f/\Below w.heap.size w w':=by
 obtain ⟨k,n,es,fs,t,l⟩:=s
 have hse:es.length<=1048576:=hs.1
 have hsf:fs.length<=1048576:=hs.2
 simp only at he hf ⊢
 have HE:=hide he
 have HF:=hide hf
 obtain ⟨ae,ce,rfl,-,-,-⟩:=he
 obtain ⟨af,cf,rfl,-,-,-⟩:=hf
 have hA:Bl w (((w.alloc (.cells #[.int .i64 k,.string n,.slice ae es.length ce,.slice af fs.length cf,.int .i64 t,.int .i64 l] 146)).alloc (.cells #[.int .i64 0,.string ⟨#[]⟩,.slice none 0 0,.slice none 0 0,.int .i64 0,.int .i64 0] 123)).alloc (.cells #[.int .i64 k,.string n,.slice none 0 0,.slice none 0 0,.int .i64 0,.int .i64 0] 123)):=((bel_a _ _).alloc (by simp) _).alloc (by simp;omega) _
 go_enter Tryz.func97,Tryz.ntmps97
 go_wp2_with fail
 refine (toNodes_any _ es _ hse (HE.out.below hA)).mono ?_
 rintro e w1 ⟨v1,rfl,ho1,hb1⟩
 simp only [World.size_alloc] at ho1 hb1
 have HO1:=hide ho1
 obtain ⟨g1,xs1,rfl,-,-⟩:=ho1
 have hz1:w.heap.size+1+1+1<=w1.heap.size:=by have:=hb1.size;simpa using this
 have hB1:=hA.trans (hb1.mono o_)
 obtain ⟨⟨a0,a1,a2,a3,a4,a5⟩,⟨b0,b1,b2,b3,b4,b5⟩,⟨c0,c1,c2,c3,c4,c5⟩,fb,fc⟩:=box666 hb1
 go_wp2_with fail
 have hB1s:=hB1.setCell (p:=⟨w.heap.size+1+1,2,none⟩) (by simp;omega) (.slice (some ⟨g1,0,none⟩) es.length es.length)
 refine (toNodes_any _ fs _ hsf (HF.out.below hB1s)).mono ?_
 rintro e w2 ⟨v2,rfl,ho2,hb2⟩
 have HO2:=hide ho2
 obtain ⟨g2,xs2,rfl,-,-⟩:=ho2
 have hz2:w1.heap.size<=w2.heap.size:=by have:=hb2.size;simpa using this
 have hB2:=hB1s.trans (hb2.mono (by simp;omega))
 have A4:w2.cell? ⟨w.heap.size,4,none⟩=some (.int .i64 t):=by rw [hb2.cell (by simp;omega)];go_simp
 have A5:w2.cell? ⟨w.heap.size,5,none⟩=some (.int .i64 l):=by rw [hb2.cell (by simp;omega)];go_simp
 have C0:w2.cell? ⟨w.heap.size+1+1,0,none⟩=some (.int .i64 k):=by rw [hb2.cell (by simp;omega)];go_simp
 have C1:w2.cell? ⟨w.heap.size+1+1,1,none⟩=some (.string n):=by rw [hb2.cell (by simp;omega)];go_simp
 have C2:w2.cell? ⟨w.heap.size+1+1,2,none⟩=some (.slice (some ⟨g1,0,none⟩) es.length es.length):=by rw [hb2.cell (by simp;omega)];go_simp
 have C3:w2.cell? ⟨w.heap.size+1+1,3,none⟩=some (.slice none 0 0):=by rw [hb2.cell (by simp;omega)];go_simp
 have C4:w2.cell? ⟨w.heap.size+1+1,4,none⟩=some (.int .i64 0):=by rw [hb2.cell (by simp;omega)];go_simp
 have C5:w2.cell? ⟨w.heap.size+1+1,5,none⟩=some (.int .i64 0):=by rw [hb2.cell (by simp;omega)];go_simp
 have B0:w2.cell? ⟨w.heap.size+1,0,none⟩=some (.int .i64 0):=by rw [hb2.cell (by simp;omega)];go_simp
 have B1:w2.cell? ⟨w.heap.size+1,1,none⟩=some (.string ⟨#[]⟩):=by rw [hb2.cell (by simp;omega)];go_simp
 have B2:w2.cell? ⟨w.heap.size+1,2,none⟩=some (.slice none 0 0):=by rw [hb2.cell (by simp;omega)];go_simp
 have B3:w2.cell? ⟨w.heap.size+1,3,none⟩=some (.slice none 0 0):=by rw [hb2.cell (by simp;omega)];go_simp
 have B4:w2.cell? ⟨w.heap.size+1,4,none⟩=some (.int .i64 0):=by rw [hb2.cell (by simp;omega)];go_simp
 have B5:w2.cell? ⟨w.heap.size+1,5,none⟩=some (.int .i64 0):=by rw [hb2.cell (by simp;omega)];go_simp
 have FB : ∀i,w2.frozen? ⟨w.heap.size+1,i,none⟩=false:=fun i=>by rw [hb2.frozen (by simp;omega)];go_simp
 have FC : ∀i,w2.frozen? ⟨w.heap.size+1+1,i,none⟩=false:=fun i=>by rw [hb2.frozen (by simp;omega)];go_simp
 have K12:Keep (w.heap.size+1+1+1) w1 w2:=((Keep.refl _ _).setCell (by simp)).trans (by simp) (Keep.of_below hb2)
 have HK:=hide K12
 have HO2':=hide (HO2.out.mono (by simp;omega))
 go_wp2_with fail
 refine bodyPost_ret (v:=.agg #[.int .i64 k,.string n,.slice (some ⟨g1,0,none⟩) es.length es.length,.slice (some ⟨g2,0,none⟩) fs.length fs.length,.int .i64 t,.int .i64 l]) (by simp [results,Tryz.results97,go_sem,B0,B1,B2,B3,B4,B5]) rfl ⟨_,_,rfl,?_,?_,?_⟩
 ·exact ((HO1.out.keep HK.out).keep ((((((((((Keep.refl _ _).setCell (by first | (simp;done) | (simp;omega))).setCell (by first | (simp;done) | (simp;omega))).setCell (by first | (simp;done) | (simp;omega))).setCell (by first | (simp;done) | (simp;omega))).setCell (by first | (simp;done) | (simp;omega))).setCell (by first | (simp;done) | (simp;omega))).setCell (by first | (simp;done) | (simp;omega))).setCell (by first | (simp;done) | (simp;omega))).setCell (by first | (simp;done) | (simp;omega)))).mono o_
 ·exact (HO2'.out.keep ((((((((((Keep.refl _ _).setCell (by first | (simp;done) | (simp;omega))).setCell (by first | (simp;done) | (simp;omega))).setCell (by first | (simp;done) | (simp;omega))).setCell (by first | (simp;done) | (simp;omega))).setCell (by first | (simp;done) | (simp;omega))).setCell (by first | (simp;done) | (simp;omega))).setCell (by first | (simp;done) | (simp;omega))).setCell (by first | (simp;done) | (simp;omega))).setCell (by first | (simp;done) | (simp;omega)))).mono o_
 ·exact (((((((((hB2).setCell (by first | (simp;done) | (simp;omega)) _).setCell (by first | (simp;done) | (simp;omega)) _).setCell (by first | (simp;done) | (simp;omega)) _).setCell (by first | (simp;done) | (simp;omega)) _).setCell (by first | (simp;done) | (simp;omega)) _).setCell (by first | (simp;done) | (simp;omega)) _).setCell (by first | (simp;done) | (simp;omega)) _).setCell (by first | (simp;done) | (simp;omega)) _).setCell (by first | (simp;done) | (simp;omega)) _
def encS (s:St) (v:Value × Value):List Value:=[.int .i64 s.kind,.string s.name,v.1,v.2,.int .i64 s.thn,.int .i64 s.els]
def dSt:St:=⟨0,⟨#[]⟩,[],[],0,0⟩
def StmtsO (B:Nat) (w:World) (v:Value) (ns:List St):Prop:=∃(g:Nat) (xs:List Value) (V:Nat->Value × Value),v = .slice (some ⟨g,0,none⟩) ns.length ns.length/\w.ownsRow B 123 6 v ns.length xs/\RowIs (fun j=>encS (ns.getD j dSt) (V j)) 6 ns.length xs/\∀j (h:j<ns.length),NodesO B w (V j).1 ns[j].e/\NodesO B w (V j).2 ns[j].f
theorem StmtsO.stmts {B:Nat} {w:World} {v:Value} {ns:List St} (h:StmtsO B w v ns) (hm:ns.length<=9223372036854775807) (hs : ∀s∈ns,smallS s):Stmts w v ns:=by
 obtain ⟨g,xs,V,rfl,ho,hx,hn⟩:=h
 refine ⟨_,_,rfl,Nat.le_refl _,hm,fun h0=>⟨g,0,rfl,fun j hj => ?_⟩⟩
 have hl:=ho.1
 have key : ∀i,i<6->w.cell? ⟨g,0+j*6+i,none⟩=(encS ns[j] (V j))[i]? := fun i hi=>by
  rw [Nat.zero_add,ho.cellAt (j*6+i) o_,hx j hj i hi]
  simp [List.getD,hj]
 have hsm:=hs ns[j] (List.getElem_mem hj)
 exact ⟨(V j).1,(V j).2,⟨key 0 o_,key 1 o_,key 2 o_,key 3 o_,key 4 o_,key 5 o_⟩,(hn j hj).1.nodes (by have:=hsm.1;omega),(hn j hj).2.nodes (by have:=hsm.2;omega)⟩
theorem StmtsO.keep {B:Nat} {w w':World} {v:Value} {ns:List St} (h:StmtsO B w v ns) (hb:Keep B w w'):StmtsO B w' v ns:=by
 obtain ⟨g,xs,V,rfl,ho,hx,hn⟩:=h
 exact ⟨g,xs,V,rfl,owns_keep ho hb,hx,fun j hj=>⟨(hn j hj).1.keep hb,(hn j hj).2.keep hb⟩⟩
theorem StmtsO.mono {B B':Nat} {w:World} {v:Value} {ns:List St} (h:StmtsO B w v ns) (hb:B'<=B):StmtsO B' w v ns:=by
 obtain ⟨g,xs,V,rfl,ho,hx,hn⟩:=h
 exact ⟨g,xs,V,rfl,owns_mono ho hb,hx,fun j hj=>⟨(hn j hj).1.mono hb,(hn j hj).2.mono hb⟩⟩
theorem inf_stmt:(Tryz.prog.info? 123).map (fun i=>(i.zero,i.size,i.bytes))=some (some (.agg #[.int .i64 0,.string ⟨#[]⟩,.slice none 0 0,.slice none 0 0,.int .i64 0,.int .i64 0]),6,88):=by kernel_rfl
theorem own_lt {w:World} {base e size n cap g:Nat} {xs:List Value} (h:w.ownsRow base e size (.slice (some ⟨g,0,none⟩) n cap) n xs):base<=g/\g<w.heap.size:=h.lt g rfl
theorem toStmts_any (v:Value) (ns:List St) (w:World) (hl:ns.length<=1048576) (hs : ∀s∈ns,smallS s) (hc:Stmts w v ns) :
  Calls Tryz.prog 72 #[v] w fun e w'=>∃v',e = .returned v'/\StmtsO w.heap.size w' v' ns/\Below w.heap.size w w':=by
 have HS:=hide hs
 obtain ⟨a,cap,rfl,hcl,hcm,hc⟩:=hc
 have HC:=hide hc
 clear hc hs
 obtain ⟨i0,hi,hz0,hz1,hz2⟩:=info_parts inf_stmt
 go_enter Tryz.func72,Tryz.ntmps72
 go_wp2_with (at_make;refine wpList_make_full _ rfl _ _ 62 rfl w.heap.size 123 i0 (.agg #[.int .i64 0,.string ⟨#[]⟩,.slice none 0 0,.slice none 0 0,.int .i64 0,.int .i64 0]) 6 Tryz.underlying62 hi hz0 hz1 _ _ _ _ ns.length rfl rfl o_ o_ ?_ ?_ (Nat.le_refl _) ?_)
 ·rw [hz2];omega
 ·unfold maxLen;omega
 intro w1 hown1 hgrow1
 have hnx1:Bl w w1:=(Below.refl _ _).grown hgrow1 (Nat.le_refl _) (by simp)
 go_wp2_with fail
 go_loopw [4] (fun i wr=>∃(k:Nat) (xs:List Value) (V:Nat->Value × Value),k<=ns.length/\i = .int .i64 k/\wr.ownsRow w.heap.size 123 6 (.slice (some ⟨w.heap.size,0,none⟩) ns.length ns.length) ns.length xs/\RowIs (fun j=>encS (ns.getD j dSt) (V j)) 6 k xs/\(∀j (h:j<ns.length),j<k->NodesO (w.heap.size+1) wr (V j).1 ns[j].e/\NodesO (w.heap.size+1) wr (V j).2 ns[j].f)/\Bl w wr)
  (fun i _=>ns.length-(RowKit.intOf i).toNat)
 case atStart=>exact ⟨0,_,fun _=>(.nilFunc,.nilFunc),Nat.zero_le _,rfl,hown1,RowIs.zero _ _ _,fun j _ hj=>absurd hj (Nat.not_lt_zero _),hnx1⟩
 case round=>
  obtain ⟨k,xs,V,hk,rfl,hown,hxs,hV,hB⟩:=hrel
  clear hown1 hgrow1 hnx1
  have HX:=hide hxs
  have HV:=hide hV
  clear hxs hV
  by_cases hlt:k<ns.length
  ·obtain ⟨b,off,rfl,hc⟩:=HC.out o_
   obtain ⟨ve,vf,⟨d0,d1,d2,d3,d4,d5⟩,he,hf⟩:=(hc.below hB) k hlt
   have hsm:=HS.out ns[k] (List.getElem_mem hlt)
   have HN:Hid (ns.getD k dSt=ns[k]):=by show _=_;simp [List.getD,hlt]
   have HNK:Hid (∀h:k<ns.length,ns[k]=ns[k]):=fun _=>rfl
   clear hc
   generalize hgen:ns[k]=n at d0 d1 d2 d3 d4 d5 he hf HN hsm
   have HG:=hide hgen
   clear hgen HNK
   have HNE:=hide he
   have HNF:=hide hf
   have HSM:=hide hsm
   obtain ⟨a2,k2,rfl,-,-,-⟩:=he
   obtain ⟨a3,k3,rfl,-,-,-⟩:=hf
   have HO:=hide hown
   clear hown hsm
   go_wp2_with fail
   refine (toStmt_any n _ _ _ HSM.out HNE.out HNF.out).mono ?_
   rintro e w2 ⟨ve',vf',rfl,hoe,hof,hb2⟩
   have hgl:=own_lt HO.out
   have HOE:Hid (NodesO (w.heap.size+1) w2 ve' n.e):=hoe.mono o_
   have HOF:Hid (NodesO (w.heap.size+1) w2 vf' n.f):=hof.mono o_
   obtain ⟨ge,xe,rfl,-,-⟩:=hoe
   obtain ⟨gf,xf,rfl,-,-⟩:=hof
   have hown2:=owns_below HO.out hb2
   obtain ⟨⟨y0,o0⟩,f0⟩:=own_old hown2 (k*6) o_
   obtain ⟨⟨y1,o1⟩,f1⟩:=own_old hown2 (k*6+1) o_
   obtain ⟨⟨y2,o2⟩,f2⟩:=own_old hown2 (k*6+2) o_
   obtain ⟨⟨y3,o3⟩,f3⟩:=own_old hown2 (k*6+3) o_
   obtain ⟨⟨y4,o4⟩,f4⟩:=own_old hown2 (k*6+4) o_
   obtain ⟨⟨y5,o5⟩,f5⟩:=own_old hown2 (k*6+5) o_
   have hB2:=hB.trans (hb2.mono hB.size)
   have HR:Hid _:=owns_put (encS n (.slice (some ⟨ge,0,none⟩) n.e.length n.e.length,.slice (some ⟨gf,0,none⟩) n.f.length n.f.length)) w2 xs (k*6) hown2
   have HL:Hid (xs.length=ns.length*6):=hown2.1
   have HB3:Hid _:=below_put (Nat.le_refl _) (encS n (.slice (some ⟨ge,0,none⟩) n.e.length n.e.length,.slice (some ⟨gf,0,none⟩) n.f.length n.f.length)) w2 (k*6) hB2
   have HK2:Hid (Keep (w.heap.size+1) w2 (setMany w2 w.heap.size (k*6) (encS n (.slice (some ⟨ge,0,none⟩) n.e.length n.e.length,.slice (some ⟨gf,0,none⟩) n.f.length n.f.length)))):=Keep.of_set o_
   have HKB:Hid (Keep (w.heap.size+1) wr w2):=Keep.of_below hb2
   clear hown2 d0 d1 d2 d3 d4 d5
   go_wp2_with fail
   go_roundw
   case rel=>
    refine ⟨k+1,_,fun j=>if j=k then (.slice (some ⟨ge,0,none⟩) n.e.length n.e.length,.slice (some ⟨gf,0,none⟩) n.f.length n.f.length) else V j,by omega,by go_num,HR.out,HX.out.step (fun j hj => ?_) ?_ rfl (by have:=HL.out;omega),fun j hj hjk => ?_,HB3.out⟩
    ·dsimp only;rw [if_neg o_]
    ·dsimp only;rw [if_pos rfl,HN.out]
    ·by_cases e:j=k
     ·subst e
      dsimp only
      rw [if_pos rfl,HG.out]
      exact ⟨HOE.out.keep HK2.out,HOF.out.keep HK2.out⟩
     ·dsimp only
      rw [if_neg e]
      have h:=HV.out j hj o_
      exact ⟨(h.1.keep HKB.out).keep HK2.out,(h.2.keep HKB.out).keep HK2.out⟩
   case measure=>simp [RowKit.intOf];omega
  ·have HO:=hide hown
   clear hown
   have HK:Hid (k=ns.length):=by show _=_;omega
   go_wp2_with fail
   go_ret
   exact ⟨_,rfl,⟨w.heap.size,xs,V,rfl,HO.out,by rw [<-HK.out];exact HX.out,fun j hj=>⟨(HV.out j hj (by have:=HK.out;omega)).1.mono o_,(HV.out j hj (by have:=HK.out;omega)).2.mono o_⟩⟩,hB⟩
end Go.Proofs.YtnpidjamplmgjaaGreatDoor
