import Derived.Test.YtnpidjamplmgjaaGreatDoorQ48
import Derived.Laws.IdiomStrings
import Derived.Below
set_option linter.unusedSectionVars false
variable [Inhabited Go.Proofs.YtnpidjamplmgjaaGreatDoor.Pick]
namespace Go.Proofs.YtnpidjamplmgjaaGreatDoor
open Go.RowKit
set_option linter.unusedVariables false
set_option linter.unusedSimpArgs false
set_option maxRecDepth 100000
set_option maxHeartbeats 16000000
theorem box333 {w w':World} {t u v:TypeId} {a0 a1 a2 b0 b1 b2 c0 c1 c2:Value} (h:Below (w.heap.size+1+1+1) (((w.alloc (.cells #[a0,a1,a2] t)).alloc (.cells #[b0,b1,b2] u)).alloc (.cells #[c0,c1,c2] v)) w') :
  (w'.cell? ⟨w.heap.size,0,none⟩=some a0/\w'.cell? ⟨w.heap.size,1,none⟩=some a1/\w'.cell? ⟨w.heap.size,2,none⟩=some a2) /\
  (w'.cell? ⟨w.heap.size+1,0,none⟩=some b0/\w'.cell? ⟨w.heap.size+1,1,none⟩=some b1/\w'.cell? ⟨w.heap.size+1,2,none⟩=some b2) /\
  (w'.cell? ⟨w.heap.size+1+1,0,none⟩=some c0/\w'.cell? ⟨w.heap.size+1+1,1,none⟩=some c1/\w'.cell? ⟨w.heap.size+1+1,2,none⟩=some c2) /\
  (∀i,w'.frozen? ⟨w.heap.size+1,i,none⟩=false)/\(∀i,w'.frozen? ⟨w.heap.size+1+1,i,none⟩=false):=by
 refine ⟨⟨?_,?_,?_⟩,⟨?_,?_,?_⟩,⟨?_,?_,?_⟩,fun i => ?_,fun i => ?_⟩
 all_goals first
  | (rw [h.cell (by first | (simp;done) | (simp;omega))];go_simp;done)
  | (rw [h.frozen (by first | (simp;done) | (simp;omega))];go_simp;done)
theorem box222 {w w':World} {t u v:TypeId} {a0 a1 b0 b1 c0 c1:Value} (h:Below (w.heap.size+1+1+1) (((w.alloc (.cells #[a0,a1] t)).alloc (.cells #[b0,b1] u)).alloc (.cells #[c0,c1] v)) w') :
  (w'.cell? ⟨w.heap.size,0,none⟩=some a0/\w'.cell? ⟨w.heap.size,1,none⟩=some a1) /\
  (w'.cell? ⟨w.heap.size+1,0,none⟩=some b0/\w'.cell? ⟨w.heap.size+1,1,none⟩=some b1) /\
  (w'.cell? ⟨w.heap.size+1+1,0,none⟩=some c0/\w'.cell? ⟨w.heap.size+1+1,1,none⟩=some c1) /\
  (∀i,w'.frozen? ⟨w.heap.size+1,i,none⟩=false)/\(∀i,w'.frozen? ⟨w.heap.size+1+1,i,none⟩=false):=by
 refine ⟨⟨?_,?_⟩,⟨?_,?_⟩,⟨?_,?_⟩,fun i => ?_,fun i => ?_⟩
 all_goals first
  | (rw [h.cell (by first | (simp;done) | (simp;omega))];go_simp;done)
  | (rw [h.frozen (by first | (simp;done) | (simp;omega))];go_simp;done)
theorem toFunc_any (f:Fu) (vp vb:Value) (w:World) (hs:smallF f) (hp:Strs w vp f.params) (hb:Stmts w vb f.body) :
  Calls Tryz.prog 42 #[.agg #[.string f.name,vp,vb]] w fun e w'=>∃vp' vb',e = .returned (.agg #[.string f.name,vp',vb'])/\StrsO w.heap.size w' vp' f.params/\StmtsO w.heap.size w' vb' f.body/\Below w.heap.size w w':=by
 obtain ⟨n,es,fs⟩:=f
 have hse:es.length<=1048576:=hs.1
 have hsf:fs.length<=1048576:=hs.2.1
 have HSM:Hid (∀s∈fs,smallS s):=hs.2.2
 simp only at hp hb ⊢
 have HE:=hide hp
 have HF:=hide hb
 obtain ⟨ae,ce,rfl,-,-,-⟩:=hp
 obtain ⟨af,cf,rfl,-,-,-⟩:=hb
 have hA:Bl w (((w.alloc (.cells #[.string n,.slice ae es.length ce,.slice af fs.length cf] 81)).alloc (.cells #[.string ⟨#[]⟩,.slice none 0 0,.slice none 0 0] 64)).alloc (.cells #[.string n,.slice none 0 0,.slice none 0 0] 64)):=((bel_a _ _).alloc (by simp) _).alloc (by simp;omega) _
 go_enter Tryz.func42,Tryz.ntmps42
 go_wp2_with fail
 refine (toStrs_any _ es _ hse (HE.out.below hA)).mono ?_
 rintro e w1 ⟨v1,rfl,ho1,hb1⟩
 simp only [World.size_alloc] at ho1 hb1
 have HO1:=hide ho1
 obtain ⟨g1,xs1,rfl,-,-⟩:=ho1
 have hz1:w.heap.size+1+1+1<=w1.heap.size:=by have:=hb1.size;simpa using this
 have hB1:=hA.trans (hb1.mono o_)
 obtain ⟨⟨a0,a1,a2⟩,⟨b0,b1,b2⟩,⟨c0,c1,c2⟩,fb,fc⟩:=box333 hb1
 go_wp2_with fail
 have hB1s:=hB1.setCell (p:=⟨w.heap.size+1+1,1,none⟩) (by simp;omega) (.slice (some ⟨g1,0,none⟩) es.length es.length)
 refine (toStmts_any _ fs _ hsf HSM.out (HF.out.below hB1s)).mono ?_
 rintro e w2 ⟨v2,rfl,ho2,hb2⟩
 have HO2:=hide ho2
 obtain ⟨g2,xs2,V2,rfl,-,-,-⟩:=ho2
 have hz2:w1.heap.size<=w2.heap.size:=by have:=hb2.size;simpa using this
 have hB2:=hB1s.trans (hb2.mono (by simp;omega))
 have C0:w2.cell? ⟨w.heap.size+1+1,0,none⟩=some (.string n):=by rw [hb2.cell (by simp;omega)];go_simp
 have C1:w2.cell? ⟨w.heap.size+1+1,1,none⟩=some (.slice (some ⟨g1,0,none⟩) es.length es.length):=by rw [hb2.cell (by simp;omega)];go_simp
 have C2:w2.cell? ⟨w.heap.size+1+1,2,none⟩=some (.slice none 0 0):=by rw [hb2.cell (by simp;omega)];go_simp
 have B0:w2.cell? ⟨w.heap.size+1,0,none⟩=some (.string ⟨#[]⟩):=by rw [hb2.cell (by simp;omega)];go_simp
 have B1:w2.cell? ⟨w.heap.size+1,1,none⟩=some (.slice none 0 0):=by rw [hb2.cell (by simp;omega)];go_simp
 have B2:w2.cell? ⟨w.heap.size+1,2,none⟩=some (.slice none 0 0):=by rw [hb2.cell (by simp;omega)];go_simp
 have FB : ∀i,w2.frozen? ⟨w.heap.size+1,i,none⟩=false:=fun i=>by rw [hb2.frozen (by simp;omega)];go_simp
 have FC : ∀i,w2.frozen? ⟨w.heap.size+1+1,i,none⟩=false:=fun i=>by rw [hb2.frozen (by simp;omega)];go_simp
 have K12:Keep (w.heap.size+1+1+1) w1 w2:=((Keep.refl _ _).setCell (by simp)).trans (by simp) (Keep.of_below hb2)
 have HK:=hide K12
 have HO2':=hide (HO2.out.mono (by simp;omega))
 go_wp2_with fail
 refine bodyPost_ret (v:=.agg #[.string n,.slice (some ⟨g1,0,none⟩) es.length es.length,.slice (some ⟨g2,0,none⟩) fs.length fs.length]) (by simp [results,Tryz.results42,go_sem,B0,B1,B2]) rfl ⟨_,_,rfl,?_,?_,?_⟩
 ·exact ((HO1.out.keep HK.out).keep (((((Keep.refl _ _).setCell (by first | (simp;done) | (simp;omega))).setCell (by first | (simp;done) | (simp;omega))).setCell (by first | (simp;done) | (simp;omega))).setCell (by first | (simp;done) | (simp;omega)))).mono o_
 ·exact (HO2'.out.keep (((((Keep.refl _ _).setCell (by first | (simp;done) | (simp;omega))).setCell (by first | (simp;done) | (simp;omega))).setCell (by first | (simp;done) | (simp;omega))).setCell (by first | (simp;done) | (simp;omega)))).mono o_
 ·exact ((((hB2).setCell (by first | (simp;done) | (simp;omega)) _).setCell (by first | (simp;done) | (simp;omega)) _).setCell (by first | (simp;done) | (simp;omega)) _).setCell (by first | (simp;done) | (simp;omega)) _
def encF (f:Fu) (v:Value × Value):List Value:=[.string f.name,v.1,v.2]
def dFu:Fu:=⟨⟨#[]⟩,[],[]⟩
def FuncsO (B:Nat) (w:World) (v:Value) (ns:List Fu):Prop:=∃(g:Nat) (xs:List Value) (V:Nat->Value × Value),v = .slice (some ⟨g,0,none⟩) ns.length ns.length/\w.ownsRow B 64 3 v ns.length xs/\RowIs (fun j=>encF (ns.getD j dFu) (V j)) 3 ns.length xs/\∀j (h:j<ns.length),StrsO B w (V j).1 ns[j].params/\StmtsO B w (V j).2 ns[j].body
theorem FuncsO.funcs {B:Nat} {w:World} {v:Value} {ns:List Fu} (h:FuncsO B w v ns) (hm:ns.length<=9223372036854775807) (hs : ∀s∈ns,smallF s):Funcs w v ns:=by
 obtain ⟨g,xs,V,rfl,ho,hx,hn⟩:=h
 refine ⟨_,_,rfl,Nat.le_refl _,hm,fun h0=>⟨g,0,rfl,fun j hj => ?_⟩⟩
 have hl:=ho.1
 have key : ∀i,i<3->w.cell? ⟨g,0+j*3+i,none⟩=(encF ns[j] (V j))[i]? := fun i hi=>by
  rw [Nat.zero_add,ho.cellAt (j*3+i) o_,hx j hj i hi]
  simp [List.getD,hj]
 have hsm:=hs ns[j] (List.getElem_mem hj)
 exact ⟨(V j).1,(V j).2,⟨key 0 o_,key 1 o_,key 2 o_⟩,(hn j hj).1.strs (by have:=hsm.1;omega),(hn j hj).2.stmts (by have:=hsm.2.1;omega) hsm.2.2⟩
theorem FuncsO.keep {B:Nat} {w w':World} {v:Value} {ns:List Fu} (h:FuncsO B w v ns) (hb:Keep B w w'):FuncsO B w' v ns:=by
 obtain ⟨g,xs,V,rfl,ho,hx,hn⟩:=h
 exact ⟨g,xs,V,rfl,owns_keep ho hb,hx,fun j hj=>⟨(hn j hj).1.keep hb,(hn j hj).2.keep hb⟩⟩
theorem FuncsO.mono {B B':Nat} {w:World} {v:Value} {ns:List Fu} (h:FuncsO B w v ns) (hb:B'<=B):FuncsO B' w v ns:=by
 obtain ⟨g,xs,V,rfl,ho,hx,hn⟩:=h
 exact ⟨g,xs,V,rfl,owns_mono ho hb,hx,fun j hj=>⟨(hn j hj).1.mono hb,(hn j hj).2.mono hb⟩⟩
theorem inf_func:(Tryz.prog.info? 64).map (fun i=>(i.zero,i.size,i.bytes))=some (some (.agg #[.string ⟨#[]⟩,.slice none 0 0,.slice none 0 0]),3,64):=by kernel_rfl
theorem toFuncs_any (v:Value) (ns:List Fu) (w:World) (hl:ns.length<=1048576) (hs : ∀s∈ns,smallF s) (hc:Funcs w v ns) :
  Calls Tryz.prog 21 #[v] w fun e w'=>∃v',e = .returned v'/\FuncsO w.heap.size w' v' ns/\Below w.heap.size w w':=by
 have HS:=hide hs
 obtain ⟨a,cap,rfl,hcl,hcm,hc⟩:=hc
 have HC:=hide hc
 clear hc hs
 obtain ⟨i0,hi,hz0,hz1,hz2⟩:=info_parts inf_func
 go_enter Tryz.func21,Tryz.ntmps21
 go_wp2_with (at_make;refine wpList_make_full _ rfl _ _ 30 rfl w.heap.size 64 i0 (.agg #[.string ⟨#[]⟩,.slice none 0 0,.slice none 0 0]) 3 Tryz.underlying30 hi hz0 hz1 _ _ _ _ ns.length rfl rfl o_ o_ ?_ ?_ (Nat.le_refl _) ?_)
 ·rw [hz2];omega
 ·unfold maxLen;omega
 intro w1 hown1 hgrow1
 have hnx1:Bl w w1:=(Below.refl _ _).grown hgrow1 (Nat.le_refl _) (by simp)
 go_wp2_with fail
 go_loopw [4] (fun i wr=>∃(k:Nat) (xs:List Value) (V:Nat->Value × Value),k<=ns.length/\i = .int .i64 k/\wr.ownsRow w.heap.size 64 3 (.slice (some ⟨w.heap.size,0,none⟩) ns.length ns.length) ns.length xs/\RowIs (fun j=>encF (ns.getD j dFu) (V j)) 3 k xs/\(∀j (h:j<ns.length),j<k->StrsO (w.heap.size+1) wr (V j).1 ns[j].params/\StmtsO (w.heap.size+1) wr (V j).2 ns[j].body)/\Bl w wr)
  (fun i _=>ns.length-(RowKit.intOf i).toNat)
 case atStart=>exact ⟨0,_,fun _=>(.nilFunc,.nilFunc),Nat.zero_le _,rfl,hown1,RowIs.zero _ _ _,fun j _ hj=>absurd hj (Nat.not_lt_zero _),hnx1⟩
 case round=>
  obtain ⟨k,xs,V,hk,rfl,hown,hxs,hV,hB⟩:=hrel
  clear hown1 hgrow1 hnx1
  have HX:=hide hxs
  have HV:=hide hV
  clear hxs hV
  by_cases hlt:k<ns.length
  ·obtain ⟨b,off,rfl,hc⟩:=HC.out o_
   obtain ⟨ve,vf,⟨d0,d1,d2⟩,he,hf⟩:=(hc.below hB) k hlt
   have hsm:=HS.out ns[k] (List.getElem_mem hlt)
   have HN:Hid (ns.getD k dFu=ns[k]):=by show _=_;simp [List.getD,hlt]
   have HNK:Hid (∀h:k<ns.length,ns[k]=ns[k]):=fun _=>rfl
   clear hc
   generalize hgen:ns[k]=n at d0 d1 d2 he hf HN hsm
   have HG:=hide hgen
   clear hgen HNK
   have HNE:=hide he
   have HNF:=hide hf
   have HSM:=hide hsm
   obtain ⟨a2,k2,rfl,-,-,-⟩:=he
   obtain ⟨a3,k3,rfl,-,-,-⟩:=hf
   have HO:=hide hown
   clear hown hsm
   go_wp2_with fail
   refine (toFunc_any n _ _ _ HSM.out HNE.out HNF.out).mono ?_
   rintro e w2 ⟨ve',vf',rfl,hoe,hof,hb2⟩
   have hgl:=own_lt HO.out
   have HOE:Hid (StrsO (w.heap.size+1) w2 ve' n.params):=hoe.mono o_
   have HOF:Hid (StmtsO (w.heap.size+1) w2 vf' n.body):=hof.mono o_
   obtain ⟨ge,xe,rfl,-,-⟩:=hoe
   obtain ⟨gf,xf,Vf,rfl,-,-,-⟩:=hof
   have hown2:=owns_below HO.out hb2
   obtain ⟨⟨y0,o0⟩,f0⟩:=own_old hown2 (k*3) o_
   obtain ⟨⟨y1,o1⟩,f1⟩:=own_old hown2 (k*3+1) o_
   obtain ⟨⟨y2,o2⟩,f2⟩:=own_old hown2 (k*3+2) o_
   have hB2:=hB.trans (hb2.mono hB.size)
   have HR:Hid _:=owns_put (encF n (.slice (some ⟨ge,0,none⟩) n.params.length n.params.length,.slice (some ⟨gf,0,none⟩) n.body.length n.body.length)) w2 xs (k*3) hown2
   have HL:Hid (xs.length=ns.length*3):=hown2.1
   have HB3:Hid _:=below_put (Nat.le_refl _) (encF n (.slice (some ⟨ge,0,none⟩) n.params.length n.params.length,.slice (some ⟨gf,0,none⟩) n.body.length n.body.length)) w2 (k*3) hB2
   have HK2:Hid (Keep (w.heap.size+1) w2 (setMany w2 w.heap.size (k*3) (encF n (.slice (some ⟨ge,0,none⟩) n.params.length n.params.length,.slice (some ⟨gf,0,none⟩) n.body.length n.body.length)))):=Keep.of_set o_
   have HKB:Hid (Keep (w.heap.size+1) wr w2):=Keep.of_below hb2
   clear hown2 d0 d1 d2
   go_wp2_with fail
   go_roundw
   case rel=>
    refine ⟨k+1,_,fun j=>if j=k then (.slice (some ⟨ge,0,none⟩) n.params.length n.params.length,.slice (some ⟨gf,0,none⟩) n.body.length n.body.length) else V j,by omega,by go_num,HR.out,HX.out.step (fun j hj => ?_) ?_ rfl (by have:=HL.out;omega),fun j hj hjk => ?_,HB3.out⟩
    ·dsimp only;rw [if_neg o_]
    ·dsimp only;rw [if_pos rfl,HN.out]
    ·by_cases e:j=k
     ·subst e
      dsimp only
      rw [if_pos rfl,HG.out]
      exact ⟨HOE.out.keep HK2.out,HOF.out.keep HK2.out⟩
     ·dsimp only
      rw [if_neg e]
      have h:=HV.out j hj o_
      exact ⟨(h.1.keep HKB.out).keep HK2.out,(h.2.keep HKB.out).keep HK2.out⟩
   case measure=>simp [RowKit.intOf];omega
  ·have HO:=hide hown
   clear hown
   have HK:Hid (k=ns.length):=by show _=_;omega
   go_wp2_with fail
   go_ret
   exact ⟨_,rfl,⟨w.heap.size,xs,V,rfl,HO.out,by rw [<-HK.out];exact HX.out,fun j hj=>⟨(HV.out j hj (by have:=HK.out;omega)).1.mono o_,(HV.out j hj (by have:=HK.out;omega)).2.mono o_⟩⟩,hB⟩
theorem toTree_any (t:Tr) (vg vf:Value) (w:World) (hs:smallT t) (hg:Globs w vg t.globals) (hf:Funcs w vf t.funcs) :
  Calls Tryz.prog 6 #[.agg #[vg,vf]] w fun e w'=>∃vg' vf',e = .returned (.agg #[vg',vf'])/\GlobsO w.heap.size w' vg' t.globals/\FuncsO w.heap.size w' vf' t.funcs/\Below w.heap.size w w':=by
 obtain ⟨es,fs⟩:=t
 have hse:es.length<=1048576:=hs.1
 have hsf:fs.length<=1048576:=hs.2.1
 have HSM:Hid (∀s∈fs,smallF s):=hs.2.2
 simp only at hg hf ⊢
 have HE:=hide hg
 have HF:=hide hf
 obtain ⟨ae,ce,rfl,-,-,-⟩:=hg
 obtain ⟨af,cf,rfl,-,-,-⟩:=hf
 have hA:Bl w (((w.alloc (.cells #[.slice ae es.length ce,.slice af fs.length cf] 25)).alloc (.cells #[.slice none 0 0,.slice none 0 0] 32)).alloc (.cells #[.slice none 0 0,.slice none 0 0] 32)):=((bel_a _ _).alloc (by simp) _).alloc (by simp;omega) _
 go_enter Tryz.func6,Tryz.ntmps6
 go_wp2_with fail
 refine (toGlobs_any _ es _ hse (HE.out.below hA)).mono ?_
 rintro e w1 ⟨v1,rfl,ho1,hb1⟩
 simp only [World.size_alloc] at ho1 hb1
 have HO1:=hide ho1
 obtain ⟨g1,xs1,rfl,-,-⟩:=ho1
 have hz1:w.heap.size+1+1+1<=w1.heap.size:=by have:=hb1.size;simpa using this
 have hB1:=hA.trans (hb1.mono o_)
 obtain ⟨⟨a0,a1⟩,⟨b0,b1⟩,⟨c0,c1⟩,fb,fc⟩:=box222 hb1
 go_wp2_with fail
 have hB1s:=hB1.setCell (p:=⟨w.heap.size+1+1,0,none⟩) (by simp;omega) (.slice (some ⟨g1,0,none⟩) es.length es.length)
 refine (toFuncs_any _ fs _ hsf HSM.out (HF.out.below hB1s)).mono ?_
 rintro e w2 ⟨v2,rfl,ho2,hb2⟩
 have HO2:=hide ho2
 obtain ⟨g2,xs2,V2,rfl,-,-,-⟩:=ho2
 have hz2:w1.heap.size<=w2.heap.size:=by have:=hb2.size;simpa using this
 have hB2:=hB1s.trans (hb2.mono (by simp;omega))
 have C0:w2.cell? ⟨w.heap.size+1+1,0,none⟩=some (.slice (some ⟨g1,0,none⟩) es.length es.length):=by rw [hb2.cell (by simp;omega)];go_simp
 have C1:w2.cell? ⟨w.heap.size+1+1,1,none⟩=some (.slice none 0 0):=by rw [hb2.cell (by simp;omega)];go_simp
 have B0:w2.cell? ⟨w.heap.size+1,0,none⟩=some (.slice none 0 0):=by rw [hb2.cell (by simp;omega)];go_simp
 have B1:w2.cell? ⟨w.heap.size+1,1,none⟩=some (.slice none 0 0):=by rw [hb2.cell (by simp;omega)];go_simp
 have FB : ∀i,w2.frozen? ⟨w.heap.size+1,i,none⟩=false:=fun i=>by rw [hb2.frozen (by simp;omega)];go_simp
 have FC : ∀i,w2.frozen? ⟨w.heap.size+1+1,i,none⟩=false:=fun i=>by rw [hb2.frozen (by simp;omega)];go_simp
 have K12:Keep (w.heap.size+1+1+1) w1 w2:=((Keep.refl _ _).setCell (by simp)).trans (by simp) (Keep.of_below hb2)
 have HK:=hide K12
 have HO2':=hide (HO2.out.mono (by simp;omega))
 go_wp2_with fail
 refine bodyPost_ret (v:=.agg #[.slice (some ⟨g1,0,none⟩) es.length es.length,.slice (some ⟨g2,0,none⟩) fs.length fs.length]) (by simp [results,Tryz.results6,go_sem,B0,B1]) rfl ⟨_,_,rfl,?_,?_,?_⟩
 ·exact ((HO1.out.keep HK.out).keep ((((Keep.refl _ _).setCell (by first | (simp;done) | (simp;omega))).setCell (by first | (simp;done) | (simp;omega))).setCell (by first | (simp;done) | (simp;omega)))).mono o_
 ·exact (HO2'.out.keep ((((Keep.refl _ _).setCell (by first | (simp;done) | (simp;omega))).setCell (by first | (simp;done) | (simp;omega))).setCell (by first | (simp;done) | (simp;omega)))).mono o_
 ·exact (((hB2).setCell (by first | (simp;done) | (simp;omega)) _).setCell (by first | (simp;done) | (simp;omega)) _).setCell (by first | (simp;done) | (simp;omega)) _
theorem ret_str {a b:ByteArray} (h:a=b):Ending.returned (.string a) = .returned (.string b):=by rw [h]
def dig (m:Nat):UInt8:=UInt8.ofNat (48+m % 10)
theorem dig_toNat (m:Nat):(dig m).toNat=48+m % 10:=by
 unfold dig
 simp only [UInt8.toNat_ofNat']
 omega
def digsN : Nat → Nat → List UInt8
 | 0, _ => []
 | k + 1, m => if m = 0 then [] else digsN k (m / 10) ++ [dig m]
theorem digsN_any : ∀ k j m : Nat, m ≤ k → m ≤ j → digsN k m = digsN j m
 | 0, 0, m, _, _ => rfl
 | 0, j + 1, m, h, _ => by obtain rfl : m = 0 := by omega
                           simp [digsN]
 | k + 1, 0, m, _, h => by obtain rfl : m = 0 := by omega
                           simp [digsN]
 | k + 1, j + 1, m, h, h' => by
   simp only [digsN]
   by_cases e : m = 0
   · rw [if_pos e, if_pos e]
   · rw [if_neg e, if_neg e, digsN_any k j (m / 10) o_ o_]
def digs (m : Nat) : List UInt8 := digsN m m
theorem digs_zero : digs 0 = [] := rfl
theorem digs_pos {m : Nat} (h : 0 < m) : digs m = digs (m / 10) ++ [dig m] := by
  obtain ⟨k, rfl⟩ : ∃ k, m = k + 1 := ⟨m - 1, by omega⟩
  show digsN (k + 1) (k + 1) = _
  rw [digsN, if_neg o_, digsN_any k ((k + 1) / 10) ((k + 1) / 10) o_ (Nat.le_refl _)]; rfl
theorem digs_len (n:Nat) : ∀m,m<=n->(digs m).length<=m:=by
 induction n with
 | zero=>
  intro m h
  have:m=0:=by omega
  rw [this,digs_zero]
  simp
 | succ n ih=>
  intro m h
  by_cases h0:m=0
  ·subst h0;simp [digs_zero]
  ·rw [digs_pos o_]
   have:=ih (m / 10) o_
   simp only [l_a,l_c,l_n]
   omega
def mtxt (k:Nat):ByteArray:=⟨(109::digs k).toArray⟩
theorem ba_cons (d:UInt8) (l:List UInt8):(⟨#[d]⟩:ByteArray)++⟨l.toArray⟩=⟨(d::l).toArray⟩:=by
 apply ByteArray.ext
 simp
theorem conv1 (m:Nat) (w:World):(convert 141 9 (.slice (some ⟨w.heap.size,0,none⟩) 1 1)).run Tryz.prog (w.alloc (.cells #[.int .u8 (48+(m:Int) % 10)] 5)) = .ok (.string ⟨#[dig m]⟩) (w.alloc (.cells #[.int .u8 (48+(m:Int) % 10)] 5)):=by
 refine run_convert_bytes_back (P:=Tryz.prog) (w.alloc (.cells #[.int .u8 (48+(m:Int) % 10)] 5)) 141 9 5 ⟨w.heap.size,0,none⟩ 1 [dig m] Tryz.underlying141 Tryz.underlying5 Tryz.underlying9 (fun j hj => ?_)
 obtain rfl:j=0:=by simpa using hj
 have e:(((dig m).toNat:Nat):Int)=48+(m:Int) % 10:=by rw [dig_toNat];omega
 simp [Addr.add,e]
theorem mtext_any (k:Nat) (hk:(k:Int)<=1000000000) (h0:0<k) (w:World):Calls Tryz.prog 60 #[.int .i64 k] w fun e w'=>e = .returned (.string (mtxt k))/\Below w.heap.size w w':=by
 have HK:Hid ((digs k).length<=k):=digs_len k k (Nat.le_refl _)
 go_enter Tryz.func60,Tryz.ntmps60
 go_wp2_with fail
 go_loopw [0,3] (fun q s wr=>∃(m:Nat) (l:List UInt8),(m:Int)<=1000000000/\q = .int .i64 m/\s = .string ⟨l.toArray⟩/\digs m++l=digs k/\Bl w wr) (fun q _ _=>(RowKit.intOf q).toNat)
 case atStart=>exact ⟨k,[],hk,rfl,rfl,by simp,Below.refl _ _⟩
 case round=>
  obtain ⟨m,l,hm,rfl,rfl,hl,hB⟩:=hrel
  have hll:(l.length:Int)<=1000000000:=by
   have h1:=congrArg List.length hl
   have h2:=HK.out
   simp only [l_a] at h1
   omega
  have hsz:(⟨l.toArray⟩:ByteArray).size=l.length:=by simp [ByteArray.size]
  have hs1:((⟨l.toArray⟩:ByteArray).size:Int)<=1000000000:=by rw [hsz];exact hll
  have HL:=hide hl
  have HE:=ba_cons (dig m) l
  have HE':=hide HE
  have HM:=hide (ba_cons 109 l)
  generalize hT:(⟨l.toArray⟩:ByteArray)=T at hs1 HE' HM ⊢
  have HT:=hide hT
  by_cases h1:0<m
  ·have hcv:=conv1 m
   have h1c:(⟨#[dig m]⟩:ByteArray).size=1:=rfl
   go_wp2_with fail
   go_roundw
   case rel=>
    refine ⟨m / 10,dig m::l,by omega,by go_num,by rw [<-HE'.out],?_,hB.alloc hB.size _⟩
    rw [<-HL.out,digs_pos h1]
    simp
   case measure=>simp [RowKit.intOf];omega
  ·go_wp2_with fail
   go_ret
   refine ⟨ret_str ?_,hB⟩
   have hz:m=0:=by omega
   have:=HL.out
   rw [hz,digs_zero,List.nil_append] at this
   rw [HM.out,this]
   rfl
structure Sh (B T:Nat) (w w':World):Prop where
 os:w'.os=w.os
 tape:w'.tape=w.tape
 output:w'.output=w.output
 size:w.heap.size<=w'.heap.size
 block : ∀k,k<w.heap.size->w'.heap[k]? = w.heap[k]? ∨ (B<=k/\k<T/\∃cur cur' t,w.heap[k]? = some (.cells cur t (0,0))/\w'.heap[k]? = some (.cells cur' t (0,0))/\cur'.size=cur.size/\∀(i:Nat) (a:Option Addr) (n c:Nat),cur'[i]? = some (.slice a n c)↔cur[i]? = some (.slice a n c))
theorem Sh.refl (B T:Nat) (w:World):Sh B T w w:=⟨rfl,rfl,rfl,Nat.le_refl _,fun _ _=>.inl rfl⟩
theorem Sh.trans {B T:Nat} {w1 w2 w3:World} (h:Sh B T w1 w2) (k:Sh B T w2 w3):Sh B T w1 w3:=by
 refine ⟨k.os.trans h.os,k.tape.trans h.tape,k.output.trans h.output,Nat.le_trans h.size k.size,fun i hi => ?_⟩
 rcases h.block i hi with h1 | ⟨b1,t1,c1,c2,t,e1,e2,s1,m1⟩
 ·rcases k.block i (by have:=h.size;omega) with h2 | ⟨b2,t2,d1,d2,u,f1,f2,s2,m2⟩
  ·exact .inl (h2.trans h1)
  ·exact .inr ⟨b2,t2,d1,d2,u,h1.symm.trans f1,f2,s2,m2⟩
 ·rcases k.block i (by have:=h.size;omega) with h2 | ⟨b2,t2,d1,d2,u,f1,f2,s2,m2⟩
  ·exact .inr ⟨b1,t1,c1,c2,t,e1,h2.trans e2,s1,m1⟩
  ·rw [e2] at f1
   injection f1 with f1
   injection f1 with f1 f1' _
   subst f1
   subst f1'
   exact .inr ⟨b1,t1,c1,d2,t,e1,f2,s2.trans s1,fun i a n c=>(m2 i a n c).trans (m1 i a n c)⟩
theorem Sh.of_below {B T:Nat} {w w':World} (h:Below w.heap.size w w'):Sh B T w w':=⟨h.os,h.tape,h.output,h.size,fun k hk=>.inl (h.block k hk)⟩
theorem Sh.below {B T:Nat} {w w':World} (h:Sh B T w w') (hB:B<=w.heap.size):Below B w w':=by
 refine ⟨h.os,h.tape,h.output,h.size,fun k hk => ?_⟩
 rcases h.block k o_ with h1 | ⟨b1,_⟩
 ·exact h1
 ·omega
theorem Sh.keep {B T:Nat} {w w':World} (h:Sh B T w w'):Keep T w w':=by
 intro k hk hl
 rcases h.block k hl with h1 | ⟨_,b2,_⟩
 ·exact h1
 ·omega
def plainV (v:Value):Prop:=∀a n c,v ≠ .slice a n c
theorem Sh.set {B T:Nat} {w:World} {g i:Nat} {cur:Array Value} {t:TypeId} {u v:Value} (hg:w.heap[g]? = some (.cells cur t (0,0))) (hB:B<=g) (hT:g<T) (hv:cur[i]? = some v) (pv:plainV v) (pu:plainV u):Sh B T w (w.setCell ⟨g,i,none⟩ u):=by
 refine ⟨rfl,rfl,rfl,by simp,fun k hk => ?_⟩
 by_cases e:k=g
 ·subst e
  refine .inr ⟨hB,hT,cur,cur.setIfInBounds i u,t,hg,heap_setCell_same w k i cur t u hg,by simp,fun j a n c => ?_⟩
  have hi:i<cur.size:=(Array.getElem?_eq_some_iff.1 hv).1
  rw [Array.getElem?_setIfInBounds]
  by_cases ej:i=j
  ·subst ej
   rw [if_pos rfl,if_pos hi,hv]
   constructor
   ·intro h;exact absurd (Option.some.inj h) (pu a n c)
   ·intro h;exact absurd (Option.some.inj h) (pv a n c)
  ·rw [if_neg ej]
 ·exact .inl (Below.heap_setCell w ⟨g,i,none⟩ u k e)
def RowM (B T:Nat) (t m:Nat) (w:World) (v:Value) (n:Nat) (C:Array Value->Prop):Prop:=∃g cur,v = .slice (some ⟨g,0,none⟩) n n/\B<=g/\g<T/\w.heap[g]? = some (.cells cur t (0,0))/\cur.size=n*m/\C cur
def plainAll (cur:Array Value):Prop:=∀(i:Nat) (v:Value),cur[i]? = some v->plainV v
theorem RowM.sh {B T t m n:Nat} {w w':World} {v:Value} {C:Array Value->Prop} (h:RowM B T t m w v n C) (s:Sh B T w w') (hC : ∀cur cur':Array Value,cur'.size=cur.size->(∀(i:Nat) (a:Option Addr) (n c:Nat),cur'[i]? = some (.slice a n c)↔cur[i]? = some (.slice a n c))->C cur->C cur'):RowM B T t m w' v n C:=by
 obtain ⟨g,cur,rfl,hB,hT,hg,hz,hc⟩:=h
 have hlt:=(Array.getElem?_eq_some_iff.1 hg).1
 rcases s.block g hlt with h1 | ⟨_,_,c1,c2,u,e1,e2,s1,m1⟩
 ·exact ⟨g,cur,rfl,hB,hT,h1.trans hg,hz,hc⟩
 ·rw [hg] at e1
  injection e1 with e1
  injection e1 with e1 e1' _
  subst e1
  subst e1'
  exact ⟨g,c2,rfl,hB,hT,e2,s1.trans hz,hC _ _ s1 m1 hc⟩
theorem plainAll_sh (cur cur':Array Value) (hs:cur'.size=cur.size) (h : ∀(i:Nat) (a:Option Addr) (n c:Nat),cur'[i]? = some (.slice a n c)↔cur[i]? = some (.slice a n c)) (hp:plainAll cur):plainAll cur':=by
 intro i v hv a n c e
 subst e
 exact hp i _ ((h i a n c).1 hv) a n c rfl
def PlainM (B T:Nat) (t m:Nat) (w:World) (v:Value) (n:Nat):Prop:=RowM B T t m w v n plainAll
theorem PlainM.sh {B T t m n:Nat} {w w':World} {v:Value} (h:PlainM B T t m w v n) (s:Sh B T w w'):PlainM B T t m w' v n:=RowM.sh h s plainAll_sh
theorem rowm_cell {w:World} {g i:Nat} {cur:Array Value} {t:TypeId} (hg:w.heap[g]? = some (.cells cur t (0,0))) (hi:i<cur.size):w.cell? ⟨g,i,none⟩=some cur[i]/\w.frozen? ⟨g,i,none⟩=false:=by
 refine ⟨?_,frozen_of_row w g i cur t hg⟩
 rw [cell_of_row w g i cur t (0,0) hg]
 simp [hi]
theorem plain_int (k:IntKind) (n:Int):plainV (.int k n):=fun _ _ _ h=>by cases h
theorem plain_str (s:ByteArray):plainV (.string s):=fun _ _ _ h=>by cases h
theorem PlainM.set {B T t m n:Nat} {w:World} {g i:Nat} {u:Value} (h:PlainM B T t m w (.slice (some ⟨g,0,none⟩) n n) n) (hi:i<n*m) (pu:plainV u):Sh B T w (w.setCell ⟨g,i,none⟩ u):=by
 obtain ⟨g',cur,he,hB,hT,hg,hz,hc⟩:=h
 simp only [Value.slice.injEq,Option.some.injEq,Addr.mk.injEq,and_true,true_and] at he
 subst he
 exact Sh.set hg hB hT (v:=cur[i]' o_) (by simp) (hc i _ (by simp)) pu
theorem PlainM.old {B T t m n:Nat} {w:World} {g i:Nat} (h:PlainM B T t m w (.slice (some ⟨g,0,none⟩) n n) n) (hi:i<n*m):(∃y,w.cell? ⟨g,i,none⟩=some y)/\w.frozen? ⟨g,i,none⟩=false:=by
 obtain ⟨g',cur,he,hB,hT,hg,hz,hc⟩:=h
 simp only [Value.slice.injEq,Option.some.injEq,Addr.mk.injEq,and_true,true_and] at he
 subst he
 have:=rowm_cell (i:=i) hg o_
 exact ⟨⟨_,this.1⟩,this.2⟩
def StmtsM (B T:Nat) (w:World) (v:Value) (ss:List St):Prop:=∃g cur,v = .slice (some ⟨g,0,none⟩) ss.length ss.length/\B<=g/\g<T/\w.heap[g]? = some (.cells cur 123 (0,0))/\cur.size=ss.length*6 /\
 ∀j (h:j<ss.length),(∃ve vf,cur[j*6+2]? = some ve/\cur[j*6+3]? = some vf/\PlainM B T 151 3 w ve ss[j].e.length/\PlainM B T 151 3 w vf ss[j].f.length) /\
  ∀i,i=0∨i=1∨i=4∨i=5->∀v,cur[j*6+i]? = some v->plainV v
def FuncsM (B T:Nat) (w:World) (v:Value) (fs:List Fu):Prop:=∃g cur,v = .slice (some ⟨g,0,none⟩) fs.length fs.length/\B<=g/\g<T/\w.heap[g]? = some (.cells cur 64 (0,0))/\cur.size=fs.length*3 /\
 ∀j (h:j<fs.length),(∃vp vb,cur[j*3+1]? = some vp/\cur[j*3+2]? = some vb/\PlainM B T 9 1 w vp fs[j].params.length/\StmtsM B T w vb fs[j].body)/\∀v,cur[j*3]? = some v->plainV v
theorem slice_kept {cur cur':Array Value} (m1 : ∀(i:Nat) (a:Option Addr) (n c:Nat),cur'[i]? = some (.slice a n c)↔cur[i]? = some (.slice a n c)) {i:Nat} {v:Value} (h:cur[i]? = some v) (hv : ∃a n c,v = .slice a n c):cur'[i]? = some v:=by
 obtain ⟨a,n,c,rfl⟩:=hv
 exact (m1 i a n c).2 h
theorem plain_kept {cur cur':Array Value} (hs:cur'.size=cur.size) (m1 : ∀(i:Nat) (a:Option Addr) (n c:Nat),cur'[i]? = some (.slice a n c)↔cur[i]? = some (.slice a n c)) {i:Nat} (h : ∀v,cur[i]? = some v->plainV v) : ∀v,cur'[i]? = some v->plainV v:=by
 intro v hv a n c e
 subst e
 exact h _ ((m1 i a n c).1 hv) a n c rfl
theorem PlainM.isSlice {B T t m n:Nat} {w:World} {v:Value} (h:PlainM B T t m w v n) : ∃a n c,v = .slice a n c:=by
 obtain ⟨g,cur,rfl,_⟩:=h
 exact ⟨_,_,_,rfl⟩
theorem StmtsM.isSlice {B T:Nat} {w:World} {v:Value} {ss:List St} (h:StmtsM B T w v ss) : ∃a n c,v = .slice a n c:=by
 obtain ⟨g,cur,rfl,_⟩:=h
 exact ⟨_,_,_,rfl⟩
theorem StmtsM.sh {B T:Nat} {w w':World} {v:Value} {ss:List St} (h:StmtsM B T w v ss) (s:Sh B T w w'):StmtsM B T w' v ss:=by
 obtain ⟨g,cur,rfl,hB,hT,hg,hz,hc⟩:=h
 have hlt:=(Array.getElem?_eq_some_iff.1 hg).1
 rcases s.block g hlt with h1 | ⟨_,_,c1,c2,u,e1,e2,s1,m1⟩
 ·refine ⟨g,cur,rfl,hB,hT,h1.trans hg,hz,fun j hj => ?_⟩
  obtain ⟨⟨ve,vf,k2,k3,p2,p3⟩,hp⟩:=hc j hj
  exact ⟨⟨ve,vf,k2,k3,p2.sh s,p3.sh s⟩,hp⟩
 ·rw [hg] at e1
  injection e1 with e1
  injection e1 with e1 e1' _
  subst e1
  subst e1'
  refine ⟨g,c2,rfl,hB,hT,e2,s1.trans hz,fun j hj => ?_⟩
  obtain ⟨⟨ve,vf,k2,k3,p2,p3⟩,hp⟩:=hc j hj
  exact ⟨⟨ve,vf,slice_kept m1 k2 p2.isSlice,slice_kept m1 k3 p3.isSlice,p2.sh s,p3.sh s⟩,fun i hi=>plain_kept s1 m1 (hp i hi)⟩
theorem FuncsM.sh {B T:Nat} {w w':World} {v:Value} {fs:List Fu} (h:FuncsM B T w v fs) (s:Sh B T w w'):FuncsM B T w' v fs:=by
 obtain ⟨g,cur,rfl,hB,hT,hg,hz,hc⟩:=h
 have hlt:=(Array.getElem?_eq_some_iff.1 hg).1
 rcases s.block g hlt with h1 | ⟨_,_,c1,c2,u,e1,e2,s1,m1⟩
 ·refine ⟨g,cur,rfl,hB,hT,h1.trans hg,hz,fun j hj => ?_⟩
  obtain ⟨⟨ve,vf,k2,k3,p2,p3⟩,hp⟩:=hc j hj
  exact ⟨⟨ve,vf,k2,k3,p2.sh s,p3.sh s⟩,hp⟩
 ·rw [hg] at e1
  injection e1 with e1
  injection e1 with e1 e1' _
  subst e1
  subst e1'
  refine ⟨g,c2,rfl,hB,hT,e2,s1.trans hz,fun j hj => ?_⟩
  obtain ⟨⟨ve,vf,k2,k3,p2,p3⟩,hp⟩:=hc j hj
  exact ⟨⟨ve,vf,slice_kept m1 k2 p2.isSlice,slice_kept m1 k3 p3.isSlice,p2.sh s,p3.sh s⟩,plain_kept s1 m1 hp⟩
theorem StmtsM.at {B T:Nat} {w:World} {g:Nat} {ss:List St} (h:StmtsM B T w (.slice (some ⟨g,0,none⟩) ss.length ss.length) ss) (j:Nat) (hj:j<ss.length) :
  ∃ve vf,w.cell? ⟨g,j*6+2,none⟩=some ve/\w.cell? ⟨g,j*6+3,none⟩=some vf/\PlainM B T 151 3 w ve ss[j].e.length/\PlainM B T 151 3 w vf ss[j].f.length /\
   ∀i,i=0∨i=1∨i=4∨i=5->(∃y,w.cell? ⟨g,j*6+i,none⟩=some y)/\w.frozen? ⟨g,j*6+i,none⟩=false/\∀u,plainV u->Sh B T w (w.setCell ⟨g,j*6+i,none⟩ u):=by
 obtain ⟨g',cur,he,hB,hT,hg,hz,hc⟩:=h
 simp only [Value.slice.injEq,Option.some.injEq,Addr.mk.injEq,and_true,true_and] at he
 subst he
 obtain ⟨⟨ve,vf,k2,k3,p2,p3⟩,hp⟩:=hc j hj
 refine ⟨ve,vf,?_,?_,p2,p3,fun i hi => ?_⟩
 ·rw [cell_of_row w g _ cur _ (0,0) hg];exact k2
 ·rw [cell_of_row w g _ cur _ (0,0) hg];exact k3
 ·have hlt:j*6+i<cur.size:=by omega
  have:=rowm_cell hg hlt
  exact ⟨⟨_,this.1⟩,this.2,fun u pu=>Sh.set hg hB hT (v:=cur[j*6+i]) (by simp [hlt]) (hp i hi _ (by simp [hlt])) pu⟩
theorem FuncsM.at {B T:Nat} {w:World} {g:Nat} {fs:List Fu} (h:FuncsM B T w (.slice (some ⟨g,0,none⟩) fs.length fs.length) fs) (j:Nat) (hj:j<fs.length) :
  ∃vp vb,w.cell? ⟨g,j*3+1,none⟩=some vp/\w.cell? ⟨g,j*3+2,none⟩=some vb/\PlainM B T 9 1 w vp fs[j].params.length/\StmtsM B T w vb fs[j].body /\
   (∃y,w.cell? ⟨g,j*3,none⟩=some y)/\w.frozen? ⟨g,j*3,none⟩=false/\∀u,plainV u->Sh B T w (w.setCell ⟨g,j*3,none⟩ u):=by
 obtain ⟨g',cur,he,hB,hT,hg,hz,hc⟩:=h
 simp only [Value.slice.injEq,Option.some.injEq,Addr.mk.injEq,and_true,true_and] at he
 subst he
 obtain ⟨⟨ve,vf,k2,k3,p2,p3⟩,hp⟩:=hc j hj
 have hlt:j*3<cur.size:=by omega
 have:=rowm_cell hg hlt
 refine ⟨ve,vf,?_,?_,p2,p3,⟨_,this.1⟩,this.2,fun u pu=>Sh.set hg hB hT (v:=cur[j*3]) (by simp [hlt]) (hp _ (by simp [hlt])) pu⟩
 ·rw [cell_of_row w g _ cur _ (0,0) hg];exact k2
 ·rw [cell_of_row w g _ cur _ (0,0) hg];exact k3
theorem ret_int' {k:IntKind} {a b:Int} (h:a=b):Ending.returned (.int k a) = .returned (.int k b):=by rw [h]
theorem markNodes_any (B T:Nat) (v:Value) (n k:Nat) (w:World) (hn:n<=1048576) (h0:0<k) (hk:(k:Int)+3*n<=1000000000) (h:PlainM B T 151 3 w v n) :
  Calls Tryz.prog 84 #[v,.int .i64 k] w fun e w'=>e = .returned (.int .i64 ((k+3*n:Nat):Int))/\Sh B T w w':=by
 have HP:=hide h
 obtain ⟨g,cur,rfl,-,-,-,-,-⟩:=h
 go_enter Tryz.func84,Tryz.ntmps84
 go_wp2_with fail
 go_loopw [1,5] (fun q i wr=>∃j:Nat,j<=n/\i = .int .i64 j/\q = .int .i64 ((k+3*j:Nat):Int)/\Sh B T w wr) (fun _ i _=>n-(RowKit.intOf i).toNat)
 case atStart=>exact ⟨0,Nat.zero_le _,rfl,by simp,Sh.refl _ _ _⟩
 case round=>
  obtain ⟨j,hj,rfl,rfl,hS⟩:=hrel
  by_cases hlt:j<n
  ·have hP:=HP.out.sh hS
   generalize hq:k+3*j=q
   have hqb:(q:Int)+3<=1000000000:=by omega
   have hq0:0<q:=by omega
   have HQ:=hide hq
   obtain ⟨⟨y0,o0⟩,f0⟩:=hP.old (i:=j*3) o_
   have s0:=hP.set (i:=j*3) (u:=.int .i64 ((q:Int))) o_ (plain_int _ _)
   have P0:=hP.sh s0
   have S0:=hS.trans s0
   obtain ⟨⟨y1,o1⟩,f1⟩:=P0.old (i:=j*3+1) o_
   have s1:=P0.set (i:=j*3+1) (u:=.int .i64 ((q:Int)+1)) o_ (plain_int _ _)
   have P1:=P0.sh s1
   have S1:=S0.trans s1
   obtain ⟨⟨y2,o2⟩,f2⟩:=P1.old (i:=j*3+2) o_
   have H2:=hide P1
   have HS2:=hide S1
   go_wp2_with fail
   rw [show ((q:Int)+1+1)=((q+2:Nat):Int) by omega]
   refine (mtext_any (q+2) o_ o_ _).mono ?_
   rintro e w2 ⟨rfl,hb2⟩
   have Q2:PlainM B T 151 3 w2 (.slice (some ⟨g,0,none⟩) n n) n:=PlainM.sh H2.out (Sh.of_below hb2)
   have R2:=HS2.out.trans (Sh.of_below hb2)
   obtain ⟨⟨z2,p2⟩,r2⟩:=Q2.old (i:=j*3+2) o_
   have s2:=Q2.set (i:=j*3+2) (u:=.string (mtxt (q+2))) o_ (plain_str _)
   have P2:=Q2.sh s2
   have S2:=R2.trans s2
   have HF:=hide S2
   try clear hP
   try clear hS
   go_wp2_with fail
   go_roundw
   case rel=>exact ⟨j+1,by omega,by go_num,by rw [show k+3*(j+1)=q+3 by have:=HQ.out;omega];go_num,HF.out⟩
   case measure=>simp [RowKit.intOf];omega
  ·go_wp2_with fail
   go_ret
   have hjn:j=n:=by omega
   exact ⟨ret_int' (by rw [hjn]),hS⟩
theorem markStrs_any (B T:Nat) (v:Value) (n k:Nat) (w:World) (hn:n<=1048576) (h0:0<k) (hk:(k:Int)+1*n<=1000000000) (h:PlainM B T 9 1 w v n) :
  Calls Tryz.prog 61 #[v,.int .i64 k] w fun e w'=>e = .returned (.int .i64 ((k+1*n:Nat):Int))/\Sh B T w w':=by
 have HP:=hide h
 obtain ⟨g,cur,rfl,-,-,-,-,-⟩:=h
 go_enter Tryz.func61,Tryz.ntmps61
 go_wp2_with fail
 go_loopw [1,5] (fun q i wr=>∃j:Nat,j<=n/\i = .int .i64 j/\q = .int .i64 ((k+1*j:Nat):Int)/\Sh B T w wr) (fun _ i _=>n-(RowKit.intOf i).toNat)
 case atStart=>exact ⟨0,Nat.zero_le _,rfl,by simp,Sh.refl _ _ _⟩
 case round=>
  obtain ⟨j,hj,rfl,rfl,hS⟩:=hrel
  by_cases hlt:j<n
  ·have hP:=HP.out.sh hS
   generalize hq:k+1*j=q
   have hqb:(q:Int)+1<=1000000000:=by omega
   have hq0:0<q:=by omega
   have HQ:=hide hq
   obtain ⟨⟨y0,o0⟩,f0⟩:=hP.old (i:=j) o_
   have H0:=hide hP
   have HS0:=hide hS
   go_wp2_with fail
   refine (mtext_any q o_ o_ _).mono ?_
   rintro e w0 ⟨rfl,hb0⟩
   have Q0:PlainM B T 9 1 w0 (.slice (some ⟨g,0,none⟩) n n) n:=PlainM.sh H0.out (Sh.of_below hb0)
   have R0:=HS0.out.trans (Sh.of_below hb0)
   obtain ⟨⟨z0,p0⟩,r0⟩:=Q0.old (i:=j) o_
   have s0:=Q0.set (i:=j) (u:=.string (mtxt q)) o_ (plain_str _)
   have P0:=Q0.sh s0
   have S0:=R0.trans s0
   have HF:=hide S0
   try clear hP
   try clear hS
   go_wp2_with fail
   go_roundw
   case rel=>exact ⟨j+1,by omega,by go_num,by rw [show k+1*(j+1)=q+1 by have:=HQ.out;omega];go_num,HF.out⟩
   case measure=>simp [RowKit.intOf];omega
  ·go_wp2_with fail
   go_ret
   have hjn:j=n:=by omega
   exact ⟨ret_int' (by rw [hjn]),hS⟩
theorem markGlobs_any (B T:Nat) (v:Value) (n k:Nat) (w:World) (hn:n<=1048576) (h0:0<k) (hk:(k:Int)+2*n<=1000000000) (h:PlainM B T 90 2 w v n) :
  Calls Tryz.prog 31 #[v,.int .i64 k] w fun e w'=>e = .returned (.int .i64 ((k+2*n:Nat):Int))/\Sh B T w w':=by
 have HP:=hide h
 obtain ⟨g,cur,rfl,-,-,-,-,-⟩:=h
 go_enter Tryz.func31,Tryz.ntmps31
 go_wp2_with fail
 go_loopw [1,5] (fun q i wr=>∃j:Nat,j<=n/\i = .int .i64 j/\q = .int .i64 ((k+2*j:Nat):Int)/\Sh B T w wr) (fun _ i _=>n-(RowKit.intOf i).toNat)
 case atStart=>exact ⟨0,Nat.zero_le _,rfl,by simp,Sh.refl _ _ _⟩
 case round=>
  obtain ⟨j,hj,rfl,rfl,hS⟩:=hrel
  by_cases hlt:j<n
  ·have hP:=HP.out.sh hS
   generalize hq:k+2*j=q
   have hqb:(q:Int)+2<=1000000000:=by omega
   have hq0:0<q:=by omega
   have HQ:=hide hq
   obtain ⟨⟨y0,o0⟩,f0⟩:=hP.old (i:=j*2) o_
   have H0:=hide hP
   have HS0:=hide hS
   go_wp2_with fail
   refine (mtext_any q o_ o_ _).mono ?_
   rintro e w0 ⟨rfl,hb0⟩
   have Q0:PlainM B T 90 2 w0 (.slice (some ⟨g,0,none⟩) n n) n:=PlainM.sh H0.out (Sh.of_below hb0)
   have R0:=HS0.out.trans (Sh.of_below hb0)
   obtain ⟨⟨z0,p0⟩,r0⟩:=Q0.old (i:=j*2) o_
   have s0:=Q0.set (i:=j*2) (u:=.string (mtxt q)) o_ (plain_str _)
   have P0:=Q0.sh s0
   have S0:=R0.trans s0
   obtain ⟨⟨y1,o1⟩,f1⟩:=P0.old (i:=j*2+1) o_
   have s1:=P0.set (i:=j*2+1) (u:=.int .i64 ((q:Int)+1)) o_ (plain_int _ _)
   have P1:=P0.sh s1
   have S1:=S0.trans s1
   have HF:=hide S1
   try clear hP
   try clear hS
   go_wp2_with fail
   go_roundw
   case rel=>exact ⟨j+1,by omega,by go_num,by rw [show k+2*(j+1)=q+2 by have:=HQ.out;omega];go_num,HF.out⟩
   case measure=>simp [RowKit.intOf];omega
  ·go_wp2_with fail
   go_ret
   have hjn:j=n:=by omega
   exact ⟨ret_int' (by rw [hjn]),hS⟩
end Go.Proofs.YtnpidjamplmgjaaGreatDoor
