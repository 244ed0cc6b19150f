import Derived.Test.YtnpidjamplmgjaaGreatDoorQ29
import Derived.Deep.RegionHeld3
import Derived.Deep.LoopGhost
set_option linter.unusedSectionVars false
variable [Inhabited Go.Proofs.YtnpidjamplmgjaaGreatDoor.Pick]
namespace Go.Proofs.YtnpidjamplmgjaaGreatDoor
open Go.RowKit
set_option linter.unusedVariables false
set_option linter.unusedSimpArgs false
set_option maxRecDepth 100000
set_option maxHeartbeats 16000000
def flt (L:List Nat) (j:Nat):List Nat:=(List.range j).filter (fun g=>decide (g∈L))
theorem flt_yes {L:List Nat} {j:Nat} (h:j∈L):flt L (j+1)=flt L j++[j]:=by simp [flt,List.range_succ,List.filter_append,h]
theorem flt_no {L:List Nat} {j:Nat} (h : ¬j∈L):flt L (j+1)=flt L j:=by simp [flt,List.range_succ,List.filter_append,h]
theorem flt_len (L:List Nat) (j:Nat):(flt L j).length<=j:=by
 have:=List.length_filter_le (fun g=>decide (g∈L)) (List.range j)
 simpa [flt] using this
def IRow (B:Nat) (w:World) (v:Value) (l:List Nat):Prop:=w.ownsRow B 2 1 v l.length (l.map (fun g:Nat=>Value.int .i64 (g:Int)))
theorem IRow.shape {B:Nat} {w:World} {v:Value} {l:List Nat} (h:IRow B w v l) : ∃a c,v = .slice a l.length c:=by
 rcases h.2 with ⟨rfl,hz⟩ | ⟨g,cap,cur,rfl,_⟩
 ·exact ⟨none,0,by rw [hz]⟩
 ·exact ⟨_,cap,rfl⟩
theorem IRow.below {B:Nat} {w w':World} {v:Value} {l:List Nat} (h:IRow B w v l) (hb:Below w.heap.size w w'):IRow B w' v l:=ownB h hb
theorem irow_lit (W:World) (B:Nat) (hB:B<=W.heap.size):IRow B (W.alloc (.cells #[] 2)) (.slice (some ⟨W.heap.size,0,none⟩) 0 0) []:=World.ownsRow_lit W #[] 0 hB (by decide) rfl
theorem IRow.ints {B:Nat} {w:World} {v:Value} {l:List Nat} (h:IRow B w v l):Ints w v (l.map (fun g:Nat=>(g:Int))):=by
 refine own_ints (N:=B) ?_
 rw [List.length_map,List.map_map]
 exact h
def tl (n:Nat) (L:List Nat):List Value:=(List.range n).map (fun g=>Value.bool (decide (g∈L)))
theorem tl_snoc (n:Nat):tl n []++[.bool false]=tl (n+1) []:=by simp [tl,List.range_succ]
theorem tl_at (n:Nat) (L:List Nat) (g:Nat) (h:g<n):(tl n L)[g]? = some (.bool (decide (g∈L))):=by simp [tl,h]
theorem tl_set (n:Nat) (L:List Nat) (g:Nat) (h:g<n):(tl n L).set g (.bool true)=tl n (L++[g]):=by
 apply List.ext_getElem
 ·simp [tl]
 ·intro i h1 h2
  rw [List.getElem_set]
  by_cases e:g=i
  ·subst e;simp [tl]
  ·rw [if_neg e]
   have e' : ¬i=g:=fun h=>e h.symm
   simp [tl,e']
def TRow (B:Nat) (w:World) (v:Value) (n:Nat) (L:List Nat):Prop:=w.ownsRow B 4 1 v n (tl n L)
theorem info_bool:(Tryz.prog.info? 4).map (fun i=>(i.zero,i.size,i.bytes))=some (some (.bool false),1,1):=by kernel_rfl
theorem info_i64:(Tryz.prog.info? 2).map (fun i=>(i.zero,i.size,i.bytes))=some (some (.int .i64 0),1,8):=by kernel_rfl
theorem TRow.below {B:Nat} {w w':World} {v:Value} {n:Nat} {L:List Nat} (h:TRow B w v n L) (hb:Below w.heap.size w w'):TRow B w' v n L:=ownB h hb
theorem TRow.form {B:Nat} {w:World} {v:Value} {n:Nat} {L:List Nat} (h:TRow B w v n L) (hn:0<n) : ∃g c,v = .slice (some ⟨g,0,none⟩) n c/\B<=g/\g<w.heap.size:=by
 have h0:=h
 rcases h.2 with ⟨_,hz⟩ | ⟨g,cap,cur,rfl,hbg,_⟩
 ·omega
 ·exact ⟨g,cap,rfl,hbg,(World.ownsRow.lt h0 g rfl).2⟩
theorem TRow.shape {B:Nat} {w:World} {v:Value} {n:Nat} {L:List Nat} (h:TRow B w v n L) : ∃a c,v = .slice a n c:=by
 rcases h.2 with ⟨rfl,hz⟩ | ⟨g,cap,cur,rfl,_⟩
 ·exact ⟨none,0,by rw [hz]⟩
 ·exact ⟨_,cap,rfl⟩
theorem trow_lit (W:World) (B:Nat) (hB:B<=W.heap.size):TRow B (W.alloc (.cells #[] 4)) (.slice (some ⟨W.heap.size,0,none⟩) 0 0) 0 []:=World.ownsRow_lit W #[] 0 hB (by decide) rfl
theorem TRow.cell {B g c:Nat} {w:World} {n:Nat} {L:List Nat} (h:TRow B w (.slice (some ⟨g,0,none⟩) n c) n L) (j:Nat) (hj:j<n):w.cell? ⟨g,j,none⟩=some (.bool (decide (j∈L)))/\w.frozen? ⟨g,j,none⟩=false:=by
 refine ⟨?_,World.ownsRow.frozenAt h j⟩
 have:=World.ownsRow.cells h (g:=g) rfl j _ (tl_at n L j hj)
 rw [addrO] at this
 simpa using this
theorem TRow.put {B g c:Nat} {w:World} {n:Nat} {L:List Nat} (h:TRow B w (.slice (some ⟨g,0,none⟩) n c) n L) (j:Nat) (hj:j<n):TRow B (w.setCell ⟨g,j,none⟩ (.bool true)) (.slice (some ⟨g,0,none⟩) n c) n (L++[j]):=by
 have:=(World.ownsRow.stored h j (.bool true)).1
 rw [tl_set n L j hj] at this
 exact this
theorem Nodes.set {w:World} {v:Value} {ns:List Nd} {g:Nat} (h:Nodes w v ns) (hne:v.ownBlock≠some g) (o:Nat) (u:Value):Nodes (w.setCell ⟨g,o,none⟩ u) v ns:=by
 obtain ⟨a,cap,rfl,h1,h2,h3⟩:=h
 refine ⟨a,cap,rfl,h1,h2,fun h0 => ?_⟩
 obtain ⟨b,off,rfl,hc⟩:=h3 h0
 have hb:b≠g:=fun e=>hne (by simp [Value.ownBlock,e])
 refine ⟨b,off,rfl,fun j hj => ?_⟩
 obtain ⟨c0,c1,c2⟩:=hc j hj
 refine ⟨?_,?_,?_⟩
 ·rw [World.cell?_setCell_other _ _ _ _ (by intro h;simp only [Addr.mk.injEq] at h;exact hb h.1.symm)];exact c0
 ·rw [World.cell?_setCell_other _ _ _ _ (by intro h;simp only [Addr.mk.injEq] at h;exact hb h.1.symm)];exact c1
 ·rw [World.cell?_setCell_other _ _ _ _ (by intro h;simp only [Addr.mk.injEq] at h;exact hb h.1.symm)];exact c2
theorem nrow_lit (W:World) (B:Nat) (hB:B<=W.heap.size):NRow B (W.alloc (.cells #[] 151)) (.slice (some ⟨W.heap.size,0,none⟩) 0 0) []:=
 World.ownsRow_lit W #[] 0 hB (by decide) rfl
theorem bcellD {W w1:World} (hb:Below W.heap.size W w1):(∀b o,b<W.heap.size->w1.cell? ⟨b,o,none⟩=W.cell? ⟨b,o,none⟩)/\(∀b o,b<W.heap.size->w1.frozen? ⟨b,o,none⟩=W.frozen? ⟨b,o,none⟩):=
 ⟨fun b o h=>hb.cell (p:=⟨b,o,none⟩) h,fun b o h=>hb.frozen (p:=⟨b,o,none⟩) h⟩
theorem IRow.base {B B':Nat} {w:World} {v:Value} {l:List Nat} (h:IRow B w v l) (hb:B'<=B):IRow B' w v l:=by
 obtain ⟨g1,g2⟩:=h
 refine ⟨g1,?_⟩
 rcases g2 with g2 | ⟨g,cap,cur,rfl,g3,g4⟩
 ·exact .inl g2
 ·exact .inr ⟨g,cap,cur,rfl,Nat.le_trans hb g3,g4⟩
theorem l3calls_row (fs:List Fu) (vg vf:Value) (p:Nat) (w:World) (hp:p<fs.length) (hl:fs.length<=1048576) (hsm:smallF fs[p]) (hg : ∃a n c,vg = .slice a n c) (hf:Funcs w vf fs) :
  Calls Tryz.prog 67 #[.agg #[vg,vf],.int .i64 (p:Int)] w fun e w'=>∃v,e = .returned v/\IRow w.heap.size w' v (callsL fs fs[p].body)/\Below w.heap.size w w':=by
 obtain ⟨ag,ng,cg,rfl⟩:=hg
 have HF:=hide hf
 obtain ⟨af,cf,rfl,-,-,hfc⟩:=hf
 obtain ⟨b,off,rfl,hc⟩:=hfc o_
 obtain ⟨vp,vb,⟨d0,d1,d2⟩,-,hb⟩:=hc p hp
 have hlb:b<w.heap.size:=World.block_lt_of_cell? _ _ d0
 have HD2:=hide d2
 obtain ⟨ab,cb,rfl,-,-,hbc⟩:=hb
 have HBC:=hide hbc
 have HSm:Hid (∀s∈fs[p].body,smallS s):=hsm.2.2
 have hbl:fs[p].body.length<=1048576:=hsm.2.1
 clear hfc hc d0 d1 d2 hbc hsm
 generalize fs[p].body=body at HD2 HBC HSm hbl ⊢
 obtain ⟨i0,hi,hz0,hz1,hz2⟩:=info_parts info_bool
 obtain ⟨i1,hj,hy0,hy1,hy2⟩:=info_parts info_i64
 go_enter Tryz.func67,Tryz.ntmps67
 go_wp2_with fail
 go_loopw [5,6] (fun v i wr=>∃k:Nat,k<=fs.length/\i = .int .i64 k/\TRow (w.heap.size+1) wr v k []/\Below (w.heap.size+1) (w.alloc (.cells #[.slice ag ng cg,.slice (some ⟨b,off,none⟩) fs.length cf] 32)) wr) (fun _ i _=>fs.length-(RowKit.intOf i).toNat)
 case atStart=>exact ⟨0,Nat.zero_le _,rfl,(by have:=trow_lit (w.alloc (.cells #[.slice ag ng cg,.slice (some ⟨b,off,none⟩) fs.length cf] 32)) (w.heap.size+1) (by simp);rw [World.size_alloc] at this;exact this),(Below.refl _ _).alloc (by simp) _⟩
 case round=>
  obtain ⟨k,hk,rfl,hR,hB⟩:=hrel
  obtain ⟨a5,c5,rfl⟩:=hR.shape
  have HR:=hide hR
  obtain ⟨x0,x1⟩:=box2 hB
  have hs1:w.heap.size+1<=wr.heap.size:=by have:=hB.size;simpa using this
  by_cases hlt:k<fs.length
  ·clear hR
   go_wp2_with (at_builtin;refine wpList_appF rfl _ _ _ rfl (w.heap.size+1) 4 i0 _ 1 1 Tryz.underlying149 hi hz0 hz1 hz2 rfl (by decide) _ k (tl k []) rfl (HR.out.below (bel_a _ _)) ⟨wr.heap.size,0,none⟩ 1 1 [.bool false] rfl rfl (cell_one_new _ _ _) (by simp [Value.oneCell']) o_ (by decide) (by simp;omega) ?_)
   intro v1 w1 ho1 hg1 hf1
   rw [tl_snoc] at ho1
   have HR1:Hid (TRow (w.heap.size+1) w1 v1 (k+1) []):=ho1
   have hB1:Below (w.heap.size+1) (w.alloc (.cells #[.slice ag ng cg,.slice (some ⟨b,off,none⟩) fs.length cf] 32)) w1:=(hB.alloc hs1 _).grown hg1 (by simp;omega) (fun g hg=>(World.ownsRow.lt HR.out g hg).1)
   obtain ⟨a6,c6,rfl⟩:=HR1.out.shape
   clear ho1 hg1 hf1
   go_wp2_with fail
   go_roundw
   case rel=>exact ⟨k+1,by omega,by go_num,HR1.out,hB1⟩
   case measure=>simp [RowKit.intOf];omega
  ·have hkk:k=fs.length:=by omega
   subst hkk
   obtain ⟨g5,c5',he,hg5,hg5'⟩:=hR.form o_
   simp only [Value.slice.injEq,true_and] at he
   obtain ⟨rfl,rfl⟩:=he
   have hB1:=one_below hB
   have dB:=(hB1.cell (p:=⟨b,off+p*3+2,none⟩) hlb).trans HD2.out
   clear hR
   go_wp2_with fail
   clear dB x0 x1
   go_loopw [8] (fun i w2=>∃q:Nat,q<=body.length/\i = .int .i64 q/\TRow (w.heap.size+1) w2 (.slice (some ⟨g5,0,none⟩) fs.length c5) fs.length (callN fs (nodesOf (body.take q)))/\g5<w2.heap.size/\Below (w.heap.size+1) (w.alloc (.cells #[.slice ag ng cg,.slice (some ⟨b,off,none⟩) fs.length cf] 32)) w2) (fun i _=>body.length-(RowKit.intOf i).toNat)
   case atStart=>exact ⟨0,Nat.zero_le _,rfl,HR.out,hg5',hB⟩
   case round=>
    clear hB hB1 HR hs1 hg5'
    obtain ⟨q,hq,rfl,hR,hg5',hB⟩:=hrel
    have HR:=hide hR
    have hs1:w.heap.size+1<=wr.heap.size:=by have:=hB.size;simpa using this
    have hB1:=one_below hB
    clear hR
    by_cases hlt:q<body.length
    ·obtain ⟨b',off',rfl,hc⟩:=HBC.out o_
     obtain ⟨ve,vf,⟨c0,c1,c2,c3,c4,c5x⟩,he,hf⟩:=(hc.below hB1) q hlt
     have hlb':b'<wr.heap.size:=World.block_lt_of_cell? _ _ c0
     have HE:Hid (nodesOf (body.take (q+1))=nodesOf (body.take q)++(body[q].e++body[q].f)):=by show _=_;rw [take_succ body q hlt,nodesOf_snoc]
     have HS:Hid (smallS body[q]):=HSm.out _ (List.getElem_mem hlt)
     clear hc c0 c1 c4 c5x
     generalize body[q]=s at c2 c3 he hf HE HS
     generalize nodesOf (body.take q)=pre at HR HE
     have HNe:=hide he
     have HNf:=hide hf
     obtain ⟨ae,ce,rfl,-⟩:=he
     obtain ⟨af,cf',rfl,-⟩:=hf
     have he1:s.e.length<=1048576:=HS.out.1
     have hf1:s.f.length<=1048576:=HS.out.2
     have hbW:Bl wr (wr.drew.alloc (.cells #[] 151)):=((Below.refl wr.heap.size wr).drew).alloc (Nat.le_refl _) _
     have HNe0:=hide (HNe.out.below hbW)
     have HR0:Hid (NRow wr.heap.size (wr.drew.alloc (.cells #[] 151)) (.slice (some ⟨wr.heap.size,0,none⟩) 0 0) []):=nrow_lit wr.drew _ (Nat.le_refl _)
     have hn0:wr.heap.size<=(wr.drew.alloc (.cells #[] 151)).heap.size:=hbW.size
     have hne2:=World.new_ne wr ⟨b',off'+q*6+2,none⟩ c2
     have hne3:=World.new_ne wr ⟨b',off'+q*6+3,none⟩ c3
     go_wp2_with fail
     go_region_held_law (fun W=>W.cell? ⟨b',off'+q*6+2,none⟩=some (.slice ae s.e.length ce)/\W.cell? ⟨b',off'+q*6+3,none⟩=some (.slice af s.f.length cf')) (first | go_keep | (go_split_ands;exact ⟨y0,y1⟩) | (go_split_ands;exact ⟨z0,z1⟩))
      (first
      | (refine step_appN (by rfl) _ _ (by rfl) wr.heap.size (.slice (some ⟨wr.heap.size,0,none⟩) 0 0) [] (by rfl) HR0.out (.slice ae s.e.length ce) s.e (by rfl) HNe0.out (by simp;omega) hn0 ?_;intro v1 w1 hr1 hg1 hf1;have hb1:Bl wr w1:=hbW.grown hg1 hn0 (fun j hj=>by cases hj;exact Nat.le_refl _);have y0:=((bcellD hb1).1 b' (off'+q*6+2) hlb').trans c2;have y1:=((bcellD hb1).1 b' (off'+q*6+3) hlb').trans c3)
      | (refine step_appN (by rfl) _ _ (by rfl) wr.heap.size v1 s.e (by rfl) hr1 (.slice af s.f.length cf') s.f (by rfl) (HNf.out.below hb1) o_ hb1.size ?_;intro v2 w2 hr2 hg2 hf2;have hb2:Bl wr w2:=hb1.grown hg2 hb1.size (fun j hj=>(World.ownsRow.lt hr1 j hj).1);have z0:=((bcellD hb2).1 b' (off'+q*6+2) hlb').trans c2;have z1:=((bcellD hb2).1 b' (off'+q*6+3) hlb').trans c3))
     have HAl:Hid (Nodes w2 v2 (s.e++s.f)):=hr2.nodes
     have hv2:v2.ownBlock≠some g5:=fun h=>by have:=(World.ownsRow.lt hr2 g5 h).1;omega
     have HR2:=hide (HR.out.below hb2)
     have HB2:=hide (hB.trans (hb2.mono hs1))
     have hg52:g5<w2.heap.size:=Nat.lt_of_lt_of_le hg5' hb2.size
     have hal:(s.e++s.f).length<=2097152:=by simp;omega
     obtain ⟨a9,c9,rfl,-⟩:=HAl.out
     clear hr1 hg1 hf1 hb1 hr2 hg2 hf2 hb2 y0 y1 z0 z1 c2 c3 hne2 hne3 hbW HNe0 HR0 hn0 HNe HNf HR
     generalize s.e++s.f=al at HAl hv2 hal HE ⊢
     go_wp2_with fail
     go_loopw [10] (fun i w4=>∃j:Nat,j<=al.length/\i = .int .i64 j/\TRow (w.heap.size+1) w4 (.slice (some ⟨g5,0,none⟩) fs.length c5) fs.length (callN fs (pre++al.take j))/\g5<w4.heap.size/\Nodes w4 (.slice a9 al.length c9) al/\Below (w.heap.size+1) (w.alloc (.cells #[.slice ag ng cg,.slice (some ⟨b,off,none⟩) fs.length cf] 32)) w4) (fun i _=>al.length-(RowKit.intOf i).toNat)
     case atStart=>exact ⟨0,Nat.zero_le _,rfl,by simpa using HR2.out,hg52,HAl.out,HB2.out⟩
     case round=>
      clear hB hB1 hs1 hg5' hg52 HAl HB2 HR2
      obtain ⟨j,hj,rfl,hR,hg5',hAl,hB⟩:=hrel
      have HR:=hide hR
      have HAl:=hide hAl
      have hs1:w.heap.size+1<=wr.heap.size:=by have:=hB.size;simpa using this
      have hB1:=one_below hB
      obtain ⟨x0,x1⟩:=box2 hB
      clear hR
      by_cases hjl:j<al.length
      ·obtain ⟨_,_,he0,-,-,hac⟩:=hAl
       simp only [Value.slice.injEq,true_and] at he0
       obtain ⟨rfl,rfl⟩:=he0
       obtain ⟨b9,o9,rfl,hC⟩:=hac o_
       obtain ⟨c0,c1,c2⟩:=hC j hjl
       have hl9:b9<wr.heap.size:=World.block_lt_of_cell? _ _ c0
       have HT:Hid (pre++al.take (j+1)=pre++al.take j++[al[j]]):=by show _=_;rw [take_succ al j hjl];simp
       have hl0:w.heap.size<wr.heap.size:=hs1
       clear hC hac
       generalize al[j]=n at c0 c1 c2 HT
       generalize pre++al.take j=done at HR HT
       by_cases h4:n.kind=4
       ·obtain ⟨kd,vl,nm⟩:=n
        simp only at c0 c1 c2 h4
        subst h4
        have HFw:=hide (HF.out.below (hB1.trans ((Below.refl _ _).drew.mono hB1.size)))
        go_wp2_with fail
        go_region_held3 (fun W=>W.cell? ⟨w.heap.size,0,none⟩=some (.slice ag ng cg)/\W.cell? ⟨w.heap.size,1,none⟩=some (.slice (some ⟨b,off,none⟩) fs.length cf)/\W.cell? ⟨b9,o9+j*3+2,none⟩=some (.string nm)) (go_simp)
         (first
         | (go_at_call 17;refine (l3func_any fs _ _ nm _ hl HFw.out).mono ?_;rintro e w5 ⟨rfl,hb5⟩;have hcc : ∀b o,b<wr.heap.size->w5.cell? ⟨b,o,none⟩=wr.cell? ⟨b,o,none⟩:=(bcellD hb5).1))
        have hb5':Bl wr w5:=(Below.refl _ _).drew.trans hb5
        have HR5:=hide (HR.out.below hb5')
        have HAl5:=hide (HAl.out.below hb5')
        have hB5:=hB.trans (hb5'.mono hs1)
        have hg55:g5<w5.heap.size:=Nat.lt_of_lt_of_le hg5' hb5'.size
        clear hb5 hb5' c0 c1 c2 x0 x1 hcc
        cases hv:fnum fs nm with
        | none=>
         have HC:Hid (callN fs (pre++al.take (j+1))=callN fs done):=by show _=_;rw [HT.out];exact callN_snoc_no (fun _=>hv)
         rw [fnumI_none hv]
         clear hv
         go_wp2_with fail
         go_roundw
         case rel=>exact ⟨j+1,by omega,by go_num,by rw [HC.out];exact HR5.out,hg55,HAl5.out,hB5⟩
         case measure=>simp [RowKit.intOf];omega
        | some g=>
         have HC:Hid (callN fs (pre++al.take (j+1))=callN fs done++[g]):=by show _=_;rw [HT.out];exact callN_snoc_yes rfl hv
         have hgl:g<fs.length:=fnum_lt hv
         obtain ⟨⟨y0,t0⟩,f0⟩:(∃y,w5.cell? ⟨g5,g,none⟩=some y)/\w5.frozen? ⟨g5,g,none⟩=false:=⟨⟨_,(HR5.out.cell g hgl).1⟩,(HR5.out.cell g hgl).2⟩
         rw [fnumI_some hv]
         clear hv
         go_wp2_with fail
         go_roundw
         case rel=>exact ⟨j+1,by omega,by go_num,by rw [HC.out];exact HR5.out.put g hgl,by simpa using hg55,HAl5.out.set hv2 _ _,hB5.setCell hg5 _⟩
         case measure=>simp [RowKit.intOf];omega
       ·have HC:Hid (callN fs (pre++al.take (j+1))=callN fs done):=by show _=_;rw [HT.out];exact callN_snoc_no (fun h=>absurd h h4)
        go_wp2_with fail
        go_roundw
        case rel=>exact ⟨j+1,by omega,by go_num,by rw [HC.out];exact HR.out,hg5',HAl.out,hB⟩
        case measure=>simp [RowKit.intOf];omega
      ·have HC:Hid (nodesOf (body.take (q+1))=pre++al.take j):=by show _=_;rw [HE.out,List.take_of_length_le o_]
       clear hAl x0 x1
       go_wp2_with fail
       go_roundw
       case rel=>exact ⟨q+1,by omega,by go_num,by rw [HC.out];exact HR.out,hg5',hB⟩
       case measure=>simp [RowKit.intOf];omega
    ·have HC:Hid (nodesOf (body.take q)=nodesOf body):=by show _=_;rw [List.take_of_length_le o_]
     have HRq:Hid (TRow (w.heap.size+1) wr (.slice (some ⟨g5,0,none⟩) fs.length c5) fs.length (callN fs (nodesOf body))):=by have:=HR.out;rw [HC.out] at this;exact this
     have HCL:Hid (callsL fs body=flt (callN fs (nodesOf body)) fs.length):=rfl
     generalize callN fs (nodesOf body)=L at HRq HCL
     clear HR HC
     go_wp2_with fail
     have HO0:=hide (irow_lit wr _ (Nat.le_refl _))
     have HR0:Hid (TRow (w.heap.size+1) (wr.alloc (.cells #[] 2)) (.slice (some ⟨g5,0,none⟩) fs.length c5) fs.length L):=HRq.out.below (bel_a _ _)
     obtain ⟨M,hM⟩ : ∃M,M=wr.heap.size:=⟨_,rfl⟩
     have hg5M:g5<M:=by omega
     have hsM:w.heap.size<=M:=by omega
     rw [<-hM] at HO0
     go_loopw [12,13] (fun o i w2=>∃j:Nat,j<=fs.length/\i = .int .i64 j/\IRow M w2 o (flt L j)/\TRow (w.heap.size+1) w2 (.slice (some ⟨g5,0,none⟩) fs.length c5) fs.length L/\M<=w2.heap.size/\Bl w w2) (fun _ i _=>fs.length-(RowKit.intOf i).toNat)
     case atStart=>exact ⟨0,Nat.zero_le _,rfl,by rw [<-hM];exact HO0.out,HR0.out,by simp;omega,hB1.alloc hB1.size _⟩
     case round=>
      clear HO0 HR0 HRq hB hB1 hs1 hg5' hM
      obtain ⟨j,hj',rfl,hO,hR,hMs,hB⟩:=hrel
      obtain ⟨a6,c6,rfl⟩:=hO.shape
      have HO:=hide hO
      have HR:=hide hR
      have hfl:=flt_len L j
      clear hO
      by_cases hjl:j<fs.length
      ·have t0:=(hR.cell j hjl).1
       clear hR
       by_cases hm:j∈L
       ·rw [decide_eq_true hm] at t0
        have HE:Hid (flt L (j+1)=flt L j++[j]):=flt_yes hm
        clear hm
        go_wp2_with (at_builtin;refine wpList_appF rfl _ _ _ rfl M 2 i1 _ 1 8 Tryz.underlying82 hj hy0 hy1 hy2 rfl (by decide) _ (flt L j).length ((flt L j).map (fun g:Nat=>Value.int .i64 (g:Int))) rfl (HO.out.below (bel_a _ _)) ⟨wr.heap.size,0,none⟩ 1 1 [.int .i64 (j:Int)] rfl rfl (cell_one_new _ _ _) (by simp [Value.oneCell']) o_ (by decide) (by simp;omega) ?_)
        intro v1 w1 ho1 hg1 hf1
        have HO1:Hid (IRow M w1 v1 (flt L (j+1))):=by
         show w1.ownsRow _ _ _ _ _ _
         rw [HE.out]
         simpa using ho1
        have hrow : ∀g,(Value.slice a6 (flt L j).length c6).ownBlock=some g->M<=g:=fun g hg=>(World.ownsRow.lt HO.out g hg).1
        have HR1:Hid (TRow (w.heap.size+1) w1 (.slice (some ⟨g5,0,none⟩) fs.length c5) fs.length L):=ownG (HR.out.below (bel_a _ _)) hg1 (fun g hg h=>by simp only [Value.ownBlock,Option.some.injEq] at hg;have:=hrow g h;omega)
        have hB1:Bl w w1:=(hB.alloc hB.size _).grown hg1 (by have:=hB.size;simp;omega) (fun g hg=>by have:=hrow g hg;omega)
        have hM1:M<=w1.heap.size:=by have:=hg1.size;simp at this;omega
        obtain ⟨a7,c7,rfl⟩:=HO1.out.shape
        clear ho1 hg1 hf1
        go_wp2_with fail
        go_roundw
        case rel=>exact ⟨j+1,by omega,by go_num,HO1.out,HR1.out,hM1,hB1⟩
        case measure=>simp [RowKit.intOf];omega
       ·rw [decide_eq_false hm] at t0
        have HE:Hid (flt L (j+1)=flt L j):=flt_no hm
        clear hm
        go_wp2_with fail
        go_roundw
        case rel=>exact ⟨j+1,by omega,by go_num,by rw [HE.out];exact HO.out,HR.out,hMs,hB⟩
        case measure=>simp [RowKit.intOf];omega
      ·obtain rfl:j=fs.length:=by omega
       clear hR
       go_wp2_with fail
       go_ret
       exact ⟨_,rfl,by rw [HCL.out];exact IRow.base HO.out hsM,hB⟩
theorem l3calls_any (fs:List Fu) (vg vf:Value) (p:Nat) (w:World) (hp:p<fs.length) (hl:fs.length<=1048576) (hsm:smallF fs[p]) (hg : ∃a n c,vg = .slice a n c) (hf:Funcs w vf fs) :
  Calls Tryz.prog 67 #[.agg #[vg,vf],.int .i64 (p:Int)] w fun e w'=>∃v,e = .returned v/\Ints w' v ((callsL fs fs[p].body).map (fun g:Nat=>(g:Int)))/\Below w.heap.size w w':=by
 refine (l3calls_row fs vg vf p w hp hl hsm hg hf).mono ?_
 rintro e w' ⟨v,rfl,h,hb⟩
 exact ⟨v,rfl,h.ints,hb⟩
theorem Ints.set {w:World} {v:Value} {l:List Int} {g:Nat} (h:Ints w v l) (hne:v.ownBlock≠some g) (o:Nat) (u:Value):Ints (w.setCell ⟨g,o,none⟩ u) v l:=by
 obtain ⟨a,cap,rfl,h3⟩:=h
 refine ⟨a,cap,rfl,fun h0 => ?_⟩
 obtain ⟨b,rfl,hc⟩:=h3 h0
 have hb:b≠g:=fun e=>hne (by simp [Value.ownBlock,e])
 refine ⟨b,rfl,fun j hj => ?_⟩
 rw [World.cell?_setCell_other _ _ _ _ (by intro h;simp only [Addr.mk.injEq] at h;exact hb h.1.symm)]
 exact hc j hj
def callI (fs:List Fu) (j:Nat):List Int:=(callsL fs (fs.getD j ⟨⟨#[]⟩,[],[]⟩).body).map (fun g:Nat=>(g:Int))
def Graph (w:World) (v:Value) (fs:List Fu):Prop:=∃G cap,v = .slice (some ⟨G,0,none⟩) fs.length cap/\∀j,j<fs.length->∃vj,w.cell? ⟨G,j,none⟩=some vj/\Ints w vj (callI fs j)
theorem Graph.below {w w':World} {v:Value} {fs:List Fu} (h:Graph w v fs) (hb:Below w.heap.size w w'):Graph w' v fs:=by
 obtain ⟨G,cap,rfl,h⟩:=h
 refine ⟨G,cap,rfl,fun j hj => ?_⟩
 obtain ⟨vj,h1,h2⟩:=h j hj
 exact ⟨vj,(hb.cell (p:=⟨G,j,none⟩) (World.block_lt_of_cell? _ _ h1)).trans h1,h2.below hb⟩
theorem info_ii:(Tryz.prog.info? 82).map (fun i=>(i.zero,i.size,i.bytes))=some (some (.slice none 0 0),1,24):=by kernel_rfl
theorem graph_any (fs:List Fu) (vg vf:Value) (w:World) (hl:fs.length<=1000) (hg : ∃a n c,vg = .slice a n c) (hw:wfFs fs) (hsm : ∀f∈fs,smallF f) (hf:Funcs w vf fs) :
  Calls Tryz.prog 46 #[.agg #[vg,vf]] w fun e w'=>∃v,e = .returned v/\Graph w' v fs/\Below w.heap.size w w':=by
 obtain ⟨ag,ng,cg,rfl⟩:=hg
 have HF:=hide hf
 obtain ⟨af,cf,rfl,-,-,hfc⟩:=hf
 have HFC:=hide hfc
 have HW:=hide hw
 have HSm:=hide hsm
 obtain ⟨i0,hi,hz0,hz1,hz2⟩:=info_parts info_ii
 clear hfc hw hsm
 go_enter Tryz.func46,Tryz.ntmps46
 go_wp2_with fail
 have hA:Bl w (w.alloc (.cells #[.slice ag ng cg,.slice af fs.length cf] 32)):=bel_a _ _
 refine (fnums_any fs _ _ _ o_ HW.out (HF.out.below hA)).mono ?_
 rintro e w1 ⟨bn,D,rfl,hbn,hown,hN,hb1⟩
 simp only [World.size_alloc] at hb1 hbn
 obtain ⟨x0,x1⟩:=box2 hb1
 have HOw:=hide hown
 have HN:=hide hN
 have hB1:Bl w w1:=one_below hb1
 have hsz1:=hb1.size
 simp only [World.size_alloc] at hsz1
 clear hown hN
 go_wp2_with (at_make;refine wpList_make_full _ rfl _ _ 96 rfl w1.heap.size 82 i0 (.slice none 0 0) 1 Tryz.underlying96 hi hz0 hz1 _ _ _ _ fs.length rfl rfl o_ o_ ?_ ?_ (Nat.le_refl _) ?_)
 ·rw [hz2];omega
 ·unfold maxLen;omega
 intro w2 hown2 hgrow2
 have hb2:Bl w1 w2:=(Below.refl _ _).grown hgrow2 (Nat.le_refl _) (by simp)
 have hb2':Below (w.heap.size+1) (w.alloc (.cells #[.slice ag ng cg,.slice af fs.length cf] 32)) w2:=hb1.trans (hb2.mono hsz1)
 have HM2:=hide (map_below HOw.out hb2)
 have hR2 : ∃xs,w2.ownsRow w1.heap.size 82 1 (.slice (some ⟨w1.heap.size,0,none⟩) fs.length fs.length) fs.length xs:=⟨_,hown2⟩
 obtain ⟨xs2,hR2⟩:=hR2
 have HR2:=hide hR2
 have hG:w1.heap.size<w2.heap.size:=(World.ownsRow.lt hR2 w1.heap.size rfl).2
 obtain ⟨G,hGe⟩ : ∃G,G=w1.heap.size:=⟨_,rfl⟩
 rw [<-hGe] at HR2 hG ⊢
 have hwG:w.heap.size+1<=G:=by omega
 have hbG0:bn<G:=by have:=HOw.out.lt;omega
 clear hown2 hgrow2 hR2 x0 x1
 obtain ⟨x0,x1⟩:=box2 hb2'
 clear hb1 hb2 hGe
 go_wp2_with fail
 go_loopw [16] (fun i wr=>∃(k:Nat) (xs:List Value),k<=fs.length/\i = .int .i64 k/\wr.ownsRow G 82 1 (.slice (some ⟨G,0,none⟩) fs.length fs.length) fs.length xs/\(∀j,j<k->∃vj,xs[j]? = some vj/\Ints wr vj (callI fs j)/\vj.ownBlock≠some G)/\wr.ownsMap Tryz.prog 9 (plainElem (H:=Unit) Tryz.prog 2) bn fs.length D/\bn<G/\G<wr.heap.size/\Below (w.heap.size+1) (w.alloc (.cells #[.slice ag ng cg,.slice af fs.length cf] 32)) wr) (fun i _=>fs.length-(RowKit.intOf i).toNat)
 case atStart=>exact ⟨0,xs2,Nat.zero_le _,rfl,HR2.out,fun j hj=>absurd hj o_,HM2.out,hbG0,hG,hb2'⟩
 case round=>
  clear HM2 HR2 hG hb2' x0 x1
  obtain ⟨k,xs,hk,rfl,hR,hX,hM,hbG,hG,hB⟩:=hrel
  have HR:=hide hR
  have HX:=hide hX
  have HM:=hide hM
  have hBw:=one_below hB
  clear hR hX hM
  by_cases hlt:k<fs.length
  ·obtain ⟨bf,of,rfl,hfc⟩:=HFC.out o_
   obtain ⟨vp,vb,⟨d0,d1,d2⟩,hps,hbs⟩:=(hfc.below hBw) k hlt
   have hbl:bf<wr.heap.size:=World.block_lt_of_cell? _ _ d0
   have HPs:=hide hps
   have HBs:=hide hbs
   have HFs:Hid (smallF fs[k]):=HSm.out _ (List.getElem_mem hlt)
   have HFw:Hid (wfFu fs[k]):=HW.out.2 _ (List.getElem_mem hlt)
   have HCI:Hid (callI fs k=(callsL fs fs[k].body).map (fun g:Nat=>(g:Int))):=by show _=_;unfold callI;simp [List.getD,hlt]
   obtain ⟨ap,cp,rfl,-⟩:=hps
   obtain ⟨ab,cb,rfl,-⟩:=hbs
   clear hfc
   generalize fs[k]=f at d0 d1 d2 HPs HBs HFs HFw HCI
   have hAr:Bl wr (wr.alloc (.cells #[.string f.name,.slice ap f.params.length cp,.slice ab f.body.length cb] 64)):=bel_a _ _
   go_wp2_with fail
   refine (callsOf_any fs f _ _ bn fs.length D _ o_ HFs.out HFw.out (HPs.out.below hAr) (HBs.out.below hAr) (map_below HM.out hAr) HN.out).mono ?_
   rintro e w3 ⟨v3,rfl,hr3,hb3⟩
   have hb3':Bl wr w3:=hAr.trans (hb3.mono hAr.size)
   have HI3:Hid (Ints w3 v3 (callI fs k)):=by
    show Ints _ _ _
    rw [HCI.out]
    exact IRow.ints (B:=_) hr3
   have HV3:Hid (v3.ownBlock≠some G):=fun h=>by
    have:=(World.ownsRow.lt hr3 G h).1
    simp at this
    omega
   have HR3:=hide (ownB HR.out hb3')
   have HM3:=hide (map_below HM.out hb3')
   have HX3:Hid (∀j,j<k->∃vj,xs[j]? = some vj/\Ints w3 vj (callI fs j)/\vj.ownBlock≠some G):=fun j hj=>by
    obtain ⟨vj,h1,h2,h3⟩:=HX.out j hj
    exact ⟨vj,h1,h2.below hb3',h3⟩
   have hsr:=hB.size
   simp only [World.size_alloc] at hsr
   have hB3:Below (w.heap.size+1) (w.alloc (.cells #[.slice ag ng cg,.slice (some ⟨bf,of,none⟩) fs.length cf] 32)) w3:=hB.trans (hb3'.mono hsr)
   have hG3:G<w3.heap.size:=Nat.lt_of_lt_of_le hG hb3'.size
   have hlx:xs.length=fs.length:=by have:=HR.out.1;omega
   have g0:w3.cell? ⟨G,k,none⟩=some (xs[k]' o_):=by
    have:=World.ownsRow.cellAt HR3.out k o_
    rw [this]
    simp [hlx,hlt]
   have gf:=World.ownsRow.frozenAt HR3.out k
   obtain ⟨y,hy⟩ : ∃y,y=xs[k]' o_:=⟨_,rfl⟩
   rw [<-hy] at g0
   obtain ⟨a3,c3,hv3⟩:=IRow.shape (B:=_) hr3
   clear hr3 hb3 hb3' d0 d1 d2 hy HR HX HM hAr
   have HR4:=hide ((World.ownsRow.stored HR3.out k v3).1)
   have HX4:Hid (∀j,j<k+1->∃vj,(xs.set k v3)[j]? = some vj/\Ints (w3.setCell ⟨G,k,none⟩ v3) vj (callI fs j)/\vj.ownBlock≠some G):=fun j hj=>by
    by_cases e:j=k
    ·subst e
     exact ⟨v3,by simp [hlx,hlt],HI3.out.set HV3.out _ _,HV3.out⟩
    ·obtain ⟨vj,h1,h2,h3⟩:=HX3.out j o_
     exact ⟨vj,by rw [List.getElem?_set_ne (fun h=>e h.symm)];exact h1,h2.set h3 _ _,h3⟩
   have HM4:Hid ((w3.setCell ⟨G,k,none⟩ v3).ownsMap Tryz.prog 9 (plainElem (H:=Unit) Tryz.prog 2) bn fs.length D):=by
    obtain ⟨es,clock,h0,F,hs,hD⟩:=HM3.out
    exact ⟨es,clock,(Below.heap_setCell _ _ _ bn (fun h=>by simp at h;omega)).trans h0,F,hs,hD⟩
   subst hv3
   go_wp2_with fail
   go_roundw
   case rel=>exact ⟨k+1,_,by omega,by go_num,HR4.out,HX4.out,HM4.out,hbG,by simpa using hG3,hB3.setCell (p:=⟨G,k,none⟩) hwG _⟩
   case measure=>simp [RowKit.intOf];omega
  ·have hkk:k=fs.length:=by omega
   subst hkk
   clear hB
   go_wp2_with fail
   go_ret
   refine ⟨_,rfl,⟨G,fs.length,rfl,fun j hj => ?_⟩,hBw⟩
   obtain ⟨vj,h1,h2,-⟩:=HX.out j hj
   exact ⟨vj,(World.ownsRow.cellAt HR.out j o_).trans h1,h2⟩
end Go.Proofs.YtnpidjamplmgjaaGreatDoor
