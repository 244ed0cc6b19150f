import Derived.Deep.RegionHeldLaw
import Derived.Test.YtffnkkpmlplfeaaGreatDoorN47
namespace Go.Proofs.YtffnkkpmlplfeaaGreatDoor
open Go.Proofs.Tryz
open Go.RowKit
set_option linter.all false
set_option maxRecDepth 100000
set_option maxHeartbeats 16000000
variable[Inhabited Pick]
theorem raisedJ_any (v:Value) (e:List Nd) (w:World) (hTab:Tab w) (hN:Nodes w v e) (hone:oneB e=true) (hl:e.length<=2000) :
    Calls prog 141 #[v,.func (Fn.func 142) #[] #[]] w λx w'=>∃u S,x=.returned u/\Tv w' S u e/\(∀B,S B->w.heap.size<=B/\B<w'.heap.size)/\Below w.heap.size w w':=by
  obtain⟨i0,hi0,hz0,hz1,hz2⟩:=info_parts info_nv;obtain⟨a,cap,rfl,hcl,hcm,hc⟩:=hN;have HC:Hid (0<e.length->∃b off,a=some ⟨b,off,none⟩/\NodesC w b off e):=hc;have HOne:Hid (oneB e=true):=hone;have HTab:Hid (Tab w):=hTab;go_enter func141,ntmps141;go_wp2_with fail;go_loopw [5,12] (λst ix wr=>∃k:Nat,k<=e.length/\ix=.int .i64 k/\∃T S,RJ w wr e k st T S) (λ_ ix _=>e.length-(RowKit.intOf ix).toNat)
  case atStart=>exact⟨0,y_,rfl,[],λ_=>False,by simp,by simp,World.ownsRow_nil _ _ _ _,λB h=>h.elim,r_⟩
  case round=>
    obtain⟨k,hk,rfl,T,S,hI⟩:=hrel;have HI:Hid (RJ w wr e k u5 T S):=hI;obtain⟨pa,pc,rfl,hp1,hp2,hp3,hp4⟩:=hI.row.form;simp only[List.length_map] at hp1 HI ⊢;by_cases hlt:k<e.length
    · obtain⟨b,off,rfl,hcc⟩:=HC.o o_
      obtain⟨d0,d1,d2⟩:=(hcc.below hI.bel) k hlt;obtain⟨hn,hA⟩:=segs_room HOne.o hI.segs hlt hI.flat;rw[List.length_map] at hA;have hA0:=arity_good hn;obtain⟨A,hAe⟩ : ∃A:Nat,arity e[k]=A:=⟨(arity e[k]).toNat,by omega⟩;obtain⟨lo,hlo⟩ : ∃lo,lo+A=T.length:=⟨T.length-A,by omega⟩;have HAe:Hid (arity e[k]=A):=hAe;have HNb:Hid (nodeB e[k]=true):=hn;have hkb:=kind_good hn;have HOp:Hid (∀W,Below wr.heap.size wr W->Calls prog 175 #[.agg #[.int .i64 e[k].kind,.int .i64 e[k].val,.string e[k].name]] W λx w'=>x=.returned (.int .i64 A)/\Below W.heap.size W w'):=λW hW=>by
        have:=opc_any e[k] W (HTab.o.below HTab.o.size (hI.bel.trans (hW.mono hI.bel.size))) hkb
        rw[hAe] at this;exact this
      have hTl:T.length<=2000:=by
        have h1:=wholeTo_segs _ hI.segs 0 (Int.le_refl _);have h2:=(wholeTo_bd _ _ _ h1 (Int.le_refl 0)).2;rw[hI.flat] at h2;simp only[List.length_map,List.length_take] at h2;omega
      have hsl : ∀W:World,(Instr.slice 226 (.slice pa T.length pc) (some (.int .i64 lo)) none none).run prog W=.ok (.slice (if pc=lo then pa else pa.map (·.add (lo*1))) (T.length-lo) (pc-lo)) W:=vcut_l pa T.length pc lo o_ hp1;have hsh : ∀W:World,(Instr.slice 226 (.slice pa T.length pc) none (some (.int .i64 lo)) none).run prog W=.ok (.slice pa lo pc) W:=vcut_h pa T.length pc lo o_ hp1;have hw1:IntKind.i64.wrap ((T.length:Int)-(A:Int))=(lo:Int):=by rw[wrapI64];omega
      have hw2:((T.length:Int)-(A:Int))=(lo:Int):=by omega
      have HSrc:Hid (∀W,Below wr.heap.size wr W->Src W (.slice (if pc=lo then pa else pa.map (·.add (lo*1))) (T.length-lo) (pc-lo)) ((T.drop lo).map (·.2.2))):=λW hW=>by
        have:=(hI.row.tail lo (by rw[List.length_map];omega)).below hW
        rw[List.length_map,<-List.map_drop] at this;exact this
      have HOC:Hid (∀u∈(T.drop lo).map (·.2.2),u.oneCell'=true):=λu hu=>hI.one u (by
        simp only[List.mem_map] at hu ⊢;obtain⟨t,ht,rfl⟩:=hu;exact⟨t,List.mem_of_mem_drop ht,rfl⟩)
      have hkk:off+k*3=off+k*3:=rfl;generalize hnn:e[k]=n at d0 d1 d2 HOp hkb hA hA0 hAe HAe HNb;have HNn:Hid (e[k]=n):=hnn;obtain⟨nk,nv,nm⟩:=n;simp only at d0 d1 d2 HOp;generalize (Value.slice (if pc=lo then pa else pa.map (·.add (lo*1))) (T.length-lo) (pc-lo))=sv at hsl HSrc;go_wp2_with fail;have hba : ∀o,Below wr.heap.size wr (wr.alloc o):=λo=>r_.alloc n_ o;refine (HOp.o _ (hba _)).mono ?_;rintro x w2 ⟨rfl,hb2⟩;have hbw2:Below wr.heap.size wr w2:=(hba _).trans (hb2.mono (by simp));simp only[World.size_alloc] at hb2;obtain⟨f0,f1,f2⟩:=box3 hb2;have HS2:Hid (Src w2 sv ((T.drop lo).map (·.2.2))):=HSrc.o w2 hbw2;have HW2:Hid (Below wr.heap.size wr w2):=hbw2;go_wp2_with fail;refine (clone_nv sv _ w2 (by simp;omega) HS2.o HOC).mono ?_;rintro x w3 ⟨uc,rfl,hv3,hb3⟩;have hbw3:Below wr.heap.size wr w3:=HW2.o.trans (hb3.mono HW2.o.size);have g0:=(hb3.cell (p:=⟨wr.heap.size,0,none⟩) (b_ f0)).trans f0;have g1:=(hb3.cell (p:=⟨wr.heap.size,1,none⟩) (b_ f1)).trans f1;have g2:=(hb3.cell (p:=⟨wr.heap.size,2,none⟩) (b_ f2)).trans f2;have HV3:Hid (VRow wr.heap.size w3 uc ((T.drop lo).map (·.2.2))):=VRow.mono hv3 HW2.o.size;have HW3:Hid (Below wr.heap.size wr w3):=hbw3;have hbxlt:wr.heap.size<w3.heap.size:=b_ g0;have HBd:Hid (Calls prog 142 #[.agg #[.int .i64 nk,.int .i64 nv,.string nm],uc] w3.drew λx w'=>∃ta tb,x=.returned (.iface ta tb)/\(Tv w' (addJ S uc) (.iface ta tb) (joinF (fsJ (T.drop lo)) A++[⟨nk,nv,nm⟩])/\Below w3.heap.size w3 w')/\w'.cell? ⟨wr.heap.size,0,none⟩=some (.int .i64 nk)/\w'.cell? ⟨wr.heap.size,1,none⟩=some (.int .i64 nv)/\w'.cell? ⟨wr.heap.size,2,none⟩=some (.string nm)):=by
        have hd:Below wr.heap.size wr w3.drew:=hbw3.drew;obtain⟨k1,k2,k4⟩:=HI.o.kids lo A hlo hd (u:=uc) (World.ownsRow.drew HV3);refine (nodeOf_any ⟨nk,nv,nm⟩ HNb.o A HAe.o _ uc _ w3.drew k1 (λi hi=>(k2 i hi).isI)).mono ?_;rintro x w' ⟨rfl,h2⟩;have h1:Tv w' (addJ S uc) (nodeV ⟨nk,nv,nm⟩ uc (vsJ (T.drop lo))) (joinF (fsJ (T.drop lo)) A++[⟨nk,nv,nm⟩]):=(nodeT ⟨nk,nv,nm⟩ HNb.o A HAe.o _ _ uc _ _ k1 k2).bel k4 h2;have h3:Below w3.heap.size w3 w':=r_.drew.trans h2;obtain⟨ta,tb,htab⟩:=h1.isI;rw[htab] at h1;refine⟨ta,tb,by rw[htab],⟨h1,h3⟩,(h3.cell (p:=⟨wr.heap.size,0,none⟩) hbxlt).trans g0,(h3.cell (p:=⟨wr.heap.size,1,none⟩) hbxlt).trans g1,(h3.cell (p:=⟨wr.heap.size,2,none⟩) hbxlt).trans g2⟩
      have HRw:Hid (∀w4 u' o,(Tv w4 (addJ S uc) u' (joinF (fsJ (T.drop lo)) A++[⟨nk,nv,nm⟩])/\Below w3.heap.size w3 w4)->(w4.alloc o).ownsRow w.heap.size 183 1 (.slice pa lo pc) ((T.take lo).map (·.2.2)).length ((T.take lo).map (·.2.2))/\w.heap.size<=(w4.alloc o).heap.size):=by
        intro w4 u' o ⟨_,h⟩;have h1:=(HI.o.below (hbw3.trans (h.mono hbw3.size))).below (r_.alloc n_ o);have h2:=h1.row.head lo (by rw[List.length_map];omega);rw[<-List.map_take] at h2;exact⟨h2,h1.bel.size⟩
      have HGr:Hid (∀(W W':World) (o:Obj),W.cell? ⟨wr.heap.size,0,none⟩=some (.int .i64 nk)->W.cell? ⟨wr.heap.size,1,none⟩=some (.int .i64 nv)->W.cell? ⟨wr.heap.size,2,none⟩=some (.string nm)->(W.alloc o).grownBy W' (Value.slice pa lo pc).ownBlock->W'.cell? ⟨wr.heap.size,0,none⟩=some (.int .i64 nk)/\W'.cell? ⟨wr.heap.size,1,none⟩=some (.int .i64 nv)/\W'.cell? ⟨wr.heap.size,2,none⟩=some (.string nm)):=by
        intro W W' o h0 h1 h2 hg;have hne:some wr.heap.size≠(Value.slice pa lo pc).ownBlock:=λh=>by
          have:=(HI.o.row.own wr.heap.size (by cases pa <;> exact h.symm)).2
          omega
        have key : ∀i v,W.cell? ⟨wr.heap.size,i,none⟩=some v->W'.cell? ⟨wr.heap.size,i,none⟩=some v:=λi v h=>hg.cell ((((Below.refl W.heap.size W).alloc n_ o).cell (p:=⟨wr.heap.size,i,none⟩) (b_ h)).trans h) hne;exact⟨key _ _ h0,key _ _ h1,key _ _ h2⟩
      go_wp2_with fail;go_region_held_law (λW=>W.cell? ⟨wr.heap.size,0,none⟩=some (.int .i64 nk)/\W.cell? ⟨wr.heap.size,1,none⟩=some (.int .i64 nv)/\W.cell? ⟨wr.heap.size,2,none⟩=some (.string nm)) (first|go_keep|(go_split_ands;exact⟨y0,y1,y2⟩))
        (first
        | ((with_reducible refine Calls.mono HBd.o ?_);intro x w4 hx;obtain⟨ta,tb,hx1,hx2,q0,q1,q2⟩:=hx;subst hx1)
        | (refine step_appV (by rfl) _ _ 226 (by rfl) w.heap.size 183 i0 .nilIface underlying226 hi0 hz0 hz1 hz2 (by rfl) (.slice pa lo pc) ((T.take lo).map (·.2.2)) (by rfl) (HRw.o _ _ _ hx2).1 (.slice (some ⟨w4.heap.size,0,none⟩) 1 1) [.iface ta tb] (by rfl) (Src.lit _ _ _) (λy hy=>by simp at hy;subst hy;rfl) (by simp;omega) (HRw.o _ _ _ hx2).2 ?_;intro v' w6 hown6 hgrow6 hfr6;obtain⟨y0,y1,y2⟩:=HGr.o _ _ _ q0 q1 q2 hgrow6))
      have HI6:Hid (∃T' S',RJ w w6 e (k+1) v' T' S'):=by
        have hnn:=HNn;refine HI.o.step (w3:=w3) (w4:=w4) (w5:=w4.alloc (.cells #[.iface ta tb] 183)) (u:=uc) hlt lo A hlo (by rw[hnn];exact HNb) (by rw[hnn];exact HAe) HW3.o HV3.o hx2.2 (by rw[hnn];exact hx2.1) (r_.alloc n_ _) hown6 ?_ ?_
        · have e1:(Value.slice pa lo pc).ownBlock=(Value.slice pa T.length pc).ownBlock:=by cases pa <;> rfl
          rw[<-e1];exact hgrow6
        · have e1:(Value.slice pa lo pc).ownBlock=(Value.slice pa T.length pc).ownBlock:=by cases pa <;> rfl
          rw[<-e1];exact hfr6
      obtain⟨va,vn,vc,rfl⟩ : ∃va vn vc,v' = .slice va vn vc:=by
        obtain⟨va,vc,h,_⟩:=VRow.form hown6;exact⟨_,_,_,h⟩
      go_wp2_with fail;go_roundw
      case rel=>exact⟨k+1,by omega,by go_num,HI6⟩
      case measure=>simp[RowKit.intOf];omega
    · obtain rfl:k=e.length:=by omega
      obtain⟨u,g,⟨cp,hv⟩,hcell,htv⟩:=hI.fin HOne;simp only[Value.slice.injEq] at hv;obtain⟨rfl,hv2,rfl⟩:=hv;have hT1:T.length=1:=by simpa using hv2
      rw[hT1];go_wp2;go_ret;exact⟨_,S,rfl,htv,λB hB=>⟨(HI.o.sep B hB).1,(HI.o.sep B hB).2.1⟩,HI.o.bel⟩
end Go.Proofs.YtffnkkpmlplfeaaGreatDoor
