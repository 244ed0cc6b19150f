import Derived.Test.YtffnkkpmlplfeaaGreatDoorF22
import Derived.Shelf.RegionOpen
import Derived.Deep.RegionHeldLaw
namespace Go.Proofs.YtffnkkpmlplfeaaGreatDoor
open Go.World List
open Go.Proofs.Tryz Go.RowKit
set_option linter.all false
set_option maxRecDepth 100000
set_option maxHeartbeats 0
variable[Inhabited Pick]
def BH(n:Int):IntKind.i64.wrap n=(n+9223372036854775808)%18446744073709551616-9223372036854775808:=by
 simp[IntKind.wrap,IntKind.bits,IntKind.signed];omega
def gB.mono{B J:Nat}{w:AT}{v:BY}{us:List BY}(h:gB B w v us)(Z:J<=B):gB J w v us:=by
 refine⟨h.1,?_⟩;rcases h.2 with I|⟨g,Y,U,I,h2,h3⟩
 ·exact .inl I
 ·exact .inr ⟨g,Y,U,I,o_,h3⟩
theorem Src.lit(w:AT)(x:BY)(t:GC):Src (w.alloc (.cells #[x] t)) (rV w.heap.size 1 1) [x]:=by
 refine⟨_,_,rfl,λh=>(by cases h),λad had j y hy=>?_⟩;simp only[GD]at had;subst had;cases j with
 | zero=>simp at hy;subst hy;simp[Addr.add]
 | succ j=>simp at hy
def DF(a:Option Addr)(n cap h:Nat)(h2:h<=n)(h3:n<=cap):∀w:AT,(Instr.slice 226 (.slice a n cap) (some (V h)) none none).run prog w=.ok (.slice (if cap=h then a else a.map (·.add (h*1))) (n-h) (cap-h)) w:=by
 intro w;have I:prog.elem 226=183:=k_;have J:(sizeOf 183).run prog w=.ok 1 w:=k_;rw[run_slice_l w 226 a n cap (by rw[I];exact underlying226) .i64 _ o_ o_,I,J];simp only[Result.andThen,sliced,Int.toNat_natCast]
def DG(a:Option Addr)(n cap h:Nat)(h2:h<=n)(h3:n<=cap):∀w:AT,(Instr.slice 226 (.slice a n cap) none (some (V h)) none).run prog w=.ok (.slice a h cap) w:=by
 intro w;have I:prog.elem 226=183:=k_;have J:(sizeOf 183).run prog w=.ok 1 w:=k_;rw[run_slice_h w 226 a n cap (by rw[I];exact underlying226) .i64 _ o_ o_,I,J];cases a <;> simp[Result.andThen,sliced,Addr.add]
theorem eo(v:Value)(e:List Nd)(w:World)(Jw:dq w)(hN:aw w v e)(Jx:aP e=true)(hl:e.length<=2000):
    Calls prog 141 #[v,.func (Fn.func 142) #[] #[]] w λx w'=>∃u S,x=rW u/\Tv w' S u e/\(∀B,S B->w.heap.size<=B/\B<w'.heap.size)/\Below w.heap.size w w':=by
  obtain⟨i0,Xq,Xg,Xt,Xo⟩:=info_parts ul;obtain⟨a,Ye,rfl,Yg,Yc,hc⟩:=hN;have HC:Hid (0<e.length->∃b Jf,a=some ⟨b,Jf,none⟩/\iq w b Jf e):=hc;have Ji:Hid (aP e=true):=Jx;have Jg:Hid (dq w):=Jw;go_in;go_wp2;go_loopw[5,12] (λst ix wr=>∃k:Nat,k<=e.length/\ix=V k/\∃T S,RJ w wr e k st T S) (λ_ ix _=>e.length-(RowKit.intOf ix).toNat)
  case atStart=>exact⟨0,y_,rfl,[],λ_=>False,i_,i_,World.ownsRow_nil _ _ _ _,λB h=>h.elim,r_⟩
  case round=>
    obtain⟨k,hk,rfl,T,S,Y⟩:=hrel;have HI:Hid (RJ w wr e k u5 T S):=Y;obtain⟨J,U,rfl,Jt,Yd,X_,Yb⟩:=Y.row.form;simp only[List.length_map]at Jt HI⊢;by_cases hlt:k<e.length
    · obtain⟨b,Jf,rfl,Xr⟩:=HC.out o_
      obtain⟨d0,d1,d2⟩:=(Xr.below Y.bel) k hlt;obtain⟨hn,hA⟩:=uQ Ji.out Y.segs hlt Y.flat;rw[List.length_map]at hA;have Xj:=dA hn;obtain⟨A,Jp⟩:∃A:Nat,arity e[k]=A:=⟨(arity e[k]).toNat,o_⟩;obtain⟨I,J_⟩:∃I,I+A=T.length:=⟨T.length-A,o_⟩;have Jo:Hid (arity e[k]=A):=Jp;have Jn:Hid (aD e[k]=true):=hn;have Jz:=fJ hn;have Ju:Hid (∀W,Below wr.heap.size wr W->Calls prog 175 #[.agg #[V e[k].kind,V e[k].val,sV e[k].name]] W λx w'=>x=rW (V A)/\Below W.heap.size W w'):=λW hW=>by
        have:=ph e[k] W (Jg.out.below Jg.out.size (Y.bel.trans (hW.mono Y.bel.size))) Jz
        rw[Jp]at this;exact this
      have Xx:T.length<=2000:=by
        have h1:=fF _ Y.segs 0 (Int.le_refl _);have h2:=(lx _ _ _ h1 (Int.le_refl 0)).2;rw[Y.flat]at h2;simp only[List.length_map,List.length_take]at h2;omega
      have Xi:∀W:World,(Instr.slice 226 (.slice J T.length U) (some (V I)) none none).run prog W=.ok (.slice (if U=I then J else J.map (·.add (I*1))) (T.length-I) (U-I)) W:=DF J T.length U I o_ Jt;have Yf:∀W:World,(Instr.slice 226 (.slice J T.length U) none (some (V I)) none).run prog W=.ok (.slice J I U) W:=DG J T.length U I o_ Jt;have Ya:IntKind.i64.wrap ((T.length:Int)-(A:Int))=(I:Int):=by rw[BH];omega
      have Xy:((T.length:Int)-(A:Int))=(I:Int):=o_
      have Jh:Hid (∀W,Below wr.heap.size wr W->Src W (.slice (if U=I then J else J.map (·.add (I*1))) (T.length-I) (U-I)) ((T.drop I).map (·.2.2))):=λW hW=>by
        have:=(Y.row.tail I (by rw[List.length_map];omega)).below hW
        rw[List.length_map,<-List.map_drop]at this;exact this
      have Xf:Hid (∀u∈(T.drop I).map (·.2.2),u.oneCell'=true):=λu hu=>Y.one u (by
        simp only[List.mem_map]at hu⊢;obtain⟨t,ht,rfl⟩:=hu;exact⟨t,List.mem_of_mem_drop ht,rfl⟩)
      have Xz:Jf+k*3=Jf+k*3:=rfl;generalize Jk:e[k]=n at d0 d1 d2 Ju Jz hA Xj Jp Jo Jn;have Xk:Hid (e[k]=n):=Jk;obtain⟨nk,Z,nm⟩:=n;simp only at d0 d1 d2 Ju;generalize (Value.slice (if U=I then J else J.map (·.add (I*1))) (T.length-I) (U-I))=sv at Xi Jh;go_wp2_with fail;have Xb:∀o,Below wr.heap.size wr (wr.alloc o):=λo=>r_.alloc n_ o;refine(Ju.out _ (Xb _)).mono ?_;rintro x w2 ⟨rfl,Js⟩;have Jj:Below wr.heap.size wr w2:=(Xb _).trans (Js.mono i_);simp only[World.size_alloc]at Js;obtain⟨f0,f1,f2⟩:=lT Js;have Xh:Hid (Src w2 sv ((T.drop I).map (·.2.2))):=Jh.out w2 Jj;have Jq:Hid (Below wr.heap.size wr w2):=Jj;go_wp2_with fail;refine(yT sv _ w2 (by simp;omega) Xh.out Xf).mono ?_;rintro x w3 ⟨uc,rfl,Xp,Jm⟩;have Jc:Below wr.heap.size wr w3:=Jq.out.trans (Jm.mono Jq.out.size);have g0:=(Jm.cell (p:=⟨wr.heap.size,0,none⟩) (b_ f0)).trans f0;have g1:=(Jm.cell (p:=⟨wr.heap.size,1,none⟩) (b_ f1)).trans f1;have g2:=(Jm.cell (p:=⟨wr.heap.size,2,none⟩) (b_ f2)).trans f2;have Jy:Hid (gB wr.heap.size w3 uc ((T.drop I).map (·.2.2))):=gB.mono Xp Jq.out.size;have Xn:Hid (Below wr.heap.size wr w3):=Jc;have Jb:wr.heap.size<w3.heap.size:=b_ g0;have Xw:Hid (Calls prog 142 #[.agg #[V nk,V Z,sV nm],uc] w3.drew λx w'=>∃ta tb,x=rW (.iface ta tb)/\(Tv w' (mR S uc) (.iface ta tb) (eU (fsJ (T.drop I)) A++[⟨nk,Z,nm⟩])/\Below w3.heap.size w3 w')/\w'.cell? ⟨wr.heap.size,0,none⟩=some (V nk)/\w'.cell? ⟨wr.heap.size,1,none⟩=some (V Z)/\w'.cell? ⟨wr.heap.size,2,none⟩=some (sV nm)):=by
        have hd:Below wr.heap.size wr w3.drew:=Jc.drew;obtain⟨k1,k2,k4⟩:=HI.out.kids I A J_ hd (u:=uc) (World.ownsRow.drew Jy);refine(sA ⟨nk,Z,nm⟩ Jn.out A Jo.out _ uc _ w3.drew k1 (λi hi=>(k2 i hi).isI)).mono ?_;rintro x w' ⟨rfl,h2⟩;have h1:Tv w' (mR S uc) (jD ⟨nk,Z,nm⟩ uc (vsJ (T.drop I))) (eU (fsJ (T.drop I)) A++[⟨nk,Z,nm⟩]):=(Ep ⟨nk,Z,nm⟩ Jn.out A Jo.out _ _ uc _ _ k1 k2).bel k4 h2;have h3:Below w3.heap.size w3 w':=r_.drew.trans h2;obtain⟨ta,tb,Je⟩:=h1.isI;rw[Je]at h1;refine⟨ta,tb,by rw[Je],⟨h1,h3⟩,(h3.cell (p:=⟨wr.heap.size,0,none⟩) Jb).trans g0,(h3.cell (p:=⟨wr.heap.size,1,none⟩) Jb).trans g1,(h3.cell (p:=⟨wr.heap.size,2,none⟩) Jb).trans g2⟩
      have Xc:Hid (∀w4 u' o,(Tv w4 (mR S uc) u' (eU (fsJ (T.drop I)) A++[⟨nk,Z,nm⟩])/\Below w3.heap.size w3 w4)->(w4.alloc o).ownsRow w.heap.size 183 1 (.slice J I U) ((T.take I).map (·.2.2)).length ((T.take I).map (·.2.2))/\w.heap.size<=(w4.alloc o).heap.size):=by
        intro w4 u' o ⟨_,h⟩;have h1:=(HI.out.below (Jc.trans (h.mono Jc.size))).below (r_.alloc n_ o);have h2:=h1.row.head I (by rw[List.length_map];omega);rw[<-List.map_take]at h2;exact⟨h2,h1.bel.size⟩
      have Xe:Hid (∀(W W':World) (o:Obj),W.cell? ⟨wr.heap.size,0,none⟩=some (V nk)->W.cell? ⟨wr.heap.size,1,none⟩=some (V Z)->W.cell? ⟨wr.heap.size,2,none⟩=some (sV nm)->(W.alloc o).grownBy W' (Value.slice J I U).ownBlock->W'.cell? ⟨wr.heap.size,0,none⟩=some (V nk)/\W'.cell? ⟨wr.heap.size,1,none⟩=some (V Z)/\W'.cell? ⟨wr.heap.size,2,none⟩=some (sV nm)):=by
        intro W W' o h0 h1 h2 hg;have Xd:some wr.heap.size≠(Value.slice J I U).ownBlock:=λh=>by
          have:=(HI.out.row.own wr.heap.size (by cases J <;> exact h.symm)).2
          omega
        have Jv:∀i v,W.cell? ⟨wr.heap.size,i,none⟩=some v->W'.cell? ⟨wr.heap.size,i,none⟩=some v:=λi v h=>hg.cell ((((Below.refl W.heap.size W).alloc n_ o).cell (p:=⟨wr.heap.size,i,none⟩) (b_ h)).trans h) Xd;exact⟨Jv _ _ h0,Jv _ _ h1,Jv _ _ h2⟩
      go_wp2_with fail;go_region_held_law (λW=>W.cell? ⟨wr.heap.size,0,none⟩=some (V nk)/\W.cell? ⟨wr.heap.size,1,none⟩=some (V Z)/\W.cell? ⟨wr.heap.size,2,none⟩=some (sV nm)) (first|go_keep|(go_split_ands;exact⟨y0,y1,y2⟩))
        (first
        | ((with_reducible refine Calls.mono Xw.out ?_);intro x w4 hx;obtain⟨ta,tb,Xv,Jl,q0,q1,q2⟩:=hx;subst Xv)
        | (refine nX (by rfl) _ _ 226 (by rfl) w.heap.size 183 i0 .nilIface underlying226 Xq Xg Xt Xo (by rfl) (.slice J I U) ((T.take I).map (·.2.2)) (by rfl) (Xc.out _ _ _ Jl).1 (.slice (some ⟨w4.heap.size,0,none⟩) 1 1) [.iface ta tb] (by rfl) (Src.lit _ _ _) (λy hy=>by simp at hy;subst hy;rfl) (by simp;omega) (Xc.out _ _ _ Jl).2 ?_;intro v' w6 Jd Ja Jr;obtain⟨y0,y1,y2⟩:=Xe.out _ _ _ q0 q1 q2 Ja))
      have Xl:Hid (∃T' S',RJ w w6 e (k+1) v' T' S'):=by
        have Jk:=Xk;refine HI.out.step (w3:=w3) (w4:=w4) (w5:=w4.alloc (.cells #[.iface ta tb] 183)) (u:=uc) hlt I A J_ (by rw[Jk];exact Jn) (by rw[Jk];exact Jo) Xn.out Jy.out Jl.2 (by rw[Jk];exact Jl.1) (r_.alloc n_ _) Jd ?_ ?_
        · have e1:(Value.slice J I U).ownBlock=(Value.slice J T.length U).ownBlock:=by cases J <;> rfl
          rw[<-e1];exact Ja
        · have e1:(Value.slice J I U).ownBlock=(Value.slice J T.length U).ownBlock:=by cases J <;> rfl
          rw[<-e1];exact Jr
      obtain⟨va,vn,vc,rfl⟩:∃va vn vc,v'=.slice va vn vc:=by
        obtain⟨va,vc,h,_⟩:=gB.form Jd;exact⟨_,_,_,h⟩
      go_wp2;go_roundw
      case rel=>exact⟨k+1,o_,by go_num,Xl⟩
      case measure=>simp[RowKit.intOf];omega
    · obtain rfl:k=e.length:=by omega
      obtain⟨u,g,⟨cp,hv⟩,Xa,Xs⟩:=Y.fin Ji;simp only[Value.slice.injEq]at hv;obtain⟨rfl,Xm,rfl⟩:=hv;have Xu:T.length=1:=by simpa using Xm
      rw[Xu];go_wp2;go_ret;exact⟨_,S,rfl,Xs,λB hB=>⟨(HI.out.sep B hB).1,(HI.out.sep B hB).2.1⟩,HI.out.bel⟩
end Go.Proofs.YtffnkkpmlplfeaaGreatDoor
