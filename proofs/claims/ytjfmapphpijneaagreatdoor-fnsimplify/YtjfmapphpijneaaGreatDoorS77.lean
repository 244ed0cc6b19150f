import Derived.Deep.RegionHeldLaw
import Derived.Deep.RegionHeld3
import Derived.Test.YtjfmapphpijneaaGreatDoorS41
namespace Go.Proofs.YtjfmapphpijneaaGreatDoor
set_option linter.all false
set_option maxRecDepth 100000
set_option maxHeartbeats 0
open Go.World List Go.Proofs.Tryz Go.RowKit
variable[Inhabited Pick]
theorem jM(v:BY)(e:List Nd)(w:AT)(Jw:gF w)(hN:aC w v e)(Jx:oneB e=true)(hl:e.length<=2000):
    Calls prog 90 #[v,.func (Fn.func 91) #[] #[]] w λx w'=>∃u S,x=rW u/\Tv w' S u e/\(∀B,S B->w.heap.size<=B/\B<w'.heap.size)/\Bl w w':=by
  have⟨i0,Xq,Xg,Xt,Xo⟩:=info_parts nA;obtain⟨a,Ye,rfl,Yg,Yc,hc⟩:=hN;have HC:Hid (0<e.length->∃b Jf,a=some ⟨b,Jf,none⟩/\fZ w b Jf e):=hc;have Ji:Hid (oneB e=true):=Jx;have Jg:Hid (gF w):=Jw;go_in;go_wp2;go_loopw[5,12] (λst ix wr=>∃k:Nat,k<=e.length/\ix=V k/\∃T S,RJ w wr e k st T S) (λ_ ix _=>e.length-(RowKit.intOf ix).toNat)
  case atStart=>exact⟨0,y_,rfl,[],λ_=>False,i_,i_,ownsRow_nil _ _ _ _,λB h=>h.elim,r_⟩
  case round=>
    obtain⟨k,hk,rfl,T,S,Z⟩:=hrel;have HI:Hid (RJ w wr e k u5 T S):=Z;obtain⟨J,U,rfl,Jt,Yd,X_,Yb⟩:=Z.row.form;simp only[J8]at Jt HI⊢;by_cases hlt:k<e.length
    · obtain⟨b,Jf,rfl,Xr⟩:=HC.o o_
      have⟨d0,d1,d2⟩:=(Xr.below Z.bel) k hlt;have⟨hn,hA⟩:=qH Ji.o Z.segs hlt Z.flat;rw[J8]at hA;have Xj:=dM hn;obtain⟨A,Jp⟩:∃A:Nat,arity e[k]=A:=⟨(arity e[k]).toNat,o_⟩;obtain⟨I,J_⟩:∃I,I+A=T.length:=⟨T.length-A,o_⟩;have Jo:Hid (arity e[k]=A):=Jp;have Jn:Hid (aJ e[k]=true):=hn;have Jz:=gO hn;have Ju:Hid (∀W,Bl wr W->Calls prog 117 #[.agg #[V e[k].kd,V e[k].val,sV e[k].nm]] W λx w'=>x=rW (V A)/\Bl W w'):=λW hW=>by
        have:=nz e[k] W (Jg.o.below Jg.o.size (Z.bel.trans (hW.mono Z.bel.size))) Jz
        rw[Jp]at this;exact this
      have Xx:T.length<=2000:=by have h1:=fK _ Z.segs 0 (Int.le_refl _);have h2:=(ks _ _ _ h1 (Int.le_refl 0)).2;rw[Z.flat]at h2;simp only[J8,length_take]at h2;omega
      have Xi:∀W:AT,(Instr.slice 186 (.slice J T.length U) (some (V I)) none none).run prog W=.ok (.slice (if U=I then J else J.map (·.add (I*1))) (T.length-I) (U-I)) W:=CJ J T.length U I o_ Jt;have Yf:∀W:AT,(Instr.slice 186 (.slice J T.length U) none (some (V I)) none).run prog W=.ok (.slice J I U) W:=xk J T.length U I o_ Jt;have Ya:IntKind.i64.wrap ((T.length:Int)-(A:Int))=(I:Int):=(by rw[nJ];omega);have Xy:((T.length:Int)-(A:Int))=(I:Int):=o_
      have Jh:Hid (∀W,Bl wr W->Src W (.slice (if U=I then J else J.map (·.add (I*1))) (T.length-I) (U-I)) ((T.drop I).map (·.2.2))):=λW hW=>by
        have:=(Z.row.tail I (by rw[J8];omega)).below hW
        rw[J8,<-map_drop]at this;exact this
      have Xf:Hid (∀u∈(T.drop I).map (·.2.2),u.oneCell'=true):=λu hu=>Z.one u (by simp only[mem_map]at hu⊢;obtain⟨t,ht,rfl⟩:=hu;exact⟨t,J6 ht,rfl⟩)
      have Xz:Jf+k*3=Jf+k*3:=rfl;generalize Jk:e[k]=n at d0 d1 d2 Ju Jz hA Xj Jp Jo Jn;have Xk:Hid (e[k]=n):=Jk;obtain⟨nk,nv,nm⟩:=n;simp only at d0 d1 d2 Ju;generalize (Value.slice (if U=I then J else J.map (·.add (I*1))) (T.length-I) (U-I))=sv at Xi Jh;go_wp2_with fail;have Xb:∀o,Bl wr (wr.alloc o):=λo=>r_.alloc n_ o;refine(Ju.o _ (Xb _)).mono ?_;rintro x w2 ⟨rfl,Js⟩;have Jj:Bl wr w2:=(Xb _).trans (Js.mono i_);simp only[Bl,J9]at Js;have⟨f0,f1,f2⟩:=mY Js;have Xh:Hid (Src w2 sv ((T.drop I).map (·.2.2))):=Jh.o w2 Jj;have Jq:Hid (Bl wr w2):=Jj;go_wp2_with fail;refine(uD sv _ w2 H6 Xh.o Xf).mono ?_;rintro x w3 ⟨uc,rfl,Xp,Jm⟩;have Jc:Bl wr w3:=Jq.o.trans (Jm.mono Jq.o.size);have g0:=(Jm.cell (p:=⟨wr.heap.size,0,none⟩) (b_ f0)).trans f0;have g1:=(Jm.cell (p:=⟨wr.heap.size,1,none⟩) (b_ f1)).trans f1;have g2:=(Jm.cell (p:=⟨wr.heap.size,2,none⟩) (b_ f2)).trans f2;have Jy:Hid (ff wr.heap.size w3 uc ((T.drop I).map (·.2.2))):=ff.mono Xp Jq.o.size;have Xn:Hid (Bl wr w3):=Jc;have Jb:wr.heap.size<w3.heap.size:=b_ g0;have Xw:Hid (Calls prog 91 #[.agg #[V nk,V nv,sV nm],uc] w3.drew λx w'=>∃ta tb,x=rW (.iface ta tb)/\(Tv w' (qp S uc) (.iface ta tb) (joinF (fsJ (T.drop I)) A++[⟨nk,nv,nm⟩])/\Bl w3 w')/\w'.cell? ⟨wr.heap.size,0,none⟩=some (V nk)/\w'.cell? ⟨wr.heap.size,1,none⟩=some (V nv)/\w'.cell? ⟨wr.heap.size,2,none⟩=some (sV nm)):=by have hd:Bl wr w3.drew:=Jc.drew;have⟨k1,k2,k4⟩:=HI.o.kids I A J_ hd (u:=uc) (ownsRow.drew Jy);refine(oY ⟨nk,nv,nm⟩ Jn.o A Jo.o _ uc _ w3.drew k1 (λi hi=>(k2 i hi).isI)).mono ?_;rintro x w' ⟨rfl,h2⟩;have h1:Tv w' (qp S uc) (jC ⟨nk,nv,nm⟩ uc (vsJ (T.drop I))) (joinF (fsJ (T.drop I)) A++[⟨nk,nv,nm⟩]):=(IQ ⟨nk,nv,nm⟩ Jn.o A Jo.o _ _ uc _ _ k1 k2).bel k4 h2;have h3:Bl w3 w':=r_.drew.trans h2;have⟨ta,tb,Je⟩:=h1.isI;rw[Je]at h1;refine⟨ta,tb,by rw[Je],⟨h1,h3⟩,(h3.cell (p:=⟨wr.heap.size,0,none⟩) Jb).trans g0,(h3.cell (p:=⟨wr.heap.size,1,none⟩) Jb).trans g1,(h3.cell (p:=⟨wr.heap.size,2,none⟩) Jb).trans g2⟩
      have Xc:Hid (∀w4 u' o,(Tv w4 (qp S uc) u' (joinF (fsJ (T.drop I)) A++[⟨nk,nv,nm⟩])/\Bl w3 w4)->(w4.alloc o).ownsRow w.heap.size 127 1 (.slice J I U) ((T.take I).map (·.2.2)).length ((T.take I).map (·.2.2))/\w.heap.size<=(w4.alloc o).heap.size):=by intro w4 u' o ⟨_,h⟩;have h1:=(HI.o.below (Jc.trans (h.mono Jc.size))).below (r_.alloc n_ o);have h2:=h1.row.head I (by rw[J8];omega);rw[<-map_take]at h2;exact⟨h2,h1.bel.size⟩
      have Xe:Hid (∀(W W':AT) (o:Obj),W.cell? ⟨wr.heap.size,0,none⟩=some (V nk)->W.cell? ⟨wr.heap.size,1,none⟩=some (V nv)->W.cell? ⟨wr.heap.size,2,none⟩=some (sV nm)->(W.alloc o).grownBy W' (Value.slice J I U).ownBlock->W'.cell? ⟨wr.heap.size,0,none⟩=some (V nk)/\W'.cell? ⟨wr.heap.size,1,none⟩=some (V nv)/\W'.cell? ⟨wr.heap.size,2,none⟩=some (sV nm)):=by
        intro W W' o h0 h1 h2 hg;have Xd:some wr.heap.size≠(Value.slice J I U).ownBlock:=λh=>by
          have:=(HI.o.row.own wr.heap.size (by cases J <;> exact h.symm)).2
          omega
        have Jv:∀i v,W.cell? ⟨wr.heap.size,i,none⟩=some v->W'.cell? ⟨wr.heap.size,i,none⟩=some v:=λi v h=>hg.cell ((((Below.refl W.heap.size W).alloc n_ o).cell (p:=⟨wr.heap.size,i,none⟩) (b_ h)).trans h) Xd;exact⟨Jv _ _ h0,Jv _ _ h1,Jv _ _ h2⟩
      go_wp2_with fail;go_region_held_law (λW=>W.cell? ⟨wr.heap.size,0,none⟩=some (V nk)/\W.cell? ⟨wr.heap.size,1,none⟩=some (V nv)/\W.cell? ⟨wr.heap.size,2,none⟩=some (sV nm)) (first|go_keep|(go_split_ands;exact⟨y0,y1,y2⟩))
        (first
        | ((with_reducible refine Calls.mono Xw.o ?_);intro x w4 hx;obtain⟨ta,tb,Xv,Jl,q0,q1,q2⟩:=hx;subst Xv)
        | (refine j_ Ic _ _ 186 Ic w.heap.size 127 i0 .nilIface underlying186 Xq Xg Xt Xo Ic (.slice J I U) ((T.take I).map (·.2.2)) Ic (Xc.o _ _ _ Jl).1 (.slice (some ⟨w4.heap.size,0,none⟩) 1 1) [.iface ta tb] Ic (Src.lit _ _ _) (λy hy=>by simp at hy;subst hy;rfl) H6 (Xc.o _ _ _ Jl).2 ?_;intro v' w6 Jd Ja Jr;have⟨y0,y1,y2⟩:=Xe.o _ _ _ q0 q1 q2 Ja))
      have Xl:Hid (∃T' S',RJ w w6 e (k+1) v' T' S'):=by
        have Jk:=Xk;refine HI.o.step (w3:=w3) (w4:=w4) (w5:=w4.alloc (.cells #[.iface ta tb] 127)) (u:=uc) hlt I A J_ (by rw[Jk];exact Jn) (by rw[Jk];exact Jo) Xn.o Jy.o Jl.2 (by rw[Jk];exact Jl.1) (r_.alloc n_ _) Jd ?_ ?_
        · have e1:(Value.slice J I U).ownBlock=(Value.slice J T.length U).ownBlock:=by cases J <;> rfl
          rw[<-e1];exact Ja
        · have e1:(Value.slice J I U).ownBlock=(Value.slice J T.length U).ownBlock:=by cases J <;> rfl
          rw[<-e1];exact Jr
      obtain⟨va,vn,vc,rfl⟩:∃va vn vc,v'=.slice va vn vc:=by have⟨va,vc,h,_⟩:=ff.form Jd;exact⟨_,_,_,h⟩
      go_wp2;go_roundw
      case rel=>exact⟨k+1,o_,by go_num,Xl⟩
      case measure=>exact IF
    · obtain rfl:k=e.length:=by omega
      have⟨u,g,⟨cp,hv⟩,Xa,Xs⟩:=Z.fin Ji;simp only[Value.slice.injEq]at hv;obtain⟨rfl,Xm,rfl⟩:=hv;have Xu:T.length=1:=(IN Xm);rw[Xu];go_wp2;go_ret;exact⟨_,S,rfl,Xs,λB hB=>⟨(HI.o.sep B hB).1,(HI.o.sep B hB).2.1⟩,HI.o.bel⟩
def Jg(w:AT)(S:Ft)(L:List St)(e:Ending)(w':AT):Prop:=∃(u:BY) (S':Ft),e=rW u/\Bv w' (λB=>S B\/S' B) u L/\(∀B,S' B->w.heap.size<=B/\B<w'.heap.size)/\Bl w w'
def vo(s:St)(K:BY->BY)(L:List St)(ve vf J Z:BY)(S:Ft)(w:AT)(hT:gF w)(hN:aC w ve s.e)(hF:∃a n c,vf=.slice a n c)(ho:oneB s.e=true)(hl:s.e.length<=2000)
  (I:(s.kd=1/\K=λx=>.iface 164 (.agg #[sV s.nm,x]))\/(s.kd=2/\K=λx=>.iface 165 (.agg #[sV s.nm,x]))\/(s.kd=4/\(K=λx=>.iface 155 (.agg #[x,J,Z]))/\(∃a n c,J=.slice a n c)/\(∃a n c,Z=.slice a n c))\/(s.kd=5/\(K=λx=>.iface 160 (.agg #[x,J]))/\(∃a n c,J=.slice a n c)/\True)\/(s.kd=6/\K=λx=>.iface 129 (.agg #[x]))\/(s.kd=7/\K=λx=>.iface 168 (.agg #[x]))\/(s.kd=8/\K=λx=>.iface 169 (.agg #[x])))
  (Ji:∀W (S':Ft) x,Bl w W->Tv W S' x s.e->Bv W (λB=>S B\/S' B) (K x) L):
  Calls prog 65 #[.agg #[V s.kd,sV s.nm,ve,vf,V s.th,V s.el],J,Z] w (Jg w S L):=by
 have HR:=ah λW (hW:Bl w W)=>jM _ s.e W (hT.below hT.size hW) (hN.below hW) ho hl;obtain⟨af,nf,cf,rfl⟩:=hF;obtain⟨ae,ce,rfl,-⟩:=hN;have⟨W0,Ja⟩:=q_ (w.alloc (.cells #[V s.kd,sV s.nm,.slice ae s.e.length ce,.slice af nf cf,V s.th,V s.el] 79));have Jb:Bl w W0:=by rw[Ja];exact r_.alloc n_ _
 have Je:w.heap.size<W0.heap.size:=by rw[Ja];simp
 have HX:Hid (∀W,Bl W0 W->W.cell? ⟨w.heap.size,0,none⟩=some (V s.kd)/\W.cell? ⟨w.heap.size,1,none⟩=some (sV s.nm)):=λW hW=>by rw[hW.cell (p:=⟨w.heap.size,0,none⟩) Je,hW.cell (p:=⟨w.heap.size,1,none⟩) Je,Ja];exact⟨i_,i_⟩
 have Jf:=ah Ja;clear Ja hT;rcases I with⟨I,rfl⟩|⟨I,rfl⟩|⟨I,rfl,⟨a1,n1,c1,rfl⟩,a2,n2,c2,rfl⟩|⟨I,rfl,⟨a1,n1,c1,rfl⟩,-⟩|⟨I,rfl⟩|⟨I,rfl⟩|⟨I,rfl⟩;all_goals
  have HP:=ah Ji;have HK:=ah I;clear Ji I;go_in;go_wp2_with fail;rw[<-Jf.o];refine(HR.o _ Jb).mono ?_;rintro e w1 ⟨u,S',rfl,U,Jc,Jd⟩;have Jh:=Jb.trans (Jd.mono Jb.size);have HU:=ah (HP.o w1 S' u Jh U);have⟨x0,x1⟩:=HX.o w1 Jd;rw[HK.o]at x0;obtain⟨t,y,rfl⟩:=U.isI;have Jj:Hid (∀B,S' B->w.heap.size<=B/\B<w1.heap.size):=λB hB=>⟨t_ Jb.size (Jc B hB).1,(Jc B hB).2⟩;clear HX HP HR U Jc Jd Jf;go_wp2;go_ret;exact⟨_,S',rfl,HU,Jj,Jh⟩
def JS{w W:AT}{S S':Ft}(hS:∀B,S B->B<w.heap.size)(hb:Bl w W):(∀B,S B->S B\/S' B)/\∀B,S B->W.heap[B]? =w.heap[B]? := ⟨λ_ h=>.inl h,λB h=>hb.block B (hS B h)⟩
def Jh(s:St)(hk:s.kd=4)(U vf J I:BY)(S:Ft)(w:AT)(hT:gF w)(hN:aC w U s.e)(hF:∃a n c,vf=.slice a n c)(ho:oneB s.e=true)(hl:s.e.length<=2000)(hS:∀B,S B->B<w.heap.size)(A B:Nat)(vs us:Nat->BY)(F H:Nat->List St)(Ja:gy w S J A vs)(Jd:∀i,i<A->Bv w S (vs i) (F i))(Jb:gy w S I B us)(Jc:∀i,i<B->Bv w S (us i) (H i))(Z:s.th=(bW F A).length/\s.el=(bW H B).length):
  Calls prog 65 #[.agg #[V s.kd,sV s.nm,U,vf,V s.th,V s.el],J,I] w (Jg w S (s::bW F A++bW H B)):=by
 refine vo s _ _ U vf J I S w hT hN hF ho hl (.inr (.inr (.inl ⟨hk,rfl,?_,?_⟩))) λW S' x hb ht=>?_
 obtain⟨a,c,h,-⟩:=Ja;exact⟨_,_,_,h⟩;obtain⟨a,c,h,-⟩:=Jb;exact⟨_,_,_,h⟩
 have⟨p,q⟩:=JS (S':=S') hS hb;exact .ifs s x J I A B vs us F H hk (ht.keep (λB h=>.inr h) (λB _=>rfl)) (Ja.keep p q) (λi hi=>(Jd i hi).keep p q) (Jb.keep p q) (λi hi=>(Jc i hi).keep p q) Z.1 Z.2
def Ji(s:St)(Z:s.kd=5)(J vf I vb:BY)(S:Ft)(w:AT)(hT:gF w)(hN:aC w J s.e)(hF:∃a n c,vf=.slice a n c)(ho:oneB s.e=true)(hl:s.e.length<=2000)(hS:∀B,S B->B<w.heap.size)(A:Nat)(vs:Nat->BY)(F:Nat->List St)(Ja:gy w S I A vs)(Jb:∀i,i<A->Bv w S (vs i) (F i))(U:s.th=(bW F A).length/\s.el=0):
  Calls prog 65 #[.agg #[V s.kd,sV s.nm,J,vf,V s.th,V s.el],I,vb] w (Jg w S (s::bW F A)):=by
 refine vo s _ _ J vf I vb S w hT hN hF ho hl (.inr (.inr (.inr (.inl ⟨Z,rfl,?_,trivial⟩)))) λW S' x hb ht=>?_
 obtain⟨a,c,h,-⟩:=Ja;exact⟨_,_,_,h⟩
 have⟨p,q⟩:=JS (S':=S') hS hb;exact .whil s x I A vs F Z (ht.keep (λB h=>.inr h) (λB _=>rfl)) (Ja.keep p q) (λi hi=>(Jb i hi).keep p q) U.1 U.2
def Dv(s:St)(I:s.kd=1\/s.kd=2)(J vf va Z:BY)(S:Ft)(w:AT)(hT:gF w)(hN:aC w J s.e)(hF:∃a n c,vf=.slice a n c)(ho:oneB s.e=true)(hl:s.e.length<=2000)(hS:∀B,S B->B<w.heap.size)(U:s.th=0/\s.el=0):
  Calls prog 65 #[.agg #[V s.kd,sV s.nm,J,vf,V s.th,V s.el],va,Z] w (Jg w S [s]):=by
 rcases I with I|I;exact vo s _ _ J vf va Z S w hT hN hF ho hl (.inl ⟨I,rfl⟩) λW S' x hb ht=>.decl s x I (ht.keep (λB h=>.inr h) (λB _=>rfl)) U.1 U.2
 exact vo s _ _ J vf va Z S w hT hN hF ho hl (.inr (.inl ⟨I,rfl⟩)) λW S' x hb ht=>.set s x I (ht.keep (λB h=>.inr h) (λB _=>rfl)) U.1 U.2
def sZ(s:St)(I:s.kd=6\/s.kd=7\/s.kd=8)(U vf va Z:BY)(S:Ft)(w:AT)(hT:gF w)(hN:aC w U s.e)(hF:∃a n c,vf=.slice a n c)(ho:oneB s.e=true)(hl:s.e.length<=2000)(hS:∀B,S B->B<w.heap.size)(J:s.th=0/\s.el=0):
  Calls prog 65 #[.agg #[V s.kd,sV s.nm,U,vf,V s.th,V s.el],va,Z] w (Jg w S [s]):=by
 have g:=λK q=>vo s K [s] U vf va Z S w hT hN hF ho hl (.inr (.inr (.inr (.inr q))));rcases I with I|I|I
 exact g _ (.inl ⟨I,rfl⟩) λW S' x hb ht=>.ret s x I (ht.keep (λB h=>.inr h) (λB _=>rfl)) J.1 J.2
 exact g _ (.inr (.inl ⟨I,rfl⟩)) λW S' x hb ht=>.out s x I (ht.keep (λB h=>.inr h) (λB _=>rfl)) J.1 J.2
 exact g _ (.inr (.inr ⟨I,rfl⟩)) λW S' x hb ht=>.call s x I (ht.keep (λB h=>.inr h) (λB _=>rfl)) J.1 J.2
theorem Jj(s:St)(hk:s.kd=3)(ve vf va vb:BY)(S:Ft)(w:AT)(hT:gF w)(hN:aC w ve s.e)(Jp:aC w vf s.f)(ho:oneB s.e=true)(hl:s.e.length<=2000)(Ju:oneB s.f=true)(Jt:s.f.length<=2000)(h0:s.th=0/\s.el=0):
  Calls prog 65 #[.agg #[V s.kd,sV s.nm,ve,vf,V s.th,V s.el],va,vb] w λe w'=>∃(u:BY) (S':Ft),e=rW u/\Bv w' (λB=>S B\/S' B) u [s]/\(∀B,S' B->w.heap.size<=B/\B<w'.heap.size)/\Bl w w':=by
 have HR:=ah λW (hW:Bl w W)=>jM _ s.e W (hT.below hT.size hW) (hN.below hW) ho hl;have Jm:=ah λW (hW:Bl w W)=>jM _ s.f W (hT.below hT.size hW) (Jp.below hW) Ju Jt;obtain⟨U,J,rfl,-⟩:=Jp;obtain⟨ae,ce,rfl,-⟩:=hN;have⟨W0,Jb⟩:=q_ (w.alloc (.cells #[V s.kd,sV s.nm,.slice ae s.e.length ce,.slice U s.f.length J,V s.th,V s.el] 79));have Je:Bl w W0:=by rw[Jb];exact r_.alloc n_ _
 have Jg:w.heap.size<W0.heap.size:=by rw[Jb];simp
 have HX:Hid (∀W,Bl W0 W->W.cell? ⟨w.heap.size,0,none⟩=some (V s.kd)/\W.cell? ⟨w.heap.size,1,none⟩=some (sV s.nm)/\W.cell? ⟨w.heap.size,3,none⟩=some (.slice U s.f.length J)):=λW hW=>by rw[hW.cell (p:=⟨w.heap.size,0,none⟩) Jg,hW.cell (p:=⟨w.heap.size,1,none⟩) Jg,hW.cell (p:=⟨w.heap.size,3,none⟩) Jg,Jb];exact⟨i_,i_,i_⟩
 have Jl:=ah Jb;have Jk:Hid (∀(W W':AT) (S1 I:Ft) x y,Bl W W'->Tv W S1 x s.e->(∀B,S1 B->B<W.heap.size)->Tv W' I y s.f->Bv W' (λB=>S B\/(S1 B\/I B)) (.iface 167 (.agg #[sV s.nm,x,y])) [s]):=λW W' S1 I x y hb h1 Jd h2=>.store s x y hk (h1.keep (λB h=>.inr (.inl h)) (λB hB=>hb.block B (Jd B hB))) (h2.keep (λB h=>.inr (.inr h)) (λB _=>rfl)) h0.1 h0.2;have HK:=ah hk;clear Jb hT hk h0;go_in;go_wp2_with fail;rw[<-Jl.o];refine(HR.o _ Je).mono ?_;rintro e w1 ⟨u,S1,rfl,ht,Jd,Jn⟩;have⟨x0,x1,x3⟩:=HX.o w1 Jn;rw[HK.o]at x0;obtain⟨t,y,rfl⟩:=ht.isI;have Jc:=Je.trans (Jn.mono Je.size);have Js:Bl w w1.drew:=Jc.drew;have Jo:w.heap.size<w1.drew.heap.size:=b_ x0;have d1:w1.drew.cell? ⟨w.heap.size,1,none⟩=some (sV s.nm):=x1;have d3:w1.drew.cell? ⟨w.heap.size,3,none⟩=some (.slice U s.f.length J):=x3;have Jf:Hid (Tv w1 S1 (.iface t y) s.e/\(∀B,S1 B->W0.heap.size<=B/\B<w1.heap.size)):=⟨ht,Jd⟩;have HP:Hid (Calls prog 90 #[.slice U s.f.length J,.func (Fn.func 91) #[] #[]] w1.drew λx w'=>∃(Z:JZ) (tb:BY) (I:Ft),x=rW (.iface Z tb)/\(Tv w' I (.iface Z tb) s.f/\(∀B,I B->w1.heap.size<=B/\B<w'.heap.size))/\Bl w1.drew w'):=(Jm.o _ Js).mono (by rintro x w' ⟨u,I,rfl,h1,h2,h3⟩;obtain⟨Z,tb,rfl⟩:=h1.isI;exact⟨Z,tb,I,rfl,⟨h1,h2⟩,h3⟩)
 clear HX HR Jm ht Jd Jl;go_wp2_with fail;go_region_held3 (λW=>W.cell? ⟨w.heap.size,1,none⟩=some (sV s.nm)/\W.cell? ⟨w.heap.size,3,none⟩=some (.slice U s.f.length J)) (go_simp)
  (first
  | ((with_reducible refine Calls.mono HP.o ?_);rintro e w3 ⟨Z,tb,I,rfl,Jh,Ji⟩;have q1:w3.cell? ⟨w.heap.size,1,none⟩=some (.string s.nm):=(Ji.cell (p:=⟨w.heap.size,1,none⟩) Jo).trans d1;have q3:w3.cell? ⟨w.heap.size,3,none⟩=some (.slice U s.f.length J):=(Ji.cell (p:=⟨w.heap.size,3,none⟩) Jo).trans d3))
 have Ja:Bl w1 w3:=(r_.drew).trans Ji;have HU:=ah (Jk.o w1 w3 S1 I _ _ Ja Jf.o.1 (λB hB=>(Jf.o.2 B hB).2) Jh.1);have Jr:Hid (∀B,(S1 B\/I B)->w.heap.size<=B/\B<w3.heap.size):=λB hB=>by
  have Jv:=Ja.size;rcases hB with hB|hB
  have:=Jf.o.2 B hB;have:=Je.size;omega
  have:=Jh.2 B hB;have:=Jc.size;omega
 have Jq:=Jc.trans (Ja.mono Jc.size);clear Jk Jf Jh HP;go_wp2;go_ret;exact⟨_,_,rfl,HU,Jr,Jq⟩
def me{F:Nat->List St}{A:Nat}(h:(0:Int)=(bW F A).length):bW F A=[]:=J3 o_
def Dw(s:St)(hb:stmtB s=true)(hl:s.e.length<=2000)(Jk:s.f.length<=2000)(ve vf va Z:BY)(S:Ft)(w:AT)(hT:gF w)(hN:aC w ve s.e)(Je:aC w vf s.f)(hS:∀B,S B->B<w.heap.size)(A B:Nat)(vs us:Nat->BY)(F H:Nat->List St)(Jc:gy w S va A vs)(Jd:∀i,i<A->Bv w S (vs i) (F i))(Jl:gy w S Z B us)(Jg:∀i,i<B->Bv w S (us i) (H i))(h0:s.th=(bW F A).length/\s.el=(bW H B).length):
  Calls prog 65 #[.agg #[V s.kd,sV s.nm,ve,vf,V s.th,V s.el],va,Z] w λe w'=>∃(u:BY) (S':Ft),e=rW u/\Bv w' (λB=>S B\/S' B) u (s::bW F A++bW H B)/\(∀B,S' B->w.heap.size<=B/\B<w'.heap.size)/\Bl w w':=by
 have hF:∃a n c,vf=.slice a n c:=by obtain⟨a,c,rfl,_⟩:=Je;exact⟨a,_,c,rfl⟩
 unfold stmtB at hb;simp only[J1,Bool.or_eq_true,J2,beq_iff_eq]at hb;obtain⟨⟨⟨⟨⟨⟨hk,-⟩,ho⟩,Jb⟩,-⟩,ht⟩,he⟩:=hb;have Jf:s.kd=1\/s.kd=2\/s.kd=3\/s.kd=4\/s.kd=5\/s.kd=6\/s.kd=7\/s.kd=8:=o_;have Ja:¬(s.kd=4\/s.kd=5)->s.th=0/\s.el=0/\s::bW F A++bW H B=[s]:=λhn=>by
  have J:s.th=0:=by rcases ht with h|h;exact absurd h hn;exact h
  have I:s.el=0:=by rcases he with h|h;exact absurd (.inl h) hn;exact h
  refine⟨J,I,?_⟩;rw[me (F:=F) (A:=A) (by rw[<-h0.1,J]),me (F:=H) (A:=B) (by rw[<-h0.2,I])];rfl
 rcases Jf with h|h|h|h|h|h|h|h
 have⟨J,I,U⟩:=Ja o_;rw[U];exact Dv s (.inl h) ve vf va Z S w hT hN hF ho hl hS ⟨J,I⟩
 have⟨J,I,U⟩:=Ja o_;rw[U];exact Dv s (.inr h) ve vf va Z S w hT hN hF ho hl hS ⟨J,I⟩
 have⟨J,I,U⟩:=Ja o_;rw[U];rw[if_pos h]at Jb;exact Jj s h ve vf va Z S w hT hN Je ho hl Jb Jk ⟨J,I⟩
 exact Jh s h ve vf va Z S w hT hN hF ho hl hS A B vs us F H Jc Jd Jl Jg h0;have I:s.el=0:=by rcases he with h'|h';omega;exact h'
 have U:s::bW F A++bW H B=s::bW F A:=by rw[me (F:=H) (A:=B) (by rw[<-h0.2,I]),append_nil]
 rw[U];exact Ji s h ve vf va Z S w hT hN hF ho hl hS A vs F Jc Jd ⟨h0.1,I⟩
 have⟨J,I,U⟩:=Ja o_;rw[U];exact sZ s (.inl h) ve vf va Z S w hT hN hF ho hl hS ⟨J,I⟩
 have⟨J,I,U⟩:=Ja o_;rw[U];exact sZ s (.inr (.inl h)) ve vf va Z S w hT hN hF ho hl hS ⟨J,I⟩
 have⟨J,I,U⟩:=Ja o_;rw[U];exact sZ s (.inr (.inr h)) ve vf va Z S w hT hN hF ho hl hS ⟨J,I⟩
def Dx:Prop:=∀(ss:List St) (v:BY) (w:AT),gF w->aZ w v ss->bw ss=true->(∀s∈ss,stmtB s=true/\s.e.length<=2000/\s.f.length<=2000)->ss.length<=1000->Calls prog 37 #[v] w λe w'=>∃(u:BY) (S':Ft),e=rW u/\Bk w' S' u ss/\(∀B,S' B->w.heap.size<=B/\B<w'.heap.size)/\Bl w w'
section
variable{w wr:AT}{ss:List St}{v:BY}{L:List (BY×List St)}{S:Ft}
def Jk:BY->Nat
 | .slice _ n _=>n
 | _=>0
structure Gq (w wr:AT) (ss rest:List St) (v:BY) (L:List (BY×List St)) (S:Ft):Prop where
 row:wr.ownsRow w.heap.size 124 1 v L.length (L.map (·.1))
 bv:∀q∈L,Bv wr S q.1 q.2
 join:ss=(L.map (·.2)).flatten++rest
 rng:∀B,S B->w.heap.size<=B/\B<wr.heap.size/\some B≠v.ownBlock
 bel:Bl w wr
theorem jq(L:List (BY×List St))(d:BY×List St):∀k,k<=L.length->bW (λi=>(L.getD i d).2) k=((L.take k).map (·.2)).flatten
 | 0,_=>rfl
 | k+1,h=>by
  have hk:k<L.length:=o_;simp only[bW];rw[jq L d k o_,take_succ_eq_append_getElem hk];have eg:L.getD k d=L[k]:=by rw[getD_eq_getElem?_getD,J4 hk];rfl
  simp only[map_append,map_cons,map_nil,flatten_append,flatten_cons,flatten_nil,append_nil,eg]
def Gq.bk(h:Gq w wr ss [] v L S):∃S':Ft,Bk wr S' v ss/\∀B,S' B->w.heap.size<=B/\B<wr.heap.size:=by
 have Jb:=λk hk=>ownsRow.lt h.row k hk;refine⟨λB=>S B\/v.ownBlock=some B,⟨L.length,λi=>(L.getD i (.nilFunc,[])).1,λi=>(L.getD i (.nilFunc,[])).2,?_,λi hi=>?_,?_⟩,λB hB=>?_⟩
 have Z:=h.row;rcases h.row.2 with⟨I,hn⟩|⟨g,Je,Jf,I,Jg,hg,Jd,Jc,Jh,Ja⟩;refine⟨none,0,by rw[I,hn],o_,o_,λhp=>by omega⟩;refine⟨_,Je,I,Jd,by unfold maxLen at Jc;omega,λhp=>⟨g,rfl,.inr (by rw[I];rfl),λi hi=>?_⟩⟩;have U:(L.map (·.1))[i]? =some ((L.getD i (.nilFunc,[])).1):=by simp[getD_eq_getElem?_getD,J4 hi]
 have:=ownsRow.cells Z (g:=g) (by rw[I];rfl) i _ U
 rw[dk]at this;simpa using this;have J:L.getD i (.nilFunc,[])∈L:=by rw[getD_eq_getElem?_getD,J4 hi];exact g_ hi
 exact(h.bv _ J).keep (λB hB=>.inl hB) (λB _=>rfl);rw[jq L _ L.length n_,take_length];have:=h.join;simpa using this;rcases hB with hB|hB;exact⟨(h.rng B hB).1,(h.rng B hB).2.1⟩;exact Jb B hB
def Gq.next{I w':AT}{Jc r':List St}{v' u:BY}{J:Ft}(h:Gq w wr ss (Jc++r') v L S)(U:Bl wr I)(hu:Bv I J u Jc)(Ja:∀B,J B->wr.heap.size<=B/\B<I.heap.size)
  (Z:I.grownBy w' v.ownBlock) (Jb:w'.ownsRow w.heap.size 124 1 v' (L.map (·.1)++[u]).length (L.map (·.1)++[u])) (hf:∀k,v'.ownBlock=some k->v.ownBlock=some k\/I.heap.size<=k):Gq w w' ss r' v' (L++[(u,Jc)]) (λB=>S B\/J B):=by
 have Jd:=λk hk=>ownsRow.lt h.row k hk;have k1:∀B,S B->w'.heap[B]? =wr.heap[B]? := λB hB=>by have⟨h1,h2,h3⟩:=h.rng B hB;rw[Z.block B (l_ h2 U.size) h3,U.block B h2]
 have hn:∀B,J B->some B≠v.ownBlock:=λB hB e=>by
  have:=Jd B e.symm
  have:=Ja B hB
  omega
 have k2:∀B,J B->w'.heap[B]? =I.heap[B]? := λB hB=>Z.block B (Ja B hB).2 (hn B hB);refine⟨IN Jb,λq hq=>?_,?_,λB hB=>?_,?_⟩
 rcases J5.1 hq with hq|hq;exact(h.bv q hq).keep (λB hB=>.inl hB) k1;simp only[mem_cons,not_mem_nil,or_false]at hq;subst hq;exact hu.keep (λB hB=>.inr hB) k2;rw[h.join];simp;have Jf:=h.bel.size;rcases hB with hB|hB
 have⟨h1,h2,h3⟩:=h.rng B hB;refine⟨h1,l_ (l_ h2 U.size) Z.size,λe=>?_⟩;rcases hf B e.symm with h4|h4
 exact h3 h4.symm
 have:=U.size;omega
 have⟨h1,h2⟩:=Ja B hB;refine⟨o_,l_ h2 Z.size,λe=>?_⟩;rcases hf B e.symm with h4|h4
 exact hn B hB h4.symm;omega;have Je:Bl w I:=h.bel.trans (U.mono h.bel.size);exact Je.grown Z Je.size (λk hk=>(Jd k hk).1)
end
theorem Dy(L:List (BY×List St))(h:∀q∈L,0<q.2.length):L.length<=(L.map (·.2)).flatten.length:=by
 induction L with
 | nil=>simp
 | cons q r ih=>have I:=h q i_;have h2:=ih (λx hx=>h x (by simp[hx]));simp only[map_cons,flatten_cons,l_a,l_c];omega
def zh:(prog.info? 124).map (λi=>(i.zero,i.size,i.bytes))=some (some .nilIface,1,16):=by kernel_rfl
def own_below{B t z n:Nat}{w w':AT}{v:BY}{U:List BY}(h:w.ownsRow B t z v n U)(hb:Bl w w'):w'.ownsRow B t z v n U:=by obtain⟨g1,I⟩:=h;refine⟨g1,?_⟩;rcases I with I|⟨g,Jb,Ja,rfl,g3,J,Z⟩;exact .inl I;refine .inr ⟨g,Jb,Ja,rfl,g3,?_,Z⟩;rw[hb.block g (Array.getElem?_eq_some_iff.1 J).1];exact J
def FC(W:AT)(J:JZ)(I:BY):Src (W.alloc (.cells #[.iface J I] 124)) (rV W.heap.size 1 1) [.iface J I]:=by
 refine⟨_,_,rfl,(λh=>by cases h),λad had j u hj=>?_⟩;simp only[J0]at had;subst had;have Ja:j=0:=by
  have:=(List.getElem?_eq_some_iff.mp hj).1
  simp at this;omega
 subst Ja;simp at hj;subst hj;simp[Addr.add]
theorem lw(ss:List St)(v:BY)(w:AT)(hT:gF w)(hS:aZ w v ss)(Xo:bw ss=true)(Zs:∀s∈ss,stmtB s=true/\s.e.length<=2000/\s.f.length<=2000)(Zt:ss.length<=1000)
  (IH:∀(tt:List St) (u:BY) (W:AT),tt.length<ss.length->Bl w W->aZ w u tt->bw tt=true->(∀s∈tt,s∈ss)->Calls prog 37 #[u] W λe w'=>∃(x:BY) (S':Ft),e=rW x/\Bk w' S' x tt/\(∀B,S' B->W.heap.size<=B/\B<w'.heap.size)/\Bl W w'):
  Calls prog 37 #[v] w λe w'=>∃(u:BY) (S':Ft),e=rW u/\Bk w' S' u ss/\(∀B,S' B->w.heap.size<=B/\B<w'.heap.size)/\Bl w w':=by
 have⟨HT,HS,Yh,Jz,Xs⟩:=h5 hT hS Zs Xo IH;obtain⟨av,cv,rfl,-⟩:=hS;go_in;go_wp2;go_loopw[0,3] (λv0 v3 wr=>∃(Jb:List St) (L:List (BY×List St)) (S:Ft),aZ w v0 Jb/\bw Jb=true/\Jb.length<=ss.length/\(∀s∈Jb,s∈ss)/\Gq w wr ss Jb v3 L S) (λv0 _ _=>Jk v0)
 case atStart=>exact⟨ss,[],λ_=>False,HS,Jz,n_,λs h=>h,⟨ownsRow_nil _ _ _ _,λq hq=>by simp at hq,i_,λB hB=>hB.elim,r_⟩⟩
 case round=>
  clear HS Jz;obtain⟨Jb,L,S,Xx,Ye,Z_,Jy,Jl⟩:=hrel;have⟨Jh,Jf⟩:=h2 Jl Jy;obtain⟨Jw,Jo,Jp,rfl⟩:∃a n c,u3=.slice a n c:=by rcases Jl.row.2 with⟨rfl,_⟩|⟨g,Jn,Zv,rfl,_⟩;exact⟨_,_,_,rfl⟩;exact⟨_,_,_,rfl⟩
  cases Jb with
  | nil=>obtain⟨a2,c2,rfl,-⟩:=Xx;simp only[l_n];go_wp2_with fail;have⟨S',Zn,Xm⟩:=Jh.o.bk;exact bodyPost_ret (v:=.slice Jw Jo Jp) (by simp[results,results37,go_sem]) rfl ⟨_,S',rfl,Zn,Xm,Jh.o.bel⟩
  | cons s r=>
   rw[fitB_cons,J1,J1,J1,decide_eq_true_iff]at Ye;obtain⟨⟨p1,p2,p3,p4⟩,Yc,Xy,Xw⟩:=Ye;obtain⟨a2,Jn,rfl,Zq,Y_,hc⟩:=Xx;obtain⟨b0,off,rfl,hs⟩:=hc i_;have Js:aZ w (.slice (some ⟨b0,off,none⟩) (s::r).length Jn) (s::r):=⟨_,_,rfl,Zq,Y_,λ_=>⟨b0,off,rfl,hs⟩⟩;have Jg:aZ w (.slice (if Jn=1 then some ⟨b0,off,none⟩else some ⟨b0,off+6,none⟩) r.length (Jn-1)) r:=by
    have:=Js.cut 1 (s::r).length i_ n_
    simpa[Addr.add]using this
   have⟨ve,vf,⟨g0,g1,g2,g3,g4,g5⟩,⟨c0,c1,c2,c3,c4,c5⟩,he,hf⟩:=(hs.below Jl.bel).up 0 i_;simp only[Nat.zero_mul,Nat.add_zero,getElem_cons_zero]at c0 c1 c2 c3 c4 c5 g0 g1 g2 g3 g4 g5 he hf;simp only[l_c]at*;have HR:=ah Jg;have h1:(1:Int)<=(r.length:Int)+1:=o_;have⟨Zg,Za,Yp,Zl,Zm⟩:=h5 he hf Yc Xy Xw;obtain⟨a3,k3,rfl,-⟩:=he;obtain⟨a4,k4,rfl,-⟩:=hf;clear hs hc Js Jg Yc Xy Xw Jl Jy;go_wp2_with fail;go_region;generalize (if Jn=1 then some ({block:=b0,off:=off,spot:=none}:Addr)else some {block:=b0,off:=off+6,spot:=none})=a1 at HR⊢;generalize Xc:Jn-1=k1 at HR⊢;have Zj:r.length<=k1:=o_;have Zf:k1<=9223372036854775807:=o_;have⟨tn,Jq⟩:=Int.eq_ofNat_of_zero_le p1;have⟨I,Xa⟩:=Int.eq_ofNat_of_zero_le p3;have Zw:IntKind.i64.wrap ((tn:Int)+(I:Int))=(tn:Int)+(I:Int):=(by simp[IntKind.wrap,IntKind.bits,IntKind.signed];omega);go_wp2_with fail;have⟨X,hX⟩:=q_ ((wr.alloc (.cells #[V s.kd,sV s.nm,.slice a3 s.e.length k3,.slice a4 s.f.length k4,V (tn:Int),V (I:Int)] 79)).drew);rw[<-hX];have Jt:Bl wr X.drew:=(by rw[hX];exact(ao _ _).drew.drew);have Zz:X.drew.heap.size=wr.heap.size+1:=(by rw[hX];simp);have Xk:=Jh.o.bel;have Jd:Bl w X.drew:=Xk.trans (Jt.mono Xk.size);have HK:Hid (∀W,Bl X.drew W->W.cell? ⟨wr.heap.size,0,none⟩=some (V s.kd)/\W.cell? ⟨wr.heap.size,1,none⟩=some (sV s.nm)/\W.cell? ⟨wr.heap.size,2,none⟩=some (.slice a3 s.e.length k3)/\W.cell? ⟨wr.heap.size,3,none⟩=some (.slice a4 s.f.length k4)/\W.cell? ⟨wr.heap.size,4,none⟩=some (V (tn:Int))/\W.cell? ⟨wr.heap.size,5,none⟩=some (V (I:Int))):=λW hW=>by refine⟨?_,?_,?_,?_,?_,?_⟩ <;> (rw[hW.cell (by simp only;omega)];show X.cell? _=_;rw[hX];show cell? (wr.alloc _) _=_;simp)
   have⟨Z,x1,x2,x3,x4,x5⟩:=HK.o X.drew r_;have Ve:tn+I<=r.length:=o_;obtain⟨a6,k6,Zy,Yk⟩:∃a6 k6,(∀w:AT,(Instr.slice 50 (.slice a1 r.length k1) (some (V (tn:Int))) (some (V ((tn:Int)+(I:Int)))) none).run prog w=.ok (.slice a6 I k6) w)/\aZ w (.slice a6 I k6) ((r.take (tn+I)).drop tn):=by have h:=jD a1 r.length k1 tn (tn+I) o_ o_ o_ (tn:Int) ((tn:Int)+(I:Int)) o_ o_;have h':=HR.o.cut tn (tn+I) o_ o_;rw[show tn+I-tn=I by omega]at h h';exact⟨_,_,h,h'⟩
   have Ys:aZ w (.slice a1 tn k1) (r.take tn):=HR.o.head tn o_;have Va:∀w:AT,(Instr.slice 50 (.slice a1 r.length k1) none (some (V (tn:Int))) none).run prog w=.ok (.slice a1 tn k1) w:=λw=>by have J:prog.elem 50=79:=k_;have Xf:(sizeOf 79).run prog w=.ok 6 w:=k_;rw[run_slice_h w 50 a1 r.length k1 (by rw[J];exact underlying50) .i64 _ o_ o_,J,Xf];simp only[Result.andThen,sliced,Int.toNat_natCast,Nat.sub_zero,Nat.zero_mul,Int.toNat_zero];cases a1 <;> simp[Addr.add]
   have Ym:=ah λW (hW:Bl w W)=>Xs.o (r.take tn) _ W H6 hW Ys (by have:=Yp.o;rw[Jq]at this;exact this) (λz J=>Jf.o z (by simp[mem_of_mem_take J]));have Yz:=ah λW (hW:Bl w W)=>Xs.o _ _ W H6 hW Yk (by have:=Zl.o;rw[Jq,Xa]at this;exact this) (λz J=>Jf.o z (by simp[mem_of_mem_take (J6 J)]));have Zr:Hid (∀(y1 y2:BY) (S1 S2:Ft) (wa wb:AT),Bk wa S1 y1 (r.take tn)->(∀B,S1 B->X.drew.heap.size<=B/\B<wa.heap.size)->Bl X.drew wa->Bk wb S2 y2 ((r.take (tn+I)).drop tn)->(∀B,S2 B->wa.heap.size<=B/\B<wb.heap.size)->Bl wa wb->Calls prog 65 #[.agg #[V s.kd,sV s.nm,.slice a3 s.e.length k3,.slice a4 s.f.length k4,V (tn:Int),V (I:Int)],y1,y2] wb λe w'=>∃(U:JZ) (Z:BY) (S3:Ft),e=rW (.iface U Z)/\Bv w' S3 (.iface U Z) (s::r.take (tn+I))/\(∀B,S3 B->X.drew.heap.size<=B/\B<w'.heap.size)/\Bl wb w'):=λy1 y2 S1 S2 wa wb Xc Ju Ja Xh Xb Je=>by
    have Jx:Bl X.drew wb:=Ja.trans (Je.mono Ja.size);have Xe:Bl w wb:=Jd.trans (Jx.mono Jd.size);have Jr:Bl wr wb:=Jt.trans (Jx.mono Jt.size);have⟨A,vs,F,q1,q2,q3⟩:=Xc.bel (λB hB=>(Ju B hB).2) Je;obtain⟨D,us,H,q4,q5,q6⟩:=Xh;have⟨o1,o2,o3⟩:=Yh.o s (Jf.o s i_);have Vc:=Ja.size;have Zu:=Je.size;have e1:(r.take tn).length=tn:=H6;have e2:((r.take (tn+I)).drop tn).length=I:=H6;have h:=Dw s o1 o2 o3 (.slice a3 s.e.length k3) (.slice a4 s.f.length k4) y1 y2 (λB=>S1 B\/S2 B) wb (HT.o.below HT.o.size Xe) (Zg.o.below Jr) (Za.o.below Jr) (λB hB=>by rcases hB with hB|hB;have:=Ju B hB;omega;exact(Xb B hB).2) A D vs us F H (q1.keep (λB hB=>.inl hB) (λB _=>rfl)) (λi hi=>(q2 i hi).keep (λB hB=>.inl hB) (λB _=>rfl)) (q4.keep (λB hB=>.inr hB) (λB _=>rfl)) (λi hi=>(q5 i hi).keep (λB hB=>.inr hB) (λB _=>rfl)) ⟨by rw[<-q3,e1];exact Jq,by rw[<-q6,e2];exact Xa⟩;rw[Jq,Xa]at h;refine h.mono ?_;rintro e w' ⟨u,S',rfl,Jm,Xm,Yd⟩;obtain⟨U,z0,rfl⟩:=Jm.isI;rw[<-q3,<-q6]at Jm;have el:s::r.take tn++(r.take (tn+I)).drop tn=s::r.take (tn+I):=by rw[cons_append];congr 1;have e3:r.take tn=(r.take (tn+I)).take tn:=(by rw[take_take];congr 1;omega);rw[e3,take_append_drop]
    rw[el]at Jm;refine⟨U,z0,_,rfl,Jm,λB hB=>?_,Yd⟩;have Vb:=Yd.size;rcases hB with(hB|hB)|hB
    have:=Ju B hB;omega
    have:=Xb B hB;omega
    have:=Xm B hB;omega
   clear hX;have⟨iS,Yo,Xn,Xg,Xd⟩:=info_parts zh;have Xi:Hid (∀W,Bl wr W->W.ownsRow w.heap.size 124 1 (.slice Jw Jo Jp) (L.map (·.1)).length (L.map (·.1))):=λW hW=>by rw[J8];exact own_below Jh.o.row hW
   have Xj:=ah λ(W:AT) (U:JZ) (Z:BY)=>FC W U Z;have Vd:(L.map (·.1)).length<=1000000:=by rw[J8];have h1:=Dy L (λq hq=>(Jh.o.bv q hq).pos);have h2:=congrArg List.length Jh.o.join;rw[l_a]at h2;omega
   have Jj:some wr.heap.size≠(Value.slice Jw Jo Jp).ownBlock:=λe=>by have:=(ownsRow.lt Jh.o.row _ e.symm).2;omega
   obtain⟨a7,k7,Zx,Zh⟩:∃a7 k7,(∀w:AT,(Instr.slice 50 (.slice a1 r.length k1) (some (V ((tn:Int)+(I:Int)))) none none).run prog w=.ok (.slice a7 (r.length-(tn+I)) k7) w)/\aZ w (.slice a7 (r.length-(tn+I)) k7) (r.drop (tn+I)):=by have h':=HR.o.cut (tn+I) r.length o_ n_;rw[take_length]at h';refine⟨_,_,λw=>?_,h'⟩;have J:prog.elem 50=79:=k_;have Xf:(sizeOf 79).run prog w=.ok 6 w:=k_;have e:((tn:Int)+(I:Int))=((tn+I:Nat):Int):=o_;rw[e,run_slice_l w 50 a1 r.length k1 (by rw[J];exact underlying50) .i64 _ o_ o_,J,Xf];simp only[Result.andThen,sliced,Int.toNat_natCast]
   go_region_held_law (λW=>W.cell? ⟨wr.heap.size,0,none⟩=some (V s.kd)/\W.cell? ⟨wr.heap.size,1,none⟩=some (sV s.nm)/\W.cell? ⟨wr.heap.size,2,none⟩=some (.slice a3 s.e.length k3)/\W.cell? ⟨wr.heap.size,3,none⟩=some (.slice a4 s.f.length k4)/\W.cell? ⟨wr.heap.size,4,none⟩=some (V (tn:Int))/\W.cell? ⟨wr.heap.size,5,none⟩=some (V (I:Int)))
    (first|go_keep|(go_split_ands;exact⟨Yf,Ze,Zc,Yg,Yn,Yq⟩)|(go_split_ands;exact⟨Zd,Zp,Zi,Yu,Yx,Zk⟩)|(go_split_ands;exact⟨Yb,X_,Xz,Xt,Xr,Ya⟩)|(go_split_ands;exact⟨Yt,Yy,Yr,Yv,Yj,Zb⟩))
    (first
    | (with_reducible refine Calls.mono (Ym.o X.drew Jd) ?_;rintro e wa ⟨y1,S1,rfl,Xc,Ju,Ja⟩;have⟨Yf,Ze,Zc,Yg,Yn,Yq⟩:=HK.o wa Ja)
    | (with_reducible refine Calls.mono (Yz.o wa (Jd.trans (Ja.mono Jd.size))) ?_;rintro e wb ⟨y2,S2,rfl,Xh,Xb,Je⟩;have⟨Zd,Zp,Zi,Yu,Yx,Zk⟩:=HK.o wb (Ja.trans (Je.mono Ja.size)))
    | (with_reducible refine Calls.mono (Zr.o y1 y2 S1 S2 wa wb Xc Ju Ja Xh Xb Je) ?_;rintro e wc ⟨U,Z,S3,rfl,Jm,Xp,Xq⟩;have Xu:Bl X.drew wc:=(Ja.trans (Je.mono Ja.size)).trans (Xq.mono (Ja.trans (Je.mono Ja.size)).size);have Jv:Bl wr wc:=Jt.trans (Xu.mono Jt.size);have Jc:wr.heap.size<wc.heap.size:=(Ka Xu.size);have⟨Yb,X_,Xz,Xt,Xr,Ya⟩:=HK.o wc ((Ja.trans (Je.mono Ja.size)).trans (Xq.mono (Ja.trans (Je.mono Ja.size)).size)))
    | (refine j_ (P:=prog) Ic _ _ 85 Ic w.heap.size 124 iS _ underlying85 Yo Xn Xg Xd rfl (.slice Jw Jo Jp) (L.map (·.1)) Ic (Xi.o _ (Jv.alloc Jv.size _)) (.slice (some ⟨wc.heap.size,0,none⟩) 1 1) [.iface U Z] Ic (Xj.o wc U Z) (λu hu=>by simp only[mem_cons,not_mem_nil,or_false]at hu;subst hu;rfl) (by simp only[l_c,l_n];omega) (by have:=Jv.size;have:=Xk.size;simp only[J9];omega) ?_;intro v' w' J_ Ji Yi;obtain⟨Yt,Yy,Yr,Yv,Yj,Zb⟩:w'.cell? ⟨wr.heap.size,0,none⟩=some (.int .i64 s.kd)/\w'.cell? ⟨wr.heap.size,1,none⟩=some (.string s.nm)/\w'.cell? ⟨wr.heap.size,2,none⟩=some (.slice a3 s.e.length k3)/\w'.cell? ⟨wr.heap.size,3,none⟩=some (.slice a4 s.f.length k4)/\w'.cell? ⟨wr.heap.size,4,none⟩=some (.int .i64 (tn:Int))/\w'.cell? ⟨wr.heap.size,5,none⟩=some (.int .i64 (I:Int)):=⟨Ji.cell ((cell?_alloc_lt wc _ ⟨wr.heap.size,0,none⟩ Jc).trans Yb) Jj,Ji.cell ((cell?_alloc_lt wc _ ⟨wr.heap.size,1,none⟩ Jc).trans X_) Jj,Ji.cell ((cell?_alloc_lt wc _ ⟨wr.heap.size,2,none⟩ Jc).trans Xz) Jj,Ji.cell ((cell?_alloc_lt wc _ ⟨wr.heap.size,3,none⟩ Jc).trans Xt) Jj,Ji.cell ((cell?_alloc_lt wc _ ⟨wr.heap.size,4,none⟩ Jc).trans Xr) Jj,Ji.cell ((cell?_alloc_lt wc _ ⟨wr.heap.size,5,none⟩ Jc).trans Ya) Jj⟩))
   have Yl:Hid (∀w9,w9=w'->Gq w w9 ss (r.drop (tn+I)) v' (L++[(.iface U Z,s::r.take (tn+I))]) (λB=>S B\/S3 B)):=λw9 e9=>by
    subst e9;have Jl:Gq w wr ss (s::r.take (tn+I)++r.drop (tn+I)) (.slice Jw Jo Jp) L S:=by
     have:=Jh.o
     rw[cons_append,take_append_drop];exact this
    have Xv:Bl wc (wc.alloc (.cells #[.iface U Z] 124)):=ao _ _;exact Jl.next (Jv.trans (Xv.mono Jv.size)) (Jm.bel (λB hB=>(Xp B hB).2) Xv) (λB hB=>by have:=Xp B hB;simp only[J9];omega) Ji J_ Yi
   have Yw:=Yl.o _ rfl;have⟨HN,Zo⟩:=h2 Yw Zh;have Xl:Hid (bw (r.drop (tn+I))=true):=(by have:=Zm.o;rw[Jq,Xa]at this;exact this);go_wp2;go_roundw
   case rel=>exact⟨r.drop (tn+I),_,_,Zo,Xl,by simp;omega,λz J=>Jf.o z (by simp[J6 J]),HN⟩
   case measure=>simp[Jk];omega
theorem mQ:Dx:=by
 intro ss v w Z U Ja Jd Jc;have Jb:∀(n:Nat) (h:List St) (u:BY) (W:AT),h.length<=n->gF W->aZ W u h->bw h=true->(∀s∈h,stmtB s=true/\s.e.length<=2000/\s.f.length<=2000)->h.length<=1000->Calls prog 37 #[u] W λe w'=>∃(x:BY) (S':Ft),e=rW x/\Bk w' S' x h/\(∀B,S' B->W.heap.size<=B/\B<w'.heap.size)/\Bl W w':=by
  intro n;induction n with
  | zero=>intro h u W J I h2 h3 h4 h5;exact lw h u W I h2 h3 h4 h5 (λt' _ _ hlt=>by omega)
  | succ n ih=>intro h u W J I h2 h3 h4 h5;exact lw h u W I h2 h3 h4 h5 (λt' u' W' hlt hb hs hf hsub=>ih t' u' W' o_ (I.below I.size hb) (hs.below hb) hf (λs hs'=>h4 s (hsub s hs')) o_)
 exact Jb ss.length ss v w n_ Z U Ja Jd Jc
section
variable{w w':AT}{S:Ft}{v:BY}{L:List (BY×List St)}{l:List St}
def aG(L:List (BY×List St)):List St:=(L.map (·.2)).flatten
def kg:aG []=[]:=rfl
def flatL_cons(q:BY×List St)(L:List (BY×List St)):aG (q::L)=q.2++aG L:=by simp[aG]
def flatL_append(L M:List (BY×List St)):aG (L++M)=aG L++aG M:=by simp[aG]
structure kr (w:AT) (S:Ft) (v:BY) (L:List (BY×List St)):Prop where
 args:gy w S v L.length (λi=>(L.getD i (.nilFunc,[])).1)
 bv:∀q∈L,Bv w S q.1 q.2
def kr.keep{S':Ft}(h:kr w S v L)(hS:∀B,S B->S' B)(hk:∀B,S B->w'.heap[B]? =w.heap[B]?):kr w' S' v L:=
 ⟨h.args.keep hS hk,λq hq=>(h.bv q hq).keep hS hk⟩
def kr.bel(h:kr w S v L)(hS:∀B,S B->B<w.heap.size)(hb:Bl w w'):kr w' S v L:=h.keep (λ_ h=>h) (λB hB=>hb.block B (hS B hB))
def getD_at{i:Nat}(h:i<L.length):L.getD i (.nilFunc,[])=L[i]:=by rw[getD_eq_getElem?_getD,J4 h];rfl
def kr.parts(h:kr w S v L):gy w S v L.length (λi=>(L.getD i (.nilFunc,[])).1)/\(∀i,i<L.length->Bv w S (L.getD i (.nilFunc,[])).1 (L.getD i (.nilFunc,[])).2)/\bW (λi=>(L.getD i (.nilFunc,[])).2) L.length=aG L:=by refine⟨h.args,λi hi=>?_,?_⟩;rw[getD_at hi];exact h.bv _ (g_ hi);rw[jq L _ L.length n_,take_length];rfl
def kr.bk(h:kr w S v L):Bk w S v (aG L):=by have⟨I,h2,h3⟩:=h.parts;exact⟨_,_,_,I,h2,h3.symm⟩
theorem fF(vs:Nat->BY)(F:Nat->List St):∀A,bW F A=aG ((List.range A).map λi=>(vs i,F i))
 | 0=>rfl
 | A+1=>by simp only[bW];rw[fF vs F A,range_succ,map_append,flatL_append];simp[aG]
def gy.toL{A:Nat}{vs:Nat->BY}{F:Nat->List St}(h1:gy w S v A vs)(h2:∀i,i<A->Bv w S (vs i) (F i)):kr w S v ((List.range A).map λi=>(vs i,F i)):=by
 have Z:∀i,i<A->(((List.range A).map λi=>(vs i,F i)).getD i (.nilFunc,[]))=(vs i,F i):=λi h=>by rw[getD_at (IN h)];simp
 refine⟨?_,λq hq=>?_⟩;obtain⟨a,Jb,rfl,J,I,g3⟩:=h1;refine⟨a,Jb,i_,IN J,I,λh0=>?_⟩;have Jc:0<A:=IN h0;obtain⟨B,rfl,U,hc⟩:=g3 Jc;refine⟨B,rfl,U,λi h=>?_⟩;have Ja:i<A:=IN h;show _=some ((((List.range A).map λi=>(vs i,F i)).getD i (.nilFunc,[])).1);rw[Z i Ja];exact hc i Ja;simp only[mem_map,mem_range]at hq;obtain⟨i,h,rfl⟩:=hq;exact h2 i h
def Bk.toL{ss:List St}(h:Bk w S v ss):∃L,kr w S v L/\ss=aG L:=by obtain⟨A,vs,F,I,h2,rfl⟩:=h;exact⟨_,I.toL h2,fF vs F A⟩
def im:List St->Bool
 | []=>false
 | s::_=>decide (s.kd=6)
def wV.ret{s:St}{a b:List St}(h:wV l s a b):im l=decide (s.kd=6):=by rw[h.is];rfl
def dR(L:List (BY×List St)):Prop:=∀i,i+1<L.length->im (L.getD i (.nilFunc,[])).2=false
theorem mf:∀(L:List (BY×List St)),(∀q∈L,∃s a b,wV q.2 s a b)->ed (aG L)=L.any (λq=>im q.2)
 | [],_=>rfl
 | q::L,h=>by have⟨s,a,b,ho⟩:=h q i_;rw[flatL_cons,ho.ends,any_cons,ho.ret,mf L (λq hq=>h q (by simp[hq]))]
def kr.ones(h:kr w S v L):∀q∈L,∃s a b,wV q.2 s a b:=λq hq=>(h.bv q hq).one
def dR.one(q:BY×List St):dR [q]:=λi hi=>by simp at hi
def dR.nil:dR []:=λi hi=>by simp at hi
def dR.join{R M:List (BY×List St)}(U:∀q∈R,im q.2=false)(J:dR M):dR (R++M):=by
 intro i I;rw[getD_at o_];by_cases h:i<R.length;rw[getElem_append_left h];exact U _ (g_ h);rw[getElem_append_right o_];have Ja:i-R.length+1<M.length:=by simp at I;omega
 have:=J (i-R.length) Ja
 rwa[getD_at o_]at this
theorem Bv.ret_is(h:Bv w S v l)(I:im l=true):∃x,v=.iface 129 (.agg #[x])/\∃t y,x=.iface t y:=by
 cases h using Bv_i with
 | ret s x h1 h2 h3 h4=>exact⟨x,rfl,h2.isI⟩
 | _=>simp_all [im]
theorem Bv.ret_no(h:Bv w S v l)(I:im l=false):∃t x,v=.iface t x/\t≠129:=by
 cases h using Bv_i with
 | ret s x h1 h2 h3 h4=>simp_all [im]
 | _=>exact⟨_,_,rfl,d_⟩
def qu(w w':AT)(S:Ft)(u:BY)(ss:List St):Prop:=∃(S':Ft) (M:List (BY×List St)),kr w' (λB=>S B\/S' B) u M/\(∀B,S' B->w.heap.size<=B/\B<w'.heap.size)/\aG M=ss/\dR M
end
