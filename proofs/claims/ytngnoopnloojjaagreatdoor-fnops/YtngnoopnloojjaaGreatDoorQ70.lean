import Derived.Deep.RegionHeldLaw
import Derived.Test.YtngnoopnloojjaaGreatDoorQ48
import Derived.Deep.RegionHeld3
namespace Go.Proofs.YtngnoopnloojjaaGreatDoor
open Go.World List
open Go.Proofs.Tryz Go.RowKit
set_option linter.all false
set_option maxRecDepth 100000
set_option maxHeartbeats 0
variable[Inhabited Pick]
theorem iH(v:Value)(e:List Nd)(w:World)(Jw:eG w)(hN:a_ w v e)(Jx:oneB e=true)(hl:e.length<=2000):
    Calls prog 36 #[v,.func (Fn.func 38) #[] #[]] w λx w'=>∃u S,x=rW u/\Tv w' S u e/\(∀B,S B->w.heap.size<=B/\B<w'.heap.size)/\Below w.heap.size w w':=by
  have⟨i0,Xq,Xg,Xt,Xo⟩:=info_parts oL;obtain⟨a,Ye,rfl,Yg,Yc,hc⟩:=hN;have HC:Hid (0<e.length->∃b Jf,a=some ⟨b,Jf,none⟩/\iq w b Jf e):=hc;have Ji:Hid (oneB e=true):=Jx;have Jg:Hid (eG w):=Jw;go_in;go_wp2;go_loopw[5,12] (λst ix wr=>∃k:Nat,k<=e.length/\ix=V k/\∃T S,RJ w wr e k st T S) (λ_ ix _=>e.length-(RowKit.intOf ix).toNat)
  case atStart=>exact⟨0,y_,rfl,[],λ_=>False,i_,i_,World.ownsRow_nil _ _ _ _,λB h=>h.elim,r_⟩
  case round=>
    obtain⟨k,hk,rfl,T,S,J⟩:=hrel;have Z:Hid (RJ w wr e k u5 T S):=J;obtain⟨pa,I,rfl,Jt,Yd,X_,Yb⟩:=J.row.form;simp only[List.length_map]at Jt Z⊢;by_cases hlt:k<e.length
    · obtain⟨b,Jf,rfl,Xr⟩:=HC.out o_
      have⟨d0,d1,d2⟩:=(Xr.below J.bel) k hlt;have⟨hn,hA⟩:=rH Ji.out J.segs hlt J.flat;rw[List.length_map]at hA;have Xj:=dC hn;obtain⟨A,Jp⟩:∃A:Nat,arity e[k]=A:=⟨(arity e[k]).toNat,o_⟩;obtain⟨H,J_⟩:∃H,H+A=T.length:=⟨T.length-A,o_⟩;have Jo:Hid (arity e[k]=A):=Jp;have Jn:Hid (aD e[k]=true):=hn;have Jz:=fb hn;have Ju:Hid (∀W,Below wr.heap.size wr W->Calls prog 33 #[.agg #[V e[k].kd,V e[k].val,sV e[k].nm]] W λx w'=>x=rW (V A)/\Below W.heap.size W w'):=λW hW=>by
        have:=oK e[k] W (Jg.out.below Jg.out.size (J.bel.trans (hW.mono J.bel.size))) Jz
        rw[Jp]at this;exact this
      have Xx:T.length<=2000:=by have Y:=fF _ J.segs 0 (Int.le_refl _);have h2:=(li _ _ _ Y (Int.le_refl 0)).2;rw[J.flat]at h2;simp only[List.length_map,List.length_take]at h2;omega
      have Xi:∀W:World,(Instr.slice 90 (.slice pa T.length I) (some (V H)) none none).run prog W=.ok (.slice (if I=H then pa else pa.map (·.add (H*1))) (T.length-H) (I-H)) W:=Fa pa T.length I H o_ Jt;have Yf:∀W:World,(Instr.slice 90 (.slice pa T.length I) none (some (V H)) none).run prog W=.ok (.slice pa H I) W:=zg pa T.length I H o_ Jt;have Ya:IntKind.i64.wrap ((T.length:Int)-(A:Int))=(H:Int):=(by rw[oS];omega);have Xy:((T.length:Int)-(A:Int))=(H:Int):=o_
      have Jh:Hid (∀W,Below wr.heap.size wr W->Src W (.slice (if I=H then pa else pa.map (·.add (H*1))) (T.length-H) (I-H)) ((T.drop H).map (·.2.2))):=λW hW=>by
        have:=(J.row.tail H (by rw[List.length_map];omega)).below hW
        rw[List.length_map,<-List.map_drop]at this;exact this
      have Xf:Hid (∀u∈(T.drop H).map (·.2.2),u.oneCell'=true):=λu hu=>J.one u (by simp only[List.mem_map]at hu⊢;obtain⟨t,ht,rfl⟩:=hu;exact⟨t,List.mem_of_mem_drop ht,rfl⟩)
      have Xz:Jf+k*3=Jf+k*3:=rfl;generalize Jk:e[k]=n at d0 d1 d2 Ju Jz hA Xj Jp Jo Jn;have Xk:Hid (e[k]=n):=Jk;obtain⟨U,O,nm⟩:=n;simp only at d0 d1 d2 Ju;generalize (Value.slice (if I=H then pa else pa.map (·.add (H*1))) (T.length-H) (I-H))=sv at Xi Jh;go_wp2_with fail;have Xb:∀o,Below wr.heap.size wr (wr.alloc o):=λo=>r_.alloc n_ o;refine(Ju.out _ (Xb _)).mono ?_;rintro x w2 ⟨rfl,Js⟩;have Jj:Below wr.heap.size wr w2:=(Xb _).trans (Js.mono i_);simp only[Bl,World.size_alloc]at Js;have⟨f0,f1,f2⟩:=yO Js;have Xh:Hid (Src w2 sv ((T.drop H).map (·.2.2))):=Jh.out w2 Jj;have Jq:Hid (Below wr.heap.size wr w2):=Jj;go_wp2_with fail;refine(wk sv _ w2 (by simp;omega) Xh.out Xf).mono ?_;rintro x w3 ⟨X,rfl,Xp,Jm⟩;have Jc:Below wr.heap.size wr w3:=Jq.out.trans (Jm.mono Jq.out.size);have g0:=(Jm.cell (p:=⟨wr.heap.size,0,none⟩) (b_ f0)).trans f0;have g1:=(Jm.cell (p:=⟨wr.heap.size,1,none⟩) (b_ f1)).trans f1;have g2:=(Jm.cell (p:=⟨wr.heap.size,2,none⟩) (b_ f2)).trans f2;have Jy:Hid (eT wr.heap.size w3 X ((T.drop H).map (·.2.2))):=eT.mono Xp Jq.out.size;have Xn:Hid (Below wr.heap.size wr w3):=Jc;have Jb:wr.heap.size<w3.heap.size:=b_ g0;have Xw:Hid (Calls prog 38 #[.agg #[V U,V O,sV nm],X] w3.drew λx w'=>∃ta tb,x=rW (.iface ta tb)/\(Tv w' (qX S X) (.iface ta tb) (joinF (fsJ (T.drop H)) A++[⟨U,O,nm⟩])/\Below w3.heap.size w3 w')/\w'.cell? ⟨wr.heap.size,0,none⟩=some (V U)/\w'.cell? ⟨wr.heap.size,1,none⟩=some (V O)/\w'.cell? ⟨wr.heap.size,2,none⟩=some (sV nm)):=by have hd:Below wr.heap.size wr w3.drew:=Jc.drew;have⟨k1,k2,k4⟩:=Z.out.kids H A J_ hd (u:=X) (World.ownsRow.drew Jy);refine(pP ⟨U,O,nm⟩ Jn.out A Jo.out _ X _ w3.drew k1 (λi hi=>(k2 i hi).isI)).mono ?_;rintro x w' ⟨rfl,h2⟩;have Y:Tv w' (qX S X) (j8 ⟨U,O,nm⟩ X (vsJ (T.drop H))) (joinF (fsJ (T.drop H)) A++[⟨U,O,nm⟩]):=(ND ⟨U,O,nm⟩ Jn.out A Jo.out _ _ X _ _ k1 k2).bel k4 h2;have h3:Below w3.heap.size w3 w':=r_.drew.trans h2;have⟨ta,tb,Je⟩:=Y.isI;rw[Je]at Y;refine⟨ta,tb,by rw[Je],⟨Y,h3⟩,(h3.cell (p:=⟨wr.heap.size,0,none⟩) Jb).trans g0,(h3.cell (p:=⟨wr.heap.size,1,none⟩) Jb).trans g1,(h3.cell (p:=⟨wr.heap.size,2,none⟩) Jb).trans g2⟩
      have Xc:Hid (∀w4 u' o,(Tv w4 (qX S X) u' (joinF (fsJ (T.drop H)) A++[⟨U,O,nm⟩])/\Below w3.heap.size w3 w4)->(w4.alloc o).ownsRow w.heap.size 55 1 (.slice pa H I) ((T.take H).map (·.2.2)).length ((T.take H).map (·.2.2))/\w.heap.size<=(w4.alloc o).heap.size):=by intro w4 u' o ⟨_,h⟩;have Y:=(Z.out.below (Jc.trans (h.mono Jc.size))).below (r_.alloc n_ o);have h2:=Y.row.head H (by rw[List.length_map];omega);rw[<-List.map_take]at h2;exact⟨h2,Y.bel.size⟩
      have Xe:Hid (∀(W W':World) (o:Obj),W.cell? ⟨wr.heap.size,0,none⟩=some (V U)->W.cell? ⟨wr.heap.size,1,none⟩=some (V O)->W.cell? ⟨wr.heap.size,2,none⟩=some (sV nm)->(W.alloc o).grownBy W' (Value.slice pa H I).ownBlock->W'.cell? ⟨wr.heap.size,0,none⟩=some (V U)/\W'.cell? ⟨wr.heap.size,1,none⟩=some (V O)/\W'.cell? ⟨wr.heap.size,2,none⟩=some (sV nm)):=by
        intro W W' o h0 Y h2 hg;have Xd:some wr.heap.size≠(Value.slice pa H I).ownBlock:=λh=>by
          have:=(Z.out.row.own wr.heap.size (by cases pa <;> exact h.symm)).2
          omega
        have Jv:∀i v,W.cell? ⟨wr.heap.size,i,none⟩=some v->W'.cell? ⟨wr.heap.size,i,none⟩=some v:=λi v h=>hg.cell ((((Below.refl W.heap.size W).alloc n_ o).cell (p:=⟨wr.heap.size,i,none⟩) (b_ h)).trans h) Xd;exact⟨Jv _ _ h0,Jv _ _ Y,Jv _ _ h2⟩
      go_wp2_with fail;go_region_held_law (λW=>W.cell? ⟨wr.heap.size,0,none⟩=some (V U)/\W.cell? ⟨wr.heap.size,1,none⟩=some (V O)/\W.cell? ⟨wr.heap.size,2,none⟩=some (sV nm)) (first|go_keep|(go_split_ands;exact⟨y0,y1,y2⟩))
        (first
        | ((with_reducible refine Calls.mono Xw.out ?_);intro x w4 hx;obtain⟨ta,tb,Xv,Jl,q0,q1,q2⟩:=hx;subst Xv)
        | (refine kK (by rfl) _ _ 90 (by rfl) w.heap.size 55 i0 .nilIface underlying90 Xq Xg Xt Xo (by rfl) (.slice pa H I) ((T.take H).map (·.2.2)) (by rfl) (Xc.out _ _ _ Jl).1 (.slice (some ⟨w4.heap.size,0,none⟩) 1 1) [.iface ta tb] (by rfl) (Src.lit _ _ _) (λy hy=>by simp at hy;subst hy;rfl) (by simp;omega) (Xc.out _ _ _ Jl).2 ?_;intro v' w6 Jd Ja Jr;have⟨y0,y1,y2⟩:=Xe.out _ _ _ q0 q1 q2 Ja))
      have Xl:Hid (∃T' S',RJ w w6 e (k+1) v' T' S'):=by
        have Jk:=Xk;refine Z.out.step (w3:=w3) (w4:=w4) (w5:=w4.alloc (.cells #[.iface ta tb] 55)) (u:=X) hlt H A J_ (by rw[Jk];exact Jn) (by rw[Jk];exact Jo) Xn.out Jy.out Jl.2 (by rw[Jk];exact Jl.1) (r_.alloc n_ _) Jd ?_ ?_
        · have e1:(Value.slice pa H I).ownBlock=(Value.slice pa T.length I).ownBlock:=by cases pa <;> rfl
          rw[<-e1];exact Ja
        · have e1:(Value.slice pa H I).ownBlock=(Value.slice pa T.length I).ownBlock:=by cases pa <;> rfl
          rw[<-e1];exact Jr
      obtain⟨va,vn,vc,rfl⟩:∃va vn vc,v'=.slice va vn vc:=by have⟨va,vc,h,_⟩:=eT.form Jd;exact⟨_,_,_,h⟩
      go_wp2;go_roundw
      case rel=>exact⟨k+1,o_,by go_num,Xl⟩
      case measure=>simp[RowKit.intOf];omega
    · obtain rfl:k=e.length:=by omega
      have⟨u,g,⟨cp,hv⟩,Xa,Xs⟩:=J.fin Ji;simp only[Value.slice.injEq]at hv;obtain⟨rfl,Xm,rfl⟩:=hv;have Xu:T.length=1:=(by simpa using Xm);rw[Xu];go_wp2;go_ret;exact⟨_,S,rfl,Xs,λB hB=>⟨(Z.out.sep B hB).1,(Z.out.sep B hB).2.1⟩,Z.out.bel⟩
def dV(w0:AT)(v:BY)(g:Int->Int)(L:Nat):Prop:=∀(w:AT) (d:Int),Bl w0 w->0<=d->d+7*L<=100000->Calls prog 169 #[v,V d] w λe w'=>e=rW (V (g d))/\Bl w w'
def ni(w0:AT)(u:IN)(H:BY)(I:u≠171)(h2:u≠98)(h3:u≠104)(h4:u≠107)(h5:u≠109)(h6:u≠173)(L:Nat):dV w0 (.iface u H) (λd=>d+1) L:=by intro w d J O X;have Z:=λW=>bE W u H I;have n2:=λW=>bu W u H h2;have n3:=λW=>bj W u H h3;have n4:=λW=>bK W u H h4;have Y:=λW=>cZ W u H h5;have U:=λW=>d8 W u H h6;go_in;go_wp2;go_ret;exact⟨rfl,r_⟩
def zC(w0:AT)(s:IF)(t:IN)(x:BY)(g:Int->Int)(L:Nat)(h:dV w0 (.iface t x) g L):dV w0 (.iface 171 (.agg #[sV s,.iface t x])) g (L+1):=by intro w d H O Y;have I:=ah λW (hW:Bl w W)=>h W d (H.trans (hW.mono H.size)) O o_;generalize g d=z at I⊢;have X:=lS;have J:∀o,Bl w (w.alloc o):=λo=>r_.alloc n_ o;go_in;go_wp2_with fail;refine(I.o _ (J _)).mono ?_;rintro e w1 ⟨rfl,Ja⟩;have U:=(J _).trans (Ja.mono i_);go_wp2;go_ret;exact⟨rfl,U⟩
def I0(w0:AT)(op:Int)(t:IN)(x:BY)(g:Int->Int)(L:Nat)(h:dV w0 (.iface t x) g L):dV w0 (.iface 98 (.agg #[V op,.iface t x])) g (L+1):=by intro w d H O Y;have I:=ah λW (hW:Bl w W)=>h W d (H.trans (hW.mono H.size)) O o_;generalize g d=z at I⊢;have X:=λW v=>bE W 98 v d_;have Z:=cA;have J:∀o,Bl w (w.alloc o):=λo=>r_.alloc n_ o;go_in;go_wp2_with fail;refine(I.o _ (J _)).mono ?_;rintro e w1 ⟨rfl,Ja⟩;have U:=(J _).trans (Ja.mono i_);go_wp2;go_ret;exact⟨rfl,U⟩
theorem FQ(w0:World)(op:Int)(t u:TypeId)(x y:Value)(g h:Int->Int)(L M:Nat)(hx:dV w0 (.iface t x) g L)(hy:dV w0 (.iface u y) h M):dV w0 (.iface 104 (.agg #[V op,.iface t x,.iface u y])) (λd=>max (g d) (h (d+1))) (L+M+1):=by
 intro w d U hd hl;have y1:=λW v=>bE W 104 v d_;have y2:=λW v=>bu W 104 v d_;have y3:=bQ;have Z:∀o,Bl w (w.alloc o):=λo=>r_.alloc n_ o;have⟨W1,Jb⟩:=q_ (w.alloc (.cells #[V op,.iface t x,.iface u y] 104));have Jc:Bl w W1:=by rw[Jb];exact Z _
 have Y:=ah λW (hW:Bl W1 W)=>hx W d (U.trans ((Jc.trans (hW.mono Jc.size)).mono U.size)) hd o_;have X:=ah λW (hW:Bl W1 W)=>hy W (d+1) (U.trans ((Jc.trans (hW.mono Jc.size)).mono U.size)) o_ o_;have J:W1.cell? ⟨w.heap.size,1,none⟩=some (.iface t x):=by rw[Jb];simp
 have O:W1.cell? ⟨w.heap.size,2,none⟩=some (.iface u y):=by rw[Jb];simp
 have Ja:w.heap.size<W1.heap.size:=by rw[Jb];simp
 have⟨Jk,Ji⟩:=h2 Jb Jc;have Jh:Bl W1 W1.drew:=r_.drew;have Jd:=ah Jh;have Jl:IntKind.i64.wrap (d+1)=d+1:=by simp[IntKind.wrap,IntKind.bits,IntKind.signed];omega
 show Calls prog 169 _ w λe w'=>e=rW (V (max (g d) (h (d+1))))/\Bl w w';generalize g d=p at Y⊢;generalize h (d+1)=q at X⊢;have⟨mx,Jg⟩:=q_ (max p q);rw[<-Jg];have Jj:Hid ((if p<q then q else p)=mx):=by show _=_;rw[Jg,Int.max_def];split <;> split <;> omega
 clear hx hy Jb Jc Jh Z;go_in;go_wp2_with fail;rw[<-Jk.out];go_region_held3 (λW=>W.cell? ⟨w.heap.size,1,none⟩=some (.iface t x)/\W.cell? ⟨w.heap.size,2,none⟩=some (.iface u y)) (go_simp)
  (first
  | ((with_reducible refine Calls.mono (Y.out _ Jd.out) ?_);rintro e w2 ⟨rfl,Je⟩;have H:Bl W1 w2:=Jd.out.trans Je;have e1:w2.cell? ⟨w.heap.size,1,none⟩=some (.iface t x):=(H.cell (p:=⟨w.heap.size,1,none⟩) Ja).trans J;have e2:w2.cell? ⟨w.heap.size,2,none⟩=some (.iface u y):=(H.cell (p:=⟨w.heap.size,2,none⟩) Ja).trans O)
  | ((with_reducible refine Calls.mono (X.out _ Jd.out) ?_);rintro e w2 ⟨rfl,Je⟩;have H:Bl W1 w2:=Jd.out.trans Je;have e1:w2.cell? ⟨w.heap.size,1,none⟩=some (.iface t x):=(H.cell (p:=⟨w.heap.size,1,none⟩) Ja).trans J;have e2:w2.cell? ⟨w.heap.size,2,none⟩=some (.iface u y):=(H.cell (p:=⟨w.heap.size,2,none⟩) Ja).trans O)
  | ((with_reducible refine Calls.mono (Y.out _ H) ?_);rintro e w3 ⟨rfl,Jf⟩;have I:Bl W1 w3:=H.trans (Jf.mono H.size);have e3:w3.cell? ⟨w.heap.size,1,none⟩=some (.iface t x):=(I.cell (p:=⟨w.heap.size,1,none⟩) Ja).trans J;have e4:w3.cell? ⟨w.heap.size,2,none⟩=some (.iface u y):=(I.cell (p:=⟨w.heap.size,2,none⟩) Ja).trans O)
  | ((with_reducible refine Calls.mono (X.out _ H) ?_);rintro e w3 ⟨rfl,Jf⟩;have I:Bl W1 w3:=H.trans (Jf.mono H.size);have e3:w3.cell? ⟨w.heap.size,1,none⟩=some (.iface t x):=(I.cell (p:=⟨w.heap.size,1,none⟩) Ja).trans J;have e4:w3.cell? ⟨w.heap.size,2,none⟩=some (.iface u y):=(I.cell (p:=⟨w.heap.size,2,none⟩) Ja).trans O))
 rw[Jj.out];go_wp2;go_ret;exact⟨rfl,Ji.out.trans (I.mono Ji.out.size)⟩
theorem FR(w0:World)(t u:TypeId)(x y:Value)(g h:Int->Int)(L M:Nat)(hx:dV w0 (.iface t x) g L)(hy:dV w0 (.iface u y) h M):dV w0 (.iface 107 (.agg #[.iface t x,.iface u y])) (λd=>max (g d) (h d)) (L+M+1):=by
 intro w d U Z hl;have y1:=λW v=>bE W 107 v d_;have y2:=λW v=>bu W 107 v d_;have y3:=λW v=>bj W 107 v d_;have y4:=cl;have hA:∀o,Bl w (w.alloc o):=λo=>r_.alloc n_ o;have⟨W1,Jb⟩:=q_ (w.alloc (.cells #[.iface t x,.iface u y] 107));have Jc:Bl w W1:=by rw[Jb];exact hA _
 have Y:=ah λW (hW:Bl W1 W)=>hx W d (U.trans ((Jc.trans (hW.mono Jc.size)).mono U.size)) Z o_;have X:=ah λW (hW:Bl W1 W)=>hy W d (U.trans ((Jc.trans (hW.mono Jc.size)).mono U.size)) Z o_;have J:W1.cell? ⟨w.heap.size,0,none⟩=some (.iface t x):=by rw[Jb];simp
 have O:W1.cell? ⟨w.heap.size,1,none⟩=some (.iface u y):=by rw[Jb];simp
 have Ja:w.heap.size<W1.heap.size:=by rw[Jb];simp
 have⟨Jk,Ji⟩:=h2 Jb Jc;have Jh:Bl W1 W1.drew:=r_.drew;have Jd:=ah Jh;have Jl:IntKind.i64.wrap (d+1)=d+1:=by simp[IntKind.wrap,IntKind.bits,IntKind.signed];omega
 show Calls prog 169 _ w λe w'=>e=rW (V (max (g d) (h d)))/\Bl w w';generalize g d=p at Y⊢;generalize h d=q at X⊢;have⟨mx,Jg⟩:=q_ (max p q);rw[<-Jg];have Jj:Hid ((if p<q then q else p)=mx):=by show _=_;rw[Jg,Int.max_def];split <;> split <;> omega
 clear hx hy Jb Jc Jh hA;go_in;go_wp2_with fail;rw[<-Jk.out];go_region_held3 (λW=>W.cell? ⟨w.heap.size,0,none⟩=some (.iface t x)/\W.cell? ⟨w.heap.size,1,none⟩=some (.iface u y)) (go_simp)
  (first
  | ((with_reducible refine Calls.mono (Y.out _ Jd.out) ?_);rintro e w2 ⟨rfl,Je⟩;have H:Bl W1 w2:=Jd.out.trans Je;have e1:w2.cell? ⟨w.heap.size,0,none⟩=some (.iface t x):=(H.cell (p:=⟨w.heap.size,0,none⟩) Ja).trans J;have e2:w2.cell? ⟨w.heap.size,1,none⟩=some (.iface u y):=(H.cell (p:=⟨w.heap.size,1,none⟩) Ja).trans O)
  | ((with_reducible refine Calls.mono (X.out _ Jd.out) ?_);rintro e w2 ⟨rfl,Je⟩;have H:Bl W1 w2:=Jd.out.trans Je;have e1:w2.cell? ⟨w.heap.size,0,none⟩=some (.iface t x):=(H.cell (p:=⟨w.heap.size,0,none⟩) Ja).trans J;have e2:w2.cell? ⟨w.heap.size,1,none⟩=some (.iface u y):=(H.cell (p:=⟨w.heap.size,1,none⟩) Ja).trans O)
  | ((with_reducible refine Calls.mono (Y.out _ H) ?_);rintro e w3 ⟨rfl,Jf⟩;have I:Bl W1 w3:=H.trans (Jf.mono H.size);have e3:w3.cell? ⟨w.heap.size,0,none⟩=some (.iface t x):=(I.cell (p:=⟨w.heap.size,0,none⟩) Ja).trans J;have e4:w3.cell? ⟨w.heap.size,1,none⟩=some (.iface u y):=(I.cell (p:=⟨w.heap.size,1,none⟩) Ja).trans O)
  | ((with_reducible refine Calls.mono (X.out _ H) ?_);rintro e w3 ⟨rfl,Jf⟩;have I:Bl W1 w3:=H.trans (Jf.mono H.size);have e3:w3.cell? ⟨w.heap.size,0,none⟩=some (.iface t x):=(I.cell (p:=⟨w.heap.size,0,none⟩) Ja).trans J;have e4:w3.cell? ⟨w.heap.size,1,none⟩=some (.iface u y):=(I.cell (p:=⟨w.heap.size,1,none⟩) Ja).trans O))
 rw[Jj.out];go_wp2;go_ret;exact⟨rfl,Ji.out.trans (I.mono Ji.out.size)⟩
theorem I1(w0:World)(t u:TypeId)(x y:Value)(g h:Int->Int)(L M:Nat)(hx:dV w0 (.iface t x) g L)(hy:dV w0 (.iface u y) h M):dV w0 (.iface 109 (.agg #[.iface t x,.iface u y])) (λd=>max (g d) (h d)) (L+M+1):=by
 intro w d U Z hl;have y1:=λW v=>bE W 109 v d_;have y2:=λW v=>bu W 109 v d_;have y3:=λW v=>bj W 109 v d_;have y4:=λW v=>bK W 109 v d_;have y5:=cT;have hA:∀o,Bl w (w.alloc o):=λo=>r_.alloc n_ o;have⟨W1,Jb⟩:=q_ (w.alloc (.cells #[.iface t x,.iface u y] 109));have Jc:Bl w W1:=by rw[Jb];exact hA _
 have Y:=ah λW (hW:Bl W1 W)=>hx W d (U.trans ((Jc.trans (hW.mono Jc.size)).mono U.size)) Z o_;have X:=ah λW (hW:Bl W1 W)=>hy W d (U.trans ((Jc.trans (hW.mono Jc.size)).mono U.size)) Z o_;have J:W1.cell? ⟨w.heap.size,0,none⟩=some (.iface t x):=by rw[Jb];simp
 have O:W1.cell? ⟨w.heap.size,1,none⟩=some (.iface u y):=by rw[Jb];simp
 have Ja:w.heap.size<W1.heap.size:=by rw[Jb];simp
 have⟨Jk,Ji⟩:=h2 Jb Jc;have Jh:Bl W1 W1.drew:=r_.drew;have Jd:=ah Jh;have Jl:IntKind.i64.wrap (d+1)=d+1:=by simp[IntKind.wrap,IntKind.bits,IntKind.signed];omega
 show Calls prog 169 _ w λe w'=>e=rW (V (max (g d) (h d)))/\Bl w w';generalize g d=p at Y⊢;generalize h d=q at X⊢;have⟨mx,Jg⟩:=q_ (max p q);rw[<-Jg];have Jj:Hid ((if p<q then q else p)=mx):=by show _=_;rw[Jg,Int.max_def];split <;> split <;> omega
 clear hx hy Jb Jc Jh hA;go_in;go_wp2_with fail;rw[<-Jk.out];go_region_held3 (λW=>W.cell? ⟨w.heap.size,0,none⟩=some (.iface t x)/\W.cell? ⟨w.heap.size,1,none⟩=some (.iface u y)) (go_simp)
  (first
  | ((with_reducible refine Calls.mono (Y.out _ Jd.out) ?_);rintro e w2 ⟨rfl,Je⟩;have H:Bl W1 w2:=Jd.out.trans Je;have e1:w2.cell? ⟨w.heap.size,0,none⟩=some (.iface t x):=(H.cell (p:=⟨w.heap.size,0,none⟩) Ja).trans J;have e2:w2.cell? ⟨w.heap.size,1,none⟩=some (.iface u y):=(H.cell (p:=⟨w.heap.size,1,none⟩) Ja).trans O)
  | ((with_reducible refine Calls.mono (X.out _ Jd.out) ?_);rintro e w2 ⟨rfl,Je⟩;have H:Bl W1 w2:=Jd.out.trans Je;have e1:w2.cell? ⟨w.heap.size,0,none⟩=some (.iface t x):=(H.cell (p:=⟨w.heap.size,0,none⟩) Ja).trans J;have e2:w2.cell? ⟨w.heap.size,1,none⟩=some (.iface u y):=(H.cell (p:=⟨w.heap.size,1,none⟩) Ja).trans O)
  | ((with_reducible refine Calls.mono (Y.out _ H) ?_);rintro e w3 ⟨rfl,Jf⟩;have I:Bl W1 w3:=H.trans (Jf.mono H.size);have e3:w3.cell? ⟨w.heap.size,0,none⟩=some (.iface t x):=(I.cell (p:=⟨w.heap.size,0,none⟩) Ja).trans J;have e4:w3.cell? ⟨w.heap.size,1,none⟩=some (.iface u y):=(I.cell (p:=⟨w.heap.size,1,none⟩) Ja).trans O)
  | ((with_reducible refine Calls.mono (X.out _ H) ?_);rintro e w3 ⟨rfl,Jf⟩;have I:Bl W1 w3:=H.trans (Jf.mono H.size);have e3:w3.cell? ⟨w.heap.size,0,none⟩=some (.iface t x):=(I.cell (p:=⟨w.heap.size,0,none⟩) Ja).trans J;have e4:w3.cell? ⟨w.heap.size,1,none⟩=some (.iface u y):=(I.cell (p:=⟨w.heap.size,1,none⟩) Ja).trans O))
 rw[Jj.out];go_wp2;go_ret;exact⟨rfl,Ji.out.trans (I.mono Ji.out.size)⟩
def N1(w:AT)(S:DO)(L:List St)(e:Ending)(w':AT):Prop:=∃(u:BY) (S':DO),e=rW u/\Bv w' (λB=>S B\/S' B) u L/\(∀B,S' B->w.heap.size<=B/\B<w'.heap.size)/\Bl w w'
theorem wN(s:St)(K:Value->Value)(L:List St)(ve vf I O:Value)(S:Nat->Prop)(w:World)(U:eG w)(hN:a_ w ve s.e)(hF:∃a n c,vf=.slice a n c)(ho:oneB s.e=true)(hl:s.e.length<=2000)
  (H:(s.kd=1/\K=λx=>.iface 321 (.agg #[sV s.nm,x]))\/(s.kd=2/\K=λx=>.iface 322 (.agg #[sV s.nm,x]))\/(s.kd=4/\(K=λx=>.iface 317 (.agg #[x,I,O]))/\(∃a n c,I=.slice a n c)/\(∃a n c,O=.slice a n c))\/(s.kd=5/\(K=λx=>.iface 319 (.agg #[x,I]))/\(∃a n c,I=.slice a n c)/\True)\/(s.kd=6/\K=λx=>.iface 292 (.agg #[x]))\/(s.kd=7/\K=λx=>.iface 325 (.agg #[x]))\/(s.kd=8/\K=λx=>.iface 326 (.agg #[x])))
  (Jh:∀W (S':Nat->Prop) x,Below w.heap.size w W->Tv W S' x s.e->Bv W (λB=>S B\/S' B) (K x) L):
  Calls prog 149 #[.agg #[V s.kd,sV s.nm,ve,vf,V s.th,V s.el],I,O] w (N1 w S L):=by
 have X:=ah λW (hW:Bl w W)=>iH _ s.e W (U.below U.size hW) (hN.below hW) ho hl;obtain⟨af,nf,cf,rfl⟩:=hF;obtain⟨ae,ce,rfl,-⟩:=hN;have⟨W0,Ja⟩:=q_ (w.alloc (.cells #[V s.kd,sV s.nm,.slice ae s.e.length ce,.slice af nf cf,V s.th,V s.el] 254));have Jb:Bl w W0:=by rw[Ja];exact r_.alloc n_ _
 have Je:w.heap.size<W0.heap.size:=by rw[Ja];simp
 have Z:Hid (∀W,Bl W0 W->W.cell? ⟨w.heap.size,0,none⟩=some (V s.kd)/\W.cell? ⟨w.heap.size,1,none⟩=some (sV s.nm)):=λW hW=>by rw[hW.cell (p:=⟨w.heap.size,0,none⟩) Je,hW.cell (p:=⟨w.heap.size,1,none⟩) Je,Ja];exact⟨i_,i_⟩
 have Jf:=ah Ja;clear Ja U;rcases H with⟨H,rfl⟩|⟨H,rfl⟩|⟨H,rfl,⟨a1,n1,c1,rfl⟩,a2,n2,c2,rfl⟩|⟨H,rfl,⟨a1,n1,c1,rfl⟩,-⟩|⟨H,rfl⟩|⟨H,rfl⟩|⟨H,rfl⟩;all_goals
  have Y:=ah Jh;have HK:=ah H;clear Jh H;go_in;go_wp2_with fail;rw[<-Jf.out];refine(X.out _ Jb).mono ?_;rintro e w1 ⟨u,S',rfl,J,Jc,Jd⟩;have Jg:=Jb.trans (Jd.mono Jb.size);have HU:=ah (Y.out w1 S' u Jg J);have⟨x0,x1⟩:=Z.out w1 Jd;rw[HK.out]at x0;obtain⟨t,y,rfl⟩:=J.isI;have Ji:Hid (∀B,S' B->w.heap.size<=B/\B<w1.heap.size):=λB hB=>⟨t_ Jb.size (Jc B hB).1,(Jc B hB).2⟩;clear Z Y X J Jc Jd Jf;go_wp2;go_ret;exact⟨_,S',rfl,HU,Ji,Jg⟩
def PP{w W:AT}{S S':DO}(hS:∀B,S B->B<w.heap.size)(hb:Bl w W):(∀B,S B->S B\/S' B)/\∀B,S B->W.heap[B]? =w.heap[B]? := ⟨λ_ h=>.inl h,λB h=>hb.block B (hS B h)⟩
def N2(s:St)(Z:s.kd=4)(X vf J I:BY)(S:DO)(w:AT)(hT:eG w)(hN:a_ w X s.e)(hF:∃a n c,vf=.slice a n c)(ho:oneB s.e=true)(hl:s.e.length<=2000)(hS:∀B,S B->B<w.heap.size)(A B:Nat)(O U:Nat->BY)(F H:Nat->List St)(Ja:gx w S J A O)(Jd:∀i,i<A->Bv w S (O i) (F i))(Jb:gx w S I B U)(Jc:∀i,i<B->Bv w S (U i) (H i))(Y:s.th=(aF F A).length/\s.el=(aF H B).length):
  Calls prog 149 #[.agg #[V s.kd,sV s.nm,X,vf,V s.th,V s.el],J,I] w (N1 w S (s::aF F A++aF H B)):=by
 refine wN s _ _ X vf J I S w hT hN hF ho hl (.inr (.inr (.inl ⟨Z,rfl,?_,?_⟩))) λW S' x hb ht=>?_
 obtain⟨a,c,h,-⟩:=Ja;exact⟨_,_,_,h⟩;obtain⟨a,c,h,-⟩:=Jb;exact⟨_,_,_,h⟩
 have⟨p,q⟩:=PP (S':=S') hS hb;exact .ifs s x J I A B O U F H Z (ht.keep (λB h=>.inr h) (λB _=>rfl)) (Ja.keep p q) (λi hi=>(Jd i hi).keep p q) (Jb.keep p q) (λi hi=>(Jc i hi).keep p q) Y.1 Y.2
def N3(s:St)(U:s.kd=5)(J vf H X:BY)(S:DO)(w:AT)(Y:eG w)(hN:a_ w J s.e)(Z:∃a n c,vf=.slice a n c)(ho:oneB s.e=true)(hl:s.e.length<=2000)(hS:∀B,S B->B<w.heap.size)(A:Nat)(I:Nat->BY)(F:Nat->List St)(Ja:gx w S H A I)(Jb:∀i,i<A->Bv w S (I i) (F i))(O:s.th=(aF F A).length/\s.el=0):
  Calls prog 149 #[.agg #[V s.kd,sV s.nm,J,vf,V s.th,V s.el],H,X] w (N1 w S (s::aF F A)):=by
 refine wN s _ _ J vf H X S w Y hN Z ho hl (.inr (.inr (.inr (.inl ⟨U,rfl,?_,trivial⟩)))) λW S' x hb ht=>?_
 obtain⟨a,c,h,-⟩:=Ja;exact⟨_,_,_,h⟩
 have⟨p,q⟩:=PP (S':=S') hS hb;exact .whil s x H A I F U (ht.keep (λB h=>.inr h) (λB _=>rfl)) (Ja.keep p q) (λi hi=>(Jb i hi).keep p q) O.1 O.2
def FT(s:St)(H:s.kd=1\/s.kd=2)(I vf U O:BY)(S:DO)(w:AT)(Z:eG w)(hN:a_ w I s.e)(hF:∃a n c,vf=.slice a n c)(X:oneB s.e=true)(Y:s.e.length<=2000)(hS:∀B,S B->B<w.heap.size)(J:s.th=0/\s.el=0):
  Calls prog 149 #[.agg #[V s.kd,sV s.nm,I,vf,V s.th,V s.el],U,O] w (N1 w S [s]):=by
 rcases H with H|H;exact wN s _ _ I vf U O S w Z hN hF X Y (.inl ⟨H,rfl⟩) λW S' x hb ht=>.decl s x H (ht.keep (λB h=>.inr h) (λB _=>rfl)) J.1 J.2
 exact wN s _ _ I vf U O S w Z hN hF X Y (.inr (.inl ⟨H,rfl⟩)) λW S' x hb ht=>.set s x H (ht.keep (λB h=>.inr h) (λB _=>rfl)) J.1 J.2
def ur(s:St)(H:s.kd=6\/s.kd=7\/s.kd=8)(J vf U O:BY)(S:DO)(w:AT)(Z:eG w)(hN:a_ w J s.e)(hF:∃a n c,vf=.slice a n c)(X:oneB s.e=true)(Y:s.e.length<=2000)(hS:∀B,S B->B<w.heap.size)(I:s.th=0/\s.el=0):
  Calls prog 149 #[.agg #[V s.kd,sV s.nm,J,vf,V s.th,V s.el],U,O] w (N1 w S [s]):=by
 have g:=λK q=>wN s K [s] J vf U O S w Z hN hF X Y (.inr (.inr (.inr (.inr q))));rcases H with H|H|H
 exact g _ (.inl ⟨H,rfl⟩) λW S' x hb ht=>.ret s x H (ht.keep (λB h=>.inr h) (λB _=>rfl)) I.1 I.2
 exact g _ (.inr (.inl ⟨H,rfl⟩)) λW S' x hb ht=>.out s x H (ht.keep (λB h=>.inr h) (λB _=>rfl)) I.1 I.2
 exact g _ (.inr (.inr ⟨H,rfl⟩)) λW S' x hb ht=>.call s x H (ht.keep (λB h=>.inr h) (λB _=>rfl)) I.1 I.2
theorem N4(s:St)(hk:s.kd=3)(ve vf va vb:Value)(S:Nat->Prop)(w:World)(X:eG w)(hN:a_ w ve s.e)(Jo:a_ w vf s.f)(ho:oneB s.e=true)(hl:s.e.length<=2000)(Jt:oneB s.f=true)(Js:s.f.length<=2000)(h0:s.th=0/\s.el=0):
  Calls prog 149 #[.agg #[V s.kd,sV s.nm,ve,vf,V s.th,V s.el],va,vb] w λe w'=>∃(u:Value) (S':Nat->Prop),e=rW u/\Bv w' (λB=>S B\/S' B) u [s]/\(∀B,S' B->w.heap.size<=B/\B<w'.heap.size)/\Below w.heap.size w w':=by
 have HR:=ah λW (hW:Bl w W)=>iH _ s.e W (X.below X.size hW) (hN.below hW) ho hl;have Jl:=ah λW (hW:Bl w W)=>iH _ s.f W (X.below X.size hW) (Jo.below hW) Jt Js;obtain⟨J,I,rfl,-⟩:=Jo;obtain⟨ae,ce,rfl,-⟩:=hN;have⟨W0,Jb⟩:=q_ (w.alloc (.cells #[V s.kd,sV s.nm,.slice ae s.e.length ce,.slice J s.f.length I,V s.th,V s.el] 254));have Je:Bl w W0:=by rw[Jb];exact r_.alloc n_ _
 have Jg:w.heap.size<W0.heap.size:=by rw[Jb];simp
 have HX:Hid (∀W,Bl W0 W->W.cell? ⟨w.heap.size,0,none⟩=some (V s.kd)/\W.cell? ⟨w.heap.size,1,none⟩=some (sV s.nm)/\W.cell? ⟨w.heap.size,3,none⟩=some (.slice J s.f.length I)):=λW hW=>by rw[hW.cell (p:=⟨w.heap.size,0,none⟩) Jg,hW.cell (p:=⟨w.heap.size,1,none⟩) Jg,hW.cell (p:=⟨w.heap.size,3,none⟩) Jg,Jb];exact⟨i_,i_,i_⟩
 have Jk:=ah Jb;have Jj:Hid (∀(W W':World) (S1 H:Nat->Prop) x y,Bl W W'->Tv W S1 x s.e->(∀B,S1 B->B<W.heap.size)->Tv W' H y s.f->Bv W' (λB=>S B\/(S1 B\/H B)) (.iface 324 (.agg #[sV s.nm,x,y])) [s]):=λW W' S1 H x y hb Y Jd h2=>.store s x y hk (Y.keep (λB h=>.inr (.inl h)) (λB hB=>hb.block B (Jd B hB))) (h2.keep (λB h=>.inr (.inr h)) (λB _=>rfl)) h0.1 h0.2;have HK:=ah hk;clear Jb X hk h0;go_in;go_wp2_with fail;rw[<-Jk.out];refine(HR.out _ Je).mono ?_;rintro e w1 ⟨u,S1,rfl,Z,Jd,Jm⟩;have⟨x0,x1,x3⟩:=HX.out w1 Jm;rw[HK.out]at x0;obtain⟨t,y,rfl⟩:=Z.isI;have Jc:=Je.trans (Jm.mono Je.size);have Jr:Bl w w1.drew:=Jc.drew;have Jn:w.heap.size<w1.drew.heap.size:=b_ x0;have d1:w1.drew.cell? ⟨w.heap.size,1,none⟩=some (sV s.nm):=x1;have d3:w1.drew.cell? ⟨w.heap.size,3,none⟩=some (.slice J s.f.length I):=x3;have Jf:Hid (Tv w1 S1 (.iface t y) s.e/\(∀B,S1 B->W0.heap.size<=B/\B<w1.heap.size)):=⟨Z,Jd⟩;have HP:Hid (Calls prog 36 #[.slice J s.f.length I,.func (Fn.func 38) #[] #[]] w1.drew λx w'=>∃(O:TypeId) (U:Value) (H:Nat->Prop),x=rW (.iface O U)/\(Tv w' H (.iface O U) s.f/\(∀B,H B->w1.heap.size<=B/\B<w'.heap.size))/\Bl w1.drew w'):=(Jl.out _ Jr).mono (by rintro x w' ⟨u,H,rfl,Y,h2,h3⟩;obtain⟨O,U,rfl⟩:=Y.isI;exact⟨O,U,H,rfl,⟨Y,h2⟩,h3⟩)
 clear HX HR Jl Z Jd Jk;go_wp2_with fail;go_region_held3 (λW=>W.cell? ⟨w.heap.size,1,none⟩=some (sV s.nm)/\W.cell? ⟨w.heap.size,3,none⟩=some (.slice J s.f.length I)) (go_simp)
  (first
  | ((with_reducible refine Calls.mono HP.out ?_);rintro e w3 ⟨O,U,H,rfl,Jh,Ji⟩;have q1:w3.cell? ⟨w.heap.size,1,none⟩=some (.string s.nm):=(Ji.cell (p:=⟨w.heap.size,1,none⟩) Jn).trans d1;have q3:w3.cell? ⟨w.heap.size,3,none⟩=some (.slice J s.f.length I):=(Ji.cell (p:=⟨w.heap.size,3,none⟩) Jn).trans d3))
 have Ja:Bl w1 w3:=(r_.drew).trans Ji;have HU:=ah (Jj.out w1 w3 S1 H _ _ Ja Jf.out.1 (λB hB=>(Jf.out.2 B hB).2) Jh.1);have Jq:Hid (∀B,(S1 B\/H B)->w.heap.size<=B/\B<w3.heap.size):=λB hB=>by
  have Ju:=Ja.size;rcases hB with hB|hB
  have:=Jf.out.2 B hB;have:=Je.size;omega
  have:=Jh.2 B hB;have:=Jc.size;omega
 have Jp:=Jc.trans (Ja.mono Jc.size);clear Jj Jf Jh HP;go_wp2;go_ret;exact⟨_,_,rfl,HU,Jq,Jp⟩
def CR(w0:AT)(S:DO)(s:IF)(Z:BY)(A:Nat)(J:Nat->BY)(G:Nat->Int->Int)(L:Nat)(Jp:A<=6)(ha:gx w0 S Z A J)(hI:∀i,i<A->∃t x,J i=.iface t x)(hS:∀B,S B->B<w0.heap.size)(hv:∀i,i<A->dV w0 (J i) (G i) L)(hb:∀i,i<A->xW L (G i)):
  dV w0 (.iface 173 (.agg #[sV s,Z])) (fO G A) (L+1):=by
 intro w d X hd hl;obtain⟨a,Jl,rfl,Jm,Jo,hc⟩:=ha;have⟨HC,HS,HI,HV⟩:=h4 hc hS hI hv;have Jj:=ah λi (hi:i<=A)=>pf i d o_ (λk O=>hb k o_);have y1:=λW v=>bE W 173 v d_;have y2:=λW v=>bu W 173 v d_;have y3:=λW v=>bj W 173 v d_;have y4:=λW v=>bK W 173 v d_;have y5:=λW v=>cZ W 173 v d_;have y6:=nN;have hA:∀o,Bl w (w.alloc o):=λo=>r_.alloc n_ o;go_in;go_wp2;go_loopw[5,74] (λm i wr=>∃(k:Nat),k<=A/\i=V k/\m=V (fO G k d)/\Bl w wr) (λ_ i _=>A-(RowKit.intOf i).toNat)
 case atStart=>exact⟨0,y_,rfl,rfl,hA _⟩
 case round=>
  obtain⟨k,O,rfl,rfl,H⟩:=hrel;have⟨Jf,Je⟩:=Jj.o k O;by_cases hlt:k<A
  ·obtain⟨B,rfl,Ji,Jg⟩:=HC.o o_;have Jd:Bl w0 wr:=X.trans (H.mono X.size);have⟨tk,xk,Ja⟩:=HI.o k hlt;have d0:=(Jd.cell (p:=⟨B,k,none⟩) (HS.o B Ji)).trans (Jg k hlt);rw[Ja]at d0;have Y:Hid (Calls prog 169 #[.iface tk xk,V (d+k)] wr λe w'=>e=rW (V (G k (d+k)))/\Bl wr w'):=by
    have:=HV.o k hlt wr (d+k) Jd o_ o_
    rw[Ja]at this;exact this
   have I:Hid (fO G (k+1) d=max (fO G k d) (G k (d+k))):=rfl;generalize fO G k d=p at Jf Je I;generalize G k (d+k)=q at Y I;have Jb:Hid ((if p<q then q else p)=fO G (k+1) d):=by show _=_;rw[I.o,Int.max_def];split <;> split <;> omega
   have⟨mx,Jc⟩:=q_ (fO G (k+1) d);rw[<-Jc]at Jb;have HQ:=ah Jc;have Jn:IntKind.i64.wrap (d+(k:Int))=d+(k:Int):=(by simp[IntKind.wrap,IntKind.bits,IntKind.signed];omega);go_wp2_with fail;refine Y.o.mono ?_;rintro e w2 ⟨rfl,Jk⟩;have Jh:=H.trans (Jk.mono H.size);go_wp2;rw[Jb.o,HQ.o];refine⟨⟨k+1,o_,i_,rfl,Jh⟩,?_⟩;simp only[RowKit.intOf];omega
  obtain rfl:k=A:=(by omega);have⟨p,U⟩:=q_ (fO G k d);rw[<-U]at Jf Je⊢;have HP:=ah U;go_wp2;go_ret;exact⟨congrArg (λv=>Ending.returned (V v)) HP,H⟩
def nj{F:Nat->List St}{A:Nat}(h:(0:Int)=(aF F A).length):aF F A=[]:=K1 o_
def FU(s:St)(hb:bB s=true)(hl:s.e.length<=2000)(Jh:s.f.length<=2000)(Y vf X U:BY)(S:DO)(w:AT)(hT:eG w)(hN:a_ w Y s.e)(Je:a_ w vf s.f)(hS:∀B,S B->B<w.heap.size)(A B:Nat)(vs us:Nat->BY)(F H:Nat->List St)(Jc:gx w S X A vs)(Jd:∀i,i<A->Bv w S (vs i) (F i))(Ji:gx w S U B us)(Jg:∀i,i<B->Bv w S (us i) (H i))(h0:s.th=(aF F A).length/\s.el=(aF H B).length):
  Calls prog 149 #[.agg #[V s.kd,sV s.nm,Y,vf,V s.th,V s.el],X,U] w λe w'=>∃(u:BY) (S':DO),e=rW u/\Bv w' (λB=>S B\/S' B) u (s::aF F A++aF H B)/\(∀B,S' B->w.heap.size<=B/\B<w'.heap.size)/\Bl w w':=by
 have hF:∃a n c,vf=.slice a n c:=by obtain⟨a,c,rfl,_⟩:=Je;exact⟨a,_,c,rfl⟩
 unfold bB at hb;simp only[Io,Bool.or_eq_true,K0,beq_iff_eq]at hb;obtain⟨⟨⟨⟨⟨⟨hk,-⟩,Z⟩,Jb⟩,-⟩,ht⟩,he⟩:=hb;have Jf:s.kd=1\/s.kd=2\/s.kd=3\/s.kd=4\/s.kd=5\/s.kd=6\/s.kd=7\/s.kd=8:=o_;have Ja:¬(s.kd=4\/s.kd=5)->s.th=0/\s.el=0/\s::aF F A++aF H B=[s]:=λhn=>by
  have J:s.th=0:=by rcases ht with h|h;exact absurd h hn;exact h
  have I:s.el=0:=by rcases he with h|h;exact absurd (.inl h) hn;exact h
  refine⟨J,I,?_⟩;rw[nj (F:=F) (A:=A) (by rw[<-h0.1,J]),nj (F:=H) (A:=B) (by rw[<-h0.2,I])];rfl
 rcases Jf with h|h|h|h|h|h|h|h
 have⟨J,I,O⟩:=Ja o_;rw[O];exact FT s (.inl h) Y vf X U S w hT hN hF Z hl hS ⟨J,I⟩
 have⟨J,I,O⟩:=Ja o_;rw[O];exact FT s (.inr h) Y vf X U S w hT hN hF Z hl hS ⟨J,I⟩
 have⟨J,I,O⟩:=Ja o_;rw[O];rw[if_pos h]at Jb;exact N4 s h Y vf X U S w hT hN Je Z hl Jb Jh ⟨J,I⟩
 exact N2 s h Y vf X U S w hT hN hF Z hl hS A B vs us F H Jc Jd Ji Jg h0;have I:s.el=0:=by rcases he with h'|h';omega;exact h'
 have O:s::aF F A++aF H B=s::aF F A:=by rw[nj (F:=H) (A:=B) (by rw[<-h0.2,I]),append_nil]
 rw[O];exact N3 s h Y vf X U S w hT hN hF Z hl hS A vs F Jc Jd ⟨h0.1,I⟩
 have⟨J,I,O⟩:=Ja o_;rw[O];exact ur s (.inl h) Y vf X U S w hT hN hF Z hl hS ⟨J,I⟩
 have⟨J,I,O⟩:=Ja o_;rw[O];exact ur s (.inr (.inl h)) Y vf X U S w hT hN hF Z hl hS ⟨J,I⟩
 have⟨J,I,O⟩:=Ja o_;rw[O];exact ur s (.inr (.inr h)) Y vf X U S w hT hN hF Z hl hS ⟨J,I⟩
def wO:Prop:=∀(ss:List St) (v:BY) (w:AT),eG w->be w v ss->cD ss=true->(∀s∈ss,bB s=true/\s.e.length<=2000/\s.f.length<=2000)->ss.length<=1000->Calls prog 90 #[v] w λe w'=>∃(u:BY) (S':DO),e=rW u/\Bk w' S' u ss/\(∀B,S' B->w.heap.size<=B/\B<w'.heap.size)/\Bl w w'
section
variable{w wr:AT}{ss:List St}{v:BY}{L:List (BY×List St)}{S:DO}
def N5:BY->Nat
 | .slice _ n _=>n
 | _=>0
structure JT (w wr:AT) (ss rest:List St) (v:BY) (L:List (BY×List St)) (S:DO):Prop where
 row:wr.ownsRow w.heap.size 289 1 v L.length (L.map (·.1))
 bv:∀q∈L,Bv wr S q.1 q.2
 join:ss=(L.map (·.2)).flatten++rest
 rng:∀B,S B->w.heap.size<=B/\B<wr.heap.size/\some B≠v.ownBlock
 bel:Bl w wr
theorem jJ(L:List (BY×List St))(d:BY×List St):∀k,k<=L.length->aF (λi=>(L.getD i d).2) k=((L.take k).map (·.2)).flatten
 | 0,_=>rfl
 | k+1,h=>by
  have hk:k<L.length:=o_;simp only[aF];rw[jJ L d k o_,take_succ_eq_append_getElem hk];have eg:L.getD k d=L[k]:=by rw[getD_eq_getElem?_getD,K3 hk];rfl
  simp only[map_append,map_cons,map_nil,flatten_append,flatten_cons,flatten_nil,append_nil,eg]
def JT.bk(h:JT w wr ss [] v L S):∃S':DO,Bk wr S' v ss/\∀B,S' B->w.heap.size<=B/\B<wr.heap.size:=by
 have Jb:=λk hk=>ownsRow.lt h.row k hk;refine⟨λB=>S B\/v.ownBlock=some B,⟨L.length,λi=>(L.getD i (.nilFunc,[])).1,λi=>(L.getD i (.nilFunc,[])).2,?_,λi hi=>?_,?_⟩,λB hB=>?_⟩
 have O:=h.row;rcases h.row.2 with⟨H,U⟩|⟨g,Je,Jf,H,Jg,X,Jd,Jc,Jh,Ja⟩;refine⟨none,0,by rw[H,U],o_,o_,λhp=>by omega⟩;refine⟨_,Je,H,Jd,by unfold maxLen at Jc;omega,λhp=>⟨g,rfl,.inr (by rw[H];rfl),λi hi=>?_⟩⟩;have J:(L.map (·.1))[i]? =some ((L.getD i (.nilFunc,[])).1):=by simp[getD_eq_getElem?_getD,K3 hi]
 have:=ownsRow.cells O (g:=g) (by rw[H];rfl) i _ J
 rw[gB]at this;simpa using this;have I:L.getD i (.nilFunc,[])∈L:=by rw[getD_eq_getElem?_getD,K3 hi];exact g_ hi
 exact(h.bv _ I).keep (λB hB=>.inl hB) (λB _=>rfl);rw[jJ L _ L.length n_,take_length];have:=h.join;simpa using this;rcases hB with hB|hB;exact⟨(h.rng B hB).1,(h.rng B hB).2.1⟩;exact Jb B hB
def JT.next{H w':AT}{Jc Z:List St}{v' u:BY}{I:DO}(h:JT w wr ss (Jc++Z) v L S)(J:Bl wr H)(hu:Bv H I u Jc)(Ja:∀B,I B->wr.heap.size<=B/\B<H.heap.size)
  (O:H.grownBy w' v.ownBlock) (Jb:w'.ownsRow w.heap.size 289 1 v' (L.map (·.1)++[u]).length (L.map (·.1)++[u])) (Y:∀k,v'.ownBlock=some k->v.ownBlock=some k\/H.heap.size<=k):JT w w' ss Z v' (L++[(u,Jc)]) (λB=>S B\/I B):=by
 have Jd:=λk hk=>ownsRow.lt h.row k hk;have k1:∀B,S B->w'.heap[B]? =wr.heap[B]? := λB hB=>by have⟨U,h2,h3⟩:=h.rng B hB;rw[O.block B (l_ h2 J.size) h3,J.block B h2]
 have X:∀B,I B->some B≠v.ownBlock:=λB hB e=>by
  have:=Jd B e.symm
  have:=Ja B hB
  omega
 have k2:∀B,I B->w'.heap[B]? =H.heap[B]? := λB hB=>O.block B (Ja B hB).2 (X B hB);refine⟨D4 Jb,λq hq=>?_,?_,λB hB=>?_,?_⟩
 rcases K5.1 hq with hq|hq;exact(h.bv q hq).keep (λB hB=>.inl hB) k1;simp only[mem_cons,not_mem_nil,or_false]at hq;subst hq;exact hu.keep (λB hB=>.inr hB) k2;rw[h.join];simp;have Jf:=h.bel.size;rcases hB with hB|hB
 have⟨U,h2,h3⟩:=h.rng B hB;refine⟨U,l_ (l_ h2 J.size) O.size,λe=>?_⟩;rcases Y B e.symm with h4|h4
 exact h3 h4.symm
 have:=J.size;omega
 have⟨U,h2⟩:=Ja B hB;refine⟨o_,l_ h2 O.size,λe=>?_⟩;rcases Y B e.symm with h4|h4
 exact X B hB h4.symm;omega;have Je:Bl w H:=h.bel.trans (J.mono h.bel.size);exact Je.grown O Je.size (λk hk=>(Jd k hk).1)
end
section
variable{w w':AT}{S:DO}{v:BY}{L:List (BY×List St)}{l:List St}
def aG(L:List (BY×List St)):List St:=(L.map (·.2)).flatten
def kM:aG []=[]:=rfl
def flatL_cons(q:BY×List St)(L:List (BY×List St)):aG (q::L)=q.2++aG L:=by simp[aG]
def flatL_append(L M:List (BY×List St)):aG (L++M)=aG L++aG M:=by simp[aG]
structure oC (w:AT) (S:DO) (v:BY) (L:List (BY×List St)):Prop where
 args:gx w S v L.length (λi=>(L.getD i (.nilFunc,[])).1)
 bv:∀q∈L,Bv w S q.1 q.2
def oC.keep{S':DO}(h:oC w S v L)(hS:∀B,S B->S' B)(hk:∀B,S B->w'.heap[B]? =w.heap[B]?):oC w' S' v L:=
 ⟨h.args.keep hS hk,λq hq=>(h.bv q hq).keep hS hk⟩
def oC.bel(h:oC w S v L)(hS:∀B,S B->B<w.heap.size)(hb:Bl w w'):oC w' S v L:=h.keep (λ_ h=>h) (λB hB=>hb.block B (hS B hB))
def getD_at{i:Nat}(h:i<L.length):L.getD i (.nilFunc,[])=L[i]:=by rw[getD_eq_getElem?_getD,K3 h];rfl
def oC.parts(h:oC w S v L):gx w S v L.length (λi=>(L.getD i (.nilFunc,[])).1)/\(∀i,i<L.length->Bv w S (L.getD i (.nilFunc,[])).1 (L.getD i (.nilFunc,[])).2)/\aF (λi=>(L.getD i (.nilFunc,[])).2) L.length=aG L:=by refine⟨h.args,λi hi=>?_,?_⟩;rw[getD_at hi];exact h.bv _ (g_ hi);rw[jJ L _ L.length n_,take_length];rfl
def oC.bk(h:oC w S v L):Bk w S v (aG L):=by have⟨H,h2,h3⟩:=h.parts;exact⟨_,_,_,H,h2,h3.symm⟩
theorem jo(vs:Nat->BY)(F:Nat->List St):∀A,aF F A=aG ((List.range A).map λi=>(vs i,F i))
 | 0=>rfl
 | A+1=>by simp only[aF];rw[jo vs F A,range_succ,map_append,flatL_append];simp[aG]
def gx.toL{A:Nat}{h:Nat->BY}{F:Nat->List St}(Z:gx w S v A h)(h2:∀i,i<A->Bv w S (h i) (F i)):oC w S v ((List.range A).map λi=>(h i,F i)):=by
 have U:∀i,i<A->(((List.range A).map λi=>(h i,F i)).getD i (.nilFunc,[]))=(h i,F i):=λi H=>by rw[getD_at (D4 H)];simp
 refine⟨?_,λq hq=>?_⟩;obtain⟨a,Jb,rfl,J,I,Y⟩:=Z;refine⟨a,Jb,i_,D4 J,I,λh0=>?_⟩;have Jc:0<A:=D4 h0;obtain⟨B,rfl,O,X⟩:=Y Jc;refine⟨B,rfl,O,λi H=>?_⟩;have Ja:i<A:=D4 H;show _=some ((((List.range A).map λi=>(h i,F i)).getD i (.nilFunc,[])).1);rw[U i Ja];exact X i Ja;simp only[mem_map,mem_range]at hq;obtain⟨i,H,rfl⟩:=hq;exact h2 i H
def Bk.toL{H:List St}(h:Bk w S v H):∃L,oC w S v L/\H=aG L:=by obtain⟨A,I,F,J,h2,rfl⟩:=h;exact⟨_,J.toL h2,jo I F A⟩
def iy:List St->Bool
 | []=>false
 | s::_=>decide (s.kd=6)
def Ca.ret{s:St}{a b:List St}(h:Ca l s a b):iy l=decide (s.kd=6):=by rw[h.is];rfl
def dH(L:List (BY×List St)):Prop:=∀i,i+1<L.length->iy (L.getD i (.nilFunc,[])).2=false
theorem nr:∀(L:List (BY×List St)),(∀q∈L,∃s a b,Ca q.2 s a b)->jV (aG L)=L.any (λq=>iy q.2)
 | [],_=>rfl
 | q::L,h=>by have⟨s,a,b,ho⟩:=h q i_;rw[flatL_cons,ho.ends,any_cons,ho.ret,nr L (λq hq=>h q (by simp[hq]))]
def oC.ones(h:oC w S v L):∀q∈L,∃s a b,Ca q.2 s a b:=λq hq=>(h.bv q hq).one
def dH.one(q:BY×List St):dH [q]:=λi hi=>by simp at hi
def dH.nil:dH []:=λi hi=>by simp at hi
def dH.join{R M:List (BY×List St)}(J:∀q∈R,iy q.2=false)(I:dH M):dH (R++M):=by
 intro i H;rw[getD_at o_];by_cases h:i<R.length;rw[getElem_append_left h];exact J _ (g_ h);rw[getElem_append_right o_];have Ja:i-R.length+1<M.length:=by simp at H;omega
 have:=I (i-R.length) Ja
 rwa[getD_at o_]at this
theorem Bv.ret_is(h:Bv w S v l)(H:iy l=true):∃x,v=.iface 292 (.agg #[x])/\∃t y,x=.iface t y:=by
 cases h using Bv_i with
 | ret s x h1 h2 h3 h4=>exact⟨x,rfl,h2.isI⟩
 | _=>simp_all [iy]
theorem Bv.ret_no(h:Bv w S v l)(H:iy l=false):∃t x,v=.iface t x/\t≠292:=by
 cases h using Bv_i with
 | ret s x h1 h2 h3 h4=>simp_all [iy]
 | _=>exact⟨_,_,rfl,d_⟩
def rn(w w':AT)(S:DO)(u:BY)(ss:List St):Prop:=∃(S':DO) (M:List (BY×List St)),oC w' (λB=>S B\/S' B) u M/\(∀B,S' B->w.heap.size<=B/\B<w'.heap.size)/\aG M=ss/\dH M
end
section
variable{w0:AT}{v:BY}{n:Nd}{r:List Nd}
def dV.mono{g:Int->Int}{L M:Nat}(h:dV w0 v g L)(hl:L<=M):dV w0 v g M:=λw d hw hd hm=>h w d hw hd o_
theorem qk(F:Nat->List Nd):∀(A i:Nat),i<A->(F i).length<=(joinF F A).length
 | 0,i,h=>absurd h (Nat.not_lt_zero _)
 | A+1,i,h=>by
  simp only[joinF,l_a];by_cases hi:i<A
  have:=qk F A i hi
  omega;obtain rfl:i=A:=(by omega);omega
theorem sR(F:Nat->List Nd)(n:Nd):∀(A i:Nat),i<A->n∈F i->n∈joinF F A
 | 0,i,h,_=>absurd h (Nat.not_lt_zero _)
 | A+1,i,h,hn=>by simp only[joinF,K5];by_cases hi:i<A;exact .inl (sR F n A i hi hn);obtain rfl:i=A:=(by omega);exact .inr hn
def ql(w0:AT)(v:BY)(r:List Nd):Prop:=∃g,NF r g/\xW r.length g/\dV w0 v g r.length
def ql.leaf{u:IN}{I:BY}(H:aD n=true)(h:arity n=0)(J:n.kd≠3/\n.kd≠6/\n.kd≠7/\n.kd≠8/\n.kd≠9)(O:dV w0 (.iface u I) (λd=>d+1) 1):ql w0 (.iface u I) [n]:=by
 have e:fP n 0 (λ_ d=>d)=λd=>d+1:=by simp[fP,J];rfl
 refine⟨_,NF.node H (A:=0) h (F:=λ_=>[]) (G:=λ_ d=>d) (λi hi=>absurd hi (Nat.not_lt_zero _)),?_,?_⟩;exact(jU (L:=0) H (A:=0) h (λi hi=>absurd hi (Nat.not_lt_zero _)));rw[e];exact O
def ql.one{g:Int->Int}(J:aD n=true)(I:arity n=1)(O:n.kd=3\/n.kd=6)(Y:NF r g)(X:xW r.length g)(U:dV w0 v g (r.length+1)):ql w0 v (r++[n]):=by
 have e:fP n 1 (λ_=>g)=g:=by simp[fP,O]
 have h:=NF.node J (A:=1) I (F:=λ_=>r) (G:=λ_=>g) (λi hi=>Y);have h2:=jU (L:=r.length) J (A:=1) I (G:=λ_=>g) (λi hi=>X);rw[e]at h h2;have H:(r++[n]).length=r.length+1:=i_;exact⟨g,by simpa[joinF]using h,by rw[H];exact h2,by rw[H];exact U⟩
def ql.two{t:List Nd}{g h:Int->Int}(k:Int->Int)(O:aD n=true)(J:arity n=2)(e:fP n 2 (λi=>if i=0 then g else h)=k)(hg:NF r g)(Z:NF t h)(X:xW r.length g)(Y:xW t.length h)(U:dV w0 v k (r.length+t.length+1)):ql w0 v (r++t++[n]):=by
 have H:=NF.node O (A:=2) J (F:=λi=>if i=0 then r else t) (G:=λi=>if i=0 then g else h) (λi hi=>by by_cases h0:i=0 <;> simp only[h0,if_true,if_false] <;> assumption);have h2:=jU (L:=r.length+t.length) O (A:=2) J (G:=λi=>if i=0 then g else h) (λi hi=>by by_cases h0:i=0 <;> simp only[h0,if_true,if_false];exact X.mono o_;exact Y.mono o_);rw[e]at H h2;have I:(r++t++[n]).length=r.length+t.length+1:=by simp;omega
 exact⟨k,by simpa[joinF]using H,by rw[I];exact h2,by rw[I];exact U⟩
theorem FW{S:DO}(h:Tv w0 S v r)(hS:∀B,S B->B<w0.heap.size)(I:kD r):ql w0 v r:=by
 induction h using Tv_i with
 | num v=>exact .leaf (I _ i_) rfl i_ (ni w0 _ _ d_ d_ d_ d_ d_ d_ 1)
 | var s=>exact .leaf (I _ i_) rfl i_ (ni w0 _ _ d_ d_ d_ d_ d_ d_ 1)
 | inn=>exact .leaf (I _ i_) d_ d_ (ni w0 _ _ d_ d_ d_ d_ d_ d_ 1)
 | index s x r hx ih=>obtain⟨t,y,rfl⟩:=hx.isI;have⟨g,J,h2,h3⟩:=ih (λn H=>I n (by simp[H]));exact .one (I _ i_) rfl (.inl rfl) J h2 (zC w0 s t y g _ h3)
 | un op x r hx ih=>obtain⟨t,y,rfl⟩:=hx.isI;have⟨g,J,h2,h3⟩:=ih (λn H=>I n (by simp[H]));exact .one (I _ i_) rfl (.inr rfl) J h2 (I0 w0 op t y g _ h3)
 | bin op x y r t hx hy ih1 ih2=>obtain⟨tx,x,rfl⟩:=hx.isI;obtain⟨Y,y,rfl⟩:=hy.isI;have⟨g,J,h2,h3⟩:=ih1 (λn H=>I n (by simp[H]));have⟨h,U,Z,X⟩:=ih2 (λn H=>I n (by simp[H]));exact .two _ (I _ i_) rfl (by simp[fP]) J U h2 Z (FQ w0 op tx Y x y g h _ _ h3 X)
 | and x y r t hx hy ih1 ih2=>obtain⟨tx,x,rfl⟩:=hx.isI;obtain⟨Y,y,rfl⟩:=hy.isI;have⟨g,J,h2,h3⟩:=ih1 (λn H=>I n (by simp[H]));have⟨h,U,Z,X⟩:=ih2 (λn H=>I n (by simp[H]));exact .two _ (I _ i_) rfl (by simp[fP]) J U h2 Z (FR w0 tx Y x y g h _ _ h3 X)
 | or x y r t hx hy ih1 ih2=>obtain⟨tx,x,rfl⟩:=hx.isI;obtain⟨Y,y,rfl⟩:=hy.isI;have⟨g,J,h2,h3⟩:=ih1 (λn H=>I n (by simp[H]));have⟨h,U,Z,X⟩:=ih2 (λn H=>I n (by simp[H]));exact .two _ (I _ i_) rfl (by simp[fP]) J U h2 Z (I1 w0 tx Y x y g h _ _ h3 X)
 | call s ar A vs F ha hv ih=>
  have H:aD (⟨4,A,s⟩:Nd)=true:=I _ i_;have hA:arity (⟨4,A,s⟩:Nd)=A:=by simp[arity]
  have h6:A<=6:=by have:=(dC H).2;omega
  have O:∀i,∃g,i<A->NF (F i) g/\xW (F i).length g/\dV w0 (vs i) g (F i).length:=by
   intro i;by_cases hi:i<A
   have⟨g,hh⟩:=ih i hi (λn H=>I n (by simp[sR F n A i hi H]));exact⟨g,λ_=>hh⟩
   exact⟨λd=>d,λh=>absurd h hi⟩
  have J:=NF.node H hA (F:=F) (G:=λi=>(O i).choose) (λi hi=>((O i).choose_spec hi).1);have hb:∀i,i<A->xW (joinF F A).length ((O i).choose):=λi hi=>((O i).choose_spec hi).2.1.mono (qk F A i hi);have h2:=jU H hA (G:=λi=>(O i).choose) hb;have e:fP (⟨4,A,s⟩:Nd) A (λi=>(O i).choose)=fO (λi=>(O i).choose) A:=by simp[fP]
  rw[e]at J h2;have hl:(joinF F A++[(⟨4,A,s⟩:Nd)]).length=(joinF F A).length+1:=i_;refine⟨_,J,by rw[hl];exact h2,?_⟩;rw[hl];exact CR w0 S s ar A vs _ _ h6 ha (λi hi=>(hv i hi).isI) hS (λi hi=>((O i).choose_spec hi).2.2.mono (qk F A i hi)) hb
end
theorem FX(L:List (BY×List St))(h:∀q∈L,0<q.2.length):L.length<=(L.map (·.2)).flatten.length:=by
 induction L with
 | nil=>simp
 | cons q r ih=>have H:=h q i_;have h2:=ih (λx hx=>h x (by simp[hx]));simp only[map_cons,flatten_cons,l_a,l_c];omega
def AV:(prog.info? 289).map (λi=>(i.zero,i.size,i.bytes))=some (some .nilIface,1,16):=by kernel_rfl
def own_below{B t z n:Nat}{w w':AT}{v:BY}{J:List BY}(h:w.ownsRow B t z v n J)(Y:Bl w w'):w'.ownsRow B t z v n J:=by obtain⟨U,H⟩:=h;refine⟨U,?_⟩;rcases H with H|⟨g,Jb,Ja,rfl,X,I,O⟩;exact .inl H;refine .inr ⟨g,Jb,Ja,rfl,X,?_,O⟩;rw[Y.block g (Array.getElem?_eq_some_iff.1 I).1];exact I
theorem I2(W:World)(I:TypeId)(H:Value):Src (W.alloc (.cells #[.iface I H] 289)) (rV W.heap.size 1 1) [.iface I H]:=by
 refine⟨_,_,rfl,(λh=>by cases h),λad had j u hj=>?_⟩;simp only[Option.some.injEq]at had;subst had;have Ja:j=0:=by
  have:=(List.getElem?_eq_some_iff.mp hj).1
  simp at this;omega
 subst Ja;simp at hj;subst hj;simp[Addr.add]
theorem mu(J:List St)(v:Value)(w:World)(hT:eG w)(hS:be w v J)(Xn:cD J=true)(Zr:∀s∈J,bB s=true/\s.e.length<=2000/\s.f.length<=2000)(Zs:J.length<=1000)
  (IH:∀(tt:List St) (u:Value) (W:World),tt.length<J.length->Below w.heap.size w W->be w u tt->cD tt=true->(∀s∈tt,s∈J)->Calls prog 90 #[u] W λe w'=>∃(x:Value) (S':Nat->Prop),e=rW x/\Bk w' S' x tt/\(∀B,S' B->W.heap.size<=B/\B<w'.heap.size)/\Below W.heap.size W w'):
  Calls prog 90 #[v] w λe w'=>∃(u:Value) (S':Nat->Prop),e=rW u/\Bk w' S' u J/\(∀B,S' B->w.heap.size<=B/\B<w'.heap.size)/\Below w.heap.size w w':=by
 have⟨HT,HS,Yg,Jy,Xr⟩:=h5 hT hS Zr Xn IH;obtain⟨av,cv,rfl,-⟩:=hS;go_in;go_wp2;go_loopw[0,3] (λv0 v3 wr=>∃(Jb:List St) (L:List (Value×List St)) (S:Nat->Prop),be w v0 Jb/\cD Jb=true/\Jb.length<=J.length/\(∀s∈Jb,s∈J)/\JT w wr J Jb v3 L S) (λv0 _ _=>N5 v0)
 case atStart=>exact⟨J,[],λ_=>False,HS,Jy,n_,λs h=>h,⟨World.ownsRow_nil _ _ _ _,λq hq=>by simp at hq,i_,λB hB=>hB.elim,r_⟩⟩
 case round=>
  clear HS Jy;obtain⟨Jb,L,S,Xw,Yd,Zz,Jx,Jk⟩:=hrel;have⟨Jh,Jf⟩:=h2 Jk Jx;obtain⟨Jv,Jn,Jo,rfl⟩:∃a n c,u3=.slice a n c:=by rcases Jk.row.2 with⟨rfl,_⟩|⟨g,Jm,Zu,rfl,_⟩;exact⟨_,_,_,rfl⟩;exact⟨_,_,_,rfl⟩
  cases Jb with
  | nil=>obtain⟨a2,c2,rfl,-⟩:=Xw;simp only[l_n];go_wp2_with fail;have⟨S',Zm,Xl⟩:=Jh.out.bk;exact bodyPost_ret (v:=.slice Jv Jn Jo) (by simp[results,results90,go_sem]) rfl ⟨_,S',rfl,Zm,Xl,Jh.out.bel⟩
  | cons s r=>
   rw[fitB_cons,Bool.and_eq_true,Bool.and_eq_true,Bool.and_eq_true,decide_eq_true_iff]at Yd;obtain⟨⟨p1,p2,p3,p4⟩,Yb,Xx,Xv⟩:=Yd;obtain⟨a2,Jm,rfl,Zp,Yz,hc⟩:=Xw;obtain⟨Z,off,rfl,hs⟩:=hc i_;have Jr:be w (.slice (some ⟨Z,off,none⟩) (s::r).length Jm) (s::r):=⟨_,_,rfl,Zp,Yz,λ_=>⟨Z,off,rfl,hs⟩⟩;have Jg:be w (.slice (if Jm=1 then some ⟨Z,off,none⟩else some ⟨Z,off+6,none⟩) r.length (Jm-1)) r:=by
    have:=Jr.cut 1 (s::r).length i_ n_
    simpa[Addr.add]using this
   have⟨ve,vf,⟨g0,g1,g2,g3,g4,g5⟩,⟨c0,c1,c2,c3,c4,c5⟩,he,hf⟩:=(hs.below Jk.bel).up 0 i_;simp only[Nat.zero_mul,Nat.add_zero,List.getElem_cons_zero]at c0 c1 c2 c3 c4 c5 g0 g1 g2 g3 g4 g5 he hf;simp only[l_c]at*;have HR:=ah Jg;have h1:(1:Int)<=(r.length:Int)+1:=o_;have⟨Zf,Y_,Yo,Zk,Zl⟩:=h5 he hf Yb Xx Xv;obtain⟨a3,k3,rfl,-⟩:=he;obtain⟨a4,k4,rfl,-⟩:=hf;clear hs hc Jr Jg Yb Xx Xv Jk Jx;go_wp2_with fail;go_region;generalize (if Jm=1 then some ({block:=Z,off:=off,spot:=none}:Addr)else some {block:=Z,off:=off+6,spot:=none})=a1 at HR⊢;generalize Xb:Jm-1=k1 at HR⊢;have Zi:r.length<=k1:=o_;have Ze:k1<=9223372036854775807:=o_;have⟨tn,Jp⟩:=Int.eq_ofNat_of_zero_le p1;have⟨I,J_⟩:=Int.eq_ofNat_of_zero_le p3;have Zv:IntKind.i64.wrap ((tn:Int)+(I:Int))=(tn:Int)+(I:Int):=(by simp[IntKind.wrap,IntKind.bits,IntKind.signed];omega);go_wp2_with fail;have⟨X,hX⟩:=q_ ((wr.alloc (.cells #[V s.kd,sV s.nm,.slice a3 s.e.length k3,.slice a4 s.f.length k4,V (tn:Int),V (I:Int)] 254)).drew);rw[<-hX];have Js:Bl wr X.drew:=(by rw[hX];exact(aq _ _).drew.drew);have Zy:X.drew.heap.size=wr.heap.size+1:=(by rw[hX];simp);have Xj:=Jh.out.bel;have Jd:Bl w X.drew:=Xj.trans (Js.mono Xj.size);have HK:Hid (∀W,Bl X.drew W->W.cell? ⟨wr.heap.size,0,none⟩=some (V s.kd)/\W.cell? ⟨wr.heap.size,1,none⟩=some (sV s.nm)/\W.cell? ⟨wr.heap.size,2,none⟩=some (.slice a3 s.e.length k3)/\W.cell? ⟨wr.heap.size,3,none⟩=some (.slice a4 s.f.length k4)/\W.cell? ⟨wr.heap.size,4,none⟩=some (V (tn:Int))/\W.cell? ⟨wr.heap.size,5,none⟩=some (V (I:Int))):=λW hW=>by refine⟨?_,?_,?_,?_,?_,?_⟩ <;> (rw[hW.cell (by simp only;omega)];show X.cell? _=_;rw[hX];show World.cell? (wr.alloc _) _=_;simp)
   have⟨x0,x1,x2,x3,x4,x5⟩:=HK.out X.drew r_;have Vd:tn+I<=r.length:=o_;obtain⟨a6,k6,Zx,Yj⟩:∃a6 k6,(∀w:World,(Instr.slice 141 (.slice a1 r.length k1) (some (V (tn:Int))) (some (V ((tn:Int)+(I:Int)))) none).run prog w=.ok (.slice a6 I k6) w)/\be w (.slice a6 I k6) ((r.take (tn+I)).drop tn):=by have h:=EZ a1 r.length k1 tn (tn+I) o_ o_ o_ (tn:Int) ((tn:Int)+(I:Int)) o_ o_;have h':=HR.out.cut tn (tn+I) o_ o_;rw[show tn+I-tn=I by omega]at h h';exact⟨_,_,h,h'⟩
   have Yr:be w (.slice a1 tn k1) (r.take tn):=HR.out.head tn o_;have Z_:∀w:World,(Instr.slice 141 (.slice a1 r.length k1) none (some (V (tn:Int))) none).run prog w=.ok (.slice a1 tn k1) w:=λw=>by have O:prog.elem 141=254:=k_;have Xe:(sizeOf 254).run prog w=.ok 6 w:=k_;rw[run_slice_h w 141 a1 r.length k1 (by rw[O];exact underlying141) .i64 _ o_ o_,O,Xe];simp only[Result.andThen,sliced,Int.toNat_natCast,Nat.sub_zero,Nat.zero_mul,Int.toNat_zero];cases a1 <;> simp[Addr.add]
   have Yl:=ah λW (hW:Bl w W)=>Xr.out (r.take tn) _ W (by simp;omega) hW Yr (by have:=Yo.out;rw[Jp]at this;exact this) (λz O=>Jf.out z (by simp[List.mem_of_mem_take O]));have Yy:=ah λW (hW:Bl w W)=>Xr.out _ _ W (by simp;omega) hW Yj (by have:=Zk.out;rw[Jp,J_]at this;exact this) (λz O=>Jf.out z (by simp[List.mem_of_mem_take (List.mem_of_mem_drop O)]));have Zq:Hid (∀(y1 y2:Value) (S1 S2:Nat->Prop) (Y wb:World),Bk Y S1 y1 (r.take tn)->(∀B,S1 B->X.drew.heap.size<=B/\B<Y.heap.size)->Bl X.drew Y->Bk wb S2 y2 ((r.take (tn+I)).drop tn)->(∀B,S2 B->Y.heap.size<=B/\B<wb.heap.size)->Bl Y wb->Calls prog 149 #[.agg #[V s.kd,sV s.nm,.slice a3 s.e.length k3,.slice a4 s.f.length k4,V (tn:Int),V (I:Int)],y1,y2] wb λe w'=>∃(U:TypeId) (x0:Value) (S3:Nat->Prop),e=rW (.iface U x0)/\Bv w' S3 (.iface U x0) (s::r.take (tn+I))/\(∀B,S3 B->X.drew.heap.size<=B/\B<w'.heap.size)/\Bl wb w'):=λy1 y2 S1 S2 Y wb Xb Jt Ja Xg Xa Je=>by
    have Jw:Bl X.drew wb:=Ja.trans (Je.mono Ja.size);have Xd:Bl w wb:=Jd.trans (Jw.mono Jd.size);have Jq:Bl wr wb:=Js.trans (Jw.mono Js.size);have⟨A,vs,F,q1,q2,q3⟩:=Xb.bel (λB hB=>(Jt B hB).2) Je;obtain⟨D,us,H,q4,q5,q6⟩:=Xg;have⟨o1,o2,o3⟩:=Yg.out s (Jf.out s i_);have Vb:=Ja.size;have Zt:=Je.size;have e1:(r.take tn).length=tn:=(by simp;omega);have e2:((r.take (tn+I)).drop tn).length=I:=(by simp;omega);have h:=FU s o1 o2 o3 (.slice a3 s.e.length k3) (.slice a4 s.f.length k4) y1 y2 (λB=>S1 B\/S2 B) wb (HT.out.below HT.out.size Xd) (Zf.out.below Jq) (Y_.out.below Jq) (λB hB=>by rcases hB with hB|hB;have:=Jt B hB;omega;exact(Xa B hB).2) A D vs us F H (q1.keep (λB hB=>.inl hB) (λB _=>rfl)) (λi hi=>(q2 i hi).keep (λB hB=>.inl hB) (λB _=>rfl)) (q4.keep (λB hB=>.inr hB) (λB _=>rfl)) (λi hi=>(q5 i hi).keep (λB hB=>.inr hB) (λB _=>rfl)) ⟨by rw[<-q3,e1];exact Jp,by rw[<-q6,e2];exact J_⟩;rw[Jp,J_]at h;refine h.mono ?_;rintro e w' ⟨u,S',rfl,Jl,Xl,Yc⟩;obtain⟨U,z0,rfl⟩:=Jl.isI;rw[<-q3,<-q6]at Jl;have el:s::r.take tn++(r.take (tn+I)).drop tn=s::r.take (tn+I):=by rw[List.cons_append];congr 1;have e3:r.take tn=(r.take (tn+I)).take tn:=(by rw[List.take_take];congr 1;omega);rw[e3,List.take_append_drop]
    rw[el]at Jl;refine⟨U,z0,_,rfl,Jl,λB hB=>?_,Yc⟩;have Va:=Yc.size;rcases hB with(hB|hB)|hB
    have:=Jt B hB;omega
    have:=Xa B hB;omega
    have:=Xl B hB;omega
   clear hX;have⟨iS,Yn,Xm,Xf,Xc⟩:=info_parts AV;have Xh:Hid (∀W,Bl wr W->W.ownsRow w.heap.size 289 1 (.slice Jv Jn Jo) (L.map (·.1)).length (L.map (·.1))):=λW hW=>by rw[List.length_map];exact own_below Jh.out.row hW
   have Xi:=ah λ(W:World) (U:TypeId) (x0:Value)=>I2 W U x0;have Vc:(L.map (·.1)).length<=1000000:=by rw[List.length_map];have h1:=FX L (λq hq=>(Jh.out.bv q hq).pos);have h2:=congrArg List.length Jh.out.join;rw[l_a]at h2;omega
   have Jj:some wr.heap.size≠(Value.slice Jv Jn Jo).ownBlock:=λe=>by have:=(World.ownsRow.lt Jh.out.row _ e.symm).2;omega
   obtain⟨a7,k7,Zw,Zg⟩:∃a7 k7,(∀w:World,(Instr.slice 141 (.slice a1 r.length k1) (some (V ((tn:Int)+(I:Int)))) none none).run prog w=.ok (.slice a7 (r.length-(tn+I)) k7) w)/\be w (.slice a7 (r.length-(tn+I)) k7) (r.drop (tn+I)):=by have h':=HR.out.cut (tn+I) r.length o_ n_;rw[List.take_length]at h';refine⟨_,_,λw=>?_,h'⟩;have O:prog.elem 141=254:=k_;have Xe:(sizeOf 254).run prog w=.ok 6 w:=k_;have e:((tn:Int)+(I:Int))=((tn+I:Nat):Int):=o_;rw[e,run_slice_l w 141 a1 r.length k1 (by rw[O];exact underlying141) .i64 _ o_ o_,O,Xe];simp only[Result.andThen,sliced,Int.toNat_natCast]
   go_region_held_law (λW=>W.cell? ⟨wr.heap.size,0,none⟩=some (V s.kd)/\W.cell? ⟨wr.heap.size,1,none⟩=some (sV s.nm)/\W.cell? ⟨wr.heap.size,2,none⟩=some (.slice a3 s.e.length k3)/\W.cell? ⟨wr.heap.size,3,none⟩=some (.slice a4 s.f.length k4)/\W.cell? ⟨wr.heap.size,4,none⟩=some (V (tn:Int))/\W.cell? ⟨wr.heap.size,5,none⟩=some (V (I:Int)))
    (first|go_keep|(go_split_ands;exact⟨Ye,Zd,Zb,Yf,Ym,Yp⟩)|(go_split_ands;exact⟨Zc,Zo,Zh,Yt,Yw,Zj⟩)|(go_split_ands;exact⟨Ya,Xz,Xy,Xs,Xq,X_⟩)|(go_split_ands;exact⟨Ys,Yx,Yq,Yu,Yi,Za⟩))
    (first
    | (with_reducible refine Calls.mono (Yl.out X.drew Jd) ?_;rintro e Y ⟨y1,S1,rfl,Xb,Jt,Ja⟩;have⟨Ye,Zd,Zb,Yf,Ym,Yp⟩:=HK.out Y Ja)
    | (with_reducible refine Calls.mono (Yy.out Y (Jd.trans (Ja.mono Jd.size))) ?_;rintro e wb ⟨y2,S2,rfl,Xg,Xa,Je⟩;have⟨Zc,Zo,Zh,Yt,Yw,Zj⟩:=HK.out wb (Ja.trans (Je.mono Ja.size)))
    | (with_reducible refine Calls.mono (Zq.out y1 y2 S1 S2 Y wb Xb Jt Ja Xg Xa Je) ?_;rintro e wc ⟨U,x0,S3,rfl,Jl,Xo,Xp⟩;have Xt:Bl X.drew wc:=(Ja.trans (Je.mono Ja.size)).trans (Xp.mono (Ja.trans (Je.mono Ja.size)).size);have Ju:Bl wr wc:=Js.trans (Xt.mono Js.size);have Jc:wr.heap.size<wc.heap.size:=(by have:=Xt.size;omega);have⟨Ya,Xz,Xy,Xs,Xq,X_⟩:=HK.out wc ((Ja.trans (Je.mono Ja.size)).trans (Xp.mono (Ja.trans (Je.mono Ja.size)).size)))
    | (refine kK (P:=prog) (by rfl) _ _ 227 (by rfl) w.heap.size 289 iS _ underlying227 Yn Xm Xf Xc rfl (.slice Jv Jn Jo) (L.map (·.1)) (by rfl) (Xh.out _ (Ju.alloc Ju.size _)) (.slice (some ⟨wc.heap.size,0,none⟩) 1 1) [.iface U x0] (by rfl) (Xi.out wc U x0) (λu hu=>by simp only[List.mem_cons,List.not_mem_nil,or_false]at hu;subst hu;rfl) (by simp only[l_c,l_n];omega) (by have:=Ju.size;have:=Xj.size;simp only[World.size_alloc];omega) ?_;intro v' w' Jz Ji Yh;obtain⟨Ys,Yx,Yq,Yu,Yi,Za⟩:w'.cell? ⟨wr.heap.size,0,none⟩=some (.int .i64 s.kd)/\w'.cell? ⟨wr.heap.size,1,none⟩=some (.string s.nm)/\w'.cell? ⟨wr.heap.size,2,none⟩=some (.slice a3 s.e.length k3)/\w'.cell? ⟨wr.heap.size,3,none⟩=some (.slice a4 s.f.length k4)/\w'.cell? ⟨wr.heap.size,4,none⟩=some (.int .i64 (tn:Int))/\w'.cell? ⟨wr.heap.size,5,none⟩=some (.int .i64 (I:Int)):=⟨Ji.cell ((World.cell?_alloc_lt wc _ ⟨wr.heap.size,0,none⟩ Jc).trans Ya) Jj,Ji.cell ((World.cell?_alloc_lt wc _ ⟨wr.heap.size,1,none⟩ Jc).trans Xz) Jj,Ji.cell ((World.cell?_alloc_lt wc _ ⟨wr.heap.size,2,none⟩ Jc).trans Xy) Jj,Ji.cell ((World.cell?_alloc_lt wc _ ⟨wr.heap.size,3,none⟩ Jc).trans Xs) Jj,Ji.cell ((World.cell?_alloc_lt wc _ ⟨wr.heap.size,4,none⟩ Jc).trans Xq) Jj,Ji.cell ((World.cell?_alloc_lt wc _ ⟨wr.heap.size,5,none⟩ Jc).trans X_) Jj⟩))
   have Yk:Hid (∀w9,w9=w'->JT w w9 J (r.drop (tn+I)) v' (L++[(.iface U x0,s::r.take (tn+I))]) (λB=>S B\/S3 B)):=λw9 e9=>by
    subst e9;have Jk:JT w wr J (s::r.take (tn+I)++r.drop (tn+I)) (.slice Jv Jn Jo) L S:=by
     have:=Jh.out
     rw[List.cons_append,List.take_append_drop];exact this
    have Xu:Bl wc (wc.alloc (.cells #[.iface U x0] 289)):=aq _ _;exact Jk.next (Ju.trans (Xu.mono Ju.size)) (Jl.bel (λB hB=>(Xo B hB).2) Xu) (λB hB=>by have:=Xo B hB;simp only[World.size_alloc];omega) Ji Jz Yh
   have Yv:=Yk.out _ rfl;have⟨HN,Zn⟩:=h2 Yv Zg;have Xk:Hid (cD (r.drop (tn+I))=true):=(by have:=Zl.out;rw[Jp,J_]at this;exact this);go_wp2;go_roundw
   case rel=>exact⟨r.drop (tn+I),_,_,Zn,Xk,by simp;omega,λz O=>Jf.out z (by simp[List.mem_of_mem_drop O]),HN⟩
   case measure=>simp[N5];omega
theorem nU:wO:=by
 intro ss v w O J Ja Jd Jc;have Jb:∀(n:Nat) (h:List St) (u:BY) (W:AT),h.length<=n->eG W->be W u h->cD h=true->(∀s∈h,bB s=true/\s.e.length<=2000/\s.f.length<=2000)->h.length<=1000->Calls prog 90 #[u] W λe w'=>∃(x:BY) (S':DO),e=rW x/\Bk w' S' x h/\(∀B,S' B->W.heap.size<=B/\B<w'.heap.size)/\Bl W w':=by
  intro n;induction n with
  | zero=>intro h u W I H h2 h3 h4 h5;exact mu h u W H h2 h3 h4 h5 (λt' _ _ hlt=>by omega)
  | succ n ih=>intro h u W I H h2 h3 h4 h5;exact mu h u W H h2 h3 h4 h5 (λt' u' W' hlt hb hs hf hsub=>ih t' u' W' o_ (H.below H.size hb) (hs.below hb) hf (λs hs'=>h4 s (hsub s hs')) o_)
 exact Jb ss.length ss v w n_ O J Ja Jd Jc
section
variable{e:List Nd}
def kY(e:List Nd)(d:Int):Int:=((JA e []).headD (λd=>d)) d
def NF.eq{g:Int->Int}(h:NF e g)(d:Int):kY e d=g d:=by unfold kY;rw[h []];rfl
def plE(e:List Nd)(d m:Int):Int:=if e.length=0 then m else max m (kY e d)
def wP(s:St)(m:Nat)(p:Int):Int:=if m=0 then p else if m=1 then plE s.e 0 p else plE s.f 1 (plE s.e 0 p)
def places(body:List St):Int:=body.foldl (λp s=>wP s 2 p) 0
def wQ(l:List St)(s:St):places (l++[s])=wP s 2 (places l):=by simp[places]
def sS(e:List Nd):Prop:=e.length<=2000/\(0<e.length->oneB e=true)
def FY(h:sS e)(I:0<e.length)(d:Int):d<=kY e d/\kY e d<=d+14000:=by
 have⟨g,H,h2⟩:=NF.exists e.length e n_ (h.2 I);rw[H.eq];have:=h2 d
 have:=h.1
 omega
def N6{w:AT}{S:DO}{u:BY}(h:Tv w S u e)(O:∀B,S B->B<w.heap.size)(H:sS e)(d:Int)(J:0<=d)(Ja:d<=1):Calls prog 169 #[u,V d] w λx w'=>x=rW (V (kY e d))/\Bl w w':=by have⟨g,I,h2,h3⟩:=FW h O (gS (H.2 h.pos));rw[I.eq];exact h3 w d r_ J (Ft H.1)
def ut(vb:BY)(Ja:List St)(w:AT)(Ji:eG w)(hb:be w vb Ja)(Xa:∀s∈Ja,sS s.e/\sS s.f):
  Calls prog 129 #[vb] w λe w'=>e=rW (V (places Ja))/\Bl w w':=by
 obtain⟨ab,cb,rfl,Xc,Xb,Jl⟩:=hb;have⟨Jp,Jm,Je⟩:=h3 Jl Xa Ji;go_in;go_wp2;go_loopw[3,10] (λp i wr=>∃(k:Nat),k<=Ja.length/\i=V k/\p=V (places (Ja.take k))/\Bl w wr) (λ_ i _=>Ja.length-(RowKit.intOf i).toNat)
 case atStart=>exact⟨0,y_,rfl,rfl,r_⟩
 case round=>
  obtain⟨k,hk,rfl,rfl,H⟩:=hrel;by_cases hlt:k<Ja.length
  ·obtain⟨I,Jb,rfl,hc⟩:=Jp.o o_;have⟨ve,vf,⟨c0,c1,c2,c3,c4,c5⟩,he,Y⟩:=hc k hlt;have Jc:=b_ c0;have d0:=(H.cell (p:=⟨I,Jb+k*6,none⟩) Jc).trans c0;have d1:=(H.cell (p:=⟨I,Jb+k*6+1,none⟩) Jc).trans c1;have d2:=(H.cell (p:=⟨I,Jb+k*6+2,none⟩) Jc).trans c2;have d3:=(H.cell (p:=⟨I,Jb+k*6+3,none⟩) Jc).trans c3;have d4:=(H.cell (p:=⟨I,Jb+k*6+4,none⟩) Jc).trans c4;have d5:=(H.cell (p:=⟨I,Jb+k*6+5,none⟩) Jc).trans c5;have HE:Hid (places (Ja.take (k+1))=wP Ja[k] 2 (places (Ja.take k))):=(by show _=_;rw[take_succ_eq_append_getElem hlt,wQ]);have Z:Hid (sS Ja[k].e/\sS Ja[k].f):=Jm.o _ (g_ hlt);generalize Ja[k]=s at d0 d1 d2 d3 d4 d5 he Y HE Z;generalize places (Ja.take k)=pre at HE;have⟨Jy,Js⟩:=h2 he Y;obtain⟨ae,ce,rfl,-⟩:=he;obtain⟨af,cf,rfl,-⟩:=Y;go_wp2_with fail;refine(mV _ _ _ _ _ _ _ _ _ _ _).mono ?_;rintro e w1 ⟨rfl,Jk⟩;simp only[Bl,K9]at Jk;have Jw:Hid (Bl w w1):=H.trans (((aq _ _).trans (Jk.mono i_)).mono H.size);go_wp2;go_loopw[3,16] (λp i w2=>∃(m:Nat),m<=2/\i=V m/\p=V (wP s m pre)/\Bl w w2) (λ_ i _=>2-(RowKit.intOf i).toNat)
   case atStart=>exact⟨0,y_,rfl,rfl,Jw⟩
   case round=>
    obtain⟨m,hm,rfl,rfl,Jd⟩:=hrel;by_cases hm2:m<2
    ·obtain⟨U,el,X,Jz,Jt,Jf,Jx⟩:∃(U:Option Addr) (el:List Nd) (X:Nat),(∀W,(Instr.index 307 (.agg #[.slice ae s.e.length ce,.slice af s.f.length cf]) (V (m:Int))).run prog W=.ok (.slice U el.length X) W)/\a_ w (.slice U el.length X) el/\wP s (m+1) pre=plE el m (wP s m pre)/\sS el:=by have Jn:m=0\/m=1:=o_;rcases Jn with rfl|rfl;exact⟨ae,s.e,ce,λW=>KW _ _ W,Jy,by simp[wP],Z.o.1⟩;exact⟨af,s.f,cf,λW=>KV _ _ W,Js,by simp[wP],Z.o.2⟩
     have⟨HX,Jg,Jv⟩:=h3 Jf Jx Jt;generalize wP s m pre=p at HX;have Jo:decide ((m:Int)<2)=true:=(by rw[decide_eq_true_iff];omega);by_cases h0:el.length=0
     ·have J:Hid (wP s (m+1) pre=p):=(by show _=_;rw[HX.o,plE,if_pos h0]);go_wp2;go_roundw
      case rel=>exact⟨m+1,o_,by go_num,by rw[J.o],Jd⟩
      case measure=>exact D1
     have Jh:0<el.length:=o_;have J:Hid (wP s (m+1) pre=max p (kY el m)):=(by show _=_;rw[HX.o,plE,if_neg h0]);have O:=ah λW (hW:Bl w W)=>iH _ el W (Je.o.below Je.o.size hW) (Jv.o.below hW) (Jg.o.2 Jh) Jg.o.1;go_wp2_with fail;refine(O.o _ Jd).mono ?_;rintro e w2 ⟨u,S,rfl,hT,hS,Jq⟩;have HN:=ah (N6 hT (λB H=>(hS B H).2) Jg.o m o_ o_);obtain⟨t,x,rfl⟩:=hT.isI;generalize kY el m=q at HN J;have J_:Hid ((if p<q then q else p)=wP s (m+1) pre):=by show _=_;rw[J.o,Int.max_def];split <;> split <;> omega
     have Jj:=Jd.trans (Jq.mono Jd.size);go_wp2_with fail;refine HN.o.mono ?_;rintro e w3 ⟨rfl,Jr⟩;have Ju:=Jj.trans (Jr.mono Jj.size);go_wp2;rw[J_.o];refine⟨⟨m+1,o_,i_,rfl,Ju⟩,?_⟩;simp only[RowKit.intOf];omega
    obtain rfl:m=2:=(by omega);have O:Hid (places (Ja.take (k+1))=wP s 2 pre):=HE.o;generalize wP s 2 pre=p at O;go_wp2;go_roundw
    case rel=>exact⟨k+1,o_,by go_num,by rw[O.o],Jd⟩
    case measure=>exact D1
  obtain rfl:k=Ja.length:=(by omega);have⟨p,hp⟩:=q_ (places (Ja.take Ja.length));rw[<-hp];have HP:Hid (p=places Ja):=(by show _=_;rw[hp,take_length]);go_wp2;go_ret;exact⟨congrArg (λv=>Ending.returned (V v)) HP,H⟩
end
end Go.Proofs.YtngnoopnloojjaaGreatDoor
