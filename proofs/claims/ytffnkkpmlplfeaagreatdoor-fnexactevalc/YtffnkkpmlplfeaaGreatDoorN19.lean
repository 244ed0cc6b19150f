import Derived.Test.YtffnkkpmlplfeaaGreatDoorN18
namespace Go.Proofs.YtffnkkpmlplfeaaGreatDoor
open Go.Proofs.Tryz
open Go.RowKit
set_option linter.all false
set_option maxRecDepth 100000
set_option maxHeartbeats 16000000
variable[Inhabited Pick]
section
variable {g:Nat} {w w':World}
theorem eqI_any (v1 v2:Value) (l:List Int) (w:World) (hl:l.length<=100000000) (h1:Ints w v1 l) (h2:Ints w v2 l) :
  Calls prog 13 #[v1,v2] w λe w'=>e=.returned (.bool true)/\Below w.heap.size w w':=by
 obtain⟨a1,c1,rfl,hc1⟩:=h1;obtain⟨a2,c2,rfl,hc2⟩:=h2;obtain⟨H1,H2⟩:=h2 hc1 hc2;go_enter func13,ntmps13;go_wp2_with fail;go_loopw [5] (λi wr=>∃k:Nat,k<=l.length/\i=.int .i64 k/\Bl w wr) (λi _=>l.length-(RowKit.intOf i).toNat)
 case atStart=>exact⟨0,y_,rfl,r_⟩
 case round=>
  obtain⟨k,hk,rfl,hB⟩:=hrel;by_cases hlt:k<l.length
  ·obtain⟨b1,rfl,hx1⟩:=H1 o_;obtain⟨b2,rfl,hx2⟩:=H2 o_;have d1:=hx1 k hlt;have d2:=hx2 k hlt;have e1:=(hB.cell (p:=⟨b1,k,none⟩) (b_ d1)).trans d1;have e2:=(hB.cell (p:=⟨b2,k,none⟩) (b_ d2)).trans d2;generalize l[k]=z at e1 e2;go_wp2_with fail;go_region
   go_wp2_with fail;go_roundw
   case rel=>exact⟨k+1,by omega,by go_num,hB.drew⟩
   case measure=>simp[RowKit.intOf];omega
  ·go_wp2;go_ret;exact⟨rfl,hB⟩
structure Tg (g:Nat) (w w':World):Prop where
 still:w'.os=w.os/\w'.tape=w.tape/\w'.output=w.output
 size:w'.heap.size=w.heap.size
 other : ∀b,b≠g->w'.heap[b]? = w.heap[b]?
theorem Tg.refl (g:Nat) (w:World):Tg g w w:=⟨⟨rfl,rfl,rfl⟩,rfl,λ_ _=>rfl⟩
theorem Tg.set (h:Tg g w w') (o:Nat) (v:Value):Tg g w (w'.setCell ⟨g,o,none⟩ v):=by
 have hs:Bl w' w':=r_;have hb0:=(Below.refl 0 w').setCell (p:=⟨g,o,none⟩) y_ v;refine⟨⟨hb0.os.trans h.still.1,hb0.tape.trans h.still.2.1,hb0.output.trans h.still.2.2⟩,by simpa using h.size,λb hb => ?_⟩;rw[<-h.other b hb];exact Below.heap_setCell _ _ _ b (λh=>hb (by simpa using h))
theorem Tg.below {B:Nat} (h:Tg g w w') (hg:B<=g):Below B w w':=
 ⟨h.still.1,h.still.2.1,h.still.2.2,Nat.le_of_eq h.size.symm,λk hk=>h.other k o_⟩
def mkI (q j:Nat):Value:=.int .i64 ((q+j:Nat):Int)
theorem markI_any (g n cap q:Nat) (w:World) (hn:n<=100000000) (hq:q<=100000000) (h : ∀j,j<n->(∃y,w.cell? ⟨g,j,none⟩=some y)/\w.frozen? ⟨g,j,none⟩=false) :
  Calls prog 15 #[.slice (some ⟨g,0,none⟩) n cap,.int .i64 q] w λe w'=>e=.returned (.int .i64 ((q+n:Nat):Int))/\Tg g w w'/\∀j,j<n->w'.cell? ⟨g,j,none⟩=some (mkI q j):=by
 have H:=hide h;clear h;go_enter func15,ntmps15;go_wp2_with fail;go_loopw [1,5] (λkk i wr=>∃k:Nat,k<=n/\i=.int .i64 k/\kk=.int .i64 ((q+k:Nat):Int)/\Tg g w wr/\(∀j,j<n->(∃y,wr.cell? ⟨g,j,none⟩=some y)/\wr.frozen? ⟨g,j,none⟩=false)/\∀j,j<k->wr.cell? ⟨g,j,none⟩=some (mkI q j)) (λ_ i _=>n-(RowKit.intOf i).toNat)
 case atStart=>exact⟨0,y_,rfl,rfl,Tg.refl _ _,H,λj hj=>absurd hj o_⟩
 case round=>
  obtain⟨k,hk,rfl,rfl,hT,hO,hM⟩:=hrel;obtain⟨HO,HM⟩:=h2 hO hM;by_cases hlt:k<n
  ·obtain⟨⟨y,hy⟩,hfz⟩:=HO k hlt;obtain⟨z,hz⟩ : ∃z:Int,z=((q+k:Nat):Int):=⟨_,rfl⟩;have HZ:=hide hz;rw[<-hz];have hz0:0<=z:=by omega
   have hz1:z<=200000000:=by omega
   clear hz;go_wp2_with fail;go_roundw
   case rel=>
    refine⟨k+1,by omega,by go_num,by rw[HZ.o];go_num,hT.set _ _,λj hj => ?_,λj hj => ?_⟩
    ·by_cases e:j=k
     ·subst e;exact⟨⟨_,World.cell?_setCell_same _ _ _ hy⟩,(World.frozen?_setCell _ _ _ _).trans hfz⟩
     ·obtain⟨⟨y',hy'⟩,hf'⟩:=HO j hj;exact⟨⟨y',by rw[s_ _ _ _ _ (by intro h;simp only[Addr.mk.injEq] at h;omega)];exact hy'⟩,(World.frozen?_setCell _ _ _ _).trans hf'⟩
    ·by_cases e:j=k
     ·subst e;rw[World.cell?_setCell_same _ _ _ hy,HZ.o];rfl
     ·rw[s_ _ _ _ _ (by intro h;simp only[Addr.mk.injEq] at h;omega)];exact HM j o_
   case measure=>simp[RowKit.intOf];omega
  ·obtain rfl:k=n:=by omega
   go_wp2;go_ret;exact⟨rfl,hT,HM⟩
theorem heldI_any (g n cap q:Nat) (w:World) (hn:n<=100000000) (hq:q<=100000000) (h : ∀j,j<n->w.cell? ⟨g,j,none⟩=some (mkI q j)) :
  Calls prog 45 #[.slice (some ⟨g,0,none⟩) n cap,.int .i64 q] w λe w'=>e=.returned (.int .i64 ((q+n:Nat):Int))/\Below w.heap.size w w':=by
 have H:=hide h;clear h;go_enter func45,ntmps45;go_wp2_with fail;go_loopw [1,5] (λkk i wr=>∃k:Nat,k<=n/\i=.int .i64 k/\kk=.int .i64 ((q+k:Nat):Int)/\wr=w) (λ_ i _=>n-(RowKit.intOf i).toNat)
 case atStart=>exact⟨0,y_,rfl,rfl,rfl⟩
 case round=>
  obtain⟨k,hk,rfl,rfl,rfl⟩:=hrel;by_cases hlt:k<n
  ·have hc:wr.cell? ⟨g,k,none⟩=some (.int .i64 ((q+k:Nat):Int)):=H k hlt;obtain⟨z,hz⟩ : ∃z:Int,z=((q+k:Nat):Int):=⟨_,rfl⟩;have HZ:=hide hz;rw[<-hz] at hc ⊢;have hz0:0<=z:=by omega
   have hz1:z<=200000000:=by omega
   clear hz;go_wp2_with fail;go_roundw
   case rel=>exact⟨k+1,by omega,by go_num,by rw[HZ.o];go_num,trivial⟩
   case measure=>simp[RowKit.intOf];omega
  ·obtain rfl:k=n:=by omega
   go_wp2;go_ret;exact⟨rfl,r_⟩
theorem rowi_cell {i:Nat} {cur:Array Value} {t:TypeId} (hg:w.heap[g]? = some (.cells cur t (0,0))) (hi:i<cur.size):w.cell? ⟨g,i,none⟩=some cur[i]/\w.frozen? ⟨g,i,none⟩=false:=by
 refine⟨?_,frozen_of_row w g i cur t hg⟩;rw[cell_of_row w g i cur t (0,0) hg];simp[hi]
def Mkd (w:World) (v:Value) (n:Nat):Prop:=(v=.slice none 0 0/\n=0)∨∃g cap,v=.slice (some ⟨g,0,none⟩) n cap/\∀j,j<n->w.cell? ⟨g,j,none⟩=some (mkI 1 j)
theorem markNil (w:World):Calls prog 15 #[.slice none 0 0,.int .i64 1] w λe w'=>e=.returned (.int .i64 1)/\w'=w:=by
 go_enter func15,ntmps15;go_wp2_with fail;refine wp_loop_rounds 1 ?_;rw[rounds_succ];go_wp2;go_ret;exact⟨rfl,rfl⟩
theorem heldNil (w:World):Calls prog 45 #[.slice none 0 0,.int .i64 1] w λe w'=>e=.returned (.int .i64 1)/\w'=w:=by
 go_enter func45,ntmps45;go_wp2_with fail;refine wp_loop_rounds 1 ?_;rw[rounds_succ];go_wp2;go_ret;exact⟨rfl,rfl⟩
theorem heldO_any {v:Value} {n:Nat} (hn:n<=100000000) (hM:Mkd w v n) :
  Calls prog 45 #[v,.int .i64 1] w λe w'=>e=.returned (.int .i64 ((1+n:Nat):Int))/\Below w.heap.size w w':=by
 rcases hM with ⟨rfl,rfl⟩|⟨g,cap,rfl,hM⟩
 ·refine (heldNil w).mono ?_;rintro e w' ⟨rfl,rfl⟩;exact⟨rfl,r_⟩
 ·exact heldI_any g n cap 1 w hn o_ hM
end
section
variable {w w':World} {b off cap:Nat} {ss:List St} {a:Option Addr}
def StmtsC (w:World) (b off:Nat) (ss:List St):Prop:=∀j (h:j<ss.length),∃ve vf,
 (w.cell? ⟨b,off+j*6,none⟩=some (.int .i64 ss[j].kind)/\w.cell? ⟨b,off+j*6+1,none⟩=some (.string ss[j].name)/\w.cell? ⟨b,off+j*6+2,none⟩=some ve/\w.cell? ⟨b,off+j*6+3,none⟩=some vf/\w.cell? ⟨b,off+j*6+4,none⟩=some (.int .i64 ss[j].thn)/\w.cell? ⟨b,off+j*6+5,none⟩=some (.int .i64 ss[j].els))/\Nodes w ve ss[j].e/\Nodes w vf ss[j].f
theorem StmtsC.below (h:StmtsC w b off ss) (hb:Below w.heap.size w w'):StmtsC w' b off ss:=by
 intro j hj;obtain⟨ve,vf,⟨c0,c1,c2,c3,c4,c5⟩,he,hf⟩:=h j hj;have hlt:=b_ c0;exact⟨ve,vf,⟨(hb.cell (p:=⟨b,off+j*6,none⟩) hlt).trans c0,(hb.cell (p:=⟨b,off+j*6+1,none⟩) hlt).trans c1,(hb.cell (p:=⟨b,off+j*6+2,none⟩) hlt).trans c2,(hb.cell (p:=⟨b,off+j*6+3,none⟩) hlt).trans c3,(hb.cell (p:=⟨b,off+j*6+4,none⟩) hlt).trans c4,(hb.cell (p:=⟨b,off+j*6+5,none⟩) hlt).trans c5⟩,he.below hb,hf.below hb⟩
def Stmts (w:World) (v:Value) (ss:List St):Prop:=∃a cap,v=.slice a ss.length cap/\ss.length<=cap/\cap<=9223372036854775807/\(0<ss.length->∃b off,a=some ⟨b,off,none⟩/\StmtsC w b off ss)
theorem Stmts.below {v:Value} (h:Stmts w v ss) (hb:Below w.heap.size w w'):Stmts w' v ss:=by
 obtain⟨a,cap,rfl,hl,hm,h⟩:=h;refine⟨a,cap,rfl,hl,hm,λh0 => ?_⟩;obtain⟨b,off,rfl,hc⟩:=h h0;exact⟨b,off,rfl,hc.below hb⟩
theorem StmtsC.up (h:StmtsC w b off ss) (j:Nat) (hj:j<ss.length) : ∃ve vf,((∀o,(w.alloc o).cell? ⟨b,off+j*6,none⟩=some (.int .i64 ss[j].kind))/\(∀o,(w.alloc o).cell? ⟨b,off+j*6+1,none⟩=some (.string ss[j].name))/\(∀o,(w.alloc o).cell? ⟨b,off+j*6+2,none⟩=some ve)/\(∀o,(w.alloc o).cell? ⟨b,off+j*6+3,none⟩=some vf)/\(∀o,(w.alloc o).cell? ⟨b,off+j*6+4,none⟩=some (.int .i64 ss[j].thn))/\(∀o,(w.alloc o).cell? ⟨b,off+j*6+5,none⟩=some (.int .i64 ss[j].els))) /\
  (w.cell? ⟨b,off+j*6,none⟩=some (.int .i64 ss[j].kind)/\w.cell? ⟨b,off+j*6+1,none⟩=some (.string ss[j].name)/\w.cell? ⟨b,off+j*6+2,none⟩=some ve/\w.cell? ⟨b,off+j*6+3,none⟩=some vf/\w.cell? ⟨b,off+j*6+4,none⟩=some (.int .i64 ss[j].thn)/\w.cell? ⟨b,off+j*6+5,none⟩=some (.int .i64 ss[j].els))/\Nodes w ve ss[j].e/\Nodes w vf ss[j].f:=by
 obtain⟨ve,vf,⟨c0,c1,c2,c3,c4,c5⟩,he,hf⟩:=h j hj;have hlt:=b_ c0;have hb : ∀o,Bl w (w.alloc o):=λo=>r_.alloc n_ o;exact⟨ve,vf,⟨λo=>((hb o).cell (p:=⟨b,off+j*6,none⟩) hlt).trans c0,λo=>((hb o).cell (p:=⟨b,off+j*6+1,none⟩) hlt).trans c1,λo=>((hb o).cell (p:=⟨b,off+j*6+2,none⟩) hlt).trans c2,λo=>((hb o).cell (p:=⟨b,off+j*6+3,none⟩) hlt).trans c3,λo=>((hb o).cell (p:=⟨b,off+j*6+4,none⟩) hlt).trans c4,λo=>((hb o).cell (p:=⟨b,off+j*6+5,none⟩) hlt).trans c5⟩,⟨c0,c1,c2,c3,c4,c5⟩,he,hf⟩
theorem Stmts.cut (h:Stmts w (.slice a ss.length cap) ss) (lo hi:Nat) (h1:lo<=hi) (h2:hi<=ss.length) :
  Stmts w (.slice (if cap=lo then a else a.map (·.add (lo*6))) (hi-lo) (cap-lo)) ((ss.take hi).drop lo):=by
 obtain⟨a',cap',he,hl,hm,h⟩:=h;simp only[Value.slice.injEq,true_and] at he;obtain⟨rfl,rfl⟩:=he;refine⟨if cap=lo then a else a.map (·.add (lo*6)),cap-lo,by simp[Nat.min_eq_left h2],by simp[Nat.min_eq_left h2];omega,by omega,λh0 => ?_⟩;simp only[List.length_drop,List.length_take,Nat.min_eq_left h2] at h0;obtain⟨b,off,rfl,hc⟩:=h o_;refine⟨b,off+lo*6,?_,λj hj => ?_⟩
 ·rw[if_neg o_];simp[Addr.add]
 ·simp only[List.length_drop,List.length_take,Nat.min_eq_left h2] at hj;obtain⟨ve,vf,hcc,he,hf⟩:=hc (lo+j) o_;have e:((ss.take hi).drop lo)[j]'(by simp;omega)=ss[lo+j]' o_:=by simp
  rw[e];refine⟨ve,vf,?_,he,hf⟩;have e1:off+lo*6+j*6=off+(lo+j)*6:=by omega
  rw[e1];exact hcc
theorem Stmts.head (h:Stmts w (.slice a ss.length cap) ss) (hi:Nat) (h2:hi<=ss.length):Stmts w (.slice a hi cap) (ss.take hi):=by
 have:=h.cut 0 hi y_ h2
 have e:(if cap=0 then a else a.map (·.add (0*6)))=a:=by
  split
  ·rfl
  ·cases a <;> simp[Addr.add]
 rw[e] at this;simpa using this
theorem cut_run (a:Option Addr) (n cap lo hi:Nat) (h1:lo<=hi) (h2:hi<=n) (h3:n<=cap) : ∀w:World,(Instr.slice 95 (.slice a n cap) (some (.int .i64 lo)) (some (.int .i64 ((lo:Int)+((hi-lo:Nat):Int)))) none).run prog w=.ok (.slice (if cap=lo then a else a.map (·.add (lo*6))) (hi-lo) (cap-lo)) w:=by
 intro w;have hz:prog.elem 95=132:=by kernel_rfl
 have hs:(sizeOf 132).run prog w=.ok 6 w:=by kernel_rfl
 rw[run_slice_lh w 95 a n cap (by rw[hz];exact underlying95) .i64 .i64 _ _ o_ o_ o_,hz,hs];simp only[Result.andThen,sliced,Int.toNat_natCast];have e:(((lo:Int)+((hi-lo:Nat):Int))).toNat=hi:=by omega
 rw[e]
theorem cut_run_l (a:Option Addr) (n cap lo:Nat) (h2:lo<=n) (h3:n<=cap) (l':Int) (hl':l'=lo) : ∀w:World,(Instr.slice 95 (.slice a n cap) (some (.int .i64 l')) none none).run prog w=.ok (.slice (if cap=lo then a else a.map (·.add (lo*6))) (n-lo) (cap-lo)) w:=by
 intro w;subst hl';have hz:prog.elem 95=132:=by kernel_rfl
 have hs:(sizeOf 132).run prog w=.ok 6 w:=by kernel_rfl
 rw[run_slice_l w 95 a n cap (by rw[hz];exact underlying95) .i64 _ o_ o_,hz,hs];simp only[Result.andThen,sliced,Int.toNat_natCast]
def lenOf:Value->Nat|.slice _ n _=>n|_=>0
theorem fit_any (n:Nat) : ∀(v:Value) (ss:List St) (w:World) (hn:ss.length<=n) (hl:ss.length<=1048576) (hc:Stmts w v ss),
  Calls prog 171 #[v] w λe w'=>e=.returned (.bool (fitB ss))/\Below w.heap.size w w':=by
 induction n with
 | zero=>
  intro v ss w hn hl hc;have:ss = []:=List.eq_nil_of_length_eq_zero o_
  subst this;obtain⟨a,cap,rfl,hcl,hcm,hc⟩:=hc;simp only[l_n] at *;clear hc;go_enter func171,ntmps171;go_wp2_with fail;refine wp_loop_rounds 1 ?_;rw[rounds_succ];go_wp2;go_ret;exact⟨rfl,r_⟩
 | succ n ih=>
 intro v ss w hn hl hc;obtain⟨IH,HN⟩:=h2 ih hc;obtain⟨a,cap,rfl,hcl,hcm,hc⟩:=hc;clear hc ih;go_enter func171,ntmps171;go_wp2_with fail;go_loopw [0] (λv wr=>∃ts,ts.length<=ss.length/\Stmts wr v ts/\fitB ss=fitB ts/\Bl w wr) (λv _=>lenOf v)
 case atStart=>exact⟨ss,n_,HN,rfl,r_⟩
 case round=>
  obtain⟨ts,htl,hts,hfit,hB⟩:=hrel;obtain⟨a,cap,rfl,hcl,hcm,hc⟩:=hts;have HF:=hide hfit;clear hfit;cases ts with
  | nil=>
   simp only[l_n];go_wp2;go_ret;exact⟨ret_bool HF.o.symm,hB⟩
  | cons s r=>
   obtain⟨b,off,rfl,hs⟩:=hc (by simp);obtain⟨ve,vf,⟨g0,g1,g2,g3,g4,g5⟩,⟨c0,c1,c2,c3,c4,c5⟩,he,hf⟩:=hs.up 0 (by simp);simp only[Nat.zero_mul,Nat.add_zero,List.getElem_cons_zero] at c0 c1 c2 c3 c4 c5 g0 g1 g2 g3 g4 g5;have hall:Stmts wr (.slice (some ⟨b,off,none⟩) (s::r).length cap) (s::r):=⟨_,_,rfl,hcl,hcm,λ_=>⟨b,off,rfl,hs⟩⟩;have hrest:Stmts wr (.slice (if cap=1 then some ⟨b,off,none⟩ else some ⟨b,off+6,none⟩) r.length (cap-1)) r:=by
    have:=hall.cut 1 (s::r).length (by simp) n_
    simpa[Addr.add] using this
   simp only[l_c] at *;have HR:=hide hrest;have h1:(1:Int)<=(r.length:Int)+1:=by omega
   have HC:Hid (fitB ss=(decide (0<=s.thn/\s.thn<=r.length/\0<=s.els/\s.els<=r.length-s.thn) && (fitB (r.take s.thn.toNat) && (fitB ((r.take (s.thn.toNat+s.els.toNat)).drop s.thn.toNat) && fitB (r.drop (s.thn.toNat+s.els.toNat)))))):=by
    show _=_;rw[HF.o,fitB_cons]
   obtain⟨a2,k2,rfl,-,-,-⟩:=he;obtain⟨a3,k3,rfl,-,-,-⟩:=hf;clear hs hc hall hrest HF;generalize s.kind=kI at c0 g0;generalize s.name=nI at c1 g1;generalize s.thn=tI at c4 g4 HC;generalize s.els=lI at c5 g5 HC;generalize (s::r)[0].e.length=n2 at c2 g2;generalize (s::r)[0].f.length=n3 at c3 g3;go_wp2_with fail;go_region
   generalize (if cap=1 then some ({block:=b,off:=off,spot:=none}:Addr) else some {block:=b,off:=off+6,spot:=none})=a1 at HR ⊢;generalize hk1:cap-1=k1 at HR ⊢;have hk1':r.length<=k1:=by omega
   have hk2':k1<=9223372036854775807:=by omega
   clear hk1 c0 c1 c2 c3 c4 c5 g0 g1 g2 g3 g4 g5 h1;have hB1:Bl w (wr.alloc (.cells #[.int .i64 kI,.string nI,.slice a2 n2 k2,.slice a3 n3 k3,.int .i64 tI,.int .i64 lI] 132)).drew:=(hB.alloc hB.size _).drew;by_cases q1:tI<0
   ·go_wp2;go_ret;exact⟨ret_bool (by rw[HC.o,decide_eq_false o_];rfl),hB1⟩
   by_cases q2:(r.length:Int)<tI
   ·go_wp2;go_ret;exact⟨ret_bool (by rw[HC.o,decide_eq_false o_];rfl),hB1⟩
   by_cases q3:lI<0
   ·go_wp2;go_ret;exact⟨ret_bool (by rw[HC.o,decide_eq_false o_];rfl),hB1⟩
   by_cases q4:(r.length:Int)-tI<lI
   ·go_wp2;go_ret;exact⟨ret_bool (by rw[HC.o,decide_eq_false o_];rfl),hB1⟩
   obtain⟨tn,rfl⟩:=Int.eq_ofNat_of_zero_le (show 0<=tI by omega);obtain⟨ln,rfl⟩:=Int.eq_ofNat_of_zero_le (show 0<=lI by omega);have hlt:tn<=r.length:=by omega
   have hlt2:tn+ln<=r.length:=by omega
   have HC1:Hid (fitB ss=(fitB (r.take tn) && (fitB ((r.take (tn+ln)).drop tn) && fitB (r.drop (tn+ln))))):=by
    show _=_;rw[HC.o,decide_eq_true o_];simp
   clear HC;go_wp2_with fail;have hbx:Bl wr (wr.alloc (.cells #[.int .i64 kI,.string nI,.slice a2 n2 k2,.slice a3 n3 k3,.int .i64 tn,.int .i64 ln] 132)).drew:=(bel_a _ _).drew;refine (IH.out _ (r.take tn) _ (by simp;omega) (by simp;omega) ((HR.o.below hbx).head tn o_)).mono ?_;rintro e w1 ⟨rfl,hb1⟩;have hb1':Below (wr.heap.size+1) (wr.alloc (.cells #[.int .i64 kI,.string nI,.slice a2 n2 k2,.slice a3 n3 k3,.int .i64 tn,.int .i64 ln] 132)) w1:=(r_.drew).trans (hb1.mono (by simp));have hB2:=hB.trans ((one_below hb1').mono hB.size);obtain⟨x0,x1,x2,x3,x4,x5⟩:=box6 hb1';clear hbx hb1 hB1;cases hf1:fitB (r.take tn)
   ·go_wp2;go_ret;exact⟨ret_bool (by rw[HC1.o,hf1];rfl),hB2⟩
   obtain⟨a5,k5,hr5,hs5⟩ : ∃a5 k5,(∀w:World,(Instr.slice 95 (.slice a1 r.length k1) (some (.int .i64 tn)) (some (.int .i64 ((tn:Int)+(ln:Int)))) none).run prog w=.ok (.slice a5 ln k5) w)/\Stmts wr (.slice a5 ln k5) ((r.take (tn+ln)).drop tn):=by
    have h:=cut_run a1 r.length k1 tn (tn+ln) o_ o_ o_;have h':=HR.o.cut tn (tn+ln) o_ o_;rw[show tn+ln-tn=ln by omega] at h h';exact⟨_,_,h,h'⟩
   have HS5:=hide hs5;clear hs5;go_wp2_with fail;have hbw:Bl wr w1:=one_below hb1';refine (IH.out _ ((r.take (tn+ln)).drop tn) _ (by simp;omega) (by simp;omega) (HS5.o.below hbw)).mono ?_;rintro e w2 ⟨rfl,hb2⟩;have hB3:=hB2.trans (hb2.mono hB2.size);have hbw2:=hbw.trans (hb2.mono hbw.size);clear x0 x1 x2 x3 x4 x5 hr5;cases hf2:fitB ((r.take (tn+ln)).drop tn)
   ·go_wp2;go_ret;exact⟨ret_bool (by rw[HC1.o,hf1,hf2];rfl),hB3⟩
   obtain⟨a6,k6,hr6,hs6⟩ : ∃a6 k6,(∀w:World,(Instr.slice 95 (.slice a1 r.length k1) (some (.int .i64 ((tn:Int)+(ln:Int)))) none none).run prog w=.ok (.slice a6 (r.length-(tn+ln)) k6) w)/\Stmts wr (.slice a6 (r.length-(tn+ln)) k6) (r.drop (tn+ln)):=by
    have h:=cut_run_l a1 r.length k1 (tn+ln) o_ o_ ((tn:Int)+(ln:Int)) o_;have h':=HR.o.cut (tn+ln) r.length o_ o_;rw[List.take_length] at h';exact⟨_,_,h,h'⟩
   have HS6:=hide hs6;clear hs6;go_wp2_with fail;go_roundw
   case rel=>exact⟨r.drop (tn+ln),by simp;omega,HS6.o.below hbw2,by rw[HC1.o,hf1,hf2];rfl,hB3⟩
   case measure=>simp[lenOf];omega
end
theorem gstmtX (k:Int) (s:ByteArray) (ve vf:Value) (es fs:List Nd) (t l:Int) (w:World) (hk:k<1∨8<k) (he:Nodes w ve es) (hf:Nodes w vf fs) :
  Calls prog 126 #[.agg #[.int .i64 k,.string s,ve,vf,.int .i64 t,.int .i64 l]] w λe w'=>e=.returned (.bool (gstmtB ⟨k,s,es,fs,t,l⟩))/\Below w.heap.size w w':=by
 obtain⟨ae,ce,rfl,-,-,-⟩:=he;obtain⟨af,cf,rfl,-,-,-⟩:=hf;have hd:decide (1<=k/\k<=8)=false:=by simp;omega
 have hs:gstmtB ⟨k,s,es,fs,t,l⟩=false:=by
  simp only[gstmtB,stmtB,hd,Bool.false_and]
 rw[hs];have h1:(k == 1)=false:=by simp;omega
 have h2:(k == 2)=false:=by simp;omega
 have h3:(k == 3)=false:=by simp;omega
 have HD:=hide hd;go_enter func126,ntmps126;go_wp2_with (go_at_call 30;refine (in_any _ _ _ _).mono ?_;rintro e w' ⟨rfl,rfl⟩;rw[HD.o])
 go_ret;exact⟨rfl,r_.alloc n_ _⟩
theorem gstmt_any (s:St) (ve vf:Value) (w:World) (hle:s.e.length<=2000) (hlf:s.f.length<=2000) (he:Nodes w ve s.e) (hf:Nodes w vf s.f) :
  Calls prog 126 #[.agg #[.int .i64 s.kind,.string s.name,ve,vf,.int .i64 s.thn,.int .i64 s.els]] w λe w'=>e=.returned (.bool (gstmtB s))/\Below w.heap.size w w':=by
 obtain⟨k,s,es,fs,t,l⟩:=s;by_cases hk:k<1∨8<k
 ·exact gstmtX k s ve vf es fs t l w hk he hf
 have h9:k=1∨k=2∨k=3∨k=4∨k=5∨k=6∨k=7∨k=8:=by omega
 rcases h9 with rfl|rfl|rfl|rfl|rfl|rfl|rfl|rfl
 ·exact gstmt1 1 (.inl rfl) s ve vf es fs t l w hle hlf he hf
 ·exact gstmt1 2 (.inr rfl) s ve vf es fs t l w hle hlf he hf
 ·exact gstmt3 s ve vf es fs t l w hle hlf he hf
 ·exact gstmt4 s ve vf es fs t l w hle hlf he hf
 ·exact gstmt5 s ve vf es fs t l w hle hlf he hf
 ·exact gstmt6 6 (.inl rfl) s ve vf es fs t l w hle hlf he hf
 ·exact gstmt6 7 (.inr rfl) s ve vf es fs t l w hle hlf he hf
 ·exact gstmt8 s ve vf es fs t l w hle hlf he hf
section
variable {l a b:List St} {s:St}
structure One (l:List St) (s:St) (a b:List St):Prop where
 is:l=s::(a++b)
 thn:s.thn=a.length
 els:s.els=b.length
theorem One.take (h:One l s a b) (rest:List St):(a++b++rest).take s.thn.toNat=a/\((a++b++rest).drop s.thn.toNat).take s.els.toNat=b/\(a++b++rest).drop (s.thn.toNat+s.els.toNat)=rest:=by
 have e1:s.thn.toNat=a.length:=by rw[h.thn];simp
 have e2:s.els.toNat=b.length:=by rw[h.els];simp
 rw[e1,e2];refine⟨by simp,by simp,?_⟩;rw[<-l_a];simp
end
theorem exprs_any (k t l:Int) (nm:ByteArray) (ae af:Option Addr) (ne ce nf cf:Nat) (w:World) :
  Calls prog 158 #[.agg #[.int .i64 k,.string nm,.slice ae ne ce,.slice af nf cf,.int .i64 t,.int .i64 l]] w λe w'=>e=.returned (.agg #[.slice ae ne ce,.slice af nf cf])/\Below w.heap.size w w':=by
 go_enter func158,ntmps158;go_wp2_with fail;exact bodyPost_ret (v:=.agg #[.slice ae ne ce,.slice af nf cf]) (by simp[results,results158,go_sem]) rfl ⟨rfl,(bel_a _ _).alloc (by simp) _⟩
theorem idx1 (u v:Value) (W:World):(Instr.index 244 (.agg #[u,v]) (.int .i64 ((1:Nat):Int))).run prog W=.ok v W:=by
 simp[Instr.index,go_sem]
theorem idx0 (u v:Value) (W:World):(Instr.index 244 (.agg #[u,v]) (.int .i64 ((0:Nat):Int))).run prog W=.ok u W:=by
 simp[Instr.index,go_sem]
section
variable {ss:List St}
theorem cut_run2 (a:Option Addr) (n cap lo hi:Nat) (h1:lo<=hi) (h2:hi<=n) (h3:n<=cap) (l' h':Int) (hl':l'=lo) (hh':h'=hi) : ∀w:World,(Instr.slice 95 (.slice a n cap) (some (.int .i64 l')) (some (.int .i64 h')) none).run prog w=.ok (.slice (if cap=lo then a else a.map (·.add (lo*6))) (hi-lo) (cap-lo)) w:=by
 intro w;have h:=cut_run a n cap lo hi h1 h2 h3 w;rw[show ((lo:Int)+((hi-lo:Nat):Int))=hi by omega] at h;rw[hl',hh'];exact h
def nonneg (ss:List St):Prop:=∀s∈ss,0<=s.thn/\0<=s.els
theorem nonneg.take (h:nonneg ss) (n:Nat):nonneg (ss.take n):=λs hs=>h s (List.mem_of_mem_take hs)
theorem nonneg.drop (h:nonneg ss) (n:Nat):nonneg (ss.drop n):=λs hs=>h s (List.mem_of_mem_drop hs)
theorem shaped_any (n:Nat) : ∀(v:Value) (ss:List St) (w:World) (hn:ss.length<=n) (hl:ss.length<=1048576) (hp:nonneg ss) (hc:Stmts w v ss),
  Calls prog 127 #[v] w λe w'=>e=.returned (.bool (fitB ss))/\Below w.heap.size w w':=by
 induction n with
 | zero=>
  intro v ss w hn hl hp hc;have:ss = []:=List.eq_nil_of_length_eq_zero o_
  subst this;obtain⟨a,cap,rfl,hcl,hcm,hc⟩:=hc;simp only[l_n] at *;clear hc hp;go_enter func127,ntmps127;go_wp2_with fail;refine wp_loop_rounds 1 ?_;rw[rounds_succ];go_wp2;go_ret;exact⟨rfl,r_⟩
 | succ n ih=>
 intro v ss w hn hl hp hc;obtain⟨IH,HP,HN⟩:=h3 ih hp hc;obtain⟨a,cap,rfl,hcl,hcm,hc⟩:=hc;have HC:=hide hc;go_enter func127,ntmps127;go_wp2_with fail;go_loopw [3] (λi wr=>∃k:Nat,k<=ss.length/\i=.int .i64 k/\fitB ss=fitB (ss.drop k)/\Bl w wr) (λi _=>ss.length-(RowKit.intOf i).toNat)
 case atStart=>exact⟨0,y_,rfl,rfl,r_⟩
 case round=>
  obtain⟨k,hk,rfl,hfit,hB⟩:=hrel;have HF:=hide hfit;clear hfit;by_cases hlt:k<ss.length
  case neg=>
   go_wp2;go_ret;exact⟨ret_bool (by rw[HF.o,List.drop_of_length_le o_];rfl),hB⟩
  case pos=>
   obtain⟨b,off,rfl,hs⟩:=HC o_;obtain⟨ve,vf,⟨c0,c1,c2,c3,c4,c5⟩,he,hf⟩:=(hs.below hB) k hlt;have HFC:Hid _:=(HF.o.trans (congrArg fitB (List.drop_eq_getElem_cons hlt))).trans (fitB_cons ss[k] (ss.drop (k+1)));have hnn:=HP ss[k] (g_ hlt);obtain⟨a2,k2,rfl,-,-,-⟩:=he;obtain⟨a3,k3,rfl,-,-,-⟩:=hf;generalize hr:ss.drop (k+1)=r at HFC;have hrl:r.length+k+1=ss.length:=by rw[<-hr];simp;omega
   generalize ss[k].kind=kI at c0;generalize ss[k].name=nI at c1;generalize ss[k].thn=tI at c4 HFC hnn;generalize ss[k].els=lI at c5 HFC hnn;generalize ss[k].e.length=n2 at c2;generalize ss[k].f.length=n3 at c3;obtain⟨tn,rfl⟩:=Int.eq_ofNat_of_zero_le hnn.1;obtain⟨ln,rfl⟩:=Int.eq_ofNat_of_zero_le hnn.2;clear hnn;obtain⟨HR,HRL⟩:=h2 hr hrl;have hB1:Bl w (wr.alloc (.cells #[.int .i64 kI,.string nI,.slice a2 n2 k2,.slice a3 n3 k3,.int .i64 tn,.int .i64 ln] 132)):=hB.alloc hB.size _;by_cases q2:(ss.length:Int)-k-1<tn
   ·clear hrl;go_wp2;go_ret;exact⟨ret_bool (by have:=HRL.o;rw[HFC.o,decide_eq_false o_];rfl),hB1⟩
   by_cases q4:(ss.length:Int)-k-1-tn<ln
   ·go_wp2;go_ret;exact⟨ret_bool (by have:=HRL.o;rw[HFC.o,decide_eq_false o_];rfl),hB1⟩
   have hlt2:k+1+tn+ln<=ss.length:=by omega
   have HC1:Hid (fitB ss=(fitB (r.take tn) && (fitB ((r.take (tn+ln)).drop tn) && fitB (r.drop (tn+ln))))):=by
    show _=_;rw[HFC.o,decide_eq_true o_];simp
   have HE1:Hid ((ss.take (k+1+tn)).drop (k+1)=r.take tn):=by
    show _=_;rw[<-HR.o,List.drop_take];congr 1;omega
   have HE2:Hid ((ss.take (k+1+tn+ln)).drop (k+1+tn)=(r.take (tn+ln)).drop tn):=by
    show _=_;rw[<-HR.o,List.drop_take,List.drop_take,List.drop_drop];congr 1;omega
   have HE3:Hid (ss.drop (k+1+tn+ln)=r.drop (tn+ln)):=by
    show _=_;rw[<-HR.o,List.drop_drop];congr 1;omega
   obtain⟨a5,k5,hr5,hs5⟩ : ∃a5 k5,(∀w:World,(Instr.slice 95 (.slice (some ⟨b,off,none⟩) ss.length cap) (some (.int .i64 ((k:Int)+1))) (some (.int .i64 ((k:Int)+1+(tn:Int)))) none).run prog w=.ok (.slice a5 tn k5) w)/\Stmts w (.slice a5 tn k5) (r.take tn):=by
    have h:=cut_run2 (some ⟨b,off,none⟩) ss.length cap (k+1) (k+1+tn) o_ o_ o_ ((k:Int)+1) ((k:Int)+1+(tn:Int)) o_ o_;have h':=HN.o.cut (k+1) (k+1+tn) o_ o_;rw[show k+1+tn-(k+1)=tn by omega] at h h';rw[HE1.o] at h';exact⟨_,_,h,h'⟩
   have HS5:=hide hs5;clear hs5 HFC hrl;go_wp2_with fail;refine (IH.out _ (r.take tn) _ (by have:=HRL.o;simp;omega) (by have:=HRL.o;simp;omega) (by rw[<-HR.o];exact (HP.o.drop _).take _) (HS5.o.below hB1)).mono ?_;rintro e w1 ⟨rfl,hb1⟩;have hb1':Below (wr.heap.size+1) (wr.alloc (.cells #[.int .i64 kI,.string nI,.slice a2 n2 k2,.slice a3 n3 k3,.int .i64 tn,.int .i64 ln] 132)) w1:=hb1.mono (by simp);have hB2:=hB.trans ((one_below hb1').mono hB.size);obtain⟨x0,x1,x2,x3,x4,x5⟩:=box6 hb1';cases hf1:fitB (r.take tn)
   ·go_wp2;go_ret;exact⟨ret_bool (by rw[HC1.o,hf1];rfl),hB2⟩
   obtain⟨a6,k6,hr6,hs6⟩ : ∃a6 k6,(∀w:World,(Instr.slice 95 (.slice (some ⟨b,off,none⟩) ss.length cap) (some (.int .i64 ((k:Int)+1+(tn:Int)))) (some (.int .i64 ((k:Int)+1+(tn:Int)+(ln:Int)))) none).run prog w=.ok (.slice a6 ln k6) w)/\Stmts w (.slice a6 ln k6) ((r.take (tn+ln)).drop tn):=by
    have h:=cut_run2 (some ⟨b,off,none⟩) ss.length cap (k+1+tn) (k+1+tn+ln) o_ o_ o_ ((k:Int)+1+(tn:Int)) ((k:Int)+1+(tn:Int)+(ln:Int)) o_ o_;have h':=HN.o.cut (k+1+tn) (k+1+tn+ln) o_ o_;rw[show k+1+tn+ln-(k+1+tn)=ln by omega] at h h';rw[HE2.o] at h';exact⟨_,_,h,h'⟩
   have HS6:=hide hs6;clear hs6;go_wp2_with fail;refine (IH.out _ ((r.take (tn+ln)).drop tn) _ (by have:=HRL.o;simp;omega) (by have:=HRL.o;simp;omega) (by rw[<-HR.o];exact ((HP.o.drop _).take _).drop _) (HS6.o.below hB2)).mono ?_;rintro e w2 ⟨rfl,hb2⟩;have hb2':=hb1'.trans (hb2.mono (by have:=hb1'.size;simp at this;omega));have hB3:=hB.trans ((one_below hb2').mono hB.size);obtain⟨x0,x1,x2,x3,x4,x5⟩:=box6 hb2';cases hf2:fitB ((r.take (tn+ln)).drop tn)
   ·go_wp2;go_ret;exact⟨ret_bool (by rw[HC1.o,hf1,hf2];rfl),hB3⟩
   go_wp2_with fail;go_roundw
   case rel=>exact⟨k+1+tn+ln,by omega,by go_num,by rw[HC1.o,hf1,hf2,HE3.o];rfl,hB3⟩
   case measure=>simp[RowKit.intOf];omega
end
section
variable {w w':World} {ps:List ByteArray}
def StrsC (w:World) (b off:Nat) (ps:List ByteArray):Prop:=∀j (h:j<ps.length),w.cell? ⟨b,off+j,none⟩=some (.string ps[j])
theorem StrsC.below {b off:Nat} (h:StrsC w b off ps) (hb:Below w.heap.size w w'):StrsC w' b off ps:=by
 intro j hj;have c:=h j hj;exact (hb.cell (b_ c)).trans c
def Strs (w:World) (v:Value) (ps:List ByteArray):Prop:=∃a cap,v=.slice a ps.length cap/\ps.length<=cap/\cap<=9223372036854775807/\(0<ps.length->∃b off,a=some ⟨b,off,none⟩/\StrsC w b off ps)
theorem Strs.below {v:Value} (h:Strs w v ps) (hb:Below w.heap.size w w'):Strs w' v ps:=by
 obtain⟨a,cap,rfl,hl,hm,h⟩:=h;refine⟨a,cap,rfl,hl,hm,λh0 => ?_⟩;obtain⟨b,off,rfl,hc⟩:=h h0;exact⟨b,off,rfl,hc.below hb⟩
theorem vfunc_any (f:Fu) (vp vb:Value) (w:World) (hT:Tab w) (hf:smallF f) (hp:Strs w vp f.params) (hb:Stmts w vb f.body) :
  Calls prog 135 #[.agg #[.string f.name,vp,vb]] w λe w'=>e=.returned (.bool (funcB f))/\Below w.heap.size w w':=by
 obtain⟨name,ps,ss⟩:=f;simp only at hp hb ⊢;obtain⟨HP,HS,HT,HF⟩:=h4 hp hb hT hf;have hpl:ps.length<=1048576:=HF.o.1;have hsl:ss.length<=1048576:=HF.o.2.1;obtain⟨ap,cp,rfl,-,-,hpc⟩:=hp;obtain⟨ab,cb,rfl,-,-,hbc⟩:=hb;obtain⟨HPC,HBC⟩:=h2 hpc hbc;go_enter func135,ntmps135;go_wp2_with fail;refine (vname_any _ _).mono ?_;rintro e w1 ⟨rfl,hb1⟩;simp only[World.size_alloc] at hb1;have hB1:=one_below hb1;obtain⟨x0,x1,x2⟩:=box3 hb1;cases hn:nameB name
 ·go_wp2;go_ret;exact⟨ret_bool (by simp only[funcB,hn,Bool.false_and]),hB1⟩
 by_cases h6:6<ps.length
 ·go_wp2;go_ret;exact⟨ret_bool (by simp only[funcB,hn,decide_eq_false (show ¬ps.length<=6 by omega),Bool.false_and,Bool.and_false]),hB1⟩
 by_cases h5:500<ss.length
 ·go_wp2;go_ret;exact⟨ret_bool (by simp only[funcB,hn,decide_eq_false (show ¬ss.length<=500 by omega),Bool.false_and,Bool.and_false]),hB1⟩
 have HFB:Hid (funcB ⟨name,ps,ss⟩=(ps.all nameB && (stmtsB stmtB ss && fitB ss))):=by
  show _=_;simp only[funcB,hn,decide_eq_true (show ps.length<=6 by omega),decide_eq_true (show ss.length<=500 by omega),Bool.true_and]
 go_wp2_with fail;go_loopw [27] (λi wr=>∃k:Nat,k<=ps.length/\i=.int .i64 k/\(∀s∈ps.take k,nameB s=true)/\Below (w.heap.size+1) (w.alloc (.cells #[.string name,.slice ap ps.length cp,.slice ab ss.length cb] 97)) wr) (λi _=>ps.length-(RowKit.intOf i).toNat)
 case atStart=>exact⟨0,y_,rfl,by simp,hb1⟩
 case round=>
  obtain⟨k,hk,rfl,hg,hB⟩:=hrel;have HG:=hide hg;have hBw:=one_below hB;by_cases hlt:k<ps.length
  ·obtain⟨b,off,rfl,hc⟩:=HPC o_;have d0:=(hc.below hBw) k hlt;have HE:Hid (ps.take (k+1)=ps.take k++[ps[k]]):=take_succ ps k hlt;have HX:Hid (nameB ps[k]=false->ps.all nameB=false):=all_bad hlt;generalize ps[k]=s at d0 HE HX;go_wp2_with fail;refine (vname_any _ _).mono ?_;rintro e w2 ⟨rfl,hb2⟩;have hB2:=hB.trans (hb2.mono (by have:=hB.size;simp at this;omega));cases hv:nameB s
   ·go_wp2;go_ret;exact⟨ret_bool (by rw[HFB.o,HX.o hv];rfl),one_below hB2⟩
   ·go_wp2_with fail;go_roundw
    case rel=>
     refine⟨k+1,by omega,by go_num,λm hm => ?_,hB2⟩;rw[HE.o] at hm;rcases List.mem_append.1 hm with hm|hm
     ·exact HG m hm
     ·rw[List.mem_singleton.1 hm];exact hv
    case measure=>simp[RowKit.intOf];omega
  ·have HA:Hid (ps.all nameB=true):=by
    show _=_;rw[List.all_eq_true];have:=HG.o
    rw[List.take_of_length_le o_] at this;exact this
   obtain⟨x0,x1,x2⟩:=box3 hB;go_wp2_with fail;go_loopw [5,38] (λq i wr=>∃k:Nat,k<=ss.length/\i=.int .i64 k/\q=.int .i64 (nodeSum (ss.take k):Nat)/\nodeSum (ss.take k)<=2000/\(∀s∈ss.take k,stmtB s=true)/\Below (w.heap.size+1) (w.alloc (.cells #[.string name,.slice ap ps.length cp,.slice ab ss.length cb] 97)) wr) (λ_ i _=>ss.length-(RowKit.intOf i).toNat)
   case atStart=>exact⟨0,y_,rfl,rfl,by simp[nodeSum],by simp,hB⟩
   case round=>
    obtain⟨k,hk,rfl,rfl,hq,hg,hB⟩:=hrel;have HG:=hide hg;have hBw:=one_below hB;by_cases hlt:k<ss.length
    ·obtain⟨b,off,rfl,hc⟩:=HBC o_;obtain⟨ve,vf,⟨c0,c1,c2,c3,c4,c5⟩,he,hf⟩:=(hc.below hBw) k hlt;have HE:Hid (ss.take (k+1)=ss.take k++[ss[k]]):=take_succ ss k hlt;have HX:Hid (stmtB ss[k]=false->stmtsB stmtB ss=false):=stmtsB_bad hlt;have HQ:Hid _:=nodeSum_step ss k hlt;have HY:Hid (2000<nodeSum (ss.take (k+1))->stmtsB stmtB ss=false):=stmtsB_sum;have hsm:=HF.o.2.2 ss[k] (g_ hlt);generalize ss[k]=s at c0 c1 c2 c3 c4 c5 he hf HE HX HQ hsm;generalize nodeSum (ss.take k)=q at hq HQ;obtain⟨HNE,HNF⟩:=h2 he hf;obtain⟨a2,k2,rfl,-,-,-⟩:=he;obtain⟨a3,k3,rfl,-,-,-⟩:=hf;have hs1:=hsm.1;have hs2:=hsm.2;by_cases hs:2000<q+(s.e.length+s.f.length)
     ·go_wp2;go_ret;exact⟨ret_bool (by rw[HFB.o,HY.o (by rw[HQ.o];omega)];simp),hBw.alloc hBw.size _⟩
     ·have hBx:Bl wr (wr.alloc (.cells #[.int .i64 s.kind,.string s.name,.slice a2 s.e.length k2,.slice a3 s.f.length k3,.int .i64 s.thn,.int .i64 s.els] 132)):=bel_a _ _;go_wp2_with fail;refine (vstmt_any s _ _ _ ((HT.o.below HT.o.size hBw).below (HT.o.below HT.o.size hBw).size hBx) hs1 hs2 (HNE.o.below hBx) (HNF.o.below hBx)).mono ?_;rintro e w2 ⟨rfl,hb2⟩;have hBx2:=hBx.trans (hb2.mono hBx.size);have hB2:=hB.trans (hBx2.mono (by have:=hB.size;simp at this;omega));cases hv:stmtB s
      ·go_wp2;go_ret;exact⟨ret_bool (by rw[HFB.o,HX.o hv];simp),one_below hB2⟩
      ·go_wp2_with fail;go_roundw
       case rel=>
        refine⟨k+1,by omega,by go_num,?_,by rw[HQ.o];omega,λm hm => ?_,hB2⟩
        ·rw[HQ.o];congr 1;omega
        ·rw[HE.o] at hm;rcases List.mem_append.1 hm with hm|hm
         ·exact HG m hm
         ·rw[List.mem_singleton.1 hm];exact hv
       case measure=>simp[RowKit.intOf];omega
    ·have HA2:Hid (stmtsB stmtB ss=true):=by
      show _=_;have h1:=HG;rw[List.take_of_length_le o_] at h1 hq;exact stmtsB_ok hq h1
     obtain⟨x0,x1,x2⟩:=box3 hB;go_wp2_with fail;refine (fit_any ss.length _ ss _ n_ hsl (HS.o.below hBw)).mono ?_;rintro e w2 ⟨rfl,hb2⟩;go_wp2;go_ret;exact⟨ret_bool (by rw[HFB.o,HA.o,HA2.o];rfl),hBw.trans (hb2.mono hBw.size)⟩
end
theorem gfunc_any (f:Fu) (vp vb:Value) (w:World) (hf:smallF f) (hp:Strs w vp f.params) (hb:Stmts w vb f.body) :
  Calls prog 88 #[.agg #[.string f.name,vp,vb]] w λe w'=>e=.returned (.bool (funcB f))/\Below w.heap.size w w':=by
 obtain⟨name,ps,ss⟩:=f;simp only at hp hb ⊢;obtain⟨HP,HS,HF⟩:=h3 hp hb hf;have hpl:ps.length<=1048576:=HF.o.1;have hsl:ss.length<=1048576:=HF.o.2.1;obtain⟨ap,cp,rfl,-,-,hpc⟩:=hp;obtain⟨ab,cb,rfl,-,-,hbc⟩:=hb;obtain⟨HPC,HBC⟩:=h2 hpc hbc;go_enter func88,ntmps88;go_wp2_with fail;refine (name_any _ _).mono ?_;rintro e w1 ⟨rfl,rfl⟩;have hb1:Below (w.heap.size+1) (w.alloc (.cells #[.string name,.slice ap ps.length cp,.slice ab ss.length cb] 97)) (w.alloc (.cells #[.string name,.slice ap ps.length cp,.slice ab ss.length cb] 97)):=r_;have hB1:=one_below hb1;obtain⟨x0,x1,x2⟩:=box3 hb1;cases hn:nameB name
 ·go_wp2;go_ret;exact⟨ret_bool (by simp only[funcB,hn,Bool.false_and]),hB1⟩
 by_cases h6:6<ps.length
 ·go_wp2;go_ret;exact⟨ret_bool (by simp only[funcB,hn,decide_eq_false (show ¬ps.length<=6 by omega),Bool.false_and,Bool.and_false]),hB1⟩
 by_cases h5:500<ss.length
 ·go_wp2;go_ret;exact⟨ret_bool (by simp only[funcB,hn,decide_eq_false (show ¬ss.length<=500 by omega),Bool.false_and,Bool.and_false]),hB1⟩
 have HFB:Hid (funcB ⟨name,ps,ss⟩=(ps.all nameB && (stmtsB gstmtB ss && fitB ss))):=by
  show _=_;rw[gstmts_fit];simp only[funcB,hn,decide_eq_true (show ps.length<=6 by omega),decide_eq_true (show ss.length<=500 by omega),Bool.true_and]
 go_wp2_with fail;go_loopw [3] (λi wr=>∃k:Nat,k<=ps.length/\i=.int .i64 k/\(∀s∈ps.take k,nameB s=true)/\Below (w.heap.size+1) (w.alloc (.cells #[.string name,.slice ap ps.length cp,.slice ab ss.length cb] 97)) wr) (λi _=>ps.length-(RowKit.intOf i).toNat)
 case atStart=>exact⟨0,y_,rfl,by simp,hb1⟩
 case round=>
  obtain⟨k,hk,rfl,hg,hB⟩:=hrel;have HG:=hide hg;have hBw:=one_below hB;by_cases hlt:k<ps.length
  ·obtain⟨b,off,rfl,hc⟩:=HPC o_;have d0:=(hc.below hBw) k hlt;have HE:Hid (ps.take (k+1)=ps.take k++[ps[k]]):=take_succ ps k hlt;have HX:Hid (nameB ps[k]=false->ps.all nameB=false):=all_bad hlt;generalize ps[k]=s at d0 HE HX;obtain⟨x0,x1,x2⟩:=box3 hB;have hB2:=hB;cases hv:nameB s
   ·go_wp2_with (go_at_call 87;refine (name_any _ _).mono ?_;rintro e w' ⟨rfl,rfl⟩;rw[hv])
    go_ret;exact⟨ret_bool (by rw[HFB.o,HX.o hv];rfl),one_below hB2⟩
   ·go_wp2_with (go_at_call 87;refine (name_any _ _).mono ?_;rintro e w' ⟨rfl,rfl⟩;rw[hv])
    go_roundw
    case rel=>
     refine⟨k+1,by omega,by go_num,λm hm => ?_,hB2⟩;rw[HE.o] at hm;rcases List.mem_append.1 hm with hm|hm
     ·exact HG m hm
     ·rw[List.mem_singleton.1 hm];exact hv
    case measure=>simp[RowKit.intOf];omega
  ·have HA:Hid (ps.all nameB=true):=by
    show _=_;rw[List.all_eq_true];have:=HG.o
    rw[List.take_of_length_le o_] at this;exact this
   obtain⟨x0,x1,x2⟩:=box3 hB;go_wp2_with fail;go_loopw [4,5] (λq i wr=>∃k:Nat,k<=ss.length/\i=.int .i64 k/\q=.int .i64 (nodeSum (ss.take k):Nat)/\nodeSum (ss.take k)<=2000/\(∀s∈ss.take k,gstmtB s=true)/\Below (w.heap.size+1) (w.alloc (.cells #[.string name,.slice ap ps.length cp,.slice ab ss.length cb] 97)) wr) (λ_ i _=>ss.length-(RowKit.intOf i).toNat)
   case atStart=>exact⟨0,y_,rfl,rfl,by simp[nodeSum],by simp,hB⟩
   case round=>
    obtain⟨k,hk,rfl,rfl,hq,hg,hB⟩:=hrel;have HG:=hide hg;have hBw:=one_below hB;by_cases hlt:k<ss.length
    ·obtain⟨b,off,rfl,hc⟩:=HBC o_;obtain⟨ve,vf,⟨c0,c1,c2,c3,c4,c5⟩,he,hf⟩:=(hc.below hBw) k hlt;have HE:Hid (ss.take (k+1)=ss.take k++[ss[k]]):=take_succ ss k hlt;have HX:Hid (gstmtB ss[k]=false->stmtsB gstmtB ss=false):=stmtsB_bad hlt;have HQ:Hid _:=nodeSum_step ss k hlt;have HY:Hid (2000<nodeSum (ss.take (k+1))->stmtsB gstmtB ss=false):=stmtsB_sum;have hsm:=HF.o.2.2 ss[k] (g_ hlt);generalize ss[k]=s at c0 c1 c2 c3 c4 c5 he hf HE HX HQ hsm;generalize nodeSum (ss.take k)=q at hq HQ;obtain⟨HNE,HNF⟩:=h2 he hf;obtain⟨a2,k2,rfl,-,-,-⟩:=he;obtain⟨a3,k3,rfl,-,-,-⟩:=hf;have hs1:=hsm.1;have hs2:=hsm.2;obtain⟨x0,x1,x2⟩:=box3 hB;go_wp2_with fail;go_quiet (fail)
     have hBq:Below (w.heap.size+1) (w.alloc (.cells #[.string name,.slice ap ps.length cp,.slice (some ⟨b,off,none⟩) ss.length cb] 97)) (wr.drewN nq):=below_drewN hB nq;have hBwq:=one_below hBq;have hBy:Bl wr (wr.drewN nq):=below_drewN r_ nq;by_cases hs:2000<q+s.e.length+s.f.length
     ·go_wp2;go_ret;exact⟨ret_bool (by rw[HFB.o,HY.o (by rw[HQ.o];omega)];simp),hBwq⟩
     ·go_wp2_with fail;refine (gstmt_any s _ _ _ o_ o_ (HNE.o.below hBy) (HNF.o.below hBy)).mono ?_;rintro e w2 ⟨rfl,hb2⟩;have hB2:=hBq.trans (hb2.mono (by have:=hBq.size;simp at this;simp;omega));cases hv:gstmtB s
      ·go_wp2;go_ret;exact⟨ret_bool (by rw[HFB.o,HX.o hv];simp),one_below hB2⟩
      ·go_wp2_with fail;go_roundw
       case rel=>
        refine⟨k+1,by omega,by go_num,?_,by rw[HQ.o];omega,λm hm => ?_,hB2⟩
        ·rw[HQ.o];congr 1
        ·rw[HE.o] at hm;rcases List.mem_append.1 hm with hm|hm
         ·exact HG m hm
         ·rw[List.mem_singleton.1 hm];exact hv
       case measure=>simp[RowKit.intOf];omega
    ·have HA2:Hid (stmtsB gstmtB ss=true):=by
      show _=_;have h1:=HG;rw[List.take_of_length_le o_] at h1 hq;exact stmtsB_ok hq h1
     have HNN:Hid (nonneg ss):=by
      have h1:=HG;rw[List.take_of_length_le o_] at h1;exact gstmts_nonneg h1
     obtain⟨x0,x1,x2⟩:=box3 hB;go_wp2_with fail;refine (shaped_any ss.length _ ss _ n_ hsl HNN (HS.o.below hBw)).mono ?_;rintro e w2 ⟨rfl,hb2⟩;go_wp2;go_ret;exact⟨ret_bool (by rw[HFB.o,HA.o,HA2.o];rfl),hBw.trans (hb2.mono hBw.size)⟩
section
variable {w w':World} {b off:Nat} {gs:List Gl} {v:Value} {fs:List Fu}
def GlobsC (w:World) (b off:Nat) (gs:List Gl):Prop:=∀j (h:j<gs.length),w.cell? ⟨b,off+j*2,none⟩=some (.string gs[j].name)/\w.cell? ⟨b,off+j*2+1,none⟩=some (.int .i64 gs[j].size)
theorem GlobsC.below (h:GlobsC w b off gs) (hb:Below w.heap.size w w'):GlobsC w' b off gs:=by
 intro j hj;obtain⟨c0,c1⟩:=h j hj;have hlt:=b_ c0;exact⟨(hb.cell (p:=⟨b,off+j*2,none⟩) hlt).trans c0,(hb.cell (p:=⟨b,off+j*2+1,none⟩) hlt).trans c1⟩
def Globs (w:World) (v:Value) (gs:List Gl):Prop:=∃a cap,v=.slice a gs.length cap/\gs.length<=cap/\cap<=9223372036854775807/\(0<gs.length->∃b off,a=some ⟨b,off,none⟩/\GlobsC w b off gs)
theorem Globs.below (h:Globs w v gs) (hb:Below w.heap.size w w'):Globs w' v gs:=by
 obtain⟨a,cap,rfl,hl,hm,h⟩:=h;refine⟨a,cap,rfl,hl,hm,λh0 => ?_⟩;obtain⟨b,off,rfl,hc⟩:=h h0;exact⟨b,off,rfl,hc.below hb⟩
def FuncsC (w:World) (b off:Nat) (fs:List Fu):Prop:=∀j (h:j<fs.length),∃vp vb,(w.cell? ⟨b,off+j*3,none⟩=some (.string fs[j].name)/\w.cell? ⟨b,off+j*3+1,none⟩=some vp/\w.cell? ⟨b,off+j*3+2,none⟩=some vb)/\Strs w vp fs[j].params/\Stmts w vb fs[j].body
theorem FuncsC.below (h:FuncsC w b off fs) (hb:Below w.heap.size w w'):FuncsC w' b off fs:=by
 intro j hj;obtain⟨vp,vb,⟨c0,c1,c2⟩,hp,hs⟩:=h j hj;have hlt:=b_ c0;exact⟨vp,vb,⟨(hb.cell (p:=⟨b,off+j*3,none⟩) hlt).trans c0,(hb.cell (p:=⟨b,off+j*3+1,none⟩) hlt).trans c1,(hb.cell (p:=⟨b,off+j*3+2,none⟩) hlt).trans c2⟩,hp.below hb,hs.below hb⟩
def Funcs (w:World) (v:Value) (fs:List Fu):Prop:=∃a cap,v=.slice a fs.length cap/\fs.length<=cap/\cap<=9223372036854775807/\(0<fs.length->∃b off,a=some ⟨b,off,none⟩/\FuncsC w b off fs)
theorem Funcs.below (h:Funcs w v fs) (hb:Below w.heap.size w w'):Funcs w' v fs:=by
 obtain⟨a,cap,rfl,hl,hm,h⟩:=h;refine⟨a,cap,rfl,hl,hm,λh0 => ?_⟩;obtain⟨b,off,rfl,hc⟩:=h h0;exact⟨b,off,rfl,hc.below hb⟩
theorem box2 {t:TypeId} {x y:Value} (h:Below (w.heap.size+1) (w.alloc (.cells #[x,y] t)) w') :
  w'.cell? ⟨w.heap.size,0,none⟩=some x/\w'.cell? ⟨w.heap.size,1,none⟩=some y:=by
 refine⟨?_,?_⟩ <;> (rw[h.cell (by simp)];simp)
theorem vglob_any (g:Gl) (w:World):Calls prog 134 #[.agg #[.string g.name,.int .i64 g.size]] w λe w'=>e=.returned (.bool (globB g))/\Below w.heap.size w w':=by
 obtain⟨s,z⟩:=g;simp only;go_enter func134,ntmps134;go_wp2_with fail;refine (vname_any _ _).mono ?_;rintro e w1 ⟨rfl,hb1⟩;simp only[World.size_alloc] at hb1;have hB1:=one_below hb1;obtain⟨x0,x1⟩:=box2 hb1;cases hn:nameB s
 ·go_wp2;go_ret;exact⟨ret_bool (by simp only[globB,hn,Bool.false_and]),hB1⟩
 by_cases h0:z<0
 ·go_wp2;go_ret;exact⟨ret_bool (by simp only[globB,hn];simp;omega),hB1⟩
 ·go_wp2;go_ret;refine⟨ret_bool ?_,hB1⟩;simp only[globB,hn,Bool.true_and];apply Bool.eq_iff_iff.2;simp <;> omega
theorem vtree_any (t:Tr) (vg vf:Value) (w:World) (hT:Tab w) (ht:smallT t) (hg:Globs w vg t.globals) (hf:Funcs w vf t.funcs) :
  Calls prog 103 #[.agg #[vg,vf]] w λe w'=>e=.returned (.bool (treeB t))/\Below w.heap.size w w':=by
 obtain⟨gs,fs⟩:=t;simp only at hg hf ⊢;obtain⟨HT,HS⟩:=h2 hT ht;have hgl:gs.length<=1048576:=HS.o.1;have hfl:fs.length<=1048576:=HS.o.2.1;obtain⟨ag,cg,rfl,-,-,hgc⟩:=hg;obtain⟨af,cf,rfl,-,-,hfc⟩:=hf;obtain⟨HGC,HFC⟩:=h2 hgc hfc;by_cases h5:50<gs.length
 ·go_enter func103,ntmps103;go_wp2;go_ret;exact⟨ret_bool (by simp only[treeB,decide_eq_false (show ¬gs.length<=50 by omega),Bool.false_and]),r_.alloc n_ _⟩
 by_cases h6:50<fs.length
 ·go_enter func103,ntmps103;go_wp2;go_ret;exact⟨ret_bool (by simp only[treeB,decide_eq_false (show ¬fs.length<=50 by omega),Bool.false_and,Bool.and_false]),r_.alloc n_ _⟩
 have HTB:Hid (treeB ⟨gs,fs⟩=(gs.all globB && fs.all funcB)):=by
  show _=_;simp only[treeB,decide_eq_true (show gs.length<=50 by omega),decide_eq_true (show fs.length<=50 by omega),Bool.true_and]
 go_enter func103,ntmps103;go_wp2_with fail;go_loopw [20] (λi wr=>∃k:Nat,k<=gs.length/\i=.int .i64 k/\(∀g∈gs.take k,globB g=true)/\Below (w.heap.size+1) (w.alloc (.cells #[.slice ag gs.length cg,.slice af fs.length cf] 34)) wr) (λi _=>gs.length-(RowKit.intOf i).toNat)
 case atStart=>exact⟨0,y_,rfl,by simp,r_⟩
 case round=>
  obtain⟨k,hk,rfl,hg,hB⟩:=hrel;have HG:=hide hg;have hBw:=one_below hB;by_cases hlt:k<gs.length
  ·obtain⟨b,off,rfl,hc⟩:=HGC o_;obtain⟨d0,d1⟩:=(hc.below hBw) k hlt;have HE:Hid (gs.take (k+1)=gs.take k++[gs[k]]):=take_succ gs k hlt;have HX:Hid (globB gs[k]=false->gs.all globB=false):=allG_bad hlt;generalize gs[k]=g at d0 d1 HE HX;go_wp2_with fail;refine (vglob_any g _).mono ?_;rintro e w2 ⟨rfl,hb2⟩;have hB2:=(hB.alloc (by have:=hB.size;simp at this;omega) (.cells #[.string g.name,.int .i64 g.size] 63)).trans (hb2.mono (by have:=hB.size;simp at this;simp;omega));cases hv:globB g
   ·go_wp2;go_ret;exact⟨ret_bool (by rw[HTB.o,HX.o hv];rfl),one_below hB2⟩
   ·go_wp2_with fail;go_roundw
    case rel=>
     refine⟨k+1,by omega,by go_num,λm hm => ?_,hB2⟩;rw[HE.o] at hm;rcases List.mem_append.1 hm with hm|hm
     ·exact HG m hm
     ·rw[List.mem_singleton.1 hm];exact hv
    case measure=>simp[RowKit.intOf];omega
  ·have HA:Hid (gs.all globB=true):=by
    show _=_;rw[List.all_eq_true];have:=HG.o
    rw[List.take_of_length_le o_] at this;exact this
   obtain⟨x0,x1⟩:=box2 hB;go_wp2_with fail;go_loopw [31] (λi wr=>∃k:Nat,k<=fs.length/\i=.int .i64 k/\(∀f∈fs.take k,funcB f=true)/\Below (w.heap.size+1) (w.alloc (.cells #[.slice ag gs.length cg,.slice af fs.length cf] 34)) wr) (λi _=>fs.length-(RowKit.intOf i).toNat)
   case atStart=>exact⟨0,y_,rfl,by simp,hB⟩
   case round=>
    obtain⟨k,hk,rfl,hg,hB⟩:=hrel;have HG:=hide hg;have hBw:=one_below hB;by_cases hlt:k<fs.length
    ·obtain⟨b,off,rfl,hc⟩:=HFC o_;obtain⟨vp,vb,⟨d0,d1,d2⟩,hp,hs⟩:=(hc.below hBw) k hlt;have HE:Hid (fs.take (k+1)=fs.take k++[fs[k]]):=take_succ fs k hlt;have HX:Hid (funcB fs[k]=false->fs.all funcB=false):=allF_bad hlt;have HSM:Hid (smallF fs[k]):=HS.o.2.2 fs[k] (g_ hlt);generalize fs[k]=f at d0 d1 d2 HE HX HSM hp hs;obtain⟨HP,HB⟩:=h2 hp hs;obtain⟨a2,k2,rfl,-,-,-⟩:=hp;obtain⟨a3,k3,rfl,-,-,-⟩:=hs;have hBx:Bl wr (wr.alloc (.cells #[.string f.name,.slice a2 f.params.length k2,.slice a3 f.body.length k3] 97)):=bel_a _ _;go_wp2_with fail;refine (vfunc_any f _ _ _ ((HT.o.below HT.o.size hBw).below (HT.o.below HT.o.size hBw).size hBx) HSM (HP.o.below hBx) (HB.o.below hBx)).mono ?_;rintro e w2 ⟨rfl,hb2⟩;have hBx2:=hBx.trans (hb2.mono hBx.size);have hB2:=hB.trans (hBx2.mono (by have:=hB.size;simp at this;omega));cases hv:funcB f
     ·go_wp2;go_ret;exact⟨ret_bool (by rw[HTB.o,HX.o hv];simp),one_below hB2⟩
     ·go_wp2_with fail;go_roundw
      case rel=>
       refine⟨k+1,by omega,by go_num,λm hm => ?_,hB2⟩;rw[HE.o] at hm;rcases List.mem_append.1 hm with hm|hm
       ·exact HG m hm
       ·rw[List.mem_singleton.1 hm];exact hv
      case measure=>simp[RowKit.intOf];omega
    ·have HA2:Hid (fs.all funcB=true):=by
      show _=_;rw[List.all_eq_true];have:=HG.o
      rw[List.take_of_length_le o_] at this;exact this
     go_wp2;go_ret;exact⟨ret_bool (by rw[HTB.o,HA.o,HA2.o];rfl),hBw⟩
end
section
variable {w:World} {v:Value} {us:List ByteArray} {B:Nat}
theorem info_str:(prog.info? 9).map (λi=>(i.zero,i.size,i.bytes))=some (some (.string ⟨#[]⟩),1,16):=by kernel_rfl
def SSrc (w:World) (v:Value) (us:List ByteArray):Prop:=∃a cap,v=.slice a us.length cap/\(a=none->us = [])/\∀ad,a=some ad->∀j u,(us.map Value.string)[j]? = some u->w.cell? (ad.add j)=some u
theorem addr_addK (b o j:Nat):(⟨b,o,none⟩:Addr).add j=⟨b,o+j,none⟩:=by simp only[Addr.add];split <;> simp_all
theorem Strs.src (h:Strs w v us):SSrc w v us:=by
 obtain⟨a,cap,rfl,-,-,h⟩:=h;by_cases hp:0<us.length
 ·obtain⟨b,off,rfl,hc⟩:=h hp;refine⟨_,cap,rfl,(λh=>by cases h),λad had j u hj => ?_⟩;obtain rfl:=Option.some.inj had;have hl:j<us.length:=by
   have:=(List.getElem?_eq_some_iff.1 hj).1
   simpa using this
  have e:u=.string us[j]:=by simpa[hl] using hj.symm
  rw[addr_addK,e];exact hc j hl
 ·have h0:us = []:=List.eq_nil_of_length_eq_zero o_;subst h0;exact⟨a,cap,rfl,λ_=>rfl,λad _ j u hj=>by simp at hj⟩
theorem ssrc_1 (w:World) (x:ByteArray) (t:TypeId):SSrc (w.alloc (.cells #[.string x] t)) (.slice (some ⟨w.heap.size,0,none⟩) 1 1) [x]:=by
 refine⟨_,1,rfl,(λh=>by cases h),λad h j u hj => ?_⟩;obtain rfl:=Option.some.inj h;have hl:j=0:=by
  have:=(List.getElem?_eq_some_iff.1 hj).1
  simp at this;omega
 subst hl;simp at hj;rw[addr_addK,<-hj];simp
def SRow (B:Nat) (w:World) (v:Value) (us:List ByteArray):Prop:=w.ownsRow B 9 1 v us.length (us.map (Value.string))
theorem SRow.shape (h:SRow B w v us) : ∃a c,v=.slice a us.length c:=by
 rcases h.2 with ⟨rfl,hz⟩|⟨g,cap,cur,rfl,_⟩
 ·exact⟨none,0,by rw[hz]⟩
 ·exact⟨_,cap,rfl⟩
theorem SRow.below {w':World} (h:SRow B w v us) (hb:Below w.heap.size w w'):SRow B w' v us:=by
 obtain⟨g1,g2⟩:=h;refine⟨g1,?_⟩;rcases g2 with g2|⟨g,cap,cur,rfl,g3,g4,g5⟩
 ·exact .inl g2
 ·refine .inr ⟨g,cap,cur,rfl,g3,?_,g5⟩;rw[hb.block g (Array.getElem?_eq_some_iff.1 g4).1];exact g4
theorem srow_lit (W:World) (B:Nat) (hB:B<=W.heap.size):SRow B (W.alloc (.cells #[] 9)) (.slice (some ⟨W.heap.size,0,none⟩) 0 0) []:=World.ownsRow_lit W #[] 0 hB (by decide) rfl
theorem run_appS (base:Nat) (ty:TypeId) (v:Value) (xs:List ByteArray) (hown:SRow base w v xs) (x:Value) (us:List ByteArray) (hx:SSrc w x us) (hm:xs.length+us.length<=10000000) (hbase:base<=w.heap.size) :
  ∃v' w',(Builtin.append_ #[94,94] ty #[v,x]).run prog w=.ok v' w'/\SRow base w' v' (xs++us)/\w.grownBy w' v.ownBlock/\∀k,v'.ownBlock=some k->v.ownBlock=some k∨w.heap.size<=k:=by
 obtain⟨i0,hi,hz0,hz1,hz2⟩:=info_parts info_str;obtain⟨a,cap,rfl,h2,h3⟩:=hx;cases a with
 | none=>
  obtain rfl:=h2 rfl;have hr:(Builtin.append_ #[94,94] ty #[v,.slice none ([]:List ByteArray).length cap]).run prog w=.ok v w:=by
   rcases hown.2 with ⟨rfl,hn⟩|⟨g,cap',cur,rfl,_,_,hnc,_⟩
   ·simp[Builtin.append_,run_underlying underlying94,sizeOf,typeInfo,hi,Builtin.lenOf,Builtin.firstCells]
   ·simp[Builtin.append_,run_underlying underlying94,sizeOf,typeInfo,hi,Builtin.lenOf,Builtin.firstCells,hnc,storeCells]
  exact⟨v,w,hr,by simpa using hown,⟨rfl,rfl,rfl,n_,λ_ _ _=>rfl⟩,λk hk=>.inl hk⟩
 | some ad=>
  obtain⟨v',w',r1,r2,r3,r4⟩:=app_freshG (P:=prog) (w:=w) base 94 ty 9 i0 _ 1 16 underlying94 hi hz0 hz1 hz2 rfl (by decide) v xs.length (xs.map (Value.string)) hown ad us.length cap (us.map (Value.string)) (by simp) (h3 ad rfl) (by intro u hu;simp at hu;obtain⟨y,_,rfl⟩:=hu;rfl) hm (by decide) hbase;refine⟨v',w',r1,?_,r3,r4⟩;unfold SRow;rw[l_a,List.map_append];exact r2
theorem step_appS {ops:Array Oper} {o:Oper} {a:Act} {K:Act->World->Prop} {Q:Exit->Act->World->Prop} {E:Prop} (hgd:o.guard=none) (s x:Operand)
  (ho:o.op=.call {callee:=.builtin .append,args:=#[s,x],argTypes:=#[94,94]})
  (base:Nat) (v:Value) (xs:List ByteArray) (hs:a.eval s=v) (hown:SRow base w v xs) (xv:Value) (us:List ByteArray) (hxv:a.eval x=xv) (hx:SSrc w xv us)
  (hm:xs.length+us.length<=10000000) (hbase:base<=w.heap.size)
  (h : ∀v' w',SRow base w' v' (xs++us)->w.grownBy w' v.ownBlock->(∀k,v'.ownBlock=some k->v.ownBlock=some k∨w.heap.size<=k)->K (a.put o.dst v') w') :
  if Region.wanted o (yielded ops a.tmps)=true then Oper.wp prog o a w K Q else E:=by
 have hw:Region.wanted o (yielded ops a.tmps)=true:=by simp[Region.wanted,hgd]
 rw[if_pos hw];obtain⟨v',w',hr,h2,h3,h4⟩:=run_appS (w:=w) base o.type v xs hown xv us hx hm hbase;unfold Oper.wp execOp;simp only[ho,resolve,invoke,builtin,Sem.run_bind,Sem.run_pure,Result.andThen_ok,List.map_toArray,List.map_cons,List.map_nil,hs,hxv,hr];exact h v' w' h2 h3 h4
theorem SRow.strs (h:SRow B w v us) (hm:us.length<=10000000):Strs w v us:=by
 have h0:=h;rcases h.2 with ⟨rfl,hz⟩|⟨g,cap,cur,rfl,hbg,hh,hc1,hc2,hc3,hc4⟩
 ·exact⟨none,0,by rw[hz],by omega,by omega,λh=>absurd h o_⟩
 ·refine⟨_,cap,rfl,?_,?_,λ_=>⟨g,0,rfl,λj hj => ?_⟩⟩
  ·first|omega|exact hc1
  ·first|omega|(unfold maxLen at *;omega)
  ·have:=World.ownsRow.cells h0 (g:=g) rfl j (.string us[j]) (by simp[hj])
   rw[addr_addK] at this;exact this
end
theorem gtree_any (t:Tr) (vg vf:Value) (w:World) (ht:smallT t) (hg:Globs w vg t.globals) (hf:Funcs w vf t.funcs) :
  Calls prog 54 #[.agg #[vg,vf]] w λe w'=>e=.returned (.bool (treeB t))/\Below w.heap.size w w':=by
 obtain⟨gs,fs⟩:=t;simp only at hg hf ⊢;have HS:=hide ht;have hgl:gs.length<=1048576:=HS.o.1;have hfl:fs.length<=1048576:=HS.o.2.1;obtain⟨ag,cg,rfl,-,-,hgc⟩:=hg;obtain⟨af,cf,rfl,-,-,hfc⟩:=hf;obtain⟨HGC,HFC⟩:=h2 hgc hfc;by_cases h5:50<gs.length
 ·go_enter func54,ntmps54;go_wp2;go_ret;exact⟨ret_bool (by simp only[treeB,decide_eq_false (show ¬gs.length<=50 by omega),Bool.false_and]),r_.alloc n_ _⟩
 by_cases h6:50<fs.length
 ·go_enter func54,ntmps54;go_wp2;go_ret;exact⟨ret_bool (by simp only[treeB,decide_eq_false (show ¬fs.length<=50 by omega),Bool.false_and,Bool.and_false]),r_.alloc n_ _⟩
 have HTB:Hid (treeB ⟨gs,fs⟩=(gs.all globB && fs.all funcB)):=by
  show _=_;simp only[treeB,decide_eq_true (show gs.length<=50 by omega),decide_eq_true (show fs.length<=50 by omega),Bool.true_and]
 go_enter func54,ntmps54;go_wp2_with fail;go_loopw [3] (λi wr=>∃k:Nat,k<=gs.length/\i=.int .i64 k/\(∀g∈gs.take k,globB g=true)/\Below (w.heap.size+1) (w.alloc (.cells #[.slice ag gs.length cg,.slice af fs.length cf] 34)) wr) (λi _=>gs.length-(RowKit.intOf i).toNat)
 case atStart=>exact⟨0,y_,rfl,by simp,r_⟩
 case round=>
  obtain⟨k,hk,rfl,hg,hB⟩:=hrel;have HG:=hide hg;have hBw:=one_below hB;by_cases hlt:k<gs.length
  ·obtain⟨b,off,rfl,hc⟩:=HGC o_;obtain⟨d0,d1⟩:=(hc.below hBw) k hlt;have HE:Hid (gs.take (k+1)=gs.take k++[gs[k]]):=take_succ gs k hlt;have HX:Hid (globB gs[k]=false->gs.all globB=false):=allG_bad hlt;generalize gs[k]=g at d0 d1 HE HX;obtain⟨x0,x1⟩:=box2 hB;obtain⟨s,z⟩:=g;simp only at d0 d1;cases hv:nameB s
   ·have hv2:globB ⟨s,z⟩=false:=by simp only[globB,hv,Bool.false_and]
    have HV:=hide hv2;go_wp2_with (go_at_call 87;refine (name_any _ _).mono ?_;rintro e w' ⟨rfl,rfl⟩;rw[hv])
    go_ret;exact⟨ret_bool (by rw[HTB.o,HX.o HV.o];rfl),hBw⟩
   cases hz:decide (0<=z/\z<=4000)
   ·have hv2:globB ⟨s,z⟩=false:=by simp only[globB,hv,hz,Bool.and_false]
    obtain⟨HV,HZ⟩:=h2 hv2 hz;go_wp2_with (first|(go_at_call 87;refine (name_any _ _).mono ?_;rintro e w' ⟨rfl,rfl⟩;rw[hv])|(go_at_call 30;refine (in_any _ _ _ _).mono ?_;rintro e w' ⟨rfl,rfl⟩;rw[HZ.o]))
    go_ret;exact⟨ret_bool (by rw[HTB.o,HX.o HV.o];rfl),hBw⟩
   ·have HV:Hid (globB ⟨s,z⟩=true):=by
     show _=_;simp only[globB,hv,hz,Bool.and_self]
    have HZ:=hide hz;go_wp2_with (first|(go_at_call 87;refine (name_any _ _).mono ?_;rintro e w' ⟨rfl,rfl⟩;rw[hv])|(go_at_call 30;refine (in_any _ _ _ _).mono ?_;rintro e w' ⟨rfl,rfl⟩;rw[HZ.o]))
    go_roundw
    case rel=>
     refine⟨k+1,by omega,by go_num,λm hm => ?_,hB⟩;rw[HE.o] at hm;rcases List.mem_append.1 hm with hm|hm
     ·exact HG m hm
     ·rw[List.mem_singleton.1 hm];exact HV.o
    case measure=>simp[RowKit.intOf];omega
  ·have HA:Hid (gs.all globB=true):=by
    show _=_;rw[List.all_eq_true];have:=HG.o
    rw[List.take_of_length_le o_] at this;exact this
   obtain⟨x0,x1⟩:=box2 hB;go_wp2_with fail;go_loopw [4] (λi wr=>∃k:Nat,k<=fs.length/\i=.int .i64 k/\(∀f∈fs.take k,funcB f=true)/\Below (w.heap.size+1) (w.alloc (.cells #[.slice ag gs.length cg,.slice af fs.length cf] 34)) wr) (λi _=>fs.length-(RowKit.intOf i).toNat)
   case atStart=>exact⟨0,y_,rfl,by simp,hB⟩
   case round=>
    obtain⟨k,hk,rfl,hg,hB⟩:=hrel;have HG:=hide hg;have hBw:=one_below hB;by_cases hlt:k<fs.length
    ·obtain⟨b,off,rfl,hc⟩:=HFC o_;obtain⟨vp,vb,⟨d0,d1,d2⟩,hp,hs⟩:=(hc.below hBw) k hlt;have HE:Hid (fs.take (k+1)=fs.take k++[fs[k]]):=take_succ fs k hlt;have HX:Hid (funcB fs[k]=false->fs.all funcB=false):=allF_bad hlt;have HSM:Hid (smallF fs[k]):=HS.o.2.2 fs[k] (g_ hlt);generalize fs[k]=f at d0 d1 d2 HE HX HSM hp hs;obtain⟨HP,HB⟩:=h2 hp hs;obtain⟨a2,k2,rfl,-,-,-⟩:=hp;obtain⟨a3,k3,rfl,-,-,-⟩:=hs;obtain⟨x0,x1⟩:=box2 hB;go_wp2_with fail;refine (gfunc_any f _ _ _ HSM HP HB).mono ?_;rintro e w2 ⟨rfl,hb2⟩;have hBx2:=hb2;have hB2:=hB.trans (hBx2.mono (by have:=hB.size;simp at this;omega));cases hv:funcB f
     ·go_wp2;go_ret;exact⟨ret_bool (by rw[HTB.o,HX.o hv];simp),one_below hB2⟩
     ·go_wp2_with fail;go_roundw
      case rel=>
       refine⟨k+1,by omega,by go_num,λm hm => ?_,hB2⟩;rw[HE.o] at hm;rcases List.mem_append.1 hm with hm|hm
       ·exact HG m hm
       ·rw[List.mem_singleton.1 hm];exact hv
      case measure=>simp[RowKit.intOf];omega
    ·have HA2:Hid (fs.all funcB=true):=by
      show _=_;rw[List.all_eq_true];have:=HG.o
      rw[List.take_of_length_le o_] at this;exact this
     obtain⟨x0,x1⟩:=box2 hB;go_wp2;go_ret;exact⟨ret_bool (by rw[HTB.o,HA.o,HA2.o];rfl),hBw⟩
theorem szNode_any (n:Nd) (left:Int) (w:World) (hl:0<=left/\left<=1048576) (hw:n.name.size<=9223372036854775807) :
  Calls prog 195 #[.agg #[.int .i64 n.kind,.int .i64 n.val,.string n.name],.int .i64 left] w λe w'=>e=.returned (.int .i64 (szR left (szN n)))/\Below w.heap.size w w':=by
 obtain⟨k,v,s⟩:=n;simp only at hw ⊢;by_cases h:left<(s.size:Int)
 ·rw[show szR left (szN ⟨k,v,s⟩) = -1 from szR_gt h];go_enter func195,ntmps195;go_wp2;go_ret;exact⟨rfl,r_.alloc n_ _⟩
 ·rw[show szR left (szN ⟨k,v,s⟩)=left-s.size from szR_le (by simp only[szN];omega)];go_enter func195,ntmps195;go_wp2;go_ret;exact⟨rfl,r_.alloc n_ _⟩
theorem szGlob_any (g:Gl) (left:Int) (w:World) (hl:0<=left/\left<=1048576) (hw:g.name.size<=9223372036854775807) :
  Calls prog 60 #[.agg #[.string g.name,.int .i64 g.size],.int .i64 left] w λe w'=>e=.returned (.int .i64 (szR left (szG g)))/\Below w.heap.size w w':=by
 obtain⟨s,z⟩:=g;simp only at hw ⊢;by_cases h:left<(s.size:Int)
 ·rw[show szR left (szG ⟨s,z⟩) = -1 from szR_gt h];go_enter func60,ntmps60;go_wp2;go_ret;exact⟨rfl,r_.alloc n_ _⟩
 ·rw[show szR left (szG ⟨s,z⟩)=left-s.size from szR_le (by simp only[szG];omega)];go_enter func60,ntmps60;go_wp2;go_ret;exact⟨rfl,r_.alloc n_ _⟩
theorem szStrs_any (v:Value) (ns:List ByteArray) (left:Int) (w:World) (hl:0<=left/\left<=1048576) (hw:wfPs ns) (hc:Strs w v ns) :
  Calls prog 94 #[v,.int .i64 left] w λe w'=>e=.returned (.int .i64 (szR left (szPs ns)))/\Below w.heap.size w w':=by
 obtain⟨hw1,hw2⟩:=hw;have HW:=hide hw2;obtain⟨a,cap,rfl,hcl,hcm,hc⟩:=hc;have HC:=hide hc;have HZ:Hid (szPs ns=ns.length+sumBy ByteArray.size ns):=rfl;clear hc hw2;by_cases h0:left<(ns.length:Int)
 ·rw[szR_gt (show left<(szPs ns:Int) by rw[HZ.o];omega)];go_enter func94,ntmps94;go_wp2;go_ret;exact⟨rfl,r_⟩
 go_enter func94,ntmps94;go_wp2_with fail;go_loopw [1,5] (λq i wr=>∃k:Nat,k<=ns.length/\i=.int .i64 k/\q=.int .i64 (left-ns.length-(sumBy ByteArray.size (ns.take k):Nat))/\0<=left-ns.length-(sumBy ByteArray.size (ns.take k):Nat)/\wr=w) (λ_ i _=>ns.length-(RowKit.intOf i).toNat)
 case atStart=>exact⟨0,y_,rfl,by simp[sumBy],by simp[sumBy];omega,rfl⟩
 case round=>
  obtain⟨k,hk,rfl,rfl,hq,rfl⟩:=hrel;by_cases hlt:k<ns.length
  ·obtain⟨b,off,rfl,hc⟩:=HC o_;have d0:=hc k hlt;have hws:=HW ns[k] (g_ hlt);have HS:Hid _:=sumBy_step ByteArray.size ns k hlt;have HLE:Hid _:=sumBy_le ByteArray.size ns (k+1);generalize ns[k]=s at d0 hws HS;generalize hm:sumBy ByteArray.size (ns.take k)=m at hq HS ⊢;clear hm;by_cases h1:left-ns.length-(m:Int)<(s.size:Int)
   ·have HR:Hid (szR left (szPs ns) = -1):=szR_gt (show left<(szPs ns:Int) by have:=HS.o;have:=HLE.o;rw[HZ.o];omega);go_wp2;go_ret;exact⟨ret_int HR.o.symm,r_⟩
   ·go_wp2_with fail;go_roundw
    case rel=>exact⟨k+1,by omega,by go_num,by rw[HS.o];go_num,by rw[HS.o];omega,by first|trivial|rfl⟩
    case measure=>simp[RowKit.intOf];omega
  ·have hE:ns.take k=ns:=List.take_of_length_le o_;rw[hE] at hq ⊢;have HR:Hid (szR left (szPs ns)=left-ns.length-(sumBy ByteArray.size ns:Nat)):=by
    show _=_;rw[szR_le (show (szPs ns:Int)<=left by rw[HZ.o];omega),HZ.o];omega
   go_wp2;go_ret;exact⟨ret_int HR.o.symm,r_⟩
theorem szNodes_any (v:Value) (ns:List Nd) (left:Int) (w:World) (hl:0<=left/\left<=1048576) (hw:wfNs ns) (hc:Nodes w v ns) :
  Calls prog 163 #[v,.int .i64 left] w λe w'=>e=.returned (.int .i64 (szR left (szNs ns)))/\Below w.heap.size w w':=by
 obtain⟨hw1,hw2⟩:=hw;have HW:=hide hw2;obtain⟨a,cap,rfl,hcl,hcm,hc⟩:=hc;have HC:=hide hc;have HZ:Hid (szNs ns=ns.length+sumBy szN ns):=rfl;clear hc hw2;by_cases h0:left<(ns.length:Int)
 ·rw[szR_gt (show left<(szNs ns:Int) by rw[HZ.o];omega)];go_enter func163,ntmps163;go_wp2;go_ret;exact⟨rfl,r_⟩
 go_enter func163,ntmps163;go_wp2_with fail;go_loopw [1,5] (λq i wr=>∃k:Nat,k<=ns.length/\i=.int .i64 k/\q=.int .i64 (left-ns.length-(sumBy szN (ns.take k):Nat))/\0<=left-ns.length-(sumBy szN (ns.take k):Nat)/\Bl w wr) (λ_ i _=>ns.length-(RowKit.intOf i).toNat)
 case atStart=>exact⟨0,y_,rfl,by simp[sumBy],by simp[sumBy];omega,r_⟩
 case round=>
  obtain⟨k,hk,rfl,rfl,hq,hB⟩:=hrel;by_cases hlt:k<ns.length
  ·obtain⟨b,off,rfl,hc⟩:=HC o_;obtain⟨d0,d1,d2⟩:=(hc.below hB) k hlt;have HWS:Hid (ns[k].name.size<=9223372036854775807):=HW ns[k] (g_ hlt);have HS:Hid _:=sumBy_step szN ns k hlt;have HLE:Hid _:=sumBy_le szN ns (k+1);generalize ns[k]=s at d0 d1 d2 HWS HS;generalize hm:sumBy szN (ns.take k)=m at hq HS ⊢;clear hm;go_wp2_with fail;refine (szNode_any s _ _ ⟨by omega,by omega⟩ HWS).mono ?_;rintro e w2 ⟨rfl,hb2⟩;have hB2:=hB.trans (hb2.mono hB.size);by_cases h1:left-ns.length-(m:Int)<(szN s:Int)
   ·have HR:Hid (szR left (szNs ns) = -1):=szR_gt (show left<(szNs ns:Int) by have:=HS.o;have:=HLE.o;rw[HZ.o];omega);rw[szR_gt h1];go_wp2;go_ret;exact⟨ret_int HR.o.symm,hB2⟩
   ·rw[szR_le (show (szN s:Int)<=left-ns.length-(m:Int) by omega)];generalize szN s=z at HS h1 ⊢;go_wp2_with fail;go_roundw
    case rel=>exact⟨k+1,by omega,by go_num,by rw[HS.o];go_num,by rw[HS.o];omega,hB2⟩
    case measure=>simp[RowKit.intOf];omega
  ·have hE:ns.take k=ns:=List.take_of_length_le o_;rw[hE] at hq ⊢;have HR:Hid (szR left (szNs ns)=left-ns.length-(sumBy szN ns:Nat)):=by
    show _=_;rw[szR_le (show (szNs ns:Int)<=left by rw[HZ.o];omega),HZ.o];omega
   clear hE;go_wp2;go_ret;exact⟨ret_int HR.o.symm,hB⟩
theorem szGlobs_any (v:Value) (ns:List Gl) (left:Int) (w:World) (hl:0<=left/\left<=1048576) (hw:wfGs ns) (hc:Globs w v ns) :
  Calls prog 27 #[v,.int .i64 left] w λe w'=>e=.returned (.int .i64 (szR left (szGs ns)))/\Below w.heap.size w w':=by
 obtain⟨hw1,hw2⟩:=hw;have HW:=hide hw2;obtain⟨a,cap,rfl,hcl,hcm,hc⟩:=hc;have HC:=hide hc;have HZ:Hid (szGs ns=ns.length+sumBy szG ns):=rfl;clear hc hw2;by_cases h0:left<(ns.length:Int)
 ·rw[szR_gt (show left<(szGs ns:Int) by rw[HZ.o];omega)];go_enter func27,ntmps27;go_wp2;go_ret;exact⟨rfl,r_⟩
 go_enter func27,ntmps27;go_wp2_with fail;go_loopw [1,5] (λq i wr=>∃k:Nat,k<=ns.length/\i=.int .i64 k/\q=.int .i64 (left-ns.length-(sumBy szG (ns.take k):Nat))/\0<=left-ns.length-(sumBy szG (ns.take k):Nat)/\Bl w wr) (λ_ i _=>ns.length-(RowKit.intOf i).toNat)
 case atStart=>exact⟨0,y_,rfl,by simp[sumBy],by simp[sumBy];omega,r_⟩
 case round=>
  obtain⟨k,hk,rfl,rfl,hq,hB⟩:=hrel;by_cases hlt:k<ns.length
  ·obtain⟨b,off,rfl,hc⟩:=HC o_;obtain⟨d0,d1⟩:=(hc.below hB) k hlt;have HWS:Hid (ns[k].name.size<=9223372036854775807):=HW ns[k] (g_ hlt);have HS:Hid _:=sumBy_step szG ns k hlt;have HLE:Hid _:=sumBy_le szG ns (k+1);generalize ns[k]=s at d0 d1 HWS HS;generalize hm:sumBy szG (ns.take k)=m at hq HS ⊢;clear hm;go_wp2_with fail;refine (szGlob_any s _ _ ⟨by omega,by omega⟩ HWS).mono ?_;rintro e w2 ⟨rfl,hb2⟩;have hB2:=hB.trans (hb2.mono hB.size);by_cases h1:left-ns.length-(m:Int)<(szG s:Int)
   ·have HR:Hid (szR left (szGs ns) = -1):=szR_gt (show left<(szGs ns:Int) by have:=HS.o;have:=HLE.o;rw[HZ.o];omega);rw[szR_gt h1];go_wp2;go_ret;exact⟨ret_int HR.o.symm,hB2⟩
   ·rw[szR_le (show (szG s:Int)<=left-ns.length-(m:Int) by omega)];generalize szG s=z at HS h1 ⊢;go_wp2_with fail;go_roundw
    case rel=>exact⟨k+1,by omega,by go_num,by rw[HS.o];go_num,by rw[HS.o];omega,hB2⟩
    case measure=>simp[RowKit.intOf];omega
  ·have hE:ns.take k=ns:=List.take_of_length_le o_;rw[hE] at hq ⊢;have HR:Hid (szR left (szGs ns)=left-ns.length-(sumBy szG ns:Nat)):=by
    show _=_;rw[szR_le (show (szGs ns:Int)<=left by rw[HZ.o];omega),HZ.o];omega
   clear hE;go_wp2;go_ret;exact⟨ret_int HR.o.symm,hB⟩
theorem szStmt_any (s:St) (ve vf:Value) (left:Int) (w:World) (hl:0<=left/\left<=1048576) (hw:wfSt s) (he:Nodes w ve s.e) (hf:Nodes w vf s.f) :
  Calls prog 130 #[.agg #[.int .i64 s.kind,.string s.name,ve,vf,.int .i64 s.thn,.int .i64 s.els],.int .i64 left] w λe w'=>e=.returned (.int .i64 (szR left (szSt s)))/\Below w.heap.size w w':=by
 obtain⟨kI,nI,es,fs,tI,lI⟩:=s;have HWE:Hid (wfNs es):=hw.2.1;have HWF:Hid (wfNs fs):=hw.2.2;have hwn:nI.size<=9223372036854775807:=hw.1;simp only at he hf ⊢;obtain⟨HE,HF⟩:=h2 he hf;obtain⟨ae,ce,rfl,-,-,-⟩:=he;obtain⟨af,cf,rfl,-,-,-⟩:=hf;have HZ:Hid (szSt ⟨kI,nI,es,fs,tI,lI⟩=nI.size+szNs es+szNs fs):=rfl;generalize szSt ⟨kI,nI,es,fs,tI,lI⟩=zz at HZ ⊢;by_cases h0:left<(nI.size:Int)
 ·rw[szR_gt (show left<(zz:Int) by rw[HZ.o];omega)];go_enter func130,ntmps130;go_wp2;go_ret;exact⟨rfl,r_.alloc n_ _⟩
 go_enter func130,ntmps130;go_wp2_with fail;refine (szNodes_any _ es _ _ ⟨by omega,by omega⟩ HWE (HE.o.below (bel_a _ _))).mono ?_;rintro e w1 ⟨rfl,hb1⟩;simp only[World.size_alloc] at hb1;obtain⟨x0,x1,x2,x3,x4,x5⟩:=box6 hb1;have hB1:=one_below hb1;by_cases h1:left-nI.size<(szNs es:Int)
 ·have HR:Hid (szR left zz = -1):=szR_gt (show left<(zz:Int) by rw[HZ.o];omega);rw[szR_gt h1];go_wp2;go_ret;exact⟨ret_int HR.o.symm,hB1⟩
 rw[szR_le (show (szNs es:Int)<=left-nI.size by omega)];generalize szNs es=ze at HZ h1 ⊢;go_wp2_with fail;refine (szNodes_any _ fs _ _ ⟨by omega,by omega⟩ HWF (HF.o.below hB1)).mono ?_;rintro e w2 ⟨rfl,hb2⟩;have hB2:=hB1.trans (hb2.mono hB1.size);by_cases h2:left-nI.size-ze<(szNs fs:Int)
 ·have HR:Hid (szR left zz = -1):=szR_gt (show left<(zz:Int) by rw[HZ.o];omega);rw[szR_gt h2];go_wp2;go_ret;exact⟨ret_int HR.o.symm,hB2⟩
 have HR:Hid (left-nI.size-ze-(szNs fs:Nat)=szR left zz):=by
  show _=_;rw[szR_le (show (zz:Int)<=left by rw[HZ.o];omega),HZ.o];omega
 rw[szR_le (show (szNs fs:Int)<=left-nI.size-ze by omega)];generalize szNs fs=zf at HZ HR h2 ⊢;go_wp2;go_ret;exact⟨ret_int HR,hB2⟩
theorem ssrc_cell {w:World} {b:Nat} {x:ByteArray} (h:w.cell? ⟨b,0,none⟩=some (.string x)):SSrc w (.slice (some ⟨b,0,none⟩) 1 1) [x]:=by
 refine⟨_,1,rfl,(λh=>by cases h),λad had j u hj => ?_⟩;obtain rfl:=Option.some.inj had;have hl:j=0:=by
  have:=(List.getElem?_eq_some_iff.1 hj).1
  simp at this;omega
 subst hl;simp at hj;rw[addr_addK,<-hj];exact h
theorem appA (W:World) (v:Value) (us:List ByteArray) (h:Strs W v us):SRow W.heap.size (W.drew.alloc (.cells #[] 9)) (.slice (some ⟨W.heap.size,0,none⟩) 0 0) []/\SSrc (W.drew.alloc (.cells #[] 9)) v us/\Below W.heap.size W (W.drew.alloc (.cells #[] 9)):=by
 have hb:Bl W (W.drew.alloc (.cells #[] 9)):=((Below.refl W.heap.size W).drew).alloc n_ _;exact⟨srow_lit W.drew _ n_,(h.below hb).src,hb⟩
theorem appB (W:World) (v:Value) (us:List ByteArray) (x:ByteArray) (h:Strs W v us):SRow W.heap.size ((W.drew.alloc (.cells #[] 9)).alloc (.cells #[.string x] 9)) (.slice (some ⟨W.heap.size,0,none⟩) 0 0) []/\SSrc ((W.drew.alloc (.cells #[] 9)).alloc (.cells #[.string x] 9)) v us/\Below W.heap.size W ((W.drew.alloc (.cells #[] 9)).alloc (.cells #[.string x] 9))/\((W.drew.alloc (.cells #[] 9)).alloc (.cells #[.string x] 9)).cell? ⟨W.heap.size+1,0,none⟩=some (.string x):=by
 have hb1:Bl W (W.drew.alloc (.cells #[] 9)):=((Below.refl W.heap.size W).drew).alloc n_ _;have hb:Bl W ((W.drew.alloc (.cells #[] 9)).alloc (.cells #[.string x] 9)):=hb1.alloc hb1.size _;exact⟨(srow_lit W.drew _ n_).below (bel_a _ _),(h.below hb).src,hb,(World.cell?_alloc_at _ _ _ _ (by simp)).trans rfl⟩
theorem appC (W:World) (v:Value) (us:List ByteArray) (x:ByteArray) (h:Strs W v us):SRow W.heap.size ((W.drew.alloc (.cells #[.string x] 9)).alloc (.cells #[] 9)) (.slice (some ⟨W.heap.size+1,0,none⟩) 0 0) []/\SSrc ((W.drew.alloc (.cells #[.string x] 9)).alloc (.cells #[] 9)) v us/\Below W.heap.size W ((W.drew.alloc (.cells #[.string x] 9)).alloc (.cells #[] 9))/\((W.drew.alloc (.cells #[.string x] 9)).alloc (.cells #[] 9)).cell? ⟨W.heap.size,0,none⟩=some (.string x):=by
 have hb1:Bl W (W.drew.alloc (.cells #[.string x] 9)):=((Below.refl W.heap.size W).drew).alloc n_ _;have hb:Bl W ((W.drew.alloc (.cells #[.string x] 9)).alloc (.cells #[] 9)):=hb1.alloc hb1.size _;have h1:=srow_lit (W.drew.alloc (.cells #[.string x] 9)) W.heap.size (by simp);have e:(W.drew.alloc (.cells #[.string x] 9)).heap.size=W.heap.size+1:=by simp
 rw[e] at h1;refine⟨h1,(h.below hb).src,hb,?_⟩;rw[World.cell?_alloc_lt _ _ ⟨W.heap.size,0,none⟩ (by simp)];exact (World.cell?_alloc_at _ _ _ _ (by simp)).trans rfl
theorem appN {W W1 w1:World} {v:Value} {xs:List ByteArray} (hb:Below W.heap.size W W1) (hr:SRow W.heap.size W1 v xs) (hg:W1.grownBy w1 v.ownBlock):Below W.heap.size W w1:=hb.grown hg hb.size (λj hj=>(World.ownsRow.lt hr j hj).1)
theorem szStmts_any (v:Value) (ns:List St) (left:Int) (w:World) (hl:0<=left/\left<=1048576) (hw:wfSs ns) (hc:Stmts w v ns) :
  Calls prog 95 #[v,.int .i64 left] w λe w'=>e=.returned (.int .i64 (szR left (szSs ns)))/\Below w.heap.size w w':=by
 obtain⟨hw1,hw2⟩:=hw;have HW:=hide hw2;obtain⟨a,cap,rfl,hcl,hcm,hc⟩:=hc;have HC:=hide hc;have HZ:Hid (szSs ns=ns.length+sumBy szSt ns):=rfl;clear hc hw2;by_cases h0:left<(ns.length:Int)
 ·rw[szR_gt (show left<(szSs ns:Int) by rw[HZ.o];omega)];go_enter func95,ntmps95;go_wp2;go_ret;exact⟨rfl,r_⟩
 go_enter func95,ntmps95;go_wp2_with fail;go_loopw [1,5] (λq i wr=>∃k:Nat,k<=ns.length/\i=.int .i64 k/\q=.int .i64 (left-ns.length-(sumBy szSt (ns.take k):Nat))/\0<=left-ns.length-(sumBy szSt (ns.take k):Nat)/\Bl w wr) (λ_ i _=>ns.length-(RowKit.intOf i).toNat)
 case atStart=>exact⟨0,y_,rfl,by simp[sumBy],by simp[sumBy];omega,r_⟩
 case round=>
  obtain⟨k,hk,rfl,rfl,hq,hB⟩:=hrel;by_cases hlt:k<ns.length
  ·obtain⟨b,off,rfl,hc⟩:=HC o_;obtain⟨ve,vf,⟨d0,d1,d2,d3,d4,d5⟩,he,hf⟩:=(hc.below hB) k hlt;have HWS:Hid (wfSt ns[k]):=HW ns[k] (g_ hlt);have HS:Hid _:=sumBy_step szSt ns k hlt;have HLE:Hid _:=sumBy_le szSt ns (k+1);generalize ns[k]=s at d0 d1 d2 d3 d4 d5 he hf HWS HS;generalize hm:sumBy szSt (ns.take k)=m at hq HS ⊢;clear hm;obtain⟨HNE,HNF⟩:=h2 he hf;obtain⟨a2,k2,rfl,-,-,-⟩:=he;obtain⟨a3,k3,rfl,-,-,-⟩:=hf;go_wp2_with fail;refine (szStmt_any s _ _ _ _ ⟨by omega,by omega⟩ HWS HNE HNF).mono ?_;rintro e w2 ⟨rfl,hb2⟩;have hB2:=hB.trans (hb2.mono hB.size);by_cases h1:left-ns.length-(m:Int)<(szSt s:Int)
   ·have HR:Hid (szR left (szSs ns) = -1):=szR_gt (show left<(szSs ns:Int) by have:=HS.o;have:=HLE.o;rw[HZ.o];omega);rw[szR_gt h1];go_wp2;go_ret;exact⟨ret_int HR.o.symm,hB2⟩
   ·rw[szR_le (show (szSt s:Int)<=left-ns.length-(m:Int) by omega)];generalize szSt s=z at HS h1 ⊢;go_wp2_with fail;go_roundw
    case rel=>exact⟨k+1,by omega,by go_num,by rw[HS.o];go_num,by rw[HS.o];omega,hB2⟩
    case measure=>simp[RowKit.intOf];omega
  ·have hE:ns.take k=ns:=List.take_of_length_le o_;rw[hE] at hq ⊢;have HR:Hid (szR left (szSs ns)=left-ns.length-(sumBy szSt ns:Nat)):=by
    show _=_;rw[szR_le (show (szSs ns:Int)<=left by rw[HZ.o];omega),HZ.o];omega
   clear hE;go_wp2;go_ret;exact⟨ret_int HR.o.symm,hB⟩
theorem szFunc_any (s:Fu) (ve vf:Value) (left:Int) (w:World) (hl:0<=left/\left<=1048576) (hw:wfFu s) (he:Strs w ve s.params) (hf:Stmts w vf s.body) :
  Calls prog 61 #[.agg #[.string s.name,ve,vf],.int .i64 left] w λe w'=>e=.returned (.int .i64 (szR left (szFu s)))/\Below w.heap.size w w':=by
 obtain⟨nI,es,fs⟩:=s;have HWE:Hid (wfPs es):=hw.2.1;have HWF:Hid (wfSs fs):=hw.2.2;have hwn:nI.size<=9223372036854775807:=hw.1;simp only at he hf ⊢;obtain⟨HE,HF⟩:=h2 he hf;obtain⟨ae,ce,rfl,-,-,-⟩:=he;obtain⟨af,cf,rfl,-,-,-⟩:=hf;have HZ:Hid (szFu ⟨nI,es,fs⟩=nI.size+szPs es+szSs fs):=rfl;generalize szFu ⟨nI,es,fs⟩=zz at HZ ⊢;by_cases h0:left<(nI.size:Int)
 ·rw[szR_gt (show left<(zz:Int) by rw[HZ.o];omega)];go_enter func61,ntmps61;go_wp2;go_ret;exact⟨rfl,r_.alloc n_ _⟩
 go_enter func61,ntmps61;go_wp2_with fail;refine (szStrs_any _ es _ _ ⟨by omega,by omega⟩ HWE (HE.o.below (bel_a _ _))).mono ?_;rintro e w1 ⟨rfl,hb1⟩;simp only[World.size_alloc] at hb1;obtain⟨x0,x1,x2⟩:=box3 hb1;have hB1:=one_below hb1;by_cases h1:left-nI.size<(szPs es:Int)
 ·have HR:Hid (szR left zz = -1):=szR_gt (show left<(zz:Int) by rw[HZ.o];omega);rw[szR_gt h1];go_wp2;go_ret;exact⟨ret_int HR.o.symm,hB1⟩
 rw[szR_le (show (szPs es:Int)<=left-nI.size by omega)];generalize szPs es=ze at HZ h1 ⊢;go_wp2_with fail;refine (szStmts_any _ fs _ _ ⟨by omega,by omega⟩ HWF (HF.o.below hB1)).mono ?_;rintro e w2 ⟨rfl,hb2⟩;have hB2:=hB1.trans (hb2.mono hB1.size);by_cases h2:left-nI.size-ze<(szSs fs:Int)
 ·have HR:Hid (szR left zz = -1):=szR_gt (show left<(zz:Int) by rw[HZ.o];omega);rw[szR_gt h2];go_wp2;go_ret;exact⟨ret_int HR.o.symm,hB2⟩
 have HR:Hid (left-nI.size-ze-(szSs fs:Nat)=szR left zz):=by
  show _=_;rw[szR_le (show (zz:Int)<=left by rw[HZ.o];omega),HZ.o];omega
 rw[szR_le (show (szSs fs:Int)<=left-nI.size-ze by omega)];generalize szSs fs=zf at HZ HR h2 ⊢;go_wp2;go_ret;exact⟨ret_int HR,hB2⟩
theorem szFuncs_any (v:Value) (ns:List Fu) (left:Int) (w:World) (hl:0<=left/\left<=1048576) (hw:wfFs ns) (hc:Funcs w v ns) :
  Calls prog 28 #[v,.int .i64 left] w λe w'=>e=.returned (.int .i64 (szR left (szFs ns)))/\Below w.heap.size w w':=by
 obtain⟨hw1,hw2⟩:=hw;have HW:=hide hw2;obtain⟨a,cap,rfl,hcl,hcm,hc⟩:=hc;have HC:=hide hc;have HZ:Hid (szFs ns=ns.length+sumBy szFu ns):=rfl;clear hc hw2;by_cases h0:left<(ns.length:Int)
 ·rw[szR_gt (show left<(szFs ns:Int) by rw[HZ.o];omega)];go_enter func28,ntmps28;go_wp2;go_ret;exact⟨rfl,r_⟩
 go_enter func28,ntmps28;go_wp2_with fail;go_loopw [1,5] (λq i wr=>∃k:Nat,k<=ns.length/\i=.int .i64 k/\q=.int .i64 (left-ns.length-(sumBy szFu (ns.take k):Nat))/\0<=left-ns.length-(sumBy szFu (ns.take k):Nat)/\Bl w wr) (λ_ i _=>ns.length-(RowKit.intOf i).toNat)
 case atStart=>exact⟨0,y_,rfl,by simp[sumBy],by simp[sumBy];omega,r_⟩
 case round=>
  obtain⟨k,hk,rfl,rfl,hq,hB⟩:=hrel;by_cases hlt:k<ns.length
  ·obtain⟨b,off,rfl,hc⟩:=HC o_;obtain⟨vp,vb,⟨d0,d1,d2⟩,hp,hb⟩:=(hc.below hB) k hlt;have HWS:Hid (wfFu ns[k]):=HW ns[k] (g_ hlt);have HS:Hid _:=sumBy_step szFu ns k hlt;have HLE:Hid _:=sumBy_le szFu ns (k+1);generalize ns[k]=s at d0 d1 d2 hp hb HWS HS;generalize hm:sumBy szFu (ns.take k)=m at hq HS ⊢;clear hm;obtain⟨HNE,HNF⟩:=h2 hp hb;obtain⟨a2,k2,rfl,-,-,-⟩:=hp;obtain⟨a3,k3,rfl,-,-,-⟩:=hb;go_wp2_with fail;refine (szFunc_any s _ _ _ _ ⟨by omega,by omega⟩ HWS HNE HNF).mono ?_;rintro e w2 ⟨rfl,hb2⟩;have hB2:=hB.trans (hb2.mono hB.size);by_cases h1:left-ns.length-(m:Int)<(szFu s:Int)
   ·have HR:Hid (szR left (szFs ns) = -1):=szR_gt (show left<(szFs ns:Int) by have:=HS.o;have:=HLE.o;rw[HZ.o];omega);rw[szR_gt h1];go_wp2;go_ret;exact⟨ret_int HR.o.symm,hB2⟩
   ·rw[szR_le (show (szFu s:Int)<=left-ns.length-(m:Int) by omega)];generalize szFu s=z at HS h1 ⊢;go_wp2_with fail;go_roundw
    case rel=>exact⟨k+1,by omega,by go_num,by rw[HS.o];go_num,by rw[HS.o];omega,hB2⟩
    case measure=>simp[RowKit.intOf];omega
  ·have hE:ns.take k=ns:=List.take_of_length_le o_;rw[hE] at hq ⊢;have HR:Hid (szR left (szFs ns)=left-ns.length-(sumBy szFu ns:Nat)):=by
    show _=_;rw[szR_le (show (szFs ns:Int)<=left by rw[HZ.o];omega),HZ.o];omega
   clear hE;go_wp2;go_ret;exact⟨ret_int HR.o.symm,hB⟩
theorem szTree_any (t:Tr) (vg vf:Value) (left:Int) (w:World) (hl:0<=left/\left<=1048576) (hw:wfT t) (hg:Globs w vg t.globals) (hf:Funcs w vf t.funcs) :
  Calls prog 6 #[.agg #[vg,vf],.int .i64 left] w λe w'=>e=.returned (.int .i64 (szR left (szT t)))/\Below w.heap.size w w':=by
 obtain⟨gs,fs⟩:=t;have HWE:Hid (wfGs gs):=hw.1;have HWF:Hid (wfFs fs):=hw.2;simp only at hg hf ⊢;obtain⟨HE,HF⟩:=h2 hg hf;obtain⟨ae,ce,rfl,-,-,-⟩:=hg;obtain⟨af,cf,rfl,-,-,-⟩:=hf;have HZ:Hid (szT ⟨gs,fs⟩=szGs gs+szFs fs):=rfl;generalize szT ⟨gs,fs⟩=zz at HZ ⊢;go_enter func6,ntmps6;go_wp2_with fail;refine (szGlobs_any _ gs _ _ ⟨by omega,by omega⟩ HWE (HE.o.below (bel_a _ _))).mono ?_;rintro e w1 ⟨rfl,hb1⟩;simp only[World.size_alloc] at hb1;obtain⟨x0,x1⟩:=box2 hb1;have hB1:=one_below hb1;by_cases h1:left<(szGs gs:Int)
 ·have HR:Hid (szR left zz = -1):=szR_gt (show left<(zz:Int) by rw[HZ.o];omega);rw[szR_gt h1];go_wp2;go_ret;exact⟨ret_int HR.o.symm,hB1⟩
 rw[szR_le (show (szGs gs:Int)<=left by omega)];generalize szGs gs=ze at HZ h1 ⊢;go_wp2_with fail;refine (szFuncs_any _ fs _ _ ⟨by omega,by omega⟩ HWF (HF.o.below hB1)).mono ?_;rintro e w2 ⟨rfl,hb2⟩;have hB2:=hB1.trans (hb2.mono hB1.size);by_cases h2:left-ze<(szFs fs:Int)
 ·have HR:Hid (szR left zz = -1):=szR_gt (show left<(zz:Int) by rw[HZ.o];omega);rw[szR_gt h2];go_wp2;go_ret;exact⟨ret_int HR.o.symm,hB2⟩
 have HR:Hid (left-ze-(szFs fs:Nat)=szR left zz):=by
  show _=_;rw[szR_le (show (zz:Int)<=left by rw[HZ.o];omega),HZ.o];omega
 rw[szR_le (show (szFs fs:Int)<=left-ze by omega)];generalize szFs fs=zf at HZ HR h2 ⊢;go_wp2;go_ret;exact⟨ret_int HR,hB2⟩
section
variable {w w':World} {base e size n cap g B:Nat} {xs:List Value} {v:Value} {ns:List Nd}
theorem owns_below (h:w.ownsRow base e size (.slice (some ⟨g,0,none⟩) n cap) n xs) (hb:Below w.heap.size w w'):w'.ownsRow base e size (.slice (some ⟨g,0,none⟩) n cap) n xs:=by
 refine⟨h.1,?_⟩;rcases h.2 with hn|⟨g',cap',cur,he,hB,hg,rest⟩
 ·exact .inl hn
 ·refine .inr ⟨g',cap',cur,he,hB,?_,rest⟩;rw[hb.block g' (Array.getElem?_eq_some_iff.1 hg).1];exact hg
def putAt (xs:List Value) (i:Nat):List Value->List Value
 | []=>xs
 | u::r=>putAt (xs.set i u) (i+1) r
def setMany (w:World) (g i:Nat):List Value->World
 | []=>w
 | u::r=>setMany (w.setCell ⟨g,i,none⟩ u) g (i+1) r
theorem putAt_get (us:List Value) : ∀xs i j,i+us.length<=xs.length->(putAt xs i us)[j]? = if i<=j/\j<i+us.length then us[j-i]? else xs[j]? := by
 induction us with
 | nil=>intro xs i j h;simp[putAt];intro h1 h2;omega
 | cons u r ih=>
  intro xs i j h;simp only[l_c] at h;simp only[putAt,l_c];rw[ih _ _ _ (by simp;omega)];by_cases h1:i+1<=j/\j<i+1+r.length
  ·rw[if_pos h1,if_pos o_,show j-i=(j-(i+1))+1 by omega,List.getElem?_cons_succ]
  ·rw[if_neg h1];by_cases h2:j=i
   ·subst h2;rw[if_pos o_,List.getElem?_set_self o_];simp
   ·rw[if_neg o_,List.getElem?_set_ne o_]
theorem owns_put (us:List Value) : ∀(w:World) (xs:List Value) (i:Nat),w.ownsRow base e size (.slice (some ⟨g,0,none⟩) n cap) n xs->(setMany w g i us).ownsRow base e size (.slice (some ⟨g,0,none⟩) n cap) n (putAt xs i us):=by
 induction us with
 | nil=>intro w xs i h;exact h
 | cons u r ih=>intro w xs i h;exact ih _ _ _ (h.stored i u).1
theorem below_put {a:World} (hg:B<=g) (us:List Value) : ∀(w:World) (i:Nat),Below B a w->Below B a (setMany w g i us):=by
 induction us with
 | nil=>intro w i h;exact h
 | cons u r ih=>intro w i h;exact ih _ _ (h.setCell hg u)
def RowIs (enc:Nat->List Value) (m k:Nat) (xs:List Value):Prop:=∀j,j<k->∀i,i<m->xs[j*m+i]? = (enc j)[i]?
theorem RowIs.step {enc enc':Nat->List Value} {m k:Nat} {us:List Value} (h:RowIs enc m k xs) (he : ∀j,j<k->enc' j=enc j) (hk:enc' k=us) (hu:us.length=m) (hl:(k+1)*m<=xs.length):RowIs enc' m (k+1) (putAt xs (k*m) us):=by
 intro j hj i hi;have e1:(k+1)*m=k*m+m:=by rw[Nat.add_mul,Nat.one_mul]
 rw[putAt_get us xs (k*m) (j*m+i) o_];by_cases hjk:j=k
 ·subst hjk;rw[if_pos o_,show j*m+i-j*m=i by omega,hk]
 ·have hlt:j<k:=by omega
  have:j*m+m<=k*m:=by
   have:=Nat.mul_le_mul_right m (show j+1<=k by omega)
   rw[Nat.add_mul,Nat.one_mul] at this;exact this
  rw[if_neg o_,h j hlt i hi,he j hlt]
theorem RowIs.zero (enc:Nat->List Value) (m:Nat) (xs:List Value):RowIs enc m 0 xs:=λj hj=>absurd hj (Nat.not_lt_zero _)
theorem own_old (h:w.ownsRow base e size (.slice (some ⟨g,0,none⟩) n cap) n xs) (j:Nat) (hj:j<n*size):(∃y,w.cell? ⟨g,j,none⟩=some y)/\w.frozen? ⟨g,j,none⟩=false:=by
 have hlen:=h.1;exact⟨⟨xs[j]' o_,by rw[h.cellAt j o_];simp⟩,h.frozenAt j⟩
def encN (n:Nd):List Value:=[.int .i64 n.kind,.int .i64 n.val,.string n.name]
theorem inf_node:(prog.info? 134).map (λi=>(i.zero,i.size,i.bytes))=some (some (.agg #[.int .i64 0,.int .i64 0,.string ⟨#[]⟩]),3,32):=by kernel_rfl
theorem toNode_any (n:Nd) (w:World):Calls prog 197 #[.agg #[.int .i64 n.kind,.int .i64 n.val,.string n.name]] w λe w'=>e=.returned (.agg #[.int .i64 n.kind,.int .i64 n.val,.string n.name])/\Below w.heap.size w w':=by
 obtain⟨k,v,s⟩:=n;simp only;go_enter func197,ntmps197;go_wp2_with fail;exact bodyPost_ret (v:=.agg #[.int .i64 k,.int .i64 v,.string s]) (by simp[results,results197,go_sem]) rfl ⟨rfl,((bel_a _ _).alloc (by simp) _).alloc (by simp;omega) _⟩
def NodesO (B:Nat) (w:World) (v:Value) (ns:List Nd):Prop:=∃g xs,v=.slice (some ⟨g,0,none⟩) ns.length ns.length/\w.ownsRow B 134 3 v ns.length xs/\RowIs (λj=>encN (ns.getD j ⟨0,0,⟨#[]⟩⟩)) 3 ns.length xs
theorem NodesO.nodes (h:NodesO B w v ns) (hm:ns.length<=9223372036854775807):Nodes w v ns:=by
 obtain⟨g,xs,rfl,ho,hx⟩:=h;refine⟨_,_,rfl,n_,hm,λh0=>⟨g,0,rfl,λj hj => ?_⟩⟩;have hl:=ho.1;have key : ∀i,i<3->w.cell? ⟨g,0+j*3+i,none⟩=(encN ns[j])[i]? := λi hi=>by
  rw[Nat.zero_add,ho.cellAt (j*3+i) o_,hx j hj i hi];simp[List.getD,hj]
 exact⟨key 0 o_,key 1 o_,key 2 o_⟩
theorem toNodes_any (v:Value) (ns:List Nd) (w:World) (hl:ns.length<=1048576) (hc:Nodes w v ns) :
  Calls prog 168 #[v] w λe w'=>∃v',e=.returned v'/\NodesO w.heap.size w' v' ns/\Below w.heap.size w w':=by
 obtain⟨a,cap,rfl,hcl,hcm,hc⟩:=hc;have HC:=hide hc;clear hc;obtain⟨i0,hi,hz0,hz1,hz2⟩:=info_parts inf_node;go_enter func168,ntmps168;go_wp2_with (at_make;refine wpList_make_full _ rfl _ _ 130 rfl w.heap.size 134 i0 (.agg #[.int .i64 0,.int .i64 0,.string ⟨#[]⟩]) 3 underlying130 hi hz0 hz1 _ _ _ _ ns.length rfl rfl o_ o_ ?_ ?_ n_ ?_)
 ·rw[hz2];omega
 ·unfold maxLen;omega
 intro w1 hown1 hgrow1;have hnx1:Bl w w1:=r_.grown hgrow1 n_ (by simp);go_wp2_with fail;go_loopw [4] (λi wr=>∃(k:Nat) (xs:List Value),k<=ns.length/\i=.int .i64 k/\wr.ownsRow w.heap.size 134 3 (.slice (some ⟨w.heap.size,0,none⟩) ns.length ns.length) ns.length xs/\RowIs (λj=>encN (ns.getD j ⟨0,0,⟨#[]⟩⟩)) 3 k xs/\Bl w wr)
  (λi _=>ns.length-(RowKit.intOf i).toNat)
 case atStart=>exact⟨0,_,y_,rfl,hown1,RowIs.zero _ _ _,hnx1⟩
 case round=>
  obtain⟨k,xs,hk,rfl,hown,hxs,hB⟩:=hrel;have HX:=hide hxs;clear hxs;by_cases hlt:k<ns.length
  ·obtain⟨b,off,rfl,hc⟩:=HC o_;obtain⟨d0,d1,d2⟩:=(hc.below hB) k hlt;have HN:Hid (encN (ns.getD k ⟨0,0,⟨#[]⟩⟩)=encN ns[k]):=by show _=_;simp[List.getD,hlt]
   generalize ns[k]=n at d0 d1 d2 HN;have HO:=hide hown;clear hown;go_wp2_with fail;refine (toNode_any n _).mono ?_;rintro e w2 ⟨rfl,hb2⟩;have hown2:=owns_below HO hb2;obtain⟨⟨y0,o0⟩,f0⟩:=own_old hown2 (k*3) o_;obtain⟨⟨y1,o1⟩,f1⟩:=own_old hown2 (k*3+1) o_;obtain⟨⟨y2,o2⟩,f2⟩:=own_old hown2 (k*3+2) o_;have hB2:=hB.trans (hb2.mono hB.size);have HR:Hid _:=owns_put (encN n) w2 xs (k*3) hown2;have HL:Hid (xs.length=ns.length*3):=hown2.1;have HB3:Hid _:=below_put n_ (encN n) w2 (k*3) hB2;go_wp2_with fail;go_roundw
   case rel=>exact⟨k+1,_,by omega,by go_num,HR,HX.o.step (λ_ _=>rfl) HN rfl (by have:=HL.o;omega),HB3⟩
   case measure=>simp[RowKit.intOf];omega
  ·have HO:=hide hown;clear hown;have hk':k=ns.length:=by omega
   have HK:=hide hk';go_wp2;go_ret;exact⟨_,rfl,⟨w.heap.size,xs,rfl,HO,by rw[<-HK.o];exact HX⟩,hB⟩
end
section
variable {B g base e size n cap B':Nat} {w w':World} {xs:List Value} {v:Value} {ns:List ByteArray}
def Keep (B:Nat) (w w':World):Prop:=∀k,B<=k->k<w.heap.size->w'.heap[k]? = w.heap[k]?
theorem Keep.of_below (h:Below w.heap.size w w'):Keep B w w':=λk _ hk=>h.block k hk
theorem setMany_heap (us:List Value) : ∀(w:World) (g i k:Nat),k≠g->(setMany w g i us).heap[k]? = w.heap[k]? := by
 induction us with
 | nil=>intro w g i k h;rfl
 | cons u r ih=>
  intro w g i k h;simp only[setMany];rw[ih _ _ _ _ h];exact Below.heap_setCell w ⟨g,i,none⟩ u k h
theorem Keep.of_set {i:Nat} {us:List Value} (h:g<B):Keep B w (setMany w g i us):=λk hk _=>setMany_heap us w g i k o_
theorem Keep.trans {w1 w2 w3:World} (h:Keep B w1 w2) (hs:w1.heap.size<=w2.heap.size) (k:Keep B w2 w3):Keep B w1 w3:=λi hi hl=>(k i hi o_).trans (h i hi hl)
theorem owns_keep (h:w.ownsRow base e size (.slice (some ⟨g,0,none⟩) n cap) n xs) (hb:Keep base w w'):w'.ownsRow base e size (.slice (some ⟨g,0,none⟩) n cap) n xs:=by
 refine⟨h.1,?_⟩;rcases h.2 with hn|⟨g',cap',cur,he,hB,hg,rest⟩
 ·exact .inl hn
 ·refine .inr ⟨g',cap',cur,he,hB,?_,rest⟩;rw[hb g' hB (Array.getElem?_eq_some_iff.1 hg).1];exact hg
theorem owns_mono {base':Nat} (h:w.ownsRow base e size (.slice (some ⟨g,0,none⟩) n cap) n xs) (hb:base'<=base):w.ownsRow base' e size (.slice (some ⟨g,0,none⟩) n cap) n xs:=by
 refine⟨h.1,?_⟩;rcases h.2 with hn|⟨g',cap',cur,he,hB,rest⟩
 ·exact .inl hn
 ·exact .inr ⟨g',cap',cur,he,by omega,rest⟩
theorem NodesO.keep {ns:List Nd} (h:NodesO B w v ns) (hb:Keep B w w'):NodesO B w' v ns:=by
 obtain⟨g,xs,rfl,ho,hx⟩:=h;exact⟨g,xs,rfl,owns_keep ho hb,hx⟩
theorem NodesO.mono {ns:List Nd} (h:NodesO B w v ns) (hb:B'<=B):NodesO B' w v ns:=by
 obtain⟨g,xs,rfl,ho,hx⟩:=h;exact⟨g,xs,rfl,owns_mono ho hb,hx⟩
def encP (s:ByteArray):List Value:=[.string s]
def StrsO (B:Nat) (w:World) (v:Value) (ns:List ByteArray):Prop:=∃g xs,v=.slice (some ⟨g,0,none⟩) ns.length ns.length/\w.ownsRow B 9 1 v ns.length xs/\RowIs (λj=>encP (ns.getD j ⟨#[]⟩)) 1 ns.length xs
theorem StrsO.strs (h:StrsO B w v ns) (hm:ns.length<=9223372036854775807):Strs w v ns:=by
 obtain⟨g,xs,rfl,ho,hx⟩:=h;refine⟨_,_,rfl,n_,hm,λh0=>⟨g,0,rfl,λj hj => ?_⟩⟩;have hl:=ho.1;have hk:=hx j hj 0 o_;rw[Nat.zero_add,ho.cellAt j o_];rw[show j*1+0=j by omega] at hk;rw[hk];simp[encP,List.getD,hj]
theorem StrsO.keep (h:StrsO B w v ns) (hb:Keep B w w'):StrsO B w' v ns:=by
 obtain⟨g,xs,rfl,ho,hx⟩:=h;exact⟨g,xs,rfl,owns_keep ho hb,hx⟩
theorem StrsO.mono (h:StrsO B w v ns) (hb:B'<=B):StrsO B' w v ns:=by
 obtain⟨g,xs,rfl,ho,hx⟩:=h;exact⟨g,xs,rfl,owns_mono ho hb,hx⟩
theorem inf_str:(prog.info? 9).map (λi=>(i.zero,i.size,i.bytes))=some (some (.string ⟨#[]⟩),1,16):=by kernel_rfl
theorem toStrs_any (v:Value) (ns:List ByteArray) (w:World) (hl:ns.length<=1048576) (hc:Strs w v ns) :
  Calls prog 100 #[v] w λe w'=>∃v',e=.returned v'/\StrsO w.heap.size w' v' ns/\Below w.heap.size w w':=by
 obtain⟨a,cap,rfl,hcl,hcm,hc⟩:=hc;have HC:=hide hc;clear hc;obtain⟨i0,hi,hz0,hz1,hz2⟩:=info_parts inf_str;go_enter func100,ntmps100;go_wp2_with (at_make;refine wpList_make_full _ rfl _ _ 94 rfl w.heap.size 9 i0 (.string ⟨#[]⟩) 1 underlying94 hi hz0 hz1 _ _ _ _ ns.length rfl rfl o_ o_ ?_ ?_ n_ ?_)
 ·rw[hz2];omega
 ·unfold maxLen;omega
 intro w1 hown1 hgrow1;have hnx1:Bl w w1:=r_.grown hgrow1 n_ (by simp);go_wp2_with fail;go_loopw [4] (λi wr=>∃(k:Nat) (xs:List Value),k<=ns.length/\i=.int .i64 k/\wr.ownsRow w.heap.size 9 1 (.slice (some ⟨w.heap.size,0,none⟩) ns.length ns.length) ns.length xs/\RowIs (λj=>encP (ns.getD j ⟨#[]⟩)) 1 k xs/\Bl w wr)
  (λi _=>ns.length-(RowKit.intOf i).toNat)
 case atStart=>exact⟨0,_,y_,rfl,hown1,RowIs.zero _ _ _,hnx1⟩
 case round=>
  obtain⟨k,xs,hk,rfl,hown,hxs,hB⟩:=hrel;have HX:=hide hxs;clear hxs;by_cases hlt:k<ns.length
  ·obtain⟨b,off,rfl,hc⟩:=HC o_;have d0:=(hc.below hB) k hlt;have HN:Hid (encP (ns.getD k ⟨#[]⟩)=encP ns[k]):=by show _=_;simp[List.getD,hlt]
   generalize ns[k]=n at d0 HN;obtain⟨⟨y0,o0⟩,f0⟩:=own_old hown k o_;have HR:=hide (owns_put (encP n) wr xs (k*1) hown);have HL:Hid (xs.length=ns.length*1):=hown.1;have HB3:=hide (below_put n_ (encP n) wr (k*1) hB);rw[Nat.mul_one] at HR HB3;clear hown;go_wp2_with fail;go_roundw
   case rel=>exact⟨k+1,_,by omega,by go_num,HR,by have h:=HX.o.step (λ_ _=>rfl) HN rfl (by have:=HL.o;omega);rw[Nat.mul_one] at h;exact h,HB3⟩
   case measure=>simp[RowKit.intOf];omega
  ·have HO:=hide hown;have HK:Hid (k=ns.length):=by show _=_;omega
   go_wp2;go_ret;exact⟨_,rfl,⟨w.heap.size,xs,rfl,HO,by rw[<-HK.o];exact HX⟩,hB⟩
def encG (g:Gl):List Value:=[.string g.name,.int .i64 g.size]
def GlobsO (B:Nat) (w:World) (v:Value) (ns:List Gl):Prop:=∃g xs,v=.slice (some ⟨g,0,none⟩) ns.length ns.length/\w.ownsRow B 63 2 v ns.length xs/\RowIs (λj=>encG (ns.getD j ⟨⟨#[]⟩,0⟩)) 2 ns.length xs
theorem GlobsO.globs {ns:List Gl} (h:GlobsO B w v ns) (hm:ns.length<=9223372036854775807):Globs w v ns:=by
 obtain⟨g,xs,rfl,ho,hx⟩:=h;refine⟨_,_,rfl,n_,hm,λh0=>⟨g,0,rfl,λj hj => ?_⟩⟩;have hl:=ho.1;have key : ∀i,i<2->w.cell? ⟨g,0+j*2+i,none⟩=(encG ns[j])[i]? := λi hi=>by
  rw[Nat.zero_add,ho.cellAt (j*2+i) o_,hx j hj i hi];simp[List.getD,hj]
 exact⟨key 0 o_,key 1 o_⟩
theorem GlobsO.keep {ns:List Gl} (h:GlobsO B w v ns) (hb:Keep B w w'):GlobsO B w' v ns:=by
 obtain⟨g,xs,rfl,ho,hx⟩:=h;exact⟨g,xs,rfl,owns_keep ho hb,hx⟩
theorem GlobsO.mono {ns:List Gl} (h:GlobsO B w v ns) (hb:B'<=B):GlobsO B' w v ns:=by
 obtain⟨g,xs,rfl,ho,hx⟩:=h;exact⟨g,xs,rfl,owns_mono ho hb,hx⟩
theorem inf_glob:(prog.info? 63).map (λi=>(i.zero,i.size,i.bytes))=some (some (.agg #[.string ⟨#[]⟩,.int .i64 0]),2,24):=by kernel_rfl
theorem toGlob_any (g:Gl) (w:World):Calls prog 64 #[.agg #[.string g.name,.int .i64 g.size]] w λe w'=>e=.returned (.agg #[.string g.name,.int .i64 g.size])/\Below w.heap.size w w':=by
 obtain⟨s,z⟩:=g;simp only;go_enter func64,ntmps64;go_wp2_with fail;exact bodyPost_ret (v:=.agg #[.string s,.int .i64 z]) (by simp[results,results64,go_sem]) rfl ⟨rfl,((bel_a _ _).alloc (by simp) _).alloc (by simp;omega) _⟩
theorem toGlobs_any (v:Value) (ns:List Gl) (w:World) (hl:ns.length<=1048576) (hc:Globs w v ns) :
  Calls prog 33 #[v] w λe w'=>∃v',e=.returned v'/\GlobsO w.heap.size w' v' ns/\Below w.heap.size w w':=by
 obtain⟨a,cap,rfl,hcl,hcm,hc⟩:=hc;have HC:=hide hc;clear hc;obtain⟨i0,hi,hz0,hz1,hz2⟩:=info_parts inf_glob;go_enter func33,ntmps33;go_wp2_with (at_make;refine wpList_make_full _ rfl _ _ 31 rfl w.heap.size 63 i0 (.agg #[.string ⟨#[]⟩,.int .i64 0]) 2 underlying31 hi hz0 hz1 _ _ _ _ ns.length rfl rfl o_ o_ ?_ ?_ n_ ?_)
 ·rw[hz2];omega
 ·unfold maxLen;omega
 intro w1 hown1 hgrow1;have hnx1:Bl w w1:=r_.grown hgrow1 n_ (by simp);go_wp2_with fail;go_loopw [4] (λi wr=>∃(k:Nat) (xs:List Value),k<=ns.length/\i=.int .i64 k/\wr.ownsRow w.heap.size 63 2 (.slice (some ⟨w.heap.size,0,none⟩) ns.length ns.length) ns.length xs/\RowIs (λj=>encG (ns.getD j ⟨⟨#[]⟩,0⟩)) 2 k xs/\Bl w wr)
  (λi _=>ns.length-(RowKit.intOf i).toNat)
 case atStart=>exact⟨0,_,y_,rfl,hown1,RowIs.zero _ _ _,hnx1⟩
 case round=>
  obtain⟨k,xs,hk,rfl,hown,hxs,hB⟩:=hrel;have HX:=hide hxs;clear hxs;by_cases hlt:k<ns.length
  ·obtain⟨b,off,rfl,hc⟩:=HC o_;obtain⟨d0,d1⟩:=(hc.below hB) k hlt;have HN:Hid (encG (ns.getD k ⟨⟨#[]⟩,0⟩)=encG ns[k]):=by show _=_;simp[List.getD,hlt]
   generalize ns[k]=n at d0 d1 HN;have HO:=hide hown;clear hown;go_wp2_with fail;refine (toGlob_any n _).mono ?_;rintro e w2 ⟨rfl,hb2⟩;have hown2:=owns_below HO hb2;obtain⟨⟨y0,o0⟩,f0⟩:=own_old hown2 (k*2) o_;obtain⟨⟨y1,o1⟩,f1⟩:=own_old hown2 (k*2+1) o_;have hB2:=hB.trans (hb2.mono hB.size);have HR:Hid _:=owns_put (encG n) w2 xs (k*2) hown2;have HL:Hid (xs.length=ns.length*2):=hown2.1;have HB3:Hid _:=below_put n_ (encG n) w2 (k*2) hB2;go_wp2_with fail;go_roundw
   case rel=>exact⟨k+1,_,by omega,by go_num,HR,HX.o.step (λ_ _=>rfl) HN rfl (by have:=HL.o;omega),HB3⟩
   case measure=>simp[RowKit.intOf];omega
  ·have HO:=hide hown;clear hown;have HK:Hid (k=ns.length):=by show _=_;omega
   go_wp2;go_ret;exact⟨_,rfl,⟨w.heap.size,xs,rfl,HO,by rw[<-HK.o];exact HX⟩,hB⟩
end
section
variable {B:Nat} {w w':World}
theorem Keep.setCell {a:World} {p:Addr} {u:Value} (h:Keep B a w) (hp:p.block<B):Keep B a (w.setCell p u):=λk hk hl=>(Below.heap_setCell w p u k o_).trans (h k hk hl)
theorem Keep.refl (B:Nat) (w:World):Keep B w w:=λ_ _ _=>rfl
theorem box666 {t u v:TypeId} {a0 a1 a2 a3 a4 a5 b0 b1 b2 b3 b4 b5 c0 c1 c2 c3 c4 c5:Value} (h:Below (w.heap.size+1+1+1) (((w.alloc (.cells #[a0,a1,a2,a3,a4,a5] t)).alloc (.cells #[b0,b1,b2,b3,b4,b5] u)).alloc (.cells #[c0,c1,c2,c3,c4,c5] v)) w') :
  (w'.cell? ⟨w.heap.size,0,none⟩=some a0/\w'.cell? ⟨w.heap.size,1,none⟩=some a1/\w'.cell? ⟨w.heap.size,2,none⟩=some a2/\w'.cell? ⟨w.heap.size,3,none⟩=some a3/\w'.cell? ⟨w.heap.size,4,none⟩=some a4/\w'.cell? ⟨w.heap.size,5,none⟩=some a5) /\
  (w'.cell? ⟨w.heap.size+1,0,none⟩=some b0/\w'.cell? ⟨w.heap.size+1,1,none⟩=some b1/\w'.cell? ⟨w.heap.size+1,2,none⟩=some b2/\w'.cell? ⟨w.heap.size+1,3,none⟩=some b3/\w'.cell? ⟨w.heap.size+1,4,none⟩=some b4/\w'.cell? ⟨w.heap.size+1,5,none⟩=some b5) /\
  (w'.cell? ⟨w.heap.size+1+1,0,none⟩=some c0/\w'.cell? ⟨w.heap.size+1+1,1,none⟩=some c1/\w'.cell? ⟨w.heap.size+1+1,2,none⟩=some c2/\w'.cell? ⟨w.heap.size+1+1,3,none⟩=some c3/\w'.cell? ⟨w.heap.size+1+1,4,none⟩=some c4/\w'.cell? ⟨w.heap.size+1+1,5,none⟩=some c5) /\
  (∀i,w'.frozen? ⟨w.heap.size+1,i,none⟩=false)/\(∀i,w'.frozen? ⟨w.heap.size+1+1,i,none⟩=false):=by
 refine⟨⟨?_,?_,?_,?_,?_,?_⟩,⟨?_,?_,?_,?_,?_,?_⟩,⟨?_,?_,?_,?_,?_,?_⟩,λi => ?_,λi => ?_⟩;all_goals first
  | (rw[h.cell (by first|(simp;done)|(simp;omega))];go_simp;done)
  | (rw[h.frozen (by first|(simp;done)|(simp;omega))];go_simp;done)
theorem toStmt_any (s:St) (ve vf:Value) (w:World) (hs:smallS s) (he:Nodes w ve s.e) (hf:Nodes w vf s.f) :
  Calls prog 133 #[.agg #[.int .i64 s.kind,.string s.name,ve,vf,.int .i64 s.thn,.int .i64 s.els]] w λe w'=>∃ve' vf',e=.returned (.agg #[.int .i64 s.kind,.string s.name,ve',vf',.int .i64 s.thn,.int .i64 s.els])/\NodesO w.heap.size w' ve' s.e/\NodesO w.heap.size w' vf' s.f/\Below w.heap.size w w':=by
 obtain⟨k,n,es,fs,t,l⟩:=s;have hse:es.length<=1048576:=hs.1;have hsf:fs.length<=1048576:=hs.2;simp only at he hf ⊢;obtain⟨HE,HF⟩:=h2 he hf;obtain⟨ae,ce,rfl,-,-,-⟩:=he;obtain⟨af,cf,rfl,-,-,-⟩:=hf;have hA:Bl w (((w.alloc (.cells #[.int .i64 k,.string n,.slice ae es.length ce,.slice af fs.length cf,.int .i64 t,.int .i64 l] 198)).alloc (.cells #[.int .i64 0,.string ⟨#[]⟩,.slice none 0 0,.slice none 0 0,.int .i64 0,.int .i64 0] 132)).alloc (.cells #[.int .i64 k,.string n,.slice none 0 0,.slice none 0 0,.int .i64 0,.int .i64 0] 132)):=((bel_a _ _).alloc (by simp) _).alloc (by simp;omega) _;go_enter func133,ntmps133;go_wp2_with fail;refine (toNodes_any _ es _ hse (HE.o.below hA)).mono ?_;rintro e w1 ⟨v1,rfl,ho1,hb1⟩;simp only[World.size_alloc] at ho1 hb1;have HO1:=hide ho1;obtain⟨g1,xs1,rfl,-,-⟩:=ho1;have hz1:w.heap.size+1+1+1<=w1.heap.size:=by have:=hb1.size;simpa using this
 have hB1:=hA.trans (hb1.mono o_);obtain⟨⟨a0,a1,a2,a3,a4,a5⟩,⟨b0,b1,b2,b3,b4,b5⟩,⟨c0,c1,c2,c3,c4,c5⟩,fb,fc⟩:=box666 hb1;go_wp2_with fail;have hB1s:=hB1.setCell (p:=⟨w.heap.size+1+1,2,none⟩) (by simp;omega) (.slice (some ⟨g1,0,none⟩) es.length es.length);refine (toNodes_any _ fs _ hsf (HF.o.below hB1s)).mono ?_;rintro e w2 ⟨v2,rfl,ho2,hb2⟩;have HO2:=hide ho2;obtain⟨g2,xs2,rfl,-,-⟩:=ho2;have hz2:w1.heap.size<=w2.heap.size:=by have:=hb2.size;simpa using this
 have hB2:=hB1s.trans (hb2.mono (by simp;omega));have A4:w2.cell? ⟨w.heap.size,4,none⟩=some (.int .i64 t):=by rw[hb2.cell (by simp;omega)];go_simp
 have A5:w2.cell? ⟨w.heap.size,5,none⟩=some (.int .i64 l):=by rw[hb2.cell (by simp;omega)];go_simp
 have C0:w2.cell? ⟨w.heap.size+1+1,0,none⟩=some (.int .i64 k):=by rw[hb2.cell (by simp;omega)];go_simp
 have C1:w2.cell? ⟨w.heap.size+1+1,1,none⟩=some (.string n):=by rw[hb2.cell (by simp;omega)];go_simp
 have C2:w2.cell? ⟨w.heap.size+1+1,2,none⟩=some (.slice (some ⟨g1,0,none⟩) es.length es.length):=by rw[hb2.cell (by simp;omega)];go_simp
 have C3:w2.cell? ⟨w.heap.size+1+1,3,none⟩=some (.slice none 0 0):=by rw[hb2.cell (by simp;omega)];go_simp
 have C4:w2.cell? ⟨w.heap.size+1+1,4,none⟩=some (.int .i64 0):=by rw[hb2.cell (by simp;omega)];go_simp
 have C5:w2.cell? ⟨w.heap.size+1+1,5,none⟩=some (.int .i64 0):=by rw[hb2.cell (by simp;omega)];go_simp
 have B0:w2.cell? ⟨w.heap.size+1,0,none⟩=some (.int .i64 0):=by rw[hb2.cell (by simp;omega)];go_simp
 have B1:w2.cell? ⟨w.heap.size+1,1,none⟩=some (.string ⟨#[]⟩):=by rw[hb2.cell (by simp;omega)];go_simp
 have B2:w2.cell? ⟨w.heap.size+1,2,none⟩=some (.slice none 0 0):=by rw[hb2.cell (by simp;omega)];go_simp
 have B3:w2.cell? ⟨w.heap.size+1,3,none⟩=some (.slice none 0 0):=by rw[hb2.cell (by simp;omega)];go_simp
 have B4:w2.cell? ⟨w.heap.size+1,4,none⟩=some (.int .i64 0):=by rw[hb2.cell (by simp;omega)];go_simp
 have B5:w2.cell? ⟨w.heap.size+1,5,none⟩=some (.int .i64 0):=by rw[hb2.cell (by simp;omega)];go_simp
 have FB : ∀i,w2.frozen? ⟨w.heap.size+1,i,none⟩=false:=λi=>by rw[hb2.frozen (by simp;omega)];go_simp
 have FC : ∀i,w2.frozen? ⟨w.heap.size+1+1,i,none⟩=false:=λi=>by rw[hb2.frozen (by simp;omega)];go_simp
 have K12:Keep (w.heap.size+1+1+1) w1 w2:=((Keep.refl _ _).setCell (by simp)).trans (by simp) (Keep.of_below hb2);obtain⟨HK,HO2'⟩:=h2 K12 (HO2.o.mono (by simp;omega));go_wp2_with fail;refine bodyPost_ret (v:=.agg #[.int .i64 k,.string n,.slice (some ⟨g1,0,none⟩) es.length es.length,.slice (some ⟨g2,0,none⟩) fs.length fs.length,.int .i64 t,.int .i64 l]) (by simp[results,results133,go_sem,B0,B1,B2,B3,B4,B5]) rfl ⟨_,_,rfl,?_,?_,?_⟩
 ·exact ((HO1.o.keep HK).keep ((((((((((Keep.refl _ _).setCell (by first|(simp;done)|(simp;omega))).setCell (by first|(simp;done)|(simp;omega))).setCell (by first|(simp;done)|(simp;omega))).setCell (by first|(simp;done)|(simp;omega))).setCell (by first|(simp;done)|(simp;omega))).setCell (by first|(simp;done)|(simp;omega))).setCell (by first|(simp;done)|(simp;omega))).setCell (by first|(simp;done)|(simp;omega))).setCell (by first|(simp;done)|(simp;omega)))).mono o_
 ·exact (HO2'.o.keep ((((((((((Keep.refl _ _).setCell (by first|(simp;done)|(simp;omega))).setCell (by first|(simp;done)|(simp;omega))).setCell (by first|(simp;done)|(simp;omega))).setCell (by first|(simp;done)|(simp;omega))).setCell (by first|(simp;done)|(simp;omega))).setCell (by first|(simp;done)|(simp;omega))).setCell (by first|(simp;done)|(simp;omega))).setCell (by first|(simp;done)|(simp;omega))).setCell (by first|(simp;done)|(simp;omega)))).mono o_
 ·exact (((((((((hB2).setCell (by first|(simp;done)|(simp;omega)) _).setCell (by first|(simp;done)|(simp;omega)) _).setCell (by first|(simp;done)|(simp;omega)) _).setCell (by first|(simp;done)|(simp;omega)) _).setCell (by first|(simp;done)|(simp;omega)) _).setCell (by first|(simp;done)|(simp;omega)) _).setCell (by first|(simp;done)|(simp;omega)) _).setCell (by first|(simp;done)|(simp;omega)) _).setCell (by first|(simp;done)|(simp;omega)) _
end
section
variable {B:Nat} {w:World} {v:Value} {ns:List St}
def encS (s:St) (v:Value × Value):List Value:=[.int .i64 s.kind,.string s.name,v.1,v.2,.int .i64 s.thn,.int .i64 s.els]
def dSt:St:=⟨0,⟨#[]⟩,[],[],0,0⟩
def StmtsO (B:Nat) (w:World) (v:Value) (ns:List St):Prop:=∃(g:Nat) (xs:List Value) (V:Nat->Value × Value),v=.slice (some ⟨g,0,none⟩) ns.length ns.length/\w.ownsRow B 132 6 v ns.length xs/\RowIs (λj=>encS (ns.getD j dSt) (V j)) 6 ns.length xs/\∀j (h:j<ns.length),NodesO B w (V j).1 ns[j].e/\NodesO B w (V j).2 ns[j].f
theorem StmtsO.stmts (h:StmtsO B w v ns) (hm:ns.length<=9223372036854775807) (hs : ∀s∈ns,smallS s):Stmts w v ns:=by
 obtain⟨g,xs,V,rfl,ho,hx,hn⟩:=h;refine⟨_,_,rfl,n_,hm,λh0=>⟨g,0,rfl,λj hj => ?_⟩⟩;have hl:=ho.1;have key : ∀i,i<6->w.cell? ⟨g,0+j*6+i,none⟩=(encS ns[j] (V j))[i]? := λi hi=>by
  rw[Nat.zero_add,ho.cellAt (j*6+i) o_,hx j hj i hi];simp[List.getD,hj]
 have hsm:=hs ns[j] (g_ hj);exact⟨(V j).1,(V j).2,⟨key 0 o_,key 1 o_,key 2 o_,key 3 o_,key 4 o_,key 5 o_⟩,(hn j hj).1.nodes (by have:=hsm.1;omega),(hn j hj).2.nodes (by have:=hsm.2;omega)⟩
theorem StmtsO.keep {w':World} (h:StmtsO B w v ns) (hb:Keep B w w'):StmtsO B w' v ns:=by
 obtain⟨g,xs,V,rfl,ho,hx,hn⟩:=h;exact⟨g,xs,V,rfl,owns_keep ho hb,hx,λj hj=>⟨(hn j hj).1.keep hb,(hn j hj).2.keep hb⟩⟩
theorem StmtsO.mono {B':Nat} (h:StmtsO B w v ns) (hb:B'<=B):StmtsO B' w v ns:=by
 obtain⟨g,xs,V,rfl,ho,hx,hn⟩:=h;exact⟨g,xs,V,rfl,owns_mono ho hb,hx,λj hj=>⟨(hn j hj).1.mono hb,(hn j hj).2.mono hb⟩⟩
theorem inf_stmt:(prog.info? 132).map (λi=>(i.zero,i.size,i.bytes))=some (some (.agg #[.int .i64 0,.string ⟨#[]⟩,.slice none 0 0,.slice none 0 0,.int .i64 0,.int .i64 0]),6,88):=by kernel_rfl
theorem own_lt {base e size n cap g:Nat} {xs:List Value} (h:w.ownsRow base e size (.slice (some ⟨g,0,none⟩) n cap) n xs):base<=g/\g<w.heap.size:=h.lt g rfl
theorem toStmts_any (v:Value) (ns:List St) (w:World) (hl:ns.length<=1048576) (hs : ∀s∈ns,smallS s) (hc:Stmts w v ns) :
  Calls prog 101 #[v] w λe w'=>∃v',e=.returned v'/\StmtsO w.heap.size w' v' ns/\Below w.heap.size w w':=by
 have HS:=hide hs;obtain⟨a,cap,rfl,hcl,hcm,hc⟩:=hc;have HC:=hide hc;clear hc hs;obtain⟨i0,hi,hz0,hz1,hz2⟩:=info_parts inf_stmt;go_enter func101,ntmps101;go_wp2_with (at_make;refine wpList_make_full _ rfl _ _ 95 rfl w.heap.size 132 i0 (.agg #[.int .i64 0,.string ⟨#[]⟩,.slice none 0 0,.slice none 0 0,.int .i64 0,.int .i64 0]) 6 underlying95 hi hz0 hz1 _ _ _ _ ns.length rfl rfl o_ o_ ?_ ?_ n_ ?_)
 ·rw[hz2];omega
 ·unfold maxLen;omega
 intro w1 hown1 hgrow1;have hnx1:Bl w w1:=r_.grown hgrow1 n_ (by simp);go_wp2_with fail;go_loopw [4] (λi wr=>∃(k:Nat) (xs:List Value) (V:Nat->Value × Value),k<=ns.length/\i=.int .i64 k/\wr.ownsRow w.heap.size 132 6 (.slice (some ⟨w.heap.size,0,none⟩) ns.length ns.length) ns.length xs/\RowIs (λj=>encS (ns.getD j dSt) (V j)) 6 k xs/\(∀j (h:j<ns.length),j<k->NodesO (w.heap.size+1) wr (V j).1 ns[j].e/\NodesO (w.heap.size+1) wr (V j).2 ns[j].f)/\Bl w wr)
  (λi _=>ns.length-(RowKit.intOf i).toNat)
 case atStart=>exact⟨0,_,λ_=>(.nilFunc,.nilFunc),y_,rfl,hown1,RowIs.zero _ _ _,λj _ hj=>absurd hj (Nat.not_lt_zero _),hnx1⟩
 case round=>
  obtain⟨k,xs,V,hk,rfl,hown,hxs,hV,hB⟩:=hrel;obtain⟨HX,HV⟩:=h2 hxs hV;clear hxs hV;by_cases hlt:k<ns.length
  ·obtain⟨b,off,rfl,hc⟩:=HC o_;obtain⟨ve,vf,⟨d0,d1,d2,d3,d4,d5⟩,he,hf⟩:=(hc.below hB) k hlt;have hsm:=HS ns[k] (g_ hlt);have HN:Hid (ns.getD k dSt=ns[k]):=by show _=_;simp[List.getD,hlt]
   have HNK:Hid (∀h:k<ns.length,ns[k]=ns[k]):=λ_=>rfl;generalize hgen:ns[k]=n at d0 d1 d2 d3 d4 d5 he hf HN hsm;have HG:=hide hgen;clear hgen HNK;obtain⟨HNE,HNF,HSM⟩:=h3 he hf hsm;obtain⟨a2,k2,rfl,-,-,-⟩:=he;obtain⟨a3,k3,rfl,-,-,-⟩:=hf;have HO:=hide hown;go_wp2_with fail;refine (toStmt_any n _ _ _ HSM HNE HNF).mono ?_;rintro e w2 ⟨ve',vf',rfl,hoe,hof,hb2⟩;have hgl:=own_lt HO;have HOE:Hid (NodesO (w.heap.size+1) w2 ve' n.e):=hoe.mono o_;have HOF:Hid (NodesO (w.heap.size+1) w2 vf' n.f):=hof.mono o_;obtain⟨ge,xe,rfl,-,-⟩:=hoe;obtain⟨gf,xf,rfl,-,-⟩:=hof;have hown2:=owns_below HO hb2;obtain⟨⟨y0,o0⟩,f0⟩:=own_old hown2 (k*6) o_;obtain⟨⟨y1,o1⟩,f1⟩:=own_old hown2 (k*6+1) o_;obtain⟨⟨y2,o2⟩,f2⟩:=own_old hown2 (k*6+2) o_;obtain⟨⟨y3,o3⟩,f3⟩:=own_old hown2 (k*6+3) o_;obtain⟨⟨y4,o4⟩,f4⟩:=own_old hown2 (k*6+4) o_;obtain⟨⟨y5,o5⟩,f5⟩:=own_old hown2 (k*6+5) o_;have hB2:=hB.trans (hb2.mono hB.size);have HR:Hid _:=owns_put (encS n (.slice (some ⟨ge,0,none⟩) n.e.length n.e.length,.slice (some ⟨gf,0,none⟩) n.f.length n.f.length)) w2 xs (k*6) hown2;have HL:Hid (xs.length=ns.length*6):=hown2.1;have HB3:Hid _:=below_put n_ (encS n (.slice (some ⟨ge,0,none⟩) n.e.length n.e.length,.slice (some ⟨gf,0,none⟩) n.f.length n.f.length)) w2 (k*6) hB2;have HK2:Hid (Keep (w.heap.size+1) w2 (setMany w2 w.heap.size (k*6) (encS n (.slice (some ⟨ge,0,none⟩) n.e.length n.e.length,.slice (some ⟨gf,0,none⟩) n.f.length n.f.length)))):=Keep.of_set o_;have HKB:Hid (Keep (w.heap.size+1) wr w2):=Keep.of_below hb2;clear hown2 d0 d1 d2 d3 d4 d5;go_wp2_with fail;go_roundw
   case rel=>
    refine⟨k+1,_,λj=>if j=k then (.slice (some ⟨ge,0,none⟩) n.e.length n.e.length,.slice (some ⟨gf,0,none⟩) n.f.length n.f.length) else V j,by omega,by go_num,HR,HX.o.step (λj hj => ?_) ?_ rfl (by have:=HL.o;omega),λj hj hjk => ?_,HB3⟩
    ·dsimp only;rw[if_neg o_]
    ·dsimp only;rw[if_pos rfl,HN.o]
    ·by_cases e:j=k
     ·subst e;dsimp only;rw[if_pos rfl,HG.o];exact⟨HOE.o.keep HK2,HOF.o.keep HK2⟩
     ·dsimp only;rw[if_neg e];have h:=HV j hj o_;exact⟨(h.1.keep HKB).keep HK2,(h.2.keep HKB).keep HK2⟩
   case measure=>simp[RowKit.intOf];omega
  ·have HO:=hide hown;have HK:Hid (k=ns.length):=by show _=_;omega
   go_wp2;go_ret;exact⟨_,rfl,⟨w.heap.size,xs,V,rfl,HO,by rw[<-HK.o];exact HX,λj hj=>⟨(HV j hj (by have:=HK.o;omega)).1.mono o_,(HV j hj (by have:=HK.o;omega)).2.mono o_⟩⟩,hB⟩
end
section
variable {w w':World} {t u:TypeId} {v a0 a1 b0 b1 c0 c1:Value} {B:Nat} {ns:List Fu}
theorem box333 {v:TypeId} {a2 b2 c2:Value} (h:Below (w.heap.size+1+1+1) (((w.alloc (.cells #[a0,a1,a2] t)).alloc (.cells #[b0,b1,b2] u)).alloc (.cells #[c0,c1,c2] v)) w') :
  (w'.cell? ⟨w.heap.size,0,none⟩=some a0/\w'.cell? ⟨w.heap.size,1,none⟩=some a1/\w'.cell? ⟨w.heap.size,2,none⟩=some a2) /\
  (w'.cell? ⟨w.heap.size+1,0,none⟩=some b0/\w'.cell? ⟨w.heap.size+1,1,none⟩=some b1/\w'.cell? ⟨w.heap.size+1,2,none⟩=some b2) /\
  (w'.cell? ⟨w.heap.size+1+1,0,none⟩=some c0/\w'.cell? ⟨w.heap.size+1+1,1,none⟩=some c1/\w'.cell? ⟨w.heap.size+1+1,2,none⟩=some c2) /\
  (∀i,w'.frozen? ⟨w.heap.size+1,i,none⟩=false)/\(∀i,w'.frozen? ⟨w.heap.size+1+1,i,none⟩=false):=by
 refine⟨⟨?_,?_,?_⟩,⟨?_,?_,?_⟩,⟨?_,?_,?_⟩,λi => ?_,λi => ?_⟩;all_goals first
  | (rw[h.cell (by first|(simp;done)|(simp;omega))];go_simp;done)
  | (rw[h.frozen (by first|(simp;done)|(simp;omega))];go_simp;done)
theorem box222 {v:TypeId} (h:Below (w.heap.size+1+1+1) (((w.alloc (.cells #[a0,a1] t)).alloc (.cells #[b0,b1] u)).alloc (.cells #[c0,c1] v)) w') :
  (w'.cell? ⟨w.heap.size,0,none⟩=some a0/\w'.cell? ⟨w.heap.size,1,none⟩=some a1) /\
  (w'.cell? ⟨w.heap.size+1,0,none⟩=some b0/\w'.cell? ⟨w.heap.size+1,1,none⟩=some b1) /\
  (w'.cell? ⟨w.heap.size+1+1,0,none⟩=some c0/\w'.cell? ⟨w.heap.size+1+1,1,none⟩=some c1) /\
  (∀i,w'.frozen? ⟨w.heap.size+1,i,none⟩=false)/\(∀i,w'.frozen? ⟨w.heap.size+1+1,i,none⟩=false):=by
 refine⟨⟨?_,?_⟩,⟨?_,?_⟩,⟨?_,?_⟩,λi => ?_,λi => ?_⟩;all_goals first
  | (rw[h.cell (by first|(simp;done)|(simp;omega))];go_simp;done)
  | (rw[h.frozen (by first|(simp;done)|(simp;omega))];go_simp;done)
theorem toFunc_any (f:Fu) (vp vb:Value) (w:World) (hs:smallF f) (hp:Strs w vp f.params) (hb:Stmts w vb f.body) :
  Calls prog 65 #[.agg #[.string f.name,vp,vb]] w λe w'=>∃vp' vb',e=.returned (.agg #[.string f.name,vp',vb'])/\StrsO w.heap.size w' vp' f.params/\StmtsO w.heap.size w' vb' f.body/\Below w.heap.size w w':=by
 obtain⟨n,es,fs⟩:=f;have hse:es.length<=1048576:=hs.1;have hsf:fs.length<=1048576:=hs.2.1;have HSM:Hid (∀s∈fs,smallS s):=hs.2.2;simp only at hp hb ⊢;obtain⟨HE,HF⟩:=h2 hp hb;obtain⟨ae,ce,rfl,-,-,-⟩:=hp;obtain⟨af,cf,rfl,-,-,-⟩:=hb;have hA:Bl w (((w.alloc (.cells #[.string n,.slice ae es.length ce,.slice af fs.length cf] 109)).alloc (.cells #[.string ⟨#[]⟩,.slice none 0 0,.slice none 0 0] 97)).alloc (.cells #[.string n,.slice none 0 0,.slice none 0 0] 97)):=((bel_a _ _).alloc (by simp) _).alloc (by simp;omega) _;go_enter func65,ntmps65;go_wp2_with fail;refine (toStrs_any _ es _ hse (HE.o.below hA)).mono ?_;rintro e w1 ⟨v1,rfl,ho1,hb1⟩;simp only[World.size_alloc] at ho1 hb1;have HO1:=hide ho1;obtain⟨g1,xs1,rfl,-,-⟩:=ho1;have hz1:w.heap.size+1+1+1<=w1.heap.size:=by have:=hb1.size;simpa using this
 have hB1:=hA.trans (hb1.mono o_);obtain⟨⟨a0,a1,a2⟩,⟨b0,b1,b2⟩,⟨c0,c1,c2⟩,fb,fc⟩:=box333 hb1;go_wp2_with fail;have hB1s:=hB1.setCell (p:=⟨w.heap.size+1+1,1,none⟩) (by simp;omega) (.slice (some ⟨g1,0,none⟩) es.length es.length);refine (toStmts_any _ fs _ hsf HSM (HF.o.below hB1s)).mono ?_;rintro e w2 ⟨v2,rfl,ho2,hb2⟩;have HO2:=hide ho2;obtain⟨g2,xs2,V2,rfl,-,-,-⟩:=ho2;have hz2:w1.heap.size<=w2.heap.size:=by have:=hb2.size;simpa using this
 have hB2:=hB1s.trans (hb2.mono (by simp;omega));have C0:w2.cell? ⟨w.heap.size+1+1,0,none⟩=some (.string n):=by rw[hb2.cell (by simp;omega)];go_simp
 have C1:w2.cell? ⟨w.heap.size+1+1,1,none⟩=some (.slice (some ⟨g1,0,none⟩) es.length es.length):=by rw[hb2.cell (by simp;omega)];go_simp
 have C2:w2.cell? ⟨w.heap.size+1+1,2,none⟩=some (.slice none 0 0):=by rw[hb2.cell (by simp;omega)];go_simp
 have B0:w2.cell? ⟨w.heap.size+1,0,none⟩=some (.string ⟨#[]⟩):=by rw[hb2.cell (by simp;omega)];go_simp
 have B1:w2.cell? ⟨w.heap.size+1,1,none⟩=some (.slice none 0 0):=by rw[hb2.cell (by simp;omega)];go_simp
 have B2:w2.cell? ⟨w.heap.size+1,2,none⟩=some (.slice none 0 0):=by rw[hb2.cell (by simp;omega)];go_simp
 have FB : ∀i,w2.frozen? ⟨w.heap.size+1,i,none⟩=false:=λi=>by rw[hb2.frozen (by simp;omega)];go_simp
 have FC : ∀i,w2.frozen? ⟨w.heap.size+1+1,i,none⟩=false:=λi=>by rw[hb2.frozen (by simp;omega)];go_simp
 have K12:Keep (w.heap.size+1+1+1) w1 w2:=((Keep.refl _ _).setCell (by simp)).trans (by simp) (Keep.of_below hb2);obtain⟨HK,HO2'⟩:=h2 K12 (HO2.o.mono (by simp;omega));go_wp2_with fail;refine bodyPost_ret (v:=.agg #[.string n,.slice (some ⟨g1,0,none⟩) es.length es.length,.slice (some ⟨g2,0,none⟩) fs.length fs.length]) (by simp[results,results65,go_sem,B0,B1,B2]) rfl ⟨_,_,rfl,?_,?_,?_⟩
 ·exact ((HO1.o.keep HK).keep (((((Keep.refl _ _).setCell (by first|(simp;done)|(simp;omega))).setCell (by first|(simp;done)|(simp;omega))).setCell (by first|(simp;done)|(simp;omega))).setCell (by first|(simp;done)|(simp;omega)))).mono o_
 ·exact (HO2'.o.keep (((((Keep.refl _ _).setCell (by first|(simp;done)|(simp;omega))).setCell (by first|(simp;done)|(simp;omega))).setCell (by first|(simp;done)|(simp;omega))).setCell (by first|(simp;done)|(simp;omega)))).mono o_
 ·exact ((((hB2).setCell (by first|(simp;done)|(simp;omega)) _).setCell (by first|(simp;done)|(simp;omega)) _).setCell (by first|(simp;done)|(simp;omega)) _).setCell (by first|(simp;done)|(simp;omega)) _
def encF (f:Fu) (v:Value × Value):List Value:=[.string f.name,v.1,v.2]
def dFu:Fu:=⟨⟨#[]⟩,[],[]⟩
def FuncsO (B:Nat) (w:World) (v:Value) (ns:List Fu):Prop:=∃(g:Nat) (xs:List Value) (V:Nat->Value × Value),v=.slice (some ⟨g,0,none⟩) ns.length ns.length/\w.ownsRow B 97 3 v ns.length xs/\RowIs (λj=>encF (ns.getD j dFu) (V j)) 3 ns.length xs/\∀j (h:j<ns.length),StrsO B w (V j).1 ns[j].params/\StmtsO B w (V j).2 ns[j].body
theorem FuncsO.funcs (h:FuncsO B w v ns) (hm:ns.length<=9223372036854775807) (hs : ∀s∈ns,smallF s):Funcs w v ns:=by
 obtain⟨g,xs,V,rfl,ho,hx,hn⟩:=h;refine⟨_,_,rfl,n_,hm,λh0=>⟨g,0,rfl,λj hj => ?_⟩⟩;have hl:=ho.1;have key : ∀i,i<3->w.cell? ⟨g,0+j*3+i,none⟩=(encF ns[j] (V j))[i]? := λi hi=>by
  rw[Nat.zero_add,ho.cellAt (j*3+i) o_,hx j hj i hi];simp[List.getD,hj]
 have hsm:=hs ns[j] (g_ hj);exact⟨(V j).1,(V j).2,⟨key 0 o_,key 1 o_,key 2 o_⟩,(hn j hj).1.strs (by have:=hsm.1;omega),(hn j hj).2.stmts (by have:=hsm.2.1;omega) hsm.2.2⟩
theorem FuncsO.keep (h:FuncsO B w v ns) (hb:Keep B w w'):FuncsO B w' v ns:=by
 obtain⟨g,xs,V,rfl,ho,hx,hn⟩:=h;exact⟨g,xs,V,rfl,owns_keep ho hb,hx,λj hj=>⟨(hn j hj).1.keep hb,(hn j hj).2.keep hb⟩⟩
theorem FuncsO.mono {B':Nat} (h:FuncsO B w v ns) (hb:B'<=B):FuncsO B' w v ns:=by
 obtain⟨g,xs,V,rfl,ho,hx,hn⟩:=h;exact⟨g,xs,V,rfl,owns_mono ho hb,hx,λj hj=>⟨(hn j hj).1.mono hb,(hn j hj).2.mono hb⟩⟩
theorem inf_func:(prog.info? 97).map (λi=>(i.zero,i.size,i.bytes))=some (some (.agg #[.string ⟨#[]⟩,.slice none 0 0,.slice none 0 0]),3,64):=by kernel_rfl
theorem toFuncs_any (v:Value) (ns:List Fu) (w:World) (hl:ns.length<=1048576) (hs : ∀s∈ns,smallF s) (hc:Funcs w v ns) :
  Calls prog 34 #[v] w λe w'=>∃v',e=.returned v'/\FuncsO w.heap.size w' v' ns/\Below w.heap.size w w':=by
 have HS:=hide hs;obtain⟨a,cap,rfl,hcl,hcm,hc⟩:=hc;have HC:=hide hc;clear hc hs;obtain⟨i0,hi,hz0,hz1,hz2⟩:=info_parts inf_func;go_enter func34,ntmps34;go_wp2_with (at_make;refine wpList_make_full _ rfl _ _ 32 rfl w.heap.size 97 i0 (.agg #[.string ⟨#[]⟩,.slice none 0 0,.slice none 0 0]) 3 underlying32 hi hz0 hz1 _ _ _ _ ns.length rfl rfl o_ o_ ?_ ?_ n_ ?_)
 ·rw[hz2];omega
 ·unfold maxLen;omega
 intro w1 hown1 hgrow1;have hnx1:Bl w w1:=r_.grown hgrow1 n_ (by simp);go_wp2_with fail;go_loopw [4] (λi wr=>∃(k:Nat) (xs:List Value) (V:Nat->Value × Value),k<=ns.length/\i=.int .i64 k/\wr.ownsRow w.heap.size 97 3 (.slice (some ⟨w.heap.size,0,none⟩) ns.length ns.length) ns.length xs/\RowIs (λj=>encF (ns.getD j dFu) (V j)) 3 k xs/\(∀j (h:j<ns.length),j<k->StrsO (w.heap.size+1) wr (V j).1 ns[j].params/\StmtsO (w.heap.size+1) wr (V j).2 ns[j].body)/\Bl w wr)
  (λi _=>ns.length-(RowKit.intOf i).toNat)
 case atStart=>exact⟨0,_,λ_=>(.nilFunc,.nilFunc),y_,rfl,hown1,RowIs.zero _ _ _,λj _ hj=>absurd hj (Nat.not_lt_zero _),hnx1⟩
 case round=>
  obtain⟨k,xs,V,hk,rfl,hown,hxs,hV,hB⟩:=hrel;obtain⟨HX,HV⟩:=h2 hxs hV;clear hxs hV;by_cases hlt:k<ns.length
  ·obtain⟨b,off,rfl,hc⟩:=HC o_;obtain⟨ve,vf,⟨d0,d1,d2⟩,he,hf⟩:=(hc.below hB) k hlt;have hsm:=HS ns[k] (g_ hlt);have HN:Hid (ns.getD k dFu=ns[k]):=by show _=_;simp[List.getD,hlt]
   have HNK:Hid (∀h:k<ns.length,ns[k]=ns[k]):=λ_=>rfl;generalize hgen:ns[k]=n at d0 d1 d2 he hf HN hsm;have HG:=hide hgen;clear hgen HNK;obtain⟨HNE,HNF,HSM⟩:=h3 he hf hsm;obtain⟨a2,k2,rfl,-,-,-⟩:=he;obtain⟨a3,k3,rfl,-,-,-⟩:=hf;have HO:=hide hown;go_wp2_with fail;refine (toFunc_any n _ _ _ HSM HNE HNF).mono ?_;rintro e w2 ⟨ve',vf',rfl,hoe,hof,hb2⟩;have hgl:=own_lt HO;have HOE:Hid (StrsO (w.heap.size+1) w2 ve' n.params):=hoe.mono o_;have HOF:Hid (StmtsO (w.heap.size+1) w2 vf' n.body):=hof.mono o_;obtain⟨ge,xe,rfl,-,-⟩:=hoe;obtain⟨gf,xf,Vf,rfl,-,-,-⟩:=hof;have hown2:=owns_below HO hb2;obtain⟨⟨y0,o0⟩,f0⟩:=own_old hown2 (k*3) o_;obtain⟨⟨y1,o1⟩,f1⟩:=own_old hown2 (k*3+1) o_;obtain⟨⟨y2,o2⟩,f2⟩:=own_old hown2 (k*3+2) o_;have hB2:=hB.trans (hb2.mono hB.size);have HR:Hid _:=owns_put (encF n (.slice (some ⟨ge,0,none⟩) n.params.length n.params.length,.slice (some ⟨gf,0,none⟩) n.body.length n.body.length)) w2 xs (k*3) hown2;have HL:Hid (xs.length=ns.length*3):=hown2.1;have HB3:Hid _:=below_put n_ (encF n (.slice (some ⟨ge,0,none⟩) n.params.length n.params.length,.slice (some ⟨gf,0,none⟩) n.body.length n.body.length)) w2 (k*3) hB2;have HK2:Hid (Keep (w.heap.size+1) w2 (setMany w2 w.heap.size (k*3) (encF n (.slice (some ⟨ge,0,none⟩) n.params.length n.params.length,.slice (some ⟨gf,0,none⟩) n.body.length n.body.length)))):=Keep.of_set o_;have HKB:Hid (Keep (w.heap.size+1) wr w2):=Keep.of_below hb2;clear hown2 d0 d1 d2;go_wp2_with fail;go_roundw
   case rel=>
    refine⟨k+1,_,λj=>if j=k then (.slice (some ⟨ge,0,none⟩) n.params.length n.params.length,.slice (some ⟨gf,0,none⟩) n.body.length n.body.length) else V j,by omega,by go_num,HR,HX.o.step (λj hj => ?_) ?_ rfl (by have:=HL.o;omega),λj hj hjk => ?_,HB3⟩
    ·dsimp only;rw[if_neg o_]
    ·dsimp only;rw[if_pos rfl,HN.o]
    ·by_cases e:j=k
     ·subst e;dsimp only;rw[if_pos rfl,HG.o];exact⟨HOE.o.keep HK2,HOF.o.keep HK2⟩
     ·dsimp only;rw[if_neg e];have h:=HV j hj o_;exact⟨(h.1.keep HKB).keep HK2,(h.2.keep HKB).keep HK2⟩
   case measure=>simp[RowKit.intOf];omega
  ·have HO:=hide hown;have HK:Hid (k=ns.length):=by show _=_;omega
   go_wp2;go_ret;exact⟨_,rfl,⟨w.heap.size,xs,V,rfl,HO,by rw[<-HK.o];exact HX,λj hj=>⟨(HV j hj (by have:=HK.o;omega)).1.mono o_,(HV j hj (by have:=HK.o;omega)).2.mono o_⟩⟩,hB⟩
theorem toTree_any (t:Tr) (vg vf:Value) (w:World) (hs:smallT t) (hg:Globs w vg t.globals) (hf:Funcs w vf t.funcs) :
  Calls prog 8 #[.agg #[vg,vf]] w λe w'=>∃vg' vf',e=.returned (.agg #[vg',vf'])/\GlobsO w.heap.size w' vg' t.globals/\FuncsO w.heap.size w' vf' t.funcs/\Below w.heap.size w w':=by
 obtain⟨es,fs⟩:=t;have hse:es.length<=1048576:=hs.1;have hsf:fs.length<=1048576:=hs.2.1;have HSM:Hid (∀s∈fs,smallF s):=hs.2.2;simp only at hg hf ⊢;obtain⟨HE,HF⟩:=h2 hg hf;obtain⟨ae,ce,rfl,-,-,-⟩:=hg;obtain⟨af,cf,rfl,-,-,-⟩:=hf;have hA:Bl w (((w.alloc (.cells #[.slice ae es.length ce,.slice af fs.length cf] 25)).alloc (.cells #[.slice none 0 0,.slice none 0 0] 34)).alloc (.cells #[.slice none 0 0,.slice none 0 0] 34)):=((bel_a _ _).alloc (by simp) _).alloc (by simp;omega) _;go_enter func8,ntmps8;go_wp2_with fail;refine (toGlobs_any _ es _ hse (HE.o.below hA)).mono ?_;rintro e w1 ⟨v1,rfl,ho1,hb1⟩;simp only[World.size_alloc] at ho1 hb1;have HO1:=hide ho1;obtain⟨g1,xs1,rfl,-,-⟩:=ho1;have hz1:w.heap.size+1+1+1<=w1.heap.size:=by have:=hb1.size;simpa using this
 have hB1:=hA.trans (hb1.mono o_);obtain⟨⟨a0,a1⟩,⟨b0,b1⟩,⟨c0,c1⟩,fb,fc⟩:=box222 hb1;go_wp2_with fail;have hB1s:=hB1.setCell (p:=⟨w.heap.size+1+1,0,none⟩) (by simp;omega) (.slice (some ⟨g1,0,none⟩) es.length es.length);refine (toFuncs_any _ fs _ hsf HSM (HF.o.below hB1s)).mono ?_;rintro e w2 ⟨v2,rfl,ho2,hb2⟩;have HO2:=hide ho2;obtain⟨g2,xs2,V2,rfl,-,-,-⟩:=ho2;have hz2:w1.heap.size<=w2.heap.size:=by have:=hb2.size;simpa using this
 have hB2:=hB1s.trans (hb2.mono (by simp;omega));have C0:w2.cell? ⟨w.heap.size+1+1,0,none⟩=some (.slice (some ⟨g1,0,none⟩) es.length es.length):=by rw[hb2.cell (by simp;omega)];go_simp
 have C1:w2.cell? ⟨w.heap.size+1+1,1,none⟩=some (.slice none 0 0):=by rw[hb2.cell (by simp;omega)];go_simp
 have B0:w2.cell? ⟨w.heap.size+1,0,none⟩=some (.slice none 0 0):=by rw[hb2.cell (by simp;omega)];go_simp
 have B1:w2.cell? ⟨w.heap.size+1,1,none⟩=some (.slice none 0 0):=by rw[hb2.cell (by simp;omega)];go_simp
 have FB : ∀i,w2.frozen? ⟨w.heap.size+1,i,none⟩=false:=λi=>by rw[hb2.frozen (by simp;omega)];go_simp
 have FC : ∀i,w2.frozen? ⟨w.heap.size+1+1,i,none⟩=false:=λi=>by rw[hb2.frozen (by simp;omega)];go_simp
 have K12:Keep (w.heap.size+1+1+1) w1 w2:=((Keep.refl _ _).setCell (by simp)).trans (by simp) (Keep.of_below hb2);obtain⟨HK,HO2'⟩:=h2 K12 (HO2.o.mono (by simp;omega));go_wp2_with fail;refine bodyPost_ret (v:=.agg #[.slice (some ⟨g1,0,none⟩) es.length es.length,.slice (some ⟨g2,0,none⟩) fs.length fs.length]) (by simp[results,results8,go_sem,B0,B1]) rfl ⟨_,_,rfl,?_,?_,?_⟩
 ·exact ((HO1.o.keep HK).keep ((((Keep.refl _ _).setCell (by first|(simp;done)|(simp;omega))).setCell (by first|(simp;done)|(simp;omega))).setCell (by first|(simp;done)|(simp;omega)))).mono o_
 ·exact (HO2'.o.keep ((((Keep.refl _ _).setCell (by first|(simp;done)|(simp;omega))).setCell (by first|(simp;done)|(simp;omega))).setCell (by first|(simp;done)|(simp;omega)))).mono o_
 ·exact (((hB2).setCell (by first|(simp;done)|(simp;omega)) _).setCell (by first|(simp;done)|(simp;omega)) _).setCell (by first|(simp;done)|(simp;omega)) _
end
section
variable {B T g i t m n:Nat} {w w':World} {cur cur':Array Value} {u v:Value} {ss:List St} {fs:List Fu}
structure MSh (B T:Nat) (w w':World):Prop where
 os:w'.os=w.os
 tape:w'.tape=w.tape
 output:w'.output=w.output
 size:w.heap.size<=w'.heap.size
 block : ∀k,k<w.heap.size->w'.heap[k]? = w.heap[k]? ∨ (B<=k/\k<T/\∃cur cur' t,w.heap[k]? = some (.cells cur t (0,0))/\w'.heap[k]? = some (.cells cur' t (0,0))/\cur'.size=cur.size/\∀(i:Nat) (a:Option Addr) (n c:Nat),cur'[i]? = some (.slice a n c)↔cur[i]? = some (.slice a n c))
theorem MSh.refl (B T:Nat) (w:World):MSh B T w w:=⟨rfl,rfl,rfl,n_,λ_ _=>.inl rfl⟩
theorem MSh.trans {w1 w2 w3:World} (h:MSh B T w1 w2) (k:MSh B T w2 w3):MSh B T w1 w3:=by
 refine⟨k.os.trans h.os,k.tape.trans h.tape,k.output.trans h.output,t_ h.size k.size,λi hi => ?_⟩;rcases h.block i hi with h1|⟨b1,t1,c1,c2,t,e1,e2,s1,m1⟩
 ·rcases k.block i (by have:=h.size;omega) with h2|⟨b2,t2,d1,d2,u,f1,f2,s2,m2⟩
  ·exact .inl (h2.trans h1)
  ·exact .inr ⟨b2,t2,d1,d2,u,h1.symm.trans f1,f2,s2,m2⟩
 ·rcases k.block i (by have:=h.size;omega) with h2|⟨b2,t2,d1,d2,u,f1,f2,s2,m2⟩
  ·exact .inr ⟨b1,t1,c1,c2,t,e1,h2.trans e2,s1,m1⟩
  ·rw[e2] at f1;injection f1 with f1
   injection f1 with f1 f1' _
   subst f1;subst f1';exact .inr ⟨b1,t1,c1,d2,t,e1,f2,s2.trans s1,λi a n c=>(m2 i a n c).trans (m1 i a n c)⟩
theorem MSh.of_below (h:Below w.heap.size w w'):MSh B T w w':=⟨h.os,h.tape,h.output,h.size,λk hk=>.inl (h.block k hk)⟩
theorem MSh.below (h:MSh B T w w') (hB:B<=w.heap.size):Below B w w':=by
 refine⟨h.os,h.tape,h.output,h.size,λk hk => ?_⟩;rcases h.block k o_ with h1|⟨b1,_⟩
 ·exact h1
 ·omega
theorem MSh.keep (h:MSh B T w w'):Keep T w w':=by
 intro k hk hl;rcases h.block k hl with h1|⟨_,b2,_⟩
 ·exact h1
 ·omega
def plainV (v:Value):Prop:=∀a n c,v ≠ .slice a n c
theorem MSh.set {t:TypeId} (hg:w.heap[g]? = some (.cells cur t (0,0))) (hB:B<=g) (hT:g<T) (hv:cur[i]? = some v) (pv:plainV v) (pu:plainV u):MSh B T w (w.setCell ⟨g,i,none⟩ u):=by
 refine⟨rfl,rfl,rfl,by simp,λk hk => ?_⟩;by_cases e:k=g
 ·subst e;refine .inr ⟨hB,hT,cur,cur.setIfInBounds i u,t,hg,heap_setCell_same w k i cur t u hg,by simp,λj a n c => ?_⟩;have hi:i<cur.size:=(Array.getElem?_eq_some_iff.1 hv).1;rw[Array.getElem?_setIfInBounds];by_cases ej:i=j
  ·subst ej;rw[if_pos rfl,if_pos hi,hv];constructor
   ·intro h;exact absurd (Option.some.inj h) (pu a n c)
   ·intro h;exact absurd (Option.some.inj h) (pv a n c)
  ·rw[if_neg ej]
 ·exact .inl (Below.heap_setCell w ⟨g,i,none⟩ u k e)
def RowM (B T:Nat) (t m:Nat) (w:World) (v:Value) (n:Nat) (C:Array Value->Prop):Prop:=∃g cur,v=.slice (some ⟨g,0,none⟩) n n/\B<=g/\g<T/\w.heap[g]? = some (.cells cur t (0,0))/\cur.size=n*m/\C cur
def plainAll (cur:Array Value):Prop:=∀(i:Nat) (v:Value),cur[i]? = some v->plainV v
theorem RowM.sh {C:Array Value->Prop} (h:RowM B T t m w v n C) (s:MSh B T w w') (hC : ∀cur cur':Array Value,cur'.size=cur.size->(∀(i:Nat) (a:Option Addr) (n c:Nat),cur'[i]? = some (.slice a n c)↔cur[i]? = some (.slice a n c))->C cur->C cur'):RowM B T t m w' v n C:=by
 obtain⟨g,cur,rfl,hB,hT,hg,hz,hc⟩:=h;have hlt:=(Array.getElem?_eq_some_iff.1 hg).1;rcases s.block g hlt with h1|⟨_,_,c1,c2,u,e1,e2,s1,m1⟩
 ·exact⟨g,cur,rfl,hB,hT,h1.trans hg,hz,hc⟩
 ·rw[hg] at e1;injection e1 with e1
  injection e1 with e1 e1' _
  subst e1;subst e1';exact⟨g,c2,rfl,hB,hT,e2,s1.trans hz,hC _ _ s1 m1 hc⟩
theorem plainAll_sh (cur cur':Array Value) (hs:cur'.size=cur.size) (h : ∀(i:Nat) (a:Option Addr) (n c:Nat),cur'[i]? = some (.slice a n c)↔cur[i]? = some (.slice a n c)) (hp:plainAll cur):plainAll cur':=by
 intro i v hv a n c e;subst e;exact hp i _ ((h i a n c).1 hv) a n c rfl
def PlainM (B T:Nat) (t m:Nat) (w:World) (v:Value) (n:Nat):Prop:=RowM B T t m w v n plainAll
theorem PlainM.sh (h:PlainM B T t m w v n) (s:MSh B T w w'):PlainM B T t m w' v n:=RowM.sh h s plainAll_sh
theorem rowm_cell {t:TypeId} (hg:w.heap[g]? = some (.cells cur t (0,0))) (hi:i<cur.size):w.cell? ⟨g,i,none⟩=some cur[i]/\w.frozen? ⟨g,i,none⟩=false:=by
 refine⟨?_,frozen_of_row w g i cur t hg⟩;rw[cell_of_row w g i cur t (0,0) hg];simp[hi]
theorem plain_int (k:IntKind) (n:Int):plainV (.int k n):=λ_ _ _ h=>by cases h
theorem plain_str (s:ByteArray):plainV (.string s):=λ_ _ _ h=>by cases h
theorem PlainM.set (h:PlainM B T t m w (.slice (some ⟨g,0,none⟩) n n) n) (hi:i<n*m) (pu:plainV u):MSh B T w (w.setCell ⟨g,i,none⟩ u):=by
 obtain⟨g',cur,he,hB,hT,hg,hz,hc⟩:=h;simp only[Value.slice.injEq,Option.some.injEq,Addr.mk.injEq,and_true,true_and] at he;subst he;exact MSh.set hg hB hT (v:=cur[i]' o_) (by simp) (hc i _ (by simp)) pu
theorem PlainM.old (h:PlainM B T t m w (.slice (some ⟨g,0,none⟩) n n) n) (hi:i<n*m):(∃y,w.cell? ⟨g,i,none⟩=some y)/\w.frozen? ⟨g,i,none⟩=false:=by
 obtain⟨g',cur,he,hB,hT,hg,hz,hc⟩:=h;simp only[Value.slice.injEq,Option.some.injEq,Addr.mk.injEq,and_true,true_and] at he;subst he;have:=rowm_cell (i:=i) hg o_
 exact⟨⟨_,this.1⟩,this.2⟩
def StmtsM (B T:Nat) (w:World) (v:Value) (ss:List St):Prop:=∃g cur,v=.slice (some ⟨g,0,none⟩) ss.length ss.length/\B<=g/\g<T/\w.heap[g]? = some (.cells cur 132 (0,0))/\cur.size=ss.length*6 /\
 ∀j (h:j<ss.length),(∃ve vf,cur[j*6+2]? = some ve/\cur[j*6+3]? = some vf/\PlainM B T 134 3 w ve ss[j].e.length/\PlainM B T 134 3 w vf ss[j].f.length) /\
  ∀i,i=0∨i=1∨i=4∨i=5->∀v,cur[j*6+i]? = some v->plainV v
def FuncsM (B T:Nat) (w:World) (v:Value) (fs:List Fu):Prop:=∃g cur,v=.slice (some ⟨g,0,none⟩) fs.length fs.length/\B<=g/\g<T/\w.heap[g]? = some (.cells cur 97 (0,0))/\cur.size=fs.length*3 /\
 ∀j (h:j<fs.length),(∃vp vb,cur[j*3+1]? = some vp/\cur[j*3+2]? = some vb/\PlainM B T 9 1 w vp fs[j].params.length/\StmtsM B T w vb fs[j].body)/\∀v,cur[j*3]? = some v->plainV v
theorem slice_kept (m1 : ∀(i:Nat) (a:Option Addr) (n c:Nat),cur'[i]? = some (.slice a n c)↔cur[i]? = some (.slice a n c)) (h:cur[i]? = some v) (hv : ∃a n c,v=.slice a n c):cur'[i]? = some v:=by
 obtain⟨a,n,c,rfl⟩:=hv;exact (m1 i a n c).2 h
theorem plain_kept (hs:cur'.size=cur.size) (m1 : ∀(i:Nat) (a:Option Addr) (n c:Nat),cur'[i]? = some (.slice a n c)↔cur[i]? = some (.slice a n c)) (h : ∀v,cur[i]? = some v->plainV v) : ∀v,cur'[i]? = some v->plainV v:=by
 intro v hv a n c e;subst e;exact h _ ((m1 i a n c).1 hv) a n c rfl
theorem PlainM.isSlice (h:PlainM B T t m w v n) : ∃a n c,v=.slice a n c:=by
 obtain⟨g,cur,rfl,_⟩:=h;exact⟨_,_,_,rfl⟩
theorem StmtsM.isSlice (h:StmtsM B T w v ss) : ∃a n c,v=.slice a n c:=by
 obtain⟨g,cur,rfl,_⟩:=h;exact⟨_,_,_,rfl⟩
theorem StmtsM.sh (h:StmtsM B T w v ss) (s:MSh B T w w'):StmtsM B T w' v ss:=by
 obtain⟨g,cur,rfl,hB,hT,hg,hz,hc⟩:=h;have hlt:=(Array.getElem?_eq_some_iff.1 hg).1;rcases s.block g hlt with h1|⟨_,_,c1,c2,u,e1,e2,s1,m1⟩
 ·refine⟨g,cur,rfl,hB,hT,h1.trans hg,hz,λj hj => ?_⟩;obtain⟨⟨ve,vf,k2,k3,p2,p3⟩,hp⟩:=hc j hj;exact⟨⟨ve,vf,k2,k3,p2.sh s,p3.sh s⟩,hp⟩
 ·rw[hg] at e1;injection e1 with e1
  injection e1 with e1 e1' _
  subst e1;subst e1';refine⟨g,c2,rfl,hB,hT,e2,s1.trans hz,λj hj => ?_⟩;obtain⟨⟨ve,vf,k2,k3,p2,p3⟩,hp⟩:=hc j hj;exact⟨⟨ve,vf,slice_kept m1 k2 p2.isSlice,slice_kept m1 k3 p3.isSlice,p2.sh s,p3.sh s⟩,λi hi=>plain_kept s1 m1 (hp i hi)⟩
theorem FuncsM.sh (h:FuncsM B T w v fs) (s:MSh B T w w'):FuncsM B T w' v fs:=by
 obtain⟨g,cur,rfl,hB,hT,hg,hz,hc⟩:=h;have hlt:=(Array.getElem?_eq_some_iff.1 hg).1;rcases s.block g hlt with h1|⟨_,_,c1,c2,u,e1,e2,s1,m1⟩
 ·refine⟨g,cur,rfl,hB,hT,h1.trans hg,hz,λj hj => ?_⟩;obtain⟨⟨ve,vf,k2,k3,p2,p3⟩,hp⟩:=hc j hj;exact⟨⟨ve,vf,k2,k3,p2.sh s,p3.sh s⟩,hp⟩
 ·rw[hg] at e1;injection e1 with e1
  injection e1 with e1 e1' _
  subst e1;subst e1';refine⟨g,c2,rfl,hB,hT,e2,s1.trans hz,λj hj => ?_⟩;obtain⟨⟨ve,vf,k2,k3,p2,p3⟩,hp⟩:=hc j hj;exact⟨⟨ve,vf,slice_kept m1 k2 p2.isSlice,slice_kept m1 k3 p3.isSlice,p2.sh s,p3.sh s⟩,plain_kept s1 m1 hp⟩
theorem StmtsM.at (h:StmtsM B T w (.slice (some ⟨g,0,none⟩) ss.length ss.length) ss) (j:Nat) (hj:j<ss.length) :
  ∃ve vf,w.cell? ⟨g,j*6+2,none⟩=some ve/\w.cell? ⟨g,j*6+3,none⟩=some vf/\PlainM B T 134 3 w ve ss[j].e.length/\PlainM B T 134 3 w vf ss[j].f.length /\
   ∀i,i=0∨i=1∨i=4∨i=5->(∃y,w.cell? ⟨g,j*6+i,none⟩=some y)/\w.frozen? ⟨g,j*6+i,none⟩=false/\∀u,plainV u->MSh B T w (w.setCell ⟨g,j*6+i,none⟩ u):=by
 obtain⟨g',cur,he,hB,hT,hg,hz,hc⟩:=h;simp only[Value.slice.injEq,Option.some.injEq,Addr.mk.injEq,and_true,true_and] at he;subst he;obtain⟨⟨ve,vf,k2,k3,p2,p3⟩,hp⟩:=hc j hj;refine⟨ve,vf,?_,?_,p2,p3,λi hi => ?_⟩
 ·rw[cell_of_row w g _ cur _ (0,0) hg];exact k2
 ·rw[cell_of_row w g _ cur _ (0,0) hg];exact k3
 ·have hlt:j*6+i<cur.size:=by omega
  have:=rowm_cell hg hlt
  exact⟨⟨_,this.1⟩,this.2,λu pu=>MSh.set hg hB hT (v:=cur[j*6+i]) (by simp[hlt]) (hp i hi _ (by simp[hlt])) pu⟩
theorem FuncsM.at (h:FuncsM B T w (.slice (some ⟨g,0,none⟩) fs.length fs.length) fs) (j:Nat) (hj:j<fs.length) :
  ∃vp vb,w.cell? ⟨g,j*3+1,none⟩=some vp/\w.cell? ⟨g,j*3+2,none⟩=some vb/\PlainM B T 9 1 w vp fs[j].params.length/\StmtsM B T w vb fs[j].body /\
   (∃y,w.cell? ⟨g,j*3,none⟩=some y)/\w.frozen? ⟨g,j*3,none⟩=false/\∀u,plainV u->MSh B T w (w.setCell ⟨g,j*3,none⟩ u):=by
 obtain⟨g',cur,he,hB,hT,hg,hz,hc⟩:=h;simp only[Value.slice.injEq,Option.some.injEq,Addr.mk.injEq,and_true,true_and] at he;subst he;obtain⟨⟨ve,vf,k2,k3,p2,p3⟩,hp⟩:=hc j hj;have hlt:j*3<cur.size:=by omega
 have:=rowm_cell hg hlt
 refine⟨ve,vf,?_,?_,p2,p3,⟨_,this.1⟩,this.2,λu pu=>MSh.set hg hB hT (v:=cur[j*3]) (by simp[hlt]) (hp _ (by simp[hlt])) pu⟩
 ·rw[cell_of_row w g _ cur _ (0,0) hg];exact k2
 ·rw[cell_of_row w g _ cur _ (0,0) hg];exact k3
end
theorem ret_int' {k:IntKind} {a b:Int} (h:a=b):Ending.returned (.int k a)=.returned (.int k b):=by rw[h]
theorem markNodes_any (B T:Nat) (v:Value) (n k:Nat) (w:World) (hn:n<=1048576) (h0:0<k) (hk:(k:Int)+3*n<=1000000000) (h:PlainM B T 134 3 w v n) :
  Calls prog 113 #[v,.int .i64 k] w λe w'=>e=.returned (.int .i64 ((k+3*n:Nat):Int))/\MSh B T w w':=by
 have HP:=hide h;obtain⟨g,cur,rfl,-,-,-,-,-⟩:=h;go_enter func113,ntmps113;go_wp2_with fail;go_loopw [1,5] (λq i wr=>∃j:Nat,j<=n/\i=.int .i64 j/\q=.int .i64 ((k+3*j:Nat):Int)/\MSh B T w wr) (λ_ i _=>n-(RowKit.intOf i).toNat)
 case atStart=>exact⟨0,y_,rfl,by simp,MSh.refl _ _ _⟩
 case round=>
  obtain⟨j,hj,rfl,rfl,hS⟩:=hrel;by_cases hlt:j<n
  ·have hP:=HP.o.sh hS;generalize hq:k+3*j=q;have hqb:(q:Int)+3<=1000000000:=by omega
   have hq0:0<q:=by omega
   have HQ:=hide hq;obtain⟨⟨y0,o0⟩,f0⟩:=hP.old (i:=j*3) o_;have s0:=hP.set (i:=j*3) (u:=.int .i64 ((q:Int))) o_ (plain_int _ _);have P0:=hP.sh s0;have S0:=hS.trans s0;obtain⟨⟨y1,o1⟩,f1⟩:=P0.old (i:=j*3+1) o_;have s1:=P0.set (i:=j*3+1) (u:=.int .i64 ((q:Int)+1)) o_ (plain_int _ _);have P1:=P0.sh s1;have S1:=S0.trans s1;obtain⟨⟨y2,o2⟩,f2⟩:=P1.old (i:=j*3+2) o_;obtain⟨H2,HS2⟩:=h2 P1 S1;go_wp2_with fail;rw[show ((q:Int)+1+1)=((q+2:Nat):Int) by omega];refine (mtext_any (q+2) o_ o_ _).mono ?_;rintro e w2 ⟨rfl,hb2⟩;have Q2:PlainM B T 134 3 w2 (.slice (some ⟨g,0,none⟩) n n) n:=PlainM.sh H2 (MSh.of_below hb2);have R2:=HS2.o.trans (MSh.of_below hb2);obtain⟨⟨z2,p2⟩,r2⟩:=Q2.old (i:=j*3+2) o_;have s2:=Q2.set (i:=j*3+2) (u:=.string (mtxt (q+2))) o_ (plain_str _);have P2:=Q2.sh s2;have S2:=R2.trans s2;have HF:=hide S2;try clear hP;try clear hS;go_wp2_with fail;go_roundw
   case rel=>exact⟨j+1,by omega,by go_num,by rw[show k+3*(j+1)=q+3 by have:=HQ.o;omega];go_num,HF⟩
   case measure=>simp[RowKit.intOf];omega
  ·go_wp2;go_ret;have hjn:j=n:=by omega
   exact⟨ret_int' (by rw[hjn]),hS⟩
theorem markStrs_any (B T:Nat) (v:Value) (n k:Nat) (w:World) (hn:n<=1048576) (h0:0<k) (hk:(k:Int)+1*n<=1000000000) (h:PlainM B T 9 1 w v n) :
  Calls prog 74 #[v,.int .i64 k] w λe w'=>e=.returned (.int .i64 ((k+1*n:Nat):Int))/\MSh B T w w':=by
 have HP:=hide h;obtain⟨g,cur,rfl,-,-,-,-,-⟩:=h;go_enter func74,ntmps74;go_wp2_with fail;go_loopw [1,5] (λq i wr=>∃j:Nat,j<=n/\i=.int .i64 j/\q=.int .i64 ((k+1*j:Nat):Int)/\MSh B T w wr) (λ_ i _=>n-(RowKit.intOf i).toNat)
 case atStart=>exact⟨0,y_,rfl,by simp,MSh.refl _ _ _⟩
 case round=>
  obtain⟨j,hj,rfl,rfl,hS⟩:=hrel;by_cases hlt:j<n
  ·have hP:=HP.o.sh hS;generalize hq:k+1*j=q;have hqb:(q:Int)+1<=1000000000:=by omega
   have hq0:0<q:=by omega
   have HQ:=hide hq;obtain⟨⟨y0,o0⟩,f0⟩:=hP.old (i:=j) o_;obtain⟨H0,HS0⟩:=h2 hP hS;go_wp2_with fail;refine (mtext_any q o_ o_ _).mono ?_;rintro e w0 ⟨rfl,hb0⟩;have Q0:PlainM B T 9 1 w0 (.slice (some ⟨g,0,none⟩) n n) n:=PlainM.sh H0 (MSh.of_below hb0);have R0:=HS0.o.trans (MSh.of_below hb0);obtain⟨⟨z0,p0⟩,r0⟩:=Q0.old (i:=j) o_;have s0:=Q0.set (i:=j) (u:=.string (mtxt q)) o_ (plain_str _);have P0:=Q0.sh s0;have S0:=R0.trans s0;have HF:=hide S0;try clear hP;try clear hS;go_wp2_with fail;go_roundw
   case rel=>exact⟨j+1,by omega,by go_num,by rw[show k+1*(j+1)=q+1 by have:=HQ.o;omega];go_num,HF⟩
   case measure=>simp[RowKit.intOf];omega
  ·go_wp2;go_ret;have hjn:j=n:=by omega
   exact⟨ret_int' (by rw[hjn]),hS⟩
theorem markGlobs_any (B T:Nat) (v:Value) (n k:Nat) (w:World) (hn:n<=1048576) (h0:0<k) (hk:(k:Int)+2*n<=1000000000) (h:PlainM B T 63 2 w v n) :
  Calls prog 43 #[v,.int .i64 k] w λe w'=>e=.returned (.int .i64 ((k+2*n:Nat):Int))/\MSh B T w w':=by
 have HP:=hide h;obtain⟨g,cur,rfl,-,-,-,-,-⟩:=h;go_enter func43,ntmps43;go_wp2_with fail;go_loopw [1,5] (λq i wr=>∃j:Nat,j<=n/\i=.int .i64 j/\q=.int .i64 ((k+2*j:Nat):Int)/\MSh B T w wr) (λ_ i _=>n-(RowKit.intOf i).toNat)
 case atStart=>exact⟨0,y_,rfl,by simp,MSh.refl _ _ _⟩
 case round=>
  obtain⟨j,hj,rfl,rfl,hS⟩:=hrel;by_cases hlt:j<n
  ·have hP:=HP.o.sh hS;generalize hq:k+2*j=q;have hqb:(q:Int)+2<=1000000000:=by omega
   have hq0:0<q:=by omega
   have HQ:=hide hq;obtain⟨⟨y0,o0⟩,f0⟩:=hP.old (i:=j*2) o_;obtain⟨H0,HS0⟩:=h2 hP hS;go_wp2_with fail;refine (mtext_any q o_ o_ _).mono ?_;rintro e w0 ⟨rfl,hb0⟩;have Q0:PlainM B T 63 2 w0 (.slice (some ⟨g,0,none⟩) n n) n:=PlainM.sh H0 (MSh.of_below hb0);have R0:=HS0.o.trans (MSh.of_below hb0);obtain⟨⟨z0,p0⟩,r0⟩:=Q0.old (i:=j*2) o_;have s0:=Q0.set (i:=j*2) (u:=.string (mtxt q)) o_ (plain_str _);have P0:=Q0.sh s0;have S0:=R0.trans s0;obtain⟨⟨y1,o1⟩,f1⟩:=P0.old (i:=j*2+1) o_;have s1:=P0.set (i:=j*2+1) (u:=.int .i64 ((q:Int)+1)) o_ (plain_int _ _);have P1:=P0.sh s1;have S1:=S0.trans s1;have HF:=hide S1;try clear hP;try clear hS;go_wp2_with fail;go_roundw
   case rel=>exact⟨j+1,by omega,by go_num,by rw[show k+2*(j+1)=q+2 by have:=HQ.o;omega];go_num,HF⟩
   case measure=>simp[RowKit.intOf];omega
  ·go_wp2;go_ret;have hjn:j=n:=by omega
   exact⟨ret_int' (by rw[hjn]),hS⟩
def cntS (s:St):Nat:=4+3*s.e.length+3*s.f.length
def cntF (f:Fu):Nat:=1+f.params.length+sumBy cntS f.body
def cntT (t:Tr):Nat:=2*t.globals.length+sumBy cntF t.funcs
theorem sumBy_le_mul {α:Type} (f g:α->Nat) (c:Nat) (l:List α) (h : ∀x∈l,f x<=c*g x+c):sumBy f l<=c*(l.length+sumBy g l):=by
 induction l with
 | nil=>simp[sumBy]
 | cons x r ih=>
  have h1:=h x (by simp);have h2:=ih (λy hy=>h y (by simp[hy]));simp only[sumBy,l_c];have e:c*(r.length+1+(g x+sumBy g r))=c*(r.length+sumBy g r)+(c*g x+c):=by
   simp only[Nat.mul_add,Nat.mul_one];omega
  rw[e];omega
theorem cntS_le (s:St):cntS s<=4*szSt s+4:=by unfold cntS szSt szNs;omega
theorem cntF_le (f:Fu):cntF f<=4*szFu f+4:=by
 have:=sumBy_le_mul cntS szSt 4 f.body (λs _=>cntS_le s)
 unfold cntF szFu szPs szSs;omega
theorem cntT_le (t:Tr):cntT t<=4*szT t:=by
 have:=sumBy_le_mul cntF szFu 4 t.funcs (λf _=>cntF_le f)
 unfold cntT szT szGs szFs;omega
theorem markStmts_any (B T:Nat) (v:Value) (ss:List St) (k:Nat) (w:World) (hn:ss.length<=1048576) (hsm : ∀s∈ss,smallS s) (h0:0<k) (hk:(k:Int)+(sumBy cntS ss:Nat)<=1000000000) (h:StmtsM B T w v ss) :
  Calls prog 75 #[v,.int .i64 k] w λe w'=>e=.returned (.int .i64 ((k+sumBy cntS ss:Nat):Int))/\MSh B T w w':=by
 obtain⟨HP,HSM,HK⟩:=h3 h hsm hk;obtain⟨g,cur,rfl,-,-,-,-,-⟩:=h;go_enter func75,ntmps75;go_wp2_with fail;go_loopw [1,5] (λq i wr=>∃j:Nat,j<=ss.length/\i=.int .i64 j/\q=.int .i64 ((k+sumBy cntS (ss.take j):Nat):Int)/\MSh B T w wr) (λ_ i _=>ss.length-(RowKit.intOf i).toNat)
 case atStart=>exact⟨0,y_,rfl,by simp[sumBy],MSh.refl _ _ _⟩
 case round=>
  obtain⟨j,hj,rfl,rfl,hS⟩:=hrel;by_cases hlt:j<ss.length
  ·have HP0:Hid (StmtsM B T wr (.slice (some ⟨g,0,none⟩) ss.length ss.length) ss):=HP.o.sh hS;have HST:Hid _:=sumBy_step cntS ss j hlt;have hle:=sumBy_le cntS ss (j+1);have hsm:=HSM ss[j] (g_ hlt);have hcs:cntS ss[j]=4+3*ss[j].e.length+3*ss[j].f.length:=rfl;have hqb:((k+sumBy cntS (ss.take j):Nat):Int)+4+3*ss[j].e.length+3*ss[j].f.length<=1000000000:=by
    have h1:=HST.o
    have h2:=HK.o
    omega
   have hq0:0<k+sumBy cntS (ss.take j):=by omega
   have HC:=hide hcs;have hse:=hsm.1;have hsf:=hsm.2;obtain⟨ve0,vf0,-,-,-,-,P0⟩:=HP0.o.at j hlt;obtain⟨⟨y0,o0⟩,f0,s0⟩:=P0 0 (by simp);have HP1:Hid (StmtsM B T (wr.setCell ⟨g,j*6,none⟩ (.int .i64 ((k+sumBy cntS (ss.take j):Nat):Int))) (.slice (some ⟨g,0,none⟩) ss.length ss.length) ss):=HP0.o.sh (s0 _ (plain_int _ _));have HS1:Hid (MSh B T w (wr.setCell ⟨g,j*6,none⟩ (.int .i64 ((k+sumBy cntS (ss.take j):Nat):Int)))):=hS.trans (s0 _ (plain_int _ _));generalize hq:k+sumBy cntS (ss.take j)=q at hqb hq0 HP1 HS1 ⊢;have HQ:=hide hq;generalize hne:ss[j].e.length=ne at hse hqb HC;generalize hnf:ss[j].f.length=nf at hsf hqb HC;obtain⟨HNE,HNF⟩:=h2 hne hnf;rw[Nat.add_zero] at o0 f0;go_wp2_with fail;rw[show ((q:Int)+1)=((q+1:Nat):Int) by omega];refine (mtext_any (q+1) o_ o_ _).mono ?_;rintro e w1 ⟨rfl,hb1⟩;have HP2:Hid (StmtsM B T w1 (.slice (some ⟨g,0,none⟩) ss.length ss.length) ss):=HP1.o.sh (MSh.of_below hb1);have HS2:Hid (MSh B T w w1):=HS1.o.trans (MSh.of_below hb1);obtain⟨ve,vf,c2,c3,pe,pf,P1⟩:=HP2.o.at j hlt;obtain⟨⟨y1,o1⟩,f1,s1⟩:=P1 1 (by simp);have HP3:Hid (StmtsM B T (w1.setCell ⟨g,j*6+1,none⟩ (.string (mtxt (q+1)))) (.slice (some ⟨g,0,none⟩) ss.length ss.length) ss):=HP2.o.sh (s1 _ (plain_str _));have HS3:Hid (MSh B T w (w1.setCell ⟨g,j*6+1,none⟩ (.string (mtxt (q+1))))):=HS2.o.trans (s1 _ (plain_str _));have HPE:Hid (PlainM B T 134 3 (w1.setCell ⟨g,j*6+1,none⟩ (.string (mtxt (q+1)))) ve ne):=by rw[<-HNE.o];exact pe.sh (s1 _ (plain_str _))
   obtain⟨ae,lne,cne,rfl⟩:=pe.isSlice;obtain⟨af,lnf,cnf,rfl⟩:=pf.isSlice;go_wp2_with fail;rw[show ((q:Int)+1+1)=((q+2:Nat):Int) by omega];refine (markNodes_any B T _ ne (q+2) _ hse o_ o_ HPE).mono ?_;rintro e w2 ⟨rfl,sh2⟩;generalize hq2:q+2+3*ne=q2;have hq2b:(q2:Int)+2+3*nf<=1000000000:=by omega
   have hq20:0<q2:=by omega
   obtain⟨HQ2,HP4⟩:=h2 hq2 (HP3.o.sh sh2);have HS4:Hid (MSh B T w w2):=HS3.o.trans sh2;obtain⟨ve',vf',-,d3,-,pf',-⟩:=HP4.o.at j hlt;have HPF:Hid (PlainM B T 134 3 w2 vf' nf):=by rw[<-HNF.o];exact pf'
   obtain⟨af',lnf',cnf',rfl⟩:=pf'.isSlice;go_wp2_with fail;refine (markNodes_any B T _ nf q2 _ hsf o_ o_ HPF).mono ?_;rintro e w3 ⟨rfl,sh3⟩;have HP5:Hid (StmtsM B T w3 (.slice (some ⟨g,0,none⟩) ss.length ss.length) ss):=HP4.o.sh sh3;have HS5:Hid (MSh B T w w3):=HS4.o.trans sh3;obtain⟨_,_,-,-,-,-,P4⟩:=HP5.o.at j hlt;obtain⟨⟨y4,o4⟩,f4,s4⟩:=P4 4 (by simp);generalize hr:q2+3*nf=r;have hrb:(r:Int)+2<=1000000000:=by omega
   have HRR:=hide hr;have HP6:Hid (StmtsM B T (w3.setCell ⟨g,j*6+4,none⟩ (.int .i64 (r:Int))) (.slice (some ⟨g,0,none⟩) ss.length ss.length) ss):=HP5.o.sh (s4 _ (plain_int _ _));have HS6:Hid (MSh B T w (w3.setCell ⟨g,j*6+4,none⟩ (.int .i64 (r:Int)))):=HS5.o.trans (s4 _ (plain_int _ _));obtain⟨_,_,-,-,-,-,P5⟩:=HP6.o.at j hlt;obtain⟨⟨y5,o5⟩,f5,s5⟩:=P5 5 (by simp);have HS7:Hid (MSh B T w ((w3.setCell ⟨g,j*6+4,none⟩ (.int .i64 (r:Int))).setCell ⟨g,j*6+5,none⟩ (.int .i64 ((r:Int)+1)))):=HS6.o.trans (s5 _ (plain_int _ _));go_wp2_with fail;go_roundw
   case rel=>
    refine⟨j+1,by omega,by go_num,?_,HS7.o⟩
    have h1:=HST.o
    have h2:=HC.o
    have h3:=HQ.o
    have h4:=HRR.o
    have h5:=HQ2.o
    rw[show k+sumBy cntS (ss.take (j+1))=r+2 by omega]
    go_num
   case measure=>simp[RowKit.intOf];omega
  ·have hjn:ss.take j=ss:=List.take_of_length_le o_;go_wp2;go_ret;exact⟨ret_int' (by rw[hjn]),hS⟩
section
variable {B:Nat} {w:World} {v:Value}
theorem markFuncs_any (B T:Nat) (v:Value) (fs:List Fu) (k:Nat) (w:World) (hn:fs.length<=1048576) (hsm : ∀f∈fs,smallF f) (h0:0<k) (hk:(k:Int)+(sumBy cntF fs:Nat)<=1000000000) (h:FuncsM B T w v fs) :
  Calls prog 44 #[v,.int .i64 k] w λe w'=>e=.returned (.int .i64 ((k+sumBy cntF fs:Nat):Int))/\MSh B T w w':=by
 obtain⟨HP,HSM,HK⟩:=h3 h hsm hk;obtain⟨g,cur,rfl,-,-,-,-,-⟩:=h;go_enter func44,ntmps44;go_wp2_with fail;go_loopw [1,5] (λq i wr=>∃j:Nat,j<=fs.length/\i=.int .i64 j/\q=.int .i64 ((k+sumBy cntF (fs.take j):Nat):Int)/\MSh B T w wr) (λ_ i _=>fs.length-(RowKit.intOf i).toNat)
 case atStart=>exact⟨0,y_,rfl,by simp[sumBy],MSh.refl _ _ _⟩
 case round=>
  obtain⟨j,hj,rfl,rfl,hS⟩:=hrel;by_cases hlt:j<fs.length
  ·have HP0:=hide (HP.o.sh hS);have HST:Hid _:=sumBy_step cntF fs j hlt;have hle:=sumBy_le cntF fs (j+1);have hsm:=HSM fs[j] (g_ hlt);have hcs:cntF fs[j]=1+fs[j].params.length+sumBy cntS fs[j].body:=rfl;have hqb:((k+sumBy cntF (fs.take j):Nat):Int)+1+fs[j].params.length+(sumBy cntS fs[j].body:Nat)<=1000000000:=by
    have h1:=HST.o
    have h2:=HK.o
    omega
   have hq0:0<k+sumBy cntF (fs.take j):=by omega
   have HC:=hide hcs;have hse:=hsm.1;have hsf:=hsm.2.1;have HSF:Hid (∀s∈fs[j].body,smallS s):=hsm.2.2;generalize hq:k+sumBy cntF (fs.take j)=q at hqb hq0 ⊢;have HQ:=hide hq;generalize hne:fs[j].params.length=ne at hse hqb HC;obtain⟨HNE,HSH⟩:=h2 hne hS;have HBD:Hid (∀(W:World) (v:Value),StmtsM B T W v fs[j].body->StmtsM B T W v fs[j].body):=λ_ _ h=>h;go_wp2_with fail;refine (mtext_any q o_ o_ _).mono ?_;rintro e w1 ⟨rfl,hb1⟩;have HP2:Hid (FuncsM B T w1 (.slice (some ⟨g,0,none⟩) fs.length fs.length) fs):=HP0.o.sh (MSh.of_below hb1);have HS2:Hid (MSh B T w w1):=HSH.o.trans (MSh.of_below hb1);obtain⟨vp,vb,c1,c2,pp,pb,⟨y0,o0⟩,f0,s0⟩:=HP2.o.at j hlt;have HP3:Hid (FuncsM B T (w1.setCell ⟨g,j*3,none⟩ (.string (mtxt q))) (.slice (some ⟨g,0,none⟩) fs.length fs.length) fs):=HP2.o.sh (s0 _ (plain_str _));have HS3:Hid (MSh B T w (w1.setCell ⟨g,j*3,none⟩ (.string (mtxt q)))):=HS2.o.trans (s0 _ (plain_str _));have HPE:Hid (PlainM B T 9 1 (w1.setCell ⟨g,j*3,none⟩ (.string (mtxt q))) vp ne):=by rw[<-HNE.o];exact pp.sh (s0 _ (plain_str _))
   obtain⟨ae,lne,cne,rfl⟩:=pp.isSlice;obtain⟨af,lnf,cnf,rfl⟩:=pb.isSlice;go_wp2_with fail;rw[show ((q:Int)+1)=((q+1:Nat):Int) by omega];refine (markStrs_any B T _ ne (q+1) _ hse o_ o_ HPE).mono ?_;rintro e w2 ⟨rfl,sh2⟩;generalize hq2:q+1+1*ne=q2;have hq2b:(q2:Int)+(sumBy cntS fs[j].body:Nat)<=1000000000:=by omega
   have hq20:0<q2:=by omega
   obtain⟨HQ2,HP4⟩:=h2 hq2 (HP3.o.sh sh2);have HS4:Hid (MSh B T w w2):=HS3.o.trans sh2;obtain⟨vp',vb',-,d2,-,pb',-⟩:=HP4.o.at j hlt;have HPB:=hide pb';obtain⟨af',lnf',cnf',rfl⟩:=pb'.isSlice;go_wp2_with fail;refine (markStmts_any B T _ fs[j].body q2 _ hsf HSF hq20 hq2b HPB).mono ?_;rintro e w3 ⟨rfl,sh3⟩;have HS5:Hid (MSh B T w w3):=HS4.o.trans sh3;generalize hr:q2+sumBy cntS fs[j].body=r;have HRR:=hide hr;go_wp2_with fail;go_roundw
   case rel=>
    refine⟨j+1,by omega,by go_num,?_,HS5.o⟩
    have h1:=HST.o
    have h2:=HC.o
    have h3:=HQ.o
    have h4:=HRR.o
    have h5:=HQ2.o
    rw[show k+sumBy cntF (fs.take (j+1))=r by omega]
   case measure=>simp[RowKit.intOf];omega
  ·have hjn:fs.take j=fs:=List.take_of_length_le o_;go_wp2;go_ret;exact⟨ret_int' (by rw[hjn]),hS⟩
theorem box2_sh {T:Nat} {w':World} {t:TypeId} {x y:Value} (h:MSh B T (w.alloc (.cells #[x,y] t)) w') (hT:T<=w.heap.size):w'.cell? ⟨w.heap.size,0,none⟩=some x/\w'.cell? ⟨w.heap.size,1,none⟩=some y:=by
 have hk:=h.keep w.heap.size hT (by simp);exact⟨by rw[c_ (w:=w.alloc (.cells #[x,y] t)) hk];simp,by rw[c_ (w:=w.alloc (.cells #[x,y] t)) hk];simp⟩
theorem markTree_any (B T:Nat) (vg vf:Value) (t:Tr) (k:Nat) (w:World) (hT:T<=w.heap.size) (hs:smallT t) (h0:0<k) (hk:(k:Int)+(cntT t:Nat)<=1000000000) (hg:PlainM B T 63 2 w vg t.globals.length) (hf:FuncsM B T w vf t.funcs) :
  Calls prog 14 #[.agg #[vg,vf],.int .i64 k] w λe w'=>e=.returned (.int .i64 ((k+cntT t:Nat):Int))/\MSh B T w w':=by
 obtain⟨gs,fs⟩:=t;have hgl:gs.length<=1048576:=hs.1;have hfl:fs.length<=1048576:=hs.2.1;have HSF:Hid (∀f∈fs,smallF f):=hs.2.2;have HC:Hid (cntT ⟨gs,fs⟩=2*gs.length+sumBy cntF fs):=rfl;have hkb:(k:Int)+2*gs.length+(sumBy cntF fs:Nat)<=1000000000:=by have:=HC.o;omega
 simp only at hg hf;obtain⟨HG,HF⟩:=h2 hg hf;obtain⟨ag,lg,cg,rfl⟩:=hg.isSlice;obtain⟨gf,cur,rfl,-,-,-,-,-⟩:=hf;have hA:Bl w (w.alloc (.cells #[.slice ag lg cg,.slice (some ⟨gf,0,none⟩) fs.length fs.length] 34)):=bel_a _ _;have HT0:=hide (PlainM.sh HG (MSh.of_below hA));go_enter func14,ntmps14;go_wp2_with fail;refine (markGlobs_any B T _ gs.length k _ hgl h0 o_ HT0).mono ?_;rintro e w1 ⟨rfl,sh1⟩;obtain⟨x0,x1⟩:=box2_sh sh1 hT;have HSH:Hid (MSh B T w w1):=(MSh.of_below hA).trans sh1;have HF1:=hide (HF.o.sh HSH);generalize hq:k+2*gs.length=q;have hqb:(q:Int)+(sumBy cntF fs:Nat)<=1000000000:=by omega
 have hq0:0<q:=by omega
 have HQ:=hide hq;go_wp2_with fail;refine (markFuncs_any B T _ fs q _ hfl HSF hq0 hqb HF1).mono ?_;rintro e w2 ⟨rfl,sh2⟩;have HS2:Hid (MSh B T w w2):=HSH.o.trans sh2;generalize hr:q+sumBy cntF fs=r;have HR:=hide hr;go_wp2;go_ret;exact⟨ret_int' (by have:=HC.o;have:=HQ.o;have:=HR.o;omega),HS2⟩
theorem NodesO.plain {ns:List Nd} (h:NodesO B w v ns):PlainM B w.heap.size 134 3 w v ns.length:=by
 obtain⟨g,xs,rfl,ho,hx⟩:=h;have hlt:=own_lt ho;rcases ho.2 with ⟨h',_⟩|⟨g',cap',cur,h',hB,hg,hnc,hcm,hcs,htake⟩
 ·simp at h'
 ·simp only[Value.slice.injEq,Option.some.injEq,Addr.mk.injEq,and_true,true_and] at h';obtain⟨rfl,rfl⟩:=h';refine⟨g,cur,rfl,hB,hlt.2,hg,hcs,λi v hv a n c e => ?_⟩;subst e;have hi:i<ns.length*3:=by have:=(Array.getElem?_eq_some_iff.1 hv).1;omega
  have e1:xs[i]? = some (.slice a n c):=by rw[<-htake,List.getElem?_take,if_pos hi];simpa using hv
  have e2:=hx (i / 3) o_ (i % 3) (Nat.mod_lt _ o_);rw[show i / 3*3+i % 3=i by omega,e1] at e2;have h3:i % 3=0∨i % 3=1∨i % 3=2:=by omega
  rcases h3 with h|h|h <;> rw[h] at e2 <;> simp[encN] at e2
theorem StrsO.plain {ns:List ByteArray} (h:StrsO B w v ns):PlainM B w.heap.size 9 1 w v ns.length:=by
 obtain⟨g,xs,rfl,ho,hx⟩:=h;have hlt:=own_lt ho;rcases ho.2 with ⟨h',_⟩|⟨g',cap',cur,h',hB,hg,hnc,hcm,hcs,htake⟩
 ·simp at h'
 ·simp only[Value.slice.injEq,Option.some.injEq,Addr.mk.injEq,and_true,true_and] at h';obtain⟨rfl,rfl⟩:=h';refine⟨g,cur,rfl,hB,hlt.2,hg,hcs,λi v hv a n c e => ?_⟩;subst e;have hi:i<ns.length*1:=by have:=(Array.getElem?_eq_some_iff.1 hv).1;omega
  have e1:xs[i]? = some (.slice a n c):=by rw[<-htake,List.getElem?_take,if_pos hi];simpa using hv
  have e2:=hx i o_ 0 o_;rw[show i*1+0=i by omega,e1] at e2;simp[encP] at e2
theorem GlobsO.plain {ns:List Gl} (h:GlobsO B w v ns):PlainM B w.heap.size 63 2 w v ns.length:=by
 obtain⟨g,xs,rfl,ho,hx⟩:=h;have hlt:=own_lt ho;rcases ho.2 with ⟨h',_⟩|⟨g',cap',cur,h',hB,hg,hnc,hcm,hcs,htake⟩
 ·simp at h'
 ·simp only[Value.slice.injEq,Option.some.injEq,Addr.mk.injEq,and_true,true_and] at h';obtain⟨rfl,rfl⟩:=h';refine⟨g,cur,rfl,hB,hlt.2,hg,hcs,λi v hv a n c e => ?_⟩;subst e;have hi:i<ns.length*2:=by have:=(Array.getElem?_eq_some_iff.1 hv).1;omega
  have e1:xs[i]? = some (.slice a n c):=by rw[<-htake,List.getElem?_take,if_pos hi];simpa using hv
  have e2:=hx (i / 2) o_ (i % 2) (Nat.mod_lt _ o_);rw[show i / 2*2+i % 2=i by omega,e1] at e2;have h3:i % 2=0∨i % 2=1:=by omega
  rcases h3 with h|h <;> rw[h] at e2 <;> simp[encG] at e2
theorem StmtsO.marks {ns:List St} (h:StmtsO B w v ns):StmtsM B w.heap.size w v ns:=by
 obtain⟨g,xs,V,rfl,ho,hx,hn⟩:=h;have hlt:=own_lt ho;rcases ho.2 with ⟨h',_⟩|⟨g',cap',cur,h',hB,hg,hnc,hcm,hcs,htake⟩
 ·simp at h'
 ·simp only[Value.slice.injEq,Option.some.injEq,Addr.mk.injEq,and_true,true_and] at h';obtain⟨rfl,rfl⟩:=h';have key : ∀j (h:j<ns.length) i,i<6->cur[j*6+i]? = (encS ns[j] (V j))[i]? := λj hj i hi=>by
   have e2:=hx j hj i hi;rw[<-htake,List.getElem?_take,if_pos o_] at e2;simp only[List.getD,hj,List.getElem?_eq_getElem,Option.getD_some] at e2;simpa using e2
  refine⟨g,cur,rfl,hB,hlt.2,hg,hcs,λj hj=>⟨⟨(V j).1,(V j).2,key j hj 2 o_,key j hj 3 o_,(hn j hj).1.plain,(hn j hj).2.plain⟩,λi hi v hv a n c e => ?_⟩⟩;subst e;rcases hi with rfl|rfl|rfl|rfl;all_goals (rw[key j hj _ o_] at hv;simp[encS] at hv)
theorem FuncsO.marks {ns:List Fu} (h:FuncsO B w v ns):FuncsM B w.heap.size w v ns:=by
 obtain⟨g,xs,V,rfl,ho,hx,hn⟩:=h;have hlt:=own_lt ho;rcases ho.2 with ⟨h',_⟩|⟨g',cap',cur,h',hB,hg,hnc,hcm,hcs,htake⟩
 ·simp at h'
 ·simp only[Value.slice.injEq,Option.some.injEq,Addr.mk.injEq,and_true,true_and] at h';obtain⟨rfl,rfl⟩:=h';have key : ∀j (h:j<ns.length) i,i<3->cur[j*3+i]? = (encF ns[j] (V j))[i]? := λj hj i hi=>by
   have e2:=hx j hj i hi;rw[<-htake,List.getElem?_take,if_pos o_] at e2;simp only[List.getD,hj,List.getElem?_eq_getElem,Option.getD_some] at e2;simpa using e2
  refine⟨g,cur,rfl,hB,hlt.2,hg,hcs,λj hj=>⟨⟨(V j).1,(V j).2,key j hj 1 o_,key j hj 2 o_,(hn j hj).1.plain,(hn j hj).2.marks⟩,λv hv a n c e => ?_⟩⟩;subst e;have:=key j hj 0 o_
  rw[Nat.add_zero] at this;rw[this] at hv;simp[encF] at hv
end
end Go.Proofs.YtffnkkpmlplfeaaGreatDoor
