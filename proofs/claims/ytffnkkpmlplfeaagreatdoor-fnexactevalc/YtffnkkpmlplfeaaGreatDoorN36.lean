import Derived.Test.YtffnkkpmlplfeaaGreatDoorN19
import Derived.Deep.Cut
namespace Go.Proofs.YtffnkkpmlplfeaaGreatDoor
open Go.Proofs.Tryz
open Go.RowKit
set_option linter.all false
set_option maxRecDepth 100000
set_option maxHeartbeats 16000000
variable[Inhabited Pick]
variable {w:World} {N n:Nat} {v:Value} {xs:List Value}
structure EvR where
 st:Int
 out:List Int
 ex:Int
 us:Int
 dp:Int
def EvR.val (a:EvR) (v:Value):Value:=.agg #[.int .i64 a.st,v,.int .i64 a.ex,.int .i64 a.us,.int .i64 a.dp]
theorem eqE_any (a:EvR) (v1 v2:Value) (w:World) (hl:a.out.length<=100000000) (h1:Ints w v1 a.out) (h2:Ints w v2 a.out) :
  Calls prog 11 #[a.val v1,a.val v2] w λe w'=>e=.returned (.bool true)/\Below w.heap.size w w':=by
 obtain⟨a1,c1,rfl,-⟩:=id h1;obtain⟨a2,c2,rfl,-⟩:=id h2;obtain⟨st,out,ex,us,dp⟩:=a;simp only[EvR.val] at *;obtain⟨W1,hW1⟩ : ∃W1,W1=(w.alloc (.cells #[.int .i64 st,.slice a1 out.length c1,.int .i64 ex,.int .i64 us,.int .i64 dp] 29)).alloc (.cells #[.int .i64 st,.slice a2 out.length c2,.int .i64 ex,.int .i64 us,.int .i64 dp] 29):=⟨_,rfl⟩;obtain⟨B,hB⟩ : ∃B,B=w.heap.size:=⟨_,rfl⟩;have hbA : ∀o,Bl w (w.alloc o):=λo=>r_.alloc n_ _;have hb1:Bl w W1:=by rw[hW1];exact (hbA _).alloc (hbA _).size _
 have hx1:FrC W1 B [.int .i64 st,.slice a1 out.length c1,.int .i64 ex,.int .i64 us,.int .i64 dp]:=by rw[hW1,hB];exact (box_fr w #[.int .i64 st,.slice a1 out.length c1,.int .i64 ex,.int .i64 us,.int .i64 dp] 29 (by show 5<=1000;omega)).below (bel_a _ _)
 have hm1:FrC W1 (B+1) [.int .i64 st,.slice a2 out.length c2,.int .i64 ex,.int .i64 us,.int .i64 dp]:=by
  rw[hW1,hB];have:=box_fr (w.alloc (.cells #[.int .i64 st,.slice a1 out.length c1,.int .i64 ex,.int .i64 us,.int .i64 dp] 29)) #[.int .i64 st,.slice a2 out.length c2,.int .i64 ex,.int .i64 us,.int .i64 dp] 29 (by show 5<=1000;omega)
  rw[World.size_alloc] at this;exact this
 obtain⟨HEq,HX1,HM1,Hb1,HW1,HB⟩:=h6 (eqI_any _ _ out W1 hl (h1.below hb1) (h2.below hb1)) hx1 hm1 hb1 hW1 hB;generalize out.length=ol at *;clear hl h1 h2 hb1 hx1 hm1 hW1 hB hbA;go_enter func11,ntmps11;go_upto_region 1 with fail;rw[<-HW1.o,<-HB.o];have x0:=(HX1 0 _ rfl).1;have x1:=(HX1 1 _ rfl).1;have y0:=(HM1 0 _ rfl).1;have y1:=(HM1 1 _ rfl).1;go_wp2_with fail;refine HEq.o.mono ?_;rintro e w2 ⟨rfl,hb2⟩;have x2:=(HX1.o.below hb2 2 _ rfl).1;have x3:=(HX1.o.below hb2 3 _ rfl).1;have x4:=(HX1.o.below hb2 4 _ rfl).1;have y2:=(HM1.o.below hb2 2 _ rfl).1;have y3:=(HM1.o.below hb2 3 _ rfl).1;have y4:=(HM1.o.below hb2 4 _ rfl).1;have HE:=hide (Hb1.o.trans (hb2.mono Hb1.o.size));clear hb2;go_wp2;go_ret;exact⟨rfl,HE⟩
theorem own_shapeI (h:w.ownsRow N 2 1 v n xs) : ∃a c,v=.slice a n c:=by
 obtain⟨g1,g2⟩:=h;rcases g2 with ⟨rfl,rfl⟩|⟨g,cap,cur,rfl,-⟩
 ·exact⟨_,_,rfl⟩
 ·exact⟨_,_,rfl⟩
theorem Tg.tcs {g:Nat} {w':World} (h:Tg g w w'):Tcs (λk=>k=g) w w':=⟨h.still.1,h.still.2.1,h.still.2.2,Nat.le_of_eq h.size.symm,λk _ hk=>h.other k hk⟩
theorem markO2_any (hn:n<=100000000) (hown:w.ownsRow N 2 1 v n xs) :
  Calls prog 15 #[v,.int .i64 1] w λe w'=>e=.returned (.int .i64 ((1+n:Nat):Int))/\Tcs (λk=>v.ownBlock=some k) w w'/\Mkd w' v n:=by
 obtain⟨g1,g2⟩:=hown;rcases g2 with ⟨rfl,rfl⟩|⟨g,cap,cur,rfl,hg,hh,hc1,hc2,hc3,hc4⟩
 ·refine (markNil w).mono ?_;rintro e w' ⟨rfl,rfl⟩;exact⟨rfl,Tcs.refl _ _,.inl ⟨rfl,rfl⟩⟩
 ·refine (markI_any g n cap 1 w hn o_ (λj hj => ?_)).mono ?_
  ·have:=rowi_cell hh (show j<cur.size by omega)
   exact⟨⟨_,this.1⟩,this.2⟩
  ·rintro e w' ⟨rfl,hT,hM⟩;exact⟨rfl,hT.tcs.mono λk hk=>by rw[hk];rfl,.inr ⟨g,cap,rfl,hM⟩⟩
theorem markE_any (a:EvR) (hl:a.out.length<=100000000) (hown:w.ownsRow N 2 1 v a.out.length xs) :
  Calls prog 16 #[a.val v,.int .i64 1] w λe w'=>e=.returned (.int .i64 ((1+a.out.length:Nat):Int))/\Tcs (λk=>v.ownBlock=some k) w w'/\Mkd w' v a.out.length:=by
 obtain⟨a1,c1,rfl⟩:=own_shapeI hown;obtain⟨st,out,ex,us,dp⟩:=a;simp only[EvR.val] at *;obtain⟨W1,hW1⟩ : ∃W1,W1=w.alloc (.cells #[.int .i64 st,.slice a1 out.length c1,.int .i64 ex,.int .i64 us,.int .i64 dp] 29):=⟨_,rfl⟩;have hb1:Bl w W1:=by rw[hW1];exact r_.alloc n_ _
 have hx1:FrC W1 w.heap.size [.int .i64 st,.slice a1 out.length c1,.int .i64 ex,.int .i64 us,.int .i64 dp]:=by rw[hW1];exact box_fr w #[.int .i64 st,.slice a1 out.length c1,.int .i64 ex,.int .i64 us,.int .i64 dp] 29 (by show 5<=1000;omega)
 have HMk:=hide (markO2_any hl (ownb_below hown hb1));have x1:=(hx1 1 _ rfl).1;have Hb1:=hide (hb1.tcs (S:=λk=>(Value.slice a1 out.length c1).ownBlock=some k));obtain⟨z,hz⟩ : ∃z:Int,z=((1+out.length:Nat):Int):=⟨_,rfl⟩;rw[<-hz] at HMk ⊢;generalize out.length=ol at *;have HW1:=hide hW1;clear hl hown hb1 hx1 hW1 hz;go_enter func16,ntmps16;go_upto_region 1 with fail;rw[<-HW1.o];go_wp2_with fail;refine HMk.o.mono ?_;rintro e w2 ⟨rfl,hb2,hmk⟩;obtain⟨HE,HK⟩:=h2 (Hb1.o.trans hb2) hmk;go_wp2;go_ret;exact⟨rfl,HE,HK⟩
theorem heldE_any (a:EvR) (hl:a.out.length<=100000000) (hM:Mkd w v a.out.length) :
  Calls prog 17 #[a.val v,.int .i64 1] w λe w'=>e=.returned (.int .i64 ((1+a.out.length:Nat):Int))/\Below w.heap.size w w':=by
 obtain⟨a1,c1,rfl⟩ : ∃a1 c1,v=.slice a1 a.out.length c1:=by
  rcases hM with ⟨rfl,h⟩|⟨g,cap,rfl,-⟩
  ·rw[h];exact⟨_,_,rfl⟩
  ·exact⟨_,_,rfl⟩
 obtain⟨st,out,ex,us,dp⟩:=a;simp only[EvR.val] at *;obtain⟨W1,hW1⟩ : ∃W1,W1=w.alloc (.cells #[.int .i64 st,.slice a1 out.length c1,.int .i64 ex,.int .i64 us,.int .i64 dp] 29):=⟨_,rfl⟩;have hb1:Bl w W1:=by rw[hW1];exact r_.alloc n_ _
 have hx1:FrC W1 w.heap.size [.int .i64 st,.slice a1 out.length c1,.int .i64 ex,.int .i64 us,.int .i64 dp]:=by rw[hW1];exact box_fr w #[.int .i64 st,.slice a1 out.length c1,.int .i64 ex,.int .i64 us,.int .i64 dp] 29 (by show 5<=1000;omega)
 have hM1:Mkd W1 (.slice a1 out.length c1) out.length:=by
  rcases hM with h|⟨g,cap,e,h⟩
  ·exact .inl h
  ·exact .inr ⟨g,cap,e,λj hj=>(hb1.cell (p:=⟨g,j,none⟩) (b_ (h j hj))).trans (h j hj)⟩
 have HMk:=hide (heldO_any hl hM1);have x1:=(hx1 1 _ rfl).1;have Hb1:=hide hb1;obtain⟨z,hz⟩ : ∃z:Int,z=((1+out.length:Nat):Int):=⟨_,rfl⟩;rw[<-hz] at HMk ⊢;have hz0:0<=z:=by omega
 generalize out.length=ol at *;have HW1:=hide hW1;clear hl hM hM1 hb1 hx1 hW1 hz;go_enter func17,ntmps17;go_upto_region 1 with fail;rw[<-HW1.o];go_wp2_with fail;refine HMk.o.mono ?_;rintro e w2 ⟨rfl,hb2⟩;have HE:=hide (Hb1.o.trans (hb2.mono Hb1.o.size));have hz1 : ¬z<0:=by omega
 go_wp2;go_ret;exact⟨rfl,HE⟩
end Go.Proofs.YtffnkkpmlplfeaaGreatDoor
