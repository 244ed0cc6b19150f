import Derived.Test.YtffnkkpmlplfeaaGreatDoorN52
import Derived.Test.YtffnkkpmlplfeaaGreatDoorN28
namespace Go.Proofs.YtffnkkpmlplfeaaGreatDoor
open Go.Proofs.Tryz
open Go.RowKit
set_option linter.all false
set_option maxRecDepth 100000
set_option maxHeartbeats 16000000
variable[Inhabited Pick]
theorem st_ifE {C:IC} (hC:C.Ok) {w:World} {q:Nat} {vI vO:Value} {z:ES} (h:IS C w (some q) vI vO z) (hu:0<z.u) {A:Nat} {f:Nat} {us:Nat->Value} {st:Nat->ES} {v:Nat->Int} {s1:ES} {tu:TypeId} {xu:Value} {a1 a2:Option Addr} {n1 c1 n2 c2:Nat} (hA:A=1) {ec vc:Int} {z':ES} (hv:v 0=0) (hbl : ∀(X:World) (vI3 vO3:Value),IS C X (some q) vI3 vO3 (st A)->Calls prog 70 #[.pointer (some ⟨C.P,0,none⟩),.slice a2 n2 c2] X λx w'=>StQ C X q vO3 ec vc z' x w') (hF:ExF 218 (.agg #[.iface tu xu,.slice a1 n1 c1,.slice a2 n2 c2]) f) (hO:OpC C f (.agg #[.iface tu xu,.slice a1 n1 c1,.slice a2 n2 c2]) A us) (hVa : ∀(X:World) (ar:Value),IS C X (some q) vI vO z.sp->LsI C X vO ar A us->Calls prog 144 #[.pointer (some ⟨C.P,0,none⟩),ar] X λx w'=>VaP C X (some q) vO A st v A 2 s1 x w') :
  Calls prog 110 #[.pointer (some ⟨C.P,0,none⟩),.iface 218 (.agg #[.iface tu xu,.slice a1 n1 c1,.slice a2 n2 c2])] w λx w'=>StQ C w q vO ec vc z' x w':=by
 obtain⟨hm,hcf⟩:=hF;obtain⟨W0,M,hW0,hM,hb0,hx0,hM0⟩:=o_box w;have hMw:w.heap.size<=M:=Nat.le_of_eq hM.symm;have hnM : ¬TSi C (some q) vO M:=λhk=>by have:=TSi.lt hC h M hk;omega
 obtain⟨HBu,HOp,H0,HC,HW0,HB0,HM,HX0,HVa⟩:=h9 (burn_yes hC (h.below hC hb0) hu) hO h hC hW0 hb0 hM hx0 hVa;have q_decl:=λW v=>sa_decl_no W 218 v (by decide);have q_set:=λW v=>sa_set_no W 218 v (by decide);have q_store:=λW v=>sa_store_no W 218 v (by decide);have q_if:=sa_if_yes;have HA:=hide hA;clear hA;clear h hC hO hVa hW0 hb0 hM hx0 hu;go_enter func110,ntmps110;go_upto_region 1 with fail;rw[<-HW0.o,<-HM.o];go_wp2_with fail;refine HBu.o.mono ?_;rintro e w1 ⟨rfl,hI1,ht1⟩;obtain⟨HI1,Ht1,HM1,HO1⟩:=h4 hI1 ht1 (HX0.o.tcs hM0 ht1 (λe=>hnM (.inl e))) (HOp w1 (some q) vI vO z.sp hI1);clear hI1 ht1 HBu;go_wp2_with fail;refine HO1.o.mono ?_;rintro e w2 ⟨a,cp,rfl,hL,hb2⟩;obtain⟨HV2,Hb2⟩:=h2 (HVa w2 _ (HI1.o.below HC hb2) hL) hb2;clear hL hb2 HVa HOp HO1;go_wp2_with fail;refine HV2.o.mono ?_;rintro e w3 ⟨vI3,vO3,ht3,ho3,hcase⟩;obtain⟨HtE,HM3,Ho3,Ht3,⟨y0,f0⟩,⟨y1,f1⟩,hs3⟩:=st_aft Ht1 HM1 Hb2 hM0 hnM ht3 ho3;clear ht3 ho3 HV2;obtain⟨bv,cw,rfl,hI3,hbv3,hnv,hc30⟩:=va_one hcase HA;have hI0:Tcs (TEi C vO) w w3:=(HB0.o.tcs (S:=TEi C vO)).trans HtE;clear hcase hI0;obtain⟨W4,hW4⟩ : ∃W4,W4=w3.alloc (.cells #[.iface tu xu,.slice a1 n1 c1,.slice a2 n2 c2] 218):=⟨_,rfl⟩;have hb4:Bl w3 W4:=by rw[hW4];exact r_.alloc n_ _
 have hx4:FrC W4 w3.heap.size [.iface tu xu,.slice a1 n1 c1,.slice a2 n2 c2]:=by rw[hW4];exact box_fr w3 _ _ (by show 3<=1000;omega)
 obtain⟨B,hB⟩ : ∃B,B=w3.heap.size:=⟨_,rfl⟩;rw[<-hB] at hx4;have hBM:B≠M:=by omega
 have hMB : ¬M=B:=by omega
 have hI4:=hI3.below HC hb4;have hm4:=HM3.o.below hb4;obtain⟨Hb4,HX4,HW4,HBe,HI4,HM4⟩:=h6 hb4 hx4 hW4 hB hI4 hm4;clear y0 f0 y1 f1;obtain⟨y0,f0⟩:=hm4 0 _ rfl;obtain⟨y1,f1⟩:=hm4 1 _ rfl;have hbv:bv<W4.heap.size:=l_ hbv3 hb4.size;have hcv0:W4.cell? ⟨bv,0,none⟩=some (.int .i64 (v 0)):=(hb4.cell (p:=⟨bv,0,none⟩) hbv3).trans hc30;clear hc30 hbv3;have HBl:=hide (hbl W4 vI3 vO3 hI4);have hnM3 : ¬TSi C (some q) vO3 M:=not_te (w:=w) (λhk=>by have:=TSi.lt HC.o H0.o _ hk;omega) hnM hM0 Ho3;have HT4:=hide (Ht3.o.of_below Hb4);have hs4:M<W4.heap.size:=b_ y0;have x0:=(HX4 0 _ rfl).1;have x1:=(HX4 1 _ rfl).1;generalize hv0:v 0=v0 at hv hcv0;clear hbl hI3 hI4 hb4 hx4 hW4 hB hm4 hv0 y0 f0 y1 f1;have x2:=(HX4 2 _ rfl).1;have hv':(v0 != 0)=false:=by simpa using hv
 clear hv;go_upto_region 21 with fail;rw[<-HW4.o,<-HBe.o];go_wp2_with fail;refine HBl.o.mono ?_;rintro e w5 ⟨vI5,vO5,rfl,hI5,ht5,ho5⟩;have hm5:=HM4.o.tcs hs4 ht5 hnM3;have hT5:=TSi.next HT4 ht5 Ho3;have HFn:=hide (stq_fin HC hMw H0 HB0 hM0 hI5 hT5 (λk hk=>by
  rcases ho5 k hk with h1|h1
  ·exact Ho3 k h1
  ·exact .inr (t_ (t_ hs3 Hb4.o.size) h1)) r_ hm5 ec vc)
 obtain⟨y0,f0⟩:=hm5 0 _ rfl;obtain⟨y1,f1⟩:=hm5 1 _ rfl;clear hI5 ht5 ho5 hm5 hT5;go_wp2_with fail;obtain⟨t0,t1,hQ⟩:=HFn;exact bodyPost_ret (v:=.agg #[.int .i64 ec,.int .i64 vc]) (by simp[results,results110,go_sem,t0,t1]) rfl hQ
theorem st_while {C:IC} (hC:C.Ok) {w:World} {q:Nat} {vI vO:Value} {z:ES} (h:IS C w (some q) vI vO z) (hu:0<z.u) {A:Nat} {f:Nat} {us:Nat->Value} {st:Nat->ES} {v:Nat->Int} {s1:ES} {tu:TypeId} {xu:Value} {a1:Option Addr} {n1 c1:Nat} (hA:A=1) {ec vc:Int} {z':ES} (hv:v 0≠0) (hbl : ∀(X:World) (vI3 vO3:Value),IS C X (some q) vI3 vO3 (st A)->Calls prog 147 #[.pointer (some ⟨C.P,0,none⟩),.agg #[.iface tu xu,.slice a1 n1 c1]] X λx w'=>StQ C X q vO3 ec vc z' x w') (hF:ExF 220 (.agg #[.iface tu xu,.slice a1 n1 c1]) f) (hO:OpC C f (.agg #[.iface tu xu,.slice a1 n1 c1]) A us) (hVa : ∀(X:World) (ar:Value),IS C X (some q) vI vO z.sp->LsI C X vO ar A us->Calls prog 144 #[.pointer (some ⟨C.P,0,none⟩),ar] X λx w'=>VaP C X (some q) vO A st v A 2 s1 x w') :
  Calls prog 110 #[.pointer (some ⟨C.P,0,none⟩),.iface 220 (.agg #[.iface tu xu,.slice a1 n1 c1])] w λx w'=>StQ C w q vO ec vc z' x w':=by
 obtain⟨hm,hcf⟩:=hF;obtain⟨W0,M,hW0,hM,hb0,hx0,hM0⟩:=o_box w;have hMw:w.heap.size<=M:=Nat.le_of_eq hM.symm;have hnM : ¬TSi C (some q) vO M:=λhk=>by have:=TSi.lt hC h M hk;omega
 obtain⟨HBu,HOp,H0,HC,HW0,HB0,HM,HX0,HVa⟩:=h9 (burn_yes hC (h.below hC hb0) hu) hO h hC hW0 hb0 hM hx0 hVa;have q_decl:=λW v=>sa_decl_no W 220 v (by decide);have q_set:=λW v=>sa_set_no W 220 v (by decide);have q_store:=λW v=>sa_store_no W 220 v (by decide);have q_if:=λW v=>sa_if_no W 220 v (by decide);have q_while:=sa_while_yes;have HA:=hide hA;clear hA;clear h hC hO hVa hW0 hb0 hM hx0 hu;go_enter func110,ntmps110;go_upto_region 1 with fail;rw[<-HW0.o,<-HM.o];go_wp2_with fail;refine HBu.o.mono ?_;rintro e w1 ⟨rfl,hI1,ht1⟩;obtain⟨HI1,Ht1,HM1,HO1⟩:=h4 hI1 ht1 (HX0.o.tcs hM0 ht1 (λe=>hnM (.inl e))) (HOp w1 (some q) vI vO z.sp hI1);clear hI1 ht1 HBu;go_wp2_with fail;refine HO1.o.mono ?_;rintro e w2 ⟨a,cp,rfl,hL,hb2⟩;obtain⟨HV2,Hb2⟩:=h2 (HVa w2 _ (HI1.o.below HC hb2) hL) hb2;clear hL hb2 HVa HOp HO1;go_wp2_with fail;refine HV2.o.mono ?_;rintro e w3 ⟨vI3,vO3,ht3,ho3,hcase⟩;obtain⟨HtE,HM3,Ho3,Ht3,⟨y0,f0⟩,⟨y1,f1⟩,hs3⟩:=st_aft Ht1 HM1 Hb2 hM0 hnM ht3 ho3;clear ht3 ho3 HV2;obtain⟨bv,cw,rfl,hI3,hbv3,hnv,hc30⟩:=va_one hcase HA;have hI0:Tcs (TEi C vO) w w3:=(HB0.o.tcs (S:=TEi C vO)).trans HtE;clear hcase hI0;obtain⟨W4,hW4⟩ : ∃W4,W4=w3.alloc (.cells #[.iface tu xu,.slice a1 n1 c1] 220):=⟨_,rfl⟩;have hb4:Bl w3 W4:=by rw[hW4];exact r_.alloc n_ _
 have hx4:FrC W4 w3.heap.size [.iface tu xu,.slice a1 n1 c1]:=by rw[hW4];exact box_fr w3 _ _ (by show 2<=1000;omega)
 obtain⟨B,hB⟩ : ∃B,B=w3.heap.size:=⟨_,rfl⟩;rw[<-hB] at hx4;have hBM:B≠M:=by omega
 have hMB : ¬M=B:=by omega
 have hI4:=hI3.below HC hb4;have hm4:=HM3.o.below hb4;obtain⟨Hb4,HX4,HW4,HBe,HI4,HM4⟩:=h6 hb4 hx4 hW4 hB hI4 hm4;clear y0 f0 y1 f1;obtain⟨y0,f0⟩:=hm4 0 _ rfl;obtain⟨y1,f1⟩:=hm4 1 _ rfl;have hbv:bv<W4.heap.size:=l_ hbv3 hb4.size;have hcv0:W4.cell? ⟨bv,0,none⟩=some (.int .i64 (v 0)):=(hb4.cell (p:=⟨bv,0,none⟩) hbv3).trans hc30;clear hc30 hbv3;have HBl:=hide (hbl W4 vI3 vO3 hI4);have hnM3 : ¬TSi C (some q) vO3 M:=not_te (w:=w) (λhk=>by have:=TSi.lt HC.o H0.o _ hk;omega) hnM hM0 Ho3;have HT4:=hide (Ht3.o.of_below Hb4);have hs4:M<W4.heap.size:=b_ y0;have x0:=(HX4 0 _ rfl).1;have x1:=(HX4 1 _ rfl).1;generalize hv0:v 0=v0 at hv hcv0;clear hbl hI3 hI4 hb4 hx4 hW4 hB hm4 hv0 y0 f0 y1 f1;have hv':(v0 != 0)=true:=by simpa using hv
 clear hv;go_upto_region 26 with fail;rw[<-HW4.o,<-HBe.o];go_wp2_with fail;refine HBl.o.mono ?_;rintro e w5 ⟨vI5,vO5,rfl,hI5,ht5,ho5⟩;have hm5:=HM4.o.tcs hs4 ht5 hnM3;have hT5:=TSi.next HT4 ht5 Ho3;have HFn:=hide (stq_fin HC hMw H0 HB0 hM0 hI5 hT5 (λk hk=>by
  rcases ho5 k hk with h1|h1
  ·exact Ho3 k h1
  ·exact .inr (t_ (t_ hs3 Hb4.o.size) h1)) r_ hm5 ec vc)
 obtain⟨y0,f0⟩:=hm5 0 _ rfl;obtain⟨y1,f1⟩:=hm5 1 _ rfl;clear hI5 ht5 ho5 hm5 hT5;go_wp2_with fail;obtain⟨t0,t1,hQ⟩:=HFn;exact bodyPost_ret (v:=.agg #[.int .i64 ec,.int .i64 vc]) (by simp[results,results110,go_sem,t0,t1]) rfl hQ
theorem st_whileN {C:IC} (hC:C.Ok) {w:World} {q:Nat} {vI vO:Value} {z:ES} (h:IS C w (some q) vI vO z) (hu:0<z.u) {A:Nat} {f:Nat} {us:Nat->Value} {st:Nat->ES} {v:Nat->Int} {s1:ES} {tu:TypeId} {xu:Value} {a1:Option Addr} {n1 c1:Nat} (hA:A=1) (hv:v 0=0) (hF:ExF 220 (.agg #[.iface tu xu,.slice a1 n1 c1]) f) (hO:OpC C f (.agg #[.iface tu xu,.slice a1 n1 c1]) A us) (hVa : ∀(X:World) (ar:Value),IS C X (some q) vI vO z.sp->LsI C X vO ar A us->Calls prog 144 #[.pointer (some ⟨C.P,0,none⟩),ar] X λx w'=>VaP C X (some q) vO A st v A 2 s1 x w') :
  Calls prog 110 #[.pointer (some ⟨C.P,0,none⟩),.iface 220 (.agg #[.iface tu xu,.slice a1 n1 c1])] w λx w'=>StQ C w q vO 0 0 (st A) x w':=by
 obtain⟨hm,hcf⟩:=hF;obtain⟨W0,M,hW0,hM,hb0,hx0,hM0⟩:=o_box w;have hMw:w.heap.size<=M:=Nat.le_of_eq hM.symm;have hnM : ¬TSi C (some q) vO M:=λhk=>by have:=TSi.lt hC h M hk;omega
 obtain⟨HBu,HOp,H0,HC,HW0,HB0,HM,HX0,HVa⟩:=h9 (burn_yes hC (h.below hC hb0) hu) hO h hC hW0 hb0 hM hx0 hVa;have q_decl:=λW v=>sa_decl_no W 220 v (by decide);have q_set:=λW v=>sa_set_no W 220 v (by decide);have q_store:=λW v=>sa_store_no W 220 v (by decide);have q_if:=λW v=>sa_if_no W 220 v (by decide);have q_while:=sa_while_yes;have HA:=hide hA;clear hA;clear h hC hO hVa hW0 hb0 hM hx0 hu;go_enter func110,ntmps110;go_upto_region 1 with fail;rw[<-HW0.o,<-HM.o];go_wp2_with fail;refine HBu.o.mono ?_;rintro e w1 ⟨rfl,hI1,ht1⟩;obtain⟨HI1,Ht1,HM1,HO1⟩:=h4 hI1 ht1 (HX0.o.tcs hM0 ht1 (λe=>hnM (.inl e))) (HOp w1 (some q) vI vO z.sp hI1);clear hI1 ht1 HBu;go_wp2_with fail;refine HO1.o.mono ?_;rintro e w2 ⟨a,cp,rfl,hL,hb2⟩;obtain⟨HV2,Hb2⟩:=h2 (HVa w2 _ (HI1.o.below HC hb2) hL) hb2;clear hL hb2 HVa HOp HO1;go_wp2_with fail;refine HV2.o.mono ?_;rintro e w3 ⟨vI3,vO3,ht3,ho3,hcase⟩;obtain⟨HtE,HM3,Ho3,Ht3,⟨y0,f0⟩,⟨y1,f1⟩,hs3⟩:=st_aft Ht1 HM1 Hb2 hM0 hnM ht3 ho3;clear ht3 ho3 HV2;obtain⟨bv,cw,rfl,hI3,hbv3,hnv,hc30⟩:=va_one hcase HA;have hI0:Tcs (TEi C vO) w w3:=(HB0.o.tcs (S:=TEi C vO)).trans HtE;clear hcase hI0;obtain⟨W4,hW4⟩ : ∃W4,W4=w3.alloc (.cells #[.iface tu xu,.slice a1 n1 c1] 220):=⟨_,rfl⟩;have hb4:Bl w3 W4:=by rw[hW4];exact r_.alloc n_ _
 have hx4:FrC W4 w3.heap.size [.iface tu xu,.slice a1 n1 c1]:=by rw[hW4];exact box_fr w3 _ _ (by show 2<=1000;omega)
 obtain⟨B,hB⟩ : ∃B,B=w3.heap.size:=⟨_,rfl⟩;rw[<-hB] at hx4;have hBM:B≠M:=by omega
 have hMB : ¬M=B:=by omega
 have hI4:=hI3.below HC hb4;have hm4:=HM3.o.below hb4;obtain⟨Hb4,HX4,HW4,HBe,HI4,HM4⟩:=h6 hb4 hx4 hW4 hB hI4 hm4;clear y0 f0 y1 f1;obtain⟨y0,f0⟩:=hm4 0 _ rfl;obtain⟨y1,f1⟩:=hm4 1 _ rfl;have hbv:bv<W4.heap.size:=l_ hbv3 hb4.size;have hcv0:W4.cell? ⟨bv,0,none⟩=some (.int .i64 (v 0)):=(hb4.cell (p:=⟨bv,0,none⟩) hbv3).trans hc30;clear hc30 hbv3;have HFn:=hide (stq_fin HC hMw H0 HB0 hM0 hI3 Ht3 Ho3 Hb4 HM4 0 0);rw[hv] at hcv0;clear hI3 hI4 hb4 hx4 hW4 hB hm4 hv;go_upto_region 26 with fail;rw[<-HW4.o,<-HBe.o];go_wp2_with fail;obtain⟨t0,t1,hQ⟩:=HFn;exact bodyPost_ret (v:=.agg #[.int .i64 0,.int .i64 0]) (by simp[results,results110,go_sem,t0,t1]) rfl hQ
theorem st_tell {C:IC} (hC:C.Ok) {w:World} {q:Nat} {vI vO:Value} {z:ES} (h:IS C w (some q) vI vO z) (hu:0<z.u) {A:Nat} {f:Nat} {us:Nat->Value} {st:Nat->ES} {v:Nat->Int} {s1:ES} {tu:TypeId} {xu:Value} (hA:A=1) (hou:(st A).o.length+1+(st A).u<=100000) (hF:ExF 221 (.agg #[.iface tu xu]) f) (hO:OpC C f (.agg #[.iface tu xu]) A us) (hVa : ∀(X:World) (ar:Value),IS C X (some q) vI vO z.sp->LsI C X vO ar A us->Calls prog 144 #[.pointer (some ⟨C.P,0,none⟩),ar] X λx w'=>VaP C X (some q) vO A st v A 2 s1 x w') :
  Calls prog 110 #[.pointer (some ⟨C.P,0,none⟩),.iface 221 (.agg #[.iface tu xu])] w λx w'=>StQ C w q vO 0 0 {st A with o:=(st A).o++[v 0]} x w':=by
 obtain⟨hm,hcf⟩:=hF;obtain⟨W0,M,hW0,hM,hb0,hx0,hM0⟩:=o_box w;have hMw:w.heap.size<=M:=Nat.le_of_eq hM.symm;have hnM : ¬TSi C (some q) vO M:=λhk=>by have:=TSi.lt hC h M hk;omega
 obtain⟨HBu,HOp,H0,HC,HW0,HB0,HM,HX0,HVa⟩:=h9 (burn_yes hC (h.below hC hb0) hu) hO h hC hW0 hb0 hM hx0 hVa;have q_decl:=λW v=>sa_decl_no W 221 v (by decide);have q_set:=λW v=>sa_set_no W 221 v (by decide);have q_store:=λW v=>sa_store_no W 221 v (by decide);have q_if:=λW v=>sa_if_no W 221 v (by decide);have q_while:=λW v=>sa_while_no W 221 v (by decide);have q_return:=λW v=>sa_return_no W 221 v (by decide);have q_out:=sa_out_yes;have HA:=hide hA;clear hA;clear h hC hO hVa hW0 hb0 hM hx0 hu;go_enter func110,ntmps110;go_upto_region 1 with fail;rw[<-HW0.o,<-HM.o];go_wp2_with fail;refine HBu.o.mono ?_;rintro e w1 ⟨rfl,hI1,ht1⟩;obtain⟨HI1,Ht1,HM1,HO1⟩:=h4 hI1 ht1 (HX0.o.tcs hM0 ht1 (λe=>hnM (.inl e))) (HOp w1 (some q) vI vO z.sp hI1);clear hI1 ht1 HBu;go_wp2_with fail;refine HO1.o.mono ?_;rintro e w2 ⟨a,cp,rfl,hL,hb2⟩;obtain⟨HV2,Hb2⟩:=h2 (HVa w2 _ (HI1.o.below HC hb2) hL) hb2;clear hL hb2 HVa HOp HO1;go_wp2_with fail;refine HV2.o.mono ?_;rintro e w3 ⟨vI3,vO3,ht3,ho3,hcase⟩;obtain⟨HtE,HM3,Ho3,Ht3,⟨y0,f0⟩,⟨y1,f1⟩,hs3⟩:=st_aft Ht1 HM1 Hb2 hM0 hnM ht3 ho3;clear ht3 ho3 HV2;obtain⟨bv,cw,rfl,hI3,hbv3,hnv,hc30⟩:=va_one hcase HA;have hI0:Tcs (TEi C vO) w w3:=(HB0.o.tcs (S:=TEi C vO)).trans HtE;clear hcase hI0;obtain⟨W4,hW4⟩ : ∃W4,W4=w3.alloc (.cells #[.iface tu xu] 221):=⟨_,rfl⟩;have hb4:Bl w3 W4:=by rw[hW4];exact r_.alloc n_ _
 have hx4:FrC W4 w3.heap.size [.iface tu xu]:=by rw[hW4];exact box_fr w3 _ _ (by show 1<=1000;omega)
 obtain⟨B,hB⟩ : ∃B,B=w3.heap.size:=⟨_,rfl⟩;rw[<-hB] at hx4;have hBM:B≠M:=by omega
 have hMB : ¬M=B:=by omega
 have hI4:=hI3.below HC hb4;have hm4:=HM3.o.below hb4;obtain⟨Hb4,HX4,HW4,HBe,HI4,HM4⟩:=h6 hb4 hx4 hW4 hB hI4 hm4;clear y0 f0 y1 f1;obtain⟨y0,f0⟩:=hm4 0 _ rfl;obtain⟨y1,f1⟩:=hm4 1 _ rfl;have hbv:bv<W4.heap.size:=l_ hbv3 hb4.size;have hcv0:W4.cell? ⟨bv,0,none⟩=some (.int .i64 (v 0)):=(hb4.cell (p:=⟨bv,0,none⟩) hbv3).trans hc30;clear hc30 hbv3;obtain⟨W5,hW5⟩ : ∃W5,W5=W4.drew:=⟨_,rfl⟩;have hb5:Bl W4 W5:=by rw[hW5];exact r_.drew
 have hI5:=hI4.below HC hb5;obtain⟨va,vc,w7,r7,hI7,⟨x7,f7⟩,t7,t7',o7⟩:=out_run HC (v 0) hI5 hou;obtain⟨W6,hW6⟩ : ∃W6,W6=W5.alloc (.cells #[.int .i64 (v 0)] 2):=⟨_,rfl⟩;rw[<-hW6] at r7;have hb6:Bl W5 W6:=by rw[hW6];exact r_.alloc n_ _
 have hbv5:bv<W5.heap.size:=l_ hbv hb5.size;have hc5:W5.cell? ⟨bv,0,none⟩=some (.int .i64 (v 0)):=(hb5.cell (p:=⟨bv,0,none⟩) hbv).trans hcv0;have hc6:W6.cell? ⟨bv,0,none⟩=some (.int .i64 (v 0)):=(hb6.cell (p:=⟨bv,0,none⟩) hbv5).trans hc5;have hc7:w7.cell? ⟨bv,0,none⟩=some (.int .i64 (v 0)):=(c_ (a:=⟨bv,0,none⟩) (t7.block bv hbv5 hnv)).trans hc5;have hp5:=(hI5.box 7 _ rfl).1;have hp6:=((hI5.below HC hb6).box 7 _ rfl).1;have hnM3 : ¬TSi C (some q) vO3 M:=not_te (w:=w) (λhk=>by have:=TSi.lt HC.o H0.o _ hk;omega) hnM hM0 Ho3;have hm5:=hm4.below hb5;have hPM:C.P≠M:=λe=>by have:=(H0.o.hi HC.o).1;omega
 have hm7:FrC w7 M [.int .i64 0,.int .i64 0]:=hm5.tcs (b_ (hm5 0 _ rfl).1) t7 (λe=>hnM3 (.inl e));have hm8:FrC (w7.setCell ⟨C.P,7,none⟩ (.slice va ((st A).o.length+1) vc)) M [.int .i64 0,.int .i64 0]:=hm5.tcs (b_ (hm5 0 _ rfl).1) t7' (λe=>hnM3 (.inl e));have hT8:Tcs (TSi C (some q) vO) W0 (w7.setCell ⟨C.P,7,none⟩ (.slice va ((st A).o.length+1) vc)):=TSi.next ((Ht3.o.of_below Hb4).of_below hb5) (TSi.of t7') Ho3;have HFn:=hide (stq_fin HC hMw H0 HB0 hM0 hI7 hT8 (λk hk=>by
  rcases o7 k hk with h1|h1
  ·exact Ho3 k h1
  ·exact .inr (t_ (t_ hs3 Hb4.o.size) (t_ hb5.size h1))) r_ hm8 0 0)
 obtain⟨La,Lc,eL,-⟩:=own_shapeU hI5.out;subst eL;generalize hll:(st A).o.length=ol at *;generalize hv0:v 0=v0 at *;obtain⟨HLl,HV0⟩:=h2 hll hv0;clear hv0;obtain⟨Hr7,HW5,HW6⟩:=h3 r7 hW5 hW6;have HS:Hid (W5.cell? ⟨C.P,7,none⟩=some (.slice La ol Lc)/\W5.cell? ⟨bv,0,none⟩=some (.int .i64 v0)):=⟨hp5,hc5⟩;have HS6:Hid (W6.cell? ⟨C.P,7,none⟩=some (.slice La ol Lc)/\W6.cell? ⟨bv,0,none⟩=some (.int .i64 v0)):=⟨hp6,hc6⟩;have HS7:Hid (w7.cell? ⟨C.P,7,none⟩=some (.slice La ol Lc)/\w7.cell? ⟨bv,0,none⟩=some (.int .i64 v0)):=⟨x7,hc7⟩;clear y0 f0 y1 f1;obtain⟨y0,f0⟩:=hm7 0 _ rfl;obtain⟨y1,f1⟩:=hm7 1 _ rfl;clear hll r7 hW5 hW6 hI3 hI4 hb4 hx4 hW4 hB hm4 hI5 hI7 t7 t7' o7 hb5 hb6 hbv5 hc5 hc6 hc7 hp5 hp6 hnM3 hm5 hm7 hm8 hT8 hcv0 hbv hnv hou;go_upto_region 33 with fail;rw[<-HW4.o];refine wp_region_E 12 (λX=>X.cell? ⟨C.P,7,none⟩=some (.slice La ol Lc)/\X.cell? ⟨bv,0,none⟩=some (.int .i64 v0)) k_ ?_;rw[<-HW5.o];refine tk 0 [10,11,12] HS ?_;refine tk 1 [2,3,4,9,12] HS ?_;refine tk 2 [3,4,9,12] HS ?_;refine tk 3 [4,9,12] HS ?_;refine tk 4 [9,12] HS ?_;refine tk 5 [6,7,8,9,12] HS ?_;refine tk 6 [7,8,9,12] HS ?_;refine tk 7 [8,9,12] HS ?_;clear HS;refine wpAnyE_one (i:=8) k_ rfl (λK hK => ?_);go_simp;rw[<-HW6.o];refine hK.out _ _ (λ_=>HS6) ?_;clear hK K;try simp only[Act.put,tA,tB,tC]
 refine wpAnyE_one (i:=9) k_ rfl (λK hK => ?_);refine step_appR rfl (.tmp 108) (.tmp 112) 26 rfl (.slice La ol Lc) (.slice (some ⟨W5.heap.size,0,none⟩) 1 1) (.slice va (ol+1) vc) w7 rfl rfl Hr7 ?_;refine hK.out _ _ (λ_=>HS7) ?_;clear hK K;try simp only[Act.put,tA,tB,tC]
 have HS:=HS7;refine tk 10 [11,12] HS ?_;refine tk 11 [12] HS ?_;clear HS;refine wpAnyE_one (i:=12) k_ rfl (λK hK => ?_);go_simp;refine hK.out _ _ (λh=>absurd rfl h) ?_;clear hK K;refine wpAnyE_done k_ ?_ _;go_wp2_with fail;obtain⟨t0,t1,hQ⟩:=HFn;refine bodyPost_ret (v:=.agg #[.int .i64 0,.int .i64 0]) (by simp[results,results110,go_sem,t0,t1]) rfl ?_;rw[HV0.o];exact hQ
section
variable {C:IC} {w:World} {q:Nat} {vI vO:Value} {z:ES}
theorem st_dry (hC:C.Ok) (h:IS C w (some q) vI vO z) (hu:z.u=0) (t:TypeId) (x:Value):Calls prog 110 #[.pointer (some ⟨C.P,0,none⟩),.iface t x] w λx w'=>StQ C w q vO 3 0 z x w':=by
 obtain⟨W0,M,hW0,hM,hb0,hx0,hM0⟩:=o_box w;obtain⟨HBu,HFn⟩:=h2 (burn_no (h.below hC hb0) hu) (stq_fin hC (Nat.le_of_eq hM.symm) h hb0 hM0 (h.below hC hb0) (Tcs.refl _ _) (λk hk=>.inl hk) r_ hx0 3 0);obtain⟨y0,f0⟩:=hx0 0 _ rfl;obtain⟨y1,f1⟩:=hx0 1 _ rfl;obtain⟨HC,HW0,HM⟩:=h3 hC hW0 hM;clear h hC hu hW0 hM hb0 hx0;go_enter func110,ntmps110;go_upto_region 1 with fail;rw[<-HW0.o,<-HM.o];go_wp2_with fail;refine HBu.o.mono ?_;rintro e w1 ⟨rfl,hw1⟩;rw[hw1];go_wp2_with fail;obtain⟨t0,t1,hQ⟩:=HFn;exact bodyPost_ret (v:=.agg #[.int .i64 3,.int .i64 0]) (by simp[results,results110,go_sem,t0,t1]) rfl hQ
theorem st_out (hC:C.Ok) (h:IS C w (some q) vI vO z) (hu:0<z.u) {A:Nat} {f:Nat} {us:Nat->Value} {st:Nat->ES} {v:Nat->Int} {j:Nat} {c c1:Int} (hc1:c1=c+1) {s1:ES} (hj:j<A) (hc:c=2∨c=3) {t:TypeId} {x:Value} (hF:ExF t x f) (hO:OpC C f x A us) (hVa : ∀(X:World) (ar:Value),IS C X (some q) vI vO z.sp->LsI C X vO ar A us->Calls prog 144 #[.pointer (some ⟨C.P,0,none⟩),ar] X λx w'=>VaP C X (some q) vO A st v j c s1 x w') :
  Calls prog 110 #[.pointer (some ⟨C.P,0,none⟩),.iface t x] w λx w'=>StQ C w q vO c1 0 s1 x w':=by
 obtain⟨hm,hcf⟩:=hF;obtain⟨W0,M,hW0,hM,hb0,hx0,hM0⟩:=o_box w;have hMw:w.heap.size<=M:=Nat.le_of_eq hM.symm;have hnM : ¬TSi C (some q) vO M:=λhk=>by have:=TSi.lt hC h M hk;omega
 obtain⟨HBu,HOp,H0,HC,HW0,HB0,HM,HX0,HVa,Hc1⟩:=h10 (burn_yes hC (h.below hC hb0) hu) hO h hC hW0 hb0 hM hx0 hVa hc1;clear hc1;clear h hC hO hVa hW0 hb0 hM hx0 hu;go_enter func110,ntmps110;go_upto_region 1 with fail;rw[<-HW0.o,<-HM.o];go_wp2_with fail;refine HBu.o.mono ?_;rintro e w1 ⟨rfl,hI1,ht1⟩;obtain⟨HI1,Ht1,HM1,HO1⟩:=h4 hI1 ht1 (HX0.o.tcs hM0 ht1 (λe=>hnM (.inl e))) (HOp w1 (some q) vI vO z.sp hI1);clear hI1 ht1 HBu;go_wp2_with fail;refine HO1.o.mono ?_;rintro e w2 ⟨a,cp,rfl,hL,hb2⟩;obtain⟨HV2,Hb2⟩:=h2 (HVa w2 _ (HI1.o.below HC hb2) hL) hb2;clear hL hb2 HVa HOp HO1;go_wp2_with fail;refine HV2.o.mono ?_;rintro e w3 ⟨vI3,vO3,ht3,ho3,hcase⟩;obtain⟨HtE,HM3,Ho3,Ht3,⟨y0,f0⟩,⟨y1,f1⟩,hs3⟩:=st_aft Ht1 HM1 Hb2 hM0 hnM ht3 ho3;clear ht3 ho3 HV2;obtain⟨rfl,hI3⟩:e=.returned (.tuple #[.slice none 0 0,.int .i64 c1])/\IS C w3 (some q) vI3 vO3 s1:=by
  rw[Hc1.o];rcases hcase with ⟨e1,-⟩|⟨-,e1,e2⟩
  ·omega
  ·exact⟨e1,e2⟩
 have hcn:(c1 != 0)=true:=by have:=Hc1.o;simp;omega
 have HFn:=hide (stq_fin HC hMw H0 HB0 hM0 hI3 Ht3 Ho3 r_ HM3 c1 0);clear hcase hI3;go_wp2_with fail;obtain⟨t0,t1,hQ⟩:=HFn;exact bodyPost_ret (v:=.agg #[.int .i64 c1,.int .i64 0]) (by simp[results,results110,go_sem,t0,t1]) rfl hQ
end
section
variable {C:IC} {w X:World} {q:Nat} {vI vO vI3 vO3:Value} {z y:ES} {x:ByteArray} {v:Int}
theorem set_any (hC:C.Ok) (h:IS C w (some q) vI vO z) (hy:IS C X (some q) vI3 vO3 y) (ht:Tcs (TEi C vO) w X) (hl:y.l=z.l) (hu:y.u+1<=z.u) (hz:x.size<=maxLen) (hg:gix C.t.globals x=none) (hv:inB v) {l':List (ByteArray × Int)} (hl' : ∀p u,(p,u)∈l'->(p=x/\u=v)∨(p≠x/\(p,u)∈y.l)) :
  Calls prog 145 #[.pointer (some ⟨C.P,0,none⟩),.string x,.int .i64 v] X λe w'=>e=.returned (.tuple #[])/\IS C w' (some q) vI3 vO3 {y with l:=l'}/\Tcs (TSi C (some q) vO3) X w':=by
 rcases h.var with ⟨e,-⟩|⟨b,n,D,e,h1,h2,h3,h4,h5⟩
 ·cases e
 ·cases e
  obtain⟨q1,q2,q3,q4,q5⟩:=hC.pg;have hown:=map_tcs h1 ht (λhk=>by
   rcases hk with hk|hk|hk
   ·omega
   ·have:=(q5 q hk).2;omega
   ·exact h5 hk)
  refine (set_loc hC hy hown (by rw[hl];exact h2) o_ hz hg hv hl').mono λe w' hE => ?_;exact⟨hE.1,hE.2.1,hE.2.2.mono λk hk=>.inr (by have e:k=q:=hk;rw[e])⟩
theorem wr_any (hC:C.Ok) (h:IS C w (some q) vI vO z) (hy:IS C X (some q) vI3 vO3 y) (ht:Tcs (TEi C vO) w X) (hl:y.l=z.l) (hu:y.u+1<=z.u) (hsc:Scp C.t (z.l.map Prod.fst)) (hz:x.size<=maxLen) (hx:x∈z.l.map Prod.fst∨(x∉z.l.map Prod.fst/\globI C.t.globals x=0)) (hv:inB v) :
  Calls prog 145 #[.pointer (some ⟨C.P,0,none⟩),.string x,.int .i64 v] X λe w'=>e=.returned (.tuple #[])/\IS C w' (some q) vI3 vO3 (y.wr C.t x v)/\Tcs (TSi C (some q) vO3) X w':=by
 rcases hx with hx|⟨hx,hg⟩
 ·have hx':=hx;rw[<-hl] at hx';obtain⟨j,hj,h1,h2⟩:=lix_mem.1 hx';have hs:y.wr C.t x v = {y with l:=y.l.set j (x,v)}:=by unfold ES.wr;rw[h1]
  rw[hs];have hnd:(y.l.map Prod.fst).Nodup:=by rw[hl];exact hsc.1
  refine set_any hC h hy ht hl hu hz (scp_gix hC hsc hx) hv (λp u hp => ?_);obtain⟨i,hi,he⟩:=List.getElem_of_mem hp;rw[List.length_set] at hi;rw[List.getElem_set] at he;by_cases hij:j=i
  ·rw[if_pos hij] at he;cases he
   exact .inl ⟨rfl,rfl⟩
  ·rw[if_neg hij] at he;refine .inr ⟨λe=>hij ?_,he ▸ g_ hi⟩;refine nodup_ix hnd (by simpa using hj) (by simpa using hi) ?_;rw[List.getElem_map,List.getElem_map,h2,he,e]
 ·obtain⟨k,hkl,h1,h2⟩:=gix_glob (gs:=C.t.globals) (x:=x) o_;have hx':x∉y.l.map Prod.fst:=by rw[hl];exact hx
  have hs:y.wr C.t x v = {y with g:=y.g.set k ((y.g.getD k []).set 0 v)}:=by unfold ES.wr;rw[lix_no hx',h1]
  rw[hs];exact (set_glb hC hy hz hkl h1 hv).mono λe w' hE=>⟨hE.1,hE.2.1,TSi.of hE.2.2⟩
theorem vap_any {vV:Option Nat} {A:Nat} {st:Nat->ES} {v:Nat->Int} {c:Int} {s1:ES} {x:Ending} {w':World} (h:VaP C w vV vO A st v A c s1 x w'):VaP C w vV vO A st v A 2 s1 x w':=by
 obtain⟨a,b,h1,h2,h3|⟨h3,-⟩⟩:=h
 ·exact⟨a,b,h1,h2,.inl h3⟩
 ·omega
theorem stmt_name {s:St} (h:stmtB s=true) (hk:s.kind<=3):s.name.size<=20:=by
 simp only[stmtB,Bool.and_eq_true] at h;have h1:=h.1.1.1.1.1.2;rw[if_pos hk] at h1;have:nameP s.name:=by simpa[nameB] using h1
 exact this.2.1
def StI (C:IC) (n:Nat):Prop:=∀(s:St) (a b:List St) (us:Nat->Value) (sv:Value) (z:ES) (ec vc:Int) (z':ES),Lk C.t C.fr n s a b z ec vc z'->KnP C.t (z.l.map Prod.fst) s->Scp C.t (z.l.map Prod.fst)->stmtB s=true->(s.kind=4∨s.kind=5->OkB C.t (z.l.map Prod.fst) a/\OkB C.t (z.l.map Prod.fst) b)->SvV C sv s a b us->(∀i,i<nEx s->Tv C.w0 C.S (us i) (exK s i))->∀(w:World) (q:Nat) (vI vO:Value),IS C w (some q) vI vO z->Calls prog 110 #[.pointer (some ⟨C.P,0,none⟩),sv] w λx w'=>StQ C w q vO ec vc z' x w'
theorem trn_no {r:ER} (h:endR r≠0):trnE r=endR r:=by unfold trnE;rw[if_neg h]
theorem stI_step (hC:C.Ok) {n:Nat} (IH:ExI C n) (IB:BlI C n):StI C n:=by
 intro s a b us sv z ec vc z' hLk hKn hsc hsB hOk hSv hTv w q vI vO h;have hus : ∀i,i<nEx s->∃t x,us i=.iface t x:=λi hi=>(hTv i hi).isI;obtain⟨t,x,f,hsv,hF,hO⟩:=stmt_ops hC hSv hus;by_cases hu:z.u=0
 ·rcases hLk with ⟨-,rfl,rfl,rfl⟩|⟨h1,-⟩
  ·rw[hsv];exact st_dry hC h hu t x
  ·omega
 ·have hu':0<z.u:=by omega
  obtain⟨st,v,j,c,s1,h0,hOp,hc,hcase⟩:=hLk.ops hu' hKn hsB;have hok0:OkW (st 0):=by rw[h0];exact⟨h.ok.g,h.ok.l,h.ok.i⟩
  have hl0:(st 0).l=z.l:=by rw[h0];rfl
  have hVa : ∀(X:World) (ar:Value),IS C X (some q) vI vO z.sp->LsI C X vO ar (nEx s) us->Calls prog 144 #[.pointer (some ⟨C.P,0,none⟩),ar] X λx w'=>VaP C X (some q) vO (nEx s) st v j c s1 x w':=λX ar hX hL=>values_any hC IH hOp hc (by rw[hl0];exact hsc) (by rw[h0];exact hX) hL hTv;rcases hcase with ⟨hj,rfl,rfl,rfl⟩|⟨hj,hR⟩
  ·rw[hsv];exact st_out hC h hu' rfl hj hc hF hO hVa
  ·subst hj;have hVa' : ∀(X:World) (ar:Value),IS C X (some q) vI vO z.sp->LsI C X vO ar (nEx s) us->Calls prog 144 #[.pointer (some ⟨C.P,0,none⟩),ar] X λx w'=>VaP C X (some q) vO (nEx s) st v (nEx s) 2 s1 x w':=λX ar hX hL=>(hVa X ar hX hL).mono λx w' hE=>vap_any hE;obtain⟨okA,hlA,hin⟩:=hOp.l hok0 (nEx s) n_;have hlA':(st (nEx s)).l=z.l:=hlA.trans hl0;have hou:Ou 0 (st 0) (st (nEx s)):=ou_chn (λi hi=>(hOp.kid i hi).ou) (nEx s) n_;rw[h0] at hou;have hu1:(st (nEx s)).u+1<=z.u:=by have:=hou.1;simp only[ES.sp] at this;omega
   have hpos:0<nEx s:=by unfold nEx;split <;> omega
   have hn1:s.kind≠3->nEx s=1:=λh=>by unfold nEx;rw[if_neg h]
   have hn2:s.kind=3->nEx s=2:=λh=>by unfold nEx;rw[if_pos h]
   obtain⟨tu,xu,hu0⟩:=hus 0 hpos;have hv0:=hin 0 hpos;have hblk : ∀ {l:List St} {L:List (Value × List St)} {vb:Value} {r:ER},Ev C.t C.fr n (.bl l) (st (nEx s)) r z'->OkB C.t (z.l.map Prod.fst) l->l=flatL L->BkL C.w0 C.S vb L->∀(X:World) (vI3 vO3:Value),IS C X (some q) vI3 vO3 (st (nEx s))->Calls prog 70 #[.pointer (some ⟨C.P,0,none⟩),vb] X λx w'=>StQ C X q vO3 (endR r) (valR r) z' x w':=λ{l L vb r} hE hl he hb X vI3 vO3 hX=>by
    subst he;exact IB L _ r z' hE (by rw[hlA'];exact hl) (by rw[hlA'];exact hsc) X q vI3 vO3 vb hX hb
   rcases hR with ⟨hk,rfl,rfl,rfl⟩|⟨hk,rfl,rfl,rfl⟩|⟨hk,hR⟩|⟨hk,r,rfl,rfl,hR⟩|⟨hk,hR⟩|⟨hk,rfl,rfl,rfl⟩|⟨hk,rfl,rfl,rfl⟩|⟨hk,rfl,rfl,rfl⟩
   ·obtain⟨hd1,hd2⟩:=hKn.decl hk;rcases hSv with ⟨h9,rfl⟩|⟨h9,rfl⟩|⟨h9,rfl⟩|⟨h9,va,vb,La,Lb,rfl,hbA,hfA,hbB,hfB⟩|⟨h9,va,La,rfl,hbA,hfA⟩|⟨h9,rfl⟩|⟨h9,rfl⟩|⟨h9,rfl⟩ <;> first|omega|skip;rw[hu0] at hsv ⊢;cases hsv
    refine st_decl hC h hu' (hn1 o_) (λX vI3 vO3 hX ht => ?_) hF hO hVa';refine set_any hC h hX ht hlA' hu1 (max_small (stmt_name hsB o_) (by decide)) (gix_neg (glob_nn hC.snd) hd2) hv0 (λp u hp => ?_);rcases List.mem_append.1 hp with hp|hp
    ·refine .inr ⟨λe=>hd1 ?_,hp⟩;rw[<-e,<-hlA'];exact List.mem_map.2 ⟨_,hp,rfl⟩
    ·simp only[List.mem_singleton,Prod.mk.injEq] at hp;exact .inl hp
   ·rcases hSv with ⟨h9,rfl⟩|⟨h9,rfl⟩|⟨h9,rfl⟩|⟨h9,va,vb,La,Lb,rfl,hbA,hfA,hbB,hfB⟩|⟨h9,va,La,rfl,hbA,hfA⟩|⟨h9,rfl⟩|⟨h9,rfl⟩|⟨h9,rfl⟩ <;> first|omega|skip;rw[hu0] at hsv ⊢;cases hsv
    exact st_set hC h hu' (hn1 o_) (λX vI3 vO3 hX ht=>wr_any hC h hX ht hlA' hu1 hsc (max_small (stmt_name hsB o_) (by decide)) (hKn.set hk) hv0) hF hO hVa'
   ·obtain⟨-,hg⟩:=hKn.store hk;obtain⟨k,hkl,hgk,-⟩:=gix_glob (gs:=C.t.globals) (x:=s.name) o_;obtain⟨tv,xv,hu2⟩:=hus 1 (by rw[hn2 hk];omega);have hv1:=hin 1 (by rw[hn2 hk];omega);rcases hSv with ⟨h9,rfl⟩|⟨h9,rfl⟩|⟨h9,rfl⟩|⟨h9,va,vb,La,Lb,rfl,hbA,hfA,hbB,hfB⟩|⟨h9,va,La,rfl,hbA,hfA⟩|⟨h9,rfl⟩|⟨h9,rfl⟩|⟨h9,rfl⟩ <;> first|omega|skip;rw[hu0,hu2] at hsv ⊢;cases hsv
    have hzz:=max_small (stmt_name hsB o_) (by decide);rcases hR with ⟨hno,rfl,rfl,rfl⟩|⟨hy,rfl,rfl,rfl⟩
    ·exact st_storeN hC h hu' (hn2 hk) hzz hkl hgk hno hF hO hVa'
    ·have e:(st (nEx s)).st C.t s.name (v 0).toNat (v 1) = {st (nEx s) with g:=(st (nEx s)).g.set k (((st (nEx s)).g.getD k []).set (v 0).toNat (v 1))}:=by unfold ES.st;rw[hgk]
     rw[e];exact st_store hC h hu' (hn2 hk) hzz hkl hgk hy hv1 hF hO hVa'
   ·obtain⟨hoA,hoB⟩:=hOk (.inl hk);rcases hSv with ⟨h9,rfl⟩|⟨h9,rfl⟩|⟨h9,rfl⟩|⟨h9,va,vb,La,Lb,rfl,hbA,hfA,hbB,hfB⟩|⟨h9,va,La,rfl,hbA,hfA⟩|⟨h9,rfl⟩|⟨h9,rfl⟩|⟨h9,rfl⟩ <;> first|omega|skip;obtain⟨a1,c1,rfl,-⟩:=hbA.args;obtain⟨a2,c2,rfl,-⟩:=hbB.args;rw[hu0] at hsv ⊢;cases hsv
    rcases hR with ⟨hv,hE⟩|⟨hv,hE⟩
    ·exact st_ifT hC h hu' (hn1 o_) hv (hblk hE hoA hfA hbA) hF hO hVa'
    ·exact st_ifE hC h hu' (hn1 o_) hv (hblk hE hoB hfB hbB) hF hO hVa'
   ·obtain⟨hoA,hoB⟩:=hOk (.inr hk);rcases hSv with ⟨h9,rfl⟩|⟨h9,rfl⟩|⟨h9,rfl⟩|⟨h9,va,vb,La,Lb,rfl,hbA,hfA,hbB,hfB⟩|⟨h9,va,La,rfl,hbA,hfA⟩|⟨h9,rfl⟩|⟨h9,rfl⟩|⟨h9,rfl⟩ <;> first|omega|skip;obtain⟨a1,c1,rfl,-⟩:=hbA.args;rw[hu0] at hsv ⊢;cases hsv
    rcases hR with ⟨hv,rfl,rfl,rfl⟩|⟨hv,r,hE,hr⟩
    ·exact st_whileN hC h hu' (hn1 o_) hv hF hO hVa'
    ·have hT : ∀(X:World) (vI3 vO3:Value),IS C X (some q) vI3 vO3 (st (nEx s))->Calls prog 147 #[.pointer (some ⟨C.P,0,none⟩),.agg #[.iface tu xu,.slice a1 La.length c1]] X λx w'=>StQ C X q vO3 (trnE r) (valR r) z' x w':=λX vI3 vO3 hX=>turn_any hC hX (λY hY=>hblk hE hoA hfA hbA Y vI3 vO3 hY);have e:ec=trnE r/\vc=valR r:=by
      rcases hr with ⟨rfl,rfl,rfl⟩|⟨hne,rfl,rfl⟩
      ·exact⟨rfl,rfl⟩
      ·refine⟨(trn_no λe => ?_).symm,rfl⟩;cases r using ER.cs with
       | val v=>exact hE.nov rfl v rfl
       | on=>exact hne rfl
       | ret v=>exact absurd e (by decide:(2:Int)≠0)
       | out c=>rcases hE.outc c rfl with e1|e1 <;> (subst e1;exact absurd e (by decide))
     rw[e.1,e.2];exact st_while hC h hu' (hn1 o_) hv hT hF hO hVa'
   ·rcases hSv with ⟨h9,rfl⟩|⟨h9,rfl⟩|⟨h9,rfl⟩|⟨h9,va,vb,La,Lb,rfl,hbA,hfA,hbB,hfB⟩|⟨h9,va,La,rfl,hbA,hfA⟩|⟨h9,rfl⟩|⟨h9,rfl⟩|⟨h9,rfl⟩ <;> first|omega|skip;rw[hu0] at hsv ⊢;cases hsv
    exact st_return hC h hu' (hn1 o_) hF hO hVa'
   ·rcases hSv with ⟨h9,rfl⟩|⟨h9,rfl⟩|⟨h9,rfl⟩|⟨h9,va,vb,La,Lb,rfl,hbA,hfA,hbB,hfB⟩|⟨h9,va,La,rfl,hbA,hfA⟩|⟨h9,rfl⟩|⟨h9,rfl⟩|⟨h9,rfl⟩ <;> first|omega|skip;rw[hu0] at hsv ⊢;cases hsv
    refine st_tell hC h hu' (hn1 o_) ?_ hF hO hVa';have h1:=hou.2.1;have h2:=h.uu.2;simp only[ES.sp] at h1;omega
   ·rcases hSv with ⟨h9,rfl⟩|⟨h9,rfl⟩|⟨h9,rfl⟩|⟨h9,va,vb,La,Lb,rfl,hbA,hfA,hbB,hfB⟩|⟨h9,va,La,rfl,hbA,hfA⟩|⟨h9,rfl⟩|⟨h9,rfl⟩|⟨h9,rfl⟩ <;> first|omega|skip;rw[hu0] at hsv ⊢;cases hsv
    exact st_call hC h hu' hF hO hVa'
end
section
variable {C:IC} {w:World} {b n:Nat} {vI vO:Value} {z:ES} {t:Tr} {fr:List Int} {s:St} {a:List St}
theorem box_put (hC:C.Ok) {B:Nat} {x0 x1:Value} (h:IS C w (some b) vI vO z) (hf:FrC w B [x0,x1]) (hB:C.w0.heap.size<=B) (hn : ¬TSi C (some b) vO B) (e v:Value) :
  IS C ((w.setCell ⟨B,0,none⟩ e).setCell ⟨B,1,none⟩ v) (some b) vI vO z/\FrC ((w.setCell ⟨B,0,none⟩ e).setCell ⟨B,1,none⟩ v) B [e,v]/\Tcs (λk=>k=B) w ((w.setCell ⟨B,0,none⟩ e).setCell ⟨B,1,none⟩ v):=by
 have hT:Tcs (λk=>k=B) w ((w.setCell ⟨B,0,none⟩ e).setCell ⟨B,1,none⟩ v):=((Tcs.refl (λk=>k=B) w).setCell (p:=⟨B,0,none⟩) rfl _).setCell (p:=⟨B,1,none⟩) rfl _;refine⟨h.past hC hT (λk hk => ?_),(hf.set 0 e).set 1 v,hT⟩;have e:k=B:=hk;subst e;exact⟨hB,λe=>hn (.inr e),λe=>hn (.inl (.inr (.inr e)))⟩
theorem VarIs.less {D:DataW Unit} {l l':List (ByteArray × Int)} (h:VarIs D l) (hs : ∀x∈l',x∈l):VarIs D l':=⟨h.map,λx v hx=>h.val x v (hs _ hx)⟩
theorem IS.cut (h:IS C w (some b) vI vO z) (m:Nat):IS C w (some b) vI vO {z with l:=z.l.take m}:=by
 refine⟨h.tc,h.box,h.gl,h.gw,h.g1,?_,h.inp,h.out,⟨h.ok.g,λx hx=>h.ok.l x (List.mem_of_mem_take hx),h.ok.i⟩,h.uu,h.nn⟩;rcases h.var with ⟨e,-⟩|⟨q,n,D,e,h1,h2,h3⟩
 ·cases e
 ·exact .inr ⟨q,n,D,e,h1,h2.less (λx hx=>List.mem_of_mem_take hx),h3⟩
theorem blk_next {j:Nat} {l:List St} {b rest:List St} {r:ER} {z2:ES} (hO:One l s a b) (h:Ev t fr j (.sq (l++rest)) z r z2) (hj:j<=n) (hok:OkW z) : ∃r1 z1,Pend t fr n s a b z r1 z1/\((r1 ≠ .on/\r=r1/\z2=z1)∨(r1=.on/\z1.l.map Prod.fst=scp s (z.l.map Prod.fst)/\∃j',j'<=n/\Ev t fr j' (.sq rest) z1 r z2)):=by
 have e:l++rest=s::(a++b++rest):=by rw[hO.is];simp
 obtain⟨e1,e2,e3⟩:=hO.take rest;rw[e] at h;rcases ev_seq h with ⟨h1,rfl,rfl⟩|⟨h1,j1,r1,z1,rfl,h2,h3⟩
 ·exact⟨.out 2,z2,.inl ⟨h1,rfl,rfl⟩,.inl ⟨(λe=>by cases e),rfl,rfl⟩⟩
 ·rw[e1,e2] at h2;refine⟨r1,z1,.inr ⟨h1,h2.ups o_⟩,?_⟩;rcases h3 with ⟨h4,rfl,rfl⟩|⟨rfl,h4⟩
  ·exact .inl ⟨h4,rfl,rfl⟩
  ·rw[e3] at h4;have hn:=ev_names j1 h2 (⟨hok.g,hok.l,hok.i⟩:OkW z.sp);exact .inr ⟨rfl,hn,j1,by omega,h4⟩
theorem lk_names {b:List St} {vc:Int} {z':ES} (h:Lk t fr n s a b z 1 vc z') (hok:OkW z):z'.l.map Prod.fst=z.l.map Prod.fst:=by
 have hok':OkW z.sp:=⟨hok.g,hok.l,hok.i⟩;rcases h with ⟨-,h,-⟩|⟨-,⟨h5,r,hE,h,-⟩|⟨h5,⟨c,hE,h,-⟩|⟨-,h,-⟩|⟨v,z1,r,g1,g2,g3,⟨rfl,-,-⟩|⟨-,h,-⟩⟩⟩⟩
 ·cases h
 ·exact absurd h.symm (endR_ne hE)
 ·rcases hE.outc c rfl with e|e <;> (subst e;cases h)
 ·cases h
 ·have i1:=g1.inv hok' trivial;have i3:=g3.inv i1.1 trivial;have e1:z1.l=z.l:=i1.2.2.2.2.2;have e3:z'.l.map Prod.fst=z1.l.map Prod.fst:=i3.2.2.2.2.2;rw[e3,e1]
 ·exact absurd h.symm (endR_ne g3)
theorem flat_drop (L:List (Value × List St)) (k:Nat) (hk:k<L.length):flatL (L.drop k)=(L.getD k (.nilFunc,[])).2++flatL (L.drop (k+1)):=by
 rw[List.drop_eq_getElem_cons hk,flatL_cons];simp[List.getD,hk]
end
section
variable {C:IC} {vO vI1 vO1:Value} {W1 wr:World} {M n b:Nat} {s:St} {a:List St} {r:ER} {zc:ES}
structure BkS (C:IC) (n:Nat) (L:List (Value × List St)) (r:ER) (z2:ES) (W0:World) (b:Nat) (vO:Value) (M:Nat) (k:Nat) (wr:World) (vI1 vO1:Value) (zc:ES):Prop where
 ev : ∃j,j<=n/\Ev C.t C.fr j (.sq (flatL (L.drop k))) zc r z2
 st:IS C wr (some b) vI1 vO1 zc
 ok:OkB C.t (zc.l.map Prod.fst) (flatL (L.drop k))
 sc:Scp C.t (zc.l.map Prod.fst)
 tc:Tcs (TSi C (some b) vO) W0 wr
 oo : ∀k,vO1.ownBlock=some k->vO.ownBlock=some k∨W0.heap.size<=k
 mm:FrC wr M [.int .i64 0,.int .i64 0]
structure LkS (C:IC) (n:Nat) (s:St) (a c:List St) (r1:ER) (z1:ES) (nm:List ByteArray) (W1:World) (b:Nat) (vO:Value) (M B:Nat) (wr:World) (vI1 vO1:Value) (zc:ES) (en vv:Int):Prop where
 pe:(en=1/\Pend C.t C.fr n s a c zc r1 z1/\zc.l.map Prod.fst=nm)∨(en≠1/\en=endR r1/\vv=valR r1/\zc=z1)
 st:IS C wr (some b) vI1 vO1 zc
 tc:Tcs (λk=>TSi C (some b) vO k∨k=B) W1 wr
 oo : ∀k,vO1.ownBlock=some k->vO.ownBlock=some k∨W1.heap.size<=k
 mm:FrC wr M [.int .i64 0,.int .i64 0]
 bx:FrC wr B [.int .i64 en,.int .i64 vv]
theorem not_te2 {q:Nat} {vO2:Value} (hM : ¬TSi C (some q) vO M) (hM0:M<W1.heap.size) (ho : ∀k,vO2.ownBlock=some k->vO.ownBlock=some k∨W1.heap.size<=k) : ¬TSi C (some q) vO2 M:=λhk=>by
 rcases hk with hk|hk
 ·rcases hk with h1|h1|h1
  ·exact hM (.inl (.inl h1))
  ·exact hM (.inl (.inr (.inl h1)))
  ·rcases ho M h1 with h2|h2
   ·exact hM (.inl (.inr (.inr h2)))
   ·omega
 ·exact hM (.inr hk)
theorem pend_end {t:Tr} {fr:List Int} {b:List St} {z:ES} {z':ES} (h:Pend t fr n s a b z r z') (hr:r ≠ .on):endR r≠0:=λe=>by
 rcases h with ⟨-,rfl,-⟩|⟨-,h⟩
 ·cases e
 ·cases r using ER.cs with
  | val v=>exact h.nov rfl v rfl
  | on=>exact hr rfl
  | ret v=>exact absurd e (by decide:(2:Int)≠0)
  | out c=>rcases h.outc c rfl with e1|e1 <;> (subst e1;exact absurd e (by decide))
theorem bk_round (hC:C.Ok) {L:List (Value × List St)} {z2:ES} {W0:World} {k:Nat} (hS:BkS C n L r z2 W0 b vO M k wr vI1 vO1 zc) (hk:k<L.length) (hBv:Bv C.w0 C.S (L.getD k (.nilFunc,[])).1 (L.getD k (.nilFunc,[])).2) :
  ∃s a c us t x r1 z1,(L.getD k (.nilFunc,[])).1=.iface t x/\SvV C (.iface t x) s a c us/\(∀i,i<nEx s->Tv C.w0 C.S (us i) (exK s i))/\stmtB s=true/\KnP C.t (zc.l.map Prod.fst) s/\(s.kind=4∨s.kind=5->OkB C.t (zc.l.map Prod.fst) a/\OkB C.t (zc.l.map Prod.fst) c)/\Pend C.t C.fr n s a c zc r1 z1/\((r1 ≠ .on/\endR r1≠0/\r=r1/\z2=z1)∨(r1=.on/\∀wX vIx vOx,IS C wX (some b) vIx vOx z1->Tcs (TSi C (some b) vO) W0 wX->(∀k,vOx.ownBlock=some k->vO.ownBlock=some k∨W0.heap.size<=k)->FrC wX M [.int .i64 0,.int .i64 0]->BkS C n L r z2 W0 b vO M (k+1) wX vIx vOx z1)):=by
 obtain⟨s,a,c,us,hO,hSv,hTv⟩:=bv_parts hBv;obtain⟨t,x,f,hsv,-,-⟩:=stmt_ops hC hSv (λi hi=>(hTv i hi).isI);obtain⟨⟨j,hj,hE⟩,h2,h3,h4,h5,h6,h7⟩:=hS;rw[flat_drop L k hk] at hE h3;obtain⟨r1,z1,hP,hcase⟩:=blk_next hO hE hj h2.ok;have e:(L.getD k (.nilFunc,[])).2++flatL (L.drop (k+1))=s::(a++c++flatL (L.drop (k+1))):=by rw[hO.is];simp
 obtain⟨e1,e2,e3⟩:=hO.take (flatL (L.drop (k+1)));rw[e] at h3;obtain⟨hKn,h45,hOr,-⟩:=h3.cons;rw[e1,e2] at h45;rw[e3] at hOr;have hsB:=(h3.ok s (List.mem_cons_self ..)).1;refine⟨s,a,c,us,t,x,r1,z1,hsv,by rw[<-hsv];exact hSv,hTv,hsB,hKn,h45,hP,?_⟩;rcases hcase with ⟨g1,g2,g3⟩|⟨g1,g2,j',g3,g4⟩
 ·exact .inl ⟨g1,pend_end hP g1,g2,g3⟩
 ·exact .inr ⟨g1,λwX vIx vOx q1 q2 q3 q4=>⟨⟨j',g3,g4⟩,q1,by rw[g2];exact hOr,by rw[g2];exact h4.add hKn,q2,q3,q4⟩⟩
theorem lk_look (hC:C.Ok) (hI:StI C n) {c:List St} {us:Nat->Value} {t:TypeId} {x:Value} {r1:ER} {z1:ES} {nm:List ByteArray} {B:Nat} {vv:Int} (h:LkS C n s a c r1 z1 nm W1 b vO M B wr vI1 vO1 zc 1 vv)
  (hSv:SvV C (.iface t x) s a c us) (hTv : ∀i,i<nEx s->Tv C.w0 C.S (us i) (exK s i)) (hsB:stmtB s=true) (hKn:KnP C.t nm s) (hsc:Scp C.t nm) (h45:s.kind=4∨s.kind=5->OkB C.t nm a/\OkB C.t nm c) (hnM : ¬TSi C (some b) vO M) (hM1:M<W1.heap.size) (hnB : ¬TSi C (some b) vO B) (hB1:B<W1.heap.size) (hBw:C.w0.heap.size<=B) (hMB:M≠B) :
  ∃ec vc z3,(ec=1->z3.u+1<=zc.u)/\Calls prog 110 #[.pointer (some ⟨C.P,0,none⟩),.iface t x] wr λe w5=>e=.returned (.agg #[.int .i64 ec,.int .i64 vc])/\FrC w5 B [.int .i64 1,.int .i64 vv]/\∃vI5 vO5,LkS C n s a c r1 z1 nm W1 b vO M B ((w5.setCell ⟨B,0,none⟩ (.int .i64 ec)).setCell ⟨B,1,none⟩ (.int .i64 vc)) vI5 vO5 z3 ec vc:=by
 obtain⟨hp,h2,h3,h4,h5,h6⟩:=h;obtain⟨-,hP,hnm⟩:(1:Int)=1/\Pend C.t C.fr n s a c zc r1 z1/\zc.l.map Prod.fst=nm:=by
  rcases hp with hp|⟨hp,-⟩
  ·exact hp
  ·exact absurd rfl hp
 obtain⟨ec,vc,z3,hL,hnext⟩:=hP.look;refine⟨ec,vc,z3,λhe => ?_,?_⟩
 ·rcases hnext with ⟨g1,-⟩|⟨-,g2,-⟩
  ·exact absurd he g1
  ·omega
 ·have hc:=hI s a c us (.iface t x) zc ec vc z3 hL (by rw[hnm];exact hKn) (by rw[hnm];exact hsc) hsB (by rw[hnm];exact h45) hSv hTv wr b vI1 vO1 h2;have hM':=not_te2 hnM hM1 h4;have hB':=not_te2 hnB hB1 h4;have hMr:M<wr.heap.size:=l_ hM1 h3.size;have hBr:B<wr.heap.size:=l_ hB1 h3.size;have hsz:=h3.size;refine hc.mono λe w5 hQ => ?_;obtain⟨vI5,vO5,rfl,q1,q2,q3⟩:=hQ;have hBx:=h6.tcs hBr q2 hB';have hMx:=h5.tcs hMr q2 hM';have ho : ∀k,vO5.ownBlock=some k->vO.ownBlock=some k∨W1.heap.size<=k:=λk hk=>by
   rcases q3 k hk with g|g
   ·exact h4 k g
   ·exact .inr o_
  obtain⟨p1,p2,p3⟩:=box_put hC q1 hBx hBw (not_te2 hnB hB1 ho) (.int .i64 ec) (.int .i64 vc);refine⟨rfl,hBx,vI5,vO5,?_,p1,?_,ho,?_,p2⟩
  ·rcases hnext with ⟨g1,g2,g3,g4⟩|⟨g1,g2,g3⟩
   ·exact .inr ⟨g1,g2,g3,g4⟩
   ·refine .inl ⟨g1,g3,?_⟩;rw[g1] at hL;rw[lk_names hL h2.ok,hnm]
  ·refine ((h3.next q2 (λk hk => ?_))).next p3 (λk hk=>.inl (.inr hk));rcases hk with hk|hk
   ·rcases hk with g|g|g
    ·exact .inl (.inl (.inl (.inl g)))
    ·exact .inl (.inl (.inl (.inr (.inl g))))
    ·rcases h4 k g with g|g
     ·exact .inl (.inl (.inl (.inr (.inr g))))
     ·exact .inr g
   ·exact .inl (.inl (.inr hk))
  ·exact hMx.tcs (l_ hMr q2.size) p3 (λe=>hMB e)
theorem inext {u gk:Nat} {ec:Int} {u3:Nat} (h:u+1<=gk) (he:ec=1->u3+1<=u) : ∃g,g<gk/\(ec=1->u3+1<=g):=by
 by_cases e:ec=1
 ·exact⟨u3+1,by have:=he e;omega,λ_=>n_⟩
 ·exact⟨0,by omega,λh=>absurd h e⟩
theorem box_start (hC:C.Ok) (hW1:W1=wr.alloc (.cells #[.int .i64 1,.int .i64 0] 75)) (h:IS C wr (some b) vI1 vO1 zc) (hm:FrC wr M [.int .i64 0,.int .i64 0]):Below wr.heap.size wr W1/\FrC W1 wr.heap.size [.int .i64 1,.int .i64 0]/\¬TSi C (some b) vO1 wr.heap.size/\wr.heap.size<W1.heap.size/\C.w0.heap.size<=wr.heap.size/\M≠wr.heap.size/\M<W1.heap.size/\IS C W1 (some b) vI1 vO1 zc/\FrC W1 M [.int .i64 0,.int .i64 0]:=by
 have hb:Bl wr W1:=by rw[hW1];exact r_.alloc n_ _
 have hx:FrC W1 wr.heap.size [.int .i64 1,.int .i64 0]:=by rw[hW1];exact box_fr wr _ _ (by show 2<=1000;omega)
 have hM:=b_ (hm 0 _ rfl).1;have hM':M<wr.heap.size:=hM;have hB:=b_ (hx 0 _ rfl).1;have hB':wr.heap.size<W1.heap.size:=hB;exact⟨hb,hx,λhk=>by have:=TSi.lt hC h _ hk;omega,hB',(h.hi hC).2.2,by omega,by omega,h.below hC hb,hm.below hb⟩
theorem blI_step (hC:C.Ok) (IS':StI C n):BlI C (n+1):=by
 intro L z r z' hE hOk hsc w b vI vO vB h hB;obtain⟨z2,hE2,hz'⟩ : ∃z2,Ev C.t C.fr n (.sq (flatL L)) z r z2/\z' = {z2 with l:=z2.l.take z.l.length}:=by
  cases hE using Ev_i with
  | blk _ _ _ _ z2 h1=>exact⟨z2,h1,rfl⟩
 obtain⟨W0,M,hW0,hM,hb0,hx0,hM0⟩:=o_box w;have hMw:w.heap.size<=M:=Nat.le_of_eq hM.symm;have hnM : ¬TSi C (some b) vO M:=λhk=>by have:=TSi.lt hC h M hk;omega
 obtain⟨hAr,hBv,-⟩:=hB.parts;obtain⟨a1,c1,rfl,hl1,hl2,hcl⟩:=hAr;have HFin:Hid (∀(wX:World) (vIx vOx:Value),IS C wX (some b) vIx vOx z2->Tcs (TSi C (some b) vO) W0 wX->(∀k,vOx.ownBlock=some k->vO.ownBlock=some k∨W0.heap.size<=k)->FrC wX M [.int .i64 0,.int .i64 0]->((wX.setCell ⟨M,0,none⟩ (.int .i64 (endR r))).setCell ⟨M,1,none⟩ (.int .i64 (valR r))).cell? ⟨M,0,none⟩=some (.int .i64 (endR r))/\((wX.setCell ⟨M,0,none⟩ (.int .i64 (endR r))).setCell ⟨M,1,none⟩ (.int .i64 (valR r))).cell? ⟨M,1,none⟩=some (.int .i64 (valR r))/\StQ C w b vO (endR r) (valR r) z' (.returned (.agg #[.int .i64 (endR r),.int .i64 (valR r)])) ((wX.setCell ⟨M,0,none⟩ (.int .i64 (endR r))).setCell ⟨M,1,none⟩ (.int .i64 (valR r)))):=λwX vIx vOx hI ht ho hm=>by
  have:=stq_fin hC hMw h hb0 hM0 (hI.cut z.l.length) ht ho r_ hm (endR r) (valR r)
  rw[hz'];exact this
 have HStart:Hid (BkS C n L r z2 W0 b vO M 0 W0 vI vO z):=⟨⟨n,n_,hE2⟩,h.below hC hb0,hOk,hsc,Tcs.refl _ _,λk hk=>.inl hk,hx0⟩;have hLl:L.length<=9223372036854775807:=by omega
 have HIS:=hide IS';have HC:=hide hC;have HBv:=hide hBv;have HCl:=hide hcl;have HW0:=hide hW0;have HM:=hide hM;have hw0:C.w0.heap.size<=w.heap.size:=(h.hi hC).2.2;have hb0s:=hb0.size;clear IS' hC hBv hcl hW0 hM h hE hE2 hOk hsc hz' hb0 hx0;go_enter func70,ntmps70;go_upto_region 1 with fail;rw[<-HW0.o,<-HM.o];go_wp2;go_loopw [10] (λi wr=>∃(k:Nat) (vI1 vO1:Value) (zc:ES),i=.int .i64 (k:Int)/\k<=L.length/\BkS C n L r z2 W0 b vO M k wr vI1 vO1 zc) (λi _=>L.length-(RowKit.intOf i).toNat)
 case atStart=>exact⟨0,vI,vO,z,rfl,y_,HStart⟩
 case round=>
  clear HStart;obtain⟨k,vI1,vO1,zc,rfl,hkl,hS⟩:=hrel;by_cases hlt:k<L.length
  ·have hki:(k:Int)<(L.length:Int):=by omega
   obtain⟨Q,rfl,hQS,hQc⟩:=HCl o_;obtain⟨s,a,c,us,t,x,r1,z1,hsv,hSv,hTv,hsB,hKn,h45,hP,hnx⟩:=bk_round HC hS hlt (HBv k hlt);have hcQ:wr.cell? ⟨Q,k,none⟩=some (.iface t x):=by
    rw[<-hsv];exact (c_ (a:=⟨Q,k,none⟩) (hS.st.tc.block Q (HC.o.sS Q hQS).1 (λe=>e.elim (HC.o.sS Q hQS).2.1 (HC.o.sS Q hQS).2.2))).trans (hQc k hlt)
   obtain⟨W1,hW1⟩ : ∃W1,W1=wr.alloc (.cells #[.int .i64 1,.int .i64 0] 75):=⟨_,rfl⟩;obtain⟨hb1,hx1,hnB,hB1,hBw,hMB,hM1,hI1,hm1⟩:=box_start HC hW1 hS.st hS.mm;obtain⟨B,hB⟩ : ∃B,B=wr.heap.size:=⟨_,rfl⟩;rw[<-hB] at hx1 hnB hB1 hBw hMB;have hnM1 : ¬TSi C (some b) vO1 M:=not_te2 hnM hM0 hS.oo;have HLS:Hid (LkS C n s a c r1 z1 (zc.l.map Prod.fst) W1 b vO1 M B W1 vI1 vO1 zc 1 0):=⟨.inl ⟨rfl,hP,rfl⟩,hI1,Tcs.refl _ _,λk hk=>.inl hk,hm1,hx1⟩;have HLook:=hide λ(wi:World) (vIi:Value) (vOi:Value) (zi:ES) (vi:Int) (hL:LkS C n s a c r1 z1 (zc.l.map Prod.fst) W1 b vO1 M B wi vIi vOi zi 1 vi)=>lk_look HC HIS hL hSv hTv hsB hKn hS.sc h45 hnM1 hM1 hnB hB1 hBw hMB;have HUp:Hid (∀(wi:World) (vIi vOi:Value) (zi:ES) (ei vi:Int),LkS C n s a c r1 z1 (zc.l.map Prod.fst) W1 b vO1 M B wi vIi vOi zi ei vi->Tcs (TSi C (some b) vO) W0 wi/\∀k,vOi.ownBlock=some k->vO.ownBlock=some k∨W0.heap.size<=k):=λwi vIi vOi zi ei vi hL=>by
    have hs:=hS.tc.size;have hs1:=hb1.size;have h1:Tcs (TSi C (some b) vO) W0 W1:=hS.tc.of_below hb1;refine⟨h1.next hL.tc (λk hk => ?_),λk hk => ?_⟩
    ·rcases hk with hk|hk
     ·rcases hk with hk|hk
      ·rcases hk with g|g|g
       ·exact .inl (.inl (.inl g))
       ·exact .inl (.inl (.inr (.inl g)))
       ·rcases hS.oo k g with g|g
        ·exact .inl (.inl (.inr (.inr g)))
        ·exact .inr g
      ·exact .inl (.inr hk)
     ·exact .inr o_
    ·rcases hL.oo k hk with g|g
     ·exact hS.oo k g
     ·exact .inr o_
   have HW1:=hide hW1;have HB:=hide hB;have HNx:=hide hnx;have hMB' : ¬B=M:=λe=>hMB e.symm;clear hS hQc hsv hSv hTv hsB hKn h45 hP hnx hW1 hb1 hx1 hnB hB1 hBw hM1 hI1 hm1 hB hnM1;go_upto_region 4 with fail;clear hcQ;go_wp2_with fail;rw[<-HW1.o,<-HB.o];go_loopg [] (zc.u+1) (λgk wi=>∃(vIi vOi:Value) (zi:ES) (ei vi:Int),(ei=1->zi.u+1<=gk)/\LkS C n s a c r1 z1 (zc.l.map Prod.fst) W1 b vO1 M B wi vIi vOi zi ei vi)
   case atStart=>exact⟨vI1,vO1,zc,1,0,λ_=>n_,HLS⟩
   case round=>
    clear HLS;obtain⟨vIi,vOi,zi,ei,vi,hgk,hL⟩:=hrel;have bx0:=(hL.bx 0 _ rfl).1;have bx1:=(hL.bx 1 _ rfl).1;by_cases he:ei=1
    ·subst he;obtain⟨ec,vc,z3,hle,hcall⟩:=HLook wr vIi vOi zi vi hL;obtain⟨g2,hg2,hg3⟩:=inext (hgk rfl) hle;have HCall:=hide hcall;have HG:=hide hg3;clear hcall hL hg3 hle hgk;go_wp2_with fail;refine HCall.o.mono ?_;rintro e w5 ⟨rfl,hBx,vI5,vO5,hL5⟩;have HL5:=hide hL5;obtain⟨y0,f0⟩:=hBx 0 _ rfl;obtain⟨y1,f1⟩:=hBx 1 _ rfl;clear hBx hL5 bx0 bx1;go_wp2;go_roundg g2
     case measure=>exact hg2
     case rel=>exact⟨vI5,vO5,z3,ec,vc,HG,HL5⟩
    ·have he':(ei == 1)=false:=by simpa using he
     obtain⟨hei,hvi,hzi⟩:ei=endR r1/\vi=valR r1/\zi=z1:=by
      rcases hL.pe with ⟨e,-⟩|⟨-,e⟩
      ·exact absurd e he
      ·exact e
     obtain⟨hT,hOw⟩:=HUp wr vIi vOi zi ei vi hL;rcases HNx.o with ⟨hn1,hn2,hn3,hn4⟩|⟨hn1,hn2⟩
     ·have hne:(ei != 0)=true:=by rw[hei];simpa using hn2
      have HF:=hide (HFin wr vIi vOi (by rw[hn4,<-hzi];exact hL.st) hT hOw hL.mm);rw[hn3,<-hei,<-hvi] at HF;obtain⟨y0,f0⟩:=hL.mm 0 _ rfl;obtain⟨y1,f1⟩:=hL.mm 1 _ rfl;have HR:Hid (endR r=ei/\valR r=vi):=by rw[hn3];exact⟨hei.symm,hvi.symm⟩
      clear hL hei hvi hzi hT hOw hn1 hn2 hn3 hn4 he HFin;go_wp2_with fail;obtain⟨t0,t1,hQ⟩:=HF;refine bodyPost_ret (v:=.agg #[.int .i64 ei,.int .i64 vi]) (by simp[results,results70,go_sem,t0,t1]) rfl ?_;rw[HR.o.1,HR.o.2];exact hQ
     ·have he0:ei=0:=by rw[hei,hn1];rfl
      have HNext:=hide (hn2 wr vIi vOi (by rw[<-hzi];exact hL.st) hT hOw hL.mm);have hne:(ei != 0)=false:=by rw[he0];rfl
      clear hL hei hvi hzi hT hOw hn1 hn2 he he0;go_wp2;go_roundw
      case rel=>exact⟨k+1,vIi,vOi,z1,by go_num,by omega,HNext⟩
      case measure=>simp[RowKit.intOf];omega
  ·obtain rfl:k=L.length:=by omega
   obtain⟨j,-,hE⟩:=hS.ev;rw[List.drop_length] at hE;obtain⟨rfl,rfl⟩:r=.on/\z2=zc:=by
    cases hE using Ev_i with
    | nil=>exact⟨rfl,rfl⟩
   have HF:=hide (HFin wr vI1 vO1 hS.st hS.tc hS.oo hS.mm);obtain⟨y0,f0⟩:=hS.mm 0 _ rfl;obtain⟨y1,f1⟩:=hS.mm 1 _ rfl;simp only[show endR ER.on=0 from rfl,show valR ER.on=0 from rfl] at HF;clear hS hE HFin;go_wp2_with fail;obtain⟨t0,t1,hQ⟩:=HF;exact bodyPost_ret (v:=.agg #[.int .i64 0,.int .i64 0]) (by simp[results,results70,go_sem,t0,t1]) rfl hQ
end
section
variable {C:IC} {w:World} {vV:Option Nat} {vI vO:Value} {s s':ES}
theorem IS.now (hC:C.Ok) (h:IS C w vV vI vO s) (x:Int) (hs:s' = {s with n:=x}) (hn:0<=x/\x+1000000000*(s.u:Int)<=100001000000000):IS C (w.setCell ⟨C.P,10,none⟩ (.int .i64 x)) vV vI vO s':=by
 subst hs;exact h.boxed hC 10 _ rfl rfl rfl rfl h.inp ⟨h.ok.g,h.ok.l,h.ok.i⟩ n_ ⟨hn.1,hn.2,h.nn.2.2.1,h.nn.2.2.2⟩
theorem IS.deep (hC:C.Ok) (h:IS C w vV vI vO s) (x:Int) (hs:s' = {s with d:=x}) (hn:0<=x/\x<=100001000000000):IS C (w.setCell ⟨C.P,11,none⟩ (.int .i64 x)) vV vI vO s':=by
 subst hs;exact h.boxed hC 11 _ rfl rfl rfl rfl h.inp ⟨h.ok.g,h.ok.l,h.ok.i⟩ n_ ⟨h.nn.1,h.nn.2.1,hn.1,hn.2⟩
theorem IS.swap (hC:C.Ok) {vV2:Option Nat} {l2:List (ByteArray × Int)} (h:IS C w vV vI vO s) (hv:(vV2=none/\l2 = [])∨∃b n D,vV2=some b/\w.ownsMap prog 9 (plainElem (H:=Unit) prog 2) b n D/\VarIs D l2/\n+s.u<=100010/\C.w0.heap.size<=b/\vO.ownBlock≠some b) (hl : ∀x∈l2,inB x.2):IS C (w.setCell ⟨C.P,5,none⟩ (.map vV2)) vV2 vI vO {s with l:=l2}:=by
 obtain⟨p1,p2,p3⟩:=h.hi hC;obtain⟨q1,q2,q3,q4,q5⟩:=hC.pg;have ht:Tcs (λk=>k=C.P) w (w.setCell ⟨C.P,5,none⟩ (.map vV2)):=(Tcs.refl (λk=>k=C.P) w).setCell (p:=⟨C.P,5,none⟩) rfl _;refine⟨h.tc.trans (ht.mono λk hk=>.inl hk),h.box.set 5 _,h.gl,λk hk=>(h.gw k hk).tcs (p2 _ (g_ hk)).1 ht (p2 _ (g_ hk)).2,h.g1,?_,h.inp,own_notU h.out ht (λk hk hs=>by have e:k=C.P:=hs;have:=(World.ownsRow.lt h.out k hk).1;omega),⟨h.ok.g,hl,h.ok.i⟩,h.uu,h.nn⟩;rcases hv with hv|⟨b,n,D,rfl,h1,h2,h3,h4,h5⟩
 ·exact .inl hv
 ·exact .inr ⟨b,n,D,rfl,map_tcs h1 ht (λe=>by have e':b=C.P:=e;omega),h2,h3,h4,h5⟩
theorem take_par {f:Fu} {vs:List Int} (hl:vs.length=f.params.length) (hnd:f.params.Nodup) {k:Nat} (hk:k<f.params.length) (p:ByteArray) (u:Int) (h:(p,u)∈(parL f vs).take (k+1)):(p=f.params[k]/\u=vs[k]' o_)∨(p≠f.params[k]/\(p,u)∈(parL f vs).take k):=by
 have hz:(parL f vs).length=f.params.length:=by unfold parL;rw[List.length_zip];omega
 obtain⟨i,hi,he⟩:=List.getElem_of_mem h;rw[List.length_take] at hi;rw[List.getElem_take] at he;have he':(f.params[i]' o_,vs[i]' o_)=(p,u):=by rw[<-he];unfold parL;rw[List.getElem_zip]
 cases he'
 by_cases e:i=k
 ·subst e;exact .inl ⟨rfl,rfl⟩
 ·refine .inr ⟨λh1=>e (nodup_ix hnd o_ hk h1),?_⟩;rw[List.mem_take_iff_getElem];exact⟨i,by omega,he⟩
theorem back_end (r:ER) (h:endR r=2):endR r.back=0∨∃c,r=.out c:=by
 cases r using ER.cs with
 | val v=>cases h
 | on=>cases h
 | ret v=>exact .inl rfl
 | out c=>exact .inr ⟨c,rfl⟩
theorem back_val (r:ER):valR r.back=valR r:=by cases r using ER.cs <;> rfl
theorem back_no (r:ER) (h:endR r≠2):endR r.back=endR r:=by
 cases r using ER.cs with
 | val v=>rfl
 | on=>rfl
 | ret v=>exact absurd rfl h
 | out c=>rfl
end
theorem ca_end {C:IC} (hC:C.Ok) {w W0 W6 w7 W8:World} {vV:Option Nat} {vI vO vI7 vO7:Value} {s z2:ES} {q M:Nat} {F1 en vv:Int} (h:IS C w vV vI vO s) (hb0:Below w.heap.size w W0) (hq:q=W0.heap.size) (hM:M=w.heap.size) (hM0:M<W0.heap.size) (ht6:Tcs (λk=>k=C.P∨k=q) W0 W6) (hm6:FrC W6 M [.int .i64 0,.int .i64 0]) (hI7:IS C w7 (some q) vI7 vO7 z2) (ht7:Tcs (TSi C (some q) vO) W6 w7) (ho7 : ∀k,vO7.ownBlock=some k->vO.ownBlock=some k∨W6.heap.size<=k) (hn:z2.n=s.n+F1) (hu:z2.u<=s.u) (hW8:W8=w7.alloc (.cells #[.int .i64 en,.int .i64 vv] 75)) :
  w7.heap.size≠M/\C.P≠w7.heap.size/\IS C W8 (some q) vI7 vO7 z2/\∀W9 W11,Below W8.heap.size W8 W9->W11=(W9.setCell ⟨C.P,10,none⟩ (.int .i64 s.n)).setCell ⟨C.P,5,none⟩ (.map vV)->(∀k,vO7.ownBlock=some k->vO.ownBlock=some k∨W0.heap.size<=k)/\FrC W11 w7.heap.size [.int .i64 en,.int .i64 vv]/\(IS C W11 vV vI7 vO7 {z2 with l:=s.l,n:=z2.n-F1}/\Tcs (TEi C vO) W0 W11/\FrC W11 M [.int .i64 0,.int .i64 0])/\(IS C (W11.setCell ⟨w7.heap.size,0,none⟩ (.int .i64 0)) vV vI7 vO7 {z2 with l:=s.l,n:=z2.n-F1}/\Tcs (TEi C vO) W0 (W11.setCell ⟨w7.heap.size,0,none⟩ (.int .i64 0))/\FrC (W11.setCell ⟨w7.heap.size,0,none⟩ (.int .i64 0)) M [.int .i64 0,.int .i64 0]):=by
 obtain⟨p1,p2,p3⟩:=h.hi hC;obtain⟨q1,q2,q3,q4,q5⟩:=hC.pg;have s0:=hb0.size;have s6:=ht6.size;have s7:=ht7.size;have hlo:=λk hk=>World.ownsRow.lt h.out k hk;have hM6:M<W6.heap.size:=by omega
 have hnM : ¬TSi C (some q) vO M:=λhk=>by
  rcases hk with hk|hk
  ·rcases hk with g|g|g
   ·omega
   ·have:=(p2 M g).1;omega
   ·have:=(hlo M g).2;omega
  ·cases hk;omega
 have hm7:=hm6.tcs hM6 ht7 hnM;have hb8:Bl w7 W8:=by rw[hW8];exact r_.alloc n_ _
 have hx8:FrC W8 w7.heap.size [.int .i64 en,.int .i64 vv]:=by rw[hW8];exact box_fr w7 _ _ (by show 2<=1000;omega)
 have hI8:=hI7.below hC hb8;have ho : ∀k,vO7.ownBlock=some k->vO.ownBlock=some k∨W0.heap.size<=k:=λk hk=>(ho7 k hk).imp_right (λg=>by omega);refine⟨by omega,by omega,hI8,λW9 W11 hb9 hW11 => ?_⟩;have s8:=hb8.size;have s9:=hb9.size;have hI9:=hI8.below hC hb9;have hnn:=hI9.nn;have hnh:=h.nn;have hI10:=hI9.now hC (s' := {z2 with n:=s.n}) s.n rfl ⟨hnh.1,by have:=hnh.2.1;omega⟩;have t10:Tcs (λk=>k=C.P) W9 (W9.setCell ⟨C.P,10,none⟩ (.int .i64 s.n)):=(Tcs.refl (λk=>k=C.P) W9).setCell (p:=⟨C.P,10,none⟩) rfl _;have hv:(vV=none/\s.l = [])∨∃b n D,vV=some b/\(W9.setCell ⟨C.P,10,none⟩ (.int .i64 s.n)).ownsMap prog 9 (plainElem (H:=Unit) prog 2) b n D/\VarIs D s.l/\n+z2.u<=100010/\C.w0.heap.size<=b/\vO7.ownBlock≠some b:=by
  rcases h.var with hv|⟨b,n,D,e,h1,h2,h3,h4,h5⟩
  ·exact .inl hv
  ·have hlt:=h1.lt;have m0:=map_tcs h1 (hb0.tcs (S:=λ_=>False)) (λe=>e);have m6:=map_tcs m0 ht6 (λe=>e.elim (λe=>by omega) (λe=>by omega));have m7:=map_tcs m6 ht7 (λhk=>by
    rcases hk with hk|hk
    ·rcases hk with g|g|g
     ·omega
     ·have:=(q5 b g).2;omega
     ·exact h5 g
    ·cases hk;omega)
   have m8:=map_tcs m7 (hb8.tcs (S:=λ_=>False)) (λe=>e);have m9:=map_tcs m8 (hb9.tcs (S:=λ_=>False)) (λe=>e);refine .inr ⟨b,n,D,e,map_tcs m9 t10 (λe=>by have e':b=C.P:=e;omega),h2,by omega,h4,λe => ?_⟩;rcases ho b e with g|g
   ·exact h5 g
   ·omega
 have hI11:=hI10.swap hC (l2:=s.l) hv h.ok.l;rw[<-hW11] at hI11;have hz:({z2 with l:=s.l,n:=z2.n-F1}:ES) = {z2 with n:=s.n,l:=s.l}:=by rw[hn];simp
 rw[hz];have t11:Tcs (λk=>k=C.P) W9 W11:=by rw[hW11];exact t10.setCell (p:=⟨C.P,5,none⟩) rfl _
 have hbx:FrC W11 w7.heap.size [.int .i64 en,.int .i64 vv]:=(hx8.below hb9).tcs (by have:=b_ (hx8 0 _ rfl).1;have e:w7.heap.size<W8.heap.size:=this;omega) t11 (λe=>by have e':w7.heap.size=C.P:=e;omega);have hm11:FrC W11 M [.int .i64 0,.int .i64 0]:=((hm7.below hb8).below hb9).tcs o_ t11 (λe=>by have e':M=C.P:=e;omega);have tE:Tcs (TEi C vO) W0 W11:=by
  refine ((((Tcs.refl (TEi C vO) W0).next ht6 (λk hk => ?_)).next ht7 (λk hk => ?_)).of_below hb8).of_below hb9 |>.next t11 (λk hk=>.inl (.inl hk))
  ·rcases hk with hk|hk
   ·exact .inl (.inl hk)
   ·exact .inr o_
  ·rcases hk with hk|hk
   ·exact .inl hk
   ·cases hk;exact .inr o_
 have tB:Tcs (λk=>k=w7.heap.size) W11 (W11.setCell ⟨w7.heap.size,0,none⟩ (.int .i64 0)):=(Tcs.refl (λk=>k=w7.heap.size) W11).setCell (p:=⟨w7.heap.size,0,none⟩) rfl _;refine⟨ho,hbx,⟨hI11,tE,hm11⟩,hI11.past hC tB (λk hk => ?_),tE.next tB (λk hk=>.inr (by have e:k=w7.heap.size:=hk;omega)),hm11.tcs (by have:=t11.size;omega) tB (λe=>by have e':M=w7.heap.size:=e;omega)⟩;have e:k=w7.heap.size:=hk;refine⟨by omega,λe2 => ?_,λe2 => ?_⟩
 ·rcases h.var with ⟨e3,-⟩|⟨b,n,D,e3,h1,-⟩
  ·rw[e3] at e2;cases e2
  ·rw[e3] at e2;cases e2
   have:=h1.lt
   omega
 ·have:=(World.ownsRow.lt hI7.out k e2).2
  omega
section
variable {C:IC} {W1 wr w':World} {q M k:Nat} {vI vO:Value} {s:ES} {f:Fu}
structure CaJ (C:IC) (W1:World) (q:Nat) (vI vO:Value) (s:ES) (l:List (ByteArray × Int)) (M k:Nat) (wr:World):Prop where
 st:IS C wr (some q) vI vO {s with l:=l.take k}
 map : ∃D,wr.ownsMap prog 9 (plainElem (H:=Unit) prog 2) q k D/\VarIs D (l.take k)
 tc:Tcs (λx=>x=q) W1 wr
 mm:FrC wr M [.int .i64 0,.int .i64 0]
theorem CaJ.below (hC:C.Ok) {l:List (ByteArray × Int)} (h:CaJ C W1 q vI vO s l M k wr) (hb:Below wr.heap.size wr w'):CaJ C W1 q vI vO s l M k w':=by
 obtain⟨D,h1,h2⟩:=h.map;exact⟨h.st.below hC hb,⟨D,map_tcs h1 (hb.tcs (S:=λ_=>False)) (λe=>e),h2⟩,h.tc.of_below hb,h.mm.below hb⟩
theorem par_names {t:Tr} (h:(checkE t).1=0) (hf:f∈t.funcs) : ∀x∈f.params,x.size<=maxLen:=λx hx=>by
 obtain⟨h1,-,h2⟩:=sound_snd h;simp only[treeB,Bool.and_eq_true,decide_eq_true_eq,List.all_eq_true] at h1;have hfb:=h1.2.2.2 f hf;simp only[funcB,Bool.and_eq_true,decide_eq_true_eq,stmtsB,List.all_eq_true] at hfb;have h3:=hfb.2.2.2.1 x hx;have:nameP x:=by simpa[nameB] using h3
 exact max_small this.2.1 (by decide)
theorem CaJ.more (hC:C.Ok) {vs:List Int} (h:CaJ C W1 q vI vO s (parL f vs) M k wr) (hl:vs.length=f.params.length) (hnd:f.params.Nodup) (h6:f.params.length<=6) (hk:k<f.params.length) (hvb : ∀x∈vs,inB x) {D:DataW Unit} (hD:VarIs D ((parL f vs).take k)) (hM:M≠q) (ho:w'.ownsMap prog 9 (plainElem (H:=Unit) prog 2) q (k+1) (D.put (kS f.params[k]) (.lit (.int .i64 (vs[k]' o_))))) (hg:wr.grownBy w' (some q)):CaJ C W1 q vI vO s (parL f vs) M (k+1) w':=by
 have ht:Tcs (λx=>x=q) wr w':=Tcs.of_grown hg (λk hk=>by cases hk;rfl);have hV:VarIs (D.put (kS f.params[k]) (.lit (.int .i64 (vs[k]' o_)))) ((parL f vs).take (k+1)):=hD.put (take_par hl hnd hk);have hMs:=b_ (h.mm 0 _ rfl).1;refine⟨?_,⟨_,ho,hV⟩,h.tc.trans ht,h.mm.tcs hMs ht hM⟩;have:=h.st.vars hC ht ho hV (by have:=h.st.uu.1;show k+1+s.u<=_;simp only at this;omega) (λy hy => ?_)
 ·exact this
 ·rcases take_par hl hnd hk y.1 y.2 hy with ⟨-,e⟩|⟨-,hm⟩
  ·rw[e];exact hvb _ (g_ _)
  ·exact h.st.ok.l _ hm
theorem caI_step (hC:C.Ok) {n:Nat} (IB:BlI C n):CaI C (n+1):=by
 intro f vs s r s' hE har hvb hnb w vV vI vO va h hA;obtain⟨hf,rb,z2,rfl,hs',hEb⟩ : ∃(hf:f<C.t.funcs.length) (rb:ER) (z2:ES),r=rb.back/\s' = {z2 with l:=s.l,n:=z2.n-C.fr.getD f 0}/\Ev C.t C.fr n (.bl C.t.funcs[f].body) {s with l:=parL C.t.funcs[f] vs,n:=s.n+C.fr.getD f 0,d:=max s.d (s.n+C.fr.getD f 0)} rb z2:=by
  cases hE using Ev_i with
  | run _ _ _ _ hf rb z2 h1=>exact⟨hf,rb,z2,rfl,rfl,h1⟩
 have hvl:=har hf;have hpn:=par_names hC.snd (g_ hf);obtain⟨hOk,hSp,hp6⟩:=ok_body hC.snd (g_ hf);obtain⟨af,cf,hvf,hcf1,hcf2,hfc⟩:=hC.fs;obtain⟨b,off,haf,hc⟩:=hfc o_;obtain⟨vp,vb,⟨c0,c1,c2⟩,hps,hbs⟩:=hc f hf;obtain⟨fa,fc,hvFr,hfr1,hfr2,hfrc⟩:=hC.frs;have hflr:f<C.fr.length:=by rw[hC.frl];exact hf
 obtain⟨bF,oF,hfa,hFc⟩:=hfrc o_;have cF:=hFc f hflr;have hfg:C.fr.getD f 0=C.fr[f]:=by simp[List.getD,hflr]
 have hfb:=hC.frb _ (g_ hflr);rw[<-hfg] at cF hfb;generalize C.fr.getD f 0=F1 at cF hfb hs' hEb;have hnm:=parL_names hvl;have hFl:=hC.sm.2;have hfrl:=hC.frl;obtain⟨ba,bc,bL,hbc,hbL,hbody⟩:=hC.bod f hf;rw[hbody] at hEb hOk;generalize C.t.funcs[f]=fn at hvl hpn hOk hSp hp6 c0 c1 c2 hps hbs hEb hnm;obtain⟨ap,cp,hvp,hpc1,hpc2,hpc⟩:=id hps;subst hvp;obtain⟨aA,cA,hvA,hA1,hA2,hAc⟩:=hA;subst hvA;obtain⟨q1,q2,q3,q4,q5⟩:=hC.pg;obtain⟨p1,p2,p3⟩:=h.hi hC;have hwa : ∀ {B i:Nat} {v:Value},C.wa.cell? ⟨B,i,none⟩=some v->B<C.wa.heap.size:=λe=>b_ e;have hcw : ∀(X:World) (B i:Nat) (v:Value) (q:Option Nat) (vI vO:Value) (z:ES),IS C X q vI vO z->C.wa.cell? ⟨B,i,none⟩=some v->X.cell? ⟨B,i,none⟩=some v:=λX B i v q vI vO z hX e=>by
  have hB:=hwa e;have e0:C.w0.cell? ⟨B,i,none⟩=some v:=(hC.bel.cell (p:=⟨B,i,none⟩) hB).trans e;refine (c_ (a:=⟨B,i,none⟩) (hX.tc.block B (by have:=hC.bel.size;omega) (λe => ?_))).trans e0;rcases e with e|e
  ·omega
  ·have:=(q5 B e).1;omega
 obtain⟨W0,M,hW0,hM,hb0,hx0,hM0⟩:=o_box w;have hI0:=h.below hC hb0;have hPw:C.P<W0.heap.size:=(hI0.hi hC).1;obtain⟨q,hq⟩ : ∃q,q=W0.heap.size:=⟨_,rfl⟩;obtain⟨W1,hW1⟩ : ∃W1,W1=(W0.setCell ⟨C.P,5,none⟩ (.map (some W0.heap.size))).alloc (.map #[] 0):=⟨_,rfl⟩;have hbA:Bl W0 (W0.alloc (.map #[] 0)):=bel_a _ _;have hmap0:(W0.alloc (.map #[] 0)).ownsMap prog 9 (plainElem (H:=Unit) prog 2) q 0 (.map []):=by rw[hq];exact World.ownsMap_made W0 prog 9 _
 have hv0:VarIs (.map []) []:=⟨NumIs.nil.map,λx v h=>by cases h⟩;have hqw:C.w0.heap.size<=q:=by have:=(hI0.hi hC).2.2;omega
 have hoq:vO.ownBlock≠some q:=λe=>by have:=(World.ownsRow.lt hI0.out q e).2;omega
 have hW1':W1=(W0.alloc (.map #[] 0)).setCell ⟨C.P,5,none⟩ (.map (some q)):=by rw[hW1,hq,World.setCell_alloc_past _ _ _ _ hPw]
 have hI1:IS C W1 (some q) vI vO {s with l:=(parL fn vs).take 0}:=by
  rw[hW1'];exact (hI0.below hC hbA).swap hC (.inr ⟨q,0,_,rfl,hmap0,hv0,by have:=h.uu.1;omega,hqw,hoq⟩) (λx hx=>by cases hx)
 have hT1:Tcs (λk=>k=C.P) W0 W1:=by
  rw[hW1'];exact (hbA.tcs (S:=λk=>k=C.P)).setCell (p:=⟨C.P,5,none⟩) rfl _
 have hMP:M≠C.P:=by omega
 have hMq:M≠q:=by omega
 have hm1:FrC W1 M [.int .i64 0,.int .i64 0]:=hx0.tcs hM0 hT1 hMP;have hmap1:W1.ownsMap prog 9 (plainElem (H:=Unit) prog 2) q 0 (.map []):=by
  rw[hW1'];exact map_tcs hmap0 ((Tcs.refl (λk=>k=C.P) _).setCell (p:=⟨C.P,5,none⟩) rfl _) (λe=>by have e':q=C.P:=e;omega)
 have HJ0:Hid (CaJ C W1 q vI vO s (parL fn vs) M 0 W1):=⟨hI1,⟨_,hmap1,by simpa using hv0⟩,Tcs.refl _ _,hm1⟩;have y1:=(hI1.box 1 _ rfl).1;have y5:=(hI0.box 5 _ rfl).1;have f5:=(hI0.box 5 _ rfl).2;rw[hvf,haf] at y1;have d1:=hcw W1 _ _ _ _ _ _ _ hI1 c1;have HW1:=hide hW1;have HT1:=hide hT1;have HSp:=hide hSp;have HVb:=hide hvb;have HVl:=hide hvl;have HPn:=hide hpn;have HEb:=hide hEb;have HOk:=hide hOk;have HNm:=hide hnm;have HS':=hide hs';have HNb:=hide hnb;have HFb:=hide hfb;have HcF:=hide cF;have HbL:=hide hbL;have Hbc:=hide hbc;have HvFr:Hid (C.vFr=.slice (some ⟨bF,oF,none⟩) C.fr.length fc):=by show _=_;rw[hvFr,hfa]
 have HC:=hide hC;have H0:=hide h;have HW0:=hide hW0;have HM:=hide hM;have HB0:=hide hb0;have HX0:=hide hx0;have HIB:=hide IB;have HHq:=hide hq;have HAc:=hide hAc;have HPc:=hide hpc;have HCw:=hide hcw;have hmm := @run_makeMap prog;clear hC h hW0 hM hb0 hx0 hI0 IB hq hAc hpc hcw hwa hE har hps hfrc hFc hfc hc hvf haf hW1 hbA hmap0 hv0 hW1' hI1 hT1 hm1 hmap1 hSp hvb hvl hpn hEb hOk hnm hs' hnb hfb cF hbL hbc hvFr hfa c0 c1 c2 hbs hbody;go_enter func39,ntmps39;go_upto_region 1 with fail;rw[<-HW0.o,<-HM.o];go_upto_region 3 with fail;rw[<-HW1.o];clear hmm y5 f5;go_wp2;go_loopw [29] (λi wr=>∃k:Nat,i=.int .i64 (k:Int)/\k<=fn.params.length/\CaJ C W1 q vI vO s (parL fn vs) M k wr) (λi _=>fn.params.length-(RowKit.intOf i).toNat)
 case atStart=>exact⟨0,rfl,y_,HJ0⟩
 case round=>
  clear HJ0 y1 d1;obtain⟨k,rfl,hk,hJ⟩:=hrel;by_cases hlt:k<fn.params.length
  ·have hki:(k:Int)<(fn.params.length:Int):=by omega
   obtain⟨bp,op,rfl,hpc⟩:=HPc.o o_;have dp:=HCw.o wr _ _ _ _ _ _ _ hJ.st (hpc k hlt);obtain⟨D,hmo,hD⟩:=hJ.map;have hvk:k<vs.length:=by have:=HVl.o;omega
   obtain⟨bA,rfl,hbA,hnA,hcA⟩:=HAc.o o_;have hvi:(k:Int)<(vs.length:Int):=by omega
   have hbw:bA<w.heap.size:=hbA;have hcr:wr.cell? ⟨bA,k,none⟩=some (.int .i64 vs[k]):=by
    have h0:W0.cell? ⟨bA,k,none⟩=some (.int .i64 vs[k]):=(HB0.o.cell (p:=⟨bA,k,none⟩) hbw).trans (hcA k hvk);have hb':bA<W0.heap.size:=l_ hbw HB0.o.size;have h1:W1.cell? ⟨bA,k,none⟩=some (.int .i64 vs[k]):=(c_ (a:=⟨bA,k,none⟩) (HT1.o.block bA hb' (λe=>hnA (.inl e)))).trans h0;refine (c_ (a:=⟨bA,k,none⟩) (hJ.tc.block bA (l_ hb' HT1.o.size) (λe => ?_))).trans h1;have e':bA=q:=e;have:=HHq.o
    omega
   obtain⟨W3,hW3⟩ : ∃W3,W3=wr.drew:=⟨_,rfl⟩;have hb3:Bl wr W3:=by rw[hW3];exact r_.drew
   have hJ3:=hJ.below HC.o hb3;have hmo3:W3.ownsMap prog 9 (plainElem (H:=Unit) prog 2) q k D:=map_tcs hmo (hb3.tcs (S:=λ_=>False)) (λe=>e);have HMo:=hide hmo3;have HS:Hid (W3.cell? ⟨C.P,5,none⟩=some (.map (some q))/\W3.cell? ⟨bA,k,none⟩=some (.int .i64 vs[k])):=⟨(hJ3.st.box 5 _ rfl).1,(hb3.cell (p:=⟨bA,k,none⟩) (b_ hcr)).trans hcr⟩;have HMore:=hide λw' (g1:w'.ownsMap prog 9 (plainElem (H:=Unit) prog 2) q (k+1) (D.put (kS fn.params[k]) (.lit (.int .i64 vs[k])))) (g2:W3.grownBy w' (some q))=>hJ3.more HC.o HVl.o HSp.o.1 hp6 hlt HVb.o hD hMq g1 g2;have HZ:Hid (fn.params[k].size<=maxLen):=HPn.o _ (g_ hlt);have HVk:Hid (-2147483648<=vs[k]/\vs[k]<=2147483647):=HVb.o _ (g_ hvk);have HW3:=hide hW3;clear hJ hpc hcA hcr hW3 hb3 hJ3 hmo3 hmo hD;generalize fn.params[k]=pk at dp HMore HZ;generalize vs[k]=vk at HS HMore HVk;have HKy:Hid (keyOf prog 9 (.string pk)=some (kS pk)):=WideMaps.keyOf_string_mk underlying9 HZ;have HPl:Hid (plainElem (H:=Unit) prog 2 (.int .i64 vk)=some (.lit (.int .i64 vk),[])):=plainElem_int underlying2 (WalkArith.wf_i64 (by have:=HVk.o;omega));have hkm:k<maxLen:=by unfold maxLen;omega
   obtain⟨w4,hrun,hown4,hgrow4⟩:=HMo.o.update (t:=77) (Maps.string_keyed underlying9) underlying77 hkm HKy.o HPl;have HJ4:=hide (HMore.o w4 hown4 hgrow4);clear hown4 hgrow4;go_upto_region 6 with fail;refine wp_region_E 9 (λX=>X.cell? ⟨C.P,5,none⟩=some (.map (some q))/\X.cell? ⟨bA,k,none⟩=some (.int .i64 vk)) k_ ?_;rw[<-HW3.o];refine tk 0 [1,2,3,9] HS.o ?_;refine tk 1 [2,3,9] HS.o ?_;refine tk 2 [3,9] HS.o ?_;refine tk 3 [9] HS.o ?_;refine tk 4 [9] HS.o ?_;refine tk 5 [7,8,9] HS.o ?_;refine tk 6 [7,8,9] HS.o ?_;refine tk 7 [8,9] HS.o ?_;refine tk 8 [9] HS.o ?_;clear HS;refine wpAnyE_one (i:=9) k_ rfl (λK hK => ?_);go_simp;refine hK.out _ _ (λh=>absurd rfl h) ?_;clear hK K;refine wpAnyE_done k_ ?_ _;go_wp2;go_roundw
   case rel=>exact⟨k+1,by go_num,by omega,HJ4⟩
   case measure=>simp[RowKit.intOf];omega
  ·obtain rfl:k=fn.params.length:=by omega
   have hpl:(parL fn vs).take fn.params.length=parL fn vs:=List.take_of_length_le (by unfold parL;rw[List.length_zip];have:=HVl.o;omega);obtain⟨W3,hW3⟩ : ∃W3,W3=wr.drew:=⟨_,rfl⟩;have hb3:Bl wr W3:=by rw[hW3];exact r_.drew
   have hJ3:=hJ.below HC.o hb3;have hI3:=hJ3.st;rw[hpl] at hI3;have hnb:=HNb.o;have hfb:=HFb.o;have hn0:=hI3.nn;have hI4:=hI3.now HC.o (s.n+F1) (s' := {s with l:=parL fn vs,n:=s.n+F1}) rfl ⟨by have:=hn0.1;have e:(0:Int)<=s.n:=this;omega,by show s.n+F1+1000000000*(s.u:Int)<=_;omega⟩;obtain⟨W4,hW4⟩ : ∃W4,W4=W3.setCell ⟨C.P,10,none⟩ (.int .i64 (s.n+F1)):=⟨_,rfl⟩;rw[<-hW4] at hI4;have x10:=(hI3.box 10 _ rfl).1;have f10:=(hI3.box 10 _ rfl).2;have x9:=(hI3.box 9 _ rfl).1;rw[HvFr.o] at x9;have hS0:W3.cell? ⟨C.P,10,none⟩=some (.int .i64 s.n)/\W3.cell? ⟨C.P,9,none⟩=some (.slice (some ⟨bF,oF,none⟩) C.fr.length fc)/\W3.cell? ⟨bF,oF+f,none⟩=some (.int .i64 F1):=⟨x10,x9,HCw.o W3 _ _ _ _ _ _ _ hI3 HcF⟩;have HS:=hide hS0;have HW3:=hide hW3;have HW4:=hide hW4;have HI4:=hide hI4;have hs0:0<=s.n:=hn0.1;have hwn:IntKind.i64.wrap (s.n+F1)=s.n+F1:=by simp[IntKind.wrap,IntKind.bits,IntKind.signed];omega
   have hfi:(f:Int)<(C.fr.length:Int):=by omega
   have HJt:=hide hJ.tc;have HOut:Hid (∀c,rb=.out c->c=2∨c=3):=λc h=>HEb.o.outc c h;clear hJ hW3 hb3 hJ3 hI3 hI4 hn0 x9 hS0 hpl hW4;go_upto_region 8 with fail;refine wp_region_E 14 (λX=>X.cell? ⟨C.P,10,none⟩=some (.int .i64 s.n)/\X.cell? ⟨C.P,9,none⟩=some (.slice (some ⟨bF,oF,none⟩) C.fr.length fc)/\X.cell? ⟨bF,oF+f,none⟩=some (.int .i64 F1)) k_ ?_;rw[<-HW3.o];refine tk 0 [1,2,3,11,14] HS.o ?_;refine tk 1 [2,3,11,14] HS.o ?_;refine tk 2 [3,11,14] HS.o ?_;refine tk 3 [11,14] HS.o ?_;refine tk 4 [5,6,7,9,10,11,14] HS.o ?_;refine tk 5 [6,7,9,10,11,14] HS.o ?_;refine tk 6 [7,9,10,11,14] HS.o ?_;refine tk 7 [9,10,11,14] HS.o ?_;refine tk 8 [9,10,11,14] HS.o ?_;refine tk 9 [10,11,14] HS.o ?_;refine tk 10 [11,14] HS.o ?_;refine tk 11 [14] HS.o ?_;refine tk 12 [13,14] HS.o ?_;refine tk 13 [14] HS.o ?_;clear HS;refine wpAnyE_one (i:=14) k_ rfl (λK hK => ?_);go_simp;refine hK.out _ _ (λh=>absurd rfl h) ?_;clear hK K x10 f10;refine wpAnyE_done k_ ?_ _;rw[<-HW4.o];obtain⟨W5,hW5⟩ : ∃W5,W5=W4.drew:=⟨_,rfl⟩;have hb5:Bl W4 W5:=by rw[hW5];exact r_.drew
   have hI5:=HI4.o.below HC.o hb5;have x10:=(hI5.box 10 _ rfl).1;have x11:=(hI5.box 11 _ rfl).1;have f11:=(hI5.box 11 _ rfl).2;have hS1:W5.cell? ⟨C.P,11,none⟩=some (.int .i64 s.d)/\W5.cell? ⟨C.P,10,none⟩=some (.int .i64 (s.n+F1)):=⟨x11,x10⟩;have HS:=hide hS1;have HW5:=hide hW5;clear hS1 hW5 hb5 hI5 x10;go_upto_region 9 with fail;refine wp_region_E 12 (λX=>X.cell? ⟨C.P,11,none⟩=some (.int .i64 s.d)/\X.cell? ⟨C.P,10,none⟩=some (.int .i64 (s.n+F1))) k_ ?_;rw[<-HW5.o];refine tk 0 [10,11,12] HS.o ?_;refine tk 1 [2,3,4,9,12] HS.o ?_;refine tk 2 [3,4,9,12] HS.o ?_;refine tk 3 [4,9,12] HS.o ?_;refine tk 4 [9,12] HS.o ?_;refine tk 5 [6,7,8,9,12] HS.o ?_;refine tk 6 [7,8,9,12] HS.o ?_;refine tk 7 [8,9,12] HS.o ?_;refine tk 8 [9,12] HS.o ?_;refine tk 9 [12] HS.o ?_;refine tk 10 [11,12] HS.o ?_;refine tk 11 [12] HS.o ?_;clear HS;refine wpAnyE_one (i:=12) k_ rfl (λK hK => ?_);go_simp;generalize hmx:(if s.d<s.n+F1 then s.n+F1 else s.d)=mx;have hmx':max s.d (s.n+F1)=mx:=by rw[<-hmx];split <;> omega
   have Hmx:=hide hmx';refine hK.out _ _ (λh=>absurd rfl h) ?_;clear hK K hmx hmx' x11 f11;refine wpAnyE_done k_ ?_ _;obtain⟨W6,hW6⟩ : ∃W6,W6=W5.setCell ⟨C.P,11,none⟩ (.int .i64 mx):=⟨_,rfl⟩;rw[<-hW6];have hb5:Bl W4 W5:=by rw[HW5.o];exact r_.drew
   have hI6:=(HI4.o.below HC.o hb5).deep HC.o (s' := {s with l:=parL fn vs,n:=s.n+F1,d:=max s.d (s.n+F1)}) mx (by rw[Hmx.o]) (by have:=H0.o.nn.2.2;have:=Hmx.o;omega);rw[<-hW6] at hI6;have ht6:Tcs (λk=>k=C.P∨k=q) W0 W6:=by
    have g1:Tcs (λk=>k=C.P∨k=q) W0 wr:=(HT1.o.mono λk hk=>.inl hk).trans (HJt.o.mono λk hk=>.inr hk);have g2:Tcs (λk=>k=C.P∨k=q) W0 W3:=by rw[HW3.o];exact g1.drew
    have g3:Tcs (λk=>k=C.P∨k=q) W0 W4:=by rw[HW4.o];exact g2.setCell (p:=⟨C.P,10,none⟩) (.inl rfl) _
    have g4:Tcs (λk=>k=C.P∨k=q) W0 W5:=by rw[HW5.o];exact g3.drew
    rw[hW6];exact g4.setCell (p:=⟨C.P,11,none⟩) (.inl rfl) _
   have hm6:FrC W6 M [.int .i64 0,.int .i64 0]:=HX0.o.tcs hM0 ht6 (λe=>e.elim hMP hMq);have x3:=(hI6.box 3 _ rfl).1;have xb:W6.cell? ⟨C.bB,f,none⟩=some (.slice ba bL.length bc):=(c_ (a:=⟨C.bB,f,none⟩) (hI6.tc.block C.bB (HC.o.ne C.bB (.inr (.inr rfl))).1 (λe=>e.elim (HC.o.ne C.bB (.inr (.inr rfl))).2.1 (HC.o.ne C.bB (.inr (.inr rfl))).2.2))).trans Hbc;have hz2:=(HEb.o.inv hI6.ok trivial).2.2;have HBlk:=hide (HIB.o bL _ rb z2 HEb.o (by show OkB _ ((parL fn vs).map Prod.fst) _;rw[HNm.o];exact HOk) (by show Scp _ ((parL fn vs).map Prod.fst);rw[HNm.o];exact HSp) W6 q vI vO (.slice ba bL.length bc) hI6 HbL);have HEnd:Hid (∀(w7 W8:World) (vI7 vO7:Value) (en vv:Int),IS C w7 (some q) vI7 vO7 z2->Tcs (TSi C (some q) vO) W6 w7->(∀k,vO7.ownBlock=some k->vO.ownBlock=some k∨W6.heap.size<=k)->W8=w7.alloc (.cells #[.int .i64 en,.int .i64 vv] 75)->_):=λw7 W8 vI7 vO7 en vv g1 g2 g3 g4=>ca_end (en:=en) (vv:=vv) (F1:=F1) HC.o H0.o HB0.o HHq.o HM.o hM0 ht6 hm6 g1 g2 g3 hz2.2.1 hz2.2.2.1 g4;have hfl:(f:Int)<(C.t.funcs.length:Int):=by omega
   have Hz2:=hide hz2.2.1;clear hW6 hb5 hI6 ht6 hm6 hz2 HIB HEb;go_wp2_with fail;refine HBlk.o.mono ?_;rintro e w7 ⟨vI7,vO7,rfl,hI7,ht7,ho7⟩;clear x3 xb;obtain⟨en,hen⟩ : ∃en,en=endR rb:=⟨_,rfl⟩;obtain⟨vv,hvv⟩ : ∃vv,vv=valR rb:=⟨_,rfl⟩;rw[<-hen,<-hvv];obtain⟨W8,hW8⟩ : ∃W8,W8=w7.alloc (.cells #[.int .i64 en,.int .i64 vv] 75):=⟨_,rfl⟩;obtain⟨B,hB⟩ : ∃B,B=w7.heap.size:=⟨_,rfl⟩;obtain⟨hBM,hPB,hI8,hend⟩:=HEnd.o w7 W8 vI7 vO7 en vv hI7 ht7 ho7 hW8;rw[<-hB] at hBM hPB;simp only[<-hB] at hend;obtain⟨W9,hW9⟩ : ∃W9,W9=W8.drew:=⟨_,rfl⟩;obtain⟨W11,hW11⟩ : ∃W11,W11=(W9.setCell ⟨C.P,10,none⟩ (.int .i64 s.n)).setCell ⟨C.P,5,none⟩ (.map vV):=⟨_,rfl⟩;have hb9:Bl W8 W9:=by rw[hW9];exact r_.drew
   obtain⟨hoo,hbx,⟨hI11,ht11,hm11⟩,hI12,ht12,hm12⟩:=hend W9 W11 hb9 hW11;rw[<-HS'.o] at hI11 hI12;have hI9:=hI8.below HC.o hb9;have x10:=(hI9.box 10 _ rfl).1;have f10:=(hI9.box 10 _ rfl).2;have x5:=(hI9.box 5 _ rfl).1;have f5:=(hI9.box 5 _ rfl).2;have x9:=(hI9.box 9 _ rfl).1;rw[HvFr.o] at x9;rw[Hz2.o] at x10;have HS:Hid (W9.cell? ⟨C.P,10,none⟩=some (.int .i64 (s.n+F1))/\W9.cell? ⟨C.P,9,none⟩=some (.slice (some ⟨bF,oF,none⟩) C.fr.length fc)/\W9.cell? ⟨bF,oF+f,none⟩=some (.int .i64 F1)):=⟨x10,x9,HCw.o W9 _ _ _ _ _ _ _ hI9 HcF⟩;have hsub:s.n+F1-F1=s.n:=by omega
   have hwn2:IntKind.i64.wrap s.n=s.n:=by simp[IntKind.wrap,IntKind.bits,IntKind.signed];omega
   have HF1:Hid (endR rb.back=en->_):=λg=>exq_fin HC.o HM.o H0.o HB0.o hM0 hI11 ht11 hoo r_ hm11 rb.back (a:=en) (b:=vv) g ((back_val rb).trans hvv.symm);have HF2:Hid (endR rb.back=0->_):=λg=>exq_fin HC.o HM.o H0.o HB0.o hM0 hI12 ht12 hoo r_ hm12 rb.back (a:=0) (b:=vv) g ((back_val rb).trans hvv.symm);have HW8:=hide hW8;have HBe:=hide hB;have HW9:=hide hW9;have HW11:=hide hW11;have HBx:=hide hbx;have Hm11:=hide hm11;have HEn:=hide hen;have hnov : ∀c,rb=.out c->c=2∨c=3:=HOut.o;have HNv:=hide hnov;clear hI7 ht7 ho7 hW8 hB hend hW9 hW11 hb9 hoo hbx hI11 ht11 hm11 hI12 ht12 hm12 hI8 hI9 x9 hen hvv hnov HEnd HBlk;go_upto_region 11 with fail;rw[<-HW8.o,<-HBe.o];refine wp_region_E 14 (λX=>X.cell? ⟨C.P,10,none⟩=some (.int .i64 (s.n+F1))/\X.cell? ⟨C.P,9,none⟩=some (.slice (some ⟨bF,oF,none⟩) C.fr.length fc)/\X.cell? ⟨bF,oF+f,none⟩=some (.int .i64 F1)) k_ ?_;rw[<-HW9.o];refine tk 0 [1,2,3,11,14] HS.o ?_;refine tk 1 [2,3,11,14] HS.o ?_;refine tk 2 [3,11,14] HS.o ?_;refine tk 3 [11,14] HS.o ?_;refine tk 4 [5,6,7,9,10,11,14] HS.o ?_;refine tk 5 [6,7,9,10,11,14] HS.o ?_;refine tk 6 [7,9,10,11,14] HS.o ?_;refine tk 7 [9,10,11,14] HS.o ?_;refine tk 8 [9,10,11,14] HS.o ?_;refine tk 9 [10,11,14] HS.o ?_;refine tk 10 [11,14] HS.o ?_;refine tk 11 [14] HS.o ?_;refine tk 12 [13,14] HS.o ?_;refine tk 13 [14] HS.o ?_;clear HS;refine wpAnyE_one (i:=14) k_ rfl (λK hK => ?_);go_simp;refine hK.out _ _ (λh=>absurd rfl h) ?_;clear hK K x10 f10;refine wpAnyE_done k_ ?_ _;go_upto_region 13 with fail;rw[<-HW11.o];clear x5 f5;have z0:=(HBx.o 0 _ rfl).1;have g0:=(HBx.o 0 _ rfl).2;have z1:=(HBx.o 1 _ rfl).1;by_cases he:en=2
   ·have hbk:endR rb.back=0:=by
     rcases back_end rb (by rw[<-HEn.o];exact he) with g|⟨c,g⟩
     ·exact g
     ·have h1:=HEn.o;rw[g] at h1;have h2:en=c+1:=h1;rcases HNv.o c g with g2|g2 <;> omega
    have HF:=hide (HF2.o hbk);obtain⟨u0,v0⟩:=Hm11.o 0 _ rfl;obtain⟨u1,v1⟩:=Hm11.o 1 _ rfl;clear HF1 HF2 hbk;subst he;go_wp2_with fail;obtain⟨t0,t1,hQ⟩:=HF.o;exact bodyPost_ret (v:=.agg #[.int .i64 0,.int .i64 vv]) (by simp[results,results39,go_sem,t0,t1]) rfl hQ
   ·have he':(en == 2)=false:=by simpa using he
    have hbk:endR rb.back=en:=by rw[back_no rb (by rw[<-HEn.o];exact he),HEn]
    have HF:=hide (HF1.o hbk);obtain⟨u0,v0⟩:=Hm11.o 0 _ rfl;obtain⟨u1,v1⟩:=Hm11.o 1 _ rfl;clear HF1 HF2 hbk he;go_wp2_with fail;obtain⟨t0,t1,hQ⟩:=HF.o;exact bodyPost_ret (v:=.agg #[.int .i64 en,.int .i64 vv]) (by simp[results,results39,go_sem,t0,t1]) rfl hQ
end
theorem ev_0 {t:Tr} {fr:List Int} {k:Tk} {s:ES} {r:ER} {s':ES} (h:Ev t fr 0 k s r s'):False:=by cases h using Ev_i
theorem all_im {C:IC} (hC:C.Ok) : ∀n,ExI C n/\CaI C n/\BlI C n
 | 0=>by
  refine⟨?_,?_,?_⟩
  ·intro e s r s' hE;exact (ev_0 hE).elim
  ·intro f vs s r s' hE;exact (ev_0 hE).elim
  ·intro L z r z' hE;exact (ev_0 hE).elim
 | n+1=>by
  obtain⟨h1,h2,h3⟩:=all_im hC n;exact⟨exI_step C hC n h1 h2,caI_step hC h3,blI_step hC (stI_step hC h1 h3)⟩
section
variable {w W1 wn wr w':World} {t:Tr} {vg vf vI vFr:Value} {F:Int} {B0 bm n P bN bM k:Nat} {D:DataW Unit} {gb:List Nat}
def evC (vg vf:Value) (bN:Nat) (vB vM:Value) (vI:Value) (F:Int) (vFr:Value):List Value:=[vg,vf,.map (some bN),vB,vM,.map none,vI,.slice none 0 0,.int .i64 F,vFr,.int .i64 0,.int .i64 0]
structure NwA (w:World) (t:Tr) (vg vf vI:Value) (F:Int) (vFr:Value) (B0 P bN:Nat) (W:World):Prop where
 box:FrC W P (evC vg vf bN (.slice none 0 0) (.map none) vI F vFr)
 tre:FrC W B0 [vg,vf]
 num : ∃n D,W.ownsMap prog 9 (plainElem (H:=Unit) prog 2) bN n D/\NumIs D t.funcs
 bel:Below w.heap.size w W
 ne:B0=w.heap.size/\B0<P/\B0<bN/\bN≠P
theorem nwa_1 (hB0:B0=w.heap.size) (hz1:W1.heap.size=w.heap.size+1) (hb1:Below w.heap.size w W1) (hx1:FrC W1 B0 [vg,vf]) (hb:Below W1.heap.size W1 wn) (hom:wn.ownsMap prog 9 (plainElem (H:=Unit) prog 2) bm n D) (hbm:W1.heap.size<=bm) (hnu:NumIs D t.funcs) :
  NwA w t vg vf vI F vFr B0 wn.heap.size bm (wn.alloc (.cells #[vg,vf,.map (some bm),.slice none 0 0,.map none,.map none,vI,.slice none 0 0,.int .i64 F,vFr,.int .i64 0,.int .i64 0] 81)):=by
 have ha:Bl wn (wn.alloc (.cells #[vg,vf,.map (some bm),.slice none 0 0,.map none,.map none,vI,.slice none 0 0,.int .i64 F,vFr,.int .i64 0,.int .i64 0] 81)):=bel_a _ _;have s1:=hb.size;have hlt:=hom.lt;exact⟨box_fr wn #[vg,vf,.map (some bm),.slice none 0 0,.map none,.map none,vI,.slice none 0 0,.int .i64 F,vFr,.int .i64 0,.int .i64 0] 81 (by show 12<=1000;omega),(hx1.below hb).below ha,⟨n,D,map_tcs hom (ha.tcs (S:=λ_=>False)) (λe=>e),hnu⟩,(hb1.trans (hb.mono hb1.size)).trans (ha.mono o_),hB0,by omega,by omega,by omega⟩
theorem nwa_2 (hP:P=W1.heap.size) (hB0:B0=w.heap.size) (hz1:W1.heap.size=w.heap.size+1) (hb1:Below w.heap.size w W1) (hx1:FrC W1 B0 [vg,vf]) (hb:Below W1.heap.size W1 wn) {Z:List Value} (hq:FrC wn P Z) (hZ:Z.length=12) (hom:wn.ownsMap prog 9 (plainElem (H:=Unit) prog 2) bm n D) (hbm:W1.heap.size+1<=bm) (hnu:NumIs D t.funcs) :
  NwA w t vg vf vI F vFr B0 P bm ((((((((((((wn.setCell ⟨P,0,none⟩ vg).setCell ⟨P,1,none⟩ vf).setCell ⟨P,2,none⟩ (.map (some bm))).setCell ⟨P,3,none⟩ (.slice none 0 0)).setCell ⟨P,4,none⟩ (.map none)).setCell ⟨P,5,none⟩ (.map none)).setCell ⟨P,6,none⟩ vI).setCell ⟨P,7,none⟩ (.slice none 0 0)).setCell ⟨P,8,none⟩ (.int .i64 F)).setCell ⟨P,9,none⟩ vFr).setCell ⟨P,10,none⟩ (.int .i64 0)).setCell ⟨P,11,none⟩ (.int .i64 0)):=by
 have ht:Tcs (λk=>k=P) wn ((((((((((((wn.setCell ⟨P,0,none⟩ vg).setCell ⟨P,1,none⟩ vf).setCell ⟨P,2,none⟩ (.map (some bm))).setCell ⟨P,3,none⟩ (.slice none 0 0)).setCell ⟨P,4,none⟩ (.map none)).setCell ⟨P,5,none⟩ (.map none)).setCell ⟨P,6,none⟩ vI).setCell ⟨P,7,none⟩ (.slice none 0 0)).setCell ⟨P,8,none⟩ (.int .i64 F)).setCell ⟨P,9,none⟩ vFr).setCell ⟨P,10,none⟩ (.int .i64 0)).setCell ⟨P,11,none⟩ (.int .i64 0)):=(((((((((((((Tcs.refl (λk=>k=P) wn).setCell (p:=⟨P,0,none⟩) rfl vg).setCell (p:=⟨P,1,none⟩) rfl vf).setCell (p:=⟨P,2,none⟩) rfl (.map (some bm))).setCell (p:=⟨P,3,none⟩) rfl (.slice none 0 0)).setCell (p:=⟨P,4,none⟩) rfl (.map none)).setCell (p:=⟨P,5,none⟩) rfl (.map none)).setCell (p:=⟨P,6,none⟩) rfl vI).setCell (p:=⟨P,7,none⟩) rfl (.slice none 0 0)).setCell (p:=⟨P,8,none⟩) rfl (.int .i64 F)).setCell (p:=⟨P,9,none⟩) rfl vFr).setCell (p:=⟨P,10,none⟩) rfl (.int .i64 0)).setCell (p:=⟨P,11,none⟩) rfl (.int .i64 0));have hf:=((((((((((((hq.set 0 vg).set 1 vf).set 2 (.map (some bm))).set 3 (.slice none 0 0)).set 4 (.map none)).set 5 (.map none)).set 6 vI).set 7 (.slice none 0 0)).set 8 (.int .i64 F)).set 9 vFr).set 10 (.int .i64 0)).set 11 (.int .i64 0));match Z,hZ with
 | [z0,z1,z2,z3,z4,z5,z6,z7,z8,z9,z10,z11],_=>
  have s1:=hb.size;have hsB:B0<wn.heap.size:=by omega
  exact⟨hf,(hx1.below hb).tcs hsB ht (λe=>by have e':B0=P:=e;omega),⟨n,D,map_tcs hom ht (λe=>by have e':bm=P:=e;omega),hnu⟩,ht.below (hb1.trans (hb.mono hb1.size)) o_ (λk hk=>by have e:k=P:=hk;omega),hB0,by omega,by omega,by omega⟩
structure NwB (w:World) (t:Tr) (vg vf vI:Value) (F:Int) (vFr:Value) (B0 P bN bM k:Nat) (gb:List Nat) (W:World):Prop where
 box:FrC W P (evC vg vf bN (.slice none 0 0) (.map (some bM)) vI F vFr)
 tre:FrC W B0 [vg,vf]
 num : ∃n D,W.ownsMap prog 9 (plainElem (H:=Unit) prog 2) bN n D/\NumIs D t.funcs
 glb : ∃D,W.ownsMap prog 9 heldV bM k D/\GlbIs D (t.globals.take k) gb
 gbl:gb.length=k
 gw : ∀j (hj:j<gb.length) (hk:j<t.globals.length),FrC W gb[j] (zer (gln t.globals[j]))
 gr : ∀b∈gb,bM<b/\b<W.heap.size
 nd:gb.Nodup
 bel:Below w.heap.size w W
 ne:B0=w.heap.size/\B0<P/\B0<bN/\bN≠P/\P<bM/\bN<bM/\bM<W.heap.size
theorem nwb_0 {wc:World} (h:NwA w t vg vf vI F vFr B0 P bN wc):NwB w t vg vf vI F vFr B0 P bN wc.heap.size 0 [] ((wc.setCell ⟨P,4,none⟩ (.map (some wc.heap.size))).alloc (.map #[] 0)):=by
 obtain⟨n,D,h1,h2⟩:=h.num;obtain⟨e1,e2,e3,e4⟩:=h.ne;have hlt:=h1.lt;have hP:=b_ (h.box 0 _ rfl).1;have hP':P<wc.heap.size:=hP;have hB:B0<wc.heap.size:=by omega
 have hW:(wc.setCell ⟨P,4,none⟩ (.map (some wc.heap.size))).alloc (.map #[] 0)=(wc.alloc (.map #[] 0)).setCell ⟨P,4,none⟩ (.map (some wc.heap.size)):=by rw[World.setCell_alloc_past _ _ _ _ hP']
 have ha:Bl wc (wc.alloc (.map #[] 0)):=bel_a _ _;have ht:Tcs (λk=>k=P) wc ((wc.setCell ⟨P,4,none⟩ (.map (some wc.heap.size))).alloc (.map #[] 0)):=by
  rw[hW];exact (ha.tcs (S:=λk=>k=P)).setCell (p:=⟨P,4,none⟩) rfl _
 have hm:((wc.setCell ⟨P,4,none⟩ (.map (some wc.heap.size))).alloc (.map #[] 0)).ownsMap prog 9 heldV wc.heap.size 0 (.map []):=by
  rw[hW];exact map_tcs (World.ownsMap_made wc prog 9 _) ((Tcs.refl (λk=>k=P) _).setCell (p:=⟨P,4,none⟩) rfl _) (λe=>by have e':wc.heap.size=P:=e;omega)
 have hs:((wc.setCell ⟨P,4,none⟩ (.map (some wc.heap.size))).alloc (.map #[] 0)).heap.size=wc.heap.size+1:=by rw[hW];simp
 refine⟨?_,h.tre.tcs hB ht (λe=>by have e':B0=P:=e;omega),⟨n,D,map_tcs h1 ht e4,h2⟩,⟨_,hm,by simpa using GlbIs.nil⟩,rfl,λj hj=>by simp at hj,λb hb=>by simp at hb,List.nodup_nil,ht.below h.bel h.bel.size (λk hk=>by have e:k=P:=hk;omega),e1,e2,e3,e4,hP',hlt,by omega⟩;rw[hW];exact (h.box.below ha).set 4 _
theorem NwB.past {S:Nat->Prop} (h:NwB w t vg vf vI F vFr B0 P bN bM k gb wr) (ht:Tcs S wr w') (hS : ∀b,S b->wr.heap.size<=b):NwB w t vg vf vI F vFr B0 P bN bM k gb w':=by
 obtain⟨n,D,h1,h2⟩:=h.num;obtain⟨D2,h3,h4⟩:=h.glb;obtain⟨e1,e2,e3,e4,e5,e6,e7⟩:=h.ne;have hn : ∀b,b<wr.heap.size->¬S b:=λb hb hs=>by have:=hS b hs;omega
 have hs:=ht.size;exact⟨h.box.tcs o_ ht (hn _ o_),h.tre.tcs o_ ht (hn _ o_),⟨n,D,map_tcs h1 ht (hn _ o_),h2⟩,⟨D2,map_tcs h3 ht (hn _ e7),h4⟩,h.gbl,λj hj hk=>(h.gw j hj hk).tcs (h.gr _ (g_ hj)).2 ht (hn _ (h.gr _ (g_ hj)).2),λb hb=>⟨(h.gr b hb).1,by have:=(h.gr b hb).2;omega⟩,h.nd,ht.below h.bel h.bel.size (λb hb=>by have:=hS b hb;have:=h.bel.size;omega),e1,e2,e3,e4,e5,e6,by omega⟩
theorem NwB.below (h:NwB w t vg vf vI F vFr B0 P bN bM k gb wr) (hb:Below wr.heap.size wr w'):NwB w t vg vf vI F vFr B0 P bN bM k gb w':=
 h.past (hb.tcs (S:=λ_=>False)) (λb hb=>hb.elim)
theorem NwB.more {W3 w5:World} (h:NwB w t vg vf vI F vFr B0 P bN bM k gb W3) (hnd:(t.globals.map (·.name)).Nodup) (hk:k<t.globals.length) (hz:gln t.globals[k]<=4000) {D:DataW Value} (hD:GlbIs D (t.globals.take k) gb)
  (ho:w5.ownsMap prog 9 heldV bM (k+1) (D.put (kS t.globals[k].name) (.held (.slice (some ⟨W3.heap.size,0,none⟩) (gln t.globals[k]) (gln t.globals[k]))))) (hg:(W3.alloc (.cells (Array.replicate (gln t.globals[k]) (.int .i64 0)) 2)).grownBy w5 (some bM)):NwB w t vg vf vI F vFr B0 P bN bM (k+1) (gb++[W3.heap.size]) w5:=by
 have ha:Bl W3 (W3.alloc (.cells (Array.replicate (gln t.globals[k]) (.int .i64 0)) 2)):=bel_a _ _;have hs4:(W3.alloc (.cells (Array.replicate (gln t.globals[k]) (.int .i64 0)) 2)).heap.size=W3.heap.size+1:=by simp
 have hf4:FrC (W3.alloc (.cells (Array.replicate (gln t.globals[k]) (.int .i64 0)) 2)) W3.heap.size (zer (gln t.globals[k])):=by
  have:=box_frB W3 (Array.replicate (gln t.globals[k]) (.int .i64 0)) 2 (by simp;omega)
  simpa[zer] using this
 have h4:=h.below ha;have ht:Tcs (λb=>b=bM) (W3.alloc (.cells (Array.replicate (gln t.globals[k]) (.int .i64 0)) 2)) w5:=Tcs.of_grown hg (λk hk=>by cases hk;rfl);have hs:=ht.size;obtain⟨n,D1,h1,h2⟩:=h4.num;obtain⟨e1,e2,e3,e4,e5,e6,e7⟩:=h.ne;have hl:gb.length=(t.globals.take k).length:=by rw[h.gbl,List.length_take];omega
 refine⟨h4.box.tcs o_ ht (λe=>by have e':P=bM:=e;omega),h4.tre.tcs o_ ht (λe=>by have e':B0=bM:=e;omega),⟨n,D1,map_tcs h1 ht (λe=>by have e':bN=bM:=e;omega),h2⟩,⟨_,ho,?_⟩,by simp[h.gbl],λj hj hjk => ?_,λb hb => ?_,?_,ht.below h4.bel h4.bel.size (λb hb=>by have e:b=bM:=hb;omega),e1,e2,e3,e4,e5,e6,by omega⟩
 ·rw[List.take_succ_eq_append_getElem hk];exact hD.put hl (glob_new hnd hk)
 ·by_cases hjb:j<gb.length
  ·have e:(gb++[W3.heap.size])[j]=gb[j]:=List.getElem_append_left hjb;rw[e];have hr:=h.gr _ (g_ hjb);exact (h4.gw j hjb hjk).tcs o_ ht (λe=>by have e':gb[j]=bM:=e;omega)
  ·have ej:j=k:=by rw[l_a,List.length_singleton] at hj;have:=h.gbl;omega
   subst ej;have e:(gb++[W3.heap.size])[j]=W3.heap.size:=by
    rw[List.getElem_append_right (by have:=h.gbl;omega)];simp
   rw[e];exact hf4.tcs o_ ht (λe=>by have e':W3.heap.size=bM:=e;omega)
 ·rcases List.mem_append.1 hb with hb|hb
  ·have:=h.gr b hb
   exact⟨this.1,by omega⟩
  ·simp only[List.mem_singleton] at hb;subst hb;exact⟨e7,by omega⟩
 ·rw[List.nodup_append];refine⟨h.nd,by simp,λa ha b hb e => ?_⟩;simp only[List.mem_singleton] at hb;subst hb;subst e;have:=(h.gr _ ha).2
  omega
end
section
variable {W Wm:World} {t:Tr} {vg vf vI vFr vB:Value} {F:Int} {P bN bM k:Nat} {S:Nat->Prop}
theorem info_blk:(prog.info? 118).map (λi=>(i.zero,i.size,i.bytes))=some (some (.slice none 0 0),1,24):=by kernel_rfl
theorem app_blk {B n:Nat} {av:Value} {xs:List Value} (h:W.ownsRow B 118 1 av n xs) (z:Value) (hz:z.oneCell'=true) (hB:B<=W.heap.size) (hn:n<=1000000) :
  ∃va vc w3,(Builtin.append_ #[78,78] 78 #[av,.slice (some ⟨W.heap.size,0,none⟩) 1 1]).run prog (W.alloc (.cells #[z] 118))=.ok (.slice va (n+1) vc) w3/\w3.ownsRow B 118 1 (.slice va (n+1) vc) (n+1) (xs++[z])/\Tcs (λk=>av.ownBlock=some k) W w3/\∀k,(Value.slice va (n+1) vc).ownBlock=some k->av.ownBlock=some k∨W.heap.size<k:=by
 obtain⟨i0,hi,hz0,hz1,hz2⟩:=info_parts info_blk;have hb0:Bl W (W.alloc (.cells #[z] 118)):=bel_a _ _;have h':=ownB h hb0;have hlit:(W.alloc (.cells #[z] 118)).ownsRow W.heap.size 118 1 (.slice (some ⟨W.heap.size,0,none⟩) 1 1) 1 [z]:=World.ownsRow_lit W #[z] 1 n_ (by decide) rfl;obtain⟨v',w',r1,r2,r3,r4⟩:=run_appG (P:=prog) (w:=W.alloc (.cells #[z] 118)) B 78 78 118 i0 _ 1 24 underlying78 hi hz0 hz1 hz2 rfl (by decide) av _ _ h' (some ⟨W.heap.size,0,none⟩) 1 1 [z] (λe=>by cases e) rfl (λad had k u hu=>by cases had;exact World.ownsRow.cells hlit (g:=W.heap.size) rfl k u hu) (λu hu=>by simp at hu;subst hu;exact hz) o_ (by decide) (by have:=hb0.size;omega);obtain⟨va,vc,rfl,-⟩:=own_shapeU r2;refine⟨va,vc,w',r1,r2,(hb0.tcs (S:=λk=>av.ownBlock=some k)).next (T:=λk=>av.ownBlock=some k) (Tcs.of_grown r3 (λk hk=>hk)) (λk hk=>.inl hk),λk hk=>(r4 k hk).imp id λh1 => ?_⟩;rw[World.size_alloc] at h1;omega
structure NwC (t:Tr) (vg vf vI:Value) (F:Int) (vFr:Value) (P bN bM:Nat) (Wm:World) (k:Nat) (vB:Value) (S:Nat->Prop) (W:World):Prop where
 box:FrC W P (evC vg vf bN vB (.map (some bM)) vI F vFr)
 tc:Tcs (λb=>b=P) Wm W
 row : ∃xs:List Value,xs.length=k/\W.ownsRow Wm.heap.size 118 1 vB k xs/\∀f,f<k->∃a cap L,xs[f]? = some (.slice a L.length cap)/\BkL W S (.slice a L.length cap) L/\(t.funcs.getD f ⟨⟨#[]⟩,[],[]⟩).body=flatL L
 sS : ∀B,S B->Wm.heap.size<=B/\B<W.heap.size/\vB.ownBlock≠some B
 pm:P<Wm.heap.size
theorem nwc_0 (h:FrC Wm P (evC vg vf bN (.slice none 0 0) (.map (some bM)) vI F vFr)):NwC t vg vf vI F vFr P bN bM Wm 0 (.slice none 0 0) (λ_=>False) Wm:=
 ⟨h,Tcs.refl _ _,⟨[],rfl,World.ownsRow_nil _ _ _ _,λf hf=>absurd hf o_⟩,λB hB=>hB.elim,b_ (h 0 _ rfl).1⟩
theorem NwC.below {W':World} (h:NwC t vg vf vI F vFr P bN bM Wm k vB S W) (hb:Below W.heap.size W W'):NwC t vg vf vI F vFr P bN bM Wm k vB S W':=by
 obtain⟨xs,h1,h2,h3⟩:=h.row;refine⟨h.box.below hb,h.tc.of_below hb,⟨xs,h1,ownB h2 hb,λf hf => ?_⟩,λB hB=>⟨(h.sS B hB).1,by have:=(h.sS B hB).2.1;have:=hb.size;omega,(h.sS B hB).2.2⟩,h.pm⟩;obtain⟨a,cap,L,g1,g2,g3⟩:=h3 f hf;exact⟨a,cap,L,g1,g2.bel (λB hB=>(h.sS B hB).2.1) hb,g3⟩
theorem NwC.more {N:Nat} {S':Nat->Prop} {w5:World} {x:Value} (h:NwC t vg vf vI F vFr P bN bM Wm k vB S w5) (hx:Bk w5 S' x (t.funcs.getD k ⟨⟨#[]⟩,[],[]⟩).body) (hS : ∀B,S' B->N<=B/\B<w5.heap.size) (hN:Wm.heap.size<=N) (hvN : ∀B,vB.ownBlock=some B->B<N) (hk:k<=1000) :
  ∃xa xn xc va vc w6,x=.slice xa xn xc/\(Builtin.append_ #[78,78] 78 #[vB,.slice (some ⟨w5.heap.size,0,none⟩) 1 1]).run prog (w5.alloc (.cells #[x] 118))=.ok (.slice va (k+1) vc) w6/\(w6.cell? ⟨P,3,none⟩=some vB/\w6.frozen? ⟨P,3,none⟩=false)/\Tcs (λb=>vB.ownBlock=some b) w5 w6/\NwC t vg vf vI F vFr P bN bM Wm (k+1) (.slice va (k+1) vc) (λB=>S B∨S' B) (w6.setCell ⟨P,3,none⟩ (.slice va (k+1) vc)):=by
 obtain⟨L,hL,hbody⟩:=hx.toL;obtain⟨xa,xc,rfl,-⟩:=hL.args;obtain⟨xs,h1,h2,h3⟩:=h.row;have sM:=h.tc.size;obtain⟨va,vc,w6,r1,r2,r3,r4⟩:=app_blk h2 (.slice xa L.length xc) rfl sM o_;have hlo:=λb hb=>World.ownsRow.lt h2 b hb;have hpm:=h.pm;have hnP : ¬vB.ownBlock=some P:=λe=>by have:=(hlo _ e).1;omega
 have hbx:=h.box.tcs o_ r3 hnP;have t2:Tcs (λb=>b=P) w6 (w6.setCell ⟨P,3,none⟩ (.slice va (k+1) vc)):=(Tcs.refl (λb=>b=P) w6).setCell (p:=⟨P,3,none⟩) rfl _;have t4:Tcs (λb=>vB.ownBlock=some b∨b=P) w5 (w6.setCell ⟨P,3,none⟩ (.slice va (k+1) vc)):=(r3.mono (λb hb=>.inl hb)).next t2 (λb hb=>.inl (.inr hb));have s4:=t4.size;have hkS : ∀B,S B->(w6.setCell ⟨P,3,none⟩ (.slice va (k+1) vc)).heap[B]? = w5.heap[B]? := λB hB=>t4.block B (h.sS B hB).2.1 (λe=>e.elim (h.sS B hB).2.2 (λe=>by have:=(h.sS B hB).1;omega));have hkS' : ∀B,S' B->(w6.setCell ⟨P,3,none⟩ (.slice va (k+1) vc)).heap[B]? = w5.heap[B]? := λB hB=>t4.block B (hS B hB).2 (λe=>e.elim (λe=>by have:=hvN B e;have:=(hS B hB).1;omega) (λe=>by have:=(hS B hB).1;omega));refine⟨xa,L.length,xc,va,vc,w6,rfl,r1,hbx 3 _ rfl,r3,hbx.set 3 _,?_,⟨xs++[.slice xa L.length xc],by simp[h1],own_notU r2 t2 (λb hb e=>by have e':b=P:=e;have:=(World.ownsRow.lt r2 b hb).1;omega),λf hf => ?_⟩,λB hB => ?_,hpm⟩
 ·exact h.tc.next t4 (λb hb=>hb.elim (λe=>.inr (hlo b e).1) (λe=>.inl e))
 ·by_cases hfk:f<k
  ·obtain⟨a,cap,L2,g1,g2,g3⟩:=h3 f hfk;exact⟨a,cap,L2,by rw[List.getElem?_append_left o_];exact g1,g2.keep (λB hB=>.inl hB) hkS,g3⟩
  ·obtain rfl:f=k:=by omega
   exact⟨xa,xc,L,by rw[List.getElem?_append_right o_,h1];simp,hL.keep (λB hB=>.inr hB) hkS',hbody⟩
 ·rcases hB with hB|hB
  ·obtain⟨g1,g2,g3⟩:=h.sS B hB;exact⟨g1,by omega,λe=>(r4 B e).elim g3 (λe=>by omega)⟩
  ·obtain⟨g1,g2⟩:=hS B hB;exact⟨by omega,by omega,λe=>(r4 B e).elim (λe=>by have:=hvN B e;omega) (λe=>by omega)⟩
end
theorem fun_getD (fs:List Fu) (k:Nat) (hk:k<fs.length):(fs.getD k ⟨⟨#[]⟩,[],[]⟩).body=fs[k].body:=by simp[List.getD,hk]
theorem NwB.moreN {w W3 W4 w5:World} {t:Tr} {vg vf vI vFr:Value} {F:Int} {B0 P bN bM k N:Nat} {gb:List Nat} (h:NwB w t vg vf vI F vFr B0 P bN bM k gb W3) (hnd:(t.globals.map (·.name)).Nodup) (hk:k<t.globals.length) (hN:N=gln t.globals[k]) (hz:N<=4000) (hW4:W4=W3.alloc (.cells (Array.replicate N (.int .i64 0)) 2)) {D:DataW Value} (hD:GlbIs D (t.globals.take k) gb)
  (ho:w5.ownsMap prog 9 heldV bM (k+1) (D.put (kS t.globals[k].name) (.held (.slice (some ⟨W3.heap.size,0,none⟩) N N)))) (hg:W4.grownBy w5 (some bM)):NwB w t vg vf vI F vFr B0 P bN bM (k+1) (gb++[W3.heap.size]) w5:=by
 subst hN;subst hW4;exact h.more hnd hk hz hD ho hg
theorem newE_any (t:Tr) (vg vf vI vFr:Value) (F:Int) (w:World) (hl:t.funcs.length<=1000) (hgl:t.globals.length<=1000) (hw:wfFs t.funcs) (hf:Funcs w vf t.funcs) (hg:Globs w vg t.globals) (hT:Tab w) (hbo : ∀f∈t.funcs,fitB f.body=true/\(∀s∈f.body,stmtB s=true/\s.e.length<=2000/\s.f.length<=2000)/\f.body.length<=1000) (hgz : ∀g∈t.globals,0<=g.size/\g.size<=4000) (hgn : ∀g∈t.globals,g.name.size<=maxLen) (hnd:(t.globals.map (·.name)).Nodup) (hI : ∃ai ni ci,vI=.slice ai ni ci) (hF : ∃ai ni ci,vFr=.slice ai ni ci) :
  Calls prog 38 #[.agg #[vg,vf],vI,.int .i64 F,vFr] w λe w'=>∃B0 P bN bM gb Wm vB S,e=.returned (.pointer (some ⟨P,0,none⟩))/\NwB w t vg vf vI F vFr B0 P bN bM t.globals.length gb Wm/\NwC t vg vf vI F vFr P bN bM Wm t.funcs.length vB S w':=by
 obtain⟨ai,ni,ci,rfl⟩:=hI;obtain⟨aF,nF,cF,rfl⟩:=hF;have HFun:=hide hf;have HWf:=hide hw;obtain⟨af,cf,rfl,-,-,hfc0⟩:=hf;have HFc:=hide hfc0;have HTab:=hide hT;have HBo:=hide hbo;clear hfc0 hT hbo;obtain⟨ag,cg,rfl,-,-,hgc0⟩:=hg;have HGc:=hide hgc0;have HGz:=hide hgz;have HGn:=hide hgn;have HNd:=hide hnd;clear hgc0 hgz hgn hnd;obtain⟨W1,hW1⟩ : ∃W1,W1=w.alloc (.cells #[.slice ag t.globals.length cg,.slice af t.funcs.length cf] 34):=⟨_,rfl⟩;have hb1:Bl w W1:=by rw[hW1];exact r_.alloc n_ _
 have hx1:FrC W1 w.heap.size [.slice ag t.globals.length cg,.slice af t.funcs.length cf]:=by rw[hW1];exact box_fr w _ _ (by show 2<=1000;omega)
 have hz1:W1.heap.size=w.heap.size+1:=by rw[hW1,World.size_alloc]
 obtain⟨B0,hB0⟩ : ∃B0,B0=w.heap.size:=⟨_,rfl⟩;rw[<-hB0] at hx1;have hB01:B0<W1.heap.size:=by omega
 have HY:Hid (∀W,Bl W1 W->W.cell? ⟨B0,0,none⟩=some (.slice ag t.globals.length cg)/\W.cell? ⟨B0,1,none⟩=some (.slice af t.funcs.length cf)):=λW hW=>⟨((hx1.below hW) 0 _ rfl).1,((hx1.below hW) 1 _ rfl).1⟩;have HFnm:Hid (∀W,Bl W1 W->Calls prog 68 #[.agg #[.slice ag t.globals.length cg,.slice af t.funcs.length cf]] W λe w'=>∃b D,e=.returned (.map (some b))/\W.heap.size<=b/\w'.ownsMap prog 9 (plainElem (H:=Unit) prog 2) b t.funcs.length D/\NumIs D t.funcs/\Bl W w'):=λW hW=>fnums_any t.funcs _ _ W o_ HWf.o ((HFun.o.below hb1).below hW);have HD1:Hid (Bl W1 W1.drew):=r_.drew;have HD2:Hid (∀o,Bl W1 (W1.alloc o).drew):=λo=>(r_.alloc n_ o).drew;have HQ3:=hide λwn (h:Below (W1.alloc (.cells #[.slice none 0 0,.slice none 0 0,.map none,.slice none 0 0,.map none,.map none,.slice none 0 0,.slice none 0 0,.int .i64 0,.slice none 0 0,.int .i64 0,.int .i64 0] 81)).drew.heap.size (W1.alloc (.cells #[.slice none 0 0,.slice none 0 0,.map none,.slice none 0 0,.map none,.map none,.slice none 0 0,.slice none 0 0,.int .i64 0,.slice none 0 0,.int .i64 0,.int .i64 0] 81)).drew wn)=>((box_fr W1 #[.slice none 0 0,.slice none 0 0,.map none,.slice none 0 0,.map none,.map none,.slice none 0 0,.slice none 0 0,.int .i64 0,.slice none 0 0,.int .i64 0,.int .i64 0] 81 (by show 12<=1000;omega)).below (r_.drew)).below h;have HW1:=hide hW1;have HB0:=hide hB0;have Hb1:=hide hb1;have HX1:=hide hx1;have HZ1:=hide hz1;clear hw hW1 hB0 hb1 hx1 hz1;go_enter func38,ntmps38;go_upto_region 1 with fail;rw[<-HW1.o,<-HB0.o];go_cut [9] from 21 to 55 (λp W=>∃P bN,p=.pointer (some ⟨P,0,none⟩)/\NwA w t (.slice ag t.globals.length cg) (.slice af t.funcs.length cf) (.slice ai ni ci) F (.slice aF nF cF) B0 P bN W)
 case first=>
  have y0:=(HY.o _ HD1).1;have y1:=(HY.o _ HD1).2;have k2 : ∀o,(W1.alloc o).drew.cell? ⟨B0,0,none⟩=some (.slice ag t.globals.length cg)/\(W1.alloc o).drew.cell? ⟨B0,1,none⟩=some (.slice af t.funcs.length cf):=λo=>HY.o _ (HD2.o o);have hne : ¬B0=W1.heap.size:=by omega
  have hne2 : ¬W1.heap.size=B0:=by omega
  go_region_held (λW=>W.cell? ⟨B0,0,none⟩=some (.slice ag t.globals.length cg)/\W.cell? ⟨B0,1,none⟩=some (.slice af t.funcs.length cf)) (first | (with_reducible exact k2 _) | (with_reducible exact qa _) | go_keep)
   (first
   | ((with_reducible refine Calls.mono (HFnm.o _ HD1.o) ?_);intro x wn hx;obtain⟨bm,D,hxe,hbm,hom,hnu,hbn⟩:=hx;subst hxe;have q:=HY.o wn (HD1.o.trans (hbn.mono (by simp)));have qa : ∀o,(wn.alloc o).cell? ⟨B0,0,none⟩=some (.slice ag t.globals.length cg)/\(wn.alloc o).cell? ⟨B0,1,none⟩=some (.slice af t.funcs.length cf):=λo=>HY.o (wn.alloc o) ((HD1.o.trans (hbn.mono (by simp))).alloc (by have:=hbn.size;simp at this;omega) o))
   | ((with_reducible refine Calls.mono (HFnm.o _ (HD2.o _)) ?_);intro x wn hx;obtain⟨bm,D,hxe,hbm,hom,hnu,hbn⟩:=hx;subst hxe;have q:=HY.o wn ((HD2.o _).trans (hbn.mono (by simp)));have hq3:=HQ3.o wn hbn;obtain⟨b0,f0⟩:=hq3 0 _ rfl;obtain⟨b1,f1⟩:=hq3 1 _ rfl;obtain⟨b2,f2⟩:=hq3 2 _ rfl;obtain⟨b3,f3⟩:=hq3 3 _ rfl;obtain⟨b4,f4⟩:=hq3 4 _ rfl;obtain⟨b5,f5⟩:=hq3 5 _ rfl;obtain⟨b6,f6⟩:=hq3 6 _ rfl;obtain⟨b7,f7⟩:=hq3 7 _ rfl;obtain⟨b8,f8⟩:=hq3 8 _ rfl;obtain⟨b9,f9⟩:=hq3 9 _ rfl;obtain⟨b10,f10⟩:=hq3 10 _ rfl;obtain⟨b11,f11⟩:=hq3 11 _ rfl))
  all_goals (go_wp2_with fail)
  all_goals go_meet
  ·have hbw:Bl W1 wn:=HD1.o.trans (hbn.mono (by simp));exact⟨wn.heap.size,bm,rfl,nwa_1 HB0.o HZ1.o Hb1.o HX1.o hbw hom (by simpa using hbm) hnu⟩
  ·have hbw:Bl W1 wn:=(HD2.o _).trans (hbn.mono (by simp));exact⟨W1.heap.size,bm,rfl,nwa_2 rfl HB0.o HZ1.o Hb1.o HX1.o hbw hq3 rfl hom (by simpa using hbm) hnu⟩
 case rest=>
  obtain⟨P,bN,rfl,hA⟩:=hcut;have hB:=nwb_0 hA;obtain⟨W2,hW2⟩ : ∃W2,W2=(wc.setCell ⟨P,4,none⟩ (.map (some wc.heap.size))).alloc (.map #[] 0):=⟨_,rfl⟩;obtain⟨bM,hbM⟩ : ∃bM,bM=wc.heap.size:=⟨_,rfl⟩;rw[<-hW2,<-hbM] at hB;have y4:=(hA.box 4 _ rfl).1;have f4:=(hA.box 4 _ rfl).2;have x0:=(hB.tre 0 _ rfl).1;have HB:=hide hB;have HW2:=hide hW2;have hPw:P<wc.heap.size:=by have:=hB.ne;omega
  have hmm := @run_makeMap prog;clear hA hB hW2 hbM HQ3 HD1 HD2 HFnm HY HX1;go_upto_region 3 with fail;rw[<-HW2.o];clear hmm y4 f4 hPw;go_wp2;go_loopw [26] (λi wr=>∃(k:Nat) (gb:List Nat),i=.int .i64 (k:Int)/\k<=t.globals.length/\NwB w t (.slice ag t.globals.length cg) (.slice af t.funcs.length cf) (.slice ai ni ci) F (.slice aF nF cF) B0 P bN bM k gb wr) (λi _=>t.globals.length-(RowKit.intOf i).toNat)
  case atStart=>exact⟨0,[],rfl,y_,HB⟩
  case round=>
   clear HB x0 HW2;obtain⟨k,gb,rfl,hk,hB⟩:=hrel;by_cases hlt:k<t.globals.length
   ·have hki:(k:Int)<(t.globals.length:Int):=by omega
    have HLt:=hide hlt;have hkm:k<maxLen:=by unfold maxLen;omega
    obtain⟨bg,off,rfl,hgc⟩:=HGc.o o_;obtain⟨c0,c1⟩:=hgc k hlt;have hbgw:bg<w.heap.size:=b_ c0;have d0:=(hB.bel.cell (p:=⟨bg,_,none⟩) hbgw).trans c0;have d1:=(hB.bel.cell (p:=⟨bg,_,none⟩) hbgw).trans c1;have hsz:=HGz.o _ (g_ hlt);obtain⟨N,hN⟩ : ∃N,N=gln t.globals[k]:=⟨_,rfl⟩;have hif:(if t.globals[k].size<1 then 1 else t.globals[k].size)=(N:Int):=by
     rw[hN];unfold gln;split <;> split <;> omega
    have hN4:N<=4000:=by rw[hN];unfold gln;split <;> omega
    obtain⟨Wg,hWg⟩ : ∃Wg,Wg=wr.alloc (.cells #[.string t.globals[k].name,.int .i64 t.globals[k].size] 63):=⟨_,rfl⟩;obtain⟨Bg,hBg⟩ : ∃Bg,Bg=wr.heap.size:=⟨_,rfl⟩;have hbg:Bl wr Wg:=by rw[hWg];exact r_.alloc n_ _
    have hxg:FrC Wg Bg [.string t.globals[k].name,.int .i64 t.globals[k].size]:=by rw[hWg,hBg];exact box_fr wr _ _ (by show 2<=1000;omega)
    obtain⟨W3,hW3⟩ : ∃W3,W3=Wg.drew:=⟨_,rfl⟩;have hb3:Bl Wg W3:=by rw[hW3];exact r_.drew
    have hB3:=(hB.below hbg).below hb3;have hx3:=hxg.below hb3;obtain⟨W4,hW4⟩ : ∃W4,W4=W3.alloc (.cells (Array.replicate N (.int .i64 0)) 2):=⟨_,rfl⟩;have hb4:Bl W3 W4:=by rw[hW4];exact r_.alloc n_ _
    have hB4:=hB3.below hb4;have hx4:=hx3.below hb4;obtain⟨D,hmo,hD⟩:=hB3.glb;have hmo4:W4.ownsMap prog 9 heldV bM k D:=map_tcs hmo (hb4.tcs (S:=λ_=>False)) (λe=>e);have hmk:=mk_i64 N hN4 W3;rw[<-hW4] at hmk;have hnz:t.globals[k].name.size<=maxLen:=HGn.o _ (g_ hlt);obtain⟨w5,hrun,hown5,hgrow5⟩:=hmo4.update (t:=79) (val:=.slice (some ⟨W3.heap.size,0,none⟩) N N) (Maps.string_keyed underlying9) underlying79 hkm (WideMaps.keyOf_string_mk underlying9 hnz) (show heldV _=some _ from rfl);have HJ5:Hid (NwB w t (.slice (some ⟨bg,off,none⟩) t.globals.length cg) (.slice af t.funcs.length cf) (.slice ai ni ci) F (.slice aF nF cF) B0 P bN bM (k+1) (gb++[W3.heap.size]) w5):=by
     exact hB3.moreN HNd.o hlt hN hN4 hW4 hD hown5 hgrow5
    have hS3:W3.cell? ⟨P,4,none⟩=some (.map (some bM))/\W3.cell? ⟨Bg,0,none⟩=some (.string t.globals[k].name)/\W3.cell? ⟨Bg,1,none⟩=some (.int .i64 t.globals[k].size):=⟨(hB3.box 4 _ rfl).1,(hx3 0 _ rfl).1,(hx3 1 _ rfl).1⟩;have hS4:W4.cell? ⟨P,4,none⟩=some (.map (some bM))/\W4.cell? ⟨Bg,0,none⟩=some (.string t.globals[k].name)/\W4.cell? ⟨Bg,1,none⟩=some (.int .i64 t.globals[k].size):=⟨(hB4.box 4 _ rfl).1,(hx4 0 _ rfl).1,(hx4 1 _ rfl).1⟩;generalize t.globals[k].name=gnm at d0 hWg hS3 hS4 hrun;generalize t.globals[k].size=gsz at d1 hWg hS3 hS4 hif;have HS:=hide hS3;have HS4:=hide hS4;have HWg:=hide hWg;have HBg:=hide hBg;have HW3:=hide hW3;clear hB hgc c0 c1 hsz hN hWg hBg hbg hxg hW3 hb3 hB3 hx3 hW4 hb4 hB4 hx4 hmo hD hmo4 hown5 hgrow5 hS3 hS4 hnz;go_upto_region 6 with fail;rw[<-HWg.o,<-HBg.o];refine wp_region_E 8 (λX=>X.cell? ⟨P,4,none⟩=some (.map (some bM))/\X.cell? ⟨Bg,0,none⟩=some (.string gnm)/\X.cell? ⟨Bg,1,none⟩=some (.int .i64 gsz)) k_ ?_;rw[<-HW3.o];refine tk 0 [1,8] HS.o ?_;refine tk 1 [8] HS.o ?_;refine tk 2 [3,8] HS.o ?_;refine tk 3 [8] HS.o ?_;refine tk 4 [5,6,7,8] HS.o ?_;refine tk 5 [6,7,8] HS.o ?_;refine tk 6 [7,8] HS.o ?_;clear HS;refine wpAnyE_one (i:=7) k_ rfl (λK hK => ?_);go_simp;refine hK.out _ _ (λ_=>HS4) ?_;clear hK K;try simp only[Act.put,tA,tB,tC]
    refine wpAnyE_one (i:=8) k_ rfl (λK hK => ?_);go_simp;refine hK.out _ _ (λh=>absurd rfl h) ?_;clear hK K;refine wpAnyE_done k_ ?_ _;go_wp2;go_roundw
    case rel=>exact⟨k+1,gb++[W3.heap.size],by go_num,by have:=HLt.o;omega,HJ5⟩
    case measure=>have:=HLt.o;simp[RowKit.intOf];omega
   ·obtain rfl:k=t.globals.length:=by omega
    have hC0:=nwc_0 (t:=t) hB.box;have x1:=(hB.tre 1 _ rfl).1;have HNB:=hide hB;have HC0:=hide hC0;clear hB hC0;go_wp2;go_loopw [42] (λi w2=>∃(k:Nat) (vB:Value) (S:Nat->Prop),i=.int .i64 (k:Int)/\k<=t.funcs.length/\NwC t (.slice ag t.globals.length cg) (.slice af t.funcs.length cf) (.slice ai ni ci) F (.slice aF nF cF) P bN bM wr k vB S w2) (λi _=>t.funcs.length-(RowKit.intOf i).toNat)
    case atStart=>exact⟨0,_,_,rfl,y_,HC0⟩
    case round=>
     clear HC0 x1;obtain⟨k,vB,S,rfl,hk,hC⟩:=hrel;have hbw:Bl w wr:=hC.tc.below HNB.o.bel HNB.o.bel.size (λb hb=>by have e:b=P:=hb;have:=HNB.o.ne;omega);by_cases hlt:k<t.funcs.length
     ·have hki:(k:Int)<(t.funcs.length:Int):=by omega
      have HLt:=hide hlt;obtain⟨bf,off,rfl,hfc⟩:=HFc.o o_;obtain⟨vp,vb,⟨c0,c1,c2⟩,hps,hbs⟩:=hfc k hlt;have hbfw:bf<w.heap.size:=b_ c0;have d0:=(hbw.cell (p:=⟨bf,_,none⟩) hbfw).trans c0;have d1:=(hbw.cell (p:=⟨bf,_,none⟩) hbfw).trans c1;have d2:=(hbw.cell (p:=⟨bf,_,none⟩) hbfw).trans c2;obtain⟨hb1,hb2,hb3⟩:=HBo.o _ (g_ hlt);obtain⟨ap,cp,hvp,-⟩:=id hps;obtain⟨ab,cb,hvb,-⟩:=id hbs;have hgd:=fun_getD t.funcs k hlt;rw[hvp] at d1;rw[hvb] at d2 hbs;obtain⟨Wf,hWf⟩ : ∃Wf,Wf=wr.alloc (.cells #[.string t.funcs[k].name,.slice ap t.funcs[k].params.length cp,.slice ab t.funcs[k].body.length cb] 97):=⟨_,rfl⟩;obtain⟨Bf,hBf⟩ : ∃Bf,Bf=wr.heap.size:=⟨_,rfl⟩;have hbf:Bl wr Wf:=by rw[hWf];exact r_.alloc n_ _
      have hxf:FrC Wf Bf [.string t.funcs[k].name,.slice ap t.funcs[k].params.length cp,.slice ab t.funcs[k].body.length cb]:=by rw[hWf,hBf];exact box_fr wr _ _ (by show 3<=1000;omega)
      obtain⟨W3,hW3⟩ : ∃W3,W3=Wf.drew:=⟨_,rfl⟩;have hbd:Bl Wf W3:=by rw[hW3];exact r_.drew
      have hx3:=hxf.below hbd;have hBf3:Bf<W3.heap.size:=b_ (hx3 0 _ rfl).1;obtain⟨xs0,-,hrow0,-⟩:=hC.row;have hvN : ∀B,vB.ownBlock=some B->B<Bf:=λB hB=>by have:=(World.ownsRow.lt hrow0 B hB).2;omega
      obtain⟨va0,vc0,hvB,-⟩:=own_shapeU hrow0;have hC3:=(hC.below hbf).below hbd;have hbw3:Bl w W3:=(hbw.trans (hbf.mono hbw.size)).trans (hbd.mono (by have:=hbw.size;have:=hbf.size;omega));have HBk:=hide (blockOf_any t.funcs[k].body (.slice ab t.funcs[k].body.length cb) W3 (HTab.o.below HTab.o.size hbw3) (hbs.below hbw3) hb1 hb2 hb3);have hMs : ∀X,Bl W3 X->True:=λ_ _=>trivial;have HAft:Hid (∀(u:Value) (S':Nat->Prop) (w5:World),Bk w5 S' u t.funcs[k].body->(∀B,S' B->W3.heap.size<=B/\B<w5.heap.size)->Bl W3 w5->_):=λu S' w5 g1 g2 g3=>(hC3.below g3).more (by rw[hgd];exact g1) g2 hC3.tc.size (λB hB=>Nat.lt_trans (hvN B hB) hBf3) o_;have HX3:=hide hx3;have HC3:=hide hC3;have HvN:=hide hvN;have HWf:=hide hWf;have HBf:=hide hBf;have HW3:=hide hW3;rw[hvB] at HAft HC3 HvN;generalize t.funcs[k].body.length=nb at d2 HWf HX3 HBk;generalize t.funcs[k].params.length=np at d1 HWf HX3;generalize t.funcs[k].name=fnm at d0 HWf HX3;have HS:Hid (W3.cell? ⟨P,3,none⟩=some (.slice va0 k vc0)/\W3.cell? ⟨Bf,2,none⟩=some (.slice ab nb cb)):=⟨(HC3.o.box 3 _ rfl).1,(HX3.o 2 _ rfl).1⟩;clear hC hbw c0 c1 c2 hps hbs hfc hb1 hb2 hb3 hvp hvb hgd hWf hBf hbf hxf hW3 hbd hx3 hrow0 hvN hvB hC3 hbw3 hMs;go_upto_region 11 with fail;rw[<-HWf.o,<-HBf.o];refine wp_region_E 8 (λX=>X.cell? ⟨P,3,none⟩=some (.slice va0 k vc0)/\X.cell? ⟨Bf,2,none⟩=some (.slice ab nb cb)) k_ ?_;rw[<-HW3.o];refine tk 0 [1,6,8] HS.o ?_;refine tk 1 [6,8] HS.o ?_;refine tk 2 [3,4,5,6,8] HS.o ?_;refine tk 3 [4,5,6,8] HS.o ?_;clear HS;refine wpAnyE_one (i:=4) k_ rfl (λK hK => ?_);go_simp;refine HBk.o.mono ?_;rintro e w5 ⟨u,S',rfl,g1,g2,g3⟩;obtain⟨xa,xn,xc,va,vc,w6,hu,r6,⟨y3,f3⟩,t6,hC6⟩:=HAft.o u S' w5 g1 g2 g3;subst hu;obtain⟨W5,hW5⟩ : ∃W5,W5=w5.alloc (.cells #[.slice xa xn xc] 118):=⟨_,rfl⟩;have hb5:Bl w5 W5:=by rw[hW5];exact r_.alloc n_ _
      have hx5:=HX3.o.below g3;have hC5:=HC3.o.below g3;have HS5:Hid (w5.cell? ⟨P,3,none⟩=some (.slice va0 k vc0)/\w5.cell? ⟨Bf,2,none⟩=some (.slice ab nb cb)):=⟨(hC5.box 3 _ rfl).1,(hx5 2 _ rfl).1⟩;have HS6:Hid (W5.cell? ⟨P,3,none⟩=some (.slice va0 k vc0)/\W5.cell? ⟨Bf,2,none⟩=some (.slice ab nb cb)):=⟨((hC5.below hb5).box 3 _ rfl).1,((hx5.below hb5) 2 _ rfl).1⟩;have HS7:Hid (w6.cell? ⟨P,3,none⟩=some (.slice va0 k vc0)/\w6.cell? ⟨Bf,2,none⟩=some (.slice ab nb cb)):=⟨y3,(hx5.tcs (l_ hBf3 g3.size) t6 (λe=>absurd (HvN.o Bf e) (Nat.lt_irrefl _)) 2 _ rfl).1⟩;rw[<-hW5] at r6;have Hr6:=hide r6;have HW5:=hide hW5;have HC6:=hide hC6;clear g1 g2 g3 r6 t6 hC6 hW5 hb5 hx5 hC5 HAft HBk HC3 HX3 HvN;refine hK.out _ _ (λ_=>HS5) ?_;clear hK K;try simp only[Act.put,tA,tB,tC]
      refine wpAnyE_one (i:=5) k_ rfl (λK hK => ?_);go_simp;rw[<-HW5.o];refine hK.out _ _ (λ_=>HS6) ?_;clear hK K;try simp only[Act.put,tA,tB,tC]
      refine wpAnyE_one (i:=6) k_ rfl (λK hK => ?_);refine step_appR rfl (.tmp 47) (.tmp 51) 78 rfl (.slice va0 k vc0) (.slice (some ⟨w5.heap.size,0,none⟩) 1 1) (.slice va (k+1) vc) w6 rfl rfl Hr6.o ?_;refine hK.out _ _ (λ_=>HS7) ?_;clear hK K;try simp only[Act.put,tA,tB,tC]
      have HS:=HS7;refine tk 7 [8] HS.o ?_;clear HS;refine wpAnyE_one (i:=8) k_ rfl (λK hK => ?_);go_simp;refine hK.out _ _ (λh=>absurd rfl h) ?_;clear hK K y3 f3;refine wpAnyE_done k_ ?_ _;go_wp2;go_roundw
      case rel=>exact⟨k+1,_,_,by go_num,by have:=HLt.o;omega,HC6⟩
      case measure=>have:=HLt.o;simp[RowKit.intOf];omega
     ·obtain rfl:k=t.funcs.length:=by omega
      have HC:=hide hC;clear hC hbw;go_wp2;go_ret;exact⟨B0,P,bN,bM,gb,_,vB,S,rfl,HNB,HC⟩
def startC (w W:World) (t:Tr) (fr:List Int) (vg vf vFr:Value) (P bN bM bB cB:Nat) (S:Nat->Prop) (gb:List Nat):IC:=⟨w,W,t,fr,vg,vf,vFr,P,bN,bM,bB,cB,S,gb⟩
theorem ev_start {t:Tr} {fr i:List Int} {w Wm W:World} {vg vf vI vFr vB:Value} {F:Int} {B0 P bN bM:Nat} {gb:List Nat} {S:Nat->Prop} (hB:NwB w t vg vf vI F vFr B0 P bN bM t.globals.length gb Wm) (hC:NwC t vg vf vI F vFr P bN bM Wm t.funcs.length vB S W) (hf:Funcs w vf t.funcs) (hfr:InN w vFr fr) (hi:InN w vI i) (snd:(checkE t).1=0) (frl:fr.length=t.funcs.length) (frb : ∀x∈fr,0<=x/\x<=1000000000) (sm:t.globals.length<=1000/\t.funcs.length<=1000) (hne:0<t.funcs.length) (hF:0<=F/\F<=100000) (hiB : ∀x∈i,inB x) :
  ∃bB cB,(startC w W t fr vg vf vFr P bN bM bB cB S gb).Ok/\IS (startC w W t fr vg vf vFr P bN bM bB cB S gb) W none vI (.slice none 0 0) (s00 t i F):=by
 obtain⟨xs,hxl,hrow,hbod⟩:=hC.row;obtain⟨n1,D1,hn1,hn2⟩:=hB.num;obtain⟨D2,hg1,hg2⟩:=hB.glb;obtain⟨e1,e2,e3,e4,e5,e6,e7⟩:=hB.ne;have hrow':=hrow;rcases hrow.2 with ⟨e,hz⟩|⟨bB,cB,cur,e,h3,h4,h5⟩
 ·omega
 have hbB:=World.ownsRow.lt hrow bB (by rw[e];rfl);have sW:=hC.tc.size;have hgb : ∀b∈gb,bM<b/\b<Wm.heap.size:=hB.gr;refine⟨bB,cB,⟨hC.tc.below hB.bel hB.bel.size (λb hb=>by have e:b=P:=hb;show w.heap.size<=b;omega),hf,hfr,snd,frl,frb,hB.gbl,sm,⟨n1,D1,map_tcs hn1 hC.tc (λe=>e4 e),hn2⟩,λf hf' => ?_,⟨_,D2,map_tcs hg1 hC.tc (λe=>by have e':bM=P:=e;omega),?_⟩,λB hS => ?_,λB h => ?_,?_⟩,?_⟩
 ·obtain⟨a,cap,L,g1,g2,g3⟩:=hbod f hf';refine⟨a,cap,L,?_,g2,?_⟩
  ·rw[e] at hrow';have:=World.ownsRow.cells hrow' (g:=bB) rfl f _ g1
   rwa [addrO,Nat.zero_add] at this
  ·rw[<-g3];exact (fun_getD t.funcs f hf').symm
 ·have:=hg2
  rw[List.take_length] at this;exact this
 ·obtain⟨g1,g2,g3⟩:=hC.sS B hS;exact⟨g2,λe=>by have e':B=P:=e;omega,λhm=>by have:=hgb B hm;omega⟩
 ·rcases h with h|h|h
  ·have e':B=bN:=h;exact⟨by show B<W.heap.size;omega,λe=>e4 (e'.symm.trans e),λhm=>by have:=hgb B hm;omega⟩
  ·have e':B=bM:=h;exact⟨by show B<W.heap.size;omega,λe=>by have e2:B=P:=e;omega,λhm=>by have:=hgb B hm;omega⟩
  ·have e':B=bB:=h;exact⟨by show B<W.heap.size;omega,λe=>by have e2:B=P:=e;omega,λhm=>by have:=hgb B hm;omega⟩
 ·exact⟨λhm=>by have:=hgb P hm;omega,hB.nd,by show w.heap.size<=P;omega,by show P<W.heap.size;omega,λb hb=>⟨by show w.heap.size<=b;have:=hgb b hb;omega,by show b<W.heap.size;have:=hgb b hb;omega⟩⟩
 ·have hFn:((F.toNat:Nat):Int)=F:=Int.toNat_of_nonneg hF.1;have hlen:gb.length=t.globals.length:=hB.gbl;refine⟨Tcs.refl _ _,?_,by show (t.globals.map gw0).length=gb.length;simp[hlen],λk hk => ?_,λk hk hk' => ?_,.inl ⟨rfl,rfl⟩,hi,World.ownsRow_nil _ _ _ _,⟨λws hws x hx => ?_,λx hx=>(by cases hx),hiB⟩,⟨?_,?_⟩,?_⟩
  ·have:=hC.box
   rw[e] at this;show FrC W P _;simp only[s00,startC,hFn];exact this
  ·have hk':k<t.globals.length:=by have h1:k<gb.length:=hk;omega
   have e1:((s00 t i F).g.getD k [])=gw0 t.globals[k]:=by simp[s00,List.getD,hk']
   rw[e1,gw0_map];have hr:=hgb gb[k] (g_ hk);exact (hB.gw k hk hk').tcs hr.2 hC.tc (λe=>by have e':gb[k]=P:=e;omega)
  ·have e1:(s00 t i F).g[k]=gw0 (t.globals[k]'hk'):=List.getElem_map ..;show ((s00 t i F).g[k]).length=gln (t.globals[k]'hk');rw[e1];exact gw0_len _
  ·have h1:ws∈t.globals.map gw0:=hws;obtain⟨g,-,rfl⟩:=List.mem_map.1 h1;have:=List.eq_of_mem_replicate hx
   rw[this];exact inB0
  ·show F.toNat<=100000;omega
  ·show 0+F.toNat<=100000;omega
  ·show (0:Int)<=0/\(0:Int)+1000000000*(F.toNat:Int)<=100001000000000/\(0:Int)<=0/\(0:Int)<=100001000000000;omega
section
variable {n:Nat} {r:ER} {s':ES}
theorem arI_nil (C:IC) (w:World) (vO:Value):ArI C w vO (.slice none 0 0) []:=⟨none,0,rfl,n_,by omega,λh=>absurd h (by simp)⟩
theorem main_call {C:IC} (hC:C.Ok) {i:List Int} {F:Int} (hF:0<=F/\F<=100000) {W:World} {vI:Value} (h:IS C W none vI (.slice none 0 0) (s00 C.t i F)) {m:Nat} (hE:Ev C.t C.fr n (.c m []) (s00 C.t i F) r s') (hm : ∀hf:m<C.t.funcs.length,C.t.funcs[m].params = []) :
  Calls prog 39 #[.pointer (some ⟨C.P,0,none⟩),.int .i64 (m:Int),.slice none 0 0] W λx w'=>ExQ C W none (.slice none 0 0) r s' x w':=by
 refine (all_im hC n).2.1 m [] _ r s' hE (λhf=>by rw[hm hf];rfl) (λx hx=>(by cases hx)) ?_ W none vI _ _ h (arI_nil C W _);have:((s00 C.t i F).u:Int)=F:=Int.toNat_of_nonneg hF.1
 show (0:Int)+1000000000*(((s00 C.t i F).u:Int)+1)<=100001000000000;rw[this];omega
theorem stOf_end {t:Tr} {fr:List Int} {k:Tk} {s:ES} (h:Ev t fr n k s r s') (hk : ∀v,r ≠ .ret v):stOf (endR r)=stE r:=by
 cases r using ER.cs with
 | val v=>rfl
 | on=>rfl
 | ret v=>exact absurd rfl (hk v)
 | out c=>rcases h.outc c rfl with e|e <;> (subst e;rfl)
end
end Go.Proofs.YtffnkkpmlplfeaaGreatDoor
