import Derived.Shelf.SlMaps.Clone
import Derived.Test.YtjfmapphpijneaaGreatDoorS55
import Derived.Test.YtjfmapphpijneaaGreatDoorS45
namespace Go.Proofs.YtjfmapphpijneaaGreatDoor
set_option linter.all false
set_option maxRecDepth 100000
set_option maxHeartbeats 0
open Go.Value Go.World List Go.Proofs.Tryz Go.RowKit
variable[Inhabited Pick]
def AO{E:nQ}{w:AT}{v:BY}{I:Nat}{i:Nat}(h:Cs E w [] [] v I [] (i:Int) (-1))(Xc:E.gf=dz E.t.gl)(Ju:E.gp=λs=>decide (0<=globI E.t.gl s))(hp:∀g∈E.t.gl,0<=g.size)(Yc:E.t.fc.length<=1048576)
  (f:Fu) (vp vb:BY) (Yb:be E.w0 vp f.pm) (Jv:Bd E vb f.bd) (Xd:∀s∈f.pm,s.size<=9223372036854775807) (Yi:f.pm.length<=1000) (Yh:f.bd.length<=1000):
  Calls prog 89 #[pV E.C,.agg #[sV f.nm,vp,vb]] w λe w'=>e=rW (fR (du E.t i f).1 (i:Int) (du E.t i f).2.2) /\
   (∃v' tk' st',Cs E w' [] [] v' I tk' (i:Int) st'/\(∀k,v'.ownBlock=some k->v.ownBlock=some k\/w.heap.size<=k))/\aj (Sb E v I) w w':=by
 have⟨Xv,Xu,Xq⟩:=h3 h Xc Ju;have Jx:Hid (∀s,(E.gp s=true)=(0<=globI E.t.gl s)):=λs=>by rw[Ju];simp
 have⟨HP,Xz,Xn⟩:=h3 hp Jv Xd;have⟨Jf,Jb⟩:=q_ (du E.t i f);rw[<-Jb];have Je:=ah Jb;obtain⟨Z,cb,rfl,-⟩:=Jv.st;obtain⟨ap,cp,rfl,-,-,J_⟩:=Yb;have Xp:=ah J_;have⟨W0,Jg⟩:=q_ (w.alloc (.cells #[sV f.nm,.slice ap f.pm.length cp,.slice Z f.bd.length cb] 52));have⟨M,hM⟩:=q_ w.heap.size;have hA:Bl w W0:=by rw[Jg];exact r_.alloc n_ _
 have Xa:Hid (Cs E W0 [] [] v I [] (i:Int) (-1)):=h.below hA;have m1:W0.cell? ⟨M,1,none⟩=some (.slice ap f.pm.length cp):=by rw[Jg,hM];simp
 have m2:W0.cell? ⟨M,2,none⟩=some (.slice Z f.bd.length cb):=by rw[Jg,hM];simp
 have Jp:M<W0.heap.size:=by rw[Jg,hM];simp
 have Xb:Hid (¬Sb E v I M):=by
  show ¬_;rintro(q|q|q)
  have:=h.ltC;omega
  have:=h.lt I i_;omega
  have:=(h.rlt _ q).2;omega
 have Xt:M≠I:=Ka (h.lt I i_);have Jy:Hid (aj (Sb E v I) w W0):=hA.tcs;have Yf:w.heap.size<=W0.heap.size:=hA.size;clear h Jv Xc Ju hp Jb J_ Xd hA Xv;go_enter_defers func89,ntmps89;go_wp2_with fail;rw[<-Jg,<-hM];refine(CZ Xa i_).mono ?_;rintro e w1 ⟨⟨u,rfl⟩,U,Jt,Jh,Jz⟩;have⟨b,hb⟩:=q_ W0.heap.size;rw[<-hb]at Jt;have Xi:=ah Jt;have Xs:Hid (aj (Sb E v I) w w1):=Jy.o.next Jh (λx hx=>.inl hx);have Jm:Hid (∀k,U.ownBlock=some k->v.ownBlock=some k\/w.heap.size<=k):=λk J=>by rcases Jz k J with q|q;exact .inl q;exact .inr o_
 have n1:w1.cell? ⟨M,1,none⟩=some (.slice ap f.pm.length cp):=(Jh.cell Jp Xb 1).trans m1;have n2:w1.cell? ⟨M,2,none⟩=some (.slice Z f.bd.length cb):=(Jh.cell Jp Xb 2).trans m2;have Ji:M<w1.heap.size:=l_ Jp Jh.size;have Xh:M≠b:=o_;have Yd:w.heap.size<=b:=o_;clear Jt Jh Jz m1 m2 hM Jy Xa hb;go_wp2;go_loopw[18] (λj wr=>∃(k:Nat),k<=f.pm.length/\j=V k/\Cs E wr ([]++[f.pm.take k]) ([]++[b]) U I (f.pm.take k) (i:Int) (-1)/\fY E.t.gl [] f.pm=fY E.t.gl (f.pm.take k) (f.pm.drop k)/\wr.cell? ⟨M,2,none⟩=some (.slice Z f.bd.length cb)/\M<wr.heap.size/\aj (Sb E v I) w wr) (λj _=>f.pm.length-(RowKit.intOf j).toNat)
 case atStart=>exact⟨0,y_,rfl,IN Xi.o,i_,n2,Ji,Xs.o⟩
 case round=>
  obtain⟨k,J,rfl,hc,hd,n2,Ji,ht⟩:=hrel;have⟨HC,HD,HT⟩:=h3 hc hd ht;clear hd ht;by_cases hlt:k<f.pm.length
  ·obtain⟨bp,op,rfl,Jw⟩:=Xp o_;have d0:=(hc.base.cell (p:=⟨bp,op+k,none⟩) (b_ (Jw k hlt))).trans (Jw k hlt);have hZ:f.pm[k].size<=maxLen:=(by have:=Xn.o _ (g_ hlt);unfold maxLen;omega);have Jl:Hid (fY E.t.gl [] f.pm=fY E.t.gl (f.pm.take k) (f.pm[k]::f.pm.drop (k+1))):=(by show _=_;rw[HD.o,eh _ _ hlt]);have Jo:=ah (aU _ _ hlt);have Yg:(f.pm.take k).length<=1000:=H6;generalize f.pm[k]=p at d0 hZ Jl Jo;by_cases hx:dF (f.pm.take k) p=true\/0<=globI E.t.gl p
   ·have HE:Hid (Jf=(2,(i:Int),-1)):=by show _=_;rw[Je.o];unfold du;rw[if_pos (by rw[Jl.o];exact oH hx)]
    have HX:Hid (dF (f.pm.take k) p=true\/E.gp p=true):=by show _\/_;rw[Jx.o];exact hx
    clear hx;go_wp2_with fail;refine(nU HC hZ HX).mono ?_;rintro e w2 ⟨rfl,hw⟩;rw[hw,cE d_];go_wp2_with fail;refine leaves_cons (f:=115) (args:=#[pV E.C]) i_ (by simp[go_sem]) ?_;refine(kC HC .returning).mono ?_;rintro e u' Xr ⟨rfl,⟨u2,rfl⟩,v2,Jc,Ja,Jj⟩;exact⟨_,results_tmp rfl _ _ _,aD (by rw[HE.o];rfl),⟨v2,_,_,Jc,λk J=>Jm k (Jj ▸ J)⟩,HT.o.trans (Ja.mono (λk h=>.inl h))⟩
   have HX:Hid (¬(dF (f.pm.take k) p=true\/E.gp p=true)):=by show ¬(_\/_);rw[Jx.o];exact hx
   have Xm:Hid (fY E.t.gl [] f.pm=fY E.t.gl (f.pm.take (k+1)) (f.pm.drop (k+1))):=(by show _=_;rw[Jl.o,qL hx,Jo.o]);clear hx;go_wp2_with fail;refine(nW HC hZ o_ HX).mono ?_;rintro e w2 ⟨rfl,Jc,Ja⟩;have Jq:Hid (Cs E w2 ([]++[f.pm.take k]) ([]++[b]) U I (f.pm.take k++[p]) (i:Int) (-1)):=Jc;have x2:w2.cell? ⟨M,2,none⟩=some (.slice Z f.bd.length cb):=(Ja.cell Ji Xt 2).trans n2;have Js:M<w2.heap.size:=l_ Ji Ja.size;have Jn:Hid (aj (Sb E v I) w w2):=HT.o.trans (Ja.mono (λk h=>.inr (.inl h)));go_wp2_with fail;refine(I_ Jq hZ o_).mono ?_;rintro e w3 ⟨⟨u3,rfl⟩,Jk,Jd⟩;have Xl:Hid (Cs E w3 ([]++[f.pm.take (k+1)]) ([]++[b]) U I (f.pm.take (k+1)) (i:Int) (-1)):=by
    have:=Jk
    rw[<-Jo.o]at this;exact this
   have x3:w3.cell? ⟨M,2,none⟩=some (.slice Z f.bd.length cb):=(Jd.cell Js Xh 2).trans x2;have Xj:M<w3.heap.size:=l_ Js Jd.size;have Ya:Hid (aj (Sb E v I) w w3):=Jn.o.next Jd (λx hx=>.inr o_);clear Jk Jd x2 Js;go_wp2;go_roundw
   case rel=>exact⟨k+1,o_,by go_num,Xl,Xm,x3,Xj,Ya⟩
   case measure=>exact IF
  have Xe:k=f.pm.length:=o_;subst Xe;have Xf:Hid (fY E.t.gl [] f.pm=false):=(by show _=_;rw[HD.o];simp[BW]);have Xx:Hid (Cs E wr [f.pm] [b] U I f.pm (i:Int) (-1)):=by
   have:=HC.o
   rw[take_length]at this;exact this
  have X_:Hid ([f.pm].flatten=f.pm):=(by show _=_;simp);go_wp2_with fail;refine(Hh _ E wr [f.pm] [b] U I f.pm (i:Int) (-1) f.bd _ 0 n_ Xx Xz Xu Xq HP Yc H6 o_ o_ o_).mono ?_;rintro e w2 ⟨rfl,⟨v2,Xy,Xo,Jc,Xg,Jj⟩,Ja⟩;rw[X_.o];have Jq:Hid (Cs E w2 ([]++[f.pm]) ([]++[b]) v2 I Xy (i:Int) Xo):=Jc;have Jn:Hid (aj (Sb E v I) w w2):=HT.o.next Ja (nX Jm);have Ye:=HT.o.size;have Xk:Hid (∀k,v2.ownBlock=some k->v.ownBlock=some k\/w.heap.size<=k):=λk J=>by rcases Jj k J with q|q;exact Jm k q;exact .inr o_
  have HE:Hid (fR (aL E.t f.bd 0 f.pm f.pm).1 (i:Int) (aL E.t f.bd 0 f.pm f.pm).2.1=fR Jf.1 (i:Int) Jf.2.2):=by show _=_;rw[Je.o];unfold du;rw[if_neg (by rw[Xf.o];simp)];by_cases q:(aL E.t f.bd 0 f.pm f.pm).1=0;rw[if_neg (by simp[q]),q];rfl;rw[if_pos q]
  rw[HE.o];have⟨ev,Jr⟩:=q_ (fR Jf.1 (i:Int) Jf.2.2);rw[<-Jr];have HV:=ah Jr;clear Jc Xg Jj Ja n2 Jr;go_wp2_with fail;refine leaves_cons (f:=115) (args:=#[pV E.C]) i_ (by simp[go_sem]) ?_;refine(kC Jq .returning).mono ?_;rintro e u' Xr ⟨rfl,⟨u2,rfl⟩,v3,Jk,Jd,Xw⟩;exact⟨_,results_tmp rfl _ _ _,aD (by rw[<-HV.o];rfl),⟨v3,_,_,Jk,λk J=>Xk k (Xw ▸ J)⟩,Jn.o.trans (Jd.mono (λk h=>.inl h))⟩
section
variable{E:nQ}{w:AT}{v:BY}{bt:Nat}{tk:List Io}{fn st:Int}
def AP(b:Nat)(I:Array MapEntry)(Ja:Nat)(w:AT)(J:w.heap[b]? =some (.map I Ja)):
  Calls prog 88 #[.map (some b)] w λe w'=>e=rW (.map (some w.heap.size))/\w'=w.alloc (.map I Ja):=by
 have Z:=λw=>run_eql_map_nil_sl (P:=prog) w 67 _ _ (some b) underlying67;have U:= @run_callFunc_extern prog 114 _ Extern.MapsClone.clone func114 k_ k_ k_ k_;have Jb:=run_maps_clone_sl (P:=prog) w 67 J;have Jc:=λ(w:AT) (v:BY)=>run_typeAssert_map_sl (P:=prog) w 67 20 _ _ v underlying67;go_in;go_wp2;go_ret;exact⟨rfl,rfl⟩
def xC{gs:List Gl}(I:∀g∈gs,0<=g.size)(s:Io):(dz gs s).isSome=decide (0<=globI gs s):=by rcases yG (s:=s) I with⟨h,h2⟩|⟨z,h,h2,h3⟩;rw[h,h2];rfl;rw[h,h2];simp[h3]
def Cs.fresh{g':Io->Bool}{J:Array MapEntry}{Ja:Nat}(h:Cs {E with gp:=g'} w [] [] v bt tk fn st)(Jj:w.heap[E.bg]? =some (.map J Ja))(Jp:E.ng<=1000)(Jk:E.gf=dz E.t.gl)(Jl:E.gp=λs=>decide (0<=globI E.t.gl s))(hp:∀g∈E.t.gl,0<=g.size):
  Cs E ((w.alloc (.map J Ja)).setCell ⟨E.C,4,none⟩ (.map (some w.heap.size))) [] [] v w.heap.size [] fn st:=by
 have I:=h.below ((Below.refl w.heap.size w).alloc n_ (.map J Ja));have⟨ng,Dg,g0,g1,g2⟩:=h.glob;have Jm:ng<=E.ng:=g0;obtain⟨Jg,Jb,e1,F,hs,hD⟩:=g1;have e2:some (Obj.map J Ja)=some (.map Jg Jb):=Jj.symm.trans e1;simp only[J0,Obj.map.injEq]at e2;obtain⟨rfl,rfl⟩:=e2;have hC:=h.ltC;have hm:∀b,E.C<b->((w.alloc (.map J Ja)).setCell ⟨E.C,4,none⟩ (.map (some w.heap.size))).heap[b]? =(w.alloc (.map J Ja)).heap[b]? := λb U=>Below.heap_setCell _ _ _ b (λe=>by simp at e;omega);have Jd:((w.alloc (.map J Ja)).setCell ⟨E.C,4,none⟩ (.map (some w.heap.size))).ownsMap prog 9 (plainElem (H:=Unit) prog 2) w.heap.size ng Dg:=⟨J,Ja,(hm _ hC).trans (show(w.heap.push _)[w.heap.size]? =_ by simp),F,hs,hD⟩;have Jf:=I.nd;have Jc:=I.gt;have Je:=h.lt;simp only[nodup_cons,mem_cons,not_or,not_mem_nil,not_false_eq_true,and_true]at Jf;have⟨Jh,Ji,k0,k1,k2⟩:=I.glob;refine⟨I.box.s4 _,I.low,I.base.setCell (p:=⟨E.C,4,none⟩) I.low _,I.fun0,I.row.other (Nat.lt_succ_self _),rfl,I.small,⟨Jh,Ji,k0,aR k1 (hm _ (Jc _ i_)),k2⟩,λj hj=>absurd hj i_,aR I.own (hm _ (Jc _ i_)),I.num,⟨ng,Dg,_,by simp only[l_n];omega,Jd,g2,λs=>?_⟩,?_,?_,?_⟩
 rw[Jl];show(E.gf s).isSome=_;rw[Jk,xC hp];simp[dF];have l1:=Je E.bg i_;have l2:=Je E.bn i_;simp only[nodup_cons,mem_cons,not_or,not_mem_nil,not_false_eq_true,and_true];have Jn:E.bg<w.heap.size:=l1;have Jo:E.bn<w.heap.size:=l2;refine⟨⟨Jf.1.1,o_⟩,o_,?_⟩;simp;intro b U;simp only[mem_cons,not_mem_nil,or_false]at U;rcases U with rfl|rfl|rfl;exact Jc _ i_;exact Jc _ i_;exact hC;intro x Z U;simp only[mem_cons,not_mem_nil,or_false]at U;have l:=(h.rlt x Z).2;rcases U with rfl|rfl|rfl;exact h.rown _ Z i_;exact h.rown _ Z i_;omega
def xD{g0:Io->Bool}(h:Cs {E with gp:=g0} w [] [] v bt tk fn st)(Xn:E.ng<=1000)(Xf:E.gf=dz E.t.gl)(Xg:E.gp=λs=>decide (0<=globI E.t.gl s))(hp:∀g∈E.t.gl,0<=g.size)(Xu:E.t.fc.length<=1000)(Xe:∀f∈E.t.fc,EG f):
  Calls prog 62 #[pV E.C] w λe w'=>e=rW (fR (bodiesE E.t 0 E.t.fc).1 (bodiesE E.t 0 E.t.fc).2.1 (bodiesE E.t 0 E.t.fc).2.2) /\
   ∃g' v' bt' tk' fn' st',Cs {E with gp:=g'} w' [] [] v' bt' tk' fn' st'/\((bodiesE E.t 0 E.t.fc).1=0->fn'= -1/\st'= -1):=by
 have Jq:=ah h;have Xb:=ah Xf;have Jz:=ah Xg;have HP:=ah hp;have Xi:=ah Xe;have⟨Ji,Je⟩:=q_ (bodiesE E.t 0 E.t.fc);rw[<-Je];have Ja:=ah Je;obtain⟨g,Xs,rfl,hg,h1,h2,h3,-⟩:=ko.cut (bs:=[]) h.row;have c0:=h.box.c0;have c2:=h.box.c2;have hC:=h.ltC;have Xc:=h.fun0.1;simp only at c0 c2 Xc;obtain⟨af,cf,Jo,-,-,Jf⟩:=Xc;rw[Jo]at c2;have Xm:=ah Jf;clear h Xf Xg hp Xe Je Jf Jo;simp only[l_n,Nat.zero_add]at c0 h1 h3;go_in;go_wp2;go_loopw[20] (λj wr=>∃(k:Nat) (g':Io->Bool) (v':BY) (bt':Nat) (tk':List Io) (fn' st':Int),k<=E.t.fc.length/\j=V k/\Cs {E with gp:=g'} wr [] [] v' bt' tk' fn' st'/\Ji=bodiesE E.t k (E.t.fc.drop k)) (λj _=>E.t.fc.length-(RowKit.intOf j).toNat)
 case atStart=>exact⟨0,g0,_,bt,tk,fn,st,y_,rfl,Jq,Ja⟩
 case round=>
  clear Jq c0 c2 h3 hC Ja;obtain⟨k,g1,v1,Xd,Jn,Xq,Xo,hk,rfl,I,Jj⟩:=hrel;have HC:=ah I;have Ja:=ah Jj;have y4:=I.box.c4;have y5:=I.box.c5;have y6:=I.box.c6;have f4:=I.box.fz 4;have f5:=I.box.fz 5;have f6:=I.box.fz 6;have hC:=I.ltC;simp only at y4 y5 y6 f4 f5 f6 hC;clear Jj;by_cases hlt:k<E.t.fc.length
  ·obtain⟨bf,of,rfl,Jf⟩:=Xm o_;have⟨vp,vb,⟨d0,d1,d2⟩,Jx,Jm⟩:=Jf k hlt;have Jh:bf<E.w0.heap.size:=b_ d0;have e0:=(I.base.cell (p:=⟨bf,of+k*3,none⟩) Jh).trans d0;have e1:=(I.base.cell (p:=⟨bf,of+k*3+1,none⟩) Jh).trans d1;have e2:=(I.base.cell (p:=⟨bf,of+k*3+2,none⟩) Jh).trans d2;have Xr:bf<E.C:=l_ Jh I.low;have Jv:=ah Jx;have Jl:=ah Jm;have Js:Hid (EG E.t.fc[k]):=Xi _ (g_ hlt);have Jk:Hid (Ji=bodiesE E.t k (E.t.fc[k]::E.t.fc.drop (k+1))):=(by show _=_;rw[Ja.o,eh _ _ hlt]);obtain⟨ap,cp,rfl,-⟩:=Jx;obtain⟨ab,cb,rfl,-⟩:=Jm;obtain⟨ng,Dg,-,⟨es,Jp,J_,-⟩,-⟩:=I.glob;simp only at J_;clear Jf d0 d1 d2 I Ja Jh;generalize E.t.fc[k]=f at e0 e1 e2 Jv Jl Js Jk;go_wp2_with fail;have⟨J,Jd⟩:=q_ ((((wr.setCell ⟨E.C,5,none⟩ (V (k:Int))).setCell ⟨E.C,6,none⟩ (V (-1))).alloc (.cells #[sV f.nm,.slice ap f.pm.length cp,.slice ab f.bd.length cb] 52)));have⟨M,Z⟩:=q_ wr.heap.size;have Jg:Hid (Cs {E with gp:=g1} J [] [] v1 Xd Jn (k:Int) (-1)):=by show Cs _ _ _ _ _ _ _ _ _;rw[Jd];exact((HC.o.put 5 _ (HC.o.box.s5 (k:Int))).put 6 _ ((HC.o.box.s5 (k:Int)).s6 (-1))).below (ao _ _)
   have z4:=Jg.o.box.c4;have zf:=Jg.o.box.fz 4;have Jw:=Jg.o.ltC;simp only at z4 zf Jw;have Xp:M<J.heap.size:=(by rw[Jd,Z];simp);have m0:DO J M 0 (sV f.nm):=(by rw[Jd];exact(cell?_alloc_at _ _ _ _ (by simp[Z])).trans rfl);have m1:DO J M 1 (.slice ap f.pm.length cp):=(by rw[Jd];exact(cell?_alloc_at _ _ _ _ (by simp[Z])).trans rfl);have m2:DO J M 2 (.slice ab f.bd.length cb):=(by rw[Jd];exact(cell?_alloc_at _ _ _ _ (by simp[Z])).trans rfl);have Xt:M≠E.C:=o_;obtain⟨ng,Dg,-,⟨Jr,Jb,Jc,-⟩,-⟩:=Jg.o.glob;simp only at Jc;rw[<-Jd,<-Z];clear Jd Z y4 y5 y6 f4 f5 f6 e0 e1 e2 J_;refine(AP E.bg Jr Jb J Jc).mono ?_;rintro e w2 ⟨rfl,hw⟩;rw[hw];clear hw;have Xl:=ah Jc;clear Jc;go_wp2_with fail;have Xj:Hid (Cs E ((J.setCell ⟨E.C,4,none⟩ (.map (some J.heap.size))).alloc (.map Jr Jb)) [] [] v1 J.heap.size [] (k:Int) (-1)):=by
    have:=Cs.fresh Jg.o Xl.o Xn Xb.o Jz.o HP.o
    rw[setCell_alloc_past _ _ _ _ Jw]at this;exact this
   obtain⟨k1,k2,k3,k4,k5,k6⟩:=Js;refine(AO Xj Xb Jz HP o_ f _ _ Jv ⟨Jl,k1,k2,k3⟩ k4 k5 k6).mono ?_;rintro e w3 ⟨rfl,⟨v3,Xa,Jt,Jy,-⟩,-⟩;have Ju:=ah Jy;clear Jy k1 k2 k3 k4 k5 k6 z4 zf m0 m1 m2;by_cases hz:(du E.t k f).1=0
   ·have U:Hid (Ji=bodiesE E.t (k+1) (E.t.fc.drop (k+1))):=by show _=_;rw[Jk.o,bodiesE,if_neg (by simp[hz])]
    rw[hz,dX];clear hz;go_wp2;go_roundw
    case rel=>exact⟨k+1,E.gp,v3,_,Xa,(k:Int),Jt,o_,by go_num,Ju,U⟩
    case measure=>exact IF
   have U:Hid (Ji=((du E.t k f).1,(k:Int),(du E.t k f).2.2)):=by show _=_;rw[Jk.o,bodiesE,if_pos hz];unfold du at hz⊢;split;rfl;rename_i hd;rw[if_neg hd]at hz;split;rfl;rename_i hd2;rw[if_neg hd2]at hz;simp at hz
   have HZ:=ah hz;rw[cE hz];generalize (du E.t k f).1=z1 at U HZ⊢;generalize (du E.t k f).2.2=z2 at U⊢;clear hz;go_wp2;go_ret;exact⟨aD (by rw[U.o,cE HZ.o];rfl),E.gp,v3,_,Xa,_,Jt,Ju,λh=>absurd h (by rw[U.o];exact HZ)⟩
  have U:Hid (Ji=(0,-1,-1)):=by show _=_;have Xh:k=E.t.fc.length:=o_;rw[Ja.o,Xh,drop_length];rfl
  have Xk:=ah ((HC.o.put 5 _ (HC.o.box.s5 (-1))).put 6 _ ((HC.o.box.s5 (-1)).s6 (-1)));clear I Ja;go_wp2;go_ret;exact⟨aD (by rw[U.o];rfl),g1,v1,Xd,Jn,-1,-1,Xk,λ_=>⟨rfl,rfl⟩⟩
end
section
variable{w:AT}
theorem xE{l:List Gl}{g:Gl}(h:dF (l.map (·.nm)) g.nm=false):mW (dz l) g.nm g.size=dz (l++[g]):=by
 funext s
 unfold mW dz;rw[find?_append];by_cases e:g.nm=s;have h2:l.find? (λx=>decide (x.nm=s))=none:=by
  rw[find?_eq_none];intro x I;simp only[J2];intro J;have h3:dF (l.map (·.nm)) g.nm=true:=by unfold dF;rw[any_eq_true];exact⟨x.nm,mem_map_of_mem I,by simp[J,e]⟩
  rw[h]at h3;cases h3
 rw[h2];simp[e];simp only[e,if_false];cases hf:l.find? (λx=>decide (x.nm=s))with
 | none=>simp[e]
 | some x=>simp
structure JH (w0:AT) (C bn nn:Nat) (D:DataW Unit) (t:Tr) (vg vf:BY) (w:AT):Prop where
 c0:w.cell? ⟨C,0,none⟩=some nV
 c1:w.cell? ⟨C,1,none⟩=some vg
 c2:w.cell? ⟨C,2,none⟩=some vf
 c3:w.cell? ⟨C,3,none⟩=some (.map (some bn))
 c4:∃x,w.cell? ⟨C,4,none⟩=some x
 c5:w.cell? ⟨C,5,none⟩=some (V (-1))
 c6:w.cell? ⟨C,6,none⟩=some (V (-1))
 fz:∀o,w.frozen? ⟨C,o,none⟩=false
 low:w0.heap.size<=C
 base:Bl w0 w
 fun0:bj w0 vf t.fc/\cD w0 vg t.gl
 own:w.ownsMap prog 9 (plainElem (H:=Unit) prog 2) bn nn D
 num:dj D t.fc
 gt:C<bn
def C0{w0:AT}{C bn nn:Nat}{D:DataW Unit}{t:Tr}{vg vf:BY}(h:JH w0 C bn nn D t vg vf w):
  Calls prog 85 #[pV C] ((w.setCell ⟨C,4,none⟩ (.map (some w.heap.size))).alloc (.map #[] 0)) λe w'=>(∃u,e=rW u)/\∃v,
   Cs ⟨w0,C,w.heap.size+1,bn,nn,D,t,vg,vf,λ_=>none,λ_=>false,0⟩ w' [] [] v w.heap.size [] (-1) (-1):=by
 have hC:C<w.heap.size:=b_ h.c0;have⟨x4,Jj⟩:=h.c4;have⟨W,J⟩:=q_ ((w.setCell ⟨C,4,none⟩ (.map (some w.heap.size))).alloc (.map #[] 0));have hs:W.heap.size=w.heap.size+1:=by rw[J];simp
 have Ja:∀o,o≠4->W.cell? ⟨C,o,none⟩=w.cell? ⟨C,o,none⟩:=λo Z=>by rw[J,cell?_alloc_lt _ _ ⟨C,o,none⟩ (IN hC)];exact s_ _ _ _ _ (bV (λe=>Z e.symm))
 have h4:W.cell? ⟨C,4,none⟩=some (.map (some w.heap.size)):=by rw[J,cell?_alloc_lt _ _ ⟨C,4,none⟩ (IN hC)];exact cell?_setCell_same _ _ _ Jj
 have Jh:∀o,W.frozen? ⟨C,o,none⟩=false:=λo=>by rw[J,frozen?_alloc_past _ _ _ (IN hC)];simpa using h.fz o
 have Jg:∀b,b<w.heap.size->b≠C->W.heap[b]? =w.heap[b]? := λb I hne=>by rw[J,Below.heap_alloc _ _ _ (IN I),Below.heap_setCell _ _ _ b hne]
 have Jc:Bl w0 W:=by rw[J];exact(h.base.setCell (p:=⟨C,4,none⟩) h.low _).alloc (by have:=h.base.size;simpa using this) _
 have Ji:W.ownsMap prog 9 (plainElem (H:=Unit) prog 2) w.heap.size 0 (.map []):=by
  have:=ownsMap_made (H:=Unit) (w.setCell ⟨C,4,none⟩ (.map (some w.heap.size))) prog 9 (plainElem (H:=Unit) prog 2)
  rw[<-J]at this;simpa using this
 have Jd:W.ownsMap prog 9 (plainElem (H:=Unit) prog 2) bn nn D:=aR h.own (Jg _ h.own.lt (Ka h.gt));rw[<-J];have Jf:ko (C+1) W nV []:=⟨i_,.inl ⟨rfl,rfl⟩⟩;refine(uq C (C+1) [] nV W o_ o_ ((Ja 0 d_).trans h.c0) (Jh 0) Jf i_).mono ?_;rintro e w' ⟨he,U,w1,rfl,hr,hm,hg,Z⟩;rw[hs]at hm hr Z;have Jb:∀b,b<W.heap.size->b≠C->(w1.setCell ⟨C,0,none⟩ U).heap[b]? =W.heap[b]? := λb I hne=>(Below.heap_setCell _ _ _ b hne).trans (hg.block b I (by simp[ownBlock]));have Jk:w1.heap[C]? =W.heap[C]? := hg.block C o_ (by simp[ownBlock]);have Je:jw W C nV vg vf bn w.heap.size (-1) (-1):=⟨(Ja 0 d_).trans h.c0,(Ja 1 d_).trans h.c1,(Ja 2 d_).trans h.c2,(Ja 3 d_).trans h.c3,h4,(Ja 5 d_).trans h.c5,(Ja 6 d_).trans h.c6,Jh⟩;have Jm:=h.own.lt;have Jl:=h.gt;refine⟨he,U,(Je.keep Jk).s0 U,h.low,(Jc.grown hg Jc.size (λk hk=>by simp[ownBlock]at hk)).setCell (p:=⟨C,0,none⟩) h.low U,h.fun0,hr,rfl,i_,⟨0,_,n_,hm,dZ.nil⟩,λj hj=>absurd hj i_,aR Jd (Jb _ (by show bn<_;omega) (by show bn≠C;omega)),h.num,⟨0,_,_,i_,aR Ji (Jb _ o_ o_),dZ.nil,λs=>by simp[dF]⟩,?_,?_,?_⟩
 simp only[nodup_cons,mem_cons,not_or,not_mem_nil,not_false_eq_true,and_true];refine⟨⟨o_,o_⟩,o_,?_⟩;simp;intro b I;simp only[mem_cons,not_mem_nil,or_false]at I;show C<b;rcases I with rfl|rfl|rfl <;> omega
 intro x hx I;simp only[mem_cons,not_mem_nil,or_false]at I;rcases Z x hx with q|q;simp[ownBlock]at q;rcases I with rfl|rfl|rfl <;> omega
def nQ.same(E:nQ){f:Io->Option Int}{n:Nat}(h:f=E.gf)(h2:n=E.ng):{E with gf:=f,ng:=n}=E:=by subst h h2;rfl
def I1{M:Nat}{w':AT}{t:JZ}{h I:BY}(U:M=w.heap.size)(J:w'=w.alloc (.cells #[h,I] t)):w'.cell? ⟨M,0,none⟩=some h/\w'.cell? ⟨M,1,none⟩=some I:=by subst U J;simp
theorem JI{E:nQ}(h:JH E.w0 E.C E.bn E.nn E.D E.t E.vg E.vf w)(Xm:E.bg=w.heap.size+1)(Jz:E.gf=λ_=>none)(J_:E.gp=λ_=>false)(Jy:E.ng=0)
  (Yc:E.t.gl.length<=1000) (Yf:E.t.fc.length<=1000) (Xo:∀g∈E.t.gl,g.nm.size<=9223372036854775807/\0<=g.size/\g.size<=4000) (Xn:∀f∈E.t.fc,f.nm.size<=9223372036854775807):
  Calls prog 60 #[pV E.C] w λe w'=>e=rW (fR (ir E.t).1 (ir E.t).2.1 (ir E.t).2.2) /\
   ∃gf' ng' v bt tk fn st,Cs {E with gf:=gf',ng:=ng'} w' [] [] v bt tk fn st/\((ir E.t).1=0->gf'=dz E.t.gl/\ng'<=1000/\fn= -1/\st= -1):=by
 have Xl:Hid (Calls prog 85 #[pV E.C] ((w.setCell ⟨E.C,4,none⟩ (.map (some w.heap.size))).alloc (.map #[] 0)) λe w'=>(∃u,e=rW u)/\∃v,Cs E w' [] [] v w.heap.size [] (-1) (-1)):=by
  have h1:=C0 h;have e:(⟨E.w0,E.C,w.heap.size+1,E.bn,E.nn,E.D,E.t,E.vg,E.vf,λ_=>none,λ_=>false,0⟩:nQ)=E:=by rw[<-Xm,<-Jz,<-J_,<-Jy]
  rw[e]at h1;exact h1
 have Xh:=ah J_;have Xs:=ah Xo;have Xp:=ah Xn;have Jw:Hid (E.gf=dz []/\E.ng=0):=⟨by rw[Jz];rfl,Jy⟩;have⟨Jt,Jg⟩:=q_ (ir E.t);rw[<-Jg];have Jc:=ah Jg;have hC:E.C<w.heap.size:=b_ h.c0;have⟨x4,y4⟩:=h.c4;have f4:=h.fz 4;have Xw:= @run_makeMap prog;obtain⟨ag,cg,Xk,-,-,Jj⟩:=h.fun0.2;obtain⟨af,cf,Xb,-,-,Ji⟩:=h.fun0.1;have Xt:=ah Jj;have Yb:=ah Ji;have Xv:=ah Xk;have X_:=ah Xb;clear h Xm Jz J_ Jy Jg Jj Ji Xo Xn Xk Xb;go_in;go_wp2_with fail;refine Xl.o.mono ?_;rintro e w1 ⟨⟨u,rfl⟩,v,Jn⟩;have⟨bt,Xc⟩:=q_ w.heap.size;rw[<-Xc]at Jn⊢;have Xe:=ah Jn;have c1:=Jn.box.c1;rw[Xv.o]at c1;clear Jn y4 f4 hC Xw Xl Xc;go_wp2;go_loopw[23] (λj wr=>∃(k:Nat),k<=E.t.gl.length/\j=V k/\Cs {E with gf:=dz (E.t.gl.take k),ng:=k} wr [] [] v bt ((E.t.gl.take k).map (·.nm)) (-1) (-1)/\fU [] E.t.gl=fU ((E.t.gl.take k).map (·.nm)) (E.t.gl.drop k)) (λj _=>E.t.gl.length-(RowKit.intOf j).toNat)
 case atStart=>
  refine⟨0,y_,rfl,?_,i_⟩;have e:{E with gf:=dz (E.t.gl.take 0),ng:=0}=E:=by exact nQ.same E (by rw[Jw.o.1];simp) Jw.o.2.symm
  rw[e];exact Xe
 case round=>
  clear Xe c1 Jw;obtain⟨k,hk,rfl,I,hd⟩:=hrel;have J:=ah I;have HD:=ah hd;clear hd;by_cases hlt:k<E.t.gl.length
  ·obtain⟨b0,o0,rfl,Jj⟩:=Xt.o o_;have⟨d0,d1⟩:=Jj k hlt;have Jr:b0<E.w0.heap.size:=b_ d0;have Z:=(I.base.cell (p:=⟨b0,o0+k*2,none⟩) Jr).trans d0;have U:=(I.base.cell (p:=⟨b0,o0+k*2+1,none⟩) Jr).trans d1;have⟨Xy,Xu,Xq⟩:=Xs.o _ (g_ hlt);have hZ:E.t.gl[k].nm.size<=maxLen:=(by unfold maxLen;omega);have Xa:Hid ((Lit.int .i64 E.t.gl[k].size).wf=true):=WalkArith.wf_i64 o_;have Jb:Hid (fU [] E.t.gl=fU ((E.t.gl.take k).map (·.nm)) (E.t.gl[k]::E.t.gl.drop (k+1))):=(by show _=_;rw[HD.o,eh _ _ hlt]);have Jd:=ah (aU _ _ hlt);have Xx:((E.t.gl.take k).map (·.nm)).length<=1000:=H6;have Ye:b0<wr.heap.size:=b_ Z;clear Jj d0 d1 I HD Jr Xy Xu Xq;generalize E.t.gl[k]=p at Z U hZ Xa Jb Jd;have⟨WA,Ja⟩:=q_ (wr.alloc (.cells #[sV p.nm,V p.size] 48));have⟨M,hM⟩:=q_ wr.heap.size;have Je:Hid (Cs {E with gf:=dz (E.t.gl.take k),ng:=k} WA [] [] v bt ((E.t.gl.take k).map (·.nm)) (-1) (-1)):=by show Cs _ _ _ _ _ _ _ _ _;rw[Ja];exact J.o.below (ao _ _)
   have⟨m0,m1⟩:=I1 hM Ja;have Jv:M<WA.heap.size:=(by rw[Ja,hM];simp);have Xi:M≠bt:=(Ka (J.o.lt bt i_));have Xf:M≠E.bg:=(Ka (J.o.lt E.bg i_));cases hx:dF ((E.t.gl.take k).map (·.nm)) p.nm with
   | true=>
    have HE:Hid (Jt=(2,-1,-1)):=by show _=_;rw[Jc.o];unfold ir;rw[if_pos (by rw[Jb.o];exact tZ hx)]
    have HX:Hid (dF ((E.t.gl.take k).map (·.nm)) p.nm=true\/E.gp p.nm=true):=.inl hx;clear hx;go_wp2_with fail;rw[<-Ja];clear Ja hM Z U;refine(nU Je.o hZ HX).mono ?_;rintro e w2 ⟨rfl,hw⟩;rw[hw,cE d_];clear hw;go_wp2;go_ret;exact⟨aD (by rw[HE.o];rfl),_,_,_,_,_,_,_,Je,λh=>absurd h (by rw[HE.o];show ¬(2:Int)=0;decide)⟩
   | false=>
    have HX:Hid (¬(dF ((E.t.gl.take k).map (·.nm)) p.nm=true\/E.gp p.nm=true)):=by show ¬(_\/_);rw[Xh.o,hx];simp
    have Jp:Hid (fU [] E.t.gl=fU ((E.t.gl.take (k+1)).map (·.nm)) (E.t.gl.drop (k+1))):=(by show _=_;rw[Jb.o,qJ hx,Jd.o];simp);have Xz:Hid (mW (dz (E.t.gl.take k)) p.nm p.size=dz (E.t.gl.take (k+1))):=(by show _=_;rw[xE hx,Jd.o]);have Jl:Hid ((E.t.gl.take k).map (·.nm)++[p.nm]=(E.t.gl.take (k+1)).map (·.nm)):=(by show _=_;rw[Jd.o];simp);clear hx;go_wp2_with fail;rw[<-Ja];rw[<-hM];clear Ja hM Z U;refine(nW Je.o hZ o_ HX).mono ?_;rintro e w2 ⟨rfl,Jf,Jh⟩;rw[Jl.o]at Jf;have Jk:=ah (Jf.below (r_.drew));have x0:w2.cell? ⟨M,0,none⟩=some (sV p.nm):=(Jh.cell Jv Xi 0).trans m0;have x1:w2.cell? ⟨M,1,none⟩=some (V p.size):=(Jh.cell Jv Xi 1).trans m1;have Xj:M<w2.heap.size:=l_ Jv Jh.size;have Ya:Hid (Calls prog 87 #[pV E.C,sV p.nm,V p.size] w2.drew λe w'=>(∃u,e=rW u)/\Cs {E with gf:=dz (E.t.gl.take (k+1)),ng:=k+1} w' [] [] v bt ((E.t.gl.take (k+1)).map (·.nm)) (-1) (-1)/\aj (λj=>j=E.bg) w2.drew w'):=by
     have:=JG Jk.o hZ Xa.o (by show k<=_;omega)
     simp only[Xz.o]at this;exact this
    clear Jf Jh m0 m1;go_wp2_with fail;go_region_held3 (λW=>W.cell? ⟨M,0,none⟩=some (sV p.nm)/\W.cell? ⟨M,1,none⟩=some (V p.size)) (go_simp)
     (first
     | ((with_reducible refine Calls.mono Ya.o ?_);rintro e w3 ⟨⟨u3,rfl⟩,Xg,Jx⟩;have Jq:w3.cell? ⟨M,0,none⟩=some (.string p.nm):=(Jx.cell Xj Xf 0).trans x0;have Js:w3.cell? ⟨M,1,none⟩=some (.int .i64 p.size):=(Jx.cell Xj Xf 1).trans x1))
    have Xr:=ah Xg;clear Xg Jx x0 x1 Jq Js;go_wp2;go_roundw
    case rel=>exact⟨k+1,o_,by go_num,Xr,Jp⟩
    case measure=>exact IF
  have Jo:k=E.t.gl.length:=o_;subst Jo;have Xd:Hid (fU [] E.t.gl=false):=(by show _=_;rw[HD.o];simp[fU]);have Ju:Hid (Cs {E with gf:=dz E.t.gl,ng:=E.t.gl.length} wr [] [] v bt (E.t.gl.map (·.nm)) (-1) (-1)):=by
   have:=J.o
   rw[take_length]at this;exact this
  have c2:=Ju.o.box.c2;simp only at c2;rw[X_.o]at c2;clear J HD I;go_wp2;go_loopw[49] (λj w2=>∃(k:Nat) (fn':Int),k<=E.t.fc.length/\j=V k/\Cs {E with gf:=dz E.t.gl,ng:=E.t.gl.length} w2 [] [] v bt (E.t.gl.map (·.nm)++(E.t.fc.take k).map (·.nm)) fn' (-1)/\fL (E.t.gl.map (·.nm)) 0 E.t.fc=fL (E.t.gl.map (·.nm)++(E.t.fc.take k).map (·.nm)) k (E.t.fc.drop k)) (λj _=>E.t.fc.length-(RowKit.intOf j).toNat)
  case atStart=>exact⟨0,-1,y_,rfl,IN Ju.o,i_⟩
  case round=>
   clear Ju c2;obtain⟨k,Yd,hk,rfl,I,hd⟩:=hrel;have J:=ah I;have HD:=ah hd;have y5:=I.box.c5;have f5:=I.box.fz 5;have hC:=I.ltC;simp only at y5 f5 hC;clear hd;by_cases hlt:k<E.t.fc.length
   ·obtain⟨bf,of,rfl,Ji⟩:=Yb.o o_;obtain⟨vp,vb,⟨d0,d1,d2⟩,⟨ap,cp,rfl,-⟩,⟨ab,cb,rfl,-⟩⟩:=Ji k hlt;have Jm:bf<E.w0.heap.size:=b_ d0;have Z:=(I.base.cell (p:=⟨bf,of+k*3,none⟩) Jm).trans d0;have U:=(I.base.cell (p:=⟨bf,of+k*3+1,none⟩) Jm).trans d1;have e2:=(I.base.cell (p:=⟨bf,of+k*3+2,none⟩) Jm).trans d2;have hZ:E.t.fc[k].nm.size<=maxLen:=(by have:=Xp.o _ (g_ hlt);unfold maxLen;omega);have Jb:Hid (fL (E.t.gl.map (·.nm)) 0 E.t.fc=fL (E.t.gl.map (·.nm)++(E.t.fc.take k).map (·.nm)) k (E.t.fc[k]::E.t.fc.drop (k+1))):=(by show _=_;rw[HD.o,eh _ _ hlt]);have Jd:=ah (aU _ _ hlt);have Xx:(E.t.gl.map (·.nm)++(E.t.fc.take k).map (·.nm)).length<=2000:=H6;clear Ji d0 d1 d2 I HD Jm;generalize E.t.fc[k]=f at Z U e2 hZ Jb Jd;have⟨WA,Ja⟩:=q_ ((wr.setCell ⟨E.C,5,none⟩ (V (k:Int))).alloc (.cells #[sV f.nm,.slice ap f.pm.length cp,.slice ab f.bd.length cb] 52));have Je:Hid (Cs {E with gf:=dz E.t.gl,ng:=E.t.gl.length} WA [] [] v bt (E.t.gl.map (·.nm)++(E.t.fc.take k).map (·.nm)) (k:Int) (-1)):=by show Cs _ _ _ _ _ _ _ _ _;rw[Ja];exact(J.o.put 5 _ (J.o.box.s5 (k:Int))).below (ao _ _)
    cases hx:dF (E.t.gl.map (·.nm)++(E.t.fc.take k).map (·.nm)) f.nm with
    | true=>
     have HE:Hid (Jt=(2,(k:Int),-1)):=by show _=_;rw[Jc.o];unfold ir;rw[if_neg (by rw[Xd.o];simp),Jb.o,ub hx]
     have HX:Hid (dF (E.t.gl.map (·.nm)++(E.t.fc.take k).map (·.nm)) f.nm=true\/E.gp f.nm=true):=.inl hx;clear hx;go_wp2_with fail;rw[<-Ja];clear Ja Z U e2;refine(nU Je.o hZ HX).mono ?_;rintro e w2 ⟨rfl,hw⟩;rw[hw,cE d_];clear hw;go_wp2;go_ret;exact⟨aD (by rw[HE.o];rfl),_,_,_,_,_,_,_,Je,λh=>absurd h (by rw[HE.o];show ¬(2:Int)=0;decide)⟩
    | false=>
     have HX:Hid (¬(dF (E.t.gl.map (·.nm)++(E.t.fc.take k).map (·.nm)) f.nm=true\/E.gp f.nm=true)):=by show ¬(_\/_);rw[Xh.o,hx];simp
     have Jl:Hid (E.t.gl.map (·.nm)++(E.t.fc.take k).map (·.nm)++[f.nm]=E.t.gl.map (·.nm)++(E.t.fc.take (k+1)).map (·.nm)):=(by show _=_;rw[Jd.o];simp);have Jp:Hid (fL (E.t.gl.map (·.nm)) 0 E.t.fc=fL (E.t.gl.map (·.nm)++(E.t.fc.take (k+1)).map (·.nm)) ((k+1:Nat):Int) (E.t.fc.drop (k+1))):=(by show _=_;rw[Jb.o,qK hx,Jl.o];simp);clear hx;go_wp2_with fail;rw[<-Ja];clear Ja Z U e2;refine(nW Je.o hZ o_ HX).mono ?_;rintro e w2 ⟨rfl,Jf,Jh⟩;rw[Jl.o]at Jf;have Jk:=ah Jf;clear Jf Jh;go_wp2;go_roundw
     case rel=>exact⟨k+1,(k:Int),o_,by go_num,Jk,Jp⟩
     case measure=>exact IF
   have HN:Hid (Jt=(0,-1,-1)):=by show _=_;have Jo:k=E.t.fc.length:=o_;have U:fL (E.t.gl.map (·.nm)) 0 E.t.fc=none:=(by rw[HD.o,Jo,drop_length];rfl);rw[Jc.o];unfold ir;rw[if_neg (by rw[Xd.o];simp),U]
   have Jk:=ah (J.o.put 5 _ (J.o.box.s5 (-1)));clear I;go_wp2;go_ret;exact⟨aD (by rw[HN.o];rfl),_,_,_,_,_,_,_,Jk,λ_=>⟨rfl,Yc,rfl,rfl⟩⟩
end
section
variable{w:AT}{v:BY}
def Ints.set{l:List Int}{g:Nat}(h:Ints w v l)(Jb:v.ownBlock≠some g)(o:Nat)(u:BY):Ints (w.setCell ⟨g,o,none⟩ u) v l:=by obtain⟨a,Ja,rfl,h3⟩:=h;refine⟨a,Ja,rfl,λh0=>?_⟩;obtain⟨b,rfl,J⟩:=h3 h0;have I:b≠g:=λe=>Jb (by simp[ownBlock,e]);refine⟨b,rfl,λj hj=>?_⟩;rw[s_ _ _ _ _ (by intro h;simp only[Addr.mk.injEq]at h;exact I h.1.symm)];exact J j hj
def lq(fs:List Fu)(j:Nat):List Int:=(callsL fs (fs.getD j ⟨⟨#[]⟩,[],[]⟩).bd).map (λg:Nat=>(g:Int))
def pG(w:AT)(v:BY)(fs:List Fu):Prop:=∃G cap,v=rV G fs.length cap/\∀j,j<fs.length->∃vj,w.cell? ⟨G,j,none⟩=some vj/\Ints w vj (lq fs j)
def pG.below{w':AT}{J:List Fu}(h:pG w v J)(U:Bl w w'):pG w' v J:=by obtain⟨G,Ja,rfl,h⟩:=h;refine⟨G,Ja,rfl,λj hj=>?_⟩;have⟨Z,I,h2⟩:=h j hj;exact⟨Z,(U.cell (p:=⟨G,j,none⟩) (b_ I)).trans I,h2.below U⟩
def Fo:(prog.info? 34).map (λi=>(i.zero,i.size,i.bytes))=some (some nV,1,24):=by kernel_rfl
def rB(I:List Fu)(vg vf:BY)(w:AT)(hl:I.length<=1000)(hg:∃a n c,vg=.slice a n c)(hw:wJ I)(Xe:∀f∈I,fk f)(hf:bj w vf I):
  Calls prog 43 #[.agg #[vg,vf]] w λe w'=>∃v,e=rW v/\pG w' v I/\Bl w w':=by
 obtain⟨ag,ng,cg,rfl⟩:=hg;have HF:=ah hf;obtain⟨af,cf,rfl,-,-,Jg⟩:=hf;have⟨Xx,HW,Xq⟩:=h3 Jg hw Xe;have⟨i0,hi,Xi,Xt,Xn⟩:=info_parts Fo;clear Jg hw Xe;go_in;go_wp2_with fail;have hA:Bl w (w.alloc (.cells #[.slice ag ng cg,.slice af I.length cf] 26)):=ao _ _;refine(j6 I _ _ _ o_ HW (HF.o.below hA)).mono ?_;rintro e w1 ⟨bn,D,rfl,Xw,Jk,hN,Jf⟩;simp only[Bl,J9]at Jf Xw;have⟨x0,x1⟩:=jc Jf;have⟨Xd,HN⟩:=h2 Jk hN;have Xy:Bl w w1:=aw Jf;have Ji:=Jf.size;simp only[Bl,J9]at Ji;clear Jk hN;go_wp2_with(at_make;refine wpList_make_full _ rfl _ _ 94 rfl w1.heap.size 34 i0 nV 1 underlying94 hi Xi Xt _ _ _ _ I.length rfl rfl o_ o_ ?_ ?_ n_ ?_);rw[Xn];omega;unfold maxLen;omega;intro w2 Jc Jb;have Jo:Bl w1 w2:=r_.grown Jb n_ i_;have Jd:Below (w.heap.size+1) (w.alloc (.cells #[.slice ag ng cg,.slice af I.length cf] 26)) w2:=Jf.trans (Jo.mono Ji);have Xc:=ah (eH Xd Jo);have Jj:∃xs,w2.ownsRow w1.heap.size 34 1 (rV w1.heap.size I.length I.length) I.length xs:=⟨_,Jc⟩;obtain⟨Xj,Jj⟩:=Jj;have Jn:=ah Jj;have Z:w1.heap.size<w2.heap.size:=(ownsRow.lt Jj w1.heap.size rfl).2;have⟨G,Xb⟩:=q_ w1.heap.size;rw[<-Xb]at Jn Z⊢;have Xs:w.heap.size+1<=G:=o_;have Jm:bn<G:=Ka Xd.o.lt;clear Jc Jb Jj x0 x1;have⟨x0,x1⟩:=jc Jd;clear Jf Jo Xb;go_wp2;go_loopw[16] (λi wr=>∃(k:Nat) (xs:List BY),k<=I.length/\i=V k/\wr.ownsRow G 34 1 (rV G I.length I.length) I.length xs/\(∀j,j<k->∃J,xs[j]? =some J/\Ints wr J (lq I j)/\J.ownBlock≠some G)/\wr.ownsMap prog 9 (plainElem (H:=Unit) prog 2) bn I.length D/\bn<G/\G<wr.heap.size/\Below (w.heap.size+1) (w.alloc (.cells #[.slice ag ng cg,.slice af I.length cf] 26)) wr) (λi _=>I.length-(RowKit.intOf i).toNat)
 case atStart=>exact⟨0,Xj,y_,rfl,Jn,λj hj=>absurd hj o_,Xc,Jm,Z,Jd⟩
 case round=>
  clear Xc Jn Z Jd x0 x1;obtain⟨k,xs,hk,rfl,hR,hX,hM,Xu,Z,hB⟩:=hrel;have⟨HR,HX,HM⟩:=h3 hR hX hM;have Jy:=aw hB;clear hR hX hM;by_cases hlt:k<I.length
  ·obtain⟨bf,of,rfl,Jg⟩:=Xx o_;have⟨vp,vb,⟨d0,d1,d2⟩,Jz,Jr⟩:=(Jg.below Jy) k hlt;have Xz:bf<wr.heap.size:=b_ d0;have⟨Jx,Jq⟩:=h2 Jz Jr;have J_:Hid (fk I[k]):=Xq _ (g_ hlt);have Jt:Hid (EE I[k]):=HW.o.2 _ (g_ hlt);have Jv:Hid (lq I k=(callsL I I[k].bd).map (λg:Nat=>(g:Int))):=(by show _=_;unfold lq;simp[List.getD,hlt]);obtain⟨ap,cp,rfl,-⟩:=Jz;obtain⟨ab,cb,rfl,-⟩:=Jr;clear Jg;generalize I[k]=f at d0 d1 d2 Jx Jq J_ Jt Jv;have Je:Bl wr (wr.alloc (.cells #[sV f.nm,.slice ap f.pm.length cp,.slice ab f.bd.length cb] 52)):=ao _ _;go_wp2_with fail;refine(uX I f _ _ bn I.length D _ o_ J_ Jt (Jx.o.below Je) (Jq.o.below Je) (eH HM Je) HN).mono ?_;rintro e w3 ⟨U,rfl,Jl,Xa⟩;have Ja:Bl wr w3:=Je.trans (Xa.mono Je.size);have Xp:Hid (Ints w3 U (lq I k)):=by show Ints _ _ _;rw[Jv.o];exact cy.ints (B:=_) Jl
   have Js:Hid (U.ownBlock≠some G):=λh=>by
    have:=(ownsRow.lt Jl G h).1
    simp at this;omega
   have⟨Jp,Xv⟩:=h2 (ownB HR Ja) (eH HM Ja);have Xl:Hid (∀j,j<k->∃J,xs[j]? =some J/\Ints w3 J (lq I j)/\J.ownBlock≠some G):=λj hj=>by have⟨J,h1,h2,h3⟩:=HX j hj;exact⟨J,h1,h2.below Ja,h3⟩
   have Jw:=hB.size;simp only[Bl,J9]at Jw;have Xh:Below (w.heap.size+1) (w.alloc (.cells #[.slice ag ng cg,.slice (some ⟨bf,of,none⟩) I.length cf] 26)) w3:=hB.trans (Ja.mono Jw);have Xk:G<w3.heap.size:=l_ Z Ja.size;have Ju:xs.length=I.length:=(Ka HR.o.1);have g0:w3.cell? ⟨G,k,none⟩=some (xs[k]'(by omega)):=by
    have:=ownsRow.cellAt Jp.o k o_
    rw[this];simp[Ju,hlt]
   have gf:=ownsRow.frozenAt Jp k;have⟨y,hy⟩:=q_ (xs[k]'(by omega));rw[<-hy]at g0;have⟨a3,c3,Xo⟩:=cy.shape (B:=_) Jl;clear Jl Xa Ja d0 d1 d2 hy HR HX HM Je;have Xg:=ah ((ownsRow.stored Jp k U).1);have Xr:Hid (∀j,j<k+1->∃J,(xs.set k U)[j]? =some J/\Ints (w3.setCell ⟨G,k,none⟩ U) J (lq I j)/\J.ownBlock≠some G):=λj hj=>by
    by_cases e:j=k;subst e;exact⟨U,by simp[Ju,hlt],Xp.o.set Js _ _,Js⟩
    have⟨J,h1,h2,h3⟩:=Xl j o_;exact⟨J,by rw[getElem?_set_ne (λh=>e h.symm)];exact h1,h2.set h3 _ _,h3⟩
   have Xm:Hid ((w3.setCell ⟨G,k,none⟩ U).ownsMap prog 9 (plainElem (H:=Unit) prog 2) bn I.length D):=by obtain⟨es,Jh,h0,F,hs,hD⟩:=Xv;exact⟨es,Jh,(Below.heap_setCell _ _ _ bn (λh=>by simp at h;omega)).trans h0,F,hs,hD⟩
   subst Xo;go_wp2;go_roundw
   case rel=>exact⟨k+1,_,o_,by go_num,Xg,Xr,Xm,Xu,IN Xk,Xh.setCell (p:=⟨G,k,none⟩) Xs _⟩
   case measure=>exact IF
  have Xf:k=I.length:=o_;subst Xf;clear hB;go_wp2;go_ret;refine⟨_,rfl,⟨G,I.length,rfl,λj hj=>?_⟩,Jy⟩;obtain⟨J,h1,h2,-⟩:=HX j hj;exact⟨J,(ownsRow.cellAt HR j o_).trans h1,h2⟩
end
section
variable{B:Nat}{w:AT}{v:BY}{l:List Nat}
def Hi(n:Nat):tl n []=List.replicate n (.bool false):=by apply ext_getElem;simp[tl];intro i h h2;simp[tl]
def cy.cut{x:Nat}(h:cy B w v (l++[x])):∃g cap,v=rV g (l.length+1) cap/\B<=g/\l.length+1<=cap/\cap<=maxLen/\w.cell? ⟨g,l.length,none⟩=some (V (x:Int))/\cy B w (rV g l.length cap) l:=by
 have h0:=h;obtain⟨g1,g2⟩:=h;rcases g2 with⟨_,hz⟩|⟨g,cap,Ja,rfl,Z,g4,J,I,g7,U⟩;simp at hz;simp only[l_a,l_c,l_n,Nat.zero_add,Nat.mul_one,map_append,map_cons,map_nil]at g1 J g7 U;refine⟨g,cap,i_,Z,J,I,?_,i_,.inr ⟨g,cap,Ja,rfl,Z,g4,o_,I,o_,?_⟩⟩
 have:=ownsRow.cellAt h0 l.length i_
 rw[this];simp;rw[Nat.mul_one];have e:Ja.toList.take l.length=(Ja.toList.take (l.length+1)).take l.length:=(by rw[take_take];congr 1;omega);rw[e,U];simp
def C_(W:AT)(B:Nat)(hB:B<=W.heap.size)(x:Nat):cy B (W.alloc (.cells #[V (x:Int)] 2)) (rV W.heap.size 1 1) [x]:=ownsRow_lit W #[V (x:Int)] 1 hB d_ rfl
def cy.set{g o:Nat}{u:BY}(h:cy B w v l)(hg:g<B):cy B (w.setCell ⟨g,o,none⟩ u) v l:=by obtain⟨Z,I⟩:=h;refine⟨Z,?_⟩;rcases I with I|⟨b,Jb,Ja,rfl,g3,J,U⟩;exact .inl I;refine .inr ⟨b,Jb,Ja,rfl,g3,?_,U⟩;rw[Below.heap_setCell _ _ _ b (λh=>by simp at h;omega)];exact J
def jK(t:Tr)(Xj:BY)(f:Nat)(w:AT)(hf:f<t.fc.length)(hl:t.fc.length<=1000)(hg:pG w Xj t.fc):
  Calls prog 42 #[Xj,V (f:Int)] w λe w'=>∃v out,e=rW v/\gg w.heap.size w' v t.fc.length out/\(∀g,g∈out↔iD t f g)/\Bl w w':=by
 obtain⟨G,Yk,rfl,Xa⟩:=hg;have HG:=ah Xa;have⟨i0,hi,Xq,Yc,Xw⟩:=info_parts rq;have⟨i1,hj,X_,Xm,Xr⟩:=info_parts li;clear Xa;have⟨n,hn⟩:=q_ t.fc.length;rw[<-hn]at hf hl HG⊢;have HN:=ah hn;clear hn;go_in;go_wp2_with(at_make;refine wpList_make_full _ rfl _ _ 92 rfl w.heap.size 4 i0 (.bool false) 1 underlying92 hi Xq Yc _ _ _ _ n rfl rfl o_ o_ ?_ ?_ n_ ?_);rw[Xw];omega;unfold maxLen;omega;intro w1 Jf Je;have Jw:Bl w w1:=r_.grown Je n_ i_;have Jg:Hid (gg w.heap.size w1 (rV w.heap.size n n) n []):=by show ownsRow _ _ _ _ _ _ _;rw[Hi,<-toList_madeCells_one];exact Jf
 have Jq:w.heap.size<w1.heap.size:=(ownsRow.lt Jf w.heap.size rfl).2;have⟨F,hF⟩:=q_ w.heap.size;rw[<-hF]at Jg Jq⊢;have Jo:=ah hF;clear Jf Je hF;go_wp2_with fail;have J_:=ah (C_ w1 _ Jq f);have Xb:Hid (gg F (w1.alloc (.cells #[V (f:Int)] 2)) (rV F n n) n []):=Jg.o.below (ao _ _);have Jx:Bl w (w1.alloc (.cells #[V (f:Int)] 2)):=Jw.alloc Jw.size _;go_loopg[6] (n+1) (λgk lv wr=>∃(out Jd:List Nat),gk=(n-out.length)+Jd.length/\gk<=n+1/\RInv t f out Jd/\gg F wr (rV F n n) n out/\cy (F+1) wr lv Jd/\F<wr.heap.size/\Bl w wr)
 case atStart=>exact⟨[],[f],i_,n_,RInv.start t f,Xb,J_,by simp;omega,Jx⟩
 case round=>
  clear J_ Jg Xb Jx Jw Jq;obtain⟨out,Jd,Jk,Yf,hI,I,Z,Ji,J⟩:=hrel;rcases eq_nil_or_concat Jd with rfl|⟨Jc,x,rfl⟩
  ·have HE:Hid (∀g,g∈out↔iD t f g):=λg=>hI.all g;have U:=ah I;obtain⟨a6,c6,rfl⟩:=Z.shape;simp only[l_n];clear I Z hI;go_wp2;go_ret;exact⟨_,out,rfl,by rw[<-Jo.o];exact U,HE,J⟩
  simp only[concat_eq_append]at Jk hI Z;have Xe:x<n:=(by have:=hI.lt (by rw[<-HN.o];exact hf) x i_;rw[HN.o];exact this);have HM:Hid (gI t f x [] out Jc):=hI.take i_ (λy=>by simp[or_comm]);obtain⟨g6,c6,rfl,Yi,Xp,Xs,q6,Xf⟩:=Z.cut;have Jz:=ah Xf;have U:=ah I;have⟨vx,qx,Xk⟩:=HG x Xe;have Ya:=(J.cell (p:=⟨G,x,none⟩) (b_ qx)).trans qx;have⟨L,hL⟩:=q_ (callsL t.fc (t.fc.getD x ⟨⟨#[]⟩,[],[]⟩).bd);have HL:Hid (∀y,dV t x y↔y∈L):=λy=>by rw[hL];unfold dV;exact⟨λh=>h.2,λh=>⟨by rw[<-HN.o];exact Xe,h⟩⟩
  have Xc:Hid (lq t.fc x=L.map (λg:Nat=>(g:Int))):=(by show _=_;rw[hL];rfl);obtain⟨ax,cx,Jy,Xi⟩:=Xk;have Jh:(lq t.fc x).length=L.length:=(by rw[Xc.o];simp);rw[Jh]at Jy;subst Jy;have Xy:Hid (0<L.length->∃b,ax=some ⟨b,0,none⟩/\∀j (h:j<L.length),w.cell? ⟨b,j,none⟩=some (V (L[j]:Int))):=λh0=>by obtain⟨b,rfl,hc⟩:=Xi o_;refine⟨b,rfl,λj hj=>?_⟩;have:=hc j o_;rw[this];simp[Xc.o]
  have Yg:L.length<=1000:=by
   have h1:L.Nodup:=by rw[hL];unfold callsL;exact List.Pairwise.filter _ (nodup_range)
   have h2:=kR n h1 (λy hy=>by have:=((HL.o y).2 hy).lt;rw[HN.o];exact this);omega
  have Yh:Jc.length<=2000:=(by simp at Jk;omega);have Xu:(n-out.length)+Jc.length+1=gk:=(by simp at Jk;omega);have Xt:∀W:AT,(Instr.slice 34 (rV g6 (Jc.length+1) c6) none (some (V (Jc.length:Int))) none).run prog W=.ok (rV g6 Jc.length c6) W:=by intro W;have hz:prog.elem 34=2:=k_;have hs:(sizeOf 2).run prog W=.ok 1 W:=k_;rw[run_slice_h W 34 (some ⟨g6,0,none⟩) (Jc.length+1) c6 (by rw[hz];exact underlying34) .i64 _ o_ o_,hz,hs];simp[Result.andThen,sliced,Addr.add]
  have Xn:=HM.o.len;rw[<-HN.o]at Xn;clear hI I Z Xf Xi Jh hL Jk qx;go_wp2;go_loopw[6,34] (λlv i w4=>∃(j:Nat) (Jb Ja:List Nat),j<=L.length/\i=V j/\gI t f x (L.take j) Jb Ja/\gg F w4 (rV F n n) n Jb/\cy (F+1) w4 lv Ja/\Jb.length+Jc.length=out.length+Ja.length/\F<w4.heap.size/\Bl w w4) (λ_ i _=>L.length-(RowKit.intOf i).toNat)
  case atStart=>exact⟨0,out,Jc,y_,rfl,IN HM.o,U.o,Jz.o,rfl,Ji,J⟩
  case round=>
   clear HM Jz U q6 Ya J Ji Xt;obtain⟨j,Jb,Ja,Yl,rfl,hM,I,Z,Xo,Ji,J⟩:=hrel;have HM:=ah hM;have U:=ah I;have Ju:=hM.len;rw[<-HN.o]at Ju;obtain⟨a6,c7,rfl⟩:=Z.shape;have HW:Hid (cy (F+1) wr (.slice a6 Ja.length c7) Ja):=Z;clear hM Z;by_cases hjl:j<L.length
   ·obtain⟨bx,rfl,Jn⟩:=Xy o_;have d0:=(J.cell (p:=⟨bx,j,none⟩) (b_ (Jn j hjl))).trans (Jn j hjl);have Jg:Hid (L.take (j+1)=L.take j++[L[j]]):=aU L j hjl;have Jv:dV t x L[j]:=(HL _).2 (g_ hjl);have Jt:L[j]<n:=(by have:=Jv.lt;rw[HN.o];exact this);have Xh:=ah Jv;clear Jn Jv;generalize L[j]=y at d0 Jg Jt Xh;have⟨t0,tf⟩:=I.cell y Jt;clear I;by_cases hy:y∈Jb
    ·rw[decide_eq_true hy]at t0;have Jr:Hid (gI t f x (L.take (j+1)) Jb Ja):=(by show gI _ _ _ _ _ _;rw[Jg.o];exact HM.o.old hy);clear hy;go_wp2;go_roundw
     case rel=>exact⟨j+1,Jb,Ja,o_,by go_num,Jr,U,HW,Xo,Ji,J⟩
     case measure=>exact IF
    rw[decide_eq_false hy]at t0;have Jr:Hid (gI t f x (L.take (j+1)) (Jb++[y]) (Ja++[y])):=(by show gI _ _ _ _ _ _;rw[Jg.o];exact HM.o.new hy Xh);have Yb:=ah (U.o.put y Jt);have Xd:Hid (cy (F+1) (wr.setCell ⟨F,y,none⟩ (.bool true)) (.slice a6 Ja.length c7) Ja):=HW.o.set (Nat.lt_succ_self _);have Jp:Bl w (wr.setCell ⟨F,y,none⟩ (.bool true)):=J.setCell (p:=⟨F,y,none⟩) (by rw[Jo.o];exact n_) _;have Xz:(wr.setCell ⟨F,y,none⟩ (.bool true)).heap.size=wr.heap.size:=i_;have Yj:Ja.length<=2000:=o_;clear hy;go_wp2_with(at_builtin;refine cQ rfl _ _ _ rfl (F+1) 2 i1 _ 1 8 underlying34 hj X_ Xm Xr rfl d_ _ Ja.length (Ja.map (λg:Nat=>Value.int .i64 (g:Int))) rfl (Xd.o.below (ao _ _)) ⟨wr.heap.size,0,none⟩ 1 1 [V (y:Int)] rfl rfl (by rw[<-Xz];exact cell_one_new _ _ _) (by simp[oneCell']) o_ d_ H6 ?_);intro v9 w9 Xg Jl Xl;have Jm:Hid (cy (F+1) w9 v9 (Ja++[y])):=by show ownsRow _ _ _ _ _ _ _;simpa using Xg
    have Jj:∀g,(Value.slice a6 Ja.length c7).ownBlock=some g->F+1<=g:=λg hg=>(ownsRow.lt Xd g hg).1;have Xv:=ah (An (Yb.o.below (ao _ _)) Jl (λg hg h=>by simp only[ownBlock,J0]at hg;have:=Jj g h;omega));have Ye:Bl w w9:=(Jp.alloc Jp.size _).grown Jl (by have:=Jp.size;simp;simp at this;omega) (λg hg=>Ia (Jj g hg) Jo.o);have Xx:F<w9.heap.size:=(by have:=Jl.size;simp at this;omega);obtain⟨a9,c9,rfl⟩:=Jm.o.shape;have Js:(Ja++[y]).length=Ja.length+1:=i_;rw[Js]at Jm⊢;clear Xg Jl Xl d0 t0 tf HW U HM;go_wp2;go_roundw
    case rel=>exact⟨j+1,Jb++[y],Ja++[y],o_,by go_num,Jr,Xv,Jm,by simp;omega,Xx,Ye⟩
    case measure=>exact IF
   have Yd:Hid (RInv t f Jb Ja):=by have h1:=HM;rw[take_of_length_le o_]at h1;exact h1.done (λy hy=>(HL y).1 hy)
   clear I;go_wp2;go_roundg ((n-Jb.length)+Ja.length)
   case measure=>omega
   case rel=>exact⟨Jb,Ja,rfl,o_,Yd,U,HW,Ji,J⟩
end
def rC{W:AT}{b nn:Nat}{D:DataW Unit}{J:List Fu}(Jb:W.ownsMap prog 9 (plainElem (H:=Unit) prog 2) b nn D)(Z:dj D J){s:Io}(U:s.size<=maxLen){i:Nat}(h:a_ J s=some i):
  (Instr.lookup 67 (.map (some b)) (sV s) false).run prog W=.ok (V (i:Int)) W:=by
 have⟨c,Ja,I,_⟩:=Jb.lookup_int (Maps.string_keyed underlying9) underlying67 underlying2 (zeroValue2 _) (WideMaps.keyOf_string_mk underlying9 U);rw[Z.val s i h]at I;simp only[DataW.lit.injEq,Lit.int.injEq,true_and]at I;subst I;exact Ja
def C3{E:nQ}{w:AT}{v:BY}{bt:Nat}{tk:List Io}(h:Cs E w [] [] v bt tk (-1) (-1))(m:Nat)(hm:a_ E.t.fc dt=some m)(Jr:E.t.fc.length<=1000)(hw:wJ E.t.fc)(Xj:∀f∈E.t.fc,fk f):
  Calls prog 63 #[pV E.C] w λe w'=>e=rW (fR (dy E.t m 0 E.t.fc.length).1 (dy E.t m 0 E.t.fc.length).2.1 (dy E.t m 0 E.t.fc.length).2.2)/\Below E.w0.heap.size E.w0 w':=by
 have HC:=ah h;have⟨Jd,Jj⟩:=q_ (dy E.t m 0 E.t.fc.length);rw[<-Jj];have Jb:=ah Jj;have Xe:=dE hm;have Xb:=ah hm;have J_:dt.size<=maxLen:=by unfold maxLen;decide
 obtain⟨af,cf,Js,-⟩:=h.fun0.1;obtain⟨ag,cg,Xg,-⟩:=h.fun0.2;have c1:=h.box.c1;have c2:=h.box.c2;have c3:=h.box.c3;have U:=h.ltC;rw[Xg]at c1;rw[Js]at c2;have Xc:Hid (bj w (.slice af E.t.fc.length cf) E.t.fc):=by have:=h.fun0.1.below h.base;rw[Js]at this;exact this
 have⟨HW,Xi⟩:=h2 hw Xj;go_in;go_wp2_with fail;refine(rB E.t.fc _ _ _ Jr ⟨_,_,_,rfl⟩ HW Xi Xc).mono ?_;rintro e w1 ⟨Xk,rfl,Jt,Jy⟩;have Jm:Hid (Cs E w1 [] [] v bt tk (-1) (-1)):=HC.o.below Jy;have Jx:=ah Jt;have d3:=(Jy.cell (p:=⟨E.C,3,none⟩) U).trans c3;have Jz:(Instr.lookup 67 (.map (some E.bn)) (sV ⟨#[109,97,105,110]⟩) false).run prog w1=_:=rC Jm.o.own Jm.o.num J_ Xb;obtain⟨G,Xd,rfl,-⟩:=Jt;go_wp2_with fail;refine(jK E.t _ m w1 Xe Jr Jx).mono ?_;rintro e w2 ⟨v2,out,rfl,Ju,Jp,Jw⟩;have Xf:Hid (Cs E w2 [] [] v bt tk (-1) (-1)):=Jm.o.below Jw;have⟨Xa,Xh,Jk⟩:=h3 (Jx.o.below Jw) Ju Jp;obtain⟨g5,c5,rfl,-,Xl⟩:=Ju.form o_;go_wp2;go_loopw[23] (λj wr=>∃(k:Nat),k<=E.t.fc.length/\j=V k/\Jd=dy E.t m k (E.t.fc.length-k)/\Bl w2 wr) (λj _=>E.t.fc.length-(RowKit.intOf j).toNat)
 case atStart=>exact⟨0,y_,rfl,IN Jb.o,r_⟩
 case round=>
  obtain⟨k,hk,rfl,Jo,I⟩:=hrel;have Jb:=ah Jo;have Jl:=Xf.o.below I;have Jn:=ah Jl;have y5:=Jl.box.c5;have f5:=Jl.box.fz 5;have U:=Jl.ltC;by_cases hlt:k<E.t.fc.length
  ·have Jh:Hid (Jd=dy E.t m k ((E.t.fc.length-(k+1))+1)):=by show _=_;rw[Jb.o];congr 1;omega
   have t0:=((Xh.o.below I).cell k hlt).1;have Jv:=ah (jK E.t _ k wr hlt Jr (Xa.o.below I));by_cases hkm:k=m
   ·subst hkm;have b1:((k:Int) == (k:Int))=true:=i_
    go_wp2_with fail;refine Jv.o.mono ?_;rintro e w3 ⟨v3,Je,rfl,Ja,Jg,Jc⟩;obtain⟨g3,c3,rfl,-,-⟩:=Ja.form o_;have Z:=(Ja.cell k hlt).1;have Jq:Bl w2 w3:=I.trans (Jc.mono I.size);have Ji:Hid (Cs E w3 [] [] v bt tk (-1) (-1)):=Jn.o.below Jc;have z5:=(Jc.cell (p:=⟨E.C,5,none⟩) U).trans y5;have zf:=(Jc.frozen (p:=⟨E.C,5,none⟩) U).trans f5;by_cases ho:k∈Je
    ·have HE:Hid (Jd=(7,(k:Int),-1)):=(by show _=_;rw[Jh.o];exact lM ⟨.inl rfl,(Jg k).1 ho⟩);rw[decide_eq_true ho]at Z;have Jf:=ah (Ji.o.put 5 _ (Ji.o.box.s5 (k:Int)));go_wp2_with fail;refine(dJ E.C 7 (k:Int) (-1) _ Jf.o.box.c5 Jf.o.box.c6).mono ?_;rintro e w5 ⟨rfl,hw⟩;rw[hw];go_wp2;go_ret;exact⟨aD (by rw[HE.o];rfl),Jf.o.base⟩
    have J:Hid (Jd=dy E.t k (k+1) (E.t.fc.length-(k+1))):=(by show _=_;rw[Jh.o];exact gZ (λh=>ho ((Jg k).2 h.2)));rw[decide_eq_false ho]at Z;go_wp2;go_roundw
    case rel=>exact⟨k+1,o_,by go_num,J,Jq⟩
    case measure=>exact IF
   have b1:((k:Int) == (m:Int))=false:=by have:¬(k:Int)=(m:Int):=o_;simpa using this
   by_cases hko:k∈out
   ·have HA:Hid (k=m\/iD E.t m k):=.inr ((Jk k).1 hko);rw[decide_eq_true hko]at t0;go_wp2_with fail;refine Jv.o.mono ?_;rintro e w3 ⟨v3,Je,rfl,Ja,Jg,Jc⟩;obtain⟨g3,c3,rfl,-,-⟩:=Ja.form o_;have Z:=(Ja.cell k hlt).1;have Jq:Bl w2 w3:=I.trans (Jc.mono I.size);have Ji:Hid (Cs E w3 [] [] v bt tk (-1) (-1)):=Jn.o.below Jc;have z5:=(Jc.cell (p:=⟨E.C,5,none⟩) U).trans y5;have zf:=(Jc.frozen (p:=⟨E.C,5,none⟩) U).trans f5;by_cases ho:k∈Je
    ·have HE:Hid (Jd=(7,(k:Int),-1)):=(by show _=_;rw[Jh.o];exact lM ⟨HA,(Jg k).1 ho⟩);rw[decide_eq_true ho]at Z;have Jf:=ah (Ji.o.put 5 _ (Ji.o.box.s5 (k:Int)));go_wp2_with fail;refine(dJ E.C 7 (k:Int) (-1) _ Jf.o.box.c5 Jf.o.box.c6).mono ?_;rintro e w5 ⟨rfl,hw⟩;rw[hw];go_wp2;go_ret;exact⟨aD (by rw[HE.o];rfl),Jf.o.base⟩
    have J:Hid (Jd=dy E.t m (k+1) (E.t.fc.length-(k+1))):=(by show _=_;rw[Jh.o];exact gZ (λh=>ho ((Jg k).2 h.2)));rw[decide_eq_false ho]at Z;go_wp2;go_roundw
    case rel=>exact⟨k+1,o_,by go_num,J,Jq⟩
    case measure=>exact IF
   have J:Hid (Jd=dy E.t m (k+1) (E.t.fc.length-(k+1))):=by show _=_;rw[Jh.o];refine gZ (λh=>?_);rcases h.1 with h1|h1;exact hkm h1;exact hko ((Jk k).2 h1)
   rw[decide_eq_false hko]at t0;go_wp2;go_roundw
   case rel=>exact⟨k+1,o_,by go_num,J,I⟩
   case measure=>exact IF
  have J:Hid (Jd=(0,-1,-1)):=by show _=_;have e:E.t.fc.length-k=0:=o_;rw[Jb.o,e];rfl
  go_wp2;go_ret;exact⟨aD (by rw[J.o];rfl),Jn.o.base⟩
