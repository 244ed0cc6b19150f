import Derived.Deep.Cut
import Derived.Test.YtjfmapphpijneaaGreatDoorS79
import Derived.Test.YtjfmapphpijneaaGreatDoorS33
namespace Go.Proofs.YtjfmapphpijneaaGreatDoor
set_option linter.all false
set_option maxRecDepth 100000
set_option maxHeartbeats 0
open Go.Value Go.World List Go.Proofs.Tryz Go.RowKit
variable[Inhabited Pick]
section
variable{w W w':AT}{S S1:Ft}{u x u1:BY}{ss:List St}{M1:List (BY×List St)}
def mR(N:Nat):Prop:=∀(ss:List St) (v:BY) (S:Ft) (w:AT),ss.length<=N->Bk w S v ss->(∀B,S B->B<w.heap.size)->Calls prog 36 #[v] w λe w'=>∃u,e=rW u/\qu w w' S u (aM ss)/\Bl w w'
def qu.up(h:qu W w' S u ss)(J:w.heap.size<=W.heap.size):qu w w' S u ss:=by obtain⟨S',M,I,h2,h3,h4⟩:=h;exact⟨S',M,I,λB hB=>⟨t_ J (h2 B hB).1,(h2 B hB).2⟩,h3,h4⟩
def qu.bel(h:qu w W S u ss)(U:∀B,S B->B<W.heap.size)(I:Bl W w'):qu w w' S u ss:=by obtain⟨S',M,J,h2,h3,h4⟩:=h;refine⟨S',M,J.bel (λB hB=>?_) I,λB hB=>⟨(h2 B hB).1,l_ (h2 B hB).2 I.size⟩,h3,h4⟩;rcases hB with hB|hB;exact U B hB;exact(h2 B hB).2
def qu.slice(h:qu w w' S u ss):∃a n c,u=.slice a n c:=by obtain⟨S',M,I,-⟩:=h;obtain⟨a,Ja,rfl,-⟩:=I.args;exact⟨_,_,_,rfl⟩
def td{w1:AT}{l:List St}(t:JZ)(U:Bv w1 (λB=>S B\/S1 B) x l)(J:∀B,S B->B<w.heap.size)(Ja:∀B,S1 B->w.heap.size<=B/\B<w1.heap.size)(h:Bl w w1):qu w (w1.alloc (.cells #[x] t)) S (rV w1.heap.size 1 1) l:=by
 have I:∀B,B<w1.heap.size->(w1.alloc (.cells #[x] t)).heap[B]? =w1.heap[B]? := λB hB=>((Below.refl w1.heap.size w1).alloc n_ _).block B hB;refine⟨λB=>S1 B\/B=w1.heap.size,[(x,l)],⟨⟨_,1,rfl,n_,o_,λ_=>⟨w1.heap.size,rfl,.inr (.inr rfl),λi hi=>?_⟩⟩,λq hq=>?_⟩,λB hB=>?_,by simp[aG],dR.one _⟩
 have:i=0:=by simp at hi;omega
 subst this;simp;simp only[J7]at hq;subst hq;refine U.keep (λB hB=>?_) (λB hB=>I B ?_);rcases hB with hB|hB;exact .inl hB;exact .inr (.inl hB);rcases hB with hB|hB;exact l_ (J B hB) h.size;exact(Ja B hB).2;rcases hB with hB|rfl
 ·exact⟨(Ja B hB).1,by have:=(Ja B hB).2;simp;omega⟩
 exact⟨h.size,i_⟩
def Jl{I:Ft}(s:St){u2:BY}{J:List (BY×List St)}(hx:Tv w S x s.e)(hk:s.kd=4)(h1:kr w (λB=>S B\/S1 B) u1 M1)(h2:kr w (λB=>S B\/I B) u2 J):
  Bv w (λB=>S B\/(S1 B\/I B)) (.iface 155 (.agg #[x,u1,u2])) ({s with th:=(aG M1).length,el:=(aG J).length}::(aG M1++aG J)):=by
 have U:kr w (λB=>S B\/(S1 B\/I B)) u1 M1:=h1.keep (λB hB=>by rcases hB with hB|hB;exact .inl hB;exact .inr (.inl hB)) (λ_ _=>rfl);have k2:kr w (λB=>S B\/(S1 B\/I B)) u2 J:=h2.keep (λB hB=>by rcases hB with hB|hB;exact .inl hB;exact .inr (.inr hB)) (λ_ _=>rfl);have⟨p1,p2,Z⟩:=U.parts;have⟨q1,q2,q3⟩:=k2.parts;rw[<-Z,<-q3];exact .ifs {s with th:=_,el:=_} x u1 u2 _ _ _ _ _ _ hk (hx.keep (λ_ h=>.inl h) (λ_ _=>rfl)) p1 p2 q1 q2 rfl rfl
def Dz(s:St)(hx:Tv w S x s.e)(hk:s.kd=5)(Z:kr w (λB=>S B\/S1 B) u1 M1):
  Bv w (λB=>S B\/S1 B) (.iface 160 (.agg #[x,u1])) ({s with th:=(aG M1).length,el:=0}::aG M1):=by
 have⟨J,U,I⟩:=Z.parts;rw[<-I];exact .whil {s with th:=_,el:=_} x u1 _ _ _ hk (hx.keep (λ_ h=>.inl h) (λ_ _=>rfl)) J U rfl rfl
def qv(t:JZ)(x:BY)(I:t≠155)(h2:t≠160)(w:AT):
  Calls prog 64 #[.iface t x] w λe w'=>e=rW (rV w.heap.size 1 1)/\w'=w.alloc (.cells #[.iface t x] 124):=by
 have J:=λW=>em W t x I;have U:=λW=>eo W t x h2;go_in;go_wp2;go_ret;exact⟨rfl,rfl⟩
theorem xQ(N:Nat)(IH:mR N)(s:St)(x va vb:BY)(La Z:List (BY×List St))(S:Ft)(w:AT)(hk:s.kd=4)(hx:Tv w S x s.e)(ha:kr w S va La)(hb:kr w S vb Z)(Jx:(aG La).length<=N)(Jy:(aG Z).length<=N)(hS:∀B,S B->B<w.heap.size):
  Calls prog 64 #[.iface 155 (.agg #[x,va,vb])] w λe w'=>∃u,e=rW u/\qu w w' S u (aV s (aM (aG La)) (aM (aG Z)))/\Bl w w':=by
 have HX:=ah hx;have HA:=ah ha;have HB:=ah hb;have HS:=ah hS;obtain⟨tx,yx,rfl⟩:=hx.isI;obtain⟨aa,ca,rfl,-⟩:=ha.args;obtain⟨ab,cb,rfl,-⟩:=hb.args;have⟨ra,Jm⟩:=q_ (aM (aG La));have⟨rb,Jp⟩:=q_ (aM (aG Z));have⟨W0,Jf⟩:=q_ (w.alloc (.cells #[.iface tx yx,.slice aa La.length ca,.slice ab Z.length cb] 155));have Jc:Bl w W0:=by rw[Jf];exact r_.alloc n_ _
 have J_:W0.heap.size=w.heap.size+1:=by rw[Jf];simp
 have HT:Hid (∀W,Bl W0 W->Calls prog 36 #[.slice aa La.length ca] W λe w'=>∃J U I,e=rW (.slice J U I)/\qu w w' S (.slice J U I) ra/\Bl W w'):=λW hW=>by have Jb:=Jc.trans (hW.mono Jc.size);refine(IH (aG La) _ S W Jx (HA.o.bel hS Jb).bk (λB hB=>l_ (hS B hB) Jb.size)).mono ?_;rintro e w' ⟨u,rfl,ht,Jo⟩;obtain⟨J,U,I,rfl⟩:=ht.slice;exact⟨J,U,I,rfl,by rw[Jm];exact ht.up Jb.size,Jo⟩
 have HO:Hid (∀W,Bl W0 W->Calls prog 36 #[.slice ab Z.length cb] W λe w'=>∃J U I,e=rW (.slice J U I)/\qu w w' S (.slice J U I) rb/\Bl W w'):=λW hW=>by have Jb:=Jc.trans (hW.mono Jc.size);refine(IH (aG Z) _ S W Jy (HB.o.bel hS Jb).bk (λB hB=>l_ (hS B hB) Jb.size)).mono ?_;rintro e w' ⟨u,rfl,ht,Jo⟩;obtain⟨J,U,I,rfl⟩:=ht.slice;exact⟨J,U,I,rfl,by rw[Jp];exact ht.up Jb.size,Jo⟩
 have HY:Hid (∀W,Bl W0 W->W.cell? ⟨w.heap.size,0,none⟩=some (.iface tx yx)/\W.cell? ⟨w.heap.size,1,none⟩=some (.slice aa La.length ca)/\W.cell? ⟨w.heap.size,2,none⟩=some (.slice ab Z.length cb)):=λW hW=>by rw[hW.cell (p:=⟨w.heap.size,0,none⟩) H6,hW.cell (p:=⟨w.heap.size,1,none⟩) H6,hW.cell (p:=⟨w.heap.size,2,none⟩) H6,Jf];exact⟨i_,i_,i_⟩
 have Jg:Hid (Bl W0 W0.drew):=r_.drew;have Xc:=ah Jf;have Xd:w.heap.size<W0.heap.size:=o_;have HK:=ah hk;have HM:Hid (aV s (aM (aG La)) (aM (aG Z))=aV s ra rb):=by show _=_;rw[Jm,Jp]
 have Xb:W0.heap.size<=w.heap.size+1/\w.heap.size+1<=W0.heap.size:=o_;have J:=λW v=>lO W v;clear hx ha hb hS Jm Jp Jf hk Jx Jy J_;go_in;go_upto_region 4 with fail;rw[<-Xc.o];go_cut [4,5]from 15 (λp q W=>∃J U I a2 n2 c2,p=.slice J U I/\q=.slice a2 n2 c2/\qu w W S (.slice J U I) ra/\qu w W S (.slice a2 n2 c2) rb/\Bl W0 W)
 case first=>
  have⟨y0,y1,y2⟩:=HY.o _ Jg;go_region_held (λW=>W.cell? ⟨w.heap.size,1,none⟩=some (.slice aa La.length ca)/\W.cell? ⟨w.heap.size,2,none⟩=some (.slice ab Z.length cb)) (go_keep)
   (first
   | ((with_reducible refine Calls.mono (HT.o _ Jg.o) ?_);intro x wt hx;obtain⟨J,U,I,Jn,Jh,Jq⟩:=hx;subst Jn;have Jd:Bl W0 wt:=Jg.o.trans (Jq.mono i_);have q:=(HY.o wt Jd).2)
   | ((with_reducible refine Calls.mono (HO.o _ Jd) ?_);intro x wo hx;obtain⟨a2,n2,c2,Jn,Ji,Je⟩:=hx;subst Jn;have Ju:Bl W0 wo:=Jd.trans (Je.mono Jd.size);have q:=(HY.o wo Ju).2))
  all_goals (go_wp2_with fail)
  all_goals go_meet
  exact⟨_,_,_,_,_,_,rfl,rfl,Jh.bel (λB hB=>Ia (HS.o B hB) Jd.size) Je,Ji,Ju⟩
 case rest=>
  obtain⟨Xg,U,I,Xe,n2,c2,rfl,rfl,Jh,Ji,Jk⟩:=hcut;have Jv:=ah Jh;have Jt:=ah Ji;have Ja:Bl w wc:=Jc.trans (Jk.mono Jc.size);have⟨y0,y1,y2⟩:=HY.o wc Jk;have Jr:∀B,S B->B<wc.heap.size:=λB hB=>l_ (HS.o B hB) Ja.size;have Jj:=ah Jr;clear Jh Ji Jr HT HO HY Jg Jk;cases hn:dY s.e with
  | some z=>
   have HN:=ah hn;have hv:=HX.o.some hn;simp only[Value.iface.injEq]at hv;obtain⟨rfl,rfl⟩:=hv;have b1:=λW v=>bQ W v;clear hn;by_cases hz:z=0
   ·have HE:Hid (aV s ra rb=rb):=(by show _=_;unfold aV;rw[if_pos HK.o,HN.o];simp[hz]);subst hz;go_wp2;go_ret;exact⟨_,rfl,by rw[HM.o,HE.o];exact Jt.o.bel Jj.o (ao _ _),Ja.alloc Ja.size _⟩
   have HE:Hid (aV s ra rb=ra):=(by show _=_;unfold aV;rw[if_pos HK.o,HN.o];simp[hz]);go_wp2;go_ret;exact⟨_,rfl,by rw[HM.o,HE.o];exact Jv.o.bel Jj.o (ao _ _),Ja.alloc Ja.size _⟩
  | none=>
   have HN:=ah hn;have⟨tt,yy,hv,Jz⟩:=HX.o.none hn;simp only[Value.iface.injEq]at hv;obtain⟨rfl,rfl⟩:=hv;have b1:=λW=>aS W tx yx Jz;have HE:Hid (aV s ra rb={s with th:=ra.length,el:=rb.length}::(ra++rb)):=(by show _=_;unfold aV;rw[if_pos HK.o,HN.o]);have Xa:w.heap.size<wc.heap.size:=b_ y0;have Xf:=λo=>(cell?_alloc_lt wc o ⟨w.heap.size,0,none⟩ Xa).trans y0;clear hn;go_wp2;go_ret;refine⟨_,rfl,?_,(Ja.alloc Ja.size _).alloc (by have:=Ja.size;simp;omega) _⟩;rw[HM.o,HE.o];have Jw:Bl w (wc.alloc (.cells #[V 0] 157)):=Ja.alloc Ja.size _;have Js:Bl wc (wc.alloc (.cells #[V 0] 157)):=ao _ _;obtain⟨S1,M1,m1,s1,f1,-⟩:=Jv.o.bel Jj.o Js;obtain⟨S2,M2,m2,s2,f2,-⟩:=Jt.o.bel Jj.o Js;have q:=Jl s (HX.o.keep (λ_ h=>h) (λB hB=>Jw.block B (HS.o B hB))) HK.o m1 m2;rw[f1,f2]at q;have:=td (S:=S) (S1:=λB=>S1 B\/S2 B) 124 q HS.o (λB hB=>by rcases hB with hB|hB;exact s1 B hB;exact s2 B hB) Jw
   simpa using this
end
def zj(w w':AT)(S:Ft):qu w w' S nV []:=
 ⟨λ_=>False,[],⟨⟨none,0,rfl,n_,o_,λh=>absurd h (Nat.lt_irrefl _)⟩,λq hq=>by cases hq⟩,λB hB=>hB.elim,rfl,dR.nil⟩
theorem qy(N:Nat)(IH:mR N)(s:St)(x va:BY)(I:List (BY×List St))(S:Ft)(w:AT)(hk:s.kd=5)(hx:Tv w S x s.e)(ha:kr w S va I)(Jm:(aG I).length<=N)(hS:∀B,S B->B<w.heap.size):
  Calls prog 64 #[.iface 160 (.agg #[x,va])] w λe w'=>∃u,e=rW u/\qu w w' S u (aV s (aM (aG I)) [])/\Bl w w':=by
 have HX:=ah hx;have HA:=ah ha;have HS:=ah hS;obtain⟨tx,U,rfl⟩:=hx.isI;obtain⟨aa,ca,rfl,-⟩:=ha.args;have⟨Z,Jg⟩:=q_ (aM (aG I));rw[<-Jg];have⟨W0,Ja⟩:=q_ (w.alloc (.cells #[.iface tx U,.slice aa I.length ca] 160));have Jb:Bl w W0:=by rw[Ja];exact r_.alloc n_ _
 have Jx:W0.heap.size=w.heap.size+1:=by rw[Ja];simp
 have HT:Hid (∀W,Bl W0 W->Calls prog 36 #[.slice aa I.length ca] W λe w'=>∃a1 n1 c1,e=rW (.slice a1 n1 c1)/\qu w w' S (.slice a1 n1 c1) Z/\Bl W w'):=λW hW=>by have Jh:=Jb.trans (hW.mono Jb.size);refine(IH (aG I) _ S W Jm (HA.o.bel hS Jh).bk (λB hB=>l_ (hS B hB) Jh.size)).mono ?_;rintro e w' ⟨u,rfl,ht,Jt⟩;obtain⟨a1,n1,c1,rfl⟩:=ht.slice;exact⟨a1,n1,c1,rfl,by rw[Jg];exact ht.up Jh.size,Jt⟩
 have y0:W0.cell? ⟨w.heap.size,0,none⟩=some (.iface tx U):=by rw[Ja];simp
 have y1:W0.cell? ⟨w.heap.size,1,none⟩=some (.slice aa I.length ca):=by rw[Ja];simp
 have Ji:=ah Ja;have HK:=ah hk;have a1:=λW v=>gJ W v;have a2:=λW v=>em W 160 v d_;have Jp:W0.heap.size<=w.heap.size+1/\w.heap.size+1<=W0.heap.size:=o_
 have Jl:s.kd≠4:=o_;clear hx ha hS Jg hk Jm;by_cases h0:dY s.e=some 0
 ·have J:=HX.o.some h0;simp only[Value.iface.injEq]at J;obtain⟨rfl,rfl⟩:=J;have b1:=λW v=>bQ W v;have HE:Hid (aV s Z []=[]):=by show _=_;unfold aV;rw[if_neg Jl,if_pos HK.o,h0];simp
  clear h0 Ja;go_in;go_wp2_with fail;rw[<-Ji.o];go_ret;exact⟨_,rfl,by rw[HE.o];exact zj _ _ _,Jb.alloc Jb.size _⟩
 have HE:Hid (aV s Z []={s with th:=Z.length,el:=0}::Z):=by show _=_;unfold aV;rw[if_neg Jl,if_pos HK.o,if_neg h0];simp
 obtain⟨zz,kn,Jy,Jq⟩:∃(zz:Int) (kn:Bool),(∀W:AT,(Instr.typeAssert (.iface tx U) 127 157 true).run prog W=.ok (.tuple #[.agg #[V zz],.bool kn]) W)/\(kn=false\/(kn=true/\zz≠0)):=by
  cases hn:dY s.e with
  | some z=>have J:=HX.o.some hn;simp only[Value.iface.injEq]at J;obtain⟨rfl,rfl⟩:=J;exact⟨z,true,λW=>bQ W _,.inr ⟨rfl,λh=>h0 (by rw[hn,h])⟩⟩
  | none=>have⟨tt,yy,J,Jo⟩:=HX.o.none hn;simp only[Value.iface.injEq]at J;obtain⟨rfl,rfl⟩:=J;exact⟨0,false,λW=>aS W tx U Jo,.inl rfl⟩
 have⟨W1,Jf⟩:=q_ (W0.alloc (.cells #[V zz] 157));have Jv:Bl W0 W1:=by rw[Jf];exact r_.alloc n_ _
 have Jr:=ah Jf;have Je:Bl W0 W1.drew:=Jv.drew;have HY:Hid (∀W,Bl W0 W->W.cell? ⟨w.heap.size,0,none⟩=some (.iface tx U)/\W.cell? ⟨w.heap.size,1,none⟩=some (.slice aa I.length ca)):=λW hW=>⟨(hW.cell (p:=⟨w.heap.size,0,none⟩) H6).trans y0,(hW.cell (p:=⟨w.heap.size,1,none⟩) H6).trans y1⟩;have⟨z0,z1⟩:=HY.o _ Je;have Ju:=ah (HT.o _ Je);clear h0 Ja HT Jf;rcases Jq with rfl|⟨rfl,Jz⟩;all_goals
  go_in;go_upto_region 16 with fail;rw[<-Ji.o,<-Jr.o];go_region_held (λW=>W.cell? ⟨w.heap.size,0,none⟩=some (.iface tx U)/\W.cell? ⟨w.heap.size,1,none⟩=some (.slice aa I.length ca)) (go_keep)
   (first|((with_reducible refine Calls.mono Ju.o ?_);intro x wt hx;obtain⟨Jw,n1,c1,Jn,Jk,Jc⟩:=hx;subst Jn;have Jj:Bl W0 wt:=Je.trans (Jc.mono Je.size);have q:=HY.o wt Jj))
  have Js:=ah Jk;have Jd:Bl w wt:=Jb.trans (Jj.mono Jb.size);clear Jk Jc q z0 z1;go_wp2;go_ret;refine⟨_,rfl,?_,Jd.alloc Jd.size _⟩;rw[HE.o];obtain⟨S1,M1,m1,s1,f1,-⟩:=Js.o;have q:=Dz s (HX.o.keep (λ_ h=>h) (λB hB=>Jd.block B (HS.o B hB))) HK.o m1;rw[f1]at q;exact td 124 q HS.o s1 Jd
theorem vq(N:Nat)(IH:mR N){v:BY}{l:List St}{S:Ft}{w:AT}{s:St}{a b:List St}(Z:l.length<=N+1)(hv:Bv w S v l)(hS:∀B,S B->B<w.heap.size)(I:wV l s a b):
  Calls prog 64 #[v] w λe w'=>∃u,e=rW u/\qu w w' S u (aV s (aM a) (aM b))/\Bl w w':=by
 have Ja:∀(t:JZ) (x:BY) (q:St),t≠155->t≠160->Bv w S (.iface t x) [q]->q.kd≠4->q.kd≠5->wV [q] s a b->Calls prog 64 #[.iface t x] w λe w'=>∃u,e=rW u/\qu w w' S u (aV s (aM a) (aM b))/\Bl w w':=by
  intro t x q h h2 hb k4 k5 Jb;have e:=Jb.is;simp only[List.cons.injEq]at e;obtain⟨rfl,e⟩:=e;have ea:a=[]:=(append_eq_nil_iff.1 e.symm).1;have U:b=[]:=(append_eq_nil_iff.1 e.symm).2;subst ea U;have et:=Jb.th;have el:=Jb.el;have hm:aV q (aM []) (aM [])=[q]:=by unfold aV;rw[if_neg k4,if_neg k5];obtain⟨k,n,e1,f1,t1,l1⟩:=q;simp only[gP]at*;simp only[et,el,append_nil]
  refine(qv t x h h2 w).mono ?_;rintro e w' ⟨rfl,rfl⟩;refine⟨_,rfl,?_,r_.alloc n_ _⟩;rw[hm];exact td (S1:=λ_=>False) 124 (hb.keep (λB hB=>.inl hB) (λ_ _=>rfl)) hS (λB hB=>hB.elim) r_
 cases hv using Bv_i with
 | decl q x h h2 h3 h4=>exact Ja _ _ q d_ d_ (.decl q x h h2 h3 h4) o_ o_ I
 | set q x h h2 h3 h4=>exact Ja _ _ q d_ d_ (.set q x h h2 h3 h4) o_ o_ I
 | store q x y h h2 h3 h4 h5=>exact Ja _ _ q d_ d_ (.store q x y h h2 h3 h4 h5) o_ o_ I
 | ret q x h h2 h3 h4=>exact Ja _ _ q d_ d_ (.ret q x h h2 h3 h4) o_ o_ I
 | out q x h h2 h3 h4=>exact Ja _ _ q d_ d_ (.out q x h h2 h3 h4) o_ o_ I
 | call q x h h2 h3 h4=>exact Ja _ _ q d_ d_ (.call q x h h2 h3 h4) o_ o_ I
 | ifs q x va vb A B vs us F H h h2 h3 h4 h5 h6 h7 h8=>
  have e:=I.is;simp only[cons_append,List.cons.injEq]at e;obtain⟨rfl,e⟩:=e;have ea:a=bW F A:=by have l1:=I.th;rw[h7]at l1;have:(bW F A++bW H B).take (bW F A).length=(a++b).take (bW F A).length:=(by rw[e]);rw[take_left,show(bW F A).length=a.length by omega,take_left]at this;exact this.symm
  subst ea;have U:b=bW H B:=(append_cancel_left e).symm;subst U;simp only[l_c,l_a]at Z;have J:=fF vs F A;have r2:=fF us H B;rw[J,r2];rw[J,r2]at Z;exact xQ N IH q x va vb _ _ S w h h2 (h3.toL h4) (h5.toL h6) o_ o_ hS
 | whil q x va A vs F h h2 h3 h4 h5 h6=>have e:=I.is;simp only[List.cons.injEq]at e;obtain⟨rfl,e⟩:=e;have U:b=[]:=J3 (Ka I.el);subst U;rw[append_nil]at e;subst e;simp only[l_c]at Z;have J:=fF vs F A;rw[J];rw[J]at Z;exact qy N IH q x va _ S w h h2 (h3.toL h4) o_ hS
section
variable{w wr wc w':AT}{S S':Ft}{v:BY}{R:List (BY×List St)}{o:Obj}
structure qz (w wr:AT) (S S':Ft) (v:BY) (R:List (BY×List St)):Prop where
 row:wr.ownsRow w.heap.size 124 1 v (R.map (·.1)).length (R.map (·.1))
 bv:∀q∈R,Bv wr (λB=>S B\/S' B) q.1 q.2
 rng:∀B,S' B->w.heap.size<=B/\B<wr.heap.size/\some B≠v.ownBlock
 bel:Bl w wr
def qz.nil(w:AT)(S:Ft):qz w w S (λ_=>False) nV []:=
 ⟨ownsRow_nil _ _ _ _,λq hq=>(by cases hq),λB hB=>hB.elim,r_⟩
def qz.bel'{w1:AT}(h:qz w wr S S' v R)(hS:∀B,S B->B<w.heap.size)(I:Bl wr w1):qz w w1 S S' v R:=by
 have hs:=h.bel.size;refine⟨ownB h.row I,λq hq=>(h.bv q hq).bel (λB hB=>?_) I,λB hB=>?_,h.bel.trans (I.mono hs)⟩;rcases hB with hB|hB
 have:=hS B hB;omega
 exact(h.rng B hB).2.1
 have⟨Z,J,U⟩:=h.rng B hB;exact⟨Z,l_ J I.size,U⟩
def qz.more{I:Ft}(h:qz w wr S S' v R)(h2:∀B,I B->w.heap.size<=B/\B<wr.heap.size/\some B≠v.ownBlock):qz w wr S (λB=>S' B\/I B) v R:=by refine⟨h.row,λq hq=>(h.bv q hq).keep (λB hB=>?_) (λ_ _=>rfl),λB hB=>?_,h.bel⟩;rcases hB with hB|hB;exact .inl hB;exact .inr (.inl hB);rcases hB with hB|hB;exact h.rng B hB;exact h2 B hB
def qz.next{v' u:BY}{l:List St}(h:qz w wc S S' v R)(Z:∀B,S B->B<w.heap.size)(hu:Bv wc (λB=>S B\/S' B) u l)
  (J:(wc.alloc o).grownBy w' v.ownBlock) (Ja:w'.ownsRow w.heap.size 124 1 v' (R.map (·.1)++[u]).length (R.map (·.1)++[u])) (hf:∀k,v'.ownBlock=some k->v.ownBlock=some k\/(wc.alloc o).heap.size<=k):qz w w' S S' v' (R++[(u,l)]):=by
 have hs:=h.bel.size;have U:∀k,v.ownBlock=some k->w.heap.size<=k/\k<wc.heap.size:=λk I=>ownsRow.lt h.row k I;have I:∀B,S B\/S' B->w'.heap[B]? =wc.heap[B]? := λB hB=>by
  have Jb:B<wc.heap.size:=by
   rcases hB with hB|hB
   have:=Z B hB;omega
   exact(h.rng B hB).2.1
  have Jc:some B≠v.ownBlock:=by
   rcases hB with hB|hB;intro e;have:=U B e.symm
   have:=Z B hB
   omega;exact(h.rng B hB).2.2
  rw[J.block B H6 Jc];exact((Below.refl wc.heap.size wc).alloc n_ o).block B Jb
 refine⟨IN Ja,λq hq=>?_,λB hB=>?_,?_⟩;rcases J5.1 hq with hq|hq;exact(h.bv q hq).keep (λ_ h=>h) I;simp only[J7]at hq;subst hq;exact hu.keep (λ_ h=>h) I
 have⟨r1,r2,r3⟩:=h.rng B hB;refine⟨r1,?_,λe=>?_⟩
 have:=J.size
 simp at this;omega;rcases hf B e.symm with h1|h1;exact r3 h1.symm;simp at h1;omega;exact(h.bel.alloc hs o).grown J H6 (λg hg'=>(U g hg').1)
def qz.keepB(h:qz w wc S S' v R)(I:∀B,S B->B<w.heap.size)(J:(wc.alloc o).grownBy w' v.ownBlock):∀B,S B\/S' B->w'.heap[B]? =wc.heap[B]? := by
 intro B hB;have hs:=h.bel.size;have hlt:B<wc.heap.size:=by
  rcases hB with hB|hB
  have:=I B hB;omega
  exact(h.rng B hB).2.1
 have Ja:some B≠v.ownBlock:=by
  rcases hB with hB|hB
  ·intro e;have:=(ownsRow.lt h.row B e.symm).1
   have:=I B hB
   omega
  exact(h.rng B hB).2.2
 rw[J.block B H6 Ja];exact((Below.refl wc.heap.size wc).alloc n_ o).block B hlt
def qz.tid(h:qz w wr S S' v R)(hr:dR R):qu w wr S v (aG R):=by
 have Z:=h.row;refine⟨λB=>S' B\/v.ownBlock=some B,R,⟨?_,λq hq=>(h.bv q hq).keep (λB hB=>?_) (λ_ _=>rfl)⟩,λB hB=>?_,rfl,hr⟩;rcases h.row.2 with⟨I,J⟩|⟨g,Jd,Je,I,Jf,hg,Ja,Jc,Jg,Jb⟩;rw[J8]at J;exact⟨none,0,by rw[I,J],o_,o_,λhp=>by omega⟩;rw[J8]at Ja I;refine⟨_,Jd,I,Ja,by unfold maxLen at Jc;omega,λhp=>⟨g,rfl,.inr (.inr (by rw[I];rfl)),λi hi=>?_⟩⟩;have U:(R.map (·.1))[i]? =some ((R.getD i (.nilFunc,[])).1):=by simp[getD_eq_getElem?_getD,J4 hi]
 have:=ownsRow.cells Z (g:=g) (by rw[I];rfl) i _ U
 rw[dk]at this;simpa using this;rcases hB with hB|hB;exact .inl hB;exact .inr (.inl hB);rcases hB with hB|hB;exact⟨(h.rng B hB).1,(h.rng B hB).2.1⟩;exact ownsRow.lt h.row B hB
end
section
variable{M:List (BY×List St)}
def mg{L:List (BY×List St)}{k:Nat}(I:k<L.length):L[k].2.length<=(aG L).length:=by
 have e:L=L.take k++(L[k]::L.drop (k+1)):=by rw[getElem_cons_drop,take_append_drop]
 have h:=congrArg (λX=>(aG X).length) e;simp only[flatL_append,flatL_cons,l_a]at h;omega
def Hw(h:∀q∈M,im q.2=false):M.any (λq=>im q.2)=false:=by rw[any_eq_false];intro q I;simp[h q I]
def DA{j:Nat}(J:j<M.length){P:BY×List St->Prop}(h:∀q∈M.take j,P q)(I:P M[j]):∀q∈M.take (j+1),P q:=by intro q hm;rw[take_succ_eq_append_getElem J]at hm;rcases J5.1 hm with hm|hm;exact h q hm;simp only[J7]at hm;subst hm;exact I
def vu(N:Nat)(hN:N<=1000)(IH:mR N):mR (N+1):=by
 intro ss v S w hl hB hS;obtain⟨L,hL,rfl⟩:=hB.toL;have HL:=ah hL;obtain⟨a,Yy,rfl,Yp,Yr,Jb⟩:=hL.args;have Yl:=ah Jb;have J:=ah hS;have Yg:=ah IH;have Jj:=ah hl;have Yw:L.length<=N+1:=by
  have:=HL.o.bk
  have h2:=HL.o.parts;have:=f_ L.length (λi hi=>(h2.2.1 i hi).pos);rw[h2.2.2]at this;omega
 have⟨iS,Xr,Js,Jh,Jf⟩:=info_parts zh;have HI:Hid (prog.info? 124=some iS/\iS.zero=some .nilIface/\iS.size=1/\iS.bytes=16):=⟨Xr,Js,Jh,Jf⟩;clear Jb hS IH hl hB hL Xr Js Jh Jf;go_in;go_wp2;go_loopw[3,12] (λp i wr=>∃(k:Nat) (R:List (BY×List St)) (S':Ft),k<=L.length/\i=V k/\qz w wr S S' p R/\(∀q∈R,im q.2=false)/\aM (aG L)=aG R++aM (aG (L.drop k))/\(aG R).length+(aG (L.drop k)).length<=N+1) (λ_ i _=>L.length-(RowKit.intOf i).toNat)
 case atStart=>exact⟨0,[],λ_=>False,y_,rfl,qz.nil w S,λq hq=>(by cases hq),by simp[kg],by simpa[kg]using Jj.o⟩
 case round=>
  obtain⟨k,R,S',hk,rfl,hT,Xt,Yd,Jx⟩:=hrel;have I:=ah hT;have Xh:=ah Xt;have Jz:=ah Yd;obtain⟨va,vn,vc,rfl⟩:∃va vn vc,u3=.slice va vn vc:=by rcases hT.row.2 with⟨rfl,_⟩|⟨g,cp,Xq,rfl,_⟩;exact⟨_,_,_,rfl⟩;exact⟨_,_,_,rfl⟩
  clear hT Xt Yd;by_cases hlt:k<L.length
  ·obtain⟨B,rfl,Ya,Xy⟩:=Yl.o o_;have hm:L[k]∈L:=g_ hlt;have Jl:=HL.o.bv _ hm;have⟨s,Z,U,ho⟩:=Jl.one;have⟨tk,yk,Xd⟩:=Jl.isI;have c0:=(I.o.bel.cell (p:=⟨B,k,none⟩) (J.o B Ya)).trans (Xy k hlt);rw[getD_at hlt,Xd]at c0;rw[Xd]at Jl;have Xs:∀B,S B->B<wr.heap.size:=λB hB=>l_ (J.o B hB) I.o.bel.size;have Xn:=ah (vq N Yg.o (Ia (mg hlt) Jj.o) (Jl.bel J.o I.o.bel) Xs ho);have Xk:L.drop k=L[k]::L.drop (k+1):=(getElem_cons_drop (h:=hlt)).symm;have Xm:Hid (aM (aG (L.drop k))=if ed (aV s (aM Z) (aM U))=true then aV s (aM Z) (aM U)else aV s (aM Z) (aM U)++aM (aG (L.drop (k+1)))):=(by show _=_;rw[Xk,flatL_cons];exact ho.tidy _);have Xx:(aV s (aM Z) (aM U)).length<=L[k].2.length:=by have h1:=lH s (aM Z) (aM U);have h2:=fW Z.length Z n_;have h3:=fW U.length U n_;have h4:=congrArg List.length ho.is;simp only[l_c,l_a]at h4;omega
   rw[Xk,flatL_cons,l_a]at Jx;clear hm Jl Xs Xk ho Xy Xd;generalize aV s (aM Z) (aM U)=mo at Xn Xm Xx;generalize hLk:L[k].2.length=lk at Xx Jx;have Yf:(aG R).length+mo.length+(aG (L.drop (k+1))).length<=N+1:=o_;clear hLk Jx;go_wp2_with fail;refine Xn.o.mono ?_;rintro x w1 ⟨u,rfl,⟨S2,M,hM,X_,Xb,Xw⟩,Ye⟩;have Jq:=ah Xb;have Xo:=ah Xw;have HM:=ah hM;have Ys:M.length<=mo.length:=by have h2:=hM.parts;have:=f_ M.length (λi hi=>(h2.2.1 i hi).pos);rw[h2.2.2,Xb]at this;exact this
   have Yb:Hid (qz w w1 S (λB=>S' B\/S2 B) (.slice va vn vc) R):=(I.o.bel' J.o Ye).more (λB hB=>by have⟨e1,e2⟩:=X_ B hB;refine⟨t_ I.o.bel.size e1,e2,λe=>?_⟩;have:=ownsRow.lt I.o.row B e.symm;omega);obtain⟨au,cu,rfl,Yv,Yn,-⟩:=hM.args;have Yt:R.length<=2000:=by have h2:=f_ R.length (F:=λi=>(R.getD i (.nilFunc,[])).2) (λi hi=>by rw[getD_at hi];exact(I.o.bv _ (g_ hi)).pos);rw[jq R _ R.length n_,take_length]at h2;have h3:((R.map (·.2)).flatten).length=(aG R).length:=rfl;omega
   clear hM X_ Xb Xw Ye I c0 Xn Ya;go_wp2;go_loopw[3,19] (λp i wq=>∃(j:Nat),j<=M.length/\i=V j/\qz w wq S (λB=>S' B\/S2 B) p (R++M.take j)/\kr wq (λB=>S B\/S2 B) (.slice au M.length cu) M/\(∀q∈M.take j,im q.2=false)) (λ_ i _=>M.length-(RowKit.intOf i).toNat)
   case atStart=>exact⟨0,y_,rfl,IN Yb.o,HM,i_⟩
   case round=>
    clear Yb HM;obtain⟨j,hj,rfl,Jv,Je,Jp⟩:=hrel;have Jc:=ah Jv;have Xg:=ah Je;have Jd:=ah Jp;obtain⟨va,vn,vc,rfl⟩:∃va vn vc,u3=.slice va vn vc:=by rcases Jv.row.2 with⟨rfl,_⟩|⟨g,cp,Xq,rfl,_⟩;exact⟨_,_,_,rfl⟩;exact⟨_,_,_,rfl⟩
    clear Jv Jp;by_cases hjl:j<M.length
    ·have⟨_,_,he,_,_,Xz⟩:=Je.args;simp only[Value.slice.injEq]at he;obtain⟨rfl,-,rfl⟩:=he;obtain⟨B2,rfl,Xf,Jn⟩:=Xz o_;have c1:wr.cell? ⟨B2,j,none⟩=some (M.getD j (.nilFunc,[])).1:=Jn j hjl;rw[getD_at hjl]at c1;have Xu:M[j]∈M:=g_ hjl;have Xl:=Je.bv _ Xu;have⟨tj,yj,Jt⟩:=Xl.isI;rw[Jt]at c1;have Xa:Hid (Bv wr (λB=>S B\/(S' B\/S2 B)) (.iface tj yj) M[j].2):=by rw[<-Jt];exact Xl.keep (λB hB=>by rcases hB with hB|hB;exact .inl hB;exact .inr (.inr hB)) (λ_ _=>rfl)
     have⟨xs,Ju⟩:=q_ ((R++M.take j).map (·.1));have Yh:=ah Ju;have Ji:Hid ((wr.alloc (.cells #[.iface tj yj] 124)).ownsRow w.heap.size 124 1 (.slice va vn vc) xs.length xs):=(by rw[Ju];exact ownB Jc.o.row (ao _ _));have Jk:=ah (Src.lit wr (.iface tj yj) 124);have Jm:xs.length<=5000:=(by rw[Ju];simp;omega);have Xi:=ah Jm;have Yq:=Jc.o.bel.size;have Yj:Hid (M[j]=(.iface tj yj,M[j].2)):=(by show _=_;rw[<-Jt]);clear Jn Xz Je Xu Xl Jt Jm Xf Ju;go_wp2_with(at_builtin;refine mC (P:=prog) rfl _ _ 85 rfl w.heap.size 124 iS .nilIface underlying85 HI.o.1 HI.o.2.1 HI.o.2.2.1 HI.o.2.2.2 rfl (.slice va vn vc) xs rfl Ji.o (rV wr.heap.size 1 1) [.iface tj yj] rfl Jk.o (λu hu=>by simp only[J7]at hu;subst hu;rfl) (by have:=Xi.o;simp only[length_singleton];omega) H6 ?_);intro v3 w3 Xc J_ Xv;have Jr:Hid (qz w w3 S (λB=>S' B\/S2 B) v3 (R++M.take (j+1))):=by have h:=Jc.o.next (o:=.cells #[.iface tj yj] 124) J.o Xa.o J_ (v':=v3) (by rw[Yh.o]at Xc;rw[l_a];exact Xc) (IN Xv);rw[<-Yj.o,append_assoc,<-take_succ_eq_append_getElem hjl]at h;exact h
     have Yc:=ah (Xg.o.keep (λ_ h=>h) (λB hB=>Jc.o.keepB J.o J_ B (by rcases hB with hB|hB;exact .inl hB;exact .inr (.inr hB))));obtain⟨Yo,Yx,Yu,rfl⟩:∃va vn vc,v3=.slice va vn vc:=by rcases Jr.o.row.2 with⟨rfl,_⟩|⟨g,cp,Xq,rfl,_⟩;exact⟨_,_,_,rfl⟩;exact⟨_,_,_,rfl⟩
     clear Xc J_ Xv Ji Jk c1 Jc Xg;by_cases hr:im M[j].2=true
     ·obtain⟨xr,Jo,tr,yr,rfl⟩:=Xa.o.ret_is hr;simp only[Value.iface.injEq]at Jo;obtain⟨rfl,rfl⟩:=Jo;have a1:=λW v=>iB W v;have Ja:Hid (dR (R++M)/\M.take (j+1)=M/\aM (aG L)=aG (R++M)):=by
       have Jw:j+1=M.length:=by
        by_cases h:j+1<M.length
        have:=Xo.o j h
        rw[getD_at hjl,hr]at this;cases this;omega
       have Xj:ed mo=true:=by rw[<-Jq.o,mf M Yc.o.ones,any_eq_true];exact⟨M[j],g_ hjl,hr⟩
       refine⟨dR.join Xh.o Xo,by rw[Jw,take_length],?_⟩;rw[Jz.o,Xm.o,if_pos Xj,flatL_append,Jq.o]
      clear hr;go_wp2;go_ret;have Jg:=Jr.o;rw[Ja.o.2.1]at Jg;refine⟨_,rfl,?_,Jg.bel.alloc Jg.bel.size _⟩;rw[Ja.o.2.2];exact(Jg.tid Ja.o.1).bel (λB hB=>l_ (J.o B hB) Jg.bel.size) (ao _ _)
     have Xe:im M[j].2=false:=(IN hr);have⟨tt,yy,Jo,Xp⟩:=Xa.o.ret_no Xe;simp only[Value.iface.injEq]at Jo;obtain⟨rfl,rfl⟩:=Jo;have a1:=λW=>fN W tj yj Xp;have Yi:=ah Xe;have Jy:Bl w3 (w3.alloc (.cells #[.nilIface] 129)):=ao _ _;have Ym:=ah (Jr.o.bel' J.o Jy);have Yk:Hid (kr (w3.alloc (.cells #[.nilIface] 129)) (λB=>S B\/S2 B) (rV B2 M.length cu) M):=Yc.o.bel (λB hB=>by rcases hB with hB|hB;exact l_ (J.o B hB) Jr.o.bel.size;exact(Jr.o.rng B (.inr hB)).2.1) Jy
     clear hr Xe Xp Jy;go_wp2;go_roundw
     case rel=>exact⟨j+1,o_,by go_num,Ym,Yk,DA hjl Jd.o Yi⟩
     case measure=>exact IF
    have Jw:j=M.length:=o_;have Ja:Hid ((∀q∈R++M,im q.2=false)/\qz w wr S (λB=>S' B\/S2 B) (.slice va vn vc) (R++M)/\aM (aG L)=aG (R++M)++aM (aG (L.drop (k+1)))/\(aG (R++M)).length+(aG (L.drop (k+1))).length<=N+1):=by
     have h1:=Jd.o;have h2:=Jc.o;rw[Jw,take_length]at h1 h2;have Xj:ed mo=false:=by rw[<-Jq.o,mf M Je.ones];exact Hw h1
     refine⟨λq hq=>?_,h2,?_,?_⟩;rcases J5.1 hq with hq|hq;exact Xh.o q hq;exact h1 q hq;rw[Jz.o,Xm.o,Xj,flatL_append,Jq.o,append_assoc];rfl;rw[flatL_append,Jq.o,l_a];omega
    clear Jc Xg Jd Je;go_wp2;go_roundw
    case rel=>exact⟨k+1,R++M,_,o_,by go_num,Ja.o.2.1,Ja.o.1,Ja.o.2.2.1,Ja.o.2.2.2⟩
    case measure=>exact IF
  obtain rfl:k=L.length:=(by omega);have HE:Hid (aM (aG L)=aG R):=by show _=_;have:=Jz.o;rw[drop_length]at this;simpa[kg,gP]using this
  go_wp2;go_ret;refine⟨_,rfl,?_,I.o.bel⟩;rw[HE.o];have:=I.o.tid (by simpa using dR.join Xh.o dR.nil);exact this
def vw:mR 0:=by
 intro ss v S w Z J hS;obtain⟨L,I,rfl⟩:=J.toL;have U:L=[]:=by have h2:=I.parts;have:=f_ L.length (λi hi=>(h2.2.1 i hi).pos);rw[h2.2.2]at this;exact J3 o_
 subst U;obtain⟨a,Ja,rfl,-⟩:=I.args;go_in;go_wp2_with fail;refine wp_loop_rounds 1 ?_;rw[rounds_succ];go_wp2;go_ret;exact⟨_,rfl,zj _ _ _,r_⟩
theorem pM:∀N,N<=1000->mR N
 | 0,_=>vw
 | N+1,h=>vu N o_ (pM N o_)
end
section
variable{B:Nat}{w:AT}{v:BY}
def dH.cell1{I:List Nd}{K:List Nat}(h:dH B w v I K):v.oneCell'=true:=by rcases h with⟨-,-,a,c,rfl,-⟩|⟨g,Ja,rfl,-⟩ <;> rfl
def jN{u:BY}{R I:List SV}(ty:JZ)(h:bP B w v R)(h2:bP B w u I)(hB:B<=w.heap.size)(Jf:∀x∈dP R,∀y∈dP I,x≠y)(hv:∀g,v.ownBlock=some g->g∉dP I)(hm:R.length+I.length<=100000):
  ∃v' w',(Builtin.append_ #[50,50] ty #[v,u]).run prog w=.ok v' w'/\bP B w' v' (R++I)/\w.grownBy w' v.ownBlock/\∀k,v'.ownBlock=some k->v.ownBlock=some k\/w.heap.size<=k:=by
 have⟨i0,hi,Jg,Ji,Jj⟩:=info_parts gS;obtain⟨a,c,rfl⟩:=h2.shape;have Ja:∀ad,a=some ad->∀j x,(bO I)[j]? =some x->w.cell? (ad.add j)=some x:=λad hh j x hj=>by subst hh;rcases h2.row.2 with⟨U,-⟩|⟨g,Jh,Jk,U,-⟩;simp at U;simp only[Value.slice.injEq,J0]at U;obtain⟨rfl,-,-⟩:=U;exact World.ownsRow.cells h2.row (g:=g) rfl j x hj
 have Je:a=none->I.length=0:=λhh=>by subst hh;rcases h2.row.2 with⟨-,hz⟩|⟨g,Jh,Jk,U,-⟩;exact hz;simp at U
 have⟨v',w',r1,r2,J,r4⟩:=cU (P:=prog) (w:=w) B 50 ty 79 i0 _ 6 88 underlying50 hi Jg Ji Jj rfl d_ v R.length (bO R) h.row a I.length c (bO I) Je (eE I) Ja (gR I λq hq=>⟨(h2.each q hq).1.cell1,(h2.each q hq).2.cell1⟩) o_ d_ hB;refine⟨v',w',r1,⟨by rw[l_a,jb];exact r2,λq hq=>?_,?_,λg hg hmem=>?_⟩,J,r4⟩
 have Z:∀g∈dP (R++I),w'.heap[g]? =w.heap[g]? := λg hg=>by rw[iu]at hg;rcases J5.1 hg with hg|hg;exact J.block g (h.rng g hg).2 (λe=>h.out g e.symm hg);exact J.block g (h2.rng g hg).2 (λe=>hv g e.symm hg)
 have Jc:=gK hq;rcases J5.1 hq with Jb|Jb;exact⟨(h.each q Jb).1.keep J.size λg hg=>Z g (Jc.1 g hg),(h.each q Jb).2.keep J.size λg hg=>Z g (Jc.2 g hg)⟩;exact⟨(h2.each q Jb).1.keep J.size λg hg=>Z g (Jc.1 g hg),(h2.each q Jb).2.keep J.size λg hg=>Z g (Jc.2 g hg)⟩;rw[iu,List.nodup_append];exact⟨h.nd,h2.nd,Jf⟩;rw[iu]at hmem;rcases r4 g hg with Jd|Jd;rcases J5.1 hmem with hmem|hmem;exact h.out g Jd hmem;exact hv g Jd hmem;rcases J5.1 hmem with hmem|hmem
 ·have:=(h.rng g hmem).2;omega
 have:=(h2.rng g hmem).2;omega
end
theorem tg(nm:Io)(e f:List Nd)(x y:BY)(S:Ft)(w:AT)(hx:Tv w S x e)(hy:Tv w S y f)(hl:e.length<=2000)(Ju:f.length<=2000)(hS:∀B,S B->B<w.heap.size):
  Calls prog 68 #[.iface 167 (.agg #[sV nm,x,y])] w λr w'=>∃u,r=rW u/\te w w' u [⟨3,nm,e,f,0,0⟩]/\Bl w w':=by
 have HX:=ah hx;have HZ:=ah hy;obtain⟨tx,yx,rfl⟩:=hx.isI;obtain⟨ty,yy,rfl⟩:=hy.isI;have⟨W0,Jb⟩:=q_ (w.alloc (.cells #[sV nm,.iface tx yx,.iface ty yy] 167));have Jd:Bl w W0:=by rw[Jb];exact r_.alloc n_ _
 have Jr:W0.heap.size=w.heap.size+1:=by rw[Jb];simp
 have Jj:Bl W0 W0.drew:=r_.drew;have HY:Hid (∀W,Bl W0 W->W.cell? ⟨w.heap.size,0,none⟩=some (sV nm)/\W.cell? ⟨w.heap.size,1,none⟩=some (.iface tx yx)/\W.cell? ⟨w.heap.size,2,none⟩=some (.iface ty yy)):=λW hW=>⟨(hW.cell (p:=⟨w.heap.size,0,none⟩) H6).trans (by rw[Jb];simp),(hW.cell (p:=⟨w.heap.size,1,none⟩) H6).trans (by rw[Jb];simp),(hW.cell (p:=⟨w.heap.size,2,none⟩) H6).trans (by rw[Jb];simp)⟩;have HL:Hid (∀W,Bl W0 W->Calls prog 93 #[.iface tx yx] W λr w'=>∃a n c,r=rW (.slice a n c)/\(∃g,dH w.heap.size w' (.slice a n c) e [g]/\g<w'.heap.size)/\Bl W w'):=λW hW=>by have Jc:=Jd.trans (hW.mono Jd.size);refine(dl _ e S W (λB hB=>l_ (hS B hB) Jc.size) (HX.o.keep (λ_ h=>h) (λB hB=>Jc.block B (hS B hB))) hl).mono ?_;rintro r w' ⟨v,rfl,Z,hb⟩;obtain⟨g,U,-,Jo⟩:=Z.one;obtain⟨g',Jt,rfl,-⟩:=Z;exact⟨_,_,_,rfl,⟨g,U.base Jc.size,Jo⟩,hb⟩
 have HM:Hid (∀W,Bl W0 W->Calls prog 93 #[.iface ty yy] W λr w'=>∃a n c,r=rW (.slice a n c)/\(∃g,dH w.heap.size w' (.slice a n c) f [g]/\W.heap.size<=g)/\Bl W w'):=λW hW=>by have Jc:=Jd.trans (hW.mono Jd.size);refine(dl _ f S W (λB hB=>l_ (hS B hB) Jc.size) (HZ.o.keep (λ_ h=>h) (λB hB=>Jc.block B (hS B hB))) Ju).mono ?_;rintro r w' ⟨v,rfl,Z,hb⟩;obtain⟨g,U,Jo,-⟩:=Z.one;obtain⟨g',Jt,rfl,-⟩:=Z;exact⟨_,_,_,rfl,⟨g,U.base Jc.size,Jo⟩,hb⟩
 have Js:=ah Jb;have Jk:=λW v=>ch W 167 v d_;have Jp:=λW v=>dq W 167 v d_;have Ji:=λW v=>kV W v;have q0:=HY.o _ Jj;clear hx hy hS Jb Jr;go_in;go_upto_region 10 with fail;rw[<-Js.o];go_region_held (λW=>W.cell? ⟨w.heap.size,0,none⟩=some (sV nm)/\W.cell? ⟨w.heap.size,1,none⟩=some (.iface tx yx)/\W.cell? ⟨w.heap.size,2,none⟩=some (.iface ty yy)) (go_keep)
  (first
  | ((with_reducible refine Calls.mono (HL.o _ Jj) ?_);intro r wt hr;obtain⟨a1,n1,c1,Jl,Jf,Jh⟩:=hr;subst Jl;have Je:Bl W0 wt:=Jj.trans (Jh.mono Jj.size);have q:=HY.o wt Je)
  | ((with_reducible refine Calls.mono (HM.o _ Je) ?_);intro r wo hr;obtain⟨a2,n2,c2,Jl,Jg,Ja⟩:=hr;subst Jl;have Jm:Bl W0 wo:=Je.trans (Ja.mono Je.size);have q2:=HY.o wo Jm))
 have Jq:Hid (∃J I,dH w.heap.size wo (.slice a1 n1 c1) e [J]/\dH w.heap.size wo (.slice a2 n2 c2) f [I]/\J≠I):=by obtain⟨J,h1,l1⟩:=Jf;obtain⟨I,h2,l2⟩:=Jg;exact⟨J,I,h1.keep Ja.size λg U=>Ja.block g (h1.rng g U).2,h2,o_⟩
 have Jn:Bl w wo:=Jd.trans (Jm.mono Jd.size);clear Jf Jg Jh Ja q q2 q0 Je Jm;go_wp2;go_ret;have⟨J,I,h1,h2,h3⟩:=Jq.o;exact⟨_,rfl,⟨_,gC ⟨⟨3,nm,e,f,0,0⟩,.slice a1 n1 c1,.slice a2 n2 c2,[J],[I]⟩ Jn.size h1 h2 (IN h3),rfl⟩,Jn.alloc Jn.size _⟩
structure FE (s:St):Prop where
 e:s.e.length<=2000
 f:s.f.length<=2000
 nf:s.kd≠3->s.f=[]
 nn:3<s.kd->s.nm=⟨#[]⟩
def mS(N:Nat):Prop:=∀(ss:List St) (v:BY) (S:Ft) (w:AT),ss.length<=N->Bk w S v ss->(∀B,S B->B<w.heap.size)->(∀s∈ss,FE s)->Calls prog 40 #[v] w λe w'=>∃u,e=rW u/\te w w' u ss/\Bl w w'
section
variable{w w' W:AT}{u:BY}{ss:List St}
def te.shape(h:te w w' u ss):∃a c,u=.slice a ss.length c:=by obtain⟨R,I,rfl⟩:=h;obtain⟨a,c,rfl⟩:=I.shape;exact⟨a,c,by rw[J8]⟩
def ti(N:Nat)(hN:N<=1000)(IH:mS N)(e:List Nd)(x va:BY)(ss:List St)(S:Ft)(w:AT)(Z:Tv w S x e)(ha:Bk w S va ss)(J_:ss.length<=N)(hl:e.length<=2000)(hS:∀B,S B->B<w.heap.size)(Jz:∀s∈ss,FE s):
  Calls prog 68 #[.iface 160 (.agg #[x,va])] w λr w'=>∃u,r=rW u/\te w w' u (⟨5,⟨#[]⟩,e,[],ss.length,0⟩::ss)/\Bl w w':=by
 have HX:=ah Z;have HA:=ah ha;obtain⟨tx,yx,rfl⟩:=Z.isI;obtain⟨A,vs,F,⟨aa,ca,rfl,-⟩,-⟩:=ha;have⟨W0,Jg⟩:=q_ (w.alloc (.cells #[.iface tx yx,.slice aa A ca] 160));have Jb:Bl w W0:=by rw[Jg];exact r_.alloc n_ _
 have Xi:W0.heap.size=w.heap.size+1:=by rw[Jg];simp
 have HY:Hid (∀W,Bl W0 W->DO W w.heap.size 0 (.iface tx yx)):=λW hW=>(hW.cell (p:=⟨w.heap.size,0,none⟩) H6).trans (by rw[Jg];simp);have Jr:Hid (Calls prog 40 #[.slice aa A ca] W0 λr w'=>∃U J,r=rW (.slice U ss.length J)/\te W0 w' (.slice U ss.length J) ss/\Bl W0 w'):=by refine(IH ss _ S W0 J_ (HA.o.bel hS Jb) (λB hB=>l_ (hS B hB) Jb.size) Jz).mono ?_;rintro r w' ⟨u,rfl,hu,hb⟩;obtain⟨U,J,rfl⟩:=hu.shape;exact⟨U,J,rfl,hu,hb⟩
 have HL:Hid (∀W,Bl W0 W->Calls prog 93 #[.iface tx yx] W λr w'=>∃a n c,r=rW (.slice a n c)/\(∃g,dH w.heap.size w' (.slice a n c) e [g]/\W.heap.size<=g)/\Bl W w'):=λW hW=>by have Jq:=Jb.trans (hW.mono Jb.size);refine(dl _ e S W (λB hB=>l_ (hS B hB) Jq.size) (HX.o.keep (λ_ h=>h) (λB hB=>Jq.block B (hS B hB))) hl).mono ?_;rintro r w' ⟨v,rfl,hv,hb⟩;obtain⟨g,hg,Xg,-⟩:=hv.one;obtain⟨g',Xk,rfl,-⟩:=hv;exact⟨_,_,_,rfl,⟨g,hg.base Jq.size,Xg⟩,hb⟩
 have Xe:=ah Jg;have Jo:=λW v=>ch W 160 v d_;have Jx:=λW v=>dq W 160 v d_;have Ji:=λW v=>cT W 160 v d_;have Xc:=λW v=>em W 160 v d_;have Jk:=λW v=>gJ W v;obtain⟨I,Jm⟩:∃I:Nat,I=ss.length:=⟨_,rfl⟩;have Xb:=ah Jm;have Xa:I<=1000:=o_
 rw[<-Jm]at Jr⊢;clear Z hS Jg Jm J_ Jz IH;go_in;go_wp2_with fail;rw[<-Xe.o];refine Jr.o.mono ?_;rintro r w1 ⟨U,J,rfl,hR,Jl⟩;have y0:=HY.o w1 Jl;clear Jr;go_wp2_with fail;refine(HL.o _ Jl).mono ?_;rintro r w2 ⟨a2,n2,c2,rfl,Js,Jj⟩;have Jf:Bl W0 w2:=Jl.trans (Jj.mono Jl.size);have Ja:Bl w w2:=Jb.trans (Jf.mono Jb.size);have⟨W4,Je⟩:=q_ ((w2.alloc (.cells #[V 5,sV ⟨#[]⟩,.slice a2 n2 c2,nV,V (I:Int),V 0] 79)).alloc (.cells #[V 5,sV ⟨#[]⟩,.slice a2 n2 c2,nV,V (I:Int),V 0] 79));obtain⟨v',w',hr,Jc,Jw,Xd⟩:∃v' w',(Builtin.append_ #[50,50] 50 #[.slice (some ⟨w2.heap.size+1,0,none⟩) 1 1,.slice U I J]).run prog W4=.ok v' w'/\te w w' v' (⟨5,⟨#[]⟩,e,[],(I:Int),0⟩::ss)/\W4.grownBy w' (some (w2.heap.size+1))/\True:=by
  obtain⟨g,hg,Xh⟩:=Js;have Jv:Bl w2 (w2.alloc (.cells #[V 5,sV ⟨#[]⟩,.slice a2 n2 c2,nV,V (I:Int),V 0] 79)):=ao _ _;have h1:=gC (w:=w) (w1:=w2.alloc (.cells #[V 5,sV ⟨#[]⟩,.slice a2 n2 c2,nV,V (I:Int),V 0] 79)) ⟨⟨5,⟨#[]⟩,e,[],(I:Int),0⟩,.slice a2 n2 c2,nV,[g],[]⟩ (by have:=Ja.size;simp;omega) (hg.keep Jv.size λx Z=>Jv.block x (hg.rng x Z).2) (dH.nil _ _) i_;have e1:(w2.alloc (.cells #[V 5,sV ⟨#[]⟩,.slice a2 n2 c2,nV,V (I:Int),V 0] 79)).heap.size=w2.heap.size+1:=i_;simp only[e1]at h1;rw[<-Je]at h1;have Jh:Bl w2 W4:=by rw[Je];exact(ao _ _).alloc i_ _
  obtain⟨R,Jy,Jt⟩:=hR;have Xf:bP w.heap.size W4 (.slice U I J) R:=((Jy.below Jj).below Jh).base Jb.size;have Ju:∀y∈dP R,y<w1.heap.size:=λy hy=>(Jy.rng y hy).2;have Xl:R.length<=1000:=by
   have:=congrArg List.length Jt
   rw[J8]at this;have:=Xb.o;omega
  have⟨v',w',r1,r2,r3,r4⟩:=jN 50 h1 Xf (t_ Ja.size Jh.size) (λx Z y hy=>by
   have Xj:x=g:=(by simpa[dP]using Z);have:=Ju y hy;omega) (λz hz hm=>by
   simp only[ownBlock,J0]at hz;have:=Ju z hm
   have:=Jj.size
   omega) H6
  exact⟨v',w',r1,⟨_,r2,by simp[Jt]⟩,r3,trivial⟩
 have Jd:Bl w W4:=by rw[Je];exact(Ja.alloc Ja.size _).alloc (by have:=Ja.size;simp;omega) _
 have Jp:Bl w w':=Jd.grown Jw Jd.size (λg hg=>by simp only[J0]at hg;have:=Ja.size;omega);have Jn:=ah Jc;obtain⟨av,nv,cv,rfl⟩:∃a n c,v'=.slice a n c:=by have⟨a,c,h⟩:=Jc.shape;exact⟨_,_,_,h⟩
 rw[Je]at hr;clear Js hR Jc Jw Xd Je Jj Jf y0;go_wp2_with(at_builtin;refine ay rfl _ _ _ rfl _ _ (.slice av nv cv) w' rfl rfl hr ?_);go_wp2;go_ret;exact⟨_,rfl,Jn,Jp⟩
end
def DB:(prog.info? 79).map (λi=>(i.zero,i.size,i.bytes))=some (some (.agg #[V 0,sV ⟨#[]⟩,nV,nV,V 0,V 0]),6,88):=by kernel_rfl
theorem A1(a:Option Addr)(n cap:Nat)(us:List BY)(w:AT)(hn:a=none->n=0)(hl:us.length=n*6)(U:∀ad,a=some ad->∀j u,us[j]? =some u->w.cell? (ad.add j)=some u)(h1:∀u∈us,u.oneCell'=true)(hm:n<=2000000):
  Calls prog 66 #[.slice a n cap] w λe w'=>∃u,e=rW u/\w'.ownsRow w.heap.size 79 6 u n us/\Bl w w':=by
 have⟨i0,hi,Jb,Jc,Jd⟩:=info_parts DB;cases a with
 | none=>
  obtain rfl:=hn rfl;obtain rfl:us=[]:=J3 o_;have Ja:∀w:AT,(binOp .eql 50 (.slice none 0 cap) nV).run prog w=.ok (.bool true) w:=λw=>Lib.run_eql_slice_nil w 50 79 none 0 cap 0 0 underlying50;go_in;go_wp2
  go_ret;exact⟨_,rfl,ownsRow_nil _ _ _ _,r_⟩
 | some ad=>
  have Ja:∀w:AT,(binOp .eql 50 (.slice (some ad) n cap) nV).run prog w=.ok (.bool false) w:=λw=>Lib.run_eql_slice_nil w 50 79 (some ad) n cap 0 0 underlying50;have J:Bl w (w.alloc (.cells #[] 79)):=ao _ _;obtain⟨v',w',r1,I,Z,-⟩:=cU (P:=prog) (w:=w.alloc (.cells #[] 79)) w.heap.size 50 50 79 i0 _ 6 88 underlying50 hi Jb Jc Jd rfl d_ (rV w.heap.size 0 0) 0 [] (ownsRow_lit w #[] 0 n_ d_ rfl) (some ad) n cap us (λh=>by cases h) hl (λx hx j u hu=>(J.cell (p:=x.add j) (b_ (U x hx j u hu))).trans (U x hx j u hu)) h1 o_ d_ i_;have hb:Bl w w':=J.grown Z i_ (λg hg=>by simp only[ownBlock,J0]at hg;omega);rw[Nat.zero_add,nil_append]at I;have HR:=ah I;obtain⟨va,vn,vc,rfl⟩:∃va vn vc,v'=.slice va vn vc:=by rcases I.2 with⟨rfl,_⟩|⟨g,cp,Je,rfl,_⟩;exact⟨_,_,_,rfl⟩;exact⟨_,_,_,rfl⟩
  go_in;go_wp2_with(at_builtin;refine ay rfl _ _ _ rfl _ _ (.slice va vn vc) w' rfl rfl r1 ?_);go_wp2;go_ret;exact⟨_,rfl,HR,hb⟩
def A3:(prog.info? 9).map (λi=>(i.zero,i.size,i.bytes))=some (some (sV ⟨#[]⟩),1,16):=by kernel_rfl
theorem A4(a:Option Addr)(n cap:Nat)(us:List BY)(w:AT)(hn:a=none->n=0)(hl:us.length=n*1)(U:∀ad,a=some ad->∀j u,us[j]? =some u->w.cell? (ad.add j)=some u)(h1:∀u∈us,u.oneCell'=true)(hm:n<=2000000):
  Calls prog 39 #[.slice a n cap] w λe w'=>∃u,e=rW u/\w'.ownsRow w.heap.size 9 1 u n us/\Bl w w':=by
 have⟨i0,hi,Jb,Jc,Jd⟩:=info_parts A3;cases a with
 | none=>
  obtain rfl:=hn rfl;obtain rfl:us=[]:=J3 o_;have Ja:∀w:AT,(binOp .eql 49 (.slice none 0 cap) nV).run prog w=.ok (.bool true) w:=λw=>Lib.run_eql_slice_nil w 49 9 none 0 cap 0 0 underlying49;go_in;go_wp2
  go_ret;exact⟨_,rfl,ownsRow_nil _ _ _ _,r_⟩
 | some ad=>
  have Ja:∀w:AT,(binOp .eql 49 (.slice (some ad) n cap) nV).run prog w=.ok (.bool false) w:=λw=>Lib.run_eql_slice_nil w 49 9 (some ad) n cap 0 0 underlying49;have J:Bl w (w.alloc (.cells #[] 9)):=ao _ _;obtain⟨v',w',r1,I,Z,-⟩:=cU (P:=prog) (w:=w.alloc (.cells #[] 9)) w.heap.size 49 49 9 i0 _ 1 16 underlying49 hi Jb Jc Jd rfl d_ (rV w.heap.size 0 0) 0 [] (ownsRow_lit w #[] 0 n_ d_ rfl) (some ad) n cap us (λh=>by cases h) hl (λx hx j u hu=>(J.cell (p:=x.add j) (b_ (U x hx j u hu))).trans (U x hx j u hu)) h1 o_ d_ i_;have hb:Bl w w':=J.grown Z i_ (λg hg=>by simp only[ownBlock,J0]at hg;omega);rw[Nat.zero_add,nil_append]at I;have HR:=ah I;obtain⟨va,vn,vc,rfl⟩:∃va vn vc,v'=.slice va vn vc:=by rcases I.2 with⟨rfl,_⟩|⟨g,cp,Je,rfl,_⟩;exact⟨_,_,_,rfl⟩;exact⟨_,_,_,rfl⟩
  go_in;go_wp2_with(at_builtin;refine ay rfl _ _ _ rfl _ _ (.slice va vn vc) w' rfl rfl r1 ?_);go_wp2;go_ret;exact⟨_,rfl,HR,hb⟩
def DC:(prog.info? 48).map (λi=>(i.zero,i.size,i.bytes))=some (some (.agg #[sV ⟨#[]⟩,V 0]),2,24):=by kernel_rfl
theorem A5(a:Option Addr)(n cap:Nat)(us:List BY)(w:AT)(hn:a=none->n=0)(hl:us.length=n*2)(U:∀ad,a=some ad->∀j u,us[j]? =some u->w.cell? (ad.add j)=some u)(h1:∀u∈us,u.oneCell'=true)(hm:n<=2000000):
  Calls prog 16 #[.slice a n cap] w λe w'=>∃u,e=rW u/\w'.ownsRow w.heap.size 48 2 u n us/\Bl w w':=by
 have⟨i0,hi,Jb,Jc,Jd⟩:=info_parts DC;cases a with
 | none=>
  obtain rfl:=hn rfl;obtain rfl:us=[]:=J3 o_;have Ja:∀w:AT,(binOp .eql 23 (.slice none 0 cap) nV).run prog w=.ok (.bool true) w:=λw=>Lib.run_eql_slice_nil w 23 48 none 0 cap 0 0 underlying23;go_in;go_wp2
  go_ret;exact⟨_,rfl,ownsRow_nil _ _ _ _,r_⟩
 | some ad=>
  have Ja:∀w:AT,(binOp .eql 23 (.slice (some ad) n cap) nV).run prog w=.ok (.bool false) w:=λw=>Lib.run_eql_slice_nil w 23 48 (some ad) n cap 0 0 underlying23;have J:Bl w (w.alloc (.cells #[] 48)):=ao _ _;obtain⟨v',w',r1,I,Z,-⟩:=cU (P:=prog) (w:=w.alloc (.cells #[] 48)) w.heap.size 23 23 48 i0 _ 2 24 underlying23 hi Jb Jc Jd rfl d_ (rV w.heap.size 0 0) 0 [] (ownsRow_lit w #[] 0 n_ d_ rfl) (some ad) n cap us (λh=>by cases h) hl (λx hx j u hu=>(J.cell (p:=x.add j) (b_ (U x hx j u hu))).trans (U x hx j u hu)) h1 o_ d_ i_;have hb:Bl w w':=J.grown Z i_ (λg hg=>by simp only[ownBlock,J0]at hg;omega);rw[Nat.zero_add,nil_append]at I;have HR:=ah I;obtain⟨va,vn,vc,rfl⟩:∃va vn vc,v'=.slice va vn vc:=by rcases I.2 with⟨rfl,_⟩|⟨g,cp,Je,rfl,_⟩;exact⟨_,_,_,rfl⟩;exact⟨_,_,_,rfl⟩
  go_in;go_wp2_with(at_builtin;refine ay rfl _ _ _ rfl _ _ (.slice va vn vc) w' rfl rfl r1 ?_);go_wp2;go_ret;exact⟨_,rfl,HR,hb⟩
theorem DD(a:Option Addr)(n cap:Nat)(h3:n<=cap):∀w:AT,(Instr.slice 50 (.slice a n cap) none (some (V 0)) none).run prog w=.ok (.slice a 0 cap) w:=by
 intro w;have I:prog.elem 50=79:=k_;have J:(sizeOf 79).run prog w=.ok 6 w:=k_;have h:=run_slice_h w 50 a n cap (by rw[I];exact underlying50) .i64 0 o_ o_;rw[I,J]at h;simp only[Result.andThen,sliced,Int.toNat_zero,Nat.sub_zero,Nat.zero_mul]at h;rw[h];congr 2;split;rfl;cases a with
 | none=>rfl
 | some ad=>simp[Addr.add]
def DE(n:Nat)(h0:0<n)(hn:n<=100000)(w:AT):
  Calls prog 126 #[nV,V (n:Int)] w λe w'=>∃cap,e=rW (rV w.heap.size 0 cap)/\bP w.heap.size w' (rV w.heap.size 0 cap) []/\Bl w w':=by
 have⟨Z,U,Je,Jf,Jd⟩:=info_parts gS;have I:=λty=>Lib.run_append_nil_zeros (P:=prog) w 50 3 ty 79 Z _ .i64 .i64 underlying50 underlying3 U Je n h0 (by rw[Jf];decide) o_ (by rw[Jd];omega);have Jb:=grownCap_ge w n 0 79;have Jc:=grownCap_le_maxLen w n 0 79 (by unfold maxLen;omega);generalize grownCap w n 0 79=cp at I Jb Jc;have Jh:=DD none 0 0 n_;have Ji:=DD (some ⟨w.heap.size,0,none⟩) n cp Jb;have J:Bl w (w.drew.alloc (.cells (Builtin.zeroCells (Value.agg #[V 0,sV ⟨#[]⟩,nV,nV,V 0,V 0]).cells n++Builtin.zeroCells (Value.agg #[V 0,sV ⟨#[]⟩,nV,nV,V 0,V 0]).cells (cp-n)) 79)):=r_.drew.alloc i_ _;have Ja:Hid (bP w.heap.size (w.drew.alloc (.cells (Builtin.zeroCells (Value.agg #[V 0,sV ⟨#[]⟩,nV,nV,V 0,V 0]).cells n++Builtin.zeroCells (Value.agg #[V 0,sV ⟨#[]⟩,nV,nV,V 0,V 0]).cells (cp-n)) 79)) (rV w.heap.size 0 cp) []):=by
  refine⟨?_,λq hq=>(by cases hq),nodup_nil,λg hg hm=>(by cases hm)⟩;exact ownsRow_made w.drew _ cp n_ Jc (by
   have e:∀k,(Builtin.zeroCells (Value.agg #[V 0,sV ⟨#[]⟩,nV,nV,V 0,V 0]).cells k).size=k*6:=λk=>by simp[Builtin.zeroCells,Value.cells]
   rw[Array.size_append,e,e];omega)
 have⟨W1,Jg⟩:=q_ (w.drew.alloc (.cells (Builtin.zeroCells (Value.agg #[V 0,sV ⟨#[]⟩,nV,nV,V 0,V 0]).cells n++Builtin.zeroCells (Value.agg #[V 0,sV ⟨#[]⟩,nV,nV,V 0,V 0]).cells (cp-n)) 79));rw[<-Jg]at J Ja I;clear U Je Jf Jd Jg Jb Jc;go_in;go_wp2_with(at_builtin;refine Lib.wpList_append_run _ rfl _ _ _ _ rfl _ _ rfl rfl _ _ (I _) ?_);go_wp2;go_ret;exact⟨cp,rfl,Ja,J⟩
section
variable{w W w':AT}{v:BY}{ss rs:List St}{B n:Nat}{Q:List SV}
def vE(s r:St):Prop:=r.kd=s.kd/\r.nm=s.nm/\r.th=s.th/\r.el=s.el/\eP s.e r.e/\eP s.f r.f
def fG(ss rs:List St):Prop:=rs.length=ss.length/\∀j (h:j<ss.length) (h':j<rs.length),vE ss[j] rs[j]
theorem fG.exists:∀ss:List St,∃rs,fG ss rs
 | []=>⟨[],rfl,λj h=>absurd h i_⟩
 | s::l=>by
  have⟨rs,h1,h2⟩:=fG.exists l;have⟨re,hre⟩:=eP.exists s.e;have⟨rf,hrf⟩:=eP.exists s.f;refine⟨{s with e:=re,f:=rf}::rs,by simp[h1],λj h h'=>?_⟩;cases j with
  | zero=>exact⟨rfl,rfl,rfl,rfl,hre,hrf⟩
  | succ j=>exact h2 j (IN h) (IN h')
theorem pN:∀(Q:List SV) (k:Nat) (hk:k<Q.length) (x:SV),x.s.kd=Q[k].s.kd->x.s.nm=Q[k].s.nm->x.s.th=Q[k].s.th->x.s.el=Q[k].s.el->((bO Q).set (k*6+2) x.ve).set (k*6+3) x.vf=bO (Q.set k x)
 | [],k,hk,_,_,_,_,_=>absurd hk i_
 | a::l,0,_,x,h1,h2,h3,h4=>by simp only[getElem_cons_zero]at h1 h2 h3 h4;simp[bO,cellsS,h1,h2,h3,h4]
 | a::l,k+1,hk,x,h1,h2,h3,h4=>by have ih:=pN l k (IN hk) x (IN h1) (IN h2) (IN h3) (IN h4);have e1:(k+1)*6+2=(k*6+2)+6:=o_;have e2:(k+1)*6+3=(k*6+3)+6:=o_;show((cellsS a++bO l).set ((k+1)*6+2) x.ve).set ((k+1)*6+3) x.vf=cellsS a++bO (l.set k x);rw[<-ih,e1,e2];rfl
theorem DF(h:aZ w v ss):∃a cap,∃R:List SV,v=.slice a ss.length cap/\R.length=ss.length/\(∀j (h:j<ss.length) (h':j<R.length),R[j].s=ss[j]/\aC w R[j].ve ss[j].e/\aC w R[j].vf ss[j].f)/\(∀ad,a=some ad->∀j u,(bO R)[j]? =some u->w.cell? (ad.add j)=some u)/\(a=none->ss.length=0):=by
 obtain⟨a,cap,rfl,-,-,hc⟩:=h;by_cases h0:0<ss.length;obtain⟨b,Ja,rfl,hC⟩:=hc h0;have Jb:∀j:Fin ss.length,∃p:BY×BY,(w.cell? ⟨b,Ja+j*6,none⟩=some (V ss[j].kd)/\w.cell? ⟨b,Ja+j*6+1,none⟩=some (sV ss[j].nm)/\w.cell? ⟨b,Ja+j*6+2,none⟩=some p.1/\w.cell? ⟨b,Ja+j*6+3,none⟩=some p.2/\w.cell? ⟨b,Ja+j*6+4,none⟩=some (V ss[j].th)/\w.cell? ⟨b,Ja+j*6+5,none⟩=some (V ss[j].el))/\aC w p.1 ss[j].e/\aC w p.2 ss[j].f:=λj=>by have⟨ve,vf,h⟩:=hC j.1 j.2;exact⟨(ve,vf),h⟩
 have⟨f,I⟩:=Classical.axiomOfChoice Jb;refine⟨_,cap,List.ofFn (λj:Fin ss.length=>(⟨ss[j],(f j).1,(f j).2,[],[]⟩:SV)),rfl,i_,λj h h'=>?_,λad had j u hu=>?_,λh=>by cases h⟩
 rw[List.getElem_ofFn];exact⟨rfl,(I ⟨j,h⟩).2.1,(I ⟨j,h⟩).2.2⟩;cases had;have hl:=(List.getElem?_eq_some_iff.1 hu).1;rw[eE,List.length_ofFn]at hl;obtain⟨m,i,rfl,U,Z⟩:∃m i,j=m*6+i/\i<6/\m<ss.length:=⟨j / 6,j%6,o_,o_,o_⟩;rw[fB _ m i (IN Z) U,List.getElem_ofFn]at hu;obtain⟨⟨c0,c1,c2,c3,c4,c5⟩,-⟩:=I ⟨m,Z⟩;rw[dk,<-Nat.add_assoc];match i,U with
 | 0,_=>exact c0.trans hu
 | 1,_=>exact c1.trans hu
 | 2,_=>exact c2.trans hu
 | 3,_=>exact c3.trans hu
 | 4,_=>exact c4.trans hu
 | 5,_=>exact c5.trans hu
 have J:ss.length=0:=o_;exact⟨a,cap,[],rfl,by simp[J],λj h=>absurd h o_,λad _ j u hu=>by simp[bO]at hu,λ_=>J⟩
structure pO (w:AT) (B:Nat) (ss rs:List St) (k:Nat) (Q:List SV) (W:AT) (u:BY):Prop where
 len:Q.length=ss.length
 row:W.ownsRow w.heap.size 79 6 u ss.length (bO Q)
 done:∀j (h:j<Q.length) (h':j<rs.length),j<k->Q[j].s=rs[j]/\dG B W Q[j].ve rs[j].e/\dG B W Q[j].vf rs[j].f
 todo:∀j (h:j<Q.length) (h':j<ss.length),k<=j->Q[j].s=ss[j]/\aC w Q[j].ve ss[j].e/\aC w Q[j].vf ss[j].f
def pO.stmts{u:BY}(h:pO w B ss rs ss.length Q W u)(hB:fG ss rs):aZ W u rs:=by
 have hl:=h.len;have J:=hB.1;obtain⟨hx,⟨rfl,h0⟩|⟨g,Jd,Je,rfl,-,hh,Jf,Jc,-⟩⟩:=h.row;exact⟨none,0,by rw[J,h0],o_,d_,λhp=>absurd hp o_⟩;refine⟨some ⟨g,0,none⟩,Jd,by rw[J],o_,Jc,λ_=>⟨g,0,rfl,λj hj=>?_⟩⟩;have Jb:j<Q.length:=o_
 have⟨I,U,Z⟩:=h.done j Jb hj o_;have Ja:∀i,i<6->W.cell? ⟨g,0+j*6+i,none⟩=(cellsS Q[j])[i]? := λi hi=>by rw[Nat.zero_add,h.row.cellAt (j*6+i) o_,fB Q j i Jb hi]
 rw[<-I];refine⟨Q[j].ve,Q[j].vf,⟨Ja 0 o_,Ja 1 o_,Ja 2 o_,Ja 3 o_,Ja 4 o_,Ja 5 o_⟩,?_,?_⟩;rw[I];exact U.nodes;rw[I];exact Z.nodes
def dG.blk{I:List Nd}(h:dG B w v I)(hs:w.heap.size<=w'.heap.size)(hb:∀g,B<=g->g<w.heap.size->w'.heap[g]? =w.heap[g]?):dG B w' v I:=by obtain⟨g,Ja,rfl,Z,h2,h3,h4,h5,h6⟩:=h;have e:=hb g h3 h4;refine⟨g,Ja,rfl,Z,h2,h3,o_,λj hj=>?_,λj hj=>(frozen?_of_block (a:=⟨g,j,none⟩) e).trans (h6 j hj)⟩;have⟨U,c1,J⟩:=h5 j hj;exact⟨(c_ (a:=⟨g,0+j*3,none⟩) e).trans U,(c_ (a:=⟨g,0+j*3+1,none⟩) e).trans c1,(c_ (a:=⟨g,0+j*3+2,none⟩) e).trans J⟩
def ownsRow.bel{base:Nat}{e:JZ}{size:Nat}{J:List BY}(h:w.ownsRow base e size v n J)(Z:Bl w w'):w'.ownsRow base e size v n J:=by
 obtain⟨I,h|⟨g,Jc,Ja,rfl,U,h2,h3⟩⟩:=h;exact⟨I,.inl h⟩;have Jb:g<w.heap.size:=by rcases Nat.lt_or_ge g w.heap.size with h|h;exact h;rw[Array.getElem?_eq_none h]at h2;cases h2
 exact⟨I,.inr ⟨g,Jc,Ja,rfl,U,(Z.block g Jb).trans h2,h3⟩⟩
def pO.next{k g cp:Nat}{I:AT}{v1 v2:BY}(h:pO w B ss rs k Q W (rV g n cp))(hF:fG ss rs)(Z:k<ss.length)(Je:k<rs.length)(hn:n=ss.length)(hg:g<B)(U:Bl W I)(h1:dG B I v1 rs[k].e)(h2:dG B I v2 rs[k].f)(hB:B<=W.heap.size):
  ∃Q',pO w B ss rs (k+1) Q' ((I.setCell ⟨g,k*6+2,none⟩ v1).setCell ⟨g,k*6+3,none⟩ v2) (rV g n cp):=by
 subst hn;have hl:=h.len;have Jd:k<Q.length:=o_;obtain⟨J,-,-⟩:=h.todo k Jd Z n_;obtain⟨f1,f2,f3,f4,-⟩:=hF.2 k Z Je;have Jc:=pN Q k Jd ⟨rs[k],v1,v2,[],[]⟩ (by rw[J];exact f1) (by rw[J];exact f2) (by rw[J];exact f3) (by rw[J];exact f4);have Ja:∀ {v:BY} {ns:List Nd},dG B I v ns->dG B ((I.setCell ⟨g,k*6+2,none⟩ v1).setCell ⟨g,k*6+3,none⟩ v2) v ns:=λh=>h.blk i_ (λx hx _=>by rw[Below.heap_setCell _ _ _ _ (by show x≠g;omega),Below.heap_setCell _ _ _ _ (by show x≠g;omega)]);have Jb:∀ {v:BY} {ns:List Nd},dG B W v ns->dG B I v ns:=λh=>h.blk U.size (λx _ hx=>U.block x hx);refine⟨Q.set k ⟨rs[k],v1,v2,[],[]⟩,by simp[hl],?_,λj h3 h4 h5=>?_,λj h3 h4 h5=>?_⟩
 rw[<-Jc];exact(((ownsRow.bel h.row U).stored (k*6+2) v1).1.stored (k*6+3) v2).1;rw[getElem_set];by_cases e:k=j;subst e;rw[if_pos rfl];exact⟨rfl,Ja h1,Ja h2⟩;rw[if_neg e];have⟨d1,d2,d3⟩:=h.done j (IN h3) h4 o_;exact⟨d1,Ja (Jb d2),Ja (Jb d3)⟩;rw[getElem_set,if_neg o_];exact h.todo j (IN h3) h4 o_
end
section
variable{w w':AT}{v:BY}{ns:List Nd}{B:Nat}{R:List SV}
def bP.keepB(h:bP B w v R)(J:w.heap.size<=w'.heap.size)(I:∀g,B<=g->g<w.heap.size->w'.heap[g]? =w.heap[g]?):bP B w' v R:=by
 refine⟨lg h.row λg hg=>?_,λq hq=>⟨(h.each q hq).1.keep J λg hg=>?_,(h.each q hq).2.keep J λg hg=>?_⟩,h.nd,h.out⟩
 have⟨a,b⟩:=World.ownsRow.lt h.row g hg;exact I g a b
 have⟨a,b⟩:=h.rng g ((gK hq).1 g hg);exact I g a b
 have⟨a,b⟩:=h.rng g ((gK hq).2 g hg);exact I g a b
end
theorem pP(v:BY)(ss U:List St)(w:AT)(hT:gF w)(hS:aZ w v ss)(hF:fG ss U)(hl:ss.length<=1048576)(Xo:∀s∈ss,s.e.length<=1048576/\s.f.length<=1048576):
  Calls prog 38 #[v] w λe w'=>∃u,e=rW u/\aZ w' u U/\Bl w w':=by
 have HT:=ah hT;have Jy:=hT.size;have HF:=ah hF;have Xu:=ah Xo;obtain⟨a,Ye,R,rfl,Xd,Jp,Jc,Jb⟩:=DF hS;have Yb:=ah Jp;have Jg:∀q∈R,q.ve.oneCell'=true/\q.vf.oneCell'=true:=λq hq=>by obtain⟨j,hj,rfl⟩:=mem_iff_getElem.1 hq;obtain⟨-,h1,h2⟩:=Jp j o_ hj;exact⟨h1.cell1,h2.cell1⟩
 have HC:=ah (A1 a ss.length Ye (bO R) w Jb (by rw[eE,Xd]) Jc (gR R Jg) o_);clear hT hS hF Xo Jp Jg Jc Jb;go_in;go_wp2_with fail;refine HC.o.mono ?_;rintro x w1 ⟨u,rfl,Ja,Jt⟩;have Xb:pO w w1.heap.size ss U 0 R w1 u:=⟨Xd,Ja,λj h h' h0=>absurd h0 o_,λj h h' _=>Yb.o j h' h⟩;have Xm:=ah Xb;have Xi:=ah Jt;have Yj:=Jt.size;obtain⟨ua,uc,rfl⟩:∃ua uc,u=.slice ua ss.length uc:=by rcases Ja.2 with⟨rfl,h⟩|⟨g,cp,Xp,rfl,_⟩;exact⟨_,_,by rw[h]⟩;exact⟨_,_,rfl⟩
 have Xa:∀ad,ua=some ad->ad.block<w1.heap.size:=λad h=>(ownsRow.lt Ja ad.block (by rw[h];rfl)).2;have Yf:=ah Xa;clear Ja Xb HC Xa Jt;go_wp2;go_loopw[10] (λi wr=>∃(k:Nat) (Q:List SV),k<=ss.length/\i=V k/\pO w w1.heap.size ss U k Q wr (.slice ua ss.length uc)/\Bl w wr/\w1.heap.size<=wr.heap.size) (λi _=>ss.length-(RowKit.intOf i).toNat)
 case atStart=>exact⟨0,R,y_,rfl,Xm,Xi,n_⟩
 case round=>
  obtain⟨k,Q,hk,rfl,hI,Jn,Xs⟩:=hrel;have HI:=ah hI;clear Xm Xi;by_cases hlt:k<ss.length
  ·have Yh:U.length=ss.length:=HF.o.1;have Ju:k<U.length:=o_
   have Xh:k<Q.length:=(by rw[hI.len];exact hlt);obtain⟨g,rfl⟩:∃g,ua=some ⟨g,0,none⟩:=by rcases hI.row.2 with⟨_,h⟩|⟨g,cp,Xp,h,_⟩;omega;cases h;exact⟨g,rfl⟩
   have Xr:g<w1.heap.size:=Yf.o _ rfl;have Jv:w.heap.size<=g:=(ownsRow.lt hI.row g rfl).1;have⟨t1,t2,t3⟩:=hI.todo k Xh hlt n_;have hc:∀i,i<6->wr.cell? ⟨g,k*6+i,none⟩=(cellsS Q[k])[i]? := λi hi=>by rw[hI.row.cellAt (k*6+i) o_,fB Q k i Xh hi]
   have Xx:∀j,wr.frozen? ⟨g,j,none⟩=false:=λj=>hI.row.frozenAt j;obtain⟨ve,Jl⟩:∃ve,Q[k].ve=ve:=⟨_,rfl⟩;obtain⟨vf,Jk⟩:∃vf,Q[k].vf=vf:=⟨_,rfl⟩;rw[Jl]at t2;rw[Jk]at t3;have c0:wr.cell? ⟨g,k*6,none⟩=some (V Q[k].s.kd):=hc 0 o_;have c1:wr.cell? ⟨g,k*6+1,none⟩=some (sV Q[k].s.nm):=hc 1 o_;have c2:wr.cell? ⟨g,k*6+2,none⟩=some ve:=(by rw[<-Jl];exact hc 2 o_);have c3:wr.cell? ⟨g,k*6+3,none⟩=some vf:=(by rw[<-Jk];exact hc 3 o_);have c4:wr.cell? ⟨g,k*6+4,none⟩=some (V Q[k].s.th):=hc 4 o_;have c5:wr.cell? ⟨g,k*6+5,none⟩=some (V Q[k].s.el):=hc 5 o_;obtain⟨kk,Jw⟩:∃kk,Q[k].s.kd=kk:=⟨_,rfl⟩;obtain⟨nm,Jz⟩:∃nm,Q[k].s.nm=nm:=⟨_,rfl⟩;obtain⟨tn,Jx⟩:∃tn,Q[k].s.th=tn:=⟨_,rfl⟩;obtain⟨es,Xj⟩:∃es,Q[k].s.el=es:=⟨_,rfl⟩;rw[Jw]at c0;rw[Jz]at c1;rw[Jx]at c4;rw[Xj]at c5;have⟨Xn,Xl⟩:=Xu.o _ (g_ hlt);obtain⟨-,-,-,-,Xe,J_⟩:=HF.o.2 k hlt Ju;have Xq:Hid (∀W,Bl w W->Calls prog 67 #[ve] W λe w'=>∃I Z J,e=rW (rV I Z J)/\dG W.heap.size w' (rV I Z J) U[k].e/\Bl W w'):=λW hW=>by refine(ro ve _ _ W (HT.o.below Jy hW) Xn (t2.below hW) Xe).mono ?_;rintro x w' ⟨u,rfl,hn,hb⟩;obtain⟨I,J,rfl,h⟩:=hn;exact⟨I,_,J,rfl,⟨I,J,rfl,h⟩,hb⟩
   have Xz:Hid (∀W,Bl w W->Calls prog 67 #[vf] W λe w'=>∃I Z J,e=rW (rV I Z J)/\dG W.heap.size w' (rV I Z J) U[k].f/\Bl W w'):=λW hW=>by refine(ro vf _ _ W (HT.o.below Jy hW) Xl (t3.below hW) J_).mono ?_;rintro x w' ⟨u,rfl,hn,hb⟩;obtain⟨I,J,rfl,h⟩:=hn;exact⟨I,_,J,rfl,⟨I,J,rfl,h⟩,hb⟩
   obtain⟨av,nv,kv,rfl⟩:∃a n c,ve=.slice a n c:=(by obtain⟨a,c,h,-⟩:=t2;exact⟨_,_,_,h⟩);obtain⟨af,nf,kf,rfl⟩:∃a n c,vf=.slice a n c:=(by obtain⟨a,c,h,-⟩:=t3;exact⟨_,_,_,h⟩);have Jr:g<wr.heap.size:=o_;have⟨W0,Jh⟩:=q_ (wr.alloc (.cells #[V kk,sV nm,.slice av nv kv,.slice af nf kf,V tn,V es] 79));have Je:Bl wr W0:=(by rw[Jh];exact r_.alloc n_ _);have Xt:W0.heap.size=wr.heap.size+1:=(by rw[Jh];simp);have HY:Hid (∀W,Bl W0 W->W.cell? ⟨wr.heap.size,2,none⟩=some (.slice av nv kv)/\W.cell? ⟨wr.heap.size,3,none⟩=some (.slice af nf kf)):=λW hW=>by rw[hW.cell (p:=⟨wr.heap.size,2,none⟩) H6,hW.cell (p:=⟨wr.heap.size,3,none⟩) H6,Jh];exact⟨i_,i_⟩
   have Xf:Hid (∀W,Bl W0 W->(W.cell? ⟨g,k*6+2,none⟩=some (.slice av nv kv)/\W.cell? ⟨g,k*6+3,none⟩=some (.slice af nf kf))/\∀j,W.frozen? ⟨g,j,none⟩=false):=λW hW=>by have hb:=Je.trans (hW.mono Je.size);refine⟨⟨(hb.cell (p:=⟨g,k*6+2,none⟩) Jr).trans c2,(hb.cell (p:=⟨g,k*6+3,none⟩) Jr).trans c3⟩,λj=>(frozen?_of_block (a:=⟨g,j,none⟩) (hb.block g Jr)).trans (Xx j)⟩
   have Yd:=ah Jh;have Xg:=ah Je;have Jj:Hid (Bl W0 W0.drew):=r_.drew;have Jo:=ah λW (hW:Bl W0 W)=>Jn.trans ((Je.trans (hW.mono Je.size)).mono Jn.size);have Xy:wr.heap.size+1<=W0.heap.size:=o_
   have Xk:wr.heap.size≠g:=o_;have Xv:¬g=wr.heap.size:=o_;have HK:Hid (∀(W:AT) (x:Nat) (y:BY),(W.cell? ⟨wr.heap.size,2,none⟩=some (.slice av nv kv)/\W.cell? ⟨wr.heap.size,3,none⟩=some (.slice af nf kf))->(W.setCell ⟨g,x,none⟩ y).cell? ⟨wr.heap.size,2,none⟩=some (.slice av nv kv)/\(W.setCell ⟨g,x,none⟩ y).cell? ⟨wr.heap.size,3,none⟩=some (.slice af nf kf)):=λW x y h=>⟨(c_ (a:=⟨wr.heap.size,2,none⟩) (Below.heap_setCell W ⟨g,x,none⟩ y _ Xk)).trans h.1,(c_ (a:=⟨wr.heap.size,3,none⟩) (Below.heap_setCell W ⟨g,x,none⟩ y _ Xk)).trans h.2⟩;have i1:(0:Int)<=(k:Int):=o_
   have i2:(k:Int)<(ss.length:Int):=o_;clear hI t1 t2 t3 hc Jl Jk Jw Jz Jx Xj Xn Xl Xe J_ Jh Xt Je;go_upto_region 5 with fail;rw[<-Yd.o];have⟨y2,y3⟩:=HY.o _ Jj;have⟨⟨z2,z3⟩,zf⟩:=Xf.o _ Jj;go_region_held3 (λW=>W.cell? ⟨wr.heap.size,2,none⟩=some (.slice av nv kv)/\W.cell? ⟨wr.heap.size,3,none⟩=some (.slice af nf kf)) (first|go_keep|exact HK.o _ _ _ q|exact HK.o _ _ _ (HK.o _ _ _ q))
    (first
    | ((with_reducible refine Calls.mono (Xq.o _ (Jo.o _ Jj.o)) ?_);intro x wt hx;obtain⟨I,Z,J,Jm,X_,Js⟩:=hx;subst Jm;have Jf:Bl W0 wt:=Jj.o.trans (Js.mono i_);have q:=HY.o wt Jf)
    | ((with_reducible refine Calls.mono (Xz.o _ (Jo.o _ Jf)) ?_);intro x wo hx;obtain⟨b2,n2,k2,Jm,Ya,Jd⟩:=hx;subst Jm;have Ji:Bl W0 wo:=Jf.trans (Jd.mono Jf.size);have q:=HY.o wo Ji;have⟨⟨x2,x3⟩,xf⟩:=Xf.o wo Ji))
   have Xc:Bl wr wo:=Xg.o.trans (Ji.mono Xg.o.size);have Yi:=Jf.size;have⟨Q',Yc⟩:=HI.o.next HF.o hlt Ju rfl Xr Xc (v1:=rV I Z J) (v2:=rV b2 n2 k2) ((X_.mono H6).blk Jd.size (λx _ hx=>Jd.block x hx)) (Ya.mono o_) Xs;have Jq:Bl w ((wo.setCell ⟨g,k*6+2,none⟩ (rV I Z J)).setCell ⟨g,k*6+3,none⟩ (rV b2 n2 k2)):=((Jo.o wo Ji).setCell (p:=⟨g,k*6+2,none⟩) Jv _).setCell (p:=⟨g,k*6+3,none⟩) Jv _;have Xw:w1.heap.size<=wo.heap.size:=(Ka Xc.size);go_wp2;go_roundw
   case rel=>exact⟨k+1,Q',o_,by go_num,Yc,Jq,IN Xw⟩
   case measure=>exact IF
  obtain rfl:k=ss.length:=(by omega);have Yg:Hid (aZ wr (.slice ua ss.length uc) U):=HI.o.stmts HF;go_wp2;go_ret;exact⟨_,rfl,Yg,Jn⟩
def bP.grown{B M:Nat}{w w':AT}{v:BY}{R:List SV}{row:Option Nat}(h:bP B w v R)(I:w.grownBy w' row)(U:∀g,row=some g->M<=g)(Z:∀g,v.ownBlock=some g->g<M)(hR:∀g∈dP R,g<M):bP B w' v R:=by have J:∀g∈dP R,w'.heap[g]? =w.heap[g]? := λg hg'=>I.block g (h.rng g hg').2 (λe=>Ia (U g e.symm) (hR g hg'));refine⟨An h.row I (λg hg' e=>Ia (U g e) (Z g hg')),λq hq=>⟨(h.each q hq).1.keep I.size λg hg'=>J g ((gK hq).1 g hg'),(h.each q hq).2.keep I.size λg hg'=>J g ((gK hq).2 g hg')⟩,h.nd,h.out⟩
def xT(G B:Nat)(u1 u2 u3:BY)(Z U I:List SV)(w:AT)(d0:DO w G 0 u1)(d1:DO w G 1 u2)(d2:DO w G 2 u3)(h1:bP B w u1 Z)(h2:bP B w u2 U)(h3:bP B w u3 I)(hp:0<Z.length)(hn:Z.length+U.length+I.length<=90000)(hd:(dP Z++dP U++dP I).Nodup)(hB:B<=w.heap.size):
  Calls prog 96 #[rV G 3 3] w λe w'=>∃v,e=rW v/\bP B w' v (Z++U++I)/\Bl w w':=by
 have H1:=ah h1;have H2:=ah h2;have H3:=ah h3;have HD:=ah hd;obtain⟨a1,c1,rfl⟩:=h1.shape;obtain⟨a2,c2,rfl⟩:=h2.shape;obtain⟨a3,c3,rfl⟩:=h3.shape;have hG:G<w.heap.size:=b_ d0;obtain⟨n1,Je⟩:∃n1:Nat,n1=Z.length:=⟨_,rfl⟩;obtain⟨n2,Jh⟩:∃n2:Nat,n2=U.length:=⟨_,rfl⟩;obtain⟨J,Jf⟩:∃J:Nat,J=I.length:=⟨_,rfl⟩;have HN:Hid (n1=Z.length/\n2=U.length/\J=I.length):=⟨Je,Jh,Jf⟩;rw[<-Je]at d0 H1 hp;rw[<-Jh]at d1 H2;rw[<-Jf]at d2 H3;rw[<-Je,<-Jh,<-Jf]at hn;have b1:(n1:Int)+n2+J<=90000:=o_;have b0:(0:Int)<n1:=o_;have Jj:Hid (Calls prog 126 #[nV,V ((n1:Int)+n2+J)] w λe w'=>∃Jg,e=rW (rV w.heap.size 0 Jg)/\bP w.heap.size w' (rV w.heap.size 0 Jg) []/\Bl w w'):=by show Calls _ _ _ _ _;have:=DE (n1+n2+J) o_ o_ w;simpa using this
 clear h1 h2 h3 hd Je Jh Jf hn hp;go_in;go_wp2_with fail;refine wp_loop_rounds 4 ?_;rw[rounds_succ];go_wp2_with fail;rw[rounds_succ];go_wp2_with fail;rw[rounds_succ];go_wp2_with fail;rw[rounds_succ];go_wp2_with fail;refine Jj.o.mono ?_;rintro x w1 ⟨Jg,rfl,Jm,Ja⟩;have k1:∀g,(Value.slice a1 n1 c1).ownBlock=some g\/g∈dP Z->g<w.heap.size:=λg hg=>by rcases hg with hg|hg;exact(ownsRow.lt H1.o.row g hg).2;exact(H1.o.rng g hg).2
 have k2:∀g,(Value.slice a2 n2 c2).ownBlock=some g\/g∈dP U->g<w.heap.size:=λg hg=>by rcases hg with hg|hg;exact(ownsRow.lt H2.o.row g hg).2;exact(H2.o.rng g hg).2
 have k3:∀g,(Value.slice a3 J c3).ownBlock=some g\/g∈dP I->g<w.heap.size:=λg hg=>by rcases hg with hg|hg;exact(ownsRow.lt H3.o.row g hg).2;exact(H3.o.rng g hg).2
 have⟨m1,m2,m3⟩:=HN.o;have⟨v1,w2,r1,s1,g1,f1⟩:=jN 50 (Jm.base hB) (H1.o.below Ja) (t_ hB Ja.size) (λx hx=>by simp[dP]at hx) (λg hg hm=>by simp only[ownBlock,J0]at hg;have:=k1 g (.inr hm);omega) H6
 have o0:∀g,(Value.slice (some ⟨w.heap.size,0,none⟩) 0 Jg).ownBlock=some g->w.heap.size<=g:=λg hg=>by simp only[ownBlock,J0]at hg;omega
 have o1:∀g,v1.ownBlock=some g->w.heap.size<=g:=λg hg=>by rcases f1 g hg with h|h;exact o0 g h;exact t_ Ja.size h
 have Jc:Bl w w2:=Ja.grown g1 Ja.size o0;have p2:bP B w2 (.slice a2 n2 c2) U:=(H2.o.below Ja).grown g1 o0 (λg hg=>k2 g (.inl hg)) (λg hg=>k2 g (.inr hg));have p3:bP B w2 (.slice a3 J c3) I:=(H3.o.below Ja).grown g1 o0 (λg hg=>k3 g (.inl hg)) (λg hg=>k3 g (.inr hg));have nd:=HD.o;rw[nodup_append]at nd;obtain⟨Jb,Jn,Jk⟩:=nd;rw[nodup_append]at Jb;have⟨v2,w3,r2,s2,g2,f2⟩:=jN 50 s1 p2 (t_ hB Jc.size) (λx hx y hy=>Jb.2.2 x (IN hx) y hy) (λg hg hm=>by
  have:=o1 g hg
  have:=k2 g (.inr hm)
  omega) H6
 have o2:∀g,v2.ownBlock=some g->w.heap.size<=g:=λg hg=>by rcases f2 g hg with h|h;exact o1 g h;exact t_ Jc.size h
 have Jd:Bl w w3:=Jc.grown g2 Jc.size o1;have Jl:bP B w3 (.slice a3 J c3) I:=p3.grown g2 o1 (λg hg=>k3 g (.inl hg)) (λg hg=>k3 g (.inr hg));have⟨v3,w4,r3,s3,g3,f3⟩:=jN 50 s2 Jl (t_ hB Jd.size) (λx hx y hy=>Jk x (by simpa[iu]using hx) y hy) (λg hg hm=>by
  have:=o2 g hg
  have:=k3 g (.inr hm)
  omega) H6
 have Jx:Bl w w4:=Jd.grown g3 Jd.size o2;have Ji:Hid (bP B w4 v3 (Z++U++I)):=by show bP _ _ _ _;simpa using s3
 have e0:=(Ja.cell (p:=⟨G,0,none⟩) hG).trans d0;have e1:=(Jc.cell (p:=⟨G,1,none⟩) hG).trans d1;have e2:=(Jd.cell (p:=⟨G,2,none⟩) hG).trans d2;obtain⟨Jv,Ju,Jw,rfl⟩:∃a n c,v1=.slice a n c:=by have⟨a,c,h⟩:=s1.shape;exact⟨_,_,_,h⟩
 obtain⟨Js,Jq,Jr,rfl⟩:∃a n c,v2=.slice a n c:=by have⟨a,c,h⟩:=s2.shape;exact⟨_,_,_,h⟩
 obtain⟨Jt,Jo,Jp,rfl⟩:∃a n c,v3=.slice a n c:=by have⟨a,c,h⟩:=s3.shape;exact⟨_,_,_,h⟩
 clear s1 s2 s3 g1 g2 g3 f1 f2 f3 o0 o1 o2 p2 p3 Jl Ja Jc Jd Jb Jn Jk k1 k2 k3 Jm m1 m2 m3 d0 d1 d2 Jj;go_wp2_with fail;refine wp_loop_rounds 4 ?_;rw[rounds_succ];go_wp2_with(at_builtin;refine ay rfl _ _ _ rfl _ _ (.slice Jv Ju Jw) w2 rfl rfl r1 ?_);go_wp2_with fail;rw[rounds_succ];go_wp2_with(at_builtin;refine ay rfl _ _ _ rfl _ _ (.slice Js Jq Jr) w3 rfl rfl r2 ?_);go_wp2_with fail;rw[rounds_succ];go_wp2_with(at_builtin;refine ay rfl _ _ _ rfl _ _ (.slice Jt Jo Jp) w4 rfl rfl r3 ?_);go_wp2_with fail;rw[rounds_succ];go_wp2;go_ret;exact⟨_,rfl,Ji,Jx⟩
section
variable{e r:List Nd}{s:St}{ss rs:List St}
def lastKind_snoc(l:List Nd)(n:Nd):lastKind (l++[n])=n.kd:=by simp[lastKind]
def qB(h:0<e.length):lastKind e=(aq e).kd:=by rw[iE e h,lastKind,J4 o_]
theorem Fd.call(h:Fd cJ e r)(I:lastKind e=4):lastKind r=4:=by
 cases h using Fd_i with
 | mk e A b F hc hk'=>rw[qB hc.len]at I;unfold cj;rw[if_neg o_,if_neg o_,if_neg o_,if_neg o_,lastKind_snoc,I]
def eP.nil(h:eP [] r):r=[]:=h.no (λ_=>by simp[Go.Proofs.YtjfmapphpijneaaGreatDoor.oneB,wholeTo])
def vE.ok{r:St}(h:vE s r)(J:stmtB s=true)(he:s.e.length<=2000)(hf:s.f.length<=2000):stmtB r=true:=by obtain⟨h1,h2,h3,h4,h5,h6⟩:=h;unfold stmtB at J⊢;simp only[J1]at J⊢;obtain⟨⟨⟨⟨⟨⟨a1,a2⟩,a3⟩,I⟩,Z⟩,a6⟩,a7⟩:=J;have U:=h5.yes he a3;rw[h1,h2,h3,h4];refine⟨⟨⟨⟨⟨⟨a1,a2⟩,U.oneB⟩,?_⟩,?_⟩,a6⟩,a7⟩;by_cases k3:s.kd=3;rw[if_pos k3]at I⊢;exact(h6.yes hf I).oneB;rw[if_neg k3]at I⊢;have:s.f=[]:=J3 (IN I);rw[this]at h6;rw[h6.nil];rfl;rw[Bool.or_eq_true]at Z⊢;rcases Z with h|h;exact .inl h;exact .inr (by simpa using U.call (IN h))
theorem kh:∀(n:Nat) (a b:List St),a.length=b.length->(∀j (h:j<a.length) (h':j<b.length),a[j].th=b[j].th/\a[j].el=b[j].el)->mV n a=mV n b
 | n,[],[],_,_=>rfl
 | n,[],_::_,h,_=>by simp at h
 | n,_::_,[],h,_=>by simp at h
 | 0,_::_,_::_,_,_=>rfl
 | n+1,x::a,y::b,hl,h=>by
  obtain⟨e1,e2⟩:x.th=y.th/\x.el=y.el:=h 0 i_ i_;have hl':a.length=b.length:=IN hl;have h':∀j (h:j<a.length) (h':j<b.length),a[j].th=b[j].th/\a[j].el=b[j].el:=λj h1 h2=>h (j+1) (IN h1) (IN h2);simp only[mV];rw[e1,e2,hl',kh n (a.take y.th.toNat) (b.take y.th.toNat) (by simp[hl']) (λj h1 h2=>by simp only[getElem_take];exact h' j (by simp at h1;omega) (by simp at h2;omega)),
   kh n ((a.take (y.th.toNat+y.el.toNat)).drop y.th.toNat) ((b.take (y.th.toNat+y.el.toNat)).drop y.th.toNat) (by simp[hl']) (λj h1 h2=>by simp only[getElem_drop,getElem_take];exact h' _ (by simp at h1;omega) (by simp at h2;omega)),
   kh n (a.drop (y.th.toNat+y.el.toNat)) (b.drop (y.th.toNat+y.el.toNat)) (by simp[hl']) (λj h1 h2=>by simp only[getElem_drop];exact h' _ (by simp at h1;omega) (by simp at h2;omega))]
def fG.fit(h:fG ss rs):bw rs=bw ss:=by unfold bw;rw[h.1];exact kh _ _ _ h.1 (λj h1 h2=>by obtain⟨-,-,a,b,-⟩:=h.2 j h2 h1;exact⟨a,b⟩)
def fG.ok(h:fG ss rs)(hs:∀s∈ss,stmtB s=true/\s.e.length<=2000/\s.f.length<=2000):∀r∈rs,stmtB r=true/\r.e.length<=2000/\r.f.length<=2000:=by
 intro r Z;obtain⟨j,J,rfl⟩:=mem_iff_getElem.1 Z;have Ja:j<ss.length:=by rw[<-h.1];exact J
 have I:=h.2 j Ja J;have⟨U,b2,b3⟩:=hs _ (g_ Ja);exact⟨I.ok U b2 b3,I.2.2.2.2.1.len,I.2.2.2.2.2.len⟩
def Hx(h:stmtB s=true)(Z:s.e.length<=2000)(U:s.f.length<=2000):FE s:=by unfold stmtB at h;simp only[J1]at h;obtain⟨⟨⟨⟨⟨⟨a1,J⟩,a3⟩,I⟩,a5⟩,a6⟩,a7⟩:=h;refine⟨Z,U,λk=>?_,λk=>?_⟩;rw[if_neg k]at I;exact J3 (IN I);rw[if_neg o_]at J;exact Gi (IN J)
def DG{l:List St}{x:St}(h:jA l x)(hl:∀s∈l,FE s):FE x:=by obtain⟨s,hs,I,h2,h3,h4⟩:=h;have⟨Z,p2,J,U⟩:=hl s hs;exact⟨by rw[h3];exact Z,by rw[h4];exact p2,λk=>by rw[h4];exact J (by rw[<-I];exact k),λk=>by rw[h2];exact U (by rw[<-I];exact k)⟩
end
section
variable{ss rs:List St}
def fG.drop(h:fG ss rs)(i:Nat):fG (ss.drop i) (rs.drop i):=by have I:=h.1;refine⟨by simp[I],λj h1 h2=>?_⟩;simp only[getElem_drop];exact h.2 _ (by simp at h1;omega) (by simp at h2;omega)
def fG.take(h:fG ss rs)(i:Nat):fG (ss.take i) (rs.take i):=by have I:=h.1;refine⟨by simp[I],λj h1 h2=>?_⟩;simp only[getElem_take];exact h.2 _ (by simp at h1;omega) (by simp at h2;omega)
def gU(s:St){a b:List St}(h:bw a=true)(I:bw b=true):bw (aV s a b)=true:=by have Ja:bw (({s with th:=a.length,el:=b.length}:St)::(a++b))=true:=EP (s:= {s with th:=a.length,el:=b.length}) rfl rfl h I;unfold aV;split;split;split;exact I;exact h;exact Ja;split;split;rfl;exact Ja;exact Ja
theorem iU:∀(N:Nat) (l:List St),l.length<=N->bw (aM l)=true
 | 0,l,h=>by
  have:l=[]:=J3 o_
  subst this;rfl
 | N+1,[],h=>rfl
 | N+1,s::r,h=>by simp only[l_c]at h;rw[tidyB_cons];have h1:=iU N (r.take s.th.toNat) H6;have h2:=iU N ((r.drop s.th.toNat).take s.el.toNat) H6;have h3:=iU N (r.drop (s.th.toNat+s.el.toNat)) H6;have h4:bw (gX s r)=true:=gU s h1 h2;split;exact h4;exact ky _ _ _ n_ h4 h3
def DH(l:List St)(i j:Nat):(l.drop i).take j=(l.take (i+j)).drop i:=by rw[drop_take,Nat.add_sub_cancel_left]
def FF{i:Nat}(h:i<ss.length):ed (ss.drop i)=(decide (ss[i].kd=6) || ed (ss.drop (i+1+ss[i].th.toNat+ss[i].el.toNat))):=by rw[drop_eq_getElem_cons h,endsB_cons,drop_drop,<-Nat.add_assoc]
end
theorem A6(N:Nat)(hN:N<=1000)(IH:mS N)(e:List Nd)(x va vb:BY)(ss tt:List St)(S:Ft)(w:AT)(hx:Tv w S x e)(ha:Bk w S va ss)(hb:Bk w S vb tt)(Xm:ss.length<=N)(Xo:tt.length<=N)(hl:e.length<=2000)(hS:∀B,S B->B<w.heap.size)(Xn:∀s∈ss,FE s)(Jo:∀s∈tt,FE s):
  Calls prog 68 #[.iface 155 (.agg #[x,va,vb])] w λr w'=>∃u,r=rW u/\te w w' u (⟨4,⟨#[]⟩,e,[],ss.length,tt.length⟩::(ss++tt))/\Bl w w':=by
 have HX:=ah hx;have HA:=ah ha;have HB:=ah hb;obtain⟨tx,yx,rfl⟩:=hx.isI;obtain⟨A,vs,F,⟨aa,ca,rfl,-⟩,-⟩:=ha;obtain⟨B,us,H,⟨ab,cb,rfl,-⟩,-⟩:=hb;have⟨W0,Jl⟩:=q_ (w.alloc (.cells #[.iface tx yx,.slice aa A ca,.slice ab B cb] 155));have Ja:Bl w W0:=by rw[Jl];exact r_.alloc n_ _
 have Xs:W0.heap.size=w.heap.size+1:=by rw[Jl];simp
 have Jp:Bl W0 W0.drew:=r_.drew;have HY:Hid (∀W,Bl W0 W->W.cell? ⟨w.heap.size,0,none⟩=some (.iface tx yx)/\W.cell? ⟨w.heap.size,1,none⟩=some (.slice aa A ca)/\W.cell? ⟨w.heap.size,2,none⟩=some (.slice ab B cb)):=λW hW=>by rw[hW.cell (p:=⟨w.heap.size,0,none⟩) H6,hW.cell (p:=⟨w.heap.size,1,none⟩) H6,hW.cell (p:=⟨w.heap.size,2,none⟩) H6,Jl];exact⟨i_,i_,i_⟩
 have HT:Hid (∀W,Bl W0 W->Calls prog 40 #[.slice aa A ca] W λr w'=>∃Z U,r=rW (.slice Z ss.length U)/\te W w' (.slice Z ss.length U) ss/\Bl W w'):=λW hW=>by have Jb:=Ja.trans (hW.mono Ja.size);refine(IH ss _ S W Xm (HA.o.bel hS Jb) (λB hB=>l_ (hS B hB) Jb.size) Xn).mono ?_;rintro r w' ⟨u,rfl,hu,hb⟩;obtain⟨Z,U,rfl⟩:=hu.shape;exact⟨Z,U,rfl,hu,hb⟩
 have HO:Hid (∀W,Bl W0 W->Calls prog 40 #[.slice ab B cb] W λr w'=>∃Z U,r=rW (.slice Z tt.length U)/\te W w' (.slice Z tt.length U) tt/\Bl W w'):=λW hW=>by have Jb:=Ja.trans (hW.mono Ja.size);refine(IH tt _ S W Xo (HB.o.bel hS Jb) (λB hB=>l_ (hS B hB) Jb.size) Jo).mono ?_;rintro r w' ⟨u,rfl,hu,hb⟩;obtain⟨Z,U,rfl⟩:=hu.shape;exact⟨Z,U,rfl,hu,hb⟩
 have HL:Hid (∀W,Bl W0 W->Calls prog 93 #[.iface tx yx] W λr w'=>∃a n c,r=rW (.slice a n c)/\(∃g,dH w.heap.size w' (.slice a n c) e [g]/\W.heap.size<=g)/\Bl W w'):=λW hW=>by have Jb:=Ja.trans (hW.mono Ja.size);refine(dl _ e S W (λB hB=>l_ (hS B hB) Jb.size) (HX.o.keep (λ_ h=>h) (λB hB=>Jb.block B (hS B hB))) hl).mono ?_;rintro r w' ⟨v,rfl,hv,hb⟩;obtain⟨g,hg,Xy,-⟩:=hv.one;obtain⟨g',Yc,rfl,-⟩:=hv;exact⟨_,_,_,rfl,⟨g,hg.base Jb.size,Xy⟩,hb⟩
 have Xx:=ah Jl;have Jy:=λW v=>ch W 155 v d_;have Xl:=λW v=>dq W 155 v d_;have Jq:=λW v=>cT W 155 v d_;have Xr:=λW v=>lO W v;obtain⟨J,Jt⟩:∃J:Nat,J=ss.length:=⟨_,rfl⟩;obtain⟨I,Jv⟩:∃I:Nat,I=tt.length:=⟨_,rfl⟩;have Xd:Hid (J=ss.length/\I=tt.length):=⟨Jt,Jv⟩;have Xq:J<=1000:=o_
 have Xp:I<=1000:=o_;rw[<-Jt]at HT⊢;rw[<-Jv]at HO⊢;clear hx hS Jl Jt Jv Xm Xo Xn Jo IH Xs;go_in;go_upto_region 13 with fail;rw[<-Xx.o];have⟨y0,y1,y2⟩:=HY.o _ Jp;go_region_held (λW=>W.cell? ⟨w.heap.size,1,none⟩=some (.slice aa A ca)/\W.cell? ⟨w.heap.size,2,none⟩=some (.slice ab B cb)) (go_keep)
  (first
  | ((with_reducible refine Calls.mono (HT.o _ Jp) ?_);intro r wt hr;obtain⟨Z,U,Jz,Xh,Jn⟩:=hr;subst Jz;have Ji:Bl W0 wt:=Jp.trans (Jn.mono Jp.size);have q:=(HY.o wt Ji).2)
  | ((with_reducible refine Calls.mono (HO.o _ Ji) ?_);intro r wo hr;obtain⟨a2,c2,Jz,Xi,Jf⟩:=hr;subst Jz;have Jj:Bl W0 wo:=Ji.trans (Jf.mono Ji.size);have q2:=(HY.o wo Jj).2))
 have Xj:=ah Xh;have Xb:=ah Xi;have Je:=ah Jf;have z0:=(HY.o wo Jj).1;clear Xh Xi Jf Jn q q2 y0 y1 y2 HT HO;go_wp2_with fail;refine(HL.o _ Jj).mono ?_;rintro r w2 ⟨a3,n3,c3,rfl,Xc,Jr⟩;have Jk:Bl W0 w2:=Jj.trans (Jr.mono Jj.size);have Jh:Bl w w2:=Ja.trans (Jk.mono Ja.size);have⟨W5,Jc⟩:=q_ (((w2.alloc (.cells #[V 4,sV ⟨#[]⟩,.slice a3 n3 c3,nV,V (J:Int),V (I:Int)] 79)).alloc (.cells #[V 4,sV ⟨#[]⟩,.slice a3 n3 c3,nV,V (J:Int),V (I:Int)] 79)).alloc (.cells #[.slice (some ⟨w2.heap.size+1,0,none⟩) 1 1,.slice Z J U,.slice a2 I c2] 50));have Jd:Bl w2 W5:=by rw[Jc];exact((ao _ _).alloc i_ _).alloc H6 _
 have Jg:Bl w W5:=Jh.trans (Jd.mono Jh.size);have Xa:Hid (Calls prog 96 #[.slice (some ⟨w2.heap.size+1+1,0,none⟩) 3 3] W5 λr w'=>∃a n c,r=rW (.slice a n c)/\te w w' (.slice a n c) (⟨4,⟨#[]⟩,e,[],(J:Int),(I:Int)⟩::(ss++tt))/\Bl W5 w'):=by
  obtain⟨g,hg,Ya⟩:=Xc;have⟨R,J_,Xe⟩:=Xj.o;have⟨R',Js,Xk⟩:=Xb.o;have Xg:Bl w2 (w2.alloc (.cells #[V 4,sV ⟨#[]⟩,.slice a3 n3 c3,nV,V (J:Int),V (I:Int)] 79)):=ao _ _;have h1:=gC (w:=w) (w1:=w2.alloc (.cells #[V 4,sV ⟨#[]⟩,.slice a3 n3 c3,nV,V (J:Int),V (I:Int)] 79)) ⟨⟨4,⟨#[]⟩,e,[],(J:Int),(I:Int)⟩,.slice a3 n3 c3,nV,[g],[]⟩ (by have:=Jh.size;simp;omega) (hg.keep Xg.size λx hx=>Xg.block x (hg.rng x hx).2) (dH.nil _ _) i_;have e1:(w2.alloc (.cells #[V 4,sV ⟨#[]⟩,.slice a3 n3 c3,nV,V (J:Int),V (I:Int)] 79)).heap.size=w2.heap.size+1:=i_;simp only[e1]at h1;have Xz:bP w.heap.size W5 (.slice (some ⟨w2.heap.size+1,0,none⟩) 1 1) [⟨⟨4,⟨#[]⟩,e,[],(J:Int),(I:Int)⟩,.slice a3 n3 c3,nV,[g],[]⟩]:=by rw[Jc];exact h1.below (ao _ _)
  have Xv:bP w.heap.size W5 (.slice Z J U) R:=(((J_.below Je).below Jr).below Jd).base (by have:=Ja.size;simpa using this);have Xu:bP w.heap.size W5 (.slice a2 I c2) R':=((Js.below Jr).below Jd).base (t_ Ja.size Ji.size);have X_:R.length=J:=by have:=congrArg List.length Xe;rw[J8]at this;have:=Xd.o.1;omega
  have Yb:R'.length=I:=by have:=congrArg List.length Xk;rw[J8]at this;have:=Xd.o.2;omega
  have⟨X,hX⟩:=q_ ((w2.alloc (.cells #[V 4,sV ⟨#[]⟩,.slice a3 n3 c3,nV,V (J:Int),V (I:Int)] 79)).alloc (.cells #[V 4,sV ⟨#[]⟩,.slice a3 n3 c3,nV,V (J:Int),V (I:Int)] 79));have Jx:X.heap.size=w2.heap.size+1+1:=by rw[hX];simp
  rw[<-hX]at Jc;have d0:W5.cell? ⟨w2.heap.size+1+1,0,none⟩=some (.slice (some ⟨w2.heap.size+1,0,none⟩) 1 1):=by rw[Jc,<-Jx];simp
  have d1:W5.cell? ⟨w2.heap.size+1+1,1,none⟩=some (.slice Z J U):=by rw[Jc,<-Jx];simp
  have d2:W5.cell? ⟨w2.heap.size+1+1,2,none⟩=some (.slice a2 I c2):=by rw[Jc,<-Jx];simp
  refine(xT (w2.heap.size+1+1) w.heap.size _ _ _ _ R R' W5 d0 d1 d2 Xz Xv Xu i_ H6 ?_ Jg.size).mono ?_;have f1:∀y∈dP R,y<wt.heap.size:=λy hy=>(J_.rng y hy).2;have f2:∀y∈dP R',wt.heap.size<=y/\y<wo.heap.size:=λy hy=>Js.rng y hy;rw[nodup_append,nodup_append];refine⟨⟨by simp[dP],J_.nd,λx hx y hy=>?_⟩,Js.nd,λx hx y hy=>?_⟩
  have Xt:x=g:=(by simpa[dP]using hx);have:=f1 y hy
  have:=Je.o.size
  omega
  have:=f2 y hy
  rcases J5.1 hx with hx|hx;have Xt:x=g:=(by simpa[dP]using hx);omega
  have:=f1 x hx
  omega;rintro r w' ⟨v,rfl,hv,hb⟩;obtain⟨a,c,rfl⟩:=hv.shape;exact⟨a,_,c,rfl,⟨_,hv,by simp[Xe,Xk]⟩,hb⟩
 have Xw:=ah Jc;clear Xc Jr Jk z0 Xj Xb Je Jc HL;go_wp2_with fail;rw[<-Xw.o];refine Xa.o.mono ?_;rintro r w6 ⟨a,n,c,rfl,Jm,Xf⟩;have Ju:=ah Jm;have Jw:=Jg.trans (Xf.mono Jg.size);clear Jm Xf Xa;go_wp2;go_ret;exact⟨_,rfl,Ju,Jw⟩
theorem qC(N:Nat)(Z:N<=1000)(U:mS N){v:BY}{l:List St}{S:Ft}{w:AT}(J:l.length<=N+1)(hv:Bv w S v l)(I:∀B,S B->B<w.heap.size)(Ja:∀s∈l,FE s):
  Calls prog 68 #[v] w λe w'=>∃u,e=rW u/\te w w' u l/\Bl w w':=by
 cases hv using Bv_i with
 | decl s x h1 h2 h3 h4=>have h:=Ja s i_;obtain⟨k,nm,e,f,t,q⟩:=s;simp only at h1 h2 h3 h4;obtain rfl:f=[]:=h.nf (by simp only;omega);subst h1 h3 h4;exact vD nm e x S w h2 h.e I
 | set s x h1 h2 h3 h4=>have h:=Ja s i_;obtain⟨k,nm,e,f,t,q⟩:=s;simp only at h1 h2 h3 h4;obtain rfl:f=[]:=h.nf (by simp only;omega);subst h1 h3 h4;exact xS nm e x S w h2 h.e I
 | store s x y h1 h2 h3 h4 h5=>have h:=Ja s i_;obtain⟨k,nm,e,f,t,q⟩:=s;simp only at h1 h2 h3 h4 h5;subst h1 h4 h5;exact tg nm e f x y S w h2 h3 h.e h.f I
 | ret s x h1 h2 h3 h4=>have h:=Ja s i_;obtain⟨k,nm,e,f,t,q⟩:=s;simp only at h1 h2 h3 h4;obtain rfl:f=[]:=h.nf (by simp only;omega);obtain rfl:nm=⟨#[]⟩:=h.nn (by simp only;omega);subst h1 h3 h4;exact qA e x S w h2 h.e I
 | out s x h1 h2 h3 h4=>have h:=Ja s i_;obtain⟨k,nm,e,f,t,q⟩:=s;simp only at h1 h2 h3 h4;obtain rfl:f=[]:=h.nf (by simp only;omega);obtain rfl:nm=⟨#[]⟩:=h.nn (by simp only;omega);subst h1 h3 h4;exact xR e x S w h2 h.e I
 | call s x h1 h2 h3 h4=>have h:=Ja s i_;obtain⟨k,nm,e,f,t,q⟩:=s;simp only at h1 h2 h3 h4;obtain rfl:f=[]:=h.nf (by simp only;omega);obtain rfl:nm=⟨#[]⟩:=h.nn (by simp only;omega);subst h1 h3 h4;exact vC e x S w h2 h.e I
 | ifs s x va vb A B vs us F H h1 h2 h3 h4 h5 h6 h7 h8=>have h:=Ja s i_;obtain⟨k,nm,e,f,t,q⟩:=s;simp only at h1 h2 h7 h8;obtain rfl:f=[]:=h.nf (by simp only;omega);obtain rfl:nm=⟨#[]⟩:=h.nn (by simp only;omega);subst h1 h7 h8;simp only[l_c,l_a]at J;exact A6 N Z U e x va vb _ _ S w h2 ⟨A,vs,F,h3,h4,rfl⟩ ⟨B,us,H,h5,h6,rfl⟩ o_ o_ h.e I (λs hs=>Ja s (by simp[hs])) (λs hs=>Ja s (by simp[hs]))
 | whil s x va A vs F h1 h2 h3 h4 h5 h6=>have h:=Ja s i_;obtain⟨k,nm,e,f,t,q⟩:=s;simp only at h1 h2 h5 h6;obtain rfl:f=[]:=h.nf (by simp only;omega);obtain rfl:nm=⟨#[]⟩:=h.nn (by simp only;omega);subst h1 h5 h6;simp only[l_c]at J;exact ti N Z U e x va _ S w h2 ⟨A,vs,F,h3,h4,rfl⟩ o_ h.e I (λs hs=>Ja s (by simp[hs]))
def vH(N:Nat)(hN:N<=999)(IH:mS N):mS (N+1):=by
 intro ss v S w hl hB hS Jt;obtain⟨L,hL,rfl⟩:=hB.toL;have HL:=ah hL;obtain⟨a,Xa,rfl,Xc,Xb,Jd⟩:=hL.args;have Jw:=ah Jd;have U:=ah hS;have Jr:=ah IH;have Jb:=ah hl;have Jp:=ah Jt;have J_:L.length<=N+1:=by have h2:=HL.o.parts;have:=f_ L.length (λi hi=>(h2.2.1 i hi).pos);rw[h2.2.2]at this;omega
 go_in;go_wp2;go_loopw[3,8] (λp i wr=>∃(k:Nat) (R:List SV),k<=L.length/\i=V k/\bP w.heap.size wr p R/\R.map (·.s)=aG (L.take k)/\Bl w wr) (λ_ i _=>L.length-(RowKit.intOf i).toNat)
 case atStart=>exact⟨0,[],y_,rfl,bP.nil _ _,by simp[kg],r_⟩
 case round=>
  obtain⟨k,R,hk,rfl,hR,Z,Ja⟩:=hrel;have I:=ah hR;have Jh:=ah Z;obtain⟨va,vc,rfl⟩:=hR.shape;by_cases hlt:k<L.length
  ·obtain⟨B,rfl,Js,Jx⟩:=Jw.o o_;have Je:L[k]∈L:=g_ hlt;have Jf:=HL.o.bv _ Je;have⟨tk,yk,Jl⟩:=Jf.isI;have c0:=(Ja.cell (p:=⟨B,k,none⟩) (U.o B Js)).trans (Jx k hlt);rw[getD_at hlt,Jl]at c0;rw[Jl]at Jf;have Ju:L.take (k+1)=L.take k++[L[k]]:=take_succ_eq_append_getElem hlt;have Jy:Hid (aG (L.take (k+1))=aG (L.take k)++L[k].2):=(by show _=_;rw[Ju,flatL_append];simp[aG]);have Jg:∀s∈L[k].2,s∈aG L:=λs hs=>mem_flatten.2 ⟨_,mem_map.2 ⟨_,Je,rfl⟩,hs⟩;have Jq:Hid (Calls prog 68 #[.iface tk yk] wr λe w'=>∃a n c,e=rW (.slice a n c)/\te wr w' (.slice a n c) L[k].2/\Bl wr w'):=by refine(qC N o_ Jr.o (Ia (mg hlt) Jb.o) (Jf.bel U.o Ja) (λB hB=>l_ (U.o B hB) Ja.size) (λs hs=>Jp.o s (Jg s hs))).mono ?_;rintro r w' ⟨u,rfl,hu,hb⟩;obtain⟨a1,c1,rfl⟩:=hu.shape;exact⟨_,_,_,rfl,hu,hb⟩
   have Jz:R.length<=1000:=by
    have J:=congrArg List.length Jh;rw[J8]at J;have h2:(aG (L.take k)).length<=(aG L).length:=by have e:L=L.take k++L.drop k:=(take_append_drop k L).symm;have h:=congrArg (λX=>(aG X).length) e;simp only[flatL_append,l_a]at h;omega
    have:=Jb.o
    omega
   have Jo:L[k].2.length<=1000:=(Ia (mg hlt) Jb.o);go_wp2_with fail;refine Jq.o.mono ?_;rintro x w1 ⟨a1,n1,c1,rfl,⟨R2,Jk,Jn⟩,Jj⟩;have Jv:R2.length<=1000:=(by have J:=congrArg List.length Jn;rw[J8]at J;omega);have⟨v',w2,r1,s1,g1,f1⟩:=jN 50 (I.o.below Jj) (Jk.base Ja.size) (t_ Ja.size Jj.size) (λx hx y hy=>by
    have:=(I.o.rng x hx).2
    have:=(Jk.rng y hy).1
    omega) (λg hg Z=>by
    have:=(ownsRow.lt I.o.row g hg).2
    have:=(Jk.rng g Z).1
    omega) o_
   have Jc:Bl w w1:=Ja.trans (Jj.mono Ja.size);have Ji:Bl w w2:=Jc.grown g1 Jc.size (λg hg=>(ownsRow.lt I.o.row g hg).1);have Jm:Hid (bP w.heap.size w2 v' (R++R2)/\(R++R2).map (·.s)=aG (L.take (k+1))):=⟨s1,by rw[map_append,Jh.o,Jn,Jy.o]⟩;obtain⟨av,nv,cv,rfl⟩:∃a n c,v'=.slice a n c:=(by have⟨a,c,h⟩:=s1.shape;exact⟨_,_,_,h⟩);go_wp2_with(at_builtin;refine ay rfl _ _ _ rfl _ _ (.slice av nv cv) w2 rfl rfl r1 ?_);go_wp2;go_roundw
   case rel=>exact⟨k+1,R++R2,o_,by go_num,Jm.o.1,Jm.o.2,Ji⟩
   case measure=>exact IF
  obtain rfl:k=L.length:=(by omega);have HE:Hid (R.map (·.s)=aG L):=(by show _=_;rw[Jh.o,take_length]);go_wp2;go_ret;exact⟨_,rfl,⟨R,I,HE⟩,Ja⟩
def vJ:mS 0:=by
 intro ss v S w Z J hS Ja;obtain⟨L,I,rfl⟩:=J.toL;have U:L=[]:=by have h2:=I.parts;have:=f_ L.length (λi hi=>(h2.2.1 i hi).pos);rw[h2.2.2]at this;exact J3 o_
 subst U;obtain⟨a,Jb,rfl,-⟩:=I.args;go_in;go_wp2_with fail;refine wp_loop_rounds 1 ?_;rw[rounds_succ];go_wp2;go_ret;exact⟨_,rfl,⟨[],bP.nil _ _,rfl⟩,r_⟩
theorem pQ:∀N,N<=1000->mS N
 | 0,_=>vJ
 | N+1,h=>vH N o_ (pQ N o_)
