import Derived.Test.YtngnoopnloojjaaGreatDoorQ70
import Derived.Deep.Cut
set_option linter.all false
set_option maxRecDepth 100000
set_option maxHeartbeats 0
namespace Go.Proofs.YtngnoopnloojjaaGreatDoor
open Go.World List
open Go.Proofs.Tryz Go.RowKit
variable[Inhabited Pick]
section
variable{w W w':AT}{S S1:DO}{u x u1:BY}{ss:List St}{M1:List (BY×List St)}
def od(N:Nat):Prop:=∀(ss:List St) (v:BY) (S:DO) (w:AT),ss.length<=N->Bk w S v ss->(∀B,S B->B<w.heap.size)->Calls prog 89 #[v] w λe w'=>∃u,e=rW u/\rn w w' S u (aN ss)/\Bl w w'
def rn.up(h:rn W w' S u ss)(I:w.heap.size<=W.heap.size):rn w w' S u ss:=by obtain⟨S',M,H,h2,h3,h4⟩:=h;exact⟨S',M,H,λB hB=>⟨t_ I (h2 B hB).1,(h2 B hB).2⟩,h3,h4⟩
def rn.bel(h:rn w W S u ss)(J:∀B,S B->B<W.heap.size)(H:Bl W w'):rn w w' S u ss:=by obtain⟨S',M,I,h2,h3,h4⟩:=h;refine⟨S',M,I.bel (λB hB=>?_) H,λB hB=>⟨(h2 B hB).1,l_ (h2 B hB).2 H.size⟩,h3,h4⟩;rcases hB with hB|hB;exact J B hB;exact(h2 B hB).2
def rn.slice(h:rn w w' S u ss):∃a n c,u=.slice a n c:=by obtain⟨S',M,H,-⟩:=h;obtain⟨a,Ja,rfl,-⟩:=H.args;exact⟨_,_,_,rfl⟩
def uB{w1:AT}{l:List St}(t:IN)(J:Bv w1 (λB=>S B\/S1 B) x l)(I:∀B,S B->B<w.heap.size)(Ja:∀B,S1 B->w.heap.size<=B/\B<w1.heap.size)(h:Bl w w1):rn w (w1.alloc (.cells #[x] t)) S (rV w1.heap.size 1 1) l:=by
 have H:∀B,B<w1.heap.size->(w1.alloc (.cells #[x] t)).heap[B]? =w1.heap[B]? := λB hB=>((Below.refl w1.heap.size w1).alloc n_ _).block B hB;refine⟨λB=>S1 B\/B=w1.heap.size,[(x,l)],⟨⟨_,1,rfl,n_,o_,λ_=>⟨w1.heap.size,rfl,.inr (.inr rfl),λi hi=>?_⟩⟩,λq hq=>?_⟩,λB hB=>?_,by simp[aG],dH.one _⟩
 have:i=0:=by simp at hi;omega
 subst this;simp;simp only[K7]at hq;subst hq;refine J.keep (λB hB=>?_) (λB hB=>H B ?_);rcases hB with hB|hB;exact .inl hB;exact .inr (.inl hB);rcases hB with hB|hB;exact l_ (I B hB) h.size;exact(Ja B hB).2;rcases hB with hB|rfl
 ·exact⟨(Ja B hB).1,by have:=(Ja B hB).2;simp;omega⟩
 exact⟨h.size,i_⟩
def Oc{H:DO}(s:St){u2:BY}{I:List (BY×List St)}(hx:Tv w S x s.e)(hk:s.kd=4)(h1:oC w (λB=>S B\/S1 B) u1 M1)(h2:oC w (λB=>S B\/H B) u2 I):
  Bv w (λB=>S B\/(S1 B\/H B)) (.iface 317 (.agg #[x,u1,u2])) ({s with th:=(aG M1).length,el:=(aG I).length}::(aG M1++aG I)):=by
 have J:oC w (λB=>S B\/(S1 B\/H B)) u1 M1:=h1.keep (λB hB=>by rcases hB with hB|hB;exact .inl hB;exact .inr (.inl hB)) (λ_ _=>rfl);have U:oC w (λB=>S B\/(S1 B\/H B)) u2 I:=h2.keep (λB hB=>by rcases hB with hB|hB;exact .inl hB;exact .inr (.inr hB)) (λ_ _=>rfl);have⟨X,Y,O⟩:=J.parts;have⟨Z,q2,q3⟩:=U.parts;rw[<-O,<-q3];exact .ifs {s with th:=_,el:=_} x u1 u2 _ _ _ _ _ _ hk (hx.keep (λ_ h=>.inl h) (λ_ _=>rfl)) X Y Z q2 rfl rfl
def Gm(s:St)(X:Tv w S x s.e)(U:s.kd=5)(O:oC w (λB=>S B\/S1 B) u1 M1):
  Bv w (λB=>S B\/S1 B) (.iface 319 (.agg #[x,u1])) ({s with th:=(aG M1).length,el:=0}::aG M1):=by
 have⟨I,J,H⟩:=O.parts;rw[<-H];exact .whil {s with th:=_,el:=_} x u1 _ _ _ U (X.keep (λ_ h=>.inl h) (λ_ _=>rfl)) I J rfl rfl
def rt(t:IN)(x:BY)(H:t≠317)(h2:t≠319)(w:AT):
  Calls prog 148 #[.iface t x] w λe w'=>e=rW (rV w.heap.size 1 1)/\w'=w.alloc (.cells #[.iface t x] 289):=by
 have I:=λW=>ib W t x H;have J:=λW=>gw W t x h2;go_in;go_wp2;go_ret;exact⟨rfl,rfl⟩
theorem zO(N:Nat)(IH:od N)(s:St)(x va vb:Value)(U O:List (Value×List St))(S:Nat->Prop)(w:World)(hk:s.kd=4)(Z:Tv w S x s.e)(ha:oC w S va U)(hb:oC w S vb O)(Jw:(aG U).length<=N)(Jx:(aG O).length<=N)(hS:∀B,S B->B<w.heap.size):
  Calls prog 148 #[.iface 317 (.agg #[x,va,vb])] w λe w'=>∃u,e=rW u/\rn w w' S u (ch s (aN (aG U)) (aN (aG O)))/\Below w.heap.size w w':=by
 have HX:=ah Z;have HA:=ah ha;have HB:=ah hb;have HS:=ah hS;obtain⟨tx,yx,rfl⟩:=Z.isI;obtain⟨aa,ca,rfl,-⟩:=ha.args;obtain⟨ab,cb,rfl,-⟩:=hb.args;have⟨X,Jl⟩:=q_ (aN (aG U));have⟨Y,Jo⟩:=q_ (aN (aG O));have⟨W0,Jf⟩:=q_ (w.alloc (.cells #[.iface tx yx,.slice aa U.length ca,.slice ab O.length cb] 317));have Jc:Bl w W0:=by rw[Jf];exact r_.alloc n_ _
 have Jz:W0.heap.size=w.heap.size+1:=by rw[Jf];simp
 have HT:Hid (∀W,Bl W0 W->Calls prog 89 #[.slice aa U.length ca] W λe w'=>∃I J H,e=rW (.slice I J H)/\rn w w' S (.slice I J H) X/\Bl W w'):=λW hW=>by have Jb:=Jc.trans (hW.mono Jc.size);refine(IH (aG U) _ S W Jw (HA.out.bel hS Jb).bk (λB hB=>l_ (hS B hB) Jb.size)).mono ?_;rintro e w' ⟨u,rfl,ht,Jn⟩;obtain⟨I,J,H,rfl⟩:=ht.slice;exact⟨I,J,H,rfl,by rw[Jl];exact ht.up Jb.size,Jn⟩
 have HO:Hid (∀W,Bl W0 W->Calls prog 89 #[.slice ab O.length cb] W λe w'=>∃I J H,e=rW (.slice I J H)/\rn w w' S (.slice I J H) Y/\Bl W w'):=λW hW=>by have Jb:=Jc.trans (hW.mono Jc.size);refine(IH (aG O) _ S W Jx (HB.out.bel hS Jb).bk (λB hB=>l_ (hS B hB) Jb.size)).mono ?_;rintro e w' ⟨u,rfl,ht,Jn⟩;obtain⟨I,J,H,rfl⟩:=ht.slice;exact⟨I,J,H,rfl,by rw[Jo];exact ht.up Jb.size,Jn⟩
 have HY:Hid (∀W,Bl W0 W->W.cell? ⟨w.heap.size,0,none⟩=some (.iface tx yx)/\W.cell? ⟨w.heap.size,1,none⟩=some (.slice aa U.length ca)/\W.cell? ⟨w.heap.size,2,none⟩=some (.slice ab O.length cb)):=λW hW=>by rw[hW.cell (p:=⟨w.heap.size,0,none⟩) (by simp;omega),hW.cell (p:=⟨w.heap.size,1,none⟩) (by simp;omega),hW.cell (p:=⟨w.heap.size,2,none⟩) (by simp;omega),Jf];exact⟨i_,i_,i_⟩
 have Jg:Hid (Bl W0 W0.drew):=r_.drew;have Xb:=ah Jf;have Xc:w.heap.size<W0.heap.size:=o_;have HK:=ah hk;have HM:Hid (ch s (aN (aG U)) (aN (aG O))=ch s X Y):=by show _=_;rw[Jl,Jo]
 have Xa:W0.heap.size<=w.heap.size+1/\w.heap.size+1<=W0.heap.size:=o_;have I:=λW v=>rZ W v;clear Z ha hb hS Jl Jo Jf hk Jw Jx Jz;go_in;go_upto_region 4 with fail;rw[<-Xb.out];go_cut [4,5]from 15 (λp q W=>∃I J H a2 n2 c2,p=.slice I J H/\q=.slice a2 n2 c2/\rn w W S (.slice I J H) X/\rn w W S (.slice a2 n2 c2) Y/\Bl W0 W)
 case first=>
  have⟨y0,y1,y2⟩:=HY.out _ Jg;go_region_held (λW=>W.cell? ⟨w.heap.size,1,none⟩=some (.slice aa U.length ca)/\W.cell? ⟨w.heap.size,2,none⟩=some (.slice ab O.length cb)) (go_keep)
   (first
   | ((with_reducible refine Calls.mono (HT.out _ Jg.out) ?_);intro x wt Z;obtain⟨I,J,H,Jm,Jh,Jp⟩:=Z;subst Jm;have Jd:Bl W0 wt:=Jg.out.trans (Jp.mono i_);have q:=(HY.out wt Jd).2)
   | ((with_reducible refine Calls.mono (HO.out _ Jd) ?_);intro x wo Z;obtain⟨a2,n2,c2,Jm,Ji,Je⟩:=Z;subst Jm;have Jt:Bl W0 wo:=Jd.trans (Je.mono Jd.size);have q:=(HY.out wo Jt).2))
  all_goals (go_wp2_with fail)
  all_goals go_meet
  exact⟨_,_,_,_,_,_,rfl,rfl,Jh.bel (λB hB=>by have:=HS.out B hB;have:=Jd.size;omega) Je,Ji,Jt⟩
 case rest=>
  obtain⟨Xf,J,H,Xd,n2,c2,rfl,rfl,Jh,Ji,Jk⟩:=hcut;have Ju:=ah Jh;have Js:=ah Ji;have Ja:Bl w wc:=Jc.trans (Jk.mono Jc.size);have⟨y0,y1,y2⟩:=HY.out wc Jk;have Jq:∀B,S B->B<wc.heap.size:=λB hB=>l_ (HS.out B hB) Ja.size;have Jj:=ah Jq;clear Jh Ji Jq HT HO HY Jg Jk;cases hn:gI s.e with
  | some z=>
   have HN:=ah hn;have hv:=HX.out.some hn;simp only[Value.iface.injEq]at hv;obtain⟨rfl,rfl⟩:=hv;have b1:=λW v=>bD W v;clear hn;by_cases hz:z=0
   ·have HE:Hid (ch s X Y=Y):=(by show _=_;unfold ch;rw[if_pos HK.out,HN.out];simp[hz]);subst hz;go_wp2;go_ret;exact⟨_,rfl,by rw[HM.out,HE.out];exact Js.out.bel Jj.out (aq _ _),Ja.alloc Ja.size _⟩
   have HE:Hid (ch s X Y=X):=(by show _=_;unfold ch;rw[if_pos HK.out,HN.out];simp[hz]);go_wp2;go_ret;exact⟨_,rfl,by rw[HM.out,HE.out];exact Ju.out.bel Jj.out (aq _ _),Ja.alloc Ja.size _⟩
  | none=>
   have HN:=ah hn;have⟨tt,yy,hv,Jy⟩:=HX.out.none hn;simp only[Value.iface.injEq]at hv;obtain⟨rfl,rfl⟩:=hv;have b1:=λW=>aY W tx yx Jy;have HE:Hid (ch s X Y={s with th:=X.length,el:=Y.length}::(X++Y)):=(by show _=_;unfold ch;rw[if_pos HK.out,HN.out]);have J_:w.heap.size<wc.heap.size:=b_ y0;have Xe:=λo=>(World.cell?_alloc_lt wc o ⟨w.heap.size,0,none⟩ J_).trans y0;clear hn;go_wp2;go_ret;refine⟨_,rfl,?_,(Ja.alloc Ja.size _).alloc (by have:=Ja.size;simp;omega) _⟩;rw[HM.out,HE.out];have Jv:Bl w (wc.alloc (.cells #[V 0] 100)):=Ja.alloc Ja.size _;have Jr:Bl wc (wc.alloc (.cells #[V 0] 100)):=aq _ _;obtain⟨S1,M1,m1,s1,f1,-⟩:=Ju.out.bel Jj.out Jr;obtain⟨S2,M2,m2,s2,f2,-⟩:=Js.out.bel Jj.out Jr;have q:=Oc s (HX.out.keep (λ_ h=>h) (λB hB=>Jv.block B (HS.out B hB))) HK.out m1 m2;rw[f1,f2]at q;have:=uB (S:=S) (S1:=λB=>S1 B\/S2 B) 289 q HS.out (λB hB=>by rcases hB with hB|hB;exact s1 B hB;exact s2 B hB) Jv
   simpa using this
end
def AY(w w':AT)(S:DO):rn w w' S nV []:=
 ⟨λ_=>False,[],⟨⟨none,0,rfl,n_,o_,λh=>absurd h (Nat.lt_irrefl _)⟩,λq hq=>by cases hq⟩,λB hB=>hB.elim,rfl,dH.nil⟩
theorem rx(N:Nat)(IH:od N)(s:St)(x va:Value)(H:List (Value×List St))(S:Nat->Prop)(w:World)(hk:s.kd=5)(hx:Tv w S x s.e)(ha:oC w S va H)(Jm:(aG H).length<=N)(hS:∀B,S B->B<w.heap.size):
  Calls prog 148 #[.iface 319 (.agg #[x,va])] w λe w'=>∃u,e=rW u/\rn w w' S u (ch s (aN (aG H)) [])/\Below w.heap.size w w':=by
 have HX:=ah hx;have HA:=ah ha;have HS:=ah hS;obtain⟨tx,J,rfl⟩:=hx.isI;obtain⟨Y,U,rfl,-⟩:=ha.args;have⟨O,Jg⟩:=q_ (aN (aG H));rw[<-Jg];have⟨W0,Ja⟩:=q_ (w.alloc (.cells #[.iface tx J,.slice Y H.length U] 319));have Jb:Bl w W0:=by rw[Ja];exact r_.alloc n_ _
 have Jx:W0.heap.size=w.heap.size+1:=by rw[Ja];simp
 have HT:Hid (∀W,Bl W0 W->Calls prog 89 #[.slice Y H.length U] W λe w'=>∃Z n1 X,e=rW (.slice Z n1 X)/\rn w w' S (.slice Z n1 X) O/\Bl W w'):=λW hW=>by have Jh:=Jb.trans (hW.mono Jb.size);refine(IH (aG H) _ S W Jm (HA.out.bel hS Jh).bk (λB hB=>l_ (hS B hB) Jh.size)).mono ?_;rintro e w' ⟨u,rfl,ht,Jt⟩;obtain⟨Z,n1,X,rfl⟩:=ht.slice;exact⟨Z,n1,X,rfl,by rw[Jg];exact ht.up Jh.size,Jt⟩
 have y0:W0.cell? ⟨w.heap.size,0,none⟩=some (.iface tx J):=by rw[Ja];simp
 have y1:W0.cell? ⟨w.heap.size,1,none⟩=some (.slice Y H.length U):=by rw[Ja];simp
 have Ji:=ah Ja;have HK:=ah hk;have Z:=λW v=>lT W v;have a2:=λW v=>ib W 319 v d_;have Jp:W0.heap.size<=w.heap.size+1/\w.heap.size+1<=W0.heap.size:=o_
 have Jl:s.kd≠4:=o_;clear hx ha hS Jg hk Jm;by_cases h0:gI s.e=some 0
 ·have I:=HX.out.some h0;simp only[Value.iface.injEq]at I;obtain⟨rfl,rfl⟩:=I;have b1:=λW v=>bD W v;have HE:Hid (ch s O []=[]):=by show _=_;unfold ch;rw[if_neg Jl,if_pos HK.out,h0];simp
  clear h0 Ja;go_in;go_wp2_with fail;rw[<-Ji.out];go_ret;exact⟨_,rfl,by rw[HE.out];exact AY _ _ _,Jb.alloc Jb.size _⟩
 have HE:Hid (ch s O []={s with th:=O.length,el:=0}::O):=by show _=_;unfold ch;rw[if_neg Jl,if_pos HK.out,if_neg h0];simp
 obtain⟨zz,kn,Jy,Jq⟩:∃(zz:Int) (kn:Bool),(∀W:World,(Instr.typeAssert (.iface tx J) 55 100 true).run prog W=.ok (.tuple #[.agg #[V zz],.bool kn]) W)/\(kn=false\/(kn=true/\zz≠0)):=by
  cases hn:gI s.e with
  | some z=>have I:=HX.out.some hn;simp only[Value.iface.injEq]at I;obtain⟨rfl,rfl⟩:=I;exact⟨z,true,λW=>bD W _,.inr ⟨rfl,λh=>h0 (by rw[hn,h])⟩⟩
  | none=>have⟨tt,yy,I,Jo⟩:=HX.out.none hn;simp only[Value.iface.injEq]at I;obtain⟨rfl,rfl⟩:=I;exact⟨0,false,λW=>aY W tx J Jo,.inl rfl⟩
 have⟨W1,Jf⟩:=q_ (W0.alloc (.cells #[V zz] 100));have Jv:Bl W0 W1:=by rw[Jf];exact r_.alloc n_ _
 have Jr:=ah Jf;have Je:Bl W0 W1.drew:=Jv.drew;have HY:Hid (∀W,Bl W0 W->W.cell? ⟨w.heap.size,0,none⟩=some (.iface tx J)/\W.cell? ⟨w.heap.size,1,none⟩=some (.slice Y H.length U)):=λW hW=>⟨(hW.cell (p:=⟨w.heap.size,0,none⟩) (by simp;omega)).trans y0,(hW.cell (p:=⟨w.heap.size,1,none⟩) (by simp;omega)).trans y1⟩;have⟨z0,z1⟩:=HY.out _ Je;have Ju:=ah (HT.out _ Je);clear h0 Ja HT Jf;rcases Jq with rfl|⟨rfl,Jz⟩;all_goals
  go_in;go_upto_region 16 with fail;rw[<-Ji.out,<-Jr.out];go_region_held (λW=>W.cell? ⟨w.heap.size,0,none⟩=some (.iface tx J)/\W.cell? ⟨w.heap.size,1,none⟩=some (.slice Y H.length U)) (go_keep)
   (first|((with_reducible refine Calls.mono Ju.out ?_);intro x wt hx;obtain⟨Jw,n1,X,Jn,Jk,Jc⟩:=hx;subst Jn;have Jj:Bl W0 wt:=Je.trans (Jc.mono Je.size);have q:=HY.out wt Jj))
  have Js:=ah Jk;have Jd:Bl w wt:=Jb.trans (Jj.mono Jb.size);clear Jk Jc q z0 z1;go_wp2;go_ret;refine⟨_,rfl,?_,Jd.alloc Jd.size _⟩;rw[HE.out];obtain⟨S1,M1,m1,s1,f1,-⟩:=Js.out;have q:=Gm s (HX.out.keep (λ_ h=>h) (λB hB=>Jd.block B (HS.out B hB))) HK.out m1;rw[f1]at q;exact uB 289 q HS.out s1 Jd
theorem xt(N:Nat)(IH:od N){v:BY}{l:List St}{S:DO}{w:AT}{s:St}{a b:List St}(U:l.length<=N+1)(hv:Bv w S v l)(Y:∀B,S B->B<w.heap.size)(I:Ca l s a b):
  Calls prog 148 #[v] w λe w'=>∃u,e=rW u/\rn w w' S u (ch s (aN a) (aN b))/\Bl w w':=by
 have Ja:∀(t:IN) (x:BY) (q:St),t≠317->t≠319->Bv w S (.iface t x) [q]->q.kd≠4->q.kd≠5->Ca [q] s a b->Calls prog 148 #[.iface t x] w λe w'=>∃u,e=rW u/\rn w w' S u (ch s (aN a) (aN b))/\Bl w w':=by
  intro t x q h h2 hb k4 k5 Jb;have e:=Jb.is;simp only[List.cons.injEq]at e;obtain⟨rfl,e⟩:=e;have X:a=[]:=(append_eq_nil_iff.1 e.symm).1;have O:b=[]:=(append_eq_nil_iff.1 e.symm).2;subst X O;have et:=Jb.th;have el:=Jb.el;have hm:ch q (aN []) (aN [])=[q]:=by unfold ch;rw[if_neg k4,if_neg k5];obtain⟨k,n,e1,f1,t1,l1⟩:=q;simp only[kE]at*;simp only[et,el,append_nil]
  refine(rt t x h h2 w).mono ?_;rintro e w' ⟨rfl,rfl⟩;refine⟨_,rfl,?_,r_.alloc n_ _⟩;rw[hm];exact uB (S1:=λ_=>False) 289 (hb.keep (λB hB=>.inl hB) (λ_ _=>rfl)) Y (λB hB=>hB.elim) r_
 cases hv using Bv_i with
 | decl q x h h2 h3 h4=>exact Ja _ _ q d_ d_ (.decl q x h h2 h3 h4) o_ o_ I
 | set q x h h2 h3 h4=>exact Ja _ _ q d_ d_ (.set q x h h2 h3 h4) o_ o_ I
 | store q x y h h2 h3 h4 h5=>exact Ja _ _ q d_ d_ (.store q x y h h2 h3 h4 h5) o_ o_ I
 | ret q x h h2 h3 h4=>exact Ja _ _ q d_ d_ (.ret q x h h2 h3 h4) o_ o_ I
 | out q x h h2 h3 h4=>exact Ja _ _ q d_ d_ (.out q x h h2 h3 h4) o_ o_ I
 | call q x h h2 h3 h4=>exact Ja _ _ q d_ d_ (.call q x h h2 h3 h4) o_ o_ I
 | ifs q x va vb A B vs us F H h h2 h3 h4 h5 h6 h7 h8=>
  have e:=I.is;simp only[cons_append,List.cons.injEq]at e;obtain⟨rfl,e⟩:=e;have X:a=aF F A:=by have l1:=I.th;rw[h7]at l1;have:(aF F A++aF H B).take (aF F A).length=(a++b).take (aF F A).length:=(by rw[e]);rw[take_left,show(aF F A).length=a.length by omega,take_left]at this;exact this.symm
  subst X;have O:b=aF H B:=(append_cancel_left e).symm;subst O;simp only[l_c,l_a]at U;have J:=jo vs F A;have Z:=jo us H B;rw[J,Z];rw[J,Z]at U;exact zO N IH q x va vb _ _ S w h h2 (h3.toL h4) (h5.toL h6) o_ o_ Y
 | whil q x va A vs F h h2 h3 h4 h5 h6=>have e:=I.is;simp only[List.cons.injEq]at e;obtain⟨rfl,e⟩:=e;have O:b=[]:=K1 (Ft I.el);subst O;rw[append_nil]at e;subst e;simp only[l_c]at U;have J:=jo vs F A;rw[J];rw[J]at U;exact rx N IH q x va _ S w h h2 (h3.toL h4) o_ Y
section
variable{w wr wc w':AT}{S S':DO}{v:BY}{R:List (BY×List St)}{o:Obj}
structure ry (w wr:AT) (S S':DO) (v:BY) (R:List (BY×List St)):Prop where
 row:wr.ownsRow w.heap.size 289 1 v (R.map (·.1)).length (R.map (·.1))
 bv:∀q∈R,Bv wr (λB=>S B\/S' B) q.1 q.2
 rng:∀B,S' B->w.heap.size<=B/\B<wr.heap.size/\some B≠v.ownBlock
 bel:Bl w wr
def ry.nil(w:AT)(S:DO):ry w w S (λ_=>False) nV []:=
 ⟨ownsRow_nil _ _ _ _,λq hq=>(by cases hq),λB hB=>hB.elim,r_⟩
def ry.bel'{w1:AT}(h:ry w wr S S' v R)(X:∀B,S B->B<w.heap.size)(H:Bl wr w1):ry w w1 S S' v R:=by
 have U:=h.bel.size;refine⟨ownB h.row H,λq hq=>(h.bv q hq).bel (λB hB=>?_) H,λB hB=>?_,h.bel.trans (H.mono U)⟩;rcases hB with hB|hB
 have:=X B hB;omega
 exact(h.rng B hB).2.1
 have⟨O,I,J⟩:=h.rng B hB;exact⟨O,l_ I H.size,J⟩
def ry.more{H:DO}(h:ry w wr S S' v R)(h2:∀B,H B->w.heap.size<=B/\B<wr.heap.size/\some B≠v.ownBlock):ry w wr S (λB=>S' B\/H B) v R:=by refine⟨h.row,λq hq=>(h.bv q hq).keep (λB hB=>?_) (λ_ _=>rfl),λB hB=>?_,h.bel⟩;rcases hB with hB|hB;exact .inl hB;exact .inr (.inl hB);rcases hB with hB|hB;exact h.rng B hB;exact h2 B hB
def ry.next{v' u:BY}{l:List St}(h:ry w wc S S' v R)(O:∀B,S B->B<w.heap.size)(hu:Bv wc (λB=>S B\/S' B) u l)
  (I:(wc.alloc o).grownBy w' v.ownBlock) (Ja:w'.ownsRow w.heap.size 289 1 v' (R.map (·.1)++[u]).length (R.map (·.1)++[u])) (Z:∀k,v'.ownBlock=some k->v.ownBlock=some k\/(wc.alloc o).heap.size<=k):ry w w' S S' v' (R++[(u,l)]):=by
 have Y:=h.bel.size;have J:∀k,v.ownBlock=some k->w.heap.size<=k/\k<wc.heap.size:=λk H=>ownsRow.lt h.row k H;have H:∀B,S B\/S' B->w'.heap[B]? =wc.heap[B]? := λB hB=>by
  have Jb:B<wc.heap.size:=by
   rcases hB with hB|hB
   have:=O B hB;omega
   exact(h.rng B hB).2.1
  have Jc:some B≠v.ownBlock:=by
   rcases hB with hB|hB;intro e;have:=J B e.symm
   have:=O B hB
   omega;exact(h.rng B hB).2.2
  rw[I.block B Do Jc];exact((Below.refl wc.heap.size wc).alloc n_ o).block B Jb
 refine⟨D4 Ja,λq hq=>?_,λB hB=>?_,?_⟩;rcases K5.1 hq with hq|hq;exact(h.bv q hq).keep (λ_ h=>h) H;simp only[K7]at hq;subst hq;exact hu.keep (λ_ h=>h) H
 have⟨X,r2,U⟩:=h.rng B hB;refine⟨X,?_,λe=>?_⟩
 have:=I.size
 simp at this;omega;rcases Z B e.symm with h1|h1;exact U h1.symm;simp at h1;omega;exact(h.bel.alloc Y o).grown I Do (λg hg'=>(J g hg').1)
def ry.keepB(h:ry w wc S S' v R)(H:∀B,S B->B<w.heap.size)(I:(wc.alloc o).grownBy w' v.ownBlock):∀B,S B\/S' B->w'.heap[B]? =wc.heap[B]? := by
 intro B hB;have hs:=h.bel.size;have hlt:B<wc.heap.size:=by
  rcases hB with hB|hB
  have:=H B hB;omega
  exact(h.rng B hB).2.1
 have Ja:some B≠v.ownBlock:=by
  rcases hB with hB|hB
  ·intro e;have:=(ownsRow.lt h.row B e.symm).1
   have:=H B hB
   omega
  exact(h.rng B hB).2.2
 rw[I.block B Do Ja];exact((Below.refl wc.heap.size wc).alloc n_ o).block B hlt
def ry.tid(h:ry w wr S S' v R)(U:dH R):rn w wr S v (aG R):=by
 have O:=h.row;refine⟨λB=>S' B\/v.ownBlock=some B,R,⟨?_,λq hq=>(h.bv q hq).keep (λB hB=>?_) (λ_ _=>rfl)⟩,λB hB=>?_,rfl,U⟩;rcases h.row.2 with⟨H,I⟩|⟨g,Jd,Je,H,Jf,X,Ja,Jc,Jg,Jb⟩;rw[K8]at I;exact⟨none,0,by rw[H,I],o_,o_,λhp=>by omega⟩;rw[K8]at Ja H;refine⟨_,Jd,H,Ja,by unfold maxLen at Jc;omega,λhp=>⟨g,rfl,.inr (.inr (by rw[H];rfl)),λi hi=>?_⟩⟩;have J:(R.map (·.1))[i]? =some ((R.getD i (.nilFunc,[])).1):=by simp[getD_eq_getElem?_getD,K3 hi]
 have:=ownsRow.cells O (g:=g) (by rw[H];rfl) i _ J
 rw[gB]at this;simpa using this;rcases hB with hB|hB;exact .inl hB;exact .inr (.inl hB);rcases hB with hB|hB;exact⟨(h.rng B hB).1,(h.rng B hB).2.1⟩;exact ownsRow.lt h.row B hB
end
section
variable{M:List (BY×List St)}
def nE{L:List (BY×List St)}{k:Nat}(H:k<L.length):L[k].2.length<=(aG L).length:=by
 have e:L=L.take k++(L[k]::L.drop (k+1)):=by rw[getElem_cons_drop,take_append_drop]
 have h:=congrArg (λX=>(aG X).length) e;simp only[flatL_append,flatL_cons,l_a]at h;omega
def LT(h:∀q∈M,iy q.2=false):M.any (λq=>iy q.2)=false:=by rw[any_eq_false];intro q H;simp[h q H]
def Gn{j:Nat}(I:j<M.length){P:BY×List St->Prop}(h:∀q∈M.take j,P q)(H:P M[j]):∀q∈M.take (j+1),P q:=by intro q hm;rw[take_succ_eq_append_getElem I]at hm;rcases K5.1 hm with hm|hm;exact h q hm;simp only[K7]at hm;subst hm;exact H
def xu(N:Nat)(hN:N<=1000)(IH:od N):od (N+1):=by
 intro ss v S w hl hB hS;obtain⟨L,hL,rfl⟩:=hB.toL;have HL:=ah hL;obtain⟨a,Yy,rfl,Yp,Yr,Jb⟩:=hL.args;have Yl:=ah Jb;have O:=ah hS;have Yg:=ah IH;have Jj:=ah hl;have Yw:L.length<=N+1:=by
  have:=HL.o.bk
  have h2:=HL.o.parts;have:=gq L.length (λi hi=>(h2.2.1 i hi).pos);rw[h2.2.2]at this;omega
 have⟨iS,Xr,Js,Jh,Jf⟩:=info_parts AV;have HI:Hid (prog.info? 289=some iS/\iS.zero=some .nilIface/\iS.size=1/\iS.bytes=16):=⟨Xr,Js,Jh,Jf⟩;clear Jb hS IH hl hB hL Xr Js Jh Jf;go_in;go_wp2;go_loopw[3,12] (λp i wr=>∃(k:Nat) (R:List (BY×List St)) (S':DO),k<=L.length/\i=V k/\ry w wr S S' p R/\(∀q∈R,iy q.2=false)/\aN (aG L)=aG R++aN (aG (L.drop k))/\(aG R).length+(aG (L.drop k)).length<=N+1) (λ_ i _=>L.length-(RowKit.intOf i).toNat)
 case atStart=>exact⟨0,[],λ_=>False,y_,rfl,ry.nil w S,λq hq=>(by cases hq),by simp[kM],by simpa[kM]using Jj.o⟩
 case round=>
  obtain⟨k,R,S',hk,rfl,hT,Xt,Yd,Jx⟩:=hrel;have J:=ah hT;have Xh:=ah Xt;have Jz:=ah Yd;obtain⟨H,I,vc,rfl⟩:∃H I vc,u3=.slice H I vc:=by rcases hT.row.2 with⟨rfl,_⟩|⟨g,cp,Xq,rfl,_⟩;exact⟨_,_,_,rfl⟩;exact⟨_,_,_,rfl⟩
  clear hT Xt Yd;by_cases hlt:k<L.length
  ·obtain⟨B,rfl,Ya,Xy⟩:=Yl.o o_;have hm:L[k]∈L:=g_ hlt;have Jl:=HL.o.bv _ hm;have⟨s,X,U,ho⟩:=Jl.one;have⟨tk,yk,Xd⟩:=Jl.isI;have c0:=(J.o.bel.cell (p:=⟨B,k,none⟩) (O.o B Ya)).trans (Xy k hlt);rw[getD_at hlt,Xd]at c0;rw[Xd]at Jl;have Xs:∀B,S B->B<wr.heap.size:=λB hB=>l_ (O.o B hB) J.o.bel.size;have Xn:=ah (xt N Yg.o (Ht (nE hlt) Jj.o) (Jl.bel O.o J.o.bel) Xs ho);have Xk:L.drop k=L[k]::L.drop (k+1):=(getElem_cons_drop (h:=hlt)).symm;have Xm:Hid (aN (aG (L.drop k))=if jV (ch s (aN X) (aN U))=true then ch s (aN X) (aN U)else ch s (aN X) (aN U)++aN (aG (L.drop (k+1)))):=(by show _=_;rw[Xk,flatL_cons];exact ho.tidy _);have Xx:(ch s (aN X) (aN U)).length<=L[k].2.length:=by have h1:=rI s (aN X) (aN U);have h2:=fX X.length X n_;have h3:=fX U.length U n_;have h4:=congrArg List.length ho.is;simp only[l_c,l_a]at h4;omega
   rw[Xk,flatL_cons,l_a]at Jx;clear hm Jl Xs Xk ho Xy Xd;generalize ch s (aN X) (aN U)=mo at Xn Xm Xx;generalize hLk:L[k].2.length=lk at Xx Jx;have Yf:(aG R).length+mo.length+(aG (L.drop (k+1))).length<=N+1:=o_;clear hLk Jx;go_wp2_with fail;refine Xn.o.mono ?_;rintro x w1 ⟨u,rfl,⟨S2,M,hM,X_,Xb,Xw⟩,Ye⟩;have Jq:=ah Xb;have Xo:=ah Xw;have HM:=ah hM;have Ys:M.length<=mo.length:=by have h2:=hM.parts;have:=gq M.length (λi hi=>(h2.2.1 i hi).pos);rw[h2.2.2,Xb]at this;exact this
   have Yb:Hid (ry w w1 S (λB=>S' B\/S2 B) (.slice H I vc) R):=(J.o.bel' O.o Ye).more (λB hB=>by have⟨e1,e2⟩:=X_ B hB;refine⟨t_ J.o.bel.size e1,e2,λe=>?_⟩;have:=ownsRow.lt J.o.row B e.symm;omega);obtain⟨au,cu,rfl,Yv,Yn,-⟩:=hM.args;have Yt:R.length<=2000:=by have h2:=gq R.length (F:=λi=>(R.getD i (.nilFunc,[])).2) (λi hi=>by rw[getD_at hi];exact(J.o.bv _ (g_ hi)).pos);rw[jJ R _ R.length n_,take_length]at h2;have h3:((R.map (·.2)).flatten).length=(aG R).length:=rfl;omega
   clear hM X_ Xb Xw Ye J c0 Xn Ya;go_wp2;go_loopw[3,19] (λp i wq=>∃(j:Nat),j<=M.length/\i=V j/\ry w wq S (λB=>S' B\/S2 B) p (R++M.take j)/\oC wq (λB=>S B\/S2 B) (.slice au M.length cu) M/\(∀q∈M.take j,iy q.2=false)) (λ_ i _=>M.length-(RowKit.intOf i).toNat)
   case atStart=>exact⟨0,y_,rfl,D4 Yb.o,HM,i_⟩
   case round=>
    clear Yb HM;obtain⟨j,hj,rfl,Jv,Je,Jp⟩:=hrel;have Jc:=ah Jv;have Xg:=ah Je;have Jd:=ah Jp;obtain⟨H,I,vc,rfl⟩:∃H I vc,u3=.slice H I vc:=by rcases Jv.row.2 with⟨rfl,_⟩|⟨g,cp,Xq,rfl,_⟩;exact⟨_,_,_,rfl⟩;exact⟨_,_,_,rfl⟩
    clear Jv Jp;by_cases hjl:j<M.length
    ·have⟨_,_,he,_,_,Xz⟩:=Je.args;simp only[Value.slice.injEq]at he;obtain⟨rfl,-,rfl⟩:=he;obtain⟨B2,rfl,Xf,Jn⟩:=Xz o_;have c1:wr.cell? ⟨B2,j,none⟩=some (M.getD j (.nilFunc,[])).1:=Jn j hjl;rw[getD_at hjl]at c1;have Xu:M[j]∈M:=g_ hjl;have Xl:=Je.bv _ Xu;have⟨Z,Y,Jt⟩:=Xl.isI;rw[Jt]at c1;have Xa:Hid (Bv wr (λB=>S B\/(S' B\/S2 B)) (.iface Z Y) M[j].2):=by rw[<-Jt];exact Xl.keep (λB hB=>by rcases hB with hB|hB;exact .inl hB;exact .inr (.inr hB)) (λ_ _=>rfl)
     have⟨xs,Ju⟩:=q_ ((R++M.take j).map (·.1));have Yh:=ah Ju;have Ji:Hid ((wr.alloc (.cells #[.iface Z Y] 289)).ownsRow w.heap.size 289 1 (.slice H I vc) xs.length xs):=(by rw[Ju];exact ownB Jc.o.row (aq _ _));have Jk:=ah (Src.lit wr (.iface Z Y) 289);have Jm:xs.length<=5000:=(by rw[Ju];simp;omega);have Xi:=ah Jm;have Yq:=Jc.o.bel.size;have Yj:Hid (M[j]=(.iface Z Y,M[j].2)):=(by show _=_;rw[<-Jt]);clear Jn Xz Je Xu Xl Jt Jm Xf Ju;go_wp2_with(at_builtin;refine nQ (P:=prog) rfl _ _ 227 rfl w.heap.size 289 iS .nilIface underlying227 HI.o.1 HI.o.2.1 HI.o.2.2.1 HI.o.2.2.2 rfl (.slice H I vc) xs rfl Ji.o (rV wr.heap.size 1 1) [.iface Z Y] rfl Jk.o (λu hu=>by simp only[K7]at hu;subst hu;rfl) (by have:=Xi.o;simp only[length_singleton];omega) Do ?_);intro v3 w3 Xc J_ Xv;have Jr:Hid (ry w w3 S (λB=>S' B\/S2 B) v3 (R++M.take (j+1))):=by have h:=Jc.o.next (o:=.cells #[.iface Z Y] 289) O.o Xa.o J_ (v':=v3) (by rw[Yh.o]at Xc;rw[l_a];exact Xc) (D4 Xv);rw[<-Yj.o,append_assoc,<-take_succ_eq_append_getElem hjl]at h;exact h
     have Yc:=ah (Xg.o.keep (λ_ h=>h) (λB hB=>Jc.o.keepB O.o J_ B (by rcases hB with hB|hB;exact .inl hB;exact .inr (.inr hB))));obtain⟨Yo,Yx,Yu,rfl⟩:∃H I vc,v3=.slice H I vc:=by rcases Jr.o.row.2 with⟨rfl,_⟩|⟨g,cp,Xq,rfl,_⟩;exact⟨_,_,_,rfl⟩;exact⟨_,_,_,rfl⟩
     clear Xc J_ Xv Ji Jk c1 Jc Xg;by_cases hr:iy M[j].2=true
     ·obtain⟨xr,Jo,tr,yr,rfl⟩:=Xa.o.ret_is hr;simp only[Value.iface.injEq]at Jo;obtain⟨rfl,rfl⟩:=Jo;have a1:=λW v=>iU W v;have Ja:Hid (dH (R++M)/\M.take (j+1)=M/\aN (aG L)=aG (R++M)):=by
       have Jw:j+1=M.length:=by
        by_cases h:j+1<M.length
        have:=Xo.o j h
        rw[getD_at hjl,hr]at this;cases this;omega
       have Xj:jV mo=true:=by rw[<-Jq.o,nr M Yc.o.ones,any_eq_true];exact⟨M[j],g_ hjl,hr⟩
       refine⟨dH.join Xh.o Xo,by rw[Jw,take_length],?_⟩;rw[Jz.o,Xm.o,if_pos Xj,flatL_append,Jq.o]
      clear hr;go_wp2;go_ret;have Jg:=Jr.o;rw[Ja.o.2.1]at Jg;refine⟨_,rfl,?_,Jg.bel.alloc Jg.bel.size _⟩;rw[Ja.o.2.2];exact(Jg.tid Ja.o.1).bel (λB hB=>l_ (O.o B hB) Jg.bel.size) (aq _ _)
     have Xe:iy M[j].2=false:=(D4 hr);have⟨tt,yy,Jo,Xp⟩:=Xa.o.ret_no Xe;simp only[Value.iface.injEq]at Jo;obtain⟨rfl,rfl⟩:=Jo;have a1:=λW=>jz W Z Y Xp;have Yi:=ah Xe;have Jy:Bl w3 (w3.alloc (.cells #[.nilIface] 292)):=aq _ _;have Ym:=ah (Jr.o.bel' O.o Jy);have Yk:Hid (oC (w3.alloc (.cells #[.nilIface] 292)) (λB=>S B\/S2 B) (rV B2 M.length cu) M):=Yc.o.bel (λB hB=>by rcases hB with hB|hB;exact l_ (O.o B hB) Jr.o.bel.size;exact(Jr.o.rng B (.inr hB)).2.1) Jy
     clear hr Xe Xp Jy;go_wp2;go_roundw
     case rel=>exact⟨j+1,o_,by go_num,Ym,Yk,Gn hjl Jd.o Yi⟩
     case measure=>exact D1
    have Jw:j=M.length:=o_;have Ja:Hid ((∀q∈R++M,iy q.2=false)/\ry w wr S (λB=>S' B\/S2 B) (.slice H I vc) (R++M)/\aN (aG L)=aG (R++M)++aN (aG (L.drop (k+1)))/\(aG (R++M)).length+(aG (L.drop (k+1))).length<=N+1):=by
     have h1:=Jd.o;have h2:=Jc.o;rw[Jw,take_length]at h1 h2;have Xj:jV mo=false:=by rw[<-Jq.o,nr M Je.ones];exact LT h1
     refine⟨λq hq=>?_,h2,?_,?_⟩;rcases K5.1 hq with hq|hq;exact Xh.o q hq;exact h1 q hq;rw[Jz.o,Xm.o,Xj,flatL_append,Jq.o,append_assoc];rfl;rw[flatL_append,Jq.o,l_a];omega
    clear Jc Xg Jd Je;go_wp2;go_roundw
    case rel=>exact⟨k+1,R++M,_,o_,by go_num,Ja.o.2.1,Ja.o.1,Ja.o.2.2.1,Ja.o.2.2.2⟩
    case measure=>exact D1
  obtain rfl:k=L.length:=(by omega);have HE:Hid (aN (aG L)=aG R):=by show _=_;have:=Jz.o;rw[drop_length]at this;simpa[kM,kE]using this
  go_wp2;go_ret;refine⟨_,rfl,?_,J.o.bel⟩;rw[HE.o];have:=J.o.tid (by simpa using dH.join Xh.o dH.nil);exact this
def xw:od 0:=by
 intro ss v S w O I U;obtain⟨L,H,rfl⟩:=I.toL;have J:L=[]:=by have h2:=H.parts;have:=gq L.length (λi hi=>(h2.2.1 i hi).pos);rw[h2.2.2]at this;exact K1 o_
 subst J;obtain⟨a,Ja,rfl,-⟩:=H.args;go_in;go_wp2_with fail;refine wp_loop_rounds 1 ?_;rw[rounds_succ];go_wp2;go_ret;exact⟨_,rfl,AY _ _ _,r_⟩
theorem qv:∀N,N<=1000->od N
 | 0,_=>xw
 | N+1,h=>xu N o_ (qv N o_)
end
