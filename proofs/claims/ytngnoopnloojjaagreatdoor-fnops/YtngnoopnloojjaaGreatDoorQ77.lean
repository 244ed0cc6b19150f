import Derived.Test.YtngnoopnloojjaaGreatDoorQ76
import Derived.Test.YtngnoopnloojjaaGreatDoorQ33
import Derived.Test.YtngnoopnloojjaaGreatDoorQ75
set_option linter.all false
set_option maxRecDepth 100000
set_option maxHeartbeats 0
namespace Go.Proofs.YtngnoopnloojjaaGreatDoor
open Go.Value Go.World List
open Go.Proofs.Tryz
variable[Inhabited Pick]
section
open Go.RowKit
variable{B:Nat}{w:AT}{v:BY}
def b9.cell1{ns:List Nd}{K:List Nat}(h:b9 B w v ns K):v.oneCell'=true:=by rcases h with⟨-,-,a,c,rfl,-⟩|⟨g,Ja,rfl,-⟩ <;> rfl
theorem ku{u:Value}{R H:List SV}(Y:TypeId)(h:aM B w v R)(h2:aM B w u H)(hB:B<=w.heap.size)(Jf:∀x∈cC R,∀y∈cC H,x≠y)(X:∀g,v.ownBlock=some g->g∉cC H)(hm:R.length+H.length<=100000):
  ∃v' w',(Builtin.append_ #[141,141] Y #[v,u]).run prog w=.ok v' w'/\aM B w' v' (R++H)/\w.grownBy w' v.ownBlock/\∀k,v'.ownBlock=some k->v.ownBlock=some k\/w.heap.size<=k:=by
 have⟨i0,hi,Jg,Ji,Jj⟩:=info_parts mU;obtain⟨a,c,rfl⟩:=h2.shape;have Ja:∀ad,a=some ad->∀j x,(cQ H)[j]? =some x->w.cell? (ad.add j)=some x:=λad hh j x hj=>by subst hh;rcases h2.row.2 with⟨J,-⟩|⟨g,Jh,Jk,J,-⟩;simp at J;simp only[Value.slice.injEq,Option.some.injEq]at J;obtain⟨rfl,-,-⟩:=J;exact World.ownsRow.cells h2.row (g:=g) rfl j x hj
 have Je:a=none->H.length=0:=λhh=>by subst hh;rcases h2.row.2 with⟨-,hz⟩|⟨g,Jh,Jk,J,-⟩;exact hz;simp at J
 have⟨v',w',Z,r2,I,U⟩:=ii (P:=prog) (w:=w) B 141 Y 254 i0 _ 6 88 underlying141 hi Jg Ji Jj rfl d_ v R.length (cQ R) h.row a H.length c (cQ H) Je (mT H) Ja (sF H λq hq=>⟨(h2.each q hq).1.cell1,(h2.each q hq).2.cell1⟩) o_ d_ hB;refine⟨v',w',Z,⟨by rw[l_a,mc];exact r2,λq hq=>?_,?_,λg hg hmem=>?_⟩,I,U⟩
 have O:∀g∈cC (R++H),w'.heap[g]? =w.heap[g]? := λg hg=>by rw[fj]at hg;rcases List.mem_append.1 hg with hg|hg;exact I.block g (h.rng g hg).2 (λe=>h.out g e.symm hg);exact I.block g (h2.rng g hg).2 (λe=>X g e.symm hg)
 have Jc:=eW hq;rcases List.mem_append.1 hq with Jb|Jb;exact⟨(h.each q Jb).1.keep I.size λg hg=>O g (Jc.1 g hg),(h.each q Jb).2.keep I.size λg hg=>O g (Jc.2 g hg)⟩;exact⟨(h2.each q Jb).1.keep I.size λg hg=>O g (Jc.1 g hg),(h2.each q Jb).2.keep I.size λg hg=>O g (Jc.2 g hg)⟩;rw[fj,List.nodup_append];exact⟨h.nd,h2.nd,Jf⟩;rw[fj]at hmem;rcases U g hg with Jd|Jd;rcases List.mem_append.1 hmem with hmem|hmem;exact h.out g Jd hmem;exact X g Jd hmem;rcases List.mem_append.1 hmem with hmem|hmem
 ·have:=(h.rng g hmem).2;omega
 have:=(h2.rng g hmem).2;omega
end
section
open Go.RowKit
theorem uD(J:ByteArray)(e f:List Nd)(x y:Value)(S:Nat->Prop)(w:World)(hx:Tv w S x e)(hy:Tv w S y f)(hl:e.length<=2000)(Ju:f.length<=2000)(X:∀B,S B->B<w.heap.size):
  Calls prog 151 #[.iface 324 (.agg #[sV J,x,y])] w λr w'=>∃u,r=rW u/\uC w w' u [⟨3,J,e,f,0,0⟩]/\Below w.heap.size w w':=by
 have HX:=ah hx;have HZ:=ah hy;obtain⟨tx,Z,rfl⟩:=hx.isI;obtain⟨ty,yy,rfl⟩:=hy.isI;have⟨W0,Jb⟩:=q_ (w.alloc (.cells #[sV J,.iface tx Z,.iface ty yy] 324));have Jd:Bl w W0:=by rw[Jb];exact r_.alloc n_ _
 have Jr:W0.heap.size=w.heap.size+1:=by rw[Jb];simp
 have Jj:Bl W0 W0.drew:=r_.drew;have HY:Hid (∀W,Bl W0 W->W.cell? ⟨w.heap.size,0,none⟩=some (sV J)/\W.cell? ⟨w.heap.size,1,none⟩=some (.iface tx Z)/\W.cell? ⟨w.heap.size,2,none⟩=some (.iface ty yy)):=λW hW=>⟨(hW.cell (p:=⟨w.heap.size,0,none⟩) (by simp;omega)).trans (by rw[Jb];simp),(hW.cell (p:=⟨w.heap.size,1,none⟩) (by simp;omega)).trans (by rw[Jb];simp),(hW.cell (p:=⟨w.heap.size,2,none⟩) (by simp;omega)).trans (by rw[Jb];simp)⟩;have HL:Hid (∀W,Bl W0 W->Calls prog 20 #[.iface tx Z] W λr w'=>∃a n c,r=rW (.slice a n c)/\(∃g,b9 w.heap.size w' (.slice a n c) e [g]/\g<w'.heap.size)/\Bl W w'):=λW hW=>by have Jc:=Jd.trans (hW.mono Jd.size);refine(cy _ e S W (λB hB=>l_ (X B hB) Jc.size) (HX.out.keep (λ_ h=>h) (λB hB=>Jc.block B (X B hB))) hl).mono ?_;rintro r w' ⟨v,rfl,U,hb⟩;obtain⟨g,O,-,Jo⟩:=U.one;obtain⟨g',Jt,rfl,-⟩:=U;exact⟨_,_,_,rfl,⟨g,O.base Jc.size,Jo⟩,hb⟩
 have HM:Hid (∀W,Bl W0 W->Calls prog 20 #[.iface ty yy] W λr w'=>∃a n c,r=rW (.slice a n c)/\(∃g,b9 w.heap.size w' (.slice a n c) f [g]/\W.heap.size<=g)/\Bl W w'):=λW hW=>by have Jc:=Jd.trans (hW.mono Jd.size);refine(cy _ f S W (λB hB=>l_ (X B hB) Jc.size) (HZ.out.keep (λ_ h=>h) (λB hB=>Jc.block B (X B hB))) Ju).mono ?_;rintro r w' ⟨v,rfl,U,hb⟩;obtain⟨g,O,Jo,-⟩:=U.one;obtain⟨g',Jt,rfl,-⟩:=U;exact⟨_,_,_,rfl,⟨g,O.base Jc.size,Jo⟩,hb⟩
 have Js:=ah Jb;have Jk:=λW v=>d9 W 324 v d_;have Jp:=λW v=>f_ W 324 v d_;have Ji:=λW v=>tK W v;have q0:=HY.out _ Jj;clear hx hy X Jb Jr;go_in;go_upto_region 10 with fail;rw[<-Js.out];go_region_held (λW=>W.cell? ⟨w.heap.size,0,none⟩=some (sV J)/\W.cell? ⟨w.heap.size,1,none⟩=some (.iface tx Z)/\W.cell? ⟨w.heap.size,2,none⟩=some (.iface ty yy)) (go_keep)
  (first
  | ((with_reducible refine Calls.mono (HL.out _ Jj) ?_);intro r wt hr;obtain⟨a1,n1,c1,Jl,Jf,Jh⟩:=hr;subst Jl;have Je:Bl W0 wt:=Jj.trans (Jh.mono Jj.size);have q:=HY.out wt Je)
  | ((with_reducible refine Calls.mono (HM.out _ Je) ?_);intro r wo hr;obtain⟨a2,n2,c2,Jl,Jg,Ja⟩:=hr;subst Jl;have Jm:Bl W0 wo:=Je.trans (Ja.mono Je.size);have q2:=HY.out wo Jm))
 have Jq:Hid (∃I H,b9 w.heap.size wo (.slice a1 n1 c1) e [I]/\b9 w.heap.size wo (.slice a2 n2 c2) f [H]/\I≠H):=by obtain⟨I,Y,l1⟩:=Jf;obtain⟨H,h2,l2⟩:=Jg;exact⟨I,H,Y.keep Ja.size λg O=>Ja.block g (Y.rng g O).2,h2,o_⟩
 have Jn:Bl w wo:=Jd.trans (Jm.mono Jd.size);clear Jf Jg Jh Ja q q2 q0 Je Jm;go_wp2;go_ret;have⟨I,H,Y,h2,h3⟩:=Jq.out;exact⟨_,rfl,⟨_,gH ⟨⟨3,J,e,f,0,0⟩,.slice a1 n1 c1,.slice a2 n2 c2,[I],[H]⟩ Jn.size Y h2 (by simpa using h3),rfl⟩,Jn.alloc Jn.size _⟩
structure Je (s:St):Prop where
 e:s.e.length<=2000
 f:s.f.length<=2000
 nf:s.kd≠3->s.f=[]
 nn:3<s.kd->s.nm=⟨#[]⟩
def oe(N:Nat):Prop:=∀(ss:List St) (v:BY) (S:DO) (w:AT),ss.length<=N->Bk w S v ss->(∀B,S B->B<w.heap.size)->(∀s∈ss,Je s)->Calls prog 93 #[v] w λe w'=>∃u,e=rW u/\uC w w' u ss/\Bl w w'
end
section
open Go.RowKit
variable{w w' W:AT}{u:BY}{ss:List St}
def uC.shape(h:uC w w' u ss):∃a c,u=.slice a ss.length c:=by obtain⟨R,H,rfl⟩:=h;obtain⟨a,c,rfl⟩:=H.shape;exact⟨a,c,by rw[K8]⟩
def uE(N:Nat)(hN:N<=1000)(IH:oe N)(e:List Nd)(x va:BY)(I:List St)(S:DO)(w:AT)(U:Tv w S x e)(ha:Bk w S va I)(Xa:I.length<=N)(hl:e.length<=2000)(hS:∀B,S B->B<w.heap.size)(J_:∀s∈I,Je s):
  Calls prog 151 #[.iface 319 (.agg #[x,va])] w λr w'=>∃u,r=rW u/\uC w w' u (⟨5,⟨#[]⟩,e,[],I.length,0⟩::I)/\Bl w w':=by
 have HX:=ah U;have HA:=ah ha;obtain⟨tx,yx,rfl⟩:=U.isI;obtain⟨A,vs,F,⟨aa,ca,rfl,-⟩,-⟩:=ha;have⟨W0,Jh⟩:=q_ (w.alloc (.cells #[.iface tx yx,.slice aa A ca] 319));have Jb:Bl w W0:=by rw[Jh];exact r_.alloc n_ _
 have Xj:W0.heap.size=w.heap.size+1:=by rw[Jh];simp
 have HY:Hid (∀W,Bl W0 W->Bo W w.heap.size 0 (.iface tx yx)):=λW hW=>(hW.cell (p:=⟨w.heap.size,0,none⟩) Do).trans (by rw[Jh];simp);have Js:Hid (Calls prog 93 #[.slice aa A ca] W0 λr w'=>∃O J,r=rW (.slice O I.length J)/\uC W0 w' (.slice O I.length J) I/\Bl W0 w'):=by refine(IH I _ S W0 Xa (HA.o.bel hS Jb) (λB hB=>l_ (hS B hB) Jb.size) J_).mono ?_;rintro r w' ⟨u,rfl,hu,hb⟩;obtain⟨O,J,rfl⟩:=hu.shape;exact⟨O,J,rfl,hu,hb⟩
 have HL:Hid (∀W,Bl W0 W->Calls prog 20 #[.iface tx yx] W λr w'=>∃a n c,r=rW (.slice a n c)/\(∃g,b9 w.heap.size w' (.slice a n c) e [g]/\W.heap.size<=g)/\Bl W w'):=λW hW=>by have Jr:=Jb.trans (hW.mono Jb.size);refine(cy _ e S W (λB hB=>l_ (hS B hB) Jr.size) (HX.o.keep (λ_ h=>h) (λB hB=>Jr.block B (hS B hB))) hl).mono ?_;rintro r w' ⟨v,rfl,hv,hb⟩;obtain⟨g,Y,Xh,-⟩:=hv.one;obtain⟨g',Xl,rfl,-⟩:=hv;exact⟨_,_,_,rfl,⟨g,Y.base Jr.size,Xh⟩,hb⟩
 have Xf:=ah Jh;have Jp:=λW v=>d9 W 319 v d_;have Jy:=λW v=>f_ W 319 v d_;have Jj:=λW v=>fh W 319 v d_;have Xd:=λW v=>ib W 319 v d_;have Jl:=λW v=>lT W v;obtain⟨H,Jn⟩:∃H:Nat,H=I.length:=⟨_,rfl⟩;have Xc:=ah Jn;have Xb:H<=1000:=o_
 rw[<-Jn]at Js⊢;clear U hS Jh Jn Xa J_ IH;go_in;go_wp2_with fail;rw[<-Xf.o];refine Js.o.mono ?_;rintro r w1 ⟨O,J,rfl,hR,Jm⟩;have y0:=HY.o w1 Jm;clear Js;go_wp2_with fail;refine(HL.o _ Jm).mono ?_;rintro r w2 ⟨a2,Z,X,rfl,Jt,Jk⟩;have Jg:Bl W0 w2:=Jm.trans (Jk.mono Jm.size);have Ja:Bl w w2:=Jb.trans (Jg.mono Jb.size);have⟨W4,Jf⟩:=q_ ((w2.alloc (.cells #[V 5,sV ⟨#[]⟩,.slice a2 Z X,nV,V (H:Int),V 0] 254)).alloc (.cells #[V 5,sV ⟨#[]⟩,.slice a2 Z X,nV,V (H:Int),V 0] 254));obtain⟨v',w',hr,Jc,Jx,Xe⟩:∃v' w',(Builtin.append_ #[141,141] 141 #[.slice (some ⟨w2.heap.size+1,0,none⟩) 1 1,.slice O H J]).run prog W4=.ok v' w'/\uC w w' v' (⟨5,⟨#[]⟩,e,[],(H:Int),0⟩::I)/\W4.grownBy w' (some (w2.heap.size+1))/\True:=by
  obtain⟨g,Y,Xi⟩:=Jt;have Jw:Bl w2 (w2.alloc (.cells #[V 5,sV ⟨#[]⟩,.slice a2 Z X,nV,V (H:Int),V 0] 254)):=aq _ _;have h1:=gH (w:=w) (w1:=w2.alloc (.cells #[V 5,sV ⟨#[]⟩,.slice a2 Z X,nV,V (H:Int),V 0] 254)) ⟨⟨5,⟨#[]⟩,e,[],(H:Int),0⟩,.slice a2 Z X,nV,[g],[]⟩ (by have:=Ja.size;simp;omega) (Y.keep Jw.size λx U=>Jw.block x (Y.rng x U).2) (b9.nil _ _) i_;have e1:(w2.alloc (.cells #[V 5,sV ⟨#[]⟩,.slice a2 Z X,nV,V (H:Int),V 0] 254)).heap.size=w2.heap.size+1:=i_;simp only[e1]at h1;rw[<-Jf]at h1;have Ji:Bl w2 W4:=by rw[Jf];exact(aq _ _).alloc i_ _
  obtain⟨R,Jz,Ju⟩:=hR;have Xg:aM w.heap.size W4 (.slice O H J) R:=((Jz.below Jk).below Ji).base Jb.size;have Jv:∀y∈cC R,y<w1.heap.size:=λy hy=>(Jz.rng y hy).2;have Xm:R.length<=1000:=by
   have:=congrArg List.length Ju
   rw[K8]at this;have:=Xc.o;omega
  have⟨v',w',r1,r2,r3,r4⟩:=ku 141 h1 Xg (t_ Ja.size Ji.size) (λx U y hy=>by
   have Xk:x=g:=(by simpa[cC]using U);have:=Jv y hy;omega) (λz hz hm=>by
   simp only[ownBlock,If]at hz;have:=Jv z hm
   have:=Jk.size
   omega) Do
  exact⟨v',w',r1,⟨_,r2,by simp[Ju]⟩,r3,trivial⟩
 have Jd:Bl w W4:=by rw[Jf];exact(Ja.alloc Ja.size _).alloc (by have:=Ja.size;simp;omega) _
 have Jq:Bl w w':=Jd.grown Jx Jd.size (λg Y=>by simp only[If]at Y;have:=Ja.size;omega);have Jo:=ah Jc;obtain⟨av,nv,cv,rfl⟩:∃a n c,v'=.slice a n c:=by have⟨a,c,h⟩:=Jc.shape;exact⟨_,_,_,h⟩
 rw[Jf]at hr;clear Jt hR Jc Jx Xe Jf Jk Jg y0;go_wp2_with(at_builtin;refine aQ rfl _ _ _ rfl _ _ (.slice av nv cv) w' rfl rfl hr ?_);go_wp2;go_ret;exact⟨_,rfl,Jo,Jq⟩
end
section
open Go.RowKit
def Gp:(prog.info? 254).map (λi=>(i.zero,i.size,i.bytes))=some (some (.agg #[V 0,sV ⟨#[]⟩,nV,nV,V 0,V 0]),6,88):=by kernel_rfl
theorem C5(a:Option Addr)(n cap:Nat)(H:List BY)(w:AT)(hn:a=none->n=0)(hl:H.length=n*6)(X:∀ad,a=some ad->∀j u,H[j]? =some u->w.cell? (ad.add j)=some u)(h1:∀u∈H,u.oneCell'=true)(hm:n<=2000000):
  Calls prog 150 #[.slice a n cap] w λe w'=>∃u,e=rW u/\w'.ownsRow w.heap.size 254 6 u n H/\Bl w w':=by
 have⟨i0,hi,Jb,Jc,Jd⟩:=info_parts Gp;cases a with
 | none=>
  obtain rfl:=hn rfl;obtain rfl:H=[]:=K1 o_;have Ja:∀w:AT,(binOp .eql 141 (.slice none 0 cap) nV).run prog w=.ok (.bool true) w:=λw=>Lib.run_eql_slice_nil w 141 254 none 0 cap 0 0 underlying141;go_in;go_wp2
  go_ret;exact⟨_,rfl,ownsRow_nil _ _ _ _,r_⟩
 | some ad=>
  have Ja:∀w:AT,(binOp .eql 141 (.slice (some ad) n cap) nV).run prog w=.ok (.bool false) w:=λw=>Lib.run_eql_slice_nil w 141 254 (some ad) n cap 0 0 underlying141;have U:Bl w (w.alloc (.cells #[] 254)):=aq _ _;obtain⟨Z,w',r1,J,Y,-⟩:=ii (P:=prog) (w:=w.alloc (.cells #[] 254)) w.heap.size 141 141 254 i0 _ 6 88 underlying141 hi Jb Jc Jd rfl d_ (rV w.heap.size 0 0) 0 [] (ownsRow_lit w #[] 0 n_ d_ rfl) (some ad) n cap H (λh=>by cases h) hl (λx hx j u hu=>(U.cell (p:=x.add j) (b_ (X x hx j u hu))).trans (X x hx j u hu)) h1 o_ d_ i_;have hb:Bl w w':=U.grown Y i_ (λg hg=>by simp only[ownBlock,If]at hg;omega);rw[Nat.zero_add,nil_append]at J;have HR:=ah J;obtain⟨I,O,vc,rfl⟩:∃I O vc,Z=.slice I O vc:=by rcases J.2 with⟨rfl,_⟩|⟨g,cp,Je,rfl,_⟩;exact⟨_,_,_,rfl⟩;exact⟨_,_,_,rfl⟩
  go_in;go_wp2_with(at_builtin;refine aQ rfl _ _ _ rfl _ _ (.slice I O vc) w' rfl rfl r1 ?_);go_wp2;go_ret;exact⟨_,rfl,HR,hb⟩
def C6:(prog.info? 9).map (λi=>(i.zero,i.size,i.bytes))=some (some (sV ⟨#[]⟩),1,16):=by kernel_rfl
theorem C7(a:Option Addr)(n cap:Nat)(H:List BY)(w:AT)(hn:a=none->n=0)(hl:H.length=n*1)(X:∀ad,a=some ad->∀j u,H[j]? =some u->w.cell? (ad.add j)=some u)(h1:∀u∈H,u.oneCell'=true)(hm:n<=2000000):
  Calls prog 92 #[.slice a n cap] w λe w'=>∃u,e=rW u/\w'.ownsRow w.heap.size 9 1 u n H/\Bl w w':=by
 have⟨i0,hi,Jb,Jc,Jd⟩:=info_parts C6;cases a with
 | none=>
  obtain rfl:=hn rfl;obtain rfl:H=[]:=K1 o_;have Ja:∀w:AT,(binOp .eql 25 (.slice none 0 cap) nV).run prog w=.ok (.bool true) w:=λw=>Lib.run_eql_slice_nil w 25 9 none 0 cap 0 0 underlying25;go_in;go_wp2
  go_ret;exact⟨_,rfl,ownsRow_nil _ _ _ _,r_⟩
 | some ad=>
  have Ja:∀w:AT,(binOp .eql 25 (.slice (some ad) n cap) nV).run prog w=.ok (.bool false) w:=λw=>Lib.run_eql_slice_nil w 25 9 (some ad) n cap 0 0 underlying25;have U:Bl w (w.alloc (.cells #[] 9)):=aq _ _;obtain⟨Z,w',r1,J,Y,-⟩:=ii (P:=prog) (w:=w.alloc (.cells #[] 9)) w.heap.size 25 25 9 i0 _ 1 16 underlying25 hi Jb Jc Jd rfl d_ (rV w.heap.size 0 0) 0 [] (ownsRow_lit w #[] 0 n_ d_ rfl) (some ad) n cap H (λh=>by cases h) hl (λx hx j u hu=>(U.cell (p:=x.add j) (b_ (X x hx j u hu))).trans (X x hx j u hu)) h1 o_ d_ i_;have hb:Bl w w':=U.grown Y i_ (λg hg=>by simp only[ownBlock,If]at hg;omega);rw[Nat.zero_add,nil_append]at J;have HR:=ah J;obtain⟨I,O,vc,rfl⟩:∃I O vc,Z=.slice I O vc:=by rcases J.2 with⟨rfl,_⟩|⟨g,cp,Je,rfl,_⟩;exact⟨_,_,_,rfl⟩;exact⟨_,_,_,rfl⟩
  go_in;go_wp2_with(at_builtin;refine aQ rfl _ _ _ rfl _ _ (.slice I O vc) w' rfl rfl r1 ?_);go_wp2;go_ret;exact⟨_,rfl,HR,hb⟩
def Gq:(prog.info? 140).map (λi=>(i.zero,i.size,i.bytes))=some (some (.agg #[sV ⟨#[]⟩,V 0]),2,24):=by kernel_rfl
theorem C8(a:Option Addr)(n cap:Nat)(H:List BY)(w:AT)(hn:a=none->n=0)(hl:H.length=n*2)(X:∀ad,a=some ad->∀j u,H[j]? =some u->w.cell? (ad.add j)=some u)(h1:∀u∈H,u.oneCell'=true)(hm:n<=2000000):
  Calls prog 53 #[.slice a n cap] w λe w'=>∃u,e=rW u/\w'.ownsRow w.heap.size 140 2 u n H/\Bl w w':=by
 have⟨i0,hi,Jb,Jc,Jd⟩:=info_parts Gq;cases a with
 | none=>
  obtain rfl:=hn rfl;obtain rfl:H=[]:=K1 o_;have Ja:∀w:AT,(binOp .eql 60 (.slice none 0 cap) nV).run prog w=.ok (.bool true) w:=λw=>Lib.run_eql_slice_nil w 60 140 none 0 cap 0 0 underlying60;go_in;go_wp2
  go_ret;exact⟨_,rfl,ownsRow_nil _ _ _ _,r_⟩
 | some ad=>
  have Ja:∀w:AT,(binOp .eql 60 (.slice (some ad) n cap) nV).run prog w=.ok (.bool false) w:=λw=>Lib.run_eql_slice_nil w 60 140 (some ad) n cap 0 0 underlying60;have U:Bl w (w.alloc (.cells #[] 140)):=aq _ _;obtain⟨Z,w',r1,J,Y,-⟩:=ii (P:=prog) (w:=w.alloc (.cells #[] 140)) w.heap.size 60 60 140 i0 _ 2 24 underlying60 hi Jb Jc Jd rfl d_ (rV w.heap.size 0 0) 0 [] (ownsRow_lit w #[] 0 n_ d_ rfl) (some ad) n cap H (λh=>by cases h) hl (λx hx j u hu=>(U.cell (p:=x.add j) (b_ (X x hx j u hu))).trans (X x hx j u hu)) h1 o_ d_ i_;have hb:Bl w w':=U.grown Y i_ (λg hg=>by simp only[ownBlock,If]at hg;omega);rw[Nat.zero_add,nil_append]at J;have HR:=ah J;obtain⟨I,O,vc,rfl⟩:∃I O vc,Z=.slice I O vc:=by rcases J.2 with⟨rfl,_⟩|⟨g,cp,Je,rfl,_⟩;exact⟨_,_,_,rfl⟩;exact⟨_,_,_,rfl⟩
  go_in;go_wp2_with(at_builtin;refine aQ rfl _ _ _ rfl _ _ (.slice I O vc) w' rfl rfl r1 ?_);go_wp2;go_ret;exact⟨_,rfl,HR,hb⟩
end
section
open Go.RowKit
theorem Gs(a:Option Addr)(n cap:Nat)(h3:n<=cap):∀w:AT,(Instr.slice 141 (.slice a n cap) none (some (V 0)) none).run prog w=.ok (.slice a 0 cap) w:=by
 intro w;have H:prog.elem 141=254:=k_;have I:(sizeOf 254).run prog w=.ok 6 w:=k_;have h:=run_slice_h w 141 a n cap (by rw[H];exact underlying141) .i64 0 o_ o_;rw[H,I]at h;simp only[Result.andThen,sliced,Int.toNat_zero,Nat.sub_zero,Nat.zero_mul]at h;rw[h];congr 2;split;rfl;cases a with
 | none=>rfl
 | some ad=>simp[Addr.add]
def Gt(n:Nat)(U:0<n)(Y:n<=100000)(w:AT):
  Calls prog 190 #[nV,V (n:Int)] w λe w'=>∃cap,e=rW (rV w.heap.size 0 cap)/\aM w.heap.size w' (rV w.heap.size 0 cap) []/\Bl w w':=by
 have⟨O,J,Je,Jf,Jd⟩:=info_parts mU;have H:=λty=>Lib.run_append_nil_zeros (P:=prog) w 141 3 ty 254 O _ .i64 .i64 underlying141 underlying3 J Je n U (by rw[Jf];decide) o_ (by rw[Jd];omega);have Jb:=grownCap_ge w n 0 254;have Jc:=grownCap_le_maxLen w n 0 254 (by unfold maxLen;omega);generalize grownCap w n 0 254=cp at H Jb Jc;have Jh:=Gs none 0 0 n_;have Ji:=Gs (some ⟨w.heap.size,0,none⟩) n cp Jb;have I:Bl w (w.drew.alloc (.cells (Builtin.zeroCells (Value.agg #[V 0,sV ⟨#[]⟩,nV,nV,V 0,V 0]).cells n++Builtin.zeroCells (Value.agg #[V 0,sV ⟨#[]⟩,nV,nV,V 0,V 0]).cells (cp-n)) 254)):=r_.drew.alloc i_ _;have Ja:Hid (aM w.heap.size (w.drew.alloc (.cells (Builtin.zeroCells (Value.agg #[V 0,sV ⟨#[]⟩,nV,nV,V 0,V 0]).cells n++Builtin.zeroCells (Value.agg #[V 0,sV ⟨#[]⟩,nV,nV,V 0,V 0]).cells (cp-n)) 254)) (rV w.heap.size 0 cp) []):=by
  refine⟨?_,λq hq=>(by cases hq),nodup_nil,λg hg hm=>(by cases hm)⟩;exact ownsRow_made w.drew _ cp n_ Jc (by
   have e:∀k,(Builtin.zeroCells (Value.agg #[V 0,sV ⟨#[]⟩,nV,nV,V 0,V 0]).cells k).size=k*6:=λk=>by simp[Builtin.zeroCells,Value.cells]
   rw[Array.size_append,e,e];omega)
 have⟨X,Jg⟩:=q_ (w.drew.alloc (.cells (Builtin.zeroCells (Value.agg #[V 0,sV ⟨#[]⟩,nV,nV,V 0,V 0]).cells n++Builtin.zeroCells (Value.agg #[V 0,sV ⟨#[]⟩,nV,nV,V 0,V 0]).cells (cp-n)) 254));rw[<-Jg]at I Ja H;clear J Je Jf Jd Jg Jb Jc;go_in;go_wp2_with(at_builtin;refine Lib.wpList_append_run _ rfl _ _ _ _ rfl _ _ rfl rfl _ _ (H _) ?_);go_wp2;go_ret;exact⟨cp,rfl,Ja,I⟩
end
section
open Go.RowKit
variable{w W w':AT}{v:BY}{ss rs:List St}{B n:Nat}{Q:List SV}
def Gu(s r:St):Prop:=r.kd=s.kd/\r.nm=s.nm/\r.th=s.th/\r.el=s.el/\fq s.e r.e/\fq s.f r.f
def og(ss rs:List St):Prop:=rs.length=ss.length/\∀j (h:j<ss.length) (h':j<rs.length),Gu ss[j] rs[j]
theorem qy:∀(Q:List SV) (k:Nat) (hk:k<Q.length) (x:SV),x.s.kd=Q[k].s.kd->x.s.nm=Q[k].s.nm->x.s.th=Q[k].s.th->x.s.el=Q[k].s.el->((cQ Q).set (k*6+2) x.ve).set (k*6+3) x.vf=cQ (Q.set k x)
 | [],k,hk,_,_,_,_,_=>absurd hk i_
 | a::l,0,_,x,h1,h2,h3,h4=>by simp only[getElem_cons_zero]at h1 h2 h3 h4;simp[cQ,cellsS,h1,h2,h3,h4]
 | a::l,k+1,hk,x,h1,h2,h3,h4=>by have ih:=qy l k (D4 hk) x (D4 h1) (D4 h2) (D4 h3) (D4 h4);have e1:(k+1)*6+2=(k*6+2)+6:=o_;have e2:(k+1)*6+3=(k*6+3)+6:=o_;show((cellsS a++cQ l).set ((k+1)*6+2) x.ve).set ((k+1)*6+3) x.vf=cellsS a++cQ (l.set k x);rw[<-ih,e1,e2];rfl
theorem Gv(h:be w v ss):∃a cap,∃R:List SV,v=.slice a ss.length cap/\R.length=ss.length/\(∀j (h:j<ss.length) (h':j<R.length),R[j].s=ss[j]/\a_ w R[j].ve ss[j].e/\a_ w R[j].vf ss[j].f)/\(∀ad,a=some ad->∀j u,(cQ R)[j]? =some u->w.cell? (ad.add j)=some u)/\(a=none->ss.length=0):=by
 obtain⟨a,cap,rfl,-,-,hc⟩:=h;by_cases h0:0<ss.length;obtain⟨b,Ja,rfl,U⟩:=hc h0;have Jb:∀j:_root_.Fin ss.length,∃p:Value×Value,(w.cell? ⟨b,Ja+j*6,none⟩=some (V ss[j].kd)/\w.cell? ⟨b,Ja+j*6+1,none⟩=some (sV ss[j].nm)/\w.cell? ⟨b,Ja+j*6+2,none⟩=some p.1/\w.cell? ⟨b,Ja+j*6+3,none⟩=some p.2/\w.cell? ⟨b,Ja+j*6+4,none⟩=some (V ss[j].th)/\w.cell? ⟨b,Ja+j*6+5,none⟩=some (V ss[j].el))/\a_ w p.1 ss[j].e/\a_ w p.2 ss[j].f:=λj=>by have⟨ve,vf,h⟩:=U j.1 j.2;exact⟨(ve,vf),h⟩
 have⟨f,H⟩:=Classical.axiomOfChoice Jb;refine⟨_,cap,List.ofFn (λj:_root_.Fin ss.length=>(⟨ss[j],(f j).1,(f j).2,[],[]⟩:SV)),rfl,i_,λj h h'=>?_,λad had j u hu=>?_,λh=>by cases h⟩
 rw[List.getElem_ofFn];exact⟨rfl,(H ⟨j,h⟩).2.1,(H ⟨j,h⟩).2.2⟩;cases had;have Z:=(List.getElem?_eq_some_iff.1 hu).1;rw[mT,List.length_ofFn]at Z;obtain⟨m,i,rfl,J,O⟩:∃m i,j=m*6+i/\i<6/\m<ss.length:=⟨j / 6,j%6,o_,o_,o_⟩;rw[jg _ m i (by simpa using O) J,List.getElem_ofFn]at hu;obtain⟨⟨c0,X,Y,c3,c4,c5⟩,-⟩:=H ⟨m,O⟩;rw[gB,<-Nat.add_assoc];match i,J with
 | 0,_=>exact c0.trans hu
 | 1,_=>exact X.trans hu
 | 2,_=>exact Y.trans hu
 | 3,_=>exact c3.trans hu
 | 4,_=>exact c4.trans hu
 | 5,_=>exact c5.trans hu
 have I:ss.length=0:=o_;exact⟨a,cap,[],rfl,by simp[I],λj h=>absurd h o_,λad _ j u hu=>by simp[cQ]at hu,λ_=>I⟩
structure qz (w:AT) (B:Nat) (ss rs:List St) (k:Nat) (Q:List SV) (W:AT) (u:BY):Prop where
 len:Q.length=ss.length
 row:W.ownsRow w.heap.size 254 6 u ss.length (cQ Q)
 done:∀j (h:j<Q.length) (h':j<rs.length),j<k->Q[j].s=rs[j]/\dg B W Q[j].ve rs[j].e/\dg B W Q[j].vf rs[j].f
 todo:∀j (h:j<Q.length) (h':j<ss.length),k<=j->Q[j].s=ss[j]/\a_ w Q[j].ve ss[j].e/\a_ w Q[j].vf ss[j].f
def qz.stmts{u:BY}(h:qz w B ss rs ss.length Q W u)(X:og ss rs):be W u rs:=by
 have Y:=h.len;have I:=X.1;obtain⟨hx,⟨rfl,U⟩|⟨g,Jd,Je,rfl,-,Z,Jf,Jc,-⟩⟩:=h.row;exact⟨none,0,by rw[I,U],o_,d_,λhp=>absurd hp o_⟩;refine⟨some ⟨g,0,none⟩,Jd,by rw[I],o_,Jc,λ_=>⟨g,0,rfl,λj hj=>?_⟩⟩;have Jb:j<Q.length:=o_
 have⟨H,J,O⟩:=h.done j Jb hj o_;have Ja:∀i,i<6->W.cell? ⟨g,0+j*6+i,none⟩=(cellsS Q[j])[i]? := λi hi=>by rw[Nat.zero_add,h.row.cellAt (j*6+i) o_,jg Q j i Jb hi]
 rw[<-H];refine⟨Q[j].ve,Q[j].vf,⟨Ja 0 o_,Ja 1 o_,Ja 2 o_,Ja 3 o_,Ja 4 o_,Ja 5 o_⟩,?_,?_⟩;rw[H];exact J.nodes;rw[H];exact O.nodes
def dg.blk{ns:List Nd}(h:dg B w v ns)(X:w.heap.size<=w'.heap.size)(U:∀g,B<=g->g<w.heap.size->w'.heap[g]? =w.heap[g]?):dg B w' v ns:=by obtain⟨g,Ja,rfl,J,h2,h3,h4,h5,h6⟩:=h;have e:=U g h3 h4;refine⟨g,Ja,rfl,J,h2,h3,o_,λj hj=>?_,λj hj=>(frozen?_of_block (a:=⟨g,j,none⟩) e).trans (h6 j hj)⟩;have⟨I,O,H⟩:=h5 j hj;exact⟨(c_ (a:=⟨g,0+j*3,none⟩) e).trans I,(c_ (a:=⟨g,0+j*3+1,none⟩) e).trans O,(c_ (a:=⟨g,0+j*3+2,none⟩) e).trans H⟩
def ownsRow.bel{Ja:Nat}{e:IN}{size:Nat}{I:List BY}(h:w.ownsRow Ja e size v n I)(O:Bl w w'):w'.ownsRow Ja e size v n I:=by
 obtain⟨H,h|⟨g,Jd,Jb,rfl,J,h2,h3⟩⟩:=h;exact⟨H,.inl h⟩;have Jc:g<w.heap.size:=by rcases Nat.lt_or_ge g w.heap.size with h|h;exact h;rw[Array.getElem?_eq_none h]at h2;cases h2
 exact⟨H,.inr ⟨g,Jd,Jb,rfl,J,(O.block g Jc).trans h2,h3⟩⟩
def qz.next{k g U:Nat}{H:AT}{v1 v2:BY}(h:qz w B ss rs k Q W (rV g n U))(hF:og ss rs)(O:k<ss.length)(Je:k<rs.length)(hn:n=ss.length)(hg:g<B)(J:Bl W H)(h1:dg B H v1 rs[k].e)(h2:dg B H v2 rs[k].f)(hB:B<=W.heap.size):
  ∃Q',qz w B ss rs (k+1) Q' ((H.setCell ⟨g,k*6+2,none⟩ v1).setCell ⟨g,k*6+3,none⟩ v2) (rV g n U):=by
 subst hn;have hl:=h.len;have Jd:k<Q.length:=o_;obtain⟨I,-,-⟩:=h.todo k Jd O n_;obtain⟨f1,X,f3,f4,-⟩:=hF.2 k O Je;have Jc:=qy Q k Jd ⟨rs[k],v1,v2,[],[]⟩ (by rw[I];exact f1) (by rw[I];exact X) (by rw[I];exact f3) (by rw[I];exact f4);have Ja:∀ {v:BY} {ns:List Nd},dg B H v ns->dg B ((H.setCell ⟨g,k*6+2,none⟩ v1).setCell ⟨g,k*6+3,none⟩ v2) v ns:=λh=>h.blk i_ (λx hx _=>by rw[Below.heap_setCell _ _ _ _ (by show x≠g;omega),Below.heap_setCell _ _ _ _ (by show x≠g;omega)]);have Jb:∀ {v:BY} {ns:List Nd},dg B W v ns->dg B H v ns:=λh=>h.blk J.size (λx _ hx=>J.block x hx);refine⟨Q.set k ⟨rs[k],v1,v2,[],[]⟩,by simp[hl],?_,λj h3 h4 h5=>?_,λj h3 h4 h5=>?_⟩
 rw[<-Jc];exact(((ownsRow.bel h.row J).stored (k*6+2) v1).1.stored (k*6+3) v2).1;rw[getElem_set];by_cases e:k=j;subst e;rw[if_pos rfl];exact⟨rfl,Ja h1,Ja h2⟩;rw[if_neg e];have⟨d1,Y,Z⟩:=h.done j (D4 h3) h4 o_;exact⟨d1,Ja (Jb Y),Ja (Jb Z)⟩;rw[getElem_set,if_neg o_];exact h.todo j (D4 h3) h4 o_
end
section
open Go.RowKit
variable{w w':AT}{v:BY}{ns:List Nd}{B:Nat}{R:List SV}
theorem aM.keepB(h:aM B w v R)(I:w.heap.size<=w'.heap.size)(H:∀g,B<=g->g<w.heap.size->w'.heap[g]? =w.heap[g]?):aM B w' v R:=by
 refine⟨gC h.row λg hg=>?_,λq hq=>⟨(h.each q hq).1.keep I λg hg=>?_,(h.each q hq).2.keep I λg hg=>?_⟩,h.nd,h.out⟩
 have⟨a,b⟩:=World.ownsRow.lt h.row g hg;exact H g a b
 have⟨a,b⟩:=h.rng g ((eW hq).1 g hg);exact H g a b
 have⟨a,b⟩:=h.rng g ((eW hq).2 g hg);exact H g a b
end
section
open Go.RowKit
theorem qA(v:Value)(H O:List St)(w:World)(hT:eG w)(hS:be w v H)(hF:og H O)(hl:H.length<=1048576)(Xo:∀s∈H,s.e.length<=1048576/\s.f.length<=1048576):
  Calls prog 91 #[v] w λe w'=>∃u,e=rW u/\be w' u O/\Below w.heap.size w w':=by
 have HT:=ah hT;have Jy:=hT.size;have HF:=ah hF;have Xu:=ah Xo;obtain⟨a,Ye,R,rfl,Xd,Jp,Jc,Jb⟩:=Gv hS;have Yb:=ah Jp;have Jg:∀q∈R,q.ve.oneCell'=true/\q.vf.oneCell'=true:=λq hq=>by obtain⟨j,hj,rfl⟩:=List.mem_iff_getElem.1 hq;obtain⟨-,h1,h2⟩:=Jp j o_ hj;exact⟨h1.cell1,h2.cell1⟩
 have HC:=ah (C5 a H.length Ye (cQ R) w Jb (by rw[mT,Xd]) Jc (sF R Jg) o_);clear hT hS hF Xo Jp Jg Jc Jb;go_in;go_wp2_with fail;refine HC.out.mono ?_;rintro x w1 ⟨u,rfl,Ja,Jt⟩;have Xb:qz w w1.heap.size H O 0 R w1 u:=⟨Xd,Ja,λj h h' h0=>absurd h0 o_,λj h h' _=>Yb.out j h' h⟩;have Xm:=ah Xb;have Xi:=ah Jt;have Yj:=Jt.size;obtain⟨ua,uc,rfl⟩:∃ua uc,u=.slice ua H.length uc:=by rcases Ja.2 with⟨rfl,h⟩|⟨g,cp,Xp,rfl,_⟩;exact⟨_,_,by rw[h]⟩;exact⟨_,_,rfl⟩
 have Xa:∀ad,ua=some ad->ad.block<w1.heap.size:=λad h=>(World.ownsRow.lt Ja ad.block (by rw[h];rfl)).2;have Yf:=ah Xa;clear Ja Xb HC Xa Jt;go_wp2;go_loopw[10] (λi wr=>∃(k:Nat) (Q:List SV),k<=H.length/\i=V k/\qz w w1.heap.size H O k Q wr (.slice ua H.length uc)/\Bl w wr/\w1.heap.size<=wr.heap.size) (λi _=>H.length-(RowKit.intOf i).toNat)
 case atStart=>exact⟨0,R,y_,rfl,Xm,Xi,n_⟩
 case round=>
  obtain⟨k,Q,hk,rfl,X,Jn,Xs⟩:=hrel;have HI:=ah X;clear Xm Xi;by_cases hlt:k<H.length
  ·have Yh:O.length=H.length:=HF.out.1;have Ju:k<O.length:=o_
   have Xh:k<Q.length:=(by rw[X.len];exact hlt);obtain⟨g,rfl⟩:∃g,ua=some ⟨g,0,none⟩:=by rcases X.row.2 with⟨_,h⟩|⟨g,cp,Xp,h,_⟩;omega;cases h;exact⟨g,rfl⟩
   have Xr:g<w1.heap.size:=Yf.out _ rfl;have Jv:w.heap.size<=g:=(World.ownsRow.lt X.row g rfl).1;have⟨t1,t2,t3⟩:=X.todo k Xh hlt n_;have Z:∀i,i<6->wr.cell? ⟨g,k*6+i,none⟩=(cellsS Q[k])[i]? := λi hi=>by rw[X.row.cellAt (k*6+i) o_,jg Q k i Xh hi]
   have Xx:∀j,wr.frozen? ⟨g,j,none⟩=false:=λj=>X.row.frozenAt j;obtain⟨ve,Jl⟩:∃ve,Q[k].ve=ve:=⟨_,rfl⟩;obtain⟨vf,Jk⟩:∃vf,Q[k].vf=vf:=⟨_,rfl⟩;rw[Jl]at t2;rw[Jk]at t3;have c0:wr.cell? ⟨g,k*6,none⟩=some (V Q[k].s.kd):=Z 0 o_;have c1:wr.cell? ⟨g,k*6+1,none⟩=some (sV Q[k].s.nm):=Z 1 o_;have c2:wr.cell? ⟨g,k*6+2,none⟩=some ve:=(by rw[<-Jl];exact Z 2 o_);have c3:wr.cell? ⟨g,k*6+3,none⟩=some vf:=(by rw[<-Jk];exact Z 3 o_);have c4:wr.cell? ⟨g,k*6+4,none⟩=some (V Q[k].s.th):=Z 4 o_;have c5:wr.cell? ⟨g,k*6+5,none⟩=some (V Q[k].s.el):=Z 5 o_;obtain⟨kk,Jw⟩:∃kk,Q[k].s.kd=kk:=⟨_,rfl⟩;obtain⟨nm,Jz⟩:∃nm,Q[k].s.nm=nm:=⟨_,rfl⟩;obtain⟨tn,Jx⟩:∃tn,Q[k].s.th=tn:=⟨_,rfl⟩;obtain⟨es,Xj⟩:∃es,Q[k].s.el=es:=⟨_,rfl⟩;rw[Jw]at c0;rw[Jz]at c1;rw[Jx]at c4;rw[Xj]at c5;have⟨Xn,Xl⟩:=Xu.out _ (g_ hlt);obtain⟨-,-,-,-,Xe,J_⟩:=HF.out.2 k hlt Ju;have Xq:Hid (∀W,Bl w W->Calls prog 8 #[ve] W λe w'=>∃I U J,e=rW (rV I U J)/\dg W.heap.size w' (rV I U J) O[k].e/\Bl W w'):=λW hW=>by refine(m6 ve _ _ W (HT.out.below Jy hW) Xn (t2.below hW) Xe).mono ?_;rintro x w' ⟨u,rfl,hn,Y⟩;obtain⟨I,J,rfl,h⟩:=hn;exact⟨I,_,J,rfl,⟨I,J,rfl,h⟩,Y⟩
   have Xz:Hid (∀W,Bl w W->Calls prog 8 #[vf] W λe w'=>∃I U J,e=rW (rV I U J)/\dg W.heap.size w' (rV I U J) O[k].f/\Bl W w'):=λW hW=>by refine(m6 vf _ _ W (HT.out.below Jy hW) Xl (t3.below hW) J_).mono ?_;rintro x w' ⟨u,rfl,hn,Y⟩;obtain⟨I,J,rfl,h⟩:=hn;exact⟨I,_,J,rfl,⟨I,J,rfl,h⟩,Y⟩
   obtain⟨av,nv,kv,rfl⟩:∃a n c,ve=.slice a n c:=(by obtain⟨a,c,h,-⟩:=t2;exact⟨_,_,_,h⟩);obtain⟨af,nf,kf,rfl⟩:∃a n c,vf=.slice a n c:=(by obtain⟨a,c,h,-⟩:=t3;exact⟨_,_,_,h⟩);have Jr:g<wr.heap.size:=o_;have⟨W0,Jh⟩:=q_ (wr.alloc (.cells #[V kk,sV nm,.slice av nv kv,.slice af nf kf,V tn,V es] 254));have Je:Bl wr W0:=(by rw[Jh];exact r_.alloc n_ _);have Xt:W0.heap.size=wr.heap.size+1:=(by rw[Jh];simp);have HY:Hid (∀W,Bl W0 W->W.cell? ⟨wr.heap.size,2,none⟩=some (.slice av nv kv)/\W.cell? ⟨wr.heap.size,3,none⟩=some (.slice af nf kf)):=λW hW=>by rw[hW.cell (p:=⟨wr.heap.size,2,none⟩) (by simp;omega),hW.cell (p:=⟨wr.heap.size,3,none⟩) (by simp;omega),Jh];exact⟨i_,i_⟩
   have Xf:Hid (∀W,Bl W0 W->(W.cell? ⟨g,k*6+2,none⟩=some (.slice av nv kv)/\W.cell? ⟨g,k*6+3,none⟩=some (.slice af nf kf))/\∀j,W.frozen? ⟨g,j,none⟩=false):=λW hW=>by have Y:=Je.trans (hW.mono Je.size);refine⟨⟨(Y.cell (p:=⟨g,k*6+2,none⟩) Jr).trans c2,(Y.cell (p:=⟨g,k*6+3,none⟩) Jr).trans c3⟩,λj=>(World.frozen?_of_block (a:=⟨g,j,none⟩) (Y.block g Jr)).trans (Xx j)⟩
   have Yd:=ah Jh;have Xg:=ah Je;have Jj:Hid (Bl W0 W0.drew):=r_.drew;have Jo:=ah λW (hW:Bl W0 W)=>Jn.trans ((Je.trans (hW.mono Je.size)).mono Jn.size);have Xy:wr.heap.size+1<=W0.heap.size:=o_
   have Xk:wr.heap.size≠g:=o_;have Xv:¬g=wr.heap.size:=o_;have HK:Hid (∀(W:World) (x:Nat) (y:Value),(W.cell? ⟨wr.heap.size,2,none⟩=some (.slice av nv kv)/\W.cell? ⟨wr.heap.size,3,none⟩=some (.slice af nf kf))->(W.setCell ⟨g,x,none⟩ y).cell? ⟨wr.heap.size,2,none⟩=some (.slice av nv kv)/\(W.setCell ⟨g,x,none⟩ y).cell? ⟨wr.heap.size,3,none⟩=some (.slice af nf kf)):=λW x y h=>⟨(c_ (a:=⟨wr.heap.size,2,none⟩) (Below.heap_setCell W ⟨g,x,none⟩ y _ Xk)).trans h.1,(c_ (a:=⟨wr.heap.size,3,none⟩) (Below.heap_setCell W ⟨g,x,none⟩ y _ Xk)).trans h.2⟩;have i1:(0:Int)<=(k:Int):=o_
   have i2:(k:Int)<(H.length:Int):=o_;clear X t1 t2 t3 Z Jl Jk Jw Jz Jx Xj Xn Xl Xe J_ Jh Xt Je;go_upto_region 5 with fail;rw[<-Yd.out];have⟨y2,y3⟩:=HY.out _ Jj;have⟨⟨z2,z3⟩,zf⟩:=Xf.out _ Jj;go_region_held3 (λW=>W.cell? ⟨wr.heap.size,2,none⟩=some (.slice av nv kv)/\W.cell? ⟨wr.heap.size,3,none⟩=some (.slice af nf kf)) (first|go_keep|exact HK.out _ _ _ q|exact HK.out _ _ _ (HK.out _ _ _ q))
    (first
    | ((with_reducible refine Calls.mono (Xq.out _ (Jo.out _ Jj.out)) ?_);intro x wt hx;obtain⟨I,U,J,Jm,X_,Js⟩:=hx;subst Jm;have Jf:Bl W0 wt:=Jj.out.trans (Js.mono i_);have q:=HY.out wt Jf)
    | ((with_reducible refine Calls.mono (Xz.out _ (Jo.out _ Jf)) ?_);intro x wo hx;obtain⟨b2,n2,k2,Jm,Ya,Jd⟩:=hx;subst Jm;have Ji:Bl W0 wo:=Jf.trans (Jd.mono Jf.size);have q:=HY.out wo Ji;have⟨⟨x2,x3⟩,xf⟩:=Xf.out wo Ji))
   have Xc:Bl wr wo:=Xg.out.trans (Ji.mono Xg.out.size);have Yi:=Jf.size;have⟨Q',Yc⟩:=HI.out.next HF.out hlt Ju rfl Xr Xc (v1:=rV I U J) (v2:=rV b2 n2 k2) ((X_.mono (by simp;omega)).blk Jd.size (λx _ hx=>Jd.block x hx)) (Ya.mono o_) Xs;have Jq:Bl w ((wo.setCell ⟨g,k*6+2,none⟩ (rV I U J)).setCell ⟨g,k*6+3,none⟩ (rV b2 n2 k2)):=((Jo.out wo Ji).setCell (p:=⟨g,k*6+2,none⟩) Jv _).setCell (p:=⟨g,k*6+3,none⟩) Jv _;have Xw:w1.heap.size<=wo.heap.size:=(by have:=Xc.size;omega);go_wp2;go_roundw
   case rel=>exact⟨k+1,Q',o_,by go_num,Yc,Jq,by simpa using Xw⟩
   case measure=>simp[RowKit.intOf];omega
  obtain rfl:k=H.length:=(by omega);have Yg:Hid (be wr (.slice ua H.length uc) O):=HI.out.stmts HF;go_wp2;go_ret;exact⟨_,rfl,Yg,Jn⟩
end
section
open Go.RowKit
theorem aM.grown{B M:Nat}{w w':World}{v:Value}{R:List SV}{row:Option Nat}(h:aM B w v R)(H:w.grownBy w' row)(J:∀g,row=some g->M<=g)(O:∀g,v.ownBlock=some g->g<M)(U:∀g∈cC R,g<M):aM B w' v R:=by have I:∀g∈cC R,w'.heap[g]? =w.heap[g]? := λg hg'=>H.block g (h.rng g hg').2 (λe=>by have:=J g e.symm;have:=U g hg';omega);refine⟨Ik h.row H (λg hg' e=>by have:=J g e;have:=O g hg';omega),λq hq=>⟨(h.each q hq).1.keep H.size λg hg'=>I g ((eW hq).1 g hg'),(h.each q hq).2.keep H.size λg hg'=>I g ((eW hq).2 g hg')⟩,h.nd,h.out⟩
def zR(G B:Nat)(u1 u2 u3:BY)(O J H:List SV)(w:AT)(d0:Bo w G 0 u1)(d1:Bo w G 1 u2)(d2:Bo w G 2 u3)(h1:aM B w u1 O)(h2:aM B w u2 J)(h3:aM B w u3 H)(hp:0<O.length)(hn:O.length+J.length+H.length<=90000)(hd:(cC O++cC J++cC H).Nodup)(hB:B<=w.heap.size):
  Calls prog 177 #[rV G 3 3] w λe w'=>∃v,e=rW v/\aM B w' v (O++J++H)/\Bl w w':=by
 have H1:=ah h1;have H2:=ah h2;have H3:=ah h3;have HD:=ah hd;obtain⟨a1,c1,rfl⟩:=h1.shape;obtain⟨a2,c2,rfl⟩:=h2.shape;obtain⟨a3,c3,rfl⟩:=h3.shape;have hG:G<w.heap.size:=b_ d0;obtain⟨U,Je⟩:∃U:Nat,U=O.length:=⟨_,rfl⟩;obtain⟨X,Jh⟩:∃X:Nat,X=J.length:=⟨_,rfl⟩;obtain⟨I,Jf⟩:∃I:Nat,I=H.length:=⟨_,rfl⟩;have HN:Hid (U=O.length/\X=J.length/\I=H.length):=⟨Je,Jh,Jf⟩;rw[<-Je]at d0 H1 hp;rw[<-Jh]at d1 H2;rw[<-Jf]at d2 H3;rw[<-Je,<-Jh,<-Jf]at hn;have b1:(U:Int)+X+I<=90000:=o_;have b0:(0:Int)<U:=o_;have Jj:Hid (Calls prog 190 #[nV,V ((U:Int)+X+I)] w λe w'=>∃Jg,e=rW (rV w.heap.size 0 Jg)/\aM w.heap.size w' (rV w.heap.size 0 Jg) []/\Bl w w'):=by show Calls _ _ _ _ _;have:=Gt (U+X+I) o_ o_ w;simpa using this
 clear h1 h2 h3 hd Je Jh Jf hn hp;go_in;go_wp2_with fail;refine wp_loop_rounds 4 ?_;rw[rounds_succ];go_wp2_with fail;rw[rounds_succ];go_wp2_with fail;rw[rounds_succ];go_wp2_with fail;rw[rounds_succ];go_wp2_with fail;refine Jj.o.mono ?_;rintro x w1 ⟨Jg,rfl,Jm,Ja⟩;have k1:∀g,(Value.slice a1 U c1).ownBlock=some g\/g∈cC O->g<w.heap.size:=λg hg=>by rcases hg with hg|hg;exact(ownsRow.lt H1.o.row g hg).2;exact(H1.o.rng g hg).2
 have k2:∀g,(Value.slice a2 X c2).ownBlock=some g\/g∈cC J->g<w.heap.size:=λg hg=>by rcases hg with hg|hg;exact(ownsRow.lt H2.o.row g hg).2;exact(H2.o.rng g hg).2
 have Y:∀g,(Value.slice a3 I c3).ownBlock=some g\/g∈cC H->g<w.heap.size:=λg hg=>by rcases hg with hg|hg;exact(ownsRow.lt H3.o.row g hg).2;exact(H3.o.rng g hg).2
 have⟨m1,m2,m3⟩:=HN.o;have⟨v1,w2,r1,s1,g1,f1⟩:=ku 141 (Jm.base hB) (H1.o.below Ja) (t_ hB Ja.size) (λx hx=>by simp[cC]at hx) (λg hg hm=>by simp only[ownBlock,If]at hg;have:=k1 g (.inr hm);omega) Do
 have Z:∀g,(Value.slice (some ⟨w.heap.size,0,none⟩) 0 Jg).ownBlock=some g->w.heap.size<=g:=λg hg=>by simp only[ownBlock,If]at hg;omega
 have o1:∀g,v1.ownBlock=some g->w.heap.size<=g:=λg hg=>by rcases f1 g hg with h|h;exact Z g h;exact t_ Ja.size h
 have Jc:Bl w w2:=Ja.grown g1 Ja.size Z;have p2:aM B w2 (.slice a2 X c2) J:=(H2.o.below Ja).grown g1 Z (λg hg=>k2 g (.inl hg)) (λg hg=>k2 g (.inr hg));have p3:aM B w2 (.slice a3 I c3) H:=(H3.o.below Ja).grown g1 Z (λg hg=>Y g (.inl hg)) (λg hg=>Y g (.inr hg));have nd:=HD.o;rw[nodup_append]at nd;obtain⟨Jb,Jn,Jk⟩:=nd;rw[nodup_append]at Jb;have⟨v2,w3,r2,s2,g2,f2⟩:=ku 141 s1 p2 (t_ hB Jc.size) (λx hx y hy=>Jb.2.2 x (D4 hx) y hy) (λg hg hm=>by
  have:=o1 g hg
  have:=k2 g (.inr hm)
  omega) Do
 have o2:∀g,v2.ownBlock=some g->w.heap.size<=g:=λg hg=>by rcases f2 g hg with h|h;exact o1 g h;exact t_ Jc.size h
 have Jd:Bl w w3:=Jc.grown g2 Jc.size o1;have Jl:aM B w3 (.slice a3 I c3) H:=p3.grown g2 o1 (λg hg=>Y g (.inl hg)) (λg hg=>Y g (.inr hg));have⟨v3,w4,r3,s3,g3,f3⟩:=ku 141 s2 Jl (t_ hB Jd.size) (λx hx y hy=>Jk x (by simpa[fj]using hx) y hy) (λg hg hm=>by
  have:=o2 g hg
  have:=Y g (.inr hm)
  omega) Do
 have Jx:Bl w w4:=Jd.grown g3 Jd.size o2;have Ji:Hid (aM B w4 v3 (O++J++H)):=by show aM _ _ _ _;simpa using s3
 have e0:=(Ja.cell (p:=⟨G,0,none⟩) hG).trans d0;have e1:=(Jc.cell (p:=⟨G,1,none⟩) hG).trans d1;have e2:=(Jd.cell (p:=⟨G,2,none⟩) hG).trans d2;obtain⟨Jv,Ju,Jw,rfl⟩:∃a n c,v1=.slice a n c:=by have⟨a,c,h⟩:=s1.shape;exact⟨_,_,_,h⟩
 obtain⟨Js,Jq,Jr,rfl⟩:∃a n c,v2=.slice a n c:=by have⟨a,c,h⟩:=s2.shape;exact⟨_,_,_,h⟩
 obtain⟨Jt,Jo,Jp,rfl⟩:∃a n c,v3=.slice a n c:=by have⟨a,c,h⟩:=s3.shape;exact⟨_,_,_,h⟩
 clear s1 s2 s3 g1 g2 g3 f1 f2 f3 Z o1 o2 p2 p3 Jl Ja Jc Jd Jb Jn Jk k1 k2 Y Jm m1 m2 m3 d0 d1 d2 Jj;go_wp2_with fail;refine wp_loop_rounds 4 ?_;rw[rounds_succ];go_wp2_with(at_builtin;refine aQ rfl _ _ _ rfl _ _ (.slice Jv Ju Jw) w2 rfl rfl r1 ?_);go_wp2_with fail;rw[rounds_succ];go_wp2_with(at_builtin;refine aQ rfl _ _ _ rfl _ _ (.slice Js Jq Jr) w3 rfl rfl r2 ?_);go_wp2_with fail;rw[rounds_succ];go_wp2_with(at_builtin;refine aQ rfl _ _ _ rfl _ _ (.slice Jt Jo Jp) w4 rfl rfl r3 ?_);go_wp2_with fail;rw[rounds_succ];go_wp2;go_ret;exact⟨_,rfl,Ji,Jx⟩
end
section
open Go.RowKit
variable{e r:List Nd}{s:St}{ss rs:List St}
def lastKind_snoc(l:List Nd)(n:Nd):lastKind (l++[n])=n.kd:=by simp[lastKind]
def rB(h:0<e.length):lastKind e=(d6 e).kd:=by rw[i8 e h,lastKind,K3 o_]
theorem Fd.call(h:Fd cL e r)(H:lastKind e=4):lastKind r=4:=by
 cases h using Fd_i with
 | mk e A b F hc hk'=>rw[rB hc.len]at H;unfold eH;rw[if_neg o_,if_neg o_,if_neg o_,if_neg o_,lastKind_snoc,H]
def fq.nil(h:fq [] r):r=[]:=h.no (λ_=>by simp[Go.Proofs.YtngnoopnloojjaaGreatDoor.oneB,wholeTo])
def Gu.ok{r:St}(h:Gu s r)(I:bB s=true)(he:s.e.length<=2000)(hf:s.f.length<=2000):bB r=true:=by obtain⟨Y,h2,h3,h4,h5,h6⟩:=h;unfold bB at I⊢;simp only[Io]at I⊢;obtain⟨⟨⟨⟨⟨⟨U,X⟩,a3⟩,H⟩,O⟩,a6⟩,Z⟩:=I;have J:=h5.yes he a3;rw[Y,h2,h3,h4];refine⟨⟨⟨⟨⟨⟨U,X⟩,J.oneB⟩,?_⟩,?_⟩,a6⟩,Z⟩;by_cases k3:s.kd=3;rw[if_pos k3]at H⊢;exact(h6.yes hf H).oneB;rw[if_neg k3]at H⊢;have:s.f=[]:=K1 (D4 H);rw[this]at h6;rw[h6.nil];rfl;rw[Bool.or_eq_true]at O⊢;rcases O with h|h;exact .inl h;exact .inr (by simpa using J.call (D4 h))
theorem kO:∀(n:Nat) (a b:List St),a.length=b.length->(∀j (h:j<a.length) (h':j<b.length),a[j].th=b[j].th/\a[j].el=b[j].el)->oq n a=oq n b
 | n,[],[],_,_=>rfl
 | n,[],_::_,h,_=>by simp at h
 | n,_::_,[],h,_=>by simp at h
 | 0,_::_,_::_,_,_=>rfl
 | n+1,x::a,y::b,hl,h=>by
  obtain⟨e1,e2⟩:x.th=y.th/\x.el=y.el:=h 0 i_ i_;have hl':a.length=b.length:=D4 hl;have h':∀j (h:j<a.length) (h':j<b.length),a[j].th=b[j].th/\a[j].el=b[j].el:=λj h1 h2=>h (j+1) (D4 h1) (D4 h2);simp only[oq];rw[e1,e2,hl',kO n (a.take y.th.toNat) (b.take y.th.toNat) (by simp[hl']) (λj h1 h2=>by simp only[getElem_take];exact h' j (by simp at h1;omega) (by simp at h2;omega)),
   kO n ((a.take (y.th.toNat+y.el.toNat)).drop y.th.toNat) ((b.take (y.th.toNat+y.el.toNat)).drop y.th.toNat) (by simp[hl']) (λj h1 h2=>by simp only[getElem_drop,getElem_take];exact h' _ (by simp at h1;omega) (by simp at h2;omega)),
   kO n (a.drop (y.th.toNat+y.el.toNat)) (b.drop (y.th.toNat+y.el.toNat)) (by simp[hl']) (λj h1 h2=>by simp only[getElem_drop];exact h' _ (by simp at h1;omega) (by simp at h2;omega))]
def og.fit(h:og ss rs):cD rs=cD ss:=by unfold cD;rw[h.1];exact kO _ _ _ h.1 (λj h1 h2=>by obtain⟨-,-,a,b,-⟩:=h.2 j h2 h1;exact⟨a,b⟩)
def og.ok(h:og ss rs)(Y:∀s∈ss,bB s=true/\s.e.length<=2000/\s.f.length<=2000):∀r∈rs,bB r=true/\r.e.length<=2000/\r.f.length<=2000:=by
 intro r O;obtain⟨j,I,rfl⟩:=mem_iff_getElem.1 O;have Ja:j<ss.length:=by rw[<-h.1];exact I
 have H:=h.2 j Ja I;have⟨J,U,X⟩:=Y _ (g_ Ja);exact⟨H.ok J U X,H.2.2.2.2.1.len,H.2.2.2.2.2.len⟩
def LU(h:bB s=true)(O:s.e.length<=2000)(J:s.f.length<=2000):Je s:=by unfold bB at h;simp only[Io]at h;obtain⟨⟨⟨⟨⟨⟨U,I⟩,Y⟩,H⟩,Z⟩,a6⟩,X⟩:=h;refine⟨O,J,λk=>?_,λk=>?_⟩;rw[if_neg k]at H;exact K1 (D4 H);rw[if_neg o_]at I;exact JO (D4 I)
def Gw{l:List St}{x:St}(h:jW l x)(Y:∀s∈l,Je s):Je x:=by obtain⟨s,X,H,h2,h3,h4⟩:=h;have⟨O,U,I,J⟩:=Y s X;exact⟨by rw[h3];exact O,by rw[h4];exact U,λk=>by rw[h4];exact I (by rw[<-H];exact k),λk=>by rw[h2];exact J (by rw[<-H];exact k)⟩
end
section
open Go.RowKit
theorem C9(N:Nat)(hN:N<=1000)(IH:oe N)(e:List Nd)(x va vb:Value)(Z tt:List St)(S:Nat->Prop)(w:World)(Y:Tv w S x e)(ha:Bk w S va Z)(hb:Bk w S vb tt)(Xn:Z.length<=N)(Xp:tt.length<=N)(hl:e.length<=2000)(hS:∀B,S B->B<w.heap.size)(Xo:∀s∈Z,Je s)(Jp:∀s∈tt,Je s):
  Calls prog 151 #[.iface 317 (.agg #[x,va,vb])] w λr w'=>∃u,r=rW u/\uC w w' u (⟨4,⟨#[]⟩,e,[],Z.length,tt.length⟩::(Z++tt))/\Below w.heap.size w w':=by
 have HX:=ah Y;have HA:=ah ha;have HB:=ah hb;obtain⟨tx,yx,rfl⟩:=Y.isI;obtain⟨A,vs,F,⟨aa,ca,rfl,-⟩,-⟩:=ha;obtain⟨B,us,H,⟨ab,cb,rfl,-⟩,-⟩:=hb;have⟨W0,Jm⟩:=q_ (w.alloc (.cells #[.iface tx yx,.slice aa A ca,.slice ab B cb] 317));have Ja:Bl w W0:=by rw[Jm];exact r_.alloc n_ _
 have Xt:W0.heap.size=w.heap.size+1:=by rw[Jm];simp
 have Jq:Bl W0 W0.drew:=r_.drew;have HY:Hid (∀W,Bl W0 W->W.cell? ⟨w.heap.size,0,none⟩=some (.iface tx yx)/\W.cell? ⟨w.heap.size,1,none⟩=some (.slice aa A ca)/\W.cell? ⟨w.heap.size,2,none⟩=some (.slice ab B cb)):=λW hW=>by rw[hW.cell (p:=⟨w.heap.size,0,none⟩) (by simp;omega),hW.cell (p:=⟨w.heap.size,1,none⟩) (by simp;omega),hW.cell (p:=⟨w.heap.size,2,none⟩) (by simp;omega),Jm];exact⟨i_,i_,i_⟩
 have HT:Hid (∀W,Bl W0 W->Calls prog 93 #[.slice aa A ca] W λr w'=>∃U O,r=rW (.slice U Z.length O)/\uC W w' (.slice U Z.length O) Z/\Bl W w'):=λW hW=>by have Jb:=Ja.trans (hW.mono Ja.size);refine(IH Z _ S W Xn (HA.out.bel hS Jb) (λB hB=>l_ (hS B hB) Jb.size) Xo).mono ?_;rintro r w' ⟨u,rfl,hu,hb⟩;obtain⟨U,O,rfl⟩:=hu.shape;exact⟨U,O,rfl,hu,hb⟩
 have HO:Hid (∀W,Bl W0 W->Calls prog 93 #[.slice ab B cb] W λr w'=>∃U O,r=rW (.slice U tt.length O)/\uC W w' (.slice U tt.length O) tt/\Bl W w'):=λW hW=>by have Jb:=Ja.trans (hW.mono Ja.size);refine(IH tt _ S W Xp (HB.out.bel hS Jb) (λB hB=>l_ (hS B hB) Jb.size) Jp).mono ?_;rintro r w' ⟨u,rfl,hu,hb⟩;obtain⟨U,O,rfl⟩:=hu.shape;exact⟨U,O,rfl,hu,hb⟩
 have HL:Hid (∀W,Bl W0 W->Calls prog 20 #[.iface tx yx] W λr w'=>∃a n c,r=rW (.slice a n c)/\(∃g,b9 w.heap.size w' (.slice a n c) e [g]/\W.heap.size<=g)/\Bl W w'):=λW hW=>by have Jb:=Ja.trans (hW.mono Ja.size);refine(cy _ e S W (λB hB=>l_ (hS B hB) Jb.size) (HX.out.keep (λ_ h=>h) (λB hB=>Jb.block B (hS B hB))) hl).mono ?_;rintro r w' ⟨v,rfl,hv,hb⟩;obtain⟨g,hg,Xz,-⟩:=hv.one;obtain⟨g',Yd,rfl,-⟩:=hv;exact⟨_,_,_,rfl,⟨g,hg.base Jb.size,Xz⟩,hb⟩
 have Xy:=ah Jm;have Jz:=λW v=>d9 W 317 v d_;have Xm:=λW v=>f_ W 317 v d_;have Jr:=λW v=>fh W 317 v d_;have Xs:=λW v=>rZ W v;obtain⟨J,Ju⟩:∃J:Nat,J=Z.length:=⟨_,rfl⟩;obtain⟨I,Jw⟩:∃I:Nat,I=tt.length:=⟨_,rfl⟩;have Xe:Hid (J=Z.length/\I=tt.length):=⟨Ju,Jw⟩;have Xr:J<=1000:=o_
 have Xq:I<=1000:=o_;rw[<-Ju]at HT⊢;rw[<-Jw]at HO⊢;clear Y hS Jm Ju Jw Xn Xp Xo Jp IH Xt;go_in;go_upto_region 13 with fail;rw[<-Xy.out];have⟨y0,y1,y2⟩:=HY.out _ Jq;go_region_held (λW=>W.cell? ⟨w.heap.size,1,none⟩=some (.slice aa A ca)/\W.cell? ⟨w.heap.size,2,none⟩=some (.slice ab B cb)) (go_keep)
  (first
  | ((with_reducible refine Calls.mono (HT.out _ Jq) ?_);intro r wt hr;obtain⟨U,O,J_,Xi,Jo⟩:=hr;subst J_;have Jj:Bl W0 wt:=Jq.trans (Jo.mono Jq.size);have q:=(HY.out wt Jj).2)
  | ((with_reducible refine Calls.mono (HO.out _ Jj) ?_);intro r wo hr;obtain⟨a2,c2,J_,Xj,Jg⟩:=hr;subst J_;have Jk:Bl W0 wo:=Jj.trans (Jg.mono Jj.size);have q2:=(HY.out wo Jk).2))
 have Xk:=ah Xi;have Xc:=ah Xj;have Jf:=ah Jg;have z0:=(HY.out wo Jk).1;clear Xi Xj Jg Jo q q2 y0 y1 y2 HT HO;go_wp2_with fail;refine(HL.out _ Jk).mono ?_;rintro r w2 ⟨a3,n3,c3,rfl,Xd,Js⟩;have Jl:Bl W0 w2:=Jk.trans (Js.mono Jk.size);have Ji:Bl w w2:=Ja.trans (Jl.mono Ja.size);have⟨W5,Jc⟩:=q_ (((w2.alloc (.cells #[V 4,sV ⟨#[]⟩,.slice a3 n3 c3,nV,V (J:Int),V (I:Int)] 254)).alloc (.cells #[V 4,sV ⟨#[]⟩,.slice a3 n3 c3,nV,V (J:Int),V (I:Int)] 254)).alloc (.cells #[.slice (some ⟨w2.heap.size+1,0,none⟩) 1 1,.slice U J O,.slice a2 I c2] 141));have Jd:Bl w2 W5:=by rw[Jc];exact((aq _ _).alloc i_ _).alloc (by simp;omega) _
 have Jh:Bl w W5:=Ji.trans (Jd.mono Ji.size);have Xb:Hid (Calls prog 177 #[.slice (some ⟨w2.heap.size+1+1,0,none⟩) 3 3] W5 λr w'=>∃a n c,r=rW (.slice a n c)/\uC w w' (.slice a n c) (⟨4,⟨#[]⟩,e,[],(J:Int),(I:Int)⟩::(Z++tt))/\Bl W5 w'):=by
  obtain⟨g,hg,Yb⟩:=Xd;have⟨R,Xa,Xf⟩:=Xk.out;have⟨R',Jt,Xl⟩:=Xc.out;have Xh:Bl w2 (w2.alloc (.cells #[V 4,sV ⟨#[]⟩,.slice a3 n3 c3,nV,V (J:Int),V (I:Int)] 254)):=aq _ _;have h1:=gH (w:=w) (w1:=w2.alloc (.cells #[V 4,sV ⟨#[]⟩,.slice a3 n3 c3,nV,V (J:Int),V (I:Int)] 254)) ⟨⟨4,⟨#[]⟩,e,[],(J:Int),(I:Int)⟩,.slice a3 n3 c3,nV,[g],[]⟩ (by have:=Ji.size;simp;omega) (hg.keep Xh.size λx Y=>Xh.block x (hg.rng x Y).2) (b9.nil _ _) i_;have e1:(w2.alloc (.cells #[V 4,sV ⟨#[]⟩,.slice a3 n3 c3,nV,V (J:Int),V (I:Int)] 254)).heap.size=w2.heap.size+1:=i_;simp only[e1]at h1;have X_:aM w.heap.size W5 (.slice (some ⟨w2.heap.size+1,0,none⟩) 1 1) [⟨⟨4,⟨#[]⟩,e,[],(J:Int),(I:Int)⟩,.slice a3 n3 c3,nV,[g],[]⟩]:=by rw[Jc];exact h1.below (aq _ _)
  have Xw:aM w.heap.size W5 (.slice U J O) R:=(((Xa.below Jf).below Js).below Jd).base (by have:=Ja.size;simpa using this);have Xv:aM w.heap.size W5 (.slice a2 I c2) R':=((Jt.below Js).below Jd).base (t_ Ja.size Jj.size);have Ya:R.length=J:=by have:=congrArg List.length Xf;rw[List.length_map]at this;have:=Xe.out.1;omega
  have Yc:R'.length=I:=by have:=congrArg List.length Xl;rw[List.length_map]at this;have:=Xe.out.2;omega
  have⟨X,hX⟩:=q_ ((w2.alloc (.cells #[V 4,sV ⟨#[]⟩,.slice a3 n3 c3,nV,V (J:Int),V (I:Int)] 254)).alloc (.cells #[V 4,sV ⟨#[]⟩,.slice a3 n3 c3,nV,V (J:Int),V (I:Int)] 254));have Jy:X.heap.size=w2.heap.size+1+1:=by rw[hX];simp
  rw[<-hX]at Jc;have d0:W5.cell? ⟨w2.heap.size+1+1,0,none⟩=some (.slice (some ⟨w2.heap.size+1,0,none⟩) 1 1):=by rw[Jc,<-Jy];simp
  have d1:W5.cell? ⟨w2.heap.size+1+1,1,none⟩=some (.slice U J O):=by rw[Jc,<-Jy];simp
  have d2:W5.cell? ⟨w2.heap.size+1+1,2,none⟩=some (.slice a2 I c2):=by rw[Jc,<-Jy];simp
  refine(zR (w2.heap.size+1+1) w.heap.size _ _ _ _ R R' W5 d0 d1 d2 X_ Xw Xv i_ (by simp;omega) ?_ Jh.size).mono ?_;have f1:∀y∈cC R,y<wt.heap.size:=λy hy=>(Xa.rng y hy).2;have f2:∀y∈cC R',wt.heap.size<=y/\y<wo.heap.size:=λy hy=>Jt.rng y hy;rw[List.nodup_append,List.nodup_append];refine⟨⟨by simp[cC],Xa.nd,λx Y y hy=>?_⟩,Jt.nd,λx Y y hy=>?_⟩
  have Xu:x=g:=(by simpa[cC]using Y);have:=f1 y hy
  have:=Jf.out.size
  omega
  have:=f2 y hy
  rcases List.mem_append.1 Y with Y|Y;have Xu:x=g:=(by simpa[cC]using Y);omega
  have:=f1 x Y
  omega;rintro r w' ⟨v,rfl,hv,hb⟩;obtain⟨a,c,rfl⟩:=hv.shape;exact⟨a,_,c,rfl,⟨_,hv,by simp[Xf,Xl]⟩,hb⟩
 have Xx:=ah Jc;clear Xd Js Jl z0 Xk Xc Jf Jc HL;go_wp2_with fail;rw[<-Xx.out];refine Xb.out.mono ?_;rintro r w6 ⟨a,n,c,rfl,Jn,Xg⟩;have Jv:=ah Jn;have Jx:=Jh.trans (Xg.mono Jh.size);clear Jn Xg Xb;go_wp2;go_ret;exact⟨_,rfl,Jv,Jx⟩
end
section
open Go.RowKit
theorem rC(N:Nat)(U:N<=1000)(O:oe N){v:BY}{l:List St}{S:DO}{w:AT}(J:l.length<=N+1)(X:Bv w S v l)(I:∀B,S B->B<w.heap.size)(Ja:∀s∈l,Je s):
  Calls prog 151 #[v] w λe w'=>∃u,e=rW u/\uC w w' u l/\Bl w w':=by
 cases X using Bv_i with
 | decl s x h1 h2 h3 h4=>have h:=Ja s i_;obtain⟨k,nm,e,f,t,q⟩:=s;simp only at h1 h2 h3 h4;obtain rfl:f=[]:=h.nf (by simp only;omega);subst h1 h3 h4;exact xA nm e x S w h2 h.e I
 | set s x h1 h2 h3 h4=>have h:=Ja s i_;obtain⟨k,nm,e,f,t,q⟩:=s;simp only at h1 h2 h3 h4;obtain rfl:f=[]:=h.nf (by simp only;omega);subst h1 h3 h4;exact zQ nm e x S w h2 h.e I
 | store s x y h1 h2 h3 h4 h5=>have h:=Ja s i_;obtain⟨k,nm,e,f,t,q⟩:=s;simp only at h1 h2 h3 h4 h5;subst h1 h4 h5;exact uD nm e f x y S w h2 h3 h.e h.f I
 | ret s x h1 h2 h3 h4=>have h:=Ja s i_;obtain⟨k,nm,e,f,t,q⟩:=s;simp only at h1 h2 h3 h4;obtain rfl:f=[]:=h.nf (by simp only;omega);obtain rfl:nm=⟨#[]⟩:=h.nn (by simp only;omega);subst h1 h3 h4;exact rA e x S w h2 h.e I
 | out s x h1 h2 h3 h4=>have h:=Ja s i_;obtain⟨k,nm,e,f,t,q⟩:=s;simp only at h1 h2 h3 h4;obtain rfl:f=[]:=h.nf (by simp only;omega);obtain rfl:nm=⟨#[]⟩:=h.nn (by simp only;omega);subst h1 h3 h4;exact zP e x S w h2 h.e I
 | call s x h1 h2 h3 h4=>have h:=Ja s i_;obtain⟨k,nm,e,f,t,q⟩:=s;simp only at h1 h2 h3 h4;obtain rfl:f=[]:=h.nf (by simp only;omega);obtain rfl:nm=⟨#[]⟩:=h.nn (by simp only;omega);subst h1 h3 h4;exact xz e x S w h2 h.e I
 | ifs s x va vb A B vs us F H h1 h2 h3 h4 h5 h6 h7 h8=>have h:=Ja s i_;obtain⟨k,nm,e,f,t,q⟩:=s;simp only at h1 h2 h7 h8;obtain rfl:f=[]:=h.nf (by simp only;omega);obtain rfl:nm=⟨#[]⟩:=h.nn (by simp only;omega);subst h1 h7 h8;simp only[l_c,l_a]at J;exact C9 N U O e x va vb _ _ S w h2 ⟨A,vs,F,h3,h4,rfl⟩ ⟨B,us,H,h5,h6,rfl⟩ o_ o_ h.e I (λs hs=>Ja s (by simp[hs])) (λs hs=>Ja s (by simp[hs]))
 | whil s x va A vs F h1 h2 h3 h4 h5 h6=>have h:=Ja s i_;obtain⟨k,nm,e,f,t,q⟩:=s;simp only at h1 h2 h5 h6;obtain rfl:f=[]:=h.nf (by simp only;omega);obtain rfl:nm=⟨#[]⟩:=h.nn (by simp only;omega);subst h1 h5 h6;simp only[l_c]at J;exact uE N U O e x va _ S w h2 ⟨A,vs,F,h3,h4,rfl⟩ o_ h.e I (λs hs=>Ja s (by simp[hs]))
def xB(N:Nat)(hN:N<=999)(IH:oe N):oe (N+1):=by
 intro ss v S w hl Y hS Jt;obtain⟨L,Z,rfl⟩:=Y.toL;have HL:=ah Z;obtain⟨a,Xa,rfl,Xc,Xb,Jd⟩:=Z.args;have Jw:=ah Jd;have O:=ah hS;have Jr:=ah IH;have Jb:=ah hl;have Jp:=ah Jt;have J_:L.length<=N+1:=by have h2:=HL.o.parts;have:=gq L.length (λi hi=>(h2.2.1 i hi).pos);rw[h2.2.2]at this;omega
 go_in;go_wp2;go_loopw[3,8] (λp i wr=>∃(k:Nat) (R:List SV),k<=L.length/\i=V k/\aM w.heap.size wr p R/\R.map (·.s)=aG (L.take k)/\Bl w wr) (λ_ i _=>L.length-(RowKit.intOf i).toNat)
 case atStart=>exact⟨0,[],y_,rfl,aM.nil _ _,by simp[kM],r_⟩
 case round=>
  obtain⟨k,R,hk,rfl,hR,U,Ja⟩:=hrel;have H:=ah hR;have Jh:=ah U;obtain⟨va,vc,rfl⟩:=hR.shape;by_cases hlt:k<L.length
  ·obtain⟨B,rfl,Js,Jx⟩:=Jw.o o_;have Je:L[k]∈L:=g_ hlt;have Jf:=HL.o.bv _ Je;have⟨tk,yk,Jl⟩:=Jf.isI;have c0:=(Ja.cell (p:=⟨B,k,none⟩) (O.o B Js)).trans (Jx k hlt);rw[getD_at hlt,Jl]at c0;rw[Jl]at Jf;have Ju:L.take (k+1)=L.take k++[L[k]]:=take_succ_eq_append_getElem hlt;have Jy:Hid (aG (L.take (k+1))=aG (L.take k)++L[k].2):=(by show _=_;rw[Ju,flatL_append];simp[aG]);have Jg:∀s∈L[k].2,s∈aG L:=λs hs=>mem_flatten.2 ⟨_,mem_map.2 ⟨_,Je,rfl⟩,hs⟩;have Jq:Hid (Calls prog 151 #[.iface tk yk] wr λe w'=>∃a n c,e=rW (.slice a n c)/\uC wr w' (.slice a n c) L[k].2/\Bl wr w'):=by refine(rC N o_ Jr.o (Ht (nE hlt) Jb.o) (Jf.bel O.o Ja) (λB Y=>l_ (O.o B Y) Ja.size) (λs hs=>Jp.o s (Jg s hs))).mono ?_;rintro r w' ⟨u,rfl,hu,hb⟩;obtain⟨a1,c1,rfl⟩:=hu.shape;exact⟨_,_,_,rfl,hu,hb⟩
   have Jz:R.length<=1000:=by
    have J:=congrArg List.length Jh;rw[K8]at J;have h2:(aG (L.take k)).length<=(aG L).length:=by have e:L=L.take k++L.drop k:=(take_append_drop k L).symm;have h:=congrArg (λX=>(aG X).length) e;simp only[flatL_append,l_a]at h;omega
    have:=Jb.o
    omega
   have Jo:L[k].2.length<=1000:=(Ht (nE hlt) Jb.o);go_wp2_with fail;refine Jq.o.mono ?_;rintro x w1 ⟨a1,n1,c1,rfl,⟨I,Jk,Jn⟩,Jj⟩;have Jv:I.length<=1000:=(by have J:=congrArg List.length Jn;rw[K8]at J;omega);have⟨v',w2,r1,s1,g1,f1⟩:=ku 141 (H.o.below Jj) (Jk.base Ja.size) (t_ Ja.size Jj.size) (λx hx y hy=>by
    have:=(H.o.rng x hx).2
    have:=(Jk.rng y hy).1
    omega) (λg hg U=>by
    have:=(ownsRow.lt H.o.row g hg).2
    have:=(Jk.rng g U).1
    omega) o_
   have Jc:Bl w w1:=Ja.trans (Jj.mono Ja.size);have Ji:Bl w w2:=Jc.grown g1 Jc.size (λg hg=>(ownsRow.lt H.o.row g hg).1);have Jm:Hid (aM w.heap.size w2 v' (R++I)/\(R++I).map (·.s)=aG (L.take (k+1))):=⟨s1,by rw[map_append,Jh.o,Jn,Jy.o]⟩;obtain⟨av,nv,cv,rfl⟩:∃a n c,v'=.slice a n c:=(by have⟨a,c,h⟩:=s1.shape;exact⟨_,_,_,h⟩);go_wp2_with(at_builtin;refine aQ rfl _ _ _ rfl _ _ (.slice av nv cv) w2 rfl rfl r1 ?_);go_wp2;go_roundw
   case rel=>exact⟨k+1,R++I,o_,by go_num,Jm.o.1,Jm.o.2,Ji⟩
   case measure=>exact D1
  obtain rfl:k=L.length:=(by omega);have HE:Hid (R.map (·.s)=aG L):=(by show _=_;rw[Jh.o,take_length]);go_wp2;go_ret;exact⟨_,rfl,⟨R,H,HE⟩,Ja⟩
def xC:oe 0:=by
 intro ss v S w O I U Ja;obtain⟨L,H,rfl⟩:=I.toL;have J:L=[]:=by have h2:=H.parts;have:=gq L.length (λi hi=>(h2.2.1 i hi).pos);rw[h2.2.2]at this;exact K1 o_
 subst J;obtain⟨a,Jb,rfl,-⟩:=H.args;go_in;go_wp2_with fail;refine wp_loop_rounds 1 ?_;rw[rounds_succ];go_wp2;go_ret;exact⟨_,rfl,⟨[],aM.nil _ _,rfl⟩,r_⟩
theorem qB:∀N,N<=1000->oe N
 | 0,_=>xC
 | N+1,h=>xB N o_ (qB N o_)
end
