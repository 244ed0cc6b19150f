import Derived.Test.YtjfmapphpijneaaGreatDoorS81
import Derived.Test.YtjfmapphpijneaaGreatDoorS94
namespace Go.Proofs.YtjfmapphpijneaaGreatDoor
set_option linter.all false
set_option maxRecDepth 100000
set_option maxHeartbeats 0
open Go.Value Go.World List
variable[Inhabited Pick]
section
open Go.RowKit
variable{gs:List Gl}{d A m:Nat}{s z z':ES}{t t':Tr}{n:Nd}{v:Nat->Int}{x y:Int}{fr' fr:List Int}{F:Nat->List Nd}{q e r:List Nd}
def lk(l:List (Io×Int))(x:Io):Option Int:=match qN l x with
 | some j=>some (l.getD j (⟨#[]⟩,0)).2
 | none=>none
theorem Gm(t:Tr)(s:ES)(x:Io):s.rd t x=match lk s.l x with
  | some v=>v
  | none=>match i7 t.gl x with
   | some k=>(s.g.getD k []).getD 0 0
   | none=>0:=by
 unfold ES.rd lk;cases qN s.l x <;> rfl
def yT{l:List (Io×Int)}{x:Io}(h:x∉l.map Prod.fst):lk l x=none:=by unfold lk;rw[oM h]
structure LS (gs:List Gl) (d:Nat) (s z:ES):Prop where
 g:z.g=s.g
 i:z.i=s.i
 o:z.o=s.o
 u:s.u+d<=z.u
 l:∀x∈s.l.map Prod.fst,lk z.l x=lk s.l x
 n:∀x∈z.l.map Prod.fst,i7 gs x=none
def LS.sp(h:LS gs d s z)(hu:0<s.u):LS gs d s.sp z.sp:=⟨h.g,h.i,h.o,by have:=h.u;simp only[ES.sp];omega,h.l,h.n⟩
def LS.sl(h:LS gs d s z)(hu:0<s.u):LS gs (d+1) s.sp z:=⟨h.g,h.i,h.o,by have:=h.u;simp only[ES.sp];omega,h.l,h.n⟩
def LS.dn(h:LS gs (d+1) s z):LS gs d s z.sp:=⟨h.g,h.i,h.o,by have:=h.u;simp only[ES.sp];omega,h.l,h.n⟩
def LS.back(h:LS gs d s z.sp)(hu:0<z.u):LS gs (d+1) s z:=⟨h.g,h.i,h.o,by have:=h.u;simp only[ES.sp]at this;omega,h.l,h.n⟩
def LS.less{c:Nat}(h:LS gs d s z)(hc:c<=d):LS gs c s z:=⟨h.g,h.i,h.o,Ka h.u,h.l,h.n⟩
def LS.pos(h:LS gs d s z)(I:0<s.u):0<z.u:=Ka h.u
theorem LS.work(U:t'.gl=t.gl)(h:LS t.gl d s z)(hn:aO t (s.l.map Prod.fst) n=0)(I:(gv t n v s).1=.val x):(gv t' n v z).1=.val x/\LS t.gl d (gv t n v s).2 (gv t' n v z).2/\(gv t' n v z).2.l=z.l:=by
 have Ja:∀y,z.ws t' y=s.ws t y:=λy=>by unfold ES.ws;rw[U,h.g]
 unfold gv at I⊢;by_cases h1:n.kd=1;simp only[h1,if_true]at I⊢;exact⟨I,h,by first|rfl|trivial⟩;simp only[h1,if_false]at I⊢;by_cases h2:n.kd=2;simp only[h2,if_true]at I⊢;refine⟨?_,h,by first|rfl|trivial⟩;rw[<-I];congr 1;rw[Gm,Gm];rcases uf hn h2 with J|⟨J,h0⟩;rw[h.l _ J,U,h.g];obtain⟨k,hk,Z,-⟩:=hU (gs:=t.gl) (x:=n.nm) o_;rw[yT J,yT (λhz=>by rw[h.n _ hz]at Z;cases Z),U,h.g];simp only[h2,if_false]at I⊢;by_cases h3:n.kd=3;simp only[h3,if_true]at I⊢;rw[Ja];by_cases hi:0<=v 0/\v 0<(s.ws t n.nm).length;rw[if_pos hi]at I⊢;rw[if_pos hi];exact⟨I,h,by first|rfl|trivial⟩;rw[if_neg hi]at I;cases I;simp only[h3,if_false]at I⊢;by_cases h5:n.kd=5;simp only[h5,if_true]at I⊢;rw[h.i];cases hi:s.i with
 | nil=>rw[hi]at I;exact⟨I,h,by first|rfl|trivial⟩
 | cons y r=>rw[hi]at I;exact⟨I,⟨h.g,rfl,h.o,h.u,h.l,h.n⟩,by first|rfl|trivial⟩
 simp only[h5,if_false]at I⊢;by_cases h6:n.kd=6;simp only[h6,if_true]at I⊢;exact⟨I,h,by first|rfl|trivial⟩;simp only[h6,if_false]at I⊢;exact⟨I,h,by first|rfl|trivial⟩
theorem uP{t':Tr}{fr':List Int}{gs:List Gl}{d:Nat}{F:Nat->List Nd}{st:Nat->ES}{v:Nat->Int}{z:ES}:∀A,(∀i,i<A->∀z,LS gs d (st i) z->∃m z',Ev t' fr' m (.e (F i)) z (.val (v i)) z'/\LS gs d (st (i+1)) z'/\z'.l=z.l)->LS gs d (st 0) z ->
  ∃(m:Nat) (zt:Nat->ES),zt 0=z/\(∀i,i<A->Ev t' fr' m (.e (F i)) (zt i) (.val (v i)) (zt (i+1)))/\∀i,i<=A->LS gs d (st i) (zt i)/\(zt i).l=z.l
 | 0,_,h0=>by
  refine⟨0,λ_=>z,rfl,(λi hi=>by omega),λi hi=>?_⟩;obtain rfl:i=0:=by omega
  exact⟨h0,rfl⟩
 | A+1,ih,h0=>by
  have⟨m,zt,h,I,h2⟩:=uP A (λi hi=>ih i o_) h0;have⟨J,z',h3,h4,h5⟩:=ih A o_ (zt A) (h2 A n_).1;refine⟨max m J,λi=>if i<=A then zt i else z',by simp[h],λi hi=>?_,λi hi=>?_⟩
  by_cases e:i=A;subst e;simp only[Nat.le_refl,if_true];rw[if_neg o_];exact h3.ups (Nat.le_max_right ..);simp only[show i<=A by omega,if_true];rw[if_pos o_];exact(I i o_).ups (Nat.le_max_left ..);by_cases e:i<=A;simp only[e,if_true];exact h2 i e
  have:i=A+1:=(by omega);subst this;simp only[e,if_false];exact⟨h4,h5.trans (h2 A n_).2⟩
def pw(hn:aJ n=true)(Z:arity n=A)(h:∀i,i<A->oneB (F i)=true):∃b,Cut (joinF F A++[n]) A b/\∀i,i<A->kid (joinF F A++[n]) b i=F i:=by
 have U:∀s∈(List.range A).map F,oneB s=true:=λs hs=>by obtain⟨i,I,rfl⟩:=mem_map.1 hs;exact h i (mem_range.1 I)
 have J:=oy ((List.range A).map F) n hn (IN Z) U;rw[fw];have Ja:((List.range A).map F).length=A:=i_;rw[Ja]at J;refine⟨_,J,λi I=>?_⟩;have:=kL ((List.range A).map F) n i (by rw[Ja];exact I);rw[kid,this];simp
theorem j7(I:dY q=some x)(h:Ev t fr m (.e q) z (.val y) z'):y=x/\z'=z.sp/\0<z.u:=by
 obtain⟨nd,rfl,hk,rfl⟩:∃nd:Nd,q=[nd]/\nd.kd=1/\x=nd.val:=by unfold dY at I;split at I;rename_i nd;split at I;rename_i hk;exact⟨nd,rfl,hk,IN I.symm⟩;cases I;cases I
 have J:aq [nd]=nd:=bR [] nd;cases m with
 | zero=>first | cases h using Ev_i | cases h
 | succ m=>
  obtain⟨A,b,st,v,j,hc,rfl,hj,h1,h2⟩:=oN h (by rw[J,hk];decide) (by rw[J,hk];decide);have hA:A=0:=by
   have:=hc.ar
   rw[J]at this;unfold arity at this;simp[hk]at this;omega
  subst hA;rw[J]at h2;rcases h2 with⟨h2,-⟩|⟨-,-,h2,-⟩|⟨-,hu,-,U,Z⟩|⟨-,-,h4,-⟩;omega;cases h2;simp only[gv,hk,if_true]at U Z;cases U;exact⟨rfl,Z,hu⟩;omega
def pz(t:Tr)(fr:List Int)(U:d7 x)(Z:0<z.u):Ev t fr 1 (.e (dL x)) z (.val x) z.sp:=by
 obtain⟨A,b,I,-⟩:=jz (fQ U);have h:aq (dL x)=⟨1,x,⟨#[]⟩⟩:=bR [] _;have J:A=0:=by
  have:=I.ar
  rw[h]at this;simpa[arity]using this.symm
 subst J;have:=Ev.work (t:=t) (fr:=fr) 0 (dL x) 0 b (λ_=>z) (λ_=>0) I (by rw[h];exact(by decide:(1:Int)≠8)) (by rw[h];exact(by decide:(1:Int)≠9)) (by rw[h];exact(by decide:(1:Int)≠4)) (λi hi=>by omega) Z;rw[h]at this;simpa[gv]using this
def CI(h:Ev t fr m (.e q) z (.val y) z')(hq:oneB q=true)(hy:d7 y)(hu:dY q=none->2<=z'.u):∃m' z2,Ev t fr m' (.e (di q)) z (.val (boolN (decide (y≠0)))) z2/\(z2=z'\/z2=z'.sp.sp):=by
 unfold di;split;rename_i x hx;obtain⟨rfl,rfl,h0⟩:=j7 hx h;exact⟨1,_,pz t fr (k9 _) h0,.inl rfl⟩;rename_i hn;have hu:=hu hn;have ha:oneB (dL 0)=true:=fQ ⟨d_,d_⟩;have⟨b,Z,U⟩:=pw (F:=λi=>if i=0 then q else dL 0) (A:=2) (n:=⟨7,12,⟨#[]⟩⟩) (by unfold aJ;simp) rfl (λi hi=>by by_cases e:i=0;simp[e,hq];simp[e,ha]);have ej:joinF (λi=>if i=0 then q else dL 0) 2++[⟨7,12,⟨#[]⟩⟩]=q++[⟨1,0,⟨#[]⟩⟩,⟨7,12,⟨#[]⟩⟩]:=by simp[joinF,dL]
 rw[ej]at Z U;have I:aq (q++[⟨1,0,⟨#[]⟩⟩,⟨7,12,⟨#[]⟩⟩])=⟨7,12,⟨#[]⟩⟩:=by
  have:=bR (q++[⟨1,0,⟨#[]⟩⟩]) ⟨7,12,⟨#[]⟩⟩
  rwa[append_assoc]at this
 refine⟨max m 1+1,z'.sp.sp,?_,.inr rfl⟩;have J:=Ev.work (t:=t) (fr:=fr) (max m 1) _ 2 b (λi=>if i=0 then z else if i=1 then z' else z'.sp) (λi=>if i=0 then y else 0) Z (by rw[I];decide) (by rw[I];decide) (by rw[I];decide) (λi hi=>by rw[U i hi];have:i=0\/i=1:=(by omega);rcases this with rfl|rfl;exact h.ups (Nat.le_max_left ..);exact(pz t fr ⟨d_,d_⟩ (by show 0<z'.u;omega)).ups (Nat.le_max_right ..)) (by simp only[ES.sp];simp;omega);rw[I]at J;have Jb:cJ 12 y 0=boolN (decide (y≠0)):=by have Ja:wrap32 y=y:=(by unfold d7 at hy;unfold RowKit.wrap32;omega);simp only[cJ];rw[Ja];simp[RowKit.wrap32,boolN]
 simpa[gv,Jb]using J
theorem AA{n:Nat}{r:ER}{s':ES}{v:Int}(h:Ev t fr (n+1) (.e e) s r s')(J:(aq e).kd=8\/(aq e).kd=9)(I:r=.val v):∃b x s1,Cut e 2 b/\Ev t fr n (.e (kid e b 0)) s (.val x) s1/\0<s1.u/\((((aq e).kd=8/\x=0\/(aq e).kd=9/\x≠0)/\v=boolN (decide (x≠0))/\s'=s1.sp)\/(((aq e).kd=8/\x≠0\/(aq e).kd=9/\x=0)/\∃y s2,Ev t fr n (.e (kid e b 1)) s1.sp (.val y) s2/\0<s2.u/\v=boolN (decide (y≠0))/\s'=s2.sp)):=by
 cases h using Ev_i with
 | kid _ _ A b st v j c _ h1 h2 h3 h4 h5 h6=>cases I
 | dry _ _ A b st v h1 h2 h3 h4 h5=>cases I
 | work _ _ A b st v h1 h2 h3 h4 h5 h6=>rcases J with h|h <;> contradiction
 | call _ _ A b st v f _ _ h1 h2 h3 h4 h5 h6=>omega
 | left _ _ b _ c _ h1 h2 h3=>cases I
 | ldry _ _ b _ x _ h1 h2 h3 h4=>cases I
 | lone _ _ b _ x s1 h1 h2 h3 h4=>cases I;exact⟨b,x,s1,h1,h3,h4,.inl ⟨h2,rfl,rfl⟩⟩
 | rigt _ _ b _ x s1 c _ h1 h2 h3 h4 h5=>cases I
 | rdry _ _ b _ x s1 y _ h1 h2 h3 h4 h5 h6=>cases I
 | both _ _ b _ x s1 y s2 h1 h2 h3 h4 h5 h6=>cases I;exact⟨b,x,s1,h1,h3,h4,.inr ⟨h2,y,s2,h5,h6,rfl,rfl⟩⟩
def kq(t t':Tr)(fr fr':List Int)(N:Nat)(x:Io):Prop:=∀f,a_ t.fc x=some f->∀n,n<=N->∀(vs:List Int) (s:ES) (v:Int) (s':ES) (d:Nat) (z:ES),Ev t fr n (.c f vs) s (.val v) s'->OkW s->(∀y∈vs,d7 y)->(∀hf:f<t.fc.length,vs.length=t.fc[f].pm.length)->LS t.gl d s z->∃f' m z',a_ t'.fc x=some f'/\Ev t' fr' m (.c f' vs) z (.val v) z'/\LS t.gl d s' z'/\z'.l=z.l
def sK(h:dY q=some x):∀n∈q,n.kd=1:=by unfold dY at h;split at h;split at h;rename_i nd hk;intro n I;simp at I;rw[I];exact hk;cases h;cases h
theorem j8{F:Nat->List Nd}{n:Nd}:∀ {A i:Nat},i<A->n∈F i->n∈joinF F A
 | A+1,i,hi,h=>by simp only[joinF,J5];by_cases e:i=A;subst e;exact .inr h;exact .inl (j8 o_ h)
theorem EZ(hg:t'.gl=t.gl)(N:Nat)(h:Fd cJ e r):(∀n∈r,n.kd=4->kq t t' fr fr' N n.nm)->∀(n:Nat) (s:ES) (v:Int) (s':ES) (d:Nat) (z:ES),n<=N->Ev t fr n (.e e) s (.val v) s'->OkW s->wB t (s.l.map Prod.fst) e->LS t.gl d s z ->
  ∃m z',Ev t' fr' m (.e r) z (.val v) z'/\LS t.gl d s' z'/\z'.l=z.l:=by
 induction h using Fd_i with
 | mk e A b F hc hF ih=>
  intro Ja n s v s' d z hN Jy Jo Jh Jx;have Jv:∀i,i<A->oneB (F i)=true:=λi hi=>(hF i hi).oneB;have Jd:=hc.root_good;have Xa:aq e∈e:=jS hc.len;cases n with
  | zero=>first | cases Jy using Ev_i | cases Jy
  | succ n=>
  by_cases h89:(aq e).kd=8\/(aq e).kd=9;have hA:=hc.ar2 o_;subst hA;obtain⟨x,s1,Jt,Jm,Je⟩:∃x s1,Ev t fr n (.e (kid e b 0)) s (.val x) s1/\0<s1.u/\((((aq e).kd=8/\x=0\/(aq e).kd=9/\x≠0)/\v=boolN (decide (x≠0))/\s'=s1.sp)\/(((aq e).kd=8/\x≠0\/(aq e).kd=9/\x=0)/\∃y s2,Ev t fr n (.e (kid e b 1)) s1.sp (.val y) s2/\0<s2.u/\v=boolN (decide (y≠0))/\s'=s2.sp)):=by
   have hb:∀ {b'},Cut e 2 b'->∀i,i<2->kid e b' i=kid e b i:=λJu i hi=>by obtain⟨-,hb⟩:=Ju.one hc;unfold kid;rw[hb i o_,hb (i+1) o_]
   have⟨b',x,s1,I,J,q4,hq⟩:=AA Jy h89 rfl;rw[hb I 0 o_]at J;refine⟨x,s1,J,q4,hq.imp id ?_⟩;rintro⟨h,y,s2,q5,q6⟩;rw[hb I 1 o_]at q5;exact⟨h,y,s2,q5,q6⟩
  have⟨Jq,Xn,Xj⟩:=Jt.inv Jo trivial;have Xh:s1.l=s.l:=Xj.2.2.2;have Jg:OkW s1.sp:=⟨Jq.g,Jq.l,Jq.i⟩;have Jl:wB t (s1.sp.l.map Prod.fst) (kid e b 1):=by show wB t (s1.l.map Prod.fst) _;rw[Xh];exact Jh.kid
  have nc:∀ {q:List Nd} {y:Int},dY q=some y->∀n∈q,n.kd=4->kq t t' fr fr' N n.nm:=λhq n hn h4=>Ka (sK hq n hn)
  have Jj:dY (F 0)=none->cj cJ (aq e) 2 F=joinF F 2++[aq e]:=λhi=>by unfold cj;rw[if_neg o_,if_neg o_];rcases h89 with h|h;rw[if_pos h,hi];simp[joinF];rw[if_neg o_,if_pos h,hi];simp[joinF]
  cases hi0:dY (F 0)with
  | none=>
   rw[Jj hi0]at Ja⊢;have hr:aq (joinF F 2++[aq e])=aq e:=bR _ _;have⟨b2,Jk,Jp⟩:=pw Jd hc.ar Jv;have⟨m1,z1,e1,l1,g1⟩:=ih 0 o_ (λn hn=>Ja n (mem_append_left _ (j8 o_ hn))) n s x s1 d z o_ Jt Jo Jh.kid Jx;rw[<-Jp 0 o_]at e1;rcases Je with⟨I,rfl,rfl⟩|⟨I,y,s2,Z,J,rfl,rfl⟩;exact⟨m1+1,z1.sp,.lone m1 _ b2 z x z1 Jk (by rw[hr];exact I) e1 (l1.pos Jm),l1.sp Jm,g1⟩
   have⟨m2,z2,e2,l2,g2⟩:=ih 1 o_ (λn hn=>Ja n (mem_append_left _ (j8 o_ hn))) n s1.sp y s2 d z1.sp o_ Z Jg Jl (l1.sp Jm);rw[<-Jp 1 o_]at e2;exact⟨max m1 m2+1,z2.sp,.both _ _ b2 z x z1 y z2 Jk (by rw[hr];exact I) (e1.ups (Nat.le_max_left ..)) (l1.pos Jm) (e2.ups (Nat.le_max_right ..)) (l2.pos J),l2.sp J,g2.trans g1⟩
  | some x0=>
   have⟨m1,z1,e1,l1,g1⟩:=ih 0 o_ (nc hi0) n s x s1 d z o_ Jt Jo Jh.kid Jx;obtain⟨rfl,rfl,hz⟩:=j7 hi0 e1;have Xc:=(l1.back hz).sl Jm;rcases Je with⟨I,rfl,rfl⟩|⟨I,y,s2,Z,J,rfl,rfl⟩
   have er:cj cJ (aq e) 2 F=dL (boolN (decide (x≠0))):=by unfold cj;rw[if_neg o_,if_neg o_];rcases I with⟨h,hx⟩|⟨h,hx⟩;rw[if_pos h,hi0];simp[hx,boolN];rw[if_neg o_,if_pos h,hi0];simp[hx,boolN]
   rw[er];exact⟨1,z.sp,pz t' fr' (k9 _) hz,(Xc.less o_).dn,rfl⟩;have er:cj cJ (aq e) 2 F=di (F 1):=by unfold cj;rw[if_neg o_,if_neg o_];rcases I with⟨h,hx⟩|⟨h,hx⟩;rw[if_pos h,hi0];simp[hx];rw[if_neg o_,if_pos h,hi0];simp[hx]
   rw[er]at Ja⊢;have Jn:∀n∈F 1,n.kd=4->kq t t' fr fr' N n.nm:=by
    cases hi1:dY (F 1)with
    | some _=>exact nc hi1
    | none=>intro n hn;refine Ja n ?_;unfold di;rw[hi1];exact mem_append_left _ hn
   have⟨m2,z2,e2,l2,g2⟩:=ih 1 o_ Jn n s1.sp y s2 (d+1+1) z o_ Z Jg Jl Xc;have⟨Xo,Xl,Xm⟩:=Z.inv Jg trivial;have⟨m3,z3,e3,h3⟩:=CI e2 (Jv 1 o_) (Xl y (.inl rfl)) (λ_=>Ka l2.u);refine⟨m3,z3,e3,?_,?_⟩
   rcases h3 with rfl|rfl;exact(l2.sl J).less o_;exact((l2.sl J).less (show d+1+1<=d+1+1+1 by omega)).dn.dn;rcases h3 with rfl|rfl;exact g2;exact g2
  have h8:(aq e).kd≠8:=λh=>h89 (.inl h);have h9:(aq e).kd≠9:=λh=>h89 (.inr h);obtain⟨A',b',st,vv,j,Ju,rfl,hj,Jf,Jb⟩:=oN Jy h8 h9;obtain⟨rfl,hb⟩:=hc.one Ju;have Xf:∀i,i<A->kid e b' i=kid e b i:=λi hi=>by unfold kid;rw[hb i o_,hb (i+1) o_]
  have Xi:j=A/\0<(st A).u/\(((aq e).kd≠4/\ER.val v=(gv t (aq e) vv (st A).sp).1/\s'=(gv t (aq e) vv (st A).sp).2)\/((aq e).kd=4/\∃f,a_ t.fc (aq e).nm=some f/\Ev t fr n (.c f (e_ A vv)) (st A).sp (.val v) s')):=by rcases Jb with⟨-,c,q,-⟩|⟨-,-,q,-⟩|⟨I,Z,J,q4,q5⟩|⟨I,Z,J,q4⟩;cases q;cases q;exact⟨I,Z,.inl ⟨J,q4,q5⟩⟩;exact⟨I,Z,.inr ⟨J,q4⟩⟩
  obtain⟨rfl,Ji,Jb⟩:=Xi;have Js:=IM (t:=t) (fr:=fr) (n:=n) (e:=e) (b:=b') (st:=st) (v:=vv) (j:=j) (λi hi h0=>by have⟨x1,x2,x3⟩:=(Jf i hi).inv h0 trivial;exact⟨x1,x2 _ (.inl rfl),x3⟩) Jo;have Jr:(∀i,i<j->∀n∈F i,n.kd=4->kq t t' fr fr' N n.nm)->∃(m:Nat) (U:Nat->ES),U 0=z/\(∀i,i<j->Ev t' fr' m (.e (F i)) (U i) (.val (vv i)) (U (i+1)))/\∀i,i<=j->LS t.gl d (st i) (U i)/\(U i).l=z.l:=λhcF=>by refine uP j (λi hi z2 hz2=>?_) Jx;have Xb:=Jf i hi;rw[Xf i hi]at Xb;refine ih i hi (hcF i hi) n (st i) (vv i) (st (i+1)) d z2 o_ Xb (Js i o_).1 ?_ hz2;rw[(Js i o_).2.1.2.2.2];exact Jh.kid
  have⟨Jw,Xe,Xk⟩:=Js j n_;have Xg:(st j).l=(st 0).l:=Xe.2.2.2;have nc:∀ {q:List Nd} {y:Int},dY q=some y->∀n∈q,n.kd=4->kq t t' fr fr' N n.nm:=λhq n hn h4=>Ka (sK hq n hn)
  have Jc:cj cJ (aq e) j F=joinF F j++[aq e]->∃m z',Ev t' fr' m (.e (cj cJ (aq e) j F)) z (.val v) z'/\LS t.gl d s' z'/\z'.l=z.l:=λer=>by
   rw[er]at Ja⊢;have hr:aq (joinF F j++[aq e])=aq e:=bR _ _;have⟨b2,Jk,Jp⟩:=pw Jd hc.ar Jv;have⟨m,U,e0,h1,h2⟩:=Jr (λi hi n hn=>Ja n (mem_append_left _ (j8 hi hn)));subst e0;have Xd:∀i,i<j->Ev t' fr' m (.e (kid (joinF F j++[aq e]) b2 i)) (U i) (.val (vv i)) (U (i+1)):=λi hi=>by rw[Jp i hi];exact h1 i hi
   have⟨Jz,lA⟩:=h2 j n_;have hp:=Jz.pos Ji;rcases Jb with⟨h4,I,rfl⟩|⟨h4,f,I,Z⟩
   have⟨w1,w2,w3⟩:=(Jz.sp Ji).work hg (n:=aq e) (v:=vv) (by show aO t ((st j).l.map Prod.fst) _=0;rw[Xg];exact Jh _ Xa) I.symm;have hw:=Ev.work (t:=t') (fr:=fr') m _ j b2 U vv Jk (by rw[hr];exact h8) (by rw[hr];exact h9) (by rw[hr];exact h4) Xd hp;rw[hr,w1]at hw;exact⟨m+1,_,hw,w2,w3.trans lA⟩
   have⟨f',m2,z',p1,p2,p3,p4⟩:=Ja (aq e) i_ h4 f I n o_ (e_ j vv) (st j).sp v s' d (U j).sp Z ⟨Jw.g,Jw.l,Jw.i⟩ (λy hy=>by
     obtain⟨k,hk,rfl⟩:=mem_map.1 hy;exact Xk k (mem_range.1 hk)) (λhf=>by
     have⟨f2,g1,g2⟩:=jU (Jh _ Xa) h4;rw[I]at g1;cases g1
     have J_:=hc.ar;simp only[arity,h4]at J_;simp only[List.getD,J4 hf,Option.getD_some]at g2;simp[e_];simp at J_;omega) (Jz.sp Ji)
   have hw:=Ev.call (t:=t') (fr:=fr') (max m m2) _ j b2 U vv f' (.val v) z' Jk (by rw[hr];exact h4) (by rw[hr];exact p1) (λi hi=>(Xd i hi).ups (Nat.le_max_left ..)) hp (p2.ups (Nat.le_max_right ..));exact⟨_,z',hw,p3,p4.trans lA⟩
  by_cases h6:(aq e).kd=6;have hA:=hc.ar1 (.inr h6);subst hA;cases hi0:dY (F 0)with
  | none=>exact Jc (by unfold cj;rw[if_pos h6,hi0];simp[joinF])
  | some x=>
   have⟨m,U,e0,h1,h2⟩:=Jr (λi hi=>by obtain rfl:i=0:=(by omega);exact nc hi0)
   subst e0;have⟨I,Z,J⟩:=j7 hi0 (h1 0 o_);have er:cj cJ (aq e) 1 F=dL (rT (aq e).val x):=(by unfold cj;rw[if_pos h6,hi0]);rw[er];rcases Jb with⟨h4,p1,rfl⟩|⟨h4,-⟩;simp only[gv,h6]at p1⊢;simp at p1⊢;rw[p1,I];have l2:=(h2 1 n_).1;rw[Z]at l2;exact⟨1,(U 0).sp,pz t' fr' (yS _ _) J,((l2.back J).sl Ji).less o_ |>.dn,rfl⟩;omega
  by_cases h7:(aq e).kd=7;have hA:=hc.ar2 (.inl h7);subst hA;cases hi0:dY (F 0)with
  | none=>exact Jc (by unfold cj;rw[if_neg h6,if_pos h7,hi0];simp[joinF])
  | some x=>
   cases hi1:dY (F 1)with
   | none=>exact Jc (by unfold cj;rw[if_neg h6,if_pos h7,hi0,hi1];simp[joinF])
   | some y=>
    have⟨m,U,e0,h1,h2⟩:=Jr (λi hi=>by
     have:i=0\/i=1:=(by omega);rcases this with rfl|rfl
     exact nc hi0;exact nc hi1)
    subst e0;have⟨I,Z,J⟩:=j7 hi0 (h1 0 o_);have⟨p1,p2,p3⟩:=j7 hi1 (h1 1 o_);have er:cj cJ (aq e) 2 F=dL (cJ (aq e).val x y):=(by unfold cj;rw[if_neg h6,if_pos h7,hi0,hi1]);rw[er];rcases Jb with⟨h4,g1,rfl⟩|⟨h4,-⟩;simp only[gv,h7]at g1⊢;simp at g1⊢;rw[g1,I,p1];have l2:=(h2 2 n_).1;rw[p2,Z]at l2;rw[Z]at p3;exact⟨1,(U 0).sp,pz t' fr' (ud _ _ _) J,(((l2.back p3).back J).sl Ji).less o_ |>.dn,rfl⟩;omega
  exact Jc (by unfold cj;rw[if_neg h6,if_neg h7,if_neg h8,if_neg h9])
theorem Fd.from(h:Fd cJ e r):∀n∈r,n∈e\/n.kd=1\/n.kd=7:=by
 have tl:∀ {q:List Nd} {n:Nd},n∈di q->n∈q\/n.kd=1\/n.kd=7:=by intro q n hn;unfold di at hn;split at hn;simp[dL]at hn;rw[hn];exact .inr (.inl rfl);simp at hn;rcases hn with hn|rfl|rfl;exact .inl hn;exact .inr (.inl rfl);exact .inr (.inr rfl)
 have nn:∀ {x:Int} {n:Nd} {e:List Nd},n∈dL x->n∈e\/n.kd=1\/n.kd=7:=by intro x n e hn;simp[dL]at hn;rw[hn];exact .inr (.inl rfl)
 induction h using Fd_i with
 | mk e A b F hc hF ih=>
  have Ja:aq e∈e:=jS hc.len;have U:∀i,i<A->∀n∈F i,n∈e\/n.kd=1\/n.kd=7:=λi hi n hn=>by rcases ih i hi n hn with h|h;exact .inl (sb h);exact .inr h
  have Z:∀j,j<=A->∀n∈joinF F j,n∈e\/n.kd=1\/n.kd=7:=by
   intro j;induction j with
   | zero=>intro _ n hn;simp[joinF]at hn
   | succ j ihj=>intro hj n hn;simp only[joinF,J5]at hn;rcases hn with hn|hn;exact ihj o_ n hn;exact U j o_ n hn
  have J:∀n∈joinF F A++[aq e],n∈e\/n.kd=1\/n.kd=7:=λn hn=>by rcases J5.1 hn with hn|hn;exact Z A n_ n hn;simp at hn;rw[hn];exact .inl Ja
  intro n hn;unfold cj at hn;split at hn;rename_i h6;have I:=hc.ar1 (.inr h6);subst I;split at hn;exact nn hn;exact J n (by simpa[joinF]using hn);split at hn;rename_i h7;have I:=hc.ar2 (.inl h7);subst I;split at hn;exact nn hn;exact J n (by simpa[joinF]using hn);split at hn;rename_i h8;have I:=hc.ar2 (.inr (.inl h8));subst I;split at hn;split at hn;exact nn hn;rcases tl hn with h|h;exact U 1 o_ n h;exact .inr h;exact J n (by simpa[joinF]using hn);split at hn;rename_i h9;have I:=hc.ar2 (.inr (.inr h9));subst I;split at hn;split at hn;rcases tl hn with h|h;exact U 1 o_ n h;exact .inr h;exact nn hn;exact J n (by simpa[joinF]using hn);exact J n hn
def lT(h:d7 x):Fd cJ (dL x) (dL x):=by
 have:=nr cJ [] ⟨1,x,⟨#[]⟩⟩ (by unfold aJ;simp only[if_true,J1,J2];exact⟨h,i_⟩) rfl (λs hs=>by simp at hs) (λ_=>[]) (λi hi=>by simp at hi)
 simpa[cj,joinF,dL]using this
theorem Fd.idem(h:Fd cJ e r):Fd cJ r r:=by
 induction h using Fd_i with
 | mk e A b F hc hF ih=>
  have Jb:∀i,i<A->Go.Proofs.YtjfmapphpijneaaGreatDoor.oneB (F i)=true:=λi hi=>(hF i hi).oneB;have Ja:cj cJ (aq e) A F=joinF F A++[aq e]->Fd cJ (cj cJ (aq e) A F) (cj cJ (aq e) A F):=λer=>by
   have:=nr cJ ((List.range A).map F) (aq e) hc.root_good (IN hc.ar) (λs hs=>by obtain⟨i,hi,rfl⟩:=mem_map.1 hs;exact Jb i (mem_range.1 hi)) F (λi hi=>by simp at hi⊢;exact ih i hi)
   rw[<-fw]at this;simp only[J8,length_range]at this;rw[er]at this⊢;exact this
  have J:∀ {q:List Nd},Fd cJ q q->Go.Proofs.YtjfmapphpijneaaGreatDoor.oneB q=true->Fd cJ (di q) (di q):=λ{q} h h1=>by
   unfold di;split;exact lT (k9 _);rename_i hn;have:=nr cJ [q,dL 0] ⟨7,12,⟨#[]⟩⟩ (by unfold aJ;simp) rfl (λs hs=>by
    simp at hs;rcases hs with rfl|rfl;exact h1;exact fQ ⟨d_,d_⟩) (λi=>if i=0 then q else dL 0) (λi hi=>by
    simp at hi;have:i=0\/i=1:=(by omega);rcases this with rfl|rfl;simpa using h;simpa using lT ⟨d_,d_⟩)
   simpa[cj,hn,dL]using this
  unfold cj at Ja⊢;split;rename_i h6;have I:=hc.ar1 (.inr h6);subst I;rw[if_pos h6]at Ja;split;exact lT (yS _ _);rename_i hi;rw[hi]at Ja;exact Ja (by simp[joinF]);rename_i h6;rw[if_neg h6]at Ja;split;rename_i h7;have I:=hc.ar2 (.inl h7);subst I;rw[if_pos h7]at Ja;cases hi0:dY (F 0)with
  | none=>rw[hi0]at Ja;exact Ja (by simp[joinF])
  | some x=>
   cases hi1:dY (F 1)with
   | none=>rw[hi0,hi1]at Ja;exact Ja (by simp[joinF])
   | some y=>exact lT (ud _ _ _)
  rename_i h7;rw[if_neg h7]at Ja;split;rename_i h8;have I:=hc.ar2 (.inr (.inl h8));subst I;rw[if_pos h8]at Ja;split;split;exact lT ⟨d_,d_⟩;exact J (ih 1 o_) (Jb 1 o_);rename_i hi;rw[hi]at Ja;exact Ja (by simp[joinF]);rename_i h8;rw[if_neg h8]at Ja;split;rename_i h9;have I:=hc.ar2 (.inr (.inr h9));subst I;rw[if_pos h9]at Ja;split;split;exact J (ih 1 o_) (Jb 1 o_);exact lT ⟨d_,d_⟩;rename_i hi;rw[hi]at Ja;exact Ja (by simp[joinF]);rename_i h9;rw[if_neg h9]at Ja;exact Ja rfl
end
section
open Go.Proofs.Tryz
section
variable{s:St}{ss out:List St}
structure Fs (s r:St):Prop where
 k:r.kd=s.kd
 n:r.nm=s.nm
 e:Fd cJ s.e r.e
 f:(s.kd=3/\Fd cJ s.f r.f)\/(s.kd≠3/\s.f=[]/\r.f=[])
def Jm{r:St}(h:vE s r)(J:stmtB s=true)(he:s.e.length<=2000)(hf:s.f.length<=2000):Fs s r:=by obtain⟨U,h2,h3,h4,h5,h6⟩:=h;unfold stmtB at J;simp only[J1]at J;obtain⟨⟨⟨⟨⟨⟨a1,a2⟩,Z⟩,I⟩,a5⟩,a6⟩,a7⟩:=J;refine⟨U,h2,h5.yes he Z,?_⟩;by_cases k3:s.kd=3;rw[if_pos k3]at I;exact .inl ⟨k3,h6.yes hf I⟩;rw[if_neg k3]at I;have:s.f=[]:=J3 (IN I);rw[this]at h6;exact .inr ⟨k3,this,h6.nil⟩
structure TdC(P:List St->List St->Prop):Prop where
 c_::
 nil:P [] []
 cons:∀(s:St)s2(r:List St)a b q,Fs s s2->s.th.toNat+s.el.toNat<=r.length->P (r.take s.th.toNat) a->P ((r.drop s.th.toNat).take s.el.toNat) b->P (r.drop (s.th.toNat+s.el.toNat)) q->P (s::r) (if ed (aV s2 a b)=true then aV s2 a b else aV s2 a b++q)
structure Td(a0:List St)(a1:List St):Prop where
 c_::
 out:∀P,TdC P->P a0 a1
theorem Td.C:TdC (Td):=⟨⟨λP h=>h.nil⟩,
 λs s2 r a b q q0 q1 q2 q3 q4=>⟨λP h=>h.cons s s2 r a b q q0 q1 (q2.out P h) (q3.out P h) (q4.out P h)⟩⟩
abbrev Td.nil:=(Td.C:TdC _).nil
abbrev Td.cons:=(Td.C:TdC _).cons
theorem Td_i{M:∀(a0:List St)(a1:List St),Td a0 a1->Prop}
 (nil:∀t,M [] [] t)
 (cons:∀(s:St)s2(r:List St)a b q,Fs s s2->s.th.toNat+s.el.toNat<=r.length->∀q2:Td (r.take s.th.toNat) a,∀q3:Td ((r.drop s.th.toNat).take s.el.toNat) b,∀q4:Td (r.drop (s.th.toNat+s.el.toNat)) q,M (r.take s.th.toNat) a q2->M ((r.drop s.th.toNat).take s.el.toNat) b q3->M (r.drop (s.th.toNat+s.el.toNat)) q q4->∀t,M (s::r) (if ed (aV s2 a b)=true then aV s2 a b else aV s2 a b++q) t)
 {a0:List St}{a1:List St}(t:Td a0 a1):M a0 a1 t:=
 (t.out (λa0 a1=>∃z_,M a0 a1 z_) ⟨⟨.nil,nil _⟩,
 λs s2 r a b q q0 q1 q2 q3 q4=>⟨.cons s s2 r a b q q0 q1 q2.1 q3.1 q4.1,cons s s2 r a b q q0 q1 _ _ _ q2.2 q3.2 q4.2 _⟩⟩).2
theorem zk:∀(N:Nat) (ss rs:List St),ss.length<=N->fG ss rs->bw ss=true->(∀s∈ss,stmtB s=true/\s.e.length<=2000/\s.f.length<=2000)->Td ss (aM rs)
 | 0,ss,rs,hl,hF,_,_=>by obtain rfl:ss=[]:=J3 o_;obtain rfl:rs=[]:=J3 hF.1;exact .nil
 | N+1,[],rs,hl,hF,_,_=>by obtain rfl:rs=[]:=J3 hF.1;exact .nil
 | N+1,s::r,[],hl,hF,_,_=>by have:=hF.1;simp at this
 | N+1,s::r,s2::r2,hl,hF,hf,hs=>by have hF0:vE s s2:=hF.2 0 i_ i_;have hFr:fG r r2:=hF.drop 1;obtain⟨h3,h4⟩:s2.th=s.th/\s2.el=s.el:=⟨hF0.2.2.1,hF0.2.2.2.1⟩;rw[fitB_cons]at hf;simp only[J1,J2]at hf;obtain⟨⟨p1,p2,p3,p4⟩,f1,f2,f3⟩:=hf;rw[<-DH]at f2;simp only[l_c]at hl;have⟨b1,b2,b3⟩:=hs s i_;rw[tidyB_cons];unfold gX;rw[h3,h4];exact .cons s s2 r _ _ _ (Jm hF0 b1 b2 b3) o_ (zk N _ _ H6 (hFr.take _) f1 (λx hx=>hs x (by simp[mem_of_mem_take hx]))) (zk N _ _ H6 ((hFr.drop _).take _) f2 (λx hx=>hs x (by simp[J6 (mem_of_mem_take hx)]))) (zk N _ _ H6 (hFr.drop _) f3 (λx hx=>hs x (by simp[J6 hx])))
theorem Td.fit(h:Td ss out):bw out=true:=by
 induction h using Td_i with
 | nil=>rfl
 | cons s s2 r a b q _ _ _ _ _ ia ib iq=>
  have:=gU s2 ia ib
  split
  ·exact this
  ·exact ky _ _ _ n_ this iq
def ends_cons(s:St)(r:List St):ed (s::r)=(decide (s.kd=6) || ed (r.drop (s.th.toNat+s.el.toNat))):=by
 have:=FF (ss:=s::r) (i:=0) i_
 simp only[drop_zero,getElem_cons_zero]at this;rw[this,show 0+1+s.th.toNat+s.el.toNat=(s.th.toNat+s.el.toNat)+1 by omega,drop_succ_cons]
theorem vK:∀(N:Nat) (x y:List St),x.length<=N->bw x=true->ed (x++y)=(ed x || ed y)
 | 0,x,y,hl,_=>by obtain rfl:x=[]:=J3 o_;rfl
 | N+1,[],y,hl,_=>rfl
 | N+1,s::r,y,hl,hf=>by rw[fitB_cons]at hf;simp only[J1,J2]at hf;obtain⟨⟨p1,p2,p3,p4⟩,f1,f2,f3⟩:=hf;simp only[l_c]at hl;obtain⟨-,-,e3,-⟩:=gQ (r:=r) (b:=y) (i:=s.th.toNat) (j:=s.el.toNat) o_;rw[cons_append,ends_cons,ends_cons,e3,vK N _ y H6 f3,Bool.or_assoc]
theorem rJ:∀(N:Nat) (x y:List St),x.length<=N->bw x=true->aM (x++y)=if ed (aM x)=true then aM x else aM x++aM y
 | 0,x,y,hl,_=>by obtain rfl:x=[]:=J3 o_;rfl
 | N+1,[],y,hl,_=>rfl
 | N+1,s::r,y,hl,hf=>by
  rw[fitB_cons]at hf;simp only[J1,J2]at hf;obtain⟨⟨p1,p2,p3,p4⟩,f1,f2,f3⟩:=hf;simp only[l_c]at hl;obtain⟨e1,e2,e3,-⟩:=gQ (r:=r) (b:=y) (i:=s.th.toNat) (j:=s.el.toNat) o_;have hH:gX s (r++y)=gX s r:=by unfold gX;rw[e1,e2]
  have Ja:bw (gX s r)=true:=gU s (iU _ _ n_) (iU _ _ n_);rw[cons_append,tidyB_cons,tidyB_cons,hH,e3,rJ N _ y H6 f3];by_cases h1:ed (gX s r)=true;simp[h1];rw[if_neg h1,if_neg h1];rw[vK _ _ _ n_ Ja];by_cases h2:ed (aM (r.drop (s.th.toNat+s.el.toNat)))=true;simp[h1,h2];simp[h1,h2]
def mh(a b q:List St):((a++b)++q).take a.length=a/\(((a++b)++q).drop a.length).take b.length=b/\((a++b)++q).drop (a.length+b.length)=q:=by refine⟨by simp[append_assoc],by simp[append_assoc],?_⟩;rw[<-l_a,drop_left]
theorem A7{a b:List St}(Z:aM a=a)(hb:aM b=b):aM (aV s a b)=aV s a b:=by
 have Ja:aV {s with th:=a.length,el:=b.length} a b={s with th:=(a.length:Int),el:=(b.length:Int)}::(a++b)->aM ({s with th:=(a.length:Int),el:=(b.length:Int)}::(a++b))={s with th:=(a.length:Int),el:=(b.length:Int)}::(a++b):=λh=>by have⟨U,J,I⟩:=mh a b [];rw[append_nil]at U J I;rw[tidyB_cons];unfold gX;simp only[Int.toNat_natCast];rw[U,J,I,Z,hb,h];simp[gP]
 unfold aV at Ja⊢;by_cases h4:s.kd=4;simp only[h4,if_true]at Ja⊢;cases hi:dY s.e with
 | some v=>simp only;split;exact hb;exact Z
 | none=>rw[hi]at Ja;exact Ja (by first|rfl|trivial)
 simp only[h4,if_false]at Ja⊢;by_cases h5:s.kd=5;simp only[h5,if_true]at Ja⊢;by_cases h0:dY s.e=some 0;simp[h0,gP];simp only[h0,if_false]at Ja⊢;exact Ja (by first|rfl|trivial);simp only[h5,if_false]at Ja⊢;exact Ja (by first|rfl|trivial)
theorem Td.tidy(h:Td ss out):aM out=out:=by
 induction h using Td_i with
 | nil=>rfl
 | cons s s2 r a b q _ _ ha hb hq ia ib iq=>
  have I:=A7 (s:=s2) ia ib;split
  ·exact I
  ·rename_i h2;rw[rJ _ _ _ n_ (gU s2 ha.fit hb.fit),I,if_neg h2,iq]
theorem Td.mem(h:Td ss out):∀x∈out,∃s∈ss,Fs s x:=by
 induction h using Td_i with
 | nil=>intro x hx;cases hx
 | cons s s2 r a b q hs hl ha hb hq ia ib iq=>
  have Ja:∀x∈aV s2 a b,∃y∈s::r,Fs y x:=by
   have Jc:∀x∈a,∃y∈s::r,Fs y x:=λx hx=>by obtain⟨y,I,h2⟩:=ia x hx;exact⟨y,by simp[mem_of_mem_take I],h2⟩
   have Jb:∀x∈b,∃y∈s::r,Fs y x:=λx hx=>by obtain⟨y,I,h2⟩:=ib x hx;exact⟨y,by simp[J6 (mem_of_mem_take I)],h2⟩
   have J:∀x∈({s2 with th:=a.length,el:=b.length}:St)::(a++b),∃y∈s::r,Fs y x:=λx hx=>by
    rcases mem_cons.1 hx with rfl|hx
    ·exact⟨s,i_,⟨hs.k,hs.n,hs.e,hs.f⟩⟩
    ·rcases J5.1 hx with hx|hx
     ·exact Jc x hx
     ·exact Jb x hx
   intro x hx;unfold aV at hx;split at hx
   ·split at hx
    ·split at hx
     ·exact Jb x hx
     ·exact Jc x hx
    ·exact J x hx
   ·split at hx
    ·split at hx
     ·cases hx
     ·exact J x hx
    ·exact J x hx
  intro x hx;split at hx
  ·exact Ja x hx
  ·rcases J5.1 hx with hx|hx
   ·exact Ja x hx
   ·obtain⟨y,I,h2⟩:=iq x hx;exact⟨y,by simp[J6 I],h2⟩
end
section
open Go.RowKit
variable{α:Type}{k:Nat}
def vP(f r:Fu):Prop:=r.nm=f.nm/\r.pm=f.pm/\∃rs,fG f.bd rs/\r.bd=aM rs
def lx(fs rs:List Fu):Prop:=rs.length=fs.length/\∀j (h:j<fs.length) (h':j<rs.length),vP fs[j] rs[j]
def vP.exists(f:Fu):∃r,vP f r:=by have⟨rs,h⟩:=fG.exists f.bd;exact⟨⟨f.nm,f.pm,aM rs⟩,rfl,rfl,rs,h,rfl⟩
theorem lx.exists:∀fs:List Fu,∃rs,lx fs rs
 | []=>⟨[],rfl,λj h=>absurd h i_⟩
 | f::l=>by
  have⟨rs,h1,h2⟩:=lx.exists l;have⟨r,hr⟩:=vP.exists f;refine⟨r::rs,by simp[h1],λj h h'=>?_⟩;cases j with
  | zero=>exact hr
  | succ j=>exact h2 j (IN h) (IN h')
def lx.names{J I:List Fu}(h:lx J I)(s:Io):a_ I s=a_ J s:=by
 have e:I.map (·.nm)=J.map (·.nm):=by apply ext_getElem (by simp[h.1]);intro j U h2;simp only[getElem_map];exact(h.2 j (IN h2) (IN U)).1
 have Ja:∀l:List Fu,a_ l s=(l.map (·.nm)).findIdx? (λx=>decide (x=s)):=λl=>by unfold a_;rw[findIdx?_map];rfl
 rw[Ja,Ja,e]
def EA.from{l:List St}{x:St}(h:jA l x)(hl:∀s∈l,EA s):EA x:=by obtain⟨s,hs,h1,h2,h3,h4⟩:=h;have⟨Z,p2,I,U,J⟩:=hl s hs;exact⟨by rw[h3];exact Z,by rw[h4];exact p2,by rw[h2];exact I,by rw[h3];exact U,by rw[h4];exact J⟩
def vP.ok{f r:Fu}(h:vP f r)(hf:cC f=true):Gj r:=by
 obtain⟨h1,h2,rs,h3,h4⟩:=h;have⟨J,U,p3,I,p5,p6⟩:=je hf;refine⟨by rw[h1];exact J,by rw[h2];exact U,?_,by rw[h2];exact I,λs hs=>?_⟩;rw[h4];have:=fW rs.length rs n_
 have:=h3.1
 omega;rw[h4]at hs;refine EA.from (gY _ rs n_ s hs) (λx hx=>?_);have⟨Z,q2,q3⟩:=h3.ok p6 x hx;exact EA.of Z q2 q3
def aY{α:Type}(P:Nat->Bool)(fs:List α)(k:Nat):List α:=(List.range k).filterMap (λi=>if P i=true then fs[i]? else none)
def kF(P:Nat->Bool)(fs:List α):aY P fs 0=[]:=rfl
def gj{P:Nat->Bool}{I:List α}(J:k<I.length)(h:P k=true):aY P I (k+1)=aY P I k++[I[k]]:=by simp[aY,range_succ,filterMap_append,h,J4 J]
def ly{P:Nat->Bool}{I:List α}(h:P k=false):aY P I (k+1)=aY P I k:=by simp[aY,range_succ,filterMap_append,h]
def mi(P:Nat->Bool)(h:List α)(k:Nat):(aY P h k).length<=k:=by
 have:=length_filterMap_le (λi=>if P i=true then h[i]? else none) (List.range k)
 simpa[aY]using this
def A8{P:Nat->Bool}{J:List α}{f:α}(h:f∈aY P J k):f∈J:=by unfold aY at h;obtain⟨i,-,I⟩:=mem_filterMap.1 h;split at I;exact mem_of_getElem? I;cases I
def A9{β:Type}(P:Nat->Bool)(h:List α)(g:α->β)(k:Nat):(aY P h k).map g=aY P (h.map g) k:=by
 unfold aY;rw[map_filterMap];congr 1
 funext i
 split
 simp
 rfl
theorem mj{α:Type}(P:Nat->Bool)(fs:List α):∀k,k<=fs.length->(aY P fs k).Sublist (fs.take k)
 | 0,_=>by simp[kF]
 | k+1,h=>by have ih:=mj P fs k o_;rw[aU fs k o_];cases hp:P k;rw[ly hp];exact ih.trans (sublist_append_left _ _);rw[gj o_ hp];exact ih.append (List.Sublist.refl _)
def cd(gs:List Gl)(fs:List Fu)(m i:Nat):Bool:=@decide (i=m\/iD ⟨gs,fs⟩ m i) (pdQ _)
def jr(t:Tr)(r:Tr):Prop:=if (aQ t).1=0 then ∃fs m,lx t.fc fs/\a_ t.fc dt=some m/\r=⟨t.gl,aY (cd t.gl fs m) fs fs.length⟩else r=⟨[],[]⟩
end
section
open Go.RowKit
structure pR (B:Nat) (w:AT) (vp vb:BY) (r:Fu) (R:List SV):Prop where
 ps:w.ownsRow B 9 1 vp r.pm.length (iP r.pm)
 bd:bP B w vb R
 map:R.map (·.s)=r.bd
 sep:∀g,vp.ownBlock=some g->g∉dP R/\vb.ownBlock≠some g
def Ba{w:AT}{v:BY}{I:List Io}(h:be w v I):∃a cap,v=.slice a I.length cap/\(a=none->I.length=0)/\∀ad,a=some ad->∀j u,(iP I)[j]? =some u->w.cell? (ad.add j)=some u:=by
 obtain⟨a,cap,rfl,-,-,h⟩:=h;refine⟨a,cap,rfl,λe=>?_,λad had j u hu=>?_⟩;rcases Nat.eq_zero_or_pos I.length with h0|h0;exact h0;obtain⟨b,Ja,J,-⟩:=h h0;rw[e]at J;cases J;have U:=(List.getElem?_eq_some_iff.1 hu).1;rw[iP,J8]at U;have⟨b,Ja,J,Z⟩:=h o_;rw[had]at J;cases J;have e:(iP I)[j]? =some (sV I[j]):=by simp[iP,J4 U]
 rw[e]at hu;rw[dk,Z j U,hu]
theorem kG(f r:Fu)(vp vb:BY)(w:AT)(hT:gF w)(hp:be w vp f.pm)(hb:aZ w vb f.bd)(hf:cC f=true)(hs:vP f r):
  Calls prog 17 #[.agg #[sV f.nm,vp,vb]] w λe w'=>∃vp' vb' R,e=rW (.agg #[sV r.nm,vp',vb'])/\pR w.heap.size w' vp' vb' r R/\Bl w w':=by
 have⟨p1,p2,p3,p4,p5,p6⟩:=je hf;obtain⟨s1,s2,rs,s3,s4⟩:=hs;have Jn:=hT.size;have Yd:rs.length<=500:=by rw[s3.1];exact p3
 have Xh:=ah λW (hW:Bl w W)=>pP vb f.bd rs W (hT.below Jn hW) (hb.below hW) s3 o_ (λs h=>⟨by have:=(p6 s h).2.1;omega,by have:=(p6 s h).2.2;omega⟩);have Xa:=ah λW u (hW:Bl w W) (hu:aZ W u rs)=>mQ rs u W (hT.below Jn hW) hu (by rw[s3.fit];exact p5) (s3.ok p6) o_;have Xd:Hid (mR 1000):=pM 1000 n_;have Jw:Hid (mS 1000):=pQ 1000 n_;have Yg:=fW rs.length rs n_;have Xf:Hid (∀s∈aM rs,FE s):=λs h=>DG (gY _ rs n_ s h) (λx hx=>by have⟨q1,q2,q3⟩:=s3.ok p6 x hx;exact Hx q1 q2 q3)
 obtain⟨U,J,rfl,Xj,Xg⟩:=Ba hp;have X_:Hid (∀W,Bl w W->Calls prog 39 #[.slice U f.pm.length J] W λe w'=>∃u,e=rW u/\w'.ownsRow W.heap.size 9 1 u f.pm.length (iP f.pm)/\Bl W w'):=λW hW=>A4 U f.pm.length J (iP f.pm) W Xj (by simp[iP]) (λad had j u hu=>by have c:=Xg ad had j u hu;have Xn:=b_ c;exact(hW.cell Xn).trans c) (λu hu=>by simp only[iP,mem_map]at hu;obtain⟨x,-,rfl⟩:=hu;rfl) o_
 obtain⟨ab,cb,rfl,-⟩:=hb;have Xk:=ah s1;have Xq:=ah s2;have Xs:=ah s4;clear p1 p4 p5 p6 s1 s2 s3 s4 Xj Xg hp hf hT Jn;go_in;go_wp2_with fail;have⟨M,I⟩:=q_ w.heap.size;have⟨W0,Jb⟩:=q_ (((w.alloc (.cells #[sV f.nm,.slice U f.pm.length J,.slice ab f.bd.length cb] 52)).alloc (.cells #[sV ⟨#[]⟩,nV,nV] 52)));have Xo:W0.heap.size=M+2:=by rw[Jb,I];simp
 have Js:Bl w W0:=by rw[Jb];exact(ao _ _).alloc i_ _
 have HY:Hid (∀W,Bl W0 W->(W.cell? ⟨M,0,none⟩=some (sV f.nm)/\W.cell? ⟨M,1,none⟩=some (.slice U f.pm.length J))/\(W.cell? ⟨M+1,0,none⟩=some (sV ⟨#[]⟩)/\W.cell? ⟨M+1,1,none⟩=some nV/\W.cell? ⟨M+1,2,none⟩=some nV)/\∀j,W.frozen? ⟨M+1,j,none⟩=false):=λW hW=>by
  have e1:∀o,W.cell? ⟨M,o,none⟩=W0.cell? ⟨M,o,none⟩:=λo=>hW.cell (p:=⟨M,o,none⟩) (by show M<_;omega);have e2:∀o,W.cell? ⟨M+1,o,none⟩=W0.cell? ⟨M+1,o,none⟩:=λo=>hW.cell (p:=⟨M+1,o,none⟩) (by show M+1<_;omega);rw[e1,e1,e2,e2,e2];refine⟨⟨by rw[Jb,I];simp,by rw[Jb,I];simp⟩,⟨by rw[Jb,I];simp,by rw[Jb,I];simp,by rw[Jb,I];simp⟩,λj=>?_⟩;rw[hW.frozen (p:=⟨M+1,j,none⟩) (by show M+1<_;omega)];have hh:W0.heap[M+1]? =some (.cells #[sV ⟨#[]⟩,nV,nV] 52 (0,0)):=by
   have:=(MapKept.heap_alloc (w.alloc (.cells #[sV f.nm,.slice U f.pm.length J,.slice ab f.bd.length cb] 52)) (.cells #[sV ⟨#[]⟩,nV,nV] 52)).1
   rw[J9,<-I,<-Jb]at this;exact this
  unfold frozen?;simp only[hh];simp
 have Ju:=ah λW (hW:Bl W0 W)=>Js.trans (hW.mono Js.size);rw[<-Jb,<-I];have Xz:=ah I;clear Jb I;refine(Xh.o W0 Js).mono ?_;rintro e w1 ⟨u1,rfl,Jg,Jp⟩;obtain⟨Ye,Yc,rfl,-⟩:=id Jg;go_wp2_with fail;refine(Xa.o w1 _ (Ju.o w1 Jp) Jg).mono ?_;rintro e w2 ⟨u2,S2,rfl,Jj,Jv,Xe⟩;have Jh:Bl W0 w2:=Jp.trans (Xe.mono Jp.size);clear Jg;obtain⟨Yi,Yf,Yb,rfl⟩:∃a n c,u2=.slice a n c:=by obtain⟨A2,Xv,F2,⟨a,c,e,-⟩,-⟩:=id Jj;exact⟨a,A2,c,e⟩
 go_wp2_with fail;refine(Xd.o rs _ S2 w2 o_ Jj (λB hB=>(Jv B hB).2)).mono ?_;rintro e w3 ⟨u3,rfl,Xt,Jt⟩;have Jc:Bl W0 w3:=Jh.trans (Jt.mono Jh.size);obtain⟨S3,L3,Jx,Jy,Xc,-⟩:=Xt;have Jf:Bk w3 (λB=>S2 B\/S3 B) u3 (aM rs):=by rw[<-Xc];exact Jx.bk
 have Ji:∀B,(S2 B\/S3 B)->B<w3.heap.size:=λB hB=>by
  rcases hB with h|h
  ·have:=(Jv B h).2;have:=Jt.size;omega
  exact(Jy B h).2
 have Xi:=ah λW (hW:Bl w3 W)=>Jw.o (aM rs) u3 _ W o_ (Jf.bel Ji hW) (λB hB=>l_ (Ji B hB) hW.size) Xf;obtain⟨Xl,Xu,Xr,rfl⟩:∃a n c,u3=.slice a n c:=by obtain⟨A2,Xv,F2,⟨a,c,e,-⟩,-⟩:=id Jf;exact⟨a,A2,c,e⟩
 clear Jj Jv Xe Jp Jh Jf Ji Jx Jy Xc Jt Xd Jw Xa Xh Xf;have HD:Hid (Bl w3 w3.drew):=r_.drew;have Jk:Bl W0 w3.drew:=Jc.trans (HD.o.mono Jc.size);obtain⟨⟨y0,y1⟩,-⟩:=HY.o _ Jk;have HK:Hid (∀(W:AT) (x:Nat) (y:BY),(W.cell? ⟨M,0,none⟩=some (sV f.nm)/\W.cell? ⟨M,1,none⟩=some (.slice U f.pm.length J))->(W.setCell ⟨M+1,x,none⟩ y).cell? ⟨M,0,none⟩=some (sV f.nm)/\(W.setCell ⟨M+1,x,none⟩ y).cell? ⟨M,1,none⟩=some (.slice U f.pm.length J)):=λW x y h=>⟨(c_ (a:=⟨M,0,none⟩) (Below.heap_setCell W ⟨M+1,x,none⟩ y _ (by show M≠M+1;omega))).trans h.1,(c_ (a:=⟨M,1,none⟩) (Below.heap_setCell W ⟨M+1,x,none⟩ y _ (by show M≠M+1;omega))).trans h.2⟩;have Xy:Hid (Calls prog 39 #[.slice U f.pm.length J] w3.drew λe w'=>∃a n c,e=rW (.slice a n c)/\w'.ownsRow w3.heap.size 9 1 (.slice a n c) f.pm.length (iP f.pm)/\Bl w3 w'):=by
  refine(X_.o _ (Ju.o _ Jk)).mono ?_;rintro e w' ⟨u,rfl,Z,h2⟩;obtain⟨a,n,c,rfl⟩:∃a n c,u=.slice a n c:=by rcases Z.2 with⟨rfl,-⟩|⟨g,Yh,Ya,rfl,-⟩ <;> exact⟨_,_,_,rfl⟩
  exact⟨a,n,c,rfl,Z,HD.o.trans (h2.mono n_)⟩
 have Jq:Hid (∀W,Bl w3 W->Calls prog 40 #[.slice Xl Xu Xr] W λe w'=>∃a n c,e=rW (.slice a n c)/\te W w' (.slice a n c) (aM rs)/\Bl W w'):=λW hW=>by refine(Xi.o W hW).mono ?_;rintro e w' ⟨u,rfl,Z,h2⟩;obtain⟨R,hR,h3⟩:=Z;obtain⟨a,c,rfl⟩:=hR.shape;exact⟨a,_,c,rfl,⟨R,hR,h3⟩,h2⟩
 have Ja:=ah Jc;clear Xi Jc Jk;go_upto_region 2 with fail;go_region_held3 (λW=>W.cell? ⟨M,0,none⟩=some (sV f.nm)/\W.cell? ⟨M,1,none⟩=some (.slice U f.pm.length J)) (first|go_keep|exact HK.o _ _ _ q|exact HK.o _ _ _ (HK.o _ _ _ q)|exact HK.o _ _ _ (HK.o _ _ _ (HK.o _ _ _ q)))
  (first
  | ((with_reducible refine Calls.mono Xy.o ?_);intro x wt hx;obtain⟨a4,n4,c4,Jr,Jo,Jl⟩:=hx;subst Jr;have q:=(HY.o wt (Ja.o.trans (Jl.mono Ja.o.size))).1)
  | ((with_reducible refine Calls.mono (Jq.o wt Jl) ?_);intro x wo hx;obtain⟨a5,n5,c5,Jr,Xw,Jd⟩:=hx;subst Jr;have Jm:Bl w3 wo:=Jl.trans (Jd.mono Jl.size);have q:=(HY.o wo (Ja.o.trans (Jm.mono Ja.o.size))).1;have⟨z0,z1,z2⟩:=(HY.o wo (Ja.o.trans (Jm.mono Ja.o.size))).2.1;have zf:=(HY.o wo (Ja.o.trans (Jm.mono Ja.o.size))).2.2))
 obtain⟨R,hR,Xb⟩:=Xw;have Jn:M+2<=w3.heap.size/\w3.heap.size<=wt.heap.size/\wt.heap.size<=wo.heap.size:=⟨by rw[<-Xo];exact Ja.o.size,Jl.size,Jd.size⟩;have⟨W',Je⟩:=q_ ((((wo.setCell ⟨M+1,0,none⟩ (sV f.nm)).setCell ⟨M+1,1,none⟩ (.slice a4 n4 c4)).setCell ⟨M+1,2,none⟩ (.slice a5 n5 c5)));have hk:∀g,g≠M+1->W'.heap[g]? =wo.heap[g]? := λg hg=>by rw[Je,Below.heap_setCell _ _ _ g (IN hg),Below.heap_setCell _ _ _ g (IN hg),Below.heap_setCell _ _ _ g (IN hg)]
 have Jz:wo.heap.size<=W'.heap.size:=by rw[Je];simp
 have hw:=Xz.o;have J_:Bl w W':=by have Z:=Ju.o wo (Ja.o.trans (Jm.mono Ja.o.size));rw[Je];exact((Z.setCell (p:=⟨M+1,0,none⟩) (by show _<=M+1;omega) _).setCell (p:=⟨M+1,1,none⟩) (by show _<=M+1;omega) _).setCell (p:=⟨M+1,2,none⟩) (by show _<=M+1;omega) _
 have Xp:Hid (pR w.heap.size W' (.slice a4 n4 c4) (.slice a5 n5 c5) r R):=by
  refine⟨?_,?_,by rw[Xb,Xs.o],λg hg=>?_⟩
  ·rw[Xq.o];refine pv (lg (ownB Jo Jd) λg hg=>hk g ?_) o_;have:=(ownsRow.lt Jo g hg).1
   omega
  exact(hR.keepB Jz (λg Z h2=>hk g o_)).base o_;have Z:=(ownsRow.lt Jo g hg).2;exact⟨λh=>by have:=(hR.rng g h).1;omega,λh=>by have:=(ownsRow.lt hR.row g h).1;omega⟩
 have Xm:=ah J_;have Xx:=ah Je;have t0:W'.cell? ⟨M+1,0,none⟩=some (sV f.nm):=by rw[Je,s_ _ _ _ _ i_,s_ _ _ _ _ i_,cell?_setCell_same _ _ _ z0]
 have t1:W'.cell? ⟨M+1,1,none⟩=some (.slice a4 n4 c4):=by rw[Je,s_ _ _ _ _ i_,cell?_setCell_same _ _ _ (by rw[s_ _ _ _ _ i_];exact z1)]
 have t2:W'.cell? ⟨M+1,2,none⟩=some (.slice a5 n5 c5):=by rw[Je,cell?_setCell_same _ _ _ (by rw[s_ _ _ _ _ i_,s_ _ _ _ _ i_];exact z2)]
 clear hR Xb Jo Jd Jm Jl hk Jz J_ Je q;go_wp2_with fail;rw[<-Xx.o];refine bodyPost_ret (v:=.agg #[sV f.nm,.slice a4 n4 c4,.slice a5 n5 c5]) (by simp[results,results17,go_sem,t0,t1,t2]) rfl ⟨_,_,R,by rw[Xk.o],Xp,Xm⟩
end
section
open Go.RowKit
def pR.fv{B:Nat}{w:AT}{Z U:BY}{r:Fu}{R:List SV}(h:pR B w Z U r R):∃kp kb,qq B w ⟨r,Z,U,R,kp,kb⟩:=by
 have⟨kp,J,a2⟩:=iM.of_own h.ps;have⟨kb,I,b2⟩:=h.bd.m;refine⟨kp,kb,J,I,h.map,?_⟩;show(kp++(kb++dP R)).Nodup;rw[nodup_append];refine⟨?_,I.nd,λx hx y hy e=>?_⟩
 rcases J with⟨-,rfl,-⟩|⟨g,Ja,-,rfl,-⟩ <;> simp
 subst e;have⟨s1,s2⟩:=h.sep x ((a2 x).2 hx);rcases J5.1 hy with hy|hy;exact s2 ((b2 x).2 hy);exact s1 hy
end
section
variable{t t':Tr}{sc tk k sc':List Io}{ss:List St}{s r:St}
def Gd(t:Tr)(ss:List St)(sc tk k:List Io):Prop:=∀a,(aL t ss a sc tk).1=0/\(aL t ss a sc tk).2.2=k
def jt:Gd t [] sc tk k↔tk=k:=by unfold Gd;simp only[ee];exact⟨λh=>(h 0).2,λh _=>⟨trivial,h⟩⟩
theorem nZ(t:Tr):∀(N:Nat) (ss:List St) (a b:Int) (sc tk:List Io),ss.length<=N->(aL t ss a sc tk).1=(aL t ss b sc tk).1/\(aL t ss a sc tk).2.2=(aL t ss b sc tk).2.2
 | 0,ss,a,b,sc,tk,h=>by obtain rfl:ss=[]:=J3 o_;simp[ee]
 | N+1,[],a,b,sc,tk,h=>by simp[ee]
 | N+1,s::r,a,b,sc,tk,h=>by
  simp only[l_c]at h;by_cases h1:bC t sc tk s=0;have l1:=nZ t N (r.take s.th.toNat) (a+1) (b+1) (aP s sc) (aP s tk) H6;by_cases h2:(aL t (r.take s.th.toNat) (a+1) (aP s sc) (aP s tk)).1=0;have h2':=l1.1 ▸ h2;have l2:=nZ t N ((r.drop s.th.toNat).take s.el.toNat) (a+1+s.th) (b+1+s.th) (aP s sc) (aL t (r.take s.th.toNat) (a+1) (aP s sc) (aP s tk)).2.2 H6;by_cases h3:(aL t ((r.drop s.th.toNat).take s.el.toNat) (a+1+s.th) (aP s sc) (aL t (r.take s.th.toNat) (a+1) (aP s sc) (aP s tk)).2.2).1=0;have h3':=l2.1 ▸ h3;rw[ey h1 h2 rfl h3 rfl,ey h1 h2' l1.2 h3' l2.2];exact nZ t N _ _ _ _ _ H6;have h3':_≠_:=λe=>h3 (l2.1.trans e);rw[fA h1 h2 rfl h3,fA h1 h2' l1.2 h3'];exact l2
  have h2':_≠_:=λe=>h2 (l1.1.trans e);rw[fy h1 h2,fy h1 h2'];exact l1
  rw[eZ h1,eZ h1];exact⟨rfl,rfl⟩
def rK{a:Int}(h:(aL t ss a sc tk).1=0):Gd t ss sc tk (aL t ss a sc tk).2.2:=λb=>by have⟨h1,h2⟩:=nZ t _ ss b a sc tk n_;exact⟨h1.trans h,h2⟩
def iy{r:List St}:Gd t (s::r) sc tk k↔bC t sc tk s=0/\∃k1 k2,Gd t (r.take s.th.toNat) (aP s sc) (aP s tk) k1/\Gd t ((r.drop s.th.toNat).take s.el.toNat) (aP s sc) k1 k2/\Gd t (r.drop (s.th.toNat+s.el.toNat)) (aP s sc) k2 k:=by constructor;intro h;have⟨I,U⟩:=h 0;by_cases J:bC t sc tk s=0;by_cases h2:(aL t (r.take s.th.toNat) (0+1) (aP s sc) (aP s tk)).1=0;by_cases h3:(aL t ((r.drop s.th.toNat).take s.el.toNat) (0+1+s.th) (aP s sc) (aL t (r.take s.th.toNat) (0+1) (aP s sc) (aP s tk)).2.2).1=0;rw[ey J h2 rfl h3 rfl]at I U;have:=rK I;rw[U]at this;exact⟨J,_,_,rK h2,rK h3,this⟩;rw[fA J h2 rfl h3]at I;exact absurd I h3;rw[fy J h2]at I;exact absurd I h2;rw[eZ J]at I;exact absurd I J;rintro⟨J,k1,k2,I,U,g3⟩ a;have⟨Z,x2⟩:=I (a+1);have⟨y1,y2⟩:=U (a+1+s.th);rw[ey J Z x2.symm y1 y2.symm];exact g3 _
def Gd.up(h:Gd t ss sc tk k):∀x∈tk,x∈k:=λx hx=>by
 have:=sj t _ ss 0 sc tk n_ x hx
 rwa[(h 0).2]at this
def topN:Nat->List St->List Io
 | _,[]=>[]
 | 0,_::_=>[]
 | n+1,s::r=>aP s []++topN n (r.drop (s.th.toNat+s.el.toNat))
def n9(s:St)(h:List Io):aP s h=h++aP s []:=by unfold aP;split <;> simp
theorem DI{t:Tr}:∀(N:Nat) (x y:List St) (sc tk k1 k2:List Io),x.length<=N->bw x=true->Gd t x sc tk k1->Gd t y (sc++topN N x) k1 k2->Gd t (x++y) sc tk k2
 | 0,x,y,sc,tk,k1,k2,hl,hf,h1,h2=>by obtain rfl:x=[]:=J3 o_;obtain rfl:=jt.1 h1;simpa[topN]using h2
 | N+1,[],y,sc,tk,k1,k2,hl,hf,h1,h2=>by obtain rfl:=jt.1 h1;simpa[topN]using h2
 | N+1,s::r,y,sc,tk,k1,k2,hl,hf,h1,h2=>by rw[fitB_cons]at hf;simp only[J1,J2]at hf;obtain⟨⟨p1,p2,p3,p4⟩,f1,f2,f3⟩:=hf;simp only[l_c]at hl;obtain⟨e1,e2,e3,-⟩:=gQ (r:=r) (b:=y) (i:=s.th.toNat) (j:=s.el.toNat) o_;have⟨g0,q1,q2,g1,g2,g3⟩:=iy.1 h1;rw[cons_append];refine iy.2 ⟨g0,q1,q2,by rw[e1];exact g1,by rw[e2];exact g2,?_⟩;rw[e3];refine DI N _ y _ _ _ _ H6 f3 g3 ?_;rw[n9 s sc,append_assoc];exact h2
theorem zl{t:Tr}:∀(N:Nat) (x:List St) (sc tk k:List Io),Gd t x sc tk k->∀y∈topN N x,y∈k
 | _,[],sc,tk,k,h,y,hy=>by cases ‹Nat› <;> simp[topN]at hy
 | 0,s::r,sc,tk,k,h,y,hy=>by simp[topN]at hy
 | N+1,s::r,sc,tk,k,h,y,hy=>by
  have⟨g0,q1,q2,g1,g2,g3⟩:=iy.1 h;simp only[topN,J5]at hy;rcases hy with hy|hy
  exact g3.up y (g2.up y (g1.up y (by rw[n9];exact mem_append_right _ hy)));exact zl N _ _ _ _ g3 y hy
def DJ{gs:List Gl}{s:Io}{Ja:Bool}(h:dU gs sc s Ja=0)(J:∀x∈sc,x∈sc')(h2:∀x∈sc',globI gs x<0):dU gs sc' s Ja=0:=by
 by_cases hm:s∈sc;unfold dU at h⊢;rw[dI.2 hm]at h;rw[dI.2 (J s hm)];exact h;have Jb:s∉sc':=λhs=>by
  have:=h2 s hs
  unfold dU at h;have e:dF sc s=false:=(by cases hc:dF sc s;rfl;exact absurd (dI.1 hc) hm);rw[e]at h;simp only[Bool.false_eq_true,if_false,if_pos this]at h;cases h
 have e:dF sc s=false:=by cases hc:dF sc s;rfl;exact absurd (dI.1 hc) hm
 have I:dF sc' s=false:=by cases hc:dF sc' s;rfl;exact absurd (dI.1 hc) Jb
 unfold dU at h⊢;rw[e]at h;rw[I];exact h
def Iy(t:Tr)(s:St):Prop:=∀n,n∈s.e\/n∈s.f->n.kd=4->aO t [] n=0
def DK{e:List Nd}(h:∀n∈e,aO t sc n=0):bK t sc e=0:=oD λj hj=>h _ (g_ hj)
def Fs.kn(Z:t'.gl=t.gl)(h:Fs s r)(J:∀n,n∈s.e\/n∈s.f->aO t sc n=0)(U:∀x∈sc,x∈sc')(h2:∀x∈sc',globI t.gl x<0)(hc:Iy t' r):∀n,n∈r.e\/n∈r.f->aO t' sc' n=0:=by
 intro n hn;have Ja:(n∈s.e\/n∈s.f)\/n.kd=1\/n.kd=7:=by rcases hn with hn|hn;exact(h.e.from n hn).imp .inl id;rcases h.f with⟨-,I⟩|⟨-,-,I⟩;exact(I.from n hn).imp .inr id;rw[I]at hn;cases hn
 by_cases k4:n.kd=4
 have:=hc n hn k4
 unfold aO at this⊢;rw[if_neg o_,if_pos k4]at this⊢;exact this;rcases Ja with hs|hs
 have:=J n hs
 unfold aO at this⊢;by_cases k23:n.kd=2\/n.kd=3;rw[if_pos k23]at this⊢;rw[Z];exact DJ this U h2;rw[if_neg k23,if_neg k4];unfold aO;rw[if_neg o_,if_neg k4]
def FG(U:t'.gl=t.gl)(h:Fs s r){Ja:List Io}(I:bC t sc tk s=0)(J:∀x∈sc,x∈sc')(h2:∀x∈sc',globI t.gl x<0)(h3:∀x∈Ja,x∈tk)(hc:Iy t' r):bC t' sc' Ja r=0:=by
 unfold bC at I⊢;by_cases he:bK t sc (s.e++s.f)=0;simp only[he,ne_eq,not_true_eq_false,if_false]at I;have Z:=jT he;have hr:bK t' sc' (r.e++r.f)=0:=DK λn hn=>h.kn U (λm hm=>Z m (J5.2 hm)) J h2 hc n (J5.1 hn);simp only[hr,ne_eq,not_true_eq_false,if_false];rw[h.k,h.n,U];by_cases k1:s.kd=1
 rw[if_pos k1]at I⊢;by_cases hd:dF tk s.nm=true\/0<=globI t.gl s.nm;rw[if_pos hd]at I;cases I;rw[if_neg];rintro(hx|hx);exact hd (.inl (dI.2 (h3 _ (dI.1 hx))));exact hd (.inr hx);rw[if_neg k1]at I⊢;by_cases k23:s.kd=2\/s.kd=3;rw[if_pos k23]at I⊢;exact DJ I J h2;rw[if_neg k23];simp only[he,ne_eq,not_false_eq_true,if_true]at I
theorem Td.gd(hg:t'.gl=t.gl){Jb:List St}(h:Td ss Jb):∀sc tk k sc' tk':List Io,Gd t ss sc tk k->(∀x∈sc,x∈sc')->(∀x∈sc',x∈tk')->(∀x∈tk',x∈tk)->(∀x∈k,globI t.gl x<0)->(∀x∈Jb,Iy t' x)->∃k',Gd t' Jb sc' tk' k'/\∀x∈k',x∈k:=by
 induction h using Td_i with
 | nil=>
  intro sc tk k sc' tk' Z J h2 h3 h4 h5;obtain rfl:=jt.1 Z;exact⟨tk',jt.2 rfl,h3⟩
 | cons s s2 r a b q hs hl ha hb hq ia ib iq=>
  intro sc tk k sc' tk' Z J h2 h3 h4 h5;obtain⟨g0,k1,k2,g1,g2,g3⟩:=iy.1 Z;have Je:∀x∈tk,globI t.gl x<0:=λx hx=>h4 x (Z.up x hx);have I:∀x∈aV s2 a b,Iy t' x:=λx hx=>h5 x (by split;exact hx;exact mem_append_left _ hx);have Jc:∀x∈aP s sc,x∈aP s sc':=i8 J;have cl:∀ {l:List Io},(∀x∈l,x∈k)->∀x∈l,globI t.gl x<0:=λhl x hx=>h4 x (hl x hx);have u3:∀x∈k2,x∈k:=g3.up;have u2:∀x∈k1,x∈k:=λx hx=>u3 x (g2.up x hx);have u1:∀x∈aP s tk,x∈k:=λx hx=>u2 x (g1.up x hx);obtain⟨U,gM,Jd,Jf⟩:∃U,Gd t' (aV s2 a b) sc' tk' U/\(∀x∈U,x∈k2)/\∀x∈aP s sc,x∈sc'++topN (aV s2 a b).length (aV s2 a b):=by
   have Ja:(∀x∈({s2 with th:=a.length,el:=b.length}:St)::(a++b),Iy t' x)->∃U,Gd t' ({s2 with th:=(a.length:Int),el:=(b.length:Int)}::(a++b)) sc' tk' U/\(∀x∈U,x∈k2)/\∀x∈aP s sc,x∈sc'++topN (({s2 with th:=(a.length:Int),el:=(b.length:Int)}:St)::(a++b)).length ({s2 with th:=(a.length:Int),el:=(b.length:Int)}::(a++b)):=λhC=>by
    have e0:∀l,aP {s2 with th:=(a.length:Int),el:=(b.length:Int)} l=aP s l:=λl=>by unfold aP;simp only[hs.k,hs.n]
    obtain⟨e1,e2,e3⟩:=mh a b [];rw[append_nil]at e1 e2 e3;obtain⟨q1,w1,w2⟩:=ia (aP s sc) (aP s tk) k1 (aP s sc') (aP s tk') g1 Jc (i8 h2) (i8 h3) (cl u2) (λx hx=>hC x (m_ _ (mem_append_left _ hx)));obtain⟨q2,v1,v2⟩:=ib (aP s sc) k1 k2 (aP s sc') q1 g2 Jc (λx hx=>w1.up x (i8 h2 x hx)) w2 (cl u3) (λx hx=>hC x (m_ _ (mem_append_right _ hx)));refine⟨q2,iy.2 ⟨FG (r:= {s2 with th:=(a.length:Int),el:=(b.length:Int)}) hg ⟨hs.k,hs.n,hs.e,hs.f⟩ g0 J (λx hx=>Je x (h3 x (h2 x hx))) h3 (hC _ i_),q1,q2,?_,?_,?_⟩,v2,λx hx=>?_⟩
    ·simp only[Int.toNat_natCast];rw[e1,e0,e0];exact w1
    ·simp only[Int.toNat_natCast];rw[e2,e0];exact v1
    ·simp only[Int.toNat_natCast];rw[e3];exact jt.2 rfl
    ·simp only[l_c,topN,e0];rw[n9]at hx;rcases J5.1 hx with hx|hx
     ·exact mem_append_left _ (J x hx)
     ·exact mem_append_right _ (mem_append_left _ hx)
   have nd:s.kd≠1->aP s tk=tk/\aP s sc=sc:=λhk=>⟨fm hk _,fm hk _⟩;unfold aV at I⊢;by_cases h4k:s2.kd=4
   ·rw[if_pos h4k]at I⊢;obtain⟨n1,n2⟩:=nd (by rw[<-hs.k];omega);cases hi:dY s2.e with
    | none=>
     rw[hi]at I;dsimp only at I⊢;exact Ja I
    | some v=>
     rw[hi]at I;dsimp only at I⊢;by_cases hv:v=0
     ·rw[if_pos hv]at I⊢;obtain⟨q2,v1,v2⟩:=ib (aP s sc) k1 k2 sc' tk' g2 (by rw[n2];exact J) h2 (λx hx=>g1.up x (by rw[n1];exact h3 x hx)) (cl u3) I;exact⟨q2,v1,v2,λx hx=>mem_append_left _ (J x (by rw[n2]at hx;exact hx))⟩
     ·rw[if_neg hv]at I⊢;obtain⟨q2,v1,v2⟩:=ia (aP s sc) (aP s tk) k1 sc' tk' g1 (by rw[n2];exact J) h2 (by rw[n1];exact h3) (cl u2) I;exact⟨q2,v1,λx hx=>g2.up x (v2 x hx),λx hx=>mem_append_left _ (J x (by rw[n2]at hx;exact hx))⟩
   ·rw[if_neg h4k]at I⊢;by_cases h5k:s2.kd=5
    ·rw[if_pos h5k]at I⊢;obtain⟨n1,n2⟩:=nd (by rw[<-hs.k];omega);by_cases Z:dY s2.e=some 0
     ·rw[if_pos Z];exact⟨tk',jt.2 rfl,λx hx=>g2.up x (g1.up x (by rw[n1];exact h3 x hx)),λx hx=>mem_append_left _ (J x (by rw[n2]at hx;exact hx))⟩
     ·rw[if_neg Z]at I⊢;exact Ja I
    ·rw[if_neg h5k]at I⊢;exact Ja I
  split
  ·exact⟨U,gM,λx hx=>u3 x (Jd x hx)⟩
  ·rename_i hne;rw[if_neg hne]at h5;obtain⟨k',w1,w2⟩:=iq (aP s sc) k2 k (sc'++topN (aV s2 a b).length (aV s2 a b)) U g3 Jf (λx hx=>by
    rcases J5.1 hx with hx|hx
    ·exact gM.up x (h2 x hx)
    ·exact zl _ _ _ _ _ gM x hx) Jd h4 (λx hx=>h5 x (mem_append_right _ hx))
   exact⟨k',DI _ _ _ _ _ _ _ n_ (gU s2 ha.fit hb.fit) gM w1,w2⟩
end
section
variable{l:List (Io×Int)}{x:Io}{t t':Tr}{d n:Nat}{s z z':ES}{fr fr':List Int}
def vQ(p:Io×Int)(l:List (Io×Int))(x:Io):qN (p::l) x=if p.1=x then some 0 else(qN l x).map (· + 1):=by unfold qN;rw[findIdx?_cons];by_cases h:p.1=x <;> simp[h]
def lk_cons(p:Io×Int)(l:List (Io×Int))(x:Io):lk (p::l) x=if p.1=x then some p.2 else lk l x:=by unfold lk;rw[vQ];by_cases h:p.1=x;simp[h];simp only[h,if_false];cases qN l x <;> simp
theorem xU(a b:List (Io×Int))(x:Io):lk (a++b) x=(lk a x).or (lk b x):=by
 induction a with
 | nil=>simp[lk,qN]
 | cons p r ih=>rw[cons_append,lk_cons,lk_cons,ih];by_cases h:p.1=x <;> simp[h]
theorem pS:x∈l.map Prod.fst ↔ ∃v,lk l x=some v:=by
 induction l with
 | nil=>simp[lk,qN]
 | cons p r ih=>rw[map_cons,mem_cons,lk_cons];by_cases h:p.1=x;simp[h];simp only[h,if_false,ih];exact⟨λh1=>h1.elim (λe=>absurd e.symm h) id,.inr⟩
def tm{k:Nat}(h:x∈(l.take k).map Prod.fst):lk (l.take k) x=lk l x:=by have⟨v,I⟩:=pS.1 h;have:=xU (l.take k) (l.drop k) x;rw[take_append_drop,I]at this;rw[this,I];rfl
theorem xV:∀ {l:List (Io×Int)} {j:Nat} {x:Io} (v:Int) (y:Io),qN l x=some j->lk (l.set j (x,v)) y=if x=y then some v else lk l y
 | [],j,x,v,y,h=>by simp[qN]at h
 | p::r,j,x,v,y,h=>by
  rw[vQ]at h;by_cases hp:p.1=x;rw[if_pos hp]at h;cases h;rw[set_cons_zero,lk_cons,lk_cons];by_cases hy:x=y;simp[hy];simp[hy,hp];rw[if_neg hp]at h;cases hi:qN r x with
  | none=>rw[hi]at h;cases h
  | some i=>
   rw[hi]at h;cases h;rw[set_cons_succ,lk_cons,lk_cons,xV v y hi];by_cases hy:x=y
   have:p.1≠y:=λe=>hp (e.trans hy.symm)
   simp[hy,this];simp[hy]
def LS.wr(hg:t'.gl=t.gl)(h:LS t.gl d s z)(v:Int)(J:x∈s.l.map Prod.fst\/(x∉s.l.map Prod.fst/\globI t.gl x=0)):LS t.gl d (s.wr t x v) (z.wr t' x v):=by
 have n1:=(oL (t:=t) (s:=s) (x:=x) (v:=v)).2.2.1;have n2:=(oL (t:=t') (s:=z) (x:=x) (v:=v)).2.2.1;rcases J with J|⟨J,h0⟩;obtain⟨j,hj,I,-⟩:=nw.1 J;have hz:x∈z.l.map Prod.fst:=by have⟨u,hu⟩:=pS.1 J;exact pS.2 ⟨u,(h.l x J).trans hu⟩
 obtain⟨i,hi,e2,-⟩:=nw.1 hz;have Z:s.wr t x v={s with l:=s.l.set j (x,v)}:=by unfold ES.wr;rw[I]
 have U:z.wr t' x v={z with l:=z.l.set i (x,v)}:=by unfold ES.wr;rw[e2]
 rw[Z]at n1⊢;rw[U]at n2⊢;refine⟨h.g,h.i,h.o,h.u,λy hy=>?_,λy hy=>h.n y (by rw[<-n2];exact hy)⟩;show lk (z.l.set i (x,v)) y=lk (s.l.set j (x,v)) y;rw[xV v y e2,xV v y I,h.l y (by rw[<-n1];exact hy)];obtain⟨k,hk,I,-⟩:=hU (gs:=t.gl) (x:=x) o_;have hz:x∉z.l.map Prod.fst:=λhm=>by rw[h.n x hm]at I;cases I
 have Z:s.wr t x v={s with g:=s.g.set k ((s.g.getD k []).set 0 v)}:=by unfold ES.wr;rw[oM J,I]
 have U:z.wr t' x v={z with g:=z.g.set k ((z.g.getD k []).set 0 v)}:=by unfold ES.wr;rw[oM hz,hg,I]
 rw[Z,U];exact⟨by show z.g.set _ _=s.g.set _ _;rw[h.g],h.i,h.o,h.u,h.l,h.n⟩
def LS.st(I:t'.gl=t.gl)(h:LS t.gl d s z)(x:Io)(j:Nat)(v:Int):LS t.gl d (s.st t x j v) (z.st t' x j v):=by unfold ES.st;rw[I];split;exact⟨by show z.g.set _ _=s.g.set _ _;rw[h.g],h.i,h.o,h.u,h.l,h.n⟩;exact h
theorem DL{gs:List Gl}(U:∀g∈gs,0<=g.size)(h:globI gs x<0):i7 gs x=none:=by
 cases e:i7 gs x with
 | none=>rfl
 | some k=>
  unfold i7 at e;have⟨I,J,Ja⟩:=findIdx?_eq_some_iff_getElem.1 e;have:=tY (gs:=gs) (s:=x) I (λj hj=>by have:=Ja j hj;simpa using this) (IN J)
  have:=U _ (g_ I)
  omega
theorem xW{t:Tr}{fr:List Int}{y:List St}:∀(n:Nat) {x:List St} {z:ES} {r:ER} {z1:ES},bw x=true->Ev t fr n (.sq x) z r z1->(r ≠ .on->∃m,Ev t fr m (.sq (x++y)) z r z1)/\(r=.on->∀m r' z',Ev t fr m (.sq y) z1 r' z'->∃m',Ev t fr m' (.sq (x++y)) z r' z')
 | 0,x,z,r,z1,_,h=>by first | cases h using Ev_i | cases h
 | n+1,x,z,r,z1,hf,h=>by
  cases h using Ev_i with
  | nil n z=>exact⟨λh=>absurd rfl h,λ_ m r' z' h=>⟨m,h⟩⟩
  | sdry n s q z h1=>exact⟨λ_=>⟨1,.sdry 0 s _ z h1⟩,λh=>by cases h⟩
  | send n s q z r z' h1 h2 h3=>rw[fitB_cons]at hf;simp only[J1,J2]at hf;obtain⟨⟨p1,p2,p3,p4⟩,f1,f2,f3⟩:=hf;obtain⟨e1,e2,e3,-⟩:=gQ (r:=q) (b:=y) (i:=s.th.toNat) (j:=s.el.toNat) o_;refine⟨λ_=>⟨n+1,.send n s (q++y) z r z1 h1 (by rw[e1,e2];exact h2) h3⟩,λh=>absurd h h3⟩
  | next n s q z w r z' h1 h2 h3=>
   rw[fitB_cons]at hf;simp only[J1,J2]at hf;obtain⟨⟨p1,p2,p3,p4⟩,f1,f2,f3⟩:=hf;obtain⟨e1,e2,e3,-⟩:=gQ (r:=q) (b:=y) (i:=s.th.toNat) (j:=s.el.toNat) o_;have⟨i1,i2⟩:=xW (y:=y) n f3 h3;rw[<-e1,<-e2]at h2;refine⟨λhr=>?_,λhr m r' z' hy=>?_⟩
   have⟨m,hm⟩:=i1 hr;exact⟨max n m+1,.next _ s (q++y) z w r z1 h1 (h2.ups (Nat.le_max_left ..)) (by rw[e3];exact hm.ups (Nat.le_max_right ..))⟩
   have⟨m',hm⟩:=i2 hr m r' z' hy;exact⟨max n m'+1,.next _ s (q++y) z w r' z' h1 (h2.ups (Nat.le_max_left ..)) (by rw[e3];exact hm.ups (Nat.le_max_right ..))⟩
def Jn{s:St}{a b:List St}(h:Ev t fr n (.p s a b) z .on z'):s.kd≠6:=by cases h using Ev_i <;> omega
theorem zm{t:Tr}{fr:List Int}:∀(n:Nat) {x:List St} {z z':ES},ed x=true->¬Ev t fr n (.sq x) z .on z'
 | 0,x,z,z',he,h=>by first | cases h using Ev_i | cases h
 | n+1,x,z,z',he,h=>by
  cases h using Ev_i with
  | nil n z=>cases he
  | send n s q z r z' h1 h2 h3=>exact h3 rfl
  | next n s q z w r z' h1 h2 h3=>rw[ends_cons]at he;have:=Jn h2;simp[this]at he;exact zm n he h3
def Gs(r:ER):Prop:=r=.on\/∃v,r=.ret v
def mq(t t':Tr)(fr fr':List Int)(N:Nat)(s:St):Prop:=∀n,n∈s.e\/n∈s.f->n.kd=4->kq t t' fr fr' N n.nm
def mq.less{N M:Nat}{s:St}(h:mq t t' fr fr' N s)(hm:M<=N):mq t t' fr fr' M s:=λn hn hk f hf k hk'=>h n hn hk f hf k o_
def Rs(gs:List Gl)(r:ER)(d:Nat)(s z:ES)(k:List Io):Prop:=(r=.on/\LS gs d s z/\∀x∈z.l.map Prod.fst,x∈k)\/((∃v,r=.ret v)/\z.g=s.g/\z.i=s.i/\z.o=s.o/\s.u+d<=z.u)
structure Cx (t:Tr) (d:Nat) (s z:ES) (T:List Io):Prop where
 ok:OkW s
 oz:OkW z
 ls:LS t.gl d s z
 tk:∀x∈z.l.map Prod.fst,x∈T
 sc:∀x∈s.l.map Prod.fst,x∈T
def xX(t t':Tr)(fr fr':List Int)(n:Nat):Prop:=∀(ss out:List St) (k tk:List Io) (s:ES) (r:ER) (s':ES) (d:Nat) (z:ES),Td ss out->Gd t ss (s.l.map Prod.fst) tk k->(∀x∈k,globI t.gl x<0)->Ev t fr n (.sq ss) s r s'->Gs r->Cx t d s z tk->(∀x∈out,mq t t' fr fr' n x)->∃m z',Ev t' fr' m (.sq out) z r z'/\Rs t.gl r d s' z' k
def FH(t t':Tr)(fr fr':List Int)(n:Nat):Prop:=∀(ss out:List St) (k tk:List Io) (s:ES) (r:ER) (s':ES) (d:Nat) (z:ES),Td ss out->Gd t ss (s.l.map Prod.fst) tk k->(∀x∈k,globI t.gl x<0)->Ev t fr n (.bl ss) s r s'->Gs r->Cx t d s z tk->(∀x∈out,mq t t' fr fr' n x)->∃m z',Ev t' fr' m (.bl out) z r z'/\Rs t.gl r d s' z' tk
def Iz(t t':Tr)(fr fr':List Int)(n:Nat):Prop:=∀(s s2:St) (ta tb a b:List St) (k1 k2 tk:List Io) (u:ES) (r:ER) (u':ES) (d:Nat) (z:ES) (th el:Int),Fs s s2->Td ta a->Td tb b->bC t (u.l.map Prod.fst) tk s=0->Gd t ta (aP s (u.l.map Prod.fst)) (aP s tk) k1->Gd t tb (aP s (u.l.map Prod.fst)) k1 k2->(∀x∈k2,globI t.gl x<0)->Ev t fr n (.p s ta tb) u r u'->Gs r->Cx t d u z tk->mq t t' fr fr' n s2->(∀x∈a,mq t t' fr fr' n x)->(∀x∈b,mq t t' fr fr' n x) ->
 ∃m z',Ev t' fr' m (.p {s2 with th:=th,el:=el} a b) z r z'/\Rs t.gl r d u' z' (aP s tk)
theorem FI(h:xX t t' fr fr' n):FH t t' fr fr' (n+1):=by
 intro ss Jd k tk s r s' d z hT hG hk U hr I Jc;cases U using Ev_i with
 | blk n ss z r s1 h1=>
  have⟨m,J,e1,hR⟩:=h ss Jd k tk s r s1 d z hT hG hk h1 hr I (λx hx=>(Jc x hx).less o_);refine⟨m+1,_,.blk m Jd z r J e1,?_⟩;rcases hR with⟨rfl,Ja,-⟩|⟨hv,g1,g2,g3,g4⟩
  obtain⟨-,-,-,-,-,D,hD⟩:=h1.inv I.ok trivial;obtain⟨-,-,-,-,-,E,U⟩:=e1.inv I.oz trivial;have nD:(s1.l.take s.l.length).map Prod.fst=s.l.map Prod.fst:=(by rw[map_take,hD];simp);have Z:(J.l.take z.l.length).map Prod.fst=z.l.map Prod.fst:=(by rw[map_take,U];simp);refine .inl ⟨rfl,⟨Ja.g,Ja.i,Ja.o,Ja.u,λx hx=>?_,λx hx=>I.ls.n x (by rw[<-Z];exact hx)⟩,λx hx=>I.tk x (by rw[<-Z];exact hx)⟩;show lk (J.l.take z.l.length) x=lk (s1.l.take s.l.length) x;have Jb:x∈s.l.map Prod.fst:=(by rw[<-nD];exact hx);have Je:x∈z.l.map Prod.fst:=by have⟨u,hu⟩:=pS.1 Jb;exact pS.2 ⟨u,(I.ls.l x Jb).trans hu⟩
  rw[tm (by rw[Z];exact Je),tm (by rw[nD];exact Jb),Ja.l x (by rw[hD];exact mem_append_left _ Jb)];exact .inr ⟨hv,g1,g2,g3,g4⟩
end
section
variable{t t':Tr}{fr fr':List Int}{n:Nat}
def eK{c:Int}(h:Gs (.out c)):False:=by rcases h with h|⟨v,h⟩ <;> cases h
def iV(hg:t'.gl=t.gl){e J:List Nd}{u u1:ES}{v:Int}{d:Nat}{z:ES}{tk:List Io}(hF:Fd cJ e J)(Ja:∀x∈J,x.kd=4->kq t t' fr fr' n x.nm)(h:Ev t fr n (.e e) u (.val v) u1)(I:Cx t d u z tk)(hk:wB t (u.l.map Prod.fst) e):
  ∃m z1,Ev t' fr' m (.e J) z (.val v) z1/\Cx t d u1 z1 tk/\u1.l=u.l/\z1.l=z.l/\d7 v:=by
 have⟨m,z1,Z,l1,U⟩:=EZ hg n hF Ja n u v u1 d z n_ h I.ok hk I.ls;obtain⟨o1,v1,-,-,-,(s1:u1.l=u.l)⟩:=h.inv I.ok trivial;obtain⟨o2,-,-⟩:=Z.inv I.oz trivial;exact⟨m,z1,Z,⟨o1,o2,l1,by rw[U];exact I.tk,by rw[s1];exact I.sc⟩,s1,U,v1 v (.inl rfl)⟩
theorem Hy(hg:t'.gl=t.gl)(Js:∀g∈t.gl,0<=g.size)(hB:FH t t' fr fr' n)(hP:Iz t t' fr fr' n):Iz t t' fr fr' (n+1):=by
 intro s s2 ta tb a b k1 k2 tk u r u' d z th el hF Jh Jl hS Jc Jd hk hE hr hC Jb Jg Jn;have Ja:=nu hS hC.sc;obtain⟨s3,Jf⟩:∃s3:St,s3={s2 with th:=th,el:=el}:=⟨_,rfl⟩;rw[<-Jf];have Jr:=hF;have Je:=Jb;replace hF:Fs s s3:=by rw[Jf];exact⟨hF.k,hF.n,hF.e,hF.f⟩
 replace Jb:mq t t' fr fr' (n+1) s3:=by rw[Jf];exact Jb
 have ce:∀x∈s3.e,x.kd=4->kq t t' fr fr' n x.nm:=λx I h4=>Jb.less (Nat.le_succ n) x (.inl I) h4;have cf:∀x∈s3.f,x.kd=4->kq t t' fr fr' n x.nm:=λx I h4=>Jb.less (Nat.le_succ n) x (.inr I) h4;have Jm:∀x∈tk,x∈aP s tk:=λx I=>sh I;have Ji:s.kd≠1->aP s tk=tk/\aP s (u.l.map Prod.fst)=u.l.map Prod.fst:=λh=>⟨fm h _,fm h _⟩;have on:∀ {u1 U:ES},LS t.gl d u1 U->(∀x∈U.l.map Prod.fst,x∈tk)->Rs t.gl .on d u1 U (aP s tk):=λh1 h2=>.inl ⟨rfl,h1,λx I=>Jm x (h2 x I)⟩;have kd:=hF.k;have nm:=hF.n;cases hE using Ev_i with
 | pbad _ _ _ _ _ c _ h1=>exact(eK hr).elim
 | decl _ _ _ _ _ v u1 k1' h1=>
  have⟨m,U,Z,J,lu,lz,vb⟩:=iV hg hF.e ce h1 hC Ja.e;have:=Ev.decl (t:=t') (fr:=fr') m s3 a b z v U (kd.trans k1') Z;rw[nm]at this;refine⟨m+1,_,this,.inl ⟨rfl,⟨J.ls.g,J.ls.i,J.ls.o,J.ls.u,λx I=>?_,λx I=>?_⟩,λx I=>?_⟩⟩
  show lk (U.l++[(s.nm,v)]) x=lk (u1.l++[(s.nm,v)]) x;have⟨d1,d2⟩:=Ja.decl k1';rw[xU,xU];by_cases hm:x∈u1.l.map Prod.fst;rw[J.ls.l x hm];have Jo:x=s.nm:=by have I:x∈(u1.l++[(s.nm,v)]).map Prod.fst:=I;simp only[map_append,map_cons,map_nil,J5,J7]at I;exact I.resolve_left hm
  subst Jo;have hz:s.nm∉U.l.map Prod.fst:=λhz=>by have h0:=J.tk _ hz;unfold bC at hS;by_cases hne:bK t (u.l.map Prod.fst) (s.e++s.f)≠0;rw[if_pos hne]at hS;exact hne hS;rw[if_neg hne,if_pos k1',if_pos (.inl (dI.2 h0))]at hS;cases hS
  rw[yT hm,yT hz];have I:x∈(U.l++[(s.nm,v)]).map Prod.fst:=I;simp only[map_append,map_cons,map_nil,J5,J7]at I;rcases I with I|rfl;exact J.ls.n x I;exact DL Js (Ja.decl k1').2;have I:x∈(U.l++[(s.nm,v)]).map Prod.fst:=I;simp only[map_append,map_cons,map_nil,J5,J7]at I;rw[jR k1'];rcases I with I|rfl;exact mem_append_left _ (J.tk x I)
  simp
 | set _ _ _ _ _ v u1 k2' h1=>have⟨m,U,Z,J,lu,lz,vb⟩:=iV hg hF.e ce h1 hC Ja.e;have:=Ev.set (t:=t') (fr:=fr') m s3 a b z v U (kd.trans k2') Z;rw[nm]at this;refine⟨m+1,_,this,on (J.ls.wr hg v (by rw[lu];exact Ja.set k2')) (λx I=>?_)⟩;rw[(oL (t:=t') (s:=U) (x:=s.nm) (v:=v)).2.2.1]at I;exact J.tk x I
 | sbad _ _ _ _ _ v u1 c _ k3 h1 h2=>exact(eK hr).elim
 | smis _ _ _ _ _ v u1 x _ k3 h1 h2 h3=>exact(eK hr).elim
 | stor _ _ _ _ _ v u1 x u2 k3 h1 h2 h3=>
  rcases hF.f with⟨-,hf⟩|⟨hf,-⟩
  have⟨m,U,Z,J,lu,lz,vb⟩:=iV hg hF.e ce h1 hC Ja.e;have⟨m2,z2,e2,c2,Jv,Ju,Jt⟩:=iV hg hf cf h2 J (by rw[lu];exact Ja.f);have Jp:z2.ws t' s.nm=u2.ws t s.nm:=(by unfold ES.ws;rw[hg,c2.ls.g]);have:=Ev.stor (t:=t') (fr:=fr') (max m m2) s3 a b z v U x z2 (kd.trans k3) (Z.ups (Nat.le_max_left ..)) (e2.ups (Nat.le_max_right ..)) (by rw[nm,Jp];exact h3)
  rw[nm]at this;refine⟨_,_,this,on (c2.ls.st hg _ _ _) (λy hy=>?_)⟩;rw[(ue (t:=t') (s:=z2) (x:=s.nm) (j:=v.toNat) (v:=x)).2.2.1]at hy;exact c2.tk y hy;exact absurd k3 hf
 | ifth _ _ _ _ _ v u1 _ _ k4 h1 h2 h3=>have⟨m,U,Z,J,lu,lz,vb⟩:=iV hg hF.e ce h1 hC Ja.e;have⟨n1,n2⟩:=Ji o_;rw[n1,n2]at Jc;have⟨m2,z2,e2,hR⟩:=hB ta a k1 tk u1 r u' d U Jh (by rw[lu];exact Jc) (λx I=>hk x (Jd.up x I)) h3 hr J (λx I=>(Jg x I).less (Nat.le_succ n));exact⟨_,_,.ifth (max m m2) s3 a b z v U r z2 (kd.trans k4) (Z.ups (Nat.le_max_left ..)) h2 (e2.ups (Nat.le_max_right ..)),by rw[n1];exact hR⟩
 | ifel _ _ _ _ _ u1 _ _ k4 h1 h3=>
  have⟨m,U,Z,J,lu,lz,vb⟩:=iV hg hF.e ce h1 hC Ja.e;have⟨n1,n2⟩:=Ji o_;rw[n2]at Jd;have ht:∀x∈tk,x∈k1:=λx I=>Jc.up x (Jm x I);have⟨m2,z2,e2,hR⟩:=hB tb b k2 k1 u1 r u' d U Jl (by rw[lu];exact Jd) hk h3 hr ⟨J.ok,J.oz,J.ls,λx I=>ht x (J.tk x I),λx I=>ht x (J.sc x I)⟩ (λx I=>(Jn x I).less (Nat.le_succ n));refine⟨_,_,.ifel (max m m2) s3 a b z U r z2 (kd.trans k4) (Z.ups (Nat.le_max_left ..)) (e2.ups (Nat.le_max_right ..)),?_⟩;rw[n1];rcases hR with⟨rfl,q1,q2⟩|hR
  refine .inl ⟨rfl,q1,λx I=>?_⟩;obtain⟨-,-,-,-,-,(hn:z2.l.map Prod.fst=U.l.map Prod.fst)⟩:=e2.inv J.oz trivial;rw[hn]at I;exact J.tk x I;exact .inr hR
 | whno _ _ _ _ _ u1 k5 h1=>have⟨m,U,Z,J,lu,lz,vb⟩:=iV hg hF.e ce h1 hC Ja.e;exact⟨_,_,.whno m s3 a b z U (kd.trans k5) Z,on J.ls J.tk⟩
 | whn _ _ _ _ _ v u1 _ _ k5 h1 h2 h3 h4=>have⟨m,U,Z,J,lu,lz,vb⟩:=iV hg hF.e ce h1 hC Ja.e;have⟨n1,n2⟩:=Ji o_;rw[n1,n2]at Jc;have⟨m2,z2,e2,hR⟩:=hB ta a k1 tk u1 r u' d U Jh (by rw[lu];exact Jc) (λx I=>hk x (Jd.up x I)) h3 hr J (λx I=>(Jg x I).less (Nat.le_succ n));exact⟨_,_,.whn (max m m2) s3 a b z v U r z2 (kd.trans k5) (Z.ups (Nat.le_max_left ..)) h2 (e2.ups (Nat.le_max_right ..)) h4,by rw[n1];exact hR⟩
 | whdr _ _ _ _ _ v u1 _ k5 h1 h2 h3 h4=>exact(eK hr).elim
 | whag _ _ _ _ _ v u1 u2 _ _ k5 h1 h2 h3 h4 h5=>
  have⟨m,U,Z,J,lu,lz,vb⟩:=iV hg hF.e ce h1 hC Ja.e;have⟨n1,n2⟩:=Ji o_;have Jk:=Jc;rw[n1,n2]at Jc;have⟨m2,z2,e2,hR⟩:=hB ta a k1 tk u1 .on u2 d U Jh (by rw[lu];exact Jc) (λx I=>hk x (Jd.up x I)) h3 (.inl rfl) J (λx I=>(Jg x I).less (Nat.le_succ n));obtain⟨o2,-,-,-,-,(hn:u2.l.map Prod.fst=u1.l.map Prod.fst)⟩:=h3.inv J.ok trivial;obtain⟨p2,-,-,-,-,(hm:z2.l.map Prod.fst=U.l.map Prod.fst)⟩:=e2.inv J.oz trivial;rcases hR with⟨-,q1,q2⟩|⟨⟨v,hv⟩,-⟩
  have Jj:u2.sp.l.map Prod.fst=u.l.map Prod.fst:=(by show u2.l.map Prod.fst=_;rw[hn,lu]);have⟨m3,z3,e3,Jq⟩:=hP s s2 ta tb a b k1 k2 tk u2.sp r u' d z2.sp th el Jr Jh Jl (by rw[Jj];exact hS) (by rw[Jj];exact Jk) (by rw[Jj];exact Jd) hk h5 hr ⟨⟨o2.g,o2.l,o2.i⟩,⟨p2.g,p2.l,p2.i⟩,q1.sp h4,λx I=>J.tk x (by rw[<-hm];exact I),λx I=>hC.sc x (by rw[<-Jj];exact I)⟩ (Je.less (Nat.le_succ n)) (λx I=>(Jg x I).less (Nat.le_succ n)) (λx I=>(Jn x I).less (Nat.le_succ n));rw[<-Jf]at e3;exact⟨_,_,.whag (max m (max m2 m3)) s3 a b z v U z2 r z3 (kd.trans k5) (Z.ups (Nat.le_max_left ..)) h2 (e2.ups o_) (q1.pos h4) (e3.ups o_),Jq⟩;cases hv
 | retn _ _ _ _ _ v u1 k6 h1=>have⟨m,U,Z,J,lu,lz,vb⟩:=iV hg hF.e ce h1 hC Ja.e;exact⟨_,_,.retn m s3 a b z v U (kd.trans k6) Z,.inr ⟨⟨v,rfl⟩,J.ls.g,J.ls.i,J.ls.o,J.ls.u⟩⟩
 | tell _ _ _ _ _ v u1 k7 h1=>have⟨m,U,Z,J,lu,lz,vb⟩:=iV hg hF.e ce h1 hC Ja.e;exact⟨_,_,.tell m s3 a b z v U (kd.trans k7) Z,on ⟨J.ls.g,J.ls.i,by show U.o++[v]=u1.o++[v];rw[J.ls.o],J.ls.u,J.ls.l,J.ls.n⟩ J.tk⟩
 | only _ _ _ _ _ v u1 k8 h1=>have⟨m,U,Z,J,lu,lz,vb⟩:=iV hg hF.e ce h1 hC Ja.e;exact⟨_,_,.only m s3 a b z v U (kd.trans k8) Z,on J.ls J.tk⟩
end
section
variable{t t':Tr}{fr fr':List Int}{z s:ES}{n d:Nat}{k:List Io}{r:ER}
theorem zo{t:Tr}{fr:List Int}:∀(n:Nat) {s:St} {a b:List St} {z z':ES},Ev t fr n (.p s a b) z .on z'->OkW z->z'.l.map Prod.fst=aP s (z.l.map Prod.fst)
 | 0,_,_,_,_,_,h,_=>by first | cases h using Ev_i | cases h
 | n+1,s,a,b,z,z',h,ho=>by
  have key:∀ {e z0 r z1},Ev t fr n (.e e) z0 r z1->OkW z0->OkW z1/\z1.l=z0.l:=λh1 h2=>by obtain⟨o1,-,-,-,-,s1⟩:=h1.inv h2 trivial;exact⟨o1,s1⟩
  have keyb:∀ {ss z1 r z2},Ev t fr n (.bl ss) z1 r z2->OkW z1->OkW z2/\z2.l.map Prod.fst=z1.l.map Prod.fst:=λh1 h2=>by obtain⟨o1,-,-,-,-,s1⟩:=h1.inv h2 trivial;exact⟨o1,s1⟩
  have no:s.kd≠1->aP s (z.l.map Prod.fst)=z.l.map Prod.fst:=λh=>fm h _;cases h using Ev_i with
  | decl _ _ _ _ _ v z1 k h1=>rw[jR k];show(z1.l++[(s.nm,v)]).map Prod.fst=_;rw[(key h1 ho).2];simp
  | set _ _ _ _ _ v z1 k h1=>rw[no o_,(oL (t:=t) (s:=z1) (x:=s.nm) (v:=v)).2.2.1,(key h1 ho).2]
  | stor _ _ _ _ _ v z1 x z2 k h1 h2 h3=>have⟨o1,l1⟩:=key h1 ho;rw[no o_,(ue (t:=t) (s:=z2) (x:=s.nm) (j:=v.toNat) (v:=x)).2.2.1,(key h2 o1).2,l1]
  | ifth _ _ _ _ _ v z1 _ _ k h1 h2 h3=>have⟨o1,l1⟩:=key h1 ho;rw[no o_,(keyb h3 o1).2,l1]
  | ifel _ _ _ _ _ z1 _ _ k h1 h3=>have⟨o1,l1⟩:=key h1 ho;rw[no o_,(keyb h3 o1).2,l1]
  | whno _ _ _ _ _ _ k h1=>rw[no o_,(key h1 ho).2]
  | whn _ _ _ _ _ v z1 _ _ k h1 h2 h3 h4=>exact absurd rfl h4
  | whag _ _ _ _ _ v z1 z2 _ _ k h1 h2 h3 h4 h5=>have⟨o1,l1⟩:=key h1 ho;have⟨o2,l2⟩:=keyb h3 o1;rw[zo n h5 ⟨o2.g,o2.l,o2.i⟩];show aP s (z2.l.map Prod.fst)=_;rw[l2,l1]
  | tell _ _ _ _ _ v z1 k h1=>rw[no o_];show z1.l.map Prod.fst=_;rw[(key h1 ho).2]
  | only _ _ _ _ _ v z1 k h1=>rw[no o_,(key h1 ho).2]
theorem zp(h:∀k,k<=n->xX t t' fr fr' k){ss Jb:List St}{tk:List Io}{s':ES}(hT:Td ss Jb)(hG:Gd t ss (s.l.map Prod.fst) tk k)(hk:∀x∈k,globI t.gl x<0)(hE:Ev t fr n (.bl ss) s r s')(hr:Gs r)(Z:Cx t d s z tk)(Jc:∀x∈Jb,mq t t' fr fr' n x):
  ∃m z',Ev t' fr' m (.sq Jb) z r z'/\Rs t.gl r d s' z' k:=by
 cases hE using Ev_i with
 | blk n ss z r s1 h1=>
  have⟨m,J,e1,hR⟩:=h n o_ ss Jb k tk s r s1 d z hT hG hk h1 hr Z (λx I=>(Jc x I).less o_);refine⟨m,J,e1,?_⟩;rcases hR with⟨rfl,Ja,hn⟩|⟨hv,g1,g2,g3,g4⟩
  obtain⟨-,-,-,-,-,D,U⟩:=h1.inv Z.ok trivial;have nD:(s1.l.take s.l.length).map Prod.fst=s.l.map Prod.fst:=(by rw[map_take,U];simp);refine .inl ⟨rfl,⟨Ja.g,Ja.i,Ja.o,Ja.u,λx I=>?_,Ja.n⟩,hn⟩;show lk J.l x=lk (s1.l.take s.l.length) x;have I:x∈(s1.l.take s.l.length).map Prod.fst:=I;rw[tm I,Ja.l x (by rw[U,<-nD];exact mem_append_left _ I)];exact .inr ⟨hv,g1,g2,g3,g4⟩
def Rs.less{gs:List Gl}{c:Nat}{J:List Io}(h:Rs gs r d s z k)(Z:c<=d)(U:∀x∈k,x∈J):Rs gs r c s z J:=by rcases h with⟨I,h2,h3⟩|⟨I,h2,h3,h4,h5⟩;exact .inl ⟨I,h2.less Z,λx hx=>U x (h3 x hx)⟩;exact .inr ⟨I,h2,h3,h4,o_⟩
theorem Bb(hg:t'.gl=t.gl)(Jj:∀k,k<=n->xX t t' fr fr' k)(hP:Iz t t' fr fr' n)
  {s s2:St} {ta tb a b:List St} {k1 k2 tk:List Io} {u:ES} {r:ER} {u':ES} {d:Nat} {z:ES} (hF:Fs s s2) (Jk:Td ta a) (Ji:Td tb b) (hS:bC t (u.l.map Prod.fst) tk s=0) (Jb:Gd t ta (aP s (u.l.map Prod.fst)) (aP s tk) k1) (Jc:Gd t tb (aP s (u.l.map Prod.fst)) k1 k2) (hk:∀x∈k2,globI t.gl x<0)
  (hu:0<u.u) (hE:Ev t fr n (.p s ta tb) u.sp r u') (hr:Gs r) (I:Cx t d u z tk) (Z:∀x∈aV s2 a b,mq t t' fr fr' n x):∃m z',Ev t' fr' m (.sq (aV s2 a b)) z r z'/\Rs t.gl r d u' z' k2:=by
 have Jl:=nu hS I.sc;have Jn:∀x∈tk,x∈aP s tk:=λx hx=>sh hx;have Jm:Cx t d u.sp z.sp tk:=⟨⟨I.ok.g,I.ok.l,I.ok.i⟩,⟨I.oz.g,I.oz.l,I.oz.i⟩,I.ls.sp hu,I.tk,I.sc⟩;have Jo:Cx t (d+1) u.sp z tk:=⟨⟨I.ok.g,I.ok.l,I.ok.i⟩,I.oz,I.ls.sl hu,I.tk,I.sc⟩;have Je:=I.ls.pos hu;have Ja:(∀x∈({s2 with th:=a.length,el:=b.length}:St)::(a++b),mq t t' fr fr' n x)->∃m z',Ev t' fr' m (.sq ({s2 with th:=(a.length:Int),el:=(b.length:Int)}::(a++b))) z r z'/\Rs t.gl r d u' z' k2:=λhA=>by
  have⟨e1,e2,e3⟩:=mh a b [];rw[append_nil]at e1 e2 e3;have⟨m,z1,J,hR⟩:=hP s s2 ta tb a b k1 k2 tk u.sp r u' d z.sp a.length b.length hF Jk Ji hS Jb Jc hk hE hr Jm (λx hx=>hA {s2 with th:=(a.length:Int),el:=(b.length:Int)} mem_cons_self x hx) (λx hx=>hA x (m_ _ (mem_append_left _ hx))) (λx hx=>hA x (m_ _ (mem_append_right _ hx)));have Jg:Rs t.gl r d u' z1 k2:=hR.less n_ (λx hx=>Jc.up x (Jb.up x hx));have Jh:(a++b).take ({s2 with th:=(a.length:Int),el:=(b.length:Int)}:St).th.toNat=a:=by simp only[Int.toNat_natCast];exact e1
  have Jf:((a++b).drop ({s2 with th:=(a.length:Int),el:=(b.length:Int)}:St).th.toNat).take ({s2 with th:=(a.length:Int),el:=(b.length:Int)}:St).el.toNat=b:=by simp only[Int.toNat_natCast];exact e2
  have Jp:(a++b).drop (({s2 with th:=(a.length:Int),el:=(b.length:Int)}:St).th.toNat+({s2 with th:=(a.length:Int),el:=(b.length:Int)}:St).el.toNat)=[]:=by simp only[Int.toNat_natCast];exact e3
  rcases hr with rfl|⟨v,rfl⟩;exact⟨m+1+1,z1,.next (m+1) _ (a++b) z z1 .on z1 Je (by rw[Jh,Jf];exact J.up) (by rw[Jp];exact .nil m z1),Jg⟩;exact⟨m+1,z1,.send m _ (a++b) z (.ret v) z1 Je (by rw[Jh,Jf];exact J) (by intro h;cases h),Jg⟩
 have Jd:∀ {n':Nat} {v w:Int} {U:ES},n'<=n->dY s2.e=some v->Ev t fr n' (.e s.e) u.sp (.val w) U->w=v/\Cx t (d+2) U z tk/\U.l=u.l:=λ{n' v w U} hn hi he=>by have⟨m,z1,e1,c1,lu,lz,vb⟩:=iV (fr':=fr') hg (n:=n') hF.e (λx hx h4=>Ka (sK hi x hx)) he Jo Jl.e;obtain⟨rfl,rfl,h0⟩:=j7 hi e1;exact⟨rfl,⟨c1.ok,I.oz,c1.ls.back h0,I.tk,by rw[lu];exact I.sc⟩,lu⟩
 cases n with
 | zero=>first | cases hE using Ev_i | cases hE
 | succ n=>
 unfold aV at Z⊢;by_cases h4k:s2.kd=4;rw[if_pos h4k]at Z⊢;have k4:s.kd=4:=by rw[<-hF.k];exact h4k
 have n1:aP s tk=tk:=fm o_ _;have n2:aP s (u.l.map Prod.fst)=u.l.map Prod.fst:=fm o_ _;rw[n2]at Jb Jc;rw[n1]at Jb;cases hi:dY s2.e with
 | none=>rw[hi]at Z;dsimp only at Z⊢;exact Ja Z
 | some v=>
  rw[hi]at Z;dsimp only at Z⊢;have go:(∃w U,w≠0/\Ev t fr n (.e s.e) u.sp (.val w) U/\Ev t fr n (.bl ta) U r u')\/(∃U,Ev t fr n (.e s.e) u.sp (.val 0) U/\Ev t fr n (.bl tb) U r u'):=by
   cases hE using Ev_i with
   | pbad _ _ _ _ _ c _ J=>exact(eK hr).elim
   | ifth _ _ _ _ _ w U _ _ k J h2 h3=>exact .inl ⟨w,U,h2,J,h3⟩
   | ifel _ _ _ _ _ U _ _ k J h3=>exact .inr ⟨U,J,h3⟩
   | sbad=>exact(eK hr).elim
   | smis=>exact(eK hr).elim
   | whdr=>exact(eK hr).elim
   | _=>omega
  rcases go with⟨w,U,hw,J,h3⟩|⟨U,J,h3⟩;obtain⟨rfl,c2,lu⟩:=Jd (Nat.le_succ n) hi J;rw[if_neg hw]at Z⊢;have⟨m,z',e1,hR⟩:=zp (λk hk=>Jj k o_) Jk (by rw[lu];exact Jb) (λx hx=>hk x (Jc.up x hx)) h3 hr c2 (λx hx=>(Z x hx).less (Nat.le_succ n));exact⟨m,z',e1,hR.less o_ Jc.up⟩;obtain⟨rfl,c2,lu⟩:=Jd (Nat.le_succ n) hi J;rw[if_pos rfl]at Z⊢;have ht:∀x∈tk,x∈k1:=Jb.up;have⟨m,z',e1,hR⟩:=zp (λk hk=>Jj k o_) Ji (tk:=k1) (by rw[lu];exact Jc) hk h3 hr ⟨c2.ok,c2.oz,c2.ls,λx hx=>ht x (c2.tk x hx),λx hx=>ht x (c2.sc x hx)⟩ (λx hx=>(Z x hx).less (Nat.le_succ n));exact⟨m,z',e1,hR.less o_ (λx hx=>hx)⟩
 rw[if_neg h4k]at Z⊢;by_cases h5k:s2.kd=5;rw[if_pos h5k]at Z⊢;have k5:s.kd=5:=(by rw[<-hF.k];exact h5k);by_cases h0:dY s2.e=some 0;rw[if_pos h0];have go:r=.on/\Ev t fr n (.e s.e) u.sp (.val 0) u':=by
  cases hE using Ev_i with
  | pbad _ _ _ _ _ c _ J=>exact(eK hr).elim
  | whno _ _ _ _ _ _ k J=>exact⟨rfl,J⟩
  | whn _ _ _ _ _ w U _ _ k J h2 h3 h4=>exact absurd (Jd (Nat.le_succ n) h0 J).1 h2
  | whag _ _ _ _ _ w U _ _ _ k J h2 h3 h4 h5=>exact absurd (Jd (Nat.le_succ n) h0 J).1 h2
  | sbad=>exact(eK hr).elim
  | smis=>exact(eK hr).elim
  | whdr=>exact(eK hr).elim
  | _=>omega
 obtain⟨rfl,J⟩:=go;obtain⟨-,c2,lu⟩:=Jd (Nat.le_succ n) h0 J;exact⟨1,z,.nil 0 z,.inl ⟨rfl,c2.ls.less o_,λx hx=>Jc.up x (Jb.up x (Jn x (I.tk x hx)))⟩⟩;rw[if_neg h0]at Z⊢;exact Ja Z;rw[if_neg h5k]at Z⊢;exact Ja Z
theorem FJ(hg:t'.gl=t.gl)(Jh:∀k,k<=n->xX t t' fr fr' k)(hP:Iz t t' fr fr' n):xX t t' fr fr' (n+1):=by
 intro ss Jm k tk u r u' d z hT hG hk hE J h Ja;cases hT using Td_i with
 | nil=>
  cases hE using Ev_i with
  | nil n z=>
   obtain rfl:=jt.1 hG;exact⟨1,z,.nil 0 z,.inl ⟨rfl,h.ls,h.tk⟩⟩
 | cons s s2 q a b q2 hF hl hTa hTb hTq=>
  obtain⟨g0,k1,k2,g1,g2,g3⟩:=iy.1 hG;have Ji:∀x∈k2,globI t.gl x<0:=λx hx=>hk x (g3.up x hx);have Jb:bw (aV s2 a b)=true:=gU s2 hTa.fit hTb.fit;have Jj:∀x∈aV s2 a b,mq t t' fr fr' n x:=λx hx=>(Ja x (by split;exact hx;exact mem_append_left _ hx)).less (Nat.le_succ n);have Je:∀ {r u1},0<u.u->Ev t fr n (.p s (q.take s.th.toNat) ((q.drop s.th.toNat).take s.el.toNat)) u.sp r u1->Gs r->∃m z',Ev t' fr' m (.sq (aV s2 a b)) z r z'/\Rs t.gl r d u1 z' k2:=λhu h1 J=>Bb hg Jh hP hF hTa hTb g0 g1 g2 Ji hu h1 J h Jj;cases hE using Ev_i with
  | sdry n s q z h1=>exact(eK J).elim
  | send n s q z r z' h1 h2 h3=>
   obtain⟨m,z',I,hR⟩:=Je h1 h2 J;have Jd:=hR.less (Nat.le_refl d) g3.up;split
   ·exact⟨m,z',I,Jd⟩
   ·obtain⟨U,Z⟩:=(xW (y:=q2) m Jb I).1 h3;exact⟨U,z',Z,Jd⟩
  | next n s q z w r z' h1 h2 h3=>
   obtain⟨m,z1,I,hR⟩:=Je h1 h2 (.inl rfl);rcases hR with⟨-,Jk,hn⟩|⟨⟨v,hv⟩,-⟩
   ·have Jf:OkW u.sp:=⟨h.ok.g,h.ok.l,h.ok.i⟩;have Jc:w.l.map Prod.fst=aP s (u.sp.l.map Prod.fst):=zo n h2 Jf;have Jg:w.l.map Prod.fst=aP s (u.l.map Prod.fst):=Jc;obtain⟨ow,-⟩:=h2.inv Jf trivial;obtain⟨oz,-⟩:=I.inv h.oz trivial;split
    ·rename_i he;exact absurd I (zm m he)
    ·rename_i he;rw[if_neg he]at Ja;obtain⟨U,z2,Z,Jl⟩:=Jh n (Nat.le_refl n) _ q2 k k2 w r u' d z1 hTq (by rw[Jg];exact g3) hk h3 J ⟨ow,oz,Jk,hn,λx hx=>by
      rw[Jg]at hx;exact g2.up x (g1.up x (i8 h.sc x hx))⟩ (λx hx=>(Ja x (mem_append_right _ hx)).less (Nat.le_succ n))
     obtain⟨m3,e3⟩:=(xW (y:=q2) m Jb I).2 rfl U r z2 Z;exact⟨m3,z2,e3,Jl⟩
   ·cases hv
theorem FK(U:t'.gl=t.gl)(Jb:∀g∈t.gl,0<=g.size):∀n,xX t t' fr fr' n/\FH t t' fr fr' n/\Iz t t' fr fr' n:=by
 have Ja:∀n,∀k,k<=n->xX t t' fr fr' k/\FH t t' fr fr' k/\Iz t t' fr fr' k:=by
  intro n;induction n with
  | zero=>
   intro k I;obtain rfl:k=0:=(by omega);exact⟨(λss out k tk s r s' d z _ _ _ h=>by cases h using Ev_i),(λss out k tk s r s' d z _ _ _ h=>by cases h using Ev_i),(λs s2 ta tb a b k1 k2 tk u r u' d z th el _ _ _ _ _ _ _ h=>by cases h using Ev_i)⟩
  | succ n ih=>
   intro k I;by_cases e:k=n+1
   ·subst e;obtain⟨Z,i2,J⟩:=ih n (Nat.le_refl n);exact⟨FJ U (λk I=>(ih k I).1) J,FI Z,Hy U Jb i2 J⟩
   ·exact ih k o_
 exact λn=>Ja n n (Nat.le_refl n)
end
end
section
open Go.Proofs.Tryz Go.RowKit
variable{Q:List FV}{B m i:Nat}{w:AT}{gs:List Gl}{fs:List Fu}
theorem Eq{I:List FV}(h:Q.Sublist I):(kz Q).Sublist (kz I):=by
 induction h with
 | slnil=>exact List.Sublist.refl _
 | cons a h ih=>exact ih.trans (sublist_append_right (qo a) _)
 | cons_cons a h ih=>exact(List.Sublist.refl (qo a)).append ih
def cV.at{g c:Nat}(h:cV B w (rV g Q.length c) Q)(j:Nat)(I:j<Q.length):w.cell? ⟨g,j*3,none⟩=some (sV Q[j].f.nm)/\w.cell? ⟨g,j*3+1,none⟩=some Q[j].vp/\w.cell? ⟨g,j*3+2,none⟩=some Q[j].vb:=by
 have Ja:∀i,i<3->w.cell? ⟨g,j*3+i,none⟩=(aX Q[j])[i]? := λi hi=>by have J:(bD Q).length=Q.length*3:=fC Q;rw[ownsRow.cellAt h.row (j*3+i) o_,fD Q j i I hi]
 exact⟨Ja 0 o_,Ja 1 o_,Ja 2 o_⟩
def qq.slices{q:FV}(h:qq B w q):(∃a n c,q.vp=.slice a n c)/\∃a n c,q.vb=.slice a n c:=by obtain⟨a,c,J,-⟩:=h.ps.slice;obtain⟨I,c',h2,-⟩:=h.bd.row.slice;exact⟨⟨a,_,c,J⟩,⟨I,_,c',h2⟩⟩
def BB(h:i=m\/iD ⟨gs,fs⟩ m i):cd gs fs m i=true:=by exact @decide_eq_true _ (pdQ _) h
def Er(h:¬(i=m\/iD ⟨gs,fs⟩ m i)):cd gs fs m i=false:=by exact @decide_eq_false _ (pdQ _) h
theorem nl(gs:List Gl)(Q:List FV)(m B:Nat)(vg vf:BY)(w:AT)(hm:a_ (Q.map (·.f)) dt=some m)(hl:Q.length<=1000)(Xj:∀q∈Q,Gj q.f)(hg:∃a n c,vg=.slice a n c)(I:cV B w vf Q)(hB:B<=w.heap.size):
  Calls prog 18 #[.agg #[vg,vf]] w λe w'=>∃v,e=rW v/\cV B w' v (aY (cd gs (Q.map (·.f)) m) Q Q.length)/\Bl w w':=by
 obtain⟨Z,U,cg,rfl⟩:=hg;have HQ:=ah I;have Xd:Hid (bj w vf (Q.map (·.f))):=I.fc;obtain⟨af,J,rfl⟩:=I.shape;have HM:=ah hm;have Xz:m<Q.length:=by simpa using dE hm
 have HW:Hid (wJ (Q.map (·.f))):=⟨by simp;omega,λf I=>by obtain⟨q,hq,rfl⟩:=List.mem_map.1 I;exact(Xj q hq).wf⟩;have Xt:Hid (∀f∈Q.map (·.f),fk f):=λf I=>by obtain⟨q,hq,rfl⟩:=List.mem_map.1 I;exact(Xj q hq).small
 obtain⟨g,rfl⟩:∃g,af=some ⟨g,0,none⟩:=by rcases I.row.2 with⟨h,-⟩|⟨g,Yl,Yg,h,-⟩;simp only[Value.slice.injEq]at h;omega;simp only[Value.slice.injEq]at h;exact⟨g,h.1⟩
 have Yi:g<w.heap.size:=(World.ownsRow.lt I.row g rfl).2;clear I hm Xj;have⟨P,hP⟩:=q_ (cd gs (Q.map (λq:FV=>q.f)) m);have HP:=ah hP;rw[<-hP];clear hP;go_in;go_wp2_with fail;have hA:Bl w (w.alloc (.cells #[.slice Z U cg,rV g Q.length J] 26)):=ao _ _;have Ji:(Q.map (·.f)).length=Q.length:=J8 _;have Xn:Hid (Calls prog 41 #[.agg #[.slice Z U cg,rV g Q.length J]] (w.alloc (.cells #[.slice Z U cg,rV g Q.length J] 26)) λe w'=>∃b D,e=rW (.map (some b))/\(w.alloc (.cells #[.slice Z U cg,rV g Q.length J] 26)).heap.size<=b/\w'.ownsMap prog 9 (plainElem (H:=Unit) prog 2) b (Q.map (·.f)).length D/\dj D (Q.map (·.f))/\Below (w.alloc (.cells #[.slice Z U cg,rV g Q.length J] 26)).heap.size (w.alloc (.cells #[.slice Z U cg,rV g Q.length J] 26)) w'):=j6 (Q.map (λq:FV=>q.f)) _ _ _ (by rw[Ji];omega) HW.out (Xd.out.below hA);refine Xn.out.mono ?_;rintro e w1 ⟨bn,D,rfl,Yd,Jc,hN,Ja⟩;simp only[Bl,J9]at Ja Yd;have⟨x0,x1⟩:=jc Ja;have Je:∀W:AT,W=w1->(Instr.lookup 67 (.map (some bn)) (sV dt) false).run prog W=.ok (V (m:Int)) W:=λW h=>by subst h;exact rC Jc hN d_ HM
 have Jb:=Je w1 rfl;have Jq:Bl w w1:=aw Ja;have Jg:=Ja.size;simp only[Bl,J9]at Jg;clear Jc hN Xn Je;unfold dt at Jb;have Xm:Hid (∀W,Bl w W->Calls prog 43 #[.agg #[.slice Z U cg,rV g Q.length J]] W λe w'=>∃v,e=rW v/\pG w' v (Q.map (λq:FV=>q.f))/\Bl W w'):=λW hW=>rB (Q.map (λq:FV=>q.f)) _ _ W (by rw[Ji];omega) ⟨_,_,_,rfl⟩ HW.out Xt.out (Xd.out.below hW);have Xs:Hid (∀W v,pG W v (Q.map (λq:FV=>q.f))->Calls prog 42 #[v,V (m:Int)] W λe w'=>∃v out,e=rW v/\gg W.heap.size w' v Q.length out/\(∀g,g∈out↔iD ⟨gs,Q.map (λq:FV=>q.f)⟩ m g)/\Bl W w'):=λW v hv=>by
  have:=jK ⟨gs,Q.map (λq:FV=>q.f)⟩ v m W (by rw[Ji];exact Xz) (by rw[Ji];exact hl) hv
  simp only[Ji]at this;exact this
 have Ye:=ah Ji;clear Ji hA;go_wp2_with fail;refine(Xm.out w1 Jq).mono ?_;rintro e w2 ⟨Yh,rfl,Xg,Js⟩;obtain⟨G,X_,rfl,-⟩:=id Xg;have Xq:=ah Xg;rw[Ye.out]at Xq⊢;clear Xg;have Jz:Bl w w2:=Jq.trans (Js.mono Jq.size);clear Jb x0 x1;have Xo:Below (w.heap.size+1) (w.alloc (.cells #[.slice Z U cg,rV g Q.length J] 26)) w2:=Ja.trans (Js.mono Jg);go_wp2_with fail;refine(Xs.out w2 _ Xq).mono ?_;rintro e w3 ⟨vr,out,rfl,Jw,Jj,Xb⟩;obtain⟨g3,c3,rfl,-,Yk⟩:=Jw.form o_;have Jk:Bl w w3:=Jz.trans (Xb.mono Jz.size);have Xi:Below (w.heap.size+1) (w.alloc (.cells #[.slice Z U cg,rV g Q.length J] 26)) w3:=Xo.trans (Xb.mono (Ka Js.size));have Ya:=ah Jw;have Jm:=ah Jj;have⟨x0,x1⟩:=jc Xi;clear Js Xb Jw Jj Xo Jz Jq Ja Xm Xs Xd HW Xt Jg;go_wp2_with fail;have Ym:=Jk.size;go_loopw[5,18] (λnv i wr=>∃k:Nat,k<=Q.length/\i=V k/\cV B wr nv (aY P Q k)/\(∀g,nv.ownBlock=some g->w3.heap.size<=g)/\Bl w3 wr) (λ_ i _=>Q.length-(RowKit.intOf i).toNat)
 case atStart=>exact⟨0,y_,rfl,cV.nil _ _,λg hg=>by simp[Value.ownBlock]at hg,r_⟩
 case round=>
  obtain⟨k,hk,rfl,Jh,Jc,Jd⟩:=hrel;obtain⟨av,cv,rfl⟩:=Jh.shape;have Jf:=ah Jh;have Jp:=ah Jc;have Xc:Bl w wr:=Jk.trans (Jd.mono Jk.size);have Yj:=Jd.size;clear Jh Jc;obtain⟨ll,Xf⟩:∃ll,(aY P Q k).length=ll:=⟨_,rfl⟩;rw[Xf]at Jf Jp⊢;have Xk:=ah Xf;clear Xf;by_cases hlt:k<Q.length
  ·have⟨c0,c1,c2⟩:=(HQ.out.below Xc).at k hlt;have hq:=(HQ.out.below Xc).each _ (g_ hlt);have Xw:=ah hq;have⟨⟨pa,pn,pc,hp⟩,⟨ba,Jl,bc,Jv⟩⟩:=hq.slices;rw[hp]at c1;rw[Jv]at c2;obtain⟨nm,Jx⟩:∃nm,Q[k].f.nm=nm:=⟨_,rfl⟩;rw[Jx]at c0;have HV:Hid (aX Q[k]=[sV nm,.slice pa pn pc,.slice ba Jl bc]):=(by show _=_;rw[aX,Jx,hp,Jv]);have HS:Hid (Q[k].vp.oneCell'=true/\Q[k].vb.oneCell'=true):=⟨by rw[hp];rfl,by rw[Jv];rfl⟩;have t0:=((Ya.out.below Jd).cell k hlt).1;have i1:(0:Int)<=(k:Int):=o_;have i2:(k:Int)<(Q.length:Int):=o_;have Xy:g3<wr.heap.size:=o_;have Yf:Hid ((k=m\/k∈out)->aY P Q (k+1)=aY P Q k++[Q[k]]):=λh=>gj hlt (by rw[HP.out];exact BB (h.imp id (Jm.out k).1))
   have Xx:Hid (¬(k=m\/k∈out)->aY P Q (k+1)=aY P Q k):=λh=>ly (by rw[HP.out];exact Er (λh'=>h (h'.imp id (Jm.out k).2)))
   have Jo:=mj P Q k o_;have Xh:=HQ.out.nd;have Xa:Hid (∀x∈qo Q[k],x∉kz (aY P Q k)/\(Value.slice av ll cv).ownBlock≠some x):=λx hx=>by refine⟨λh=>?_,λh=>?_⟩;have e:Q=Q.take k++Q[k]::Q.drop (k+1):=(by rw[<-List.drop_eq_getElem_cons hlt,List.take_append_drop]);rw[e,blkF_append,List.nodup_append]at Xh;exact Xh.2.2 x ((Eq Jo).subset h) x (J5.2 (.inl hx)) rfl;have h1:=Jp.out x h;have h2:=(HQ.out.each _ (g_ hlt)).rng x hx;omega
   have Xp:Hid (∀W,Bl wr W->qq B W Q[k]/\cV B W (.slice av ll cv) (aY P Q k)):=λW hW=>⟨Xw.out.below hW,Jf.out.below hW⟩;clear hq hp Jv Jx Xc Jo Xh;by_cases hin:k=m\/k∈out
   ·have Jt:Hid (aY P Q (k+1)=aY P Q k++[Q[k]]):=Yf.out hin;have⟨W1,Ju⟩:=q_ ((wr.alloc (.cells #[sV nm,.slice pa pn pc,.slice ba Jl bc] 52)).alloc (.cells #[sV nm,.slice pa pn pc,.slice ba Jl bc] 52));have Ja:Bl wr W1:=(by rw[Ju];exact(ao _ _).alloc i_ _);have⟨Xu,Xl⟩:=Xp.out W1 Ja;have⟨v',w4,r1,r2,r3,r4⟩:=CF (w:=W1) (B:=B) (c:=1) (ad:=⟨wr.heap.size+1,0,none⟩) 24 Xl Xu (λj x hx=>by
     rw[HV.out]at hx;have hl:=(List.getElem?_eq_some_iff.1 hx).1;simp only[l_c,l_n]at hl;rw[Ju];match j,hl with
     | 0,_=>simp[dk]at hx⊢;exact hx
     | 1,_=>simp[dk]at hx⊢;exact hx
     | 2,_=>simp[dk]at hx⊢;exact hx) Xa.out HS.out (Ka Ja.size) (by rw[Xk.out];have:=mi P Q k;rw[Xk.out]at this;omega)
    obtain⟨Jy,Xe,rfl⟩:=r2.shape;have Xv:Bl w3 w4:=(Jd.trans (Ja.mono Jd.size)).grown r3 (Ka Ja.size) (λg hg=>Jp.out g hg);have Jn:=ah r2;have J_:Hid (∀g,(Value.slice Jy (aY P Q k++[Q[k]]).length Xe).ownBlock=some g->w3.heap.size<=g):=λg hg=>by
     rcases r4 g hg with h|h;exact Jp.out g h
     have:=Ja.size;omega
    obtain⟨l4,Xr⟩:∃l4,(aY P Q k++[Q[k]]).length=l4:=⟨_,rfl⟩;rw[Xr]at r1 Jn J_;rw[Ju]at r1;clear r2 r3 r4 Xu Xl Xr Ja Ju;by_cases Jr:k=m
    ·subst Jr;have b1:((k:Int) == (k:Int))=true:=i_
     go_wp2_with(at_builtin;refine ay rfl _ _ _ rfl _ _ (.slice Jy l4 Xe) w4 rfl rfl r1 ?_);go_wp2;go_roundw
     case rel=>exact⟨k+1,o_,by go_num,by rw[Jt.out];exact Jn,J_,Xv⟩
     case measure=>exact IF
    have b1:((k:Int) == (m:Int))=false:=by have:¬(k:Int)=(m:Int):=o_;simpa using this
    rw[decide_eq_true (hin.resolve_left Jr)]at t0;go_wp2_with(at_builtin;refine ay rfl _ _ _ rfl _ _ (.slice Jy l4 Xe) w4 rfl rfl r1 ?_);go_wp2;go_roundw
    case rel=>exact⟨k+1,o_,by go_num,by rw[Jt.out];exact Jn,J_,Xv⟩
    case measure=>exact IF
   have Jt:Hid (aY P Q (k+1)=aY P Q k):=Xx.out hin;have Jr:¬(k:Int)=(m:Int):=λh=>hin (.inl o_);have b1:((k:Int) == (m:Int))=false:=(IN Jr);rw[decide_eq_false (λh=>hin (.inr h))]at t0;have Yc:Bl w3 (wr.alloc (.cells #[sV nm,.slice pa pn pc,.slice ba Jl bc] 52)):=Jd.alloc Jd.size _;have Jn:Hid (cV B (wr.alloc (.cells #[sV nm,.slice pa pn pc,.slice ba Jl bc] 52)) (.slice av ll cv) (aY P Q (k+1))):=by rw[Jt.out];exact(Xp.out _ (ao _ _)).2
   clear hin;go_wp2;go_roundw
   case rel=>exact⟨k+1,o_,by go_num,Jn,Jp,Yc⟩
   case measure=>exact IF
  obtain rfl:k=Q.length:=(by omega);have Yb:Hid (Bl w wr):=Jk.trans (Jd.mono Jk.size);go_wp2;go_ret;exact⟨_,rfl,Jf,Yb⟩
end
open Go.Proofs.Tryz
section
variable{α:Type}{n i j:Nat}{t:Tr}{ss out:List St}{sc tk k:List Io}
theorem pZ(P:Nat -> Bool)(fs:List α){k:Nat}(h:k ≤ n)(hn:n ≤ fs.length):∃ r, aY P fs n=aY P fs k ++ r:= by
  induction n with
  | zero=>obtain rfl:k=0:= by omega
          exact⟨[], by simp⟩
  | succ n ih=>
    by_cases e:k=n+1;subst e; exact⟨[], by simp⟩
    · have⟨r, hr⟩:= ih o_ o_
      cases hp:P n with
      | true=>exact⟨r ++ [fs[n]], by rw[gj o_ hp, hr, append_assoc]⟩
      | false=>exact⟨r, by rw[ly hp, hr]⟩
def Es{P:Nat->Bool}{h:List α}(U:i<h.length)(J:P i=true):(aY P h h.length)[(aY P h i).length]? =some h[i]:=by have⟨r,I⟩:=pZ P h (show i+1<=h.length by omega) n_;rw[I,gj U J];simp
theorem p_{α:Type}{P:Nat->Bool}{I:List α}:∀ {n j:Nat},n<=I.length->j<(aY P I n).length->∃i,∃hi:i<I.length,i<n/\P i=true/\j=(aY P I i).length/\(aY P I n)[j]? =some I[i]
 | 0,j,_,h=>by simp[kF]at h
 | n+1,j,hn,h=>by
  cases hp:P n with
  | false=>rw[ly hp]at h⊢;have⟨i,hi,h1,h2⟩:=p_ o_ h;exact⟨i,hi,o_,h2⟩
  | true=>
   rw[gj o_ hp]at h⊢;by_cases hj:j<(aY P I n).length
   have⟨i,hi,h1,h2,h3,h4⟩:=p_ o_ hj;exact⟨i,hi,o_,h2,h3,by rw[getElem?_append_left hj];exact h4⟩
   have:j=(aY P I n).length:=(by simp at h;omega);exact⟨n,o_,o_,hp,this,by rw[this];simp⟩
def Et{P:Nat->Bool}{I:List α}(U:i<I.length)(J:j<I.length)(pi:P i=true)(pj:P j=true)(h:(aY P I i).length=(aY P I j).length):i=j:=by
 have Ja:∀ {a b},a<I.length->b<I.length->P a=true->a<b->(aY P I a).length<(aY P I b).length:=λ{a b} ha hb pa hab=>by have⟨r,Z⟩:=pZ P I (show a+1<=b by omega) o_;rw[Z,gj ha pa];simp
 rcases Nat.lt_trichotomy i j with h1|h1|h1
 have:=Ja U J pi h1;omega
 exact h1
 have:=Ja J U pj h1;omega
theorem Eu{P:Nat->Bool}{I:List α}(h:∀i,i<I.length->P i=true):aY P I I.length=I:=by
 have Ja:∀k,k<=I.length->aY P I k=I.take k:=by
  intro k;induction k with
  | zero=>intro _;simp[kF]
  | succ k ih=>intro J;rw[gj o_ (h k o_),ih o_,aU I k o_]
 rw[Ja _ n_,take_length]
theorem wk{t:Tr}:∀(N:Nat) {ss:List St} {sc tk k:List Io},ss.length<=N->Gd t ss sc tk k->(∀x∈tk,globI t.gl x<0)->∀x∈k,globI t.gl x<0
 | 0,ss,sc,tk,k,hl,h,ht=>by obtain rfl:ss=[]:=J3 o_;obtain rfl:=jt.1 h;exact ht
 | N+1,[],sc,tk,k,hl,h,ht=>by obtain rfl:=jt.1 h;exact ht
 | N+1,s::r,sc,tk,k,hl,h,ht=>by
  simp only[l_c]at hl;have⟨g0,k1,k2,g1,g2,g3⟩:=iy.1 h;refine wk N H6 g3 (wk N H6 g2 (wk N H6 g1 (λx hx=>?_)));rw[n9]at hx;rcases J5.1 hx with hx|hx;exact ht x hx;unfold aP at hx;by_cases k1:s.kd=1;rw[if_pos k1]at hx;simp at hx;subst hx;unfold bC at g0;by_cases hne:bK t sc (s.e++s.f)≠0;rw[if_pos hne]at g0;exact absurd g0 hne;rw[if_neg hne,if_pos k1]at g0;by_cases hd:dF tk s.nm=true\/0<=globI t.gl s.nm;rw[if_pos hd]at g0;cases g0
  have:=λh=>hd (.inr h)
  omega;rw[if_neg k1]at hx;cases hx
theorem lC{t:Tr}:∀(N:Nat) {ss:List St} {sc tk k:List Io},ss.length<=N->Gd t ss sc tk k->∀s∈ss,∀n,n∈s.e\/n∈s.f->∃sc',aO t sc' n=0
 | 0,ss,sc,tk,k,hl,h=>by obtain rfl:ss=[]:=J3 o_;intro s hs;cases hs
 | N+1,[],sc,tk,k,hl,h=>by intro s hs;cases hs
 | N+1,s::r,sc,tk,k,hl,h=>by
  simp only[l_c]at hl;have⟨g0,k1,k2,g1,g2,g3⟩:=iy.1 h;intro x hx n hn;rcases mem_cons.1 hx with rfl|hx;unfold bC at g0;by_cases hne:bK t sc (x.e++x.f)≠0;rw[if_pos hne]at g0;exact absurd g0 hne;exact⟨sc,jT (IN hne) n (J5.2 hn)⟩;have er:r=r.take s.th.toNat++((r.drop s.th.toNat).take s.el.toNat++r.drop (s.th.toNat+s.el.toNat)):=by rw[<-drop_drop,take_append_drop,take_append_drop]
  rw[er]at hx;rcases J5.1 hx with hx|hx;exact lC N H6 g1 x hx n hn;rcases J5.1 hx with hx|hx;exact lC N H6 g2 x hx n hn;exact lC N H6 g3 x hx n hn
def Gb(h:Gd t ss sc tk k):∀s∈ss,∀n,n∈s.e\/n∈s.f->∃sc',aO t sc' n=0:=lC _ n_ h
def p9(h:(aQ t).1=0){f:Fu}(hf:f∈t.fc):fY t.gl [] f.pm=false/\(aL t f.bd 0 f.pm f.pm).1=0:=by
 have U:=uY h;have Z:(bJ t).1=0:=(dA h).2.1;have J:(bodiesE t 0 t.fc).1=0:=by by_cases J:(bodiesE t 0 t.fc).1=0;exact J;rw[gH U Z J]at h;exact absurd h J
 have⟨j,I⟩:=kx t.fc 0 J f hf;unfold du at I;by_cases hd:fY t.gl [] f.pm=true
 rw[if_pos hd]at I;cases I;rw[if_neg hd]at I;refine⟨IN hd,?_⟩;by_cases hx:(aL t f.bd 0 f.pm f.pm).1≠0;rw[if_pos hx]at I;exact absurd I hx;simpa using hx
theorem Td.sum(h:Td ss out):aK out<=aK ss/\out.length<=ss.length:=by
 induction h using Td_i with
 | nil=>exact⟨n_,n_⟩
 | cons s s2 r a b q hs hl ha hb hq ia ib iq=>
  have e1:=hs.e.len;have e2:s2.f.length<=s.f.length:=by
   rcases hs.f with⟨-,I⟩|⟨-,I,hg⟩
   ·exact I.len
   ·rw[I,hg];exact n_
  have J:r=r.take s.th.toNat++((r.drop s.th.toNat).take s.el.toNat++r.drop (s.th.toNat+s.el.toNat)):=by
   rw[<-drop_drop,take_append_drop,take_append_drop]
  have U:=congrArg aK J;have Z:=congrArg List.length J;rw[nodeSum_append,nodeSum_append]at U;rw[l_a,l_a]at Z;have hm:aK (aV s2 a b)<=s2.e.length+s2.f.length+aK a+aK b/\(aV s2 a b).length<=1+a.length+b.length:=by
   refine⟨?_,lH _ _ _⟩;unfold aV;split
   ·split
    ·split <;> omega
    ·simp only[aK,nodeSum_append];omega
   ·split
    ·split
     ·simp[aK]
     ·simp only[aK,nodeSum_append];omega
    ·simp only[aK,nodeSum_append];omega
  split
  ·simp only[aK,l_c];omega
  ·simp only[aK,nodeSum_append,l_a,l_c];omega
theorem Td.stB(h:Td ss out)(I:∀s∈ss,stmtB s=true):∀x∈out,stmtB x=true:=by
 induction h using Td_i with
 | nil=>intro x hx;cases hx
 | cons s s2 r a b q hF hl ha hb hq ia ib iq=>
  have Jc:=ia (λx hx=>I x (by simp[mem_of_mem_take hx]));have Ja:=ib (λx hx=>I x (by simp[J6 (mem_of_mem_take hx)]));have Jd:=iq (λx hx=>I x (by simp[J6 hx]));have J:=I s i_;have k2:stmtB {s2 with th:=(a.length:Int),el:=(b.length:Int)}=true:=by
   have la:=ha.sum.2;have lb:=hb.sum.2;unfold stmtB at J⊢;simp only[J1]at J⊢;obtain⟨⟨⟨⟨⟨⟨a1,a2⟩,a3⟩,a4⟩,a5⟩,a6⟩,a7⟩:=J;rw[hF.k,hF.n];refine⟨⟨⟨⟨⟨⟨a1,a2⟩,hF.e.oneB⟩,?_⟩,?_⟩,?_⟩,?_⟩
   ·rcases hF.f with⟨U,Z⟩|⟨U,-,Z⟩
    ·rw[if_pos U];exact Z.oneB
    ·rw[if_neg U,Z];rfl
   ·rw[Bool.or_eq_true]at a5⊢;exact a5.imp id (λh=>by simpa using hF.e.call (IN h))
   ·rw[Bool.or_eq_true]at a6⊢;refine a6.imp id (λh=>?_);have:s.th=0:=(IN h);rw[this]at la;simp at la;simp[la]
   ·rw[Bool.or_eq_true]at a7⊢;refine a7.imp id (λh=>?_);have:s.el=0:=(IN h);rw[this]at lb;simp at lb;simp[lb]
  have Jb:∀x∈aV s2 a b,stmtB x=true:=by
   have st:∀x∈({s2 with th:=a.length,el:=b.length}:St)::(a++b),stmtB x=true:=λx hx=>by
    rcases mem_cons.1 hx with rfl|hx
    ·exact k2
    ·exact(J5.1 hx).elim (Jc x) (Ja x)
   intro x hx;unfold aV at hx;split at hx
   ·split at hx
    ·split at hx
     ·exact Ja x hx
     ·exact Jc x hx
    ·exact st x hx
   ·split at hx
    ·split at hx
     ·cases hx
     ·exact st x hx
    ·exact st x hx
  intro x hx;split at hx
  ·exact Jb x hx
  ·exact(J5.1 hx).elim (Jb x) (Jd x)
theorem qb:∀(fs:List Fu) (seen:List Io) (i:Int),fL seen i fs=none↔(∀f∈fs,f.nm∉seen)/\(fs.map (·.nm)).Nodup
 | [],seen,i=>by simp[fL]
 | f::r,seen,i=>by
  rw[fL];by_cases h:dF seen f.nm=true;rw[if_pos h];refine⟨λh1=>(by cases h1),λh1=>absurd (dI.1 h) (h1.1 f i_)⟩;rw[if_neg h,qb r];have hn:f.nm∉seen:=λhm=>h (dI.2 hm);rw[map_cons,nodup_cons];constructor
  rintro⟨h1,h2⟩;refine⟨λg hg=>?_,λhm=>?_,h2⟩;rcases mem_cons.1 hg with rfl|hg;exact hn;exact λhm=>h1 g hg (mem_append_left _ hm)
  have⟨g,hg,e⟩:=mem_map.1 hm;exact h1 g hg (by simp[e])
  rintro⟨h1,h2,h3⟩;refine⟨λg hg hm=>?_,h3⟩;rcases J5.1 hm with hm|hm;exact h1 g (by simp[hg]) hm;simp at hm;exact h2 (mem_map.2 ⟨g,hg,hm⟩)
theorem rO{t:Tr}{m:Nat}(h:∀i,(i=m\/iD t m i)->¬iD t i i):∀(n i:Nat),(dy t m i n).1=0
 | 0,i=>rfl
 | n+1,i=>by rw[dy,if_neg (λhh=>h i hh.1 hh.2)];exact rO h n (i+1)
theorem mU{t:Tr}:∀(fs:List Fu) (i:Nat),(∀f∈fs,∀j,(du t j f).1=0)->(bodiesE t i fs).1=0
 | [],i,_=>rfl
 | f::r,i,h=>by unfold bodiesE;rw[if_neg (by rw[h f i_ i];decide)];exact mU r (i+1) (λg hg=>h g (by simp[hg]))
end
section
open Go.RowKit
theorem yf{w:AT}{v:BY}{gs:List Gl}(h:cD w v gs):∃a cap,v=.slice a gs.length cap/\(a=none->gs.length=0)/\∀ad,a=some ad->∀j u,(ig gs)[j]? =some u->w.cell? (ad.add j)=some u:=by
 obtain⟨a,cap,rfl,-,-,h⟩:=h;refine⟨a,cap,rfl,λe=>?_,λad had j u hu=>?_⟩;rcases Nat.eq_zero_or_pos gs.length with h0|h0;exact h0;obtain⟨b,Jb,J,-⟩:=h h0;rw[e]at J;cases J;have hl:=(List.getElem?_eq_some_iff.1 hu).1;rw[rj]at hl;have⟨b,Jb,J,hc⟩:=h o_;rw[had]at J;cases J
 have Ja:∀(l:List Gl) (m i:Nat) (I:m<l.length),i<2->(ig l)[m*2+i]? =(jj l[m])[i]? := by
  intro l;induction l with
  | nil=>intro m i I;simp at I
  | cons x r ih=>
   intro m i I U;cases m with
   | zero=>show(jj x++ig r)[0*2+i]? =_;have:(jj x).length=2:=rfl;rw[List.getElem?_append_left o_];simp
   | succ m=>show(jj x++ig r)[(m+1)*2+i]? =_;have h7:(jj x).length=2:=rfl;rw[List.getElem?_append_right o_];have e:(m+1)*2+i-(jj x).length=m*2+i:=o_;rw[e,ih m i (IN I) U];simp
 obtain⟨m,i,rfl,U,I⟩:∃m i,j=m*2+i/\i<2/\m<gs.length:=⟨j / 2,j%2,o_,o_,o_⟩;rw[Ja gs m i I U]at hu;have⟨c0,Z⟩:=hc m I;rw[dk,<-Nat.add_assoc];match i,U with
 | 0,_=>exact c0.trans hu
 | 1,_=>exact Z.trans hu
def qF(t:Tr)(vg vf:BY)(w:AT)(J:gF w)(hs:eQ t)(hw:yq t)(hg:cD w vg t.gl)(hf:bj w vf t.fc)(hz:(aQ t).1≠0):
  Calls prog 5 #[.agg #[vg,vf]] w λe w'=>∃vg' vf' Q,e=rW (.agg #[vg',vf'])/\gq w.heap.size w' vg' vf' ⟨[],[]⟩ Q/\Bl w w':=by
 have Jh:Hid (∀W,Bl w W->Calls prog 15 #[.agg #[vg,vf]] W λe w'=>e=rW (.bool false)/\Bl W w'):=λW hW=>by
  have:=lW t vg vf W (J.below J.size hW) hs hw (hg.below hW) (hf.below hW)
  rw[decide_eq_false hz]at this;exact this
 obtain⟨ag,U,rfl,-⟩:=hg;obtain⟨af,Z,rfl,-⟩:=hf;clear J hs hw hz;go_in;go_wp2_with fail;have⟨M,I⟩:=q_ w.heap.size;have⟨W0,Ja⟩:=q_ (((w.alloc (.cells #[.slice ag t.gl.length U,.slice af t.fc.length Z] 26)).alloc (.cells #[nV,nV] 26)));have Jj:W0.heap.size=M+2:=by rw[Ja,I];simp
 have Jb:Bl w W0:=by rw[Ja];exact(ao _ _).alloc i_ _
 have Je:Hid (aN W0 (M+1) [nV,nV]):=by
  have:=nH (w.alloc (.cells #[.slice ag t.gl.length U,.slice af t.fc.length Z] 26)) nV nV 26
  rw[J9,<-I,<-Ja]at this;exact this
 rw[<-Ja,<-I];have Jg:=ah I;clear Ja I;refine(Jh.o W0 Jb).mono ?_;rintro e w1 ⟨rfl,Jc⟩;have⟨y0,y1,z0,z1⟩:=(Je.o.below Jc).two;have Jd:Bl w ((w1.setCell ⟨M+1,0,none⟩ nV).setCell ⟨M+1,1,none⟩ nV):=by
  have:=Jg.o
  exact((Jb.trans (Jc.mono Jb.size)).setCell (p:=⟨M+1,0,none⟩) (by show _<=M+1;omega) _).setCell (p:=⟨M+1,1,none⟩) (by show _<=M+1;omega) _
 have Ji:=ah Jd;have Jf:=(((Je.o.below Jc).set 0 nV).set 1 nV).two;obtain⟨t0,t1,-,-⟩:=Jf;clear Jc Jb Jd;go_wp2_with fail;refine bodyPost_ret (v:=.agg #[nV,nV]) (by simp[results,results5,go_sem,t0,t1]) rfl ⟨_,_,[],rfl,gq.nil _ _,Ji⟩
end
section
variable{i j b:Nat}{x:Io}{s:St}
structure Sm (t:Tr) (fs:List Fu) (m:Nat):Prop where
 ck:(aQ t).1=0
 sf:lx t.fc fs
 mn:a_ t.fc dt=some m
def jx(t:Tr)(fs:List Fu)(m:Nat):Tr:=⟨t.gl,aY (cd t.gl fs m) fs fs.length⟩
def ph(t:Tr)(fs:List Fu)(m i:Nat):Nat:=(aY (cd t.gl fs m) fs i).length
section
variable{t:Tr}{fs:List Fu}{m:Nat}
def dh{gs:List Gl}:cd gs fs m i=true↔(i=m\/iD ⟨gs,fs⟩ m i):=by exact @decide_eq_true_iff _ (pdQ _)
def Sm.at(h:Sm t fs m)(I:i<t.fc.length):∃hi':i<fs.length,fs[i].nm=t.fc[i].nm/\fs[i].pm=t.fc[i].pm/\Td t.fc[i].bd fs[i].bd/\cC t.fc[i]=true:=by
 have hi':i<fs.length:=by rw[h.sf.1];exact I
 have⟨Z,h2,rs,h3,h4⟩:=h.sf.2 i I hi';have J:cC t.fc[i]=true:=by
  have:=(dA h.ck).1
  unfold cM at this;simp only[J1,J2,all_eq_true]at this;exact this.2.2.2 _ (g_ I)
 have⟨p1,p2,p3,p4,U,p6⟩:=je J;exact⟨hi',Z,h2,by rw[h4];exact zk _ _ _ n_ h3 U p6,J⟩
def Sm.len(h:Sm t fs m):fs.length=t.fc.length:=h.sf.1
def Sm.ml(h:Sm t fs m):m<fs.length:=by rw[h.len];exact dE h.mn
def Sm.need(h:Sm t fs m)(I:cd t.gl fs m i=true):i<fs.length:=by rcases dh.1 I with rfl|I;exact h.ml;exact I.lt
def Sm.get(h:Sm t fs m)(I:cd t.gl fs m i=true):∃hi:i<fs.length,∃hj:ph t fs m i<(jx t fs m).fc.length,(jx t fs m).fc[ph t fs m i]=fs[i]:=by have hi:=h.need I;have:=Es (P:=cd t.gl fs m) hi I;have⟨hj,e⟩:=List.getElem?_eq_some_iff.1 this;exact⟨hi,hj,e⟩
def Sm.inv(h:Sm t fs m)(J:j<(jx t fs m).fc.length):∃i,cd t.gl fs m i=true/\j=ph t fs m i:=by obtain⟨i,-,-,I,h2,-⟩:=p_ (P:=cd t.gl fs m) n_ J;exact⟨i,I,h2⟩
def yg{l:List Fu}(h:a_ l x=some i):∃hi:i<l.length,l[i].nm=x/\∀j (hj:j<i),l[j].nm≠x:=by unfold a_ at h;have⟨hi,I,J⟩:=findIdx?_eq_some_iff_getElem.1 h;exact⟨hi,IN I,λj hj=>by have:=J j hj;simpa using this⟩
def Sm.num(h:Sm t fs m)(I:a_ t.fc x=some i)(hp:cd t.gl fs m i=true):a_ (jx t fs m).fc x=some (ph t fs m i):=by
 have⟨hi,U,e⟩:=h.get hp;rw[<-h.sf.names]at I;have⟨_,J,e2⟩:=yg I;refine yu U (λj hjj=>?_) (by rw[e];exact J);obtain⟨i',Z,rfl⟩:=h.inv (j:=j) o_;have⟨Ja,Jb,e'⟩:=h.get Z;rw[e'];refine e2 i' ?_;by_cases hlt:i'<i
 exact hlt;exfalso
 have⟨r,hr⟩:=pZ (cd t.gl fs m) fs (show i<=i' by omega) o_;have:ph t fs m i<=ph t fs m i':=by unfold ph;rw[hr];simp
 omega
def Sm.calls(h:Sm t fs m)(hp:cd t.gl fs m i=true)(U:i<fs.length)(hs:s∈fs[i].bd){n:Nd}(I:n∈s.e\/n∈s.f)(h4:n.kd=4):∃g,a_ t.fc n.nm=some g/\cd t.gl fs m g=true/\dV t i g/\∃hg:g<t.fc.length,(t.fc[g].pm.length:Int)=n.val:=by
 have Jb:i<t.fc.length:=by rw[<-h.len];exact U
 obtain⟨_,-,-,hT,-⟩:=h.at Jb;have⟨y,hy,Z⟩:=hT.mem s hs;have Jf:n∈y.e\/n∈y.f:=by rcases I with I|I;rcases Z.e.from n I with h1|h1|h1;exact .inl h1;omega;omega;rcases Z.f with⟨-,J⟩|⟨-,-,J⟩;rcases J.from n I with h1|h1|h1;exact .inr h1;omega;omega;rw[J]at I;cases I
 have Jd:n∈ct t.fc[i].bd:=mem_flatMap.2 ⟨y,hy,J5.2 Jf⟩;have Ja:n∈ct fs[i].bd:=mem_flatMap.2 ⟨s,hs,J5.2 I⟩;obtain⟨-,-,Je⟩:=dA h.ck;obtain⟨⟨a,tk,Jg,hb⟩,-⟩:=Je _ (g_ Jb);have⟨sc,hk⟩:=Gb (rK hb) y hy n Jf;have⟨g,hg,hv⟩:=jU hk h4;have Jc:=dE hg;refine⟨g,hg,?_,⟨Jb,?_⟩,Jc,?_⟩;have hc:dV ⟨t.gl,fs⟩ i g:=by refine⟨U,?_⟩;show g∈callsL fs (fs.getD i ⟨⟨#[]⟩,[],[]⟩).bd;rw[getD_eq_getElem?_getD,J4 U];unfold callsL;simp only[mem_filter,mem_range,J2,Option.getD_some];exact⟨by rw[h.len];exact Jc,mem_filterMap.2 ⟨n,Ja,by rw[if_pos h4,h.sf.names];exact hg⟩⟩
 rcases dh.1 hp with rfl|hr;exact dh.2 (.inr (.one hc));exact dh.2 (.inr (.step hr hc));rw[getD_eq_getElem?_getD,J4 Jb];unfold callsL;simp only[mem_filter,mem_range,J2,Option.getD_some];exact⟨Jc,mem_filterMap.2 ⟨n,Jd,by rw[if_pos h4];exact hg⟩⟩;rw[getD_eq_getElem?_getD,J4 Jc]at hv;exact hv
def Sm.cls(h:Sm t fs m)(hp:cd t.gl fs m i=true)(hi:i<fs.length)(hs:s∈fs[i].bd):Iy (jx t fs m) s:=λn hn h4=>by obtain⟨g,hg,pg,-,hgl,hv⟩:=h.calls hp hi hs hn h4;have⟨hi',hj,e⟩:=h.get pg;unfold aO;rw[if_neg o_,if_pos h4,h.num hg pg];dsimp only;rw[getD_eq_getElem?_getD,J4 hj,Option.getD_some,e,if_pos];obtain⟨_,-,e2,-⟩:=h.at hgl;rw[e2];exact hv
def Sm.callr(h:Sm t fs m)(U:cd t.gl fs m i=true)(hc:dV (jx t fs m) (ph t fs m i) b):∃g,cd t.gl fs m g=true/\b=ph t fs m g/\dV t i g:=by
 have⟨hi,Z,e⟩:=h.get U;have I:=hc.2;rw[getD_eq_getElem?_getD,J4 Z,Option.getD_some,e]at I;unfold callsL at I;simp only[mem_filter,J2]at I;have⟨n,hn,Ja⟩:=mem_filterMap.1 I.2;by_cases h4:n.kd=4
 rw[if_pos h4]at Ja;have⟨s,hs,Jb⟩:=mem_flatMap.1 hn;obtain⟨g,hg,J,Jc,-⟩:=h.calls U hi hs (J5.1 Jb) h4;rw[h.num hg J]at Ja;exact⟨g,J,(Option.some.inj Ja).symm,Jc⟩;rw[if_neg h4]at Ja;cases Ja
theorem Sm.rch(h:Sm t fs m)(Z:cd t.gl fs m i=true)(J:iD (jx t fs m) (ph t fs m i) b):∃g,cd t.gl fs m g=true/\b=ph t fs m g/\iD t i g:=by
 induction J using iD_i with
 | one hc=>have⟨g,I,h2,h3⟩:=h.callr Z hc;exact⟨g,I,h2,.one h3⟩
 | step J hc ih=>obtain⟨g,I,rfl,h3⟩:=ih;have⟨U,Jb,Ja,Jc⟩:=h.callr I hc;exact⟨U,Jb,Ja,.step h3 Jc⟩
def Sm.back(h:Sm t fs m){g:Nat}(hp:cd t.gl fs m i=true)(U:dV ⟨t.gl,fs⟩ i g):cd t.gl fs m g=true/\dV (jx t fs m) (ph t fs m i) (ph t fs m g):=by
 have J:cd t.gl fs m g=true:=by rcases dh.1 hp with rfl|hr;exact dh.2 (.inr (.one U));exact dh.2 (.inr (.step hr U))
 have⟨hi,Z,e⟩:=h.get hp;obtain⟨_,Jb,-⟩:=h.get J;refine⟨J,Z,?_⟩;have I:=U.2;rw[getD_eq_getElem?_getD,J4 hi,Option.getD_some]at I;rw[getD_eq_getElem?_getD,J4 Z,Option.getD_some,e];unfold callsL at I⊢;simp only[mem_filter,mem_range,J2]at I⊢;have⟨n,hn,Ja⟩:=mem_filterMap.1 I.2;refine⟨Jb,mem_filterMap.2 ⟨n,hn,?_⟩⟩;by_cases h4:n.kd=4
 rw[if_pos h4]at Ja⊢;rw[h.sf.names]at Ja;exact h.num Ja J;rw[if_neg h4]at Ja;cases Ja
theorem Sm.all(h:Sm t fs m)(U:j<(jx t fs m).fc.length):cd (jx t fs m).gl (jx t fs m).fc (ph t fs m m) j=true:=by
 obtain⟨i,J,rfl⟩:=h.inv U;have Ja:∀ {i},iD ⟨t.gl,fs⟩ m i->cd t.gl fs m i=true/\iD (jx t fs m) (ph t fs m m) (ph t fs m i):=λhr=>by
  induction hr using iD_i with
  | one hc=>have⟨I,h2⟩:=h.back (dh.2 (.inl rfl)) hc;exact⟨I,.one h2⟩
  | step _ hc ih=>have⟨I,h2⟩:=h.back ih.1 hc;exact⟨I,.step ih.2 h2⟩
 rcases dh.1 J with rfl|hr;exact dh.2 (.inl rfl);exact dh.2 (.inr (Ja hr).2)
theorem Sm.sound(h:Sm t fs m):(aQ (jx t fs m)).1=0:=by
 have⟨hT,I,Jg⟩:=dA h.ck;have Jc:∀f∈(jx t fs m).fc,∃i,∃hi:i<fs.length,∃Ja:i<t.fc.length,cd t.gl fs m i=true/\f=fs[i]:=λf hf=>by obtain⟨j,hj,rfl⟩:=mem_iff_getElem.1 hf;obtain⟨i,hp,rfl⟩:=h.inv hj;have⟨hi,_,e⟩:=h.get hp;exact⟨i,hi,by rw[<-h.len];exact hi,hp,e⟩
 have Jn:cM (jx t fs m)=true:=by
  unfold cM at hT⊢;simp only[J1,J2,all_eq_true]at hT⊢;refine⟨hT.1,?_,hT.2.2.1,λf hf=>?_⟩
  have:=mi (cd t.gl fs m) fs fs.length
  have:=h.len
  show(aY _ fs fs.length).length<=50;omega
  obtain⟨i,hi,Ja,hp,rfl⟩:=Jc f hf;have⟨_,e1,Z,Je,hb⟩:=h.at Ja;have⟨s1,s2⟩:=Je.sum;unfold cC stmtsB at hb⊢;simp only[J1,J2,all_eq_true]at hb⊢;obtain⟨b1,b2,b3,b4,⟨b5,b6⟩,b7⟩:=hb;exact⟨by rw[e1];exact b1,by rw[Z];exact b2,o_,by rw[Z];exact b4,⟨o_,Je.stB b6⟩,Je.fit⟩
 have Jb:=h.num h.mn (dh.2 (.inl rfl));have Jj:(bJ (jx t fs m)).1=0:=by
  unfold bJ at I⊢;by_cases hd:fU [] t.gl=true;rw[if_pos hd]at I;cases I;rw[if_neg hd]at I;rw[if_neg (by exact hd)];cases hq:fL (t.gl.map (·.nm)) 0 t.fc with
  | some i=>rw[hq]at I;cases I
  | none=>
   have⟨q1,q2⟩:=(qb _ _ _).1 hq;have Jq:fs.map (·.nm)=t.fc.map (·.nm):=by apply ext_getElem (by simp[h.len]);intro j h1 h2;simp only[getElem_map];exact(h.sf.2 j (IN h2) (IN h1)).1
   have Jo:fL ((jx t fs m).gl.map (·.nm)) 0 (jx t fs m).fc=none:=by refine(qb _ _ _).2 ⟨λf hf=>?_,?_⟩;obtain⟨i,hi,Ja,hp,rfl⟩:=Jc f hf;obtain⟨_,e1,-⟩:=h.at Ja;rw[e1];exact q1 _ (g_ Ja);have Jd:=(mj (cd t.gl fs m) fs fs.length n_).map (·.nm);rw[take_length,Jq]at Jd;exact q2.sublist Jd
   rw[Jo];rw[hq]at I;simp only[h.mn]at I;rw[Jb];dsimp only;have⟨hi,hj,e⟩:=h.get (i:=m) (dh.2 (.inl rfl));have Jf:m<t.fc.length:=(by rw[<-h.len];exact hi);obtain⟨_,-,Z,-⟩:=h.at Jf;rw[getD_eq_getElem?_getD,J4 hj,Option.getD_some,e,Z];rw[getD_eq_getElem?_getD,J4 Jf,Option.getD_some]at I;exact I
 have Jm:(bodiesE (jx t fs m) 0 (jx t fs m).fc).1=0:=by refine mU _ _ (λf hf j=>?_);obtain⟨i,hi,Ja,hp,rfl⟩:=Jc f hf;obtain⟨_,e1,Z,Je,-⟩:=h.at Ja;have⟨⟨a,tk,Jd,hb⟩,Jp⟩:=Jg _ (g_ Ja);have⟨hd,Jl⟩:=p9 h.ck (g_ Ja);have hG:=rK Jl;obtain⟨k',Ji,-⟩:=Je.gd (t:=t) (t':=jx t fs m) rfl _ _ _ t.fc[i].pm t.fc[i].pm hG (λx J=>J) (λx J=>J) (λx J=>J) (wk _ n_ hG Jp.2) (λx J=>h.cls hp hi J);unfold du;rw[Z];rw[if_neg (by rw[show(jx t fs m).gl=t.gl from rfl,hd];decide),if_neg (by rw[(Ji 0).1];decide)]
 obtain⟨U,Jf,-,Jh⟩:=xH h.ck;obtain rfl:U=m:=by rw[h.mn]at Jf;exact(Option.some.inj Jf).symm
 rw[iX Jn Jj Jm Jb];refine rO (λi hi hr=>?_) _ _;have pm:cd t.gl fs U U=true:=dh.2 (.inl rfl);obtain⟨x,px,rfl,J⟩:∃x,cd t.gl fs U x=true/\i=ph t fs U x/\(x=U\/iD t U x):=by
  rcases hi with rfl|hi;exact⟨U,pm,rfl,.inl rfl⟩
  have⟨g,h1,h2,h3⟩:=h.rch pm hi;exact⟨g,h1,h2,.inr h3⟩
 have⟨g,pg,he,Jk⟩:=h.rch px hr;have:=Et (h.need px) (h.need pg) px pg he;subst this;exact Jh x J Jk
def Sm.own(h:Sm t fs m)(hi:i<fs.length):vP fs[i] fs[i]:=by
 have Ja:i<t.fc.length:=by rw[<-h.len];exact hi
 obtain⟨_,-,-,Z,hb⟩:=h.at Ja;have⟨p1,p2,p3,p4,p5,p6⟩:=je hb;refine⟨rfl,rfl,fs[i].bd,⟨rfl,λj hj _=>⟨rfl,rfl,rfl,rfl,?_,?_⟩⟩,Z.tidy.symm⟩
 ·have⟨y,U,J⟩:=Z.mem _ (g_ hj);have:=J.e.len
  have:=(p6 y U).2.1
  unfold eP;rw[if_pos ⟨o_,J.e.oneB⟩];exact J.e.idem
 have⟨y,U,J⟩:=Z.mem _ (g_ hj);rcases J.f with⟨-,I⟩|⟨-,-,I⟩
 ·have:=I.len
  have:=(p6 y U).2.2
  unfold eP;rw[if_pos ⟨o_,I.oneB⟩];exact I.idem
 rw[I];unfold eP;rw[if_neg (by simp[oneB,wholeTo])]
def Sm.again(h:Sm t fs m):jr (jx t fs m) (jx t fs m):=by unfold jr;rw[if_pos h.sound];refine⟨(jx t fs m).fc,ph t fs m m,⟨rfl,λj hj _=>?_⟩,h.num h.mn (dh.2 (.inl rfl)),?_⟩;obtain⟨i,J,rfl⟩:=h.inv hj;have⟨I,_,e⟩:=h.get J;rw[e];exact h.own I;rw[Eu (λi I=>h.all I)]
end
end
section
open Go.RowKit
def qd{t:Tr}(h:cM t=true):t.gl.length<=50/\t.fc.length<=50/\(∀g∈t.gl,g.nm.size<=20)/\∀f∈t.fc,cC f=true:=by unfold cM at h;simp only[J1,J2,all_eq_true]at h;obtain⟨I,h2,h3,h4⟩:=h;refine⟨I,h2,λg hg=>?_,h4⟩;have:=h3 g hg;unfold dD at this;rw[J1]at this;exact fE this.1
theorem zy(w:AT)(I J U:BY)(t:JZ):aN (w.alloc (.cells #[I,J,U] t)) w.heap.size [I,J,U]:=by
 intro j x h;have hh:(w.alloc (.cells #[I,J,U] t)).heap[w.heap.size]? =some (.cells #[I,J,U] t (0,0)):=(MapKept.heap_alloc w _).1;have Z:∀j,(w.alloc (.cells #[I,J,U] t)).frozen? ⟨w.heap.size,j,none⟩=false:=λj=>by unfold World.frozen?;simp only[hh];simp
 have hl:=(List.getElem?_eq_some_iff.1 h).1;simp only[l_c,l_n]at hl;match j,hl with
 | 0,_=>exact⟨by simp at h⊢;exact h,Z _⟩
 | 1,_=>exact⟨by simp at h⊢;exact h,Z _⟩
 | 2,_=>exact⟨by simp at h⊢;exact h,Z _⟩
def aN.three{w:AT}{g:Nat}{x0 x1 x2:BY}(h:aN w g [x0,x1,x2]):DO w g 0 x0/\DO w g 1 x1/\DO w g 2 x2:=
 ⟨(h 0 x0 rfl).1,(h 1 x1 rfl).1,(h 2 x2 rfl).1⟩
theorem qe(t:Tr)(J:List Fu)(m:Nat)(vg vf:BY)(w:AT)(hT:gF w)(hs:eQ t)(hw:yq t)(hg:cD w vg t.gl)(hf:bj w vf t.fc)(hz:(aQ t).1=0)(hS:lx t.fc J)(hm:a_ t.fc dt=some m):
  Calls prog 5 #[.agg #[vg,vf]] w λe w'=>∃vg' vf' Q,e=rW (.agg #[vg',vf'])/\gq w.heap.size w' vg' vf' ⟨t.gl,aY (cd t.gl J m) J J.length⟩ Q/\Bl w w':=by
 have Xw:Hid (∀W,Bl w W->Calls prog 15 #[.agg #[vg,vf]] W λe w'=>e=rW (.bool true)/\Bl W w'):=λW hW=>by
  have:=lW t vg vf W (hT.below hT.size hW) hs hw (hg.below hW) (hf.below hW)
  rw[decide_eq_true hz]at this;exact this
 have⟨p1,p2,p3,p4⟩:=qd (kw hz);have Vd:=hS.1;have Xv:=hT.size;obtain⟨ag,cg,rfl,Xx,Xy⟩:=yf hg;have Yu:Hid (∀W,Bl w W->Calls prog 16 #[.slice ag t.gl.length cg] W λe w'=>∃a n c,e=rW (.slice a n c)/\w'.ownsRow W.heap.size 48 2 (.slice a n c) t.gl.length (ig t.gl)/\Bl W w'):=λW hW=>by
  refine(A5 ag t.gl.length cg (ig t.gl) W Xx (rj _) (λad had j u hu=>by have c:=Xy ad had j u hu;have Jz:=b_ c;exact(hW.cell Jz).trans c) (λu hu=>by simp only[ig,mem_flatMap]at hu;obtain⟨x,-,hu⟩:=hu;simp only[jj,mem_cons,not_mem_nil,or_false]at hu;rcases hu with rfl|rfl <;> rfl) o_).mono ?_
  rintro e w' ⟨u,rfl,U,h2⟩;obtain⟨a,n,c,rfl⟩:∃a n c,u=.slice a n c:=by rcases U.2 with⟨rfl,-⟩|⟨g,Zv,Zf,rfl,-⟩ <;> exact⟨_,_,_,rfl⟩
  exact⟨a,n,c,rfl,U,h2⟩
 obtain⟨af,cf,rfl,-,-,Jr⟩:=id hf;have Yx:=ah Jr;have Yg:Hid (∀(k:Nat) (h:k<t.fc.length) (h':k<J.length) (vp vb:BY) (W:AT),Bl w W->be W vp t.fc[k].pm->aZ W vb t.fc[k].bd->Calls prog 17 #[.agg #[sV t.fc[k].nm,vp,vb]] W λe w'=>∃pa Z pc ba bn bc R,e=rW (.agg #[sV J[k].nm,.slice pa Z pc,.slice ba bn bc])/\pR W.heap.size w' (.slice pa Z pc) (.slice ba bn bc) J[k] R/\Bl W w'):=λk h h' vp vb W hW U h2=>by
  refine(kG t.fc[k] J[k] vp vb W (hT.below Xv hW) U h2 (p4 _ (g_ h)) (hS.2 k h h')).mono ?_;rintro e w' ⟨Zt,Zz,R,rfl,h3,h4⟩;obtain⟨a,n,c,rfl⟩:∃a n c,Zt=.slice a n c:=by rcases h3.ps.2 with⟨rfl,-⟩|⟨g,Zv,Zf,rfl,-⟩ <;> exact⟨_,_,_,rfl⟩
  obtain⟨a',c',rfl⟩:=h3.bd.shape;exact⟨a,n,c,a',_,c',R,rfl,h3,h4⟩
 have Zc:Hid (∀q:FV,q.f∈J->Gj q.f):=λq hq=>by have⟨j,hj,he⟩:=mem_iff_getElem.1 hq;rw[<-he];exact(hS.2 j o_ hj).ok (p4 _ (g_ o_))
 have Zx:Hid (a_ J dt=some m):=by show _=_;rw[hS.names];exact hm
 clear hT hs hw hz Xv Xx Xy hg hf Jr hS hm p3 p4;go_in;go_wp2_with fail;have⟨M,hM⟩:=q_ w.heap.size;have⟨W0,Jo⟩:=q_ (((w.alloc (.cells #[.slice ag t.gl.length cg,.slice af t.fc.length cf] 26)).alloc (.cells #[nV,nV] 26)));have Yc:W0.heap.size=M+2:=by rw[Jo,hM];simp
 have Xa:Bl w W0:=by rw[Jo];exact(ao _ _).alloc i_ _
 have Yj:Hid (aN W0 (M+1) [nV,nV]):=by
  have:=nH (w.alloc (.cells #[.slice ag t.gl.length cg,.slice af t.fc.length cf] 26)) nV nV 26
  rw[J9,<-hM,<-Jo]at this;exact this
 have Xz:Hid (aN W0 M [.slice ag t.gl.length cg,.slice af t.fc.length cf]):=by have U:=nH w (.slice ag t.gl.length cg) (.slice af t.fc.length cf) 26;rw[<-hM]at U;rw[Jo];exact U.below (ao _ _)
 rw[<-Jo,<-hM];have Zw:=ah hM;clear Jo hM;refine(Xw.o W0 Xa).mono ?_;rintro e w1 ⟨rfl,Jx⟩;have Je:Bl w w1:=Xa.trans (Jx.mono Xa.size);have Yf:Hid (aN w1 (M+1) [nV,nV]):=Yj.o.below Jx;have Xn:=ah (Xz.o.below Jx);obtain⟨y0,y1,-,-⟩:=Xn.o.two;have Ve:M+2<=w1.heap.size:=by rw[<-Yc];exact Jx.size
 clear Jx Yj Xz Xw Xa Yc;go_wp2_with fail;refine(Yu.o w1 Je).mono ?_;rintro e w2 ⟨ua,un,uc,rfl,hu,Js⟩;have HU:=ah hu;have Jb:Bl w w2:=Je.trans (Js.mono Je.size);have Yr:Hid (aN w2 (M+1) [nV,nV]):=Yf.o.below Js;have Zs:=ah (Xn.o.below Js);have Z_:w1.heap.size<=w2.heap.size:=Js.size;clear y0 y1;obtain⟨y0,y1,-,-⟩:=Zs.o.two;have Zy:Hid (aN (w2.alloc (.cells #[.slice ua un uc,nV] 26)) w2.heap.size [.slice ua un uc,nV]):=nH _ _ _ _;have Va:M≠w2.heap.size:=o_;have Yb:(w2.alloc (.cells #[.slice ua un uc,nV] 26)).cell? ⟨M,1,none⟩=some (.slice af t.fc.length cf):=((Below.refl w2.heap.size w2).alloc n_ _ |>.cell (p:=⟨M,1,none⟩) (by show M<_;omega)).trans y1;clear hu Js Yf Xn Yu Je;go_wp2;go_loopw[17] (λi wr=>∃(k:Nat) (Q:List FV) (fa:Option Addr) (fc:Nat),k<=t.fc.length/\i=V k/\Q.map (λq:FV=>q.f)=J.take k/\cV (w2.heap.size+1) wr (.slice fa k fc) Q/\aN wr w2.heap.size [.slice ua un uc,.slice fa k fc]/\Bl w2 wr/\w2.heap.size<wr.heap.size) (λi _=>t.fc.length-(RowKit.intOf i).toNat)
 case atStart=>exact⟨0,[],none,0,y_,rfl,i_,cV.nil _ _,Zy,r_.alloc n_ _,i_⟩
 case round=>
  obtain⟨k,Q,fa,fc,hk,rfl,Yn,Jd,Yo,Xf,Zj⟩:=hrel;have Ja:=ah Jd;have Jw:=ah Yn;have Xg:=ah Yo;have Ju:Bl w wr:=Jb.trans (Xf.mono Jb.size);have J_:=ah Xf;clear Jd Yn Yo;by_cases Jz:k<t.fc.length
  ·obtain⟨b,Vc,rfl,Jr⟩:=Yx.o o_;have⟨vp,vb,⟨c0,c1,c2⟩,Yd,Yq⟩:=(Jr.below Ju) k Jz;have Ym:k<J.length:=o_
   have HC:=ah λW (hW:Bl wr W)=>Yg.o k Jz Ym vp vb W (Ju.trans (hW.mono Ju.size)) (Yd.below hW) (Yq.below hW);obtain⟨Jj,Jg,rfl,-⟩:=Yd;obtain⟨Ji,Jk,rfl,-⟩:=Yq;obtain⟨lp,Yy⟩:∃l,t.fc[k].pm.length=l:=⟨_,rfl⟩;obtain⟨lb,Yz⟩:∃l,t.fc[k].bd.length=l:=⟨_,rfl⟩;obtain⟨nm,X_⟩:∃l,t.fc[k].nm=l:=⟨_,rfl⟩;obtain⟨Jf,Jl⟩:∃l,J[k].nm=l:=⟨_,rfl⟩;rw[Yy]at c1 HC;rw[Yz]at c2 HC;rw[X_]at c0 HC;rw[Jl]at HC;have Zo:=ah Jl;have i1:(0:Int)<=(k:Int):=o_
   have i2:(k:Int)<(t.fc.length:Int):=o_;have⟨M5,Xb⟩:=q_ wr.heap.size;have⟨W5,Jv⟩:=q_ (wr.alloc (.cells #[sV nm,.slice Jj lp Jg,.slice Ji lb Jk] 52));have⟨I,Jc⟩:=q_ w2.heap.size;have Jq:Bl wr W5:=(by rw[Jv];exact r_.alloc n_ _);have Zi:W5.heap.size=M5+1:=(by rw[Jv,Xb];simp);have Xm:Hid (aN W5 M5 [sV nm,.slice Jj lp Jg,.slice Ji lb Jk]):=(by rw[Jv,Xb];exact zy _ _ _ _ _);have Xp:Hid (aN W5 I [.slice ua un uc,.slice fa k fc]):=(by rw[Jc];exact Xg.o.below Jq);have hd:Bl W5 W5.drew:=r_.drew;have Xt:Hid (Calls prog 17 #[.agg #[sV nm,.slice Jj lp Jg,.slice Ji lb Jk]] W5.drew λe w'=>∃pa Z pc ba bn bc R,e=rW (.agg #[sV Jf,.slice pa Z pc,.slice ba bn bc])/\pR W5.heap.size w' (.slice pa Z pc) (.slice ba bn bc) J[k] R/\Bl W5 w'):=by refine(HC.o W5.drew (Jq.trans (hd.mono Jq.size))).mono ?_;rintro e w' ⟨pa,Z,pc,ba,bn,bc,R,U,h2,h3⟩;exact⟨pa,Z,pc,ba,bn,bc,R,U,h2,hd.trans h3⟩
   have Xu:Hid (∀(wt:AT) (pa:Option Addr) (Z pc:Nat) (ba:Option Addr) (bn bc:Nat) (R:List SV),pR W5.heap.size wt (.slice pa Z pc) (.slice ba bn bc) J[k] R->Bl W5 wt->(aN wt M5 [sV nm,.slice Jj lp Jg,.slice Ji lb Jk]/\aN wt I [.slice ua un uc,.slice fa k fc]/\(wt.alloc (.cells #[sV Jf,.slice pa Z pc,.slice ba bn bc] 52)).cell? ⟨I,1,none⟩=some (.slice fa k fc))/\∃va vc w7 q,(Builtin.append_ #[24,24] 24 #[.slice fa k fc,rV wt.heap.size 1 1]).run prog (wt.alloc (.cells #[sV Jf,.slice pa Z pc,.slice ba bn bc] 52))=.ok (.slice va (k+1) vc) w7/\cV (I+1) w7 (.slice va (k+1) vc) (Q++[q])/\q.f=J[k]/\aN w7 I [.slice ua un uc,.slice fa k fc]/\aN w7 M5 [sV nm,.slice Jj lp Jg,.slice Ji lb Jk]/\Below I w2 w7/\I<w7.heap.size):=λwt pa Z pc ba bn bc R Xe Jh=>by
    have Vb:=Jh.size;have Yi:=Xm.o.below Jh;have Xl:=Xp.o.below Jh;have⟨kp,kb,Yt⟩:=Xe.fv;have Xj:Q.length=k:=by
     have:=congrArg List.length Jw.o
     simp only[J8,length_take]at this;omega
    have hA:Bl wt (wt.alloc (.cells #[sV Jf,.slice pa Z pc,.slice ba bn bc] 52)):=ao _ _;have Xk:Bl wr wt:=Jq.trans (Jh.mono Jq.size);have Jd:cV (I+1) (wt.alloc (.cells #[sV Jf,.slice pa Z pc,.slice ba bn bc] 52)) (.slice fa k fc) Q:=(by rw[Jc];exact(Ja.o.below Xk).below hA);have⟨v',w7,r1,r2,r3,r4⟩:=CF (c:=1) (ad:=⟨wt.heap.size,0,none⟩) 24 Jd ((Yt.below hA).base (show I+1<=_ by omega)) (λj x hx=>by
     have e:aX ⟨J[k],.slice pa Z pc,.slice ba bn bc,R,kp,kb⟩=[sV Jf,.slice pa Z pc,.slice ba bn bc]:=(by simp[aX,Zo.o]);rw[e]at hx;have:=(zy wt (sV Jf) (.slice pa Z pc) (.slice ba bn bc) 52 j x hx).1;simpa[dk]using this) (λg hg=>by
      have U:=(Yt.rng g hg).1;refine⟨λh=>?_,λh=>?_⟩
      ·have:=(Ja.o.rng g h).2;omega
      have:=(ownsRow.lt Ja.o.row g h).2;omega) ⟨rfl,rfl⟩ H6 o_
    obtain⟨va,vc,rfl⟩:=r2.shape;have hl:(Q++[(⟨J[k],.slice pa Z pc,.slice ba bn bc,R,kp,kb⟩:FV)]).length=k+1:=(by simp[Xj]);rw[hl]at r1 r2;have Jm:∀g,(Value.slice fa k fc).ownBlock=some g->I+1<=g/\g<M5:=λg hg=>by
     have:=ownsRow.lt Ja.o.row g hg
     omega
    refine⟨⟨Yi,Xl,(Xl.below hA).two.2.1⟩,va,vc,w7,_,r1,r2,rfl,?_,?_,?_,?_⟩
    ·exact(Xl.below hA).keep (r3.block I H6 (λe=>by have:=(Jm I e.symm).1;omega))
    ·exact(Yi.below hA).keep (r3.block M5 H6 (λe=>by have:=(Jm M5 e.symm).2;omega))
    ·have U:Below I w2 (wt.alloc (.cells #[sV Jf,.slice pa Z pc,.slice ba bn bc] 52)):=by rw[Jc];exact J_.o.trans ((Xk.trans (hA.mono Xk.size)).mono o_)
     exact U.grown r3 H6 (λg hg=>by have:=(Jm g hg).1;omega)
    have:=r3.size
    simp at this;omega
   have⟨d0,d1,d2⟩:=(Xm.o.below hd).three;obtain⟨-,e1,-,-⟩:=(Xp.o.below hd).two;have HK:Hid (∀(W:AT) (x:Nat) (y:BY),(W.cell? ⟨M5,0,none⟩=some (sV nm)/\W.cell? ⟨M5,1,none⟩=some (.slice Jj lp Jg)/\W.cell? ⟨M5,2,none⟩=some (.slice Ji lb Jk))->(W.setCell ⟨I,x,none⟩ y).cell? ⟨M5,0,none⟩=some (sV nm)/\(W.setCell ⟨I,x,none⟩ y).cell? ⟨M5,1,none⟩=some (.slice Jj lp Jg)/\(W.setCell ⟨I,x,none⟩ y).cell? ⟨M5,2,none⟩=some (.slice Ji lb Jk)):=λW x y h=>by have Xi:M5≠I:=o_;exact⟨(c_ (a:=⟨M5,0,none⟩) (Below.heap_setCell W ⟨I,x,none⟩ y _ Xi)).trans h.1,(c_ (a:=⟨M5,1,none⟩) (Below.heap_setCell W ⟨I,x,none⟩ y _ Xi)).trans h.2.1,(c_ (a:=⟨M5,2,none⟩) (Below.heap_setCell W ⟨I,x,none⟩ y _ Xi)).trans h.2.2⟩
   have Zh:Hid (J.take (k+1)=J.take k++[J[k]]):=take_succ_eq_append_getElem Ym;have Xs:=ah Jc;have Zb:=ah Xb;have Zr:=ah Jv;clear Yy Yz X_ Jl Jr Ju Yr Yg Yx y0 y1 Yb Jc Xb Jv Jq hd Zi Xf Zj HC;go_upto_region 7 with fail;rw[<-Zr.o,<-Zb.o,<-Xs.o];go_region_law
    (first
    | (go_simp;(with_reducible refine Calls.mono Xt.o ?_);intro x wt hx;obtain⟨pa,Z,pc,ba,bn,bc,R,Zg,Xe,Jh⟩:=hx;subst Zg;have⟨⟨f5,f3,Zk⟩,va,vc,w7,q',r1,Ya,Yp,Xo,Zp,Yw,Yl⟩:=Xu.o wt pa Z pc ba bn bc R Xe Jh;have et:=f3.two.2.1;obtain⟨-,g1,-,g3⟩:=Xo.two;clear f5 f3 Xe Jh)
    | (refine dW rfl _ _ _ rfl _ _ _ _ rfl rfl r1 ?_))
   all_goals (
    have Jt:Hid (∃(k':Nat) (Q':List FV) (Xh:Option Addr) (Xd:Nat),k'=k+1/\(Value.slice va (k+1) vc)=.slice Xh k' Xd/\Q'.map (λq:FV=>q.f)=J.take k'/\cV (I+1) (w7.setCell ⟨I,1,none⟩ (.slice va (k+1) vc)) (.slice Xh k' Xd) Q'/\aN (w7.setCell ⟨I,1,none⟩ (.slice va (k+1) vc)) I [.slice ua un uc,.slice Xh k' Xd]/\Below I w2 (w7.setCell ⟨I,1,none⟩ (.slice va (k+1) vc))/\I<(w7.setCell ⟨I,1,none⟩ (.slice va (k+1) vc)).heap.size):=by refine⟨k+1,Q++[q'],va,vc,rfl,rfl,?_,?_,Xo.set 1 _,Yw.setCell (p:=⟨I,1,none⟩) n_ _,IN Yl⟩;rw[map_append,Jw.o,Zh.o,map_cons,map_nil,Yp];exact Ya.keepB i_ (λg U h2=>Below.heap_setCell _ _ _ g (by show g≠I;omega))
    clear Ya Yp Xo Zp Yw Yl et Zk r1 Xu Xt Xm Xp Ja Jw Xg J_;go_wp2_with fail;rw[Xs.o]at Jt⊢;go_roundw
    case rel=>obtain⟨k',Q',Xh,Xd,rfl,hv,U,h2,h3,h4,h5⟩:=Jt.o;simp only[Value.slice.injEq]at hv;obtain⟨rfl,-,rfl⟩:=hv;exact⟨k+1,Q',va,vc,o_,by go_num,U,h2,h3,h4,h5⟩
    case measure=>simp[RowKit.intOf];omega)
  obtain rfl:k=t.fc.length:=(by omega);obtain⟨x0,x1,-,-⟩:=Xg.o.two;have⟨I,Jc⟩:=q_ w2.heap.size;have Jn:Q.map (λq:FV=>q.f)=J:=(by rw[Jw.o,take_of_length_le o_]);have Xj:Q.length=t.fc.length:=by
   have:=congrArg List.length Jn
   simp only[J8]at this;omega
  have Zq:Hid (Calls prog 18 #[.agg #[.slice ua un uc,.slice fa t.fc.length fc]] wr λe w'=>∃a n c,e=rW (.slice a n c)/\cV (I+1) w' (.slice a n c) (aY (cd t.gl J m) Q Q.length)/\Bl wr w'):=by have h:=nl t.gl Q m (I+1) (.slice ua un uc) (.slice fa t.fc.length fc) wr (by rw[Jn];exact Zx) o_ (λq hq=>Zc.o q (by rw[<-Jn];exact mem_map.2 ⟨q,hq,rfl⟩)) ⟨_,_,_,rfl⟩ (by rw[Jc];exact Ja) o_;rw[Jn]at h;refine h.mono ?_;rintro e w' ⟨v,rfl,U,h2⟩;obtain⟨a,c,rfl⟩:=U.shape;exact⟨a,_,c,rfl,U,h2⟩
  have Ye:Hid (Q.map (λq:FV=>q.f)=J/\Q.length=J.length):=⟨Jn,o_⟩;have Xs:=ah Jc;have Zn:Hid (aN wr (M+1) [nV,nV]):=Yr.o.below (by exact Xf);clear Jn Xj y0 y1 Yb Ja Jw Ju;go_wp2_with fail;refine Zq.o.mono ?_;rintro e w8 ⟨na,nn,nc,rfl,Xc,Jy⟩;have Yh:Hid (aN w8 I [.slice ua un uc,.slice fa t.fc.length fc]):=(by rw[Jc];exact Xg.o.below Jy);have Zm:Hid (aN w8 (M+1) [nV,nV]):=Zn.o.below Jy;have Xq:Bl w2 w8:=J_.o.trans (Jy.mono J_.o.size);have⟨W9,Jp⟩:=q_ (((w8.setCell ⟨I,1,none⟩ (.slice na nn nc)).setCell ⟨M+1,0,none⟩ (.slice ua un uc)).setCell ⟨M+1,1,none⟩ (.slice na nn nc));have Xr:∀g,g≠I->g≠M+1->W9.heap[g]? =w8.heap[g]? := λg U h2=>by rw[Jp,Below.heap_setCell _ _ _ g (IN h2),Below.heap_setCell _ _ _ g (IN h2),Below.heap_setCell _ _ _ g (IN U)]
  have Ys:w8.heap.size<=W9.heap.size:=(by rw[Jp];simp);have Ze:=Zw.o;have Zd:Hid (gq w.heap.size W9 (.slice ua un uc) (.slice na nn nc) ⟨t.gl,aY (cd t.gl J m) J J.length⟩ (aY (cd t.gl J m) Q Q.length)):=by
   have Yv:∀g,(Value.slice ua un uc).ownBlock=some g->w1.heap.size<=g/\g<w2.heap.size:=λg hg=>ownsRow.lt HU.o g hg;refine⟨?_,?_,?_,λg hg=>?_⟩
   refine pv (lg HU.o λg hg=>?_) o_;have⟨U,h2⟩:=Yv g hg;rw[Xr g o_ o_];exact Xq.block g h2;exact(Xc.keepB Ys (λg U h2=>Xr g o_ o_)).base o_;rw[A9,Ye.o.1,Ye.o.2]
   have⟨U,h2⟩:=Yv g hg;exact⟨λh=>by have:=(Xc.rng g h).1;omega,λh=>by have:=(ownsRow.lt Xc.row g h).1;omega⟩
  have Zl:Hid (Bl w W9):=by have U:Bl w w8:=Jb.trans (Xq.mono Jb.size);have h2:=Jb.size;rw[Jp];exact((U.setCell (p:=⟨I,1,none⟩) (by show _<=I;omega) _).setCell (p:=⟨M+1,0,none⟩) (by show _<=M+1;omega) _).setCell (p:=⟨M+1,1,none⟩) (by show _<=M+1;omega) _
  have Za:Hid (aN (w8.setCell ⟨I,1,none⟩ (.slice na nn nc)) I [.slice ua un uc,.slice na nn nc]):=Yh.o.set 1 _;have Yk:Hid (aN (w8.setCell ⟨I,1,none⟩ (.slice na nn nc)) (M+1) [nV,nV]):=Zm.o.keep (Below.heap_setCell _ _ _ _ (by show M+1≠I;omega));have Zu:Hid (aN W9 (M+1) [.slice ua un uc,.slice na nn nc]):=(by rw[Jp];exact(Yk.o.set 0 _).set 1 _);obtain⟨-,q1,-,q3⟩:=Yh.o.two;obtain⟨r0,r1,-,-⟩:=Za.o.two;have⟨s0,s1,s2,s3⟩:=Yk.o.two;obtain⟨t0,t1,-,-⟩:=Zu.o.two;have Y_:=ah Jp;clear Xc Jy Xq Xr Ys Ze Jp x0 x1;rw[<-Jc]at*;go_wp2_with fail;rw[<-Y_.o];refine bodyPost_ret (v:=.agg #[.slice ua un uc,.slice na nn nc]) (by simp[results,results5,go_sem,t0,t1]) rfl ⟨_,_,_,rfl,Zd,Zl⟩
end
section
variable{t:Tr}
def zA(h:(aQ t).1=0):∀g∈t.gl,0<=g.size:=λg hg=>by
 have:=(dA h).1
 unfold cM at this;simp only[J1,J2,all_eq_true]at this;have:=this.2.2.1 g hg;unfold dD at this;simp only[J1,J2]at this;exact this.2.1
theorem Sm.call{I:List Fu}{m:Nat}(h:Sm t I m)(fr fr':List Int):∀(N:Nat) (x:Io) (i:Nat),a_ t.fc x=some i->cd t.gl I m i=true->kq t (jx t I m) fr fr' N x:=by
 intro N;induction N with
 | zero=>
  intro x i J hp f hf n hn vs s v s' d z Z;obtain rfl:n=0:=by omega
  cases Z using Ev_i
 | succ N ih=>
  intro x i J hp f hf n hn vs s v s' d z Z Jd Jr Jh Jb;obtain rfl:f=i:=by rw[J]at hf;exact(Option.some.inj hf).symm
  cases n with
  | zero=>first | cases Z using Ev_i | cases Z
  | succ n=>
  obtain⟨hi,hj,e⟩:=h.get hp;have Jf:f<t.fc.length:=by rw[<-h.len];exact hi
  obtain⟨_,e1,e2,Jn,-⟩:=h.at Jf;have Jt:=Jh Jf;generalize hv:ER.val v=rv at Z;cases Z using Ev_i with
  | run n f vs z0 hf0 r s1 h1=>
   have Ja:(eU t.fc[f] vs).map Prod.fst=t.fc[f].pm:=by
    unfold eU;rw[map_fst_zip];omega
   have Jg:eU (jx t I m).fc[ph t I m f] vs=eU t.fc[f] vs:=(by unfold eU;rw[e,e2]);obtain⟨Jo,Jj⟩:=(dA h.ck).2.2 _ (g_ Jf);obtain⟨hd,Jp⟩:=p9 h.ck (g_ Jf);have hG:=rK Jp;have Jl:=wk _ n_ hG Jj.2;have Jc:∀y∈eU t.fc[f] vs,d7 y.2:=λy hy=>Jr _ (of_mem_zip hy).2;have Jk:Gs r:=by
    cases r using ER.cs with
    | on=>exact .inl rfl
    | ret w=>exact .inr ⟨w,rfl⟩
    | val w=>exact absurd rfl (h1.nov rfl w)
    | out c=>cases hv
   have Jm:Cx t d {s with l:=eU t.fc[f] vs,n:=s.n+fr.getD f 0,d:=max s.d (s.n+fr.getD f 0)} {z with l:=eU t.fc[f] vs,n:=z.n+fr'.getD (ph t I m f) 0,d:=max z.d (z.n+fr'.getD (ph t I m f) 0)} t.fc[f].pm:=
    ⟨⟨Jd.g,Jc,Jd.i⟩,⟨by rw[show z.g=s.g from Jb.g];exact Jd.g,Jc,by rw[show z.i=s.i from Jb.i];exact Jd.i⟩,⟨Jb.g,Jb.i,Jb.o,Jb.u,λx _=>rfl,λx J=>DL (zA h.ck) (Jj.2 x (by rw[<-Ja];exact J))⟩,λx J=>by rw[<-Ja];exact J,λx J=>by rw[<-Ja];exact J⟩
   obtain⟨k,U,e3,hR⟩:=(FK (t:=t) (t':=jx t I m) (fr:=fr) (fr':=fr') rfl (zA h.ck) n).2.1 _ _ _ t.fc[f].pm _ r s1 d _ Jn (by show Gd t _ ((eU t.fc[f] vs).map Prod.fst) _ _;rw[Ja];exact hG) Jl h1 Jk Jm (λy hy nd hnd h4=>by
    obtain⟨g,hg,pg,-⟩:=h.calls hp hi hy hnd h4;intro f2 Jq n2 Js;exact ih nd.nm g hg pg f2 Jq n2 o_)
   have Ji:=Ev.run (t:=jx t I m) (fr:=fr') k (ph t I m f) vs z hj r U (by rw[Jg,e];exact e3);have Je:U.g=s1.g/\U.i=s1.i/\U.o=s1.o/\s1.u+d<=U.u:=by
    rcases hR with⟨-,q,-⟩|⟨-,q⟩
    ·exact⟨q.g,q.i,q.o,q.u⟩
    ·exact q
   exact⟨ph t I m f,k+1,_,h.num J hp,Ji,⟨Je.1,Je.2.1,Je.2.2.1,Je.2.2.2,Jb.l,Jb.n⟩,rfl⟩
end
section
open Go.RowKit
variable{t r:Tr}{B:Nat}{w w':AT}{vg vf:BY}{Q:List FV}
def wl(h:(aQ t).1=0):∃m,a_ t.fc dt=some m:=by have I:=kw h;by_cases hn:(bJ t).1=0;exact iC hn;rw[gu I hn]at h;exact absurd h hn
def jr.exists(t:Tr):∃r,jr t r:=by
 unfold jr;by_cases h:(aQ t).1=0
 have⟨m,I⟩:=wl h;have⟨fs,Ja⟩:=lx.exists t.fc;simp only[if_pos h];exact⟨_,fs,m,Ja,I,rfl⟩
 simp only[if_neg h];exact⟨_,rfl⟩
def jr.ok(h:jr t r):r.gl.length<=50/\r.fc.length<=50/\∀f∈r.fc,Gj f:=by
 unfold jr at h;by_cases hc:(aQ t).1=0;rw[if_pos hc]at h;obtain⟨fs,m,I,h2,rfl⟩:=h;obtain⟨U,p2,-,J⟩:=qd (kw hc);refine⟨U,?_,λf hf=>?_⟩
 have:=mi (cd t.gl fs m) fs fs.length
 have:=I.1
 show(aY _ fs fs.length).length<=50;omega
 obtain⟨j,Z,rfl⟩:=mem_iff_getElem.1 (A8 hf);have hl:=I.1;exact(I.2 j o_ Z).ok (J _ (g_ o_));rw[if_neg hc]at h;subst h;exact⟨i_,i_,λf hf=>by cases hf⟩
def jr.small(h:jr t r):eQ r:=by have⟨I,h2,h3⟩:=h.ok;exact⟨o_,o_,λf hf=>(h3 f hf).small⟩
def wu(t r:Tr)(vg vf:BY)(w:AT)(I:jr t r)(Z:gF w)(hs:eQ t)(J:yq t)(hg:cD w vg t.gl)(U:bj w vf t.fc):
  Calls prog 5 #[.agg #[vg,vf]] w λe w'=>∃ga gn gc fa fn fc Q,e=rW (.agg #[.slice ga gn gc,.slice fa fn fc])/\gq w.heap.size w' (.slice ga gn gc) (.slice fa fn fc) r Q/\Bl w w':=by
 have Jc:Calls prog 5 #[.agg #[vg,vf]] w λe w'=>∃Ja Jb Q,e=rW (.agg #[Ja,Jb])/\gq w.heap.size w' Ja Jb r Q/\Bl w w':=by unfold jr at I;by_cases hc:(aQ t).1=0;rw[if_pos hc]at I;obtain⟨fs,m,h,h2,rfl⟩:=I;exact qe t fs m vg vf w Z hs J hg U hc h h2;rw[if_neg hc]at I;subst I;exact qF t vg vf w Z hs J hg U hc
 refine Jc.mono ?_;rintro e w' ⟨Ja,Jb,Q,rfl,h,h2⟩;obtain⟨a,n,c,rfl⟩:∃a n c,Ja=.slice a n c:=by rcases h.gs.2 with⟨rfl,-⟩|⟨g,Jd,Je,rfl,-⟩ <;> exact⟨_,_,_,rfl⟩
 obtain⟨a',c',rfl⟩:=h.fs.shape;exact⟨a,n,c,a',_,c',Q,rfl,h,h2⟩
def gq.read(h:gq B w vg vf r Q):cD w vg r.gl/\bj w vf r.fc:=by obtain⟨K,I,-⟩:=iM.of_own h.gs;refine⟨I.globs,?_⟩;rw[<-h.map];exact h.fs.fc
end
section
open Go.RowKit
variable{t:Tr}{i:List Int}{m:Nat}
def EvS(t:Tr)(i fr:List Int)(st:Int)(o:List Int)(ex us dp:Int):Prop:=∀(W:AT) (xg xf xI xF:BY),gF W->eQ t->yq t->cD W xg t.gl->bj W xf t.fc->nL W xI i->nL W xF fr->Calls prog 9 #[.agg #[xg,xf],xI,V 3000,xF] W λe w'=>∃v,e=rW (.agg #[V st,v,V ex,V us,V dp])/\w'.ownsRow W.heap.size 2 1 v o.length (o.map (Value.int .i64))/\Bl W w'
def yh(n:Nat):List Int:=List.replicate n 0
def zB(h:(aQ t).1=0)(hi:i.length<=1000)(hw:i.all jl=true):Du t i (yh t.fc.length) 3000:=
 ⟨h,hi,hw,o_,by simp[yh],by rw[all_eq_true];intro x hx;rw[eq_of_mem_replicate hx];decide⟩
def qg{fr:List Int}(h:Du t i fr 3000){n:Nat}{r:ER}{s':ES}(hm:a_ t.fc dt=some m)(hE:Ev t fr n (.c m []) (sL t i 3000) r s'):EvS t i fr (Ju r) s'.o (dg r) (3000-s'.u) s'.d:=λW xg xf xI xF h0 h1 h2 h3 h4 h5 h6=>ye t xg xf xI xF i fr 3000 W h0 h1 h2 h3 h4 h5 h6 h hm hE
theorem Sm.two{I:List Fu}(h:Sm t I m)(hi:i.length<=1000)(U:i.all jl=true):∃st o ex us dp st2 o2 ex2 us2 dp2,EvS t i (yh t.fc.length) st o ex us dp/\EvS (jx t I m) i (yh (jx t I m).fc.length) st2 o2 ex2 us2 dp2/\(st≠1\/(st2=1/\o2=o/\ex2=ex/\us2<=us)):=by
 have hp:cd t.gl I m m=true:=dh.2 (.inl rfl);have Jb:=h.num h.mn hp;have Je:=zB h.ck hi U;have Ja:=zB h.sound hi U;have Jc:=dE h.mn;obtain⟨n,r,s',J,-⟩:=yZ (yh t.fc.length) h.ck m Jc [] (sL t i 3000);have Z:=qg Je h.mn J;by_cases hv:∃v,r=.val v
 ·obtain⟨v,rfl⟩:=hv;have Jd:OkW (sL t i 3000):=by
   refine⟨λws hws x hx=>?_,(λx hx=>by cases hx),λx hx=>?_⟩
   ·obtain⟨g,-,rfl⟩:=mem_map.1 hws;rw[eq_of_mem_replicate hx];exact wM
   ·have:=all_eq_true.1 U x hx
    simpa[jl,d7]using this
  obtain⟨f',k,z',e1,e2,e3,-⟩:=h.call (yh t.fc.length) (yh (jx t I m).fc.length) n dt m h.mn hp m h.mn n n_ [] (sL t i 3000) v s' 0 (sL (jx t I m) i 3000) J Jd (λy hy=>by cases hy) (λhf=>uZ h.ck h.mn hf) ⟨rfl,rfl,rfl,n_,λx hx=>rfl,λx hx=>by cases hx⟩;have hB:=qg Ja e1 e2;exact⟨_,_,_,_,_,_,_,_,_,_,Z,hB,.inr ⟨rfl,e3.o,rfl,Ka e3.u⟩⟩
 ·obtain⟨n2,r2,s2,Jf,-⟩:=yZ (yh (jx t I m).fc.length) h.sound _ (dE Jb) [] (sL (jx t I m) i 3000);refine⟨_,_,_,_,_,_,_,_,_,_,Z,qg Ja Jb Jf,.inl ?_⟩;cases r using ER.cs with
  | val v=>exact absurd ⟨v,rfl⟩ hv
  | out c=>rcases J.outc c rfl with e|e <;> (subst e;decide)
  | on=>
   generalize hr:ER.on=rr at J;cases J using Ev_i with
   | run n f vs z hf r z' h1=>cases r using ER.cs <;> cases hr
  | ret v=>
   generalize hr:ER.ret v=rr at J;cases J using Ev_i with
   | run n f vs z hf r z' h1=>cases r using ER.cs <;> cases hr
end

