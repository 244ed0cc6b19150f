import Derived.ProofKit
import Derived.Deep.CutRange
import Derived.Test.YtjfmapphpijneaaGreatDoorS69
import Derived.Test.YtjfmapphpijneaaGreatDoorS13
namespace Go.Proofs.YtjfmapphpijneaaGreatDoor
set_option linter.all false
set_option maxRecDepth 100000
set_option maxHeartbeats 0
open Go.Value Go.World List Go.RowKit
variable[Inhabited Pick]
section
variable{listed l:Array Bool}{i id n:Nat}{md:Region.Mode}{ops:Array Oper}{P:Program}{a a0:Act}{w w0:AT}{t:Tmp}{v:BY}
def GM(listed:Array Bool):Nat:=listed.toList.countP (λb=> !b)
def yI(h:listed.getD i true=false):GM (listed.setIfInBounds i true)+1=GM listed:=by
 have J:i<listed.size:=by by_cases hlt:i<listed.size;exact hlt;simp[Array.getD,hlt]at h
 have I:listed[i]=false:=by simpa[Array.getD,J]using h
 unfold GM;have e:(listed.setIfInBounds i true).toList=listed.toList.set i true:=i_;rw[e,countP_set (IN J)];have U:0<listed.toList.countP (λb=> !b):=by rw[countP_pos_iff];exact⟨listed[i],i_,by simp[I]⟩
 simp only[Array.getElem_toList,I,Bool.not_false,Bool.not_true,if_true,Bool.false_eq_true,if_false];omega
def so(h:GM listed=0):Region.ready md ops listed=[]:=by rw[eq_nil_iff_forall_not_mem];intro i I;have:=yI (mem_ready.1 I).1;omega
def qj(n:Nat):GM (Array.replicate n false)=n:=by simp[GM,countP_replicate]
theorem qT{P:Program}{md:Region.Mode}{ops:Array Oper}{Q:Exit->Act->AT->Prop}(I:Array Bool->Act->AT->Prop)
  (step:∀listed a w,I listed a w->∀i∈Region.ready md ops listed,wpOp P ops Q i (I (listed.setIfInBounds i true)) a w)
  (fin:∀listed a w,I listed a w->Region.ready md ops listed=[]->Q .normal a w):
  ∀(fuel:Nat) (listed:Array Bool) (a:Act) (w:AT),GM listed<=fuel->I listed a w->wpAny P md ops Q fuel listed a w
 | 0,listed,a,w,hu,hI=>by have hr:=so (md:=md) (ops:=ops) (listed:=listed) o_;exact⟨hr,fin listed a w hI hr⟩
 | fuel+1,listed,a,w,hu,hI=>⟨λhr=>fin listed a w hI hr,λi hi=>wpOp_mono (λa' w' h'=>qT I step fin fuel _ a' w' (by have:=yI (mem_ready.1 hi).1;omega) h') (step listed a w hI i hi)⟩
def qk{Q:Exit->Act->AT->Prop}(hm:P.follows .mixedOrders=true)(I:Array Bool->Act->AT->Prop)
  (step:∀listed a w,I listed a w->∀i∈Region.ready .any ops listed,wpOp P ops Q i (I (listed.setIfInBounds i true)) a w)
  (fin:∀listed a w,I listed a w->Region.ready .any ops listed=[]->Q .normal a w) (h0:I (Array.replicate ops.size false) a w.drew):(Code.region id ops true).wp P Q a w:=
 wp_region_any hm (qT I step fin ops.size _ a _ (by rw[qj];exact n_) h0)
structure Gr (ops:Array Oper) (n:Nat) (d:Nat->Tmp):Prop where
 size:ops.size=n+1
 op:∀i,i<n->∃o,ops[i]? =some o/\o.dst=some (d i)/\o.guard=none/\∀e∈o.after,e.on<i/\Region.binds .any e=true
 inj:∀i j,i<n->j<n->d i=d j->i=j
 last:∃o,ops[n]? =some o/\o.guard=none/\(∀i,i<n->∃e∈o.after,e.on=i/\Region.binds .any e=true)/\∀e∈o.after,e.on<n
def dv(h:l.getD i false=true):l.getD i true=true:=by by_cases hi:i<l.size;simp[Array.getD,hi]at h⊢;exact h;simp[Array.getD,hi]
def h_(I:i<l.size)(h:l.getD i true=true):l.getD i false=true:=by simp[Array.getD,I]at h⊢;exact h
def ql:(l.setIfInBounds i true).getD i true=true:=by by_cases hi:i<l.size <;> simp[Array.getD,hi]
def ic{j:Nat}(h:i≠j):(l.setIfInBounds i true).getD j true=l.getD j true:=by by_cases hj:j<l.size;simp[Array.getD,hj,h];simp[Array.getD,hj]
def qm(h:t<a.tmps.size):(a.put (some t) v).eval (.tmp t)=v:=by simp[Act.eval,Act.put,h]
def oS{s:Tmp}(h:t≠s):(a.put (some t) v).eval (.tmp s)=a.eval (.tmp s):=
 Act.eval_put λd hd he=>by simp at hd he;exact h (hd.trans he.symm)
structure IP (n:Nat) (d:Nat->Tmp) (R:Nat->BY->AT->Prop) (O:Nat->BY->List Nat) (a0:Act) (w0:AT) (done:Ft) (a:Act) (w:AT):Prop where
 defers:a.defers=a0.defers
 tsize:a.tmps.size=a0.tmps.size
 frame:∀t,(∀j,j<n->d j≠t)->a.tmps[t]? =a0.tmps[t]?
 below:Bl w0 w
 rel:∀i,i<n->done i->R i (a.eval (.tmp (d i))) w
 own:∀i,i<n->done i->∀g∈O i (a.eval (.tmp (d i))),w0.heap.size<=g/\g<w.heap.size
 apart:∀i j,i<n->j<n->i≠j->done i->done j->∀g∈O i (a.eval (.tmp (d i))),g∉O j (a.eval (.tmp (d j)))
def IP.step{d:Nat->Tmp}{R:Nat->BY->AT->Prop}{O:Nat->BY->List Nat}{Jd Jc:Ft}{w':AT} 
  (Jg:∀i v w w',R i v w->(∀g∈O i v,g<w.heap.size)->Bl w w'->R i v w')
  (Ji:∀i j,i<n->j<n->d i=d j->i=j) (hd:∀j,j<n->d j<a0.tmps.size) (h:IP n d R O a0 w0 Jd a w) (hi:i<n) (Ja:∀j,Jc j->j=i\/Jd j)
  (hR:R i v w') (Z:Bl w w') (U:∀g∈O i v,w.heap.size<=g/\g<w'.heap.size):IP n d R O a0 w0 Jc (a.put (some (d i)) v) w':=by
 have hs:d i<a.tmps.size:=by rw[h.tsize];exact hd i hi
 have Jh:=h.below.size;have J:∀j,j<n->j≠i->(a.put (some (d i)) v).eval (.tmp (d j))=a.eval (.tmp (d j)):=λj hj hne=>oS λe=>hne (Ji j i hj hi e.symm);have Je:(a.put (some (d i)) v).eval (.tmp (d i))=v:=qm hs;refine⟨h.defers,by simp[Act.put];exact h.tsize,λt ht=>?_,h.below.trans (Z.mono Jh),λj hj hdj=>?_,λj hj hdj=>?_,λj k hj hk hne hdj hdk=>?_⟩
 rw[<-h.frame t ht];have:d i≠t:=ht i hi;simp[Act.put,Array.getElem?_setIfInBounds_ne this];by_cases hji:j=i;subst hji;rw[Je];exact hR;rw[J j hj hji];have Jb:=(Ja j hdj).resolve_left hji;exact Jg j _ w w' (h.rel j hj Jb) (λg I=>(h.own j hj Jb g I).2) Z;by_cases hji:j=i;subst hji;rw[Je];exact λg I=>⟨t_ Jh (U g I).1,(U g I).2⟩
 rw[J j hj hji];have Jb:=(Ja j hdj).resolve_left hji;exact λg I=>⟨(h.own j hj Jb g I).1,l_ (h.own j hj Jb g I).2 Z.size⟩
 by_cases hji:j=i;subst hji;rw[Je,J k hk (λe=>hne e.symm)];have Jb:=(Ja k hdk).resolve_left (λe=>hne e.symm);intro g I Jf;have h1:=(U g I).1;have h2:=(h.own k hk Jb g Jf).2;omega;by_cases hki:k=i;subst hki;rw[Je,J j hj hji];have Jb:=(Ja j hdj).resolve_left hji;intro g I Jf;have h1:=(U g Jf).1;have h2:=(h.own j hj Jb g I).2;omega;rw[J j hj hji,J k hk hki];exact h.apart j k hj hk hne ((Ja j hdj).resolve_left hji) ((Ja k hdk).resolve_left hki)
theorem oT{Q:Exit->Act->AT->Prop}(hm:P.follows .mixedOrders=true){d:Nat->Tmp}(G:Gr ops n d)
  (R:Nat->BY->AT->Prop) (O:Nat->BY->List Nat) (Jh:∀i v w w',R i v w->(∀g∈O i v,g<w.heap.size)->Bl w w'->R i v w') (hd:∀j,j<n->d j<a0.tmps.size)
  (step:∀i o,i<n->ops[i]? =some o->∀a w,a.defers=a0.defers->a.tmps.size=a0.tmps.size->(∀t,(∀j,j<n->d j≠t)->a.tmps[t]? =a0.tmps[t]?)->Bl w0 w->(∀e∈o.after,R e.on (a.eval (.tmp (d e.on))) w)->(∀e∈o.after,∀g∈O e.on (a.eval (.tmp (d e.on))),w0.heap.size<=g/\g<w.heap.size) ->
   (∀e∈o.after,∀f∈o.after,e.on≠f.on->∀g∈O e.on (a.eval (.tmp (d e.on))),g∉O f.on (a.eval (.tmp (d f.on)))) ->
   o.wp P a w (λa' w'=>∃v,a'=a.put (some (d i)) v/\R i v w'/\Bl w w'/\∀g∈O i v,w.heap.size<=g/\g<w'.heap.size) Q)
  (Jl:∀o,ops[n]? =some o->∀a w,IP n d R O a0 w0 (λ_=>True) a w->o.wp P a w (λa' w'=>Q .normal a' w') Q):(Code.region id ops true).wp P Q a0 w0:=by
 refine qk hm (λlisted a w=>(listed.size=n+1/\listed.getD n true=false/\IP n d R O a0 w0 (λi=>listed.getD i true=true) a w)\/(Q .normal a w/\∀i,listed.getD i true=true)) ?_ ?_ ?_
 ·rintro listed a w (⟨hsz,hn,hI⟩|⟨_,Ja⟩) i hi
  ·have⟨hu,o,U,Jc⟩:=mem_ready.1 hi;have Jm:i<n+1:=by rw[<-G.size];exact(Array.getElem?_eq_some_iff.mp U).1
   by_cases hlt:i<n
   have⟨o',Jf,Ji,hg,Jb⟩:=G.op i hlt;obtain rfl:o=o':=(by rw[U]at Jf;exact Option.some.inj Jf);unfold wpOp;simp only[U];rw[if_pos (by simp[Region.wanted,hg])];refine .inl (Oper.wp_mono ?_ (step i o hlt U a w hI.defers hI.tsize hI.frame hI.below (λe I=>?_) (λe I=>?_) (λe I f hf hne=>?_)))
   rintro a' w' ⟨v,rfl,hR,hB,hO⟩;refine .inl ⟨IN hsz,by rw[ic o_];exact hn,hI.step Jh G.inj hd hlt (λj J=>?_) hR hB hO⟩;by_cases hji:j=i;exact .inl hji;exact .inr (by rwa[ic (λe=>hji e.symm)]at J);exact hI.rel e.on (Nat.lt_trans (Jb e I).1 hlt) (dv (Jc e I (Jb e I).2));exact hI.own e.on (Nat.lt_trans (Jb e I).1 hlt) (dv (Jc e I (Jb e I).2));exact hI.apart e.on f.on (Nat.lt_trans (Jb e I).1 hlt) (Nat.lt_trans (Jb f hf).1 hlt) hne (dv (Jc e I (Jb e I).2)) (dv (Jc f hf (Jb f hf).2));obtain rfl:i=n:=(by omega);have⟨o',Jf,hg,Je,_⟩:=G.last;obtain rfl:o=o':=(by rw[U]at Jf;exact Option.some.inj Jf);have Ja:∀j,j<i->listed.getD j true=true:=λj J=>by obtain⟨e,I,rfl,Z⟩:=Je j J;exact dv (Jc e I Z)
   unfold wpOp;simp only[U];rw[if_pos (by simp[Region.wanted,hg])];refine .inl (Oper.wp_mono ?_ (Jl o U a w ⟨hI.defers,hI.tsize,hI.frame,hI.below,λj J _=>hI.rel j J (Ja j J),λj J _=>hI.own j J (Ja j J),λj k J hk hne _ _=>hI.apart j k J hk hne (Ja j J) (Ja k hk)⟩));intro a' w' hq;refine .inr ⟨hq,λj=>?_⟩;by_cases hji:j=i;subst hji;exact ql;rw[ic (λe=>hji e.symm)];by_cases J:j<i;exact Ja j J
   have:¬j<listed.size:=o_
   simp[Array.getD,this]
  have:=(mem_ready.1 hi).1
  rw[Ja i]at this;cases this
 ·rintro listed a w (⟨hsz,hn,hI⟩|⟨hq,_⟩) hr
  ·exfalso
   have Jj:∀m,∀j,j<m->j<=n->listed.getD j true=true:=by
    intro m;induction m with
    | zero=>intro j J;omega
    | succ m ih=>
     intro j J Jk;by_cases hjm:j<m;exact ih j hjm Jk;obtain rfl:j=m:=(by omega);cases Z:listed.getD j true with
     | true=>rfl
     | false=>
      exfalso;have Jg:j∈Region.ready .any ops listed:=by
       rw[mem_ready];refine⟨Z,?_⟩;by_cases hlt:j<n
       ·have⟨o,U,_,_,Jb⟩:=G.op j hlt;exact⟨o,U,λe I _=>h_ (by have:=(Jb e I).1;omega) (ih e.on (Jb e I).1 (by have:=(Jb e I).1;omega))⟩
       obtain rfl:j=n:=(by omega);have⟨o,U,_,_,Jd⟩:=G.last;exact⟨o,U,λe I _=>h_ (Ka (Jd e I)) (ih e.on (Jd e I) (Ka (Jd e I)))⟩
      rw[hr]at Jg;cases Jg
   rw[Jj (n+1) n (Nat.lt_succ_self _) n_]at hn;cases hn
  exact hq
 refine .inl ⟨by simp[G.size],by simp[Array.getD,G.size],⟨rfl,rfl,λ_ _=>rfl,r_.drew,λi hi h=>?_,λi hi h=>?_,λi j hi J hne h=>?_⟩⟩ <;>
  (exfalso;simp[Array.getD,G.size]at h;omega)
end
section
open Go.Proofs.Tryz
section
variable{w:AT}
def sR{P:Program}(base:Nat)(t J e:JZ)(i:TypeInfo)(z:BY)(size bytes:Nat)(Z:P.underlying t=some (.slice e))(hi:P.info? e=some i)(hz:i.zero=some z)
  (Ja:i.size=size) (Jf:i.bytes=bytes) (Jh:z.cells.size=size) (Jg:0<size) (b:Nat) (Jd:w.ownsRow base e size (rV b 0 0) 0 [])
  (a:Addr) (m c:Nat) (us:List BY) (hl:us.length=m*size) (hc:∀j u,us[j]? =some u->w.cell? (a.add j)=some u) (h1:∀u∈us,u.oneCell'=true)
  (Ji:1<=m) (hm:m<=10000000) (Je:bytes<=1000) (Jb:base<=w.heap.size):
  ∃cap w',(Builtin.append_ #[t,t] J #[rV b 0 0,.slice (some a) m c]).run P w=.ok (rV w.heap.size m cap) w'/\w'.ownsRow base e size (rV w.heap.size m cap) m us/\Bl w w':=by
 obtain⟨v',w',U,r2,-,-⟩:=cU (P:=P) (w:=w) base t J e i z size bytes Z hi hz Ja Jf Jh Jg _ 0 [] Jd (some a) m c us (λe=>by cases e) hl (λad had=>by cases had;exact hc) h1 o_ Je Jb;have Jc:(0+m)*bytes<=140737488355328:=by
  have:(0+m)*bytes<=10000000*1000:=Nat.mul_le_mul o_ Je
  omega
 have I:=run_append_grow (P:=P) (w:=w) t J e i z Z hi hz ⟨b,0,none⟩ 0 0 [] i_ (λj v h=>by simp at h) a m c us (by rw[Ja];exact hl) hc o_ o_ (by rw[Jf];exact growslice_fits o_ o_);rw[U]at I;simp only[Result.ok.injEq,Nat.zero_add]at I;obtain⟨rfl,rfl⟩:=I;refine⟨_,_,U,IN r2,(r_.drew).alloc i_ _⟩
def mN{v:BY}{gs:List Gl}(h:cD w v gs)(hp:0<gs.length):∃ad c,v=.slice (some ad) gs.length c/\∀j u,(dw gs)[j]? =some u->w.cell? (ad.add j)=some u:=by
 obtain⟨a,Jc,rfl,-,-,h⟩:=h;obtain⟨b,Jb,rfl,U⟩:=h hp;refine⟨⟨b,Jb,none⟩,Jc,rfl,λj u hu=>?_⟩;have hj:j<gs.length*2:=by rw[<-ka];exact(List.getElem?_eq_some_iff.1 hu).1
 have e:j=j / 2*2+j%2:=o_;have Ja:j / 2<gs.length:=o_;have⟨J,Z⟩:=U (j / 2) Ja;have I:=kc gs (j / 2) (j%2) Ja o_;rw[<-e,hu]at I;rw[dk];have h2:j%2=0\/j%2=1:=o_;rcases h2 with h2|h2;rw[h2]at I e;simp[AQ]at I;rw[e,I];exact J;rw[h2]at I e;simp[AQ]at I;rw[e,<-Nat.add_assoc,I];exact Z
end
section
variable{g M len cap O R4 N fl gl b c b' c' bb bn bc:Nat}{a:Option Addr}{w W W':AT}{gs:List Gl}{Q:List FV}{R:List SV}
structure PP (g M:Nat) (a:Option Addr) (len cap O R4 N fl gl:Nat) (w W:AT) (b c b' c':Nat) (gs:List Gl) (Q:List FV):Prop where
 box:aN W O [rV b gl c,rV b' fl c']
 res:aN W R4 [nV,nV]
 gr:GR N W (rV b gl c) gs
 fr:F2 (λk=>k<M\/w.heap.size<=k) N W (rV b' fl c') Q
 ln:Q.length=fl/\1<=fl/\fl<=20/\gs.length=gl/\1<=gl/\gl<=20
 gn:∀x∈gs,x.nm.size<=100000
 ob:∀x∈Q,1<=x.R.length/\x.R.length<=10000/\x.f.pm.length<=20/\∀s∈x.f.bd,s.e.length<=3000
 cur:ew g a len cap W
 tcs:aj (S0 g) w W
 ne:O≠b/\O≠b'/\b≠b'
 lo:(g<M/\M<=w.heap.size)/\w.heap.size<=R4/\R4<N/\N<=O/\O<W.heap.size
def PP.past{S:Ft}(h:PP g M a len cap O R4 N fl gl w W b c b' c' gs Q)(J:aj S W W')(hc:ew g a len cap W')(I:∀k,S k->(k=g\/w.heap.size<=k)/\k≠O/\k≠R4/\k≠b/\k≠b'):PP g M a len cap O R4 N fl gl w W' b c b' c' gs Q:=by
 have⟨Z,l1,l2,l3,U⟩:=h.lo;have Ja:R4<W.heap.size:=o_;refine⟨h.box.tcs U J (λe=>(I _ e).2.1 rfl),h.res.tcs Ja J (λe=>(I _ e).2.2.1 rfl),gN h.gr J (λk hk e=>?_),⟨h.fr.row.past J (λk hk=>(I k hk).1.imp (λe=>by omega) id) (λk hk e=>?_),h.fr.ok⟩,h.ln,h.gn,h.ob,hc,h.tcs.next J (λk hk=>(I k hk).1),h.ne,⟨Z,l1,l2,l3,Ka J.size⟩⟩
 simp only[ownBlock,J0]at hk;exact(I _ e).2.2.2.1 hk.symm;simp only[ownBlock,J0]at hk;exact(I _ e).2.2.2.2 hk.symm
def PP.rng(h:PP g M a len cap O R4 N fl gl w W b c b' c' gs Q):(N<=b/\b<W.heap.size)/\(N<=b'/\b'<W.heap.size):=⟨ownsRow.lt h.gr b rfl,h.fr.rng b' rfl⟩
def PP.dr(h:PP g M a len cap O R4 N fl gl w W b c b' c' gs Q)(hd:Dr g a len cap (S0 g) W W'):PP g M a len cap O R4 N fl gl w W' b c b' c' gs Q:=
 h.past hd.tcs hd.cur (λk hk=>by
  have e:k=g:=hk;have:=h.rng
  have:=h.lo
  exact⟨.inl e,o_,o_,o_,o_⟩)
def PP.below(h:PP g M a len cap O R4 N fl gl w W b c b' c' gs Q)(hb:Bl W W'):PP g M a len cap O R4 N fl gl w W' b c b' c' gs Q:=
 h.past (hb.tcs (S:=λ_=>False)) (h.cur.below hb) (λk hk=>hk.elim)
structure QP (g M:Nat) (a:Option Addr) (len cap O R4 N fl gl:Nat) (w W:AT) (b c b' c':Nat) (gs:List Gl) (Q:List FV) (bb bn bc:Nat) (R:List SV):Prop where
 pp:PP g M a len cap O R4 N fl gl w W b c b' c' gs Q
 br:BR (λk=>k<M\/w.heap.size<=k) N W (rV bb bn bc) R
 rl:R.length=bn/\1<=bn/\bn<=10000
 es:∀x∈R,x.s.e.length<=3000
 bne:bb≠O/\bb≠b/\bb≠b'
def QP.dr(h:QP g M a len cap O R4 N fl gl w W b c b' c' gs Q bb bn bc R)(hd:Dr g a len cap (S0 g) W W'):QP g M a len cap O R4 N fl gl w W' b c b' c' gs Q bb bn bc R:=
 ⟨h.pp.dr hd,⟨h.br.row.past hd.tcs (λk hk=>.inl (by have e:k=g:=hk;have:=h.pp.lo;omega)) (λk hk e=>by
  have e:k=g:=e;have:=(h.br.rng k hk).1
  have:=h.pp.lo
  omega),h.br.ok⟩,h.rl,h.es,h.bne⟩
def PP.copy(h:PP g M a len cap O R4 N fl gl w W b c b' c' gs Q)(f:Nat)(hf:f<fl)(ty:JZ):
  ∃ba bo bn bc,W.cell? ⟨b',f*3+2,none⟩=some (.slice (some ⟨ba,bo,none⟩) bn bc)/\(W.alloc (.cells #[] 79)).cell? ⟨b',f*3+2,none⟩=some (.slice (some ⟨ba,bo,none⟩) bn bc)/\∃bb cap' w',(Builtin.append_ #[50,50] ty #[rV W.heap.size 0 0,.slice (some ⟨ba,bo,none⟩) bn bc]).run prog (W.alloc (.cells #[] 79))=.ok (rV bb bn cap') w'/\∃R,QP g M a len cap O R4 N fl gl w w' b c b' c' gs Q bb bn cap' R:=by
 have⟨l0,l1,l2,l3,l4⟩:=h.lo;have⟨q1,q2,q3,q4,q5,q6⟩:=h.ln;have⟨e1,e2,I⟩:=h.ne;have⟨⟨s1,s2⟩,s3,s4⟩:=h.rng;have⟨i0,hi,Jk,Jm,Jn⟩:=info_parts gS;have Ji:f<Q.length:=o_;have J:Q[f]∈Q:=g_ Ji;obtain⟨o1,o2,-,o4⟩:=h.ob _ J;have Jb:=λW' (hW':aj (λk=>k<M\/w.heap.size<=k) W W')=>h.fr.row.st W' (hW'.mono λk hk=>.inl hk) Q[f] J;obtain⟨⟨va,vc,U,-,-,Jc⟩,-⟩:=(Jb W (aj.refl _ _)).2.1;obtain⟨ba,bo,rfl,-⟩:=Jc o_;have Jg:W.ownsRow N 52 3 (rV b' fl c') fl (bD Q):=by have:=h.fr.row.row;rw[q1]at this;exact this
 have Jf:W.cell? ⟨b',f*3+2,none⟩=some Q[f].vb:=by rw[ownsRow.cellAt Jg (f*3+2) o_,fD Q f 2 Ji o_];rfl
 rw[U]at Jf;have Jj:Bl W (W.alloc (.cells #[] 79)):=ao _ _;refine⟨ba,bo,Q[f].R.length,vc,Jf,(cell?_alloc_past _ b' _ s4).trans Jf,?_⟩;have Jp:(W.alloc (.cells #[] 79)).heap.size=W.heap.size+1:=i_;have hn:N<=W.heap.size:=o_;have Je:(W.alloc (.cells #[] 79)).ownsRow N 79 6 (rV W.heap.size 0 0) 0 []:=ownsRow_lit W #[] 0 hn d_ rfl;have Jo:∀W',aj (λk=>k<M\/w.heap.size<=k) W W'->∀j u,(bO Q[f].R)[j]? =some u->W'.cell? ((⟨ba,bo,none⟩:Addr).add j)=some u:=λW' hW' j u hu=>by obtain⟨⟨Jq,Js,Jd,-,-,Ja⟩,-⟩:=(Jb W' hW').2.1;have⟨Jt,Jr,e,Jl⟩:=Ja o_;rw[U]at Jd;simp only[Value.slice.injEq]at Jd;rw[e]at Jd;simp only[J0,Addr.mk.injEq]at Jd;obtain⟨⟨rfl,rfl,-⟩,-,-⟩:=Jd;rw[dk];exact Jl j u hu
 have⟨cap',w',r,hr,hb⟩:=sR (P:=prog) N 50 ty 79 i0 _ 6 _ underlying50 hi Jk Jm Jn rfl d_ W.heap.size Je ⟨ba,bo,none⟩ Q[f].R.length vc (bO Q[f].R) (eE _) (Jo _ Jj.tcs) (gR _ λq hq=>by have Z:=(Jb W (aj.refl _ _)).2.1.2 q hq;exact⟨Z.1.cell1,Z.2.cell1⟩) o1 o_ d_ o_
 have Jh:Bl W w':=Jj.trans (hb.mono o_);refine⟨_,cap',w',r,Q[f].R,h.below Jh,⟨⟨hr,λW' hW'=>?_⟩,λx hx=>?_⟩,⟨rfl,o1,o2⟩,(λx hx=>by have I:=(Jb W (aj.refl _ _)).2.2;exact o4 x.s (by rw[<-I];exact mem_map.2 ⟨x,hx,rfl⟩)),⟨o_,o_,o_⟩⟩;exact(Jb W' ((Jh.tcs (S:=λk=>k<M\/w.heap.size<=k)).next hW' λk hk=>by rcases hk with hk|hk;exact .inl hk;simp only[ownBlock,J0]at hk;exact .inl (.inr o_))).2.1.2;have I:=(Jb W (aj.refl _ _)).2.2;exact(h.fr.ok _ J).st x.s (by rw[<-I];exact mem_map.2 ⟨x,hx,rfl⟩)
theorem Fy{W0 Y:AT}{fb Jd:Nat}{vg vf:BY}{t:Tr}(hB:Bl W0 Y)(og:Y.ownsRow N 48 2 (rV b gl c) gl (dw t.gl))(Jg:Y.ownsRow N 52 3 (rV b' fl c') fl (bD Q))(Jy:N<=O)(Z:Y.heap[O]? =some (.cells #[nV,nV] 26 (0,0)))(Xa:N=W0.heap.size)(Xb:R4=w.heap.size+1)(Jz:W0.heap.size=w.heap.size+2)(Jm:Bl w W0)(Jo:Lo g a len (S0 g) w.heap.size)(h4:aN W0 R4 [nV,nV])(Jx:ew g a len cap W0)(Jf:TD (λk=>k<M) w vg vf t)(hQ:Q.length=t.fc.length/\Q.map (λq:FV=>q.f)=t.fc)
  (hM:g<M/\M<=w.heap.size) (Jk:∀W,aj (λk=>k<M) w W->(∀j u,(bD Q)[j]? =some u->W.cell? ⟨fb,Jd+j,none⟩=some u)/\AR Q W) (Jn:1<=gl/\gl<=20) (Jl:1<=fl/\fl<=20) (Ja:gl=t.gl.length) (Je:fl=t.fc.length):
  aN Y O [nV,nV]/\∃W1,W1=(Y.setCell ⟨O,0,none⟩ (rV b gl c)).setCell ⟨O,1,none⟩ (rV b' fl c')/\PP g M a len cap O R4 N fl gl w W1 b c b' c' t.gl Q:=by
 have Jb:b≠O/\b'≠O:=by obtain⟨-,h|⟨g1,Js,Jq,U,-,h1,-⟩⟩:=og;simp at h;obtain⟨-,h|⟨g2,Ju,Jt,J,-,h2,-⟩⟩:=Jg;simp at h;simp only[Value.slice.injEq,J0,Addr.mk.injEq]at U J;obtain⟨⟨rfl,-,-⟩,-,-⟩:=U;obtain⟨⟨rfl,-,-⟩,-,-⟩:=J;refine⟨λe=>?_,λe=>?_⟩;rw[e,Z]at h1;simp at h1;rw[e,Z]at h2;simp at h2
 have Jv:O<Y.heap.size:=(Array.getElem?_eq_some_iff.1 Z).1;have fO:aN Y O [nV,nV]:=by
  intro j u hj;have hz:Y.frozen? ⟨O,j,none⟩=false:=by unfold frozen?;simp only[Z];simp
  have Jr:Y.cell? ⟨O,j,none⟩=some u:=by
   unfold cell?;simp only[Z];match j with
   | 0=>simpa using hj
   | 1=>simpa using hj
   | j+2=>simp at hj
  exact⟨Jr,hz⟩
 have⟨W1,Jc⟩:=q_ ((Y.setCell ⟨O,0,none⟩ (rV b gl c)).setCell ⟨O,1,none⟩ (rV b' fl c'));have Jp:PP g M a len cap O R4 N fl gl w W1 b c b' c' t.gl Q:=by
  have I:aj (λk=>k=O) Y W1:=by rw[Jc];exact((aj.refl (λk=>k=O) Y).setCell (p:=⟨O,0,none⟩) rfl _).setCell (p:=⟨O,1,none⟩) rfl _
  have J_:=Jo.gl;have Jh:Bl w Y:=Jm.trans (hB.mono Jm.size);have hY:W0.heap.size<=Y.heap.size:=hB.size;have Ji:=gN og I (λk hk e=>by simp only[ownBlock,J0]at hk;have e:k=O:=e;exact Jb.1 (hk.trans e));have Jj:=gN Jg I (λk hk e=>by simp only[ownBlock,J0]at hk;have e:k=O:=e;exact Jb.2 (hk.trans e));have Jw:b≠b':=by intro e;subst e;obtain⟨-,h|⟨g1,Js,Jq,U,-,h1,-⟩⟩:=og;simp at h;obtain⟨-,h|⟨g2,Ju,Jt,J,-,h2,-⟩⟩:=Jg;simp at h;simp only[Value.slice.injEq,J0,Addr.mk.injEq]at U J;obtain⟨⟨rfl,-,-⟩,-,-⟩:=U;obtain⟨⟨rfl,-,-⟩,-,-⟩:=J;rw[h1]at h2;simp at h2
  refine⟨by rw[Jc];exact(fO.set 0 _).set 1 _,(h4.below hB).tcs o_ I o_,by rw[Ja]at Ji;rw[Ja];exact Ji,⟨⟨by rw[hQ.1,<-Je];exact Jj,λW hW=>?_⟩,λx hx=>(Jf.ok x.f (by rw[<-hQ.2];exact mem_map.2 ⟨x,hx,rfl⟩)).two⟩,⟨o_,Jl.1,Jl.2,Ja.symm,Jn.1,Jn.2⟩,Jf.gn,λx hx=>?_,?_,?_,⟨λe=>Jb.1 e.symm,λe=>Jb.2 e.symm,Jw⟩,⟨hM,o_,o_,Jy,l_ Jv I.size⟩⟩
  ·exact(Jk W ((Jh.tcs (S:=λk=>k<M)).next (I.mono (T:=λk=>w.heap.size<=k) λk hk=>by omega) (λk hk=>.inr hk) |>.next hW (λk hk=>by rcases hk with(hk|hk)|hk;exact .inl hk;exact .inr hk;simp only[ownBlock,J0]at hk;have:=(ownsRow.lt Jj b' rfl).1;exact .inr o_))).2
  have k:=Jf.ok x.f (by rw[<-hQ.2];exact mem_map.2 ⟨x,hx,rfl⟩);have e:=((Jk w (aj.refl _ _)).2 x hx).2.2;have k1:=k.bl;have k2:=k.bu;rw[<-e,J8]at k1 k2;exact⟨k1,k2,k.pl,λs hs=>(k.st s hs).1.1⟩;exact(Jx.below hB).new Jo I (λk hk=>by omega);exact(Jh.tcs (S:=S0 g)).next I (λk hk=>.inr o_)
 exact⟨fO,W1,Jc,Jp⟩
end
end
open Go.Proofs.Tryz
section
variable{w Wr W:AT}{B g M len cap A F:Nat}{v vp vb:BY}{Q:List FV}{a:Option Addr}{nm:Io}{R:List SV}
def Sc(M A B k:Nat):Prop:=k<M\/(A<=k/\k<B)
def Hs{S:Ft}{m c:Nat}{Q2:List FV}(U:JZ)(h:F2 S B w v Q)(a:Option Addr)(Je:m=Q2.length)(hn:a=none->m=0)(hc:∀ad,a=some ad->∀j u,(bD Q2)[j]? =some u->w.cell? (ad.add j)=some u)(h1:∀x∈Q2,x.vp.oneCell'=true/\x.vb.oneCell'=true)(ho:∀x∈Q2,nj x.f)
  (Jd:∀W,aj (λk=>S k\/v.ownBlock=some k) w W->AR Q2 W) (hm:Q.length+Q2.length<=100000) (hB:B<=w.heap.size):
  ∃v' w',(Builtin.append_ #[24,24] U #[v,.slice a m c]).run prog w=.ok v' w'/\F2 S B w' v' (Q++Q2)/\aj (λk=>v.ownBlock=some k) w w'/\∀k,v'.ownBlock=some k->v.ownBlock=some k\/w.heap.size<=k:=by
 subst Je;have⟨i0,hi,Jb,Jc,Ja⟩:=info_parts jY;have⟨v',w',r1,J,r3,Z⟩:=jI (Pg:=prog) (w:=w) (T:=52) (t:=24) (c:=c) (P2:=AR Q2) U underlying24 hi Jb Jc Ja rfl d_ h.row a hn (fC Q2) hc (λu I=>by simp only[bD,mem_flatMap]at I;obtain⟨x,hx,I⟩:=I;have⟨g1,g2⟩:=h1 x hx;simp only[aX,mem_cons,not_mem_nil,or_false]at I;rcases I with rfl|rfl|rfl;rfl;exact g1;exact g2) Jd o_ d_ hB;refine⟨v',w',r1,⟨⟨by rw[l_a,jd];exact J.row,λW hW x hx=>?_⟩,λx hx=>?_⟩,r3,Z⟩;rcases J5.1 hx with hx|hx;exact(J.st W hW).1 x hx;exact(J.st W hW).2 x hx;rcases J5.1 hx with hx|hx;exact h.ok x hx;exact ho x hx
def Fx(M:Nat)(w:AT)(fb foff:Nat)(Q:List FV):Prop:=∀W,aj (λk=>k<M) w W->(∀j u,(bD Q)[j]? =some u->W.cell? ⟨fb,foff+j,none⟩=some u)/\AR Q W
structure Dh (g M:Nat) (a:Option Addr) (len cap P3 R4 O N:Nat) (w W:AT) (vg vf:BY) (k:Nat):Prop where
 cur:ew g a len cap W
 tcs:aj (S0 g) w W
 b3:aN W P3 [vg,vf]
 b4:aN W R4 [nV,nV]
 fr:∃oa oc,∃Q:List FV,aN W O [vg,.slice oa k oc]/\F2 (Sc M w.heap.size N) N W (.slice oa k oc) Q/\Q.length=k
 lo:(g<M/\M<=w.heap.size)/\P3=w.heap.size/\R4=w.heap.size+1/\O=w.heap.size+2/\N=w.heap.size+3/\N<=W.heap.size
structure xO (g M:Nat) (a:Option Addr) (len cap A F B:Nat) (Wr W:AT) (nm:Io) (vp vb v:BY) (R:List SV):Prop where
 cur:ew g a len cap W
 tcs:aj (S0 g) Wr W
 bF:aN W F [sV nm,vp,vb]
 br:BR (Sc M A B) B W v R
 lo:g<M/\M<=A/\A<=F/\F=Wr.heap.size/\B=Wr.heap.size+1/\B<=W.heap.size
def xO.dr{J:AT}(h:xO g M a len cap A F B Wr W nm vp vb v R)(I:Dr g a len cap (S0 g) W J):xO g M a len cap A F B Wr J nm vp vb v R:=by have l:=h.lo;exact⟨I.cur,h.tcs.trans I.tcs,h.bF.tcs o_ I.tcs (λe=>by have e:F=g:=e;omega),⟨h.br.row.past I.tcs (λk hk=>.inl (by have e:k=g:=hk;omega)) (λk hk e=>by have e:k=g:=e;have:=(h.br.rng k hk).1;omega),h.br.ok⟩,Ka I.tcs.size⟩
def xO.put{I bn bc:Nat}(h:xO g M a len cap A F B Wr W nm vp vb (rV I bn bc) R)(hL:Lo g a len (S0 g) A)(i:Nat)(hi:i<R.length)(o:Obj)(u:BY)(Z:List Nd)(hn:aW W.heap.size (W.alloc o) u Z)(hN:cI Z 5000):
  xO g M a len cap A F B Wr ((W.alloc o).setCell ⟨I,i*6+2,none⟩ u) nm vp vb (rV I bn bc) (R.set i ⟨{R[i].s with e:=Z},u,R[i].vf,R[i].ke,R[i].kf⟩):=by
 have l:=h.lo;have J:Bl W (W.alloc o):=ao _ _;have⟨r1,r2⟩:=h.br.rng I rfl;have ha:=h.br.below J;have U:aj (λk=>k=I) (W.alloc o) ((W.alloc o).setCell ⟨I,i*6+2,none⟩ u):=(aj.refl (λk=>k=I) (W.alloc o)).setCell (p:=⟨I,i*6+2,none⟩) rfl _;refine⟨(h.cur.below J).new hL U (λk hk=>by omega),(h.tcs.of_below J).next U (λk hk=>.inr o_),(h.bF.below J).tcs H6 U o_,?_,by simp;omega⟩;refine ha.put i 2 u _ hi o_ ?_ (λW' hW'=>⟨?_,?_⟩) ⟨hN,(h.br.ok _ (g_ hi)).2⟩;simp[cellsS];exact gL hn (S:=λk=>Sc M A B k\/k=I) (λk hk=>by rcases hk with(hk|hk)|hk <;> omega) W' hW';exact(ha.row.st W' (hW'.mono λk hk=>hk.imp id λe=>by rw[e];rfl) _ (g_ hi)).2
def AX(w:AT)(B:Nat)(hB:B<=w.heap.size)(k1 v1 k2 v2:Int)(s1 s2:Io):aW B (w.alloc (.cells #[V k1,V v1,sV s1,V k2,V v2,sV s2] 81)) (rV w.heap.size 2 2) [⟨k1,v1,s1⟩,⟨k2,v2,s2⟩]:=
 ownsRow_lit w #[V k1,V v1,sV s1,V k2,V v2,sV s2] 2 hB d_ rfl
def Dh.copy{P3 R4 O N Z Ja:Nat}{vg vf:BY}{k:Nat}(h:Dh g M a len cap P3 R4 O N w Wr vg vf k)(hQ:Fx M w Z Ja Q)(hk:k<Q.length)(ho:nj Q[k].f):
  (DO Wr Z (Ja+k*3) (sV Q[k].f.nm)/\DO Wr Z (Ja+k*3+1) Q[k].vp/\DO Wr Z (Ja+k*3+2) Q[k].vb)/\∃va vc pa pn pc,Q[k].vb=.slice va Q[k].R.length vc/\Q[k].vp=.slice pa pn pc/\∃W3,W3=Wr.alloc (.cells #[sV Q[k].f.nm,Q[k].vp,Q[k].vb] 52)/\DO W3 Wr.heap.size 2 (.slice va Q[k].R.length vc)/\DO (W3.alloc (.cells #[] 79)) Wr.heap.size 2 (.slice va Q[k].R.length vc) /\
  ∃ba bc w5,(Builtin.append_ #[50,50] 50 #[rV W3.heap.size 0 0,.slice va Q[k].R.length vc]).run prog (W3.alloc (.cells #[] 79))=.ok (.slice ba Q[k].R.length bc) w5/\xO g M a len cap w.heap.size Wr.heap.size (Wr.heap.size+1) Wr w5 Q[k].f.nm Q[k].vp Q[k].vb (.slice ba Q[k].R.length bc) Q[k].R:=by
 have l:=h.lo;have t0:aj (λk=>k<M) w Wr:=h.tcs.mono λx hx=>by have e:x=g:=hx;omega
 have hc:=λi (J:i<3)=>(hQ Wr t0).1 (k*3+i) ((aX Q[k])[i]'J) (by rw[fD Q k i hk J];exact J4 _);have hm:Q[k]∈Q:=g_ hk;refine⟨⟨hc 0 o_,hc 1 o_,hc 2 o_⟩,?_⟩;have⟨i0,J,Jm,Jo,Jp⟩:=info_parts gS;have⟨W3,Je⟩:=q_ (Wr.alloc (.cells #[sV Q[k].f.nm,Q[k].vp,Q[k].vb] 52));have Jg:Bl Wr W3:=by rw[Je];exact r_.alloc n_ _
 have Jk:W3.heap.size=Wr.heap.size+1:=by rw[Je];simp
 have Jh:aN W3 Wr.heap.size [sV Q[k].f.nm,Q[k].vp,Q[k].vb]:=by rw[Je];exact aI Wr _ _ i_
 have⟨W4,Jc⟩:=q_ (W3.alloc (.cells #[] 79));have Jd:Bl W3 W4:=by rw[Jc];exact r_.alloc n_ _
 have Js:W4.heap.size=W3.heap.size+1:=by rw[Jc];simp
 have Ji:=Jh.below Jd;have t4:aj (λk=>k<M) w W4:=(t0.of_below Jg).of_below Jd;have⟨p1,p2,p3⟩:=(hQ W4 t4).2 Q[k] hm;obtain⟨pa,pc,ep,-⟩:=p1;obtain⟨⟨va,vc,ev,-,-,Jb⟩,Jq⟩:=p2;have Jf:W4.ownsRow W3.heap.size 79 6 (rV W3.heap.size 0 0) 0 []:=by rw[Jc];exact ownsRow_lit W3 #[] 0 n_ d_ rfl
 have hz:∀j u,(bO Q[k].R)[j]? =some u->0<Q[k].R.length:=λj u hu=>by
  have:=(getElem?_eq_some_iff.1 hu).1
  rw[eE]at this;omega
 have Jn:∀W',aj (λx=>Sc M w.heap.size W3.heap.size x\/(Value.slice (some ⟨W3.heap.size,0,none⟩) 0 0).ownBlock=some x) W4 W'->BH Q[k].R W':=λW' hW'=>by
  have:=((hQ W' (t4.next hW' (λx hx=>by rcases hx with(hx|hx)|hx;exact .inl hx;exact .inr hx.1;simp only[ownBlock,J0]at hx;exact .inr o_))).2 Q[k] hm).2.1.2
  exact this
 have⟨v',w5,r,d,U,hv⟩:=jI (Pg:=prog) (w:=W4) (T:=79) (t:=50) (c:=vc) (m:=Q[k].R.length) (us:=bO Q[k].R) (S:=Sc M w.heap.size W3.heap.size) (P:=λ_=>True) (P2:=BH Q[k].R) 50 underlying50 J Jm Jo Jp rfl d_ ⟨Jf,λ_ _=>trivial⟩ va (λe=>by
   rcases Nat.eq_zero_or_pos Q[k].R.length with h0|h0;exact h0;obtain⟨b,Jj,I,-⟩:=Jb h0;rw[e]at I;cases I) (eE _) (λad had j u hu=>by
   have⟨b,Jj,I,hx⟩:=Jb (hz j u hu);rw[had]at I;cases I
   rw[dk];exact hx j u hu) (gR _ λq hq=>by
   have hp:=Jq q hq;exact⟨hp.1.cell1,hp.2.cell1⟩) Jn (by have hl:Q[k].R.length=Q[k].f.bd.length:=(by rw[<-p3,J8]);have:=ho.bu;omega) d_ o_
 obtain⟨ba,bc,rfl,-⟩:=aH d.row;have tW:aj (S0 g) Wr w5:=((((aj.refl (S0 g) Wr).of_below Jg).of_below Jd)).next U (λx hx=>by simp only[ownBlock,J0]at hx;exact .inr o_);have Jr:=U.size;rw[Nat.zero_add]at r d;refine⟨va,vc,pa,_,pc,ev,ep,W3,Je,(Jh 2 _ rfl).1.trans (by rw[ev]),(by rw[<-Jc];exact(Ji 2 _ rfl).1.trans (by rw[ev])),ba,bc,w5,by rw[<-Jc];exact r,?_⟩;rw[<-Jk];refine⟨((h.cur.below Jg).below Jd).keep U (λe=>?_) (λb Jj x y e=>?_),tW,Ji.tcs o_ U (λe=>?_),⟨⟨?_,λW hW=>(d.st W hW).2⟩,λx hx=>?_⟩,o_⟩;simp only[ownBlock,J0]at e;omega;simp only[ownBlock,J0]at e;obtain⟨b',Jl,I,Jt,-⟩:=h.cur.by8 x;rw[y]at I;cases I;omega;simp only[ownBlock,J0]at e;omega;simpa using d.row;exact ho.st x.s (by rw[<-p3];exact mem_map.2 ⟨x,hx,rfl⟩)
end
theorem vd(x:Act):∀(ds:List Tmp) (a:Act) (t:Tmp),a.tmps.size=x.tmps.size->(∀t∈ds,t<x.tmps.size)->(ds.foldl (λa t=>a.put (some t) (x.eval (.tmp t))) a).tmps[t]? =if t∈ds then x.tmps[t]? else a.tmps[t]?
 | [],a,t,_,_=>by simp
 | d::ds,a,t,hs,hin=>by have hd:d<x.tmps.size:=hin d i_;rw[foldl_cons,vd x ds _ t (by simp[Act.put];exact hs) (λt ht=>hin t (by simp[ht]))];by_cases h1:t∈ds;rw[if_pos h1,if_pos (by simp[h1])];rw[if_neg h1];by_cases h2:t=d;subst h2;rw[if_pos i_];have:t<a.tmps.size:=(by rw[hs];exact hd);simp[Act.put,Act.eval,this,hd];rw[if_neg (by simp[h1,h2])];simp[Act.put,Array.getElem?_setIfInBounds_ne (λe=>h2 e.symm)]
theorem mO(x:Act):∀(ds:List Tmp) (a:Act),(ds.foldl (λa t=>a.put (some t) (x.eval (.tmp t))) a).defers=a.defers
 | [],a=>rfl
 | d::ds,a=>by rw[foldl_cons,mO x ds];rfl
def Di{I x:Act}(J:List Tmp)(Z:x.defers=I.defers)(hs:x.tmps.size=I.tmps.size)(Ja:∀t∈J,t<I.tmps.size)(Jb:∀t,t∉J->x.tmps[t]? =I.tmps[t]?):x=J.foldl (λa t=>a.put (some t) (x.eval (.tmp t))) I:=by
 have U:(J.foldl (λa t=>a.put (some t) (x.eval (.tmp t))) I).tmps=x.tmps:=by apply Array.ext_getElem?;intro t;rw[vd x J I t hs.symm (λt ht=>by rw[hs];exact Ja t ht)];by_cases h:t∈J;rw[if_pos h];rw[if_neg h,Jb t h]
 have h2:=mO x J I;obtain⟨xt,xd⟩:=x;generalize J.foldl (λa t=>a.put (some t) ((⟨xt,xd⟩:Act).eval (.tmp t))) I=y at U h2⊢;obtain⟨yt,yd⟩:=y;simp only at U h2 Z;rw[U,h2,Z]
def sT{i:Nat}(h:i<10):i=0\/i=1\/i=2\/i=3\/i=4\/i=5\/i=6\/i=7\/i=8\/i=9:=by omega
section
variable{g M len cap O R4 N fl gl b c b' c' bb bn bc:Nat}{a:Option Addr}{w W:AT}{gs:List Gl}{Q:List FV}{R:List SV}
def QP.below{W':AT}(h:QP g M a len cap O R4 N fl gl w W b c b' c' gs Q bb bn bc R)(hb:Bl W W'):QP g M a len cap O R4 N fl gl w W' b c b' c' gs Q bb bn bc R:=
 ⟨h.pp.below hb,h.br.below hb,h.rl,h.es,h.bne⟩
def QP.alloc(h:QP g M a len cap O R4 N fl gl w W b c b' c' gs Q bb bn bc R)(o:Obj):QP g M a len cap O R4 N fl gl w (W.alloc o) b c b' c' gs Q bb bn bc R:=
 h.below (r_.alloc n_ o)
def PP.cp{I:BY}(h:PP g M a len cap O R4 N fl gl w W b c b' c' gs Q)(Jb:BR (λk=>k<M\/k=R4\/k=b') N W I R)(hl:R.length<=20000)(Ja:∀k,I.ownBlock=some k->k≠b'):CP g M a len cap O R4 N fl w W I (rV b gl c) b' c' gs Q R:=by have⟨l0,l1,l2,l3,l4⟩:=h.lo;have⟨J,q2,U,q4,q5,q6⟩:=h.ln;have⟨e1,Z,e3⟩:=h.ne;have⟨⟨s1,s2⟩,s3,s4⟩:=h.rng;refine⟨h.box,h.res,h.gr,h.fr.less (λk hk=>by rcases hk with e|e;exact .inl e;exact .inr o_),Jb,⟨J,U,o_,hl⟩,h.gn,h.cur,h.tcs,⟨Z,o_,λk hk=>?_,Ja⟩,⟨l0,l1,l2,o_⟩⟩;simp only[ownBlock,J0]at hk;omega
def QP.less(h:QP g M a len cap O R4 N fl gl w W b c b' c' gs Q bb bn bc R):BR (λk=>k<M\/k=R4\/k=b') N W (rV bb bn bc) R:=by have⟨J,l1,l2,l3,I⟩:=h.pp.lo;have⟨⟨s1,s2⟩,U,Z⟩:=h.pp.rng;exact⟨h.br.row.less (λk hk=>by rcases hk with e|e|e;exact .inl e;exact .inr o_;exact .inr o_),h.br.ok⟩
def QP.put(h:QP g M a len cap O R4 N fl gl w W b c b' c' gs Q bb bn bc R)(hL:Lo g a len (S0 g) w.heap.size)(i:Nat)(hi:i<bn)(I:Nat)(Z:I<6):
  ∃x,W.cell? ⟨bb,i*6+I,none⟩=(cellsS x)[I]? /\ D4 W bb (i*6+I)/\(cI x.s.e 5000/\cI x.s.f 5000/\x.s.nm.size<=100000)/\x.s.e.length<=3000/\(∀W',aj (λk=>k<M\/w.heap.size<=k) W W'->aC W' x.ve x.s.e/\aC W' x.vf x.s.f) /\
   ∀(u:BY) (x':SV),cellsS x'=(cellsS x).set I u->(∀W',aj (λk=>(k<M\/k=R4\/k=b')\/k=bb) W W'->aC W' x'.ve x'.s.e/\aC W' x'.vf x'.s.f)->(cI x'.s.e 5000/\cI x'.s.f 5000/\x'.s.nm.size<=100000)->∃R',CP g M a len cap O R4 N fl w (W.setCell ⟨bb,i*6+I,none⟩ u) (rV bb bn bc) (rV b gl c) b' c' gs Q R':=by
 have⟨l0,l1,l2,l3,l4⟩:=h.pp.lo;have⟨r1,r2,r3⟩:=h.rl;have⟨b1,b2,b3⟩:=h.bne;have Jb:i<R.length:=o_;have Jf:=h.br.rng bb rfl;have Jc:W.ownsRow N 79 6 (rV bb bn bc) R.length (bO R):=h.br.row.row;have Ja:W.ownsRow N 79 6 (rV bb bn bc) bn (bO R):=by have J:=Jc;rw[r1]at J;exact J
 have Jg:=eE R;refine⟨R[i],?_,ownsRow.frozenAt Ja _,h.br.ok _ (g_ Jb),h.es _ (g_ Jb),λW' hW'=>h.br.row.st W' (hW'.mono λk hk=>.inl hk) _ (g_ Jb),λu x' hx hp ho=>?_⟩;rw[ownsRow.cellAt Ja (i*6+I) o_,fB R i I Jb Z];have Je:=h.less.put i I u x' Jb Z hx hp ho;have U:aj (λk=>k=bb) W (W.setCell ⟨bb,i*6+I,none⟩ u):=(aj.refl (λk=>k=bb) W).setCell (p:=⟨bb,i*6+I,none⟩) rfl _;have Jd:=h.pp.past U (h.pp.cur.new hL U (λk hk=>by omega)) (λk hk=>by have e:k=bb:=hk;exact⟨.inr o_,o_,o_,o_,o_⟩);exact⟨_,Jd.cp Je (by rw[length_set];omega) (λk hk=>by simp only[ownBlock,J0]at hk;omega)⟩
def QP.kd(h:QP g M a len cap O R4 N fl gl w W b c b' c' gs Q bb bn bc R)(hL:Lo g a len (S0 g) w.heap.size)(i:Nat)(hi:i<bn):
  (∃k0:Int,DO W bb (i*6) (V k0))/\D4 W bb (i*6)/\∀n:Int,∃R',CP g M a len cap O R4 N fl w (W.setCell ⟨bb,i*6,none⟩ (V n)) (rV bb bn bc) (rV b gl c) b' c' gs Q R':=by
 have⟨x,Z,hz,J,hl,I,U⟩:=h.put hL i hi 0 o_;have⟨l0,l1,l2,l3,l4⟩:=h.pp.lo;have Jb:=h.pp.rng;have Ja:=h.br.rng bb rfl;refine⟨⟨_,Z⟩,hz,λn=>U _ ⟨⟨n,x.s.nm,x.s.e,x.s.f,x.s.th,x.s.el⟩,x.ve,x.vf,[],[]⟩ rfl (λW' hW'=>I W' (hW'.mono λk hk=>?_)) J⟩;rcases hk with(e|e|e)|e
 exact .inl e
 all_goals exact .inr o_
def QP.nm(h:QP g M a len cap O R4 N fl gl w W b c b' c' gs Q bb bn bc R)(hL:Lo g a len (S0 g) w.heap.size)(i:Nat)(hi:i<bn):
  (∃k0,DO W bb (i*6+1) (sV k0))/\D4 W bb (i*6+1)/\∀n:Io,n.size<=100000->∃R',CP g M a len cap O R4 N fl w (W.setCell ⟨bb,i*6+1,none⟩ (sV n)) (rV bb bn bc) (rV b gl c) b' c' gs Q R':=by
 have⟨x,Z,hz,I,hl,J,U⟩:=h.put hL i hi 1 o_;have⟨l0,l1,l2,l3,l4⟩:=h.pp.lo;have Jb:=h.pp.rng;have Ja:=h.br.rng bb rfl;refine⟨⟨_,Z⟩,hz,λn hn=>U _ ⟨⟨x.s.kd,n,x.s.e,x.s.f,x.s.th,x.s.el⟩,x.ve,x.vf,[],[]⟩ rfl (λW' hW'=>J W' (hW'.mono λk hk=>?_)) ⟨I.1,I.2.1,hn⟩⟩;rcases hk with(e|e|e)|e
 exact .inl e
 all_goals exact .inr o_
def QP.th(h:QP g M a len cap O R4 N fl gl w W b c b' c' gs Q bb bn bc R)(hL:Lo g a len (S0 g) w.heap.size)(i:Nat)(hi:i<bn):
  (∃k0:Int,DO W bb (i*6+4) (V k0))/\D4 W bb (i*6+4)/\∀n:Int,∃R',CP g M a len cap O R4 N fl w (W.setCell ⟨bb,i*6+4,none⟩ (V n)) (rV bb bn bc) (rV b gl c) b' c' gs Q R':=by
 have⟨x,Z,hz,J,hl,I,U⟩:=h.put hL i hi 4 o_;have⟨l0,l1,l2,l3,l4⟩:=h.pp.lo;have Jb:=h.pp.rng;have Ja:=h.br.rng bb rfl;refine⟨⟨_,Z⟩,hz,λn=>U _ ⟨⟨x.s.kd,x.s.nm,x.s.e,x.s.f,n,x.s.el⟩,x.ve,x.vf,[],[]⟩ rfl (λW' hW'=>I W' (hW'.mono λk hk=>?_)) J⟩;rcases hk with(e|e|e)|e
 exact .inl e
 all_goals exact .inr o_
def QP.ex(h:QP g M a len cap O R4 N fl gl w W b c b' c' gs Q bb bn bc R)(hL:Lo g a len (S0 g) w.heap.size)(i:Nat)(hi:i<bn):
  (∃va vn vc es,W.cell? ⟨bb,i*6+2,none⟩=some (.slice va vn vc)/\cI es 3000/\∀W',aj (λk=>k<M\/w.heap.size<=k) W W'->aC W' (.slice va vn vc) es)/\W.frozen? ⟨bb,i*6+2,none⟩=false/\∀(ve:BY) (B:Nat) (e:List Nd),aW B W ve e->(bb<B/\O<B/\b'<B)->cI e 5000->∃R',CP g M a len cap O R4 N fl w (W.setCell ⟨bb,i*6+2,none⟩ ve) (rV bb bn bc) (rV b gl c) b' c' gs Q R':=by
 have⟨x,hx,hz,I,hl,Z,hs⟩:=h.put hL i hi 2 o_;have⟨l0,l1,l2,l3,l4⟩:=h.pp.lo;have Jc:=h.pp.rng;have Jb:=h.br.rng bb rfl;refine⟨?_,hz,λve B e hr hB hn=>hs _ ⟨⟨x.s.kd,x.s.nm,e,x.s.f,x.s.th,x.s.el⟩,ve,x.vf,[],[]⟩ rfl (λW' hW'=>⟨gL hr (λk hk=>?_) W' hW',(Z W' (hW'.mono λk hk=>?_)).2⟩) ⟨hn,I.2.1,I.2.2⟩⟩
 have U:=λW' hW'=>(Z W' hW').1;obtain⟨va,vc,J,-⟩:=(U W (aj.refl _ _));have Ja:W.cell? ⟨bb,i*6+2,none⟩=some x.ve:=hx;rw[J]at Ja;refine⟨va,_,vc,x.s.e,Ja,⟨hl,I.1.2⟩,λW' hW'=>?_⟩;have:=U W' hW'
 rw[J]at this;exact this;rcases hk with(e|e|e)|e <;> omega
 rcases hk with(e|e|e)|e;exact .inl e
 all_goals exact .inr o_
def QP.fput(h:QP g M a len cap O R4 N fl gl w W b c b' c' gs Q bb bn bc R)(hL:Lo g a len (S0 g) w.heap.size)(f:Nat)(hf:f<fl)(I:Nat)(hc:I<3):
  ∃x,W.cell? ⟨b',f*3+I,none⟩=(aX x)[I]? /\ D4 W b' (f*3+I)/\nj x.f/\x.f.pm.length<=20/\(∀W',aj (λk=>k<M\/w.heap.size<=k) W W'->be W' x.vp x.f.pm/\C7 W' x.vb x.R/\x.R.map (·.s)=x.f.bd) /\
   ∀(u:BY) (x':FV),aX x'=(aX x).set I u->(∀W',aj (λk=>(k<M\/k=R4)\/k=b') W W'->be W' x'.vp x'.f.pm/\C7 W' x'.vb x'.R/\x'.R.map (·.s)=x'.f.bd)->nj x'.f->∃Q',CP g M a len cap O R4 N fl w (W.setCell ⟨b',f*3+I,none⟩ u) (rV bb bn bc) (rV b gl c) b' c' gs Q' R:=by
 have⟨l0,l1,l2,l3,l4⟩:=h.pp.lo;have⟨Z,q2,q3,q4,q5,q6⟩:=h.pp.ln;have⟨r1,r2,r3⟩:=h.rl;have⟨b1,b2,b3⟩:=h.bne;have⟨e1,e2,e3⟩:=h.pp.ne;have⟨⟨s1,s2⟩,s3,s4⟩:=h.pp.rng;have Jc:f<Q.length:=o_;have Jh:=h.br.rng bb rfl;have Jd:=h.pp.fr;have Je:W.ownsRow N 52 3 (rV b' fl c') Q.length (bD Q):=Jd.row.row;have Ja:W.ownsRow N 52 3 (rV b' fl c') fl (bD Q):=by have U:=Je;rw[Z]at U;exact U
 have Ji:=fC Q;refine⟨Q[f],?_,ownsRow.frozenAt Ja _,Jd.ok _ (g_ Jc),(h.pp.ob _ (g_ Jc)).2.2.1,λW' hW'=>Jd.row.st W' (hW'.mono λk hk=>.inl hk) _ (g_ Jc),λu x' hx hp ho=>?_⟩;rw[ownsRow.cellAt Ja (f*3+I) o_,fD Q f I Jc hc];have Jb:F2 (λk=>k<M\/k=R4) N W (rV b' fl c') Q:=Jd.less (λk hk=>by rcases hk with e|e;exact .inl e;exact .inr o_);have Jg:=Jb.put f I u x' Jc hc hx hp ho;have J:aj (λk=>k=b') W (W.setCell ⟨b',f*3+I,none⟩ u):=(aj.refl (λk=>k=b') W).setCell (p:=⟨b',f*3+I,none⟩) rfl _;have Jf:BR (λk=>k<M\/w.heap.size<=k) N (W.setCell ⟨b',f*3+I,none⟩ u) (rV bb bn bc) R:=⟨h.br.row.past J (λk hk=>.inr o_) (λk hk e=>by simp only[ownBlock,J0]at hk;have e:k=b':=e;omega),h.br.ok⟩;refine⟨_,h.pp.box.tcs l4 J (λe=>e2 e),h.pp.res.tcs o_ J (λe=>by have e:R4=b':=e;omega),gN h.pp.gr J (λk hk e=>by simp only[ownBlock,J0]at hk;have e:k=b':=e;omega),Jg,⟨Jf.row.less (λk hk=>by rcases hk with e|e|e;exact .inl e;exact .inr o_;exact .inr o_),Jf.ok⟩,⟨by rw[length_set];exact Z,q3,o_,o_⟩,h.pp.gn,h.pp.cur.new hL J (λk hk=>by omega),h.pp.tcs.next J (λk hk=>.inr o_),⟨e2,o_,λk hk=>?_,λk hk=>?_⟩,⟨l0,l1,l2,o_⟩⟩;simp only[ownBlock,J0]at hk;omega;simp only[ownBlock,J0]at hk;omega
def QP.fnm(h:QP g M a len cap O R4 N fl gl w W b c b' c' gs Q bb bn bc R)(hL:Lo g a len (S0 g) w.heap.size)(f:Nat)(hf:f<fl):
  (∃k0,DO W b' (f*3) (sV k0))/\D4 W b' (f*3)/\∀n:Io,n.size<=100000->∃Q',CP g M a len cap O R4 N fl w (W.setCell ⟨b',f*3,none⟩ (sV n)) (rV bb bn bc) (rV b gl c) b' c' gs Q' R:=by
 have⟨x,Z,hz,I,hl,J,U⟩:=h.fput hL f hf 0 o_;have⟨l0,l1,l2,l3,l4⟩:=h.pp.lo;have Ja:=h.pp.rng;refine⟨⟨_,Z⟩,hz,λn hn=>U _ ⟨⟨n,x.f.pm,x.f.bd⟩,x.vp,x.vb,x.R,[],[]⟩ rfl (λW' hW'=>J W' (hW'.mono λk hk=>?_)) ⟨hn,I.pl,I.pn,I.bu,I.st⟩⟩;rcases hk with(e|e)|e
 exact .inl e
 all_goals exact .inr o_
def QP.fps(h:QP g M a len cap O R4 N fl gl w W b c b' c' gs Q bb bn bc R)(hL:Lo g a len (S0 g) w.heap.size)(f:Nat)(hf:f<fl):
  (∃va vn vc ps,W.cell? ⟨b',f*3+1,none⟩=some (.slice va vn vc)/\(ps.length<=20/\∀p∈ps,p.size<=100000)/\∀W',aj (λk=>k<M\/w.heap.size<=k) W W'->be W' (.slice va vn vc) ps)/\W.frozen? ⟨b',f*3+1,none⟩=false/\∀(vp:BY) (B:Nat) (ps:List Io),W.ownsRow B 9 1 vp ps.length (ps.map Value.string)->(O<B/\b'<B)->(ps.length<=30/\∀p∈ps,p.size<=100000)->∃Q',CP g M a len cap O R4 N fl w (W.setCell ⟨b',f*3+1,none⟩ vp) (rV bb bn bc) (rV b gl c) b' c' gs Q' R:=by
 have⟨x,hx,hz,I,hl,Z,hs⟩:=h.fput hL f hf 1 o_;have⟨l0,l1,l2,l3,l4⟩:=h.pp.lo;have Jb:=h.pp.rng;refine⟨?_,hz,λvp B ps hr hB hn=>hs _ ⟨⟨x.f.nm,ps,x.f.bd⟩,vp,x.vb,x.R,[],[]⟩ rfl (λW' hW'=>⟨ij (bE hr hW' (λk hk=>?_)),(Z W' (hW'.mono λk hk=>?_)).2⟩) ⟨I.nm,hn.1,hn.2,I.bu,I.st⟩⟩
 have U:=λW' hW'=>(Z W' hW').1;obtain⟨va,vc,J,-⟩:=(U W (aj.refl _ _));have Ja:W.cell? ⟨b',f*3+1,none⟩=some x.vp:=hx;rw[J]at Ja;refine⟨va,_,vc,x.f.pm,Ja,⟨hl,I.pn⟩,λW' hW'=>?_⟩;have:=U W' hW'
 rw[J]at this;exact this;rcases hk with(e|e)|e <;> omega
 rcases hk with(e|e)|e;exact .inl e
 all_goals exact .inr o_
end
section
variable{g M len cap P3 R4 O N bn bc A F B:Nat}{a:Option Addr}{w Wr W:AT}{vg vf vb vp:BY}{nm:Io}{R:List SV}
def Dk(vg vf:BY)(hM:g<M/\M<=w.heap.size)(hc:ew g a len cap w):
  ∃W0,W0=((w.alloc (.cells #[vg,vf] 26)).alloc (.cells #[nV,nV] 26)).alloc (.cells #[vg,nV] 26)/\Dh g M a len cap w.heap.size (w.heap.size+1) (w.heap.size+2) (w.heap.size+3) w W0 vg vf 0:=by
 refine⟨_,rfl,?_⟩;have⟨W1,h⟩:=q_ (w.alloc (.cells #[vg,vf] 26));have⟨W2,h2⟩:=q_ (W1.alloc (.cells #[nV,nV] 26));have⟨W3,h3⟩:=q_ (W2.alloc (.cells #[vg,nV] 26));rw[<-h,<-h2,<-h3];have U:Bl w W1:=by rw[h];exact r_.alloc n_ _
 have J:Bl W1 W2:=by rw[h2];exact r_.alloc n_ _
 have I:Bl W2 W3:=by rw[h3];exact r_.alloc n_ _
 have s1:W1.heap.size=w.heap.size+1:=by rw[h];simp
 have s2:W2.heap.size=w.heap.size+2:=by rw[h2];simp[s1]
 have s3:W3.heap.size=w.heap.size+3:=by rw[h3];simp[s2]
 have f1:aN W1 w.heap.size [vg,vf]:=by rw[h];exact aI w _ _ i_
 have Z:aN W2 W1.heap.size [nV,nV]:=by rw[h2];exact aI W1 _ _ i_
 have f3:aN W3 W2.heap.size [vg,nV]:=by rw[h3];exact aI W2 _ _ i_
 refine⟨((hc.below U).below J).below I,(((aj.refl (S0 g) w).of_below U).of_below J).of_below I,(f1.below J).below I,by rw[<-s1];exact Z.below I,⟨none,0,[],by rw[<-s2];exact f3,⟨ge.nil (λW x hx=>by cases hx),λx hx=>by cases hx⟩,rfl⟩,o_⟩
def Dh.step{fb Jf:Nat}{k:Nat}{Q:List FV}{J pa:Option Addr}{pn pc:Nat}{R':List SV}(h:Dh g M a len cap P3 R4 O N w Wr vg vf k)(hQ:Fx M w fb Jf Q)(hL:Lo g a len (S0 g) w.heap.size)(hk:k<Q.length)(Jl:Q.length<=20)(ho:nj Q[k].f)(ep:Q[k].vp=.slice pa pn pc)
  (I:xO g M a len cap w.heap.size Wr.heap.size (Wr.heap.size+1) Wr W Q[k].f.nm Q[k].vp vb (.slice J bn bc) R') (hR:R'.length=Q[k].R.length):
  (DO W Wr.heap.size 2 vb/\D4 W Wr.heap.size 2)/\∃W6,W6=W.setCell ⟨Wr.heap.size,2,none⟩ (.slice J bn bc)/\∃oa oc,DO W6 O 1 (.slice oa k oc)/\(DO W6 Wr.heap.size 0 (sV Q[k].f.nm)/\DO W6 Wr.heap.size 1 Q[k].vp/\DO W6 Wr.heap.size 2 (.slice J bn bc)) /\
  ∃va vc w8,(Builtin.append_ #[24,24] 24 #[.slice oa k oc,rV W6.heap.size 1 1]).run prog (W6.alloc (.cells #[sV Q[k].f.nm,Q[k].vp,.slice J bn bc] 52))=.ok (.slice va (k+1) vc) w8/\(DO w8 O 1 (.slice oa k oc)/\D4 w8 O 1)/\Dh g M a len cap P3 R4 O N w (w8.setCell ⟨O,1,none⟩ (.slice va (k+1) vc)) vg vf (k+1):=by
 have l:=h.lo;have lb:=I.lo;have hm:Q[k]∈Q:=g_ hk;have⟨oa,oc,Q',fo,fq,Jh⟩:=h.fr;have z2:=I.bF 2 _ rfl;refine⟨z2,_,rfl,?_⟩;have⟨W6,Je⟩:=q_ (W.setCell ⟨Wr.heap.size,2,none⟩ (.slice J bn bc));rw[<-Je];have tF:aj (λx=>x=Wr.heap.size) W W6:=by rw[Je];exact(aj.refl (λx=>x=Wr.heap.size) W).setCell (p:=⟨Wr.heap.size,2,none⟩) rfl _
 have f6:aN W6 Wr.heap.size [sV Q[k].f.nm,Q[k].vp,.slice J bn bc]:=by rw[Je];exact I.bF.set 2 _
 have t6:aj (S0 g) Wr W6:=I.tcs.next tF (λx hx=>.inr o_);have s6:=tF.size;have o6:aN W6 O [vg,.slice oa k oc]:=fo.tcs o_ t6 (λe=>by have e:O=g:=e;omega);have q6:=fq.tcs (t6.mono (T:=Sc M w.heap.size N) λx hx=>.inl (by have e:x=g:=hx;omega)) (λx hx=>by rcases hx with hx|hx <;> omega);have Jk:=I.br.tcs (tF.mono (T:=Sc M w.heap.size (Wr.heap.size+1)) λx hx=>.inr o_) (λx hx=>by rcases hx with hx|hx <;> omega);have⟨W7,Jd⟩:=q_ (W6.alloc (.cells #[sV Q[k].f.nm,Q[k].vp,.slice J bn bc] 52));have Z:Bl W6 W7:=by rw[Jd];exact r_.alloc n_ _
 have s7:W7.heap.size=W6.heap.size+1:=by rw[Jd];simp
 have f7:aN W7 W6.heap.size [sV Q[k].f.nm,Q[k].vp,.slice J bn bc]:=by rw[Jd];exact aI W6 _ _ i_
 have q7:=q6.below Z;have Jg:=Jk.below Z;have tM:aj (λx=>x<M) w W7:=((h.tcs.trans t6).mono (T:=λx=>x<M) λx hx=>by have e:x=g:=hx;omega).of_below Z;have Ja:∀x,(Value.slice oa k oc).ownBlock=some x->N<=x/\x<Wr.heap.size:=λx hx=>fq.rng x hx;obtain⟨U,Jc⟩:∃U:FV,U=⟨{Q[k].f with bd:=R'.map (·.s)},Q[k].vp,.slice J bn bc,R',[],[]⟩:=⟨_,rfl⟩;have Jj:nj U.f:=by
  rw[Jc];have hl:Q[k].R.length=Q[k].f.bd.length:=by rw[<-((hQ w (aj.refl _ _)).2 Q[k] hm).2.2,J8]
  refine⟨ho.nm,ho.pl,ho.pn,by show(R'.map (·.s)).length<=20000;rw[J8];have:=ho.bu;omega,λs hs=>?_⟩;obtain⟨y,hy,rfl⟩:=mem_map.1 hs;exact I.br.ok y hy
 obtain⟨v',w8,r8,q8,t8,-⟩:=Hs (Q2:=[U]) (m:=1) (c:=1) 24 q7 (some ⟨W6.heap.size,0,none⟩) rfl (λe=>by cases e) (λad had j u hu=>by
  cases had;rw[dk,Nat.zero_add];exact(f7 j u (by rw[Jc]at hu;simpa[bD,aX]using hu)).1) (λx hx=>by
  simp only[J7]at hx;rw[hx,Jc];exact⟨by show Q[k].vp.oneCell'=true;rw[ep];rfl,rfl⟩) (λx hx=>by
  simp only[J7]at hx;rw[hx];exact Jj) (λW' hW' x hx=>by
  simp only[J7]at hx;rw[hx,Jc];have Ji:aj (λx=>x<M) w W':=tM.next hW' (λy hy=>by
   rcases hy with(hy|hy)|hy;exact .inl hy;exact .inr hy.1
   have:=Ja y hy;exact .inr o_)
  have tB:aj (Sc M w.heap.size (Wr.heap.size+1)) W7 W':=hW'.mono λy hy=>by
   rcases hy with(hy|hy)|hy;exact .inl hy;exact .inr o_
   have:=Ja y hy;exact .inr o_
  exact⟨((hQ W' Ji).2 Q[k] hm).1,C8 (bE Jg.row.row tB (λy hy=>by rcases hy with hy|hy <;> omega)) (Jg.row.st W' (tB.mono λy hy=>.inl hy)),rfl⟩) H6 o_
 have Jb:(Q'++[U]).length=k+1:=by simp[Jh]
 obtain⟨va,vc,ev,-⟩:=aH q8.row.row;rw[Jb]at ev;subst ev;have s8:=t8.size;have o8:aN w8 O [vg,.slice oa k oc]:=(o6.below Z).tcs o_ t8 (λe=>Ka (Ja _ e));have t9:aj (λx=>x=O) w8 (w8.setCell ⟨O,1,none⟩ (.slice va (k+1) vc)):=(aj.refl (λx=>x=O) w8).setCell (p:=⟨O,1,none⟩) rfl _;have tW:aj (λx=>x=O\/N<=x) W (w8.setCell ⟨O,1,none⟩ (.slice va (k+1) vc)):=(((tF.mono (T:=λx=>x=O\/N<=x) λx hx=>.inr o_).of_below Z).trans (t8.mono λx hx=>.inr (Ja x hx).1)).trans (t9.mono λx hx=>.inl hx);have tR:aj (λx=>x=g\/x=O\/N<=x) Wr (w8.setCell ⟨O,1,none⟩ (.slice va (k+1) vc)):=(I.tcs.mono (T:=λx=>x=g\/x=O\/N<=x) λx hx=>.inl hx).trans (tW.mono λx hx=>.inr hx);refine⟨oa,oc,(o6 1 _ rfl).1,⟨(f6 0 _ rfl).1,(f6 1 _ rfl).1,(f6 2 _ rfl).1⟩,va,vc,w8,by rw[<-Jd];exact r8,o8 1 _ rfl,?_⟩;refine⟨I.cur.new hL tW (λx hx=>by rcases hx with hx|hx <;> omega),(h.tcs.trans I.tcs).next tW (λx hx=>by rcases hx with hx|hx <;> exact .inr o_),h.b3.tcs o_ tR (λe=>by rcases e with e|e|e <;> omega),h.b4.tcs o_ tR (λe=>by rcases e with e|e|e <;> omega),⟨va,vc,Q'++[U],o8.set 1 _,q8.tcs (t9.mono λx hx=>.inr o_) (λx hx=>by rcases hx with hx|hx <;> omega),Jb⟩,Ka t9.size⟩
def xO.alloc{v:BY}(h:xO g M a len cap A F B Wr W nm vp vb v R)(o:Obj):xO g M a len cap A F B Wr (W.alloc o) nm vp vb v R:=by have l:=h.lo;have I:Bl W (W.alloc o):=ao _ _;exact⟨h.cur.below I,h.tcs.of_below I,h.bF.below I,h.br.below I,by simp;omega⟩
def xO.at{I:Nat}(h:xO g M a len cap A F B Wr W nm vp vb (rV I bn bc) R)(i:Nat)(J:i<R.length):
  W.cell? ⟨I,i*6,none⟩=some (V R[i].s.kd)/\∃va vn vc,W.cell? ⟨I,i*6+2,none⟩=some (.slice va vn vc)/\W.frozen? ⟨I,i*6+2,none⟩=false:=by
 have Z:(bO R).length=R.length*6:=eE R;have U:bn=R.length:=by obtain⟨_,_,e,-⟩:=aH h.br.row.row;simp at e;exact e.2.1
 subst U;have Ja:∀c,c<6->W.cell? ⟨I,i*6+c,none⟩=(cellsS R[i])[c]? := λc hc=>by have e:=ownsRow.cellAt h.br.row.row (i*6+c) o_;rw[fB R i c J hc]at e;exact e
 obtain⟨⟨va,vc,e,-⟩,-⟩:=h.br.row.now _ (g_ J);exact⟨Ja 0 o_,va,_,vc,(Ja 2 o_).trans (by rw[<-e];rfl),ownsRow.frozenAt h.br.row.row _⟩
def Dh.fin{t:Tr}(h:Dh g M a len cap P3 R4 O N w W vg vf t.fc.length)(hL:Lo g a len (S0 g) w.heap.size)(I:TW (λk=>k<M) w vg vf t):
  ∃oa oc,(DO W O 0 vg/\DO W O 1 (.slice oa t.fc.length oc))/\(DO W R4 0 nV/\DO W R4 1 nV/\D4 W R4 0/\D4 W R4 1)/\∃W',W'=(W.setCell ⟨R4,0,none⟩ vg).setCell ⟨R4,1,none⟩ (.slice oa t.fc.length oc)/\(DO W' R4 0 vg/\DO W' R4 1 (.slice oa t.fc.length oc))/\(∃t',TW (λk=>k<M) W' vg (.slice oa t.fc.length oc) t')/\Dr g a len cap (S0 g) w W':=by
 have l:=h.lo;have⟨oa,oc,J,fo,fq,Ja⟩:=h.fr;have⟨W',Jb⟩:=q_ ((W.setCell ⟨R4,0,none⟩ vg).setCell ⟨R4,1,none⟩ (.slice oa t.fc.length oc));have U:aj (λx=>x=R4) W W':=by rw[Jb];exact((aj.refl (λx=>x=R4) W).setCell (p:=⟨R4,0,none⟩) rfl _).setCell (p:=⟨R4,1,none⟩) rfl _
 have Z:aN W' R4 [vg,.slice oa t.fc.length oc]:=by rw[Jb];exact(h.b4.set 0 _).set 1 _
 have q:=fq.tcs (U.mono (T:=Sc M w.heap.size N) λx hx=>.inr o_) (λx hx=>by rcases hx with hx|hx <;> omega);have d:Dr g a len cap (S0 g) w W':=Dr.new ⟨h.cur,h.tcs⟩ hL U (λx hx=>by omega);have hp:=I.fp;obtain⟨b,c,e⟩:∃b c,Value.slice oa t.fc.length oc=rV b t.fc.length c:=by rcases q.row.row.2 with⟨-,hz⟩|⟨x,cp,cu,e,-⟩;omega;exact⟨x,cp,by rw[e,Ja]⟩
 have hS:∀x,Sc M w.heap.size N x->x<N:=λx hx=>by rcases hx with hx|hx <;> omega
 have tM:=d.tcs.mono (T:=λx=>x<M) λx hx=>by have e:x=g:=hx;omega
 refine⟨oa,oc,⟨(fo 0 _ rfl).1,(fo 1 _ rfl).1⟩,⟨(h.b4 0 _ rfl).1,(h.b4 1 _ rfl).1,(h.b4 0 _ rfl).2,(h.b4 1 _ rfl).2⟩,W',Jb,⟨(Z 0 _ rfl).1,(Z 1 _ rfl).1⟩,⟨⟨t.gl,J.map (λq:FV=>q.f)⟩,?_⟩,d⟩;refine⟨λX hX=>I.gs X (tM.trans hX),λX hX=>q.fc hS X (hX.mono λx hx=>.inl hx),?_,I.gl,I.gn,by show(J.map _).length<=20;rw[J8,Ja];exact I.fl,by show 1<=(J.map _).length;rw[J8,Ja];exact I.fp,λf hf=>?_⟩;rw[e]at q⊢;exact q.fx Ja.symm hS (λx hx=>.inl hx);obtain⟨y,hy,rfl⟩:=mem_map.1 hf;exact q.ok y hy
end
section
variable{g M len cap O R4 N fl gl b c b' c' bb bn bc B:Nat}{a:Option Addr}{w W W':AT}{gs:List Gl}{Q:List FV}{R:List SV}{S:Ft}{vb v:BY}
def QP.past(h:QP g M a len cap O R4 N fl gl w W b c b' c' gs Q bb bn bc R)(ht:aj S W W')(hc:ew g a len cap W')(hS:∀k,S k->(k=g\/w.heap.size<=k)/\k≠O/\k≠R4/\k≠b/\k≠b'/\k≠bb):QP g M a len cap O R4 N fl gl w W' b c b' c' gs Q bb bn bc R:=
 ⟨h.pp.past ht hc (λk hk=>by obtain⟨h1,h2,h3,h4,h5,-⟩:=hS k hk;exact⟨h1,h2,h3,h4,h5⟩),⟨h.br.row.past ht (λk hk=>(hS k hk).1.imp (λe=>Ka h.pp.lo) id) (λk hk e=>by simp only[ownBlock,J0]at hk;exact(hS k e).2.2.2.2.2 hk.symm),h.br.ok⟩,h.rl,h.es,h.bne⟩
def QP.new(h:QP g M a len cap O R4 N fl gl w W b c b' c' gs Q bb bn bc R)(U:Lo g a len (S0 g) w.heap.size)(J:aj S W W')(I:∀k,S k->B<=k)(hB:O<B/\b<B/\b'<B/\bb<B):QP g M a len cap O R4 N fl gl w W' b c b' c' gs Q bb bn bc R:=by have⟨l0,l1,l2,l3,Z⟩:=h.pp.lo;refine h.past J (h.pp.cur.new U J (λk hk=>Ka (I k hk))) (λk hk=>?_);have:=I k hk;exact⟨.inr o_,o_,o_,o_,o_,o_⟩
def QP.hi(h:QP g M a len cap O R4 N fl gl w W b c b' c' gs Q bb bn bc R):O<W.heap.size/\b<W.heap.size/\b'<W.heap.size/\bb<W.heap.size:=
 ⟨h.pp.lo.2.2.2.2,h.pp.rng.1.2,h.pp.rng.2.2,(h.br.rng bb rfl).2⟩
structure RP (g M:Nat) (a:Option Addr) (len cap O R4 N fl gl:Nat) (w W:AT) (b c b' c':Nat) (gs:List Gl) (Q:List FV) (vb:BY) (R:List SV):Prop where
 pp:PP g M a len cap O R4 N fl gl w W b c b' c' gs Q
 br:BR (λk=>k<M\/k=R4\/k=b') N W vb R
 bne:∀k,vb.ownBlock=some k->k≠O/\k≠b/\k≠b'
def QP.rp(h:QP g M a len cap O R4 N fl gl w W b c b' c' gs Q bb bn bc R):RP g M a len cap O R4 N fl gl w W b c b' c' gs Q (rV bb bn bc) R:=
 ⟨h.pp,h.less,λk hk=>by simp only[ownBlock,J0]at hk;have:=h.bne;omega⟩
def RP.cp(h:RP g M a len cap O R4 N fl gl w W b c b' c' gs Q vb R)(hl:R.length<=20000):CP g M a len cap O R4 N fl w W vb (rV b gl c) b' c' gs Q R:=h.pp.cp h.br hl (λk hk=>(h.bne k hk).2.2)
def RP.dr(h:RP g M a len cap O R4 N fl gl w W b c b' c' gs Q vb R)(hd:Dr g a len cap (S0 g) W W'):RP g M a len cap O R4 N fl gl w W' b c b' c' gs Q vb R:=
 ⟨h.pp.dr hd,⟨h.br.row.past hd.tcs (λk hk=>.inl (by have e:k=g:=hk;have:=h.pp.lo;omega)) (λk hk e=>by
  have e:k=g:=e;have:=(h.br.rng k hk).1
  have:=h.pp.lo
  omega),h.br.ok⟩,h.bne⟩
def RP.below(h:RP g M a len cap O R4 N fl gl w W b c b' c' gs Q vb R)(hb:Bl W W'):RP g M a len cap O R4 N fl gl w W' b c b' c' gs Q vb R:=
 ⟨h.pp.below hb,h.br.below hb,h.bne⟩
def RP.app(h:RP g M a len cap O R4 N fl gl w W b c b' c' gs Q vb R)(hL:Lo g a len (S0 g) w.heap.size)(hl:R.length<=15000)(kd k v:Int)(nm s:Io)(hn:nm.size<=100000)(hs:s.size<=100000):
  ∃va vn vc w3,(Builtin.append_ #[50,50] 50 #[vb,.slice (some ⟨W.heap.size+1,0,none⟩) 1 1]).run prog ((W.alloc (.cells #[V k,V v,sV s] 81)).alloc (.cells #[V kd,sV nm,rV W.heap.size 1 1,nV,V 0,V 0] 79))=.ok (.slice va vn vc) w3/\vn=R.length+1/\∃R',R'.length=R.length+1/\RP g M a len cap O R4 N fl gl w w3 b c b' c' gs Q (.slice va vn vc) R':=by
 obtain⟨l0,l1,l2,l3,l4⟩:=h.pp.lo;obtain⟨i0,hi,Jj,Jk,Jm⟩:=info_parts gS;obtain⟨⟨s1,s2⟩,s3,s4⟩:=h.pp.rng;have Jg:Bl W (W.alloc (.cells #[V k,V v,sV s] 81)):=ao _ _;have Jf:=cG W W.heap.size n_ k v s;have Jb:(W.alloc (.cells #[V k,V v,sV s] 81)).heap.size=W.heap.size+1:=i_;obtain⟨W1,Ji⟩:=q_ (W.alloc (.cells #[V k,V v,sV s] 81));rw[<-Ji]at Jg Jf Jb⊢;rw[<-Jb];have Je:Bl W1 (W1.alloc (.cells #[V kd,sV nm,rV W.heap.size 1 1,nV,V 0,V 0] 79)):=ao _ _;have Ja:(W1.alloc (.cells #[V kd,sV nm,rV W.heap.size 1 1,nV,V 0,V 0] 79)).ownsRow W1.heap.size 79 6 (rV W1.heap.size 1 1) 1 (bO [⟨⟨kd,nm,[⟨k,v,s⟩],[],0,0⟩,rV W.heap.size 1 1,nV,[],[]⟩]):=ownsRow_lit W1 #[V kd,sV nm,rV W.heap.size 1 1,nV,V 0,V 0] 1 n_ d_ rfl;have Jd:(W1.alloc (.cells #[V kd,sV nm,rV W.heap.size 1 1,nV,V 0,V 0] 79)).heap.size=W1.heap.size+1:=i_;obtain⟨J,Jh⟩:=q_ (W1.alloc (.cells #[V kd,sV nm,rV W.heap.size 1 1,nV,V 0,V 0] 79));rw[<-Jh]at Je Ja Jd⊢;have h2:=(h.below Jg).below Je;have Jn:aW W.heap.size J _ _:=aW.below Jf Je;have Jc:=h.br.rng;have Jl:∀W',aj (λj=>(j<M\/j=R4\/j=b')\/vb.ownBlock=some j) J W'->BH [⟨⟨kd,nm,[⟨k,v,s⟩],[],0,0⟩,rV W.heap.size 1 1,nV,[],[]⟩] W':=λW' hW' x hx=>by simp only[J7]at hx;subst hx;refine⟨gL Jn (λj hj=>?_) W' hW',dd W'⟩;rcases hj with(e|e|e)|e;omega;omega;omega;exact(Jc j e).2
 obtain⟨v',w3,Z,I,U,r4⟩:=jI (Pg:=prog) (w:=J) (T:=79) (t:=50) (c:=1) (m:=1) (P2:=BH [⟨⟨kd,nm,[⟨k,v,s⟩],[],0,0⟩,rV W.heap.size 1 1,nV,[],[]⟩]) 50 underlying50 hi Jj Jk Jm rfl d_ h2.br.row (some ⟨W1.heap.size,0,none⟩) (λe=>by cases e) rfl (λad had j u hu=>by cases had;exact ownsRow.cells Ja (g:=W1.heap.size) rfl j u hu) (gR _ λq hq=>by simp only[J7]at hq;subst hq;exact⟨rfl,rfl⟩) Jl o_ d_ o_;obtain⟨va,vc,rfl,-⟩:=aH I.row;refine⟨va,_,vc,w3,Z,rfl,R++[⟨⟨kd,nm,[⟨k,v,s⟩],[],0,0⟩,rV W.heap.size 1 1,nV,[],[]⟩],i_,?_,⟨⟨?_,λW' hW' x hx=>?_⟩,λx hx=>?_⟩,λj hj=>?_⟩
 ·refine h2.pp.past U (h2.pp.cur.new hL U (λj hj=>by have:=(Jc j hj).1;omega)) (λj hj=>?_);have:=(Jc j hj).1
  obtain⟨e1,e2,e3⟩:=h.bne j hj;exact⟨.inr o_,e1,o_,e2,e3⟩
 rw[l_a,jb];exact I.row;rcases J5.1 hx with hx|hx;exact(I.st W' hW').1 x hx;exact(I.st W' hW').2 x hx;rcases J5.1 hx with hx|hx;exact h.br.ok x hx;simp only[J7]at hx;subst hx;exact⟨(cI.one hs).more o_,cI.nil.more o_,hn⟩;rcases r4 j hj with h5|h5;exact h.bne j h5;omega
def Dl(w:AT)(Z:Option Addr)(J U:Nat)(I:List Nd)(h:aC (w.alloc (.cells #[] 81)) (.slice Z J U) I)(hl:I.length<=100000):
  ∃ua un uc w1,(Builtin.append_ #[77,77] 77 #[rV w.heap.size 0 0,.slice Z J U]).run prog (w.alloc (.cells #[] 81))=.ok (.slice ua un uc) w1/\aW w.heap.size w1 (.slice ua un uc) I/\Bl w w1:=by
 have Ja:Bl w (w.alloc (.cells #[] 81)):=ao _ _;have h0:=iR w w.heap.size n_;have⟨v',w',r1,r2,r3,r4⟩:=jJ w.heap.size 77 _ [] h0 (.slice Z J U) I h H6 Ja.size;obtain⟨ua,uc,rfl,-⟩:=aH r2;exact⟨ua,_,uc,w',r1,IN r2,Ja.grown r3 Ja.size (λj hj=>(ownsRow.lt h0 j hj).1)⟩
def y7{I:List Nd}(h:aW B w v I)(hB:B<=w.heap.size)(k x:Int)(s:Io)(hl:I.length<=100000):
  ∃ua un uc w1,(Builtin.append_ #[77,77] 77 #[v,rV w.heap.size 1 1]).run prog (w.alloc (.cells #[V k,V x,sV s] 81))=.ok (.slice ua un uc) w1/\un=I.length+1/\aW B w1 (.slice ua un uc) (I++[⟨k,x,s⟩])/\aj (λj=>B<=j) w w1:=by
 have Ja:Bl w (w.alloc (.cells #[V k,V x,sV s] 81)):=ao _ _;have h0:=cG w w.heap.size n_ k x s;have U:aW B (w.alloc (.cells #[V k,V x,sV s] 81)) v I:=aW.below h Ja;have⟨v',w',r1,J,Z,r4⟩:=jJ B 77 v I U _ _ h0.nodes H6 (t_ hB Ja.size);obtain⟨ua,uc,rfl,-⟩:=aH J;exact⟨ua,_,uc,w',r1,i_,IN J,(Ja.tcs).next (aj.of_grown (S:=λj=>B<=j) Z (λj hj=>(ownsRow.lt U j hj).1)) (λj hj=>.inl hj)⟩
theorem AY:∀(gs:List Gl) (n:Int) (hp:0<gs.length),dw (gs.set 0 ⟨gs[0].nm,n⟩)=(dw gs).set 1 (V n)
 | x::l,n,_=>rfl
def QP.gput(h:QP g M a len cap O R4 N fl gl w W b c b' c' gs Q bb bn bc R)(hL:Lo g a len (S0 g) w.heap.size):
  (∃k0:Int,W.cell? ⟨b,1,none⟩=some (V k0))/\W.frozen? ⟨b,1,none⟩=false/\∀n:Int,∃gs',CP g M a len cap O R4 N fl w (W.setCell ⟨b,1,none⟩ (V n)) (rV bb bn bc) (rV b gl c) b' c' gs' Q R:=by
 have⟨l0,l1,l2,l3,l4⟩:=h.pp.lo;have⟨q1,q2,q3,Z,q5,q6⟩:=h.pp.ln;have⟨r1,r2,r3⟩:=h.rl;have⟨b1,b2,b3⟩:=h.bne;have⟨e1,e2,e3⟩:=h.pp.ne;have⟨⟨s1,s2⟩,s3,s4⟩:=h.pp.rng;have Jb:W.ownsRow N 48 2 (rV b gl c) gs.length (dw gs):=h.pp.gr;have Ja:W.ownsRow N 48 2 (rV b gl c) gl (dw gs):=by have U:=Jb;rw[Z]at U;exact U
 have Jf:=ka gs;refine⟨⟨gs[0].size,?_⟩,ownsRow.frozenAt Ja _,λn=>?_⟩;rw[ownsRow.cellAt Ja 1 o_];exact kc gs 0 1 o_ o_;have I:aj (λk=>k=b) W (W.setCell ⟨b,1,none⟩ (V n)):=(aj.refl (λk=>k=b) W).setCell (p:=⟨b,1,none⟩) rfl _;have Je:GR N (W.setCell ⟨b,1,none⟩ (V n)) (rV b gl c) (gs.set 0 ⟨gs[0].nm,n⟩):=by unfold GR;rw[length_set,AY gs n o_,Z];exact(Ja.stored 1 (V n)).1
 have Jc:BR (λk=>k<M\/w.heap.size<=k) N (W.setCell ⟨b,1,none⟩ (V n)) (rV bb bn bc) R:=⟨h.br.row.past I (λk hk=>.inr o_) (λk hk e=>by simp only[ownBlock,J0]at hk;have e:k=b:=e;omega),h.br.ok⟩;have Jd:F2 (λk=>k<M\/w.heap.size<=k) N (W.setCell ⟨b,1,none⟩ (V n)) (rV b' fl c') Q:=⟨h.pp.fr.row.past I (λk hk=>.inr o_) (λk hk e=>by simp only[ownBlock,J0]at hk;have e:k=b:=e;omega),h.pp.fr.ok⟩;refine⟨_,h.pp.box.tcs l4 I (λe=>e1 e),h.pp.res.tcs o_ I (λe=>by have e:R4=b:=e;omega),Je,Jd.less (λk hk=>by rcases hk with e|e;exact .inl e;exact .inr o_),⟨Jc.row.less (λk hk=>by rcases hk with e|e|e;exact .inl e;exact .inr o_;exact .inr o_),Jc.ok⟩,⟨q1,q3,by rw[length_set];omega,o_⟩,λx J=>?_,h.pp.cur.new hL I (λk hk=>by omega),h.pp.tcs.next I (λk hk=>.inr o_),⟨e2,o_,λk hk=>?_,λk hk=>?_⟩,⟨l0,l1,l2,o_⟩⟩;rcases mem_or_eq_of_mem_set J with J|rfl;exact h.pp.gn x J;exact h.pp.gn gs[0] (g_ _);simp only[ownBlock,J0]at hk;omega;simp only[ownBlock,J0]at hk;omega
def QP.gapp(h:QP g M a len cap O R4 N fl gl w W b c b' c' gs Q bb bn bc R)(hL:Lo g a len (S0 g) w.heap.size)(nm:Io)(hn:nm.size<=100000):
  DO (W.alloc (.cells #[sV nm,V 0] 48)) O 0 (rV b gl c)/\∃ya yn yc w',(Builtin.append_ #[23,23] 23 #[rV b gl c,rV W.heap.size 1 1]).run prog (W.alloc (.cells #[sV nm,V 0] 48))=.ok (.slice ya yn yc) w'/\(DO w' O 0 (rV b gl c)/\D4 w' O 0)/\∃gs',CP g M a len cap O R4 N fl w (w'.setCell ⟨O,0,none⟩ (.slice ya yn yc)) (rV bb bn bc) (.slice ya yn yc) b' c' gs' Q R:=by
 have I:=h.alloc (.cells #[sV nm,V 0] 48);have Jb:(W.alloc (.cells #[sV nm,V 0] 48)).ownsRow W.heap.size 48 2 (rV W.heap.size 1 1) 1 (dw [⟨nm,0⟩]):=ownsRow_lit W #[sV nm,V 0] 1 n_ d_ rfl;have Jj:(W.alloc (.cells #[sV nm,V 0] 48)).heap.size=W.heap.size+1:=i_;have⟨W1,Jf⟩:=q_ (W.alloc (.cells #[sV nm,V 0] 48));rw[<-Jf]at I Jb Jj⊢;refine⟨(I.pp.box 0 _ rfl).1,?_⟩;have⟨l0,l1,l2,l3,l4⟩:=h.pp.lo;have⟨q1,q2,q3,q4,q5,q6⟩:=h.pp.ln;have⟨r1,r2,r3⟩:=h.rl;have⟨b1,b2,b3⟩:=h.bne;have⟨e1,e2,e3⟩:=h.pp.ne;have⟨⟨s1,s2⟩,s3,s4⟩:=h.pp.rng;have Jn:=h.br.rng bb rfl;have⟨i0,hi,Ji,Jd,Jl⟩:=info_parts rD;have Je:W1.ownsRow N 48 2 (rV b gl c) gs.length (dw gs):=I.pp.gr;have⟨v',w',x1,x2,x3,x4⟩:=cU (P:=prog) (w:=W1) N 23 23 48 i0 _ 2 24 underlying23 hi Ji Jd Jl rfl d_ _ gs.length (dw gs) Je (some ⟨W.heap.size,0,none⟩) 1 1 (dw [⟨nm,0⟩]) (λe=>by cases e) rfl (λad had j u hu=>by cases had;exact ownsRow.cells Jb (g:=W.heap.size) rfl j u hu) (λu hu=>by simp[dw,AQ]at hu;rcases hu with rfl|rfl <;> rfl) o_ d_ o_;obtain⟨ya,yc,rfl,-⟩:=aH x2;have J:aj (λk=>k=b) W1 w':=aj.of_grown x3 (λk hk=>by simp only[ownBlock,J0]at hk;exact hk.symm);have Ja:=I.pp.box.tcs o_ J (λe=>e1 e);refine⟨ya,_,yc,w',x1,Ja 0 _ rfl,gs++[⟨nm,0⟩],?_⟩;have Jo:Bl W W1:=by rw[Jf];exact r_.alloc n_ _
 have U:aj (λk=>k=O) w' (w'.setCell ⟨O,0,none⟩ (.slice ya (gs.length+1) yc)):=(aj.refl (λk=>k=O) w').setCell (p:=⟨O,0,none⟩) rfl _;have Jm:=J.size;have Z:∀k,(Value.slice ya (gs.length+1) yc).ownBlock=some k->k=b\/W1.heap.size<=k:=λk hk=>by rcases x4 k hk with e|e;simp only[ownBlock,J0]at e;exact .inl e.symm;exact .inr e
 have Jk:GR N (w'.setCell ⟨O,0,none⟩ (.slice ya (gs.length+1) yc)) (.slice ya (gs.length+1) yc) (gs++[⟨nm,0⟩]):=by
  have:=gN x2 U (λk hk e=>by have e:k=O:=e;rcases Z k hk with h|h <;> omega)
  unfold GR;rw[l_a];have e:dw (gs++[⟨nm,0⟩])=dw gs++dw [⟨nm,0⟩]:=by simp[dw]
  rw[e];exact this
 have Jc:aj (λk=>k=b\/k=O) W1 (w'.setCell ⟨O,0,none⟩ (.slice ya (gs.length+1) yc)):=(J.mono λk hk=>.inl hk).next U (λk hk=>.inl (.inr hk));have Jg:BR (λk=>k<M\/w.heap.size<=k) N (w'.setCell ⟨O,0,none⟩ (.slice ya (gs.length+1) yc)) (rV bb bn bc) R:=⟨I.br.row.past Jc (λk hk=>.inr o_) (λk hk e=>by simp only[ownBlock,J0]at hk;have e:k=b\/k=O:=e;omega),h.br.ok⟩;have Jh:F2 (λk=>k<M\/w.heap.size<=k) N (w'.setCell ⟨O,0,none⟩ (.slice ya (gs.length+1) yc)) (rV b' fl c') Q:=⟨I.pp.fr.row.past Jc (λk hk=>.inr o_) (λk hk e=>by simp only[ownBlock,J0]at hk;have e:k=b\/k=O:=e;omega),h.pp.fr.ok⟩;refine⟨Ja.set 0 _,(I.pp.res.tcs o_ Jc (λe=>by have e:R4=b\/R4=O:=e;omega)),Jk,Jh.less (λk hk=>by rcases hk with e|e;exact .inl e;exact .inr o_),⟨Jg.row.less (λk hk=>by rcases hk with e|e|e;exact .inl e;exact .inr o_;exact .inr o_),Jg.ok⟩,⟨q1,q3,by simp;omega,o_⟩,λx hx=>?_,I.pp.cur.new hL Jc (λk hk=>by omega),I.pp.tcs.next Jc (λk hk=>.inr o_),⟨e2,o_,λk hk=>?_,λk hk=>?_⟩,⟨l0,l1,l2,o_⟩⟩;rcases J5.1 hx with hx|hx;exact h.pp.gn x hx;simp only[J7]at hx;subst hx;exact hn;rcases Z k hk with h|h <;> omega
 simp only[ownBlock,J0]at hk;omega
def pL{e0:Nat}(h0:w.ownsRow B 9 1 (rV e0 0 0) 0 [])(hB:B<=w.heap.size)(U:Option Addr)(vn J:Nat)(I:List Io)(h:be w (.slice U vn J) I)(hl:I.length<=100000):
  ∃ua un uc w1,(Builtin.append_ #[49,49] 49 #[rV e0 0 0,.slice U vn J]).run prog w=.ok (.slice ua un uc) w1/\w1.ownsRow B 9 1 (.slice ua un uc) I.length (I.map Value.string)/\aj (λj=>j=e0) w w1/\∀k,(Value.slice ua un uc).ownBlock=some k->k=e0\/w.heap.size<=k:=by
 have⟨i0,hi,Ja,Jb,Jc⟩:=info_parts iJ;have⟨a,c,e,hn,hc⟩:=h.src;simp only[Value.slice.injEq]at e;obtain⟨rfl,rfl,rfl⟩:=e;have⟨v1,w1,r1,Z,g1,f1⟩:=cU (P:=prog) (w:=w) B 49 49 9 i0 _ 1 16 underlying49 hi Ja Jb Jc rfl d_ _ 0 [] h0 U I.length J (I.map Value.string) (λe=>by rw[hn e];rfl) i_ hc (λu hu=>by obtain⟨x,-,rfl⟩:=mem_map.1 hu;rfl) o_ d_ hB;obtain⟨ua,uc,rfl,-⟩:=aH Z;refine⟨ua,_,uc,w1,r1,IN Z,aj.of_grown g1 (λj hj=>by simp only[ownBlock,J0]at hj;exact hj.symm),λk hk=>?_⟩;rcases f1 k hk with h|h
 simp only[ownBlock,J0]at h;exact .inl h.symm;exact .inr h
def Fz{I:List Io}(h:w.ownsRow B 9 1 v I.length (I.map Value.string))(hB:B<=w.heap.size)(nm:Io)(hl:I.length<=100000):
  ∃ua un uc w1,(Builtin.append_ #[49,49] 49 #[v,rV w.heap.size 1 1]).run prog (w.alloc (.cells #[sV nm] 9))=.ok (.slice ua un uc) w1/\w1.ownsRow B 9 1 (.slice ua un uc) (I++[nm]).length ((I++[nm]).map Value.string)/\aj (λj=>B<=j) w w1:=by
 have⟨Z,hi,Jd,Je,Jc⟩:=info_parts iJ;have Ja:Bl w (w.alloc (.cells #[sV nm] 9)):=ao _ _;have J:=ownB h Ja;have Jb:(w.alloc (.cells #[sV nm] 9)).ownsRow w.heap.size 9 1 (rV w.heap.size 1 1) 1 [sV nm]:=ownsRow_lit w #[sV nm] 1 n_ d_ rfl;obtain⟨v2,w2,r2,U,g2,-⟩:=cU (P:=prog) (w:=w.alloc (.cells #[sV nm] 9)) B 49 49 9 Z _ 1 16 underlying49 hi Jd Je Jc rfl d_ v _ _ J (some ⟨w.heap.size,0,none⟩) 1 1 [sV nm] (λe=>by cases e) rfl (λad had j u hu=>by cases had;exact ownsRow.cells Jb (g:=w.heap.size) rfl j u hu) (λu hu=>by simp at hu;subst hu;rfl) o_ d_ (t_ hB Ja.size);obtain⟨a2,c2,rfl,-⟩:=aH U;refine⟨a2,_,c2,w2,r2,?_,(Ja.tcs).next (aj.of_grown (S:=λj=>B<=j) g2 (λj hj=>(ownsRow.lt J j hj).1)) (λj hj=>.inl hj)⟩;have e1:(I++[nm]).length=I.length+1:=i_;have e2:(I++[nm]).map Value.string=I.map Value.string++[sV nm]:=i_;rw[e1,e2];exact U
def QP.pick(h:QP g M a len cap O R4 N fl gl w W b c b' c' gs Q bb bn bc R)(Z:len<=1048576)(hL:Lo g a len (S0 g) w.heap.size)(I:List Io)(cs:Array BY)(n:Nat)(hn:n=I.length)(Jb:cs.toList=I.map Value.string)(hb:1<=n/\n<=1000)(hs:I.all (λp=>decide (p.size<=100000))=true):
  Calls prog 54 #[pV g,rV W.heap.size n n] (W.alloc (.cells cs 9)) λe w'=>∃s,s.size<=100000/\e=rW (sV s)/\QP g M a len cap O R4 N fl gl w w' b c b' c' gs Q bb bn bc R:=by
 have Ja:S0 g g:=rfl;have Jc:=h.pp.lo;refine(ik g a len cap (S0 g) I _ _ Z Ja (h.alloc _).pp.cur (kD I cs n hn Jb hb.2 (λk hk=>by have e:k=g:=hk;omega)) o_).mono ?_;rintro e w' ⟨s,U,rfl,J⟩;exact⟨s,by simpa using all_eq_true.1 hs s U,rfl,(h.alloc _).dr J⟩
def QP.low(h:QP g M a len cap O R4 N fl gl w W b c b' c' gs Q bb bn bc R):∀k,S0 g k->k<W.heap.size:=λk hk=>by have e:k=g:=hk;have:=h.pp.lo;omega
end
section
variable{g M len cap O R4 N fl gl b c b' c' bb bn bc n vn xn k:Nat}{a:Option Addr}{w W X:AT}{gs:List Gl}{Q:List FV}{R:List SV}{y:Int}{s:Io}{ps:List Io}
def QP.drew(h:QP g M a len cap O R4 N fl gl w W b c b' c' gs Q bb bn bc R):QP g M a len cap O R4 N fl gl w W.drew b c b' c' gs Q bb bn bc R:=h.below r_.drew
def QP.rlen(h:QP g M a len cap O R4 N fl gl w W b c b' c' gs Q bb bn bc R):R.length<=15000:=Ka h.rl
def QP.rlen'{I:List SV}(h:QP g M a len cap O R4 N fl gl w W b c b' c' gs Q bb bn bc R)(J:I.length=R.length+1):I.length<=20000:=Ka h.rl
def y9{f:Nat}(h:f<n):(0:Int)<=(f:Int)/\(f:Int)<(n:Int):=by omega
def Dm(h:n<=3000):n<=100000:=by omega
def FA(h:n<=2100):n<=100000:=by omega
def Ja(h:n<=10000):n<=15000:=by omega
def Jb(h:n<=10000):n<=20000:=by omega
def Jc:BY->Nat
 | .slice _ n _=>n
 | _=>0
def AZ{h:Nat}(J:y<2)(Ja:(vn:Int)<500+y)(I:vn=n)(U:xn=n+1)(Z:h=n+1):xn=h/\h<=10000/\502-xn<502-vn:=by omega
def xP{h:List Nd}{k x:Int}(hy:y<60)(Ja:(vn:Int)<1960+y)(Z:vn=h.length)(hx:xn=h.length+1)(I:cI h 2100)(J:s.size<=100000):xn=(h++[(⟨k,x,s⟩:Nd)]).length/\(h++[(⟨k,x,s⟩:Nd)]).length<=2100/\cI (h++[⟨k,x,s⟩]) 2100/\2100-xn<2100-vn:=by have U:(h++[(⟨k,x,s⟩:Nd)]).length=h.length+1:=i_;refine⟨o_,o_,⟨o_,λn hn=>?_⟩,o_⟩;rcases J5.1 hn with hn|hn;exact I.2 n hn;simp only[J7]at hn;subst hn;exact J
def fg(w:AT)(o:Obj):w.heap.size<=(w.alloc o).heap.size:=by simp
def QP.keep(h:QP g M a len cap O R4 N fl gl w W b c b' c' gs Q bb bn bc R){x:Nat}{p q:BY}(I:DO W O 1 p/\DO W b' x q)(J:aj (λk=>k=g\/W.heap.size<=k) W X):DO X O 1 p/\DO X b' x q:=by have⟨l0,l1,l2,l3,U⟩:=h.pp.lo;have⟨⟨s1,s2⟩,s3,Z⟩:=h.pp.rng;exact⟨(c_ (J.block O U (λe=>by have e:O=g\/W.heap.size<=O:=e;omega))).trans I.1,(c_ (J.block b' Z (λe=>by have e:b'=g\/W.heap.size<=b':=e;omega))).trans I.2⟩
def A_(h:s∈ps)(I:ps.all (λp=>decide (p.size<=100000))=true):s.size<=100000:=by simpa using all_eq_true.1 I s h
section
variable{P:Program}{ops:Array Oper}{Q:Exit->Act->AT->Prop}{md:Region.Mode}{S:AT->Prop}{l:Nat}
def mP{i j:Nat}{I J:Oper}{fuel:Nat}{listed:Array Bool}{a:Act}(Z:Region.ready md ops listed=[i,j])(hi:ops[i]? =some I)(hj:ops[j]? =some J)
  (U:∀K:Act->AT->Prop,Shut (∀a' w',(i≠l->S w')->db P md ops Q S l fuel (listed.setIfInBounds i true) a' w'->K a' w')->if Region.wanted I (yielded ops a.tmps)=true then I.wp P a w K Q else K (a.put I.dst undef) w)
  (h2:∀K:Act->AT->Prop,Shut (∀a' w',(j≠l->S w')->db P md ops Q S l fuel (listed.setIfInBounds j true) a' w'->K a' w')->if Region.wanted J (yielded ops a.tmps)=true then J.wp P a w K Q else K (a.put J.dst undef) w):db P md ops Q S l (fuel+1) listed a w:=by
 have Ja:∀(x:Nat) (o:Oper),ops[x]? =some o->(∀K:Act->AT->Prop,Shut (∀a' w',(x≠l->S w')->db P md ops Q S l fuel (listed.setIfInBounds x true) a' w'->K a' w')->if Region.wanted o (yielded ops a.tmps)=true then o.wp P a w K Q else K (a.put o.dst undef) w)->wpOp P ops Q x (λa' w'=>(x≠l->S w')/\db P md ops Q S l fuel (listed.setIfInBounds x true) a' w') a w:=λx o ho h=>by unfold wpOp;simp only[ho];have:=h (λa' w'=>(x≠l->S w')/\db P md ops Q S l fuel (listed.setIfInBounds x true) a' w') (λa' w' U h2=>⟨U,h2⟩);split;rename_i hw;rw[if_pos hw]at this;exact .inl this;rename_i hw;rw[if_neg hw]at this;exact this
 refine⟨λh0=>(by rw[Z]at h0;cases h0),λx hx=>?_⟩;rw[Z]at hx;simp only[mem_cons,not_mem_nil,or_false]at hx;rcases hx with rfl|rfl;exact Ja x I hi U;exact Ja x J hj h2
end
def sU(h:n<=20):n<=100000:=by omega
def sX(w:AT)(o p:Obj):w.heap.size<=((w.alloc o).alloc p).heap.size:=by simp;omega
def ze(h:k=n):n<=k:=by omega
def Dn(h:k=n+1):n<=k:=by omega
def FB(h:ps.length<=20/\∀p∈ps,p.size<=100000)(I:s.size<=100000):(ps++[s]).length<=30/\∀p∈ps++[s],p.size<=100000:=by refine⟨by simp;omega,λp hp=>?_⟩;rcases J5.1 hp with hp|hp;exact h.2 p hp;simp only[J7]at hp;subst hp;exact I
def Jd(w:AT)(o:Obj):((w.alloc o).alloc (.cells #[] 9)).ownsRow w.heap.size 9 1 (.slice (some ⟨w.heap.size+1,0,none⟩) 0 0) 0 []:=by
 have:=ownsRow_lit (base:=w.heap.size) (w.alloc o) (e:=9) (size:=1) #[] 0 (fg w o) d_ rfl
 simpa using this
def Je(I:List Io)(cs:Array BY)(Ja:cs.toList=I.map Value.string)(Z:g<w.heap.size)(U:aj (λj=>j=w.heap.size) ((w.alloc (.cells #[] 9)).alloc (.cells cs 9)) X)(J:I.length=4:=by rfl):∀W,aj (S0 g) X W->be W (.slice (some ⟨w.heap.size+1,0,none⟩) 4 4) I:=λW hW=>by have h:=kD (S:=λk=>k=g\/k=w.heap.size) (w:=w.alloc (.cells #[] 9)) I cs 4 J.symm Ja d_ (λk hk=>by simp;omega) W ((U.mono λk hk=>.inr hk).next hW (λk hk=>.inl (.inl hk)));simpa using h
def Jf(h:List Io)(cs:Array BY)(Ja:cs.toList=h.map Value.string)(Z:g<w.heap.size)(U:aj (λj=>j=w.heap.size+1) ((w.alloc (.cells cs 9)).alloc (.cells #[] 9)) X)(J:h.length=4:=by rfl):∀W,aj (S0 g) X W->be W (rV w.heap.size 4 4) h:=λW hW=>by have I:aj (S0 g) (w.alloc (.cells cs 9)) X:=((aj.refl (S0 g) _).alloc (.cells #[] 9)).next U (λk hk=>.inr (by have e:k=w.heap.size+1:=hk;simp;omega));exact kD (S:=S0 g) (w:=w) h cs 4 J.symm Ja d_ (λk hk=>by have e:k=g:=hk;omega) W (I.trans hW)
end
