import Derived.Test.YtjfmapphpijneaaGreatDoorS27
import Derived.Test.YtjfmapphpijneaaGreatDoorS29
import Derived.Test.YtjfmapphpijneaaGreatDoorS12
import Derived.Test.YtjfmapphpijneaaGreatDoorS07
namespace Go.Proofs.YtjfmapphpijneaaGreatDoor
set_option linter.all false
set_option maxRecDepth 100000
set_option maxHeartbeats 0
open Go.Value Go.World List Go.Proofs.Tryz Go.RowKit
variable[Inhabited Pick]
def lg{w w':AT}{B size n:Nat}{e:JZ}{v:BY}{J:List BY}(h:w.ownsRow B e size v n J)(Z:∀g,v.ownBlock=some g->w'.heap[g]? =w.heap[g]?):w'.ownsRow B e size v n J:=by obtain⟨I,h|⟨g,Jb,Ja,rfl,U,h2,h3⟩⟩:=h;exact⟨I,.inl h⟩;exact⟨I,.inr ⟨g,Jb,Ja,rfl,U,(Z g rfl).trans h2,h3⟩⟩
def pv{w:AT}{B J size n:Nat}{e:JZ}{v:BY}{U:List BY}(h:w.ownsRow B e size v n U)(hb:J<=B):w.ownsRow J e size v n U:=by obtain⟨I,h|⟨g,Jb,Ja,rfl,Z,h2,h3⟩⟩:=h;exact⟨I,.inl h⟩;exact⟨I,.inr ⟨g,Jb,Ja,rfl,t_ hb Z,h2,h3⟩⟩
def iM(B:Nat)(w:AT)(v:BY)(n:Nat)(xs:List BY)(K:List Nat):Prop:=(n=0/\K=[]/\∃a c,v=.slice a 0 c/\c<=9223372036854775807)\/∃g cap,v=rV g n cap/\K=[g]/\n<=cap/\cap<=9223372036854775807/\B<=g/\g<w.heap.size/\aN w g xs
def iM.keep{B:Nat}{w w':AT}{v:BY}{n:Nat}{I:List BY}{K:List Nat}(h:iM B w v n I K)(Z:w.heap.size<=w'.heap.size)(U:∀g∈K,w'.heap[g]? =w.heap[g]?):iM B w' v n I K:=by rcases h with h|⟨g,Ja,J,rfl,h3,h4,h5,h6,h7⟩;exact .inl h;exact .inr ⟨g,Ja,J,rfl,h3,h4,h5,l_ h6 Z,h7.keep (U g i_)⟩
def iM.rng{B:Nat}{w:AT}{v:BY}{n:Nat}{U:List BY}{K:List Nat}(h:iM B w v n U K):∀g∈K,B<=g/\g<w.heap.size:=by rcases h with⟨-,rfl,-⟩|⟨g,Ja,-,rfl,-,-,h5,h6,-⟩;intro g J;cases J;intro x I;simp only[J7]at I;subst I;exact⟨h5,h6⟩
def iM.slice{B:Nat}{w:AT}{v:BY}{n:Nat}{J:List BY}{K:List Nat}(h:iM B w v n J K):∃a c,v=.slice a n c/\n<=c/\c<=9223372036854775807:=by rcases h with⟨rfl,-,a,c,rfl,I⟩|⟨g,Ja,rfl,-,h3,h4,-⟩;exact⟨a,c,rfl,y_,I⟩;exact⟨_,Ja,rfl,h3,h4⟩
def iM.of_own{B:Nat}{w:AT}{e:JZ}{size n:Nat}{v:BY}{I:List BY}(h:w.ownsRow B e size v n I):∃K,iM B w v n I K/\∀g,v.ownBlock=some g↔g∈K:=by rcases h.2 with⟨rfl,rfl⟩|⟨g,Ja,Jb,rfl,h3,h4,h5,h6,h7,h8⟩;exact⟨[],.inl ⟨rfl,rfl,none,0,rfl,o_⟩,λg=>by simp[ownBlock]⟩;refine⟨[g],.inr ⟨g,Ja,rfl,rfl,h5,by unfold maxLen at h6;exact h6,h3,(ownsRow.lt h g rfl).2,λj x hx=>⟨ownsRow.cells h (g:=g) rfl j x hx |> λe=>by simpa[dk]using e,h.frozenAt j⟩⟩,λx=>by simp[ownBlock,eq_comm]⟩
def jj(g:Gl):List BY:=[sV g.nm,V g.size]
def ig(gs:List Gl):List BY:=gs.flatMap jj
theorem rj(gs:List Gl):(ig gs).length=gs.length*2:=by
 induction gs with
 | nil=>rfl
 | cons a r ih=>
  have:(ig (a::r)).length=2+(ig r).length:=by simp[ig,jj];omega
  rw[this,ih,l_c];omega
def iP(ps:List Io):List BY:=ps.map .string
structure EU (B:Nat) (w:AT) (v:BY) (R:List SV) (K:List Nat):Prop where
 row:iM B w v R.length (bO R) K
 each:∀q∈R,dH B w q.ve q.s.e q.ke/\dH B w q.vf q.s.f q.kf
 nd:(K++dP R).Nodup
def bP.m{B:Nat}{w:AT}{v:BY}{R:List SV}(h:bP B w v R):∃K,EU B w v R K/\∀g,v.ownBlock=some g↔g∈K:=by
 have⟨K,I,h2⟩:=iM.of_own h.row;refine⟨K,⟨I,h.each,?_⟩,h2⟩;rw[List.nodup_append];refine⟨?_,h.nd,λa ha b hb e=>?_⟩
 rcases I with⟨-,rfl,-⟩|⟨g,Ja,-,rfl,-⟩ <;> simp
 subst e;exact h.out a ((h2 a).2 ha) hb
def EU.rng{B:Nat}{w:AT}{v:BY}{R:List SV}{K:List Nat}(h:EU B w v R K):∀g∈K++dP R,B<=g/\g<w.heap.size:=by intro g hg;rcases J5.1 hg with hg|hg;exact h.row.rng g hg;simp only[dP,mem_flatMap,J5]at hg;obtain⟨q,I,hg|hg⟩:=hg;exact(h.each q I).1.rng g hg;exact(h.each q I).2.rng g hg
def EU.keep{B:Nat}{w w':AT}{v:BY}{R:List SV}{K:List Nat}(h:EU B w v R K)(hs:w.heap.size<=w'.heap.size)(hk:∀g∈K++dP R,w'.heap[g]? =w.heap[g]?):EU B w' v R K:=
 ⟨h.row.keep hs (λg hg=>hk g (J5.2 (.inl hg))),λq hq=>⟨(h.each q hq).1.keep hs (λg hg=>hk g (J5.2 (.inr ((gK hq).1 g hg)))),(h.each q hq).2.keep hs (λg hg=>hk g (J5.2 (.inr ((gK hq).2 g hg))))⟩,h.nd⟩
structure qq (B:Nat) (w:AT) (q:FV):Prop where
 ps:iM B w q.vp q.f.pm.length (iP q.f.pm) q.kp
 bd:EU B w q.vb q.R q.kb
 map:q.R.map (·.s)=q.f.bd
 nd:(qo q).Nodup
def qq.rng{B:Nat}{w:AT}{q:FV}(h:qq B w q):∀g∈qo q,B<=g/\g<w.heap.size:=by intro g hg;rcases J5.1 hg with hg|hg;exact h.ps.rng g hg;exact h.bd.rng g hg
def qq.keep{B:Nat}{w w':AT}{q:FV}(h:qq B w q)(hs:w.heap.size<=w'.heap.size)(hk:∀g∈qo q,w'.heap[g]? =w.heap[g]?):qq B w' q:=
 ⟨h.ps.keep hs (λg hg=>hk g (J5.2 (.inl hg))),h.bd.keep hs (λg hg=>hk g (J5.2 (.inr hg))),h.map,h.nd⟩
def qq.below{B:Nat}{w w':AT}{q:FV}(h:qq B w q)(hb:Bl w w'):qq B w' q:=h.keep hb.size (λg hg=>hb.block g (h.rng g hg).2)
def dH.up{B I:Nat}{w:AT}{v:BY}{n:Nat}{J:List BY}{K:List Nat}(h:iM B w v n J K)(Z:I<=B):iM I w v n J K:=by rcases h with h|⟨g,Ja,U,h2,h3,h4,h5,h6⟩;exact .inl h;exact .inr ⟨g,Ja,U,h2,h3,h4,t_ Z h5,h6⟩
def qq.base{B B':Nat}{w:AT}{q:FV}(h:qq B w q)(hb:B'<=B):qq B' w q:=
 ⟨dH.up h.ps hb,⟨dH.up h.bd.row hb,λx hx=>⟨(h.bd.each x hx).1.base hb,(h.bd.each x hx).2.base hb⟩,h.bd.nd⟩,h.map,h.nd⟩
def iM.strs{B:Nat}{w:AT}{v:BY}{I:List Io}{K:List Nat}(h:iM B w v I.length (iP I) K):be w v I:=by rcases h with⟨J,-,a,c,rfl,U⟩|⟨g,Ja,rfl,-,h3,h4,-,-,h7⟩;exact⟨a,c,by rw[J],o_,U,λhp=>absurd hp o_⟩;refine⟨_,Ja,rfl,h3,h4,λ_=>⟨g,0,rfl,λj hj=>?_⟩⟩;rw[Nat.zero_add];exact(h7 j (sV I[j]) (by simp[iP,J4 hj])).1
def EU.stmts{B:Nat}{w:AT}{v:BY}{R:List SV}{K:List Nat}(h:EU B w v R K):aZ w v (R.map (·.s)):=by
 rcases h.row with⟨U,-,a,c,rfl,Z⟩|⟨g,Jb,rfl,-,h3,h4,-,-,h7⟩;exact⟨a,c,by rw[J8,U],by rw[J8];omega,Z,λhp=>by rw[J8]at hp;omega⟩;refine⟨some ⟨g,0,none⟩,Jb,by rw[J8],by rw[J8];exact h3,h4,λhp=>⟨g,0,rfl,λj hj=>?_⟩⟩;rw[J8]at hj;have Ja:∀i (hi:i<6),w.cell? ⟨g,0+j*6+i,none⟩=(cellsS R[j])[i]? := λi hi=>by have e:=fB R j i hj hi;have J:i<(cellsS R[j]).length:=hi;rw[J4 J]at e⊢;rw[Nat.zero_add];exact(h7 _ _ e).1
 have I:=h.each R[j] (g_ hj);refine⟨R[j].ve,R[j].vf,?_,?_,?_⟩;simp only[getElem_map];exact⟨Ja 0 o_,Ja 1 o_,Ja 2 o_,Ja 3 o_,Ja 4 o_,Ja 5 o_⟩;simp only[getElem_map];exact I.1.nodes;simp only[getElem_map];exact I.2.nodes
structure cV (B:Nat) (w:AT) (v:BY) (Q:List FV):Prop where
 row:w.ownsRow B 52 3 v Q.length (bD Q)
 each:∀q∈Q,qq B w q
 nd:(kz Q).Nodup
 out:∀g,v.ownBlock=some g->g∉kz Q
def cV.nil(B:Nat)(w:AT):cV B w nV []:=⟨ownsRow_nil _ _ _ _,λq hq=>(by cases hq),nodup_nil,λg hg=>(by simp[ownBlock]at hg)⟩
def cV.rng{B:Nat}{w:AT}{v:BY}{Q:List FV}(h:cV B w v Q):∀g∈kz Q,B<=g/\g<w.heap.size:=by intro g I;have⟨q,J,I⟩:=mem_flatMap.1 I;exact(h.each q J).rng g I
def EV{Q:List FV}{q:FV}(hq:q∈Q):∀g∈qo q,g∈kz Q:=λg hg=>mem_flatMap.2 ⟨q,hq,hg⟩
def cV.below{B:Nat}{w w':AT}{v:BY}{Q:List FV}(h:cV B w v Q)(hb:Bl w w'):cV B w' v Q:=
 ⟨ownB h.row hb,λq hq=>(h.each q hq).below hb,h.nd,h.out⟩
def cV.shape{B:Nat}{w:AT}{v:BY}{Q:List FV}(h:cV B w v Q):∃a c,v=.slice a Q.length c:=by rcases h.row.2 with⟨rfl,I⟩|⟨g,Ja,Jb,rfl,_⟩;exact⟨none,0,by rw[I]⟩;exact⟨_,Ja,rfl⟩
def cV.fc{B:Nat}{w:AT}{v:BY}{Q:List FV}(h:cV B w v Q):bj w v (Q.map (·.f)):=by
 have h0:=h.row;rcases h.row.2 with⟨rfl,Z⟩|⟨g,Jb,Jc,rfl,h3,h4,h5⟩;exact⟨none,0,by rw[J8,Z],by rw[J8,Z];exact n_,o_,λh=>by rw[J8]at h;omega⟩;have J:Q.length<=Jb/\Jb<=9223372036854775807:=by obtain⟨q1,U,-⟩:=h5;unfold maxLen at U;exact⟨q1,U⟩
 refine⟨some ⟨g,0,none⟩,Jb,by rw[J8],by rw[J8];exact J.1,J.2,λhp=>⟨g,0,rfl,λj hj=>?_⟩⟩;rw[J8]at hj;have Ja:∀i,i<3->w.cell? ⟨g,0+j*3+i,none⟩=(aX Q[j])[i]? := λi hi=>by have hl:(bD Q).length=Q.length*3:=fC Q;rw[Nat.zero_add,ownsRow.cellAt h0 (j*3+i) o_,fD Q j i hj hi]
 have I:=h.each Q[j] (g_ hj);refine⟨Q[j].vp,Q[j].vb,?_,?_,?_⟩;simp only[getElem_map];exact⟨Ja 0 o_,Ja 1 o_,Ja 2 o_⟩;simp only[getElem_map];exact I.ps.strs;simp only[getElem_map];rw[<-I.map];exact I.bd.stmts
def CF{w:AT}{B c:Nat}{v:BY}{ad:Addr}{Q:List FV}{q:FV}(ty:JZ)(h:cV B w v Q)(hq:qq B w q)(Jb:∀j x,(aX q)[j]? =some x->w.cell? (ad.add j)=some x)(Ja:∀g∈qo q,g∉kz Q/\v.ownBlock≠some g)(Jc:q.vp.oneCell'=true/\q.vb.oneCell'=true)(hB:B<=w.heap.size)(hm:Q.length<=100000):
  ∃v' w',(Builtin.append_ #[24,24] ty #[v,.slice (some ad) 1 c]).run prog w=.ok v' w'/\cV B w' v' (Q++[q])/\w.grownBy w' v.ownBlock/\∀k,v'.ownBlock=some k->v.ownBlock=some k\/w.heap.size<=k:=by
 have⟨i0,hi,Jf,Jg,Jh⟩:=info_parts jY;have⟨v',w',r1,r2,J,Z⟩:=cU (P:=prog) (w:=w) B 24 ty 52 i0 _ 3 64 underlying24 hi Jf Jg Jh rfl d_ v Q.length (bD Q) h.row (some ad) 1 c (aX q) (λh=>by cases h) rfl (λa ha j x hx=>by cases ha;exact Jb j x hx) (λu hu=>by simp only[aX,List.mem_cons,List.not_mem_nil,or_false]at hu;rcases hu with rfl|rfl|rfl;rfl;exact Jc.1;exact Jc.2) o_ d_ hB
 have hk:∀x∈Q++[q],qq B w x/\∀g∈qo x,v.ownBlock≠some g:=λx hx=>by rcases J5.1 hx with hx|hx;exact⟨h.each x hx,λg hg e=>h.out g e (EV hx g hg)⟩;simp only[J7]at hx;subst hx;exact⟨hq,λg hg=>(Ja g hg).2⟩
 refine⟨v',w',r1,⟨?_,λx hx=>?_,?_,λg hg hmem=>?_⟩,J,Z⟩;rw[l_a,jd];have:bD [q]=aX q:=by simp[bD]
 rw[this];exact r2
 have⟨I,U⟩:=hk x hx;exact I.keep J.size λg hg=>J.block g (I.rng g hg).2 (λe=>U g hg e.symm)
 rw[blkF_append,List.nodup_append];refine⟨h.nd,by simpa[kz]using hq.nd,λx hx y hy e=>?_⟩;subst e;exact(Ja x (by simpa[kz]using hy)).1 hx
 have⟨x,hx,Je⟩:=List.mem_flatMap.1 hmem;have⟨I,U⟩:=hk x hx;rcases Z g hg with Jd|Jd
 exact U g Je Jd
 have:=(I.rng g Je).2
 omega
structure gq (B:Nat) (w:AT) (vg vf:BY) (r:Tr) (Q:List FV):Prop where
 gs:w.ownsRow B 48 2 vg r.gl.length (ig r.gl)
 fs:cV B w vf Q
 map:Q.map (·.f)=r.fc
 sep:∀g,vg.ownBlock=some g->g∉kz Q/\vf.ownBlock≠some g
def gq.nil(B:Nat)(w:AT):gq B w nV nV ⟨[],[]⟩ []:=
 ⟨ownsRow_nil _ _ _ _,cV.nil _ _,rfl,λg hg=>by simp[ownBlock]at hg⟩
def qq.keepB{B:Nat}{w w':AT}{q:FV}(h:qq B w q)(hs:w.heap.size<=w'.heap.size)(hk:∀g,B<=g->g<w.heap.size->w'.heap[g]? =w.heap[g]?):qq B w' q:=h.keep hs (λg hg=>hk g (h.rng g hg).1 (h.rng g hg).2)
def cV.keepB{B:Nat}{w w':AT}{v:BY}{Q:List FV}(h:cV B w v Q)(hs:w.heap.size<=w'.heap.size)(hk:∀g,B<=g->g<w.heap.size->w'.heap[g]? =w.heap[g]?):cV B w' v Q:=
 ⟨lg h.row λg hg=>hk g (World.ownsRow.lt h.row g hg).1 (World.ownsRow.lt h.row g hg).2,λq hq=>(h.each q hq).keepB hs hk,h.nd,h.out⟩
def cV.base{B B':Nat}{w:AT}{v:BY}{Q:List FV}(h:cV B w v Q)(hb:B'<=B):cV B' w v Q:=
 ⟨pv h.row hb,λq hq=>(h.each q hq).base hb,h.nd,h.out⟩
theorem nH(w:AT)(I J:BY)(t:JZ):aN (w.alloc (.cells #[I,J] t)) w.heap.size [I,J]:=by
 intro j x h;have hh:(w.alloc (.cells #[I,J] t)).heap[w.heap.size]? =some (.cells #[I,J] t (0,0)):=(MapKept.heap_alloc w _).1;have Z:∀j,(w.alloc (.cells #[I,J] t)).frozen? ⟨w.heap.size,j,none⟩=false:=λj=>by unfold World.frozen?;simp only[hh];simp
 have U:=(List.getElem?_eq_some_iff.1 h).1;simp only[l_c,l_n]at U;match j,U with
 | 0,_=>exact⟨by simp at h⊢;exact h,Z _⟩
 | 1,_=>exact⟨by simp at h⊢;exact h,Z _⟩
def aN.two{w:AT}{g:Nat}{x0 x1:BY}(h:aN w g [x0,x1]):DO w g 0 x0/\DO w g 1 x1/\D4 w g 0/\D4 w g 1:=
 ⟨(h 0 x0 rfl).1,(h 1 x1 rfl).1,(h 0 x0 rfl).2,(h 1 x1 rfl).2⟩
section
variable{T e:JZ}{sz B n B' size g len cap:Nat}{S:Ft}{w w' w1 w2:AT}{v:BY}{xs:List BY}{a:Option Addr}
structure ge (T:JZ) (sz:Nat) (S:Ft) (B:Nat) (w:AT) (v:BY) (n:Nat) (xs:List BY) (P:AT->Prop):Prop where
 row:w.ownsRow B T sz v n xs
 st:∀W,aj (λk=>S k\/v.ownBlock=some k) w W->P W
def bE(h:w.ownsRow B T sz v n xs)(U:aj S w w')(Z:∀k,S k->k<B):w'.ownsRow B T sz v n xs:=by obtain⟨I,h|⟨g,Jb,Ja,rfl,J,h2,h3⟩⟩:=h;exact⟨I,.inl h⟩;exact⟨I,.inr ⟨g,Jb,Ja,rfl,J,(U.block g (Array.getElem?_eq_some_iff.1 h2).1 (λs=>Ka (Z g s))).trans h2,h3⟩⟩
def fi(h:w.ownsRow B e size v n xs)(U:B'<=B):w.ownsRow B' e size v n xs:=by obtain⟨I,h|⟨g,Jb,Ja,rfl,J,h2,h3⟩⟩:=h;exact⟨I,.inl h⟩;exact⟨I,.inr ⟨g,Jb,Ja,rfl,t_ U J,h2,h3⟩⟩
def aH(h:w.ownsRow B e size v n xs):∃a c,v=.slice a n c/\(a=none->n=0)/\(∀ad,a=some ad->∀j x,xs[j]? =some x->w.cell? (ad.add j)=some x):=by have J:=h;rcases h.2 with⟨rfl,I⟩|⟨g,Ja,Jb,rfl,_⟩;exact⟨none,0,by rw[I],λ_=>I,(λad h=>by cases h)⟩;exact⟨_,Ja,rfl,(λh=>by cases h),λad had j x hj=>by cases had;exact ownsRow.cells J (g:=g) rfl j x hj⟩
def ge.tcs{P:AT->Prop}(h:ge T sz S B w v n xs P)(ht:aj S w w')(hS:∀k,S k->k<B):ge T sz S B w' v n xs P:=
 ⟨bE h.row ht hS,λW hW=>h.st W ((ht.mono λk hk=>.inl hk).trans hW)⟩
def ge.below{P:AT->Prop}(h:ge T sz S B w v n xs P)(hb:Bl w w'):ge T sz S B w' v n xs P:=
 ⟨ownB h.row hb,λW hW=>h.st W (hb.tcs.trans hW)⟩
def ge.low{P:AT->Prop}(h:ge T sz S B w v n xs P)(hb:B'<=B):ge T sz S B' w v n xs P:=⟨fi h.row hb,h.st⟩
def ge.less{S':Ft}{P:AT->Prop}(h:ge T sz S B w v n xs P)(hs:∀k,S' k->S k):ge T sz S' B w v n xs P:=
 ⟨h.row,λW hW=>h.st W (hW.mono λk hk=>hk.imp (hs k) id)⟩
def ge.now{P:AT->Prop}(h:ge T sz S B w v n xs P):P w:=h.st w (aj.refl _ _)
def ge.nil{P:AT->Prop}(h:∀W,P W):ge T sz S B w nV 0 [] P:=⟨ownsRow_nil _ _ _ _,λW _=>h W⟩
def jI{Pg:Program}{t:JZ}{bytes m c:Nat}{z:BY}{i:TypeInfo}{us:List BY}{P P2:AT->Prop}(U:JZ)
  (ht:Pg.underlying t=some (.slice T)) (hi:Pg.info? T=some i) (hz:i.zero=some z) (Ja:i.size=sz) (Je:i.bytes=bytes) (Jf:z.cells.size=sz) (Jb:0<sz)
  (h:ge T sz S B w v n xs P) (a:Option Addr) (hn:a=none->m=0) (hl:us.length=m*sz) (hc:∀ad,a=some ad->∀j u,us[j]? =some u->w.cell? (ad.add j)=some u) (h1:∀u∈us,u.oneCell'=true)
  (Jc:∀W,aj (λk=>S k\/v.ownBlock=some k) w W->P2 W) (hm:n+m<=10000000) (Jd:bytes<=1000) (hB:B<=w.heap.size):
  ∃v' w',(Builtin.append_ #[t,t] U #[v,.slice a m c]).run Pg w=.ok v' w'/\ge T sz S B w' v' (n+m) (xs++us) (λW=>P W/\P2 W)/\aj (λk=>v.ownBlock=some k) w w'/\∀k,v'.ownBlock=some k->v.ownBlock=some k\/w.heap.size<=k:=by
 have⟨v',w',r1,Z,r3,I⟩:=cU (P:=Pg) (w:=w) B t U T i z sz bytes ht hi hz Ja Je Jf Jb v n xs h.row a m c us hn hl hc h1 hm Jd hB;have J:aj (λk=>v.ownBlock=some k) w w':=aj.of_grown r3 (λk hk=>hk);refine⟨v',w',r1,⟨Z,λW hW=>?_⟩,J,I⟩;have:aj (λk=>S k\/v.ownBlock=some k) w W:=by
  refine(J.mono λk hk=>.inr hk).next hW λx hx=>?_;rcases hx with hx|hx
  exact .inl (.inl hx);rcases I x hx with h|h;exact .inl (.inr h);exact .inr h
 exact⟨h.st W this,Jc W this⟩
def Dr.refl(h:ew g a len cap w):Dr g a len cap S w w:=⟨h,aj.refl _ _⟩
def Dr.trans(h:Dr g a len cap S w w1)(h':Dr g a len cap S w1 w2):Dr g a len cap S w w2:=⟨h'.cur,h.tcs.trans h'.tcs⟩
def Dr.below(h:Dr g a len cap S w w1)(h':Bl w1 w2):Dr g a len cap S w w2:=⟨h.cur.below h',h.tcs.of_below h'⟩
def Dr.new{T:Ft}(h:Dr g a len cap S w w1)(hL:Lo g a len S w.heap.size)(ht:aj T w1 w2)(hT:∀k,T k->w.heap.size<=k):Dr g a len cap S w w2:=
 ⟨h.cur.new hL ht hT,h.tcs.next ht λx hx=>.inr (hT x hx)⟩
def Dr.alloc(h:Dr g a len cap S w w1)(o:Obj):Dr g a len cap S w (w1.alloc o):=h.below (r_.alloc n_ o)
def gL{e:List Nd}(h:aW B w v e)(hS:∀k,S k->k<B):∀W,aj S w W->aC W v e:=λW hW=>aW.nodes (B:=B) (bE h hW hS)
def ij{I:List Io}(h:w.ownsRow B 9 1 v I.length (I.map Value.string)):be w v I:=by have h0:=h;rcases h.2 with⟨rfl,U⟩|⟨g,Ja,Jb,rfl,h3,h4,h5⟩;exact⟨none,0,by rw[U],by rw[U];exact n_,o_,λhp=>absurd hp o_⟩;obtain⟨Z,J,-⟩:=h5;unfold maxLen at J;refine⟨_,Ja,rfl,Z,J,λ_=>⟨g,0,rfl,λj hj=>?_⟩⟩;have:=ownsRow.cells h0 (g:=g) rfl j (sV I[j]) (by simp[J4 hj]);rwa[dk]at this
end
theorem iM.globs{B:Nat}{w:AT}{v:BY}{gs:List Gl}{K:List Nat}(h:iM B w v gs.length (ig gs) K):cD w v gs:=by
 rcases h with⟨h0,-,a,c,rfl,hc⟩|⟨g,Jb,rfl,-,h3,h4,-,-,h7⟩;exact⟨a,c,by rw[h0],o_,hc,λhp=>absurd hp o_⟩
 refine⟨_,Jb,rfl,h3,h4,λ_=>⟨g,0,rfl,λj hj=>?_⟩⟩;have Ja:∀(l:List Gl) (m:Nat) (I:m<l.length),(ig l)[m*2]? =some (sV l[m].nm)/\(ig l)[m*2+1]? =some (V l[m].size):=by
  intro l;induction l with
  | nil=>intro m I;simp at I
  | cons x r ih=>
   intro m I;cases m with
   | zero=>exact⟨rfl,rfl⟩
   | succ m=>have⟨i1,Z⟩:=ih m (IN I);have J:(m+1)*2=m*2+1+1:=o_;have e2:(m+1)*2+1=m*2+1+1+1:=o_;rw[J,show m*2+1+1+1=(m*2+1)+1+1 from rfl];exact⟨i1,Z⟩
 have⟨U,J⟩:=Ja gs j hj;rw[Nat.zero_add];exact⟨(h7 _ _ U).1,(h7 _ _ J).1⟩
