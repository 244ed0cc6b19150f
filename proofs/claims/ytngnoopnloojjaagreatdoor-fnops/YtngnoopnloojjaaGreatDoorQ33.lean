import Derived.Test.YtngnoopnloojjaaGreatDoorQ31
import Derived.Test.YtngnoopnloojjaaGreatDoorQ17
import Derived.Test.YtngnoopnloojjaaGreatDoorQ08
namespace Go.Proofs.YtngnoopnloojjaaGreatDoor
open Go.Value Go.World List
open Go.Proofs.Tryz Go.RowKit
set_option linter.all false
set_option maxRecDepth 100000
set_option maxHeartbeats 0
variable[Inhabited Pick]
def gC{w w':AT}{B size n:Nat}{e:IN}{v:BY}{I:List BY}(h:w.ownsRow B e size v n I)(O:∀g,v.ownBlock=some g->w'.heap[g]? =w.heap[g]?):w'.ownsRow B e size v n I:=by obtain⟨H,h|⟨g,Jb,Ja,rfl,J,h2,h3⟩⟩:=h;exact⟨H,.inl h⟩;exact⟨H,.inr ⟨g,Jb,Ja,rfl,J,(O g rfl).trans h2,h3⟩⟩
def mh{w:AT}{B B' size n:Nat}{e:IN}{v:BY}{I:List BY}(h:w.ownsRow B e size v n I)(O:B'<=B):w.ownsRow B' e size v n I:=by obtain⟨H,h|⟨g,Jb,Ja,rfl,J,h2,h3⟩⟩:=h;exact⟨H,.inl h⟩;exact⟨H,.inr ⟨g,Jb,Ja,rfl,t_ O J,h2,h3⟩⟩
def ir(B:Nat)(w:AT)(v:BY)(n:Nat)(xs:List BY)(K:List Nat):Prop:=(n=0/\K=[]/\∃a c,v=.slice a 0 c/\c<=9223372036854775807)\/∃g cap,v=rV g n cap/\K=[g]/\n<=cap/\cap<=9223372036854775807/\B<=g/\g<w.heap.size/\dN w g xs
def ir.keep{B:Nat}{w w':AT}{v:BY}{n:Nat}{H:List BY}{K:List Nat}(h:ir B w v n H K)(O:w.heap.size<=w'.heap.size)(J:∀g∈K,w'.heap[g]? =w.heap[g]?):ir B w' v n H K:=by rcases h with h|⟨g,Ja,I,rfl,h3,h4,h5,h6,h7⟩;exact .inl h;exact .inr ⟨g,Ja,I,rfl,h3,h4,h5,l_ h6 O,h7.keep (J g i_)⟩
def ir.rng{B:Nat}{w:AT}{v:BY}{n:Nat}{J:List BY}{K:List Nat}(h:ir B w v n J K):∀g∈K,B<=g/\g<w.heap.size:=by rcases h with⟨-,rfl,-⟩|⟨g,Ja,-,rfl,-,-,h5,h6,-⟩;intro g I;cases I;intro x H;simp only[K7]at H;subst H;exact⟨h5,h6⟩
def ir.slice{B:Nat}{w:AT}{v:BY}{n:Nat}{I:List BY}{K:List Nat}(h:ir B w v n I K):∃a c,v=.slice a n c/\n<=c/\c<=9223372036854775807:=by rcases h with⟨rfl,-,a,c,rfl,H⟩|⟨g,Ja,rfl,-,h3,h4,-⟩;exact⟨a,c,rfl,y_,H⟩;exact⟨_,Ja,rfl,h3,h4⟩
def ir.of_own{B:Nat}{w:AT}{e:IN}{size n:Nat}{v:BY}{H:List BY}(h:w.ownsRow B e size v n H):∃K,ir B w v n H K/\∀g,v.ownBlock=some g↔g∈K:=by rcases h.2 with⟨rfl,rfl⟩|⟨g,Ja,Jb,rfl,h3,h4,h5,h6,h7,h8⟩;exact⟨[],.inl ⟨rfl,rfl,none,0,rfl,o_⟩,λg=>by simp[ownBlock]⟩;refine⟨[g],.inr ⟨g,Ja,rfl,rfl,h5,by unfold maxLen at h6;exact h6,h3,(ownsRow.lt h g rfl).2,λj x hx=>⟨ownsRow.cells h (g:=g) rfl j x hx |> λe=>by simpa[gB]using e,h.frozenAt j⟩⟩,λx=>by simp[ownBlock,eq_comm]⟩
def jD(g:Gl):List BY:=[sV g.nm,V g.size]
def eU(gs:List Gl):List BY:=gs.flatMap jD
theorem sL(h:List Gl):(eU h).length=h.length*2:=by
 induction h with
 | nil=>rfl
 | cons a r ih=>
  have:(eU (a::r)).length=2+(eU r).length:=by simp[eU,jD];omega
  rw[this,ih,l_c];omega
def jk(ps:List IF):List BY:=ps.map .string
structure Iq (B:Nat) (w:AT) (v:BY) (R:List SV) (K:List Nat):Prop where
 row:ir B w v R.length (cQ R) K
 each:∀q∈R,b9 B w q.ve q.s.e q.ke/\b9 B w q.vf q.s.f q.kf
 nd:(K++cC R).Nodup
theorem aM.m{B:Nat}{w:World}{v:Value}{R:List SV}(h:aM B w v R):∃K,Iq B w v R K/\∀g,v.ownBlock=some g↔g∈K:=by
 have⟨K,H,h2⟩:=ir.of_own h.row;refine⟨K,⟨H,h.each,?_⟩,h2⟩;rw[List.nodup_append];refine⟨?_,h.nd,λa ha b hb e=>?_⟩
 rcases H with⟨-,rfl,-⟩|⟨g,Ja,-,rfl,-⟩ <;> simp
 subst e;exact h.out a ((h2 a).2 ha) hb
def Iq.rng{B:Nat}{w:AT}{v:BY}{R:List SV}{K:List Nat}(h:Iq B w v R K):∀g∈K++cC R,B<=g/\g<w.heap.size:=by intro g hg;rcases K5.1 hg with hg|hg;exact h.row.rng g hg;simp only[cC,mem_flatMap,K5]at hg;obtain⟨q,H,hg|hg⟩:=hg;exact(h.each q H).1.rng g hg;exact(h.each q H).2.rng g hg
def Iq.keep{B:Nat}{w w':AT}{v:BY}{R:List SV}{K:List Nat}(h:Iq B w v R K)(hs:w.heap.size<=w'.heap.size)(hk:∀g∈K++cC R,w'.heap[g]? =w.heap[g]?):Iq B w' v R K:=
 ⟨h.row.keep hs (λg hg=>hk g (K5.2 (.inl hg))),λq hq=>⟨(h.each q hq).1.keep hs (λg hg=>hk g (K5.2 (.inr ((eW hq).1 g hg)))),(h.each q hq).2.keep hs (λg hg=>hk g (K5.2 (.inr ((eW hq).2 g hg))))⟩,h.nd⟩
structure qN (B:Nat) (w:AT) (q:FV):Prop where
 ps:ir B w q.vp q.f.pm.length (jk q.f.pm) q.kp
 bd:Iq B w q.vb q.R q.kb
 map:q.R.map (·.s)=q.f.bd
 nd:(pT q).Nodup
def qN.rng{B:Nat}{w:AT}{q:FV}(h:qN B w q):∀g∈pT q,B<=g/\g<w.heap.size:=by intro g hg;rcases K5.1 hg with hg|hg;exact h.ps.rng g hg;exact h.bd.rng g hg
def qN.keep{B:Nat}{w w':AT}{q:FV}(h:qN B w q)(hs:w.heap.size<=w'.heap.size)(hk:∀g∈pT q,w'.heap[g]? =w.heap[g]?):qN B w' q:=
 ⟨h.ps.keep hs (λg hg=>hk g (K5.2 (.inl hg))),h.bd.keep hs (λg hg=>hk g (K5.2 (.inr hg))),h.map,h.nd⟩
def qN.below{B:Nat}{w w':AT}{q:FV}(h:qN B w q)(hb:Bl w w'):qN B w' q:=h.keep hb.size (λg hg=>hb.block g (h.rng g hg).2)
def b9.up{B B':Nat}{w:AT}{v:BY}{n:Nat}{H:List BY}{K:List Nat}(h:ir B w v n H K)(J:B'<=B):ir B' w v n H K:=by rcases h with h|⟨g,Ja,I,h2,h3,h4,h5,h6⟩;exact .inl h;exact .inr ⟨g,Ja,I,h2,h3,h4,t_ J h5,h6⟩
def qN.base{B B':Nat}{w:AT}{q:FV}(h:qN B w q)(hb:B'<=B):qN B' w q:=
 ⟨b9.up h.ps hb,⟨b9.up h.bd.row hb,λx hx=>⟨(h.bd.each x hx).1.base hb,(h.bd.each x hx).2.base hb⟩,h.bd.nd⟩,h.map,h.nd⟩
def ir.strs{B:Nat}{w:AT}{v:BY}{H:List IF}{K:List Nat}(h:ir B w v H.length (jk H) K):Strs w v H:=by rcases h with⟨I,-,a,c,rfl,J⟩|⟨g,Ja,rfl,-,h3,h4,-,-,h7⟩;exact⟨a,c,by rw[I],o_,J,λhp=>absurd hp o_⟩;refine⟨_,Ja,rfl,h3,h4,λ_=>⟨g,0,rfl,λj hj=>?_⟩⟩;rw[Nat.zero_add];exact(h7 j (sV H[j]) (by simp[jk,K3 hj])).1
def Iq.stmts{B:Nat}{w:AT}{v:BY}{R:List SV}{K:List Nat}(h:Iq B w v R K):be w v (R.map (·.s)):=by
 rcases h.row with⟨J,-,a,c,rfl,O⟩|⟨g,Jb,rfl,-,h3,h4,-,-,h7⟩;exact⟨a,c,by rw[K8,J],by rw[K8];omega,O,λhp=>by rw[K8]at hp;omega⟩;refine⟨some ⟨g,0,none⟩,Jb,by rw[K8],by rw[K8];exact h3,h4,λhp=>⟨g,0,rfl,λj hj=>?_⟩⟩;rw[K8]at hj;have Ja:∀i (hi:i<6),w.cell? ⟨g,0+j*6+i,none⟩=(cellsS R[j])[i]? := λi hi=>by have e:=jg R j i hj hi;have I:i<(cellsS R[j]).length:=hi;rw[K3 I]at e⊢;rw[Nat.zero_add];exact(h7 _ _ e).1
 have H:=h.each R[j] (g_ hj);refine⟨R[j].ve,R[j].vf,?_,?_,?_⟩;simp only[getElem_map];exact⟨Ja 0 o_,Ja 1 o_,Ja 2 o_,Ja 3 o_,Ja 4 o_,Ja 5 o_⟩;simp only[getElem_map];exact H.1.nodes;simp only[getElem_map];exact H.2.nodes
structure bV (B:Nat) (w:AT) (v:BY) (Q:List FV):Prop where
 row:w.ownsRow B 143 3 v Q.length (gy Q)
 each:∀q∈Q,qN B w q
 nd:(kP Q).Nodup
 out:∀g,v.ownBlock=some g->g∉kP Q
def bV.nil(B:Nat)(w:AT):bV B w nV []:=⟨ownsRow_nil _ _ _ _,λq hq=>(by cases hq),nodup_nil,λg hg=>(by simp[ownBlock]at hg)⟩
def bV.rng{B:Nat}{w:AT}{v:BY}{Q:List FV}(h:bV B w v Q):∀g∈kP Q,B<=g/\g<w.heap.size:=by intro g H;have⟨q,I,H⟩:=mem_flatMap.1 H;exact(h.each q I).rng g H
def Ir{Q:List FV}{q:FV}(hq:q∈Q):∀g∈pT q,g∈kP Q:=λg hg=>mem_flatMap.2 ⟨q,hq,hg⟩
theorem bV.below{B:Nat}{w w':World}{v:Value}{Q:List FV}(h:bV B w v Q)(hb:Below w.heap.size w w'):bV B w' v Q:=
 ⟨ownB h.row hb,λq hq=>(h.each q hq).below hb,h.nd,h.out⟩
def bV.shape{B:Nat}{w:AT}{v:BY}{Q:List FV}(h:bV B w v Q):∃a c,v=.slice a Q.length c:=by rcases h.row.2 with⟨rfl,H⟩|⟨g,Ja,Jb,rfl,_⟩;exact⟨none,0,by rw[H]⟩;exact⟨_,Ja,rfl⟩
def bV.fc{B:Nat}{w:AT}{v:BY}{Q:List FV}(h:bV B w v Q):cF w v (Q.map (·.f)):=by
 have X:=h.row;rcases h.row.2 with⟨rfl,O⟩|⟨g,Jb,Jc,rfl,h3,h4,h5⟩;exact⟨none,0,by rw[K8,O],by rw[K8,O];exact n_,o_,λh=>by rw[K8]at h;omega⟩;have I:Q.length<=Jb/\Jb<=9223372036854775807:=by obtain⟨U,J,-⟩:=h5;unfold maxLen at J;exact⟨U,J⟩
 refine⟨some ⟨g,0,none⟩,Jb,by rw[K8],by rw[K8];exact I.1,I.2,λhp=>⟨g,0,rfl,λj hj=>?_⟩⟩;rw[K8]at hj;have Ja:∀i,i<3->w.cell? ⟨g,0+j*3+i,none⟩=(dS Q[j])[i]? := λi hi=>by have Y:(gy Q).length=Q.length*3:=sH Q;rw[Nat.zero_add,ownsRow.cellAt X (j*3+i) o_,mW Q j i hj hi]
 have H:=h.each Q[j] (g_ hj);refine⟨Q[j].vp,Q[j].vb,?_,?_,?_⟩;simp only[getElem_map];exact⟨Ja 0 o_,Ja 1 o_,Ja 2 o_⟩;simp only[getElem_map];exact H.ps.strs;simp only[getElem_map];rw[<-H.map];exact H.bd.stmts
theorem yW{w:World}{B c:Nat}{v:Value}{ad:Addr}{Q:List FV}{q:FV}(Y:TypeId)(h:bV B w v Q)(X:qN B w q)(Jb:∀j x,(dS q)[j]? =some x->w.cell? (ad.add j)=some x)(Ja:∀g∈pT q,g∉kP Q/\v.ownBlock≠some g)(Jc:q.vp.oneCell'=true/\q.vb.oneCell'=true)(hB:B<=w.heap.size)(hm:Q.length<=100000):
  ∃v' w',(Builtin.append_ #[61,61] Y #[v,.slice (some ad) 1 c]).run prog w=.ok v' w'/\bV B w' v' (Q++[q])/\w.grownBy w' v.ownBlock/\∀k,v'.ownBlock=some k->v.ownBlock=some k\/w.heap.size<=k:=by
 have⟨i0,hi,Jf,Jg,Jh⟩:=info_parts Cf;have⟨v',w',Z,r2,I,O⟩:=ii (P:=prog) (w:=w) B 61 Y 143 i0 _ 3 64 underlying61 hi Jf Jg Jh rfl d_ v Q.length (gy Q) h.row (some ad) 1 c (dS q) (λh=>by cases h) rfl (λa ha j x hx=>by cases ha;exact Jb j x hx) (λu hu=>by simp only[dS,List.mem_cons,List.not_mem_nil,or_false]at hu;rcases hu with rfl|rfl|rfl;rfl;exact Jc.1;exact Jc.2) o_ d_ hB
 have U:∀x∈Q++[q],qN B w x/\∀g∈pT x,v.ownBlock≠some g:=λx hx=>by rcases List.mem_append.1 hx with hx|hx;exact⟨h.each x hx,λg hg e=>h.out g e (Ir hx g hg)⟩;simp only[List.mem_singleton]at hx;subst hx;exact⟨X,λg hg=>(Ja g hg).2⟩
 refine⟨v',w',Z,⟨?_,λx hx=>?_,?_,λg hg hmem=>?_⟩,I,O⟩;rw[l_a,uf];have:gy [q]=dS q:=by simp[gy]
 rw[this];exact r2
 have⟨H,J⟩:=U x hx;exact H.keep I.size λg hg=>I.block g (H.rng g hg).2 (λe=>J g hg e.symm)
 rw[blkF_append,List.nodup_append];refine⟨h.nd,by simpa[kP]using X.nd,λx hx y hy e=>?_⟩;subst e;exact(Ja x (by simpa[kP]using hy)).1 hx
 have⟨x,hx,Je⟩:=List.mem_flatMap.1 hmem;have⟨H,J⟩:=U x hx;rcases O g hg with Jd|Jd
 exact J g Je Jd
 have:=(H.rng g Je).2
 omega
structure aS (B:Nat) (w:AT) (vg vf:BY) (r:Tr) (Q:List FV):Prop where
 gs:w.ownsRow B 140 2 vg r.gl.length (eU r.gl)
 fs:bV B w vf Q
 map:Q.map (·.f)=r.fc
 sep:∀g,vg.ownBlock=some g->g∉kP Q/\vf.ownBlock≠some g
def aS.nil(B:Nat)(w:AT):aS B w nV nV ⟨[],[]⟩ []:=
 ⟨ownsRow_nil _ _ _ _,bV.nil _ _,rfl,λg hg=>by simp[ownBlock]at hg⟩
def qN.keepB{B:Nat}{w w':AT}{q:FV}(h:qN B w q)(hs:w.heap.size<=w'.heap.size)(hk:∀g,B<=g->g<w.heap.size->w'.heap[g]? =w.heap[g]?):qN B w' q:=h.keep hs (λg hg=>hk g (h.rng g hg).1 (h.rng g hg).2)
theorem bV.keepB{B:Nat}{w w':World}{v:Value}{Q:List FV}(h:bV B w v Q)(hs:w.heap.size<=w'.heap.size)(hk:∀g,B<=g->g<w.heap.size->w'.heap[g]? =w.heap[g]?):bV B w' v Q:=
 ⟨gC h.row λg hg=>hk g (World.ownsRow.lt h.row g hg).1 (World.ownsRow.lt h.row g hg).2,λq hq=>(h.each q hq).keepB hs hk,h.nd,h.out⟩
theorem bV.base{B B':Nat}{w:World}{v:Value}{Q:List FV}(h:bV B w v Q)(hb:B'<=B):bV B' w v Q:=
 ⟨mh h.row hb,λq hq=>(h.each q hq).base hb,h.nd,h.out⟩
theorem oN(w:World)(H I:Value)(t:TypeId):dN (w.alloc (.cells #[H,I] t)) w.heap.size [H,I]:=by
 intro j x h;have U:(w.alloc (.cells #[H,I] t)).heap[w.heap.size]? =some (.cells #[H,I] t (0,0)):=(MapKept.heap_alloc w _).1;have O:∀j,(w.alloc (.cells #[H,I] t)).frozen? ⟨w.heap.size,j,none⟩=false:=λj=>by unfold World.frozen?;simp only[U];simp
 have J:=(List.getElem?_eq_some_iff.1 h).1;simp only[l_c,l_n]at J;match j,J with
 | 0,_=>exact⟨by simp at h⊢;exact h,O _⟩
 | 1,_=>exact⟨by simp at h⊢;exact h,O _⟩
def dN.two{w:AT}{g:Nat}{x0 x1:BY}(h:dN w g [x0,x1]):Bo w g 0 x0/\Bo w g 1 x1/\By w g 0/\By w g 1:=
 ⟨(h 0 x0 rfl).1,(h 1 x1 rfl).1,(h 0 x0 rfl).2,(h 1 x1 rfl).2⟩
section
variable{T e:IN}{sz B n B' size g len cap:Nat}{S:DO}{w w' w1 w2:AT}{v:BY}{xs:List BY}{a:Option Addr}
def jE(h:w.ownsRow B T sz v n xs)(J:aA S w w')(O:∀k,S k->k<B):w'.ownsRow B T sz v n xs:=by obtain⟨H,h|⟨g,Jb,Ja,rfl,I,h2,h3⟩⟩:=h;exact⟨H,.inl h⟩;exact⟨H,.inr ⟨g,Jb,Ja,rfl,I,(J.block g (Array.getElem?_eq_some_iff.1 h2).1 (λs=>Ft (O g s))).trans h2,h3⟩⟩
def Is(h:w.ownsRow B e size v n xs)(J:B'<=B):w.ownsRow B' e size v n xs:=by obtain⟨H,h|⟨g,Jb,Ja,rfl,I,h2,h3⟩⟩:=h;exact⟨H,.inl h⟩;exact⟨H,.inr ⟨g,Jb,Ja,rfl,t_ J I,h2,h3⟩⟩
def fo(h:w.ownsRow B e size v n xs):∃a c,v=.slice a n c/\(a=none->n=0)/\(∀ad,a=some ad->∀j x,xs[j]? =some x->w.cell? (ad.add j)=some x):=by have I:=h;rcases h.2 with⟨rfl,H⟩|⟨g,Ja,Jb,rfl,_⟩;exact⟨none,0,by rw[H],λ_=>H,(λad h=>by cases h)⟩;exact⟨_,Ja,rfl,(λh=>by cases h),λad had j x hj=>by cases had;exact ownsRow.cells I (g:=g) rfl j x hj⟩
end
theorem ir.globs{B:Nat}{w:AT}{v:BY}{I:List Gl}{K:List Nat}(h:ir B w v I.length (eU I) K):dz w v I:=by
 rcases h with⟨X,-,a,c,rfl,Z⟩|⟨g,Jb,rfl,-,h3,h4,-,-,h7⟩;exact⟨a,c,by rw[X],o_,Z,λhp=>absurd hp o_⟩
 refine⟨_,Jb,rfl,h3,h4,λ_=>⟨g,0,rfl,λj hj=>?_⟩⟩;have Ja:∀(l:List Gl) (m:Nat) (H:m<l.length),(eU l)[m*2]? =some (sV l[m].nm)/\(eU l)[m*2+1]? =some (V l[m].size):=by
  intro l;induction l with
  | nil=>intro m H;simp at H
  | cons x r ih=>
   intro m H;cases m with
   | zero=>exact⟨rfl,rfl⟩
   | succ m=>have⟨Y,U⟩:=ih m (D4 H);have J:(m+1)*2=m*2+1+1:=o_;have e2:(m+1)*2+1=m*2+1+1+1:=o_;rw[J,show m*2+1+1+1=(m*2+1)+1+1 from rfl];exact⟨Y,U⟩
 have⟨O,J⟩:=Ja I j hj;rw[Nat.zero_add];exact⟨(h7 _ _ O).1,(h7 _ _ J).1⟩
end Go.Proofs.YtngnoopnloojjaaGreatDoor
