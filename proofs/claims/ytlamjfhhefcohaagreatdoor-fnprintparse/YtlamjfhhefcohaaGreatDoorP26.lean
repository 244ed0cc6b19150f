import Derived.Test.YtlamjfhhefcohaaGreatDoorP25
import Derived.Test.YtlamjfhhefcohaaGreatDoorP15
import Derived.Test.YtlamjfhhefcohaaGreatDoorP10
set_option linter.unusedSectionVars false
variable [Inhabited Go.Proofs.YtlamjfhhefcohaaGreatDoor.Pick]
namespace Go.Proofs.YtlamjfhhefcohaaGreatDoor
open Go.Proofs.Tryz
open Go.RowKit
set_option linter.all false
set_option maxRecDepth 100000
set_option maxHeartbeats 16000000
section
variable{T e:TypeId}{sz B n B' size g len cap:Nat}{S:Nat->Prop}{w w' w1 w2:World}{v:Value}{xs:List Value}{a:Option Addr}
structure dY (T:TypeId) (sz:Nat) (S:Nat->Prop) (B:Nat) (w:World) (v:Value) (n:Nat) (xs:List Value) (P:World->Prop):Prop where
 row:w.ownsRow B T sz v n xs
 st:∀W,am (fun k=>S k∨v.ownBlock=some k) w W->P W
theorem az(h:w.ownsRow B T sz v n xs)(ht:am S w w')(hS:∀k,S k->k<B):w'.ownsRow B T sz v n xs:=by
 obtain⟨hx,h|⟨g,Jb,Ja,rfl,h1,h2,h3⟩⟩:=h
 ·exact⟨hx,.inl h⟩
 ·exact⟨hx,.inr ⟨g,Jb,Ja,rfl,h1,(ht.block g (Array.getElem?_eq_some_iff.1 h2).1 (fun s=>by have:=hS g s;omega)).trans h2,h3⟩⟩
theorem bK(h:w.ownsRow B e size v n xs)(hb:B'<=B):w.ownsRow B' e size v n xs:=by
 obtain⟨hx,h|⟨g,Jb,Ja,rfl,h1,h2,h3⟩⟩:=h
 ·exact⟨hx,.inl h⟩
 ·exact⟨hx,.inr ⟨g,Jb,Ja,rfl,t_ hb h1,h2,h3⟩⟩
theorem au(h:w.ownsRow B e size v n xs):∃a c,v=.slice a n c/\(a=none->n=0)/\(∀ad,a=some ad->∀j x,xs[j]? =some x->w.cell? (ad.add j)=some x):=by
 have h0:=h;rcases h.2 with⟨rfl,hz⟩|⟨g,Ja,Jb,rfl,_⟩
 ·exact⟨none,0,by rw[hz],fun _=>hz,(fun ad h=>by cases h)⟩
 ·exact⟨_,Ja,rfl,(fun h=>by cases h),fun ad had j x hj=>by cases had;exact World.ownsRow.cells h0 (g:=g) rfl j x hj⟩
theorem dY.tcs{P:World->Prop}(h:dY T sz S B w v n xs P)(ht:am S w w')(hS:∀k,S k->k<B):dY T sz S B w' v n xs P:=
 ⟨az h.row ht hS,fun W hW=>h.st W ((ht.mono fun k hk=>.inl hk).trans hW)⟩
theorem dY.below{P:World->Prop}(h:dY T sz S B w v n xs P)(hb:Below w.heap.size w w'):dY T sz S B w' v n xs P:=
 ⟨ownB h.row hb,fun W hW=>h.st W (hb.tcs.trans hW)⟩
theorem dY.low{P:World->Prop}(h:dY T sz S B w v n xs P)(hb:B'<=B):dY T sz S B' w v n xs P:=⟨bK h.row hb,h.st⟩
theorem dY.less{S':Nat->Prop}{P:World->Prop}(h:dY T sz S B w v n xs P)(hs:∀k,S' k->S k):dY T sz S' B w v n xs P:=
 ⟨h.row,fun W hW=>h.st W (hW.mono fun k hk=>hk.imp (hs k) id)⟩
theorem dY.now{P:World->Prop}(h:dY T sz S B w v n xs P):P w:=h.st w (am.refl _ _)
theorem dY.nil{P:World->Prop}(h:∀W,P W):dY T sz S B w (.slice none 0 0) 0 [] P:=⟨World.ownsRow_nil _ _ _ _,fun W _=>h W⟩
theorem jB{Pg:Program}{t:TypeId}{bytes m c:Nat}{z:Value}{i:TypeInfo}{us:List Value}{P P2:World->Prop}(ty:TypeId)
  (ht:Pg.underlying t=some (.slice T)) (hi:Pg.info? T=some i) (hz:i.zero=some z) (Ja:i.size=sz) (Jd:i.bytes=bytes) (Je:z.cells.size=sz) (Jc:0<sz)
  (h:dY T sz S B w v n xs P) (a:Option Addr) (hn:a=none->m=0) (hl:us.length=m*sz) (hc:∀ad,a=some ad->∀j u,us[j]? =some u->w.cell? (ad.add j)=some u) (h1:∀u∈us,u.oneCell'=true)
  (Jb:∀W,am (fun k=>S k∨v.ownBlock=some k) w W->P2 W) (hm:n+m<=10000000) (Jf:bytes<=1000) (hB:B<=w.heap.size):
  ∃v' w',(Builtin.append_ #[t,t] ty #[v,.slice a m c]).run Pg w=.ok v' w'/\dY T sz S B w' v' (n+m) (xs++us) (fun W=>P W/\P2 W)/\am (fun k=>v.ownBlock=some k) w w'/\∀k,v'.ownBlock=some k->v.ownBlock=some k∨w.heap.size<=k:=by
 obtain⟨v',w',r1,r2,r3,r4⟩:=bS (P:=Pg) (w:=w) B t ty T i z sz bytes ht hi hz Ja Jd Je Jc v n xs h.row a m c us hn hl hc h1 hm Jf hB;have hT:am (fun k=>v.ownBlock=some k) w w':=am.of_grown r3 (fun k hk=>hk);refine⟨v',w',r1,⟨r2,fun W hW=>?_⟩,hT,r4⟩;have:am (fun k=>S k∨v.ownBlock=some k) w W:=by
  refine(hT.mono fun k hk=>.inr hk).next hW fun x hx=>?_;rcases hx with hx|hx
  ·exact .inl (.inl hx)
  ·rcases r4 x hx with h|h
   ·exact .inl (.inr h)
   ·exact .inr h
 exact⟨h.st W this,Jb W this⟩
theorem Dr.refl(h:dP g a len cap w):Dr g a len cap S w w:=⟨h,am.refl _ _⟩
theorem Dr.trans(h:Dr g a len cap S w w1)(h':Dr g a len cap S w1 w2):Dr g a len cap S w w2:=⟨h'.cur,h.tcs.trans h'.tcs⟩
theorem Dr.below(h:Dr g a len cap S w w1)(h':Below w1.heap.size w1 w2):Dr g a len cap S w w2:=⟨h.cur.below h',h.tcs.of_below h'⟩
theorem Dr.new{T:Nat->Prop}(h:Dr g a len cap S w w1)(hL:Lo g a len S w.heap.size)(ht:am T w1 w2)(hT:∀k,T k->w.heap.size<=k):Dr g a len cap S w w2:=
 ⟨h.cur.new hL ht hT,h.tcs.next ht fun x hx=>.inr (hT x hx)⟩
theorem Dr.alloc(h:Dr g a len cap S w w1)(o:Obj):Dr g a len cap S w (w1.alloc o):=h.below (r_.alloc n_ o)
theorem fV{e:List Nd}(h:aF B w v e)(hS:∀k,S k->k<B):∀W,am S w W->ax W v e:=fun W hW=>aF.nodes (B:=B) (az h hW hS)
theorem e_{ps:List ByteArray}(h:w.ownsRow B 9 1 v ps.length (ps.map Value.string)):Strs w v ps:=by
 have h0:=h;rcases h.2 with⟨rfl,hz⟩|⟨g,Ja,Jb,rfl,h3,h4,h5⟩
 ·exact⟨none,0,by rw[hz],by rw[hz];exact n_,o_,fun hp=>absurd hp o_⟩
 ·obtain⟨q1,q2,-⟩:=h5;unfold maxLen at q2;refine⟨_,Ja,rfl,q1,q2,fun _=>⟨g,0,rfl,fun j hj=>?_⟩⟩;have:=World.ownsRow.cells h0 (g:=g) rfl j (.string ps[j]) (by simp[List.getElem?_eq_getElem hj])
  rwa[gV]at this
end
theorem wT{w w':World}{B size n:Nat}{e:TypeId}{v:Value}{xs:List Value}(h:w.ownsRow B e size v n xs)(hk:∀g,v.ownBlock=some g->w'.heap[g]? =w.heap[g]?):w'.ownsRow B e size v n xs:=by
 obtain⟨hx,h|⟨g,Jb,Ja,rfl,h1,h2,h3⟩⟩:=h
 ·exact⟨hx,.inl h⟩
 ·exact⟨hx,.inr ⟨g,Jb,Ja,rfl,h1,(hk g rfl).trans h2,h3⟩⟩
theorem pE{w:World}{B B' size n:Nat}{e:TypeId}{v:Value}{xs:List Value}(h:w.ownsRow B e size v n xs)(hb:B'<=B):w.ownsRow B' e size v n xs:=by
 obtain⟨hx,h|⟨g,Jb,Ja,rfl,h1,h2,h3⟩⟩:=h
 ·exact⟨hx,.inl h⟩
 ·exact⟨hx,.inr ⟨g,Jb,Ja,rfl,t_ hb h1,h2,h3⟩⟩
def gZ(B:Nat)(w:World)(v:Value)(n:Nat)(xs:List Value)(K:List Nat):Prop:=(n=0/\K=[]/\∃a c,v=.slice a 0 c/\c<=9223372036854775807)∨∃g cap,v=.slice (some ⟨g,0,none⟩) n cap/\K=[g]/\n<=cap/\cap<=9223372036854775807/\B<=g/\g<w.heap.size/\aR w g xs
theorem gZ.keep{B:Nat}{w w':World}{v:Value}{n:Nat}{xs:List Value}{K:List Nat}(h:gZ B w v n xs K)(hs:w.heap.size<=w'.heap.size)(hk:∀g∈K,w'.heap[g]? =w.heap[g]?):gZ B w' v n xs K:=by
 rcases h with h|⟨g,Ja,h1,rfl,h3,h4,h5,h6,h7⟩
 ·exact .inl h
 ·exact .inr ⟨g,Ja,h1,rfl,h3,h4,h5,l_ h6 hs,h7.keep (hk g i_)⟩
theorem gZ.rng{B:Nat}{w:World}{v:Value}{n:Nat}{xs:List Value}{K:List Nat}(h:gZ B w v n xs K):∀g∈K,B<=g/\g<w.heap.size:=by
 rcases h with⟨-,rfl,-⟩|⟨g,Ja,-,rfl,-,-,h5,h6,-⟩
 ·intro g hg;cases hg
 ·intro x hx;simp only[List.mem_singleton]at hx;subst hx;exact⟨h5,h6⟩
theorem gZ.of_own{B:Nat}{w:World}{e:TypeId}{size n:Nat}{v:Value}{xs:List Value}(h:w.ownsRow B e size v n xs):∃K,gZ B w v n xs K/\∀g,v.ownBlock=some g↔g∈K:=by
 rcases h.2 with⟨rfl,rfl⟩|⟨g,Ja,Jb,rfl,h3,h4,h5,h6,h7,h8⟩
 ·exact⟨[],.inl ⟨rfl,rfl,none,0,rfl,o_⟩,fun g=>by simp[Value.ownBlock]⟩
 ·refine⟨[g],.inr ⟨g,Ja,rfl,rfl,h5,by unfold maxLen at h6;exact h6,h3,(World.ownsRow.lt h g rfl).2,fun j x hx=>⟨World.ownsRow.cells h (g:=g) rfl j x hx |> fun e=>by simpa[gV]using e,h.frozenAt j⟩⟩,fun x=>by simp[Value.ownBlock,eq_comm]⟩
def Cs(g:Gl):List Value:=[.string g.name,.int .i64 g.size]
def iW(gs:List Gl):List Value:=gs.flatMap Cs
theorem nQ(a b:List Gl):iW (a++b)=iW a++iW b:=by simp[iW]
def wU(ps:List ByteArray):List Value:=ps.map .string
structure zQ (B:Nat) (w:World) (v:Value) (R:List SV) (K:List Nat):Prop where
 row:gZ B w v R.length (bz R) K
 each:∀q∈R,dQ B w q.ve q.s.e q.ke/\dQ B w q.vf q.s.f q.kf
 nd:(K++eH R).Nodup
theorem cD.m{B:Nat}{w:World}{v:Value}{R:List SV}(h:cD B w v R):∃K,zQ B w v R K/\∀g,v.ownBlock=some g↔g∈K:=by
 obtain⟨K,h1,h2⟩:=gZ.of_own h.row;refine⟨K,⟨h1,h.each,?_⟩,h2⟩;rw[List.nodup_append];refine⟨?_,h.nd,fun a ha b hb e=>?_⟩
 ·rcases h1 with⟨-,rfl,-⟩|⟨g,Ja,-,rfl,-⟩ <;> simp
 ·subst e;exact h.out a ((h2 a).2 ha) hb
theorem zQ.rng{B:Nat}{w:World}{v:Value}{R:List SV}{K:List Nat}(h:zQ B w v R K):∀g∈K++eH R,B<=g/\g<w.heap.size:=by
 intro g hg;rcases List.mem_append.1 hg with hg|hg
 ·exact h.row.rng g hg
 ·simp only[eH,List.mem_flatMap,List.mem_append]at hg;obtain⟨q,hq,hg|hg⟩:=hg
  ·exact(h.each q hq).1.rng g hg
  ·exact(h.each q hq).2.rng g hg
theorem zQ.keep{B:Nat}{w w':World}{v:Value}{R:List SV}{K:List Nat}(h:zQ B w v R K)(hs:w.heap.size<=w'.heap.size)(hk:∀g∈K++eH R,w'.heap[g]? =w.heap[g]?):zQ B w' v R K:=
 ⟨h.row.keep hs (fun g hg=>hk g (List.mem_append.2 (.inl hg))),fun q hq=>⟨(h.each q hq).1.keep hs (fun g hg=>hk g (List.mem_append.2 (.inr ((fw hq).1 g hg)))),(h.each q hq).2.keep hs (fun g hg=>hk g (List.mem_append.2 (.inr ((fw hq).2 g hg))))⟩,h.nd⟩
structure qK (B:Nat) (w:World) (q:FV):Prop where
 ps:gZ B w q.vp q.f.params.length (wU q.f.params) q.kp
 body:zQ B w q.vb q.R q.kb
 map:q.R.map (·.s)=q.f.body
 nd:(oY q).Nodup
theorem qK.rng{B:Nat}{w:World}{q:FV}(h:qK B w q):∀g∈oY q,B<=g/\g<w.heap.size:=by
 intro g hg;rcases List.mem_append.1 hg with hg|hg
 ·exact h.ps.rng g hg
 ·exact h.body.rng g hg
theorem qK.keep{B:Nat}{w w':World}{q:FV}(h:qK B w q)(hs:w.heap.size<=w'.heap.size)(hk:∀g∈oY q,w'.heap[g]? =w.heap[g]?):qK B w' q:=
 ⟨h.ps.keep hs (fun g hg=>hk g (List.mem_append.2 (.inl hg))),h.body.keep hs (fun g hg=>hk g (List.mem_append.2 (.inr hg))),h.map,h.nd⟩
theorem dQ.up{B B':Nat}{w:World}{v:Value}{n:Nat}{xs:List Value}{K:List Nat}(h:gZ B w v n xs K)(hb:B'<=B):gZ B' w v n xs K:=by
 rcases h with h|⟨g,Ja,h1,h2,h3,h4,h5,h6⟩
 ·exact .inl h
 ·exact .inr ⟨g,Ja,h1,h2,h3,h4,t_ hb h5,h6⟩
theorem qK.base{B B':Nat}{w:World}{q:FV}(h:qK B w q)(hb:B'<=B):qK B' w q:=
 ⟨dQ.up h.ps hb,⟨dQ.up h.body.row hb,fun x hx=>⟨(h.body.each x hx).1.base hb,(h.body.each x hx).2.base hb⟩,h.body.nd⟩,h.map,h.nd⟩
theorem gZ.strs{B:Nat}{w:World}{v:Value}{ps:List ByteArray}{K:List Nat}(h:gZ B w v ps.length (wU ps) K):Strs w v ps:=by
 rcases h with⟨h0,-,a,c,rfl,hc⟩|⟨g,Ja,rfl,-,h3,h4,-,-,h7⟩
 ·exact⟨a,c,by rw[h0],o_,hc,fun hp=>absurd hp o_⟩
 ·refine⟨_,Ja,rfl,h3,h4,fun _=>⟨g,0,rfl,fun j hj=>?_⟩⟩;rw[Nat.zero_add];exact(h7 j (.string ps[j]) (by simp[wU,List.getElem?_eq_getElem hj])).1
theorem zQ.stmts{B:Nat}{w:World}{v:Value}{R:List SV}{K:List Nat}(h:zQ B w v R K):bJ w v (R.map (·.s)):=by
 rcases h.row with⟨h0,-,a,c,rfl,hc⟩|⟨g,Jb,rfl,-,h3,h4,-,-,h7⟩
 ·exact⟨a,c,by rw[List.length_map,h0],by rw[List.length_map];omega,hc,fun hp=>by rw[List.length_map]at hp;omega⟩
 ·refine⟨some ⟨g,0,none⟩,Jb,by rw[List.length_map],by rw[List.length_map];exact h3,h4,fun hp=>⟨g,0,rfl,fun j hj=>?_⟩⟩;rw[List.length_map]at hj;have Ja:∀i (hi:i<6),w.cell? ⟨g,0+j*6+i,none⟩=(aY R[j])[i]? := fun i hi=>by
   have e:=dH R j i hj hi;have hl:i<(aY R[j]).length:=hi;rw[List.getElem?_eq_getElem hl]at e⊢;rw[Nat.zero_add];exact(h7 _ _ e).1
  have he:=h.each R[j] (g_ hj);refine⟨R[j].ve,R[j].vf,?_,?_,?_⟩
  ·simp only[List.getElem_map];exact⟨Ja 0 o_,Ja 1 o_,Ja 2 o_,Ja 3 o_,Ja 4 o_,Ja 5 o_⟩
  ·simp only[List.getElem_map];exact he.1.nodes
  ·simp only[List.getElem_map];exact he.2.nodes
structure eo (B:Nat) (w:World) (v:Value) (Q:List FV):Prop where
 row:w.ownsRow B 43 3 v Q.length (a_ Q)
 each:∀q∈Q,qK B w q
 nd:(jP Q).Nodup
 out:∀g,v.ownBlock=some g->g∉jP Q
theorem eo.nil(B:Nat)(w:World):eo B w (.slice none 0 0) []:=⟨World.ownsRow_nil _ _ _ _,fun q hq=>(by cases hq),List.nodup_nil,fun g hg=>(by simp[Value.ownBlock]at hg)⟩
theorem eo.rng{B:Nat}{w:World}{v:Value}{Q:List FV}(h:eo B w v Q):∀g∈jP Q,B<=g/\g<w.heap.size:=by
 intro g hg;obtain⟨q,hq,hg⟩:=List.mem_flatMap.1 hg;exact(h.each q hq).rng g hg
theorem sr{Q:List FV}{q:FV}(hq:q∈Q):∀g∈oY q,g∈jP Q:=fun g hg=>List.mem_flatMap.2 ⟨q,hq,hg⟩
theorem eo.shape{B:Nat}{w:World}{v:Value}{Q:List FV}(h:eo B w v Q):∃a c,v=.slice a Q.length c:=by
 rcases h.row.2 with⟨rfl,hz⟩|⟨g,Ja,Jb,rfl,_⟩
 ·exact⟨none,0,by rw[hz]⟩
 ·exact⟨_,Ja,rfl⟩
theorem eo.funcs{B:Nat}{w:World}{v:Value}{Q:List FV}(h:eo B w v Q):dM w v (Q.map (·.f)):=by
 have h0:=h.row;rcases h.row.2 with⟨rfl,hz⟩|⟨g,Jb,Jc,rfl,h3,h4,h5⟩
 ·exact⟨none,0,by rw[List.length_map,hz],by rw[List.length_map,hz];exact n_,o_,fun h=>by rw[List.length_map]at h;omega⟩
 ·have hc:Q.length<=Jb/\Jb<=9223372036854775807:=by
   obtain⟨q1,q2,-⟩:=h5;unfold maxLen at q2;exact⟨q1,q2⟩
  refine⟨some ⟨g,0,none⟩,Jb,by rw[List.length_map],by rw[List.length_map];exact hc.1,hc.2,fun hp=>⟨g,0,rfl,fun j hj=>?_⟩⟩;rw[List.length_map]at hj;have Ja:∀i,i<3->w.cell? ⟨g,0+j*3+i,none⟩=(a7 Q[j])[i]? := fun i hi=>by
   have hl:(a_ Q).length=Q.length*3:=eI Q;rw[Nat.zero_add,World.ownsRow.cellAt h0 (j*3+i) o_,eJ Q j i hj hi]
  have he:=h.each Q[j] (g_ hj);refine⟨Q[j].vp,Q[j].vb,?_,?_,?_⟩
  ·simp only[List.getElem_map];exact⟨Ja 0 o_,Ja 1 o_,Ja 2 o_⟩
  ·simp only[List.getElem_map];exact he.ps.strs
  ·simp only[List.getElem_map];rw[<-he.map];exact he.body.stmts
theorem Ct{w:World}{B c:Nat}{v:Value}{ad:Addr}{Q:List FV}{q:FV}(ty:TypeId)(h:eo B w v Q)(hq:qK B w q)(Jb:∀j x,(a7 q)[j]? =some x->w.cell? (ad.add j)=some x)(Jc:∀g∈oY q,g∉jP Q/\v.ownBlock≠some g)(Ja:q.vp.oneCell'=true/\q.vb.oneCell'=true)(hB:B<=w.heap.size)(hm:Q.length<=100000):
  ∃v' w',(Builtin.append_ #[24,24] ty #[v,.slice (some ad) 1 c]).run prog w=.ok v' w'/\eo B w' v' (Q++[q])/\w.grownBy w' v.ownBlock/\∀k,v'.ownBlock=some k->v.ownBlock=some k∨w.heap.size<=k:=by
 obtain⟨i0,hi,Jf,Jh,Jg⟩:=info_parts iL;obtain⟨v',w',r1,r2,r3,r4⟩:=bS (P:=prog) (w:=w) B 24 ty 43 i0 _ 3 64 underlying24 hi Jf Jh Jg rfl d_ v Q.length (a_ Q) h.row (some ad) 1 c (a7 q) (fun h=>by cases h) rfl (fun a ha j x hx=>by cases ha;exact Jb j x hx) (fun u hu=>by
  simp only[a7,List.mem_cons,List.not_mem_nil,or_false]at hu;rcases hu with rfl|rfl|rfl
  ·rfl
  ·exact Ja.1
  ·exact Ja.2) o_ d_ hB
 have hk:∀x∈Q++[q],qK B w x/\∀g∈oY x,v.ownBlock≠some g:=fun x hx=>by
  rcases List.mem_append.1 hx with hx|hx
  ·exact⟨h.each x hx,fun g hg e=>h.out g e (sr hx g hg)⟩
  ·simp only[List.mem_singleton]at hx;subst hx;exact⟨hq,fun g hg=>(Jc g hg).2⟩
 refine⟨v',w',r1,⟨?_,fun x hx=>?_,?_,fun g hg hmem=>?_⟩,r3,r4⟩
 ·rw[l_a,gM];have:a_ [q]=a7 q:=by simp[a_]
  rw[this];exact r2
 ·obtain⟨k1,k2⟩:=hk x hx;exact k1.keep r3.size fun g hg=>r3.block g (k1.rng g hg).2 (fun e=>k2 g hg e.symm)
 ·rw[j6,List.nodup_append];refine⟨h.nd,by simpa[jP]using hq.nd,fun x hx y hy e=>?_⟩;subst e;exact(Jc x (by simpa[jP]using hy)).1 hx
 ·obtain⟨x,hx,Je⟩:=List.mem_flatMap.1 hmem;obtain⟨k1,k2⟩:=hk x hx;rcases r4 g hg with Jd|Jd
  ·exact k2 g Je Jd
  ·have:=(k1.rng g Je).2
   omega
structure bB (B:Nat) (w:World) (vg vf:Value) (r:Tr) (Q:List FV):Prop where
 gs:w.ownsRow B 74 2 vg r.globals.length (iW r.globals)
 fs:eo B w vf Q
 map:Q.map (·.f)=r.funcs
 sep:∀g,vg.ownBlock=some g->g∉jP Q/\vf.ownBlock≠some g
theorem bB.nil(B:Nat)(w:World):bB B w (.slice none 0 0) (.slice none 0 0) ⟨[],[]⟩ []:=
 ⟨World.ownsRow_nil _ _ _ _,eo.nil _ _,rfl,fun g hg=>by simp[Value.ownBlock]at hg⟩
theorem qK.keepB{B:Nat}{w w':World}{q:FV}(h:qK B w q)(hs:w.heap.size<=w'.heap.size)(hk:∀g,B<=g->g<w.heap.size->w'.heap[g]? =w.heap[g]?):qK B w' q:=h.keep hs (fun g hg=>hk g (h.rng g hg).1 (h.rng g hg).2)
theorem eo.keepB{B:Nat}{w w':World}{v:Value}{Q:List FV}(h:eo B w v Q)(hs:w.heap.size<=w'.heap.size)(hk:∀g,B<=g->g<w.heap.size->w'.heap[g]? =w.heap[g]?):eo B w' v Q:=
 ⟨wT h.row fun g hg=>hk g (World.ownsRow.lt h.row g hg).1 (World.ownsRow.lt h.row g hg).2,fun q hq=>(h.each q hq).keepB hs hk,h.nd,h.out⟩
theorem eo.base{B B':Nat}{w:World}{v:Value}{Q:List FV}(h:eo B w v Q)(hb:B'<=B):eo B' w v Q:=
 ⟨pE h.row hb,fun q hq=>(h.each q hq).base hb,h.nd,h.out⟩
end Go.Proofs.YtlamjfhhefcohaaGreatDoor
