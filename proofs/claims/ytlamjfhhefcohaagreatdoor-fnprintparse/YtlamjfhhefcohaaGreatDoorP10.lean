import Derived.Laws.AppendOwnNone
import Derived.Test.YtlamjfhhefcohaaGreatDoorP09
namespace Go.Proofs.YtlamjfhhefcohaaGreatDoor
open Go.Proofs.Tryz
open Go.RowKit
set_option linter.all false
set_option maxRecDepth 100000
set_option maxHeartbeats 16000000
section
variable{w w':World}{ns:List Nd}{B:Nat}{v:Value}
def lg(n:Nd):List Value:=[.int .i64 n.kind,.int .i64 n.val,.string n.name]
def dC(ns:List Nd):List Value:=ns.flatMap lg
theorem jS(ns:List Nd):(dC ns).length=ns.length*3:=by
 induction ns with
 | nil=>rfl
 | cons n r ih=>
  have:dC (n::r)=lg n++dC r:=rfl
  rw[this,l_a,ih];simp[lg];omega
theorem jx(a b:List Nd):dC (a++b)=dC a++dC b:=by simp[dC]
theorem o3(ns:List Nd)(j:Nat)(hj:j<ns.length):(dC ns)[j*3]? =some (.int .i64 ns[j].kind)/\(dC ns)[j*3+1]? =some (.int .i64 ns[j].val)/\(dC ns)[j*3+2]? =some (.string ns[j].name):=by
 induction ns generalizing j with
 | nil=>simp at hj
 | cons n r ih=>
  have e:dC (n::r)=lg n++dC r:=rfl;cases j with
  | zero=>rw[e];simp[lg]
  | succ j=>
   have:=ih j (by simpa using hj)
   rw[e];have e1:(j+1)*3=j*3+3:=o_;have hl:(lg n).length=3:=rfl;refine⟨?_,?_,?_⟩
   ·rw[e1,List.getElem?_append_right o_,hl];simpa using this.1
   ·rw[e1,List.getElem?_append_right o_,hl,show j*3+3+1-3=j*3+1 by omega];simpa using this.2.1
   ·rw[e1,List.getElem?_append_right o_,hl,show j*3+3+2-3=j*3+2 by omega];simpa using this.2.2
theorem o5(ns:List Nd)(i:Nat)(hi:i<ns.length*3):∃j,j<ns.length/\(i=j*3∨i=j*3+1∨i=j*3+2):=⟨i / 3,o_,o_⟩
theorem gV(g off j:Nat):(⟨g,off,none⟩:Addr).add j=⟨g,off+j,none⟩:=by
 simp[Addr.add];try (intro h;omega)
theorem lh{b off:Nat}(h:gL w b off ns):∀i u,(dC ns)[i]? =some u->w.cell? ((⟨b,off,none⟩:Addr).add i)=some u:=by
 intro i u hu;have hi:i<ns.length*3:=by rw[<-jS];exact(List.getElem?_eq_some_iff.1 hu).1
 obtain⟨j,hj,he⟩:=o5 ns i hi;obtain⟨f0,f1,f2⟩:=o3 ns j hj;obtain⟨c0,c1,c2⟩:=h j hj;rw[gV];rcases he with rfl|rfl|rfl
 ·rw[f0]at hu;cases hu;exact c0
 ·rw[f1]at hu;cases hu;rw[<-Nat.add_assoc];exact c1
 ·rw[f2]at hu;cases hu;rw[<-Nat.add_assoc];exact c2
theorem mv(ns:List Nd):∀u∈dC ns,u.oneCell'=true:=by
 intro u hu;simp only[dC,List.mem_flatMap]at hu;obtain⟨n,_,hn⟩:=hu;simp only[lg,List.mem_cons,List.not_mem_nil,or_false]at hn;rcases hn with rfl|rfl|rfl <;> rfl
def aF(B:Nat)(w:World)(v:Value)(ns:List Nd):Prop:=w.ownsRow B 48 3 v ns.length (dC ns)
theorem aF.nodes(h:aF B w v ns):ax w v ns:=by
 have h0:=h;obtain⟨hl,h⟩:=h;rcases h with⟨rfl,hz⟩|⟨g,Jb,Jf,rfl,hg,hh,Jc,Ja,Jd,Je⟩
 ·exact⟨none,0,by rw[hz],o_,o_,fun h=>absurd h o_⟩
 ·refine⟨_,Jb,rfl,Jc,by simp only[maxLen]at Ja;omega,fun _=>⟨g,0,rfl,fun j hj=>?_⟩⟩;obtain⟨f0,f1,f2⟩:=o3 ns j hj;have k0:=World.ownsRow.cells h0 (g:=g) rfl _ _ f0;have k1:=World.ownsRow.cells h0 (g:=g) rfl _ _ f1;have k2:=World.ownsRow.cells h0 (g:=g) rfl _ _ f2;rw[gV]at k0 k1 k2;exact⟨k0,by rw[Nat.add_assoc];exact k1,by rw[Nat.add_assoc];exact k2⟩
theorem aF.below(h:aF B w v ns)(hb:Below w.heap.size w w'):aF B w' v ns:=by
 obtain⟨g1,g2⟩:=h;refine⟨g1,?_⟩;rcases g2 with g2|⟨g,Jb,Ja,rfl,g3,g4,g5⟩
 ·exact .inl g2
 ·refine .inr ⟨g,Jb,Ja,rfl,g3,?_,g5⟩;rw[hb.block g (Array.getElem?_eq_some_iff.1 g4).1];exact g4
theorem mx:(prog.info? 48).map (fun i=>(i.zero,i.size,i.bytes))=some (some (.agg #[.int .i64 0,.int .i64 0,.string ⟨#[]⟩]),3,32):=by kernel_rfl
theorem ax.grown{Jb:Option Nat}(h:ax w v ns)(hg:w.grownBy w' Jb)(Je:∀g,v.ownBlock=some g->Jb≠some g):ax w' v ns:=by
 obtain⟨a,Jd,rfl,h1,h2,h⟩:=h;refine⟨a,Jd,rfl,h1,h2,fun h0=>?_⟩;obtain⟨b,Ja,rfl,hc⟩:=h h0;refine⟨b,Ja,rfl,fun j hj=>?_⟩;obtain⟨c0,c1,c2⟩:=hc j hj;have Jc:=b_ c0;have hb:=hg.block b Jc (fun e=>Je b rfl e.symm);exact⟨(c_ (a:=⟨b,Ja+j*3,none⟩) hb).trans c0,(c_ (a:=⟨b,Ja+j*3+1,none⟩) hb).trans c1,(c_ (a:=⟨b,Ja+j*3+2,none⟩) hb).trans c2⟩
theorem ownB{e:TypeId}{sz:Nat}{n:Nat}{xs:List Value}(h:w.ownsRow B e sz v n xs)(hb:Below w.heap.size w w'):w'.ownsRow B e sz v n xs:=by
 obtain⟨g1,g2⟩:=h;refine⟨g1,?_⟩;rcases g2 with g2|⟨g,Jb,Ja,rfl,g3,g4,g5⟩
 ·exact .inl g2
 ·refine .inr ⟨g,Jb,Ja,rfl,g3,?_,g5⟩;rw[hb.block g (Array.getElem?_eq_some_iff.1 g4).1];exact g4
section
variable{w:World}
theorem j7{ops:Array Oper}{Ja:List Oper}{o:Oper}{a:Act}{Q:Exit->Act->World->Prop}(Ji:o.guard=none)(s x:Operand)
  (ho:o.op=.call {callee:=.builtin .append,args:=#[s,x],argTypes:=#[44,44]})
  (B:Nat) (v:Value) (ms:List Nd) (hs:a.eval s=v) (Jc:aF B w v ms) (u:Value) (ns:List Nd) (hx:a.eval x=u) (hN:ax w u ns)
  (hp:0<ns.length) (hb:ms.length+ns.length<=10000000) (Jb:B<=w.heap.size)
  (h:∀v' w',aF B w' v' (ms++ns)->w.grownBy w' v.ownBlock->(∀k,v'.ownBlock=some k->v.ownBlock=some k∨w.heap.size<=k)->wpList prog ops Q Ja (a.put o.dst v') w'):wpList prog ops Q (o::Ja) a w:=by
 obtain⟨i0,hi,Jh,Jg,Je⟩:=info_parts mx;obtain⟨ad,Jf,rfl,Jk,Jj,hc⟩:=hN;obtain⟨b,Jd,rfl,hC⟩:=hc hp;refine oF (w:=w) Ji s x _ ho B _ i0 _ 3 32 underlying44 hi Jh Jg Je rfl d_ v ms.length (dC ms) hs Jc ⟨b,Jd,none⟩ ns.length Jf (dC ns) hx (jS ns) (lh hC) (mv ns) o_ o_ Jb fun v' w' h1 h2 h3=>h v' w' ?_ h2 h3;unfold aF;rw[l_a,jx];exact h1
end
end
section
variable{B n:Nat}{w:World}{v:Value}{xs:List Value}
theorem cV{T:TypeId}{sz:Nat}{S:Nat->Prop}{w':World}(h:w.ownsRow B T sz v n xs)(ht:am S w w')(hS:∀k,v.ownBlock=some k->¬S k):w'.ownsRow B T sz v n xs:=by
 obtain⟨hx,h|⟨g,Jb,Ja,rfl,h1,h2,h3⟩⟩:=h
 ·exact⟨hx,.inl h⟩
 ·exact⟨hx,.inr ⟨g,Jb,Ja,rfl,h1,(ht.block g (Array.getElem?_eq_some_iff.1 h2).1 (hS g rfl)).trans h2,h3⟩⟩
theorem jc{size:Nat}{e:TypeId}(h:w.ownsRow B e size v n xs):∃a c,v=.slice a n c/\(a=none->n=0):=by
 rcases h.2 with⟨rfl,hz⟩|⟨g,Ja,Jb,rfl,_⟩
 ·exact⟨none,0,by rw[hz],fun _=>hz⟩
 ·exact⟨_,Ja,rfl,(fun h=>by cases h)⟩
end
section
variable{B B':Nat}{w w':World}{v:Value}{ns:List Nd}{K:List Nat}{R:List SV}
def dQ(B:Nat)(w:World)(v:Value)(ns:List Nd)(K:List Nat):Prop:=(ns=[]/\K=[]/\∃a c,v=.slice a 0 c/\c<=9223372036854775807)∨∃g cap,v=.slice (some ⟨g,0,none⟩) ns.length cap/\K=[g]/\ns.length<=cap/\cap<=9223372036854775807/\B<=g/\g<w.heap.size/\gL w g 0 ns/\∀j,j<ns.length*3->w.frozen? ⟨g,j,none⟩=false
theorem dQ.nil(B:Nat)(w:World):dQ B w (.slice none 0 0) [] []:=.inl ⟨rfl,rfl,none,0,rfl,o_⟩
theorem dQ.nodes(h:dQ B w v ns K):ax w v ns:=by
 rcases h with⟨rfl,-,a,c,rfl,hc⟩|⟨g,Ja,rfl,-,h1,h2,_,_,h3,_⟩
 ·exact⟨a,c,rfl,y_,hc,fun h=>absurd h (Nat.lt_irrefl _)⟩
 ·exact⟨_,Ja,rfl,h1,h2,fun _=>⟨g,0,rfl,h3⟩⟩
theorem dQ.base(h:dQ B w v ns K)(hb:B'<=B):dQ B' w v ns K:=by
 rcases h with h|⟨g,Ja,h1,h2,h3,h4,h5,h6⟩
 ·exact .inl h
 ·exact .inr ⟨g,Ja,h1,h2,h3,h4,t_ hb h5,h6⟩
theorem dQ.rng(h:dQ B w v ns K):∀g∈K,B<=g/\g<w.heap.size:=by
 rcases h with⟨-,rfl,-⟩|⟨g,Ja,-,rfl,-,-,h5,h6,-⟩
 ·intro g hg;cases hg
 ·intro x hx;simp only[List.mem_singleton]at hx;subst hx;exact⟨h5,h6⟩
theorem dQ.keep(h:dQ B w v ns K)(hs:w.heap.size<=w'.heap.size)(hk:∀g∈K,w'.heap[g]? =w.heap[g]?):dQ B w' v ns K:=by
 rcases h with h|⟨g,Ja,h1,rfl,h3,h4,h5,h6,h7,h8⟩
 ·exact .inl h
 ·have e:=hk g i_;have hc:∀o,w'.cell? ⟨g,o,none⟩=w.cell? ⟨g,o,none⟩:=fun o=>c_ (a:=⟨g,o,none⟩) e;refine .inr ⟨g,Ja,h1,rfl,h3,h4,h5,l_ h6 hs,fun j hj=>?_,fun j hj=>?_⟩
  ·obtain⟨a,b,c⟩:=h7 j hj;exact⟨(hc _).trans a,(hc _).trans b,(hc _).trans c⟩
  ·have:w'.frozen? ⟨g,j,none⟩=w.frozen? ⟨g,j,none⟩:=World.frozen?_of_block (a:=⟨g,j,none⟩) e
   exact this.trans (h8 j hj)
structure cD (B:Nat) (w:World) (v:Value) (R:List SV):Prop where
 row:w.ownsRow B 46 6 v R.length (bz R)
 each:∀q∈R,dQ B w q.ve q.s.e q.ke/\dQ B w q.vf q.s.f q.kf
 nd:(eH R).Nodup
 out:∀g,v.ownBlock=some g->g∉eH R
theorem cD.rng(h:cD B w v R):∀g∈eH R,B<=g/\g<w.heap.size:=by
 intro g hg;simp only[eH,List.mem_flatMap,List.mem_append]at hg;obtain⟨q,hq,hg|hg⟩:=hg
 ·exact(h.each q hq).1.rng g hg
 ·exact(h.each q hq).2.rng g hg
theorem fw{q:SV}(hq:q∈R):(∀g∈q.ke,g∈eH R)/\∀g∈q.kf,g∈eH R:=by
 refine⟨fun g hg=>?_,fun g hg=>?_⟩
 ·exact List.mem_flatMap.2 ⟨q,hq,List.mem_append.2 (.inl hg)⟩
 ·exact List.mem_flatMap.2 ⟨q,hq,List.mem_append.2 (.inr hg)⟩
theorem cD.below(h:cD B w v R)(hb:Below w.heap.size w w'):cD B w' v R:=by
 refine⟨ownB h.row hb,fun q hq=>⟨(h.each q hq).1.keep hb.size fun g hg=>hb.block g (h.rng g ((fw hq).1 g hg)).2,(h.each q hq).2.keep hb.size fun g hg=>hb.block g (h.rng g ((fw hq).2 g hg)).2⟩,h.nd,h.out⟩
theorem cD.shape(h:cD B w v R):∃a c,v=.slice a R.length c:=by
 rcases h.row.2 with⟨rfl,hz⟩|⟨g,Ja,Jb,rfl,_⟩
 ·exact⟨none,0,by rw[hz]⟩
 ·exact⟨_,Ja,rfl⟩
end
end Go.Proofs.YtlamjfhhefcohaaGreatDoor
