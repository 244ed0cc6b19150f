import Derived.Deep.RegionHeldLaw
import Derived.Test.YtjfmapphpijneaaGreatDoorS29
import Derived.Test.YtjfmapphpijneaaGreatDoorS31
namespace Go.Proofs.YtjfmapphpijneaaGreatDoor
set_option linter.all false
set_option maxRecDepth 100000
set_option maxHeartbeats 0
open List Go.Proofs.Tryz Go.RowKit
variable[Inhabited Pick]
variable{w:AT}
theorem jJ(B:Nat)(J:JZ)(v:BY)(I:List Nd)(Ja:aW B w v I)(u:BY)(h:List Nd)(hN:aC w u h)(hb:I.length+h.length<=10000000)(Jb:B<=w.heap.size):
  ∃v' w',(Builtin.append_ #[77,77] J #[v,u]).run prog w=.ok v' w'/\aW B w' v' (I++h)/\w.grownBy w' v.ownBlock/\∀k,v'.ownBlock=some k->v.ownBlock=some k\/w.heap.size<=k:=by
 have⟨i0,Z,Je,Jg,Jh⟩:=info_parts rg;obtain⟨U,Jc,rfl,Jm,Jl,hc⟩:=hN;have Jd:∀(a:Addr),U=some a->(∀j x,(eO h)[j]? =some x->w.cell? (a.add j)=some x)->∃v' w',(Builtin.append_ #[77,77] J #[v,.slice U h.length Jc]).run prog w=.ok v' w'/\aW B w' v' (I++h)/\w.grownBy w' v.ownBlock/\∀k,v'.ownBlock=some k->v.ownBlock=some k\/w.heap.size<=k:=by intro a ha hn;subst ha;have⟨v',w',r1,r2,r3,r4⟩:=gW (P:=prog) (w:=w) B 77 J 81 i0 _ 3 32 underlying77 Z Je Jg Jh rfl d_ v I.length (eO I) Ja a h.length Jc (eO h) (lR h) hn (q9 h) hb d_ Jb;refine⟨v',w',r1,?_,r3,r4⟩;unfold aW;rw[l_a,kX];exact r2
 by_cases hp:0<h.length;obtain⟨b,Jk,rfl,hC⟩:=hc hp;exact Jd _ rfl (o5 hC);have h0:h=[]:=J3 o_;subst h0;cases U with
 | some a=>exact Jd a rfl (λj x hx=>by simp[eO]at hx)
 | none=>
  have hr:(Builtin.append_ #[77,77] J #[v,.slice none ([]:List Nd).length Jc]).run prog w=.ok v w:=by rcases Ja.2 with⟨rfl,hn⟩|⟨g,Jf,Jj,rfl,_,_,Ji,_⟩;simp[Builtin.append_,run_underlying underlying77,sizeOf,typeInfo,Z,Builtin.lenOf,Builtin.firstCells];simp[Builtin.append_,run_underlying underlying77,sizeOf,typeInfo,Z,Builtin.lenOf,Builtin.firstCells,Ji,storeCells]
  exact⟨v,w,hr,IN Ja,⟨rfl,rfl,rfl,n_,λ_ _ _=>rfl⟩,λk hk=>.inl hk⟩
def iQ{ops:Array Oper}{o:Oper}{a:Act}{K:Act->AT->Prop}{Q:Exit->Act->AT->Prop}{E:Prop}(Jc:o.guard=none)(s x:Operand)
  (ho:o.op=.call {callee:=.builtin .append,args:=#[s,x],argTypes:=#[77,77]})
  (B:Nat) (v:BY) (I:List Nd) (hs:a.eval s=v) (Jb:aW B w v I) (u:BY) (J:List Nd) (hx:a.eval x=u) (hN:aC w u J)
  (hb:I.length+J.length<=10000000) (Ja:B<=w.heap.size)
  (h:∀v' w',aW B w' v' (I++J)->w.grownBy w' v.ownBlock->(∀k,v'.ownBlock=some k->v.ownBlock=some k\/w.heap.size<=k)->K (a.put o.dst v') w'):
  if Region.wanted o (yielded ops a.tmps)=true then Oper.wp prog o a w K Q else E:=by
 have U:Region.wanted o (yielded ops a.tmps)=true:=by simp[Region.wanted,Jc]
 rw[if_pos U];have⟨v',w',Z,h2,h3,h4⟩:=jJ (w:=w) B o.type v I Jb u J hN hb Ja;unfold Oper.wp execOp;simp only[ho,resolve,invoke,builtin,Sem.run_bind,Sem.run_pure,Result.andThen_ok,map_toArray,map_cons,map_nil,hs,hx,Z];exact h v' w' h2 h3 h4
