import Derived.Test.YtffnkkpmlplfeaaGreatDoorF22
import Derived.Test.YtffnkkpmlplfeaaGreatDoorF21
import Derived.Deep.RegionHeldLaw
namespace Go.Proofs.YtffnkkpmlplfeaaGreatDoor
open List
open Go.Proofs.Tryz Go.RowKit
set_option linter.all false
set_option maxRecDepth 100000
set_option maxHeartbeats 0
variable[Inhabited Pick]
variable{w:AT}
theorem iG(B:Nat)(J:GC)(v:BY)(I:List Nd)(Ja:aV B w v I)(u:BY)(h:List Nd)(hN:aw w u h)(hb:I.length+h.length<=10000000)(Jb:B<=w.heap.size):
  ∃v' w',(Builtin.append_ #[130,130] J #[v,u]).run prog w=.ok v' w'/\aV B w' v' (I++h)/\w.grownBy w' v.ownBlock/\∀k,v'.ownBlock=some k->v.ownBlock=some k∨w.heap.size<=k:=by
 obtain⟨i0,Z,Je,Jg,Jh⟩:=info_parts nW;obtain⟨Y,U,rfl,Jm,Jl,hc⟩:=hN;have Jd:∀(a:Addr),Y=some a->(∀j x,(dP h)[j]? =some x->w.cell? (a.add j)=some x)->∃v' w',(Builtin.append_ #[130,130] J #[v,.slice Y h.length U]).run prog w=.ok v' w'/\aV B w' v' (I++h)/\w.grownBy w' v.ownBlock/\∀k,v'.ownBlock=some k->v.ownBlock=some k∨w.heap.size<=k:=by
  intro a ha hn;subst ha;obtain⟨v',w',r1,r2,r3,r4⟩:=fM (P:=prog) (w:=w) B 130 J 134 i0 _ 3 32 underlying130 Z Je Jg Jh rfl d_ v I.length (dP I) Ja a h.length U (dP h) (j7 h) hn (nU h) hb d_ Jb;refine⟨v',w',r1,?_,r3,r4⟩;unfold aV;rw[l_a,jJ];exact r2
 by_cases hp:0<h.length
 ·obtain⟨b,Jk,rfl,hC⟩:=hc hp;exact Jd _ rfl (me hC)
 ·have h0:h=[]:=GG o_;subst h0;cases Y with
  | some a=>exact Jd a rfl (λj x hx=>by simp[dP]at hx)
  | none=>
   have hr:(Builtin.append_ #[130,130] J #[v,.slice none ([]:List Nd).length U]).run prog w=.ok v w:=by
    rcases Ja.2 with⟨rfl,hn⟩|⟨g,Jf,Jj,rfl,_,_,Ji,_⟩
    ·simp[Builtin.append_,run_underlying underlying130,sizeOf,typeInfo,Z,Builtin.lenOf,Builtin.firstCells]
    ·simp[Builtin.append_,run_underlying underlying130,sizeOf,typeInfo,Z,Builtin.lenOf,Builtin.firstCells,Ji,storeCells]
   exact⟨v,w,hr,Fc Ja,⟨rfl,rfl,rfl,n_,λ_ _ _=>rfl⟩,λk hk=>.inl hk⟩
def gE{ops:Array Oper}{o:Oper}{a:Act}{K:Act->AT->Prop}{Q:Exit->Act->AT->Prop}{E:Prop}(Jc:o.guard=none)(s x:Operand)
  (ho:o.op=.call {callee:=.builtin .append,args:=#[s,x],argTypes:=#[130,130]})
  (B:Nat) (v:BY) (I:List Nd) (hs:a.eval s=v) (Jb:aV B w v I) (u:BY) (J:List Nd) (hx:a.eval x=u) (hN:aw w u J)
  (Z:I.length+J.length<=10000000) (Ja:B<=w.heap.size)
  (h:∀v' w',aV B w' v' (I++J)->w.grownBy w' v.ownBlock->(∀k,v'.ownBlock=some k->v.ownBlock=some k∨w.heap.size<=k)->K (a.put o.dst v') w'):
  if Region.wanted o (yielded ops a.tmps)=true then Oper.wp prog o a w K Q else E:=by
 have U:Region.wanted o (yielded ops a.tmps)=true:=by simp[Region.wanted,Jc]
 rw[if_pos U];obtain⟨v',w',Y,h2,h3,h4⟩:=iG (w:=w) B o.type v I Jb u J hN Z Ja;unfold Oper.wp execOp;simp only[ho,resolve,invoke,builtin,Sem.run_bind,Sem.run_pure,Result.andThen_ok,map_toArray,map_cons,map_nil,hs,hx,Y];exact h v' w' h2 h3 h4
end Go.Proofs.YtffnkkpmlplfeaaGreatDoor
