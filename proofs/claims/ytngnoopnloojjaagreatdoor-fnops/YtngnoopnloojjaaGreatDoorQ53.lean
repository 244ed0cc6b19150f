import Derived.Test.YtngnoopnloojjaaGreatDoorQ31
import Derived.Test.YtngnoopnloojjaaGreatDoorQ32
import Derived.Deep.RegionHeldLaw
namespace Go.Proofs.YtngnoopnloojjaaGreatDoor
open List
open Go.Proofs.Tryz Go.RowKit
set_option linter.all false
set_option maxRecDepth 100000
set_option maxHeartbeats 0
variable[Inhabited Pick]
variable{w:AT}
theorem Fl(B:Nat)(H:IN)(v:BY)(h:List Nd)(Ja:dW B w v h)(u:BY)(ns:List Nd)(hN:a_ w u ns)(hb:h.length+ns.length<=10000000)(Jb:B<=w.heap.size):
  ∃v' w',(Builtin.append_ #[33,33] H #[v,u]).run prog w=.ok v' w'/\dW B w' v' (h++ns)/\w.grownBy w' v.ownBlock/\∀k,v'.ownBlock=some k->v.ownBlock=some k\/w.heap.size<=k:=by
 have⟨i0,J,Je,Jg,Jh⟩:=info_parts sJ;obtain⟨I,Jc,rfl,Jm,Jl,hc⟩:=hN;have Jd:∀(a:Addr),I=some a->(∀j x,(ef ns)[j]? =some x->w.cell? (a.add j)=some x)->∃v' w',(Builtin.append_ #[33,33] H #[v,.slice I ns.length Jc]).run prog w=.ok v' w'/\dW B w' v' (h++ns)/\w.grownBy w' v.ownBlock/\∀k,v'.ownBlock=some k->v.ownBlock=some k\/w.heap.size<=k:=by intro a ha O;subst ha;have⟨v',w',Y,r2,U,r4⟩:=fV (P:=prog) (w:=w) B 33 H 36 i0 _ 3 32 underlying33 J Je Jg Jh rfl d_ v h.length (ef h) Ja a ns.length Jc (ef ns) (mX ns) O (sI ns) hb d_ Jb;refine⟨v',w',Y,?_,U,r4⟩;unfold dW;rw[l_a,me];exact r2
 by_cases hp:0<ns.length;obtain⟨b,Jk,rfl,X⟩:=hc hp;exact Jd _ rfl (pW X);have Z:ns=[]:=K1 o_;subst Z;cases I with
 | some a=>exact Jd a rfl (λj x hx=>by simp[ef]at hx)
 | none=>
  have hr:(Builtin.append_ #[33,33] H #[v,.slice none ([]:List Nd).length Jc]).run prog w=.ok v w:=by rcases Ja.2 with⟨rfl,O⟩|⟨g,Jf,Jj,rfl,_,_,Ji,_⟩;simp[Builtin.append_,run_underlying underlying33,sizeOf,typeInfo,J,Builtin.lenOf,Builtin.firstCells];simp[Builtin.append_,run_underlying underlying33,sizeOf,typeInfo,J,Builtin.lenOf,Builtin.firstCells,Ji,storeCells]
  exact⟨v,w,hr,D4 Ja,⟨rfl,rfl,rfl,n_,λ_ _ _=>rfl⟩,λk hk=>.inl hk⟩
end Go.Proofs.YtngnoopnloojjaaGreatDoor
