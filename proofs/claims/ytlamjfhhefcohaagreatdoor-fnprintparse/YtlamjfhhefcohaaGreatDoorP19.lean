import Derived.Test.YtlamjfhhefcohaaGreatDoorP10
import Derived.Test.YtlamjfhhefcohaaGreatDoorP11
import Derived.Deep.RegionHeldLaw
set_option linter.unusedSectionVars false
variable [Inhabited Go.Proofs.YtlamjfhhefcohaaGreatDoor.Pick]
namespace Go.Proofs.YtlamjfhhefcohaaGreatDoor
open Go.Proofs.Tryz
open Go.RowKit
set_option linter.all false
set_option maxRecDepth 100000
set_option maxHeartbeats 16000000
variable{w:World}
theorem fF(B:Nat)(ty:TypeId)(v:Value)(ms:List Nd)(Ja:aF B w v ms)(u:Value)(ns:List Nd)(hN:ax w u ns)(hb:ms.length+ns.length<=10000000)(Jb:B<=w.heap.size):
  ∃v' w',(Builtin.append_ #[44,44] ty #[v,u]).run prog w=.ok v' w'/\aF B w' v' (ms++ns)/\w.grownBy w' v.ownBlock/\∀k,v'.ownBlock=some k->v.ownBlock=some k∨w.heap.size<=k:=by
 obtain⟨i0,hi,Jg,Ji,Jh⟩:=info_parts mx;obtain⟨ad,Jc,rfl,Jm,Jk,hc⟩:=hN;have Jd:∀(a:Addr),ad=some a->(∀j x,(dC ns)[j]? =some x->w.cell? (a.add j)=some x)->∃v' w',(Builtin.append_ #[44,44] ty #[v,.slice ad ns.length Jc]).run prog w=.ok v' w'/\aF B w' v' (ms++ns)/\w.grownBy w' v.ownBlock/\∀k,v'.ownBlock=some k->v.ownBlock=some k∨w.heap.size<=k:=by
  intro a ha hn;subst ha;obtain⟨v',w',r1,r2,r3,r4⟩:=gK (P:=prog) (w:=w) B 44 ty 48 i0 _ 3 32 underlying44 hi Jg Ji Jh rfl d_ v ms.length (dC ms) Ja a ns.length Jc (dC ns) (jS ns) hn (mv ns) hb d_ Jb;refine⟨v',w',r1,?_,r3,r4⟩;unfold aF;rw[l_a,jx];exact r2
 by_cases hp:0<ns.length
 ·obtain⟨b,Jj,rfl,hC⟩:=hc hp;exact Jd _ rfl (lh hC)
 ·have h0:ns=[]:=List.eq_nil_of_length_eq_zero o_;subst h0;cases ad with
  | some a=>exact Jd a rfl (fun j x hx=>by simp[dC]at hx)
  | none=>
   have hr:(Builtin.append_ #[44,44] ty #[v,.slice none ([]:List Nd).length Jc]).run prog w=.ok v w:=by
    rcases Ja.2 with⟨rfl,hn⟩|⟨g,Jf,Jl,rfl,_,_,Je,_⟩
    ·simp[Builtin.append_,run_underlying underlying44,sizeOf,typeInfo,hi,Builtin.lenOf,Builtin.firstCells]
    ·simp[Builtin.append_,run_underlying underlying44,sizeOf,typeInfo,hi,Builtin.lenOf,Builtin.firstCells,Je,storeCells]
   exact⟨v,w,hr,by simpa using Ja,⟨rfl,rfl,rfl,n_,fun _ _ _=>rfl⟩,fun k hk=>.inl hk⟩
theorem jV{ops:Array Oper}{o:Oper}{a:Act}{K:Act->World->Prop}{Q:Exit->Act->World->Prop}{E:Prop}(Jc:o.guard=none)(s x:Operand)
  (ho:o.op=.call {callee:=.builtin .append,args:=#[s,x],argTypes:=#[44,44]})
  (B:Nat) (v:Value) (ms:List Nd) (hs:a.eval s=v) (Jb:aF B w v ms) (u:Value) (ns:List Nd) (hx:a.eval x=u) (hN:ax w u ns)
  (hb:ms.length+ns.length<=10000000) (Ja:B<=w.heap.size)
  (h:∀v' w',aF B w' v' (ms++ns)->w.grownBy w' v.ownBlock->(∀k,v'.ownBlock=some k->v.ownBlock=some k∨w.heap.size<=k)->K (a.put o.dst v') w'):
  if Region.wanted o (yielded ops a.tmps)=true then Oper.wp prog o a w K Q else E:=by
 have hw:Region.wanted o (yielded ops a.tmps)=true:=by simp[Region.wanted,Jc]
 rw[if_pos hw];obtain⟨v',w',hr,h2,h3,h4⟩:=fF (w:=w) B o.type v ms Jb u ns hN hb Ja;unfold Oper.wp execOp;simp only[ho,resolve,invoke,builtin,Sem.run_bind,Sem.run_pure,Result.andThen_ok,List.map_toArray,List.map_cons,List.map_nil,hs,hx,hr];exact h v' w' h2 h3 h4
end Go.Proofs.YtlamjfhhefcohaaGreatDoor
