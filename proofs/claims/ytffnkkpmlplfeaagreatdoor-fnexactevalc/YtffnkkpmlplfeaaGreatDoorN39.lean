import Derived.Test.YtffnkkpmlplfeaaGreatDoorN21
import Derived.Test.YtffnkkpmlplfeaaGreatDoorN20
import Derived.Deep.RegionHeldLaw
namespace Go.Proofs.YtffnkkpmlplfeaaGreatDoor
open Go.Proofs.Tryz
open Go.RowKit
set_option linter.all false
set_option maxRecDepth 100000
set_option maxHeartbeats 16000000
variable[Inhabited Pick]
variable {w:World}
theorem run_appN (B:Nat) (ty:TypeId) (v:Value) (ms:List Nd) (hown:NRow B w v ms) (u:Value) (ns:List Nd) (hN:Nodes w u ns) (hb:ms.length+ns.length<=10000000) (hbase:B<=w.heap.size) :
  ∃v' w',(Builtin.append_ #[130,130] ty #[v,u]).run prog w=.ok v' w'/\NRow B w' v' (ms++ns)/\w.grownBy w' v.ownBlock/\∀k,v'.ownBlock=some k->v.ownBlock=some k∨w.heap.size<=k:=by
 obtain⟨i0,hi,hz0,hz1,hz2⟩:=info_parts info_node;obtain⟨ad,cap,rfl,hc1,hc2,hc⟩:=hN;have fin : ∀(a:Addr),ad=some a->(∀j x,(flatN ns)[j]? = some x->w.cell? (a.add j)=some x)->∃v' w',(Builtin.append_ #[130,130] ty #[v,.slice ad ns.length cap]).run prog w=.ok v' w'/\NRow B w' v' (ms++ns)/\w.grownBy w' v.ownBlock/\∀k,v'.ownBlock=some k->v.ownBlock=some k∨w.heap.size<=k:=by
  intro a ha hn;subst ha;obtain⟨v',w',r1,r2,r3,r4⟩:=app_freshG (P:=prog) (w:=w) B 130 ty 134 i0 _ 3 32 underlying130 hi hz0 hz1 hz2 rfl (by decide) v ms.length (flatN ms) hown a ns.length cap (flatN ns) (flatN_len ns) hn (flatN_one ns) hb (by decide) hbase;refine⟨v',w',r1,?_,r3,r4⟩;unfold NRow;rw[l_a,flatN_append];exact r2
 by_cases hp:0<ns.length
 ·obtain⟨b,off,rfl,hC⟩:=hc hp;exact fin _ rfl (nodes_news hC)
 ·have h0:ns = []:=List.eq_nil_of_length_eq_zero o_;subst h0;cases ad with
  | some a=>exact fin a rfl (λj x hx=>by simp[flatN] at hx)
  | none=>
   have hr:(Builtin.append_ #[130,130] ty #[v,.slice none ([]:List Nd).length cap]).run prog w=.ok v w:=by
    rcases hown.2 with ⟨rfl,hn⟩|⟨g,cap',cur,rfl,_,_,hnc,_⟩
    ·simp[Builtin.append_,run_underlying underlying130,sizeOf,typeInfo,hi,Builtin.lenOf,Builtin.firstCells]
    ·simp[Builtin.append_,run_underlying underlying130,sizeOf,typeInfo,hi,Builtin.lenOf,Builtin.firstCells,hnc,storeCells]
   exact⟨v,w,hr,by simpa using hown,⟨rfl,rfl,rfl,n_,λ_ _ _=>rfl⟩,λk hk=>.inl hk⟩
theorem step_appN {ops:Array Oper} {o:Oper} {a:Act} {K:Act->World->Prop} {Q:Exit->Act->World->Prop} {E:Prop} (hgd:o.guard=none) (s x:Operand)
  (ho:o.op=.call {callee:=.builtin .append,args:=#[s,x],argTypes:=#[130,130]})
  (B:Nat) (v:Value) (ms:List Nd) (hs:a.eval s=v) (hown:NRow B w v ms) (u:Value) (ns:List Nd) (hx:a.eval x=u) (hN:Nodes w u ns)
  (hb:ms.length+ns.length<=10000000) (hbase:B<=w.heap.size)
  (h : ∀v' w',NRow B w' v' (ms++ns)->w.grownBy w' v.ownBlock->(∀k,v'.ownBlock=some k->v.ownBlock=some k∨w.heap.size<=k)->K (a.put o.dst v') w') :
  if Region.wanted o (yielded ops a.tmps)=true then Oper.wp prog o a w K Q else E:=by
 have hw:Region.wanted o (yielded ops a.tmps)=true:=by simp[Region.wanted,hgd]
 rw[if_pos hw];obtain⟨v',w',hr,h2,h3,h4⟩:=run_appN (w:=w) B o.type v ms hown u ns hN hb hbase;unfold Oper.wp execOp;simp only[ho,resolve,invoke,builtin,Sem.run_bind,Sem.run_pure,Result.andThen_ok,List.map_toArray,List.map_cons,List.map_nil,hs,hx,hr];exact h v' w' h2 h3 h4
end Go.Proofs.YtffnkkpmlplfeaaGreatDoor
