import Derived.Test.YtlamjfhhefcohaaGreatDoorP01
import Derived.Lib.AppendZeros
import Derived.Deep.RegionHeldLaw
set_option linter.unusedSectionVars false
variable [Inhabited Go.Proofs.YtlamjfhhefcohaaGreatDoor.Pick]
namespace Go.Proofs.YtlamjfhhefcohaaGreatDoor
open Go.RowKit
set_option linter.all false
set_option maxRecDepth 100000
set_option maxHeartbeats 16000000
variable{P:Program}{w:World}{ops:Array Oper}{o:Oper}{a:Act}
theorem bS(base:Nat)(t ty e:TypeId)(i:TypeInfo)(z:Value)(size bytes:Nat)(ht:P.underlying t=some (.slice e))(hi:P.info? e=some i)(hz:i.zero=some z)
  (Jb:i.size=size) (Jg:i.bytes=bytes) (Jh:z.cells.size=size) (Jf:0<size) (v:Value) (n:Nat) (xs:List Value) (Ja:w.ownsRow base e size v n xs)
  (a:Option Addr) (m c:Nat) (us:List Value) (hn:a=none->m=0) (hl:us.length=m*size) (hc:∀ad,a=some ad->∀j u,us[j]? =some u->w.cell? (ad.add j)=some u) (h1:∀u∈us,u.oneCell'=true)
  (hm:n+m<=10000000) (Ji:bytes<=1000) (Jc:base<=w.heap.size):
  ∃v' w',(Builtin.append_ #[t,t] ty #[v,.slice a m c]).run P w=.ok v' w'/\w'.ownsRow base e size v' (n+m) (xs++us)/\w.grownBy w' v.ownBlock/\∀k,v'.ownBlock=some k->v.ownBlock=some k∨w.heap.size<=k:=by
 cases a with
 | none=>
  obtain rfl:=hn rfl;obtain rfl:us=[]:=List.eq_nil_of_length_eq_zero o_;have hr:(Builtin.append_ #[t,t] ty #[v,.slice none 0 c]).run P w=.ok v w:=by
   rcases Ja.2 with⟨rfl,hn⟩|⟨g,Je,Jj,rfl,_,_,Jd,_⟩
   ·simp[Builtin.append_,run_underlying ht,sizeOf,typeInfo,hi,Builtin.lenOf,Builtin.firstCells]
   ·simp[Builtin.append_,run_underlying ht,sizeOf,typeInfo,hi,Builtin.lenOf,Builtin.firstCells,Jd,storeCells]
  exact⟨v,w,hr,by simpa using Ja,⟨rfl,rfl,rfl,n_,fun _ _ _=>rfl⟩,fun k hk=>.inl hk⟩
 | some ad=>exact gK (P:=P) (w:=w) base t ty e i z size bytes ht hi hz Jb Jg Jh Jf v n xs Ja ad m c us hl (hc ad rfl) h1 hm Ji Jc
theorem ao{Ja:List Oper}{Q:Exit->Act->World->Prop}(Jb:o.guard=none)(s x:Operand)(t:TypeId)
  (ho:o.op=.call {callee:=.builtin .append,args:=#[s,x],argTypes:=#[t,t]}) (v vx v':Value) (w':World) (hs:a.eval s=v) (hx:a.eval x=vx)
  (hr:(Builtin.append_ #[t,t] o.type #[v,vx]).run P w=.ok v' w') (h:wpList P ops Q Ja (a.put o.dst v') w'):wpList P ops Q (o::Ja) a w:=by
 refine wpList_plain Jb fun K hK=>?_;unfold Oper.wp execOp;simp only[ho,resolve,invoke,builtin,Sem.run_bind,Sem.run_pure,Result.andThen_ok,List.map_toArray,List.map_cons,List.map_nil,hs,hx,hr];exact hK _ _ h
theorem bm{K:Act->World->Prop}{Q:Exit->Act->World->Prop}{E:Prop}(Ja:o.guard=none)(s x:Operand)(t:TypeId)
  (ho:o.op=.call {callee:=.builtin .append,args:=#[s,x],argTypes:=#[t,t]}) (v vx v':Value) (w':World) (hs:a.eval s=v) (hx:a.eval x=vx)
  (hr:(Builtin.append_ #[t,t] o.type #[v,vx]).run P w=.ok v' w') (h:K (a.put o.dst v') w'):
  if Region.wanted o (yielded ops a.tmps)=true then Oper.wp P o a w K Q else E:=by
 have hw:Region.wanted o (yielded ops a.tmps)=true:=by simp[Region.wanted,Ja]
 rw[if_pos hw];unfold Oper.wp execOp;simp only[ho,resolve,invoke,builtin,Sem.run_bind,Sem.run_pure,Result.andThen_ok,List.map_toArray,List.map_cons,List.map_nil,hs,hx,hr];exact h
end Go.Proofs.YtlamjfhhefcohaaGreatDoor
