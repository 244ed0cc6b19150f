import Derived.Test.YtffnkkpmlplfeaaGreatDoorF00
import Derived.Lib.AppendZeros
import Derived.Deep.RegionHeldLaw
namespace Go.Proofs.YtffnkkpmlplfeaaGreatDoor
open List
open Go.RowKit
set_option linter.all false
set_option maxRecDepth 100000
set_option maxHeartbeats 0
variable[Inhabited Pick]
variable{P:Program}{w:AT}{ops:Array Oper}{o:Oper}{a:Act}
theorem cE(base:Nat)(t J e:GC)(i:TypeInfo)(z:BY)(size bytes:Nat)(h:P.underlying t=some (.slice e))(U:P.info? e=some i)(hz:i.zero=some z)
  (Jb:i.size=size) (Jh:i.bytes=bytes) (Ji:z.cells.size=size) (Jf:0<size) (v:BY) (n:Nat) (I:List BY) (Y:w.ownsRow base e size v n I)
  (a:Option Addr) (m c:Nat) (us:List BY) (Z:a=none->m=0) (hl:us.length=m*size) (hc:∀ad,a=some ad->∀j u,us[j]? =some u->w.cell? (ad.add j)=some u) (h1:∀u∈us,u.oneCell'=true)
  (hm:n+m<=10000000) (Jg:bytes<=1000) (Jc:base<=w.heap.size):
  ∃v' w',(Builtin.append_ #[t,t] J #[v,.slice a m c]).run P w=.ok v' w'/\w'.ownsRow base e size v' (n+m) (I++us)/\w.grownBy w' v.ownBlock/\∀k,v'.ownBlock=some k->v.ownBlock=some k∨w.heap.size<=k:=by
 cases a with
 | none=>
  obtain rfl:=Z rfl;obtain rfl:us=[]:=GG o_;have hr:(Builtin.append_ #[t,t] J #[v,.slice none 0 c]).run P w=.ok v w:=by
   rcases Y.2 with⟨rfl,Z⟩|⟨g,Je,Jj,rfl,_,_,Jd,_⟩
   ·simp[Builtin.append_,run_underlying h,sizeOf,typeInfo,U,Builtin.lenOf,Builtin.firstCells]
   ·simp[Builtin.append_,run_underlying h,sizeOf,typeInfo,U,Builtin.lenOf,Builtin.firstCells,Jd,storeCells]
  exact⟨v,w,hr,Fc Y,⟨rfl,rfl,rfl,n_,λ_ _ _=>rfl⟩,λk hk=>.inl hk⟩
 | some ad=>exact fM (P:=P) (w:=w) base t J e i z size bytes h U hz Jb Jh Ji Jf v n I Y ad m c us hl (hc ad rfl) h1 hm Jg Jc
def aC{J:List Oper}{Q:Exit->Act->AT->Prop}(Jb:o.guard=none)(s x:Operand)(t:GC)
  (Y:o.op=.call {callee:=.builtin .append,args:=#[s,x],argTypes:=#[t,t]}) (v U I:BY) (w':AT) (hs:a.eval s=v) (hx:a.eval x=U)
  (Z:(Builtin.append_ #[t,t] o.type #[v,U]).run P w=.ok I w') (h:wpList P ops Q J (a.put o.dst I) w'):wpList P ops Q (o::J) a w:=by
 refine wpList_plain Jb λK hK=>?_;unfold Oper.wp execOp;simp only[Y,resolve,invoke,builtin,Sem.run_bind,Sem.run_pure,Result.andThen_ok,map_toArray,map_cons,map_nil,hs,hx,Z];exact hK _ _ h
def cJ{K:Act->AT->Prop}{Q:Exit->Act->AT->Prop}{E:Prop}(Z:o.guard=none)(s x:Operand)(t:GC)
  (Y:o.op=.call {callee:=.builtin .append,args:=#[s,x],argTypes:=#[t,t]}) (v J I:BY) (w':AT) (hs:a.eval s=v) (hx:a.eval x=J)
  (hr:(Builtin.append_ #[t,t] o.type #[v,J]).run P w=.ok I w') (h:K (a.put o.dst I) w'):
  if Region.wanted o (yielded ops a.tmps)=true then Oper.wp P o a w K Q else E:=by
 have U:Region.wanted o (yielded ops a.tmps)=true:=by simp[Region.wanted,Z]
 rw[if_pos U];unfold Oper.wp execOp;simp only[Y,resolve,invoke,builtin,Sem.run_bind,Sem.run_pure,Result.andThen_ok,map_toArray,map_cons,map_nil,hs,hx,hr];exact h
end Go.Proofs.YtffnkkpmlplfeaaGreatDoor
