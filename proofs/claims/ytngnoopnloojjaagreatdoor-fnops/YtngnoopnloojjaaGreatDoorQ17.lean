import Derived.Test.YtngnoopnloojjaaGreatDoorQ01
import Derived.Lib.AppendZeros
import Derived.Deep.RegionHeldLaw
namespace Go.Proofs.YtngnoopnloojjaaGreatDoor
open List
open Go.RowKit
set_option linter.all false
set_option maxRecDepth 100000
set_option maxHeartbeats 0
variable[Inhabited Pick]
variable{P:Program}{w:AT}{ops:Array Oper}{o:Oper}{a:Act}
theorem ii(Ja:Nat)(t J e:IN)(i:TypeInfo)(z:BY)(size bytes:Nat)(H:P.underlying t=some (.slice e))(O:P.info? e=some i)(Z:i.zero=some z)
  (Jc:i.size=size) (Ji:i.bytes=bytes) (Jj:z.cells.size=size) (Jg:0<size) (v:BY) (n:Nat) (I:List BY) (Jb:w.ownsRow Ja e size v n I)
  (a:Option Addr) (m c:Nat) (h:List BY) (U:a=none->m=0) (hl:h.length=m*size) (hc:∀ad,a=some ad->∀j u,h[j]? =some u->w.cell? (ad.add j)=some u) (Y:∀u∈h,u.oneCell'=true)
  (hm:n+m<=10000000) (Jh:bytes<=1000) (Jd:Ja<=w.heap.size):
  ∃v' w',(Builtin.append_ #[t,t] J #[v,.slice a m c]).run P w=.ok v' w'/\w'.ownsRow Ja e size v' (n+m) (I++h)/\w.grownBy w' v.ownBlock/\∀k,v'.ownBlock=some k->v.ownBlock=some k\/w.heap.size<=k:=by
 cases a with
 | none=>
  obtain rfl:=U rfl;obtain rfl:h=[]:=K1 o_;have X:(Builtin.append_ #[t,t] J #[v,.slice none 0 c]).run P w=.ok v w:=by rcases Jb.2 with⟨rfl,U⟩|⟨g,Jf,Jk,rfl,_,_,Je,_⟩;simp[Builtin.append_,run_underlying H,sizeOf,typeInfo,O,Builtin.lenOf,Builtin.firstCells];simp[Builtin.append_,run_underlying H,sizeOf,typeInfo,O,Builtin.lenOf,Builtin.firstCells,Je,storeCells]
  exact⟨v,w,X,D4 Jb,⟨rfl,rfl,rfl,n_,λ_ _ _=>rfl⟩,λk hk=>.inl hk⟩
 | some ad=>exact fV (P:=P) (w:=w) Ja t J e i z size bytes H O Z Jc Ji Jj Jg v n I Jb ad m c h hl (hc ad rfl) Y hm Jh Jd
def aQ{Ja:List Oper}{Q:Exit->Act->AT->Prop}(Jb:o.guard=none)(s x:Operand)(t:IN)
  (I:o.op=.call {callee:=.builtin .append,args:=#[s,x],argTypes:=#[t,t]}) (v H v':BY) (w':AT) (O:a.eval s=v) (U:a.eval x=H)
  (J:(Builtin.append_ #[t,t] o.type #[v,H]).run P w=.ok v' w') (h:wpList P ops Q Ja (a.put o.dst v') w'):wpList P ops Q (o::Ja) a w:=by
 refine wpList_plain Jb λK hK=>?_;unfold Oper.wp execOp;simp only[I,resolve,invoke,builtin,Sem.run_bind,Sem.run_pure,Result.andThen_ok,map_toArray,map_cons,map_nil,O,U,J];exact hK _ _ h
def gj{K:Act->AT->Prop}{Q:Exit->Act->AT->Prop}{E:Prop}(Ja:o.guard=none)(s x:Operand)(t:IN)
  (J:o.op=.call {callee:=.builtin .append,args:=#[s,x],argTypes:=#[t,t]}) (v H v':BY) (w':AT) (U:a.eval s=v) (X:a.eval x=H)
  (O:(Builtin.append_ #[t,t] o.type #[v,H]).run P w=.ok v' w') (h:K (a.put o.dst v') w'):
  if Region.wanted o (yielded ops a.tmps)=true then Oper.wp P o a w K Q else E:=by
 have I:Region.wanted o (yielded ops a.tmps)=true:=by simp[Region.wanted,Ja]
 rw[if_pos I];unfold Oper.wp execOp;simp only[J,resolve,invoke,builtin,Sem.run_bind,Sem.run_pure,Result.andThen_ok,map_toArray,map_cons,map_nil,U,X,O];exact h
end Go.Proofs.YtngnoopnloojjaaGreatDoor
