import Derived.Test.YtjfmapphpijneaaGreatDoorS01
import Derived.Lib.AppendZeros
import Derived.Deep.RegionHeldLaw
namespace Go.Proofs.YtjfmapphpijneaaGreatDoor
open List
open Go.RowKit
set_option linter.all false
set_option maxRecDepth 100000
set_option maxHeartbeats 0
variable[Inhabited Pick]
variable{P:Program}{w:AT}{ops:Array Oper}{o:Oper}{a:Act}
theorem cU(base:Nat)(t J e:JZ)(i:TypeInfo)(z:BY)(size bytes:Nat)(h:P.underlying t=some (.slice e))(U:P.info? e=some i)(hz:i.zero=some z)
  (Jb:i.size=size) (Jh:i.bytes=bytes) (Ji:z.cells.size=size) (Jf:0<size) (v:BY) (n:Nat) (I:List BY) (Ja:w.ownsRow base e size v n I)
  (a:Option Addr) (m c:Nat) (us:List BY) (Z:a=none->m=0) (hl:us.length=m*size) (hc:∀ad,a=some ad->∀j u,us[j]? =some u->w.cell? (ad.add j)=some u) (h1:∀u∈us,u.oneCell'=true)
  (hm:n+m<=10000000) (Jg:bytes<=1000) (Jc:base<=w.heap.size):
  ∃v' w',(Builtin.append_ #[t,t] J #[v,.slice a m c]).run P w=.ok v' w'/\w'.ownsRow base e size v' (n+m) (I++us)/\w.grownBy w' v.ownBlock/\∀k,v'.ownBlock=some k->v.ownBlock=some k\/w.heap.size<=k:=by
 cases a with
 | none=>
  obtain rfl:=Z rfl;obtain rfl:us=[]:=J3 o_;have hr:(Builtin.append_ #[t,t] J #[v,.slice none 0 c]).run P w=.ok v w:=by rcases Ja.2 with⟨rfl,Z⟩|⟨g,Je,Jj,rfl,_,_,Jd,_⟩;simp[Builtin.append_,run_underlying h,sizeOf,typeInfo,U,Builtin.lenOf,Builtin.firstCells];simp[Builtin.append_,run_underlying h,sizeOf,typeInfo,U,Builtin.lenOf,Builtin.firstCells,Jd,storeCells]
  exact⟨v,w,hr,IN Ja,⟨rfl,rfl,rfl,n_,λ_ _ _=>rfl⟩,λk hk=>.inl hk⟩
 | some ad=>exact gW (P:=P) (w:=w) base t J e i z size bytes h U hz Jb Jh Ji Jf v n I Ja ad m c us hl (hc ad rfl) h1 hm Jg Jc
def ay{Ja:List Oper}{Q:Exit->Act->AT->Prop}(Jb:o.guard=none)(s x:Operand)(t:JZ)
  (J:o.op=.call {callee:=.builtin .append,args:=#[s,x],argTypes:=#[t,t]}) (v I v':BY) (w':AT) (Z:a.eval s=v) (hx:a.eval x=I)
  (U:(Builtin.append_ #[t,t] o.type #[v,I]).run P w=.ok v' w') (h:wpList P ops Q Ja (a.put o.dst v') w'):wpList P ops Q (o::Ja) a w:=by
 refine wpList_plain Jb λK hK=>?_;unfold Oper.wp execOp;simp only[J,resolve,invoke,builtin,Sem.run_bind,Sem.run_pure,Result.andThen_ok,map_toArray,map_cons,map_nil,Z,hx,U];exact hK _ _ h
def dW{K:Act->AT->Prop}{Q:Exit->Act->AT->Prop}{E:Prop}(Ja:o.guard=none)(s x:Operand)(t:JZ)
  (U:o.op=.call {callee:=.builtin .append,args:=#[s,x],argTypes:=#[t,t]}) (v I v':BY) (w':AT) (hs:a.eval s=v) (hx:a.eval x=I)
  (Z:(Builtin.append_ #[t,t] o.type #[v,I]).run P w=.ok v' w') (h:K (a.put o.dst v') w'):
  if Region.wanted o (yielded ops a.tmps)=true then Oper.wp P o a w K Q else E:=by
 have J:Region.wanted o (yielded ops a.tmps)=true:=by simp[Region.wanted,Ja]
 rw[if_pos J];unfold Oper.wp execOp;simp only[U,resolve,invoke,builtin,Sem.run_bind,Sem.run_pure,Result.andThen_ok,map_toArray,map_cons,map_nil,hs,hx,Z];exact h
end Go.Proofs.YtjfmapphpijneaaGreatDoor
