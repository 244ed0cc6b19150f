import Derived.Test.YtngnoopnloojjaaGreatDoorQ31
import Derived.Deep.RegionHeldLaw
namespace Go.Proofs.YtngnoopnloojjaaGreatDoor
open List
open Go.Proofs.Tryz Go.RowKit
set_option linter.all false
set_option maxRecDepth 100000
set_option maxHeartbeats 0
variable[Inhabited Pick]
def Cm{w:AT}{ops:Array Oper}{o:Oper}{a:Act}{K:Act->AT->Prop}{Q:Exit->Act->AT->Prop}{E:Prop}(Jf:o.guard=none)(s x:Operand)
  (Y:o.op=.call {callee:=.builtin .append,args:=#[s,x],argTypes:=#[135,135]})
  (B:Nat) (v:BY) (its:List It) (H:It) (Z:a.eval s=v) (Jb:w.ownsRow B 214 7 v its.length (cq its)) (b c:Nat) (hx:a.eval x=rV b 1 c) (X:∀j u,(cq [H])[j]? =some u->w.cell? ((⟨b,0,none⟩:Addr).add j)=some u)
  (hm:its.length<=9000000) (Ja:B<=w.heap.size)
  (h:∀v' w',w'.ownsRow B 214 7 v' (its.length+[H].length) (cq its++cq [H])->w.grownBy w' v.ownBlock->(∀k,v'.ownBlock=some k->v.ownBlock=some k\/w.heap.size<=k)->K (a.put o.dst v') w'):
  if Region.wanted o (yielded ops a.tmps)=true then Oper.wp prog o a w K Q else E:=by
 have J:Region.wanted o (yielded ops a.tmps)=true:=by simp[Region.wanted,Jf]
 rw[if_pos J];have⟨I,O,Jd,Jc,Je⟩:=info_parts mY;have⟨v',w',U,h2,h3,h4⟩:=fV (P:=prog) (w:=w) B 135 o.type 214 I _ 7 56 underlying135 O Jd Jc Je rfl d_ v its.length (cq its) Jb ⟨b,0,none⟩ 1 c (cq [H]) (mI [H]) X (λu hu=>pX H u (by rw[jC]at hu;exact hu)) o_ d_ Ja;unfold Oper.wp execOp;simp only[Y,resolve,invoke,builtin,Sem.run_bind,Sem.run_pure,Result.andThen_ok,map_toArray,map_cons,map_nil,Z,hx,U];exact h v' w' h2 h3 h4
def yX(B:Nat)(w:AT)(v:BY)(its:List It):Prop:=w.ownsRow B 214 7 v its.length (cq its)
def yX.base{B B':Nat}{w:AT}{v:BY}{its:List It}(h:yX B w v its)(I:B'<=B):yX B' w v its:=by obtain⟨H,h2⟩:=h;refine⟨H,?_⟩;rcases h2 with h2|⟨g,Jb,Ja,rfl,h3,h4,h5⟩;exact .inl h2;exact .inr ⟨g,Jb,Ja,rfl,t_ I h3,h4,h5⟩
end Go.Proofs.YtngnoopnloojjaaGreatDoor
