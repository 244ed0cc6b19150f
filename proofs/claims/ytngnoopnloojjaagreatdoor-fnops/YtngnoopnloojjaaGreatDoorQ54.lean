import Derived.Test.YtngnoopnloojjaaGreatDoorQ53
import Derived.Deep.RegionHeld3
namespace Go.Proofs.YtngnoopnloojjaaGreatDoor
open Go.World List
open Go.Proofs.Tryz
set_option linter.all false
set_option maxRecDepth 100000
set_option maxHeartbeats 0
variable[Inhabited Pick]
section
open Go.RowKit
variable{L l:List Nat}{j B n g c:Nat}{w w':AT}{v:BY}
def iY(B:Nat)(w:AT)(v:BY)(l:List Nat):Prop:=w.ownsRow B 2 1 v l.length (l.map (λg:Nat=>Value.int .i64 (g:Int)))
def iY.shape(h:iY B w v l):∃a c,v=.slice a l.length c:=by rcases h.2 with⟨rfl,H⟩|⟨g,Ja,Jb,rfl,_⟩;exact⟨none,0,by rw[H]⟩;exact⟨_,Ja,rfl⟩
def iY.below(h:iY B w v l)(hb:Bl w w'):iY B w' v l:=ownB h hb
def iY.ints(h:iY B w v l):Ints w v (l.map (λg:Nat=>(g:Int))):=by refine pQ (N:=B) ?_;rw[K8,List.map_map];exact h
def tl(n:Nat)(L:List Nat):List BY:=(List.range n).map (λg=>Value.bool (decide (g∈L)))
def NU(n:Nat)(L:List Nat)(g:Nat)(h:g<n):(tl n L)[g]? =some (.bool (decide (g∈L))):=by simp[tl,h]
def Lq(n:Nat)(L:List Nat)(g:Nat)(h:g<n):(tl n L).set g (.bool true)=tl n (L++[g]):=by apply ext_getElem;simp[tl];intro i I h2;rw[getElem_set];by_cases e:g=i;subst e;simp[tl];rw[if_neg e];have H:¬i=g:=λh=>e h.symm;simp[tl,H]
def kQ(B:Nat)(w:AT)(v:BY)(n:Nat)(L:List Nat):Prop:=w.ownsRow B 4 1 v n (tl n L)
def CH:(prog.info? 4).map (λi=>(i.zero,i.size,i.bytes))=some (some (.bool false),1,1):=by kernel_rfl
def wH:(prog.info? 2).map (λi=>(i.zero,i.size,i.bytes))=some (some (V 0),1,8):=by kernel_rfl
def kQ.below(h:kQ B w v n L)(hb:Bl w w'):kQ B w' v n L:=ownB h hb
def kQ.form(h:kQ B w v n L)(J:0<n):∃g c,v=rV g n c/\B<=g/\g<w.heap.size:=by have H:=h;rcases h.2 with⟨_,I⟩|⟨g,Jb,Jc,rfl,Ja,_⟩;omega;exact⟨g,Jb,rfl,Ja,(ownsRow.lt H g rfl).2⟩
def kQ.cell(h:kQ B w (rV g n c) n L)(j:Nat)(H:j<n):Bo w g j (.bool (decide (j∈L)))/\By w g j:=by refine⟨?_,ownsRow.frozenAt h j⟩;have:=ownsRow.cells h (g:=g) rfl j _ (NU n L j H);rw[gB]at this;simpa using this
def kQ.put(h:kQ B w (rV g n c) n L)(j:Nat)(H:j<n):kQ B (w.setCell ⟨g,j,none⟩ (.bool true)) (rV g n c) n (L++[j]):=by
 have:=(ownsRow.stored h j (.bool true)).1
 rw[Lq n L j H]at this;exact this
end
end Go.Proofs.YtngnoopnloojjaaGreatDoor
