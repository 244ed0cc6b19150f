import Derived.WalkKit
namespace Go.Proofs.YtffnkkpmlplfeaaGreatDoor
open Go.RowKit
set_option linter.all false
set_option maxRecDepth 100000
set_option maxHeartbeats 16000000
abbrev Bl (w w' : World) : Prop := Below w.heap.size w w'
theorem hide {p : Prop} (h : p) : Hid p := h
theorem l_a {α : Type _} {a b : List α} : (a ++ b).length = a.length + b.length := List.length_append
theorem l_c {α : Type _} {a : α} {b : List α} : (a :: b).length = b.length + 1 := List.length_cons
theorem l_n {α : Type _} : ([] : List α).length = 0 := List.length_nil
theorem bel_a (w : World) (o : Obj) : Below w.heap.size w (w.alloc o) := (Below.refl _ _).alloc (Nat.le_refl _) _
theorem b_ {w:World} {a:Addr} {u:Value} (h:w.cell? a=some u):a.block<w.heap.size:=World.block_lt_of_cell? _ _ h
theorem n_ {n:Nat}:n<=n:=Nat.le_refl n
theorem r_ {n:Nat} {w:World}:Below n w w:=Below.refl n w
theorem g_ {α:Type _} {l:List α} {n:Nat} (h:n<l.length):l[n]∈l:=List.getElem_mem h
theorem l_ {n m k:Nat} (h:n<m) (i:m<=k):n<k:=Nat.lt_of_lt_of_le h i
theorem m_ {α:Type _} (y:α) {a:α} {l:List α} (h:a∈l):a∈y::l:=List.mem_cons_of_mem y h
theorem t_ {n m k:Nat} (h:n<=m) (i:m<=k):n<=k:=Nat.le_trans h i
theorem c_ {w w':World} {a:Addr} (h:w'.heap[a.block]?=w.heap[a.block]?):w'.cell? a=w.cell? a:=World.cell?_of_block h
theorem s_ (w:World) (a b:Addr) (v:Value) (h:a≠b):(w.setCell a v).cell? b=w.cell? b:=World.cell?_setCell_other w a b v h
theorem y_ {n:Nat}:0<=n:=Nat.zero_le n
theorem h2 {ap bp:Prop} (a:ap) (b:bp):Hid ap/\Hid bp:=⟨a,b⟩
theorem h3 {ap bp cp:Prop} (a:ap) (b:bp) (c:cp):Hid ap/\Hid bp/\Hid cp:=⟨a,b,c⟩
theorem h4 {ap bp cp dp:Prop} (a:ap) (b:bp) (c:cp) (d:dp):Hid ap/\Hid bp/\Hid cp/\Hid dp:=⟨a,b,c,d⟩
theorem h5 {ap bp cp dp ep:Prop} (a:ap) (b:bp) (c:cp) (d:dp) (e:ep):Hid ap/\Hid bp/\Hid cp/\Hid dp/\Hid ep:=⟨a,b,c,d,e⟩
theorem h6 {ap bp cp dp ep fp:Prop} (a:ap) (b:bp) (c:cp) (d:dp) (e:ep) (f:fp):Hid ap/\Hid bp/\Hid cp/\Hid dp/\Hid ep/\Hid fp:=⟨a,b,c,d,e,f⟩
theorem h7 {ap bp cp dp ep fp gp:Prop} (a:ap) (b:bp) (c:cp) (d:dp) (e:ep) (f:fp) (g:gp):Hid ap/\Hid bp/\Hid cp/\Hid dp/\Hid ep/\Hid fp/\Hid gp:=⟨a,b,c,d,e,f,g⟩
theorem h8 {ap bp cp dp ep fp gp hp:Prop} (a:ap) (b:bp) (c:cp) (d:dp) (e:ep) (f:fp) (g:gp) (h:hp):Hid ap/\Hid bp/\Hid cp/\Hid dp/\Hid ep/\Hid fp/\Hid gp/\Hid hp:=⟨a,b,c,d,e,f,g,h⟩
theorem h9 {ap bp cp dp ep fp gp hp ip:Prop} (a:ap) (b:bp) (c:cp) (d:dp) (e:ep) (f:fp) (g:gp) (h:hp) (i:ip):Hid ap/\Hid bp/\Hid cp/\Hid dp/\Hid ep/\Hid fp/\Hid gp/\Hid hp/\Hid ip:=⟨a,b,c,d,e,f,g,h,i⟩
theorem h10 {ap bp cp dp ep fp gp hp ip jp:Prop} (a:ap) (b:bp) (c:cp) (d:dp) (e:ep) (f:fp) (g:gp) (h:hp) (i:ip) (j:jp):Hid ap/\Hid bp/\Hid cp/\Hid dp/\Hid ep/\Hid fp/\Hid gp/\Hid hp/\Hid ip/\Hid jp:=⟨a,b,c,d,e,f,g,h,i,j⟩
theorem h11 {ap bp cp dp ep fp gp hp ip jp kp:Prop} (a:ap) (b:bp) (c:cp) (d:dp) (e:ep) (f:fp) (g:gp) (h:hp) (i:ip) (j:jp) (k:kp):Hid ap/\Hid bp/\Hid cp/\Hid dp/\Hid ep/\Hid fp/\Hid gp/\Hid hp/\Hid ip/\Hid jp/\Hid kp:=⟨a,b,c,d,e,f,g,h,i,j,k⟩
theorem h12 {ap bp cp dp ep fp gp hp ip jp kp lp:Prop} (a:ap) (b:bp) (c:cp) (d:dp) (e:ep) (f:fp) (g:gp) (h:hp) (i:ip) (j:jp) (k:kp) (l:lp):Hid ap/\Hid bp/\Hid cp/\Hid dp/\Hid ep/\Hid fp/\Hid gp/\Hid hp/\Hid ip/\Hid jp/\Hid kp/\Hid lp:=⟨a,b,c,d,e,f,g,h,i,j,k,l⟩
section
/-- What chooses, given to all that wants it; the last theorem gives it. -/
structure Pick : Type 1 where
  get : (α : Type) → Nonempty α → α
set_option linter.unusedSectionVars false
variable [Inhabited Pick]
def pdQ (p : Prop) : Decidable p := (default : Pick).get (Decidable p) ⟨Classical.propDecidable p⟩
end
theorem o_{p:Prop}(h:p:=by omega):p:=h
theorem k_{p:Prop}(h:p:=by kernel_rfl):p:=h
theorem _root_.Go.RowKit.Hid.o{p:Prop}(h:Hid p):p:=h
end Go.Proofs.YtffnkkpmlplfeaaGreatDoor
