import Derived.WalkKit
namespace Go.Proofs.YtngnoopnloojjaaGreatDoor
open Go.RowKit
set_option linter.all false
set_option maxRecDepth 100000
set_option maxHeartbeats 0
abbrev Bl(w w':World):Prop:= Below w.heap.size w w'
theorem ah{p:Prop}(h:p):Hid p:= h
theorem l_a{α:Type _}{a b:List α}:(a ++ b).length=a.length+b.length:= List.length_append
theorem l_c{α:Type _}{a:α}{b:List α}:(a :: b).length=b.length+1:= List.length_cons
theorem l_n{α:Type _}:([]:List α).length=0:= List.length_nil
theorem aq(w:World)(o:Obj):Below w.heap.size w (w.alloc o):= (Below.refl _ _).alloc (Nat.le_refl _) _
theorem b_{w:World}{a:Addr}{u:Value}(h:w.cell? a=some u):a.block<w.heap.size:=World.block_lt_of_cell? _ _ h
theorem n_{n:Nat}:n<=n:=Nat.le_refl n
theorem r_{n:Nat}{w:World}:Below n w w:=Below.refl n w
theorem g_{α:Type _}{l:List α}{n:Nat}(h:n<l.length):l[n]∈l:=List.getElem_mem h
theorem l_{n m k:Nat}(h:n<m)(i:m<=k):n<k:=Nat.lt_of_lt_of_le h i
theorem m_{α:Type _}(y:α){a:α}{l:List α}(h:a∈l):a∈y::l:=List.mem_cons_of_mem y h
theorem t_{n m k:Nat}(h:n<=m)(i:m<=k):n<=k:=Nat.le_trans h i
theorem c_{w w':World}{a:Addr}(h:w'.heap[a.block]?=w.heap[a.block]?):w'.cell? a=w.cell? a:=World.cell?_of_block h
theorem s_(w:World)(a b:Addr)(v:Value)(h:a≠b):(w.setCell a v).cell? b=w.cell? b:=World.cell?_setCell_other w a b v h
theorem y_{n:Nat}:0<=n:=Nat.zero_le n
abbrev V(z:Int):Value:=.int .i64 z
abbrev pV(b:Nat):Value:=.pointer (some ⟨b,0,none⟩)
abbrev rV(b n c:Nat):Value:=.slice (some ⟨b,0,none⟩) n c
abbrev rW(v:Value):Ending:=.returned v
abbrev nV:Value:=.slice none 0 0
abbrev sV(s:ByteArray):Value:=.string s
theorem o_{p:Prop}(h:p:=by omega):p:=h
theorem d_{p:Prop}(h:p:=by decide):p:=h
theorem i_{p:Prop}(h:p:=by simp):p:=h
theorem k_{p:Prop}(h:p:=by kernel_rfl):p:=h
theorem q_{α:Sort _}(x:α):∃y,y=x:=⟨x,rfl⟩
theorem h2{ap bp:Prop}(a:ap)(b:bp):Hid ap/\Hid bp:=⟨a,b⟩
theorem h3{ap bp cp:Prop}(a:ap)(b:bp)(c:cp):Hid ap/\Hid bp/\Hid cp:=⟨a,b,c⟩
theorem h4{ap bp cp dp:Prop}(a:ap)(b:bp)(c:cp)(d:dp):Hid ap/\Hid bp/\Hid cp/\Hid dp:=⟨a,b,c,d⟩
theorem h5{ap bp cp dp ep:Prop}(a:ap)(b:bp)(c:cp)(d:dp)(e:ep):Hid ap/\Hid bp/\Hid cp/\Hid dp/\Hid ep:=⟨a,b,c,d,e⟩
theorem h6{ap bp cp dp ep fp:Prop}(a:ap)(b:bp)(c:cp)(d:dp)(e:ep)(f:fp):Hid ap/\Hid bp/\Hid cp/\Hid dp/\Hid ep/\Hid fp:=⟨a,b,c,d,e,f⟩
theorem h7{ap bp cp dp ep fp gp:Prop}(a:ap)(b:bp)(c:cp)(d:dp)(e:ep)(f:fp)(g:gp):Hid ap/\Hid bp/\Hid cp/\Hid dp/\Hid ep/\Hid fp/\Hid gp:=⟨a,b,c,d,e,f,g⟩
theorem h8{ap bp cp dp ep fp gp hp:Prop}(a:ap)(b:bp)(c:cp)(d:dp)(e:ep)(f:fp)(g:gp)(h:hp):Hid ap/\Hid bp/\Hid cp/\Hid dp/\Hid ep/\Hid fp/\Hid gp/\Hid hp:=⟨a,b,c,d,e,f,g,h⟩
theorem h9{ap bp cp dp ep fp gp hp ip:Prop}(a:ap)(b:bp)(c:cp)(d:dp)(e:ep)(f:fp)(g:gp)(h:hp)(i:ip):Hid ap/\Hid bp/\Hid cp/\Hid dp/\Hid ep/\Hid fp/\Hid gp/\Hid hp/\Hid ip:=⟨a,b,c,d,e,f,g,h,i⟩
theorem h10{ap bp cp dp ep fp gp hp ip jp:Prop}(a:ap)(b:bp)(c:cp)(d:dp)(e:ep)(f:fp)(g:gp)(h:hp)(i:ip)(j:jp):Hid ap/\Hid bp/\Hid cp/\Hid dp/\Hid ep/\Hid fp/\Hid gp/\Hid hp/\Hid ip/\Hid jp:=⟨a,b,c,d,e,f,g,h,i,j⟩
theorem h11{ap bp cp dp ep fp gp hp ip jp kp:Prop}(a:ap)(b:bp)(c:cp)(d:dp)(e:ep)(f:fp)(g:gp)(h:hp)(i:ip)(j:jp)(k:kp):Hid ap/\Hid bp/\Hid cp/\Hid dp/\Hid ep/\Hid fp/\Hid gp/\Hid hp/\Hid ip/\Hid jp/\Hid kp:=⟨a,b,c,d,e,f,g,h,i,j,k⟩
theorem h12{ap bp cp dp ep fp gp hp ip jp kp lp:Prop}(a:ap)(b:bp)(c:cp)(d:dp)(e:ep)(f:fp)(g:gp)(h:hp)(i:ip)(j:jp)(k:kp)(l:lp):Hid ap/\Hid bp/\Hid cp/\Hid dp/\Hid ep/\Hid fp/\Hid gp/\Hid hp/\Hid ip/\Hid jp/\Hid kp/\Hid lp:=⟨a,b,c,d,e,f,g,h,i,j,k,l⟩
abbrev AT:=World
abbrev BY:=Value
abbrev DO:=Nat->Prop
abbrev Bo(w:World)(b i:Nat)(v:Value):Prop:=w.cell? ⟨b,i,none⟩=some v
abbrev By(w:World)(b i:Nat):Prop:=w.frozen? ⟨b,i,none⟩=false
theorem _root_.Go.RowKit.Hid.o{p:Prop}(h:Hid p):p:=h
theorem Do{p:Prop}(h:p:=by simp;omega):p:=h
theorem D1{p:Prop}(h:p:=by simp[RowKit.intOf];omega):p:=h
theorem D4{p q:Prop}(h:q)(k:q->p:=by intro h;simpa using h):p:=k h
theorem Ft{p q:Prop}(h:q)(k:q->p:=by intro h;omega):p:=k h
theorem Ht{p q r:Prop}(h:q)(i:r)(k:q->r->p:=by intro h i;omega):p:=k h i
theorem H4{p:Prop}(h:p:=by rfl):p:=h
abbrev IF:=ByteArray
abbrev IN:=TypeId
theorem If{α:Type _}{a b:α}:(some a=some b)=(a=b):=Option.some.injEq a b
theorem Io(a b:Bool):((a&&b)=true)=(a=true∧b=true):=Bool.and_eq_true a b
theorem K0{p:Prop}[Decidable p]:(decide p=true)=p:=decide_eq_true_eq
theorem K1{α:Type _}{l:List α}(h:l.length=0):l=[]:=List.eq_nil_of_length_eq_zero h
theorem K3{α:Type _}{l:List α}{i:Nat}(h:i<l.length):l[i]?=some l[i]:=List.getElem?_eq_getElem h
theorem K5{α:Type _}{a:α}{s t:List α}:a∈s++t↔a∈s∨a∈t:=List.mem_append
theorem K6{α:Type _}{a:α}{i:Nat}{l:List α}(h:a∈l.drop i):a∈l:=List.mem_of_mem_drop h
theorem K7{α:Type _}{a b:α}:a∈[b]↔a=b:=List.mem_singleton
theorem K8{α β:Type _}{l:List α}(f:α→β):(l.map f).length=l.length:=List.length_map f
theorem K9(w:World)(o:Obj):(w.alloc o).heap.size=w.heap.size+1:=World.size_alloc w o
section
/-- What chooses, given to all that wants it; the last theorem gives it. -/
structure Pick : Type 1 where
  get : (α : Type) → Nonempty α → α
set_option linter.unusedSectionVars false
variable [Inhabited Pick]
def pdQ (p : Prop) : Decidable p := (default : Pick).get (Decidable p) ⟨Classical.propDecidable p⟩
theorem pickN {α : Type} (d : α) (p : α → Prop) : Nonempty {x : α // (∃ y, p y) → p x} := by
  by_cases h : ∃ y, p y
  · obtain ⟨y, hy⟩ := h
    exact ⟨⟨y, λ_ => hy⟩⟩
  · exact ⟨⟨d, λh' => absurd h' h⟩⟩
def epsQ {α : Type} (d : α) (p : α → Prop) : α := ((default : Pick).get {x : α // (∃ y, p y) → p x} (pickN d p)).1
theorem epsQs {α : Type} {d : α} {p : α → Prop} (h : ∃ x, p x) : p (epsQ d p) := ((default : Pick).get {x : α // (∃ y, p y) → p x} (pickN d p)).2 h
end
end Go.Proofs.YtngnoopnloojjaaGreatDoor
