import Derived.WalkKit
namespace Go.Proofs.YtffnkkpmlplfeaaGreatDoor
open Go.RowKit
set_option linter.all false
set_option maxRecDepth 100000
set_option maxHeartbeats 0
abbrev Bl(w w':World):Prop:= Below w.heap.size w w'
theorem ah{p:Prop}(h:p):Hid p:= h
theorem l_a{α:Type _}{a b:List α}:(a ++ b).length=a.length+b.length:= List.length_append
theorem l_c{α:Type _}{a:α}{b:List α}:(a :: b).length=b.length+1:= List.length_cons
theorem l_n{α:Type _}:([]:List α).length=0:= List.length_nil
theorem au(w:World)(o:Obj):Below w.heap.size w (w.alloc o):= (Below.refl _ _).alloc (Nat.le_refl _) _
theorem b_{w:World}{a:Addr}{u:Value}(h:w.cell? a=some u):a.block<w.heap.size:=World.block_lt_of_cell? _ _ h
theorem n_{n:Nat}:n<=n:=Nat.le_refl n
theorem r_{n:Nat}{w:World}:Below n w w:=Below.refl n w
theorem g_{α:Type _}{l:List α}{n:Nat}(h:n<l.length):l[n]∈l:=List.getElem_mem h
theorem l_{n m k:Nat}(h:n<m)(i:m<=k):n<k:=Nat.lt_of_lt_of_le h i
theorem m_{α:Type _}(y:α){a:α}{l:List α}(h:a∈l):a∈y::l:=List.mem_cons_of_mem y h
theorem t_{n m k:Nat}(h:n<=m)(i:m<=k):n<=k:=Nat.le_trans h i
theorem c_{w w':World}{a:Addr}(h:w'.heap[a.block]?=w.heap[a.block]?):w'.cell? a=w.cell? a:=World.cell?_of_block h
theorem s_(w:World)(a b:Addr)(v:Value)(h:a≠b):(w.setCell a v).cell? b=w.cell? b:=World.cell?_setCell_other w a b v h
theorem y_{n:Nat}:0<=n:=Nat.zero_le n
abbrev V(z:Int):Value:=.int .i64 z
abbrev pV(b:Nat):Value:=.pointer (some ⟨b,0,none⟩)
abbrev rV(b n c:Nat):Value:=.slice (some ⟨b,0,none⟩) n c
abbrev rW(v:Value):Ending:=.returned v
abbrev nV:Value:=.slice none 0 0
abbrev sV(s:ByteArray):Value:=.string s
theorem o_{p:Prop}(h:p:=by omega):p:=h
theorem d_{p:Prop}(h:p:=by decide):p:=h
theorem i_{p:Prop}(h:p:=by simp):p:=h
theorem k_{p:Prop}(h:p:=by kernel_rfl):p:=h
theorem q_{α:Sort _}(x:α):∃y,y=x:=⟨x,rfl⟩
theorem h2{ap bp:Prop}(a:ap)(b:bp):Hid ap/\Hid bp:=⟨a,b⟩
theorem h3{ap bp cp:Prop}(a:ap)(b:bp)(c:cp):Hid ap/\Hid bp/\Hid cp:=⟨a,b,c⟩
theorem h4{ap bp cp dp:Prop}(a:ap)(b:bp)(c:cp)(d:dp):Hid ap/\Hid bp/\Hid cp/\Hid dp:=⟨a,b,c,d⟩
theorem h5{ap bp cp dp ep:Prop}(a:ap)(b:bp)(c:cp)(d:dp)(e:ep):Hid ap/\Hid bp/\Hid cp/\Hid dp/\Hid ep:=⟨a,b,c,d,e⟩
theorem h6{ap bp cp dp ep fp:Prop}(a:ap)(b:bp)(c:cp)(d:dp)(e:ep)(f:fp):Hid ap/\Hid bp/\Hid cp/\Hid dp/\Hid ep/\Hid fp:=⟨a,b,c,d,e,f⟩
theorem h7{ap bp cp dp ep fp gp:Prop}(a:ap)(b:bp)(c:cp)(d:dp)(e:ep)(f:fp)(g:gp):Hid ap/\Hid bp/\Hid cp/\Hid dp/\Hid ep/\Hid fp/\Hid gp:=⟨a,b,c,d,e,f,g⟩
theorem h8{ap bp cp dp ep fp gp hp:Prop}(a:ap)(b:bp)(c:cp)(d:dp)(e:ep)(f:fp)(g:gp)(h:hp):Hid ap/\Hid bp/\Hid cp/\Hid dp/\Hid ep/\Hid fp/\Hid gp/\Hid hp:=⟨a,b,c,d,e,f,g,h⟩
theorem h9{ap bp cp dp ep fp gp hp ip:Prop}(a:ap)(b:bp)(c:cp)(d:dp)(e:ep)(f:fp)(g:gp)(h:hp)(i:ip):Hid ap/\Hid bp/\Hid cp/\Hid dp/\Hid ep/\Hid fp/\Hid gp/\Hid hp/\Hid ip:=⟨a,b,c,d,e,f,g,h,i⟩
theorem h10{ap bp cp dp ep fp gp hp ip jp:Prop}(a:ap)(b:bp)(c:cp)(d:dp)(e:ep)(f:fp)(g:gp)(h:hp)(i:ip)(j:jp):Hid ap/\Hid bp/\Hid cp/\Hid dp/\Hid ep/\Hid fp/\Hid gp/\Hid hp/\Hid ip/\Hid jp:=⟨a,b,c,d,e,f,g,h,i,j⟩
theorem h11{ap bp cp dp ep fp gp hp ip jp kp:Prop}(a:ap)(b:bp)(c:cp)(d:dp)(e:ep)(f:fp)(g:gp)(h:hp)(i:ip)(j:jp)(k:kp):Hid ap/\Hid bp/\Hid cp/\Hid dp/\Hid ep/\Hid fp/\Hid gp/\Hid hp/\Hid ip/\Hid jp/\Hid kp:=⟨a,b,c,d,e,f,g,h,i,j,k⟩
theorem h12{ap bp cp dp ep fp gp hp ip jp kp lp:Prop}(a:ap)(b:bp)(c:cp)(d:dp)(e:ep)(f:fp)(g:gp)(h:hp)(i:ip)(j:jp)(k:kp)(l:lp):Hid ap/\Hid bp/\Hid cp/\Hid dp/\Hid ep/\Hid fp/\Hid gp/\Hid hp/\Hid ip/\Hid jp/\Hid kp/\Hid lp:=⟨a,b,c,d,e,f,g,h,i,j,k,l⟩
end Go.Proofs.YtffnkkpmlplfeaaGreatDoor
namespace Go.Proofs.YtffnkkpmlplfeaaGreatDoor
set_option linter.all false
set_option maxRecDepth 100000
set_option maxHeartbeats 0
section
structure Nd where
 kind:Int
 val:Int
 name:ByteArray
structure St where
 kind:Int
 name:ByteArray
 e:List Nd
 f:List Nd
 thn:Int
 els:Int
structure Fu where
 name:ByteArray
 params:List ByteArray
 body:List St
structure Gl where
 name:ByteArray
 size:Int
structure Tr where
 globals:List Gl
 funcs:List Fu
def d9(c:Int):Bool:=decide (97<=c/\c<=122∨c=95)
def digitB(c:Int):Bool:=decide (48<=c/\c<=57)
def gL(c:Int):Bool:=d9 c || digitB c
def jS(s:ByteArray):Bool:=
 s.toList == [105,110,116] || s.toList == [105,102] || s.toList == [101,108,115,101] || s.toList == [119,104,105,108,101] || s.toList == [114,101,116,117,114,110] || s.toList == [105,110] || s.toList == [111,117,116]
def dz(s:ByteArray)(k:Nat):Int:=((s.data.toList.getD k 0).toNat:Int)
def oH(s:ByteArray)(k:Nat):Prop:=∀j,j<k->gL (dz s j)=true
def lu(s:ByteArray):Prop:=1<=s.size/\s.size<=20/\d9 (dz s 0)=true/\(∀j,j<s.size->gL (dz s j)=true)/\jS s=false
def aY (s : ByteArray) : Bool := @decide (lu s) (inferInstanceAs (Decidable (1<=s.size/\s.size<=20/\d9 (dz s 0)=true/\(∀j,j<s.size->gL (dz s j)=true)/\jS s=false)))
def arity(n:Nd):Int:=if n.kind=3∨n.kind=6 then 1 else if n.kind=4 then n.val else if n.kind=7∨n.kind=8∨n.kind=9 then 2 else 0
def aD(n:Nd):Bool:=
 if n.kind=1 then decide (-2147483648<=n.val/\n.val<=2147483647)&&n.name.toList == []
 else if n.kind=2∨n.kind=3 then decide (n.val=0)&&aY n.name
 else if n.kind=4 then decide (0<=n.val/\n.val<=6)&&aY n.name
 else if n.kind=6 then decide (0<=n.val/\n.val<=2)&&n.name.toList == []
 else if n.kind=7 then decide (0<=n.val/\n.val<=15)&&n.name.toList == []
 else if n.kind=5∨n.kind=8∨n.kind=9 then decide (n.val=0)&&n.name.toList == []
 else false
theorem dA{n:Nd}(h:aD n=true):0<=arity n/\arity n<=6:=by
 unfold aD at h;unfold arity;by_cases h4:n.kind=4
 ·simp[h4]at h⊢;omega
 ·split <;> (try split) <;> (try split) <;> omega
def wholeTo:List Nd->Int->Option Int
 | [],k=>some k
 | n::r,k=>if aD n=true/\arity n<=k then wholeTo r (k+1-arity n)else none
def aP(e:List Nd):Bool:=wholeTo e 0 == some 1
theorem fJ{n:Nd}(h:aD n=true):1<=n.kind/\n.kind<=9:=by
 by_cases hk:n.kind<1∨9<n.kind
 ·unfold aD at h;rw[if_neg o_,if_neg o_,if_neg o_,if_neg o_,if_neg o_,if_neg o_]at h;cases h
 ·omega
theorem wholeTo_append(a b:List Nd)(k:Int):wholeTo (a++b) k=(wholeTo a k).bind (wholeTo b):=by
 induction a generalizing k with
 | nil=>rfl
 | cons n r ih=>
  simp only[List.cons_append,wholeTo];split
  ·exact ih _
  ·rfl
theorem lx(a:List Nd)(k q:Int)(h:wholeTo a k=some q)(I:0<=k):0<=q/\q<=k+a.length:=by
 induction a generalizing k with
 | nil=>simp only[wholeTo,Option.some.injEq]at h;subst h;simp;omega
 | cons n r ih=>
  simp only[wholeTo]at h;split at h
  ·rename_i hn;have:=dA hn.1
   have:=ih _ h o_
   simp only[l_c];omega
  ·cases h
theorem aR{α:Type}(l:List α)(k:Nat)(h:k<l.length):l.take (k+1)=l.take k++[l[k]]:=by
 rw[List.take_succ_eq_append_getElem h]
theorem ew(l:List Nd)(k:Nat)(q:Int)(h:k<l.length)(I:wholeTo (l.take k) 0=some q):
  wholeTo (l.take (k+1)) 0=if aD l[k]=true/\arity l[k]<=q then some (q+1-arity l[k])else none:=by
 rw[aR l k h,wholeTo_append,I];simp[wholeTo]
theorem mV(l:List Nd)(k:Nat)(h:wholeTo (l.take k) 0=none):aP l=false:=by
 have:wholeTo l 0=none:=by
  rw[<-List.take_append_drop k l,wholeTo_append,h];rfl
 simp[aP,this]
theorem uG(l:List Nd)(q:Int)(h:wholeTo (l.take l.length) 0=some q):aP l=(q == 1):=by
 rw[List.take_length]at h;simp only[aP,h];apply Bool.eq_iff_iff.2;simp
end
section
open Go.RowKit
namespace Ap
theorem dQ(a:Int): -2147483648<=wrap32 a/\wrap32 a<=2147483647:=by unfold wrap32;omega
theorem w32_id(a:Int)(h: -2147483648<=a/\a<=2147483647):wrap32 a=a:=by unfold wrap32;omega
theorem rJ(a:Int):wrap32 (wrap64 a)=wrap32 a:=by unfold wrap32 wrap64;omega
theorem iK(x:Int)(h: -2147483648<=x/\x<=2147483647):BitVec.ofInt 64 x=(BitVec.ofInt 32 x).signExtend 64:=by
 apply BitVec.eq_of_toInt_eq;rw[BitVec.toInt_signExtend_of_le d_,BitVec.toInt_ofInt,BitVec.toInt_ofInt];rw[Int.bmod_eq_of_le o_ o_,Int.bmod_eq_of_le o_ o_]
theorem wrap_toNat32(v:BitVec 32):IntKind.i32.wrap (v.toNat:Int)=v.toInt:=by
 have:=v.isLt
 rw[IntKind.wrap_i32,BitVec.toInt_eq_toNat_cond];split <;> omega
theorem wrap_toNat64(v:BitVec 64):IntKind.i64.wrap (v.toNat:Int)=v.toInt:=by
 have:=v.isLt
 rw[IntKind.wrap_i64,BitVec.toInt_eq_toNat_cond];split <;> omega
theorem ly(x y:Int)(h: -2147483648<=x/\x<=2147483647)(I: -2147483648<=y/\y<=2147483647):bits .and .i64 x y=bits .and .i32 x y:=by
 show IntKind.i64.wrap ((BitVec.ofInt 64 x &&& BitVec.ofInt 64 y).toNat:Int)=IntKind.i32.wrap ((BitVec.ofInt 32 x &&& BitVec.ofInt 32 y).toNat:Int);rw[wrap_toNat32,wrap_toNat64,iK x h,iK y I,<-BitVec.signExtend_and,BitVec.toInt_signExtend_of_le d_]
theorem oJ(x y:Int)(h: -2147483648<=x/\x<=2147483647)(I: -2147483648<=y/\y<=2147483647):bits .or .i64 x y=bits .or .i32 x y:=by
 show IntKind.i64.wrap ((BitVec.ofInt 64 x ||| BitVec.ofInt 64 y).toNat:Int)=IntKind.i32.wrap ((BitVec.ofInt 32 x ||| BitVec.ofInt 32 y).toNat:Int);rw[wrap_toNat32,wrap_toNat64,iK x h,iK y I,<-BitVec.signExtend_or,BitVec.toInt_signExtend_of_le d_]
theorem bits_xor(x y:Int)(h: -2147483648<=x/\x<=2147483647)(I: -2147483648<=y/\y<=2147483647):bits .xor .i64 x y=bits .xor .i32 x y:=by
 show IntKind.i64.wrap ((BitVec.ofInt 64 x ^^^ BitVec.ofInt 64 y).toNat:Int)=IntKind.i32.wrap ((BitVec.ofInt 32 x ^^^ BitVec.ofInt 32 y).toNat:Int);rw[wrap_toNat32,wrap_toNat64,iK x h,iK y I,<-BitVec.signExtend_xor,BitVec.toInt_signExtend_of_le d_]
theorem iL(h:BinOp)(x y:Int): -2147483648<=bits h .i32 x y/\bits h .i32 x y<=2147483647:=by
 unfold bits;dsimp only;rw[IntKind.wrap_i32];omega
theorem A_(x y:Int)(I: -2147483648<=x/\x<=2147483647): -2147483648<=x.tdiv y/\x.tdiv y<=2147483648:=by
 have h:(x.tdiv y).natAbs<=x.natAbs:=by rw[Int.natAbs_tdiv];exact Nat.div_le_self _ _
 omega
theorem tG(x y:Int)(I: -2147483648<=x/\x<=2147483647): -2147483648<=x.tmod y/\x.tmod y<=2147483647:=by
 have h:(x.tmod y).natAbs<=x.natAbs:=by rw[Int.natAbs_tmod];exact Nat.mod_le _ _
 rcases Int.le_total 0 x with h0|h0
 ·have:=Int.tmod_nonneg y h0;omega
 ·obtain⟨z,rfl⟩:∃z,x= -z:=⟨-x,o_⟩;rw[Int.neg_tmod]at*;have:=Int.tmod_nonneg y (show 0<=z by omega);omega
theorem CF(x y:Int)(I: -2147483648<=x/\x<=2147483647)(J: -2147483648<=y/\y<=2147483647): -4611686018427387904<=x*y/\x*y<=4611686018427387904:=by
 have h:(x*y).natAbs<=2147483648*2147483648:=by rw[Int.natAbs_mul];exact Nat.mul_le_mul o_ o_
 omega
theorem CG(y:Int):(y.tmod 32+32)%32=y%32:=by
 rcases Int.le_total 0 y with h|h
 ·rw[Int.tmod_eq_emod_of_nonneg h];omega
 ·obtain⟨z,rfl⟩:∃z,y= -z:=⟨-y,o_⟩;rw[Int.neg_tmod,Int.tmod_eq_emod_of_nonneg o_];omega
theorem iM(y:Int): -31<=y.tmod 32/\y.tmod 32<=31:=by
 have h:(y.tmod 32).natAbs<=31:=by rw[Int.natAbs_tmod];have:=Nat.mod_lt y.natAbs (show 0<(32:Int).natAbs by decide);simp at*;omega
 omega
theorem w64_32(z:Int):wrap64 (wrap32 z)=wrap32 z:=by unfold wrap32 wrap64;omega
theorem uH(y:Int):y.tmod 32%32=y%32:=by have:=CG y;omega
theorem oK(x:Int)(n:Nat)(I: -2147483648<=x/\x<=2147483647):wrap64 (x / 2 ^ n)=x / 2 ^ n:=by
 have h:=Int.natAbs_ediv_le_natAbs x (2 ^ n);unfold wrap64;omega
theorem ret_intA{k:IntKind}{a b:Int}(h:a=b):Ending.returned (.int k a)=rW (.int k b):=by rw[h]
end Ap
end
section
open Go.RowKit
variable{S T:Nat->Prop}{a b c w w':World}
structure ak (S:Nat->Prop) (W w':World):Prop where
 os:w'.os=W.os
 tape:w'.tape=W.tape
 output:w'.output=W.output
 size:W.heap.size<=w'.heap.size
 block:∀k,k<W.heap.size->¬S k->w'.heap[k]? =W.heap[k]?
theorem ak.refl(S:Nat->Prop)(W:World):ak S W W:=⟨rfl,rfl,rfl,n_,λ_ _ _=>rfl⟩
theorem ak.trans(h:ak S a b)(k:ak S b c):ak S a c:=
 ⟨k.os.trans h.os,k.tape.trans h.tape,k.output.trans h.output,t_ h.size k.size,λi hi hg=>(k.block i (l_ hi h.size) hg).trans (h.block i hi hg)⟩
theorem ak.next(h:ak S a b)(k:ak T b c)(hT:∀x,T x->S x∨a.heap.size<=x):ak S a c:=
 ⟨k.os.trans h.os,k.tape.trans h.tape,k.output.trans h.output,t_ h.size k.size,λi hi hg=>(k.block i (l_ hi h.size) (λt=>by rcases hT i t with x|x;exact hg x;omega)).trans (h.block i hi hg)⟩
theorem ak.mono(h:ak S a b)(hs:∀k,S k->T k):ak T a b:=
 ⟨h.os,h.tape,h.output,h.size,λk hk hn=>h.block k hk λs=>hn (hs k s)⟩
theorem ak.drew(h:ak S a w):ak S a w.drew:=h.trans ⟨rfl,rfl,rfl,n_,λ_ _ _=>rfl⟩
theorem ak.setCell(h:ak S a w){p:Addr}(hp:S p.block)(u:Value):ak S a (w.setCell p u):=
 h.trans ⟨rfl,rfl,rfl,i_,λk _ hk=>Below.heap_setCell w p u k λe=>hk (e ▸ hp)⟩
theorem ak.alloc(h:ak S a w)(o:Obj):ak S a (w.alloc o):=
 h.trans ⟨rfl,rfl,rfl,i_,λk hk _=>Below.heap_alloc w o k hk⟩
theorem ak.of_below(h:ak S a w)(hb:Below w.heap.size w w'):ak S a w':=
 h.trans ⟨hb.os,hb.tape,hb.output,hb.size,λk hk _=>hb.block k hk⟩
theorem ak.below{B:Nat}(h:ak S w w')(hb:Below B a w)(hB:B<=w.heap.size)(hg:∀k,S k->B<=k):Below B a w':=
 ⟨h.os.trans hb.os,h.tape.trans hb.tape,h.output.trans hb.output,t_ hb.size h.size,λk hk=>(h.block k o_ (λs=>by have:=hg k s;omega)).trans (hb.block k hk)⟩
theorem ak.of_grown{row:Option Nat}(hg:a.grownBy w row)(hr:∀k,row=some k->S k):ak S a w:=
 ⟨hg.os,hg.tape,hg.output,hg.size,λk hk hn=>hg.block k hk (λe=>hn (hr k e.symm))⟩
theorem _root_.Go.RowKit.Below.tcs(h:Below a.heap.size a w):ak S a w:=⟨h.os,h.tape,h.output,h.size,λk hk _=>h.block k hk⟩
end
section
open Go.RowKit
section
variable{P:Program}{w:World}
theorem fM(base:Nat)(t Z e:TypeId)(i:TypeInfo)(z:Value)(size bytes:Nat)(ht:P.underlying t=some (.slice e))(hi:P.info? e=some i)(hz:i.zero=some z)
  (U:i.size=size) (Jk:i.bytes=bytes) (Jp:z.cells.size=size) (Jo:0<size)
  (v:Value) (n:Nat) (J:List Value) (Je:w.ownsRow base e size v n J)
  (a:Addr) (m c:Nat) (h:List Value) (Y:h.length=m*size) (Jc:∀j u,h[j]? =some u->w.cell? (a.add j)=some u) (h1:∀u∈h,u.oneCell'=true)
  (hm:n+m<=10000000) (Jr:bytes<=1000) (Jh:base<=w.heap.size):
  ∃v' w',(Builtin.append_ #[t,t] Z #[v,.slice (some a) m c]).run P w=.ok v' w'/\w'.ownsRow base e size v' (n+m) (J++h)/\w.grownBy w' v.ownBlock/\∀k,v'.ownBlock=some k->v.ownBlock=some k∨w.heap.size<=k:=by
 have Jd:(n+m)*bytes<=140737488355328:=by
  have:(n+m)*bytes<=10000000*1000:=Nat.mul_le_mul hm Jr
  omega
 have Jl:n+m<=maxLen:=by unfold maxLen;omega
 obtain⟨v',w',r1,r2,r3,r4⟩:=run_append_own (P:=P) w base t Z e i z size bytes ht hi hz U Jk Jp Jo v n J Je a m c h Y Jc h1 Jl Jd Jh;refine⟨v',w',r1,r2,r3,λk hk=>?_⟩;have Jf:=Je;rcases Je.2 with⟨rfl,rfl⟩|⟨g,Ji,Jm,rfl,Jt,hg,Ju,Js,Jq,Jn⟩
 ·have hx:J=[]:=List.eq_nil_of_length_eq_zero (by have:=Je.1;simpa using this);subst hx;obtain⟨v2,w2,g1,g2,_⟩:=run_append_own (P:=P) w w.heap.size t Z e i z size bytes ht hi hz U Jk Jp Jo nV 0 [] (World.ownsRow_nil _ _ _ _) a m c h Y Jc h1 Jl Jd n_;rw[r1]at g1;simp only[Result.ok.injEq]at g1;obtain⟨rfl,rfl⟩:=g1;exact .inr (g2.lt k hk).1
 ·by_cases hroom:n+m<=Ji
  ·have Jj:n*i.size+h.length<=Jm.size:=by
    rw[U,Y,Jq,<-Nat.add_mul];exact Nat.mul_le_mul_right _ hroom
   have I:=run_append_room (P:=P) w t Z e i ht hi g n Ji Jm hg a m c h (by rw[U];exact Y) Jc h1 hroom Jj;rw[r1]at I;simp only[Result.ok.injEq]at I;obtain⟨rfl,rfl⟩:=I;exact .inl hk
  ·have Jg:∀j u,J[j]? =some u->w.cell? ((⟨g,0,none⟩:Addr).add j)=some u:=Jf.cells (g:=g) rfl;have I:=run_append_grow (P:=P) w t Z e i z ht hi hz ⟨g,0,none⟩ n Ji J (by rw[U];exact Jf.1) Jg a m c h (by rw[U];exact Y) Jc o_ o_ (by rw[Jk];exact growslice_fits o_ o_);rw[r1]at I;simp only[Result.ok.injEq]at I;obtain⟨rfl,rfl⟩:=I;simp only[Value.ownBlock,Option.some.injEq]at hk;exact .inr o_
theorem cD{ops:Array Oper}{Y:List Oper}{o:Oper}{a:Act}{Q:Exit->Act->World->Prop}(Jg:o.guard=none)(s x:Operand)(t:TypeId)
  (ho:o.op=.call {callee:=.builtin .append,args:=#[s,x],argTypes:=#[t,t]})
  (base:Nat) (e:TypeId) (i:TypeInfo) (z:Value) (size bytes:Nat) (ht:P.underlying t=some (.slice e)) (hi:P.info? e=some i) (hz:i.zero=some z)
  (Jb:i.size=size) (Jj:i.bytes=bytes) (Jk:z.cells.size=size) (Jh:0<size)
  (v:Value) (n:Nat) (U:List Value) (hs:a.eval s=v) (Jf:w.ownsRow base e size v n U)
  (J:Addr) (m c:Nat) (I:List Value) (hx:a.eval x=.slice (some J) m c) (hl:I.length=m*size) (Jd:∀j u,I[j]? =some u->w.cell? (J.add j)=some u) (h1:∀u∈I,u.oneCell'=true)
  (hm:n+m<=10000000) (Ji:bytes<=1000) (Jc:base<=w.heap.size)
  (h:∀v' w',w'.ownsRow base e size v' (n+m) (U++I)->w.grownBy w' v.ownBlock->(∀k,v'.ownBlock=some k->v.ownBlock=some k∨w.heap.size<=k)->wpList P ops Q Y (a.put o.dst v') w'):wpList P ops Q (o::Y) a w:=by
 refine wpList_plain Jg λK hK=>?_;obtain⟨v',w',Z,h2,h3,h4⟩:=fM (P:=P) (w:=w) base t o.type e i z size bytes ht hi hz Jb Jj Jk Jh v n U Jf J m c I hl Jd h1 hm Ji Jc;unfold Oper.wp execOp;simp only[ho,resolve,invoke,builtin,Sem.run_bind,Sem.run_pure,Result.andThen_ok,List.map_toArray,List.map_cons,List.map_nil,hs,hx,Z];exact hK _ _ (h v' w' h2 h3 h4)
end
end
theorem xC(s:ByteArray)(n:Nat):∀i r,s.size-i=n->ByteArray.toList.loop s i r=[]->r=[]:=by
 induction n with
 | zero=>
  intro i r I h;rw[ByteArray.toList.loop,if_neg o_]at h;simpa using h
 | succ n ih=>
  intro i r I h;rw[ByteArray.toList.loop,if_pos o_]at h;have:=ih (i+1) _ o_ h;simp at this
theorem xD{s:ByteArray}(h:s.toList=[]):s.size=0:=by
 rcases Nat.eq_zero_or_pos s.size with I|hp
 ·exact I
 ·rw[ByteArray.toList,ByteArray.toList.loop,if_pos hp]at h;have:=xC s _ _ _ rfl h
  simp at this
theorem pW{n:Nd}(h:aD n=true):n.name.size<=20:=by
 have U:∀s,aY s=true->s.size<=20:=by
  intro s J;have:lu s:=by simpa[aY]using J
  exact this.2.1
 have I:n.name.toList=[]->n.name.size<=20:=by
  intro h;rw[xD h];decide
 unfold aD at h;split at h <;> (try split at h) <;> (try split at h) <;> (try split at h) <;> (try split at h) <;> (try split at h) <;> simp at h;all_goals first|exact U _ h.2|exact I h.2|(apply I;simp[h.2])
section
variable{l:List Nd}
def defc:List Nd->Int
 | []=>1
 | n::r=>defc r+arity n-1
def ey(l:List Nd):Prop:=∀n∈l,aD n=true
theorem kw(l:List Nd)(U:ey l)(k:Int):wholeTo l k=some 1↔defc l=k/\∀j,1<=j->j<=l.length->1<=defc (l.drop j):=by
 induction l generalizing k with
 | nil=>
  simp only[wholeTo,Option.some.injEq,defc,l_n,List.drop_nil];constructor
  ·rintro rfl;exact⟨rfl,λj _ _=>Int.le_refl _⟩
  ·rintro⟨rfl,_⟩;rfl
 | cons n r ih=>
  have Z:aD n=true:=U n i_;have Y:=ih (λm hm=>U m (by simp[hm]));simp only[wholeTo,Z,true_and];by_cases ha:arity n<=k
  ·rw[if_pos ha,Y,defc];constructor
   ·rintro⟨J,h2⟩;refine⟨o_,λj hj1 hj2=>?_⟩;obtain⟨I,rfl⟩:∃I,j=I+1:=⟨j-1,o_⟩;rw[List.drop_succ_cons];rcases Nat.eq_zero_or_pos I with rfl|hp
    ·rw[List.drop_zero];omega
    ·exact h2 I hp (by simpa using hj2)
   ·rintro⟨J,h2⟩;refine⟨o_,λj hj1 hj2=>?_⟩;have:=h2 (j+1) o_ (by simpa using hj2)
    rwa[List.drop_succ_cons]at this
  ·rw[if_neg ha];constructor
   ·intro h;cases h
   ·rintro⟨J,h2⟩;exfalso
    have:=h2 1 n_ i_
    simp only[List.drop_succ_cons,List.drop_zero]at this;simp only[defc]at J;omega
theorem jn(l:List Nd)(k q:Int)(h:wholeTo l k=some q):ey l:=by
 induction l generalizing k with
 | nil=>intro n hn;cases hn
 | cons m r ih=>
  simp only[wholeTo]at h;split at h
  ·rename_i hm;intro n hn;rcases List.mem_cons.1 hn with rfl|hn
   ·exact hm.1
   ·exact ih _ h n hn
  ·cases h
theorem gY(l:List Nd):aP l=true↔ey l/\defc l=0/\∀j,1<=j->j<=l.length->1<=defc (l.drop j):=by
 constructor
 ·intro h;have J:wholeTo l 0=some 1:=by simpa[aP]using h
  have I:=jn l 0 1 J;exact⟨I,(kw l I 0).1 J⟩
 ·rintro⟨I,h⟩;have:=(kw l I 0).2 h
  simp[aP,this]
def xE(l:List Nd)(r:Int):Prop:=
 (∃i:Nat,r=i/\i<l.length/\defc (l.drop i)=0/\∀j,i<j->j<=l.length->1<=defc (l.drop j))∨(r= -1/\∀j,j<=l.length->1<=defc (l.drop j))
theorem uI{r:Int}(U:ey l)(h:xE l r):(r == 0)=aP l:=by
 apply Bool.eq_iff_iff.2;rw[gY];simp only[beq_iff_eq];rcases h with⟨i,rfl,Y,J,I⟩|⟨rfl,I⟩
 ·constructor
  ·intro h;obtain rfl:i=0:=by omega
   exact⟨U,by simpa using J,λj h1 h2=>I j o_ h2⟩
  ·rintro⟨_,_,h⟩;rcases Nat.eq_zero_or_pos i with rfl|hp
   ·rfl
   ·have:=h i hp o_;omega
 ·constructor
  ·intro h;omega
  ·rintro⟨_,h,_⟩;have:=I 0 y_
   rw[List.drop_zero]at this;omega
theorem uJ(l:List Nd)(i:Nat)(h:i<l.length):defc (l.drop i)=defc (l.drop (i+1))+arity l[i]-1:=by
 rw[List.drop_eq_getElem_cons h,defc]
theorem A0(l:List Nd)(h:ey l):defc l<=1+6*l.length:=by
 induction l with
 | nil=>simp[defc]
 | cons n r ih=>
  have:=ih (λm hm=>h m (by simp[hm]))
  have:=dA (h n i_)
  simp only[defc,l_c];omega
theorem oL(hg:ey l)(i:Nat):ey (l.drop i):=λn hn=>hg n (List.mem_of_mem_drop hn)
end
section
variable{e:List Nd}
def rK(ns:List Nd)(k i:Nat):Prop:=i<k/\defc ((ns.take k).drop i)=0/\∀j,i<j->j<=k->1<=defc ((ns.take k).drop j)
theorem rL(l:List Nd)(k q:Int)(h:wholeTo l k=some q):defc l=1+k-q:=by
 induction l generalizing k with
 | nil=>simp only[wholeTo,Option.some.injEq]at h;subst h;simp[defc]
 | cons n r ih=>
  simp only[wholeTo]at h;split at h
  ·have:=ih _ h
   simp only[defc];omega
  ·cases h
theorem eV(l:List Nd)(k q:Int)(h:wholeTo l k=some q)(j:Nat):∃p,wholeTo (l.take j) k=some p/\wholeTo (l.drop j) p=some q:=by
 rw[<-List.take_append_drop j l,wholeTo_append]at h;cases e:wholeTo (l.take j) k with
 | none=>rw[e]at h;cases h
 | some p=>rw[e]at h;exact⟨p,rfl,h⟩
theorem uK(l:List Nd)(q:Int)(U:0<l.length)(h:wholeTo l 0=some q):1<=q:=by
 obtain⟨m,I⟩:∃m,l.length=m+1:=⟨l.length-1,o_⟩;obtain⟨p,J,h2⟩:=eV l 0 q h m;have:=ew l m p o_ J;rw[<-I,List.take_length,h]at this;split at this
 ·rename_i hh;simp only[Option.some.injEq]at this;omega
 ·cases this
theorem uL(l:List Nd)(p:Int)(h:wholeTo l 0=some p)(m:Nat)(Y:l.length=m+1)(i:Nat)(U:i<l.length)(a:Int)(J:wholeTo (l.take i) 0=some a):∃c,wholeTo (l.take (i+1)) 0=some c/\c<=a+1:=by
 obtain⟨c,I,h2⟩:=eV l 0 p h (i+1);have:=ew l i a U J;rw[I]at this;split at this
 ·rename_i hh;have:=dA hh.1
  simp only[Option.some.injEq]at*;exact⟨c,I,o_⟩
 ·cases this
theorem uM(l:List Nd)(c:Int)(hc:0<=c)(h:wholeTo l 0=some (c+1)):∃i,i<l.length/\wholeTo (l.take i) 0=some c/\∀j,i<j->j<=l.length->∃p,wholeTo (l.take j) 0=some p/\c+1<=p:=by
 have hl:0<l.length:=by
  cases l with
  | nil=>simp only[wholeTo,Option.some.injEq]at h;omega
  | cons=>simp
 obtain⟨m,Y⟩:∃m,l.length=m+1:=⟨l.length-1,o_⟩;have Z:∀d,d<=l.length->(∃i,l.length-d<=i/\i<l.length/\wholeTo (l.take i) 0=some c/\∀j,i<j->j<=l.length->∃p,wholeTo (l.take j) 0=some p/\c+1<=p)∨(∀j,l.length-d<=j->j<=l.length->∃p,wholeTo (l.take j) 0=some p/\c+1<=p):=by
  intro d;induction d with
  | zero=>
   intro _;refine .inr λj I h2=>?_;obtain rfl:j=l.length:=by omega
   rw[List.take_length];exact⟨_,h,Int.le_refl _⟩
  | succ d ih=>
   intro hd;rcases ih o_ with⟨i,I,h2⟩|hall
   ·exact .inl ⟨i,o_,h2⟩
   ·obtain⟨a,U,_⟩:=eV l 0 _ h (l.length-(d+1));obtain⟨c',I,h2⟩:=uL l _ h m Y (l.length-(d+1)) o_ a U;obtain⟨p,J,Jb⟩:=hall (l.length-(d+1)+1) o_ o_;rw[I]at J;simp only[Option.some.injEq]at J;by_cases e:a=c
    ·subst e;exact .inl ⟨_,n_,o_,U,λj h3 h4=>hall j o_ h4⟩
    ·refine .inr λj h3 h4=>?_;by_cases e2:j=l.length-(d+1)
     ·subst e2;exact⟨a,U,o_⟩
     ·exact hall j o_ h4
 rcases Z l.length n_ with⟨i,_,I⟩|hall
 ·exact⟨i,I⟩
 ·obtain⟨p,J,Jb⟩:=hall 0 o_ o_;simp only[List.take_zero,wholeTo,Option.some.injEq]at J;omega
theorem uN(e:List Nd)(k:Nat)(c:Int)(hk:k<=e.length)(hc:0<=c)(h:wholeTo (e.take k) 0=some (c+1)):
  ∃i,rK e k i/\wholeTo (e.take i) 0=some c/\aP ((e.take k).drop i)=true:=by
 have Ja:(e.take k).length=k:=by simp;omega
 obtain⟨i,h1,h2,h3⟩:=uM (e.take k) c hc h;rw[Ja]at h1 h3;have Z:∀j,j<=k->∀p,wholeTo ((e.take k).take j) 0=some p->defc ((e.take k).drop j)=p-c:=by
  intro j hj p U;obtain⟨p',J,I⟩:=eV (e.take k) 0 _ h j;rw[U]at J;simp only[Option.some.injEq]at J;subst J;have:=rL _ _ _ I;omega
 have Y:rK e k i:=by
  refine⟨h1,?_,λj J I=>?_⟩
  ·rw[Z i o_ c h2];omega
  ·obtain⟨p,U,Jb⟩:=h3 j J I;rw[Z j I p U];omega
 refine⟨i,Y,?_,?_⟩
 ·rw[List.take_take,Nat.min_eq_left o_]at h2;exact h2
 ·rw[gY];refine⟨λn hn=>jn _ _ _ h n (List.mem_of_mem_drop hn),Y.2.1,λj J I=>?_⟩;rw[List.drop_drop];simp only[List.length_drop,Ja]at I;exact Y.2.2 (i+j) o_ o_
def F8:Nd:=⟨1,0,⟨#[]⟩⟩
def aB(e:List Nd):Nd:=e.getD (e.length-1) F8
structure Cut (e:List Nd) (A:Nat) (b:Nat->Nat):Prop where
 len:0<e.length
 ar:arity (aB e)=A
 good:ey e
 last:b A=e.length-1
 first:b 0=0
 beg:∀i,i<A->rK e (b (i+1)) (b i)
def kid(e:List Nd)(b:Nat->Nat)(i:Nat):List Nd:=(e.take (b (i+1))).drop (b i)
theorem uO(e:List Nd)(he:0<e.length)(A:Nat):∀k,k<=e.length->wholeTo (e.take k) 0=some (A:Int)->∃b:Nat->Nat,b A=k/\b 0=0/\∀i,i<A->rK e (b (i+1)) (b i)/\aP (kid e b i)=true:=by
 induction A with
 | zero=>
  intro k I h;refine⟨λ_=>0,?_,rfl,λi hi=>absurd hi o_⟩;rcases Nat.eq_zero_or_pos k with rfl|hp
  ·rfl
  ·have:=uK (e.take k) _ (by simp;omega) h
   omega
 | succ A ih=>
  intro k I h;obtain⟨i,J,h2,h3⟩:=uN e k A I o_ (by rw[h];rfl);obtain⟨b,Y,U,Z⟩:=ih i (by have:=J.1;omega) h2;refine⟨λj=>if j=A+1 then k else b j,i_,by simp[U],λj hj=>?_⟩;by_cases e1:j=A
  ·subst e1;simp only[kid,if_true,Nat.succ_ne_self,if_neg (show ¬j=j+1 by omega),Y];exact⟨J,h3⟩
  ·have:=Z j o_
   simp only[kid,if_neg (show ¬j=A+1 by omega),if_neg (show ¬j+1=A+1 by omega)];exact this
theorem eF(e:List Nd)(h:0<e.length):aB e=e[e.length-1]'(by omega):=by
 simp[aB,List.getD,List.getElem?_eq_getElem (show e.length-1<e.length by omega)]
theorem jo(h:aP e=true):0<e.length:=by
 cases e with
 | nil=>simp[aP,wholeTo]at h
 | cons=>simp
theorem jq(h:aP e=true):ey e:=((gY e).1 h).1
theorem xG(h:aP e=true):aD (aB e)=true:=by
 rw[eF e (jo h)];exact jq h _ (g_ _)
theorem gZ(h:aP e=true):∃A b,Cut e A b/\∀i,i<A->aP (kid e b i)=true:=by
 have I:=jo h;have U:wholeTo e 0=some 1:=by simpa[aP]using h
 obtain⟨q,Y,h2⟩:=eV e 0 1 U (e.length-1);have J:=ew e (e.length-1) q o_ Y;rw[show e.length-1+1=e.length by omega,List.take_length,U]at J;split at J
 ·simp only[Option.some.injEq]at J;have hb:=dA (xG h);rw[eF e I]at hb;obtain⟨A,hA⟩:∃A:Nat,q=A:=⟨q.toNat,o_⟩;subst hA;obtain⟨b,g1,g2,Z⟩:=uO e I A (e.length-1) o_ Y;exact⟨A,b,⟨I,by rw[eF e I];omega,jq h,g1,g2,λi hi=>(Z i hi).1⟩,λi hi=>(Z i hi).2⟩
 ·cases J
end
section
open Go.RowKit
variable{w w':World}{g:Nat}{xs:List Value}
def aK(w:World)(g:Nat)(xs:List Value):Prop:=∀j x,xs[j]? =some x->w.cell? ⟨g,j,none⟩=some x/\w.frozen? ⟨g,j,none⟩=false
theorem aK.set(h:aK w g xs)(i:Nat)(u:Value):aK (w.setCell ⟨g,i,none⟩ u) g (xs.set i u):=by
 intro j x I;rw[World.frozen?_setCell];by_cases e:i=j
 ·subst e;have J:=(List.getElem?_eq_some_iff.1 I).1;rw[List.length_set]at J;rw[List.getElem?_set_self J]at I;obtain⟨c,f⟩:=h i xs[i] (List.getElem?_eq_getElem J);refine⟨?_,f⟩;rw[World.cell?_setCell_same _ _ _ c];exact I
 ·rw[List.getElem?_set_ne e]at I;obtain⟨c,f⟩:=h j x I;refine⟨?_,f⟩;rw[s_ _ _ _ _ (by intro h;simp only[Addr.mk.injEq]at h;omega)];exact c
theorem aK.keep(h:aK w g xs)(e:w'.heap[g]? =w.heap[g]?):aK w' g xs:=λj x hx=>by
 obtain⟨c,f⟩:=h j x hx;exact⟨(c_ (a:=⟨g,j,none⟩) e).trans c,(World.frozen?_of_block (a:=⟨g,j,none⟩) e).trans f⟩
theorem aK.below(h:aK w g xs)(hb:Below w.heap.size w w'):aK w' g xs:=λj x hx=>by
 obtain⟨c,f⟩:=h j x hx;have hlt:=b_ c;exact⟨(hb.cell (p:=⟨g,j,none⟩) hlt).trans c,(hb.frozen (p:=⟨g,j,none⟩) hlt).trans f⟩
theorem aK.tcs{S:Nat->Prop}(h:aK w g xs)(hl:g<w.heap.size)(ht:ak S w w')(hn:¬S g):aK w' g xs:=h.keep (ht.block g hl hn)
theorem aH(w:World)(cs:Array Value)(t:TypeId)(Z:cs.size<=1000):aK (w.alloc (.cells cs t)) w.heap.size cs.toList:=by
 intro j x J;have h:(w.alloc (.cells cs t)).ownsRow w.heap.size t 1 (rV w.heap.size cs.size cs.size) cs.size cs.toList:=World.ownsRow_lit w cs cs.size n_ (by unfold maxLen;omega) o_;have I:=World.ownsRow.cells h (g:=w.heap.size) rfl j x J;have e:(⟨w.heap.size,0,none⟩:Addr).add j=⟨w.heap.size,j,none⟩:=by
  simp[Addr.add];try (intro h;omega)
 rw[e]at I;refine⟨I,?_⟩;rcases h.2 with⟨e,-⟩|⟨g,Y,U,e,h3,h4,h5⟩
 ·simp at e
 ·simp only[Value.slice.injEq,Option.some.injEq,Addr.mk.injEq]at e;obtain⟨⟨rfl,-,-⟩,-,-⟩:=e;unfold World.frozen?;simp only[h4];simp
end
def fN(e:List Nd):Int:=match e[e.length-1]? with|some n=>n.kind|none=>0
def stmtB(s:St):Bool:=
 decide (1<=s.kind/\s.kind<=8)&&(if s.kind<=3 then aY s.name else s.name.toList == [])&&aP s.e&&(if s.kind=3 then aP s.f else s.f.length == 0)&&(decide (s.kind≠8) || fN s.e == 4)&&(decide (s.kind=4∨s.kind=5) || s.thn == 0)&&(decide (s.kind=4) || s.els == 0)
theorem pX{l:List Nd}(h:aP l=true):0<l.length:=by
 cases l with
 | nil=>simp[aP,wholeTo]at h
 | cons n r=>simp
section
variable{e:List Nd}{A:Nat}{b:Nat->Nat}
theorem Cut.le(h:Cut e A b):∀d,d<=A->b (A-d)<=e.length-1:=by
 intro d;induction d with
 | zero=>intro _;rw[Nat.sub_zero,h.last];exact n_
 | succ d ih=>
  intro I;have:=ih o_;have h2:=(h.beg (A-(d+1)) o_).1;rw[show A-(d+1)+1=A-d by omega]at h2;omega
theorem Cut.le'(h:Cut e A b)(i:Nat)(I:i<=A):b i<=e.length-1:=by
 have:=h.le (A-i) o_
 rwa[show A-(A-i)=i by omega]at this
theorem Cut.kid_len(h:Cut e A b)(i:Nat)(I:i<A):(kid e b i).length=b (i+1)-b i:=by
 have:=h.le' (i+1) o_
 simp[kid];omega
theorem Cut.kid_lt(h:Cut e A b)(i:Nat)(I:i<A):(kid e b i).length<e.length:=by
 rw[h.kid_len i I];have:=h.le' (i+1) o_
 have:=h.len
 omega
theorem Cut.root_good(h:Cut e A b):aD (aB e)=true:=by
 rw[eF e h.len];exact h.good _ (g_ _)
theorem Cut.arA(h:Cut e A b):A<=6:=by
 have:=dA h.root_good
 have:=h.ar
 omega
end
def oM:Nat->List St->Bool
 | _,[]=>true
 | 0,_::_=>false
 | n+1,s::r=>decide (0<=s.thn/\s.thn<=r.length/\0<=s.els/\s.els<=r.length-s.thn)&&(oM n (r.take s.thn.toNat)&&(oM n ((r.take (s.thn.toNat+s.els.toNat)).drop s.thn.toNat)&&oM n (r.drop (s.thn.toNat+s.els.toNat))))
def cM(l:List St):Bool:=oM l.length l
theorem lz(n m:Nat)(l:List St)(I:l.length<=n)(h:l.length<=m):oM n l=oM m l:=by
 induction n generalizing m l with
 | zero=>
  have:l=[]:=List.eq_nil_of_length_eq_zero o_
  subst this;cases m <;> rfl
 | succ n ih=>
  cases l with
  | nil=>cases m <;> rfl
  | cons s r=>
   cases m with
   | zero=>simp at h
   | succ m=>
    simp only[l_c]at I h;simp only[oM];rw[ih m (r.take s.thn.toNat) (by simp;omega) (by simp;omega),ih m ((r.take (s.thn.toNat+s.els.toNat)).drop s.thn.toNat) (by simp;omega) (by simp;omega),ih m (r.drop (s.thn.toNat+s.els.toNat)) (by simp;omega) (by simp;omega)]
theorem fitB_cons(s:St)(r:List St):cM (s::r)=(decide (0<=s.thn/\s.thn<=r.length/\0<=s.els/\s.els<=r.length-s.thn)&&(cM (r.take s.thn.toNat)&&(cM ((r.take (s.thn.toNat+s.els.toNat)).drop s.thn.toNat)&&cM (r.drop (s.thn.toNat+s.els.toNat))))):=by
 have h:cM (s::r)=oM (r.length+1) (s::r):=rfl;rw[h];simp only[oM];rw[lz r.length _ (r.take s.thn.toNat) (by simp;omega) n_,lz r.length _ ((r.take (s.thn.toNat+s.els.toNat)).drop s.thn.toNat) (by simp;omega) n_,lz r.length _ (r.drop (s.thn.toNat+s.els.toNat)) i_ n_];rfl
theorem xH(n:Nat):∀l:List St,l.length<=n->cM l=true->∀s∈l,0<=s.thn/\0<=s.els:=by
 induction n with
 | zero=>
  intro l I _ s hs;have:l=[]:=List.eq_nil_of_length_eq_zero o_;subst this;cases hs
 | succ n ih=>
  intro l I h s hs;cases l with
  | nil=>cases hs
  | cons t r=>
   simp only[l_c]at I;rw[fitB_cons]at h;simp only[Bool.and_eq_true,decide_eq_true_eq]at h;obtain⟨J,Y,h2,h3⟩:=h;rcases List.mem_cons.1 hs with rfl|hs
   ·exact⟨J.1,J.2.2.1⟩
   ·have U:r=r.take t.thn.toNat++((r.take (t.thn.toNat+t.els.toNat)).drop t.thn.toNat++r.drop (t.thn.toNat+t.els.toNat)):=by
     rw[<-List.append_assoc];have e:r.take t.thn.toNat++(r.take (t.thn.toNat+t.els.toNat)).drop t.thn.toNat=r.take (t.thn.toNat+t.els.toNat):=by
      have:=List.take_append_drop t.thn.toNat (r.take (t.thn.toNat+t.els.toNat))
      rwa[List.take_take,Nat.min_eq_left o_]at this
     rw[e,List.take_append_drop]
    rw[U]at hs;rcases List.mem_append.1 hs with hs|hs
    ·exact ih _ (by simp;omega) Y s hs
    ·rcases List.mem_append.1 hs with hs|hs
     ·exact ih _ (by simp;omega) h2 s hs
     ·exact ih _ (by simp;omega) h3 s hs
section
open Go.RowKit
variable{e r:List Nd}{A:Nat}{b:Nat->Nat}{F F':Nat->List Nd}
def xJ(v:Int):List Nd:=[⟨1,v,⟨#[]⟩⟩]
def Ch:List Nd->Option Int
 | [n]=>if n.kind=1 then some n.val else none
 | _=>none
def boolN(b:Bool):Int:=if b then 1 else 0
def A1(x:Int):Int:=wrap32 x
def kM(op a:Int):Int:=if op=0 then A1 (-a)else if op=1 then boolN (decide (a=0))else A1 (-1-a)
def xK(e:List Nd):List Nd:=match Ch e with
 | some v=>xJ (boolN (decide (v≠0)))
 | none=>e++[⟨1,0,⟨#[]⟩⟩,⟨7,12,⟨#[]⟩⟩]
def eU(F:Nat->List Nd):Nat->List Nd
 | 0=>[]
 | i+1=>eU F i++F i
def Eb(ap:Int->Int->Int->Int)(n:Nd)(A:Nat)(F:Nat->List Nd):List Nd:=
 if n.kind=6 then(match Ch (F 0)with|some x=>xJ (kM n.val x)|none=>F 0++[n])
 else if n.kind=7 then(match Ch (F 0),Ch (F 1)with|some x,some y=>xJ (ap n.val x y)|_,_=>F 0++F 1++[n])
 else if n.kind=8 then(match Ch (F 0)with|some x=>if x=0 then xJ 0 else xK (F 1)|none=>F 0++F 1++[n])
 else if n.kind=9 then(match Ch (F 0)with|some x=>if x=0 then xK (F 1)else xJ 1|none=>F 0++F 1++[n])
 else eU F A++[n]
theorem xL{I:List Nd}{k i j:Nat}(h:rK I k i)(Y:rK I k j):i=j:=by
 obtain⟨a1,a2,J⟩:=h;obtain⟨Z,b2,U⟩:=Y;rcases Nat.lt_trichotomy i j with h|h|h
 ·have:=J j h o_;omega
 ·exact h
 ·have:=U i h o_;omega
theorem Cut.one{J:Nat}{b':Nat->Nat}(h:Cut e A b)(I:Cut e J b'):A=J/\∀i,i<=A->b i=b' i:=by
 have Z:A=J:=by have:=h.ar;have:=I.ar;omega
 subst Z;refine⟨rfl,?_⟩;have:∀d,d<=A->b (A-d)=b' (A-d):=by
  intro d;induction d with
  | zero=>intro _;rw[Nat.sub_zero,h.last,I.last]
  | succ d ih=>
   intro hd;have Y:=ih o_;have U:=h.beg (A-(d+1)) o_;have h2:=I.beg (A-(d+1)) o_;rw[show A-(d+1)+1=A-d by omega]at U h2;rw[<-Y]at h2;exact xL U h2
 intro i hi;have:=this (A-i) o_
 rwa[show A-(A-i)=i by omega]at this
end
section
variable{l:List St}
def Ci:Nat->List St->Bool
 | _,[]=>false
 | 0,_::_=>false
 | n+1,s::r=>decide (s.kind=6) || Ci n (r.drop (s.thn.toNat+s.els.toNat))
def Ec(l:List St):Bool:=Ci l.length l
end
section
open Go.RowKit
variable{e:List Nd}{T:List (List Nd)}
theorem pY(l:List Nd)(d:Int)(I:0<=d):∀(k q:Int),wholeTo l k=some q->wholeTo l (k+d)=some (q+d):=by
 induction l with
 | nil=>intro k q h;simp only[wholeTo,Option.some.injEq]at*;omega
 | cons n r ih=>
  intro k q h;simp only[wholeTo]at*;split at h
  ·rename_i hh;rw[if_pos ⟨hh.1,o_⟩];have:=ih _ _ h
   rw[show k+d+1-arity n=k+1-arity n+d by omega];exact this
  ·cases h
theorem jT{s:List Nd}(h:aP s=true):wholeTo s 0=some 1:=by simpa[aP]using h
theorem fF(T:List (List Nd))(h:∀s∈T,aP s=true):∀k:Int,0<=k->wholeTo T.flatten k=some (k+T.length):=by
 induction T with
 | nil=>intro k J;simp[wholeTo]
 | cons s T ih=>
  intro k J;rw[List.flatten_cons,wholeTo_append];have I:=pY s k J 0 1 (jT (h s i_));rw[show(0:Int)+k=k by omega]at I;rw[I,Option.bind_some,ih (λs hs=>h s (by simp[hs])) (1+k) o_];simp only[l_c,Option.some.injEq];omega
theorem uP(T:List (List Nd))(i:Nat)(I:i<T.length):T.flatten.take (T.take (i+1)).flatten.length=(T.take i).flatten++T[i]:=by
 have e:T=T.take (i+1)++T.drop (i+1):=(List.take_append_drop _ _).symm;have h:T.flatten=(T.take (i+1)).flatten++(T.drop (i+1)).flatten:=by rw[<-List.flatten_append,<-e]
 rw[h,List.take_left,List.take_add_one,List.flatten_append];simp[List.getElem?_eq_getElem I]
theorem xN(T:List (List Nd))(i:Nat)(h:i<T.length):(T.take (i+1)).flatten.length=(T.take i).flatten.length+T[i].length:=by
 rw[List.take_add_one,List.flatten_append,l_a];simp[List.getElem?_eq_getElem h]
theorem A2(T:List (List Nd))(i:Nat):(T.take i).flatten.length<=T.flatten.length:=by
 have h:T.flatten=(T.take i).flatten++(T.drop i).flatten:=by rw[<-List.flatten_append,List.take_append_drop]
 rw[h,l_a];omega
theorem oN(T:List (List Nd))(n:Nd)(i:Nat)(h:i<T.length):((T.flatten++[n]).take (T.take (i+1)).flatten.length).drop (T.take i).flatten.length=T[i]:=by
 rw[List.take_append_of_le_length (A2 T _),uP T i h,List.drop_left]
theorem cW(l:List Nd)(n:Nd):aB (l++[n])=n:=by
 simp[aB]
theorem fk(T:List (List Nd))(n:Nd)(I:aD n=true)(J:arity n=T.length)(h:∀s∈T,aP s=true):aP (T.flatten++[n])=true:=by
 have:wholeTo (T.flatten++[n]) 0=some 1:=by
  rw[wholeTo_append,fF T h 0 (Int.le_refl _),Option.bind_some];simp only[wholeTo];rw[if_pos ⟨I,o_⟩];simp only[Option.some.injEq];omega
 simpa[aP]using this
theorem xO(T:List (List Nd))(n:Nd)(U:aD n=true)(J:arity n=T.length)(h:∀s∈T,aP s=true):
  Cut (T.flatten++[n]) T.length (λi=>(T.take i).flatten.length):=by
 refine⟨i_,by rw[cW];exact J,jq (fk T n U J h),i_,i_,λi hi=>?_⟩;have Z:=xN T i hi;have I:=(gY T[i]).1 (h _ (g_ _));have Y:=jo (h _ (g_ hi));refine⟨o_,?_,λj h1 h2=>?_⟩
 ·rw[oN T n i hi];exact I.2.1
 ·have e:((T.flatten++[n]).take (T.take (i+1)).flatten.length).drop j=T[i].drop (j-(T.take i).flatten.length):=by
   rw[<-oN T n i hi,List.drop_drop];congr 1;omega
  rw[e];exact I.2.2 _ o_ o_
theorem uQ(U:aP e=true)(h:∀s∈T,aP s=true){k:Nat}(J:k<e.length)(Y:T.flatten=e.take k):aD e[k]=true/\arity e[k]<=T.length:=by
 have I:=jT U;obtain⟨p,h2,h3⟩:=eV e 0 1 I (k+1);have h4:=fF T h 0 (Int.le_refl _);rw[Y]at h4;have:=ew e k _ J h4;rw[h2]at this;split at this
 ·rename_i hh;exact⟨hh.1,o_⟩
 ·cases this
theorem xP(J:aP e=true)(h:∀s∈T,aP s=true)(I:T.flatten=e):T=[e]:=by
 have h4:=fF T h 0 (Int.le_refl _);rw[I,jT J]at h4;simp only[Option.some.injEq]at h4;have h5:T.length=1:=o_;obtain⟨s,rfl⟩:=List.length_eq_one_iff.1 h5;simp at I;rw[I]
end
section
variable{l:List St}{k:Nat}
def aZ:List St->Nat
 | []=>0
 | s::r=>s.e.length+s.f.length+aZ r
theorem h_(a b:List St):aZ (a++b)=aZ a+aZ b:=by
 induction a with
 | nil=>simp[aZ]
 | cons s r ih=>simp[aZ,ih];omega
theorem jr(l:List St)(k:Nat)(h:k<l.length):aZ (l.take (k+1))=aZ (l.take k)+l[k].e.length+l[k].f.length:=by
 rw[aR l k h,h_];simp[aZ];omega
theorem rM(l:List St)(k:Nat):aZ (l.take k)<=aZ l:=by
 have:=h_ (l.take k) (l.drop k)
 rw[List.take_append_drop]at this;omega
def stmtsB(p:St->Bool)(l:List St):Bool:=decide (aZ l<=2000)&&l.all p
theorem lA{p:St->Bool}(h:2000<aZ (l.take k)):stmtsB p l=false:=by
 have:=rM l k
 simp only[stmtsB,decide_eq_false (show ¬aZ l<=2000 by omega),Bool.false_and]
theorem lB{p:St->Bool}(I:k<l.length)(h:p l[k]=false):stmtsB p l=false:=by
 have:l.all p=false:=by
  rw[List.all_eq_false];exact⟨l[k],g_ I,by simp[h]⟩
 simp[stmtsB,this]
theorem mW{p:St->Bool}(h:aZ l<=2000)(h2:∀s∈l,p s=true):stmtsB p l=true:=by
 have:l.all p=true:=List.all_eq_true.2 h2
 simp[stmtsB,this,h]
theorem tJ{p:ByteArray->Bool}{l:List ByteArray}(I:k<l.length)(h:p l[k]=false):l.all p=false:=by
 rw[List.all_eq_false];exact⟨l[k],g_ I,by simp[h]⟩
def cQ(f:Fu):Bool:=aY f.name&&(decide (f.params.length<=6)&&(decide (f.body.length<=500)&&(f.params.all aY&&(stmtsB stmtB f.body&&cM f.body))))
def bh(s:St):Bool:=stmtB s&&decide (0<=s.thn/\0<=s.els)
theorem rN(l:List St):(stmtsB bh l&&cM l)=(stmtsB stmtB l&&cM l):=by
 cases h:cM l
 ·simp
 ·have J:=xH l.length l n_ h;have:l.all bh=l.all stmtB:=by
   apply Bool.eq_iff_iff.2;rw[List.all_eq_true,List.all_eq_true];constructor
   ·intro h s I;have:=h s I
    simp only[bh,Bool.and_eq_true]at this;exact this.1
   ·intro h s I;simp only[bh,Bool.and_eq_true,decide_eq_true_eq];exact⟨h s I,J s I⟩
  simp only[stmtsB,this]
theorem mK(h:∀s∈l,bh s=true):∀s∈l,0<=s.thn/\0<=s.els:=by
 intro s I;have:=h s I;simp only[bh,Bool.and_eq_true,decide_eq_true_eq]at this;exact this.2
def cY(g:Gl):Bool:=aY g.name&&decide (0<=g.size/\g.size<=4000)
def df(t:Tr):Bool:=decide (t.globals.length<=50)&&(decide (t.funcs.length<=50)&&(t.globals.all cY&&t.funcs.all cQ))
theorem pZ{l:List Gl}(I:k<l.length)(h:cY l[k]=false):l.all cY=false:=by
 rw[List.all_eq_false];exact⟨l[k],g_ I,by simp[h]⟩
theorem p_{l:List Fu}(I:k<l.length)(h:cQ l[k]=false):l.all cQ=false:=by
 rw[List.all_eq_false];exact⟨l[k],g_ I,by simp[h]⟩
def fP(s:St):Prop:=s.e.length<=1048576/\s.f.length<=1048576
def eX(f:Fu):Prop:=f.params.length<=1048576/\f.body.length<=1048576/\∀s∈f.body,fP s
def eZ(t:Tr):Prop:=t.globals.length<=1048576/\t.funcs.length<=1048576/\∀f∈t.funcs,eX f
end
section
variable{α:Type}{left:Int}{n:Nat}
def mX{α:Type}(f:α->Nat):List α->Nat
 | []=>0
 | x::r=>f x+mX f r
def F9(n:Nd):Nat:=n.name.size
def Ed(ns:List Nd):Nat:=ns.length+mX F9 ns
def Fk(s:St):Nat:=s.name.size+Ed s.e+Ed s.f
def Fl(ss:List St):Nat:=ss.length+mX Fk ss
def Fm(ps:List ByteArray):Nat:=ps.length+mX ByteArray.size ps
def Fo(f:Fu):Nat:=f.name.size+Fm f.params+Fl f.body
def Fp(fs:List Fu):Nat:=fs.length+mX Fo fs
def Gb(g:Gl):Nat:=g.name.size
def Fq(gs:List Gl):Nat:=gs.length+mX Gb gs
def Gi(t:Tr):Nat:=Fq t.globals+Fp t.funcs
def Gj(left:Int)(n:Nat):Int:=if (n:Int)<=left then left-n else -1
def Ee(ns:List Nd):Prop:=ns.length<=9223372036854775807/\∀n∈ns,n.name.size<=9223372036854775807
def rO(s:St):Prop:=s.name.size<=9223372036854775807/\Ee s.e/\Ee s.f
def Fr(ss:List St):Prop:=ss.length<=9223372036854775807/\∀s∈ss,rO s
def Fs(ps:List ByteArray):Prop:=ps.length<=9223372036854775807/\∀s∈ps,s.size<=9223372036854775807
def CH(f:Fu):Prop:=f.name.size<=9223372036854775807/\Fs f.params/\Fr f.body
def uR(fs:List Fu):Prop:=fs.length<=9223372036854775807/\∀f∈fs,CH f
def Fv(gs:List Gl):Prop:=gs.length<=9223372036854775807/\∀g∈gs,g.name.size<=9223372036854775807
def xQ(t:Tr):Prop:=Fv t.globals/\uR t.funcs
end
section
/-- What chooses, given to all that wants it; the last theorem gives it. -/
structure Pick : Type 1 where
  get : (α : Type) → Nonempty α → α
set_option linter.unusedSectionVars false
variable [Inhabited Pick]
def pdQ (p : Prop) : Decidable p := (default : Pick).get (Decidable p) ⟨Classical.propDecidable p⟩
end
abbrev AT:=World
abbrev BY:=Value
abbrev D6:=Nat->Prop
abbrev DO(w:World)(b i:Nat)(v:Value):Prop:=w.cell? ⟨b,i,none⟩=some v
abbrev D4(w:World)(b i:Nat):Prop:=w.frozen? ⟨b,i,none⟩=false
open Go.RowKit
theorem _root_.Go.RowKit.Hid.o{p:Prop}(h:Hid p):p:=h
theorem ZFs{p:Prop}(h:p:=by simp;omega):p:=h
theorem FW{p:Prop}(h:p:=by simp[RowKit.intOf];omega):p:=h
theorem Fc{p q:Prop}(h:q)(k:q->p:=by intro h;simpa using h):p:=k h
theorem Ft{p q:Prop}(h:q)(k:q->p:=by intro h;omega):p:=k h
theorem Fw{p q r:Prop}(h:q)(i:r)(k:q->r->p:=by intro h i;omega):p:=k h i
theorem F0{p:Prop}(h:p:=by rfl):p:=h
theorem F3{w W:World}{a b c:Value}(h:Below w.heap.size w W):Below w.heap.size w (((W.setCell ⟨w.heap.size+1,0,none⟩ a).setCell ⟨w.heap.size+1,1,none⟩ b).setCell ⟨w.heap.size+1,2,none⟩ c):=((h.setCell (p:=⟨w.heap.size+1,0,none⟩) i_ _).setCell (p:=⟨w.heap.size+1,1,none⟩) i_ _).setCell (p:=⟨w.heap.size+1,2,none⟩) i_ _
abbrev GA:=ByteArray
abbrev GC:=TypeId
theorem GD{α:Type _}{a b:α}:(some a=some b)=(a=b):=Option.some.injEq a b
theorem GE(a b:Bool):((a&&b)=true)=(a=true∧b=true):=Bool.and_eq_true a b
theorem GF{p:Prop}[Decidable p]:(decide p=true)=p:=decide_eq_true_eq
theorem GG{α:Type _}{l:List α}(h:l.length=0):l=[]:=List.eq_nil_of_length_eq_zero h
theorem GH{α:Type _}{l:List α}{i:Nat}(h:i<l.length):l[i]?=some l[i]:=List.getElem?_eq_getElem h
theorem GJ{α:Type _}{a:α}{s t:List α}:a∈s++t↔a∈s∨a∈t:=List.mem_append
theorem GK{α:Type _}{a:α}{i:Nat}{l:List α}(h:a∈l.drop i):a∈l:=List.mem_of_mem_drop h
theorem GM{α:Type _}{a b:α}:a∈[b]↔a=b:=List.mem_singleton
theorem GN{α β:Type _}{l:List α}(f:α→β):(l.map f).length=l.length:=List.length_map f
theorem GO(w:World)(o:Obj):(w.alloc o).heap.size=w.heap.size+1:=World.size_alloc w o
end Go.Proofs.YtffnkkpmlplfeaaGreatDoor
