import Derived.Test.YtlamjfhhefcohaaGreatDoorP00
namespace Go.Proofs.YtlamjfhhefcohaaGreatDoor
set_option linter.all false
set_option maxRecDepth 100000
set_option maxHeartbeats 16000000
section
structure Nd where
 kind:Int
 val:Int
 name:ByteArray
structure St where
 kind:Int
 name:ByteArray
 e:List Nd
 f:List Nd
 thn:Int
 els:Int
structure Fu where
 name:ByteArray
 params:List ByteArray
 body:List St
structure Gl where
 name:ByteArray
 size:Int
structure Tr where
 globals:List Gl
 funcs:List Fu
def smallB(c:Int):Bool:=decide (97<=c/\c<=122∨c=95)
def digitB(c:Int):Bool:=decide (48<=c/\c<=57)
def de(c:Int):Bool:=smallB c || digitB c
def dZ(s:ByteArray):Bool:=
 s.toList == [105,110,116] || s.toList == [105,102] || s.toList == [101,108,115,101] || s.toList == [119,104,105,108,101] || s.toList == [114,101,116,117,114,110] || s.toList == [105,110] || s.toList == [111,117,116]
def di(s:ByteArray)(k:Nat):Int:=((s.data.toList.getD k 0).toNat:Int)
def mW(s:ByteArray)(k:Nat):Prop:=∀j,j<k->de (di s j)=true
def jm(s:ByteArray):Prop:=1<=s.size/\s.size<=20/\smallB (di s 0)=true/\(∀j,j<s.size->de (di s j)=true)/\dZ s=false
def aK (s : ByteArray) : Bool := @decide (jm s) (inferInstanceAs (Decidable (1<=s.size/\s.size<=20/\smallB (di s 0)=true/\(∀j,j<s.size->de (di s j)=true)/\dZ s=false)))
def arity(n:Nd):Int:=if n.kind=3∨n.kind=6 then 1 else if n.kind=4 then n.val else if n.kind=7∨n.kind=8∨n.kind=9 then 2 else 0
def aB(n:Nd):Bool:=
 if n.kind=1 then decide (-2147483648<=n.val/\n.val<=2147483647)&&n.name.toList == []
 else if n.kind=2∨n.kind=3 then decide (n.val=0)&&aK n.name
 else if n.kind=4 then decide (0<=n.val/\n.val<=6)&&aK n.name
 else if n.kind=6 then decide (0<=n.val/\n.val<=2)&&n.name.toList == []
 else if n.kind=7 then decide (0<=n.val/\n.val<=15)&&n.name.toList == []
 else if n.kind=5∨n.kind=8∨n.kind=9 then decide (n.val=0)&&n.name.toList == []
 else false
theorem dA{n:Nd}(h:aB n=true):0<=arity n/\arity n<=6:=by
 unfold aB at h;unfold arity;by_cases h4:n.kind=4
 ·simp[h4]at h⊢;omega
 ·split <;> (try split) <;> (try split) <;> omega
def wholeTo:List Nd->Int->Option Int
 | [],k=>some k
 | n::r,k=>if aB n=true/\arity n<=k then wholeTo r (k+1-arity n)else none
def bW(e:List Nd):Bool:=wholeTo e 0 == some 1
theorem bL{n:Nd}(h:aB n=true):1<=n.kind/\n.kind<=9:=by
 by_cases hk:n.kind<1∨9<n.kind
 ·unfold aB at h;rw[if_neg o_,if_neg o_,if_neg o_,if_neg o_,if_neg o_,if_neg o_]at h;cases h
 ·omega
theorem wholeTo_append(a b:List Nd)(k:Int):wholeTo (a++b) k=(wholeTo a k).bind (wholeTo b):=by
 induction a generalizing k with
 | nil=>rfl
 | cons n r ih=>
  simp only[List.cons_append,wholeTo];split
  ·exact ih _
  ·rfl
theorem qf(a:List Nd)(k q:Int)(h:wholeTo a k=some q)(hk:0<=k):0<=q/\q<=k+a.length:=by
 induction a generalizing k with
 | nil=>simp only[wholeTo,Option.some.injEq]at h;subst h;simp;omega
 | cons n r ih=>
  simp only[wholeTo]at h;split at h
  ·rename_i hn;have:=dA hn.1
   have:=ih _ h o_
   simp only[l_c];omega
  ·cases h
theorem bM{α:Type}(l:List α)(k:Nat)(h:k<l.length):l.take (k+1)=l.take k++[l[k]]:=by
 rw[List.take_succ_eq_append_getElem h]
theorem fm(l:List Nd)(k:Nat)(q:Int)(h:k<l.length)(hq:wholeTo (l.take k) 0=some q):
  wholeTo (l.take (k+1)) 0=if aB l[k]=true/\arity l[k]<=q then some (q+1-arity l[k])else none:=by
 rw[bM l k h,wholeTo_append,hq];simp[wholeTo]
theorem mf(l:List Nd)(k:Nat)(h:wholeTo (l.take k) 0=none):bW l=false:=by
 have:wholeTo l 0=none:=by
  rw[<-List.take_append_drop k l,wholeTo_append,h];rfl
 simp[bW,this]
theorem sS(l:List Nd)(q:Int)(h:wholeTo (l.take l.length) 0=some q):bW l=(q == 1):=by
 rw[List.take_length]at h;simp only[bW,h];apply Bool.eq_iff_iff.2;simp
end
section
open Go.RowKit
variable{S T:Nat->Prop}{a b c w w':World}
structure am (S:Nat->Prop) (W w':World):Prop where
 os:w'.os=W.os
 tape:w'.tape=W.tape
 output:w'.output=W.output
 size:W.heap.size<=w'.heap.size
 block:∀k,k<W.heap.size->¬S k->w'.heap[k]? =W.heap[k]?
theorem am.refl(S:Nat->Prop)(W:World):am S W W:=⟨rfl,rfl,rfl,n_,fun _ _ _=>rfl⟩
theorem am.trans(h:am S a b)(k:am S b c):am S a c:=
 ⟨k.os.trans h.os,k.tape.trans h.tape,k.output.trans h.output,t_ h.size k.size,fun i hi hg=>(k.block i (l_ hi h.size) hg).trans (h.block i hi hg)⟩
theorem am.next(h:am S a b)(k:am T b c)(hT:∀x,T x->S x∨a.heap.size<=x):am S a c:=
 ⟨k.os.trans h.os,k.tape.trans h.tape,k.output.trans h.output,t_ h.size k.size,fun i hi hg=>(k.block i (l_ hi h.size) (fun t=>by rcases hT i t with x|x;exact hg x;omega)).trans (h.block i hi hg)⟩
theorem am.mono(h:am S a b)(hs:∀k,S k->T k):am T a b:=
 ⟨h.os,h.tape,h.output,h.size,fun k hk hn=>h.block k hk fun s=>hn (hs k s)⟩
theorem am.drew(h:am S a w):am S a w.drew:=h.trans ⟨rfl,rfl,rfl,n_,fun _ _ _=>rfl⟩
theorem am.setCell(h:am S a w){p:Addr}(hp:S p.block)(u:Value):am S a (w.setCell p u):=
 h.trans ⟨rfl,rfl,rfl,i_,fun k _ hk=>Below.heap_setCell w p u k fun e=>hk (e ▸ hp)⟩
theorem am.alloc(h:am S a w)(o:Obj):am S a (w.alloc o):=
 h.trans ⟨rfl,rfl,rfl,i_,fun k hk _=>Below.heap_alloc w o k hk⟩
theorem am.of_below(h:am S a w)(hb:Below w.heap.size w w'):am S a w':=
 h.trans ⟨hb.os,hb.tape,hb.output,hb.size,fun k hk _=>hb.block k hk⟩
theorem am.below{B:Nat}(h:am S w w')(hb:Below B a w)(hB:B<=w.heap.size)(hg:∀k,S k->B<=k):Below B a w':=
 ⟨h.os.trans hb.os,h.tape.trans hb.tape,h.output.trans hb.output,t_ hb.size h.size,fun k hk=>(h.block k o_ (fun s=>by have:=hg k s;omega)).trans (hb.block k hk)⟩
theorem am.of_grown{row:Option Nat}(hg:a.grownBy w row)(hr:∀k,row=some k->S k):am S a w:=
 ⟨hg.os,hg.tape,hg.output,hg.size,fun k hk hn=>hg.block k hk (fun e=>hn (hr k e.symm))⟩
theorem _root_.Go.RowKit.Below.tcs(h:Below a.heap.size a w):am S a w:=⟨h.os,h.tape,h.output,h.size,fun k hk _=>h.block k hk⟩
end
section
variable{l:List Nd}
def defc:List Nd->Int
 | []=>1
 | n::r=>defc r+arity n-1
def dU(l:List Nd):Prop:=∀n∈l,aB n=true
theorem j3(l:List Nd)(hg:dU l)(k:Int):wholeTo l k=some 1↔defc l=k/\∀j,1<=j->j<=l.length->1<=defc (l.drop j):=by
 induction l generalizing k with
 | nil=>
  simp only[wholeTo,Option.some.injEq,defc,l_n,List.drop_nil];constructor
  ·rintro rfl;exact⟨rfl,fun j _ _=>Int.le_refl _⟩
  ·rintro⟨rfl,_⟩;rfl
 | cons n r ih=>
  have hn:aB n=true:=hg n i_;have Ja:=ih (fun m hm=>hg m (by simp[hm]));simp only[wholeTo,hn,true_and];by_cases ha:arity n<=k
  ·rw[if_pos ha,Ja,defc];constructor
   ·rintro⟨h1,h2⟩;refine⟨o_,fun j hj1 hj2=>?_⟩;obtain⟨j',rfl⟩:∃j',j=j'+1:=⟨j-1,o_⟩;rw[List.drop_succ_cons];rcases Nat.eq_zero_or_pos j' with rfl|hp
    ·rw[List.drop_zero];omega
    ·exact h2 j' hp (by simpa using hj2)
   ·rintro⟨h1,h2⟩;refine⟨o_,fun j hj1 hj2=>?_⟩;have:=h2 (j+1) o_ (by simpa using hj2)
    rwa[List.drop_succ_cons]at this
  ·rw[if_neg ha];constructor
   ·intro h;cases h
   ·rintro⟨h1,h2⟩;exfalso
    have:=h2 1 n_ i_
    simp only[List.drop_succ_cons,List.drop_zero]at this;simp only[defc]at h1;omega
theorem jn(l:List Nd)(k q:Int)(h:wholeTo l k=some q):dU l:=by
 induction l generalizing k with
 | nil=>intro n hn;cases hn
 | cons m r ih=>
  simp only[wholeTo]at h;split at h
  ·rename_i hm;intro n hn;rcases List.mem_cons.1 hn with rfl|hn
   ·exact hm.1
   ·exact ih _ h n hn
  ·cases h
theorem jo(l:List Nd):bW l=true↔dU l/\defc l=0/\∀j,1<=j->j<=l.length->1<=defc (l.drop j):=by
 constructor
 ·intro h;have h':wholeTo l 0=some 1:=by simpa[bW]using h
  have hg:=jn l 0 1 h';exact⟨hg,(j3 l hg 0).1 h'⟩
 ·rintro⟨hg,h⟩;have:=(j3 l hg 0).2 h
  simp[bW,this]
def uY(l:List Nd)(r:Int):Prop:=
 (∃i:Nat,r=i/\i<l.length/\defc (l.drop i)=0/\∀j,i<j->j<=l.length->1<=defc (l.drop j))∨(r= -1/\∀j,j<=l.length->1<=defc (l.drop j))
theorem sT{r:Int}(hg:dU l)(h:uY l r):(r == 0)=bW l:=by
 apply Bool.eq_iff_iff.2;rw[jo];simp only[beq_iff_eq];rcases h with⟨i,rfl,hi,h0,hj⟩|⟨rfl,hj⟩
 ·constructor
  ·intro h;obtain rfl:i=0:=by omega
   exact⟨hg,by simpa using h0,fun j h1 h2=>hj j o_ h2⟩
  ·rintro⟨_,_,h⟩;rcases Nat.eq_zero_or_pos i with rfl|hp
   ·rfl
   ·have:=h i hp o_;omega
 ·constructor
  ·intro h;omega
  ·rintro⟨_,h,_⟩;have:=hj 0 y_
   rw[List.drop_zero]at this;omega
theorem mg(l:List Nd)(i:Nat)(h:i<l.length):defc (l.drop i)=defc (l.drop (i+1))+arity l[i]-1:=by
 rw[List.drop_eq_getElem_cons h,defc]
theorem rE(l:List Nd)(hg:dU l):defc l<=1+6*l.length:=by
 induction l with
 | nil=>simp[defc]
 | cons n r ih=>
  have:=ih (fun m hm=>hg m (by simp[hm]))
  have:=dA (hg n i_)
  simp only[defc,l_c];omega
theorem mX(hg:dU l)(i:Nat):dU (l.drop i):=fun n hn=>hg n (List.mem_of_mem_drop hn)
end
section
open Go.RowKit
section
variable{P:Program}{w:World}
theorem gK(base:Nat)(t ty e:TypeId)(i:TypeInfo)(z:Value)(size bytes:Nat)(ht:P.underlying t=some (.slice e))(hi:P.info? e=some i)(hz:i.zero=some z)
  (Ja:i.size=size) (Jk:i.bytes=bytes) (Jp:z.cells.size=size) (Jo:0<size)
  (v:Value) (n:Nat) (xs:List Value) (Je:w.ownsRow base e size v n xs)
  (a:Addr) (m c:Nat) (Jb:List Value) (hl:Jb.length=m*size) (Jc:∀j u,Jb[j]? =some u->w.cell? (a.add j)=some u) (h1:∀u∈Jb,u.oneCell'=true)
  (hm:n+m<=10000000) (Jr:bytes<=1000) (Jh:base<=w.heap.size):
  ∃v' w',(Builtin.append_ #[t,t] ty #[v,.slice (some a) m c]).run P w=.ok v' w'/\w'.ownsRow base e size v' (n+m) (xs++Jb)/\w.grownBy w' v.ownBlock/\∀k,v'.ownBlock=some k->v.ownBlock=some k∨w.heap.size<=k:=by
 have Jd:(n+m)*bytes<=140737488355328:=by
  have:(n+m)*bytes<=10000000*1000:=Nat.mul_le_mul hm Jr
  omega
 have Jn:n+m<=maxLen:=by unfold maxLen;omega
 obtain⟨v',w',r1,r2,r3,r4⟩:=run_append_own (P:=P) w base t ty e i z size bytes ht hi hz Ja Jk Jp Jo v n xs Je a m c Jb hl Jc h1 Jn Jd Jh;refine⟨v',w',r1,r2,r3,fun k hk=>?_⟩;have Jf:=Je;rcases Je.2 with⟨rfl,rfl⟩|⟨g,Ji,Jl,rfl,Jt,hg,Js,Ju,Jq,Jm⟩
 ·have hx:xs=[]:=List.eq_nil_of_length_eq_zero (by have:=Je.1;simpa using this);subst hx;obtain⟨v2,w2,g1,g2,_⟩:=run_append_own (P:=P) w w.heap.size t ty e i z size bytes ht hi hz Ja Jk Jp Jo (.slice none 0 0) 0 [] (World.ownsRow_nil _ _ _ _) a m c Jb hl Jc h1 Jn Jd n_;rw[r1]at g1;simp only[Result.ok.injEq]at g1;obtain⟨rfl,rfl⟩:=g1;exact .inr (g2.lt k hk).1
 ·by_cases hroom:n+m<=Ji
  ·have Jj:n*i.size+Jb.length<=Jl.size:=by
    rw[Ja,hl,Jq,<-Nat.add_mul];exact Nat.mul_le_mul_right _ hroom
   have hr:=run_append_room (P:=P) w t ty e i ht hi g n Ji Jl hg a m c Jb (by rw[Ja];exact hl) Jc h1 hroom Jj;rw[r1]at hr;simp only[Result.ok.injEq]at hr;obtain⟨rfl,rfl⟩:=hr;exact .inl hk
  ·have Jg:∀j u,xs[j]? =some u->w.cell? ((⟨g,0,none⟩:Addr).add j)=some u:=Jf.cells (g:=g) rfl;have hr:=run_append_grow (P:=P) w t ty e i z ht hi hz ⟨g,0,none⟩ n Ji xs (by rw[Ja];exact Jf.1) Jg a m c Jb (by rw[Ja];exact hl) Jc o_ o_ (by rw[Jk];exact growslice_fits o_ o_);rw[r1]at hr;simp only[Result.ok.injEq]at hr;obtain⟨rfl,rfl⟩:=hr;simp only[Value.ownBlock,Option.some.injEq]at hk;exact .inr o_
theorem oF{ops:Array Oper}{Jb:List Oper}{o:Oper}{a:Act}{Q:Exit->Act->World->Prop}(Ji:o.guard=none)(s x:Operand)(t:TypeId)
  (ho:o.op=.call {callee:=.builtin .append,args:=#[s,x],argTypes:=#[t,t]})
  (base:Nat) (e:TypeId) (i:TypeInfo) (z:Value) (size bytes:Nat) (ht:P.underlying t=some (.slice e)) (hi:P.info? e=some i) (hz:i.zero=some z)
  (Jc:i.size=size) (Jh:i.bytes=bytes) (Jj:z.cells.size=size) (Jg:0<size)
  (v:Value) (n:Nat) (xs:List Value) (hs:a.eval s=v) (Jf:w.ownsRow base e size v n xs)
  (ad:Addr) (m c:Nat) (Ja:List Value) (hx:a.eval x=.slice (some ad) m c) (hl:Ja.length=m*size) (Je:∀j u,Ja[j]? =some u->w.cell? (ad.add j)=some u) (h1:∀u∈Ja,u.oneCell'=true)
  (hm:n+m<=10000000) (Jk:bytes<=1000) (Jd:base<=w.heap.size)
  (h:∀v' w',w'.ownsRow base e size v' (n+m) (xs++Ja)->w.grownBy w' v.ownBlock->(∀k,v'.ownBlock=some k->v.ownBlock=some k∨w.heap.size<=k)->wpList P ops Q Jb (a.put o.dst v') w'):wpList P ops Q (o::Jb) a w:=by
 refine wpList_plain Ji fun K hK=>?_;obtain⟨v',w',hr,h2,h3,h4⟩:=gK (P:=P) (w:=w) base t o.type e i z size bytes ht hi hz Jc Jh Jj Jg v n xs Jf ad m c Ja hl Je h1 hm Jk Jd;unfold Oper.wp execOp;simp only[ho,resolve,invoke,builtin,Sem.run_bind,Sem.run_pure,Result.andThen_ok,List.map_toArray,List.map_cons,List.map_nil,hs,hx,hr];exact hK _ _ (h v' w' h2 h3 h4)
end
end
section
variable{e:List Nd}
def sU(ns:List Nd)(k i:Nat):Prop:=i<k/\defc ((ns.take k).drop i)=0/\∀j,i<j->j<=k->1<=defc ((ns.take k).drop j)
theorem sV(ns:List Nd)(k m:Nat)(hk:k<=ns.length)(hm:m<k):defc ((ns.take k).drop m)=defc ((ns.take k).drop (m+1))+arity (ns[m]'(by omega))-1:=by
 have h:=mg (ns.take k) m (by simp;omega);rw[h];simp
theorem qg(l:List Nd)(k q:Int)(h:wholeTo l k=some q):defc l=1+k-q:=by
 induction l generalizing k with
 | nil=>simp only[wholeTo,Option.some.injEq]at h;subst h;simp[defc]
 | cons n r ih=>
  simp only[wholeTo]at h;split at h
  ·have:=ih _ h
   simp only[defc];omega
  ·cases h
theorem fA(l:List Nd)(k q:Int)(h:wholeTo l k=some q)(j:Nat):∃p,wholeTo (l.take j) k=some p/\wholeTo (l.drop j) p=some q:=by
 rw[<-List.take_append_drop j l,wholeTo_append]at h;cases e:wholeTo (l.take j) k with
 | none=>rw[e]at h;cases h
 | some p=>rw[e]at h;exact⟨p,rfl,h⟩
theorem sW(l:List Nd)(q:Int)(hl:0<l.length)(h:wholeTo l 0=some q):1<=q:=by
 obtain⟨m,hm⟩:∃m,l.length=m+1:=⟨l.length-1,o_⟩;obtain⟨p,h1,h2⟩:=fA l 0 q h m;have:=fm l m p o_ h1;rw[<-hm,List.take_length,h]at this;split at this
 ·rename_i hh;simp only[Option.some.injEq]at this;omega
 ·cases this
theorem sX(l:List Nd)(p:Int)(h:wholeTo l 0=some p)(m:Nat)(hm:l.length=m+1)(i:Nat)(hi:i<l.length)(a:Int)(ha:wholeTo (l.take i) 0=some a):∃c,wholeTo (l.take (i+1)) 0=some c/\c<=a+1:=by
 obtain⟨c,h1,h2⟩:=fA l 0 p h (i+1);have:=fm l i a hi ha;rw[h1]at this;split at this
 ·rename_i hh;have:=dA hh.1
  simp only[Option.some.injEq]at*;exact⟨c,h1,o_⟩
 ·cases this
theorem sY(l:List Nd)(c:Int)(hc:0<=c)(h:wholeTo l 0=some (c+1)):∃i,i<l.length/\wholeTo (l.take i) 0=some c/\∀j,i<j->j<=l.length->∃p,wholeTo (l.take j) 0=some p/\c+1<=p:=by
 have hl:0<l.length:=by
  cases l with
  | nil=>simp only[wholeTo,Option.some.injEq]at h;omega
  | cons=>simp
 obtain⟨m,hm⟩:∃m,l.length=m+1:=⟨l.length-1,o_⟩;have Jb:∀d,d<=l.length->(∃i,l.length-d<=i/\i<l.length/\wholeTo (l.take i) 0=some c/\∀j,i<j->j<=l.length->∃p,wholeTo (l.take j) 0=some p/\c+1<=p)∨(∀j,l.length-d<=j->j<=l.length->∃p,wholeTo (l.take j) 0=some p/\c+1<=p):=by
  intro d;induction d with
  | zero=>
   intro _;refine .inr fun j h1 h2=>?_;obtain rfl:j=l.length:=by omega
   rw[List.take_length];exact⟨_,h,Int.le_refl _⟩
  | succ d ih=>
   intro hd;rcases ih o_ with⟨i,h1,h2⟩|hall
   ·exact .inl ⟨i,o_,h2⟩
   ·obtain⟨a,ha,_⟩:=fA l 0 _ h (l.length-(d+1));obtain⟨c',h1,h2⟩:=sX l _ h m hm (l.length-(d+1)) o_ a ha;obtain⟨p,hp,Ja⟩:=hall (l.length-(d+1)+1) o_ o_;rw[h1]at hp;simp only[Option.some.injEq]at hp;by_cases e:a=c
    ·subst e;exact .inl ⟨_,n_,o_,ha,fun j h3 h4=>hall j o_ h4⟩
    ·refine .inr fun j h3 h4=>?_;by_cases e2:j=l.length-(d+1)
     ·subst e2;exact⟨a,ha,o_⟩
     ·exact hall j o_ h4
 rcases Jb l.length n_ with⟨i,_,h1⟩|hall
 ·exact⟨i,h1⟩
 ·obtain⟨p,hp,Ja⟩:=hall 0 o_ o_;simp only[List.take_zero,wholeTo,Option.some.injEq]at hp;omega
theorem sZ(e:List Nd)(k:Nat)(c:Int)(hk:k<=e.length)(hc:0<=c)(h:wholeTo (e.take k) 0=some (c+1)):
  ∃i,sU e k i/\wholeTo (e.take i) 0=some c/\bW ((e.take k).drop i)=true:=by
 have Ja:(e.take k).length=k:=by simp;omega
 obtain⟨i,h1,h2,h3⟩:=sY (e.take k) c hc h;rw[Ja]at h1 h3;have hd:∀j,j<=k->∀p,wholeTo ((e.take k).take j) 0=some p->defc ((e.take k).drop j)=p-c:=by
  intro j hj p hp;obtain⟨p',g1,g2⟩:=fA (e.take k) 0 _ h j;rw[hp]at g1;simp only[Option.some.injEq]at g1;subst g1;have:=qg _ _ _ g2;omega
 have hb:sU e k i:=by
  refine⟨h1,?_,fun j g1 g2=>?_⟩
  ·rw[hd i o_ c h2];omega
  ·obtain⟨p,hp,Jb⟩:=h3 j g1 g2;rw[hd j g2 p hp];omega
 refine⟨i,hb,?_,?_⟩
 ·rw[List.take_take,Nat.min_eq_left o_]at h2;exact h2
 ·rw[jo];refine⟨fun n hn=>jn _ _ _ h n (List.mem_of_mem_drop hn),hb.2.1,fun j g1 g2=>?_⟩;rw[List.drop_drop];simp only[List.length_drop,Ja]at g2;exact hb.2.2 (i+j) o_ o_
def nd0:Nd:=⟨1,0,⟨#[]⟩⟩
def ay(e:List Nd):Nd:=e.getD (e.length-1) nd0
structure Cut (e:List Nd) (A:Nat) (b:Nat->Nat):Prop where
 len:0<e.length
 ar:arity (ay e)=A
 good:dU e
 last:b A=e.length-1
 first:b 0=0
 beg:∀i,i<A->sU e (b (i+1)) (b i)
def bH(e:List Nd)(b:Nat->Nat)(i:Nat):List Nd:=(e.take (b (i+1))).drop (b i)
theorem s6(e:List Nd)(he:0<e.length)(A:Nat):∀k,k<=e.length->wholeTo (e.take k) 0=some (A:Int)->∃b:Nat->Nat,b A=k/\b 0=0/\∀i,i<A->sU e (b (i+1)) (b i)/\bW (bH e b i)=true:=by
 induction A with
 | zero=>
  intro k hk h;refine⟨fun _=>0,?_,rfl,fun i hi=>absurd hi o_⟩;rcases Nat.eq_zero_or_pos k with rfl|hp
  ·rfl
  ·have:=sW (e.take k) _ (by simp;omega) h
   omega
 | succ A ih=>
  intro k hk h;obtain⟨i,h1,h2,h3⟩:=sZ e k A hk o_ (by rw[h];rfl);obtain⟨b,g1,g2,g3⟩:=ih i (by have:=h1.1;omega) h2;refine⟨fun j=>if j=A+1 then k else b j,i_,by simp[g2],fun j hj=>?_⟩;by_cases e1:j=A
  ·subst e1;simp only[bH,if_true,Nat.succ_ne_self,if_neg (show ¬j=j+1 by omega),g1];exact⟨h1,h3⟩
  ·have:=g3 j o_
   simp only[bH,if_neg (show ¬j=A+1 by omega),if_neg (show ¬j+1=A+1 by omega)];exact this
theorem co(e:List Nd)(h:0<e.length):ay e=e[e.length-1]'(by omega):=by
 simp[ay,List.getD,List.getElem?_eq_getElem (show e.length-1<e.length by omega)]
theorem ku(h:bW e=true):0<e.length:=by
 cases e with
 | nil=>simp[bW,wholeTo]at h
 | cons=>simp
theorem oG(h:bW e=true):dU e:=((jo e).1 h).1
theorem kL(h:bW e=true):aB (ay e)=true:=by
 rw[co e (ku h)];exact oG h _ (g_ _)
theorem uZ(h:bW e=true):∃A b,Cut e A b/\∀i,i<A->bW (bH e b i)=true:=by
 have hl:=ku h;have h':wholeTo e 0=some 1:=by simpa[bW]using h
 obtain⟨q,h1,h2⟩:=fA e 0 1 h' (e.length-1);have hs:=fm e (e.length-1) q o_ h1;rw[show e.length-1+1=e.length by omega,List.take_length,h']at hs;split at hs
 ·simp only[Option.some.injEq]at hs;have hb:=dA (kL h);rw[co e hl]at hb;obtain⟨A,hA⟩:∃A:Nat,q=A:=⟨q.toNat,o_⟩;subst hA;obtain⟨b,g1,g2,g3⟩:=s6 e hl A (e.length-1) o_ h1;exact⟨A,b,⟨hl,by rw[co e hl];omega,oG h,g1,g2,fun i hi=>(g3 i hi).1⟩,fun i hi=>(g3 i hi).2⟩
 ·cases hs
end
def eQ(e:List Nd):Int:=match e[e.length-1]? with|some n=>n.kind|none=>0
def stmtB(s:St):Bool:=
 decide (1<=s.kind/\s.kind<=8)&&(if s.kind<=3 then aK s.name else s.name.toList == [])&&bW s.e&&(if s.kind=3 then bW s.f else s.f.length == 0)&&(decide (s.kind≠8) || eQ s.e == 4)&&(decide (s.kind=4∨s.kind=5) || s.thn == 0)&&(decide (s.kind=4) || s.els == 0)
theorem oH{l:List Nd}(h:bW l=true):0<l.length:=by
 cases l with
 | nil=>simp[bW,wholeTo]at h
 | cons n r=>simp
def mY:Nat->List St->Bool
 | _,[]=>true
 | 0,_::_=>false
 | n+1,s::r=>decide (0<=s.thn/\s.thn<=r.length/\0<=s.els/\s.els<=r.length-s.thn)&&(mY n (r.take s.thn.toNat)&&(mY n ((r.take (s.thn.toNat+s.els.toNat)).drop s.thn.toNat)&&mY n (r.drop (s.thn.toNat+s.els.toNat))))
def dx(l:List St):Bool:=mY l.length l
theorem kM(n m:Nat)(l:List St)(hn:l.length<=n)(hm:l.length<=m):mY n l=mY m l:=by
 induction n generalizing m l with
 | zero=>
  have:l=[]:=List.eq_nil_of_length_eq_zero o_
  subst this;cases m <;> rfl
 | succ n ih=>
  cases l with
  | nil=>cases m <;> rfl
  | cons s r=>
   cases m with
   | zero=>simp at hm
   | succ m=>
    simp only[l_c]at hn hm;simp only[mY];rw[ih m (r.take s.thn.toNat) (by simp;omega) (by simp;omega),ih m ((r.take (s.thn.toNat+s.els.toNat)).drop s.thn.toNat) (by simp;omega) (by simp;omega),ih m (r.drop (s.thn.toNat+s.els.toNat)) (by simp;omega) (by simp;omega)]
theorem iD(s:St)(r:List St):dx (s::r)=(decide (0<=s.thn/\s.thn<=r.length/\0<=s.els/\s.els<=r.length-s.thn)&&(dx (r.take s.thn.toNat)&&(dx ((r.take (s.thn.toNat+s.els.toNat)).drop s.thn.toNat)&&dx (r.drop (s.thn.toNat+s.els.toNat))))):=by
 have h:dx (s::r)=mY (r.length+1) (s::r):=rfl;rw[h];simp only[mY];rw[kM r.length _ (r.take s.thn.toNat) (by simp;omega) n_,kM r.length _ ((r.take (s.thn.toNat+s.els.toNat)).drop s.thn.toNat) (by simp;omega) n_,kM r.length _ (r.drop (s.thn.toNat+s.els.toNat)) i_ n_];rfl
theorem u_(n:Nat):∀l:List St,l.length<=n->dx l=true->∀s∈l,0<=s.thn/\0<=s.els:=by
 induction n with
 | zero=>
  intro l hl _ s hs;have:l=[]:=List.eq_nil_of_length_eq_zero o_;subst this;cases hs
 | succ n ih=>
  intro l hl h s hs;cases l with
  | nil=>cases hs
  | cons t r=>
   simp only[l_c]at hl;rw[iD]at h;simp only[Bool.and_eq_true,decide_eq_true_eq]at h;obtain⟨h0,h1,h2,h3⟩:=h;rcases List.mem_cons.1 hs with rfl|hs
   ·exact⟨h0.1,h0.2.2.1⟩
   ·have hr:r=r.take t.thn.toNat++((r.take (t.thn.toNat+t.els.toNat)).drop t.thn.toNat++r.drop (t.thn.toNat+t.els.toNat)):=by
     rw[<-List.append_assoc];have e:r.take t.thn.toNat++(r.take (t.thn.toNat+t.els.toNat)).drop t.thn.toNat=r.take (t.thn.toNat+t.els.toNat):=by
      have:=List.take_append_drop t.thn.toNat (r.take (t.thn.toNat+t.els.toNat))
      rwa[List.take_take,Nat.min_eq_left o_]at this
     rw[e,List.take_append_drop]
    rw[hr]at hs;rcases List.mem_append.1 hs with hs|hs
    ·exact ih _ (by simp;omega) h1 s hs
    ·rcases List.mem_append.1 hs with hs|hs
     ·exact ih _ (by simp;omega) h2 s hs
     ·exact ih _ (by simp;omega) h3 s hs
theorem vd(s:ByteArray)(n:Nat):∀i r,s.size-i=n->ByteArray.toList.loop s i r=[]->r=[]:=by
 induction n with
 | zero=>
  intro i r hi h;rw[ByteArray.toList.loop,if_neg o_]at h;simpa using h
 | succ n ih=>
  intro i r hi h;rw[ByteArray.toList.loop,if_pos o_]at h;have:=ih (i+1) _ o_ h;simp at this
theorem vh{s:ByteArray}(h:s.toList=[]):s.size=0:=by
 rcases Nat.eq_zero_or_pos s.size with h0|hp
 ·exact h0
 ·rw[ByteArray.toList,ByteArray.toList.loop,if_pos hp]at h;have:=vd s _ _ _ rfl h
  simp at this
theorem oI{n:Nd}(h:aB n=true):n.name.size<=20:=by
 have hn:∀s,aK s=true->s.size<=20:=by
  intro s hs;have:jm s:=by simpa[aK]using hs
  exact this.2.1
 have h0:n.name.toList=[]->n.name.size<=20:=by
  intro h;rw[vh h];decide
 unfold aB at h;split at h <;> (try split at h) <;> (try split at h) <;> (try split at h) <;> (try split at h) <;> (try split at h) <;> simp at h;all_goals first|exact hn _ h.2|exact h0 h.2|(apply h0;simp[h.2])
section
open Go.RowKit
variable{w w':World}{g:Nat}{xs:List Value}
def aR(w:World)(g:Nat)(xs:List Value):Prop:=∀j x,xs[j]? =some x->w.cell? ⟨g,j,none⟩=some x/\w.frozen? ⟨g,j,none⟩=false
theorem aR.set(h:aR w g xs)(i:Nat)(u:Value):aR (w.setCell ⟨g,i,none⟩ u) g (xs.set i u):=by
 intro j x hx;rw[World.frozen?_setCell];by_cases e:i=j
 ·subst e;have hl:=(List.getElem?_eq_some_iff.1 hx).1;rw[List.length_set]at hl;rw[List.getElem?_set_self hl]at hx;obtain⟨c,f⟩:=h i xs[i] (List.getElem?_eq_getElem hl);refine⟨?_,f⟩;rw[World.cell?_setCell_same _ _ _ c];exact hx
 ·rw[List.getElem?_set_ne e]at hx;obtain⟨c,f⟩:=h j x hx;refine⟨?_,f⟩;rw[s_ _ _ _ _ (by intro h;simp only[Addr.mk.injEq]at h;omega)];exact c
theorem aR.keep(h:aR w g xs)(e:w'.heap[g]? =w.heap[g]?):aR w' g xs:=fun j x hx=>by
 obtain⟨c,f⟩:=h j x hx;exact⟨(c_ (a:=⟨g,j,none⟩) e).trans c,(World.frozen?_of_block (a:=⟨g,j,none⟩) e).trans f⟩
theorem aR.below(h:aR w g xs)(hb:Below w.heap.size w w'):aR w' g xs:=fun j x hx=>by
 obtain⟨c,f⟩:=h j x hx;have hlt:=b_ c;exact⟨(hb.cell (p:=⟨g,j,none⟩) hlt).trans c,(hb.frozen (p:=⟨g,j,none⟩) hlt).trans f⟩
theorem aR.tcs{S:Nat->Prop}(h:aR w g xs)(hl:g<w.heap.size)(ht:am S w w')(hn:¬S g):aR w' g xs:=h.keep (ht.block g hl hn)
theorem aJ(w:World)(cs:Array Value)(t:TypeId)(hm:cs.size<=1000):aR (w.alloc (.cells cs t)) w.heap.size cs.toList:=by
 intro j x hj;have h:(w.alloc (.cells cs t)).ownsRow w.heap.size t 1 (.slice (some ⟨w.heap.size,0,none⟩) cs.size cs.size) cs.size cs.toList:=World.ownsRow_lit w cs cs.size n_ (by unfold maxLen;omega) o_;have hc:=World.ownsRow.cells h (g:=w.heap.size) rfl j x hj;have e:(⟨w.heap.size,0,none⟩:Addr).add j=⟨w.heap.size,j,none⟩:=by
  simp[Addr.add];try (intro h;omega)
 rw[e]at hc;refine⟨hc,?_⟩;rcases h.2 with⟨e,-⟩|⟨g,Jb,Ja,e,h3,h4,h5⟩
 ·simp at e
 ·simp only[Value.slice.injEq,Option.some.injEq,Addr.mk.injEq]at e;obtain⟨⟨rfl,-,-⟩,-,-⟩:=e;unfold World.frozen?;simp only[h4];simp
end
section
variable{e:List Nd}{A:Nat}{b:Nat->Nat}
theorem Cut.le(h:Cut e A b):∀d,d<=A->b (A-d)<=e.length-1:=by
 intro d;induction d with
 | zero=>intro _;rw[Nat.sub_zero,h.last];exact n_
 | succ d ih=>
  intro hd;have:=ih o_;have h2:=(h.beg (A-(d+1)) o_).1;rw[show A-(d+1)+1=A-d by omega]at h2;omega
theorem Cut.le'(h:Cut e A b)(i:Nat)(hi:i<=A):b i<=e.length-1:=by
 have:=h.le (A-i) o_
 rwa[show A-(A-i)=i by omega]at this
theorem Cut.kid_len(h:Cut e A b)(i:Nat)(hi:i<A):(bH e b i).length=b (i+1)-b i:=by
 have:=h.le' (i+1) o_
 simp[bH];omega
theorem Cut.kid_pos(h:Cut e A b)(i:Nat)(hi:i<A):0<(bH e b i).length:=by
 rw[h.kid_len i hi];have:=(h.beg i hi).1;omega
theorem Cut.kid_lt(h:Cut e A b)(i:Nat)(hi:i<A):(bH e b i).length<e.length:=by
 rw[h.kid_len i hi];have:=h.le' (i+1) o_
 have:=h.len
 omega
theorem Cut.root_good(h:Cut e A b):aB (ay e)=true:=by
 rw[co e h.len];exact h.good _ (g_ _)
theorem Cut.arA(h:Cut e A b):A<=6:=by
 have:=dA h.root_good
 have:=h.ar
 omega
theorem Cut.kid_root(h:Cut e A b)(i:Nat)(hi:i<A):aB (ay (bH e b i))=true:=by
 rw[co _ (h.kid_pos i hi)];refine h.good _ ?_;have:(bH e b i)[(bH e b i).length-1]'(by have:=h.kid_pos i hi;omega)∈bH e b i:=g_ _;exact List.mem_of_mem_take (List.mem_of_mem_drop this)
end
section
variable{l:List St}{k:Nat}
def nodeSum:List St->Nat
 | []=>0
 | s::r=>s.e.length+s.f.length+nodeSum r
theorem d6(a b:List St):nodeSum (a++b)=nodeSum a+nodeSum b:=by
 induction a with
 | nil=>simp[nodeSum]
 | cons s r ih=>simp[nodeSum,ih];omega
theorem jq(l:List St)(k:Nat)(h:k<l.length):nodeSum (l.take (k+1))=nodeSum (l.take k)+l[k].e.length+l[k].f.length:=by
 rw[bM l k h,d6];simp[nodeSum];omega
theorem qh(l:List St)(k:Nat):nodeSum (l.take k)<=nodeSum l:=by
 have:=d6 (l.take k) (l.drop k)
 rw[List.take_append_drop]at this;omega
def stmtsB(p:St->Bool)(l:List St):Bool:=decide (nodeSum l<=2000)&&l.all p
theorem kN{p:St->Bool}(h:2000<nodeSum (l.take k)):stmtsB p l=false:=by
 have:=qh l k
 simp only[stmtsB,decide_eq_false (show ¬nodeSum l<=2000 by omega),Bool.false_and]
theorem kO{p:St->Bool}(hk:k<l.length)(h:p l[k]=false):stmtsB p l=false:=by
 have:l.all p=false:=by
  rw[List.all_eq_false];exact⟨l[k],g_ hk,by simp[h]⟩
 simp[stmtsB,this]
theorem mh{p:St->Bool}(h1:nodeSum l<=2000)(h2:∀s∈l,p s=true):stmtsB p l=true:=by
 have:l.all p=true:=List.all_eq_true.2 h2
 simp[stmtsB,this,h1]
theorem rF{p:ByteArray->Bool}{l:List ByteArray}(hk:k<l.length)(h:p l[k]=false):l.all p=false:=by
 rw[List.all_eq_false];exact⟨l[k],g_ hk,by simp[h]⟩
def cq(f:Fu):Bool:=aK f.name&&(decide (f.params.length<=6)&&(decide (f.body.length<=500)&&(f.params.all aK&&(stmtsB stmtB f.body&&dx f.body))))
def aG(s:St):Bool:=stmtB s&&decide (0<=s.thn/\0<=s.els)
theorem qi(l:List St):(stmtsB aG l&&dx l)=(stmtsB stmtB l&&dx l):=by
 cases h:dx l
 ·simp
 ·have hn:=u_ l.length l n_ h;have:l.all aG=l.all stmtB:=by
   apply Bool.eq_iff_iff.2;rw[List.all_eq_true,List.all_eq_true];constructor
   ·intro h s hs;have:=h s hs
    simp only[aG,Bool.and_eq_true]at this;exact this.1
   ·intro h s hs;simp only[aG,Bool.and_eq_true,decide_eq_true_eq];exact⟨h s hs,hn s hs⟩
  simp only[stmtsB,this]
theorem lU(h:∀s∈l,aG s=true):∀s∈l,0<=s.thn/\0<=s.els:=by
 intro s hs;have:=h s hs;simp only[aG,Bool.and_eq_true,decide_eq_true_eq]at this;exact this.2
def bV(g:Gl):Bool:=aK g.name&&decide (0<=g.size/\g.size<=4000)
def cK(t:Tr):Bool:=decide (t.globals.length<=50)&&(decide (t.funcs.length<=50)&&(t.globals.all bV&&t.funcs.all cq))
theorem oJ{l:List Gl}(hk:k<l.length)(h:bV l[k]=false):l.all bV=false:=by
 rw[List.all_eq_false];exact⟨l[k],g_ hk,by simp[h]⟩
theorem oK{l:List Fu}(hk:k<l.length)(h:cq l[k]=false):l.all cq=false:=by
 rw[List.all_eq_false];exact⟨l[k],g_ hk,by simp[h]⟩
def kP(s:St):Prop:=s.e.length<=1048576/\s.f.length<=1048576
def iZ(f:Fu):Prop:=f.params.length<=1048576/\f.body.length<=1048576/\∀s∈f.body,kP s
def i6(t:Tr):Prop:=t.globals.length<=1048576/\t.funcs.length<=1048576/\∀f∈t.funcs,iZ f
end
section
variable{α:Type}
def mi{α:Type}(f:α->Nat):List α->Nat
 | []=>0
 | x::r=>f x+mi f r
def FF(n:Nd):Nat:=n.name.size
def Dw(ns:List Nd):Nat:=ns.length+mi FF ns
def Ew(s:St):Nat:=s.name.size+Dw s.e+Dw s.f
def Ex(ss:List St):Nat:=ss.length+mi Ew ss
def Ey(ps:List ByteArray):Nat:=ps.length+mi ByteArray.size ps
def Ez(f:Fu):Nat:=f.name.size+Ey f.params+Ex f.body
def Dx(ns:List Nd):Prop:=ns.length<=9223372036854775807/\∀n∈ns,n.name.size<=9223372036854775807
def ED(s:St):Prop:=s.name.size<=9223372036854775807/\Dx s.e/\Dx s.f
def EE(ss:List St):Prop:=ss.length<=9223372036854775807/\∀s∈ss,ED s
def EF(ps:List ByteArray):Prop:=ps.length<=9223372036854775807/\∀s∈ps,s.size<=9223372036854775807
def EG(f:Fu):Prop:=f.name.size<=9223372036854775807/\EF f.params/\EE f.body
def EH(fs:List Fu):Prop:=fs.length<=9223372036854775807/\∀f∈fs,EG f
def EI(gs:List Gl):Prop:=gs.length<=9223372036854775807/\∀g∈gs,g.name.size<=9223372036854775807
def FH(t:Tr):Prop:=EI t.globals/\EH t.funcs
end
end Go.Proofs.YtlamjfhhefcohaaGreatDoor
