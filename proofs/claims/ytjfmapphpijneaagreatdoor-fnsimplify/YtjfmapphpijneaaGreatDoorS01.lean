import Derived.Test.YtjfmapphpijneaaGreatDoorS00
namespace Go.Proofs.YtjfmapphpijneaaGreatDoor
open Go.Value Go.World List
set_option linter.all false
set_option maxRecDepth 100000
set_option maxHeartbeats 0
section
structure Nd where
 kd:Int
 val:Int
 nm:Io
structure St where
 kd:Int
 nm:Io
 e:List Nd
 f:List Nd
 th:Int
 el:Int
structure Fu where
 nm:Io
 pm:List Io
 bd:List St
structure Gl where
 nm:Io
 size:Int
structure Tr where
 gl:List Gl
 fc:List Fu
def fj(c:Int):Bool:=decide (97<=c/\c<=122\/c=95)
def digitB(c:Int):Bool:=decide (48<=c/\c<=57)
def iW(c:Int):Bool:=fj c || digitB c
def lE(s:Io):Bool:=
 s.toList == [105,110,116] || s.toList == [105,102] || s.toList == [101,108,115,101] || s.toList == [119,104,105,108,101] || s.toList == [114,101,116,117,114,110] || s.toList == [105,110] || s.toList == [111,117,116]
def d8(s:Io)(k:Nat):Int:=((s.data.toList.getD k 0).toNat:Int)
def rQ(s:Io)(k:Nat):Prop:=∀j,j<k->iW (d8 s j)=true
def oq(s:Io):Prop:=1<=s.size/\s.size<=20/\fj (d8 s 0)=true/\(∀j,j<s.size->iW (d8 s j)=true)/\lE s=false
def bh (s : Io) : Bool := @decide (oq s) (inferInstanceAs (Decidable (1<=s.size/\s.size<=20/\fj (d8 s 0)=true/\(∀j,j<s.size->iW (d8 s j)=true)/\lE s=false)))
def arity(n:Nd):Int:=if n.kd=3\/n.kd=6 then 1 else if n.kd=4 then n.val else if n.kd=7\/n.kd=8\/n.kd=9 then 2 else 0
def aJ(n:Nd):Bool:=
 if n.kd=1 then decide (-2147483648<=n.val/\n.val<=2147483647)&&n.nm.toList == []
 else if n.kd=2\/n.kd=3 then decide (n.val=0)&&bh n.nm
 else if n.kd=4 then decide (0<=n.val/\n.val<=6)&&bh n.nm
 else if n.kd=6 then decide (0<=n.val/\n.val<=2)&&n.nm.toList == []
 else if n.kd=7 then decide (0<=n.val/\n.val<=15)&&n.nm.toList == []
 else if n.kd=5\/n.kd=8\/n.kd=9 then decide (n.val=0)&&n.nm.toList == []
 else false
def dM{n:Nd}(h:aJ n=true):0<=arity n/\arity n<=6:=by unfold aJ at h;unfold arity;by_cases h4:n.kd=4;simp[h4]at h⊢;omega;split <;> (try split) <;> (try split) <;> omega
def wholeTo:List Nd->Int->Option Int
 | [],k=>some k
 | n::r,k=>if aJ n=true/\arity n<=k then wholeTo r (k+1-arity n)else none
def oneB(e:List Nd):Bool:=wholeTo e 0 == some 1
def gO{n:Nd}(h:aJ n=true):1<=n.kd/\n.kd<=9:=by by_cases hk:n.kd<1\/9<n.kd;unfold aJ at h;rw[if_neg o_,if_neg o_,if_neg o_,if_neg o_,if_neg o_,if_neg o_]at h;cases h;omega
theorem wholeTo_append(a b:List Nd)(k:Int):wholeTo (a++b) k=(wholeTo a k).bind (wholeTo b):=by
 induction a generalizing k with
 | nil=>rfl
 | cons n r ih=>simp only[cons_append,wholeTo];split;exact ih _;rfl
theorem ks(a:List Nd)(k q:Int)(h:wholeTo a k=some q)(I:0<=k):0<=q/\q<=k+a.length:=by
 induction a generalizing k with
 | nil=>simp only[wholeTo,J0]at h;subst h;simp;omega
 | cons n r ih=>
  simp only[wholeTo]at h;split at h;rename_i hn;have:=dM hn.1
  have:=ih _ h o_
  simp only[l_c];omega;cases h
def aU{α:Type}(l:List α)(k:Nat)(h:k<l.length):l.take (k+1)=l.take k++[l[k]]:=by rw[take_succ_eq_append_getElem h]
def fI(l:List Nd)(k:Nat)(q:Int)(h:k<l.length)(I:wholeTo (l.take k) 0=some q):
  wholeTo (l.take (k+1)) 0=if aJ l[k]=true/\arity l[k]<=q then some (q+1-arity l[k])else none:=by
 rw[aU l k h,wholeTo_append,I];simp[wholeTo]
def qG(l:List Nd)(k:Nat)(h:wholeTo (l.take k) 0=none):oneB l=false:=by
 have:wholeTo l 0=none:=by rw[<-take_append_drop k l,wholeTo_append,h];rfl
 simp[oneB,this]
def zD(l:List Nd)(q:Int)(h:wholeTo (l.take l.length) 0=some q):oneB l=(q == 1):=by rw[take_length]at h;simp only[oneB,h];apply Bool.eq_iff_iff.2;simp
end
section
open Go.RowKit
namespace Ap
def w32_bd(a:Int): -2147483648<=wrap32 a/\wrap32 a<=2147483647:=by unfold wrap32;omega
def w32_id(a:Int)(h: -2147483648<=a/\a<=2147483647):wrap32 a=a:=by unfold wrap32;omega
def ym(x:Int)(h: -2147483648<=x/\x<=2147483647):BitVec.ofInt 64 x=(BitVec.ofInt 32 x).signExtend 64:=by apply BitVec.eq_of_toInt_eq;rw[BitVec.toInt_signExtend_of_le d_,BitVec.toInt_ofInt,BitVec.toInt_ofInt];rw[Int.bmod_eq_of_le o_ o_,Int.bmod_eq_of_le o_ o_]
def wrap_toNat32(v:BitVec 32):IntKind.i32.wrap (v.toNat:Int)=v.toInt:=by
 have:=v.isLt
 rw[IntKind.wrap_i32,BitVec.toInt_eq_toNat_cond];split <;> omega
def wrap_toNat64(v:BitVec 64):IntKind.i64.wrap (v.toNat:Int)=v.toInt:=by
 have:=v.isLt
 rw[IntKind.wrap_i64,BitVec.toInt_eq_toNat_cond];split <;> omega
def bits_xor(x y:Int)(h: -2147483648<=x/\x<=2147483647)(I: -2147483648<=y/\y<=2147483647):bits .xor .i64 x y=bits .xor .i32 x y:=by show IntKind.i64.wrap ((BitVec.ofInt 64 x ^^^ BitVec.ofInt 64 y).toNat:Int)=IntKind.i32.wrap ((BitVec.ofInt 32 x ^^^ BitVec.ofInt 32 y).toNat:Int);rw[wrap_toNat32,wrap_toNat64,ym x h,ym y I,<-BitVec.signExtend_xor,BitVec.toInt_signExtend_of_le d_]
def jP(h:BinOp)(x y:Int): -2147483648<=bits h .i32 x y/\bits h .i32 x y<=2147483647:=by unfold bits;dsimp only;rw[IntKind.wrap_i32];omega
def EB(x y:Int)(I: -2147483648<=x/\x<=2147483647): -2147483648<=x.tdiv y/\x.tdiv y<=2147483648:=by
 have h:(x.tdiv y).natAbs<=x.natAbs:=by rw[Int.natAbs_tdiv];exact Nat.div_le_self _ _
 omega
def yo(x y:Int)(I: -2147483648<=x/\x<=2147483647): -2147483648<=x.tmod y/\x.tmod y<=2147483647:=by
 have h:(x.tmod y).natAbs<=x.natAbs:=by rw[Int.natAbs_tmod];exact Nat.mod_le _ _
 rcases Int.le_total 0 x with h0|h0
 have:=Int.tmod_nonneg y h0;omega
 obtain⟨z,rfl⟩:∃z,x= -z:=⟨-x,o_⟩;rw[Int.neg_tmod]at*;have:=Int.tmod_nonneg y (show 0<=z by omega);omega
def GA(x y:Int)(I: -2147483648<=x/\x<=2147483647)(J: -2147483648<=y/\y<=2147483647): -4611686018427387904<=x*y/\x*y<=4611686018427387904:=by
 have h:(x*y).natAbs<=2147483648*2147483648:=by rw[Int.natAbs_mul];exact Nat.mul_le_mul o_ o_
 omega
def jQ(y:Int): -31<=y.tmod 32/\y.tmod 32<=31:=by
 have h:(y.tmod 32).natAbs<=31:=by rw[Int.natAbs_tmod];have:=Nat.mod_lt y.natAbs (show 0<(32:Int).natAbs by decide);simp at*;omega
 omega
def w64_32(z:Int):wrap64 (wrap32 z)=wrap32 z:=by unfold wrap32 wrap64;omega
def rR(x:Int)(n:Nat)(I: -2147483648<=x/\x<=2147483647):wrap64 (x / 2 ^ n)=x / 2 ^ n:=by have h:=Int.natAbs_ediv_le_natAbs x (2 ^ n);unfold wrap64;omega
def ret_intA{k:IntKind}{a b:Int}(h:a=b):Ending.returned (.int k a)=rW (.int k b):=by rw[h]
end Ap
end
section
open Go.RowKit
section
variable{P:Program}{w:AT}
def gW(base:Nat)(t U e:JZ)(i:TypeInfo)(z:BY)(size bytes:Nat)(ht:P.underlying t=some (.slice e))(hi:P.info? e=some i)(hz:i.zero=some z)
  (Ja:i.size=size) (Jk:i.bytes=bytes) (Jp:z.cells.size=size) (Jo:0<size)
  (v:BY) (n:Nat) (I:List BY) (Je:w.ownsRow base e size v n I)
  (a:Addr) (m c:Nat) (Jb:List BY) (J:Jb.length=m*size) (Jc:∀j u,Jb[j]? =some u->w.cell? (a.add j)=some u) (h1:∀u∈Jb,u.oneCell'=true)
  (hm:n+m<=10000000) (Jr:bytes<=1000) (Jh:base<=w.heap.size):
  ∃v' w',(Builtin.append_ #[t,t] U #[v,.slice (some a) m c]).run P w=.ok v' w'/\w'.ownsRow base e size v' (n+m) (I++Jb)/\w.grownBy w' v.ownBlock/\∀k,v'.ownBlock=some k->v.ownBlock=some k\/w.heap.size<=k:=by
 have Jd:(n+m)*bytes<=140737488355328:=by
  have:(n+m)*bytes<=10000000*1000:=Nat.mul_le_mul hm Jr
  omega
 have Jl:n+m<=maxLen:=by unfold maxLen;omega
 have⟨v',w',Z,r2,r3,r4⟩:=run_append_own (P:=P) w base t U e i z size bytes ht hi hz Ja Jk Jp Jo v n I Je a m c Jb J Jc h1 Jl Jd Jh;refine⟨v',w',Z,r2,r3,λk hk=>?_⟩;have Jf:=Je;rcases Je.2 with⟨rfl,rfl⟩|⟨g,Ji,Jm,rfl,Jt,hg,Ju,Js,Jq,Jn⟩
 have hx:I=[]:=J3 (by have:=Je.1;simpa using this);subst hx;have⟨v2,w2,g1,g2,_⟩:=run_append_own (P:=P) w w.heap.size t U e i z size bytes ht hi hz Ja Jk Jp Jo nV 0 [] (ownsRow_nil _ _ _ _) a m c Jb J Jc h1 Jl Jd n_;rw[Z]at g1;simp only[Result.ok.injEq]at g1;obtain⟨rfl,rfl⟩:=g1;exact .inr (g2.lt k hk).1;by_cases hroom:n+m<=Ji;have Jj:n*i.size+Jb.length<=Jm.size:=by rw[Ja,J,Jq,<-Nat.add_mul];exact Nat.mul_le_mul_right _ hroom
 have h:=run_append_room (P:=P) w t U e i ht hi g n Ji Jm hg a m c Jb (by rw[Ja];exact J) Jc h1 hroom Jj;rw[Z]at h;simp only[Result.ok.injEq]at h;obtain⟨rfl,rfl⟩:=h;exact .inl hk;have Jg:∀j u,I[j]? =some u->w.cell? ((⟨g,0,none⟩:Addr).add j)=some u:=Jf.cells (g:=g) rfl;have h:=run_append_grow (P:=P) w t U e i z ht hi hz ⟨g,0,none⟩ n Ji I (by rw[Ja];exact Jf.1) Jg a m c Jb (by rw[Ja];exact J) Jc o_ o_ (by rw[Jk];exact growslice_fits o_ o_);rw[Z]at h;simp only[Result.ok.injEq]at h;obtain⟨rfl,rfl⟩:=h;simp only[ownBlock,J0]at hk;exact .inr o_
def cQ{ops:Array Oper}{Je:List Oper}{o:Oper}{a:Act}{Q:Exit->Act->AT->Prop}(Jg:o.guard=none)(s x:Operand)(t:JZ)
  (ho:o.op=.call {callee:=.builtin .append,args:=#[s,x],argTypes:=#[t,t]})
  (base:Nat) (e:JZ) (i:TypeInfo) (z:BY) (size bytes:Nat) (U:P.underlying t=some (.slice e)) (hi:P.info? e=some i) (hz:i.zero=some z)
  (Jb:i.size=size) (Jj:i.bytes=bytes) (Jk:z.cells.size=size) (Jh:0<size)
  (v:BY) (n:Nat) (I:List BY) (hs:a.eval s=v) (Jf:w.ownsRow base e size v n I)
  (ad:Addr) (m c:Nat) (Ja:List BY) (hx:a.eval x=.slice (some ad) m c) (hl:Ja.length=m*size) (Jd:∀j u,Ja[j]? =some u->w.cell? (ad.add j)=some u) (Z:∀u∈Ja,u.oneCell'=true)
  (hm:n+m<=10000000) (Ji:bytes<=1000) (Jc:base<=w.heap.size)
  (h:∀v' w',w'.ownsRow base e size v' (n+m) (I++Ja)->w.grownBy w' v.ownBlock->(∀k,v'.ownBlock=some k->v.ownBlock=some k\/w.heap.size<=k)->wpList P ops Q Je (a.put o.dst v') w'):wpList P ops Q (o::Je) a w:=by
 refine wpList_plain Jg λK hK=>?_;have⟨v',w',J,h2,h3,h4⟩:=gW (P:=P) (w:=w) base t o.type e i z size bytes U hi hz Jb Jj Jk Jh v n I Jf ad m c Ja hl Jd Z hm Ji Jc;unfold Oper.wp execOp;simp only[ho,resolve,invoke,builtin,Sem.run_bind,Sem.run_pure,Result.andThen_ok,map_toArray,map_cons,map_nil,hs,hx,J];exact hK _ _ (h v' w' h2 h3 h4)
end
end
section
open Go.RowKit
variable{S T:Ft}{a b c w w':AT}
structure aj (S:Ft) (W w':AT):Prop where
 os:w'.os=W.os
 tape:w'.tape=W.tape
 output:w'.output=W.output
 size:W.heap.size<=w'.heap.size
 block:∀k,k<W.heap.size->¬S k->w'.heap[k]? =W.heap[k]?
def aj.refl(S:Ft)(W:AT):aj S W W:=⟨rfl,rfl,rfl,n_,λ_ _ _=>rfl⟩
def aj.trans(h:aj S a b)(k:aj S b c):aj S a c:=
 ⟨k.os.trans h.os,k.tape.trans h.tape,k.output.trans h.output,t_ h.size k.size,λi hi hg=>(k.block i (l_ hi h.size) hg).trans (h.block i hi hg)⟩
def aj.next(h:aj S a b)(k:aj T b c)(hT:∀x,T x->S x\/a.heap.size<=x):aj S a c:=
 ⟨k.os.trans h.os,k.tape.trans h.tape,k.output.trans h.output,t_ h.size k.size,λi hi hg=>(k.block i (l_ hi h.size) (λt=>by rcases hT i t with x|x;exact hg x;omega)).trans (h.block i hi hg)⟩
def aj.mono(h:aj S a b)(hs:∀k,S k->T k):aj T a b:=
 ⟨h.os,h.tape,h.output,h.size,λk hk hn=>h.block k hk λs=>hn (hs k s)⟩
def aj.drew(h:aj S a w):aj S a w.drew:=h.trans ⟨rfl,rfl,rfl,n_,λ_ _ _=>rfl⟩
def aj.setCell(h:aj S a w){p:Addr}(hp:S p.block)(u:BY):aj S a (w.setCell p u):=
 h.trans ⟨rfl,rfl,rfl,i_,λk _ hk=>Below.heap_setCell w p u k λe=>hk (e ▸ hp)⟩
def aj.alloc(h:aj S a w)(o:Obj):aj S a (w.alloc o):=
 h.trans ⟨rfl,rfl,rfl,i_,λk hk _=>Below.heap_alloc w o k hk⟩
def aj.of_below(h:aj S a w)(hb:Bl w w'):aj S a w':=
 h.trans ⟨hb.os,hb.tape,hb.output,hb.size,λk hk _=>hb.block k hk⟩
def aj.below{B:Nat}(h:aj S w w')(hb:Below B a w)(hB:B<=w.heap.size)(hg:∀k,S k->B<=k):Below B a w':=
 ⟨h.os.trans hb.os,h.tape.trans hb.tape,h.output.trans hb.output,t_ hb.size h.size,λk hk=>(h.block k o_ (λs=>Ka (hg k s))).trans (hb.block k hk)⟩
def aj.of_grown{row:Option Nat}(hg:a.grownBy w row)(hr:∀k,row=some k->S k):aj S a w:=
 ⟨hg.os,hg.tape,hg.output,hg.size,λk hk hn=>hg.block k hk (λe=>hn (hr k e.symm))⟩
def _root_.Go.RowKit.Below.tcs(h:Bl a w):aj S a w:=⟨h.os,h.tape,h.output,h.size,λk hk _=>h.block k hk⟩
end
theorem BK(s:Io)(n:Nat):∀i r,s.size-i=n->ByteArray.toList.loop s i r=[]->r=[]:=by
 induction n with
 | zero=>intro i r I h;rw[ByteArray.toList.loop,if_neg o_]at h;simpa using h
 | succ n ih=>intro i r I h;rw[ByteArray.toList.loop,if_pos o_]at h;have:=ih (i+1) _ o_ h;simp at this
def BL{s:Io}(h:s.toList=[]):s.size=0:=by rcases Nat.eq_zero_or_pos s.size with I|hp;exact I;rw[ByteArray.toList,ByteArray.toList.loop,if_pos hp]at h;have:=BK s _ _ _ rfl h;simp at this
def tJ{n:Nd}(h:aJ n=true):n.nm.size<=20:=by
 have U:∀s,bh s=true->s.size<=20:=by
  intro s J;have:oq s:=by simpa[bh]using J
  exact this.2.1
 have I:n.nm.toList=[]->n.nm.size<=20:=by intro h;rw[BL h];decide
 unfold aJ at h;split at h <;> (try split at h) <;> (try split at h) <;> (try split at h) <;> (try split at h) <;> (try split at h) <;> simp at h;all_goals first|exact U _ h.2|exact I h.2|(apply I;simp[h.2])
section
variable{l:List Nd}
def defc:List Nd->Int
 | []=>1
 | n::r=>defc r+arity n-1
def fJ(l:List Nd):Prop:=∀n∈l,aJ n=true
theorem mv(l:List Nd)(U:fJ l)(k:Int):wholeTo l k=some 1↔defc l=k/\∀j,1<=j->j<=l.length->1<=defc (l.drop j):=by
 induction l generalizing k with
 | nil=>simp only[wholeTo,J0,defc,l_n,drop_nil];constructor;rintro rfl;exact⟨rfl,λj _ _=>Int.le_refl _⟩;rintro⟨rfl,_⟩;rfl
 | cons n r ih=>
  have Z:aJ n=true:=U n i_;have Ja:=ih (λm hm=>U m (by simp[hm]));simp only[wholeTo,Z,true_and];by_cases ha:arity n<=k;rw[if_pos ha,Ja,defc];constructor;rintro⟨J,h2⟩;refine⟨o_,λj hj1 hj2=>?_⟩;obtain⟨I,rfl⟩:∃I,j=I+1:=⟨j-1,o_⟩;rw[drop_succ_cons];rcases Nat.eq_zero_or_pos I with rfl|hp;rw[drop_zero];omega;exact h2 I hp (IN hj2);rintro⟨J,h2⟩;refine⟨o_,λj hj1 hj2=>?_⟩;have:=h2 (j+1) o_ (IN hj2);rwa[drop_succ_cons]at this;rw[if_neg ha];constructor;intro h;cases h;rintro⟨J,h2⟩;exfalso
  have:=h2 1 n_ i_
  simp only[drop_succ_cons,drop_zero]at this;simp only[defc]at J;omega
theorem kJ(l:List Nd)(k q:Int)(h:wholeTo l k=some q):fJ l:=by
 induction l generalizing k with
 | nil=>intro n hn;cases hn
 | cons m r ih=>simp only[wholeTo]at h;split at h;rename_i hm;intro n hn;rcases mem_cons.1 hn with rfl|hn;exact hm.1;exact ih _ h n hn;cases h
def jy(l:List Nd):oneB l=true↔fJ l/\defc l=0/\∀j,1<=j->j<=l.length->1<=defc (l.drop j):=by
 constructor;intro h;have J:wholeTo l 0=some 1:=by simpa[oneB]using h
 have I:=kJ l 0 1 J;exact⟨I,(mv l I 0).1 J⟩;rintro⟨I,h⟩;have:=(mv l I 0).2 h;simp[oneB,this]
def Gc(l:List Nd)(r:Int):Prop:=
 (∃i:Nat,r=i/\i<l.length/\defc (l.drop i)=0/\∀j,i<j->j<=l.length->1<=defc (l.drop j))\/(r= -1/\∀j,j<=l.length->1<=defc (l.drop j))
def zE{r:Int}(U:fJ l)(h:Gc l r):(r == 0)=oneB l:=by
 apply Bool.eq_iff_iff.2;rw[jy];simp only[beq_iff_eq];rcases h with⟨i,rfl,Z,J,I⟩|⟨rfl,I⟩;constructor;intro h;obtain rfl:i=0:=(by omega);exact⟨U,IN J,λj h1 h2=>I j o_ h2⟩;rintro⟨_,_,h⟩;rcases Nat.eq_zero_or_pos i with rfl|hp;rfl
 have:=h i hp o_;omega
 constructor;intro h;omega;rintro⟨_,h,_⟩;have:=I 0 y_;rw[drop_zero]at this;omega
def zF(l:List Nd)(i:Nat)(h:i<l.length):defc (l.drop i)=defc (l.drop (i+1))+arity l[i]-1:=by rw[drop_eq_getElem_cons h,defc]
theorem EC(l:List Nd)(h:fJ l):defc l<=1+6*l.length:=by
 induction l with
 | nil=>simp[defc]
 | cons n r ih=>
  have:=ih (λm hm=>h m (by simp[hm]))
  have:=dM (h n i_)
  simp only[defc,l_c];omega
def rS(hg:fJ l)(i:Nat):fJ (l.drop i):=λn hn=>hg n (J6 hn)
end
section
variable{e:List Nd}
def zG(ns:List Nd)(k i:Nat):Prop:=i<k/\defc ((ns.take k).drop i)=0/\∀j,i<j->j<=k->1<=defc ((ns.take k).drop j)
theorem wF(l:List Nd)(k q:Int)(h:wholeTo l k=some q):defc l=1+k-q:=by
 induction l generalizing k with
 | nil=>simp only[wholeTo,J0]at h;subst h;simp[defc]
 | cons n r ih=>
  simp only[wholeTo]at h;split at h
  have:=ih _ h
  simp only[defc];omega;cases h
theorem fV(l:List Nd)(k q:Int)(h:wholeTo l k=some q)(j:Nat):∃p,wholeTo (l.take j) k=some p/\wholeTo (l.drop j) p=some q:=by
 rw[<-take_append_drop j l,wholeTo_append]at h;cases e:wholeTo (l.take j) k with
 | none=>rw[e]at h;cases h
 | some p=>rw[e]at h;exact⟨p,rfl,h⟩
def zH(l:List Nd)(q:Int)(U:0<l.length)(h:wholeTo l 0=some q):1<=q:=by obtain⟨m,I⟩:∃m,l.length=m+1:=⟨l.length-1,o_⟩;have⟨p,J,h2⟩:=fV l 0 q h m;have:=fI l m p o_ J;rw[<-I,take_length,h]at this;split at this;rename_i hh;simp only[J0]at this;omega;cases this
def zI(l:List Nd)(p:Int)(h:wholeTo l 0=some p)(m:Nat)(Z:l.length=m+1)(i:Nat)(U:i<l.length)(a:Int)(J:wholeTo (l.take i) 0=some a):∃c,wholeTo (l.take (i+1)) 0=some c/\c<=a+1:=by
 have⟨c,I,h2⟩:=fV l 0 p h (i+1);have:=fI l i a U J;rw[I]at this;split at this
 rename_i hh;have:=dM hh.1;simp only[J0]at*;exact⟨c,I,o_⟩;cases this
theorem zJ(l:List Nd)(c:Int)(hc:0<=c)(h:wholeTo l 0=some (c+1)):∃i,i<l.length/\wholeTo (l.take i) 0=some c/\∀j,i<j->j<=l.length->∃p,wholeTo (l.take j) 0=some p/\c+1<=p:=by
 have hl:0<l.length:=by
  cases l with
  | nil=>simp only[wholeTo,J0]at h;omega
  | cons=>simp
 obtain⟨m,Z⟩:∃m,l.length=m+1:=⟨l.length-1,o_⟩;have Ja:∀d,d<=l.length->(∃i,l.length-d<=i/\i<l.length/\wholeTo (l.take i) 0=some c/\∀j,i<j->j<=l.length->∃p,wholeTo (l.take j) 0=some p/\c+1<=p)\/(∀j,l.length-d<=j->j<=l.length->∃p,wholeTo (l.take j) 0=some p/\c+1<=p):=by
  intro d;induction d with
  | zero=>intro _;refine .inr λj I h2=>?_;obtain rfl:j=l.length:=(by omega);rw[take_length];exact⟨_,h,Int.le_refl _⟩
  | succ d ih=>
   intro hd;rcases ih o_ with⟨i,I,h2⟩|hall;exact .inl ⟨i,o_,h2⟩
   have⟨a,U,_⟩:=fV l 0 _ h (l.length-(d+1));have⟨c',I,h2⟩:=zI l _ h m Z (l.length-(d+1)) o_ a U;have⟨p,J,Jb⟩:=hall (l.length-(d+1)+1) o_ o_;rw[I]at J;simp only[J0]at J;by_cases e:a=c
   subst e;exact .inl ⟨_,n_,o_,U,λj h3 h4=>hall j o_ h4⟩;refine .inr λj h3 h4=>?_;by_cases e2:j=l.length-(d+1)
   subst e2;exact⟨a,U,o_⟩;exact hall j o_ h4
 rcases Ja l.length n_ with⟨i,_,I⟩|hall;exact⟨i,I⟩
 have⟨p,J,Jb⟩:=hall 0 o_ o_;simp only[take_zero,wholeTo,J0]at J;omega
def zK(e:List Nd)(k:Nat)(c:Int)(hk:k<=e.length)(hc:0<=c)(h:wholeTo (e.take k) 0=some (c+1)):
  ∃i,zG e k i/\wholeTo (e.take i) 0=some c/\oneB ((e.take k).drop i)=true:=by
 have Ja:(e.take k).length=k:=by simp;omega
 have⟨i,h1,h2,h3⟩:=zJ (e.take k) c hc h;rw[Ja]at h1 h3;have hd:∀j,j<=k->∀p,wholeTo ((e.take k).take j) 0=some p->defc ((e.take k).drop j)=p-c:=by intro j hj p U;have⟨p',J,I⟩:=fV (e.take k) 0 _ h j;rw[U]at J;simp only[J0]at J;subst J;have:=wF _ _ _ I;omega
 have Z:zG e k i:=by
  refine⟨h1,?_,λj J I=>?_⟩;rw[hd i o_ c h2];omega
  have⟨p,U,Jb⟩:=h3 j J I;rw[hd j I p U];omega
 refine⟨i,Z,?_,?_⟩;rw[take_take,Nat.min_eq_left o_]at h2;exact h2;rw[jy];refine⟨λn hn=>kJ _ _ _ h n (J6 hn),Z.2.1,λj J I=>?_⟩;rw[drop_drop];simp only[length_drop,Ja]at I;exact Z.2.2 (i+j) o_ o_
def JV:Nd:=⟨1,0,⟨#[]⟩⟩
def aq(e:List Nd):Nd:=e.getD (e.length-1) JV
structure Cut (e:List Nd) (A:Nat) (b:Nat->Nat):Prop where
 len:0<e.length
 ar:arity (aq e)=A
 good:fJ e
 last:b A=e.length-1
 first:b 0=0
 beg:∀i,i<A->zG e (b (i+1)) (b i)
def kid(e:List Nd)(b:Nat->Nat)(i:Nat):List Nd:=(e.take (b (i+1))).drop (b i)
theorem zL(e:List Nd)(he:0<e.length)(A:Nat):∀k,k<=e.length->wholeTo (e.take k) 0=some (A:Int)->∃b:Nat->Nat,b A=k/\b 0=0/\∀i,i<A->zG e (b (i+1)) (b i)/\oneB (kid e b i)=true:=by
 induction A with
 | zero=>
  intro k I h;refine⟨λ_=>0,?_,rfl,λi hi=>absurd hi o_⟩;rcases Nat.eq_zero_or_pos k with rfl|hp;rfl
  have:=zH (e.take k) _ H6 h
  omega
 | succ A ih=>
  intro k I h;have⟨i,J,h2,h3⟩:=zK e k A I o_ (by rw[h];rfl);have⟨b,Z,U,g3⟩:=ih i (Ka J.1) h2;refine⟨λj=>if j=A+1 then k else b j,i_,by simp[U],λj hj=>?_⟩;by_cases e1:j=A;subst e1;simp only[kid,if_true,Nat.succ_ne_self,if_neg (show ¬j=j+1 by omega),Z];exact⟨J,h3⟩
  have:=g3 j o_
  simp only[kid,if_neg (show ¬j=A+1 by omega),if_neg (show ¬j+1=A+1 by omega)];exact this
def iE(e:List Nd)(h:0<e.length):aq e=e[e.length-1]'(by omega):=by simp[aq,List.getD,J4 (show e.length-1<e.length by omega)]
theorem kK(h:oneB e=true):0<e.length:=by
 cases e with
 | nil=>simp[oneB,wholeTo]at h
 | cons=>simp
def iG(h:oneB e=true):fJ e:=((jy e).1 h).1
def BM(h:oneB e=true):aJ (aq e)=true:=by rw[iE e (kK h)];exact iG h _ (g_ _)
def jz(h:oneB e=true):∃A b,Cut e A b/\∀i,i<A->oneB (kid e b i)=true:=by
 have I:=kK h;have U:wholeTo e 0=some 1:=by simpa[oneB]using h
 have⟨q,Z,h2⟩:=fV e 0 1 U (e.length-1);have J:=fI e (e.length-1) q o_ Z;rw[show e.length-1+1=e.length by omega,take_length,U]at J;split at J
 simp only[J0]at J;have hb:=dM (BM h);rw[iE e I]at hb;obtain⟨A,hA⟩:∃A:Nat,q=A:=⟨q.toNat,o_⟩;subst hA;have⟨b,g1,g2,g3⟩:=zL e I A (e.length-1) o_ Z;exact⟨A,b,⟨I,by rw[iE e I];omega,iG h,g1,g2,λi hi=>(g3 i hi).1⟩,λi hi=>(g3 i hi).2⟩;cases J
end
section
open Go.RowKit
variable{w w':AT}{g:Nat}{xs:List BY}
def aN(w:AT)(g:Nat)(xs:List BY):Prop:=∀j x,xs[j]? =some x->w.cell? ⟨g,j,none⟩=some x/\w.frozen? ⟨g,j,none⟩=false
theorem aN.set(h:aN w g xs)(i:Nat)(u:Value):aN (w.setCell ⟨g,i,none⟩ u) g (xs.set i u):=by intro j x I;rw[World.frozen?_setCell];by_cases e:i=j;subst e;have J:=(List.getElem?_eq_some_iff.1 I).1;rw[List.length_set]at J;rw[List.getElem?_set_self J]at I;have⟨c,f⟩:=h i xs[i] (List.getElem?_eq_getElem J);refine⟨?_,f⟩;rw[World.cell?_setCell_same _ _ _ c];exact I;rw[List.getElem?_set_ne e]at I;have⟨c,f⟩:=h j x I;refine⟨?_,f⟩;rw[s_ _ _ _ _ (by intro h;simp only[Addr.mk.injEq]at h;omega)];exact c
def aN.keep(h:aN w g xs)(e:w'.heap[g]? =w.heap[g]?):aN w' g xs:=λj x hx=>by have⟨c,f⟩:=h j x hx;exact⟨(c_ (a:=⟨g,j,none⟩) e).trans c,(frozen?_of_block (a:=⟨g,j,none⟩) e).trans f⟩
def aN.below(h:aN w g xs)(hb:Bl w w'):aN w' g xs:=λj x hx=>by have⟨c,f⟩:=h j x hx;have hlt:=b_ c;exact⟨(hb.cell (p:=⟨g,j,none⟩) hlt).trans c,(hb.frozen (p:=⟨g,j,none⟩) hlt).trans f⟩
def aN.tcs{S:Ft}(h:aN w g xs)(hl:g<w.heap.size)(ht:aj S w w')(hn:¬S g):aN w' g xs:=h.keep (ht.block g hl hn)
def aI(w:AT)(cs:Array BY)(t:JZ)(U:cs.size<=1000):aN (w.alloc (.cells cs t)) w.heap.size cs.toList:=by
 intro j x J;have h:(w.alloc (.cells cs t)).ownsRow w.heap.size t 1 (rV w.heap.size cs.size cs.size) cs.size cs.toList:=ownsRow_lit w cs cs.size n_ (by unfold maxLen;omega) o_;have I:=ownsRow.cells h (g:=w.heap.size) rfl j x J;have e:(⟨w.heap.size,0,none⟩:Addr).add j=⟨w.heap.size,j,none⟩:=by simp[Addr.add];try (intro h;omega)
 rw[e]at I;refine⟨I,?_⟩;rcases h.2 with⟨e,-⟩|⟨g,Jb,Ja,e,h3,h4,h5⟩;simp at e;simp only[Value.slice.injEq,J0,Addr.mk.injEq]at e;obtain⟨⟨rfl,-,-⟩,-,-⟩:=e;unfold frozen?;simp only[h4];simp
end
def lastKind(e:List Nd):Int:=match e[e.length-1]? with|some n=>n.kd|none=>0
def stmtB(s:St):Bool:=
 decide (1<=s.kd/\s.kd<=8)&&(if s.kd<=3 then bh s.nm else s.nm.toList == [])&&oneB s.e&&(if s.kd=3 then oneB s.f else s.f.length == 0)&&(decide (s.kd≠8) || lastKind s.e == 4)&&(decide (s.kd=4\/s.kd=5) || s.th == 0)&&(decide (s.kd=4) || s.el == 0)
theorem tK{l:List Nd}(h:oneB l=true):0<l.length:=by
 cases l with
 | nil=>simp[oneB,wholeTo]at h
 | cons n r=>simp
section
variable{e:List Nd}{A:Nat}{b:Nat->Nat}
theorem Cut.le(h:Cut e A b):∀d,d<=A->b (A-d)<=e.length-1:=by
 intro d;induction d with
 | zero=>intro _;rw[Nat.sub_zero,h.last];exact n_
 | succ d ih=>intro I;have:=ih o_;have h2:=(h.beg (A-(d+1)) o_).1;rw[show A-(d+1)+1=A-d by omega]at h2;omega
def Cut.le'(h:Cut e A b)(i:Nat)(I:i<=A):b i<=e.length-1:=by
 have:=h.le (A-i) o_
 rwa[show A-(A-i)=i by omega]at this
def Cut.kid_len(h:Cut e A b)(i:Nat)(I:i<A):(kid e b i).length=b (i+1)-b i:=by
 have:=h.le' (i+1) o_
 simp[kid];omega
def Cut.kid_lt(h:Cut e A b)(i:Nat)(I:i<A):(kid e b i).length<e.length:=by
 rw[h.kid_len i I];have:=h.le' (i+1) o_
 have:=h.len
 omega
def Cut.root_good(h:Cut e A b):aJ (aq e)=true:=by rw[iE e h.len];exact h.good _ (g_ _)
def Cut.arA(h:Cut e A b):A<=6:=by
 have:=dM h.root_good
 have:=h.ar
 omega
end
def mV:Nat->List St->Bool
 | _,[]=>true
 | 0,_::_=>false
 | n+1,s::r=>decide (0<=s.th/\s.th<=r.length/\0<=s.el/\s.el<=r.length-s.th)&&(mV n (r.take s.th.toNat)&&(mV n ((r.take (s.th.toNat+s.el.toNat)).drop s.th.toNat)&&mV n (r.drop (s.th.toNat+s.el.toNat))))
def bw(l:List St):Bool:=mV l.length l
theorem ot(n m:Nat)(l:List St)(I:l.length<=n)(h:l.length<=m):mV n l=mV m l:=by
 induction n generalizing m l with
 | zero=>
  have:l=[]:=J3 o_
  subst this;cases m <;> rfl
 | succ n ih=>
  cases l with
  | nil=>cases m <;> rfl
  | cons s r=>
   cases m with
   | zero=>simp at h
   | succ m=>simp only[l_c]at I h;simp only[mV];rw[ih m (r.take s.th.toNat) H6 H6,ih m ((r.take (s.th.toNat+s.el.toNat)).drop s.th.toNat) H6 H6,ih m (r.drop (s.th.toNat+s.el.toNat)) H6 H6]
def fitB_cons(s:St)(r:List St):bw (s::r)=(decide (0<=s.th/\s.th<=r.length/\0<=s.el/\s.el<=r.length-s.th)&&(bw (r.take s.th.toNat)&&(bw ((r.take (s.th.toNat+s.el.toNat)).drop s.th.toNat)&&bw (r.drop (s.th.toNat+s.el.toNat))))):=by have h:bw (s::r)=mV (r.length+1) (s::r):=rfl;rw[h];simp only[mV];rw[ot r.length _ (r.take s.th.toNat) H6 n_,ot r.length _ ((r.take (s.th.toNat+s.el.toNat)).drop s.th.toNat) H6 n_,ot r.length _ (r.drop (s.th.toNat+s.el.toNat)) i_ n_];rfl
theorem BN(n:Nat):∀l:List St,l.length<=n->bw l=true->∀s∈l,0<=s.th/\0<=s.el:=by
 induction n with
 | zero=>intro l I _ s hs;have:l=[]:=J3 o_;subst this;cases hs
 | succ n ih=>
  intro l I h s hs;cases l with
  | nil=>cases hs
  | cons t r=>
   simp only[l_c]at I;rw[fitB_cons]at h;simp only[J1,J2]at h;obtain⟨J,Z,h2,h3⟩:=h;rcases mem_cons.1 hs with rfl|hs;exact⟨J.1,J.2.2.1⟩
   have U:r=r.take t.th.toNat++((r.take (t.th.toNat+t.el.toNat)).drop t.th.toNat++r.drop (t.th.toNat+t.el.toNat)):=by
    rw[<-append_assoc];have e:r.take t.th.toNat++(r.take (t.th.toNat+t.el.toNat)).drop t.th.toNat=r.take (t.th.toNat+t.el.toNat):=by
     have:=take_append_drop t.th.toNat (r.take (t.th.toNat+t.el.toNat))
     rwa[take_take,Nat.min_eq_left o_]at this
    rw[e,take_append_drop]
   rw[U]at hs;rcases J5.1 hs with hs|hs;exact ih _ H6 Z s hs;rcases J5.1 hs with hs|hs;exact ih _ H6 h2 s hs;exact ih _ H6 h3 s hs
section
open Go.RowKit
variable{e r:List Nd}{A:Nat}{b:Nat->Nat}{F F':Nat->List Nd}
def dL(v:Int):List Nd:=[⟨1,v,⟨#[]⟩⟩]
def dY:List Nd->Option Int
 | [n]=>if n.kd=1 then some n.val else none
 | _=>none
def boolN(b:Bool):Int:=if b then 1 else 0
def Ge(x:Int):Int:=wrap32 x
def rT(op a:Int):Int:=if op=0 then Ge (-a)else if op=1 then boolN (decide (a=0))else Ge (-1-a)
def di(e:List Nd):List Nd:=match dY e with
 | some v=>dL (boolN (decide (v≠0)))
 | none=>e++[⟨1,0,⟨#[]⟩⟩,⟨7,12,⟨#[]⟩⟩]
def joinF(F:Nat->List Nd):Nat->List Nd
 | 0=>[]
 | i+1=>joinF F i++F i
def cj(ap:Int->Int->Int->Int)(n:Nd)(A:Nat)(F:Nat->List Nd):List Nd:=
 if n.kd=6 then(match dY (F 0)with|some x=>dL (rT n.val x)|none=>F 0++[n])
 else if n.kd=7 then(match dY (F 0),dY (F 1)with|some x,some y=>dL (ap n.val x y)|_,_=>F 0++F 1++[n])
 else if n.kd=8 then(match dY (F 0)with|some x=>if x=0 then dL 0 else di (F 1)|none=>F 0++F 1++[n])
 else if n.kd=9 then(match dY (F 0)with|some x=>if x=0 then di (F 1)else dL 1|none=>F 0++F 1++[n])
 else joinF F A++[n]
structure FdC (ap:Int->Int->Int->Int)(P:List Nd->List Nd->Prop):Prop where
 c_::
 mk:∀e A(b:Nat->Nat)(F:Nat->List Nd),Cut e A b->(∀i,i<A->P (kid e b i) (F i))->P e (cj ap (aq e) A F)
structure Fd (ap:Int->Int->Int->Int)(a0:List Nd)(a1:List Nd):Prop where
 c_::
 out:∀P,FdC ap P->P a0 a1
theorem Fd.C{ap:Int->Int->Int->Int}:FdC ap (Fd ap):=⟨λe A b F q0 q1=>⟨λP h=>h.mk e A b F q0 (λi r0=>(q1 i r0).out P h)⟩⟩
abbrev Fd.mk {ap}:=(Fd.C:FdC ap _).mk
theorem Fd_i{ap:Int->Int->Int->Int}{M:∀(a0:List Nd)(a1:List Nd),Fd ap a0 a1->Prop}
 (mk:∀e A(b:Nat->Nat)(F:Nat->List Nd),Cut e A b->∀q1:∀i,i<A->Fd ap (kid e b i) (F i),(∀ i (r0 : i<A),M (kid e b i) (F i) (q1 i r0))->∀t,M e (cj ap (aq e) A F) t)
 {a0:List Nd}{a1:List Nd}(t:Fd ap a0 a1):M a0 a1 t:=
 (t.out (λa0 a1=>∃z_,M a0 a1 z_) ⟨λe A b F q0 q1=>⟨.mk e A b F q0 (λi r0=>(q1 i r0).1),mk e A b F q0 _ (λi r0=>(q1 i r0).2) _⟩⟩).2
theorem Fd.exists(ap:Int->Int->Int->Int)(N:Nat):∀e:List Nd,e.length<=N->oneB e=true->∃s,Fd ap e s:=by
 induction N with
 | zero=>intro e U h;have:=kK h;omega
 | succ N ih=>
  intro e U h;have⟨A,b,I,J⟩:=jz h;have:∀i,∃s,i<A->Fd ap (kid e b i) s:=by
   intro i;by_cases hi:i<A
   have⟨s,Z⟩:=ih (kid e b i) (Ka (I.kid_lt i hi)) (J i hi);exact⟨s,λ_=>Z⟩
   exact⟨[],λh=>absurd h hi⟩
  exact⟨_,Fd.mk e A b (λi=>(this i).choose) I (λi hi=>(this i).choose_spec hi)⟩
def BO{I:List Nd}{k i j:Nat}(h:zG I k i)(Z:zG I k j):i=j:=by
 obtain⟨a1,a2,J⟩:=h;obtain⟨b1,b2,U⟩:=Z;rcases Nat.lt_trichotomy i j with h|h|h
 have:=J j h o_;omega
 exact h
 have:=U i h o_;omega
theorem Cut.one{U:Nat}{I:Nat->Nat}(h:Cut e A b)(J:Cut e U I):A=U/\∀i,i<=A->b i=I i:=by
 have hA:A=U:=Ia h.ar J.ar;subst hA;refine⟨rfl,?_⟩;have:∀d,d<=A->b (A-d)=I (A-d):=by
  intro d;induction d with
  | zero=>intro _;rw[Nat.sub_zero,h.last,J.last]
  | succ d ih=>intro hd;have e1:=ih o_;have Z:=h.beg (A-(d+1)) o_;have h2:=J.beg (A-(d+1)) o_;rw[show A-(d+1)+1=A-d by omega]at Z h2;rw[<-e1]at h2;exact BO Z h2
 intro i hi;have:=this (A-i) o_;rwa[show A-(A-i)=i by omega]at this
theorem tL(A:Nat)(h:∀i,i<A->F i=F' i):joinF F A=joinF F' A:=by
 induction A with
 | zero=>rfl
 | succ A ih=>simp only[joinF];rw[ih (λi hi=>h i o_),h A o_]
def Cut.ar1(h:Cut e A b)(I:(aq e).kd=3\/(aq e).kd=6):A=1:=by
 have:=h.ar
 unfold arity at this;rw[if_pos I]at this;omega
def Cut.ar2(h:Cut e A b)(I:(aq e).kd=7\/(aq e).kd=8\/(aq e).kd=9):A=2:=by
 have:=h.ar
 unfold arity at this;rw[if_neg o_,if_neg o_,if_pos I]at this;omega
def tN(ap:Int->Int->Int->Int)(I:Cut e A b)(h:∀i,i<A->F i=F' i):cj ap (aq e) A F=cj ap (aq e) A F':=by unfold cj;split;rename_i hk;have:=I.ar1 (.inr hk);rw[h 0 o_];split;rename_i hk;have:=I.ar2 (.inl hk);rw[h 0 o_,h 1 o_];split;rename_i hk;have:=I.ar2 (.inr (.inl hk));rw[h 0 o_,h 1 o_];split;rename_i hk;have:=I.ar2 (.inr (.inr hk));rw[h 0 o_,h 1 o_];rw[tL A h]
theorem Fd.one{ap:Int->Int->Int->Int}{I:List Nd}(h:Fd ap e r)(Z:Fd ap e I):r=I:=by
 induction h using Fd_i generalizing I with
 | mk e A b F hc hk ih=>
  cases Z using Fd_i with
  | mk _ A' b' F' hc' hk'=>
   obtain⟨rfl,J⟩:=hc.one hc';have:∀i,i<A->F i=F' i:=λi hi=>ih i hi (by have U:kid e b i=kid e b' i:=(by unfold kid;rw[J i o_,J (i+1) o_]);rw[U];exact hk' i hi)
   exact tN ap hc this
theorem zM(I:Cut e A b)(h:∀i,i<A->(F i).length<=(kid e b i).length):∀i,i<=A->(joinF F i).length<=b i:=by
 intro i;induction i with
 | zero=>intro _;simp[joinF]
 | succ i ih=>intro U;have J:=ih o_;have h2:=h i o_;rw[I.kid_len i o_]at h2;have h3:=(I.beg i o_).1;simp only[joinF,l_a];omega
def ox(e:List Nd):(di e).length<=e.length+2:=by unfold di;split <;> simp[dL]
theorem Fd.len{ap:Int->Int->Int->Int}(h:Fd ap e r):r.length<=e.length:=by
 induction h using Fd_i with
 | mk e A b F hc hk ih=>have hl:=hc.len;have Ja:=hc.last;have hj:=zM hc ih A n_;unfold cj;split;rename_i hk1;have I:=hc.ar1 (.inr hk1);subst I;have J:=ih 0 o_;rw[hc.kid_len 0 o_]at J;split;simp[dL];omega;simp only[l_a,l_c,l_n,Nat.zero_add]at*;omega;split;rename_i hk1;have I:=hc.ar2 (.inl hk1);subst I;have J:=ih 0 o_;have U:=ih 1 o_;have b0:=(hc.beg 0 o_).1;have Z:=(hc.beg 1 o_).1;rw[hc.kid_len 0 o_]at J;rw[hc.kid_len 1 o_]at U;split;simp[dL];omega;simp only[l_a,l_c,l_n,Nat.zero_add,Nat.reduceAdd]at*;omega;split;rename_i hk1;have I:=hc.ar2 (.inr (.inl hk1));subst I;have J:=ih 0 o_;have U:=ih 1 o_;have b0:=(hc.beg 0 o_).1;have Z:=(hc.beg 1 o_).1;rw[hc.kid_len 0 o_]at J;rw[hc.kid_len 1 o_]at U;have ht:=ox (F 1);simp only[Nat.zero_add,Nat.reduceAdd]at*;split;split;simp[dL];omega;omega;simp only[l_a,l_c,l_n]at*;omega;split;rename_i hk1;have I:=hc.ar2 (.inr (.inr hk1));subst I;have J:=ih 0 o_;have U:=ih 1 o_;have b0:=(hc.beg 0 o_).1;have Z:=(hc.beg 1 o_).1;rw[hc.kid_len 0 o_]at J;rw[hc.kid_len 1 o_]at U;have ht:=ox (F 1);simp only[Nat.zero_add,Nat.reduceAdd]at*;split;split;omega;simp[dL];omega;simp only[l_a,l_c,l_n]at*;omega;simp only[l_a,l_c,l_n];omega
end
section
open Go.RowKit
variable{e:List Nd}{T:List (List Nd)}
theorem tP(l:List Nd)(d:Int)(I:0<=d):∀(k q:Int),wholeTo l k=some q->wholeTo l (k+d)=some (q+d):=by
 induction l with
 | nil=>intro k q h;simp only[wholeTo,J0]at*;omega
 | cons n r ih=>intro k q h;simp only[wholeTo]at*;split at h;rename_i hh;rw[if_pos ⟨hh.1,o_⟩];have:=ih _ _ h;rw[show k+d+1-arity n=k+1-arity n+d by omega];exact this;cases h
def lF{s:List Nd}(h:oneB s=true):wholeTo s 0=some 1:=by simpa[oneB]using h
theorem fK(T:List (List Nd))(h:∀s∈T,oneB s=true):∀k:Int,0<=k->wholeTo T.flatten k=some (k+T.length):=by
 induction T with
 | nil=>intro k J;simp[wholeTo]
 | cons s T ih=>intro k J;rw[flatten_cons,wholeTo_append];have I:=tP s k J 0 1 (lF (h s i_));rw[show(0:Int)+k=k by omega]at I;rw[I,Option.bind_some,ih (λs hs=>h s (by simp[hs])) (1+k) o_];simp only[l_c,J0];omega
def zN(T:List (List Nd))(i:Nat)(I:i<T.length):T.flatten.take (T.take (i+1)).flatten.length=(T.take i).flatten++T[i]:=by
 have e:T=T.take (i+1)++T.drop (i+1):=(take_append_drop _ _).symm;have h:T.flatten=(T.take (i+1)).flatten++(T.drop (i+1)).flatten:=by rw[<-flatten_append,<-e]
 rw[h,take_left,take_add_one,flatten_append];simp[J4 I]
def BP(T:List (List Nd))(i:Nat)(h:i<T.length):(T.take (i+1)).flatten.length=(T.take i).flatten.length+T[i].length:=by rw[take_add_one,flatten_append,l_a];simp[J4 h]
def ED(T:List (List Nd))(i:Nat):(T.take i).flatten.length<=T.flatten.length:=by
 have h:T.flatten=(T.take i).flatten++(T.drop i).flatten:=by rw[<-flatten_append,take_append_drop]
 rw[h,l_a];omega
def kL(T:List (List Nd))(n:Nd)(i:Nat)(h:i<T.length):((T.flatten++[n]).take (T.take (i+1)).flatten.length).drop (T.take i).flatten.length=T[i]:=by rw[take_append_of_le_length (ED T _),zN T i h,drop_left]
def bR(l:List Nd)(n:Nd):aq (l++[n])=n:=by simp[aq]
def d9(T:List (List Nd))(n:Nd)(I:aJ n=true)(J:arity n=T.length)(h:∀s∈T,oneB s=true):oneB (T.flatten++[n])=true:=by
 have:wholeTo (T.flatten++[n]) 0=some 1:=by rw[wholeTo_append,fK T h 0 (Int.le_refl _),Option.bind_some];simp only[wholeTo];rw[if_pos ⟨I,o_⟩];simp only[J0];omega
 simpa[oneB]using this
def oy(T:List (List Nd))(n:Nd)(U:aJ n=true)(J:arity n=T.length)(h:∀s∈T,oneB s=true):
  Cut (T.flatten++[n]) T.length (λi=>(T.take i).flatten.length):=by
 refine⟨i_,by rw[bR];exact J,iG (d9 T n U J h),i_,i_,λi hi=>?_⟩;have hl:=BP T i hi;have I:=(jy T[i]).1 (h _ (g_ _));have Z:=kK (h _ (g_ hi));refine⟨o_,?_,λj h1 h2=>?_⟩;rw[kL T n i hi];exact I.2.1;have e:((T.flatten++[n]).take (T.take (i+1)).flatten.length).drop j=T[i].drop (j-(T.take i).flatten.length):=by rw[<-kL T n i hi,drop_drop];congr 1;omega
 rw[e];exact I.2.2 _ o_ o_
def nr(ap:Int->Int->Int->Int)(T:List (List Nd))(n:Nd)(J:aJ n=true)(I:arity n=T.length)(h:∀s∈T,oneB s=true)(F:Nat->List Nd)(U:∀i (hi:i<T.length),Fd ap T[i] (F i)):
  Fd ap (T.flatten++[n]) (cj ap n T.length F):=by
 have:=Fd.mk (ap:=ap) (T.flatten++[n]) T.length _ F (oy T n J I h) (λi hi=>by rw[kid,kL T n i hi];exact U i hi)
 rwa[bR]at this
def qH(U:oneB e=true)(h:∀s∈T,oneB s=true){k:Nat}(J:k<e.length)(Z:T.flatten=e.take k):aJ e[k]=true/\arity e[k]<=T.length:=by have I:=lF U;have⟨p,h2,h3⟩:=fV e 0 1 I (k+1);have h4:=fK T h 0 (Int.le_refl _);rw[Z]at h4;have:=fI e k _ J h4;rw[h2]at this;split at this;rename_i hh;exact⟨hh.1,o_⟩;cases this
def tQ(J:oneB e=true)(h:∀s∈T,oneB s=true)(I:T.flatten=e):T=[e]:=by have h4:=fK T h 0 (Int.le_refl _);rw[I,lF J]at h4;simp only[J0]at h4;have h5:T.length=1:=o_;obtain⟨s,rfl⟩:=length_eq_one_iff.1 h5;simp at I;rw[I]
end
section
variable{l:List St}
def aV(s:St)(a b:List St):List St:=
 if s.kd=4 then(match dY s.e with
  | some v=>if v=0 then b else a
  | none=> {s with th:=a.length,el:=b.length}::(a++b))
 else if s.kd=5 then(if dY s.e=some 0 then[]else {s with th:=a.length,el:=b.length}::(a++b))
 else {s with th:=a.length,el:=b.length}::(a++b)
def oA:Nat->List St->Bool
 | _,[]=>false
 | 0,_::_=>false
 | n+1,s::r=>decide (s.kd=6) || oA n (r.drop (s.th.toNat+s.el.toNat))
def ed(l:List St):Bool:=oA l.length l
theorem zO(n m:Nat)(l:List St)(I:l.length<=n)(h:l.length<=m):oA n l=oA m l:=by
 induction n generalizing m l with
 | zero=>
  have:l=[]:=J3 o_
  subst this;cases m <;> rfl
 | succ n ih=>
  cases l with
  | nil=>cases m <;> rfl
  | cons s r=>
   cases m with
   | zero=>simp at h
   | succ m=>simp only[l_c]at I h;simp only[oA];rw[ih m (r.drop (s.th.toNat+s.el.toNat)) H6 H6]
def endsB_cons(s:St)(r:List St):ed (s::r)=(decide (s.kd=6) || ed (r.drop (s.th.toNat+s.el.toNat))):=by show oA (r.length+1) (s::r)=_;simp only[oA];rw[zO r.length _ (r.drop (s.th.toNat+s.el.toNat)) i_ n_];rfl
def iH:Nat->List St->List St
 | _,[]=>[]
 | 0,_::_=>[]
 | n+1,s::r=>
  if ed (aV s (iH n (r.take s.th.toNat)) (iH n ((r.drop s.th.toNat).take s.el.toNat)))=true then aV s (iH n (r.take s.th.toNat)) (iH n ((r.drop s.th.toNat).take s.el.toNat))
  else aV s (iH n (r.take s.th.toNat)) (iH n ((r.drop s.th.toNat).take s.el.toNat))++iH n (r.drop (s.th.toNat+s.el.toNat))
def aM(l:List St):List St:=iH l.length l
theorem lG(n m:Nat)(l:List St)(I:l.length<=n)(h:l.length<=m):iH n l=iH m l:=by
 induction n generalizing m l with
 | zero=>
  have:l=[]:=J3 o_
  subst this;cases m <;> rfl
 | succ n ih=>
  cases l with
  | nil=>cases m <;> rfl
  | cons s r=>
   cases m with
   | zero=>simp at h
   | succ m=>simp only[l_c]at I h;simp only[iH];rw[ih m (r.take s.th.toNat) H6 H6,ih m ((r.drop s.th.toNat).take s.el.toNat) H6 H6,ih m (r.drop (s.th.toNat+s.el.toNat)) H6 H6]
def gP:aM []=[]:=rfl
def gX(s:St)(r:List St):List St:=aV s (aM (r.take s.th.toNat)) (aM ((r.drop s.th.toNat).take s.el.toNat))
def tidyB_cons(s:St)(r:List St):aM (s::r)=if ed (gX s r)=true then gX s r else gX s r++aM (r.drop (s.th.toNat+s.el.toNat)):=by show iH (r.length+1) (s::r)=_;simp only[iH];rw[lG r.length _ (r.take s.th.toNat) H6 n_,lG r.length _ ((r.drop s.th.toNat).take s.el.toNat) H6 n_,lG r.length _ (r.drop (s.th.toNat+s.el.toNat)) i_ n_];rfl
def lH(s:St)(a b:List St):(aV s a b).length<=1+a.length+b.length:=by
 unfold aV;split;split;split <;> omega
 simp;omega
 split;split
 simp
 simp;omega
 simp;omega
def zP(r:List St)(i j:Nat):(r.take i).length+((r.drop i).take j).length+(r.drop (i+j)).length<=r.length:=by simp only[length_take,length_drop];omega
theorem fW:∀(N:Nat) (l:List St),l.length<=N->(aM l).length<=l.length
 | 0,l,h=>by
  have:l=[]:=J3 o_
  subst this;simp[gP]
 | N+1,[],h=>by simp[gP]
 | N+1,s::r,h=>by simp only[l_c]at h;rw[tidyB_cons];have h1:=fW N (r.take s.th.toNat) H6;have h2:=fW N ((r.drop s.th.toNat).take s.el.toNat) H6;have h3:=fW N (r.drop (s.th.toNat+s.el.toNat)) H6;have h4:=lH s (aM (r.take s.th.toNat)) (aM ((r.drop s.th.toNat).take s.el.toNat));have h5:=zP r s.th.toNat s.el.toNat;split;unfold gX;simp only[l_c];omega;rw[l_a];unfold gX;simp only[l_c];omega
def jA(l:List St)(x:St):Prop:=∃s∈l,x.kd=s.kd/\x.nm=s.nm/\x.e=s.e/\x.f=s.f
def jA.mono{I:List St}{x:St}(h:jA l x)(U:∀s∈l,s∈I):jA I x:=by obtain⟨s,J,h2⟩:=h;exact⟨s,U s J,h2⟩
def wG{s:St}{a b:List St}(J:s∈l)(h:∀x∈a,jA l x)(I:∀x∈b,jA l x):∀x∈aV s a b,jA l x:=by
 have Ja:∀x∈({s with th:=a.length,el:=b.length}:St)::(a++b),jA l x:=by intro x hx;rcases mem_cons.1 hx with rfl|hx;exact⟨s,J,rfl,rfl,rfl,rfl⟩;rcases J5.1 hx with hx|hx;exact h x hx;exact I x hx
 unfold aV;split;split;split;exact I;exact h;exact Ja;split;split;intro x hx;cases hx;exact Ja;exact Ja
theorem gY:∀(N:Nat) (l:List St),l.length<=N->∀x∈aM l,jA l x
 | 0,l,h=>by
  have:l=[]:=J3 o_
  subst this;intro x hx;cases hx
 | N+1,[],h=>by intro x hx;cases hx
 | N+1,s::r,h=>by simp only[l_c]at h;rw[tidyB_cons];have h1:=gY N (r.take s.th.toNat) H6;have h2:=gY N ((r.drop s.th.toNat).take s.el.toNat) H6;have h3:=gY N (r.drop (s.th.toNat+s.el.toNat)) H6;have hm:∀x∈gX s r,jA (s::r) x:=wG i_ (λx hx=>(h1 x hx).mono λy hy=>m_ _ (mem_of_mem_take hy)) (λx hx=>(h2 x hx).mono λy hy=>m_ _ (J6 (mem_of_mem_take hy)));split;exact hm;intro x hx;rcases J5.1 hx with hx|hx;exact hm x hx;exact(h3 x hx).mono λy hy=>m_ _ (J6 hy)
end
section
variable{l:List St}{k:Nat}
def aK:List St->Nat
 | []=>0
 | s::r=>s.e.length+s.f.length+aK r
theorem nodeSum_append(a b:List St):aK (a++b)=aK a+aK b:=by
 induction a with
 | nil=>simp[aK]
 | cons s r ih=>simp[aK,ih];omega
def kN(l:List St)(k:Nat)(h:k<l.length):aK (l.take (k+1))=aK (l.take k)+l[k].e.length+l[k].f.length:=by rw[aU l k h,nodeSum_append];simp[aK];omega
def wH(l:List St)(k:Nat):aK (l.take k)<=aK l:=by
 have:=nodeSum_append (l.take k) (l.drop k)
 rw[take_append_drop]at this;omega
def stmtsB(p:St->Bool)(l:List St):Bool:=decide (aK l<=2000)&&l.all p
def oB{p:St->Bool}(h:2000<aK (l.take k)):stmtsB p l=false:=by
 have:=wH l k
 simp only[stmtsB,decide_eq_false (show ¬aK l<=2000 by omega),Bool.false_and]
def oC{p:St->Bool}(I:k<l.length)(h:p l[k]=false):stmtsB p l=false:=by
 have:l.all p=false:=by rw[all_eq_false];exact⟨l[k],g_ I,by simp[h]⟩
 simp[stmtsB,this]
def qI{p:St->Bool}(h:aK l<=2000)(h2:∀s∈l,p s=true):stmtsB p l=true:=by
 have:l.all p=true:=all_eq_true.2 h2
 simp[stmtsB,this,h]
def yp{p:Io->Bool}{l:List Io}(I:k<l.length)(h:p l[k]=false):l.all p=false:=by rw[all_eq_false];exact⟨l[k],g_ I,by simp[h]⟩
def cC(f:Fu):Bool:=bh f.nm&&(decide (f.pm.length<=6)&&(decide (f.bd.length<=500)&&(f.pm.all bh&&(stmtsB stmtB f.bd&&bw f.bd))))
def bH(s:St):Bool:=stmtB s&&decide (0<=s.th/\0<=s.el)
def wI(l:List St):(stmtsB bH l&&bw l)=(stmtsB stmtB l&&bw l):=by
 cases h:bw l
 simp
 have J:=BN l.length l n_ h;have:l.all bH=l.all stmtB:=by apply Bool.eq_iff_iff.2;rw[all_eq_true,all_eq_true];constructor;intro h s I;have:=h s I;simp only[bH,J1]at this;exact this.1;intro h s I;simp only[bH,J1,J2];exact⟨h s I,J s I⟩
 simp only[stmtsB,this]
def qi(h:∀s∈l,bH s=true):∀s∈l,0<=s.th/\0<=s.el:=by intro s I;have:=h s I;simp only[bH,J1,J2]at this;exact this.2
def dD(g:Gl):Bool:=bh g.nm&&decide (0<=g.size/\g.size<=4000)
def cM(t:Tr):Bool:=decide (t.gl.length<=50)&&(decide (t.fc.length<=50)&&(t.gl.all dD&&t.fc.all cC))
def tT{l:List Gl}(I:k<l.length)(h:dD l[k]=false):l.all dD=false:=by rw[all_eq_false];exact⟨l[k],g_ I,by simp[h]⟩
def tU{l:List Fu}(I:k<l.length)(h:cC l[k]=false):l.all cC=false:=by rw[all_eq_false];exact⟨l[k],g_ I,by simp[h]⟩
def gE(s:St):Prop:=s.e.length<=1048576/\s.f.length<=1048576
def fk(f:Fu):Prop:=f.pm.length<=1048576/\f.bd.length<=1048576/\∀s∈f.bd,gE s
def eQ(t:Tr):Prop:=t.gl.length<=1048576/\t.fc.length<=1048576/\∀f∈t.fc,fk f
end
section
variable{α:Type}{left:Int}{n:Nat}
def ID(ns:List Nd):Prop:=ns.length<=9223372036854775807/\∀n∈ns,n.nm.size<=9223372036854775807
def tV(s:St):Prop:=s.nm.size<=9223372036854775807/\ID s.e/\ID s.f
def JA(ss:List St):Prop:=ss.length<=9223372036854775807/\∀s∈ss,tV s
def JB(ps:List Io):Prop:=ps.length<=9223372036854775807/\∀s∈ps,s.size<=9223372036854775807
def EE(f:Fu):Prop:=f.nm.size<=9223372036854775807/\JB f.pm/\JA f.bd
def wJ(fs:List Fu):Prop:=fs.length<=9223372036854775807/\∀f∈fs,EE f
def JC(gs:List Gl):Prop:=gs.length<=9223372036854775807/\∀g∈gs,g.nm.size<=9223372036854775807
def yq(t:Tr):Prop:=JC t.gl/\wJ t.fc
end
end Go.Proofs.YtjfmapphpijneaaGreatDoor
